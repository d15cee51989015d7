import Derived.Test.YtdcdgopblbmgoaaGreatDoorPM2
/-
  The law's markings of what the program has read: phis.
-/
namespace Go.Proofs.YtdcdgopblbmgoaaGreatDoor
open Go.RowKit

/-- The numbers of arguments of phis. -/
def lens (xs : List Ph) : List Nat := xs.map fun p => p.args.length
theorem lens_len (xs : List Ph) : (lens xs).length = xs.length := by simp [lens]
theorem lens_get (xs : List Ph) (i : Nat) (h : i < (lens xs).length) : (lens xs)[i] = (xs[i]'(by rw [lens_len] at h; exact h)).args.length := by simp [lens]
def PhsMarked (w : World) (L B : Nat) (pa : Option Addr) (k : Int) (ls : List Nat) : Prop := ∀ i (h : i < ls.length), ∃ g a c, pa = some ⟨g, 0, none⟩ ∧ (L ≤ g ∧ g < B) ∧ w.cell? ⟨g, i * 2, none⟩ = some (.int .i64 (k + (phCnt (ls.take i) : Nat))) ∧ w.cell? ⟨g, i * 2 + 1, none⟩ = some (.slice a ls[i] c) ∧ IntsAt w L B a (marks (k + (phCnt (ls.take i) : Nat) + 1) ls[i])
theorem PhsMarked.keepS {w w' : World} {L B : Nat} {pa : Option Addr} {k : Int} {ls : List Nat} (h : PhsMarked w L B pa k ls) (s : Same L B w w') : PhsMarked w' L B pa k ls := fun i hi => by
  obtain ⟨g, a, c, e, hg, h1, h2, h3⟩ := h i hi
  have q := s g hg.1 hg.2
  exact ⟨g, a, c, e, hg, (cell_of q).trans h1, (cell_of q).trans h2, h3.keepS s⟩
theorem PhsMarked.mono {w : World} {L B L' B' : Nat} {pa : Option Addr} {k : Int} {ls : List Nat} (h : PhsMarked w L B pa k ls) (q1 : L' ≤ L) (q2 : B ≤ B') : PhsMarked w L' B' pa k ls := fun i hi => by
  obtain ⟨g, a, c, e, hg, h1, h2, h3⟩ := h i hi
  exact ⟨g, a, c, e, by omega, h1, h2, h3.mono q1 q2⟩
/-- The phis below j are marked. -/
structure PhMk (w wr : World) (L B g : Nat) (k : Int) (xs : List Ph) (j : Nat) : Prop where
  iw : IW L B w wr
  got : ∀ q (_ : q < xs.length), q < j → ∀ a c, w.cell? ⟨g, q * 2 + 1, none⟩ = some (.slice a xs[q].args.length c) → wr.cell? ⟨g, q * 2, none⟩ = some (.int .i64 (k + (phCnt ((lens xs).take q) : Nat))) ∧ IntsAt wr L B a (marks (k + (phCnt ((lens xs).take q) : Nat) + 1) xs[q].args.length)
/-- A row of arguments, as narrow as it is. -/
theorem ArgsSep.narrow {w : World} {L B g : Nat} {lab : Nat → Nat} {i : Nat} {a : Option Addr} {vs : List Int} (h : ArgsSep w L B g lab i a vs) : ∃ bl bh, IntsAt w bl bh a vs ∧ ThawB bl bh w ∧ ∀ b, bl ≤ b → b < bh → (L ≤ b ∧ b < B) ∧ b ≠ g ∧ lab b = i := by
  by_cases h0 : 0 < vs.length
  · obtain ⟨b, o, e, hb, hne, hl, hz, hc⟩ := h 0 h0
    refine ⟨b, b + 1, fun j hj => ?_, fun b' q hb' => ?_, fun b' h1 h2 => ?_⟩
    · obtain ⟨b', o', e', _, _, _, _, hc'⟩ := h j hj
      rw [e] at e'
      cases e'
      exact ⟨b, o, e, by omega, hc'⟩
    · have : b' = b := by omega
      subst this
      exact hz q
    · have : b' = b := by omega
      subst this
      exact ⟨hb, hne, hl⟩
  · exact ⟨0, 0, fun j hj => absurd hj (by omega), fun b q hb => absurd hb.2 (by omega), fun b _ h2 => absurd h2 (by omega)⟩
theorem PhMk.next {w wr w2 : World} {L B g : Nat} {lab : Nat → Nat} {k : Int} {xs : List Ph} {j : Nat} (h : PhMk w wr L B g k xs j) (hj : j < xs.length)
    (hs : ∀ i (h : i < xs.length), ∃ a c, w.cell? ⟨g, i * 2, none⟩ = some (.int .i64 xs[i].dst) ∧ w.cell? ⟨g, i * 2 + 1, none⟩ = some (.slice a xs[i].args.length c) ∧ ArgsSep w L B g lab i a xs[i].args)
    (hg : L ≤ g ∧ g < B) {bl bh : Nat} (hbl : ∀ b, bl ≤ b → b < bh → (L ≤ b ∧ b < B) ∧ b ≠ g ∧ lab b = j) {a : Option Addr} {c : Nat} (ha : w.cell? ⟨g, j * 2 + 1, none⟩ = some (.slice a xs[j].args.length c)) {u : Int} (hu : wr.cell? ⟨g, j * 2, none⟩ = some (.int .i64 u))
    {K : Int} (hK : K = k + (phCnt ((lens xs).take j) : Nat)) (hiw : IW bl bh (wr.setCell ⟨g, j * 2, none⟩ (.int .i64 K)) w2) (hin : IntsAt w2 bl bh a (marks (K + 1) xs[j].args.length)) : PhMk w w2 L B g k xs (j + 1) := by
  have i1 := h.iw.set hg hu K
  have i2 := i1.trans (hiw.widen (fun b h1 h2 => (hbl b h1 h2).1))
  have kg : w2.heap[g]? = (wr.setCell ⟨g, j * 2, none⟩ (.int .i64 K)).heap[g]? := hiw.block g (fun q => (hbl g q.1 q.2).2.1 rfl)
  refine ⟨i2, fun q hq hqj a' c' hc' => ?_⟩
  by_cases e : q = j
  · subst e
    rw [ha] at hc'
    cases hc'
    subst hK
    refine ⟨(cell_of kg).trans (World.cell?_setCell_same _ _ _ hu), fun i hi => ?_⟩
    obtain ⟨b, o, e, hb, hc⟩ := hin i hi
    exact ⟨b, o, e, (hbl b hb.1 hb.2).1, hc⟩
  · obtain ⟨m1, m2⟩ := h.got q hq (by omega) a' c' hc'
    refine ⟨(cell_of kg).trans ((oth _ _ (by omega) _).trans m1), fun i hi => ?_⟩
    obtain ⟨b, o, eb, hb, hc⟩ := m2 i hi
    obtain ⟨a3, c3, _, q2, q3⟩ := hs q hq
    rw [q2] at hc'
    cases hc'
    rw [marks_len] at hi
    obtain ⟨b', o', e', _, hne, hl, _⟩ := q3 i hi
    rw [eb] at e'
    cases e'
    refine ⟨b, o, eb, hb, ?_⟩
    have k1 := hiw.block b (fun z => by have := (hbl b z.1 z.2).2.2; omega)
    have k2 : (wr.setCell ⟨g, j * 2, none⟩ (.int .i64 K)).heap[b]? = wr.heap[b]? := Below.heap_setCell _ _ _ _ hne
    exact (cell_of (k1.trans k2)).trans hc

set_option maxHeartbeats 2000000 in
theorem markPhis_sep (a : Option Addr) (n c : Nat) (k : Int) (xs : List Ph) (L B : Nat) (w : World) (ha : Hid (PhsSep w L B a xs)) (hx : Hid (n = xs.length)) (hl : Hid (∀ p ∈ xs, p.args.length ≤ 1048576)) (hn : n ≤ 1048576) (h0 : 0 ≤ k) (h1 : k ≤ 100000000) (h2 : phCnt (lens xs) ≤ 100000000) :
    Calls Tryz.prog 67 #[.slice a n c, .int .i64 k] w fun e w' => e = .returned (.int .i64 (k + phCnt (lens xs))) ∧ IW L B w w' ∧ PhsMarked w' L B a k (lens xs) := by
  by_cases hn0 : n = 0
  · have hxe : xs = [] := List.eq_nil_of_length_eq_zero (by have := hx.out; omega)
    subst hxe hn0
    go_enter Tryz.func67, Tryz.ntmps67
    go_wp2
    go_loopw [1, 5] (fun u i wr => i = .int .i64 0 ∧ u = .int .i64 k ∧ wr = w) (fun _ _ _ => 0)
    case atStart => exact ⟨rfl, rfl, rfl⟩
    case round =>
      obtain ⟨rfl, rfl, rfl⟩ := hrel
      go_wp2
      go_ret
      exact ⟨ret_int (by simp [lens, phCnt]), IW.refl _ _ _, fun i hi => absurd hi (by simp [lens])⟩
  obtain ⟨lab, hs⟩ := ha.out
  obtain ⟨g, a0, c0, rfl, hg, hz, -⟩ := hs 0 (by have := hx.out; omega)
  have HS : Hid (∀ i (h : i < xs.length), ∃ a c, w.cell? ⟨g, i * 2, none⟩ = some (.int .i64 xs[i].dst) ∧ w.cell? ⟨g, i * 2 + 1, none⟩ = some (.slice a xs[i].args.length c) ∧ ArgsSep w L B g lab i a xs[i].args) := hide (fun i hi => by
    obtain ⟨g', a, c, e, _, _, q1, q2, q3⟩ := hs i hi
    cases e
    exact ⟨a, c, q1, q2, q3⟩)
  have HZ := hide hz
  clear hs ha hz
  go_enter Tryz.func67, Tryz.ntmps67
  go_wp2
  go_loopw [1, 5] (fun u i wr => ∃ j : Nat, j ≤ n ∧ i = .int .i64 j ∧ u = .int .i64 (k + (phCnt ((lens xs).take j) : Nat)) ∧ Hid (PhMk w wr L B g k xs j)) (fun _ i _ => n - (intOf i).toNat)
  case atStart => exact ⟨0, Nat.zero_le _, rfl, by simp [phCnt], IW.refl _ _ _, fun q _ hq => absurd hq (by omega)⟩
  case round =>
    obtain ⟨j, hj, rfl, rfl, hw⟩ := hrel
    by_cases hlt : j < n
    · have hjx : j < xs.length := by have := hx.out; omega
      obtain ⟨aa, cc, e0w, e1w, hsp⟩ := HS.out j hjx
      obtain ⟨u0, e0⟩ := hw.out.iw.int e0w
      have e1 := hw.out.iw.slice e1w
      obtain ⟨bl, bh, hi, htw, hbl⟩ := hsp.narrow
      have hal := hl.out _ (List.getElem_mem hjx)
      have f0 := (hw.out.iw.frozen ⟨g, j * 2, none⟩).trans (HZ.out (j * 2))
      have hS : Hid (phCnt ((lens xs).take (j + 1)) = phCnt ((lens xs).take j) + (xs[j].args.length + 1)) := by
        show _ = _
        rw [take_next _ _ (by rw [lens_len]; exact hjx), phCnt_snoc, lens_get]
      have hb2 : phCnt ((lens xs).take j) + (xs[j].args.length + 1) ≤ 100000000 := by
        have h3 := hS.out
        have h4 := phCnt_take (lens xs) (j + 1)
        omega
      have HW1 := hide e1w
      have HI := hide hi
      have HTW := hide htw
      have HBL := hide hbl
      have E1 := hide e1
      have HE0 := hide e0
      have HQ : Hid (∀ (S : Nat) (w2 : World), S = phCnt ((lens xs).take j) → IW bl bh (wr.setCell ⟨g, j * 2, none⟩ (.int .i64 (k + S))) w2 → IntsAt w2 bl bh aa (marks (k + S + 1) xs[j].args.length) → PhMk w w2 L B g k xs (j + 1)) := hide (fun S w2 hS hiw hin => hw.out.next hjx HS.out hg hbl e1w e0 (by rw [hS]) hiw hin)
      clear hsp hi htw hbl e1w e0w
      generalize hSS : phCnt ((lens xs).take j) = S at *
      have HSS := hide hSS
      generalize hMM : xs[j].args.length = m at *
      have HMM := hide hMM
      clear hSS hMM
      go_wp2_with fail
      obtain ⟨zs, hzl, hz2⟩ := HI.out.iw (L' := L) (B' := B) (hw.out.iw.set hg HE0.out (k + S))
      refine (markInts_any _ _ _ _ zs bl bh _ (hide hz2) (by show _ = _; have := HMM.out; omega) (hide ((hw.out.iw.set hg HE0.out (k + S)).thawB HTW.out)) (by omega) (by omega) (by omega)).mono ?_
      rintro e w2 ⟨rfl, hiw, hin⟩
      have HN := hide (HQ.out S w2 rfl hiw hin)
      clear hiw hin
      go_wp2
      exact ⟨⟨j + 1, by omega, by go_num, by rw [hS.out]; go_num, HN.out⟩, by simp [intOf]; omega⟩
    · have hjn : j = n := by omega
      subst hjn
      have E : Hid ((lens xs).take j = lens xs) := hide (List.take_of_length_le (by have := hx.out; rw [lens_len]; omega))
      go_wp2
      go_ret
      refine ⟨ret_int (by rw [E.out]), hw.out.iw, fun i hi => ?_⟩
      have hi' : i < xs.length := by rw [lens_len] at hi; exact hi
      obtain ⟨a3, c3, q1, q2, q3⟩ := HS.out i hi'
      obtain ⟨m1, m2⟩ := hw.out.got i hi' (by have := hx.out; omega) a3 c3 q2
      refine ⟨g, a3, c3, rfl, hg, m1, ?_, ?_⟩
      · rw [lens_get]; exact hw.out.iw.slice q2
      · rw [lens_get]; exact m2

set_option maxHeartbeats 1000000 in
theorem heldPhis_any (a : Option Addr) (n c : Nat) (k : Int) (ls : List Nat) (L B : Nat) (w : World) (ha : Hid (PhsMarked w L B a k ls)) (hx : Hid (n = ls.length)) (hl : Hid (∀ l ∈ ls, l ≤ 1048576)) (hn : n ≤ 1048576) (h0 : 0 ≤ k) (h1 : k ≤ 100000000) (h2 : phCnt ls ≤ 100000000) :
    Calls Tryz.prog 69 #[.slice a n c, .int .i64 k] w fun e w' => e = .returned (.int .i64 (k + phCnt ls)) ∧ w' = w := by
  go_enter Tryz.func69, Tryz.ntmps69
  go_wp2
  go_loopw [1, 5] (fun u i wr => ∃ j : Nat, j ≤ n ∧ i = .int .i64 j ∧ u = .int .i64 (k + (phCnt (ls.take j) : Nat)) ∧ wr = w) (fun _ i _ => n - (intOf i).toNat)
  case atStart => exact ⟨0, Nat.zero_le _, rfl, by simp [phCnt], rfl⟩
  case round =>
    obtain ⟨j, hj, rfl, rfl, rfl⟩ := hrel
    by_cases hlt : j < n
    · have hjx : j < ls.length := by have := hx.out; omega
      obtain ⟨g, aa, cc, rfl, -, e0, e1, hi⟩ := ha.out j hjx
      have hal := hl.out _ (List.getElem_mem hjx)
      have hS : Hid (phCnt (ls.take (j + 1)) = phCnt (ls.take j) + (ls[j] + 1)) := by
        show _ = _
        rw [take_next _ _ hjx, phCnt_snoc]
      have hb2 : phCnt (ls.take j) + (ls[j] + 1) ≤ 100000000 := by
        have h3 := hS.out
        have h4 := phCnt_take ls (j + 1)
        omega
      have HI := hide hi
      clear hi
      generalize phCnt (ls.take j) = S at *
      generalize ls[j] = m at *
      have hge : ¬ (k + (S : Int) + 1 + (m : Int) < 0) := by omega
      go_wp2_with (go_at_call 88; refine (heldInts_any _ _ _ _ L B _ HI (by omega) (by omega) (by omega)).mono ?_; rintro e w2 ⟨rfl, hw2⟩; rw [hw2]; clear hw2 w2)
      exact ⟨⟨j + 1, by omega, by go_num, by rw [hS.out]; go_num, (by first | rfl | trivial)⟩, by simp [intOf]; omega⟩
    · have hjn : j = n := by omega
      subst hjn
      have E := hide (List.take_of_length_le (l := ls) (i := j) (by have := hx.out; omega))
      go_wp2
      go_ret
      exact ⟨ret_int (by rw [E.out]), rfl⟩
end Go.Proofs.YtdcdgopblbmgoaaGreatDoor

/-
  The law's markings of what the program has read: blocks.
-/
namespace Go.Proofs.YtdcdgopblbmgoaaGreatDoor
open Go.RowKit

def mkTer (k : Int) : Ter := ⟨k, k + 1, k + 2, k + 3⟩
theorem set4_at {w : World} {g o : Nat} {x : Ter} (h : TerAt w g o x) (v0 v1 v2 v3 : Int) : TerAt ((((w.setCell ⟨g, o, none⟩ (.int .i64 v0)).setCell ⟨g, o + 1, none⟩ (.int .i64 v1)).setCell ⟨g, o + 2, none⟩ (.int .i64 v2)).setCell ⟨g, o + 3, none⟩ (.int .i64 v3)) g o ⟨v0, v1, v2, v3⟩ := by
  obtain ⟨e0, e1, e2, e3⟩ := h
  refine ⟨?_, ?_, ?_, ?_⟩ <;> simp [e0, e1, e2, e3, go_sem]
theorem set4_cell {w : World} {g o o' : Nat} (hd : o' < o ∨ o + 3 < o') (v0 v1 v2 v3 : Int) : ((((w.setCell ⟨g, o, none⟩ (.int .i64 v0)).setCell ⟨g, o + 1, none⟩ (.int .i64 v1)).setCell ⟨g, o + 2, none⟩ (.int .i64 v2)).setCell ⟨g, o + 3, none⟩ (.int .i64 v3)).cell? ⟨g, o', none⟩ = w.cell? ⟨g, o', none⟩ := by
  rw [oth _ _ (by omega), oth _ _ (by omega), oth _ _ (by omega), oth _ _ (by omega)]
theorem set4_far {w : World} {g o b : Nat} (hb : b ≠ g) (v0 v1 v2 v3 : Int) : ((((w.setCell ⟨g, o, none⟩ (.int .i64 v0)).setCell ⟨g, o + 1, none⟩ (.int .i64 v1)).setCell ⟨g, o + 2, none⟩ (.int .i64 v2)).setCell ⟨g, o + 3, none⟩ (.int .i64 v3)).heap[b]? = w.heap[b]? := by
  rw [Below.heap_setCell _ _ _ _ hb, Below.heap_setCell _ _ _ _ hb, Below.heap_setCell _ _ _ _ hb, Below.heap_setCell _ _ _ _ hb]
/-- Where the marks of a block begin. -/
def mkAt (k : Int) (xs : List Blk) (q : Nat) : Int := k + (shsCnt ((xs.map Blk.sh).take q) : Nat)
/-- A block whose numbers are marks from K on. -/
structure BkM (wr : World) (L B G q : Nat) (K : Int) (x : Blk) (pa ia : Option Addr) : Prop where
  p : PhsMarked wr L B pa K (lens x.phis)
  i : InsMarked wr L B ia (K + (phCnt (lens x.phis) : Nat)) x.instrs.length
  t : TerAt wr G (q * 6 + 2) (mkTer (K + (phCnt (lens x.phis) : Nat) + 5 * (x.instrs.length : Nat)))
structure BkMk (w wr : World) (L B G : Nat) (k : Int) (xs : List Blk) (Ls Bs : Nat → Nat) (j : Nat) : Prop where
  iw : IW L B w wr
  got : ∀ q (_ : q < xs.length), q < j → ∀ pa pc ia ic, w.cell? ⟨G, q * 6, none⟩ = some (.slice pa xs[q].phis.length pc) → w.cell? ⟨G, q * 6 + 1, none⟩ = some (.slice ia xs[q].instrs.length ic) → BkM wr (Ls q) (Bs q) G q (mkAt k xs q) xs[q] pa ia
  rest : ∀ q, j ≤ q → q < xs.length → Same (Ls q) (Bs q) w wr
theorem BkMk.next {w wr w2 w3 : World} {L B G : Nat} {k : Int} {xs : List Blk} {Ls Bs : Nat → Nat} {j : Nat} (h : BkMk w wr L B G k xs Ls Bs j) (hq : Clo2 w L B G xs Ls Bs) (hG : L ≤ G ∧ G < B) (hj : j < xs.length) {M : Nat} {pa ia : Option Addr} {pc ic : Nat} (hM : Ls j ≤ M ∧ M ≤ Bs j)
    (c0 : w.cell? ⟨G, j * 6, none⟩ = some (.slice pa xs[j].phis.length pc)) (c1 : w.cell? ⟨G, j * 6 + 1, none⟩ = some (.slice ia xs[j].instrs.length ic))
    (i2 : IW (Ls j) M wr w2) (m2 : PhsMarked w2 (Ls j) M pa (mkAt k xs j) (lens xs[j].phis)) (i3 : IW M (Bs j) w2 w3) (m3 : InsMarked w3 M (Bs j) ia (mkAt k xs j + (phCnt (lens xs[j].phis) : Nat)) xs[j].instrs.length) {T : Ter} (t : TerAt w3 G (j * 6 + 2) T) (v0 v1 v2 v3 : Int)
    (e0 : v0 = mkAt k xs j + (phCnt (lens xs[j].phis) : Nat) + 5 * (xs[j].instrs.length : Nat)) (e1 : v1 = v0 + 1) (e2 : v2 = v0 + 2) (e3 : v3 = v0 + 3) :
    BkMk w ((((w3.setCell ⟨G, j * 6 + 2, none⟩ (.int .i64 v0)).setCell ⟨G, j * 6 + 2 + 1, none⟩ (.int .i64 v1)).setCell ⟨G, j * 6 + 2 + 2, none⟩ (.int .i64 v2)).setCell ⟨G, j * 6 + 2 + 3, none⟩ (.int .i64 v3)) L B G k xs Ls Bs (j + 1) := by
  obtain ⟨q1, q2, _, _⟩ := hq.at_ j hj
  have nG : ∀ q (hq' : q < xs.length), ¬ (Ls q ≤ G ∧ G < Bs q) := fun q hq' => (hq.at_ q hq').2.1
  have i23 : IW L B wr w3 := (i2.widen (fun b _ _ => by omega)).trans (i3.widen (fun b _ _ => by omega))
  obtain ⟨t0, t1, t2, t3⟩ := t
  have out : ∀ q, q < xs.length → q ≠ j → Same (Ls q) (Bs q) wr w3 := fun q hq' hne b b1 b2 => by
    have hd : Bs q ≤ Ls j ∨ Bs j ≤ Ls q := by
      rcases Nat.lt_or_ge q j with hlt | hge
      · exact Or.inl (hq.ord q j hlt hj)
      · exact Or.inr (hq.ord j q (by omega) hq')
    exact (i3.block b (by omega)).trans (i2.block b (by omega))
  have far : ∀ q, q < xs.length → Same (Ls q) (Bs q) w3 ((((w3.setCell ⟨G, j * 6 + 2, none⟩ (.int .i64 v0)).setCell ⟨G, j * 6 + 2 + 1, none⟩ (.int .i64 v1)).setCell ⟨G, j * 6 + 2 + 2, none⟩ (.int .i64 v2)).setCell ⟨G, j * 6 + 2 + 3, none⟩ (.int .i64 v3)) := fun q hq' b b1 b2 => set4_far (fun e => nG q hq' (by omega)) _ _ _ _
  have kG : w3.heap[G]? = wr.heap[G]? := (i3.block G (fun z => nG j hj (by omega))).trans (i2.block G (fun z => nG j hj (by omega)))
  refine ⟨(h.iw.trans i23).set4 hG t0 t1 t2 t3 _ _ _ _, fun q hq' hqj pa' pc' ia' ic' d0 d1 => ?_, fun q hjq hq' b b1 b2 => ?_⟩
  · by_cases e : q = j
    · subst e
      rw [c0] at d0
      rw [c1] at d1
      cases d0
      cases d1
      refine ⟨((m2.keepS (fun b b1 b2 => i3.block b (by omega))).mono (Nat.le_refl _) hM.2).keepS (far q hq'), (m3.mono hM.1 (Nat.le_refl _)).keepS (far q hq'), ?_⟩
      have q4 := set4_at (w := w3) (g := G) (o := q * 6 + 2) (x := T) ⟨t0, t1, t2, t3⟩ v0 v1 v2 v3
      subst e1 e2 e3 e0
      exact q4
    · obtain ⟨m1, m2', ⟨s0, s1, s2, s3⟩⟩ := h.got q hq' (by omega) pa' pc' ia' ic' d0 d1
      have sm : Same (Ls q) (Bs q) wr _ := fun b b1 b2 => (far q hq' b b1 b2).trans (out q hq' e b b1 b2)
      refine ⟨m1.keepS sm, m2'.keepS sm, ?_, ?_, ?_, ?_⟩
      · exact (set4_cell (by omega) _ _ _ _).trans ((cell_of kG).trans s0)
      · exact (set4_cell (by omega) _ _ _ _).trans ((cell_of kG).trans s1)
      · exact (set4_cell (by omega) _ _ _ _).trans ((cell_of kG).trans s2)
      · exact (set4_cell (by omega) _ _ _ _).trans ((cell_of kG).trans s3)
  · exact (far q hq' b b1 b2).trans ((out q hq' (by omega) b b1 b2).trans (h.rest q (by omega) hq' b b1 b2))
def BlksMarked (w : World) (va : Option Addr) (k : Int) (xs : List Blk) : Prop := ∀ i (_ : i < xs.length), ∃ G L B pa pc ia ic, va = some ⟨G, 0, none⟩ ∧ w.cell? ⟨G, i * 6, none⟩ = some (.slice pa xs[i].phis.length pc) ∧ w.cell? ⟨G, i * 6 + 1, none⟩ = some (.slice ia xs[i].instrs.length ic) ∧ BkM w L B G i (mkAt k xs i) xs[i] pa ia

set_option maxHeartbeats 4000000 in
theorem markBlocks_sep (a : Option Addr) (n c : Nat) (k : Int) (xs : List Blk) (L B : Nat) (w : World) (ha : Hid (BlksSep w L B a xs)) (hx : Hid (n = xs.length)) (hl : Hid (BlkLen xs)) (hn : n ≤ 1048576) (h0 : 0 ≤ k) (h1 : k ≤ 10000000) (h2 : shsCnt (xs.map Blk.sh) ≤ 10000000) :
    Calls Tryz.prog 48 #[.slice a n c, .int .i64 k] w fun e w' => e = .returned (.int .i64 (k + shsCnt (xs.map Blk.sh))) ∧ IW L B w w' ∧ BlksMarked w' a k xs := by
  by_cases hn0 : n = 0
  · have hxe : xs = [] := List.eq_nil_of_length_eq_zero (by have := hx.out; omega)
    subst hxe hn0
    go_enter Tryz.func48, Tryz.ntmps48
    go_wp2
    go_loopw [1, 5] (fun u i wr => i = .int .i64 0 ∧ u = .int .i64 k ∧ wr = w) (fun _ _ _ => 0)
    case atStart => exact ⟨rfl, rfl, rfl⟩
    case round =>
      obtain ⟨rfl, rfl, rfl⟩ := hrel
      go_wp2
      go_ret
      exact ⟨ret_int (by simp [shsCnt]), IW.refl _ _ _, fun i hi => absurd hi (by simp)⟩
  obtain ⟨G, Ls, Bs, rfl, hG, hz, hcl⟩ : ∃ G Ls Bs, a = some ⟨G, 0, none⟩ ∧ (L ≤ G ∧ G < B) ∧ Fz w G ∧ Clo2 w L B G xs Ls Bs := by
    rcases ha.out with rfl | h
    · exact absurd hx.out (by simpa using hn0)
    · exact h
  have HZ := hide hz
  have HCL := hide hcl
  clear ha hz hcl
  go_enter Tryz.func48, Tryz.ntmps48
  go_wp2
  go_loopw [1, 5] (fun u i wr => ∃ j : Nat, j ≤ n ∧ i = .int .i64 j ∧ u = .int .i64 (mkAt k xs j) ∧ Hid (BkMk w wr L B G k xs Ls Bs j)) (fun _ i _ => n - (intOf i).toNat)
  case atStart => exact ⟨0, Nat.zero_le _, rfl, by simp [mkAt, shsCnt], IW.refl _ _ _, fun q _ hq => absurd hq (by omega), fun q _ _ b _ _ => rfl⟩
  case round =>
    obtain ⟨j, hj, rfl, rfl, hw⟩ := hrel
    by_cases hlt : j < n
    · have hjx : j < xs.length := by have := hx.out; omega
      obtain ⟨hLB, hnG, ⟨pa, pc, ia, ic, M, hM, c0, c1, htr, hps, his⟩, -⟩ := HCL.out.at_ j hjx
      have hS : Hid (mkAt k xs (j + 1) = mkAt k xs j + (shCnt xs[j].sh : Nat)) := by
        show _ = _
        unfold mkAt
        rw [take_next _ _ (by simpa using hjx), shsCnt_snoc]
        simp
        omega
      have hb2 : mkAt k xs j + (shCnt xs[j].sh : Nat) ≤ 20000000 ∧ 0 ≤ mkAt k xs j := by
        have h3 := hS.out
        have h4 := shsCnt_take (xs.map Blk.sh) (j + 1)
        unfold mkAt at *
        omega
      obtain ⟨hl1, hl2, hl3⟩ := hl.out _ (List.getElem_mem hjx)
      have hsh : shCnt xs[j].sh = phCnt (lens xs[j].phis) + 5 * xs[j].instrs.length + 4 := rfl
      rw [hsh] at hS hb2
      have e0' := hw.out.iw.slice c0
      have e1' := hw.out.iw.slice c1
      have HP := hide (hps.keepS (w' := wr) ((hw.out.rest j (Nat.le_refl _) hjx).mono (Nat.le_refl _) hM.2))
      have HIS := hide (his.keepS (w' := wr) ((hw.out.rest j (Nat.le_refl _) hjx).mono hM.1 (Nat.le_refl _)))
      have HTR := hide htr
      have HNX : Hid (∀ w2 w3 T, IW (Ls j) M wr w2 → PhsMarked w2 (Ls j) M pa (mkAt k xs j) (lens xs[j].phis) → IW M (Bs j) w2 w3 → InsMarked w3 M (Bs j) ia (mkAt k xs j + (phCnt (lens xs[j].phis) : Nat)) xs[j].instrs.length → TerAt w3 G (j * 6 + 2) T → ∀ v0 v1 v2 v3 : Int, v0 = mkAt k xs j + (phCnt (lens xs[j].phis) : Nat) + 5 * (xs[j].instrs.length : Nat) → v1 = v0 + 1 → v2 = v0 + 2 → v3 = v0 + 3 →
        BkMk w ((((w3.setCell ⟨G, j * 6 + 2, none⟩ (.int .i64 v0)).setCell ⟨G, j * 6 + 2 + 1, none⟩ (.int .i64 v1)).setCell ⟨G, j * 6 + 2 + 2, none⟩ (.int .i64 v2)).setCell ⟨G, j * 6 + 2 + 3, none⟩ (.int .i64 v3)) L B G k xs Ls Bs (j + 1)) := hide (fun w2 w3 T i2 m2 i3 m3 t v0 v1 v2 v3 => hw.out.next HCL.out hG hjx hM c0 c1 i2 m2 i3 m3 t v0 v1 v2 v3)
      have HL3 := hide hl3
      have hpl : (lens xs[j].phis).length = xs[j].phis.length := lens_len _
      clear hps his htr c0 c1 hl3 hsh
      generalize hKK : mkAt k xs j = K at *
      have HKK := hide hKK
      clear hKK
      generalize hPP : xs[j].phis = P at *
      generalize hII : xs[j].instrs.length = m at *
      have HPP := hide hPP
      have HII := hide hII
      clear hPP hII
      go_wp2_with fail
      refine (markPhis_sep pa P.length pc K P (Ls j) M wr HP (hide rfl) HL3 (by omega) (by omega) (by omega) (by omega)).mono ?_
      rintro e w2 ⟨rfl, hi2, hm2⟩
      have c2 := hi2.slice e1'
      have HI2 := hide hi2
      have HM2 := hide hm2
      have HIS2 := hide (HIS.out.keepS (w' := w2) (fun b b1 b2 => hi2.block b (by omega)))
      clear hi2 hm2 e0' e1'
      have hpg : 0 ≤ phCnt (lens P) := Nat.zero_le _
      generalize phCnt (lens P) = S at *
      go_wp2_with fail
      refine (markInstrs_sep ia m ic (K + S) xs[j].instrs M (Bs j) w2 HIS2 (hide HII.out.symm) (by omega) (by omega) (by omega)).mono ?_
      rintro e w3 ⟨rfl, hi3, hm3⟩
      have i03 : IW L B w w3 := (hw.out.iw.trans (HI2.out.widen (fun b _ _ => by omega))).trans (hi3.widen (fun b _ _ => by omega))
      obtain ⟨T, ht3⟩ := HTR.out.iw i03
      have HN := hide (HNX.out w2 w3 T HI2.out HM2.out hi3 hm3 ht3)
      obtain ⟨t0, t1, t2, t3⟩ := ht3
      have fz := fun q => (i03.frozen ⟨G, q, none⟩).trans (HZ.out q)
      have f0 := fz (j * 6 + 2)
      have f1 := fz (j * 6 + 2 + 1)
      have f2 := fz (j * 6 + 2 + 2)
      have f3 := fz (j * 6 + 2 + 3)
      clear hi3 hm3 i03 fz c2
      go_wp2
      refine ⟨⟨j + 1, by omega, by go_num, by rw [hS.out]; go_num, hide (HN.out _ _ _ _ ?_ ?_ ?_ ?_)⟩, by simp [intOf]; omega⟩ <;> omega
    · have hjn : j = n := by omega
      subst hjn
      have E : Hid (mkAt k xs j = k + shsCnt (xs.map Blk.sh)) := hide (by unfold mkAt; rw [List.take_of_length_le (by have := hx.out; simp; omega)])
      go_wp2
      go_ret
      refine ⟨ret_int (by rw [E.out]), hw.out.iw, fun i hi => ?_⟩
      obtain ⟨-, -, ⟨pa, pc, ia, ic, M, -, c0, c1, -⟩, -⟩ := HCL.out.at_ i hi
      exact ⟨G, Ls i, Bs i, pa, pc, ia, ic, rfl, hw.out.iw.slice c0, hw.out.iw.slice c1, hw.out.got i hi (by have := hx.out; omega) pa pc ia ic c0 c1⟩
end Go.Proofs.YtdcdgopblbmgoaaGreatDoor
