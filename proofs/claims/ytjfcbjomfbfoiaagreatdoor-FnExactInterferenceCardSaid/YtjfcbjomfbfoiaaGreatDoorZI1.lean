import Derived.Test.YtjfcbjomfbfoiaaGreatDoorAL3
import Derived.Test.YtjfcbjomfbfoiaaGreatDoorLF1
namespace Go.Proofs.YtjfcbjomfbfoiaaGreatDoor
open Go.RowKit Go.Shelf
attribute [local go_sem] Oper.semAt_some
def infQ (xs : List Blk) (V i u : Nat) : Prop := meetP (allP xs V xs.length) i u ∧ u ≠ i
open Classical in
/-- Which values stand side by side with value i. -/
noncomputable def infP (xs : List Blk) (V i : Nat) : List Nat := (List.range V).filter fun u => decide (infQ xs V i u)
theorem all_ltV {xs : List Blk} {V : Nat} {l : List Nat} (h : l ∈ allP xs V xs.length) {u : Nat} (hu : u ∈ l) : u < V := by
  obtain ⟨s, hs, h1⟩ := List.mem_flatMap.1 h
  obtain ⟨i, _, rfl⟩ := (mem_side (List.mem_range.1 hs)).1 h1
  unfold ptP at hu
  exact List.mem_range.1 (List.mem_filter.1 hu).1
theorem meet_ltV {xs : List Blk} {V i u : Nat} (h : meetP (allP xs V xs.length) i u) : u < V := by
  obtain ⟨l, hl, _, hu⟩ := h
  exact all_ltV hl hu
open Classical in
theorem ls_inf {xs : List Blk} {V Kw i : Nat} {X : Nat → Nat} (hV : V ≤ 64 * Kw) (h : ∀ u, u < 64 * Kw → (hasN X u = true ↔ infQ xs V i u)) : lsN X (64 * Kw) = infP xs V i := ls_as hV h (fun _ hu => meet_ltV hu.1)
/-- While the lists are laid into the answer. -/
def OuE (wr : World) (base G2 V k : Nat) (P : Nat → List Int) : Prop := ∃ Q U, RoS wr base G2 V Q U ∧ ∀ i, i < V → Q i = if i < k then P i else []
theorem OuE.below {wr w' : World} {base G2 V k : Nat} {P : Nat → List Int} (h : OuE wr base G2 V k P) (b : Below wr.heap.size wr w') : OuE w' base G2 V k P := by
  obtain ⟨Q, U, h1, h2⟩ := h
  exact ⟨Q, U, h1.below b, h2⟩
theorem OuE.kept {wr w' : World} {base G2 V k r : Nat} {P : Nat → List Int} (h : OuE wr base G2 V k P) (hr : r < base) (hG : r ≠ G2) (g : wr.grownBy w' (some r)) : OuE w' base G2 V k P := by
  obtain ⟨Q, U, h1, h2⟩ := h
  refine ⟨Q, U, h1.kept g (fun q e => ?_), h2⟩
  injection e with e
  subst e
  exact ⟨hG, fun i hi e2 => by have := ((h1.own i hi).lt _ e2).1; omega⟩
theorem OuE.put {wr w5 : World} {base G2 V k : Nat} {P : Nat → List Int} (h : OuE wr base G2 V k P) (hb : base ≤ wr.heap.size) (b : Below wr.heap.size wr w5) {u : Value} (hu : w5.ownsRow wr.heap.size 2 1 u (P k).length ((P k).map (Value.int .i64))) : OuE (w5.setCell ⟨G2, k, none⟩ u) base G2 V (k + 1) P := by
  obtain ⟨Q, U, h1, h2⟩ := h
  refine ⟨_, _, h1.put hb b hu, fun i hi => ?_⟩
  by_cases e : i = k
  · subst e
    simp
  · simp only [e, if_false]
    rw [h2 i hi]
    by_cases h3 : i < k
    · rw [if_pos h3, if_pos (by omega)]
    · rw [if_neg h3, if_neg (by omega)]
/-- While the values of one set are gone through. -/
structure InI (w6 U : World) (b1 V Kw : Nat) (gs : Nat → Nat) (l : List (List Nat)) (z C : Nat) (W : Nat → Nat) (bp : Nat) (pre : List Nat) (V' : World) : Prop where
  ot : OtI w6 V Kw gs (fun i u => meetP l i u ∨ (i ∈ pre ∧ u ∈ lsN W (64 * Kw))) V'
  kp : KpB w6.heap.size (fun q => ∃ i, i < V ∧ q = gs i) U V'
  kf : KeepsFrom w6.heap.size U V'
  ws : WsAt V' z Kw C W
  bx : V'.cell? ⟨bp, 0, none⟩ = some (.slice (some ⟨z, 0, none⟩) Kw C)
  sz : b1 ≤ V'.heap.size
theorem InI.own {w6 U : World} {b1 V Kw : Nat} {gs : Nat → Nat} {l : List (List Nat)} {z C : Nat} {W : Nat → Nat} {bp B : Nat} (h6 : w6.heap.size ≤ U.heap.size) (hB : U.heap.size ≤ B) : OwnFrom B (InI w6 U b1 V Kw gs l z C W bp) := fun pre A V' row h k q => by
  have hs := h.ot.size
  have hk := h.kp.size
  have hb : ∀ b, b < B → b < A.heap.size → V'.heap[b]? = A.heap[b]? := fun b h1 h2 => k.block b h2 (fun e => by have := (q b e.symm).1; omega)
  have hbc : ∀ b o v, A.cell? ⟨b, o, none⟩ = some v → V'.heap[b]? = A.heap[b]? := fun b o v h1 => k.block b (World.block_lt_of_cell? A _ h1) (fun e => by
    obtain ⟨ob, h3, h4⟩ := cells_of_cell h1
    obtain ⟨_, o2, h5, h6⟩ := q b e.symm
    rw [show A.heap[b]? = some ob from h3] at h5
    injection h5 with h5
    subst h5
    rw [h4] at h6
    cases h6)
  refine ⟨h.ot.far ⟨k.os, k.tape, k.output, k.size, fun b h1 => hb b (by omega) (by omega)⟩, h.kp.far h6 (fun b h1 => hb b (by omega) (by omega)) k.size, keepsFrom_far h.kf (fun b h1 => hb b (by omega) (by omega)) k.size, ?_, (cell_of (hbc bp 0 _ h.bx)).trans h.bx, Nat.le_trans h.sz k.size⟩
  refine h.ws.of_block (k.block z h.ws.lt (fun e => ?_))
  obtain ⟨o, h4, h5⟩ := h.ws.obj
  obtain ⟨_, o2, h6, h7⟩ := q z e.symm
  rw [h4] at h6
  injection h6 with h6
  subst h6
  rw [h5] at h7
  cases h7
set_option maxHeartbeats 4000000 in
set_option maxRecDepth 100000 in
theorem infI_any (V : Nat) (a : Option Addr) (n c : Nat) (xs : List Blk) (L B : Nat) (w : World) (ha : Hid (BlksAt w L B a xs)) (hx : Hid (n = xs.length)) (hs : Hid (xs.length + blksTot xs ≤ 1048576)) (hB : B ≤ w.heap.size) (hO : Hid (OpTabW w)) (hT : Hid (TerTabW w)) (hTz : Hid (TzTab w)) (hv : Hid (validI ⟨(V : Int), xs⟩ = true)) (ho : Hid (OkL V xs)) :
    Calls Tryz.prog 24 #[.agg #[.int .i64 (V : Int), .slice a n c]] w fun e w' => PoA w w' V (fun i => natI (infP xs V i)) e := by
  have HVF := hide (fun W (hb : Below w.heap.size w W) => validFuncI_any (V : Int) a n c xs L B W (hide (ha.out.keep (hb.mono hB))) hx hs (by have := hb.size; omega) (hide (hO.out.keep hb hO.out.1).old) (hide (hT.out.keep hb hT.out.1).old))
  rw [hv.out] at HVF
  have hn : n ≤ 1000 := by have := hx.out; have := ho.out.okf.n2; omega
  have hVl := ho.out.vle
  obtain ⟨Kw, hkw⟩ : ∃ q, q = (V + 63) / 64 := ⟨_, rfl⟩
  have HKW := hide hkw
  have hKW : Kw ≤ 100 := by omega
  have hVK : V ≤ 64 * Kw := by omega
  have HNS := hide (fun W => newSets_more V V W (by omega) (by omega))
  have HN1 := hide (fun W => newSet_valueNo V W (by omega))
  simp only [← hkw] at HNS HN1
  clear hkw
  refine (callsIn_wide (n := 10)).1 ?_
  refine callsIn_of_wp_marks Tryz.func24 rfl trivial ?_ rfl
  simp only [Tryz.ntmps24, List.size_toArray, List.length_cons, List.length_nil, Nat.reduceAdd, Nat.reduceSub, Array.replicate_succ, Array.replicate_zero, List.push_toArray, List.append_toArray, List.nil_append, List.cons_append]
  gi_wp2
  refine ⟨trivial, (callsIn_wide.2 (HVF.out _ (balloc (Below.refl _ _) _))).mono ?_⟩
  rintro e w1 ⟨rfl, hb1⟩
  have g0 := (hb1.cell (p := ⟨w.heap.size, 0, none⟩) (by simp)).trans (show _ = some (.int .i64 (V : Int)) by simp)
  have g1 := (hb1.cell (p := ⟨w.heap.size, 1, none⟩) (by simp)).trans (show _ = some (.slice a n c) by simp)
  have HB1 := hide (bnext (balloc (Below.refl w.heap.size w) (.cells #[.int .i64 (V : Int), .slice a n c] 32)) hb1)
  have hzw1 : w.heap.size < w1.heap.size := World.block_lt_of_cell? w1 _ g0
  clear hb1 HVF
  gi_wp2
  refine ⟨trivial, (callsIn_wide.2 (HNS.out w1)).mono ?_⟩
  rintro e w2 ⟨G, gs, rfl, hG, hb2, hS2, hgs⟩
  have HS2 := hide hS2
  have HGS : Hid (∀ i, i < V → w1.heap.size ≤ gs i ∧ gs i < w2.heap.size) := hide (fun i hi => ⟨hgs i hi, (hS2.set i hi).lt⟩)
  have hGl : w1.heap.size ≤ G ∧ G < w2.heap.size := ⟨hG, hS2.row.lt⟩
  have HB2 := hide (bnext HB1.out hb2)
  have hz2 := hb2.size
  have h0 := (hb2.cell (p := ⟨w.heap.size, 0, none⟩) hzw1).trans g0
  have h1 := (hb2.cell (p := ⟨w.heap.size, 1, none⟩) hzw1).trans g1
  have h0a : ∀ ob, (w2.alloc ob).cell? ⟨w.heap.size, 0, none⟩ = some (.int .i64 (V : Int)) := fun ob => (World.cell?_alloc_lt w2 ob ⟨w.heap.size, 0, none⟩ (by show w.heap.size < _; omega)).trans h0
  clear hb2 hS2 hG hgs g0 g1
  gi_wp2
  have HB3 : Hid (Below w2.heap.size w2 (w2.alloc (.cells #[.slice (some ⟨G, 0, none⟩) V V] 59))) := hide (balloc (Below.refl _ _) _)
  have ho3 : (w2.alloc (.cells #[.slice (some ⟨G, 0, none⟩) V V] 59)).cell? ⟨w2.heap.size, 0, none⟩ = some (.slice (some ⟨G, 0, none⟩) V V) := by simp [go_sem]
  have hz3 : w2.heap.size + 1 ≤ (w2.alloc (.cells #[.slice (some ⟨G, 0, none⟩) V V] 59)).heap.size := by simp
  generalize w2.alloc (.cells #[.slice (some ⟨G, 0, none⟩) V V] 59) = w3 at *
  clear h0a
  refine ⟨trivial, (callsIn_wide.2 (HN1.out w3)).mono ?_⟩
  rintro e w4 ⟨gn, rfl, hgn, hb4, hr4⟩
  have HR4 := hide hr4
  have hgnl : gn < w4.heap.size := hr4.lt
  have hz4 := hb4.size
  have HB4 := hide (bnext HB3.out hb4)
  have ho4 := (hb4.cell (p := ⟨w2.heap.size, 0, none⟩) (by show w2.heap.size < _; omega)).trans ho3
  have i0 := (HB4.out.cell (p := ⟨w.heap.size, 0, none⟩) (by show w.heap.size < _; omega)).trans h0
  have i1 := (HB4.out.cell (p := ⟨w.heap.size, 1, none⟩) (by show w.heap.size < _; omega)).trans h1
  have i0a : ∀ ob, (w4.alloc ob).cell? ⟨w.heap.size, 0, none⟩ = some (.int .i64 (V : Int)) := fun ob => (World.cell?_alloc_lt w4 ob ⟨w.heap.size, 0, none⟩ (by show w.heap.size < _; omega)).trans i0
  have i1a : ∀ ob, (w4.alloc ob).cell? ⟨w.heap.size, 1, none⟩ = some (.slice a n c) := fun ob => (World.cell?_alloc_lt w4 ob ⟨w.heap.size, 1, none⟩ (by show w.heap.size < _; omega)).trans i1
  clear hb4 hr4 ho3 h0 h1 HB3
  gi_wp2
  have HB5 : Hid (Below w4.heap.size w4 (w4.alloc (.cells #[.slice (some ⟨gn, 0, none⟩) Kw Kw] 65))) := hide (balloc (Below.refl _ _) _)
  have hn5 : (w4.alloc (.cells #[.slice (some ⟨gn, 0, none⟩) Kw Kw] 65)).cell? ⟨w4.heap.size, 0, none⟩ = some (.slice (some ⟨gn, 0, none⟩) Kw Kw) := by simp [go_sem]
  have hz5 : w4.heap.size + 1 ≤ (w4.alloc (.cells #[.slice (some ⟨gn, 0, none⟩) Kw Kw] 65)).heap.size := by simp
  have j0 := i0a (.cells #[.slice (some ⟨gn, 0, none⟩) Kw Kw] 65)
  generalize w4.alloc (.cells #[.slice (some ⟨gn, 0, none⟩) Kw Kw] 65) = w5 at *
  clear i0a i1a i0 i1
  refine ⟨trivial, (allSides_in 9 _ _ w5).mono ?_⟩
  rintro e w6 ⟨rfl, hw6⟩
  have hb6 : Below w5.heap.size w5 w6 := by rw [hw6]; exact balloc (Below.refl _ _) _
  have hz6 : w5.heap.size + 1 ≤ w6.heap.size := by rw [hw6, World.size_alloc]; exact Nat.le_refl _
  have HF0 : Hid (w6.cell? ⟨w5.heap.size, 0, none⟩ = some (.int .i64 (V : Int))) := hide (by rw [hw6]; simp [go_sem])
  have HF1 : Hid (w6.cell? ⟨w5.heap.size, 1, none⟩ = some (.slice a n c)) := hide (by rw [hw6]; simp [go_sem])
  have HW6 : Hid (Below w.heap.size w w6) := hide (bnext (bnext (bnext HB2.out HB4.out) HB5.out) hb6)
  have HB56 := hide (bnext HB5.out hb6)
  have HO6 : Hid (w6.cell? ⟨w2.heap.size, 0, none⟩ = some (.slice (some ⟨G, 0, none⟩) V V)) := hide ((HB56.out.cell (p := ⟨w2.heap.size, 0, none⟩) (by show w2.heap.size < _; omega)).trans ho4)
  have HN6 : Hid (w6.cell? ⟨w4.heap.size, 0, none⟩ = some (.slice (some ⟨gn, 0, none⟩) Kw Kw)) := hide ((hb6.cell (p := ⟨w4.heap.size, 0, none⟩) (by show w4.heap.size < _; omega)).trans hn5)
  have HV6 : Hid (w6.cell? ⟨w.heap.size, 0, none⟩ = some (.int .i64 (V : Int))) := hide ((hb6.cell (p := ⟨w.heap.size, 0, none⟩) (by show w.heap.size < _; omega)).trans j0)
  have HS6 : Hid (SetsAv w6 G V Kw gs (fun _ => Kw) (fun _ _ => 0)) := hide ((HS2.out.keep HB4.out).keep HB56.out)
  have HR6 : Hid (WsAt w6 gn Kw Kw (fun _ => 0)) := hide (WsAt.of_row (HR4.out.of_block (HB56.out.block _ HR4.out.lt)))
  have hO1 := hO.out.1
  have hT1 := hT.out.1
  have hgt : (1 : Nat) < w.heap.size := World.block_lt_of_cell? w _ (hTz.out 0 (by decide))
  have HA6 : Hid (BlksAt w6 L B a xs) := hide (ha.out.keep (HW6.out.mono hB))
  have HOp6 := hide (hO.out.keep HW6.out hO.out.1)
  have HTp6 := hide (hT.out.keep HW6.out hT.out.1)
  have HTz6 : Hid (TzTab w6) := hide (hTz.out.of_block (HW6.out.block _ hgt))
  have HOT : Hid (OtI w6 V Kw gs (fun i u => meetP [] i u) w6) := hide ⟨rfl, rfl, rfl, Nat.le_refl _, fun i hi => by have := HGS.out i hi; omega, fun i j hi hj hne e => hne (HS6.out.inj i j hi hj e), fun _ _ _ => rfl, fun _ _ => 0, fun i hi => ⟨HS6.out.set i hi, zero_wd, fun u _ => by simp [hasN, meetP]⟩⟩
  have hgne : ∀ q, (q < w1.heap.size ∨ w2.heap.size ≤ q) → ∀ i, i < V → q ≠ gs i := fun q hq i hi e => by have := HGS.out i hi; omega
  clear hb6 hw6 ho4 hn5 j0 HB5 HB4 HR4 HS2
  gi_wp2
  refine rangeS (F := Fence.wide) (n := 10) rfl (by decide) (gf := 82) (lb := #[.pointer (some ⟨w5.heap.size, 0, none⟩)]) rfl trivial (enters_of Tryz.func82 (by kernel_rfl) rfl) (all_seqS w6.heap.size w5.heap.size L B V n c Kw a (fun q => ∃ i, i < V ∧ q = gs i) xs w6 HF0.out HF1.out HA6 hx (by omega) (Nat.le_refl _) HOp6 HTp6 (by omega) (by omega) ho HKW (hide ?m1) (hide ?m2) (hide ?m3) (hide ?m4)) (fun z => sdPv_own _ _ _ z) (fun h k => h.trans k) (fun W l o o' h1 h2 h3 => KpB.putObj W l o o' (by omega) h2 h3) (Below.refl _ _) (fun _ _ => rfl)
    (fun _ ss U => OtI w6 V Kw gs (meetP (ss.map (sdW (64 * Kw)))) U) (fun _ _ _ => False) (fun _ => OtI.own w6 V Kw gs (fun (ss : List Sd) => meetP (ss.map (sdW (64 * Kw))))) (fun _ _ _ _ _ h _ _ => h) (fun _ z s A A' hz h g => h.far ⟨g.os, g.tape, g.output, g.size, fun b hb => g.block b (by have := h.size; omega) (fun e => by injection e with e; omega)⟩) (fun _ => ⟨fun z z' s A A' _ h k => h.far (k.mono (by omega)), fun _ _ _ _ h _ => h⟩) ?start
    (fun z p a' U => ∃ bp : Nat, a' = ⟨#[.agg #[.int .i64 (V : Int), .slice a n c], .pointer (some ⟨w.heap.size, 0, none⟩), .slice none 0 0, .pointer (some ⟨w2.heap.size, 0, none⟩), .pointer (some ⟨w4.heap.size, 0, none⟩), .pointer (some ⟨bp, 0, none⟩), undef, undef, undef, .agg #[.int .i64 (V : Int), .slice a n c], .bool true, .bool false, undef, .pointer (some ⟨w.heap.size, 0, none⟩), .int .i64 (V : Int), .pointer (some ⟨w.heap.size, 0, none⟩), .int .i64 (V : Int), .slice (some ⟨G, 0, none⟩) V V, .pointer (some ⟨w.heap.size, 0, none⟩), .int .i64 (V : Int), .agg #[.slice (some ⟨gn, 0, none⟩) Kw Kw], .agg #[.int .i64 (V : Int), .slice a n c], .func (.func 82) #[] #[.pointer (some ⟨w5.heap.size, 0, none⟩)], .agg #[.slice (some ⟨z, 0, none⟩) Kw p.C], undef, undef, undef, undef, undef, undef, undef, undef, undef, undef, undef, undef, undef, undef, undef, undef, undef, undef, undef, undef, undef, undef, undef, undef, undef, undef, undef, undef, undef, undef, undef, undef, undef, undef, undef, undef], []⟩ ∧ w6.heap.size ≤ bp ∧ U.cell? ⟨bp, 0, none⟩ = some (.slice (some ⟨z, 0, none⟩) Kw p.C)) ?ownA ?assign ?body ?done (fun _ _ _ _ _ _ h _ => h.elim)
  case m1 => rintro q h1 h2 ⟨i, hi, e⟩; exact hgne q (by omega) i hi e
  case m2 => rintro q h1 ⟨i, hi, e⟩; exact hgne q (by omega) i hi e
  case m3 => rintro ⟨i, hi, e⟩; exact hgne _ (by omega) i hi e
  case m4 => rintro ⟨i, hi, e⟩; exact hgne _ (by omega) i hi e
  case start =>
    intro z U _ _ hU
    exact HOT.out.far hU
  case ownA =>
    rintro z p a' _ A U row ⟨bp, e, h1, h2⟩ g q
    refine ⟨bp, e, h1, (cell_of (g.block bp (World.block_lt_of_cell? A _ h2) (fun e2 => ?_))).trans h2⟩
    obtain ⟨ob, h3, h4⟩ := cells_of_cell h2
    obtain ⟨_, o2, h5, h6⟩ := q bp e2.symm
    rw [show A.heap[bp]? = some ob from h3] at h5
    injection h5 with h5
    subst h5
    rw [h4] at h6
    cases h6
  case assign =>
    intro l' z pre p U KK hz hI hP hKK
    have HII := hide hI
    have HPP := hide hP
    have HKK := hide hKK
    clear hI hP hKK
    unfold asEnc
    gi_wp2
    have hbA : Below U.heap.size U (U.alloc (.cells #[.slice (some ⟨z, 0, none⟩) Kw p.C] 65)) := balloc (Below.refl _ _) _
    exact HKK.out _ _ ⟨hbA.size, fun k o h1 _ => (hbA.block k (Array.getElem?_eq_some_iff.1 h1).1).trans h1⟩ (KpB.of_below hbA HII.out.size) (HII.out.far (hbA.mono HII.out.size)) (sdPv_below HPP.out hbA) ⟨U.heap.size, rfl, HII.out.size, by simp [go_sem]⟩
  case body =>
    rintro l' z pre p a' U hz hl' ⟨r₀, hr₀⟩ hI hP ⟨bp, rfl, hbp, hcp⟩ hlen
    have HII := hide hI
    have HPP := hide hP
    have HR0 := hide hr₀
    have hzU := hI.size
    have hl'U : l' < U.heap.size := (Array.getElem?_eq_some_iff.1 hr₀).1
    clear hI hP hr₀
    gi_wp2
    refine ⟨trivial, (CallsIn.inRound l' (all_in 7 (some ⟨z, 0, none⟩) Kw p.C U)).mono ?_⟩
    rintro e U1 ⟨rfl, hU1⟩
    have hb1 : Below U.heap.size U U1 := by rw [hU1]; exact balloc (Below.refl _ _) _
    have hs1 : U1.cell? ⟨U.heap.size, 0, none⟩ = some (.slice (some ⟨z, 0, none⟩) Kw p.C) := by rw [hU1]; simp [go_sem]
    have hz1 := hb1.size
    have HB1' := hide hb1
    have HS1 := hide hs1
    have HR1 : Hid (U1.heap[l']? = some (.loop r₀)) := hide ((hb1.block _ hl'U).trans HR0.out)
    have hzne : ∀ i, i < V → z ≠ gs i := fun i hi => hgne z (by omega) i hi
    have hbne : ∀ i, i < V → bp ≠ gs i := fun i hi => hgne bp (by omega) i hi
    have HTZ1 : Hid (TzTab U1) := hide ((HTz6.out.of_block (HII.out.fr _ (by omega) (hgne _ (by omega)))).of_block (hb1.block _ (by omega)))
    have HIN0 : Hid (InI w6 U U1.heap.size V Kw gs (pre.map (sdW (64 * Kw))) z p.C p.W bp [] U1) := hide ⟨(HII.out.far (hb1.mono hzU)).congr (fun i u _ _ => by simp), KpB.of_below hb1 hzU, ⟨hz1, fun q ob _ h2 _ => (hb1.block q (Array.getElem?_eq_some_iff.1 h2).1).trans h2⟩, HPP.out.2.1.of_block (hb1.block _ HPP.out.2.1.lt), (hb1.cell (p := ⟨bp, 0, none⟩) (World.block_lt_of_cell? U _ hcp)).trans hcp, Nat.le_refl _⟩
    clear hb1 hs1 hU1
    gi_wp2
    refine rangeNI (F := Fence.wide.inRound l') (n := 8) (l₀ := l') (r₀ := r₀) rfl HR1.out (by decide) (gf := 84) (lb := #[.pointer (some ⟨U.heap.size, 0, none⟩)]) rfl trivial (enters_of Tryz.func84 (by kernel_rfl) rfl) (all_seqP U.heap.size z Kw p.C p.W (fun q => ∃ i, i < V ∧ q = gs i) U1 HS1.out (hide HIN0.out.ws) (hide HPP.out.2.2) HTZ1 hKW (hide ?n1) (hide ?n2)) (fun _ _ _ _ h _ _ => h) (fun h k => h.trans k) (fun W l o o' h1 h2 h3 => KpB.putObj W l o o' (by omega) h2 h3) (Below.refl _ _) (fun _ => rfl)
      (InI w6 U U1.heap.size V Kw gs (pre.map (sdW (64 * Kw))) z p.C p.W bp) (InI.own hzU hz1) HIN0.out (fun x a' _ => a' = ⟨#[.agg #[.int .i64 (V : Int), .slice a n c], .pointer (some ⟨w.heap.size, 0, none⟩), .slice none 0 0, .pointer (some ⟨w2.heap.size, 0, none⟩), .pointer (some ⟨w4.heap.size, 0, none⟩), .pointer (some ⟨bp, 0, none⟩), .int .i64 (x : Int), undef, undef, .agg #[.int .i64 (V : Int), .slice a n c], .bool true, .bool false, undef, .pointer (some ⟨w.heap.size, 0, none⟩), .int .i64 (V : Int), .pointer (some ⟨w.heap.size, 0, none⟩), .int .i64 (V : Int), .slice (some ⟨G, 0, none⟩) V V, .pointer (some ⟨w.heap.size, 0, none⟩), .int .i64 (V : Int), .agg #[.slice (some ⟨gn, 0, none⟩) Kw Kw], .agg #[.int .i64 (V : Int), .slice a n c], .func (.func 82) #[] #[.pointer (some ⟨w5.heap.size, 0, none⟩)], .agg #[.slice (some ⟨z, 0, none⟩) Kw p.C], .agg #[.slice (some ⟨z, 0, none⟩) Kw p.C], .func (.func 84) #[] #[.pointer (some ⟨U.heap.size, 0, none⟩)], .int .i64 (x : Int), undef, undef, undef, undef, undef, undef, undef, undef, undef, undef, undef, undef, undef, undef, undef, undef, undef, undef, undef, undef, undef, undef, undef, undef, undef, undef, undef, undef, undef, undef, undef, undef, undef], []⟩) (fun _ _ _ _ _ _ h _ _ => h) ?assign2 ?body2 ?done2
    case n1 => rintro ⟨i, hi, e⟩; exact hzne i hi e
    case n2 => rintro ⟨i, hi, e⟩; exact hgne _ (by omega) i hi e
    case assign2 =>
      intro l2 pre2 x U2 KK hI2 hP2 hKK
      have HII2 := hide hI2
      have HKK := hide hKK
      clear hI2 hKK
      gi_wp2
      exact HKK.out _ _ (KeepsOthers.refl _) (KpB.refl _) HII2.out hP2 rfl
    case body2 =>
      rintro l2 pre2 x a2 U2 hI2 hP2 rfl hlen2
      have HII2 := hide hI2
      have hx2 := lsN_mem.1 hP2
      have hxV : x < V := HPP.out.1 x hx2.1 hx2.2
      obtain ⟨Ws, hW⟩ := hI2.ot.sets
      have HWx := hide (hW x hxV)
      have e0 := hI2.ot.cell (hgne w2.heap.size (by omega)) HO6.out
      have e1 : U2.cell? ⟨G, x, none⟩ = some (.slice (some ⟨gs x, 0, none⟩) Kw Kw) := hI2.ot.cell (fun i hi e => HS6.out.out i hi e.symm) (HS6.out.row.cell hxV)
      have e2 := hI2.bx
      have e3 := hI2.ot.cell (hgne w4.heap.size (by omega)) HN6.out
      have hgx := HGS.out x hxV
      have hsz2 := hI2.sz
      have HAB := hide (addBut_valueNo (gs x) z gn Kw Kw p.C Kw (Ws x) p.W (fun _ => 0) U2.drew (hide HWx.out.2.1) (hide HPP.out.2.2) (hide zero_wd) (by omega) (hide HWx.out.1.drew) (hide hI2.ws.drew) (hide (HR6.out.of_block (hI2.ot.fr gn (by omega) (hgne gn (by omega)))).drew) (by omega) (hide (fun e => absurd e (hzne x hxV))))
      have hxi : (x : Int) < (V : Int) := by omega
      clear hI2 hW
      gi_wp2
      refine wpIn_region_held_drew (S := (fun w' => w'.cell? ⟨w2.heap.size, 0, none⟩ = some (.slice (some ⟨G, 0, none⟩) V V) ∧ w'.cell? ⟨G, x, none⟩ = some (.slice (some ⟨gs x, 0, none⟩) Kw Kw) ∧ w'.cell? ⟨bp, 0, none⟩ = some (.slice (some ⟨z, 0, none⟩) Kw p.C) ∧ w'.cell? ⟨w4.heap.size, 0, none⟩ = some (.slice (some ⟨gn, 0, none⟩) Kw Kw))) (by kernel_rfl) (by (try dsimp only); go_keep) (fun hHeld => ?_)
      refine wpAnyHI_take (i := 0) (v := ?_) rfl (by kernel_rfl) (by kernel_rfl) (by kernel_rfl) (by kernel_rfl) (fun _ _ _ h => h) ⟨Or.inl ⟨by rfl, ?_⟩, fun _ => rfl⟩ (by assumption) ?_
      rotate_left
      · intro w hSw; (try dsimp only at hSw); go_simp; try with_reducible rfl
      simp only [Act.put, List.getElem_toArray, List.getElem_cons_zero, List.setIfInBounds_toArray, List.set_cons_zero, List.set_cons_succ]
      refine wpAnyHI_take (i := 1) (v := ?_) rfl (by kernel_rfl) (by kernel_rfl) (by kernel_rfl) (by kernel_rfl) (fun _ _ _ h => h) ⟨Or.inl ⟨by rfl, ?_⟩, fun _ => rfl⟩ (by assumption) ?_
      rotate_left
      · intro w hSw; (try dsimp only at hSw); go_simp; try with_reducible rfl
      simp only [Act.put, List.getElem_toArray, List.getElem_cons_zero, List.getElem_cons_succ, List.setIfInBounds_toArray, List.set_cons_zero, List.set_cons_succ]
      refine wpAnyHI_take (i := 2) (v := ?_) rfl (by kernel_rfl) (by kernel_rfl) (by kernel_rfl) (by kernel_rfl) (fun _ _ _ h => h) ⟨Or.inl ⟨by rfl, ?_⟩, fun _ => rfl⟩ (by assumption) ?_
      rotate_left
      · intro w hSw; (try dsimp only at hSw); go_simp; try with_reducible rfl
      simp only [Act.put, List.getElem_toArray, List.getElem_cons_zero, List.getElem_cons_succ, List.setIfInBounds_toArray, List.set_cons_zero, List.set_cons_succ]
      refine wpAnyHI_take (i := 3) (v := ?_) rfl (by kernel_rfl) (by kernel_rfl) (by kernel_rfl) (by kernel_rfl) (fun _ _ _ h => h) ⟨Or.inl ⟨by rfl, ?_⟩, fun _ => rfl⟩ (by assumption) ?_
      rotate_left
      · intro w hSw; (try dsimp only at hSw); go_simp; try with_reducible rfl
      simp only [Act.put, List.getElem_toArray, List.getElem_cons_zero, List.getElem_cons_succ, List.setIfInBounds_toArray, List.set_cons_zero, List.set_cons_succ]
      refine wpAnyHI_take (i := 4) (v := ?_) rfl (by kernel_rfl) (by kernel_rfl) (by kernel_rfl) (by kernel_rfl) (fun _ _ _ h => h) ⟨Or.inl ⟨by rfl, ?_⟩, fun _ => rfl⟩ (by assumption) ?_
      rotate_left
      · intro w hSw; (try dsimp only at hSw); go_simp; try with_reducible rfl
      simp only [Act.put, List.getElem_toArray, List.getElem_cons_zero, List.getElem_cons_succ, List.setIfInBounds_toArray, List.set_cons_zero, List.set_cons_succ]
      refine wpAnyHI_take (i := 5) (v := ?_) rfl (by kernel_rfl) (by kernel_rfl) (by kernel_rfl) (by kernel_rfl) (fun _ _ _ h => h) ⟨Or.inl ⟨by rfl, ?_⟩, fun _ => rfl⟩ (by assumption) ?_
      rotate_left
      · intro w hSw; (try dsimp only at hSw); go_simp; try with_reducible rfl
      simp only [Act.put, List.getElem_toArray, List.getElem_cons_zero, List.getElem_cons_succ, List.setIfInBounds_toArray, List.set_cons_zero, List.set_cons_succ]
      refine wpAnyHI_ready (rs := [6]) (by kernel_rfl) (by simp) ?_
      refine AllReadyHI.cons rfl (fun K hK => ?_) AllReadyHI.nil
      go_simp
      refine ⟨trivial, (CallsIn.inRound l2 (CallsIn.inRound l' (callsIn_wide.2 HAB.out))).mono ?_⟩
      rintro e U3 ⟨rfl, k3', hw3⟩
      have k3 : U2.grownBy U3 (some (gs x)) := ⟨k3'.os, k3'.tape, k3'.output, k3'.size, k3'.block⟩
      have q3 : ∀ (b' o' : Nat) (v : Value), b' ≠ gs x → U2.cell? ⟨b', o', none⟩ = some v → U3.cell? ⟨b', o', none⟩ = some v := fun b' o' v h1 h2 => (cell_of (k3.block b' (World.block_lt_of_cell? U2 _ h2) (fun e => h1 (by injection e)))).trans h2
      have HK3 := hide k3
      have HW3 := hide hw3
      have f2 := q3 _ _ _ (hbne x hxV) e2
      refine hK.out _ _ ⟨q3 _ _ _ (by omega) e0, q3 _ _ _ (fun e => HS6.out.out x hxV e.symm) e1, f2, q3 _ _ _ (by omega) e3⟩ (fun hHeld => ?_)
      clear hK k3 k3' hw3 q3
      try simp only [Act.put, List.getElem_toArray, List.getElem_cons_zero, List.getElem_cons_succ, List.setIfInBounds_toArray, List.set_cons_zero, List.set_cons_succ]
      refine wpAnyHI_doneN (by kernel_rfl) ?_ _
      clear hHeld
      gi_wp2
      refine ⟨keeps_row HK3.out HWx.out.1.obj, kpB_grown HK3.out ⟨x, hxV, rfl⟩ hsz2, HII2.out.ot.turn hxV HK3.out HW3.out (but_wd HWx.out.2.1 HPP.out.2.2) (fun u hu => ?_) (fun i u hi => ?_), HII2.out.kp.trans (HII2.out.ot.kp hxV HK3.out), HII2.out.kf.trans ((keeps_row HK3.out HWx.out.1.obj).from _), HII2.out.ws.of_block (HK3.out.block z HII2.out.ws.lt (fun e => hzne x hxV (by injection e))), f2, Nat.le_trans hsz2 HK3.out.size⟩
      · rw [has_but HWx.out.2.1 zero_wd, Bool.or_eq_true, HWx.out.2.2 u hu]
        have h0 : hasN (fun _ => 0) u = false := by simp [hasN]
        rw [h0]
        simp only [Bool.not_false, Bool.and_true, List.mem_append, List.mem_singleton, or_true, true_and]
        constructor
        · rintro ((h | h) | h)
          · exact Or.inl h
          · exact Or.inr h.2
          · exact Or.inr (lsN_mem.2 ⟨hu, h⟩)
        · rintro (h | h)
          · exact Or.inl (Or.inl h)
          · exact Or.inr (lsN_mem.1 h).2
      · simp [hi]
    case done2 =>
      rintro xs2 U2 rfl hI2
      have HII2 := hide hI2
      clear hI2
      gi_wp2
      refine ⟨HII2.out.kf, HII2.out.kp, HII2.out.ot.congr (fun i u _ _ => ?_)⟩
      rw [List.map_append, List.map_cons, List.map_nil, meet_snoc]
      exact Iff.rfl
  case done =>
    rintro D z ss U hD hz hS' hI hKD
    have HKD := hide hKD
    have HII : Hid (OtI w6 V Kw gs (meetP (allP xs V n)) U) := hide (by rw [← hS']; exact hI)
    clear hI hKD hS'
    have dv := HII.out.cell (hgne w.heap.size (by omega)) HV6.out
    have hmk := run_makeS (P := Tryz.prog) 26 56 (.agg #[.slice none 0 0]) 1 24 Tryz.underlying26 Tryz.infoSetP V (by omega) (by omega)
    gi_wp2
    have hb8 : Below U.heap.size U (U.alloc (.cells (madeCells #[.slice none 0 0] V) 56)) := balloc (Below.refl _ _) _
    have hz8 : U.heap.size + 1 ≤ (U.alloc (.cells (madeCells #[.slice none 0 0] V) 56)).heap.size := by simp
    have hr8 : (U.alloc (.cells (madeCells #[.slice none 0 0] V) 56)).rowIs U.heap.size 56 V (fun _ => .slice none 0 0) := World.rowIs_made U (.slice none 0 0) V 56
    generalize U.alloc (.cells (madeCells #[.slice none 0 0] V) 56) = w8 at *
    have hzU : w6.heap.size ≤ U.heap.size := HII.out.size
    have HD8 : Hid (w8.heap[D]? = some (.deferred (some []))) := hide ((hb8.block D (Array.getElem?_eq_some_iff.1 HKD.out).1).trans HKD.out)
    have hDl : D < w8.heap.size := (Array.getElem?_eq_some_iff.1 HD8.out).1
    have hDne : ∀ i, i < V → D ≠ gs i := hgne D (by omega)
    obtain ⟨P, hP⟩ : ∃ P : Nat → List Int, P = fun i => natI (infP xs V i) := ⟨_, rfl⟩
    have HP := hide hP
    have hDU : D ≠ U.heap.size := by have := (Array.getElem?_eq_some_iff.1 HKD.out).1; omega
    have HO8 : Hid (OtI w6 V Kw gs (fun i u => meetP (allP xs V n) i u ∧ ¬ (i < 0 ∧ u = i)) w8) := hide ((HII.out.far (hb8.mono hzU)).congr (fun i u _ _ => by simp))
    have HE8 : Hid (OuE w8 w8.heap.size U.heap.size V 0 P) := hide ⟨fun _ => [], fun _ => .slice none 0 0, ⟨hr8.lt, hr8, fun i hi => World.ownsRow_nil _ _ _ _, fun i j _ _ _ => Or.inl rfl⟩, fun i _ => by simp⟩
    clear hb8 hr8 hP dv hmk HII HKD HOT
    gi_loopw [39] (fun i wr => ∃ k : Nat, k ≤ V ∧ i = .int .i64 k ∧ Hid (OtI w6 V Kw gs (fun i u => meetP (allP xs V n) i u ∧ ¬ (i < k ∧ u = i)) wr) ∧ Hid (OuE wr w8.heap.size U.heap.size V k P) ∧ Hid (wr.heap[D]? = some (.deferred (some []))) ∧ w8.heap.size ≤ wr.heap.size) (fun i _ => V - (intOf i).toNat)
    case atStart => exact ⟨0, Nat.zero_le _, rfl, HO8, HE8, HD8, Nat.le_refl _⟩
    case round =>
      clear HO8 HE8 HD8
      obtain ⟨k, hk, rfl, HOk, HEk, HDk, hzk⟩ := hrel
      by_cases hlt : k < V
      · have e0 := HOk.out.cell (hgne w2.heap.size (by omega)) HO6.out
        have e1 : wr.cell? ⟨G, k, none⟩ = some (.slice (some ⟨gs k, 0, none⟩) Kw Kw) := HOk.out.cell (fun i hi e => HS6.out.out i hi e.symm) (HS6.out.row.cell hlt)
        obtain ⟨Ws, hW⟩ := HOk.out.sets
        have HWk := hide (hW k hlt)
        have hgk := HGS.out k hlt
        have e0a : ∀ ob, (wr.alloc ob).cell? ⟨w2.heap.size, 0, none⟩ = some (.slice (some ⟨G, 0, none⟩) V V) := fun ob => (World.cell?_alloc_lt wr ob ⟨w2.heap.size, 0, none⟩ (World.block_lt_of_cell? wr _ e0)).trans e0
        have hki : (k : Int) < (V : Int) := by omega
        have HTk : Hid (TzTab wr) := hide (HTz6.out.of_block (HOk.out.fr _ (by omega) (hgne _ (by omega))))
        clear hW
        gi_wp2
        have hbA : Below wr.heap.size wr (wr.alloc (.cells #[.int .i64 (k : Int)] 67)) := balloc (Below.refl _ _) _
        have hcA : (wr.alloc (.cells #[.int .i64 (k : Int)] 67)).cell? ⟨wr.heap.size, 0, none⟩ = some (.int .i64 (k : Int)) := by simp [go_sem]
        have hzA : wr.heap.size + 1 ≤ (wr.alloc (.cells #[.int .i64 (k : Int)] 67)).heap.size := by simp
        generalize wr.alloc (.cells #[.int .i64 (k : Int)] 67) = W1 at *
        have HIA : Hid (IntsAt W1 wr.heap.size (wr.heap.size + 1) (some ⟨wr.heap.size, 0, none⟩) ([k].map Int.ofNat)) := hide (fun i hi => by
          have hi0 : i = 0 := by simp at hi; exact hi
          subst hi0
          exact ⟨wr.heap.size, 0, rfl, ⟨Nat.le_refl _, by omega⟩, hcA⟩)
        have HOA := hide (HOk.out.far (hbA.mono (by omega)))
        have HEA := hide (HEk.out.below hbA)
        have HDA : Hid (W1.heap[D]? = some (.deferred (some []))) := hide ((hbA.block D (Array.getElem?_eq_some_iff.1 HDk.out).1).trans HDk.out)
        have HTA : Hid (TzTab W1) := hide (HTk.out.of_block (hbA.block _ (by omega)))
        have HWA := hide (HWk.out.1.of_block (hbA.block _ HWk.out.1.lt))
        have HRM := hide (remove_valueNo (gs k) Kw Kw 1 1 (Ws k) (some ⟨wr.heap.size, 0, none⟩) [k] wr.heap.size (wr.heap.size + 1) W1 HIA (hide rfl) (by decide) (hide (fun t ht => by rw [List.mem_singleton.1 ht]; omega)) (by omega) (hide HWk.out.2.1) HWA (by omega) (by omega))
        have a0 := (hbA.cell (p := ⟨w2.heap.size, 0, none⟩) (World.block_lt_of_cell? wr _ e0)).trans e0
        have a1 := (hbA.cell (p := ⟨G, k, none⟩) (World.block_lt_of_cell? wr _ e1)).trans e1
        clear hbA hcA HOk HEk HDk HTk e0 e1 e0a HIA
        refine ⟨trivial, (callsIn_wide.2 HRM.out).mono ?_⟩
        rintro e W2 ⟨rfl, k2, hw2⟩
        have HW2 := hide hw2
        have hz2' := k2.size
        have q2 : ∀ (b' o' : Nat) (v : Value), b' ≠ gs k → W1.cell? ⟨b', o', none⟩ = some v → W2.cell? ⟨b', o', none⟩ = some v := fun b' o' v h1 h2 => (cell_of (k2.block b' (World.block_lt_of_cell? W1 _ h2) (fun e => h1 (by injection e)))).trans h2
        have b0 := q2 _ _ _ (by omega) a0
        have b1 := q2 _ _ _ (fun e => HS6.out.out k hlt e.symm) a1
        have hRX : ∀ u, u < 64 * Kw → (hasN (delsN (Ws k) [k]) u = true ↔ (meetP (allP xs V n) k u ∧ ¬ (k < k + 1 ∧ u = k))) := fun u hu => by
          rw [has_dels, Bool.and_eq_true, HWk.out.2.2 u hu]
          simp only [List.mem_singleton, decide_eq_true_eq]
          constructor
          · rintro ⟨h1, h2⟩; exact ⟨h2.1, fun h3 => h1 h3.2⟩
          · rintro ⟨h1, h2⟩; exact ⟨fun h3 => h2 ⟨by omega, h3⟩, h1, fun h3 => by omega⟩
        have HWd : Hid (WdOk (delsN (Ws k) [k])) := hide (dels_wd _ HWk.out.2.1)
        have HO2 : Hid (OtI w6 V Kw gs (fun i u => meetP (allP xs V n) i u ∧ ¬ (i < k + 1 ∧ u = i)) W2) := hide (HOA.out.turn hlt k2 hw2 HWd.out hRX (fun i u hi => by
          constructor
          · rintro ⟨h1, h2⟩; exact ⟨h1, fun h3 => h2 ⟨by omega, h3.2⟩⟩
          · rintro ⟨h1, h2⟩; exact ⟨h1, fun h3 => h2 ⟨by omega, h3.2⟩⟩))
        have HE2 : Hid (OuE W2 w8.heap.size U.heap.size V k P) := hide (HEA.out.kept (by omega) (by omega) k2)
        have HD2 : Hid (W2.heap[D]? = some (.deferred (some []))) := hide ((k2.block D (Array.getElem?_eq_some_iff.1 HDA.out).1 (fun e => hDne k hlt (by injection e))).trans HDA.out)
        have HLP : Hid (natI (lsN (delsN (Ws k) [k]) (64 * Kw)) = P k) := hide (by
          rw [HP.out, ls_inf hVK (i := k) (xs := xs) (V := V) (fun u hu => by
            rw [hRX u hu, hx.out]
            unfold infQ
            constructor
            · rintro ⟨h1, h2⟩; exact ⟨h1, fun h3 => h2 ⟨by omega, h3⟩⟩
            · rintro ⟨h1, h2⟩; exact ⟨h1, fun h3 => h2 h3.2⟩)])
        have HT2 : Hid (TzTab W2) := hide (HTA.out.of_block (k2.block _ (by omega) (fun e => hgne 1 (by omega) k hlt (by injection e))))
        have HLS := hide (list_valueNo (gs k) Kw Kw (delsN (Ws k) [k]) W2 HWd HW2 HT2 hKW)
        clear k2 hw2 q2 a0 a1 HRM hRX HOA HEA HDA HTA HWA
        gi_wp2
        refine ⟨trivial, (callsIn_wide.2 HLS.out).mono ?_⟩
        rintro e W3 ⟨u, rfl, hb3, hu⟩
        rw [show (lsN (delsN (Ws k) [k]) (64 * Kw)).length = (P k).length by rw [← HLP.out]; simp [natI], HLP.out] at hu
        obtain ⟨au, cu, eu, _⟩ := ints_owned hu
        obtain ⟨lu, hlu⟩ : ∃ m, m = (P k).length := ⟨_, rfl⟩
        rw [← hlu] at eu
        subst eu
        have HE3 := hide (HE2.out.put (by omega) hb3 hu)
        obtain ⟨Q3, U3, hro3, _⟩ := HE2.out.below hb3
        have ce3 := hro3.row.cell hlt
        have fe3 := hro3.row.frozen k
        have HO3 := hide ((HO2.out.far (hb3.mono (by omega))).far ((Below.refl w6.heap.size W3).setCell (p := ⟨U.heap.size, k, none⟩) (by show w6.heap.size ≤ U.heap.size; omega) (.slice au lu cu)))
        have HD3 : Hid ((W3.setCell ⟨U.heap.size, k, none⟩ (.slice au lu cu)).heap[D]? = some (.deferred (some []))) := hide ((Below.heap_setCell _ _ _ _ hDU).trans ((hb3.block D (Array.getElem?_eq_some_iff.1 HD2.out).1).trans HD2.out))
        have hz3' := hb3.size
        clear hb3 hu hlu hro3 b0 b1 HLS
        gi_wp2
        exact ⟨⟨k + 1, by omega, by go_num, HO3, HE3, HD3, by rw [size_setCell]; omega⟩, by simp [intOf]; omega⟩
      · have hkn : k = V := by omega
        subst hkn
        gi_wp2
        have hO' := HOk.out
        have hg := grownBy_putObj' wr D (.deferred none)
        have hbf := hO'.far (U' := wr.putObj D (.deferred none)) ⟨hg.os, hg.tape, hg.output, hg.size, fun b hb => hg.block b (by have := hO'.size; omega) (fun e => by injection e with e; omega)⟩
        obtain ⟨Q, Us, h1, h2⟩ := HEk.out
        have h3 := h1.kept hg (fun r e => by
          injection e with e
          subst e
          refine ⟨hDU, fun i hi e2 => ?_⟩
          have := ((h1.own i hi).lt _ e2).1
          omega)
        refine leaves_one HDk.out ⟨.slice (some ⟨U.heap.size, 0, none⟩) k k, by simp [results, Tryz.results24, go_sem], ?_⟩
        rw [← HP.out]
        exact ⟨w8.heap.size, U.heap.size, Us, rfl, by omega, ⟨hbf.os.trans HW6.out.os, hbf.tape.trans HW6.out.tape, hbf.output.trans HW6.out.output, by have := HW6.out.size; have := hbf.size; omega, fun q hq => (hbf.fr q (by omega) (hgne q (by omega))).trans (HW6.out.block q hq)⟩, h3.congr (fun i hi => by rw [h2 i hi, if_pos hi])⟩
end Go.Proofs.YtjfcbjomfbfoiaaGreatDoor
