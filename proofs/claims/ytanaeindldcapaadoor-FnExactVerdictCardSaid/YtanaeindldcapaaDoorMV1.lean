import Derived.Test.YtanaeindldcapaaDoorVI1
namespace Go.Proofs.YtanaeindldcapaaDoor
open Go.RowKit
set_option maxHeartbeats 400000 in
theorem termReads_any (t : Ter) (w : World) :
    Calls Tryd.prog 55 #[.agg #[.int .i64 t.kind, .int .i64 t.a, .int .i64 t.to, .int .i64 t.els]] w fun e w' => ∃ a c, e = .returned (.slice a (rdT t).length c) ∧ Below w.heap.size w w' ∧ IntsAt w' w.heap.size w'.heap.size a (rdT t) := by
  obtain ⟨kind, ta, to, els⟩ := t
  by_cases h1 : kind = 1
  · subst h1
    go_enter Tryd.func55, Tryd.ntmps55
    go_wp2
    go_ret
    exact ⟨_, _, rfl, balloc (balloc (Below.refl _ _) _) _, fun i hi => absurd hi (by simp [rdT])⟩
  · have e1 : (kind == 1) = false := by simp [h1]
    have hn : rdT ⟨kind, ta, to, els⟩ = [ta] := by simp [rdT, h1]
    rw [hn]
    clear h1 hn
    go_enter Tryd.func55, Tryd.ntmps55
    go_wp2
    go_ret
    refine ⟨_, _, rfl, balloc (balloc (Below.refl _ _) _) _, fun i hi => ?_⟩
    match i, hi with
    | 0, _ => exact ⟨_, _, rfl, ⟨by simp, by simp⟩, by simp⟩
set_option maxHeartbeats 1000000 in
theorem l1Reads_any (y : Ins) (w : World) :
    Calls Tryd.prog 57 #[insV y] w fun e w' => ∃ a c, e = .returned (.slice a (rdI y).length c) ∧ Below w.heap.size w w' ∧ IntsAt w' w.heap.size w'.heap.size a (rdI y) := by
  obtain ⟨i0, hi0, hz0, hz1, hz2⟩ := info_parts Tryd.info2'
  obtain ⟨op, dst, ya, yb, imm⟩ := y
  have HA := hide (fun W => usedA op W)
  have HB := hide (fun W => usedB op W)
  have HR : Hid (rdI ⟨op, dst, ya, yb, imm⟩ = (if aB op then [ya] else []) ++ (if bB op then [yb] else [])) := hide rfl
  generalize rdI ⟨op, dst, ya, yb, imm⟩ = rs at *
  generalize aB op = uA at *
  generalize bB op = uB at *
  unfold insV
  go_enter Tryd.func57, Tryd.ntmps57
  go_wp2_with fail
  refine (HA.out _).mono ?_
  rintro e w1 ⟨rfl, hw1⟩
  rw [hw1]
  clear hw1 w1
  have HW : Hid (Below w.heap.size w ((w.alloc (.cells #[.int .i64 op, .int .i64 dst, .int .i64 ya, .int .i64 yb, .int .i64 imm] 69)).alloc (.cells #[] 2))) := hide (balloc (balloc (Below.refl _ _) _) _)
  have HO := hide (own_empty w (.cells #[.int .i64 op, .int .i64 dst, .int .i64 ya, .int .i64 yb, .int .i64 imm] 69))
  have hL9 : (fun x9 : World => w.heap.size < x9.heap.size ∧ (∀ q v, #[Value.int .i64 op, .int .i64 dst, .int .i64 ya, .int .i64 yb, .int .i64 imm][q]? = some v → x9.cell? ⟨w.heap.size, q, none⟩ = some v)) ((w.alloc (.cells #[.int .i64 op, .int .i64 dst, .int .i64 ya, .int .i64 yb, .int .i64 imm] 69)).alloc (.cells #[] 2)) := ⟨(by simp; omega), (fun q v h => by
    rw [World.cell?_alloc_lt _ _ _ (by simp)]
    rw [World.cell?_alloc_new]
    exact h)⟩
  generalize (w.alloc (.cells #[.int .i64 op, .int .i64 dst, .int .i64 ya, .int .i64 yb, .int .i64 imm] 69)).alloc (.cells #[] 2) = W at *
  obtain ⟨hz, hc⟩ := hL9
  have c0 := hc 0 _ rfl
  have c2 := hc 2 _ rfl
  have c3 := hc 3 _ rfl
  clear hc
  have HSZ : Hid (w.heap.size < W.heap.size) := hide hz
  cases uA with
  | false =>
    go_wp2_with fail
    refine (HB.out _).mono ?_
    rintro e w1 ⟨rfl, hw1⟩
    rw [hw1]
    clear hw1 w1
    cases uB with
    | false =>
      go_wp2
      go_ret
      have hr := HR.out
      simp at hr
      subst hr
      obtain ⟨a1, c1, e1, hi1⟩ := ints_owned (xs := ([] : List Int)) (by simpa using HO.out)
      exact ⟨a1, c1, congrArg Ending.returned e1, HW.out, hi1.mono (by omega) (Nat.le_refl _)⟩
    | true =>
      go_wp2_with (at_builtin; refine wpList_append_own _ rfl _ _ 35 rfl (w.heap.size + 1) 2 i0 (.int .i64 0) 1 8 Tryd.underlying35 hi0 hz0 hz1 hz2 rfl (by decide) _ _ _ rfl (HO.out.alloc _) ⟨W.heap.size, 0, none⟩ 1 1 [.int .i64 yb] rfl rfl ?c1 ?c2 ?c3 ?c4 ?c5 ?_)
      case c1 =>
        intro j u hj
        match j, hj with
        | 0, hj => simp at hj; subst hj; simp [Addr.add]
      case c2 => intro u hu; simp at hu; subst hu; rfl
      case c3 => unfold maxLen; (try simp); (try omega)
      case c4 => simp
      case c5 => simp; omega
      intro v1 w9 hown1 hgrow1 _
      have hb9 := grown_below (balloc HW.out _) hgrow1 (HO.out.alloc _) (by omega) (by simp; omega)
      have HB9 := hide hb9
      have HO9 := hide hown1
      clear hown1 hgrow1 hb9
      go_wp2
      go_ret
      have hr := HR.out
      simp at hr
      subst hr
      obtain ⟨a1, c1, e1, hi1⟩ := ints_owned (xs := ([] : List Int) ++ [yb]) (by simpa using HO9.out)
      exact ⟨a1, c1, congrArg Ending.returned e1, HB9.out, hi1.mono (by omega) (Nat.le_refl _)⟩
  | true =>
    go_wp2_with (at_builtin; refine wpList_append_own _ rfl _ _ 35 rfl (w.heap.size + 1) 2 i0 (.int .i64 0) 1 8 Tryd.underlying35 hi0 hz0 hz1 hz2 rfl (by decide) _ _ _ rfl (HO.out.alloc _) ⟨W.heap.size, 0, none⟩ 1 1 [.int .i64 ya] rfl rfl ?c1 ?c2 ?c3 ?c4 ?c5 ?_)
    case c1 =>
      intro j u hj
      match j, hj with
      | 0, hj => simp at hj; subst hj; simp [Addr.add]
    case c2 => intro u hu; simp at hu; subst hu; rfl
    case c3 => unfold maxLen; (try simp); (try omega)
    case c4 => simp
    case c5 => simp; omega
    intro v0 w2 hown0 hgrow0 _
    have hb2 := grown_below (balloc HW.out _) hgrow0 (HO.out.alloc _) (by omega) (by simp; omega)
    have hbk := grown_block hgrow0 (HO.out.alloc _) (b := w.heap.size) (by omega) (by simp; omega)
    have d3 : w2.cell? ⟨w.heap.size, 3, none⟩ = some (.int .i64 yb) := (cell_of hbk).trans ((World.cell?_alloc_lt W _ ⟨w.heap.size, 3, none⟩ hz).trans c3)
    have d0 : w2.cell? ⟨w.heap.size, 0, none⟩ = some (.int .i64 op) := (cell_of hbk).trans ((World.cell?_alloc_lt W _ ⟨w.heap.size, 0, none⟩ hz).trans c0)
    have HB2 := hide hb2
    have HO2 : Hid (w2.ownsRow (w.heap.size + 1) 2 1 v0 1 [.int .i64 ya]) := hide (by simpa using hown0)
    have hz2' : w.heap.size < w2.heap.size := by have := hgrow0.size; simp at this; omega
    clear hown0 hgrow0 hbk hb2 c0 c2 c3
    go_wp2_with fail
    refine (HB.out _).mono ?_
    rintro e w1 ⟨rfl, hw1⟩
    rw [hw1]
    clear hw1 w1
    cases uB with
    | false =>
      go_wp2
      go_ret
      have hr := HR.out
      simp at hr
      subst hr
      obtain ⟨a1, c1, e1, hi1⟩ := ints_owned (xs := [ya]) (by simpa using HO2.out)
      exact ⟨a1, c1, congrArg Ending.returned e1, HB2.out, hi1.mono (by omega) (Nat.le_refl _)⟩
    | true =>
      go_wp2_with (at_builtin; refine wpList_append_own _ rfl _ _ 35 rfl (w.heap.size + 1) 2 i0 (.int .i64 0) 1 8 Tryd.underlying35 hi0 hz0 hz1 hz2 rfl (by decide) _ _ _ rfl (HO2.out.alloc _) ⟨w2.heap.size, 0, none⟩ 1 1 [.int .i64 yb] rfl rfl ?c1 ?c2 ?c3 ?c4 ?c5 ?_)
      case c1 =>
        intro j u hj
        match j, hj with
        | 0, hj => simp at hj; subst hj; simp [Addr.add]
      case c2 => intro u hu; simp at hu; subst hu; rfl
      case c3 => unfold maxLen; (try simp); (try omega)
      case c4 => simp
      case c5 => simp; omega
      intro v1 w9 hown1 hgrow1 _
      have hb9 := grown_below (balloc HB2.out _) hgrow1 (HO2.out.alloc _) (by omega) (by simp; omega)
      have HB9 := hide hb9
      have HO9 := hide hown1
      clear hown1 hgrow1 hb9
      go_wp2
      go_ret
      have hr := HR.out
      simp at hr
      subst hr
      obtain ⟨a1, c1, e1, hi1⟩ := ints_owned (xs := [ya] ++ [yb]) (by simpa using HO9.out)
      exact ⟨a1, c1, congrArg Ending.returned e1, HB9.out, hi1.mono (by omega) (Nat.le_refl _)⟩
set_option maxHeartbeats 1000000 in
theorem phiDefs_any (pa : Option Addr) (n pc : Nat) (ps : List Ph) (v1 v2 v3 v4 v5 : Value) (L B : Nat) (w : World) (hp : Hid (PhsAt w L B pa ps)) (hx : Hid (n = ps.length)) (hn : n ≤ 4000) (hB : B ≤ w.heap.size) :
    Calls Tryd.prog 54 #[.agg #[.slice pa n pc, v1, v2, v3, v4, v5]] w fun e w' => ∃ a c, e = .returned (.slice a (ps.map Ph.dst).length c) ∧ Below w.heap.size w w' ∧ IntsAt w' w.heap.size w'.heap.size a (ps.map Ph.dst) := by
  obtain ⟨i0, hi0, hz0, hz1, hz2⟩ := info_parts Tryd.info2'
  go_enter Tryd.func54, Tryd.ntmps54
  go_wp2
  go_loopw [3, 4] (fun u i wr => ∃ k : Nat, k ≤ n ∧ i = .int .i64 k ∧ Hid (Below w.heap.size w wr) ∧ w.heap.size < wr.heap.size ∧ wr.cell? ⟨w.heap.size, 0, none⟩ = some (.slice pa n pc) ∧ Hid (wr.ownsRow (w.heap.size + 1) 2 1 u k (((ps.map Ph.dst).take k).map (Value.int .i64)))) (fun _ i _ => n - (intOf i).toNat)
  case atStart => exact ⟨0, Nat.zero_le _, rfl, hide (balloc (balloc (Below.refl _ _) _) _), by simp; omega, by simp, hide (own_empty _ _)⟩
  case round =>
    obtain ⟨k, hk, rfl, HB, hsz, hcell, HO⟩ := hrel
    by_cases hlt : k < n
    · have hkx : k < ps.length := by have := hx.out; omega
      obtain ⟨b, o, rfl, ⟨_, hbB⟩, ha, hc, h1, h2, _⟩ := (hp.out.keep (HB.out.mono hB)) k hkx
      have HN : Hid ((ps.map Ph.dst).take (k + 1) = (ps.map Ph.dst).take k ++ [ps[k].dst]) := hide (by rw [take_next _ _ (by simpa using hkx)]; simp)
      generalize ps[k] = X at *
      generalize (ps.map Ph.dst).take k = dk at *
      go_wp2_with (at_builtin; refine wpList_append_own _ rfl _ _ 35 rfl (w.heap.size + 1) 2 i0 (.int .i64 0) 1 8 Tryd.underlying35 hi0 hz0 hz1 hz2 rfl (by decide) _ _ _ rfl (HO.out.alloc _) ⟨wr.heap.size, 0, none⟩ 1 1 [.int .i64 X.dst] rfl rfl ?c1 ?c2 ?c3 ?c4 ?c5 ?_)
      case c1 =>
        intro j u hj
        match j, hj with
        | 0, hj => simp at hj; subst hj; simp [Addr.add]
      case c2 => intro u hu; simp at hu; subst hu; rfl
      case c3 => unfold maxLen; omega
      case c4 => omega
      case c5 => simp; omega
      intro u1 w1 hown1 hgrow1 _
      have HO1 := hide hown1
      clear hown1
      go_wp2
      have hb2 : Below w.heap.size w w1 := grown_below (balloc HB.out _) hgrow1 (HO.out.alloc _) (by omega) (by simp; omega)
      have hbk := grown_block hgrow1 (HO.out.alloc _) (b := w.heap.size) (by omega) (by simp; omega)
      have hsz1 := hgrow1.size
      simp at hsz1
      exact ⟨⟨k + 1, by omega, by go_num, hide hb2, by omega, (cell_of hbk).trans ((World.cell?_alloc_lt wr _ ⟨w.heap.size, 0, none⟩ hsz).trans hcell), hide (by rw [HN.out, ints_snoc]; exact HO1.out)⟩, by simp [intOf]; omega⟩
    · go_wp2
      go_ret
      have hown := HO.out
      rw [List.take_of_length_le (by have := hx.out; simp; omega)] at hown
      obtain ⟨a1, c1, rfl, hi1⟩ := ints_owned hown
      exact ⟨_, _, rfl, HB.out, hi1.mono (by omega) (Nat.le_refl _)⟩
/-- What the phis read from block p, up to predecessor i. -/
def edP (ps : List Int) (hs : List Ph) (p : Int) (i : Nat) : List Int := (List.range i).flatMap fun i => if ps.getD i 0 = p then hs.map (fun h => h.args.getD i 0) else []
theorem edP_succ (ps : List Int) (hs : List Ph) (p : Int) (i : Nat) : edP ps hs p (i + 1) = edP ps hs p i ++ (if ps.getD i 0 = p then hs.map (fun h => h.args.getD i 0) else []) := by
  unfold edP
  rw [List.range_succ, List.flatMap_append]
  simp
theorem edP_len (ps : List Int) (hs : List Ph) (p : Int) : ∀ i, (edP ps hs p i).length ≤ i * hs.length
  | 0 => by simp [edP]
  | i + 1 => by
    have := edP_len ps hs p i
    rw [edP_succ, List.length_append, Nat.succ_mul]
    split
    · rw [List.length_map]; omega
    · simp; omega
set_option maxHeartbeats 2000000 in
set_option maxRecDepth 100000 in
theorem edgeUses_any (V : Nat) (a : Option Addr) (n c : Nat) (p : Int) (t : Nat) (xs : List Blk) (L B : Nat) (w : World) (ha : Hid (BlksAt w L B a xs)) (hx : Hid (n = xs.length)) (hB : B ≤ w.heap.size) (ho : Hid (OkL V xs)) (htn : t < n) :
    Calls Tryd.prog 56 #[.agg #[.int .i64 (V : Int), .slice a n c], .int .i64 p, .int .i64 (t : Int)] w fun e w' => ∃ ad c', e = .returned (.slice (some ad) (edgeU xs p (t : Int)).length c') ∧ Below w.heap.size w w' ∧ IntsAt w' w.heap.size w'.heap.size (some ad) (edgeU xs p (t : Int)) := by
  obtain ⟨i0, hi0, hz0, hz1, hz2⟩ := info_parts Tryd.info2'
  have hn : n ≤ 1000 := by have := hx.out; have := ho.out.okf.n2; omega
  have htx : t < xs.length := by have := hx.out; omega
  obtain ⟨b, o, rfl, ⟨hbL, hbB⟩, hc⟩ := ha.out t htx
  obtain ⟨pa, pc, ia, ic, q0, _, _, hph, _⟩ := hc
  have HPH := hide hph
  have HPA := hide (ho.out.pha t htx)
  have hlp := (ho.out.lens _ (List.getElem_mem htx)).2
  have HED : Hid (edgeU xs p (t : Int) = if xs[t].phis = [] then [] else edP (predsFrom xs 0 (t : Int)) xs[t].phis p (predsFrom xs 0 (t : Int)).length) := hide (by unfold edgeU edP; rw [Int.toNat_natCast, List.getElem?_eq_getElem htx])
  have HPR := hide (fun W (hW : Below w.heap.size w W) => l1Preds_any (V : Int) (some ⟨b, o, none⟩) n c (t : Int) xs L B W (hide (ha.out.keep (hW.mono hB))) hx (by omega) (by have := hW.size; omega))
  have hpl := predsFrom_len (t : Int) xs 0
  have hpl2 : (predsFrom xs 0 (t : Int)).length ≤ 1000 := by have := hx.out; omega
  generalize predsFrom xs 0 (t : Int) = pr at *
  generalize edgeU xs p (t : Int) = ed at *
  generalize xs[t].phis = ps at *
  clear hph
  have hbw : b < w.heap.size := by omega
  have qa := fun o1 o2 => ((balloc (balloc (Below.refl w.heap.size w) o1) o2).cell (p := ⟨b, o + t * 6, none⟩) hbw).trans q0
  clear q0
  go_enter Tryd.func56, Tryd.ntmps56
  by_cases h0 : ps.length = 0
  · have hpe : ps = [] := List.eq_nil_of_length_eq_zero h0
    have he : ed = [] := by rw [HED.out, if_pos hpe]
    have HBW : Hid (Below w.heap.size w ((w.alloc (.cells #[.int .i64 (V : Int), .slice (some ⟨b, o, none⟩) n c] 29)).alloc (.cells #[] 2))) := hide (balloc (balloc (Below.refl _ _) _) _)
    simp only [h0] at qa
    clear hpl2 hlp hpl
    go_wp2
    go_ret
    rw [he]
    exact ⟨_, _, rfl, HBW.out, fun i hi => absurd hi (by simp)⟩
  · have h0' : ((ps.length : Int) == 0) = false := by simp [h0]
    have hpe : ps ≠ [] := fun e => h0 (by rw [e]; rfl)
    have HED2 : Hid (ed = edP pr ps p pr.length) := hide (by rw [HED.out, if_neg hpe])
    clear HED hpe
    have HOE := hide (own_empty w (.cells #[.int .i64 (V : Int), .slice (some ⟨b, o, none⟩) n c] 29))
    have HB0 : Hid (Below w.heap.size w ((w.alloc (.cells #[.int .i64 (V : Int), .slice (some ⟨b, o, none⟩) n c] 29)).alloc (.cells #[] 2))) := hide (balloc (balloc (Below.refl _ _) _) _)
    have hz0' : ((w.alloc (.cells #[.int .i64 (V : Int), .slice (some ⟨b, o, none⟩) n c] 29)).alloc (.cells #[] 2)).heap.size = w.heap.size + 2 := by simp
    have hf0 : ((w.alloc (.cells #[.int .i64 (V : Int), .slice (some ⟨b, o, none⟩) n c] 29)).alloc (.cells #[] 2)).cell? ⟨w.heap.size, 1, none⟩ = some (.slice (some ⟨b, o, none⟩) n c) := by simp
    go_wp2_with fail
    refine (HPR.out _ HB0.out).mono ?_
    rintro e w1 ⟨a1, c1, rfl, hb1, hi1⟩
    rw [hz0'] at hb1 hi1
    have hz1' := hb1.size
    rw [hz0'] at hz1'
    have HB1 : Hid (Below w.heap.size w w1) := hide (HB0.out.trans (hb1.mono (by omega)))
    have hf1 := (hb1.cell (p := ⟨w.heap.size, 1, none⟩) (by show w.heap.size < _; omega)).trans hf0
    have HI1 := hide hi1
    have HG0 : Hid (Gro w1 (w.heap.size + 1) w1 (.slice (some ⟨w.heap.size + 1, 0, none⟩) 0 0) []) := hide (Gro.start (own_block HOE.out (fun g e => by
      have e' : w.heap.size + 1 = g := by simpa [Value.ownBlock] using e
      subst e'
      exact hb1.block _ (by omega))) (fun g e => by
      have e' : w.heap.size + 1 = g := by simpa [Value.ownBlock] using e
      exact e'.symm))
    have HQ0 := (HB1.out.cell (p := ⟨b, o + t * 6, none⟩) hbw).trans (by have := qa (.cells #[] 0) (.cells #[] 0); exact ((balloc (balloc (Below.refl w.heap.size w) _) _).cell (p := ⟨b, o + t * 6, none⟩) hbw).symm.trans this)
    have HQQ := hide HQ0
    have HF1 := hide hf1
    have HPHW : Hid (PhsAt w1 L B pa ps) := hide (HPH.out.keep (HB1.out.mono hB))
    have HED3 : Hid (ed = edP pr ps p pr.length) := HED2
    obtain ⟨np, hnp⟩ : ∃ m, m = pr.length := ⟨_, rfl⟩
    rw [← hnp] at hpl2
    have HNP := hide hnp
    obtain ⟨nh, hnh⟩ : ∃ m, m = ps.length := ⟨_, rfl⟩
    rw [← hnh] at HQQ hlp h0'
    have HNH := hide hnh
    clear hb1 hi1 hf0 hf1 hz0' HQ0 qa HOE HB0 HPR HED2 hpl
    rw [← hnp]
    clear hnp hnh
    go_wp2_with fail
    go_loopw [7, 9] (fun u i wr => ∃ k : Nat, k ≤ np ∧ i = .int .i64 k ∧ Hid (Gro w1 (w.heap.size + 1) wr u (edP pr ps p k)) ∧ Hid (u ≠ .slice none 0 0)) (fun _ i _ => np - (intOf i).toNat)
    case atStart => exact ⟨0, Nat.zero_le _, rfl, HG0, hide (by simp)⟩
    case round =>
      clear HG0
      obtain ⟨k, hk, rfl, HG, HU⟩ := hrel
      by_cases hlt : k < np
      · have hkp : k < pr.length := by rw [← HNP.out]; exact hlt
        obtain ⟨b1, o1, rfl, ⟨hb1l, hb1u⟩, hc1⟩ := HI1.out k hkp
        have k1 := HG.out.cell (by omega) hc1
        have kf := HG.out.cell (by omega) HF1.out
        have kq := HG.out.cell (by omega) HQQ.out
        have HSU : Hid (edP pr ps p (k + 1) = edP pr ps p k ++ (if pr[k] = p then ps.map (fun h => h.args.getD k 0) else [])) := hide (by rw [edP_succ]; congr 1; rw [List.getD_eq_getElem?_getD, List.getElem?_eq_getElem hkp]; rfl)
        have HLE : Hid ((edP pr ps p k).length ≤ 4000000) := hide (Nat.le_trans (edP_len pr ps p k) (Nat.le_trans (Nat.mul_le_mul (show k ≤ 1000 by omega) (show ps.length ≤ 4000 by rw [← HNH.out]; exact hlp)) (by decide)))
        generalize pr[k] = pk at *
        clear hc1
        by_cases hpk : pk = p
        · subst hpk
          have HS2 : Hid (edP pr ps pk (k + 1) = edP pr ps pk k ++ ps.map (fun h => h.args.getD k 0)) := hide (by have h := HSU.out; rw [if_pos rfl] at h; exact h)
          have hbq : (pk == pk) = true := by simp
          generalize edP pr ps pk k = ek at *
          clear HSU
          go_wp2_with fail
          clear k1 kf kq
          generalize wr = wo at *
          go_loopw [7, 10] (fun u j wr => ∃ m : Nat, m ≤ nh ∧ j = .int .i64 m ∧ Hid (Gro w1 (w.heap.size + 1) wr u (ek ++ (ps.map (fun h => h.args.getD k 0)).take m)) ∧ Hid (u ≠ .slice none 0 0)) (fun _ i _ => nh - (intOf i).toNat)
          case atStart => exact ⟨0, Nat.zero_le _, rfl, hide (by simpa using HG.out), HU⟩
          case round =>
            obtain ⟨m, hm, rfl, HG2, HU2⟩ := hrel
            have kf := HG2.out.cell (by omega) HF1.out
            have kq := HG2.out.cell (by omega) HQQ.out
            by_cases hlt2 : m < nh
            · have hmp : m < ps.length := by rw [← HNH.out]; exact hlt2
              obtain ⟨b2, o2, rfl, ⟨hb2l, hb2u⟩, aa, ac, g0, g1, gi⟩ := HPHW.out m hmp
              have hal := (HPA.out ps[m] (List.getElem_mem hmp)).1
              have hka : k < ps[m].args.length := by omega
              obtain ⟨b3, o3, rfl, ⟨hb3l, hb3u⟩, g3⟩ := gi k hka
              have m1 := HG2.out.cell (by omega) g1
              have m3 := HG2.out.cell (by omega) g3
              have HTK : Hid ((ps.map (fun h => h.args.getD k 0)).take (m + 1) = (ps.map (fun h => h.args.getD k 0)).take m ++ [ps[m].args[k]]) := hide (by rw [take_next _ _ (by simpa using hmp)]; simp [hka])
              have HLL : Hid ((ek ++ (ps.map (fun h => h.args.getD k 0)).take m).length ≤ 4004000) := hide (by have := HLE.out; rw [List.length_append, List.length_take]; omega)
              have hkA : (k : Int) < (ps[m].args.length : Int) := by omega
              generalize (ps.map (fun h => h.args.getD k 0)).take m = tm at *
              generalize ps[m].args[k] = av at *
              generalize ps[m].args.length = la at *
              generalize hel : ek ++ tm = el at *
              have HEL := hide hel
              clear g0 g1 g3 gi hal hel
              go_wp2_with (at_builtin; refine wpList_append_own_at _ rfl _ _ 35 rfl (w.heap.size + 1) 2 i0 (.int .i64 0) 1 8 Tryd.underlying35 hi0 hz0 hz1 hz2 rfl (by decide) _ _ _ rfl (HG2.out.own.alloc _) ⟨wr.heap.size, 0, none⟩ 1 1 [.int .i64 av] rfl rfl ?c1 ?c2 ?c3 ?c4 ?c5 ?_)
              case c1 =>
                intro j u hj
                match j, hj with
                | 0, hj => simp at hj; subst hj; simp [Addr.add]
              case c2 => intro u hu; simp at hu; subst hu; rfl
              case c3 => have := HLL.out; unfold maxLen; omega
              case c4 => have := HLL.out; omega
              case c5 => have := HG2.out.size; simp; omega
              intro u1 w2 hown1 hgrow1 hne1 hat1
              have HG3 := hide ((HG2.out.alloc _).push (x := av) hgrow1 hown1 (by rw [World.size_alloc]; exact hat1))
              have HU3 : Hid (u1 ≠ .slice none 0 0) := hide hne1
              clear hown1 hgrow1 hat1 hne1 kf kq m1 m3
              go_wp2_with fail
              exact ⟨⟨m + 1, by omega, by go_num, hide (by rw [HTK.out, ← List.append_assoc, HEL.out]; exact HG3.out), HU3⟩, by simp [intOf]; omega⟩
            · have hme : nh ≤ m := by omega
              go_wp2_with fail
              exact ⟨⟨k + 1, by omega, by go_num, hide (by rw [HS2.out]; have h := HG2.out; rw [List.take_of_length_le (by rw [List.length_map, ← HNH.out]; exact hme)] at h; exact h), HU2⟩, by simp [intOf]; omega⟩
        · have HS2 : Hid (edP pr ps p (k + 1) = edP pr ps p k) := hide (by have h := HSU.out; rw [if_neg hpk, List.append_nil] at h; exact h)
          have hbq : (pk == p) = false := by simp [hpk]
          clear HSU hpk
          go_wp2_with fail
          exact ⟨⟨k + 1, by omega, by go_num, hide (by rw [HS2.out]; exact HG.out), HU⟩, by simp [intOf]; omega⟩
      · have hke : k = pr.length := by have := HNP.out; omega
        go_wp2_with fail
        go_ret
        have hown := HG.out.own
        rw [hke, ← HED3.out] at hown
        obtain ⟨ad, cc, e2, hi⟩ := ints_owned hown
        cases ad with
        | none =>
          exfalso
          rcases own_form hown with ⟨h1, _, _⟩ | h1
          · exact HU.out h1
          · obtain ⟨g, cap, h1, _⟩ := h1
            rw [h1] at e2
            injection e2 with e2
            cases e2
        | some ad =>
          refine ⟨ad, cc, congrArg Ending.returned e2, ⟨HG.out.os.trans HB1.out.os, HG.out.tape.trans HB1.out.tape, HG.out.output.trans HB1.out.output, Nat.le_trans HB1.out.size HG.out.size, fun q hq => (HG.out.fr q (by omega) (by omega)).trans (HB1.out.block q hq)⟩, hi.mono (by omega) (Nat.le_refl _)⟩
end Go.Proofs.YtanaeindldcapaaDoor
