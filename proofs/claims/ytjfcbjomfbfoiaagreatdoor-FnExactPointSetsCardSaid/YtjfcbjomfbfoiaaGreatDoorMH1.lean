import Derived.Test.YtjfcbjomfbfoiaaGreatDoorMB1
namespace Go.Proofs.YtjfcbjomfbfoiaaGreatDoor
open Go.RowKit
/-- The two rows of marks. -/
structure BhW (w wr : World) (n : Nat) (lv op : Nat → Bool) : Prop where
  low : Below w.heap.size w wr
  r1 : wr.rowIs w.heap.size 4 n (fun b => .bool (lv b))
  r2 : wr.rowIs (w.heap.size + 1) 4 n (fun b => .bool (op b))
  sz : w.heap.size + 2 ≤ wr.heap.size
section
variable {w wr wr' : World} {n : Nat} {lv op : Nat → Bool}
theorem BhW.below (h : BhW w wr n lv op) (k : Below wr.heap.size wr wr') : BhW w wr' n lv op :=
  ⟨bnext h.low k, h.r1.of_block (k.block _ h.r1.lt), h.r2.of_block (k.block _ h.r2.lt), Nat.le_trans h.sz k.size⟩
theorem BhW.congr {lv' op' : Nat → Bool} (h : BhW w wr n lv op) (e1 : ∀ z, z < n → lv z = lv' z) (e2 : ∀ z, z < n → op z = op' z) : BhW w wr n lv' op' := ⟨h.low, row_as (C := Value.bool) h.r1 e1, row_as (C := Value.bool) h.r2 e2, h.sz⟩
theorem BhW.set1 (h : BhW w wr n lv op) (b : Nat) (q : Bool) : BhW w (wr.setCell ⟨w.heap.size, b, none⟩ (.bool q)) n (fun z => if z = b then q else lv z) op :=
  ⟨h.low.setCell (Nat.le_refl _) _, row_set (C := Value.bool) h.r1 b q, h.r2.setOther (by show w.heap.size + 1 ≠ w.heap.size; omega) _, by rw [size_setCell]; exact h.sz⟩
theorem BhW.set2 (h : BhW w wr n lv op) (b : Nat) (q : Bool) : BhW w (wr.setCell ⟨w.heap.size + 1, b, none⟩ (.bool q)) n lv (fun z => if z = b then q else op z) :=
  ⟨h.low.setCell (by show w.heap.size ≤ w.heap.size + 1; omega) _, h.r1.setOther (by show w.heap.size ≠ w.heap.size + 1; omega) _, row_set (C := Value.bool) h.r2 b q, by rw [size_setCell]; exact h.sz⟩
end
/-- Rounds that are left, against how many are marked. -/
def RnI (xs : List Blk) (v n k : Nat) (lv : Nat → Bool) : Prop := (∀ z, z < n → lv z = true → Lbe xs v z) ∧ (∀ z, z < n → barB xs z v = 1 → lv z = true) ∧ (n < k + cntB lv n ∨ (k = n ∧ cntB lv n = 0))
def BhR (w wr : World) (xs : List Blk) (v n : Nat) (lv op : Nat → Bool) (gr : Value) (b : Nat) : Prop := ∃ (g : Bool) (lv' : Nat → Bool), gr = .bool g ∧ BhW w wr n lv' op ∧ BhI xs v n lv lv' b g
def BhJ (w wr : World) (xs : List Blk) (v n : Nat) (lv op : Nat → Bool) (gr : Value) (b j : Nat) : Prop := ∃ (g : Bool) (lv' : Nat → Bool), gr = .bool g ∧ BhW w wr n lv' op ∧ BhI xs v n lv lv' b g ∧ (lv' b = false → ∀ r, r < j → ∀ t, (tgN xs b)[r]? = some t → ¬ (lv' t = true ∧ phiB xs t v = false))
set_option maxHeartbeats 4000000 in
set_option maxRecDepth 100000 in
theorem behind_any (V v n c bf of : Nat) (xs : List Blk) (w : World) (hF : Hid (FactsAt w (some ⟨bf, of, none⟩) xs)) (hx : Hid (n = xs.length)) (ho : Hid (OkL V xs)) :
    Calls Tryz.prog 28 #[.slice (some ⟨bf, of, none⟩) n c, .int .i64 (v : Int)] w fun e w' => ∃ g, e = .returned (.slice (some ⟨g, 0, none⟩) n n) ∧ Below w.heap.size w w' ∧ w.heap.size ≤ g ∧ ∃ lv : Nat → Bool, w'.rowIs g 4 n (fun b => .bool (lv b)) ∧ ∀ b, b < n → (lv b = true ↔ Lbe xs v b) := by
  have hn : n ≤ 1000 := by have := hx.out; have := ho.out.okf.n2; omega
  have hn0 : 0 < n := by have := hx.out; have := ho.out.okf.n1; omega
  have hmk := run_make_row' (P := Tryz.prog) 49 4 (.bool false) 1 Tryz.underlying49 Tryz.infoBo rfl .i64 .i64 n (by omega) (by omega)
  have HR1 := hide (World.rowIs_made w (.bool false) n 4)
  have HR2 := hide (World.rowIs_made (w.alloc (.cells (madeCells #[.bool false] n) 4)) (.bool false) n 4)
  go_enter Tryz.func28, Tryz.ntmps28
  go_wp2_with fail
  have HW0 : Hid (BhW w ((w.alloc (.cells (madeCells #[.bool false] n) 4)).alloc (.cells (madeCells #[.bool false] n) 4)) n (fun z => decide (z < 0) && decide (barB xs z v = 1)) (fun z => decide (z < 0) && decide (barB xs z v = 0))) := hide ⟨balloc (balloc (Below.refl _ _) _) _, row_as (C := Value.bool) (HR1.out.alloc _) (fun z _ => by simp), row_as (C := Value.bool) (by have := HR2.out; rwa [World.size_alloc] at this) (fun z _ => by simp), by simp⟩
  clear HR1 HR2 hmk
  generalize (w.alloc (.cells (madeCells #[.bool false] n) 4)).alloc (.cells (madeCells #[.bool false] n) 4) = w2 at *
  go_loopw [7] (fun i wr => ∃ b : Nat, b ≤ n ∧ i = .int .i64 b ∧ Hid (BhW w wr n (fun z => decide (z < b) && decide (barB xs z v = 1)) (fun z => decide (z < b) && decide (barB xs z v = 0)))) (fun i _ => n - (intOf i).toNat)
  case atStart => exact ⟨0, Nat.zero_le _, rfl, HW0⟩
  case round =>
    clear HW0
    obtain ⟨b, hb, rfl, HW⟩ := hrel
    by_cases hlt : b < n
    · obtain ⟨a0, n0, a1, n1, a2, n2, a3, n3, a4, n4, a5, n5, c0, c1, c2, c3, c4, c5, hbf, x0, x1, x2, x3, x4, x5, _, _, _, _, _, hfc⟩ := FactsAt.row ho.out hF.out HW.out.low (show b < xs.length by have := hx.out; omega)
      have HBR := hide (hfc.bare v)
      clear hfc
      go_wp2_with fail
      refine HBR.out.mono ?_
      rintro e w3 ⟨rfl, hb3⟩
      have HW3 := hide (HW.out.below hb3)
      have k1 := HW3.out.r1.cell hlt
      have k2 := HW3.out.r2.cell hlt
      have z1 := HW3.out.r1.frozen b
      have z2 := HW3.out.r2.frozen b
      clear hb3 HBR x0 x1 x2 x3 x4 x5
      obtain ⟨q1, hq1⟩ : ∃ q : Bool, (((barB xs b v : Nat) : Int) == 1) = q := ⟨_, rfl⟩
      obtain ⟨q2, hq2⟩ : ∃ q : Bool, (((barB xs b v : Nat) : Int) == 0) = q := ⟨_, rfl⟩
      have HQ : Hid (q1 = decide (barB xs b v = 1) ∧ q2 = decide (barB xs b v = 0)) := hide (by
        rw [← hq1, ← hq2]
        constructor
        · rw [Bool.eq_iff_iff, beq_iff_eq, decide_eq_true_eq]; omega
        · rw [Bool.eq_iff_iff, beq_iff_eq, decide_eq_true_eq]; omega)
      have k2' : ∀ u, (w3.setCell ⟨w.heap.size, b, none⟩ u).cell? ⟨w.heap.size + 1, b, none⟩ = w3.cell? ⟨w.heap.size + 1, b, none⟩ := fun u => World.cell?_of_block (Below.heap_setCell _ _ _ _ (by show w.heap.size + 1 ≠ w.heap.size; omega))
      go_wp2_with fail
      exact ⟨⟨b + 1, by omega, by go_num, hide (((HW3.out.set1 b q1).set2 b q2).congr (fun z hz => by
        by_cases e : z = b
        · subst e; simp [HQ.out.1]
        · have : z < b + 1 ↔ z < b := by omega
          simp [e, this]) (fun z hz => by
        by_cases e : z = b
        · subst e; simp [HQ.out.2]
        · have : z < b + 1 ↔ z < b := by omega
          simp [e, this]))⟩, by simp [intOf]; omega⟩
    · have hbe : n = b := by omega
      have HW1 : Hid (BhW w wr n (fun z => decide (barB xs z v = 1)) (fun z => decide (barB xs z v = 0))) := hide (HW.out.congr (fun z hz => by simp [← hbe, hz]) (fun z hz => by simp [← hbe, hz]))
      subst hbe
      clear HW
      have HRN : Hid (RnI xs v n n (fun z => decide (barB xs z v = 1))) := hide ⟨fun z hz h => Lbe.here (by have := hx.out; omega) (of_decide_eq_true h), fun z _ h => decide_eq_true h, by omega⟩
      go_wp2_with fail
      generalize (fun z => decide (barB xs z v = 1)) = lv0 at *
      generalize hop : (fun z => decide (barB xs z v = 0)) = op0 at *
      have HOP : Hid (∀ z, op0 z = decide (barB xs z v = 0)) := hide (fun z => by rw [← hop])
      clear hop
      generalize wr = w5 at *
      go_loopw [9] (fun r wr => ∃ (k : Nat) (lv : Nat → Bool), k ≤ n ∧ r = .int .i64 k ∧ Hid (BhW w wr n lv op0) ∧ Hid (RnI xs v n k lv)) (fun r _ => (intOf r).toNat)
      case atStart => exact ⟨n, lv0, Nat.le_refl _, rfl, HW1, HRN⟩
      case round =>
        clear HW1 HRN
        obtain ⟨k, lv, hk, rfl, HW1, HRN⟩ := hrel
        have hk0 : 0 < k := by
          have h1 := HRN.out.2.2
          have h2 := cntB_le lv n
          omega
        have HBI : Hid (BhR w wr xs v n lv op0 (.bool false) 0) := hide ⟨false, lv, rfl, HW1.out, BhI.start HRN.out.1 HRN.out.2.1⟩
        clear HW1
        go_wp2_with fail
        generalize wr = w6 at *
        go_loopw [10, 11] (fun gr bb wr => ∃ b : Nat, b ≤ n ∧ bb = .int .i64 b ∧ Hid (BhR w wr xs v n lv op0 gr b)) (fun _ bb _ => n - (intOf bb).toNat)
        case atStart => exact ⟨0, Nat.zero_le _, rfl, HBI⟩
        case round =>
          clear HBI
          obtain ⟨b, hb, rfl, HBI⟩ := hrel
          by_cases hlt : b < n
          · have hbx : b < xs.length := by have := hx.out; omega
            obtain ⟨a0, n0, a1, n1, a2, n2, a3, n3, a4, n4, a5, n5, c0, c1, c2, c3, c4, c5, hbf, y0, _, _, _, _, _, hn0', _, _, _, _, hfc⟩ := FactsAt.row ho.out hF.out (Below.refl w.heap.size w) hbx
            have HT := hide hfc.t
            clear hfc
            have HBJ : Hid (BhJ w wr xs v n lv op0 u10 b 0) := hide (by
              obtain ⟨g, lv', e, h1, h2⟩ := HBI.out
              exact ⟨g, lv', e, h1, h2, fun _ r hr => absurd hr (by omega)⟩)
            clear HBI
            go_wp2_with fail
            generalize wr = w7 at *
            go_loopw [10, 12] (fun gr jj wr => ∃ j : Nat, j ≤ n0 ∧ jj = .int .i64 j ∧ Hid (BhJ w wr xs v n lv op0 gr b j)) (fun _ jj _ => n0 - (intOf jj).toNat)
            case atStart => exact ⟨0, Nat.zero_le _, rfl, HBJ⟩
            case round =>
              clear HBJ
              obtain ⟨j, hj, rfl, HBJ⟩ := hrel
              obtain ⟨g, lv', rfl, hW, hI, hJ⟩ := HBJ.out
              have HW := hide hW
              have HI := hide hI
              have HJ := hide hJ
              have k0 := (hW.low.cell (p := ⟨bf, of + b * 6, none⟩) hbf).trans y0
              have k1 := hW.r1.cell hlt
              have k2 := hW.r2.cell hlt
              clear HBJ hW hI hJ
              by_cases hop : barB xs b v = 0
              · have ho1 : op0 b = true := by rw [HOP.out]; exact decide_eq_true hop
                rw [ho1] at k2
                cases hlb : lv' b with
                | true =>
                  rw [hlb] at k1
                  have HNX : Hid (BhR w wr xs v n lv op0 (.bool g) (b + 1)) := hide ⟨g, lv', rfl, HW.out, HI.out.next (fun _ _ _ _ _ _ => hlb)⟩
                  clear hlb ho1
                  go_wp2_with fail
                  exact ⟨⟨b + 1, by omega, by go_num, HNX⟩, by simp [intOf]; omega⟩
                | false =>
                  rw [hlb] at k1
                  by_cases hjn : j < n0
                  · have hjt : j < (tgN xs b).length := by rw [← HT.out.1]; exact hjn
                    have hjI : j < (natI (tgN xs b)).length := by simp [natI]; exact hjt
                    obtain ⟨bt, ot, rfl, ⟨_, hbt⟩, hct⟩ := HT.out.2 j hjI
                    have ect : (natI (tgN xs b))[j] = (((tgN xs b)[j] : Nat) : Int) := by simp [natI]
                    rw [ect] at hct
                    have htg := List.getElem_mem hjt
                    have htx := ho.out.okf.tg _ hbx _ htg
                    have HGE : Hid ((tgN xs b)[j]? = some (tgN xs b)[j]) := hide (List.getElem?_eq_getElem hjt)
                    obtain ⟨t, ht⟩ : ∃ t, t = (tgN xs b)[j] := ⟨_, rfl⟩
                    rw [← ht] at hct htg htx HGE
                    have HTG := hide htg
                    have htn : t < n := by have := hx.out; omega
                    have kt := (HW.out.low.cell (p := ⟨bt, ot + j, none⟩) hbt).trans hct
                    have kl := HW.out.r1.cell htn
                    obtain ⟨d0, m0, d1, m1, d2, m2, d3, m3, d4, m4, d5, m5, f0, f1, f2, f3, f4, f5, _, _, t1, _, _, _, _, _, hm1, _, _, _, hft⟩ := FactsAt.row ho.out hF.out HW.out.low htx
                    have HHP := hide (l1Has_any d1 m1 f1 (v : Int) (phL xs t) 0 w.heap.size wr (hide hft.p.2) (hide hft.p.1) (by omega))
                    have HPB : Hid (phiB xs t v = hasI (phL xs t) (v : Int)) := hide (phiB_eq xs t v)
                    clear hct htg ht ect hft
                    cases hlt' : lv' t with
                    | false =>
                      rw [hlt'] at kl
                      have HNX : Hid (BhJ w wr xs v n lv op0 (.bool g) b (j + 1)) := hide ⟨g, lv', rfl, HW.out, HI.out, fun h r hr z hz => by
                        by_cases e : r = j
                        · subst e
                          rw [HGE.out] at hz
                          injection hz with hz
                          subst hz
                          rw [hlt']
                          exact fun h => by cases h.1
                        · exact HJ.out h r (by omega) z hz⟩
                      clear hlt' hlb ho1
                      go_wp2_with fail
                      exact ⟨⟨j + 1, by omega, by go_num, HNX⟩, by simp [intOf]; omega⟩
                    | true =>
                      rw [hlt'] at kl
                      have HLT := hide hlt'
                      have HLB := hide hlb
                      have HP0 := hide hop
                      have z1 := HW.out.r1.frozen b
                      clear hlt' hlb ho1 hop
                      go_wp2_with fail
                      refine HHP.out.mono ?_
                      rintro e w8 ⟨rfl, hw8⟩
                      subst hw8
                      cases hph : hasI (phL xs t) (v : Int) with
                      | true =>
                        have HNX : Hid (BhJ w w8 xs v n lv op0 (.bool g) b (j + 1)) := hide ⟨g, lv', rfl, HW.out, HI.out, fun h r hr z hz => by
                          by_cases e : r = j
                          · subst e
                            rw [HGE.out] at hz
                            injection hz with hz
                            subst hz
                            rw [HPB.out, hph]
                            exact fun h => by cases h.2
                          · exact HJ.out h r (by omega) z hz⟩
                        clear hph
                        go_wp2_with fail
                        refine ⟨?_, by simp [intOf]; omega⟩
                        first
                          | exact ⟨j + 1, by omega, by go_num, HNX⟩
                          | ((repeat apply Exists.intro); refine ⟨?_, rfl⟩; exact ⟨j + 1, by omega, by go_num, HNX⟩)
                      | false =>
                        have HNX : Hid (BhJ w (w8.setCell ⟨w.heap.size, b, none⟩ (.bool true)) xs v n lv op0 (.bool true) b (j + 1)) := hide ⟨true, _, rfl, HW.out.set1 b true, HI.out.set hx.out hlt HTG.out htn HP0.out HLB.out HLT.out (by rw [HPB.out]; exact hph), fun h => by simp at h⟩
                        clear hph
                        go_wp2_with fail
                        refine ⟨?_, by simp [intOf]; omega⟩
                        first
                          | exact ⟨j + 1, by omega, by go_num, HNX⟩
                          | ((repeat apply Exists.intro); refine ⟨?_, rfl⟩; exact ⟨j + 1, by omega, by go_num, HNX⟩)
                  · have HNX : Hid (BhR w wr xs v n lv op0 (.bool g) (b + 1)) := hide ⟨g, lv', rfl, HW.out, HI.out.next (fun _ _ t ht h1 h2 => by
                      obtain ⟨r, hr, e⟩ := List.getElem_of_mem ht
                      exact absurd ⟨h1, h2⟩ (HJ.out hlb r (by have := HT.out.1; omega) t (by rw [List.getElem?_eq_getElem hr, e])))⟩
                    clear hlb ho1
                    go_wp2_with fail
                    exact ⟨⟨b + 1, by omega, by go_num, HNX⟩, by simp [intOf]; omega⟩
              · have ho1 : op0 b = false := by rw [HOP.out]; exact decide_eq_false hop
                rw [ho1] at k2
                have HNX : Hid (BhR w wr xs v n lv op0 (.bool g) (b + 1)) := hide ⟨g, lv', rfl, HW.out, HI.out.next (fun _ h => absurd h hop)⟩
                clear ho1 hop
                go_wp2_with fail
                exact ⟨⟨b + 1, by omega, by go_num, HNX⟩, by simp [intOf]; omega⟩
          · have hbe : b = n := by omega
            subst hbe
            obtain ⟨g, lv', rfl, hW, hI⟩ := HBI.out
            have HW := hide hW
            have HI := hide hI
            clear HBI hW hI
            cases g with
            | true =>
              have HRN2 : Hid (RnI xs v b (k - 1) lv') := hide ⟨HI.out.snd, HI.out.here, by
                have h1 := HI.out.yes rfl
                have h2 := HRN.out.2.2
                have h3 := cntB_le lv' b
                omega⟩
              go_wp2_with fail
              exact ⟨⟨k - 1, lv', by omega, by go_num, HW, HRN2⟩, by simp [intOf]; omega⟩
            | false =>
              go_wp2_with fail
              go_ret
              exact ⟨w.heap.size, rfl, HW.out.low, Nat.le_refl _, lv', HW.out.r1, HI.out.done hx.out⟩
end Go.Proofs.YtjfcbjomfbfoiaaGreatDoor

namespace Go.Proofs.YtjfcbjomfbfoiaaGreatDoor
open Go.RowKit
def SmX (a b : World) : Prop := a = b
def LoS (xs : List Blk) (v b : Nat) (w : World) (e : Ending) (w' : World) : Prop := ∃ s : Bool, e = .returned (.bool s) ∧ (s = true ↔ Lou xs v b) ∧ Below w.heap.size w w'
set_option maxHeartbeats 4000000 in
set_option maxRecDepth 100000 in
theorem liveOut_any (V v n c bf of g b : Nat) (xs : List Blk) (lv : Nat → Bool) (w : World) (hF : Hid (FactsAt w (some ⟨bf, of, none⟩) xs)) (hx : Hid (n = xs.length)) (ho : Hid (OkL V xs)) (hb : b < n) (hr : Hid (w.rowIs g 4 n (fun z => .bool (lv z)))) (hlv : Hid (∀ z, z < n → (lv z = true ↔ Lbe xs v z))) :
    Calls Tryz.prog 30 #[.slice (some ⟨bf, of, none⟩) n c, .slice (some ⟨g, 0, none⟩) n n, .int .i64 (v : Int), .int .i64 (b : Int)] w fun e w' => LoS xs v b w e w' := by
  have hn : n ≤ 1000 := by have := hx.out; have := ho.out.okf.n2; omega
  have hbx : b < xs.length := by have := hx.out; omega
  obtain ⟨a0, n0, a1, n1, a2, n2, a3, n3, a4, n4, a5, n5, c0, c1, c2, c3, c4, c5, hbf, x0, _, x2, _, _, _, hn0', _, hn2', _, _, hfc⟩ := FactsAt.row ho.out hF.out (Below.refl w.heap.size w) hbx
  have HT := hide hfc.t
  have HE := hide (l1Has_big a2 n2 c2 (v : Int) (edgesM xs b) 0 w.heap.size w (hide hfc.e.2) (hide hfc.e.1) (by omega))
  clear hfc
  cases hed : hasI (edgesM xs b) (v : Int) with
  | true =>
    have HLO : Hid (Lou xs v b) := hide (Or.inl (hasI_iff.1 hed))
    rw [hed] at HE
    clear hed
    go_enter Tryz.func30, Tryz.ntmps30
    go_wp2_with fail
    refine HE.out.mono ?_
    rintro e w3 ⟨rfl, hw3⟩
    have e3 := hw3.symm
    subst e3
    go_wp2_with fail
    go_ret
    exact ⟨true, rfl, ⟨fun _ => HLO.out, fun _ => rfl⟩, Below.refl _ _⟩
  | false =>
    have HNE : Hid (¬ (v : Int) ∈ edgesM xs b) := hide (fun h => by rw [hasI_iff.2 h] at hed; cases hed)
    rw [hed] at HE
    clear hed
    go_enter Tryz.func30, Tryz.ntmps30
    go_wp2_with fail
    refine HE.out.mono ?_
    rintro e w3 ⟨rfl, hw3⟩
    have e3 := hw3.symm
    subst e3
    clear HE
    go_wp2_with fail
    go_loopw [9] (fun i wr => ∃ j : Nat, j ≤ n0 ∧ i = .int .i64 j ∧ Hid (SmX wr w) ∧ Hid (∀ r, r < j → ∀ t, (tgN xs b)[r]? = some t → ¬ Lin xs v t)) (fun i _ => n0 - (intOf i).toNat)
    case atStart => exact ⟨0, Nat.zero_le _, rfl, hide rfl, hide (fun r hr => absurd hr (by omega))⟩
    case round =>
      obtain ⟨j, hj, rfl, HSW, HNO⟩ := hrel
      have esw : w = wr := Eq.symm HSW.out
      clear HSW
      subst esw
      by_cases hjn : j < n0
      · have hjt : j < (tgN xs b).length := by rw [← HT.out.1]; exact hjn
        have hjI : j < (natI (tgN xs b)).length := by simp [natI]; exact hjt
        obtain ⟨bt, ot, rfl, ⟨_, hbt⟩, hct⟩ := HT.out.2 j hjI
        have ect : (natI (tgN xs b))[j] = (((tgN xs b)[j] : Nat) : Int) := by simp [natI]
        rw [ect] at hct
        have htg := List.getElem_mem hjt
        have htx := ho.out.okf.tg _ hbx _ htg
        have HGE : Hid ((tgN xs b)[j]? = some (tgN xs b)[j]) := hide (List.getElem?_eq_getElem hjt)
        obtain ⟨t, ht⟩ : ∃ t, t = (tgN xs b)[j] := ⟨_, rfl⟩
        rw [← ht] at hct htg htx HGE
        have HTG := hide htg
        have htn : t < n := by have := hx.out; omega
        have kl := hr.out.cell htn
        have HLV := hide (hlv.out t htn)
        obtain ⟨d0, m0, d1, m1, d2, m2, d3, m3, d4, m4, d5, m5, f0, f1, f2, f3, f4, f5, _, _, t1, _, _, _, _, _, hm1, _, _, _, hft⟩ := FactsAt.row ho.out hF.out (Below.refl w.heap.size w) htx
        have HHP := hide (l1Has_any d1 m1 f1 (v : Int) (phL xs t) 0 w.heap.size w (hide hft.p.2) (hide hft.p.1) (by omega))
        have HPB : Hid (phiB xs t v = hasI (phL xs t) (v : Int)) := hide (phiB_eq xs t v)
        clear htg ht ect hft
        have HNN : Hid (¬ Lin xs v t → ∀ r, r < j + 1 → ∀ t, (tgN xs b)[r]? = some t → ¬ Lin xs v t) := hide (fun h r hr z hz => by
          by_cases e : r = j
          · subst e
            rw [HGE.out] at hz
            injection hz with hz
            subst hz
            exact h
          · exact HNO.out r (by omega) z hz)
        cases hlt' : lv t with
        | false =>
          rw [hlt'] at kl
          have HNX : Hid (∀ r, r < j + 1 → ∀ t, (tgN xs b)[r]? = some t → ¬ Lin xs v t) := hide (HNN.out (fun h => by rw [HLV.out.2 h.2] at hlt'; cases hlt'))
          clear hlt'
          go_wp2_with fail
          exact ⟨⟨j + 1, by omega, by go_num, hide rfl, HNX⟩, by simp [intOf]; omega⟩
        | true =>
          rw [hlt'] at kl
          have HLB : Hid (Lbe xs v t) := hide (HLV.out.1 hlt')
          clear hlt'
          go_wp2_with fail
          refine HHP.out.mono ?_
          rintro e w8 ⟨rfl, hw8⟩
          have e8 := hw8.symm
          subst e8
          cases hph : hasI (phL xs t) (v : Int) with
          | true =>
            have HNX : Hid (∀ r, r < j + 1 → ∀ t, (tgN xs b)[r]? = some t → ¬ Lin xs v t) := hide (HNN.out (fun h => by have := h.1; rw [HPB.out, hph] at this; cases this))
            clear hph
            go_wp2_with fail
            refine ⟨?_, by simp [intOf]; omega⟩
            first
              | exact ⟨j + 1, by omega, by go_num, hide rfl, HNX⟩
              | ((repeat apply Exists.intro); refine ⟨?_, rfl⟩; exact ⟨j + 1, by omega, by go_num, hide rfl, HNX⟩)
          | false =>
            have HLO : Hid (Lou xs v b) := hide (Or.inr ⟨t, HTG.out, by rw [HPB.out]; exact hph, HLB.out⟩)
            clear hph
            go_wp2_with fail
            go_ret
            exact ⟨true, rfl, ⟨fun _ => HLO.out, fun _ => rfl⟩, Below.refl _ _⟩
      · have HNX : Hid (¬ Lou xs v b) := hide (by
          rintro (h | ⟨t, ht, h⟩)
          · exact HNE.out h
          · obtain ⟨r, hr, e⟩ := List.getElem_of_mem ht
            exact HNO.out r (by have := HT.out.1; omega) t (by rw [List.getElem?_eq_getElem hr, e]) h)
        go_wp2_with fail
        go_ret
        exact ⟨false, rfl, ⟨fun h => (by cases h), fun h => absurd h HNX.out⟩, Below.refl _ _⟩
end Go.Proofs.YtjfcbjomfbfoiaaGreatDoor

namespace Go.Proofs.YtjfcbjomfbfoiaaGreatDoor
open Go.RowKit
structure DbS (w : World) (base : Nat) (G : Bool → Nat) (n : Nat) (P : Bool → Nat → List Int) (U : Bool → Nat → Value) : Prop where
  g : G false < base ∧ G true < base ∧ G false ≠ G true
  row : ∀ s, w.rowIs (G s) 56 n (U s)
  own : ∀ s i, i < n → w.ownsRow base 2 1 (U s i) (P s i).length ((P s i).map (Value.int .i64))
  dj : ∀ s i s' j, i < n → j < n → (s, i) ≠ (s', j) → (U s i).ownBlock = none ∨ (U s i).ownBlock ≠ (U s' j).ownBlock
section
variable {w w' w1 : World} {base n : Nat} {G : Bool → Nat} {P P' : Bool → Nat → List Int} {U : Bool → Nat → Value}
theorem DbS.lt (h : DbS w base G n P U) (s : Bool) : G s < base := by
  cases s
  · exact h.g.1
  · exact h.g.2.1
theorem DbS.below (h : DbS w base G n P U) (k : Below w.heap.size w w') : DbS w' base G n P U := by
  refine ⟨h.g, fun s => (h.row s).of_block (k.block _ (h.row s).lt), fun s i hi => ?_, h.dj⟩
  refine (h.own s i hi).kept (row := none) ⟨k.os, k.tape, k.output, k.size, fun b hb _ => k.block b hb⟩ ?_
  cases (U s i).ownBlock <;> simp
theorem DbS.congr (h : DbS w base G n P U) (e : ∀ s i, i < n → P s i = P' s i) : DbS w base G n P' U :=
  ⟨h.g, h.row, fun s i hi => by rw [← e s i hi]; exact h.own s i hi, h.dj⟩
theorem DbS.step (h : DbS w base G n P U) {s : Bool} {t : Nat} (ht : t < n) (x : Int) (v' : Value) (hg : w.grownBy w1 (U s t).ownBlock)
    (ho : w1.ownsRow base 2 1 v' ((P s t).length + 1) ((P s t).map (Value.int .i64) ++ [.int .i64 x])) (hat : v'.ownBlock = (U s t).ownBlock ∨ v'.ownBlock = some w.heap.size) :
    DbS (w1.setCell ⟨G s, t, none⟩ v') base G n (fun s' i => if (s', i) = (s, t) then P s t ++ [x] else P s' i) (fun s' i => if (s', i) = (s, t) then v' else U s' i) := by
  have hr : ∀ s', w1.rowIs (G s') 56 n (U s') := fun s' => (h.row s').of_block (hg.block _ (h.row s').lt (fun e => by have := ((h.own s t ht).lt _ e.symm).1; have := h.lt s'; omega))
  have fresh : ∀ s' m, m < n → (U s' m).ownBlock = none ∨ (U s' m).ownBlock ≠ some w.heap.size := fun s' m hm => by
    by_cases e : (U s' m).ownBlock = some w.heap.size
    · have := ((h.own s' m hm).lt _ e).2; omega
    · exact Or.inr e
  refine ⟨h.g, fun s' => ?_, fun s' i hi => ?_, fun s1 i s2 j hi hj hij => ?_⟩
  · by_cases e : s' = s
    · subst e
      exact ((hr s').set t v').congr (fun i _ => by by_cases e2 : i = t <;> simp [e2])
    · refine ((hr s').setOther (a := ⟨G s, t, none⟩) (fun e2 => ?_) v').congr (fun i _ => by simp [e])
      have e2 : G s' = G s := e2
      cases s' <;> cases s <;> first | exact e rfl | exact h.g.2.2 e2 | exact h.g.2.2 e2.symm
  · refine ownsRow_setCell_below ?_ (h.lt s) _
    by_cases e : (s', i) = (s, t)
    · simp only [e, if_true, List.length_append, List.length_cons, List.length_nil, List.map_append, List.map_cons, List.map_nil]
      exact ho
    · simp only [e, if_false]
      exact (h.own s' i hi).kept hg (h.dj s' i s t hi ht e)
  · by_cases e1 : (s1, i) = (s, t)
    · have e2 : ¬ (s2, j) = (s, t) := fun e => hij (e1.trans e.symm)
      simp only [e1, if_true, e2, if_false]
      rcases hat with q | q
      · rw [q]
        exact h.dj s t s2 j ht hj (fun e => e2 e.symm)
      · right
        rw [q]
        intro hh
        rcases fresh s2 j hj with f | f
        · rw [f] at hh; cases hh
        · exact f hh.symm
    · simp only [e1, if_false]
      by_cases e2 : (s2, j) = (s, t)
      · simp only [e2, if_true]
        rcases hat with q | q
        · rw [q]; exact h.dj s1 i s t hi ht e1
        · rw [q]; exact fresh s1 i hi
      · simp only [e2, if_false]
        exact h.dj s1 i s2 j hi hj hij
/-- A row of another type is none of them. -/
theorem DbS.other (h : DbS w base G n P U) {b T m : Nat} {f : Nat → Value} (hb : w.rowIs b T m f) (hT : T ≠ 2) {s : Bool} {i : Nat} (hi : i < n) : (U s i).ownBlock ≠ some b := fun e => by
  obtain ⟨c, h1, _⟩ := hb
  rcases (h.own s i hi).2 with ⟨e1, _⟩ | ⟨g, cap, cur, e1, _, h2, _⟩
  · rw [e1] at e; cases e
  · rw [e1] at e
    injection e with e
    have e : g = b := e
    subst e
    rw [show w.heap[g]? = _ from h1] at h2
    injection h2 with h2
    injection h2 with _ h3
    exact hT h3
theorem DbS.ints (h : DbS w base G n P U) (s : Bool) {L : Nat} (hL : L ≤ G s) : IntssAt w L w.heap.size (some ⟨G s, 0, none⟩) ((List.range n).map (P s)) := fun i hi => by
  simp only [List.length_map, List.length_range] at hi
  obtain ⟨a, c, hv, ha⟩ := ints_owned (h.own s i hi)
  refine ⟨G s, 0, rfl, ⟨hL, (h.row s).lt⟩, a, c, ?_, ?_⟩
  · simp only [List.getElem_map, List.getElem_range, Nat.zero_add]
    rw [(h.row s).cell hi, hv]
  · simp only [List.getElem_map, List.getElem_range]
    exact ha.mono (by have := h.lt s; omega) (Nat.le_refl _)
end
end Go.Proofs.YtjfcbjomfbfoiaaGreatDoor
