import Derived.Test.YtdcdgopblbmgoaaGreatDoorWd
import Derived.Test.YtdcdgopblbmgoaaGreatDoorPure2
/-
  l1LineCode of the model.
-/
namespace Go.Proofs.YtdcdgopblbmgoaaGreatDoor
open Go.RowKit

def wBlock : List UInt8 := [98, 108, 111, 99, 107]
def wJump : List UInt8 := [106, 117, 109, 112]
def wRet : List UInt8 := [114, 101, 116]
def wBranch : List UInt8 := [98, 114, 97, 110, 99, 104]
def wPhi : List UInt8 := [112, 104, 105]
def wConst : List UInt8 := [99, 111, 110, 115, 116]
/-- How many fields a line with this word has; n: how many it has indeed. 0: no such word. -/
def wantN (w : List UInt8) (n : Nat) : Nat :=
  if opOf w ≠ 0 then 1 + (usesS (opOf w)).size else if w = wBlock then 1 else if w = wJump then 2 else if w = wRet then 2 else if w = wBranch then 4 else if w = wPhi then (if n < 3 then 3 else n) else 0
def numOk (fs : List (List UInt8)) (i : Nat) (f : List UInt8) : Bool := if fs.head? = some wConst ∧ i = 2 then isC f else decide (0 ≤ idx f)
def numsOk (fs : List (List UInt8)) (k : Nat) : Bool := (List.range k).all fun i => match fs[i + 1]? with | some f => numOk fs (i + 1) f | none => true
def lineCode (fs : List (List UInt8)) : Int :=
  if wantN (fs.headD []) fs.length = 0 then 5 else if fs.length ≠ wantN (fs.headD []) fs.length then 6 else if numsOk fs (fs.length - 1) = true then 0 else 7
theorem opFrom_spec (w : List UInt8) : ∀ (n k : Nat), opFrom w n k = 0 ∨ ∃ j : Nat, k ≤ j ∧ j < k + n ∧ opFrom w n k = j ∧ wordS j = w
  | 0, k => Or.inl rfl
  | n + 1, k => by
    rw [opFrom_step]
    split
    · rename_i h; exact Or.inr ⟨k, Nat.le_refl _, by omega, rfl, h⟩
    · rcases opFrom_spec w n (k + 1) with h | ⟨j, h1, h2, h3, h4⟩
      · exact Or.inl h
      · exact Or.inr ⟨j, by omega, by omega, h3, h4⟩
/-- The word of an operation is none of the others. -/
theorem op_other {w : List UInt8} (h : opOf w ≠ 0) : (1 ≤ opOf w ∧ opOf w ≤ 10) ∧ w ≠ wBlock ∧ w ≠ wJump ∧ w ≠ wRet ∧ w ≠ wBranch ∧ w ≠ wPhi := by
  rcases opFrom_spec w 10 1 with h0 | ⟨j, h1, h2, h3, rfl⟩
  · exact absurd h0 h
  · have e : opOf (wordS j) = j := h3
    refine ⟨by rw [e]; omega, ?_⟩
    have hc : j = 1 ∨ j = 2 ∨ j = 3 ∨ j = 4 ∨ j = 5 ∨ j = 6 ∨ j = 7 ∨ j = 8 ∨ j = 9 ∨ j = 10 := by omega
    rcases hc with rfl | rfl | rfl | rfl | rfl | rfl | rfl | rfl | rfl | rfl <;> decide

theorem nums_next (fs : List (List UInt8)) (k : Nat) (h1 : 1 ≤ k) (h : k < fs.length) : numsOk fs k = (numsOk fs (k - 1) && numOk fs k fs[k]) := by
  obtain ⟨j, rfl⟩ : ∃ j, k = j + 1 := ⟨k - 1, by omega⟩
  unfold numsOk
  rw [List.range_succ, List.all_append, Nat.add_sub_cancel]
  simp [List.getElem?_eq_getElem h]
theorem nums_no (fs : List (List UInt8)) (k : Nat) (h1 : 1 ≤ k) (h : k < fs.length) (hf : numOk fs k fs[k] = false) : numsOk fs (fs.length - 1) = false := by
  unfold numsOk
  rw [List.all_eq_false]
  refine ⟨k - 1, by rw [List.mem_range]; omega, ?_⟩
  rw [show k - 1 + 1 = k by omega, List.getElem?_eq_getElem h]
  simp [hf]

set_option maxHeartbeats 8000000 in
set_option maxRecDepth 100000 in
theorem l1LineCode_op (fs : List (List UInt8)) (b o : Nat) (c : Nat) (L B : Nat) (w : World) (ha : Hid (ValsAt w L B (some ⟨b, o, none⟩) (strsV fs))) (h0 : 0 < fs.length) (hn : fs.length ≤ 1000001) (hbB : b < B) (hB : B ≤ w.heap.size) (hfl : Hid (∀ f ∈ fs, f.length ≤ 1000000)) (F : List UInt8)
    (hc0 : w.cell? ⟨b, o, none⟩ = some (.string (strOf F))) (HH : Hid (fs.headD [] = F ∧ fs.head? = some F)) (hop : opOf F ≠ 0) :
    Calls Tryz.prog 16 #[.slice (some ⟨b, o, none⟩) fs.length c] w fun e w' => e = .returned (.int .i64 (lineCode fs)) ∧ Below w.heap.size w w' := by
  have HVL : Hid (∀ i, i < fs.length → i < (strsV fs).length) := hide (fun i h => by simpa [strsV] using h)
  have HOP := fun w => hide (l1OpOf_any F w)
  have hts := strOf_toList F
  obtain ⟨⟨hp1, hp2⟩, n1, n2, n3, n4, n5⟩ := op_other hop
  have hopb : (opOf F != 0) = true := by rw [bne_iff_ne]; exact hop
  have fb : (F == [98, 108, 111, 99, 107]) = false := by rw [beq_eq_false_iff_ne]; exact n1
  have fj : (F == [106, 117, 109, 112]) = false := by rw [beq_eq_false_iff_ne]; exact n2
  have fr : (F == [114, 101, 116]) = false := by rw [beq_eq_false_iff_ne]; exact n3
  have fbr : (F == [98, 114, 97, 110, 99, 104]) = false := by rw [beq_eq_false_iff_ne]; exact n4
  have fp : (F == [112, 104, 105]) = false := by rw [beq_eq_false_iff_ne]; exact n5
  have HW : Hid (wantN F fs.length = 1 + (usesS (opOf F)).size) := hide (by unfold wantN; rw [if_pos hop])
  have HK : Hid (¬ (1 + (usesS (opOf F)).size = 0)) := hide (by omega)
  have hus := usesS_size (opOf F)
  have HUS := fun w => hide (l1Uses_any (opOf F) w)
  clear n1 n2 n3 n4 n5 hop
  generalize opOf F = op at *
  generalize usesS op = U at *
  have hw0 : (1 + (U.size : Int) == 0) = false := by rw [beq_eq_false_iff_ne]; omega
  by_cases hlen : fs.length = 1 + U.size
  · by_cases hcn : F = wConst
    · have fc : (F == [99, 111, 110, 115, 116]) = true := by rw [beq_iff_eq]; exact hcn
      have HCN : Hid (fs.head? = some wConst) := hide (by rw [HH.out.2, hcn])
      clear hcn
      have H7 : Hid (numsOk fs (fs.length - 1) = false → lineCode fs = 7) := hide (fun h => by unfold lineCode; rw [HH.out.1, HW.out, if_neg HK.out, if_neg (by rw [hlen]; exact fun h => h rfl), h]; rfl)
      have H0 : Hid (numsOk fs (fs.length - 1) = true → lineCode fs = 0) := hide (fun h => by unfold lineCode; rw [HH.out.1, HW.out, if_neg HK.out, if_neg (by rw [hlen]; exact fun h => h rfl), h]; rfl)
      have hl2 : ((fs.length : Int) != 1 + (U.size : Int)) = false := by rw [bne_eq_false_iff_eq]; omega
      have HLEN := hide hlen
      clear hlen
      go_enter Tryz.func16, Tryz.ntmps16
      go_wp2_with (first | (go_at_call 28; refine (HOP _).out.mono ?_; rintro e w1 ⟨rfl, hb1⟩) | (go_at_call 29; refine (HUS _).out.mono ?_; rintro e w2 ⟨rfl, hw2⟩; rw [hw2]; clear hw2 w2))
      have HB1 := hide hb1
      clear hb1 hc0 hl2
      go_wp2
      go_loopw [6] (fun i wr => ∃ k : Nat, 1 ≤ k ∧ k ≤ fs.length ∧ i = .int .i64 k ∧ Hid (Below w.heap.size w wr) ∧ Hid (numsOk fs (k - 1) = true)) (fun i _ => fs.length - (intOf i).toNat)
      case atStart => exact ⟨1, Nat.le_refl _, h0, rfl, HB1, hide rfl⟩
      case round =>
        obtain ⟨k, hk1, hk, rfl, HB, HA⟩ := hrel
        have hws := HB.out.size
        by_cases hlt : k < fs.length
        · obtain ⟨b', o', e', ⟨_, hbB'⟩, hc'⟩ := ha.out k (HVL.out k hlt)
          cases e'
          have hc1 : wr.cell? ⟨b, o + k, none⟩ = some (.string (strOf fs[k])) := ((HB.out.cell (p := ⟨b, o + k, none⟩) (by show b < _; omega)).trans hc').trans (by simp [strsV])
          have HNX := hide (nums_next fs k hk1 hlt)
          have HNN := hide (nums_no fs k hk1 hlt)
          have HFL := hide (hfl.out fs[k] (List.getElem_mem hlt))
          have HIX := fun w => hide (l1Index_any fs[k] w)
          have HCO := fun w => hide (l1IsConstant_any 1000000 fs[k] HFL.out HFL.out w)
          clear hc'
          by_cases h2 : k = 2
          · have HNO : Hid (numOk fs k fs[k] = isC fs[k]) := hide (by unfold numOk; rw [if_pos ⟨HCN.out, h2⟩])
            have hz2 : ((k : Int) == 2) = true := by simp [h2]
            clear h2
            generalize fs[k] = g at *
            cases hg : isC g with
            | false =>
              have HV := hide (H7.out (HNN.out (by rw [HNO.out, hg])))
              have HG := hide hg
              clear hg
              go_wp2_with (go_at_call 30; refine (HCO _).out.mono ?_; rintro e w2 ⟨rfl, hb2⟩; rw [HG.out])
              go_ret
              exact ⟨ret_int HV.out.symm, HB.out.trans (hb2.mono hws)⟩
            | true =>
              have HA2 : Hid (numsOk fs ((k + 1) - 1) = true) := hide (by rw [Nat.add_sub_cancel, HNX.out, HA.out, HNO.out, hg]; rfl)
              have HG := hide hg
              clear hg
              go_wp2_with (go_at_call 30; refine (HCO _).out.mono ?_; rintro e w2 ⟨rfl, hb2⟩; rw [HG.out])
              have HB2 : Hid (Below w.heap.size w w2) := hide (HB.out.trans (hb2.mono hws))
              clear hb2
              go_wp2
              exact ⟨⟨k + 1, by omega, by omega, by go_num, HB2, HA2⟩, by simp [intOf]; omega⟩
          · have HNO : Hid (numOk fs k fs[k] = decide (0 ≤ idx fs[k])) := hide (by unfold numOk; rw [if_neg (fun h => h2 h.2)])
            have hz2 : ((k : Int) == 2) = false := by rw [beq_eq_false_iff_ne]; omega
            clear h2
            generalize fs[k] = g at *
            by_cases hg : 0 ≤ idx g
            · have HA2 : Hid (numsOk fs ((k + 1) - 1) = true) := hide (by rw [Nat.add_sub_cancel, HNX.out, HA.out, HNO.out, decide_eq_true hg]; rfl)
              have hg2 : ¬ idx g < 0 := by omega
              clear hg
              go_wp2_with (go_at_call 15; refine (HIX _).out.mono ?_; rintro e w2 ⟨rfl, hb2⟩)
              have HB2 : Hid (Below w.heap.size w w2) := hide (HB.out.trans (hb2.mono hws))
              clear hb2
              go_wp2
              exact ⟨⟨k + 1, by omega, by omega, by go_num, HB2, HA2⟩, by simp [intOf]; omega⟩
            · have HV := hide (H7.out (HNN.out (by rw [HNO.out, decide_eq_false hg])))
              have hg2 : idx g < 0 := by omega
              clear hg
              go_wp2_with (go_at_call 15; refine (HIX _).out.mono ?_; rintro e w2 ⟨rfl, hb2⟩)
              go_ret
              exact ⟨ret_int HV.out.symm, HB.out.trans (hb2.mono hws)⟩
        · have HV := hide (H0.out (by have := HA.out; rwa [show k - 1 = fs.length - 1 by omega] at this))
          go_wp2
          go_ret
          exact ⟨ret_int HV.out.symm, HB.out⟩
    · have fc : (F == [99, 111, 110, 115, 116]) = false := by rw [beq_eq_false_iff_ne]; exact hcn
      have HCN : Hid (¬ fs.head? = some wConst) := hide (by rw [HH.out.2]; intro h; exact hcn (Option.some.inj h))
      clear hcn
      have H7 : Hid (numsOk fs (fs.length - 1) = false → lineCode fs = 7) := hide (fun h => by unfold lineCode; rw [HH.out.1, HW.out, if_neg HK.out, if_neg (by rw [hlen]; exact fun h => h rfl), h]; rfl)
      have H0 : Hid (numsOk fs (fs.length - 1) = true → lineCode fs = 0) := hide (fun h => by unfold lineCode; rw [HH.out.1, HW.out, if_neg HK.out, if_neg (by rw [hlen]; exact fun h => h rfl), h]; rfl)
      have hl2 : ((fs.length : Int) != 1 + (U.size : Int)) = false := by rw [bne_eq_false_iff_eq]; omega
      have HLEN := hide hlen
      clear hlen
      go_enter Tryz.func16, Tryz.ntmps16
      go_wp2_with (first | (go_at_call 28; refine (HOP _).out.mono ?_; rintro e w1 ⟨rfl, hb1⟩) | (go_at_call 29; refine (HUS _).out.mono ?_; rintro e w2 ⟨rfl, hw2⟩; rw [hw2]; clear hw2 w2))
      have HB1 := hide hb1
      clear hb1 hc0 hl2
      go_wp2
      go_loopw [6] (fun i wr => ∃ k : Nat, 1 ≤ k ∧ k ≤ fs.length ∧ i = .int .i64 k ∧ Hid (Below w.heap.size w wr) ∧ Hid (numsOk fs (k - 1) = true)) (fun i _ => fs.length - (intOf i).toNat)
      case atStart => exact ⟨1, Nat.le_refl _, h0, rfl, HB1, hide rfl⟩
      case round =>
        obtain ⟨k, hk1, hk, rfl, HB, HA⟩ := hrel
        have hws := HB.out.size
        by_cases hlt : k < fs.length
        · obtain ⟨b', o', e', ⟨_, hbB'⟩, hc'⟩ := ha.out k (HVL.out k hlt)
          cases e'
          have hc1 : wr.cell? ⟨b, o + k, none⟩ = some (.string (strOf fs[k])) := ((HB.out.cell (p := ⟨b, o + k, none⟩) (by show b < _; omega)).trans hc').trans (by simp [strsV])
          have HNX := hide (nums_next fs k hk1 hlt)
          have HNN := hide (nums_no fs k hk1 hlt)
          have HFL := hide (hfl.out fs[k] (List.getElem_mem hlt))
          have HIX := fun w => hide (l1Index_any fs[k] w)
          have HCO := fun w => hide (l1IsConstant_any 1000000 fs[k] HFL.out HFL.out w)
          clear hc'
          have HNO : Hid (numOk fs k fs[k] = decide (0 ≤ idx fs[k])) := hide (by unfold numOk; rw [if_neg (fun h => HCN.out h.1)])
          generalize fs[k] = g at *
          by_cases hg : 0 ≤ idx g
          · have HA2 : Hid (numsOk fs ((k + 1) - 1) = true) := hide (by rw [Nat.add_sub_cancel, HNX.out, HA.out, HNO.out, decide_eq_true hg]; rfl)
            have hg2 : ¬ idx g < 0 := by omega
            clear hg
            go_wp2_with (go_at_call 15; refine (HIX _).out.mono ?_; rintro e w2 ⟨rfl, hb2⟩)
            have HB2 : Hid (Below w.heap.size w w2) := hide (HB.out.trans (hb2.mono hws))
            clear hb2
            go_wp2
            exact ⟨⟨k + 1, by omega, by omega, by go_num, HB2, HA2⟩, by simp [intOf]; omega⟩
          · have HV := hide (H7.out (HNN.out (by rw [HNO.out, decide_eq_false hg])))
            have hg2 : idx g < 0 := by omega
            clear hg
            go_wp2_with (go_at_call 15; refine (HIX _).out.mono ?_; rintro e w2 ⟨rfl, hb2⟩)
            go_ret
            exact ⟨ret_int HV.out.symm, HB.out.trans (hb2.mono hws)⟩
        · have HV := hide (H0.out (by have := HA.out; rwa [show k - 1 = fs.length - 1 by omega] at this))
          go_wp2
          go_ret
          exact ⟨ret_int HV.out.symm, HB.out⟩
  · skip
    have H6 : Hid (lineCode fs = 6) := hide (by unfold lineCode; rw [HH.out.1, HW.out, if_neg HK.out, if_pos hlen])
    have hl2 : ((fs.length : Int) != 1 + (U.size : Int)) = true := by rw [bne_iff_ne]; omega
    clear hlen
    go_enter Tryz.func16, Tryz.ntmps16
    go_wp2_with (first | (go_at_call 28; refine (HOP _).out.mono ?_; rintro e w1 ⟨rfl, hb1⟩) | (go_at_call 29; refine (HUS _).out.mono ?_; rintro e w2 ⟨rfl, hw2⟩; rw [hw2]; clear hw2 w2))
    go_ret
    exact ⟨ret_int H6.out.symm, hb1⟩

end Go.Proofs.YtdcdgopblbmgoaaGreatDoor

/-
  l1LineCode of the model: the other words.
-/
namespace Go.Proofs.YtdcdgopblbmgoaaGreatDoor
open Go.RowKit

set_option maxHeartbeats 8000000 in
set_option maxRecDepth 100000 in
theorem lineCode_b (fs : List (List UInt8)) (b o : Nat) (c : Nat) (L B : Nat) (w : World) (ha : Hid (ValsAt w L B (some ⟨b, o, none⟩) (strsV fs))) (h0 : 0 < fs.length) (hn : fs.length ≤ 1000001) (hbB : b < B) (hB : B ≤ w.heap.size) (hfl : Hid (∀ f ∈ fs, f.length ≤ 1000000)) (F : List UInt8)
    (hc0 : w.cell? ⟨b, o, none⟩ = some (.string (strOf F))) (HH : Hid (fs.headD [] = F ∧ fs.head? = some F)) (hF : F = wBlock) :
    Calls Tryz.prog 16 #[.slice (some ⟨b, o, none⟩) fs.length c] w fun e w' => e = .returned (.int .i64 (lineCode fs)) ∧ Below w.heap.size w w' := by
  have HVL : Hid (∀ i, i < fs.length → i < (strsV fs).length) := hide (fun i h => by simpa [strsV] using h)
  have HOP := fun w => hide (l1OpOf_any F w)
  have hts := strOf_toList F
  have fb : (F == [98, 108, 111, 99, 107]) = true := by rw [hF]; rfl
  have fj : (F == [106, 117, 109, 112]) = false := by rw [hF]; rfl
  have fr : (F == [114, 101, 116]) = false := by rw [hF]; rfl
  have fbr : (F == [98, 114, 97, 110, 99, 104]) = false := by rw [hF]; rfl
  have fp : (F == [112, 104, 105]) = false := by rw [hF]; rfl
  have fc : (F == [99, 111, 110, 115, 116]) = false := by rw [hF]; rfl
  have HOZ : Hid (opOf F = 0) := hide (by rw [hF]; rfl)
  have HCN : Hid (¬ fs.head? = some wConst) := hide (by rw [HH.out.2, hF]; decide)
  have HW : Hid (wantN F fs.length = 1) := hide (by rw [hF]; rfl)
  have HK : Hid (¬ ((1 : Nat) = 0)) := hide (by decide)
  clear hF
  by_cases hlen : fs.length = 1
  · skip
    have H7 : Hid (numsOk fs (fs.length - 1) = false → lineCode fs = 7) := hide (fun h => by unfold lineCode; rw [HH.out.1, HW.out, if_neg HK.out, if_neg (by rw [hlen]; exact fun h => h rfl), h]; rfl)
    have H0 : Hid (numsOk fs (fs.length - 1) = true → lineCode fs = 0) := hide (fun h => by unfold lineCode; rw [HH.out.1, HW.out, if_neg HK.out, if_neg (by rw [hlen]; exact fun h => h rfl), h]; rfl)
    have hl2 : ((fs.length : Int) != (1 : Int)) = false := by rw [bne_eq_false_iff_eq]; omega
    have HLEN := hide hlen
    clear hlen
    go_enter Tryz.func16, Tryz.ntmps16
    go_wp2_with (go_at_call 28; refine (HOP _).out.mono ?_; rintro e w1 ⟨rfl, hb1⟩; rw [HOZ.out])
    have HB1 := hide hb1
    clear hb1 hc0 hl2
    go_wp2
    go_loopw [6] (fun i wr => ∃ k : Nat, 1 ≤ k ∧ k ≤ fs.length ∧ i = .int .i64 k ∧ Hid (Below w.heap.size w wr) ∧ Hid (numsOk fs (k - 1) = true)) (fun i _ => fs.length - (intOf i).toNat)
    case atStart => exact ⟨1, Nat.le_refl _, h0, rfl, HB1, hide rfl⟩
    case round =>
      obtain ⟨k, hk1, hk, rfl, HB, HA⟩ := hrel
      have hws := HB.out.size
      by_cases hlt : k < fs.length
      · obtain ⟨b', o', e', ⟨_, hbB'⟩, hc'⟩ := ha.out k (HVL.out k hlt)
        cases e'
        have hc1 : wr.cell? ⟨b, o + k, none⟩ = some (.string (strOf fs[k])) := ((HB.out.cell (p := ⟨b, o + k, none⟩) (by show b < _; omega)).trans hc').trans (by simp [strsV])
        have HNX := hide (nums_next fs k hk1 hlt)
        have HNN := hide (nums_no fs k hk1 hlt)
        have HFL := hide (hfl.out fs[k] (List.getElem_mem hlt))
        have HIX := fun w => hide (l1Index_any fs[k] w)
        have HCO := fun w => hide (l1IsConstant_any 1000000 fs[k] HFL.out HFL.out w)
        clear hc'
        have HNO : Hid (numOk fs k fs[k] = decide (0 ≤ idx fs[k])) := hide (by unfold numOk; rw [if_neg (fun h => HCN.out h.1)])
        generalize fs[k] = g at *
        by_cases hg : 0 ≤ idx g
        · have HA2 : Hid (numsOk fs ((k + 1) - 1) = true) := hide (by rw [Nat.add_sub_cancel, HNX.out, HA.out, HNO.out, decide_eq_true hg]; rfl)
          have hg2 : ¬ idx g < 0 := by omega
          clear hg
          go_wp2_with (go_at_call 15; refine (HIX _).out.mono ?_; rintro e w2 ⟨rfl, hb2⟩)
          have HB2 : Hid (Below w.heap.size w w2) := hide (HB.out.trans (hb2.mono hws))
          clear hb2
          go_wp2
          exact ⟨⟨k + 1, by omega, by omega, by go_num, HB2, HA2⟩, by simp [intOf]; omega⟩
        · have HV := hide (H7.out (HNN.out (by rw [HNO.out, decide_eq_false hg])))
          have hg2 : idx g < 0 := by omega
          clear hg
          go_wp2_with (go_at_call 15; refine (HIX _).out.mono ?_; rintro e w2 ⟨rfl, hb2⟩)
          go_ret
          exact ⟨ret_int HV.out.symm, HB.out.trans (hb2.mono hws)⟩
      · have HV := hide (H0.out (by have := HA.out; rwa [show k - 1 = fs.length - 1 by omega] at this))
        go_wp2
        go_ret
        exact ⟨ret_int HV.out.symm, HB.out⟩
  · skip
    have H6 : Hid (lineCode fs = 6) := hide (by unfold lineCode; rw [HH.out.1, HW.out, if_neg HK.out, if_pos hlen])
    have hl2 : ((fs.length : Int) != (1 : Int)) = true := by rw [bne_iff_ne]; omega
    clear hlen
    go_enter Tryz.func16, Tryz.ntmps16
    go_wp2_with (go_at_call 28; refine (HOP _).out.mono ?_; rintro e w1 ⟨rfl, hb1⟩; rw [HOZ.out])
    go_ret
    exact ⟨ret_int H6.out.symm, hb1⟩

set_option maxHeartbeats 8000000 in
set_option maxRecDepth 100000 in
theorem lineCode_j (fs : List (List UInt8)) (b o : Nat) (c : Nat) (L B : Nat) (w : World) (ha : Hid (ValsAt w L B (some ⟨b, o, none⟩) (strsV fs))) (h0 : 0 < fs.length) (hn : fs.length ≤ 1000001) (hbB : b < B) (hB : B ≤ w.heap.size) (hfl : Hid (∀ f ∈ fs, f.length ≤ 1000000)) (F : List UInt8)
    (hc0 : w.cell? ⟨b, o, none⟩ = some (.string (strOf F))) (HH : Hid (fs.headD [] = F ∧ fs.head? = some F)) (hF : F = wJump) :
    Calls Tryz.prog 16 #[.slice (some ⟨b, o, none⟩) fs.length c] w fun e w' => e = .returned (.int .i64 (lineCode fs)) ∧ Below w.heap.size w w' := by
  have HVL : Hid (∀ i, i < fs.length → i < (strsV fs).length) := hide (fun i h => by simpa [strsV] using h)
  have HOP := fun w => hide (l1OpOf_any F w)
  have hts := strOf_toList F
  have fb : (F == [98, 108, 111, 99, 107]) = false := by rw [hF]; rfl
  have fj : (F == [106, 117, 109, 112]) = true := by rw [hF]; rfl
  have fr : (F == [114, 101, 116]) = false := by rw [hF]; rfl
  have fbr : (F == [98, 114, 97, 110, 99, 104]) = false := by rw [hF]; rfl
  have fp : (F == [112, 104, 105]) = false := by rw [hF]; rfl
  have fc : (F == [99, 111, 110, 115, 116]) = false := by rw [hF]; rfl
  have HOZ : Hid (opOf F = 0) := hide (by rw [hF]; rfl)
  have HCN : Hid (¬ fs.head? = some wConst) := hide (by rw [HH.out.2, hF]; decide)
  have HW : Hid (wantN F fs.length = 2) := hide (by rw [hF]; rfl)
  have HK : Hid (¬ ((2 : Nat) = 0)) := hide (by decide)
  clear hF
  by_cases hlen : fs.length = 2
  · skip
    have H7 : Hid (numsOk fs (fs.length - 1) = false → lineCode fs = 7) := hide (fun h => by unfold lineCode; rw [HH.out.1, HW.out, if_neg HK.out, if_neg (by rw [hlen]; exact fun h => h rfl), h]; rfl)
    have H0 : Hid (numsOk fs (fs.length - 1) = true → lineCode fs = 0) := hide (fun h => by unfold lineCode; rw [HH.out.1, HW.out, if_neg HK.out, if_neg (by rw [hlen]; exact fun h => h rfl), h]; rfl)
    have hl2 : ((fs.length : Int) != (2 : Int)) = false := by rw [bne_eq_false_iff_eq]; omega
    have HLEN := hide hlen
    clear hlen
    go_enter Tryz.func16, Tryz.ntmps16
    go_wp2_with (go_at_call 28; refine (HOP _).out.mono ?_; rintro e w1 ⟨rfl, hb1⟩; rw [HOZ.out])
    have HB1 := hide hb1
    clear hb1 hc0 hl2
    go_wp2
    go_loopw [6] (fun i wr => ∃ k : Nat, 1 ≤ k ∧ k ≤ fs.length ∧ i = .int .i64 k ∧ Hid (Below w.heap.size w wr) ∧ Hid (numsOk fs (k - 1) = true)) (fun i _ => fs.length - (intOf i).toNat)
    case atStart => exact ⟨1, Nat.le_refl _, h0, rfl, HB1, hide rfl⟩
    case round =>
      obtain ⟨k, hk1, hk, rfl, HB, HA⟩ := hrel
      have hws := HB.out.size
      by_cases hlt : k < fs.length
      · obtain ⟨b', o', e', ⟨_, hbB'⟩, hc'⟩ := ha.out k (HVL.out k hlt)
        cases e'
        have hc1 : wr.cell? ⟨b, o + k, none⟩ = some (.string (strOf fs[k])) := ((HB.out.cell (p := ⟨b, o + k, none⟩) (by show b < _; omega)).trans hc').trans (by simp [strsV])
        have HNX := hide (nums_next fs k hk1 hlt)
        have HNN := hide (nums_no fs k hk1 hlt)
        have HFL := hide (hfl.out fs[k] (List.getElem_mem hlt))
        have HIX := fun w => hide (l1Index_any fs[k] w)
        have HCO := fun w => hide (l1IsConstant_any 1000000 fs[k] HFL.out HFL.out w)
        clear hc'
        have HNO : Hid (numOk fs k fs[k] = decide (0 ≤ idx fs[k])) := hide (by unfold numOk; rw [if_neg (fun h => HCN.out h.1)])
        generalize fs[k] = g at *
        by_cases hg : 0 ≤ idx g
        · have HA2 : Hid (numsOk fs ((k + 1) - 1) = true) := hide (by rw [Nat.add_sub_cancel, HNX.out, HA.out, HNO.out, decide_eq_true hg]; rfl)
          have hg2 : ¬ idx g < 0 := by omega
          clear hg
          go_wp2_with (go_at_call 15; refine (HIX _).out.mono ?_; rintro e w2 ⟨rfl, hb2⟩)
          have HB2 : Hid (Below w.heap.size w w2) := hide (HB.out.trans (hb2.mono hws))
          clear hb2
          go_wp2
          exact ⟨⟨k + 1, by omega, by omega, by go_num, HB2, HA2⟩, by simp [intOf]; omega⟩
        · have HV := hide (H7.out (HNN.out (by rw [HNO.out, decide_eq_false hg])))
          have hg2 : idx g < 0 := by omega
          clear hg
          go_wp2_with (go_at_call 15; refine (HIX _).out.mono ?_; rintro e w2 ⟨rfl, hb2⟩)
          go_ret
          exact ⟨ret_int HV.out.symm, HB.out.trans (hb2.mono hws)⟩
      · have HV := hide (H0.out (by have := HA.out; rwa [show k - 1 = fs.length - 1 by omega] at this))
        go_wp2
        go_ret
        exact ⟨ret_int HV.out.symm, HB.out⟩
  · skip
    have H6 : Hid (lineCode fs = 6) := hide (by unfold lineCode; rw [HH.out.1, HW.out, if_neg HK.out, if_pos hlen])
    have hl2 : ((fs.length : Int) != (2 : Int)) = true := by rw [bne_iff_ne]; omega
    clear hlen
    go_enter Tryz.func16, Tryz.ntmps16
    go_wp2_with (go_at_call 28; refine (HOP _).out.mono ?_; rintro e w1 ⟨rfl, hb1⟩; rw [HOZ.out])
    go_ret
    exact ⟨ret_int H6.out.symm, hb1⟩

set_option maxHeartbeats 8000000 in
set_option maxRecDepth 100000 in
theorem lineCode_r (fs : List (List UInt8)) (b o : Nat) (c : Nat) (L B : Nat) (w : World) (ha : Hid (ValsAt w L B (some ⟨b, o, none⟩) (strsV fs))) (h0 : 0 < fs.length) (hn : fs.length ≤ 1000001) (hbB : b < B) (hB : B ≤ w.heap.size) (hfl : Hid (∀ f ∈ fs, f.length ≤ 1000000)) (F : List UInt8)
    (hc0 : w.cell? ⟨b, o, none⟩ = some (.string (strOf F))) (HH : Hid (fs.headD [] = F ∧ fs.head? = some F)) (hF : F = wRet) :
    Calls Tryz.prog 16 #[.slice (some ⟨b, o, none⟩) fs.length c] w fun e w' => e = .returned (.int .i64 (lineCode fs)) ∧ Below w.heap.size w w' := by
  have HVL : Hid (∀ i, i < fs.length → i < (strsV fs).length) := hide (fun i h => by simpa [strsV] using h)
  have HOP := fun w => hide (l1OpOf_any F w)
  have hts := strOf_toList F
  have fb : (F == [98, 108, 111, 99, 107]) = false := by rw [hF]; rfl
  have fj : (F == [106, 117, 109, 112]) = false := by rw [hF]; rfl
  have fr : (F == [114, 101, 116]) = true := by rw [hF]; rfl
  have fbr : (F == [98, 114, 97, 110, 99, 104]) = false := by rw [hF]; rfl
  have fp : (F == [112, 104, 105]) = false := by rw [hF]; rfl
  have fc : (F == [99, 111, 110, 115, 116]) = false := by rw [hF]; rfl
  have HOZ : Hid (opOf F = 0) := hide (by rw [hF]; rfl)
  have HCN : Hid (¬ fs.head? = some wConst) := hide (by rw [HH.out.2, hF]; decide)
  have HW : Hid (wantN F fs.length = 2) := hide (by rw [hF]; rfl)
  have HK : Hid (¬ ((2 : Nat) = 0)) := hide (by decide)
  clear hF
  by_cases hlen : fs.length = 2
  · skip
    have H7 : Hid (numsOk fs (fs.length - 1) = false → lineCode fs = 7) := hide (fun h => by unfold lineCode; rw [HH.out.1, HW.out, if_neg HK.out, if_neg (by rw [hlen]; exact fun h => h rfl), h]; rfl)
    have H0 : Hid (numsOk fs (fs.length - 1) = true → lineCode fs = 0) := hide (fun h => by unfold lineCode; rw [HH.out.1, HW.out, if_neg HK.out, if_neg (by rw [hlen]; exact fun h => h rfl), h]; rfl)
    have hl2 : ((fs.length : Int) != (2 : Int)) = false := by rw [bne_eq_false_iff_eq]; omega
    have HLEN := hide hlen
    clear hlen
    go_enter Tryz.func16, Tryz.ntmps16
    go_wp2_with (go_at_call 28; refine (HOP _).out.mono ?_; rintro e w1 ⟨rfl, hb1⟩; rw [HOZ.out])
    have HB1 := hide hb1
    clear hb1 hc0 hl2
    go_wp2
    go_loopw [6] (fun i wr => ∃ k : Nat, 1 ≤ k ∧ k ≤ fs.length ∧ i = .int .i64 k ∧ Hid (Below w.heap.size w wr) ∧ Hid (numsOk fs (k - 1) = true)) (fun i _ => fs.length - (intOf i).toNat)
    case atStart => exact ⟨1, Nat.le_refl _, h0, rfl, HB1, hide rfl⟩
    case round =>
      obtain ⟨k, hk1, hk, rfl, HB, HA⟩ := hrel
      have hws := HB.out.size
      by_cases hlt : k < fs.length
      · obtain ⟨b', o', e', ⟨_, hbB'⟩, hc'⟩ := ha.out k (HVL.out k hlt)
        cases e'
        have hc1 : wr.cell? ⟨b, o + k, none⟩ = some (.string (strOf fs[k])) := ((HB.out.cell (p := ⟨b, o + k, none⟩) (by show b < _; omega)).trans hc').trans (by simp [strsV])
        have HNX := hide (nums_next fs k hk1 hlt)
        have HNN := hide (nums_no fs k hk1 hlt)
        have HFL := hide (hfl.out fs[k] (List.getElem_mem hlt))
        have HIX := fun w => hide (l1Index_any fs[k] w)
        have HCO := fun w => hide (l1IsConstant_any 1000000 fs[k] HFL.out HFL.out w)
        clear hc'
        have HNO : Hid (numOk fs k fs[k] = decide (0 ≤ idx fs[k])) := hide (by unfold numOk; rw [if_neg (fun h => HCN.out h.1)])
        generalize fs[k] = g at *
        by_cases hg : 0 ≤ idx g
        · have HA2 : Hid (numsOk fs ((k + 1) - 1) = true) := hide (by rw [Nat.add_sub_cancel, HNX.out, HA.out, HNO.out, decide_eq_true hg]; rfl)
          have hg2 : ¬ idx g < 0 := by omega
          clear hg
          go_wp2_with (go_at_call 15; refine (HIX _).out.mono ?_; rintro e w2 ⟨rfl, hb2⟩)
          have HB2 : Hid (Below w.heap.size w w2) := hide (HB.out.trans (hb2.mono hws))
          clear hb2
          go_wp2
          exact ⟨⟨k + 1, by omega, by omega, by go_num, HB2, HA2⟩, by simp [intOf]; omega⟩
        · have HV := hide (H7.out (HNN.out (by rw [HNO.out, decide_eq_false hg])))
          have hg2 : idx g < 0 := by omega
          clear hg
          go_wp2_with (go_at_call 15; refine (HIX _).out.mono ?_; rintro e w2 ⟨rfl, hb2⟩)
          go_ret
          exact ⟨ret_int HV.out.symm, HB.out.trans (hb2.mono hws)⟩
      · have HV := hide (H0.out (by have := HA.out; rwa [show k - 1 = fs.length - 1 by omega] at this))
        go_wp2
        go_ret
        exact ⟨ret_int HV.out.symm, HB.out⟩
  · skip
    have H6 : Hid (lineCode fs = 6) := hide (by unfold lineCode; rw [HH.out.1, HW.out, if_neg HK.out, if_pos hlen])
    have hl2 : ((fs.length : Int) != (2 : Int)) = true := by rw [bne_iff_ne]; omega
    clear hlen
    go_enter Tryz.func16, Tryz.ntmps16
    go_wp2_with (go_at_call 28; refine (HOP _).out.mono ?_; rintro e w1 ⟨rfl, hb1⟩; rw [HOZ.out])
    go_ret
    exact ⟨ret_int H6.out.symm, hb1⟩

set_option maxHeartbeats 8000000 in
set_option maxRecDepth 100000 in
theorem lineCode_br (fs : List (List UInt8)) (b o : Nat) (c : Nat) (L B : Nat) (w : World) (ha : Hid (ValsAt w L B (some ⟨b, o, none⟩) (strsV fs))) (h0 : 0 < fs.length) (hn : fs.length ≤ 1000001) (hbB : b < B) (hB : B ≤ w.heap.size) (hfl : Hid (∀ f ∈ fs, f.length ≤ 1000000)) (F : List UInt8)
    (hc0 : w.cell? ⟨b, o, none⟩ = some (.string (strOf F))) (HH : Hid (fs.headD [] = F ∧ fs.head? = some F)) (hF : F = wBranch) :
    Calls Tryz.prog 16 #[.slice (some ⟨b, o, none⟩) fs.length c] w fun e w' => e = .returned (.int .i64 (lineCode fs)) ∧ Below w.heap.size w w' := by
  have HVL : Hid (∀ i, i < fs.length → i < (strsV fs).length) := hide (fun i h => by simpa [strsV] using h)
  have HOP := fun w => hide (l1OpOf_any F w)
  have hts := strOf_toList F
  have fb : (F == [98, 108, 111, 99, 107]) = false := by rw [hF]; rfl
  have fj : (F == [106, 117, 109, 112]) = false := by rw [hF]; rfl
  have fr : (F == [114, 101, 116]) = false := by rw [hF]; rfl
  have fbr : (F == [98, 114, 97, 110, 99, 104]) = true := by rw [hF]; rfl
  have fp : (F == [112, 104, 105]) = false := by rw [hF]; rfl
  have fc : (F == [99, 111, 110, 115, 116]) = false := by rw [hF]; rfl
  have HOZ : Hid (opOf F = 0) := hide (by rw [hF]; rfl)
  have HCN : Hid (¬ fs.head? = some wConst) := hide (by rw [HH.out.2, hF]; decide)
  have HW : Hid (wantN F fs.length = 4) := hide (by rw [hF]; rfl)
  have HK : Hid (¬ ((4 : Nat) = 0)) := hide (by decide)
  clear hF
  by_cases hlen : fs.length = 4
  · skip
    have H7 : Hid (numsOk fs (fs.length - 1) = false → lineCode fs = 7) := hide (fun h => by unfold lineCode; rw [HH.out.1, HW.out, if_neg HK.out, if_neg (by rw [hlen]; exact fun h => h rfl), h]; rfl)
    have H0 : Hid (numsOk fs (fs.length - 1) = true → lineCode fs = 0) := hide (fun h => by unfold lineCode; rw [HH.out.1, HW.out, if_neg HK.out, if_neg (by rw [hlen]; exact fun h => h rfl), h]; rfl)
    have hl2 : ((fs.length : Int) != (4 : Int)) = false := by rw [bne_eq_false_iff_eq]; omega
    have HLEN := hide hlen
    clear hlen
    go_enter Tryz.func16, Tryz.ntmps16
    go_wp2_with (go_at_call 28; refine (HOP _).out.mono ?_; rintro e w1 ⟨rfl, hb1⟩; rw [HOZ.out])
    have HB1 := hide hb1
    clear hb1 hc0 hl2
    go_wp2
    go_loopw [6] (fun i wr => ∃ k : Nat, 1 ≤ k ∧ k ≤ fs.length ∧ i = .int .i64 k ∧ Hid (Below w.heap.size w wr) ∧ Hid (numsOk fs (k - 1) = true)) (fun i _ => fs.length - (intOf i).toNat)
    case atStart => exact ⟨1, Nat.le_refl _, h0, rfl, HB1, hide rfl⟩
    case round =>
      obtain ⟨k, hk1, hk, rfl, HB, HA⟩ := hrel
      have hws := HB.out.size
      by_cases hlt : k < fs.length
      · obtain ⟨b', o', e', ⟨_, hbB'⟩, hc'⟩ := ha.out k (HVL.out k hlt)
        cases e'
        have hc1 : wr.cell? ⟨b, o + k, none⟩ = some (.string (strOf fs[k])) := ((HB.out.cell (p := ⟨b, o + k, none⟩) (by show b < _; omega)).trans hc').trans (by simp [strsV])
        have HNX := hide (nums_next fs k hk1 hlt)
        have HNN := hide (nums_no fs k hk1 hlt)
        have HFL := hide (hfl.out fs[k] (List.getElem_mem hlt))
        have HIX := fun w => hide (l1Index_any fs[k] w)
        have HCO := fun w => hide (l1IsConstant_any 1000000 fs[k] HFL.out HFL.out w)
        clear hc'
        have HNO : Hid (numOk fs k fs[k] = decide (0 ≤ idx fs[k])) := hide (by unfold numOk; rw [if_neg (fun h => HCN.out h.1)])
        generalize fs[k] = g at *
        by_cases hg : 0 ≤ idx g
        · have HA2 : Hid (numsOk fs ((k + 1) - 1) = true) := hide (by rw [Nat.add_sub_cancel, HNX.out, HA.out, HNO.out, decide_eq_true hg]; rfl)
          have hg2 : ¬ idx g < 0 := by omega
          clear hg
          go_wp2_with (go_at_call 15; refine (HIX _).out.mono ?_; rintro e w2 ⟨rfl, hb2⟩)
          have HB2 : Hid (Below w.heap.size w w2) := hide (HB.out.trans (hb2.mono hws))
          clear hb2
          go_wp2
          exact ⟨⟨k + 1, by omega, by omega, by go_num, HB2, HA2⟩, by simp [intOf]; omega⟩
        · have HV := hide (H7.out (HNN.out (by rw [HNO.out, decide_eq_false hg])))
          have hg2 : idx g < 0 := by omega
          clear hg
          go_wp2_with (go_at_call 15; refine (HIX _).out.mono ?_; rintro e w2 ⟨rfl, hb2⟩)
          go_ret
          exact ⟨ret_int HV.out.symm, HB.out.trans (hb2.mono hws)⟩
      · have HV := hide (H0.out (by have := HA.out; rwa [show k - 1 = fs.length - 1 by omega] at this))
        go_wp2
        go_ret
        exact ⟨ret_int HV.out.symm, HB.out⟩
  · skip
    have H6 : Hid (lineCode fs = 6) := hide (by unfold lineCode; rw [HH.out.1, HW.out, if_neg HK.out, if_pos hlen])
    have hl2 : ((fs.length : Int) != (4 : Int)) = true := by rw [bne_iff_ne]; omega
    clear hlen
    go_enter Tryz.func16, Tryz.ntmps16
    go_wp2_with (go_at_call 28; refine (HOP _).out.mono ?_; rintro e w1 ⟨rfl, hb1⟩; rw [HOZ.out])
    go_ret
    exact ⟨ret_int H6.out.symm, hb1⟩

set_option maxHeartbeats 8000000 in
set_option maxRecDepth 100000 in
theorem lineCode_p (fs : List (List UInt8)) (b o : Nat) (c : Nat) (L B : Nat) (w : World) (ha : Hid (ValsAt w L B (some ⟨b, o, none⟩) (strsV fs))) (h0 : 0 < fs.length) (hn : fs.length ≤ 1000001) (hbB : b < B) (hB : B ≤ w.heap.size) (hfl : Hid (∀ f ∈ fs, f.length ≤ 1000000)) (F : List UInt8)
    (hc0 : w.cell? ⟨b, o, none⟩ = some (.string (strOf F))) (HH : Hid (fs.headD [] = F ∧ fs.head? = some F)) (hF : F = wPhi) :
    Calls Tryz.prog 16 #[.slice (some ⟨b, o, none⟩) fs.length c] w fun e w' => e = .returned (.int .i64 (lineCode fs)) ∧ Below w.heap.size w w' := by
  have HVL : Hid (∀ i, i < fs.length → i < (strsV fs).length) := hide (fun i h => by simpa [strsV] using h)
  have HOP := fun w => hide (l1OpOf_any F w)
  have hts := strOf_toList F
  have fb : (F == [98, 108, 111, 99, 107]) = false := by rw [hF]; rfl
  have fj : (F == [106, 117, 109, 112]) = false := by rw [hF]; rfl
  have fr : (F == [114, 101, 116]) = false := by rw [hF]; rfl
  have fbr : (F == [98, 114, 97, 110, 99, 104]) = false := by rw [hF]; rfl
  have fp : (F == [112, 104, 105]) = true := by rw [hF]; rfl
  have fc : (F == [99, 111, 110, 115, 116]) = false := by rw [hF]; rfl
  have HOZ : Hid (opOf F = 0) := hide (by rw [hF]; rfl)
  have HCN : Hid (¬ fs.head? = some wConst) := hide (by rw [HH.out.2, hF]; decide)
  by_cases hl3 : fs.length < 3
  · have H6 : Hid (lineCode fs = 6) := hide (by
      have HW : wantN F fs.length = 3 := by rw [hF]; show (if fs.length < 3 then 3 else fs.length) = 3; rw [if_pos hl3]
      unfold lineCode; rw [HH.out.1, HW, if_neg (by decide), if_pos (by omega)])
    have hl4 : (fs.length : Int) < 3 := by omega
    have hl2 : ((fs.length : Int) != 3) = true := by rw [bne_iff_ne]; omega
    clear hF hl3
    go_enter Tryz.func16, Tryz.ntmps16
    go_wp2_with (go_at_call 28; refine (HOP _).out.mono ?_; rintro e w1 ⟨rfl, hb1⟩; rw [HOZ.out])
    go_ret
    exact ⟨ret_int H6.out.symm, hb1⟩
  · have HW : Hid (wantN F fs.length = fs.length) := hide (by rw [hF]; show (if fs.length < 3 then 3 else fs.length) = fs.length; rw [if_neg hl3])
    have HK : Hid (¬ (fs.length = 0)) := hide (by omega)
    have hl4 : ¬ (fs.length : Int) < 3 := by omega
    have hw0 : ((fs.length : Int) == 0) = false := by rw [beq_eq_false_iff_ne]; omega
    have H7 : Hid (numsOk fs (fs.length - 1) = false → lineCode fs = 7) := hide (fun h => by unfold lineCode; rw [HH.out.1, HW.out, if_neg HK.out, if_neg (fun h => h rfl), h]; rfl)
    have H0 : Hid (numsOk fs (fs.length - 1) = true → lineCode fs = 0) := hide (fun h => by unfold lineCode; rw [HH.out.1, HW.out, if_neg HK.out, if_neg (fun h => h rfl), h]; rfl)
    clear hF hl3
    go_enter Tryz.func16, Tryz.ntmps16
    go_wp2_with (go_at_call 28; refine (HOP _).out.mono ?_; rintro e w1 ⟨rfl, hb1⟩; rw [HOZ.out])
    have HB1 := hide hb1
    clear hb1 hc0
    go_wp2
    go_loopw [6] (fun i wr => ∃ k : Nat, 1 ≤ k ∧ k ≤ fs.length ∧ i = .int .i64 k ∧ Hid (Below w.heap.size w wr) ∧ Hid (numsOk fs (k - 1) = true)) (fun i _ => fs.length - (intOf i).toNat)
    case atStart => exact ⟨1, Nat.le_refl _, h0, rfl, HB1, hide rfl⟩
    case round =>
      obtain ⟨k, hk1, hk, rfl, HB, HA⟩ := hrel
      have hws := HB.out.size
      by_cases hlt : k < fs.length
      · obtain ⟨b', o', e', ⟨_, hbB'⟩, hc'⟩ := ha.out k (HVL.out k hlt)
        cases e'
        have hc1 : wr.cell? ⟨b, o + k, none⟩ = some (.string (strOf fs[k])) := ((HB.out.cell (p := ⟨b, o + k, none⟩) (by show b < _; omega)).trans hc').trans (by simp [strsV])
        have HNX := hide (nums_next fs k hk1 hlt)
        have HNN := hide (nums_no fs k hk1 hlt)
        have HFL := hide (hfl.out fs[k] (List.getElem_mem hlt))
        have HIX := fun w => hide (l1Index_any fs[k] w)
        have HCO := fun w => hide (l1IsConstant_any 1000000 fs[k] HFL.out HFL.out w)
        clear hc'
        have HNO : Hid (numOk fs k fs[k] = decide (0 ≤ idx fs[k])) := hide (by unfold numOk; rw [if_neg (fun h => HCN.out h.1)])
        generalize fs[k] = g at *
        by_cases hg : 0 ≤ idx g
        · have HA2 : Hid (numsOk fs ((k + 1) - 1) = true) := hide (by rw [Nat.add_sub_cancel, HNX.out, HA.out, HNO.out, decide_eq_true hg]; rfl)
          have hg2 : ¬ idx g < 0 := by omega
          clear hg
          go_wp2_with (go_at_call 15; refine (HIX _).out.mono ?_; rintro e w2 ⟨rfl, hb2⟩)
          have HB2 : Hid (Below w.heap.size w w2) := hide (HB.out.trans (hb2.mono hws))
          clear hb2
          go_wp2
          exact ⟨⟨k + 1, by omega, by omega, by go_num, HB2, HA2⟩, by simp [intOf]; omega⟩
        · have HV := hide (H7.out (HNN.out (by rw [HNO.out, decide_eq_false hg])))
          have hg2 : idx g < 0 := by omega
          clear hg
          go_wp2_with (go_at_call 15; refine (HIX _).out.mono ?_; rintro e w2 ⟨rfl, hb2⟩)
          go_ret
          exact ⟨ret_int HV.out.symm, HB.out.trans (hb2.mono hws)⟩
      · have HV := hide (H0.out (by have := HA.out; rwa [show k - 1 = fs.length - 1 by omega] at this))
        go_wp2
        go_ret
        exact ⟨ret_int HV.out.symm, HB.out⟩

set_option maxHeartbeats 8000000 in
set_option maxRecDepth 100000 in
theorem lineCode_none (fs : List (List UInt8)) (b o : Nat) (c : Nat) (L B : Nat) (w : World) (_ha : Hid (ValsAt w L B (some ⟨b, o, none⟩) (strsV fs))) (h0 : 0 < fs.length) (_hn : fs.length ≤ 1000001) (_hbB : b < B) (_hB : B ≤ w.heap.size) (_hfl : Hid (∀ f ∈ fs, f.length ≤ 1000000)) (F : List UInt8)
    (hc0 : w.cell? ⟨b, o, none⟩ = some (.string (strOf F))) (HH : Hid (fs.headD [] = F ∧ fs.head? = some F)) (hop : opOf F = 0) (n1 : F ≠ wBlock) (n2 : F ≠ wJump) (n3 : F ≠ wRet) (n4 : F ≠ wBranch) (n5 : F ≠ wPhi) :
    Calls Tryz.prog 16 #[.slice (some ⟨b, o, none⟩) fs.length c] w fun e w' => e = .returned (.int .i64 (lineCode fs)) ∧ Below w.heap.size w w' := by
  have HVL : Hid (∀ i, i < fs.length → i < (strsV fs).length) := hide (fun i h => by simpa [strsV] using h)
  have HOP := fun w => hide (l1OpOf_any F w)
  have hts := strOf_toList F
  have fb : (F == [98, 108, 111, 99, 107]) = false := by rw [beq_eq_false_iff_ne]; exact n1
  have fj : (F == [106, 117, 109, 112]) = false := by rw [beq_eq_false_iff_ne]; exact n2
  have fr : (F == [114, 101, 116]) = false := by rw [beq_eq_false_iff_ne]; exact n3
  have fbr : (F == [98, 114, 97, 110, 99, 104]) = false := by rw [beq_eq_false_iff_ne]; exact n4
  have fp : (F == [112, 104, 105]) = false := by rw [beq_eq_false_iff_ne]; exact n5
  have HOZ := hide hop
  have H5 : Hid (lineCode fs = 5) := hide (by
    have HW : wantN F fs.length = 0 := by unfold wantN; rw [if_neg (fun h => h hop), if_neg n1, if_neg n2, if_neg n3, if_neg n4, if_neg n5]
    unfold lineCode; rw [HH.out.1, HW, if_pos rfl])
  clear n1 n2 n3 n4 n5 hop
  go_enter Tryz.func16, Tryz.ntmps16
  go_wp2_with (go_at_call 28; refine (HOP _).out.mono ?_; rintro e w1 ⟨rfl, hb1⟩; rw [HOZ.out])
  go_ret
  exact ⟨ret_int H5.out.symm, hb1⟩

theorem l1LineCode_any (fs : List (List UInt8)) (a : Option Addr) (c : Nat) (L B : Nat) (w : World) (ha : Hid (ValsAt w L B a (strsV fs))) (h0 : 0 < fs.length) (hn : fs.length ≤ 1000001) (hB : B ≤ w.heap.size) (hfl : Hid (∀ f ∈ fs, f.length ≤ 1000000)) :
    Calls Tryz.prog 16 #[.slice a fs.length c] w fun e w' => e = .returned (.int .i64 (lineCode fs)) ∧ Below w.heap.size w w' := by
  have HVL : ∀ i, i < fs.length → i < (strsV fs).length := fun i h => by simpa [strsV] using h
  obtain ⟨b, o, rfl, ⟨hbL, hbB⟩, hc0⟩ := ha.out 0 (HVL 0 h0)
  have hc0 : w.cell? ⟨b, o, none⟩ = some (.string (strOf fs[0])) := hc0.trans (by simp [strsV])
  have HH : Hid (fs.headD [] = fs[0] ∧ fs.head? = some fs[0]) := hide (by cases fs with | nil => simp at h0 | cons x r => exact ⟨rfl, rfl⟩)
  by_cases hop : opOf fs[0] ≠ 0
  · exact l1LineCode_op fs b o c L B w ha h0 hn hbB hB hfl _ hc0 HH hop
  by_cases n1 : fs[0] = wBlock
  · exact lineCode_b fs b o c L B w ha h0 hn hbB hB hfl _ hc0 HH n1
  by_cases n2 : fs[0] = wJump
  · exact lineCode_j fs b o c L B w ha h0 hn hbB hB hfl _ hc0 HH n2
  by_cases n3 : fs[0] = wRet
  · exact lineCode_r fs b o c L B w ha h0 hn hbB hB hfl _ hc0 HH n3
  by_cases n4 : fs[0] = wBranch
  · exact lineCode_br fs b o c L B w ha h0 hn hbB hB hfl _ hc0 HH n4
  by_cases n5 : fs[0] = wPhi
  · exact lineCode_p fs b o c L B w ha h0 hn hbB hB hfl _ hc0 HH n5
  exact lineCode_none fs b o c L B w ha h0 hn hbB hB hfl _ hc0 HH (Decidable.not_not.1 hop) n1 n2 n3 n4 n5
end Go.Proofs.YtdcdgopblbmgoaaGreatDoor
