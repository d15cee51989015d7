import Derived.Lib.TrailingZeros
import Derived.Laws.Bits64b
import Derived.Test.YtjfcbjomfbfoiaaGreatDoorNSP
import Derived.Test.YtjfcbjomfbfoiaaGreatDoorW7
import Derived.Test.YtjfcbjomfbfoiaaGreatDoorWS0
import Derived.Test.YtjfcbjomfbfoiaaGreatDoorNV1
namespace Go.Proofs.YtjfcbjomfbfoiaaGreatDoor
open Go.RowKit
/-- The table of the library. -/
def TzTab (w : World) : Prop := ∀ j, j < 64 → w.cell? ⟨1, j, none⟩ = some (.int .u8 (Lib.deBruijn64tab.getD j 0))
theorem TzTab.of_block {V V' : World} (h : TzTab V) (e : V'.heap[(1 : Nat)]? = V.heap[(1 : Nat)]?) : TzTab V' := fun j hj => (cell_of (o := j) e).trans (h j hj)
theorem tz_key (x a : Nat) (hx : x < 18446744073709551616) (hx0 : x ≠ 0) (hlow : x &&& (18446744073709551616 - x) = a) :
    IntKind.u64.wrap (bits BinOp.and IntKind.u64 (x : Int) (IntKind.u64.wrap (-(x : Int))) * 285870213051353865) / 288230376151711744 = ((a * 285870213051353865 % 18446744073709551616 / 288230376151711744 : Nat) : Int) := by
  have e1 : IntKind.u64.wrap (-(x : Int)) = ((18446744073709551616 - x : Nat) : Int) := by rw [IntKind.wrap_u64]; omega
  rw [e1, bits_and_u64_nat x _ hx (by omega), hlow, IntKind.wrap_u64]
  omega
set_option maxHeartbeats 1000000 in
theorem tz_core (x k idx : Nat) (w : World) (hx0 : ((x : Int) == 0) = false)
    (key : IntKind.u64.wrap (bits BinOp.and IntKind.u64 (x : Int) (IntKind.u64.wrap (-(x : Int))) * 285870213051353865) / 288230376151711744 = (idx : Int))
    (hi : idx < 64) (hk : k < 64) (hcell : w.cell? ⟨1, idx, none⟩ = some (.int .u8 k)) :
    Calls Tryz.prog 85 #[.int .u64 x] w fun e w' => e = .returned (.int .i64 k) ∧ w' = w := by
  go_enter Tryz.func85, Tryz.ntmps85
  go_wp2_with (simp only [key])
  go_ret
  exact ⟨rfl, rfl⟩
theorem tz_any (x : Nat) (hx : x < 18446744073709551616) (hx0 : x ≠ 0) (w : World) (hT : Hid (TzTab w)) :
    Calls Tryz.prog 85 #[.int .u64 x] w fun e w' => e = .returned (.int .i64 (Lib.ctz 64 x : Nat)) ∧ w' = w := by
  obtain ⟨hlow, hk⟩ := Lib.lowest_bit 64 x hx0 hx
  obtain ⟨hi, htab⟩ := Lib.deBruijn64_at _ hk
  have hcell := hT.out _ hi
  rw [htab] at hcell
  exact tz_core x _ _ w (by simp; omega) (tz_key x _ hx hx0 hlow) hi hk hcell
theorem ctz_form {y : Nat} (h0 : y ≠ 0) (h : y < 2 ^ 64) : ∃ m, y = 2 ^ Lib.ctz 64 y * (2 * m + 1) ∧ Lib.ctz 64 y < 64 := by
  have e : Lib.ctz 64 y = Lib.ctzFrom 64 y := by simp [Lib.ctz, h0]
  rw [e]
  exact Lib.ctzFrom_spec 64 y (by omega) h
theorem bit_form (c m i : Nat) : (2 ^ c * m).testBit i = (decide (c ≤ i) && m.testBit (i - c)) := by
  rw [Nat.mul_comm, Nat.testBit_mul_two_pow]
theorem odd_bit (m i : Nat) : (2 * m + 1).testBit i = (decide (i = 0) || (2 * m).testBit i) := by
  cases i with
  | zero => simp
  | succ i =>
    rw [Nat.testBit_succ, Nat.testBit_succ]
    have d1 : (2 * m + 1) / 2 = m := by omega
    have d2 : 2 * m / 2 = m := by omega
    rw [d1, d2]
    simp
/-- The lowest bit is taken away. -/
theorem low_off {y : Nat} (h0 : y ≠ 0) (h : y < 2 ^ 64) (i : Nat) : (y &&& (y - 1)).testBit i = (y.testBit i && decide (i ≠ Lib.ctz 64 y)) := by
  obtain ⟨m, hm, hc⟩ := ctz_form h0 h
  generalize Lib.ctz 64 y = c at *
  have hp : 0 < 2 ^ c := Nat.two_pow_pos c
  have e1 : y - 1 = 2 ^ c * (2 * m) + (2 ^ c - 1) := by rw [hm, Nat.mul_add]; omega
  rw [Nat.testBit_and, e1, Nat.testBit_two_pow_mul_add _ (by omega), hm, bit_form]
  by_cases hi : i < c
  · have : ¬ c ≤ i := by omega
    simp [this]
  · have h1 : c ≤ i := by omega
    simp only [hi, h1, decide_true, Bool.true_and, if_false]
    rw [odd_bit]
    by_cases e : i = c
    · subst e; simp
    · have : ¬ i - c = 0 := by omega
      simp [this, e]
theorem low_on {y : Nat} (h0 : y ≠ 0) (h : y < 2 ^ 64) : y.testBit (Lib.ctz 64 y) = true ∧ ∀ i, i < Lib.ctz 64 y → y.testBit i = false := by
  obtain ⟨m, hm, hc⟩ := ctz_form h0 h
  generalize Lib.ctz 64 y = c at *
  rw [hm]
  refine ⟨?_, fun i hi => ?_⟩
  · rw [bit_form]; simp
  · rw [bit_form]
    have : ¬ c ≤ i := by omega
    simp [this]
/-- The numbers of a set, ascending. -/
def lsN (W : Nat → Nat) (p : Nat) : List Nat := (List.range p).filter (hasN W)
theorem ls_skip {W : Nat → Nat} {p q : Nat} (hpq : p ≤ q) (h : ∀ i, p ≤ i → i < q → hasN W i = false) : lsN W q = lsN W p := by
  unfold lsN
  obtain ⟨d, rfl⟩ : ∃ d, q = p + d := ⟨q - p, by omega⟩
  rw [List.range_add, List.filter_append]
  have : ((List.range d).map (p + ·)).filter (hasN W) = [] := by
    rw [List.filter_eq_nil_iff]
    intro x hx
    obtain ⟨j, hj, rfl⟩ := List.mem_map.1 hx
    rw [h (p + j) (by omega) (by have := List.mem_range.1 hj; omega)]
    simp
  rw [this, List.append_nil]
theorem ls_take {W : Nat → Nat} {p q : Nat} (hpq : p ≤ q) (h : ∀ i, p ≤ i → i < q → hasN W i = false) (hq : hasN W q = true) : lsN W (q + 1) = lsN W p ++ [q] := by
  rw [← ls_skip hpq h]
  unfold lsN
  rw [List.range_succ, List.filter_append]
  simp [hq]
end Go.Proofs.YtjfcbjomfbfoiaaGreatDoor

namespace Go.Proofs.YtjfcbjomfbfoiaaGreatDoor
open Go.RowKit Go.Shelf
attribute [local go_sem] Oper.semAt_some
theorem wd_lt {W : Nat → Nat} (h : WdOk W) (i : Nat) : W i < 18446744073709551616 := h i
theorem has_at (W : Nat → Nat) (i j : Nat) (hj : j < 64) : hasN W (64 * i + j) = (W i).testBit j := by
  unfold hasN
  rw [show (64 * i + j) / 64 = i by omega, show (64 * i + j) % 64 = j by omega]
/-- The word while its bits are taken away. -/
structure WoAt (W : Nat → Nat) (i k y : Nat) : Prop where
  le : k ≤ 64
  lt : y < 18446744073709551616
  bit : ∀ j, y.testBit j = ((W i).testBit j && decide (k ≤ j))
theorem WoAt.start {W : Nat → Nat} (h : WdOk W) (i : Nat) : WoAt W i 0 (W i) := ⟨by decide, wd_lt h i, fun j => by simp⟩
theorem WoAt.next {W : Nat → Nat} {i k y : Nat} (h : WoAt W i k y) (h0 : y ≠ 0) : WoAt W i (Lib.ctz 64 y + 1) (y &&& (y - 1)) ∧ lsN W (64 * i + (Lib.ctz 64 y + 1)) = lsN W (64 * i + k) ++ [64 * i + Lib.ctz 64 y] ∧ Lib.ctz 64 y < 64 ∧ (y &&& (y - 1)) < y := by
  have hy : y < 2 ^ 64 := h.lt
  obtain ⟨m, hm, hc⟩ := ctz_form h0 hy
  have hon := low_on h0 hy
  have hoff := low_off h0 hy
  have hb := h.bit
  have hle : y &&& (y - 1) ≤ y - 1 := Nat.and_le_right
  generalize Lib.ctz 64 y = c at *
  have hk : k ≤ c ∧ (W i).testBit c = true := by
    have h1 := hon.1
    rw [hb, Bool.and_eq_true, decide_eq_true_eq] at h1
    exact ⟨h1.2, h1.1⟩
  refine ⟨⟨by omega, by omega, fun j => ?_⟩, ?_, hc, by omega⟩
  · rw [hoff, hb]
    by_cases e : j = c
    · subst e; simp
    · by_cases e2 : j < c
      · have h2 := hon.2 j e2
        rw [hb] at h2
        rw [h2]
        have : ¬ c + 1 ≤ j := by omega
        simp [this]
      · have h3 : k ≤ j := by omega
        have h4 : c + 1 ≤ j := by omega
        simp [e, h3, h4]
  · have e : 64 * i + (c + 1) = (64 * i + c) + 1 := by omega
    rw [e]
    refine ls_take (by omega) (fun q h1 h2 => ?_) (by rw [has_at W i c hc]; exact hk.2)
    obtain ⟨j, rfl⟩ : ∃ j, q = 64 * i + j := ⟨q - 64 * i, by omega⟩
    have h5 := hon.2 j (by omega)
    rw [hb] at h5
    rw [has_at W i j (by omega)]
    have h6 : k ≤ j := by omega
    simpa [h6] using h5
theorem WoAt.done {W : Nat → Nat} {i k : Nat} (h : WoAt W i k 0) : lsN W (64 * (i + 1)) = lsN W (64 * i + k) := by
  refine ls_skip (by have := h.le; omega) (fun q h1 h2 => ?_)
  obtain ⟨j, rfl⟩ : ∃ j, q = 64 * i + j := ⟨q - 64 * i, by omega⟩
  rw [has_at W i j (by omega)]
  have h5 := h.bit j
  have h6 : k ≤ j := by omega
  simpa [h6] using h5.symm
theorem ls_pre {W : Nat → Nat} {p q : Nat} (h : p ≤ q) : (lsN W p).length ≤ (lsN W q).length := by
  unfold lsN
  obtain ⟨d, rfl⟩ : ∃ d, q = p + d := ⟨q - p, by omega⟩
  rw [List.range_add, List.filter_append, List.length_append]
  omega
set_option maxHeartbeats 2000000 in
set_option maxRecDepth 100000 in
theorem all_seq (Bs g Kw C : Nat) (W : Nat → Nat) (Ms : Nat → Prop) (w : World) (hs : w.cell? ⟨Bs, 0, none⟩ = some (.slice (some ⟨g, 0, none⟩) Kw C)) (hg : Hid (WsAt w g Kw C W)) (hwd : Hid (WdOk W)) (hT : Hid (TzTab w)) (hK : Kw ≤ 100) (hM2 : Hid (¬ Ms g)) (hM3 : Hid (¬ Ms 1)) :
    SeqN Fence.wide 7 Tryz.prog 84 #[.pointer (some ⟨Bs, 0, none⟩)] (fun x : Nat => #[.int .i64 (x : Int)]) (fun _ _ => True) (KpB w.heap.size Ms) (fun xs => xs = lsN W (64 * Kw)) (lsN W (64 * Kw)).length w := by
  intro l J W0 hW hl hJ hY h0
  have HY := hide hY
  have HJ := hide hJ
  have H0 := hide h0
  clear hY hJ h0
  have hBs : Bs < w.heap.size := World.block_lt_of_cell? w _ hs
  have hs0 := (hW.cell (p := ⟨Bs, 0, none⟩) hBs).trans hs
  have HG0 : Hid (WsAt W0 g Kw C W) := hide (hg.out.of_block (hW.block g hg.out.lt))
  have hgt : (1 : Nat) < w.heap.size := World.block_lt_of_cell? w _ (hT.out 0 (by decide))
  have HT0 : Hid (TzTab W0) := hide (hT.out.of_block (hW.block _ hgt))
  refine callsIn_of_wp Tryz.func84 rfl trivial ?_ rfl
  simp only [Tryz.ntmps84, List.size_toArray, List.length_cons, List.length_nil, Nat.reduceAdd, Nat.reduceSub, Array.replicate_succ, Array.replicate_zero, List.push_toArray, List.append_toArray, List.nil_append, List.cons_append]
  gi_wp2
  gi_loopw [8] (fun i wr => ∃ k : Nat, k ≤ Kw ∧ i = .int .i64 k ∧ Hid (J (lsN W (64 * k)) wr) ∧ KpB w.heap.size Ms W0 wr) (fun i _ => Kw - (intOf i).toNat)
  case atStart => exact ⟨0, Nat.zero_le _, rfl, hide (by rw [Nat.mul_zero]; exact H0.out), KpB.refl _⟩
  case round =>
    obtain ⟨k, hk, rfl, HJk, hkp⟩ := hrel
    by_cases hlt : k < Kw
    · have hcw := hkp.cell (HG0.out.cell hlt) hM2.out
      have HWO := hide (WoAt.start hwd.out k)
      have hwk := hwd.out k
      generalize hyk : W k = yk at hcw HWO hwk
      clear hyk
      generalize wr = wo at *
      have hmul : IntKind.i64.wrap ((k : Int) * 64) = (k : Int) * 64 := by rw [IntKind.wrap_i64]; omega
      have HKO := hide hkp
      clear hkp
      gi_wp2
      clear hcw
      gi_loopw [4] (fun y wr => ∃ yy p : Nat, y = .int .u64 yy ∧ Hid (WoAt W k p yy) ∧ Hid (J (lsN W (64 * k + p)) wr) ∧ Hid (KpB w.heap.size Ms W0 wr)) (fun y _ => (intOf y).toNat)
      case atStart => exact ⟨yk, 0, rfl, HWO, HJk, HKO⟩
      case round =>
        clear HWO HJk HKO
        obtain ⟨yy, p, rfl, HWO, HJk, HKO⟩ := hrel
        have hyl := HWO.out.lt
        by_cases h0 : yy = 0
        · subst h0
          gi_wp2
          exact ⟨⟨k + 1, by omega, by go_num, hide (by rw [HWO.out.done]; exact HJk.out), HKO.out⟩, by simp [intOf]; omega⟩
        · obtain ⟨n1, n2, n3, n4⟩ := HWO.out.next h0
          have HN1 := hide n1
          have HN2 := hide n2
          have hy0 : ((yy : Int) == 0) = false := by simp; omega
          have hs1 : IntKind.u64.wrap ((yy : Int) - 1) = ((yy - 1 : Nat) : Int) := by rw [IntKind.wrap_u64]; omega
          have hs2 := bits_and_u64_nat yy (yy - 1) hyl (by omega)
          have HTZ := hide (tz_any yy hyl h0 wr (hide (HT0.out.of_block (HKO.out.low _ (by omega) hM3.out))))
          have hlen : (lsN W (64 * k + p)).length < (lsN W (64 * Kw)).length := by
            have h1 := congrArg List.length n2
            have h2 := ls_pre (W := W) (p := 64 * k + (Lib.ctz 64 yy + 1)) (q := 64 * Kw) (by omega)
            rw [List.length_append] at h1
            simp at h1
            omega
          obtain ⟨fn, tmps, asg, bo, hy, hR⟩ := HY.out _ (64 * k + Lib.ctz 64 yy) wr HJk.out trivial hlen
          generalize Lib.ctz 64 yy = cc at *
          generalize yy &&& (yy - 1) = yn at *
          have hadd : IntKind.i64.wrap ((k : Int) * 64 + (cc : Int)) = (k : Int) * 64 + (cc : Int) := by rw [IntKind.wrap_i64]; omega
          have he : (((64 * k + cc : Nat)) : Int) = (k : Int) * 64 + (cc : Int) := by omega
          rw [he] at hy
          clear n1 n2 he hlen
          gi_wp2
          refine ⟨trivial, (callsIn_wide.2 HTZ.out).mono ?_⟩
          rintro e w1 ⟨rfl, hw1⟩
          subst hw1
          gi_wp2
          refine hR.mono ?_
          rintro e W3 ⟨rfl, hJ3, hk3, _⟩
          have HJ3 := hide hJ3
          have HK3 := hide (HKO.out.trans hk3)
          clear hJ3 hk3 hR hy HTZ HY
          gi_wp2
          exact ⟨⟨yn, cc + 1, rfl, HN1, hide (by rw [HN2.out]; exact HJ3.out), HK3⟩, by simp [intOf]; omega⟩
    · have hke : k = Kw := by omega
      gi_wp2
      go_end0
      exact ⟨⟨_, rfl⟩, _, rfl, by rw [← hke]; exact HJk.out⟩
set_option maxHeartbeats 1000000 in
theorem all_in (n : Nat) (a : Option Addr) (len cap : Nat) (w : World) :
    CallsIn Fence.wide n Tryz.prog 47 #[.agg #[.slice a len cap]] w fun e w' => e = .returned (.func (.func 84) #[] #[.pointer (some ⟨w.heap.size, 0, none⟩)]) ∧ w' = w.alloc (.cells #[.slice a len cap] 65) := by
  refine callsIn_of_wp Tryz.func47 rfl trivial ?_ rfl
  simp only [Tryz.ntmps47, List.size_toArray, List.length_cons, List.length_nil, Nat.reduceAdd, Nat.reduceSub, Array.replicate_succ, Array.replicate_zero, List.push_toArray, List.append_toArray, List.nil_append, List.cons_append]
  gi_wp2
  go_ret
  exact ⟨rfl, rfl⟩
end Go.Proofs.YtjfcbjomfbfoiaaGreatDoor
