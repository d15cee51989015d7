import Derived.Test.YtjfcbjomfbfoiaaGreatDoorW7
import Derived.Test.YtjfcbjomfbfoiaaGreatDoorWS0
import Derived.Test.YtjfcbjomfbfoiaaGreatDoorTZ1
import Derived.Test.YtjfcbjomfbfoiaaGreatDoorNV1
import Derived.Test.YtjfcbjomfbfoiaaGreatDoorNSP
namespace Go.Proofs.YtjfcbjomfbfoiaaGreatDoor
open Go.RowKit Go.Shelf
attribute [local go_sem] Oper.semAt_some
theorem wd_lt {W : Nat → Nat} (h : WdOk W) (i : Nat) : W i < 18446744073709551616 := h i
theorem has_at (W : Nat → Nat) (i j : Nat) (hj : j < 64) : hasN W (64 * i + j) = (W i).testBit j := by
  unfold hasN
  rw [show (64 * i + j) / 64 = i by omega, show (64 * i + j) % 64 = j by omega]
/-- The word while its bits are taken away. -/
structure WoAt (W : Nat → Nat) (i k y : Nat) : Prop where
  le : k ≤ 64
  lt : y < 18446744073709551616
  bit : ∀ j, y.testBit j = ((W i).testBit j && decide (k ≤ j))
theorem WoAt.start {W : Nat → Nat} (h : WdOk W) (i : Nat) : WoAt W i 0 (W i) := ⟨by decide, wd_lt h i, fun j => by simp⟩
theorem WoAt.next {W : Nat → Nat} {i k y : Nat} (h : WoAt W i k y) (h0 : y ≠ 0) : WoAt W i (Lib.ctz 64 y + 1) (y &&& (y - 1)) ∧ lsN W (64 * i + (Lib.ctz 64 y + 1)) = lsN W (64 * i + k) ++ [64 * i + Lib.ctz 64 y] ∧ Lib.ctz 64 y < 64 ∧ (y &&& (y - 1)) < y := by
  have hy : y < 2 ^ 64 := h.lt
  obtain ⟨m, hm, hc⟩ := ctz_form h0 hy
  have hon := low_on h0 hy
  have hoff := low_off h0 hy
  have hb := h.bit
  have hle : y &&& (y - 1) ≤ y - 1 := Nat.and_le_right
  generalize Lib.ctz 64 y = c at *
  have hk : k ≤ c ∧ (W i).testBit c = true := by
    have h1 := hon.1
    rw [hb, Bool.and_eq_true, decide_eq_true_eq] at h1
    exact ⟨h1.2, h1.1⟩
  refine ⟨⟨by omega, by omega, fun j => ?_⟩, ?_, hc, by omega⟩
  · rw [hoff, hb]
    by_cases e : j = c
    · subst e; simp
    · by_cases e2 : j < c
      · have h2 := hon.2 j e2
        rw [hb] at h2
        rw [h2]
        have : ¬ c + 1 ≤ j := by omega
        simp [this]
      · have h3 : k ≤ j := by omega
        have h4 : c + 1 ≤ j := by omega
        simp [e, h3, h4]
  · have e : 64 * i + (c + 1) = (64 * i + c) + 1 := by omega
    rw [e]
    refine ls_take (by omega) (fun q h1 h2 => ?_) (by rw [has_at W i c hc]; exact hk.2)
    obtain ⟨j, rfl⟩ : ∃ j, q = 64 * i + j := ⟨q - 64 * i, by omega⟩
    have h5 := hon.2 j (by omega)
    rw [hb] at h5
    rw [has_at W i j (by omega)]
    have h6 : k ≤ j := by omega
    simpa [h6] using h5
theorem WoAt.done {W : Nat → Nat} {i k : Nat} (h : WoAt W i k 0) : lsN W (64 * (i + 1)) = lsN W (64 * i + k) := by
  refine ls_skip (by have := h.le; omega) (fun q h1 h2 => ?_)
  obtain ⟨j, rfl⟩ : ∃ j, q = 64 * i + j := ⟨q - 64 * i, by omega⟩
  rw [has_at W i j (by omega)]
  have h5 := h.bit j
  have h6 : k ≤ j := by omega
  simpa [h6] using h5.symm
theorem ls_pre {W : Nat → Nat} {p q : Nat} (h : p ≤ q) : (lsN W p).length ≤ (lsN W q).length := by
  unfold lsN
  obtain ⟨d, rfl⟩ : ∃ d, q = p + d := ⟨q - p, by omega⟩
  rw [List.range_add, List.filter_append, List.length_append]
  omega
set_option maxHeartbeats 2000000 in
set_option maxRecDepth 100000 in
theorem all_seq (Bs g Kw C : Nat) (W : Nat → Nat) (Ms : Nat → Prop) (w : World) (hs : w.cell? ⟨Bs, 0, none⟩ = some (.slice (some ⟨g, 0, none⟩) Kw C)) (hg : Hid (WsAt w g Kw C W)) (hwd : Hid (WdOk W)) (hT : Hid (TzTab w)) (hK : Kw ≤ 100) (hM2 : Hid (¬ Ms g)) (hM3 : Hid (¬ Ms 1)) :
    SeqN Fence.wide 7 Tryz.prog 84 #[.pointer (some ⟨Bs, 0, none⟩)] (fun x : Nat => #[.int .i64 (x : Int)]) (fun _ _ => True) (KpB w.heap.size Ms) (fun xs => xs = lsN W (64 * Kw)) (lsN W (64 * Kw)).length w := by
  intro l J W0 hW hl hJ hY h0
  have HY := hide hY
  have HJ := hide hJ
  have H0 := hide h0
  clear hY hJ h0
  have hBs : Bs < w.heap.size := World.block_lt_of_cell? w _ hs
  have hs0 := (hW.cell (p := ⟨Bs, 0, none⟩) hBs).trans hs
  have HG0 : Hid (WsAt W0 g Kw C W) := hide (hg.out.of_block (hW.block g hg.out.lt))
  have hgt : (1 : Nat) < w.heap.size := World.block_lt_of_cell? w _ (hT.out 0 (by decide))
  have HT0 : Hid (TzTab W0) := hide (hT.out.of_block (hW.block _ hgt))
  refine callsIn_of_wp Tryz.func84 rfl trivial ?_ rfl
  simp only [Tryz.ntmps84, List.size_toArray, List.length_cons, List.length_nil, Nat.reduceAdd, Nat.reduceSub, Array.replicate_succ, Array.replicate_zero, List.push_toArray, List.append_toArray, List.nil_append, List.cons_append]
  gi_wp2
  gi_loopw [8] (fun i wr => ∃ k : Nat, k ≤ Kw ∧ i = .int .i64 k ∧ Hid (J (lsN W (64 * k)) wr) ∧ KpB w.heap.size Ms W0 wr) (fun i _ => Kw - (intOf i).toNat)
  case atStart => exact ⟨0, Nat.zero_le _, rfl, hide (by rw [Nat.mul_zero]; exact H0.out), KpB.refl _⟩
  case round =>
    obtain ⟨k, hk, rfl, HJk, hkp⟩ := hrel
    by_cases hlt : k < Kw
    · have hcw := hkp.cell (HG0.out.cell hlt) hM2.out
      have HWO := hide (WoAt.start hwd.out k)
      have hwk := hwd.out k
      generalize hyk : W k = yk at hcw HWO hwk
      clear hyk
      generalize wr = wo at *
      have hmul : IntKind.i64.wrap ((k : Int) * 64) = (k : Int) * 64 := by rw [IntKind.wrap_i64]; omega
      have HKO := hide hkp
      clear hkp
      gi_wp2
      clear hcw
      gi_loopw [4] (fun y wr => ∃ yy p : Nat, y = .int .u64 yy ∧ Hid (WoAt W k p yy) ∧ Hid (J (lsN W (64 * k + p)) wr) ∧ Hid (KpB w.heap.size Ms W0 wr)) (fun y _ => (intOf y).toNat)
      case atStart => exact ⟨yk, 0, rfl, HWO, HJk, HKO⟩
      case round =>
        clear HWO HJk HKO
        obtain ⟨yy, p, rfl, HWO, HJk, HKO⟩ := hrel
        have hyl := HWO.out.lt
        by_cases h0 : yy = 0
        · subst h0
          gi_wp2
          exact ⟨⟨k + 1, by omega, by go_num, hide (by rw [HWO.out.done]; exact HJk.out), HKO.out⟩, by simp [intOf]; omega⟩
        · obtain ⟨n1, n2, n3, n4⟩ := HWO.out.next h0
          have HN1 := hide n1
          have HN2 := hide n2
          have hy0 : ((yy : Int) == 0) = false := by simp; omega
          have hs1 : IntKind.u64.wrap ((yy : Int) - 1) = ((yy - 1 : Nat) : Int) := by rw [IntKind.wrap_u64]; omega
          have hs2 := bits_and_u64_nat yy (yy - 1) hyl (by omega)
          have HTZ := hide (tz_any yy hyl h0 wr (hide (HT0.out.of_block (HKO.out.low _ (by omega) hM3.out))))
          have hlen : (lsN W (64 * k + p)).length < (lsN W (64 * Kw)).length := by
            have h1 := congrArg List.length n2
            have h2 := ls_pre (W := W) (p := 64 * k + (Lib.ctz 64 yy + 1)) (q := 64 * Kw) (by omega)
            rw [List.length_append] at h1
            simp at h1
            omega
          obtain ⟨fn, tmps, asg, bo, hy, hR⟩ := HY.out _ (64 * k + Lib.ctz 64 yy) wr HJk.out trivial hlen
          generalize Lib.ctz 64 yy = cc at *
          generalize yy &&& (yy - 1) = yn at *
          have hadd : IntKind.i64.wrap ((k : Int) * 64 + (cc : Int)) = (k : Int) * 64 + (cc : Int) := by rw [IntKind.wrap_i64]; omega
          have he : (((64 * k + cc : Nat)) : Int) = (k : Int) * 64 + (cc : Int) := by omega
          rw [he] at hy
          clear n1 n2 he hlen
          gi_wp2
          refine ⟨trivial, (callsIn_wide.2 HTZ.out).mono ?_⟩
          rintro e w1 ⟨rfl, hw1⟩
          subst hw1
          gi_wp2
          refine hR.mono ?_
          rintro e W3 ⟨rfl, hJ3, hk3, _⟩
          have HJ3 := hide hJ3
          have HK3 := hide (HKO.out.trans hk3)
          clear hJ3 hk3 hR hy HTZ HY
          gi_wp2
          exact ⟨⟨yn, cc + 1, rfl, HN1, hide (by rw [HN2.out]; exact HJ3.out), HK3⟩, by simp [intOf]; omega⟩
    · have hke : k = Kw := by omega
      gi_wp2
      go_end0
      exact ⟨⟨_, rfl⟩, _, rfl, by rw [← hke]; exact HJk.out⟩
set_option maxHeartbeats 1000000 in
theorem all_in (n : Nat) (a : Option Addr) (len cap : Nat) (w : World) :
    CallsIn Fence.wide n Tryz.prog 47 #[.agg #[.slice a len cap]] w fun e w' => e = .returned (.func (.func 84) #[] #[.pointer (some ⟨w.heap.size, 0, none⟩)]) ∧ w' = w.alloc (.cells #[.slice a len cap] 65) := by
  refine callsIn_of_wp Tryz.func47 rfl trivial ?_ rfl
  simp only [Tryz.ntmps47, List.size_toArray, List.length_cons, List.length_nil, Nat.reduceAdd, Nat.reduceSub, Array.replicate_succ, Array.replicate_zero, List.push_toArray, List.append_toArray, List.nil_append, List.cons_append]
  gi_wp2
  go_ret
  exact ⟨rfl, rfl⟩
end Go.Proofs.YtjfcbjomfbfoiaaGreatDoor

namespace Go.Proofs.YtjfcbjomfbfoiaaGreatDoor
open Go.RowKit
def ones8 (B : Nat) : Nat := (List.range 8).countP fun i => B.testBit i
/-- A function on each byte. -/
def mapB (f : Nat → Nat) : Nat → Nat → Nat
  | 0, _ => 0
  | n + 1, x => f (x % 256) + 256 * mapB f n (x / 256)
/-- A mask of bytes. -/
def mkB (c : Nat) : Nat → Nat
  | 0 => 0
  | n + 1 => c + 256 * mkB c n
theorem and_split {B c : Nat} (y M : Nat) (hB : B < 256) (hc : c < 256) : (B + 256 * y) &&& (c + 256 * M) = (B &&& c) + 256 * (y &&& M) := by
  have hb : B &&& c < 2 ^ 8 := Nat.lt_of_le_of_lt Nat.and_le_left hB
  have e1 : B + 256 * y = 2 ^ 8 * y + B := by omega
  have e2 : c + 256 * M = 2 ^ 8 * M + c := by omega
  have e3 : (B &&& c) + 256 * (y &&& M) = 2 ^ 8 * (y &&& M) + (B &&& c) := by omega
  rw [e1, e2, e3]
  apply Nat.eq_of_testBit_eq
  intro i
  rw [Nat.testBit_and, Nat.testBit_two_pow_mul_add _ hB, Nat.testBit_two_pow_mul_add _ hc, Nat.testBit_two_pow_mul_add _ hb]
  by_cases h : i < 8
  · simp [h]
  · simp [h]
def f1 (B : Nat) : Nat := (B / 2 &&& 85) + (B &&& 85)
def f2 (B : Nat) : Nat := (B / 4 &&& 51) + (B &&& 51)
def f3 (B : Nat) : Nat := (B / 16 + B) &&& 15
theorem f1_cross : ∀ t, t < 2 → ∀ B, B < 256 → (B / 2 + 128 * t) &&& 85 = B / 2 &&& 85 := by decide +kernel
theorem f2_cross : ∀ t, t < 4 → ∀ B, B < 256 → (B / 4 + 64 * t) &&& 51 = B / 4 &&& 51 := by decide +kernel
theorem f1_lt : ∀ B, B < 256 → f1 B < 256 := by decide +kernel
theorem f2_lt : ∀ B, B < 256 → f2 B < 256 := by decide +kernel
/-- Both halves of a byte are at most 4. -/
def LowB (B : Nat) : Prop := B % 16 ≤ 4 ∧ B / 16 ≤ 4
instance (B : Nat) : Decidable (LowB B) := by unfold LowB; infer_instance
theorem f21_low : ∀ B, B < 256 → LowB (f2 (f1 B)) := by decide +kernel
theorem f3_cross : ∀ t, t ≤ 4 → ∀ B, B < 256 → LowB B → B / 16 + 16 * t + B < 256 ∧ (B / 16 + 16 * t + B) &&& 15 = f3 B := by decide +kernel
theorem f321 : ∀ B, B < 256 → f3 (f2 (f1 B)) = ones8 B := by decide +kernel
theorem ones8_le : ∀ B, B < 256 → ones8 B ≤ 8 := by decide +kernel
theorem map_lt {f : Nat → Nat} (hf : ∀ B, B < 256 → f B < 256) : ∀ n x, mapB f n x < 256 ^ n
  | 0, _ => by simp [mapB]
  | n + 1, x => by
    have h1 := map_lt hf n (x / 256)
    have h2 := hf (x % 256) (Nat.mod_lt _ (by decide))
    simp only [mapB, Nat.pow_succ]
    omega
theorem map_map {f h : Nat → Nat} (hh : ∀ B, B < 256 → h B < 256) : ∀ n x, mapB f n (mapB h n x) = mapB (fun B => f (h B)) n x
  | 0, _ => rfl
  | n + 1, x => by
    have h2 := hh (x % 256) (Nat.mod_lt _ (by decide))
    simp only [mapB]
    have e1 : (h (x % 256) + 256 * mapB h n (x / 256)) % 256 = h (x % 256) := by omega
    have e2 : (h (x % 256) + 256 * mapB h n (x / 256)) / 256 = mapB h n (x / 256) := by omega
    rw [e1, e2, map_map hh n]
theorem map_congr {f h : Nat → Nat} (e : ∀ B, B < 256 → f B = h B) : ∀ n x, mapB f n x = mapB h n x
  | 0, _ => rfl
  | n + 1, x => by simp only [mapB]; rw [e _ (Nat.mod_lt _ (by decide)), map_congr e n]
theorem step1 : ∀ n x, (x / 2 &&& mkB 85 n) + (x &&& mkB 85 n) = mapB f1 n x
  | 0, x => by simp [mkB, mapB]
  | n + 1, x => by
    have hB : x % 256 < 256 := Nat.mod_lt _ (by decide)
    have ex : x = x % 256 + 256 * (x / 256) := by omega
    have ex2 : x / 2 = (x % 256 / 2 + 128 * (x / 256 % 2)) + 256 * (x / 256 / 2) := by omega
    have ih := step1 n (x / 256)
    simp only [mapB, mkB]
    rw [← ih]
    have a1 : x / 2 &&& (85 + 256 * mkB 85 n) = (x % 256 / 2 &&& 85) + 256 * (x / 256 / 2 &&& mkB 85 n) := by
      rw [ex2, and_split _ _ (by omega) (by decide), f1_cross _ (Nat.mod_lt _ (by decide)) _ hB]
    have a2 : x &&& (85 + 256 * mkB 85 n) = (x % 256 &&& 85) + 256 * (x / 256 &&& mkB 85 n) := by
      conv => lhs; rw [ex]
      exact and_split _ _ hB (by decide)
    rw [a1, a2]
    unfold f1
    omega
theorem step2 : ∀ n x, (x / 4 &&& mkB 51 n) + (x &&& mkB 51 n) = mapB f2 n x
  | 0, x => by simp [mkB, mapB]
  | n + 1, x => by
    have hB : x % 256 < 256 := Nat.mod_lt _ (by decide)
    have ex : x = x % 256 + 256 * (x / 256) := by omega
    have ex2 : x / 4 = (x % 256 / 4 + 64 * (x / 256 % 4)) + 256 * (x / 256 / 4) := by omega
    have ih := step2 n (x / 256)
    simp only [mapB, mkB]
    rw [← ih]
    have a1 : x / 4 &&& (51 + 256 * mkB 51 n) = (x % 256 / 4 &&& 51) + 256 * (x / 256 / 4 &&& mkB 51 n) := by
      rw [ex2, and_split _ _ (by omega) (by decide), f2_cross _ (Nat.mod_lt _ (by decide)) _ hB]
    have a2 : x &&& (51 + 256 * mkB 51 n) = (x % 256 &&& 51) + 256 * (x / 256 &&& mkB 51 n) := by
      conv => lhs; rw [ex]
      exact and_split _ _ hB (by decide)
    rw [a1, a2]
    unfold f2
    omega
/-- All bytes are low. -/
def LowAll : Nat → Nat → Prop
  | 0, x => x = 0
  | n + 1, x => LowB (x % 256) ∧ LowAll n (x / 256)
theorem low_map : ∀ n x, LowAll n (mapB (fun B => f2 (f1 B)) n x)
  | 0, _ => rfl
  | n + 1, x => by
    have hB : x % 256 < 256 := Nat.mod_lt _ (by decide)
    have h1 := f2_lt _ (f1_lt _ hB)
    have h2 := f21_low _ hB
    have ih := low_map n (x / 256)
    simp only [mapB, LowAll]
    have e1 : (f2 (f1 (x % 256)) + 256 * mapB (fun B => f2 (f1 B)) n (x / 256)) % 256 = f2 (f1 (x % 256)) := by omega
    have e2 : (f2 (f1 (x % 256)) + 256 * mapB (fun B => f2 (f1 B)) n (x / 256)) / 256 = mapB (fun B => f2 (f1 B)) n (x / 256) := by omega
    rw [e1, e2]
    exact ⟨h2, ih⟩
theorem low_nib : ∀ n x, LowAll n x → x % 16 ≤ 4
  | 0, x, h => by simp only [LowAll] at h; omega
  | n + 1, x, h => by
    have := h.1.1
    omega
theorem step3 : ∀ n x, LowAll n x → (x / 16 + x) &&& mkB 15 n = mapB f3 n x
  | 0, x, _ => by simp [mkB, mapB]
  | n + 1, x, h => by
    have hB : x % 256 < 256 := Nat.mod_lt _ (by decide)
    have ih := step3 n (x / 256) h.2
    have ht := low_nib n _ h.2
    obtain ⟨h1, h2⟩ := f3_cross _ ht _ hB h.1
    simp only [mapB, mkB]
    rw [← ih, ← h2]
    have ex : x / 16 + x = (x % 256 / 16 + 16 * (x / 256 % 16) + x % 256) + 256 * (x / 256 / 16 + x / 256) := by omega
    rw [ex, and_split _ _ h1 (by decide)]
/-- The bits of a word. -/
def onesN (n x : Nat) : Nat := (List.range (8 * n)).countP fun i => x.testBit i
theorem ones_split (n x : Nat) : onesN (n + 1) x = ones8 (x % 256) + onesN n (x / 256) := by
  unfold onesN ones8
  have e : 8 * (n + 1) = 8 + 8 * n := by omega
  rw [e, List.range_add, List.countP_append, List.countP_map]
  congr 1
  · apply List.countP_congr
    intro i hi
    have : i < 8 := List.mem_range.1 hi
    have e2 : (x % 2 ^ 8).testBit i = x.testBit i := by rw [Nat.testBit_mod_two_pow]; simp [this]
    rw [show x % 256 = x % 2 ^ 8 from rfl, e2]
  · apply List.countP_congr
    intro i hi
    have e2 : (x / 2 ^ 8).testBit i = x.testBit (8 + i) := by rw [Nat.testBit_div_two_pow, Nat.add_comm]
    rw [show x / 256 = x / 2 ^ 8 from rfl, e2]
    rfl
def sumB (f : Nat → Nat) : Nat → Nat → Nat
  | 0, _ => 0
  | n + 1, x => f (x % 256) + sumB f n (x / 256)
theorem ones_sum : ∀ n x, onesN n x = sumB ones8 n x
  | 0, _ => rfl
  | n + 1, x => by rw [ones_split, ones_sum n]; rfl
end Go.Proofs.YtjfcbjomfbfoiaaGreatDoor
