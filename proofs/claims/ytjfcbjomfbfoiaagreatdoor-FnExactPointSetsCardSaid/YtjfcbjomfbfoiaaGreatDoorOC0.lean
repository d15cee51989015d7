import Derived.Test.YtjfcbjomfbfoiaaGreatDoorNSP
namespace Go.Proofs.YtjfcbjomfbfoiaaGreatDoor
open Go.RowKit
def ones8 (B : Nat) : Nat := (List.range 8).countP fun i => B.testBit i
/-- A function on each byte. -/
def mapB (f : Nat → Nat) : Nat → Nat → Nat
  | 0, _ => 0
  | n + 1, x => f (x % 256) + 256 * mapB f n (x / 256)
/-- A mask of bytes. -/
def mkB (c : Nat) : Nat → Nat
  | 0 => 0
  | n + 1 => c + 256 * mkB c n
theorem and_split {B c : Nat} (y M : Nat) (hB : B < 256) (hc : c < 256) : (B + 256 * y) &&& (c + 256 * M) = (B &&& c) + 256 * (y &&& M) := by
  have hb : B &&& c < 2 ^ 8 := Nat.lt_of_le_of_lt Nat.and_le_left hB
  have e1 : B + 256 * y = 2 ^ 8 * y + B := by omega
  have e2 : c + 256 * M = 2 ^ 8 * M + c := by omega
  have e3 : (B &&& c) + 256 * (y &&& M) = 2 ^ 8 * (y &&& M) + (B &&& c) := by omega
  rw [e1, e2, e3]
  apply Nat.eq_of_testBit_eq
  intro i
  rw [Nat.testBit_and, Nat.testBit_two_pow_mul_add _ hB, Nat.testBit_two_pow_mul_add _ hc, Nat.testBit_two_pow_mul_add _ hb]
  by_cases h : i < 8
  · simp [h]
  · simp [h]
def f1 (B : Nat) : Nat := (B / 2 &&& 85) + (B &&& 85)
def f2 (B : Nat) : Nat := (B / 4 &&& 51) + (B &&& 51)
def f3 (B : Nat) : Nat := (B / 16 + B) &&& 15
theorem f1_cross : ∀ t, t < 2 → ∀ B, B < 256 → (B / 2 + 128 * t) &&& 85 = B / 2 &&& 85 := by decide +kernel
theorem f2_cross : ∀ t, t < 4 → ∀ B, B < 256 → (B / 4 + 64 * t) &&& 51 = B / 4 &&& 51 := by decide +kernel
theorem f1_lt : ∀ B, B < 256 → f1 B < 256 := by decide +kernel
theorem f2_lt : ∀ B, B < 256 → f2 B < 256 := by decide +kernel
/-- Both halves of a byte are at most 4. -/
def LowB (B : Nat) : Prop := B % 16 ≤ 4 ∧ B / 16 ≤ 4
instance (B : Nat) : Decidable (LowB B) := by unfold LowB; infer_instance
theorem f21_low : ∀ B, B < 256 → LowB (f2 (f1 B)) := by decide +kernel
theorem f3_cross : ∀ t, t ≤ 4 → ∀ B, B < 256 → LowB B → B / 16 + 16 * t + B < 256 ∧ (B / 16 + 16 * t + B) &&& 15 = f3 B := by decide +kernel
theorem f321 : ∀ B, B < 256 → f3 (f2 (f1 B)) = ones8 B := by decide +kernel
theorem ones8_le : ∀ B, B < 256 → ones8 B ≤ 8 := by decide +kernel
theorem map_lt {f : Nat → Nat} (hf : ∀ B, B < 256 → f B < 256) : ∀ n x, mapB f n x < 256 ^ n
  | 0, _ => by simp [mapB]
  | n + 1, x => by
    have h1 := map_lt hf n (x / 256)
    have h2 := hf (x % 256) (Nat.mod_lt _ (by decide))
    simp only [mapB, Nat.pow_succ]
    omega
theorem map_map {f h : Nat → Nat} (hh : ∀ B, B < 256 → h B < 256) : ∀ n x, mapB f n (mapB h n x) = mapB (fun B => f (h B)) n x
  | 0, _ => rfl
  | n + 1, x => by
    have h2 := hh (x % 256) (Nat.mod_lt _ (by decide))
    simp only [mapB]
    have e1 : (h (x % 256) + 256 * mapB h n (x / 256)) % 256 = h (x % 256) := by omega
    have e2 : (h (x % 256) + 256 * mapB h n (x / 256)) / 256 = mapB h n (x / 256) := by omega
    rw [e1, e2, map_map hh n]
theorem map_congr {f h : Nat → Nat} (e : ∀ B, B < 256 → f B = h B) : ∀ n x, mapB f n x = mapB h n x
  | 0, _ => rfl
  | n + 1, x => by simp only [mapB]; rw [e _ (Nat.mod_lt _ (by decide)), map_congr e n]
theorem step1 : ∀ n x, (x / 2 &&& mkB 85 n) + (x &&& mkB 85 n) = mapB f1 n x
  | 0, x => by simp [mkB, mapB]
  | n + 1, x => by
    have hB : x % 256 < 256 := Nat.mod_lt _ (by decide)
    have ex : x = x % 256 + 256 * (x / 256) := by omega
    have ex2 : x / 2 = (x % 256 / 2 + 128 * (x / 256 % 2)) + 256 * (x / 256 / 2) := by omega
    have ih := step1 n (x / 256)
    simp only [mapB, mkB]
    rw [← ih]
    have a1 : x / 2 &&& (85 + 256 * mkB 85 n) = (x % 256 / 2 &&& 85) + 256 * (x / 256 / 2 &&& mkB 85 n) := by
      rw [ex2, and_split _ _ (by omega) (by decide), f1_cross _ (Nat.mod_lt _ (by decide)) _ hB]
    have a2 : x &&& (85 + 256 * mkB 85 n) = (x % 256 &&& 85) + 256 * (x / 256 &&& mkB 85 n) := by
      conv => lhs; rw [ex]
      exact and_split _ _ hB (by decide)
    rw [a1, a2]
    unfold f1
    omega
theorem step2 : ∀ n x, (x / 4 &&& mkB 51 n) + (x &&& mkB 51 n) = mapB f2 n x
  | 0, x => by simp [mkB, mapB]
  | n + 1, x => by
    have hB : x % 256 < 256 := Nat.mod_lt _ (by decide)
    have ex : x = x % 256 + 256 * (x / 256) := by omega
    have ex2 : x / 4 = (x % 256 / 4 + 64 * (x / 256 % 4)) + 256 * (x / 256 / 4) := by omega
    have ih := step2 n (x / 256)
    simp only [mapB, mkB]
    rw [← ih]
    have a1 : x / 4 &&& (51 + 256 * mkB 51 n) = (x % 256 / 4 &&& 51) + 256 * (x / 256 / 4 &&& mkB 51 n) := by
      rw [ex2, and_split _ _ (by omega) (by decide), f2_cross _ (Nat.mod_lt _ (by decide)) _ hB]
    have a2 : x &&& (51 + 256 * mkB 51 n) = (x % 256 &&& 51) + 256 * (x / 256 &&& mkB 51 n) := by
      conv => lhs; rw [ex]
      exact and_split _ _ hB (by decide)
    rw [a1, a2]
    unfold f2
    omega
/-- All bytes are low. -/
def LowAll : Nat → Nat → Prop
  | 0, x => x = 0
  | n + 1, x => LowB (x % 256) ∧ LowAll n (x / 256)
theorem low_map : ∀ n x, LowAll n (mapB (fun B => f2 (f1 B)) n x)
  | 0, _ => rfl
  | n + 1, x => by
    have hB : x % 256 < 256 := Nat.mod_lt _ (by decide)
    have h1 := f2_lt _ (f1_lt _ hB)
    have h2 := f21_low _ hB
    have ih := low_map n (x / 256)
    simp only [mapB, LowAll]
    have e1 : (f2 (f1 (x % 256)) + 256 * mapB (fun B => f2 (f1 B)) n (x / 256)) % 256 = f2 (f1 (x % 256)) := by omega
    have e2 : (f2 (f1 (x % 256)) + 256 * mapB (fun B => f2 (f1 B)) n (x / 256)) / 256 = mapB (fun B => f2 (f1 B)) n (x / 256) := by omega
    rw [e1, e2]
    exact ⟨h2, ih⟩
theorem low_nib : ∀ n x, LowAll n x → x % 16 ≤ 4
  | 0, x, h => by simp only [LowAll] at h; omega
  | n + 1, x, h => by
    have := h.1.1
    omega
theorem step3 : ∀ n x, LowAll n x → (x / 16 + x) &&& mkB 15 n = mapB f3 n x
  | 0, x, _ => by simp [mkB, mapB]
  | n + 1, x, h => by
    have hB : x % 256 < 256 := Nat.mod_lt _ (by decide)
    have ih := step3 n (x / 256) h.2
    have ht := low_nib n _ h.2
    obtain ⟨h1, h2⟩ := f3_cross _ ht _ hB h.1
    simp only [mapB, mkB]
    rw [← ih, ← h2]
    have ex : x / 16 + x = (x % 256 / 16 + 16 * (x / 256 % 16) + x % 256) + 256 * (x / 256 / 16 + x / 256) := by omega
    rw [ex, and_split _ _ h1 (by decide)]
/-- The bits of a word. -/
def onesN (n x : Nat) : Nat := (List.range (8 * n)).countP fun i => x.testBit i
theorem ones_split (n x : Nat) : onesN (n + 1) x = ones8 (x % 256) + onesN n (x / 256) := by
  unfold onesN ones8
  have e : 8 * (n + 1) = 8 + 8 * n := by omega
  rw [e, List.range_add, List.countP_append, List.countP_map]
  congr 1
  · apply List.countP_congr
    intro i hi
    have : i < 8 := List.mem_range.1 hi
    have e2 : (x % 2 ^ 8).testBit i = x.testBit i := by rw [Nat.testBit_mod_two_pow]; simp [this]
    rw [show x % 256 = x % 2 ^ 8 from rfl, e2]
  · apply List.countP_congr
    intro i hi
    have e2 : (x / 2 ^ 8).testBit i = x.testBit (8 + i) := by rw [Nat.testBit_div_two_pow, Nat.add_comm]
    rw [show x / 256 = x / 2 ^ 8 from rfl, e2]
    rfl
def sumB (f : Nat → Nat) : Nat → Nat → Nat
  | 0, _ => 0
  | n + 1, x => f (x % 256) + sumB f n (x / 256)
theorem ones_sum : ∀ n x, onesN n x = sumB ones8 n x
  | 0, _ => rfl
  | n + 1, x => by rw [ones_split, ones_sum n]; rfl
end Go.Proofs.YtjfcbjomfbfoiaaGreatDoor
