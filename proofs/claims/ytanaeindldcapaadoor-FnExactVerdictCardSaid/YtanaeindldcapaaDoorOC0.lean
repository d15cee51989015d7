import Derived.Laws.Bits128
import Derived.Test.YtanaeindldcapaaDoorNV1
namespace Go.Proofs.YtanaeindldcapaaDoor
open Go.RowKit
def ones8 (B : Nat) : Nat := (List.range 8).countP fun i => B.testBit i
/-- A function on each byte. -/
def mapB (f : Nat → Nat) : Nat → Nat → Nat
  | 0, _ => 0
  | n + 1, x => f (x % 256) + 256 * mapB f n (x / 256)
/-- A mask of bytes. -/
def mkB (c : Nat) : Nat → Nat
  | 0 => 0
  | n + 1 => c + 256 * mkB c n
theorem and_split {B c : Nat} (y M : Nat) (hB : B < 256) (hc : c < 256) : (B + 256 * y) &&& (c + 256 * M) = (B &&& c) + 256 * (y &&& M) := by
  have hb : B &&& c < 2 ^ 8 := Nat.lt_of_le_of_lt Nat.and_le_left hB
  have e1 : B + 256 * y = 2 ^ 8 * y + B := by omega
  have e2 : c + 256 * M = 2 ^ 8 * M + c := by omega
  have e3 : (B &&& c) + 256 * (y &&& M) = 2 ^ 8 * (y &&& M) + (B &&& c) := by omega
  rw [e1, e2, e3]
  apply Nat.eq_of_testBit_eq
  intro i
  rw [Nat.testBit_and, Nat.testBit_two_pow_mul_add _ hB, Nat.testBit_two_pow_mul_add _ hc, Nat.testBit_two_pow_mul_add _ hb]
  by_cases h : i < 8
  · simp [h]
  · simp [h]
def f1 (B : Nat) : Nat := (B / 2 &&& 85) + (B &&& 85)
def f2 (B : Nat) : Nat := (B / 4 &&& 51) + (B &&& 51)
def f3 (B : Nat) : Nat := (B / 16 + B) &&& 15
theorem f1_cross : ∀ t, t < 2 → ∀ B, B < 256 → (B / 2 + 128 * t) &&& 85 = B / 2 &&& 85 := by decide +kernel
theorem f2_cross : ∀ t, t < 4 → ∀ B, B < 256 → (B / 4 + 64 * t) &&& 51 = B / 4 &&& 51 := by decide +kernel
theorem f1_lt : ∀ B, B < 256 → f1 B < 256 := by decide +kernel
theorem f2_lt : ∀ B, B < 256 → f2 B < 256 := by decide +kernel
/-- Both halves of a byte are at most 4. -/
abbrev LowB (B : Nat) : Prop := B % 16 ≤ 4 ∧ B / 16 ≤ 4
theorem f21_low : ∀ B, B < 256 → LowB (f2 (f1 B)) := by decide +kernel
theorem f3_cross : ∀ t, t ≤ 4 → ∀ B, B < 256 → LowB B → B / 16 + 16 * t + B < 256 ∧ (B / 16 + 16 * t + B) &&& 15 = f3 B := by decide +kernel
theorem f321 : ∀ B, B < 256 → f3 (f2 (f1 B)) = ones8 B := by decide +kernel
theorem ones8_le : ∀ B, B < 256 → ones8 B ≤ 8 := by decide +kernel
theorem map_lt {f : Nat → Nat} (hf : ∀ B, B < 256 → f B < 256) : ∀ n x, mapB f n x < 256 ^ n
  | 0, _ => by simp [mapB]
  | n + 1, x => by
    have h1 := map_lt hf n (x / 256)
    have h2 := hf (x % 256) (Nat.mod_lt _ (by decide))
    simp only [mapB, Nat.pow_succ]
    omega
theorem map_map {f h : Nat → Nat} (hh : ∀ B, B < 256 → h B < 256) : ∀ n x, mapB f n (mapB h n x) = mapB (fun B => f (h B)) n x
  | 0, _ => rfl
  | n + 1, x => by
    have h2 := hh (x % 256) (Nat.mod_lt _ (by decide))
    simp only [mapB]
    have e1 : (h (x % 256) + 256 * mapB h n (x / 256)) % 256 = h (x % 256) := by omega
    have e2 : (h (x % 256) + 256 * mapB h n (x / 256)) / 256 = mapB h n (x / 256) := by omega
    rw [e1, e2, map_map hh n]
theorem map_congr {f h : Nat → Nat} (e : ∀ B, B < 256 → f B = h B) : ∀ n x, mapB f n x = mapB h n x
  | 0, _ => rfl
  | n + 1, x => by simp only [mapB]; rw [e _ (Nat.mod_lt _ (by decide)), map_congr e n]
theorem step1 : ∀ n x, (x / 2 &&& mkB 85 n) + (x &&& mkB 85 n) = mapB f1 n x
  | 0, x => by simp [mkB, mapB]
  | n + 1, x => by
    have hB : x % 256 < 256 := Nat.mod_lt _ (by decide)
    have ex : x = x % 256 + 256 * (x / 256) := by omega
    have ex2 : x / 2 = (x % 256 / 2 + 128 * (x / 256 % 2)) + 256 * (x / 256 / 2) := by omega
    have ih := step1 n (x / 256)
    simp only [mapB, mkB]
    rw [← ih]
    have a1 : x / 2 &&& (85 + 256 * mkB 85 n) = (x % 256 / 2 &&& 85) + 256 * (x / 256 / 2 &&& mkB 85 n) := by
      rw [ex2, and_split _ _ (by omega) (by decide), f1_cross _ (Nat.mod_lt _ (by decide)) _ hB]
    have a2 : x &&& (85 + 256 * mkB 85 n) = (x % 256 &&& 85) + 256 * (x / 256 &&& mkB 85 n) := by
      conv => lhs; rw [ex]
      exact and_split _ _ hB (by decide)
    rw [a1, a2]
    unfold f1
    omega
theorem step2 : ∀ n x, (x / 4 &&& mkB 51 n) + (x &&& mkB 51 n) = mapB f2 n x
  | 0, x => by simp [mkB, mapB]
  | n + 1, x => by
    have hB : x % 256 < 256 := Nat.mod_lt _ (by decide)
    have ex : x = x % 256 + 256 * (x / 256) := by omega
    have ex2 : x / 4 = (x % 256 / 4 + 64 * (x / 256 % 4)) + 256 * (x / 256 / 4) := by omega
    have ih := step2 n (x / 256)
    simp only [mapB, mkB]
    rw [← ih]
    have a1 : x / 4 &&& (51 + 256 * mkB 51 n) = (x % 256 / 4 &&& 51) + 256 * (x / 256 / 4 &&& mkB 51 n) := by
      rw [ex2, and_split _ _ (by omega) (by decide), f2_cross _ (Nat.mod_lt _ (by decide)) _ hB]
    have a2 : x &&& (51 + 256 * mkB 51 n) = (x % 256 &&& 51) + 256 * (x / 256 &&& mkB 51 n) := by
      conv => lhs; rw [ex]
      exact and_split _ _ hB (by decide)
    rw [a1, a2]
    unfold f2
    omega
/-- All bytes are low. -/
def LowAll : Nat → Nat → Prop
  | 0, x => x = 0
  | n + 1, x => LowB (x % 256) ∧ LowAll n (x / 256)
theorem low_map : ∀ n x, LowAll n (mapB (fun B => f2 (f1 B)) n x)
  | 0, _ => rfl
  | n + 1, x => by
    have hB : x % 256 < 256 := Nat.mod_lt _ (by decide)
    have h1 := f2_lt _ (f1_lt _ hB)
    have h2 := f21_low _ hB
    have ih := low_map n (x / 256)
    simp only [mapB, LowAll]
    have e1 : (f2 (f1 (x % 256)) + 256 * mapB (fun B => f2 (f1 B)) n (x / 256)) % 256 = f2 (f1 (x % 256)) := by omega
    have e2 : (f2 (f1 (x % 256)) + 256 * mapB (fun B => f2 (f1 B)) n (x / 256)) / 256 = mapB (fun B => f2 (f1 B)) n (x / 256) := by omega
    rw [e1, e2]
    exact ⟨h2, ih⟩
theorem low_nib : ∀ n x, LowAll n x → x % 16 ≤ 4
  | 0, x, h => by simp only [LowAll] at h; omega
  | n + 1, x, h => by
    have := h.1.1
    omega
theorem step3 : ∀ n x, LowAll n x → (x / 16 + x) &&& mkB 15 n = mapB f3 n x
  | 0, x, _ => by simp [mkB, mapB]
  | n + 1, x, h => by
    have hB : x % 256 < 256 := Nat.mod_lt _ (by decide)
    have ih := step3 n (x / 256) h.2
    have ht := low_nib n _ h.2
    obtain ⟨h1, h2⟩ := f3_cross _ ht _ hB h.1
    simp only [mapB, mkB]
    rw [← ih, ← h2]
    have ex : x / 16 + x = (x % 256 / 16 + 16 * (x / 256 % 16) + x % 256) + 256 * (x / 256 / 16 + x / 256) := by omega
    rw [ex, and_split _ _ h1 (by decide)]
/-- The bits of a word. -/
def onesN (n x : Nat) : Nat := (List.range (8 * n)).countP fun i => x.testBit i
theorem ones_split (n x : Nat) : onesN (n + 1) x = ones8 (x % 256) + onesN n (x / 256) := by
  unfold onesN ones8
  have e : 8 * (n + 1) = 8 + 8 * n := by omega
  rw [e, List.range_add, List.countP_append, List.countP_map]
  congr 1
  · apply List.countP_congr
    intro i hi
    have : i < 8 := List.mem_range.1 hi
    have e2 : (x % 2 ^ 8).testBit i = x.testBit i := by rw [Nat.testBit_mod_two_pow]; simp [this]
    rw [show x % 256 = x % 2 ^ 8 from rfl, e2]
  · apply List.countP_congr
    intro i hi
    have e2 : (x / 2 ^ 8).testBit i = x.testBit (8 + i) := by rw [Nat.testBit_div_two_pow, Nat.add_comm]
    rw [show x / 256 = x / 2 ^ 8 from rfl, e2]
    rfl
def sumB (f : Nat → Nat) : Nat → Nat → Nat
  | 0, _ => 0
  | n + 1, x => f (x % 256) + sumB f n (x / 256)
theorem ones_sum : ∀ n x, onesN n x = sumB ones8 n x
  | 0, _ => rfl
  | n + 1, x => by rw [ones_split, ones_sum n]; rfl
theorem map_le {f : Nat → Nat} (hf : ∀ B, B < 256 → f B ≤ 68) : ∀ n x, mapB f n x ≤ mkB 68 n
  | 0, _ => Nat.le_refl _
  | n + 1, x => by
    have h1 := map_le hf n (x / 256)
    have h2 := hf (x % 256) (Nat.mod_lt _ (by decide))
    simp only [mapB, mkB]
    omega
theorem f21_le : ∀ B, B < 256 → f2 (f1 B) ≤ 68 := by decide +kernel
theorem div_byte {p q : Nat} (h : p < 256) : (p + 256 * q) / 256 = q := by omega
theorem last_sum (p0 p1 p2 p3 p4 p5 p6 p7 a1 a2 a3 a4 a5 a6 X3 X4 X5 X6 : Nat) (h0 : p0 ≤ 8) (h1 : p1 ≤ 8) (h2 : p2 ≤ 8) (h3 : p3 ≤ 8) (h4 : p4 ≤ 8) (h5 : p5 ≤ 8) (h6 : p6 ≤ 8) (h7 : p7 ≤ 8)
    (e3 : X3 = p0 + 256 * a1) (g1 : a1 = p1 + 256 * a2) (g2 : a2 = p2 + 256 * a3) (g3 : a3 = p3 + 256 * a4) (g4 : a4 = p4 + 256 * a5) (g5 : a5 = p5 + 256 * a6) (g6 : a6 = p6 + 256 * p7) (e4 : X4 = X3 + X3 / 256) (e5 : X5 = X4 + X4 / 65536) (e6 : X6 = X5 + X5 / 4294967296) : X4 < 9223372036854775808 ∧ X5 < 9223372036854775808 ∧ X6 < 9223372036854775808 ∧ X6 % 128 = p0 + (p1 + (p2 + (p3 + (p4 + (p5 + (p6 + p7)))))) := by
  have d3 : X3 / 256 = a1 := by rw [e3]; exact div_byte (by omega)
  have c4 : X4 = (p0 + p1) + 256 * (a1 + a2) := by omega
  have d4 : X4 / 65536 = a2 + a3 := by
    rw [show 65536 = 256 * 256 from rfl, ← Nat.div_div_eq_div_mul, c4, div_byte (by omega), show a1 + a2 = (p1 + p2) + 256 * (a2 + a3) by omega, div_byte (by omega)]
  have c5 : X5 = (p0 + p1 + p2 + p3) + 256 * (a1 + a2 + a3 + a4) := by omega
  have d5 : X5 / 4294967296 = a4 + a5 + a6 + p7 := by
    rw [show 4294967296 = 256 * 256 * 256 * 256 from rfl, ← Nat.div_div_eq_div_mul, ← Nat.div_div_eq_div_mul, ← Nat.div_div_eq_div_mul, c5, div_byte (by omega), show a1 + a2 + a3 + a4 = (p1 + p2 + p3 + p4) + 256 * (a2 + a3 + a4 + a5) by omega, div_byte (by omega), show a2 + a3 + a4 + a5 = (p2 + p3 + p4 + p5) + 256 * (a3 + a4 + a5 + a6) by omega, div_byte (by omega), show a3 + a4 + a5 + a6 = (p3 + p4 + p5 + p6) + 256 * (a4 + a5 + a6 + p7) by omega, div_byte (by omega)]
  have c6 : X6 = (p0 + p1 + p2 + p3 + p4 + p5 + p6 + p7) + 256 * (a1 + a2 + a3 + a4 + a5 + a6 + p7) := by omega
  have k6 : a6 ≤ 2304 := by omega
  have k5 : a5 ≤ 590000 := by omega
  have k4 : a4 ≤ 151100000 := by omega
  have k3 : a3 ≤ 38700000000 := by omega
  have k2 : a2 ≤ 9910000000000 := by omega
  have k1 : a1 ≤ 2540000000000000 := by omega
  clear e3 e4 e5 e6 d3 d4 d5 g1 g2 g3 g4 g5 g6
  refine ⟨by omega, by omega, by omega, ?_⟩
  generalize a1 + a2 + a3 + a4 + a5 + a6 + p7 = q at c6
  omega
theorem ones_last (x X4 X5 X6 : Nat) (e4 : X4 = mapB ones8 8 x + mapB ones8 8 x / 256) (e5 : X5 = X4 + X4 / 65536) (e6 : X6 = X5 + X5 / 4294967296) : X4 < 9223372036854775808 ∧ X5 < 9223372036854775808 ∧ X6 < 9223372036854775808 ∧ X6 % 128 = onesN 8 x := by
  rw [ones_sum]
  have hm : ∀ y, ones8 (y % 256) ≤ 8 := fun y => ones8_le _ (Nat.mod_lt _ (by decide))
  have h := last_sum (ones8 (x % 256)) (ones8 (x / 256 % 256)) (ones8 (x / 256 / 256 % 256)) (ones8 (x / 256 / 256 / 256 % 256)) (ones8 (x / 256 / 256 / 256 / 256 % 256)) (ones8 (x / 256 / 256 / 256 / 256 / 256 % 256)) (ones8 (x / 256 / 256 / 256 / 256 / 256 / 256 % 256)) (ones8 (x / 256 / 256 / 256 / 256 / 256 / 256 / 256 % 256)) (mapB ones8 7 (x / 256)) (mapB ones8 6 (x / 256 / 256)) (mapB ones8 5 (x / 256 / 256 / 256)) (mapB ones8 4 (x / 256 / 256 / 256 / 256)) (mapB ones8 3 (x / 256 / 256 / 256 / 256 / 256)) (mapB ones8 2 (x / 256 / 256 / 256 / 256 / 256 / 256)) (mapB ones8 8 x) X4 X5 X6 (hm _) (hm _) (hm _) (hm _) (hm _) (hm _) (hm _) (hm _) rfl rfl rfl rfl rfl rfl (by simp only [mapB]; omega) e4 e5 e6
  simp only [sumB]
  exact h
set_option maxHeartbeats 1000000 in
set_option maxRecDepth 100000 in
theorem ones_any (x : Nat) (w : World) (hx : x < 18446744073709551616) :
    Calls Tryd.prog 49 #[.int .u64 (x : Int)] w fun e w' => e = .returned (.int .i64 (onesN 8 x : Nat)) ∧ w' = w := by
  have m0 : mkB 85 8 = 6148914691236517205 := by decide
  have m1 : mkB 51 8 = 3689348814741910323 := by decide
  have m2 : mkB 15 8 = 1085102592571150095 := by decide
  have s1 := step1 8 x
  have s2 := step2 8 (mapB f1 8 x)
  have s3 := step3 8 (mapB f2 8 (mapB f1 8 x)) (by rw [map_map f1_lt]; exact low_map 8 x)
  rw [m0] at s1
  rw [m1] at s2
  rw [m2, map_map f1_lt, map_map (fun B hB => f2_lt _ (f1_lt _ hB)), map_congr f321] at s3
  have l1 : mapB f1 8 x < 18446744073709551616 := map_lt f1_lt 8 x
  have l2 : mapB f2 8 (mapB f1 8 x) < 18446744073709551616 := map_lt f2_lt 8 _
  have l3 : mapB ones8 8 x < 18446744073709551616 := map_lt (fun B hB => Nat.lt_of_le_of_lt (ones8_le B hB) (by decide)) 8 x
  obtain ⟨k4, k5, k6, k7⟩ := ones_last x _ _ _ rfl rfl rfl
  have HX2 : mapB f2 8 (mapB f1 8 x) / 16 + mapB f2 8 (mapB f1 8 x) < 18446744073709551616 := by
    have h := map_le (f := fun B => f2 (f1 B)) f21_le 8 x
    rw [map_map f1_lt]
    rw [show mkB 68 8 = 4919131752989213764 by decide] at h
    omega
  rw [map_map f1_lt] at l2 s2 HX2
  generalize mapB f1 8 x = X1 at *
  generalize mapB (fun B => f2 (f1 B)) 8 x = X2 at *
  generalize mapB ones8 8 x = X3 at *
  generalize onesN 8 x = r at *
  have W : ∀ a : Nat, a < 18446744073709551616 → IntKind.u64.wrap (a : Int) = (a : Int) := fun a h => by rw [IntKind.wrap_u64]; exact Int.emod_eq_of_lt (by omega) (by omega)
  have b1 : IntKind.u64.wrap (bits .and .u64 ((x : Int) / 2) 6148914691236517205 + bits .and .u64 (x : Int) 6148914691236517205) = (X1 : Int) := by
    have q1 := u64_and_nat (x / 2) 6148914691236517205 (by omega) (by decide)
    have q2 := u64_and_nat x 6148914691236517205 hx (by decide)
    rw [show ((x : Int) / 2) = ((x / 2 : Nat) : Int) by omega]
    rw [show (6148914691236517205 : Int) = ((6148914691236517205 : Nat) : Int) from rfl, q1, q2, ← Int.natCast_add, s1, W _ l1]
  have b2 : IntKind.u64.wrap (bits .and .u64 ((X1 : Int) / 4) 3689348814741910323 + bits .and .u64 (X1 : Int) 3689348814741910323) = (X2 : Int) := by
    have q1 := u64_and_nat (X1 / 4) 3689348814741910323 (by omega) (by decide)
    have q2 := u64_and_nat X1 3689348814741910323 l1 (by decide)
    rw [show ((X1 : Int) / 4) = ((X1 / 4 : Nat) : Int) by omega]
    rw [show (3689348814741910323 : Int) = ((3689348814741910323 : Nat) : Int) from rfl, q1, q2, ← Int.natCast_add, s2, W _ l2]
  have b3 : bits .and .u64 ((X2 : Int) / 16 + (X2 : Int)) 1085102592571150095 = (X3 : Int) := by
    have hl : X2 / 16 + X2 < 18446744073709551616 := HX2
    have q1 := u64_and_nat (X2 / 16 + X2) 1085102592571150095 hl (by decide)
    rw [show ((X2 : Int) / 16 + (X2 : Int)) = ((X2 / 16 + X2 : Nat) : Int) by omega]
    rw [show (1085102592571150095 : Int) = ((1085102592571150095 : Nat) : Int) from rfl, q1, s3]
  have b4 : IntKind.u64.wrap ((X3 : Int) + (X3 : Int) / 256) = ((X3 + X3 / 256 : Nat) : Int) := by
    rw [show ((X3 : Int) + (X3 : Int) / 256) = ((X3 + X3 / 256 : Nat) : Int) by omega]
    exact W _ (by omega)
  generalize X3 + X3 / 256 = X4 at *
  have b5 : IntKind.u64.wrap ((X4 : Int) + (X4 : Int) / 65536) = ((X4 + X4 / 65536 : Nat) : Int) := by
    rw [show ((X4 : Int) + (X4 : Int) / 65536) = ((X4 + X4 / 65536 : Nat) : Int) by omega]
    exact W _ (by omega)
  generalize X4 + X4 / 65536 = X5 at *
  have b6 : IntKind.u64.wrap ((X5 : Int) + (X5 : Int) / 4294967296) = ((X5 + X5 / 4294967296 : Nat) : Int) := by
    rw [show ((X5 : Int) + (X5 : Int) / 4294967296) = ((X5 + X5 / 4294967296 : Nat) : Int) by omega]
    exact W _ (by omega)
  generalize X5 + X5 / 4294967296 = X6 at *
  have b7 : bits .and .i64 (X6 : Int) 127 = (r : Int) := by rw [i64_and127]; omega
  have b8 : wrap64 (X6 : Int) = (X6 : Int) := by simp [wrap64]; omega
  clear s1 s2 s3 m0 m1 m2 l1 l2 l3 k4 k5 k7 W
  go_enter Tryd.func49, Tryd.ntmps49
  go_wp2
  go_ret
  exact ⟨rfl, rfl⟩
/-- How many are in a set. -/
def cntN (W : Nat → Nat) (K : Nat) : Nat := (List.range (64 * K)).countP fun x => hasN W x
theorem cnt_step (W : Nat → Nat) (K : Nat) : cntN W (K + 1) = cntN W K + onesN 8 (W K) := by
  unfold cntN onesN
  have e : 64 * (K + 1) = 64 * K + 8 * 8 := by omega
  rw [e, List.range_add, List.countP_append, List.countP_map]
  congr 1
  apply List.countP_congr
  intro i hi
  have : i < 64 := List.mem_range.1 hi
  have e1 : (64 * K + i) / 64 = K := by omega
  have e2 : (64 * K + i) % 64 = i := by omega
  simp only [Function.comp, hasN, e1, e2]
theorem cnt_le (W : Nat → Nat) (K : Nat) : cntN W K ≤ 64 * K := Nat.le_trans (List.countP_le_length) (by simp)
set_option maxHeartbeats 1000000 in
set_option maxRecDepth 100000 in
theorem count_valueNo (g K C : Nat) (W : Nat → Nat) (w : World) (hW : Hid (WdOk W)) (hr : Hid (WsAt w g K C W)) (hK : K ≤ 1000) :
    Calls Tryd.prog 18 #[.agg #[.slice (some ⟨g, 0, none⟩) K C]] w fun e w' => e = .returned (.int .i64 (cntN W K : Nat)) ∧ Below w.heap.size w w' := by
  have hg := hr.out.lt
  go_enter Tryd.func18, Tryd.ntmps18
  go_wp2
  go_loopw [3, 9] (fun u i wr => ∃ k : Nat, k ≤ K ∧ i = .int .i64 k ∧ u = .int .i64 (cntN W k : Nat) ∧ Hid (Below w.heap.size w wr)) (fun _ i _ => K - (intOf i).toNat)
  case atStart => exact ⟨0, Nat.zero_le _, rfl, rfl, hide (balloc (Below.refl _ _) _)⟩
  case round =>
    obtain ⟨k, hk, rfl, rfl, HB⟩ := hrel
    by_cases hlt : k < K
    · have hc := (HB.out.cell (p := ⟨g, k, none⟩) hg).trans (hr.out.cell hlt)
      have hwk := hW.out k
      have HS := hide (cnt_step W k)
      have hle := cnt_le W k
      have hle2 := cnt_le W (k + 1)
      rw [HS.out] at hle2
      generalize cntN W k = c0 at *
      generalize W k = Wk at *
      have HO := hide (ones_any Wk wr hwk)
      generalize onesN 8 Wk = o at *
      go_wp2_with (go_at_call 49; refine HO.out.mono ?_; rintro e w2 ⟨rfl, hw2⟩; rw [hw2]; clear hw2 w2)
      exact ⟨⟨k + 1, by omega, by go_num, by rw [HS.out]; go_num, HB⟩, by simp [intOf]; omega⟩
    · have e : k = K := by omega
      subst e
      go_wp2
      go_ret
      exact ⟨rfl, HB.out⟩
end Go.Proofs.YtanaeindldcapaaDoor
