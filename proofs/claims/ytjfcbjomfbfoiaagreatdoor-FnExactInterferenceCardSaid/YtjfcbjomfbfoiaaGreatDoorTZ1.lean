import Derived.Lib.TrailingZeros
import Derived.Laws.Bits64b
import Derived.Test.YtjfcbjomfbfoiaaGreatDoorNSP
import Derived.Test.YtjfcbjomfbfoiaaGreatDoorW7
import Derived.Test.YtjfcbjomfbfoiaaGreatDoorFK0
namespace Go.Proofs.YtjfcbjomfbfoiaaGreatDoor
open Go.RowKit
/-- The table of the library. -/
def TzTab (w : World) : Prop := ∀ j, j < 64 → w.cell? ⟨1, j, none⟩ = some (.int .u8 (Lib.deBruijn64tab.getD j 0))
theorem TzTab.of_block {V V' : World} (h : TzTab V) (e : V'.heap[(1 : Nat)]? = V.heap[(1 : Nat)]?) : TzTab V' := fun j hj => (cell_of (o := j) e).trans (h j hj)
theorem tz_key (x a : Nat) (hx : x < 18446744073709551616) (hx0 : x ≠ 0) (hlow : x &&& (18446744073709551616 - x) = a) :
    IntKind.u64.wrap (bits BinOp.and IntKind.u64 (x : Int) (IntKind.u64.wrap (-(x : Int))) * 285870213051353865) / 288230376151711744 = ((a * 285870213051353865 % 18446744073709551616 / 288230376151711744 : Nat) : Int) := by
  have e1 : IntKind.u64.wrap (-(x : Int)) = ((18446744073709551616 - x : Nat) : Int) := by rw [IntKind.wrap_u64]; omega
  rw [e1, bits_and_u64_nat x _ hx (by omega), hlow, IntKind.wrap_u64]
  omega
set_option maxHeartbeats 1000000 in
theorem tz_core (x k idx : Nat) (w : World) (hx0 : ((x : Int) == 0) = false)
    (key : IntKind.u64.wrap (bits BinOp.and IntKind.u64 (x : Int) (IntKind.u64.wrap (-(x : Int))) * 285870213051353865) / 288230376151711744 = (idx : Int))
    (hi : idx < 64) (hk : k < 64) (hcell : w.cell? ⟨1, idx, none⟩ = some (.int .u8 k)) :
    Calls Tryz.prog 85 #[.int .u64 x] w fun e w' => e = .returned (.int .i64 k) ∧ w' = w := by
  go_enter Tryz.func85, Tryz.ntmps85
  go_wp2_with (simp only [key])
  go_ret
  exact ⟨rfl, rfl⟩
theorem tz_any (x : Nat) (hx : x < 18446744073709551616) (hx0 : x ≠ 0) (w : World) (hT : Hid (TzTab w)) :
    Calls Tryz.prog 85 #[.int .u64 x] w fun e w' => e = .returned (.int .i64 (Lib.ctz 64 x : Nat)) ∧ w' = w := by
  obtain ⟨hlow, hk⟩ := Lib.lowest_bit 64 x hx0 hx
  obtain ⟨hi, htab⟩ := Lib.deBruijn64_at _ hk
  have hcell := hT.out _ hi
  rw [htab] at hcell
  exact tz_core x _ _ w (by simp; omega) (tz_key x _ hx hx0 hlow) hi hk hcell
theorem ctz_form {y : Nat} (h0 : y ≠ 0) (h : y < 2 ^ 64) : ∃ m, y = 2 ^ Lib.ctz 64 y * (2 * m + 1) ∧ Lib.ctz 64 y < 64 := by
  have e : Lib.ctz 64 y = Lib.ctzFrom 64 y := by simp [Lib.ctz, h0]
  rw [e]
  exact Lib.ctzFrom_spec 64 y (by omega) h
theorem bit_form (c m i : Nat) : (2 ^ c * m).testBit i = (decide (c ≤ i) && m.testBit (i - c)) := by
  rw [Nat.mul_comm, Nat.testBit_mul_two_pow]
theorem odd_bit (m i : Nat) : (2 * m + 1).testBit i = (decide (i = 0) || (2 * m).testBit i) := by
  cases i with
  | zero => simp
  | succ i =>
    rw [Nat.testBit_succ, Nat.testBit_succ]
    have d1 : (2 * m + 1) / 2 = m := by omega
    have d2 : 2 * m / 2 = m := by omega
    rw [d1, d2]
    simp
/-- The lowest bit is taken away. -/
theorem low_off {y : Nat} (h0 : y ≠ 0) (h : y < 2 ^ 64) (i : Nat) : (y &&& (y - 1)).testBit i = (y.testBit i && decide (i ≠ Lib.ctz 64 y)) := by
  obtain ⟨m, hm, hc⟩ := ctz_form h0 h
  generalize Lib.ctz 64 y = c at *
  have hp : 0 < 2 ^ c := Nat.two_pow_pos c
  have e1 : y - 1 = 2 ^ c * (2 * m) + (2 ^ c - 1) := by rw [hm, Nat.mul_add]; omega
  rw [Nat.testBit_and, e1, Nat.testBit_two_pow_mul_add _ (by omega), hm, bit_form]
  by_cases hi : i < c
  · have : ¬ c ≤ i := by omega
    simp [this]
  · have h1 : c ≤ i := by omega
    simp only [hi, h1, decide_true, Bool.true_and, if_false]
    rw [odd_bit]
    by_cases e : i = c
    · subst e; simp
    · have : ¬ i - c = 0 := by omega
      simp [this, e]
theorem low_on {y : Nat} (h0 : y ≠ 0) (h : y < 2 ^ 64) : y.testBit (Lib.ctz 64 y) = true ∧ ∀ i, i < Lib.ctz 64 y → y.testBit i = false := by
  obtain ⟨m, hm, hc⟩ := ctz_form h0 h
  generalize Lib.ctz 64 y = c at *
  rw [hm]
  refine ⟨?_, fun i hi => ?_⟩
  · rw [bit_form]; simp
  · rw [bit_form]
    have : ¬ c ≤ i := by omega
    simp [this]
/-- The numbers of a set, ascending. -/
def lsN (W : Nat → Nat) (p : Nat) : List Nat := (List.range p).filter (hasN W)
theorem ls_skip {W : Nat → Nat} {p q : Nat} (hpq : p ≤ q) (h : ∀ i, p ≤ i → i < q → hasN W i = false) : lsN W q = lsN W p := by
  unfold lsN
  obtain ⟨d, rfl⟩ : ∃ d, q = p + d := ⟨q - p, by omega⟩
  rw [List.range_add, List.filter_append]
  have : ((List.range d).map (p + ·)).filter (hasN W) = [] := by
    rw [List.filter_eq_nil_iff]
    intro x hx
    obtain ⟨j, hj, rfl⟩ := List.mem_map.1 hx
    rw [h (p + j) (by omega) (by have := List.mem_range.1 hj; omega)]
    simp
  rw [this, List.append_nil]
theorem ls_take {W : Nat → Nat} {p q : Nat} (hpq : p ≤ q) (h : ∀ i, p ≤ i → i < q → hasN W i = false) (hq : hasN W q = true) : lsN W (q + 1) = lsN W p ++ [q] := by
  rw [← ls_skip hpq h]
  unfold lsN
  rw [List.range_succ, List.filter_append]
  simp [hq]
end Go.Proofs.YtjfcbjomfbfoiaaGreatDoor

namespace Go.Proofs.YtjfcbjomfbfoiaaGreatDoor
/-- v is live behind the phis of a block. -/
inductive Lbe (xs : List Blk) (v : Nat) : Nat → Prop
  | here {b : Nat} : b < xs.length → barB xs b v = 1 → Lbe xs v b
  | step {b t : Nat} : b < xs.length → barB xs b v = 0 → t ∈ tgN xs b → phiB xs t v = false → Lbe xs v t → Lbe xs v b
def Lin (xs : List Blk) (v b : Nat) : Prop := phiB xs b v = false ∧ Lbe xs v b
def Lou (xs : List Blk) (v b : Nat) : Prop := (v : Int) ∈ edgesM xs b ∨ ∃ t ∈ tgN xs b, Lin xs v t
theorem barB_le (xs : List Blk) (b v : Nat) : barB xs b v ≤ 2 := by
  unfold barB
  split
  · exact Nat.zero_le _
  · exact bareF_le _
theorem Lbe.lt {xs : List Blk} {v b : Nat} (h : Lbe xs v b) : b < xs.length := by
  cases h with
  | here h _ => exact h
  | step h _ _ _ _ => exact h
theorem in_iff {V : Nat} {xs : List Blk} (ho : OkL V xs) {I WO : Nat → Nat → Nat} (hI : ∀ i (h : i < xs.length), I i = inW xs[i] (WO i)) (hO : ∀ b, b < xs.length → ∀ v, hasN (WO b) v = true ↔ (b, v) ∈ phE xs xs.length) {v b : Nat} (hb : b < xs.length) : hasN (I b) v = true ↔ phiB xs b v = false ∧ barB xs b v = 1 := by
  have hm := List.getElem_mem hb
  rw [hI b hb, inW_iff (fun y hy => ⟨fun z hz => (ho.rdi _ hm y hy z hz).1, fun z hz => (ho.wri _ hm y hy z hz).1⟩) (fun z hz => (ho.rdt _ hm z hz).1) (fun p hp => (ho.phd _ hm p hp).1)]
  unfold phiB barB bareM
  rw [List.getElem?_eq_getElem hb]
  simp only
  have e : hasN (WO b) v = hasI (edgesM xs b) (v : Int) := by rw [Bool.eq_iff_iff, hO b hb, hasI_iff, edges_iff ho hb]
  rw [e, ← Bool.not_eq_true, hasI_iff]
theorem df_zero {V : Nat} {xs : List Blk} (ho : OkL V xs) {T : Nat → Nat → Nat} (hT : ∀ i (h : i < xs.length), T i = dfW xs[i]) {v b : Nat} (hb : b < xs.length) (h1 : phiB xs b v = false) (h2 : barB xs b v = 0) : hasN (T b) v = false := by
  have hm := List.getElem_mem hb
  rw [hT b hb, ← Bool.not_eq_true, dfW_iff (fun y hy z hz => (ho.wri _ hm y hy z hz).1) (fun p hp => (ho.phd _ hm p hp).1)]
  unfold phiB at h1
  unfold barB bareM at h2
  rw [List.getElem?_eq_getElem hb] at h1 h2
  simp only at h1 h2
  rintro (h | ⟨y, hy, h⟩)
  · rw [hasI_iff.2 h] at h1; cases h1
  · exact bareF_zero _ h2 y hy h
theorem df_not {V : Nat} {xs : List Blk} (ho : OkL V xs) {T : Nat → Nat → Nat} (hT : ∀ i (h : i < xs.length), T i = dfW xs[i]) {v b : Nat} (hb : b < xs.length) (h : hasN (T b) v = false) : phiB xs b v = false ∧ barB xs b v ≠ 2 := by
  have hm := List.getElem_mem hb
  rw [hT b hb, ← Bool.not_eq_true, dfW_iff (fun y hy z hz => (ho.wri _ hm y hy z hz).1) (fun p hp => (ho.phd _ hm p hp).1)] at h
  unfold phiB barB bareM
  rw [List.getElem?_eq_getElem hb]
  simp only
  refine ⟨?_, bareF_two _ (fun y hy h2 => h (Or.inr ⟨y, hy, h2⟩))⟩
  rw [← Bool.not_eq_true, hasI_iff]
  exact fun h2 => h (Or.inl h2)
/-- What spreads is what is live. -/
theorem sp_lin {V : Nat} {xs : List Blk} (ho : OkL V xs) {I T WO : Nat → Nat → Nat} (hI : ∀ i (h : i < xs.length), I i = inW xs[i] (WO i)) (hT : ∀ i (h : i < xs.length), T i = dfW xs[i]) (hO : ∀ b, b < xs.length → ∀ v, hasN (WO b) v = true ↔ (b, v) ∈ phE xs xs.length) {ord : Nat → Prop} (hord : ∀ b, b < xs.length → ord b) {v b : Nat} (hb : b < xs.length) :
    Sp I T ord (tgN xs) b v ↔ Lin xs v b := by
  constructor
  · intro h
    induction h with
    | init h1 =>
      have h2 := (in_iff ho hI hO hb).1 h1
      exact ⟨h2.1, Lbe.here hb h2.2⟩
    | @take b s x h1 h2 h3 h4 ih =>
      have h5 := df_not ho hT hb h4
      have h6 := barB_le xs b x
      have hs := ho.okf.tg _ hb _ h2
      by_cases e : barB xs b x = 1
      · exact ⟨h5.1, Lbe.here hb e⟩
      · have hl := ih hs
        exact ⟨h5.1, Lbe.step hb (by have := h5.2; omega) h2 hl.1 hl.2⟩
  · rintro ⟨h1, h2⟩
    induction h2 with
    | here h3 h4 => exact Sp.init ((in_iff ho hI hO h3).2 ⟨h1, h4⟩)
    | @step b t h3 h4 h5 h6 h7 ih => exact Sp.take (hord _ h3) h5 (ih (ho.okf.tg _ h3 _ h5) h6) (df_zero ho hT h3 h1 h4)
theorem edges_lt {V : Nat} {xs : List Blk} (ho : OkL V xs) {b v : Nat} (hb : b < xs.length) (h : (v : Int) ∈ edgesM xs b) : v < V := by
  have h5 := (edges_iff ho hb).1 h
  unfold phE phB phT at h5
  obtain ⟨t, ht, hv⟩ := List.mem_flatMap.1 h5
  have ht := List.mem_range.1 ht
  rw [List.getElem?_eq_getElem ht] at hv
  obtain ⟨p, hp, h6⟩ := List.mem_flatMap.1 (show _ ∈ List.flatMap _ xs[t].phis from hv)
  have h7 := List.of_mem_zip h6
  obtain ⟨z, hz, e⟩ := List.mem_map.1 h7.2
  have := (ho.pha t ht p hp).2 z hz
  omega
theorem bar_lt {V : Nat} {xs : List Blk} (ho : OkL V xs) {b v : Nat} (hb : b < xs.length) (h2 : barB xs b v = 1) : v < V := by
  have hm := List.getElem_mem hb
  unfold barB bareM at h2
  rw [List.getElem?_eq_getElem hb] at h2
  simp only at h2
  rcases bareF_one _ h2 with h3 | ⟨y, hy, h3⟩
  · rcases Bool.or_eq_true _ _ ▸ h3 with h4 | h4
    · have := (ho.rdt _ hm _ (hasI_iff.1 h4)).2; omega
    · exact edges_lt ho hb (hasI_iff.1 h4)
  · have := (ho.rdi _ hm y hy _ h3).2; omega
theorem Lbe.val {V : Nat} {xs : List Blk} (ho : OkL V xs) {v b : Nat} (h : Lbe xs v b) : v < V := by
  induction h with
  | here h1 h2 => exact bar_lt ho h1 h2
  | step _ _ _ _ _ ih => exact ih
theorem Lou.val {V : Nat} {xs : List Blk} (ho : OkL V xs) {v b : Nat} (hb : b < xs.length) (h : Lou xs v b) : v < V := by
  rcases h with h | ⟨t, _, h⟩
  · exact edges_lt ho hb h
  · exact h.2.val ho
open Classical in
theorem ls_as {W : Nat → Nat} {p V : Nat} {Q : Nat → Prop} (hV : V ≤ p) (h : ∀ x, x < p → (hasN W x = true ↔ Q x)) (hQ : ∀ x, Q x → x < V) : lsN W p = (List.range V).filter fun v => decide (Q v) := by
  rw [ls_skip hV (fun i h1 h2 => by
    rw [← Bool.not_eq_true]
    intro h3
    have := hQ i ((h i h2).1 h3)
    omega)]
  unfold lsN
  apply List.filter_congr
  intro x hx
  have := List.mem_range.1 hx
  rw [Bool.eq_iff_iff, h x (by omega), decide_eq_true_eq]
/-- What the model's marks must hold at the end. -/
theorem mark_done {xs : List Blk} {v : Nat} {lv : Nat → Bool} (h1 : ∀ b, b < xs.length → lv b = true → Lbe xs v b) (h2 : ∀ b, b < xs.length → barB xs b v = 1 → lv b = true) (h3 : ∀ b, b < xs.length → barB xs b v = 0 → ∀ t ∈ tgN xs b, lv t = true → phiB xs t v = false → lv b = true) {b : Nat} (hb : b < xs.length) : lv b = true ↔ Lbe xs v b := by
  refine ⟨h1 b hb, fun h => ?_⟩
  induction h with
  | here h4 h5 => exact h2 _ h4 h5
  | @step b t h4 h5 h6 h7 h8 ih => exact h3 b h4 h5 t h6 (ih h8.lt) h7
end Go.Proofs.YtjfcbjomfbfoiaaGreatDoor
