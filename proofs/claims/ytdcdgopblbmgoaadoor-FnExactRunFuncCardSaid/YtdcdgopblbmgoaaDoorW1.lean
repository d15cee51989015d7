import Derived.Test.YtdcdgopblbmgoaaDoorProg
import Derived.Test.YtdcdgopblbmgoaaDoorMem
import Derived.WalkKit
import Derived.WalkSpells
import Derived.WalkLawsBesides
import Derived.Deep.RegionWith
import Derived.Deep.DrawnRows
namespace Go.Proofs.YtdcdgopblbmgoaaDoor
open Go.RowKit

theorem ret_int {k : IntKind} {a b : Int} (h : a = b) : Ending.returned (.int k a) = .returned (.int k b) := by rw [h]
theorem ret_bool {a b : Bool} (h : a = b) : Ending.returned (.bool a) = .returned (.bool b) := by rw [h]

set_option maxHeartbeats 400000 in
theorem validField_any (u : Bool) (x lo hi : Int) (w : World) :
    Calls Tryd.prog 102 #[.bool u, .int .i64 x, .int .i64 lo, .int .i64 hi] w fun e w' => e = .returned (.bool (fld u x lo hi)) ∧ w' = w := by
  cases u
  · go_enter Tryd.func102, Tryd.ntmps102
    go_wp2
    go_ret
    exact ⟨rfl, rfl⟩
  · by_cases h1 : lo ≤ x <;> by_cases h2 : x < hi
    all_goals
      go_enter Tryd.func102, Tryd.ntmps102
      go_wp2
      go_ret
      exact ⟨by simp [fld, h1, h2], rfl⟩

set_option maxHeartbeats 400000 in
theorem szInts_any (a : Option Addr) (n c : Nat) (l : Int) (w : World) (hn : n ≤ 9223372036854775807) (h0 : 0 ≤ l) (h1 : l ≤ 1048576) :
    Calls Tryd.prog 167 #[.slice a n c, .int .i64 l] w fun e w' => e = .returned (.int .i64 (szR l n)) ∧ w' = w := by
  by_cases h : l < n
  · go_enter Tryd.func167, Tryd.ntmps167
    go_wp2
    go_ret
    exact ⟨ret_int (szR_neg h).symm, rfl⟩
  · go_enter Tryd.func167, Tryd.ntmps167
    go_wp2
    go_ret
    exact ⟨ret_int (szR_pos (by omega)).symm, rfl⟩

set_option maxHeartbeats 400000 in
theorem szInstrs_any (a : Option Addr) (n c : Nat) (l : Int) (w : World) (hn : n ≤ 9223372036854775807) (h0 : 0 ≤ l) (h1 : l ≤ 1048576) :
    Calls Tryd.prog 139 #[.slice a n c, .int .i64 l] w fun e w' => e = .returned (.int .i64 (szR l n)) ∧ w' = w := by
  by_cases h : l < n
  · go_enter Tryd.func139, Tryd.ntmps139
    go_wp2
    go_ret
    exact ⟨ret_int (szR_neg h).symm, rfl⟩
  · go_enter Tryd.func139, Tryd.ntmps139
    go_wp2
    go_ret
    exact ⟨ret_int (szR_pos (by omega)).symm, rfl⟩

set_option maxHeartbeats 400000 in
theorem szPhi_any (d : Int) (a : Option Addr) (n c : Nat) (l : Int) (w : World) (hn : n ≤ 9223372036854775807) (h0 : 0 ≤ l) (h1 : l ≤ 1048576) :
    Calls Tryd.prog 156 #[.agg #[.int .i64 d, .slice a n c], .int .i64 l] w fun e w' => e = .returned (.int .i64 (szR l n)) ∧ Below w.heap.size w w' := by
  by_cases h : l < n
  · have hz := szR_neg h
    go_enter Tryd.func156, Tryd.ntmps156
    go_wp2_with (go_at_call 167; refine (szInts_any _ _ _ _ _ (by omega) (by omega) (by omega)).mono ?_; rintro e w' ⟨rfl, rfl⟩)
    go_ret
    exact ⟨ret_int hz.symm, (Below.refl _ _).alloc (Nat.le_refl _) _⟩
  · have hz : szR l n = l - n := szR_pos (by omega)
    go_enter Tryd.func156, Tryd.ntmps156
    go_wp2_with (go_at_call 167; refine (szInts_any _ _ _ _ _ (by omega) (by omega) (by omega)).mono ?_; rintro e w' ⟨rfl, rfl⟩)
    go_ret
    exact ⟨ret_int hz.symm, (Below.refl _ _).alloc (Nat.le_refl _) _⟩

theorem take_next {α : Type} (xs : List α) (k : Nat) (h : k < xs.length) : xs.take (k + 1) = xs.take k ++ [xs[k]] := List.take_succ_eq_append_getElem h

set_option maxHeartbeats 400000 in
theorem szPhis_any (a : Option Addr) (n c : Nat) (l : Int) (xs : List Ph) (L B : Nat) (w : World) (ha : Hid (PhsAt w L B a xs)) (hx : Hid (n = xs.length)) (hn : n ≤ 9223372036854775807) (hs : Hid (∀ p ∈ xs, p.args.length ≤ 9223372036854775807))
    (h0 : 0 ≤ l) (h1 : l ≤ 1048576) (hB : B ≤ w.heap.size) :
    Calls Tryd.prog 138 #[.slice a n c, .int .i64 l] w fun e w' => e = .returned (.int .i64 (szR l (n + phTot xs))) ∧ Below w.heap.size w w' := by
  by_cases h : l < n
  · go_enter Tryd.func138, Tryd.ntmps138
    go_wp2
    go_ret
    exact ⟨ret_int (szR_neg (by omega)).symm, Below.refl _ _⟩
  · go_enter Tryd.func138, Tryd.ntmps138
    go_wp2
    go_loopw [1, 5] (fun q i wr => ∃ k : Nat, k ≤ n ∧ i = .int .i64 k ∧ (∃ r : Int, q = .int .i64 r ∧ 0 ≤ r ∧ r ≤ 1048576 ∧ Hid (r = l - (n + phTot (xs.take k) : Nat))) ∧ Below w.heap.size w wr) (fun _ i _ => n - (intOf i).toNat)
    case atStart => exact ⟨0, Nat.zero_le _, rfl, ⟨_, rfl, by omega, by omega, by show _ = _; simp [phTot]⟩, Below.refl _ _⟩
    case round =>
      obtain ⟨k, hk, rfl, ⟨r, rfl, hr0, hr1, hr⟩, hw⟩ := hrel
      by_cases hlt : k < n
      · obtain ⟨b, o, rfl, ⟨_, hbB⟩, aa, cc, hc0, hc1, _⟩ := ha.out k (by have := hx.out; omega)
        have hq := hs.out _ (List.getElem_mem (by have := hx.out; omega : k < xs.length))
        have e1 := (hw.cell (p := ⟨b, o + k * 2, none⟩) (by show b < _; omega)).trans hc0
        have e2 := (hw.cell (p := ⟨b, o + k * 2 + 1, none⟩) (by show b < _; omega)).trans hc1
        clear hc0 hc1
        have HT : Hid (phTot (xs.take (k + 1)) = phTot (xs.take k) + (xs[k]'(by have := hx.out; omega)).args.length) := by show _ = _; rw [take_next _ _ (by have := hx.out; omega), phTot_snoc]
        have HL : Hid (phTot (xs.take (k + 1)) ≤ phTot xs) := phTot_take _ _
        generalize (xs[k]'(by have := hx.out; omega)).args.length = m at *
        generalize (xs[k]'(by have := hx.out; omega)).dst = d at *
        by_cases hm : r < m
        · have hz := szR_neg hm
          go_wp2_with (go_at_call 156; refine (szPhi_any _ _ _ _ _ _ (by omega) (by omega) (by omega)).mono ?_; rintro e w' ⟨rfl, hb1⟩)
          go_ret
          exact ⟨ret_int (szR_neg (by have := hr.out; have := HT.out; have := HL.out; omega)).symm, bnext hw hb1⟩
        · have hz : szR r m = r - m := szR_pos (by omega)
          go_wp2_with (go_at_call 156; refine (szPhi_any _ _ _ _ _ _ (by omega) (by omega) (by omega)).mono ?_; rintro e w' ⟨rfl, hb1⟩)
          exact ⟨⟨k + 1, by omega, by go_num, ⟨_, rfl, by omega, by omega, by have := hr.out; have := HT.out; show _ = _; omega⟩, bnext hw hb1⟩, by simp [intOf]; omega⟩
      · go_wp2
        go_ret
        have : k = n := by omega
        have h2 := hr.out
        rw [List.take_of_length_le (by have := hx.out; omega)] at h2
        exact ⟨ret_int (by rw [szR_pos (by omega)]; exact h2), hw⟩

set_option maxHeartbeats 400000 in
theorem szBlock_any (p i : Option Addr) (n pc m ic : Nat) (t0 t1 t2 t3 l : Int) (xs : List Ph) (L B : Nat) (w : World) (ha : Hid (PhsAt w L B p xs)) (hx : Hid (n = xs.length)) (hn : n ≤ 9223372036854775807) (hm : m ≤ 9223372036854775807) (hs : Hid (∀ p ∈ xs, p.args.length ≤ 9223372036854775807))
    (h0 : 0 ≤ l) (h1 : l ≤ 1048576) (hB : B ≤ w.heap.size) :
    Calls Tryd.prog 98 #[.agg #[.slice p n pc, .slice i m ic, .int .i64 t0, .int .i64 t1, .int .i64 t2, .int .i64 t3], .int .i64 l] w fun e w' => e = .returned (.int .i64 (szR l (n + phTot xs + m))) ∧ Below w.heap.size w w' := by
  by_cases h : l < (n + phTot xs : Nat)
  · have hz := szR_neg h
    go_enter Tryd.func98, Tryd.ntmps98
    go_wp2_with (go_at_call 138; refine (szPhis_any _ _ _ _ xs L B _ (ha.out.keep ((Below.refl _ _).alloc hB _)) hx (by omega) hs (by omega) (by omega) (by simp; omega)).mono ?_; rintro e w' ⟨rfl, hb1⟩)
    go_ret
    exact ⟨ret_int (szR_neg (by omega)).symm, bnext ((Below.refl _ _).alloc (Nat.le_refl _) _) hb1⟩
  · have hz : szR l (n + phTot xs) = l - (n + phTot xs : Nat) := szR_pos (by omega)
    generalize hN : n + phTot xs = N at *
    have HN := hide hN
    clear hN
    by_cases h2 : l - N < m
    · have hz2 := szR_neg h2
      go_enter Tryd.func98, Tryd.ntmps98
      go_wp2_with (first | (go_at_call 138; refine (szPhis_any _ _ _ _ xs L B _ (ha.out.keep ((Below.refl _ _).alloc hB _)) hx (by omega) hs (by omega) (by omega) (by simp; omega)).mono ?_; rintro e w1 ⟨rfl, hb1⟩; obtain ⟨hc1, hf1⟩ := bcell hb1; rw [unhide HN]) | (go_at_call 139; refine (szInstrs_any _ _ _ _ _ (by omega) (by omega) (by omega)).mono ?_; rintro e w' ⟨rfl, rfl⟩))
      go_ret
      exact ⟨ret_int (szR_neg (by omega)).symm, bnext ((Below.refl _ _).alloc (Nat.le_refl _) _) hb1⟩
    · have hz2 : szR (l - N) m = l - N - m := szR_pos (by omega)
      go_enter Tryd.func98, Tryd.ntmps98
      go_wp2_with (first | (go_at_call 138; refine (szPhis_any _ _ _ _ xs L B _ (ha.out.keep ((Below.refl _ _).alloc hB _)) hx (by omega) hs (by omega) (by omega) (by simp; omega)).mono ?_; rintro e w1 ⟨rfl, hb1⟩; obtain ⟨hc1, hf1⟩ := bcell hb1; rw [unhide HN]) | (go_at_call 139; refine (szInstrs_any _ _ _ _ _ (by omega) (by omega) (by omega)).mono ?_; rintro e w' ⟨rfl, rfl⟩))
      go_ret
      exact ⟨ret_int (by rw [szR_pos (by omega)]; omega), bnext ((Below.refl _ _).alloc (Nat.le_refl _) _) hb1⟩

/-- Each list of the blocks is no longer than memory allows. -/
def LenOk (xs : List Blk) : Prop := ∀ x ∈ xs, x.phis.length ≤ 9223372036854775807 ∧ x.instrs.length ≤ 9223372036854775807 ∧ ∀ p ∈ x.phis, p.args.length ≤ 9223372036854775807

set_option maxHeartbeats 400000 in
theorem szBlocks_any (a : Option Addr) (n c : Nat) (l : Int) (xs : List Blk) (L B : Nat) (w : World) (ha : Hid (BlksAt w L B a xs)) (hx : Hid (n = xs.length)) (hn : n ≤ 9223372036854775807) (hs : Hid (LenOk xs))
    (h0 : 0 ≤ l) (h1 : l ≤ 1048576) (hB : B ≤ w.heap.size) :
    Calls Tryd.prog 48 #[.slice a n c, .int .i64 l] w fun e w' => e = .returned (.int .i64 (szR l (n + blksTot xs))) ∧ Below w.heap.size w w' := by
  by_cases h : l < n
  · go_enter Tryd.func48, Tryd.ntmps48
    go_wp2
    go_ret
    exact ⟨ret_int (szR_neg (by omega)).symm, Below.refl _ _⟩
  · go_enter Tryd.func48, Tryd.ntmps48
    go_wp2
    go_loopw [1, 5] (fun q i wr => ∃ k : Nat, k ≤ n ∧ i = .int .i64 k ∧ (∃ r : Int, q = .int .i64 r ∧ 0 ≤ r ∧ r ≤ 1048576 ∧ Hid (r = l - (n + blksTot (xs.take k) : Nat))) ∧ Below w.heap.size w wr) (fun _ i _ => n - (intOf i).toNat)
    case atStart => exact ⟨0, Nat.zero_le _, rfl, ⟨_, rfl, by omega, by omega, by show _ = _; simp [blksTot]⟩, Below.refl _ _⟩
    case round =>
      obtain ⟨k, hk, rfl, ⟨r, rfl, hr0, hr1, hr⟩, hw⟩ := hrel
      by_cases hlt : k < n
      · have hkx : k < xs.length := by have := hx.out; omega
        obtain ⟨b, o, rfl, ⟨_, hbB⟩, pa, pc, ia, ic, hc0, hc1, ⟨hc2, hc3, hc4, hc5⟩, hps, _⟩ := ha.out k hkx
        obtain ⟨hq1, hq2, hq3⟩ := hs.out _ (List.getElem_mem hkx)
        have HQ3 := hide hq3
        have e0 := (hw.cell (p := ⟨b, o + k * 6, none⟩) (by show b < _; omega)).trans hc0
        have e1 := (hw.cell (p := ⟨b, o + k * 6 + 1, none⟩) (by show b < _; omega)).trans hc1
        have e2 := (hw.cell (p := ⟨b, o + k * 6 + 2, none⟩) (by show b < _; omega)).trans hc2
        have e3 := (hw.cell (p := ⟨b, o + k * 6 + 2 + 1, none⟩) (by show b < _; omega)).trans hc3
        have e4 := (hw.cell (p := ⟨b, o + k * 6 + 2 + 2, none⟩) (by show b < _; omega)).trans hc4
        have e5 := (hw.cell (p := ⟨b, o + k * 6 + 2 + 3, none⟩) (by show b < _; omega)).trans hc5
        have HP := hide (hps.keep (hw.mono hB))
        clear hc0 hc1 hc2 hc3 hc4 hc5 hps hq3
        have HT : Hid (blksTot (xs.take (k + 1)) = blksTot (xs.take k) + (xs[k].phis.length + phTot xs[k].phis + xs[k].instrs.length)) := by show _ = _; rw [take_next _ _ hkx, blksTot_snoc]; rfl
        have HL : Hid (blksTot (xs.take (k + 1)) ≤ blksTot xs) := blksTot_take _ _
        have hBr : B ≤ wr.heap.size := by have := hw.size; omega
        generalize xs[k] = X at *
        by_cases hm : r < (X.phis.length + phTot X.phis + X.instrs.length : Nat)
        · have hz := szR_neg hm
          go_wp2_with (go_at_call 98; refine (szBlock_any _ _ _ _ _ _ _ _ _ _ _ X.phis L B _ HP rfl (by omega) (by omega) HQ3 (by omega) (by omega) (by omega)).mono ?_; rintro e w' ⟨rfl, hb1⟩)
          go_ret
          exact ⟨ret_int (szR_neg (by have := hr.out; have := HT.out; have := HL.out; omega)).symm, bnext hw hb1⟩
        · have hz : szR r (X.phis.length + phTot X.phis + X.instrs.length) = r - (X.phis.length + phTot X.phis + X.instrs.length : Nat) := szR_pos (by omega)
          go_wp2_with (go_at_call 98; refine (szBlock_any _ _ _ _ _ _ _ _ _ _ _ X.phis L B _ HP rfl (by omega) (by omega) HQ3 (by omega) (by omega) (by omega)).mono ?_; rintro e w' ⟨rfl, hb1⟩)
          exact ⟨⟨k + 1, by omega, by go_num, ⟨_, rfl, by omega, by omega, by have := hr.out; have := HT.out; show _ = _; omega⟩, bnext hw hb1⟩, by simp [intOf]; omega⟩
      · go_wp2
        go_ret
        have : k = n := by omega
        have h2 := hr.out
        rw [List.take_of_length_le (by have := hx.out; omega)] at h2
        exact ⟨ret_int (by rw [szR_pos (by omega)]; exact h2), hw⟩

set_option maxHeartbeats 400000 in
theorem szFunc_any (v : Int) (a : Option Addr) (n c : Nat) (l : Int) (xs : List Blk) (L B : Nat) (w : World) (ha : Hid (BlksAt w L B a xs)) (hx : Hid (n = xs.length)) (hn : n ≤ 9223372036854775807) (hs : Hid (LenOk xs))
    (h0 : 0 ≤ l) (h1 : l ≤ 1048576) (hB : B ≤ w.heap.size) :
    Calls Tryd.prog 10 #[.agg #[.int .i64 v, .slice a n c], .int .i64 l] w fun e w' => e = .returned (.int .i64 (szR l (n + blksTot xs))) ∧ Below w.heap.size w w' := by
  by_cases h : l < (n + blksTot xs : Nat)
  · have hz := szR_neg h
    go_enter Tryd.func10, Tryd.ntmps10
    go_wp2_with (go_at_call 48; refine (szBlocks_any _ _ _ _ xs L B _ (ha.out.keep ((Below.refl _ _).alloc hB _)) hx (by omega) hs (by omega) (by omega) (by simp; omega)).mono ?_; rintro e w' ⟨rfl, hb1⟩)
    go_ret
    exact ⟨ret_int hz.symm, bnext ((Below.refl _ _).alloc (Nat.le_refl _) _) hb1⟩
  · have hz : szR l (n + blksTot xs) = l - (n + blksTot xs : Nat) := szR_pos (by omega)
    go_enter Tryd.func10, Tryd.ntmps10
    go_wp2_with (go_at_call 48; refine (szBlocks_any _ _ _ _ xs L B _ (ha.out.keep ((Below.refl _ _).alloc hB _)) hx (by omega) hs (by omega) (by omega) (by simp; omega)).mono ?_; rintro e w' ⟨rfl, hb1⟩)
    go_ret
    exact ⟨ret_int hz.symm, bnext ((Below.refl _ _).alloc (Nat.le_refl _) _) hb1⟩
end Go.Proofs.YtdcdgopblbmgoaaDoor

namespace Go.Proofs.YtdcdgopblbmgoaaDoor
open Go.RowKit
attribute [local go_sem ↓] Go.wp_at_zero Go.wp_at_succ

set_option maxHeartbeats 400000 in
theorem eqInts_yes (a a' : Option Addr) (n c c' : Nat) (xs : List Int) (L B L' B' : Nat) (w : World) (ha : Hid (IntsAt w L B a xs)) (hb : Hid (IntsAt w L' B' a' xs)) (hx : Hid (n = xs.length)) (hn : n ≤ 1048576) (hB : B ≤ w.heap.size) (hB' : B' ≤ w.heap.size) :
    Calls Tryd.prog 25 #[.slice a n c, .slice a' n c'] w fun e w' => e = .returned (.bool true) ∧ Below w.heap.size w w' := by
  go_enter Tryd.func25, Tryd.ntmps25
  go_wp2
  go_loopw [5] (fun i wr => ∃ k : Nat, k ≤ n ∧ i = .int .i64 k ∧ Below w.heap.size w wr) (fun i _ => n - (intOf i).toNat)
  case atStart => exact ⟨0, Nat.zero_le _, rfl, Below.refl _ _⟩
  case round =>
    obtain ⟨k, hk, rfl, hw⟩ := hrel
    by_cases hlt : k < n
    · have hkx : k < xs.length := by have := hx.out; omega
      obtain ⟨b, o, rfl, ⟨_, hbB⟩, hc⟩ := ha.out k hkx
      obtain ⟨b', o', rfl, ⟨_, hbB'⟩, hc'⟩ := hb.out k hkx
      have hk0 : (0 : Int) ≤ (k : Int) := by omega
      have hk1 : (k : Int) < (n : Int) := by omega
      have e1 := (hw.cell (p := ⟨b, o + k, none⟩) (by show b < _; omega)).trans hc
      have e2 := (hw.cell (p := ⟨b', o' + k, none⟩) (by show b' < _; omega)).trans hc'
      clear hc hc'
      go_wp2
      go_region
      go_wp2
      exact ⟨⟨k + 1, by omega, by go_num, hw.drew⟩, by simp [intOf]; omega⟩
    · go_wp2
      go_ret
      exact ⟨rfl, hw⟩

set_option maxHeartbeats 400000 in
theorem eqInstr_yes (a b c d f : Int) (w : World) :
    Calls Tryd.prog 84 #[.agg #[.int .i64 a, .int .i64 b, .int .i64 c, .int .i64 d, .int .i64 f], .agg #[.int .i64 a, .int .i64 b, .int .i64 c, .int .i64 d, .int .i64 f]] w fun e w' => e = .returned (.bool true) ∧ Below w.heap.size w w' := by
  go_enter Tryd.func84, Tryd.ntmps84
  go_wp2
  go_ret
  exact ⟨rfl, balloc (balloc (Below.refl _ _) _) _⟩

set_option maxHeartbeats 400000 in
theorem eqTerm_yes (a b c d : Int) (w : World) :
    Calls Tryd.prog 144 #[.agg #[.int .i64 a, .int .i64 b, .int .i64 c, .int .i64 d], .agg #[.int .i64 a, .int .i64 b, .int .i64 c, .int .i64 d]] w fun e w' => e = .returned (.bool true) ∧ Below w.heap.size w w' := by
  go_enter Tryd.func144, Tryd.ntmps144
  go_wp2
  go_ret
  exact ⟨rfl, balloc (balloc (Below.refl _ _) _) _⟩

set_option maxHeartbeats 400000 in
theorem eqPhi_yes (d : Int) (a a' : Option Addr) (n c c' : Nat) (xs : List Int) (L B L' B' : Nat) (w : World) (ha : Hid (IntsAt w L B a xs)) (hb : Hid (IntsAt w L' B' a' xs)) (hx : Hid (n = xs.length)) (hn : n ≤ 1048576) (hB : B ≤ w.heap.size) (hB' : B' ≤ w.heap.size) :
    Calls Tryd.prog 159 #[.agg #[.int .i64 d, .slice a n c], .agg #[.int .i64 d, .slice a' n c']] w fun e w' => e = .returned (.bool true) ∧ Below w.heap.size w w' := by
  go_enter Tryd.func159, Tryd.ntmps159
  go_wp2_with fail
  refine (eqInts_yes _ _ _ _ _ xs L B L' B' _ ?q1 ?q2 hx hn ?q3 ?q4).mono ?_
  case q1 => exact ha.out.keep (((Below.refl _ _).alloc (by omega) _).alloc (by simp; omega) _)
  case q2 => exact hb.out.keep (((Below.refl _ _).alloc (by omega) _).alloc (by simp; omega) _)
  case q3 => simp; omega
  case q4 => simp; omega
  rintro e w1 ⟨rfl, hb1⟩
  go_wp2
  go_ret
  exact ⟨rfl, bnext (balloc (balloc (Below.refl _ _) _) _) hb1⟩

set_option maxHeartbeats 1000000 in
theorem eqInstrs_yes (a a' : Option Addr) (n c c' : Nat) (xs : List Ins) (L B L' B' : Nat) (w : World) (ha : Hid (InssAt w L B a xs)) (hb : Hid (InssAt w L' B' a' xs)) (hx : Hid (n = xs.length)) (hn : n ≤ 1048576) (hB : B ≤ w.heap.size) (hB' : B' ≤ w.heap.size) :
    Calls Tryd.prog 33 #[.slice a n c, .slice a' n c'] w fun e w' => e = .returned (.bool true) ∧ Below w.heap.size w w' := by
  go_enter Tryd.func33, Tryd.ntmps33
  go_wp2
  go_loopw [5] (fun i wr => ∃ k : Nat, k ≤ n ∧ i = .int .i64 k ∧ Below w.heap.size w wr) (fun i _ => n - (intOf i).toNat)
  case atStart => exact ⟨0, Nat.zero_le _, rfl, Below.refl _ _⟩
  case round =>
    obtain ⟨k, hk, rfl, hw⟩ := hrel
    by_cases hlt : k < n
    · have hkx : k < xs.length := by have := hx.out; omega
      obtain ⟨b, o, rfl, ⟨_, hbB⟩, hc⟩ := ha.out k hkx
      obtain ⟨b', o', rfl, ⟨_, hbB'⟩, hc'⟩ := hb.out k hkx
      have hk0 : (0 : Int) ≤ (k : Int) := by omega
      have hk1 : (k : Int) < (n : Int) := by omega
      obtain ⟨e0, e1, e2, e3, e4⟩ := hc.keep hw (by omega)
      obtain ⟨f0, f1, f2, f3, f4⟩ := hc'.keep hw (by omega)
      clear hc hc'
      generalize xs[k] = X at *
      go_wp2
      go_region_with (go_at_call 84; refine (eqInstr_yes _ _ _ _ _ _).mono ?_; rintro e w1 ⟨rfl, hb1⟩)
      all_goals
        go_wp2
        exact ⟨⟨k + 1, by omega, by go_num, bnext hw.drew hb1⟩, by simp [intOf]; omega⟩
    · go_wp2
      go_ret
      exact ⟨rfl, hw⟩

def PhLen (xs : List Ph) : Prop := ∀ p ∈ xs, p.args.length ≤ 1048576

set_option maxHeartbeats 1000000 in
theorem eqPhis_yes (a a' : Option Addr) (n c c' : Nat) (xs : List Ph) (L B L' B' : Nat) (w : World) (ha : Hid (PhsAt w L B a xs)) (hb : Hid (PhsAt w L' B' a' xs)) (hx : Hid (n = xs.length)) (hs : Hid (PhLen xs)) (hn : n ≤ 1048576) (hB : B ≤ w.heap.size) (hB' : B' ≤ w.heap.size) :
    Calls Tryd.prog 143 #[.slice a n c, .slice a' n c'] w fun e w' => e = .returned (.bool true) ∧ Below w.heap.size w w' := by
  go_enter Tryd.func143, Tryd.ntmps143
  go_wp2
  go_loopw [5] (fun i wr => ∃ k : Nat, k ≤ n ∧ i = .int .i64 k ∧ Below w.heap.size w wr) (fun i _ => n - (intOf i).toNat)
  case atStart => exact ⟨0, Nat.zero_le _, rfl, Below.refl _ _⟩
  case round =>
    obtain ⟨k, hk, rfl, hw⟩ := hrel
    by_cases hlt : k < n
    · have hkx : k < xs.length := by have := hx.out; omega
      obtain ⟨b, o, rfl, ⟨_, hbB⟩, hc⟩ := ha.out k hkx
      obtain ⟨b', o', rfl, ⟨_, hbB'⟩, hc'⟩ := hb.out k hkx
      have hk0 : (0 : Int) ≤ (k : Int) := by omega
      have hk1 : (k : Int) < (n : Int) := by omega
      obtain ⟨aa, cc, e0, e1, hi⟩ := hc.keep (hw.mono hB) (by omega)
      obtain ⟨aa', cc', f0, f1, hi'⟩ := hc'.keep (hw.mono hB') (by omega)
      have HI := hide (hi.keep ((Below.refl B wr).drew))
      have HI' := hide (hi'.keep ((Below.refl B' wr).drew))
      have hq := hs.out _ (List.getElem_mem hkx)
      have hBr : B ≤ wr.heap.size := by have := hw.size; omega
      have hBr' : B' ≤ wr.heap.size := by have := hw.size; omega
      clear hc hc' hi hi'
      generalize xs[k] = X at *
      go_wp2
      go_region_with (go_at_call 159; refine (eqPhi_yes _ _ _ _ _ _ X.args L B L' B' _ HI HI' rfl hq hBr hBr').mono ?_; rintro e w1 ⟨rfl, hb1⟩)
      all_goals
        go_wp2
        exact ⟨⟨k + 1, by omega, by go_num, bnext hw.drew hb1⟩, by simp [intOf]; omega⟩
    · go_wp2
      go_ret
      exact ⟨rfl, hw⟩

set_option maxHeartbeats 1000000 in
theorem eqBlock_yes (p p' i i' : Option Addr) (n pc pc' m ic ic' : Nat) (t0 t1 t2 t3 : Int) (xs : List Ph) (ys : List Ins) (L B L' B' : Nat) (w : World) (ha : Hid (PhsAt w L B p xs)) (hb : Hid (PhsAt w L' B' p' xs)) (ga : Hid (InssAt w L B i ys)) (gb : Hid (InssAt w L' B' i' ys))
    (hx : Hid (n = xs.length)) (hy : Hid (m = ys.length)) (hs : Hid (PhLen xs)) (hn : n ≤ 1048576) (hm : m ≤ 1048576) (hB : B ≤ w.heap.size) (hB' : B' ≤ w.heap.size) :
    Calls Tryd.prog 103 #[.agg #[.slice p n pc, .slice i m ic, .int .i64 t0, .int .i64 t1, .int .i64 t2, .int .i64 t3], .agg #[.slice p' n pc', .slice i' m ic', .int .i64 t0, .int .i64 t1, .int .i64 t2, .int .i64 t3]] w fun e w' => e = .returned (.bool true) ∧ Below w.heap.size w w' := by
  go_enter Tryd.func103, Tryd.ntmps103
  go_wp2_with fail
  refine (eqPhis_yes _ _ _ _ _ xs L B L' B' _ ?q1 ?q2 hx hs hn ?q3 ?q4).mono ?_
  case q1 => exact ha.out.keep (((Below.refl _ _).alloc (by omega) _).alloc (by simp; omega) _)
  case q2 => exact hb.out.keep (((Below.refl _ _).alloc (by omega) _).alloc (by simp; omega) _)
  case q3 => simp; omega
  case q4 => simp; omega
  rintro e w1 ⟨rfl, hb1⟩
  have hz1 := hb1.size
  simp at hz1
  have hz2 : w.heap.size < w1.heap.size := by omega
  have hz3 : w.heap.size + 1 < w1.heap.size := by omega
  obtain ⟨hc1, hf1⟩ := bcell hb1
  have b1 := bnext (balloc (balloc (Below.refl _ _) _) _) hb1
  go_wp2_with fail
  refine (eqInstrs_yes _ _ _ _ _ ys L B L' B' _ ?q1 ?q2 hy hm ?q3 ?q4).mono ?_
  case q1 => exact ga.out.keep (b1.mono hB)
  case q2 => exact gb.out.keep (b1.mono hB')
  case q3 => omega
  case q4 => omega
  rintro e w2 ⟨rfl, hb2⟩
  obtain ⟨hc2, hf2⟩ := bcell hb2
  have b2 := bnext b1 hb2
  go_wp2_with fail
  refine (eqTerm_yes _ _ _ _ _).mono ?_
  rintro e w3 ⟨rfl, hb3⟩
  go_wp2
  go_ret
  exact ⟨rfl, bnext b2 hb3⟩

def BlkLen (xs : List Blk) : Prop := ∀ x ∈ xs, x.phis.length ≤ 1048576 ∧ x.instrs.length ≤ 1048576 ∧ PhLen x.phis

set_option maxHeartbeats 1000000 in
theorem eqBlocks_yes (a a' : Option Addr) (n c c' : Nat) (xs : List Blk) (L B L' B' : Nat) (w : World) (ha : Hid (BlksAt w L B a xs)) (hb : Hid (BlksAt w L' B' a' xs)) (hx : Hid (n = xs.length)) (hs : Hid (BlkLen xs)) (hn : n ≤ 1048576) (hB : B ≤ w.heap.size) (hB' : B' ≤ w.heap.size) :
    Calls Tryd.prog 61 #[.slice a n c, .slice a' n c'] w fun e w' => e = .returned (.bool true) ∧ Below w.heap.size w w' := by
  go_enter Tryd.func61, Tryd.ntmps61
  go_wp2
  go_loopw [5] (fun i wr => ∃ k : Nat, k ≤ n ∧ i = .int .i64 k ∧ Below w.heap.size w wr) (fun i _ => n - (intOf i).toNat)
  case atStart => exact ⟨0, Nat.zero_le _, rfl, Below.refl _ _⟩
  case round =>
    obtain ⟨k, hk, rfl, hw⟩ := hrel
    by_cases hlt : k < n
    · have hkx : k < xs.length := by have := hx.out; omega
      obtain ⟨b, o, rfl, ⟨_, hbB⟩, hc⟩ := ha.out k hkx
      obtain ⟨b', o', rfl, ⟨_, hbB'⟩, hc'⟩ := hb.out k hkx
      have hk0 : (0 : Int) ≤ (k : Int) := by omega
      have hk1 : (k : Int) < (n : Int) := by omega
      obtain ⟨pa, pc, ia, ic, e0, e1, ⟨e2, e3, e4, e5⟩, hp, hi⟩ := hc.keep (hw.mono hB) (by omega)
      obtain ⟨pa', pc', ia', ic', f0, f1, ⟨f2, f3, f4, f5⟩, hp', hi'⟩ := hc'.keep (hw.mono hB') (by omega)
      have HP := hide (hp.keep ((Below.refl B wr).drew))
      have HP' := hide (hp'.keep ((Below.refl B' wr).drew))
      have HI := hide (hi.keep ((Below.refl B wr).drew))
      have HI' := hide (hi'.keep ((Below.refl B' wr).drew))
      obtain ⟨hq1, hq2, hq3⟩ := hs.out _ (List.getElem_mem hkx)
      have HQ := hide hq3
      have hBr : B ≤ wr.heap.size := by have := hw.size; omega
      have hBr' : B' ≤ wr.heap.size := by have := hw.size; omega
      clear hc hc' hi hi' hp hp' hq3
      generalize xs[k] = X at *
      go_wp2
      go_region_with (go_at_call 103; refine (eqBlock_yes _ _ _ _ _ _ _ _ _ _ _ _ _ _ X.phis X.instrs L B L' B' _ HP HP' HI HI' rfl rfl HQ hq1 hq2 hBr hBr').mono ?_; rintro e w1 ⟨rfl, hb1⟩)
      all_goals
        go_wp2
        exact ⟨⟨k + 1, by omega, by go_num, bnext hw.drew hb1⟩, by simp [intOf]; omega⟩
    · go_wp2
      go_ret
      exact ⟨rfl, hw⟩

set_option maxHeartbeats 1000000 in
theorem eqFunc_yes (v : Int) (a a' : Option Addr) (n c c' : Nat) (xs : List Blk) (L B L' B' : Nat) (w : World) (ha : Hid (BlksAt w L B a xs)) (hb : Hid (BlksAt w L' B' a' xs)) (hx : Hid (n = xs.length)) (hs : Hid (BlkLen xs)) (hn : n ≤ 1048576) (hB : B ≤ w.heap.size) (hB' : B' ≤ w.heap.size) :
    Calls Tryd.prog 14 #[.agg #[.int .i64 v, .slice a n c], .agg #[.int .i64 v, .slice a' n c']] w fun e w' => e = .returned (.bool true) ∧ Below w.heap.size w w' := by
  go_enter Tryd.func14, Tryd.ntmps14
  go_wp2_with fail
  refine (eqBlocks_yes _ _ _ _ _ xs L B L' B' _ ?q1 ?q2 hx hs hn ?q3 ?q4).mono ?_
  case q1 => exact ha.out.keep (((Below.refl _ _).alloc (by omega) _).alloc (by simp; omega) _)
  case q2 => exact hb.out.keep (((Below.refl _ _).alloc (by omega) _).alloc (by simp; omega) _)
  case q3 => simp; omega
  case q4 => simp; omega
  rintro e w1 ⟨rfl, hb1⟩
  go_wp2
  go_ret
  exact ⟨rfl, bnext (balloc (balloc (Below.refl _ _) _) _) hb1⟩
end Go.Proofs.YtdcdgopblbmgoaaDoor
