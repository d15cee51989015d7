import Derived.Test.YtanaeindldcapaaDoorProg
import Derived.Test.YtanaeindldcapaaDoorMem
import Derived.WalkSpells
import Derived.WalkLawsBesides
namespace Go.Proofs.YtanaeindldcapaaDoor
open Go.RowKit
theorem ret_int {k : IntKind} {a b : Int} (h : a = b) : Ending.returned (.int k a) = .returned (.int k b) := by rw [h]
theorem ret_bool {a b : Bool} (h : a = b) : Ending.returned (.bool a) = .returned (.bool b) := by rw [h]
set_option maxHeartbeats 400000 in
theorem validField_any (u : Bool) (x lo hi : Int) (w : World) :
    Calls Tryd.prog 64 #[.bool u, .int .i64 x, .int .i64 lo, .int .i64 hi] w fun e w' => e = .returned (.bool (fld u x lo hi)) ∧ w' = w := by
  cases u
  · go_enter Tryd.func64, Tryd.ntmps64
    go_wp2
    go_ret
    exact ⟨rfl, rfl⟩
  · by_cases h1 : lo ≤ x <;> by_cases h2 : x < hi
    all_goals
      go_enter Tryd.func64, Tryd.ntmps64
      go_wp2
      go_ret
      exact ⟨by simp [fld, h1, h2], rfl⟩
set_option maxHeartbeats 400000 in
theorem szInts_any (a : Option Addr) (n c : Nat) (l : Int) (w : World) (hn : n ≤ 9223372036854775807) (h0 : 0 ≤ l) (h1 : l ≤ 1048576) :
    Calls Tryd.prog 90 #[.slice a n c, .int .i64 l] w fun e w' => e = .returned (.int .i64 (szR l n)) ∧ w' = w := by
  by_cases h : l < n
  · go_enter Tryd.func90, Tryd.ntmps90
    go_wp2
    go_ret
    exact ⟨ret_int (szR_neg h).symm, rfl⟩
  · go_enter Tryd.func90, Tryd.ntmps90
    go_wp2
    go_ret
    exact ⟨ret_int (szR_pos (by omega)).symm, rfl⟩
set_option maxHeartbeats 400000 in
theorem szInstrs_any (a : Option Addr) (n c : Nat) (l : Int) (w : World) (hn : n ≤ 9223372036854775807) (h0 : 0 ≤ l) (h1 : l ≤ 1048576) :
    Calls Tryd.prog 52 #[.slice a n c, .int .i64 l] w fun e w' => e = .returned (.int .i64 (szR l n)) ∧ w' = w := by
  by_cases h : l < n
  · go_enter Tryd.func52, Tryd.ntmps52
    go_wp2
    go_ret
    exact ⟨ret_int (szR_neg h).symm, rfl⟩
  · go_enter Tryd.func52, Tryd.ntmps52
    go_wp2
    go_ret
    exact ⟨ret_int (szR_pos (by omega)).symm, rfl⟩
set_option maxHeartbeats 400000 in
theorem szPhi_any (d : Int) (a : Option Addr) (n c : Nat) (l : Int) (w : World) (hn : n ≤ 9223372036854775807) (h0 : 0 ≤ l) (h1 : l ≤ 1048576) :
    Calls Tryd.prog 78 #[.agg #[.int .i64 d, .slice a n c], .int .i64 l] w fun e w' => e = .returned (.int .i64 (szR l n)) ∧ Below w.heap.size w w' := by
  by_cases h : l < n
  · have hz := szR_neg h
    go_enter Tryd.func78, Tryd.ntmps78
    go_wp2_with (go_at_call 90; refine (szInts_any _ _ _ _ _ (by omega) (by omega) (by omega)).mono ?_; rintro e w' ⟨rfl, rfl⟩)
    go_ret
    exact ⟨ret_int hz.symm, (Below.refl _ _).alloc (Nat.le_refl _) _⟩
  · have hz : szR l n = l - n := szR_pos (by omega)
    go_enter Tryd.func78, Tryd.ntmps78
    go_wp2_with (go_at_call 90; refine (szInts_any _ _ _ _ _ (by omega) (by omega) (by omega)).mono ?_; rintro e w' ⟨rfl, rfl⟩)
    go_ret
    exact ⟨ret_int hz.symm, (Below.refl _ _).alloc (Nat.le_refl _) _⟩
theorem take_next {α : Type} (xs : List α) (k : Nat) (h : k < xs.length) : xs.take (k + 1) = xs.take k ++ [xs[k]] := List.take_succ_eq_append_getElem h
set_option maxHeartbeats 400000 in
theorem szPhis_any (a : Option Addr) (n c : Nat) (l : Int) (xs : List Ph) (L B : Nat) (w : World) (ha : Hid (PhsAt w L B a xs)) (hx : Hid (n = xs.length)) (hn : n ≤ 9223372036854775807) (hs : Hid (∀ p ∈ xs, p.args.length ≤ 9223372036854775807))
    (h0 : 0 ≤ l) (h1 : l ≤ 1048576) (hB : B ≤ w.heap.size) :
    Calls Tryd.prog 51 #[.slice a n c, .int .i64 l] w fun e w' => e = .returned (.int .i64 (szR l (n + phTot xs))) ∧ Below w.heap.size w w' := by
  by_cases h : l < n
  · go_enter Tryd.func51, Tryd.ntmps51
    go_wp2
    go_ret
    exact ⟨ret_int (szR_neg (by omega)).symm, Below.refl _ _⟩
  · go_enter Tryd.func51, Tryd.ntmps51
    go_wp2
    go_loopw [1, 5] (fun q i wr => ∃ k : Nat, k ≤ n ∧ i = .int .i64 k ∧ (∃ r : Int, q = .int .i64 r ∧ 0 ≤ r ∧ r ≤ 1048576 ∧ Hid (r = l - (n + phTot (xs.take k) : Nat))) ∧ Below w.heap.size w wr) (fun _ i _ => n - (intOf i).toNat)
    case atStart => exact ⟨0, Nat.zero_le _, rfl, ⟨_, rfl, by omega, by omega, by show _ = _; simp [phTot]⟩, Below.refl _ _⟩
    case round =>
      obtain ⟨k, hk, rfl, ⟨r, rfl, hr0, hr1, hr⟩, hw⟩ := hrel
      by_cases hlt : k < n
      · obtain ⟨b, o, rfl, ⟨_, hbB⟩, aa, cc, hc0, hc1, _⟩ := ha.out k (by have := hx.out; omega)
        have hq := hs.out _ (List.getElem_mem (by have := hx.out; omega : k < xs.length))
        have e1 := (hw.cell (p := ⟨b, o + k * 2, none⟩) (by show b < _; omega)).trans hc0
        have e2 := (hw.cell (p := ⟨b, o + k * 2 + 1, none⟩) (by show b < _; omega)).trans hc1
        clear hc0 hc1
        have HT : Hid (phTot (xs.take (k + 1)) = phTot (xs.take k) + (xs[k]'(by have := hx.out; omega)).args.length) := by show _ = _; rw [take_next _ _ (by have := hx.out; omega), phTot_snoc]
        have HL : Hid (phTot (xs.take (k + 1)) ≤ phTot xs) := phTot_take _ _
        generalize (xs[k]'(by have := hx.out; omega)).args.length = m at *
        generalize (xs[k]'(by have := hx.out; omega)).dst = d at *
        by_cases hm : r < m
        · have hz := szR_neg hm
          go_wp2_with (go_at_call 78; refine (szPhi_any _ _ _ _ _ _ (by omega) (by omega) (by omega)).mono ?_; rintro e w' ⟨rfl, hb1⟩)
          go_ret
          exact ⟨ret_int (szR_neg (by have := hr.out; have := HT.out; have := HL.out; omega)).symm, bnext hw hb1⟩
        · have hz : szR r m = r - m := szR_pos (by omega)
          go_wp2_with (go_at_call 78; refine (szPhi_any _ _ _ _ _ _ (by omega) (by omega) (by omega)).mono ?_; rintro e w' ⟨rfl, hb1⟩)
          exact ⟨⟨k + 1, by omega, by go_num, ⟨_, rfl, by omega, by omega, by have := hr.out; have := HT.out; show _ = _; omega⟩, bnext hw hb1⟩, by simp [intOf]; omega⟩
      · go_wp2
        go_ret
        have : k = n := by omega
        have h2 := hr.out
        rw [List.take_of_length_le (by have := hx.out; omega)] at h2
        exact ⟨ret_int (by rw [szR_pos (by omega)]; exact h2), hw⟩
set_option maxHeartbeats 400000 in
theorem szBlock_any (p i : Option Addr) (n pc m ic : Nat) (t0 t1 t2 t3 l : Int) (xs : List Ph) (L B : Nat) (w : World) (ha : Hid (PhsAt w L B p xs)) (hx : Hid (n = xs.length)) (hn : n ≤ 9223372036854775807) (hm : m ≤ 9223372036854775807) (hs : Hid (∀ p ∈ xs, p.args.length ≤ 9223372036854775807))
    (h0 : 0 ≤ l) (h1 : l ≤ 1048576) (hB : B ≤ w.heap.size) :
    Calls Tryd.prog 20 #[.agg #[.slice p n pc, .slice i m ic, .int .i64 t0, .int .i64 t1, .int .i64 t2, .int .i64 t3], .int .i64 l] w fun e w' => e = .returned (.int .i64 (szR l (n + phTot xs + m))) ∧ Below w.heap.size w w' := by
  by_cases h : l < (n + phTot xs : Nat)
  · have hz := szR_neg h
    go_enter Tryd.func20, Tryd.ntmps20
    go_wp2_with (go_at_call 51; refine (szPhis_any _ _ _ _ xs L B _ (ha.out.keep ((Below.refl _ _).alloc hB _)) hx (by omega) hs (by omega) (by omega) (by simp; omega)).mono ?_; rintro e w' ⟨rfl, hb1⟩)
    go_ret
    exact ⟨ret_int (szR_neg (by omega)).symm, bnext ((Below.refl _ _).alloc (Nat.le_refl _) _) hb1⟩
  · have hz : szR l (n + phTot xs) = l - (n + phTot xs : Nat) := szR_pos (by omega)
    generalize hN : n + phTot xs = N at *
    have HN := hide hN
    clear hN
    by_cases h2 : l - N < m
    · have hz2 := szR_neg h2
      go_enter Tryd.func20, Tryd.ntmps20
      go_wp2_with (first | (go_at_call 51; refine (szPhis_any _ _ _ _ xs L B _ (ha.out.keep ((Below.refl _ _).alloc hB _)) hx (by omega) hs (by omega) (by omega) (by simp; omega)).mono ?_; rintro e w1 ⟨rfl, hb1⟩; obtain ⟨hc1, hf1⟩ := bcell hb1; rw [unhide HN]) | (go_at_call 52; refine (szInstrs_any _ _ _ _ _ (by omega) (by omega) (by omega)).mono ?_; rintro e w' ⟨rfl, rfl⟩))
      go_ret
      exact ⟨ret_int (szR_neg (by omega)).symm, bnext ((Below.refl _ _).alloc (Nat.le_refl _) _) hb1⟩
    · have hz2 : szR (l - N) m = l - N - m := szR_pos (by omega)
      go_enter Tryd.func20, Tryd.ntmps20
      go_wp2_with (first | (go_at_call 51; refine (szPhis_any _ _ _ _ xs L B _ (ha.out.keep ((Below.refl _ _).alloc hB _)) hx (by omega) hs (by omega) (by omega) (by simp; omega)).mono ?_; rintro e w1 ⟨rfl, hb1⟩; obtain ⟨hc1, hf1⟩ := bcell hb1; rw [unhide HN]) | (go_at_call 52; refine (szInstrs_any _ _ _ _ _ (by omega) (by omega) (by omega)).mono ?_; rintro e w' ⟨rfl, rfl⟩))
      go_ret
      exact ⟨ret_int (by rw [szR_pos (by omega)]; omega), bnext ((Below.refl _ _).alloc (Nat.le_refl _) _) hb1⟩
/-- Each list of the blocks is no longer than memory allows. -/
def LenOk (xs : List Blk) : Prop := ∀ x ∈ xs, x.phis.length ≤ 9223372036854775807 ∧ x.instrs.length ≤ 9223372036854775807 ∧ ∀ p ∈ x.phis, p.args.length ≤ 9223372036854775807
set_option maxHeartbeats 400000 in
theorem szBlocks_any (a : Option Addr) (n c : Nat) (l : Int) (xs : List Blk) (L B : Nat) (w : World) (ha : Hid (BlksAt w L B a xs)) (hx : Hid (n = xs.length)) (hn : n ≤ 9223372036854775807) (hs : Hid (LenOk xs))
    (h0 : 0 ≤ l) (h1 : l ≤ 1048576) (hB : B ≤ w.heap.size) :
    Calls Tryd.prog 9 #[.slice a n c, .int .i64 l] w fun e w' => e = .returned (.int .i64 (szR l (n + blksTot xs))) ∧ Below w.heap.size w w' := by
  by_cases h : l < n
  · go_enter Tryd.func9, Tryd.ntmps9
    go_wp2
    go_ret
    exact ⟨ret_int (szR_neg (by omega)).symm, Below.refl _ _⟩
  · go_enter Tryd.func9, Tryd.ntmps9
    go_wp2
    go_loopw [1, 5] (fun q i wr => ∃ k : Nat, k ≤ n ∧ i = .int .i64 k ∧ (∃ r : Int, q = .int .i64 r ∧ 0 ≤ r ∧ r ≤ 1048576 ∧ Hid (r = l - (n + blksTot (xs.take k) : Nat))) ∧ Below w.heap.size w wr) (fun _ i _ => n - (intOf i).toNat)
    case atStart => exact ⟨0, Nat.zero_le _, rfl, ⟨_, rfl, by omega, by omega, by show _ = _; simp [blksTot]⟩, Below.refl _ _⟩
    case round =>
      obtain ⟨k, hk, rfl, ⟨r, rfl, hr0, hr1, hr⟩, hw⟩ := hrel
      by_cases hlt : k < n
      · have hkx : k < xs.length := by have := hx.out; omega
        obtain ⟨b, o, rfl, ⟨_, hbB⟩, pa, pc, ia, ic, hc0, hc1, ⟨hc2, hc3, hc4, hc5⟩, hps, _⟩ := ha.out k hkx
        obtain ⟨hq1, hq2, hq3⟩ := hs.out _ (List.getElem_mem hkx)
        have HQ3 := hide hq3
        have e0 := (hw.cell (p := ⟨b, o + k * 6, none⟩) (by show b < _; omega)).trans hc0
        have e1 := (hw.cell (p := ⟨b, o + k * 6 + 1, none⟩) (by show b < _; omega)).trans hc1
        have e2 := (hw.cell (p := ⟨b, o + k * 6 + 2, none⟩) (by show b < _; omega)).trans hc2
        have e3 := (hw.cell (p := ⟨b, o + k * 6 + 2 + 1, none⟩) (by show b < _; omega)).trans hc3
        have e4 := (hw.cell (p := ⟨b, o + k * 6 + 2 + 2, none⟩) (by show b < _; omega)).trans hc4
        have e5 := (hw.cell (p := ⟨b, o + k * 6 + 2 + 3, none⟩) (by show b < _; omega)).trans hc5
        have HP := hide (hps.keep (hw.mono hB))
        clear hc0 hc1 hc2 hc3 hc4 hc5 hps hq3
        have HT : Hid (blksTot (xs.take (k + 1)) = blksTot (xs.take k) + (xs[k].phis.length + phTot xs[k].phis + xs[k].instrs.length)) := by show _ = _; rw [take_next _ _ hkx, blksTot_snoc]; rfl
        have HL : Hid (blksTot (xs.take (k + 1)) ≤ blksTot xs) := blksTot_take _ _
        have hBr : B ≤ wr.heap.size := by have := hw.size; omega
        generalize xs[k] = X at *
        by_cases hm : r < (X.phis.length + phTot X.phis + X.instrs.length : Nat)
        · have hz := szR_neg hm
          go_wp2_with (go_at_call 20; refine (szBlock_any _ _ _ _ _ _ _ _ _ _ _ X.phis L B _ HP rfl (by omega) (by omega) HQ3 (by omega) (by omega) (by omega)).mono ?_; rintro e w' ⟨rfl, hb1⟩)
          go_ret
          exact ⟨ret_int (szR_neg (by have := hr.out; have := HT.out; have := HL.out; omega)).symm, bnext hw hb1⟩
        · have hz : szR r (X.phis.length + phTot X.phis + X.instrs.length) = r - (X.phis.length + phTot X.phis + X.instrs.length : Nat) := szR_pos (by omega)
          go_wp2_with (go_at_call 20; refine (szBlock_any _ _ _ _ _ _ _ _ _ _ _ X.phis L B _ HP rfl (by omega) (by omega) HQ3 (by omega) (by omega) (by omega)).mono ?_; rintro e w' ⟨rfl, hb1⟩)
          exact ⟨⟨k + 1, by omega, by go_num, ⟨_, rfl, by omega, by omega, by have := hr.out; have := HT.out; show _ = _; omega⟩, bnext hw hb1⟩, by simp [intOf]; omega⟩
      · go_wp2
        go_ret
        have : k = n := by omega
        have h2 := hr.out
        rw [List.take_of_length_le (by have := hx.out; omega)] at h2
        exact ⟨ret_int (by rw [szR_pos (by omega)]; exact h2), hw⟩
set_option maxHeartbeats 400000 in
theorem szFunc_any (v : Int) (a : Option Addr) (n c : Nat) (l : Int) (xs : List Blk) (L B : Nat) (w : World) (ha : Hid (BlksAt w L B a xs)) (hx : Hid (n = xs.length)) (hn : n ≤ 9223372036854775807) (hs : Hid (LenOk xs))
    (h0 : 0 ≤ l) (h1 : l ≤ 1048576) (hB : B ≤ w.heap.size) :
    Calls Tryd.prog 4 #[.agg #[.int .i64 v, .slice a n c], .int .i64 l] w fun e w' => e = .returned (.int .i64 (szR l (n + blksTot xs))) ∧ Below w.heap.size w w' := by
  by_cases h : l < (n + blksTot xs : Nat)
  · have hz := szR_neg h
    go_enter Tryd.func4, Tryd.ntmps4
    go_wp2_with (go_at_call 9; refine (szBlocks_any _ _ _ _ xs L B _ (ha.out.keep ((Below.refl _ _).alloc hB _)) hx (by omega) hs (by omega) (by omega) (by simp; omega)).mono ?_; rintro e w' ⟨rfl, hb1⟩)
    go_ret
    exact ⟨ret_int hz.symm, bnext ((Below.refl _ _).alloc (Nat.le_refl _) _) hb1⟩
  · have hz : szR l (n + blksTot xs) = l - (n + blksTot xs : Nat) := szR_pos (by omega)
    go_enter Tryd.func4, Tryd.ntmps4
    go_wp2_with (go_at_call 9; refine (szBlocks_any _ _ _ _ xs L B _ (ha.out.keep ((Below.refl _ _).alloc hB _)) hx (by omega) hs (by omega) (by omega) (by simp; omega)).mono ?_; rintro e w' ⟨rfl, hb1⟩)
    go_ret
    exact ⟨ret_int hz.symm, bnext ((Below.refl _ _).alloc (Nat.le_refl _) _) hb1⟩
end Go.Proofs.YtanaeindldcapaaDoor
