import Derived.Test.YtdcdgopblbmgoaaGreatDoorPure2
import Derived.Test.YtdcdgopblbmgoaaGreatDoorW6b
namespace Go.Proofs.YtdcdgopblbmgoaaGreatDoor
open Go.RowKit

set_option maxHeartbeats 4000000 in
theorem goodInstr_any (op dst a b imm n most : Int) (w : World) :
    Calls Tryz.prog 33 #[.agg #[.int .i64 op, .int .i64 dst, .int .i64 a, .int .i64 b, .int .i64 imm], .int .i64 n, .int .i64 most] w fun e w' => e = .returned (.bool (insOk n most ⟨op, dst, a, b, imm⟩)) ∧ Below w.heap.size w w' := by
  by_cases h : 1 ≤ op ∧ op ≤ most
  · obtain ⟨h1, h2⟩ := h
    go_enter Tryz.func33, Tryz.ntmps33
    go_wp2_with fail
    refine (usedD _ _).mono ?_
    rintro e w1 ⟨rfl, rfl⟩
    go_wp2_with fail
    refine (usedA _ _).mono ?_
    rintro e w1 ⟨rfl, rfl⟩
    go_wp2_with fail
    refine (usedB _ _).mono ?_
    rintro e w1 ⟨rfl, rfl⟩
    go_wp2
    all_goals
      go_ret
      refine ⟨ret_bool ?_, balloc (Below.refl _ _) _⟩
      first | (simp [insOk, fld, immOk, *]; done) | (simp [insOk, fld, immOk, *]; omega) | (rw [Bool.eq_iff_iff]; simp [insOk, fld, immOk, *]; omega)
  · go_enter Tryz.func33, Tryz.ntmps33
    go_wp2
    all_goals
      go_ret
      refine ⟨ret_bool ?_, balloc (Below.refl _ _) _⟩
      symm
      unfold insOk
      by_cases h1 : 1 ≤ op
      · rw [decide_eq_false (p := op ≤ most) (by omega)]; simp
      · rw [decide_eq_false (p := 1 ≤ op) h1]; simp
end Go.Proofs.YtdcdgopblbmgoaaGreatDoor

namespace Go.Proofs.YtdcdgopblbmgoaaGreatDoor
open Go.RowKit

theorem phSize_snoc (ps : List Ph) (p : Ph) : phSize (ps ++ [p]) = phSize ps + (1 + p.args.length) := by simp [phSize]
theorem blksSize_snoc (xs : List Blk) (x : Blk) : blksSize (xs ++ [x]) = blksSize xs + (1 + x.instrs.length + phSize x.phis) := by simp [blksSize, blkSize]
theorem phSize_len (ps : List Ph) : ps.length ≤ phSize ps := by
  induction ps with
  | nil => simp
  | cons p ps ih => simp only [phSize, List.map_cons, List.sum_cons, List.length_cons] at ih ⊢; omega
theorem phSize_take (ps : List Ph) (k : Nat) : phSize (ps.take k) ≤ phSize ps := sum_take_le _ _ _
theorem blksSize_take (xs : List Blk) (k : Nat) : blksSize (xs.take k) ≤ blksSize xs := sum_take_le _ _ _

set_option maxHeartbeats 1000000 in
theorem l1Size_any (v : Int) (a : Option Addr) (n c : Nat) (xs : List Blk) (L B : Nat) (w : World) (ha : Hid (BlksAt w L B a xs)) (hx : Hid (n = xs.length)) (hn : n ≤ 1048576) (hs : blksSize xs ≤ 1048576) (hB : B ≤ w.heap.size) :
    Calls Tryz.prog 32 #[.agg #[.int .i64 v, .slice a n c]] w fun e w' => e = .returned (.int .i64 (blksSize xs)) ∧ Below w.heap.size w w' := by
  go_enter Tryz.func32, Tryz.ntmps32
  go_wp2
  have hbel := balloc (Below.refl w.heap.size w) (.cells #[.int .i64 v, .slice a n c] 25)
  have hbox : (w.alloc (.cells #[.int .i64 v, .slice a n c] 25)).cell? ⟨w.heap.size, 1, none⟩ = some (.slice a n c) := by simp
  generalize w.alloc (.cells #[.int .i64 v, .slice a n c] 25) = w1 at *
  go_loop [3, 4] (fun u i => ∃ k : Nat, k ≤ n ∧ i = .int .i64 k ∧ u = .int .i64 (blksSize (xs.take k) : Nat)) (fun _ i => n - (intOf i).toNat)
  case atStart => exact ⟨0, Nat.zero_le _, rfl, rfl⟩
  case round =>
    obtain ⟨k, hk, rfl, rfl⟩ := hrel
    by_cases hlt : k < n
    · have hkx : k < xs.length := by have := hx.out; omega
      obtain ⟨b, o, rfl, ⟨_, hbB⟩, hc⟩ := ha.out k hkx
      obtain ⟨pa, pc, ia, ic, e0, e1, _, hp, _⟩ := hc.keep (hbel.mono hB) (by omega)
      have HP := hide hp
      have h1 : Hid (blksSize (xs.take (k + 1)) = blksSize (xs.take k) + (1 + xs[k].instrs.length + phSize xs[k].phis)) := by show _ = _; rw [take_next _ _ hkx, blksSize_snoc]
      have h2 := blksSize_take xs (k + 1)
      have H2 := hide h2
      have hb1 : blksSize (xs.take k) + (1 + xs[k].instrs.length + phSize xs[k].phis) ≤ 1048576 := by have := h1.out; omega
      have hpl : xs[k].phis.length ≤ 1048576 := by have := phSize_len xs[k].phis; omega
      clear hc hp h2
      generalize xs[k] = X at *
      generalize hS : blksSize (xs.take k) = S at *
      have HS := hide hS
      clear hS
      go_wp2
      go_loop [3, 5] (fun u i => ∃ j : Nat, j ≤ X.phis.length ∧ i = .int .i64 j ∧ u = .int .i64 (S + (1 + X.instrs.length) + phSize (X.phis.take j) : Nat)) (fun _ i => X.phis.length - (intOf i).toNat)
      case atStart => exact ⟨0, Nat.zero_le _, rfl, by simp [phSize]; try omega⟩
      case round =>
        obtain ⟨j, hj, rfl, rfl⟩ := hrel
        by_cases hjt : j < X.phis.length
        · obtain ⟨b', o', rfl, ⟨_, hbB'⟩, aa, cc, g0, g1, _⟩ := HP.out j hjt
          have h3 : Hid (phSize (X.phis.take (j + 1)) = phSize (X.phis.take j) + (1 + X.phis[j].args.length)) := by show _ = _; rw [take_next _ _ hjt, phSize_snoc]
          have h4 := phSize_take X.phis (j + 1)
          have hb2 : phSize (X.phis.take j) + (1 + X.phis[j].args.length) ≤ phSize X.phis := by have := h3.out; omega
          have H4 := hide h4
          clear h4
          generalize X.phis[j] = P at *
          generalize hT : phSize (X.phis.take j) = T at *
          have HT := hide hT
          clear hT
          go_wp2
          go_round
          case rel => exact ⟨j + 1, by omega, by go_num, by rw [h3.out]; go_num⟩
          case measure => simp [intOf]; omega
        · have e := List.take_of_length_le (l := X.phis) (i := j) (by omega)
          have E := hide e
          clear e
          go_wp2
          go_round
          case rel => exact ⟨k + 1, by omega, by go_num, by rw [h1.out, E.out]; go_num⟩
          case measure => simp [intOf]; omega
    · have e := List.take_of_length_le (l := xs) (i := k) (by have := hx.out; omega)
      have E := hide e
      clear e
      go_wp2
      go_ret
      exact ⟨ret_int (by rw [E.out]), hbel⟩
end Go.Proofs.YtdcdgopblbmgoaaGreatDoor
