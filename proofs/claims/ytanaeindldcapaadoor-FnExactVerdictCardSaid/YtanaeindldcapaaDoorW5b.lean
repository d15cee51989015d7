import Derived.Test.YtanaeindldcapaaDoorW17
namespace Go.Proofs.YtanaeindldcapaaDoor
open Go.RowKit
set_option maxHeartbeats 4000000 in
theorem goodInstr_any (op dst a b imm n most : Int) (w : World) :
    Calls Tryd.prog 22 #[.agg #[.int .i64 op, .int .i64 dst, .int .i64 a, .int .i64 b, .int .i64 imm], .int .i64 n, .int .i64 most] w fun e w' => e = .returned (.bool (insOk n most ⟨op, dst, a, b, imm⟩)) ∧ Below w.heap.size w w' := by
  by_cases h : 1 ≤ op ∧ op ≤ most
  · obtain ⟨h1, h2⟩ := h
    go_enter Tryd.func22, Tryd.ntmps22
    go_wp2_with fail
    refine (usedD _ _).mono ?_
    rintro e w1 ⟨rfl, rfl⟩
    go_wp2_with fail
    refine (usedA _ _).mono ?_
    rintro e w1 ⟨rfl, rfl⟩
    go_wp2_with fail
    refine (usedB _ _).mono ?_
    rintro e w1 ⟨rfl, rfl⟩
    go_wp2
    all_goals
      go_ret
      refine ⟨ret_bool ?_, balloc (Below.refl _ _) _⟩
      first | (simp [insOk, fld, immOk, *]; done) | (simp [insOk, fld, immOk, *]; omega) | (rw [Bool.eq_iff_iff]; simp [insOk, fld, immOk, *]; omega)
  · go_enter Tryd.func22, Tryd.ntmps22
    go_wp2
    all_goals
      go_ret
      refine ⟨ret_bool ?_, balloc (Below.refl _ _) _⟩
      symm
      unfold insOk
      by_cases h1 : 1 ≤ op
      · rw [decide_eq_false (p := op ≤ most) (by omega)]; simp
      · rw [decide_eq_false (p := 1 ≤ op) h1]; simp
section
attribute [local go_sem ↓] Go.wp_at_zero Go.wp_at_succ
/-- One block by the specification's first loop. -/
def blkOkS (v : Int) (n : Nat) (x : Blk) : Bool := x.instrs.all (insOk v 10) && terOk' v n x.term
theorem blksOkS (F : Fn) : (instrsOk F && termsOk F) = F.blocks.all (blkOkS F.values F.blocks.length) := by
  rw [show F.blocks.all (blkOkS F.values F.blocks.length) = F.blocks.all (fun x => x.instrs.all (insOk F.values 10) && terOk' F.values F.blocks.length x.term) from rfl, all_and]
  rfl
set_option maxRecDepth 100000 in
set_option maxHeartbeats 8000000 in
theorem validFuncS_no (v : Int) (a : Option Addr) (n c : Nat) (xs : List Blk) (L B : Nat) (w : World) (ha : Hid (BlksAt w L B a xs)) (hx : Hid (n = xs.length)) (hn : n ≤ 1048576) (hbs : Hid (blksSize xs ≤ 1048576)) (hB : B ≤ w.heap.size)
    (h : Hid (¬ (0 ≤ v ∧ v ≤ 2000 ∧ 1 ≤ n ∧ n ≤ 1000 ∧ blksSize xs ≤ 4000))) :
    Calls Tryd.prog 10 #[.agg #[.int .i64 v, .slice a n c]] w fun e w' => e = .returned (.bool false) ∧ Below w.heap.size w w' := by
  by_cases hd : 0 ≤ v ∧ v ≤ 2000 ∧ 1 ≤ n ∧ n ≤ 1000
  · obtain ⟨d0, d1, d2, d3⟩ := hd
    have hsz : 4000 < blksSize xs := by have := h.out; omega
    go_enter Tryd.func10, Tryd.ntmps10
    go_wp2_with fail
    refine (l1Size_any v a n c xs L B _ ?q1 hx hn hbs.out ?q2).mono ?_
    case q1 => exact ha.out.keep (balloc (Below.refl _ _) _ |>.mono hB)
    case q2 => simp; omega
    rintro e w1 ⟨rfl, hb1⟩
    go_wp2
    go_ret
    exact ⟨rfl, bnext (balloc (Below.refl _ _) _) hb1⟩
  · have hd' : v < 0 ∨ (0 ≤ v ∧ 2000 < v) ∨ (0 ≤ v ∧ v ≤ 2000 ∧ n < 1) ∨ (0 ≤ v ∧ v ≤ 2000 ∧ 1 ≤ n ∧ 1000 < n) := by omega
    clear hd
    rcases hd' with d | ⟨d, d1⟩ | ⟨d, d1, d2⟩ | ⟨d, d1, d2, d3⟩
    all_goals
      go_enter Tryd.func10, Tryd.ntmps10
      go_wp2
      go_ret
      exact ⟨rfl, balloc (Below.refl _ _) _⟩
end
end Go.Proofs.YtanaeindldcapaaDoor
