import Derived.Test.YthgikffcdgpgiaaGreatDoorW5
namespace Go.Proofs.YthgikffcdgpgiaaGreatDoor
open Go.RowKit
set_option maxHeartbeats 4000000 in
theorem goodInstr_any (op dst a b imm n most : Int) (w : World) :
    Calls Tryz.prog 74 #[.agg #[.int .i64 op, .int .i64 dst, .int .i64 a, .int .i64 b, .int .i64 imm], .int .i64 n, .int .i64 most] w fun e w' => e = .returned (.bool (insOk n most ⟨op, dst, a, b, imm⟩)) ∧ Below w.heap.size w w' := by
  by_cases h : 1 ≤ op ∧ op ≤ most
  · obtain ⟨h1, h2⟩ := h
    go_enter Tryz.func74, Tryz.ntmps74
    go_wp2_with fail
    refine (usedD _ _).mono ?_
    rintro e w1 ⟨rfl, rfl⟩
    go_wp2_with fail
    refine (usedA _ _).mono ?_
    rintro e w1 ⟨rfl, rfl⟩
    go_wp2_with fail
    refine (usedB _ _).mono ?_
    rintro e w1 ⟨rfl, rfl⟩
    go_wp2
    all_goals
      go_ret
      refine ⟨ret_bool ?_, balloc (Below.refl _ _) _⟩
      first | (simp [insOk, fld, immOk, *]; done) | (simp [insOk, fld, immOk, *]; omega) | (rw [Bool.eq_iff_iff]; simp [insOk, fld, immOk, *]; omega)
  · go_enter Tryz.func74, Tryz.ntmps74
    go_wp2
    all_goals
      go_ret
      refine ⟨ret_bool ?_, balloc (Below.refl _ _) _⟩
      symm
      unfold insOk
      by_cases h1 : 1 ≤ op
      · rw [decide_eq_false (p := op ≤ most) (by omega)]; simp
      · rw [decide_eq_false (p := 1 ≤ op) h1]; simp
end Go.Proofs.YthgikffcdgpgiaaGreatDoor
