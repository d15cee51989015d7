import Derived.Test.YtlmaodcddbkllaaDoorSQ2
import Derived.Test.YtlmaodcddbkllaaDoorW6b
import Derived.Test.YtlmaodcddbkllaaDoorSQ9
import Derived.Test.YtlmaodcddbkllaaDoorWd
import Derived.Deep.RegionHeld3
namespace Go.Proofs.YtlmaodcddbkllaaDoor
open Go.RowKit

set_option maxHeartbeats 400000 in
theorem validImm_any (op dst a b imm : Int) (w : World) :
    Calls Tryd.prog 185 #[.agg #[.int .i64 op, .int .i64 dst, .int .i64 a, .int .i64 b, .int .i64 imm]] w fun e w' => e = .returned (.bool (immOk ⟨op, dst, a, b, imm⟩)) ∧ Below w.heap.size w w' := by
  go_enter Tryd.func185, Tryd.ntmps185
  go_wp2
  all_goals
    go_ret
    refine ⟨ret_bool ?_, balloc (Below.refl _ _) _⟩
    first | (simp [immOk, *]; done) | (simp [immOk, *]; omega)

/-- What the table of the instructions' forms (variable 0) holds. -/
def OpTab (w : World) : Prop := 0 < w.heap.size ∧ ∀ k : Nat, 1 ≤ k → k ≤ 13 → ∃ s, w.cell? ⟨0, k * 5, none⟩ = some (.string s) ∧ w.cell? ⟨0, k * 5 + 1, none⟩ = some (.bool (dB k)) ∧ w.cell? ⟨0, k * 5 + 2, none⟩ = some (.bool (aB k)) ∧
  w.cell? ⟨0, k * 5 + 3, none⟩ = some (.bool (bB k)) ∧ ∃ i, w.cell? ⟨0, k * 5 + 4, none⟩ = some (.bool i)
/-- What the table of the ends' forms (variable 1) holds. -/
def TerTab (w : World) : Prop := 1 < w.heap.size ∧ ∀ k : Nat, 1 ≤ k → k ≤ 3 → ∃ s, w.cell? ⟨1, k * 4, none⟩ = some (.string s) ∧ w.cell? ⟨1, k * 4 + 1, none⟩ = some (.bool ((k : Int) != 1)) ∧ w.cell? ⟨1, k * 4 + 2, none⟩ = some (.bool ((k : Int) != 3)) ∧
  w.cell? ⟨1, k * 4 + 3, none⟩ = some (.bool ((k : Int) == 2))
theorem OpTab.keep {w w' : World} (h : OpTab w) (k : Below w.heap.size w w') : OpTab w' := by
  refine ⟨Nat.lt_of_lt_of_le h.1 k.size, fun i h1 h2 => ?_⟩
  have e := fun o => cell_of (o := o) (k.block 0 h.1)
  obtain ⟨s, c0, c1, c2, c3, j, c4⟩ := h.2 i h1 h2
  exact ⟨s, (e _).trans c0, (e _).trans c1, (e _).trans c2, (e _).trans c3, j, (e _).trans c4⟩
theorem TerTab.keep {w w' : World} (h : TerTab w) (k : Below w.heap.size w w') : TerTab w' := by
  refine ⟨Nat.lt_of_lt_of_le h.1 k.size, fun i h1 h2 => ?_⟩
  have e := fun o => cell_of (o := o) (k.block 1 h.1)
  obtain ⟨s, c0, c1, c2, c3⟩ := h.2 i h1 h2
  exact ⟨s, (e _).trans c0, (e _).trans c1, (e _).trans c2, (e _).trans c3⟩

set_option maxHeartbeats 1000000 in
theorem validInstr_gen (op dst a b imm n most : Int) (w : World) (hm : most ≤ 13) (hT : Hid (OpTab w)) :
    Calls Tryd.prog 139 #[.agg #[.int .i64 op, .int .i64 dst, .int .i64 a, .int .i64 b, .int .i64 imm], .int .i64 most, .int .i64 n] w fun e w' => e = .returned (.bool (insOk n most ⟨op, dst, a, b, imm⟩)) ∧ Below w.heap.size w w' := by
  by_cases h : 1 ≤ op ∧ op ≤ most
  · obtain ⟨h1, h2⟩ := h
    obtain ⟨k, rfl⟩ := Int.eq_ofNat_of_zero_le (show 0 ≤ op by omega)
    have hz := hT.out.1
    obtain ⟨s, c0, c1, c2, c3, j, c4⟩ := hT.out.2 k (by omega) (by omega)
    have hR : Hid (insOk n most ⟨k, dst, a, b, imm⟩ = (fld (dB k) dst 0 n && fld (aB k) a 0 n && fld (bB k) b 0 n && immOk ⟨k, dst, a, b, imm⟩)) := by
      show _ = _
      unfold insOk
      rw [decide_eq_true h1, decide_eq_true h2]
      simp
    generalize dB (k : Int) = uD at *
    generalize aB (k : Int) = uA at *
    generalize bB (k : Int) = uB at *
    have hk13 : (k : Int) ≤ 13 := by omega
    go_enter Tryd.func139, Tryd.ntmps139
    go_wp2_with (first | (go_at_call 127; refine (validField_any _ _ _ _ _).mono ?_; rintro e w2 ⟨rfl, hw2⟩; rw [hw2]; clear hw2 w2) | (go_at_call 185; refine (validImm_any _ _ _ _ _ _).mono ?_; rintro e w2 ⟨rfl, hb2⟩))
    all_goals
      go_ret
      refine ⟨ret_bool ?_, ?_⟩
      · rw [hR.out]; simp [*]
      · first | exact bnext (balloc (balloc (Below.refl _ _) _) _) hb2 | exact balloc (balloc (Below.refl _ _) _) _
  · have hn : ∃ r, r = insOk n most ⟨op, dst, a, b, imm⟩ ∧ r = false := ⟨_, rfl, by
      unfold insOk
      by_cases h1 : 1 ≤ op
      · rw [decide_eq_false (p := op ≤ most) (by omega)]; simp
      · rw [decide_eq_false (p := 1 ≤ op) h1]; simp⟩
    obtain ⟨r, hr, rfl⟩ := hn
    rw [← hr]
    clear hr
    have h' : op < 1 ∨ (1 ≤ op ∧ most < op) := by omega
    clear h
    rcases h' with h' | ⟨h', h''⟩
    all_goals
      go_enter Tryd.func139, Tryd.ntmps139
      go_wp2
      all_goals
        go_ret
        exact ⟨rfl, balloc (Below.refl _ _) _⟩

theorem validInstr_any (op dst a b imm n : Int) (w : World) (hT : Hid (OpTab w)) :
    Calls Tryd.prog 139 #[.agg #[.int .i64 op, .int .i64 dst, .int .i64 a, .int .i64 b, .int .i64 imm], .int .i64 10, .int .i64 n] w fun e w' => e = .returned (.bool (insOk n 10 ⟨op, dst, a, b, imm⟩)) ∧ Below w.heap.size w w' :=
  validInstr_gen op dst a b imm n 10 w (by decide) hT

set_option maxHeartbeats 1000000 in
theorem validTerm_any (kind ta to els n low bl : Int) (w : World) (hT : Hid (TerTab w)) :
    Calls Tryd.prog 138 #[.agg #[.int .i64 kind, .int .i64 ta, .int .i64 to, .int .i64 els], .int .i64 n, .int .i64 low, .int .i64 bl] w fun e w' => e = .returned (.bool (terOk n low bl ⟨kind, ta, to, els⟩)) ∧ Below w.heap.size w w' := by
  by_cases h : 1 ≤ kind ∧ kind ≤ 3
  · obtain ⟨h1, h2⟩ := h
    obtain ⟨k, rfl⟩ := Int.eq_ofNat_of_zero_le (show 0 ≤ kind by omega)
    have hz := hT.out.1
    obtain ⟨s, c0, c1, c2, c3⟩ := hT.out.2 k (by omega) (by omega)
    have hR : Hid (terOk n low bl ⟨k, ta, to, els⟩ = (fld ((k : Int) != 1) ta 0 n && fld ((k : Int) != 3) to low bl && fld ((k : Int) == 2) els low bl)) := by
      show _ = _
      unfold terOk
      rw [decide_eq_true h1, decide_eq_true h2]
      simp
    generalize ((k : Int) != 1) = uA at *
    generalize ((k : Int) != 3) = uT at *
    generalize ((k : Int) == 2) = uE at *
    go_enter Tryd.func138, Tryd.ntmps138
    go_wp2_with (go_at_call 127; refine (validField_any _ _ _ _ _).mono ?_; rintro e w2 ⟨rfl, hw2⟩; rw [hw2]; clear hw2 w2)
    all_goals
      go_ret
      refine ⟨ret_bool ?_, ?_⟩
      · rw [hR.out]; simp [*]
      · exact balloc (balloc (Below.refl _ _) _) _
  · have hn : ∃ r, r = terOk n low bl ⟨kind, ta, to, els⟩ ∧ r = false := ⟨_, rfl, terOk_no h⟩
    obtain ⟨r, hr, rfl⟩ := hn
    rw [← hr]
    clear hr
    have h' : kind < 1 ∨ 3 < kind := by omega
    clear h
    go_enter Tryd.func138, Tryd.ntmps138
    go_wp2
    all_goals
      go_ret
      exact ⟨rfl, balloc (Below.refl _ _) _⟩

set_option maxHeartbeats 400000 in
theorem targetsI_any (t : Ter) (w : World) :
    Calls Tryd.prog 114 #[.agg #[.int .i64 t.kind, .int .i64 t.a, .int .i64 t.to, .int .i64 t.els]] w fun e w' => ∃ a c, e = .returned (.slice a t.targets.length c) ∧ Below w.heap.size w w' ∧ IntsAt w' w.heap.size w'.heap.size a t.targets := by
  obtain ⟨kind, ta, to, els⟩ := t
  by_cases h1 : kind = 1
  · subst h1
    go_enter Tryd.func114, Tryd.ntmps114
    go_wp2
    go_ret
    refine ⟨_, _, rfl, balloc (balloc (Below.refl _ _) _) _, fun i hi => ?_⟩
    simp [Ter.targets] at hi
    subst hi
    exact ⟨_, _, rfl, ⟨by simp, by simp⟩, by simp [Ter.targets]⟩
  · by_cases h2 : kind = 2
    · subst h2
      go_enter Tryd.func114, Tryd.ntmps114
      go_wp2
      go_ret
      refine ⟨_, _, rfl, balloc (balloc (Below.refl _ _) _) _, fun i hi => ?_⟩
      simp [Ter.targets] at hi
      match i, hi with
      | 0, _ => exact ⟨_, _, rfl, ⟨by simp, by simp⟩, by simp [Ter.targets]⟩
      | 1, _ => exact ⟨_, _, rfl, ⟨by simp, by simp⟩, by simp [Ter.targets]⟩
    · have e1 : (kind == 1) = false := by simp [h1]
      have e2 : (kind == 2) = false := by simp [h2]
      have hn : (Ter.targets ⟨kind, ta, to, els⟩) = [] := by simp [Ter.targets, h1, h2]
      rw [hn]
      clear h1 h2 hn
      go_enter Tryd.func114, Tryd.ntmps114
      go_wp2
      go_ret
      exact ⟨_, _, rfl, balloc (Below.refl _ _) _, fun i hi => absurd hi (by simp)⟩
end Go.Proofs.YtlmaodcddbkllaaDoor

/-
  The tables with their words; used of an instruction.
-/
namespace Go.Proofs.YtlmaodcddbkllaaDoor
open Go.RowKit

def iB (op : Int) : Bool := decide (op ≤ 2)
def terW (k : Int) : List UInt8 := if k = 1 then [106, 117, 109, 112] else if k = 3 then [114, 101, 116] else [98, 114, 97, 110, 99, 104]
/-- What the two tables hold, words and all. -/
def OpTabW (w : World) : Prop := 0 < w.heap.size ∧ ∀ k : Nat, 1 ≤ k → k ≤ 13 → w.cell? ⟨0, k * 5, none⟩ = some (.string (strOf (wordS k))) ∧ w.cell? ⟨0, k * 5 + 1, none⟩ = some (.bool (dB k)) ∧ w.cell? ⟨0, k * 5 + 2, none⟩ = some (.bool (aB k)) ∧
  w.cell? ⟨0, k * 5 + 3, none⟩ = some (.bool (bB k)) ∧ w.cell? ⟨0, k * 5 + 4, none⟩ = some (.bool (iB k))
def TerTabW (w : World) : Prop := 1 < w.heap.size ∧ ∀ k : Nat, 1 ≤ k → k ≤ 3 → w.cell? ⟨1, k * 4, none⟩ = some (.string (strOf (terW k))) ∧ w.cell? ⟨1, k * 4 + 1, none⟩ = some (.bool ((k : Int) != 1)) ∧ w.cell? ⟨1, k * 4 + 2, none⟩ = some (.bool ((k : Int) != 3)) ∧
  w.cell? ⟨1, k * 4 + 3, none⟩ = some (.bool ((k : Int) == 2))
theorem OpTabW.keep {w w' : World} {B : Nat} (h : OpTabW w) (k : Below B w w') (hB : 0 < B) : OpTabW w' := by
  refine ⟨Nat.lt_of_lt_of_le h.1 k.size, fun i h1 h2 => ?_⟩
  have e := fun o => cell_of (o := o) (k.block 0 hB)
  obtain ⟨c0, c1, c2, c3, c4⟩ := h.2 i h1 h2
  exact ⟨(e _).trans c0, (e _).trans c1, (e _).trans c2, (e _).trans c3, (e _).trans c4⟩
theorem TerTabW.keep {w w' : World} {B : Nat} (h : TerTabW w) (k : Below B w w') (hB : 1 < B) : TerTabW w' := by
  refine ⟨Nat.lt_of_lt_of_le h.1 k.size, fun i h1 h2 => ?_⟩
  have e := fun o => cell_of (o := o) (k.block 1 hB)
  obtain ⟨c0, c1, c2, c3⟩ := h.2 i h1 h2
  exact ⟨(e _).trans c0, (e _).trans c1, (e _).trans c2, (e _).trans c3⟩
theorem OpTabW.old {w : World} (h : OpTabW w) : OpTab w := ⟨h.1, fun k h1 h2 => by
  obtain ⟨c0, c1, c2, c3, c4⟩ := h.2 k h1 h2
  exact ⟨_, c0, c1, c2, c3, _, c4⟩⟩
theorem TerTabW.old {w : World} (h : TerTabW w) : TerTab w := ⟨h.1, fun k h1 h2 => by
  obtain ⟨c0, c1, c2, c3⟩ := h.2 k h1 h2
  exact ⟨_, c0, c1, c2, c3⟩⟩

theorem vals_two1 (w : World) (vs : List Value) (t : TypeId) (us : List Value) (t' : TypeId) : ValsAt ((w.alloc (.cells vs.toArray t)).alloc (.cells us.toArray t')).drew w.heap.size (w.heap.size + 2) (some ⟨w.heap.size, 0, none⟩) vs := fun i hi =>
  ⟨_, 0, rfl, ⟨Nat.le_refl _, by omega⟩, by
    obtain ⟨b, o, e, _, h⟩ := vals_lit w vs t i hi
    cases e
    exact (cell_of (Below.heap_alloc _ _ _ (by simp))).trans h⟩
theorem vals_two2 (w : World) (vs : List Value) (t : TypeId) (us : List Value) (t' : TypeId) : ValsAt ((w.alloc (.cells us.toArray t')).alloc (.cells vs.toArray t)).drew w.heap.size (w.heap.size + 2) (some ⟨w.heap.size + 1, 0, none⟩) vs := fun i hi =>
  ⟨_, 0, rfl, ⟨by omega, by omega⟩, by
    obtain ⟨b, o, e, _, h⟩ := vals_lit (w.alloc (.cells us.toArray t')) vs t i hi
    have e1 : (w.alloc (.cells us.toArray t')).heap.size = w.heap.size + 1 := by simp
    rw [e1] at e
    cases e
    exact h⟩

set_option maxHeartbeats 1000000 in
set_option maxRecDepth 100000 in
theorem usedI_any (b : Nat) (k : Nat) (dst a bb imm : Int) (w : World) (hi : Hid (InsAt w b 0 ⟨k, dst, a, bb, imm⟩)) (h1 : 1 ≤ k) (h2 : k ≤ 13) (ht : Hid (OpTabW w)) :
    Calls Tryd.prog 148 #[.pointer (some ⟨b, 0, none⟩)] w fun e w' => ∃ v, e = .returned v ∧ Below w.heap.size w w' ∧ w'.ownsRow w.heap.size 245 1 v (keepP [dB k, aB k, bB k, iB k] [⟨b, 1, none⟩, ⟨b, 2, none⟩, ⟨b, 3, none⟩, ⟨b, 4, none⟩]).length ((keepP [dB k, aB k, bB k, iB k] [⟨b, 1, none⟩, ⟨b, 2, none⟩, ⟨b, 3, none⟩, ⟨b, 4, none⟩]).map ptrV) := by
  obtain ⟨q0, q1, q2, q3, q4⟩ := hi.out
  simp only at q0 q1 q2 q3 q4
  obtain ⟨c0, c1, c2, c3, c4⟩ := ht.out.2 k h1 h2
  have hz := ht.out.1
  generalize dB (k : Int) = uD at *
  generalize aB (k : Int) = uA at *
  generalize bB (k : Int) = uB at *
  generalize iB (k : Int) = uI at *
  go_enter Tryd.func148, Tryd.ntmps148
  go_wp2_with fail
  have e1 : (w.alloc (.cells #[.string (strOf (wordS k)), .bool uD, .bool uA, .bool uB, .bool uI] 199)).heap.size = w.heap.size + 1 := by simp
  have g1 : (w.alloc (.cells #[.string (strOf (wordS k)), .bool uD, .bool uA, .bool uB, .bool uI] 199)).cell? ⟨w.heap.size, 1, none⟩ = some (.bool uD) := by simp
  have g2 : (w.alloc (.cells #[.string (strOf (wordS k)), .bool uD, .bool uA, .bool uB, .bool uI] 199)).cell? ⟨w.heap.size, 2, none⟩ = some (.bool uA) := by simp
  have g3 : (w.alloc (.cells #[.string (strOf (wordS k)), .bool uD, .bool uA, .bool uB, .bool uI] 199)).cell? ⟨w.heap.size, 3, none⟩ = some (.bool uB) := by simp
  have g4 : (w.alloc (.cells #[.string (strOf (wordS k)), .bool uD, .bool uA, .bool uB, .bool uI] 199)).cell? ⟨w.heap.size, 4, none⟩ = some (.bool uI) := by simp
  have HBW : Hid (Below w.heap.size w (w.alloc (.cells #[.string (strOf (wordS k)), .bool uD, .bool uA, .bool uB, .bool uI] 199))) := hide (balloc (Below.refl _ _) _)
  generalize w.alloc (.cells #[.string (strOf (wordS k)), .bool uD, .bool uA, .bool uB, .bool uI] 199) = W0 at *
  clear q0 q1 q2 q3 q4 c0 c1 c2 c3 c4
  have HE1 := hide e1
  have hlt : w.heap.size < W0.heap.size := by omega
  clear e1
  have HCH1 : Hid (Calls Tryd.prog 176 #[.slice (some ⟨W0.heap.size, 0, none⟩) 4 4, .slice (some ⟨W0.heap.size + 1, 0, none⟩) 4 4] (((W0.alloc (.cells #[.bool uD, .bool uA, .bool uB, .bool uI] 4)).alloc (.cells #[.pointer (some ⟨b, 1, none⟩), .pointer (some ⟨b, 2, none⟩), .pointer (some ⟨b, 3, none⟩), .pointer (some ⟨b, 4, none⟩)] 245)).drew) (fun e w' => ∃ v, e = .returned v ∧ Hid (Below w.heap.size w w') ∧ Hid (w'.ownsRow w.heap.size 245 1 v (keepP [uD, uA, uB, uI] [⟨b, 1, none⟩, ⟨b, 2, none⟩, ⟨b, 3, none⟩, ⟨b, 4, none⟩]).length ((keepP [uD, uA, uB, uI] [⟨b, 1, none⟩, ⟨b, 2, none⟩, ⟨b, 3, none⟩, ⟨b, 4, none⟩]).map ptrV)) ∧ w'.cell? ⟨w.heap.size, 1, none⟩ = some (.bool uD) ∧ w'.cell? ⟨w.heap.size, 2, none⟩ = some (.bool uA) ∧ w'.cell? ⟨w.heap.size, 3, none⟩ = some (.bool uB) ∧ w'.cell? ⟨w.heap.size, 4, none⟩ = some (.bool uI))) := hide (by
    refine (chosen_any (some ⟨W0.heap.size, 0, none⟩) (some ⟨W0.heap.size + 1, 0, none⟩) 4 4 [uD, uA, uB, uI] [⟨b, 1, none⟩, ⟨b, 2, none⟩, ⟨b, 3, none⟩, ⟨b, 4, none⟩] W0.heap.size (W0.heap.size + 2) (((W0.alloc (.cells #[.bool uD, .bool uA, .bool uB, .bool uI] 4)).alloc (.cells #[.pointer (some ⟨b, 1, none⟩), .pointer (some ⟨b, 2, none⟩), .pointer (some ⟨b, 3, none⟩), .pointer (some ⟨b, 4, none⟩)] 245)).drew) (by show _ ≤ ((W0.alloc (.cells #[.bool uD, .bool uA, .bool uB, .bool uI] 4)).alloc (.cells #[.pointer (some ⟨b, 1, none⟩), .pointer (some ⟨b, 2, none⟩), .pointer (some ⟨b, 3, none⟩), .pointer (some ⟨b, 4, none⟩)] 245)).heap.size; simp) (hide (vals_two1 W0 _ _ _ _)) (hide (vals_two2 W0 _ _ _ _)) (hide rfl) (by simp)).mono ?_
    rintro e w' ⟨v, rfl, h1, h2⟩
    have h3 : Below W0.heap.size W0 w' := (balloc (balloc (Below.refl W0.heap.size W0) _) _).drew.trans (h1.mono (by show _ ≤ ((W0.alloc (.cells #[.bool uD, .bool uA, .bool uB, .bool uI] 4)).alloc (.cells #[.pointer (some ⟨b, 1, none⟩), .pointer (some ⟨b, 2, none⟩), .pointer (some ⟨b, 3, none⟩), .pointer (some ⟨b, 4, none⟩)] 245)).heap.size; simp; omega))
    exact ⟨v, rfl, hide (HBW.out.trans (h3.mono (by omega))), hide (own_base h2 (by show _ ≤ ((W0.alloc (.cells #[.bool uD, .bool uA, .bool uB, .bool uI] 4)).alloc (.cells #[.pointer (some ⟨b, 1, none⟩), .pointer (some ⟨b, 2, none⟩), .pointer (some ⟨b, 3, none⟩), .pointer (some ⟨b, 4, none⟩)] 245)).heap.size; simp; omega)), (h3.cell (p := ⟨w.heap.size, 1, none⟩) hlt).trans g1, (h3.cell (p := ⟨w.heap.size, 2, none⟩) hlt).trans g2, (h3.cell (p := ⟨w.heap.size, 3, none⟩) hlt).trans g3, (h3.cell (p := ⟨w.heap.size, 4, none⟩) hlt).trans g4⟩)
  have HCH2 : Hid (Calls Tryd.prog 176 #[.slice (some ⟨W0.heap.size + 1, 0, none⟩) 4 4, .slice (some ⟨W0.heap.size, 0, none⟩) 4 4] (((W0.alloc (.cells #[.pointer (some ⟨b, 1, none⟩), .pointer (some ⟨b, 2, none⟩), .pointer (some ⟨b, 3, none⟩), .pointer (some ⟨b, 4, none⟩)] 245)).alloc (.cells #[.bool uD, .bool uA, .bool uB, .bool uI] 4)).drew) (fun e w' => ∃ v, e = .returned v ∧ Hid (Below w.heap.size w w') ∧ Hid (w'.ownsRow w.heap.size 245 1 v (keepP [uD, uA, uB, uI] [⟨b, 1, none⟩, ⟨b, 2, none⟩, ⟨b, 3, none⟩, ⟨b, 4, none⟩]).length ((keepP [uD, uA, uB, uI] [⟨b, 1, none⟩, ⟨b, 2, none⟩, ⟨b, 3, none⟩, ⟨b, 4, none⟩]).map ptrV)) ∧ w'.cell? ⟨w.heap.size, 1, none⟩ = some (.bool uD) ∧ w'.cell? ⟨w.heap.size, 2, none⟩ = some (.bool uA) ∧ w'.cell? ⟨w.heap.size, 3, none⟩ = some (.bool uB) ∧ w'.cell? ⟨w.heap.size, 4, none⟩ = some (.bool uI))) := hide (by
    refine (chosen_any (some ⟨W0.heap.size + 1, 0, none⟩) (some ⟨W0.heap.size, 0, none⟩) 4 4 [uD, uA, uB, uI] [⟨b, 1, none⟩, ⟨b, 2, none⟩, ⟨b, 3, none⟩, ⟨b, 4, none⟩] W0.heap.size (W0.heap.size + 2) (((W0.alloc (.cells #[.pointer (some ⟨b, 1, none⟩), .pointer (some ⟨b, 2, none⟩), .pointer (some ⟨b, 3, none⟩), .pointer (some ⟨b, 4, none⟩)] 245)).alloc (.cells #[.bool uD, .bool uA, .bool uB, .bool uI] 4)).drew) (by show _ ≤ ((W0.alloc (.cells #[.pointer (some ⟨b, 1, none⟩), .pointer (some ⟨b, 2, none⟩), .pointer (some ⟨b, 3, none⟩), .pointer (some ⟨b, 4, none⟩)] 245)).alloc (.cells #[.bool uD, .bool uA, .bool uB, .bool uI] 4)).heap.size; simp) (hide (vals_two2 W0 _ _ _ _)) (hide (vals_two1 W0 _ _ _ _)) (hide rfl) (by simp)).mono ?_
    rintro e w' ⟨v, rfl, h1, h2⟩
    have h3 : Below W0.heap.size W0 w' := (balloc (balloc (Below.refl W0.heap.size W0) _) _).drew.trans (h1.mono (by show _ ≤ ((W0.alloc (.cells #[.pointer (some ⟨b, 1, none⟩), .pointer (some ⟨b, 2, none⟩), .pointer (some ⟨b, 3, none⟩), .pointer (some ⟨b, 4, none⟩)] 245)).alloc (.cells #[.bool uD, .bool uA, .bool uB, .bool uI] 4)).heap.size; simp; omega))
    exact ⟨v, rfl, hide (HBW.out.trans (h3.mono (by omega))), hide (own_base h2 (by show _ ≤ ((W0.alloc (.cells #[.pointer (some ⟨b, 1, none⟩), .pointer (some ⟨b, 2, none⟩), .pointer (some ⟨b, 3, none⟩), .pointer (some ⟨b, 4, none⟩)] 245)).alloc (.cells #[.bool uD, .bool uA, .bool uB, .bool uI] 4)).heap.size; simp; omega)), (h3.cell (p := ⟨w.heap.size, 1, none⟩) hlt).trans g1, (h3.cell (p := ⟨w.heap.size, 2, none⟩) hlt).trans g2, (h3.cell (p := ⟨w.heap.size, 3, none⟩) hlt).trans g3, (h3.cell (p := ⟨w.heap.size, 4, none⟩) hlt).trans g4⟩)
  go_region_held3 (fun w' => w'.cell? ⟨w.heap.size, 1, none⟩ = some (.bool uD) ∧ w'.cell? ⟨w.heap.size, 2, none⟩ = some (.bool uA) ∧ w'.cell? ⟨w.heap.size, 3, none⟩ = some (.bool uB) ∧ w'.cell? ⟨w.heap.size, 4, none⟩ = some (.bool uI)) (go_keep)
    (first
      | (go_at_call 176; with_reducible refine HCH1.out.mono ?_; rintro e w5 ⟨v5, rfl, HB5, HO5, f1, f2, f3, f4⟩)
      | (go_at_call 176; with_reducible refine HCH2.out.mono ?_; rintro e w5 ⟨v5, rfl, HB5, HO5, f1, f2, f3, f4⟩))
  all_goals
    go_wp2
    go_ret
    exact ⟨_, rfl, HB5.out, HO5.out⟩
end Go.Proofs.YtlmaodcddbkllaaDoor
