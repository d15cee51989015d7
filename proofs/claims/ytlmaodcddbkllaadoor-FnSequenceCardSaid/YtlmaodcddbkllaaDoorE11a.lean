import Derived.Test.YtlmaodcddbkllaaDoorE9a
import Derived.Test.YtlmaodcddbkllaaDoorW10
import Derived.Test.YtlmaodcddbkllaaDoorWd
import Derived.Deep.RegionHeld3
/-
  The tables with their words; used of an instruction.
-/
namespace Go.Proofs.YtlmaodcddbkllaaDoor
open Go.RowKit

def iB (op : Int) : Bool := decide (op ≤ 2)
def terW (k : Int) : List UInt8 := if k = 1 then [106, 117, 109, 112] else if k = 3 then [114, 101, 116] else [98, 114, 97, 110, 99, 104]
/-- What the two tables hold, words and all. -/
def OpTabW (w : World) : Prop := 0 < w.heap.size ∧ ∀ k : Nat, 1 ≤ k → k ≤ 13 → w.cell? ⟨0, k * 5, none⟩ = some (.string (strOf (wordS k))) ∧ w.cell? ⟨0, k * 5 + 1, none⟩ = some (.bool (dB k)) ∧ w.cell? ⟨0, k * 5 + 2, none⟩ = some (.bool (aB k)) ∧
  w.cell? ⟨0, k * 5 + 3, none⟩ = some (.bool (bB k)) ∧ w.cell? ⟨0, k * 5 + 4, none⟩ = some (.bool (iB k))
def TerTabW (w : World) : Prop := 1 < w.heap.size ∧ ∀ k : Nat, 1 ≤ k → k ≤ 3 → w.cell? ⟨1, k * 4, none⟩ = some (.string (strOf (terW k))) ∧ w.cell? ⟨1, k * 4 + 1, none⟩ = some (.bool ((k : Int) != 1)) ∧ w.cell? ⟨1, k * 4 + 2, none⟩ = some (.bool ((k : Int) != 3)) ∧
  w.cell? ⟨1, k * 4 + 3, none⟩ = some (.bool ((k : Int) == 2))
theorem OpTabW.keep {w w' : World} {B : Nat} (h : OpTabW w) (k : Below B w w') (hB : 0 < B) : OpTabW w' := by
  refine ⟨Nat.lt_of_lt_of_le h.1 k.size, fun i h1 h2 => ?_⟩
  have e := fun o => cell_of (o := o) (k.block 0 hB)
  obtain ⟨c0, c1, c2, c3, c4⟩ := h.2 i h1 h2
  exact ⟨(e _).trans c0, (e _).trans c1, (e _).trans c2, (e _).trans c3, (e _).trans c4⟩
theorem TerTabW.keep {w w' : World} {B : Nat} (h : TerTabW w) (k : Below B w w') (hB : 1 < B) : TerTabW w' := by
  refine ⟨Nat.lt_of_lt_of_le h.1 k.size, fun i h1 h2 => ?_⟩
  have e := fun o => cell_of (o := o) (k.block 1 hB)
  obtain ⟨c0, c1, c2, c3⟩ := h.2 i h1 h2
  exact ⟨(e _).trans c0, (e _).trans c1, (e _).trans c2, (e _).trans c3⟩
theorem OpTabW.old {w : World} (h : OpTabW w) : OpTab w := ⟨h.1, fun k h1 h2 => by
  obtain ⟨c0, c1, c2, c3, c4⟩ := h.2 k h1 h2
  exact ⟨_, c0, c1, c2, c3, _, c4⟩⟩
theorem TerTabW.old {w : World} (h : TerTabW w) : TerTab w := ⟨h.1, fun k h1 h2 => by
  obtain ⟨c0, c1, c2, c3⟩ := h.2 k h1 h2
  exact ⟨_, c0, c1, c2, c3⟩⟩

theorem vals_two1 (w : World) (vs : List Value) (t : TypeId) (us : List Value) (t' : TypeId) : ValsAt ((w.alloc (.cells vs.toArray t)).alloc (.cells us.toArray t')).drew w.heap.size (w.heap.size + 2) (some ⟨w.heap.size, 0, none⟩) vs := fun i hi =>
  ⟨_, 0, rfl, ⟨Nat.le_refl _, by omega⟩, by
    obtain ⟨b, o, e, _, h⟩ := vals_lit w vs t i hi
    cases e
    exact (cell_of (Below.heap_alloc _ _ _ (by simp))).trans h⟩
theorem vals_two2 (w : World) (vs : List Value) (t : TypeId) (us : List Value) (t' : TypeId) : ValsAt ((w.alloc (.cells us.toArray t')).alloc (.cells vs.toArray t)).drew w.heap.size (w.heap.size + 2) (some ⟨w.heap.size + 1, 0, none⟩) vs := fun i hi =>
  ⟨_, 0, rfl, ⟨by omega, by omega⟩, by
    obtain ⟨b, o, e, _, h⟩ := vals_lit (w.alloc (.cells us.toArray t')) vs t i hi
    have e1 : (w.alloc (.cells us.toArray t')).heap.size = w.heap.size + 1 := by simp
    rw [e1] at e
    cases e
    exact h⟩

set_option maxHeartbeats 1000000 in
set_option maxRecDepth 100000 in
theorem usedI_any (b : Nat) (k : Nat) (dst a bb imm : Int) (w : World) (hi : Hid (InsAt w b 0 ⟨k, dst, a, bb, imm⟩)) (h1 : 1 ≤ k) (h2 : k ≤ 13) (ht : Hid (OpTabW w)) :
    Calls Tryd.prog 148 #[.pointer (some ⟨b, 0, none⟩)] w fun e w' => ∃ v, e = .returned v ∧ Below w.heap.size w w' ∧ w'.ownsRow w.heap.size 245 1 v (keepP [dB k, aB k, bB k, iB k] [⟨b, 1, none⟩, ⟨b, 2, none⟩, ⟨b, 3, none⟩, ⟨b, 4, none⟩]).length ((keepP [dB k, aB k, bB k, iB k] [⟨b, 1, none⟩, ⟨b, 2, none⟩, ⟨b, 3, none⟩, ⟨b, 4, none⟩]).map ptrV) := by
  obtain ⟨q0, q1, q2, q3, q4⟩ := hi.out
  simp only at q0 q1 q2 q3 q4
  obtain ⟨c0, c1, c2, c3, c4⟩ := ht.out.2 k h1 h2
  have hz := ht.out.1
  generalize dB (k : Int) = uD at *
  generalize aB (k : Int) = uA at *
  generalize bB (k : Int) = uB at *
  generalize iB (k : Int) = uI at *
  go_enter Tryd.func148, Tryd.ntmps148
  go_wp2_with fail
  have e1 : (w.alloc (.cells #[.string (strOf (wordS k)), .bool uD, .bool uA, .bool uB, .bool uI] 199)).heap.size = w.heap.size + 1 := by simp
  have g1 : (w.alloc (.cells #[.string (strOf (wordS k)), .bool uD, .bool uA, .bool uB, .bool uI] 199)).cell? ⟨w.heap.size, 1, none⟩ = some (.bool uD) := by simp
  have g2 : (w.alloc (.cells #[.string (strOf (wordS k)), .bool uD, .bool uA, .bool uB, .bool uI] 199)).cell? ⟨w.heap.size, 2, none⟩ = some (.bool uA) := by simp
  have g3 : (w.alloc (.cells #[.string (strOf (wordS k)), .bool uD, .bool uA, .bool uB, .bool uI] 199)).cell? ⟨w.heap.size, 3, none⟩ = some (.bool uB) := by simp
  have g4 : (w.alloc (.cells #[.string (strOf (wordS k)), .bool uD, .bool uA, .bool uB, .bool uI] 199)).cell? ⟨w.heap.size, 4, none⟩ = some (.bool uI) := by simp
  have HBW : Hid (Below w.heap.size w (w.alloc (.cells #[.string (strOf (wordS k)), .bool uD, .bool uA, .bool uB, .bool uI] 199))) := hide (balloc (Below.refl _ _) _)
  generalize w.alloc (.cells #[.string (strOf (wordS k)), .bool uD, .bool uA, .bool uB, .bool uI] 199) = W0 at *
  clear q0 q1 q2 q3 q4 c0 c1 c2 c3 c4
  have HE1 := hide e1
  have hlt : w.heap.size < W0.heap.size := by omega
  clear e1
  have HCH1 : Hid (Calls Tryd.prog 176 #[.slice (some ⟨W0.heap.size, 0, none⟩) 4 4, .slice (some ⟨W0.heap.size + 1, 0, none⟩) 4 4] (((W0.alloc (.cells #[.bool uD, .bool uA, .bool uB, .bool uI] 4)).alloc (.cells #[.pointer (some ⟨b, 1, none⟩), .pointer (some ⟨b, 2, none⟩), .pointer (some ⟨b, 3, none⟩), .pointer (some ⟨b, 4, none⟩)] 245)).drew) (fun e w' => ∃ v, e = .returned v ∧ Hid (Below w.heap.size w w') ∧ Hid (w'.ownsRow w.heap.size 245 1 v (keepP [uD, uA, uB, uI] [⟨b, 1, none⟩, ⟨b, 2, none⟩, ⟨b, 3, none⟩, ⟨b, 4, none⟩]).length ((keepP [uD, uA, uB, uI] [⟨b, 1, none⟩, ⟨b, 2, none⟩, ⟨b, 3, none⟩, ⟨b, 4, none⟩]).map ptrV)) ∧ w'.cell? ⟨w.heap.size, 1, none⟩ = some (.bool uD) ∧ w'.cell? ⟨w.heap.size, 2, none⟩ = some (.bool uA) ∧ w'.cell? ⟨w.heap.size, 3, none⟩ = some (.bool uB) ∧ w'.cell? ⟨w.heap.size, 4, none⟩ = some (.bool uI))) := hide (by
    refine (chosen_any (some ⟨W0.heap.size, 0, none⟩) (some ⟨W0.heap.size + 1, 0, none⟩) 4 4 [uD, uA, uB, uI] [⟨b, 1, none⟩, ⟨b, 2, none⟩, ⟨b, 3, none⟩, ⟨b, 4, none⟩] W0.heap.size (W0.heap.size + 2) (((W0.alloc (.cells #[.bool uD, .bool uA, .bool uB, .bool uI] 4)).alloc (.cells #[.pointer (some ⟨b, 1, none⟩), .pointer (some ⟨b, 2, none⟩), .pointer (some ⟨b, 3, none⟩), .pointer (some ⟨b, 4, none⟩)] 245)).drew) (by show _ ≤ ((W0.alloc (.cells #[.bool uD, .bool uA, .bool uB, .bool uI] 4)).alloc (.cells #[.pointer (some ⟨b, 1, none⟩), .pointer (some ⟨b, 2, none⟩), .pointer (some ⟨b, 3, none⟩), .pointer (some ⟨b, 4, none⟩)] 245)).heap.size; simp) (hide (vals_two1 W0 _ _ _ _)) (hide (vals_two2 W0 _ _ _ _)) (hide rfl) (by simp)).mono ?_
    rintro e w' ⟨v, rfl, h1, h2⟩
    have h3 : Below W0.heap.size W0 w' := (balloc (balloc (Below.refl W0.heap.size W0) _) _).drew.trans (h1.mono (by show _ ≤ ((W0.alloc (.cells #[.bool uD, .bool uA, .bool uB, .bool uI] 4)).alloc (.cells #[.pointer (some ⟨b, 1, none⟩), .pointer (some ⟨b, 2, none⟩), .pointer (some ⟨b, 3, none⟩), .pointer (some ⟨b, 4, none⟩)] 245)).heap.size; simp; omega))
    exact ⟨v, rfl, hide (HBW.out.trans (h3.mono (by omega))), hide (own_base h2 (by show _ ≤ ((W0.alloc (.cells #[.bool uD, .bool uA, .bool uB, .bool uI] 4)).alloc (.cells #[.pointer (some ⟨b, 1, none⟩), .pointer (some ⟨b, 2, none⟩), .pointer (some ⟨b, 3, none⟩), .pointer (some ⟨b, 4, none⟩)] 245)).heap.size; simp; omega)), (h3.cell (p := ⟨w.heap.size, 1, none⟩) hlt).trans g1, (h3.cell (p := ⟨w.heap.size, 2, none⟩) hlt).trans g2, (h3.cell (p := ⟨w.heap.size, 3, none⟩) hlt).trans g3, (h3.cell (p := ⟨w.heap.size, 4, none⟩) hlt).trans g4⟩)
  have HCH2 : Hid (Calls Tryd.prog 176 #[.slice (some ⟨W0.heap.size + 1, 0, none⟩) 4 4, .slice (some ⟨W0.heap.size, 0, none⟩) 4 4] (((W0.alloc (.cells #[.pointer (some ⟨b, 1, none⟩), .pointer (some ⟨b, 2, none⟩), .pointer (some ⟨b, 3, none⟩), .pointer (some ⟨b, 4, none⟩)] 245)).alloc (.cells #[.bool uD, .bool uA, .bool uB, .bool uI] 4)).drew) (fun e w' => ∃ v, e = .returned v ∧ Hid (Below w.heap.size w w') ∧ Hid (w'.ownsRow w.heap.size 245 1 v (keepP [uD, uA, uB, uI] [⟨b, 1, none⟩, ⟨b, 2, none⟩, ⟨b, 3, none⟩, ⟨b, 4, none⟩]).length ((keepP [uD, uA, uB, uI] [⟨b, 1, none⟩, ⟨b, 2, none⟩, ⟨b, 3, none⟩, ⟨b, 4, none⟩]).map ptrV)) ∧ w'.cell? ⟨w.heap.size, 1, none⟩ = some (.bool uD) ∧ w'.cell? ⟨w.heap.size, 2, none⟩ = some (.bool uA) ∧ w'.cell? ⟨w.heap.size, 3, none⟩ = some (.bool uB) ∧ w'.cell? ⟨w.heap.size, 4, none⟩ = some (.bool uI))) := hide (by
    refine (chosen_any (some ⟨W0.heap.size + 1, 0, none⟩) (some ⟨W0.heap.size, 0, none⟩) 4 4 [uD, uA, uB, uI] [⟨b, 1, none⟩, ⟨b, 2, none⟩, ⟨b, 3, none⟩, ⟨b, 4, none⟩] W0.heap.size (W0.heap.size + 2) (((W0.alloc (.cells #[.pointer (some ⟨b, 1, none⟩), .pointer (some ⟨b, 2, none⟩), .pointer (some ⟨b, 3, none⟩), .pointer (some ⟨b, 4, none⟩)] 245)).alloc (.cells #[.bool uD, .bool uA, .bool uB, .bool uI] 4)).drew) (by show _ ≤ ((W0.alloc (.cells #[.pointer (some ⟨b, 1, none⟩), .pointer (some ⟨b, 2, none⟩), .pointer (some ⟨b, 3, none⟩), .pointer (some ⟨b, 4, none⟩)] 245)).alloc (.cells #[.bool uD, .bool uA, .bool uB, .bool uI] 4)).heap.size; simp) (hide (vals_two2 W0 _ _ _ _)) (hide (vals_two1 W0 _ _ _ _)) (hide rfl) (by simp)).mono ?_
    rintro e w' ⟨v, rfl, h1, h2⟩
    have h3 : Below W0.heap.size W0 w' := (balloc (balloc (Below.refl W0.heap.size W0) _) _).drew.trans (h1.mono (by show _ ≤ ((W0.alloc (.cells #[.pointer (some ⟨b, 1, none⟩), .pointer (some ⟨b, 2, none⟩), .pointer (some ⟨b, 3, none⟩), .pointer (some ⟨b, 4, none⟩)] 245)).alloc (.cells #[.bool uD, .bool uA, .bool uB, .bool uI] 4)).heap.size; simp; omega))
    exact ⟨v, rfl, hide (HBW.out.trans (h3.mono (by omega))), hide (own_base h2 (by show _ ≤ ((W0.alloc (.cells #[.pointer (some ⟨b, 1, none⟩), .pointer (some ⟨b, 2, none⟩), .pointer (some ⟨b, 3, none⟩), .pointer (some ⟨b, 4, none⟩)] 245)).alloc (.cells #[.bool uD, .bool uA, .bool uB, .bool uI] 4)).heap.size; simp; omega)), (h3.cell (p := ⟨w.heap.size, 1, none⟩) hlt).trans g1, (h3.cell (p := ⟨w.heap.size, 2, none⟩) hlt).trans g2, (h3.cell (p := ⟨w.heap.size, 3, none⟩) hlt).trans g3, (h3.cell (p := ⟨w.heap.size, 4, none⟩) hlt).trans g4⟩)
  go_region_held3 (fun w' => w'.cell? ⟨w.heap.size, 1, none⟩ = some (.bool uD) ∧ w'.cell? ⟨w.heap.size, 2, none⟩ = some (.bool uA) ∧ w'.cell? ⟨w.heap.size, 3, none⟩ = some (.bool uB) ∧ w'.cell? ⟨w.heap.size, 4, none⟩ = some (.bool uI)) (go_keep)
    (first
      | (go_at_call 176; with_reducible refine HCH1.out.mono ?_; rintro e w5 ⟨v5, rfl, HB5, HO5, f1, f2, f3, f4⟩)
      | (go_at_call 176; with_reducible refine HCH2.out.mono ?_; rintro e w5 ⟨v5, rfl, HB5, HO5, f1, f2, f3, f4⟩))
  all_goals
    go_wp2
    go_ret
    exact ⟨_, rfl, HB5.out, HO5.out⟩
end Go.Proofs.YtlmaodcddbkllaaDoor
