import Derived.Test.YtjfcbjomfbfoiaaGreatDoorW5
import Derived.Test.YtjfcbjomfbfoiaaGreatDoorProg
namespace Go.Proofs.YtjfcbjomfbfoiaaGreatDoor
open Go.RowKit
/-- A row whose cells are told by a function. -/
theorem row_set {T : Type} {C : T → Value} {w : World} {g t n : Nat} {f : Nat → T} (h : w.rowIs g t n (fun z => C (f z))) (r : Nat) (v : T) : (w.setCell ⟨g, r, none⟩ (C v)).rowIs g t n (fun z => C (if z = r then v else f z)) :=
  (h.set r (C v)).congr (fun z _ => by by_cases e : z = r <;> simp [e])
theorem row_as {T : Type} {C : T → Value} {w : World} {g t n : Nat} {f f' : Nat → T} (h : w.rowIs g t n (fun z => C (f z))) (e : ∀ z, z < n → f z = f' z) : w.rowIs g t n (fun z => C (f' z)) := h.congr (fun z hz => by rw [e z hz])
theorem Tryz.infoBo : (Tryz.prog.info? 4).map (fun i => (i.zero, i.size, i.bytes)) = some (some (.bool false), 1, 1) := by kernel_rfl
end Go.Proofs.YtjfcbjomfbfoiaaGreatDoor
