import Derived.Test.YtlmaodcddbkllaaDoorDM1
import Derived.Test.YtlmaodcddbkllaaDoorDF1
import Derived.Test.YtlmaodcddbkllaaDoorOwn
import Derived.Test.YtlmaodcddbkllaaDoorProg
/-
  The model's l2Reach: the blocks that paths lead to which do not touch one block.
-/
namespace Go.Proofs.YtlmaodcddbkllaaDoor
open Go.RowKit

inductive AvZ (tg : Nat → List Nat) (z : Int) : Nat → Prop
  | root : z ≠ 0 → AvZ tg z 0
  | step {b t : Nat} : AvZ tg z b → t ∈ tg b → (t : Int) ≠ z → AvZ tg z t
theorem avz_nat {tg : Nat → List Nat} {a b : Nat} : AvZ tg a b ↔ Av tg a b := by
  constructor
  · intro h
    induction h with
    | root h => exact Av.root (fun e => h (by omega))
    | step _ ht hne ih => exact Av.step ih ht (fun e => hne (by omega))
  · intro h
    induction h with
    | root h => exact AvZ.root (fun e => h (by omega))
    | step _ ht hne ih => exact AvZ.step ih ht (fun e => hne (by omega))
theorem avz_neg {tg : Nat → List Nat} {z : Int} (hz : z < 0) {b : Nat} : AvZ tg z b ↔ Re tg b := by
  constructor
  · intro h
    induction h with
    | root _ => exact Re.root
    | step _ ht _ ih => exact Re.step ih ht
  · intro h
    induction h with
    | root => exact AvZ.root (by omega)
    | step _ ht ih => exact AvZ.step ih ht (by omega)
/-- What the search has found: F, of which the first i have been looked through. -/
structure RcI (tg : Nat → List Nat) (n : Nat) (z : Int) (F : List Nat) (i : Nat) : Prop where
  nd : F.Nodup
  av : ∀ x ∈ F, AvZ tg z x
  lt : ∀ x ∈ F, x < n
  root : z ≠ 0 → 0 ∈ F
  nil : z = 0 → F = []
  cl : ∀ k (h : k < F.length), k < i → ∀ t ∈ tg F[k], (t : Int) ≠ z → t = 0 ∨ t ∈ F
theorem nodup_le {F : List Nat} {n : Nat} (h : F.Nodup) (hl : ∀ x ∈ F, x < n) : F.length ≤ n := by
  have := List.Nodup.length_le_of_subset h (l₂ := List.range n) (fun x hx => List.mem_range.2 (hl x hx))
  simpa using this
theorem rc_done {tg : Nat → List Nat} {n : Nat} {z : Int} {F : List Nat} {i : Nat} (h : RcI tg n z F i) (hi : F.length ≤ i) (x : Nat) : x ∈ F ↔ AvZ tg z x := by
  refine ⟨h.av x, fun hx => ?_⟩
  induction hx with
  | root hz => exact h.root hz
  | @step b t hb ht hne ih =>
    obtain ⟨k, hk, e⟩ := List.getElem_of_mem ih
    rcases h.cl k hk (by omega) t (by rw [e]; exact ht) hne with h0 | h1
    · rw [h0]
      refine h.root (fun hz => ?_)
      rw [h.nil hz] at hk
      exact absurd hk (by simp)
    · exact h1
end Go.Proofs.YtlmaodcddbkllaaDoor

/-
  Rows whose cells are told by a function of numbers or of truth values.
-/
namespace Go.Proofs.YtlmaodcddbkllaaDoor
open Go.RowKit

/-- A row whose cells are told by a function. -/
theorem row_set {T : Type} {C : T → Value} {w : World} {g t n : Nat} {f : Nat → T} (h : w.rowIs g t n (fun z => C (f z))) (r : Nat) (v : T) : (w.setCell ⟨g, r, none⟩ (C v)).rowIs g t n (fun z => C (if z = r then v else f z)) :=
  (h.set r (C v)).congr (fun z _ => by by_cases e : z = r <;> simp [e])
theorem row_as {T : Type} {C : T → Value} {w : World} {g t n : Nat} {f f' : Nat → T} (h : w.rowIs g t n (fun z => C (f z))) (e : ∀ z, z < n → f z = f' z) : w.rowIs g t n (fun z => C (f' z)) := h.congr (fun z hz => by rw [e z hz])
theorem Tryd.infoBo : (Tryd.prog.info? 4).map (fun i => (i.zero, i.size, i.bytes)) = some (some (.bool false), 1, 1) := by kernel_rfl
end Go.Proofs.YtlmaodcddbkllaaDoor
