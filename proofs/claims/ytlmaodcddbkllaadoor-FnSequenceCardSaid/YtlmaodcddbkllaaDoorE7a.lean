import Derived.Test.YtlmaodcddbkllaaDoorE6
import Derived.Test.YtlmaodcddbkllaaDoorW9
/-
  l1Raw of the model.
-/
namespace Go.Proofs.YtlmaodcddbkllaaDoor
open Go.RowKit

/-- A line of numbers that were laid down last. -/
theorem lit0_any (B : Nat) (u : Value) (xs word : List UInt8) (vs : List Int) (s : Nat) (W : World) (hs : s = W.heap.size) (hB : B ≤ W.heap.size)
    (ho : Hid (W.ownsRow B 5 1 u xs.length (bytesV xs))) (hn : Hid (u ≠ .slice none 0 0)) (hlen : Hid (xs.length + (lineS word vs).length ≤ 1000000000000))
    (hin : ∀ v ∈ vs, -9223372036854775807 ≤ v ∧ v ≤ 9223372036854775807) :
    Calls Tryd.prog 141 #[u, .string (strOf word), .slice (some ⟨s, 0, none⟩) vs.length vs.length] (W.alloc (.cells (vs.map (Value.int .i64)).toArray 2)) fun e w' =>
      ∃ v, e = .returned v ∧ Gr W w' u v ∧ v ≠ .slice none 0 0 ∧ w'.ownsRow B 5 1 v (xs ++ lineS word vs).length (bytesV (xs ++ lineS word vs)) := by
  subst hs
  refine (putLine_any B u xs word _ _ vs.length vs W.heap.size (W.heap.size + 1) _ (by simp; omega) (hide (ho.out.alloc _)) hn hlen (hide (ints_lit W vs)) (by simp) (hide (fun g hg => Or.inl (by have := (ho.out.lt g hg).2; omega))) (hide rfl) (hide hin)).mono ?_
  rintro e w' ⟨v, rfl, h1, h2, h3⟩
  exact ⟨v, rfl, ((Gr.refl _ _).alloc _).trans h1, h2, h3⟩
theorem own_emptyB (w : World) (o : Obj) : ((w.alloc o).alloc (.cells #[] 5)).ownsRow (w.heap.size + 1) 5 1 (.slice (some ⟨w.heap.size + 1, 0, none⟩) 0 0) 0 [] := by
  have := World.ownsRow_lit (base := w.heap.size + 1) (e := 5) (size := 1) (w.alloc o) #[] 0 (by simp) (by simp) rfl
  simpa using this
end Go.Proofs.YtlmaodcddbkllaaDoor
