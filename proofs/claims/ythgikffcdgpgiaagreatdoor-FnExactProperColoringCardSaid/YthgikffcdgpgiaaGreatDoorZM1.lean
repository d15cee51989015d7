import Derived.Test.YthgikffcdgpgiaaGreatDoorAS0
import Derived.Test.YthgikffcdgpgiaaGreatDoorMQ3
import Derived.Test.YthgikffcdgpgiaaGreatDoorW18b
namespace Go.Proofs.YthgikffcdgpgiaaGreatDoor
open Go.RowKit Go.Shelf
attribute [local go_sem] Oper.semAt_some
set_option maxHeartbeats 1000000 in
theorem allSides_in (n : Nat) (v0 v1 : Value) (w : World) :
    CallsIn Fence.wide n Tryz.prog 34 #[.agg #[v0, v1]] w fun e w' => e = .returned (.func (.func 66) #[] #[.pointer (some ⟨w.heap.size, 0, none⟩)]) ∧ w' = w.alloc (.cells #[v0, v1] 32) := by
  refine callsIn_of_wp Tryz.func34 rfl trivial ?_ rfl
  simp only [Tryz.ntmps34, List.size_toArray, List.length_cons, List.length_nil, Nat.reduceAdd, Nat.reduceSub, Array.replicate_succ, Array.replicate_zero, List.push_toArray, List.append_toArray, List.nil_append, List.cons_append]
  gi_wp2
  go_ret
  exact ⟨rfl, rfl⟩
theorem sdPv_own (n Kw B z : Nat) : OwnFrom B (sdPv n Kw z) := fun p A V row h k q => by
  have h1 := sdPy_own n p.i Kw B z p A V row ⟨⟨Nat.le_refl _, h.1⟩, h.2⟩ k q
  exact ⟨h.1, h1.2⟩
theorem sdPv_below {n Kw z : Nat} {p : Sd} {V V' : World} (h : sdPv n Kw z p V) (k : Below V.heap.size V V') : sdPv n Kw z p V' := ⟨h.1, h.2.1.of_block (k.block z h.2.1.lt), h.2.2⟩
/-- The greatest length. -/
def mxL {α : Type} (l : List (List α)) : Nat := (l.map List.length).foldl max 0
/-- While MaxLive goes through the sets. -/
structure MxI (w6 : World) (Bm p : Nat) (pre : List Sd) (V : World) : Prop where
  os : V.os = w6.os
  tape : V.tape = w6.tape
  output : V.output = w6.output
  size : w6.heap.size ≤ V.heap.size
  bl : Bm < w6.heap.size
  fr : ∀ q, q < w6.heap.size → q ≠ Bm → V.heap[q]? = w6.heap[q]?
  mx : V.rowIs Bm 3 1 (fun _ => .int .i64 (mxL (pre.map (sdW p)) : Int))
section
variable {w6 V V' : World} {Bm p : Nat} {pre : List Sd}
theorem MxI.far (h : MxI w6 Bm p pre V) (k : Below w6.heap.size V V') : MxI w6 Bm p pre V' :=
  ⟨k.os.trans h.os, k.tape.trans h.tape, k.output.trans h.output, Nat.le_trans h.size k.size, h.bl, fun q q1 q2 => (k.block q q1).trans (h.fr q q1 q2), h.mx.of_block (k.block _ h.bl)⟩
theorem MxI.own (w6 : World) (Bm p : Nat) : OwnFrom w6.heap.size (MxI w6 Bm p) := fun pre V V' row h k q => by
  have := h.size
  exact h.far ⟨k.os, k.tape, k.output, k.size, fun b hb => k.block b (by omega) (fun e => by have := (q b e.symm).1; omega)⟩
theorem MxI.push (h : MxI w6 Bm p pre V) {s : Sd} (k : Below V.heap.size V V') {x : Int} (hx : x = (mxL ((pre ++ [s]).map (sdW p)) : Int)) : MxI w6 Bm p (pre ++ [s]) (V'.setCell ⟨Bm, 0, none⟩ (.int .i64 x)) := by
  have h' := h.far (k.mono h.size)
  refine ⟨h'.os, h'.tape, h'.output, by rw [size_setCell]; exact h'.size, h'.bl, fun q q1 q2 => (Below.heap_setCell _ _ _ _ q2).trans (h'.fr q q1 q2), ?_⟩
  rw [← hx]
  exact (h'.mx.set 0 _).congr (fun i hi => by rw [show i = 0 by omega]; simp)
end
end Go.Proofs.YthgikffcdgpgiaaGreatDoor

namespace Go.Proofs.YthgikffcdgpgiaaGreatDoor
open Go.RowKit
theorem ptQ_some {xs : List Blk} {b : Nat} (hb : b < xs.length) (V i : Nat) : ptQ xs V b i = natI (ptP xs xs[b] V b i) := by
  unfold ptQ
  rw [List.getElem?_eq_getElem hb]
theorem dfL_some {xs : List Blk} {b : Nat} (hb : b < xs.length) : (dfL xs b).length = xs[b].instrs.length := by
  unfold dfL
  rw [List.getElem?_eq_getElem hb]
  simp [dfsM]
/-- All sets as the model lists them, of the first b blocks. -/
noncomputable def flQ (xs : List Blk) (V b : Nat) : List (List Int) := (List.range b).flatMap fun s => (List.range ((dfL xs s).length + 1)).map (ptQ xs V s)
theorem flQ_succ (xs : List Blk) (V b : Nat) : flQ xs V (b + 1) = flQ xs V b ++ (List.range ((dfL xs b).length + 1)).map (ptQ xs V b) := by
  unfold flQ
  rw [List.range_succ, List.flatMap_append]
  simp
theorem mem_side {xs : List Blk} {V b : Nat} (hb : b < xs.length) {l : List Nat} : l ∈ sideP xs V b ↔ ∃ i, i ≤ xs[b].instrs.length ∧ l = ptP xs xs[b] V b i := by
  unfold sideP
  rw [List.getElem?_eq_getElem hb]
  simp only [List.mem_append, List.mem_map, List.mem_singleton]
  constructor
  · rintro (⟨j, _, e⟩ | e)
    · exact ⟨(j : Nat) + 1, j.isLt, e.symm⟩
    · exact ⟨0, Nat.zero_le _, e⟩
  · rintro ⟨i, hi, e⟩
    cases i with
    | zero => exact Or.inr e
    | succ j =>
      refine Or.inl ⟨⟨j, hi⟩, ?_, e.symm⟩
      unfold bwF
      rw [List.take_of_length_le (by simp)]
      exact List.mem_reverse.2 (List.mem_finRange _)
end Go.Proofs.YthgikffcdgpgiaaGreatDoor
