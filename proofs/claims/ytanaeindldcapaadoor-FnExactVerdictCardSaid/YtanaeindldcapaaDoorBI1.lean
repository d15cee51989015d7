import Derived.Shelf.Abstract
import Derived.Shelf.RegionOpen
import Derived.OwnWalkIn
import Derived.TacticsInMore
import Derived.LoopNIn
import Derived.LoopIn
import Derived.Test.YtanaeindldcapaaDoorW7
namespace Go.Proofs.YtanaeindldcapaaDoor
open Go.RowKit Go.Shelf
section
attribute [local go_sem] Oper.semAt_some
/-- What a round keeps: below n₀ all but some rows, and all cells but those rows. -/
structure KpB (n₀ : Nat) (Ms : Nat → Prop) (V V' : World) : Prop where
  size : V.heap.size ≤ V'.heap.size
  low : ∀ k, k < n₀ → ¬ Ms k → V'.heap[k]? = V.heap[k]?
  cells : ∀ (k : Nat) (o : Obj), ¬ Ms k → V.heap[k]? = some o → o.isCells = true → V'.heap[k]? = some o
theorem KpB.refl {n₀ : Nat} {Ms : Nat → Prop} (V : World) : KpB n₀ Ms V V := ⟨Nat.le_refl _, fun _ _ _ => rfl, fun _ _ _ h _ => h⟩
theorem KpB.trans {n₀ : Nat} {Ms : Nat → Prop} {A B C : World} (h : KpB n₀ Ms A B) (k : KpB n₀ Ms B C) : KpB n₀ Ms A C :=
  ⟨Nat.le_trans h.size k.size, fun i hi hm => (k.low i hi hm).trans (h.low i hi hm), fun i o hm h1 h2 => k.cells i o hm (h.cells i o hm h1 h2) h2⟩
theorem KpB.putObj {n₀ : Nat} {Ms : Nat → Prop} (W : World) (l : Nat) (o o' : Obj) (hl : n₀ ≤ l) (h : W.heap[l]? = some o) (ho : o.isCells = false) : KpB n₀ Ms W (W.putObj l o') := by
  have hg := grownBy_putObj' W l o'
  refine ⟨hg.size, fun k hk _ => ?_, fun k o2 _ h1 h2 => ?_⟩
  · exact World.putObj_heap_other (by omega)
  · exact (World.putObj_heap_other (fun e => by subst e; rw [h] at h1; injection h1 with h1; subst h1; rw [ho] at h2; cases h2)).trans h1
theorem KpB.of_below {n₀ : Nat} {Ms : Nat → Prop} {V V' : World} (h : Below V.heap.size V V') (hn : n₀ ≤ V.heap.size) : KpB n₀ Ms V V' :=
  ⟨h.size, fun k hk _ => h.block k (by omega), fun k o _ h1 _ => (h.block k (Array.getElem?_eq_some_iff.1 h1).1).trans h1⟩
theorem cells_of_cell {V : World} {p : Addr} {v : Value} (h : V.cell? p = some v) : ∃ o : Obj, V.heap[p.block]? = some o ∧ o.isCells = true := by
  unfold World.cell? at h
  cases ho : V.heap[p.block]? with
  | none => simp [ho] at h
  | some o => exact ⟨o, rfl, by cases o <;> simp_all [Obj.isCells]⟩
theorem KpB.block {n₀ : Nat} {Ms : Nat → Prop} {V V' : World} (h : KpB n₀ Ms V V') {p : Addr} {v : Value} (hc : V.cell? p = some v) (hm : ¬ Ms p.block) : V'.heap[p.block]? = V.heap[p.block]? := by
  obtain ⟨o, h1, h2⟩ := cells_of_cell hc
  rw [h1]
  exact h.cells _ _ hm h1 h2
theorem KpB.cell {n₀ : Nat} {Ms : Nat → Prop} {V V' : World} (h : KpB n₀ Ms V V') {p : Addr} {v : Value} (hc : V.cell? p = some v) (hm : ¬ Ms p.block) : V'.cell? p = some v :=
  (World.cell?_of_block (h.block hc hm)).trans hc
def insV (x : Ins) : Value := .agg #[.int .i64 x.op, .int .i64 x.dst, .int .i64 x.a, .int .i64 x.b, .int .i64 x.imm]
/-- The places of a list, from the last on. -/
def bwF (n : Nat) (k : Nat) : List (Fin n) := ((List.finRange n).reverse).take (n - k)
theorem bwF_start (n : Nat) : bwF n n = [] := by simp [bwF]
theorem bwF_len (n k : Nat) : (bwF n k).length = n - k := by simp [bwF]
theorem bwF_step {n q : Nat} (h : q < n) : bwF n q = bwF n (q + 1) ++ [⟨q, h⟩] := by
  unfold bwF
  have e : n - q = (n - (q + 1)) + 1 := by omega
  rw [e, List.take_succ_eq_append_getElem (by simp; omega)]
  congr 1
  simp
  omega
set_option maxHeartbeats 1000000 in
theorem backwardI_in (F : Fence) (n : Nat) (h6 : F.fn 69) (hro : F.round = none) (a : Option Addr) (len cap : Nat) (w : World) :
    CallsIn F n Tryd.prog 69 #[.slice a len cap] w fun e w' => e = .returned (.func (.func 85) #[] #[.pointer (some ⟨w.heap.size, 0, none⟩)]) ∧ w' = w.alloc (.cells #[.slice a len cap] 63) := by
  refine callsIn_of_wp Tryd.func69 rfl h6 ?_ hro
  simp only [Tryd.ntmps69, List.size_toArray, List.length_cons, List.length_nil, Nat.reduceAdd, Nat.reduceSub, Array.replicate_succ, Array.replicate_zero, List.push_toArray, List.append_toArray, List.nil_append, List.cons_append]
  gi_wp2
  go_ret
  exact ⟨rfl, rfl⟩
end
end Go.Proofs.YtanaeindldcapaaDoor
