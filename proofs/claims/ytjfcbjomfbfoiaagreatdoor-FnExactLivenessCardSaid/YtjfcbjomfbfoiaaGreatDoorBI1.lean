import Derived.RangeFuncNested
import Derived.RangeFuncBound
import Derived.RangeFuncCalls
import Derived.RangeFuncLeaves
import Derived.Shelf.Abstract
import Derived.Shelf.RegionOpen
import Derived.WalkKit
import Derived.OwnWalkIn
import Derived.TacticsInMore
import Derived.LoopNIn
import Derived.LoopIn
import Derived.Test.YtjfcbjomfbfoiaaGreatDoorW6b
namespace Go.Proofs.YtjfcbjomfbfoiaaGreatDoor
open Go.RowKit Go.Shelf
attribute [local go_sem] Oper.semAt_some
/-- What a round keeps: below n₀ all but some rows, and all cells but those rows. -/
structure KpB (n₀ : Nat) (Ms : Nat → Prop) (V V' : World) : Prop where
  size : V.heap.size ≤ V'.heap.size
  low : ∀ k, k < n₀ → ¬ Ms k → V'.heap[k]? = V.heap[k]?
  cells : ∀ (k : Nat) (o : Obj), ¬ Ms k → V.heap[k]? = some o → o.isCells = true → V'.heap[k]? = some o
theorem KpB.refl {n₀ : Nat} {Ms : Nat → Prop} (V : World) : KpB n₀ Ms V V := ⟨Nat.le_refl _, fun _ _ _ => rfl, fun _ _ _ h _ => h⟩
theorem KpB.trans {n₀ : Nat} {Ms : Nat → Prop} {A B C : World} (h : KpB n₀ Ms A B) (k : KpB n₀ Ms B C) : KpB n₀ Ms A C :=
  ⟨Nat.le_trans h.size k.size, fun i hi hm => (k.low i hi hm).trans (h.low i hi hm), fun i o hm h1 h2 => k.cells i o hm (h.cells i o hm h1 h2) h2⟩
theorem KpB.putObj {n₀ : Nat} {Ms : Nat → Prop} (W : World) (l : Nat) (o o' : Obj) (hl : n₀ ≤ l) (h : W.heap[l]? = some o) (ho : o.isCells = false) : KpB n₀ Ms W (W.putObj l o') := by
  have hg := grownBy_putObj' W l o'
  refine ⟨hg.size, fun k hk _ => ?_, fun k o2 _ h1 h2 => ?_⟩
  · exact World.putObj_heap_other (by omega)
  · exact (World.putObj_heap_other (fun e => by subst e; rw [h] at h1; injection h1 with h1; subst h1; rw [ho] at h2; cases h2)).trans h1
theorem KpB.of_below {n₀ : Nat} {Ms : Nat → Prop} {V V' : World} (h : Below V.heap.size V V') (hn : n₀ ≤ V.heap.size) : KpB n₀ Ms V V' :=
  ⟨h.size, fun k hk _ => h.block k (by omega), fun k o _ h1 _ => (h.block k (Array.getElem?_eq_some_iff.1 h1).1).trans h1⟩
theorem cells_of_cell {V : World} {p : Addr} {v : Value} (h : V.cell? p = some v) : ∃ o : Obj, V.heap[p.block]? = some o ∧ o.isCells = true := by
  unfold World.cell? at h
  cases ho : V.heap[p.block]? with
  | none => simp [ho] at h
  | some o => exact ⟨o, rfl, by cases o <;> simp_all [Obj.isCells]⟩
theorem KpB.block {n₀ : Nat} {Ms : Nat → Prop} {V V' : World} (h : KpB n₀ Ms V V') {p : Addr} {v : Value} (hc : V.cell? p = some v) (hm : ¬ Ms p.block) : V'.heap[p.block]? = V.heap[p.block]? := by
  obtain ⟨o, h1, h2⟩ := cells_of_cell hc
  rw [h1]
  exact h.cells _ _ hm h1 h2
theorem KpB.cell {n₀ : Nat} {Ms : Nat → Prop} {V V' : World} (h : KpB n₀ Ms V V') {p : Addr} {v : Value} (hc : V.cell? p = some v) (hm : ¬ Ms p.block) : V'.cell? p = some v :=
  (World.cell?_of_block (h.block hc hm)).trans hc
def insV (x : Ins) : Value := .agg #[.int .i64 x.op, .int .i64 x.dst, .int .i64 x.a, .int .i64 x.b, .int .i64 x.imm]
/-- The places of a list, from the last on. -/
def bwF (n : Nat) (k : Nat) : List (Fin n) := ((List.finRange n).reverse).take (n - k)
theorem bwF_start (n : Nat) : bwF n n = [] := by simp [bwF]
theorem bwF_len (n k : Nat) : (bwF n k).length = n - k := by simp [bwF]
theorem bwF_step {n q : Nat} (h : q < n) : bwF n q = bwF n (q + 1) ++ [⟨q, h⟩] := by
  unfold bwF
  have e : n - q = (n - (q + 1)) + 1 := by omega
  rw [e, List.take_succ_eq_append_getElem (by simp; omega)]
  congr 1
  simp
  omega
set_option maxRecDepth 100000 in
set_option maxHeartbeats 2000000 in
theorem bwi_in (F : Fence) (n : Nat) (h8 : F.fn 118) (hro : F.round = none) (hn : 1 ≤ n) (l Bs n₀ cap : Nat) (Ms : Nat → Prop) (a : Option Addr) (xs : List Ins) (L B : Nat) (hreach : xs.length ≤ 1000000) (hM : ∀ k, L ≤ k → k < B → ¬ Ms k) (hMs : ¬ Ms Bs) (J Jx : List (Fin xs.length) → World → Prop)
    (hY : ∀ (pre : List (Fin xs.length)) (x : Fin xs.length) (W : World), J pre W → pre.length < xs.length → YieldAt F (n - 1) Tryz.prog l #[.int .i64 ((x : Nat) : Int), insV xs[x]] W fun e W' =>
      (e = .returned (.bool true) ∧ J (pre ++ [x]) W' ∧ KpB n₀ Ms W W') ∨ (e = .returned (.bool false) ∧ Jx (pre ++ [x]) W'))
    (W : World) (hBs : W.cell? ⟨Bs, 0, none⟩ = some (.slice a xs.length cap)) (hc : Hid (InssAt W L B a xs)) (h0 : J [] W) :
    CallsIn F n Tryz.prog 118 #[.func (.yield l) #[] #[], .pointer (some ⟨Bs, 0, none⟩)] W fun e W' => (∃ v, e = .returned v) ∧
      ((∃ ys, ys = bwF xs.length 0 ∧ J ys W') ∨ (∃ pre, True ∧ Jx pre W')) := by
  refine callsIn_of_wp Tryz.func118 rfl h8 ?_ hro
  simp only [Tryz.ntmps118, List.size_toArray, List.length_cons, List.length_nil, Nat.reduceAdd, Nat.reduceSub, Array.replicate_succ, Array.replicate_zero, List.push_toArray, List.append_toArray, List.nil_append, List.cons_append]
  gi_wp2
  gi_loopw [3] (fun i wr => ∃ (k : Nat) (z : Int), k ≤ xs.length ∧ i = .int .i64 z ∧ z + 1 = (k : Int) ∧ J (bwF xs.length k) wr ∧ KpB n₀ Ms W wr)
    (fun i _ => (intOf i + 1).toNat)
  case atStart => exact ⟨xs.length, _, Nat.le_refl _, rfl, by omega, by rw [bwF_start]; exact h0, KpB.refl _⟩
  case round =>
    obtain ⟨k, z, hk, rfl, hzk, hJs, hnx⟩ := hrel
    have hBs' := hnx.cell hBs hMs
    cases k with
    | zero =>
      have hz1 : z = -1 := by omega
      subst hz1
      gi_wp2
      go_end0
      exact ⟨⟨_, rfl⟩, .inl ⟨_, rfl, hJs⟩⟩
    | succ q =>
      have hz1 : z = (q : Int) := by omega
      subst hz1
      have hq : q < xs.length := hk
      obtain ⟨b, o, ea, hbB, hcx⟩ := hc.out q hq
      subst ea
      have hMb := hM b hbB.1 hbB.2
      obtain ⟨q0, q1, q2, q3, q4⟩ := hcx
      have r0 := hnx.cell q0 hMb
      have r1 := hnx.cell q1 hMb
      have r2 := hnx.cell q2 hMb
      have r3 := hnx.cell q3 hMb
      have r4 := hnx.cell q4 hMb
      clear q0 q1 q2 q3 q4
      obtain ⟨fn, tmps, assign, body, hy, hR⟩ := hY _ ⟨q, hq⟩ wr hJs (by rw [bwF_len]; omega)
      have hyy : (Instr.yield l #[.int .i64 ((q : Nat) : Int), .agg #[.int .i64 xs[q].op, .int .i64 xs[q].dst, .int .i64 xs[q].a, .int .i64 xs[q].b, .int .i64 xs[q].imm]]).run Tryz.prog wr = _ := hy
      clear hy
      gi_wp2
      refine hR.mono ?_
      rintro e W3 (⟨rfl, hJ3, hk3⟩ | ⟨rfl, hJx3⟩)
      · gi_wp2
        go_roundw
        case rel => exact ⟨q, _, by omega, rfl, by omega, by rw [bwF_step hq]; exact hJ3, hnx.trans hk3⟩
        case measure => simp [intOf]
      · gi_wp2
        refine bodyPost_ret (results_none rfl _ _ _) rfl ?_
        exact ⟨⟨_, rfl⟩, .inr ⟨_, trivial, hJx3⟩⟩
set_option maxHeartbeats 1000000 in
theorem backwardI_in (F : Fence) (n : Nat) (h6 : F.fn 101) (hro : F.round = none) (a : Option Addr) (len cap : Nat) (w : World) :
    CallsIn F n Tryz.prog 101 #[.slice a len cap] w fun e w' => e = .returned (.func (.func 118) #[] #[.pointer (some ⟨w.heap.size, 0, none⟩)]) ∧ w' = w.alloc (.cells #[.slice a len cap] 75) := by
  refine callsIn_of_wp Tryz.func101 rfl h6 ?_ hro
  simp only [Tryz.ntmps101, List.size_toArray, List.length_cons, List.length_nil, Nat.reduceAdd, Nat.reduceSub, Array.replicate_succ, Array.replicate_zero, List.push_toArray, List.append_toArray, List.nil_append, List.cons_append]
  gi_wp2
  go_ret
  exact ⟨rfl, rfl⟩
/-- What it hands back. -/
theorem backwardI_stops (F : Fence) (n : Nat) (h8 : F.fn 118) (hro : F.round = none) (hn : 1 ≤ n) (Bs n₀ cap : Nat) (Ms : Nat → Prop) (a : Option Addr) (xs : List Ins) (L B : Nat) (hreach : xs.length ≤ 1000000) (hB : B ≤ n₀) (hM : ∀ k, L ≤ k → k < B → ¬ Ms k) (hMs : ¬ Ms Bs) (w : World) (hn0 : n₀ ≤ w.heap.size) (hBs : Bs < w.heap.size)
    (hc : w.cell? ⟨Bs, 0, none⟩ = some (.slice a xs.length cap)) (hI : Hid (InssAt w L B a xs)) :
    SeqStopsK F n Tryz.prog 118 #[.pointer (some ⟨Bs, 0, none⟩)] (fun x : Fin xs.length => #[Value.int .i64 ((x : Nat) : Int), insV xs[x]]) (KpB n₀ Ms) (fun ys => ys = bwF xs.length 0) (fun _ => True) xs.length w := fun l J Jx W hW _ _ hY h0 =>
  bwi_in F n h8 hro hn l Bs n₀ cap Ms a xs L B hreach hM hMs J Jx hY W ((hW.cell (p := ⟨Bs, 0, none⟩) hBs).trans hc) (hide (hI.out.keepS (fun k _ h2 => hW.block k (by omega)))) h0
end Go.Proofs.YtjfcbjomfbfoiaaGreatDoor
