import Derived.RangeFuncNested
import Derived.RangeFuncBound
import Derived.RangeFuncCalls
import Derived.RangeFuncLeaves
import Derived.Shelf.Abstract
import Derived.Shelf.RegionOpen
import Derived.WalkKit
import Derived.OwnWalkIn
import Derived.TacticsInMore
import Derived.LoopNIn
import Derived.LoopIn
import Derived.Test.YtlmaodcddbkllaaDoorDFP
import Derived.Test.YtlmaodcddbkllaaDoorW7
/-
  slices.Backward over a list of numbers: what its function hands over, one round after another.
-/
namespace Go.Proofs.YtlmaodcddbkllaaDoor
open Go.RowKit Go.Shelf

attribute [local go_sem] Oper.semAt_some

/-- What has come when k are left: from the last on. -/
def bwTo {α : Type} (f : Nat → α) (len k : Nat) : List α := (List.range (len - k)).map fun j => f (len - 1 - j)
theorem bw_step {α : Type} (f : Nat → α) {len q : Nat} (h : q < len) : bwTo f len q = bwTo f len (q + 1) ++ [f q] := by
  unfold bwTo
  have e : len - q = (len - (q + 1)) + 1 := by omega
  rw [e, List.range_succ, List.map_append]
  have e2 : len - 1 - (len - (q + 1)) = q := by omega
  simp [e2]
theorem bw_start {α : Type} (f : Nat → α) (len : Nat) : bwTo f len len = [] := by simp [bwTo]
theorem bw_len {α : Type} (f : Nat → α) (len k : Nat) : (bwTo f len k).length = len - k := by simp [bwTo]
abbrev Pb (N : Nat) := { x : Nat × Nat // x.2 < N }
theorem getD_lt {zs : List Nat} {N : Nat} (hz : ∀ z ∈ zs, z < N) (h0 : 0 < N) (j : Nat) : zs[j]?.getD 0 < N := by
  by_cases h : j < zs.length
  · rw [List.getElem?_eq_getElem h]; exact hz _ (List.getElem_mem h)
  · rw [List.getElem?_eq_none (by omega)]; exact h0
def pbAt {zs : List Nat} {N : Nat} (hz : ∀ z ∈ zs, z < N) (h0 : 0 < N) (j : Nat) : Pb N := ⟨(j, zs[j]?.getD 0), getD_lt hz h0 j⟩

set_option maxRecDepth 100000 in
set_option maxHeartbeats 2000000 in
theorem bw1_in (F : Fence) (n : Nat) (h8 : F.fn 175) (hro : F.round = none) (hn : 1 ≤ n) (l Bs n₀ b off len cap : Nat) (zs : List Nat) (N : Nat) (hz : ∀ z ∈ zs, z < N) (h0N : 0 < N) (hreach : len ≤ 1000000) (hb : b < n₀) (J Jx : List (Pb N) → World → Prop)
    (hY : ∀ pre x W, J pre W → pre.length < len → YieldAt F (n - 1) Tryd.prog l #[.int .i64 (x.1.1 : Int), .int .i64 (x.1.2 : Int)] W fun e W' =>
      (e = .returned (.bool true) ∧ J (pre ++ [x]) W' ∧ Below n₀ W W') ∨ (e = .returned (.bool false) ∧ Jx (pre ++ [x]) W'))
    (W : World) (hBs : W.cell? ⟨Bs, 0, none⟩ = some (.slice (some ⟨b, off, none⟩) len cap)) (hBl : Bs < n₀) (hc : ∀ j, j < len → W.cell? ⟨b, off + j, none⟩ = some (.int .i64 ((zs[j]?.getD 0 : Nat) : Int))) (h0 : J [] W) :
    CallsIn F n Tryd.prog 175 #[.func (.yield l) #[] #[], .pointer (some ⟨Bs, 0, none⟩)] W fun e W' => (∃ v, e = .returned v) ∧
      ((∃ ys, ys = bwTo (pbAt hz h0N) len 0 ∧ J ys W') ∨ (∃ pre, (∃ k, k < len ∧ pre = bwTo (pbAt hz h0N) len k) ∧ Jx pre W')) := by
  refine callsIn_of_wp Tryd.func175 rfl h8 ?_ hro
  simp only [Tryd.ntmps175, List.size_toArray, List.length_cons, List.length_nil, Nat.reduceAdd, Nat.reduceSub, Array.replicate_succ, Array.replicate_zero, List.push_toArray, List.append_toArray, List.nil_append, List.cons_append]
  gi_wp2
  gi_loopw [3] (fun i wr => ∃ (k : Nat) (z : Int), k ≤ len ∧ i = .int .i64 z ∧ z + 1 = (k : Int) ∧ J (bwTo (pbAt hz h0N) len k) wr ∧ Below n₀ W wr)
    (fun i _ => (intOf i + 1).toNat)
  case atStart => exact ⟨len, _, Nat.le_refl _, rfl, by omega, by rw [bw_start]; exact h0, Below.refl _ _⟩
  case round =>
    obtain ⟨k, z, hk, rfl, hzk, hJs, hnx⟩ := hrel
    have hBs' := (hnx.cell (p := ⟨Bs, 0, none⟩) hBl).trans hBs
    cases k with
    | zero =>
      have hz1 : z = -1 := by omega
      subst hz1
      gi_wp2
      go_end0
      exact ⟨⟨_, rfl⟩, .inl ⟨_, rfl, hJs⟩⟩
    | succ q =>
      have hz1 : z = (q : Int) := by omega
      subst hz1
      have hq : q < len := hk
      have hcx : wr.cell? ⟨b, off + q, none⟩ = some (.int .i64 ((zs[q]?.getD 0 : Nat) : Int)) := (hnx.cell (p := ⟨b, off + q, none⟩) hb).trans (hc q hq)
      obtain ⟨fn, tmps, assign, body, hy, hR⟩ := hY _ (pbAt hz h0N q) wr hJs (by rw [bw_len]; omega)
      dsimp only [pbAt] at hy
      gi_wp2
      refine hR.mono ?_
      rintro e W3 (⟨rfl, hJ3, hk3⟩ | ⟨rfl, hJx3⟩)
      · gi_wp2
        go_roundw
        case rel => exact ⟨q, _, by omega, rfl, by omega, by rw [bw_step _ hq]; exact hJ3, hnx.trans hk3⟩
        case measure => simp [intOf]
      · gi_wp2
        refine bodyPost_ret (results_none rfl _ _ _) rfl ?_
        exact ⟨⟨_, rfl⟩, .inr ⟨_, ⟨q, hq, (bw_step _ hq).symm⟩, hJx3⟩⟩
set_option maxHeartbeats 1000000 in
/-- slices.Backward itself: the list is laid into a box that the function holds. -/
theorem backward_in (F : Fence) (n : Nat) (h6 : F.fn 126) (hro : F.round = none) (a : Option Addr) (len cap : Nat) (w : World) :
    CallsIn F n Tryd.prog 126 #[.slice a len cap] w fun e w' => e = .returned (.func (.func 175) #[] #[.pointer (some ⟨w.heap.size, 0, none⟩)]) ∧ w' = w.alloc (.cells #[.slice a len cap] 40) := by
  refine callsIn_of_wp Tryd.func126 rfl h6 ?_ hro
  simp only [Tryd.ntmps126, List.size_toArray, List.length_cons, List.length_nil, Nat.reduceAdd, Nat.reduceSub, Array.replicate_succ, Array.replicate_zero, List.push_toArray, List.append_toArray, List.nil_append, List.cons_append]
  gi_wp2
  go_ret
  exact ⟨rfl, rfl⟩
/-- What it hands back. -/
theorem backward_stops (F : Fence) (n : Nat) (h8 : F.fn 175) (hro : F.round = none) (hn : 1 ≤ n) (Bs b off len cap : Nat) (zs : List Nat) (N : Nat) (hz : ∀ z ∈ zs, z < N) (h0N : 0 < N) (hreach : len ≤ 1000000) (w : World) (hBs : Bs < w.heap.size) (hb : b < w.heap.size)
    (hc : w.cell? ⟨Bs, 0, none⟩ = some (.slice (some ⟨b, off, none⟩) len cap)) (hI : ∀ j, j < len → w.cell? ⟨b, off + j, none⟩ = some (.int .i64 ((zs[j]?.getD 0 : Nat) : Int))) :
    SeqStopsK F n Tryd.prog 175 #[.pointer (some ⟨Bs, 0, none⟩)] (fun x : Pb N => #[Value.int .i64 (x.1.1 : Int), Value.int .i64 (x.1.2 : Int)]) (Below w.heap.size) (fun ys => ys = bwTo (pbAt hz h0N) len 0)
      (fun pre => ∃ k, k < len ∧ pre = bwTo (pbAt hz h0N) len k) len w := fun l J Jx W hW _ _ hY h0 =>
  bw1_in F n h8 hro hn l Bs w.heap.size b off len cap zs N hz h0N hreach hb J Jx hY W ((hW.cell (p := ⟨Bs, 0, none⟩) hBs).trans hc) hBs (fun j hj => (hW.cell (p := ⟨b, off + j, none⟩) hb).trans (hI j hj)) h0
end Go.Proofs.YtlmaodcddbkllaaDoor
