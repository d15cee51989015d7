import Derived.Test.YteifkldaoddpdaaDoorN9
import Derived.Laws.CopyOwn
import Derived.Deep.Cut
import Derived.Test.YteifkldaoddpdaaDoorRunS
namespace Go.Proofs.YteifkldaoddpdaaDoor
open Go.RowKit

theorem Tryd.size2 : (Tryd.prog.info? 2).map (·.size) = some 1 := by kernel_rfl

theorem heapN_row (heap : List Int) (n : Nat) (h : heap.length ≤ n) : ((List.range n).map fun i => heap.getD i 0).map (Value.int .i64) = heap.map (Value.int .i64) ++ (List.replicate n (Value.int .i64 0)).drop heap.length := by
  apply List.ext_getElem?
  intro i
  by_cases hi : i < n
  · by_cases h2 : i < heap.length
    · rw [List.getElem?_append_left (by simpa using h2)]
      simp [hi, h2]
    · rw [List.getElem?_append_right (by simp; omega), List.length_map, List.getElem?_drop, show heap.length + (i - heap.length) = i by omega]
      simp [hi, h2]
  · rw [List.getElem?_eq_none (by simp; omega), List.getElem?_eq_none (by simp; omega)]
theorem heapR_row (heap : List Int) (h : heap.length ≤ 32) : (heapR heap).map (Value.int .i64) = heap.map (Value.int .i64) ++ (List.replicate 32 (Value.int .i64 0)).drop heap.length := heapN_row heap 32 h
theorem made32 : (madeCells #[Value.int .i64 0] 32).toList = List.replicate 32 (Value.int .i64 0) := by kernel_rfl
theorem letterN {P : World → Prop} (W0 : World) (h : ∀ W, W = W0 → P W) : P W0 := h W0 rfl

set_option maxHeartbeats 1000000 in
set_option maxRecDepth 100000 in
theorem newRun_any (aa : Option Addr) (na ca : Nat) (hA : Option Addr) (nh chh : Nat) (fuel : Int) (heap : List Int) (L B : Nat) (w : World)
    (hheap : Hid (IntsAt w L B hA heap)) (hnh : Hid (nh = heap.length)) (h32 : nh ≤ 32) (hB : B ≤ w.heap.size) :
    Calls Tryd.prog 51 #[.slice aa na ca, .slice hA nh chh, .int .i64 fuel] w
      fun e w' => ∃ gh ch, e = .returned (.agg #[.slice aa na ca, .slice (some ⟨gh, 0, none⟩) 32 ch, .slice none 0 0, .int .i64 fuel, .int .i64 0, .int .i64 0]) ∧ Below w.heap.size w w' ∧ w.heap.size ≤ gh ∧ IntsW w' gh (heapR heap) := by
  have hmk := run_make_row' (P := Tryd.prog) 38 2 (.int .i64 0) 8 Tryd.underlying38 Tryd.info2 rfl .i64 .i64 32 (by omega) (by omega)
  rw [show ((32 : Nat) : Int) = 32 from rfl] at hmk
  have hbb : ∀ x y z, Below w.heap.size w (((w.alloc x).alloc y).alloc z) := fun x y z => balloc (balloc (balloc (Below.refl w.heap.size w) x) y) z
  by_cases h0 : nh = 0
  · subst h0
    have hcp : ∀ W, Sem.run Tryd.prog (Builtin.copy_ #[38, 38] 3 #[.slice (some ⟨w.heap.size + 1, 0, none⟩) 32 32, .slice hA 0 chh]) W = .ok (goInt 0) W := fun W => run_copy_none W _ _ _ _ _ _ _ _ _ _ Tryd.underlying38 Tryd.size2 rfl
    go_enter Tryd.func51, Tryd.ntmps51
    go_wp2
    refine bodyPost_ret (v := .agg #[.slice aa na ca, .slice (some ⟨w.heap.size + 1, 0, none⟩) 32 32, .slice none 0 0, .int .i64 fuel, .int .i64 0, .int .i64 0]) (by simp [results, Tryd.results51, go_sem]) rfl ⟨w.heap.size + 1, 32, rfl, hbb _ _ _, by omega, ?_⟩
    have he : heap = [] := List.eq_nil_of_length_eq_zero hnh.out.symm
    subst he
    have hrow := World.rowIs_made (w.alloc (.cells #[.slice aa na ca, .slice (some ⟨w.heap.size + 1, 0, none⟩) 32 32, .slice none 0 0, .int .i64 fuel, .int .i64 0, .int .i64 0] 77)) (.int .i64 0) 32 2
    rw [World.size_alloc] at hrow
    exact IntsW.of_row (hrow.alloc _) (by simp [heapR]) (fun i hi => by simp [heapR])
  · have hhl : 0 < heap.length := by have := hnh.out; omega
    obtain ⟨b, o, rfl, ⟨_, hb⟩, -⟩ := hheap.out 0 hhl
    obtain ⟨ROW, hROW⟩ : ∃ ROW, ROW = ((heapR heap).map (Value.int .i64)).toArray := ⟨_, rfl⟩
    have HGG : ∀ x y, (((w.alloc x).alloc (.cells (madeCells #[.int .i64 0] 32) 2)).alloc y).heap[w.heap.size + 1]? = some (.cells (madeCells #[.int .i64 0] 32) 2 (0, 0)) := fun x y => by
      have h1 := heap_new (w.alloc x) (.cells (madeCells #[.int .i64 0] 32) 2)
      rw [World.size_alloc] at h1
      exact ((balloc (Below.refl _ ((w.alloc x).alloc (.cells (madeCells #[.int .i64 0] 32) 2))) y).block _ (by simp)).trans h1
    have hcp : ∀ x y, Sem.run Tryd.prog (Builtin.copy_ #[38, 38] 3 #[.slice (some ⟨w.heap.size + 1, 0, none⟩) 32 32, .slice (some ⟨b, o, none⟩) nh chh]) (((w.alloc x).alloc (.cells (madeCells #[.int .i64 0] 32) 2)).alloc y) = .ok (goInt nh) ((((w.alloc x).alloc (.cells (madeCells #[.int .i64 0] 32) 2)).alloc y).setRow (w.heap.size + 1) ROW) := fun x y => by
      have hg := HGG x y
      have h := run_copy_row (P := Tryd.prog) (((w.alloc x).alloc (.cells (madeCells #[.int .i64 0] 32) 2)).alloc y) 38 38 3 2 (w.heap.size + 1) 0 32 32 ⟨b, o, none⟩ nh chh (madeCells #[.int .i64 0] 32) 2 (heap.map (Value.int .i64)) Tryd.underlying38 Tryd.size2 hg (by rw [List.length_map, ← hnh.out]; exact (Nat.min_eq_left h32).symm) ?_ ?_ ?_
      · rw [h, hROW, heapR_row heap (by have := hnh.out; omega)]
        congr 2
        · rw [List.length_map, ← hnh.out]
        · congr 1
          simp only [List.take_zero, List.nil_append, Nat.zero_add, List.length_map]
          rw [made32]
      · intro j v hj
        have hjl : j < heap.length := by have := (List.getElem?_eq_some_iff.1 hj).1; simpa using this
        rw [List.getElem?_map, List.getElem?_eq_getElem hjl] at hj
        injection hj with hj
        subst hj
        obtain ⟨b', o', e, ⟨_, hb'⟩, hc⟩ := hheap.out j hjl
        injection e with e
        injection e with e1 e2
        subst e1 e2
        rw [show (⟨b, o, none⟩ : Addr).add j = ⟨b, o + j, none⟩ from by unfold Addr.add; split <;> simp_all]
        exact ((hbb x _ y).cell (p := ⟨b, o + j, none⟩) (by show b < _; omega)).trans hc
      · rw [List.length_map, size_madeCells]; have := hnh.out; simp; omega
      · intro v hv
        obtain ⟨y, _, rfl⟩ := List.mem_map.1 hv
        rfl
    have HROW := hide hROW
    clear hROW
    go_enter Tryd.func51, Tryd.ntmps51
    go_upto_region 3 with fail
    refine letterN (P := Code.wp _ _ _ _) _ ?_
    intro W hW
    have k2 : W.heap[w.heap.size + 1 + 1]? = some (.cells #[.slice aa na ca, .slice (some ⟨w.heap.size + 1, 0, none⟩) 32 32, .slice none 0 0, .int .i64 fuel, .int .i64 0, .int .i64 0] 77 (0, 0)) := by
      rw [hW]
      refine (setRow_other _ _ _ _ (by omega)).trans ?_
      have h1 := heap_new ((w.alloc (.cells #[.slice none 0 0, .slice none 0 0, .slice none 0 0, .int .i64 0, .int .i64 0, .int .i64 0] 77)).alloc (.cells (madeCells #[.int .i64 0] 32) 2)) (.cells #[.slice aa na ca, .slice (some ⟨w.heap.size + 1, 0, none⟩) 32 32, .slice none 0 0, .int .i64 fuel, .int .i64 0, .int .i64 0] 77)
      simp only [World.size_alloc] at h1
      exact h1
    have k0 : W.heap[w.heap.size]? = some (.cells #[.slice none 0 0, .slice none 0 0, .slice none 0 0, .int .i64 0, .int .i64 0, .int .i64 0] 77 (0, 0)) := by
      rw [hW]
      refine (setRow_other _ _ _ _ (by omega)).trans ?_
      exact ((balloc (balloc (Below.refl _ (w.alloc (.cells #[.slice none 0 0, .slice none 0 0, .slice none 0 0, .int .i64 0, .int .i64 0, .int .i64 0] 77))) _) _).block _ (by simp)).trans (heap_new w _)
    have hbw : Below w.heap.size w W := by rw [hW]; exact below_setRow (hbb _ _ _) (by omega) _
    have hiw : IntsW W (w.heap.size + 1) (heapR heap) := by
      have e : W.heap[w.heap.size + 1]? = some (.cells ROW 2 (0, 0)) := by
        rw [hW]
        refine setRow_heap _ _ _ _ _ _ (HGG _ _)
      refine ⟨⟨ROW, _, e⟩, fun i hi => ?_⟩
      simp only [World.cell?, e]
      rw [HROW.out]
      simp [hi]
    have hsz : W.heap.size = w.heap.size + 1 + 1 + 1 := by rw [hW]; simp
    have q0 : W.cell? ⟨w.heap.size + 1 + 1, 0, none⟩ = some (.slice aa na ca) := by simp [World.cell?, k2]
    have q1 : W.cell? ⟨w.heap.size + 1 + 1, 1, none⟩ = some (.slice (some ⟨w.heap.size + 1, 0, none⟩) 32 32) := by simp [World.cell?, k2]
    have q2 : W.cell? ⟨w.heap.size + 1 + 1, 2, none⟩ = some (.slice none 0 0) := by simp [World.cell?, k2]
    have q3 : W.cell? ⟨w.heap.size + 1 + 1, 3, none⟩ = some (.int .i64 fuel) := by simp [World.cell?, k2]
    have q4 : W.cell? ⟨w.heap.size + 1 + 1, 4, none⟩ = some (.int .i64 0) := by simp [World.cell?, k2]
    have q5 : W.cell? ⟨w.heap.size + 1 + 1, 5, none⟩ = some (.int .i64 0) := by simp [World.cell?, k2]
    have r0 : W.cell? ⟨w.heap.size, 0, none⟩ = some (.slice none 0 0) := by simp [World.cell?, k0]
    have r1 : W.cell? ⟨w.heap.size, 1, none⟩ = some (.slice none 0 0) := by simp [World.cell?, k0]
    have r2 : W.cell? ⟨w.heap.size, 2, none⟩ = some (.slice none 0 0) := by simp [World.cell?, k0]
    have r3 : W.cell? ⟨w.heap.size, 3, none⟩ = some (.int .i64 0) := by simp [World.cell?, k0]
    have r4 : W.cell? ⟨w.heap.size, 4, none⟩ = some (.int .i64 0) := by simp [World.cell?, k0]
    have r5 : W.cell? ⟨w.heap.size, 5, none⟩ = some (.int .i64 0) := by simp [World.cell?, k0]
    have rz : ∀ o, W.frozen? ⟨w.heap.size, o, none⟩ = false := fun o => by simp [World.frozen?, k0]
    clear hW hcp hmk k0 k2 HGG
    have HBW := hide hbw
    have HIW := hide hiw
    clear hbw hiw
    go_wp2
    refine bodyPost_ret (v := .agg #[.slice aa na ca, .slice (some ⟨w.heap.size + 1, 0, none⟩) 32 32, .slice none 0 0, .int .i64 fuel, .int .i64 0, .int .i64 0]) (by simp [results, Tryd.results51, go_sem, r0, r1, r2, r3, r4, r5]) rfl ⟨w.heap.size + 1, 32, rfl, set6 HBW.out (Nat.le_refl _) _ _ _ _ _ _, by omega, HIW.out.keep ?_⟩
    rw [Below.heap_setCell _ _ _ _ (by show w.heap.size + 1 ≠ w.heap.size; omega), Below.heap_setCell _ _ _ _ (by show w.heap.size + 1 ≠ w.heap.size; omega), Below.heap_setCell _ _ _ _ (by show w.heap.size + 1 ≠ w.heap.size; omega), Below.heap_setCell _ _ _ _ (by show w.heap.size + 1 ≠ w.heap.size; omega), Below.heap_setCell _ _ _ _ (by show w.heap.size + 1 ≠ w.heap.size; omega), Below.heap_setCell _ _ _ _ (by show w.heap.size + 1 ≠ w.heap.size; omega)]
end Go.Proofs.YteifkldaoddpdaaDoor

namespace Go.Proofs.YteifkldaoddpdaaDoor
open Go.RowKit

/-- A run's variable as it is made: eleven cells. -/
structure Box11 (W : World) (R : Nat) (aa : Option Addr) (na ca gh ch : Nat) (fuel : Int) (gv m : Nat) : Prop where
  c0 : W.cell? ⟨R, 0, none⟩ = some (.slice aa na ca)
  c1 : W.cell? ⟨R, 1, none⟩ = some (.slice (some ⟨gh, 0, none⟩) 32 ch)
  c2 : W.cell? ⟨R, 2, none⟩ = some (.slice none 0 0)
  c3 : W.cell? ⟨R, 3, none⟩ = some (.int .i64 fuel)
  c4 : W.cell? ⟨R, 4, none⟩ = some (.int .i64 0)
  c5 : W.cell? ⟨R, 5, none⟩ = some (.int .i64 0)
  c6 : W.cell? ⟨R, 6, none⟩ = some (.slice (some ⟨gv, 0, none⟩) m m)
  c7 : W.cell? ⟨R, 7, none⟩ = some (.slice none 0 0)
  c8 : W.cell? ⟨R, 8, none⟩ = some (.int .i64 0)
  c9 : W.cell? ⟨R, 9, none⟩ = some (.int .i64 0)
  c10 : W.cell? ⟨R, 10, none⟩ = some (.slice none 0 0)
  fz : ∀ o, W.frozen? ⟨R, o, none⟩ = false
/-- What is there when a run's variable is made. -/
structure Init (w W : World) (m : Nat) (a : Option Addr) (n c : Nat) (aa : Option Addr) (na ca : Nat) (fuel : Int) (R gv gh ch : Nat) (heap : List Int) : Prop where
  below : Below w.heap.size w W
  fb : FB W w.heap.size m a n c
  rb : RB W (w.heap.size + 1)
  box : Box11 W R aa na ca gh ch fuel gv m
  vals : IntsW W gv (List.replicate m 0)
  heap : IntsW W gh (heapR heap)
  lo : w.heap.size + 1 < R ∧ w.heap.size + 1 < gv ∧ w.heap.size + 1 < gh
  ne : R ≠ gv ∧ R ≠ gh ∧ gv ≠ gh
  lt : R < W.heap.size

theorem boxOf {W : World} {R : Nat} {aa : Option Addr} {na ca gh ch : Nat} {fuel : Int} {gv m t : Nat} (h : W.heap[R]? = some (.cells #[.slice aa na ca, .slice (some ⟨gh, 0, none⟩) 32 ch, .slice none 0 0, .int .i64 fuel, .int .i64 0, .int .i64 0, .slice (some ⟨gv, 0, none⟩) m m, .slice none 0 0, .int .i64 0, .int .i64 0, .slice none 0 0] t (0, 0))) : Box11 W R aa na ca gh ch fuel gv m := by
  constructor
  all_goals first | (intro o; simp [World.frozen?, h]) | simp [World.cell?, h]
theorem valsOf {W : World} {gv m t : Nat} (h : W.heap[gv]? = some (.cells (madeCells #[.int .i64 0] m) t (0, 0))) : IntsW W gv (List.replicate m 0) := by
  refine ⟨⟨_, _, h⟩, fun i hi => ?_⟩
  have hi' : i < m := by simpa using hi
  simp only [World.cell?, h]
  simp [madeCells, hi', Nat.mod_one]
def Z11 : Array Value := #[.slice none 0 0, .slice none 0 0, .slice none 0 0, .int .i64 0, .int .i64 0, .int .i64 0, .slice none 0 0, .slice none 0 0, .int .i64 0, .int .i64 0, .slice none 0 0]
def set11 (W : World) (R : Nat) (v0 v1 v2 v3 v4 v5 v6 v7 v8 v9 v10 : Value) : World := ((((((((((W.setCell ⟨R, 0, none⟩ v0).setCell ⟨R, 1, none⟩ v1).setCell ⟨R, 2, none⟩ v2).setCell ⟨R, 3, none⟩ v3).setCell ⟨R, 4, none⟩ v4).setCell ⟨R, 5, none⟩ v5).setCell ⟨R, 6, none⟩ v6).setCell ⟨R, 7, none⟩ v7).setCell ⟨R, 8, none⟩ v8).setCell ⟨R, 9, none⟩ v9).setCell ⟨R, 10, none⟩ v10
theorem set11_at {W : World} {R t : Nat} (h : W.heap[R]? = some (.cells Z11 t (0, 0))) (v0 v1 v2 v3 v4 v5 v6 v7 v8 v9 v10 : Value) : (set11 W R v0 v1 v2 v3 v4 v5 v6 v7 v8 v9 v10).heap[R]? = some (.cells #[v0, v1, v2, v3, v4, v5, v6, v7, v8, v9, v10] t (0, 0)) := by
  have one : ∀ (U : World) (cs : Array Value) (i : Nat) (v : Value), U.heap[R]? = some (.cells cs t (0, 0)) → (U.setCell ⟨R, i, none⟩ v).heap[R]? = some (.cells (cs.setIfInBounds i v) t (0, 0)) := fun U cs i v hU => by
    simp only [World.setCell, Array.getElem?_modify, hU]
    simp
  unfold set11
  rw [one _ _ _ _ (one _ _ _ _ (one _ _ _ _ (one _ _ _ _ (one _ _ _ _ (one _ _ _ _ (one _ _ _ _ (one _ _ _ _ (one _ _ _ _ (one _ _ _ _ (one _ _ _ _ h))))))))))]
  simp [Z11]
theorem set11_far {W : World} {R b : Nat} (hb : b ≠ R) (v0 v1 v2 v3 v4 v5 v6 v7 v8 v9 v10 : Value) : (set11 W R v0 v1 v2 v3 v4 v5 v6 v7 v8 v9 v10).heap[b]? = W.heap[b]? := by
  unfold set11
  rw [Below.heap_setCell _ _ _ _ hb, Below.heap_setCell _ _ _ _ hb, Below.heap_setCell _ _ _ _ hb, Below.heap_setCell _ _ _ _ hb, Below.heap_setCell _ _ _ _ hb, Below.heap_setCell _ _ _ _ hb, Below.heap_setCell _ _ _ _ hb, Below.heap_setCell _ _ _ _ hb, Below.heap_setCell _ _ _ _ hb, Below.heap_setCell _ _ _ _ hb, Below.heap_setCell _ _ _ _ hb]
theorem set11_size (W : World) (R : Nat) (v0 v1 v2 v3 v4 v5 v6 v7 v8 v9 v10 : Value) : (set11 W R v0 v1 v2 v3 v4 v5 v6 v7 v8 v9 v10).heap.size = W.heap.size := by unfold set11; simp
theorem set11_below {B : Nat} {w W : World} (h : Below B w W) {R : Nat} (hR : B ≤ R) (v0 v1 v2 v3 v4 v5 v6 v7 v8 v9 v10 : Value) : Below B w (set11 W R v0 v1 v2 v3 v4 v5 v6 v7 v8 v9 v10) := by
  unfold set11
  exact ((((((((((h.setCell hR _).setCell hR _).setCell hR _).setCell hR _).setCell hR _).setCell hR _).setCell hR _).setCell hR _).setCell hR _).setCell hR _).setCell hR _
/-- Init, out of a few facts. -/
theorem Init.mk' {w w2 W : World} {m : Nat} {a : Option Addr} {n c : Nat} {aa : Option Addr} {na ca : Nat} {fuel : Int} {R gv gh ch : Nat} {heap : List Int} {t u : Nat} (h1 : Below w.heap.size w w2) (hf : FB w2 w.heap.size m a n c) (hr : RB w2 (w.heap.size + 1)) (hs : w.heap.size + 1 < w2.heap.size) (h2 : Below w2.heap.size w2 W)
    (hb : W.heap[R]? = some (.cells #[.slice aa na ca, .slice (some ⟨gh, 0, none⟩) 32 ch, .slice none 0 0, .int .i64 fuel, .int .i64 0, .int .i64 0, .slice (some ⟨gv, 0, none⟩) m m, .slice none 0 0, .int .i64 0, .int .i64 0, .slice none 0 0] t (0, 0))) (hv : W.heap[gv]? = some (.cells (madeCells #[.int .i64 0] m) u (0, 0))) (hh : IntsW W gh (heapR heap))
    (l1 : w2.heap.size ≤ R) (l2 : w2.heap.size ≤ gv) (l3 : w2.heap.size ≤ gh) (n1 : R ≠ gv) (n2 : R ≠ gh) (n3 : gv ≠ gh) : Init w W m a n c aa na ca fuel R gv gh ch heap :=
  ⟨h1.trans (h2.mono (by omega)), hf.keep (h2.block _ (by omega)), hr.keep (h2.block _ hs), boxOf hb, valsOf hv, hh, by omega, ⟨n1, n2, n3⟩, (Array.getElem?_eq_some_iff.1 hb).1⟩
end Go.Proofs.YteifkldaoddpdaaDoor
