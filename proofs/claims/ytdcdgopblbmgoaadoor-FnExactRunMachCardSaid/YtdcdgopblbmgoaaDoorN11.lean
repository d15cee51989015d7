import Derived.Test.YtdcdgopblbmgoaaDoorN4
import Derived.Test.YtdcdgopblbmgoaaDoorN6
import Derived.Laws.CopyOwn
import Derived.Deep.Cut
namespace Go.Proofs.YtdcdgopblbmgoaaDoor
open Go.RowKit

theorem Tryd.size2 : (Tryd.prog.info? 2).map (·.size) = some 1 := by kernel_rfl

theorem heapN_row (heap : List Int) (n : Nat) (h : heap.length ≤ n) : ((List.range n).map fun i => heap.getD i 0).map (Value.int .i64) = heap.map (Value.int .i64) ++ (List.replicate n (Value.int .i64 0)).drop heap.length := by
  apply List.ext_getElem?
  intro i
  by_cases hi : i < n
  · by_cases h2 : i < heap.length
    · rw [List.getElem?_append_left (by simpa using h2)]
      simp [hi, h2]
    · rw [List.getElem?_append_right (by simp; omega), List.length_map, List.getElem?_drop, show heap.length + (i - heap.length) = i by omega]
      simp [hi, h2]
  · rw [List.getElem?_eq_none (by simp; omega), List.getElem?_eq_none (by simp; omega)]
theorem heapR_row (heap : List Int) (h : heap.length ≤ 32) : (heapR heap).map (Value.int .i64) = heap.map (Value.int .i64) ++ (List.replicate 32 (Value.int .i64 0)).drop heap.length := heapN_row heap 32 h
theorem made32 : (madeCells #[Value.int .i64 0] 32).toList = List.replicate 32 (Value.int .i64 0) := by kernel_rfl
theorem letterN {P : World → Prop} (W0 : World) (h : ∀ W, W = W0 → P W) : P W0 := h W0 rfl
theorem valsOf {W : World} {gv m t : Nat} (h : W.heap[gv]? = some (.cells (madeCells #[.int .i64 0] m) t (0, 0))) : IntsW W gv (List.replicate m 0) := by
  refine ⟨⟨_, _, h⟩, fun i hi => ?_⟩
  have hi' : i < m := by simpa using hi
  simp only [World.cell?, h]
  simp [madeCells, hi', Nat.mod_one]
def Z11 : Array Value := #[.slice none 0 0, .slice none 0 0, .slice none 0 0, .int .i64 0, .int .i64 0, .int .i64 0, .slice none 0 0, .slice none 0 0, .int .i64 0, .int .i64 0, .slice none 0 0]
def V11 (aa : Option Addr) (na ca gh : Nat) (fuel : Int) (gv m : Nat) : Array Value := #[.slice aa na ca, .slice (some ⟨gh, 0, none⟩) 32 32, .slice none 0 0, .int .i64 fuel, .int .i64 0, .int .i64 0, .slice (some ⟨gv, 0, none⟩) m m, .slice none 0 0, .int .i64 0, .int .i64 0, .slice none 0 0]
def set11 (W : World) (R : Nat) (v0 v1 v2 v3 v4 v5 v6 v7 v8 v9 v10 : Value) : World := ((((((((((W.setCell ⟨R, 0, none⟩ v0).setCell ⟨R, 1, none⟩ v1).setCell ⟨R, 2, none⟩ v2).setCell ⟨R, 3, none⟩ v3).setCell ⟨R, 4, none⟩ v4).setCell ⟨R, 5, none⟩ v5).setCell ⟨R, 6, none⟩ v6).setCell ⟨R, 7, none⟩ v7).setCell ⟨R, 8, none⟩ v8).setCell ⟨R, 9, none⟩ v9).setCell ⟨R, 10, none⟩ v10
theorem set_at {U : World} {R t : Nat} (cs : Array Value) (i : Nat) (v : Value) (hU : U.heap[R]? = some (.cells cs t (0, 0))) : (U.setCell ⟨R, i, none⟩ v).heap[R]? = some (.cells (cs.setIfInBounds i v) t (0, 0)) := by
  simp only [World.setCell, Array.getElem?_modify, hU]
  simp
theorem set11_at {W : World} {R t : Nat} (h : W.heap[R]? = some (.cells Z11 t (0, 0))) (v0 v1 v2 v3 v4 v5 v6 v7 v8 v9 v10 : Value) : (set11 W R v0 v1 v2 v3 v4 v5 v6 v7 v8 v9 v10).heap[R]? = some (.cells #[v0, v1, v2, v3, v4, v5, v6, v7, v8, v9, v10] t (0, 0)) := by
  unfold set11
  rw [set_at _ _ _ (set_at _ _ _ (set_at _ _ _ (set_at _ _ _ (set_at _ _ _ (set_at _ _ _ (set_at _ _ _ (set_at _ _ _ (set_at _ _ _ (set_at _ _ _ (set_at _ _ _ h))))))))))]
  simp [Z11]
theorem set11_far {W : World} {R b : Nat} (hb : b ≠ R) (v0 v1 v2 v3 v4 v5 v6 v7 v8 v9 v10 : Value) : (set11 W R v0 v1 v2 v3 v4 v5 v6 v7 v8 v9 v10).heap[b]? = W.heap[b]? := by
  unfold set11
  rw [Below.heap_setCell _ _ _ _ hb, Below.heap_setCell _ _ _ _ hb, Below.heap_setCell _ _ _ _ hb, Below.heap_setCell _ _ _ _ hb, Below.heap_setCell _ _ _ _ hb, Below.heap_setCell _ _ _ _ hb, Below.heap_setCell _ _ _ _ hb, Below.heap_setCell _ _ _ _ hb, Below.heap_setCell _ _ _ _ hb, Below.heap_setCell _ _ _ _ hb, Below.heap_setCell _ _ _ _ hb]
theorem set11_below {B : Nat} {w W : World} (h : Below B w W) {R : Nat} (hR : B ≤ R) (v0 v1 v2 v3 v4 v5 v6 v7 v8 v9 v10 : Value) : Below B w (set11 W R v0 v1 v2 v3 v4 v5 v6 v7 v8 v9 v10) := by
  unfold set11
  exact ((((((((((h.setCell hR _).setCell hR _).setCell hR _).setCell hR _).setCell hR _).setCell hR _).setCell hR _).setCell hR _).setCell hR _).setCell hR _).setCell hR _
theorem al4 (w : World) (a b c d : Obj) : ((((w.alloc a).alloc b).alloc c).alloc d).drew.heap[w.heap.size]? = some a ∧ ((((w.alloc a).alloc b).alloc c).alloc d).drew.heap[w.heap.size + 1]? = some b ∧ ((((w.alloc a).alloc b).alloc c).alloc d).drew.heap[w.heap.size + 1 + 1]? = some c ∧ ((((w.alloc a).alloc b).alloc c).alloc d).drew.heap[w.heap.size + 1 + 1 + 1]? = some d ∧ Below w.heap.size w ((((w.alloc a).alloc b).alloc c).alloc d).drew := by
  have h0 := heap_new w a
  have h1 := heap_new (w.alloc a) b
  have h2 := heap_new ((w.alloc a).alloc b) c
  have h3 := heap_new (((w.alloc a).alloc b).alloc c) d
  have k1 := (balloc (Below.refl _ (w.alloc a)) b).block w.heap.size (by simp)
  have k2 := (balloc (Below.refl _ ((w.alloc a).alloc b)) c)
  have k3 := (balloc (Below.refl _ (((w.alloc a).alloc b).alloc c)) d)
  have e1 : (w.alloc a).heap.size = w.heap.size + 1 := by simp
  have e2 : ((w.alloc a).alloc b).heap.size = w.heap.size + 1 + 1 := by simp
  have e3 : (((w.alloc a).alloc b).alloc c).heap.size = w.heap.size + 1 + 1 + 1 := by simp
  rw [e1] at h1
  rw [e2] at h2
  rw [e3] at h3
  exact ⟨(k3.block _ (by omega)).trans ((k2.block _ (by omega)).trans (k1.trans h0)), (k3.block _ (by omega)).trans ((k2.block _ (by omega)).trans h1), (k3.block _ (by omega)).trans h2, h3, (balloc (balloc (balloc (balloc (Below.refl _ _) _) _) _) _).drew⟩

/-- The builtin copy of the given heap into the run's. -/
theorem copy_heap (hA : Option Addr) (nh chh : Nat) (heap : List Int) (L B gh : Nat) (W : World) (hG : W.heap[gh]? = some (.cells (madeCells #[.int .i64 0] 32) 2 (0, 0))) (hheap : IntsAt W L B hA heap) (hnh : nh = heap.length) (h32 : nh ≤ 32) :
    ∃ W', Sem.run Tryd.prog (Builtin.copy_ #[38, 38] 3 #[.slice (some ⟨gh, 0, none⟩) 32 32, .slice hA nh chh]) W = .ok (goInt nh) W' ∧ (∀ b, b ≠ gh → W'.heap[b]? = W.heap[b]?) ∧ (∀ b w0, b ≤ gh → Below b w0 W → Below b w0 W') ∧ IntsW W' gh (heapR heap) := by
  by_cases h0 : nh = 0
  · subst h0
    have he : heap = [] := List.eq_nil_of_length_eq_zero hnh.symm
    subst he
    refine ⟨W, run_copy_none W _ _ _ _ _ _ _ _ _ _ Tryd.underlying38 Tryd.size2 rfl, fun _ _ => rfl, fun _ _ _ h => h, ?_⟩
    have h := valsOf hG
    have e : List.replicate 32 (0 : Int) = heapR [] := by decide
    rw [e] at h
    exact h
  · have hhl : 0 < heap.length := by omega
    obtain ⟨b, o, rfl, ⟨_, hb⟩, -⟩ := hheap 0 hhl
    have h := run_copy_row (P := Tryd.prog) W 38 38 3 2 gh 0 32 32 ⟨b, o, none⟩ nh chh (madeCells #[.int .i64 0] 32) 2 (heap.map (Value.int .i64)) Tryd.underlying38 Tryd.size2 hG (by rw [List.length_map, ← hnh]; exact (Nat.min_eq_left h32).symm) ?_ ?_ ?_
    · rw [List.length_map, ← hnh] at h
      refine ⟨_, h, fun q hq => setRow_other _ _ _ _ hq, fun q w0 hq hbl => below_setRow hbl hq _, ⟨_, _, setRow_heap _ _ _ _ _ _ hG⟩, fun i hi => ?_⟩
      rw [cell_setRow_same _ _ _ _ _ _ _ hG, made32]
      simp only [List.take_zero, List.nil_append, Nat.zero_add]
      rw [hnh, ← heapR_row heap (by omega)]
      simp [hi]
    · intro j v hj
      have hjl : j < heap.length := by have := (List.getElem?_eq_some_iff.1 hj).1; simpa using this
      rw [List.getElem?_map, List.getElem?_eq_getElem hjl] at hj
      injection hj with hj
      subst hj
      obtain ⟨b', o', e, ⟨_, hb'⟩, hc⟩ := hheap j hjl
      injection e with e
      injection e with e1 e2
      subst e1 e2
      rw [show (⟨b, o, none⟩ : Addr).add j = ⟨b, o + j, none⟩ from by unfold Addr.add; split <;> simp_all]
      exact hc
    · rw [List.length_map, size_madeCells]; simp; omega
    · intro v hv
      obtain ⟨y, _, rfl⟩ := List.mem_map.1 hv
      rfl

set_option maxHeartbeats 2000000 in
set_option maxRecDepth 100000 in
theorem newRun_any (aa : Option Addr) (na ca : Nat) (hA : Option Addr) (nh chh : Nat) (fuel : Int) (m : Nat) (heap : List Int) (L B : Nat) (w : World)
    (hheap : Hid (IntsAt w L B hA heap)) (hnh : Hid (nh = heap.length)) (h32 : nh ≤ 32) (hm : m ≤ 3000) (hB : B ≤ w.heap.size) :
    Calls Tryd.prog 73 #[.slice aa na ca, .slice hA nh chh, .int .i64 fuel, .int .i64 m] w
      fun e w' => ∃ gh gv, e = .returned (.agg #[.slice aa na ca, .slice (some ⟨gh, 0, none⟩) 32 32, .slice none 0 0, .int .i64 fuel, .int .i64 0, .int .i64 0, .slice (some ⟨gv, 0, none⟩) m m, .slice none 0 0, .int .i64 0, .int .i64 0, .slice none 0 0]) ∧ Below w.heap.size w w' ∧ w.heap.size ≤ gh ∧ w.heap.size ≤ gv ∧ gh ≠ gv ∧ IntsW w' gh (heapR heap) ∧ IntsW w' gv (List.replicate m 0) := by
  have hmk := run_make_row' (P := Tryd.prog) 38 2 (.int .i64 0) 8 Tryd.underlying38 Tryd.info2 rfl .i64 .i64 32 (by omega) (by omega)
  rw [show ((32 : Nat) : Int) = 32 from rfl] at hmk
  have hmk2 := run_make_row' (P := Tryd.prog) 38 2 (.int .i64 0) 8 Tryd.underlying38 Tryd.info2 rfl .i64 .i64 m (by omega) (by omega)
  go_enter Tryd.func73, Tryd.ntmps73
  go_wp2
  refine wp_region_held_drew (S := (fun _ => True)) (by kernel_rfl) trivial (fun hHeld => ?_)
  refine wpAnyH_take (i := 0) (v := ?_) rfl (by kernel_rfl) (by kernel_rfl) (by kernel_rfl) (fun _ _ _ h => h) (Or.inl ⟨by rfl, ?_⟩) (by assumption) ?_
  rotate_left
  · intro w hSw; (try dsimp only at hSw); go_simp; try with_reducible rfl
  simp only [Act.put, List.getElem_toArray, List.getElem_cons_zero, List.setIfInBounds_toArray, List.set_cons_zero, List.set_cons_succ]
  refine wpAnyH_take (i := 2) (v := ?_) rfl (by kernel_rfl) (by kernel_rfl) (by kernel_rfl) (fun _ _ _ h => h) (Or.inl ⟨by rfl, ?_⟩) (by assumption) ?_
  rotate_left
  · intro w hSw; (try dsimp only at hSw); go_simp; try with_reducible rfl
  simp only [Act.put, List.getElem_toArray, List.getElem_cons_zero, List.getElem_cons_succ, List.setIfInBounds_toArray, List.set_cons_zero, List.set_cons_succ]
  refine wpAnyH_take (i := 3) (v := ?_) rfl (by kernel_rfl) (by kernel_rfl) (by kernel_rfl) (fun _ _ _ h => h) (Or.inl ⟨by rfl, ?_⟩) (by assumption) ?_
  rotate_left
  · intro w hSw; (try dsimp only at hSw); go_simp; try with_reducible rfl
  simp only [Act.put, List.getElem_toArray, List.getElem_cons_zero, List.getElem_cons_succ, List.setIfInBounds_toArray, List.set_cons_zero, List.set_cons_succ]
  refine wpAnyH_ready (rs := [1, 4, 6]) (by kernel_rfl) (by simp) ?_
  refine (AllReadyH.cons rfl (fun K hK => ?_) (AllReadyH.cons rfl (fun K hK => ?_) (AllReadyH.cons rfl (fun K hK => ?_) AllReadyH.nil)))
  · skip
    go_simp
    refine hK.out _ _ (by first | with_reducible exact hHeld | ((try dsimp only); go_keep)) (fun hHeld => ?_)
    clear hK
    try simp only [Act.put, List.getElem_toArray, List.getElem_cons_zero, List.getElem_cons_succ, List.setIfInBounds_toArray, List.set_cons_zero, List.set_cons_succ]
    refine wpAnyH_ready (rs := [4, 6]) (by kernel_rfl) (by simp) ?_
    refine (AllReadyH.cons rfl (fun K hK => ?_) (AllReadyH.cons rfl (fun K hK => ?_) AllReadyH.nil))
    · skip
      go_simp
      refine hK.out _ _ (by first | with_reducible exact hHeld | ((try dsimp only); go_keep)) (fun hHeld => ?_)
      clear hK
      try simp only [Act.put, List.getElem_toArray, List.getElem_cons_zero, List.getElem_cons_succ, List.setIfInBounds_toArray, List.set_cons_zero, List.set_cons_succ]
      refine wpAnyH_take (i := 5) (v := ?_) rfl (by kernel_rfl) (by kernel_rfl) (by kernel_rfl) (fun _ _ _ h => h) (Or.inl ⟨by rfl, ?_⟩) (by assumption) ?_
      rotate_left
      · intro w hSw; (try dsimp only at hSw); go_simp; try with_reducible rfl
      simp only [Act.put, List.getElem_toArray, List.getElem_cons_zero, List.getElem_cons_succ, List.setIfInBounds_toArray, List.set_cons_zero, List.set_cons_succ]
      refine wpAnyH_ready (rs := [6]) (by kernel_rfl) (by simp) ?_
      refine AllReadyH.cons rfl (fun K hK => ?_) AllReadyH.nil
      go_simp
      refine hK.out _ _ (by first | with_reducible exact hHeld | ((try dsimp only); go_keep)) (fun hHeld => ?_)
      clear hK
      try simp only [Act.put, List.getElem_toArray, List.getElem_cons_zero, List.getElem_cons_succ, List.setIfInBounds_toArray, List.set_cons_zero, List.set_cons_succ]
      refine wpAnyH_ready (rs := [7]) (by kernel_rfl) (by simp) ?_
      refine AllReadyH.cons rfl (fun K hK => ?_) AllReadyH.nil
      go_simp
      refine hK.out _ _ (by first | with_reducible exact hHeld | ((try dsimp only); go_keep)) (fun hHeld => ?_)
      clear hK
      try simp only [Act.put, List.getElem_toArray, List.getElem_cons_zero, List.getElem_cons_succ, List.setIfInBounds_toArray, List.set_cons_zero, List.set_cons_succ]
      refine wpAnyH_done (by kernel_rfl) ?_ _
      go_upto_region 2 with fail
      refine letterN (P := Code.wp _ _ _ _) _ ?_
      intro W hW
      have k8 : W.heap[w.heap.size]? = some (.cells Z11 102 (0, 0)) := by rw [hW]; exact (al4 w _ _ _ _).1
      have kR : W.heap[w.heap.size + 1 + 1 + 1]? = some (.cells #[.slice aa na ca, .slice (some ⟨w.heap.size + 1, 0, none⟩) 32 32, .slice none 0 0, .int .i64 fuel, .int .i64 0, .int .i64 0, .slice (some ⟨w.heap.size + 1 + 1, 0, none⟩) m m, .slice none 0 0, .int .i64 0, .int .i64 0, .slice none 0 0] 102 (0, 0)) := by rw [hW]; exact (al4 w _ _ _ _).2.2.2.1
      have kh : W.heap[w.heap.size + 1]? = some (.cells (madeCells #[.int .i64 0] 32) 2 (0, 0)) := (by rw [hW]; exact (al4 w _ _ _ _).2.1)
      have kv : W.heap[w.heap.size + 1 + 1]? = some (.cells (madeCells #[.int .i64 0] m) 2 (0, 0)) := (by rw [hW]; exact (al4 w _ _ _ _).2.2.1)
      have hbw : Below w.heap.size w W := by rw [hW]; exact (al4 w _ _ _ _).2.2.2.2
      clear hW hHeld hmk hmk2
      obtain ⟨W', hcp, hfar, hbel, hiw⟩ := copy_heap hA nh chh heap L B (w.heap.size + 1) W kh (hheap.out.keep (hbw.mono hB)) hnh.out h32
      have HB := hide (hbel _ _ (by omega) hbw)
      have HI := hide hiw
      have HV := hide ((valsOf kv).keep (hfar _ (by omega)))
      have kR' := (hfar (w.heap.size + 1 + 1 + 1) (by omega)).trans kR
      have k8' := (hfar w.heap.size (by omega)).trans k8
      have q1 : W.cell? ⟨w.heap.size + 1 + 1 + 1, 1, none⟩ = some (.slice (some ⟨w.heap.size + 1, 0, none⟩) 32 32) := by simp [World.cell?, kR]
      have p0 : W'.cell? ⟨w.heap.size + 1 + 1 + 1, 0, none⟩ = some (.slice aa na ca) := by simp [World.cell?, kR']
      have r0 : W'.cell? ⟨w.heap.size, 0, none⟩ = some (.slice none 0 0) := by simp [World.cell?, k8', Z11]
      have p1 : W'.cell? ⟨w.heap.size + 1 + 1 + 1, 1, none⟩ = some (.slice (some ⟨w.heap.size + 1, 0, none⟩) 32 32) := by simp [World.cell?, kR']
      have r1 : W'.cell? ⟨w.heap.size, 1, none⟩ = some (.slice none 0 0) := by simp [World.cell?, k8', Z11]
      have p2 : W'.cell? ⟨w.heap.size + 1 + 1 + 1, 2, none⟩ = some (.slice none 0 0) := by simp [World.cell?, kR']
      have r2 : W'.cell? ⟨w.heap.size, 2, none⟩ = some (.slice none 0 0) := by simp [World.cell?, k8', Z11]
      have p3 : W'.cell? ⟨w.heap.size + 1 + 1 + 1, 3, none⟩ = some (.int .i64 fuel) := by simp [World.cell?, kR']
      have r3 : W'.cell? ⟨w.heap.size, 3, none⟩ = some (.int .i64 0) := by simp [World.cell?, k8', Z11]
      have p4 : W'.cell? ⟨w.heap.size + 1 + 1 + 1, 4, none⟩ = some (.int .i64 0) := by simp [World.cell?, kR']
      have r4 : W'.cell? ⟨w.heap.size, 4, none⟩ = some (.int .i64 0) := by simp [World.cell?, k8', Z11]
      have p5 : W'.cell? ⟨w.heap.size + 1 + 1 + 1, 5, none⟩ = some (.int .i64 0) := by simp [World.cell?, kR']
      have r5 : W'.cell? ⟨w.heap.size, 5, none⟩ = some (.int .i64 0) := by simp [World.cell?, k8', Z11]
      have p6 : W'.cell? ⟨w.heap.size + 1 + 1 + 1, 6, none⟩ = some (.slice (some ⟨w.heap.size + 1 + 1, 0, none⟩) m m) := by simp [World.cell?, kR']
      have r6 : W'.cell? ⟨w.heap.size, 6, none⟩ = some (.slice none 0 0) := by simp [World.cell?, k8', Z11]
      have p7 : W'.cell? ⟨w.heap.size + 1 + 1 + 1, 7, none⟩ = some (.slice none 0 0) := by simp [World.cell?, kR']
      have r7 : W'.cell? ⟨w.heap.size, 7, none⟩ = some (.slice none 0 0) := by simp [World.cell?, k8', Z11]
      have p8 : W'.cell? ⟨w.heap.size + 1 + 1 + 1, 8, none⟩ = some (.int .i64 0) := by simp [World.cell?, kR']
      have r8 : W'.cell? ⟨w.heap.size, 8, none⟩ = some (.int .i64 0) := by simp [World.cell?, k8', Z11]
      have p9 : W'.cell? ⟨w.heap.size + 1 + 1 + 1, 9, none⟩ = some (.int .i64 0) := by simp [World.cell?, kR']
      have r9 : W'.cell? ⟨w.heap.size, 9, none⟩ = some (.int .i64 0) := by simp [World.cell?, k8', Z11]
      have p10 : W'.cell? ⟨w.heap.size + 1 + 1 + 1, 10, none⟩ = some (.slice none 0 0) := by simp [World.cell?, kR']
      have r10 : W'.cell? ⟨w.heap.size, 10, none⟩ = some (.slice none 0 0) := by simp [World.cell?, k8', Z11]
      have rz : ∀ o, W'.frozen? ⟨w.heap.size, o, none⟩ = false := fun o => by simp [World.frozen?, k8']
      clear hfar hbel hiw kR kR' k8 k8' kh kv hbw
      go_wp2
      refine bodyPost_ret (v := .agg #[.slice aa na ca, .slice (some ⟨w.heap.size + 1, 0, none⟩) 32 32, .slice none 0 0, .int .i64 fuel, .int .i64 0, .int .i64 0, .slice (some ⟨w.heap.size + 1 + 1, 0, none⟩) m m, .slice none 0 0, .int .i64 0, .int .i64 0, .slice none 0 0]) (by simp [results, Tryd.results73, go_sem, r0, r1, r2, r3, r4, r5, r6, r7, r8, r9, r10]) rfl ⟨w.heap.size + 1, w.heap.size + 1 + 1, rfl, set11_below HB.out (Nat.le_refl _) _ _ _ _ _ _ _ _ _ _ _, by omega, by omega, by omega, HI.out.keep (set11_far (by omega) _ _ _ _ _ _ _ _ _ _ _), HV.out.keep (set11_far (by omega) _ _ _ _ _ _ _ _ _ _ _)⟩
    · skip
      go_simp
      refine hK.out _ _ (by first | with_reducible exact hHeld | ((try dsimp only); go_keep)) (fun hHeld => ?_)
      clear hK
      try simp only [Act.put, List.getElem_toArray, List.getElem_cons_zero, List.getElem_cons_succ, List.setIfInBounds_toArray, List.set_cons_zero, List.set_cons_succ]
      refine wpAnyH_ready (rs := [4]) (by kernel_rfl) (by simp) ?_
      refine AllReadyH.cons rfl (fun K hK => ?_) AllReadyH.nil
      go_simp
      refine hK.out _ _ (by first | with_reducible exact hHeld | ((try dsimp only); go_keep)) (fun hHeld => ?_)
      clear hK
      try simp only [Act.put, List.getElem_toArray, List.getElem_cons_zero, List.getElem_cons_succ, List.setIfInBounds_toArray, List.set_cons_zero, List.set_cons_succ]
      refine wpAnyH_take (i := 5) (v := ?_) rfl (by kernel_rfl) (by kernel_rfl) (by kernel_rfl) (fun _ _ _ h => h) (Or.inl ⟨by rfl, ?_⟩) (by assumption) ?_
      rotate_left
      · intro w hSw; (try dsimp only at hSw); go_simp; try with_reducible rfl
      simp only [Act.put, List.getElem_toArray, List.getElem_cons_zero, List.getElem_cons_succ, List.setIfInBounds_toArray, List.set_cons_zero, List.set_cons_succ]
      refine wpAnyH_ready (rs := [7]) (by kernel_rfl) (by simp) ?_
      refine AllReadyH.cons rfl (fun K hK => ?_) AllReadyH.nil
      go_simp
      refine hK.out _ _ (by first | with_reducible exact hHeld | ((try dsimp only); go_keep)) (fun hHeld => ?_)
      clear hK
      try simp only [Act.put, List.getElem_toArray, List.getElem_cons_zero, List.getElem_cons_succ, List.setIfInBounds_toArray, List.set_cons_zero, List.set_cons_succ]
      refine wpAnyH_done (by kernel_rfl) ?_ _
      go_upto_region 2 with fail
      refine letterN (P := Code.wp _ _ _ _) _ ?_
      intro W hW
      have k8 : W.heap[w.heap.size]? = some (.cells Z11 102 (0, 0)) := by rw [hW]; exact (al4 w _ _ _ _).1
      have kR : W.heap[w.heap.size + 1 + 1]? = some (.cells #[.slice aa na ca, .slice (some ⟨w.heap.size + 1, 0, none⟩) 32 32, .slice none 0 0, .int .i64 fuel, .int .i64 0, .int .i64 0, .slice (some ⟨w.heap.size + 1 + 1 + 1, 0, none⟩) m m, .slice none 0 0, .int .i64 0, .int .i64 0, .slice none 0 0] 102 (0, 0)) := by rw [hW]; exact (al4 w _ _ _ _).2.2.1
      have kh : W.heap[w.heap.size + 1]? = some (.cells (madeCells #[.int .i64 0] 32) 2 (0, 0)) := (by rw [hW]; exact (al4 w _ _ _ _).2.1)
      have kv : W.heap[w.heap.size + 1 + 1 + 1]? = some (.cells (madeCells #[.int .i64 0] m) 2 (0, 0)) := (by rw [hW]; exact (al4 w _ _ _ _).2.2.2.1)
      have hbw : Below w.heap.size w W := by rw [hW]; exact (al4 w _ _ _ _).2.2.2.2
      clear hW hHeld hmk hmk2
      obtain ⟨W', hcp, hfar, hbel, hiw⟩ := copy_heap hA nh chh heap L B (w.heap.size + 1) W kh (hheap.out.keep (hbw.mono hB)) hnh.out h32
      have HB := hide (hbel _ _ (by omega) hbw)
      have HI := hide hiw
      have HV := hide ((valsOf kv).keep (hfar _ (by omega)))
      have kR' := (hfar (w.heap.size + 1 + 1) (by omega)).trans kR
      have k8' := (hfar w.heap.size (by omega)).trans k8
      have q1 : W.cell? ⟨w.heap.size + 1 + 1, 1, none⟩ = some (.slice (some ⟨w.heap.size + 1, 0, none⟩) 32 32) := by simp [World.cell?, kR]
      have p0 : W'.cell? ⟨w.heap.size + 1 + 1, 0, none⟩ = some (.slice aa na ca) := by simp [World.cell?, kR']
      have r0 : W'.cell? ⟨w.heap.size, 0, none⟩ = some (.slice none 0 0) := by simp [World.cell?, k8', Z11]
      have p1 : W'.cell? ⟨w.heap.size + 1 + 1, 1, none⟩ = some (.slice (some ⟨w.heap.size + 1, 0, none⟩) 32 32) := by simp [World.cell?, kR']
      have r1 : W'.cell? ⟨w.heap.size, 1, none⟩ = some (.slice none 0 0) := by simp [World.cell?, k8', Z11]
      have p2 : W'.cell? ⟨w.heap.size + 1 + 1, 2, none⟩ = some (.slice none 0 0) := by simp [World.cell?, kR']
      have r2 : W'.cell? ⟨w.heap.size, 2, none⟩ = some (.slice none 0 0) := by simp [World.cell?, k8', Z11]
      have p3 : W'.cell? ⟨w.heap.size + 1 + 1, 3, none⟩ = some (.int .i64 fuel) := by simp [World.cell?, kR']
      have r3 : W'.cell? ⟨w.heap.size, 3, none⟩ = some (.int .i64 0) := by simp [World.cell?, k8', Z11]
      have p4 : W'.cell? ⟨w.heap.size + 1 + 1, 4, none⟩ = some (.int .i64 0) := by simp [World.cell?, kR']
      have r4 : W'.cell? ⟨w.heap.size, 4, none⟩ = some (.int .i64 0) := by simp [World.cell?, k8', Z11]
      have p5 : W'.cell? ⟨w.heap.size + 1 + 1, 5, none⟩ = some (.int .i64 0) := by simp [World.cell?, kR']
      have r5 : W'.cell? ⟨w.heap.size, 5, none⟩ = some (.int .i64 0) := by simp [World.cell?, k8', Z11]
      have p6 : W'.cell? ⟨w.heap.size + 1 + 1, 6, none⟩ = some (.slice (some ⟨w.heap.size + 1 + 1 + 1, 0, none⟩) m m) := by simp [World.cell?, kR']
      have r6 : W'.cell? ⟨w.heap.size, 6, none⟩ = some (.slice none 0 0) := by simp [World.cell?, k8', Z11]
      have p7 : W'.cell? ⟨w.heap.size + 1 + 1, 7, none⟩ = some (.slice none 0 0) := by simp [World.cell?, kR']
      have r7 : W'.cell? ⟨w.heap.size, 7, none⟩ = some (.slice none 0 0) := by simp [World.cell?, k8', Z11]
      have p8 : W'.cell? ⟨w.heap.size + 1 + 1, 8, none⟩ = some (.int .i64 0) := by simp [World.cell?, kR']
      have r8 : W'.cell? ⟨w.heap.size, 8, none⟩ = some (.int .i64 0) := by simp [World.cell?, k8', Z11]
      have p9 : W'.cell? ⟨w.heap.size + 1 + 1, 9, none⟩ = some (.int .i64 0) := by simp [World.cell?, kR']
      have r9 : W'.cell? ⟨w.heap.size, 9, none⟩ = some (.int .i64 0) := by simp [World.cell?, k8', Z11]
      have p10 : W'.cell? ⟨w.heap.size + 1 + 1, 10, none⟩ = some (.slice none 0 0) := by simp [World.cell?, kR']
      have r10 : W'.cell? ⟨w.heap.size, 10, none⟩ = some (.slice none 0 0) := by simp [World.cell?, k8', Z11]
      have rz : ∀ o, W'.frozen? ⟨w.heap.size, o, none⟩ = false := fun o => by simp [World.frozen?, k8']
      clear hfar hbel hiw kR kR' k8 k8' kh kv hbw
      go_wp2
      refine bodyPost_ret (v := .agg #[.slice aa na ca, .slice (some ⟨w.heap.size + 1, 0, none⟩) 32 32, .slice none 0 0, .int .i64 fuel, .int .i64 0, .int .i64 0, .slice (some ⟨w.heap.size + 1 + 1 + 1, 0, none⟩) m m, .slice none 0 0, .int .i64 0, .int .i64 0, .slice none 0 0]) (by simp [results, Tryd.results73, go_sem, r0, r1, r2, r3, r4, r5, r6, r7, r8, r9, r10]) rfl ⟨w.heap.size + 1, w.heap.size + 1 + 1 + 1, rfl, set11_below HB.out (Nat.le_refl _) _ _ _ _ _ _ _ _ _ _ _, by omega, by omega, by omega, HI.out.keep (set11_far (by omega) _ _ _ _ _ _ _ _ _ _ _), HV.out.keep (set11_far (by omega) _ _ _ _ _ _ _ _ _ _ _)⟩
  · skip
    go_simp
    refine hK.out _ _ (by first | with_reducible exact hHeld | ((try dsimp only); go_keep)) (fun hHeld => ?_)
    clear hK
    try simp only [Act.put, List.getElem_toArray, List.getElem_cons_zero, List.getElem_cons_succ, List.setIfInBounds_toArray, List.set_cons_zero, List.set_cons_succ]
    refine wpAnyH_ready (rs := [1, 6]) (by kernel_rfl) (by simp) ?_
    refine (AllReadyH.cons rfl (fun K hK => ?_) (AllReadyH.cons rfl (fun K hK => ?_) AllReadyH.nil))
    · skip
      go_simp
      refine hK.out _ _ (by first | with_reducible exact hHeld | ((try dsimp only); go_keep)) (fun hHeld => ?_)
      clear hK
      try simp only [Act.put, List.getElem_toArray, List.getElem_cons_zero, List.getElem_cons_succ, List.setIfInBounds_toArray, List.set_cons_zero, List.set_cons_succ]
      refine wpAnyH_take (i := 5) (v := ?_) rfl (by kernel_rfl) (by kernel_rfl) (by kernel_rfl) (fun _ _ _ h => h) (Or.inl ⟨by rfl, ?_⟩) (by assumption) ?_
      rotate_left
      · intro w hSw; (try dsimp only at hSw); go_simp; try with_reducible rfl
      simp only [Act.put, List.getElem_toArray, List.getElem_cons_zero, List.getElem_cons_succ, List.setIfInBounds_toArray, List.set_cons_zero, List.set_cons_succ]
      refine wpAnyH_ready (rs := [6]) (by kernel_rfl) (by simp) ?_
      refine AllReadyH.cons rfl (fun K hK => ?_) AllReadyH.nil
      go_simp
      refine hK.out _ _ (by first | with_reducible exact hHeld | ((try dsimp only); go_keep)) (fun hHeld => ?_)
      clear hK
      try simp only [Act.put, List.getElem_toArray, List.getElem_cons_zero, List.getElem_cons_succ, List.setIfInBounds_toArray, List.set_cons_zero, List.set_cons_succ]
      refine wpAnyH_ready (rs := [7]) (by kernel_rfl) (by simp) ?_
      refine AllReadyH.cons rfl (fun K hK => ?_) AllReadyH.nil
      go_simp
      refine hK.out _ _ (by first | with_reducible exact hHeld | ((try dsimp only); go_keep)) (fun hHeld => ?_)
      clear hK
      try simp only [Act.put, List.getElem_toArray, List.getElem_cons_zero, List.getElem_cons_succ, List.setIfInBounds_toArray, List.set_cons_zero, List.set_cons_succ]
      refine wpAnyH_done (by kernel_rfl) ?_ _
      go_upto_region 2 with fail
      refine letterN (P := Code.wp _ _ _ _) _ ?_
      intro W hW
      have k8 : W.heap[w.heap.size]? = some (.cells Z11 102 (0, 0)) := by rw [hW]; exact (al4 w _ _ _ _).1
      have kR : W.heap[w.heap.size + 1 + 1 + 1]? = some (.cells #[.slice aa na ca, .slice (some ⟨w.heap.size + 1 + 1, 0, none⟩) 32 32, .slice none 0 0, .int .i64 fuel, .int .i64 0, .int .i64 0, .slice (some ⟨w.heap.size + 1, 0, none⟩) m m, .slice none 0 0, .int .i64 0, .int .i64 0, .slice none 0 0] 102 (0, 0)) := by rw [hW]; exact (al4 w _ _ _ _).2.2.2.1
      have kh : W.heap[w.heap.size + 1 + 1]? = some (.cells (madeCells #[.int .i64 0] 32) 2 (0, 0)) := (by rw [hW]; exact (al4 w _ _ _ _).2.2.1)
      have kv : W.heap[w.heap.size + 1]? = some (.cells (madeCells #[.int .i64 0] m) 2 (0, 0)) := (by rw [hW]; exact (al4 w _ _ _ _).2.1)
      have hbw : Below w.heap.size w W := by rw [hW]; exact (al4 w _ _ _ _).2.2.2.2
      clear hW hHeld hmk hmk2
      obtain ⟨W', hcp, hfar, hbel, hiw⟩ := copy_heap hA nh chh heap L B (w.heap.size + 1 + 1) W kh (hheap.out.keep (hbw.mono hB)) hnh.out h32
      have HB := hide (hbel _ _ (by omega) hbw)
      have HI := hide hiw
      have HV := hide ((valsOf kv).keep (hfar _ (by omega)))
      have kR' := (hfar (w.heap.size + 1 + 1 + 1) (by omega)).trans kR
      have k8' := (hfar w.heap.size (by omega)).trans k8
      have q1 : W.cell? ⟨w.heap.size + 1 + 1 + 1, 1, none⟩ = some (.slice (some ⟨w.heap.size + 1 + 1, 0, none⟩) 32 32) := by simp [World.cell?, kR]
      have p0 : W'.cell? ⟨w.heap.size + 1 + 1 + 1, 0, none⟩ = some (.slice aa na ca) := by simp [World.cell?, kR']
      have r0 : W'.cell? ⟨w.heap.size, 0, none⟩ = some (.slice none 0 0) := by simp [World.cell?, k8', Z11]
      have p1 : W'.cell? ⟨w.heap.size + 1 + 1 + 1, 1, none⟩ = some (.slice (some ⟨w.heap.size + 1 + 1, 0, none⟩) 32 32) := by simp [World.cell?, kR']
      have r1 : W'.cell? ⟨w.heap.size, 1, none⟩ = some (.slice none 0 0) := by simp [World.cell?, k8', Z11]
      have p2 : W'.cell? ⟨w.heap.size + 1 + 1 + 1, 2, none⟩ = some (.slice none 0 0) := by simp [World.cell?, kR']
      have r2 : W'.cell? ⟨w.heap.size, 2, none⟩ = some (.slice none 0 0) := by simp [World.cell?, k8', Z11]
      have p3 : W'.cell? ⟨w.heap.size + 1 + 1 + 1, 3, none⟩ = some (.int .i64 fuel) := by simp [World.cell?, kR']
      have r3 : W'.cell? ⟨w.heap.size, 3, none⟩ = some (.int .i64 0) := by simp [World.cell?, k8', Z11]
      have p4 : W'.cell? ⟨w.heap.size + 1 + 1 + 1, 4, none⟩ = some (.int .i64 0) := by simp [World.cell?, kR']
      have r4 : W'.cell? ⟨w.heap.size, 4, none⟩ = some (.int .i64 0) := by simp [World.cell?, k8', Z11]
      have p5 : W'.cell? ⟨w.heap.size + 1 + 1 + 1, 5, none⟩ = some (.int .i64 0) := by simp [World.cell?, kR']
      have r5 : W'.cell? ⟨w.heap.size, 5, none⟩ = some (.int .i64 0) := by simp [World.cell?, k8', Z11]
      have p6 : W'.cell? ⟨w.heap.size + 1 + 1 + 1, 6, none⟩ = some (.slice (some ⟨w.heap.size + 1, 0, none⟩) m m) := by simp [World.cell?, kR']
      have r6 : W'.cell? ⟨w.heap.size, 6, none⟩ = some (.slice none 0 0) := by simp [World.cell?, k8', Z11]
      have p7 : W'.cell? ⟨w.heap.size + 1 + 1 + 1, 7, none⟩ = some (.slice none 0 0) := by simp [World.cell?, kR']
      have r7 : W'.cell? ⟨w.heap.size, 7, none⟩ = some (.slice none 0 0) := by simp [World.cell?, k8', Z11]
      have p8 : W'.cell? ⟨w.heap.size + 1 + 1 + 1, 8, none⟩ = some (.int .i64 0) := by simp [World.cell?, kR']
      have r8 : W'.cell? ⟨w.heap.size, 8, none⟩ = some (.int .i64 0) := by simp [World.cell?, k8', Z11]
      have p9 : W'.cell? ⟨w.heap.size + 1 + 1 + 1, 9, none⟩ = some (.int .i64 0) := by simp [World.cell?, kR']
      have r9 : W'.cell? ⟨w.heap.size, 9, none⟩ = some (.int .i64 0) := by simp [World.cell?, k8', Z11]
      have p10 : W'.cell? ⟨w.heap.size + 1 + 1 + 1, 10, none⟩ = some (.slice none 0 0) := by simp [World.cell?, kR']
      have r10 : W'.cell? ⟨w.heap.size, 10, none⟩ = some (.slice none 0 0) := by simp [World.cell?, k8', Z11]
      have rz : ∀ o, W'.frozen? ⟨w.heap.size, o, none⟩ = false := fun o => by simp [World.frozen?, k8']
      clear hfar hbel hiw kR kR' k8 k8' kh kv hbw
      go_wp2
      refine bodyPost_ret (v := .agg #[.slice aa na ca, .slice (some ⟨w.heap.size + 1 + 1, 0, none⟩) 32 32, .slice none 0 0, .int .i64 fuel, .int .i64 0, .int .i64 0, .slice (some ⟨w.heap.size + 1, 0, none⟩) m m, .slice none 0 0, .int .i64 0, .int .i64 0, .slice none 0 0]) (by simp [results, Tryd.results73, go_sem, r0, r1, r2, r3, r4, r5, r6, r7, r8, r9, r10]) rfl ⟨w.heap.size + 1 + 1, w.heap.size + 1, rfl, set11_below HB.out (Nat.le_refl _) _ _ _ _ _ _ _ _ _ _ _, by omega, by omega, by omega, HI.out.keep (set11_far (by omega) _ _ _ _ _ _ _ _ _ _ _), HV.out.keep (set11_far (by omega) _ _ _ _ _ _ _ _ _ _ _)⟩
    · skip
      go_simp
      refine hK.out _ _ (by first | with_reducible exact hHeld | ((try dsimp only); go_keep)) (fun hHeld => ?_)
      clear hK
      try simp only [Act.put, List.getElem_toArray, List.getElem_cons_zero, List.getElem_cons_succ, List.setIfInBounds_toArray, List.set_cons_zero, List.set_cons_succ]
      refine wpAnyH_ready (rs := [1]) (by kernel_rfl) (by simp) ?_
      refine AllReadyH.cons rfl (fun K hK => ?_) AllReadyH.nil
      go_simp
      refine hK.out _ _ (by first | with_reducible exact hHeld | ((try dsimp only); go_keep)) (fun hHeld => ?_)
      clear hK
      try simp only [Act.put, List.getElem_toArray, List.getElem_cons_zero, List.getElem_cons_succ, List.setIfInBounds_toArray, List.set_cons_zero, List.set_cons_succ]
      refine wpAnyH_take (i := 5) (v := ?_) rfl (by kernel_rfl) (by kernel_rfl) (by kernel_rfl) (fun _ _ _ h => h) (Or.inl ⟨by rfl, ?_⟩) (by assumption) ?_
      rotate_left
      · intro w hSw; (try dsimp only at hSw); go_simp; try with_reducible rfl
      simp only [Act.put, List.getElem_toArray, List.getElem_cons_zero, List.getElem_cons_succ, List.setIfInBounds_toArray, List.set_cons_zero, List.set_cons_succ]
      refine wpAnyH_ready (rs := [7]) (by kernel_rfl) (by simp) ?_
      refine AllReadyH.cons rfl (fun K hK => ?_) AllReadyH.nil
      go_simp
      refine hK.out _ _ (by first | with_reducible exact hHeld | ((try dsimp only); go_keep)) (fun hHeld => ?_)
      clear hK
      try simp only [Act.put, List.getElem_toArray, List.getElem_cons_zero, List.getElem_cons_succ, List.setIfInBounds_toArray, List.set_cons_zero, List.set_cons_succ]
      refine wpAnyH_done (by kernel_rfl) ?_ _
      go_upto_region 2 with fail
      refine letterN (P := Code.wp _ _ _ _) _ ?_
      intro W hW
      have k8 : W.heap[w.heap.size]? = some (.cells Z11 102 (0, 0)) := by rw [hW]; exact (al4 w _ _ _ _).1
      have kR : W.heap[w.heap.size + 1 + 1]? = some (.cells #[.slice aa na ca, .slice (some ⟨w.heap.size + 1 + 1 + 1, 0, none⟩) 32 32, .slice none 0 0, .int .i64 fuel, .int .i64 0, .int .i64 0, .slice (some ⟨w.heap.size + 1, 0, none⟩) m m, .slice none 0 0, .int .i64 0, .int .i64 0, .slice none 0 0] 102 (0, 0)) := by rw [hW]; exact (al4 w _ _ _ _).2.2.1
      have kh : W.heap[w.heap.size + 1 + 1 + 1]? = some (.cells (madeCells #[.int .i64 0] 32) 2 (0, 0)) := (by rw [hW]; exact (al4 w _ _ _ _).2.2.2.1)
      have kv : W.heap[w.heap.size + 1]? = some (.cells (madeCells #[.int .i64 0] m) 2 (0, 0)) := (by rw [hW]; exact (al4 w _ _ _ _).2.1)
      have hbw : Below w.heap.size w W := by rw [hW]; exact (al4 w _ _ _ _).2.2.2.2
      clear hW hHeld hmk hmk2
      obtain ⟨W', hcp, hfar, hbel, hiw⟩ := copy_heap hA nh chh heap L B (w.heap.size + 1 + 1 + 1) W kh (hheap.out.keep (hbw.mono hB)) hnh.out h32
      have HB := hide (hbel _ _ (by omega) hbw)
      have HI := hide hiw
      have HV := hide ((valsOf kv).keep (hfar _ (by omega)))
      have kR' := (hfar (w.heap.size + 1 + 1) (by omega)).trans kR
      have k8' := (hfar w.heap.size (by omega)).trans k8
      have q1 : W.cell? ⟨w.heap.size + 1 + 1, 1, none⟩ = some (.slice (some ⟨w.heap.size + 1 + 1 + 1, 0, none⟩) 32 32) := by simp [World.cell?, kR]
      have p0 : W'.cell? ⟨w.heap.size + 1 + 1, 0, none⟩ = some (.slice aa na ca) := by simp [World.cell?, kR']
      have r0 : W'.cell? ⟨w.heap.size, 0, none⟩ = some (.slice none 0 0) := by simp [World.cell?, k8', Z11]
      have p1 : W'.cell? ⟨w.heap.size + 1 + 1, 1, none⟩ = some (.slice (some ⟨w.heap.size + 1 + 1 + 1, 0, none⟩) 32 32) := by simp [World.cell?, kR']
      have r1 : W'.cell? ⟨w.heap.size, 1, none⟩ = some (.slice none 0 0) := by simp [World.cell?, k8', Z11]
      have p2 : W'.cell? ⟨w.heap.size + 1 + 1, 2, none⟩ = some (.slice none 0 0) := by simp [World.cell?, kR']
      have r2 : W'.cell? ⟨w.heap.size, 2, none⟩ = some (.slice none 0 0) := by simp [World.cell?, k8', Z11]
      have p3 : W'.cell? ⟨w.heap.size + 1 + 1, 3, none⟩ = some (.int .i64 fuel) := by simp [World.cell?, kR']
      have r3 : W'.cell? ⟨w.heap.size, 3, none⟩ = some (.int .i64 0) := by simp [World.cell?, k8', Z11]
      have p4 : W'.cell? ⟨w.heap.size + 1 + 1, 4, none⟩ = some (.int .i64 0) := by simp [World.cell?, kR']
      have r4 : W'.cell? ⟨w.heap.size, 4, none⟩ = some (.int .i64 0) := by simp [World.cell?, k8', Z11]
      have p5 : W'.cell? ⟨w.heap.size + 1 + 1, 5, none⟩ = some (.int .i64 0) := by simp [World.cell?, kR']
      have r5 : W'.cell? ⟨w.heap.size, 5, none⟩ = some (.int .i64 0) := by simp [World.cell?, k8', Z11]
      have p6 : W'.cell? ⟨w.heap.size + 1 + 1, 6, none⟩ = some (.slice (some ⟨w.heap.size + 1, 0, none⟩) m m) := by simp [World.cell?, kR']
      have r6 : W'.cell? ⟨w.heap.size, 6, none⟩ = some (.slice none 0 0) := by simp [World.cell?, k8', Z11]
      have p7 : W'.cell? ⟨w.heap.size + 1 + 1, 7, none⟩ = some (.slice none 0 0) := by simp [World.cell?, kR']
      have r7 : W'.cell? ⟨w.heap.size, 7, none⟩ = some (.slice none 0 0) := by simp [World.cell?, k8', Z11]
      have p8 : W'.cell? ⟨w.heap.size + 1 + 1, 8, none⟩ = some (.int .i64 0) := by simp [World.cell?, kR']
      have r8 : W'.cell? ⟨w.heap.size, 8, none⟩ = some (.int .i64 0) := by simp [World.cell?, k8', Z11]
      have p9 : W'.cell? ⟨w.heap.size + 1 + 1, 9, none⟩ = some (.int .i64 0) := by simp [World.cell?, kR']
      have r9 : W'.cell? ⟨w.heap.size, 9, none⟩ = some (.int .i64 0) := by simp [World.cell?, k8', Z11]
      have p10 : W'.cell? ⟨w.heap.size + 1 + 1, 10, none⟩ = some (.slice none 0 0) := by simp [World.cell?, kR']
      have r10 : W'.cell? ⟨w.heap.size, 10, none⟩ = some (.slice none 0 0) := by simp [World.cell?, k8', Z11]
      have rz : ∀ o, W'.frozen? ⟨w.heap.size, o, none⟩ = false := fun o => by simp [World.frozen?, k8']
      clear hfar hbel hiw kR kR' k8 k8' kh kv hbw
      go_wp2
      refine bodyPost_ret (v := .agg #[.slice aa na ca, .slice (some ⟨w.heap.size + 1 + 1 + 1, 0, none⟩) 32 32, .slice none 0 0, .int .i64 fuel, .int .i64 0, .int .i64 0, .slice (some ⟨w.heap.size + 1, 0, none⟩) m m, .slice none 0 0, .int .i64 0, .int .i64 0, .slice none 0 0]) (by simp [results, Tryd.results73, go_sem, r0, r1, r2, r3, r4, r5, r6, r7, r8, r9, r10]) rfl ⟨w.heap.size + 1 + 1 + 1, w.heap.size + 1, rfl, set11_below HB.out (Nat.le_refl _) _ _ _ _ _ _ _ _ _ _ _, by omega, by omega, by omega, HI.out.keep (set11_far (by omega) _ _ _ _ _ _ _ _ _ _ _), HV.out.keep (set11_far (by omega) _ _ _ _ _ _ _ _ _ _ _)⟩
  · skip
    go_simp
    refine hK.out _ _ (by first | with_reducible exact hHeld | ((try dsimp only); go_keep)) (fun hHeld => ?_)
    clear hK
    try simp only [Act.put, List.getElem_toArray, List.getElem_cons_zero, List.getElem_cons_succ, List.setIfInBounds_toArray, List.set_cons_zero, List.set_cons_succ]
    refine wpAnyH_ready (rs := [1, 4]) (by kernel_rfl) (by simp) ?_
    refine (AllReadyH.cons rfl (fun K hK => ?_) (AllReadyH.cons rfl (fun K hK => ?_) AllReadyH.nil))
    · skip
      go_simp
      refine hK.out _ _ (by first | with_reducible exact hHeld | ((try dsimp only); go_keep)) (fun hHeld => ?_)
      clear hK
      try simp only [Act.put, List.getElem_toArray, List.getElem_cons_zero, List.getElem_cons_succ, List.setIfInBounds_toArray, List.set_cons_zero, List.set_cons_succ]
      refine wpAnyH_ready (rs := [4]) (by kernel_rfl) (by simp) ?_
      refine AllReadyH.cons rfl (fun K hK => ?_) AllReadyH.nil
      go_simp
      refine hK.out _ _ (by first | with_reducible exact hHeld | ((try dsimp only); go_keep)) (fun hHeld => ?_)
      clear hK
      try simp only [Act.put, List.getElem_toArray, List.getElem_cons_zero, List.getElem_cons_succ, List.setIfInBounds_toArray, List.set_cons_zero, List.set_cons_succ]
      refine wpAnyH_take (i := 5) (v := ?_) rfl (by kernel_rfl) (by kernel_rfl) (by kernel_rfl) (fun _ _ _ h => h) (Or.inl ⟨by rfl, ?_⟩) (by assumption) ?_
      rotate_left
      · intro w hSw; (try dsimp only at hSw); go_simp; try with_reducible rfl
      simp only [Act.put, List.getElem_toArray, List.getElem_cons_zero, List.getElem_cons_succ, List.setIfInBounds_toArray, List.set_cons_zero, List.set_cons_succ]
      refine wpAnyH_ready (rs := [7]) (by kernel_rfl) (by simp) ?_
      refine AllReadyH.cons rfl (fun K hK => ?_) AllReadyH.nil
      go_simp
      refine hK.out _ _ (by first | with_reducible exact hHeld | ((try dsimp only); go_keep)) (fun hHeld => ?_)
      clear hK
      try simp only [Act.put, List.getElem_toArray, List.getElem_cons_zero, List.getElem_cons_succ, List.setIfInBounds_toArray, List.set_cons_zero, List.set_cons_succ]
      refine wpAnyH_done (by kernel_rfl) ?_ _
      go_upto_region 2 with fail
      refine letterN (P := Code.wp _ _ _ _) _ ?_
      intro W hW
      have k8 : W.heap[w.heap.size]? = some (.cells Z11 102 (0, 0)) := by rw [hW]; exact (al4 w _ _ _ _).1
      have kR : W.heap[w.heap.size + 1]? = some (.cells #[.slice aa na ca, .slice (some ⟨w.heap.size + 1 + 1, 0, none⟩) 32 32, .slice none 0 0, .int .i64 fuel, .int .i64 0, .int .i64 0, .slice (some ⟨w.heap.size + 1 + 1 + 1, 0, none⟩) m m, .slice none 0 0, .int .i64 0, .int .i64 0, .slice none 0 0] 102 (0, 0)) := by rw [hW]; exact (al4 w _ _ _ _).2.1
      have kh : W.heap[w.heap.size + 1 + 1]? = some (.cells (madeCells #[.int .i64 0] 32) 2 (0, 0)) := (by rw [hW]; exact (al4 w _ _ _ _).2.2.1)
      have kv : W.heap[w.heap.size + 1 + 1 + 1]? = some (.cells (madeCells #[.int .i64 0] m) 2 (0, 0)) := (by rw [hW]; exact (al4 w _ _ _ _).2.2.2.1)
      have hbw : Below w.heap.size w W := by rw [hW]; exact (al4 w _ _ _ _).2.2.2.2
      clear hW hHeld hmk hmk2
      obtain ⟨W', hcp, hfar, hbel, hiw⟩ := copy_heap hA nh chh heap L B (w.heap.size + 1 + 1) W kh (hheap.out.keep (hbw.mono hB)) hnh.out h32
      have HB := hide (hbel _ _ (by omega) hbw)
      have HI := hide hiw
      have HV := hide ((valsOf kv).keep (hfar _ (by omega)))
      have kR' := (hfar (w.heap.size + 1) (by omega)).trans kR
      have k8' := (hfar w.heap.size (by omega)).trans k8
      have q1 : W.cell? ⟨w.heap.size + 1, 1, none⟩ = some (.slice (some ⟨w.heap.size + 1 + 1, 0, none⟩) 32 32) := by simp [World.cell?, kR]
      have p0 : W'.cell? ⟨w.heap.size + 1, 0, none⟩ = some (.slice aa na ca) := by simp [World.cell?, kR']
      have r0 : W'.cell? ⟨w.heap.size, 0, none⟩ = some (.slice none 0 0) := by simp [World.cell?, k8', Z11]
      have p1 : W'.cell? ⟨w.heap.size + 1, 1, none⟩ = some (.slice (some ⟨w.heap.size + 1 + 1, 0, none⟩) 32 32) := by simp [World.cell?, kR']
      have r1 : W'.cell? ⟨w.heap.size, 1, none⟩ = some (.slice none 0 0) := by simp [World.cell?, k8', Z11]
      have p2 : W'.cell? ⟨w.heap.size + 1, 2, none⟩ = some (.slice none 0 0) := by simp [World.cell?, kR']
      have r2 : W'.cell? ⟨w.heap.size, 2, none⟩ = some (.slice none 0 0) := by simp [World.cell?, k8', Z11]
      have p3 : W'.cell? ⟨w.heap.size + 1, 3, none⟩ = some (.int .i64 fuel) := by simp [World.cell?, kR']
      have r3 : W'.cell? ⟨w.heap.size, 3, none⟩ = some (.int .i64 0) := by simp [World.cell?, k8', Z11]
      have p4 : W'.cell? ⟨w.heap.size + 1, 4, none⟩ = some (.int .i64 0) := by simp [World.cell?, kR']
      have r4 : W'.cell? ⟨w.heap.size, 4, none⟩ = some (.int .i64 0) := by simp [World.cell?, k8', Z11]
      have p5 : W'.cell? ⟨w.heap.size + 1, 5, none⟩ = some (.int .i64 0) := by simp [World.cell?, kR']
      have r5 : W'.cell? ⟨w.heap.size, 5, none⟩ = some (.int .i64 0) := by simp [World.cell?, k8', Z11]
      have p6 : W'.cell? ⟨w.heap.size + 1, 6, none⟩ = some (.slice (some ⟨w.heap.size + 1 + 1 + 1, 0, none⟩) m m) := by simp [World.cell?, kR']
      have r6 : W'.cell? ⟨w.heap.size, 6, none⟩ = some (.slice none 0 0) := by simp [World.cell?, k8', Z11]
      have p7 : W'.cell? ⟨w.heap.size + 1, 7, none⟩ = some (.slice none 0 0) := by simp [World.cell?, kR']
      have r7 : W'.cell? ⟨w.heap.size, 7, none⟩ = some (.slice none 0 0) := by simp [World.cell?, k8', Z11]
      have p8 : W'.cell? ⟨w.heap.size + 1, 8, none⟩ = some (.int .i64 0) := by simp [World.cell?, kR']
      have r8 : W'.cell? ⟨w.heap.size, 8, none⟩ = some (.int .i64 0) := by simp [World.cell?, k8', Z11]
      have p9 : W'.cell? ⟨w.heap.size + 1, 9, none⟩ = some (.int .i64 0) := by simp [World.cell?, kR']
      have r9 : W'.cell? ⟨w.heap.size, 9, none⟩ = some (.int .i64 0) := by simp [World.cell?, k8', Z11]
      have p10 : W'.cell? ⟨w.heap.size + 1, 10, none⟩ = some (.slice none 0 0) := by simp [World.cell?, kR']
      have r10 : W'.cell? ⟨w.heap.size, 10, none⟩ = some (.slice none 0 0) := by simp [World.cell?, k8', Z11]
      have rz : ∀ o, W'.frozen? ⟨w.heap.size, o, none⟩ = false := fun o => by simp [World.frozen?, k8']
      clear hfar hbel hiw kR kR' k8 k8' kh kv hbw
      go_wp2
      refine bodyPost_ret (v := .agg #[.slice aa na ca, .slice (some ⟨w.heap.size + 1 + 1, 0, none⟩) 32 32, .slice none 0 0, .int .i64 fuel, .int .i64 0, .int .i64 0, .slice (some ⟨w.heap.size + 1 + 1 + 1, 0, none⟩) m m, .slice none 0 0, .int .i64 0, .int .i64 0, .slice none 0 0]) (by simp [results, Tryd.results73, go_sem, r0, r1, r2, r3, r4, r5, r6, r7, r8, r9, r10]) rfl ⟨w.heap.size + 1 + 1, w.heap.size + 1 + 1 + 1, rfl, set11_below HB.out (Nat.le_refl _) _ _ _ _ _ _ _ _ _ _ _, by omega, by omega, by omega, HI.out.keep (set11_far (by omega) _ _ _ _ _ _ _ _ _ _ _), HV.out.keep (set11_far (by omega) _ _ _ _ _ _ _ _ _ _ _)⟩
    · skip
      go_simp
      refine hK.out _ _ (by first | with_reducible exact hHeld | ((try dsimp only); go_keep)) (fun hHeld => ?_)
      clear hK
      try simp only [Act.put, List.getElem_toArray, List.getElem_cons_zero, List.getElem_cons_succ, List.setIfInBounds_toArray, List.set_cons_zero, List.set_cons_succ]
      refine wpAnyH_ready (rs := [1]) (by kernel_rfl) (by simp) ?_
      refine AllReadyH.cons rfl (fun K hK => ?_) AllReadyH.nil
      go_simp
      refine hK.out _ _ (by first | with_reducible exact hHeld | ((try dsimp only); go_keep)) (fun hHeld => ?_)
      clear hK
      try simp only [Act.put, List.getElem_toArray, List.getElem_cons_zero, List.getElem_cons_succ, List.setIfInBounds_toArray, List.set_cons_zero, List.set_cons_succ]
      refine wpAnyH_take (i := 5) (v := ?_) rfl (by kernel_rfl) (by kernel_rfl) (by kernel_rfl) (fun _ _ _ h => h) (Or.inl ⟨by rfl, ?_⟩) (by assumption) ?_
      rotate_left
      · intro w hSw; (try dsimp only at hSw); go_simp; try with_reducible rfl
      simp only [Act.put, List.getElem_toArray, List.getElem_cons_zero, List.getElem_cons_succ, List.setIfInBounds_toArray, List.set_cons_zero, List.set_cons_succ]
      refine wpAnyH_ready (rs := [7]) (by kernel_rfl) (by simp) ?_
      refine AllReadyH.cons rfl (fun K hK => ?_) AllReadyH.nil
      go_simp
      refine hK.out _ _ (by first | with_reducible exact hHeld | ((try dsimp only); go_keep)) (fun hHeld => ?_)
      clear hK
      try simp only [Act.put, List.getElem_toArray, List.getElem_cons_zero, List.getElem_cons_succ, List.setIfInBounds_toArray, List.set_cons_zero, List.set_cons_succ]
      refine wpAnyH_done (by kernel_rfl) ?_ _
      go_upto_region 2 with fail
      refine letterN (P := Code.wp _ _ _ _) _ ?_
      intro W hW
      have k8 : W.heap[w.heap.size]? = some (.cells Z11 102 (0, 0)) := by rw [hW]; exact (al4 w _ _ _ _).1
      have kR : W.heap[w.heap.size + 1]? = some (.cells #[.slice aa na ca, .slice (some ⟨w.heap.size + 1 + 1 + 1, 0, none⟩) 32 32, .slice none 0 0, .int .i64 fuel, .int .i64 0, .int .i64 0, .slice (some ⟨w.heap.size + 1 + 1, 0, none⟩) m m, .slice none 0 0, .int .i64 0, .int .i64 0, .slice none 0 0] 102 (0, 0)) := by rw [hW]; exact (al4 w _ _ _ _).2.1
      have kh : W.heap[w.heap.size + 1 + 1 + 1]? = some (.cells (madeCells #[.int .i64 0] 32) 2 (0, 0)) := (by rw [hW]; exact (al4 w _ _ _ _).2.2.2.1)
      have kv : W.heap[w.heap.size + 1 + 1]? = some (.cells (madeCells #[.int .i64 0] m) 2 (0, 0)) := (by rw [hW]; exact (al4 w _ _ _ _).2.2.1)
      have hbw : Below w.heap.size w W := by rw [hW]; exact (al4 w _ _ _ _).2.2.2.2
      clear hW hHeld hmk hmk2
      obtain ⟨W', hcp, hfar, hbel, hiw⟩ := copy_heap hA nh chh heap L B (w.heap.size + 1 + 1 + 1) W kh (hheap.out.keep (hbw.mono hB)) hnh.out h32
      have HB := hide (hbel _ _ (by omega) hbw)
      have HI := hide hiw
      have HV := hide ((valsOf kv).keep (hfar _ (by omega)))
      have kR' := (hfar (w.heap.size + 1) (by omega)).trans kR
      have k8' := (hfar w.heap.size (by omega)).trans k8
      have q1 : W.cell? ⟨w.heap.size + 1, 1, none⟩ = some (.slice (some ⟨w.heap.size + 1 + 1 + 1, 0, none⟩) 32 32) := by simp [World.cell?, kR]
      have p0 : W'.cell? ⟨w.heap.size + 1, 0, none⟩ = some (.slice aa na ca) := by simp [World.cell?, kR']
      have r0 : W'.cell? ⟨w.heap.size, 0, none⟩ = some (.slice none 0 0) := by simp [World.cell?, k8', Z11]
      have p1 : W'.cell? ⟨w.heap.size + 1, 1, none⟩ = some (.slice (some ⟨w.heap.size + 1 + 1 + 1, 0, none⟩) 32 32) := by simp [World.cell?, kR']
      have r1 : W'.cell? ⟨w.heap.size, 1, none⟩ = some (.slice none 0 0) := by simp [World.cell?, k8', Z11]
      have p2 : W'.cell? ⟨w.heap.size + 1, 2, none⟩ = some (.slice none 0 0) := by simp [World.cell?, kR']
      have r2 : W'.cell? ⟨w.heap.size, 2, none⟩ = some (.slice none 0 0) := by simp [World.cell?, k8', Z11]
      have p3 : W'.cell? ⟨w.heap.size + 1, 3, none⟩ = some (.int .i64 fuel) := by simp [World.cell?, kR']
      have r3 : W'.cell? ⟨w.heap.size, 3, none⟩ = some (.int .i64 0) := by simp [World.cell?, k8', Z11]
      have p4 : W'.cell? ⟨w.heap.size + 1, 4, none⟩ = some (.int .i64 0) := by simp [World.cell?, kR']
      have r4 : W'.cell? ⟨w.heap.size, 4, none⟩ = some (.int .i64 0) := by simp [World.cell?, k8', Z11]
      have p5 : W'.cell? ⟨w.heap.size + 1, 5, none⟩ = some (.int .i64 0) := by simp [World.cell?, kR']
      have r5 : W'.cell? ⟨w.heap.size, 5, none⟩ = some (.int .i64 0) := by simp [World.cell?, k8', Z11]
      have p6 : W'.cell? ⟨w.heap.size + 1, 6, none⟩ = some (.slice (some ⟨w.heap.size + 1 + 1, 0, none⟩) m m) := by simp [World.cell?, kR']
      have r6 : W'.cell? ⟨w.heap.size, 6, none⟩ = some (.slice none 0 0) := by simp [World.cell?, k8', Z11]
      have p7 : W'.cell? ⟨w.heap.size + 1, 7, none⟩ = some (.slice none 0 0) := by simp [World.cell?, kR']
      have r7 : W'.cell? ⟨w.heap.size, 7, none⟩ = some (.slice none 0 0) := by simp [World.cell?, k8', Z11]
      have p8 : W'.cell? ⟨w.heap.size + 1, 8, none⟩ = some (.int .i64 0) := by simp [World.cell?, kR']
      have r8 : W'.cell? ⟨w.heap.size, 8, none⟩ = some (.int .i64 0) := by simp [World.cell?, k8', Z11]
      have p9 : W'.cell? ⟨w.heap.size + 1, 9, none⟩ = some (.int .i64 0) := by simp [World.cell?, kR']
      have r9 : W'.cell? ⟨w.heap.size, 9, none⟩ = some (.int .i64 0) := by simp [World.cell?, k8', Z11]
      have p10 : W'.cell? ⟨w.heap.size + 1, 10, none⟩ = some (.slice none 0 0) := by simp [World.cell?, kR']
      have r10 : W'.cell? ⟨w.heap.size, 10, none⟩ = some (.slice none 0 0) := by simp [World.cell?, k8', Z11]
      have rz : ∀ o, W'.frozen? ⟨w.heap.size, o, none⟩ = false := fun o => by simp [World.frozen?, k8']
      clear hfar hbel hiw kR kR' k8 k8' kh kv hbw
      go_wp2
      refine bodyPost_ret (v := .agg #[.slice aa na ca, .slice (some ⟨w.heap.size + 1 + 1 + 1, 0, none⟩) 32 32, .slice none 0 0, .int .i64 fuel, .int .i64 0, .int .i64 0, .slice (some ⟨w.heap.size + 1 + 1, 0, none⟩) m m, .slice none 0 0, .int .i64 0, .int .i64 0, .slice none 0 0]) (by simp [results, Tryd.results73, go_sem, r0, r1, r2, r3, r4, r5, r6, r7, r8, r9, r10]) rfl ⟨w.heap.size + 1 + 1 + 1, w.heap.size + 1 + 1, rfl, set11_below HB.out (Nat.le_refl _) _ _ _ _ _ _ _ _ _ _ _, by omega, by omega, by omega, HI.out.keep (set11_far (by omega) _ _ _ _ _ _ _ _ _ _ _), HV.out.keep (set11_far (by omega) _ _ _ _ _ _ _ _ _ _ _)⟩
end Go.Proofs.YtdcdgopblbmgoaaDoor

namespace Go.Proofs.YtdcdgopblbmgoaaDoor
open Go.RowKit

set_option maxHeartbeats 4000000 in
set_option maxRecDepth 100000 in
theorem step_const (R : Nat) (aa : Option Addr) (na ca gh ch : Nat) (ta : Option Addr) (nt ct : Nat) (fuel k0 value : Int) (gv nv cv G n cn : Nat) (b pc : Int) (ka : Option Addr) (kn kc : Nat) (D : Nat) (v : Int) (vals hp tr K : List Int) (Bt : Nat) (w : World)
    (hst : Hid (PSt w w R aa na ca gh ch ta nt ct fuel k0 value gv nv cv G n cn b pc ka kn kc Bt vals hp tr K)) (hnv : Hid (nv = vals.length)) (hD : D < nv) (hR : R < Bt) (hgv : gv < Bt) (hgh : gh < Bt) (hRv : R ≠ gv) (hRh : R ≠ gh) (hB : Bt ≤ w.heap.size) :
    Calls Tryd.prog 117 #[.pointer (some ⟨R, 0, none⟩), .iface 214 (.agg #[.int .i64 D, .int .i64 v])] w
      fun e w' => e = .returned (.int .i64 0) ∧ PSt w w' R aa na ca gh ch ta nt ct fuel k0 value gv nv cv G n cn b pc ka kn kc Bt (vals.set D v) hp tr K := by
  have ba := fun o => balloc (Below.refl w.heap.size w) o
  have c6 := fun x => ((ba x).cell (p := ⟨R, 6, none⟩) (by show R < _; omega)).trans hst.out.2.1.c6
  have n1 : w.heap.size ≠ R := by omega
  have n2 : w.heap.size ≠ gv := by omega
  have n3 : R ≠ w.heap.size := by omega
  have n4 : gv ≠ w.heap.size := by omega
  have n5 : gv ≠ R := fun e => hRv e.symm
  have n6 : gh ≠ R := fun e => hRh e.symm
  have n7 : gh ≠ w.heap.size := by omega
  have hvh := hst.out.2.2.mem.ne
  have hhv : gh ≠ gv := fun e => hvh e.symm
  have hax : D < vals.length := by have := hnv.out; omega
  have VA0 := hst.out.2.2.mem.vals.2 D hax
  have VZ0 := hst.out.2.2.mem.vals.frozen D
  have HF := fun x => hide ((((hst.out.next hB hR (ba x)).setV hgv hRv hax v)).drew)
  generalize vals[D] = VD at *
  have cv1 := fun x => ((ba x).cell (p := ⟨gv, D, none⟩) (by show gv < _; omega)).trans VA0
  have cz1 := fun x => ((ba x).frozen (p := ⟨gv, D, none⟩) (by show gv < _; omega)).trans VZ0
  have Y := fun xT v w => assert_yes Tryd.underlying214 xT v w
  go_enter Tryd.func117, Tryd.ntmps117
  go_wp2
  go_region_held3 (fun w' => w'.cell? ⟨R, 6, none⟩ = some (.slice (some ⟨gv, 0, none⟩) nv cv) ∧ w'.cell? ⟨w.heap.size, 0, none⟩ = some (.int .i64 D) ∧ w'.cell? ⟨w.heap.size, 1, none⟩ = some (.int .i64 v)) (go_keep) (fail)
  go_wp2
  go_ret
  exact ⟨rfl, (HF _).out⟩
end Go.Proofs.YtdcdgopblbmgoaaDoor
