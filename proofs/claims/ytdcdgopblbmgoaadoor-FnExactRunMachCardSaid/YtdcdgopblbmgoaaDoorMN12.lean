import Derived.Test.YtdcdgopblbmgoaaDoorM4
import Derived.Test.YtdcdgopblbmgoaaDoorPure2
namespace Go.Proofs.YtdcdgopblbmgoaaDoor
open Go.RowKit

theorem zero12 {W : World} {R t : Nat} (h : W.heap[R]? = some (.cells #[.slice none 0 0, .slice none 0 0, .slice none 0 0, .int .i64 0, .int .i64 0, .int .i64 0, .slice none 0 0, .slice none 0 0, .int .i64 0, .int .i64 0, .slice none 0 0, .int .i64 0] t (0, 0))) : (W.cell? ⟨R, 0, none⟩ = some (.slice none 0 0) ∧ W.cell? ⟨R, 1, none⟩ = some (.slice none 0 0) ∧ W.cell? ⟨R, 2, none⟩ = some (.slice none 0 0) ∧ W.cell? ⟨R, 3, none⟩ = some (.int .i64 0) ∧ W.cell? ⟨R, 4, none⟩ = some (.int .i64 0) ∧ W.cell? ⟨R, 5, none⟩ = some (.int .i64 0) ∧ W.cell? ⟨R, 6, none⟩ = some (.slice none 0 0) ∧ W.cell? ⟨R, 7, none⟩ = some (.slice none 0 0) ∧ W.cell? ⟨R, 8, none⟩ = some (.int .i64 0) ∧ W.cell? ⟨R, 9, none⟩ = some (.int .i64 0) ∧ W.cell? ⟨R, 10, none⟩ = some (.slice none 0 0) ∧ W.cell? ⟨R, 11, none⟩ = some (.int .i64 0)) ∧ ∀ o, W.frozen? ⟨R, o, none⟩ = false := by
  refine ⟨⟨?_, ?_, ?_, ?_, ?_, ?_, ?_, ?_, ?_, ?_, ?_, ?_⟩, fun o => by simp [World.frozen?, h]⟩ <;> simp [World.cell?, h]

set_option maxHeartbeats 4000000 in
set_option maxRecDepth 100000 in
theorem runMI_good (m : Nat) (a : Option Addr) (n c : Nat) (aa : Option Addr) (na ca : Nat) (hA : Option Addr) (nh ch0 : Nat) (fuel : Nat) (xs : List MBlk) (args heap : List Int) (L B : Nat) (w : World)
    (ha : Hid (MBlksAt w L B a xs)) (hx : Hid (n = xs.length)) (hs : Hid (xs.length + mTot xs ≤ 1048576)) (hB : B ≤ w.heap.size) (hargs : Hid (IntsAt w L B aa args)) (hna : Hid (na = args.length)) (hheap : Hid (IntsAt w L B hA heap)) (hnh : Hid (nh = heap.length)) (hO : Hid (OpTab w)) (hT : Hid (TerTab w))
    (good : Hid (validM m xs = true)) (ok : runOk na nh fuel = true) (hm2 : m ≤ 64) (hn1 : 1 ≤ n) (hf : fuel ≤ 60000) (h32 : nh ≤ 32) :
    Calls Tryd.prog 47 #[.agg #[.int .i64 m, .slice a n c], .slice aa na ca, .slice hA nh ch0, .int .i64 fuel] w
      fun e w' => ∃ val, e = .returned val ∧ Below w.heap.size w w' ∧ OutAtF w' w.heap.size w'.heap.size val (runM xs args fuel 0 (startM m heap)) := by
  have HA := fun x y => hide (ha.out.keep ((balloc (balloc (Below.refl w.heap.size w) x) y).mono hB))
  have HO := fun x y => hide (hO.out.keep (balloc (balloc (Below.refl w.heap.size w) x) y))
  have HT := fun x y => hide (hT.out.keep (balloc (balloc (Below.refl w.heap.size w) x) y))
  generalize hR0 : runM xs args fuel 0 (startM m heap) = R0
  go_enter Tryd.func47, Tryd.ntmps47
  go_wp2_with (first | (go_at_call 41; refine (validMachI_any m a n c xs L B _ (HA _ _) hx hs (by simp; omega) (HO _ _) (HT _ _)).mono ?_; rintro e w1 ⟨rfl, hb1⟩; rw [good.out]; have HB1 := hide (bnext (balloc (balloc (Below.refl w.heap.size w) _) _) hb1); obtain ⟨hfb, hrb⟩ := boxes (hb1.mono (by simp)); have HRB := hide hrb; have z0 := hfb.1; have z1 := hfb.2; have hs1 := hb1.size; simp at hs1; clear hb1 hfb hrb) | (go_at_call 72; refine (validRun_any _ _ _ _ _ _ _ _).mono ?_; rintro e w2 ⟨rfl, rfl⟩; rw [ok]))
  have HNR := fun (W : World) (h : Below w.heap.size w W) => hide (by
    have q := newRun_any aa na ca hA nh ch0 fuel (m + 1) heap L B W (hide (hheap.out.keep (h.mono hB))) hnh h32 (by omega) (by have := h.size; omega)
    rw [show ((m + 1 : Nat) : Int) = IntKind.i64.wrap ((m : Int) + 1) by rw [IntKind.wrap_i64]; omega] at q
    exact q)
  have nz1 : w2.heap.size ≠ w.heap.size := by omega
  clear HA HO HT
  refine wp_region_held_drew (S := (fun w' => w'.cell? ⟨w.heap.size, 0, none⟩ = some (.int .i64 m))) (by kernel_rfl) (by (try dsimp only); go_keep) (fun hHeld => ?_)
  refine wpAnyH_take (i := 0) (v := ?_) rfl (by kernel_rfl) (by kernel_rfl) (by kernel_rfl) (fun _ _ _ h => h) (Or.inl ⟨by rfl, ?_⟩) (by assumption) ?_
  rotate_left
  · intro w hSw; (try dsimp only at hSw); go_simp; try with_reducible rfl
  simp only [Act.put, List.getElem_toArray, List.getElem_cons_zero, List.setIfInBounds_toArray, List.set_cons_zero, List.set_cons_succ]
  refine wpAnyH_take (i := 1) (v := ?_) rfl (by kernel_rfl) (by kernel_rfl) (by kernel_rfl) (fun _ _ _ h => h) (Or.inl ⟨by rfl, ?_⟩) (by assumption) ?_
  rotate_left
  · intro w hSw; (try dsimp only at hSw); go_simp; try with_reducible rfl
  simp only [Act.put, List.getElem_toArray, List.getElem_cons_zero, List.getElem_cons_succ, List.setIfInBounds_toArray, List.set_cons_zero, List.set_cons_succ]
  refine wpAnyH_take (i := 2) (v := ?_) rfl (by kernel_rfl) (by kernel_rfl) (by kernel_rfl) (fun _ _ _ h => h) (Or.inl ⟨by rfl, ?_⟩) (by assumption) ?_
  rotate_left
  · intro w hSw; (try dsimp only at hSw); go_simp; try with_reducible rfl
  simp only [Act.put, List.getElem_toArray, List.getElem_cons_zero, List.getElem_cons_succ, List.setIfInBounds_toArray, List.set_cons_zero, List.set_cons_succ]
  refine wpAnyH_take (i := 3) (v := ?_) rfl (by kernel_rfl) (by kernel_rfl) (by kernel_rfl) (fun _ _ _ h => h) (Or.inl ⟨by rfl, ?_⟩) (by assumption) ?_
  rotate_left
  · intro w hSw; (try dsimp only at hSw); go_simp; try with_reducible rfl
  simp only [Act.put, List.getElem_toArray, List.getElem_cons_zero, List.getElem_cons_succ, List.setIfInBounds_toArray, List.set_cons_zero, List.set_cons_succ]
  refine wpAnyH_take (i := 4) (v := ?_) rfl (by kernel_rfl) (by kernel_rfl) (by kernel_rfl) (fun _ _ _ h => h) (Or.inl ⟨by rfl, ?_⟩) (by assumption) ?_
  rotate_left
  · intro w hSw; (try dsimp only at hSw); go_simp; try with_reducible rfl
  simp only [Act.put, List.getElem_toArray, List.getElem_cons_zero, List.getElem_cons_succ, List.setIfInBounds_toArray, List.set_cons_zero, List.set_cons_succ]
  refine wpAnyH_take (i := 5) (v := ?_) rfl (by kernel_rfl) (by kernel_rfl) (by kernel_rfl) (fun _ _ _ h => h) (Or.inl ⟨by rfl, ?_⟩) (by assumption) ?_
  rotate_left
  · intro w hSw; (try dsimp only at hSw); go_simp; try with_reducible rfl
  simp only [Act.put, List.getElem_toArray, List.getElem_cons_zero, List.getElem_cons_succ, List.setIfInBounds_toArray, List.set_cons_zero, List.set_cons_succ]
  refine wpAnyH_take (i := 7) (v := ?_) rfl (by kernel_rfl) (by kernel_rfl) (by kernel_rfl) (fun _ _ _ h => h) (Or.inl ⟨by rfl, ?_⟩) (by assumption) ?_
  rotate_left
  · intro w hSw; (try dsimp only at hSw); go_simp; try with_reducible rfl
  simp only [Act.put, List.getElem_toArray, List.getElem_cons_zero, List.getElem_cons_succ, List.setIfInBounds_toArray, List.set_cons_zero, List.set_cons_succ]
  refine wpAnyH_take (i := 8) (v := ?_) rfl (by kernel_rfl) (by kernel_rfl) (by kernel_rfl) (fun _ _ _ h => h) (Or.inl ⟨by rfl, ?_⟩) (by assumption) ?_
  rotate_left
  · intro w hSw; (try dsimp only at hSw); go_simp; try with_reducible rfl
  simp only [Act.put, List.getElem_toArray, List.getElem_cons_zero, List.getElem_cons_succ, List.setIfInBounds_toArray, List.set_cons_zero, List.set_cons_succ]
  refine wpAnyH_ready (rs := [6, 10]) (by kernel_rfl) (by simp) ?_
  refine (AllReadyH.cons rfl (fun K hK => ?_) (AllReadyH.cons rfl (fun K hK => ?_) AllReadyH.nil))
  · skip
    go_simp
    refine (HNR _ HB1.out.drew).out.mono ?_
    rintro e w3 ⟨gh, gv, rfl, hb3, hgh, hgv, hne, hi3, hv3⟩
    have h23 : Below w2.heap.size w2 w3 := (Below.refl w2.heap.size w2).drew.trans hb3
    have hs3 := h23.size
    have y0 := (h23.cell (p := ⟨w.heap.size, 0, none⟩) (by show w.heap.size < _; omega)).trans z0
    have y1 := (h23.cell (p := ⟨w.heap.size, 1, none⟩) (by show w.heap.size < _; omega)).trans z1
    have hg3 := hi3.lt
    have hv3l := hv3.lt
    have nz3 : w3.heap.size ≠ w.heap.size := by omega
    simp at hgh hgv
    have HB3 := hide (HB1.out.trans (h23.mono (by omega)))
    have H23 := hide h23
    have HI3 := hide hi3
    have HV3 := hide hv3
    clear hb3 hi3 hv3 h23
    go_wp2_with fail
    refine hK.out _ _ (by first | with_reducible exact hHeld | ((try dsimp only); go_keep)) (fun hHeld => ?_)
    clear hK
    try simp only [Act.put, List.getElem_toArray, List.getElem_cons_zero, List.getElem_cons_succ, List.setIfInBounds_toArray, List.set_cons_zero, List.set_cons_succ]
    refine wpAnyH_take (i := 9) (v := ?_) rfl (by kernel_rfl) (by kernel_rfl) (by kernel_rfl) (fun _ _ _ h => h) (Or.inl ⟨by rfl, ?_⟩) (by assumption) ?_
    rotate_left
    · intro w hSw; (try dsimp only at hSw); go_simp; try with_reducible rfl
    simp only [Act.put, List.getElem_toArray, List.getElem_cons_zero, List.getElem_cons_succ, List.setIfInBounds_toArray, List.set_cons_zero, List.set_cons_succ]
    refine wpAnyH_ready (rs := [10]) (by kernel_rfl) (by simp) ?_
    refine AllReadyH.cons rfl (fun K hK => ?_) AllReadyH.nil
    go_simp
    refine hK.out _ _ (by first | with_reducible exact hHeld | ((try dsimp only); go_keep)) (fun hHeld => ?_)
    clear hK
    try simp only [Act.put, List.getElem_toArray, List.getElem_cons_zero, List.getElem_cons_succ, List.setIfInBounds_toArray, List.set_cons_zero, List.set_cons_succ]
    refine wpAnyH_ready (rs := [11]) (by kernel_rfl) (by simp) ?_
    refine AllReadyH.cons rfl (fun K hK => ?_) AllReadyH.nil
    go_simp
    refine hK.out _ _ (by first | with_reducible exact hHeld | ((try dsimp only); go_keep)) (fun hHeld => ?_)
    clear hK
    try simp only [Act.put, List.getElem_toArray, List.getElem_cons_zero, List.getElem_cons_succ, List.setIfInBounds_toArray, List.set_cons_zero, List.set_cons_succ]
    refine wpAnyH_done (by kernel_rfl) ?_ _
    go_upto_region 4 with fail
    refine letterN (P := Code.wp _ _ _ _) _ ?_
    intro W hW
    have hgl := HI3.out.lt
    have hvl := HV3.out.lt
    have fW : ∀ q, q < w3.heap.size → W.heap[q]? = w3.heap[q]? := fun q hq => by rw [hW]; exact (balloc (Below.refl w3.heap.size w3) _).block q hq
    have bW : Below w3.heap.size w3 W := by rw [hW]; exact balloc (Below.refl w3.heap.size w3) _
    have kR : W.heap[w3.heap.size]? = some (.cells (L11 aa na ca gh fuel gv (m + 1) ++ ([.int .i64 m] : List Value)).toArray 134 (0, 0)) := by rw [hW]; exact heap_new w3 _
    have HIN := hide (InitR.mk (w := w) (W := W) (m := m + 1) (aa := aa) (na := na) (ca := ca) (fuel := fuel) (R := w3.heap.size) (gv := gv) (gh := gh) (heap := heap) (tl := [.int .i64 m]) (HB3.out.trans (bW.mono (by omega))) (HRB.out.keep ((fW _ (by omega)).trans (H23.out.block _ (by omega)))) ⟨_, kR⟩ (HV3.out.keep (fW _ (by omega))) (HI3.out.keep (fW _ (by omega))) (by omega) (by omega))
    have v0 := (cell_of (o := 0) (fW w.heap.size (by omega))).trans y0
    have v1 := (cell_of (o := 1) (fW w.heap.size (by omega))).trans y1
    clear hW fW kR bW HI3 HV3 H23 HB3 hHeld y0 y1 hgh hgv hne nz3 hgl hvl hg3 hv3l
    generalize hRR : w3.heap.size = R at *
    obtain ⟨l1, l2, l3⟩ := HIN.out.lo
    have hRl := HIN.out.lt
    have HMN := hide (makeNodesM_any m m a n c xs R aa na ca args (fun o => W.cell? ⟨R, o, none⟩) L B L B W (hide (ha.out.keep (HIN.out.below.mono hB))) hx hs (by omega) hRl (by omega) (hide (hargs.out.keep (HIN.out.below.mono hB))) hna good (hide HIN.out.runBox) (hide (HIN.out.cell 11 _ rfl)) hn1)
    have hl32 : Hid (32 = R0.hp.length) := hide (by rw [← hR0, runM_hp]; simp [startM, heapR])
    have HR0 := hide hR0
    clear HNR hR0 z0 z1 hRR
    go_wp2_with fail
    refine HMN.out.mono ?_
    rintro e w5 ⟨rfl, G, c5, gs, cs, vs, hk5, hG5, hbx5, htb5⟩
    obtain ⟨p1, p2, p3⟩ := after_nodes HIN.out hk5 hbx5
    have hks5 := hk5.size
    have hrn := runM_any xs args fuel R aa na ca gh 32 gv m (m + 1) G n c5 W.heap.size gs cs vs heap w5 p1 p2 p3 htb5 good.out hx.out hn1 hs.out hf hRl HIN.out.vals.lt HIN.out.heap.lt HIN.out.ne.1 HIN.out.ne.2.1 HIN.out.ne.2.2 hG5
    rw [HR0.out] at hrn
    have HRN := hide hrn
    have HK5 := hide hk5
    clear hrn hk5 hbx5 htb5 p1 p2 p3 v0 v1
    go_wp2_with fail
    refine HRN.out.mono ?_
    rintro e w6 ⟨ta, nt, ct, rfl, ka, kn, kc, bb, pc', vals, K, h6⟩
    obtain ⟨⟨⟨r0, r1, r2, r3, r4⟩, rz⟩, hfin⟩ := after_run HIN.out HK5.out hl32.out h6
    have HFI := hide hfin
    clear h6 hfin
    go_wp2
    exact bodyPost_ret (v := .agg #[.int .i64 R0.code, .int .i64 R0.value, .int .i64 R0.steps, .slice ta nt ct, .slice (some ⟨gh, 0, none⟩) 32 32]) (by simp [results, Tryd.results47, go_sem, r0, r1, r2, r3, r4]) rfl ⟨_, rfl, HFI.out [.int .i64 R0.code, .int .i64 R0.value, .int .i64 R0.steps, .slice ta nt ct, .slice (some ⟨gh, 0, none⟩) 32 32]⟩
  · skip
    go_simp
    refine hK.out _ _ (by first | with_reducible exact hHeld | ((try dsimp only); go_keep)) (fun hHeld => ?_)
    clear hK
    try simp only [Act.put, List.getElem_toArray, List.getElem_cons_zero, List.getElem_cons_succ, List.setIfInBounds_toArray, List.set_cons_zero, List.set_cons_succ]
    refine wpAnyH_ready (rs := [6]) (by kernel_rfl) (by simp) ?_
    refine AllReadyH.cons rfl (fun K hK => ?_) AllReadyH.nil
    go_simp
    refine (HNR _ (balloc HB1.out _).drew).out.mono ?_
    rintro e w3 ⟨gh, gv, rfl, hb3, hgh, hgv, hne, hi3, hv3⟩
    have h23 : Below w2.heap.size w2 w3 := (balloc (Below.refl w2.heap.size w2) _).drew.trans (hb3.mono (by simp))
    have hs3 := h23.size
    have y0 := (h23.cell (p := ⟨w.heap.size, 0, none⟩) (by show w.heap.size < _; omega)).trans z0
    have y1 := (h23.cell (p := ⟨w.heap.size, 1, none⟩) (by show w.heap.size < _; omega)).trans z1
    have hg3 := hi3.lt
    have hv3l := hv3.lt
    have nz3 : w3.heap.size ≠ w.heap.size := by omega
    simp at hgh hgv
    have e4 : w3.heap[w2.heap.size]? = some (.cells #[.slice none 0 0, .slice none 0 0, .slice none 0 0, .int .i64 0, .int .i64 0, .int .i64 0, .slice none 0 0, .slice none 0 0, .int .i64 0, .int .i64 0, .slice none 0 0, .int .i64 0] 134 (0, 0)) := (hb3.block _ (by simp)).trans (heap_new w2 _)
    have hR3 : w2.heap.size < w3.heap.size := by have := hb3.size; simp at this; omega
    obtain ⟨⟨d0, d1, d2, d3, d4, d5, d6, d7, d8, d9, d10, d11⟩, dz⟩ := zero12 e4
    have HB3 := hide (HB1.out.trans (h23.mono (by omega)))
    have H23 := hide h23
    have HI3 := hide hi3
    have HV3 := hide hv3
    clear hb3 hi3 hv3 h23
    go_wp2_with fail
    refine hK.out _ _ (by first | with_reducible exact hHeld | ((try dsimp only); go_keep)) (fun hHeld => ?_)
    clear hK
    try simp only [Act.put, List.getElem_toArray, List.getElem_cons_zero, List.getElem_cons_succ, List.setIfInBounds_toArray, List.set_cons_zero, List.set_cons_succ]
    refine wpAnyH_take (i := 9) (v := ?_) rfl (by kernel_rfl) (by kernel_rfl) (by kernel_rfl) (fun _ _ _ h => h) (Or.inl ⟨by rfl, ?_⟩) (by assumption) ?_
    rotate_left
    · intro w hSw; (try dsimp only at hSw); go_simp; try with_reducible rfl
    simp only [Act.put, List.getElem_toArray, List.getElem_cons_zero, List.getElem_cons_succ, List.setIfInBounds_toArray, List.set_cons_zero, List.set_cons_succ]
    refine wpAnyH_ready (rs := [11]) (by kernel_rfl) (by simp) ?_
    refine AllReadyH.cons rfl (fun K hK => ?_) AllReadyH.nil
    go_simp
    refine hK.out _ _ (by first | with_reducible exact hHeld | ((try dsimp only); go_keep)) (fun hHeld => ?_)
    clear hK
    try simp only [Act.put, List.getElem_toArray, List.getElem_cons_zero, List.getElem_cons_succ, List.setIfInBounds_toArray, List.set_cons_zero, List.set_cons_succ]
    refine wpAnyH_done (by kernel_rfl) ?_ _
    go_upto_region 4 with fail
    refine letterN (P := Code.wp _ _ _ _) _ ?_
    intro W hW
    have hgl := HI3.out.lt
    have hvl := HV3.out.lt
    have hW' : W = setL w3 (w2.heap.size) 0 [.slice aa na ca, .slice (some ⟨gh, 0, none⟩) 32 32, .slice none 0 0, .int .i64 fuel, .int .i64 0, .int .i64 0, .slice (some ⟨gv, 0, none⟩) (m + 1) (m + 1), .slice none 0 0, .int .i64 0, .int .i64 0, .slice none 0 0, .int .i64 m] := hW
    have fW : ∀ q, q < w3.heap.size → q ≠ w2.heap.size → W.heap[q]? = w3.heap[q]? := fun q hq hn => by rw [hW']; exact setL_far hn _ w3 0
    have kR : W.heap[w2.heap.size]? = some (.cells (L11 aa na ca gh fuel gv (m + 1) ++ ([.int .i64 m] : List Value)).toArray 134 (0, 0)) := by rw [hW']; exact setL_at (R := w2.heap.size) [.slice aa na ca, .slice (some ⟨gh, 0, none⟩) 32 32, .slice none 0 0, .int .i64 fuel, .int .i64 0, .int .i64 0, .slice (some ⟨gv, 0, none⟩) (m + 1) (m + 1), .slice none 0 0, .int .i64 0, .int .i64 0, .slice none 0 0, .int .i64 m] [.slice none 0 0, .slice none 0 0, .slice none 0 0, .int .i64 0, .int .i64 0, .int .i64 0, .slice none 0 0, .slice none 0 0, .int .i64 0, .int .i64 0, .slice none 0 0, .int .i64 0] [] w3 e4 rfl
    have bW : Below w.heap.size w W := by rw [hW']; exact setL_below (by omega) _ w3 0 HB3.out
    clear hW'
    have HIN := hide (InitR.mk (w := w) (W := W) (m := m + 1) (aa := aa) (na := na) (ca := ca) (fuel := fuel) (R := w2.heap.size) (gv := gv) (gh := gh) (heap := heap) (tl := [.int .i64 m]) bW (HRB.out.keep ((fW _ (by omega) (by omega)).trans (H23.out.block _ (by omega)))) ⟨_, kR⟩ (HV3.out.keep (fW _ (by omega) (by omega))) (HI3.out.keep (fW _ (by omega) (by omega))) (by omega) (by omega))
    have v0 := (cell_of (o := 0) (fW w.heap.size (by omega) (by omega))).trans y0
    have v1 := (cell_of (o := 1) (fW w.heap.size (by omega) (by omega))).trans y1
    clear hW fW kR bW HI3 HV3 H23 HB3 hHeld y0 y1 hgh hgv hne nz3 hgl hvl hg3 hv3l e4 d0 d1 d2 d3 d4 d5 d6 d7 d8 d9 d10 d11 dz hR3
    generalize hRR : w2.heap.size = R at *
    obtain ⟨l1, l2, l3⟩ := HIN.out.lo
    have hRl := HIN.out.lt
    have HMN := hide (makeNodesM_any m m a n c xs R aa na ca args (fun o => W.cell? ⟨R, o, none⟩) L B L B W (hide (ha.out.keep (HIN.out.below.mono hB))) hx hs (by omega) hRl (by omega) (hide (hargs.out.keep (HIN.out.below.mono hB))) hna good (hide HIN.out.runBox) (hide (HIN.out.cell 11 _ rfl)) hn1)
    have hl32 : Hid (32 = R0.hp.length) := hide (by rw [← hR0, runM_hp]; simp [startM, heapR])
    have HR0 := hide hR0
    clear HNR hR0 z0 z1 hRR
    go_wp2_with fail
    refine HMN.out.mono ?_
    rintro e w5 ⟨rfl, G, c5, gs, cs, vs, hk5, hG5, hbx5, htb5⟩
    obtain ⟨p1, p2, p3⟩ := after_nodes HIN.out hk5 hbx5
    have hks5 := hk5.size
    have hrn := runM_any xs args fuel R aa na ca gh 32 gv m (m + 1) G n c5 W.heap.size gs cs vs heap w5 p1 p2 p3 htb5 good.out hx.out hn1 hs.out hf hRl HIN.out.vals.lt HIN.out.heap.lt HIN.out.ne.1 HIN.out.ne.2.1 HIN.out.ne.2.2 hG5
    rw [HR0.out] at hrn
    have HRN := hide hrn
    have HK5 := hide hk5
    clear hrn hk5 hbx5 htb5 p1 p2 p3 v0 v1
    go_wp2_with fail
    refine HRN.out.mono ?_
    rintro e w6 ⟨ta, nt, ct, rfl, ka, kn, kc, bb, pc', vals, K, h6⟩
    obtain ⟨⟨⟨r0, r1, r2, r3, r4⟩, rz⟩, hfin⟩ := after_run HIN.out HK5.out hl32.out h6
    have HFI := hide hfin
    clear h6 hfin
    go_wp2
    exact bodyPost_ret (v := .agg #[.int .i64 R0.code, .int .i64 R0.value, .int .i64 R0.steps, .slice ta nt ct, .slice (some ⟨gh, 0, none⟩) 32 32]) (by simp [results, Tryd.results47, go_sem, r0, r1, r2, r3, r4]) rfl ⟨_, rfl, HFI.out [.int .i64 R0.code, .int .i64 R0.value, .int .i64 R0.steps, .slice ta nt ct, .slice (some ⟨gh, 0, none⟩) 32 32]⟩
end Go.Proofs.YtdcdgopblbmgoaaDoor

namespace Go.Proofs.YtdcdgopblbmgoaaDoor
open Go.RowKit

set_option maxHeartbeats 4000000 in
theorem goodInstr_any (op dst a b imm n most : Int) (w : World) :
    Calls Tryd.prog 50 #[.agg #[.int .i64 op, .int .i64 dst, .int .i64 a, .int .i64 b, .int .i64 imm], .int .i64 n, .int .i64 most] w fun e w' => e = .returned (.bool (insOk n most ⟨op, dst, a, b, imm⟩)) ∧ Below w.heap.size w w' := by
  by_cases h : 1 ≤ op ∧ op ≤ most
  · obtain ⟨h1, h2⟩ := h
    go_enter Tryd.func50, Tryd.ntmps50
    go_wp2_with fail
    refine (usedD _ _).mono ?_
    rintro e w1 ⟨rfl, rfl⟩
    go_wp2_with fail
    refine (usedA _ _).mono ?_
    rintro e w1 ⟨rfl, rfl⟩
    go_wp2_with fail
    refine (usedB _ _).mono ?_
    rintro e w1 ⟨rfl, rfl⟩
    go_wp2
    all_goals
      go_ret
      refine ⟨ret_bool ?_, balloc (Below.refl _ _) _⟩
      first | (simp [insOk, fld, immOk, *]; done) | (simp [insOk, fld, immOk, *]; omega) | (rw [Bool.eq_iff_iff]; simp [insOk, fld, immOk, *]; omega)
  · go_enter Tryd.func50, Tryd.ntmps50
    go_wp2
    all_goals
      go_ret
      refine ⟨ret_bool ?_, balloc (Below.refl _ _) _⟩
      symm
      unfold insOk
      by_cases h1 : 1 ≤ op
      · rw [decide_eq_false (p := op ≤ most) (by omega)]; simp
      · rw [decide_eq_false (p := 1 ≤ op) h1]; simp
end Go.Proofs.YtdcdgopblbmgoaaDoor
