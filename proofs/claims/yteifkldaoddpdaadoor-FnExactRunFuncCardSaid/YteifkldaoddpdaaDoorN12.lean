import Derived.Test.YteifkldaoddpdaaDoorN12b
import Derived.Test.YteifkldaoddpdaaDoorMark2
namespace Go.Proofs.YteifkldaoddpdaaDoor
open Go.RowKit

set_option maxHeartbeats 4000000 in
set_option maxRecDepth 100000 in
theorem runI_good (m : Nat) (a : Option Addr) (n c : Nat) (aa : Option Addr) (na ca : Nat) (hA : Option Addr) (nh ch0 : Nat) (fuel : Nat) (xs : List Blk) (args heap : List Int) (L B : Nat) (w : World)
    (ha : Hid (BlksAt w L B a xs)) (hx : Hid (n = xs.length)) (hs : Hid (xs.length + blksTot xs ≤ 1048576)) (hB : B ≤ w.heap.size) (hargs : Hid (IntsAt w L B aa args)) (hna : Hid (na = args.length)) (hheap : Hid (IntsAt w L B hA heap)) (hnh : Hid (nh = heap.length)) (hO : Hid (OpTab w)) (hT : Hid (TerTab w))
    (good : Hid (validS ⟨m, xs⟩ = true)) (ok : runOk na nh fuel = true) (hm2 : m ≤ 2000) (hn1 : 1 ≤ n) (hf : fuel ≤ 60000) (h32 : nh ≤ 32) :
    Calls Tryd.prog 19 #[.agg #[.int .i64 m, .slice a n c], .slice aa na ca, .slice hA nh ch0, .int .i64 fuel] w
      fun e w' => ∃ val, e = .returned val ∧ Below w.heap.size w w' ∧ OutAtF w' w.heap.size w'.heap.size val (runR ⟨m, xs⟩ args fuel 0 (startR ⟨m, xs⟩ heap)) := by
  have HA := fun x y => hide (ha.out.keep ((balloc (balloc (Below.refl w.heap.size w) x) y).mono hB))
  have HO := fun x y => hide (hO.out.keep (balloc (balloc (Below.refl w.heap.size w) x) y))
  have HT := fun x y => hide (hT.out.keep (balloc (balloc (Below.refl w.heap.size w) x) y))
  have GI : Hid (validI ⟨m, xs⟩ = true) := by show _ = _; rw [valid_same]; exact good.out
  have hmk := run_make_row' (P := Tryd.prog) 38 2 (.int .i64 0) 8 Tryd.underlying38 Tryd.info2 rfl .i64 .i64 m (by omega) (by omega)
  generalize hR0 : runR ⟨m, xs⟩ args fuel 0 (startR ⟨m, xs⟩ heap) = R0
  go_enter Tryd.func19, Tryd.ntmps19
  go_wp2_with (first | (go_at_call 9; refine (validFuncI_any m a n c xs L B _ (HA _ _) hx hs (by simp; omega) (HO _ _) (HT _ _)).mono ?_; rintro e w1 ⟨rfl, hb1⟩; rw [GI.out]; have HB1 := hide (bnext (balloc (balloc (Below.refl w.heap.size w) _) _) hb1); obtain ⟨hfb, hrb⟩ := boxes (hb1.mono (by simp)); have HFB := hide hfb; have HRB := hide hrb; have z0 := hfb.1; have z1 := hfb.2; have hs1 := hb1.size; simp at hs1; clear hb1 hfb hrb) | (go_at_call 50; refine (validRun_any _ _ _ _ _ _ _ _).mono ?_; rintro e w2 ⟨rfl, rfl⟩; rw [ok]))
  have HNR := fun (W : World) (h : Below w.heap.size w W) => hide (newRun_any aa na ca hA nh ch0 fuel heap L B W (hide (hheap.out.keep (h.mono hB))) hnh h32 (by have := h.size; omega))
  have zz1 : ∀ x, (w2.alloc x).cell? ⟨w.heap.size, 0, none⟩ = some (.int .i64 m) := fun x => ((balloc (Below.refl w2.heap.size w2) x).cell (p := ⟨w.heap.size, 0, none⟩) (by show w.heap.size < _; omega)).trans z0
  have zz2 : ∀ x y, ((w2.alloc x).alloc y).cell? ⟨w.heap.size, 0, none⟩ = some (.int .i64 m) := fun x y => ((balloc (balloc (Below.refl w2.heap.size w2) x) y).cell (p := ⟨w.heap.size, 0, none⟩) (by show w.heap.size < _; omega)).trans z0
  have nz1 : w2.heap.size ≠ w.heap.size := by omega
  have nz2 : w2.heap.size + 1 ≠ w.heap.size := by omega
  refine wp_region_held_drew (S := (fun w' => w'.cell? ⟨w.heap.size, 0, none⟩ = some (.int .i64 m))) (by kernel_rfl) (by (try dsimp only); go_keep) (fun hHeld => ?_)
  refine wpAnyH_take (i := 0) (v := ?_) rfl (by kernel_rfl) (by kernel_rfl) (by kernel_rfl) (fun _ _ _ h => h) (Or.inl ⟨by rfl, ?_⟩) (by assumption) ?_
  rotate_left
  · intro w hSw; (try dsimp only at hSw); go_simp; try with_reducible rfl
  simp only [Act.put, List.getElem_toArray, List.getElem_cons_zero, List.setIfInBounds_toArray, List.set_cons_zero, List.set_cons_succ]
  refine wpAnyH_take (i := 1) (v := ?_) rfl (by kernel_rfl) (by kernel_rfl) (by kernel_rfl) (fun _ _ _ h => h) (Or.inl ⟨by rfl, ?_⟩) (by assumption) ?_
  rotate_left
  · intro w hSw; (try dsimp only at hSw); go_simp; try with_reducible rfl
  simp only [Act.put, List.getElem_toArray, List.getElem_cons_zero, List.getElem_cons_succ, List.setIfInBounds_toArray, List.set_cons_zero, List.set_cons_succ]
  refine wpAnyH_take (i := 2) (v := ?_) rfl (by kernel_rfl) (by kernel_rfl) (by kernel_rfl) (fun _ _ _ h => h) (Or.inl ⟨by rfl, ?_⟩) (by assumption) ?_
  rotate_left
  · intro w hSw; (try dsimp only at hSw); go_simp; try with_reducible rfl
  simp only [Act.put, List.getElem_toArray, List.getElem_cons_zero, List.getElem_cons_succ, List.setIfInBounds_toArray, List.set_cons_zero, List.set_cons_succ]
  refine wpAnyH_take (i := 4) (v := ?_) rfl (by kernel_rfl) (by kernel_rfl) (by kernel_rfl) (fun _ _ _ h => h) (Or.inl ⟨by rfl, ?_⟩) (by assumption) ?_
  rotate_left
  · intro w hSw; (try dsimp only at hSw); go_simp; try with_reducible rfl
  simp only [Act.put, List.getElem_toArray, List.getElem_cons_zero, List.getElem_cons_succ, List.setIfInBounds_toArray, List.set_cons_zero, List.set_cons_succ]
  refine wpAnyH_take (i := 5) (v := ?_) rfl (by kernel_rfl) (by kernel_rfl) (by kernel_rfl) (fun _ _ _ h => h) (Or.inl ⟨by rfl, ?_⟩) (by assumption) ?_
  rotate_left
  · intro w hSw; (try dsimp only at hSw); go_simp; try with_reducible rfl
  simp only [Act.put, List.getElem_toArray, List.getElem_cons_zero, List.getElem_cons_succ, List.setIfInBounds_toArray, List.set_cons_zero, List.set_cons_succ]
  refine wpAnyH_ready (rs := [3, 6, 8]) (by kernel_rfl) (by simp) ?_
  refine (AllReadyH.cons rfl (fun K hK => ?_) (AllReadyH.cons rfl (fun K hK => ?_) (AllReadyH.cons rfl (fun K hK => ?_) AllReadyH.nil)))
  · skip
    go_simp
    refine (HNR _ (by first | exact HB1.out.drew | exact (balloc HB1.out _).drew | exact (balloc (balloc HB1.out _) _).drew)).out.mono ?_
    rintro e w3 ⟨gh, ch, rfl, hb3, hgh, hi3⟩
    obtain ⟨k3, f3⟩ := bcell hb3
    have hs3 := hb3.size
    simp at hs3
    have z3 : w3.cell? ⟨w.heap.size, 0, none⟩ = some (.int .i64 m) := (hb3.cell (p := ⟨w.heap.size, 0, none⟩) (by show w.heap.size < _; simp; omega)).trans (by first | exact z0 | exact zz1 _ | exact zz2 _ _)
    have HB3 := hide hb3
    have HI3 := hide hi3
    clear hb3 hi3
    go_wp2_with fail
    refine hK.out _ _ (by first | with_reducible exact hHeld | ((try dsimp only); go_keep)) (fun hHeld => ?_)
    clear hK
    try simp only [Act.put, List.getElem_toArray, List.getElem_cons_zero, List.getElem_cons_succ, List.setIfInBounds_toArray, List.set_cons_zero, List.set_cons_succ]
    refine wpAnyH_ready (rs := [6, 8]) (by kernel_rfl) (by simp) ?_
    refine (AllReadyH.cons rfl (fun K hK => ?_) (AllReadyH.cons rfl (fun K hK => ?_) AllReadyH.nil))
    · skip
      go_simp
      refine hK.out _ _ (by first | with_reducible exact hHeld | ((try dsimp only); go_keep)) (fun hHeld => ?_)
      clear hK
      try simp only [Act.put, List.getElem_toArray, List.getElem_cons_zero, List.getElem_cons_succ, List.setIfInBounds_toArray, List.set_cons_zero, List.set_cons_succ]
      refine wpAnyH_take (i := 7) (v := ?_) rfl (by kernel_rfl) (by kernel_rfl) (by kernel_rfl) (fun _ _ _ h => h) (Or.inl ⟨by rfl, ?_⟩) (by assumption) ?_
      rotate_left
      · intro w hSw; (try dsimp only at hSw); go_simp; try with_reducible rfl
      simp only [Act.put, List.getElem_toArray, List.getElem_cons_zero, List.getElem_cons_succ, List.setIfInBounds_toArray, List.set_cons_zero, List.set_cons_succ]
      refine wpAnyH_ready (rs := [8]) (by kernel_rfl) (by simp) ?_
      refine AllReadyH.cons rfl (fun K hK => ?_) AllReadyH.nil
      go_simp
      refine hK.out _ _ (by first | with_reducible exact hHeld | ((try dsimp only); go_keep)) (fun hHeld => ?_)
      clear hK
      try simp only [Act.put, List.getElem_toArray, List.getElem_cons_zero, List.getElem_cons_succ, List.setIfInBounds_toArray, List.set_cons_zero, List.set_cons_succ]
      refine wpAnyH_ready (rs := [9]) (by kernel_rfl) (by simp) ?_
      refine AllReadyH.cons rfl (fun K hK => ?_) AllReadyH.nil
      go_simp
      refine hK.out _ _ (by first | with_reducible exact hHeld | ((try dsimp only); go_keep)) (fun hHeld => ?_)
      clear hK
      try simp only [Act.put, List.getElem_toArray, List.getElem_cons_zero, List.getElem_cons_succ, List.setIfInBounds_toArray, List.set_cons_zero, List.set_cons_succ]
      refine wpAnyH_done (by kernel_rfl) ?_ _
      go_upto_region 4 with fail
      refine letterN (P := Code.wp _ _ _ _) _ ?_
      intro W hW
      have hgl := HI3.out.lt
      have h23 : Below w2.heap.size w2 w3 := (Below.refl w2.heap.size w2).drew.trans HB3.out
      have hg2 : w2.heap.size ≤ gh := hgh
      have HIN := hide (Init.mk' (R := w3.heap.size + 1) (gv := w3.heap.size) (heap := heap) HB1.out HFB.out HRB.out (by omega) (W := W) (by rw [hW]; exact balloc (balloc h23 _) _) (by rw [hW]; have h := heap_new (w3.alloc (.cells (madeCells #[.int .i64 0] m) 2)) (.cells #[.slice aa na ca, .slice (some ⟨gh, 0, none⟩) 32 ch, .slice none 0 0, .int .i64 fuel, .int .i64 0, .int .i64 0, .slice (some ⟨w3.heap.size, 0, none⟩) m m, .slice none 0 0, .int .i64 0, .int .i64 0, .slice none 0 0] 81); rw [World.size_alloc] at h; exact h) (by rw [hW]; exact ((balloc (Below.refl _ (w3.alloc (.cells (madeCells #[.int .i64 0] m) 2))) _).block _ (by simp)).trans (heap_new w3 (.cells (madeCells #[.int .i64 0] m) 2))) (HI3.out.keep (by rw [hW]; exact (balloc (balloc (Below.refl w3.heap.size w3) _) _).block gh hgl)) (by omega) (by omega) (by omega) (by omega) (by omega) (by omega))
      clear hW k3 f3 hs3 z3 hgh hg2 h23 hgl HB3 HI3 hHeld
      generalize w3.heap.size + 1 = R at *
      generalize w3.heap.size = gv at *
      obtain ⟨y0, y1⟩ := HIN.out.fb
      obtain ⟨l1, l2, l3⟩ := HIN.out.lo
      have hRl := HIN.out.lt
      have h1w := hT.out.1
      have HMN := hide (makeNodes_any m a n c xs R aa na ca args (fun o => W.cell? ⟨R, o, none⟩) L B L B W (hide (ha.out.keep (HIN.out.below.mono hB))) hx hs (by omega) hRl (by omega) (by omega) (hide (hargs.out.keep (HIN.out.below.mono hB))) hna good (hide (hT.out.keep HIN.out.below)) (hide ⟨HIN.out.box.c0, HIN.out.box.c7, HIN.out.box.fz, fun o _ => rfl⟩))
      have hl32 : Hid (32 = R0.hp.length) := hide (by rw [← hR0, runR_hp]; simp [startR, heapR])
      have HR0 := hide hR0
      clear HNR zz1 zz2 hmk hR0 z0 z1
      go_wp2_with fail
      refine HMN.out.mono ?_
      rintro e w4 ⟨G, c4, rfl, hk4, hG4, hbx4, hnd4⟩
      obtain ⟨hpr, g1, g2, g3, g4⟩ := after_nodes HIN.out hk4 hG4 hbx4 hnd4 hn1 HR0.out
      have HRN := hide (run_any ⟨m, xs⟩ args fuel R0 R aa na ca gh ch gv m m G n c4 w4.heap.size (startR ⟨m, xs⟩ heap) none 0 0 none 0 0 [] w4 (hide hpr) good (hide rfl) hx hs hf g1 g2 g3 HIN.out.ne.1 HIN.out.ne.2.1 g4 (Nat.le_refl _))
      have HK4 := hide hk4
      clear hk4 hbx4 hnd4 hpr
      go_wp2_with fail
      refine HRN.out.mono ?_
      rintro e w5 ⟨rfl, ta, nt, ct, ka, kn, kc, bb, pc, vals, K, h5⟩
      have h5R : R < w5.heap.size := by have := h5.1.size; omega
      have H5 := hide h5
      clear h5
      go_wp2_with fail
      refine (outcome_any R R0.code R0.value R0.steps ta nt ct (some ⟨gh, 0, none⟩) 32 ch _ H5.out.2.1.c1 H5.out.2.1.c2 H5.out.2.1.c4 H5.out.2.1.c5 h5R).mono ?_
      rintro e w6 ⟨rfl, h6⟩
      obtain ⟨⟨⟨r0, r1, r2, r3, r4⟩, rz⟩, hfin⟩ := after_run HIN.out HK4.out hl32.out H5.out h6
      have HFI := hide hfin
      clear h6 hfin
      go_wp2
      exact bodyPost_ret (v := .agg #[.int .i64 R0.code, .int .i64 R0.value, .int .i64 R0.steps, .slice ta nt ct, .slice (some ⟨gh, 0, none⟩) 32 ch]) (by simp [results, Tryd.results19, go_sem, r0, r1, r2, r3, r4]) rfl ⟨_, rfl, HFI.out _ _ _ _ _⟩
    · skip
      go_simp
      refine hK.out _ _ (by first | with_reducible exact hHeld | ((try dsimp only); go_keep)) (fun hHeld => ?_)
      clear hK
      try simp only [Act.put, List.getElem_toArray, List.getElem_cons_zero, List.getElem_cons_succ, List.setIfInBounds_toArray, List.set_cons_zero, List.set_cons_succ]
      refine wpAnyH_ready (rs := [6]) (by kernel_rfl) (by simp) ?_
      refine AllReadyH.cons rfl (fun K hK => ?_) AllReadyH.nil
      go_simp
      refine hK.out _ _ (by first | with_reducible exact hHeld | ((try dsimp only); go_keep)) (fun hHeld => ?_)
      clear hK
      try simp only [Act.put, List.getElem_toArray, List.getElem_cons_zero, List.getElem_cons_succ, List.setIfInBounds_toArray, List.set_cons_zero, List.set_cons_succ]
      refine wpAnyH_take (i := 7) (v := ?_) rfl (by kernel_rfl) (by kernel_rfl) (by kernel_rfl) (fun _ _ _ h => h) (Or.inl ⟨by rfl, ?_⟩) (by assumption) ?_
      rotate_left
      · intro w hSw; (try dsimp only at hSw); go_simp; try with_reducible rfl
      simp only [Act.put, List.getElem_toArray, List.getElem_cons_zero, List.getElem_cons_succ, List.setIfInBounds_toArray, List.set_cons_zero, List.set_cons_succ]
      refine wpAnyH_ready (rs := [9]) (by kernel_rfl) (by simp) ?_
      refine AllReadyH.cons rfl (fun K hK => ?_) AllReadyH.nil
      go_simp
      refine hK.out _ _ (by first | with_reducible exact hHeld | ((try dsimp only); go_keep)) (fun hHeld => ?_)
      clear hK
      try simp only [Act.put, List.getElem_toArray, List.getElem_cons_zero, List.getElem_cons_succ, List.setIfInBounds_toArray, List.set_cons_zero, List.set_cons_succ]
      refine wpAnyH_done (by kernel_rfl) ?_ _
      go_upto_region 4 with fail
      refine letterN (P := Code.wp _ _ _ _) _ ?_
      intro W hW
      have hgl := HI3.out.lt
      have h23 : Below w2.heap.size w2 w3 := (Below.refl w2.heap.size w2).drew.trans HB3.out
      have hg2 : w2.heap.size ≤ gh := hgh
      have HIN := hide (Init.mk' (R := w3.heap.size) (gv := w3.heap.size + 1) (heap := heap) HB1.out HFB.out HRB.out (by omega) (W := W) (by rw [hW]; exact balloc (balloc h23 _) _) (by rw [hW]; exact ((balloc (Below.refl _ (w3.alloc _)) _).block _ (by simp)).trans (heap_new w3 _)) (by rw [hW]; have h := heap_new (w3.alloc (.cells #[.slice aa na ca, .slice (some ⟨gh, 0, none⟩) 32 ch, .slice none 0 0, .int .i64 fuel, .int .i64 0, .int .i64 0, .slice (some ⟨w3.heap.size + 1, 0, none⟩) m m, .slice none 0 0, .int .i64 0, .int .i64 0, .slice none 0 0] 81)) (.cells (madeCells #[.int .i64 0] m) 2); rw [World.size_alloc] at h; exact h) (HI3.out.keep (by rw [hW]; exact (balloc (balloc (Below.refl w3.heap.size w3) _) _).block gh hgl)) (by omega) (by omega) (by omega) (by omega) (by omega) (by omega))
      clear hW k3 f3 hs3 z3 hgh hg2 h23 hgl HB3 HI3 hHeld
      generalize w3.heap.size + 1 = gv at *
      generalize w3.heap.size = R at *
      obtain ⟨y0, y1⟩ := HIN.out.fb
      obtain ⟨l1, l2, l3⟩ := HIN.out.lo
      have hRl := HIN.out.lt
      have h1w := hT.out.1
      have HMN := hide (makeNodes_any m a n c xs R aa na ca args (fun o => W.cell? ⟨R, o, none⟩) L B L B W (hide (ha.out.keep (HIN.out.below.mono hB))) hx hs (by omega) hRl (by omega) (by omega) (hide (hargs.out.keep (HIN.out.below.mono hB))) hna good (hide (hT.out.keep HIN.out.below)) (hide ⟨HIN.out.box.c0, HIN.out.box.c7, HIN.out.box.fz, fun o _ => rfl⟩))
      have hl32 : Hid (32 = R0.hp.length) := hide (by rw [← hR0, runR_hp]; simp [startR, heapR])
      have HR0 := hide hR0
      clear HNR zz1 zz2 hmk hR0 z0 z1
      go_wp2_with fail
      refine HMN.out.mono ?_
      rintro e w4 ⟨G, c4, rfl, hk4, hG4, hbx4, hnd4⟩
      obtain ⟨hpr, g1, g2, g3, g4⟩ := after_nodes HIN.out hk4 hG4 hbx4 hnd4 hn1 HR0.out
      have HRN := hide (run_any ⟨m, xs⟩ args fuel R0 R aa na ca gh ch gv m m G n c4 w4.heap.size (startR ⟨m, xs⟩ heap) none 0 0 none 0 0 [] w4 (hide hpr) good (hide rfl) hx hs hf g1 g2 g3 HIN.out.ne.1 HIN.out.ne.2.1 g4 (Nat.le_refl _))
      have HK4 := hide hk4
      clear hk4 hbx4 hnd4 hpr
      go_wp2_with fail
      refine HRN.out.mono ?_
      rintro e w5 ⟨rfl, ta, nt, ct, ka, kn, kc, bb, pc, vals, K, h5⟩
      have h5R : R < w5.heap.size := by have := h5.1.size; omega
      have H5 := hide h5
      clear h5
      go_wp2_with fail
      refine (outcome_any R R0.code R0.value R0.steps ta nt ct (some ⟨gh, 0, none⟩) 32 ch _ H5.out.2.1.c1 H5.out.2.1.c2 H5.out.2.1.c4 H5.out.2.1.c5 h5R).mono ?_
      rintro e w6 ⟨rfl, h6⟩
      obtain ⟨⟨⟨r0, r1, r2, r3, r4⟩, rz⟩, hfin⟩ := after_run HIN.out HK4.out hl32.out H5.out h6
      have HFI := hide hfin
      clear h6 hfin
      go_wp2
      exact bodyPost_ret (v := .agg #[.int .i64 R0.code, .int .i64 R0.value, .int .i64 R0.steps, .slice ta nt ct, .slice (some ⟨gh, 0, none⟩) 32 ch]) (by simp [results, Tryd.results19, go_sem, r0, r1, r2, r3, r4]) rfl ⟨_, rfl, HFI.out _ _ _ _ _⟩
  · skip
    go_simp
    refine hK.out _ _ (by first | with_reducible exact hHeld | ((try dsimp only); go_keep)) (fun hHeld => ?_)
    clear hK
    try simp only [Act.put, List.getElem_toArray, List.getElem_cons_zero, List.getElem_cons_succ, List.setIfInBounds_toArray, List.set_cons_zero, List.set_cons_succ]
    refine wpAnyH_ready (rs := [3, 8]) (by kernel_rfl) (by simp) ?_
    refine (AllReadyH.cons rfl (fun K hK => ?_) (AllReadyH.cons rfl (fun K hK => ?_) AllReadyH.nil))
    · skip
      go_simp
      refine (HNR _ (by first | exact HB1.out.drew | exact (balloc HB1.out _).drew | exact (balloc (balloc HB1.out _) _).drew)).out.mono ?_
      rintro e w3 ⟨gh, ch, rfl, hb3, hgh, hi3⟩
      obtain ⟨k3, f3⟩ := bcell hb3
      have hs3 := hb3.size
      simp at hs3
      have z3 : w3.cell? ⟨w.heap.size, 0, none⟩ = some (.int .i64 m) := (hb3.cell (p := ⟨w.heap.size, 0, none⟩) (by show w.heap.size < _; simp; omega)).trans (by first | exact z0 | exact zz1 _ | exact zz2 _ _)
      have HB3 := hide hb3
      have HI3 := hide hi3
      clear hb3 hi3
      go_wp2_with fail
      refine hK.out _ _ (by first | with_reducible exact hHeld | ((try dsimp only); go_keep)) (fun hHeld => ?_)
      clear hK
      try simp only [Act.put, List.getElem_toArray, List.getElem_cons_zero, List.getElem_cons_succ, List.setIfInBounds_toArray, List.set_cons_zero, List.set_cons_succ]
      refine wpAnyH_take (i := 7) (v := ?_) rfl (by kernel_rfl) (by kernel_rfl) (by kernel_rfl) (fun _ _ _ h => h) (Or.inl ⟨by rfl, ?_⟩) (by assumption) ?_
      rotate_left
      · intro w hSw; (try dsimp only at hSw); go_simp; try with_reducible rfl
      simp only [Act.put, List.getElem_toArray, List.getElem_cons_zero, List.getElem_cons_succ, List.setIfInBounds_toArray, List.set_cons_zero, List.set_cons_succ]
      refine wpAnyH_ready (rs := [8]) (by kernel_rfl) (by simp) ?_
      refine AllReadyH.cons rfl (fun K hK => ?_) AllReadyH.nil
      go_simp
      refine hK.out _ _ (by first | with_reducible exact hHeld | ((try dsimp only); go_keep)) (fun hHeld => ?_)
      clear hK
      try simp only [Act.put, List.getElem_toArray, List.getElem_cons_zero, List.getElem_cons_succ, List.setIfInBounds_toArray, List.set_cons_zero, List.set_cons_succ]
      refine wpAnyH_ready (rs := [9]) (by kernel_rfl) (by simp) ?_
      refine AllReadyH.cons rfl (fun K hK => ?_) AllReadyH.nil
      go_simp
      refine hK.out _ _ (by first | with_reducible exact hHeld | ((try dsimp only); go_keep)) (fun hHeld => ?_)
      clear hK
      try simp only [Act.put, List.getElem_toArray, List.getElem_cons_zero, List.getElem_cons_succ, List.setIfInBounds_toArray, List.set_cons_zero, List.set_cons_succ]
      refine wpAnyH_done (by kernel_rfl) ?_ _
      go_upto_region 4 with fail
      refine letterN (P := Code.wp _ _ _ _) _ ?_
      intro W hW
      have hgl := HI3.out.lt
      have h23 : Below w2.heap.size w2 w3 := (balloc (Below.refl w2.heap.size w2) (.cells (madeCells #[.int .i64 0] m) 2)).drew.trans (HB3.out.mono (by simp))
      have hg2 : w2.heap.size + 1 ≤ gh := by simpa using hgh
      have e1 : w3.heap[w2.heap.size]? = some (.cells (madeCells #[.int .i64 0] m) 2) := (HB3.out.block _ (by simp <;> omega)).trans (heap_new w2 (.cells (madeCells #[.int .i64 0] m) 2))
      have HIN := hide (Init.mk' (R := w3.heap.size) (gv := w2.heap.size) (heap := heap) HB1.out HFB.out HRB.out (by omega) (W := W) (by rw [hW]; exact balloc h23 _) (by rw [hW]; exact heap_new w3 _) (by rw [hW]; exact ((balloc (Below.refl w3.heap.size w3) _).block _ (by omega)).trans e1) (HI3.out.keep (by rw [hW]; exact (balloc (Below.refl w3.heap.size w3) _).block gh hgl)) (by omega) (by omega) (by omega) (by omega) (by omega) (by omega))
      clear hW k3 f3 hs3 z3 hgh hg2 h23 hgl HB3 HI3 hHeld
      clear e1
      generalize w3.heap.size = R at *
      generalize w2.heap.size = gv at *
      obtain ⟨y0, y1⟩ := HIN.out.fb
      obtain ⟨l1, l2, l3⟩ := HIN.out.lo
      have hRl := HIN.out.lt
      have h1w := hT.out.1
      have HMN := hide (makeNodes_any m a n c xs R aa na ca args (fun o => W.cell? ⟨R, o, none⟩) L B L B W (hide (ha.out.keep (HIN.out.below.mono hB))) hx hs (by omega) hRl (by omega) (by omega) (hide (hargs.out.keep (HIN.out.below.mono hB))) hna good (hide (hT.out.keep HIN.out.below)) (hide ⟨HIN.out.box.c0, HIN.out.box.c7, HIN.out.box.fz, fun o _ => rfl⟩))
      have hl32 : Hid (32 = R0.hp.length) := hide (by rw [← hR0, runR_hp]; simp [startR, heapR])
      have HR0 := hide hR0
      clear HNR zz1 zz2 hmk hR0 z0 z1
      go_wp2_with fail
      refine HMN.out.mono ?_
      rintro e w4 ⟨G, c4, rfl, hk4, hG4, hbx4, hnd4⟩
      obtain ⟨hpr, g1, g2, g3, g4⟩ := after_nodes HIN.out hk4 hG4 hbx4 hnd4 hn1 HR0.out
      have HRN := hide (run_any ⟨m, xs⟩ args fuel R0 R aa na ca gh ch gv m m G n c4 w4.heap.size (startR ⟨m, xs⟩ heap) none 0 0 none 0 0 [] w4 (hide hpr) good (hide rfl) hx hs hf g1 g2 g3 HIN.out.ne.1 HIN.out.ne.2.1 g4 (Nat.le_refl _))
      have HK4 := hide hk4
      clear hk4 hbx4 hnd4 hpr
      go_wp2_with fail
      refine HRN.out.mono ?_
      rintro e w5 ⟨rfl, ta, nt, ct, ka, kn, kc, bb, pc, vals, K, h5⟩
      have h5R : R < w5.heap.size := by have := h5.1.size; omega
      have H5 := hide h5
      clear h5
      go_wp2_with fail
      refine (outcome_any R R0.code R0.value R0.steps ta nt ct (some ⟨gh, 0, none⟩) 32 ch _ H5.out.2.1.c1 H5.out.2.1.c2 H5.out.2.1.c4 H5.out.2.1.c5 h5R).mono ?_
      rintro e w6 ⟨rfl, h6⟩
      obtain ⟨⟨⟨r0, r1, r2, r3, r4⟩, rz⟩, hfin⟩ := after_run HIN.out HK4.out hl32.out H5.out h6
      have HFI := hide hfin
      clear h6 hfin
      go_wp2
      exact bodyPost_ret (v := .agg #[.int .i64 R0.code, .int .i64 R0.value, .int .i64 R0.steps, .slice ta nt ct, .slice (some ⟨gh, 0, none⟩) 32 ch]) (by simp [results, Tryd.results19, go_sem, r0, r1, r2, r3, r4]) rfl ⟨_, rfl, HFI.out _ _ _ _ _⟩
    · skip
      go_simp
      refine hK.out _ _ (by first | with_reducible exact hHeld | ((try dsimp only); go_keep)) (fun hHeld => ?_)
      clear hK
      try simp only [Act.put, List.getElem_toArray, List.getElem_cons_zero, List.getElem_cons_succ, List.setIfInBounds_toArray, List.set_cons_zero, List.set_cons_succ]
      refine wpAnyH_ready (rs := [3]) (by kernel_rfl) (by simp) ?_
      refine AllReadyH.cons rfl (fun K hK => ?_) AllReadyH.nil
      go_simp
      refine (HNR _ (by first | exact HB1.out.drew | exact (balloc HB1.out _).drew | exact (balloc (balloc HB1.out _) _).drew)).out.mono ?_
      rintro e w3 ⟨gh, ch, rfl, hb3, hgh, hi3⟩
      obtain ⟨k3, f3⟩ := bcell hb3
      have hs3 := hb3.size
      simp at hs3
      have z3 : w3.cell? ⟨w.heap.size, 0, none⟩ = some (.int .i64 m) := (hb3.cell (p := ⟨w.heap.size, 0, none⟩) (by show w.heap.size < _; simp; omega)).trans (by first | exact z0 | exact zz1 _ | exact zz2 _ _)
      have HB3 := hide hb3
      have HI3 := hide hi3
      clear hb3 hi3
      have ka3 := fun x o => (balloc (Below.refl w3.heap.size w3) x).cell (p := ⟨w2.heap.size, o, none⟩) (by show w2.heap.size < _; omega)
      have kf3 := fun x o => (balloc (Below.refl w3.heap.size w3) x).frozen (p := ⟨w2.heap.size, o, none⟩) (by show w2.heap.size < _; omega)
      go_wp2_with fail
      refine hK.out _ _ (by first | with_reducible exact hHeld | ((try dsimp only); go_keep)) (fun hHeld => ?_)
      clear hK
      try simp only [Act.put, List.getElem_toArray, List.getElem_cons_zero, List.getElem_cons_succ, List.setIfInBounds_toArray, List.set_cons_zero, List.set_cons_succ]
      refine wpAnyH_take (i := 7) (v := ?_) rfl (by kernel_rfl) (by kernel_rfl) (by kernel_rfl) (fun _ _ _ h => h) (Or.inl ⟨by rfl, ?_⟩) (by assumption) ?_
      rotate_left
      · intro w hSw; (try dsimp only at hSw); go_simp; try with_reducible rfl
      simp only [Act.put, List.getElem_toArray, List.getElem_cons_zero, List.getElem_cons_succ, List.setIfInBounds_toArray, List.set_cons_zero, List.set_cons_succ]
      refine wpAnyH_ready (rs := [9]) (by kernel_rfl) (by simp) ?_
      refine AllReadyH.cons rfl (fun K hK => ?_) AllReadyH.nil
      go_simp
      refine hK.out _ _ (by first | with_reducible exact hHeld | ((try dsimp only); go_keep)) (fun hHeld => ?_)
      clear hK
      try simp only [Act.put, List.getElem_toArray, List.getElem_cons_zero, List.getElem_cons_succ, List.setIfInBounds_toArray, List.set_cons_zero, List.set_cons_succ]
      refine wpAnyH_done (by kernel_rfl) ?_ _
      go_upto_region 4 with fail
      refine letterN (P := Code.wp _ _ _ _) _ ?_
      intro W hW
      have hgl := HI3.out.lt
      have h23 : Below w2.heap.size w2 w3 := (balloc (balloc (Below.refl w2.heap.size w2) (.cells (madeCells #[.int .i64 0] m) 2)) (.cells Z11 81)).drew.trans (HB3.out.mono (by simp <;> omega))
      have hg2 : w2.heap.size + 1 + 1 ≤ gh := by simpa using hgh
      have e1 : w3.heap[w2.heap.size]? = some (.cells (madeCells #[.int .i64 0] m) 2) := (HB3.out.block _ (by simp <;> omega)).trans ((balloc (Below.refl _ (w2.alloc (.cells (madeCells #[.int .i64 0] m) 2))) (.cells Z11 81)).block _ (by simp) |>.trans (heap_new w2 (.cells (madeCells #[.int .i64 0] m) 2)))
      have e2 : w3.heap[w2.heap.size + 1]? = some (.cells Z11 81) := (HB3.out.block _ (by simp <;> omega)).trans (by have h := heap_new (w2.alloc (.cells (madeCells #[.int .i64 0] m) 2)) (.cells Z11 81); rw [World.size_alloc] at h; exact h)
      have hW' : W = set11 w3 (w2.heap.size + 1) _ _ _ _ _ _ _ _ _ _ _ := hW
      have HIN := hide (Init.mk' (R := w2.heap.size + 1) (gv := w2.heap.size) (heap := heap) HB1.out HFB.out HRB.out (by omega) (W := W) (by rw [hW']; exact set11_below h23 (by omega) _ _ _ _ _ _ _ _ _ _ _) (by rw [hW']; exact set11_at e2 _ _ _ _ _ _ _ _ _ _ _) (by rw [hW']; exact (set11_far (by omega) _ _ _ _ _ _ _ _ _ _ _).trans e1) (HI3.out.keep (by rw [hW']; exact set11_far (by omega) _ _ _ _ _ _ _ _ _ _ _)) (by omega) (by omega) (by omega) (by omega) (by omega) (by omega))
      clear hW'
      clear hW k3 f3 hs3 z3 hgh hg2 h23 hgl HB3 HI3 hHeld
      clear e1
      clear e2
      clear ka3 kf3
      generalize w2.heap.size + 1 = R at *
      generalize w2.heap.size = gv at *
      obtain ⟨y0, y1⟩ := HIN.out.fb
      obtain ⟨l1, l2, l3⟩ := HIN.out.lo
      have hRl := HIN.out.lt
      have h1w := hT.out.1
      have HMN := hide (makeNodes_any m a n c xs R aa na ca args (fun o => W.cell? ⟨R, o, none⟩) L B L B W (hide (ha.out.keep (HIN.out.below.mono hB))) hx hs (by omega) hRl (by omega) (by omega) (hide (hargs.out.keep (HIN.out.below.mono hB))) hna good (hide (hT.out.keep HIN.out.below)) (hide ⟨HIN.out.box.c0, HIN.out.box.c7, HIN.out.box.fz, fun o _ => rfl⟩))
      have hl32 : Hid (32 = R0.hp.length) := hide (by rw [← hR0, runR_hp]; simp [startR, heapR])
      have HR0 := hide hR0
      clear HNR zz1 zz2 hmk hR0 z0 z1
      go_wp2_with fail
      refine HMN.out.mono ?_
      rintro e w4 ⟨G, c4, rfl, hk4, hG4, hbx4, hnd4⟩
      obtain ⟨hpr, g1, g2, g3, g4⟩ := after_nodes HIN.out hk4 hG4 hbx4 hnd4 hn1 HR0.out
      have HRN := hide (run_any ⟨m, xs⟩ args fuel R0 R aa na ca gh ch gv m m G n c4 w4.heap.size (startR ⟨m, xs⟩ heap) none 0 0 none 0 0 [] w4 (hide hpr) good (hide rfl) hx hs hf g1 g2 g3 HIN.out.ne.1 HIN.out.ne.2.1 g4 (Nat.le_refl _))
      have HK4 := hide hk4
      clear hk4 hbx4 hnd4 hpr
      go_wp2_with fail
      refine HRN.out.mono ?_
      rintro e w5 ⟨rfl, ta, nt, ct, ka, kn, kc, bb, pc, vals, K, h5⟩
      have h5R : R < w5.heap.size := by have := h5.1.size; omega
      have H5 := hide h5
      clear h5
      go_wp2_with fail
      refine (outcome_any R R0.code R0.value R0.steps ta nt ct (some ⟨gh, 0, none⟩) 32 ch _ H5.out.2.1.c1 H5.out.2.1.c2 H5.out.2.1.c4 H5.out.2.1.c5 h5R).mono ?_
      rintro e w6 ⟨rfl, h6⟩
      obtain ⟨⟨⟨r0, r1, r2, r3, r4⟩, rz⟩, hfin⟩ := after_run HIN.out HK4.out hl32.out H5.out h6
      have HFI := hide hfin
      clear h6 hfin
      go_wp2
      exact bodyPost_ret (v := .agg #[.int .i64 R0.code, .int .i64 R0.value, .int .i64 R0.steps, .slice ta nt ct, .slice (some ⟨gh, 0, none⟩) 32 ch]) (by simp [results, Tryd.results19, go_sem, r0, r1, r2, r3, r4]) rfl ⟨_, rfl, HFI.out _ _ _ _ _⟩
  · skip
    go_simp
    refine hK.out _ _ (by first | with_reducible exact hHeld | ((try dsimp only); go_keep)) (fun hHeld => ?_)
    clear hK
    try simp only [Act.put, List.getElem_toArray, List.getElem_cons_zero, List.getElem_cons_succ, List.setIfInBounds_toArray, List.set_cons_zero, List.set_cons_succ]
    refine wpAnyH_ready (rs := [3, 6]) (by kernel_rfl) (by simp) ?_
    refine (AllReadyH.cons rfl (fun K hK => ?_) (AllReadyH.cons rfl (fun K hK => ?_) AllReadyH.nil))
    · skip
      go_simp
      refine (HNR _ (by first | exact HB1.out.drew | exact (balloc HB1.out _).drew | exact (balloc (balloc HB1.out _) _).drew)).out.mono ?_
      rintro e w3 ⟨gh, ch, rfl, hb3, hgh, hi3⟩
      obtain ⟨k3, f3⟩ := bcell hb3
      have hs3 := hb3.size
      simp at hs3
      have z3 : w3.cell? ⟨w.heap.size, 0, none⟩ = some (.int .i64 m) := (hb3.cell (p := ⟨w.heap.size, 0, none⟩) (by show w.heap.size < _; simp; omega)).trans (by first | exact z0 | exact zz1 _ | exact zz2 _ _)
      have HB3 := hide hb3
      have HI3 := hide hi3
      clear hb3 hi3
      have ka3 := fun x o => (balloc (Below.refl w3.heap.size w3) x).cell (p := ⟨w2.heap.size, o, none⟩) (by show w2.heap.size < _; omega)
      have kf3 := fun x o => (balloc (Below.refl w3.heap.size w3) x).frozen (p := ⟨w2.heap.size, o, none⟩) (by show w2.heap.size < _; omega)
      go_wp2_with fail
      refine hK.out _ _ (by first | with_reducible exact hHeld | ((try dsimp only); go_keep)) (fun hHeld => ?_)
      clear hK
      try simp only [Act.put, List.getElem_toArray, List.getElem_cons_zero, List.getElem_cons_succ, List.setIfInBounds_toArray, List.set_cons_zero, List.set_cons_succ]
      refine wpAnyH_ready (rs := [6]) (by kernel_rfl) (by simp) ?_
      refine AllReadyH.cons rfl (fun K hK => ?_) AllReadyH.nil
      go_simp
      refine hK.out _ _ (by first | with_reducible exact hHeld | ((try dsimp only); go_keep)) (fun hHeld => ?_)
      clear hK
      try simp only [Act.put, List.getElem_toArray, List.getElem_cons_zero, List.getElem_cons_succ, List.setIfInBounds_toArray, List.set_cons_zero, List.set_cons_succ]
      refine wpAnyH_take (i := 7) (v := ?_) rfl (by kernel_rfl) (by kernel_rfl) (by kernel_rfl) (fun _ _ _ h => h) (Or.inl ⟨by rfl, ?_⟩) (by assumption) ?_
      rotate_left
      · intro w hSw; (try dsimp only at hSw); go_simp; try with_reducible rfl
      simp only [Act.put, List.getElem_toArray, List.getElem_cons_zero, List.getElem_cons_succ, List.setIfInBounds_toArray, List.set_cons_zero, List.set_cons_succ]
      refine wpAnyH_ready (rs := [9]) (by kernel_rfl) (by simp) ?_
      refine AllReadyH.cons rfl (fun K hK => ?_) AllReadyH.nil
      go_simp
      refine hK.out _ _ (by first | with_reducible exact hHeld | ((try dsimp only); go_keep)) (fun hHeld => ?_)
      clear hK
      try simp only [Act.put, List.getElem_toArray, List.getElem_cons_zero, List.getElem_cons_succ, List.setIfInBounds_toArray, List.set_cons_zero, List.set_cons_succ]
      refine wpAnyH_done (by kernel_rfl) ?_ _
      go_upto_region 4 with fail
      refine letterN (P := Code.wp _ _ _ _) _ ?_
      intro W hW
      have hgl := HI3.out.lt
      have h23 : Below w2.heap.size w2 w3 := (balloc (Below.refl w2.heap.size w2) (.cells Z11 81)).drew.trans (HB3.out.mono (by simp))
      have hg2 : w2.heap.size + 1 ≤ gh := by simpa using hgh
      have e2 : w3.heap[w2.heap.size]? = some (.cells Z11 81) := (HB3.out.block _ (by simp <;> omega)).trans (heap_new w2 (.cells Z11 81))
      have hW' : W = set11 (w3.alloc (.cells (madeCells #[.int .i64 0] m) 2)) w2.heap.size _ _ _ _ _ _ _ _ _ _ _ := hW
      have HIN := hide (Init.mk' (R := w2.heap.size) (gv := w3.heap.size) (heap := heap) HB1.out HFB.out HRB.out (by omega) (W := W) (by rw [hW']; exact set11_below (balloc h23 _) (by omega) _ _ _ _ _ _ _ _ _ _ _) (by rw [hW']; exact set11_at (((balloc (Below.refl w3.heap.size w3) _).block _ (by omega)).trans e2) _ _ _ _ _ _ _ _ _ _ _) (by rw [hW']; exact (set11_far (by omega) _ _ _ _ _ _ _ _ _ _ _).trans (heap_new w3 _)) (HI3.out.keep (by rw [hW']; exact (set11_far (by omega) _ _ _ _ _ _ _ _ _ _ _).trans ((balloc (Below.refl w3.heap.size w3) _).block gh hgl))) (by omega) (by omega) (by omega) (by omega) (by omega) (by omega))
      clear hW'
      clear hW k3 f3 hs3 z3 hgh hg2 h23 hgl HB3 HI3 hHeld
      clear e2
      clear ka3 kf3
      generalize w2.heap.size = R at *
      generalize w3.heap.size = gv at *
      obtain ⟨y0, y1⟩ := HIN.out.fb
      obtain ⟨l1, l2, l3⟩ := HIN.out.lo
      have hRl := HIN.out.lt
      have h1w := hT.out.1
      have HMN := hide (makeNodes_any m a n c xs R aa na ca args (fun o => W.cell? ⟨R, o, none⟩) L B L B W (hide (ha.out.keep (HIN.out.below.mono hB))) hx hs (by omega) hRl (by omega) (by omega) (hide (hargs.out.keep (HIN.out.below.mono hB))) hna good (hide (hT.out.keep HIN.out.below)) (hide ⟨HIN.out.box.c0, HIN.out.box.c7, HIN.out.box.fz, fun o _ => rfl⟩))
      have hl32 : Hid (32 = R0.hp.length) := hide (by rw [← hR0, runR_hp]; simp [startR, heapR])
      have HR0 := hide hR0
      clear HNR zz1 zz2 hmk hR0 z0 z1
      go_wp2_with fail
      refine HMN.out.mono ?_
      rintro e w4 ⟨G, c4, rfl, hk4, hG4, hbx4, hnd4⟩
      obtain ⟨hpr, g1, g2, g3, g4⟩ := after_nodes HIN.out hk4 hG4 hbx4 hnd4 hn1 HR0.out
      have HRN := hide (run_any ⟨m, xs⟩ args fuel R0 R aa na ca gh ch gv m m G n c4 w4.heap.size (startR ⟨m, xs⟩ heap) none 0 0 none 0 0 [] w4 (hide hpr) good (hide rfl) hx hs hf g1 g2 g3 HIN.out.ne.1 HIN.out.ne.2.1 g4 (Nat.le_refl _))
      have HK4 := hide hk4
      clear hk4 hbx4 hnd4 hpr
      go_wp2_with fail
      refine HRN.out.mono ?_
      rintro e w5 ⟨rfl, ta, nt, ct, ka, kn, kc, bb, pc, vals, K, h5⟩
      have h5R : R < w5.heap.size := by have := h5.1.size; omega
      have H5 := hide h5
      clear h5
      go_wp2_with fail
      refine (outcome_any R R0.code R0.value R0.steps ta nt ct (some ⟨gh, 0, none⟩) 32 ch _ H5.out.2.1.c1 H5.out.2.1.c2 H5.out.2.1.c4 H5.out.2.1.c5 h5R).mono ?_
      rintro e w6 ⟨rfl, h6⟩
      obtain ⟨⟨⟨r0, r1, r2, r3, r4⟩, rz⟩, hfin⟩ := after_run HIN.out HK4.out hl32.out H5.out h6
      have HFI := hide hfin
      clear h6 hfin
      go_wp2
      exact bodyPost_ret (v := .agg #[.int .i64 R0.code, .int .i64 R0.value, .int .i64 R0.steps, .slice ta nt ct, .slice (some ⟨gh, 0, none⟩) 32 ch]) (by simp [results, Tryd.results19, go_sem, r0, r1, r2, r3, r4]) rfl ⟨_, rfl, HFI.out _ _ _ _ _⟩
    · skip
      go_simp
      refine hK.out _ _ (by first | with_reducible exact hHeld | ((try dsimp only); go_keep)) (fun hHeld => ?_)
      clear hK
      try simp only [Act.put, List.getElem_toArray, List.getElem_cons_zero, List.getElem_cons_succ, List.setIfInBounds_toArray, List.set_cons_zero, List.set_cons_succ]
      refine wpAnyH_ready (rs := [3]) (by kernel_rfl) (by simp) ?_
      refine AllReadyH.cons rfl (fun K hK => ?_) AllReadyH.nil
      go_simp
      refine (HNR _ (by first | exact HB1.out.drew | exact (balloc HB1.out _).drew | exact (balloc (balloc HB1.out _) _).drew)).out.mono ?_
      rintro e w3 ⟨gh, ch, rfl, hb3, hgh, hi3⟩
      obtain ⟨k3, f3⟩ := bcell hb3
      have hs3 := hb3.size
      simp at hs3
      have z3 : w3.cell? ⟨w.heap.size, 0, none⟩ = some (.int .i64 m) := (hb3.cell (p := ⟨w.heap.size, 0, none⟩) (by show w.heap.size < _; simp; omega)).trans (by first | exact z0 | exact zz1 _ | exact zz2 _ _)
      have HB3 := hide hb3
      have HI3 := hide hi3
      clear hb3 hi3
      have ka3 := fun x o => (balloc (Below.refl w3.heap.size w3) x).cell (p := ⟨w2.heap.size, o, none⟩) (by show w2.heap.size < _; omega)
      have kf3 := fun x o => (balloc (Below.refl w3.heap.size w3) x).frozen (p := ⟨w2.heap.size, o, none⟩) (by show w2.heap.size < _; omega)
      go_wp2_with fail
      refine hK.out _ _ (by first | with_reducible exact hHeld | ((try dsimp only); go_keep)) (fun hHeld => ?_)
      clear hK
      try simp only [Act.put, List.getElem_toArray, List.getElem_cons_zero, List.getElem_cons_succ, List.setIfInBounds_toArray, List.set_cons_zero, List.set_cons_succ]
      refine wpAnyH_take (i := 7) (v := ?_) rfl (by kernel_rfl) (by kernel_rfl) (by kernel_rfl) (fun _ _ _ h => h) (Or.inl ⟨by rfl, ?_⟩) (by assumption) ?_
      rotate_left
      · intro w hSw; (try dsimp only at hSw); go_simp; try with_reducible rfl
      simp only [Act.put, List.getElem_toArray, List.getElem_cons_zero, List.getElem_cons_succ, List.setIfInBounds_toArray, List.set_cons_zero, List.set_cons_succ]
      refine wpAnyH_ready (rs := [9]) (by kernel_rfl) (by simp) ?_
      refine AllReadyH.cons rfl (fun K hK => ?_) AllReadyH.nil
      go_simp
      refine hK.out _ _ (by first | with_reducible exact hHeld | ((try dsimp only); go_keep)) (fun hHeld => ?_)
      clear hK
      try simp only [Act.put, List.getElem_toArray, List.getElem_cons_zero, List.getElem_cons_succ, List.setIfInBounds_toArray, List.set_cons_zero, List.set_cons_succ]
      refine wpAnyH_done (by kernel_rfl) ?_ _
      go_upto_region 4 with fail
      refine letterN (P := Code.wp _ _ _ _) _ ?_
      intro W hW
      have hgl := HI3.out.lt
      have h23 : Below w2.heap.size w2 w3 := (balloc (balloc (Below.refl w2.heap.size w2) (.cells Z11 81)) (.cells (madeCells #[.int .i64 0] m) 2)).drew.trans (HB3.out.mono (by simp <;> omega))
      have hg2 : w2.heap.size + 1 + 1 ≤ gh := by simpa using hgh
      have e2 : w3.heap[w2.heap.size]? = some (.cells Z11 81) := (HB3.out.block _ (by simp <;> omega)).trans ((balloc (Below.refl _ (w2.alloc (.cells Z11 81))) (.cells (madeCells #[.int .i64 0] m) 2)).block _ (by simp) |>.trans (heap_new w2 (.cells Z11 81)))
      have e1 : w3.heap[w2.heap.size + 1]? = some (.cells (madeCells #[.int .i64 0] m) 2) := (HB3.out.block _ (by simp <;> omega)).trans (by have h := heap_new (w2.alloc (.cells Z11 81)) (.cells (madeCells #[.int .i64 0] m) 2); rw [World.size_alloc] at h; exact h)
      have hW' : W = set11 w3 w2.heap.size _ _ _ _ _ _ _ _ _ _ _ := hW
      have HIN := hide (Init.mk' (R := w2.heap.size) (gv := w2.heap.size + 1) (heap := heap) HB1.out HFB.out HRB.out (by omega) (W := W) (by rw [hW']; exact set11_below h23 (by omega) _ _ _ _ _ _ _ _ _ _ _) (by rw [hW']; exact set11_at e2 _ _ _ _ _ _ _ _ _ _ _) (by rw [hW']; exact (set11_far (by omega) _ _ _ _ _ _ _ _ _ _ _).trans e1) (HI3.out.keep (by rw [hW']; exact set11_far (by omega) _ _ _ _ _ _ _ _ _ _ _)) (by omega) (by omega) (by omega) (by omega) (by omega) (by omega))
      clear hW'
      clear hW k3 f3 hs3 z3 hgh hg2 h23 hgl HB3 HI3 hHeld
      clear e2
      clear e1
      clear ka3 kf3
      generalize w2.heap.size + 1 = gv at *
      generalize w2.heap.size = R at *
      obtain ⟨y0, y1⟩ := HIN.out.fb
      obtain ⟨l1, l2, l3⟩ := HIN.out.lo
      have hRl := HIN.out.lt
      have h1w := hT.out.1
      have HMN := hide (makeNodes_any m a n c xs R aa na ca args (fun o => W.cell? ⟨R, o, none⟩) L B L B W (hide (ha.out.keep (HIN.out.below.mono hB))) hx hs (by omega) hRl (by omega) (by omega) (hide (hargs.out.keep (HIN.out.below.mono hB))) hna good (hide (hT.out.keep HIN.out.below)) (hide ⟨HIN.out.box.c0, HIN.out.box.c7, HIN.out.box.fz, fun o _ => rfl⟩))
      have hl32 : Hid (32 = R0.hp.length) := hide (by rw [← hR0, runR_hp]; simp [startR, heapR])
      have HR0 := hide hR0
      clear HNR zz1 zz2 hmk hR0 z0 z1
      go_wp2_with fail
      refine HMN.out.mono ?_
      rintro e w4 ⟨G, c4, rfl, hk4, hG4, hbx4, hnd4⟩
      obtain ⟨hpr, g1, g2, g3, g4⟩ := after_nodes HIN.out hk4 hG4 hbx4 hnd4 hn1 HR0.out
      have HRN := hide (run_any ⟨m, xs⟩ args fuel R0 R aa na ca gh ch gv m m G n c4 w4.heap.size (startR ⟨m, xs⟩ heap) none 0 0 none 0 0 [] w4 (hide hpr) good (hide rfl) hx hs hf g1 g2 g3 HIN.out.ne.1 HIN.out.ne.2.1 g4 (Nat.le_refl _))
      have HK4 := hide hk4
      clear hk4 hbx4 hnd4 hpr
      go_wp2_with fail
      refine HRN.out.mono ?_
      rintro e w5 ⟨rfl, ta, nt, ct, ka, kn, kc, bb, pc, vals, K, h5⟩
      have h5R : R < w5.heap.size := by have := h5.1.size; omega
      have H5 := hide h5
      clear h5
      go_wp2_with fail
      refine (outcome_any R R0.code R0.value R0.steps ta nt ct (some ⟨gh, 0, none⟩) 32 ch _ H5.out.2.1.c1 H5.out.2.1.c2 H5.out.2.1.c4 H5.out.2.1.c5 h5R).mono ?_
      rintro e w6 ⟨rfl, h6⟩
      obtain ⟨⟨⟨r0, r1, r2, r3, r4⟩, rz⟩, hfin⟩ := after_run HIN.out HK4.out hl32.out H5.out h6
      have HFI := hide hfin
      clear h6 hfin
      go_wp2
      exact bodyPost_ret (v := .agg #[.int .i64 R0.code, .int .i64 R0.value, .int .i64 R0.steps, .slice ta nt ct, .slice (some ⟨gh, 0, none⟩) 32 ch]) (by simp [results, Tryd.results19, go_sem, r0, r1, r2, r3, r4]) rfl ⟨_, rfl, HFI.out _ _ _ _ _⟩
end Go.Proofs.YteifkldaoddpdaaDoor

namespace Go.Proofs.YteifkldaoddpdaaDoor
open Go.RowKit

set_option maxHeartbeats 1000000 in
theorem eqOutcome_yes (co va st : Int) (ta ta' ha ha' : Option Addr) (nt ct ct' nh ch ch' : Nat) (tr hp : List Int) (L B L' B' : Nat) (w : World) (h1 : Hid (IntsAt w L B ta tr)) (h2 : Hid (IntsAt w L' B' ta' tr)) (h3 : Hid (IntsAt w L B ha hp)) (h4 : Hid (IntsAt w L' B' ha' hp)) (hx : Hid (nt = tr.length)) (hy : Hid (nh = hp.length)) (hn : nt ≤ 1048576) (hm : nh ≤ 1048576) (hB : B ≤ w.heap.size) (hB' : B' ≤ w.heap.size) :
    Calls Tryd.prog 20 #[.agg #[.int .i64 co, .int .i64 va, .int .i64 st, .slice ta nt ct, .slice ha nh ch], .agg #[.int .i64 co, .int .i64 va, .int .i64 st, .slice ta' nt ct', .slice ha' nh ch']] w fun e w' => e = .returned (.bool true) ∧ Below w.heap.size w w' := by
  have e1 : (co != co) = false := by simp
  have e2 : (va != va) = false := by simp
  have e3 : (st != st) = false := by simp
  have bl := fun x y => balloc (balloc (Below.refl w.heap.size w) x) y
  have C1 := fun x y => hide (eqInts_yes ta ta' nt ct ct' tr L B L' B' ((w.alloc x).alloc y) (hide (h1.out.keep ((bl x y).mono hB))) (hide (h2.out.keep ((bl x y).mono hB'))) hx hn (by have := (bl x y).size; omega) (by have := (bl x y).size; omega))
  go_enter Tryd.func20, Tryd.ntmps20
  go_wp2_with fail
  refine (C1 _ _).out.mono ?_
  rintro e w1 ⟨rfl, hb1⟩
  obtain ⟨k1, f1⟩ := bcell hb1
  have hs1 := hb1.size
  simp at hs1
  have HB1 := hide (bnext (bl _ _) hb1)
  clear hb1
  go_wp2_with fail
  refine (eqInts_yes ha ha' nh ch ch' hp L B L' B' _ (hide (h3.out.keep (HB1.out.mono hB))) (hide (h4.out.keep (HB1.out.mono hB'))) hy hm (by omega) (by omega)).mono ?_
  rintro e w2 ⟨rfl, hb2⟩
  go_wp2
  go_ret
  exact ⟨rfl, bnext HB1.out hb2⟩

/-- The one block of a row of numbers. -/
theorem IntsAt.narrow {w : World} {L B : Nat} {a : Option Addr} {xs : List Int} (h : IntsAt w L B a xs) (hf : ∀ b o, a = some ⟨b, o, none⟩ → L ≤ b ∧ b < B → ∀ i, w.frozen? ⟨b, i, none⟩ = false) : ∃ b e, IntsAt w b e a xs ∧ ThawB b e w ∧ ((b = 0 ∧ e = 0) ∨ (e = b + 1 ∧ (L ≤ b ∧ b < B) ∧ ∃ o, a = some ⟨b, o, none⟩)) := by
  by_cases hx : 0 < xs.length
  · obtain ⟨b, o, e, hb, _⟩ := h 0 hx
    refine ⟨b, b + 1, fun i hi => ?_, fun q o' hq => ?_, Or.inr ⟨rfl, hb, o, e⟩⟩
    · obtain ⟨b', o', e', _, hc⟩ := h i hi
      have e2 : some (⟨b, o, none⟩ : Addr) = some ⟨b', o', none⟩ := e.symm.trans e'
      cases e2
      exact ⟨b, o, e, by omega, hc⟩
    · have : q = b := by omega
      subst this
      exact hf q o e hb o'
  · exact ⟨0, 0, fun i hi => absurd hi (by omega), fun q o' hq => absurd hq (by omega), Or.inl ⟨rfl, rfl⟩⟩

set_option maxHeartbeats 1000000 in
theorem markOutcome_any (co va st k : Int) (ta ha : Option Addr) (nt ct nh ch : Nat) (tr hp : List Int) (L B : Nat) (w : World) (h1 : Hid (IntsAt w L B ta tr)) (h2 : Hid (IntsAt w L B ha hp)) (hx : Hid (nt = tr.length)) (hy : Hid (nh = hp.length)) (hn : nt ≤ 1048576) (hm : nh ≤ 1048576) (hB : B ≤ w.heap.size)
    (f1 : Hid (∀ b o, ta = some ⟨b, o, none⟩ → L ≤ b ∧ b < B → ∀ i, w.frozen? ⟨b, i, none⟩ = false)) (f2 : Hid (∀ b o, ha = some ⟨b, o, none⟩ → L ≤ b ∧ b < B → ∀ i, w.frozen? ⟨b, i, none⟩ = false)) (dj : Hid (∀ b o b' o', ta = some ⟨b, o, none⟩ → ha = some ⟨b', o', none⟩ → b ≠ b')) (h0 : 0 ≤ k) (hk : k ≤ 1000000) :
    Calls Tryd.prog 23 #[.agg #[.int .i64 co, .int .i64 va, .int .i64 st, .slice ta nt ct, .slice ha nh ch], .int .i64 k] w fun e w' => e = .returned (.int .i64 (k + nt + nh)) ∧ Mod L B w w' ∧ IntsAt w' L B ta (marks k nt) ∧ IntsAt w' L B ha (marks (k + nt) nh) := by
  have ba := fun x => balloc (Below.refl w.heap.size w) x
  obtain ⟨bt, et, n1, t1, r1⟩ := h1.out.narrow f1.out
  obtain ⟨bh, eh, n2, t2, r2⟩ := h2.out.narrow f2.out
  have r1' : (bt = 0 ∧ et = 0) ∨ (et = bt + 1 ∧ L ≤ bt ∧ bt < B) := by
    rcases r1 with r | ⟨r, r', _⟩
    · exact Or.inl r
    · exact Or.inr ⟨r, r'⟩
  have r2' : (bh = 0 ∧ eh = 0) ∨ (eh = bh + 1 ∧ L ≤ bh ∧ bh < B) := by
    rcases r2 with r | ⟨r, r', _⟩
    · exact Or.inl r
    · exact Or.inr ⟨r, r'⟩
  have het : et ≤ w.heap.size := by omega
  have heh : eh ≤ w.heap.size := by omega
  have hdis : ∀ q, bt ≤ q ∧ q < et → ¬ (bh ≤ q ∧ q < eh) := fun q q1 q2 => by
    rcases r1 with r1 | ⟨r1, _, o1, e1⟩
    · omega
    · rcases r2 with r2 | ⟨r2, _, o2, e2⟩
      · omega
      · exact dj.out _ _ _ _ e1 e2 (by omega)
  have C1 := fun x => hide (markInts_any ta nt ct k tr bt et (w.alloc x) (hide (n1.keep ((ba x).mono het))) hx (hide (t1.keepS (Same.of_below ((ba x).mono het)))) hn h0 (by omega))
  have N2 := hide n2
  have T2 := hide t2
  clear n1 t1 n2 t2
  go_enter Tryd.func23, Tryd.ntmps23
  go_wp2_with fail
  refine (C1 _).out.mono ?_
  rintro e w1 ⟨rfl, hi1, hm1⟩
  have k4 : w1.cell? ⟨w.heap.size, 4, none⟩ = some (.slice ha nh ch) := (cell_of (hi1.block w.heap.size (by omega))).trans (by simp [go_sem])
  have HM1 := hide hm1
  have hsa : Same bh eh w w1 := fun q q1 q2 => (hi1.block q (fun q3 => hdis q q3 ⟨q1, q2⟩)).trans ((ba _).block q (by omega))
  have HS := hide hsa
  have HI1 := hide hi1
  clear hi1 hm1 hsa
  go_wp2_with fail
  refine (markInts_any ha nh ch (k + nt) hp bh eh w1 (hide (N2.out.keepS HS.out)) hy (hide (T2.out.keepS HS.out)) hm (by omega) (by omega)).mono ?_
  rintro e w2 ⟨rfl, hi2, hm2⟩
  have HI2 := hide hi2
  have HM2 := hide hm2
  clear hi2 hm2
  go_wp2
  go_ret
  have hT : IntsAt w2 bt et ta (marks k nt) := HM1.out.keepS (fun q q1 q2 => HI2.out.block q (fun q3 => hdis q ⟨q1, q2⟩ q3))
  refine ⟨rfl, ⟨HI2.out.os.trans HI1.out.os, HI2.out.tape.trans HI1.out.tape, HI2.out.output.trans HI1.out.output, by rw [HI2.out.size, HI1.out.size]; simp, fun q hq hq2 => ?_⟩, ?_, ?_⟩
  · exact (HI2.out.block q (by omega)).trans ((HI1.out.block q (by omega)).trans ((ba _).block q hq))
  · intro i hi
    obtain ⟨b, o, e, hb, hc⟩ := hT i hi
    exact ⟨b, o, e, by omega, hc⟩
  · intro i hi
    obtain ⟨b, o, e, hb, hc⟩ := HM2.out i hi
    exact ⟨b, o, e, by omega, hc⟩

set_option maxHeartbeats 1000000 in
theorem heldOutcome_any (co va st k : Int) (ta ha : Option Addr) (nt ct nh ch : Nat) (L B : Nat) (w : World) (h1 : Hid (IntsAt w L B ta (marks k nt))) (h2 : Hid (IntsAt w L B ha (marks (k + nt) nh))) (hn : nt ≤ 1048576) (hm : nh ≤ 1048576) (hB : B ≤ w.heap.size) (h0 : 0 ≤ k) (hk : k ≤ 1000000) :
    Calls Tryd.prog 24 #[.agg #[.int .i64 co, .int .i64 va, .int .i64 st, .slice ta nt ct, .slice ha nh ch], .int .i64 k] w fun e w' => e = .returned (.int .i64 (k + nt + nh)) ∧ Below w.heap.size w w' := by
  have ba := fun x => balloc (Below.refl w.heap.size w) x
  have C1 := fun x => hide (heldInts_any ta nt ct k L B (w.alloc x) (hide (h1.out.keep ((ba x).mono hB))) hn h0 (by omega))
  have C2 := fun x => hide (heldInts_any ha nh ch (k + nt) L B (w.alloc x) (hide (h2.out.keep ((ba x).mono hB))) hm (by omega) (by omega))
  go_enter Tryd.func24, Tryd.ntmps24
  go_wp2_with fail
  refine (C1 _).out.mono ?_
  rintro e w1 ⟨rfl, rfl⟩
  go_wp2_with fail
  refine (C2 _).out.mono ?_
  rintro e w2 ⟨rfl, rfl⟩
  go_wp2
  go_ret
  exact ⟨rfl, ba _⟩
end Go.Proofs.YteifkldaoddpdaaDoor
