import Derived.Test.YtdcdgopblbmgoaaDoorN12a
namespace Go.Proofs.YtdcdgopblbmgoaaDoor
open Go.RowKit

set_option maxHeartbeats 1000000 in
set_option maxRecDepth 100000 in
theorem runI_bad (v : Int) (a : Option Addr) (n c : Nat) (aa : Option Addr) (na ca : Nat) (hA : Option Addr) (nh ch : Nat) (fuel : Int) (xs : List Blk) (L B : Nat) (w : World)
    (ha : Hid (BlksAt w L B a xs)) (hx : Hid (n = xs.length)) (hs : Hid (xs.length + blksTot xs ≤ 1048576)) (hB : B ≤ w.heap.size) (hO : Hid (OpTab w)) (hT : Hid (TerTab w)) (bad : validI ⟨v, xs⟩ = false ∨ runOk na nh fuel = false) :
    Calls Tryd.prog 23 #[.agg #[.int .i64 v, .slice a n c], .slice aa na ca, .slice hA nh ch, .int .i64 fuel] w
      fun e w' => ∃ val, e = .returned val ∧ Below w.heap.size w w' ∧ OutAtF w' w.heap.size w'.heap.size val ⟨4, 0, 0, [], []⟩ := by
  have HA := fun x y => hide (ha.out.keep ((balloc (balloc (Below.refl w.heap.size w) x) y).mono hB))
  have HO := fun x y => hide (hO.out.keep (balloc (balloc (Below.refl w.heap.size w) x) y))
  have HT := fun x y => hide (hT.out.keep (balloc (balloc (Below.refl w.heap.size w) x) y))
  cases hvd : validI ⟨v, xs⟩
  · clear bad
    go_enter Tryd.func23, Tryd.ntmps23
    go_wp2_with (go_at_call 13; refine (validFuncI_any v a n c xs L B _ (HA _ _) hx hs (by simp; omega) (HO _ _) (HT _ _)).mono ?_; rintro e w1 ⟨rfl, hb1⟩; rw [hvd]; have HB1 := hide (bnext (balloc (balloc (Below.refl w.heap.size w) _) _) hb1); obtain ⟨-, ⟨r0, r1, r2, r3, r4⟩, rz⟩ := boxes (hb1.mono (by simp)); clear hb1)
    exact bodyPost_ret (v := .agg #[.int .i64 4, .int .i64 0, .int .i64 0, .slice none 0 0, .slice none 0 0]) (by simp [results, Tryd.results23, go_sem, r0, r1, r2, r3, r4]) rfl ⟨_, rfl, (((((HB1.out.setCell (by show w.heap.size ≤ w.heap.size + 1; omega) _).setCell (by show w.heap.size ≤ w.heap.size + 1; omega) _).setCell (by show w.heap.size ≤ w.heap.size + 1; omega) _).setCell (by show w.heap.size ≤ w.heap.size + 1; omega) _).setCell (by show w.heap.size ≤ w.heap.size + 1; omega) _), none, 0, 0, none, 0, 0, rfl, rfl, rfl, IntsAt.nil _ _ _ _, IntsAt.nil _ _ _ _, fun _ _ e => (nomatch e), fun _ _ e => (nomatch e), fun _ _ _ _ e => (nomatch e)⟩
  · rw [hvd] at bad
    have hro : runOk na nh fuel = false := by simpa using bad
    clear bad
    go_enter Tryd.func23, Tryd.ntmps23
    go_wp2_with (first | (go_at_call 13; refine (validFuncI_any v a n c xs L B _ (HA _ _) hx hs (by simp; omega) (HO _ _) (HT _ _)).mono ?_; rintro e w1 ⟨rfl, hb1⟩; rw [hvd]; have HB1 := hide (bnext (balloc (balloc (Below.refl w.heap.size w) _) _) hb1); obtain ⟨-, ⟨r0, r1, r2, r3, r4⟩, rz⟩ := boxes (hb1.mono (by simp)); clear hb1) | (go_at_call 72; refine (validRun_any _ _ _ _ _ _ _ _).mono ?_; rintro e w2 ⟨rfl, rfl⟩; rw [hro]))
    exact bodyPost_ret (v := .agg #[.int .i64 4, .int .i64 0, .int .i64 0, .slice none 0 0, .slice none 0 0]) (by simp [results, Tryd.results23, go_sem, r0, r1, r2, r3, r4]) rfl ⟨_, rfl, (((((HB1.out.setCell (by show w.heap.size ≤ w.heap.size + 1; omega) _).setCell (by show w.heap.size ≤ w.heap.size + 1; omega) _).setCell (by show w.heap.size ≤ w.heap.size + 1; omega) _).setCell (by show w.heap.size ≤ w.heap.size + 1; omega) _).setCell (by show w.heap.size ≤ w.heap.size + 1; omega) _), none, 0, 0, none, 0, 0, rfl, rfl, rfl, IntsAt.nil _ _ _ _, IntsAt.nil _ _ _ _, fun _ _ e => (nomatch e), fun _ _ e => (nomatch e), fun _ _ _ _ e => (nomatch e)⟩

end Go.Proofs.YtdcdgopblbmgoaaDoor

namespace Go.Proofs.YtdcdgopblbmgoaaDoor
open Go.RowKit

theorem zero14 {W : World} {R t : Nat} (h : W.heap[R]? = some (.cells #[.slice none 0 0, .slice none 0 0, .slice none 0 0, .int .i64 0, .int .i64 0, .int .i64 0, .slice none 0 0, .slice none 0 0, .int .i64 0, .int .i64 0, .slice none 0 0, .int .i64 0, .slice none 0 0, .slice none 0 0] t (0, 0))) : (W.cell? ⟨R, 0, none⟩ = some (.slice none 0 0) ∧ W.cell? ⟨R, 1, none⟩ = some (.slice none 0 0) ∧ W.cell? ⟨R, 2, none⟩ = some (.slice none 0 0) ∧ W.cell? ⟨R, 3, none⟩ = some (.int .i64 0) ∧ W.cell? ⟨R, 4, none⟩ = some (.int .i64 0) ∧ W.cell? ⟨R, 5, none⟩ = some (.int .i64 0) ∧ W.cell? ⟨R, 6, none⟩ = some (.slice none 0 0) ∧ W.cell? ⟨R, 7, none⟩ = some (.slice none 0 0) ∧ W.cell? ⟨R, 8, none⟩ = some (.int .i64 0) ∧ W.cell? ⟨R, 9, none⟩ = some (.int .i64 0) ∧ W.cell? ⟨R, 10, none⟩ = some (.slice none 0 0) ∧ W.cell? ⟨R, 11, none⟩ = some (.int .i64 0) ∧ W.cell? ⟨R, 12, none⟩ = some (.slice none 0 0) ∧ W.cell? ⟨R, 13, none⟩ = some (.slice none 0 0)) ∧ ∀ o, W.frozen? ⟨R, o, none⟩ = false := by
  refine ⟨⟨?_, ?_, ?_, ?_, ?_, ?_, ?_, ?_, ?_, ?_, ?_, ?_, ?_, ?_⟩, fun o => by simp [World.frozen?, h]⟩ <;> simp [World.cell?, h]

set_option maxHeartbeats 4000000 in
set_option maxRecDepth 100000 in
theorem runI_good (m : Nat) (a : Option Addr) (n c : Nat) (aa : Option Addr) (na ca : Nat) (hA : Option Addr) (nh ch0 : Nat) (fuel : Nat) (xs : List Blk) (args heap : List Int) (L B : Nat) (w : World)
    (ha : Hid (BlksAt w L B a xs)) (hx : Hid (n = xs.length)) (hs : Hid (xs.length + blksTot xs ≤ 1048576)) (hB : B ≤ w.heap.size) (hargs : Hid (IntsAt w L B aa args)) (hna : Hid (na = args.length)) (hheap : Hid (IntsAt w L B hA heap)) (hnh : Hid (nh = heap.length)) (hO : Hid (OpTab w)) (hT : Hid (TerTab w))
    (good : Hid (validS ⟨m, xs⟩ = true)) (ok : runOk na nh fuel = true) (hm2 : m ≤ 2000) (hn1 : 1 ≤ n) (hf : fuel ≤ 60000) (h32 : nh ≤ 32) :
    Calls Tryd.prog 23 #[.agg #[.int .i64 m, .slice a n c], .slice aa na ca, .slice hA nh ch0, .int .i64 fuel] w
      fun e w' => ∃ val, e = .returned val ∧ Below w.heap.size w w' ∧ OutAtF w' w.heap.size w'.heap.size val (runR ⟨m, xs⟩ args fuel 0 (startR ⟨m, xs⟩ heap)) := by
  have HA := fun x y => hide (ha.out.keep ((balloc (balloc (Below.refl w.heap.size w) x) y).mono hB))
  have HO := fun x y => hide (hO.out.keep (balloc (balloc (Below.refl w.heap.size w) x) y))
  have HT := fun x y => hide (hT.out.keep (balloc (balloc (Below.refl w.heap.size w) x) y))
  have GI : Hid (validI ⟨m, xs⟩ = true) := by show _ = _; rw [valid_same]; exact good.out
  have hnn : n ≤ 1048576 := by have := hx.out; have := hs.out; omega
  have htg := hide (tgt_of_terms (v := m) (xs := xs) (by have h := GI.out; simp only [validI, Bool.and_eq_true] at h; exact h.1.1.1.2))
  generalize hR0 : runR ⟨m, xs⟩ args fuel 0 (startR ⟨m, xs⟩ heap) = R0
  go_enter Tryd.func23, Tryd.ntmps23
  go_wp2_with (first | (go_at_call 13; refine (validFuncI_any m a n c xs L B _ (HA _ _) hx hs (by simp; omega) (HO _ _) (HT _ _)).mono ?_; rintro e w1 ⟨rfl, hb1⟩; rw [GI.out]; have HB1 := hide (bnext (balloc (balloc (Below.refl w.heap.size w) _) _) hb1); obtain ⟨hfb, hrb⟩ := boxes (hb1.mono (by simp)); have HRB := hide hrb; have z0 := hfb.1; have z1 := hfb.2; have hs1 := hb1.size; simp at hs1; clear hb1 hfb hrb) | (go_at_call 72; refine (validRun_any _ _ _ _ _ _ _ _).mono ?_; rintro e w2 ⟨rfl, rfl⟩; rw [ok]))
  have HNR := fun (W : World) (h : Below w.heap.size w W) => hide (newRun_any aa na ca hA nh ch0 fuel m heap L B W (hide (hheap.out.keep (h.mono hB))) hnh h32 (by omega) (by have := h.size; omega))
  have HPD := fun (W : World) (h : Below w.heap.size w W) => hide (predecessors_any m a n c xs L B W (hide (ha.out.keep (h.mono hB))) hx hnn (by have := h.size; omega) (hide (by rw [hx.out]; exact htg.out)))
  have nz1 : w2.heap.size ≠ w.heap.size := by omega
  clear HA HO HT
  refine wp_region_held_drew (S := (fun w' => w'.cell? ⟨w.heap.size, 0, none⟩ = some (.int .i64 m) ∧ w'.cell? ⟨w.heap.size, 1, none⟩ = some (.slice a n c))) (by kernel_rfl) (by (try dsimp only); go_keep) (fun hHeld => ?_)
  refine wpAnyH_take (i := 0) (v := ?_) rfl (by kernel_rfl) (by kernel_rfl) (by kernel_rfl) (fun _ _ _ h => h) (Or.inl ⟨by rfl, ?_⟩) (by assumption) ?_
  rotate_left
  · intro w hSw; (try dsimp only at hSw); go_simp; try with_reducible rfl
  simp only [Act.put, List.getElem_toArray, List.getElem_cons_zero, List.setIfInBounds_toArray, List.set_cons_zero, List.set_cons_succ]
  refine wpAnyH_take (i := 1) (v := ?_) rfl (by kernel_rfl) (by kernel_rfl) (by kernel_rfl) (fun _ _ _ h => h) (Or.inl ⟨by rfl, ?_⟩) (by assumption) ?_
  rotate_left
  · intro w hSw; (try dsimp only at hSw); go_simp; try with_reducible rfl
  simp only [Act.put, List.getElem_toArray, List.getElem_cons_zero, List.getElem_cons_succ, List.setIfInBounds_toArray, List.set_cons_zero, List.set_cons_succ]
  refine wpAnyH_take (i := 2) (v := ?_) rfl (by kernel_rfl) (by kernel_rfl) (by kernel_rfl) (fun _ _ _ h => h) (Or.inl ⟨by rfl, ?_⟩) (by assumption) ?_
  rotate_left
  · intro w hSw; (try dsimp only at hSw); go_simp; try with_reducible rfl
  simp only [Act.put, List.getElem_toArray, List.getElem_cons_zero, List.getElem_cons_succ, List.setIfInBounds_toArray, List.set_cons_zero, List.set_cons_succ]
  refine wpAnyH_take (i := 3) (v := ?_) rfl (by kernel_rfl) (by kernel_rfl) (by kernel_rfl) (fun _ _ _ h => h) (Or.inl ⟨by rfl, ?_⟩) (by assumption) ?_
  rotate_left
  · intro w hSw; (try dsimp only at hSw); go_simp; try with_reducible rfl
  simp only [Act.put, List.getElem_toArray, List.getElem_cons_zero, List.getElem_cons_succ, List.setIfInBounds_toArray, List.set_cons_zero, List.set_cons_succ]
  refine wpAnyH_take (i := 4) (v := ?_) rfl (by kernel_rfl) (by kernel_rfl) (by kernel_rfl) (fun _ _ _ h => h) (Or.inl ⟨by rfl, ?_⟩) (by assumption) ?_
  rotate_left
  · intro w hSw; (try dsimp only at hSw); go_simp; try with_reducible rfl
  simp only [Act.put, List.getElem_toArray, List.getElem_cons_zero, List.getElem_cons_succ, List.setIfInBounds_toArray, List.set_cons_zero, List.set_cons_succ]
  refine wpAnyH_take (i := 6) (v := ?_) rfl (by kernel_rfl) (by kernel_rfl) (by kernel_rfl) (fun _ _ _ h => h) (Or.inl ⟨by rfl, ?_⟩) (by assumption) ?_
  rotate_left
  · intro w hSw; (try dsimp only at hSw); go_simp; try with_reducible rfl
  simp only [Act.put, List.getElem_toArray, List.getElem_cons_zero, List.getElem_cons_succ, List.setIfInBounds_toArray, List.set_cons_zero, List.set_cons_succ]
  refine wpAnyH_take (i := 7) (v := ?_) rfl (by kernel_rfl) (by kernel_rfl) (by kernel_rfl) (fun _ _ _ h => h) (Or.inl ⟨by rfl, ?_⟩) (by assumption) ?_
  rotate_left
  · intro w hSw; (try dsimp only at hSw); go_simp; try with_reducible rfl
  simp only [Act.put, List.getElem_toArray, List.getElem_cons_zero, List.getElem_cons_succ, List.setIfInBounds_toArray, List.set_cons_zero, List.set_cons_succ]
  refine wpAnyH_ready (rs := [5, 10]) (by kernel_rfl) (by simp) ?_
  refine (AllReadyH.cons rfl (fun K hK => ?_) (AllReadyH.cons rfl (fun K hK => ?_) AllReadyH.nil))
  · skip
    go_simp
    refine (HNR _ HB1.out.drew).out.mono ?_
    rintro e w3 ⟨gh, gv, rfl, hb3, hgh, hgv, hne, hi3, hv3⟩
    have h23 : Below w2.heap.size w2 w3 := (Below.refl w2.heap.size w2).drew.trans hb3
    have hs3 := h23.size
    have y0 := (h23.cell (p := ⟨w.heap.size, 0, none⟩) (by show w.heap.size < _; omega)).trans z0
    have y1 := (h23.cell (p := ⟨w.heap.size, 1, none⟩) (by show w.heap.size < _; omega)).trans z1
    have hg3 := hi3.lt
    have hv3l := hv3.lt
    have nz3 : w3.heap.size ≠ w.heap.size := by omega
    simp at hgh hgv
    have HB3 := hide (HB1.out.trans (h23.mono (by omega)))
    have H23 := hide h23
    have HI3 := hide hi3
    have HV3 := hide hv3
    clear hb3 hi3 hv3 h23
    go_wp2_with fail
    refine hK.out _ _ (by first | with_reducible exact hHeld | ((try dsimp only); go_keep)) (fun hHeld => ?_)
    clear hK
    try simp only [Act.put, List.getElem_toArray, List.getElem_cons_zero, List.getElem_cons_succ, List.setIfInBounds_toArray, List.set_cons_zero, List.set_cons_succ]
    refine wpAnyH_ready (rs := [8, 10]) (by kernel_rfl) (by simp) ?_
    refine (AllReadyH.cons rfl (fun K hK => ?_) (AllReadyH.cons rfl (fun K hK => ?_) AllReadyH.nil))
    · skip
      go_simp
      refine (HPD _ HB3.out).out.mono ?_
      rintro e w4 ⟨pa, pc, rfl, hb4, hi4⟩
      have h34 : Below w3.heap.size w3 w4 := hb4
      have HP4 := hide hi4
      have hs4 := h34.size
      have x0 := (h34.cell (p := ⟨w.heap.size, 0, none⟩) (by show w.heap.size < _; omega)).trans y0
      have x1 := (h34.cell (p := ⟨w.heap.size, 1, none⟩) (by show w.heap.size < _; omega)).trans y1
      have nz4 : w4.heap.size ≠ w.heap.size := by omega
      have H34 := hide h34
      clear hb4 hi4 h34
      go_wp2_with fail
      refine hK.out _ _ (by first | with_reducible exact hHeld | ((try dsimp only); go_keep)) (fun hHeld => ?_)
      clear hK
      try simp only [Act.put, List.getElem_toArray, List.getElem_cons_zero, List.getElem_cons_succ, List.setIfInBounds_toArray, List.set_cons_zero, List.set_cons_succ]
      refine wpAnyH_take (i := 9) (v := ?_) rfl (by kernel_rfl) (by kernel_rfl) (by kernel_rfl) (fun _ _ _ h => h) (Or.inl ⟨by rfl, ?_⟩) (by assumption) ?_
      rotate_left
      · intro w hSw; (try dsimp only at hSw); go_simp; try with_reducible rfl
      simp only [Act.put, List.getElem_toArray, List.getElem_cons_zero, List.getElem_cons_succ, List.setIfInBounds_toArray, List.set_cons_zero, List.set_cons_succ]
      refine wpAnyH_ready (rs := [10]) (by kernel_rfl) (by simp) ?_
      refine AllReadyH.cons rfl (fun K hK => ?_) AllReadyH.nil
      go_simp
      refine hK.out _ _ (by first | with_reducible exact hHeld | ((try dsimp only); go_keep)) (fun hHeld => ?_)
      clear hK
      try simp only [Act.put, List.getElem_toArray, List.getElem_cons_zero, List.getElem_cons_succ, List.setIfInBounds_toArray, List.set_cons_zero, List.set_cons_succ]
      refine wpAnyH_ready (rs := [11]) (by kernel_rfl) (by simp) ?_
      refine AllReadyH.cons rfl (fun K hK => ?_) AllReadyH.nil
      go_simp
      refine hK.out _ _ (by first | with_reducible exact hHeld | ((try dsimp only); go_keep)) (fun hHeld => ?_)
      clear hK
      try simp only [Act.put, List.getElem_toArray, List.getElem_cons_zero, List.getElem_cons_succ, List.setIfInBounds_toArray, List.set_cons_zero, List.set_cons_succ]
      refine wpAnyH_done (by kernel_rfl) ?_ _
      go_upto_region 4 with fail
      refine letterN (P := Code.wp _ _ _ _) _ ?_
      intro W hW
      have hgl := HI3.out.lt
      have hvl := HV3.out.lt
      have fW : ∀ q, q < w4.heap.size → W.heap[q]? = w4.heap[q]? := fun q hq => by rw [hW]; exact (balloc (Below.refl w4.heap.size w4) _).block q hq
      have bW : Below w4.heap.size w4 W := by rw [hW]; exact balloc (Below.refl w4.heap.size w4) _
      have kR : W.heap[w4.heap.size]? = some (.cells (L11 aa na ca gh fuel gv m ++ ([.int .i64 m, .slice a n c, .slice pa n pc] : List Value)).toArray 107 (0, 0)) := by rw [hW]; exact heap_new w4 _
      have HIN := hide (InitR.mk (w := w) (W := W) (m := m) (aa := aa) (na := na) (ca := ca) (fuel := fuel) (R := w4.heap.size) (gv := gv) (gh := gh) (heap := heap) (tl := [.int .i64 m, .slice a n c, .slice pa n pc]) (HB3.out.trans ((H34.out.mono (by omega)).trans (bW.mono (by omega)))) (HRB.out.keep ((fW _ (by omega)).trans ((H34.out.block _ (by omega)).trans (H23.out.block _ (by omega))))) ⟨_, kR⟩ (HV3.out.keep ((fW _ (by omega)).trans (H34.out.block _ (by omega)))) (HI3.out.keep ((fW _ (by omega)).trans (H34.out.block _ (by omega)))) (by omega) (by omega))
      have HPR := hide (HP4.out.keep (w' := W) bW)
      have hsz4 : w4.heap.size ≤ W.heap.size := bW.size
      have l2R : w4.heap.size < w3.heap.size ∨ w4.heap.size ≤ w4.heap.size := by omega
      clear hW fW kR bW HP4 HI3 HV3 H23 H34 HB3 hHeld x0 x1 y0 y1 hgh hgv hne nz3 nz4 hgl hvl hg3 hv3l
      generalize hRR : w4.heap.size = R at *
      obtain ⟨l1, l2, l3⟩ := HIN.out.lo
      have hRl := HIN.out.lt
      have hTw := hT.out.1
      have HMN := hide (makeNodes_any m a n c xs R aa na ca args pa n pc (fun o => W.cell? ⟨R, o, none⟩) L B L B _ _ W (hide (ha.out.keep (HIN.out.below.mono hB))) hx hs (by omega) hRl (by omega) (by omega) (hide (hargs.out.keep (HIN.out.below.mono hB))) hna good (hide (hT.out.keep HIN.out.below)) (hide HIN.out.runBox) (hide (HIN.out.cell 11 _ rfl)) (hide (HIN.out.cell 12 _ rfl)) (hide (HIN.out.cell 13 _ rfl)) (hide (by rw [← hx.out]; exact HPR.out)) hx hsz4 l2R hn1)
      have hl32 : Hid (32 = R0.hp.length) := hide (by rw [← hR0, runR_hp]; simp [startR, heapR])
      have HR0 := hide hR0
      clear HNR HPD hR0 z0 z1 hsz4 l2R hRR
      go_wp2_with fail
      refine HMN.out.mono ?_
      rintro e w5 ⟨rfl, G, c5, gs, cs, vs, hk5, hG5, hbx5, htb5⟩
      obtain ⟨p1, p2, p3⟩ := after_nodes HIN.out hk5 hbx5
      have hks5 := hk5.size
      have hrn := run_any ⟨m, xs⟩ args fuel R aa na ca gh 32 gv m m G n c5 W.heap.size gs cs vs heap w5 p1 p2 p3 htb5 good.out rfl hx.out hn1 hs.out hf hRl HIN.out.vals.lt HIN.out.heap.lt HIN.out.ne.1 HIN.out.ne.2.1 HIN.out.ne.2.2 hG5
      rw [HR0.out] at hrn
      have HRN := hide hrn
      have HK5 := hide hk5
      clear hrn hk5 hbx5 htb5 p1 p2 p3
      go_wp2_with fail
      refine HRN.out.mono ?_
      rintro e w6 ⟨ta, nt, ct, rfl, ka, kn, kc, bb, pc', vals, K, h6⟩
      obtain ⟨⟨⟨r0, r1, r2, r3, r4⟩, rz⟩, hfin⟩ := after_run HIN.out HK5.out hl32.out h6
      have HFI := hide hfin
      clear h6 hfin
      go_wp2
      exact bodyPost_ret (v := .agg #[.int .i64 R0.code, .int .i64 R0.value, .int .i64 R0.steps, .slice ta nt ct, .slice (some ⟨gh, 0, none⟩) 32 32]) (by simp [results, Tryd.results23, go_sem, r0, r1, r2, r3, r4]) rfl ⟨_, rfl, HFI.out [.int .i64 R0.code, .int .i64 R0.value, .int .i64 R0.steps, .slice ta nt ct, .slice (some ⟨gh, 0, none⟩) 32 32]⟩
    · skip
      go_simp
      refine hK.out _ _ (by first | with_reducible exact hHeld | ((try dsimp only); go_keep)) (fun hHeld => ?_)
      clear hK
      try simp only [Act.put, List.getElem_toArray, List.getElem_cons_zero, List.getElem_cons_succ, List.setIfInBounds_toArray, List.set_cons_zero, List.set_cons_succ]
      refine wpAnyH_ready (rs := [8]) (by kernel_rfl) (by simp) ?_
      refine AllReadyH.cons rfl (fun K hK => ?_) AllReadyH.nil
      go_simp
      refine (HPD _ (HB3.out.alloc (by omega) _)).out.mono ?_
      rintro e w4 ⟨pa, pc, rfl, hb4, hi4⟩
      have h34 : Below w3.heap.size w3 w4 := (balloc (Below.refl w3.heap.size w3) _).trans (hb4.mono (by simp))
      have e4 : w4.heap[w3.heap.size]? = some (.cells #[.slice none 0 0, .slice none 0 0, .slice none 0 0, .int .i64 0, .int .i64 0, .int .i64 0, .slice none 0 0, .slice none 0 0, .int .i64 0, .int .i64 0, .slice none 0 0, .int .i64 0, .slice none 0 0, .slice none 0 0] 107 (0, 0)) := (hb4.block _ (by simp)).trans (heap_new w3 _)
      have hR4 : w3.heap.size < w4.heap.size := by have := hb4.size; simp at this; omega
      have hi4' := hi4
      rw [World.size_alloc] at hi4'
      have HP4 := hide hi4'
      clear hi4'
      have hs4 := h34.size
      have x0 := (h34.cell (p := ⟨w.heap.size, 0, none⟩) (by show w.heap.size < _; omega)).trans y0
      have x1 := (h34.cell (p := ⟨w.heap.size, 1, none⟩) (by show w.heap.size < _; omega)).trans y1
      obtain ⟨⟨d0, d1, d2, d3, d4, d5, d6, d7, d8, d9, d10, d11, d12, d13⟩, dz⟩ := zero14 e4
      have nz4 : w4.heap.size ≠ w.heap.size := by omega
      have H34 := hide h34
      clear hb4 hi4 h34
      go_wp2_with fail
      refine hK.out _ _ (by first | with_reducible exact hHeld | ((try dsimp only); go_keep)) (fun hHeld => ?_)
      clear hK
      try simp only [Act.put, List.getElem_toArray, List.getElem_cons_zero, List.getElem_cons_succ, List.setIfInBounds_toArray, List.set_cons_zero, List.set_cons_succ]
      refine wpAnyH_take (i := 9) (v := ?_) rfl (by kernel_rfl) (by kernel_rfl) (by kernel_rfl) (fun _ _ _ h => h) (Or.inl ⟨by rfl, ?_⟩) (by assumption) ?_
      rotate_left
      · intro w hSw; (try dsimp only at hSw); go_simp; try with_reducible rfl
      simp only [Act.put, List.getElem_toArray, List.getElem_cons_zero, List.getElem_cons_succ, List.setIfInBounds_toArray, List.set_cons_zero, List.set_cons_succ]
      refine wpAnyH_ready (rs := [11]) (by kernel_rfl) (by simp) ?_
      refine AllReadyH.cons rfl (fun K hK => ?_) AllReadyH.nil
      go_simp
      refine hK.out _ _ (by first | with_reducible exact hHeld | ((try dsimp only); go_keep)) (fun hHeld => ?_)
      clear hK
      try simp only [Act.put, List.getElem_toArray, List.getElem_cons_zero, List.getElem_cons_succ, List.setIfInBounds_toArray, List.set_cons_zero, List.set_cons_succ]
      refine wpAnyH_done (by kernel_rfl) ?_ _
      go_upto_region 4 with fail
      refine letterN (P := Code.wp _ _ _ _) _ ?_
      intro W hW
      have hgl := HI3.out.lt
      have hvl := HV3.out.lt
      have hW' : W = setL w4 (w3.heap.size) 0 [.slice aa na ca, .slice (some ⟨gh, 0, none⟩) 32 32, .slice none 0 0, .int .i64 fuel, .int .i64 0, .int .i64 0, .slice (some ⟨gv, 0, none⟩) m m, .slice none 0 0, .int .i64 0, .int .i64 0, .slice none 0 0, .int .i64 m, .slice a n c, .slice pa n pc] := hW
      have fW : ∀ q, q < w4.heap.size → q ≠ w3.heap.size → W.heap[q]? = w4.heap[q]? := fun q hq hn => by rw [hW']; exact setL_far hn _ w4 0
      have kR : W.heap[w3.heap.size]? = some (.cells (L11 aa na ca gh fuel gv m ++ ([.int .i64 m, .slice a n c, .slice pa n pc] : List Value)).toArray 107 (0, 0)) := by rw [hW']; exact setL_at (R := w3.heap.size) [.slice aa na ca, .slice (some ⟨gh, 0, none⟩) 32 32, .slice none 0 0, .int .i64 fuel, .int .i64 0, .int .i64 0, .slice (some ⟨gv, 0, none⟩) m m, .slice none 0 0, .int .i64 0, .int .i64 0, .slice none 0 0, .int .i64 m, .slice a n c, .slice pa n pc] [.slice none 0 0, .slice none 0 0, .slice none 0 0, .int .i64 0, .int .i64 0, .int .i64 0, .slice none 0 0, .slice none 0 0, .int .i64 0, .int .i64 0, .slice none 0 0, .int .i64 0, .slice none 0 0, .slice none 0 0] [] w4 e4 rfl
      have hsW : W.heap.size = w4.heap.size := by rw [hW']; exact setL_size _ w4 0
      have bW : Below w.heap.size w W := by rw [hW']; exact setL_below (by omega) _ w4 0 (HB3.out.trans (H34.out.mono (by omega)))
      clear hW'
      have HIN := hide (InitR.mk (w := w) (W := W) (m := m) (aa := aa) (na := na) (ca := ca) (fuel := fuel) (R := w3.heap.size) (gv := gv) (gh := gh) (heap := heap) (tl := [.int .i64 m, .slice a n c, .slice pa n pc]) bW (HRB.out.keep ((fW _ (by omega) (by omega)).trans ((H34.out.block _ (by omega)).trans (H23.out.block _ (by omega))))) ⟨_, kR⟩ (HV3.out.keep ((fW _ (by omega) (by omega)).trans (H34.out.block _ (by omega)))) (HI3.out.keep ((fW _ (by omega) (by omega)).trans (H34.out.block _ (by omega)))) (by omega) (by omega))
      have HPR := hide (HP4.out.keepS (w' := W) (fun q h1 h2 => fW q h2 (by omega)))
      have hsz4 : w4.heap.size ≤ W.heap.size := by omega
      have l2R : w3.heap.size < (w3.heap.size + 1) ∨ w4.heap.size ≤ w3.heap.size := by omega
      clear hW fW kR bW HP4 HI3 HV3 H23 H34 HB3 hHeld x0 x1 y0 y1 hgh hgv hne nz3 nz4 hgl hvl hg3 hv3l e4 d0 d1 d2 d3 d4 d5 d6 d7 d8 d9 d10 d11 d12 d13 dz hsW hR4
      generalize hRR : w3.heap.size = R at *
      obtain ⟨l1, l2, l3⟩ := HIN.out.lo
      have hRl := HIN.out.lt
      have hTw := hT.out.1
      have HMN := hide (makeNodes_any m a n c xs R aa na ca args pa n pc (fun o => W.cell? ⟨R, o, none⟩) L B L B _ _ W (hide (ha.out.keep (HIN.out.below.mono hB))) hx hs (by omega) hRl (by omega) (by omega) (hide (hargs.out.keep (HIN.out.below.mono hB))) hna good (hide (hT.out.keep HIN.out.below)) (hide HIN.out.runBox) (hide (HIN.out.cell 11 _ rfl)) (hide (HIN.out.cell 12 _ rfl)) (hide (HIN.out.cell 13 _ rfl)) (hide (by rw [← hx.out]; exact HPR.out)) hx hsz4 l2R hn1)
      have hl32 : Hid (32 = R0.hp.length) := hide (by rw [← hR0, runR_hp]; simp [startR, heapR])
      have HR0 := hide hR0
      clear HNR HPD hR0 z0 z1 hsz4 l2R hRR
      go_wp2_with fail
      refine HMN.out.mono ?_
      rintro e w5 ⟨rfl, G, c5, gs, cs, vs, hk5, hG5, hbx5, htb5⟩
      obtain ⟨p1, p2, p3⟩ := after_nodes HIN.out hk5 hbx5
      have hks5 := hk5.size
      have hrn := run_any ⟨m, xs⟩ args fuel R aa na ca gh 32 gv m m G n c5 W.heap.size gs cs vs heap w5 p1 p2 p3 htb5 good.out rfl hx.out hn1 hs.out hf hRl HIN.out.vals.lt HIN.out.heap.lt HIN.out.ne.1 HIN.out.ne.2.1 HIN.out.ne.2.2 hG5
      rw [HR0.out] at hrn
      have HRN := hide hrn
      have HK5 := hide hk5
      clear hrn hk5 hbx5 htb5 p1 p2 p3
      go_wp2_with fail
      refine HRN.out.mono ?_
      rintro e w6 ⟨ta, nt, ct, rfl, ka, kn, kc, bb, pc', vals, K, h6⟩
      obtain ⟨⟨⟨r0, r1, r2, r3, r4⟩, rz⟩, hfin⟩ := after_run HIN.out HK5.out hl32.out h6
      have HFI := hide hfin
      clear h6 hfin
      go_wp2
      exact bodyPost_ret (v := .agg #[.int .i64 R0.code, .int .i64 R0.value, .int .i64 R0.steps, .slice ta nt ct, .slice (some ⟨gh, 0, none⟩) 32 32]) (by simp [results, Tryd.results23, go_sem, r0, r1, r2, r3, r4]) rfl ⟨_, rfl, HFI.out [.int .i64 R0.code, .int .i64 R0.value, .int .i64 R0.steps, .slice ta nt ct, .slice (some ⟨gh, 0, none⟩) 32 32]⟩
  · skip
    go_simp
    refine hK.out _ _ (by first | with_reducible exact hHeld | ((try dsimp only); go_keep)) (fun hHeld => ?_)
    clear hK
    try simp only [Act.put, List.getElem_toArray, List.getElem_cons_zero, List.getElem_cons_succ, List.setIfInBounds_toArray, List.set_cons_zero, List.set_cons_succ]
    refine wpAnyH_ready (rs := [5]) (by kernel_rfl) (by simp) ?_
    refine AllReadyH.cons rfl (fun K hK => ?_) AllReadyH.nil
    go_simp
    refine (HNR _ (balloc HB1.out _).drew).out.mono ?_
    rintro e w3 ⟨gh, gv, rfl, hb3, hgh, hgv, hne, hi3, hv3⟩
    have h23 : Below w2.heap.size w2 w3 := (balloc (Below.refl w2.heap.size w2) _).drew.trans (hb3.mono (by simp))
    have hs3 := h23.size
    have y0 := (h23.cell (p := ⟨w.heap.size, 0, none⟩) (by show w.heap.size < _; omega)).trans z0
    have y1 := (h23.cell (p := ⟨w.heap.size, 1, none⟩) (by show w.heap.size < _; omega)).trans z1
    have hg3 := hi3.lt
    have hv3l := hv3.lt
    have nz3 : w3.heap.size ≠ w.heap.size := by omega
    simp at hgh hgv
    have e3 : w3.heap[w2.heap.size]? = some (.cells #[.slice none 0 0, .slice none 0 0, .slice none 0 0, .int .i64 0, .int .i64 0, .int .i64 0, .slice none 0 0, .slice none 0 0, .int .i64 0, .int .i64 0, .slice none 0 0, .int .i64 0, .slice none 0 0, .slice none 0 0] 107 (0, 0)) := (hb3.block _ (by simp)).trans (heap_new w2 _)
    have hR3 : w2.heap.size < w3.heap.size := by have := hb3.size; simp at this; omega
    have HB3 := hide (HB1.out.trans (h23.mono (by omega)))
    have H23 := hide h23
    have HI3 := hide hi3
    have HV3 := hide hv3
    clear hb3 hi3 hv3 h23
    go_wp2_with fail
    refine hK.out _ _ (by first | with_reducible exact hHeld | ((try dsimp only); go_keep)) (fun hHeld => ?_)
    clear hK
    try simp only [Act.put, List.getElem_toArray, List.getElem_cons_zero, List.getElem_cons_succ, List.setIfInBounds_toArray, List.set_cons_zero, List.set_cons_succ]
    refine wpAnyH_ready (rs := [8]) (by kernel_rfl) (by simp) ?_
    refine AllReadyH.cons rfl (fun K hK => ?_) AllReadyH.nil
    go_simp
    refine (HPD _ HB3.out).out.mono ?_
    rintro e w4 ⟨pa, pc, rfl, hb4, hi4⟩
    have h34 : Below w3.heap.size w3 w4 := hb4
    have HP4 := hide hi4
    have e4 := (h34.block w2.heap.size (by omega)).trans e3
    have hs4 := h34.size
    have x0 := (h34.cell (p := ⟨w.heap.size, 0, none⟩) (by show w.heap.size < _; omega)).trans y0
    have x1 := (h34.cell (p := ⟨w.heap.size, 1, none⟩) (by show w.heap.size < _; omega)).trans y1
    obtain ⟨⟨d0, d1, d2, d3, d4, d5, d6, d7, d8, d9, d10, d11, d12, d13⟩, dz⟩ := zero14 e4
    have nz4 : w4.heap.size ≠ w.heap.size := by omega
    have H34 := hide h34
    clear hb4 hi4 h34
    go_wp2_with fail
    refine hK.out _ _ (by first | with_reducible exact hHeld | ((try dsimp only); go_keep)) (fun hHeld => ?_)
    clear hK
    try simp only [Act.put, List.getElem_toArray, List.getElem_cons_zero, List.getElem_cons_succ, List.setIfInBounds_toArray, List.set_cons_zero, List.set_cons_succ]
    refine wpAnyH_take (i := 9) (v := ?_) rfl (by kernel_rfl) (by kernel_rfl) (by kernel_rfl) (fun _ _ _ h => h) (Or.inl ⟨by rfl, ?_⟩) (by assumption) ?_
    rotate_left
    · intro w hSw; (try dsimp only at hSw); go_simp; try with_reducible rfl
    simp only [Act.put, List.getElem_toArray, List.getElem_cons_zero, List.getElem_cons_succ, List.setIfInBounds_toArray, List.set_cons_zero, List.set_cons_succ]
    refine wpAnyH_ready (rs := [11]) (by kernel_rfl) (by simp) ?_
    refine AllReadyH.cons rfl (fun K hK => ?_) AllReadyH.nil
    go_simp
    refine hK.out _ _ (by first | with_reducible exact hHeld | ((try dsimp only); go_keep)) (fun hHeld => ?_)
    clear hK
    try simp only [Act.put, List.getElem_toArray, List.getElem_cons_zero, List.getElem_cons_succ, List.setIfInBounds_toArray, List.set_cons_zero, List.set_cons_succ]
    refine wpAnyH_done (by kernel_rfl) ?_ _
    go_upto_region 4 with fail
    refine letterN (P := Code.wp _ _ _ _) _ ?_
    intro W hW
    have hgl := HI3.out.lt
    have hvl := HV3.out.lt
    have hW' : W = setL w4 (w2.heap.size) 0 [.slice aa na ca, .slice (some ⟨gh, 0, none⟩) 32 32, .slice none 0 0, .int .i64 fuel, .int .i64 0, .int .i64 0, .slice (some ⟨gv, 0, none⟩) m m, .slice none 0 0, .int .i64 0, .int .i64 0, .slice none 0 0, .int .i64 m, .slice a n c, .slice pa n pc] := hW
    have fW : ∀ q, q < w4.heap.size → q ≠ w2.heap.size → W.heap[q]? = w4.heap[q]? := fun q hq hn => by rw [hW']; exact setL_far hn _ w4 0
    have kR : W.heap[w2.heap.size]? = some (.cells (L11 aa na ca gh fuel gv m ++ ([.int .i64 m, .slice a n c, .slice pa n pc] : List Value)).toArray 107 (0, 0)) := by rw [hW']; exact setL_at (R := w2.heap.size) [.slice aa na ca, .slice (some ⟨gh, 0, none⟩) 32 32, .slice none 0 0, .int .i64 fuel, .int .i64 0, .int .i64 0, .slice (some ⟨gv, 0, none⟩) m m, .slice none 0 0, .int .i64 0, .int .i64 0, .slice none 0 0, .int .i64 m, .slice a n c, .slice pa n pc] [.slice none 0 0, .slice none 0 0, .slice none 0 0, .int .i64 0, .int .i64 0, .int .i64 0, .slice none 0 0, .slice none 0 0, .int .i64 0, .int .i64 0, .slice none 0 0, .int .i64 0, .slice none 0 0, .slice none 0 0] [] w4 e4 rfl
    have hsW : W.heap.size = w4.heap.size := by rw [hW']; exact setL_size _ w4 0
    have bW : Below w.heap.size w W := by rw [hW']; exact setL_below (by omega) _ w4 0 (HB3.out.trans (H34.out.mono (by omega)))
    clear hW'
    have HIN := hide (InitR.mk (w := w) (W := W) (m := m) (aa := aa) (na := na) (ca := ca) (fuel := fuel) (R := w2.heap.size) (gv := gv) (gh := gh) (heap := heap) (tl := [.int .i64 m, .slice a n c, .slice pa n pc]) bW (HRB.out.keep ((fW _ (by omega) (by omega)).trans ((H34.out.block _ (by omega)).trans (H23.out.block _ (by omega))))) ⟨_, kR⟩ (HV3.out.keep ((fW _ (by omega) (by omega)).trans (H34.out.block _ (by omega)))) (HI3.out.keep ((fW _ (by omega) (by omega)).trans (H34.out.block _ (by omega)))) (by omega) (by omega))
    have HPR := hide (HP4.out.keepS (w' := W) (fun q h1 h2 => fW q h2 (by omega)))
    have hsz4 : w4.heap.size ≤ W.heap.size := by omega
    have l2R : w2.heap.size < w3.heap.size ∨ w4.heap.size ≤ w2.heap.size := by omega
    clear hW fW kR bW HP4 HI3 HV3 H23 H34 HB3 hHeld x0 x1 y0 y1 hgh hgv hne nz3 nz4 hgl hvl hg3 hv3l e4 d0 d1 d2 d3 d4 d5 d6 d7 d8 d9 d10 d11 d12 d13 dz hsW e3 hR3
    generalize hRR : w2.heap.size = R at *
    obtain ⟨l1, l2, l3⟩ := HIN.out.lo
    have hRl := HIN.out.lt
    have hTw := hT.out.1
    have HMN := hide (makeNodes_any m a n c xs R aa na ca args pa n pc (fun o => W.cell? ⟨R, o, none⟩) L B L B _ _ W (hide (ha.out.keep (HIN.out.below.mono hB))) hx hs (by omega) hRl (by omega) (by omega) (hide (hargs.out.keep (HIN.out.below.mono hB))) hna good (hide (hT.out.keep HIN.out.below)) (hide HIN.out.runBox) (hide (HIN.out.cell 11 _ rfl)) (hide (HIN.out.cell 12 _ rfl)) (hide (HIN.out.cell 13 _ rfl)) (hide (by rw [← hx.out]; exact HPR.out)) hx hsz4 l2R hn1)
    have hl32 : Hid (32 = R0.hp.length) := hide (by rw [← hR0, runR_hp]; simp [startR, heapR])
    have HR0 := hide hR0
    clear HNR HPD hR0 z0 z1 hsz4 l2R hRR
    go_wp2_with fail
    refine HMN.out.mono ?_
    rintro e w5 ⟨rfl, G, c5, gs, cs, vs, hk5, hG5, hbx5, htb5⟩
    obtain ⟨p1, p2, p3⟩ := after_nodes HIN.out hk5 hbx5
    have hks5 := hk5.size
    have hrn := run_any ⟨m, xs⟩ args fuel R aa na ca gh 32 gv m m G n c5 W.heap.size gs cs vs heap w5 p1 p2 p3 htb5 good.out rfl hx.out hn1 hs.out hf hRl HIN.out.vals.lt HIN.out.heap.lt HIN.out.ne.1 HIN.out.ne.2.1 HIN.out.ne.2.2 hG5
    rw [HR0.out] at hrn
    have HRN := hide hrn
    have HK5 := hide hk5
    clear hrn hk5 hbx5 htb5 p1 p2 p3
    go_wp2_with fail
    refine HRN.out.mono ?_
    rintro e w6 ⟨ta, nt, ct, rfl, ka, kn, kc, bb, pc', vals, K, h6⟩
    obtain ⟨⟨⟨r0, r1, r2, r3, r4⟩, rz⟩, hfin⟩ := after_run HIN.out HK5.out hl32.out h6
    have HFI := hide hfin
    clear h6 hfin
    go_wp2
    exact bodyPost_ret (v := .agg #[.int .i64 R0.code, .int .i64 R0.value, .int .i64 R0.steps, .slice ta nt ct, .slice (some ⟨gh, 0, none⟩) 32 32]) (by simp [results, Tryd.results23, go_sem, r0, r1, r2, r3, r4]) rfl ⟨_, rfl, HFI.out [.int .i64 R0.code, .int .i64 R0.value, .int .i64 R0.steps, .slice ta nt ct, .slice (some ⟨gh, 0, none⟩) 32 32]⟩
end Go.Proofs.YtdcdgopblbmgoaaDoor
