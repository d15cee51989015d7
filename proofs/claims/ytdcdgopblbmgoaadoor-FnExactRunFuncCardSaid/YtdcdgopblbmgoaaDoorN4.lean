import Derived.Test.YtdcdgopblbmgoaaDoorN3
import Derived.Test.YtdcdgopblbmgoaaDoorN1
import Derived.Deep.RegionHeld3
namespace Go.Proofs.YtdcdgopblbmgoaaDoor
open Go.RowKit

def nvF (F : Fn) (args : List Int) (i : Nat) : List Value := (F.blk i).instrs.map (nodeV args)
def eF (F : Fn) (i : Nat) (w : World) (L B : Nat) (v : Value) : Prop := EndAt w L B F i v
theorem eF_keep (F : Fn) (i : Nat) : EKeep (eF F i) := ⟨fun h k => EndAt.keepS h k, fun h l k => EndAt.mono h l k⟩

set_option maxHeartbeats 2000000 in
set_option maxRecDepth 100000 in
theorem makeNodes_any (m : Nat) (a : Option Addr) (n c : Nat) (xs : List Blk) (R : Nat) (aa : Option Addr) (na ca : Nat) (args : List Int) (pa : Option Addr) (pn pc : Nat) (C : Nat → Option Value) (L B La Ba L2 B2 : Nat) (w : World)
    (ha : Hid (BlksAt w L B a xs)) (hx : Hid (n = xs.length)) (hs : Hid (xs.length + blksTot xs ≤ 1048576)) (hB : B ≤ R) (hR : R < w.heap.size) (hBa : Ba ≤ R) (hR2 : 1 < R) (hargs : Hid (IntsAt w La Ba aa args)) (hna : Hid (na = args.length))
    (good : Hid (validS ⟨m, xs⟩ = true)) (hT : Hid (TerTab w)) (hbox : Hid (RunBox w R aa na ca (.slice none 0 0) C)) (g1 : Hid (C 11 = some (.int .i64 m))) (g2 : Hid (C 12 = some (.slice a n c))) (g3 : Hid (C 13 = some (.slice pa pn pc)))
    (hp : Hid (IntssAt w L2 B2 pa ((List.range xs.length).map fun i : Nat => predsFrom xs 0 (i : Int)))) (hpn : Hid (pn = xs.length)) (hB2 : B2 ≤ w.heap.size) (hRp : R < L2 ∨ B2 ≤ R) (hn1 : 1 ≤ n) :
    Calls Tryd.prog 75 #[.pointer (some ⟨R, 0, none⟩)] w
      fun e w' => e = .returned (.tuple #[]) ∧ ∃ G c' gs cs vs, Kb w.heap.size R R w w' ∧ (w.heap.size ≤ G ∧ G < w'.heap.size) ∧ RunBox w' R aa na ca (.slice (some ⟨G, 0, none⟩) n c') C ∧ NTab w' w.heap.size w'.heap.size G n (nvF ⟨m, xs⟩ args) (eF ⟨m, xs⟩) gs cs vs := by
  have hnn : n ≤ 1048576 := by have := hx.out; have := hs.out; omega
  obtain ⟨i0, hi0, hz0, hz1, hz2⟩ := info_parts Tryd.info118
  obtain ⟨j0, hj0, hy0, hy1, hy2⟩ := info_parts Tryd.info116
  have z12 : w.cell? ⟨R, 12, none⟩ = some (.slice a n c) := (hbox.out.2.2.2 12 (by decide)).trans g2.out
  go_enter Tryd.func75, Tryd.ntmps75
  go_wp2
  clear z12
  go_loopw [13] (fun i wr => ∃ (k : Nat) (Us : List Value) (va : Option Addr) (vc : Nat), k ≤ n ∧ i = .int .i64 k ∧ Hid (NInvG w R aa na ca C (nvF ⟨m, xs⟩ args) (eF ⟨m, xs⟩) k Us va vc wr)) (fun i _ => n - (intOf i).toNat)
  case atStart => exact ⟨0, [], none, 0, Nat.zero_le _, rfl, hide (NInvG.start hbox.out)⟩
  case round =>
    obtain ⟨k, Us, va, vc, hk, rfl, hinv⟩ := hrel
    have hks := hinv.out.kb.size
    by_cases hlt : k < n
    · have hkx : k < xs.length := by have := hx.out; omega
      have BO := blkOk_of ⟨m, xs⟩ good.out k hkx
      obtain ⟨b, o, rfl, ⟨_, hbB⟩, hc⟩ := ha.out k hkx
      rw [show xs[k] = (⟨m, xs⟩ : Fn).blk k from (blk_at ⟨m, xs⟩ k hkx).symm] at hc
      have hil : ((⟨m, xs⟩ : Fn).blk k).instrs.length ≤ 1048576 := by rw [blk_at ⟨m, xs⟩ k hkx]; show xs[k].instrs.length ≤ _; have := tot_le (List.getElem_mem hkx); have := hs.out; omega
      obtain ⟨pa', pc', ia, ic, e0, e1, ⟨e2, e3, e4, e5⟩, _, hin⟩ := hc.keep (hinv.out.kb.below (B' := B) (by omega) hB hB) hbB
      have HIN0 := hide hin
      have hok := hide BO.ins
      obtain ⟨s0, s7, sz, so⟩ := hinv.out.box
      have s11 := (so 11 (by decide)).trans g1.out
      have s12 := (so 12 (by decide)).trans g2.out
      have s13 := (so 13 (by decide)).trans g3.out
      clear hc BO hin so
      generalize hX : (⟨m, xs⟩ : Fn).blk k = X at *
      have HX := hide hX
      clear hX
      have HOW0 := fun o => own_born wr o 165
      go_wp2
      generalize wr = wo at *
      generalize hM : wo.heap.size = M at *
      go_loopw [4, 22] (fun u i wi => ∃ j : Nat, j ≤ X.instrs.length ∧ i = .int .i64 j ∧ Below M wo wi ∧ M + 1 < wi.heap.size ∧ Hid (wi.ownsRow (M + 1) 165 1 u j ((X.instrs.take j).map (nodeV args)))) (fun _ i _ => X.instrs.length - (intOf i).toNat)
      case atStart => exact ⟨0, Nat.zero_le _, rfl, by rw [← hM]; exact balloc (balloc (Below.refl _ _) _) _, by simp [hM], hide (by simpa [hM] using HOW0 _)⟩
      case round =>
        obtain ⟨j, hj, rfl, hwi0, hwsz, HOW⟩ := hrel
        generalize wr = wi at *
        have hwi := hide hwi0
        clear HOW0 e0 e1 e2 e3 e4 e5
        by_cases hjl : j < X.instrs.length
        · obtain ⟨b3, o3, rfl, ⟨_, hb3⟩, hcc⟩ := HIN0.out j hjl
          obtain ⟨i0', i1, i2, i3, i4⟩ := hcc.keep (hwi0.mono (B' := B) (by omega)) hb3
          have hokj := hok.out j hjl
          obtain ⟨xi, hxi⟩ : ∃ xi, X.instrs[j] = xi := ⟨_, rfl⟩
          rw [hxi] at hokj i0' i1 i2 i3 i4
          obtain ⟨op, dst, xa, xb, imm⟩ := xi
          dsimp only at i0' i1 i2 i3 i4
          obtain ⟨T, V, htv⟩ := nodeV_iface args ⟨op, dst, xa, xb, imm⟩
          have HTV := hide htv
          have HXI := hide hxi
          have HAR := fun x => hide ((hargs.out.keep (hinv.out.kb.below (by omega) hBa hBa)).keep ((hwi0.mono (B' := Ba) (by omega)).trans ((balloc (Below.refl wi.heap.size wi) x).drew.mono (by omega))))
          have HIN := fun x => hide (by
            have h := instrNode_any ⟨op, dst, xa, xb, imm⟩ args R aa na ca m La Ba ((wi.alloc x).drew) (((balloc (Below.refl wi.heap.size wi) x).drew.cell (p := ⟨R, 0, none⟩) (by show R < _; omega)).trans ((hwi0.cell (p := ⟨R, 0, none⟩) (by show R < _; omega)).trans s0)) (by simp; omega) (HAR x) hna (by simp; omega) hokj
            dsimp only at h
            exact h)
          clear htv hxi hokj HAR hcc hwi0 s0 s7 sz s11 s12 s13
          go_wp2
          refine wp_region_held_drew (S := (fun w' => w'.cell? ⟨wi.heap.size, 0, none⟩ = some (.int .i64 op) ∧ w'.cell? ⟨wi.heap.size, 1, none⟩ = some (.int .i64 dst) ∧ w'.cell? ⟨wi.heap.size, 2, none⟩ = some (.int .i64 xa) ∧ w'.cell? ⟨wi.heap.size, 3, none⟩ = some (.int .i64 xb) ∧ w'.cell? ⟨wi.heap.size, 4, none⟩ = some (.int .i64 imm))) (by kernel_rfl) (by (try dsimp only); go_keep) (fun hHeld => ?_)
          refine wpAnyH_take (i := 0) (v := ?_) rfl (by kernel_rfl) (by kernel_rfl) (by kernel_rfl) (fun _ _ _ h => h) (Or.inl ⟨by rfl, ?_⟩) (by assumption) ?_
          rotate_left
          · intro w hSw; (try dsimp only at hSw); go_simp; try with_reducible rfl
          simp only [Act.put, List.getElem_toArray, List.getElem_cons_zero, List.setIfInBounds_toArray, List.set_cons_zero, List.set_cons_succ]
          refine wpAnyH_take (i := 1) (v := ?_) rfl (by kernel_rfl) (by kernel_rfl) (by kernel_rfl) (fun _ _ _ h => h) (Or.inl ⟨by rfl, ?_⟩) (by assumption) ?_
          rotate_left
          · intro w hSw; (try dsimp only at hSw); go_simp; try with_reducible rfl
          simp only [Act.put, List.getElem_toArray, List.getElem_cons_zero, List.getElem_cons_succ, List.setIfInBounds_toArray, List.set_cons_zero, List.set_cons_succ]
          refine wpAnyH_take (i := 2) (v := ?_) rfl (by kernel_rfl) (by kernel_rfl) (by kernel_rfl) (fun _ _ _ h => h) (Or.inl ⟨by rfl, ?_⟩) (by assumption) ?_
          rotate_left
          · intro w hSw; (try dsimp only at hSw); go_simp; try with_reducible rfl
          simp only [Act.put, List.getElem_toArray, List.getElem_cons_zero, List.getElem_cons_succ, List.setIfInBounds_toArray, List.set_cons_zero, List.set_cons_succ]
          refine wpAnyH_take (i := 3) (v := ?_) rfl (by kernel_rfl) (by kernel_rfl) (by kernel_rfl) (fun _ _ _ h => h) (Or.inl ⟨by rfl, ?_⟩) (by assumption) ?_
          rotate_left
          · intro w hSw; (try dsimp only at hSw); go_simp; try with_reducible rfl
          simp only [Act.put, List.getElem_toArray, List.getElem_cons_zero, List.getElem_cons_succ, List.setIfInBounds_toArray, List.set_cons_zero, List.set_cons_succ]
          refine wpAnyH_take (i := 4) (v := ?_) rfl (by kernel_rfl) (by kernel_rfl) (by kernel_rfl) (fun _ _ _ h => h) (Or.inl ⟨by rfl, ?_⟩) (by assumption) ?_
          rotate_left
          · intro w hSw; (try dsimp only at hSw); go_simp; try with_reducible rfl
          simp only [Act.put, List.getElem_toArray, List.getElem_cons_zero, List.getElem_cons_succ, List.setIfInBounds_toArray, List.set_cons_zero, List.set_cons_succ]
          refine wpAnyH_ready (rs := [5]) (by kernel_rfl) (by simp) ?_
          refine AllReadyH.cons rfl (fun K hK => ?_) AllReadyH.nil
          go_simp
          refine (HIN _).out.mono ?_
          rintro e w2 ⟨rfl, hb2⟩
          rw [HTV.out]
          have hs2 := hb2.size
          simp at hs2
          obtain ⟨f0, f1, f2, f3, f4⟩ := five_keep (hb2.mono (B' := wi.heap.size + 1) (by simp))
          have HB2 := hide (bnext (balloc (Below.refl wi.heap.size wi) _).drew hb2)
          clear hb2
          go_wp2_with fail
          refine hK.out _ _ (by first | with_reducible exact hHeld | ((try dsimp only); go_keep)) (fun hHeld => ?_)
          clear hK
          try simp only [Act.put, List.getElem_toArray, List.getElem_cons_zero, List.getElem_cons_succ, List.setIfInBounds_toArray, List.set_cons_zero, List.set_cons_succ]
          refine wpAnyH_ready (rs := [6]) (by kernel_rfl) (by simp) ?_
          refine AllReadyH.cons rfl (fun K hK => ?_) AllReadyH.nil
          go_simp
          refine hK.out _ _ (by first | with_reducible exact hHeld | ((try dsimp only); go_keep)) (fun hHeld => ?_)
          clear hK
          try simp only [Act.put, List.getElem_toArray, List.getElem_cons_zero, List.getElem_cons_succ, List.setIfInBounds_toArray, List.set_cons_zero, List.set_cons_succ]
          refine wpAnyH_ready (rs := [7]) (by kernel_rfl) (by simp) ?_
          refine AllReadyH.cons rfl (fun K hK => ?_) AllReadyH.nil
          refine step_append_lies _ rfl (.tmp 26) (.tmp 32) 163 rfl (M + 1) 165 i0 .nilIface 1 16 Tryd.underlying163 hi0 hz0 hz1 hz2 rfl (by decide) u4 j (((X.instrs.take j).map (nodeV args))) (by simp [Act.eval]) (own_keep2 HOW.out (fun b e => ((balloc HB2.out _).block b (HOW.out.lt b e).2))) ⟨w2.heap.size, 0, none⟩ 1 1 [.iface T V] (by simp [Act.eval]) rfl ?_ (by intro u hu; simp at hu; subst hu; rfl) (by decide) (by unfold maxLen; omega) (by omega) (by simp; omega) (w2.heap.size + 1) (by simp) ?_
          · intro j u hj
            match j, hj with
            | 0, hj => simp at hj; subst hj; simp [Addr.add, go_sem]
          intro g cap w3 hown hgrow hat hlt
          have hgs := hgrow.size
          simp at hgs
          have HB3 := hide (grown_below ((hwi.out.trans (HB2.out.mono (by omega))).alloc (by have := HB2.out.size; omega) _) hgrow (own_keep2 HOW.out (fun b e => ((balloc HB2.out _).block b (HOW.out.lt b e).2))) (by omega) (by simp; omega))
          have HOW3 := hide hown
          have hfr : some wi.heap.size ≠ u4.ownBlock := fun e => by have := (HOW.out.lt _ e.symm).2; omega
          obtain ⟨q, -⟩ := far10' hgrow (k := wi.heap.size) (by simp; omega) hfr
          have q0 := (q 0).trans (((balloc (Below.refl w2.heap.size w2) _).cell (p := ⟨wi.heap.size, 0, none⟩) (by show wi.heap.size < _; omega)).trans f0)
          have q1 := (q 1).trans (((balloc (Below.refl w2.heap.size w2) _).cell (p := ⟨wi.heap.size, 1, none⟩) (by show wi.heap.size < _; omega)).trans f1)
          have q2 := (q 2).trans (((balloc (Below.refl w2.heap.size w2) _).cell (p := ⟨wi.heap.size, 2, none⟩) (by show wi.heap.size < _; omega)).trans f2)
          have q3 := (q 3).trans (((balloc (Below.refl w2.heap.size w2) _).cell (p := ⟨wi.heap.size, 3, none⟩) (by show wi.heap.size < _; omega)).trans f3)
          have q4 := (q 4).trans (((balloc (Below.refl w2.heap.size w2) _).cell (p := ⟨wi.heap.size, 4, none⟩) (by show wi.heap.size < _; omega)).trans f4)
          clear q hown hgrow hat hlt hfr
          refine hK.out _ _ (by first | with_reducible exact hHeld | ((try dsimp only); go_keep)) (fun hHeld => ?_)
          clear hK
          try simp only [Act.put, List.getElem_toArray, List.getElem_cons_zero, List.getElem_cons_succ, List.setIfInBounds_toArray, List.set_cons_zero, List.set_cons_succ]
          refine wpAnyH_ready (rs := [8]) (by kernel_rfl) (by simp) ?_
          refine AllReadyH.cons rfl (fun K hK => ?_) AllReadyH.nil
          go_simp
          refine hK.out _ _ (by first | with_reducible exact hHeld | ((try dsimp only); go_keep)) (fun hHeld => ?_)
          clear hK
          try simp only [Act.put, List.getElem_toArray, List.getElem_cons_zero, List.getElem_cons_succ, List.setIfInBounds_toArray, List.set_cons_zero, List.set_cons_succ]
          refine wpAnyH_done (by kernel_rfl) ?_ _
          go_wp2
          exact ⟨⟨j + 1, by omega, by go_num, HB3.out, by omega, hide (by rw [take_next _ _ hjl, List.map_append]; show w3.ownsRow _ _ _ _ _ (_ ++ [nodeV args X.instrs[j]]); rw [HXI.out, HTV.out]; exact HOW3.out)⟩, by simp [intOf]; omega⟩
        · have hje : j = X.instrs.length := by omega
          subst hje
          have c7 := (hwi0.cell (p := ⟨R, 7, none⟩) (by show R < _; omega)).trans s7
          have c11 := (hwi0.cell (p := ⟨R, 11, none⟩) (by show R < _; omega)).trans s11
          have c12 := (hwi0.cell (p := ⟨R, 12, none⟩) (by show R < _; omega)).trans s12
          have c13 := (hwi0.cell (p := ⟨R, 13, none⟩) (by show R < _; omega)).trans s13
          rw [List.take_length] at HOW
          have hKP : Same L2 B2 w wo := fun q h1 h2 => hinv.out.kb.block q (by omega) (by omega) (by omega)
          have HEN := hide (endNode_any m (some ⟨b, o, none⟩) n c pa pn pc k xs R L B L2 B2 wi.drew (hide ((ha.out.keep (hinv.out.kb.below (B' := B) (by omega) hB hB)).keep ((hwi0.mono (B' := B) (by omega)).drew))) hx hs (by simp; omega) (hide ((hp.out.keepS hKP).keep ((hwi0.mono (B' := B2) (by omega)).drew))) hpn (by simp; omega) good hlt (hide (hT.out.keep1 ((hwi0.drew.block 1 (by omega)).trans (hinv.out.kb.block 1 hT.out.1 (by omega) (by omega))) (by simp; omega))) c11 c12 c13 (by simp; omega))
          clear s0 sz HIN0 hok hwi0 c11 c12 c13 s11 s12 s13 hKP
          go_wp2
          refine wp_region_held_drew (S := (fun _ => True)) (by kernel_rfl) trivial (fun hHeld => ?_)
          refine wpAnyH_take (i := 0) (v := ?_) rfl (by kernel_rfl) (by kernel_rfl) (by kernel_rfl) (fun _ _ _ h => h) (Or.inl ⟨by rfl, ?_⟩) (by assumption) ?_
          rotate_left
          · intro w hSw; (try dsimp only at hSw); go_simp; try with_reducible rfl
          simp only [Act.put, List.getElem_toArray, List.getElem_cons_zero, List.setIfInBounds_toArray, List.set_cons_zero, List.set_cons_succ]
          refine wpAnyH_take (i := 1) (v := ?_) rfl (by kernel_rfl) (by kernel_rfl) (by kernel_rfl) (fun _ _ _ h => h) (Or.inl ⟨by rfl, ?_⟩) (by assumption) ?_
          rotate_left
          · intro w hSw; (try dsimp only at hSw); go_simp; try with_reducible rfl
          simp only [Act.put, List.getElem_toArray, List.getElem_cons_zero, List.getElem_cons_succ, List.setIfInBounds_toArray, List.set_cons_zero, List.set_cons_succ]
          refine wpAnyH_take (i := 2) (v := ?_) rfl (by kernel_rfl) (by kernel_rfl) (by kernel_rfl) (fun _ _ _ h => h) (Or.inl ⟨by rfl, ?_⟩) (by assumption) ?_
          rotate_left
          · intro w hSw; (try dsimp only at hSw); go_simp; try with_reducible rfl
          simp only [Act.put, List.getElem_toArray, List.getElem_cons_zero, List.getElem_cons_succ, List.setIfInBounds_toArray, List.set_cons_zero, List.set_cons_succ]
          refine wpAnyH_take (i := 3) (v := ?_) rfl (by kernel_rfl) (by kernel_rfl) (by kernel_rfl) (fun _ _ _ h => h) (Or.inl ⟨by rfl, ?_⟩) (by assumption) ?_
          rotate_left
          · intro w hSw; (try dsimp only at hSw); go_simp; try with_reducible rfl
          simp only [Act.put, List.getElem_toArray, List.getElem_cons_zero, List.getElem_cons_succ, List.setIfInBounds_toArray, List.set_cons_zero, List.set_cons_succ]
          refine wpAnyH_take (i := 4) (v := ?_) rfl (by kernel_rfl) (by kernel_rfl) (by kernel_rfl) (fun _ _ _ h => h) (Or.inl ⟨by rfl, ?_⟩) (by assumption) ?_
          rotate_left
          · intro w hSw; (try dsimp only at hSw); go_simp; try with_reducible rfl
          simp only [Act.put, List.getElem_toArray, List.getElem_cons_zero, List.getElem_cons_succ, List.setIfInBounds_toArray, List.set_cons_zero, List.set_cons_succ]
          refine wpAnyH_take (i := 6) (v := ?_) rfl (by kernel_rfl) (by kernel_rfl) (by kernel_rfl) (fun _ _ _ h => h) (Or.inl ⟨by rfl, ?_⟩) (by assumption) ?_
          rotate_left
          · intro w hSw; (try dsimp only at hSw); go_simp; try with_reducible rfl
          simp only [Act.put, List.getElem_toArray, List.getElem_cons_zero, List.getElem_cons_succ, List.setIfInBounds_toArray, List.set_cons_zero, List.set_cons_succ]
          refine wpAnyH_take (i := 7) (v := ?_) rfl (by kernel_rfl) (by kernel_rfl) (by kernel_rfl) (fun _ _ _ h => h) (Or.inl ⟨by rfl, ?_⟩) (by assumption) ?_
          rotate_left
          · intro w hSw; (try dsimp only at hSw); go_simp; try with_reducible rfl
          simp only [Act.put, List.getElem_toArray, List.getElem_cons_zero, List.getElem_cons_succ, List.setIfInBounds_toArray, List.set_cons_zero, List.set_cons_succ]
          refine wpAnyH_take (i := 8) (v := ?_) rfl (by kernel_rfl) (by kernel_rfl) (by kernel_rfl) (fun _ _ _ h => h) (Or.inl ⟨by rfl, ?_⟩) (by assumption) ?_
          rotate_left
          · intro w hSw; (try dsimp only at hSw); go_simp; try with_reducible rfl
          simp only [Act.put, List.getElem_toArray, List.getElem_cons_zero, List.getElem_cons_succ, List.setIfInBounds_toArray, List.set_cons_zero, List.set_cons_succ]
          refine wpAnyH_ready (rs := [5, 9]) (by kernel_rfl) (by simp) ?_
          refine (AllReadyH.cons rfl (fun K hK => ?_) (AllReadyH.cons rfl (fun K hK => ?_) AllReadyH.nil))
          · skip
            go_simp
            refine hK.out _ _ (by first | with_reducible exact hHeld | ((try dsimp only); go_keep)) (fun hHeld => ?_)
            clear hK
            try simp only [Act.put, List.getElem_toArray, List.getElem_cons_zero, List.getElem_cons_succ, List.setIfInBounds_toArray, List.set_cons_zero, List.set_cons_succ]
            refine wpAnyH_ready (rs := [9]) (by kernel_rfl) (by simp) ?_
            refine AllReadyH.cons rfl (fun K hK => ?_) AllReadyH.nil
            go_simp
            refine HEN.out.mono ?_
            rintro e w2 ⟨val, rfl, hb2, hend⟩
            have HE := hide hend
            have hs2 : wi.heap.size ≤ w2.heap.size := hb2.size
            have k7 := (hb2.cell (p := ⟨R, 7, none⟩) (by show R < _; simp; omega)).trans c7
            have k7a := fun x => ((balloc (Below.refl w2.heap.size w2) x).cell (p := ⟨R, 7, none⟩) (by show R < _; omega)).trans k7
            have HB2 := hide ((Below.refl wi.heap.size wi).drew.trans hb2)
            clear hb2 hend
            go_wp2_with fail
            refine hK.out _ _ (by first | with_reducible exact hHeld | ((try dsimp only); go_keep)) (fun hHeld => ?_)
            clear hK
            try simp only [Act.put, List.getElem_toArray, List.getElem_cons_zero, List.getElem_cons_succ, List.setIfInBounds_toArray, List.set_cons_zero, List.set_cons_succ]
            refine wpAnyH_ready (rs := [10]) (by kernel_rfl) (by simp) ?_
            refine AllReadyH.cons rfl (fun K hK => ?_) AllReadyH.nil
            go_simp
            refine hK.out _ _ (by first | with_reducible exact hHeld | ((try dsimp only); go_keep)) (fun hHeld => ?_)
            clear hK
            try simp only [Act.put, List.getElem_toArray, List.getElem_cons_zero, List.getElem_cons_succ, List.setIfInBounds_toArray, List.set_cons_zero, List.set_cons_succ]
            refine wpAnyH_ready (rs := [11]) (by kernel_rfl) (by simp) ?_
            refine AllReadyH.cons rfl (fun K hK => ?_) AllReadyH.nil
            refine step_append_lies _ rfl (.tmp 41) (.tmp 45) 163 rfl (M + 1) 165 i0 .nilIface 1 16 Tryd.underlying163 hi0 hz0 hz1 hz2 rfl (by decide) u4 X.instrs.length (X.instrs.map (nodeV args)) (by simp [Act.eval]) (own_keep2 HOW.out (fun b e => ((balloc HB2.out _).block b (HOW.out.lt b e).2))) ⟨w2.heap.size, 0, none⟩ 1 1 [.iface 200 val] (by simp [Act.eval]) rfl ?_ (by intro u hu; simp at hu; subst hu; rfl) (by decide) (by unfold maxLen; omega) (by omega) (by simp; omega) (w2.heap.size + 1) (by simp) ?_
            · exact World.news_of_block (heap_new _ _)
            intro g cap w3 hown hgrow hat hlt
            have hgs := hgrow.size
            simp at hgs
            have HB3 := hide (grown_below ((hwi.out.trans (HB2.out.mono (by omega))).alloc (by have := HB2.out.size; omega) _) hgrow (own_keep2 HOW.out (fun b e => ((balloc HB2.out _).block b (HOW.out.lt b e).2))) (by omega) (by simp; omega))
            have HOW3 := hide hown
            have HE3 := hide ((HE.out.keepS (w' := w3) (fun b h1 h2 => (hgrow.block b (by simp; omega) (fun e => by have := (HOW.out.lt _ e.symm).2; simp at h1; omega)).trans ((balloc (Below.refl w2.heap.size w2) _).block b h2))).mono (L' := M) (B' := w3.heap.size) (by simp; omega) (by omega))
            have p7 := (HB3.out.cell (p := ⟨R, 7, none⟩) (by show R < _; omega)).trans s7
            have p7a := fun x => ((balloc (Below.refl w3.heap.size w3) x).cell (p := ⟨R, 7, none⟩) (by show R < _; omega)).trans p7
            have p7z := (HB3.out.frozen (p := ⟨R, 7, none⟩) (by show R < _; omega)).trans (hinv.out.box.2.2.1 7)
            have hMw : M < w3.heap.size := by omega
            clear hown hgrow hat hlt
            refine hK.out _ _ (by first | with_reducible exact hHeld | ((try dsimp only); go_keep)) (fun hHeld => ?_)
            clear hK
            try simp only [Act.put, List.getElem_toArray, List.getElem_cons_zero, List.getElem_cons_succ, List.setIfInBounds_toArray, List.set_cons_zero, List.set_cons_succ]
            refine wpAnyH_ready (rs := [12]) (by kernel_rfl) (by simp) ?_
            refine AllReadyH.cons rfl (fun K hK => ?_) AllReadyH.nil
            go_simp
            refine hK.out _ _ (by first | with_reducible exact hHeld | ((try dsimp only); go_keep)) (fun hHeld => ?_)
            clear hK
            try simp only [Act.put, List.getElem_toArray, List.getElem_cons_zero, List.getElem_cons_succ, List.setIfInBounds_toArray, List.set_cons_zero, List.set_cons_succ]
            refine wpAnyH_ready (rs := [13]) (by kernel_rfl) (by simp) ?_
            refine AllReadyH.cons rfl (fun K hK => ?_) AllReadyH.nil
            refine step_append_lies _ rfl (.tmp 40) (.tmp 47) 100 rfl w.heap.size 163 j0 (.slice none 0 0) 1 24 Tryd.underlying100 hj0 hy0 hy1 hy2 rfl (by decide) (.slice va k vc) k Us (by simp [Act.eval]) (own_keep2 hinv.out.own (fun b e => ((HB3.out.alloc (by omega) _).block b (by have := (hinv.out.own.lt b e).2; omega)))) ⟨w3.heap.size, 0, none⟩ 1 1 [.slice (some ⟨g, 0, none⟩) (X.instrs.length + 1) cap] (by simp [Act.eval]) rfl ?_ (by intro u hu; simp at hu; subst hu; rfl) (by decide) (by unfold maxLen; omega) (by omega) (by simp; omega) (w3.heap.size + 1) (by simp) ?_
            · exact World.news_of_block (heap_new _ _)
            intro G cap4 w4 hown hgrow hat hlt
            have HST := hide (hinv.out.step (eF_keep _) hR (by rw [hM]; exact HB3.out) (NodeRowG.of_own (base := M + 1) (L := wo.heap.size) (nv := nvF ⟨m, xs⟩ args k) (E := eF ⟨m, xs⟩ k) (by unfold nvF; rw [List.length_map, HX.out]) (by omega) (by unfold nvF; rw [HX.out]; exact HOW3.out) (by rw [hM]; exact HE3.out)) hown hgrow hat)
            have nR : some R ≠ (Value.slice va k vc).ownBlock := fun e => by have := (hinv.out.own.lt _ e.symm).1; omega
            obtain ⟨q, qz⟩ := far10' hgrow (k := R) (by simp; omega) nR
            have r7 := (q 7).trans (((balloc (Below.refl w3.heap.size w3) _).cell (p := ⟨R, 7, none⟩) (by show R < _; omega)).trans p7)
            have r7z := (qz 7).trans (((balloc (Below.refl w3.heap.size w3) _).frozen (p := ⟨R, 7, none⟩) (by show R < _; omega)).trans p7z)
            clear q qz hown hgrow hat hlt nR
            refine hK.out _ _ (by first | with_reducible exact hHeld | ((try dsimp only); go_keep)) (fun hHeld => ?_)
            clear hK
            try simp only [Act.put, List.getElem_toArray, List.getElem_cons_zero, List.getElem_cons_succ, List.setIfInBounds_toArray, List.set_cons_zero, List.set_cons_succ]
            refine wpAnyH_take (i := 14) (v := ?_) rfl (by kernel_rfl) (by kernel_rfl) (by kernel_rfl) (fun _ _ _ h => h) (Or.inl ⟨by rfl, ?_⟩) (by assumption) ?_
            rotate_left
            · intro w hSw; (try dsimp only at hSw); go_simp; try with_reducible rfl
            simp only [Act.put, List.getElem_toArray, List.getElem_cons_zero, List.getElem_cons_succ, List.setIfInBounds_toArray, List.set_cons_zero, List.set_cons_succ]
            refine wpAnyH_take (i := 15) (v := ?_) rfl (by kernel_rfl) (by kernel_rfl) (by kernel_rfl) (fun _ _ _ h => h) (Or.inl ⟨by rfl, ?_⟩) (by assumption) ?_
            rotate_left
            · intro w hSw; (try dsimp only at hSw); go_simp; try with_reducible rfl
            simp only [Act.put, List.getElem_toArray, List.getElem_cons_zero, List.getElem_cons_succ, List.setIfInBounds_toArray, List.set_cons_zero, List.set_cons_succ]
            refine wpAnyH_take (i := 16) (v := ?_) rfl (by kernel_rfl) (by kernel_rfl) (by kernel_rfl) (fun _ _ _ h => h) (Or.inl ⟨by rfl, ?_⟩) (by assumption) ?_
            rotate_left
            · intro w hSw; (try dsimp only at hSw); go_simp; try with_reducible rfl
            simp only [Act.put, List.getElem_toArray, List.getElem_cons_zero, List.getElem_cons_succ, List.setIfInBounds_toArray, List.set_cons_zero, List.set_cons_succ]
            refine wpAnyH_ready (rs := [17]) (by kernel_rfl) (by simp) ?_
            refine AllReadyH.cons rfl (fun K hK => ?_) AllReadyH.nil
            go_simp
            refine hK.out _ _ (by first | with_reducible exact hHeld | ((try dsimp only); go_keep)) (fun hHeld => ?_)
            clear hK
            try simp only [Act.put, List.getElem_toArray, List.getElem_cons_zero, List.getElem_cons_succ, List.setIfInBounds_toArray, List.set_cons_zero, List.set_cons_succ]
            refine wpAnyH_done (by kernel_rfl) ?_ _
            go_wp2
            exact ⟨⟨k + 1, Us ++ [.slice (some ⟨g, 0, none⟩) (X.instrs.length + 1) cap], some ⟨G, 0, none⟩, cap4, by omega, by go_num, HST⟩, by simp [intOf]; omega⟩
          · skip
            go_simp
            refine HEN.out.mono ?_
            rintro e w2 ⟨val, rfl, hb2, hend⟩
            have HE := hide hend
            have hs2 : wi.heap.size ≤ w2.heap.size := hb2.size
            have k7 := (hb2.cell (p := ⟨R, 7, none⟩) (by show R < _; simp; omega)).trans c7
            have k7a := fun x => ((balloc (Below.refl w2.heap.size w2) x).cell (p := ⟨R, 7, none⟩) (by show R < _; omega)).trans k7
            have HB2 := hide ((Below.refl wi.heap.size wi).drew.trans hb2)
            clear hb2 hend
            go_wp2_with fail
            refine hK.out _ _ (by first | with_reducible exact hHeld | ((try dsimp only); go_keep)) (fun hHeld => ?_)
            clear hK
            try simp only [Act.put, List.getElem_toArray, List.getElem_cons_zero, List.getElem_cons_succ, List.setIfInBounds_toArray, List.set_cons_zero, List.set_cons_succ]
            refine wpAnyH_ready (rs := [5, 10]) (by kernel_rfl) (by simp) ?_
            refine (AllReadyH.cons rfl (fun K hK => ?_) (AllReadyH.cons rfl (fun K hK => ?_) AllReadyH.nil))
            · skip
              go_simp
              refine hK.out _ _ (by first | with_reducible exact hHeld | ((try dsimp only); go_keep)) (fun hHeld => ?_)
              clear hK
              try simp only [Act.put, List.getElem_toArray, List.getElem_cons_zero, List.getElem_cons_succ, List.setIfInBounds_toArray, List.set_cons_zero, List.set_cons_succ]
              refine wpAnyH_ready (rs := [10]) (by kernel_rfl) (by simp) ?_
              refine AllReadyH.cons rfl (fun K hK => ?_) AllReadyH.nil
              go_simp
              refine hK.out _ _ (by first | with_reducible exact hHeld | ((try dsimp only); go_keep)) (fun hHeld => ?_)
              clear hK
              try simp only [Act.put, List.getElem_toArray, List.getElem_cons_zero, List.getElem_cons_succ, List.setIfInBounds_toArray, List.set_cons_zero, List.set_cons_succ]
              refine wpAnyH_ready (rs := [11]) (by kernel_rfl) (by simp) ?_
              refine AllReadyH.cons rfl (fun K hK => ?_) AllReadyH.nil
              refine step_append_lies _ rfl (.tmp 41) (.tmp 45) 163 rfl (M + 1) 165 i0 .nilIface 1 16 Tryd.underlying163 hi0 hz0 hz1 hz2 rfl (by decide) u4 X.instrs.length (X.instrs.map (nodeV args)) (by simp [Act.eval]) (own_keep2 HOW.out (fun b e => ((balloc HB2.out _).block b (HOW.out.lt b e).2))) ⟨w2.heap.size, 0, none⟩ 1 1 [.iface 200 val] (by simp [Act.eval]) rfl ?_ (by intro u hu; simp at hu; subst hu; rfl) (by decide) (by unfold maxLen; omega) (by omega) (by simp; omega) (w2.heap.size + 1) (by simp) ?_
              · exact World.news_of_block (heap_new _ _)
              intro g cap w3 hown hgrow hat hlt
              have hgs := hgrow.size
              simp at hgs
              have HB3 := hide (grown_below ((hwi.out.trans (HB2.out.mono (by omega))).alloc (by have := HB2.out.size; omega) _) hgrow (own_keep2 HOW.out (fun b e => ((balloc HB2.out _).block b (HOW.out.lt b e).2))) (by omega) (by simp; omega))
              have HOW3 := hide hown
              have HE3 := hide ((HE.out.keepS (w' := w3) (fun b h1 h2 => (hgrow.block b (by simp; omega) (fun e => by have := (HOW.out.lt _ e.symm).2; simp at h1; omega)).trans ((balloc (Below.refl w2.heap.size w2) _).block b h2))).mono (L' := M) (B' := w3.heap.size) (by simp; omega) (by omega))
              have p7 := (HB3.out.cell (p := ⟨R, 7, none⟩) (by show R < _; omega)).trans s7
              have p7a := fun x => ((balloc (Below.refl w3.heap.size w3) x).cell (p := ⟨R, 7, none⟩) (by show R < _; omega)).trans p7
              have p7z := (HB3.out.frozen (p := ⟨R, 7, none⟩) (by show R < _; omega)).trans (hinv.out.box.2.2.1 7)
              have hMw : M < w3.heap.size := by omega
              clear hown hgrow hat hlt
              refine hK.out _ _ (by first | with_reducible exact hHeld | ((try dsimp only); go_keep)) (fun hHeld => ?_)
              clear hK
              try simp only [Act.put, List.getElem_toArray, List.getElem_cons_zero, List.getElem_cons_succ, List.setIfInBounds_toArray, List.set_cons_zero, List.set_cons_succ]
              refine wpAnyH_ready (rs := [12]) (by kernel_rfl) (by simp) ?_
              refine AllReadyH.cons rfl (fun K hK => ?_) AllReadyH.nil
              go_simp
              refine hK.out _ _ (by first | with_reducible exact hHeld | ((try dsimp only); go_keep)) (fun hHeld => ?_)
              clear hK
              try simp only [Act.put, List.getElem_toArray, List.getElem_cons_zero, List.getElem_cons_succ, List.setIfInBounds_toArray, List.set_cons_zero, List.set_cons_succ]
              refine wpAnyH_ready (rs := [13]) (by kernel_rfl) (by simp) ?_
              refine AllReadyH.cons rfl (fun K hK => ?_) AllReadyH.nil
              refine step_append_lies _ rfl (.tmp 40) (.tmp 47) 100 rfl w.heap.size 163 j0 (.slice none 0 0) 1 24 Tryd.underlying100 hj0 hy0 hy1 hy2 rfl (by decide) (.slice va k vc) k Us (by simp [Act.eval]) (own_keep2 hinv.out.own (fun b e => ((HB3.out.alloc (by omega) _).block b (by have := (hinv.out.own.lt b e).2; omega)))) ⟨w3.heap.size, 0, none⟩ 1 1 [.slice (some ⟨g, 0, none⟩) (X.instrs.length + 1) cap] (by simp [Act.eval]) rfl ?_ (by intro u hu; simp at hu; subst hu; rfl) (by decide) (by unfold maxLen; omega) (by omega) (by simp; omega) (w3.heap.size + 1) (by simp) ?_
              · exact World.news_of_block (heap_new _ _)
              intro G cap4 w4 hown hgrow hat hlt
              have HST := hide (hinv.out.step (eF_keep _) hR (by rw [hM]; exact HB3.out) (NodeRowG.of_own (base := M + 1) (L := wo.heap.size) (nv := nvF ⟨m, xs⟩ args k) (E := eF ⟨m, xs⟩ k) (by unfold nvF; rw [List.length_map, HX.out]) (by omega) (by unfold nvF; rw [HX.out]; exact HOW3.out) (by rw [hM]; exact HE3.out)) hown hgrow hat)
              have nR : some R ≠ (Value.slice va k vc).ownBlock := fun e => by have := (hinv.out.own.lt _ e.symm).1; omega
              obtain ⟨q, qz⟩ := far10' hgrow (k := R) (by simp; omega) nR
              have r7 := (q 7).trans (((balloc (Below.refl w3.heap.size w3) _).cell (p := ⟨R, 7, none⟩) (by show R < _; omega)).trans p7)
              have r7z := (qz 7).trans (((balloc (Below.refl w3.heap.size w3) _).frozen (p := ⟨R, 7, none⟩) (by show R < _; omega)).trans p7z)
              clear q qz hown hgrow hat hlt nR
              refine hK.out _ _ (by first | with_reducible exact hHeld | ((try dsimp only); go_keep)) (fun hHeld => ?_)
              clear hK
              try simp only [Act.put, List.getElem_toArray, List.getElem_cons_zero, List.getElem_cons_succ, List.setIfInBounds_toArray, List.set_cons_zero, List.set_cons_succ]
              refine wpAnyH_take (i := 14) (v := ?_) rfl (by kernel_rfl) (by kernel_rfl) (by kernel_rfl) (fun _ _ _ h => h) (Or.inl ⟨by rfl, ?_⟩) (by assumption) ?_
              rotate_left
              · intro w hSw; (try dsimp only at hSw); go_simp; try with_reducible rfl
              simp only [Act.put, List.getElem_toArray, List.getElem_cons_zero, List.getElem_cons_succ, List.setIfInBounds_toArray, List.set_cons_zero, List.set_cons_succ]
              refine wpAnyH_take (i := 15) (v := ?_) rfl (by kernel_rfl) (by kernel_rfl) (by kernel_rfl) (fun _ _ _ h => h) (Or.inl ⟨by rfl, ?_⟩) (by assumption) ?_
              rotate_left
              · intro w hSw; (try dsimp only at hSw); go_simp; try with_reducible rfl
              simp only [Act.put, List.getElem_toArray, List.getElem_cons_zero, List.getElem_cons_succ, List.setIfInBounds_toArray, List.set_cons_zero, List.set_cons_succ]
              refine wpAnyH_take (i := 16) (v := ?_) rfl (by kernel_rfl) (by kernel_rfl) (by kernel_rfl) (fun _ _ _ h => h) (Or.inl ⟨by rfl, ?_⟩) (by assumption) ?_
              rotate_left
              · intro w hSw; (try dsimp only at hSw); go_simp; try with_reducible rfl
              simp only [Act.put, List.getElem_toArray, List.getElem_cons_zero, List.getElem_cons_succ, List.setIfInBounds_toArray, List.set_cons_zero, List.set_cons_succ]
              refine wpAnyH_ready (rs := [17]) (by kernel_rfl) (by simp) ?_
              refine AllReadyH.cons rfl (fun K hK => ?_) AllReadyH.nil
              go_simp
              refine hK.out _ _ (by first | with_reducible exact hHeld | ((try dsimp only); go_keep)) (fun hHeld => ?_)
              clear hK
              try simp only [Act.put, List.getElem_toArray, List.getElem_cons_zero, List.getElem_cons_succ, List.setIfInBounds_toArray, List.set_cons_zero, List.set_cons_succ]
              refine wpAnyH_done (by kernel_rfl) ?_ _
              go_wp2
              exact ⟨⟨k + 1, Us ++ [.slice (some ⟨g, 0, none⟩) (X.instrs.length + 1) cap], some ⟨G, 0, none⟩, cap4, by omega, by go_num, HST⟩, by simp [intOf]; omega⟩
            · skip
              go_simp
              refine hK.out _ _ (by first | with_reducible exact hHeld | ((try dsimp only); go_keep)) (fun hHeld => ?_)
              clear hK
              try simp only [Act.put, List.getElem_toArray, List.getElem_cons_zero, List.getElem_cons_succ, List.setIfInBounds_toArray, List.set_cons_zero, List.set_cons_succ]
              refine wpAnyH_ready (rs := [5, 11]) (by kernel_rfl) (by simp) ?_
              refine (AllReadyH.cons rfl (fun K hK => ?_) (AllReadyH.cons rfl (fun K hK => ?_) AllReadyH.nil))
              · skip
                go_simp
                refine hK.out _ _ (by first | with_reducible exact hHeld | ((try dsimp only); go_keep)) (fun hHeld => ?_)
                clear hK
                try simp only [Act.put, List.getElem_toArray, List.getElem_cons_zero, List.getElem_cons_succ, List.setIfInBounds_toArray, List.set_cons_zero, List.set_cons_succ]
                refine wpAnyH_ready (rs := [11]) (by kernel_rfl) (by simp) ?_
                refine AllReadyH.cons rfl (fun K hK => ?_) AllReadyH.nil
                refine step_append_lies _ rfl (.tmp 41) (.tmp 45) 163 rfl (M + 1) 165 i0 .nilIface 1 16 Tryd.underlying163 hi0 hz0 hz1 hz2 rfl (by decide) u4 X.instrs.length (X.instrs.map (nodeV args)) (by simp [Act.eval]) (own_keep2 HOW.out (fun b e => ((balloc HB2.out _).block b (HOW.out.lt b e).2))) ⟨w2.heap.size, 0, none⟩ 1 1 [.iface 200 val] (by simp [Act.eval]) rfl ?_ (by intro u hu; simp at hu; subst hu; rfl) (by decide) (by unfold maxLen; omega) (by omega) (by simp; omega) (w2.heap.size + 1) (by simp) ?_
                · exact World.news_of_block (heap_new _ _)
                intro g cap w3 hown hgrow hat hlt
                have hgs := hgrow.size
                simp at hgs
                have HB3 := hide (grown_below ((hwi.out.trans (HB2.out.mono (by omega))).alloc (by have := HB2.out.size; omega) _) hgrow (own_keep2 HOW.out (fun b e => ((balloc HB2.out _).block b (HOW.out.lt b e).2))) (by omega) (by simp; omega))
                have HOW3 := hide hown
                have HE3 := hide ((HE.out.keepS (w' := w3) (fun b h1 h2 => (hgrow.block b (by simp; omega) (fun e => by have := (HOW.out.lt _ e.symm).2; simp at h1; omega)).trans ((balloc (Below.refl w2.heap.size w2) _).block b h2))).mono (L' := M) (B' := w3.heap.size) (by simp; omega) (by omega))
                have p7 := (HB3.out.cell (p := ⟨R, 7, none⟩) (by show R < _; omega)).trans s7
                have p7a := fun x => ((balloc (Below.refl w3.heap.size w3) x).cell (p := ⟨R, 7, none⟩) (by show R < _; omega)).trans p7
                have p7z := (HB3.out.frozen (p := ⟨R, 7, none⟩) (by show R < _; omega)).trans (hinv.out.box.2.2.1 7)
                have hMw : M < w3.heap.size := by omega
                clear hown hgrow hat hlt
                refine hK.out _ _ (by first | with_reducible exact hHeld | ((try dsimp only); go_keep)) (fun hHeld => ?_)
                clear hK
                try simp only [Act.put, List.getElem_toArray, List.getElem_cons_zero, List.getElem_cons_succ, List.setIfInBounds_toArray, List.set_cons_zero, List.set_cons_succ]
                refine wpAnyH_ready (rs := [12]) (by kernel_rfl) (by simp) ?_
                refine AllReadyH.cons rfl (fun K hK => ?_) AllReadyH.nil
                go_simp
                refine hK.out _ _ (by first | with_reducible exact hHeld | ((try dsimp only); go_keep)) (fun hHeld => ?_)
                clear hK
                try simp only [Act.put, List.getElem_toArray, List.getElem_cons_zero, List.getElem_cons_succ, List.setIfInBounds_toArray, List.set_cons_zero, List.set_cons_succ]
                refine wpAnyH_ready (rs := [13]) (by kernel_rfl) (by simp) ?_
                refine AllReadyH.cons rfl (fun K hK => ?_) AllReadyH.nil
                refine step_append_lies _ rfl (.tmp 40) (.tmp 47) 100 rfl w.heap.size 163 j0 (.slice none 0 0) 1 24 Tryd.underlying100 hj0 hy0 hy1 hy2 rfl (by decide) (.slice va k vc) k Us (by simp [Act.eval]) (own_keep2 hinv.out.own (fun b e => ((HB3.out.alloc (by omega) _).block b (by have := (hinv.out.own.lt b e).2; omega)))) ⟨w3.heap.size, 0, none⟩ 1 1 [.slice (some ⟨g, 0, none⟩) (X.instrs.length + 1) cap] (by simp [Act.eval]) rfl ?_ (by intro u hu; simp at hu; subst hu; rfl) (by decide) (by unfold maxLen; omega) (by omega) (by simp; omega) (w3.heap.size + 1) (by simp) ?_
                · exact World.news_of_block (heap_new _ _)
                intro G cap4 w4 hown hgrow hat hlt
                have HST := hide (hinv.out.step (eF_keep _) hR (by rw [hM]; exact HB3.out) (NodeRowG.of_own (base := M + 1) (L := wo.heap.size) (nv := nvF ⟨m, xs⟩ args k) (E := eF ⟨m, xs⟩ k) (by unfold nvF; rw [List.length_map, HX.out]) (by omega) (by unfold nvF; rw [HX.out]; exact HOW3.out) (by rw [hM]; exact HE3.out)) hown hgrow hat)
                have nR : some R ≠ (Value.slice va k vc).ownBlock := fun e => by have := (hinv.out.own.lt _ e.symm).1; omega
                obtain ⟨q, qz⟩ := far10' hgrow (k := R) (by simp; omega) nR
                have r7 := (q 7).trans (((balloc (Below.refl w3.heap.size w3) _).cell (p := ⟨R, 7, none⟩) (by show R < _; omega)).trans p7)
                have r7z := (qz 7).trans (((balloc (Below.refl w3.heap.size w3) _).frozen (p := ⟨R, 7, none⟩) (by show R < _; omega)).trans p7z)
                clear q qz hown hgrow hat hlt nR
                refine hK.out _ _ (by first | with_reducible exact hHeld | ((try dsimp only); go_keep)) (fun hHeld => ?_)
                clear hK
                try simp only [Act.put, List.getElem_toArray, List.getElem_cons_zero, List.getElem_cons_succ, List.setIfInBounds_toArray, List.set_cons_zero, List.set_cons_succ]
                refine wpAnyH_take (i := 14) (v := ?_) rfl (by kernel_rfl) (by kernel_rfl) (by kernel_rfl) (fun _ _ _ h => h) (Or.inl ⟨by rfl, ?_⟩) (by assumption) ?_
                rotate_left
                · intro w hSw; (try dsimp only at hSw); go_simp; try with_reducible rfl
                simp only [Act.put, List.getElem_toArray, List.getElem_cons_zero, List.getElem_cons_succ, List.setIfInBounds_toArray, List.set_cons_zero, List.set_cons_succ]
                refine wpAnyH_take (i := 15) (v := ?_) rfl (by kernel_rfl) (by kernel_rfl) (by kernel_rfl) (fun _ _ _ h => h) (Or.inl ⟨by rfl, ?_⟩) (by assumption) ?_
                rotate_left
                · intro w hSw; (try dsimp only at hSw); go_simp; try with_reducible rfl
                simp only [Act.put, List.getElem_toArray, List.getElem_cons_zero, List.getElem_cons_succ, List.setIfInBounds_toArray, List.set_cons_zero, List.set_cons_succ]
                refine wpAnyH_take (i := 16) (v := ?_) rfl (by kernel_rfl) (by kernel_rfl) (by kernel_rfl) (fun _ _ _ h => h) (Or.inl ⟨by rfl, ?_⟩) (by assumption) ?_
                rotate_left
                · intro w hSw; (try dsimp only at hSw); go_simp; try with_reducible rfl
                simp only [Act.put, List.getElem_toArray, List.getElem_cons_zero, List.getElem_cons_succ, List.setIfInBounds_toArray, List.set_cons_zero, List.set_cons_succ]
                refine wpAnyH_ready (rs := [17]) (by kernel_rfl) (by simp) ?_
                refine AllReadyH.cons rfl (fun K hK => ?_) AllReadyH.nil
                go_simp
                refine hK.out _ _ (by first | with_reducible exact hHeld | ((try dsimp only); go_keep)) (fun hHeld => ?_)
                clear hK
                try simp only [Act.put, List.getElem_toArray, List.getElem_cons_zero, List.getElem_cons_succ, List.setIfInBounds_toArray, List.set_cons_zero, List.set_cons_succ]
                refine wpAnyH_done (by kernel_rfl) ?_ _
                go_wp2
                exact ⟨⟨k + 1, Us ++ [.slice (some ⟨g, 0, none⟩) (X.instrs.length + 1) cap], some ⟨G, 0, none⟩, cap4, by omega, by go_num, HST⟩, by simp [intOf]; omega⟩
              · skip
                refine step_append_lies _ rfl (.tmp 41) (.tmp 45) 163 rfl (M + 1) 165 i0 .nilIface 1 16 Tryd.underlying163 hi0 hz0 hz1 hz2 rfl (by decide) u4 X.instrs.length (X.instrs.map (nodeV args)) (by simp [Act.eval]) (own_keep2 HOW.out (fun b e => ((balloc HB2.out _).block b (HOW.out.lt b e).2))) ⟨w2.heap.size, 0, none⟩ 1 1 [.iface 200 val] (by simp [Act.eval]) rfl ?_ (by intro u hu; simp at hu; subst hu; rfl) (by decide) (by unfold maxLen; omega) (by omega) (by simp; omega) (w2.heap.size + 1) (by simp) ?_
                · exact World.news_of_block (heap_new _ _)
                intro g cap w3 hown hgrow hat hlt
                have hgs := hgrow.size
                simp at hgs
                have HB3 := hide (grown_below ((hwi.out.trans (HB2.out.mono (by omega))).alloc (by have := HB2.out.size; omega) _) hgrow (own_keep2 HOW.out (fun b e => ((balloc HB2.out _).block b (HOW.out.lt b e).2))) (by omega) (by simp; omega))
                have HOW3 := hide hown
                have HE3 := hide ((HE.out.keepS (w' := w3) (fun b h1 h2 => (hgrow.block b (by simp; omega) (fun e => by have := (HOW.out.lt _ e.symm).2; simp at h1; omega)).trans ((balloc (Below.refl w2.heap.size w2) _).block b h2))).mono (L' := M) (B' := w3.heap.size) (by simp; omega) (by omega))
                have p7 := (HB3.out.cell (p := ⟨R, 7, none⟩) (by show R < _; omega)).trans s7
                have p7a := fun x => ((balloc (Below.refl w3.heap.size w3) x).cell (p := ⟨R, 7, none⟩) (by show R < _; omega)).trans p7
                have p7z := (HB3.out.frozen (p := ⟨R, 7, none⟩) (by show R < _; omega)).trans (hinv.out.box.2.2.1 7)
                have hMw : M < w3.heap.size := by omega
                clear hown hgrow hat hlt
                refine hK.out _ _ (by first | with_reducible exact hHeld | ((try dsimp only); go_keep)) (fun hHeld => ?_)
                clear hK
                try simp only [Act.put, List.getElem_toArray, List.getElem_cons_zero, List.getElem_cons_succ, List.setIfInBounds_toArray, List.set_cons_zero, List.set_cons_succ]
                refine wpAnyH_ready (rs := [5, 12]) (by kernel_rfl) (by simp) ?_
                refine (AllReadyH.cons rfl (fun K hK => ?_) (AllReadyH.cons rfl (fun K hK => ?_) AllReadyH.nil))
                · skip
                  go_simp
                  refine hK.out _ _ (by first | with_reducible exact hHeld | ((try dsimp only); go_keep)) (fun hHeld => ?_)
                  clear hK
                  try simp only [Act.put, List.getElem_toArray, List.getElem_cons_zero, List.getElem_cons_succ, List.setIfInBounds_toArray, List.set_cons_zero, List.set_cons_succ]
                  refine wpAnyH_ready (rs := [12]) (by kernel_rfl) (by simp) ?_
                  refine AllReadyH.cons rfl (fun K hK => ?_) AllReadyH.nil
                  go_simp
                  refine hK.out _ _ (by first | with_reducible exact hHeld | ((try dsimp only); go_keep)) (fun hHeld => ?_)
                  clear hK
                  try simp only [Act.put, List.getElem_toArray, List.getElem_cons_zero, List.getElem_cons_succ, List.setIfInBounds_toArray, List.set_cons_zero, List.set_cons_succ]
                  refine wpAnyH_ready (rs := [13]) (by kernel_rfl) (by simp) ?_
                  refine AllReadyH.cons rfl (fun K hK => ?_) AllReadyH.nil
                  refine step_append_lies _ rfl (.tmp 40) (.tmp 47) 100 rfl w.heap.size 163 j0 (.slice none 0 0) 1 24 Tryd.underlying100 hj0 hy0 hy1 hy2 rfl (by decide) (.slice va k vc) k Us (by simp [Act.eval]) (own_keep2 hinv.out.own (fun b e => ((HB3.out.alloc (by omega) _).block b (by have := (hinv.out.own.lt b e).2; omega)))) ⟨w3.heap.size, 0, none⟩ 1 1 [.slice (some ⟨g, 0, none⟩) (X.instrs.length + 1) cap] (by simp [Act.eval]) rfl ?_ (by intro u hu; simp at hu; subst hu; rfl) (by decide) (by unfold maxLen; omega) (by omega) (by simp; omega) (w3.heap.size + 1) (by simp) ?_
                  · exact World.news_of_block (heap_new _ _)
                  intro G cap4 w4 hown hgrow hat hlt
                  have HST := hide (hinv.out.step (eF_keep _) hR (by rw [hM]; exact HB3.out) (NodeRowG.of_own (base := M + 1) (L := wo.heap.size) (nv := nvF ⟨m, xs⟩ args k) (E := eF ⟨m, xs⟩ k) (by unfold nvF; rw [List.length_map, HX.out]) (by omega) (by unfold nvF; rw [HX.out]; exact HOW3.out) (by rw [hM]; exact HE3.out)) hown hgrow hat)
                  have nR : some R ≠ (Value.slice va k vc).ownBlock := fun e => by have := (hinv.out.own.lt _ e.symm).1; omega
                  obtain ⟨q, qz⟩ := far10' hgrow (k := R) (by simp; omega) nR
                  have r7 := (q 7).trans (((balloc (Below.refl w3.heap.size w3) _).cell (p := ⟨R, 7, none⟩) (by show R < _; omega)).trans p7)
                  have r7z := (qz 7).trans (((balloc (Below.refl w3.heap.size w3) _).frozen (p := ⟨R, 7, none⟩) (by show R < _; omega)).trans p7z)
                  clear q qz hown hgrow hat hlt nR
                  refine hK.out _ _ (by first | with_reducible exact hHeld | ((try dsimp only); go_keep)) (fun hHeld => ?_)
                  clear hK
                  try simp only [Act.put, List.getElem_toArray, List.getElem_cons_zero, List.getElem_cons_succ, List.setIfInBounds_toArray, List.set_cons_zero, List.set_cons_succ]
                  refine wpAnyH_take (i := 14) (v := ?_) rfl (by kernel_rfl) (by kernel_rfl) (by kernel_rfl) (fun _ _ _ h => h) (Or.inl ⟨by rfl, ?_⟩) (by assumption) ?_
                  rotate_left
                  · intro w hSw; (try dsimp only at hSw); go_simp; try with_reducible rfl
                  simp only [Act.put, List.getElem_toArray, List.getElem_cons_zero, List.getElem_cons_succ, List.setIfInBounds_toArray, List.set_cons_zero, List.set_cons_succ]
                  refine wpAnyH_take (i := 15) (v := ?_) rfl (by kernel_rfl) (by kernel_rfl) (by kernel_rfl) (fun _ _ _ h => h) (Or.inl ⟨by rfl, ?_⟩) (by assumption) ?_
                  rotate_left
                  · intro w hSw; (try dsimp only at hSw); go_simp; try with_reducible rfl
                  simp only [Act.put, List.getElem_toArray, List.getElem_cons_zero, List.getElem_cons_succ, List.setIfInBounds_toArray, List.set_cons_zero, List.set_cons_succ]
                  refine wpAnyH_take (i := 16) (v := ?_) rfl (by kernel_rfl) (by kernel_rfl) (by kernel_rfl) (fun _ _ _ h => h) (Or.inl ⟨by rfl, ?_⟩) (by assumption) ?_
                  rotate_left
                  · intro w hSw; (try dsimp only at hSw); go_simp; try with_reducible rfl
                  simp only [Act.put, List.getElem_toArray, List.getElem_cons_zero, List.getElem_cons_succ, List.setIfInBounds_toArray, List.set_cons_zero, List.set_cons_succ]
                  refine wpAnyH_ready (rs := [17]) (by kernel_rfl) (by simp) ?_
                  refine AllReadyH.cons rfl (fun K hK => ?_) AllReadyH.nil
                  go_simp
                  refine hK.out _ _ (by first | with_reducible exact hHeld | ((try dsimp only); go_keep)) (fun hHeld => ?_)
                  clear hK
                  try simp only [Act.put, List.getElem_toArray, List.getElem_cons_zero, List.getElem_cons_succ, List.setIfInBounds_toArray, List.set_cons_zero, List.set_cons_succ]
                  refine wpAnyH_done (by kernel_rfl) ?_ _
                  go_wp2
                  exact ⟨⟨k + 1, Us ++ [.slice (some ⟨g, 0, none⟩) (X.instrs.length + 1) cap], some ⟨G, 0, none⟩, cap4, by omega, by go_num, HST⟩, by simp [intOf]; omega⟩
                · skip
                  go_simp
                  refine hK.out _ _ (by first | with_reducible exact hHeld | ((try dsimp only); go_keep)) (fun hHeld => ?_)
                  clear hK
                  try simp only [Act.put, List.getElem_toArray, List.getElem_cons_zero, List.getElem_cons_succ, List.setIfInBounds_toArray, List.set_cons_zero, List.set_cons_succ]
                  refine wpAnyH_ready (rs := [5]) (by kernel_rfl) (by simp) ?_
                  refine AllReadyH.cons rfl (fun K hK => ?_) AllReadyH.nil
                  go_simp
                  refine hK.out _ _ (by first | with_reducible exact hHeld | ((try dsimp only); go_keep)) (fun hHeld => ?_)
                  clear hK
                  try simp only [Act.put, List.getElem_toArray, List.getElem_cons_zero, List.getElem_cons_succ, List.setIfInBounds_toArray, List.set_cons_zero, List.set_cons_succ]
                  refine wpAnyH_ready (rs := [13]) (by kernel_rfl) (by simp) ?_
                  refine AllReadyH.cons rfl (fun K hK => ?_) AllReadyH.nil
                  refine step_append_lies _ rfl (.tmp 40) (.tmp 47) 100 rfl w.heap.size 163 j0 (.slice none 0 0) 1 24 Tryd.underlying100 hj0 hy0 hy1 hy2 rfl (by decide) (.slice va k vc) k Us (by simp [Act.eval]) (own_keep2 hinv.out.own (fun b e => ((HB3.out.alloc (by omega) _).block b (by have := (hinv.out.own.lt b e).2; omega)))) ⟨w3.heap.size, 0, none⟩ 1 1 [.slice (some ⟨g, 0, none⟩) (X.instrs.length + 1) cap] (by simp [Act.eval]) rfl ?_ (by intro u hu; simp at hu; subst hu; rfl) (by decide) (by unfold maxLen; omega) (by omega) (by simp; omega) (w3.heap.size + 1) (by simp) ?_
                  · exact World.news_of_block (heap_new _ _)
                  intro G cap4 w4 hown hgrow hat hlt
                  have HST := hide (hinv.out.step (eF_keep _) hR (by rw [hM]; exact HB3.out) (NodeRowG.of_own (base := M + 1) (L := wo.heap.size) (nv := nvF ⟨m, xs⟩ args k) (E := eF ⟨m, xs⟩ k) (by unfold nvF; rw [List.length_map, HX.out]) (by omega) (by unfold nvF; rw [HX.out]; exact HOW3.out) (by rw [hM]; exact HE3.out)) hown hgrow hat)
                  have nR : some R ≠ (Value.slice va k vc).ownBlock := fun e => by have := (hinv.out.own.lt _ e.symm).1; omega
                  obtain ⟨q, qz⟩ := far10' hgrow (k := R) (by simp; omega) nR
                  have r7 := (q 7).trans (((balloc (Below.refl w3.heap.size w3) _).cell (p := ⟨R, 7, none⟩) (by show R < _; omega)).trans p7)
                  have r7z := (qz 7).trans (((balloc (Below.refl w3.heap.size w3) _).frozen (p := ⟨R, 7, none⟩) (by show R < _; omega)).trans p7z)
                  clear q qz hown hgrow hat hlt nR
                  refine hK.out _ _ (by first | with_reducible exact hHeld | ((try dsimp only); go_keep)) (fun hHeld => ?_)
                  clear hK
                  try simp only [Act.put, List.getElem_toArray, List.getElem_cons_zero, List.getElem_cons_succ, List.setIfInBounds_toArray, List.set_cons_zero, List.set_cons_succ]
                  refine wpAnyH_take (i := 14) (v := ?_) rfl (by kernel_rfl) (by kernel_rfl) (by kernel_rfl) (fun _ _ _ h => h) (Or.inl ⟨by rfl, ?_⟩) (by assumption) ?_
                  rotate_left
                  · intro w hSw; (try dsimp only at hSw); go_simp; try with_reducible rfl
                  simp only [Act.put, List.getElem_toArray, List.getElem_cons_zero, List.getElem_cons_succ, List.setIfInBounds_toArray, List.set_cons_zero, List.set_cons_succ]
                  refine wpAnyH_take (i := 15) (v := ?_) rfl (by kernel_rfl) (by kernel_rfl) (by kernel_rfl) (fun _ _ _ h => h) (Or.inl ⟨by rfl, ?_⟩) (by assumption) ?_
                  rotate_left
                  · intro w hSw; (try dsimp only at hSw); go_simp; try with_reducible rfl
                  simp only [Act.put, List.getElem_toArray, List.getElem_cons_zero, List.getElem_cons_succ, List.setIfInBounds_toArray, List.set_cons_zero, List.set_cons_succ]
                  refine wpAnyH_take (i := 16) (v := ?_) rfl (by kernel_rfl) (by kernel_rfl) (by kernel_rfl) (fun _ _ _ h => h) (Or.inl ⟨by rfl, ?_⟩) (by assumption) ?_
                  rotate_left
                  · intro w hSw; (try dsimp only at hSw); go_simp; try with_reducible rfl
                  simp only [Act.put, List.getElem_toArray, List.getElem_cons_zero, List.getElem_cons_succ, List.setIfInBounds_toArray, List.set_cons_zero, List.set_cons_succ]
                  refine wpAnyH_ready (rs := [17]) (by kernel_rfl) (by simp) ?_
                  refine AllReadyH.cons rfl (fun K hK => ?_) AllReadyH.nil
                  go_simp
                  refine hK.out _ _ (by first | with_reducible exact hHeld | ((try dsimp only); go_keep)) (fun hHeld => ?_)
                  clear hK
                  try simp only [Act.put, List.getElem_toArray, List.getElem_cons_zero, List.getElem_cons_succ, List.setIfInBounds_toArray, List.set_cons_zero, List.set_cons_succ]
                  refine wpAnyH_done (by kernel_rfl) ?_ _
                  go_wp2
                  exact ⟨⟨k + 1, Us ++ [.slice (some ⟨g, 0, none⟩) (X.instrs.length + 1) cap], some ⟨G, 0, none⟩, cap4, by omega, by go_num, HST⟩, by simp [intOf]; omega⟩
    · have hke : k = n := by omega
      subst hke
      obtain ⟨G, gs, cs, vs, rfl, hG, htab⟩ := hinv.out.table (eF_keep _) (by omega)
      have HTB := hide htab
      clear htab
      go_wp2
      exact bodyPost_end (v := .tuple #[]) (by simp [results, Tryd.results75, go_sem]) rfl ⟨rfl, G, vc, gs, cs, vs, hinv.out.kb, hG, hinv.out.box, HTB.out⟩
end Go.Proofs.YtdcdgopblbmgoaaDoor

namespace Go.Proofs.YtdcdgopblbmgoaaDoor
open Go.RowKit

/-- The fields of a run (block R). -/
structure PBox (w : World) (R : Nat) (aa : Option Addr) (na ca gh ch : Nat) (ta : Option Addr) (nt ct : Nat) (fuel k value : Int) (gv nv cv G n cn : Nat) (b pc : Int) (ka : Option Addr) (kn kc : Nat) : Prop where
  c0 : w.cell? ⟨R, 0, none⟩ = some (.slice aa na ca)
  c1 : w.cell? ⟨R, 1, none⟩ = some (.slice (some ⟨gh, 0, none⟩) 32 ch)
  c2 : w.cell? ⟨R, 2, none⟩ = some (.slice ta nt ct)
  c3 : w.cell? ⟨R, 3, none⟩ = some (.int .i64 fuel)
  c4 : w.cell? ⟨R, 4, none⟩ = some (.int .i64 k)
  c5 : w.cell? ⟨R, 5, none⟩ = some (.int .i64 value)
  c6 : w.cell? ⟨R, 6, none⟩ = some (.slice (some ⟨gv, 0, none⟩) nv cv)
  c7 : w.cell? ⟨R, 7, none⟩ = some (.slice (some ⟨G, 0, none⟩) n cn)
  c8 : w.cell? ⟨R, 8, none⟩ = some (.int .i64 b)
  c9 : w.cell? ⟨R, 9, none⟩ = some (.int .i64 pc)
  c10 : w.cell? ⟨R, 10, none⟩ = some (.slice ka kn kc)
  fz : ∀ o, w.frozen? ⟨R, o, none⟩ = false
section
variable {w w1 : World} {R : Nat} {aa : Option Addr} {na ca gh ch : Nat} {ta : Option Addr} {nt ct : Nat} {fuel k value : Int} {gv nv cv G n cn : Nat} {b pc : Int} {ka : Option Addr} {kn kc : Nat}
theorem PBox.keep (h : PBox w R aa na ca gh ch ta nt ct fuel k value gv nv cv G n cn b pc ka kn kc) (q : w1.heap[R]? = w.heap[R]?) : PBox w1 R aa na ca gh ch ta nt ct fuel k value gv nv cv G n cn b pc ka kn kc :=
  ⟨(cell_of q).trans h.c0, (cell_of q).trans h.c1, (cell_of q).trans h.c2, (cell_of q).trans h.c3, (cell_of q).trans h.c4, (cell_of q).trans h.c5, (cell_of q).trans h.c6, (cell_of q).trans h.c7, (cell_of q).trans h.c8, (cell_of q).trans h.c9, (cell_of q).trans h.c10, fun o => (World.frozen?_of_block q).trans (h.fz o)⟩
theorem PBox.set10 (h : PBox w R aa na ca gh ch ta nt ct fuel k value gv nv cv G n cn b pc ka kn kc) (ka' : Option Addr) (kn' kc' : Nat) : PBox (w.setCell ⟨R, 10, none⟩ (.slice ka' kn' kc')) R aa na ca gh ch ta nt ct fuel k value gv nv cv G n cn b pc ka' kn' kc' := by
  obtain ⟨h0, h1, h2, h3, h4, h5, h6, h7, h8, h9, h10, hz⟩ := h
  constructor <;> simp [*, go_sem]
theorem PBox.set2 (h : PBox w R aa na ca gh ch ta nt ct fuel k value gv nv cv G n cn b pc ka kn kc) (ta' : Option Addr) (nt' ct' : Nat) : PBox (w.setCell ⟨R, 2, none⟩ (.slice ta' nt' ct')) R aa na ca gh ch ta' nt' ct' fuel k value gv nv cv G n cn b pc ka kn kc := by
  obtain ⟨h0, h1, h2, h3, h4, h5, h6, h7, h8, h9, h10, hz⟩ := h
  constructor <;> simp [*, go_sem]
theorem PBox.set4 (h : PBox w R aa na ca gh ch ta nt ct fuel k value gv nv cv G n cn b pc ka kn kc) (k' : Int) : PBox (w.setCell ⟨R, 4, none⟩ (.int .i64 k')) R aa na ca gh ch ta nt ct fuel k' value gv nv cv G n cn b pc ka kn kc := by
  obtain ⟨h0, h1, h2, h3, h4, h5, h6, h7, h8, h9, h10, hz⟩ := h
  constructor <;> simp [*, go_sem]
theorem PBox.set5 (h : PBox w R aa na ca gh ch ta nt ct fuel k value gv nv cv G n cn b pc ka kn kc) (v' : Int) : PBox (w.setCell ⟨R, 5, none⟩ (.int .i64 v')) R aa na ca gh ch ta nt ct fuel k v' gv nv cv G n cn b pc ka kn kc := by
  obtain ⟨h0, h1, h2, h3, h4, h5, h6, h7, h8, h9, h10, hz⟩ := h
  constructor <;> simp [*, go_sem]
theorem PBox.set8 (h : PBox w R aa na ca gh ch ta nt ct fuel k value gv nv cv G n cn b pc ka kn kc) (b' : Int) : PBox (w.setCell ⟨R, 8, none⟩ (.int .i64 b')) R aa na ca gh ch ta nt ct fuel k value gv nv cv G n cn b' pc ka kn kc := by
  obtain ⟨h0, h1, h2, h3, h4, h5, h6, h7, h8, h9, h10, hz⟩ := h
  constructor <;> simp [*, go_sem]
theorem PBox.set9 (h : PBox w R aa na ca gh ch ta nt ct fuel k value gv nv cv G n cn b pc ka kn kc) (pc' : Int) : PBox (w.setCell ⟨R, 9, none⟩ (.int .i64 pc')) R aa na ca gh ch ta nt ct fuel k value gv nv cv G n cn b pc' ka kn kc := by
  obtain ⟨h0, h1, h2, h3, h4, h5, h6, h7, h8, h9, h10, hz⟩ := h
  constructor <;> simp [*, go_sem]
end

/-- Below B nothing has turned but three blocks. -/
structure Kc (B r gv gh : Nat) (w w' : World) : Prop where
  os : w'.os = w.os
  tape : w'.tape = w.tape
  output : w'.output = w.output
  size : w.heap.size ≤ w'.heap.size
  block : ∀ k, k < B → k ≠ r → k ≠ gv → k ≠ gh → w'.heap[k]? = w.heap[k]?
section
variable {w w1 w2 : World} {B r gv gh : Nat}
theorem Kc.refl (B r gv gh : Nat) (w : World) : Kc B r gv gh w w := ⟨rfl, rfl, rfl, Nat.le_refl _, fun _ _ _ _ _ => rfl⟩
theorem Kc.trans (h : Kc B r gv gh w w1) (k : Kc B r gv gh w1 w2) : Kc B r gv gh w w2 := ⟨k.os.trans h.os, k.tape.trans h.tape, k.output.trans h.output, Nat.le_trans h.size k.size, fun i a b c d => (k.block i a b c d).trans (h.block i a b c d)⟩
theorem Kc.of_below (h : Below B w w1) : Kc B r gv gh w w1 := ⟨h.os, h.tape, h.output, h.size, fun i a _ _ _ => h.block i a⟩
theorem Kc.drew (h : Kc B r gv gh w w1) : Kc B r gv gh w w1.drew := ⟨h.os, h.tape, h.output, h.size, h.block⟩
theorem Kc.alloc (h : Kc B r gv gh w w1) (hB : B ≤ w1.heap.size) (o : Obj) : Kc B r gv gh w (w1.alloc o) := h.trans (Kc.of_below ((balloc (Below.refl w1.heap.size w1) o).mono hB))
theorem Kc.set (h : Kc B r gv gh w w1) {b o : Nat} (hb : b = r ∨ b = gv ∨ b = gh ∨ B ≤ b) (v : Value) : Kc B r gv gh w (w1.setCell ⟨b, o, none⟩ v) :=
  h.trans ⟨rfl, rfl, rfl, by simp [World.setCell], fun k hk h1 h2 h3 => Below.heap_setCell _ _ _ _ (by dsimp only; omega)⟩
theorem Kc.grown {row : Option Nat} (h : Kc B r gv gh w w1) (hg : w1.grownBy w2 row) (hB : B ≤ w1.heap.size) (hr : ∀ k, row = some k → B ≤ k) : Kc B r gv gh w w2 :=
  h.trans ⟨hg.os, hg.tape, hg.output, hg.size, fun k hk _ _ _ => hg.block k (by omega) (fun e => by have := hr k e.symm; omega)⟩
end

/-- The rows of a run, and the room for what phis take. -/
structure PMem (w : World) (Bt gv gh : Nat) (ta : Option Addr) (nt ct : Nat) (ka : Option Addr) (kn kc : Nat) (vals hp tr K : List Int) : Prop where
  mem : RunMem w Bt gv gh 2 (.slice ta nt ct) vals hp tr
  own : w.ownsRow Bt 2 1 (.slice ka kn kc) kn (K.map (Value.int .i64))
  tk : (Value.slice ka kn kc).ownBlock = none ∨ (Value.slice ka kn kc).ownBlock ≠ (Value.slice ta nt ct).ownBlock
theorem PMem.keep {w w1 : World} {Bt gv gh : Nat} {ta : Option Addr} {nt ct : Nat} {ka : Option Addr} {kn kc : Nat} {vals hp tr K : List Int} (h : PMem w Bt gv gh ta nt ct ka kn kc vals hp tr K) (q : ∀ b, b < w.heap.size → (b = gv ∨ b = gh ∨ Bt ≤ b) → w1.heap[b]? = w.heap[b]?) : PMem w1 Bt gv gh ta nt ct ka kn kc vals hp tr K :=
  ⟨⟨h.mem.vals.keep (q _ h.mem.vals.lt (Or.inl rfl)), h.mem.heap.keep (q _ h.mem.heap.lt (Or.inr (Or.inl rfl))), own_keep h.mem.own (fun b e => q b (h.mem.own.lt b e).2 (Or.inr (Or.inr (h.mem.own.lt b e).1))), h.mem.ne, h.mem.tvals, h.mem.theap⟩, own_keep h.own (fun b e => q b (h.own.lt b e).2 (Or.inr (Or.inr (h.own.lt b e).1))), h.tk⟩

theorem cut_own {w : World} {B t : Nat} {ka : Option Addr} {kn kc n : Nat} {xs : List Value} (h : w.ownsRow B t 1 (.slice ka kn kc) n xs) : w.ownsRow B t 1 (.slice ka 0 kc) 0 [] := by
  obtain ⟨hl, ⟨e, _⟩ | ⟨g, cap, cur, e, hg, hh, hc, hm, hs, _⟩⟩ := h
  · injection e with e1 e2 e3
    subst e1 e3
    exact ⟨rfl, Or.inl ⟨rfl, rfl⟩⟩
  · injection e with e1 e2 e3
    subst e1 e3
    exact ⟨rfl, Or.inr ⟨g, _, cur, rfl, hg, hh, Nat.zero_le _, hm, hs, by simp⟩⟩

/-- What holds while a way is followed; E is the variable of the edge. -/
structure FInv (w : World) (R : Nat) (aa : Option Addr) (na ca gh ch : Nat) (ta : Option Addr) (nt ct : Nat) (fuel k0 value : Int) (gv nv cv G n cn : Nat) (b pc : Int) (Bt : Nat) (to : Int) (ea : Option Addr) (ne ce : Nat) (ka : Option Addr) (kn kc : Nat) (vals hp tr K : List Int) (wr : World) : Prop where
  kept : Kc Bt R gv gh w wr
  box : PBox wr R aa na ca gh ch ta nt ct fuel k0 value gv nv cv G n cn b pc ka kn kc
  mem : PMem wr Bt gv gh ta nt ct ka kn kc vals hp tr K
  e0 : wr.cell? ⟨w.heap.size, 0, none⟩ = some (.int .i64 to)
  e1 : wr.cell? ⟨w.heap.size, 1, none⟩ = some (.slice ea ne ce)
  es : w.heap.size < wr.heap.size
  ke : (Value.slice ka kn kc).ownBlock ≠ some w.heap.size
theorem FInv.push {w : World} {R : Nat} {aa : Option Addr} {na ca gh ch : Nat} {ta : Option Addr} {nt ct : Nat} {fuel k0 value : Int} {gv nv cv G n cn : Nat} {b pc : Int} {Bt : Nat} {to : Int} {ea : Option Addr} {ne ce : Nat} {ka : Option Addr} {kn kc : Nat} {vals hp tr K : List Int} {wr W w1 : World} (h : FInv w R aa na ca gh ch ta nt ct fuel k0 value gv nv cv G n cn b pc Bt to ea ne ce ka kn kc vals hp tr K wr) (hR : R < Bt) (hv : gv < Bt) (hh : gh < Bt) (hRv : R ≠ gv) (hRh : R ≠ gh) (hB : Bt ≤ w.heap.size) (hb : Below wr.heap.size wr W) {g cap : Nat} {x : Int}
    (ho : w1.ownsRow Bt 2 1 (.slice (some ⟨g, 0, none⟩) (kn + 1) cap) (kn + 1) (K.map (Value.int .i64) ++ [.int .i64 x])) (hg : W.grownBy w1 (Value.slice ka kn kc).ownBlock) (hat : (Value.slice ka kn kc).ownBlock = some g ∨ wr.heap.size ≤ g) :
    FInv w R aa na ca gh ch ta nt ct fuel k0 value gv nv cv G n cn b pc Bt to ea ne ce (some ⟨g, 0, none⟩) (kn + 1) cap vals hp tr (K ++ [x]) (w1.setCell ⟨R, 10, none⟩ (.slice (some ⟨g, 0, none⟩) (kn + 1) cap)) := by
  have hks := h.kept.size
  have hbs := hb.size
  have hgs := hg.size
  have hes := h.es
  have far : ∀ q, q < wr.heap.size → some q ≠ (Value.slice ka kn kc).ownBlock → w1.heap[q]? = wr.heap[q]? := fun q h1 h2 => (hg.block q (by omega) h2).trans (hb.block q h1)
  have low : ∀ q, q < Bt → some q ≠ (Value.slice ka kn kc).ownBlock := fun q hq e => by have := (h.mem.own.lt q e.symm).1; omega
  have set : ∀ q, q ≠ R → (w1.setCell ⟨R, 10, none⟩ (.slice (some ⟨g, 0, none⟩) (kn + 1) cap)).heap[q]? = w1.heap[q]? := fun q hq => Below.heap_setCell _ _ _ _ hq
  have hgb := (ho.lt g rfl).1
  have tr1 : ∀ q, (Value.slice ta nt ct).ownBlock = some q → (w1.setCell ⟨R, 10, none⟩ (.slice (some ⟨g, 0, none⟩) (kn + 1) cap)).heap[q]? = wr.heap[q]? := fun q e => by
    have hq := h.mem.mem.own.lt q e
    refine (set q (by omega)).trans (far q hq.2 (fun e2 => ?_))
    rcases h.mem.tk with f | f
    · rw [f] at e2; cases e2
    · exact f (e2.symm.trans e.symm)
  have hE : some w.heap.size ≠ (Value.slice ka kn kc).ownBlock := fun e => h.ke e.symm
  have vl := h.mem.mem.vals.lt
  have hl := h.mem.mem.heap.lt
  refine ⟨h.kept.trans (((Kc.of_below (hb.mono (by omega))).grown hg (by omega) (fun q e => (h.mem.own.lt q e).1)).set (Or.inl rfl) _), (h.box.keep (far R (by omega) (low R hR))).set10 _ _ _, ⟨⟨h.mem.mem.vals.keep ((set _ (fun e => hRv e.symm)).trans (far _ vl (low _ hv))), h.mem.mem.heap.keep ((set _ (fun e => hRh e.symm)).trans (far _ hl (low _ hh))), own_keep h.mem.mem.own tr1, h.mem.mem.ne, h.mem.mem.tvals, h.mem.mem.theap⟩, ?_, ?_⟩,
    (cell_of ((set _ (by omega)).trans (far _ hes hE))).trans h.e0, (cell_of ((set _ (by omega)).trans (far _ hes hE))).trans h.e1, by rw [size_setCell]; omega, ?_⟩
  · rw [ints_snoc]
    exact own_keep ho (fun q e => set q (fun e2 => by injection e with e; dsimp only at e; omega))
  · rcases hat with e | e
    · rcases h.mem.tk with f | f
      · rw [e] at f; cases f
      · right; rw [show (Value.slice (some ⟨g, 0, none⟩) (kn + 1) cap).ownBlock = some g from rfl, ← e]; exact f
    · right
      intro f
      have := (h.mem.mem.own.lt g f.symm).2
      omega
  · rcases hat with e | e
    · rw [show (Value.slice (some ⟨g, 0, none⟩) (kn + 1) cap).ownBlock = some g from rfl, ← e]; exact h.ke
    · intro f; injection f with f; dsimp only at f; omega
theorem FInv.put {w : World} {R : Nat} {aa : Option Addr} {na ca gh ch : Nat} {ta : Option Addr} {nt ct : Nat} {fuel k0 value : Int} {gv nv cv G n cn : Nat} {b pc : Int} {Bt : Nat} {to : Int} {ea : Option Addr} {ne ce : Nat} {ka : Option Addr} {kn kc : Nat} {vals hp tr K : List Int} {wr W : World} (h : FInv w R aa na ca gh ch ta nt ct fuel k0 value gv nv cv G n cn b pc Bt to ea ne ce ka kn kc vals hp tr K wr) (hv : gv < Bt) (hRv : R ≠ gv) (hR : R < Bt) (hB : Bt ≤ w.heap.size) (hb : Below wr.heap.size wr W) {i : Nat} (hi : i < vals.length) (x : Int) :
    FInv w R aa na ca gh ch ta nt ct fuel k0 value gv nv cv G n cn b pc Bt to ea ne ce ka kn kc (vals.set i x) hp tr K (W.setCell ⟨gv, i, none⟩ (.int .i64 x)) := by
  have hks := h.kept.size
  have hbs := hb.size
  have hes := h.es
  have m1 := h.mem.keep (w1 := W) (fun q h1 _ => hb.block q h1)
  have set : ∀ q, q ≠ gv → (W.setCell ⟨gv, i, none⟩ (.int .i64 x)).heap[q]? = W.heap[q]? := fun q hq => Below.heap_setCell _ _ _ _ hq
  refine ⟨h.kept.trans ((Kc.of_below (hb.mono (by omega))).set (Or.inr (Or.inl rfl)) _), h.box.keep ((set R hRv).trans (hb.block R (by omega))), ⟨m1.mem.setV hi x, own_keep m1.own (fun q e => set q (fun e2 => by have := (m1.own.lt q e).1; omega)), m1.tk⟩, (cell_of ((set _ (by omega)).trans (hb.block _ hes))).trans h.e0, (cell_of ((set _ (by omega)).trans (hb.block _ hes))).trans h.e1, by rw [size_setCell]; omega, h.ke⟩
theorem FInv.drew {w : World} {R : Nat} {aa : Option Addr} {na ca gh ch : Nat} {ta : Option Addr} {nt ct : Nat} {fuel k0 value : Int} {gv nv cv G n cn : Nat} {b pc : Int} {Bt : Nat} {to : Int} {ea : Option Addr} {ne ce : Nat} {ka : Option Addr} {kn kc : Nat} {vals hp tr K : List Int} {wr : World} (h : FInv w R aa na ca gh ch ta nt ct fuel k0 value gv nv cv G n cn b pc Bt to ea ne ce ka kn kc vals hp tr K wr) : FInv w R aa na ca gh ch ta nt ct fuel k0 value gv nv cv G n cn b pc Bt to ea ne ce ka kn kc vals hp tr K wr.drew :=
  ⟨h.kept.drew, h.box.keep rfl, h.mem.keep (fun _ _ _ => rfl), h.e0, h.e1, h.es, h.ke⟩

set_option maxHeartbeats 2000000 in
set_option maxRecDepth 100000 in
theorem follow_any (R : Nat) (aa : Option Addr) (na ca gh ch : Nat) (ta : Option Addr) (nt ct : Nat) (fuel k0 value : Int) (gv nv cv G n cn : Nat) (b pc : Int) (ka : Option Addr) (kn kc : Nat) (to : Int) (ea : Option Addr) (ne ce : Nat) (ts : List (Int × Int)) (vals hp tr K : List Int) (L Bt : Nat) (w : World)
    (hbox : Hid (PBox w R aa na ca gh ch ta nt ct fuel k0 value gv nv cv G n cn b pc ka kn kc)) (hmem : Hid (PMem w Bt gv gh ta nt ct ka kn kc vals hp tr K)) (hts : Hid (TakesAt w L Bt ea ts)) (hne : Hid (ne = ts.length)) (hnl : ts.length ≤ 1048576) (hok : Hid (∀ t ∈ ts, (0 ≤ t.1 ∧ t.1 < nv) ∧ 0 ≤ t.2 ∧ t.2 < nv)) (hnv : Hid (nv = vals.length))
    (hR : R < L) (hgv : gv < L) (hgh : gh < L) (hRv : R ≠ gv) (hRh : R ≠ gh) (hLB : L ≤ Bt) (hB : Bt ≤ w.heap.size) :
    Calls Tryd.prog 163 #[.pointer (some ⟨R, 0, none⟩), .agg #[.int .i64 to, .slice ea ne ce]] w
      fun e w' => e = .returned (.tuple #[]) ∧ ∃ ka' kn' kc' K', Kc Bt R gv gh w w' ∧ PBox w' R aa na ca gh ch ta nt ct fuel k0 value gv nv cv G n cn to 0 ka' kn' kc' ∧ PMem w' Bt gv gh ta nt ct ka' kn' kc' (takeTo vals ts vals) hp tr K' := by
  have ba := fun o => balloc (Below.refl w.heap.size w) o
  have C10 := fun o => ((ba o).cell (p := ⟨R, 10, none⟩) (by show R < _; omega)).trans hbox.out.c10
  have CZ := fun o => ((ba o).frozen (p := ⟨R, 10, none⟩) (by show R < _; omega)).trans (hbox.out.fz 10)
  obtain ⟨i0, hi0, hz0, hz1, hz2⟩ := info_parts Tryd.info2'
  go_enter Tryd.func163, Tryd.ntmps163
  go_wp2
  have HST : ∀ t, FInv w R aa na ca gh ch ta nt ct fuel k0 value gv nv cv G n cn b pc Bt to ea ne ce ka 0 kc vals hp tr [] ((w.alloc (.cells #[.int .i64 to, .slice ea ne ce] t)).setCell ⟨R, 10, none⟩ (.slice ka 0 kc)) := fun t => by
    have far : ∀ q, q < w.heap.size → q ≠ R → ((w.alloc (.cells #[.int .i64 to, .slice ea ne ce] t)).setCell ⟨R, 10, none⟩ (.slice ka 0 kc)).heap[q]? = w.heap[q]? := fun q h1 h2 => (Below.heap_setCell _ _ _ _ h2).trans ((ba _).block q h1)
    have own0 := cut_own hmem.out.own
    have hob : (Value.slice ka 0 kc).ownBlock = (Value.slice ka kn kc).ownBlock := by cases ka <;> rfl
    refine ⟨((Kc.of_below ((ba _).mono hB)).set (Or.inl rfl) _), (hbox.out.keep ((ba _).block R (by omega))).set10 _ _ _, ⟨⟨hmem.out.mem.vals.keep (far _ hmem.out.mem.vals.lt (fun e => hRv e.symm)), hmem.out.mem.heap.keep (far _ hmem.out.mem.heap.lt (fun e => hRh e.symm)), own_keep hmem.out.mem.own (fun q e => far q (hmem.out.mem.own.lt q e).2 (by have := (hmem.out.mem.own.lt q e).1; omega)), hmem.out.mem.ne, hmem.out.mem.tvals, hmem.out.mem.theap⟩, own_keep own0 (fun q e => far q (own0.lt q e).2 (by have := (own0.lt q e).1; omega)), by rw [hob]; exact hmem.out.tk⟩, ?_, ?_, by simp, fun e => by have := (own0.lt w.heap.size e).2; omega⟩
    · exact (World.cell?_setCell_other _ _ _ _ (by intro e; injection e with e; omega)).trans (by simp [go_sem])
    · exact (World.cell?_setCell_other _ _ _ _ (by intro e; injection e with e; omega)).trans (by simp [go_sem])
  have hst := HST 198
  have HSTH := hide hst
  clear HST hst C10 CZ
  go_loopw [19] (fun i wr => ∃ (k : Nat) (ka1 : Option Addr) (kc1 : Nat), k ≤ ts.length ∧ i = .int .i64 k ∧ Hid (FInv w R aa na ca gh ch ta nt ct fuel k0 value gv nv cv G n cn b pc Bt to ea ne ce ka1 k kc1 vals hp tr ((ts.take k).map fun t => getN vals t.2) wr)) (fun i _ => ts.length - (intOf i).toNat)
  case atStart => exact ⟨0, ka, kc, Nat.zero_le _, rfl, HSTH⟩
  case round =>
    clear HSTH hbox hmem
    obtain ⟨k, ka1, kc1, hk, rfl, hinv⟩ := hrel
    have hes := hinv.out.es
    have hks := hinv.out.kept.size
    by_cases hkl : k < ts.length
    · obtain ⟨b3, o3, rfl, ⟨hb3L, hb3⟩, h31, h32⟩ := hts.out k hkl
      obtain ⟨⟨d0, d1⟩, q0, q1⟩ := hok.out _ (List.getElem_mem hkl)
      have kb3 := hinv.out.kept.block b3 hb3 (by omega) (by omega) (by omega)
      have G1 := (cell_of kb3).trans h31
      have G2 := (cell_of kb3).trans h32
      obtain ⟨q, hq⟩ := Int.eq_ofNat_of_zero_le q0
      have hqx : q < vals.length := by have := hnv.out; omega
      have hnx : ((ts.take (k + 1)).map fun t => getN vals t.2) = ((ts.take k).map fun t => getN vals t.2) ++ [vals[q]] := by rw [take_next _ _ hkl, List.map_append]; simp only [List.map_cons, List.map_nil]; rw [hq, getN_of _ _ hqx]
      rw [hq] at G2
      have HNX := hide hnx
      have VQ0 := hinv.out.mem.mem.vals.2 q hqx
      clear hnx h31 h32 q0 q1 hq
      generalize ts[k].1 = D at *
      generalize vals[q] = VQ at *
      generalize ((ts.take k).map fun t => getN vals t.2) = KS at *
      have bw := fun x y => balloc (balloc (Below.refl wr.heap.size wr) x).drew y
      have c6 : ∀ x y, (((wr.alloc x).drew).alloc y).cell? ⟨R, 6, none⟩ = some (.slice (some ⟨gv, 0, none⟩) nv cv) := fun x y => ((bw x y).cell (p := ⟨R, 6, none⟩) (by show R < _; omega)).trans hinv.out.box.c6
      have c10 : ∀ x y, (((wr.alloc x).drew).alloc y).cell? ⟨R, 10, none⟩ = some (.slice ka1 k kc1) := fun x y => ((bw x y).cell (p := ⟨R, 10, none⟩) (by show R < _; omega)).trans hinv.out.box.c10
      have cz : ∀ x y, (((wr.alloc x).drew).alloc y).frozen? ⟨R, 10, none⟩ = false := fun x y => ((bw x y).frozen (p := ⟨R, 10, none⟩) (by show R < _; omega)).trans (hinv.out.box.fz 10)
      have cq : ∀ x y, (((wr.alloc x).drew).alloc y).cell? ⟨gv, q, none⟩ = some (.int .i64 VQ) := fun x y => ((bw x y).cell (p := ⟨gv, q, none⟩) (by show gv < _; omega)).trans VQ0
      have c6' : ∀ x, (wr.alloc x).cell? ⟨R, 6, none⟩ = some (.slice (some ⟨gv, 0, none⟩) nv cv) := fun x => ((balloc (Below.refl wr.heap.size wr) x).cell (p := ⟨R, 6, none⟩) (by show R < _; omega)).trans hinv.out.box.c6
      have c10' : ∀ x, (wr.alloc x).cell? ⟨R, 10, none⟩ = some (.slice ka1 k kc1) := fun x => ((balloc (Below.refl wr.heap.size wr) x).cell (p := ⟨R, 10, none⟩) (by show R < _; omega)).trans hinv.out.box.c10
      have cq' : ∀ x, (wr.alloc x).cell? ⟨gv, q, none⟩ = some (.int .i64 VQ) := fun x => ((balloc (Below.refl wr.heap.size wr) x).cell (p := ⟨gv, q, none⟩) (by show gv < _; omega)).trans VQ0
      have c6'' : ∀ x y, ((wr.alloc x).alloc y).cell? ⟨R, 6, none⟩ = some (.slice (some ⟨gv, 0, none⟩) nv cv) := c6
      have c10'' : ∀ x y, ((wr.alloc x).alloc y).cell? ⟨R, 10, none⟩ = some (.slice ka1 k kc1) := c10
      have cq'' : ∀ x y, ((wr.alloc x).alloc y).cell? ⟨gv, q, none⟩ = some (.int .i64 VQ) := cq
      have HOW : ∀ x y, (((wr.alloc x).drew).alloc y).ownsRow Bt 2 1 (.slice ka1 k kc1) k (KS.map (Value.int .i64)) := fun x y => own_keep hinv.out.mem.own (fun q e => (bw x y).block q (hinv.out.mem.own.lt q e).2)
      have hno : ∀ q, wr.heap.size ≤ q → some q ≠ (Value.slice ka1 k kc1).ownBlock := fun q hq e => by have := (hinv.out.mem.own.lt q e.symm).2; omega
      have hlow : ∀ q, q < Bt → some q ≠ (Value.slice ka1 k kc1).ownBlock := fun q hq e => by have := (hinv.out.mem.own.lt q e.symm).1; omega
      have HP : ∀ (x y : Obj) (g cap : Nat) (w1 : World), w1.ownsRow Bt 2 1 (.slice (some ⟨g, 0, none⟩) (k + 1) cap) (k + 1) (KS.map (Value.int .i64) ++ [.int .i64 VQ]) → (((wr.alloc x).drew).alloc y).grownBy w1 (Value.slice ka1 k kc1).ownBlock → ((Value.slice ka1 k kc1).ownBlock = some g ∨ g = wr.heap.size + 1 + 1) →
          FInv w R aa na ca gh ch ta nt ct fuel k0 value gv nv cv G n cn b pc Bt to (some ⟨b3, o3, none⟩) ne ce (some ⟨g, 0, none⟩) (k + 1) cap vals hp tr (KS ++ [VQ]) (w1.setCell ⟨R, 10, none⟩ (.slice (some ⟨g, 0, none⟩) (k + 1) cap)) := fun x y g cap w1 ho hg hat =>
        hinv.out.push (by omega) (by omega) (by omega) hRv hRh hB (bw x y) ho hg (hat.imp id (fun e => by omega))
      have n1 : wr.heap.size ≠ R := by omega
      have n2 : wr.heap.size ≠ gv := by omega
      have n3 : R ≠ wr.heap.size := by omega
      have n4 : gv ≠ wr.heap.size := by omega
      have n5 : gv ≠ R := fun e => hRv e.symm
      have hq3 : q < nv := by have := hnv.out; omega
      have hnel : k < ne := by have := hne.out; omega
      go_wp2
      refine wp_region_held_drew (S := (fun w' => w'.cell? ⟨R, 6, none⟩ = some (.slice (some ⟨gv, 0, none⟩) nv cv) ∧ w'.cell? ⟨wr.heap.size, 1, none⟩ = some (.int .i64 q) ∧ w'.cell? ⟨gv, q, none⟩ = some (.int .i64 VQ))) (by kernel_rfl) (by (try dsimp only); go_keep) (fun hHeld => ?_)
      refine wpAnyH_take (i := 0) (v := ?_) rfl (by kernel_rfl) (by kernel_rfl) (by kernel_rfl) (fun _ _ _ h => h) (Or.inl ⟨by rfl, ?_⟩) (by assumption) ?_
      rotate_left
      · intro w hSw; (try dsimp only at hSw); go_simp; try with_reducible rfl
      simp only [Act.put, List.getElem_toArray, List.getElem_cons_zero, List.setIfInBounds_toArray, List.set_cons_zero, List.set_cons_succ]
      refine wpAnyH_take (i := 1) (v := ?_) rfl (by kernel_rfl) (by kernel_rfl) (by kernel_rfl) (fun _ _ _ h => h) (Or.inl ⟨by rfl, ?_⟩) (by assumption) ?_
      rotate_left
      · intro w hSw; (try dsimp only at hSw); go_simp; try with_reducible rfl
      simp only [Act.put, List.getElem_toArray, List.getElem_cons_zero, List.getElem_cons_succ, List.setIfInBounds_toArray, List.set_cons_zero, List.set_cons_succ]
      refine wpAnyH_take (i := 2) (v := ?_) rfl (by kernel_rfl) (by kernel_rfl) (by kernel_rfl) (fun _ _ _ h => h) (Or.inl ⟨by rfl, ?_⟩) (by assumption) ?_
      rotate_left
      · intro w hSw; (try dsimp only at hSw); go_simp; try with_reducible rfl
      simp only [Act.put, List.getElem_toArray, List.getElem_cons_zero, List.getElem_cons_succ, List.setIfInBounds_toArray, List.set_cons_zero, List.set_cons_succ]
      refine wpAnyH_take (i := 3) (v := ?_) rfl (by kernel_rfl) (by kernel_rfl) (by kernel_rfl) (fun _ _ _ h => h) (Or.inl ⟨by rfl, ?_⟩) (by assumption) ?_
      rotate_left
      · intro w hSw; (try dsimp only at hSw); go_simp; try with_reducible rfl
      simp only [Act.put, List.getElem_toArray, List.getElem_cons_zero, List.getElem_cons_succ, List.setIfInBounds_toArray, List.set_cons_zero, List.set_cons_succ]
      refine wpAnyH_take (i := 5) (v := ?_) rfl (by kernel_rfl) (by kernel_rfl) (by kernel_rfl) (fun _ _ _ h => h) (Or.inl ⟨by rfl, ?_⟩) (by assumption) ?_
      rotate_left
      · intro w hSw; (try dsimp only at hSw); go_simp; try with_reducible rfl
      simp only [Act.put, List.getElem_toArray, List.getElem_cons_zero, List.getElem_cons_succ, List.setIfInBounds_toArray, List.set_cons_zero, List.set_cons_succ]
      refine wpAnyH_take (i := 6) (v := ?_) rfl (by kernel_rfl) (by kernel_rfl) (by kernel_rfl) (fun _ _ _ h => h) (Or.inl ⟨by rfl, ?_⟩) (by assumption) ?_
      rotate_left
      · intro w hSw; (try dsimp only at hSw); go_simp; try with_reducible rfl
      simp only [Act.put, List.getElem_toArray, List.getElem_cons_zero, List.getElem_cons_succ, List.setIfInBounds_toArray, List.set_cons_zero, List.set_cons_succ]
      refine wpAnyH_take (i := 7) (v := ?_) rfl (by kernel_rfl) (by kernel_rfl) (by kernel_rfl) (fun _ _ _ h => h) (Or.inl ⟨by rfl, ?_⟩) (by assumption) ?_
      rotate_left
      · intro w hSw; (try dsimp only at hSw); go_simp; try with_reducible rfl
      simp only [Act.put, List.getElem_toArray, List.getElem_cons_zero, List.getElem_cons_succ, List.setIfInBounds_toArray, List.set_cons_zero, List.set_cons_succ]
      refine wpAnyH_take (i := 8) (v := ?_) rfl (by kernel_rfl) (by kernel_rfl) (by kernel_rfl) (fun _ _ _ h => h) (Or.inl ⟨by rfl, ?_⟩) (by assumption) ?_
      rotate_left
      · intro w hSw; (try dsimp only at hSw); go_simp; try with_reducible rfl
      simp only [Act.put, List.getElem_toArray, List.getElem_cons_zero, List.getElem_cons_succ, List.setIfInBounds_toArray, List.set_cons_zero, List.set_cons_succ]
      refine wpAnyH_take (i := 9) (v := ?_) rfl (by kernel_rfl) (by kernel_rfl) (by kernel_rfl) (fun _ _ _ h => h) (Or.inl ⟨by rfl, ?_⟩) (by assumption) ?_
      rotate_left
      · intro w hSw; (try dsimp only at hSw); go_simp; try with_reducible rfl
      simp only [Act.put, List.getElem_toArray, List.getElem_cons_zero, List.getElem_cons_succ, List.setIfInBounds_toArray, List.set_cons_zero, List.set_cons_succ]
      refine wpAnyH_take (i := 10) (v := ?_) rfl (by kernel_rfl) (by kernel_rfl) (by kernel_rfl) (fun _ _ _ h => h) (Or.inl ⟨by rfl, ?_⟩) (by assumption) ?_
      rotate_left
      · intro w hSw; (try dsimp only at hSw); go_simp; try with_reducible rfl
      simp only [Act.put, List.getElem_toArray, List.getElem_cons_zero, List.getElem_cons_succ, List.setIfInBounds_toArray, List.set_cons_zero, List.set_cons_succ]
      refine wpAnyH_take (i := 11) (v := ?_) rfl (by kernel_rfl) (by kernel_rfl) (by kernel_rfl) (fun _ _ _ h => h) (Or.inl ⟨by rfl, ?_⟩) (by assumption) ?_
      rotate_left
      · intro w hSw; (try dsimp only at hSw); go_simp; try with_reducible rfl
      simp only [Act.put, List.getElem_toArray, List.getElem_cons_zero, List.getElem_cons_succ, List.setIfInBounds_toArray, List.set_cons_zero, List.set_cons_succ]
      refine wpAnyH_take (i := 12) (v := ?_) rfl (by kernel_rfl) (by kernel_rfl) (by kernel_rfl) (fun _ _ _ h => h) (Or.inl ⟨by rfl, ?_⟩) (by assumption) ?_
      rotate_left
      · intro w hSw; (try dsimp only at hSw); go_simp; try with_reducible rfl
      simp only [Act.put, List.getElem_toArray, List.getElem_cons_zero, List.getElem_cons_succ, List.setIfInBounds_toArray, List.set_cons_zero, List.set_cons_succ]
      refine wpAnyH_ready (rs := [4, 13]) (by kernel_rfl) (by simp) ?_
      refine (AllReadyH.cons rfl (fun K hK => ?_) (AllReadyH.cons rfl (fun K hK => ?_) AllReadyH.nil))
      · skip
        go_simp
        refine hK.out _ _ (by first | exact hHeld | ((try dsimp only); go_keep)) (fun hHeld => ?_)
        clear hK
        try simp only [Act.put, List.getElem_toArray, List.getElem_cons_zero, List.getElem_cons_succ, List.setIfInBounds_toArray, List.set_cons_zero, List.set_cons_succ]
        refine wpAnyH_ready (rs := [13]) (by kernel_rfl) (by simp) ?_
        refine AllReadyH.cons rfl (fun K hK => ?_) AllReadyH.nil
        go_simp
        refine hK.out _ _ (by first | exact hHeld | ((try dsimp only); go_keep)) (fun hHeld => ?_)
        clear hK
        try simp only [Act.put, List.getElem_toArray, List.getElem_cons_zero, List.getElem_cons_succ, List.setIfInBounds_toArray, List.set_cons_zero, List.set_cons_succ]
        refine wpAnyH_ready (rs := [14]) (by kernel_rfl) (by simp) ?_
        refine AllReadyH.cons rfl (fun K hK => ?_) AllReadyH.nil
        refine step_append_lies _ rfl (.tmp 27) (.tmp 36) 38 rfl Bt 2 i0 (.int .i64 0) 1 8 Tryd.underlying38 hi0 hz0 hz1 hz2 rfl (by decide) (.slice ka1 k kc1) k (KS.map (Value.int .i64)) (by simp [Act.eval]) (HOW _ _) ⟨wr.heap.size + 1, 0, none⟩ 1 1 [.int .i64 VQ] (by simp [Act.eval]) rfl ?_ (by intro u hu; simp at hu; subst hu; rfl) (by decide) (by unfold maxLen; omega) (by omega) (by simp; omega) (wr.heap.size + 1 + 1) (by simp) ?_
        · intro j u hj
          match j, hj with
          | 0, hj => simp at hj; subst hj; simp [Addr.add, go_sem]
        intro g cap w1 hown hgrow hat hlt
        have HN := hide (HP _ _ g cap w1 hown hgrow hat)
        obtain ⟨f0, -⟩ := far10' hgrow (k := wr.heap.size) (by simp <;> omega) (hno _ (by omega))
        obtain ⟨f1, -⟩ := far10' hgrow (k := gv) (by simp <;> omega) (hlow _ (by omega))
        obtain ⟨f2, e2⟩ := far10' hgrow (k := R) (by simp <;> omega) (hlow _ (by omega))
        have kx : w1.cell? ⟨R, 6, none⟩ = some (.slice (some ⟨gv, 0, none⟩) nv cv) := (f2 6).trans (c6 _ _)
        have ky : w1.cell? ⟨wr.heap.size, 1, none⟩ = some (.int .i64 q) := (f0 1).trans (by simp [go_sem])
        have kz : w1.cell? ⟨gv, q, none⟩ = some (.int .i64 VQ) := (f1 q).trans (cq _ _)
        have kx' : ∀ v, (w1.setCell ⟨R, 10, none⟩ v).cell? ⟨R, 6, none⟩ = some (.slice (some ⟨gv, 0, none⟩) nv cv) := fun v => (World.cell?_setCell_other _ _ _ _ (by intro e; injection e with _ e; omega)).trans kx
        have k1 : w1.cell? ⟨R, 10, none⟩ = some (.slice ka1 k kc1) := (f2 10).trans (c10 _ _)
        have z1 : w1.frozen? ⟨R, 10, none⟩ = false := (e2 10).trans (cz _ _)
        clear f0 f1 f2 e2 hown hgrow hat hlt
        refine hK.out _ _ (by first | exact hHeld | ((try dsimp only); go_keep)) (fun hHeld => ?_)
        clear hK
        try simp only [Act.put, List.getElem_toArray, List.getElem_cons_zero, List.getElem_cons_succ, List.setIfInBounds_toArray, List.set_cons_zero, List.set_cons_succ]
        refine wpAnyH_take (i := 15) (v := ?_) rfl (by kernel_rfl) (by kernel_rfl) (by kernel_rfl) (fun _ _ _ h => h) (Or.inl ⟨by rfl, ?_⟩) (by assumption) ?_
        rotate_left
        · intro w hSw; (try dsimp only at hSw); go_simp; try with_reducible rfl
        simp only [Act.put, List.getElem_toArray, List.getElem_cons_zero, List.getElem_cons_succ, List.setIfInBounds_toArray, List.set_cons_zero, List.set_cons_succ]
        refine wpAnyH_take (i := 16) (v := ?_) rfl (by kernel_rfl) (by kernel_rfl) (by kernel_rfl) (fun _ _ _ h => h) (Or.inl ⟨by rfl, ?_⟩) (by assumption) ?_
        rotate_left
        · intro w hSw; (try dsimp only at hSw); go_simp; try with_reducible rfl
        simp only [Act.put, List.getElem_toArray, List.getElem_cons_zero, List.getElem_cons_succ, List.setIfInBounds_toArray, List.set_cons_zero, List.set_cons_succ]
        refine wpAnyH_ready (rs := [17]) (by kernel_rfl) (by simp) ?_
        refine AllReadyH.cons rfl (fun K hK => ?_) AllReadyH.nil
        go_simp
        refine hK.out _ _ (by first | exact hHeld | ((try dsimp only); go_keep)) (fun hHeld => ?_)
        clear hK
        try simp only [Act.put, List.getElem_toArray, List.getElem_cons_zero, List.getElem_cons_succ, List.setIfInBounds_toArray, List.set_cons_zero, List.set_cons_succ]
        refine wpAnyH_done (by kernel_rfl) ?_ _
        go_wp2
        exact ⟨⟨k + 1, some ⟨g, 0, none⟩, cap, by omega, by go_num, hide (by rw [HNX.out]; exact HN.out)⟩, by simp [intOf]; omega⟩
      · skip
        go_simp
        refine hK.out _ _ (by first | exact hHeld | ((try dsimp only); go_keep)) (fun hHeld => ?_)
        clear hK
        try simp only [Act.put, List.getElem_toArray, List.getElem_cons_zero, List.getElem_cons_succ, List.setIfInBounds_toArray, List.set_cons_zero, List.set_cons_succ]
        refine wpAnyH_ready (rs := [4]) (by kernel_rfl) (by simp) ?_
        refine AllReadyH.cons rfl (fun K hK => ?_) AllReadyH.nil
        go_simp
        refine hK.out _ _ (by first | exact hHeld | ((try dsimp only); go_keep)) (fun hHeld => ?_)
        clear hK
        try simp only [Act.put, List.getElem_toArray, List.getElem_cons_zero, List.getElem_cons_succ, List.setIfInBounds_toArray, List.set_cons_zero, List.set_cons_succ]
        refine wpAnyH_ready (rs := [14]) (by kernel_rfl) (by simp) ?_
        refine AllReadyH.cons rfl (fun K hK => ?_) AllReadyH.nil
        refine step_append_lies _ rfl (.tmp 27) (.tmp 36) 38 rfl Bt 2 i0 (.int .i64 0) 1 8 Tryd.underlying38 hi0 hz0 hz1 hz2 rfl (by decide) (.slice ka1 k kc1) k (KS.map (Value.int .i64)) (by simp [Act.eval]) (HOW _ _) ⟨wr.heap.size + 1, 0, none⟩ 1 1 [.int .i64 VQ] (by simp [Act.eval]) rfl ?_ (by intro u hu; simp at hu; subst hu; rfl) (by decide) (by unfold maxLen; omega) (by omega) (by simp; omega) (wr.heap.size + 1 + 1) (by simp) ?_
        · intro j u hj
          match j, hj with
          | 0, hj => simp at hj; subst hj; simp [Addr.add, go_sem]
        intro g cap w1 hown hgrow hat hlt
        have HN := hide (HP _ _ g cap w1 hown hgrow hat)
        obtain ⟨f0, -⟩ := far10' hgrow (k := wr.heap.size) (by simp <;> omega) (hno _ (by omega))
        obtain ⟨f1, -⟩ := far10' hgrow (k := gv) (by simp <;> omega) (hlow _ (by omega))
        obtain ⟨f2, e2⟩ := far10' hgrow (k := R) (by simp <;> omega) (hlow _ (by omega))
        have kx : w1.cell? ⟨R, 6, none⟩ = some (.slice (some ⟨gv, 0, none⟩) nv cv) := (f2 6).trans (c6 _ _)
        have ky : w1.cell? ⟨wr.heap.size, 1, none⟩ = some (.int .i64 q) := (f0 1).trans (by simp [go_sem])
        have kz : w1.cell? ⟨gv, q, none⟩ = some (.int .i64 VQ) := (f1 q).trans (cq _ _)
        have kx' : ∀ v, (w1.setCell ⟨R, 10, none⟩ v).cell? ⟨R, 6, none⟩ = some (.slice (some ⟨gv, 0, none⟩) nv cv) := fun v => (World.cell?_setCell_other _ _ _ _ (by intro e; injection e with _ e; omega)).trans kx
        have k1 : w1.cell? ⟨R, 10, none⟩ = some (.slice ka1 k kc1) := (f2 10).trans (c10 _ _)
        have z1 : w1.frozen? ⟨R, 10, none⟩ = false := (e2 10).trans (cz _ _)
        clear f0 f1 f2 e2 hown hgrow hat hlt
        refine hK.out _ _ (by first | exact hHeld | ((try dsimp only); go_keep)) (fun hHeld => ?_)
        clear hK
        try simp only [Act.put, List.getElem_toArray, List.getElem_cons_zero, List.getElem_cons_succ, List.setIfInBounds_toArray, List.set_cons_zero, List.set_cons_succ]
        refine wpAnyH_take (i := 15) (v := ?_) rfl (by kernel_rfl) (by kernel_rfl) (by kernel_rfl) (fun _ _ _ h => h) (Or.inl ⟨by rfl, ?_⟩) (by assumption) ?_
        rotate_left
        · intro w hSw; (try dsimp only at hSw); go_simp; try with_reducible rfl
        simp only [Act.put, List.getElem_toArray, List.getElem_cons_zero, List.getElem_cons_succ, List.setIfInBounds_toArray, List.set_cons_zero, List.set_cons_succ]
        refine wpAnyH_take (i := 16) (v := ?_) rfl (by kernel_rfl) (by kernel_rfl) (by kernel_rfl) (fun _ _ _ h => h) (Or.inl ⟨by rfl, ?_⟩) (by assumption) ?_
        rotate_left
        · intro w hSw; (try dsimp only at hSw); go_simp; try with_reducible rfl
        simp only [Act.put, List.getElem_toArray, List.getElem_cons_zero, List.getElem_cons_succ, List.setIfInBounds_toArray, List.set_cons_zero, List.set_cons_succ]
        refine wpAnyH_ready (rs := [17]) (by kernel_rfl) (by simp) ?_
        refine AllReadyH.cons rfl (fun K hK => ?_) AllReadyH.nil
        go_simp
        refine hK.out _ _ (by first | exact hHeld | ((try dsimp only); go_keep)) (fun hHeld => ?_)
        clear hK
        try simp only [Act.put, List.getElem_toArray, List.getElem_cons_zero, List.getElem_cons_succ, List.setIfInBounds_toArray, List.set_cons_zero, List.set_cons_succ]
        refine wpAnyH_done (by kernel_rfl) ?_ _
        go_wp2
        exact ⟨⟨k + 1, some ⟨g, 0, none⟩, cap, by omega, by go_num, hide (by rw [HNX.out]; exact HN.out)⟩, by simp [intOf]; omega⟩
    · have hke : k = ts.length := by omega
      subst hke
      have e1 := hinv.out.e1
      rw [List.take_length] at hinv
      have hKl : (ts.map fun t => getN vals t.2).length = ts.length := by simp
      have hKa : ∀ i (h : i < ts.length) (h2 : i < (ts.map fun t => getN vals t.2).length), (ts.map fun t => getN vals t.2)[i] = getN vals ts[i].2 := fun i h h2 => by simp
      generalize (ts.map fun t => getN vals t.2) = KS at *
      have hnl1 : ¬ ts.length < ne := by have := hne.out; omega
      go_wp2
      have HI0 := hinv
      go_loopw [44] (fun i wr => ∃ k : Nat, k ≤ ts.length ∧ i = .int .i64 k ∧ Hid (FInv w R aa na ca gh ch ta nt ct fuel k0 value gv nv cv G n cn b pc Bt to ea ne ce ka1 ts.length kc1 (takeTo vals (ts.take k) vals) hp tr KS wr)) (fun i _ => ts.length - (intOf i).toNat)
      case atStart => exact ⟨0, Nat.zero_le _, rfl, hinv⟩
      case round =>
        clear hinv HI0 hes hks e1 hk hkl
        obtain ⟨k, hk, rfl, hinv⟩ := hrel
        have hes := hinv.out.es
        have hks := hinv.out.kept.size
        by_cases hkl : k < ts.length
        · obtain ⟨b3, o3, rfl, ⟨hb3L, hb3⟩, h31, h32⟩ := hts.out k hkl
          obtain ⟨⟨d0, d1⟩, q0, q1⟩ := hok.out _ (List.getElem_mem hkl)
          have kb3 := hinv.out.kept.block b3 hb3 (by omega) (by omega) (by omega)
          have G1 := (cell_of kb3).trans h31
          have G2 := (cell_of kb3).trans h32
          obtain ⟨_, _, e4, hi4⟩ := ints_owned hinv.out.mem.own
          obtain ⟨e4, -, -⟩ := Value.slice.inj e4
          subst e4
          obtain ⟨b4, o4, rfl, ⟨hb4, hb4'⟩, h4⟩ := hi4 k (by rw [hKl]; exact hkl)
          obtain ⟨D, hD⟩ := Int.eq_ofNat_of_zero_le d0
          have hlen : (takeTo vals (ts.take k) vals).length = nv := by rw [takeTo_len]; exact hnv.out.symm
          have hDn : D < nv := by omega
          have hnx : takeTo vals (ts.take (k + 1)) vals = (takeTo vals (ts.take k) vals).set D (KS[k]'(by rw [hKl]; exact hkl)) := by rw [take_next _ _ hkl, takeTo_snoc, hKa k hkl (by rw [hKl]; exact hkl), hD]; simp [setN]
          rw [hD] at G1
          have HNX := hide hnx
          have hDl : D < (takeTo vals (ts.take k) vals).length := by omega
          have VD0 := hinv.out.mem.mem.vals.2 D hDl
          have VDz := hinv.out.mem.mem.vals.frozen D
          have c6 := hinv.out.box.c6
          have c10 := hinv.out.box.c10
          have hnel : k < ne := by have := hne.out; omega
          have HF := hide (fun x => (hinv.out.put (by omega) hRv (by omega) hB (balloc (Below.refl wr.heap.size wr) x) (i := D) hDl (KS[k]'(by rw [hKl]; exact hkl))).drew)
          clear hnx h31 h32 q0 q1 hD hi4
          generalize ts[k].2 = Q at *
          generalize (KS[k]'(by rw [hKl]; exact hkl)) = VQ at *
          generalize takeTo vals (ts.take k) vals = VV at *
          have VD1 := fun x => ((balloc (Below.refl wr.heap.size wr) x).cell (p := ⟨gv, D, none⟩) (by show gv < _; omega)).trans VD0
          have VZ1 := fun x => ((balloc (Below.refl wr.heap.size wr) x).frozen (p := ⟨gv, D, none⟩) (by show gv < _; omega)).trans VDz
          generalize VV[D] = VD at *
          have n1 : wr.heap.size ≠ R := by omega
          have n2 : wr.heap.size ≠ gv := by omega
          have n3 : R ≠ wr.heap.size := by omega
          have n4 : gv ≠ wr.heap.size := by omega
          have n5 : gv ≠ R := fun e => hRv e.symm
          have n6 : gv ≠ b4 := by omega
          have n7 : wr.heap.size ≠ b4 := by omega
          go_wp2
          go_region_held3 (fun w' => w'.cell? ⟨R, 6, none⟩ = some (.slice (some ⟨gv, 0, none⟩) nv cv) ∧ w'.cell? ⟨wr.heap.size, 0, none⟩ = some (.int .i64 D) ∧ w'.cell? ⟨R, 10, none⟩ = some (.slice (some ⟨b4, o4, none⟩) ts.length kc1) ∧ w'.cell? ⟨b4, o4 + k, none⟩ = some (.int .i64 VQ)) (go_keep) (fail)
          go_wp2
          exact ⟨⟨k + 1, by omega, by go_num, hide (by rw [HNX.out]; exact HF.out _)⟩, by simp [intOf]; omega⟩
        · have hke : k = ts.length := by omega
          subst hke
          have e0 := hinv.out.e0
          have z8 := hinv.out.box.c8
          have z9 := hinv.out.box.c9
          have zz := hinv.out.box.fz
          have hnl1 : ¬ ts.length < ne := by have := hne.out; omega
          go_wp2
          have hm := hinv.out.mem
          rw [List.take_length] at hm
          exact bodyPost_end (v := .tuple #[]) (by simp [results, Tryd.results163, go_sem]) rfl ⟨rfl, ka1, ts.length, kc1, KS, (hinv.out.kept.set (Or.inl rfl) _).set (Or.inl rfl) _, (hinv.out.box.set8 to).set9 0, hm.keep (fun q h1 h2 => (Below.heap_setCell _ _ _ _ (by show q ≠ R; omega)).trans (Below.heap_setCell _ _ _ _ (by show q ≠ R; omega)))⟩
end Go.Proofs.YtdcdgopblbmgoaaDoor
