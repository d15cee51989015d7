import Derived.Test.YtanaeindldcapaaDoorML3a
namespace Go.Proofs.YtanaeindldcapaaDoor
open Go.RowKit
set_option maxHeartbeats 8000000 in
set_option maxRecDepth 100000 in
theorem list_any (V : Nat) (a : Option Addr) (n c : Nat) (xs : List Blk) (L B : Nat) (w : World) (ha : Hid (BlksAt w L B a xs)) (hx : Hid (n = xs.length)) (hB : B ≤ w.heap.size) (ho : Hid (OkL V xs)) :
    Calls Tryd.prog 28 #[.agg #[.int .i64 (V : Int), .slice a n c]] w fun e w' => ∃ a' c', e = .returned (.slice a' n c') ∧ Below w.heap.size w w' ∧ FactsFr w' w.heap.size a' xs := by
  obtain ⟨i0, hi0, hz0, hz1, hz2⟩ := info_three Tryd.infoFa
  obtain ⟨j0, hj0, hy0, hy1, hy2⟩ := info_three Tryd.infoSetI'
  obtain ⟨m0, hm0, hm1, hm2, hm3⟩ := info_three Tryd.info2'
  have hn : n ≤ 1000 := by have := hx.out; have := ho.out.okf.n2; omega
  have HEU : Hid (∀ (W : World) (p : Int) (t : Nat), Below w.heap.size w W → t < n → _) := hide (fun W p t (hW : Below w.heap.size w W) htn => edgeUses_any V a n c p t xs L B W (hide (ha.out.keep (hW.mono hB))) hx (by have := hW.size; omega) ho htn)
  go_enter Tryd.func28, Tryd.ntmps28
  go_wp2_with fail
  go_loopw [3, 4] (fun u i wr => ∃ (k : Nat) (cs : List Value), k ≤ n ∧ i = .int .i64 k ∧ Hid (LsI w V a n c xs wr u k cs)) (fun _ i _ => n - (intOf i).toNat)
  case atStart =>
    refine ⟨0, [], Nat.zero_le _, rfl, hide ⟨balloc (balloc (Below.refl _ _) _) _, by simp, by simp, by simp, ?_, fun i _ h => absurd h (by omega)⟩⟩
    have h := World.ownsRow_lit (base := w.heap.size + 1) (e := 81) (size := 6) (w.alloc (.cells #[.int .i64 (V : Int), .slice a n c] 29)) #[] 0 (by simp) (by simp) rfl
    rw [World.size_alloc] at h
    exact h
  case round =>
    obtain ⟨k, cs, hk, rfl, HL⟩ := hrel
    have hf1 : wr.cell? ⟨w.heap.size, 1, none⟩ = some (.slice a n c) := HL.out.f1
    by_cases hlt : k < n
    · have hkx : k < xs.length := by have := hx.out; omega
      have hlow : Below w.heap.size w wr := HL.out.low
      have hwz : w.heap.size + 2 ≤ wr.heap.size := HL.out.sz
      obtain ⟨b, o, ea, ⟨hbL, hbB⟩, hc⟩ := (ha.out.keep (hlow.mono hB)) k hkx
      subst ea
      obtain ⟨pa, pc, ia, ic, e0, e1, ⟨e2, e3, e4, e5⟩, hph, hin⟩ := hc
      have HPHS := hide hph
      have HINS := hide hin
      have HLN := hide (ho.out.lens xs[k] (List.getElem_mem hkx))
      have HTL : Hid (∀ t ∈ xs[k].term.targets, 0 ≤ t ∧ t < (n : Int)) := hide (by rw [hx.out]; exact ho.out.okf.tgt xs[k] (List.getElem_mem hkx))
      obtain ⟨X, hX⟩ : ∃ X, X = xs[k] := ⟨_, rfl⟩
      rw [← hX] at e0 e1 e2 e3 e4 e5 HPHS HINS HLN HTL
      have HX := hide hX
      clear hX hph hin
      refine wp_abs (fun _ _ _ _ _ h => h) ?_
      intro Q hN hQ
      go_wp2_with fail
      rename_i Kc HKc
      have hbw : b < wr.heap.size := World.block_lt_of_cell? wr _ e0
      have KEY : Hid (∀ (bx : Nat) (f0 : Nat → Value) (t17 t18 t19 t20 t21 t22 t23 t24 t25 t26 t27 t28 t29 t30 t31 t32 t33 t34 t35 t36 t37 : Value) (Y : World), FcA wr Y bx X f0 → Kc ⟨#[.agg #[.int .i64 (V : Int), .slice (some ⟨b, o, none⟩) n c], .pointer (some ⟨w.heap.size, 0, none⟩), .slice none 0 0, u3, .int .i64 (k : Int), .pointer (some ⟨bx, 0, none⟩), u6, u7, u8, .slice (some ⟨w.heap.size + 1, 0, none⟩) 0 0, .int .i64 (k : Int), .pointer (some ⟨w.heap.size, 1, none⟩), .slice (some ⟨b, o, none⟩) n c, .int .i64 (n : Int), .bool true, u15, u16, t17, t18, t19, t20, t21, t22, t23, t24, t25, t26, t27, t28, t29, t30, t31, t32, t33, t34, t35, t36, t37, u38, u39, u40, u41, u42, u43, u44, u45, u46, u47, u48, u49, u50, u51, u52, u53, u54, u55, u56, u57, u58, u59, u60, u61, u62, u63, u64, u65, u66, u67, u68, u69, u70, u71, u72, u73, u74, u75, u76, u77, u78, u79, u80, u81, u82, u83, u84, u85, u86, u87, u88, u89, u90, u91, u92, u93, u94, u95, u96, u97, u98, u99, u100, u101, u102, u103, undef], []⟩ Y) := hide (by
        intro bx f0 t17 t18 t19 t20 t21 t22 t23 t24 t25 t26 t27 t28 t29 t30 t31 t32 t33 t34 t35 t36 t37 Y hA
        apply HKc
        have HA := hide hA
        obtain ⟨aT, cT, eT, hiT⟩ := hA.e0
        have HIT := hide hiT
        have HET := hide eT
        have hbx : wr.heap.size ≤ bx := hA.b1
        have hbl : bx < Y.heap.size := hA.box.lt
        have hzY := hA.low.size
        have HYW : Hid (Below w.heap.size w Y) := hide (hlow.trans (hA.low.mono (by omega)))
        have yf0 : Y.cell? ⟨w.heap.size, 0, none⟩ = some (.int .i64 (V : Int)) := (hA.low.cell (p := ⟨w.heap.size, 0, none⟩) (by show w.heap.size < _; omega)).trans HL.out.f0
        have yf1 : Y.cell? ⟨w.heap.size, 1, none⟩ = some (.slice (some ⟨b, o, none⟩) n c) := (hA.low.cell (p := ⟨w.heap.size, 1, none⟩) (by show w.heap.size < _; omega)).trans hf1
        have HYF := hide (show _ ∧ _ from ⟨yf0, yf1⟩)
        obtain ⟨nT, hnT⟩ : ∃ m, m = X.term.targets.length := ⟨_, rfl⟩
        have hnT2 : nT ≤ 2 := by rw [hnT]; exact tg_two _
        have HNT := hide hnT
        have HE1 : Hid (Y.cell? ⟨b, o + k * 6 + 1, none⟩ = some (.slice ia X.instrs.length ic)) := hide ((hA.low.cell (p := ⟨b, o + k * 6 + 1, none⟩) hbw).trans e1)
        have HINY : Hid (InssAt Y L B ia X.instrs) := hide (HINS.out.keepS (fun q _ h2 => hA.low.block q (by omega)))
        have HEL : Hid (∀ j, j ≤ 2 → ((X.term.targets.take j).flatMap (edgeU xs (k : Int))).length ≤ 8000000) := hide (fun j hj => by
          have h1 := flat_len ho.out (k : Int) (X.term.targets.take j)
          rw [List.length_take] at h1
          have h2 : min j X.term.targets.length ≤ 2 := by omega
          omega)
        have hbw1 : w.heap.size < bx := by omega
        clear hA hiT eT hnT HKc e0 e1 e2 e3 e4 e5 hf1 yf0 yf1 HPHS
        generalize wr = wo at *
        go_wp2_with fail
        go_loopw [6] (fun i wr => ∃ (j : Nat) (u : Value), j ≤ nT ∧ i = .int .i64 j ∧ Hid (EdL Y bx f0 wr u ((X.term.targets.take j).flatMap (edgeU xs (k : Int))))) (fun i _ => nT - (intOf i).toNat)
        case atStart => exact ⟨0, .slice none 0 0, Nat.zero_le _, rfl, hide (EdL.start HA.out.box HA.out.n2)⟩
        case round =>
          obtain ⟨j, u, hj, rfl, HE⟩ := hrel
          have hzE := HE.out.size
          have c0 : wr.cell? ⟨bx, 0, none⟩ = some (.slice aT nT cT) := by
            have h := HE.out.box.cell (i := 0) (by decide)
            rw [if_neg (by decide), HET.out, ← HNT.out] at h
            exact h
          by_cases hltj : j < nT
          · have hjx : j < X.term.targets.length := by rw [← HNT.out]; exact hltj
            obtain ⟨bt, ot, rfl, ⟨⟨_, hbtx⟩, hbtl⟩, hct⟩ := HIT.out j hjx
            have htv := HTL.out _ (List.getElem_mem hjx)
            have c2 : wr.cell? ⟨bx, 2, none⟩ = some u := by
              have h := HE.out.box.cell (i := 2) (by decide)
              rw [if_pos rfl] at h
              exact h
            have cz : wr.frozen? ⟨bx, 2, none⟩ = false := HE.out.box.frozen 2
            have cf0 := HE.out.cell (by omega) HYF.out.1
            have cf1 := HE.out.cell (by omega) HYF.out.2
            have ct := HE.out.cell hbtx hct
            have HFT : Hid ((X.term.targets.take (j + 1)).flatMap (edgeU xs (k : Int)) = (X.term.targets.take j).flatMap (edgeU xs (k : Int)) ++ edgeU xs (k : Int) X.term.targets[j]) := hide (flat_take hjx)
            obtain ⟨tn, htn⟩ := Int.eq_ofNat_of_zero_le htv.1
            rw [htn] at HFT ct
            have htn2 : tn < n := by omega
            have HEC := hide (HEU.out wr.drew (k : Int) tn ⟨HE.out.os.trans HYW.out.os, HE.out.tape.trans HYW.out.tape, HE.out.output.trans HYW.out.output, Nat.le_trans HYW.out.size HE.out.size, fun q hq => (HE.out.fr q (by have := HYW.out.size; omega) (by omega)).trans (HYW.out.block q hq)⟩ htn2)
            have HLE := hide (HEL.out j (by omega))
            have HLU := hide (edgeU_len ho.out (k : Int) (tn : Int))
            have hbr : bx < wr.heap.size := by omega
            have hwr : w.heap.size < wr.heap.size := by omega
            generalize edgeU xs (k : Int) (tn : Int) = eu at *
            generalize (X.term.targets.take j).flatMap (edgeU xs (k : Int)) = el at *
            clear hct htv htn
            go_wp2_with fail
            refine wp_region_held_drew (S := (fun w' => w'.cell? ⟨w.heap.size, 0, none⟩ = some (.int .i64 (V : Int)) ∧ w'.cell? ⟨w.heap.size, 1, none⟩ = some (.slice (some ⟨b, o, none⟩) n c) ∧ w'.cell? ⟨bx, 0, none⟩ = some (.slice (some ⟨bt, ot, none⟩) nT cT) ∧ w'.cell? ⟨bt, ot + j, none⟩ = some (.int .i64 (tn : Int)))) (by kernel_rfl) (by (try dsimp only); go_keep) (fun hHeld => ?_)
            refine wpAnyH_take (i := 0) (v := ?_) rfl (by kernel_rfl) (by kernel_rfl) (by kernel_rfl) (fun _ _ _ h => hQ.out _ _ _ _ _ h) (Or.inl ⟨by rfl, ?_⟩) (by assumption) ?_
            rotate_left
            · intro w hSw; (try dsimp only at hSw); go_simp; try with_reducible rfl
            simp only [Act.put, List.getElem_toArray, List.getElem_cons_zero, List.setIfInBounds_toArray, List.set_cons_zero, List.set_cons_succ]
            refine wpAnyH_take (i := 2) (v := ?_) rfl (by kernel_rfl) (by kernel_rfl) (by kernel_rfl) (fun _ _ _ h => hQ.out _ _ _ _ _ h) (Or.inl ⟨by rfl, ?_⟩) (by assumption) ?_
            rotate_left
            · intro w hSw; (try dsimp only at hSw); go_simp; try with_reducible rfl
            simp only [Act.put, List.getElem_toArray, List.getElem_cons_zero, List.getElem_cons_succ, List.setIfInBounds_toArray, List.set_cons_zero, List.set_cons_succ]
            refine wpAnyH_take (i := 3) (v := ?_) rfl (by kernel_rfl) (by kernel_rfl) (by kernel_rfl) (fun _ _ _ h => hQ.out _ _ _ _ _ h) (Or.inl ⟨by rfl, ?_⟩) (by assumption) ?_
            rotate_left
            · intro w hSw; (try dsimp only at hSw); go_simp; try with_reducible rfl
            simp only [Act.put, List.getElem_toArray, List.getElem_cons_zero, List.getElem_cons_succ, List.setIfInBounds_toArray, List.set_cons_zero, List.set_cons_succ]
            refine wpAnyH_take (i := 4) (v := ?_) rfl (by kernel_rfl) (by kernel_rfl) (by kernel_rfl) (fun _ _ _ h => hQ.out _ _ _ _ _ h) (Or.inl ⟨by rfl, ?_⟩) (by assumption) ?_
            rotate_left
            · intro w hSw; (try dsimp only at hSw); go_simp; try with_reducible rfl
            simp only [Act.put, List.getElem_toArray, List.getElem_cons_zero, List.getElem_cons_succ, List.setIfInBounds_toArray, List.set_cons_zero, List.set_cons_succ]
            refine wpAnyH_take (i := 5) (v := ?_) rfl (by kernel_rfl) (by kernel_rfl) (by kernel_rfl) (fun _ _ _ h => hQ.out _ _ _ _ _ h) (Or.inl ⟨by rfl, ?_⟩) (by assumption) ?_
            rotate_left
            · intro w hSw; (try dsimp only at hSw); go_simp; try with_reducible rfl
            simp only [Act.put, List.getElem_toArray, List.getElem_cons_zero, List.getElem_cons_succ, List.setIfInBounds_toArray, List.set_cons_zero, List.set_cons_succ]
            refine wpAnyH_take (i := 6) (v := ?_) rfl (by kernel_rfl) (by kernel_rfl) (by kernel_rfl) (fun _ _ _ h => hQ.out _ _ _ _ _ h) (Or.inl ⟨by rfl, ?_⟩) (by assumption) ?_
            rotate_left
            · intro w hSw; (try dsimp only at hSw); go_simp; try with_reducible rfl
            simp only [Act.put, List.getElem_toArray, List.getElem_cons_zero, List.getElem_cons_succ, List.setIfInBounds_toArray, List.set_cons_zero, List.set_cons_succ]
            refine wpAnyH_take (i := 7) (v := ?_) rfl (by kernel_rfl) (by kernel_rfl) (by kernel_rfl) (fun _ _ _ h => hQ.out _ _ _ _ _ h) (Or.inl ⟨by rfl, ?_⟩) (by assumption) ?_
            rotate_left
            · intro w hSw; (try dsimp only at hSw); go_simp; try with_reducible rfl
            simp only [Act.put, List.getElem_toArray, List.getElem_cons_zero, List.getElem_cons_succ, List.setIfInBounds_toArray, List.set_cons_zero, List.set_cons_succ]
            refine wpAnyH_take (i := 8) (v := ?_) rfl (by kernel_rfl) (by kernel_rfl) (by kernel_rfl) (fun _ _ _ h => hQ.out _ _ _ _ _ h) (Or.inl ⟨by rfl, ?_⟩) (by assumption) ?_
            rotate_left
            · intro w hSw; (try dsimp only at hSw); go_simp; try with_reducible rfl
            simp only [Act.put, List.getElem_toArray, List.getElem_cons_zero, List.getElem_cons_succ, List.setIfInBounds_toArray, List.set_cons_zero, List.set_cons_succ]
            refine wpAnyH_ready (rs := [1, 9]) (by kernel_rfl) (by simp) ?_
            refine (AllReadyH.cons rfl (fun K hK => ?_) (AllReadyH.cons rfl (fun K hK => ?_) AllReadyH.nil))
            go_simp
            refine hK.out _ _ (by first | with_reducible exact hHeld | ((try dsimp only); go_keep)) (fun hHeld => ?_)
            clear hK
            try simp only [Act.put, List.getElem_toArray, List.getElem_cons_zero, List.getElem_cons_succ, List.setIfInBounds_toArray, List.set_cons_zero, List.set_cons_succ]
            refine wpAnyH_ready (rs := [9]) (by kernel_rfl) (by simp) ?_
            refine AllReadyH.cons rfl (fun K hK => ?_) AllReadyH.nil
            go_simp
            refine HEC.out.mono ?_
            rintro e w5 ⟨ad, c5, rfl, hb5', hi5⟩
            have hb5 : Below wr.heap.size wr w5 := ⟨hb5'.os, hb5'.tape, hb5'.output, hb5'.size, hb5'.block⟩
            have HB5 := hide hb5
            have HI5 := hide hi5
            have d0 := (hb5.cell (p := ⟨bx, 0, none⟩) hbr).trans c0
            have d2 := (hb5.cell (p := ⟨bx, 2, none⟩) hbr).trans c2
            have df0 := (hb5.cell (p := ⟨w.heap.size, 0, none⟩) hwr).trans cf0
            have df1 := (hb5.cell (p := ⟨w.heap.size, 1, none⟩) hwr).trans cf1
            have dt := (hb5.cell (p := ⟨bt, ot + j, none⟩) (World.block_lt_of_cell? wr _ ct)).trans ct
            clear hb5' hi5 hb5
            refine hK.out _ _ ⟨df0, df1, d0, dt⟩ (fun hHeld => ?_)
            clear hK
            try simp only [Act.put, List.getElem_toArray, List.getElem_cons_zero, List.getElem_cons_succ, List.setIfInBounds_toArray, List.set_cons_zero, List.set_cons_succ]
            rotate_left
            go_simp
            refine HEC.out.mono ?_
            rintro e w5 ⟨ad, c5, rfl, hb5', hi5⟩
            have hb5 : Below wr.heap.size wr w5 := ⟨hb5'.os, hb5'.tape, hb5'.output, hb5'.size, hb5'.block⟩
            have HB5 := hide hb5
            have HI5 := hide hi5
            have d0 := (hb5.cell (p := ⟨bx, 0, none⟩) hbr).trans c0
            have d2 := (hb5.cell (p := ⟨bx, 2, none⟩) hbr).trans c2
            have df0 := (hb5.cell (p := ⟨w.heap.size, 0, none⟩) hwr).trans cf0
            have df1 := (hb5.cell (p := ⟨w.heap.size, 1, none⟩) hwr).trans cf1
            have dt := (hb5.cell (p := ⟨bt, ot + j, none⟩) (World.block_lt_of_cell? wr _ ct)).trans ct
            clear hb5' hi5 hb5
            refine hK.out _ _ ⟨df0, df1, d0, dt⟩ (fun hHeld => ?_)
            clear hK
            try simp only [Act.put, List.getElem_toArray, List.getElem_cons_zero, List.getElem_cons_succ, List.setIfInBounds_toArray, List.set_cons_zero, List.set_cons_succ]
            refine wpAnyH_ready (rs := [1]) (by kernel_rfl) (by simp) ?_
            refine AllReadyH.cons rfl (fun K hK => ?_) AllReadyH.nil
            go_simp
            refine hK.out _ _ (by first | with_reducible exact hHeld | ((try dsimp only); go_keep)) (fun hHeld => ?_)
            clear hK
            try simp only [Act.put, List.getElem_toArray, List.getElem_cons_zero, List.getElem_cons_succ, List.setIfInBounds_toArray, List.set_cons_zero, List.set_cons_succ]
            all_goals (
              refine wpAnyH_ready (rs := [10]) (by kernel_rfl) (by simp) ?_
              refine AllReadyH.cons rfl (fun K hK => ?_) AllReadyH.nil
              refine step_append_q rfl _ _ 35 rfl Y.heap.size 2 m0 (.int .i64 0) 1 8 Tryd.underlying35 hm0 hm1 hm2 hm3 rfl (by decide) u el.length (el.map (Value.int .i64)) rfl ?s1 ad eu.length c5 (eu.map (Value.int .i64)) rfl (by simp) ?s2 ?s3 ?s4 ?s5 ?s6 ?_
              case s1 => exact own_block HE.out.own (fun g e => HB5.out.block g (HE.out.own.lt g e).2)
              case s2 => exact ints_nw HI5.out
              case s3 => intro v hv; obtain ⟨z, _, rfl⟩ := List.mem_map.1 hv; rfl
              case s4 => have := HLE.out; have := HLU.out; unfold maxLen; omega
              case s5 => have := HLE.out; have := HLU.out; omega
              case s6 => have := HB5.out.size; omega
              intro u1 w6 hown1 hgrow1 _ _
              obtain ⟨av, cv, eu1, _⟩ := ints_owned (xs := el ++ eu) (by rw [List.map_append]; exact hown1)
              obtain ⟨ln, hln⟩ : ∃ m, m = (el ++ eu).length := ⟨_, rfl⟩
              rw [← hln] at eu1
              subst eu1
              clear hln
              have HG6 := hide hgrow1
              have HO6 : Hid (w6.ownsRow Y.heap.size 2 1 (.slice av ln cv) (el ++ eu).length ((el ++ eu).map (Value.int .i64))) := hide (by rw [List.length_append, List.map_append]; exact hown1)
              have hnb : ∀ q, q < Y.heap.size → w6.heap[q]? = w5.heap[q]? := fun q hq => hgrow1.block q (by have := HB5.out.size; omega) (fun e => by have := (HE.out.own.lt q e.symm).1; omega)
              have g0 := (cell_of (hnb bx hbl)).trans d0
              have g2 := (cell_of (hnb bx hbl)).trans d2
              have gz : w6.frozen? ⟨bx, 2, none⟩ = false := by rw [World.frozen?_of_block (a := ⟨bx, 2, none⟩) (hnb bx hbl)]; exact (HB5.out.frozen (p := ⟨bx, 2, none⟩) hbr).trans cz
              have gf0 := (cell_of (hnb w.heap.size (by omega))).trans df0
              have gf1 := (cell_of (hnb w.heap.size (by omega))).trans df1
              have gt := (cell_of (hnb bt hbtl)).trans dt
              have HP6 := hide (HE.out.push (u' := .slice av ln cv) (qs := eu) hbl HB5.out HG6.out HO6.out)
              clear hown1 hgrow1 hnb d0 d2 df0 df1 dt hHeld
              refine hK.out _ _ ⟨gf0, gf1, g0, gt⟩ (fun hHeld => ?_)
              clear hK
              try simp only [Act.put, List.getElem_toArray, List.getElem_cons_zero, List.getElem_cons_succ, List.setIfInBounds_toArray, List.set_cons_zero, List.set_cons_succ]
              refine wpAnyH_take (i := 11) (v := ?_) rfl (by kernel_rfl) (by kernel_rfl) (by kernel_rfl) (fun _ _ _ h => hQ.out _ _ _ _ _ h) (Or.inl ⟨by rfl, ?_⟩) (by assumption) ?_
              rotate_left
              · intro w hSw; (try dsimp only at hSw); go_simp; try with_reducible rfl
              simp only [Act.put, List.getElem_toArray, List.getElem_cons_zero, List.getElem_cons_succ, List.setIfInBounds_toArray, List.set_cons_zero, List.set_cons_succ]
              refine wpAnyH_ready (rs := [12]) (by kernel_rfl) (by simp) ?_
              refine AllReadyH.cons rfl (fun K hK => ?_) AllReadyH.nil
              go_simp
              have hs : ∀ (b' o' : Nat) (v : Value), (b' ≠ bx ∨ o' ≠ 2) → w6.cell? ⟨b', o', none⟩ = some v → (w6.setCell ⟨bx, 2, none⟩ (.slice av ln cv)).cell? ⟨b', o', none⟩ = some v := fun b' o' v h1 h2 => (World.cell?_setCell_other _ _ _ _ (by
                intro e
                injection e with e1 e2
                rcases h1 with h1 | h1
                · exact h1 e1.symm
                · exact h1 e2.symm)).trans h2
              refine hK.out _ _ ⟨hs _ _ _ (Or.inl (by omega)) gf0, hs _ _ _ (Or.inl (by omega)) gf1, hs _ _ _ (Or.inr (by decide)) g0, hs _ _ _ (Or.inl hbtx) gt⟩ (fun hHeld => ?_)
              clear hK hHeld hs gf0 gf1 g0 g2 gz gt
              try simp only [Act.put, List.getElem_toArray, List.getElem_cons_zero, List.getElem_cons_succ, List.setIfInBounds_toArray, List.set_cons_zero, List.set_cons_succ]
              refine wpAnyH_done (by kernel_rfl) ?_ _
              go_wp2_with fail
              exact ⟨⟨j + 1, .slice av ln cv, by omega, by go_num, hide (by rw [HFT.out]; exact HP6.out)⟩, by simp [intOf]; omega⟩)
          · have HJE : Hid (j = X.term.targets.length) := hide (by have := HNT.out; omega)
            have HEF : Hid ((X.term.targets.take j).flatMap (edgeU xs (k : Int)) = edgesM xs k) := hide (by
              rw [List.take_of_length_le (by have := HJE.out; omega)]
              unfold edgesM
              rw [List.getElem?_eq_getElem hkx, HX.out])
            have HE2 : Hid (EdL Y bx f0 wr u (edgesM xs k)) := hide (by rw [← HEF.out]; exact HE.out)
            have HZE : Hid (Y.heap.size ≤ wr.heap.size) := hide hzE
            have HF1E : Hid (wr.cell? ⟨w.heap.size, 1, none⟩ = some (.slice (some ⟨b, o, none⟩) n c)) := hide (HE.out.cell (by omega) HYF.out.2)
            have HB1E : Hid (wr.cell? ⟨b, o + k * 6 + 1, none⟩ = some (.slice ia X.instrs.length ic)) := hide (HE.out.cell (by omega) HE1.out)
            have HINE : Hid (InssAt wr L B ia X.instrs) := hide (HINY.out.keepS (fun q _ h2 => HE.out.fr q (by omega) (by omega)))
            have hbe : bx < wr.heap.size := by omega
            clear HE HEF
            go_wp2_with fail
            clear c0
            generalize wr = w2 at *
            obtain ⟨nI, hnI⟩ : ∃ m, m = X.instrs.length := ⟨_, rfl⟩
            rw [← hnI] at HB1E
            have hnI2 : nI ≤ 4000 := by rw [hnI]; exact HLN.out.1
            have HNI := hide hnI
            clear hnI
            go_loopw [7] (fun i wr => ∃ (q : Nat) (ur ud : Value) (rs : List Value), q ≤ nI ∧ i = .int .i64 q ∧ Hid (InL w2 bx (fun i => if i = 2 then u else f0 i) wr ur ud rs ((rdsM X).take q) ((dfsM X).take q))) (fun i _ => nI - (intOf i).toNat)
            case atStart => exact ⟨0, .slice none 0 0, .slice none 0 0, [], Nat.zero_le _, rfl, hide (InL.start HE2.out.box (by rw [if_neg (by decide)]; exact HA.out.n3) (by rw [if_neg (by decide)]; exact HA.out.n4))⟩
            case round =>
              obtain ⟨q, ur, ud, rs, hq, rfl, HI⟩ := hrel
              have hzI := HI.out.size
              have cf1 := (cell_of (HI.out.fr w.heap.size (by omega) (by omega))).trans HF1E.out
              have ce1 := (cell_of (HI.out.fr b (by omega) (by omega))).trans HB1E.out
              by_cases hltq : q < nI
              · have hqx : q < X.instrs.length := by rw [← HNI.out]; exact hltq
                obtain ⟨bi, oi, rfl, ⟨hbiL, hbiB⟩, hins⟩ := HINE.out q hqx
                have hfri := HI.out.fr bi (by omega) (by omega)
                obtain ⟨i0', i1', i2', i3', i4'⟩ := hins
                have r0 := (cell_of hfri).trans i0'
                have r1 := (cell_of hfri).trans i1'
                have r2 := (cell_of hfri).trans i2'
                have r3 := (cell_of hfri).trans i3'
                have r4 := (cell_of hfri).trans i4'
                have HTR : Hid ((rdsM X).take (q + 1) = (rdsM X).take q ++ [rdI X.instrs[q]]) := hide (by unfold rdsM; rw [take_next _ _ (by simpa using hqx)]; simp)
                have HTD : Hid ((dfsM X).take (q + 1) = (dfsM X).take q ++ [defI X.instrs[q]]) := hide (by unfold dfsM; rw [take_next _ _ (by simpa using hqx)]; simp)
                have HLR1 : Hid (((rdsM X).take q).length = q) := hide (by rw [List.length_take]; unfold rdsM; rw [List.length_map]; omega)
                have HLD1 : Hid (((dfsM X).take q).length = q) := hide (by rw [List.length_take]; unfold dfsM; rw [List.length_map]; omega)
                obtain ⟨y, hy⟩ : ∃ y, y = X.instrs[q] := ⟨_, rfl⟩
                rw [← hy] at r0 r1 r2 r3 r4 HTR HTD
                obtain ⟨op, dst, ya, yb, imm⟩ := y
                simp only at r0 r1 r2 r3 r4
                clear i0' i1' i2' i3' i4' hfri hy
                generalize (rdsM X).take q = zr at *
                generalize (dfsM X).take q = zd at *
                go_wp2_with fail
                have hbA : Below wr.heap.size wr (wr.alloc (.cells #[.int .i64 op, .int .i64 dst, .int .i64 ya, .int .i64 yb, .int .i64 imm] 69)) := balloc (Below.refl _ _) _
                have hri : wr.heap.size < (wr.alloc (.cells #[.int .i64 op, .int .i64 dst, .int .i64 ya, .int .i64 yb, .int .i64 imm] 69)).heap.size := by simp
                have hnc : ∀ q' v, #[Value.int .i64 op, .int .i64 dst, .int .i64 ya, .int .i64 yb, .int .i64 imm][q']? = some v → (wr.alloc (.cells #[.int .i64 op, .int .i64 dst, .int .i64 ya, .int .i64 yb, .int .i64 imm] 69)).cell? ⟨wr.heap.size, q', none⟩ = some v := fun q' v h => by
                  rw [World.cell?_alloc_new]
                  exact h
                generalize wr.alloc (.cells #[.int .i64 op, .int .i64 dst, .int .i64 ya, .int .i64 yb, .int .i64 imm] 69) = wi at *
                have n0 : wi.cell? ⟨wr.heap.size, 0, none⟩ = some (.int .i64 op) := hnc 0 _ rfl
                have n1 : wi.cell? ⟨wr.heap.size, 1, none⟩ = some (.int .i64 dst) := hnc 1 _ rfl
                have n2 : wi.cell? ⟨wr.heap.size, 2, none⟩ = some (.int .i64 ya) := hnc 2 _ rfl
                have n3 : wi.cell? ⟨wr.heap.size, 3, none⟩ = some (.int .i64 yb) := hnc 3 _ rfl
                have n4 : wi.cell? ⟨wr.heap.size, 4, none⟩ = some (.int .i64 imm) := hnc 4 _ rfl
                have HIi := hide (HI.out.below hbA)
                have hzi := hbA.size
                have hbi : bx < wi.heap.size := by omega
                have s3 : wi.cell? ⟨bx, 3, none⟩ = some ur := by
                  have h := HIi.out.box.cell (i := 3) (by decide)
                  rw [if_pos rfl] at h
                  exact h
                have sz3 : wi.frozen? ⟨bx, 3, none⟩ = false := HIi.out.box.frozen 3
                have HUR : Hid (∀ g, ur.ownBlock = some g → g < wi.heap.size) := hide (fun g e => (HIi.out.ownR.lt g e).2)
                have HUR0 : Hid (∀ g, ur.ownBlock = some g → g < wr.heap.size) := hide (fun g e => (HI.out.ownR.lt g e).2)
                have HUD : Hid (∀ g, ud.ownBlock = some g → g < wi.heap.size) := hide (fun g e => (HIi.out.ownD.lt g e).2)
                clear hnc hbA r0 r1 r2 r3 r4 cf1 ce1
                refine wp_region_held_drew (S := (fun w' => w'.cell? ⟨wr.heap.size, 0, none⟩ = some (.int .i64 op) ∧ w'.cell? ⟨wr.heap.size, 1, none⟩ = some (.int .i64 dst) ∧ w'.cell? ⟨wr.heap.size, 2, none⟩ = some (.int .i64 ya) ∧ w'.cell? ⟨wr.heap.size, 3, none⟩ = some (.int .i64 yb) ∧ w'.cell? ⟨wr.heap.size, 4, none⟩ = some (.int .i64 imm))) (by kernel_rfl) (by (try dsimp only); go_keep) (fun hHeld => ?_)
                refine wpAnyH_take (i := 0) (v := ?_) rfl (by kernel_rfl) (by kernel_rfl) (by kernel_rfl) (fun _ _ _ h => hQ.out _ _ _ _ _ h) (Or.inl ⟨by rfl, ?_⟩) (by assumption) ?_
                rotate_left
                · intro w hSw; (try dsimp only at hSw); go_simp; try with_reducible rfl
                simp only [Act.put, List.getElem_toArray, List.getElem_cons_zero, List.setIfInBounds_toArray, List.set_cons_zero, List.set_cons_succ]
                refine wpAnyH_take (i := 2) (v := ?_) rfl (by kernel_rfl) (by kernel_rfl) (by kernel_rfl) (fun _ _ _ h => hQ.out _ _ _ _ _ h) (Or.inl ⟨by rfl, ?_⟩) (by assumption) ?_
                rotate_left
                · intro w hSw; (try dsimp only at hSw); go_simp; try with_reducible rfl
                simp only [Act.put, List.getElem_toArray, List.getElem_cons_zero, List.getElem_cons_succ, List.setIfInBounds_toArray, List.set_cons_zero, List.set_cons_succ]
                refine wpAnyH_ready (rs := [1, 3]) (by kernel_rfl) (by simp) ?_
                refine (AllReadyH.cons rfl (fun K hK => ?_) (AllReadyH.cons rfl (fun K hK => ?_) AllReadyH.nil))
                focus
                  go_simp
                  refine hK.out _ _ (by first | with_reducible exact hHeld | ((try dsimp only); go_keep)) (fun hHeld => ?_)
                  clear hK
                  try simp only [Act.put, List.getElem_toArray, List.getElem_cons_zero, List.getElem_cons_succ, List.setIfInBounds_toArray, List.set_cons_zero, List.set_cons_succ]
                  refine wpAnyH_ready (rs := [3]) (by kernel_rfl) (by simp) ?_
                  refine AllReadyH.cons rfl (fun K hK => ?_) AllReadyH.nil
                  go_simp
                  refine (l1Reads_any ⟨op, dst, ya, yb, imm⟩ wi.drew).mono ?_
                  rintro e w5 ⟨a5, c5, rfl, hb5', hi5⟩
                  have hb5 : Below wi.heap.size wi w5 := ⟨hb5'.os, hb5'.tape, hb5'.output, hb5'.size, hb5'.block⟩
                  have HB5 := hide hb5
                  have HI5 : Hid (IntsAt w5 wi.heap.size w5.heap.size a5 (rdI ⟨op, dst, ya, yb, imm⟩)) := hide hi5
                  have d3 := (hb5.cell (p := ⟨bx, 3, none⟩) hbi).trans s3
                  have p0 := (hb5.cell (p := ⟨wr.heap.size, 0, none⟩) hri).trans n0
                  have p1 := (hb5.cell (p := ⟨wr.heap.size, 1, none⟩) hri).trans n1
                  have p2 := (hb5.cell (p := ⟨wr.heap.size, 2, none⟩) hri).trans n2
                  have p3 := (hb5.cell (p := ⟨wr.heap.size, 3, none⟩) hri).trans n3
                  have p4 := (hb5.cell (p := ⟨wr.heap.size, 4, none⟩) hri).trans n4
                  obtain ⟨lr, hlr⟩ : ∃ m, m = (rdI ⟨op, dst, ya, yb, imm⟩).length := ⟨_, rfl⟩
                  rw [← hlr]
                  have HLR := hide hlr
                  clear hb5' hi5 hb5 hlr
                  refine hK.out _ _ ⟨p0, p1, p2, p3, p4⟩ (fun hHeld => ?_)
                  clear hK
                  try simp only [Act.put, List.getElem_toArray, List.getElem_cons_zero, List.getElem_cons_succ, List.setIfInBounds_toArray, List.set_cons_zero, List.set_cons_succ]
                  refine wpAnyH_take (i := 4) (v := ?_) rfl (by kernel_rfl) (by kernel_rfl) (by kernel_rfl) (fun _ _ _ h => hQ.out _ _ _ _ _ h) (Or.inl ⟨by rfl, ?_⟩) (by assumption) ?_
                  rotate_left
                  · intro w hSw; (try dsimp only at hSw); go_simp; try with_reducible rfl
                  simp only [Act.put, List.getElem_toArray, List.getElem_cons_zero, List.getElem_cons_succ, List.setIfInBounds_toArray, List.set_cons_zero, List.set_cons_succ]
                  refine wpAnyH_ready (rs := [5]) (by kernel_rfl) (by simp) ?_
                  refine AllReadyH.cons rfl (fun K hK => ?_) AllReadyH.nil
                  go_simp
                  refine hK.out _ _ (by first | with_reducible exact hHeld | ((try dsimp only); go_keep)) (fun hHeld => ?_)
                  clear hK
                  try simp only [Act.put, List.getElem_toArray, List.getElem_cons_zero, List.getElem_cons_succ, List.setIfInBounds_toArray, List.set_cons_zero, List.set_cons_succ]
                rotate_left
                focus
                  go_simp
                  refine (l1Reads_any ⟨op, dst, ya, yb, imm⟩ wi.drew).mono ?_
                  rintro e w5 ⟨a5, c5, rfl, hb5', hi5⟩
                  have hb5 : Below wi.heap.size wi w5 := ⟨hb5'.os, hb5'.tape, hb5'.output, hb5'.size, hb5'.block⟩
                  have HB5 := hide hb5
                  have HI5 : Hid (IntsAt w5 wi.heap.size w5.heap.size a5 (rdI ⟨op, dst, ya, yb, imm⟩)) := hide hi5
                  have d3 := (hb5.cell (p := ⟨bx, 3, none⟩) hbi).trans s3
                  have p0 := (hb5.cell (p := ⟨wr.heap.size, 0, none⟩) hri).trans n0
                  have p1 := (hb5.cell (p := ⟨wr.heap.size, 1, none⟩) hri).trans n1
                  have p2 := (hb5.cell (p := ⟨wr.heap.size, 2, none⟩) hri).trans n2
                  have p3 := (hb5.cell (p := ⟨wr.heap.size, 3, none⟩) hri).trans n3
                  have p4 := (hb5.cell (p := ⟨wr.heap.size, 4, none⟩) hri).trans n4
                  obtain ⟨lr, hlr⟩ : ∃ m, m = (rdI ⟨op, dst, ya, yb, imm⟩).length := ⟨_, rfl⟩
                  rw [← hlr]
                  have HLR := hide hlr
                  clear hb5' hi5 hb5 hlr
                  refine hK.out _ _ ⟨p0, p1, p2, p3, p4⟩ (fun hHeld => ?_)
                  clear hK
                  try simp only [Act.put, List.getElem_toArray, List.getElem_cons_zero, List.getElem_cons_succ, List.setIfInBounds_toArray, List.set_cons_zero, List.set_cons_succ]
                  refine wpAnyH_take (i := 4) (v := ?_) rfl (by kernel_rfl) (by kernel_rfl) (by kernel_rfl) (fun _ _ _ h => hQ.out _ _ _ _ _ h) (Or.inl ⟨by rfl, ?_⟩) (by assumption) ?_
                  rotate_left
                  · intro w hSw; (try dsimp only at hSw); go_simp; try with_reducible rfl
                  simp only [Act.put, List.getElem_toArray, List.getElem_cons_zero, List.getElem_cons_succ, List.setIfInBounds_toArray, List.set_cons_zero, List.set_cons_succ]
                  refine wpAnyH_ready (rs := [1, 5]) (by kernel_rfl) (by simp) ?_
                  refine (AllReadyH.cons rfl (fun K hK => ?_) (AllReadyH.cons rfl (fun K hK => ?_) AllReadyH.nil))
                  focus
                    go_simp
                    refine hK.out _ _ (by first | with_reducible exact hHeld | ((try dsimp only); go_keep)) (fun hHeld => ?_)
                    clear hK
                    try simp only [Act.put, List.getElem_toArray, List.getElem_cons_zero, List.getElem_cons_succ, List.setIfInBounds_toArray, List.set_cons_zero, List.set_cons_succ]
                    refine wpAnyH_ready (rs := [5]) (by kernel_rfl) (by simp) ?_
                    refine AllReadyH.cons rfl (fun K hK => ?_) AllReadyH.nil
                    go_simp
                    refine hK.out _ _ (by first | with_reducible exact hHeld | ((try dsimp only); go_keep)) (fun hHeld => ?_)
                    clear hK
                    try simp only [Act.put, List.getElem_toArray, List.getElem_cons_zero, List.getElem_cons_succ, List.setIfInBounds_toArray, List.set_cons_zero, List.set_cons_succ]
                  rotate_left
                  go_simp
                  refine hK.out _ _ (by first | with_reducible exact hHeld | ((try dsimp only); go_keep)) (fun hHeld => ?_)
                  clear hK
                  try simp only [Act.put, List.getElem_toArray, List.getElem_cons_zero, List.getElem_cons_succ, List.setIfInBounds_toArray, List.set_cons_zero, List.set_cons_succ]
                  have d3' : (w5.alloc (.cells #[.slice a5 lr c5] 112)).cell? ⟨bx, 3, none⟩ = some ur := ((balloc (Below.refl w5.heap.size w5) _).cell (p := ⟨bx, 3, none⟩) (by have := HB5.out.size; show bx < _; omega)).trans d3
                  refine wpAnyH_ready (rs := [1]) (by kernel_rfl) (by simp) ?_
                  refine AllReadyH.cons rfl (fun K hK => ?_) AllReadyH.nil
                  go_simp
                  refine hK.out _ _ (by first | with_reducible exact hHeld | ((try dsimp only); go_keep)) (fun hHeld => ?_)
                  clear hK
                  try simp only [Act.put, List.getElem_toArray, List.getElem_cons_zero, List.getElem_cons_succ, List.setIfInBounds_toArray, List.set_cons_zero, List.set_cons_succ]
                all_goals (
                  refine wpAnyH_ready (rs := [6]) (by kernel_rfl) (by simp) ?_
                  refine AllReadyH.cons rfl (fun K hK => ?_) AllReadyH.nil
                  refine step_append_q rfl _ _ 79 rfl w2.heap.size 112 j0 (.agg #[.slice none 0 0]) 1 24 Tryd.underlying79 hj0 hy0 hy1 hy2 rfl (by decide) ur rs.length rs rfl ?s1 ⟨w5.heap.size, 0, none⟩ 1 1 [.slice a5 lr c5] rfl rfl ?s2 ?s3 ?s4 ?s5 ?s6 ?_
                  case s1 => exact (own_block HIi.out.ownR (fun g e => HB5.out.block g (HUR.out g e))).alloc _
                  case s2 => exact cell_one_new _ _ _
                  case s3 => intro v hv; simp at hv; subst hv; rfl
                  case s4 => have h1 := HIi.out.len; have h2 := HLR1.out; unfold maxLen; omega
                  case s5 => have h1 := HIi.out.len; have h2 := HLR1.out; omega
                  case s6 => have := HB5.out.size; simp; omega
                  intro u6 w6 hown6 hg6 _ hat6
                  obtain ⟨g6, c6, rfl, _, _⟩ := own_some' hown6 (by omega)
                  have HIA := hide (HIi.out.below (bnext HB5.out (balloc (Below.refl w5.heap.size w5) (.cells #[.slice a5 lr c5] 112))))
                  have HP := hide (HIA.out.pushR (c5 := c5) (ys := rdI ⟨op, dst, ya, yb, imm⟩) hbe (B0 := wi.heap.size) (by omega) HUR.out HUD.out ((HI5.out.keep (balloc (Below.refl w5.heap.size w5) _)).mono (Nat.le_refl _) (by simp)) hg6 (by rw [← HLR.out]; exact hown6) (by rw [World.size_alloc]; simpa using hat6))
                  have hnb6 : ∀ q', q' < w5.heap.size → some q' ≠ ur.ownBlock → w6.heap[q']? = w5.heap[q']? := fun q' h1 h2 => (hg6.block q' (by simp; omega) h2).trans (Below.heap_alloc _ _ _ h1)
                  have hz5 := HB5.out.size
                  have hfx := hnb6 bx (by omega) (fun e => by have := (HIi.out.ownR.lt bx e.symm).1; omega)
                  have hfi := hnb6 wr.heap.size (by omega) (fun e => by have := HUR0.out _ e.symm; omega)
                  have g3 := (cell_of hfx).trans d3
                  have gz : w6.frozen? ⟨bx, 3, none⟩ = false := by rw [World.frozen?_of_block (a := ⟨bx, 3, none⟩) hfx]; exact (HB5.out.frozen (p := ⟨bx, 3, none⟩) hbi).trans sz3
                  have t0 := (cell_of hfi).trans p0
                  have t1 := (cell_of hfi).trans p1
                  have t2 := (cell_of hfi).trans p2
                  have t3 := (cell_of hfi).trans p3
                  have t4 := (cell_of hfi).trans p4
                  clear hown6 hg6 hat6 hnb6 hfx hfi p0 p1 p2 p3 p4 d3 hHeld
                  (try clear d3')
                  refine hK.out _ _ ⟨t0, t1, t2, t3, t4⟩ (fun hHeld => ?_)
                  clear hK
                  try simp only [Act.put, List.getElem_toArray, List.getElem_cons_zero, List.getElem_cons_succ, List.setIfInBounds_toArray, List.set_cons_zero, List.set_cons_succ]
                  refine wpAnyH_take (i := 7) (v := ?_) rfl (by kernel_rfl) (by kernel_rfl) (by kernel_rfl) (fun _ _ _ h => hQ.out _ _ _ _ _ h) (Or.inl ⟨by rfl, ?_⟩) (by assumption) ?_
                  rotate_left
                  · intro w hSw; (try dsimp only at hSw); go_simp; try with_reducible rfl
                  simp only [Act.put, List.getElem_toArray, List.getElem_cons_zero, List.getElem_cons_succ, List.setIfInBounds_toArray, List.set_cons_zero, List.set_cons_succ]
                  refine wpAnyH_ready (rs := [8]) (by kernel_rfl) (by simp) ?_
                  refine AllReadyH.cons rfl (fun K hK => ?_) AllReadyH.nil
                  go_simp
                  have hs : ∀ (o' : Nat) (v : Value), w6.cell? ⟨wr.heap.size, o', none⟩ = some v → (w6.setCell ⟨bx, 3, none⟩ (.slice (some ⟨g6, 0, none⟩) (rs.length + 1) c6)).cell? ⟨wr.heap.size, o', none⟩ = some v := fun o' v h2 => (World.cell?_setCell_far w6 ⟨bx, 3, none⟩ ⟨wr.heap.size, o', none⟩ _ (by show bx ≠ wr.heap.size; omega)).trans h2
                  refine hK.out _ _ ⟨hs _ _ t0, hs _ _ t1, hs _ _ t2, hs _ _ t3, hs _ _ t4⟩ (fun hHeld => ?_)
                  have m0' := hs _ _ t0
                  have m1' := hs _ _ t1
                  clear hK hHeld hs t0 t1 t2 t3 t4 g3 gz
                  try simp only [Act.put, List.getElem_toArray, List.getElem_cons_zero, List.getElem_cons_succ, List.setIfInBounds_toArray, List.set_cons_zero, List.set_cons_succ]
                  refine wpAnyH_done (by kernel_rfl) ?_ _
                  generalize w6.setCell ⟨bx, 3, none⟩ (.slice (some ⟨g6, 0, none⟩) (rs.length + 1) c6) = w7 at *
                  go_wp2_with fail
                  refine (usedD op w7).mono ?_
                  rintro e w8 ⟨rfl, hw8⟩
                  rw [hw8]
                  clear hw8 w8
                  have k40 : w7.cell? ⟨bx, 4, none⟩ = some ud := by
                    have h := HP.out.box.cell (i := 4) (by decide)
                    rw [if_neg (by decide), if_pos rfl] at h
                    exact h
                  cases hdb : dB op
                  · have HDF : Hid (defI ⟨op, dst, ya, yb, imm⟩ = (-1)) := hide (by unfold defI; simp only [hdb]; simp)
                    clear hdb
                    go_wp2_with (at_builtin; refine wpList_append_own_at _ rfl _ _ 35 rfl w2.heap.size 2 m0 (.int .i64 0) 1 8 Tryd.underlying35 hm0 hm1 hm2 hm3 rfl (by decide) _ _ _ rfl (HP.out.ownD.alloc _) ⟨w7.heap.size, 0, none⟩ 1 1 [.int .i64 (-1)] rfl rfl ?c1 ?c2 ?c3 ?c4 ?c5 ?_)
                    case c1 =>
                      intro j' u' hj'
                      match j', hj' with
                      | 0, hj' => simp at hj'; subst hj'; simp [Addr.add]
                    case c2 => intro u' hu'; simp at hu'; subst hu'; rfl
                    case c3 => have := HLD1.out; unfold maxLen; omega
                    case c4 => have := HLD1.out; omega
                    case c5 => have := HP.out.size; simp; omega
                    intro u9 w9 hown9 hg9 _ hat9
                    obtain ⟨g9, c9, rfl, _, _⟩ := own_some' hown9 (by omega)
                    have HPA := hide (HP.out.below (balloc (Below.refl w7.heap.size w7) (.cells #[.int .i64 (-1)] 2)))
                    have hnb9 : w9.heap[bx]? = (w7.alloc (.cells #[.int .i64 (-1)] 2)).heap[bx]? := hg9.block bx (by have := HPA.out.box.lt; exact this) (fun e => by have := (HP.out.ownD.lt bx e.symm).1; omega)
                    have k4 : w9.cell? ⟨bx, 4, none⟩ = some ud := by
                      have h := HPA.out.box.cell (i := 4) (by decide)
                      rw [if_neg (by decide), if_pos rfl] at h
                      exact (cell_of hnb9).trans h
                    have kz : w9.frozen? ⟨bx, 4, none⟩ = false := by rw [World.frozen?_of_block (a := ⟨bx, 4, none⟩) hnb9]; exact HPA.out.box.frozen 4
                    have HP9 := hide (HPA.out.pushD (x := (-1)) hbe hg9 hown9 (by rw [World.size_alloc]; exact hat9))
                    clear hown9 hg9 hat9 hnb9 m0' m1' k40
                    go_wp2_with fail
                    refine ⟨?_, by simp [intOf]; omega⟩
                    first
                      | exact ⟨q + 1, _, _, _, by omega, by go_num, hide (by rw [HTR.out, HTD.out, HDF.out]; exact HP9.out)⟩
                      | ((repeat apply Exists.intro); refine ⟨?_, rfl⟩; exact ⟨q + 1, _, _, _, by omega, by go_num, hide (by rw [HTR.out, HTD.out, HDF.out]; exact HP9.out)⟩)
                  · have HDF : Hid (defI ⟨op, dst, ya, yb, imm⟩ = dst) := hide (by unfold defI; simp only [hdb]; simp)
                    clear hdb
                    go_wp2_with (at_builtin; refine wpList_append_own_at _ rfl _ _ 35 rfl w2.heap.size 2 m0 (.int .i64 0) 1 8 Tryd.underlying35 hm0 hm1 hm2 hm3 rfl (by decide) _ _ _ rfl (HP.out.ownD.alloc _) ⟨w7.heap.size, 0, none⟩ 1 1 [.int .i64 dst] rfl rfl ?c1 ?c2 ?c3 ?c4 ?c5 ?_)
                    case c1 =>
                      intro j' u' hj'
                      match j', hj' with
                      | 0, hj' => simp at hj'; subst hj'; simp [Addr.add]
                    case c2 => intro u' hu'; simp at hu'; subst hu'; rfl
                    case c3 => have := HLD1.out; unfold maxLen; omega
                    case c4 => have := HLD1.out; omega
                    case c5 => have := HP.out.size; simp; omega
                    intro u9 w9 hown9 hg9 _ hat9
                    obtain ⟨g9, c9, rfl, _, _⟩ := own_some' hown9 (by omega)
                    have HPA := hide (HP.out.below (balloc (Below.refl w7.heap.size w7) (.cells #[.int .i64 dst] 2)))
                    have hnb9 : w9.heap[bx]? = (w7.alloc (.cells #[.int .i64 dst] 2)).heap[bx]? := hg9.block bx (by have := HPA.out.box.lt; exact this) (fun e => by have := (HP.out.ownD.lt bx e.symm).1; omega)
                    have k4 : w9.cell? ⟨bx, 4, none⟩ = some ud := by
                      have h := HPA.out.box.cell (i := 4) (by decide)
                      rw [if_neg (by decide), if_pos rfl] at h
                      exact (cell_of hnb9).trans h
                    have kz : w9.frozen? ⟨bx, 4, none⟩ = false := by rw [World.frozen?_of_block (a := ⟨bx, 4, none⟩) hnb9]; exact HPA.out.box.frozen 4
                    have HP9 := hide (HPA.out.pushD (x := dst) hbe hg9 hown9 (by rw [World.size_alloc]; exact hat9))
                    clear hown9 hg9 hat9 hnb9 m0' m1' k40
                    go_wp2_with fail
                    refine ⟨?_, by simp [intOf]; omega⟩
                    first
                      | exact ⟨q + 1, _, _, _, by omega, by go_num, hide (by rw [HTR.out, HTD.out, HDF.out]; exact HP9.out)⟩
                      | ((repeat apply Exists.intro); refine ⟨?_, rfl⟩; exact ⟨q + 1, _, _, _, by omega, by go_num, hide (by rw [HTR.out, HTD.out, HDF.out]; exact HP9.out)⟩)
                  )
              · have HQE : Hid (q = X.instrs.length) := hide (by have := HNI.out; omega)
                have HI2 : Hid (InL w2 bx (fun i => if i = 2 then u else f0 i) wr ur ud rs (rdsM X) (dfsM X)) := hide (by
                  have h := HI.out
                  rw [List.take_of_length_le (by unfold rdsM; rw [List.length_map]; have := HQE.out; omega), List.take_of_length_le (by unfold dfsM; rw [List.length_map]; have := HQE.out; omega)] at h
                  exact h)
                obtain ⟨⟨aR, cR, eR, hR⟩, ⟨aD, cD, eD, hD⟩⟩ := HI2.out.fin
                obtain ⟨aP, cP, eP, hP⟩ := HA.out.e1
                obtain ⟨aE, cE, eE, hE⟩ := HA.out.e5
                obtain ⟨a2, c2, e2, hi2⟩ := ints_owned HE2.out.own
                have HBY : Hid (Below wo.heap.size wo Y) := hide HA.out.low
                have frW : ∀ q', q' < Y.heap.size → q' ≠ bx → wr.heap[q']? = Y.heap[q']? := fun q' h1 h2 => (HI2.out.fr q' (by have := HZE.out; omega) h2).trans (HE2.out.fr q' h1 h2)
                have HBR : Hid (Below wo.heap.size wo wr) := hide ⟨HI2.out.os.trans (HE2.out.os.trans HBY.out.os), HI2.out.tape.trans (HE2.out.tape.trans HBY.out.tape), HI2.out.output.trans (HE2.out.output.trans HBY.out.output), by have := HZE.out; omega, fun q' hq' => (frW q' (by omega) (by omega)).trans (HBY.out.block q' hq')⟩
                have HOW : Hid (wr.ownsRow (w.heap.size + 1) 81 6 u3 k cs) := hide (own_block HL.out.own (fun g e => HBR.out.block g (HL.out.own.lt g e).2))
                have HFA : Hid (FaAt wr (fun b => wo.heap.size ≤ b) (boxG (.slice aT nT cT) (.slice aP X.phis.length cP) (.slice a2 (edgesM xs k).length c2) (.slice aR (rdsM X).length cR) (.slice aD (dfsM X).length cD) (.slice aE (rdT X.term).length cE)) xs[k] (edgesM xs k)) := hide (by
                  rw [← HX.out]
                  have hzE' := HZE.out
                  refine ⟨⟨aT, cT, by rw [← HNT.out]; rfl, ?_⟩, ⟨aP, cP, by rw [List.length_map]; rfl, ?_⟩, ⟨a2, c2, rfl, ?_⟩, ⟨aR, cR, rfl, ?_⟩, ⟨aD, cD, rfl, ?_⟩, ⟨aE, cE, rfl, ?_⟩⟩
                  · exact (HIT.out.keep (w' := wr) (fun b' h1 h2 => frW b' h1 h2.2) (by omega)).mono (fun _ _ h => h.1)
                  · exact (hP.keep (w' := wr) (fun b' h1 h2 => frW b' h1 h2.2) (by omega)).mono (fun _ _ h => h.1)
                  · have h5 := IntsP.of_at hi2 (Nat.le_refl _) (P := fun b' => Y.heap.size ≤ b') (fun b' h1 _ => h1)
                    exact (h5.keep (w' := wr) (fun b' h1 h2 => HI2.out.fr b' h1 (by omega)) hzI).mono (fun b' _ h => by show wo.heap.size ≤ b'; have h' : Y.heap.size ≤ b' := h; omega)
                  · exact hR.mono (fun b' _ h => by show wo.heap.size ≤ b'; have h' : w2.heap.size ≤ b' := h; omega)
                  · exact hD.mono (fun b' _ h => by show wo.heap.size ≤ b'; have h' : w2.heap.size ≤ b' := h; omega)
                  · exact (hE.keep (w' := wr) (fun b' h1 h2 => frW b' h1 h2.2) (by omega)).mono (fun _ _ h => h.1))
                have bcell := fun (i : Nat) (h : i < 6) => HI2.out.box.cell h
                have x0 : wr.cell? ⟨bx, 0, none⟩ = some (.slice aT nT cT) := by
                  have h := bcell 0 (by decide)
                  simp only [Nat.reduceEqDiff, if_false] at h
                  rw [HET.out, ← HNT.out] at h
                  exact h
                have x1 : wr.cell? ⟨bx, 1, none⟩ = some (.slice aP X.phis.length cP) := by
                  have h := bcell 1 (by decide)
                  simp only [Nat.reduceEqDiff, if_false] at h
                  rw [eP] at h
                  exact h
                have x2 : wr.cell? ⟨bx, 2, none⟩ = some (.slice a2 (edgesM xs k).length c2) := by
                  have h := bcell 2 (by decide)
                  simp only [Nat.reduceEqDiff, if_false, if_true] at h
                  rw [e2] at h
                  exact h
                have x3 : wr.cell? ⟨bx, 3, none⟩ = some (.slice aR (rdsM X).length cR) := by
                  have h := bcell 3 (by decide)
                  simp only [Nat.reduceEqDiff, if_false, if_true] at h
                  rw [eR] at h
                  exact h
                have x4 : wr.cell? ⟨bx, 4, none⟩ = some (.slice aD (dfsM X).length cD) := by
                  have h := bcell 4 (by decide)
                  simp only [Nat.reduceEqDiff, if_false, if_true] at h
                  rw [eD] at h
                  exact h
                have x5 : wr.cell? ⟨bx, 5, none⟩ = some (.slice aE (rdT X.term).length cE) := by
                  have h := bcell 5 (by decide)
                  simp only [Nat.reduceEqDiff, if_false] at h
                  rw [eE] at h
                  exact h
                generalize X.phis.length = nP at *
                generalize (edgesM xs k).length = l2 at *
                generalize (rdsM X).length = lR at *
                generalize (dfsM X).length = lD at *
                generalize (rdT X.term).length = lE at *
                clear hR hD hP hE hi2 eR eD eP eE e2 bcell frW
                go_wp2_with (at_builtin; refine wpList_append_own_at _ rfl _ _ 77 rfl (w.heap.size + 1) 81 i0 (.agg #[.slice none 0 0, .slice none 0 0, .slice none 0 0, .slice none 0 0, .slice none 0 0, .slice none 0 0]) 6 144 Tryd.underlying77 hi0 hz0 hz1 hz2 rfl (by decide) _ _ _ rfl (HOW.out.alloc _) ⟨wr.heap.size, 0, none⟩ 1 1 [.slice aT nT cT, .slice aP nP cP, .slice a2 l2 c2, .slice aR lR cR, .slice aD lD cD, .slice aE lE cE] rfl rfl ?c1 ?c2 ?c3 ?c4 ?c5 ?_)
                case c1 =>
                  intro j' u' hj'
                  rw [addr_add, World.cell?_alloc_new]
                  simpa using hj'
                case c2 =>
                  intro u' hu'
                  simp at hu'
                  rcases hu' with rfl | rfl | rfl | rfl | rfl | rfl <;> rfl
                case c3 => unfold maxLen; omega
                case c4 => omega
                case c5 => have := HBR.out.size; simp; omega
                intro u9 w9 hown9 hg9 _ hat9
                have HLS := hide (HL.out.next (f := boxG (.slice aT nT cT) (.slice aP nP cP) (.slice a2 l2 c2) (.slice aR lR cR) (.slice aD lD cD) (.slice aE lE cE)) hkx (bnext HBR.out (balloc (Below.refl wr.heap.size wr) _)) (HFA.out.keep (fun b' h1 _ => Below.heap_alloc _ _ _ h1) (by simp)) hg9 hown9 (by rw [World.size_alloc]; exact hat9))
                clear hown9 hg9 hat9 x0 x1 x2 x3 x4 x5
                go_wp2_with fail
                refine hN.out _ _ ?_
                refine ⟨?_, by simp [intOf]; omega⟩
                first
                  | exact ⟨k + 1, _, by omega, by go_num, HLS⟩
                  | ((repeat apply Exists.intro); refine ⟨?_, rfl⟩; exact ⟨k + 1, _, by omega, by go_num, HLS⟩)
)
      clear HKc
      exact lsReg V n c b o k L B pa ia pc ic X w wr _ _ _ _ _ _ _ _ _ _ _ _ _ _ _ _ _ _ _ _ _ _ _ _ _ _ _ _ _ _ _ _ _ _ _ _ _ _ _ _ _ _ _ _ _ _ _ _ _ _ _ _ _ _ _ _ _ _ _ _ _ _ _ _ _ _ _ _ _ _ _ _ _ _ _ _ _ _ _ _ _ _ _ _ _ _ _ _ _ _ _ _ _ _ _ (hide (fun c a t v w h => hQ.out c a t v w h)) hB hwz hlt hf1 e0 e1 e2 e3 e4 e5 HPHS HLN KEY
    · go_wp2_with fail
      go_ret
      have hke : k = xs.length := by have := hx.out; omega
      have h := HL.out
      rw [hke] at h
      obtain ⟨a', c', rfl, hF⟩ := h.fin
      exact ⟨a', c', by rw [hx.out]; rfl, HL.out.low, hF⟩
end Go.Proofs.YtanaeindldcapaaDoor
