import Derived.Test.YtanaeindldcapaaDoorW9
import Derived.Test.YtanaeindldcapaaDoorW3
namespace Go.Proofs.YtanaeindldcapaaDoor
open Go.RowKit
/-- A row of counters: how often each value stands in D. -/
def Cnt (w : World) (G m : Nat) (D : List Int) : Prop := ∃ f, w.rowIs G 2 m f ∧ ∀ i, i < m → f i = .int .i64 (countEq D i : Nat)
theorem Cnt.below {w w' : World} {G m : Nat} {D : List Int} (h : Cnt w G m D) (k : Below w.heap.size w w') : Cnt w' G m D := by
  obtain ⟨f, h1, h2⟩ := h
  exact ⟨f, h1.of_block (k.block _ h1.lt), h2⟩
theorem Cnt.lt {w : World} {G m : Nat} {D : List Int} (h : Cnt w G m D) : G < w.heap.size := by
  obtain ⟨f, h1, _⟩ := h
  exact h1.lt
theorem Cnt.cell {w : World} {G m : Nat} {D : List Int} (h : Cnt w G m D) {t : Nat} (ht : t < m) : w.cell? ⟨G, t, none⟩ = some (.int .i64 (countEq D t : Nat)) ∧ w.frozen? ⟨G, t, none⟩ = false := by
  obtain ⟨f, h1, h2⟩ := h
  exact ⟨by rw [h1.cell ht, h2 t ht], h1.frozen t⟩
theorem countEq_snoc (D : List Int) (x v : Int) : countEq (D ++ [x]) v = countEq D v + if x = v then 1 else 0 := by
  simp only [countEq, List.filter_append, List.length_append]
  by_cases h : x = v <;> simp [h]
theorem countEq_le (D : List Int) (v : Int) : countEq D v ≤ D.length := List.length_filter_le _ _
theorem Cnt.step {w : World} {G m : Nat} {D : List Int} (h : Cnt w G m D) {t : Nat} {x : Int} (hx : x = ((countEq D t : Nat) : Int) + 1) : Cnt (w.setCell ⟨G, t, none⟩ (.int .i64 x)) G m (D ++ [(t : Int)]) := by
  obtain ⟨f, h1, h2⟩ := h
  refine ⟨_, h1.set t _, fun i hi => ?_⟩
  rw [countEq_snoc]
  by_cases e : i = t
  · subst e
    simp [hx]
  · have e2 : ¬ (t : Int) = (i : Int) := by omega
    simp only [e, if_false, e2, Nat.add_zero]
    exact h2 i hi
theorem Cnt.born (w : World) (m : Nat) : Cnt (w.alloc (.cells (madeCells #[.int .i64 0] m) 2)) w.heap.size m [] := ⟨_, World.rowIs_made _ _ _ _, fun i _ => by simp [countEq]⟩
def DstOk (xs : List Blk) (m : Nat) : Prop := ∀ x ∈ xs, (∀ p ∈ x.phis, 0 ≤ p.dst ∧ p.dst < (m : Int)) ∧ ∀ y ∈ x.instrs, 1 ≤ y.op ∧ y.op ≤ 10 ∧ (dB y.op = true → 0 ≤ y.dst ∧ y.dst < (m : Int))
set_option maxHeartbeats 4000000 in
theorem definedOnce_any (m : Nat) (a : Option Addr) (n c : Nat) (xs : List Blk) (L B : Nat) (w : World) (ha : Hid (BlksAt w L B a xs)) (hx : Hid (n = xs.length)) (hn : n ≤ 1048576) (hm : m ≤ 2000) (hs : Hid (blksTot xs ≤ 1048576)) (hB : B ≤ w.heap.size) (hT : Hid (OpTab w)) (hd : Hid (DstOk xs m)) :
    Calls Tryd.prog 35 #[.agg #[.int .i64 m, .slice a n c]] w fun e w' => e = .returned (.bool (onceOk ⟨m, xs⟩)) ∧ Below w.heap.size w w' := by
  have hmk := run_make_row' (P := Tryd.prog) 35 2 (.int .i64 0) 8 Tryd.underlying35 Tryd.info2 rfl .i64 .i64 m (by omega) (by omega)
  go_enter Tryd.func35, Tryd.ntmps35
  go_wp2
  go_loopw [18] (fun i wr => ∃ k : Nat, k ≤ n ∧ i = .int .i64 k ∧ Below w.heap.size w wr ∧ Hid (Cnt wr (w.heap.size + 1) m (blksDefs (xs.take k)))) (fun i _ => n - (intOf i).toNat)
  case atStart => exact ⟨0, Nat.zero_le _, rfl, balloc (balloc (Below.refl _ _) _) _, by have := Cnt.born (w.alloc (.cells #[.int .i64 m, .slice a n c] 29)) m; rw [World.size_alloc] at this; exact this⟩
  case round =>
    obtain ⟨k, hk, rfl, hw, hct⟩ := hrel
    by_cases hlt : k < n
    · have hkx : k < xs.length := by have := hx.out; omega
      obtain ⟨b, o, rfl, ⟨_, hbB⟩, hc⟩ := ha.out k hkx
      have HC := hide hc
      have hnx : Hid (blksDefs (xs.take (k + 1)) = blksDefs (xs.take k) ++ (phDefs xs[k].phis ++ insDefs xs[k].instrs)) := by
        show _ = _
        rw [take_next _ _ hkx, blksDefs_snoc]; rfl
      have hbd : (blksDefs (xs.take k)).length + (xs[k].phis.length + phTot xs[k].phis + xs[k].instrs.length) ≤ 1048576 := by
        have h1 := blksTot_take xs (k + 1)
        rw [take_next _ _ hkx, blksTot_snoc] at h1
        have h2 := blksDefs_len (xs.take k)
        have h3 := hs.out
        have h4 : blkTot xs[k] = xs[k].phis.length + phTot xs[k].phis + xs[k].instrs.length := rfl
        omega
      have hpl : xs[k].phis.length ≤ 1048576 := by omega
      have hil : xs[k].instrs.length ≤ 1048576 := by omega
      obtain ⟨hd1, hd2⟩ := hd.out _ (List.getElem_mem hkx)
      have HD1 := hide hd1
      have HD2 := hide hd2
      obtain ⟨pa, pc, ia, ic, e0, e1, ⟨e2, e3, e4, e5⟩, hp, hi⟩ := hc.keep (hw.mono hB) (by omega)
      have HP := hide hp
      have HI := hide hi
      have hct2 := hide (hct.out.below (balloc (Below.refl wr.heap.size wr) (.cells #[.slice pa xs[k].phis.length pc, .slice ia xs[k].instrs.length ic, .int .i64 xs[k].term.kind, .int .i64 xs[k].term.a, .int .i64 xs[k].term.to, .int .i64 xs[k].term.els] 66)))
      have hGz := hct.out.lt
      clear hc HC hd1 hd2 hp hi hct
      generalize hX : xs[k] = X at *
      clear hX
      generalize blksDefs (xs.take k) = D at *
      have hwz := hw.size
      go_wp2
      generalize hM : wr.heap.size = M at *
      have HM := hide hM
      clear hM e0 e1 e2 e3 e4 e5
      go_loopw [25] (fun i wi => ∃ j : Nat, j ≤ X.phis.length ∧ i = .int .i64 j ∧ Below w.heap.size w wi ∧ M < wi.heap.size ∧ wi.cell? ⟨M, 1, none⟩ = some (.slice ia X.instrs.length ic) ∧ Hid (Cnt wi (w.heap.size + 1) m (D ++ phDefs (X.phis.take j))) ∧ Hid (PhsAt wi L B pa X.phis) ∧ Hid (InssAt wi L B ia X.instrs)) (fun i _ => X.phis.length - (intOf i).toNat)
      case atStart =>
        have hMM := unhide HM
        subst hMM
        exact ⟨0, Nat.zero_le _, rfl, balloc hw _, by simp, by simp, by show Cnt _ _ _ _; simpa [phDefs] using hct2.out, HP.out.keep (balloc (Below.refl wr.heap.size wr) _ |>.mono (by omega)), HI.out.keep (balloc (Below.refl wr.heap.size wr) _ |>.mono (by omega))⟩
      case round =>
        clear hct2 HP HI hw HM
        obtain ⟨j, hj, rfl, hwi, hszi, hci, hcti, hpi, hii⟩ := hrel
        have hwiz := hwi.size
        by_cases hjt : j < X.phis.length
        · obtain ⟨b', o', rfl, ⟨_, hbB'⟩, aa, cc, g0, g1, _⟩ := hpi.out j hjt
          have h3 : Hid (D ++ phDefs (X.phis.take (j + 1)) = (D ++ phDefs (X.phis.take j)) ++ [X.phis[j].dst]) := by show _ = _; rw [take_next _ _ hjt, phDefs_snoc, List.append_assoc]
          have hl : (D ++ phDefs (X.phis.take j)).length ≤ 1048576 := by simp [phDefs]; omega
          obtain ⟨q0, q1⟩ := HD1.out _ (List.getElem_mem hjt)
          generalize X.phis[j] = P at *
          generalize D ++ phDefs (X.phis.take j) = D1 at *
          obtain ⟨d, ar⟩ := P
          dsimp only at q0 q1 g0 g1 h3
          obtain ⟨t, rfl⟩ := Int.eq_ofNat_of_zero_le q0
          have htm : t < m := by omega
          have hc2 := hcti.out.below (balloc (Below.refl wr.heap.size wr) (.cells #[.int .i64 t, .slice aa ar.length cc] 72))
          obtain ⟨k0, k1⟩ := hc2.cell htm
          have hcb := countEq_le D1 t
          have HC2 := hide hc2
          clear hc2
          generalize hQ : countEq D1 t = Q at *
          have HQ := hide hQ
          clear hQ
          go_wp2
          refine ⟨⟨j + 1, by omega, by go_num, (balloc hwi _).setCell (by dsimp only; omega) _, by rw [size_setCell]; simp; omega, ?_, ?_, ?_, ?_⟩, by simp [intOf]; omega⟩
          · rw [World.cell?_setCell_other _ _ _ _ (by intro e; cases e; omega)]
            exact ((balloc (Below.refl wr.heap.size wr) _).cell (p := ⟨M, 1, none⟩) hszi).trans hci
          · rw [h3.out]
            exact HC2.out.step (by rw [HQ.out])
          · exact hpi.out.keepS ((Same.of_below (balloc (Below.refl wr.heap.size wr) _ |>.mono (by omega))).setCell (Or.inr (by dsimp only; omega)) _)
          · exact hii.out.keepS ((Same.of_below (balloc (Below.refl wr.heap.size wr) _ |>.mono (by omega))).setCell (Or.inr (by dsimp only; omega)) _)
        · have hE := hide (List.take_of_length_le (l := X.phis) (i := j) (by omega))
          go_wp2
          go_loopw [40] (fun i wi => ∃ j : Nat, j ≤ X.instrs.length ∧ i = .int .i64 j ∧ Below w.heap.size w wi ∧ M < wi.heap.size ∧ Hid (Cnt wi (w.heap.size + 1) m (D ++ phDefs X.phis ++ insDefs (X.instrs.take j))) ∧ Hid (InssAt wi L B ia X.instrs)) (fun i _ => X.instrs.length - (intOf i).toNat)
          case atStart => exact ⟨0, Nat.zero_le _, rfl, hwi, hszi, by have := hcti.out; rw [hE.out] at this; show Cnt _ _ _ _; simpa [insDefs] using this, hii.out⟩
          case round =>
            clear hwi hszi hci hcti hpi hii hE hwiz
            obtain ⟨j, hj, rfl, hwi, hszi, hcti, hii⟩ := hrel
            have hwiz := hwi.size
            by_cases hjt : j < X.instrs.length
            · obtain ⟨b', o', rfl, ⟨_, hbB'⟩, g0, g1, g2, g3, g4⟩ := hii.out j hjt
              have h3 : Hid (D ++ phDefs X.phis ++ insDefs (X.instrs.take (j + 1)) = (D ++ phDefs X.phis ++ insDefs (X.instrs.take j)) ++ (if dB X.instrs[j].op then [X.instrs[j].dst] else [])) := by show _ = _; rw [take_next _ _ hjt, insDefs_snoc, ← List.append_assoc]
              have hl : (D ++ phDefs X.phis ++ insDefs (X.instrs.take j)).length ≤ 1048576 := by have := insDefs_len (X.instrs.take j); simp [phDefs] at this ⊢; omega
              obtain ⟨q0, q1, q2⟩ := HD2.out _ (List.getElem_mem hjt)
              generalize X.instrs[j] = P at *
              generalize D ++ phDefs X.phis ++ insDefs (X.instrs.take j) = D1 at *
              obtain ⟨op, d, pA, pB, pI⟩ := P
              dsimp only at q0 q1 q2 g0 g1 g2 g3 g4 h3
              obtain ⟨p, rfl⟩ := Int.eq_ofNat_of_zero_le (show 0 ≤ op by omega)
              have hT2 := hT.out.keep (balloc hwi (.cells #[.int .i64 p, .int .i64 d, .int .i64 pA, .int .i64 pB, .int .i64 pI] 69))
              obtain ⟨s, _, c1, _, _, _⟩ := hT2.2 p (by omega) (by omega)
              have hT0 : 0 < wr.heap.size := by omega
              have hc2 := hcti.out.below (balloc (Below.refl wr.heap.size wr) (.cells #[.int .i64 p, .int .i64 d, .int .i64 pA, .int .i64 pB, .int .i64 pI] 69))
              clear hT2
              cases hdb : dB p
              · rw [hdb] at c1
                have HDB := hide hdb
                have HC2 := hide hc2
                clear hdb hc2 q2
                go_wp2
                refine ⟨⟨j + 1, by omega, by go_num, balloc hwi _, by simp; omega, ?_, ?_⟩, by simp [intOf]; omega⟩
                · rw [h3.out, HDB.out]
                  show Cnt _ _ _ _
                  simpa using HC2.out
                · exact hii.out.keepS (Same.of_below (balloc (Below.refl wr.heap.size wr) _ |>.mono (by omega)))
              · obtain ⟨q3, q4⟩ := q2 hdb
                rw [hdb] at c1
                have HDB := hide hdb
                obtain ⟨t, rfl⟩ := Int.eq_ofNat_of_zero_le q3
                have htm : t < m := by omega
                obtain ⟨k0, k1⟩ := hc2.cell htm
                have hcb := countEq_le D1 t
                have HC2 := hide hc2
                clear hdb hc2 q2
                generalize hQ : countEq D1 t = Q at *
                have HQ := hide hQ
                clear hQ
                go_wp2
                refine ⟨⟨j + 1, by omega, by go_num, (balloc hwi _).setCell (by dsimp only; omega) _, by rw [size_setCell]; simp; omega, ?_, ?_⟩, by simp [intOf]; omega⟩
                · rw [h3.out, HDB.out, if_pos rfl]
                  exact HC2.out.step (by rw [HQ.out])
                · exact hii.out.keepS ((Same.of_below (balloc (Below.refl wr.heap.size wr) _ |>.mono (by omega))).setCell (Or.inr (by dsimp only; omega)) _)
            · have hE := hide (List.take_of_length_le (l := X.instrs) (i := j) (by omega))
              go_wp2
              exact ⟨⟨k + 1, by omega, by go_num, hwi, by have := hcti.out; rw [hE.out] at this; rw [hnx.out, ← List.append_assoc]; exact this⟩, by simp [intOf]; omega⟩
    · have hE := hide (List.take_of_length_le (l := xs) (i := k) (by have := hx.out; omega))
      have hct2 := hct.out
      rw [hE.out] at hct2
      have HCT := hide hct2
      clear hct2 hct
      go_wp2
      go_loop [60] (fun i => ∃ j : Nat, j ≤ m ∧ i = .int .i64 j ∧ Hid (∀ q, q < j → countEq (blksDefs xs) (q : Nat) = 1)) (fun i => m - (intOf i).toNat)
      case atStart => exact ⟨0, Nat.zero_le _, rfl, fun q hq => absurd hq (by omega)⟩
      case round =>
        obtain ⟨j, hj, rfl, hall⟩ := hrel
        by_cases hjt : j < m
        · obtain ⟨k0, k1⟩ := HCT.out.cell hjt
          generalize hQ : countEq (blksDefs xs) (j : Nat) = Q at *
          have HQ := hide hQ
          clear hQ k1
          by_cases h1 : Q = 1
          · subst h1
            go_wp2
            go_round
            case rel => exact ⟨j + 1, by omega, by go_num, fun q hq => if e : q = j then by subst e; exact HQ.out else hall.out q (by omega)⟩
            case measure => simp [intOf]; omega
          · have h2 : ((Q : Int) != 1) = true := by rw [bne_iff_ne]; omega
            have H1 := hide h1
            clear h1
            go_wp2
            go_ret
            exact ⟨ret_bool (by
              symm
              unfold onceOk
              rw [List.all_eq_false]
              exact ⟨j, by simpa using hjt, by simp only [HQ.out, beq_iff_eq]; exact H1.out⟩), hw⟩
        · go_wp2
          go_ret
          exact ⟨ret_bool (by
            symm
            unfold onceOk
            rw [List.all_eq_true]
            intro q hq
            rw [beq_iff_eq]
            exact hall.out q (by simp at hq; omega)), hw⟩
end Go.Proofs.YtanaeindldcapaaDoor
