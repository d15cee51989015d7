import Derived.Test.YtanaeindldcapaaDoorW5b
namespace Go.Proofs.YtanaeindldcapaaDoor
open Go.RowKit
section
attribute [local go_sem ↓] Go.wp_at_zero Go.wp_at_succ
set_option maxRecDepth 100000 in
set_option maxHeartbeats 8000000 in
theorem validFuncS_yes (m : Nat) (a : Option Addr) (n c : Nat) (xs : List Blk) (L B : Nat) (w : World) (R : Bool) (ha : Hid (BlksAt w L B a xs)) (hx : Hid (n = xs.length)) (hs : Hid (xs.length + blksTot xs ≤ 1048576)) (hB : B ≤ w.heap.size)
    (d1 : (m : Int) ≤ 2000) (d2 : 1 ≤ n) (d3 : n ≤ 1000) (hsz : blksSize xs ≤ 4000) (hR : Hid (R = (xs.all (blkOkS m n) && phisOkS ⟨m, xs⟩ && coverOk ⟨m, xs⟩))) :
    Calls Tryd.prog 10 #[.agg #[.int .i64 m, .slice a n c]] w fun e w' => e = .returned (.bool R) ∧ Below w.heap.size w w' := by
  have hbs : Hid (blksSize xs ≤ 1048576) := by show _ ≤ _; omega
  have hlen := hide (len_of_tot hs.out)
  go_enter Tryd.func10, Tryd.ntmps10
  go_wp2_with fail
  refine (l1Size_any m a n c xs L B _ ?q1 hx (by omega) hbs.out ?q2).mono ?_
  case q1 => exact ha.out.keep (balloc (Below.refl _ _) _ |>.mono hB)
  case q2 => simp; omega
  rintro e w1 ⟨rfl, hb1⟩
  obtain ⟨hc1, hf1⟩ := bcell hb1
  have k0 : w1.cell? ⟨w.heap.size, 0, none⟩ = some (.int .i64 m) := by rw [hc1 _ _ (by simp)]; simp
  have k1 : w1.cell? ⟨w.heap.size, 1, none⟩ = some (.slice a n c) := by rw [hc1 _ _ (by simp)]; simp
  have B1 := bnext (balloc (Below.refl w.heap.size w) _) hb1
  have hz1 := hb1.size
  simp at hz1
  have HB1 := hide B1
  have HA := hide (ha.out.keep (B1.mono hB))
  clear hc1 hf1 hb1 B1 ha
  go_wp2
  go_loopw [4] (fun i wr => ∃ k : Nat, k ≤ n ∧ i = .int .i64 k ∧ Below w1.heap.size w1 wr ∧ Hid ((xs.take k).all (blkOkS m n) = true)) (fun i _ => n - (intOf i).toNat)
  case atStart => exact ⟨0, Nat.zero_le _, rfl, Below.refl _ _, rfl⟩
  case round =>
    obtain ⟨k, hk, rfl, hw, hall⟩ := hrel
    by_cases hlt : k < n
    · have hkx : k < xs.length := by have := hx.out; omega
      obtain ⟨b, o, rfl, ⟨_, hbB⟩, hc⟩ := HA.out k hkx
      obtain ⟨pa', pc', ia, ic, d0, f1, ⟨f2, f3, f4, f5⟩, _, hi⟩ := hc
      have e0 := (hw.cell (p := ⟨b, o + k * 6, none⟩) (by show b < _; omega)).trans d0
      have e1 := (hw.cell (p := ⟨b, o + k * 6 + 1, none⟩) (by show b < _; omega)).trans f1
      have e2 := (hw.cell (p := ⟨b, o + k * 6 + 2, none⟩) (by show b < _; omega)).trans f2
      have e3 := (hw.cell (p := ⟨b, o + k * 6 + 2 + 1, none⟩) (by show b < _; omega)).trans f3
      have e4 := (hw.cell (p := ⟨b, o + k * 6 + 2 + 2, none⟩) (by show b < _; omega)).trans f4
      have e5 := (hw.cell (p := ⟨b, o + k * 6 + 2 + 3, none⟩) (by show b < _; omega)).trans f5
      have k0' := (hw.cell (p := ⟨w.heap.size, 0, none⟩) (by show w.heap.size < _; omega)).trans k0
      have k1' := (hw.cell (p := ⟨w.heap.size, 1, none⟩) (by show w.heap.size < _; omega)).trans k1
      have hil := (hlen.out _ (List.getElem_mem hkx)).2.1
      have hno := hide (fun h => all_no (p := blkOkS m n) (xs := xs) (k := k) hkx h)
      have hyes := hide (fun h => all_take_next (p := blkOkS m n) hkx hall.out h)
      have HI := hide hi
      have hwz := hw.size
      clear hi d0 f1 f2 f3 f4 f5
      generalize xs[k] = X at *
      have hBK : Hid (blkOkS m n X = (X.instrs.all (insOk m 10) && (terOk m 1 n ⟨X.term.kind, X.term.a, X.term.to, X.term.els⟩ && !(X.term.kind == 2 && X.term.to == X.term.els)))) := rfl
      go_wp2
      have hb2 := balloc hw (.cells #[.slice pa' X.phis.length pc', .slice ia X.instrs.length ic, .int .i64 X.term.kind, .int .i64 X.term.a, .int .i64 X.term.to, .int .i64 X.term.els] 66)
      have hL9 : (fun x9 : World => x9.cell? ⟨wr.heap.size, 1, none⟩ = some (.slice ia X.instrs.length ic) ∧ x9.cell? ⟨wr.heap.size, 2, none⟩ = some (.int .i64 X.term.kind) ∧ x9.cell? ⟨wr.heap.size, 3, none⟩ = some (.int .i64 X.term.a) ∧ x9.cell? ⟨wr.heap.size, 4, none⟩ = some (.int .i64 X.term.to) ∧ x9.cell? ⟨wr.heap.size, 5, none⟩ = some (.int .i64 X.term.els) ∧ wr.heap.size < x9.heap.size) (wr.alloc (.cells #[.slice pa' X.phis.length pc', .slice ia X.instrs.length ic, .int .i64 X.term.kind, .int .i64 X.term.a, .int .i64 X.term.to, .int .i64 X.term.els] 66)) := ⟨(by simp), (by simp), (by simp), (by simp), (by simp), (by simp)⟩
      generalize wr.alloc (.cells #[.slice pa' X.phis.length pc', .slice ia X.instrs.length ic, .int .i64 X.term.kind, .int .i64 X.term.a, .int .i64 X.term.to, .int .i64 X.term.els] 66) = W2 at *
      obtain ⟨m1, m2, m3, m4, m5, hz2⟩ := hL9
      have HW2 := hide hb2
      have hz3 := hb2.size
      generalize wr.heap.size = M at *
      clear hb2 e0 e1 e2 e3 e4 e5 k0' k1' hw
      go_loopw [6] (fun i wi => ∃ j : Nat, j ≤ X.instrs.length ∧ i = .int .i64 j ∧ Below W2.heap.size W2 wi ∧ Hid ((X.instrs.take j).all (insOk m 10) = true)) (fun i _ => X.instrs.length - (intOf i).toNat)
      case atStart => exact ⟨0, Nat.zero_le _, rfl, Below.refl _ _, rfl⟩
      case round =>
        obtain ⟨j, hj, rfl, hwi, halli⟩ := hrel
        have hbi := bnext HW2.out hwi
        have r0 := (hbi.cell (p := ⟨w.heap.size, 0, none⟩) (by show w.heap.size < _; omega)).trans k0
        have n1 := (hwi.cell (p := ⟨M, 1, none⟩) (by show M < _; omega)).trans m1
        have hwiz := hwi.size
        by_cases hjt : j < X.instrs.length
        · obtain ⟨b', o', rfl, ⟨_, hbB'⟩, hc'⟩ := HI.out j hjt
          obtain ⟨g0, g1, g2, g3, g4⟩ := hc'.keep hbi (by omega)
          have hno2 := hide (fun h => all_no (p := insOk m 10) (xs := X.instrs) (k := j) hjt h)
          have hyes2 := hide (fun h => all_take_next (p := insOk m 10) hjt halli.out h)
          have hj0 : (0 : Int) ≤ (j : Int) := by omega
          have hj1 : (j : Int) < (X.instrs.length : Int) := by omega
          clear hc' m1 m2 m3 m4 m5 k0 k1
          generalize X.instrs[j] = P at *
          cases hr : insOk m 10 ⟨P.op, P.dst, P.a, P.b, P.imm⟩
          · have HRR := hide hr
            go_wp2
            go_region_with (go_at_call 22; refine (goodInstr_any _ _ _ _ _ _ _ _).mono ?_; rintro e w2 ⟨rfl, hb2⟩; rw [unhide HRR])
            all_goals
              go_wp2
              go_ret
              exact ⟨ret_bool (by rw [hR.out, unhide hno (by rw [hBK.out, unhide hno2 HRR.out]; rfl)]; rfl), bnext HB1.out (bnext hbi.drew hb2)⟩
          · have HRR := hide hr
            go_wp2
            go_region_with (go_at_call 22; refine (goodInstr_any _ _ _ _ _ _ _ _).mono ?_; rintro e w2 ⟨rfl, hb2⟩; rw [unhide HRR])
            all_goals
              go_wp2
              exact ⟨⟨j + 1, by omega, by go_num, bnext hwi.drew hb2, unhide hyes2 HRR.out⟩, by simp [intOf]; omega⟩
        · have hIA := hide (all_whole (p := insOk m 10) (xs := X.instrs) (k := j) (by omega) halli.out)
          have n2 := (hwi.cell (p := ⟨M, 2, none⟩) (by show M < _; omega)).trans m2
          have n3 := (hwi.cell (p := ⟨M, 3, none⟩) (by show M < _; omega)).trans m3
          have n4 := (hwi.cell (p := ⟨M, 4, none⟩) (by show M < _; omega)).trans m4
          have n5 := (hwi.cell (p := ⟨M, 5, none⟩) (by show M < _; omega)).trans m5
          clear m1 m2 m3 m4 m5 k0 k1
          cases hr : terOk m 1 n ⟨X.term.kind, X.term.a, X.term.to, X.term.els⟩
          · have HRR := hide hr
            clear hr
            go_wp2_with (go_at_call 23; refine (goodTerm_any _ _ _ _ _ _ _ _).mono ?_; rintro e w2 ⟨rfl, hb2⟩; rw [unhide HRR])
            go_ret
            exact ⟨ret_bool (by rw [hR.out, unhide hno (by rw [hBK.out, HRR.out]; simp)]; rfl), bnext HB1.out (bnext hbi hb2)⟩
          · have HRR := hide hr
            clear hr
            by_cases hq : X.term.kind = 2 ∧ X.term.to = X.term.els
            · have q1 : (X.term.kind == 2) = true := by simp [hq.1]
              have q2 : (X.term.to == X.term.els) = true := by simp [hq.2]
              clear hq
              go_wp2_with (go_at_call 23; refine (goodTerm_any _ _ _ _ _ _ _ _).mono ?_; rintro e w2 ⟨rfl, hb2⟩; rw [unhide HRR]; have p2 := (hb2.cell (p := ⟨M, 2, none⟩) (by show M < _; omega)).trans n2; have p4 := (hb2.cell (p := ⟨M, 4, none⟩) (by show M < _; omega)).trans n4; have p5 := (hb2.cell (p := ⟨M, 5, none⟩) (by show M < _; omega)).trans n5)
              go_ret
              exact ⟨ret_bool (by rw [hR.out, unhide hno (by rw [hBK.out, q1, q2]; simp)]; rfl), bnext HB1.out (bnext hbi hb2)⟩
            · have hq' : (X.term.kind == 2) = false ∨ ((X.term.kind == 2) = true ∧ (X.term.to == X.term.els) = false) := by simp only [beq_eq_false_iff_ne, beq_iff_eq]; omega
              clear hq
              rcases hq' with q1 | ⟨q1, q2⟩
              all_goals
                go_wp2_with (go_at_call 23; refine (goodTerm_any _ _ _ _ _ _ _ _).mono ?_; rintro e w2 ⟨rfl, hb2⟩; rw [unhide HRR]; have p2 := (hb2.cell (p := ⟨M, 2, none⟩) (by show M < _; omega)).trans n2; have p4 := (hb2.cell (p := ⟨M, 4, none⟩) (by show M < _; omega)).trans n4; have p5 := (hb2.cell (p := ⟨M, 5, none⟩) (by show M < _; omega)).trans n5)
                exact ⟨⟨k + 1, by omega, by go_num, bnext hbi hb2, unhide hyes (by rw [hBK.out, HRR.out, hIA.out]; first | (rw [q1]; rfl) | (rw [q1, q2]; rfl))⟩, by simp [intOf]; omega⟩
    · have hBL := hide (all_whole (p := blkOkS m n) (xs := xs) (k := k) (by have := hx.out; omega) hall.out)
      clear hall
      go_wp2
      go_loopw [7] (fun i wr => ∃ k : Nat, k ≤ n ∧ i = .int .i64 k ∧ Below w1.heap.size w1 wr ∧ Hid (∀ j (h : j < xs.length), j < k → xs[j].phis.all (phOkS m (predsFrom xs 0 (j : Int)).length) = true)) (fun i _ => n - (intOf i).toNat)
      case atStart => exact ⟨0, Nat.zero_le _, rfl, hw, fun j _ h => absurd h (by omega)⟩
      case round =>
        clear hw hlt hk
        obtain ⟨k, hk, rfl, hw, hall⟩ := hrel
        have k0' := (hw.cell (p := ⟨w.heap.size, 0, none⟩) (by show w.heap.size < _; omega)).trans k0
        have k1' := (hw.cell (p := ⟨w.heap.size, 1, none⟩) (by show w.heap.size < _; omega)).trans k1
        have hwz := hw.size
        by_cases hlt : k < n
        · have hkx : k < xs.length := by have := hx.out; omega
          obtain ⟨b, o, rfl, ⟨_, hbB⟩, hc⟩ := HA.out k hkx
          obtain ⟨pa', pc', ia, ic, d0, _, _, hp, _⟩ := hc
          obtain ⟨hl1, _, hl2⟩ := hlen.out _ (List.getElem_mem hkx)
          have HL2 := hide hl2
          have hno : Hid (xs[k].phis.all (phOkS m (predsFrom xs 0 (k : Int)).length) = false → phisOkS ⟨m, xs⟩ = false) := fun h => phisFrom_no phOkS ⟨m, xs⟩ (k := k) hkx h
          have hyes : Hid (xs[k].phis.all (phOkS m (predsFrom xs 0 (k : Int)).length) = true → ∀ j (h : j < xs.length), j < k + 1 → xs[j].phis.all (phOkS m (predsFrom xs 0 (j : Int)).length) = true) :=
            fun h j hj hjk => if e : j = k then by subst e; exact h else hall.out j hj (by omega)
          have HP := hide hp
          have D0 := hide d0
          have hAw := hide (HA.out.keep (hw.mono (by omega)))
          have hnl : (predsFrom xs 0 (k : Int)).length ≤ 1048576 := by have := predsFrom_len (k : Int) xs 0; have := hx.out; omega
          clear hp d0 hl2
          go_wp2_with fail
          refine (l1Preds_any m _ n c k xs L B _ hAw hx (by omega) (by omega)).mono ?_
          rintro e w2 ⟨a2, c2, rfl, hb2, hi2⟩
          have hbw := bnext hw hb2
          have hbz := hbw.size
          clear hi2 hb2 hw k0' k1' hAw
          generalize xs[k] = X at *
          generalize predsFrom xs 0 (k : Int) = ps at *
          go_wp2
          go_loopw [9] (fun i wi => ∃ j : Nat, j ≤ X.phis.length ∧ i = .int .i64 j ∧ Below w1.heap.size w1 wi ∧ Hid ((X.phis.take j).all (phOkS m ps.length) = true)) (fun i _ => X.phis.length - (intOf i).toNat)
          case atStart => exact ⟨0, Nat.zero_le _, rfl, hbw, rfl⟩
          case round =>
            clear hbw hbz
            obtain ⟨j, hj, rfl, hwi, halli⟩ := hrel
            have x0 := (hwi.cell (p := ⟨w.heap.size, 0, none⟩) (by show w.heap.size < _; omega)).trans k0
            have x1 := (hwi.cell (p := ⟨w.heap.size, 1, none⟩) (by show w.heap.size < _; omega)).trans k1
            have x2 := (hwi.cell (p := ⟨b, o + k * 6, none⟩) (by show b < _; omega)).trans D0.out
            have hwiz := hwi.size
            by_cases hjt : j < X.phis.length
            · obtain ⟨b', o', rfl, ⟨_, hbB'⟩, aa, cc, g0, g1, hi⟩ := HP.out j hjt
              have e6 := (hwi.cell (p := ⟨b', o' + j * 2, none⟩) (by show b' < _; omega)).trans g0
              have e7 := (hwi.cell (p := ⟨b', o' + j * 2 + 1, none⟩) (by show b' < _; omega)).trans g1
              have hal := HL2.out _ (List.getElem_mem hjt)
              have hno2 := hide (fun h => unhide hno (all_no (p := phOkS m ps.length) (xs := X.phis) (k := j) hjt h))
              have hyes2 := hide (fun h => all_take_next (p := phOkS m ps.length) hjt halli.out h)
              have HIA := hide hi
              have hw1z : w.heap.size < wr.heap.size := by omega
              clear g0 g1 hi
              generalize X.phis[j] = P at *
              have hPS : Hid (phOkS m ps.length P = (decide (1 ≤ P.args.length) && decide (P.args.length = ps.length) && P.args.all (inB 0 m))) := rfl
              by_cases h0 : P.args.length = 0
              · have h0' : (P.args.length : Int) < 1 := by omega
                have H0 := hide h0
                clear h0
                go_wp2
                go_ret
                exact ⟨ret_bool (by rw [hR.out, unhide hno2 (by rw [hPS.out, H0.out]; rfl)]; simp), bnext HB1.out (balloc hwi _)⟩
              · have h0' : (1 : Int) ≤ (P.args.length : Int) := by omega
                have H0 := hide h0
                clear h0
                by_cases h1 : P.args.length = ps.length
                · have h1' : ((P.args.length : Int) != (ps.length : Int)) = false := by simp [h1]
                  have H1 := hide h1
                  clear h1
                  go_wp2
                  have hb9 := balloc hwi (.cells #[.int .i64 P.dst, .slice aa P.args.length cc] 72)
                  have hL9 : (fun x9 : World => x9.cell? ⟨wr.heap.size, 1, none⟩ = some (.slice aa P.args.length cc) ∧ wr.heap.size < x9.heap.size) (wr.alloc (.cells #[.int .i64 P.dst, .slice aa P.args.length cc] 72)) := ⟨(by simp), (by simp)⟩
                  generalize wr.alloc (.cells #[.int .i64 P.dst, .slice aa P.args.length cc] 72) = w9 at *
                  obtain ⟨z1, z2⟩ := hL9
                  generalize wr.heap.size = M at *
                  have hz9 := hb9.size
                  have HB9 := hide hb9
                  clear x0 x1 x2 e6 e7 h0' h1' hb9
                  go_loopw [11] (fun i wi => ∃ q : Nat, q ≤ P.args.length ∧ i = .int .i64 q ∧ Below w9.heap.size w9 wi ∧ Hid ((P.args.take q).all (inB 0 m) = true)) (fun i _ => P.args.length - (intOf i).toNat)
                  case atStart => exact ⟨0, Nat.zero_le _, rfl, Below.refl _ _, rfl⟩
                  case round =>
                    obtain ⟨q, hq, rfl, hwq, hallq⟩ := hrel
                    have y1 := (hwq.cell (p := ⟨M, 1, none⟩) (by show M < _; omega)).trans z1
                    have hbq := bnext HB9.out hwq
                    have y0 := (hbq.cell (p := ⟨w.heap.size, 0, none⟩) (by show w.heap.size < _; omega)).trans k0
                    by_cases hqt : q < P.args.length
                    · obtain ⟨b2, o2, rfl, ⟨_, hb2⟩, hc2⟩ := HIA.out q hqt
                      have r1 := (hbq.cell (p := ⟨b2, o2 + q, none⟩) (by show b2 < _; omega)).trans hc2
                      have hno3 := hide (fun h => all_no (p := inB 0 m) (xs := P.args) (k := q) hqt h)
                      have hyes3 := hide (fun h => all_take_next (p := inB 0 m) hqt hallq.out h)
                      have hq0 : (0 : Int) ≤ (q : Int) := by omega
                      have hq1 : (q : Int) < (P.args.length : Int) := by omega
                      clear hc2 z1 k0 k1
                      generalize P.args[q] = A at *
                      by_cases hA0 : A < 0
                      · have hA1 : decide (A < 0) = true := by simpa using hA0
                        go_wp2
                        go_quiet (fail)
                        go_wp2
                        go_ret
                        exact ⟨ret_bool (by rw [hR.out, unhide hno2 (by rw [hPS.out, unhide hno3 (by unfold inB; rw [decide_eq_false (p := 0 ≤ A) (by omega)]; rfl)]; simp)]; simp), bnext HB1.out (below_drewN hbq _)⟩
                      · have hA1 : decide (A < 0) = false := by simpa using hA0
                        have hA2 : 0 ≤ A := by omega
                        clear hA0
                        by_cases hA3 : (m : Int) ≤ A
                        · go_wp2
                          go_quiet (fail)
                          go_wp2
                          go_ret
                          exact ⟨ret_bool (by rw [hR.out, unhide hno2 (by rw [hPS.out, unhide hno3 (by unfold inB; rw [decide_eq_false (p := A < m) (by omega)]; simp)]; simp)]; simp), bnext HB1.out (below_drewN hbq _)⟩
                        · have hA4 : A < (m : Int) := by omega
                          clear hA3
                          go_wp2
                          go_quiet (fail)
                          go_wp2
                          exact ⟨⟨q + 1, by omega, by go_num, below_drewN hwq _, unhide hyes3 (by unfold inB; rw [decide_eq_true hA2, decide_eq_true hA4]; rfl)⟩, by simp [intOf]; omega⟩
                    · go_wp2
                      exact ⟨⟨j + 1, by omega, by go_num, hbq, unhide hyes2 (by
                        have h1 := H1.out
                        have h0 := H0.out
                        rw [hPS.out, decide_eq_true h1, decide_eq_true (p := 1 ≤ P.args.length) (by omega), all_whole (xs := P.args) (k := q) (by omega) hallq.out]; rfl)⟩, by simp [intOf]; omega⟩
                · have h1' : ((P.args.length : Int) != (ps.length : Int)) = true := by rw [bne_iff_ne]; omega
                  have H1 := hide h1
                  clear h1
                  go_wp2
                  go_ret
                  exact ⟨ret_bool (by rw [hR.out, unhide hno2 (by rw [hPS.out, decide_eq_false H1.out]; simp)]; simp), bnext HB1.out (balloc hwi _)⟩
            · go_wp2
              exact ⟨⟨k + 1, by omega, by go_num, hwi, unhide hyes (all_whole (xs := X.phis) (k := j) (by omega) halli.out)⟩, by simp [intOf]; omega⟩
        · have hPH : Hid (phisOkS ⟨m, xs⟩ = true) := (phisFrom_iff phOkS ⟨m, xs⟩ xs 0).2 (fun j hj => by rw [Nat.zero_add]; exact hall.out j hj (by have := hx.out; omega))
          have hAw := hide (HA.out.keep (hw.mono (by omega)))
          have hCV : Hid (coverOk ⟨m, xs⟩ = (decide (((blksDefs xs).length : Int) = m) && (List.range m).all fun v => hasI (blksDefs xs) (v : Int))) := rfl
          have hdl : (blksDefs xs).length ≤ 1048576 := by have := blksDefs_len xs; have := hs.out; omega
          clear hall
          go_wp2_with fail
          refine (l1Defs_any m _ n c xs L B _ hAw hx (by omega) (show blksTot xs ≤ 1048576 by have := hs.out; omega) (by omega)).mono ?_
          rintro e w2 ⟨a2, c2, rfl, hb2, hi2⟩
          have hbw := bnext hw hb2
          have y0 := (hbw.cell (p := ⟨w.heap.size, 0, none⟩) (by show w.heap.size < _; omega)).trans k0
          have HI2 := hide hi2
          have HBW := hide hbw
          clear hi2 hb2 hw k0' k1' hAw hbw k0 k1
          generalize blksDefs xs = D at *
          by_cases hD : (D.length : Int) = m
          · have hD' : ((D.length : Int) != (m : Int)) = false := by simp [hD]
            have HD := hide hD
            clear hD
            go_wp2
            clear hD'
            go_loop [13] (fun i => ∃ q : Nat, q ≤ m ∧ i = .int .i64 q ∧ Hid (∀ p : Nat, p < q → hasI D (p : Int) = true)) (fun i => m - (intOf i).toNat)
            case atStart => exact ⟨0, Nat.zero_le _, rfl, fun p h => absurd h (by omega)⟩
            case round =>
              obtain ⟨q, hq, rfl, hallq⟩ := hrel
              by_cases hqt : q < m
              · cases hr : hasI D (q : Int)
                · have HRR := hide hr
                  go_wp2_with (go_at_call 26; refine (l1Has_any _ _ _ _ D _ _ _ HI2 rfl hdl).mono ?_; rintro e w3 ⟨rfl, hw3⟩; rw [hw3]; clear hw3 w3)
                  go_ret
                  exact ⟨ret_bool (by
                    have hf : ((List.range m).all fun v => hasI D (v : Int)) = false := by
                      rw [List.all_eq_false]; exact ⟨q, by simpa using hqt, by simp [HRR.out]⟩
                    rw [hR.out, hCV.out, hf]; simp), bnext HB1.out HBW.out⟩
                · have HRR := hide hr
                  go_wp2_with (go_at_call 26; refine (l1Has_any _ _ _ _ D _ _ _ HI2 rfl hdl).mono ?_; rintro e w3 ⟨rfl, hw3⟩; rw [hw3]; clear hw3 w3)
                  go_round
                  case rel => exact ⟨q + 1, by omega, by go_num, fun p hp => if e : p = q then by subst e; exact HRR.out else hallq.out p (by omega)⟩
                  case measure => simp [intOf]; omega
              · go_wp2
                go_ret
                exact ⟨ret_bool (by
                  have hf : ((List.range m).all fun v => hasI D (v : Int)) = true := by
                    rw [List.all_eq_true]; intro p hp; exact hallq.out p (by simp at hp; omega)
                  rw [hR.out, hCV.out, hf, hBL.out, hPH.out, decide_eq_true HD.out]; rfl), bnext HB1.out HBW.out⟩
          · have hD' : ((D.length : Int) != (m : Int)) = true := by rw [bne_iff_ne]; exact hD
            have HD := hide hD
            clear hD
            go_wp2
            go_ret
            exact ⟨ret_bool (by rw [hR.out, hCV.out, decide_eq_false HD.out]; simp), bnext HB1.out HBW.out⟩
theorem validFuncS_any (v : Int) (a : Option Addr) (n c : Nat) (xs : List Blk) (L B : Nat) (w : World) (ha : Hid (BlksAt w L B a xs)) (hx : Hid (n = xs.length)) (hs : Hid (xs.length + blksTot xs ≤ 1048576)) (hB : B ≤ w.heap.size) :
    Calls Tryd.prog 10 #[.agg #[.int .i64 v, .slice a n c]] w fun e w' => e = .returned (.bool (validS ⟨v, xs⟩)) ∧ Below w.heap.size w w' := by
  have hV : validS ⟨v, xs⟩ = (sizeOk ⟨v, xs⟩ && xs.all (blkOkS v xs.length) && phisOkS ⟨v, xs⟩ && coverOk ⟨v, xs⟩) := by
    unfold validS
    rw [blksOkS]
  have hn := hx.out
  have hbs : blksSize xs ≤ 1048576 := by rw [blksSize_tot]; exact hs.out
  have hs2 := hs.out
  by_cases hd : 0 ≤ v ∧ v ≤ 2000 ∧ 1 ≤ n ∧ n ≤ 1000 ∧ blksSize xs ≤ 4000
  · obtain ⟨d0, d1, d2, d3, d4⟩ := hd
    have hS : sizeOk ⟨v, xs⟩ = true := sizeOk_yes d0 d1 (by show 1 ≤ xs.length; omega) (by show xs.length ≤ 1000; omega) d4
    obtain ⟨m, rfl⟩ := Int.eq_ofNat_of_zero_le d0
    rw [hV, hS]
    exact validFuncS_yes m a n c xs L B w _ ha hx hs hB d1 d2 d3 d4 (by show _ = _; rw [← hn]; rfl)
  · have hS : sizeOk ⟨v, xs⟩ = false := by
      by_cases hb : blksSize xs ≤ 4000
      · exact sizeOk_head (F := ⟨v, xs⟩) (by show ¬ (0 ≤ v ∧ v ≤ 2000 ∧ 1 ≤ xs.length ∧ xs.length ≤ 1000); omega)
      · exact sizeOk_big (F := ⟨v, xs⟩) (by show 4000 < blksSize xs; omega)
    rw [hV, hS]
    exact validFuncS_no v a n c xs L B w ha hx (by omega) hbs hB hd
end
end Go.Proofs.YtanaeindldcapaaDoor
