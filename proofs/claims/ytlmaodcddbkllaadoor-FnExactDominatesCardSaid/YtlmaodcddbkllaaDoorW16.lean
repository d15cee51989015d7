import Derived.Test.YtlmaodcddbkllaaDoorW14b
import Derived.Deep.QuietTactic
import Derived.BigQuiet
namespace Go.Proofs.YtlmaodcddbkllaaDoor
open Go.RowKit

theorem phisFrom_iff (ok : Int → Nat → Ph → Bool) (F : Fn) : ∀ (xs : List Blk) (i0 : Nat), phisFrom ok F xs i0 = true ↔ ∀ j (h : j < xs.length), xs[j].phis.all (ok F.values (F.preds ((i0 + j : Nat) : Int)).length) = true
  | [], _ => by simp [phisFrom]
  | x :: xs, i0 => by
    simp only [phisFrom, Bool.and_eq_true, phisFrom_iff ok F xs (i0 + 1)]
    constructor
    · rintro ⟨h1, h2⟩ j hj
      cases j with
      | zero => exact h1
      | succ j =>
        have := h2 j (by simpa using hj)
        have e : i0 + 1 + j = i0 + (j + 1) := by omega
        rw [e] at this
        exact this
    · intro h
      refine ⟨h 0 (by simp), fun j hj => ?_⟩
      have := h (j + 1) (by simpa using hj)
      have e : i0 + 1 + j = i0 + (j + 1) := by omega
      rw [e]
      exact this
theorem phisFrom_no (ok : Int → Nat → Ph → Bool) (F : Fn) {k : Nat} (hk : k < F.blocks.length) (h : F.blocks[k].phis.all (ok F.values (F.preds (k : Int)).length) = false) : phisFrom ok F F.blocks 0 = false := by
  rw [Bool.eq_false_iff]
  intro hc
  have := (phisFrom_iff ok F F.blocks 0).1 hc k hk
  rw [Nat.zero_add, h] at this
  cases this

set_option maxHeartbeats 4000000 in
theorem validPhis_any (v : Int) (a : Option Addr) (n c : Nat) (xs : List Blk) (L B : Nat) (w : World) (ha : Hid (BlksAt w L B a xs)) (hx : Hid (n = xs.length)) (hn : n ≤ 1048576) (hl : Hid (∀ x ∈ xs, x.phis.length ≤ 1048576 ∧ ∀ p ∈ x.phis, p.args.length ≤ 1048576)) (hB : B ≤ w.heap.size) (hg : Hid (TgtOk xs n)) :
    Calls Tryd.prog 80 #[.agg #[.int .i64 v, .slice a n c]] w fun e w' => e = .returned (.bool (phisOkI ⟨v, xs⟩)) ∧ Below w.heap.size w w' := by
  go_enter Tryd.func80, Tryd.ntmps80
  go_wp2_with fail
  refine (predecessors_any v a n c xs L B _ ?q1 hx hn ?q2 hg).mono ?_
  case q1 => exact ha.out.keep (balloc (Below.refl _ _) _ |>.mono hB)
  case q2 => simp; omega
  rintro e w1 ⟨pa, pc, rfl, hb1, hp1⟩
  have hB1 := bnext (balloc (Below.refl w.heap.size w) _) hb1
  have hz1 := hb1.size
  simp at hz1
  obtain ⟨hc1, hf1⟩ := bcell hb1
  have k0 : w1.cell? ⟨w.heap.size, 0, none⟩ = some (.int .i64 v) := by rw [hc1 _ _ (by simp)]; simp
  have k1 : w1.cell? ⟨w.heap.size, 1, none⟩ = some (.slice a n c) := by rw [hc1 _ _ (by simp)]; simp
  have HA := hide (ha.out.keep (hB1.mono hB))
  have HPR := hide hp1
  have HB1 := hide hB1
  clear hc1 hf1 hp1 hb1 ha hB1
  go_wp2
  go_loopw [15] (fun i wr => ∃ k : Nat, k ≤ n ∧ i = .int .i64 k ∧ Below w1.heap.size w1 wr ∧ Hid (∀ j (h : j < xs.length), j < k → xs[j].phis.all (phOkI v (predsFrom xs 0 (j : Int)).length) = true)) (fun i _ => n - (intOf i).toNat)
  case atStart => exact ⟨0, Nat.zero_le _, rfl, Below.refl _ _, fun j _ h => absurd h (by omega)⟩
  case round =>
    obtain ⟨k, hk, rfl, hw, hall⟩ := hrel
    by_cases hlt : k < n
    · have hkx : k < xs.length := by have := hx.out; omega
      obtain ⟨b, o, rfl, ⟨_, hbB⟩, hc⟩ := HA.out k hkx
      obtain ⟨pa', pc', ia, ic, d0, d1, ⟨d2, d3, d4, d5⟩, hp, _⟩ := hc
      have e0 := (hw.cell (p := ⟨b, o + k * 6, none⟩) (by show b < _; omega)).trans d0
      have e1 := (hw.cell (p := ⟨b, o + k * 6 + 1, none⟩) (by show b < _; omega)).trans d1
      have e2 := (hw.cell (p := ⟨b, o + k * 6 + 2, none⟩) (by show b < _; omega)).trans d2
      have e3 := (hw.cell (p := ⟨b, o + k * 6 + 2 + 1, none⟩) (by show b < _; omega)).trans d3
      have e4 := (hw.cell (p := ⟨b, o + k * 6 + 2 + 2, none⟩) (by show b < _; omega)).trans d4
      have e5 := (hw.cell (p := ⟨b, o + k * 6 + 2 + 3, none⟩) (by show b < _; omega)).trans d5
      obtain ⟨hl1, hl2⟩ := hl.out _ (List.getElem_mem hkx)
      have HL2 := hide hl2
      have hno : Hid (xs[k].phis.all (phOkI v (predsFrom xs 0 (k : Int)).length) = false → phisOkI ⟨v, xs⟩ = false) := fun h => phisFrom_no phOkI ⟨v, xs⟩ (k := k) hkx h
      have hlen : k < ((List.range n).map fun i : Nat => predsFrom xs 0 (i : Int)).length := by simpa using hlt
      obtain ⟨gb, go, rfl, ⟨_, hgB⟩, a', c', f0, hii⟩ := HPR.out k hlen
      simp only [List.getElem_map, List.getElem_range] at f0
      have HP := hide hp
      have hnl : (predsFrom xs 0 (k : Int)).length ≤ 1048576 := by have := predsFrom_len (k : Int) xs 0; have := hx.out; omega
      have HF0 := hide f0
      have hwz := hw.size
      have hyes : Hid (xs[k].phis.all (phOkI v (predsFrom xs 0 (k : Int)).length) = true → ∀ j (h : j < xs.length), j < k + 1 → xs[j].phis.all (phOkI v (predsFrom xs 0 (j : Int)).length) = true) :=
        fun h j hj hjk => if e : j = k then by subst e; exact h else hall.out j hj (by omega)
      clear hp hl2 f0 hii hlen d0 d1 d2 d3 d4 d5
      generalize xs[k] = X at *
      generalize predsFrom xs 0 (k : Int) = ps at *
      go_wp2
      generalize hM : wr.heap.size = M at *
      have HM := hide hM
      clear hM
      go_loopw [23] (fun i wi => ∃ j : Nat, j ≤ X.phis.length ∧ i = .int .i64 j ∧ Below w1.heap.size w1 wi ∧ Hid ((X.phis.take j).all (phOkI v ps.length) = true)) (fun i _ => X.phis.length - (intOf i).toNat)
      case atStart => exact ⟨0, Nat.zero_le _, rfl, balloc hw _, rfl⟩
      case round =>
        obtain ⟨j, hj, rfl, hwi, halli⟩ := hrel
        have f0 := (hwi.cell (p := ⟨gb, go + k, none⟩) (by show gb < _; omega)).trans HF0.out
        have k0' := (hwi.cell (p := ⟨w.heap.size, 0, none⟩) (by show w.heap.size < _; omega)).trans k0
        by_cases hjt : j < X.phis.length
        · obtain ⟨b', o', rfl, ⟨_, hbB'⟩, aa, cc, g0, g1, hi⟩ := HP.out j hjt
          have e6 := (hwi.cell (p := ⟨b', o' + j * 2, none⟩) (by show b' < _; omega)).trans g0
          have e7 := (hwi.cell (p := ⟨b', o' + j * 2 + 1, none⟩) (by show b' < _; omega)).trans g1
          have hal := HL2.out _ (List.getElem_mem hjt)
          have hno2 := hide (fun h => unhide hno (all_no (p := phOkI v ps.length) (xs := X.phis) (k := j) hjt h))
          have hyes2 := hide (fun h => all_take_next (p := phOkI v ps.length) hjt halli.out h)
          have HIA := hide hi
          clear g0 g1 hi
          generalize X.phis[j] = P at *
          have hq1 : w.heap.size < wr.heap.size := by have := hwi.size; omega
          have hq2 : gb < wr.heap.size := by have := hwi.size; omega
          have hPS : Hid (phOkI v ps.length P = (fld true P.dst 0 v && (decide (1 ≤ P.args.length) && decide (P.args.length = ps.length) && P.args.all (inB 0 v)))) := rfl
          cases hf : fld true P.dst 0 v
          · have HF := hide hf
            go_wp2
            go_quiet ((go_at_call 127; exact Calls.quiet_of_same (validField_any _ _ _ _ _)))
            go_wp2
            go_ret
            exact ⟨ret_bool (unhide hno2 (by rw [hPS.out, HF.out]; rfl)).symm, bnext HB1.out (below_drewN (balloc hwi _) _)⟩
          · have HF := hide hf
            by_cases h0 : P.args.length = 0
            · have h0' : ((P.args.length : Int) == 0) = true := by simp [h0]
              have H0 := hide h0
              clear h0
              go_wp2
              go_quiet ((go_at_call 127; exact Calls.quiet_of_same (validField_any _ _ _ _ _)))
              go_wp2
              go_ret
              exact ⟨ret_bool (unhide hno2 (by rw [hPS.out, HF.out, H0.out]; rfl)).symm, bnext HB1.out (below_drewN (balloc hwi _) _)⟩
            · have h0' : ((P.args.length : Int) == 0) = false := by rw [beq_eq_false_iff_ne]; omega
              have H0 := hide h0
              clear h0
              by_cases h1 : P.args.length = ps.length
              · have h1' : ((P.args.length : Int) != (ps.length : Int)) = false := by simp [h1]
                have H1 := hide h1
                clear h1
                go_wp2
                go_quiet ((go_at_call 127; exact Calls.quiet_of_same (validField_any _ _ _ _ _)))
                go_wp2
                have hb9 := below_drewN (balloc hwi (.cells #[.int .i64 P.dst, .slice aa P.args.length cc] 42)) nq
                generalize (wr.alloc (.cells #[.int .i64 P.dst, .slice aa P.args.length cc] 42)).drewN nq = w9 at *
                have r0 := (hb9.cell (p := ⟨w.heap.size, 0, none⟩) (by show w.heap.size < _; omega)).trans k0
                clear hf h0' h1' f0 k0' e6 e7
                go_loop [53] (fun i => ∃ q : Nat, q ≤ P.args.length ∧ i = .int .i64 q ∧ Hid ((P.args.take q).all (inB 0 v) = true)) (fun i => P.args.length - (intOf i).toNat)
                case atStart => exact ⟨0, Nat.zero_le _, rfl, rfl⟩
                case round =>
                  obtain ⟨q, hq, rfl, hallq⟩ := hrel
                  by_cases hqt : q < P.args.length
                  · obtain ⟨b2, o2, rfl, ⟨_, hb2⟩, hc2⟩ := HIA.out q hqt
                    have r1 := (hb9.cell (p := ⟨b2, o2 + q, none⟩) (by show b2 < _; omega)).trans hc2
                    have hno3 := hide (fun h => all_no (p := inB 0 v) (xs := P.args) (k := q) hqt h)
                    have hyes3 := hide (fun h => all_take_next (p := inB 0 v) hqt hallq.out h)
                    clear hc2
                    generalize P.args[q] = A at *
                    have hfA : Hid (fld true A 0 v = inB 0 v A) := rfl
                    cases hr : fld true A 0 v
                    · have HR := hide hr
                      go_wp2_with (go_at_call 127; refine (validField_any _ _ _ _ _).mono ?_; rintro e w2 ⟨rfl, hw2⟩; rw [hw2]; clear hw2 w2)
                      go_ret
                      exact ⟨ret_bool (unhide hno2 (by rw [hPS.out, unhide hno3 (by rw [← hfA.out]; exact HR.out)]; simp)).symm, bnext HB1.out hb9⟩
                    · have HR := hide hr
                      go_wp2_with (go_at_call 127; refine (validField_any _ _ _ _ _).mono ?_; rintro e w2 ⟨rfl, hw2⟩; rw [hw2]; clear hw2 w2)
                      go_round
                      case rel => exact ⟨q + 1, by omega, by go_num, unhide hyes3 (by rw [← hfA.out]; exact HR.out)⟩
                      case measure => simp [intOf]; omega
                  · go_wp2
                    exact ⟨⟨j + 1, by omega, by go_num, hb9, unhide hyes2 (by
                      have h1 := H1.out
                      have h0 := H0.out
                      rw [hPS.out, HF.out, decide_eq_true h1, decide_eq_true (p := 1 ≤ P.args.length) (by omega), all_whole (xs := P.args) (k := q) (by omega) hallq.out]; rfl)⟩, by simp [intOf]; omega⟩
              · have h1' : ((P.args.length : Int) != (ps.length : Int)) = true := by rw [bne_iff_ne]; omega
                have H1 := hide h1
                clear h1
                go_wp2
                go_quiet ((go_at_call 127; exact Calls.quiet_of_same (validField_any _ _ _ _ _)))
                go_wp2
                go_ret
                exact ⟨ret_bool (unhide hno2 (by rw [hPS.out, HF.out, decide_eq_false H1.out]; simp)).symm, bnext HB1.out (below_drewN (balloc hwi _) _)⟩
        · go_wp2
          exact ⟨⟨k + 1, by omega, by go_num, hwi, unhide hyes (all_whole (xs := X.phis) (k := j) (by omega) halli.out)⟩, by simp [intOf]; omega⟩
    · go_wp2
      go_ret
      exact ⟨ret_bool (by
        symm
        exact (phisFrom_iff phOkI ⟨v, xs⟩ xs 0).2 (fun j hj => by rw [Nat.zero_add]; exact hall.out j hj (by have := hx.out; omega))), bnext HB1.out hw⟩
end Go.Proofs.YtlmaodcddbkllaaDoor
