import Derived.Test.YtdcdgopblbmgoaaDoorW14b
import Derived.Deep.QuietTactic
import Derived.BigQuiet
import Derived.Test.YtdcdgopblbmgoaaDoorW8
import Derived.Test.YtdcdgopblbmgoaaDoorW12
import Derived.Test.YtdcdgopblbmgoaaDoorW9
namespace Go.Proofs.YtdcdgopblbmgoaaDoor
open Go.RowKit

theorem phisFrom_iff (ok : Int → Nat → Ph → Bool) (F : Fn) : ∀ (xs : List Blk) (i0 : Nat), phisFrom ok F xs i0 = true ↔ ∀ j (h : j < xs.length), xs[j].phis.all (ok F.values (F.preds ((i0 + j : Nat) : Int)).length) = true
  | [], _ => by simp [phisFrom]
  | x :: xs, i0 => by
    simp only [phisFrom, Bool.and_eq_true, phisFrom_iff ok F xs (i0 + 1)]
    constructor
    · rintro ⟨h1, h2⟩ j hj
      cases j with
      | zero => exact h1
      | succ j =>
        have := h2 j (by simpa using hj)
        have e : i0 + 1 + j = i0 + (j + 1) := by omega
        rw [e] at this
        exact this
    · intro h
      refine ⟨h 0 (by simp), fun j hj => ?_⟩
      have := h (j + 1) (by simpa using hj)
      have e : i0 + 1 + j = i0 + (j + 1) := by omega
      rw [e]
      exact this
theorem phisFrom_no (ok : Int → Nat → Ph → Bool) (F : Fn) {k : Nat} (hk : k < F.blocks.length) (h : F.blocks[k].phis.all (ok F.values (F.preds (k : Int)).length) = false) : phisFrom ok F F.blocks 0 = false := by
  rw [Bool.eq_false_iff]
  intro hc
  have := (phisFrom_iff ok F F.blocks 0).1 hc k hk
  rw [Nat.zero_add, h] at this
  cases this

set_option maxHeartbeats 4000000 in
theorem validPhis_any (v : Int) (a : Option Addr) (n c : Nat) (xs : List Blk) (L B : Nat) (w : World) (ha : Hid (BlksAt w L B a xs)) (hx : Hid (n = xs.length)) (hn : n ≤ 1048576) (hl : Hid (∀ x ∈ xs, x.phis.length ≤ 1048576 ∧ ∀ p ∈ x.phis, p.args.length ≤ 1048576)) (hB : B ≤ w.heap.size) (hg : Hid (TgtOk xs n)) :
    Calls Tryd.prog 59 #[.agg #[.int .i64 v, .slice a n c]] w fun e w' => e = .returned (.bool (phisOkI ⟨v, xs⟩)) ∧ Below w.heap.size w w' := by
  go_enter Tryd.func59, Tryd.ntmps59
  go_wp2_with fail
  refine (predecessors_any v a n c xs L B _ ?q1 hx hn ?q2 hg).mono ?_
  case q1 => exact ha.out.keep (balloc (Below.refl _ _) _ |>.mono hB)
  case q2 => simp; omega
  rintro e w1 ⟨pa, pc, rfl, hb1, hp1⟩
  have hB1 := bnext (balloc (Below.refl w.heap.size w) _) hb1
  have hz1 := hb1.size
  simp at hz1
  obtain ⟨hc1, hf1⟩ := bcell hb1
  have k0 : w1.cell? ⟨w.heap.size, 0, none⟩ = some (.int .i64 v) := by rw [hc1 _ _ (by simp)]; simp
  have k1 : w1.cell? ⟨w.heap.size, 1, none⟩ = some (.slice a n c) := by rw [hc1 _ _ (by simp)]; simp
  have HA := hide (ha.out.keep (hB1.mono hB))
  have HPR := hide hp1
  have HB1 := hide hB1
  clear hc1 hf1 hp1 hb1 ha hB1
  go_wp2
  go_loopw [15] (fun i wr => ∃ k : Nat, k ≤ n ∧ i = .int .i64 k ∧ Below w1.heap.size w1 wr ∧ Hid (∀ j (h : j < xs.length), j < k → xs[j].phis.all (phOkI v (predsFrom xs 0 (j : Int)).length) = true)) (fun i _ => n - (intOf i).toNat)
  case atStart => exact ⟨0, Nat.zero_le _, rfl, Below.refl _ _, fun j _ h => absurd h (by omega)⟩
  case round =>
    obtain ⟨k, hk, rfl, hw, hall⟩ := hrel
    by_cases hlt : k < n
    · have hkx : k < xs.length := by have := hx.out; omega
      obtain ⟨b, o, rfl, ⟨_, hbB⟩, hc⟩ := HA.out k hkx
      obtain ⟨pa', pc', ia, ic, d0, d1, ⟨d2, d3, d4, d5⟩, hp, _⟩ := hc
      have e0 := (hw.cell (p := ⟨b, o + k * 6, none⟩) (by show b < _; omega)).trans d0
      have e1 := (hw.cell (p := ⟨b, o + k * 6 + 1, none⟩) (by show b < _; omega)).trans d1
      have e2 := (hw.cell (p := ⟨b, o + k * 6 + 2, none⟩) (by show b < _; omega)).trans d2
      have e3 := (hw.cell (p := ⟨b, o + k * 6 + 2 + 1, none⟩) (by show b < _; omega)).trans d3
      have e4 := (hw.cell (p := ⟨b, o + k * 6 + 2 + 2, none⟩) (by show b < _; omega)).trans d4
      have e5 := (hw.cell (p := ⟨b, o + k * 6 + 2 + 3, none⟩) (by show b < _; omega)).trans d5
      obtain ⟨hl1, hl2⟩ := hl.out _ (List.getElem_mem hkx)
      have HL2 := hide hl2
      have hno : Hid (xs[k].phis.all (phOkI v (predsFrom xs 0 (k : Int)).length) = false → phisOkI ⟨v, xs⟩ = false) := fun h => phisFrom_no phOkI ⟨v, xs⟩ (k := k) hkx h
      have hlen : k < ((List.range n).map fun i : Nat => predsFrom xs 0 (i : Int)).length := by simpa using hlt
      obtain ⟨gb, go, rfl, ⟨_, hgB⟩, a', c', f0, hii⟩ := HPR.out k hlen
      simp only [List.getElem_map, List.getElem_range] at f0
      have HP := hide hp
      have hnl : (predsFrom xs 0 (k : Int)).length ≤ 1048576 := by have := predsFrom_len (k : Int) xs 0; have := hx.out; omega
      have HF0 := hide f0
      have hwz := hw.size
      have hyes : Hid (xs[k].phis.all (phOkI v (predsFrom xs 0 (k : Int)).length) = true → ∀ j (h : j < xs.length), j < k + 1 → xs[j].phis.all (phOkI v (predsFrom xs 0 (j : Int)).length) = true) :=
        fun h j hj hjk => if e : j = k then by subst e; exact h else hall.out j hj (by omega)
      clear hp hl2 f0 hii hlen d0 d1 d2 d3 d4 d5
      generalize xs[k] = X at *
      generalize predsFrom xs 0 (k : Int) = ps at *
      go_wp2
      generalize hM : wr.heap.size = M at *
      have HM := hide hM
      clear hM
      go_loopw [23] (fun i wi => ∃ j : Nat, j ≤ X.phis.length ∧ i = .int .i64 j ∧ Below w1.heap.size w1 wi ∧ Hid ((X.phis.take j).all (phOkI v ps.length) = true)) (fun i _ => X.phis.length - (intOf i).toNat)
      case atStart => exact ⟨0, Nat.zero_le _, rfl, balloc hw _, rfl⟩
      case round =>
        obtain ⟨j, hj, rfl, hwi, halli⟩ := hrel
        have f0 := (hwi.cell (p := ⟨gb, go + k, none⟩) (by show gb < _; omega)).trans HF0.out
        have k0' := (hwi.cell (p := ⟨w.heap.size, 0, none⟩) (by show w.heap.size < _; omega)).trans k0
        by_cases hjt : j < X.phis.length
        · obtain ⟨b', o', rfl, ⟨_, hbB'⟩, aa, cc, g0, g1, hi⟩ := HP.out j hjt
          have e6 := (hwi.cell (p := ⟨b', o' + j * 2, none⟩) (by show b' < _; omega)).trans g0
          have e7 := (hwi.cell (p := ⟨b', o' + j * 2 + 1, none⟩) (by show b' < _; omega)).trans g1
          have hal := HL2.out _ (List.getElem_mem hjt)
          have hno2 := hide (fun h => unhide hno (all_no (p := phOkI v ps.length) (xs := X.phis) (k := j) hjt h))
          have hyes2 := hide (fun h => all_take_next (p := phOkI v ps.length) hjt halli.out h)
          have HIA := hide hi
          clear g0 g1 hi
          generalize X.phis[j] = P at *
          have hq1 : w.heap.size < wr.heap.size := by have := hwi.size; omega
          have hq2 : gb < wr.heap.size := by have := hwi.size; omega
          have hPS : Hid (phOkI v ps.length P = (fld true P.dst 0 v && (decide (1 ≤ P.args.length) && decide (P.args.length = ps.length) && P.args.all (inB 0 v)))) := rfl
          cases hf : fld true P.dst 0 v
          · have HF := hide hf
            go_wp2
            go_quiet ((go_at_call 102; exact Calls.quiet_of_same (validField_any _ _ _ _ _)))
            go_wp2
            go_ret
            exact ⟨ret_bool (unhide hno2 (by rw [hPS.out, HF.out]; rfl)).symm, bnext HB1.out (below_drewN (balloc hwi _) _)⟩
          · have HF := hide hf
            by_cases h0 : P.args.length = 0
            · have h0' : ((P.args.length : Int) == 0) = true := by simp [h0]
              have H0 := hide h0
              clear h0
              go_wp2
              go_quiet ((go_at_call 102; exact Calls.quiet_of_same (validField_any _ _ _ _ _)))
              go_wp2
              go_ret
              exact ⟨ret_bool (unhide hno2 (by rw [hPS.out, HF.out, H0.out]; rfl)).symm, bnext HB1.out (below_drewN (balloc hwi _) _)⟩
            · have h0' : ((P.args.length : Int) == 0) = false := by rw [beq_eq_false_iff_ne]; omega
              have H0 := hide h0
              clear h0
              by_cases h1 : P.args.length = ps.length
              · have h1' : ((P.args.length : Int) != (ps.length : Int)) = false := by simp [h1]
                have H1 := hide h1
                clear h1
                go_wp2
                go_quiet ((go_at_call 102; exact Calls.quiet_of_same (validField_any _ _ _ _ _)))
                go_wp2
                have hb9 := below_drewN (balloc hwi (.cells #[.int .i64 P.dst, .slice aa P.args.length cc] 87)) nq
                generalize (wr.alloc (.cells #[.int .i64 P.dst, .slice aa P.args.length cc] 87)).drewN nq = w9 at *
                have r0 := (hb9.cell (p := ⟨w.heap.size, 0, none⟩) (by show w.heap.size < _; omega)).trans k0
                clear hf h0' h1' f0 k0' e6 e7
                go_loop [53] (fun i => ∃ q : Nat, q ≤ P.args.length ∧ i = .int .i64 q ∧ Hid ((P.args.take q).all (inB 0 v) = true)) (fun i => P.args.length - (intOf i).toNat)
                case atStart => exact ⟨0, Nat.zero_le _, rfl, rfl⟩
                case round =>
                  obtain ⟨q, hq, rfl, hallq⟩ := hrel
                  by_cases hqt : q < P.args.length
                  · obtain ⟨b2, o2, rfl, ⟨_, hb2⟩, hc2⟩ := HIA.out q hqt
                    have r1 := (hb9.cell (p := ⟨b2, o2 + q, none⟩) (by show b2 < _; omega)).trans hc2
                    have hno3 := hide (fun h => all_no (p := inB 0 v) (xs := P.args) (k := q) hqt h)
                    have hyes3 := hide (fun h => all_take_next (p := inB 0 v) hqt hallq.out h)
                    clear hc2
                    generalize P.args[q] = A at *
                    have hfA : Hid (fld true A 0 v = inB 0 v A) := rfl
                    cases hr : fld true A 0 v
                    · have HR := hide hr
                      go_wp2_with (go_at_call 102; refine (validField_any _ _ _ _ _).mono ?_; rintro e w2 ⟨rfl, hw2⟩; rw [hw2]; clear hw2 w2)
                      go_ret
                      exact ⟨ret_bool (unhide hno2 (by rw [hPS.out, unhide hno3 (by rw [← hfA.out]; exact HR.out)]; simp)).symm, bnext HB1.out hb9⟩
                    · have HR := hide hr
                      go_wp2_with (go_at_call 102; refine (validField_any _ _ _ _ _).mono ?_; rintro e w2 ⟨rfl, hw2⟩; rw [hw2]; clear hw2 w2)
                      go_round
                      case rel => exact ⟨q + 1, by omega, by go_num, unhide hyes3 (by rw [← hfA.out]; exact HR.out)⟩
                      case measure => simp [intOf]; omega
                  · go_wp2
                    exact ⟨⟨j + 1, by omega, by go_num, hb9, unhide hyes2 (by
                      have h1 := H1.out
                      have h0 := H0.out
                      rw [hPS.out, HF.out, decide_eq_true h1, decide_eq_true (p := 1 ≤ P.args.length) (by omega), all_whole (xs := P.args) (k := q) (by omega) hallq.out]; rfl)⟩, by simp [intOf]; omega⟩
              · have h1' : ((P.args.length : Int) != (ps.length : Int)) = true := by rw [bne_iff_ne]; omega
                have H1 := hide h1
                clear h1
                go_wp2
                go_quiet ((go_at_call 102; exact Calls.quiet_of_same (validField_any _ _ _ _ _)))
                go_wp2
                go_ret
                exact ⟨ret_bool (unhide hno2 (by rw [hPS.out, HF.out, decide_eq_false H1.out]; simp)).symm, bnext HB1.out (below_drewN (balloc hwi _) _)⟩
        · go_wp2
          exact ⟨⟨k + 1, by omega, by go_num, hwi, unhide hyes (all_whole (xs := X.phis) (k := j) (by omega) halli.out)⟩, by simp [intOf]; omega⟩
    · go_wp2
      go_ret
      exact ⟨ret_bool (by
        symm
        exact (phisFrom_iff phOkI ⟨v, xs⟩ xs 0).2 (fun j hj => by rw [Nat.zero_add]; exact hall.out j hj (by have := hx.out; omega))), bnext HB1.out hw⟩
end Go.Proofs.YtdcdgopblbmgoaaDoor

namespace Go.Proofs.YtdcdgopblbmgoaaDoor
open Go.RowKit

theorem tgt_of_terms {v : Int} {xs : List Blk} (h : termsOk ⟨v, xs⟩ = true) : TgtOk xs xs.length := by
  intro x hx
  have h1 : terOk' v xs.length x.term = true := List.all_eq_true.1 h x hx
  simp only [terOk', terOk, Bool.and_eq_true, decide_eq_true_eq] at h1
  obtain ⟨⟨⟨⟨⟨h2, h3⟩, h4⟩, h5⟩, h6⟩, h7⟩ := h1
  have hc : x.term.kind = 1 ∨ x.term.kind = 2 ∨ x.term.kind = 3 := by omega
  rcases hc with e | e | e
  · simp only [e, fld] at h5
    simp [Ter.targets, e] at h5 ⊢
    omega
  · simp only [e, fld] at h5 h6 h7
    simp [Ter.targets, e] at h5 h6 h7 ⊢
    refine ⟨?_, h7⟩
    omega
  · simp [Ter.targets, e]

theorem dst_of_ok {m : Nat} {xs : List Blk} (h : instrsOk ⟨m, xs⟩ = true) (k : phisOkI ⟨m, xs⟩ = true) : DstOk xs m := by
  intro x hx
  constructor
  · intro p hp
    obtain ⟨j, hj, rfl⟩ := List.getElem_of_mem hx
    have h1 := (phisFrom_iff phOkI ⟨m, xs⟩ xs 0).1 k j hj
    have h2 := List.all_eq_true.1 h1 p hp
    simp only [phOkI, fld, Bool.and_eq_true, decide_eq_true_eq, if_true] at h2
    exact h2.1
  · intro y hy
    have h1 := List.all_eq_true.1 (List.all_eq_true.1 h x hx) y hy
    simp only [insOk, Bool.and_eq_true, decide_eq_true_eq] at h1
    obtain ⟨⟨⟨⟨⟨h2, h3⟩, h4⟩, _⟩, _⟩, _⟩ := h1
    refine ⟨h2, h3, fun hd => ?_⟩
    rw [hd] at h4
    simpa [fld] using h4

theorem blksSize_tot (xs : List Blk) : blksSize xs = xs.length + blksTot xs := by
  induction xs with
  | nil => rfl
  | cons x xs ih =>
    have h1 : blksSize (x :: xs) = blkSize x + blksSize xs := by simp [blksSize]
    have h2 : blksTot (x :: xs) = blkTot x + blksTot xs := by simp [blksTot]
    have h3 : phSize x.phis = x.phis.length + phTot x.phis := by
      generalize x.phis = ps
      induction ps with
      | nil => rfl
      | cons p ps ih => simp only [phSize, phTot, List.map_cons, List.sum_cons, List.length_cons] at ih ⊢; omega
    rw [h1, h2, ih, List.length_cons]
    simp only [blkSize, blkTot]
    omega

theorem tot_le {xs : List Blk} {x : Blk} (h : x ∈ xs) : x.phis.length + phTot x.phis + x.instrs.length ≤ blksTot xs := by
  induction xs with
  | nil => cases h
  | cons y ys ih =>
    have h2 : blksTot (y :: ys) = blkTot y + blksTot ys := by simp [blksTot]
    rcases List.mem_cons.1 h with rfl | h
    · rw [h2]; simp only [blkTot]; omega
    · have := ih h; omega
theorem ph_le {ps : List Ph} {p : Ph} (h : p ∈ ps) : p.args.length ≤ phTot ps := by
  induction ps with
  | nil => cases h
  | cons y ys ih =>
    have h2 : phTot (y :: ys) = y.args.length + phTot ys := by simp [phTot]
    rcases List.mem_cons.1 h with rfl | h
    · omega
    · have := ih h; omega
theorem len_of_tot {xs : List Blk} (h : xs.length + blksTot xs ≤ 1048576) : BlkLen xs := fun x hx => by
  have h1 := tot_le hx
  exact ⟨by omega, by omega, fun p hp => by have := ph_le hp; omega⟩

set_option maxHeartbeats 4000000 in
theorem validFuncI_any (v : Int) (a : Option Addr) (n c : Nat) (xs : List Blk) (L B : Nat) (w : World) (ha : Hid (BlksAt w L B a xs)) (hx : Hid (n = xs.length)) (hs : Hid (xs.length + blksTot xs ≤ 1048576)) (hB : B ≤ w.heap.size) (hO : Hid (OpTab w)) (hT : Hid (TerTab w)) :
    Calls Tryd.prog 13 #[.agg #[.int .i64 v, .slice a n c]] w fun e w' => e = .returned (.bool (validI ⟨v, xs⟩)) ∧ Below w.heap.size w w' := by
  have hn : n ≤ 1048576 := by have := hx.out; have := hs.out; omega
  have hbs : blksSize xs ≤ 1048576 := by rw [blksSize_tot]; exact hs.out
  have hlen := hide (len_of_tot hs.out)
  have ha1 := fun o => ha.out.keep ((balloc (Below.refl w.heap.size w) o).mono hB)
  have HBS := hide hbs
  clear hbs
  have hV : Hid (validI ⟨v, xs⟩ = (sizeOk ⟨v, xs⟩ && termsOk ⟨v, xs⟩ && instrsOk ⟨v, xs⟩ && phisOkI ⟨v, xs⟩ && onceOk ⟨v, xs⟩)) := rfl
  cases h1 : sizeOk ⟨v, xs⟩
  · have H1 := hide h1
    have hA1 := hide ha1
    clear h1 ha1
    go_enter Tryd.func13, Tryd.ntmps13
    go_wp2_with fail
    refine (validSize_any v a n c xs L B _ (unhide hA1 _) hx hn HBS.out (by simp; omega)).mono ?_
    rintro e w1 ⟨rfl, hb1⟩
    rw [unhide H1]
    go_wp2
    go_ret
    exact ⟨ret_bool (by rw [hV.out, H1.out]; rfl), bnext (balloc (Below.refl _ _) _) hb1⟩
  have H1 := hide h1
  have hA1 := hide ha1
  clear h1 ha1
  have hv0 : 0 ≤ v ∧ v ≤ 2000 := by
    have h := H1.out
    simp only [sizeOk, Bool.and_eq_true, decide_eq_true_eq] at h
    omega
  obtain ⟨m, rfl⟩ := Int.eq_ofNat_of_zero_le hv0.1
  have hm : m ≤ 2000 := by omega
  clear hv0
  go_enter Tryd.func13, Tryd.ntmps13
  go_wp2_with fail
  refine (validSize_any m a n c xs L B _ (unhide hA1 _) hx hn HBS.out (by simp; omega)).mono ?_
  rintro e w1 ⟨rfl, hb1⟩
  rw [unhide H1]
  obtain ⟨hc1, hf1⟩ := bcell hb1
  have k0 : w1.cell? ⟨w.heap.size, 0, none⟩ = some (.int .i64 m) := by rw [hc1 _ _ (by simp)]; simp
  have k1 : w1.cell? ⟨w.heap.size, 1, none⟩ = some (.slice a n c) := by rw [hc1 _ _ (by simp)]; simp
  have B1 := bnext (balloc (Below.refl w.heap.size w) _) hb1
  have hz1 := hb1.size
  simp at hz1
  have hA := hide (ha.out.keep (B1.mono hB))
  have hO1 := hide (hO.out.keep B1)
  have hT1 := hide (hT.out.keep B1)
  have HB1 := hide B1
  clear hc1 hf1 hb1 hA1 B1
  go_wp2_with fail
  refine (validTerms_any m a n c xs L B _ hA hx hn (by omega) hT1).mono ?_
  rintro e w2 ⟨rfl, hb2⟩
  cases h2 : termsOk ⟨m, xs⟩
  · have H2 := hide h2
    clear h2
    go_wp2
    go_ret
    exact ⟨ret_bool (by rw [hV.out, H1.out, H2.out]; rfl), bnext HB1.out hb2⟩
  have H2 := hide h2
  clear h2
  have hg := hide (tgt_of_terms H2.out)
  rw [← hx.out] at hg
  have k0' := (hb2.cell (p := ⟨w.heap.size, 0, none⟩) (by show w.heap.size < _; omega)).trans k0
  have k1' := (hb2.cell (p := ⟨w.heap.size, 1, none⟩) (by show w.heap.size < _; omega)).trans k1
  have hz2 := hb2.size
  have hA2 := hide (hA.out.keep (hb2.mono (by omega)))
  have hO2 := hide (hO1.out.keep hb2)
  have HB2 := hide (bnext HB1.out hb2)
  clear hb2 k0 k1
  go_wp2_with fail
  refine (validInstrs_any m a n c xs L B _ hA2 hx hn (fun x h => (hlen.out x h).2.1) (by omega) hO2).mono ?_
  rintro e w3 ⟨rfl, hb3⟩
  cases h3 : instrsOk ⟨m, xs⟩
  · have H3 := hide h3
    clear h3
    go_wp2
    go_ret
    exact ⟨ret_bool (by rw [hV.out, H1.out, H2.out, H3.out]; rfl), bnext HB2.out hb3⟩
  have H3 := hide h3
  clear h3
  have q0 := (hb3.cell (p := ⟨w.heap.size, 0, none⟩) (by show w.heap.size < _; omega)).trans k0'
  have q1 := (hb3.cell (p := ⟨w.heap.size, 1, none⟩) (by show w.heap.size < _; omega)).trans k1'
  have hz3 := hb3.size
  have hA3 := hide (hA2.out.keep (hb3.mono (by omega)))
  have hO3 := hide (hO2.out.keep hb3)
  have HB3 := hide (bnext HB2.out hb3)
  clear hb3 k0' k1'
  go_wp2_with fail
  refine (validPhis_any m a n c xs L B _ hA3 hx hn (fun x h => ⟨(hlen.out x h).1, (hlen.out x h).2.2⟩) (by omega) hg).mono ?_
  rintro e w4 ⟨rfl, hb4⟩
  cases h4 : phisOkI ⟨m, xs⟩
  · have H4 := hide h4
    clear h4
    go_wp2
    go_ret
    exact ⟨ret_bool (by rw [hV.out, H1.out, H2.out, H3.out, H4.out]; rfl), bnext HB3.out hb4⟩
  have H4 := hide h4
  clear h4
  have r0 := (hb4.cell (p := ⟨w.heap.size, 0, none⟩) (by show w.heap.size < _; omega)).trans q0
  have r1 := (hb4.cell (p := ⟨w.heap.size, 1, none⟩) (by show w.heap.size < _; omega)).trans q1
  have hz4 := hb4.size
  have hA4 := hide (hA3.out.keep (hb4.mono (by omega)))
  have hO4 := hide (hO3.out.keep hb4)
  have HB4 := hide (bnext HB3.out hb4)
  clear hb4 q0 q1
  go_wp2_with fail
  refine (definedOnce_any m a n c xs L B _ hA4 hx hn hm (show blksTot xs ≤ 1048576 by have := hs.out; omega) (by omega) hO4 (dst_of_ok H3.out H4.out)).mono ?_
  rintro e w5 ⟨rfl, hb5⟩
  go_wp2
  go_ret
  exact ⟨ret_bool (by rw [hV.out, H1.out, H2.out, H3.out, H4.out]; simp), bnext HB4.out hb5⟩
end Go.Proofs.YtdcdgopblbmgoaaDoor
