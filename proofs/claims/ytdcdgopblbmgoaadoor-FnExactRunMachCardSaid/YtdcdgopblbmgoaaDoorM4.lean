import Derived.Test.YtdcdgopblbmgoaaDoorM0
import Derived.Test.YtdcdgopblbmgoaaDoorRunT
import Derived.Test.YtdcdgopblbmgoaaDoorN10
import Derived.Test.YtdcdgopblbmgoaaDoorNR
import Derived.Test.YtdcdgopblbmgoaaDoorW16
namespace Go.Proofs.YtdcdgopblbmgoaaDoor
open Go.RowKit

set_option maxHeartbeats 2000000 in
theorem validMachSize_any (v : Int) (a : Option Addr) (n c : Nat) (xs : List MBlk) (L B : Nat) (w : World) (ha : Hid (MBlksAt w L B a xs)) (hx : Hid (n = xs.length)) (hn : n ≤ 1048576) (hs : mSize xs ≤ 1048576) (hB : B ≤ w.heap.size) :
    Calls Tryd.prog 89 #[.agg #[.int .i64 v, .slice a n c]] w fun e w' => e = .returned (.bool (decide (1 ≤ n) && decide (n ≤ 3000) && decide (mSize xs ≤ 20000))) ∧ Below w.heap.size w w' := by
  by_cases hd : 1 ≤ n ∧ n ≤ 3000
  · obtain ⟨d2, d3⟩ := hd
    have hT : Hid (mSize xs = xs.length + mTot xs) := mSize_tot xs
    go_enter Tryd.func89, Tryd.ntmps89
    go_wp2
    go_loopw [3, 18] (fun u i wr => ∃ k : Nat, k ≤ n ∧ i = .int .i64 k ∧ u = .int .i64 (n + mTot (xs.take k) : Nat) ∧ n + mTot (xs.take k) ≤ 20000 ∧ Below w.heap.size w wr) (fun _ i _ => n - (intOf i).toNat)
    case atStart => exact ⟨0, Nat.zero_le _, rfl, by simp [mTot], by simp [mTot]; omega, balloc (Below.refl _ _) _⟩
    case round =>
      obtain ⟨k, hk, rfl, rfl, hle, hw⟩ := hrel
      by_cases hlt : k < n
      · have hkx : k < xs.length := by have := hx.out; omega
        obtain ⟨b, o, rfl, ⟨_, hbB⟩, hc⟩ := ha.out k hkx
        obtain ⟨ia, ic, e1, ⟨e2, e3, e4, e5⟩, _⟩ := hc.keep (hw.mono hB) (by omega)
        have h1 : Hid (mTot (xs.take (k + 1)) = mTot (xs.take k) + xs[k].instrs.length) := by show _ = _; rw [take_next _ _ hkx, mTot_snoc]
        have h2 := mTot_take xs (k + 1)
        have H2 := hide h2
        have hb1 : mTot (xs.take k) + xs[k].instrs.length ≤ 1048576 := by have := h1.out; have := hT.out; omega
        clear hc h2
        generalize xs[k] = X at *
        generalize hS : mTot (xs.take k) = S at *
        have HS := hide hS
        clear hS
        by_cases hgt : 20000 < n + S + X.instrs.length
        · go_wp2
          go_ret
          refine ⟨ret_bool ?_, balloc hw _⟩
          have e : ¬ mSize xs ≤ 20000 := by have := h1.out; have := H2.out; have := hT.out; have := hx.out; omega
          rw [decide_eq_false e]
          simp
        · go_wp2
          exact ⟨⟨k + 1, by omega, by go_num, by rw [h1.out]; go_num, by rw [h1.out]; omega, balloc hw _⟩, by simp [intOf]; omega⟩
      · go_wp2
        go_ret
        have e := List.take_of_length_le (l := xs) (i := k) (by have := hx.out; omega)
        rw [e] at hle
        refine ⟨ret_bool ?_, hw⟩
        rw [decide_eq_true d2, decide_eq_true d3, decide_eq_true (show mSize xs ≤ 20000 by have := hT.out; have := hx.out; omega)]
        rfl
  · have hR : Hid ((decide (1 ≤ n) && decide (n ≤ 3000) && decide (mSize xs ≤ 20000)) = false) := by
      show _ = _
      by_cases h1 : 1 ≤ n
      · rw [decide_eq_false (show ¬ n ≤ 3000 by omega)]; simp
      · rw [decide_eq_false h1]; simp
    have hd' : n < 1 ∨ (1 ≤ n ∧ 3000 < n) := by omega
    clear hd
    rcases hd' with d | ⟨d, d1⟩
    all_goals
      go_enter Tryd.func89, Tryd.ntmps89
      go_wp2
      go_ret
      exact ⟨ret_bool hR.out.symm, balloc (Below.refl _ _) _⟩

set_option maxHeartbeats 4000000 in
theorem validMachI_any (v : Int) (a : Option Addr) (n c : Nat) (xs : List MBlk) (L B : Nat) (w : World) (ha : Hid (MBlksAt w L B a xs)) (hx : Hid (n = xs.length)) (hs : Hid (xs.length + mTot xs ≤ 1048576)) (hB : B ≤ w.heap.size) (hO : Hid (OpTab w)) (hT : Hid (TerTab w)) :
    Calls Tryd.prog 41 #[.agg #[.int .i64 v, .slice a n c]] w fun e w' => e = .returned (.bool (validM v xs)) ∧ Below w.heap.size w w' := by
  have hn : n ≤ 1048576 := by have := hx.out; have := hs.out; omega
  have hbs : Hid (mSize xs ≤ 1048576) := by show _ ≤ _; rw [mSize_tot]; exact hs.out
  have hlen := hide (mlen_of_tot hs.out)
  by_cases hv : 1 ≤ v ∧ v ≤ 64
  · obtain ⟨v1, v2⟩ := hv
    cases hq : (decide (1 ≤ n) && decide (n ≤ 3000) && decide (mSize xs ≤ 20000))
    · have HQ := hide hq
      have hR : Hid (validM v xs = false) := validM_no (fun ⟨_, _, d1, d2, d3⟩ => by
        have e := hx.out
        rw [decide_eq_true (show 1 ≤ n by omega), decide_eq_true (show n ≤ 3000 by omega), decide_eq_true d3] at hq
        cases hq)
      clear hq
      go_enter Tryd.func41, Tryd.ntmps41
      go_wp2_with fail
      refine (validMachSize_any v a n c xs L B _ ?q1 hx hn hbs.out ?q2).mono ?_
      case q1 => exact ha.out.keep (balloc (Below.refl _ _) _ |>.mono hB)
      case q2 => simp; omega
      rintro e w1 ⟨rfl, hb1⟩
      rw [unhide HQ]
      go_wp2
      go_ret
      exact ⟨ret_bool hR.out.symm, bnext (balloc (Below.refl _ _) _) hb1⟩
    · have HQ := hide hq
      have hR : Hid (validM v xs = xs.all (mOk v n)) := by
        show _ = _
        have e := hx.out
        simp only [Bool.and_eq_true, decide_eq_true_eq] at hq
        unfold validM
        rw [headM_yes v1 v2 (by omega) (by omega) hq.2, ← e]
        rfl
      have d3 : n ≤ 3000 := by
        simp only [Bool.and_eq_true, decide_eq_true_eq] at hq
        exact hq.1.2
      clear hq
      go_enter Tryd.func41, Tryd.ntmps41
      go_wp2_with fail
      refine (validMachSize_any v a n c xs L B _ ?q1 hx hn hbs.out ?q2).mono ?_
      case q1 => exact ha.out.keep (balloc (Below.refl _ _) _ |>.mono hB)
      case q2 => simp; omega
      rintro e w1 ⟨rfl, hb1⟩
      rw [unhide HQ]
      obtain ⟨hc1, hf1⟩ := bcell hb1
      have k0 : w1.cell? ⟨w.heap.size, 0, none⟩ = some (.int .i64 v) := by rw [hc1 _ _ (by simp)]; simp
      have k1 : w1.cell? ⟨w.heap.size, 1, none⟩ = some (.slice a n c) := by rw [hc1 _ _ (by simp)]; simp
      have B1 := bnext (balloc (Below.refl w.heap.size w) _) hb1
      have hz1 := hb1.size
      simp at hz1
      have HB1 := hide B1
      have HA := hide (ha.out.keep (B1.mono hB))
      have HO := hide (hO.out.keep B1)
      have HT := hide (hT.out.keep B1)
      clear hc1 hf1 hb1 B1 ha
      go_wp2
      go_loopw [23] (fun i wr => ∃ k : Nat, k ≤ n ∧ i = .int .i64 k ∧ Below w1.heap.size w1 wr ∧ Hid ((xs.take k).all (mOk v n) = true)) (fun i _ => n - (intOf i).toNat)
      case atStart => exact ⟨0, Nat.zero_le _, rfl, Below.refl _ _, rfl⟩
      case round =>
        obtain ⟨k, hk, rfl, hw, hall⟩ := hrel
        have hwz := hw.size
        have hsz : w.heap.size < wr.heap.size := by omega
        have k0' := (hw.cell (p := ⟨w.heap.size, 0, none⟩) (by show w.heap.size < _; omega)).trans k0
        have k1' := (hw.cell (p := ⟨w.heap.size, 1, none⟩) (by show w.heap.size < _; omega)).trans k1
        by_cases hlt : k < n
        · have hkx : k < xs.length := by have := hx.out; omega
          obtain ⟨b, o, rfl, ⟨_, hbB⟩, hc⟩ := HA.out k hkx
          obtain ⟨ia, ic, f1, ⟨f2, f3, f4, f5⟩, hi⟩ := hc
          have e1 := (hw.cell (p := ⟨b, o + k * 5, none⟩) (by show b < _; omega)).trans f1
          have e2 := (hw.cell (p := ⟨b, o + k * 5 + 1, none⟩) (by show b < _; omega)).trans f2
          have e3 := (hw.cell (p := ⟨b, o + k * 5 + 1 + 1, none⟩) (by show b < _; omega)).trans f3
          have e4 := (hw.cell (p := ⟨b, o + k * 5 + 1 + 2, none⟩) (by show b < _; omega)).trans f4
          have e5 := (hw.cell (p := ⟨b, o + k * 5 + 1 + 3, none⟩) (by show b < _; omega)).trans f5
          have hil := hlen.out _ (List.getElem_mem hkx)
          have hno := hide (fun h => all_no (p := mOk v n) (xs := xs) (k := k) hkx h)
          have hyes := hide (fun h => all_take_next (p := mOk v n) hkx hall.out h)
          have HI := hide hi
          clear hi f1 f2 f3 f4 f5 k0 k1
          generalize xs[k] = X at *
          have hBK : Hid (mOk v n X = (X.instrs.all (insOk v 13) && terOk v 0 n ⟨X.term.kind, X.term.a, X.term.to, X.term.els⟩)) := rfl
          cases hr : terOk v 0 n ⟨X.term.kind, X.term.a, X.term.to, X.term.els⟩
          · have HRR := hide hr
            clear hr
            go_wp2_with fail
            refine (validTerm_any _ _ _ _ _ _ _ _ ?q1).mono ?_
            case q1 => exact TerTab.keep HT.out (balloc hw _)
            rintro e w2 ⟨rfl, hb2⟩
            rw [unhide HRR]
            go_wp2
            go_ret
            exact ⟨ret_bool (by rw [hR.out, unhide hno (by rw [hBK.out, HRR.out]; simp)]), bnext HB1.out (bnext (balloc hw _) hb2)⟩
          · have HRR := hide hr
            clear hr
            go_wp2_with fail
            refine (validTerm_any _ _ _ _ _ _ _ _ ?q1).mono ?_
            case q1 => exact TerTab.keep HT.out (balloc hw _)
            rintro e w2 ⟨rfl, hb2⟩
            rw [unhide HRR]
            have bb := bnext (balloc hw _) hb2
            obtain ⟨hf1, hf2⟩ := bcell hb2
            have m1 : w2.cell? ⟨wr.heap.size, 0, none⟩ = some (.slice ia X.instrs.length ic) := by rw [hf1 _ _ (by simp)]; simp
            have hz2 := hb2.size
            simp at hz2
            have hz3 : wr.heap.size < w2.heap.size := by omega
            have x0 := (hb2.cell (p := ⟨w.heap.size, 0, none⟩) (by show w.heap.size < _; simp; omega)).trans (((balloc (Below.refl wr.heap.size wr) _).cell (p := ⟨w.heap.size, 0, none⟩) (by show w.heap.size < _; omega)).trans k0')
            clear hf1 hf2 hb2 e1 e2 e3 e4 e5 k0' k1'
            have HBB := hide bb
            go_wp2
            go_loopw [39] (fun i wi => ∃ j : Nat, j ≤ X.instrs.length ∧ i = .int .i64 j ∧ Below w2.heap.size w2 wi ∧ Hid ((X.instrs.take j).all (insOk v 13) = true)) (fun i _ => X.instrs.length - (intOf i).toNat)
            case atStart => exact ⟨0, Nat.zero_le _, rfl, Below.refl _ _, rfl⟩
            case round =>
              obtain ⟨j, hj, rfl, hwi, halli⟩ := hrel
              have hbi := bnext HBB.out hwi
              have r0 := (hwi.cell (p := ⟨w.heap.size, 0, none⟩) (by show w.heap.size < _; omega)).trans x0
              have hwiz := hwi.size
              have hsz2 : w.heap.size < wr.heap.size := by omega
              clear m1
              by_cases hjt : j < X.instrs.length
              · obtain ⟨b', o', rfl, ⟨_, hbB'⟩, hc'⟩ := HI.out j hjt
                obtain ⟨g0, g1, g2, g3, g4⟩ := hc'.keep hbi (by omega)
                have hno2 := hide (fun h => all_no (p := insOk v 13) (xs := X.instrs) (k := j) hjt h)
                have hyes2 := hide (fun h => all_take_next (p := insOk v 13) hjt halli.out h)
                clear hc'
                generalize X.instrs[j] = P at *
                cases hr : insOk v 13 ⟨P.op, P.dst, P.a, P.b, P.imm⟩
                · have HR2 := hide hr
                  clear hr
                  go_wp2_with fail
                  refine (validInstr_gen _ _ _ _ _ _ _ _ (by decide) ?q1).mono ?_
                  case q1 => exact OpTab.keep HO.out (balloc hbi _)
                  rintro e w3 ⟨rfl, hb3⟩
                  rw [unhide HR2]
                  go_wp2
                  go_ret
                  exact ⟨ret_bool (by rw [hR.out, unhide hno (by rw [hBK.out, unhide hno2 HR2.out]; rfl)]), bnext HB1.out (bnext (balloc hbi _) hb3)⟩
                · have HR2 := hide hr
                  clear hr
                  go_wp2_with fail
                  refine (validInstr_gen _ _ _ _ _ _ _ _ (by decide) ?q1).mono ?_
                  case q1 => exact OpTab.keep HO.out (balloc hbi _)
                  rintro e w3 ⟨rfl, hb3⟩
                  rw [unhide HR2]
                  go_wp2
                  exact ⟨⟨j + 1, by omega, by go_num, bnext (balloc hwi _) hb3, unhide hyes2 HR2.out⟩, by simp [intOf]; omega⟩
              · have hIA := hide (all_whole (p := insOk v 13) (xs := X.instrs) (k := j) (by omega) halli.out)
                go_wp2
                exact ⟨⟨k + 1, by omega, by go_num, hbi, unhide hyes (by rw [hBK.out, HRR.out, hIA.out]; rfl)⟩, by simp [intOf]; omega⟩
        · have hBL := hide (all_whole (p := mOk v n) (xs := xs) (k := k) (by have := hx.out; omega) hall.out)
          go_wp2
          go_ret
          exact ⟨ret_bool (by rw [hR.out, hBL.out]), bnext HB1.out hw⟩
  · have hR : Hid (validM v xs = false) := validM_no (by omega)
    have hd' : v < 1 ∨ (1 ≤ v ∧ 64 < v) := by omega
    clear hv
    rcases hd' with d | ⟨d, d1⟩
    all_goals
      go_enter Tryd.func41, Tryd.ntmps41
      go_wp2
      go_ret
      exact ⟨ret_bool hR.out.symm, balloc (Below.refl _ _) _⟩
end Go.Proofs.YtdcdgopblbmgoaaDoor

namespace Go.Proofs.YtdcdgopblbmgoaaDoor
open Go.RowKit

set_option maxHeartbeats 1000000 in
set_option maxRecDepth 100000 in
theorem runMI_bad (v : Int) (a : Option Addr) (n c : Nat) (aa : Option Addr) (na ca : Nat) (hA : Option Addr) (nh ch : Nat) (fuel : Int) (xs : List MBlk) (L B : Nat) (w : World)
    (ha : Hid (MBlksAt w L B a xs)) (hx : Hid (n = xs.length)) (hs : Hid (xs.length + mTot xs ≤ 1048576)) (hB : B ≤ w.heap.size) (hO : Hid (OpTab w)) (hT : Hid (TerTab w)) (bad : validM v xs = false ∨ runOk na nh fuel = false) :
    Calls Tryd.prog 47 #[.agg #[.int .i64 v, .slice a n c], .slice aa na ca, .slice hA nh ch, .int .i64 fuel] w
      fun e w' => ∃ val, e = .returned val ∧ Below w.heap.size w w' ∧ OutAtF w' w.heap.size w'.heap.size val ⟨4, 0, 0, [], []⟩ := by
  have HA := fun x y => hide (ha.out.keep ((balloc (balloc (Below.refl w.heap.size w) x) y).mono hB))
  have HO := fun x y => hide (hO.out.keep (balloc (balloc (Below.refl w.heap.size w) x) y))
  have HT := fun x y => hide (hT.out.keep (balloc (balloc (Below.refl w.heap.size w) x) y))
  cases hvd : validM v xs
  · clear bad
    go_enter Tryd.func47, Tryd.ntmps47
    go_wp2_with (go_at_call 41; refine (validMachI_any v a n c xs L B _ (HA _ _) hx hs (by simp; omega) (HO _ _) (HT _ _)).mono ?_; rintro e w1 ⟨rfl, hb1⟩; rw [hvd]; have HB1 := hide (bnext (balloc (balloc (Below.refl w.heap.size w) _) _) hb1); obtain ⟨-, ⟨r0, r1, r2, r3, r4⟩, rz⟩ := boxes (hb1.mono (by simp)); clear hb1)
    exact bodyPost_ret (v := .agg #[.int .i64 4, .int .i64 0, .int .i64 0, .slice none 0 0, .slice none 0 0]) (by simp [results, Tryd.results47, go_sem, r0, r1, r2, r3, r4]) rfl ⟨_, rfl, (((((HB1.out.setCell (by show w.heap.size ≤ w.heap.size + 1; omega) _).setCell (by show w.heap.size ≤ w.heap.size + 1; omega) _).setCell (by show w.heap.size ≤ w.heap.size + 1; omega) _).setCell (by show w.heap.size ≤ w.heap.size + 1; omega) _).setCell (by show w.heap.size ≤ w.heap.size + 1; omega) _), none, 0, 0, none, 0, 0, rfl, rfl, rfl, IntsAt.nil _ _ _ _, IntsAt.nil _ _ _ _, fun _ _ e => (nomatch e), fun _ _ e => (nomatch e), fun _ _ _ _ e => (nomatch e)⟩
  · rw [hvd] at bad
    have hro : runOk na nh fuel = false := by simpa using bad
    clear bad
    go_enter Tryd.func47, Tryd.ntmps47
    go_wp2_with (first | (go_at_call 41; refine (validMachI_any v a n c xs L B _ (HA _ _) hx hs (by simp; omega) (HO _ _) (HT _ _)).mono ?_; rintro e w1 ⟨rfl, hb1⟩; rw [hvd]; have HB1 := hide (bnext (balloc (balloc (Below.refl w.heap.size w) _) _) hb1); obtain ⟨-, ⟨r0, r1, r2, r3, r4⟩, rz⟩ := boxes (hb1.mono (by simp)); clear hb1) | (go_at_call 72; refine (validRun_any _ _ _ _ _ _ _ _).mono ?_; rintro e w2 ⟨rfl, rfl⟩; rw [hro]))
    exact bodyPost_ret (v := .agg #[.int .i64 4, .int .i64 0, .int .i64 0, .slice none 0 0, .slice none 0 0]) (by simp [results, Tryd.results47, go_sem, r0, r1, r2, r3, r4]) rfl ⟨_, rfl, (((((HB1.out.setCell (by show w.heap.size ≤ w.heap.size + 1; omega) _).setCell (by show w.heap.size ≤ w.heap.size + 1; omega) _).setCell (by show w.heap.size ≤ w.heap.size + 1; omega) _).setCell (by show w.heap.size ≤ w.heap.size + 1; omega) _).setCell (by show w.heap.size ≤ w.heap.size + 1; omega) _), none, 0, 0, none, 0, 0, rfl, rfl, rfl, IntsAt.nil _ _ _ _, IntsAt.nil _ _ _ _, fun _ _ e => (nomatch e), fun _ _ e => (nomatch e), fun _ _ _ _ e => (nomatch e)⟩

end Go.Proofs.YtdcdgopblbmgoaaDoor
