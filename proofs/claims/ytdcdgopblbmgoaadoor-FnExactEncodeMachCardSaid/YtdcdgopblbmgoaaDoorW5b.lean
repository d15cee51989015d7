import Derived.Test.YtdcdgopblbmgoaaDoorW5
import Derived.Test.YtdcdgopblbmgoaaDoorM0
import Derived.Test.YtdcdgopblbmgoaaDoorW6b
import Derived.Deep.RegionWith
import Derived.Deep.DrawnRows
namespace Go.Proofs.YtdcdgopblbmgoaaDoor
open Go.RowKit

set_option maxHeartbeats 4000000 in
theorem goodInstr_any (op dst a b imm n most : Int) (w : World) :
    Calls Tryd.prog 50 #[.agg #[.int .i64 op, .int .i64 dst, .int .i64 a, .int .i64 b, .int .i64 imm], .int .i64 n, .int .i64 most] w fun e w' => e = .returned (.bool (insOk n most ⟨op, dst, a, b, imm⟩)) ∧ Below w.heap.size w w' := by
  by_cases h : 1 ≤ op ∧ op ≤ most
  · obtain ⟨h1, h2⟩ := h
    go_enter Tryd.func50, Tryd.ntmps50
    go_wp2_with fail
    refine (usedD _ _).mono ?_
    rintro e w1 ⟨rfl, rfl⟩
    go_wp2_with fail
    refine (usedA _ _).mono ?_
    rintro e w1 ⟨rfl, rfl⟩
    go_wp2_with fail
    refine (usedB _ _).mono ?_
    rintro e w1 ⟨rfl, rfl⟩
    go_wp2
    all_goals
      go_ret
      refine ⟨ret_bool ?_, balloc (Below.refl _ _) _⟩
      first | (simp [insOk, fld, immOk, *]; done) | (simp [insOk, fld, immOk, *]; omega) | (rw [Bool.eq_iff_iff]; simp [insOk, fld, immOk, *]; omega)
  · go_enter Tryd.func50, Tryd.ntmps50
    go_wp2
    all_goals
      go_ret
      refine ⟨ret_bool ?_, balloc (Below.refl _ _) _⟩
      symm
      unfold insOk
      by_cases h1 : 1 ≤ op
      · rw [decide_eq_false (p := op ≤ most) (by omega)]; simp
      · rw [decide_eq_false (p := 1 ≤ op) h1]; simp
end Go.Proofs.YtdcdgopblbmgoaaDoor

namespace Go.Proofs.YtdcdgopblbmgoaaDoor
open Go.RowKit
attribute [local go_sem ↓] Go.wp_at_zero Go.wp_at_succ

set_option maxHeartbeats 1000000 in
theorem l4Size_any (v : Int) (a : Option Addr) (n c : Nat) (xs : List MBlk) (L B : Nat) (w : World) (ha : Hid (MBlksAt w L B a xs)) (hx : Hid (n = xs.length)) (hn : n ≤ 1048576) (hs : mSize xs ≤ 1048576) (hB : B ≤ w.heap.size) :
    Calls Tryd.prog 87 #[.agg #[.int .i64 v, .slice a n c]] w fun e w' => e = .returned (.int .i64 (mSize xs)) ∧ Below w.heap.size w w' := by
  go_enter Tryd.func87, Tryd.ntmps87
  go_wp2
  have hbel := balloc (Below.refl w.heap.size w) (.cells #[.int .i64 v, .slice a n c] 66)
  have hbox : (w.alloc (.cells #[.int .i64 v, .slice a n c] 66)).cell? ⟨w.heap.size, 1, none⟩ = some (.slice a n c) := by simp
  generalize w.alloc (.cells #[.int .i64 v, .slice a n c] 66) = w1 at *
  go_loop [3, 4] (fun u i => ∃ k : Nat, k ≤ n ∧ i = .int .i64 k ∧ u = .int .i64 (mSize (xs.take k) : Nat)) (fun _ i => n - (intOf i).toNat)
  case atStart => exact ⟨0, Nat.zero_le _, rfl, rfl⟩
  case round =>
    obtain ⟨k, hk, rfl, rfl⟩ := hrel
    by_cases hlt : k < n
    · have hkx : k < xs.length := by have := hx.out; omega
      obtain ⟨b, o, rfl, ⟨_, hbB⟩, hc⟩ := ha.out k hkx
      obtain ⟨ia, ic, e1, _, _⟩ := hc.keep (hbel.mono hB) (by omega)
      have h1 : Hid (mSize (xs.take (k + 1)) = mSize (xs.take k) + (1 + xs[k].instrs.length)) := by show _ = _; rw [take_next _ _ hkx, mSize_snoc]
      have h2 := mSize_take xs (k + 1)
      have hb1 : mSize (xs.take k) + (1 + xs[k].instrs.length) ≤ 1048576 := by have := h1.out; omega
      clear hc h2
      generalize xs[k] = X at *
      generalize hS : mSize (xs.take k) = S at *
      have HS := hide hS
      clear hS
      go_wp2
      go_round
      case rel => exact ⟨k + 1, by omega, by go_num, by rw [h1.out]; go_num⟩
      case measure => simp [intOf]; omega
    · go_wp2
      go_ret
      have e := List.take_of_length_le (l := xs) (i := k) (by have := hx.out; omega)
      rw [e]
      exact ⟨rfl, hbel⟩

set_option maxRecDepth 100000 in
set_option maxHeartbeats 8000000 in
theorem validMachS_any (v : Int) (a : Option Addr) (n c : Nat) (xs : List MBlk) (L B : Nat) (w : World) (ha : Hid (MBlksAt w L B a xs)) (hx : Hid (n = xs.length)) (hs : Hid (xs.length + mTot xs ≤ 1048576)) (hB : B ≤ w.heap.size) :
    Calls Tryd.prog 39 #[.agg #[.int .i64 v, .slice a n c]] w fun e w' => e = .returned (.bool (validM v xs)) ∧ Below w.heap.size w w' := by
  have hn : n ≤ 1048576 := by have := hx.out; have := hs.out; omega
  have hbs : Hid (mSize xs ≤ 1048576) := by show _ ≤ _; rw [mSize_tot]; exact hs.out
  by_cases hd : 1 ≤ v ∧ v ≤ 64 ∧ 1 ≤ n ∧ n ≤ 3000
  · obtain ⟨d0, d1, d2, d3⟩ := hd
    by_cases hsz : 20000 < mSize xs
    · have hR : Hid (validM v xs = false) := validM_no (by omega)
      go_enter Tryd.func39, Tryd.ntmps39
      go_wp2_with fail
      refine (l4Size_any v a n c xs L B _ ?q1 hx hn hbs.out ?q2).mono ?_
      case q1 => exact ha.out.keep (balloc (Below.refl _ _) _ |>.mono hB)
      case q2 => simp; omega
      rintro e w1 ⟨rfl, hb1⟩
      go_wp2
      go_ret
      exact ⟨ret_bool hR.out.symm, bnext (balloc (Below.refl _ _) _) hb1⟩
    · have hR : Hid (validM v xs = xs.all (mOk v n)) := by
        show _ = _
        have e := hx.out
        unfold validM
        rw [headM_yes d0 d1 (by omega) (by omega) (by omega), ← e]
        rfl
      have hlen := hide (mlen_of_tot hs.out)
      go_enter Tryd.func39, Tryd.ntmps39
      go_wp2_with fail
      refine (l4Size_any v a n c xs L B _ ?q1 hx hn hbs.out ?q2).mono ?_
      case q1 => exact ha.out.keep (balloc (Below.refl _ _) _ |>.mono hB)
      case q2 => simp; omega
      rintro e w1 ⟨rfl, hb1⟩
      obtain ⟨hc1, hf1⟩ := bcell hb1
      have k0 : w1.cell? ⟨w.heap.size, 0, none⟩ = some (.int .i64 v) := by rw [hc1 _ _ (by simp)]; simp
      have k1 : w1.cell? ⟨w.heap.size, 1, none⟩ = some (.slice a n c) := by rw [hc1 _ _ (by simp)]; simp
      have B1 := bnext (balloc (Below.refl w.heap.size w) _) hb1
      have hz1 := hb1.size
      simp at hz1
      have HB1 := hide B1
      have HA := hide (ha.out.keep (B1.mono hB))
      clear hc1 hf1 hb1 B1 ha
      go_wp2
      go_loopw [4] (fun i wr => ∃ k : Nat, k ≤ n ∧ i = .int .i64 k ∧ Below w1.heap.size w1 wr ∧ Hid ((xs.take k).all (mOk v n) = true)) (fun i _ => n - (intOf i).toNat)
      case atStart => exact ⟨0, Nat.zero_le _, rfl, Below.refl _ _, rfl⟩
      case round =>
        obtain ⟨k, hk, rfl, hw, hall⟩ := hrel
        have hwz := hw.size
        by_cases hlt : k < n
        · have hkx : k < xs.length := by have := hx.out; omega
          obtain ⟨b, o, rfl, ⟨_, hbB⟩, hc⟩ := HA.out k hkx
          obtain ⟨ia, ic, f1, ⟨f2, f3, f4, f5⟩, hi⟩ := hc
          have hil := hlen.out _ (List.getElem_mem hkx)
          have hno := hide (fun h => all_no (p := mOk v n) (xs := xs) (k := k) hkx h)
          have hyes := hide (fun h => all_take_next (p := mOk v n) hkx hall.out h)
          have HI := hide hi
          clear hi
          generalize xs[k] = X at *
          have hBK : Hid (mOk v n X = (X.instrs.all (insOk v 13) && terOk v 0 n ⟨X.term.kind, X.term.a, X.term.to, X.term.els⟩)) := rfl
          have hk0 : (0 : Int) ≤ (k : Int) := by omega
          have hk1 : (k : Int) < (n : Int) := by omega
          go_wp2
          have W2 := hide hw
          clear hw
          go_loopw [5] (fun i wi => ∃ j : Nat, j ≤ X.instrs.length ∧ i = .int .i64 j ∧ Below w1.heap.size w1 wi ∧ Hid ((X.instrs.take j).all (insOk v 13) = true)) (fun i _ => X.instrs.length - (intOf i).toNat)
          case atStart => exact ⟨0, Nat.zero_le _, rfl, W2.out, rfl⟩
          case round =>
            clear hwz
            obtain ⟨j, hj, rfl, hwi, halli⟩ := hrel
            have e1 := (hwi.cell (p := ⟨b, o + k * 5, none⟩) (by show b < _; omega)).trans f1
            have r0 := (hwi.cell (p := ⟨w.heap.size, 0, none⟩) (by show w.heap.size < _; omega)).trans k0
            have r1 := (hwi.cell (p := ⟨w.heap.size, 1, none⟩) (by show w.heap.size < _; omega)).trans k1
            have hwiz := hwi.size
            by_cases hjt : j < X.instrs.length
            · obtain ⟨b', o', rfl, ⟨_, hbB'⟩, hc'⟩ := HI.out j hjt
              obtain ⟨g0, g1, g2, g3, g4⟩ := hc'.keep hwi (by omega)
              have hno2 := hide (fun h => all_no (p := insOk v 13) (xs := X.instrs) (k := j) hjt h)
              have hyes2 := hide (fun h => all_take_next (p := insOk v 13) hjt halli.out h)
              have hj0 : (0 : Int) ≤ (j : Int) := by omega
              have hj1 : (j : Int) < (X.instrs.length : Int) := by omega
              clear hc' f1 f2 f3 f4 f5 k0 k1
              generalize X.instrs[j] = P at *
              cases hr : insOk v 13 ⟨P.op, P.dst, P.a, P.b, P.imm⟩
              · have HRR := hide hr
                go_wp2
                go_region_with (go_at_call 50; refine (goodInstr_any _ _ _ _ _ _ _ _).mono ?_; rintro e w2 ⟨rfl, hb2⟩; rw [unhide HRR])
                all_goals
                  go_wp2
                  go_ret
                  exact ⟨ret_bool (by rw [hR.out, unhide hno (by rw [hBK.out, unhide hno2 HRR.out]; rfl)]), bnext HB1.out (bnext hwi.drew hb2)⟩
              · have HRR := hide hr
                go_wp2
                go_region_with (go_at_call 50; refine (goodInstr_any _ _ _ _ _ _ _ _).mono ?_; rintro e w2 ⟨rfl, hb2⟩; rw [unhide HRR])
                all_goals
                  go_wp2
                  exact ⟨⟨j + 1, by omega, by go_num, bnext hwi.drew hb2, unhide hyes2 HRR.out⟩, by simp [intOf]; omega⟩
            · have hIA := hide (all_whole (p := insOk v 13) (xs := X.instrs) (k := j) (by omega) halli.out)
              have e2 := (hwi.cell (p := ⟨b, o + k * 5 + 1, none⟩) (by show b < _; omega)).trans f2
              have e3 := (hwi.cell (p := ⟨b, o + k * 5 + 1 + 1, none⟩) (by show b < _; omega)).trans f3
              have e4 := (hwi.cell (p := ⟨b, o + k * 5 + 1 + 2, none⟩) (by show b < _; omega)).trans f4
              have e5 := (hwi.cell (p := ⟨b, o + k * 5 + 1 + 3, none⟩) (by show b < _; omega)).trans f5
              clear f1 f2 f3 f4 f5 k0 k1
              cases hr : terOk v 0 n ⟨X.term.kind, X.term.a, X.term.to, X.term.els⟩
              · have HRR := hide hr
                clear hr
                go_wp2
                go_region_with (go_at_call 51; refine (goodTerm_any _ _ _ _ _ _ _ _).mono ?_; rintro e w2 ⟨rfl, hb2⟩; rw [unhide HRR])
                all_goals
                  go_wp2
                  go_ret
                  exact ⟨ret_bool (by rw [hR.out, unhide hno (by rw [hBK.out, HRR.out]; simp)]), bnext HB1.out (bnext hwi.drew hb2)⟩
              · have HRR := hide hr
                clear hr
                go_wp2
                go_region_with (go_at_call 51; refine (goodTerm_any _ _ _ _ _ _ _ _).mono ?_; rintro e w2 ⟨rfl, hb2⟩; rw [unhide HRR])
                all_goals
                  go_wp2
                  exact ⟨⟨k + 1, by omega, by go_num, bnext hwi.drew hb2, unhide hyes (by rw [hBK.out, HRR.out, hIA.out]; rfl)⟩, by simp [intOf]; omega⟩
        · have hBL := hide (all_whole (p := mOk v n) (xs := xs) (k := k) (by have := hx.out; omega) hall.out)
          go_wp2
          go_ret
          exact ⟨ret_bool (by rw [hR.out, hBL.out]), bnext HB1.out hw⟩
  · have hR : Hid (validM v xs = false) := validM_no (by have := hx.out; omega)
    have hd' : v < 1 ∨ (1 ≤ v ∧ 64 < v) ∨ (1 ≤ v ∧ v ≤ 64 ∧ n < 1) ∨ (1 ≤ v ∧ v ≤ 64 ∧ 1 ≤ n ∧ 3000 < n) := by omega
    clear hd
    rcases hd' with d | ⟨d, d1⟩ | ⟨d, d1, d2⟩ | ⟨d, d1, d2, d3⟩
    all_goals
      go_enter Tryd.func39, Tryd.ntmps39
      go_wp2
      go_ret
      exact ⟨ret_bool hR.out.symm, balloc (Below.refl _ _) _⟩
end Go.Proofs.YtdcdgopblbmgoaaDoor
