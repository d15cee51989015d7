import Derived.Test.YtdcdgopblbmgoaaDoorM0
import Derived.Test.YtdcdgopblbmgoaaDoorW5
import Derived.Test.YtdcdgopblbmgoaaDoorW6
import Derived.Deep.RegionWith
import Derived.Deep.DrawnRows
import Derived.Test.YtdcdgopblbmgoaaDoorM2
namespace Go.Proofs.YtdcdgopblbmgoaaDoor
open Go.RowKit
attribute [local go_sem ↓] Go.wp_at_zero Go.wp_at_succ

set_option maxHeartbeats 1000000 in
theorem l4Size_any (v : Int) (a : Option Addr) (n c : Nat) (xs : List MBlk) (L B : Nat) (w : World) (ha : Hid (MBlksAt w L B a xs)) (hx : Hid (n = xs.length)) (hn : n ≤ 1048576) (hs : mSize xs ≤ 1048576) (hB : B ≤ w.heap.size) :
    Calls Tryd.prog 87 #[.agg #[.int .i64 v, .slice a n c]] w fun e w' => e = .returned (.int .i64 (mSize xs)) ∧ Below w.heap.size w w' := by
  go_enter Tryd.func87, Tryd.ntmps87
  go_wp2
  have hbel := balloc (Below.refl w.heap.size w) (.cells #[.int .i64 v, .slice a n c] 66)
  have hbox : (w.alloc (.cells #[.int .i64 v, .slice a n c] 66)).cell? ⟨w.heap.size, 1, none⟩ = some (.slice a n c) := by simp
  generalize w.alloc (.cells #[.int .i64 v, .slice a n c] 66) = w1 at *
  go_loop [3, 4] (fun u i => ∃ k : Nat, k ≤ n ∧ i = .int .i64 k ∧ u = .int .i64 (mSize (xs.take k) : Nat)) (fun _ i => n - (intOf i).toNat)
  case atStart => exact ⟨0, Nat.zero_le _, rfl, rfl⟩
  case round =>
    obtain ⟨k, hk, rfl, rfl⟩ := hrel
    by_cases hlt : k < n
    · have hkx : k < xs.length := by have := hx.out; omega
      obtain ⟨b, o, rfl, ⟨_, hbB⟩, hc⟩ := ha.out k hkx
      obtain ⟨ia, ic, e1, _, _⟩ := hc.keep (hbel.mono hB) (by omega)
      have h1 : Hid (mSize (xs.take (k + 1)) = mSize (xs.take k) + (1 + xs[k].instrs.length)) := by show _ = _; rw [take_next _ _ hkx, mSize_snoc]
      have h2 := mSize_take xs (k + 1)
      have hb1 : mSize (xs.take k) + (1 + xs[k].instrs.length) ≤ 1048576 := by have := h1.out; omega
      clear hc h2
      generalize xs[k] = X at *
      generalize hS : mSize (xs.take k) = S at *
      have HS := hide hS
      clear hS
      go_wp2
      go_round
      case rel => exact ⟨k + 1, by omega, by go_num, by rw [h1.out]; go_num⟩
      case measure => simp [intOf]; omega
    · go_wp2
      go_ret
      have e := List.take_of_length_le (l := xs) (i := k) (by have := hx.out; omega)
      rw [e]
      exact ⟨rfl, hbel⟩

set_option maxRecDepth 100000 in
set_option maxHeartbeats 8000000 in
theorem validMachS_any (v : Int) (a : Option Addr) (n c : Nat) (xs : List MBlk) (L B : Nat) (w : World) (ha : Hid (MBlksAt w L B a xs)) (hx : Hid (n = xs.length)) (hs : Hid (xs.length + mTot xs ≤ 1048576)) (hB : B ≤ w.heap.size) :
    Calls Tryd.prog 39 #[.agg #[.int .i64 v, .slice a n c]] w fun e w' => e = .returned (.bool (validM v xs)) ∧ Below w.heap.size w w' := by
  have hn : n ≤ 1048576 := by have := hx.out; have := hs.out; omega
  have hbs : Hid (mSize xs ≤ 1048576) := by show _ ≤ _; rw [mSize_tot]; exact hs.out
  by_cases hd : 1 ≤ v ∧ v ≤ 64 ∧ 1 ≤ n ∧ n ≤ 3000
  · obtain ⟨d0, d1, d2, d3⟩ := hd
    by_cases hsz : 20000 < mSize xs
    · have hR : Hid (validM v xs = false) := validM_no (by omega)
      go_enter Tryd.func39, Tryd.ntmps39
      go_wp2_with fail
      refine (l4Size_any v a n c xs L B _ ?q1 hx hn hbs.out ?q2).mono ?_
      case q1 => exact ha.out.keep (balloc (Below.refl _ _) _ |>.mono hB)
      case q2 => simp; omega
      rintro e w1 ⟨rfl, hb1⟩
      go_wp2
      go_ret
      exact ⟨ret_bool hR.out.symm, bnext (balloc (Below.refl _ _) _) hb1⟩
    · have hR : Hid (validM v xs = xs.all (mOk v n)) := by
        show _ = _
        have e := hx.out
        unfold validM
        rw [headM_yes d0 d1 (by omega) (by omega) (by omega), ← e]
        rfl
      have hlen := hide (mlen_of_tot hs.out)
      go_enter Tryd.func39, Tryd.ntmps39
      go_wp2_with fail
      refine (l4Size_any v a n c xs L B _ ?q1 hx hn hbs.out ?q2).mono ?_
      case q1 => exact ha.out.keep (balloc (Below.refl _ _) _ |>.mono hB)
      case q2 => simp; omega
      rintro e w1 ⟨rfl, hb1⟩
      obtain ⟨hc1, hf1⟩ := bcell hb1
      have k0 : w1.cell? ⟨w.heap.size, 0, none⟩ = some (.int .i64 v) := by rw [hc1 _ _ (by simp)]; simp
      have k1 : w1.cell? ⟨w.heap.size, 1, none⟩ = some (.slice a n c) := by rw [hc1 _ _ (by simp)]; simp
      have B1 := bnext (balloc (Below.refl w.heap.size w) _) hb1
      have hz1 := hb1.size
      simp at hz1
      have HB1 := hide B1
      have HA := hide (ha.out.keep (B1.mono hB))
      clear hc1 hf1 hb1 B1 ha
      go_wp2
      go_loopw [4] (fun i wr => ∃ k : Nat, k ≤ n ∧ i = .int .i64 k ∧ Below w1.heap.size w1 wr ∧ Hid ((xs.take k).all (mOk v n) = true)) (fun i _ => n - (intOf i).toNat)
      case atStart => exact ⟨0, Nat.zero_le _, rfl, Below.refl _ _, rfl⟩
      case round =>
        obtain ⟨k, hk, rfl, hw, hall⟩ := hrel
        have hwz := hw.size
        by_cases hlt : k < n
        · have hkx : k < xs.length := by have := hx.out; omega
          obtain ⟨b, o, rfl, ⟨_, hbB⟩, hc⟩ := HA.out k hkx
          obtain ⟨ia, ic, f1, ⟨f2, f3, f4, f5⟩, hi⟩ := hc
          have hil := hlen.out _ (List.getElem_mem hkx)
          have hno := hide (fun h => all_no (p := mOk v n) (xs := xs) (k := k) hkx h)
          have hyes := hide (fun h => all_take_next (p := mOk v n) hkx hall.out h)
          have HI := hide hi
          clear hi
          generalize xs[k] = X at *
          have hBK : Hid (mOk v n X = (X.instrs.all (insOk v 13) && terOk v 0 n ⟨X.term.kind, X.term.a, X.term.to, X.term.els⟩)) := rfl
          have hk0 : (0 : Int) ≤ (k : Int) := by omega
          have hk1 : (k : Int) < (n : Int) := by omega
          go_wp2
          have W2 := hide hw
          clear hw
          go_loopw [5] (fun i wi => ∃ j : Nat, j ≤ X.instrs.length ∧ i = .int .i64 j ∧ Below w1.heap.size w1 wi ∧ Hid ((X.instrs.take j).all (insOk v 13) = true)) (fun i _ => X.instrs.length - (intOf i).toNat)
          case atStart => exact ⟨0, Nat.zero_le _, rfl, W2.out, rfl⟩
          case round =>
            clear hwz
            obtain ⟨j, hj, rfl, hwi, halli⟩ := hrel
            have e1 := (hwi.cell (p := ⟨b, o + k * 5, none⟩) (by show b < _; omega)).trans f1
            have r0 := (hwi.cell (p := ⟨w.heap.size, 0, none⟩) (by show w.heap.size < _; omega)).trans k0
            have r1 := (hwi.cell (p := ⟨w.heap.size, 1, none⟩) (by show w.heap.size < _; omega)).trans k1
            have hwiz := hwi.size
            by_cases hjt : j < X.instrs.length
            · obtain ⟨b', o', rfl, ⟨_, hbB'⟩, hc'⟩ := HI.out j hjt
              obtain ⟨g0, g1, g2, g3, g4⟩ := hc'.keep hwi (by omega)
              have hno2 := hide (fun h => all_no (p := insOk v 13) (xs := X.instrs) (k := j) hjt h)
              have hyes2 := hide (fun h => all_take_next (p := insOk v 13) hjt halli.out h)
              have hj0 : (0 : Int) ≤ (j : Int) := by omega
              have hj1 : (j : Int) < (X.instrs.length : Int) := by omega
              clear hc' f1 f2 f3 f4 f5 k0 k1
              generalize X.instrs[j] = P at *
              cases hr : insOk v 13 ⟨P.op, P.dst, P.a, P.b, P.imm⟩
              · have HRR := hide hr
                go_wp2
                go_region_with (go_at_call 50; refine (goodInstr_any _ _ _ _ _ _ _ _).mono ?_; rintro e w2 ⟨rfl, hb2⟩; rw [unhide HRR])
                all_goals
                  go_wp2
                  go_ret
                  exact ⟨ret_bool (by rw [hR.out, unhide hno (by rw [hBK.out, unhide hno2 HRR.out]; rfl)]), bnext HB1.out (bnext hwi.drew hb2)⟩
              · have HRR := hide hr
                go_wp2
                go_region_with (go_at_call 50; refine (goodInstr_any _ _ _ _ _ _ _ _).mono ?_; rintro e w2 ⟨rfl, hb2⟩; rw [unhide HRR])
                all_goals
                  go_wp2
                  exact ⟨⟨j + 1, by omega, by go_num, bnext hwi.drew hb2, unhide hyes2 HRR.out⟩, by simp [intOf]; omega⟩
            · have hIA := hide (all_whole (p := insOk v 13) (xs := X.instrs) (k := j) (by omega) halli.out)
              have e2 := (hwi.cell (p := ⟨b, o + k * 5 + 1, none⟩) (by show b < _; omega)).trans f2
              have e3 := (hwi.cell (p := ⟨b, o + k * 5 + 1 + 1, none⟩) (by show b < _; omega)).trans f3
              have e4 := (hwi.cell (p := ⟨b, o + k * 5 + 1 + 2, none⟩) (by show b < _; omega)).trans f4
              have e5 := (hwi.cell (p := ⟨b, o + k * 5 + 1 + 3, none⟩) (by show b < _; omega)).trans f5
              clear f1 f2 f3 f4 f5 k0 k1
              cases hr : terOk v 0 n ⟨X.term.kind, X.term.a, X.term.to, X.term.els⟩
              · have HRR := hide hr
                clear hr
                go_wp2
                go_region_with (go_at_call 51; refine (goodTerm_any _ _ _ _ _ _ _ _).mono ?_; rintro e w2 ⟨rfl, hb2⟩; rw [unhide HRR])
                all_goals
                  go_wp2
                  go_ret
                  exact ⟨ret_bool (by rw [hR.out, unhide hno (by rw [hBK.out, HRR.out]; simp)]), bnext HB1.out (bnext hwi.drew hb2)⟩
              · have HRR := hide hr
                clear hr
                go_wp2
                go_region_with (go_at_call 51; refine (goodTerm_any _ _ _ _ _ _ _ _).mono ?_; rintro e w2 ⟨rfl, hb2⟩; rw [unhide HRR])
                all_goals
                  go_wp2
                  exact ⟨⟨k + 1, by omega, by go_num, bnext hwi.drew hb2, unhide hyes (by rw [hBK.out, HRR.out, hIA.out]; rfl)⟩, by simp [intOf]; omega⟩
        · have hBL := hide (all_whole (p := mOk v n) (xs := xs) (k := k) (by have := hx.out; omega) hall.out)
          go_wp2
          go_ret
          exact ⟨ret_bool (by rw [hR.out, hBL.out]), bnext HB1.out hw⟩
  · have hR : Hid (validM v xs = false) := validM_no (by have := hx.out; omega)
    have hd' : v < 1 ∨ (1 ≤ v ∧ 64 < v) ∨ (1 ≤ v ∧ v ≤ 64 ∧ n < 1) ∨ (1 ≤ v ∧ v ≤ 64 ∧ 1 ≤ n ∧ 3000 < n) := by omega
    clear hd
    rcases hd' with d | ⟨d, d1⟩ | ⟨d, d1, d2⟩ | ⟨d, d1, d2, d3⟩
    all_goals
      go_enter Tryd.func39, Tryd.ntmps39
      go_wp2
      go_ret
      exact ⟨ret_bool hR.out.symm, balloc (Below.refl _ _) _⟩
end Go.Proofs.YtdcdgopblbmgoaaDoor

namespace Go.Proofs.YtdcdgopblbmgoaaDoor
open Go.RowKit

set_option maxHeartbeats 400000 in
theorem validImm_any (op dst a b imm : Int) (w : World) :
    Calls Tryd.prog 131 #[.agg #[.int .i64 op, .int .i64 dst, .int .i64 a, .int .i64 b, .int .i64 imm]] w fun e w' => e = .returned (.bool (immOk ⟨op, dst, a, b, imm⟩)) ∧ Below w.heap.size w w' := by
  go_enter Tryd.func131, Tryd.ntmps131
  go_wp2
  all_goals
    go_ret
    refine ⟨ret_bool ?_, balloc (Below.refl _ _) _⟩
    first | (simp [immOk, *]; done) | (simp [immOk, *]; omega)

/-- What the table of the instructions' forms (variable 0) holds. -/
def OpTab (w : World) : Prop := 0 < w.heap.size ∧ ∀ k : Nat, 1 ≤ k → k ≤ 13 → ∃ s, w.cell? ⟨0, k * 5, none⟩ = some (.string s) ∧ w.cell? ⟨0, k * 5 + 1, none⟩ = some (.bool (dB k)) ∧ w.cell? ⟨0, k * 5 + 2, none⟩ = some (.bool (aB k)) ∧
  w.cell? ⟨0, k * 5 + 3, none⟩ = some (.bool (bB k)) ∧ ∃ i, w.cell? ⟨0, k * 5 + 4, none⟩ = some (.bool i)
/-- What the table of the ends' forms (variable 1) holds. -/
def TerTab (w : World) : Prop := 1 < w.heap.size ∧ ∀ k : Nat, 1 ≤ k → k ≤ 3 → ∃ s, w.cell? ⟨1, k * 4, none⟩ = some (.string s) ∧ w.cell? ⟨1, k * 4 + 1, none⟩ = some (.bool ((k : Int) != 1)) ∧ w.cell? ⟨1, k * 4 + 2, none⟩ = some (.bool ((k : Int) != 3)) ∧
  w.cell? ⟨1, k * 4 + 3, none⟩ = some (.bool ((k : Int) == 2))
theorem OpTab.keep {w w' : World} (h : OpTab w) (k : Below w.heap.size w w') : OpTab w' := by
  refine ⟨Nat.lt_of_lt_of_le h.1 k.size, fun i h1 h2 => ?_⟩
  have e := fun o => cell_of (o := o) (k.block 0 h.1)
  obtain ⟨s, c0, c1, c2, c3, j, c4⟩ := h.2 i h1 h2
  exact ⟨s, (e _).trans c0, (e _).trans c1, (e _).trans c2, (e _).trans c3, j, (e _).trans c4⟩
theorem TerTab.keep {w w' : World} (h : TerTab w) (k : Below w.heap.size w w') : TerTab w' := by
  refine ⟨Nat.lt_of_lt_of_le h.1 k.size, fun i h1 h2 => ?_⟩
  have e := fun o => cell_of (o := o) (k.block 1 h.1)
  obtain ⟨s, c0, c1, c2, c3⟩ := h.2 i h1 h2
  exact ⟨s, (e _).trans c0, (e _).trans c1, (e _).trans c2, (e _).trans c3⟩

set_option maxHeartbeats 1000000 in
theorem validInstr_gen (op dst a b imm n most : Int) (w : World) (hm : most ≤ 13) (hT : Hid (OpTab w)) :
    Calls Tryd.prog 91 #[.agg #[.int .i64 op, .int .i64 dst, .int .i64 a, .int .i64 b, .int .i64 imm], .int .i64 most, .int .i64 n] w fun e w' => e = .returned (.bool (insOk n most ⟨op, dst, a, b, imm⟩)) ∧ Below w.heap.size w w' := by
  by_cases h : 1 ≤ op ∧ op ≤ most
  · obtain ⟨h1, h2⟩ := h
    obtain ⟨k, rfl⟩ := Int.eq_ofNat_of_zero_le (show 0 ≤ op by omega)
    have hz := hT.out.1
    obtain ⟨s, c0, c1, c2, c3, j, c4⟩ := hT.out.2 k (by omega) (by omega)
    have hR : Hid (insOk n most ⟨k, dst, a, b, imm⟩ = (fld (dB k) dst 0 n && fld (aB k) a 0 n && fld (bB k) b 0 n && immOk ⟨k, dst, a, b, imm⟩)) := by
      show _ = _
      unfold insOk
      rw [decide_eq_true h1, decide_eq_true h2]
      simp
    generalize dB (k : Int) = uD at *
    generalize aB (k : Int) = uA at *
    generalize bB (k : Int) = uB at *
    have hk13 : (k : Int) ≤ 13 := by omega
    go_enter Tryd.func91, Tryd.ntmps91
    go_wp2_with (first | (go_at_call 102; refine (validField_any _ _ _ _ _).mono ?_; rintro e w2 ⟨rfl, hw2⟩; rw [hw2]; clear hw2 w2) | (go_at_call 131; refine (validImm_any _ _ _ _ _ _).mono ?_; rintro e w2 ⟨rfl, hb2⟩))
    all_goals
      go_ret
      refine ⟨ret_bool ?_, ?_⟩
      · rw [hR.out]; simp [*]
      · first | exact bnext (balloc (balloc (Below.refl _ _) _) _) hb2 | exact balloc (balloc (Below.refl _ _) _) _
  · have hn : ∃ r, r = insOk n most ⟨op, dst, a, b, imm⟩ ∧ r = false := ⟨_, rfl, by
      unfold insOk
      by_cases h1 : 1 ≤ op
      · rw [decide_eq_false (p := op ≤ most) (by omega)]; simp
      · rw [decide_eq_false (p := 1 ≤ op) h1]; simp⟩
    obtain ⟨r, hr, rfl⟩ := hn
    rw [← hr]
    clear hr
    have h' : op < 1 ∨ (1 ≤ op ∧ most < op) := by omega
    clear h
    rcases h' with h' | ⟨h', h''⟩
    all_goals
      go_enter Tryd.func91, Tryd.ntmps91
      go_wp2
      all_goals
        go_ret
        exact ⟨rfl, balloc (Below.refl _ _) _⟩

theorem validInstr_any (op dst a b imm n : Int) (w : World) (hT : Hid (OpTab w)) :
    Calls Tryd.prog 91 #[.agg #[.int .i64 op, .int .i64 dst, .int .i64 a, .int .i64 b, .int .i64 imm], .int .i64 10, .int .i64 n] w fun e w' => e = .returned (.bool (insOk n 10 ⟨op, dst, a, b, imm⟩)) ∧ Below w.heap.size w w' :=
  validInstr_gen op dst a b imm n 10 w (by decide) hT

set_option maxHeartbeats 1000000 in
theorem validTerm_any (kind ta to els n low bl : Int) (w : World) (hT : Hid (TerTab w)) :
    Calls Tryd.prog 90 #[.agg #[.int .i64 kind, .int .i64 ta, .int .i64 to, .int .i64 els], .int .i64 n, .int .i64 low, .int .i64 bl] w fun e w' => e = .returned (.bool (terOk n low bl ⟨kind, ta, to, els⟩)) ∧ Below w.heap.size w w' := by
  by_cases h : 1 ≤ kind ∧ kind ≤ 3
  · obtain ⟨h1, h2⟩ := h
    obtain ⟨k, rfl⟩ := Int.eq_ofNat_of_zero_le (show 0 ≤ kind by omega)
    have hz := hT.out.1
    obtain ⟨s, c0, c1, c2, c3⟩ := hT.out.2 k (by omega) (by omega)
    have hR : Hid (terOk n low bl ⟨k, ta, to, els⟩ = (fld ((k : Int) != 1) ta 0 n && fld ((k : Int) != 3) to low bl && fld ((k : Int) == 2) els low bl)) := by
      show _ = _
      unfold terOk
      rw [decide_eq_true h1, decide_eq_true h2]
      simp
    generalize ((k : Int) != 1) = uA at *
    generalize ((k : Int) != 3) = uT at *
    generalize ((k : Int) == 2) = uE at *
    go_enter Tryd.func90, Tryd.ntmps90
    go_wp2_with (go_at_call 102; refine (validField_any _ _ _ _ _).mono ?_; rintro e w2 ⟨rfl, hw2⟩; rw [hw2]; clear hw2 w2)
    all_goals
      go_ret
      refine ⟨ret_bool ?_, ?_⟩
      · rw [hR.out]; simp [*]
      · exact balloc (balloc (Below.refl _ _) _) _
  · have hn : ∃ r, r = terOk n low bl ⟨kind, ta, to, els⟩ ∧ r = false := ⟨_, rfl, terOk_no h⟩
    obtain ⟨r, hr, rfl⟩ := hn
    rw [← hr]
    clear hr
    have h' : kind < 1 ∨ 3 < kind := by omega
    clear h
    go_enter Tryd.func90, Tryd.ntmps90
    go_wp2
    all_goals
      go_ret
      exact ⟨rfl, balloc (Below.refl _ _) _⟩

set_option maxHeartbeats 400000 in
theorem targetsI_any (t : Ter) (w : World) :
    Calls Tryd.prog 114 #[.agg #[.int .i64 t.kind, .int .i64 t.a, .int .i64 t.to, .int .i64 t.els]] w fun e w' => ∃ a c, e = .returned (.slice a t.targets.length c) ∧ Below w.heap.size w w' ∧ IntsAt w' w.heap.size w'.heap.size a t.targets := by
  obtain ⟨kind, ta, to, els⟩ := t
  by_cases h1 : kind = 1
  · subst h1
    go_enter Tryd.func114, Tryd.ntmps114
    go_wp2
    go_ret
    refine ⟨_, _, rfl, balloc (balloc (Below.refl _ _) _) _, fun i hi => ?_⟩
    simp [Ter.targets] at hi
    subst hi
    exact ⟨_, _, rfl, ⟨by simp, by simp⟩, by simp [Ter.targets]⟩
  · by_cases h2 : kind = 2
    · subst h2
      go_enter Tryd.func114, Tryd.ntmps114
      go_wp2
      go_ret
      refine ⟨_, _, rfl, balloc (balloc (Below.refl _ _) _) _, fun i hi => ?_⟩
      simp [Ter.targets] at hi
      match i, hi with
      | 0, _ => exact ⟨_, _, rfl, ⟨by simp, by simp⟩, by simp [Ter.targets]⟩
      | 1, _ => exact ⟨_, _, rfl, ⟨by simp, by simp⟩, by simp [Ter.targets]⟩
    · have e1 : (kind == 1) = false := by simp [h1]
      have e2 : (kind == 2) = false := by simp [h2]
      have hn : (Ter.targets ⟨kind, ta, to, els⟩) = [] := by simp [Ter.targets, h1, h2]
      rw [hn]
      clear h1 h2 hn
      go_enter Tryd.func114, Tryd.ntmps114
      go_wp2
      go_ret
      exact ⟨_, _, rfl, balloc (Below.refl _ _) _, fun i hi => absurd hi (by simp)⟩
end Go.Proofs.YtdcdgopblbmgoaaDoor
