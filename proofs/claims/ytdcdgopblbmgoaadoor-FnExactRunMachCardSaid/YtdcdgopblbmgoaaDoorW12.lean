import Derived.Test.YtdcdgopblbmgoaaDoorW8
import Derived.Test.YtdcdgopblbmgoaaDoorRunT
namespace Go.Proofs.YtdcdgopblbmgoaaDoor
open Go.RowKit

theorem terms_no {F : Fn} {k : Nat} (hk : k < F.blocks.length) (h : terOk' F.values F.blocks.length F.blocks[k].term = false) : termsOk F = false := all_no hk h

set_option maxHeartbeats 2000000 in
theorem validTerms_any (v : Int) (a : Option Addr) (n c : Nat) (xs : List Blk) (L B : Nat) (w : World) (ha : Hid (BlksAt w L B a xs)) (hx : Hid (n = xs.length)) (hn : n ≤ 1048576) (hB : B ≤ w.heap.size) (hT : Hid (TerTab w)) :
    Calls Tryd.prog 57 #[.agg #[.int .i64 v, .slice a n c]] w fun e w' => e = .returned (.bool (termsOk ⟨v, xs⟩)) ∧ Below w.heap.size w w' := by
  have hbox : ∀ o, (w.alloc o).heap.size = w.heap.size + 1 := fun o => by simp
  go_enter Tryd.func57, Tryd.ntmps57
  go_wp2
  go_loopw [9] (fun i wr => ∃ k : Nat, k ≤ n ∧ i = .int .i64 k ∧ Below w.heap.size w wr ∧ w.heap.size < wr.heap.size ∧ wr.cell? ⟨w.heap.size, 0, none⟩ = some (.int .i64 v) ∧ wr.cell? ⟨w.heap.size, 1, none⟩ = some (.slice a n c) ∧ Hid ((xs.take k).all (fun x => terOk' v xs.length x.term) = true)) (fun i _ => n - (intOf i).toNat)
  case atStart => exact ⟨0, Nat.zero_le _, rfl, balloc (Below.refl _ _) _, by simp, by simp, by simp, rfl⟩
  case round =>
    obtain ⟨k, hk, rfl, hw, hsz, hc0, hc1, hall⟩ := hrel
    by_cases hlt : k < n
    · have hkx : k < xs.length := by have := hx.out; omega
      obtain ⟨b, o, rfl, ⟨_, hbB⟩, hc⟩ := ha.out k hkx
      obtain ⟨pa, pc, ia, ic, e0, e1, ⟨e2, e3, e4, e5⟩, _, _⟩ := hc.keep (hw.mono hB) (by omega)
      have HT := hide (hT.out.keep hw)
      have hno := hide (fun h => terms_no (F := ⟨v, xs⟩) (k := k) hkx h)
      have hyes := hide (fun h => all_take_next (p := fun x : Blk => terOk' v xs.length x.term) hkx hall.out h)
      rw [← hx.out] at hyes
      clear hc
      generalize xs[k] = X at *
      have hterm : X.term = ⟨X.term.kind, X.term.a, X.term.to, X.term.els⟩ := rfl
      have hTT : Hid (terOk' v n X.term = (terOk v 1 n ⟨X.term.kind, X.term.a, X.term.to, X.term.els⟩ && !(X.term.kind == 2 && X.term.to == X.term.els))) := rfl
      clear hterm
      cases hr : terOk v 1 n ⟨X.term.kind, X.term.a, X.term.to, X.term.els⟩
      · have HR := hide hr
        clear hr
        go_wp2_with fail
        refine (validTerm_any _ _ _ _ _ _ _ _ ?q1).mono ?_
        case q1 => exact HT.out.keep (balloc (balloc (Below.refl _ _) _) _)
        rintro e w2 ⟨rfl, hb2⟩
        rw [unhide HR]
        go_wp2
        go_ret
        exact ⟨ret_bool (unhide hno (by have e := hx.out; show terOk' v xs.length X.term = false; rw [← e, hTT.out, HR.out]; rfl)).symm, bnext (balloc (balloc hw _) _) hb2⟩
      · have HR := hide hr
        clear hr
        by_cases hq : X.term.kind = 2 ∧ X.term.to = X.term.els
        · have q1 : (X.term.kind == 2) = true := by simp [hq.1]
          have q2 : (X.term.to == X.term.els) = true := by simp [hq.2]
          clear hq
          go_wp2_with fail
          refine (validTerm_any _ _ _ _ _ _ _ _ ?q1).mono ?_
          case q1 => exact HT.out.keep (balloc (balloc (Below.refl _ _) _) _)
          rintro e w2 ⟨rfl, hb2⟩
          rw [unhide HR]
          have hz2 := hb2.size
          simp at hz2
          obtain ⟨hf1, hf2⟩ := bcell hb2
          have hz3 : wr.heap.size + 1 < w2.heap.size := by omega
          go_wp2
          go_ret
          exact ⟨ret_bool (unhide hno (by have e := hx.out; show terOk' v xs.length X.term = false; rw [← e, hTT.out, HR.out, q1, q2]; rfl)).symm, bnext (balloc (balloc hw _) _) hb2⟩
        · have hq' : (X.term.kind == 2) = false ∨ ((X.term.kind == 2) = true ∧ (X.term.to == X.term.els) = false) := by simp only [beq_eq_false_iff_ne, beq_iff_eq]; omega
          clear hq
          rcases hq' with q1 | ⟨q1, q2⟩
          all_goals
            go_wp2_with fail
            refine (validTerm_any _ _ _ _ _ _ _ _ ?q1).mono ?_
            case q1 => exact HT.out.keep (balloc (balloc (Below.refl _ _) _) _)
            rintro e w2 ⟨rfl, hb2⟩
            rw [unhide HR]
            have hz2 := hb2.size
            simp at hz2
            obtain ⟨hf1, hf2⟩ := bcell hb2
            have hz3 : wr.heap.size + 1 < w2.heap.size := by omega
            go_wp2
            have hb3 := bnext (balloc (balloc (Below.refl wr.heap.size wr) _) _) hb2
            exact ⟨⟨k + 1, by omega, by go_num, bnext hw hb3, by omega, (hb3.cell (p := ⟨w.heap.size, 0, none⟩) hsz).trans hc0, (hb3.cell (p := ⟨w.heap.size, 1, none⟩) hsz).trans hc1, by
              have e := hx.out
              rw [← e]
              exact unhide hyes (by show terOk' v n X.term = true; rw [hTT.out, HR.out]; first | rw [q1]; rfl | rw [q1, q2]; rfl)⟩, by simp [intOf]; omega⟩
    · go_wp2
      go_ret
      exact ⟨ret_bool (all_whole (xs := xs) (k := k) (by have := hx.out; omega) hall.out).symm, hw⟩
end Go.Proofs.YtdcdgopblbmgoaaDoor

namespace Go.Proofs.YtdcdgopblbmgoaaDoor
open Go.RowKit

set_option maxHeartbeats 2000000 in
theorem validInstrs_any (v : Int) (a : Option Addr) (n c : Nat) (xs : List Blk) (L B : Nat) (w : World) (ha : Hid (BlksAt w L B a xs)) (hx : Hid (n = xs.length)) (hn : n ≤ 1048576) (hl : Hid (∀ x ∈ xs, x.instrs.length ≤ 1048576)) (hB : B ≤ w.heap.size) (hT : Hid (OpTab w)) :
    Calls Tryd.prog 58 #[.agg #[.int .i64 v, .slice a n c]] w fun e w' => e = .returned (.bool (instrsOk ⟨v, xs⟩)) ∧ Below w.heap.size w w' := by
  go_enter Tryd.func58, Tryd.ntmps58
  go_wp2
  go_loopw [10] (fun i wr => ∃ k : Nat, k ≤ n ∧ i = .int .i64 k ∧ Below w.heap.size w wr ∧ w.heap.size < wr.heap.size ∧ wr.cell? ⟨w.heap.size, 0, none⟩ = some (.int .i64 v) ∧ Hid ((xs.take k).all (fun x => x.instrs.all (insOk v 10)) = true)) (fun i _ => n - (intOf i).toNat)
  case atStart => exact ⟨0, Nat.zero_le _, rfl, balloc (Below.refl _ _) _, by simp, by simp, rfl⟩
  case round =>
    obtain ⟨k, hk, rfl, hw, hsz, hc0, hall⟩ := hrel
    by_cases hlt : k < n
    · have hkx : k < xs.length := by have := hx.out; omega
      obtain ⟨b, o, rfl, ⟨_, hbB⟩, hc⟩ := ha.out k hkx
      obtain ⟨pa, pc, ia, ic, e0, e1, ⟨e2, e3, e4, e5⟩, _, hi⟩ := hc.keep (hw.mono hB) (by omega)
      have hno := hide (fun h => all_no (p := fun x : Blk => x.instrs.all (insOk v 10)) (xs := xs) (k := k) hkx h)
      have hyes := hide (fun h => all_take_next (p := fun x : Blk => x.instrs.all (insOk v 10)) hkx hall.out h)
      have hil := hl.out _ (List.getElem_mem hkx)
      have HI := hide hi
      have hwz := hw.size
      clear hc hi
      generalize xs[k] = X at *
      go_wp2
      go_loopw [17] (fun i wi => ∃ j : Nat, j ≤ X.instrs.length ∧ i = .int .i64 j ∧ Below wr.heap.size wr wi ∧ Hid ((X.instrs.take j).all (insOk v 10) = true)) (fun i _ => X.instrs.length - (intOf i).toNat)
      case atStart => exact ⟨0, Nat.zero_le _, rfl, balloc (Below.refl _ _) _, rfl⟩
      case round =>
        obtain ⟨j, hj, rfl, hwi, halli⟩ := hrel
        have hB2 := bnext hw hwi
        have f0 := (hwi.cell (p := ⟨w.heap.size, 0, none⟩) hsz).trans hc0
        have hsz2 : w.heap.size < wr.heap.size := by have := hwi.size; omega
        clear e0 e1 e2 e3 e4 e5
        by_cases hjt : j < X.instrs.length
        · obtain ⟨b', o', rfl, ⟨_, hbB'⟩, hc'⟩ := HI.out j hjt
          obtain ⟨g0, g1, g2, g3, g4⟩ := hc'.keep hwi (by omega)
          have HT := hide (hT.out.keep hB2)
          have hno2 := hide (fun h => all_no (p := insOk v 10) (xs := X.instrs) (k := j) hjt h)
          have hyes2 := hide (fun h => all_take_next (p := insOk v 10) hjt halli.out h)
          clear hc'
          generalize X.instrs[j] = P at *
          cases hr : insOk v 10 ⟨P.op, P.dst, P.a, P.b, P.imm⟩
          · have HR := hide hr
            clear hr
            go_wp2_with fail
            refine (validInstr_any _ _ _ _ _ _ _ ?q1).mono ?_
            case q1 => exact HT.out.keep (balloc (Below.refl _ _) _)
            rintro e w2 ⟨rfl, hb2⟩
            rw [unhide HR]
            go_wp2
            go_ret
            exact ⟨ret_bool (unhide hno (unhide hno2 HR.out)).symm, bnext (balloc hB2 _) hb2⟩
          · have HR := hide hr
            clear hr
            go_wp2_with fail
            refine (validInstr_any _ _ _ _ _ _ _ ?q1).mono ?_
            case q1 => exact HT.out.keep (balloc (Below.refl _ _) _)
            rintro e w2 ⟨rfl, hb2⟩
            rw [unhide HR]
            go_wp2
            exact ⟨⟨j + 1, by omega, by go_num, bnext (balloc hwi _) hb2, unhide hyes2 HR.out⟩, by simp [intOf]; omega⟩
        · go_wp2
          exact ⟨⟨k + 1, by omega, by go_num, hB2, hsz2, f0, unhide hyes (all_whole (xs := X.instrs) (k := j) (by omega) halli.out)⟩, by simp [intOf]; omega⟩
    · go_wp2
      go_ret
      exact ⟨ret_bool (all_whole (xs := xs) (k := k) (by have := hx.out; omega) hall.out).symm, hw⟩
end Go.Proofs.YtdcdgopblbmgoaaDoor
