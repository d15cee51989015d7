import Derived.Test.YtdcdgopblbmgoaaDoorW7
import Derived.Test.YtdcdgopblbmgoaaDoorW9
namespace Go.Proofs.YtdcdgopblbmgoaaDoor
open Go.RowKit

theorem sizeOk_yes {F : Fn} (h0 : 0 ≤ F.values) (h1 : F.values ≤ 2000) (h2 : 1 ≤ F.blocks.length) (h3 : F.blocks.length ≤ 1000) (h4 : blksSize F.blocks ≤ 4000) : sizeOk F = true := by simp [sizeOk, *]
theorem sizeOk_big {F : Fn} (h4 : 4000 < blksSize F.blocks) : sizeOk F = false := by simp [sizeOk]; omega
theorem sizeOk_head {F : Fn} (h : ¬ (0 ≤ F.values ∧ F.values ≤ 2000 ∧ 1 ≤ F.blocks.length ∧ F.blocks.length ≤ 1000)) : sizeOk F = false := by simp [sizeOk]; omega

set_option maxHeartbeats 2000000 in
theorem validSize_any (v : Int) (a : Option Addr) (n c : Nat) (xs : List Blk) (L B : Nat) (w : World) (ha : Hid (BlksAt w L B a xs)) (hx : Hid (n = xs.length)) (hn : n ≤ 1048576) (hs : blksSize xs ≤ 1048576) (hB : B ≤ w.heap.size) :
    Calls Tryd.prog 56 #[.agg #[.int .i64 v, .slice a n c]] w fun e w' => e = .returned (.bool (sizeOk ⟨v, xs⟩)) ∧ Below w.heap.size w w' := by
  by_cases hd : 0 ≤ v ∧ v ≤ 2000 ∧ 1 ≤ n ∧ n ≤ 1000
  · obtain ⟨d0, d1, d2, d3⟩ := hd
    go_enter Tryd.func56, Tryd.ntmps56
    go_wp2
    go_loopw [3, 31] (fun u i wr => ∃ k : Nat, k ≤ n ∧ i = .int .i64 k ∧ u = .int .i64 (blksSize (xs.take k) : Nat) ∧ blksSize (xs.take k) ≤ 4000 ∧ Below w.heap.size w wr) (fun _ i _ => n - (intOf i).toNat)
    case atStart => exact ⟨0, Nat.zero_le _, rfl, rfl, by simp [blksSize], balloc (Below.refl _ _) _⟩
    case round =>
      obtain ⟨k, hk, rfl, rfl, hle, hw⟩ := hrel
      by_cases hlt : k < n
      · have hkx : k < xs.length := by have := hx.out; omega
        obtain ⟨b, o, rfl, ⟨_, hbB⟩, hc⟩ := ha.out k hkx
        obtain ⟨pa, pc, ia, ic, e0, e1, ⟨e2, e3, e4, e5⟩, hp, _⟩ := hc.keep (hw.mono hB) (by omega)
        have HP := hide (hp.keep (balloc (Below.refl wr.heap.size wr) (.cells #[.slice pa xs[k].phis.length pc, .slice ia xs[k].instrs.length ic, .int .i64 xs[k].term.kind, .int .i64 xs[k].term.a, .int .i64 xs[k].term.to, .int .i64 xs[k].term.els] 80) |>.mono (by have := hw.size; omega)))
        have h1 : Hid (blksSize (xs.take (k + 1)) = blksSize (xs.take k) + (1 + xs[k].instrs.length + phSize xs[k].phis)) := by show _ = _; rw [take_next _ _ hkx, blksSize_snoc]
        have h2 := blksSize_take xs (k + 1)
        have H2 := hide h2
        have hb1 : blksSize (xs.take k) + (1 + xs[k].instrs.length + phSize xs[k].phis) ≤ 1048576 := by have := h1.out; omega
        have hpl : xs[k].phis.length ≤ 1048576 := by have := phSize_len xs[k].phis; omega
        have HW := hide (balloc hw (.cells #[.slice pa xs[k].phis.length pc, .slice ia xs[k].instrs.length ic, .int .i64 xs[k].term.kind, .int .i64 xs[k].term.a, .int .i64 xs[k].term.to, .int .i64 xs[k].term.els] 80))
        have hwz := hw.size
        clear hc hp h2
        generalize xs[k] = X at *
        generalize hS : blksSize (xs.take k) = S at *
        have HS := hide hS
        clear hS
        go_wp2
        go_loopw [3, 44] (fun u i wi => ∃ j : Nat, j ≤ X.phis.length ∧ i = .int .i64 j ∧ u = .int .i64 (S + (1 + X.instrs.length) + phSize (X.phis.take j) : Nat) ∧ Below w.heap.size w wi) (fun _ i _ => X.phis.length - (intOf i).toNat)
        case atStart => exact ⟨0, Nat.zero_le _, rfl, by simp [phSize]; try omega, HW.out⟩
        case round =>
          obtain ⟨j, hj, rfl, rfl, hwi⟩ := hrel
          by_cases hjt : j < X.phis.length
          · obtain ⟨b', o', rfl, ⟨_, hbB'⟩, aa, cc, g0, g1, _⟩ := HP.out j hjt
            have g0' : wr.cell? ⟨b', o' + j * 2, none⟩ = some (.int .i64 X.phis[j].dst) := by
              have q := (HW.out.cell (p := ⟨b', o' + j * 2, none⟩) (by show b' < _; omega))
              exact (hwi.cell (p := ⟨b', o' + j * 2, none⟩) (by show b' < _; omega)).trans (q.symm.trans g0)
            have g1' : wr.cell? ⟨b', o' + j * 2 + 1, none⟩ = some (.slice aa X.phis[j].args.length cc) := by
              have q := (HW.out.cell (p := ⟨b', o' + j * 2 + 1, none⟩) (by show b' < _; omega))
              exact (hwi.cell (p := ⟨b', o' + j * 2 + 1, none⟩) (by show b' < _; omega)).trans (q.symm.trans g1)
            have h3 : Hid (phSize (X.phis.take (j + 1)) = phSize (X.phis.take j) + (1 + X.phis[j].args.length)) := by show _ = _; rw [take_next _ _ hjt, phSize_snoc]
            have h4 := phSize_take X.phis (j + 1)
            have hb2 : phSize (X.phis.take j) + (1 + X.phis[j].args.length) ≤ phSize X.phis := by have := h3.out; omega
            clear h4 g0 g1
            generalize X.phis[j] = P at *
            generalize hT : phSize (X.phis.take j) = T at *
            have HT := hide hT
            clear hT
            by_cases hgt : 4000 < S + (1 + X.instrs.length) + (T + (1 + P.args.length))
            · go_wp2
              go_ret
              exact ⟨ret_bool (sizeOk_big (by have := h1.out; have := H2.out; show 4000 < blksSize xs; omega)).symm, balloc hwi _⟩
            · go_wp2
              exact ⟨⟨j + 1, by omega, by go_num, by rw [h3.out]; go_num, balloc hwi _⟩, by simp [intOf]; omega⟩
          · have E := hide (List.take_of_length_le (l := X.phis) (i := j) (by omega))
            by_cases hgt : 4000 < S + (1 + X.instrs.length) + phSize (X.phis.take j)
            · go_wp2
              go_ret
              exact ⟨ret_bool (sizeOk_big (by have := h1.out; have := H2.out; have e := E.out; rw [e] at hgt; show 4000 < blksSize xs; omega)).symm, hwi⟩
            · go_wp2
              have e := E.out
              rw [e] at hgt ⊢
              exact ⟨⟨k + 1, by omega, by go_num, by rw [h1.out]; go_num, by rw [h1.out]; omega, hwi⟩, by simp [intOf]; omega⟩
      · go_wp2
        go_ret
        have e := List.take_of_length_le (l := xs) (i := k) (by have := hx.out; omega)
        rw [e] at hle
        exact ⟨ret_bool (sizeOk_yes d0 d1 (by have := hx.out; show 1 ≤ xs.length; omega) (by have := hx.out; show xs.length ≤ 1000; omega) hle).symm, hw⟩
  · have hR : Hid (sizeOk ⟨v, xs⟩ = false) := sizeOk_head (F := ⟨v, xs⟩) (by have := hx.out; show ¬ (0 ≤ v ∧ v ≤ 2000 ∧ 1 ≤ xs.length ∧ xs.length ≤ 1000); omega)
    have hd' : v < 0 ∨ (0 ≤ v ∧ 2000 < v) ∨ (0 ≤ v ∧ v ≤ 2000 ∧ n < 1) ∨ (0 ≤ v ∧ v ≤ 2000 ∧ 1 ≤ n ∧ 1000 < n) := by omega
    clear hd
    rcases hd' with d | ⟨d, d1⟩ | ⟨d, d1, d2⟩ | ⟨d, d1, d2, d3⟩
    all_goals
      go_enter Tryd.func56, Tryd.ntmps56
      go_wp2
      go_ret
      exact ⟨ret_bool hR.out.symm, balloc (Below.refl _ _) _⟩
end Go.Proofs.YtdcdgopblbmgoaaDoor

namespace Go.Proofs.YtdcdgopblbmgoaaDoor
open Go.RowKit

theorem terms_no {F : Fn} {k : Nat} (hk : k < F.blocks.length) (h : terOk' F.values F.blocks.length F.blocks[k].term = false) : termsOk F = false := all_no hk h

set_option maxHeartbeats 2000000 in
theorem validTerms_any (v : Int) (a : Option Addr) (n c : Nat) (xs : List Blk) (L B : Nat) (w : World) (ha : Hid (BlksAt w L B a xs)) (hx : Hid (n = xs.length)) (hn : n ≤ 1048576) (hB : B ≤ w.heap.size) (hT : Hid (TerTab w)) :
    Calls Tryd.prog 57 #[.agg #[.int .i64 v, .slice a n c]] w fun e w' => e = .returned (.bool (termsOk ⟨v, xs⟩)) ∧ Below w.heap.size w w' := by
  have hbox : ∀ o, (w.alloc o).heap.size = w.heap.size + 1 := fun o => by simp
  go_enter Tryd.func57, Tryd.ntmps57
  go_wp2
  go_loopw [9] (fun i wr => ∃ k : Nat, k ≤ n ∧ i = .int .i64 k ∧ Below w.heap.size w wr ∧ w.heap.size < wr.heap.size ∧ wr.cell? ⟨w.heap.size, 0, none⟩ = some (.int .i64 v) ∧ wr.cell? ⟨w.heap.size, 1, none⟩ = some (.slice a n c) ∧ Hid ((xs.take k).all (fun x => terOk' v xs.length x.term) = true)) (fun i _ => n - (intOf i).toNat)
  case atStart => exact ⟨0, Nat.zero_le _, rfl, balloc (Below.refl _ _) _, by simp, by simp, by simp, rfl⟩
  case round =>
    obtain ⟨k, hk, rfl, hw, hsz, hc0, hc1, hall⟩ := hrel
    by_cases hlt : k < n
    · have hkx : k < xs.length := by have := hx.out; omega
      obtain ⟨b, o, rfl, ⟨_, hbB⟩, hc⟩ := ha.out k hkx
      obtain ⟨pa, pc, ia, ic, e0, e1, ⟨e2, e3, e4, e5⟩, _, _⟩ := hc.keep (hw.mono hB) (by omega)
      have HT := hide (hT.out.keep hw)
      have hno := hide (fun h => terms_no (F := ⟨v, xs⟩) (k := k) hkx h)
      have hyes := hide (fun h => all_take_next (p := fun x : Blk => terOk' v xs.length x.term) hkx hall.out h)
      rw [← hx.out] at hyes
      clear hc
      generalize xs[k] = X at *
      have hterm : X.term = ⟨X.term.kind, X.term.a, X.term.to, X.term.els⟩ := rfl
      have hTT : Hid (terOk' v n X.term = (terOk v 1 n ⟨X.term.kind, X.term.a, X.term.to, X.term.els⟩ && !(X.term.kind == 2 && X.term.to == X.term.els))) := rfl
      clear hterm
      cases hr : terOk v 1 n ⟨X.term.kind, X.term.a, X.term.to, X.term.els⟩
      · have HR := hide hr
        clear hr
        go_wp2_with fail
        refine (validTerm_any _ _ _ _ _ _ _ _ ?q1).mono ?_
        case q1 => exact HT.out.keep (balloc (balloc (Below.refl _ _) _) _)
        rintro e w2 ⟨rfl, hb2⟩
        rw [unhide HR]
        go_wp2
        go_ret
        exact ⟨ret_bool (unhide hno (by have e := hx.out; show terOk' v xs.length X.term = false; rw [← e, hTT.out, HR.out]; rfl)).symm, bnext (balloc (balloc hw _) _) hb2⟩
      · have HR := hide hr
        clear hr
        by_cases hq : X.term.kind = 2 ∧ X.term.to = X.term.els
        · have q1 : (X.term.kind == 2) = true := by simp [hq.1]
          have q2 : (X.term.to == X.term.els) = true := by simp [hq.2]
          clear hq
          go_wp2_with fail
          refine (validTerm_any _ _ _ _ _ _ _ _ ?q1).mono ?_
          case q1 => exact HT.out.keep (balloc (balloc (Below.refl _ _) _) _)
          rintro e w2 ⟨rfl, hb2⟩
          rw [unhide HR]
          have hz2 := hb2.size
          simp at hz2
          obtain ⟨hf1, hf2⟩ := bcell hb2
          have hz3 : wr.heap.size + 1 < w2.heap.size := by omega
          go_wp2
          go_ret
          exact ⟨ret_bool (unhide hno (by have e := hx.out; show terOk' v xs.length X.term = false; rw [← e, hTT.out, HR.out, q1, q2]; rfl)).symm, bnext (balloc (balloc hw _) _) hb2⟩
        · have hq' : (X.term.kind == 2) = false ∨ ((X.term.kind == 2) = true ∧ (X.term.to == X.term.els) = false) := by simp only [beq_eq_false_iff_ne, beq_iff_eq]; omega
          clear hq
          rcases hq' with q1 | ⟨q1, q2⟩
          all_goals
            go_wp2_with fail
            refine (validTerm_any _ _ _ _ _ _ _ _ ?q1).mono ?_
            case q1 => exact HT.out.keep (balloc (balloc (Below.refl _ _) _) _)
            rintro e w2 ⟨rfl, hb2⟩
            rw [unhide HR]
            have hz2 := hb2.size
            simp at hz2
            obtain ⟨hf1, hf2⟩ := bcell hb2
            have hz3 : wr.heap.size + 1 < w2.heap.size := by omega
            go_wp2
            have hb3 := bnext (balloc (balloc (Below.refl wr.heap.size wr) _) _) hb2
            exact ⟨⟨k + 1, by omega, by go_num, bnext hw hb3, by omega, (hb3.cell (p := ⟨w.heap.size, 0, none⟩) hsz).trans hc0, (hb3.cell (p := ⟨w.heap.size, 1, none⟩) hsz).trans hc1, by
              have e := hx.out
              rw [← e]
              exact unhide hyes (by show terOk' v n X.term = true; rw [hTT.out, HR.out]; first | rw [q1]; rfl | rw [q1, q2]; rfl)⟩, by simp [intOf]; omega⟩
    · go_wp2
      go_ret
      exact ⟨ret_bool (all_whole (xs := xs) (k := k) (by have := hx.out; omega) hall.out).symm, hw⟩
end Go.Proofs.YtdcdgopblbmgoaaDoor
