import Derived.Test.YtanaeindldcapaaDoorW7
import Derived.Test.YtanaeindldcapaaDoorW10
namespace Go.Proofs.YtanaeindldcapaaDoor
open Go.RowKit
theorem phSize_snoc (ps : List Ph) (p : Ph) : phSize (ps ++ [p]) = phSize ps + (1 + p.args.length) := by simp [phSize]
theorem blksSize_snoc (xs : List Blk) (x : Blk) : blksSize (xs ++ [x]) = blksSize xs + (1 + x.instrs.length + phSize x.phis) := by simp [blksSize, blkSize]
theorem phSize_len (ps : List Ph) : ps.length ≤ phSize ps := by
  induction ps with
  | nil => simp
  | cons p ps ih => simp only [phSize, List.map_cons, List.sum_cons, List.length_cons] at ih ⊢; omega
theorem phSize_take (ps : List Ph) (k : Nat) : phSize (ps.take k) ≤ phSize ps := sum_take_le _ _ _
theorem blksSize_take (xs : List Blk) (k : Nat) : blksSize (xs.take k) ≤ blksSize xs := sum_take_le _ _ _
set_option maxHeartbeats 1000000 in
theorem l1Size_any (v : Int) (a : Option Addr) (n c : Nat) (xs : List Blk) (L B : Nat) (w : World) (ha : Hid (BlksAt w L B a xs)) (hx : Hid (n = xs.length)) (hn : n ≤ 1048576) (hs : blksSize xs ≤ 1048576) (hB : B ≤ w.heap.size) :
    Calls Tryd.prog 21 #[.agg #[.int .i64 v, .slice a n c]] w fun e w' => e = .returned (.int .i64 (blksSize xs)) ∧ Below w.heap.size w w' := by
  go_enter Tryd.func21, Tryd.ntmps21
  go_wp2
  have hbel := balloc (Below.refl w.heap.size w) (.cells #[.int .i64 v, .slice a n c] 29)
  have hbox : (w.alloc (.cells #[.int .i64 v, .slice a n c] 29)).cell? ⟨w.heap.size, 1, none⟩ = some (.slice a n c) := by simp
  generalize w.alloc (.cells #[.int .i64 v, .slice a n c] 29) = w1 at *
  go_loop [3, 4] (fun u i => ∃ k : Nat, k ≤ n ∧ i = .int .i64 k ∧ u = .int .i64 (blksSize (xs.take k) : Nat)) (fun _ i => n - (intOf i).toNat)
  case atStart => exact ⟨0, Nat.zero_le _, rfl, rfl⟩
  case round =>
    obtain ⟨k, hk, rfl, rfl⟩ := hrel
    by_cases hlt : k < n
    · have hkx : k < xs.length := by have := hx.out; omega
      obtain ⟨b, o, rfl, ⟨_, hbB⟩, hc⟩ := ha.out k hkx
      obtain ⟨pa, pc, ia, ic, e0, e1, _, hp, _⟩ := hc.keep (hbel.mono hB) (by omega)
      have HP := hide hp
      have h1 : Hid (blksSize (xs.take (k + 1)) = blksSize (xs.take k) + (1 + xs[k].instrs.length + phSize xs[k].phis)) := by show _ = _; rw [take_next _ _ hkx, blksSize_snoc]
      have h2 := blksSize_take xs (k + 1)
      have H2 := hide h2
      have hb1 : blksSize (xs.take k) + (1 + xs[k].instrs.length + phSize xs[k].phis) ≤ 1048576 := by have := h1.out; omega
      have hpl : xs[k].phis.length ≤ 1048576 := by have := phSize_len xs[k].phis; omega
      clear hc hp h2
      generalize xs[k] = X at *
      generalize hS : blksSize (xs.take k) = S at *
      have HS := hide hS
      clear hS
      go_wp2
      go_loop [3, 5] (fun u i => ∃ j : Nat, j ≤ X.phis.length ∧ i = .int .i64 j ∧ u = .int .i64 (S + (1 + X.instrs.length) + phSize (X.phis.take j) : Nat)) (fun _ i => X.phis.length - (intOf i).toNat)
      case atStart => exact ⟨0, Nat.zero_le _, rfl, by simp [phSize]; try omega⟩
      case round =>
        obtain ⟨j, hj, rfl, rfl⟩ := hrel
        by_cases hjt : j < X.phis.length
        · obtain ⟨b', o', rfl, ⟨_, hbB'⟩, aa, cc, g0, g1, _⟩ := HP.out j hjt
          have h3 : Hid (phSize (X.phis.take (j + 1)) = phSize (X.phis.take j) + (1 + X.phis[j].args.length)) := by show _ = _; rw [take_next _ _ hjt, phSize_snoc]
          have h4 := phSize_take X.phis (j + 1)
          have hb2 : phSize (X.phis.take j) + (1 + X.phis[j].args.length) ≤ phSize X.phis := by have := h3.out; omega
          have H4 := hide h4
          clear h4
          generalize X.phis[j] = P at *
          generalize hT : phSize (X.phis.take j) = T at *
          have HT := hide hT
          clear hT
          go_wp2
          go_round
          case rel => exact ⟨j + 1, by omega, by go_num, by rw [h3.out]; go_num⟩
          case measure => simp [intOf]; omega
        · have e := List.take_of_length_le (l := X.phis) (i := j) (by omega)
          have E := hide e
          clear e
          go_wp2
          go_round
          case rel => exact ⟨k + 1, by omega, by go_num, by rw [h1.out, E.out]; go_num⟩
          case measure => simp [intOf]; omega
    · have e := List.take_of_length_le (l := xs) (i := k) (by have := hx.out; omega)
      have E := hide e
      clear e
      go_wp2
      go_ret
      exact ⟨ret_int (by rw [E.out]), hbel⟩
theorem sizeOk_yes {F : Fn} (h0 : 0 ≤ F.values) (h1 : F.values ≤ 2000) (h2 : 1 ≤ F.blocks.length) (h3 : F.blocks.length ≤ 1000) (h4 : blksSize F.blocks ≤ 4000) : sizeOk F = true := by simp [sizeOk, *]
theorem sizeOk_big {F : Fn} (h4 : 4000 < blksSize F.blocks) : sizeOk F = false := by simp [sizeOk]; omega
theorem sizeOk_head {F : Fn} (h : ¬ (0 ≤ F.values ∧ F.values ≤ 2000 ∧ 1 ≤ F.blocks.length ∧ F.blocks.length ≤ 1000)) : sizeOk F = false := by simp [sizeOk]; omega
set_option maxHeartbeats 2000000 in
theorem validSize_any (v : Int) (a : Option Addr) (n c : Nat) (xs : List Blk) (L B : Nat) (w : World) (ha : Hid (BlksAt w L B a xs)) (hx : Hid (n = xs.length)) (hn : n ≤ 1048576) (hs : blksSize xs ≤ 1048576) (hB : B ≤ w.heap.size) :
    Calls Tryd.prog 31 #[.agg #[.int .i64 v, .slice a n c]] w fun e w' => e = .returned (.bool (sizeOk ⟨v, xs⟩)) ∧ Below w.heap.size w w' := by
  by_cases hd : 0 ≤ v ∧ v ≤ 2000 ∧ 1 ≤ n ∧ n ≤ 1000
  · obtain ⟨d0, d1, d2, d3⟩ := hd
    go_enter Tryd.func31, Tryd.ntmps31
    go_wp2
    go_loopw [3, 31] (fun u i wr => ∃ k : Nat, k ≤ n ∧ i = .int .i64 k ∧ u = .int .i64 (blksSize (xs.take k) : Nat) ∧ blksSize (xs.take k) ≤ 4000 ∧ Below w.heap.size w wr) (fun _ i _ => n - (intOf i).toNat)
    case atStart => exact ⟨0, Nat.zero_le _, rfl, rfl, by simp [blksSize], balloc (Below.refl _ _) _⟩
    case round =>
      obtain ⟨k, hk, rfl, rfl, hle, hw⟩ := hrel
      by_cases hlt : k < n
      · have hkx : k < xs.length := by have := hx.out; omega
        obtain ⟨b, o, rfl, ⟨_, hbB⟩, hc⟩ := ha.out k hkx
        obtain ⟨pa, pc, ia, ic, e0, e1, ⟨e2, e3, e4, e5⟩, hp, _⟩ := hc.keep (hw.mono hB) (by omega)
        have HP := hide (hp.keep (balloc (Below.refl wr.heap.size wr) (.cells #[.slice pa xs[k].phis.length pc, .slice ia xs[k].instrs.length ic, .int .i64 xs[k].term.kind, .int .i64 xs[k].term.a, .int .i64 xs[k].term.to, .int .i64 xs[k].term.els] 66) |>.mono (by have := hw.size; omega)))
        have h1 : Hid (blksSize (xs.take (k + 1)) = blksSize (xs.take k) + (1 + xs[k].instrs.length + phSize xs[k].phis)) := by show _ = _; rw [take_next _ _ hkx, blksSize_snoc]
        have h2 := blksSize_take xs (k + 1)
        have H2 := hide h2
        have hb1 : blksSize (xs.take k) + (1 + xs[k].instrs.length + phSize xs[k].phis) ≤ 1048576 := by have := h1.out; omega
        have hpl : xs[k].phis.length ≤ 1048576 := by have := phSize_len xs[k].phis; omega
        have HW := hide (balloc hw (.cells #[.slice pa xs[k].phis.length pc, .slice ia xs[k].instrs.length ic, .int .i64 xs[k].term.kind, .int .i64 xs[k].term.a, .int .i64 xs[k].term.to, .int .i64 xs[k].term.els] 66))
        have hwz := hw.size
        clear hc hp h2
        generalize xs[k] = X at *
        generalize hS : blksSize (xs.take k) = S at *
        have HS := hide hS
        clear hS
        go_wp2
        go_loopw [3, 44] (fun u i wi => ∃ j : Nat, j ≤ X.phis.length ∧ i = .int .i64 j ∧ u = .int .i64 (S + (1 + X.instrs.length) + phSize (X.phis.take j) : Nat) ∧ Below w.heap.size w wi) (fun _ i _ => X.phis.length - (intOf i).toNat)
        case atStart => exact ⟨0, Nat.zero_le _, rfl, by simp [phSize]; try omega, HW.out⟩
        case round =>
          obtain ⟨j, hj, rfl, rfl, hwi⟩ := hrel
          by_cases hjt : j < X.phis.length
          · obtain ⟨b', o', rfl, ⟨_, hbB'⟩, aa, cc, g0, g1, _⟩ := HP.out j hjt
            have g0' : wr.cell? ⟨b', o' + j * 2, none⟩ = some (.int .i64 X.phis[j].dst) := by
              have q := (HW.out.cell (p := ⟨b', o' + j * 2, none⟩) (by show b' < _; omega))
              exact (hwi.cell (p := ⟨b', o' + j * 2, none⟩) (by show b' < _; omega)).trans (q.symm.trans g0)
            have g1' : wr.cell? ⟨b', o' + j * 2 + 1, none⟩ = some (.slice aa X.phis[j].args.length cc) := by
              have q := (HW.out.cell (p := ⟨b', o' + j * 2 + 1, none⟩) (by show b' < _; omega))
              exact (hwi.cell (p := ⟨b', o' + j * 2 + 1, none⟩) (by show b' < _; omega)).trans (q.symm.trans g1)
            have h3 : Hid (phSize (X.phis.take (j + 1)) = phSize (X.phis.take j) + (1 + X.phis[j].args.length)) := by show _ = _; rw [take_next _ _ hjt, phSize_snoc]
            have h4 := phSize_take X.phis (j + 1)
            have hb2 : phSize (X.phis.take j) + (1 + X.phis[j].args.length) ≤ phSize X.phis := by have := h3.out; omega
            clear h4 g0 g1
            generalize X.phis[j] = P at *
            generalize hT : phSize (X.phis.take j) = T at *
            have HT := hide hT
            clear hT
            by_cases hgt : 4000 < S + (1 + X.instrs.length) + (T + (1 + P.args.length))
            · go_wp2
              go_ret
              exact ⟨ret_bool (sizeOk_big (by have := h1.out; have := H2.out; show 4000 < blksSize xs; omega)).symm, balloc hwi _⟩
            · go_wp2
              exact ⟨⟨j + 1, by omega, by go_num, by rw [h3.out]; go_num, balloc hwi _⟩, by simp [intOf]; omega⟩
          · have E := hide (List.take_of_length_le (l := X.phis) (i := j) (by omega))
            by_cases hgt : 4000 < S + (1 + X.instrs.length) + phSize (X.phis.take j)
            · go_wp2
              go_ret
              exact ⟨ret_bool (sizeOk_big (by have := h1.out; have := H2.out; have e := E.out; rw [e] at hgt; show 4000 < blksSize xs; omega)).symm, hwi⟩
            · go_wp2
              have e := E.out
              rw [e] at hgt ⊢
              exact ⟨⟨k + 1, by omega, by go_num, by rw [h1.out]; go_num, by rw [h1.out]; omega, hwi⟩, by simp [intOf]; omega⟩
      · go_wp2
        go_ret
        have e := List.take_of_length_le (l := xs) (i := k) (by have := hx.out; omega)
        rw [e] at hle
        exact ⟨ret_bool (sizeOk_yes d0 d1 (by have := hx.out; show 1 ≤ xs.length; omega) (by have := hx.out; show xs.length ≤ 1000; omega) hle).symm, hw⟩
  · have hR : Hid (sizeOk ⟨v, xs⟩ = false) := sizeOk_head (F := ⟨v, xs⟩) (by have := hx.out; show ¬ (0 ≤ v ∧ v ≤ 2000 ∧ 1 ≤ xs.length ∧ xs.length ≤ 1000); omega)
    have hd' : v < 0 ∨ (0 ≤ v ∧ 2000 < v) ∨ (0 ≤ v ∧ v ≤ 2000 ∧ n < 1) ∨ (0 ≤ v ∧ v ≤ 2000 ∧ 1 ≤ n ∧ 1000 < n) := by omega
    clear hd
    rcases hd' with d | ⟨d, d1⟩ | ⟨d, d1, d2⟩ | ⟨d, d1, d2, d3⟩
    all_goals
      go_enter Tryd.func31, Tryd.ntmps31
      go_wp2
      go_ret
      exact ⟨ret_bool hR.out.symm, balloc (Below.refl _ _) _⟩
theorem terms_no {F : Fn} {k : Nat} (hk : k < F.blocks.length) (h : terOk' F.values F.blocks.length F.blocks[k].term = false) : termsOk F = false := all_no hk h
set_option maxHeartbeats 2000000 in
theorem validTerms_any (v : Int) (a : Option Addr) (n c : Nat) (xs : List Blk) (L B : Nat) (w : World) (ha : Hid (BlksAt w L B a xs)) (hx : Hid (n = xs.length)) (hn : n ≤ 1048576) (hB : B ≤ w.heap.size) (hT : Hid (TerTab w)) :
    Calls Tryd.prog 32 #[.agg #[.int .i64 v, .slice a n c]] w fun e w' => e = .returned (.bool (termsOk ⟨v, xs⟩)) ∧ Below w.heap.size w w' := by
  have hbox : ∀ o, (w.alloc o).heap.size = w.heap.size + 1 := fun o => by simp
  go_enter Tryd.func32, Tryd.ntmps32
  go_wp2
  go_loopw [9] (fun i wr => ∃ k : Nat, k ≤ n ∧ i = .int .i64 k ∧ Below w.heap.size w wr ∧ w.heap.size < wr.heap.size ∧ wr.cell? ⟨w.heap.size, 0, none⟩ = some (.int .i64 v) ∧ wr.cell? ⟨w.heap.size, 1, none⟩ = some (.slice a n c) ∧ Hid ((xs.take k).all (fun x => terOk' v xs.length x.term) = true)) (fun i _ => n - (intOf i).toNat)
  case atStart => exact ⟨0, Nat.zero_le _, rfl, balloc (Below.refl _ _) _, by simp, by simp, by simp, rfl⟩
  case round =>
    obtain ⟨k, hk, rfl, hw, hsz, hc0, hc1, hall⟩ := hrel
    by_cases hlt : k < n
    · have hkx : k < xs.length := by have := hx.out; omega
      obtain ⟨b, o, rfl, ⟨_, hbB⟩, hc⟩ := ha.out k hkx
      obtain ⟨pa, pc, ia, ic, e0, e1, ⟨e2, e3, e4, e5⟩, _, _⟩ := hc.keep (hw.mono hB) (by omega)
      have HT := hide (hT.out.keep hw)
      have hno := hide (fun h => terms_no (F := ⟨v, xs⟩) (k := k) hkx h)
      have hyes := hide (fun h => all_take_next (p := fun x : Blk => terOk' v xs.length x.term) hkx hall.out h)
      rw [← hx.out] at hyes
      clear hc
      generalize xs[k] = X at *
      have hterm : X.term = ⟨X.term.kind, X.term.a, X.term.to, X.term.els⟩ := rfl
      have hTT : Hid (terOk' v n X.term = (terOk v 1 n ⟨X.term.kind, X.term.a, X.term.to, X.term.els⟩ && !(X.term.kind == 2 && X.term.to == X.term.els))) := rfl
      clear hterm
      cases hr : terOk v 1 n ⟨X.term.kind, X.term.a, X.term.to, X.term.els⟩
      · have HR := hide hr
        clear hr
        go_wp2_with fail
        refine (validTerm_any _ _ _ _ _ _ _ _ ?q1).mono ?_
        case q1 => exact HT.out.keep (balloc (balloc (Below.refl _ _) _) _)
        rintro e w2 ⟨rfl, hb2⟩
        rw [unhide HR]
        go_wp2
        go_ret
        exact ⟨ret_bool (unhide hno (by have e := hx.out; show terOk' v xs.length X.term = false; rw [← e, hTT.out, HR.out]; rfl)).symm, bnext (balloc (balloc hw _) _) hb2⟩
      · have HR := hide hr
        clear hr
        by_cases hq : X.term.kind = 2 ∧ X.term.to = X.term.els
        · have q1 : (X.term.kind == 2) = true := by simp [hq.1]
          have q2 : (X.term.to == X.term.els) = true := by simp [hq.2]
          clear hq
          go_wp2_with fail
          refine (validTerm_any _ _ _ _ _ _ _ _ ?q1).mono ?_
          case q1 => exact HT.out.keep (balloc (balloc (Below.refl _ _) _) _)
          rintro e w2 ⟨rfl, hb2⟩
          rw [unhide HR]
          have hz2 := hb2.size
          simp at hz2
          obtain ⟨hf1, hf2⟩ := bcell hb2
          have hz3 : wr.heap.size + 1 < w2.heap.size := by omega
          go_wp2
          go_ret
          exact ⟨ret_bool (unhide hno (by have e := hx.out; show terOk' v xs.length X.term = false; rw [← e, hTT.out, HR.out, q1, q2]; rfl)).symm, bnext (balloc (balloc hw _) _) hb2⟩
        · have hq' : (X.term.kind == 2) = false ∨ ((X.term.kind == 2) = true ∧ (X.term.to == X.term.els) = false) := by simp only [beq_eq_false_iff_ne, beq_iff_eq]; omega
          clear hq
          rcases hq' with q1 | ⟨q1, q2⟩
          all_goals
            go_wp2_with fail
            refine (validTerm_any _ _ _ _ _ _ _ _ ?q1).mono ?_
            case q1 => exact HT.out.keep (balloc (balloc (Below.refl _ _) _) _)
            rintro e w2 ⟨rfl, hb2⟩
            rw [unhide HR]
            have hz2 := hb2.size
            simp at hz2
            obtain ⟨hf1, hf2⟩ := bcell hb2
            have hz3 : wr.heap.size + 1 < w2.heap.size := by omega
            go_wp2
            have hb3 := bnext (balloc (balloc (Below.refl wr.heap.size wr) _) _) hb2
            exact ⟨⟨k + 1, by omega, by go_num, bnext hw hb3, by omega, (hb3.cell (p := ⟨w.heap.size, 0, none⟩) hsz).trans hc0, (hb3.cell (p := ⟨w.heap.size, 1, none⟩) hsz).trans hc1, by
              have e := hx.out
              rw [← e]
              exact unhide hyes (by show terOk' v n X.term = true; rw [hTT.out, HR.out]; first | rw [q1]; rfl | rw [q1, q2]; rfl)⟩, by simp [intOf]; omega⟩
    · go_wp2
      go_ret
      exact ⟨ret_bool (all_whole (xs := xs) (k := k) (by have := hx.out; omega) hall.out).symm, hw⟩
set_option maxHeartbeats 2000000 in
theorem validInstrs_any (v : Int) (a : Option Addr) (n c : Nat) (xs : List Blk) (L B : Nat) (w : World) (ha : Hid (BlksAt w L B a xs)) (hx : Hid (n = xs.length)) (hn : n ≤ 1048576) (hl : Hid (∀ x ∈ xs, x.instrs.length ≤ 1048576)) (hB : B ≤ w.heap.size) (hT : Hid (OpTab w)) :
    Calls Tryd.prog 33 #[.agg #[.int .i64 v, .slice a n c]] w fun e w' => e = .returned (.bool (instrsOk ⟨v, xs⟩)) ∧ Below w.heap.size w w' := by
  go_enter Tryd.func33, Tryd.ntmps33
  go_wp2
  go_loopw [10] (fun i wr => ∃ k : Nat, k ≤ n ∧ i = .int .i64 k ∧ Below w.heap.size w wr ∧ w.heap.size < wr.heap.size ∧ wr.cell? ⟨w.heap.size, 0, none⟩ = some (.int .i64 v) ∧ Hid ((xs.take k).all (fun x => x.instrs.all (insOk v 10)) = true)) (fun i _ => n - (intOf i).toNat)
  case atStart => exact ⟨0, Nat.zero_le _, rfl, balloc (Below.refl _ _) _, by simp, by simp, rfl⟩
  case round =>
    obtain ⟨k, hk, rfl, hw, hsz, hc0, hall⟩ := hrel
    by_cases hlt : k < n
    · have hkx : k < xs.length := by have := hx.out; omega
      obtain ⟨b, o, rfl, ⟨_, hbB⟩, hc⟩ := ha.out k hkx
      obtain ⟨pa, pc, ia, ic, e0, e1, ⟨e2, e3, e4, e5⟩, _, hi⟩ := hc.keep (hw.mono hB) (by omega)
      have hno := hide (fun h => all_no (p := fun x : Blk => x.instrs.all (insOk v 10)) (xs := xs) (k := k) hkx h)
      have hyes := hide (fun h => all_take_next (p := fun x : Blk => x.instrs.all (insOk v 10)) hkx hall.out h)
      have hil := hl.out _ (List.getElem_mem hkx)
      have HI := hide hi
      have hwz := hw.size
      clear hc hi
      generalize xs[k] = X at *
      go_wp2
      go_loopw [17] (fun i wi => ∃ j : Nat, j ≤ X.instrs.length ∧ i = .int .i64 j ∧ Below wr.heap.size wr wi ∧ Hid ((X.instrs.take j).all (insOk v 10) = true)) (fun i _ => X.instrs.length - (intOf i).toNat)
      case atStart => exact ⟨0, Nat.zero_le _, rfl, balloc (Below.refl _ _) _, rfl⟩
      case round =>
        obtain ⟨j, hj, rfl, hwi, halli⟩ := hrel
        have hB2 := bnext hw hwi
        have f0 := (hwi.cell (p := ⟨w.heap.size, 0, none⟩) hsz).trans hc0
        have hsz2 : w.heap.size < wr.heap.size := by have := hwi.size; omega
        clear e0 e1 e2 e3 e4 e5
        by_cases hjt : j < X.instrs.length
        · obtain ⟨b', o', rfl, ⟨_, hbB'⟩, hc'⟩ := HI.out j hjt
          obtain ⟨g0, g1, g2, g3, g4⟩ := hc'.keep hwi (by omega)
          have HT := hide (hT.out.keep hB2)
          have hno2 := hide (fun h => all_no (p := insOk v 10) (xs := X.instrs) (k := j) hjt h)
          have hyes2 := hide (fun h => all_take_next (p := insOk v 10) hjt halli.out h)
          clear hc'
          generalize X.instrs[j] = P at *
          cases hr : insOk v 10 ⟨P.op, P.dst, P.a, P.b, P.imm⟩
          · have HR := hide hr
            clear hr
            go_wp2_with fail
            refine (validInstr_any _ _ _ _ _ _ _ ?q1).mono ?_
            case q1 => exact HT.out.keep (balloc (Below.refl _ _) _)
            rintro e w2 ⟨rfl, hb2⟩
            rw [unhide HR]
            go_wp2
            go_ret
            exact ⟨ret_bool (unhide hno (unhide hno2 HR.out)).symm, bnext (balloc hB2 _) hb2⟩
          · have HR := hide hr
            clear hr
            go_wp2_with fail
            refine (validInstr_any _ _ _ _ _ _ _ ?q1).mono ?_
            case q1 => exact HT.out.keep (balloc (Below.refl _ _) _)
            rintro e w2 ⟨rfl, hb2⟩
            rw [unhide HR]
            go_wp2
            exact ⟨⟨j + 1, by omega, by go_num, bnext (balloc hwi _) hb2, unhide hyes2 HR.out⟩, by simp [intOf]; omega⟩
        · go_wp2
          exact ⟨⟨k + 1, by omega, by go_num, hB2, hsz2, f0, unhide hyes (all_whole (xs := X.instrs) (k := j) (by omega) halli.out)⟩, by simp [intOf]; omega⟩
    · go_wp2
      go_ret
      exact ⟨ret_bool (all_whole (xs := xs) (k := k) (by have := hx.out; omega) hall.out).symm, hw⟩
end Go.Proofs.YtanaeindldcapaaDoor
