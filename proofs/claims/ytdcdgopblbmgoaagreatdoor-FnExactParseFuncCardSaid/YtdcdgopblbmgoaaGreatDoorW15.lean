import Derived.Test.YtdcdgopblbmgoaaGreatDoorW9
import Derived.Test.YtdcdgopblbmgoaaGreatDoorE9a
import Derived.Test.YtdcdgopblbmgoaaGreatDoorW16
import Derived.Test.YtdcdgopblbmgoaaGreatDoorW12
namespace Go.Proofs.YtdcdgopblbmgoaaGreatDoor
open Go.RowKit

/-- A row of counters: how often each value stands in D. -/
def Cnt (w : World) (G m : Nat) (D : List Int) : Prop := ∃ f, w.rowIs G 2 m f ∧ ∀ i, i < m → f i = .int .i64 (countEq D i : Nat)
theorem Cnt.below {w w' : World} {G m : Nat} {D : List Int} (h : Cnt w G m D) (k : Below w.heap.size w w') : Cnt w' G m D := by
  obtain ⟨f, h1, h2⟩ := h
  exact ⟨f, h1.of_block (k.block _ h1.lt), h2⟩
theorem Cnt.lt {w : World} {G m : Nat} {D : List Int} (h : Cnt w G m D) : G < w.heap.size := by
  obtain ⟨f, h1, _⟩ := h
  exact h1.lt
theorem Cnt.cell {w : World} {G m : Nat} {D : List Int} (h : Cnt w G m D) {t : Nat} (ht : t < m) : w.cell? ⟨G, t, none⟩ = some (.int .i64 (countEq D t : Nat)) ∧ w.frozen? ⟨G, t, none⟩ = false := by
  obtain ⟨f, h1, h2⟩ := h
  exact ⟨by rw [h1.cell ht, h2 t ht], h1.frozen t⟩
theorem countEq_snoc (D : List Int) (x v : Int) : countEq (D ++ [x]) v = countEq D v + if x = v then 1 else 0 := by
  simp only [countEq, List.filter_append, List.length_append]
  by_cases h : x = v <;> simp [h]
theorem countEq_le (D : List Int) (v : Int) : countEq D v ≤ D.length := List.length_filter_le _ _
theorem Cnt.step {w : World} {G m : Nat} {D : List Int} (h : Cnt w G m D) {t : Nat} {x : Int} (hx : x = ((countEq D t : Nat) : Int) + 1) : Cnt (w.setCell ⟨G, t, none⟩ (.int .i64 x)) G m (D ++ [(t : Int)]) := by
  obtain ⟨f, h1, h2⟩ := h
  refine ⟨_, h1.set t _, fun i hi => ?_⟩
  rw [countEq_snoc]
  by_cases e : i = t
  · subst e
    simp [hx]
  · have e2 : ¬ (t : Int) = (i : Int) := by omega
    simp only [e, if_false, e2, Nat.add_zero]
    exact h2 i hi

theorem Cnt.born (w : World) (m : Nat) : Cnt (w.alloc (.cells (madeCells #[.int .i64 0] m) 2)) w.heap.size m [] := ⟨_, World.rowIs_made _ _ _ _, fun i _ => by simp [countEq]⟩

def DstOk (xs : List Blk) (m : Nat) : Prop := ∀ x ∈ xs, (∀ p ∈ x.phis, 0 ≤ p.dst ∧ p.dst < (m : Int)) ∧ ∀ y ∈ x.instrs, 1 ≤ y.op ∧ y.op ≤ 10 ∧ (dB y.op = true → 0 ≤ y.dst ∧ y.dst < (m : Int))

set_option maxHeartbeats 4000000 in
theorem definedOnce_any (m : Nat) (a : Option Addr) (n c : Nat) (xs : List Blk) (L B : Nat) (w : World) (ha : Hid (BlksAt w L B a xs)) (hx : Hid (n = xs.length)) (hn : n ≤ 1048576) (hm : m ≤ 2000) (hs : Hid (blksTot xs ≤ 1048576)) (hB : B ≤ w.heap.size) (hT : Hid (OpTab w)) (hd : Hid (DstOk xs m)) :
    Calls Tryz.prog 62 #[.agg #[.int .i64 m, .slice a n c]] w fun e w' => e = .returned (.bool (onceOk ⟨m, xs⟩)) ∧ Below w.heap.size w w' := by
  have hmk := run_make_row' (P := Tryz.prog) 47 2 (.int .i64 0) 8 Tryz.underlying47 Tryz.info2 rfl .i64 .i64 m (by omega) (by omega)
  go_enter Tryz.func62, Tryz.ntmps62
  go_wp2
  go_loopw [18] (fun i wr => ∃ k : Nat, k ≤ n ∧ i = .int .i64 k ∧ Below w.heap.size w wr ∧ Hid (Cnt wr (w.heap.size + 1) m (blksDefs (xs.take k)))) (fun i _ => n - (intOf i).toNat)
  case atStart => exact ⟨0, Nat.zero_le _, rfl, balloc (balloc (Below.refl _ _) _) _, by have := Cnt.born (w.alloc (.cells #[.int .i64 m, .slice a n c] 25)) m; rw [World.size_alloc] at this; exact this⟩
  case round =>
    obtain ⟨k, hk, rfl, hw, hct⟩ := hrel
    by_cases hlt : k < n
    · have hkx : k < xs.length := by have := hx.out; omega
      obtain ⟨b, o, rfl, ⟨_, hbB⟩, hc⟩ := ha.out k hkx
      have HC := hide hc
      have hnx : Hid (blksDefs (xs.take (k + 1)) = blksDefs (xs.take k) ++ (phDefs xs[k].phis ++ insDefs xs[k].instrs)) := by
        show _ = _
        rw [take_next _ _ hkx, blksDefs_snoc]; rfl
      have hbd : (blksDefs (xs.take k)).length + (xs[k].phis.length + phTot xs[k].phis + xs[k].instrs.length) ≤ 1048576 := by
        have h1 := blksTot_take xs (k + 1)
        rw [take_next _ _ hkx, blksTot_snoc] at h1
        have h2 := blksDefs_len (xs.take k)
        have h3 := hs.out
        have h4 : blkTot xs[k] = xs[k].phis.length + phTot xs[k].phis + xs[k].instrs.length := rfl
        omega
      have hpl : xs[k].phis.length ≤ 1048576 := by omega
      have hil : xs[k].instrs.length ≤ 1048576 := by omega
      obtain ⟨hd1, hd2⟩ := hd.out _ (List.getElem_mem hkx)
      have HD1 := hide hd1
      have HD2 := hide hd2
      obtain ⟨pa, pc, ia, ic, e0, e1, ⟨e2, e3, e4, e5⟩, hp, hi⟩ := hc.keep (hw.mono hB) (by omega)
      have HP := hide hp
      have HI := hide hi
      have hct2 := hide (hct.out.below (balloc (Below.refl wr.heap.size wr) (.cells #[.slice pa xs[k].phis.length pc, .slice ia xs[k].instrs.length ic, .int .i64 xs[k].term.kind, .int .i64 xs[k].term.a, .int .i64 xs[k].term.to, .int .i64 xs[k].term.els] 46)))
      have hGz := hct.out.lt
      clear hc HC hd1 hd2 hp hi hct
      generalize hX : xs[k] = X at *
      clear hX
      generalize blksDefs (xs.take k) = D at *
      have hwz := hw.size
      go_wp2
      generalize hM : wr.heap.size = M at *
      have HM := hide hM
      clear hM e0 e1 e2 e3 e4 e5
      go_loopw [25] (fun i wi => ∃ j : Nat, j ≤ X.phis.length ∧ i = .int .i64 j ∧ Below w.heap.size w wi ∧ M < wi.heap.size ∧ wi.cell? ⟨M, 1, none⟩ = some (.slice ia X.instrs.length ic) ∧ Hid (Cnt wi (w.heap.size + 1) m (D ++ phDefs (X.phis.take j))) ∧ Hid (PhsAt wi L B pa X.phis) ∧ Hid (InssAt wi L B ia X.instrs)) (fun i _ => X.phis.length - (intOf i).toNat)
      case atStart =>
        have hMM := unhide HM
        subst hMM
        exact ⟨0, Nat.zero_le _, rfl, balloc hw _, by simp, by simp, by show Cnt _ _ _ _; simpa [phDefs] using hct2.out, HP.out.keep (balloc (Below.refl wr.heap.size wr) _ |>.mono (by omega)), HI.out.keep (balloc (Below.refl wr.heap.size wr) _ |>.mono (by omega))⟩
      case round =>
        clear hct2 HP HI hw HM
        obtain ⟨j, hj, rfl, hwi, hszi, hci, hcti, hpi, hii⟩ := hrel
        have hwiz := hwi.size
        by_cases hjt : j < X.phis.length
        · obtain ⟨b', o', rfl, ⟨_, hbB'⟩, aa, cc, g0, g1, _⟩ := hpi.out j hjt
          have h3 : Hid (D ++ phDefs (X.phis.take (j + 1)) = (D ++ phDefs (X.phis.take j)) ++ [X.phis[j].dst]) := by show _ = _; rw [take_next _ _ hjt, phDefs_snoc, List.append_assoc]
          have hl : (D ++ phDefs (X.phis.take j)).length ≤ 1048576 := by simp [phDefs]; omega
          obtain ⟨q0, q1⟩ := HD1.out _ (List.getElem_mem hjt)
          generalize X.phis[j] = P at *
          generalize D ++ phDefs (X.phis.take j) = D1 at *
          obtain ⟨d, ar⟩ := P
          dsimp only at q0 q1 g0 g1 h3
          obtain ⟨t, rfl⟩ := Int.eq_ofNat_of_zero_le q0
          have htm : t < m := by omega
          have hc2 := hcti.out.below (balloc (Below.refl wr.heap.size wr) (.cells #[.int .i64 t, .slice aa ar.length cc] 49))
          obtain ⟨k0, k1⟩ := hc2.cell htm
          have hcb := countEq_le D1 t
          have HC2 := hide hc2
          clear hc2
          generalize hQ : countEq D1 t = Q at *
          have HQ := hide hQ
          clear hQ
          go_wp2
          refine ⟨⟨j + 1, by omega, by go_num, (balloc hwi _).setCell (by dsimp only; omega) _, by rw [size_setCell]; simp; omega, ?_, ?_, ?_, ?_⟩, by simp [intOf]; omega⟩
          · rw [World.cell?_setCell_other _ _ _ _ (by intro e; cases e; omega)]
            exact ((balloc (Below.refl wr.heap.size wr) _).cell (p := ⟨M, 1, none⟩) hszi).trans hci
          · rw [h3.out]
            exact HC2.out.step (by rw [HQ.out])
          · exact hpi.out.keepS ((Same.of_below (balloc (Below.refl wr.heap.size wr) _ |>.mono (by omega))).setCell (Or.inr (by dsimp only; omega)) _)
          · exact hii.out.keepS ((Same.of_below (balloc (Below.refl wr.heap.size wr) _ |>.mono (by omega))).setCell (Or.inr (by dsimp only; omega)) _)
        · have hE := hide (List.take_of_length_le (l := X.phis) (i := j) (by omega))
          go_wp2
          go_loopw [40] (fun i wi => ∃ j : Nat, j ≤ X.instrs.length ∧ i = .int .i64 j ∧ Below w.heap.size w wi ∧ M < wi.heap.size ∧ Hid (Cnt wi (w.heap.size + 1) m (D ++ phDefs X.phis ++ insDefs (X.instrs.take j))) ∧ Hid (InssAt wi L B ia X.instrs)) (fun i _ => X.instrs.length - (intOf i).toNat)
          case atStart => exact ⟨0, Nat.zero_le _, rfl, hwi, hszi, by have := hcti.out; rw [hE.out] at this; show Cnt _ _ _ _; simpa [insDefs] using this, hii.out⟩
          case round =>
            clear hwi hszi hci hcti hpi hii hE hwiz
            obtain ⟨j, hj, rfl, hwi, hszi, hcti, hii⟩ := hrel
            have hwiz := hwi.size
            by_cases hjt : j < X.instrs.length
            · obtain ⟨b', o', rfl, ⟨_, hbB'⟩, g0, g1, g2, g3, g4⟩ := hii.out j hjt
              have h3 : Hid (D ++ phDefs X.phis ++ insDefs (X.instrs.take (j + 1)) = (D ++ phDefs X.phis ++ insDefs (X.instrs.take j)) ++ (if dB X.instrs[j].op then [X.instrs[j].dst] else [])) := by show _ = _; rw [take_next _ _ hjt, insDefs_snoc, ← List.append_assoc]
              have hl : (D ++ phDefs X.phis ++ insDefs (X.instrs.take j)).length ≤ 1048576 := by have := insDefs_len (X.instrs.take j); simp [phDefs] at this ⊢; omega
              obtain ⟨q0, q1, q2⟩ := HD2.out _ (List.getElem_mem hjt)
              generalize X.instrs[j] = P at *
              generalize D ++ phDefs X.phis ++ insDefs (X.instrs.take j) = D1 at *
              obtain ⟨op, d, pA, pB, pI⟩ := P
              dsimp only at q0 q1 q2 g0 g1 g2 g3 g4 h3
              obtain ⟨p, rfl⟩ := Int.eq_ofNat_of_zero_le (show 0 ≤ op by omega)
              have hT2 := hT.out.keep (balloc hwi (.cells #[.int .i64 p, .int .i64 d, .int .i64 pA, .int .i64 pB, .int .i64 pI] 53))
              obtain ⟨s, _, c1, _, _, _⟩ := hT2.2 p (by omega) (by omega)
              have hT0 : 0 < wr.heap.size := by omega
              have hc2 := hcti.out.below (balloc (Below.refl wr.heap.size wr) (.cells #[.int .i64 p, .int .i64 d, .int .i64 pA, .int .i64 pB, .int .i64 pI] 53))
              clear hT2
              cases hdb : dB p
              · rw [hdb] at c1
                have HDB := hide hdb
                have HC2 := hide hc2
                clear hdb hc2 q2
                go_wp2
                refine ⟨⟨j + 1, by omega, by go_num, balloc hwi _, by simp; omega, ?_, ?_⟩, by simp [intOf]; omega⟩
                · rw [h3.out, HDB.out]
                  show Cnt _ _ _ _
                  simpa using HC2.out
                · exact hii.out.keepS (Same.of_below (balloc (Below.refl wr.heap.size wr) _ |>.mono (by omega)))
              · obtain ⟨q3, q4⟩ := q2 hdb
                rw [hdb] at c1
                have HDB := hide hdb
                obtain ⟨t, rfl⟩ := Int.eq_ofNat_of_zero_le q3
                have htm : t < m := by omega
                obtain ⟨k0, k1⟩ := hc2.cell htm
                have hcb := countEq_le D1 t
                have HC2 := hide hc2
                clear hdb hc2 q2
                generalize hQ : countEq D1 t = Q at *
                have HQ := hide hQ
                clear hQ
                go_wp2
                refine ⟨⟨j + 1, by omega, by go_num, (balloc hwi _).setCell (by dsimp only; omega) _, by rw [size_setCell]; simp; omega, ?_, ?_⟩, by simp [intOf]; omega⟩
                · rw [h3.out, HDB.out, if_pos rfl]
                  exact HC2.out.step (by rw [HQ.out])
                · exact hii.out.keepS ((Same.of_below (balloc (Below.refl wr.heap.size wr) _ |>.mono (by omega))).setCell (Or.inr (by dsimp only; omega)) _)
            · have hE := hide (List.take_of_length_le (l := X.instrs) (i := j) (by omega))
              go_wp2
              exact ⟨⟨k + 1, by omega, by go_num, hwi, by have := hcti.out; rw [hE.out] at this; rw [hnx.out, ← List.append_assoc]; exact this⟩, by simp [intOf]; omega⟩
    · have hE := hide (List.take_of_length_le (l := xs) (i := k) (by have := hx.out; omega))
      have hct2 := hct.out
      rw [hE.out] at hct2
      have HCT := hide hct2
      clear hct2 hct
      go_wp2
      go_loop [60] (fun i => ∃ j : Nat, j ≤ m ∧ i = .int .i64 j ∧ Hid (∀ q, q < j → countEq (blksDefs xs) (q : Nat) = 1)) (fun i => m - (intOf i).toNat)
      case atStart => exact ⟨0, Nat.zero_le _, rfl, fun q hq => absurd hq (by omega)⟩
      case round =>
        obtain ⟨j, hj, rfl, hall⟩ := hrel
        by_cases hjt : j < m
        · obtain ⟨k0, k1⟩ := HCT.out.cell hjt
          generalize hQ : countEq (blksDefs xs) (j : Nat) = Q at *
          have HQ := hide hQ
          clear hQ k1
          by_cases h1 : Q = 1
          · subst h1
            go_wp2
            go_round
            case rel => exact ⟨j + 1, by omega, by go_num, fun q hq => if e : q = j then by subst e; exact HQ.out else hall.out q (by omega)⟩
            case measure => simp [intOf]; omega
          · have h2 : ((Q : Int) != 1) = true := by rw [bne_iff_ne]; omega
            have H1 := hide h1
            clear h1
            go_wp2
            go_ret
            exact ⟨ret_bool (by
              symm
              unfold onceOk
              rw [List.all_eq_false]
              exact ⟨j, by simpa using hjt, by simp only [HQ.out, beq_iff_eq]; exact H1.out⟩), hw⟩
        · go_wp2
          go_ret
          exact ⟨ret_bool (by
            symm
            unfold onceOk
            rw [List.all_eq_true]
            intro q hq
            rw [beq_iff_eq]
            exact hall.out q (by simp at hq; omega)), hw⟩
end Go.Proofs.YtdcdgopblbmgoaaGreatDoor

namespace Go.Proofs.YtdcdgopblbmgoaaGreatDoor
open Go.RowKit

theorem tgt_of_terms {v : Int} {xs : List Blk} (h : termsOk ⟨v, xs⟩ = true) : TgtOk xs xs.length := by
  intro x hx
  have h1 : terOk' v xs.length x.term = true := List.all_eq_true.1 h x hx
  simp only [terOk', terOk, Bool.and_eq_true, decide_eq_true_eq] at h1
  obtain ⟨⟨⟨⟨⟨h2, h3⟩, h4⟩, h5⟩, h6⟩, h7⟩ := h1
  have hc : x.term.kind = 1 ∨ x.term.kind = 2 ∨ x.term.kind = 3 := by omega
  rcases hc with e | e | e
  · simp only [e, fld] at h5
    simp [Ter.targets, e] at h5 ⊢
    omega
  · simp only [e, fld] at h5 h6 h7
    simp [Ter.targets, e] at h5 h6 h7 ⊢
    refine ⟨?_, h7⟩
    omega
  · simp [Ter.targets, e]

theorem dst_of_ok {m : Nat} {xs : List Blk} (h : instrsOk ⟨m, xs⟩ = true) (k : phisOkI ⟨m, xs⟩ = true) : DstOk xs m := by
  intro x hx
  constructor
  · intro p hp
    obtain ⟨j, hj, rfl⟩ := List.getElem_of_mem hx
    have h1 := (phisFrom_iff phOkI ⟨m, xs⟩ xs 0).1 k j hj
    have h2 := List.all_eq_true.1 h1 p hp
    simp only [phOkI, fld, Bool.and_eq_true, decide_eq_true_eq, if_true] at h2
    exact h2.1
  · intro y hy
    have h1 := List.all_eq_true.1 (List.all_eq_true.1 h x hx) y hy
    simp only [insOk, Bool.and_eq_true, decide_eq_true_eq] at h1
    obtain ⟨⟨⟨⟨⟨h2, h3⟩, h4⟩, _⟩, _⟩, _⟩ := h1
    refine ⟨h2, h3, fun hd => ?_⟩
    rw [hd] at h4
    simpa [fld] using h4

theorem blksSize_tot (xs : List Blk) : blksSize xs = xs.length + blksTot xs := by
  induction xs with
  | nil => rfl
  | cons x xs ih =>
    have h1 : blksSize (x :: xs) = blkSize x + blksSize xs := by simp [blksSize]
    have h2 : blksTot (x :: xs) = blkTot x + blksTot xs := by simp [blksTot]
    have h3 : phSize x.phis = x.phis.length + phTot x.phis := by
      generalize x.phis = ps
      induction ps with
      | nil => rfl
      | cons p ps ih => simp only [phSize, phTot, List.map_cons, List.sum_cons, List.length_cons] at ih ⊢; omega
    rw [h1, h2, ih, List.length_cons]
    simp only [blkSize, blkTot]
    omega

theorem tot_le {xs : List Blk} {x : Blk} (h : x ∈ xs) : x.phis.length + phTot x.phis + x.instrs.length ≤ blksTot xs := by
  induction xs with
  | nil => cases h
  | cons y ys ih =>
    have h2 : blksTot (y :: ys) = blkTot y + blksTot ys := by simp [blksTot]
    rcases List.mem_cons.1 h with rfl | h
    · rw [h2]; simp only [blkTot]; omega
    · have := ih h; omega
theorem ph_le {ps : List Ph} {p : Ph} (h : p ∈ ps) : p.args.length ≤ phTot ps := by
  induction ps with
  | nil => cases h
  | cons y ys ih =>
    have h2 : phTot (y :: ys) = y.args.length + phTot ys := by simp [phTot]
    rcases List.mem_cons.1 h with rfl | h
    · omega
    · have := ih h; omega
theorem len_of_tot {xs : List Blk} (h : xs.length + blksTot xs ≤ 1048576) : BlkLen xs := fun x hx => by
  have h1 := tot_le hx
  exact ⟨by omega, by omega, fun p hp => by have := ph_le hp; omega⟩

set_option maxHeartbeats 4000000 in
theorem validFuncI_any (v : Int) (a : Option Addr) (n c : Nat) (xs : List Blk) (L B : Nat) (w : World) (ha : Hid (BlksAt w L B a xs)) (hx : Hid (n = xs.length)) (hs : Hid (xs.length + blksTot xs ≤ 1048576)) (hB : B ≤ w.heap.size) (hO : Hid (OpTab w)) (hT : Hid (TerTab w)) :
    Calls Tryz.prog 42 #[.agg #[.int .i64 v, .slice a n c]] w fun e w' => e = .returned (.bool (validI ⟨v, xs⟩)) ∧ Below w.heap.size w w' := by
  have hn : n ≤ 1048576 := by have := hx.out; have := hs.out; omega
  have hbs : blksSize xs ≤ 1048576 := by rw [blksSize_tot]; exact hs.out
  have hlen := hide (len_of_tot hs.out)
  have ha1 := fun o => ha.out.keep ((balloc (Below.refl w.heap.size w) o).mono hB)
  have HBS := hide hbs
  clear hbs
  have hV : Hid (validI ⟨v, xs⟩ = (sizeOk ⟨v, xs⟩ && termsOk ⟨v, xs⟩ && instrsOk ⟨v, xs⟩ && phisOkI ⟨v, xs⟩ && onceOk ⟨v, xs⟩)) := rfl
  cases h1 : sizeOk ⟨v, xs⟩
  · have H1 := hide h1
    have hA1 := hide ha1
    clear h1 ha1
    go_enter Tryz.func42, Tryz.ntmps42
    go_wp2_with fail
    refine (validSize_any v a n c xs L B _ (unhide hA1 _) hx hn HBS.out (by simp; omega)).mono ?_
    rintro e w1 ⟨rfl, hb1⟩
    rw [unhide H1]
    go_wp2
    go_ret
    exact ⟨ret_bool (by rw [hV.out, H1.out]; rfl), bnext (balloc (Below.refl _ _) _) hb1⟩
  have H1 := hide h1
  have hA1 := hide ha1
  clear h1 ha1
  have hv0 : 0 ≤ v ∧ v ≤ 2000 := by
    have h := H1.out
    simp only [sizeOk, Bool.and_eq_true, decide_eq_true_eq] at h
    omega
  obtain ⟨m, rfl⟩ := Int.eq_ofNat_of_zero_le hv0.1
  have hm : m ≤ 2000 := by omega
  clear hv0
  go_enter Tryz.func42, Tryz.ntmps42
  go_wp2_with fail
  refine (validSize_any m a n c xs L B _ (unhide hA1 _) hx hn HBS.out (by simp; omega)).mono ?_
  rintro e w1 ⟨rfl, hb1⟩
  rw [unhide H1]
  obtain ⟨hc1, hf1⟩ := bcell hb1
  have k0 : w1.cell? ⟨w.heap.size, 0, none⟩ = some (.int .i64 m) := by rw [hc1 _ _ (by simp)]; simp
  have k1 : w1.cell? ⟨w.heap.size, 1, none⟩ = some (.slice a n c) := by rw [hc1 _ _ (by simp)]; simp
  have B1 := bnext (balloc (Below.refl w.heap.size w) _) hb1
  have hz1 := hb1.size
  simp at hz1
  have hA := hide (ha.out.keep (B1.mono hB))
  have hO1 := hide (hO.out.keep B1)
  have hT1 := hide (hT.out.keep B1)
  have HB1 := hide B1
  clear hc1 hf1 hb1 hA1 B1
  go_wp2_with fail
  refine (validTerms_any m a n c xs L B _ hA hx hn (by omega) hT1).mono ?_
  rintro e w2 ⟨rfl, hb2⟩
  cases h2 : termsOk ⟨m, xs⟩
  · have H2 := hide h2
    clear h2
    go_wp2
    go_ret
    exact ⟨ret_bool (by rw [hV.out, H1.out, H2.out]; rfl), bnext HB1.out hb2⟩
  have H2 := hide h2
  clear h2
  have hg := hide (tgt_of_terms H2.out)
  rw [← hx.out] at hg
  have k0' := (hb2.cell (p := ⟨w.heap.size, 0, none⟩) (by show w.heap.size < _; omega)).trans k0
  have k1' := (hb2.cell (p := ⟨w.heap.size, 1, none⟩) (by show w.heap.size < _; omega)).trans k1
  have hz2 := hb2.size
  have hA2 := hide (hA.out.keep (hb2.mono (by omega)))
  have hO2 := hide (hO1.out.keep hb2)
  have HB2 := hide (bnext HB1.out hb2)
  clear hb2 k0 k1
  go_wp2_with fail
  refine (validInstrs_any m a n c xs L B _ hA2 hx hn (fun x h => (hlen.out x h).2.1) (by omega) hO2).mono ?_
  rintro e w3 ⟨rfl, hb3⟩
  cases h3 : instrsOk ⟨m, xs⟩
  · have H3 := hide h3
    clear h3
    go_wp2
    go_ret
    exact ⟨ret_bool (by rw [hV.out, H1.out, H2.out, H3.out]; rfl), bnext HB2.out hb3⟩
  have H3 := hide h3
  clear h3
  have q0 := (hb3.cell (p := ⟨w.heap.size, 0, none⟩) (by show w.heap.size < _; omega)).trans k0'
  have q1 := (hb3.cell (p := ⟨w.heap.size, 1, none⟩) (by show w.heap.size < _; omega)).trans k1'
  have hz3 := hb3.size
  have hA3 := hide (hA2.out.keep (hb3.mono (by omega)))
  have hO3 := hide (hO2.out.keep hb3)
  have HB3 := hide (bnext HB2.out hb3)
  clear hb3 k0' k1'
  go_wp2_with fail
  refine (validPhis_any m a n c xs L B _ hA3 hx hn (fun x h => ⟨(hlen.out x h).1, (hlen.out x h).2.2⟩) (by omega) hg).mono ?_
  rintro e w4 ⟨rfl, hb4⟩
  cases h4 : phisOkI ⟨m, xs⟩
  · have H4 := hide h4
    clear h4
    go_wp2
    go_ret
    exact ⟨ret_bool (by rw [hV.out, H1.out, H2.out, H3.out, H4.out]; rfl), bnext HB3.out hb4⟩
  have H4 := hide h4
  clear h4
  have r0 := (hb4.cell (p := ⟨w.heap.size, 0, none⟩) (by show w.heap.size < _; omega)).trans q0
  have r1 := (hb4.cell (p := ⟨w.heap.size, 1, none⟩) (by show w.heap.size < _; omega)).trans q1
  have hz4 := hb4.size
  have hA4 := hide (hA3.out.keep (hb4.mono (by omega)))
  have hO4 := hide (hO3.out.keep hb4)
  have HB4 := hide (bnext HB3.out hb4)
  clear hb4 q0 q1
  go_wp2_with fail
  refine (definedOnce_any m a n c xs L B _ hA4 hx hn hm (show blksTot xs ≤ 1048576 by have := hs.out; omega) (by omega) hO4 (dst_of_ok H3.out H4.out)).mono ?_
  rintro e w5 ⟨rfl, hb5⟩
  go_wp2
  go_ret
  exact ⟨ret_bool (by rw [hV.out, H1.out, H2.out, H3.out, H4.out]; simp), bnext HB4.out hb5⟩
end Go.Proofs.YtdcdgopblbmgoaaGreatDoor
