import Derived.Test.YtanaeindldcapaaDoorIw
import Derived.Laws.OwnMore
namespace Go.Proofs.YtanaeindldcapaaDoor
open Go.RowKit
theorem phDefs_snoc (ps : List Ph) (p : Ph) : phDefs (ps ++ [p]) = phDefs ps ++ [p.dst] := by simp [phDefs]
theorem insDefs_snoc (ps : List Ins) (p : Ins) : insDefs (ps ++ [p]) = insDefs ps ++ (if dB p.op then [p.dst] else []) := by
  simp only [insDefs, List.filter_append, List.map_append]
  congr 1
  cases h : dB p.op <;> simp [h]
theorem blksDefs_snoc (ps : List Blk) (p : Blk) : blksDefs (ps ++ [p]) = blksDefs ps ++ blkDefs p := by simp [blksDefs]
theorem insDefs_len (xs : List Ins) : (insDefs xs).length ≤ xs.length := by simp only [insDefs, List.length_map]; exact List.length_filter_le _ _
theorem blksDefs_len (xs : List Blk) : (blksDefs xs).length ≤ blksTot xs := by
  induction xs with
  | nil => simp [blksDefs]
  | cons x xs ih =>
    have h1 : blksDefs (x :: xs) = blkDefs x ++ blksDefs xs := by simp [blksDefs]
    have h2 : blksTot (x :: xs) = blkTot x + blksTot xs := by simp [blksTot]
    have h3 : (blkDefs x).length ≤ blkTot x := by
      simp only [blkDefs, phDefs, List.length_append, List.length_map, blkTot]
      have := insDefs_len x.instrs
      omega
    rw [h1, h2, List.length_append]
    omega
theorem own_step {w wr w1 : World} {u : Value} {n : Nat} {xs : List Value} {a : Option Addr} {N c : Nat} (hw : Below w.heap.size w wr) (hsz : w.heap.size < wr.heap.size) (hcell : wr.cell? ⟨w.heap.size, 1, none⟩ = some (.slice a N c))
    (o : Obj) (hown : wr.ownsRow (w.heap.size + 1) 2 1 u n xs) (hg : (wr.alloc o).grownBy w1 u.ownBlock) :
    Below w.heap.size w w1 ∧ w.heap.size < w1.heap.size ∧ w1.cell? ⟨w.heap.size, 1, none⟩ = some (.slice a N c) ∧ wr.heap.size ≤ w1.heap.size := by
  have hz := hg.size
  simp at hz
  refine ⟨grown_below (balloc hw _) hg (hown.alloc _) (by omega) (by simp; omega), by omega, ?_, by omega⟩
  exact (cell_of (grown_block hg (hown.alloc _) (b := w.heap.size) (by omega) (by simp; omega))).trans (((balloc (Below.refl wr.heap.size wr) _).cell (p := ⟨w.heap.size, 1, none⟩) hsz).trans hcell)
set_option maxHeartbeats 2000000 in
theorem l1Defs_any (v : Int) (a : Option Addr) (n c : Nat) (xs : List Blk) (L B : Nat) (w : World) (ha : Hid (BlksAt w L B a xs)) (hx : Hid (n = xs.length)) (hn : n ≤ 1048576) (hs : Hid (blksTot xs ≤ 1048576)) (hB : B ≤ w.heap.size) :
    Calls Tryd.prog 25 #[.agg #[.int .i64 v, .slice a n c]] w fun e w' => ∃ a' c', e = .returned (.slice a' (blksDefs xs).length c') ∧ Below w.heap.size w w' ∧ IntsAt w' w.heap.size w'.heap.size a' (blksDefs xs) := by
  obtain ⟨i0, hi0, hz0, hz1, hz2⟩ := info_parts Tryd.info2'
  go_enter Tryd.func25, Tryd.ntmps25
  go_wp2
  go_loopw [3, 4] (fun u i wr => ∃ k : Nat, k ≤ n ∧ i = .int .i64 k ∧ Below w.heap.size w wr ∧ w.heap.size < wr.heap.size ∧ wr.cell? ⟨w.heap.size, 1, none⟩ = some (.slice a n c) ∧ wr.ownsRow (w.heap.size + 1) 2 1 u (blksDefs (xs.take k)).length ((blksDefs (xs.take k)).map (Value.int .i64))) (fun _ i _ => n - (intOf i).toNat)
  case atStart => exact ⟨0, Nat.zero_le _, rfl, balloc (balloc (Below.refl _ _) _) _, by simp; omega, by simp, own_empty _ _⟩
  case round =>
    obtain ⟨k, hk, rfl, hw, hsz, hcell, hown⟩ := hrel
    by_cases hlt : k < n
    · have hkx : k < xs.length := by have := hx.out; omega
      obtain ⟨b, o, rfl, ⟨_, hbB⟩, hc⟩ := ha.out k hkx
      have HC := hide hc
      have hnx : Hid (blksDefs (xs.take (k + 1)) = blksDefs (xs.take k) ++ (phDefs xs[k].phis ++ insDefs xs[k].instrs)) := by
        show _ = _
        rw [take_next _ _ hkx, blksDefs_snoc]; rfl
      have hbd : (blksDefs (xs.take k)).length + (xs[k].phis.length + phTot xs[k].phis + xs[k].instrs.length) ≤ 1048576 := by
        have h1 := blksTot_take xs (k + 1)
        rw [take_next _ _ hkx, blksTot_snoc] at h1
        have h2 := blksDefs_len (xs.take k)
        have h3 := hs.out
        have h4 : blkTot xs[k] = xs[k].phis.length + phTot xs[k].phis + xs[k].instrs.length := rfl
        omega
      have hpl : xs[k].phis.length ≤ 1048576 := by omega
      have hil : xs[k].instrs.length ≤ 1048576 := by omega
      have HO := hide hown
      clear hown hc
      generalize hX : xs[k] = X at *
      clear hX
      generalize blksDefs (xs.take k) = D at *
      obtain ⟨pa, pc, ia, ic, e0, e1, _, hp, hi⟩ := HC.out
      have HP := hide hp
      have HI := hide hi
      have E0 := hide e0
      have E1 := hide e1
      clear e0 e1 hp hi HC
      go_wp2
      go_loopw [3, 5] (fun u i wi => ∃ j : Nat, j ≤ X.phis.length ∧ i = .int .i64 j ∧ Below w.heap.size w wi ∧ w.heap.size < wi.heap.size ∧ wi.cell? ⟨w.heap.size, 1, none⟩ = some (.slice (some ⟨b, o, none⟩) n c) ∧ wi.ownsRow (w.heap.size + 1) 2 1 u (D ++ phDefs (X.phis.take j)).length ((D ++ phDefs (X.phis.take j)).map (Value.int .i64))) (fun _ i _ => X.phis.length - (intOf i).toNat)
      case atStart => exact ⟨0, Nat.zero_le _, rfl, hw, hsz, hcell, by simpa [phDefs] using HO.out⟩
      case round =>
        obtain ⟨j, hj, rfl, hwi, hszi, hcelli, howni⟩ := hrel
        have f0 := (hwi.cell (p := ⟨b, o + k * 6, none⟩) (by show b < _; omega)).trans E0.out
        have f1 := (hwi.cell (p := ⟨b, o + k * 6 + 1, none⟩) (by show b < _; omega)).trans E1.out
        by_cases hjt : j < X.phis.length
        · obtain ⟨b', o', rfl, ⟨_, hbB'⟩, aa, cc, g0, g1, _⟩ := HP.out j hjt
          have e2 := (hwi.cell (p := ⟨b', o' + j * 2, none⟩) (by show b' < _; omega)).trans g0
          have h3 : Hid (D ++ phDefs (X.phis.take (j + 1)) = (D ++ phDefs (X.phis.take j)) ++ [X.phis[j].dst]) := by show _ = _; rw [take_next _ _ hjt, phDefs_snoc, List.append_assoc]
          have hl : (D ++ phDefs (X.phis.take j)).length ≤ 1048576 := by simp [phDefs]; omega
          clear g0 g1
          generalize X.phis[j] = P at *
          generalize D ++ phDefs (X.phis.take j) = D1 at *
          have HOi := hide howni
          clear howni f1
          go_wp2_with (at_builtin; refine wpList_append_own _ rfl _ _ 35 rfl (w.heap.size + 1) 2 i0 (.int .i64 0) 1 8 Tryd.underlying35 hi0 hz0 hz1 hz2 rfl (by decide) _ _ _ rfl (HOi.out.alloc _) ⟨wr.heap.size, 0, none⟩ 1 1 [.int .i64 P.dst] rfl rfl ?c1 ?c2 ?c3 ?c4 ?c5 ?_)
          case c1 =>
            intro j u hj
            match j, hj with
            | 0, hj => simp at hj; subst hj; simp [Addr.add]
          case c2 => intro u hu; simp at hu; subst hu; rfl
          case c3 => unfold maxLen; omega
          case c4 => omega
          case c5 => simp; omega
          intro v1 w1 hown1 hgrow1 _
          have HO1 := hide hown1
          clear hown1
          go_wp2
          obtain ⟨q1, q2, q3, _⟩ := own_step hwi hszi hcelli _ HOi.out hgrow1
          exact ⟨⟨j + 1, by omega, by go_num, q1, q2, q3, by rw [h3.out, ints_snoc]; simpa using HO1.out⟩, by simp [intOf]; omega⟩
        · have hE := hide (List.take_of_length_le (l := X.phis) (i := j) (by omega))
          have HOi := hide howni
          clear howni
          go_wp2
          go_loopw [3, 6] (fun u i wi => ∃ j : Nat, j ≤ X.instrs.length ∧ i = .int .i64 j ∧ Below w.heap.size w wi ∧ w.heap.size < wi.heap.size ∧ wi.cell? ⟨w.heap.size, 1, none⟩ = some (.slice (some ⟨b, o, none⟩) n c) ∧ wi.ownsRow (w.heap.size + 1) 2 1 u (D ++ phDefs X.phis ++ insDefs (X.instrs.take j)).length ((D ++ phDefs X.phis ++ insDefs (X.instrs.take j)).map (Value.int .i64))) (fun _ i _ => X.instrs.length - (intOf i).toNat)
          case atStart => exact ⟨0, Nat.zero_le _, rfl, hwi, hszi, hcelli, by have := HOi.out; rw [hE.out] at this; simpa [insDefs] using this⟩
          case round =>
            clear hwi hszi hcelli f0 f1 HOi hE
            obtain ⟨j, hj, rfl, hwi, hszi, hcelli, howni⟩ := hrel
            have f1 := (hwi.cell (p := ⟨b, o + k * 6 + 1, none⟩) (by show b < _; omega)).trans E1.out
            by_cases hjt : j < X.instrs.length
            · obtain ⟨b', o', rfl, ⟨_, hbB'⟩, g0, g1, _, _, _⟩ := HI.out j hjt
              have e2 := (hwi.cell (p := ⟨b', o' + j * 5, none⟩) (by show b' < _; omega)).trans g0
              have e3 := (hwi.cell (p := ⟨b', o' + j * 5 + 1, none⟩) (by show b' < _; omega)).trans g1
              have h3 : Hid (D ++ phDefs X.phis ++ insDefs (X.instrs.take (j + 1)) = (D ++ phDefs X.phis ++ insDefs (X.instrs.take j)) ++ (if dB X.instrs[j].op then [X.instrs[j].dst] else [])) := by show _ = _; rw [take_next _ _ hjt, insDefs_snoc, ← List.append_assoc]
              have hl : (D ++ phDefs X.phis ++ insDefs (X.instrs.take j)).length ≤ 1048576 := by have := insDefs_len (X.instrs.take j); simp [phDefs] at this ⊢; omega
              clear g0 g1
              generalize X.instrs[j] = P at *
              generalize D ++ phDefs X.phis ++ insDefs (X.instrs.take j) = D1 at *
              have HOi := hide howni
              clear howni
              cases hd : dB P.op
              · have HD := hide hd
                go_wp2_with (go_at_call 53; refine (usedD _ _).mono ?_; rintro e w2 ⟨rfl, hw2⟩; rw [hw2]; clear hw2 w2)
                exact ⟨⟨j + 1, by omega, by go_num, hwi, hszi, hcelli, by rw [h3.out, HD.out]; simpa using HOi.out⟩, by simp [intOf]; omega⟩
              · have HD := hide hd
                go_wp2_with (first | (go_at_call 53; refine (usedD _ _).mono ?_; rintro e w2 ⟨rfl, hw2⟩; rw [hw2]; clear hw2 w2) | (at_builtin; refine wpList_append_own _ rfl _ _ 35 rfl (w.heap.size + 1) 2 i0 (.int .i64 0) 1 8 Tryd.underlying35 hi0 hz0 hz1 hz2 rfl (by decide) _ _ _ rfl (HOi.out.alloc _) ⟨wr.heap.size, 0, none⟩ 1 1 [.int .i64 P.dst] rfl rfl ?c1 ?c2 ?c3 ?c4 ?c5 ?_))
                case c1 =>
                  intro j u hj
                  match j, hj with
                  | 0, hj => simp at hj; subst hj; simp [Addr.add]
                case c2 => intro u hu; simp at hu; subst hu; rfl
                case c3 => unfold maxLen; omega
                case c4 => omega
                case c5 => simp; omega
                intro v1 w1 hown1 hgrow1 _
                have HO1 := hide hown1
                clear hown1
                go_wp2
                obtain ⟨q1, q2, q3, _⟩ := own_step hwi hszi hcelli _ HOi.out hgrow1
                exact ⟨⟨j + 1, by omega, by go_num, q1, q2, q3, by rw [h3.out, HD.out, if_pos rfl, ints_snoc]; simpa using HO1.out⟩, by simp [intOf]; omega⟩
            · have hE := hide (List.take_of_length_le (l := X.instrs) (i := j) (by omega))
              have HOi := hide howni
              clear howni
              go_wp2
              exact ⟨⟨k + 1, by omega, by go_num, hwi, hszi, hcelli, by have := HOi.out; rw [hE.out] at this; rw [hnx.out, ← List.append_assoc]; exact this⟩, by simp [intOf]; omega⟩
    · go_wp2
      go_ret
      have e := List.take_of_length_le (l := xs) (i := k) (by have := hx.out; omega)
      rw [e] at hown
      obtain ⟨a1, c1, rfl, hi1⟩ := ints_owned hown
      exact ⟨_, _, rfl, hw, hi1.mono (by omega) (Nat.le_refl _)⟩
theorem run_append_own_nilC {P : Program} {w : World} (base : Nat) (t ty e : TypeId) (i : TypeInfo) (size : Nat) (ht : P.underlying t = some (.slice e)) (hi : P.info? e = some i)
    (v : Value) (n c : Nat) (xs : List Value) (hown : w.ownsRow base e size v n xs) :
    (Builtin.append_ #[t, t] ty #[v, .slice none 0 c]).run P w = .ok v w := by
  rcases hown.2 with ⟨rfl, rfl⟩ | ⟨g, cap, cur, rfl, _, _, hnc, _⟩
  · simp [Builtin.append_, run_underlying ht, sizeOf, typeInfo, hi, Builtin.lenOf, Builtin.firstCells]
  · simp [Builtin.append_, run_underlying ht, sizeOf, typeInfo, hi, Builtin.lenOf, Builtin.firstCells, hnc, storeCells]
theorem ints_news {w : World} {L B : Nat} {ad : Addr} {qs : List Int} (hv : IntsAt w L B (some ad) qs) : ∀ j u, (qs.map (Value.int .i64))[j]? = some u → w.cell? (ad.add j) = some u := by
  intro j u hj
  have hl : j < qs.length := by
    rcases Nat.lt_or_ge j qs.length with h | h
    · exact h
    · rw [List.getElem?_eq_none (by simpa using h)] at hj; cases hj
  obtain ⟨b, o, e, -, hc⟩ := hv j hl
  cases e
  rw [List.getElem?_map, List.getElem?_eq_getElem hl] at hj
  cases hj
  rw [Addr.add_lit]
  exact hc
theorem wp_append_ints {P : Program} {w : World} {o : Oper} {a : Act} {K : Act → World → Prop} {Q : Exit → Act → World → Prop} (s x : Operand) (t : TypeId)
    (ho : o.op = .call { callee := .builtin .append, args := #[s, x], argTypes := #[t, t] })
    (base : Nat) (e : TypeId) (i : TypeInfo) (ht : P.underlying t = some (.slice e)) (hi : P.info? e = some i) (hz : i.zero = some (.int .i64 0))
    (hsize : i.size = 1) (hby : i.bytes = 8)
    (v : Value) (xs : List Int) (hs : a.eval s = v) (hown : w.ownsRow base e 1 v xs.length (xs.map (Value.int .i64))) (hn : v ≠ .slice none 0 0)
    (ad : Option Addr) (m c : Nat) (qs : List Int) (L B : Nat) (hx : a.eval x = .slice ad m c) (hm : m = qs.length) (hv : IntsAt w L B ad qs)
    (hbytes : xs.length + m ≤ 1000000000000) (hbase : base ≤ w.heap.size)
    (h : ∀ v' w', w'.ownsRow base e 1 v' (xs ++ qs).length ((xs ++ qs).map (Value.int .i64)) → Gr w w' v v' → v' ≠ .slice none 0 0 → K (a.put o.dst v') w') :
    o.wp P a w K Q := by
  cases ad with
  | none =>
    have has : qs = [] := by
      cases qs with
      | nil => rfl
      | cons x r => obtain ⟨_, _, e, _⟩ := hv 0 (by simp); cases e
    subst has
    subst hm
    have hrun := run_append_own_nilC (P := P) (w := w) base t o.type e i 1 ht hi v xs.length c _ hown
    unfold Oper.wp execOp
    simp only [ho, resolve, invoke, builtin, Sem.run_bind, Sem.run_pure, Result.andThen_ok, List.map_toArray, List.map_cons, List.map_nil, hs, hx, List.length_nil, hrun]
    exact h v w (by simpa using hown) (Gr.refl _ _) hn
  | some ad =>
    obtain ⟨v', w', hr, h1, h2, h3, h4⟩ := run_append_own_at (P := P) w base t o.type e i (.int .i64 0) 1 8 ht hi hz hsize hby rfl (by decide) v xs.length _ hown ad m c (qs.map (Value.int .i64)) (by simp [hm]) (ints_news hv) (by intro u hu; obtain ⟨z, -, rfl⟩ := List.mem_map.1 hu; rfl) (by unfold maxLen; omega) (by omega) hbase
    unfold Oper.wp execOp
    simp only [ho, resolve, invoke, builtin, Sem.run_bind, Sem.run_pure, Result.andThen_ok, List.map_toArray, List.map_cons, List.map_nil, hs, hx, hr]
    refine h v' w' (by rw [List.length_append, List.map_append, ← hm]; exact h1) ⟨h2, fun g hg => ?_⟩ (fun e => hn (h3.1 e).1)
    rcases h4 with h4 | h4
    · exact Or.inr (h4 ▸ hg)
    · rw [h4] at hg; cases hg; exact Or.inl (Nat.le_refl _)
set_option maxHeartbeats 1000000 in
set_option maxRecDepth 100000 in
theorem contents_any (fa : Option Addr) (fc : Nat) (ps : List Addr) (vs : List Int) (L B : Nat) (w : World) (hB : B ≤ w.heap.size) (hp : Hid (ValsAt w L B fa (ps.map ptrV))) (hl : Hid (vs.length = ps.length)) (hv : Hid (∀ i (h : i < ps.length) (h' : i < vs.length), ps[i].block < w.heap.size ∧ w.cell? ps[i] = some (.int .i64 vs[i]))) (hs : ps.length ≤ 1000) :
    Calls Tryd.prog 83 #[.slice fa ps.length fc] w fun e w' => ∃ v, e = .returned v ∧ Below w.heap.size w w' ∧ w'.ownsRow w.heap.size 2 1 v vs.length (vs.map (Value.int .i64)) := by
  obtain ⟨i0, hi0, hz0, hz1, hz2⟩ := info_parts Tryd.info2'
  go_enter Tryd.func83, Tryd.ntmps83
  go_wp2
  go_loopw [3, 9] (fun v i wr => ∃ k : Nat, k ≤ ps.length ∧ i = .int .i64 k ∧ Hid (Below w.heap.size w wr) ∧ Hid (wr.ownsRow w.heap.size 2 1 v (vs.take k).length ((vs.take k).map (Value.int .i64)))) (fun _ i _ => ps.length - (intOf i).toNat)
  case atStart => exact ⟨0, Nat.zero_le _, rfl, hide (balloc (Below.refl _ _) _), hide (by
    have := World.ownsRow_lit (base := w.heap.size) (e := 2) (size := 1) w #[] 0 (by simp) (by simp) rfl
    simpa using this)⟩
  case round =>
    obtain ⟨k, hk', rfl, HB, HO⟩ := hrel
    have hwz := HB.out.size
    by_cases hlt : k < ps.length
    · have hkk : k < vs.length := by have := hl.out; omega
      obtain ⟨b2, o2, rfl, ⟨_, hb2⟩, hc2⟩ := (hp.out.keepS (Same.of_below (HB.out.mono hB))) k (by simpa using hlt)
      rw [List.getElem_map] at hc2
      unfold ptrV at hc2
      obtain ⟨hq1, hq2⟩ := hv.out k hlt hkk
      have hc3 := (HB.out.cell (p := ps[k]) hq1).trans hq2
      have HT : Hid ((vs.take (k + 1)) = vs.take k ++ [vs[k]]) := hide (List.take_succ_eq_append_getElem hkk)
      have HL : Hid ((vs.take k).length + 1 ≤ 2000) := hide (by have := hl.out; simp only [List.length_take]; omega)
      clear hq1 hq2
      generalize vs[k] = V at *
      generalize ps[k] = p at *
      go_wp2_with (at_builtin; refine wpList_append_own_at _ rfl _ _ 35 rfl w.heap.size 2 i0 (.int .i64 0) 1 8 Tryd.underlying35 hi0 hz0 hz1 hz2 rfl (by decide) _ _ _ rfl (HO.out.alloc _) ⟨wr.heap.size, 0, none⟩ 1 1 [.int .i64 V] rfl rfl ?c1 ?c2 ?c3 ?c4 ?c5 ?_)
      case c1 => exact cell_one_new _ _ _
      case c2 => intro u hu; simp at hu; subst hu; rfl
      case c3 => have := HL.out; unfold maxLen; omega
      case c4 => have := HL.out; omega
      case c5 => simp; omega
      intro v1 w1 hown1 hgrow1 hne1 hat1
      have HO1 : Hid (w1.ownsRow w.heap.size 2 1 v1 (vs.take (k + 1)).length ((vs.take (k + 1)).map (Value.int .i64))) := hide (by
        rw [HT.out, ints_snoc', List.length_append, List.map_take, List.length_take]; exact hown1)
      have HB1 : Hid (Below w.heap.size w w1) := hide (grown_below ((HB.out).alloc (by omega) _) hgrow1 (HO.out.alloc _) (Nat.le_refl _) (by simp; omega))
      clear hown1 hgrow1 hne1 hat1
      go_wp2
      exact ⟨⟨k + 1, by omega, by go_num, HB1, HO1⟩, by simp [intOf]; omega⟩
    · have HO2 : Hid (wr.ownsRow w.heap.size 2 1 u3 vs.length (vs.map (Value.int .i64))) := hide (by have := HO.out; have e := hl.out; rwa [List.take_of_length_le (by omega)] at this)
      go_wp2
      go_ret
      exact ⟨_, rfl, HB.out, HO2.out⟩
end Go.Proofs.YtanaeindldcapaaDoor
