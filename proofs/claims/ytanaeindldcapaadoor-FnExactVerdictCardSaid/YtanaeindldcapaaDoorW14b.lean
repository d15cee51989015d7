import Derived.Test.YtanaeindldcapaaDoorW3
import Derived.Deep.QuietTactic
namespace Go.Proofs.YtanaeindldcapaaDoor
open Go.RowKit
def TgtOk (xs : List Blk) (n : Nat) : Prop := ∀ x ∈ xs, (∀ t ∈ x.term.targets, 0 ≤ t ∧ t < (n : Int)) ∧ x.term.targets.Nodup
/-- The predecessors of block i by the first k blocks and by the targets ts of block k. -/
def predsMid (xs : List Blk) (k : Nat) (ts : List Int) (i : Nat) : List Int := predsFrom (xs.take k) 0 i ++ (if ts.contains (i : Int) then [(k : Int)] else [])
theorem predsMid_nil (xs : List Blk) (k i : Nat) : predsMid xs k [] i = predsFrom (xs.take k) 0 i := by simp [predsMid]
theorem predsMid_whole (xs : List Blk) (k i : Nat) (hk : k < xs.length) : predsMid xs k xs[k].term.targets i = predsFrom (xs.take (k + 1)) 0 i := by
  unfold predsMid
  rw [take_next _ _ hk, predsFrom_snoc]
  simp [Nat.min_eq_left (Nat.le_of_lt hk)]
theorem predsMid_step (xs : List Blk) (k i : Nat) (ts : List Int) (t : Nat) (h : (t : Int) ∉ ts) : predsMid xs k (ts ++ [(t : Int)]) i = if i = t then predsMid xs k ts t ++ [(k : Int)] else predsMid xs k ts i := by
  unfold predsMid
  by_cases e : i = t
  · subst e
    simp [h]
  · have h1 : (ts ++ [(t : Int)]).contains (i : Int) = ts.contains (i : Int) := by
      rw [Bool.eq_iff_iff]
      simp only [List.contains_iff_mem, List.mem_append, List.mem_singleton]
      constructor
      · rintro (h | h)
        · exact h
        · omega
      · exact Or.inl
    rw [if_neg e, h1]
theorem predsMid_len (xs : List Blk) (k i : Nat) (ts : List Int) (h : k ≤ xs.length) : (predsMid xs k ts i).length ≤ k + 1 := by
  unfold predsMid
  have := predsFrom_len (i : Int) (xs.take k) 0
  simp only [List.length_take] at this
  rw [List.length_append]
  split <;> simp <;> omega
set_option maxHeartbeats 2000000 in
theorem predecessors_sep (v : Int) (a : Option Addr) (n c : Nat) (xs : List Blk) (L B : Nat) (w : World) (ha : Hid (BlksAt w L B a xs)) (hx : Hid (n = xs.length)) (hn : n ≤ 1048576) (hB : B ≤ w.heap.size) (hg : Hid (TgtOk xs n)) :
    Calls Tryd.prog 63 #[.agg #[.int .i64 v, .slice a n c]] w fun e w' => ∃ U, e = .returned (.slice (some ⟨w.heap.size + 1, 0, none⟩) n n) ∧ Below w.heap.size w w' ∧ Rows2 w' (w.heap.size + 1) n (fun i : Nat => predsFrom xs 0 (i : Int)) U := by
  obtain ⟨i0, hi0, hz0, hz1, hz2⟩ := info_parts Tryd.info2'
  have hmk := run_make_row' (P := Tryd.prog) 90 35 (.slice none 0 0) 24 Tryd.underlying90 Tryd.info45 rfl .i64 .i64 n (by omega) (by omega)
  go_enter Tryd.func63, Tryd.ntmps63
  go_wp2
  go_loopw [15] (fun i wr => ∃ k : Nat, k ≤ n ∧ i = .int .i64 k ∧ Below w.heap.size w wr ∧ Hid (∃ U, Rows2 wr (w.heap.size + 1) n (predsMid xs k []) U)) (fun i _ => n - (intOf i).toNat)
  case atStart => exact ⟨0, Nat.zero_le _, rfl, balloc (balloc (Below.refl _ _) _) _, ⟨_, by have := Rows2.born (w.alloc (.cells #[.int .i64 v, .slice a n c] 29)) n; rw [World.size_alloc] at this; exact this⟩⟩
  case round =>
    obtain ⟨k, hk, rfl, hw, hrw⟩ := hrel
    by_cases hlt : k < n
    · have hkx : k < xs.length := by have := hx.out; omega
      obtain ⟨b, o, rfl, ⟨_, hbB⟩, hc⟩ := ha.out k hkx
      obtain ⟨pa, pc, ia, ic, e0, e1, ⟨e2, e3, e4, e5⟩, _, _⟩ := hc.keep (hw.mono hB) (by omega)
      have hwh := hide (fun i => predsMid_whole xs k i hkx)
      obtain ⟨hg1, hg2⟩ := hg.out _ (List.getElem_mem hkx)
      have HG1 := hide hg1
      have HG2 := hide hg2
      clear hc hg1 hg2
      generalize xs[k] = X at *
      go_wp2_with fail
      refine (targetsI_any X.term _).mono ?_
      rintro e w2 ⟨a1, c1, rfl, hb2, hi2⟩
      have hb3 := bnext (balloc (Below.refl wr.heap.size wr) _) hb2
      have hz3 := hb2.size
      simp at hz3
      have hz4 : wr.heap.size < w2.heap.size := by omega
      have HI := hide hi2
      have hGlt : w.heap.size + 1 < wr.heap.size := by obtain ⟨U, hU⟩ := hrw.out; exact hU.1.lt
      have HR : Hid (∃ U, Rows2 w2 (w.heap.size + 1) n (predsMid xs k []) U ∧ ∀ i g, i < n → (U i).ownBlock = some g → g ≤ wr.heap.size ∨ w2.heap.size ≤ g) := by
        obtain ⟨U, hU⟩ := hrw.out
        exact ⟨U, hU.below hb3, fun i g hi hg => by have := ((hU.2.1 i hi).lt g hg).2; omega⟩
      have HW := hide (bnext hw hb3)
      have htl : X.term.targets.length ≤ 2 := by unfold Ter.targets; split <;> (try split) <;> simp
      generalize hT : X.term.targets = ts at *
      clear hT hi2 hrw e0 e1 e2 e3 e4 e5 hw
      simp only [World.size_alloc] at HI
      generalize hM : wr.heap.size = M at *
      clear hM
      go_wp2
      go_loopw [24] (fun i wi => ∃ j : Nat, j ≤ ts.length ∧ i = .int .i64 j ∧ Below w.heap.size w wi ∧ w2.heap.size ≤ wi.heap.size ∧ Hid (IntsAt wi (M + 1) w2.heap.size a1 ts) ∧ Hid (∃ U, Rows2 wi (w.heap.size + 1) n (predsMid xs k (ts.take j)) U ∧ ∀ i g, i < n → (U i).ownBlock = some g → g ≤ M ∨ w2.heap.size ≤ g)) (fun i _ => ts.length - (intOf i).toNat)
      case atStart => exact ⟨0, Nat.zero_le _, rfl, HW.out, Nat.le_refl _, HI.out, HR.out⟩
      case round =>
        obtain ⟨j, hj, rfl, hwi, hszi, hii, hri⟩ := hrel
        by_cases hjt : j < ts.length
        · obtain ⟨b', o', rfl, _, hcj⟩ := hii.out j hjt
          obtain ⟨ht0, ht1⟩ := HG1.out _ (List.getElem_mem hjt)
          have hnd : Hid (ts[j] ∉ ts.take j) := by
            intro hm
            obtain ⟨m, hm1, hm2⟩ := List.getElem_of_mem hm
            simp only [List.length_take] at hm1
            rw [List.getElem_take] at hm2
            have := (List.getElem_inj HG2.out).1 hm2
            omega
          have hts : Hid (ts.take (j + 1) = ts.take j ++ [ts[j]]) := take_next _ _ hjt
          obtain ⟨U, hU, hav⟩ := hri.out
          have HAV := hide hav
          clear hav
          obtain ⟨t, htt⟩ := Int.eq_ofNat_of_zero_le ht0
          generalize ts[j] = T at *
          subst htt
          have htn : t < n := by omega
          have hcU := hU.1.cell htn
          have hfU := hU.1.frozen t
          have hpl := predsMid_len xs k t (ts.take j) (by have := hx.out; omega)
          have HU := hide hU
          clear hU hri
          go_wp2_with (at_builtin; refine wpList_append_own_at _ rfl _ _ 35 rfl (w.heap.size + 1 + 1) 2 i0 (.int .i64 0) 1 8 Tryd.underlying35 hi0 hz0 hz1 hz2 rfl (by decide) _ _ _ rfl ((HU.out.alloc _).2.1 t htn) ⟨wr.heap.size, 0, none⟩ 1 1 [.int .i64 k] rfl rfl ?c1 ?c2 ?c3 ?c4 ?c5 ?_)
          case c1 =>
            intro j u hj
            match j, hj with
            | 0, hj => simp at hj; subst hj; simp [Addr.add]
          case c2 => intro u hu; simp at hu; subst hu; rfl
          case c3 => unfold maxLen; omega
          case c4 => omega
          case c5 => have := HU.out.1.lt; simp; omega
          intro v1 w1 hown1 hgrow1 _ hat1
          obtain ⟨av, cv, hv, _⟩ := ints_owned (xs := predsMid xs k (ts.take j) t ++ [(k : Int)]) (by rw [ints_snoc]; exact hown1)
          have hst := hide ((HU.out.alloc (.cells #[.int .i64 k] 2)).step htn k v1 hgrow1 hown1 (by rw [World.size_alloc]; exact hat1))
          have hbG : w1.heap[w.heap.size + 1]? = (wr.alloc (.cells #[.int .i64 k] 2)).heap[w.heap.size + 1]? := grown_block hgrow1 ((HU.out.alloc (.cells #[.int .i64 k] 2)).2.1 t htn) (by omega) (by have := HU.out.1.lt; simp; omega)
          have hbel := hide (grown_below (balloc hwi (.cells #[.int .i64 k] 2)) hgrow1 ((HU.out.alloc (.cells #[.int .i64 k] 2)).2.1 t htn) (by omega) (by have := hwi.size; simp; omega))
          have hcG : w1.cell? ⟨w.heap.size + 1, t, none⟩ = some (U t) := by rw [cell_of hbG]; exact ((HU.out.alloc (.cells #[.int .i64 k] 2)).1).cell htn
          have hfG : w1.frozen? ⟨w.heap.size + 1, t, none⟩ = false := by rw [World.frozen?_of_block (w := wr.alloc (.cells #[.int .i64 k] 2)) (a := ⟨w.heap.size + 1, t, none⟩) hbG]; exact ((HU.out.alloc (.cells #[.int .i64 k] 2)).1).frozen t
          have hgz := hgrow1.size
          simp at hgz
          have hsm : Same (M + 1) w2.heap.size wr w1 := fun q q1 q2 => (hgrow1.block q (by simp; omega) (fun e => by have := HAV.out t q htn e.symm; omega)).trans (Below.heap_alloc _ _ _ (by omega))
          have HSM := hide hsm
          have hii2 := hide (hii.out.keepS hsm)
          have HAT := hide hat1
          have HV := hide hv
          clear hsm
          clear hown1 hgrow1 hat1 hbG hcU hfU
          rw [hv]
          clear hv
          go_wp2
          have hv2 := HV.out
          rw [List.length_append, List.length_cons, List.length_nil, Nat.zero_add] at hv2
          rw [← hv2]
          refine ⟨⟨j + 1, by omega, by go_num, hbel.out.setCell (by dsimp only; omega) _, by rw [size_setCell]; omega, hii2.out.keepS ((Same.refl _ _ _).setCell (Or.inl (by dsimp only; omega)) _), ⟨_, (hst.out).congr (fun i _ => ?_), fun i g hi hg => ?_⟩⟩, by simp [intOf]; omega⟩
          · rw [hts.out, predsMid_step xs k i (ts.take j) t hnd.out]
          · by_cases e : i = t
            · subst e
              simp only [if_true] at hg
              rcases HAT.out with q | q
              · exact HAV.out i g hi (by rw [← q]; exact hg)
              · rw [q] at hg
                have := Option.some.inj hg
                omega
            · simp only [e, if_false] at hg
              exact HAV.out i g hi hg
        · have E := hide (List.take_of_length_le (l := ts) (i := j) (by omega))
          go_wp2
          refine ⟨⟨k + 1, by omega, by go_num, hwi, ?_⟩, by simp [intOf]; omega⟩
          obtain ⟨U, hU, _⟩ := hri.out
          exact ⟨U, hU.congr (fun i _ => by rw [E.out, hwh.out, predsMid_nil])⟩
    · go_wp2
      go_ret
      obtain ⟨U, hU⟩ := hrw.out
      have e := List.take_of_length_le (l := xs) (i := k) (by have := hx.out; omega)
      exact ⟨U, rfl, hw, hU.congr (P' := fun i : Nat => predsFrom xs 0 (i : Int)) (fun i _ => by rw [predsMid_nil, e])⟩
/-- The same, the lists told as they lie. -/
theorem predecessors_any (v : Int) (a : Option Addr) (n c : Nat) (xs : List Blk) (L B : Nat) (w : World) (ha : Hid (BlksAt w L B a xs)) (hx : Hid (n = xs.length)) (hn : n ≤ 1048576) (hB : B ≤ w.heap.size) (hg : Hid (TgtOk xs n)) :
    Calls Tryd.prog 63 #[.agg #[.int .i64 v, .slice a n c]] w fun e w' => ∃ a' c', e = .returned (.slice a' n c') ∧ Below w.heap.size w w' ∧ IntssAt w' w.heap.size w'.heap.size a' ((List.range n).map fun i : Nat => predsFrom xs 0 (i : Int)) :=
  (predecessors_sep v a n c xs L B w ha hx hn hB hg).mono (by
    rintro e w' ⟨U, rfl, hb, h⟩
    exact ⟨_, _, rfl, hb, h.ints.mono (by omega) (Nat.le_refl _)⟩)
theorem phisFrom_iff (ok : Int → Nat → Ph → Bool) (F : Fn) : ∀ (xs : List Blk) (i0 : Nat), phisFrom ok F xs i0 = true ↔ ∀ j (h : j < xs.length), xs[j].phis.all (ok F.values (F.preds ((i0 + j : Nat) : Int)).length) = true
  | [], _ => by simp [phisFrom]
  | x :: xs, i0 => by
    simp only [phisFrom, Bool.and_eq_true, phisFrom_iff ok F xs (i0 + 1)]
    constructor
    · rintro ⟨h1, h2⟩ j hj
      cases j with
      | zero => exact h1
      | succ j =>
        have := h2 j (by simpa using hj)
        have e : i0 + 1 + j = i0 + (j + 1) := by omega
        rw [e] at this
        exact this
    · intro h
      refine ⟨h 0 (by simp), fun j hj => ?_⟩
      have := h (j + 1) (by simpa using hj)
      have e : i0 + 1 + j = i0 + (j + 1) := by omega
      rw [e]
      exact this
theorem phisFrom_no (ok : Int → Nat → Ph → Bool) (F : Fn) {k : Nat} (hk : k < F.blocks.length) (h : F.blocks[k].phis.all (ok F.values (F.preds (k : Int)).length) = false) : phisFrom ok F F.blocks 0 = false := by
  rw [Bool.eq_false_iff]
  intro hc
  have := (phisFrom_iff ok F F.blocks 0).1 hc k hk
  rw [Nat.zero_add, h] at this
  cases this
set_option maxHeartbeats 4000000 in
theorem validPhis_any (v : Int) (a : Option Addr) (n c : Nat) (xs : List Blk) (L B : Nat) (w : World) (ha : Hid (BlksAt w L B a xs)) (hx : Hid (n = xs.length)) (hn : n ≤ 1048576) (hl : Hid (∀ x ∈ xs, x.phis.length ≤ 1048576 ∧ ∀ p ∈ x.phis, p.args.length ≤ 1048576)) (hB : B ≤ w.heap.size) (hg : Hid (TgtOk xs n)) :
    Calls Tryd.prog 34 #[.agg #[.int .i64 v, .slice a n c]] w fun e w' => e = .returned (.bool (phisOkI ⟨v, xs⟩)) ∧ Below w.heap.size w w' := by
  go_enter Tryd.func34, Tryd.ntmps34
  go_wp2_with fail
  refine (predecessors_any v a n c xs L B _ ?q1 hx hn ?q2 hg).mono ?_
  case q1 => exact ha.out.keep (balloc (Below.refl _ _) _ |>.mono hB)
  case q2 => simp; omega
  rintro e w1 ⟨pa, pc, rfl, hb1, hp1⟩
  have hB1 := bnext (balloc (Below.refl w.heap.size w) _) hb1
  have hz1 := hb1.size
  simp at hz1
  obtain ⟨hc1, hf1⟩ := bcell hb1
  have k0 : w1.cell? ⟨w.heap.size, 0, none⟩ = some (.int .i64 v) := by rw [hc1 _ _ (by simp)]; simp
  have k1 : w1.cell? ⟨w.heap.size, 1, none⟩ = some (.slice a n c) := by rw [hc1 _ _ (by simp)]; simp
  have HA := hide (ha.out.keep (hB1.mono hB))
  have HPR := hide hp1
  have HB1 := hide hB1
  clear hc1 hf1 hp1 hb1 ha hB1
  go_wp2
  go_loopw [15] (fun i wr => ∃ k : Nat, k ≤ n ∧ i = .int .i64 k ∧ Below w1.heap.size w1 wr ∧ Hid (∀ j (h : j < xs.length), j < k → xs[j].phis.all (phOkI v (predsFrom xs 0 (j : Int)).length) = true)) (fun i _ => n - (intOf i).toNat)
  case atStart => exact ⟨0, Nat.zero_le _, rfl, Below.refl _ _, fun j _ h => absurd h (by omega)⟩
  case round =>
    obtain ⟨k, hk, rfl, hw, hall⟩ := hrel
    by_cases hlt : k < n
    · have hkx : k < xs.length := by have := hx.out; omega
      obtain ⟨b, o, rfl, ⟨_, hbB⟩, hc⟩ := HA.out k hkx
      obtain ⟨pa', pc', ia, ic, d0, d1, ⟨d2, d3, d4, d5⟩, hp, _⟩ := hc
      have e0 := (hw.cell (p := ⟨b, o + k * 6, none⟩) (by show b < _; omega)).trans d0
      have e1 := (hw.cell (p := ⟨b, o + k * 6 + 1, none⟩) (by show b < _; omega)).trans d1
      have e2 := (hw.cell (p := ⟨b, o + k * 6 + 2, none⟩) (by show b < _; omega)).trans d2
      have e3 := (hw.cell (p := ⟨b, o + k * 6 + 2 + 1, none⟩) (by show b < _; omega)).trans d3
      have e4 := (hw.cell (p := ⟨b, o + k * 6 + 2 + 2, none⟩) (by show b < _; omega)).trans d4
      have e5 := (hw.cell (p := ⟨b, o + k * 6 + 2 + 3, none⟩) (by show b < _; omega)).trans d5
      obtain ⟨hl1, hl2⟩ := hl.out _ (List.getElem_mem hkx)
      have HL2 := hide hl2
      have hno : Hid (xs[k].phis.all (phOkI v (predsFrom xs 0 (k : Int)).length) = false → phisOkI ⟨v, xs⟩ = false) := fun h => phisFrom_no phOkI ⟨v, xs⟩ (k := k) hkx h
      have hlen : k < ((List.range n).map fun i : Nat => predsFrom xs 0 (i : Int)).length := by simpa using hlt
      obtain ⟨gb, go, rfl, ⟨_, hgB⟩, a', c', f0, hii⟩ := HPR.out k hlen
      simp only [List.getElem_map, List.getElem_range] at f0
      have HP := hide hp
      have hnl : (predsFrom xs 0 (k : Int)).length ≤ 1048576 := by have := predsFrom_len (k : Int) xs 0; have := hx.out; omega
      have HF0 := hide f0
      have hwz := hw.size
      have hyes : Hid (xs[k].phis.all (phOkI v (predsFrom xs 0 (k : Int)).length) = true → ∀ j (h : j < xs.length), j < k + 1 → xs[j].phis.all (phOkI v (predsFrom xs 0 (j : Int)).length) = true) :=
        fun h j hj hjk => if e : j = k then by subst e; exact h else hall.out j hj (by omega)
      clear hp hl2 f0 hii hlen d0 d1 d2 d3 d4 d5
      generalize xs[k] = X at *
      generalize predsFrom xs 0 (k : Int) = ps at *
      go_wp2
      generalize hM : wr.heap.size = M at *
      have HM := hide hM
      clear hM
      go_loopw [23] (fun i wi => ∃ j : Nat, j ≤ X.phis.length ∧ i = .int .i64 j ∧ Below w1.heap.size w1 wi ∧ Hid ((X.phis.take j).all (phOkI v ps.length) = true)) (fun i _ => X.phis.length - (intOf i).toNat)
      case atStart => exact ⟨0, Nat.zero_le _, rfl, balloc hw _, rfl⟩
      case round =>
        obtain ⟨j, hj, rfl, hwi, halli⟩ := hrel
        have f0 := (hwi.cell (p := ⟨gb, go + k, none⟩) (by show gb < _; omega)).trans HF0.out
        have k0' := (hwi.cell (p := ⟨w.heap.size, 0, none⟩) (by show w.heap.size < _; omega)).trans k0
        by_cases hjt : j < X.phis.length
        · obtain ⟨b', o', rfl, ⟨_, hbB'⟩, aa, cc, g0, g1, hi⟩ := HP.out j hjt
          have e6 := (hwi.cell (p := ⟨b', o' + j * 2, none⟩) (by show b' < _; omega)).trans g0
          have e7 := (hwi.cell (p := ⟨b', o' + j * 2 + 1, none⟩) (by show b' < _; omega)).trans g1
          have hal := HL2.out _ (List.getElem_mem hjt)
          have hno2 := hide (fun h => unhide hno (all_no (p := phOkI v ps.length) (xs := X.phis) (k := j) hjt h))
          have hyes2 := hide (fun h => all_take_next (p := phOkI v ps.length) hjt halli.out h)
          have HIA := hide hi
          clear g0 g1 hi
          generalize X.phis[j] = P at *
          have hq1 : w.heap.size < wr.heap.size := by have := hwi.size; omega
          have hq2 : gb < wr.heap.size := by have := hwi.size; omega
          have hPS : Hid (phOkI v ps.length P = (fld true P.dst 0 v && (decide (1 ≤ P.args.length) && decide (P.args.length = ps.length) && P.args.all (inB 0 v)))) := rfl
          cases hf : fld true P.dst 0 v
          · have HF := hide hf
            go_wp2
            go_quiet ((go_at_call 64; exact Calls.quiet_of_same (validField_any _ _ _ _ _)))
            go_wp2
            go_ret
            exact ⟨ret_bool (unhide hno2 (by rw [hPS.out, HF.out]; rfl)).symm, bnext HB1.out (below_drewN (balloc hwi _) _)⟩
          · have HF := hide hf
            by_cases h0 : P.args.length = 0
            · have h0' : ((P.args.length : Int) == 0) = true := by simp [h0]
              have H0 := hide h0
              clear h0
              go_wp2
              go_quiet ((go_at_call 64; exact Calls.quiet_of_same (validField_any _ _ _ _ _)))
              go_wp2
              go_ret
              exact ⟨ret_bool (unhide hno2 (by rw [hPS.out, HF.out, H0.out]; rfl)).symm, bnext HB1.out (below_drewN (balloc hwi _) _)⟩
            · have h0' : ((P.args.length : Int) == 0) = false := by rw [beq_eq_false_iff_ne]; omega
              have H0 := hide h0
              clear h0
              by_cases h1 : P.args.length = ps.length
              · have h1' : ((P.args.length : Int) != (ps.length : Int)) = false := by simp [h1]
                have H1 := hide h1
                clear h1
                go_wp2
                go_quiet ((go_at_call 64; exact Calls.quiet_of_same (validField_any _ _ _ _ _)))
                go_wp2
                have hb9 := below_drewN (balloc hwi (.cells #[.int .i64 P.dst, .slice aa P.args.length cc] 72)) nq
                generalize (wr.alloc (.cells #[.int .i64 P.dst, .slice aa P.args.length cc] 72)).drewN nq = w9 at *
                have r0 := (hb9.cell (p := ⟨w.heap.size, 0, none⟩) (by show w.heap.size < _; omega)).trans k0
                clear hf h0' h1' f0 k0' e6 e7
                go_loop [53] (fun i => ∃ q : Nat, q ≤ P.args.length ∧ i = .int .i64 q ∧ Hid ((P.args.take q).all (inB 0 v) = true)) (fun i => P.args.length - (intOf i).toNat)
                case atStart => exact ⟨0, Nat.zero_le _, rfl, rfl⟩
                case round =>
                  obtain ⟨q, hq, rfl, hallq⟩ := hrel
                  by_cases hqt : q < P.args.length
                  · obtain ⟨b2, o2, rfl, ⟨_, hb2⟩, hc2⟩ := HIA.out q hqt
                    have r1 := (hb9.cell (p := ⟨b2, o2 + q, none⟩) (by show b2 < _; omega)).trans hc2
                    have hno3 := hide (fun h => all_no (p := inB 0 v) (xs := P.args) (k := q) hqt h)
                    have hyes3 := hide (fun h => all_take_next (p := inB 0 v) hqt hallq.out h)
                    clear hc2
                    generalize P.args[q] = A at *
                    have hfA : Hid (fld true A 0 v = inB 0 v A) := rfl
                    cases hr : fld true A 0 v
                    · have HR := hide hr
                      go_wp2_with (go_at_call 64; refine (validField_any _ _ _ _ _).mono ?_; rintro e w2 ⟨rfl, hw2⟩; rw [hw2]; clear hw2 w2)
                      go_ret
                      exact ⟨ret_bool (unhide hno2 (by rw [hPS.out, unhide hno3 (by rw [← hfA.out]; exact HR.out)]; simp)).symm, bnext HB1.out hb9⟩
                    · have HR := hide hr
                      go_wp2_with (go_at_call 64; refine (validField_any _ _ _ _ _).mono ?_; rintro e w2 ⟨rfl, hw2⟩; rw [hw2]; clear hw2 w2)
                      go_round
                      case rel => exact ⟨q + 1, by omega, by go_num, unhide hyes3 (by rw [← hfA.out]; exact HR.out)⟩
                      case measure => simp [intOf]; omega
                  · go_wp2
                    exact ⟨⟨j + 1, by omega, by go_num, hb9, unhide hyes2 (by
                      have h1 := H1.out
                      have h0 := H0.out
                      rw [hPS.out, HF.out, decide_eq_true h1, decide_eq_true (p := 1 ≤ P.args.length) (by omega), all_whole (xs := P.args) (k := q) (by omega) hallq.out]; rfl)⟩, by simp [intOf]; omega⟩
              · have h1' : ((P.args.length : Int) != (ps.length : Int)) = true := by rw [bne_iff_ne]; omega
                have H1 := hide h1
                clear h1
                go_wp2
                go_quiet ((go_at_call 64; exact Calls.quiet_of_same (validField_any _ _ _ _ _)))
                go_wp2
                go_ret
                exact ⟨ret_bool (unhide hno2 (by rw [hPS.out, HF.out, decide_eq_false H1.out]; simp)).symm, bnext HB1.out (below_drewN (balloc hwi _) _)⟩
        · go_wp2
          exact ⟨⟨k + 1, by omega, by go_num, hwi, unhide hyes (all_whole (xs := X.phis) (k := j) (by omega) halli.out)⟩, by simp [intOf]; omega⟩
    · go_wp2
      go_ret
      exact ⟨ret_bool (by
        symm
        exact (phisFrom_iff phOkI ⟨v, xs⟩ xs 0).2 (fun j hj => by rw [Nat.zero_add]; exact hall.out j hj (by have := hx.out; omega))), bnext HB1.out hw⟩
end Go.Proofs.YtanaeindldcapaaDoor
