import Derived.Test.YtanaeindldcapaaDoorW8
import Derived.Test.YtanaeindldcapaaDoorW15
import Derived.Test.YtanaeindldcapaaDoorW14b
import Derived.Test.YtanaeindldcapaaDoorRC2
import Derived.Test.YtanaeindldcapaaDoorSP0
import Derived.Test.YtanaeindldcapaaDoorWR1
namespace Go.Proofs.YtanaeindldcapaaDoor
open Go.RowKit
theorem tgt_of_terms {v : Int} {xs : List Blk} (h : termsOk ⟨v, xs⟩ = true) : TgtOk xs xs.length := by
  intro x hx
  have h1 : terOk' v xs.length x.term = true := List.all_eq_true.1 h x hx
  simp only [terOk', terOk, Bool.and_eq_true, decide_eq_true_eq] at h1
  obtain ⟨⟨⟨⟨⟨h2, h3⟩, h4⟩, h5⟩, h6⟩, h7⟩ := h1
  have hc : x.term.kind = 1 ∨ x.term.kind = 2 ∨ x.term.kind = 3 := by omega
  rcases hc with e | e | e
  · simp only [e, fld] at h5
    simp [Ter.targets, e] at h5 ⊢
    omega
  · simp only [e, fld] at h5 h6 h7
    simp [Ter.targets, e] at h5 h6 h7 ⊢
    refine ⟨?_, h7⟩
    omega
  · simp [Ter.targets, e]
theorem dst_of_ok {m : Nat} {xs : List Blk} (h : instrsOk ⟨m, xs⟩ = true) (k : phisOkI ⟨m, xs⟩ = true) : DstOk xs m := by
  intro x hx
  constructor
  · intro p hp
    obtain ⟨j, hj, rfl⟩ := List.getElem_of_mem hx
    have h1 := (phisFrom_iff phOkI ⟨m, xs⟩ xs 0).1 k j hj
    have h2 := List.all_eq_true.1 h1 p hp
    simp only [phOkI, fld, Bool.and_eq_true, decide_eq_true_eq, if_true] at h2
    exact h2.1
  · intro y hy
    have h1 := List.all_eq_true.1 (List.all_eq_true.1 h x hx) y hy
    simp only [insOk, Bool.and_eq_true, decide_eq_true_eq] at h1
    obtain ⟨⟨⟨⟨⟨h2, h3⟩, h4⟩, _⟩, _⟩, _⟩ := h1
    refine ⟨h2, h3, fun hd => ?_⟩
    rw [hd] at h4
    simpa [fld] using h4
theorem blksSize_tot (xs : List Blk) : blksSize xs = xs.length + blksTot xs := by
  induction xs with
  | nil => rfl
  | cons x xs ih =>
    have h1 : blksSize (x :: xs) = blkSize x + blksSize xs := by simp [blksSize]
    have h2 : blksTot (x :: xs) = blkTot x + blksTot xs := by simp [blksTot]
    have h3 : phSize x.phis = x.phis.length + phTot x.phis := by
      generalize x.phis = ps
      induction ps with
      | nil => rfl
      | cons p ps ih => simp only [phSize, phTot, List.map_cons, List.sum_cons, List.length_cons] at ih ⊢; omega
    rw [h1, h2, ih, List.length_cons]
    simp only [blkSize, blkTot]
    omega
theorem tot_le {xs : List Blk} {x : Blk} (h : x ∈ xs) : x.phis.length + phTot x.phis + x.instrs.length ≤ blksTot xs := by
  induction xs with
  | nil => cases h
  | cons y ys ih =>
    have h2 : blksTot (y :: ys) = blkTot y + blksTot ys := by simp [blksTot]
    rcases List.mem_cons.1 h with rfl | h
    · rw [h2]; simp only [blkTot]; omega
    · have := ih h; omega
theorem ph_le {ps : List Ph} {p : Ph} (h : p ∈ ps) : p.args.length ≤ phTot ps := by
  induction ps with
  | nil => cases h
  | cons y ys ih =>
    have h2 : phTot (y :: ys) = y.args.length + phTot ys := by simp [phTot]
    rcases List.mem_cons.1 h with rfl | h
    · omega
    · have := ih h; omega
theorem len_of_tot {xs : List Blk} (h : xs.length + blksTot xs ≤ 1048576) : BlkLen xs := fun x hx => by
  have h1 := tot_le hx
  exact ⟨by omega, by omega, fun p hp => by have := ph_le hp; omega⟩
set_option maxHeartbeats 4000000 in
theorem validFuncI_any (v : Int) (a : Option Addr) (n c : Nat) (xs : List Blk) (L B : Nat) (w : World) (ha : Hid (BlksAt w L B a xs)) (hx : Hid (n = xs.length)) (hs : Hid (xs.length + blksTot xs ≤ 1048576)) (hB : B ≤ w.heap.size) (hO : Hid (OpTab w)) (hT : Hid (TerTab w)) :
    Calls Tryd.prog 14 #[.agg #[.int .i64 v, .slice a n c]] w fun e w' => e = .returned (.bool (validI ⟨v, xs⟩)) ∧ Below w.heap.size w w' := by
  have hn : n ≤ 1048576 := by have := hx.out; have := hs.out; omega
  have hbs : blksSize xs ≤ 1048576 := by rw [blksSize_tot]; exact hs.out
  have hlen := hide (len_of_tot hs.out)
  have ha1 := fun o => ha.out.keep ((balloc (Below.refl w.heap.size w) o).mono hB)
  have HBS := hide hbs
  clear hbs
  have hV : Hid (validI ⟨v, xs⟩ = (sizeOk ⟨v, xs⟩ && termsOk ⟨v, xs⟩ && instrsOk ⟨v, xs⟩ && phisOkI ⟨v, xs⟩ && onceOk ⟨v, xs⟩)) := rfl
  cases h1 : sizeOk ⟨v, xs⟩
  · have H1 := hide h1
    have hA1 := hide ha1
    clear h1 ha1
    go_enter Tryd.func14, Tryd.ntmps14
    go_wp2_with fail
    refine (validSize_any v a n c xs L B _ (unhide hA1 _) hx hn HBS.out (by simp; omega)).mono ?_
    rintro e w1 ⟨rfl, hb1⟩
    rw [unhide H1]
    go_wp2
    go_ret
    exact ⟨ret_bool (by rw [hV.out, H1.out]; rfl), bnext (balloc (Below.refl _ _) _) hb1⟩
  have H1 := hide h1
  have hA1 := hide ha1
  clear h1 ha1
  have hv0 : 0 ≤ v ∧ v ≤ 2000 := by
    have h := H1.out
    simp only [sizeOk, Bool.and_eq_true, decide_eq_true_eq] at h
    omega
  obtain ⟨m, rfl⟩ := Int.eq_ofNat_of_zero_le hv0.1
  have hm : m ≤ 2000 := by omega
  clear hv0
  go_enter Tryd.func14, Tryd.ntmps14
  go_wp2_with fail
  refine (validSize_any m a n c xs L B _ (unhide hA1 _) hx hn HBS.out (by simp; omega)).mono ?_
  rintro e w1 ⟨rfl, hb1⟩
  rw [unhide H1]
  obtain ⟨hc1, hf1⟩ := bcell hb1
  have k0 : w1.cell? ⟨w.heap.size, 0, none⟩ = some (.int .i64 m) := by rw [hc1 _ _ (by simp)]; simp
  have k1 : w1.cell? ⟨w.heap.size, 1, none⟩ = some (.slice a n c) := by rw [hc1 _ _ (by simp)]; simp
  have B1 := bnext (balloc (Below.refl w.heap.size w) _) hb1
  have hz1 := hb1.size
  simp at hz1
  have hA := hide (ha.out.keep (B1.mono hB))
  have hO1 := hide (hO.out.keep B1)
  have hT1 := hide (hT.out.keep B1)
  have HB1 := hide B1
  clear hc1 hf1 hb1 hA1 B1
  go_wp2_with fail
  refine (validTerms_any m a n c xs L B _ hA hx hn (by omega) hT1).mono ?_
  rintro e w2 ⟨rfl, hb2⟩
  cases h2 : termsOk ⟨m, xs⟩
  · have H2 := hide h2
    clear h2
    go_wp2
    go_ret
    exact ⟨ret_bool (by rw [hV.out, H1.out, H2.out]; rfl), bnext HB1.out hb2⟩
  have H2 := hide h2
  clear h2
  have hg := hide (tgt_of_terms H2.out)
  rw [← hx.out] at hg
  have k0' := (hb2.cell (p := ⟨w.heap.size, 0, none⟩) (by show w.heap.size < _; omega)).trans k0
  have k1' := (hb2.cell (p := ⟨w.heap.size, 1, none⟩) (by show w.heap.size < _; omega)).trans k1
  have hz2 := hb2.size
  have hA2 := hide (hA.out.keep (hb2.mono (by omega)))
  have hO2 := hide (hO1.out.keep hb2)
  have HB2 := hide (bnext HB1.out hb2)
  clear hb2 k0 k1
  go_wp2_with fail
  refine (validInstrs_any m a n c xs L B _ hA2 hx hn (fun x h => (hlen.out x h).2.1) (by omega) hO2).mono ?_
  rintro e w3 ⟨rfl, hb3⟩
  cases h3 : instrsOk ⟨m, xs⟩
  · have H3 := hide h3
    clear h3
    go_wp2
    go_ret
    exact ⟨ret_bool (by rw [hV.out, H1.out, H2.out, H3.out]; rfl), bnext HB2.out hb3⟩
  have H3 := hide h3
  clear h3
  have q0 := (hb3.cell (p := ⟨w.heap.size, 0, none⟩) (by show w.heap.size < _; omega)).trans k0'
  have q1 := (hb3.cell (p := ⟨w.heap.size, 1, none⟩) (by show w.heap.size < _; omega)).trans k1'
  have hz3 := hb3.size
  have hA3 := hide (hA2.out.keep (hb3.mono (by omega)))
  have hO3 := hide (hO2.out.keep hb3)
  have HB3 := hide (bnext HB2.out hb3)
  clear hb3 k0' k1'
  go_wp2_with fail
  refine (validPhis_any m a n c xs L B _ hA3 hx hn (fun x h => ⟨(hlen.out x h).1, (hlen.out x h).2.2⟩) (by omega) hg).mono ?_
  rintro e w4 ⟨rfl, hb4⟩
  cases h4 : phisOkI ⟨m, xs⟩
  · have H4 := hide h4
    clear h4
    go_wp2
    go_ret
    exact ⟨ret_bool (by rw [hV.out, H1.out, H2.out, H3.out, H4.out]; rfl), bnext HB3.out hb4⟩
  have H4 := hide h4
  clear h4
  have r0 := (hb4.cell (p := ⟨w.heap.size, 0, none⟩) (by show w.heap.size < _; omega)).trans q0
  have r1 := (hb4.cell (p := ⟨w.heap.size, 1, none⟩) (by show w.heap.size < _; omega)).trans q1
  have hz4 := hb4.size
  have hA4 := hide (hA3.out.keep (hb4.mono (by omega)))
  have hO4 := hide (hO3.out.keep hb4)
  have HB4 := hide (bnext HB3.out hb4)
  clear hb4 q0 q1
  go_wp2_with fail
  refine (definedOnce_any m a n c xs L B _ hA4 hx hn hm (show blksTot xs ≤ 1048576 by have := hs.out; omega) (by omega) hO4 (dst_of_ok H3.out H4.out)).mono ?_
  rintro e w5 ⟨rfl, hb5⟩
  go_wp2
  go_ret
  exact ⟨ret_bool (by rw [hV.out, H1.out, H2.out, H3.out, H4.out]; simp), bnext HB4.out hb5⟩
def predN (xs : List Blk) (k b : Nat) : List Nat := (List.range k).filter fun j => decide (b ∈ tgN xs j)
theorem preds_nat {xs : List Blk} (hT : ∀ x ∈ xs, ∀ t ∈ x.term.targets, 0 ≤ t) (b : Nat) : ∀ (k : Nat), k ≤ xs.length → predsFrom (xs.take k) 0 (b : Int) = natI (predN xs k b)
  | 0, _ => by simp [predsFrom, predN, natI]
  | k + 1, hk => by
    have hk' : k < xs.length := hk
    rw [List.take_succ_eq_append_getElem hk', predsFrom_snoc, preds_nat hT b k (by omega)]
    have hl : (xs.take k).length = k := by simp; omega
    have e : xs[k].term.targets.contains (b : Int) = decide (b ∈ tgN xs k) := by
      rw [tgN_at hk', Bool.eq_iff_iff, List.contains_iff_mem, decide_eq_true_eq, List.mem_map]
      constructor
      · exact fun h => ⟨_, h, by simp⟩
      · rintro ⟨t, ht, et⟩
        have h0 := hT _ (List.getElem_mem hk') t ht
        have : t = (b : Int) := by omega
        rw [← this]; exact ht
    rw [e, hl]
    unfold predN
    rw [List.range_succ, List.filter_append, List.filter_cons, List.filter_nil]
    by_cases h : b ∈ tgN xs k
    · rw [if_pos (by simpa using h), if_pos (by simpa using h)]; simp [natI]
    · rw [if_neg (by simpa using h), if_neg (by simpa using h)]; simp [natI]
theorem preds_all {xs : List Blk} (hT : ∀ x ∈ xs, ∀ t ∈ x.term.targets, 0 ≤ t) (b : Nat) : predsFrom xs 0 (b : Int) = natI (predN xs xs.length b) := by
  have := preds_nat hT b xs.length (Nat.le_refl _)
  rwa [List.take_length] at this
theorem predN_mem {xs : List Blk} {n b s : Nat} : s ∈ predN xs n b ↔ s < n ∧ b ∈ tgN xs s := by
  unfold predN
  rw [List.mem_filter, List.mem_range, decide_eq_true_eq]
theorem predN_len {xs : List Blk} {n b : Nat} : (predN xs n b).length ≤ n := Nat.le_trans (List.length_filter_le _ _) (by simp)
/-- The search from block 0. -/
def seaP (xs : List Blk) : (Nat → Nat) × List Nat := dfsV (tgN xs) xs.length 0 (fun _ => 0, [])
def ordP (xs : List Blk) : List Nat := (seaP xs).2.reverse
structure OkF (xs : List Blk) : Prop where
  n1 : 1 ≤ xs.length
  n2 : xs.length ≤ 1000
  tgt : ∀ x ∈ xs, ∀ t ∈ x.term.targets, 0 ≤ t ∧ t < xs.length
  ok : TgtOk xs xs.length
theorem ok_of_valid {v : Int} {xs : List Blk} (h : validI ⟨v, xs⟩ = true) : OkF xs := by
  simp only [validI, Bool.and_eq_true] at h
  obtain ⟨⟨⟨⟨h1, h2⟩, _⟩, _⟩, _⟩ := h
  simp only [sizeOk, Bool.and_eq_true, decide_eq_true_eq] at h1
  have ht := tgt_of_terms h2
  exact ⟨h1.1.1.2, h1.1.2, fun x hx => (ht x hx).1, ht⟩
theorem OkF.tg {xs : List Blk} (h : OkF xs) : ∀ b, b < xs.length → ∀ t ∈ tgN xs b, t < xs.length := fun b hb t ht => by
  rw [tgN_at hb] at ht
  obtain ⟨z, hz, rfl⟩ := List.mem_map.1 ht
  have := h.tgt _ (List.getElem_mem hb) z hz
  omega
theorem OkF.re {xs : List Blk} (h : OkF xs) : ∀ x, Re (tgN xs) x → x < xs.length := fun x hx => by
  induction hx with
  | root => exact h.n1
  | step _ ht ih => exact h.tg _ ih _ ht
theorem OkF.top {xs : List Blk} (h : OkF xs) : (∀ x, x ∈ ordP xs ↔ Re (tgN xs) x) ∧ (∀ x, hasN (seaP xs).1 x = true ↔ Re (tgN xs) x) ∧ (ordP xs).Nodup ∧ ∀ x a, Dom (tgN xs) a x → a ≠ x → Bef (ordP xs) a x := by
  obtain ⟨h1, h2, h3, h4⟩ := dfs_top h.tg h.n1 (Nat.le_refl xs.length)
  refine ⟨fun x => ?_, h2, ?_, fun x a hd hne => bef_reverse (h4 x a hd hne)⟩
  · show x ∈ (seaP xs).2.reverse ↔ _
    rw [List.mem_reverse]; exact h1 x
  · show ((seaP xs).2.reverse).Nodup
    exact List.pairwise_reverse.2 (h3.imp (fun hne e => hne e.symm))
theorem OkF.av {xs : List Blk} (h : OkF xs) {Ws : Nat → Nat → Nat} (hw : ∀ b, b < xs.length → ∀ x, x < xs.length → (hasN (Ws b) x = true ↔ Sp (Iav xs.length) (Tse xs.length) (· ∈ ordP xs) (fun b => ((List.range xs.length).map (predN xs xs.length)).getD b []) b x)) : ∀ b, b < xs.length → ∀ x, x < xs.length → (hasN (Ws b) x = true ↔ Av (tgN xs) x b) := fun b hb x hx => by
  rw [hw b hb x hx]
  refine sp_av (n := xs.length) (fun b x hx => iav_has hx) (fun b x _ hb => tse_has hb) (fun b => h.top.1 b) h.re (fun b s hb => ?_) hx
  have e : ((List.range xs.length).map (predN xs xs.length)).getD b [] = predN xs xs.length b := by simp [hb]
  rw [e]
  exact predN_mem
structure OkL (V : Nat) (xs : List Blk) : Prop where
  okf : OkF xs
  vle : V ≤ 2000
  ops : ∀ x ∈ xs, ∀ y ∈ x.instrs, 1 ≤ y.op ∧ y.op ≤ 13
  kind : ∀ x ∈ xs, 1 ≤ x.term.kind ∧ x.term.kind ≤ 3
  rdi : ∀ x ∈ xs, ∀ y ∈ x.instrs, ∀ v ∈ rdI y, 0 ≤ v ∧ v < V
  wri : ∀ x ∈ xs, ∀ y ∈ x.instrs, ∀ v ∈ writesI y, 0 ≤ v ∧ v < V
  rdt : ∀ x ∈ xs, ∀ v ∈ rdT x.term, 0 ≤ v ∧ v < V
  phd : ∀ x ∈ xs, ∀ p ∈ x.phis, 0 ≤ p.dst ∧ p.dst < V
  pha : ∀ t (h : t < xs.length), ∀ p ∈ xs[t].phis, p.args.length = (predsFrom xs 0 (t : Int)).length ∧ ∀ a ∈ p.args, 0 ≤ a ∧ a < V
  lens : ∀ x ∈ xs, x.instrs.length ≤ 4000 ∧ x.phis.length ≤ 4000
theorem fld_yes {u : Bool} {x lo hi : Int} (h : fld u x lo hi = true) (hu : u = true) : lo ≤ x ∧ x < hi := by
  subst hu
  simpa [fld] using h
theorem blkSize_mem {xs : List Blk} {x : Blk} (h : x ∈ xs) : blkSize x ≤ blksSize xs := by
  unfold blksSize
  induction xs with
  | nil => cases h
  | cons y ys ih =>
    rcases List.mem_cons.1 h with rfl | h
    · simp
    · have := ih h; simp; omega
theorem phs_le : ∀ ps : List Ph, ps.length ≤ phSize ps
  | [] => Nat.le_refl _
  | p :: ps => by have := phs_le ps; simp [phSize] at *; omega
theorem okL_of_valid {V : Nat} {xs : List Blk} (h : validI ⟨(V : Int), xs⟩ = true) : OkL V xs := by
  have hok := ok_of_valid h
  simp only [validI, Bool.and_eq_true] at h
  obtain ⟨⟨⟨⟨h1, h2⟩, h3⟩, h4⟩, _⟩ := h
  simp only [sizeOk, Bool.and_eq_true, decide_eq_true_eq] at h1
  have hI : ∀ x ∈ xs, ∀ y ∈ x.instrs, insOk (V : Int) 10 y = true := fun x hx y hy => List.all_eq_true.1 (List.all_eq_true.1 h3 x hx) y hy
  have hT : ∀ x ∈ xs, terOk (V : Int) 1 xs.length x.term = true := fun x hx => by
    have := List.all_eq_true.1 h2 x hx
    simp only [terOk', Bool.and_eq_true] at this
    exact this.1
  have hP := (phisFrom_iff phOkI ⟨(V : Int), xs⟩ xs 0).1 h4
  refine ⟨hok, by omega, fun x hx y hy => ?_, fun x hx => ?_, fun x hx y hy v hv => ?_, fun x hx y hy v hv => ?_, fun x hx v hv => ?_, fun x hx p hp => ?_, fun t ht p hp => ?_, fun x hx => ?_⟩
  · have := hI x hx y hy
    simp only [insOk, Bool.and_eq_true, decide_eq_true_eq] at this
    omega
  · have := hT x hx
    simp only [terOk, Bool.and_eq_true, decide_eq_true_eq] at this
    omega
  · have := hI x hx y hy
    simp only [insOk, Bool.and_eq_true] at this
    obtain ⟨⟨⟨⟨_, _⟩, ha⟩, hb⟩, _⟩ := this
    unfold rdI at hv
    rcases List.mem_append.1 hv with hv | hv
    · by_cases e : aB y.op = true
      · rw [if_pos e] at hv
        have e2 : v = y.a := by simpa using hv
        rw [e2]; exact fld_yes ha e
      · rw [if_neg e] at hv; cases hv
    · by_cases e : bB y.op = true
      · rw [if_pos e] at hv
        have e2 : v = y.b := by simpa using hv
        rw [e2]; exact fld_yes hb e
      · rw [if_neg e] at hv; cases hv
  · have := hI x hx y hy
    simp only [insOk, Bool.and_eq_true] at this
    obtain ⟨⟨⟨⟨_, hd⟩, _⟩, _⟩, _⟩ := this
    unfold writesI at hv
    by_cases e : dB y.op = true
    · rw [if_pos e] at hv
      have e2 : v = y.dst := by simpa using hv
      rw [e2]; exact fld_yes hd e
    · rw [if_neg e] at hv; cases hv
  · have := hT x hx
    simp only [terOk, Bool.and_eq_true] at this
    obtain ⟨⟨⟨_, ha⟩, _⟩, _⟩ := this
    unfold rdT at hv
    by_cases e : (x.term.kind != 1) = true
    · rw [if_pos e] at hv
      have e2 : v = x.term.a := by simpa using hv
      rw [e2]; exact fld_yes ha e
    · rw [if_neg e] at hv; cases hv
  · obtain ⟨t, ht, rfl⟩ := List.getElem_of_mem hx
    have := List.all_eq_true.1 (hP t ht) p hp
    simp only [phOkI, Bool.and_eq_true] at this
    exact fld_yes this.1 rfl
  · have := List.all_eq_true.1 (hP t ht) p hp
    simp only [phOkI, phOkS, Bool.and_eq_true, decide_eq_true_eq, List.all_eq_true] at this
    rw [Nat.zero_add] at this
    exact ⟨this.2.1.2, fun a ha => this.2.2 a ha⟩
  · have := blkSize_mem hx
    have h5 : blksSize xs ≤ 4000 := h1.2
    have := phs_le x.phis
    unfold blkSize at *
    omega
def natL (l : List Int) : List Nat := l.map Int.toNat
theorem natI_natL {l : List Int} (h : ∀ v ∈ l, 0 ≤ v) : (natL l).map Int.ofNat = l := by
  unfold natL
  rw [List.map_map]
  conv => rhs; rw [← List.map_id l]
  apply List.map_congr_left
  intro v hv
  have := h v hv
  simp [Function.comp]
  omega
theorem mem_natL {l : List Int} (h : ∀ v ∈ l, 0 ≤ v) {x : Nat} : x ∈ natL l ↔ (x : Int) ∈ l := by
  unfold natL
  rw [List.mem_map]
  constructor
  · rintro ⟨v, hv, rfl⟩
    have := h v hv
    rw [show ((v.toNat : Nat) : Int) = v by omega]
    exact hv
  · intro hx
    exact ⟨_, hx, by omega⟩
/-- What the phis of block t read, each with the block where it is read. -/
def phT (xs : List Blk) (t : Nat) (ps : List Ph) : List (Nat × Nat) := ps.flatMap fun p => (predN xs xs.length t).zip (natL p.args)
def phB (xs : List Blk) (t : Nat) : List (Nat × Nat) := (xs[t]?).elim [] fun x => phT xs t x.phis
def phE (xs : List Blk) (k : Nat) : List (Nat × Nat) := (List.range k).flatMap (phB xs)
end Go.Proofs.YtanaeindldcapaaDoor
