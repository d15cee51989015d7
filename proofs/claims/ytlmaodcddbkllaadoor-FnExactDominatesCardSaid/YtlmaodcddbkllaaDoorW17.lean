import Derived.Test.YtlmaodcddbkllaaDoorW8
import Derived.Test.YtlmaodcddbkllaaDoorW12
import Derived.Test.YtlmaodcddbkllaaDoorW16
namespace Go.Proofs.YtlmaodcddbkllaaDoor
open Go.RowKit

theorem tgt_of_terms {v : Int} {xs : List Blk} (h : termsOk ⟨v, xs⟩ = true) : TgtOk xs xs.length := by
  intro x hx
  have h1 : terOk' v xs.length x.term = true := List.all_eq_true.1 h x hx
  simp only [terOk', terOk, Bool.and_eq_true, decide_eq_true_eq] at h1
  obtain ⟨⟨⟨⟨⟨h2, h3⟩, h4⟩, h5⟩, h6⟩, h7⟩ := h1
  have hc : x.term.kind = 1 ∨ x.term.kind = 2 ∨ x.term.kind = 3 := by omega
  rcases hc with e | e | e
  · simp only [e, fld] at h5
    simp [Ter.targets, e] at h5 ⊢
    omega
  · simp only [e, fld] at h5 h6 h7
    simp [Ter.targets, e] at h5 h6 h7 ⊢
    refine ⟨?_, h7⟩
    omega
  · simp [Ter.targets, e]

theorem dst_of_ok {m : Nat} {xs : List Blk} (h : instrsOk ⟨m, xs⟩ = true) (k : phisOkI ⟨m, xs⟩ = true) : DstOk xs m := by
  intro x hx
  constructor
  · intro p hp
    obtain ⟨j, hj, rfl⟩ := List.getElem_of_mem hx
    have h1 := (phisFrom_iff phOkI ⟨m, xs⟩ xs 0).1 k j hj
    have h2 := List.all_eq_true.1 h1 p hp
    simp only [phOkI, fld, Bool.and_eq_true, decide_eq_true_eq, if_true] at h2
    exact h2.1
  · intro y hy
    have h1 := List.all_eq_true.1 (List.all_eq_true.1 h x hx) y hy
    simp only [insOk, Bool.and_eq_true, decide_eq_true_eq] at h1
    obtain ⟨⟨⟨⟨⟨h2, h3⟩, h4⟩, _⟩, _⟩, _⟩ := h1
    refine ⟨h2, h3, fun hd => ?_⟩
    rw [hd] at h4
    simpa [fld] using h4

theorem blksSize_tot (xs : List Blk) : blksSize xs = xs.length + blksTot xs := by
  induction xs with
  | nil => rfl
  | cons x xs ih =>
    have h1 : blksSize (x :: xs) = blkSize x + blksSize xs := by simp [blksSize]
    have h2 : blksTot (x :: xs) = blkTot x + blksTot xs := by simp [blksTot]
    have h3 : phSize x.phis = x.phis.length + phTot x.phis := by
      generalize x.phis = ps
      induction ps with
      | nil => rfl
      | cons p ps ih => simp only [phSize, phTot, List.map_cons, List.sum_cons, List.length_cons] at ih ⊢; omega
    rw [h1, h2, ih, List.length_cons]
    simp only [blkSize, blkTot]
    omega

theorem tot_le {xs : List Blk} {x : Blk} (h : x ∈ xs) : x.phis.length + phTot x.phis + x.instrs.length ≤ blksTot xs := by
  induction xs with
  | nil => cases h
  | cons y ys ih =>
    have h2 : blksTot (y :: ys) = blkTot y + blksTot ys := by simp [blksTot]
    rcases List.mem_cons.1 h with rfl | h
    · rw [h2]; simp only [blkTot]; omega
    · have := ih h; omega
theorem ph_le {ps : List Ph} {p : Ph} (h : p ∈ ps) : p.args.length ≤ phTot ps := by
  induction ps with
  | nil => cases h
  | cons y ys ih =>
    have h2 : phTot (y :: ys) = y.args.length + phTot ys := by simp [phTot]
    rcases List.mem_cons.1 h with rfl | h
    · omega
    · have := ih h; omega
theorem len_of_tot {xs : List Blk} (h : xs.length + blksTot xs ≤ 1048576) : BlkLen xs := fun x hx => by
  have h1 := tot_le hx
  exact ⟨by omega, by omega, fun p hp => by have := ph_le hp; omega⟩

set_option maxHeartbeats 4000000 in
theorem validFuncI_any (v : Int) (a : Option Addr) (n c : Nat) (xs : List Blk) (L B : Nat) (w : World) (ha : Hid (BlksAt w L B a xs)) (hx : Hid (n = xs.length)) (hs : Hid (xs.length + blksTot xs ≤ 1048576)) (hB : B ≤ w.heap.size) (hO : Hid (OpTab w)) (hT : Hid (TerTab w)) :
    Calls Tryd.prog 26 #[.agg #[.int .i64 v, .slice a n c]] w fun e w' => e = .returned (.bool (validI ⟨v, xs⟩)) ∧ Below w.heap.size w w' := by
  have hn : n ≤ 1048576 := by have := hx.out; have := hs.out; omega
  have hbs : blksSize xs ≤ 1048576 := by rw [blksSize_tot]; exact hs.out
  have hlen := hide (len_of_tot hs.out)
  have ha1 := fun o => ha.out.keep ((balloc (Below.refl w.heap.size w) o).mono hB)
  have HBS := hide hbs
  clear hbs
  have hV : Hid (validI ⟨v, xs⟩ = (sizeOk ⟨v, xs⟩ && termsOk ⟨v, xs⟩ && instrsOk ⟨v, xs⟩ && phisOkI ⟨v, xs⟩ && onceOk ⟨v, xs⟩)) := rfl
  cases h1 : sizeOk ⟨v, xs⟩
  · have H1 := hide h1
    have hA1 := hide ha1
    clear h1 ha1
    go_enter Tryd.func26, Tryd.ntmps26
    go_wp2_with fail
    refine (validSize_any v a n c xs L B _ (unhide hA1 _) hx hn HBS.out (by simp; omega)).mono ?_
    rintro e w1 ⟨rfl, hb1⟩
    rw [unhide H1]
    go_wp2
    go_ret
    exact ⟨ret_bool (by rw [hV.out, H1.out]; rfl), bnext (balloc (Below.refl _ _) _) hb1⟩
  have H1 := hide h1
  have hA1 := hide ha1
  clear h1 ha1
  have hv0 : 0 ≤ v ∧ v ≤ 2000 := by
    have h := H1.out
    simp only [sizeOk, Bool.and_eq_true, decide_eq_true_eq] at h
    omega
  obtain ⟨m, rfl⟩ := Int.eq_ofNat_of_zero_le hv0.1
  have hm : m ≤ 2000 := by omega
  clear hv0
  go_enter Tryd.func26, Tryd.ntmps26
  go_wp2_with fail
  refine (validSize_any m a n c xs L B _ (unhide hA1 _) hx hn HBS.out (by simp; omega)).mono ?_
  rintro e w1 ⟨rfl, hb1⟩
  rw [unhide H1]
  obtain ⟨hc1, hf1⟩ := bcell hb1
  have k0 : w1.cell? ⟨w.heap.size, 0, none⟩ = some (.int .i64 m) := by rw [hc1 _ _ (by simp)]; simp
  have k1 : w1.cell? ⟨w.heap.size, 1, none⟩ = some (.slice a n c) := by rw [hc1 _ _ (by simp)]; simp
  have B1 := bnext (balloc (Below.refl w.heap.size w) _) hb1
  have hz1 := hb1.size
  simp at hz1
  have hA := hide (ha.out.keep (B1.mono hB))
  have hO1 := hide (hO.out.keep B1)
  have hT1 := hide (hT.out.keep B1)
  have HB1 := hide B1
  clear hc1 hf1 hb1 hA1 B1
  go_wp2_with fail
  refine (validTerms_any m a n c xs L B _ hA hx hn (by omega) hT1).mono ?_
  rintro e w2 ⟨rfl, hb2⟩
  cases h2 : termsOk ⟨m, xs⟩
  · have H2 := hide h2
    clear h2
    go_wp2
    go_ret
    exact ⟨ret_bool (by rw [hV.out, H1.out, H2.out]; rfl), bnext HB1.out hb2⟩
  have H2 := hide h2
  clear h2
  have hg := hide (tgt_of_terms H2.out)
  rw [← hx.out] at hg
  have k0' := (hb2.cell (p := ⟨w.heap.size, 0, none⟩) (by show w.heap.size < _; omega)).trans k0
  have k1' := (hb2.cell (p := ⟨w.heap.size, 1, none⟩) (by show w.heap.size < _; omega)).trans k1
  have hz2 := hb2.size
  have hA2 := hide (hA.out.keep (hb2.mono (by omega)))
  have hO2 := hide (hO1.out.keep hb2)
  have HB2 := hide (bnext HB1.out hb2)
  clear hb2 k0 k1
  go_wp2_with fail
  refine (validInstrs_any m a n c xs L B _ hA2 hx hn (fun x h => (hlen.out x h).2.1) (by omega) hO2).mono ?_
  rintro e w3 ⟨rfl, hb3⟩
  cases h3 : instrsOk ⟨m, xs⟩
  · have H3 := hide h3
    clear h3
    go_wp2
    go_ret
    exact ⟨ret_bool (by rw [hV.out, H1.out, H2.out, H3.out]; rfl), bnext HB2.out hb3⟩
  have H3 := hide h3
  clear h3
  have q0 := (hb3.cell (p := ⟨w.heap.size, 0, none⟩) (by show w.heap.size < _; omega)).trans k0'
  have q1 := (hb3.cell (p := ⟨w.heap.size, 1, none⟩) (by show w.heap.size < _; omega)).trans k1'
  have hz3 := hb3.size
  have hA3 := hide (hA2.out.keep (hb3.mono (by omega)))
  have hO3 := hide (hO2.out.keep hb3)
  have HB3 := hide (bnext HB2.out hb3)
  clear hb3 k0' k1'
  go_wp2_with fail
  refine (validPhis_any m a n c xs L B _ hA3 hx hn (fun x h => ⟨(hlen.out x h).1, (hlen.out x h).2.2⟩) (by omega) hg).mono ?_
  rintro e w4 ⟨rfl, hb4⟩
  cases h4 : phisOkI ⟨m, xs⟩
  · have H4 := hide h4
    clear h4
    go_wp2
    go_ret
    exact ⟨ret_bool (by rw [hV.out, H1.out, H2.out, H3.out, H4.out]; rfl), bnext HB3.out hb4⟩
  have H4 := hide h4
  clear h4
  have r0 := (hb4.cell (p := ⟨w.heap.size, 0, none⟩) (by show w.heap.size < _; omega)).trans q0
  have r1 := (hb4.cell (p := ⟨w.heap.size, 1, none⟩) (by show w.heap.size < _; omega)).trans q1
  have hz4 := hb4.size
  have hA4 := hide (hA3.out.keep (hb4.mono (by omega)))
  have hO4 := hide (hO3.out.keep hb4)
  have HB4 := hide (bnext HB3.out hb4)
  clear hb4 q0 q1
  go_wp2_with fail
  refine (definedOnce_any m a n c xs L B _ hA4 hx hn hm (show blksTot xs ≤ 1048576 by have := hs.out; omega) (by omega) hO4 (dst_of_ok H3.out H4.out)).mono ?_
  rintro e w5 ⟨rfl, hb5⟩
  go_wp2
  go_ret
  exact ⟨ret_bool (by rw [hV.out, H1.out, H2.out, H3.out, H4.out]; simp), bnext HB4.out hb5⟩
end Go.Proofs.YtlmaodcddbkllaaDoor
