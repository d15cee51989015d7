import Derived.Test.YtlmaodcddbkllaaDoorSQ11
/-
  Sequence, pure: the word of what is read; the sorted keys.
-/
namespace Go.Proofs.YtlmaodcddbkllaaDoor
open Go.RowKit Go.Maps Go.Sort Go.Shelf

theorem mv_one {L : List Mv} (hn : (tosM L).Nodup) {q m : Mv} (hq : q ∈ L) (hm : m ∈ L) (e : q.to = m.to) : q = m := by
  obtain ⟨i, hi, rfl⟩ := List.getElem_of_mem hq
  obtain ⟨j, hj, rfl⟩ := List.getElem_of_mem hm
  have key := List.pairwise_iff_getElem.1 (show (L.map (·.to)).Pairwise (· ≠ ·) from hn)
  rcases Nat.lt_trichotomy i j with hl | hl | hl
  · exact (key i j (by simpa using hi) (by simpa using hj) hl (by simp [e])).elim
  · subst hl; rfl
  · exact (key j i (by simpa using hj) (by simpa using hi) hl (by simp [e])).elim
/-- Is it read by a copy that the range has passed? -/
def visB (L : List Mv) (left : Lit → Bool) (t : Nat) : Bool := L.any fun m => !left (.int .i64 m.to) && (m.frm == (t : Int))
theorem vis_start {L : List Mv} {left : Lit → Bool} (h : ∀ m ∈ L, left (.int .i64 m.to) = true) (t : Nat) : visB L left t = false := List.any_eq_false.2 (fun m hm => by simp [h m hm])
theorem vis_end {L : List Mv} {left : Lit → Bool} (h : ∀ k, left k = false) (t : Nat) : visB L left t = isRead L t := by
  unfold visB isRead
  congr 1
  funext m
  simp [h]
theorem vis_step {L : List Mv} (hn : (tosM L).Nodup) {left : Lit → Bool} {m : Mv} (hm : m ∈ L) (t : Nat) : visB L (fun z => left z && !z.sameKey (.int .i64 m.to)) t = (visB L left t || m.frm == (t : Int)) := by
  rw [Bool.eq_iff_iff]
  unfold visB
  simp only [List.any_eq_true, Bool.or_eq_true]
  constructor
  · rintro ⟨q, hq, h⟩
    by_cases e : q.to = m.to
    · have := mv_one hn hq hm e
      subst this
      simp only [Bool.and_eq_true] at h
      exact Or.inr h.2
    · rw [strike_other e] at h
      exact Or.inl ⟨q, hq, h⟩
  · rintro (⟨q, hq, h⟩ | h)
    · by_cases e : q.to = m.to
      · refine ⟨q, hq, ?_⟩
        rw [e, strike_same]
        simp only [Bool.and_eq_true] at h
        simpa using h.2
      · exact ⟨q, hq, by rw [strike_other e]; exact h⟩
    · exact ⟨m, hm, by rw [strike_same]; simpa using h⟩
def readsN (m : Mv) : List Nat := if m.frm < 0 then [] else [m.frm.toNat]
theorem reads_cp (m : Mv) : readsI (cpI m) = (readsN m).map Int.ofNat := by
  unfold readsN cpI
  by_cases h : m.frm < 0
  · rw [if_pos h, if_pos h]; rfl
  · rw [if_neg h, if_neg h]
    show [m.frm] ++ [] = [Int.ofNat m.frm.toNat]
    rw [List.append_nil]
    congr 1
    exact (Int.toNat_of_nonneg (by omega)).symm
theorem reads_bit (m : Mv) (W t : Nat) : (addW W (readsN m)).testBit t = (W.testBit t || m.frm == (t : Int)) := by
  unfold readsN
  by_cases h : m.frm < 0
  · rw [if_pos h]
    have : (m.frm == (t : Int)) = false := by simpa using (by omega : m.frm ≠ t)
    rw [this, Bool.or_false]
    rfl
  · rw [if_neg h]
    show (W ||| 2 ^ m.frm.toNat).testBit t = _
    rw [Nat.testBit_or, Nat.testBit_two_pow]
    congr 1
    rw [Bool.eq_iff_iff]
    simp
    omega
theorem reads_lt {m : Mv} (h : m.frm = -1 ∨ (0 ≤ m.frm ∧ m.frm < 64)) : ∀ t ∈ readsN m, t < 64 := by
  unfold readsN
  split
  · simp
  · simp; omega
/-- The keys, sorted. -/
def sortM (ss : List Int) : List Int := ss.mergeSort (fun x y => decide (x ≤ y))
theorem sort_perm (ss : List Int) : (sortM ss).Perm ss := List.mergeSort_perm _ _
theorem sort_le (ss : List Int) {i j : Nat} (hij : i ≤ j) (hj : j < (sortM ss).length) : (sortM ss)[i] ≤ (sortM ss)[j] := by
  have hp : (sortM ss).Pairwise (fun a b => decide (a ≤ b) = true) := List.pairwise_mergeSort (fun a b c h1 h2 => by simp only [decide_eq_true_eq] at *; omega) (fun a b => by simp only [Bool.or_eq_true, decide_eq_true_eq]; omega) ss
  rcases Nat.lt_or_eq_of_le hij with h | h
  · simpa using List.pairwise_iff_getElem.1 hp i j (by omega) hj h
  · subst h; exact Int.le_refl _
theorem first_free {L : List Mv} {ss : List Int} (hp : ss.Perm (tosM L)) {i : Nat} (hi : i < (sortM ss).length) (hr : ∀ j (h : j < i), isRead L ((sortM ss)[j]'(by omega)) = true) (hf : isRead L (sortM ss)[i] = false) : lowI (freeT L) = some (sortM ss)[i] := by
  refine lowI_of (List.mem_filter.2 ⟨((sort_perm ss).trans hp).mem_iff.1 (List.getElem_mem hi), by rw [hf]; rfl⟩) (fun x hx => ?_)
  obtain ⟨h1, h2⟩ := List.mem_filter.1 hx
  obtain ⟨j, hj, rfl⟩ := List.getElem_of_mem (((sort_perm ss).trans hp).mem_iff.2 h1)
  by_cases hji : j < i
  · rw [hr j hji] at h2; cases h2
  · exact sort_le ss (by omega) hj
theorem none_free {L : List Mv} {ss : List Int} (hp : ss.Perm (tosM L)) (hr : ∀ j (h : j < (sortM ss).length), isRead L (sortM ss)[j] = true) : lowI (freeT L) = none := by
  rw [lowI_none]
  refine List.filter_eq_nil_iff.2 (fun x hx => ?_)
  obtain ⟨j, hj, rfl⟩ := List.getElem_of_mem (((sort_perm ss).trans hp).mem_iff.2 hx)
  rw [hr j hj]
  simp
theorem first_low {L : List Mv} {ss : List Int} (hp : ss.Perm (tosM L)) (h0 : 0 < (sortM ss).length) : lowI (tosM L) = some (sortM ss)[0] := by
  refine lowI_of (((sort_perm ss).trans hp).mem_iff.1 (List.getElem_mem h0)) (fun x hx => ?_)
  obtain ⟨j, hj, rfl⟩ := List.getElem_of_mem (((sort_perm ss).trans hp).mem_iff.2 hx)
  exact sort_le ss (Nat.zero_le _) hj
theorem sort_len {L : List Mv} {ss : List Int} (hp : ss.Perm (tosM L)) : (sortM ss).length = L.length := by
  rw [((sort_perm ss).trans hp).length_eq]; simp [tosM]
theorem sort_mem {L : List Mv} {ss : List Int} (hp : ss.Perm (tosM L)) {x : Int} : x ∈ sortM ss ↔ x ∈ tosM L := ((sort_perm ss).trans hp).mem_iff
theorem calm {w w' : World} (h : Below w.heap.size w w') : w.grownBy w' none := ⟨h.os, h.tape, h.output, h.size, fun k hk _ => h.block k hk⟩
theorem InsAt.keepB {w w' : World} {b o B : Nat} {x : Ins} (h : InsAt w b o x) (k : Below B w w') (hb : b < B) : InsAt w' b o x := by
  have e := fun i => cell_of (o := i) (k.block b hb)
  obtain ⟨h0, h1, h2, h3, h4⟩ := h
  exact ⟨(e _).trans h0, (e _).trans h1, (e _).trans h2, (e _).trans h3, (e _).trans h4⟩
end Go.Proofs.YtlmaodcddbkllaaDoor
