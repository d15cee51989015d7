import Derived.Test.YtlmaodcddbkllaaDoorDS4
/-
  Sequence, pure: how many copies there are: one for each move, and one more for each cycle.
-/
namespace Go.Proofs.YtlmaodcddbkllaaDoor

/-- Where a register's new content comes from, while moves are left. -/
def nextM (L : List Mv) (z : Int) : Option Int := match L.find? fun m => m.to == z with
  | some m => if m.frm < 0 then none else some m.frm
  | none => none
theorem next_iff {L : List Mv} (hn : (tosM L).Nodup) {z y : Int} : nextM L z = some y ↔ ∃ m ∈ L, m.to = z ∧ 0 ≤ m.frm ∧ m.frm = y := by
  constructor
  · intro h
    unfold nextM at h
    split at h
    · rename_i m hf
      split at h
      · cases h
      · rename_i h0
        refine ⟨m, List.mem_of_find?_eq_some hf, by simpa using List.find?_some hf, by omega, by simpa using h⟩
    · cases h
  · rintro ⟨m, hm, rfl, h0, rfl⟩
    unfold nextM
    rw [find_to hn hm]
    dsimp only
    rw [if_neg (by omega)]
def walkM (f : Int → Option Int) : Nat → Int → Option Int
  | 0, r => some r
  | k + 1, r => (walkM f k r).bind f
/-- The least register of a cycle. -/
def CycMin (f : Int → Option Int) (r : Int) : Prop := ∃ k, walkM f (k + 1) r = some r ∧ ∀ j, 1 ≤ j → j ≤ k → ∃ z, walkM f j r = some z ∧ r < z
theorem walk_mono {f g : Int → Option Int} (h : ∀ z y, g z = some y → f z = some y) : ∀ (j : Nat) (r z : Int), walkM g j r = some z → walkM f j r = some z
  | 0, _, _, h0 => h0
  | j + 1, r, z, h0 => by
    obtain ⟨y, h1, h2⟩ := Option.bind_eq_some_iff.1 h0
    exact Option.bind_eq_some_iff.2 ⟨y, walk_mono h j r y h1, h _ _ h2⟩
theorem CycMin.mono {f g : Int → Option Int} {r : Int} (h : ∀ z y, g z = some y → f z = some y) (hc : CycMin g r) : CycMin f r := by
  obtain ⟨k, h1, h2⟩ := hc
  exact ⟨k, walk_mono h _ _ _ h1, fun j hj hk => by obtain ⟨z, h3, h4⟩ := h2 j hj hk; exact ⟨z, walk_mono h _ _ _ h3, h4⟩⟩
theorem CycMin.into {f g : Int → Option Int} {r : Int} (hc : CycMin f r) (h : ∀ z y, r ≤ z → r ≤ y → f z = some y → (∃ p, f p = some z) → g z = some y) : CycMin g r := by
  obtain ⟨k, h1, h2⟩ := hc
  have at_ : ∀ j, j ≤ k + 1 → ∃ z, walkM f j r = some z ∧ r ≤ z ∧ ∃ p, f p = some z := fun j hj => by
    have last : ∃ p, f p = some r := by
      obtain ⟨y, _, h4⟩ := Option.bind_eq_some_iff.1 h1
      exact ⟨y, h4⟩
    match j, hj with
    | 0, _ => exact ⟨r, rfl, Int.le_refl _, last⟩
    | j + 1, hj =>
      by_cases e : j + 1 = k + 1
      · rw [e]; exact ⟨r, h1, Int.le_refl _, last⟩
      · obtain ⟨z, h3, h4⟩ := h2 (j + 1) (by omega) (by omega)
        obtain ⟨y, _, h5⟩ := Option.bind_eq_some_iff.1 (show (walkM f j r).bind f = some z from h3)
        exact ⟨z, h3, by omega, y, h5⟩
  have same : ∀ j, j ≤ k + 1 → walkM g j r = walkM f j r := by
    intro j
    induction j with
    | zero => intro _; rfl
    | succ j ih =>
      intro hj
      obtain ⟨z, e1, e2, e3⟩ := at_ j (by omega)
      obtain ⟨y, g1, g2, _⟩ := at_ (j + 1) hj
      have hfz : f z = some y := by
        have : (walkM f j r).bind f = some y := g1
        rw [e1] at this
        exact this
      show (walkM g j r).bind g = _
      rw [ih (by omega), e1, g1]
      exact h z y e2 g2 hfz e3
  exact ⟨k, (same _ (Nat.le_refl _)).trans h1, fun j hj hk => by
    obtain ⟨z, h3, h4⟩ := h2 j hj hk
    exact ⟨z, (same j (by omega)).trans h3, h4⟩⟩
theorem next_read {L : List Mv} (hn : (tosM L).Nodup) {p z : Int} (h : nextM L p = some z) : isRead L z = true := by
  obtain ⟨m, hm, _, _, e⟩ := (next_iff hn).1 h
  exact isRead_iff.2 ⟨m, hm, e⟩
theorem cyc_free {L : List Mv} (h : MvOk L) {t : Int} (ht : isRead L t = false) (r : Int) : CycMin (nextM (without L t)) r ↔ CycMin (nextM L) r := by
  have hn := (h.without t).nd
  constructor
  · refine CycMin.mono (fun z y hz => ?_)
    obtain ⟨m, hm, e⟩ := (next_iff hn).1 hz
    exact (next_iff h.nd).2 ⟨m, (List.mem_filter.1 hm).1, e⟩
  · intro hc
    refine hc.into (fun z y _ _ hz ⟨p, hp⟩ => ?_)
    obtain ⟨m, hm, e1, e2⟩ := (next_iff h.nd).1 hz
    have hzt : z ≠ t := fun e => by
      have := next_read h.nd hp
      rw [e, ht] at this
      cases this
    exact (next_iff hn).2 ⟨m, List.mem_filter.2 ⟨hm, by rw [e1]; simpa using hzt⟩, e1, e2⟩
theorem next_scratch {L : List Mv} (h : MvOk L) {r0 z y : Int} : nextM (scratch L r0) z = some y ↔ nextM L z = some y ∧ y ≠ r0 := by
  rw [next_iff (h.scratch r0).nd, next_iff h.nd]
  constructor
  · rintro ⟨m, hm, rfl, h0, rfl⟩
    obtain ⟨q, hq, rfl⟩ := List.mem_map.1 hm
    by_cases e : q.frm = r0
    · rw [if_pos e] at h0; exact absurd h0 (show ¬ (0 : Int) ≤ -1 by decide)
    · rw [if_neg e] at h0 ⊢
      exact ⟨⟨q, hq, rfl, h0, rfl⟩, e⟩
  · rintro ⟨⟨m, hm, rfl, h0, rfl⟩, hne⟩
    exact ⟨m, List.mem_map.2 ⟨m, hm, by rw [if_neg hne]⟩, rfl, h0, rfl⟩
theorem cyc_put {L : List Mv} (h : MvOk L) {r0 : Int} (hl : lowI (tosM L) = some r0) (r : Int) : CycMin (nextM (scratch L r0)) r ↔ CycMin (nextM L) r ∧ r ≠ r0 := by
  constructor
  · intro hc
    refine ⟨hc.mono (fun z y hz => ((next_scratch h).1 hz).1), fun e => ?_⟩
    obtain ⟨k, h1, _⟩ := hc
    obtain ⟨y, _, h4⟩ := Option.bind_eq_some_iff.1 (show (walkM _ k r).bind _ = some r from h1)
    exact ((next_scratch h).1 h4).2 e
  · rintro ⟨hc, hne⟩
    refine hc.into (fun z y hz hy hf _ => (next_scratch h).2 ⟨hf, fun e => ?_⟩)
    have hr : r ∈ tosM L := by
      obtain ⟨k, h1, h2⟩ := hc
      cases k with
      | zero =>
        obtain ⟨m, hm, e1, _⟩ := (next_iff h.nd).1 (show nextM L r = some r from h1)
        exact List.mem_map.2 ⟨m, hm, e1⟩
      | succ k =>
        obtain ⟨z1, h3, _⟩ := h2 1 (Nat.le_refl _) (by omega)
        obtain ⟨m, hm, e1, _⟩ := (next_iff h.nd).1 (show nextM L r = some z1 from h3)
        exact List.mem_map.2 ⟨m, hm, e1⟩
    have := (lowI_some hl).2 r hr
    omega
end Go.Proofs.YtlmaodcddbkllaaDoor

/-
  Sequence, pure: where no register is free the least one lies on a cycle; the count.
-/
namespace Go.Proofs.YtlmaodcddbkllaaDoor

theorem least_of {p : Nat → Prop} : ∀ n, p n → ∃ k, p k ∧ ∀ m, m < k → ¬ p m := by
  intro n
  induction n using Nat.strongRecOn with
  | ind n ih =>
    intro hn
    by_cases h : ∃ m, m < n ∧ p m
    · obtain ⟨m, hm, hp⟩ := h
      exact ih m hm hp
    · exact ⟨n, hn, fun m hm hp => h ⟨m, hm, hp⟩⟩
/-- A list longer than what its members come from has one twice. -/
theorem twice {xs ys : List Int} (hs : ∀ x ∈ xs, x ∈ ys) (hl : ys.length < xs.length) : ∃ i j, ∃ (_ : i < j) (hj : j < xs.length), xs[i] = xs[j] := by
  by_cases h : ∃ i j, ∃ (_ : i < j) (hj : j < xs.length), xs[i] = xs[j]
  · exact h
  · have hn : xs.Nodup := by
      unfold List.Nodup
      refine List.pairwise_iff_getElem.2 (fun i j hi hj hij e => h ⟨i, j, hij, hj, e⟩)
    have := nodup_len hn hs
    omega
section
variable {L : List Mv} (h : MvOk L) (hl : lowI (freeT L) = none)
include h hl
omit h in
theorem all_read {t : Int} (ht : t ∈ tosM L) : isRead L t = true := by
  have h0 : freeT L = [] := lowI_none.1 hl
  have := List.filter_eq_nil_iff.1 h0 t ht
  simpa using this
theorem frms_in {m : Mv} (hm : m ∈ L) : m.frm ∈ tosM L := by
  by_cases hin : m.frm ∈ tosM L
  · exact hin
  exfalso
  have hs : ∀ t ∈ tosM L, t ∈ (L.map (·.frm)).erase m.frm := fun t ht => by
    obtain ⟨q, hq, e⟩ := isRead_iff.1 (all_read hl ht)
    exact (List.mem_erase_of_ne (fun e2 => hin (by rw [← e2]; exact ht))).2 (List.mem_map.2 ⟨q, hq, e⟩)
  have h1 := nodup_len h.nd hs
  have hmm : m.frm ∈ L.map (·.frm) := List.mem_map.2 ⟨m, hm, rfl⟩
  rw [List.length_erase_of_mem hmm] at h1
  have : 0 < (L.map (·.frm)).length := List.length_pos_of_mem hmm
  simp [tosM] at h1 this
  omega
theorem frm_inj {m q : Mv} (hm : m ∈ L) (hq : q ∈ L) (e : m.frm = q.frm) : m = q := by
  obtain ⟨i, hi, rfl⟩ := List.getElem_of_mem hm
  obtain ⟨j, hj, rfl⟩ := List.getElem_of_mem hq
  by_cases hij : i = j
  · subst hij; rfl
  exfalso
  have hs : ∀ t ∈ tosM L, t ∈ (L.map (·.frm)).eraseIdx i := fun t ht => by
    obtain ⟨p, hp, e2⟩ := isRead_iff.1 (all_read hl ht)
    obtain ⟨k, hk, rfl⟩ := List.getElem_of_mem hp
    rw [List.mem_eraseIdx_iff_getElem]
    by_cases hki : k = i
    · subst hki
      exact ⟨j, by simpa using hj, fun e3 => hij e3.symm, by simp [← e2, e]⟩
    · exact ⟨k, by simpa using hk, hki, by simpa using e2⟩
  have h1 := nodup_len h.nd hs
  rw [List.length_eraseIdx_of_lt (by simpa using hi)] at h1
  simp [tosM] at h1
  omega
theorem next_in {z : Int} (hz : z ∈ tosM L) : ∃ y, nextM L z = some y ∧ y ∈ tosM L := by
  obtain ⟨m, hm, rfl⟩ := List.mem_map.1 hz
  exact ⟨m.frm, (next_iff h.nd).2 ⟨m, hm, rfl, no_wait h hl m hm, rfl⟩, frms_in h hl hm⟩
theorem next_inj {z z' y : Int} (h1 : nextM L z = some y) (h2 : nextM L z' = some y) : z = z' := by
  obtain ⟨m, hm, rfl, _, e⟩ := (next_iff h.nd).1 h1
  obtain ⟨q, hq, rfl, _, e2⟩ := (next_iff h.nd).1 h2
  rw [frm_inj h hl hm hq (by rw [e, e2])]
theorem walk_in {r : Int} (hr : r ∈ tosM L) : ∀ j, ∃ z, walkM (nextM L) j r = some z ∧ z ∈ tosM L
  | 0 => ⟨r, rfl, hr⟩
  | j + 1 => by
    obtain ⟨z, h1, h2⟩ := walk_in hr j
    obtain ⟨y, h3, h4⟩ := next_in h hl h2
    exact ⟨y, by show (walkM _ j r).bind _ = _; rw [h1]; exact h3, h4⟩
theorem walk_back {r : Int} (hr : r ∈ tosM L) : ∀ (i d : Nat), walkM (nextM L) i r = walkM (nextM L) (i + d) r → walkM (nextM L) d r = some r
  | 0, d, e => by rw [Nat.zero_add] at e; exact e.symm
  | i + 1, d, e => by
    refine walk_back hr i d ?_
    obtain ⟨z, h1, _⟩ := walk_in h hl hr i
    obtain ⟨z', h2, _⟩ := walk_in h hl hr (i + d)
    obtain ⟨y, h3, _⟩ := walk_in h hl hr (i + 1)
    have e1 : nextM L z = some y := by have : (walkM (nextM L) i r).bind (nextM L) = some y := h3; rw [h1] at this; exact this
    have e2 : nextM L z' = some y := by
      have h4 : walkM (nextM L) (i + 1 + d) r = some y := by rw [← e]; exact h3
      rw [show i + 1 + d = (i + d) + 1 by omega] at h4
      have : (walkM (nextM L) (i + d) r).bind (nextM L) = some y := h4
      rw [h2] at this
      exact this
    rw [h1, h2, next_inj h hl e1 e2]
theorem cyc_low {r : Int} (hlt : lowI (tosM L) = some r) : CycMin (nextM L) r := by
  obtain ⟨hr, hmin⟩ := lowI_some hlt
  have hx : ∀ j, ((walkM (nextM L) j r).getD 0) ∈ tosM L ∧ walkM (nextM L) j r = some ((walkM (nextM L) j r).getD 0) := fun j => by
    obtain ⟨z, h1, h2⟩ := walk_in h hl hr j
    rw [h1]
    exact ⟨h2, rfl⟩
  obtain ⟨i, j, hij, hj, e⟩ := twice (xs := (List.range (L.length + 1)).map fun j => (walkM (nextM L) j r).getD 0) (ys := tosM L) (fun x hx' => by
    obtain ⟨j, _, rfl⟩ := List.mem_map.1 hx'
    exact (hx j).1) (by simp [tosM])
  simp at e
  have hb := walk_back h hl hr i (j - i) (by rw [show i + (j - i) = j by omega, (hx i).2, (hx j).2, e])
  obtain ⟨k, hk, hleast⟩ := least_of (p := fun k => walkM (nextM L) (k + 1) r = some r) (j - i - 1) (by show walkM _ (j - i - 1 + 1) r = _; rw [show j - i - 1 + 1 = j - i by omega]; exact hb)
  refine ⟨k, hk, fun q h1 h2 => ?_⟩
  obtain ⟨z, h3, h4⟩ := walk_in h hl hr q
  refine ⟨z, h3, ?_⟩
  have h5 := hmin z h4
  have h6 : z ≠ r := fun e => hleast (q - 1) (by omega) (by show walkM _ (q - 1 + 1) r = _; rw [show q - 1 + 1 = q by omega, h3, e])
  omega
end
open Classical in
/-- How many cycles there are. -/
noncomputable def cycN (f : Int → Option Int) : Nat := ((List.range 64).filter fun (r : Nat) => decide (CycMin f (Int.ofNat r))).length
theorem filter_less {l : List Nat} (hn : l.Nodup) {p q : Nat → Bool} {a : Nat} (ha : a ∈ l) (hp : p a = true) (hq : ∀ x, q x = (p x && decide (x ≠ a))) : (l.filter q).length + 1 = (l.filter p).length := by
  induction l with
  | nil => cases ha
  | cons x l ih =>
    obtain ⟨h1, h2⟩ := List.nodup_cons.1 hn
    by_cases e : x = a
    · subst e
      have hqx : q x = false := by rw [hq]; simp
      have same : l.filter q = l.filter p := List.filter_congr (fun z hz => by
        have : z ≠ x := fun e => h1 (by rw [← e]; exact hz)
        rw [hq]; simp [this])
      rw [List.filter_cons_of_neg (by simp [hqx]), List.filter_cons_of_pos hp, same, List.length_cons]
    · have hal : a ∈ l := by
        rcases List.mem_cons.1 ha with h | h
        · exact absurd h.symm e
        · exact h
      have := ih h2 hal
      have hqx : q x = p x := by rw [hq]; simp [e]
      by_cases hpx : p x = true
      · rw [List.filter_cons_of_pos (by rw [hqx]; exact hpx), List.filter_cons_of_pos hpx, List.length_cons, List.length_cons]; omega
      · rw [List.filter_cons_of_neg (by rw [hqx]; exact hpx), List.filter_cons_of_neg hpx]; exact this
open Classical in
theorem cycN_free {L : List Mv} (h : MvOk L) {t : Int} (ht : isRead L t = false) : cycN (nextM (without L t)) = cycN (nextM L) := by
  unfold cycN
  congr 1
  refine List.filter_congr (fun r _ => ?_)
  rw [decide_eq_decide]
  exact cyc_free h ht _
open Classical in
theorem cycN_put {L : List Mv} (h : MvOk L) (hl : lowI (freeT L) = none) {r0 : Int} (hlt : lowI (tosM L) = some r0) : cycN (nextM (scratch L r0)) + 1 = cycN (nextM L) := by
  obtain ⟨m, hm, rfl⟩ := List.mem_map.1 (lowI_some hlt).1
  have hto := h.to m hm
  unfold cycN
  refine filter_less List.nodup_range (a := m.to.toNat) (List.mem_range.2 (by omega)) ?_ (fun x => ?_)
  · refine decide_eq_true ?_
    rw [show Int.ofNat m.to.toNat = m.to from Int.toNat_of_nonneg hto.1]
    exact cyc_low h hl hlt
  · rw [Bool.eq_iff_iff]
    simp only [decide_eq_true_eq, Bool.and_eq_true]
    rw [cyc_put h hlt]
    have : (Int.ofNat x ≠ m.to) ↔ x ≠ m.to.toNat := by
      constructor
      · intro h1 h2; exact h1 (by rw [h2]; exact Int.toNat_of_nonneg hto.1)
      · intro h1 h2; exact h1 (by rw [← h2]; rfl)
    rw [this]
theorem cyc_none {r : Int} : ¬ CycMin (nextM []) r := by
  rintro ⟨k, h1, _⟩
  obtain ⟨y, _, h4⟩ := Option.bind_eq_some_iff.1 (show (walkM _ k r).bind _ = some r from h1)
  cases h4
open Classical in
/-- AS MANY COPIES AS MOVES, AND ONE MORE FOR EACH CYCLE. -/
theorem emit_count : ∀ (n : Nat) (L : List Mv), meas L ≤ n → MvOk L → (emitM (meas L) L).length = L.length + cycN (nextM L)
  | n, L, hn, h => by
    by_cases hne : L = []
    · subst hne
      rw [emitM_nil]
      unfold cycN
      rw [List.filter_eq_nil_iff.2 (fun r _ hd => cyc_none (of_decide_eq_true hd))]
      rfl
    · have h1 := meas_step h hne
      match n, hn with
      | 0, hn => omega
      | n + 1, hn =>
        rw [emit_run h hne, List.length_cons, emit_count n _ (by omega) h.step]
        cases hl : lowI (freeT L) with
        | some t =>
          obtain ⟨h2, h3⟩ := free_mem.1 (lowI_some hl).1
          have e : (stepM L).2 = without L t := by unfold stepM; rw [hl]
          rw [e, cycN_free h h3]
          have : (without L t).length + 1 = L.length := by
            have hp : (tosM (without L t)).length + 1 = (tosM L).length := by
              have key : tosM (without L t) = (tosM L).filter fun z => z != t := by
                unfold tosM without
                rw [List.filter_map]
                rfl
              rw [key, ← h.nd.erase_eq_filter, List.length_erase_of_mem h2]
              have := List.length_pos_of_mem h2
              omega
            simpa [tosM] using hp
          omega
        | none =>
          have htn : tosM L ≠ [] := fun e => hne (by simpa [tosM] using e)
          cases hlt : lowI (tosM L) with
          | none => exact absurd (lowI_none.1 hlt) htn
          | some r =>
            have e : (stepM L).2 = scratch L r := by unfold stepM; rw [hl]; dsimp only; rw [hlt]
            rw [e]
            have h5 := cycN_put h hl hlt
            have h6 : (scratch L r).length = L.length := by simp [scratch]
            omega
end Go.Proofs.YtlmaodcddbkllaaDoor
