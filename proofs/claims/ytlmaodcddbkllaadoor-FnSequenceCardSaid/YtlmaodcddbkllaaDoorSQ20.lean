import Derived.Test.YtlmaodcddbkllaaDoorSQ1
/-
  Sequence, pure: what the copies do, made one after another.
-/
namespace Go.Proofs.YtlmaodcddbkllaaDoor

/-- Registers and the scratch. -/
structure Rg (V : Type) where
  reg : Int → V
  scr : V
def setR {V : Type} (f : Int → V) (d : Int) (v : V) : Int → V := fun r => if r = d then v else f r
/-- One copy. -/
def cp1 {V : Type} (s : Rg V) (x : Ins) : Rg V := if x.op = 11 then ⟨setR s.reg x.dst (s.reg x.a), s.scr⟩ else if x.op = 12 then ⟨s.reg, s.reg x.a⟩ else ⟨setR s.reg x.dst s.scr, s.scr⟩
def cps {V : Type} (s : Rg V) (xs : List Ins) : Rg V := xs.foldl cp1 s
/-- What a move reads. -/
def srcV {V : Type} (s : Rg V) (m : Mv) : V := if m.frm < 0 then s.scr else s.reg m.frm
/-- The registers behind all moves at once. -/
def atOnce {V : Type} (s : Rg V) (L : List Mv) (r : Int) : V := match L.find? fun m => m.to == r with
  | some m => srcV s m
  | none => s.reg r
theorem find_to {L : List Mv} (hn : (tosM L).Nodup) {m : Mv} (hm : m ∈ L) : (L.find? fun q => q.to == m.to) = some m := by
  cases h : L.find? fun q => q.to == m.to with
  | none =>
    have := List.find?_eq_none.1 h m hm
    simp at this
  | some q =>
    have h1 := List.find?_some h
    have h2 := List.mem_of_find?_eq_some h
    obtain ⟨i, hi, rfl⟩ := List.getElem_of_mem h2
    obtain ⟨j, hj, rfl⟩ := List.getElem_of_mem hm
    have key := List.pairwise_iff_getElem.1 (show (L.map (·.to)).Pairwise (· ≠ ·) from hn)
    have e : L[i].to = L[j].to := by simpa using h1
    rcases Nat.lt_trichotomy i j with hl | hl | hl
    · exact (key i j (by simpa using hi) (by simpa using hj) hl (by simp [e])).elim
    · subst hl; rfl
    · exact (key j i (by simpa using hj) (by simpa using hi) hl (by simp [e])).elim
theorem find_not {L : List Mv} {r : Int} (h : r ∉ tosM L) : (L.find? fun q => q.to == r) = none := List.find?_eq_none.2 (fun m hm => by
  have : m.to ≠ r := fun e => h (List.mem_map.2 ⟨m, hm, e⟩)
  simpa using this)
theorem once_in {V : Type} {s : Rg V} {L : List Mv} (hn : (tosM L).Nodup) {m : Mv} (hm : m ∈ L) : atOnce s L m.to = srcV s m := by
  unfold atOnce; rw [find_to hn hm]
theorem once_out {V : Type} {s : Rg V} {L : List Mv} {r : Int} (h : r ∉ tosM L) : atOnce s L r = s.reg r := by
  unfold atOnce; rw [find_not h]
theorem once_ext {V : Type} {s : Rg V} {L : List Mv} (hn : (tosM L).Nodup) {f : Int → V} (h1 : ∀ m ∈ L, f m.to = srcV s m) (h2 : ∀ r, r ∉ tosM L → f r = s.reg r) : f = atOnce s L := by
  funext r
  by_cases h : r ∈ tosM L
  · obtain ⟨m, hm, rfl⟩ := List.mem_map.1 h
    rw [h1 m hm, once_in hn hm]
  · rw [h2 r h, once_out h]
/-- Numbers that are all among others, and no two of them one, are no more than those. -/
theorem nodup_len : ∀ {xs ys : List Int}, xs.Nodup → (∀ x ∈ xs, x ∈ ys) → xs.length ≤ ys.length
  | [], _, _, _ => Nat.zero_le _
  | x :: xs, ys, hn, hs => by
    obtain ⟨h1, h2⟩ := List.nodup_cons.1 hn
    have hx := hs x List.mem_cons_self
    have := nodup_len (xs := xs) (ys := ys.erase x) h2 (fun z hz => (List.mem_erase_of_ne (fun e => h1 (by rw [← e]; exact hz))).2 (hs z (List.mem_cons_of_mem _ hz)))
    rw [List.length_erase_of_mem hx] at this
    have hp : 0 < ys.length := List.length_pos_of_mem hx
    simp only [List.length_cons]
    omega
/-- Where no register is free, none waits for the scratch. -/
theorem no_wait {L : List Mv} (h : MvOk L) (hl : lowI (freeT L) = none) : ∀ m ∈ L, 0 ≤ m.frm := by
  intro m hm
  by_cases hf : 0 ≤ m.frm
  · exact hf
  exfalso
  have hall : ∀ t ∈ tosM L, t ∈ (L.filter fun q => decide (0 ≤ q.frm)).map (·.frm) := fun t ht => by
    have h0 : freeT L = [] := lowI_none.1 hl
    have : isRead L t = true := by
      have := List.filter_eq_nil_iff.1 h0 t ht
      simpa using this
    obtain ⟨q, hq, e⟩ := isRead_iff.1 this
    obtain ⟨p, hp, e2⟩ := List.mem_map.1 ht
    have := h.to p hp
    exact List.mem_map.2 ⟨q, List.mem_filter.2 ⟨hq, by simp; omega⟩, e⟩
  have h1 := nodup_len h.nd hall
  rw [List.length_map] at h1
  have h2 : (L.filter fun q => decide (0 ≤ q.frm)).length < L.length := List.length_filter_lt_length_iff_exists.2 ⟨m, hm, by simpa using hf⟩
  unfold tosM at h1
  rw [List.length_map] at h1
  omega
theorem from_in {L : List Mv} (hn : (tosM L).Nodup) {m : Mv} (hm : m ∈ L) : fromOf L m.to = m.frm := by
  unfold fromOf; rw [find_to hn hm]; rfl
theorem step_do {V : Type} {L : List Mv} (h : MvOk L) (hne : L ≠ []) (s : Rg V) : atOnce (cp1 s (stepM L).1) (stepM L).2 = atOnce s L := by
  cases hl : lowI (freeT L) with
  | some t =>
    obtain ⟨h1, -⟩ := lowI_some hl
    obtain ⟨h2, h3⟩ := List.mem_filter.1 h1
    obtain ⟨m, hm, rfl⟩ := List.mem_map.1 h2
    have hst : stepM L = (cpI m, without L m.to) := by
      unfold stepM; rw [hl]
      show (cpI ⟨m.to, fromOf L m.to⟩, _) = _
      rw [from_in h.nd hm]
    rw [hst]
    have hcp : cp1 s (cpI m) = ⟨setR s.reg m.to (srcV s m), s.scr⟩ := by
      unfold cpI srcV
      by_cases hf : m.frm < 0
      · rw [if_pos hf, if_pos hf]; rfl
      · rw [if_neg hf, if_neg hf]; rfl
    rw [hcp]
    have hnr : ∀ q ∈ L, q.frm ≠ m.to := fun q hq e => by
      have : isRead L m.to = true := isRead_iff.2 ⟨q, hq, e⟩
      rw [this] at h3; cases h3
    have hsrc : ∀ q ∈ L, srcV (V := V) ⟨setR s.reg m.to (srcV s m), s.scr⟩ q = srcV s q := fun q hq => by
      unfold srcV setR
      split
      · rfl
      · dsimp only; rw [if_neg (hnr q hq)]
    refine once_ext h.nd (fun q hq => ?_) (fun r hr => ?_)
    · by_cases e : q.to = m.to
      · have hno : q.to ∉ tosM (without L m.to) := fun hin => by
          obtain ⟨p, hp, e2⟩ := List.mem_map.1 hin
          have := (List.mem_filter.1 hp).2
          simp [e2, e] at this
        rw [once_out hno]
        have hqm : q = m := by
          have := find_to h.nd hq
          rw [e, find_to h.nd hm] at this
          exact (Option.some.inj this).symm
        subst hqm
        show setR _ _ _ _ = _
        unfold setR
        rw [if_pos rfl]
      · have hin : q ∈ without L m.to := List.mem_filter.2 ⟨hq, by simpa using e⟩
        rw [once_in (h.without m.to).nd hin, hsrc q hq]
    · have hno : r ∉ tosM (without L m.to) := fun hin => by
        obtain ⟨p, hp, e2⟩ := List.mem_map.1 hin
        exact hr (List.mem_map.2 ⟨p, (List.mem_filter.1 hp).1, e2⟩)
      rw [once_out hno]
      show setR _ _ _ _ = _
      unfold setR
      rw [if_neg (fun e => hr (by rw [e]; exact List.mem_map.2 ⟨m, hm, rfl⟩))]
  | none =>
    have hw := no_wait h hl
    have htn : tosM L ≠ [] := fun e => hne (by simpa [tosM] using e)
    cases hlt : lowI (tosM L) with
    | none => exact absurd (lowI_none.1 hlt) htn
    | some r =>
      have hst : stepM L = (⟨12, 0, r, 0, 0⟩, scratch L r) := by
        unfold stepM; rw [hl]; dsimp only; rw [hlt]
      rw [hst]
      have hcp : cp1 s ⟨12, 0, r, 0, 0⟩ = ⟨s.reg, s.reg r⟩ := rfl
      rw [hcp]
      have hnd : (tosM (scratch L r)).Nodup := (h.scratch r).nd
      refine once_ext h.nd (fun q hq => ?_) (fun z hz => ?_)
      · have hin : (if q.frm = r then (⟨q.to, -1⟩ : Mv) else q) ∈ scratch L r := List.mem_map.2 ⟨q, hq, rfl⟩
        have hto : (if q.frm = r then (⟨q.to, -1⟩ : Mv) else q).to = q.to := by split <;> rfl
        have := once_in (s := (⟨s.reg, s.reg r⟩ : Rg V)) hnd hin
        rw [hto] at this
        rw [this]
        have h0 := hw q hq
        unfold srcV
        by_cases e : q.frm = r
        · rw [if_pos e, if_pos (show (-1 : Int) < 0 by decide), if_neg (by omega), e]
        · rw [if_neg e, if_neg (by omega), if_neg (by omega)]
      · rw [once_out (by rw [tos_scratch]; exact hz)]
/-- THE COPIES, MADE ONE AFTER ANOTHER, DO WHAT THE MOVES DO AT ONCE. -/
theorem emit_do {V : Type} : ∀ (n : Nat) (L : List Mv), meas L ≤ n → MvOk L → ∀ s : Rg V, (cps s (emitM (meas L) L)).reg = atOnce s L
  | n, L, hn, h, s => by
    by_cases hne : L = []
    · subst hne
      rw [emitM_nil]
      rfl
    · have h1 := meas_step h hne
      match n, hn with
      | 0, hn => omega
      | n + 1, hn =>
        rw [emit_run h hne]
        show (cps (cp1 s (stepM L).1) _).reg = _
        rw [emit_do n _ (by omega) h.step, step_do h hne]
end Go.Proofs.YtlmaodcddbkllaaDoor

/-
  Sequence, pure: how many copies there are: one for each move, and one more for each cycle.
-/
namespace Go.Proofs.YtlmaodcddbkllaaDoor

/-- Where a register's new content comes from, while moves are left. -/
def nextM (L : List Mv) (z : Int) : Option Int := match L.find? fun m => m.to == z with
  | some m => if m.frm < 0 then none else some m.frm
  | none => none
theorem next_iff {L : List Mv} (hn : (tosM L).Nodup) {z y : Int} : nextM L z = some y ↔ ∃ m ∈ L, m.to = z ∧ 0 ≤ m.frm ∧ m.frm = y := by
  constructor
  · intro h
    unfold nextM at h
    split at h
    · rename_i m hf
      split at h
      · cases h
      · rename_i h0
        refine ⟨m, List.mem_of_find?_eq_some hf, by simpa using List.find?_some hf, by omega, by simpa using h⟩
    · cases h
  · rintro ⟨m, hm, rfl, h0, rfl⟩
    unfold nextM
    rw [find_to hn hm]
    dsimp only
    rw [if_neg (by omega)]
def walkM (f : Int → Option Int) : Nat → Int → Option Int
  | 0, r => some r
  | k + 1, r => (walkM f k r).bind f
/-- The least register of a cycle. -/
def CycMin (f : Int → Option Int) (r : Int) : Prop := ∃ k, walkM f (k + 1) r = some r ∧ ∀ j, 1 ≤ j → j ≤ k → ∃ z, walkM f j r = some z ∧ r < z
theorem walk_mono {f g : Int → Option Int} (h : ∀ z y, g z = some y → f z = some y) : ∀ (j : Nat) (r z : Int), walkM g j r = some z → walkM f j r = some z
  | 0, _, _, h0 => h0
  | j + 1, r, z, h0 => by
    obtain ⟨y, h1, h2⟩ := Option.bind_eq_some_iff.1 h0
    exact Option.bind_eq_some_iff.2 ⟨y, walk_mono h j r y h1, h _ _ h2⟩
theorem CycMin.mono {f g : Int → Option Int} {r : Int} (h : ∀ z y, g z = some y → f z = some y) (hc : CycMin g r) : CycMin f r := by
  obtain ⟨k, h1, h2⟩ := hc
  exact ⟨k, walk_mono h _ _ _ h1, fun j hj hk => by obtain ⟨z, h3, h4⟩ := h2 j hj hk; exact ⟨z, walk_mono h _ _ _ h3, h4⟩⟩
theorem CycMin.into {f g : Int → Option Int} {r : Int} (hc : CycMin f r) (h : ∀ z y, r ≤ z → r ≤ y → f z = some y → (∃ p, f p = some z) → g z = some y) : CycMin g r := by
  obtain ⟨k, h1, h2⟩ := hc
  have at_ : ∀ j, j ≤ k + 1 → ∃ z, walkM f j r = some z ∧ r ≤ z ∧ ∃ p, f p = some z := fun j hj => by
    have last : ∃ p, f p = some r := by
      obtain ⟨y, _, h4⟩ := Option.bind_eq_some_iff.1 h1
      exact ⟨y, h4⟩
    match j, hj with
    | 0, _ => exact ⟨r, rfl, Int.le_refl _, last⟩
    | j + 1, hj =>
      by_cases e : j + 1 = k + 1
      · rw [e]; exact ⟨r, h1, Int.le_refl _, last⟩
      · obtain ⟨z, h3, h4⟩ := h2 (j + 1) (by omega) (by omega)
        obtain ⟨y, _, h5⟩ := Option.bind_eq_some_iff.1 (show (walkM f j r).bind f = some z from h3)
        exact ⟨z, h3, by omega, y, h5⟩
  have same : ∀ j, j ≤ k + 1 → walkM g j r = walkM f j r := by
    intro j
    induction j with
    | zero => intro _; rfl
    | succ j ih =>
      intro hj
      obtain ⟨z, e1, e2, e3⟩ := at_ j (by omega)
      obtain ⟨y, g1, g2, _⟩ := at_ (j + 1) hj
      have hfz : f z = some y := by
        have : (walkM f j r).bind f = some y := g1
        rw [e1] at this
        exact this
      show (walkM g j r).bind g = _
      rw [ih (by omega), e1, g1]
      exact h z y e2 g2 hfz e3
  exact ⟨k, (same _ (Nat.le_refl _)).trans h1, fun j hj hk => by
    obtain ⟨z, h3, h4⟩ := h2 j hj hk
    exact ⟨z, (same j (by omega)).trans h3, h4⟩⟩
theorem next_read {L : List Mv} (hn : (tosM L).Nodup) {p z : Int} (h : nextM L p = some z) : isRead L z = true := by
  obtain ⟨m, hm, _, _, e⟩ := (next_iff hn).1 h
  exact isRead_iff.2 ⟨m, hm, e⟩
theorem cyc_free {L : List Mv} (h : MvOk L) {t : Int} (ht : isRead L t = false) (r : Int) : CycMin (nextM (without L t)) r ↔ CycMin (nextM L) r := by
  have hn := (h.without t).nd
  constructor
  · refine CycMin.mono (fun z y hz => ?_)
    obtain ⟨m, hm, e⟩ := (next_iff hn).1 hz
    exact (next_iff h.nd).2 ⟨m, (List.mem_filter.1 hm).1, e⟩
  · intro hc
    refine hc.into (fun z y _ _ hz ⟨p, hp⟩ => ?_)
    obtain ⟨m, hm, e1, e2⟩ := (next_iff h.nd).1 hz
    have hzt : z ≠ t := fun e => by
      have := next_read h.nd hp
      rw [e, ht] at this
      cases this
    exact (next_iff hn).2 ⟨m, List.mem_filter.2 ⟨hm, by rw [e1]; simpa using hzt⟩, e1, e2⟩
theorem next_scratch {L : List Mv} (h : MvOk L) {r0 z y : Int} : nextM (scratch L r0) z = some y ↔ nextM L z = some y ∧ y ≠ r0 := by
  rw [next_iff (h.scratch r0).nd, next_iff h.nd]
  constructor
  · rintro ⟨m, hm, rfl, h0, rfl⟩
    obtain ⟨q, hq, rfl⟩ := List.mem_map.1 hm
    by_cases e : q.frm = r0
    · rw [if_pos e] at h0; exact absurd h0 (show ¬ (0 : Int) ≤ -1 by decide)
    · rw [if_neg e] at h0 ⊢
      exact ⟨⟨q, hq, rfl, h0, rfl⟩, e⟩
  · rintro ⟨⟨m, hm, rfl, h0, rfl⟩, hne⟩
    exact ⟨m, List.mem_map.2 ⟨m, hm, by rw [if_neg hne]⟩, rfl, h0, rfl⟩
theorem cyc_put {L : List Mv} (h : MvOk L) {r0 : Int} (hl : lowI (tosM L) = some r0) (r : Int) : CycMin (nextM (scratch L r0)) r ↔ CycMin (nextM L) r ∧ r ≠ r0 := by
  constructor
  · intro hc
    refine ⟨hc.mono (fun z y hz => ((next_scratch h).1 hz).1), fun e => ?_⟩
    obtain ⟨k, h1, _⟩ := hc
    obtain ⟨y, _, h4⟩ := Option.bind_eq_some_iff.1 (show (walkM _ k r).bind _ = some r from h1)
    exact ((next_scratch h).1 h4).2 e
  · rintro ⟨hc, hne⟩
    refine hc.into (fun z y hz hy hf _ => (next_scratch h).2 ⟨hf, fun e => ?_⟩)
    have hr : r ∈ tosM L := by
      obtain ⟨k, h1, h2⟩ := hc
      cases k with
      | zero =>
        obtain ⟨m, hm, e1, _⟩ := (next_iff h.nd).1 (show nextM L r = some r from h1)
        exact List.mem_map.2 ⟨m, hm, e1⟩
      | succ k =>
        obtain ⟨z1, h3, _⟩ := h2 1 (Nat.le_refl _) (by omega)
        obtain ⟨m, hm, e1, _⟩ := (next_iff h.nd).1 (show nextM L r = some z1 from h3)
        exact List.mem_map.2 ⟨m, hm, e1⟩
    have := (lowI_some hl).2 r hr
    omega
end Go.Proofs.YtlmaodcddbkllaaDoor

/-
  Sequence, pure: where no register is free the least one lies on a cycle; the count.
-/
namespace Go.Proofs.YtlmaodcddbkllaaDoor

theorem least_of {p : Nat → Prop} : ∀ n, p n → ∃ k, p k ∧ ∀ m, m < k → ¬ p m := by
  intro n
  induction n using Nat.strongRecOn with
  | ind n ih =>
    intro hn
    by_cases h : ∃ m, m < n ∧ p m
    · obtain ⟨m, hm, hp⟩ := h
      exact ih m hm hp
    · exact ⟨n, hn, fun m hm hp => h ⟨m, hm, hp⟩⟩
/-- A list longer than what its members come from has one twice. -/
theorem twice {xs ys : List Int} (hs : ∀ x ∈ xs, x ∈ ys) (hl : ys.length < xs.length) : ∃ i j, ∃ (_ : i < j) (hj : j < xs.length), xs[i] = xs[j] := by
  by_cases h : ∃ i j, ∃ (_ : i < j) (hj : j < xs.length), xs[i] = xs[j]
  · exact h
  · have hn : xs.Nodup := by
      unfold List.Nodup
      refine List.pairwise_iff_getElem.2 (fun i j hi hj hij e => h ⟨i, j, hij, hj, e⟩)
    have := nodup_len hn hs
    omega
section
variable {L : List Mv} (h : MvOk L) (hl : lowI (freeT L) = none)
include h hl
omit h in
theorem all_read {t : Int} (ht : t ∈ tosM L) : isRead L t = true := by
  have h0 : freeT L = [] := lowI_none.1 hl
  have := List.filter_eq_nil_iff.1 h0 t ht
  simpa using this
theorem frms_in {m : Mv} (hm : m ∈ L) : m.frm ∈ tosM L := by
  by_cases hin : m.frm ∈ tosM L
  · exact hin
  exfalso
  have hs : ∀ t ∈ tosM L, t ∈ (L.map (·.frm)).erase m.frm := fun t ht => by
    obtain ⟨q, hq, e⟩ := isRead_iff.1 (all_read hl ht)
    exact (List.mem_erase_of_ne (fun e2 => hin (by rw [← e2]; exact ht))).2 (List.mem_map.2 ⟨q, hq, e⟩)
  have h1 := nodup_len h.nd hs
  have hmm : m.frm ∈ L.map (·.frm) := List.mem_map.2 ⟨m, hm, rfl⟩
  rw [List.length_erase_of_mem hmm] at h1
  have : 0 < (L.map (·.frm)).length := List.length_pos_of_mem hmm
  simp [tosM] at h1 this
  omega
theorem frm_inj {m q : Mv} (hm : m ∈ L) (hq : q ∈ L) (e : m.frm = q.frm) : m = q := by
  obtain ⟨i, hi, rfl⟩ := List.getElem_of_mem hm
  obtain ⟨j, hj, rfl⟩ := List.getElem_of_mem hq
  by_cases hij : i = j
  · subst hij; rfl
  exfalso
  have hs : ∀ t ∈ tosM L, t ∈ (L.map (·.frm)).eraseIdx i := fun t ht => by
    obtain ⟨p, hp, e2⟩ := isRead_iff.1 (all_read hl ht)
    obtain ⟨k, hk, rfl⟩ := List.getElem_of_mem hp
    rw [List.mem_eraseIdx_iff_getElem]
    by_cases hki : k = i
    · subst hki
      exact ⟨j, by simpa using hj, fun e3 => hij e3.symm, by simp [← e2, e]⟩
    · exact ⟨k, by simpa using hk, hki, by simpa using e2⟩
  have h1 := nodup_len h.nd hs
  rw [List.length_eraseIdx_of_lt (by simpa using hi)] at h1
  simp [tosM] at h1
  omega
theorem next_in {z : Int} (hz : z ∈ tosM L) : ∃ y, nextM L z = some y ∧ y ∈ tosM L := by
  obtain ⟨m, hm, rfl⟩ := List.mem_map.1 hz
  exact ⟨m.frm, (next_iff h.nd).2 ⟨m, hm, rfl, no_wait h hl m hm, rfl⟩, frms_in h hl hm⟩
theorem next_inj {z z' y : Int} (h1 : nextM L z = some y) (h2 : nextM L z' = some y) : z = z' := by
  obtain ⟨m, hm, rfl, _, e⟩ := (next_iff h.nd).1 h1
  obtain ⟨q, hq, rfl, _, e2⟩ := (next_iff h.nd).1 h2
  rw [frm_inj h hl hm hq (by rw [e, e2])]
theorem walk_in {r : Int} (hr : r ∈ tosM L) : ∀ j, ∃ z, walkM (nextM L) j r = some z ∧ z ∈ tosM L
  | 0 => ⟨r, rfl, hr⟩
  | j + 1 => by
    obtain ⟨z, h1, h2⟩ := walk_in hr j
    obtain ⟨y, h3, h4⟩ := next_in h hl h2
    exact ⟨y, by show (walkM _ j r).bind _ = _; rw [h1]; exact h3, h4⟩
theorem walk_back {r : Int} (hr : r ∈ tosM L) : ∀ (i d : Nat), walkM (nextM L) i r = walkM (nextM L) (i + d) r → walkM (nextM L) d r = some r
  | 0, d, e => by rw [Nat.zero_add] at e; exact e.symm
  | i + 1, d, e => by
    refine walk_back hr i d ?_
    obtain ⟨z, h1, _⟩ := walk_in h hl hr i
    obtain ⟨z', h2, _⟩ := walk_in h hl hr (i + d)
    obtain ⟨y, h3, _⟩ := walk_in h hl hr (i + 1)
    have e1 : nextM L z = some y := by have : (walkM (nextM L) i r).bind (nextM L) = some y := h3; rw [h1] at this; exact this
    have e2 : nextM L z' = some y := by
      have h4 : walkM (nextM L) (i + 1 + d) r = some y := by rw [← e]; exact h3
      rw [show i + 1 + d = (i + d) + 1 by omega] at h4
      have : (walkM (nextM L) (i + d) r).bind (nextM L) = some y := h4
      rw [h2] at this
      exact this
    rw [h1, h2, next_inj h hl e1 e2]
theorem cyc_low {r : Int} (hlt : lowI (tosM L) = some r) : CycMin (nextM L) r := by
  obtain ⟨hr, hmin⟩ := lowI_some hlt
  have hx : ∀ j, ((walkM (nextM L) j r).getD 0) ∈ tosM L ∧ walkM (nextM L) j r = some ((walkM (nextM L) j r).getD 0) := fun j => by
    obtain ⟨z, h1, h2⟩ := walk_in h hl hr j
    rw [h1]
    exact ⟨h2, rfl⟩
  obtain ⟨i, j, hij, hj, e⟩ := twice (xs := (List.range (L.length + 1)).map fun j => (walkM (nextM L) j r).getD 0) (ys := tosM L) (fun x hx' => by
    obtain ⟨j, _, rfl⟩ := List.mem_map.1 hx'
    exact (hx j).1) (by simp [tosM])
  simp at e
  have hb := walk_back h hl hr i (j - i) (by rw [show i + (j - i) = j by omega, (hx i).2, (hx j).2, e])
  obtain ⟨k, hk, hleast⟩ := least_of (p := fun k => walkM (nextM L) (k + 1) r = some r) (j - i - 1) (by show walkM _ (j - i - 1 + 1) r = _; rw [show j - i - 1 + 1 = j - i by omega]; exact hb)
  refine ⟨k, hk, fun q h1 h2 => ?_⟩
  obtain ⟨z, h3, h4⟩ := walk_in h hl hr q
  refine ⟨z, h3, ?_⟩
  have h5 := hmin z h4
  have h6 : z ≠ r := fun e => hleast (q - 1) (by omega) (by show walkM _ (q - 1 + 1) r = _; rw [show q - 1 + 1 = q by omega, h3, e])
  omega
end
open Classical in
/-- How many cycles there are. -/
noncomputable def cycN (f : Int → Option Int) : Nat := ((List.range 64).filter fun (r : Nat) => decide (CycMin f (Int.ofNat r))).length
theorem filter_less {l : List Nat} (hn : l.Nodup) {p q : Nat → Bool} {a : Nat} (ha : a ∈ l) (hp : p a = true) (hq : ∀ x, q x = (p x && decide (x ≠ a))) : (l.filter q).length + 1 = (l.filter p).length := by
  induction l with
  | nil => cases ha
  | cons x l ih =>
    obtain ⟨h1, h2⟩ := List.nodup_cons.1 hn
    by_cases e : x = a
    · subst e
      have hqx : q x = false := by rw [hq]; simp
      have same : l.filter q = l.filter p := List.filter_congr (fun z hz => by
        have : z ≠ x := fun e => h1 (by rw [← e]; exact hz)
        rw [hq]; simp [this])
      rw [List.filter_cons_of_neg (by simp [hqx]), List.filter_cons_of_pos hp, same, List.length_cons]
    · have hal : a ∈ l := by
        rcases List.mem_cons.1 ha with h | h
        · exact absurd h.symm e
        · exact h
      have := ih h2 hal
      have hqx : q x = p x := by rw [hq]; simp [e]
      by_cases hpx : p x = true
      · rw [List.filter_cons_of_pos (by rw [hqx]; exact hpx), List.filter_cons_of_pos hpx, List.length_cons, List.length_cons]; omega
      · rw [List.filter_cons_of_neg (by rw [hqx]; exact hpx), List.filter_cons_of_neg hpx]; exact this
open Classical in
theorem cycN_free {L : List Mv} (h : MvOk L) {t : Int} (ht : isRead L t = false) : cycN (nextM (without L t)) = cycN (nextM L) := by
  unfold cycN
  congr 1
  refine List.filter_congr (fun r _ => ?_)
  rw [decide_eq_decide]
  exact cyc_free h ht _
open Classical in
theorem cycN_put {L : List Mv} (h : MvOk L) (hl : lowI (freeT L) = none) {r0 : Int} (hlt : lowI (tosM L) = some r0) : cycN (nextM (scratch L r0)) + 1 = cycN (nextM L) := by
  obtain ⟨m, hm, rfl⟩ := List.mem_map.1 (lowI_some hlt).1
  have hto := h.to m hm
  unfold cycN
  refine filter_less List.nodup_range (a := m.to.toNat) (List.mem_range.2 (by omega)) ?_ (fun x => ?_)
  · refine decide_eq_true ?_
    rw [show Int.ofNat m.to.toNat = m.to from Int.toNat_of_nonneg hto.1]
    exact cyc_low h hl hlt
  · rw [Bool.eq_iff_iff]
    simp only [decide_eq_true_eq, Bool.and_eq_true]
    rw [cyc_put h hlt]
    have : (Int.ofNat x ≠ m.to) ↔ x ≠ m.to.toNat := by
      constructor
      · intro h1 h2; exact h1 (by rw [h2]; exact Int.toNat_of_nonneg hto.1)
      · intro h1 h2; exact h1 (by rw [← h2]; rfl)
    rw [this]
theorem cyc_none {r : Int} : ¬ CycMin (nextM []) r := by
  rintro ⟨k, h1, _⟩
  obtain ⟨y, _, h4⟩ := Option.bind_eq_some_iff.1 (show (walkM _ k r).bind _ = some r from h1)
  cases h4
open Classical in
/-- AS MANY COPIES AS MOVES, AND ONE MORE FOR EACH CYCLE. -/
theorem emit_count : ∀ (n : Nat) (L : List Mv), meas L ≤ n → MvOk L → (emitM (meas L) L).length = L.length + cycN (nextM L)
  | n, L, hn, h => by
    by_cases hne : L = []
    · subst hne
      rw [emitM_nil]
      unfold cycN
      rw [List.filter_eq_nil_iff.2 (fun r _ hd => cyc_none (of_decide_eq_true hd))]
      rfl
    · have h1 := meas_step h hne
      match n, hn with
      | 0, hn => omega
      | n + 1, hn =>
        rw [emit_run h hne, List.length_cons, emit_count n _ (by omega) h.step]
        cases hl : lowI (freeT L) with
        | some t =>
          obtain ⟨h2, h3⟩ := free_mem.1 (lowI_some hl).1
          have e : (stepM L).2 = without L t := by unfold stepM; rw [hl]
          rw [e, cycN_free h h3]
          have : (without L t).length + 1 = L.length := by
            have hp : (tosM (without L t)).length + 1 = (tosM L).length := by
              have key : tosM (without L t) = (tosM L).filter fun z => z != t := by
                unfold tosM without
                rw [List.filter_map]
                rfl
              rw [key, ← h.nd.erase_eq_filter, List.length_erase_of_mem h2]
              have := List.length_pos_of_mem h2
              omega
            simpa [tosM] using hp
          omega
        | none =>
          have htn : tosM L ≠ [] := fun e => hne (by simpa [tosM] using e)
          cases hlt : lowI (tosM L) with
          | none => exact absurd (lowI_none.1 hlt) htn
          | some r =>
            have e : (stepM L).2 = scratch L r := by unfold stepM; rw [hl]; dsimp only; rw [hlt]
            rw [e]
            have h5 := cycN_put h hl hlt
            have h6 : (scratch L r).length = L.length := by simp [scratch]
            omega
end Go.Proofs.YtlmaodcddbkllaaDoor

/-
  Sequence, pure: the law's own count of cycles; what the copies look like.
-/
namespace Go.Proofs.YtlmaodcddbkllaaDoor

/-- What the law's inner loop does. -/
def loopC (src : Int → Int) (r : Int) : Nat → Int → Bool → Int × Bool
  | 0, at_, sm => (at_, sm)
  | n + 1, at_, sm => if at_ = r then (at_, sm) else loopC src r n (src at_) (sm && !decide (at_ < r))
def iterS (src : Int → Int) : Nat → Int → Int
  | 0, r => r
  | k + 1, r => src (iterS src k r)
theorem iter_add (src : Int → Int) (r : Int) (i : Nat) : ∀ d, iterS src (i + d) r = iterS src d (iterS src i r)
  | 0 => rfl
  | d + 1 => by show src (iterS src (i + d) r) = src _; rw [iter_add src r i d]
/-- Where the loop ends, and what it says. -/
theorem loop_end {src : Int → Int} {r : Int} : ∀ (n j : Nat) (sm : Bool), (loopC src r n (iterS src j r) sm).1 = r → ∃ k, j ≤ k ∧ k ≤ j + n ∧ iterS src k r = r ∧ (∀ i, j ≤ i → i < k → iterS src i r ≠ r) ∧ ((loopC src r n (iterS src j r) sm).2 = true → sm = true ∧ ∀ i, j ≤ i → i < k → r < iterS src i r)
  | 0, j, sm, h => ⟨j, Nat.le_refl _, Nat.le_refl _, h, fun i h1 h2 => by omega, fun hs => ⟨hs, fun i h1 h2 => by omega⟩⟩
  | n + 1, j, sm, h => by
    unfold loopC at h ⊢
    by_cases e : iterS src j r = r
    · rw [if_pos e] at h ⊢
      exact ⟨j, Nat.le_refl _, by omega, e, fun i h1 h2 => by omega, fun hs => ⟨hs, fun i h1 h2 => by omega⟩⟩
    · rw [if_neg e] at h ⊢
      obtain ⟨k, h1, h2, h3, h4, h5⟩ := loop_end n (j + 1) (sm && !decide (iterS src j r < r)) h
      refine ⟨k, by omega, by omega, h3, fun i g1 g2 => ?_, fun hs => ?_⟩
      · by_cases ei : i = j
        · rw [ei]; exact e
        · exact h4 i (by omega) g2
      · obtain ⟨h6, h7⟩ := h5 hs
        simp only [Bool.and_eq_true, Bool.not_eq_true', decide_eq_false_iff_not] at h6
        refine ⟨h6.1, fun i g1 g2 => ?_⟩
        by_cases ei : i = j
        · rw [ei]; omega
        · exact h7 i (by omega) g2
theorem loop_hit {src : Int → Int} {r : Int} : ∀ (n j k : Nat), j ≤ k → k ≤ j + n → iterS src k r = r → (∀ i, j ≤ i → i < k → r < iterS src i r) → loopC src r n (iterS src j r) true = (r, true)
  | 0, j, k, h1, h2, h3, _ => by
    have : j = k := by omega
    subst this
    show (iterS src j r, true) = _
    rw [h3]
  | n + 1, j, k, h1, h2, h3, h4 => by
    unfold loopC
    by_cases e : j = k
    · subst e; rw [if_pos h3, h3]
    · have := h4 j (Nat.le_refl _) (by omega)
      rw [if_neg (by omega), show (true && !decide (iterS src j r < r)) = true by simp; omega]
      exact loop_hit n (j + 1) k (by omega) (by omega) h3 (fun i g1 g2 => h4 i (by omega) g2)
/-- The law's test of a register. -/
def lawCyc (src : Int → Int) (r : Int) : Bool := decide ((loopC src r 64 (src r) true).1 = r) && (loopC src r 64 (src r) true).2 && decide (src r ≠ r)
theorem lawCyc_iff {src : Int → Int} {f : Int → Option Int} (hf : ∀ z, f z = if src z = z then none else some (src z)) (hs : ∀ z, 0 ≤ z → z < 64 → 0 ≤ src z ∧ src z < 64) {r : Int} (h0 : 0 ≤ r) (h1 : r < 64) : lawCyc src r = true ↔ CycMin f r := by
  have e1 : src r = iterS src 1 r := rfl
  have rng : ∀ j, 0 ≤ iterS src j r ∧ iterS src j r < 64 := fun j => by
    induction j with
    | zero => exact ⟨h0, h1⟩
    | succ j ih => exact hs _ ih.1 ih.2
  constructor
  · intro h
    simp only [lawCyc, Bool.and_eq_true, decide_eq_true_eq] at h
    obtain ⟨⟨g1, g2⟩, g3⟩ := h
    rw [e1] at g1 g2
    obtain ⟨k, k1, k2, k3, k4, k5⟩ := loop_end 64 1 true g1
    obtain ⟨-, k6⟩ := k5 g2
    obtain ⟨q, rfl⟩ : ∃ q, k = q + 1 := ⟨k - 1, by omega⟩
    have hne : ∀ i, i ≤ q → src (iterS src i r) ≠ iterS src i r := fun i hi e => by
      have stay : ∀ d, iterS src (i + d) r = iterS src i r := fun d => by
        induction d with
        | zero => rfl
        | succ d ih => show src (iterS src (i + d) r) = _; rw [ih, e]
      have := stay (q + 1 - i)
      rw [show i + (q + 1 - i) = q + 1 by omega, k3] at this
      by_cases hi0 : i = 0
      · subst hi0; exact g3 e
      · exact k4 i (by omega) (by omega) this.symm
    have wk : ∀ j, j ≤ q + 1 → walkM f j r = some (iterS src j r) := fun j => by
      induction j with
      | zero => intro _; rfl
      | succ j ih =>
        intro hj
        show (walkM f j r).bind f = _
        rw [ih (by omega)]
        show f (iterS src j r) = _
        rw [hf, if_neg (hne j (by omega))]
        rfl
    exact ⟨q, by rw [wk _ (Nat.le_refl _), k3], fun j j1 j2 => ⟨_, wk j (by omega), k6 j j1 (by omega)⟩⟩
  · rintro ⟨q, q1, q2⟩
    have wk : ∀ j, ∀ z, walkM f j r = some z → z = iterS src j r := fun j => by
      induction j with
      | zero => intro z hz; cases hz; rfl
      | succ j ih =>
        intro z hz
        obtain ⟨y, y1, y2⟩ := Option.bind_eq_some_iff.1 (show (walkM f j r).bind f = some z from hz)
        have := ih y y1
        subst this
        rw [hf] at y2
        split at y2
        · cases y2
        · exact (Option.some.inj y2).symm
    have hend : iterS src (q + 1) r = r := (wk _ _ q1).symm
    have hmid : ∀ i, 1 ≤ i → i < q + 1 → r < iterS src i r := fun i i1 i2 => by
      obtain ⟨z, z1, z2⟩ := q2 i i1 (by omega)
      rw [← wk i z z1]; exact z2
    have hne : src r ≠ r := by
      intro e
      have : ∀ z, walkM f 1 r ≠ some z := fun z hz => by
        have : f r = some z := hz
        rw [hf, if_pos e] at this
        cases this
      cases q with
      | zero => exact this _ q1
      | succ q => obtain ⟨z, z1, _⟩ := q2 1 (Nat.le_refl _) (by omega); exact this z z1
    have hq : q + 1 ≤ 1 + 64 := by
      by_cases hb : q ≤ 64
      · omega
      exfalso
      obtain ⟨i, j, hij, hj, e⟩ := twice (xs := (List.range q).map fun i => iterS src (i + 1) r) (ys := (List.range 64).map fun (i : Nat) => (i : Int)) (fun x hx => by
        obtain ⟨i, _, rfl⟩ := List.mem_map.1 hx
        obtain ⟨a1, a2⟩ := rng (i + 1)
        exact List.mem_map.2 ⟨(iterS src (i + 1) r).toNat, List.mem_range.2 (by omega), Int.toNat_of_nonneg a1⟩) (by simp; omega)
      simp at e hj
      have e2 := iter_add src r (j + 1) (q - j)
      rw [← e, ← iter_add src r (i + 1) (q - j), show j + 1 + (q - j) = q + 1 by omega, hend] at e2
      have := hmid (i + 1 + (q - j)) (by omega) (by omega)
      omega
    have := loop_hit (src := src) (r := r) 64 1 (q + 1) (by omega) (by omega) hend hmid
    simp only [lawCyc, Bool.and_eq_true, decide_eq_true_eq]
    rw [e1, this]
    exact ⟨⟨rfl, rfl⟩, hne⟩
end Go.Proofs.YtlmaodcddbkllaaDoor

/-
  Sequence, pure: what FnSequence says of the copies of valid moves.
-/
namespace Go.Proofs.YtlmaodcddbkllaaDoor

/-- The register whose content each register holds behind the moves. -/
def srcM (xs : List Mv) (z : Int) : Int := match xs.find? fun m => m.to == z with
  | some m => m.frm
  | none => z
theorem src_in {xs : List Mv} (hn : (tosM xs).Nodup) {m : Mv} (hm : m ∈ xs) : srcM xs m.to = m.frm := by unfold srcM; rw [find_to hn hm]
theorem src_out {xs : List Mv} {z : Int} (h : z ∉ tosM xs) : srcM xs z = z := by unfold srcM; rw [find_not h]
theorem start_mem {xs : List Mv} {m : Mv} : m ∈ startM xs ↔ m ∈ xs ∧ m.to ≠ m.frm := by simp [startM]
theorem src_rng {xs : List Mv} (h : GoodL xs) {z : Int} (h0 : 0 ≤ z) (h1 : z < 64) : 0 ≤ srcM xs z ∧ srcM xs z < 64 := by
  by_cases hz : z ∈ tosM xs
  · obtain ⟨m, hm, rfl⟩ := List.mem_map.1 hz
    rw [src_in h.nd hm]
    have := h.rng m hm
    omega
  · rw [src_out hz]; exact ⟨h0, h1⟩
theorem next_src {xs : List Mv} (h : GoodL xs) (z : Int) : nextM (startM xs) z = if srcM xs z = z then none else some (srcM xs z) := by
  have hn := h.start.1.nd
  by_cases hz : z ∈ tosM xs
  · obtain ⟨m, hm, rfl⟩ := List.mem_map.1 hz
    rw [src_in h.nd hm]
    by_cases e : m.frm = m.to
    · rw [if_pos e]
      cases hx : nextM (startM xs) m.to with
      | none => rfl
      | some y =>
        obtain ⟨q, hq, e1, _, _⟩ := (next_iff hn).1 hx
        obtain ⟨g1, g2⟩ := start_mem.1 hq
        have := find_to h.nd g1
        rw [e1, find_to h.nd hm] at this
        cases this
        exact absurd e.symm g2
    · rw [if_neg e]
      have := h.rng m hm
      exact (next_iff hn).2 ⟨m, start_mem.2 ⟨hm, fun e2 => e e2.symm⟩, rfl, by omega, rfl⟩
  · rw [src_out hz, if_pos rfl]
    cases hx : nextM (startM xs) z with
    | none => rfl
    | some y =>
      obtain ⟨q, hq, e1, _, _⟩ := (next_iff hn).1 hx
      exact absurd (List.mem_map.2 ⟨q, (start_mem.1 hq).1, e1⟩) hz
theorem once_src {xs : List Mv} (h : GoodL xs) {V : Type} (s : Rg V) (z : Int) : atOnce s (startM xs) z = s.reg (srcM xs z) := by
  have hn := h.start.1.nd
  by_cases hz : z ∈ tosM (startM xs)
  · obtain ⟨m, hm, rfl⟩ := List.mem_map.1 hz
    obtain ⟨g1, g2⟩ := start_mem.1 hm
    have := h.rng m g1
    rw [once_in hn hm, src_in h.nd g1]
    unfold srcV
    rw [if_neg (by omega)]
  · rw [once_out hz]
    by_cases hx : z ∈ tosM xs
    · obtain ⟨m, hm, rfl⟩ := List.mem_map.1 hx
      rw [src_in h.nd hm]
      have : m.to = m.frm := by
        by_cases e : m.to = m.frm
        · exact e
        · exact absurd (List.mem_map.2 ⟨m, start_mem.2 ⟨hm, e⟩, rfl⟩) hz
      rw [← this]
    · rw [src_out hx]
/-- What a copy may look like. -/
structure CpOk (x : Ins) : Prop where
  op : x.op = 11 ∨ x.op = 12 ∨ x.op = 13
  dst : 0 ≤ x.dst ∧ x.dst < 64
  a : 0 ≤ x.a ∧ x.a < 64
theorem cpI_ok {m : Mv} (h1 : 0 ≤ m.to ∧ m.to < 64) (h2 : m.frm = -1 ∨ (0 ≤ m.frm ∧ m.frm < 64)) : CpOk (cpI m) := by
  unfold cpI
  split
  · exact ⟨Or.inr (Or.inr rfl), h1, show (0 : Int) ≤ 0 ∧ (0 : Int) < 64 by decide⟩
  · exact ⟨Or.inl rfl, h1, by show 0 ≤ m.frm ∧ m.frm < 64; omega⟩
theorem emit_ok : ∀ (n : Nat) (L : List Mv), meas L ≤ n → MvOk L → ∀ x ∈ emitM (meas L) L, CpOk x
  | n, L, hn, h, x, hx => by
    by_cases hne : L = []
    · subst hne
      rw [emitM_nil] at hx
      cases hx
    · have h1 := meas_step h hne
      match n, hn with
      | 0, hn => omega
      | n + 1, hn =>
        rw [emit_run h hne] at hx
        rcases List.mem_cons.1 hx with hx | hx
        · subst hx
          cases hl : lowI (freeT L) with
          | some t =>
            obtain ⟨h2, _⟩ := free_mem.1 (lowI_some hl).1
            obtain ⟨m, hm, rfl⟩ := List.mem_map.1 h2
            have e : (stepM L).1 = cpI m := by
              unfold stepM; rw [hl]
              show cpI ⟨m.to, fromOf L m.to⟩ = _
              rw [from_in h.nd hm]
            rw [e]
            exact cpI_ok (h.to m hm) (h.frm m hm)
          | none =>
            have htn : tosM L ≠ [] := fun e => hne (by simpa [tosM] using e)
            cases hlt : lowI (tosM L) with
            | none => exact absurd (lowI_none.1 hlt) htn
            | some r =>
              obtain ⟨m, hm, rfl⟩ := List.mem_map.1 (lowI_some hlt).1
              have e : (stepM L).1 = ⟨12, 0, m.to, 0, 0⟩ := by unfold stepM; rw [hl]; dsimp only; rw [hlt]
              rw [e]
              exact ⟨Or.inr (Or.inl rfl), by show (0 : Int) ≤ 0 ∧ (0 : Int) < 64; decide, h.to m hm⟩
        · exact emit_ok n _ (by omega) h.step x hx
open Classical in
theorem cycN_law {xs : List Mv} (h : GoodL xs) : cycN (nextM (startM xs)) = ((List.range 64).filter fun (r : Nat) => lawCyc (srcM xs) (Int.ofNat r)).length := by
  unfold cycN
  congr 1
  refine List.filter_congr (fun r hr => ?_)
  have hr' := List.mem_range.1 hr
  have key := lawCyc_iff (src := srcM xs) (f := nextM (startM xs)) (next_src h) (fun z h0 h1 => src_rng h h0 h1) (r := Int.ofNat r) (by show (0 : Int) ≤ (r : Int); omega) (by show (r : Int) < 64; omega)
  cases hb : lawCyc (srcM xs) (Int.ofNat r) with
  | true => exact decide_eq_true (key.1 hb)
  | false => exact decide_eq_false (fun hc => by have := key.2 hc; rw [hb] at this; cases this)
/-- ALL THAT FnSequence ASKS OF THE COPIES OF VALID MOVES. -/
theorem seq_good {xs : List Mv} (hg : goodM xs = true) : (∀ x ∈ seqM xs, CpOk x) ∧ (∀ {V : Type} (s : Rg V) (z : Int), (cps s (seqM xs)).reg z = s.reg (srcM xs z)) ∧ (seqM xs).length = (startM xs).length + ((List.range 64).filter fun (r : Nat) => lawCyc (srcM xs) (Int.ofNat r)).length := by
  obtain ⟨_, h⟩ := goodM_good hg
  obtain ⟨hok, hms⟩ := h.start
  have e : seqM xs = emitM (meas (startM xs)) (startM xs) := by unfold seqM; rw [if_pos hg, hms]
  rw [e]
  refine ⟨emit_ok _ _ (Nat.le_refl _) hok, fun s z => ?_, ?_⟩
  · rw [emit_do _ _ (Nat.le_refl _) hok, once_src h]
  · rw [emit_count _ _ (Nat.le_refl _) hok, cycN_law h]
theorem seq_bad {xs : List Mv} (hg : goodM xs = false) : seqM xs = [] := by unfold seqM; rw [hg]; rfl
end Go.Proofs.YtlmaodcddbkllaaDoor

/-
  FnSequence, pure: the law's loops a step at a time.
-/
namespace Go.Proofs.YtlmaodcddbkllaaDoor

theorem goodF_app : ∀ (L pre R : List Mv), goodF pre (L ++ R) = (goodF pre L && goodF (pre ++ L) R)
  | [], pre, R => by simp [goodF]
  | m :: L, pre, R => by
    rw [List.cons_append, goodF, goodF, goodF_app L (pre ++ [m]) R, Bool.and_assoc, List.append_assoc]
    rfl
theorem goodF_snoc (L : List Mv) (m : Mv) : goodF [] (L ++ [m]) = (goodF [] L && goodAt L m) := by
  rw [goodF_app]
  simp [goodF]
theorem good_step {xs : List Mv} {i : Nat} (hi : i < xs.length) (h : goodF [] (xs.take i) = true) (ha : goodAt (xs.take i) xs[i] = true) : goodF [] (xs.take (i + 1)) = true := by
  rw [List.take_succ_eq_append_getElem hi, goodF_snoc, h, ha]
  rfl
theorem good_fail {xs : List Mv} {i : Nat} (hi : i < xs.length) (ha : goodAt (xs.take i) xs[i] = false) : goodM xs = false := by
  have e : goodF [] xs = (goodF [] (xs.take (i + 1)) && goodF ([] ++ xs.take (i + 1)) (xs.drop (i + 1))) := by
    conv => lhs; rw [← List.take_append_drop (i + 1) xs]
    exact goodF_app _ _ _
  rw [List.take_succ_eq_append_getElem hi, goodF_snoc, ha] at e
  unfold goodM
  rw [e]
  simp
theorem good_long {xs : List Mv} (h : 64 < xs.length) : goodM xs = false := by
  unfold goodM
  rw [decide_eq_false (by omega)]
  rfl
theorem good_done {xs : List Mv} (h : xs.length ≤ 64) (hg : goodF [] xs = true) : goodM xs = true := by
  unfold goodM
  rw [decide_eq_true h, hg]
  rfl
theorem goodAt_yes {L : List Mv} {m : Mv} : goodAt L m = true ↔ (0 ≤ m.to ∧ m.to < 64 ∧ 0 ≤ m.frm ∧ m.frm < 64) ∧ m.to ∉ tosM L := by
  unfold goodAt tosM
  simp only [Bool.and_eq_true, decide_eq_true_eq, Bool.not_eq_true', List.any_eq_false, beq_iff_eq, List.mem_map, not_exists, not_and]
theorem src_snoc {L : List Mv} {m : Mv} (hn : m.to ∉ tosM L) (z : Int) : srcM (L ++ [m]) z = if z = m.to then m.frm else srcM L z := by
  unfold srcM
  rw [List.find?_append]
  by_cases e : z = m.to
  · subst e
    rw [if_pos rfl, find_not hn]
    simp
  · rw [if_neg e]
    have h2 : ([m].find? fun q => q.to == z) = none := by
      have : ¬ m.to = z := fun h => e h.symm
      simp [this]
    rw [h2, Option.or_none]
theorem tos_snoc (L : List Mv) (m : Mv) (z : Int) : z ∈ tosM (L ++ [m]) ↔ z ∈ tosM L ∨ z = m.to := by simp [tosM]
theorem start_snoc (L : List Mv) (m : Mv) : (startM (L ++ [m])).length = (startM L).length + if m.to = m.frm then 0 else 1 := by
  unfold startM
  rw [List.filter_append, List.length_append]
  by_cases e : m.to = m.frm
  · simp [e]
  · simp [e]
theorem start_le (L : List Mv) : (startM L).length ≤ L.length := List.length_filter_le _ _
/-- The law's count of cycles among the first r registers. -/
def cntC (src : Int → Int) (r : Nat) : Nat := ((List.range r).filter fun (r : Nat) => lawCyc src (Int.ofNat r)).length
theorem cnt_zero (src : Int → Int) : cntC src 0 = 0 := rfl
theorem cnt_succ (src : Int → Int) (r : Nat) : cntC src (r + 1) = cntC src r + if lawCyc src (r : Int) = true then 1 else 0 := by
  unfold cntC
  rw [List.range_succ, List.filter_append, List.length_append]
  cases h : lawCyc src (r : Int) <;> simp [h]
theorem cnt_le (src : Int → Int) (r : Nat) : cntC src r ≤ r := Nat.le_trans (List.length_filter_le _ _) (by simp)
theorem cps_take {V : Type} (s : Rg V) (is : List Ins) {i : Nat} (h : i < is.length) : cps s (is.take (i + 1)) = cp1 (cps s (is.take i)) is[i] := by
  unfold cps
  rw [List.take_succ_eq_append_getElem h, List.foldl_append]
  rfl
/-- The registers of the law's run. -/
def rg0 : Rg Int := ⟨fun z => 1000 + z, 0⟩
theorem loopC_stop (src : Int → Int) (r : Int) (n : Nat) (sm : Bool) : loopC src r n r sm = (r, sm) := by
  cases n with
  | zero => rfl
  | succ n => unfold loopC; rw [if_pos rfl]
theorem loopC_go (src : Int → Int) (r : Int) (n : Nat) (a : Int) (sm : Bool) (h : a ≠ r) : loopC src r (n + 1) a sm = loopC src r n (src a) (sm && !decide (a < r)) := by
  conv => lhs; unfold loopC
  rw [if_neg h]
end Go.Proofs.YtlmaodcddbkllaaDoor
