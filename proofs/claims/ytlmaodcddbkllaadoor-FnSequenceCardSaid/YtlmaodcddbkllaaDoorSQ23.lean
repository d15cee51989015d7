import Derived.Test.YtlmaodcddbkllaaDoorSQ21
/-
  Sequence, pure: the law's own count of cycles; what the copies look like.
-/
namespace Go.Proofs.YtlmaodcddbkllaaDoor

/-- What the law's inner loop does. -/
def loopC (src : Int → Int) (r : Int) : Nat → Int → Bool → Int × Bool
  | 0, at_, sm => (at_, sm)
  | n + 1, at_, sm => if at_ = r then (at_, sm) else loopC src r n (src at_) (sm && !decide (at_ < r))
def iterS (src : Int → Int) : Nat → Int → Int
  | 0, r => r
  | k + 1, r => src (iterS src k r)
theorem iter_add (src : Int → Int) (r : Int) (i : Nat) : ∀ d, iterS src (i + d) r = iterS src d (iterS src i r)
  | 0 => rfl
  | d + 1 => by show src (iterS src (i + d) r) = src _; rw [iter_add src r i d]
/-- Where the loop ends, and what it says. -/
theorem loop_end {src : Int → Int} {r : Int} : ∀ (n j : Nat) (sm : Bool), (loopC src r n (iterS src j r) sm).1 = r → ∃ k, j ≤ k ∧ k ≤ j + n ∧ iterS src k r = r ∧ (∀ i, j ≤ i → i < k → iterS src i r ≠ r) ∧ ((loopC src r n (iterS src j r) sm).2 = true → sm = true ∧ ∀ i, j ≤ i → i < k → r < iterS src i r)
  | 0, j, sm, h => ⟨j, Nat.le_refl _, Nat.le_refl _, h, fun i h1 h2 => by omega, fun hs => ⟨hs, fun i h1 h2 => by omega⟩⟩
  | n + 1, j, sm, h => by
    unfold loopC at h ⊢
    by_cases e : iterS src j r = r
    · rw [if_pos e] at h ⊢
      exact ⟨j, Nat.le_refl _, by omega, e, fun i h1 h2 => by omega, fun hs => ⟨hs, fun i h1 h2 => by omega⟩⟩
    · rw [if_neg e] at h ⊢
      obtain ⟨k, h1, h2, h3, h4, h5⟩ := loop_end n (j + 1) (sm && !decide (iterS src j r < r)) h
      refine ⟨k, by omega, by omega, h3, fun i g1 g2 => ?_, fun hs => ?_⟩
      · by_cases ei : i = j
        · rw [ei]; exact e
        · exact h4 i (by omega) g2
      · obtain ⟨h6, h7⟩ := h5 hs
        simp only [Bool.and_eq_true, Bool.not_eq_true', decide_eq_false_iff_not] at h6
        refine ⟨h6.1, fun i g1 g2 => ?_⟩
        by_cases ei : i = j
        · rw [ei]; omega
        · exact h7 i (by omega) g2
theorem loop_hit {src : Int → Int} {r : Int} : ∀ (n j k : Nat), j ≤ k → k ≤ j + n → iterS src k r = r → (∀ i, j ≤ i → i < k → r < iterS src i r) → loopC src r n (iterS src j r) true = (r, true)
  | 0, j, k, h1, h2, h3, _ => by
    have : j = k := by omega
    subst this
    show (iterS src j r, true) = _
    rw [h3]
  | n + 1, j, k, h1, h2, h3, h4 => by
    unfold loopC
    by_cases e : j = k
    · subst e; rw [if_pos h3, h3]
    · have := h4 j (Nat.le_refl _) (by omega)
      rw [if_neg (by omega), show (true && !decide (iterS src j r < r)) = true by simp; omega]
      exact loop_hit n (j + 1) k (by omega) (by omega) h3 (fun i g1 g2 => h4 i (by omega) g2)
/-- The law's test of a register. -/
def lawCyc (src : Int → Int) (r : Int) : Bool := decide ((loopC src r 64 (src r) true).1 = r) && (loopC src r 64 (src r) true).2 && decide (src r ≠ r)
theorem lawCyc_iff {src : Int → Int} {f : Int → Option Int} (hf : ∀ z, f z = if src z = z then none else some (src z)) (hs : ∀ z, 0 ≤ z → z < 64 → 0 ≤ src z ∧ src z < 64) {r : Int} (h0 : 0 ≤ r) (h1 : r < 64) : lawCyc src r = true ↔ CycMin f r := by
  have e1 : src r = iterS src 1 r := rfl
  have rng : ∀ j, 0 ≤ iterS src j r ∧ iterS src j r < 64 := fun j => by
    induction j with
    | zero => exact ⟨h0, h1⟩
    | succ j ih => exact hs _ ih.1 ih.2
  constructor
  · intro h
    simp only [lawCyc, Bool.and_eq_true, decide_eq_true_eq] at h
    obtain ⟨⟨g1, g2⟩, g3⟩ := h
    rw [e1] at g1 g2
    obtain ⟨k, k1, k2, k3, k4, k5⟩ := loop_end 64 1 true g1
    obtain ⟨-, k6⟩ := k5 g2
    obtain ⟨q, rfl⟩ : ∃ q, k = q + 1 := ⟨k - 1, by omega⟩
    have hne : ∀ i, i ≤ q → src (iterS src i r) ≠ iterS src i r := fun i hi e => by
      have stay : ∀ d, iterS src (i + d) r = iterS src i r := fun d => by
        induction d with
        | zero => rfl
        | succ d ih => show src (iterS src (i + d) r) = _; rw [ih, e]
      have := stay (q + 1 - i)
      rw [show i + (q + 1 - i) = q + 1 by omega, k3] at this
      by_cases hi0 : i = 0
      · subst hi0; exact g3 e
      · exact k4 i (by omega) (by omega) this.symm
    have wk : ∀ j, j ≤ q + 1 → walkM f j r = some (iterS src j r) := fun j => by
      induction j with
      | zero => intro _; rfl
      | succ j ih =>
        intro hj
        show (walkM f j r).bind f = _
        rw [ih (by omega)]
        show f (iterS src j r) = _
        rw [hf, if_neg (hne j (by omega))]
        rfl
    exact ⟨q, by rw [wk _ (Nat.le_refl _), k3], fun j j1 j2 => ⟨_, wk j (by omega), k6 j j1 (by omega)⟩⟩
  · rintro ⟨q, q1, q2⟩
    have wk : ∀ j, ∀ z, walkM f j r = some z → z = iterS src j r := fun j => by
      induction j with
      | zero => intro z hz; cases hz; rfl
      | succ j ih =>
        intro z hz
        obtain ⟨y, y1, y2⟩ := Option.bind_eq_some_iff.1 (show (walkM f j r).bind f = some z from hz)
        have := ih y y1
        subst this
        rw [hf] at y2
        split at y2
        · cases y2
        · exact (Option.some.inj y2).symm
    have hend : iterS src (q + 1) r = r := (wk _ _ q1).symm
    have hmid : ∀ i, 1 ≤ i → i < q + 1 → r < iterS src i r := fun i i1 i2 => by
      obtain ⟨z, z1, z2⟩ := q2 i i1 (by omega)
      rw [← wk i z z1]; exact z2
    have hne : src r ≠ r := by
      intro e
      have : ∀ z, walkM f 1 r ≠ some z := fun z hz => by
        have : f r = some z := hz
        rw [hf, if_pos e] at this
        cases this
      cases q with
      | zero => exact this _ q1
      | succ q => obtain ⟨z, z1, _⟩ := q2 1 (Nat.le_refl _) (by omega); exact this z z1
    have hq : q + 1 ≤ 1 + 64 := by
      by_cases hb : q ≤ 64
      · omega
      exfalso
      obtain ⟨i, j, hij, hj, e⟩ := twice (xs := (List.range q).map fun i => iterS src (i + 1) r) (ys := (List.range 64).map fun (i : Nat) => (i : Int)) (fun x hx => by
        obtain ⟨i, _, rfl⟩ := List.mem_map.1 hx
        obtain ⟨a1, a2⟩ := rng (i + 1)
        exact List.mem_map.2 ⟨(iterS src (i + 1) r).toNat, List.mem_range.2 (by omega), Int.toNat_of_nonneg a1⟩) (by simp; omega)
      simp at e hj
      have e2 := iter_add src r (j + 1) (q - j)
      rw [← e, ← iter_add src r (i + 1) (q - j), show j + 1 + (q - j) = q + 1 by omega, hend] at e2
      have := hmid (i + 1 + (q - j)) (by omega) (by omega)
      omega
    have := loop_hit (src := src) (r := r) 64 1 (q + 1) (by omega) (by omega) hend hmid
    simp only [lawCyc, Bool.and_eq_true, decide_eq_true_eq]
    rw [e1, this]
    exact ⟨⟨rfl, rfl⟩, hne⟩
end Go.Proofs.YtlmaodcddbkllaaDoor

/-
  Sequence, pure: what FnSequence says of the copies of valid moves.
-/
namespace Go.Proofs.YtlmaodcddbkllaaDoor

/-- The register whose content each register holds behind the moves. -/
def srcM (xs : List Mv) (z : Int) : Int := match xs.find? fun m => m.to == z with
  | some m => m.frm
  | none => z
theorem src_in {xs : List Mv} (hn : (tosM xs).Nodup) {m : Mv} (hm : m ∈ xs) : srcM xs m.to = m.frm := by unfold srcM; rw [find_to hn hm]
theorem src_out {xs : List Mv} {z : Int} (h : z ∉ tosM xs) : srcM xs z = z := by unfold srcM; rw [find_not h]
theorem start_mem {xs : List Mv} {m : Mv} : m ∈ startM xs ↔ m ∈ xs ∧ m.to ≠ m.frm := by simp [startM]
theorem src_rng {xs : List Mv} (h : GoodL xs) {z : Int} (h0 : 0 ≤ z) (h1 : z < 64) : 0 ≤ srcM xs z ∧ srcM xs z < 64 := by
  by_cases hz : z ∈ tosM xs
  · obtain ⟨m, hm, rfl⟩ := List.mem_map.1 hz
    rw [src_in h.nd hm]
    have := h.rng m hm
    omega
  · rw [src_out hz]; exact ⟨h0, h1⟩
theorem next_src {xs : List Mv} (h : GoodL xs) (z : Int) : nextM (startM xs) z = if srcM xs z = z then none else some (srcM xs z) := by
  have hn := h.start.1.nd
  by_cases hz : z ∈ tosM xs
  · obtain ⟨m, hm, rfl⟩ := List.mem_map.1 hz
    rw [src_in h.nd hm]
    by_cases e : m.frm = m.to
    · rw [if_pos e]
      cases hx : nextM (startM xs) m.to with
      | none => rfl
      | some y =>
        obtain ⟨q, hq, e1, _, _⟩ := (next_iff hn).1 hx
        obtain ⟨g1, g2⟩ := start_mem.1 hq
        have := find_to h.nd g1
        rw [e1, find_to h.nd hm] at this
        cases this
        exact absurd e.symm g2
    · rw [if_neg e]
      have := h.rng m hm
      exact (next_iff hn).2 ⟨m, start_mem.2 ⟨hm, fun e2 => e e2.symm⟩, rfl, by omega, rfl⟩
  · rw [src_out hz, if_pos rfl]
    cases hx : nextM (startM xs) z with
    | none => rfl
    | some y =>
      obtain ⟨q, hq, e1, _, _⟩ := (next_iff hn).1 hx
      exact absurd (List.mem_map.2 ⟨q, (start_mem.1 hq).1, e1⟩) hz
theorem once_src {xs : List Mv} (h : GoodL xs) {V : Type} (s : Rg V) (z : Int) : atOnce s (startM xs) z = s.reg (srcM xs z) := by
  have hn := h.start.1.nd
  by_cases hz : z ∈ tosM (startM xs)
  · obtain ⟨m, hm, rfl⟩ := List.mem_map.1 hz
    obtain ⟨g1, g2⟩ := start_mem.1 hm
    have := h.rng m g1
    rw [once_in hn hm, src_in h.nd g1]
    unfold srcV
    rw [if_neg (by omega)]
  · rw [once_out hz]
    by_cases hx : z ∈ tosM xs
    · obtain ⟨m, hm, rfl⟩ := List.mem_map.1 hx
      rw [src_in h.nd hm]
      have : m.to = m.frm := by
        by_cases e : m.to = m.frm
        · exact e
        · exact absurd (List.mem_map.2 ⟨m, start_mem.2 ⟨hm, e⟩, rfl⟩) hz
      rw [← this]
    · rw [src_out hx]
/-- What a copy may look like. -/
structure CpOk (x : Ins) : Prop where
  op : x.op = 11 ∨ x.op = 12 ∨ x.op = 13
  dst : 0 ≤ x.dst ∧ x.dst < 64
  a : 0 ≤ x.a ∧ x.a < 64
theorem cpI_ok {m : Mv} (h1 : 0 ≤ m.to ∧ m.to < 64) (h2 : m.frm = -1 ∨ (0 ≤ m.frm ∧ m.frm < 64)) : CpOk (cpI m) := by
  unfold cpI
  split
  · exact ⟨Or.inr (Or.inr rfl), h1, show (0 : Int) ≤ 0 ∧ (0 : Int) < 64 by decide⟩
  · exact ⟨Or.inl rfl, h1, by show 0 ≤ m.frm ∧ m.frm < 64; omega⟩
theorem emit_ok : ∀ (n : Nat) (L : List Mv), meas L ≤ n → MvOk L → ∀ x ∈ emitM (meas L) L, CpOk x
  | n, L, hn, h, x, hx => by
    by_cases hne : L = []
    · subst hne
      rw [emitM_nil] at hx
      cases hx
    · have h1 := meas_step h hne
      match n, hn with
      | 0, hn => omega
      | n + 1, hn =>
        rw [emit_run h hne] at hx
        rcases List.mem_cons.1 hx with hx | hx
        · subst hx
          cases hl : lowI (freeT L) with
          | some t =>
            obtain ⟨h2, _⟩ := free_mem.1 (lowI_some hl).1
            obtain ⟨m, hm, rfl⟩ := List.mem_map.1 h2
            have e : (stepM L).1 = cpI m := by
              unfold stepM; rw [hl]
              show cpI ⟨m.to, fromOf L m.to⟩ = _
              rw [from_in h.nd hm]
            rw [e]
            exact cpI_ok (h.to m hm) (h.frm m hm)
          | none =>
            have htn : tosM L ≠ [] := fun e => hne (by simpa [tosM] using e)
            cases hlt : lowI (tosM L) with
            | none => exact absurd (lowI_none.1 hlt) htn
            | some r =>
              obtain ⟨m, hm, rfl⟩ := List.mem_map.1 (lowI_some hlt).1
              have e : (stepM L).1 = ⟨12, 0, m.to, 0, 0⟩ := by unfold stepM; rw [hl]; dsimp only; rw [hlt]
              rw [e]
              exact ⟨Or.inr (Or.inl rfl), by show (0 : Int) ≤ 0 ∧ (0 : Int) < 64; decide, h.to m hm⟩
        · exact emit_ok n _ (by omega) h.step x hx
open Classical in
theorem cycN_law {xs : List Mv} (h : GoodL xs) : cycN (nextM (startM xs)) = ((List.range 64).filter fun (r : Nat) => lawCyc (srcM xs) (Int.ofNat r)).length := by
  unfold cycN
  congr 1
  refine List.filter_congr (fun r hr => ?_)
  have hr' := List.mem_range.1 hr
  have key := lawCyc_iff (src := srcM xs) (f := nextM (startM xs)) (next_src h) (fun z h0 h1 => src_rng h h0 h1) (r := Int.ofNat r) (by show (0 : Int) ≤ (r : Int); omega) (by show (r : Int) < 64; omega)
  cases hb : lawCyc (srcM xs) (Int.ofNat r) with
  | true => exact decide_eq_true (key.1 hb)
  | false => exact decide_eq_false (fun hc => by have := key.2 hc; rw [hb] at this; cases this)
/-- ALL THAT FnSequence ASKS OF THE COPIES OF VALID MOVES. -/
theorem seq_good {xs : List Mv} (hg : goodM xs = true) : (∀ x ∈ seqM xs, CpOk x) ∧ (∀ {V : Type} (s : Rg V) (z : Int), (cps s (seqM xs)).reg z = s.reg (srcM xs z)) ∧ (seqM xs).length = (startM xs).length + ((List.range 64).filter fun (r : Nat) => lawCyc (srcM xs) (Int.ofNat r)).length := by
  obtain ⟨_, h⟩ := goodM_good hg
  obtain ⟨hok, hms⟩ := h.start
  have e : seqM xs = emitM (meas (startM xs)) (startM xs) := by unfold seqM; rw [if_pos hg, hms]
  rw [e]
  refine ⟨emit_ok _ _ (Nat.le_refl _) hok, fun s z => ?_, ?_⟩
  · rw [emit_do _ _ (Nat.le_refl _) hok, once_src h]
  · rw [emit_count _ _ (Nat.le_refl _) hok, cycN_law h]
theorem seq_bad {xs : List Mv} (hg : goodM xs = false) : seqM xs = [] := by unfold seqM; rw [hg]; rfl
end Go.Proofs.YtlmaodcddbkllaaDoor
