import Derived.Test.YtdcdgopblbmgoaaDoorMem
/-
  Sequence, pure: moves, the step that both the model and the program make, what is emitted.
-/
namespace Go.Proofs.YtdcdgopblbmgoaaDoor

structure Mv where
  to : Int
  frm : Int
def isRead (L : List Mv) (r : Int) : Bool := L.any fun m => m.frm == r
theorem isRead_iff {L : List Mv} {r : Int} : isRead L r = true ↔ ∃ m ∈ L, m.frm = r := by simp [isRead]
/-- The least of some numbers. -/
def lowI : List Int → Option Int
  | [] => none
  | x :: xs => match lowI xs with
    | none => some x
    | some y => some (if x < y then x else y)
theorem lowI_none {xs : List Int} : lowI xs = none ↔ xs = [] := by
  cases xs with
  | nil => simp [lowI]
  | cons x xs =>
    simp only [lowI]
    cases lowI xs <;> simp
theorem lowI_some : ∀ {xs : List Int} {y : Int}, lowI xs = some y → y ∈ xs ∧ ∀ x ∈ xs, y ≤ x
  | [], y, h => by cases h
  | x :: xs, y, h => by
    simp only [lowI] at h
    cases hl : lowI xs with
    | none =>
      rw [hl] at h
      have e : xs = [] := lowI_none.1 hl
      subst e
      cases h
      simp
    | some z =>
      rw [hl] at h
      obtain ⟨h1, h2⟩ := lowI_some hl
      simp only [Option.some.injEq] at h
      split at h
      · subst h
        rename_i hlt
        exact ⟨List.mem_cons_self, fun u hu => by
          rcases List.mem_cons.1 hu with rfl | hu
          · exact Int.le_refl _
          · have := h2 u hu; omega⟩
      · subst h
        rename_i hlt
        exact ⟨List.mem_cons_of_mem _ h1, fun u hu => by
          rcases List.mem_cons.1 hu with rfl | hu
          · omega
          · exact h2 u hu⟩
theorem lowI_of {xs : List Int} {y : Int} (h1 : y ∈ xs) (h2 : ∀ x ∈ xs, y ≤ x) : lowI xs = some y := by
  cases h : lowI xs with
  | none => rw [lowI_none.1 h] at h1; cases h1
  | some z =>
    obtain ⟨g1, g2⟩ := lowI_some h
    have a := h2 z g1
    have b := g2 y h1
    rw [show z = y by omega]
def tosM (L : List Mv) : List Int := L.map (·.to)
def freeT (L : List Mv) : List Int := (tosM L).filter fun t => !isRead L t
def cpI (m : Mv) : Ins := if m.frm < 0 then ⟨13, m.to, 0, 0, 0⟩ else ⟨11, m.to, m.frm, 0, 0⟩
def fromOf (L : List Mv) (t : Int) : Int := ((L.find? fun m => m.to == t).map (·.frm)).getD 0
def without (L : List Mv) (t : Int) : List Mv := L.filter fun m => m.to != t
def scratch (L : List Mv) (r : Int) : List Mv := L.map fun m => if m.frm = r then ⟨m.to, -1⟩ else m
def stepM (L : List Mv) : Ins × List Mv := match lowI (freeT L) with
  | some t => (cpI ⟨t, fromOf L t⟩, without L t)
  | none => match lowI (tosM L) with
    | some r => (⟨12, 0, r, 0, 0⟩, scratch L r)
    | none => (⟨0, 0, 0, 0, 0⟩, [])
def emitM : Nat → List Mv → List Ins
  | 0, _ => []
  | _ + 1, [] => []
  | k + 1, m :: L => (stepM (m :: L)).1 :: emitM k (stepM (m :: L)).2
theorem emitM_nil (k : Nat) : emitM k [] = [] := by cases k <;> rfl
theorem emitM_succ (k : Nat) {L : List Mv} (h : L ≠ []) : emitM (k + 1) L = (stepM L).1 :: emitM k (stepM L).2 := by
  cases L with
  | nil => exact absurd rfl h
  | cons m L => rfl
theorem emitM_len : ∀ (k : Nat) (L : List Mv), (emitM k L).length ≤ k
  | 0, _ => Nat.le_refl _
  | _ + 1, [] => Nat.zero_le _
  | k + 1, m :: L => by have := emitM_len k (stepM (m :: L)).2; simp only [emitM, List.length_cons]; omega
structure MvOk (L : List Mv) : Prop where
  nd : (tosM L).Nodup
  to : ∀ m ∈ L, 0 ≤ m.to ∧ m.to < 64
  frm : ∀ m ∈ L, m.frm = -1 ∨ (0 ≤ m.frm ∧ m.frm < 64)
  ne : ∀ m ∈ L, m.frm ≠ m.to
def meas (L : List Mv) : Nat := L.length + (L.filter fun m => decide (0 ≤ m.frm)).length
theorem MvOk.nil : MvOk [] := ⟨by simp [tosM], by simp, by simp, by simp⟩
theorem MvOk.without {L : List Mv} (h : MvOk L) (t : Int) : MvOk (without L t) := by
  refine ⟨?_, fun m hm => h.to m (List.mem_filter.1 hm).1, fun m hm => h.frm m (List.mem_filter.1 hm).1, fun m hm => h.ne m (List.mem_filter.1 hm).1⟩
  exact h.nd.sublist (List.filter_sublist.map _)
theorem tos_scratch (L : List Mv) (r : Int) : tosM (scratch L r) = tosM L := by
  unfold tosM scratch
  rw [List.map_map]
  refine List.map_congr_left (fun m _ => ?_)
  show (if m.frm = r then (⟨m.to, -1⟩ : Mv) else m).to = m.to
  split <;> rfl
theorem MvOk.scratch {L : List Mv} (h : MvOk L) (r : Int) : MvOk (scratch L r) := by
  have key : ∀ m ∈ Go.Proofs.YtdcdgopblbmgoaaDoor.scratch L r, ∃ q ∈ L, m = (if q.frm = r then ⟨q.to, -1⟩ else q) := fun m hm => by
    obtain ⟨q, hq, e⟩ := List.mem_map.1 hm
    exact ⟨q, hq, e.symm⟩
  refine ⟨by rw [tos_scratch]; exact h.nd, fun m hm => ?_, fun m hm => ?_, fun m hm => ?_⟩ <;> obtain ⟨q, hq, rfl⟩ := key m hm
  · have := h.to q hq; split <;> exact this
  · split
    · exact Or.inl rfl
    · exact h.frm q hq
  · have h1 := h.to q hq
    have h2 := h.ne q hq
    split
    · show (-1 : Int) ≠ q.to; omega
    · exact h2
theorem MvOk.step {L : List Mv} (h : MvOk L) : MvOk (stepM L).2 := by
  unfold stepM
  split
  · exact h.without _
  · split
    · exact h.scratch _
    · exact MvOk.nil
theorem meas_without {L : List Mv} {t : Int} (ht : t ∈ tosM L) : meas (without L t) < meas L := by
  unfold meas without
  have h1 : (L.filter fun m => m.to != t).length < L.length := by
    refine List.length_filter_lt_length_iff_exists.2 ?_
    obtain ⟨m, hm, e⟩ := List.mem_map.1 ht
    exact ⟨m, hm, by simp [e]⟩
  have h2 : ((L.filter fun m => m.to != t).filter fun m => decide (0 ≤ m.frm)).length ≤ (L.filter fun m => decide (0 ≤ m.frm)).length := (List.filter_sublist.filter _).length_le
  omega
theorem meas_scratch {r : Int} (hr : 0 ≤ r) : ∀ {L : List Mv}, isRead L r = true → meas (scratch L r) < meas L := by
  have key : ∀ L : List Mv, ((scratch L r).filter fun m => decide (0 ≤ m.frm)).length ≤ (L.filter fun m => decide (0 ≤ m.frm)).length ∧ (isRead L r = true → ((scratch L r).filter fun m => decide (0 ≤ m.frm)).length < (L.filter fun m => decide (0 ≤ m.frm)).length) := fun L => by
    induction L with
    | nil => simp [scratch, isRead]
    | cons m L ih =>
      obtain ⟨i1, i2⟩ := ih
      have e : scratch (m :: L) r = (if m.frm = r then ⟨m.to, -1⟩ else m) :: scratch L r := rfl
      have er : isRead (m :: L) r = (m.frm == r || isRead L r) := rfl
      rw [e, er]
      by_cases hm : m.frm = r
      · rw [if_pos hm]
        have : (decide (0 ≤ m.frm)) = true := by simp; omega
        rw [List.filter_cons_of_neg (p := fun m : Mv => decide (0 ≤ m.frm)) (by simp), List.filter_cons_of_pos (p := fun m : Mv => decide (0 ≤ m.frm)) this]
        simp only [List.length_cons]
        exact ⟨by omega, fun _ => by omega⟩
      · rw [if_neg hm]
        have eb : (m.frm == r) = false := by simpa using hm
        rw [eb, Bool.false_or]
        by_cases h0 : decide (0 ≤ m.frm) = true
        · rw [List.filter_cons_of_pos (p := fun m : Mv => decide (0 ≤ m.frm)) h0, List.filter_cons_of_pos (p := fun m : Mv => decide (0 ≤ m.frm)) h0]
          simp only [List.length_cons]
          exact ⟨by omega, fun hi => by have := i2 hi; omega⟩
        · rw [List.filter_cons_of_neg (p := fun m : Mv => decide (0 ≤ m.frm)) h0, List.filter_cons_of_neg (p := fun m : Mv => decide (0 ≤ m.frm)) h0]
          exact ⟨i1, i2⟩
  intro L hi
  have h1 := (key L).2 hi
  unfold meas
  have h2 : (scratch L r).length = L.length := by simp [scratch]
  omega
theorem free_mem {L : List Mv} {t : Int} : t ∈ freeT L ↔ t ∈ tosM L ∧ isRead L t = false := by simp [freeT]
theorem meas_step {L : List Mv} (h : MvOk L) (hne : L ≠ []) : meas (stepM L).2 < meas L := by
  unfold stepM
  split
  · rename_i t ht
    exact meas_without (free_mem.1 (lowI_some ht).1).1
  · rename_i hf
    split
    · rename_i r hr
      obtain ⟨g1, _⟩ := lowI_some hr
      have hrd : isRead L r = true := by
        cases hb : isRead L r with
        | true => rfl
        | false =>
          have : r ∈ freeT L := free_mem.2 ⟨g1, hb⟩
          rw [lowI_none.1 hf] at this
          cases this
      obtain ⟨m, hm, e⟩ := List.mem_map.1 g1
      exact meas_scratch (by have := (h.to m hm).1; omega) hrd
    · rename_i hr
      have := lowI_none.1 hr
      exact absurd (List.map_eq_nil_iff.1 this) hne
theorem emit_more : ∀ (k : Nat) {L : List Mv}, MvOk L → meas L ≤ k → emitM k L = emitM (meas L) L
  | 0, L, _, hk => by rw [show meas L = 0 by omega]
  | k + 1, L, h, hk => by
    by_cases hne : L = []
    · subst hne; rw [emitM_nil, emitM_nil]
    · have h1 := meas_step h hne
      obtain ⟨j, hj⟩ : ∃ j, meas L = j + 1 := ⟨meas L - 1, by omega⟩
      rw [hj, emitM_succ k hne, emitM_succ j hne, emit_more k h.step (by omega)]
      by_cases hk2 : meas (stepM L).2 ≤ j
      · by_cases hjk : j ≤ k
        · have := emit_more j h.step hk2
          rw [this]
        · have e : j = k := by omega
          rw [e, emit_more k h.step (by omega)]
      · omega
theorem emit_run {L : List Mv} (h : MvOk L) (hne : L ≠ []) : emitM (meas L) L = (stepM L).1 :: emitM (meas (stepM L).2) (stepM L).2 := by
  have h1 := meas_step h hne
  obtain ⟨j, hj⟩ : ∃ j, meas L = j + 1 := ⟨meas L - 1, by omega⟩
  rw [hj, emitM_succ j hne, emit_more j h.step (by omega)]
/-- Is the move good behind those before it? -/
def goodAt (pre : List Mv) (m : Mv) : Bool := decide (0 ≤ m.to ∧ m.to < 64 ∧ 0 ≤ m.frm ∧ m.frm < 64) && !pre.any (fun q => q.to == m.to)
def goodF : List Mv → List Mv → Bool
  | _, [] => true
  | pre, m :: r => goodAt pre m && goodF (pre ++ [m]) r
def goodM (L : List Mv) : Bool := decide (L.length ≤ 64) && goodF [] L
def startM (L : List Mv) : List Mv := L.filter fun m => m.to != m.frm
def seqM (L : List Mv) : List Ins := if goodM L = true then emitM (2 * (startM L).length) (startM L) else []
structure GoodL (L : List Mv) : Prop where
  nd : (tosM L).Nodup
  rng : ∀ m ∈ L, 0 ≤ m.to ∧ m.to < 64 ∧ 0 ≤ m.frm ∧ m.frm < 64
theorem GoodL.snoc {L : List Mv} (h : GoodL L) {m : Mv} (hm : goodAt L m = true) : GoodL (L ++ [m]) := by
  simp only [goodAt, Bool.and_eq_true, decide_eq_true_eq, Bool.not_eq_true'] at hm
  obtain ⟨h1, h2⟩ := hm
  refine ⟨?_, fun q hq => ?_⟩
  · unfold tosM
    rw [List.map_append, List.nodup_append]
    refine ⟨h.nd, by simp, fun a ha b hb => ?_⟩
    simp only [List.map_cons, List.map_nil, List.mem_singleton] at hb
    subst hb
    intro e
    subst e
    obtain ⟨q, hq, e⟩ := List.mem_map.1 ha
    have := List.any_eq_false.1 h2 q hq
    simp [e] at this
  · rcases List.mem_append.1 hq with hq | hq
    · exact h.rng q hq
    · rw [List.mem_singleton.1 hq]; exact h1
theorem good_all : ∀ (r pre : List Mv), GoodL pre → goodF pre r = true → GoodL (pre ++ r)
  | [], pre, h, _ => by rw [List.append_nil]; exact h
  | m :: r, pre, h, hg => by
    simp only [goodF, Bool.and_eq_true] at hg
    have := good_all r (pre ++ [m]) (h.snoc hg.1) hg.2
    simpa using this
theorem GoodL.start {L : List Mv} (h : GoodL L) : MvOk (startM L) ∧ meas (startM L) = 2 * (startM L).length := by
  have sub : ∀ m ∈ startM L, m ∈ L ∧ m.to ≠ m.frm := fun m hm => by simpa [startM] using hm
  refine ⟨⟨h.nd.sublist (List.filter_sublist.map _), fun m hm => ?_, fun m hm => ?_, fun m hm => ?_⟩, ?_⟩
  · have := h.rng m (sub m hm).1; omega
  · have := h.rng m (sub m hm).1; omega
  · exact fun e => (sub m hm).2 e.symm
  · unfold meas
    rw [List.filter_eq_self.2 (fun m hm => by have := h.rng m (sub m hm).1; simp; omega)]
    omega
theorem goodM_good {L : List Mv} (h : goodM L = true) : L.length ≤ 64 ∧ GoodL L := by
  simp only [goodM, Bool.and_eq_true, decide_eq_true_eq] at h
  exact ⟨h.1, by simpa using good_all L [] ⟨by simp [tosM], by simp⟩ h.2⟩
end Go.Proofs.YtdcdgopblbmgoaaDoor
