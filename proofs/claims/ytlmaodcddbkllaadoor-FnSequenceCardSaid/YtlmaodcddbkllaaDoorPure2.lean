import Derived.Test.YtlmaodcddbkllaaDoorPure
namespace Go.Proofs.YtlmaodcddbkllaaDoor

theorem countEq_count (l : List Int) (v : Int) : countEq l v = l.count v := by
  unfold countEq
  rw [List.count, List.countP_eq_length_filter]

theorem cover_to (n : Nat) : ∀ l : List Int, l.length = n → (∀ v : Nat, v < n → (v : Int) ∈ l) → (∀ d ∈ l, 0 ≤ d ∧ d < n) ∧ ∀ v : Nat, v < n → l.count (v : Int) = 1 := by
  induction n with
  | zero =>
    intro l hl _
    have : l = [] := List.eq_nil_of_length_eq_zero hl
    subst this
    exact ⟨fun d hd => (List.not_mem_nil hd).elim, fun v hv => absurd hv (by omega)⟩
  | succ n ih =>
    intro l hl hv
    have hm := hv n (by omega)
    have hlen : (l.erase (n : Int)).length = n := by rw [List.length_erase_of_mem hm]; omega
    have hmem : ∀ v : Nat, v < n → (v : Int) ∈ l.erase (n : Int) := fun v h => (List.mem_erase_of_ne (by omega)).2 (hv v (by omega))
    obtain ⟨h1, h2⟩ := ih _ hlen hmem
    have hp := List.perm_cons_erase hm
    refine ⟨fun d hd => ?_, fun v h => ?_⟩
    · rcases List.mem_cons.1 (hp.mem_iff.1 hd) with rfl | hd
      · omega
      · have := h1 d hd; omega
    · rw [hp.count_eq, List.count_cons]
      by_cases e : v = n
      · subst e
        have : (l.erase (v : Int)).count (v : Int) = 0 := List.count_eq_zero.2 (fun hh => by have := h1 _ hh; omega)
        simp [this]
      · rw [h2 v (by omega)]
        have : ((n : Int) == (v : Int)) = false := by simp; omega
        simp [this]

theorem cover_from (n : Nat) : ∀ l : List Int, (∀ d ∈ l, 0 ≤ d ∧ d < n) → (∀ v : Nat, v < n → l.count (v : Int) = 1) → l.length = n ∧ ∀ v : Nat, v < n → (v : Int) ∈ l := by
  induction n with
  | zero =>
    intro l hl _
    have : l = [] := List.eq_nil_iff_forall_not_mem.2 (fun d hd => by have := hl d hd; omega)
    subst this
    exact ⟨rfl, fun v hv => absurd hv (by omega)⟩
  | succ n ih =>
    intro l hl hc
    have hm : (n : Int) ∈ l := List.count_pos_iff.1 (by rw [hc n (by omega)]; omega)
    have hp := List.perm_cons_erase hm
    have hc0 : (l.erase (n : Int)).count (n : Int) = 0 := by rw [List.count_erase_self, hc n (by omega)]
    have h1 : ∀ d ∈ l.erase (n : Int), 0 ≤ d ∧ d < n := fun d hd => by
      have h := hl d (List.mem_of_mem_erase hd)
      have hne : d ≠ n := fun e => by subst e; exact absurd hd (List.count_eq_zero.1 hc0)
      omega
    have h2 : ∀ v : Nat, v < n → (l.erase (n : Int)).count (v : Int) = 1 := fun v h => by
      rw [List.count_erase_of_ne (by omega)]; exact hc v (by omega)
    obtain ⟨k1, k2⟩ := ih _ h1 h2
    refine ⟨by have := List.length_erase_of_mem hm; have : 0 < l.length := List.length_pos_of_mem hm; omega, fun v h => ?_⟩
    exact List.count_pos_iff.1 (by rw [hc v h]; omega)

/-- All values that the phis of the blocks define. -/
def dstsOk (n : Int) (xs : List Blk) : Bool := xs.all fun x => x.phis.all fun p => fld true p.dst 0 n

theorem all_and {α : Type} (p q : α → Bool) (l : List α) : l.all (fun x => p x && q x) = (l.all p && l.all q) := by
  induction l with
  | nil => rfl
  | cons x l ih => simp only [List.all_cons, ih]; cases p x <;> cases q x <;> cases l.all p <;> simp

theorem phisFrom_split (F : Fn) : ∀ (xs : List Blk) (i : Nat), phisFrom phOkI F xs i = (dstsOk F.values xs && phisFrom phOkS F xs i) := by
  intro xs
  induction xs with
  | nil => intro i; rfl
  | cons x xs ih =>
    intro i
    simp only [phisFrom, dstsOk, List.all_cons, ih]
    have : x.phis.all (phOkI F.values (F.preds ↑i).length) = (x.phis.all (fun p => fld true p.dst 0 F.values) && x.phis.all (phOkS F.values (F.preds ↑i).length)) := all_and _ _ _
    rw [this]
    cases x.phis.all (fun p => fld true p.dst 0 F.values) <;> cases x.phis.all (phOkS F.values (F.preds ↑i).length) <;> simp

theorem defs_range (F : Fn) (hi : instrsOk F = true) : (dstsOk F.values F.blocks = true ↔ ∀ d ∈ blksDefs F.blocks, 0 ≤ d ∧ d < F.values) := by
  unfold dstsOk blksDefs
  simp only [List.all_eq_true, List.mem_flatMap, blkDefs, phDefs, insDefs, List.mem_append, List.mem_map, List.mem_filter, fld, if_true, Bool.and_eq_true, decide_eq_true_eq]
  constructor
  · rintro h d ⟨x, hx, ⟨p, hp, rfl⟩ | ⟨y, ⟨hy, hd⟩, rfl⟩⟩
    · exact h x hx p hp
    · have := List.all_eq_true.1 (List.all_eq_true.1 hi x hx) y hy
      simp only [insOk, hd, fld, if_true, Bool.and_eq_true, decide_eq_true_eq] at this
      omega
  · intro h x hx p hp
    exact h _ ⟨x, hx, Or.inl ⟨p, hp, rfl⟩⟩

theorem once_cover (F : Fn) (h0 : 0 ≤ F.values) (hi : instrsOk F = true) : (dstsOk F.values F.blocks && onceOk F) = coverOk F := by
  rw [Bool.eq_iff_iff]
  obtain ⟨n, hn⟩ := Int.eq_ofNat_of_zero_le h0
  rw [Bool.and_eq_true, defs_range F hi]
  unfold onceOk coverOk
  rw [hn]
  simp only [List.all_eq_true, List.mem_range, Int.toNat_natCast, beq_iff_eq, Bool.and_eq_true, decide_eq_true_eq, List.contains_iff_mem, countEq_count]
  constructor
  · rintro ⟨h1, h2⟩
    obtain ⟨k1, k2⟩ := cover_from n _ h1 h2
    exact ⟨by omega, k2⟩
  · rintro ⟨h1, h2⟩
    exact cover_to n _ (by omega) h2

theorem valid_same (F : Fn) : validI F = validS F := by
  unfold validI validS phisOkI phisOkS
  rw [phisFrom_split]
  cases hs : sizeOk F
  · simp
  cases hi : instrsOk F
  · simp
  cases ht : termsOk F
  · simp
  have h0 : 0 ≤ F.values := by
    simp only [sizeOk, Bool.and_eq_true, decide_eq_true_eq] at hs
    omega
  have := once_cover F h0 hi
  rw [← this]
  cases dstsOk F.values F.blocks <;> cases phisFrom phOkS F F.blocks 0 <;> simp

end Go.Proofs.YtlmaodcddbkllaaDoor
