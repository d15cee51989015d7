import Derived.Test.YtlmaodcddbkllaaDoorND0
import Derived.Test.YtlmaodcddbkllaaDoorW14b
/-
  Analyze, pure: what holds of a valid function's blocks.
-/
namespace Go.Proofs.YtlmaodcddbkllaaDoor

def predN (xs : List Blk) (k b : Nat) : List Nat := (List.range k).filter fun j => decide (b ∈ tgN xs j)
theorem preds_nat {xs : List Blk} (hT : ∀ x ∈ xs, ∀ t ∈ x.term.targets, 0 ≤ t) (b : Nat) : ∀ (k : Nat), k ≤ xs.length → predsFrom (xs.take k) 0 (b : Int) = natI (predN xs k b)
  | 0, _ => by simp [predsFrom, predN, natI]
  | k + 1, hk => by
    have hk' : k < xs.length := hk
    rw [List.take_succ_eq_append_getElem hk', predsFrom_snoc, preds_nat hT b k (by omega)]
    have hl : (xs.take k).length = k := by simp; omega
    have e : xs[k].term.targets.contains (b : Int) = decide (b ∈ tgN xs k) := by
      rw [tgN_at hk', Bool.eq_iff_iff, List.contains_iff_mem, decide_eq_true_eq, List.mem_map]
      constructor
      · exact fun h => ⟨_, h, by simp⟩
      · rintro ⟨t, ht, et⟩
        have h0 := hT _ (List.getElem_mem hk') t ht
        have : t = (b : Int) := by omega
        rw [← this]; exact ht
    rw [e, hl]
    unfold predN
    rw [List.range_succ, List.filter_append, List.filter_cons, List.filter_nil]
    by_cases h : b ∈ tgN xs k
    · rw [if_pos (by simpa using h), if_pos (by simpa using h)]; simp [natI]
    · rw [if_neg (by simpa using h), if_neg (by simpa using h)]; simp [natI]
theorem preds_all {xs : List Blk} (hT : ∀ x ∈ xs, ∀ t ∈ x.term.targets, 0 ≤ t) (b : Nat) : predsFrom xs 0 (b : Int) = natI (predN xs xs.length b) := by
  have := preds_nat hT b xs.length (Nat.le_refl _)
  rwa [List.take_length] at this
theorem predN_mem {xs : List Blk} {n b s : Nat} : s ∈ predN xs n b ↔ s < n ∧ b ∈ tgN xs s := by
  unfold predN
  rw [List.mem_filter, List.mem_range, decide_eq_true_eq]
theorem predN_len {xs : List Blk} {n b : Nat} : (predN xs n b).length ≤ n := Nat.le_trans (List.length_filter_le _ _) (by simp)
/-- The search from block 0. -/
def seaP (xs : List Blk) : (Nat → Nat) × List Nat := dfsV (tgN xs) xs.length 0 (fun _ => 0, [])
def ordP (xs : List Blk) : List Nat := (seaP xs).2.reverse
structure OkF (xs : List Blk) : Prop where
  n1 : 1 ≤ xs.length
  n2 : xs.length ≤ 1000
  tgt : ∀ x ∈ xs, ∀ t ∈ x.term.targets, 0 ≤ t ∧ t < xs.length
  ok : TgtOk xs xs.length
theorem ok_of_valid {v : Int} {xs : List Blk} (h : validI ⟨v, xs⟩ = true) : OkF xs := by
  simp only [validI, Bool.and_eq_true] at h
  obtain ⟨⟨⟨⟨h1, h2⟩, _⟩, _⟩, _⟩ := h
  simp only [sizeOk, Bool.and_eq_true, decide_eq_true_eq] at h1
  have ht := tgt_of_terms h2
  exact ⟨h1.1.1.2, h1.1.2, fun x hx => (ht x hx).1, ht⟩
theorem OkF.tg {xs : List Blk} (h : OkF xs) : ∀ b, b < xs.length → ∀ t ∈ tgN xs b, t < xs.length := fun b hb t ht => by
  rw [tgN_at hb] at ht
  obtain ⟨z, hz, rfl⟩ := List.mem_map.1 ht
  have := h.tgt _ (List.getElem_mem hb) z hz
  omega
theorem OkF.re {xs : List Blk} (h : OkF xs) : ∀ x, Re (tgN xs) x → x < xs.length := fun x hx => by
  induction hx with
  | root => exact h.n1
  | step _ ht ih => exact h.tg _ ih _ ht
theorem OkF.top {xs : List Blk} (h : OkF xs) : (∀ x, x ∈ ordP xs ↔ Re (tgN xs) x) ∧ (∀ x, hasN (seaP xs).1 x = true ↔ Re (tgN xs) x) ∧ (ordP xs).Nodup ∧ ∀ x a, Dom (tgN xs) a x → a ≠ x → Bef (ordP xs) a x := by
  obtain ⟨h1, h2, h3, h4⟩ := dfs_top h.tg h.n1 (Nat.le_refl xs.length)
  refine ⟨fun x => ?_, h2, ?_, fun x a hd hne => bef_reverse (h4 x a hd hne)⟩
  · show x ∈ (seaP xs).2.reverse ↔ _
    rw [List.mem_reverse]; exact h1 x
  · show ((seaP xs).2.reverse).Nodup
    exact List.pairwise_reverse.2 (h3.imp (fun hne e => hne e.symm))
theorem OkF.av {xs : List Blk} (h : OkF xs) {Ws : Nat → Nat → Nat} (hw : ∀ b, b < xs.length → ∀ x, x < xs.length → (hasN (Ws b) x = true ↔ Sp (Iav xs.length) (Tse xs.length) (· ∈ ordP xs) (fun b => ((List.range xs.length).map (predN xs xs.length)).getD b []) b x)) : ∀ b, b < xs.length → ∀ x, x < xs.length → (hasN (Ws b) x = true ↔ Av (tgN xs) x b) := fun b hb x hx => by
  rw [hw b hb x hx]
  refine sp_av (n := xs.length) (fun b x hx => iav_has hx) (fun b x _ hb => tse_has hb) (fun b => h.top.1 b) h.re (fun b s hb => ?_) hx
  have e : ((List.range xs.length).map (predN xs xs.length)).getD b [] = predN xs xs.length b := by simp [hb]
  rw [e]
  exact predN_mem
theorem OkF.idm {xs : List Blk} (h : OkF xs) {Ws : Nat → Nat → Nat} (hw : ∀ b, b < xs.length → ∀ x, x < xs.length → (hasN (Ws b) x = true ↔ Sp (Iav xs.length) (Tse xs.length) (· ∈ ordP xs) (fun b => ((List.range xs.length).map (predN xs xs.length)).getD b []) b x)) : IsIdm (tgN xs) xs.length ((List.range xs.length).map (nrF Ws (ordP xs) (ordP xs).length)) := near_isIdm h.top.2.2.1 h.top.1 h.re h.top.2.2.2 (h.av hw)
theorem OkF.ord_len {xs : List Blk} (h : OkF xs) : 0 < (ordP xs).length ∧ (ordP xs).length ≤ xs.length ∧ ∀ b ∈ ordP xs, b < xs.length :=
  ⟨List.length_pos_of_mem ((h.top.1 0).2 Re.root), nodup_le h.top.2.2.1 (fun x hx => h.re x ((h.top.1 x).1 hx)), fun b hb => h.re b ((h.top.1 b).1 hb)⟩
theorem isIdm_lt {tg : Nat → List Nat} {n : Nat} {P : List Int} (h : IsIdm tg n P) (hn : ∀ x, Re tg x → x < n) : ∀ p ∈ P, -1 ≤ p ∧ p < n := fun p hp => by
  obtain ⟨i, hi, rfl⟩ := List.getElem_of_mem hp
  have e : P.getD i 0 = P[i] := by simp [hi]
  rw [← e]
  rcases h.get i (by rw [← h.len]; exact hi) with ⟨a, ha, ea⟩ | ⟨_, ea⟩
  · have := hn a ha.dom.ra
    omega
  · omega
end Go.Proofs.YtlmaodcddbkllaaDoor
