import Derived.Test.YtanaeindldcapaaDoorMem
import Derived.Laws.BitsAllLaws
namespace Go.Proofs.YtanaeindldcapaaDoor
open Go.RowKit
def hasN (W : Nat → Nat) (x : Nat) : Bool := (W (x / 64)).testBit (x % 64)
def addN (W : Nat → Nat) (x : Nat) : Nat → Nat := fun i => if i = x / 64 then W i ||| 2 ^ (x % 64) else W i
def WdOk (W : Nat → Nat) : Prop := ∀ i, W i < 18446744073709551616
theorem has_none (x : Nat) : hasN (fun _ => 0) x = false := by simp [hasN]
theorem has_add (W : Nat → Nat) (x y : Nat) : hasN (addN W x) y = (decide (y = x) || hasN W y) := by
  unfold hasN addN
  by_cases h : y / 64 = x / 64
  · rw [if_pos h, Nat.testBit_or, Nat.testBit_two_pow]
    by_cases e : x % 64 = y % 64
    · have : y = x := by omega
      simp [this]
    · have : ¬ y = x := fun h2 => e (by rw [h2])
      simp [this, e]
  · rw [if_neg h]
    have : ¬ y = x := fun h2 => h (by rw [h2])
    simp [this]
theorem add_wd {W : Nat → Nat} (h : WdOk W) (x : Nat) : WdOk (addN W x) := fun i => by
  unfold addN
  split
  · exact Nat.or_lt_two_pow (n := 64) (h i) (Nat.pow_lt_pow_right (by decide) (Nat.mod_lt _ (by decide)))
  · exact h i
/-- What a word takes of another but for what a third holds back. -/
def moreN (S O T : Nat → Nat) (i : Nat) : Nat := (O i &&& (18446744073709551615 - T i)) &&& (18446744073709551615 - S i)
def butN (S O T : Nat → Nat) (i : Nat) : Nat := S i ||| moreN S O T i
theorem not_bit {a t : Nat} (ha : a < 18446744073709551616) (ht : t < 64) : (18446744073709551615 - a).testBit t = !a.testBit t := by
  have := Nat.testBit_two_pow_sub_succ (n := 64) (x := a) ha t
  rw [show 18446744073709551615 - a = 2 ^ 64 - (a + 1) by omega, this]
  simp [ht]
theorem more_bit {S O T : Nat → Nat} (hS : WdOk S) (hT : WdOk T) (i : Nat) {t : Nat} (ht : t < 64) : (moreN S O T i).testBit t = ((O i).testBit t && !(T i).testBit t && !(S i).testBit t) := by
  unfold moreN
  rw [Nat.testBit_and, Nat.testBit_and, not_bit (hT i) ht, not_bit (hS i) ht]
theorem more_lt {S O T : Nat → Nat} (hO : WdOk O) (i : Nat) : moreN S O T i < 18446744073709551616 := Nat.lt_of_le_of_lt (Nat.le_trans Nat.and_le_left Nat.and_le_left) (hO i)
theorem but_wd {S O T : Nat → Nat} (hS : WdOk S) (hO : WdOk O) : WdOk (butN S O T) := fun i => Nat.or_lt_two_pow (n := 64) (hS i) (more_lt hO i)
theorem has_but {S O T : Nat → Nat} (hS : WdOk S) (hT : WdOk T) (x : Nat) : hasN (butN S O T) x = (hasN S x || (hasN O x && !hasN T x)) := by
  unfold hasN butN
  rw [Nat.testBit_or, more_bit hS hT _ (Nat.mod_lt _ (by decide))]
  cases (S (x / 64)).testBit (x % 64) <;> simp
theorem more_some {S O T : Nat → Nat} (hS : WdOk S) (hO : WdOk O) (hT : WdOk T) (i : Nat) (h : moreN S O T i ≠ 0) : ∃ x, x / 64 = i ∧ hasN O x = true ∧ hasN T x = false ∧ hasN S x = false := by
  obtain ⟨t, ht⟩ := Nat.exists_testBit_of_ne_zero h
  have h64 : t < 64 := by
    rcases Nat.lt_or_ge t 64 with h1 | h1
    · exact h1
    · have := Nat.testBit_lt_two_pow (Nat.lt_of_lt_of_le (more_lt (S := S) (T := T) hO i) (Nat.pow_le_pow_right (by decide) h1 : 2 ^ 64 ≤ 2 ^ t))
      rw [this] at ht
      cases ht
  rw [more_bit hS hT _ h64] at ht
  simp only [Bool.and_eq_true, Bool.not_eq_true'] at ht
  refine ⟨64 * i + t, by omega, ?_, ?_, ?_⟩
  · unfold hasN; rw [show (64 * i + t) / 64 = i by omega, show (64 * i + t) % 64 = t by omega]; exact ht.1.1
  · unfold hasN; rw [show (64 * i + t) / 64 = i by omega, show (64 * i + t) % 64 = t by omega]; exact ht.1.2
  · unfold hasN; rw [show (64 * i + t) / 64 = i by omega, show (64 * i + t) % 64 = t by omega]; exact ht.2
theorem more_none {S O T : Nat → Nat} (hS : WdOk S) (hT : WdOk T) {x : Nat} (h : moreN S O T (x / 64) = 0) (h1 : hasN O x = true) (h2 : hasN T x = false) : hasN S x = true := by
  have := more_bit (O := O) hS hT (x / 64) (Nat.mod_lt x (show 0 < 64 by decide))
  rw [h, Nat.zero_testBit] at this
  unfold hasN at *
  rw [h1, h2] at this
  cases hs : (S (x / 64)).testBit (x % 64) with
  | true => rfl
  | false => rw [hs] at this; cases this
/-- Whether the set grows. -/
def grewN (S O T : Nat → Nat) (K : Nat) : Bool := (List.range K).any fun i => moreN S O T i != 0
theorem grew_zero (S O T : Nat → Nat) : grewN S O T 0 = false := rfl
theorem grew_succ (S O T : Nat → Nat) (K : Nat) : grewN S O T (K + 1) = (grewN S O T K || (moreN S O T K != 0)) := by
  unfold grewN
  rw [List.range_succ, List.any_append]
  simp
theorem grew_yes {S O T : Nat → Nat} {K : Nat} (hS : WdOk S) (hO : WdOk O) (hT : WdOk T) (h : grewN S O T K = true) : ∃ x, x < 64 * K ∧ hasN O x = true ∧ hasN T x = false ∧ hasN S x = false := by
  obtain ⟨i, hi, hm⟩ := List.any_eq_true.1 h
  obtain ⟨x, h1, h2⟩ := more_some hS hO hT i (by simpa using hm)
  have := List.mem_range.1 hi
  exact ⟨x, by omega, h2⟩
theorem grew_no {S O T : Nat → Nat} {K : Nat} (hS : WdOk S) (hT : WdOk T) (h : grewN S O T K = false) {x : Nat} (hx : x < 64 * K) (h1 : hasN O x = true) (h2 : hasN T x = false) : hasN S x = true := by
  refine more_none hS hT ?_ h1 h2
  have := List.any_eq_false.1 h (x / 64) (List.mem_range.2 (by omega))
  simpa using this
def addsN (W : Nat → Nat) (ts : List Nat) : Nat → Nat := ts.foldl addN W
theorem adds_take {W : Nat → Nat} {ts : List Nat} {q : Nat} (h : q < ts.length) : addsN W (ts.take (q + 1)) = addN (addsN W (ts.take q)) ts[q] := by
  unfold addsN
  rw [List.take_succ_eq_append_getElem h, List.foldl_append]
  rfl
theorem adds_wd : ∀ (ts : List Nat) {W : Nat → Nat}, WdOk W → WdOk (addsN W ts)
  | [], _, h => h
  | t :: ts, _, h => adds_wd ts (add_wd h t)
theorem has_adds : ∀ (ts : List Nat) (W : Nat → Nat) (y : Nat), hasN (addsN W ts) y = (decide (y ∈ ts) || hasN W y)
  | [], W, y => by simp [addsN]
  | t :: ts, W, y => by
    show hasN (addsN (addN W t) ts) y = _
    rw [has_adds ts, has_add]
    by_cases h1 : y = t
    · simp [h1]
    · by_cases h2 : y ∈ ts <;> simp [h1, h2]
theorem ret_boolN {a b : Bool} (h : a = b) : Ending.returned (.bool a) = Ending.returned (.bool b) := by rw [h]
theorem quoN (x : Nat) : (x : Int).tdiv 64 = ((x / 64 : Nat) : Int) := by rw [Int.tdiv_eq_ediv_of_nonneg (by omega)]; omega
theorem remN (x : Nat) : (x : Int).tmod 64 = ((x % 64 : Nat) : Int) := by rw [Int.tmod_eq_emod_of_nonneg (by omega)]; omega
theorem hasN_bit {W t : Nat} (hW : W < 18446744073709551616) : (bits .and .u64 ((W : Int) / 2 ^ t) 1 == 1) = W.testBit t := by
  have hq : W / 2 ^ t < 18446744073709551616 := Nat.lt_of_le_of_lt (Nat.div_le_self _ _) hW
  have e : ((W : Int) / 2 ^ t) = ((W / 2 ^ t : Nat) : Int) := by simp
  rw [e, show (1 : Int) = ((1 : Nat) : Int) from rfl, u64_and_nat _ _ hq (by decide), Nat.and_one_is_mod, Nat.testBit_eq_decide_div_mod_eq]
  by_cases h : W / 2 ^ t % 2 = 1
  · simp [h]
  · have h0 : W / 2 ^ t % 2 = 0 := by omega
    simp [h0]
theorem orN_bit {W t : Nat} (ht : t < 64) (hW : W < 18446744073709551616) : bits .or .u64 (W : Int) (IntKind.u64.wrap (2 ^ t)) = ((W ||| 2 ^ t : Nat) : Int) := by
  have h2 : 2 ^ t < 18446744073709551616 := Nat.lt_of_lt_of_le (Nat.pow_lt_pow_right (by decide) ht) (by decide)
  have e : IntKind.u64.wrap (2 ^ t) = ((2 ^ t : Nat) : Int) := by
    rw [IntKind.wrap_u64]
    have : ((2 ^ t : Nat) : Int) = (2 : Int) ^ t := by simp
    rw [← this]
    exact Int.emod_eq_of_lt (Int.natCast_nonneg _) (Int.ofNat_lt.2 h2)
  rw [e, u64_or_nat _ _ hW h2]
def dfsV (tg : Nat → List Nat) : Nat → Nat → (Nat → Nat) × List Nat → (Nat → Nat) × List Nat
  | 0, _, s => s
  | m + 1, b, s => if hasN s.1 b = true then s else
    (((tg b).foldl (fun s t => dfsV tg m t s) (addN s.1 b, s.2)).1, ((tg b).foldl (fun s t => dfsV tg m t s) (addN s.1 b, s.2)).2 ++ [b])
/-- The targets of a block, as numbers. -/
def tgN (xs : List Blk) (b : Nat) : List Nat := match xs[b]? with
  | some x => x.term.targets.map Int.toNat
  | none => []
theorem tgN_at {xs : List Blk} {b : Nat} (h : b < xs.length) : tgN xs b = xs[b].term.targets.map Int.toNat := by
  unfold tgN
  rw [List.getElem?_eq_getElem h]
/-- How many blocks the search has not seen. -/
def unseen (W : Nat → Nat) (n : Nat) : Nat := ((List.range n).filter fun x => !hasN W x).length
theorem unseen_mono {W W' : Nat → Nat} (n : Nat) (h : ∀ x, hasN W x = true → hasN W' x = true) : unseen W' n ≤ unseen W n := by
  unfold unseen
  rw [← List.countP_eq_length_filter, ← List.countP_eq_length_filter]
  refine List.countP_mono_left (fun x _ hx => ?_)
  cases h1 : hasN W x with
  | false => rfl
  | true => rw [h x h1] at hx; cases hx
theorem unseen_zero {W : Nat → Nat} {n b : Nat} (h : unseen W n = 0) (hb : b < n) : hasN W b = true := by
  unfold unseen at h
  have := List.filter_eq_nil_iff.1 (List.length_eq_zero_iff.1 h) b (List.mem_range.2 hb)
  simpa using this
theorem unseen_add {W : Nat → Nat} {n b : Nat} (hb : b < n) (hs : hasN W b = false) : unseen (addN W b) n + 1 ≤ unseen W n := by
  have key : ∀ n, unseen (addN W b) n + (if b < n then 1 else 0) ≤ unseen W n := fun n => by
    induction n with
    | zero => simp [unseen]
    | succ n ih =>
      unfold unseen at *
      rw [List.range_succ, List.filter_append, List.filter_append, List.length_append, List.length_append]
      by_cases e : n = b
      · subst e
        rw [if_neg (by omega)] at ih
        rw [if_pos (by omega)]
        have h1 : ([n].filter fun x => !hasN (addN W n) x).length = 0 := by simp [has_add]
        have h2 : ([n].filter fun x => !hasN W x).length = 1 := by simp [hs]
        omega
      · have h1 : ([n].filter fun x => !hasN (addN W b) x).length = ([n].filter fun x => !hasN W x).length := by
          congr 1
          refine List.filter_congr (fun x hx => ?_)
          have : x = n := by simpa using hx
          subst this
          rw [has_add, decide_eq_false e, Bool.false_or]
        by_cases hl : b < n
        · rw [if_pos hl] at ih; rw [if_pos (by omega)]; omega
        · rw [if_neg hl] at ih; rw [if_neg (by omega)]; omega
  have := key n
  rw [if_pos hb] at this
  exact this
/-- What is seen stays seen. -/
theorem dfs_mono (tg : Nat → List Nat) : ∀ (m b : Nat) (s : (Nat → Nat) × List Nat) (x : Nat), hasN s.1 x = true → hasN (dfsV tg m b s).1 x = true
  | 0, _, _, _, h => h
  | m + 1, b, s, x, h => by
    rw [dfsV]
    split
    · exact h
    · have key : ∀ (l : List Nat) (s : (Nat → Nat) × List Nat), hasN s.1 x = true → hasN (l.foldl (fun s t => dfsV tg m t s) s).1 x = true := fun l => by
        induction l with
        | nil => intro s h; exact h
        | cons t l ih => intro s h; exact ih _ (dfs_mono tg m t s x h)
      exact key _ _ (by rw [has_add, h]; simp)
theorem dfs_wd (tg : Nat → List Nat) : ∀ (m b : Nat) (s : (Nat → Nat) × List Nat), WdOk s.1 → WdOk (dfsV tg m b s).1
  | 0, _, _, h => h
  | m + 1, b, s, h => by
    rw [dfsV]
    split
    · exact h
    · have key : ∀ (l : List Nat) (s : (Nat → Nat) × List Nat), WdOk s.1 → WdOk (l.foldl (fun s t => dfsV tg m t s) s).1 := fun l => by
        induction l with
        | nil => intro s h; exact h
        | cons t l ih => intro s h; exact ih _ (dfs_wd tg m t s h)
      exact key _ _ (add_wd h b)
theorem fold_mono (tg : Nat → List Nat) (m : Nat) (l : List Nat) (s : (Nat → Nat) × List Nat) (x : Nat) (h : hasN s.1 x = true) : hasN (l.foldl (fun s t => dfsV tg m t s) s).1 x = true := by
  induction l generalizing s with
  | nil => exact h
  | cons t l ih => exact ih _ (dfs_mono tg m t s x h)
theorem fold_wd (tg : Nat → List Nat) (m : Nat) (l : List Nat) (s : (Nat → Nat) × List Nat) (h : WdOk s.1) : WdOk (l.foldl (fun s t => dfsV tg m t s) s).1 := by
  induction l generalizing s with
  | nil => exact h
  | cons t l ih => exact ih _ (dfs_wd tg m t s h)
/-- The blocks that are left are no more than those that are seen. -/
theorem dfs_len (tg : Nat → List Nat) (n : Nat) (ht : ∀ b, b < n → ∀ t ∈ tg b, t < n) : ∀ (m b : Nat) (s : (Nat → Nat) × List Nat), b < n → (dfsV tg m b s).2.length + unseen (dfsV tg m b s).1 n ≤ s.2.length + unseen s.1 n
  | 0, _, _, _ => Nat.le_refl _
  | m + 1, b, s, hb => by
    rw [dfsV]
    split
    · exact Nat.le_refl _
    · rename_i hs
      have hs' : hasN s.1 b = false := by simpa using hs
      have h1 := unseen_add hb hs'
      have key : ∀ (l : List Nat) (s : (Nat → Nat) × List Nat), (∀ t ∈ l, t < n) → (l.foldl (fun s t => dfsV tg m t s) s).2.length + unseen (l.foldl (fun s t => dfsV tg m t s) s).1 n ≤ s.2.length + unseen s.1 n := fun l => by
        induction l with
        | nil => intro s _; exact Nat.le_refl _
        | cons t l ih =>
          intro s h
          exact Nat.le_trans (ih _ (fun x hx => h x (List.mem_cons_of_mem _ hx))) (dfs_len tg n ht m t s (h t List.mem_cons_self))
      have h2 := key (tg b) (addN s.1 b, s.2) (ht b hb)
      rw [List.length_append]
      dsimp only at h2 ⊢
      simp only [List.length_cons, List.length_nil]
      omega
theorem fold_len (tg : Nat → List Nat) (n : Nat) (ht : ∀ b, b < n → ∀ t ∈ tg b, t < n) (m : Nat) (l : List Nat) (s : (Nat → Nat) × List Nat) (h : ∀ t ∈ l, t < n) : (l.foldl (fun s t => dfsV tg m t s) s).2.length + unseen (l.foldl (fun s t => dfsV tg m t s) s).1 n ≤ s.2.length + unseen s.1 n := by
  induction l generalizing s with
  | nil => exact Nat.le_refl _
  | cons t l ih => exact Nat.le_trans (ih _ (fun x hx => h x (List.mem_cons_of_mem _ hx))) (dfs_len tg n ht m t s (h t List.mem_cons_self))
theorem dfs_go {tg : Nat → List Nat} {m b : Nat} {s : (Nat → Nat) × List Nat} (h : hasN s.1 b = false) : dfsV tg (m + 1) b s = (((tg b).foldl (fun s t => dfsV tg m t s) (addN s.1 b, s.2)).1, ((tg b).foldl (fun s t => dfsV tg m t s) (addN s.1 b, s.2)).2 ++ [b]) := by
  rw [dfsV, if_neg (by rw [h]; decide)]
theorem dfs_stop {tg : Nat → List Nat} {m b : Nat} {s : (Nat → Nat) × List Nat} (h : hasN s.1 b = true) : dfsV tg m b s = s := by
  cases m with
  | zero => rfl
  | succ m => rw [dfsV, if_pos h]
end Go.Proofs.YtanaeindldcapaaDoor
