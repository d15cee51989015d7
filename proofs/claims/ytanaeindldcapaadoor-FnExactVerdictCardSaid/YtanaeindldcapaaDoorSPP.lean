import Derived.Test.YtanaeindldcapaaDoorNSP
namespace Go.Proofs.YtanaeindldcapaaDoor
/-- What must be in the sets in the end: what was there, and what a source has and no stop holds back. -/
inductive Sp (I : Nat → Nat → Nat) (T : Nat → Nat → Nat) (ord : Nat → Prop) (src : Nat → List Nat) : Nat → Nat → Prop
  | init {b x : Nat} : hasN (I b) x = true → Sp I T ord src b x
  | take {b s x : Nat} : ord b → s ∈ src b → Sp I T ord src s x → hasN (T b) x = false → Sp I T ord src b x
/-- The set of block b takes from the set of s. -/
def takeN (T : Nat → Nat → Nat) (b s : Nat) (W : Nat → Nat → Nat) : Nat → Nat → Nat := fun i => if i = b then butN (W b) (W s) (T b) else W i
/-- It takes from each of a list, and whether it grows. -/
def takesN (T : Nat → Nat → Nat) (K b : Nat) (l : List Nat) (s : (Nat → Nat → Nat) × Bool) : (Nat → Nat → Nat) × Bool :=
  l.foldl (fun s t => (takeN T b t s.1, grewN (s.1 b) (s.1 t) (T b) K || s.2)) s
theorem takes_take {T : Nat → Nat → Nat} {K b : Nat} {l : List Nat} {q : Nat} (h : q < l.length) (s : (Nat → Nat → Nat) × Bool) : takesN T K b (l.take (q + 1)) s = (takeN T b l[q] (takesN T K b (l.take q) s).1, grewN ((takesN T K b (l.take q) s).1 b) ((takesN T K b (l.take q) s).1 l[q]) (T b) K || (takesN T K b (l.take q) s).2) := by
  unfold takesN
  rw [List.take_succ_eq_append_getElem h, List.foldl_append]
  rfl
def AllWd (W : Nat → Nat → Nat) : Prop := ∀ i, WdOk (W i)
theorem take_wd {T W : Nat → Nat → Nat} (b s : Nat) (h : AllWd W) : AllWd (takeN T b s W) := fun i => by
  unfold takeN
  split
  · exact but_wd (h b) (h s)
  · exact h i
theorem take_has {T W : Nat → Nat → Nat} (b s : Nat) (h : AllWd W) (hT : AllWd T) (i x : Nat) : hasN (takeN T b s W i) x = (hasN (W i) x || (decide (i = b) && hasN (W s) x && !hasN (T b) x)) := by
  unfold takeN
  by_cases e : i = b
  · subst e
    rw [if_pos rfl, has_but (h i) (hT i)]
    simp
  · rw [if_neg e]; simp [e]
theorem takes_wd {T : Nat → Nat → Nat} {K b : Nat} : ∀ (l : List Nat) (s : (Nat → Nat → Nat) × Bool), AllWd s.1 → AllWd (takesN T K b l s).1
  | [], _, h => h
  | t :: l, _, h => takes_wd l _ (take_wd b t h)
theorem takes_mono {T : Nat → Nat → Nat} {K b : Nat} (hT : AllWd T) : ∀ (l : List Nat) (s : (Nat → Nat → Nat) × Bool), AllWd s.1 → ∀ i x, hasN (s.1 i) x = true → hasN ((takesN T K b l s).1 i) x = true
  | [], _, _, _, _, h => h
  | t :: l, s, hs, i, x, h => takes_mono hT l _ (take_wd b t hs) i x (by show hasN (takeN T b t s.1 i) x = true; rw [take_has b t hs hT, h]; rfl)
theorem takes_sound {I T : Nat → Nat → Nat} {K b : Nat} {ord : Nat → Prop} {src : Nat → List Nat} (hT : AllWd T) (hb : ord b) : ∀ (l : List Nat) (s : (Nat → Nat → Nat) × Bool), AllWd s.1 → (∀ t ∈ l, t ∈ src b) → (∀ i x, hasN (s.1 i) x = true → Sp I T ord src i x) → ∀ i x, hasN ((takesN T K b l s).1 i) x = true → Sp I T ord src i x
  | [], _, _, _, h => h
  | t :: l, s, hs, hl, h => takes_sound hT hb l _ (take_wd b t hs) (fun u hu => hl u (List.mem_cons_of_mem _ hu)) (fun i x hx => by
      have hx' : hasN (takeN T b t s.1 i) x = true := hx
      rw [take_has b t hs hT] at hx'
      cases hi : hasN (s.1 i) x with
      | true => exact h i x hi
      | false =>
        rw [hi] at hx'
        simp only [Bool.false_or, Bool.and_eq_true, decide_eq_true_eq, Bool.not_eq_true'] at hx'
        obtain ⟨⟨rfl, h2⟩, h3⟩ := hx'
        exact Sp.take hb (hl t List.mem_cons_self) (h t x h2) h3)
/-- Once it has grown it has grown. -/
theorem takes_flag {T : Nat → Nat → Nat} {K b : Nat} : ∀ (l : List Nat) (s : (Nat → Nat → Nat) × Bool), s.2 = true → (takesN T K b l s).2 = true
  | [], _, h => h
  | t :: l, s, h => takes_flag l _ (by show (_ || s.2) = true; rw [h]; simp)
/-- Nothing grew: nothing turned (below 64 K), and the block is closed. -/
theorem takes_quiet {T : Nat → Nat → Nat} {K b : Nat} (hT : AllWd T) : ∀ (l : List Nat) (s : (Nat → Nat → Nat) × Bool), AllWd s.1 → (takesN T K b l s).2 = false → (∀ i x, x < 64 * K → hasN ((takesN T K b l s).1 i) x = hasN (s.1 i) x) ∧ ∀ t ∈ l, ∀ x, x < 64 * K → hasN (s.1 t) x = true → hasN (T b) x = false → hasN (s.1 b) x = true
  | [], _, _, _ => ⟨fun _ _ _ => rfl, fun t ht => by cases ht⟩
  | t :: l, s, hs, hq => by
    have hg : (grewN (s.1 b) (s.1 t) (T b) K || s.2) = false := by
      cases e : (grewN (s.1 b) (s.1 t) (T b) K || s.2) with
      | false => rfl
      | true => have := takes_flag (T := T) (K := K) (b := b) l (takeN T b t s.1, grewN (s.1 b) (s.1 t) (T b) K || s.2) e; rw [show takesN T K b (t :: l) s = takesN T K b l (takeN T b t s.1, grewN (s.1 b) (s.1 t) (T b) K || s.2) from rfl, this] at hq; cases hq
    have hg1 : grewN (s.1 b) (s.1 t) (T b) K = false := by
      cases e : grewN (s.1 b) (s.1 t) (T b) K with
      | false => rfl
      | true => rw [e] at hg; cases hg
    have hcl : ∀ x, x < 64 * K → hasN (s.1 t) x = true → hasN (T b) x = false → hasN (s.1 b) x = true := fun x hx h1 h2 => grew_no (hs b) (hT b) hg1 hx h1 h2
    have hsame : ∀ i x, x < 64 * K → hasN (takeN T b t s.1 i) x = hasN (s.1 i) x := fun i x hx => by
      rw [take_has b t hs hT]
      by_cases e : i = b
      · subst e
        cases h1 : hasN (s.1 t) x with
        | false => simp
        | true =>
          cases h2 : hasN (T i) x with
          | true => simp
          | false => rw [hcl x hx h1 h2]; rfl
      · simp [e]
    obtain ⟨h1, h2⟩ := takes_quiet hT l (takeN T b t s.1, grewN (s.1 b) (s.1 t) (T b) K || s.2) (take_wd b t hs) hq
    refine ⟨fun i x hx => (h1 i x hx).trans (hsame i x hx), fun u hu x hx hxu hxT => ?_⟩
    rcases List.mem_cons.1 hu with rfl | hu
    · exact hcl x hx hxu hxT
    · have := h2 u hu x hx (by rw [hsame u x hx]; exact hxu) hxT
      rw [hsame b x hx] at this
      exact this
/-- It grew: fewer are missing. -/
theorem takes_grew {T : Nat → Nat → Nat} {K b : Nat} (hT : AllWd T) : ∀ (l : List Nat) (s : (Nat → Nat → Nat) × Bool), AllWd s.1 → s.2 = false → (takesN T K b l s).2 = true → unseen ((takesN T K b l s).1 b) (64 * K) < unseen (s.1 b) (64 * K)
  | [], s, _, h0, h1 => by rw [show takesN T K b [] s = s from rfl, h0] at h1; cases h1
  | t :: l, s, hs, h0, h1 => by
    cases hg : grewN (s.1 b) (s.1 t) (T b) K with
    | false =>
      have e : takesN T K b (t :: l) s = takesN T K b l (takeN T b t s.1, false) := by show takesN T K b l (takeN T b t s.1, grewN (s.1 b) (s.1 t) (T b) K || s.2) = _; rw [hg, h0]; rfl
      rw [e] at h1 ⊢
      refine Nat.lt_of_lt_of_le (takes_grew hT l (takeN T b t s.1, false) (take_wd b t hs) rfl h1) ?_
      exact unseen_mono _ (fun x hx => by show hasN (takeN T b t s.1 b) x = true; rw [take_has b t hs hT, hx]; rfl)
    | true =>
      obtain ⟨x, hx, h2, h3, h4⟩ := grew_yes (hs b) (hs t) (hT b) hg
      have key : ∀ W' : Nat → Nat, (∀ y, hasN (s.1 b) y = true → hasN W' y = true) → hasN W' x = true → unseen W' (64 * K) < unseen (s.1 b) (64 * K) := fun W' hm hw => by
        have h5 := unseen_add hx h4
        have h6 : unseen W' (64 * K) ≤ unseen (addN (s.1 b) x) (64 * K) := unseen_mono _ (fun y hy => by
          rw [has_add] at hy
          cases hyx : decide (y = x) with
          | true => rw [of_decide_eq_true hyx]; exact hw
          | false => rw [hyx, Bool.false_or] at hy; exact hm y hy)
        omega
      refine key _ (fun y hy => takes_mono hT (t :: l) s hs b y hy) ?_
      refine takes_mono hT l (takeN T b t s.1, grewN (s.1 b) (s.1 t) (T b) K || s.2) (take_wd b t hs) b x ?_
      show hasN (takeN T b t s.1 b) x = true
      rw [take_has b t hs hT, h2, h3]
      simp
theorem takes_other {T : Nat → Nat → Nat} {K b i : Nat} (h : i ≠ b) : ∀ (l : List Nat) (s : (Nat → Nat → Nat) × Bool), (takesN T K b l s).1 i = s.1 i
  | [], _ => rfl
  | t :: l, s => (takes_other h l _).trans (by show takeN T b t s.1 i = _; unfold takeN; rw [if_neg h])
/-- Closed everywhere: the sets are what they must be. -/
theorem spread_done {I T W : Nat → Nat → Nat} {K : Nat} {ord : Nat → Prop} {src : Nat → List Nat} (hI : ∀ b x, hasN (I b) x = true → hasN (W b) x = true) (hS : ∀ b x, hasN (W b) x = true → Sp I T ord src b x) (hC : ∀ b, ord b → ∀ t ∈ src b, ∀ x, x < 64 * K → hasN (W t) x = true → hasN (T b) x = false → hasN (W b) x = true) (b x : Nat) (hx : x < 64 * K) : hasN (W b) x = true ↔ Sp I T ord src b x := by
  refine ⟨hS b x, fun h => ?_⟩
  induction h with
  | init h => exact hI _ _ h
  | take hb hs _ ht ih => exact hC _ hb _ hs _ hx (ih hx) ht
theorem unseen_congr {W W' : Nat → Nat} (n : Nat) (h : ∀ x, x < n → hasN W' x = hasN W x) : unseen W' n = unseen W n := by
  unfold unseen
  congr 1
  exact List.filter_congr (fun x hx => by rw [h x (List.mem_range.1 hx)])
/-- How much is missing in all sets. -/
def misN (W : Nat → Nat → Nat) (K : Nat) : Nat → Nat
  | 0 => 0
  | n + 1 => misN W K n + unseen (W n) (64 * K)
theorem mis_same {W W' : Nat → Nat → Nat} {K : Nat} : ∀ n, (∀ i, i < n → unseen (W' i) (64 * K) = unseen (W i) (64 * K)) → misN W' K n = misN W K n
  | 0, _ => rfl
  | n + 1, h => by rw [misN, misN, mis_same n (fun i hi => h i (by omega)), h n (by omega)]
theorem mis_less {W W' : Nat → Nat → Nat} {K b : Nat} (ho : ∀ i, i ≠ b → W' i = W i) (hb : unseen (W' b) (64 * K) < unseen (W b) (64 * K)) : ∀ n, b < n → misN W' K n < misN W K n
  | 0, h => absurd h (by omega)
  | n + 1, h => by
    rw [misN, misN]
    by_cases e : n = b
    · subst e
      rw [mis_same n (fun i hi => by rw [ho i (by omega)])]
      omega
    · rw [ho n e]
      have := mis_less ho hb n (by omega)
      omega
/-- Block b has all that it must take. -/
def ClB (T : Nat → Nat → Nat) (K : Nat) (src : Nat → List Nat) (W : Nat → Nat → Nat) (b : Nat) : Prop := ∀ t ∈ src b, ∀ x, x < 64 * K → hasN (W t) x = true → hasN (T b) x = false → hasN (W b) x = true
theorem cl_same {T : Nat → Nat → Nat} {K : Nat} {src : Nat → List Nat} {W W' : Nat → Nat → Nat} {b : Nat} (h : ClB T K src W b) (e : ∀ i x, x < 64 * K → hasN (W' i) x = hasN (W i) x) : ClB T K src W' b := fun t ht x hx h1 h2 => by
  rw [e _ _ hx] at h1 ⊢
  exact h t ht x hx h1 h2
/-- The blocks at the last q places of the round, ahead of place p, have all that they must take. -/
def ClQ (T : Nat → Nat → Nat) (K : Nat) (src : Nat → List Nat) (W : Nat → Nat → Nat) (R : List Nat) (q p : Nat) : Prop := ∀ j, j < q → ClB T K src W (R.getD ((p + R.length - 1 - j) % R.length) 0)
theorem clq_none {T : Nat → Nat → Nat} {K : Nat} {src : Nat → List Nat} {W : Nat → Nat → Nat} {R : List Nat} {p : Nat} : ClQ T K src W R 0 p := fun j hj => absurd hj (by omega)
theorem clq_next {T : Nat → Nat → Nat} {K : Nat} {src : Nat → List Nat} {W W' : Nat → Nat → Nat} {R : List Nat} {q p : Nat} (h : ClQ T K src W R q p) (e : ∀ i x, x < 64 * K → hasN (W' i) x = hasN (W i) x) (hp : p < R.length) (hb : ClB T K src W R[p]) : ClQ T K src W' R (q + 1) (p + 1) := fun j hj => by
  refine cl_same ?_ e
  cases j with
  | zero =>
    have : (p + 1 + R.length - 1 - 0) % R.length = p := by
      rw [show p + 1 + R.length - 1 - 0 = p + R.length by omega, Nat.add_mod_right, Nat.mod_eq_of_lt hp]
    rw [this, show R.getD p 0 = R[p] by simp [hp]]
    exact hb
  | succ j =>
    rw [show p + 1 + R.length - 1 - (j + 1) = p + R.length - 1 - j by omega]
    exact h j (by omega)
theorem clq_wrap {T : Nat → Nat → Nat} {K : Nat} {src : Nat → List Nat} {W : Nat → Nat → Nat} {R : List Nat} {q : Nat} (h : ClQ T K src W R q R.length) (hq : q < R.length) : ClQ T K src W R q 0 := fun j hj => by
  have := h j hj
  rw [show R.length + R.length - 1 - j = (0 + R.length - 1 - j) + R.length by omega, Nat.add_mod_right] at this
  exact this
theorem clq_all {T : Nat → Nat → Nat} {K : Nat} {src : Nat → List Nat} {W : Nat → Nat → Nat} {R : List Nat} {p : Nat} (h : ClQ T K src W R R.length p) (hp : p ≤ R.length) {b : Nat} (hb : b ∈ R) : ClB T K src W b := by
  obtain ⟨i, hi, rfl⟩ := List.getElem_of_mem hb
  have key : (p + R.length - 1 - (p + R.length - 1 - i) % R.length) % R.length = i := by
    by_cases c : i + 1 ≤ p
    · have e1 : (p + R.length - 1 - i) % R.length = p - 1 - i := by
        rw [show p + R.length - 1 - i = (p - 1 - i) + R.length by omega, Nat.add_mod_right, Nat.mod_eq_of_lt (by omega)]
      rw [e1, show p + R.length - 1 - (p - 1 - i) = i + R.length by omega, Nat.add_mod_right, Nat.mod_eq_of_lt hi]
    · have e1 : (p + R.length - 1 - i) % R.length = p + R.length - 1 - i := Nat.mod_eq_of_lt (by omega)
      rw [e1, show p + R.length - 1 - (p + R.length - 1 - i) = i by omega, Nat.mod_eq_of_lt hi]
  have := h ((p + R.length - 1 - i) % R.length) (Nat.mod_lt _ (by omega))
  rw [key, show R.getD i 0 = R[i] by simp [hi]] at this
  exact this
section
/-- A path from block 0 that does not touch a. -/
inductive Av (tg : Nat → List Nat) (a : Nat) : Nat → Prop
  | root : a ≠ 0 → Av tg a 0
  | step {b t : Nat} : Av tg a b → t ∈ tg b → t ≠ a → Av tg a t
inductive Re (tg : Nat → List Nat) : Nat → Prop
  | root : Re tg 0
  | step {b t : Nat} : Re tg b → t ∈ tg b → Re tg t
/-- a dominates b. -/
structure Dom (tg : Nat → List Nat) (a b : Nat) : Prop where
  ra : Re tg a
  rb : Re tg b
  no : ¬ Av tg a b
variable {tg : Nat → List Nat}
theorem av_re {a b : Nat} (h : Av tg a b) : Re tg b := by
  induction h with
  | root => exact Re.root
  | step _ ht _ ih => exact Re.step ih ht
/-- What spread gives of the sets of blocks that are avoided. -/
theorem sp_av {n : Nat} {I T : Nat → Nat → Nat} {ord : Nat → Prop} {src : Nat → List Nat} (hI : ∀ b x, x < n → (hasN (I b) x = true ↔ b = 0 ∧ x ≠ 0)) (hT : ∀ b x, x < n → b < n → (hasN (T b) x = true ↔ x = b)) (ho : ∀ b, ord b ↔ Re tg b) (hon : ∀ b, Re tg b → b < n) (hs : ∀ b s, b < n → (s ∈ src b ↔ s < n ∧ b ∈ tg s)) {b x : Nat} (hx : x < n) : Sp I T ord src b x ↔ Av tg x b := by
  constructor
  · intro h
    induction h with
    | init h =>
      obtain ⟨rfl, h2⟩ := (hI _ _ hx).1 h
      exact Av.root h2
    | @take b s x hb hs' _ ht ih =>
      have hbn := hon b ((ho b).1 hb)
      refine Av.step (ih hx) ((hs b s hbn).1 hs').2 (fun e => ?_)
      have := (hT b x hx hbn).2 e.symm
      rw [this] at ht
      cases ht
  · intro h
    induction h with
    | root h => exact Sp.init ((hI 0 x hx).2 ⟨rfl, h⟩)
    | @step b t hb ht hne ih =>
      have hbr := av_re hb
      have htr := Re.step hbr ht
      refine Sp.take ((ho t).2 htr) ((hs t b (hon t htr)).2 ⟨hon b hbr, ht⟩) ih ?_
      cases e : hasN (T t) x with
      | false => rfl
      | true => exact absurd ((hT t x hx (hon t htr)).1 e) (fun e => hne e.symm)
end
section
variable {tg : Nat → List Nat}
/-- x stands ahead of a in the list. -/
def Bef (l : List Nat) (x a : Nat) : Prop := ∃ l1 l2, l = l1 ++ l2 ∧ x ∈ l1 ∧ a ∈ l2
theorem bef_app {l r : List Nat} {x a : Nat} (h : Bef l x a) : Bef (l ++ r) x a := by
  obtain ⟨l1, l2, rfl, h1, h2⟩ := h
  exact ⟨l1, l2 ++ r, by simp, h1, by simp [h2]⟩
theorem bef_last {l : List Nat} {x b : Nat} (h : x ∈ l) : Bef (l ++ [b]) x b := ⟨l, [b], rfl, h, by simp⟩
/-- P holds all that dominates b, but for b. -/
def Stk (tg : Nat → List Nat) (P : List Nat) (b : Nat) : Prop := ∀ a, Dom tg a b → a ≠ b → a ∈ P
theorem stk_root : Stk tg [] 0 := fun _ h hne => absurd (Av.root hne) h.no
theorem stk_next {P : List Nat} {b t : Nat} (h : Stk tg P b) (hb : Re tg b) (ht : t ∈ tg b) : Stk tg (b :: P) t := fun a ha hne => by
  by_cases e : a = b
  · rw [e]; exact List.mem_cons_self
  · exact List.mem_cons_of_mem _ (h a ⟨ha.ra, hb, fun k => ha.no (Av.step k ht (fun e2 => hne e2.symm))⟩ e)
structure DInv (tg : Nat → List Nat) (P : List Nat) (s : (Nat → Nat) × List Nat) : Prop where
  seen : ∀ x ∈ s.2, hasN s.1 x = true
  nd : s.2.Nodup
  all : ∀ x, hasN s.1 x = true → x ∈ s.2 ∨ x ∈ P
  stk : ∀ x ∈ P, x ∉ s.2 ∧ hasN s.1 x = true
  ord : ∀ x ∈ s.2, ∀ a, Dom tg a x → a ≠ x → a ∈ P ∨ Bef s.2 x a
  re : ∀ x ∈ s.2, Re tg x
  cl : ∀ x ∈ s.2, ∀ t ∈ tg x, hasN s.1 t = true
theorem dinv_push {P : List Nat} {s : (Nat → Nat) × List Nat} {b : Nat} (h : DInv tg P s) (hb : hasN s.1 b = false) : DInv tg (b :: P) (addN s.1 b, s.2) := by
  have mono : ∀ x, hasN s.1 x = true → hasN (addN s.1 b) x = true := fun x hx => by rw [has_add, hx]; simp
  refine ⟨fun x hx => mono x (h.seen x hx), h.nd, fun x hx => ?_, fun x hx => ?_, fun x hx a ha hne => ?_, h.re, fun x hx t ht => mono t (h.cl x hx t ht)⟩
  · rw [has_add] at hx
    by_cases e : x = b
    · exact Or.inr (by rw [e]; exact List.mem_cons_self)
    · rw [decide_eq_false e, Bool.false_or] at hx
      rcases h.all x hx with h1 | h1
      · exact Or.inl h1
      · exact Or.inr (List.mem_cons_of_mem _ h1)
  · rcases List.mem_cons.1 hx with rfl | hx
    · exact ⟨fun k => (by rw [h.seen _ k] at hb; cases hb), by rw [has_add]; simp⟩
    · exact ⟨(h.stk x hx).1, mono x (h.stk x hx).2⟩
  · rcases h.ord x hx a ha hne with h1 | h1
    · exact Or.inl (List.mem_cons_of_mem _ h1)
    · exact Or.inr h1
theorem dinv_pop {P : List Nat} {s : (Nat → Nat) × List Nat} {b : Nat} (h : DInv tg (b :: P) s) (hP : b ∉ P) (hr : Re tg b) (hs : Stk tg P b) (hc : ∀ t ∈ tg b, hasN s.1 t = true) : DInv tg P (s.1, s.2 ++ [b]) := by
  have hb := h.stk b List.mem_cons_self
  refine ⟨fun x hx => ?_, ?_, fun x hx => ?_, fun x hx => ?_, fun x hx a ha hne => ?_, fun x hx => ?_, fun x hx t ht => ?_⟩
  · rcases List.mem_append.1 hx with h1 | h1
    · exact h.seen x h1
    · have : x = b := by simpa using h1
      rw [this]; exact hb.2
  · rw [List.nodup_append]
    refine ⟨h.nd, by simp, fun x hx y hy e => ?_⟩
    have : y = b := by simpa using hy
    rw [e, this] at hx
    exact hb.1 hx
  · rcases h.all x hx with h1 | h1
    · exact Or.inl (List.mem_append_left _ h1)
    · rcases List.mem_cons.1 h1 with rfl | h1
      · exact Or.inl (by simp)
      · exact Or.inr h1
  · have hx' := h.stk x (List.mem_cons_of_mem _ hx)
    refine ⟨fun k => ?_, hx'.2⟩
    rcases List.mem_append.1 k with k | k
    · exact hx'.1 k
    · have : x = b := by simpa using k
      rw [this] at hx
      exact hP hx
  · rcases List.mem_append.1 hx with h1 | h1
    · rcases h.ord x h1 a ha hne with h2 | h2
      · rcases List.mem_cons.1 h2 with rfl | h2
        · exact Or.inr (bef_last h1)
        · exact Or.inl h2
      · exact Or.inr (bef_app h2)
    · have : x = b := by simpa using h1
      subst this
      exact Or.inl (hs a ha hne)
  · rcases List.mem_append.1 hx with h1 | h1
    · exact h.re x h1
    · have : x = b := by simpa using h1
      rw [this]; exact hr
  · rcases List.mem_append.1 hx with h1 | h1
    · exact h.cl x h1 t ht
    · have : x = b := by simpa using h1
      rw [this] at ht
      exact hc t ht
theorem dfs_spec {n : Nat} (hn : ∀ b, b < n → ∀ t ∈ tg b, t < n) : ∀ (m b : Nat) (s : (Nat → Nat) × List Nat) (P : List Nat), b < n → unseen s.1 n ≤ m → Re tg b → Stk tg P b → DInv tg P s → DInv tg P (dfsV tg m b s) ∧ hasN (dfsV tg m b s).1 b = true
  | 0, b, s, P, hb, hu, _, _, hi => ⟨hi, unseen_zero (n := n) (Nat.le_zero.1 hu) hb⟩
  | m + 1, b, s, P, hb, hu, hr, hs, hi => by
    cases hh : hasN s.1 b with
    | true => rw [dfs_stop hh]; exact ⟨hi, hh⟩
    | false =>
      rw [dfs_go hh]
      have hP : b ∉ P := fun k => by rw [(hi.stk b k).2] at hh; cases hh
      have hu1 := unseen_add hb hh
      have key : ∀ (l : List Nat) (s1 : (Nat → Nat) × List Nat), (∀ t ∈ l, t ∈ tg b) → unseen s1.1 n ≤ m → DInv tg (b :: P) s1 → DInv tg (b :: P) (l.foldl (fun s t => dfsV tg m t s) s1) ∧ ∀ t ∈ l, hasN (l.foldl (fun s t => dfsV tg m t s) s1).1 t = true := fun l => by
        induction l with
        | nil => intro s1 _ _ h1; exact ⟨h1, fun t ht => by cases ht⟩
        | cons t l ih =>
          intro s1 hl h1 h2
          have ht := hl t List.mem_cons_self
          obtain ⟨k1, k2⟩ := dfs_spec hn m t s1 (b :: P) (hn b hb t ht) h1 (Re.step hr ht) (stk_next hs hr ht) h2
          obtain ⟨k3, k4⟩ := ih (dfsV tg m t s1) (fun u hu => hl u (List.mem_cons_of_mem _ hu)) (Nat.le_trans (unseen_mono n (fun x hx => dfs_mono tg m t s1 x hx)) h1) k1
          refine ⟨k3, fun u hu => ?_⟩
          rcases List.mem_cons.1 hu with rfl | hu
          · exact fold_mono tg m l _ _ k2
          · exact k4 u hu
      obtain ⟨k1, k2⟩ := key (tg b) (addN s.1 b, s.2) (fun t ht => ht) (by show unseen (addN s.1 b) n ≤ m; omega) (dinv_push hi hh)
      refine ⟨dinv_pop k1 hP hr hs k2, ?_⟩
      exact fold_mono tg m (tg b) (addN s.1 b, s.2) b (by show hasN (addN s.1 b) b = true; rw [has_add]; simp)
theorem unseen_le (W : Nat → Nat) (n : Nat) : unseen W n ≤ n := Nat.le_trans (List.length_filter_le _ _) (by simp)
/-- What the search leaves: the blocks that can be reached, each once, each behind all that only it leads to. -/
theorem dfs_top {n : Nat} (hn : ∀ b, b < n → ∀ t ∈ tg b, t < n) (h0 : 0 < n) {m : Nat} (hm : n ≤ m) :
    (∀ x, x ∈ (dfsV tg m 0 (fun _ => 0, [])).2 ↔ Re tg x) ∧ (∀ x, hasN (dfsV tg m 0 (fun _ => 0, [])).1 x = true ↔ Re tg x) ∧ (dfsV tg m 0 (fun _ => 0, [])).2.Nodup ∧ ∀ x a, Dom tg a x → a ≠ x → Bef (dfsV tg m 0 (fun _ => 0, [])).2 x a := by
  have hi : DInv tg [] (fun _ => 0, []) := ⟨fun x hx => (by cases hx), List.nodup_nil, fun x hx => (by rw [has_none] at hx; cases hx), fun x hx => (by cases hx), fun x hx => (by cases hx), fun x hx => (by cases hx), fun x hx => (by cases hx)⟩
  obtain ⟨h1, h2⟩ := dfs_spec hn m 0 (fun _ => 0, []) [] h0 (Nat.le_trans (unseen_le _ _) hm) Re.root stk_root hi
  generalize dfsV tg m 0 (fun _ => 0, []) = s at *
  have hs : ∀ x, hasN s.1 x = true → x ∈ s.2 := fun x hx => by
    rcases h1.all x hx with h | h
    · exact h
    · cases h
  have hr : ∀ x, Re tg x → hasN s.1 x = true := fun x hx => by
    induction hx with
    | root => exact h2
    | step _ ht ih => exact h1.cl _ (hs _ ih) _ ht
  refine ⟨fun x => ⟨h1.re x, fun h => hs x (hr x h)⟩, fun x => ⟨fun h => h1.re x (hs x h), hr x⟩, h1.nd, fun x a ha hne => ?_⟩
  rcases h1.ord x (hs x (hr x ha.rb)) a ha hne with h | h
  · cases h
  · exact h
end
section
variable {tg : Nat → List Nat}
theorem bef_reverse {l : List Nat} {x a : Nat} (h : Bef l x a) : Bef l.reverse a x := by
  obtain ⟨l1, l2, rfl, h1, h2⟩ := h
  exact ⟨l2.reverse, l1.reverse, by simp, by simpa using h2, by simpa using h1⟩
end
end Go.Proofs.YtanaeindldcapaaDoor
