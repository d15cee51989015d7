import Derived.Test.YtlmaodcddbkllaaDoorFL0
import Derived.Test.YtlmaodcddbkllaaDoorAP1
import Derived.Test.YtlmaodcddbkllaaDoorSV1
/-
  Strictness, pure: what the model's walk looks for and what the program's sets hold.
-/
namespace Go.Proofs.YtlmaodcddbkllaaDoor

def defI (y : Ins) : Int := if dB y.op then y.dst else -1
/-- What is met of v along instructions, at the end fin: 1 a read, 2 a definition, 0 neither. -/
def bareF (v : Int) (fin : Bool) : List Ins → Nat
  | [] => if fin then 1 else 0
  | y :: ys => if hasI (rdI y) v then 1 else if defI y = v then 2 else bareF v fin ys
def bareM (x : Blk) (E : List Int) (v : Int) : Nat := bareF v (hasI (rdT x.term) v || hasI E v) x.instrs
def stepY (W : Nat → Nat) (y : Ins) : Nat → Nat := addsN (delsN W (natL (writesI y))) (natL (rdI y))
theorem hasI_iff {l : List Int} {v : Int} : hasI l v = true ↔ v ∈ l := by unfold hasI; exact List.contains_iff_mem
theorem has_stepY {W : Nat → Nat} {y : Ins} (h1 : ∀ v ∈ rdI y, 0 ≤ v) (h2 : ∀ v ∈ writesI y, 0 ≤ v) (v : Nat) : hasN (stepY W y) v = true ↔ (v : Int) ∈ rdI y ∨ ((v : Int) ∉ writesI y ∧ hasN W v = true) := by
  unfold stepY
  rw [has_adds, has_dels, Bool.or_eq_true, decide_eq_true_eq, mem_natL h1, Bool.and_eq_true, decide_eq_true_eq, mem_natL h2]
theorem def_writes {y : Ins} {v : Nat} : defI y = (v : Int) ↔ (v : Int) ∈ writesI y := by
  unfold defI writesI
  by_cases e : dB y.op = true
  · rw [if_pos e, if_pos e]; simp [eq_comm]
  · rw [if_neg e, if_neg e]; simp
theorem foldY {v : Nat} {W : Nat → Nat} : ∀ (ys : List Ins), (∀ y ∈ ys, (∀ v ∈ rdI y, 0 ≤ v) ∧ ∀ v ∈ writesI y, 0 ≤ v) → (hasN (ys.foldr (fun y acc => stepY acc y) W) v = true ↔ bareF (v : Int) (hasN W v) ys = 1)
  | [], _ => by
    unfold bareF
    cases h : hasN W v <;> simp [h]
  | y :: ys, hy => by
    have ih := foldY (v := v) (W := W) ys (fun z hz => hy z (List.mem_cons_of_mem _ hz))
    have h0 := hy y List.mem_cons_self
    rw [List.foldr_cons, has_stepY h0.1 h0.2, ih]
    show _ ↔ (if hasI (rdI y) (v : Int) then 1 else if defI y = (v : Int) then 2 else bareF (v : Int) (hasN W v) ys) = 1
    by_cases e1 : (v : Int) ∈ rdI y
    · rw [if_pos (hasI_iff.2 e1)]; simp [e1]
    · rw [if_neg (fun h => e1 (hasI_iff.1 h))]
      by_cases e2 : (v : Int) ∈ writesI y
      · rw [if_pos (def_writes.2 e2)]; simp [e1, e2]
      · rw [if_neg (fun h => e2 (def_writes.1 h))]; simp [e1, e2]
theorem bwF_map {α β : Type} (l : List α) (g : Fin l.length → β) : (bwF l.length 0).map g = ((List.finRange l.length).map g).reverse := by
  unfold bwF
  rw [List.take_of_length_le (by simp), List.map_reverse]
theorem fin_map {α : Type} (l : List α) : (List.finRange l.length).map (fun j => l[j]) = l := by
  apply List.ext_getElem
  · simp
  · intro i h1 h2
    simp
theorem bw_fold (x : Blk) (W : Nat → Nat) : ((bwF x.instrs.length 0).map (plI x)).foldl stepI W = x.instrs.foldr (fun y acc => stepY acc y) W := by
  rw [bwF_map, List.foldl_reverse]
  conv => rhs; rw [← fin_map x.instrs]
  rw [List.foldr_map, List.foldr_map]
  rfl
theorem inW_iff {x : Blk} {W : Nat → Nat} {v : Nat} (hy : ∀ y ∈ x.instrs, (∀ v ∈ rdI y, 0 ≤ v) ∧ ∀ v ∈ writesI y, 0 ≤ v) (ht : ∀ v ∈ rdT x.term, 0 ≤ v) (hp : ∀ p ∈ x.phis, 0 ≤ p.dst) :
    hasN (inW x W) v = true ↔ (v : Int) ∉ x.phis.map Ph.dst ∧ bareF (v : Int) (hasI (rdT x.term) (v : Int) || hasN W v) x.instrs = 1 := by
  unfold inW plL
  rw [List.foldl_cons, List.foldl_append, List.foldl_cons, List.foldl_nil, bw_fold]
  have hd : ∀ v ∈ x.phis.map Ph.dst, 0 ≤ v := fun v hv => by obtain ⟨p, h1, rfl⟩ := List.mem_map.1 hv; exact hp p h1
  show hasN (addsN (delsN _ (natL (x.phis.map Ph.dst))) (natL [])) v = true ↔ _
  rw [has_adds, has_dels, Bool.or_eq_true, decide_eq_true_eq, Bool.and_eq_true, decide_eq_true_eq, mem_natL hd]
  rw [foldY x.instrs hy]
  have e : hasN (stepI W (x.instrs.length + 1, rdT x.term, [])) v = (hasI (rdT x.term) (v : Int) || hasN W v) := by
    show hasN (addsN (delsN W (natL [])) (natL (rdT x.term))) v = _
    rw [has_adds, has_dels, Bool.eq_iff_iff, Bool.or_eq_true, Bool.or_eq_true, decide_eq_true_eq, mem_natL ht, hasI_iff]
    simp [natL]
  rw [e]
  simp [natL]
theorem dfW_iff {x : Blk} {v : Nat} (hy : ∀ y ∈ x.instrs, ∀ v ∈ writesI y, 0 ≤ v) (hp : ∀ p ∈ x.phis, 0 ≤ p.dst) : hasN (dfW x) v = true ↔ (v : Int) ∈ x.phis.map Ph.dst ∨ ∃ y ∈ x.instrs, (v : Int) ∈ writesI y := by
  have hf : ∀ (l : List (Nat × List Int × List Int)) (W : Nat → Nat), hasN (l.foldl stepD W) v = true ↔ hasN W v = true ∨ ∃ q ∈ l, v ∈ natL q.2.2 := by
    intro l
    induction l with
    | nil => intro W; simp
    | cons q l ih =>
      intro W
      rw [List.foldl_cons, ih]
      unfold stepD
      rw [has_adds, Bool.or_eq_true, decide_eq_true_eq]
      simp only [List.mem_cons, exists_eq_or_imp]
      constructor
      · rintro ((h | h) | h)
        · exact Or.inr (Or.inl h)
        · exact Or.inl h
        · exact Or.inr (Or.inr h)
      · rintro (h | h | h)
        · exact Or.inl (Or.inr h)
        · exact Or.inl (Or.inl h)
        · exact Or.inr h
  have hd : ∀ v ∈ x.phis.map Ph.dst, 0 ≤ v := fun v hv => by obtain ⟨p, h1, rfl⟩ := List.mem_map.1 hv; exact hp p h1
  unfold dfW
  rw [hf, has_none]
  unfold plL
  constructor
  · rintro (h | ⟨q, hq, hv⟩)
    · cases h
    · rcases List.mem_cons.1 hq with rfl | hq
      · simp [natL] at hv
      · rcases List.mem_append.1 hq with hq | hq
        · obtain ⟨j, _, rfl⟩ := List.mem_map.1 hq
          exact Or.inr ⟨x.instrs[j], List.getElem_mem _, (mem_natL (hy _ (List.getElem_mem _))).1 hv⟩
        · rw [List.mem_singleton.1 hq] at hv
          exact Or.inl ((mem_natL hd).1 hv)
  · rintro (h | ⟨y, hy', hv⟩)
    · exact Or.inr ⟨_, plL_last x, (mem_natL hd).2 h⟩
    · obtain ⟨j, hj, rfl⟩ := List.getElem_of_mem hy'
      exact Or.inr ⟨_, plI_mem x ⟨j, hj⟩, (mem_natL (hy _ (List.getElem_mem _))).2 hv⟩
theorem bareF_zero {v : Nat} {fin : Bool} : ∀ (ys : List Ins), bareF (v : Int) fin ys = 0 → ∀ y ∈ ys, (v : Int) ∉ writesI y
  | [], _, _, h => by cases h
  | z :: zs, h, y, hy => by
    have h' : (if hasI (rdI z) (v : Int) then 1 else if defI z = (v : Int) then 2 else bareF (v : Int) fin zs) = 0 := h
    by_cases e1 : hasI (rdI z) (v : Int) = true
    · rw [if_pos e1] at h'; cases h'
    · rw [if_neg e1] at h'
      by_cases e2 : defI z = (v : Int)
      · rw [if_pos e2] at h'; cases h'
      · rw [if_neg e2] at h'
        rcases List.mem_cons.1 hy with rfl | hy
        · exact fun h3 => e2 (def_writes.2 h3)
        · exact bareF_zero zs h' y hy
theorem bareF_two {v : Nat} {fin : Bool} : ∀ (ys : List Ins), (∀ y ∈ ys, (v : Int) ∉ writesI y) → bareF (v : Int) fin ys ≠ 2
  | [], _ => by unfold bareF; split <;> simp
  | z :: zs, h => by
    show (if hasI (rdI z) (v : Int) then 1 else if defI z = (v : Int) then 2 else bareF (v : Int) fin zs) ≠ 2
    by_cases e1 : hasI (rdI z) (v : Int) = true
    · rw [if_pos e1]; simp
    · rw [if_neg e1, if_neg (fun e2 => h z List.mem_cons_self (def_writes.1 e2))]
      exact bareF_two zs (fun y hy => h y (List.mem_cons_of_mem _ hy))
theorem bareF_le {v : Int} {fin : Bool} : ∀ (ys : List Ins), bareF v fin ys ≤ 2
  | [] => by unfold bareF; split <;> simp
  | z :: zs => by
    show (if hasI (rdI z) v then 1 else if defI z = v then 2 else bareF v fin zs) ≤ 2
    split
    · decide
    · split
      · decide
      · exact bareF_le zs
theorem bareF_one {v : Int} {fin : Bool} : ∀ (ys : List Ins), bareF v fin ys = 1 → fin = true ∨ ∃ y ∈ ys, v ∈ rdI y
  | [], h => by
    have h' : (if fin then 1 else 0) = 1 := h
    cases fin <;> simp_all
  | z :: zs, h => by
    have h' : (if hasI (rdI z) v then 1 else if defI z = v then 2 else bareF v fin zs) = 1 := h
    by_cases e1 : hasI (rdI z) v = true
    · exact Or.inr ⟨z, List.mem_cons_self, hasI_iff.1 e1⟩
    · rw [if_neg e1] at h'
      by_cases e2 : defI z = v
      · rw [if_pos e2] at h'; cases h'
      · rw [if_neg e2] at h'
        rcases bareF_one zs h' with h3 | ⟨y, hy, h3⟩
        · exact Or.inl h3
        · exact Or.inr ⟨y, List.mem_cons_of_mem _ hy, h3⟩
/-- What the phis of block t read from block p, in the model's order. -/
def edgeU (xs : List Blk) (p t : Int) : List Int := match xs[t.toNat]? with
  | none => []
  | some x => if x.phis = [] then [] else (List.range (predsFrom xs 0 t).length).flatMap fun i => if (predsFrom xs 0 t).getD i 0 = p then x.phis.map (fun h => h.args.getD i 0) else []
def edgesM (xs : List Blk) (b : Nat) : List Int := match xs[b]? with
  | none => []
  | some x => x.term.targets.flatMap (edgeU xs (b : Int))
theorem edges_iff {V : Nat} {xs : List Blk} (ho : OkL V xs) {b : Nat} (hb : b < xs.length) {v : Nat} : (v : Int) ∈ edgesM xs b ↔ (b, v) ∈ phE xs xs.length := by
  have hT0 : ∀ x ∈ xs, ∀ t ∈ x.term.targets, 0 ≤ t := fun x hx t ht => (ho.okf.tgt x hx t ht).1
  have hE : (v : Int) ∈ edgesM xs b ↔ ∃ t : Nat, ∃ ht : t < xs.length, ∃ i, i < (predN xs xs.length t).length ∧ (predN xs xs.length t).getD i 0 = b ∧ ∃ p ∈ xs[t].phis, p.args.getD i 0 = (v : Int) := by
    unfold edgesM
    rw [List.getElem?_eq_getElem hb]
    simp only [List.mem_flatMap]
    constructor
    · rintro ⟨t, ht, hv⟩
      have h0 := ho.okf.tgt _ (List.getElem_mem hb) t ht
      obtain ⟨k, rfl⟩ := Int.eq_ofNat_of_zero_le h0.1
      have hk : k < xs.length := by have := h0.2; omega
      refine ⟨k, hk, ?_⟩
      unfold edgeU at hv
      rw [Int.toNat_natCast, List.getElem?_eq_getElem hk] at hv
      simp only at hv
      by_cases e : xs[k].phis = []
      · rw [if_pos e] at hv; cases hv
      · rw [if_neg e] at hv
        obtain ⟨i, hi, h2⟩ := List.mem_flatMap.1 hv
        rw [preds_all hT0] at hi h2
        have hi' : i < (predN xs xs.length k).length := by simpa [natI] using hi
        by_cases e2 : (natI (predN xs xs.length k)).getD i 0 = (b : Int)
        · rw [if_pos e2] at h2
          obtain ⟨p, h3, h4⟩ := List.mem_map.1 h2
          refine ⟨i, hi', ?_, p, h3, h4⟩
          simp only [natI, List.getD_eq_getElem?_getD, List.getElem?_map, List.getElem?_eq_getElem hi', Option.map_some, Option.getD_some] at e2 ⊢
          have : ((predN xs xs.length k)[i] : Int) = (b : Int) := e2
          omega
        · rw [if_neg e2] at h2; cases h2
    · rintro ⟨t, ht, i, hi, h1, p, h2, h3⟩
      have hm : b ∈ predN xs xs.length t := by
        rw [← h1, List.getD_eq_getElem?_getD, List.getElem?_eq_getElem hi]
        exact List.getElem_mem hi
      have htg : (t : Int) ∈ xs[b].term.targets := by
        have := (predN_mem.1 hm).2
        rw [tgN_at hb] at this
        obtain ⟨z, hz, e⟩ := List.mem_map.1 this
        have := hT0 _ (List.getElem_mem hb) z hz
        rw [show (t : Int) = z by omega]
        exact hz
      refine ⟨(t : Int), htg, ?_⟩
      unfold edgeU
      rw [Int.toNat_natCast, List.getElem?_eq_getElem ht]
      simp only
      rw [if_neg (fun e => by rw [e] at h2; cases h2), preds_all hT0]
      refine List.mem_flatMap.2 ⟨i, by simpa [natI] using hi, ?_⟩
      rw [if_pos (by
        simp only [natI, List.getD_eq_getElem?_getD, List.getElem?_map, List.getElem?_eq_getElem hi, Option.map_some, Option.getD_some] at h1 ⊢
        show ((predN xs xs.length t)[i] : Int) = (b : Int)
        rw [h1])]
      exact List.mem_map.2 ⟨p, h2, h3⟩
  rw [hE]
  unfold phE phB phT
  rw [List.mem_flatMap]
  constructor
  · rintro ⟨t, ht, i, hi, h1, p, h2, h3⟩
    refine ⟨t, List.mem_range.2 ht, ?_⟩
    rw [List.getElem?_eq_getElem ht]
    refine List.mem_flatMap.2 ⟨p, h2, ?_⟩
    have hl := (ho.pha t ht p h2).1
    rw [preds_all hT0] at hl
    have hl' : p.args.length = (predN xs xs.length t).length := by simpa [natI] using hl
    have hi2 : i < p.args.length := by omega
    rw [List.getD_eq_getElem?_getD, List.getElem?_eq_getElem hi2] at h3
    rw [List.getD_eq_getElem?_getD, List.getElem?_eq_getElem hi] at h1
    have hz : i < ((predN xs xs.length t).zip (natL p.args)).length := by simp [natL]; omega
    have e : ((predN xs xs.length t).zip (natL p.args))[i] = (b, v) := by
      rw [List.getElem_zip]
      simp only [natL, List.getElem_map]
      have h1' : (predN xs xs.length t)[i] = b := h1
      have h3' : p.args[i] = (v : Int) := h3
      rw [h1', h3']
      rfl
    rw [← e]
    exact List.getElem_mem hz
  · rintro ⟨t, ht, hv⟩
    have ht := List.mem_range.1 ht
    rw [List.getElem?_eq_getElem ht] at hv
    obtain ⟨p, h2, h3⟩ := List.mem_flatMap.1 (show _ ∈ List.flatMap _ xs[t].phis from hv)
    obtain ⟨i, hi, e⟩ := List.getElem_of_mem h3
    rw [List.getElem_zip] at e
    have hi1 : i < (predN xs xs.length t).length := by simp at hi; omega
    have hi2 : i < p.args.length := by simp [natL] at hi; omega
    refine ⟨t, ht, i, hi1, ?_, p, h2, ?_⟩
    · rw [List.getD_eq_getElem?_getD, List.getElem?_eq_getElem hi1]
      exact congrArg Prod.fst e
    · rw [List.getD_eq_getElem?_getD, List.getElem?_eq_getElem hi2]
      have h4 : (natL p.args)[i]'(by simp [natL]; omega) = v := congrArg Prod.snd e
      simp only [natL, List.getElem_map] at h4
      have := (ho.pha t ht p h2).2 p.args[i] (List.getElem_mem hi2)
      show p.args[i] = (v : Int)
      omega
/-- The model's walk for v. -/
def barB (xs : List Blk) (b v : Nat) : Nat := match xs[b]? with
  | none => 0
  | some x => bareM x (edgesM xs b) (v : Int)
def phiB (xs : List Blk) (b v : Nat) : Bool := match xs[b]? with
  | none => false
  | some x => hasI (x.phis.map Ph.dst) (v : Int)
inductive Opn (xs : List Blk) (v : Nat) : Nat → Prop
  | root : Opn xs v 0
  | step {b t : Nat} : Opn xs v b → phiB xs b v = false → barB xs b v = 0 → t ∈ tgN xs b → Opn xs v t
def Bad (xs : List Blk) (v : Nat) : Prop := ∃ b, Opn xs v b ∧ phiB xs b v = false ∧ barB xs b v = 1
theorem Opn.lt {xs : List Blk} (h : OkF xs) {v b : Nat} (ho : Opn xs v b) : b < xs.length := by
  induction ho with
  | root => exact h.n1
  | step _ _ _ ht ih => exact h.tg _ ih _ ht
/-- The sets that the program finds, against the walk. -/
theorem bad_iff {V : Nat} {xs : List Blk} (ho : OkL V xs) {I T : Nat → Nat → Nat} {WO : Nat → Nat → Nat} (hI : ∀ i (h : i < xs.length), I i = inW xs[i] (WO i)) (hT : ∀ i (h : i < xs.length), T i = dfW xs[i]) (hO : ∀ b, b < xs.length → ∀ v, hasN (WO b) v = true ↔ (b, v) ∈ phE xs xs.length) {ord : Nat → Prop} (hord : ∀ b, b < xs.length → ord b) {src : Nat → List Nat} (hsrc : ∀ b, b < xs.length → src b = tgN xs b) {v : Nat} :
    Sp I T ord src 0 v ↔ Bad xs v := by
  have hI' : ∀ b, b < xs.length → (hasN (I b) v = true ↔ phiB xs b v = false ∧ barB xs b v = 1) := fun b hb => by
    have hm := List.getElem_mem hb
    rw [hI b hb, inW_iff (fun y hy => ⟨fun z hz => (ho.rdi _ hm y hy z hz).1, fun z hz => (ho.wri _ hm y hy z hz).1⟩) (fun z hz => (ho.rdt _ hm z hz).1) (fun p hp => (ho.phd _ hm p hp).1)]
    unfold phiB barB bareM
    rw [List.getElem?_eq_getElem hb]
    simp only
    have e : hasN (WO b) v = hasI (edgesM xs b) (v : Int) := by rw [Bool.eq_iff_iff, hO b hb, hasI_iff, edges_iff ho hb]
    rw [e, ← Bool.not_eq_true, hasI_iff]
  have hT' : ∀ b, b < xs.length → phiB xs b v = false → barB xs b v = 0 → hasN (T b) v = false := fun b hb h1 h2 => by
    have hm := List.getElem_mem hb
    rw [hT b hb, ← Bool.not_eq_true, dfW_iff (fun y hy z hz => (ho.wri _ hm y hy z hz).1) (fun p hp => (ho.phd _ hm p hp).1)]
    unfold phiB at h1
    unfold barB bareM at h2
    rw [List.getElem?_eq_getElem hb] at h1 h2
    simp only at h1 h2
    rintro (h | ⟨y, hy, h⟩)
    · rw [hasI_iff.2 h] at h1; cases h1
    · exact bareF_zero _ h2 y hy h
  have hTb : ∀ b, b < xs.length → hasN (T b) v = false → phiB xs b v = false ∧ barB xs b v ≠ 2 := fun b hb h => by
    have hm := List.getElem_mem hb
    rw [hT b hb, ← Bool.not_eq_true, dfW_iff (fun y hy z hz => (ho.wri _ hm y hy z hz).1) (fun p hp => (ho.phd _ hm p hp).1)] at h
    unfold phiB barB bareM
    rw [List.getElem?_eq_getElem hb]
    simp only
    refine ⟨?_, bareF_two _ (fun y hy h2 => h (Or.inr ⟨y, hy, h2⟩))⟩
    rw [← Bool.not_eq_true, hasI_iff]
    exact fun h2 => h (Or.inl h2)
  constructor
  · intro h
    have main : ∀ b x, Sp I T ord src b x → x = v → Opn xs v b → Bad xs v := by
      intro b x hs
      induction hs with
      | init h1 => rintro rfl hop; exact ⟨_, hop, (hI' _ (hop.lt ho.okf)).1 h1⟩
      | @take b s x h1 h2 h3 h4 ih =>
        rintro rfl hop
        have hb := hop.lt ho.okf
        have h5 := hTb b hb h4
        have h6 : barB xs b x ≤ 2 := by
          unfold barB
          split
          · exact Nat.zero_le _
          · exact bareF_le _
        by_cases e : barB xs b x = 1
        · exact ⟨b, hop, h5.1, e⟩
        · exact ih rfl (Opn.step hop h5.1 (by have := h5.2; omega) (by rw [← hsrc b hb]; exact h2))
    exact main 0 v h rfl Opn.root
  · rintro ⟨b, hop, h1, h2⟩
    have main : ∀ b, Opn xs v b → Sp I T ord src b v → Sp I T ord src 0 v := by
      intro b hop
      induction hop with
      | root => exact fun h => h
      | @step b t h1 h2 h3 h4 ih =>
        intro hs
        have hb := h1.lt ho.okf
        exact ih (Sp.take (hord b hb) (by rw [hsrc b hb]; exact h4) hs (hT' b hb h2 h3))
    exact main b hop (Sp.init ((hI' b (hop.lt ho.okf)).2 ⟨h1, h2⟩))
theorem bad_lt {V : Nat} {xs : List Blk} (ho : OkL V xs) {v : Nat} (h : Bad xs v) : v < V := by
  obtain ⟨b, hop, _, h2⟩ := h
  have hb := hop.lt ho.okf
  have hm := List.getElem_mem hb
  unfold barB bareM at h2
  rw [List.getElem?_eq_getElem hb] at h2
  simp only at h2
  rcases bareF_one _ h2 with h3 | ⟨y, hy, h3⟩
  · rcases Bool.or_eq_true _ _ ▸ h3 with h4 | h4
    · have := (ho.rdt _ hm _ (hasI_iff.1 h4)).2; omega
    · have h5 := (edges_iff ho hb).1 (hasI_iff.1 h4)
      unfold phE phB phT at h5
      obtain ⟨t, ht, hv⟩ := List.mem_flatMap.1 h5
      have ht := List.mem_range.1 ht
      rw [List.getElem?_eq_getElem ht] at hv
      obtain ⟨p, hp, h6⟩ := List.mem_flatMap.1 (show _ ∈ List.flatMap _ xs[t].phis from hv)
      have h7 := List.of_mem_zip h6
      obtain ⟨z, hz, e⟩ := List.mem_map.1 h7.2
      have := (ho.pha t ht p hp).2 z hz
      omega
  · have := (ho.rdi _ hm y hy _ h3).2; omega
end Go.Proofs.YtlmaodcddbkllaaDoor

/-
  The model's walk for one value, pure.
-/
namespace Go.Proofs.YtlmaodcddbkllaaDoor

structure StI (xs : List Blk) (v : Nat) (td : List Nat) (i : Nat) : Prop where
  nd : td.Nodup
  op : ∀ x ∈ td, Opn xs v x
  z : 0 ∈ td
  dn : ∀ j (h : j < td.length), j < i → phiB xs td[j] v = true ∨ (barB xs td[j] v ≠ 1 ∧ (barB xs td[j] v = 0 → ∀ t ∈ tgN xs td[j], t ∈ td))
section
variable {xs : List Blk} {v : Nat} {td : List Nat} {i : Nat}
theorem stI_start : StI xs v [0] 0 := ⟨by simp, fun x hx => by rw [List.mem_singleton.1 hx]; exact Opn.root, by simp, fun j _ h => absurd h (by omega)⟩
theorem StI.go (h : StI xs v td i) (hi : i < td.length) (hd : phiB xs td[i] v = true ∨ (barB xs td[i] v ≠ 1 ∧ (barB xs td[i] v = 0 → ∀ t ∈ tgN xs td[i], t ∈ td))) : StI xs v td (i + 1) :=
  ⟨h.nd, h.op, h.z, fun j hj hji => if e : j = i then by subst e; exact hd else h.dn j hj (by omega)⟩
theorem StI.push (h : StI xs v td i) (hi : i < td.length) (hp : phiB xs td[i] v = false) (hb : barB xs td[i] v = 0) {t : Nat} (ht : t ∈ tgN xs td[i]) (hn : t ∉ td) : StI xs v (td ++ [t]) i := by
  refine ⟨?_, fun x hx => ?_, by simp [h.z], fun j hj hji => ?_⟩
  · rw [List.nodup_append]
    exact ⟨h.nd, by simp, fun a ha b hb' => by rw [List.mem_singleton.1 hb']; exact fun e => hn (by rw [← e]; exact ha)⟩
  · rcases List.mem_append.1 hx with hx | hx
    · exact h.op x hx
    · rw [List.mem_singleton.1 hx]
      exact Opn.step (h.op _ (List.getElem_mem hi)) hp hb ht
  · have hj' : j < td.length := by omega
    rw [List.getElem_append_left hj']
    rcases h.dn j hj' hji with q | ⟨q1, q2⟩
    · exact Or.inl q
    · exact Or.inr ⟨q1, fun e u hu => List.mem_append_left _ (q2 e u hu)⟩
theorem StI.none (h : StI xs v td i) (hi : td.length ≤ i) : ¬ Bad xs v := by
  rintro ⟨b, hop, h1, h2⟩
  have hin : ∀ b, Opn xs v b → b ∈ td := fun b hop => by
    induction hop with
    | root => exact h.z
    | step _ q1 q2 q3 ih =>
      obtain ⟨j, hj, rfl⟩ := List.getElem_of_mem ih
      rcases h.dn j hj (by omega) with q | q
      · rw [q] at q1; cases q1
      · exact q.2 q2 _ q3
  obtain ⟨j, hj, rfl⟩ := List.getElem_of_mem (hin b hop)
  rcases h.dn j hj (by omega) with q | q
  · rw [q] at h1; cases h1
  · exact q.1 h2
theorem StI.hit (h : StI xs v td i) (hi : i < td.length) (hp : phiB xs td[i] v = false) (hb : barB xs td[i] v = 1) : Bad xs v := ⟨_, h.op _ (List.getElem_mem hi), hp, hb⟩
theorem StI.lt (h : StI xs v td i) (ho : OkF xs) : ∀ x ∈ td, x < xs.length := fun x hx => (h.op x hx).lt ho
end
theorem targets_len (t : Ter) : t.targets.length ≤ 2 := tg_two t
end Go.Proofs.YtlmaodcddbkllaaDoor

/-
  Verdict, pure.
-/
namespace Go.Proofs.YtlmaodcddbkllaaDoor

def AllRe (xs : List Blk) : Prop := ∀ b, b < xs.length → Re (tgN xs) b
open Classical in
noncomputable def verdP (v : Int) (xs : List Blk) : Int := if validI ⟨v, xs⟩ = false then 9 else if ¬ AllRe xs then 10 else if ∃ x, Bad xs x then 11 else 0
theorem sub_len : ∀ (n : Nat) (F : List Nat), (∀ b, b < n → b ∈ F) → n ≤ F.length
  | 0, _, _ => Nat.zero_le _
  | n + 1, F, h => by
    have h1 := sub_len n (F.erase n) (fun b hb => (List.mem_erase_of_ne (by omega)).2 (h b (by omega)))
    have h2 : n ∈ F := h n (by omega)
    rw [List.length_erase_of_mem h2] at h1
    have := List.length_pos_of_mem h2
    omega
theorem full_iff {xs : List Blk} (ho : OkF xs) {F : List Nat} (hn : F.Nodup) (hm : ∀ x, x ∈ F ↔ Re (tgN xs) x) : F.length ≤ xs.length ∧ (F.length = xs.length ↔ AllRe xs) := by
  have hl : F.length ≤ xs.length := nodup_le hn (fun x hx => ho.re x ((hm x).1 hx))
  refine ⟨hl, fun h b hb => ?_, fun h => ?_⟩
  · apply Classical.byContradiction
    intro hc
    have hnd : (b :: F).Nodup := List.nodup_cons.2 ⟨fun h2 => hc ((hm b).1 h2), hn⟩
    have := nodup_le (n := xs.length) hnd (fun x hx => by
      rcases List.mem_cons.1 hx with rfl | hx
      · exact hb
      · exact ho.re x ((hm x).1 hx))
    rw [List.length_cons] at this
    omega
  · have := sub_len xs.length F (fun b hb => (hm b).2 (h b hb))
    omega
open Classical in
theorem verdP_bad {v : Int} {xs : List Blk} (h : validI ⟨v, xs⟩ = false) : verdP v xs = 9 := by unfold verdP; rw [if_pos h]
open Classical in
theorem verdP_un {v : Int} {xs : List Blk} (h : validI ⟨v, xs⟩ = true) (k : ¬ AllRe xs) : verdP v xs = 10 := by unfold verdP; rw [if_neg (by rw [h]; decide), if_pos k]
open Classical in
theorem verdP_ns {v : Int} {xs : List Blk} (h : validI ⟨v, xs⟩ = true) (k : AllRe xs) (m : ∃ x, Bad xs x) : verdP v xs = 11 := by unfold verdP; rw [if_neg (by rw [h]; decide), if_neg (fun q => q k), if_pos m]
open Classical in
theorem verdP_ok {v : Int} {xs : List Blk} (h : validI ⟨v, xs⟩ = true) (k : AllRe xs) (m : ¬ ∃ x, Bad xs x) : verdP v xs = 0 := by unfold verdP; rw [if_neg (by rw [h]; decide), if_neg (fun q => q k), if_neg m]
end Go.Proofs.YtlmaodcddbkllaaDoor

/-
  findLive of the program: the head of its loop, the first time.
-/
namespace Go.Proofs.YtlmaodcddbkllaaDoor
open Go.RowKit

theorem flK_start {w Y w3 W0 : World} {V : Nat} {a : Option Addr} {n c Kw : Nat} {xs : List Blk} {Gi LB Go : Nat} {go : Nat → Nat} {WO : Nat → Nat → Nat} (h : FlA w Y V a n c Kw xs Gi LB Go go WO) {Gd : Nat} {gd : Nat → Nat} (hGd : Y.heap.size ≤ Gd) (hb3 : Below Y.heap.size Y w3) (hs3 : SetsAv w3 Gd n Kw gd (fun _ => Kw) (fun _ _ => 0)) (hgd : ∀ i, i < n → Y.heap.size ≤ gd i)
    {bS gS : Nat} (hbS : w3.heap.size + 2 ≤ bS) (hgS : w3.heap.size + 2 ≤ gS) (hb6 : Below (w3.heap.size + 2) ((w3.alloc (.cells #[.slice (some ⟨Gd, 0, none⟩) n n] 85)).alloc (.cells (madeCells #[.slice none 0 0] n) 40)) W0) (hsea : SeaAt W0 bS gS W0.heap.size ((n + 63) / 64) a n c (fun _ => 0) (.slice none 0 0) []) :
    FlS ⟨w, V, n, c, Kw, (n + 63) / 64, a, xs, Gi, LB, Go, w3.heap.size, Gd, w3.heap.size + 1, bS, gS, Y.heap.size, w3.heap.size, W0.heap.size, go, gd, WO⟩ ∧ FlK ⟨w, V, n, c, Kw, (n + 63) / 64, a, xs, Gi, LB, Go, w3.heap.size, Gd, w3.heap.size + 1, bS, gS, Y.heap.size, w3.heap.size, W0.heap.size, go, gd, WO⟩ W0 0 ⟨fun _ => 0, fun _ => 0, fun _ _ => 0, fun _ _ => 0, fun _ => .slice none 0 0, fun _ => 0, .slice none 0 0, []⟩ := by
  have hz3 := hb3.size
  have hw5 : ((w3.alloc (.cells #[.slice (some ⟨Gd, 0, none⟩) n n] 85)).alloc (.cells (madeCells #[.slice none 0 0] n) 40)).heap.size = w3.heap.size + 2 := by simp
  have h35 : Below w3.heap.size w3 ((w3.alloc (.cells #[.slice (some ⟨Gd, 0, none⟩) n n] 85)).alloc (.cells (madeCells #[.slice none 0 0] n) 40)) := balloc (balloc (Below.refl _ _) _) _
  have hz6 : w3.heap.size + 2 ≤ W0.heap.size := by have := hb6.size; omega
  have hB36 : Below w3.heap.size w3 W0 := h35.trans (hb6.mono (by omega))
  have hBY : Below Y.heap.size Y W0 := bnext hb3 hB36
  have hwY := h.low.size
  have gi := h.gi.lt
  have gl := World.block_lt_of_cell? Y _ h.l0
  have gg := h.out.row.lt
  have b1 := h.b1
  have b2 := h.b2
  have b3 := h.b3
  have hnr : ((w3.alloc (.cells #[.slice (some ⟨Gd, 0, none⟩) n n] 85)).alloc (.cells (madeCells #[.slice none 0 0] n) 40)).rowIs (w3.heap.size + 1) 40 n (fun _ => .slice none 0 0) := by
    have := World.rowIs_made (w3.alloc (.cells #[.slice (some ⟨Gd, 0, none⟩) n n] 85)) (.slice none 0 0) n 40
    rwa [World.size_alloc] at this
  have cY : ∀ p : Addr, p.block < Y.heap.size → W0.cell? p = Y.cell? p := fun p hp => hBY.cell hp
  have gl' : LB < Y.heap.size := gl
  refine ⟨⟨⟨b1, gi⟩, ⟨b2, gl⟩, ⟨b3, gg⟩, fun i hi => ⟨h.b4 i hi, (h.out.set i hi).lt⟩, h.d1, h.d2, h.d3, h.d4, ⟨hGd, hs3.row.lt⟩, fun i hi => ⟨hgd i hi, (hs3.set i hi).lt⟩, rfl, rfl, ⟨hbS, hsea.lb⟩, ⟨hgS, hsea.lg⟩, hsea.ne⟩, ?_⟩
  refine ⟨bnext h.low hBY, Nat.le_refl _, (cY _ (by show w.heap.size < _; omega)).trans h.f0, (cY _ (by show w.heap.size < _; omega)).trans h.f1, (cY _ (by show w.heap.size + 1 < _; omega)).trans h.r0, (cY _ (by show w.heap.size + 1 < _; omega)).trans h.r1, fun q => (hBY.frozen (p := ⟨w.heap.size + 1, q, none⟩) (by show w.heap.size + 1 < _; omega)).trans (h.rz q), (cY _ gl').trans h.l0, (cY _ gl').trans h.l1, (hb6.cell (p := ⟨w3.heap.size, 0, none⟩) (by show w3.heap.size < _; omega)).trans (by simp [go_sem]), h.out.keep hBY, (h.gi.of_block (hBY.block _ gi)).congr (fun i _ => by simp), fun i hi => absurd hi (by omega), fun i j hi => absurd hi (by omega), fun i hi => absurd hi (by omega), hs3.keep hB36, (hnr.of_block (hb6.block _ (by omega))).congr (fun i _ => by simp), fun i hi => absurd hi (by omega), hsea, fun i hi => absurd hi (by omega)⟩
end Go.Proofs.YtlmaodcddbkllaaDoor

/-
  findLive: what holds while the places of a block are walked.
-/
namespace Go.Proofs.YtlmaodcddbkllaaDoor
open Go.RowKit Go.Shelf

structure FlI (w4 : World) (gB gD Kw CB : Nat) (W0 : Nat → Nat) (pre : List Pl) (V : World) : Prop where
  os : V.os = w4.os
  tape : V.tape = w4.tape
  output : V.output = w4.output
  size : w4.heap.size ≤ V.heap.size
  fr : ∀ q, q < w4.heap.size → q ≠ gB → q ≠ gD → V.heap[q]? = w4.heap[q]?
  ws : WsAt V gB Kw CB ((pre.map Pl.dat).foldl stepI W0)
  wd : WsAt V gD Kw Kw ((pre.map Pl.dat).foldl stepD (fun _ => 0))
theorem FlI.own {w4 : World} {gB gD Kw CB : Nat} {W0 : Nat → Nat} (hB : gB < w4.heap.size) (hD : gD < w4.heap.size) : OwnFrom w4.heap.size (FlI w4 gB gD Kw CB W0) := fun pre A V row h k q => by
  have hz := h.size
  have hbl : ∀ b, b < w4.heap.size → V.heap[b]? = A.heap[b]? := fun b hb => k.block b (by omega) (fun e => by have := (q b e.symm).1; omega)
  exact ⟨k.os.trans h.os, k.tape.trans h.tape, k.output.trans h.output, Nat.le_trans hz k.size, fun b h1 h2 h3 => (hbl b h1).trans (h.fr b h1 h2 h3), h.ws.of_block (hbl gB hB), h.wd.of_block (hbl gD hD)⟩
theorem FlI.below {w4 : World} {gB gD Kw CB : Nat} {W0 : Nat → Nat} (hB : gB < w4.heap.size) (hD : gD < w4.heap.size) {pre : List Pl} {V V' : World} (h : FlI w4 gB gD Kw CB W0 pre V) (k : Below V.heap.size V V') : FlI w4 gB gD Kw CB W0 pre V' := ownFrom_none (FlI.own hB hD) h k
theorem foldI_wd (l : List (Nat × List Int × List Int)) {W : Nat → Nat} (h : WdOk W) : WdOk (l.foldl stepI W) := by
  induction l generalizing W with
  | nil => exact h
  | cons q l ih => exact ih (adds_wd _ (dels_wd _ h))
/-- Behind the three calls of a round. -/
theorem FlI.next {w4 : World} {gB gD Kw CB : Nat} {W0 : Nat → Nat} {pre : List Pl} {V V1 V2 V3 : World} (h : FlI w4 gB gD Kw CB W0 pre V) (hB : gB < w4.heap.size) (hne : gB ≠ gD) {p : Pl}
    (k1 : V.grownBy V1 (some gB)) (k2 : V1.grownBy V2 (some gB)) (k3 : V2.grownBy V3 (some gD)) (hw : WsAt V2 gB Kw CB (stepI ((pre.map Pl.dat).foldl stepI W0) p.dat)) (hd : WsAt V3 gD Kw Kw (stepD ((pre.map Pl.dat).foldl stepD (fun _ => 0)) p.dat)) : FlI w4 gB gD Kw CB W0 (pre ++ [p]) V3 := by
  have hz := h.size
  have z1 := k1.size
  have z2 := k2.size
  have z3 := k3.size
  refine ⟨k3.os.trans (k2.os.trans (k1.os.trans h.os)), k3.tape.trans (k2.tape.trans (k1.tape.trans h.tape)), k3.output.trans (k2.output.trans (k1.output.trans h.output)), by omega, fun q q1 q2 q3 => ?_, ?_, ?_⟩
  · exact (k3.block q (by omega) (fun e => q3 (by injection e))).trans ((k2.block q (by omega) (fun e => q2 (by injection e))).trans ((k1.block q (by omega) (fun e => q2 (by injection e))).trans (h.fr q q1 q2 q3)))
  · rw [List.map_append, List.foldl_append]
    exact hw.of_block (k3.block gB (by omega) (fun e => hne (by injection e)))
  · rw [List.map_append, List.foldl_append]
    exact hd
theorem intsAt_own {A V : World} {row : Option Nat} {n₀ B : Nat} {a : Option Addr} {xs : List Int} (h : IntsAt A n₀ A.heap.size a xs) (k : A.grownBy V row) (q : ∀ r, row = some r → B ≤ r ∧ ∃ o : Obj, A.heap[r]? = some o ∧ o.isCells = false) : IntsAt V n₀ V.heap.size a xs := fun i hi => by
  obtain ⟨b, o, e, hb, hc⟩ := h i hi
  refine ⟨b, o, e, ⟨hb.1, Nat.lt_of_lt_of_le hb.2 k.size⟩, (cell_of (k.block b hb.2 (fun e2 => ?_))).trans hc⟩
  obtain ⟨ob, h1, h2⟩ := cells_of_cell hc
  obtain ⟨_, o2, h3, h4⟩ := q b e2.symm
  rw [show A.heap[b]? = some ob from h1] at h3
  injection h3 with h3
  subst h3
  rw [h2] at h4
  cases h4
theorem plPx_own (n n₀ : Nat) (Pd : Nat × List Int × List Int → Prop) : OwnFrom n (plPx n₀ Pd) := fun _ _ _ _ h k q => ⟨h.1, intsAt_own h.2.1 k q, intsAt_own h.2.2 k q⟩
theorem plPx_below {n₀ : Nat} {Pd : Nat × List Int × List Int → Prop} {p : Pl} {V V' : World} (h : plPx n₀ Pd p V) (k : Below V.heap.size V V') : plPx n₀ Pd p V' := ownFrom_none (plPx_own 0 n₀ Pd) h k
theorem intsAt_grown {A V : World} {g n₀ : Nat} {a : Option Addr} {xs : List Int} (h : IntsAt A n₀ A.heap.size a xs) (k : A.grownBy V (some g)) (hg : g < n₀) : IntsAt V n₀ V.heap.size a xs := fun i hi => by
  obtain ⟨b, o, e, hb, hc⟩ := h i hi
  exact ⟨b, o, e, ⟨hb.1, Nat.lt_of_lt_of_le hb.2 k.size⟩, (cell_of (k.block b hb.2 (fun e2 => by injection e2 with e2; omega))).trans hc⟩
/-- Where the variable p lies. -/
structure PBx (n₀ bp : Nat) (p : Pl) (V : World) : Prop where
  ge : n₀ ≤ bp
  c0 : V.cell? ⟨bp, 0, none⟩ = some (.slice p.ua p.us.length p.uc)
  c1 : V.cell? ⟨bp, 1, none⟩ = some (.slice p.da p.ds.length p.dc)
theorem PBx.own {n n₀ bp : Nat} {p : Pl} : OwnFrom n (fun (_ : Unit) V => PBx n₀ bp p V) := fun _ A V row h k q => by
  have hbl : V.heap[bp]? = A.heap[bp]? := by
    obtain ⟨o, h1, h2⟩ := cells_of_cell h.c0
    refine k.block bp (Array.getElem?_eq_some_iff.1 h1).1 (fun e => ?_)
    obtain ⟨_, o2, h3, h4⟩ := q bp e.symm
    rw [show A.heap[bp]? = some o from h1] at h3
    injection h3 with h3
    subst h3
    rw [h2] at h4
    cases h4
  exact ⟨h.ge, (cell_of hbl).trans h.c0, (cell_of hbl).trans h.c1⟩
theorem kpB_grown {n₀ : Nat} {Ms : Nat → Prop} {V V' : World} {g : Nat} (k : V.grownBy V' (some g)) (hg : Ms g) (hn : n₀ ≤ V.heap.size) : KpB n₀ Ms V V' :=
  ⟨k.size, fun i hi hm => k.block i (by omega) (fun e => hm (by injection e with e; rw [e]; exact hg)), fun i o hm h1 _ => (k.block i (Array.getElem?_eq_some_iff.1 h1).1 (fun e => hm (by injection e with e; rw [e]; exact hg))).trans h1⟩
theorem keeps_row {V V' : World} {g : Nat} (k : V.grownBy V' (some g)) (hg : ∃ o : Obj, V.heap[g]? = some o ∧ o.isCells = true) : KeepsOthers V V' :=
  KeepsOthers.of_grownBy k (fun j o e h => by
    obtain ⟨o2, h1, h2⟩ := hg
    injection e with e
    subst e
    rw [h1] at h
    injection h with h
    rw [← h]; exact h2)
theorem WsAt.obj {w : World} {g K C : Nat} {W : Nat → Nat} (h : WsAt w g K C W) : ∃ o : Obj, w.heap[g]? = some o ∧ o.isCells = true := by
  obtain ⟨_, T, c, h1, _⟩ := h
  exact ⟨_, h1, rfl⟩
theorem mks_next' {wr W : World} {B D : Nat} {ds : List Nat} (h : MksAt wr B ds) (hB : B ≤ wr.heap.size) (hD : wr.heap.size ≤ D) (hK : W.heap[D]? = some (.deferred (some []))) (hb : ∀ k, B ≤ k → wr.heap[k]? = some (.deferred (some [])) → W.heap[k]? = wr.heap[k]?) : MksAt W B (D :: ds) := by
  have hl : ∀ k ∈ ds, k < wr.heap.size := fun k hk => (Array.getElem?_eq_some_iff.1 (h.obj k hk)).1
  refine ⟨List.nodup_cons.2 ⟨fun k => by have := hl D k; omega, h.nd⟩, fun k hk => ?_, fun k hk => ?_⟩
  · rcases List.mem_cons.1 hk with rfl | hk
    · omega
    · exact h.ge k hk
  · rcases List.mem_cons.1 hk with rfl | hk
    · exact hK
    · exact (hb k (h.ge k hk) (h.obj k hk)).trans (h.obj k hk)
/-- What holds of every place of a block. -/
def PdV (V : Nat) (q : Nat × List Int × List Int) : Prop := (∀ v ∈ q.2.1, 0 ≤ v ∧ v < V) ∧ (∀ v ∈ q.2.2, 0 ≤ v ∧ v < V) ∧ q.2.1.length ≤ 4000 ∧ q.2.2.length ≤ 4000
theorem pdV_all {V : Nat} {xs : List Blk} (ho : OkL V xs) {x : Blk} (hx : x ∈ xs) : ∀ q ∈ plL x, PdV V q := fun q hq => by
  unfold plL at hq
  have hT : (rdT x.term).length ≤ 1 := by unfold rdT; split <;> simp
  rcases List.mem_cons.1 hq with rfl | hq
  · exact ⟨ho.rdt x hx, fun v hv => absurd hv List.not_mem_nil, by show (rdT x.term).length ≤ _; omega, by simp⟩
  · rcases List.mem_append.1 hq with hq | hq
    · obtain ⟨j, _, rfl⟩ := List.mem_map.1 hq
      have h1 := rdI_le x.instrs[j]
      have h2 : (writesI x.instrs[j]).length ≤ 1 := by unfold writesI; split <;> simp
      exact ⟨ho.rdi x hx _ (List.getElem_mem _), ho.wri x hx _ (List.getElem_mem _), by show (rdI x.instrs[j]).length ≤ _; omega, by show (writesI x.instrs[j]).length ≤ _; omega⟩
    · rw [List.mem_singleton.1 hq]
      refine ⟨fun v hv => absurd hv List.not_mem_nil, fun v hv => ?_, by simp, ?_⟩
      · obtain ⟨p, hp, rfl⟩ := List.mem_map.1 hv
        exact ho.phd x hx p hp
      · show (x.phis.map Ph.dst).length ≤ _
        rw [List.length_map]
        exact (ho.lens x hx).2
/-- What findLive leaves. -/
structure FlR (w w' : World) (n Kw : Nat) (xs : List Blk) (Gi Go : Nat) (gi go ci : Nat → Nat) (WI WX : Nat → Nat → Nat) : Prop where
  low : Below w.heap.size w w'
  si : SetsAv w' Gi n Kw gi ci WI
  so : SetsAv w' Go n Kw go (fun _ => Kw) WX
  wi : AllWd WI
  wx : AllWd WX
  b1 : w.heap.size ≤ Gi ∧ w.heap.size ≤ Go
  b2 : ∀ i, i < n → w.heap.size ≤ gi i ∧ w.heap.size ≤ go i
  inn : ∃ (I T W0 : Nat → Nat → Nat) (ord : List Nat), (∀ i (h : i < xs.length), I i = inW xs[i] (W0 i)) ∧ (∀ i (h : i < xs.length), T i = dfW xs[i]) ∧ (∀ b, b < xs.length → ∀ v, hasN (W0 b) v = true ↔ (b, v) ∈ phE xs xs.length) ∧ (∀ b, b < xs.length → b ∈ ord) ∧ (∀ b, b < n → ∀ x, x < 64 * Kw → (hasN (WI b) x = true ↔ Sp I T (· ∈ ord) (tgN xs) b x)) ∧ ∀ b, b < n → ∀ x, (hasN (WX b) x = true ↔ hasN (W0 b) x = true ∨ ∃ t ∈ tgN xs b, hasN (WI t) x = true)
end Go.Proofs.YtlmaodcddbkllaaDoor

/-
  findLive: a round of its loop, put together.
-/
namespace Go.Proofs.YtlmaodcddbkllaaDoor
open Go.RowKit Go.Shelf

theorem own_block {w w' : World} {base e s : Nat} {v : Value} {n : Nat} {xs : List Value} (h : w.ownsRow base e s v n xs) (hb : ∀ g, v.ownBlock = some g → w'.heap[g]? = w.heap[g]?) : w'.ownsRow base e s v n xs := by
  obtain ⟨hl, h | ⟨g, cap, cur, rfl, hg, hh, hc, h1, hs, ht⟩⟩ := h
  · exact ⟨hl, Or.inl h⟩
  · exact ⟨hl, Or.inr ⟨g, cap, cur, rfl, hg, (hb g rfl).trans hh, hc, h1, hs, ht⟩⟩
theorem own_cells {w : World} {base e s : Nat} {v : Value} {n : Nat} {xs : List Value} (h : w.ownsRow base e s v n xs) {g : Nat} (hv : v.ownBlock = some g) : ∃ o : Obj, w.heap[g]? = some o ∧ o.isCells = true := by
  obtain ⟨_, h | ⟨g2, cap, cur, rfl, _, hh, _⟩⟩ := h
  · rw [h.1] at hv; cases hv
  · have e : g2 = g := by simpa [Value.ownBlock] using hv
    subst e
    exact ⟨_, hh, rfl⟩
theorem SeaAt.same {w w' : World} {bS gS BL K : Nat} {ab : Option Addr} {nb cb : Nat} {W : Nat → Nat} {v : Value} {L : List Nat} (h : SeaAt w bS gS BL K ab nb cb W v L) (hb : w'.heap[bS]? = w.heap[bS]?) (hg : w'.heap[gS]? = w.heap[gS]?) (ho : ∀ g, v.ownBlock = some g → w'.heap[g]? = w.heap[g]?) (hz : w.heap.size ≤ w'.heap.size) : SeaAt w' bS gS BL K ab nb cb W v L := by
  have ce : ∀ q, w'.cell? ⟨bS, q, none⟩ = w.cell? ⟨bS, q, none⟩ := fun q => World.cell?_of_block hb
  exact ⟨(ce 0).trans h.c0, (ce 1).trans h.c1, (ce 2).trans h.c2, fun q => (World.frozen?_of_block hb).trans (h.thaw q), h.row.of_block hg, own_block h.own ho, h.lb, h.lg, h.ne, Nat.le_trans h.sz hz⟩
section
variable {p : FlP} {wr w4 W w5 : World} {k : Nat} {d : FlD} {gB CB : Nat} {ps : List Pl} {u5 : Value}
theorem round_fr (hF4 : ∀ q, q < wr.heap.size → q ≠ p.Gi → w4.heap[q]? = wr.heap[q]?) (hz4 : wr.heap.size ≤ w4.heap.size) (hgB : wr.heap.size ≤ gB) (hI : FlI w4 gB (p.gd k) p.Kw CB (p.WO k) ps W) (hb5 : Below W.heap.size W w5) :
    ∀ q, q < wr.heap.size → q ≠ p.Gi → q ≠ p.gd k → q ≠ p.Gn → (w5.setCell ⟨p.Gn, k, none⟩ u5).heap[q]? = wr.heap[q]? := fun q h1 h2 h3 h4 => by
  have := hI.size
  exact (Below.heap_setCell _ _ _ _ h4).trans ((hb5.block q (by omega)).trans ((hI.fr q (by omega) (by omega) h3).trans (hF4 q h1 h2)))
theorem round_sea (h : FlK p wr k d) (s : FlS p) (hk : k < p.n) (hF4 : ∀ q, q < wr.heap.size → q ≠ p.Gi → w4.heap[q]? = wr.heap[q]?) (hz4 : wr.heap.size ≤ w4.heap.size) (hgB : wr.heap.size ≤ gB) (hI : FlI w4 gB (p.gd k) p.Kw CB (p.WO k) ps W) (hb5 : Below W.heap.size W w5) :
    SeaAt (w5.setCell ⟨p.Gn, k, none⟩ u5) p.bS p.gS p.M p.K2 p.a p.n p.c d.Ws d.vS d.Lf := by
  have hz := h.sz
  have fr := round_fr (u5 := u5) hF4 hz4 hgB hI hb5
  have a1 := s.a1
  have a5 := s.a5
  have a6 := s.a6 k hk
  have a8 := s.a8
  have a9 := s.a9
  have a10 := s.a10
  have hz1 := hI.size
  have hz5 := hb5.size
  refine h.sea.same (fr _ (by omega) (by omega) (by omega) (by omega)) (fr _ (by omega) (by omega) (by omega) (by omega)) (fun g e => ?_) (by rw [size_setCell]; omega)
  have := h.sea.own.lt g e
  exact fr g (by omega) (by omega) (by omega) (by omega)
theorem FlK.round {w7 : World} {X : Blk} {D : Nat} {ds : List Nat} {a5 : Option Addr} {c5 : Nat} {v' : Value} (h : FlK p wr k d) (s : FlS p) (hq : FlQ p k d) (hm : MksAt wr p.M ds) (hk : k < p.n) (hkx : k < p.xs.length) (ht : ∀ b, b < p.n → ∀ t ∈ tgN p.xs b, t < p.n)
    (hF4 : ∀ q, q < wr.heap.size → q ≠ p.Gi → w4.heap[q]? = wr.heap[q]?) (hE4 : w4.os = wr.os ∧ w4.tape = wr.tape ∧ w4.output = wr.output) (hz4 : wr.heap.size ≤ w4.heap.size) (hgB : wr.heap.size ≤ gB) (hgB4 : gB < w4.heap.size)
    (hGi : w4.rowIs p.Gi 91 p.n (fun i => if i = k then .slice (some ⟨gB, 0, none⟩) p.Kw CB else if i < k then .slice (some ⟨d.gi i, 0, none⟩) p.Kw (d.ci i) else .slice none 0 0))
    (hI : FlI w4 gB (p.gd k) p.Kw CB (p.WO k) ps W) (hS : ps.map Pl.dat = plL X) (hX : X = p.xs[k]) (hD : w4.heap.size ≤ D) (hKD : W.heap[D]? = some (.deferred (some [])))
    (hb5 : Below W.heap.size W w5) (hi5 : IntsAt w5 W.heap.size w5.heap.size a5 X.term.targets)
    (hf : FrV (w5.setCell ⟨p.Gn, k, none⟩ (.slice a5 X.term.targets.length c5)) w7 p.bS p.gS d.vS v') (hs : SeaAt w7 p.bS p.gS p.M p.K2 p.a p.n p.c (dfsV (tgN p.xs) p.n k (d.Ws, d.Lf)).1 v' (dfsV (tgN p.xs) p.n k (d.Ws, d.Lf)).2) :
    ∃ d', FlK p w7 (k + 1) d' ∧ FlQ p (k + 1) d' ∧ MksAt w7 p.M (D :: ds) := by
  have hz := h.sz
  have fr := round_fr (u5 := .slice a5 X.term.targets.length c5) hF4 hz4 hgB hI hb5
  have a1 := s.a1
  have a5' := s.a5
  have a6 := s.a6 k hk
  have a8 := s.a8
  have a9 := s.a9
  have a10 := s.a10
  have hz1 := hI.size
  have hz5 := hb5.size
  have hz6 := hf.size
  rw [size_setCell] at hz6
  have hvl : ∀ g, d.vS.ownBlock = some g → p.M ≤ g ∧ g < wr.heap.size := fun g e => h.sea.own.lt g e
  have hvo : ∀ g, v'.ownBlock = some g → d.vS.ownBlock = some g ∨ w5.heap.size ≤ g := fun g e => by
    rcases hf.own with q | q
    · exact Or.inl (by rw [← q]; exact e)
    · have := q g e; rw [size_setCell] at this; exact Or.inr this
  have hDl : D < W.heap.size := (Array.getElem?_eq_some_iff.1 hKD).1
  -- blocks that are new, or were there and were not touched
  have up : ∀ q, wr.heap.size ≤ q → q < w5.heap.size → w7.heap[q]? = w5.heap[q]? := fun q h1 h2 => (hf.block q (by rw [size_setCell]; exact h2) (by omega) (by omega) (fun e => by have := hvl q e.symm; omega)).trans (Below.heap_setCell _ _ _ _ (by show q ≠ p.Gn; omega))
  have lo : ∀ q, q < wr.heap.size → q ≠ p.Gn → q ≠ p.bS → q ≠ p.gS → some q ≠ d.vS.ownBlock → w7.heap[q]? = W.heap[q]? := fun q h1 h2 h3 h4 h5 => (hf.block q (by rw [size_setCell]; omega) h3 h4 h5).trans ((Below.heap_setCell _ _ _ _ h2).trans (hb5.block q (by omega)))
  have hown : ∀ q, q < p.M → some q ≠ d.vS.ownBlock := fun q hq e => by have := hvl q e.symm; omega
  have hfr : ∀ q, q < wr.heap.size → q ≠ p.Gi → q ≠ p.gd k → q ≠ p.Gn → q ≠ p.bS → q ≠ p.gS → some q ≠ d.vS.ownBlock → w7.heap[q]? = wr.heap[q]? := fun q h1 h2 h3 h4 h5 h6 h7 => (hf.block q (by rw [size_setCell]; omega) h5 h6 h7).trans (fr q h1 h2 h3 h4)
  have hwI : (ps.map Pl.dat).foldl stepI (p.WO k) = inW p.xs[k] (p.WO k) := by rw [hS, ← hX]; rfl
  have hwD : (ps.map Pl.dat).foldl stepD (fun _ => 0) = dfW p.xs[k] := by rw [hS, ← hX]; rfl
  have hIw : WsAt w7 gB p.Kw CB (inW p.xs[k] (p.WO k)) := by
    rw [← hwI]
    exact hI.ws.of_block ((up gB hgB (by omega)).trans (hb5.block gB (by omega)))
  have hDw : WsAt w7 (p.gd k) p.Kw p.Kw (dfW p.xs[k]) := by
    rw [← hwD]
    exact hI.wd.of_block (lo _ (by omega) (by omega) (by omega) (by omega) (hown _ (by omega)))
  have hGi7 := (hGi.of_block (hI.fr p.Gi (by omega) (by omega) (by omega))).of_block (lo p.Gi (by omega) (by omega) (by omega) (by omega) (hown _ (by omega)))
  have hGn5 : w5.rowIs p.Gn 40 p.n (fun i => if i < k then d.nx i else .slice none 0 0) := by
    refine ((h.nxr.of_block (hF4 p.Gn (by omega) (by omega))).of_block (hI.fr p.Gn (by omega) (by omega) (by omega))).of_block (hb5.block p.Gn (by omega))
  have hGn7 := (hGn5.set k (.slice a5 X.term.targets.length c5)).of_block (hf.block p.Gn (by rw [size_setCell]; omega) (by omega) (by omega) (hown _ (by omega)))
  have htg : tgI p.xs k = X.term.targets := by rw [tgI_at hkx, hX]
  refine ⟨_, h.next s hk (gB := gB) (CB := CB) (I' := inW p.xs[k] (p.WO k)) (D' := dfW p.xs[k]) (nk := .slice a5 X.term.targets.length c5) (v' := v') (Ws' := (dfsV (tgN p.xs) p.n k (d.Ws, d.Lf)).1) (Lf' := (dfsV (tgN p.xs) p.n k (d.Ws, d.Lf)).2) (hf.os.trans (hb5.os.trans (hI.os.trans hE4.1))) (hf.tape.trans (hb5.tape.trans (hI.tape.trans hE4.2.1))) (hf.output.trans (hb5.output.trans (hI.output.trans hE4.2.2))) (by omega) hfr hgB hIw hGi7 hDw hGn7 ⟨a5, c5, by rw [htg], ?_⟩ hs ?_ ?_, hq.next hk ht _ _ _ _ hkx rfl rfl, mks_next' hm hz (by omega) ?_ ?_⟩
  · rw [htg]
    intro i hi
    obtain ⟨b, o, e, hb, hc⟩ := hi5 i hi
    refine ⟨b, o, e, ⟨⟨by omega, by omega, fun e2 => ?_⟩, by omega⟩, (cell_of (up b (by omega) hb.2)).trans hc⟩
    rcases hvo b e2.symm with q | q
    · have := hvl b q; omega
    · omega
  · rcases hf.own with q | q
    · exact Or.inl q
    · exact Or.inr (fun g e => by have := q g e; rw [size_setCell] at this; omega)
  · intro e
    rcases hvo gB e.symm with q | q
    · have := hvl gB q; omega
    · omega
  · exact (up D (by omega) (by omega)).trans ((hb5.block D hDl).trans hKD)
  · intro q h1 h2
    have hql : q < wr.heap.size := (Array.getElem?_eq_some_iff.1 h2).1
    refine hfr q hql (by omega) (by omega) (by omega) (by omega) (by omega) (fun e => ?_)
    obtain ⟨o, h3, h4⟩ := own_cells h.sea.own e.symm
    rw [h2] at h3
    injection h3 with h3
    rw [← h3] at h4
    cases h4
end
end Go.Proofs.YtlmaodcddbkllaaDoor

/-
  findLive: behind its loop.
-/
namespace Go.Proofs.YtlmaodcddbkllaaDoor
open Go.RowKit Go.Shelf

def I0 (xs : List Blk) (WO : Nat → Nat → Nat) (i : Nat) : Nat → Nat := (xs[i]?).elim (fun _ => 0) fun x => inW x (WO i)
def T0 (xs : List Blk) (i : Nat) : Nat → Nat := (xs[i]?).elim (fun _ => 0) dfW
theorem I0_at {xs : List Blk} {WO : Nat → Nat → Nat} {i : Nat} (h : i < xs.length) : I0 xs WO i = inW xs[i] (WO i) := by simp [I0, h]
theorem T0_at {xs : List Blk} {i : Nat} (h : i < xs.length) : T0 xs i = dfW xs[i] := by simp [T0, h]
theorem I0_wd {xs : List Blk} {WO : Nat → Nat → Nat} (h : AllWd WO) : AllWd (I0 xs WO) := fun i => by
  unfold I0
  cases xs[i]? with
  | none => exact wd_zero
  | some x => exact inW_wd x (h i)
theorem T0_wd {xs : List Blk} : AllWd (T0 xs) := fun i => by
  unfold T0
  cases xs[i]? with
  | none => exact wd_zero
  | some x => exact dfW_wd x
theorem SetsAv.congr {w : World} {G n K : Nat} {gs cp : Nat → Nat} {Ws Ws' : Nat → Nat → Nat} (h : SetsAv w G n K gs cp Ws) (e : ∀ i, i < n → Ws i = Ws' i) : SetsAv w G n K gs cp Ws' :=
  ⟨h.row, fun i hi => by rw [← e i hi]; exact h.set i hi, h.inj, h.out⟩
def srcT (xs : List Blk) : List (List Nat) := (List.range xs.length).map (tgN xs)
theorem srcT_get (xs : List Blk) : (fun b => (srcT xs).getD b []) = tgN xs := by
  funext b
  unfold srcT
  by_cases h : b < xs.length
  · simp [h]
  · simp only [List.getD_eq_getElem?_getD, List.getElem?_map]
    rw [List.getElem?_eq_none (by simp; omega)]
    unfold tgN
    rw [List.getElem?_eq_none (by omega)]
    rfl
theorem natI_tg {xs : List Blk} (ho : OkF xs) {i : Nat} (h : i < xs.length) : natI (tgN xs i) = tgI xs i := by
  rw [tgN_at h, tgI_at h]
  exact natI_natL (fun v hv => (ho.tgt _ (List.getElem_mem h) v hv).1)
/-- What holds behind spread. -/
structure Fl2 (p : FlP) (gi ci : Nat → Nat) (nx : Nat → Value) (ds : List Nat) (W : World) (WI : Nat → Nat → Nat) : Prop where
  low : Below p.w.heap.size p.w W
  sz : p.M ≤ W.heap.size
  f0 : W.cell? ⟨p.w.heap.size, 0, none⟩ = some (.int .i64 (p.V : Int))
  r0 : W.cell? ⟨p.w.heap.size + 1, 0, none⟩ = some (.slice none 0 0)
  r1 : W.cell? ⟨p.w.heap.size + 1, 1, none⟩ = some (.slice none 0 0)
  rz : ∀ q, W.frozen? ⟨p.w.heap.size + 1, q, none⟩ = false
  l0 : W.cell? ⟨p.LB, 0, none⟩ = some (.slice (some ⟨p.Gi, 0, none⟩) p.n p.n)
  l1 : W.cell? ⟨p.LB, 1, none⟩ = some (.slice (some ⟨p.Go, 0, none⟩) p.n p.n)
  out : SetsAv W p.Go p.n p.Kw p.go (fun _ => p.Kw) p.WO
  inn : SetsAv W p.Gi p.n p.Kw gi ci WI
  igM : ∀ i, i < p.n → p.M ≤ gi i
  nxr : W.rowIs p.Gn 40 p.n nx
  nxs : ∀ i, i < p.n → ∃ a' c', nx i = .slice a' (tgI p.xs i).length c' ∧ IntsP W (fun b => p.M ≤ b) a' (tgI p.xs i)
  mks : MksAt W p.M ds
  wi : AllWd WI
  ord : ∃ ord : List Nat, (∀ b, b < p.n → b ∈ ord) ∧ ∀ b, b < p.n → ∀ x, x < 64 * p.Kw → (hasN (WI b) x = true ↔ Sp (I0 p.xs p.WO) (T0 p.xs) (· ∈ ord) (tgN p.xs) b x)
theorem FlK.spread {p : FlP} {W : World} {d : FlD} {ds : List Nat} (h : FlK p W p.n d) (s : FlS p) (q : FlQ p p.n d) (hm : MksAt W p.M ds) (ho : OkL p.V p.xs) (hn : p.n = p.xs.length) (hwo : AllWd p.WO) (hKw : p.Kw ≤ 100) :
    ∃ g C, d.vS = .slice (some ⟨g, 0, none⟩) d.Lf.length C ∧ Calls Tryd.prog 115 #[.slice (some ⟨g, 0, none⟩) d.Lf.length C, .slice (some ⟨p.Gn, 0, none⟩) p.n p.n, .slice (some ⟨p.Gi, 0, none⟩) p.n p.n, .slice (some ⟨p.Gd, 0, none⟩) p.n p.n] W.drew fun e w' => e = .returned (.tuple #[]) ∧ (∃ WI, Fl2 p d.gi d.ci d.nx ds w' WI) ∧ (∀ b, b < W.heap.size → b < p.M → w'.heap[b]? = W.heap[b]?) := by
  have hz := h.sz
  have hn1 : 1 ≤ p.n := by have := ho.okf.n1; omega
  have hn2 : p.n ≤ 1000 := by have := ho.okf.n2; omega
  have hL0 : 0 < d.Lf.length := List.length_pos_of_mem (q.mem 0 (q.sn 0 (by omega)))
  have hLn : d.Lf.length ≤ 1000 := by have := q.len; omega
  obtain ⟨g, C, hv, hg, _⟩ := own_some' h.sea.own hL0
  refine ⟨g, C, hv, ?_⟩
  have hown := h.sea.own
  rw [hv, show natV d.Lf = (natI d.Lf).map (Value.int .i64) by simp [natV, natI]] at hown
  obtain ⟨a1, c1, e1, hi1⟩ := ints_owned hown
  injection e1 with e1 e2 e3
  subst e1
  have a1' := s.a1
  have a5' := s.a5
  have a8' := s.a8
  have a9' := s.a9
  have HI : SetsAv W p.Gi p.n p.Kw d.gi d.ci (I0 p.xs p.WO) := ⟨h.inr.congr (fun i hi => by rw [if_pos hi]), fun i hi => by rw [I0_at (by omega), ← q.wi i (by omega) hi]; exact h.ins i hi, h.inj, fun i hi e => by have := h.igM i hi; omega⟩
  have HT : SetsAv W p.Gd p.n p.Kw p.gd (fun _ => p.Kw) (T0 p.xs) := h.defs.congr (fun i hi => by rw [T0_at (by omega), q.wd i (by omega), if_pos hi])
  have hrow : ∀ i, i < p.n → W.cell? ⟨p.Gn, 0 + i, none⟩ = some (d.nx i) := fun i hi => by
    rw [Nat.zero_add]
    exact (h.nxr.cell hi).trans (by rw [if_pos hi])
  have hsrc : RowsP W (fun k => ∀ i, i < p.n → k ≠ d.gi i) (some ⟨p.Gn, 0, none⟩) ((srcT p.xs).map natI) := fun i hi => by
    have hi' : i < p.xs.length := by simpa [srcT] using hi
    have hin : i < p.n := by omega
    obtain ⟨a', c', e, hp⟩ := h.nxs i hin
    have eg : ((srcT p.xs).map natI)[i] = tgI p.xs i := by
      simp only [List.getElem_map, srcT, List.getElem_range]
      exact natI_tg ho.okf hi'
    refine ⟨p.Gn, 0, rfl, ⟨fun j hj e => by have := h.igM j hj; omega, h.nxr.lt⟩, a', c', ?_, ?_⟩
    · rw [eg, hrow i hin, e]
    · rw [eg]
      intro j hj
      obtain ⟨b, o, e2, hb, hc⟩ := hp j hj
      exact ⟨b, o, e2, ⟨hb.1.2.1, hb.2⟩, hc⟩
  refine (spread_valueNo g 0 d.Lf.length C d.Lf p.M W.heap.size (some ⟨p.Gn, 0, none⟩) p.n p.n (srcT p.xs) p.Gi p.Gd p.n p.Kw d.gi p.gd d.ci (fun _ => p.Kw) (I0 p.xs p.WO) (T0 p.xs) W.drew (hide hi1) (hide rfl) hLn hL0 (hide hsrc) (hide (by simp [srcT]; exact hn)) (hide (by simp [srcT]; exact hn.symm)) hKw (Nat.le_refl _) (hide ⟨HI.row, fun i hi => (HI.set i hi).drew, HI.inj, HI.out⟩) (hide ⟨HT.row, fun i hi => (HT.set i hi).drew, HT.inj, HT.out⟩) (hide (I0_wd hwo)) (hide T0_wd) (hide (fun i hi => by have := h.igM i hi; omega)) (hide (fun i j hi hj => by have := h.igM j hj; have := s.a6 i hi; omega)) (hide q.lt) (hide (fun l hl => ?_))).mono ?_
  · obtain ⟨i, hi, rfl⟩ := List.mem_map.1 hl
    have hi' := List.mem_range.1 hi
    refine ⟨?_, fun t ht => by have := ho.okf.tg i hi' t ht; omega⟩
    rw [tgN_at hi', List.length_map]
    have := tg_two p.xs[i].term
    omega
  · rintro e w' ⟨rfl, hf, Ws, hwd, hset, hiff⟩
    have hf' : FrS W w' p.n d.gi := ⟨hf.os, hf.tape, hf.output, hf.size, hf.block⟩
    have lo : ∀ b, b < p.M → w'.heap[b]? = W.heap[b]? := fun b hb => hf'.block b (by omega) (fun i hi e => by have := h.igM i hi; omega)
    have hw := h.low.size
    have a2' := s.a2
    have a3' := s.a3
    refine ⟨rfl, ⟨Ws, ⟨⟨hf'.os.trans h.low.os, hf'.tape.trans h.low.tape, hf'.output.trans h.low.output, Nat.le_trans hw hf'.size, fun b hb => (lo b (by omega)).trans (h.low.block b hb)⟩, Nat.le_trans hz hf'.size, (cell_of (lo _ (by omega))).trans h.f0, (cell_of (lo _ (by omega))).trans h.r0, (cell_of (lo _ (by omega))).trans h.r1, fun o => by rw [World.frozen?_of_block (a := ⟨p.w.heap.size + 1, o, none⟩) (lo (p.w.heap.size + 1) (by omega))]; exact h.rz o, (cell_of (lo _ (by omega))).trans h.l0, (cell_of (lo _ (by omega))).trans h.l1, ⟨h.out.row.of_block (lo _ (by omega)), fun i hi => (h.out.set i hi).of_block (lo _ (by have := s.a4 i hi; omega)), h.out.inj, h.out.out⟩, hset, h.igM, (h.nxr.of_block (lo _ (by omega))).congr (fun i hi => by rw [if_pos hi]), fun i hi => ?_, ⟨hm.nd, hm.ge, fun D hD => ?_⟩, hwd, d.Lf, fun b hb => q.mem b (q.sn b hb), fun b hb x hx => ?_⟩⟩, fun b h1 h2 => lo b h2⟩
    · obtain ⟨a', c', e, hp⟩ := h.nxs i hi
      refine ⟨a', c', e, fun j hj => ?_⟩
      obtain ⟨b, o, e2, hb, hc⟩ := hp j hj
      exact ⟨b, o, e2, ⟨hb.1.1, Nat.lt_of_lt_of_le hb.2 hf'.size⟩, (cell_of (hf'.block b hb.2 hb.1.2.1)).trans hc⟩
    · have hD' := hm.obj D hD
      refine (hf'.block D (Array.getElem?_eq_some_iff.1 hD').1 (fun i hi e => ?_)).trans hD'
      obtain ⟨o, h3, h4⟩ := (h.ins i hi).obj
      rw [← e, hD'] at h3
      injection h3 with h3
      rw [← h3] at h4
      cases h4
    · rw [← srcT_get]
      exact hiff b hb x hx
/-- The sets at the blocks' ends, as they are filled. -/
def outW (WI : Nat → Nat → Nat) (l : List Nat) (W : Nat → Nat) : Nat → Nat := l.foldl (fun W t => butN W (WI t) (fun _ => 0)) W
theorem outW_wd {WI : Nat → Nat → Nat} (h : AllWd WI) : ∀ (l : List Nat) {W : Nat → Nat}, WdOk W → WdOk (outW WI l W)
  | [], _, hW => hW
  | t :: l, _, hW => outW_wd h l (but_wd hW (h t))
theorem outW_has {WI : Nat → Nat → Nat} (h : AllWd WI) (x : Nat) : ∀ (l : List Nat) {W : Nat → Nat}, WdOk W → (hasN (outW WI l W) x = true ↔ hasN W x = true ∨ ∃ t ∈ l, hasN (WI t) x = true)
  | [], W, _ => by simp [outW]
  | t :: l, W, hW => by
    show hasN (outW WI l (butN W (WI t) (fun _ => 0))) x = true ↔ _
    rw [outW_has h x l (but_wd hW (h t)), has_but hW wd_zero, has_none]
    simp only [Bool.not_false, Bool.and_true, Bool.or_eq_true, List.mem_cons, exists_eq_or_imp, or_assoc]
theorem outW_take {WI : Nat → Nat → Nat} {l : List Nat} {j : Nat} (h : j < l.length) (W : Nat → Nat) : outW WI (l.take (j + 1)) W = butN (outW WI (l.take j) W) (WI l[j]) (fun _ => 0) := by
  unfold outW
  rw [List.take_succ_eq_append_getElem h, List.foldl_append]
  rfl
def outX (xs : List Blk) (WI WO : Nat → Nat → Nat) (b j : Nat) : Nat → Nat → Nat := fun i => if i < b then outW WI (tgN xs i) (WO i) else if i = b then outW WI ((tgN xs i).take j) (WO i) else WO i
theorem outX_wd {xs : List Blk} {WI WO : Nat → Nat → Nat} (h : AllWd WI) (hO : AllWd WO) (b j : Nat) : AllWd (outX xs WI WO b j) := fun i => by
  unfold outX
  split
  · exact outW_wd h _ (hO i)
  · split
    · exact outW_wd h _ (hO i)
    · exact hO i
/-- Behind the set that is empty. -/
structure Fl3 (p : FlP) (gi ci : Nat → Nat) (ds : List Nat) (WI : Nat → Nat → Nat) (W2 : World) (gN : Nat) (wr : World) (b j : Nat) : Prop where
  os : wr.os = W2.os
  tape : wr.tape = W2.tape
  output : wr.output = W2.output
  size : W2.heap.size ≤ wr.heap.size
  fr : ∀ q, q < W2.heap.size → (∀ i, i < p.n → q ≠ p.go i) → wr.heap[q]? = W2.heap[q]?
  out : SetsAv wr p.Go p.n p.Kw p.go (fun _ => p.Kw) (outX p.xs WI p.WO b j)
theorem Fl3.start {p : FlP} {gi ci : Nat → Nat} {nx : Nat → Value} {ds : List Nat} {WI : Nat → Nat → Nat} {W W2 : World} {gN : Nat} (h : Fl2 p gi ci nx ds W WI) (k : Below W.heap.size W W2) : Fl3 p gi ci ds WI W2 gN W2 0 0 :=
  ⟨rfl, rfl, rfl, Nat.le_refl _, fun _ _ _ => rfl, (h.out.keep k).congr (fun i _ => by unfold outX; by_cases e : i = 0 <;> simp [e, outW])⟩
theorem Fl3.row {p : FlP} {gi ci : Nat → Nat} {ds : List Nat} {WI : Nat → Nat → Nat} {W2 wr : World} {gN b j : Nat} (h : Fl3 p gi ci ds WI W2 gN wr b j) (hj : (tgN p.xs b).length ≤ j) : Fl3 p gi ci ds WI W2 gN wr (b + 1) 0 :=
  ⟨h.os, h.tape, h.output, h.size, h.fr, h.out.congr (fun i _ => by
    unfold outX
    by_cases e1 : i < b
    · rw [if_pos e1, if_pos (by omega)]
    · by_cases e2 : i = b
      · rw [if_neg e1, if_pos e2, if_pos (by omega), e2, List.take_of_length_le hj]
      · rw [if_neg e1, if_neg e2, if_neg (by omega)]
        by_cases e3 : i = b + 1
        · rw [if_pos e3]; simp [outW]
        · rw [if_neg e3])⟩
theorem Fl3.next {p : FlP} {gi ci : Nat → Nat} {ds : List Nat} {WI : Nat → Nat → Nat} {W2 wr w1 : World} {gN b j : Nat} (h : Fl3 p gi ci ds WI W2 gN wr b j) (hb : b < p.n) (hj : j < (tgN p.xs b).length) (k : wr.grownBy w1 (some (p.go b))) (hw : WsAt w1 (p.go b) p.Kw p.Kw (butN (outX p.xs WI p.WO b j b) (WI (tgN p.xs b)[j]) (fun _ => 0))) : Fl3 p gi ci ds WI W2 gN w1 b (j + 1) := by
  refine ⟨k.os.trans h.os, k.tape.trans h.tape, k.output.trans h.output, Nat.le_trans h.size k.size, fun q h1 h2 => (k.block q (Nat.lt_of_lt_of_le h1 h.size) (fun e => h2 b hb (by injection e))).trans (h.fr q h1 h2), (h.out.wrote hb k hw).congr (fun i _ => ?_)⟩
  by_cases e : i = b
  · subst e
    simp only [outX, Nat.lt_irrefl, if_false, if_true]
    rw [outW_take hj]
  · unfold outX
    rw [if_neg e]
    by_cases e1 : i < b
    · rw [if_pos e1, if_pos e1]
    · rw [if_neg e1, if_neg e1, if_neg e, if_neg e]
theorem Fl3.below {p : FlP} {gi ci : Nat → Nat} {ds : List Nat} {WI : Nat → Nat → Nat} {W2 wr w1 : World} {gN b j : Nat} (h : Fl3 p gi ci ds WI W2 gN wr b j) (k : Below wr.heap.size wr w1) : Fl3 p gi ci ds WI W2 gN w1 b j :=
  ⟨k.os.trans h.os, k.tape.trans h.tape, k.output.trans h.output, Nat.le_trans h.size k.size, fun q h1 h2 => (k.block q (Nat.lt_of_lt_of_le h1 h.size)).trans (h.fr q h1 h2), h.out.keep k⟩
/-- The end. -/
theorem Fl3.res {p : FlP} {gi ci : Nat → Nat} {nx : Nat → Value} {ds : List Nat} {WI : Nat → Nat → Nat} {W W2 wr w' : World} {gN : Nat} (h : Fl3 p gi ci ds WI W2 gN wr p.n 0) (h2 : Fl2 p gi ci nx ds W WI) (s : FlS p) (k2 : Below W.heap.size W W2) (hn : p.n = p.xs.length) (hwo : AllWd p.WO) (hhas : ∀ b, b < p.n → ∀ v, hasN (p.WO b) v = true ↔ (b, v) ∈ phE p.xs p.n)
    (hk : ∀ q, q < wr.heap.size → q ≠ p.w.heap.size + 1 → q < p.M ∨ (∃ i, i < p.n ∧ q = gi i) → w'.heap[q]? = wr.heap[q]?) (ho : w'.os = wr.os) (htp : w'.tape = wr.tape) (hou : w'.output = wr.output) (hz : wr.heap.size ≤ w'.heap.size) : FlR p.w w' p.n p.Kw p.xs p.Gi p.Go gi p.go ci WI (outX p.xs WI p.WO p.n 0) := by
  have hzw := h2.low.size
  have a1 := s.a1
  have a3 := s.a3
  have a5 := s.a5
  have a9 := s.a9
  have hM := h2.sz
  have hz2 := k2.size
  have hz3 := h.size
  have lo : ∀ q, q < p.M → q ≠ p.w.heap.size + 1 → (∀ i, i < p.n → q ≠ p.go i) → w'.heap[q]? = W.heap[q]? := fun q h1 h3 h4 => (hk q (by omega) h3 (Or.inl h1)).trans ((h.fr q (by omega) h4).trans (k2.block q (by omega)))
  refine ⟨⟨ho.trans (h.os.trans (k2.os.trans h2.low.os)), htp.trans (h.tape.trans (k2.tape.trans h2.low.tape)), hou.trans (h.output.trans (k2.output.trans h2.low.output)), by omega, fun q hq => (lo q (by omega) (by omega) (fun i hi e => by have := s.a4 i hi; omega)).trans (h2.low.block q hq)⟩, ⟨h2.inn.row.of_block (lo p.Gi (by omega) (by omega) (fun i hi e => (s.d4 i hi).1 e.symm)), fun i hi => ?_, h2.inn.inj, h2.inn.out⟩, ⟨h.out.row.of_block (hk p.Go (by omega) (by omega) (Or.inl (by omega))), fun i hi => (h.out.set i hi).of_block (hk _ (by have := s.a4 i hi; omega) (by have := s.a4 i hi; omega) (Or.inl (by have := s.a4 i hi; omega))), h.out.inj, h.out.out⟩, h2.wi, outX_wd h2.wi hwo _ _, ⟨by omega, by omega⟩, fun i hi => ⟨by have := h2.igM i hi; omega, by have := s.a4 i hi; omega⟩, ?_⟩
  · have hg := h2.igM i hi
    have hl := (h2.inn.set i hi).lt
    refine (h2.inn.set i hi).of_block ((hk (gi i) (by omega) (by omega) (Or.inr ⟨i, hi, rfl⟩)).trans ((h.fr (gi i) (by omega) (fun j hj e => by have := s.a4 j hj; omega)).trans (k2.block _ hl)))
  · obtain ⟨ord, h3, h4⟩ := h2.ord
    refine ⟨I0 p.xs p.WO, T0 p.xs, p.WO, ord, fun i hi => I0_at hi, fun i hi => T0_at hi, fun b hb v => by rw [← hn]; exact hhas b (by omega) v, fun b hb => h3 b (by omega), h4, fun b hb x => ?_⟩
    unfold outX
    rw [if_pos hb]
    exact outW_has h2.wi x _ (hwo b)
theorem leaves_mks' {F : Fence} {n : Nat} {P : Program} {fn : Func} {tmps : Array Value} {R : Ending → World → Prop} {B : Nat} : ∀ (ds : List Nat) (W : World), MksAt W B ds → (∀ W' : World, W'.os = W.os → W'.tape = W.tape → W'.output = W.output → W.heap.size ≤ W'.heap.size → (∀ k, k ∉ ds → W'.heap[k]? = W.heap[k]?) → ∃ v, (results fn tmps).run P W' = .ok v W' ∧ R (.returned v) W') → LeavesInM F n P fn tmps R (mks ds) .returning W
  | [], W, _, h => h W rfl rfl rfl (Nat.le_refl _) (fun _ _ => rfl)
  | D :: ds, W, hm, h => by
    refine ⟨by simp, Or.inl ⟨D, _, rfl, run_takeDeferred (hm.obj D List.mem_cons_self), ?_⟩⟩
    have hg := grownBy_putObj' W D (.deferred none)
    refine leaves_mks' (B := B) ds _ ⟨(List.nodup_cons.1 hm.nd).2, fun k hk => hm.ge k (List.mem_cons_of_mem _ hk), fun k hk => ?_⟩ (fun W' k1 k2 k3 k4 k5 => h W' (k1.trans hg.os) (k2.trans hg.tape) (k3.trans hg.output) (Nat.le_trans hg.size k4) (fun q hq => ?_))
    · exact (World.putObj_heap_other (fun e => (List.nodup_cons.1 hm.nd).1 (by rw [← e]; exact hk))).trans (hm.obj k (List.mem_cons_of_mem _ hk))
    · have h1 : q ≠ D ∧ q ∉ ds := by simpa using hq
      exact (k5 q h1.2).trans (World.putObj_heap_other h1.1)
end Go.Proofs.YtlmaodcddbkllaaDoor
