import Derived.Test.YtanaeindldcapaaDoorFK0
namespace Go.Proofs.YtanaeindldcapaaDoor
def defI (y : Ins) : Int := if dB y.op then y.dst else -1
/-- What is met of v along instructions, at the end fin: 1 a read, 2 a definition, 0 neither. -/
def bareF (v : Int) (fin : Bool) : List Ins → Nat
  | [] => if fin then 1 else 0
  | y :: ys => if hasI (rdI y) v then 1 else if defI y = v then 2 else bareF v fin ys
def bareM (x : Blk) (E : List Int) (v : Int) : Nat := bareF v (hasI (rdT x.term) v || hasI E v) x.instrs
def stepY (W : Nat → Nat) (y : Ins) : Nat → Nat := addsN (delsN W (natL (writesI y))) (natL (rdI y))
theorem hasI_iff {l : List Int} {v : Int} : hasI l v = true ↔ v ∈ l := by unfold hasI; exact List.contains_iff_mem
theorem has_stepY {W : Nat → Nat} {y : Ins} (h1 : ∀ v ∈ rdI y, 0 ≤ v) (h2 : ∀ v ∈ writesI y, 0 ≤ v) (v : Nat) : hasN (stepY W y) v = true ↔ (v : Int) ∈ rdI y ∨ ((v : Int) ∉ writesI y ∧ hasN W v = true) := by
  unfold stepY
  rw [has_adds, has_dels, Bool.or_eq_true, decide_eq_true_eq, mem_natL h1, Bool.and_eq_true, decide_eq_true_eq, mem_natL h2]
theorem def_writes {y : Ins} {v : Nat} : defI y = (v : Int) ↔ (v : Int) ∈ writesI y := by
  unfold defI writesI
  by_cases e : dB y.op = true
  · rw [if_pos e, if_pos e]; simp [eq_comm]
  · rw [if_neg e, if_neg e]; simp
theorem foldY {v : Nat} {W : Nat → Nat} : ∀ (ys : List Ins), (∀ y ∈ ys, (∀ v ∈ rdI y, 0 ≤ v) ∧ ∀ v ∈ writesI y, 0 ≤ v) → (hasN (ys.foldr (fun y acc => stepY acc y) W) v = true ↔ bareF (v : Int) (hasN W v) ys = 1)
  | [], _ => by
    unfold bareF
    cases h : hasN W v <;> simp [h]
  | y :: ys, hy => by
    have ih := foldY (v := v) (W := W) ys (fun z hz => hy z (List.mem_cons_of_mem _ hz))
    have h0 := hy y List.mem_cons_self
    rw [List.foldr_cons, has_stepY h0.1 h0.2, ih]
    show _ ↔ (if hasI (rdI y) (v : Int) then 1 else if defI y = (v : Int) then 2 else bareF (v : Int) (hasN W v) ys) = 1
    by_cases e1 : (v : Int) ∈ rdI y
    · rw [if_pos (hasI_iff.2 e1)]; simp [e1]
    · rw [if_neg (fun h => e1 (hasI_iff.1 h))]
      by_cases e2 : (v : Int) ∈ writesI y
      · rw [if_pos (def_writes.2 e2)]; simp [e1, e2]
      · rw [if_neg (fun h => e2 (def_writes.1 h))]; simp [e1, e2]
theorem bwF_map {α β : Type} (l : List α) (g : Fin l.length → β) : (bwF l.length 0).map g = ((List.finRange l.length).map g).reverse := by
  unfold bwF
  rw [List.take_of_length_le (by simp), List.map_reverse]
theorem fin_map {α : Type} (l : List α) : (List.finRange l.length).map (fun j => l[j]) = l := by
  apply List.ext_getElem
  · simp
  · intro i h1 h2
    simp
theorem bw_fold (x : Blk) (W : Nat → Nat) : ((bwF x.instrs.length 0).map (plI x)).foldl stepI W = x.instrs.foldr (fun y acc => stepY acc y) W := by
  rw [bwF_map, List.foldl_reverse]
  conv => rhs; rw [← fin_map x.instrs]
  rw [List.foldr_map, List.foldr_map]
  rfl
theorem inW_iff {x : Blk} {W : Nat → Nat} {v : Nat} (hy : ∀ y ∈ x.instrs, (∀ v ∈ rdI y, 0 ≤ v) ∧ ∀ v ∈ writesI y, 0 ≤ v) (ht : ∀ v ∈ rdT x.term, 0 ≤ v) (hp : ∀ p ∈ x.phis, 0 ≤ p.dst) :
    hasN (inW x W) v = true ↔ (v : Int) ∉ x.phis.map Ph.dst ∧ bareF (v : Int) (hasI (rdT x.term) (v : Int) || hasN W v) x.instrs = 1 := by
  unfold inW plL
  rw [List.foldl_cons, List.foldl_append, List.foldl_cons, List.foldl_nil, bw_fold]
  have hd : ∀ v ∈ x.phis.map Ph.dst, 0 ≤ v := fun v hv => by obtain ⟨p, h1, rfl⟩ := List.mem_map.1 hv; exact hp p h1
  show hasN (addsN (delsN _ (natL (x.phis.map Ph.dst))) (natL [])) v = true ↔ _
  rw [has_adds, has_dels, Bool.or_eq_true, decide_eq_true_eq, Bool.and_eq_true, decide_eq_true_eq, mem_natL hd]
  rw [foldY x.instrs hy]
  have e : hasN (stepI W (x.instrs.length + 1, rdT x.term, [])) v = (hasI (rdT x.term) (v : Int) || hasN W v) := by
    show hasN (addsN (delsN W (natL [])) (natL (rdT x.term))) v = _
    rw [has_adds, has_dels, Bool.eq_iff_iff, Bool.or_eq_true, Bool.or_eq_true, decide_eq_true_eq, mem_natL ht, hasI_iff]
    simp [natL]
  rw [e]
  simp [natL]
theorem dfW_iff {x : Blk} {v : Nat} (hy : ∀ y ∈ x.instrs, ∀ v ∈ writesI y, 0 ≤ v) (hp : ∀ p ∈ x.phis, 0 ≤ p.dst) : hasN (dfW x) v = true ↔ (v : Int) ∈ x.phis.map Ph.dst ∨ ∃ y ∈ x.instrs, (v : Int) ∈ writesI y := by
  have hf : ∀ (l : List (Nat × List Int × List Int)) (W : Nat → Nat), hasN (l.foldl stepD W) v = true ↔ hasN W v = true ∨ ∃ q ∈ l, v ∈ natL q.2.2 := by
    intro l
    induction l with
    | nil => intro W; simp
    | cons q l ih =>
      intro W
      rw [List.foldl_cons, ih]
      unfold stepD
      rw [has_adds, Bool.or_eq_true, decide_eq_true_eq]
      simp only [List.mem_cons, exists_eq_or_imp]
      constructor
      · rintro ((h | h) | h)
        · exact Or.inr (Or.inl h)
        · exact Or.inl h
        · exact Or.inr (Or.inr h)
      · rintro (h | h | h)
        · exact Or.inl (Or.inr h)
        · exact Or.inl (Or.inl h)
        · exact Or.inr h
  have hd : ∀ v ∈ x.phis.map Ph.dst, 0 ≤ v := fun v hv => by obtain ⟨p, h1, rfl⟩ := List.mem_map.1 hv; exact hp p h1
  unfold dfW
  rw [hf, has_none]
  unfold plL
  constructor
  · rintro (h | ⟨q, hq, hv⟩)
    · cases h
    · rcases List.mem_cons.1 hq with rfl | hq
      · simp [natL] at hv
      · rcases List.mem_append.1 hq with hq | hq
        · obtain ⟨j, _, rfl⟩ := List.mem_map.1 hq
          exact Or.inr ⟨x.instrs[j], List.getElem_mem _, (mem_natL (hy _ (List.getElem_mem _))).1 hv⟩
        · rw [List.mem_singleton.1 hq] at hv
          exact Or.inl ((mem_natL hd).1 hv)
  · rintro (h | ⟨y, hy', hv⟩)
    · exact Or.inr ⟨_, plL_last x, (mem_natL hd).2 h⟩
    · obtain ⟨j, hj, rfl⟩ := List.getElem_of_mem hy'
      exact Or.inr ⟨_, plI_mem x ⟨j, hj⟩, (mem_natL (hy _ (List.getElem_mem _))).2 hv⟩
theorem bareF_zero {v : Nat} {fin : Bool} : ∀ (ys : List Ins), bareF (v : Int) fin ys = 0 → ∀ y ∈ ys, (v : Int) ∉ writesI y
  | [], _, _, h => by cases h
  | z :: zs, h, y, hy => by
    have h' : (if hasI (rdI z) (v : Int) then 1 else if defI z = (v : Int) then 2 else bareF (v : Int) fin zs) = 0 := h
    by_cases e1 : hasI (rdI z) (v : Int) = true
    · rw [if_pos e1] at h'; cases h'
    · rw [if_neg e1] at h'
      by_cases e2 : defI z = (v : Int)
      · rw [if_pos e2] at h'; cases h'
      · rw [if_neg e2] at h'
        rcases List.mem_cons.1 hy with rfl | hy
        · exact fun h3 => e2 (def_writes.2 h3)
        · exact bareF_zero zs h' y hy
theorem bareF_two {v : Nat} {fin : Bool} : ∀ (ys : List Ins), (∀ y ∈ ys, (v : Int) ∉ writesI y) → bareF (v : Int) fin ys ≠ 2
  | [], _ => by unfold bareF; split <;> simp
  | z :: zs, h => by
    show (if hasI (rdI z) (v : Int) then 1 else if defI z = (v : Int) then 2 else bareF (v : Int) fin zs) ≠ 2
    by_cases e1 : hasI (rdI z) (v : Int) = true
    · rw [if_pos e1]; simp
    · rw [if_neg e1, if_neg (fun e2 => h z List.mem_cons_self (def_writes.1 e2))]
      exact bareF_two zs (fun y hy => h y (List.mem_cons_of_mem _ hy))
theorem bareF_le {v : Int} {fin : Bool} : ∀ (ys : List Ins), bareF v fin ys ≤ 2
  | [] => by unfold bareF; split <;> simp
  | z :: zs => by
    show (if hasI (rdI z) v then 1 else if defI z = v then 2 else bareF v fin zs) ≤ 2
    split
    · decide
    · split
      · decide
      · exact bareF_le zs
theorem bareF_one {v : Int} {fin : Bool} : ∀ (ys : List Ins), bareF v fin ys = 1 → fin = true ∨ ∃ y ∈ ys, v ∈ rdI y
  | [], h => by
    have h' : (if fin then 1 else 0) = 1 := h
    cases fin <;> simp_all
  | z :: zs, h => by
    have h' : (if hasI (rdI z) v then 1 else if defI z = v then 2 else bareF v fin zs) = 1 := h
    by_cases e1 : hasI (rdI z) v = true
    · exact Or.inr ⟨z, List.mem_cons_self, hasI_iff.1 e1⟩
    · rw [if_neg e1] at h'
      by_cases e2 : defI z = v
      · rw [if_pos e2] at h'; cases h'
      · rw [if_neg e2] at h'
        rcases bareF_one zs h' with h3 | ⟨y, hy, h3⟩
        · exact Or.inl h3
        · exact Or.inr ⟨y, List.mem_cons_of_mem _ hy, h3⟩
/-- What the phis of block t read from block p, in the model's order. -/
def edgeU (xs : List Blk) (p t : Int) : List Int := match xs[t.toNat]? with
  | none => []
  | some x => if x.phis = [] then [] else (List.range (predsFrom xs 0 t).length).flatMap fun i => if (predsFrom xs 0 t).getD i 0 = p then x.phis.map (fun h => h.args.getD i 0) else []
def edgesM (xs : List Blk) (b : Nat) : List Int := match xs[b]? with
  | none => []
  | some x => x.term.targets.flatMap (edgeU xs (b : Int))
theorem edges_iff {V : Nat} {xs : List Blk} (ho : OkL V xs) {b : Nat} (hb : b < xs.length) {v : Nat} : (v : Int) ∈ edgesM xs b ↔ (b, v) ∈ phE xs xs.length := by
  have hT0 : ∀ x ∈ xs, ∀ t ∈ x.term.targets, 0 ≤ t := fun x hx t ht => (ho.okf.tgt x hx t ht).1
  have hE : (v : Int) ∈ edgesM xs b ↔ ∃ t : Nat, ∃ ht : t < xs.length, ∃ i, i < (predN xs xs.length t).length ∧ (predN xs xs.length t).getD i 0 = b ∧ ∃ p ∈ xs[t].phis, p.args.getD i 0 = (v : Int) := by
    unfold edgesM
    rw [List.getElem?_eq_getElem hb]
    simp only [List.mem_flatMap]
    constructor
    · rintro ⟨t, ht, hv⟩
      have h0 := ho.okf.tgt _ (List.getElem_mem hb) t ht
      obtain ⟨k, rfl⟩ := Int.eq_ofNat_of_zero_le h0.1
      have hk : k < xs.length := by have := h0.2; omega
      refine ⟨k, hk, ?_⟩
      unfold edgeU at hv
      rw [Int.toNat_natCast, List.getElem?_eq_getElem hk] at hv
      simp only at hv
      by_cases e : xs[k].phis = []
      · rw [if_pos e] at hv; cases hv
      · rw [if_neg e] at hv
        obtain ⟨i, hi, h2⟩ := List.mem_flatMap.1 hv
        rw [preds_all hT0] at hi h2
        have hi' : i < (predN xs xs.length k).length := by simpa [natI] using hi
        by_cases e2 : (natI (predN xs xs.length k)).getD i 0 = (b : Int)
        · rw [if_pos e2] at h2
          obtain ⟨p, h3, h4⟩ := List.mem_map.1 h2
          refine ⟨i, hi', ?_, p, h3, h4⟩
          simp only [natI, List.getD_eq_getElem?_getD, List.getElem?_map, List.getElem?_eq_getElem hi', Option.map_some, Option.getD_some] at e2 ⊢
          have : ((predN xs xs.length k)[i] : Int) = (b : Int) := e2
          omega
        · rw [if_neg e2] at h2; cases h2
    · rintro ⟨t, ht, i, hi, h1, p, h2, h3⟩
      have hm : b ∈ predN xs xs.length t := by
        rw [← h1, List.getD_eq_getElem?_getD, List.getElem?_eq_getElem hi]
        exact List.getElem_mem hi
      have htg : (t : Int) ∈ xs[b].term.targets := by
        have := (predN_mem.1 hm).2
        rw [tgN_at hb] at this
        obtain ⟨z, hz, e⟩ := List.mem_map.1 this
        have := hT0 _ (List.getElem_mem hb) z hz
        rw [show (t : Int) = z by omega]
        exact hz
      refine ⟨(t : Int), htg, ?_⟩
      unfold edgeU
      rw [Int.toNat_natCast, List.getElem?_eq_getElem ht]
      simp only
      rw [if_neg (fun e => by rw [e] at h2; cases h2), preds_all hT0]
      refine List.mem_flatMap.2 ⟨i, by simpa [natI] using hi, ?_⟩
      rw [if_pos (by
        simp only [natI, List.getD_eq_getElem?_getD, List.getElem?_map, List.getElem?_eq_getElem hi, Option.map_some, Option.getD_some] at h1 ⊢
        show ((predN xs xs.length t)[i] : Int) = (b : Int)
        rw [h1])]
      exact List.mem_map.2 ⟨p, h2, h3⟩
  rw [hE]
  unfold phE phB phT
  rw [List.mem_flatMap]
  constructor
  · rintro ⟨t, ht, i, hi, h1, p, h2, h3⟩
    refine ⟨t, List.mem_range.2 ht, ?_⟩
    rw [List.getElem?_eq_getElem ht]
    refine List.mem_flatMap.2 ⟨p, h2, ?_⟩
    have hl := (ho.pha t ht p h2).1
    rw [preds_all hT0] at hl
    have hl' : p.args.length = (predN xs xs.length t).length := by simpa [natI] using hl
    have hi2 : i < p.args.length := by omega
    rw [List.getD_eq_getElem?_getD, List.getElem?_eq_getElem hi2] at h3
    rw [List.getD_eq_getElem?_getD, List.getElem?_eq_getElem hi] at h1
    have hz : i < ((predN xs xs.length t).zip (natL p.args)).length := by simp [natL]; omega
    have e : ((predN xs xs.length t).zip (natL p.args))[i] = (b, v) := by
      rw [List.getElem_zip]
      simp only [natL, List.getElem_map]
      have h1' : (predN xs xs.length t)[i] = b := h1
      have h3' : p.args[i] = (v : Int) := h3
      rw [h1', h3']
      rfl
    rw [← e]
    exact List.getElem_mem hz
  · rintro ⟨t, ht, hv⟩
    have ht := List.mem_range.1 ht
    rw [List.getElem?_eq_getElem ht] at hv
    obtain ⟨p, h2, h3⟩ := List.mem_flatMap.1 (show _ ∈ List.flatMap _ xs[t].phis from hv)
    obtain ⟨i, hi, e⟩ := List.getElem_of_mem h3
    rw [List.getElem_zip] at e
    have hi1 : i < (predN xs xs.length t).length := by simp at hi; omega
    have hi2 : i < p.args.length := by simp [natL] at hi; omega
    refine ⟨t, ht, i, hi1, ?_, p, h2, ?_⟩
    · rw [List.getD_eq_getElem?_getD, List.getElem?_eq_getElem hi1]
      exact congrArg Prod.fst e
    · rw [List.getD_eq_getElem?_getD, List.getElem?_eq_getElem hi2]
      have h4 : (natL p.args)[i]'(by simp [natL]; omega) = v := congrArg Prod.snd e
      simp only [natL, List.getElem_map] at h4
      have := (ho.pha t ht p h2).2 p.args[i] (List.getElem_mem hi2)
      show p.args[i] = (v : Int)
      omega
/-- The model's walk for v. -/
def barB (xs : List Blk) (b v : Nat) : Nat := match xs[b]? with
  | none => 0
  | some x => bareM x (edgesM xs b) (v : Int)
def phiB (xs : List Blk) (b v : Nat) : Bool := match xs[b]? with
  | none => false
  | some x => hasI (x.phis.map Ph.dst) (v : Int)
inductive Opn (xs : List Blk) (v : Nat) : Nat → Prop
  | root : Opn xs v 0
  | step {b t : Nat} : Opn xs v b → phiB xs b v = false → barB xs b v = 0 → t ∈ tgN xs b → Opn xs v t
def Bad (xs : List Blk) (v : Nat) : Prop := ∃ b, Opn xs v b ∧ phiB xs b v = false ∧ barB xs b v = 1
theorem Opn.lt {xs : List Blk} (h : OkF xs) {v b : Nat} (ho : Opn xs v b) : b < xs.length := by
  induction ho with
  | root => exact h.n1
  | step _ _ _ ht ih => exact h.tg _ ih _ ht
/-- The sets that the program finds, against the walk. -/
theorem bad_iff {V : Nat} {xs : List Blk} (ho : OkL V xs) {I T : Nat → Nat → Nat} {WO : Nat → Nat → Nat} (hI : ∀ i (h : i < xs.length), I i = inW xs[i] (WO i)) (hT : ∀ i (h : i < xs.length), T i = dfW xs[i]) (hO : ∀ b, b < xs.length → ∀ v, hasN (WO b) v = true ↔ (b, v) ∈ phE xs xs.length) {ord : Nat → Prop} (hord : ∀ b, b < xs.length → ord b) {src : Nat → List Nat} (hsrc : ∀ b, b < xs.length → src b = tgN xs b) {v : Nat} :
    Sp I T ord src 0 v ↔ Bad xs v := by
  have hI' : ∀ b, b < xs.length → (hasN (I b) v = true ↔ phiB xs b v = false ∧ barB xs b v = 1) := fun b hb => by
    have hm := List.getElem_mem hb
    rw [hI b hb, inW_iff (fun y hy => ⟨fun z hz => (ho.rdi _ hm y hy z hz).1, fun z hz => (ho.wri _ hm y hy z hz).1⟩) (fun z hz => (ho.rdt _ hm z hz).1) (fun p hp => (ho.phd _ hm p hp).1)]
    unfold phiB barB bareM
    rw [List.getElem?_eq_getElem hb]
    simp only
    have e : hasN (WO b) v = hasI (edgesM xs b) (v : Int) := by rw [Bool.eq_iff_iff, hO b hb, hasI_iff, edges_iff ho hb]
    rw [e, ← Bool.not_eq_true, hasI_iff]
  have hT' : ∀ b, b < xs.length → phiB xs b v = false → barB xs b v = 0 → hasN (T b) v = false := fun b hb h1 h2 => by
    have hm := List.getElem_mem hb
    rw [hT b hb, ← Bool.not_eq_true, dfW_iff (fun y hy z hz => (ho.wri _ hm y hy z hz).1) (fun p hp => (ho.phd _ hm p hp).1)]
    unfold phiB at h1
    unfold barB bareM at h2
    rw [List.getElem?_eq_getElem hb] at h1 h2
    simp only at h1 h2
    rintro (h | ⟨y, hy, h⟩)
    · rw [hasI_iff.2 h] at h1; cases h1
    · exact bareF_zero _ h2 y hy h
  have hTb : ∀ b, b < xs.length → hasN (T b) v = false → phiB xs b v = false ∧ barB xs b v ≠ 2 := fun b hb h => by
    have hm := List.getElem_mem hb
    rw [hT b hb, ← Bool.not_eq_true, dfW_iff (fun y hy z hz => (ho.wri _ hm y hy z hz).1) (fun p hp => (ho.phd _ hm p hp).1)] at h
    unfold phiB barB bareM
    rw [List.getElem?_eq_getElem hb]
    simp only
    refine ⟨?_, bareF_two _ (fun y hy h2 => h (Or.inr ⟨y, hy, h2⟩))⟩
    rw [← Bool.not_eq_true, hasI_iff]
    exact fun h2 => h (Or.inl h2)
  constructor
  · intro h
    have main : ∀ b x, Sp I T ord src b x → x = v → Opn xs v b → Bad xs v := by
      intro b x hs
      induction hs with
      | init h1 => rintro rfl hop; exact ⟨_, hop, (hI' _ (hop.lt ho.okf)).1 h1⟩
      | @take b s x h1 h2 h3 h4 ih =>
        rintro rfl hop
        have hb := hop.lt ho.okf
        have h5 := hTb b hb h4
        have h6 : barB xs b x ≤ 2 := by
          unfold barB
          split
          · exact Nat.zero_le _
          · exact bareF_le _
        by_cases e : barB xs b x = 1
        · exact ⟨b, hop, h5.1, e⟩
        · exact ih rfl (Opn.step hop h5.1 (by have := h5.2; omega) (by rw [← hsrc b hb]; exact h2))
    exact main 0 v h rfl Opn.root
  · rintro ⟨b, hop, h1, h2⟩
    have main : ∀ b, Opn xs v b → Sp I T ord src b v → Sp I T ord src 0 v := by
      intro b hop
      induction hop with
      | root => exact fun h => h
      | @step b t h1 h2 h3 h4 ih =>
        intro hs
        have hb := h1.lt ho.okf
        exact ih (Sp.take (hord b hb) (by rw [hsrc b hb]; exact h4) hs (hT' b hb h2 h3))
    exact main b hop (Sp.init ((hI' b (hop.lt ho.okf)).2 ⟨h1, h2⟩))
theorem bad_lt {V : Nat} {xs : List Blk} (ho : OkL V xs) {v : Nat} (h : Bad xs v) : v < V := by
  obtain ⟨b, hop, _, h2⟩ := h
  have hb := hop.lt ho.okf
  have hm := List.getElem_mem hb
  unfold barB bareM at h2
  rw [List.getElem?_eq_getElem hb] at h2
  simp only at h2
  rcases bareF_one _ h2 with h3 | ⟨y, hy, h3⟩
  · rcases Bool.or_eq_true _ _ ▸ h3 with h4 | h4
    · have := (ho.rdt _ hm _ (hasI_iff.1 h4)).2; omega
    · have h5 := (edges_iff ho hb).1 (hasI_iff.1 h4)
      unfold phE phB phT at h5
      obtain ⟨t, ht, hv⟩ := List.mem_flatMap.1 h5
      have ht := List.mem_range.1 ht
      rw [List.getElem?_eq_getElem ht] at hv
      obtain ⟨p, hp, h6⟩ := List.mem_flatMap.1 (show _ ∈ List.flatMap _ xs[t].phis from hv)
      have h7 := List.of_mem_zip h6
      obtain ⟨z, hz, e⟩ := List.mem_map.1 h7.2
      have := (ho.pha t ht p hp).2 z hz
      omega
  · have := (ho.rdi _ hm y hy _ h3).2; omega
end Go.Proofs.YtanaeindldcapaaDoor
