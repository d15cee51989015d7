import Derived.Test.YtjfcbjomfbfoiaaGreatDoorW10
import Derived.Test.YtjfcbjomfbfoiaaGreatDoorTZ1
import Derived.Test.YtjfcbjomfbfoiaaGreatDoorW7
import Derived.Test.YtjfcbjomfbfoiaaGreatDoorVP1
import Derived.Test.YtjfcbjomfbfoiaaGreatDoorNV1
import Derived.Test.YtjfcbjomfbfoiaaGreatDoorMH2
namespace Go.Proofs.YtjfcbjomfbfoiaaGreatDoor
open Go.RowKit Go.Shelf
attribute [local go_sem] Oper.semAt_some
/-- What lies still. -/
structure Stc2 (x : Blk) (L B Bx n₀ n₁ : Nat) (V : World) : Prop where
  op : OpTabW V
  ter : TerTabW V
  blk : BlkAt V L B Bx 0 x
  lt : Bx < n₁
  le : B ≤ n₀
  g1 : 0 < n₀
  g2 : 2 < n₀
  nn : n₀ ≤ n₁
theorem Stc2.same {x : Blk} {L B Bx n₀ n₁ : Nat} {V V' : World} (h : Stc2 x L B Bx n₀ n₁ V) (e : ∀ k, k < n₁ → V'.heap[k]? = V.heap[k]?) (hs : V.heap.size ≤ V'.heap.size) : Stc2 x L B Bx n₀ n₁ V' :=
  ⟨h.op.of_block (e _ (Nat.lt_of_lt_of_le h.g1 h.nn)) hs, h.ter.of_block (e _ (Nat.lt_of_lt_of_le h.g2 h.nn)) hs, h.blk.keepS (fun k _ h2 => e k (Nat.lt_of_lt_of_le (Nat.lt_of_lt_of_le h2 h.le) h.nn)) (e _ h.lt), h.lt, h.le, h.g1, h.g2, h.nn⟩
theorem Stc2.below {x : Blk} {L B Bx n₀ n₁ : Nat} {V V' : World} (h : Stc2 x L B Bx n₀ n₁ V) (k : Below V.heap.size V V') (hn : n₁ ≤ V.heap.size) : Stc2 x L B Bx n₀ n₁ V' := h.same (fun i hi => k.block i (by omega)) k.size
theorem Stc2.kp {x : Blk} {L B Bx n₀ n₁ : Nat} {Ms : Nat → Prop} {V V' : World} (h : Stc2 x L B Bx n₀ n₁ V) (k : KpB n₀ Ms V V') (hM : ∀ k, L ≤ k → k < B → ¬ Ms k) (hMx : ¬ Ms Bx) (hM1 : ¬ Ms 0) (hM2 : ¬ Ms 2) : Stc2 x L B Bx n₀ n₁ V' := by
  have hb : V'.heap[Bx]? = V.heap[Bx]? := by
    obtain ⟨pa, pc, ia, ic, e0, _⟩ := h.blk
    exact k.block e0 hMx
  exact ⟨h.op.of_block (k.low _ h.g1 hM1) k.size, h.ter.of_block (k.low _ h.g2 hM2) k.size, h.blk.keepS (fun i h1 h2 => k.low i (Nat.lt_of_lt_of_le h2 h.le) (hM i h1 h2)) hb, h.lt, h.le, h.g1, h.g2, h.nn⟩
end Go.Proofs.YtjfcbjomfbfoiaaGreatDoor

namespace Go.Proofs.YtjfcbjomfbfoiaaGreatDoor
/-- Is v live ahead of instruction j, if q says whether it is live at the end of the block? -/
def nowP (x : Blk) (v : Nat) (q : Bool) (j : Nat) : Bool := decide (bareF (v : Int) (hasI (rdT x.term) (v : Int) || q) (x.instrs.drop j) = 1)
theorem now_end (x : Blk) (v : Nat) (q : Bool) {j : Nat} (hj : x.instrs.length ≤ j) : nowP x v q j = (hasI (rdT x.term) (v : Int) || q) := by
  unfold nowP
  rw [List.drop_eq_nil_of_le hj]
  unfold bareF
  cases (hasI (rdT x.term) (v : Int) || q) <;> simp
theorem now_step (x : Blk) (v : Nat) (q : Bool) {j : Nat} (hj : j < x.instrs.length) : nowP x v q j = (hasI (rdI x.instrs[j]) (v : Int) || (nowP x v q (j + 1) && !decide (defI x.instrs[j] = (v : Int)))) := by
  unfold nowP
  rw [List.drop_eq_getElem_cons hj]
  generalize x.instrs.drop (j + 1) = ys
  show decide ((if hasI (rdI x.instrs[j]) (v : Int) then 1 else if defI x.instrs[j] = (v : Int) then 2 else bareF (v : Int) _ ys) = 1) = _
  by_cases e1 : hasI (rdI x.instrs[j]) (v : Int) = true
  · rw [if_pos e1, e1]; simp
  · rw [if_neg e1]
    have e1' : hasI (rdI x.instrs[j]) (v : Int) = false := by simpa using e1
    rw [e1']
    by_cases e2 : defI x.instrs[j] = (v : Int)
    · rw [if_pos e2]; simp [e2]
    · rw [if_neg e2]; simp [e2]
/-- Does v stand in the set of place i of block b? -/
def PsP (xs : List Blk) (x : Blk) (b i v : Nat) (q : Bool) : Bool := match i with
  | 0 => nowP x v q 0 || phiB xs b v
  | j + 1 => nowP x v q (j + 1) || (match x.instrs[j]? with
    | none => false
    | some y => decide (defI y = (v : Int)))
theorem bareF_mono {v : Int} {f f' : Bool} (h : f = true → f' = true) : ∀ (ys : List Ins), bareF v f ys = 1 → bareF v f' ys = 1
  | [], h1 => by
    unfold bareF at h1 ⊢
    cases hf : f with
    | true => rw [h hf]; rfl
    | false => rw [hf] at h1; cases h1
  | y :: ys, h1 => by
    show (if hasI (rdI y) v then 1 else if defI y = v then 2 else bareF v f' ys) = 1
    have h2 : (if hasI (rdI y) v then 1 else if defI y = v then 2 else bareF v f ys) = 1 := h1
    by_cases e1 : hasI (rdI y) v = true
    · rw [if_pos e1]
    · rw [if_neg e1] at h2 ⊢
      by_cases e2 : defI y = v
      · rw [if_pos e2] at h2; cases h2
      · rw [if_neg e2] at h2 ⊢
        exact bareF_mono h ys h2
theorem bareF_two' {v : Int} {f f' : Bool} : ∀ (ys : List Ins), bareF v f ys = 2 → bareF v f' ys = 2
  | [], h1 => by
    unfold bareF at h1
    cases f <;> cases h1
  | y :: ys, h1 => by
    show (if hasI (rdI y) v then 1 else if defI y = v then 2 else bareF v f' ys) = 2
    have h2 : (if hasI (rdI y) v then 1 else if defI y = v then 2 else bareF v f ys) = 2 := h1
    by_cases e1 : hasI (rdI y) v = true
    · rw [if_pos e1] at h2; cases h2
    · rw [if_neg e1] at h2 ⊢
      by_cases e2 : defI y = v
      · rw [if_pos e2]
      · rw [if_neg e2] at h2 ⊢
        exact bareF_two' ys h2
theorem bareF_fin {v : Int} {f f' : Bool} : ∀ (ys : List Ins), bareF v f ys = 0 → f = false ∧ (bareF v f' ys = 1 ↔ f' = true)
  | [], h1 => by
    unfold bareF at h1 ⊢
    cases f
    · exact ⟨rfl, by cases f' <;> simp⟩
    · cases h1
  | y :: ys, h1 => by
    have h2 : (if hasI (rdI y) v then 1 else if defI y = v then 2 else bareF v f ys) = 0 := h1
    by_cases e1 : hasI (rdI y) v = true
    · rw [if_pos e1] at h2; cases h2
    · rw [if_neg e1] at h2
      by_cases e2 : defI y = v
      · rw [if_pos e2] at h2; cases h2
      · rw [if_neg e2] at h2
        have ih := bareF_fin (f' := f') ys h2
        refine ⟨ih.1, ?_⟩
        show (if hasI (rdI y) v then 1 else if defI y = v then 2 else bareF v f' ys) = 1 ↔ _
        rw [if_neg e1, if_neg e2]
        exact ih.2
/-- Ahead of the first instruction v is live exactly if it is live behind the phis. -/
theorem now_lbe {xs : List Blk} {b v : Nat} (hb : b < xs.length) {q : Bool} (hq : q = true ↔ Lou xs v b) : nowP xs[b] v q 0 = true ↔ Lbe xs v b := by
  unfold nowP
  rw [List.drop_zero, decide_eq_true_eq]
  have hbb : barB xs b v = bareF (v : Int) (hasI (rdT xs[b].term) (v : Int) || hasI (edgesM xs b) (v : Int)) xs[b].instrs := by unfold barB bareM; rw [List.getElem?_eq_getElem hb]
  have hle := barB_le xs b v
  have hE : hasI (edgesM xs b) (v : Int) = true → q = true := fun h => hq.2 (Or.inl (hasI_iff.1 h))
  have hcs : barB xs b v = 0 ∨ barB xs b v = 1 ∨ barB xs b v = 2 := by omega
  rcases hcs with h0 | h1 | h2
  · have h0' := h0
    rw [hbb] at h0'
    have hf := bareF_fin (f' := hasI (rdT xs[b].term) (v : Int) || q) xs[b].instrs h0'
    rw [hf.2]
    have hr : hasI (rdT xs[b].term) (v : Int) = false ∧ hasI (edgesM xs b) (v : Int) = false := by simpa using hf.1
    rw [hr.1, Bool.false_or, hq]
    constructor
    · rintro (h | ⟨t, ht, h⟩)
      · rw [hasI_iff.2 h] at hr; cases hr.2
      · exact Lbe.step hb h0 ht h.1 h.2
    · intro h
      cases h with
      | here _ h3 => rw [h0] at h3; cases h3
      | @step _ t _ _ h3 h4 h5 => exact Or.inr ⟨t, h3, h4, h5⟩
  · have h1' := h1
    rw [hbb] at h1'
    refine ⟨fun _ => Lbe.here hb h1, fun _ => bareF_mono (fun h => ?_) _ h1'⟩
    rcases Bool.or_eq_true _ _ ▸ h with h3 | h3
    · rw [h3]; rfl
    · rw [hE h3]; simp
  · have h2' := h2
    rw [hbb] at h2'
    rw [bareF_two' (f' := hasI (rdT xs[b].term) (v : Int) || q) _ h2']
    constructor
    · intro h; cases h
    · intro h
      cases h with
      | here _ h3 => rw [h2] at h3; cases h3
      | step _ h3 _ _ _ => rw [h2] at h3; cases h3
end Go.Proofs.YtjfcbjomfbfoiaaGreatDoor

namespace Go.Proofs.YtjfcbjomfbfoiaaGreatDoor
open Go.RowKit Go.Shelf
/-- What a place does to the set, and what it hands over. -/
def sdA (W : Nat → Nat) (q : Nat × List Int × List Int) : Nat → Nat := addsN W (natL q.2.2)
def sdB (W : Nat → Nat) (q : Nat × List Int × List Int) : Nat → Nat := addsN (delsN (sdA W q) (natL q.2.2)) (natL q.2.1)
def sdE (m : Nat) (W : Nat → Nat) (q : Nat × List Int × List Int) : List (Nat × (Nat → Nat)) := if q.1 ≤ m then [(q.1, sdA W q)] else []
def sdL (m : Nat) : (Nat → Nat) → List (Nat × List Int × List Int) → List (Nat × (Nat → Nat))
  | _, [] => []
  | W, q :: l => sdE m W q ++ sdL m (sdB W q) l
theorem sdL_snoc (m : Nat) (q : Nat × List Int × List Int) : ∀ (l : List (Nat × List Int × List Int)) (W : Nat → Nat), sdL m W (l ++ [q]) = sdL m W l ++ sdE m (l.foldl sdB W) q
  | [], W => by simp [sdL]
  | p :: l, W => by
    show sdE m W p ++ sdL m (sdB W p) (l ++ [q]) = (sdE m W p ++ sdL m (sdB W p) l) ++ sdE m (l.foldl sdB (sdB W p)) q
    rw [sdL_snoc m q l, List.append_assoc]
theorem sdB_wd {W : Nat → Nat} (h : WdOk W) (q : Nat × List Int × List Int) : WdOk (sdA W q) ∧ WdOk (sdB W q) := by
  have h1 : WdOk (sdA W q) := adds_wd _ h
  exact ⟨h1, adds_wd _ (dels_wd _ h1)⟩
theorem foldB_wd (l : List (Nat × List Int × List Int)) {W : Nat → Nat} (h : WdOk W) : WdOk (l.foldl sdB W) := by
  induction l generalizing W with
  | nil => exact h
  | cons q l ih => exact ih (sdB_wd h q).2
theorem sdL_len (m : Nat) : ∀ (l : List (Nat × List Int × List Int)) (W : Nat → Nat), (sdL m W l).length ≤ l.length
  | [], _ => Nat.le_refl _
  | q :: l, W => by
    have := sdL_len m l (sdB W q)
    have h : (sdE m W q).length ≤ 1 := by unfold sdE; split <;> simp
    show (sdE m W q ++ sdL m (sdB W q) l).length ≤ l.length + 1
    rw [List.length_append]
    omega
/-- One set that is handed over; it lies in the walker's own row z. -/
structure Sd where
  i : Nat
  C : Nat
  W : Nat → Nat
def Sd.dat (p : Sd) : Nat × (Nat → Nat) := (p.i, p.W)
def sdEnc (Kw z : Nat) (p : Sd) : Array Value := #[.int .i64 (p.i : Int), .agg #[.slice (some ⟨z, 0, none⟩) Kw p.C]]
def sdPx (Kw z : Nat) (p : Sd) (V : World) : Prop := WsAt V z Kw p.C p.W ∧ WdOk p.W
/-- While the places are walked: the walker's own cells. -/
structure SdI (W : World) (n₁ l Bl Bx gl Kw C1 m : Nat) (ia : Option Addr) (ic : Nat) (W0 : Nat → Nat) (J : Nat → List Sd → World → Prop) (pre : List Pl) (V : World) : Prop where
  js : ∃ ss : List Sd, ss.map Sd.dat = sdL m W0 (pre.map Pl.dat) ∧ J gl ss V
  y : V.cell? ⟨W.heap.size, 0, none⟩ = some (.func (.yield l) #[] #[])
  lv : V.cell? ⟨Bl, 0, none⟩ = some (.slice (some ⟨gl, 0, none⟩) Kw C1)
  ws : WsAt V gl Kw C1 ((pre.map Pl.dat).foldl sdB W0)
  bx : V.cell? ⟨Bx, 1, none⟩ = some (.slice ia m ic)
  sz : n₁ ≤ V.heap.size
theorem SdI.own {W : World} {n₁ l Bl Bx gl Kw C1 m : Nat} {ia : Option Addr} {ic : Nat} {W0 : Nat → Nat} {J : Nat → List Sd → World → Prop} (hJ : ∀ z, OwnFrom W.heap.size (J z)) (hW : W.heap.size < n₁) (hl : Bl < n₁) (hx : Bx < n₁) (hg : gl < n₁) : OwnFrom n₁ (SdI W n₁ l Bl Bx gl Kw C1 m ia ic W0 J) := fun pre A V row h k q => by
  have hz := h.sz
  have hbl : ∀ b, b < n₁ → V.heap[b]? = A.heap[b]? := fun b hb => k.block b (by omega) (fun e => by have := (q b e.symm).1; omega)
  obtain ⟨ss, h1, h2⟩ := h.js
  exact ⟨⟨ss, h1, hJ gl ss A V row h2 k (fun r e => ⟨by have := (q r e).1; omega, (q r e).2⟩)⟩, (cell_of (hbl _ hW)).trans h.y, (cell_of (hbl _ hl)).trans h.lv, h.ws.of_block (hbl _ hg), (cell_of (hbl _ hx)).trans h.bx, Nat.le_trans hz k.size⟩
end Go.Proofs.YtjfcbjomfbfoiaaGreatDoor

namespace Go.Proofs.YtjfcbjomfbfoiaaGreatDoor
open Go.RowKit
def stF (x : Blk) (W0 : Nat → Nat) : Nat → Nat := sdB W0 (x.instrs.length + 1, rdT x.term, [])
/-- The set ahead of instruction k. -/
def stB (x : Blk) (W0 : Nat → Nat) (k : Nat) : Nat → Nat := ((bwF x.instrs.length k).map (plI x)).foldl sdB (stF x W0)
theorem has_sdA (W : Nat → Nat) (q : Nat × List Int × List Int) (v : Nat) : hasN (sdA W q) v = (decide (v ∈ natL q.2.2) || hasN W v) := by
  unfold sdA
  rw [has_adds]
theorem has_sdB (W : Nat → Nat) (q : Nat × List Int × List Int) (v : Nat) : hasN (sdB W q) v = (decide (v ∈ natL q.2.1) || (decide (v ∉ natL q.2.2) && hasN W v)) := by
  unfold sdB
  rw [has_adds, has_dels, has_sdA]
  by_cases h : v ∈ natL q.2.2 <;> simp [h]
theorem stB_step (x : Blk) (W0 : Nat → Nat) {k : Nat} (hk : k < x.instrs.length) : stB x W0 k = sdB (stB x W0 (k + 1)) (plI x ⟨k, hk⟩) := by
  unfold stB
  rw [bwF_step hk, List.map_append, List.foldl_append]
  rfl
theorem has_stB {x : Blk} {W0 : Nat → Nat} {v : Nat} {q : Bool} (hq : hasN W0 v = q) (hy : ∀ y ∈ x.instrs, (∀ v ∈ rdI y, 0 ≤ v) ∧ ∀ v ∈ writesI y, 0 ≤ v) (ht : ∀ v ∈ rdT x.term, 0 ≤ v) : ∀ d k, k + d = x.instrs.length → hasN (stB x W0 k) v = nowP x v q k
  | 0, k, hk => by
    have hk : k = x.instrs.length := by omega
    subst hk
    rw [now_end x v q (Nat.le_refl _)]
    unfold stB
    rw [bwF_start]
    show hasN (sdB W0 (x.instrs.length + 1, rdT x.term, [])) v = _
    rw [has_sdB, hq, Bool.eq_iff_iff, Bool.or_eq_true, Bool.or_eq_true, decide_eq_true_eq, mem_natL ht, hasI_iff]
    simp [natL]
  | d + 1, k, hk => by
    have hlt : k < x.instrs.length := by omega
    have ih := has_stB hq hy ht d (k + 1) (by omega)
    have h0 := hy x.instrs[k] (List.getElem_mem hlt)
    rw [stB_step x W0 hlt, has_sdB, ih, now_step x v q hlt]
    show (decide (v ∈ natL (rdI x.instrs[k])) || (decide (v ∉ natL (writesI x.instrs[k])) && nowP x v q (k + 1))) = _
    have e1 : decide (v ∈ natL (rdI x.instrs[k])) = hasI (rdI x.instrs[k]) (v : Int) := by rw [Bool.eq_iff_iff, decide_eq_true_eq, mem_natL h0.1, hasI_iff]
    have e2 : decide (v ∉ natL (writesI x.instrs[k])) = !decide (defI x.instrs[k] = (v : Int)) := by
      rw [Bool.eq_iff_iff]
      simp only [decide_eq_true_eq, Bool.not_eq_true', decide_eq_false_iff_not, mem_natL h0.2, def_writes]
    rw [e1, e2, Bool.and_comm]
theorem sdL_mid (x : Blk) (W0 : Nat → Nat) : ∀ d k, k + d = x.instrs.length → sdL x.instrs.length (stF x W0) ((bwF x.instrs.length k).map (plI x)) = (bwF x.instrs.length k).map fun j : Fin x.instrs.length => ((j : Nat) + 1, sdA (stB x W0 ((j : Nat) + 1)) (plI x j))
  | 0, k, hk => by
    have hk : k = x.instrs.length := by omega
    subst hk
    rw [bwF_start]
    rfl
  | d + 1, k, hk => by
    have hlt : k < x.instrs.length := by omega
    have ih := sdL_mid x W0 d (k + 1) (by omega)
    rw [bwF_step hlt, List.map_append, List.map_append, List.map_cons, List.map_nil, sdL_snoc, ih]
    congr 1
    unfold sdE
    rw [if_pos (show (plI x ⟨k, hlt⟩).1 ≤ x.instrs.length from hlt)]
    rfl
/-- What is handed over: the places from the last instruction on, then the phis. -/
theorem sdL_all (x : Blk) (W0 : Nat → Nat) : sdL x.instrs.length W0 (plL x) = ((bwF x.instrs.length 0).map fun j : Fin x.instrs.length => ((j : Nat) + 1, sdA (stB x W0 ((j : Nat) + 1)) (plI x j))) ++ [(0, sdA (stB x W0 0) (0, [], x.phis.map Ph.dst))] := by
  unfold plL
  show sdE x.instrs.length W0 (x.instrs.length + 1, rdT x.term, []) ++ sdL x.instrs.length (stF x W0) ((bwF x.instrs.length 0).map (plI x) ++ [(0, [], x.phis.map Ph.dst)]) = _
  rw [sdL_snoc, sdL_mid x W0 x.instrs.length 0 (by omega)]
  have e1 : sdE x.instrs.length W0 (x.instrs.length + 1, rdT x.term, []) = [] := by
    unfold sdE
    rw [if_neg (by simp)]
  have e2 : sdE x.instrs.length (((bwF x.instrs.length 0).map (plI x)).foldl sdB (stF x W0)) (0, [], x.phis.map Ph.dst) = [(0, sdA (stB x W0 0) (0, [], x.phis.map Ph.dst))] := by
    unfold sdE
    rw [if_pos (Nat.zero_le _)]
    rfl
  rw [e1, e2]
  rfl
/-- A set that is handed over holds what stands at its place. -/
theorem sd_has {V : Nat} {xs : List Blk} (ho : OkL V xs) {b v : Nat} (hb : b < xs.length) {W0 : Nat → Nat} {q : Bool} (hq : hasN W0 v = q) {i : Nat} {W : Nat → Nat} (h : (i, W) ∈ sdL xs[b].instrs.length W0 (plL xs[b])) : i ≤ xs[b].instrs.length ∧ hasN W v = PsP xs xs[b] b i v q := by
  have hm := List.getElem_mem hb
  have hy : ∀ y ∈ xs[b].instrs, (∀ v ∈ rdI y, 0 ≤ v) ∧ ∀ v ∈ writesI y, 0 ≤ v := fun y hy => ⟨fun z hz => (ho.rdi _ hm y hy z hz).1, fun z hz => (ho.wri _ hm y hy z hz).1⟩
  have ht : ∀ v ∈ rdT xs[b].term, 0 ≤ v := fun z hz => (ho.rdt _ hm z hz).1
  rw [sdL_all] at h
  rcases List.mem_append.1 h with h | h
  · obtain ⟨j, _, e⟩ := List.mem_map.1 h
    have e1 : (j : Nat) + 1 = i := congrArg Prod.fst e
    have e2 : sdA (stB xs[b] W0 ((j : Nat) + 1)) (plI xs[b] j) = W := congrArg Prod.snd e
    subst e1 e2
    have hj := j.isLt
    refine ⟨hj, ?_⟩
    rw [has_sdA, has_stB hq hy ht (xs[b].instrs.length - (j + 1)) (j + 1) (by omega)]
    show _ = (nowP xs[b] v q ((j : Nat) + 1) || (match xs[b].instrs[(j : Nat)]? with
      | none => false
      | some y => decide (defI y = (v : Int))))
    rw [List.getElem?_eq_getElem hj, Bool.or_comm]
    congr 1
    rw [Bool.eq_iff_iff, decide_eq_true_eq, decide_eq_true_eq, def_writes]
    exact mem_natL (hy _ (List.getElem_mem hj)).2
  · have e := List.mem_singleton.1 h
    have e1 : i = 0 := congrArg Prod.fst e
    have e2 : W = sdA (stB xs[b] W0 0) (0, [], xs[b].phis.map Ph.dst) := congrArg Prod.snd e
    subst e1 e2
    refine ⟨Nat.zero_le _, ?_⟩
    rw [has_sdA, has_stB hq hy ht xs[b].instrs.length 0 (by omega)]
    show _ = (nowP xs[b] v q 0 || phiB xs b v)
    rw [Bool.or_comm]
    congr 1
    unfold phiB
    rw [List.getElem?_eq_getElem hb, Bool.eq_iff_iff, decide_eq_true_eq]
    show v ∈ natL (xs[b].phis.map Ph.dst) ↔ hasI (xs[b].phis.map Ph.dst) (v : Int) = true
    rw [hasI_iff]
    exact mem_natL (fun z hz => by obtain ⟨p, hp, rfl⟩ := List.mem_map.1 hz; exact (ho.phd _ hm p hp).1)
end Go.Proofs.YtjfcbjomfbfoiaaGreatDoor

namespace Go.Proofs.YtjfcbjomfbfoiaaGreatDoor
open Go.RowKit
theorem now_lt {V : Nat} {xs : List Blk} (ho : OkL V xs) {b v : Nat} (hb : b < xs.length) {q : Bool} (hq : q = true → v < V) {j : Nat} (h : nowP xs[b] v q j = true) : v < V := by
  have hm := List.getElem_mem hb
  unfold nowP at h
  rcases bareF_one _ (of_decide_eq_true h) with h3 | ⟨y, hy, h3⟩
  · rcases Bool.or_eq_true _ _ ▸ h3 with h4 | h4
    · have := (ho.rdt _ hm _ (hasI_iff.1 h4)).2; omega
    · exact hq h4
  · have := (ho.rdi _ hm y (List.mem_of_mem_drop hy) _ h3).2; omega
theorem ps_lt {V : Nat} {xs : List Blk} (ho : OkL V xs) {b v : Nat} (hb : b < xs.length) {q : Bool} (hq : q = true → v < V) {i : Nat} (h : PsP xs xs[b] b i v q = true) : v < V := by
  have hm := List.getElem_mem hb
  cases i with
  | zero =>
    rcases Bool.or_eq_true _ _ ▸ (show (nowP xs[b] v q 0 || phiB xs b v) = true from h) with h1 | h1
    · exact now_lt ho hb hq h1
    · unfold phiB at h1
      rw [List.getElem?_eq_getElem hb] at h1
      obtain ⟨p, hp, e⟩ := List.mem_map.1 (hasI_iff.1 h1)
      have := (ho.phd _ hm p hp).2
      omega
  | succ j =>
    have h' : (nowP xs[b] v q (j + 1) || (match xs[b].instrs[j]? with
      | none => false
      | some y => decide (defI y = (v : Int)))) = true := h
    rcases Bool.or_eq_true _ _ ▸ h' with h1 | h1
    · exact now_lt ho hb hq h1
    · cases hj : xs[b].instrs[j]? with
      | none => rw [hj] at h1; cases h1
      | some y =>
        rw [hj] at h1
        have h2 := def_writes.1 (of_decide_eq_true h1)
        have := (ho.wri _ hm y (List.mem_of_getElem? hj) _ h2).2
        omega
open Classical in
/-- What stands at place i of block b, ascending. -/
noncomputable def ptP (xs : List Blk) (x : Blk) (V b i : Nat) : List Nat := (List.range V).filter fun v => PsP xs x b i v (decide (Lou xs v b))
open Classical in
theorem ls_pt {V : Nat} {xs : List Blk} (ho : OkL V xs) {b : Nat} (hb : b < xs.length) {W0 : Nat → Nat} {p : Nat} (hV : V ≤ p) (hq : ∀ v, v < p → (hasN W0 v = true ↔ Lou xs v b)) {i : Nat} {W : Nat → Nat} (h : (i, W) ∈ sdL xs[b].instrs.length W0 (plL xs[b])) : lsN W p = ptP xs xs[b] V b i := by
  have hs : ∀ v, v < p → hasN W v = PsP xs xs[b] b i v (decide (Lou xs v b)) := fun v hv => (sd_has ho hb (by rw [Bool.eq_iff_iff, hq v hv, decide_eq_true_eq]) h).2
  rw [ls_skip hV (fun v h1 h2 => by
    rw [← Bool.not_eq_true, hs v h2]
    intro h3
    have := ps_lt ho hb (fun h4 => (of_decide_eq_true h4 : Lou xs v b).val ho hb) h3
    omega)]
  unfold lsN ptP
  apply List.filter_congr
  intro v hv
  have := List.mem_range.1 hv
  exact hs v (by omega)
end Go.Proofs.YtjfcbjomfbfoiaaGreatDoor

namespace Go.Proofs.YtjfcbjomfbfoiaaGreatDoor
open Go.RowKit
/-- What stands at place i of block b among the first v values. -/
noncomputable def ptQ (xs : List Blk) (v b i : Nat) : List Int := match xs[b]? with
  | none => []
  | some x => natI (ptP xs x v b i)
open Classical in
/-- Whether v stands at place i of block b. -/
noncomputable def psB (xs : List Blk) (b i v : Nat) : Bool := match xs[b]? with
  | none => false
  | some x => PsP xs x b i v (decide (Lou xs v b))
theorem ptQ_zero (xs : List Blk) (b i : Nat) : ptQ xs 0 b i = [] := by
  unfold ptQ
  cases xs[b]? <;> rfl
theorem ptQ_succ (xs : List Blk) (v b i : Nat) : ptQ xs (v + 1) b i = if psB xs b i v = true then ptQ xs v b i ++ [(v : Int)] else ptQ xs v b i := by
  unfold ptQ psB
  cases xs[b]? with
  | none => simp
  | some x =>
    simp only
    unfold ptP
    rw [List.range_succ, List.filter_append]
    by_cases h : PsP xs x b i v (@decide (Lou xs v b) (Classical.propDecidable _)) = true
    · rw [if_pos h]
      simp [h, natI]
    · rw [if_neg h]
      simp [h]
theorem ptQ_len (xs : List Blk) (v b i : Nat) : (ptQ xs v b i).length ≤ v := by
  unfold ptQ
  cases xs[b]? with
  | none => exact Nat.zero_le _
  | some x =>
    simp only [natI, List.length_map]
    unfold ptP
    exact Nat.le_trans (List.length_filter_le _ _) (by simp)
/-- While value v is laid into the sets: all blocks ahead of b are done, of b the first i places. -/
noncomputable def pQ (xs : List Blk) (v b i : Nat) (s j : Nat) : List Int := if s < b ∨ s = b ∧ j < i then ptQ xs (v + 1) s j else ptQ xs v s j
theorem pQ_zero (xs : List Blk) (v : Nat) (s j : Nat) : pQ xs v 0 0 s j = ptQ xs v s j := by
  unfold pQ
  rw [if_neg (by omega)]
theorem pQ_all (xs : List Blk) (v n : Nat) {s : Nat} (j : Nat) (hs : s < n) : pQ xs v n 0 s j = ptQ xs (v + 1) s j := by
  unfold pQ
  rw [if_pos (Or.inl hs)]
theorem pQ_next {xs : List Blk} {v b m : Nat} {s j : Nat} (hj : s = b → j < m) : pQ xs v b m s j = pQ xs v (b + 1) 0 s j := by
  unfold pQ
  by_cases h : s < b + 1
  · rw [if_pos (by by_cases e : s = b; (· exact Or.inr ⟨e, hj e⟩); (· exact Or.inl (by omega))), if_pos (Or.inl h)]
  · rw [if_neg (by omega), if_neg (by omega)]
theorem pQ_no {xs : List Blk} {v b i : Nat} (h : psB xs b i v = false) (s j : Nat) : pQ xs v b i s j = pQ xs v b (i + 1) s j := by
  unfold pQ
  by_cases e : s = b ∧ j = i
  · obtain ⟨rfl, rfl⟩ := e
    rw [if_neg (by omega), if_pos (by omega), ptQ_succ, h]
    simp
  · by_cases h1 : s < b ∨ s = b ∧ j < i
    · rw [if_pos h1, if_pos (by omega)]
    · rw [if_neg h1, if_neg (by omega)]
theorem pQ_yes {xs : List Blk} {v b i : Nat} (h : psB xs b i v = true) (s j : Nat) : (if (s, j) = (b, i) then pQ xs v b i b i ++ [(v : Int)] else pQ xs v b i s j) = pQ xs v b (i + 1) s j := by
  by_cases e : (s, j) = (b, i)
  · rw [if_pos e]
    injection e with e1 e2
    subst e1 e2
    unfold pQ
    rw [if_neg (by omega), if_pos (by omega), ptQ_succ, if_pos h]
  · rw [if_neg e]
    have e' : ¬ (s = b ∧ j = i) := fun h => e (by rw [h.1, h.2])
    unfold pQ
    by_cases h1 : s < b ∨ s = b ∧ j < i
    · rw [if_pos h1, if_pos (by omega)]
    · rw [if_neg h1, if_neg (by omega)]
theorem pQ_len (xs : List Blk) (v b i s j : Nat) : (pQ xs v b i s j).length ≤ v + 1 := by
  unfold pQ
  split
  · exact ptQ_len _ _ _ _
  · have := ptQ_len xs v s j; omega
/-- While the rows of the blocks are made. -/
structure RwS (w2 wr : World) (u : Value) (b : Nat) (m : Nat → Nat) (G : Nat → Nat) : Prop where
  low : Below w2.heap.size w2 wr
  own : wr.ownsRow w2.heap.size 71 1 u b ((List.range b).map fun s => .slice (some ⟨G s, 0, none⟩) (m s) (m s))
  row : ∀ s, s < b → w2.heap.size ≤ G s ∧ wr.rowIs (G s) 56 (m s) (fun _ => .slice none 0 0)
  ne : ∀ s s', s < b → s' < b → s ≠ s' → G s ≠ G s'
theorem RwS.start (w2 : World) (m : Nat → Nat) : RwS w2 (w2.alloc (.cells #[] 71)) (.slice (some ⟨w2.heap.size, 0, none⟩) 0 0) 0 m (fun _ => 0) := ⟨balloc (Below.refl _ _) _, World.ownsRow_lit (base := w2.heap.size) (e := 71) (size := 1) w2 #[] 0 (by simp) (by simp) rfl, fun s h => absurd h (by omega), fun s s' h => absurd h (by omega)⟩
theorem RwS.push {w2 wr w8 : World} {u u' : Value} {b : Nat} {m : Nat → Nat} {G : Nat → Nat} {ob : Obj} (h : RwS w2 wr u b m G) (hg : ((wr.alloc (.cells (madeCells #[.slice none 0 0] (m b)) 56)).alloc ob).grownBy w8 u.ownBlock) (ho : w8.ownsRow w2.heap.size 71 1 u' (b + 1) ((List.range b).map (fun s => Value.slice (some ⟨G s, 0, none⟩) (m s) (m s)) ++ [.slice (some ⟨wr.heap.size, 0, none⟩) (m b) (m b)])) :
    RwS w2 w8 u' (b + 1) m (fun s => if s = b then wr.heap.size else G s) := by
  have hz := h.low.size
  have hgs := hg.size
  rw [World.size_alloc, World.size_alloc] at hgs
  have hnu : ∀ q T k f, wr.rowIs q T k f → T ≠ 71 → u.ownBlock ≠ some q := fun q T k f hr hT e => by
    obtain ⟨c, h1, _⟩ := hr
    rcases h.own.2 with ⟨e1, _⟩ | ⟨g, cap, cur, e1, _, h2, _⟩
    · rw [e1] at e; cases e
    · rw [e1] at e
      injection e with e
      have e : g = q := e
      subst e
      rw [show wr.heap[g]? = _ from h1] at h2
      injection h2 with h2
      injection h2 with _ h3
      exact hT h3
  have hul : ∀ q, u.ownBlock = some q → q < wr.heap.size := fun q e => (h.own.lt q e).2
  have hold : ∀ q, q < wr.heap.size → u.ownBlock ≠ some q → w8.heap[q]? = wr.heap[q]? := fun q h1 h2 => (hg.block q (by rw [World.size_alloc, World.size_alloc]; omega) (fun e => h2 e.symm)).trans ((Below.heap_alloc _ _ _ (by rw [World.size_alloc]; omega)).trans (Below.heap_alloc _ _ _ h1))
  have hnew : w8.heap[wr.heap.size]? = (wr.alloc (.cells (madeCells #[.slice none 0 0] (m b)) 56)).heap[wr.heap.size]? := (hg.block _ (by rw [World.size_alloc, World.size_alloc]; omega) (fun e => by have := hul _ e.symm; omega)).trans (Below.heap_alloc _ _ _ (by rw [World.size_alloc]; omega))
  refine ⟨⟨hg.os.trans h.low.os, hg.tape.trans h.low.tape, hg.output.trans h.low.output, by omega, fun q hq => (hold q (by omega) (fun e => by have := (h.own.lt q e).1; omega)).trans (h.low.block q hq)⟩, ?_, fun s hs => ?_, fun s s' h1 h2 h3 => ?_⟩
  · rw [List.range_succ, List.map_append, List.map_cons, List.map_nil, if_pos rfl, List.map_congr_left (g := fun s => Value.slice (some ⟨G s, 0, none⟩) (m s) (m s)) (fun s hs => by rw [if_neg (by have := List.mem_range.1 hs; omega)])]
    exact ho
  · by_cases e : s = b
    · subst e
      rw [if_pos rfl]
      exact ⟨hz, (World.rowIs_made wr (.slice none 0 0) (m s) 56).of_block hnew⟩
    · rw [if_neg e]
      have hr := h.row s (by omega)
      exact ⟨hr.1, hr.2.of_block (hold _ hr.2.lt (hnu _ _ _ _ hr.2 (by decide)))⟩
  · have hlt : ∀ s, s < b → G s < wr.heap.size := fun s hs => (h.row s hs).2.lt
    by_cases e1 : s = b
    · have := hlt s' (by omega)
      rw [if_pos e1, if_neg (by omega)]
      omega
    · by_cases e2 : s' = b
      · have := hlt s (by omega)
        rw [if_neg e1, if_pos e2]
        omega
      · rw [if_neg e1, if_neg e2]
        exact h.ne s s' (by omega) (by omega) h3
end Go.Proofs.YtjfcbjomfbfoiaaGreatDoor

namespace Go.Proofs.YtjfcbjomfbfoiaaGreatDoor
open Go.RowKit
open Classical in
/-- Is v live ahead of instruction k of block b? -/
noncomputable def nwB (xs : List Blk) (b v k : Nat) : Bool := match xs[b]? with
  | none => false
  | some x => nowP x v (decide (Lou xs v b)) k
section
variable {xs : List Blk} {b v : Nat}
theorem psB_zero : psB xs b 0 v = (nwB xs b v 0 || phiB xs b v) := by
  unfold psB nwB phiB
  cases h : xs[b]? with
  | none => rfl
  | some x => simp only [PsP, phiB, h]
theorem psB_succ {j : Nat} (hj : j < (dfL xs b).length) : psB xs b (j + 1) v = (nwB xs b v (j + 1) || decide ((dfL xs b)[j] = (v : Int))) := by
  have hj' := hj
  revert hj
  unfold psB nwB dfL at *
  cases h : xs[b]? with
  | none => intro hj; exact absurd hj (by simp)
  | some x =>
    intro hj
    simp only [dfsM, List.length_map] at hj
    simp only [PsP, dfsM, List.getElem_map]
    rw [List.getElem?_eq_getElem hj]
open Classical in
theorem nwB_top (hb : b < xs.length) {q : Bool} (hq : q = true ↔ Lou xs v b) : nwB xs b v (dfL xs b).length = (q || hasI (rtL xs b) (v : Int)) := by
  have e : (@decide (Lou xs v b) (Classical.propDecidable _)) = q := by rw [Bool.eq_iff_iff, hq, decide_eq_true_eq]
  unfold nwB dfL rtL
  rw [List.getElem?_eq_getElem hb]
  simp only [dfsM, List.length_map]
  rw [now_end _ _ _ (Nat.le_refl _), e, Bool.or_comm]
theorem nwB_step {j : Nat} (hj : j < (dfL xs b).length) (hr : j < (rdL xs b).length) : nwB xs b v j = (hasI (rdL xs b)[j] (v : Int) || (nwB xs b v (j + 1) && !decide ((dfL xs b)[j] = (v : Int)))) := by
  revert hj hr
  unfold nwB dfL rdL
  cases h : xs[b]? with
  | none => intro hj; exact absurd hj (by simp)
  | some x =>
    intro hj hr
    simp only [dfsM, List.length_map] at hj
    simp only [dfsM, rdsM, List.getElem_map]
    exact now_step _ _ _ hj
open Classical in
theorem nwB_lbe (hb : b < xs.length) : nwB xs b v 0 = true ↔ Lbe xs v b := by
  unfold nwB
  rw [List.getElem?_eq_getElem hb]
  exact now_lbe hb (by rw [decide_eq_true_eq])
theorem rd_len : (rdL xs b).length = (dfL xs b).length := by
  unfold rdL dfL
  cases xs[b]? with
  | none => rfl
  | some x => simp [rdsM, dfsM]
end
theorem rd_small (xs : List Blk) (b : Nat) : ∀ l ∈ rdL xs b, l.length ≤ 2 := fun l hl => by
  unfold rdL at hl
  cases h : xs[b]? with
  | none => rw [h] at hl; exact absurd hl List.not_mem_nil
  | some x =>
    rw [h] at hl
    obtain ⟨y, _, hy⟩ := List.mem_map.1 hl
    rw [← hy]
    exact rdI_le y
/-- What holds in the round of one block: the world has grown behind wb; the row of truth values. -/
structure InX (wb wr : World) (gl n : Nat) (lv : Nat → Bool) (gi m : Nat) (f : Nat → Bool) : Prop where
  low : Below wb.heap.size wb wr
  gll : gl < wb.heap.size
  lr : wr.rowIs gl 4 n (fun z => .bool (lv z))
  ge : wb.heap.size ≤ gi
  ir : wr.rowIs gi 4 m (fun z => .bool (f z))
section
variable {wb wr w' : World} {gl n gi m : Nat} {lv f f' : Nat → Bool}
theorem InX.below (h : InX wb wr gl n lv gi m f) (k : Below wr.heap.size wr w') : InX wb w' gl n lv gi m f := ⟨bnext h.low k, h.gll, h.lr.of_block (k.block _ h.lr.lt), h.ge, h.ir.of_block (k.block _ h.ir.lt)⟩
theorem InX.congr (h : InX wb wr gl n lv gi m f) (e : ∀ z, z < m → f z = f' z) : InX wb wr gl n lv gi m f' := ⟨h.low, h.gll, h.lr, h.ge, row_as (C := Value.bool) h.ir e⟩
theorem InX.set (h : InX wb wr gl n lv gi m f) (k : Nat) (q : Bool) : InX wb (wr.setCell ⟨gi, k, none⟩ (.bool q)) gl n lv gi m (fun z => if z = k then q else f z) := by
  have := h.ge
  have := h.gll
  exact ⟨h.low.setCell (by show wb.heap.size ≤ gi; omega) _, h.gll, h.lr.setOther (by show gl ≠ gi; omega) _, h.ge, row_set (C := Value.bool) h.ir k q⟩
end
/-- While the places of a block are gone through from the last to the first. -/
noncomputable def inF (xs : List Blk) (b v k z : Nat) : Bool := decide (k < z) && psB xs b z v
theorem inF_top {xs : List Blk} {b v k : Nat} {z : Nat} (hz : z < k + 1) : inF xs b v k z = false := by unfold inF; simp; omega
theorem inF_next {xs : List Blk} {b v j : Nat} {q : Bool} (hq : q = psB xs b (j + 1) v) (z : Nat) : (if z = j + 1 then q else inF xs b v (j + 1) z) = inF xs b v j z := by
  unfold inF
  by_cases e : z = j + 1
  · subst e
    rw [if_pos rfl, hq]
    simp
  · rw [if_neg e]
    by_cases h : j < z
    · rw [decide_eq_true h, decide_eq_true (show j + 1 < z by omega)]
    · rw [decide_eq_false h, decide_eq_false (show ¬ j + 1 < z by omega)]
theorem inF_all {xs : List Blk} {b v : Nat} {q : Bool} (hq : q = psB xs b 0 v) (z : Nat) : (if z = 0 then q else inF xs b v 0 z) = psB xs b z v := by
  by_cases e : z = 0
  · subst e; rw [if_pos rfl, hq]
  · rw [if_neg e]
    unfold inF
    rw [decide_eq_true (show 0 < z by omega), Bool.true_and]
/-- What l2Points leaves. -/
def PtsA (w w' : World) (n V : Nat) (xs : List Blk) (e : Ending) : Prop := ∃ (gO cO : Nat) (G : Nat → Nat), e = .returned (.slice (some ⟨gO, 0, none⟩) n cO) ∧ Below w.heap.size w w' ∧ w.heap.size ≤ gO ∧ ∀ s, s < n → w'.cell? ⟨gO, s, none⟩ = some (.slice (some ⟨G s, 0, none⟩) ((dfL xs s).length + 1) ((dfL xs s).length + 1)) ∧ w.heap.size ≤ G s ∧ IntssAt w' w.heap.size w'.heap.size (some ⟨G s, 0, none⟩) ((List.range ((dfL xs s).length + 1)).map (ptQ xs V s))
end Go.Proofs.YtjfcbjomfbfoiaaGreatDoor
