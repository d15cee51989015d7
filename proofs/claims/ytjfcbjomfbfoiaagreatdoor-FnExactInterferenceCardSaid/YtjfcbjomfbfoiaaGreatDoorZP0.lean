import Derived.Test.YtjfcbjomfbfoiaaGreatDoorSS3
import Derived.Test.YtjfcbjomfbfoiaaGreatDoorPL2
import Derived.Test.YtjfcbjomfbfoiaaGreatDoorTZ1
import Derived.Test.YtjfcbjomfbfoiaaGreatDoorOC2
namespace Go.Proofs.YtjfcbjomfbfoiaaGreatDoor
open Go.RowKit
structure RoS (w : World) (base g m : Nat) (P : Nat → List Int) (U : Nat → Value) : Prop where
  lt : g < base
  row : w.rowIs g 56 m U
  own : ∀ i, i < m → w.ownsRow base 2 1 (U i) (P i).length ((P i).map (Value.int .i64))
  dj : ∀ i j, i < m → j < m → i ≠ j → (U i).ownBlock = none ∨ (U i).ownBlock ≠ (U j).ownBlock
section
variable {w w' w5 : World} {base g m : Nat} {P P' : Nat → List Int} {U : Nat → Value}
theorem RoS.kept (h : RoS w base g m P U) {row : Option Nat} (k : w.grownBy w' row) (hr : ∀ r, row = some r → r ≠ g ∧ ∀ i, i < m → (U i).ownBlock ≠ some r) : RoS w' base g m P U := by
  refine ⟨h.lt, h.row.of_block (k.block _ h.row.lt (fun e => (hr g e.symm).1 rfl)), fun i hi => (h.own i hi).kept k ?_, h.dj⟩
  cases row with
  | none =>
    cases (U i).ownBlock
    · exact Or.inl rfl
    · exact Or.inr (fun e => by cases e)
  | some r => exact Or.inr ((hr r rfl).2 i hi)
theorem RoS.below (h : RoS w base g m P U) (k : Below w.heap.size w w') : RoS w' base g m P U :=
  h.kept (row := none) ⟨k.os, k.tape, k.output, k.size, fun b hb _ => k.block b hb⟩ (fun r e => by cases e)
theorem RoS.congr (h : RoS w base g m P U) (e : ∀ i, i < m → P i = P' i) : RoS w base g m P' U :=
  ⟨h.lt, h.row, fun i hi => by rw [← e i hi]; exact h.own i hi, h.dj⟩
theorem RoS.put (h : RoS w base g m P U) (hb : base ≤ w.heap.size) (k : Below w.heap.size w w5) {t : Nat} {p : List Int} {u : Value} (hu : w5.ownsRow w.heap.size 2 1 u p.length (p.map (Value.int .i64))) :
    RoS (w5.setCell ⟨g, t, none⟩ u) base g m (fun i => if i = t then p else P i) (fun i => if i = t then u else U i) := by
  have h5 := h.below k
  have fresh : ∀ q, q < m → ∀ b, u.ownBlock = some b → (U q).ownBlock ≠ some b := fun q hq b e1 e2 => by
    have := (hu.lt b e1).1
    have := ((h.own q hq).lt b e2).2
    omega
  refine ⟨h.lt, (h5.row.set t u).congr (fun i _ => by by_cases e : i = t <;> simp [e]), fun i hi => ?_, fun i j hi hj hij => ?_⟩
  · by_cases e : i = t
    · simp only [e, if_true]
      have : w5.ownsRow base 2 1 u p.length (p.map (Value.int .i64)) := by
        refine ⟨hu.1, hu.2.imp id ?_⟩
        rintro ⟨g', cap, cur, e1, e2, e3⟩
        exact ⟨g', cap, cur, e1, Nat.le_trans hb e2, e3⟩
      exact ownsRow_setCell_below this h.lt _
    · simp only [e, if_false]
      exact ownsRow_setCell_below (h5.own i hi) h.lt _
  · by_cases e1 : i = t
    · have e2 : ¬ j = t := fun e => hij (e1.trans e.symm)
      simp only [e1, if_true, e2, if_false]
      cases hq : u.ownBlock with
      | none => exact Or.inl rfl
      | some b => exact Or.inr (fun e => fresh j hj b hq e.symm)
    · by_cases e2 : j = t
      · simp only [e1, if_false, e2, if_true]
        cases hq : u.ownBlock with
        | none =>
          cases hq2 : (U i).ownBlock with
          | none => exact Or.inl rfl
          | some b => exact Or.inr (fun e => by cases e)
        | some b => exact Or.inr (fresh i hi b hq)
      · simp only [e1, if_false, e2]
        exact h.dj i j hi hj hij
theorem RoS.ints (h : RoS w base g m P U) {L : Nat} (hL : L ≤ g) : IntssAt w L w.heap.size (some ⟨g, 0, none⟩) ((List.range m).map P) := fun i hi => by
  simp only [List.length_map, List.length_range] at hi
  obtain ⟨a, c, hv, ha⟩ := ints_owned (h.own i hi)
  refine ⟨g, 0, rfl, ⟨hL, h.row.lt⟩, a, c, ?_, ?_⟩
  · simp only [List.getElem_map, List.getElem_range, Nat.zero_add]
    rw [h.row.cell hi, hv]
  · simp only [List.getElem_map, List.getElem_range]
    exact ha.mono (by have := h.lt; omega) (Nat.le_refl _)
end
/-- While PointSets goes through the sets of the places. -/
structure PtI (w6 : World) (G m p z : Nat) (pre : List Sd) (V : World) : Prop where
  os : V.os = w6.os
  tape : V.tape = w6.tape
  output : V.output = w6.output
  size : w6.heap.size ≤ V.heap.size
  fr : ∀ q, q < w6.heap.size → q ≠ G → V.heap[q]? = w6.heap[q]?
  zl : w6.heap.size ≤ z ∧ z < V.heap.size
  db : ∃ P U, RoS V w6.heap.size G m P U ∧ (∀ i, i < m → (U i).ownBlock ≠ some z) ∧ ∀ i, i < m → (P i = [] ∧ ∀ q ∈ pre, q.i ≠ i) ∨ ∃ q ∈ pre, q.i = i ∧ P i = natI (lsN q.W p)
section
variable {w6 V V' V5 : World} {G m p z : Nat} {pre : List Sd}
theorem PtI.row (h : PtI w6 G m p z pre V) {r : Nat} (hr : w6.heap.size ≤ r) (k : V.grownBy V' (some r)) (hn : ∀ P U, RoS V w6.heap.size G m P U → (∀ i, i < m → (U i).ownBlock ≠ some z) → ∀ i, i < m → (U i).ownBlock ≠ some r) : PtI w6 G m p z pre V' := by
  obtain ⟨P, U, h1, h2, h3⟩ := h.db
  have hl := h1.lt
  exact ⟨k.os.trans h.os, k.tape.trans h.tape, k.output.trans h.output, Nat.le_trans h.size k.size, fun q q1 q2 => (k.block q (by have := h.size; omega) (fun e => by injection e with e; omega)).trans (h.fr q q1 q2), ⟨h.zl.1, Nat.lt_of_lt_of_le h.zl.2 k.size⟩, P, U, h1.kept k (fun q e => by injection e with e; subst e; exact ⟨by omega, hn P U h1 h2⟩), h2, h3⟩
theorem PtI.below (h : PtI w6 G m p z pre V) (k : Below V.heap.size V V') : PtI w6 G m p z pre V' := by
  obtain ⟨P, U, h1, h2, h3⟩ := h.db
  exact ⟨k.os.trans h.os, k.tape.trans h.tape, k.output.trans h.output, Nat.le_trans h.size k.size, fun q q1 q2 => (k.block q (by have := h.size; omega)).trans (h.fr q q1 q2), ⟨h.zl.1, Nat.lt_of_lt_of_le h.zl.2 k.size⟩, P, U, h1.below k, h2, h3⟩
theorem PtI.turn (h : PtI w6 G m p z pre V) (k : V.grownBy V' (some z)) : PtI w6 G m p z pre V' := h.row h.zl.1 k (fun _ _ _ h2 => h2)
theorem PtI.own (w6 : World) (G m p z : Nat) : OwnFrom w6.heap.size (PtI w6 G m p z) := fun pre V V' row h k q => by
  cases row with
  | none => exact h.below ⟨k.os, k.tape, k.output, k.size, fun b hb => k.block b hb (fun e => by cases e)⟩
  | some r =>
    obtain ⟨h1, o, h2, h3⟩ := q r rfl
    refine h.row h1 k (fun P U hU _ i hi e => ?_)
    rcases (hU.own i hi).2 with ⟨e1, _⟩ | ⟨g, cap, cur, e1, _, h4, _⟩
    · rw [e1] at e; cases e
    · rw [e1] at e
      injection e with e
      have e : g = r := e
      subst e
      rw [h2] at h4
      injection h4 with h4
      subst h4
      cases h3
theorem PtI.push (h : PtI w6 G m p z pre V) {s : Sd} (k : Below V.heap.size V V5) {u : Value} (hu : V5.ownsRow V.heap.size 2 1 u (lsN s.W p).length ((natI (lsN s.W p)).map (Value.int .i64))) : PtI w6 G m p z (pre ++ [s]) (V5.setCell ⟨G, s.i, none⟩ u) := by
  obtain ⟨P, U, h1, h2, h3⟩ := h.db
  have hl := h1.lt
  have h5 := h.below k
  rw [show (lsN s.W p).length = (natI (lsN s.W p)).length by simp [natI]] at hu
  refine ⟨h5.os, h5.tape, h5.output, by rw [size_setCell]; exact h5.size, fun q q1 q2 => (Below.heap_setCell _ _ _ _ q2).trans (h5.fr q q1 q2), ⟨h5.zl.1, by rw [size_setCell]; exact h5.zl.2⟩, _, _, h1.put h.size k hu, fun i hi => ?_, fun i hi => ?_⟩
  · by_cases e : i = s.i
    · simp only [e, if_true]
      intro e2
      have := (hu.lt z e2).1
      have := h.zl.2
      omega
    · simp only [e, if_false]
      exact h2 i hi
  · by_cases e : i = s.i
    · simp only [e, if_true]
      exact Or.inr ⟨s, by simp, rfl, rfl⟩
    · simp only [e, if_false]
      rcases h3 i hi with ⟨e1, e2⟩ | ⟨q, q1, q2, q3⟩
      · refine Or.inl ⟨e1, fun q hq => ?_⟩
        rcases List.mem_append.1 hq with hq | hq
        · exact e2 q hq
        · rw [List.mem_singleton.1 hq]
          exact fun e3 => e e3.symm
      · exact Or.inr ⟨q, List.mem_append_left _ q1, q2, q3⟩
theorem PtI.cell (h : PtI w6 G m p z pre V) {b o : Nat} {v : Value} (hb : b ≠ G) (hc : w6.cell? ⟨b, o, none⟩ = some v) : V.cell? ⟨b, o, none⟩ = some v := (cell_of (h.fr b (World.block_lt_of_cell? w6 _ hc) hb)).trans hc
end
end Go.Proofs.YtjfcbjomfbfoiaaGreatDoor

namespace Go.Proofs.YtjfcbjomfbfoiaaGreatDoor
open Go.RowKit Go.Shelf
attribute [local go_sem] Oper.semAt_some
theorem Tryz.infoSetP : (Tryz.prog.info? 56).map (fun i => (i.zero, i.size, i.bytes)) = some (some (.agg #[.slice none 0 0]), 1, 24) := by kernel_rfl
/-- What findLive leaves at the ends of blocks is what is live there. -/
theorem FlR.lou {V : Nat} {w w' : World} {n Kw : Nat} {xs : List Blk} {Gi Go : Nat} {gi go ci : Nat → Nat} {WI WX : Nat → Nat → Nat} (h : FlR w w' n Kw xs Gi Go gi go ci WI WX) (ho : OkL V xs) (hx : n = xs.length) : ∀ b, b < n → ∀ x, x < 64 * Kw → (hasN (WX b) x = true ↔ Lou xs x b) := fun b hb x hx' => by
  obtain ⟨I, T, W0, ord, q1, q2, q3, q4, q5, q6⟩ := h.inn
  have hLI : ∀ b, b < n → ∀ x, x < 64 * Kw → (hasN (WI b) x = true ↔ Lin xs x b) := fun b hb x hx' => (q5 b hb x hx').trans (sp_lin ho q1 q2 q3 (ord := (· ∈ ord)) q4 (by omega))
  have hbx : b < xs.length := by omega
  rw [q6 b hb x, q3 b hbx, ← edges_iff ho hbx]
  constructor
  · rintro (h | ⟨t, ht, h⟩)
    · exact Or.inl h
    · exact Or.inr ⟨t, ht, (hLI t (by have := ho.okf.tg _ hbx _ ht; omega) x hx').1 h⟩
  · rintro (h | ⟨t, ht, h⟩)
    · exact Or.inl h
    · exact Or.inr ⟨t, ht, (hLI t (by have := ho.okf.tg _ hbx _ ht; omega) x hx').2 h⟩
/-- Each place has its set. -/
theorem sd_ex (x : Blk) (W0 : Nat → Nat) {i : Nat} (hi : i ≤ x.instrs.length) : ∃ W, (i, W) ∈ sdL x.instrs.length W0 (plL x) := by
  rw [sdL_all]
  cases i with
  | zero => exact ⟨_, List.mem_append_right _ (List.mem_singleton.2 rfl)⟩
  | succ j =>
    refine ⟨_, List.mem_append_left _ (List.mem_map.2 ⟨⟨j, hi⟩, ?_, rfl⟩)⟩
    unfold bwF
    rw [List.take_of_length_le (by simp)]
    exact List.mem_reverse.2 (List.mem_finRange _)
/-- What PointSets leaves. -/
def PoA (w w' : World) (m : Nat) (P : Nat → List Int) (e : Ending) : Prop := ∃ base G U, e = .returned (.slice (some ⟨G, 0, none⟩) m m) ∧ w.heap.size ≤ G ∧ Below w.heap.size w w' ∧ RoS w' base G m P U
theorem PtI.done {w6 V' : World} {G p z Vn k : Nat} {xs : List Blk} (ho : OkL Vn xs) (hk : k < xs.length) {W0 : Nat → Nat} (hV : Vn ≤ p) (hq : ∀ v, v < p → (hasN W0 v = true ↔ Lou xs v k)) {ss : List Sd} (hs : ss.map Sd.dat = sdL xs[k].instrs.length W0 (plL xs[k])) (h : PtI w6 G (xs[k].instrs.length + 1) p z ss V') :
    ∃ U, RoS V' w6.heap.size G (xs[k].instrs.length + 1) (fun i => natI (ptP xs xs[k] Vn k i)) U := by
  obtain ⟨P, U, h1, _, h3⟩ := h.db
  refine ⟨U, h1.congr (fun i hi => ?_)⟩
  rcases h3 i hi with ⟨_, e⟩ | ⟨q, q1, q2, q3⟩
  · obtain ⟨W, hW⟩ := sd_ex xs[k] W0 (i := i) (by omega)
    rw [← hs] at hW
    obtain ⟨q, q1, q2⟩ := List.mem_map.1 hW
    exact absurd (congrArg Prod.fst q2) (e q q1)
  · rw [q3]
    have hm : (i, q.W) ∈ sdL xs[k].instrs.length W0 (plL xs[k]) := by
      rw [← hs, ← q2]
      exact List.mem_map.2 ⟨q, q1, rfl⟩
    rw [ls_pt ho hk hV hq hm]
end Go.Proofs.YtjfcbjomfbfoiaaGreatDoor

namespace Go.Proofs.YtjfcbjomfbfoiaaGreatDoor
open Go.RowKit
/-- The sets of a block's places, in the order in which they are handed over. -/
noncomputable def sideP (xs : List Blk) (V b : Nat) : List (List Nat) := match xs[b]? with
  | none => []
  | some x => ((bwF x.instrs.length 0).map fun j : Fin x.instrs.length => ptP xs x V b ((j : Nat) + 1)) ++ [ptP xs x V b 0]
noncomputable def allP (xs : List Blk) (V k : Nat) : List (List Nat) := (List.range k).flatMap (sideP xs V)
theorem allP_succ (xs : List Blk) (V k : Nat) : allP xs V (k + 1) = allP xs V k ++ sideP xs V k := by
  unfold allP
  rw [List.range_succ, List.flatMap_append]
  simp
theorem allP_prefix (xs : List Blk) (V : Nat) {k n : Nat} (h : k ≤ n) : allP xs V k <+: allP xs V n := by
  induction n with
  | zero => rw [show k = 0 by omega]; exact List.prefix_refl _
  | succ n ih =>
    by_cases e : k = n + 1
    · rw [e]; exact List.prefix_refl _
    · rw [allP_succ]
      exact (ih (by omega)).trans (List.prefix_append _ _)
theorem sdL_side {V : Nat} {xs : List Blk} (ho : OkL V xs) {b : Nat} (hb : b < xs.length) {W0 : Nat → Nat} {p : Nat} (hV : V ≤ p) (hq : ∀ v, v < p → (hasN W0 v = true ↔ Lou xs v b)) : (sdL xs[b].instrs.length W0 (plL xs[b])).map (fun q => lsN q.2 p) = sideP xs V b := by
  rw [List.map_congr_left (g := fun q => ptP xs xs[b] V b q.1) (fun q h => ls_pt ho hb hV hq (i := q.1) (W := q.2) h), sdL_all]
  unfold sideP
  rw [List.getElem?_eq_getElem hb]
  simp
def sdW (p : Nat) (s : Sd) : List Nat := lsN s.W p
theorem sdW_map (p : Nat) (ss : List Sd) : ss.map (sdW p) = (ss.map Sd.dat).map (fun q => lsN q.2 p) := by
  rw [List.map_map]
  rfl
/-- What is told of a set of some block. -/
def sdPv (V Kw z : Nat) (p : Sd) (U : World) : Prop := LtV V Kw p.W ∧ sdPx Kw z p U
def asEnc (Kw z : Nat) (s : Sd) : Array Value := #[.agg #[.slice (some ⟨z, 0, none⟩) Kw s.C]]
theorem KpB.far {n₀ : Nat} {Ms : Nat → Prop} {u A V : World} (h : KpB n₀ Ms u A) (hn : n₀ ≤ u.heap.size) (k : ∀ q, q < u.heap.size → V.heap[q]? = A.heap[q]?) (hs : A.heap.size ≤ V.heap.size) : KpB n₀ Ms u V :=
  ⟨Nat.le_trans h.size hs, fun q h1 h2 => (k q (by omega)).trans (h.low q h1 h2), fun q o h1 h2 h3 => (k q (Array.getElem?_eq_some_iff.1 h2).1).trans (h.cells q o h1 h2 h3)⟩
theorem keepsFrom_far {B : Nat} {u A V : World} (h : KeepsFrom B u A) (k : ∀ q, q < u.heap.size → V.heap[q]? = A.heap[q]?) (hs : A.heap.size ≤ V.heap.size) : KeepsFrom B u V :=
  ⟨Nat.le_trans h.size hs, fun q o h1 h2 h3 => (k q (Array.getElem?_eq_some_iff.1 h2).1).trans (h.same q o h1 h2 h3)⟩
/-- While the sets of one block are handed on. -/
structure AsI (W u : World) (n₀ : Nat) (Ms : Nat → Prop) (J : Nat → List Sd → World → Prop) (s0 : List Sd) (z : Nat) (ss : List Sd) (V : World) : Prop where
  j : J z (s0 ++ ss) V
  kp : KpB n₀ Ms u V
  kf : KeepsFrom W.heap.size u V
structure AsX (W u : World) (Jx : List Sd → World → Prop) (s0 ss : List Sd) (V : World) : Prop where
  j : Jx (s0 ++ ss) V
  kf : KeepsFrom W.heap.size u V
section
variable {W u : World} {n₀ : Nat} {Ms : Nat → Prop} {J : Nat → List Sd → World → Prop} {Jx : List Sd → World → Prop} {s0 : List Sd}
theorem AsI.own (hJ : ∀ z, OwnFrom W.heap.size (J z)) (hW : W.heap.size ≤ u.heap.size) (hn : n₀ ≤ u.heap.size) (z : Nat) : OwnFrom u.heap.size (AsI W u n₀ Ms J s0 z) := fun ss A V row h k q => by
  have hu := h.kp.size
  have hb : ∀ i, i < u.heap.size → V.heap[i]? = A.heap[i]? := fun i hi => k.block i (by omega) (fun e => by have := (q i e.symm).1; omega)
  exact ⟨hJ z _ A V row h.j k (fun r e => ⟨by have := (q r e).1; omega, (q r e).2⟩), h.kp.far hn hb k.size, keepsFrom_far h.kf hb k.size⟩
theorem AsX.own (hJ : OwnFrom W.heap.size Jx) (hW : W.heap.size ≤ u.heap.size) : OwnFrom u.heap.size (AsX W u Jx s0) := fun ss A V row h k q => by
  have hu := h.kf.size
  have hb : ∀ i, i < u.heap.size → V.heap[i]? = A.heap[i]? := fun i hi => k.block i (by omega) (fun e => by have := (q i e.symm).1; omega)
  exact ⟨hJ _ A V row h.j k (fun r e => ⟨by have := (q r e).1; omega, (q r e).2⟩), keepsFrom_far h.kf hb k.size⟩
theorem AsI.turn (hJz : ∀ z s V V', W.heap.size ≤ z → J z s V → V.grownBy V' (some z) → J z s V') (hW : W.heap.size ≤ u.heap.size) (hn : n₀ ≤ u.heap.size) {z : Nat} (hz : u.heap.size ≤ z) {ss : List Sd} {A V : World} (h : AsI W u n₀ Ms J s0 z ss A) (k : A.grownBy V (some z)) : AsI W u n₀ Ms J s0 z ss V := by
  have hu := h.kp.size
  have hb : ∀ i, i < u.heap.size → V.heap[i]? = A.heap[i]? := fun i hi => k.block i (by omega) (fun e => by injection e with e; omega)
  exact ⟨hJz z _ A V (by omega) h.j k, h.kp.far hn hb k.size, keepsFrom_far h.kf hb k.size⟩
end
end Go.Proofs.YtjfcbjomfbfoiaaGreatDoor
