import Derived.Test.YtjfcbjomfbfoiaaGreatDoorSS3
import Derived.Test.YtjfcbjomfbfoiaaGreatDoorLB0
import Derived.Test.YtjfcbjomfbfoiaaGreatDoorTZ1
namespace Go.Proofs.YtjfcbjomfbfoiaaGreatDoor
open Go.RowKit
structure RoS (w : World) (base g m : Nat) (P : Nat → List Int) (U : Nat → Value) : Prop where
  lt : g < base
  row : w.rowIs g 56 m U
  own : ∀ i, i < m → w.ownsRow base 2 1 (U i) (P i).length ((P i).map (Value.int .i64))
  dj : ∀ i j, i < m → j < m → i ≠ j → (U i).ownBlock = none ∨ (U i).ownBlock ≠ (U j).ownBlock
section
variable {w w' w5 : World} {base g m : Nat} {P P' : Nat → List Int} {U : Nat → Value}
theorem RoS.kept (h : RoS w base g m P U) {row : Option Nat} (k : w.grownBy w' row) (hr : ∀ r, row = some r → r ≠ g ∧ ∀ i, i < m → (U i).ownBlock ≠ some r) : RoS w' base g m P U := by
  refine ⟨h.lt, h.row.of_block (k.block _ h.row.lt (fun e => (hr g e.symm).1 rfl)), fun i hi => (h.own i hi).kept k ?_, h.dj⟩
  cases row with
  | none =>
    cases (U i).ownBlock
    · exact Or.inl rfl
    · exact Or.inr (fun e => by cases e)
  | some r => exact Or.inr ((hr r rfl).2 i hi)
theorem RoS.below (h : RoS w base g m P U) (k : Below w.heap.size w w') : RoS w' base g m P U :=
  h.kept (row := none) ⟨k.os, k.tape, k.output, k.size, fun b hb _ => k.block b hb⟩ (fun r e => by cases e)
theorem RoS.congr (h : RoS w base g m P U) (e : ∀ i, i < m → P i = P' i) : RoS w base g m P' U :=
  ⟨h.lt, h.row, fun i hi => by rw [← e i hi]; exact h.own i hi, h.dj⟩
theorem RoS.put (h : RoS w base g m P U) (hb : base ≤ w.heap.size) (k : Below w.heap.size w w5) {t : Nat} {p : List Int} {u : Value} (hu : w5.ownsRow w.heap.size 2 1 u p.length (p.map (Value.int .i64))) :
    RoS (w5.setCell ⟨g, t, none⟩ u) base g m (fun i => if i = t then p else P i) (fun i => if i = t then u else U i) := by
  have h5 := h.below k
  have fresh : ∀ q, q < m → ∀ b, u.ownBlock = some b → (U q).ownBlock ≠ some b := fun q hq b e1 e2 => by
    have := (hu.lt b e1).1
    have := ((h.own q hq).lt b e2).2
    omega
  refine ⟨h.lt, (h5.row.set t u).congr (fun i _ => by by_cases e : i = t <;> simp [e]), fun i hi => ?_, fun i j hi hj hij => ?_⟩
  · by_cases e : i = t
    · simp only [e, if_true]
      have : w5.ownsRow base 2 1 u p.length (p.map (Value.int .i64)) := by
        refine ⟨hu.1, hu.2.imp id ?_⟩
        rintro ⟨g', cap, cur, e1, e2, e3⟩
        exact ⟨g', cap, cur, e1, Nat.le_trans hb e2, e3⟩
      exact ownsRow_setCell_below this h.lt _
    · simp only [e, if_false]
      exact ownsRow_setCell_below (h5.own i hi) h.lt _
  · by_cases e1 : i = t
    · have e2 : ¬ j = t := fun e => hij (e1.trans e.symm)
      simp only [e1, if_true, e2, if_false]
      cases hq : u.ownBlock with
      | none => exact Or.inl rfl
      | some b => exact Or.inr (fun e => fresh j hj b hq e.symm)
    · by_cases e2 : j = t
      · simp only [e1, if_false, e2, if_true]
        cases hq : u.ownBlock with
        | none =>
          cases hq2 : (U i).ownBlock with
          | none => exact Or.inl rfl
          | some b => exact Or.inr (fun e => by cases e)
        | some b => exact Or.inr (fresh i hi b hq)
      · simp only [e1, if_false, e2]
        exact h.dj i j hi hj hij
theorem RoS.ints (h : RoS w base g m P U) {L : Nat} (hL : L ≤ g) : IntssAt w L w.heap.size (some ⟨g, 0, none⟩) ((List.range m).map P) := fun i hi => by
  simp only [List.length_map, List.length_range] at hi
  obtain ⟨a, c, hv, ha⟩ := ints_owned (h.own i hi)
  refine ⟨g, 0, rfl, ⟨hL, h.row.lt⟩, a, c, ?_, ?_⟩
  · simp only [List.getElem_map, List.getElem_range, Nat.zero_add]
    rw [h.row.cell hi, hv]
  · simp only [List.getElem_map, List.getElem_range]
    exact ha.mono (by have := h.lt; omega) (Nat.le_refl _)
end
/-- While PointSets goes through the sets of the places. -/
structure PtI (w6 : World) (G m p z : Nat) (pre : List Sd) (V : World) : Prop where
  os : V.os = w6.os
  tape : V.tape = w6.tape
  output : V.output = w6.output
  size : w6.heap.size ≤ V.heap.size
  fr : ∀ q, q < w6.heap.size → q ≠ G → V.heap[q]? = w6.heap[q]?
  zl : w6.heap.size ≤ z ∧ z < V.heap.size
  db : ∃ P U, RoS V w6.heap.size G m P U ∧ (∀ i, i < m → (U i).ownBlock ≠ some z) ∧ ∀ i, i < m → (P i = [] ∧ ∀ q ∈ pre, q.i ≠ i) ∨ ∃ q ∈ pre, q.i = i ∧ P i = natI (lsN q.W p)
section
variable {w6 V V' V5 : World} {G m p z : Nat} {pre : List Sd}
theorem PtI.row (h : PtI w6 G m p z pre V) {r : Nat} (hr : w6.heap.size ≤ r) (k : V.grownBy V' (some r)) (hn : ∀ P U, RoS V w6.heap.size G m P U → (∀ i, i < m → (U i).ownBlock ≠ some z) → ∀ i, i < m → (U i).ownBlock ≠ some r) : PtI w6 G m p z pre V' := by
  obtain ⟨P, U, h1, h2, h3⟩ := h.db
  have hl := h1.lt
  exact ⟨k.os.trans h.os, k.tape.trans h.tape, k.output.trans h.output, Nat.le_trans h.size k.size, fun q q1 q2 => (k.block q (by have := h.size; omega) (fun e => by injection e with e; omega)).trans (h.fr q q1 q2), ⟨h.zl.1, Nat.lt_of_lt_of_le h.zl.2 k.size⟩, P, U, h1.kept k (fun q e => by injection e with e; subst e; exact ⟨by omega, hn P U h1 h2⟩), h2, h3⟩
theorem PtI.below (h : PtI w6 G m p z pre V) (k : Below V.heap.size V V') : PtI w6 G m p z pre V' := by
  obtain ⟨P, U, h1, h2, h3⟩ := h.db
  exact ⟨k.os.trans h.os, k.tape.trans h.tape, k.output.trans h.output, Nat.le_trans h.size k.size, fun q q1 q2 => (k.block q (by have := h.size; omega)).trans (h.fr q q1 q2), ⟨h.zl.1, Nat.lt_of_lt_of_le h.zl.2 k.size⟩, P, U, h1.below k, h2, h3⟩
theorem PtI.turn (h : PtI w6 G m p z pre V) (k : V.grownBy V' (some z)) : PtI w6 G m p z pre V' := h.row h.zl.1 k (fun _ _ _ h2 => h2)
theorem PtI.own (w6 : World) (G m p z : Nat) : OwnFrom w6.heap.size (PtI w6 G m p z) := fun pre V V' row h k q => by
  cases row with
  | none => exact h.below ⟨k.os, k.tape, k.output, k.size, fun b hb => k.block b hb (fun e => by cases e)⟩
  | some r =>
    obtain ⟨h1, o, h2, h3⟩ := q r rfl
    refine h.row h1 k (fun P U hU _ i hi e => ?_)
    rcases (hU.own i hi).2 with ⟨e1, _⟩ | ⟨g, cap, cur, e1, _, h4, _⟩
    · rw [e1] at e; cases e
    · rw [e1] at e
      injection e with e
      have e : g = r := e
      subst e
      rw [h2] at h4
      injection h4 with h4
      subst h4
      cases h3
theorem PtI.push (h : PtI w6 G m p z pre V) {s : Sd} (k : Below V.heap.size V V5) {u : Value} (hu : V5.ownsRow V.heap.size 2 1 u (lsN s.W p).length ((natI (lsN s.W p)).map (Value.int .i64))) : PtI w6 G m p z (pre ++ [s]) (V5.setCell ⟨G, s.i, none⟩ u) := by
  obtain ⟨P, U, h1, h2, h3⟩ := h.db
  have hl := h1.lt
  have h5 := h.below k
  rw [show (lsN s.W p).length = (natI (lsN s.W p)).length by simp [natI]] at hu
  refine ⟨h5.os, h5.tape, h5.output, by rw [size_setCell]; exact h5.size, fun q q1 q2 => (Below.heap_setCell _ _ _ _ q2).trans (h5.fr q q1 q2), ⟨h5.zl.1, by rw [size_setCell]; exact h5.zl.2⟩, _, _, h1.put h.size k hu, fun i hi => ?_, fun i hi => ?_⟩
  · by_cases e : i = s.i
    · simp only [e, if_true]
      intro e2
      have := (hu.lt z e2).1
      have := h.zl.2
      omega
    · simp only [e, if_false]
      exact h2 i hi
  · by_cases e : i = s.i
    · simp only [e, if_true]
      exact Or.inr ⟨s, by simp, rfl, rfl⟩
    · simp only [e, if_false]
      rcases h3 i hi with ⟨e1, e2⟩ | ⟨q, q1, q2, q3⟩
      · refine Or.inl ⟨e1, fun q hq => ?_⟩
        rcases List.mem_append.1 hq with hq | hq
        · exact e2 q hq
        · rw [List.mem_singleton.1 hq]
          exact fun e3 => e e3.symm
      · exact Or.inr ⟨q, List.mem_append_left _ q1, q2, q3⟩
theorem PtI.cell (h : PtI w6 G m p z pre V) {b o : Nat} {v : Value} (hb : b ≠ G) (hc : w6.cell? ⟨b, o, none⟩ = some v) : V.cell? ⟨b, o, none⟩ = some v := (cell_of (h.fr b (World.block_lt_of_cell? w6 _ hc) hb)).trans hc
end
end Go.Proofs.YtjfcbjomfbfoiaaGreatDoor
