import Derived.Test.YtjfcbjomfbfoiaaGreatDoorZM1
import Derived.Test.YtjfcbjomfbfoiaaGreatDoorZI1
namespace Go.Proofs.YtjfcbjomfbfoiaaGreatDoor
open Go.RowKit
theorem flQ_mem {xs : List Blk} {V : Nat} {l : List Int} : l ∈ flQ xs V xs.length ↔ ∃ y ∈ allP xs V xs.length, l = natI y := by
  unfold flQ allP
  constructor
  · intro h
    obtain ⟨s, hs, h1⟩ := List.mem_flatMap.1 h
    obtain ⟨i, hi, rfl⟩ := List.mem_map.1 h1
    have hs' := List.mem_range.1 hs
    have hi := List.mem_range.1 hi
    rw [dfL_some hs'] at hi
    exact ⟨ptP xs xs[s] V s i, List.mem_flatMap.2 ⟨s, hs, (mem_side hs').2 ⟨i, by omega, rfl⟩⟩, ptQ_some hs' V i⟩
  · rintro ⟨y, hy, rfl⟩
    obtain ⟨s, hs, h1⟩ := List.mem_flatMap.1 hy
    have hs' := List.mem_range.1 hs
    obtain ⟨i, hi, rfl⟩ := (mem_side hs').1 h1
    exact List.mem_flatMap.2 ⟨s, hs, List.mem_map.2 ⟨i, List.mem_range.2 (by rw [dfL_some hs']; omega), ptQ_some hs' V i⟩⟩
theorem mem_natI {y : List Nat} {u : Nat} : (u : Int) ∈ natI y ↔ u ∈ y := by
  unfold natI
  constructor
  · intro h
    obtain ⟨z, hz, e⟩ := List.mem_map.1 h
    have : z = u := by have e2 : ((z : Nat) : Int) = (u : Int) := e; omega
    rw [← this]; exact hz
  · intro h; exact List.mem_map.2 ⟨u, h, rfl⟩
theorem flQ_small {xs : List Blk} {V : Nat} {l : List Int} (h : l ∈ flQ xs V xs.length) : l.length ≤ V ∧ ∀ x ∈ l, ∃ k : Nat, k < V ∧ x = (k : Int) := by
  obtain ⟨y, hy, rfl⟩ := flQ_mem.1 h
  constructor
  · obtain ⟨s, hs, h1⟩ := List.mem_flatMap.1 hy
    obtain ⟨i, hi, rfl⟩ := (mem_side (List.mem_range.1 hs)).1 h1
    have := ptQ_len xs V s i
    rw [ptQ_some (List.mem_range.1 hs)] at this
    exact this
  · intro x hx
    unfold natI at hx
    obtain ⟨z, hz, rfl⟩ := List.mem_map.1 hx
    exact ⟨z, all_ltV hy hz, rfl⟩
/-- v and u stand in one of the first i sets. -/
def mB (fl : List (List Int)) (v i u : Nat) : Prop := ∃ i', i' < i ∧ ∃ h : i' < fl.length, (v : Int) ∈ fl[i'] ∧ (u : Int) ∈ fl[i']
theorem mB_all {xs : List Blk} {V v u : Nat} : mB (flQ xs V xs.length) v (flQ xs V xs.length).length u ↔ meetP (allP xs V xs.length) v u := by
  constructor
  · rintro ⟨i, hi, h, h1, h2⟩
    obtain ⟨y, hy, e⟩ := flQ_mem.1 (List.getElem_mem h)
    rw [e] at h1 h2
    exact ⟨y, hy, mem_natI.1 h1, mem_natI.1 h2⟩
  · rintro ⟨y, hy, h1, h2⟩
    obtain ⟨i, hi, e⟩ := List.getElem_of_mem (flQ_mem.2 ⟨y, hy, rfl⟩)
    exact ⟨i, hi, hi, by rw [e]; exact mem_natI.2 h1, by rw [e]; exact mem_natI.2 h2⟩
theorem mB_succ {fl : List (List Int)} {v i u : Nat} (h : i < fl.length) : mB fl v (i + 1) u ↔ mB fl v i u ∨ ((v : Int) ∈ fl[i] ∧ (u : Int) ∈ fl[i]) := by
  constructor
  · rintro ⟨i', h1, h2, h3⟩
    by_cases e : i' = i
    · subst e; exact Or.inr h3
    · exact Or.inl ⟨i', by omega, h2, h3⟩
  · rintro (⟨i', h1, h2, h3⟩ | h3)
    · exact ⟨i', by omega, h2, h3⟩
    · exact ⟨i, by omega, h, h3⟩
/-- The first j of a list. -/
def preJ (l : List Int) (j u : Nat) : Prop := ∃ j', j' < j ∧ l[j']? = some (u : Int)
theorem preJ_all {l : List Int} {u : Nat} : preJ l l.length u ↔ (u : Int) ∈ l := by
  constructor
  · rintro ⟨j, _, e⟩; exact List.mem_of_getElem? e
  · intro h
    obtain ⟨j, hj, e⟩ := List.getElem_of_mem h
    exact ⟨j, hj, by rw [List.getElem?_eq_getElem hj, e]⟩
theorem preJ_succ {l : List Int} {j x u : Nat} (h : l[j]? = some (x : Int)) : preJ l (j + 1) u ↔ preJ l j u ∨ u = x := by
  constructor
  · rintro ⟨j', h1, h2⟩
    by_cases e : j' = j
    · subst e
      rw [h] at h2
      exact Or.inr (by injection h2 with h2; omega)
    · exact Or.inl ⟨j', by omega, h2⟩
  · rintro (⟨j', h1, h2⟩ | rfl)
    · exact ⟨j', by omega, h2⟩
    · exact ⟨j, by omega, h⟩
/-- The row of marks, made behind wv. -/
structure MtX (wv wx : World) (gm V : Nat) (R : Nat → Prop) : Prop where
  low : Below wv.heap.size wv wx
  ge : wv.heap.size ≤ gm
  row : ∃ f : Nat → Bool, wx.rowIs gm 4 V (fun z => .bool (f z)) ∧ ∀ u, u < V → (f u = true ↔ R u)
section
variable {wv wx w' : World} {gm V : Nat} {R R' : Nat → Prop}
theorem MtX.congr (h : MtX wv wx gm V R) (e : ∀ u, u < V → (R u ↔ R' u)) : MtX wv wx gm V R' := by
  obtain ⟨f, h1, h2⟩ := h.row
  exact ⟨h.low, h.ge, f, h1, fun u hu => (h2 u hu).trans (e u hu)⟩
theorem MtX.set (h : MtX wv wx gm V R) (x : Nat) : MtX wv (wx.setCell ⟨gm, x, none⟩ (.bool true)) gm V (fun u => R u ∨ u = x) := by
  obtain ⟨f, h1, h2⟩ := h.row
  refine ⟨h.low.setCell (by show wv.heap.size ≤ gm; exact h.ge) _, h.ge, _, row_set (C := Value.bool) h1 x true, fun u hu => ?_⟩
  by_cases e : u = x
  · subst e; simp
  · simp only [e, if_false, or_false]
    exact h2 u hu
end
/-- The list that is made of the marks, in the box bs. -/
structure SlX (wv wx : World) (gm V : Nat) (R : Nat → Prop) (bs : Nat) (u : Value) (l : List Int) : Prop where
  mt : MtX wv wx gm V R
  gs : wv.heap.size ≤ bs ∧ bs ≠ gm
  box : wx.rowIs bs 56 1 (fun _ => u)
  own : wx.ownsRow wv.heap.size 2 1 u l.length (l.map (Value.int .i64))
theorem SlX.push {wv wx w8 : World} {gm V : Nat} {R : Nat → Prop} {bs : Nat} {u u' : Value} {l : List Int} {ob : Obj} {x : Int} (h : SlX wv wx gm V R bs u l) (hg : (wx.alloc ob).grownBy w8 u.ownBlock) (ho : w8.ownsRow wv.heap.size 2 1 u' (l.length + 1) (l.map (Value.int .i64) ++ [.int .i64 x])) : SlX wv (w8.setCell ⟨bs, 0, none⟩ u') gm V R bs u' (l ++ [x]) := by
  have hgs := hg.size
  rw [World.size_alloc] at hgs
  have hz := h.mt.low.size
  have hnu : ∀ q T k f, wx.rowIs q T k f → T ≠ 2 → u.ownBlock ≠ some q := fun q T k f hr hT e => by
    obtain ⟨c, h1, _⟩ := hr
    rcases h.own.2 with ⟨e1, _⟩ | ⟨g, cap, cur, e1, _, h2, _⟩
    · rw [e1] at e; cases e
    · rw [e1] at e
      injection e with e
      have e : g = q := e
      subst e
      rw [show wx.heap[g]? = _ from h1] at h2
      injection h2 with h2
      injection h2 with _ h3
      exact hT h3
  have hold : ∀ q, q < wx.heap.size → u.ownBlock ≠ some q → w8.heap[q]? = wx.heap[q]? := fun q h1 h2 => (hg.block q (by rw [World.size_alloc]; omega) (fun e => h2 e.symm)).trans (Below.heap_alloc _ _ _ h1)
  obtain ⟨f, h1, h2⟩ := h.mt.row
  refine ⟨⟨Below.setCell ⟨hg.os.trans h.mt.low.os, hg.tape.trans h.mt.low.tape, hg.output.trans h.mt.low.output, by omega, fun q hq => (hold q (by omega) (fun e => by have := (h.own.lt q e).1; omega)).trans (h.mt.low.block q hq)⟩ (by show wv.heap.size ≤ bs; exact h.gs.1) _, h.mt.ge, f, (h1.of_block (hold _ h1.lt (hnu _ _ _ _ h1 (by decide)))).setOther (by show gm ≠ bs; exact Ne.symm h.gs.2) _, h2⟩, h.gs, ((h.box.of_block (hold _ h.box.lt (hnu _ _ _ _ h.box (by decide)))).set 0 u').congr (fun i hi => by rw [show i = 0 by omega]; simp), ?_⟩
  rw [List.length_append, List.map_append]
  refine ho.kept (row := some bs) ⟨rfl, rfl, rfl, by simp [World.setCell], fun k _ hk => Below.heap_setCell _ _ _ _ (fun e => hk (by rw [e]))⟩ (Or.inr (fun e => ?_))
  have hbs := hold _ h.box.lt (hnu _ _ _ _ h.box (by decide))
  obtain ⟨c, h3, _⟩ := h.box
  rcases ho.2 with ⟨e1, _⟩ | ⟨g, cap, cur, e1, _, h4, _⟩
  · rw [e1] at e; cases e
  · rw [e1] at e
    injection e with e
    have e : g = bs := e
    subst e
    rw [hbs, show wx.heap[g]? = _ from h3] at h4
    injection h4 with h4
    injection h4 with _ h5
    exact absurd h5 (by decide)
/-- The answer as far as it is made. -/
structure OuS (w2 wr : World) (b0 : Nat) (X : Value) (v : Nat) (P : Nat → List Int) : Prop where
  os : wr.os = w2.os
  tape : wr.tape = w2.tape
  output : wr.output = w2.output
  size : w2.heap.size ≤ wr.heap.size
  fr : ∀ q, q < w2.heap.size → q ≠ b0 → wr.heap[q]? = w2.heap[q]?
  ob : ∀ q, X.ownBlock = some q → q = b0 ∨ w2.heap.size ≤ q
  own : ∃ U : Nat → Value, wr.ownsRow b0 56 1 X v ((List.range v).map U) ∧ ∀ i, i < v → wr.ownsRow w2.heap.size 2 1 (U i) (P i).length ((P i).map (Value.int .i64))
theorem OuS.below {w2 wr w' : World} {b0 : Nat} {X : Value} {v : Nat} {P : Nat → List Int} (h : OuS w2 wr b0 X v P) (k : Below wr.heap.size wr w') : OuS w2 w' b0 X v P := by
  obtain ⟨U, h1, h2⟩ := h.own
  have hs := h.size
  exact ⟨k.os.trans h.os, k.tape.trans h.tape, k.output.trans h.output, Nat.le_trans h.size k.size, fun q q1 q2 => (k.block q (by omega)).trans (h.fr q q1 q2), h.ob, U, own_below h1 k, fun i hi => own_below (h2 i hi) k⟩
theorem OuS.push {w2 wr w8 : World} {b0 : Nat} {X X' u : Value} {v : Nat} {P : Nat → List Int} {U : Nat → Value} {ob : Obj} (h : OuS w2 wr b0 X v P) (hU : wr.ownsRow b0 56 1 X v ((List.range v).map U) ∧ ∀ i, i < v → wr.ownsRow w2.heap.size 2 1 (U i) (P i).length ((P i).map (Value.int .i64))) (hu : wr.ownsRow w2.heap.size 2 1 u (P v).length ((P v).map (Value.int .i64))) (hg : (wr.alloc ob).grownBy w8 X.ownBlock) (ho : w8.ownsRow b0 56 1 X' (v + 1) ((List.range v).map U ++ [u])) (hat : X'.ownBlock = X.ownBlock ∨ X'.ownBlock = some (wr.heap.size + 1)) : OuS w2 w8 b0 X' (v + 1) P := by
  have hs := h.size
  have hgs := hg.size
  rw [World.size_alloc] at hgs
  have hold : ∀ q, q < wr.heap.size → X.ownBlock ≠ some q → w8.heap[q]? = wr.heap[q]? := fun q h1 h2 => (hg.block q (by rw [World.size_alloc]; omega) (fun e => h2 e.symm)).trans (Below.heap_alloc _ _ _ h1)
  have ka : Below wr.heap.size wr (wr.alloc ob) := balloc (Below.refl _ _) _
  have keep : ∀ {y : Value} {l : List Int}, wr.ownsRow w2.heap.size 2 1 y l.length (l.map (Value.int .i64)) → w8.ownsRow w2.heap.size 2 1 y l.length (l.map (Value.int .i64)) := fun hy => (own_below hy ka).kept hg (own_types hy hU.1 (by decide))
  refine ⟨hg.os.trans h.os, hg.tape.trans h.tape, hg.output.trans h.output, by omega, fun q q1 q2 => (hold q (by omega) (fun e => by rcases h.ob q e with e | e <;> omega)).trans (h.fr q q1 q2), fun q e => ?_, fun i => if i = v then u else U i, ?_, fun i hi => ?_⟩
  · rcases hat with e1 | e1
    · exact h.ob q (e1.symm.trans e)
    · rw [e1] at e
      injection e with e
      exact Or.inr (by omega)
  · rw [List.range_succ, List.map_append, List.map_cons, List.map_nil, if_pos rfl, List.map_congr_left (g := U) (fun i hi => by rw [if_neg (by have := List.mem_range.1 hi; omega)])]
    exact ho
  · by_cases e : i = v
    · subst e
      simp only [if_true]
      exact keep hu
    · simp only [e, if_false]
      exact keep (hU.2 i (by omega))
end Go.Proofs.YtjfcbjomfbfoiaaGreatDoor
