import Derived.Test.YtjfcbjomfbfoiaaGreatDoorAS1
import Derived.Test.YtjfcbjomfbfoiaaGreatDoorMQ3
import Derived.Test.YtjfcbjomfbfoiaaGreatDoorW18b
import Derived.Test.YtjfcbjomfbfoiaaGreatDoorMH2
import Derived.Test.YtjfcbjomfbfoiaaGreatDoorDR1
namespace Go.Proofs.YtjfcbjomfbfoiaaGreatDoor
open Go.RowKit Go.Shelf
attribute [local go_sem] Oper.semAt_some
set_option maxHeartbeats 1000000 in
theorem allSides_in (n : Nat) (v0 v1 : Value) (w : World) :
    CallsIn Fence.wide n Tryz.prog 42 #[.agg #[v0, v1]] w fun e w' => e = .returned (.func (.func 82) #[] #[.pointer (some ⟨w.heap.size, 0, none⟩)]) ∧ w' = w.alloc (.cells #[v0, v1] 32) := by
  refine callsIn_of_wp Tryz.func42 rfl trivial ?_ rfl
  simp only [Tryz.ntmps42, List.size_toArray, List.length_cons, List.length_nil, Nat.reduceAdd, Nat.reduceSub, Array.replicate_succ, Array.replicate_zero, List.push_toArray, List.append_toArray, List.nil_append, List.cons_append]
  gi_wp2
  go_ret
  exact ⟨rfl, rfl⟩
theorem sdPv_own (n Kw B z : Nat) : OwnFrom B (sdPv n Kw z) := fun p A V row h k q => by
  have h1 := sdPy_own n p.i Kw B z p A V row ⟨⟨Nat.le_refl _, h.1⟩, h.2⟩ k q
  exact ⟨h.1, h1.2⟩
theorem sdPv_below {n Kw z : Nat} {p : Sd} {V V' : World} (h : sdPv n Kw z p V) (k : Below V.heap.size V V') : sdPv n Kw z p V' := ⟨h.1, h.2.1.of_block (k.block z h.2.1.lt), h.2.2⟩
/-- The greatest length. -/
def mxL {α : Type} (l : List (List α)) : Nat := (l.map List.length).foldl max 0
/-- While MaxLive goes through the sets. -/
structure MxI (w6 : World) (Bm p : Nat) (pre : List Sd) (V : World) : Prop where
  os : V.os = w6.os
  tape : V.tape = w6.tape
  output : V.output = w6.output
  size : w6.heap.size ≤ V.heap.size
  bl : Bm < w6.heap.size
  fr : ∀ q, q < w6.heap.size → q ≠ Bm → V.heap[q]? = w6.heap[q]?
  mx : V.rowIs Bm 3 1 (fun _ => .int .i64 (mxL (pre.map (sdW p)) : Int))
section
variable {w6 V V' : World} {Bm p : Nat} {pre : List Sd}
theorem MxI.far (h : MxI w6 Bm p pre V) (k : Below w6.heap.size V V') : MxI w6 Bm p pre V' :=
  ⟨k.os.trans h.os, k.tape.trans h.tape, k.output.trans h.output, Nat.le_trans h.size k.size, h.bl, fun q q1 q2 => (k.block q q1).trans (h.fr q q1 q2), h.mx.of_block (k.block _ h.bl)⟩
theorem MxI.own (w6 : World) (Bm p : Nat) : OwnFrom w6.heap.size (MxI w6 Bm p) := fun pre V V' row h k q => by
  have := h.size
  exact h.far ⟨k.os, k.tape, k.output, k.size, fun b hb => k.block b (by omega) (fun e => by have := (q b e.symm).1; omega)⟩
theorem MxI.push (h : MxI w6 Bm p pre V) {s : Sd} (k : Below V.heap.size V V') {x : Int} (hx : x = (mxL ((pre ++ [s]).map (sdW p)) : Int)) : MxI w6 Bm p (pre ++ [s]) (V'.setCell ⟨Bm, 0, none⟩ (.int .i64 x)) := by
  have h' := h.far (k.mono h.size)
  refine ⟨h'.os, h'.tape, h'.output, by rw [size_setCell]; exact h'.size, h'.bl, fun q q1 q2 => (Below.heap_setCell _ _ _ _ q2).trans (h'.fr q q1 q2), ?_⟩
  rw [← hx]
  exact (h'.mx.set 0 _).congr (fun i hi => by rw [show i = 0 by omega]; simp)
end
end Go.Proofs.YtjfcbjomfbfoiaaGreatDoor

namespace Go.Proofs.YtjfcbjomfbfoiaaGreatDoor
open Go.RowKit
theorem ptQ_some {xs : List Blk} {b : Nat} (hb : b < xs.length) (V i : Nat) : ptQ xs V b i = natI (ptP xs xs[b] V b i) := by
  unfold ptQ
  rw [List.getElem?_eq_getElem hb]
theorem dfL_some {xs : List Blk} {b : Nat} (hb : b < xs.length) : (dfL xs b).length = xs[b].instrs.length := by
  unfold dfL
  rw [List.getElem?_eq_getElem hb]
  simp [dfsM]
/-- All sets as the model lists them, of the first b blocks. -/
noncomputable def flQ (xs : List Blk) (V b : Nat) : List (List Int) := (List.range b).flatMap fun s => (List.range ((dfL xs s).length + 1)).map (ptQ xs V s)
theorem flQ_succ (xs : List Blk) (V b : Nat) : flQ xs V (b + 1) = flQ xs V b ++ (List.range ((dfL xs b).length + 1)).map (ptQ xs V b) := by
  unfold flQ
  rw [List.range_succ, List.flatMap_append]
  simp
theorem mem_side {xs : List Blk} {V b : Nat} (hb : b < xs.length) {l : List Nat} : l ∈ sideP xs V b ↔ ∃ i, i ≤ xs[b].instrs.length ∧ l = ptP xs xs[b] V b i := by
  unfold sideP
  rw [List.getElem?_eq_getElem hb]
  simp only [List.mem_append, List.mem_map, List.mem_singleton]
  constructor
  · rintro (⟨j, _, e⟩ | e)
    · exact ⟨(j : Nat) + 1, j.isLt, e.symm⟩
    · exact ⟨0, Nat.zero_le _, e⟩
  · rintro ⟨i, hi, e⟩
    cases i with
    | zero => exact Or.inr e
    | succ j =>
      refine Or.inl ⟨⟨j, hi⟩, ?_, e.symm⟩
      unfold bwF
      rw [List.take_of_length_le (by simp)]
      exact List.mem_reverse.2 (List.mem_finRange _)
end Go.Proofs.YtjfcbjomfbfoiaaGreatDoor

namespace Go.Proofs.YtjfcbjomfbfoiaaGreatDoor
open Go.RowKit
def Lsb (xs : List Blk) (s : Bool) (v b : Nat) : Prop := if s = true then Lou xs v b else Lin xs v b
open Classical in
noncomputable def ipTo (xs : List Blk) (v : Nat) (s : Bool) (b : Nat) : List Int := natI ((List.range v).filter fun u => decide (Lsb xs s u b))
/-- While two rows of sets are filled. -/
structure LvS (w3 wr : World) (G : Bool → Nat) (n : Nat) (P : Bool → Nat → List Int) : Prop where
  os : wr.os = w3.os
  tape : wr.tape = w3.tape
  output : wr.output = w3.output
  size : w3.heap.size ≤ wr.heap.size
  fr : ∀ q, q < w3.heap.size → q ≠ G false → q ≠ G true → wr.heap[q]? = w3.heap[q]?
  db : ∃ U, DbS wr w3.heap.size G n P U
section
variable {w3 wr wr' w8 : World} {G : Bool → Nat} {n : Nat} {P P' : Bool → Nat → List Int}
theorem LvS.below (h : LvS w3 wr G n P) (k : Below wr.heap.size wr wr') : LvS w3 wr' G n P := by
  obtain ⟨U, hU⟩ := h.db
  have := h.size
  exact ⟨k.os.trans h.os, k.tape.trans h.tape, k.output.trans h.output, Nat.le_trans h.size k.size, fun q h1 h2 h3 => (k.block q (by omega)).trans (h.fr q h1 h2 h3), U, hU.below k⟩
theorem LvS.congr (h : LvS w3 wr G n P) (e : ∀ s i, i < n → P s i = P' s i) : LvS w3 wr G n P' := by
  obtain ⟨U, hU⟩ := h.db
  exact ⟨h.os, h.tape, h.output, h.size, h.fr, U, hU.congr e⟩
theorem LvS.cell (h : LvS w3 wr G n P) {b o : Nat} {v : Value} (h1 : b ≠ G false) (h2 : b ≠ G true) (hc : w3.cell? ⟨b, o, none⟩ = some v) : wr.cell? ⟨b, o, none⟩ = some v := (cell_of (h.fr b (World.block_lt_of_cell? w3 _ hc) h1 h2)).trans hc
theorem LvS.push {U : Bool → Nat → Value} {s : Bool} {t : Nat} {ob : Obj} {x : Int} {v' : Value} (h : LvS w3 wr G n P) (hU : DbS wr w3.heap.size G n P U) (ht : t < n) (hg : (wr.drew.alloc ob).grownBy w8 (U s t).ownBlock) (ho : w8.ownsRow w3.heap.size 2 1 v' ((P s t).length + 1) ((P s t).map (Value.int .i64) ++ [.int .i64 x])) (hat : v'.ownBlock = (U s t).ownBlock ∨ v'.ownBlock = some (wr.heap.size + 1)) :
    LvS w3 (w8.setCell ⟨G s, t, none⟩ v') G n (fun s' i => if (s', i) = (s, t) then P s t ++ [x] else P s' i) ∧ w8.cell? ⟨G s, t, none⟩ = some (U s t) ∧ w8.frozen? ⟨G s, t, none⟩ = false ∧ (∀ q, q < wr.heap.size → q ≠ G s → (U s t).ownBlock ≠ some q → w8.heap[q]? = wr.heap[q]? ∧ (w8.setCell ⟨G s, t, none⟩ v').heap[q]? = wr.heap[q]?) ∧ wr.heap.size ≤ (w8.setCell ⟨G s, t, none⟩ v').heap.size := by
  have hsz := h.size
  have hgs := hg.size
  have has : (wr.drew.alloc ob).heap.size = wr.heap.size + 1 := World.size_alloc _ _
  have hal : ∀ k, k < wr.heap.size → (wr.drew.alloc ob).heap[k]? = wr.heap[k]? := fun k hk => Below.heap_alloc wr.drew _ _ hk
  have hU' : DbS (wr.drew.alloc ob) w3.heap.size G n P U := hU.below ⟨rfl, rfl, rfl, by omega, hal⟩
  have hst := hU'.step ht x v' hg ho (by rw [has]; exact hat)
  have hnu : ∀ k, k < w3.heap.size → (U s t).ownBlock ≠ some k := fun k hk e => by have := ((hU.own s t ht).lt k e).1; omega
  have hbk : ∀ k, k < wr.heap.size → (U s t).ownBlock ≠ some k → w8.heap[k]? = wr.heap[k]? := fun k h1 h3 => (hg.block k (by omega) (fun e => h3 e.symm)).trans (hal k h1)
  have hG := hU.lt s
  have hGb := hbk (G s) (by omega) (hnu _ hG)
  refine ⟨⟨hg.os.trans h.os, hg.tape.trans h.tape, hg.output.trans h.output, by rw [size_setCell]; omega, fun q h1 h2 h3 => ?_, _, hst⟩, (cell_of hGb).trans ((hU.row s).cell ht), (World.frozen?_of_block hGb).trans ((hU.row s).frozen t), fun q h1 h2 h3 => ⟨hbk q h1 h3, (Below.heap_setCell _ _ _ _ h2).trans (hbk q h1 h3)⟩, by rw [size_setCell]; omega⟩
  refine (Below.heap_setCell _ _ _ _ ?_).trans ((hbk q (by omega) (hnu q h1)).trans (h.fr q h1 h2 h3))
  cases s
  · exact h2
  · exact h3
end
end Go.Proofs.YtjfcbjomfbfoiaaGreatDoor

namespace Go.Proofs.YtjfcbjomfbfoiaaGreatDoor
open Go.RowKit
def off2 (s : Bool) : Nat := if s = true then 1 else 0
structure LiG (w0 wr : World) (Fo : Nat) (b : Bool → Nat) (U : Bool → Nat → Value) (P : Bool → Nat → List Int) (X : Bool → Value) : Prop where
  os : wr.os = w0.os
  tape : wr.tape = w0.tape
  output : wr.output = w0.output
  size : w0.heap.size ≤ wr.heap.size
  hF : Fo < w0.heap.size
  fr : ∀ q, q < w0.heap.size → q ≠ Fo → wr.heap[q]? = w0.heap[q]?
  box : wr.rowIs Fo 28 2 (fun i => X (decide (i = 1)))
  oo : ∀ s, wr.ownsRow w0.heap.size 56 1 (X s) (b s) ((List.range (b s)).map (U s))
  ne : ∀ g, (X false).ownBlock = some g → (X true).ownBlock ≠ some g
  own : ∀ s i, i < b s → wr.ownsRow w0.heap.size 2 1 (U s i) (P s i).length ((P s i).map (Value.int .i64))
  dj : ∀ s i s' j, i < b s → j < b s' → (s, i) ≠ (s', j) → (U s i).ownBlock = none ∨ (U s i).ownBlock ≠ (U s' j).ownBlock
section
variable {w0 wr wr' w5 w8 : World} {Fo : Nat} {b : Bool → Nat} {U : Bool → Nat → Value} {P : Bool → Nat → List Int} {X : Bool → Value}
theorem LiG.cell (h : LiG w0 wr Fo b U P X) {q o : Nat} {v : Value} (hq : q ≠ Fo) (hc : w0.cell? ⟨q, o, none⟩ = some v) : wr.cell? ⟨q, o, none⟩ = some v := (cell_of (h.fr q (World.block_lt_of_cell? w0 _ hc) hq)).trans hc
theorem LiG.xcell (h : LiG w0 wr Fo b U P X) (s : Bool) : wr.cell? ⟨Fo, off2 s, none⟩ = some (X s) := by
  cases s
  · exact h.box.cell (i := 0) (by decide)
  · exact h.box.cell (i := 1) (by decide)
/-- Rows of two types are two rows. -/
theorem own_types {W : World} {b1 b2 e1 e2 s1 s2 n1 n2 : Nat} {v1 v2 : Value} {c1 c2 : List Value} (h1 : W.ownsRow b1 e1 s1 v1 n1 c1) (h2 : W.ownsRow b2 e2 s2 v2 n2 c2) (he : e1 ≠ e2) : v1.ownBlock = none ∨ v1.ownBlock ≠ v2.ownBlock := by
  rcases h1.2 with ⟨q1, _⟩ | ⟨g1, k1, d1, q1, _, r1, _⟩
  · rw [q1]; exact Or.inl rfl
  · rcases h2.2 with ⟨q2, _⟩ | ⟨g2, k2, d2, q2, _, r2, _⟩
    · rw [q1, q2]; exact Or.inr (fun e => by cases e)
    · rw [q1, q2]
      refine Or.inr (fun e => ?_)
      injection e with e
      have e : g1 = g2 := e
      subst e
      rw [r1] at r2
      injection r2 with r2
      injection r2 with _ r3
      exact he r3
theorem own_below {W W' : World} {b1 e1 s1 n1 : Nat} {v1 : Value} {c1 : List Value} (h : W.ownsRow b1 e1 s1 v1 n1 c1) (k : Below W.heap.size W W') : W'.ownsRow b1 e1 s1 v1 n1 c1 := by
  refine h.kept (row := none) ⟨k.os, k.tape, k.output, k.size, fun q hq _ => k.block q hq⟩ ?_
  cases v1.ownBlock <;> simp
theorem own_fresh {W : World} {b1 e1 s1 n1 z : Nat} {v1 : Value} {c1 : List Value} (h : W.ownsRow b1 e1 s1 v1 n1 c1) (hz : W.heap.size ≤ z) : v1.ownBlock ≠ some z := fun e => by have := (h.lt z e).2; omega
theorem LiG.push (h : LiG w0 wr Fo b U P X) {s : Bool} {u x' : Value} {ob : Obj} (k : Below wr.heap.size wr w5) (hu : w5.ownsRow wr.heap.size 2 1 u (P s (b s)).length ((P s (b s)).map (Value.int .i64))) (hg : (w5.alloc ob).grownBy w8 (X s).ownBlock) (ho : w8.ownsRow w0.heap.size 56 1 x' (b s + 1) ((List.range (b s)).map (U s) ++ [u])) (hat : x'.ownBlock = (X s).ownBlock ∨ x'.ownBlock = some (w5.heap.size + 1)) :
    LiG w0 (w8.setCell ⟨Fo, off2 s, none⟩ x') Fo (fun s' => if s' = s then b s + 1 else b s') (fun s' i => if (s', i) = (s, b s) then u else U s' i) P (fun s' => if s' = s then x' else X s') ∧ w8.cell? ⟨Fo, off2 s, none⟩ = some (X s) ∧ w8.frozen? ⟨Fo, off2 s, none⟩ = false ∧ (∀ q, q < w0.heap.size → q ≠ Fo → w8.heap[q]? = wr.heap[q]? ∧ (w8.setCell ⟨Fo, off2 s, none⟩ x').heap[q]? = wr.heap[q]?) := by
  have hsz := h.size
  have hk := k.size
  have hgs := hg.size
  have has : (w5.alloc ob).heap.size = w5.heap.size + 1 := World.size_alloc _ _
  have hF := h.hF
  have hal : ∀ q, q < w5.heap.size → (w5.alloc ob).heap[q]? = w5.heap[q]? := fun q hq => Below.heap_alloc w5 _ _ hq
  have kA : Below wr.heap.size wr (w5.alloc ob) := ⟨k.os, k.tape, k.output, by omega, fun q hq => (hal q (by omega)).trans (k.block q hq)⟩
  have hnX : ∀ s' q, q < w0.heap.size → (X s').ownBlock ≠ some q := fun s' q hq e => by have := ((h.oo s').lt q e).1; omega
  have hbl : ∀ q, q < w0.heap.size → w8.heap[q]? = wr.heap[q]? := fun q hq => (hg.block q (by omega) (fun e => hnX s q hq e.symm)).trans (kA.block q (by omega))
  have hset : ∀ q, q ≠ Fo → (w8.setCell ⟨Fo, off2 s, none⟩ x').heap[q]? = w8.heap[q]? := fun q hq => Below.heap_setCell _ _ _ _ hq
  have hU : ∀ s' i, i < b s' → (w8.setCell ⟨Fo, off2 s, none⟩ x').ownsRow w0.heap.size 2 1 (U s' i) (P s' i).length ((P s' i).map (Value.int .i64)) := fun s' i hi =>
    ownsRow_setCell_below ((own_below (h.own s' i hi) kA).kept hg (own_types (h.own s' i hi) (h.oo s) (by decide))) hF _
  have huA : (w5.alloc ob).ownsRow wr.heap.size 2 1 u (P s (b s)).length ((P s (b s)).map (Value.int .i64)) := hu.alloc ob
  have hXA := own_below (h.oo s) kA
  have hu8 : (w8.setCell ⟨Fo, off2 s, none⟩ x').ownsRow w0.heap.size 2 1 u (P s (b s)).length ((P s (b s)).map (Value.int .i64)) :=
    ownsRow_setCell_below (own_base (huA.kept hg (own_types huA hXA (by decide))) (by omega)) hF _
  have huU : ∀ s' i, i < b s' → u.ownBlock = none ∨ u.ownBlock ≠ (U s' i).ownBlock := fun s' i hi => by
    cases e : u.ownBlock with
    | none => exact Or.inl rfl
    | some g =>
      refine Or.inr (fun e2 => ?_)
      have h1 := (hu.lt g e).1
      have h2 := ((h.own s' i hi).lt g e2.symm).2
      omega
  have hX' : ∀ s', s' ≠ s → (X s').ownBlock = none ∨ (X s').ownBlock ≠ (X s).ownBlock := fun s' hs' => by
    cases e : (X s').ownBlock with
    | none => exact Or.inl rfl
    | some g =>
      refine Or.inr (fun e2 => ?_)
      cases s' <;> cases s <;> first | exact hs' rfl | exact h.ne g e e2.symm | exact h.ne g e2.symm e
  refine ⟨⟨hg.os.trans (k.os.trans h.os), hg.tape.trans (k.tape.trans h.tape), hg.output.trans (k.output.trans h.output), by rw [size_setCell]; omega, hF, fun q h1 h2 => (hset q h2).trans ((hbl q h1).trans (h.fr q h1 h2)), ?_, fun s' => ?_, fun g e => ?_, fun s' i hi => ?_, fun s1 i s2 j hi hj hij => ?_⟩, (cell_of (hbl Fo hF)).trans (h.xcell s), (World.frozen?_of_block (hbl Fo hF)).trans (h.box.frozen _), fun q h1 h2 => ⟨hbl q h1, (hset q h2).trans (hbl q h1)⟩⟩
  · refine ((h.box.of_block (hbl Fo hF)).set (off2 s) x').congr (fun i hi => ?_)
    have h2 : i = 0 ∨ i = 1 := by omega
    rcases h2 with rfl | rfl <;> cases s <;> simp [off2]
  · by_cases e : s' = s
    · subst e
      simp only [if_true]
      refine ownsRow_setCell_below ?_ hF _
      rw [List.range_succ, List.map_append]
      have e1 : (List.range (b s')).map (fun i => if (s', i) = (s', b s') then u else U s' i) = (List.range (b s')).map (U s') := List.map_congr_left (fun i hi => by
        have := List.mem_range.1 hi
        rw [if_neg (by simp; omega)])
      rw [e1]
      simpa using ho
    · simp only [e, if_false]
      have e1 : (List.range (b s')).map (fun i => if (s', i) = (s, b s) then u else U s' i) = (List.range (b s')).map (U s') := List.map_congr_left (fun i _ => by rw [if_neg (by simp [e])])
      rw [e1]
      exact ownsRow_setCell_below ((own_below (h.oo s') kA).kept hg (hX' s' e)) hF _
  · have hfr : ∀ s', (X s').ownBlock ≠ some (w5.heap.size + 1) := fun s' => own_fresh (h.oo s') (by omega)
    cases s with
    | false =>
      simp only [if_true, Bool.true_eq_false, if_false] at e ⊢
      rcases hat with q | q
      · exact h.ne g (q ▸ e)
      · rw [q] at e
        injection e with e
        rw [← e]
        exact hfr true
    | true =>
      simp only [if_true, Bool.false_eq_true, if_false] at e ⊢
      rcases hat with q | q
      · rw [q]; exact h.ne g e
      · rw [q]
        intro e2
        injection e2 with e2
        rw [← e2] at e
        exact hfr false e
  · by_cases e : (s', i) = (s, b s)
    · have e1 : s' = s := congrArg Prod.fst e
      have e2 : i = b s := congrArg Prod.snd e
      subst e1 e2
      simp only [if_true]
      exact hu8
    · simp only [e, if_false]
      refine hU s' i ?_
      by_cases e1 : s' = s
      · subst e1
        simp only [if_true] at hi
        have : i ≠ b s' := fun e3 => e (by rw [e3])
        omega
      · simpa [e1] using hi
  · have low : ∀ s' i, i < (if s' = s then b s + 1 else b s') → (s', i) ≠ (s, b s) → i < b s' := fun s' i hi e => by
      by_cases e1 : s' = s
      · subst e1
        simp only [if_true] at hi
        have : i ≠ b s' := fun e3 => e (by rw [e3])
        omega
      · simpa [e1] using hi
    by_cases e1 : (s1, i) = (s, b s)
    · have e2 : (s2, j) ≠ (s, b s) := fun e => hij (e1.trans e.symm)
      simp only [e1, if_true, e2, if_false]
      exact huU s2 j (low s2 j hj e2)
    · simp only [e1, if_false]
      by_cases e2 : (s2, j) = (s, b s)
      · simp only [e2, if_true]
        rcases huU s1 i (low s1 i hi e1) with q | q
        · rw [q]
          cases (U s1 i).ownBlock <;> simp
        · exact Or.inr (fun e => q e.symm)
      · simp only [e2, if_false]
        exact h.dj s1 i s2 j (low s1 i hi e1) (low s2 j hj e2) hij
end
end Go.Proofs.YtjfcbjomfbfoiaaGreatDoor

namespace Go.Proofs.YtjfcbjomfbfoiaaGreatDoor
open Go.RowKit
/-- Values that are slices over lists of numbers, all of them old. -/
structure VlsAt (w : World) (L : Nat) (vals : List Value) (fl : List (List Int)) : Prop where
  len : vals.length = fl.length
  at_ : ∀ (j : Nat) (h : j < fl.length), ∃ a c, vals[j]? = some (.slice a fl[j].length c) ∧ IntsAt w L w.heap.size a fl[j]
theorem VlsAt.nil (w : World) (L : Nat) : VlsAt w L [] [] := ⟨rfl, fun j h => absurd h (by simp)⟩
theorem VlsAt.app {w : World} {L : Nat} {v1 v2 : List Value} {f1 f2 : List (List Int)} (h1 : VlsAt w L v1 f1) (h2 : VlsAt w L v2 f2) : VlsAt w L (v1 ++ v2) (f1 ++ f2) := by
  refine ⟨by rw [List.length_append, List.length_append, h1.len, h2.len], fun j hj => ?_⟩
  rw [List.length_append] at hj
  by_cases e : j < f1.length
  · obtain ⟨a, c, e1, e2⟩ := h1.at_ j e
    refine ⟨a, c, ?_, ?_⟩
    · rw [List.getElem?_append_left (by rw [h1.len]; exact e), List.getElem_append_left e]
      exact e1
    · rw [List.getElem_append_left e]; exact e2
  · obtain ⟨a, c, e1, e2⟩ := h2.at_ (j - f1.length) (by omega)
    refine ⟨a, c, ?_, ?_⟩
    · rw [List.getElem?_append_right (by rw [h1.len]; omega), h1.len, List.getElem_append_right (by omega)]
      exact e1
    · rw [List.getElem_append_right (by omega)]; exact e2
/-- The cells of a row of sets. -/
theorem ints_vals {w : World} {L B g m : Nat} {f : Nat → List Int} (h : IntssAt w L B (some ⟨g, 0, none⟩) ((List.range m).map f)) (hB : B ≤ w.heap.size) : ∃ vals : List Value, VlsAt w L vals ((List.range m).map f) ∧ (∀ j u, vals[j]? = some u → w.cell? ⟨g, j, none⟩ = some u) ∧ ∀ u ∈ vals, ∃ a n c, u = .slice a n c := by
  have h1 : ∀ j, j < m → ∃ v : Value, w.cell? ⟨g, j, none⟩ = some v ∧ ∃ a c, v = .slice a (f j).length c ∧ IntsAt w L w.heap.size a (f j) := fun j hj => by
    obtain ⟨b, o, e, hb, a, c, hc, hi⟩ := h j (by simpa using hj)
    simp only [List.getElem_map, List.getElem_range] at hc hi
    injection e with e
    injection e with e1 e2
    subst e1 e2
    rw [Nat.zero_add] at hc
    exact ⟨_, hc, a, c, rfl, hi.mono (Nat.le_refl _) hB⟩
  refine ⟨(List.range m).map fun j => if hj : j < m then (h1 j hj).choose else .slice none 0 0, ⟨by simp, fun j hj => ?_⟩, fun j u hu => ?_, fun u hu => ?_⟩
  · have hj' : j < m := by simpa using hj
    obtain ⟨h2, a, c, h3, h4⟩ := (h1 j hj').choose_spec
    refine ⟨a, c, ?_, ?_⟩
    · rw [List.getElem?_map, List.getElem?_range hj']
      simp only [Option.map_some, hj', dif_pos, List.getElem_map, List.getElem_range]
      rw [h3]
    · simp only [List.getElem_map, List.getElem_range]; exact h4
  · by_cases hj : j < m
    · rw [List.getElem?_map, List.getElem?_range hj] at hu
      simp only [Option.map_some, hj, dif_pos] at hu
      injection hu with hu
      rw [← hu]
      exact (h1 j hj).choose_spec.1
    · rw [List.getElem?_eq_none (by simp; omega)] at hu
      cases hu
  · obtain ⟨j, hj, rfl⟩ := List.mem_map.1 hu
    have hj := List.mem_range.1 hj
    simp only [hj, dif_pos]
    obtain ⟨_, a, c, h3, _⟩ := (h1 j hj).choose_spec
    exact ⟨a, _, c, h3⟩
/-- While the sets are listed. -/
structure AsE (w2 wr : World) (b0 L : Nat) (u : Value) (fl : List (List Int)) : Prop where
  os : wr.os = w2.os
  tape : wr.tape = w2.tape
  output : wr.output = w2.output
  size : w2.heap.size ≤ wr.heap.size
  fr : ∀ q, q < w2.heap.size → q ≠ b0 → wr.heap[q]? = w2.heap[q]?
  ob : ∀ q, u.ownBlock = some q → q = b0 ∨ w2.heap.size ≤ q
  own : ∃ vals : List Value, VlsAt w2 L vals fl ∧ wr.ownsRow b0 56 1 u fl.length vals
theorem AsE.push {w2 wr w8 : World} {b0 L : Nat} {u u' : Value} {fl f2 : List (List Int)} {vals v2 : List Value} (h : AsE w2 wr b0 L u fl) (hv : VlsAt w2 L vals fl) (h2 : VlsAt w2 L v2 f2) (hg : wr.grownBy w8 u.ownBlock) (ho : w8.ownsRow b0 56 1 u' (fl.length + f2.length) (vals ++ v2)) (hat : u'.ownBlock = u.ownBlock ∨ u'.ownBlock = some wr.heap.size) : AsE w2 w8 b0 L u' (fl ++ f2) := by
  have hs := h.size
  refine ⟨hg.os.trans h.os, hg.tape.trans h.tape, hg.output.trans h.output, Nat.le_trans h.size hg.size, fun q h1 h3 => (hg.block q (by omega) (fun e => by rcases h.ob q e.symm with e | e <;> omega)).trans (h.fr q h1 h3), fun q e => ?_, _, hv.app h2, by rw [List.length_append]; exact ho⟩
  rcases hat with e1 | e1
  · exact h.ob q (e1.symm.trans e)
  · rw [e1] at e
    injection e with e
    exact Or.inr (by omega)
theorem flQ_len {V : Nat} {xs : List Blk} (ho : OkL V xs) (b : Nat) : (flQ xs V b).length ≤ b * 4001 := by
  induction b with
  | zero => simp [flQ]
  | succ b ih =>
    rw [flQ_succ, List.length_append]
    have := df_len ho b
    simp
    omega
set_option maxHeartbeats 4000000 in
set_option maxRecDepth 100000 in
theorem allSets_any (V : Nat) (a : Option Addr) (n c : Nat) (xs : List Blk) (L B : Nat) (w : World) (ha : Hid (BlksAt w L B a xs)) (hx : Hid (n = xs.length)) (hB : B ≤ w.heap.size) (ho : Hid (OkL V xs)) :
    Calls Tryz.prog 44 #[.agg #[.int .i64 (V : Int), .slice a n c]] w fun e w' => ∃ g cc, e = .returned (.slice (some ⟨g, 0, none⟩) (flQ xs V n).length cc) ∧ Below w.heap.size w w' ∧ IntssAt w' w.heap.size w'.heap.size (some ⟨g, 0, none⟩) (flQ xs V n) := by
  have hn : n ≤ 1000 := by have := hx.out; have := ho.out.okf.n2; omega
  have hn0 : 0 < n := by have := hx.out; have := ho.out.okf.n1; omega
  obtain ⟨i0, hi0, hz0, hz1, hz2⟩ := info_three Tryz.infoSetI'
  have hW0 : Below w.heap.size w ((w.alloc (.cells #[.int .i64 (V : Int), .slice a n c] 32)).alloc (.cells #[] 56)) := balloc (balloc (Below.refl _ _) _) _
  have hf0 : ((w.alloc (.cells #[.int .i64 (V : Int), .slice a n c] 32)).alloc (.cells #[] 56)).cell? ⟨w.heap.size, 0, none⟩ = some (.int .i64 (V : Int)) := by simp [go_sem]
  have hf1 : ((w.alloc (.cells #[.int .i64 (V : Int), .slice a n c] 32)).alloc (.cells #[] 56)).cell? ⟨w.heap.size, 1, none⟩ = some (.slice a n c) := by simp [go_sem]
  have hl0 : ((w.alloc (.cells #[.int .i64 (V : Int), .slice a n c] 32)).alloc (.cells #[] 56)).ownsRow (w.heap.size + 1) 56 1 (.slice (some ⟨w.heap.size + 1, 0, none⟩) 0 0) 0 [] := by
    have h := World.ownsRow_lit (base := w.heap.size + 1) (e := 56) (size := 1) (w.alloc (.cells #[.int .i64 (V : Int), .slice a n c] 32)) #[] 0 (by simp) (by simp) rfl
    rw [World.size_alloc] at h
    exact h
  go_enter Tryz.func44, Tryz.ntmps44
  go_wp2_with fail
  generalize (w.alloc (.cells #[.int .i64 (V : Int), .slice a n c] 32)).alloc (.cells #[] 56) = w1 at *
  have hz1w : w.heap.size + 1 < w1.heap.size := (hl0.lt _ rfl).2
  have HPT := hide (points_any V a n c xs L B w1 (hide (ha.out.keep (hW0.mono hB))) hx (by have := hW0.size; omega) ho)
  refine HPT.out.mono ?_
  rintro e w2 ⟨gO, cO, G, rfl, hb2, hgO, hG⟩
  have HG := hide hG
  have hz2' := hb2.size
  have HB2 := hide (bnext hW0 hb2)
  have HAE : Hid (AsE w2 w2 (w.heap.size + 1) w1.heap.size (.slice (some ⟨w.heap.size + 1, 0, none⟩) 0 0) (flQ xs V 0)) := hide ⟨rfl, rfl, rfl, Nat.le_refl _, fun _ _ _ => rfl, fun q e => Or.inl (by injection e with e; exact e.symm), [], by
    have h := VlsAt.nil w2 w1.heap.size
    exact h, by
    have h := own_below hl0 hb2
    exact h⟩
  have HFL : Hid (∀ b, b ≤ n → (flQ xs V b).length ≤ 4001000) := hide (fun b hb => by have := flQ_len ho.out b; have : b * 4001 ≤ 1000 * 4001 := Nat.mul_le_mul_right _ (by omega); omega)
  clear hb2 hG HPT hl0 hW0 hf0 hf1
  go_wp2_with fail
  go_loopw [3, 5] (fun u i wr => ∃ b : Nat, b ≤ n ∧ i = .int .i64 b ∧ Hid (AsE w2 wr (w.heap.size + 1) w1.heap.size u (flQ xs V b))) (fun _ i _ => n - (intOf i).toNat)
  case atStart => exact ⟨0, Nat.zero_le _, rfl, HAE⟩
  case round =>
    clear HAE
    obtain ⟨b, hb, rfl, HE⟩ := hrel
    by_cases hlt : b < n
    · obtain ⟨h1, h2, h3⟩ := HG.out b hlt
      obtain ⟨vals2, v1, v2, v3⟩ := ints_vals h3 (Nat.le_refl _)
      have HV2 := hide v1
      obtain ⟨vals, hv, hw⟩ := HE.out.own
      have HV := hide hv
      have HOW := hide hw
      have HSU := hide (flQ_succ xs V b)
      have hF1 := HFL.out b hb
      have hdl := df_len ho.out b
      have hl2 : vals2.length = (dfL xs b).length + 1 := by rw [v1.len]; simp
      have eO := (cell_of (HE.out.fr gO (World.block_lt_of_cell? w2 _ h1) (by omega))).trans h1
      have HC : Hid (∀ j u, vals2[j]? = some u → wr.cell? ⟨G b, j, none⟩ = some u) := hide (fun j u hj => (cell_of (HE.out.fr (G b) (World.block_lt_of_cell? w2 _ (v2 j u hj)) (by omega))).trans (v2 j u hj))
      have HVF := hide v3
      have hsr := HE.out.size
      obtain ⟨m, hm⟩ : ∃ m, m = (dfL xs b).length + 1 := ⟨_, rfl⟩
      rw [← hm] at eO hl2 HSU
      have hm0 : m ≤ 4001 := by omega
      have HL2 : Hid (((List.range m).map (ptQ xs V b)).length = m) := hide (by simp)
      rw [← hm] at HV2
      clear hv hw v1 v2 v3 h1 h2 h3 hm
      go_wp2_with (at_builtin; refine wpList_append_own_at _ rfl _ _ 26 rfl (w.heap.size + 1) 56 i0 (.agg #[.slice none 0 0]) 1 24 Tryz.underlying26 hi0 hz0 hz1 hz2 rfl (by decide) _ _ _ rfl HOW.out ⟨G b, 0, none⟩ m m vals2 rfl (by rw [hl2, Nat.mul_one]) ?c1 ?c2 ?c3 ?c4 ?c5 ?_)
      case c1 =>
        intro j u hj
        have e2 : (⟨G b, 0, none⟩ : Addr).add j = ⟨G b, j, none⟩ := by rw [Addr.add_lit]; simp
        rw [e2]
        exact HC.out j u hj
      case c2 =>
        intro u hu
        obtain ⟨_, _, _, rfl⟩ := HVF.out u hu
        rfl
      case c3 => unfold maxLen; omega
      case c4 => omega
      case c5 => omega
      intro v8 w8 hown8 hg8 _ hat8
      have HE8 := hide (HE.out.push HV.out HV2.out hg8 (by rw [HL2.out]; exact hown8) hat8)
      rw [← HSU.out] at HE8
      clear hown8 hg8 hat8
      go_wp2_with fail
      exact ⟨⟨b + 1, by omega, by go_num, HE8⟩, by simp [intOf]; omega⟩
    · have hbn : n = b := by omega
      subst hbn
      obtain ⟨vals, hv, hw⟩ := HE.out.own
      have hpos : 0 < (flQ xs V n).length := by
        obtain ⟨q, rfl⟩ : ∃ q, n = q + 1 := ⟨n - 1, by omega⟩
        rw [flQ_succ]
        simp
        omega
      obtain ⟨g8, c8, rfl, _, _⟩ := own_some' hw hpos
      have HH : Hid (IntssAt wr w.heap.size wr.heap.size (some ⟨g8, 0, none⟩) (flQ xs V n)) := hide (fun j hj => by
        obtain ⟨aj, cj, e1, e2⟩ := hv.at_ j hj
        refine ⟨g8, 0, rfl, ⟨by have := (hw.lt _ rfl).1; omega, (hw.lt _ rfl).2⟩, aj, cj, by rw [Nat.zero_add]; exact own_cell hw e1, fun i hi => ?_⟩
        obtain ⟨b', o', e3, hb', hc'⟩ := e2 i hi
        exact ⟨b', o', e3, ⟨by omega, by have := HE.out.size; omega⟩, (cell_of (HE.out.fr b' hb'.2 (by omega))).trans hc'⟩)
      have HLW := hide (show Below w.heap.size w wr from ⟨HE.out.os.trans HB2.out.os, HE.out.tape.trans HB2.out.tape, HE.out.output.trans HB2.out.output, by have := HB2.out.size; have := HE.out.size; omega, fun q hq => (HE.out.fr q (by omega) (by omega)).trans (HB2.out.block q hq)⟩)
      clear hv hw
      go_wp2_with fail
      go_ret
      exact ⟨g8, c8, rfl, HLW.out, HH.out⟩
end Go.Proofs.YtjfcbjomfbfoiaaGreatDoor
