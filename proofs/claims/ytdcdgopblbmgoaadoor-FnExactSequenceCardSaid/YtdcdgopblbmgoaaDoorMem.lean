import Derived.WalkKit
/-
  How a function lies in memory: pure data and the cells that hold it. Imports nothing of the program.
-/
namespace Go.Proofs.YtdcdgopblbmgoaaDoor
open Go.RowKit

structure Ins where
  op : Int
  dst : Int
  a : Int
  b : Int
  imm : Int
structure Ter where
  kind : Int
  a : Int
  to : Int
  els : Int
structure Ph where
  dst : Int
  args : List Int
structure Blk where
  phis : List Ph
  instrs : List Ins
  term : Ter
structure Fn where
  values : Int
  blocks : List Blk

/-- The values that the cells of an instruction hold. -/
def Ins.cells (x : Ins) : List Value := [.int .i64 x.op, .int .i64 x.dst, .int .i64 x.a, .int .i64 x.b, .int .i64 x.imm]
def Ter.cells (x : Ter) : List Value := [.int .i64 x.kind, .int .i64 x.a, .int .i64 x.to, .int .i64 x.els]

/-- A slice of numbers: where it has an element it has a block, below B, and the cells hold the numbers. -/
def IntsAt (w : World) (L B : Nat) (a : Option Addr) (xs : List Int) : Prop :=
  ∀ i (h : i < xs.length), ∃ b o, a = some ⟨b, o, none⟩ ∧ (L ≤ b ∧ b < B) ∧ w.cell? ⟨b, o + i, none⟩ = some (.int .i64 xs[i])

def InsAt (w : World) (b o : Nat) (x : Ins) : Prop :=
  w.cell? ⟨b, o, none⟩ = some (.int .i64 x.op) ∧ w.cell? ⟨b, o + 1, none⟩ = some (.int .i64 x.dst) ∧ w.cell? ⟨b, o + 2, none⟩ = some (.int .i64 x.a) ∧
  w.cell? ⟨b, o + 3, none⟩ = some (.int .i64 x.b) ∧ w.cell? ⟨b, o + 4, none⟩ = some (.int .i64 x.imm)

def InssAt (w : World) (L B : Nat) (a : Option Addr) (xs : List Ins) : Prop :=
  ∀ i (h : i < xs.length), ∃ b o, a = some ⟨b, o, none⟩ ∧ (L ≤ b ∧ b < B) ∧ InsAt w b (o + i * 5) xs[i]

def TerAt (w : World) (b o : Nat) (x : Ter) : Prop :=
  w.cell? ⟨b, o, none⟩ = some (.int .i64 x.kind) ∧ w.cell? ⟨b, o + 1, none⟩ = some (.int .i64 x.a) ∧ w.cell? ⟨b, o + 2, none⟩ = some (.int .i64 x.to) ∧
  w.cell? ⟨b, o + 3, none⟩ = some (.int .i64 x.els)

def PhAt (w : World) (L B b o : Nat) (x : Ph) : Prop :=
  ∃ a c, w.cell? ⟨b, o, none⟩ = some (.int .i64 x.dst) ∧ w.cell? ⟨b, o + 1, none⟩ = some (.slice a x.args.length c) ∧ IntsAt w L B a x.args

def PhsAt (w : World) (L B : Nat) (a : Option Addr) (xs : List Ph) : Prop :=
  ∀ i (h : i < xs.length), ∃ b o, a = some ⟨b, o, none⟩ ∧ (L ≤ b ∧ b < B) ∧ PhAt w L B b (o + i * 2) xs[i]

def BlkAt (w : World) (L B b o : Nat) (x : Blk) : Prop :=
  ∃ pa pc ia ic, w.cell? ⟨b, o, none⟩ = some (.slice pa x.phis.length pc) ∧ w.cell? ⟨b, o + 1, none⟩ = some (.slice ia x.instrs.length ic) ∧
    TerAt w b (o + 2) x.term ∧ PhsAt w L B pa x.phis ∧ InssAt w L B ia x.instrs

def BlksAt (w : World) (L B : Nat) (a : Option Addr) (xs : List Blk) : Prop :=
  ∀ i (h : i < xs.length), ∃ b o, a = some ⟨b, o, none⟩ ∧ (L ≤ b ∧ b < B) ∧ BlkAt w L B b (o + i * 6) xs[i]

theorem hide {p : Prop} (h : p) : Hid p := h
theorem unhide {p : Prop} (h : Hid p) : p := h
theorem bnext {w w1 w2 : World} (h : Below w.heap.size w w1) (k : Below w1.heap.size w1 w2) : Below w.heap.size w w2 := h.trans (k.mono h.size)
theorem bcell {W w1 : World} (hb : Below W.heap.size W w1) : (∀ b o, b < W.heap.size → w1.cell? ⟨b, o, none⟩ = W.cell? ⟨b, o, none⟩) ∧ (∀ b o, b < W.heap.size → w1.frozen? ⟨b, o, none⟩ = W.frozen? ⟨b, o, none⟩) :=
  ⟨fun b o h => hb.cell (p := ⟨b, o, none⟩) h, fun b o h => hb.frozen (p := ⟨b, o, none⟩) h⟩
theorem balloc {w w1 : World} (h : Below w.heap.size w w1) (o : Obj) : Below w.heap.size w (w1.alloc o) := h.alloc h.size o

/-- From block L on nothing is frozen. -/
def Thaw (L : Nat) (w : World) : Prop := ∀ b o, L ≤ b → w.frozen? ⟨b, o, none⟩ = false
theorem Thaw.start (w : World) : Thaw w.heap.size w := fun b o h => by
  unfold World.frozen?
  rw [Array.getElem?_eq_none (by exact h)]
theorem Thaw.alloc {L : Nat} {w : World} (h : Thaw L w) (c : Array Value) (t : TypeId) : Thaw L (w.alloc (.cells c t)) := fun b o hb => by
  by_cases e : b < w.heap.size
  · rw [World.frozen?_of_block (w := w) (a := ⟨b, o, none⟩) (Below.heap_alloc _ _ _ e)]; exact h b o hb
  · unfold World.frozen?
    show (match (w.heap.push (.cells c t))[b]? with | some (.cells _ _ (lo, hi)) => decide (lo ≤ o) && decide (o < hi) | _ => false) = false
    rw [Array.getElem?_push]
    split
    · rename_i _ _ _ hh
      split at hh
      · cases hh; simp
      · rw [Array.getElem?_eq_none (by omega)] at hh; cases hh
    · rfl
theorem Thaw.setCell {L : Nat} {w : World} (h : Thaw L w) (p : Addr) (v : Value) : Thaw L (w.setCell p v) := fun b o hb => by rw [World.frozen?_setCell]; exact h b o hb
theorem Thaw.drew {L : Nat} {w : World} (h : Thaw L w) : Thaw L w.drew := h
theorem Thaw.trans {L : Nat} {w w1 : World} (h : Thaw L w) (k : Below w.heap.size w w1) (t : Thaw w.heap.size w1) : Thaw L w1 := fun b o hb => by
  by_cases e : b < w.heap.size
  · rw [k.frozen (p := ⟨b, o, none⟩) e]; exact h b o hb
  · exact t b o (by omega)
theorem Thaw.mono {L L' : Nat} {w : World} (h : Thaw L w) (l : L ≤ L') : Thaw L' w := fun b o hb => h b o (by omega)

variable {w w' : World} {L B : Nat}

/-- The blocks from L to below B are as they were. -/
def Same (L B : Nat) (w w' : World) : Prop := ∀ k, L ≤ k → k < B → w'.heap[k]? = w.heap[k]?
theorem Same.of_below (k : Below B w w') : Same L B w w' := fun i _ h => k.block i h
theorem Same.mono {L' B' : Nat} (h : Same L B w w') (l : L ≤ L') (k : B' ≤ B) : Same L' B' w w' := fun i hi hj => h i (by omega) (by omega)
theorem Same.trans {w2 : World} (h : Same L B w w') (k : Same L B w' w2) : Same L B w w2 := fun i hi hj => (k i hi hj).trans (h i hi hj)
theorem cell_of {b o : Nat} (h : w'.heap[b]? = w.heap[b]?) : w'.cell? ⟨b, o, none⟩ = w.cell? ⟨b, o, none⟩ := World.cell?_of_block (w := w) h

theorem IntsAt.keepS {a : Option Addr} {xs : List Int} (h : IntsAt w L B a xs) (k : Same L B w w') : IntsAt w' L B a xs := fun i hi => by
  obtain ⟨b, o, e, hb, hc⟩ := h i hi
  exact ⟨b, o, e, hb, by rw [cell_of (k b hb.1 hb.2)]; exact hc⟩
theorem InsAt.keepS {b o : Nat} {x : Ins} (h : InsAt w b o x) (k : w'.heap[b]? = w.heap[b]?) : InsAt w' b o x := by
  obtain ⟨h0, h1, h2, h3, h4⟩ := h
  exact ⟨(cell_of k).trans h0, (cell_of k).trans h1, (cell_of k).trans h2, (cell_of k).trans h3, (cell_of k).trans h4⟩
theorem TerAt.keepS {b o : Nat} {x : Ter} (h : TerAt w b o x) (k : w'.heap[b]? = w.heap[b]?) : TerAt w' b o x := by
  obtain ⟨h0, h1, h2, h3⟩ := h
  exact ⟨(cell_of k).trans h0, (cell_of k).trans h1, (cell_of k).trans h2, (cell_of k).trans h3⟩
theorem InssAt.keepS {a : Option Addr} {xs : List Ins} (h : InssAt w L B a xs) (k : Same L B w w') : InssAt w' L B a xs := fun i hi => by
  obtain ⟨b, o, e, hb, hc⟩ := h i hi
  exact ⟨b, o, e, hb, hc.keepS (k b hb.1 hb.2)⟩
theorem PhAt.keepS {b o : Nat} {x : Ph} (h : PhAt w L B b o x) (k : Same L B w w') (e : w'.heap[b]? = w.heap[b]?) : PhAt w' L B b o x := by
  obtain ⟨a, c, h0, h1, h2⟩ := h
  exact ⟨a, c, (cell_of e).trans h0, (cell_of e).trans h1, h2.keepS k⟩
theorem PhsAt.keepS {a : Option Addr} {xs : List Ph} (h : PhsAt w L B a xs) (k : Same L B w w') : PhsAt w' L B a xs := fun i hi => by
  obtain ⟨b, o, e, hb, hc⟩ := h i hi
  exact ⟨b, o, e, hb, hc.keepS k (k b hb.1 hb.2)⟩
theorem BlkAt.keepS {b o : Nat} {x : Blk} (h : BlkAt w L B b o x) (k : Same L B w w') (e : w'.heap[b]? = w.heap[b]?) : BlkAt w' L B b o x := by
  obtain ⟨pa, pc, ia, ic, h0, h1, h2, h3, h4⟩ := h
  exact ⟨pa, pc, ia, ic, (cell_of e).trans h0, (cell_of e).trans h1, h2.keepS e, h3.keepS k, h4.keepS k⟩
theorem BlksAt.keepS {a : Option Addr} {xs : List Blk} (h : BlksAt w L B a xs) (k : Same L B w w') : BlksAt w' L B a xs := fun i hi => by
  obtain ⟨b, o, e, hb, hc⟩ := h i hi
  exact ⟨b, o, e, hb, hc.keepS k (k b hb.1 hb.2)⟩

theorem IntsAt.keep {a : Option Addr} {xs : List Int} (h : IntsAt w L B a xs) (k : Below B w w') : IntsAt w' L B a xs := h.keepS (Same.of_below k)
theorem InsAt.keep {b o : Nat} {x : Ins} (h : InsAt w b o x) (k : Below B w w') (hb : b < B) : InsAt w' b o x := h.keepS (k.block b hb)
theorem TerAt.keep {b o : Nat} {x : Ter} (h : TerAt w b o x) (k : Below B w w') (hb : b < B) : TerAt w' b o x := h.keepS (k.block b hb)
theorem InssAt.keep {a : Option Addr} {xs : List Ins} (h : InssAt w L B a xs) (k : Below B w w') : InssAt w' L B a xs := h.keepS (Same.of_below k)
theorem PhAt.keep {b o : Nat} {x : Ph} (h : PhAt w L B b o x) (k : Below B w w') (hb : b < B) : PhAt w' L B b o x := h.keepS (Same.of_below k) (k.block b hb)
theorem PhsAt.keep {a : Option Addr} {xs : List Ph} (h : PhsAt w L B a xs) (k : Below B w w') : PhsAt w' L B a xs := h.keepS (Same.of_below k)
theorem BlkAt.keep {b o : Nat} {x : Blk} (h : BlkAt w L B b o x) (k : Below B w w') (hb : b < B) : BlkAt w' L B b o x := h.keepS (Same.of_below k) (k.block b hb)
theorem BlksAt.keep {a : Option Addr} {xs : List Blk} (h : BlksAt w L B a xs) (k : Below B w w') : BlksAt w' L B a xs := h.keepS (Same.of_below k)

/-- A greater bound. -/
theorem IntsAt.mono {L' B' : Nat} {a : Option Addr} {xs : List Int} (h : IntsAt w L B a xs) (l : L' ≤ L) (k : B ≤ B') : IntsAt w L' B' a xs := fun i hi => by
  obtain ⟨b, o, e, hb, hc⟩ := h i hi
  exact ⟨b, o, e, by omega, hc⟩
theorem InssAt.mono {L' B' : Nat} {a : Option Addr} {xs : List Ins} (h : InssAt w L B a xs) (l : L' ≤ L) (k : B ≤ B') : InssAt w L' B' a xs := fun i hi => by
  obtain ⟨b, o, e, hb, hc⟩ := h i hi
  exact ⟨b, o, e, by omega, hc⟩
theorem PhAt.mono {L' B' : Nat} {b o : Nat} {x : Ph} (h : PhAt w L B b o x) (l : L' ≤ L) (k : B ≤ B') : PhAt w L' B' b o x := by
  obtain ⟨a, c, h0, h1, h2⟩ := h
  exact ⟨a, c, h0, h1, h2.mono l k⟩
theorem PhsAt.mono {L' B' : Nat} {a : Option Addr} {xs : List Ph} (h : PhsAt w L B a xs) (l : L' ≤ L) (k : B ≤ B') : PhsAt w L' B' a xs := fun i hi => by
  obtain ⟨b, o, e, hb, hc⟩ := h i hi
  exact ⟨b, o, e, by omega, hc.mono l k⟩
theorem BlkAt.mono {L' B' : Nat} {b o : Nat} {x : Blk} (h : BlkAt w L B b o x) (l : L' ≤ L) (k : B ≤ B') : BlkAt w L' B' b o x := by
  obtain ⟨pa, pc, ia, ic, h0, h1, h2, h3, h4⟩ := h
  exact ⟨pa, pc, ia, ic, h0, h1, h2, h3.mono l k, h4.mono l k⟩
theorem BlksAt.mono {L' B' : Nat} {a : Option Addr} {xs : List Blk} (h : BlksAt w L B a xs) (l : L' ≤ L) (k : B ≤ B') : BlksAt w L' B' a xs := fun i hi => by
  obtain ⟨b, o, e, hb, hc⟩ := h i hi
  exact ⟨b, o, e, by omega, hc.mono l k⟩

end Go.Proofs.YtdcdgopblbmgoaaDoor
