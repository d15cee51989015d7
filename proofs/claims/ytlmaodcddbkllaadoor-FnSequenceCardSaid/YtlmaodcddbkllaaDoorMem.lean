import Derived.WalkKit
import Derived.Deep.OwnRows
import Derived.Deep.MidRow
/-
  How a function lies in memory: pure data and the cells that hold it. Imports nothing of the program.
-/
namespace Go.Proofs.YtlmaodcddbkllaaDoor
open Go.RowKit

structure Ins where
  op : Int
  dst : Int
  a : Int
  b : Int
  imm : Int
structure Ter where
  kind : Int
  a : Int
  to : Int
  els : Int
structure Ph where
  dst : Int
  args : List Int
structure Blk where
  phis : List Ph
  instrs : List Ins
  term : Ter
structure Fn where
  values : Int
  blocks : List Blk

/-- The values that the cells of an instruction hold. -/
def Ins.cells (x : Ins) : List Value := [.int .i64 x.op, .int .i64 x.dst, .int .i64 x.a, .int .i64 x.b, .int .i64 x.imm]
def Ter.cells (x : Ter) : List Value := [.int .i64 x.kind, .int .i64 x.a, .int .i64 x.to, .int .i64 x.els]

/-- A slice of numbers: where it has an element it has a block, below B, and the cells hold the numbers. -/
def IntsAt (w : World) (L B : Nat) (a : Option Addr) (xs : List Int) : Prop :=
  ∀ i (h : i < xs.length), ∃ b o, a = some ⟨b, o, none⟩ ∧ (L ≤ b ∧ b < B) ∧ w.cell? ⟨b, o + i, none⟩ = some (.int .i64 xs[i])

def InsAt (w : World) (b o : Nat) (x : Ins) : Prop :=
  w.cell? ⟨b, o, none⟩ = some (.int .i64 x.op) ∧ w.cell? ⟨b, o + 1, none⟩ = some (.int .i64 x.dst) ∧ w.cell? ⟨b, o + 2, none⟩ = some (.int .i64 x.a) ∧
  w.cell? ⟨b, o + 3, none⟩ = some (.int .i64 x.b) ∧ w.cell? ⟨b, o + 4, none⟩ = some (.int .i64 x.imm)

def InssAt (w : World) (L B : Nat) (a : Option Addr) (xs : List Ins) : Prop :=
  ∀ i (h : i < xs.length), ∃ b o, a = some ⟨b, o, none⟩ ∧ (L ≤ b ∧ b < B) ∧ InsAt w b (o + i * 5) xs[i]

def TerAt (w : World) (b o : Nat) (x : Ter) : Prop :=
  w.cell? ⟨b, o, none⟩ = some (.int .i64 x.kind) ∧ w.cell? ⟨b, o + 1, none⟩ = some (.int .i64 x.a) ∧ w.cell? ⟨b, o + 2, none⟩ = some (.int .i64 x.to) ∧
  w.cell? ⟨b, o + 3, none⟩ = some (.int .i64 x.els)

def PhAt (w : World) (L B b o : Nat) (x : Ph) : Prop :=
  ∃ a c, w.cell? ⟨b, o, none⟩ = some (.int .i64 x.dst) ∧ w.cell? ⟨b, o + 1, none⟩ = some (.slice a x.args.length c) ∧ IntsAt w L B a x.args

def PhsAt (w : World) (L B : Nat) (a : Option Addr) (xs : List Ph) : Prop :=
  ∀ i (h : i < xs.length), ∃ b o, a = some ⟨b, o, none⟩ ∧ (L ≤ b ∧ b < B) ∧ PhAt w L B b (o + i * 2) xs[i]

def BlkAt (w : World) (L B b o : Nat) (x : Blk) : Prop :=
  ∃ pa pc ia ic, w.cell? ⟨b, o, none⟩ = some (.slice pa x.phis.length pc) ∧ w.cell? ⟨b, o + 1, none⟩ = some (.slice ia x.instrs.length ic) ∧
    TerAt w b (o + 2) x.term ∧ PhsAt w L B pa x.phis ∧ InssAt w L B ia x.instrs

def BlksAt (w : World) (L B : Nat) (a : Option Addr) (xs : List Blk) : Prop :=
  ∀ i (h : i < xs.length), ∃ b o, a = some ⟨b, o, none⟩ ∧ (L ≤ b ∧ b < B) ∧ BlkAt w L B b (o + i * 6) xs[i]

theorem hide {p : Prop} (h : p) : Hid p := h
theorem unhide {p : Prop} (h : Hid p) : p := h
theorem bnext {w w1 w2 : World} (h : Below w.heap.size w w1) (k : Below w1.heap.size w1 w2) : Below w.heap.size w w2 := h.trans (k.mono h.size)
theorem bcell {W w1 : World} (hb : Below W.heap.size W w1) : (∀ b o, b < W.heap.size → w1.cell? ⟨b, o, none⟩ = W.cell? ⟨b, o, none⟩) ∧ (∀ b o, b < W.heap.size → w1.frozen? ⟨b, o, none⟩ = W.frozen? ⟨b, o, none⟩) :=
  ⟨fun b o h => hb.cell (p := ⟨b, o, none⟩) h, fun b o h => hb.frozen (p := ⟨b, o, none⟩) h⟩
theorem balloc {w w1 : World} (h : Below w.heap.size w w1) (o : Obj) : Below w.heap.size w (w1.alloc o) := h.alloc h.size o

/-- From block L on nothing is frozen. -/
def Thaw (L : Nat) (w : World) : Prop := ∀ b o, L ≤ b → w.frozen? ⟨b, o, none⟩ = false
theorem Thaw.start (w : World) : Thaw w.heap.size w := fun b o h => by
  unfold World.frozen?
  rw [Array.getElem?_eq_none (by exact h)]
theorem Thaw.alloc {L : Nat} {w : World} (h : Thaw L w) (c : Array Value) (t : TypeId) : Thaw L (w.alloc (.cells c t)) := fun b o hb => by
  by_cases e : b < w.heap.size
  · rw [World.frozen?_of_block (w := w) (a := ⟨b, o, none⟩) (Below.heap_alloc _ _ _ e)]; exact h b o hb
  · unfold World.frozen?
    show (match (w.heap.push (.cells c t))[b]? with | some (.cells _ _ (lo, hi)) => decide (lo ≤ o) && decide (o < hi) | _ => false) = false
    rw [Array.getElem?_push]
    split
    · rename_i _ _ _ hh
      split at hh
      · cases hh; simp
      · rw [Array.getElem?_eq_none (by omega)] at hh; cases hh
    · rfl
theorem Thaw.setCell {L : Nat} {w : World} (h : Thaw L w) (p : Addr) (v : Value) : Thaw L (w.setCell p v) := fun b o hb => by rw [World.frozen?_setCell]; exact h b o hb
theorem Thaw.drew {L : Nat} {w : World} (h : Thaw L w) : Thaw L w.drew := h
theorem Thaw.trans {L : Nat} {w w1 : World} (h : Thaw L w) (k : Below w.heap.size w w1) (t : Thaw w.heap.size w1) : Thaw L w1 := fun b o hb => by
  by_cases e : b < w.heap.size
  · rw [k.frozen (p := ⟨b, o, none⟩) e]; exact h b o hb
  · exact t b o (by omega)
theorem Thaw.mono {L L' : Nat} {w : World} (h : Thaw L w) (l : L ≤ L') : Thaw L' w := fun b o hb => h b o (by omega)

variable {w w' : World} {L B : Nat}

/-- The blocks from L to below B are as they were. -/
def Same (L B : Nat) (w w' : World) : Prop := ∀ k, L ≤ k → k < B → w'.heap[k]? = w.heap[k]?
theorem Same.of_below (k : Below B w w') : Same L B w w' := fun i _ h => k.block i h
theorem Same.mono {L' B' : Nat} (h : Same L B w w') (l : L ≤ L') (k : B' ≤ B) : Same L' B' w w' := fun i hi hj => h i (by omega) (by omega)
theorem Same.trans {w2 : World} (h : Same L B w w') (k : Same L B w' w2) : Same L B w w2 := fun i hi hj => (k i hi hj).trans (h i hi hj)
theorem cell_of {b o : Nat} (h : w'.heap[b]? = w.heap[b]?) : w'.cell? ⟨b, o, none⟩ = w.cell? ⟨b, o, none⟩ := World.cell?_of_block (w := w) h

theorem IntsAt.keepS {a : Option Addr} {xs : List Int} (h : IntsAt w L B a xs) (k : Same L B w w') : IntsAt w' L B a xs := fun i hi => by
  obtain ⟨b, o, e, hb, hc⟩ := h i hi
  exact ⟨b, o, e, hb, by rw [cell_of (k b hb.1 hb.2)]; exact hc⟩
theorem InsAt.keepS {b o : Nat} {x : Ins} (h : InsAt w b o x) (k : w'.heap[b]? = w.heap[b]?) : InsAt w' b o x := by
  obtain ⟨h0, h1, h2, h3, h4⟩ := h
  exact ⟨(cell_of k).trans h0, (cell_of k).trans h1, (cell_of k).trans h2, (cell_of k).trans h3, (cell_of k).trans h4⟩
theorem TerAt.keepS {b o : Nat} {x : Ter} (h : TerAt w b o x) (k : w'.heap[b]? = w.heap[b]?) : TerAt w' b o x := by
  obtain ⟨h0, h1, h2, h3⟩ := h
  exact ⟨(cell_of k).trans h0, (cell_of k).trans h1, (cell_of k).trans h2, (cell_of k).trans h3⟩
theorem InssAt.keepS {a : Option Addr} {xs : List Ins} (h : InssAt w L B a xs) (k : Same L B w w') : InssAt w' L B a xs := fun i hi => by
  obtain ⟨b, o, e, hb, hc⟩ := h i hi
  exact ⟨b, o, e, hb, hc.keepS (k b hb.1 hb.2)⟩
theorem PhAt.keepS {b o : Nat} {x : Ph} (h : PhAt w L B b o x) (k : Same L B w w') (e : w'.heap[b]? = w.heap[b]?) : PhAt w' L B b o x := by
  obtain ⟨a, c, h0, h1, h2⟩ := h
  exact ⟨a, c, (cell_of e).trans h0, (cell_of e).trans h1, h2.keepS k⟩
theorem PhsAt.keepS {a : Option Addr} {xs : List Ph} (h : PhsAt w L B a xs) (k : Same L B w w') : PhsAt w' L B a xs := fun i hi => by
  obtain ⟨b, o, e, hb, hc⟩ := h i hi
  exact ⟨b, o, e, hb, hc.keepS k (k b hb.1 hb.2)⟩
theorem BlkAt.keepS {b o : Nat} {x : Blk} (h : BlkAt w L B b o x) (k : Same L B w w') (e : w'.heap[b]? = w.heap[b]?) : BlkAt w' L B b o x := by
  obtain ⟨pa, pc, ia, ic, h0, h1, h2, h3, h4⟩ := h
  exact ⟨pa, pc, ia, ic, (cell_of e).trans h0, (cell_of e).trans h1, h2.keepS e, h3.keepS k, h4.keepS k⟩
theorem BlksAt.keepS {a : Option Addr} {xs : List Blk} (h : BlksAt w L B a xs) (k : Same L B w w') : BlksAt w' L B a xs := fun i hi => by
  obtain ⟨b, o, e, hb, hc⟩ := h i hi
  exact ⟨b, o, e, hb, hc.keepS k (k b hb.1 hb.2)⟩

theorem IntsAt.keep {a : Option Addr} {xs : List Int} (h : IntsAt w L B a xs) (k : Below B w w') : IntsAt w' L B a xs := h.keepS (Same.of_below k)
theorem InsAt.keep {b o : Nat} {x : Ins} (h : InsAt w b o x) (k : Below B w w') (hb : b < B) : InsAt w' b o x := h.keepS (k.block b hb)
theorem TerAt.keep {b o : Nat} {x : Ter} (h : TerAt w b o x) (k : Below B w w') (hb : b < B) : TerAt w' b o x := h.keepS (k.block b hb)
theorem InssAt.keep {a : Option Addr} {xs : List Ins} (h : InssAt w L B a xs) (k : Below B w w') : InssAt w' L B a xs := h.keepS (Same.of_below k)
theorem PhAt.keep {b o : Nat} {x : Ph} (h : PhAt w L B b o x) (k : Below B w w') (hb : b < B) : PhAt w' L B b o x := h.keepS (Same.of_below k) (k.block b hb)
theorem PhsAt.keep {a : Option Addr} {xs : List Ph} (h : PhsAt w L B a xs) (k : Below B w w') : PhsAt w' L B a xs := h.keepS (Same.of_below k)
theorem BlkAt.keep {b o : Nat} {x : Blk} (h : BlkAt w L B b o x) (k : Below B w w') (hb : b < B) : BlkAt w' L B b o x := h.keepS (Same.of_below k) (k.block b hb)
theorem BlksAt.keep {a : Option Addr} {xs : List Blk} (h : BlksAt w L B a xs) (k : Below B w w') : BlksAt w' L B a xs := h.keepS (Same.of_below k)

/-- A greater bound. -/
theorem IntsAt.mono {L' B' : Nat} {a : Option Addr} {xs : List Int} (h : IntsAt w L B a xs) (l : L' ≤ L) (k : B ≤ B') : IntsAt w L' B' a xs := fun i hi => by
  obtain ⟨b, o, e, hb, hc⟩ := h i hi
  exact ⟨b, o, e, by omega, hc⟩
theorem InssAt.mono {L' B' : Nat} {a : Option Addr} {xs : List Ins} (h : InssAt w L B a xs) (l : L' ≤ L) (k : B ≤ B') : InssAt w L' B' a xs := fun i hi => by
  obtain ⟨b, o, e, hb, hc⟩ := h i hi
  exact ⟨b, o, e, by omega, hc⟩
theorem PhAt.mono {L' B' : Nat} {b o : Nat} {x : Ph} (h : PhAt w L B b o x) (l : L' ≤ L) (k : B ≤ B') : PhAt w L' B' b o x := by
  obtain ⟨a, c, h0, h1, h2⟩ := h
  exact ⟨a, c, h0, h1, h2.mono l k⟩
theorem PhsAt.mono {L' B' : Nat} {a : Option Addr} {xs : List Ph} (h : PhsAt w L B a xs) (l : L' ≤ L) (k : B ≤ B') : PhsAt w L' B' a xs := fun i hi => by
  obtain ⟨b, o, e, hb, hc⟩ := h i hi
  exact ⟨b, o, e, by omega, hc.mono l k⟩
theorem BlkAt.mono {L' B' : Nat} {b o : Nat} {x : Blk} (h : BlkAt w L B b o x) (l : L' ≤ L) (k : B ≤ B') : BlkAt w L' B' b o x := by
  obtain ⟨pa, pc, ia, ic, h0, h1, h2, h3, h4⟩ := h
  exact ⟨pa, pc, ia, ic, h0, h1, h2, h3.mono l k, h4.mono l k⟩
theorem BlksAt.mono {L' B' : Nat} {a : Option Addr} {xs : List Blk} (h : BlksAt w L B a xs) (l : L' ≤ L) (k : B ≤ B') : BlksAt w L' B' a xs := fun i hi => by
  obtain ⟨b, o, e, hb, hc⟩ := h i hi
  exact ⟨b, o, e, by omega, hc.mono l k⟩

end Go.Proofs.YtlmaodcddbkllaaDoor

/-
  Rows that a call makes and fills one element a round. Imports nothing of the program.
-/
namespace Go.Proofs.YtlmaodcddbkllaaDoor
open Go.RowKit
variable {w w1 : World} {L B b t N : Nat} {f : Nat → Value}

theorem heap_setCells (b : Nat) : ∀ (vs : List Value) (o : Nat) (w : World) (k : Nat), k ≠ b → (w.setCells b o vs).heap[k]? = w.heap[k]?
  | [], _, _, _, _ => rfl
  | v :: r, o, w, k, h => by rw [World.setCells, heap_setCells b r _ _ _ h, Below.heap_setCell _ _ _ _ h]
theorem size_setCells (b : Nat) : ∀ (vs : List Value) (o : Nat) (w : World), (w.setCells b o vs).heap.size = w.heap.size
  | [], _, _ => rfl
  | v :: r, o, w => by rw [World.setCells, size_setCells b r]; simp [World.setCell]
theorem below_setCells (b : Nat) : ∀ (vs : List Value) (o : Nat) (w w1 : World), Below B w w1 → B ≤ b → Below B w (w1.setCells b o vs)
  | [], _, _, _, h, _ => h
  | v :: r, o, w, w1, h, hb => by rw [World.setCells]; exact below_setCells b r _ _ _ (h.setCell hb v) hb
theorem rowIs_setCells : ∀ (vs : List Value) (o : Nat) (w : World) (f : Nat → Value), w.rowIs b t N f → ∃ g, (w.setCells b o vs).rowIs b t N g
  | [], _, _, f, h => ⟨f, h⟩
  | v :: r, o, w, _, h => by rw [World.setCells]; exact rowIs_setCells r _ _ _ (h.set o v)
theorem there_of_row (hr : w.rowIs b t N f) {o m : Nat} (h : o + m ≤ N) : w.there b o m := fun j hj => ⟨by rw [hr.cell (by omega)]; rfl, hr.frozen _⟩
theorem same_setCells (h : Same L B w w1) (vs : List Value) (o : Nat) (hb : b < L ∨ B ≤ b) : Same L B w (w1.setCells b o vs) := fun k h1 h2 => by
  rw [heap_setCells _ _ _ _ _ (by omega)]; exact h k h1 h2
theorem Same.refl (L B : Nat) (w : World) : Same L B w w := fun _ _ _ => rfl

theorem Same.setCell (h : Same L B w w1) {p : Addr} (hp : p.block < L ∨ B ≤ p.block) (v : Value) : Same L B w (w1.setCell p v) := fun k h1 h2 => by
  rw [Below.heap_setCell _ _ _ _ (by omega)]; exact h k h1 h2
theorem size_setCell (w : World) (p : Addr) (v : Value) : (w.setCell p v).heap.size = w.heap.size := by simp [World.setCell]
theorem rowIs_same (hr : w.rowIs b t N f) (h : Below B w w1) (hb : b < B) : w1.rowIs b t N f := hr.of_block (h.block b hb)

theorem insAt_range {o : Nat} {x : Ins} : InsAt w b o x ↔ w.rangeAt b o x.cells := by
  constructor
  · rintro ⟨h0, h1, h2, h3, h4⟩ j v hv
    match j, hv with
    | 0, hv => simp [Ins.cells] at hv; subst hv; exact h0
    | 1, hv => simp [Ins.cells] at hv; subst hv; exact h1
    | 2, hv => simp [Ins.cells] at hv; subst hv; exact h2
    | 3, hv => simp [Ins.cells] at hv; subst hv; exact h3
    | 4, hv => simp [Ins.cells] at hv; subst hv; exact h4
    | n + 5, hv => simp [Ins.cells] at hv
  · intro h
    exact ⟨h 0 _ rfl, h 1 _ rfl, h 2 _ rfl, h 3 _ rfl, h 4 _ rfl⟩

theorem InsAt.apart {o o' : Nat} {x : Ins} (h : InsAt w b o x) (vs : List Value) (hap : o + 5 ≤ o' ∨ o' + vs.length ≤ o) : InsAt (w.setCells b o' vs) b o x :=
  insAt_range.2 (World.rangeAt_setCells_apart (insAt_range.1 h) b o' vs (by simp only [Ins.cells, List.length_cons, List.length_nil]; omega))

theorem out_cell {o o' : Nat} {vs : List Value} (hap : o < o' ∨ o' + vs.length ≤ o) : (w.setCells b o' vs).cell? ⟨b, o, none⟩ = w.cell? ⟨b, o, none⟩ :=
  World.cell?_setCells_out b vs o' w ⟨b, o, none⟩ (fun _ _ => hap)

theorem PhAt.apart {o o' : Nat} {x : Ph} (h : PhAt w L B b o x) (hb : b < L) (vs : List Value) (hap : o + 2 ≤ o' ∨ o' + vs.length ≤ o) : PhAt (w.setCells b o' vs) L B b o x := by
  obtain ⟨a, c, h0, h1, h2⟩ := h
  exact ⟨a, c, (out_cell (by omega)).trans h0, (out_cell (by omega)).trans h1, h2.keepS (same_setCells (Same.refl _ _ _) _ _ (Or.inl hb))⟩

theorem TerAt.apart {o o' : Nat} {x : Ter} (h : TerAt w b o x) (vs : List Value) (hap : o + 4 ≤ o' ∨ o' + vs.length ≤ o) : TerAt (w.setCells b o' vs) b o x := by
  obtain ⟨h0, h1, h2, h3⟩ := h
  exact ⟨(out_cell (by omega)).trans h0, (out_cell (by omega)).trans h1, (out_cell (by omega)).trans h2, (out_cell (by omega)).trans h3⟩

theorem BlkAt.apart {o o' : Nat} {x : Blk} (h : BlkAt w L B b o x) (hb : b < L) (vs : List Value) (hap : o + 6 ≤ o' ∨ o' + vs.length ≤ o) : BlkAt (w.setCells b o' vs) L B b o x := by
  obtain ⟨pa, pc, ia, ic, h0, h1, h2, h3, h4⟩ := h
  exact ⟨pa, pc, ia, ic, (out_cell (by omega)).trans h0, (out_cell (by omega)).trans h1, h2.apart _ (by omega), h3.keepS (same_setCells (Same.refl _ _ _) _ _ (Or.inl hb)), h4.keepS (same_setCells (Same.refl _ _ _) _ _ (Or.inl hb))⟩

theorem in_cell (hr : w.rowIs b t N f) {o : Nat} {vs : List Value} (h : o + vs.length ≤ N) (j : Nat) (v : Value) (hv : vs[j]? = some v) : (w.setCells b o vs).cell? ⟨b, o + j, none⟩ = some v :=
  World.rangeAt_setCells_same w b o vs (there_of_row hr h) j v hv

theorem ins_step (hr : w.rowIs b t N f) (xs : List Ins) (k : Nat) (hk : k < xs.length) (hN : xs.length * 5 ≤ N) (old : ∀ j (h : j < xs.length), j < k → InsAt w b (j * 5) xs[j]) :
    ∀ j (h : j < xs.length), j < k + 1 → InsAt (w.setCells b (k * 5) xs[k].cells) b (j * 5) xs[j] := fun j h hj => by
  by_cases e : j = k
  · subst e
    exact insAt_range.2 (World.rangeAt_setCells_same w b _ _ (there_of_row hr (by simp only [Ins.cells, List.length_cons, List.length_nil]; omega)))
  · exact (old j h (by omega)).apart _ (by omega)

theorem ph_step (hr : w.rowIs b t N f) (hb : b < L) (xs : List Ph) (k : Nat) (hk : k < xs.length) (hN : xs.length * 2 ≤ N) (old : ∀ j (h : j < xs.length), j < k → PhAt w L B b (j * 2) xs[j])
    (a : Option Addr) (c : Nat) (hi : IntsAt w L B a xs[k].args) :
    ∀ j (h : j < xs.length), j < k + 1 → PhAt (w.setCells b (k * 2) [.int .i64 xs[k].dst, .slice a xs[k].args.length c]) L B b (j * 2) xs[j] := fun j h hj => by
  by_cases e : j = k
  · subst e
    exact ⟨a, c, in_cell hr (by simp only [List.length_cons, List.length_nil]; omega) 0 _ rfl, in_cell hr (by simp only [List.length_cons, List.length_nil]; omega) 1 _ rfl, hi.keepS (same_setCells (Same.refl _ _ _) _ _ (Or.inl hb))⟩
  · exact (old j h (by omega)).apart hb _ (by simp only [List.length_cons, List.length_nil]; omega)

theorem blk_step (hr : w.rowIs b t N f) (hb : b < L) (xs : List Blk) (k : Nat) (hk : k < xs.length) (hN : xs.length * 6 ≤ N) (old : ∀ j (h : j < xs.length), j < k → BlkAt w L B b (j * 6) xs[j])
    (pa ia : Option Addr) (pc ic : Nat) (hp : PhsAt w L B pa xs[k].phis) (hi : InssAt w L B ia xs[k].instrs) :
    ∀ j (h : j < xs.length), j < k + 1 → BlkAt (w.setCells b (k * 6) [.slice pa xs[k].phis.length pc, .slice ia xs[k].instrs.length ic, .int .i64 xs[k].term.kind, .int .i64 xs[k].term.a, .int .i64 xs[k].term.to, .int .i64 xs[k].term.els]) L B b (j * 6) xs[j] := fun j h hj => by
  by_cases e : j = k
  · subst e
    have hc := in_cell (w := w) hr (o := j * 6) (vs := [.slice pa xs[j].phis.length pc, .slice ia xs[j].instrs.length ic, .int .i64 xs[j].term.kind, .int .i64 xs[j].term.a, .int .i64 xs[j].term.to, .int .i64 xs[j].term.els]) (by simp only [List.length_cons, List.length_nil]; omega)
    exact ⟨pa, pc, ia, ic, hc 0 _ rfl, hc 1 _ rfl, ⟨hc 2 _ rfl, hc 3 _ rfl, hc 4 _ rfl, hc 5 _ rfl⟩, hp.keepS (same_setCells (Same.refl _ _ _) _ _ (Or.inl hb)), hi.keepS (same_setCells (Same.refl _ _ _) _ _ (Or.inl hb))⟩
  · exact (old j h (by omega)).apart hb _ (by simp only [List.length_cons, List.length_nil]; omega)

end Go.Proofs.YtlmaodcddbkllaaDoor
