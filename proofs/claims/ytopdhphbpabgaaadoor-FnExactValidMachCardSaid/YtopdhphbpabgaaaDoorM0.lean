/-
  How a machine program lies in memory, and what is valid of one. Imports nothing of the program.
-/
import Derived.Test.YtopdhphbpabgaaaDoorPure
namespace Go.Proofs.YtopdhphbpabgaaaDoor
open Go.RowKit

structure MBlk where
  instrs : List Ins
  term : Ter

def MBlkAt (w : World) (L B b o : Nat) (x : MBlk) : Prop :=
  ∃ ia ic, w.cell? ⟨b, o, none⟩ = some (.slice ia x.instrs.length ic) ∧ TerAt w b (o + 1) x.term ∧ InssAt w L B ia x.instrs

def MBlksAt (w : World) (L B : Nat) (a : Option Addr) (xs : List MBlk) : Prop :=
  ∀ i (h : i < xs.length), ∃ b o, a = some ⟨b, o, none⟩ ∧ (L ≤ b ∧ b < B) ∧ MBlkAt w L B b (o + i * 5) xs[i]

variable {w w' : World} {L B : Nat}
theorem MBlkAt.keepS {b o : Nat} {x : MBlk} (h : MBlkAt w L B b o x) (k : Same L B w w') (e : w'.heap[b]? = w.heap[b]?) : MBlkAt w' L B b o x := by
  obtain ⟨ia, ic, h0, h2, h4⟩ := h
  exact ⟨ia, ic, (cell_of e).trans h0, h2.keepS e, h4.keepS k⟩
theorem MBlksAt.keepS {a : Option Addr} {xs : List MBlk} (h : MBlksAt w L B a xs) (k : Same L B w w') : MBlksAt w' L B a xs := fun i hi => by
  obtain ⟨b, o, e, hb, hc⟩ := h i hi
  exact ⟨b, o, e, hb, hc.keepS k (k b hb.1 hb.2)⟩
theorem MBlkAt.keep {b o : Nat} {x : MBlk} (h : MBlkAt w L B b o x) (k : Below B w w') (hb : b < B) : MBlkAt w' L B b o x := h.keepS (Same.of_below k) (k.block b hb)
theorem MBlksAt.keep {a : Option Addr} {xs : List MBlk} (h : MBlksAt w L B a xs) (k : Below B w w') : MBlksAt w' L B a xs := h.keepS (Same.of_below k)
theorem MBlkAt.mono {L' B' : Nat} {b o : Nat} {x : MBlk} (h : MBlkAt w L B b o x) (l : L' ≤ L) (k : B ≤ B') : MBlkAt w L' B' b o x := by
  obtain ⟨ia, ic, h0, h2, h4⟩ := h
  exact ⟨ia, ic, h0, h2, h4.mono l k⟩
theorem MBlksAt.mono {L' B' : Nat} {a : Option Addr} {xs : List MBlk} (h : MBlksAt w L B a xs) (l : L' ≤ L) (k : B ≤ B') : MBlksAt w L' B' a xs := fun i hi => by
  obtain ⟨b, o, e, hb, hc⟩ := h i hi
  exact ⟨b, o, e, by omega, hc.mono l k⟩

def mTot (xs : List MBlk) : Nat := (xs.map fun x => x.instrs.length).sum
def mSize (xs : List MBlk) : Nat := (xs.map fun x => 1 + x.instrs.length).sum
theorem mTot_snoc (ps : List MBlk) (p : MBlk) : mTot (ps ++ [p]) = mTot ps + p.instrs.length := by simp [mTot]
theorem mSize_snoc (ps : List MBlk) (p : MBlk) : mSize (ps ++ [p]) = mSize ps + (1 + p.instrs.length) := by simp [mSize]
theorem mTot_take (ps : List MBlk) (k : Nat) : mTot (ps.take k) ≤ mTot ps := sum_take_le _ _ _
theorem mSize_take (ps : List MBlk) (k : Nat) : mSize (ps.take k) ≤ mSize ps := sum_take_le _ _ _
theorem mSize_tot (xs : List MBlk) : mSize xs = xs.length + mTot xs := by
  induction xs with
  | nil => rfl
  | cons x xs ih =>
    simp only [mSize, mTot, List.map_cons, List.sum_cons, List.length_cons] at ih ⊢
    omega
theorem mTot_le {xs : List MBlk} {x : MBlk} (h : x ∈ xs) : x.instrs.length ≤ mTot xs := by
  induction xs with
  | nil => cases h
  | cons y ys ih =>
    have h2 : mTot (y :: ys) = y.instrs.length + mTot ys := by simp [mTot]
    rcases List.mem_cons.1 h with rfl | h
    · omega
    · have := ih h; omega

/-- One block of a machine program: its instructions and its end. -/
def mOk (v : Int) (n : Nat) (x : MBlk) : Bool := x.instrs.all (insOk v 13) && terOk v 0 n x.term
def headM (v : Int) (xs : List MBlk) : Bool := decide (1 ≤ v) && decide (v ≤ 64) && decide (1 ≤ xs.length) && decide (xs.length ≤ 3000) && decide (mSize xs ≤ 20000)
def validM (v : Int) (xs : List MBlk) : Bool := headM v xs && xs.all (mOk v xs.length)
theorem headM_yes {v : Int} {xs : List MBlk} (h0 : 1 ≤ v) (h1 : v ≤ 64) (h2 : 1 ≤ xs.length) (h3 : xs.length ≤ 3000) (h4 : mSize xs ≤ 20000) : headM v xs = true := by simp [headM, *]
theorem headM_no {v : Int} {xs : List MBlk} (h : ¬ (1 ≤ v ∧ v ≤ 64 ∧ 1 ≤ xs.length ∧ xs.length ≤ 3000 ∧ mSize xs ≤ 20000)) : headM v xs = false := by
  rw [Bool.eq_false_iff]
  intro e
  simp only [headM, Bool.and_eq_true, decide_eq_true_eq] at e
  omega
theorem validM_no {v : Int} {xs : List MBlk} (h : ¬ (1 ≤ v ∧ v ≤ 64 ∧ 1 ≤ xs.length ∧ xs.length ≤ 3000 ∧ mSize xs ≤ 20000)) : validM v xs = false := by
  unfold validM
  rw [headM_no h]
  rfl

/-- Each list of the blocks is no longer than memory allows. -/
def MLenOk (xs : List MBlk) : Prop := ∀ x ∈ xs, x.instrs.length ≤ 9223372036854775807
def MLen (xs : List MBlk) : Prop := ∀ x ∈ xs, x.instrs.length ≤ 1048576
theorem mlen_of_tot {xs : List MBlk} (h : xs.length + mTot xs ≤ 1048576) : MLen xs := fun x hx => by
  have h1 := mTot_le hx
  omega
end Go.Proofs.YtopdhphbpabgaaaDoor
