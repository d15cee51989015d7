import Derived.Test.YtdcdgopblbmgoaaDoorE1
import Derived.Test.YtdcdgopblbmgoaaDoorE7
/-
  How a machine program lies in memory, and what is valid of one. Imports nothing of the program.
-/
namespace Go.Proofs.YtdcdgopblbmgoaaDoor
open Go.RowKit

structure MBlk where
  instrs : List Ins
  term : Ter

def MBlkAt (w : World) (L B b o : Nat) (x : MBlk) : Prop :=
  ∃ ia ic, w.cell? ⟨b, o, none⟩ = some (.slice ia x.instrs.length ic) ∧ TerAt w b (o + 1) x.term ∧ InssAt w L B ia x.instrs

def MBlksAt (w : World) (L B : Nat) (a : Option Addr) (xs : List MBlk) : Prop :=
  ∀ i (h : i < xs.length), ∃ b o, a = some ⟨b, o, none⟩ ∧ (L ≤ b ∧ b < B) ∧ MBlkAt w L B b (o + i * 5) xs[i]

variable {w w' : World} {L B : Nat}
theorem MBlkAt.keepS {b o : Nat} {x : MBlk} (h : MBlkAt w L B b o x) (k : Same L B w w') (e : w'.heap[b]? = w.heap[b]?) : MBlkAt w' L B b o x := by
  obtain ⟨ia, ic, h0, h2, h4⟩ := h
  exact ⟨ia, ic, (cell_of e).trans h0, h2.keepS e, h4.keepS k⟩
theorem MBlksAt.keepS {a : Option Addr} {xs : List MBlk} (h : MBlksAt w L B a xs) (k : Same L B w w') : MBlksAt w' L B a xs := fun i hi => by
  obtain ⟨b, o, e, hb, hc⟩ := h i hi
  exact ⟨b, o, e, hb, hc.keepS k (k b hb.1 hb.2)⟩
theorem MBlkAt.keep {b o : Nat} {x : MBlk} (h : MBlkAt w L B b o x) (k : Below B w w') (hb : b < B) : MBlkAt w' L B b o x := h.keepS (Same.of_below k) (k.block b hb)
theorem MBlksAt.keep {a : Option Addr} {xs : List MBlk} (h : MBlksAt w L B a xs) (k : Below B w w') : MBlksAt w' L B a xs := h.keepS (Same.of_below k)
theorem MBlkAt.mono {L' B' : Nat} {b o : Nat} {x : MBlk} (h : MBlkAt w L B b o x) (l : L' ≤ L) (k : B ≤ B') : MBlkAt w L' B' b o x := by
  obtain ⟨ia, ic, h0, h2, h4⟩ := h
  exact ⟨ia, ic, h0, h2, h4.mono l k⟩
theorem MBlksAt.mono {L' B' : Nat} {a : Option Addr} {xs : List MBlk} (h : MBlksAt w L B a xs) (l : L' ≤ L) (k : B ≤ B') : MBlksAt w L' B' a xs := fun i hi => by
  obtain ⟨b, o, e, hb, hc⟩ := h i hi
  exact ⟨b, o, e, by omega, hc.mono l k⟩

def mTot (xs : List MBlk) : Nat := (xs.map fun x => x.instrs.length).sum
def mSize (xs : List MBlk) : Nat := (xs.map fun x => 1 + x.instrs.length).sum
theorem mTot_snoc (ps : List MBlk) (p : MBlk) : mTot (ps ++ [p]) = mTot ps + p.instrs.length := by simp [mTot]
theorem mSize_snoc (ps : List MBlk) (p : MBlk) : mSize (ps ++ [p]) = mSize ps + (1 + p.instrs.length) := by simp [mSize]
theorem mTot_take (ps : List MBlk) (k : Nat) : mTot (ps.take k) ≤ mTot ps := sum_take_le _ _ _
theorem mSize_take (ps : List MBlk) (k : Nat) : mSize (ps.take k) ≤ mSize ps := sum_take_le _ _ _
theorem mSize_tot (xs : List MBlk) : mSize xs = xs.length + mTot xs := by
  induction xs with
  | nil => rfl
  | cons x xs ih =>
    simp only [mSize, mTot, List.map_cons, List.sum_cons, List.length_cons] at ih ⊢
    omega
theorem mTot_le {xs : List MBlk} {x : MBlk} (h : x ∈ xs) : x.instrs.length ≤ mTot xs := by
  induction xs with
  | nil => cases h
  | cons y ys ih =>
    have h2 : mTot (y :: ys) = y.instrs.length + mTot ys := by simp [mTot]
    rcases List.mem_cons.1 h with rfl | h
    · omega
    · have := ih h; omega

/-- One block of a machine program: its instructions and its end. -/
def mOk (v : Int) (n : Nat) (x : MBlk) : Bool := x.instrs.all (insOk v 13) && terOk v 0 n x.term
def headM (v : Int) (xs : List MBlk) : Bool := decide (1 ≤ v) && decide (v ≤ 64) && decide (1 ≤ xs.length) && decide (xs.length ≤ 3000) && decide (mSize xs ≤ 20000)
def validM (v : Int) (xs : List MBlk) : Bool := headM v xs && xs.all (mOk v xs.length)
theorem headM_yes {v : Int} {xs : List MBlk} (h0 : 1 ≤ v) (h1 : v ≤ 64) (h2 : 1 ≤ xs.length) (h3 : xs.length ≤ 3000) (h4 : mSize xs ≤ 20000) : headM v xs = true := by simp [headM, *]
theorem headM_no {v : Int} {xs : List MBlk} (h : ¬ (1 ≤ v ∧ v ≤ 64 ∧ 1 ≤ xs.length ∧ xs.length ≤ 3000 ∧ mSize xs ≤ 20000)) : headM v xs = false := by
  rw [Bool.eq_false_iff]
  intro e
  simp only [headM, Bool.and_eq_true, decide_eq_true_eq] at e
  omega
theorem validM_no {v : Int} {xs : List MBlk} (h : ¬ (1 ≤ v ∧ v ≤ 64 ∧ 1 ≤ xs.length ∧ xs.length ≤ 3000 ∧ mSize xs ≤ 20000)) : validM v xs = false := by
  unfold validM
  rw [headM_no h]
  rfl

/-- Each list of the blocks is no longer than memory allows. -/
def MLenOk (xs : List MBlk) : Prop := ∀ x ∈ xs, x.instrs.length ≤ 9223372036854775807
def MLen (xs : List MBlk) : Prop := ∀ x ∈ xs, x.instrs.length ≤ 1048576
theorem mlen_of_tot {xs : List MBlk} (h : xs.length + mTot xs ≤ 1048576) : MLen xs := fun x hx => by
  have h1 := mTot_le hx
  omega
end Go.Proofs.YtdcdgopblbmgoaaDoor

/-
  The text of a machine program, pure, and how long it can be.
-/
namespace Go.Proofs.YtdcdgopblbmgoaaDoor
open Go.RowKit

/-- The instructions of a block and its end as lines. -/
def codeS (is : List Ins) (t : Ter) : List UInt8 := is.flatMap insS ++ termS t
theorem code_len {is : List Ins} {t : Ter} {q : Nat} (h : q < is.length) : ((is.take q).flatMap insS).length + (insS is[q]).length ≤ (codeS is t).length := by
  have := congrArg List.length (flat_split insS is q h)
  simp only [codeS, List.length_append] at this ⊢
  omega
def mblkS (x : MBlk) : List UInt8 := lineS [98, 108, 111, 99, 107] [] ++ codeS x.instrs x.term
def rawM (V : Int) (xs : List MBlk) : List UInt8 := lineS [109, 97, 99, 104] [V] ++ xs.flatMap mblkS

/-- All numbers of a block are such. -/
structure MBlkIn (x : MBlk) : Prop where
  instrs : ∀ i ∈ x.instrs, ∀ v ∈ [i.dst, i.a, i.b, i.imm], InB v
  term : ∀ v ∈ [x.term.a, x.term.to, x.term.els], InB v
  ops : ∀ i ∈ x.instrs, 1 ≤ i.op ∧ i.op ≤ 13
  kind : x.term.kind = 1 ∨ x.term.kind = 2 ∨ x.term.kind = 3
theorem mblkS_le (x : MBlk) (h : MBlkIn x) : (mblkS x).length ≤ 100 * (x.instrs.length + 1) := by
  have h2 := inssS_le x.instrs h.instrs
  have h3 := termS_le x.term h.term
  have h4 : (lineS [98, 108, 111, 99, 107] []).length = 6 := rfl
  unfold mblkS codeS
  rw [List.length_append, List.length_append, h4]; omega
theorem mblksS_le (xs : List MBlk) (h : ∀ x ∈ xs, MBlkIn x) : (xs.flatMap mblkS).length ≤ 100 * (mTot xs + xs.length) := by
  induction xs with
  | nil => simp
  | cons p r ih =>
    have h1 := mblkS_le p (h p (List.mem_cons_self ..))
    have h2 := ih (fun q hq => h q (List.mem_cons_of_mem _ hq))
    have h3 : mTot (p :: r) = p.instrs.length + mTot r := by simp [mTot]
    rw [h3, List.flatMap_cons, List.length_append, List.length_cons]; omega
theorem rawM_le (V : Int) (xs : List MBlk) (hv : InB V) (h : ∀ x ∈ xs, MBlkIn x) : (rawM V xs).length ≤ 100 * (mTot xs + xs.length + 1) := by
  have h1 := mblksS_le xs h
  have h2 := lineS_le [109, 97, 99, 104] [V] (fun v hv' => by simp at hv'; exact hv' ▸ hv)
  simp only [List.length_cons, List.length_nil] at h2
  unfold rawM
  rw [List.length_append]; omega

theorem fldM_in {u : Bool} {x lo hi : Int} (h : fld u x lo hi = true) (h0 : 0 ≤ lo) (h1 : hi ≤ 1000000) : 0 ≤ x ∧ x ≤ 1000000 := by
  cases u <;> simp [fld] at h <;> omega
theorem inBM_of {v : Int} (h : -1000000000 ≤ v ∧ v ≤ 1000000000) : InB v := by unfold InB; omega
/-- What a valid machine program's numbers are. -/
theorem in_of_validM {V : Int} {xs : List MBlk} (h : validM V xs = true) : InB V ∧ (∀ x ∈ xs, MBlkIn x) := by
  unfold validM headM at h
  simp only [Bool.and_eq_true, decide_eq_true_eq, List.all_eq_true] at h
  obtain ⟨⟨⟨⟨⟨z1, z2⟩, z3⟩, z4⟩, z5⟩, hb⟩ := h
  refine ⟨inBM_of (by omega), fun x hx => ?_⟩
  have h1 := hb x hx
  unfold mOk at h1
  simp only [Bool.and_eq_true, List.all_eq_true] at h1
  obtain ⟨hI, hT⟩ := h1
  simp only [terOk, Bool.and_eq_true, decide_eq_true_eq] at hT
  obtain ⟨⟨⟨⟨t1, t2⟩, t3⟩, t4⟩, t5⟩ := hT
  have i3 := fldM_in t3 (by omega) (by omega)
  have i4 := fldM_in t4 (by omega) (by omega)
  have i5 := fldM_in t5 (by omega) (by omega)
  refine ⟨fun j hj v hv => ?_, fun v hv => ?_, fun j hj => ?_, by omega⟩
  · have h1 := hI j hj
    simp only [insOk, Bool.and_eq_true, decide_eq_true_eq] at h1
    obtain ⟨⟨⟨⟨⟨q1, q2⟩, q3⟩, q4⟩, q5⟩, q6⟩ := h1
    have i3 := fldM_in q3 (by omega) (by omega)
    have i4 := fldM_in q4 (by omega) (by omega)
    have i5 := fldM_in q5 (by omega) (by omega)
    have i6 : -1000000000 ≤ j.imm ∧ j.imm ≤ 1000000000 := by
      unfold immOk at q6
      split at q6
      · simpa using q6
      · split at q6
        · simp at q6; omega
        · simp at q6; omega
    simp only [List.mem_cons, List.not_mem_nil, or_false] at hv
    exact inBM_of (by rcases hv with rfl | rfl | rfl | rfl <;> omega)
  · simp only [List.mem_cons, List.not_mem_nil, or_false] at hv
    exact inBM_of (by rcases hv with rfl | rfl | rfl <;> omega)
  · have h1 := hI j hj
    simp only [insOk, Bool.and_eq_true, decide_eq_true_eq] at h1
    exact h1.1.1.1.1
def encM (V : Int) (xs : List MBlk) : List UInt8 := if validM V xs = true then rawM V xs else []
theorem encM_le (V : Int) (xs : List MBlk) (h : xs.length + mTot xs ≤ 1048576) : (encM V xs).length ≤ 1000000000 := by
  unfold encM
  split
  · rename_i hv
    obtain ⟨o1, o2⟩ := in_of_validM hv
    have := rawM_le V xs o1 o2
    omega
  · simp
end Go.Proofs.YtdcdgopblbmgoaaDoor
