import Derived.Test.YtlmaodcddbkllaaDoorE5
/-
  The text of a function, pure, and how long it can be.
-/
namespace Go.Proofs.YtlmaodcddbkllaaDoor
open Go.RowKit

/-- A number whose negation is a number too. -/
def InB (v : Int) : Prop := -9223372036854775807 ≤ v ∧ v ≤ 9223372036854775807

theorem dec_len_pow (k : Nat) : ∀ u, u < 10 ^ (k + 1) → (Lib.decDigits u).length ≤ k + 1 := by
  induction k with
  | zero => intro u h; rw [Lib.decDigits_one (by simpa using h)]; simp
  | succ k ih =>
    intro u h
    by_cases h10 : u < 10
    · rw [Lib.decDigits_one h10]; simp
    · rw [dec_ten h10, List.length_append, List.length_singleton]
      have := ih (u / 10) (by rw [Nat.pow_succ] at h; omega)
      omega
theorem itoa_len (v : Int) (h : InB v) : (Lib.itoa v).length ≤ 20 := by
  unfold InB at h
  unfold Lib.itoa
  by_cases h0 : v < 0
  · rw [if_pos h0, List.length_cons]
    have := dec_len_pow 18 v.natAbs (by omega)
    omega
  · rw [if_neg h0]
    have := dec_len_pow 18 v.toNat (by omega)
    omega
theorem numsS_le (vs : List Int) (h : ∀ v ∈ vs, InB v) : (numsS vs).length ≤ 21 * vs.length := by
  induction vs with
  | nil => simp [numsS]
  | cons x r ih =>
    have h1 := itoa_len x (h x (List.mem_cons_self ..))
    have h2 := ih (fun v hv => h v (List.mem_cons_of_mem _ hv))
    simp only [numsS, List.length_cons, List.length_append]; omega
theorem lineS_le (word : List UInt8) (vs : List Int) (h : ∀ v ∈ vs, InB v) : (lineS word vs).length ≤ word.length + 21 * vs.length + 1 := by
  have := numsS_le vs h
  simp only [lineS, List.length_append, List.length_singleton]; omega

def phiS (p : Ph) : List UInt8 := lineS [112, 104, 105] (p.dst :: p.args)
def blkS (x : Blk) : List UInt8 := lineS [98, 108, 111, 99, 107] [] ++ (x.phis.flatMap phiS ++ (x.instrs.flatMap insS ++ termS x.term))
def rawS (F : Fn) : List UInt8 := lineS [102, 117, 110, 99] [F.values] ++ F.blocks.flatMap blkS

/-- All numbers of a block are such. -/
structure BlkIn (x : Blk) : Prop where
  phis : ∀ p ∈ x.phis, ∀ v ∈ p.dst :: p.args, InB v
  instrs : ∀ i ∈ x.instrs, ∀ v ∈ [i.dst, i.a, i.b, i.imm], InB v
  term : ∀ v ∈ [x.term.a, x.term.to, x.term.els], InB v

theorem wordS_len (op : Int) : (wordS op).length ≤ 5 := by
  by_cases h : 1 ≤ op ∧ op ≤ 13
  · have hc : op = 1 ∨ op = 2 ∨ op = 3 ∨ op = 4 ∨ op = 5 ∨ op = 6 ∨ op = 7 ∨ op = 8 ∨ op = 9 ∨ op = 10 ∨ op = 11 ∨ op = 12 ∨ op = 13 := by omega
    rcases hc with rfl | rfl | rfl | rfl | rfl | rfl | rfl | rfl | rfl | rfl | rfl | rfl | rfl <;> decide
  · unfold wordS
    rw [if_neg (by omega), if_neg (by omega), if_neg (by omega), if_neg (by omega), if_neg (by omega), if_neg (by omega), if_neg (by omega), if_neg (by omega), if_neg (by omega), if_neg (by omega), if_neg (by omega), if_neg (by omega)]
    decide
theorem insS_le (x : Ins) (h : ∀ v ∈ [x.dst, x.a, x.b, x.imm], InB v) : (insS x).length ≤ 100 := by
  have h1 := lineS_le (wordS x.op) (picks x (lettersS x.op)) (fun v hv => h v (picks_in x _ v hv))
  have h2 := picks_len x (lettersS x.op)
  have h3 := letters_len x.op
  have h4 := usesS_size x.op
  have h5 := wordS_len x.op
  unfold insS; omega
theorem termS_le (t : Ter) (h : ∀ v ∈ [t.a, t.to, t.els], InB v) : (termS t).length ≤ 90 := by
  unfold termS
  have h1 := lineS_le [106, 117, 109, 112] [t.to] (fun v hv => h v (by simp at hv ⊢; omega))
  have h2 := lineS_le [114, 101, 116] [t.a] (fun v hv => h v (by simp at hv ⊢; omega))
  have h3 := lineS_le [98, 114, 97, 110, 99, 104] [t.a, t.to, t.els] h
  simp only [List.length_cons, List.length_nil] at h1 h2 h3
  repeat' split
  all_goals omega
theorem phisS_le (ps : List Ph) (h : ∀ p ∈ ps, ∀ v ∈ p.dst :: p.args, InB v) : (ps.flatMap phiS).length ≤ 100 * (ps.length + phTot ps) := by
  induction ps with
  | nil => simp
  | cons p r ih =>
    have h1 := lineS_le [112, 104, 105] (p.dst :: p.args) (h p (List.mem_cons_self ..))
    have h2 := ih (fun q hq => h q (List.mem_cons_of_mem _ hq))
    have h3 : phTot (p :: r) = p.args.length + phTot r := by simp [phTot]
    rw [h3, List.flatMap_cons, List.length_append]
    unfold phiS at h2 ⊢
    simp only [List.length_cons, List.length_nil] at h1 ⊢; omega
theorem inssS_le (is : List Ins) (h : ∀ i ∈ is, ∀ v ∈ [i.dst, i.a, i.b, i.imm], InB v) : (is.flatMap insS).length ≤ 100 * is.length := by
  induction is with
  | nil => simp
  | cons p r ih =>
    have h1 := insS_le p (h p (List.mem_cons_self ..))
    have h2 := ih (fun q hq => h q (List.mem_cons_of_mem _ hq))
    simp only [List.flatMap_cons, List.length_append, List.length_cons]; omega
theorem blkS_le (x : Blk) (h : BlkIn x) : (blkS x).length ≤ 100 * (blkTot x + 1) := by
  have h1 := phisS_le x.phis h.phis
  have h2 := inssS_le x.instrs h.instrs
  have h3 := termS_le x.term h.term
  have h4 : (lineS [98, 108, 111, 99, 107] []).length = 6 := rfl
  unfold blkS blkTot
  rw [List.length_append, List.length_append, List.length_append, h4]; omega
theorem blksS_le (xs : List Blk) (h : ∀ x ∈ xs, BlkIn x) : (xs.flatMap blkS).length ≤ 100 * (blksTot xs + xs.length) := by
  induction xs with
  | nil => simp
  | cons p r ih =>
    have h1 := blkS_le p (h p (List.mem_cons_self ..))
    have h2 := ih (fun q hq => h q (List.mem_cons_of_mem _ hq))
    have h3 : blksTot (p :: r) = blkTot p + blksTot r := by simp [blksTot]
    rw [h3, List.flatMap_cons, List.length_append, List.length_cons]; omega
theorem rawS_le (F : Fn) (hv : InB F.values) (h : ∀ x ∈ F.blocks, BlkIn x) : (rawS F).length ≤ 100 * (blksTot F.blocks + F.blocks.length + 1) := by
  have h1 := blksS_le F.blocks h
  have h2 := lineS_le [102, 117, 110, 99] [F.values] (fun v hv' => by simp at hv'; exact hv' ▸ hv)
  simp only [List.length_cons, List.length_nil] at h2
  unfold rawS
  rw [List.length_append]; omega
end Go.Proofs.YtlmaodcddbkllaaDoor
