import Derived.Test.YtlmaodcddbkllaaDoorMem
/-
  The plain mathematics of chapter 1: what is valid, over pure data. Imports nothing of the program.
-/
namespace Go.Proofs.YtlmaodcddbkllaaDoor

def dB (op : Int) : Bool := decide (1 ≤ op ∧ op ≤ 8) || decide (op = 11) || decide (op = 13)
def aB (op : Int) : Bool := decide (3 ≤ op ∧ op ≤ 12)
def bB (op : Int) : Bool := decide (3 ≤ op ∧ op ≤ 7) || decide (op = 9)

def fld (u : Bool) (x lo hi : Int) : Bool := if u then decide (lo ≤ x) && decide (x < hi) else x == 0
def immOk (x : Ins) : Bool := if x.op == 1 then decide (-1000000000 ≤ x.imm) && decide (x.imm ≤ 1000000000) else if x.op == 2 then decide (0 ≤ x.imm) && decide (x.imm < 8) else x.imm == 0
def insOk (n most : Int) (x : Ins) : Bool :=
  decide (1 ≤ x.op) && decide (x.op ≤ most) && fld (dB x.op) x.dst 0 n && fld (aB x.op) x.a 0 n && fld (bB x.op) x.b 0 n && immOk x
def terOk (n low blocks : Int) (t : Ter) : Bool :=
  decide (1 ≤ t.kind) && decide (t.kind ≤ 3) && fld (t.kind != 1) t.a 0 n && fld (t.kind != 3) t.to low blocks && fld (t.kind == 2) t.els low blocks
def terOk' (n blocks : Int) (t : Ter) : Bool := terOk n 1 blocks t && !(t.kind == 2 && t.to == t.els)

def Ter.targets (t : Ter) : List Int := if t.kind = 1 then [t.to] else if t.kind = 2 then [t.to, t.els] else []
def phSize (ps : List Ph) : Nat := (ps.map fun p => 1 + p.args.length).sum
def blkSize (x : Blk) : Nat := 1 + x.instrs.length + phSize x.phis
def blksSize (xs : List Blk) : Nat := (xs.map blkSize).sum
/-- The predecessors of block b among blocks that are numbered from i on. -/
def predsFrom : List Blk → Nat → Int → List Int
  | [], _, _ => []
  | x :: xs, i, b => (if x.term.targets.contains b then [(i : Int)] else []) ++ predsFrom xs (i + 1) b
def Fn.preds (F : Fn) (b : Int) : List Int := predsFrom F.blocks 0 b
def phDefs (ps : List Ph) : List Int := ps.map (·.dst)
def insDefs (xs : List Ins) : List Int := (xs.filter fun x => dB x.op).map (·.dst)
def blkDefs (x : Blk) : List Int := phDefs x.phis ++ insDefs x.instrs
def blksDefs (xs : List Blk) : List Int := xs.flatMap blkDefs

def sizeOk (F : Fn) : Bool := decide (0 ≤ F.values) && decide (F.values ≤ 2000) && decide (1 ≤ F.blocks.length) && decide (F.blocks.length ≤ 1000) && decide (blksSize F.blocks ≤ 4000)
def termsOk (F : Fn) : Bool := F.blocks.all fun x => terOk' F.values F.blocks.length x.term
def instrsOk (F : Fn) : Bool := F.blocks.all fun x => x.instrs.all (insOk F.values 10)
/-- One phi by the specification: of its Dst nothing is said here. -/
def phOkS (n : Int) (k : Nat) (p : Ph) : Bool := decide (1 ≤ p.args.length) && decide (p.args.length = k) && p.args.all (fun a => decide (0 ≤ a) && decide (a < n))
def phOkI (n : Int) (k : Nat) (p : Ph) : Bool := fld true p.dst 0 n && phOkS n k p
def phisFrom (ok : Int → Nat → Ph → Bool) (F : Fn) (xs : List Blk) (i : Nat) : Bool :=
  match xs with
  | [] => true
  | x :: xs => x.phis.all (ok F.values (F.preds i).length) && phisFrom ok F xs (i + 1)
def phisOkS (F : Fn) : Bool := phisFrom phOkS F F.blocks 0
def phisOkI (F : Fn) : Bool := phisFrom phOkI F F.blocks 0
def countEq (xs : List Int) (v : Int) : Nat := (xs.filter fun x => x == v).length
def onceOk (F : Fn) : Bool := (List.range F.values.toNat).all fun v => countEq (blksDefs F.blocks) v == 1
def coverOk (F : Fn) : Bool := decide (((blksDefs F.blocks).length : Int) = F.values) && (List.range F.values.toNat).all fun v => (blksDefs F.blocks).contains (v : Int)
def validI (F : Fn) : Bool := sizeOk F && termsOk F && instrsOk F && phisOkI F && onceOk F
def validS (F : Fn) : Bool := sizeOk F && (instrsOk F && termsOk F) && phisOkS F && coverOk F

/-- What the counting of sizes leaves of l: -1 where it does not suffice. -/
def szR (l : Int) (n : Nat) : Int := if l < n then -1 else l - n
theorem szR_neg {l : Int} {n : Nat} (h : l < n) : szR l n = -1 := if_pos h
theorem szR_pos {l : Int} {n : Nat} (h : (n : Int) ≤ l) : szR l n = l - n := if_neg (by omega)
def phTot (ps : List Ph) : Nat := (ps.map fun p => p.args.length).sum
def blkTot (x : Blk) : Nat := x.phis.length + phTot x.phis + x.instrs.length
def blksTot (xs : List Blk) : Nat := (xs.map blkTot).sum
theorem phTot_snoc (ps : List Ph) (p : Ph) : phTot (ps ++ [p]) = phTot ps + p.args.length := by simp [phTot]
theorem blksTot_snoc (ps : List Blk) (p : Blk) : blksTot (ps ++ [p]) = blksTot ps + blkTot p := by simp [blksTot]
theorem sum_take_le {α : Type} (f : α → Nat) (xs : List α) (k : Nat) : ((xs.take k).map f).sum ≤ (xs.map f).sum := by
  induction xs generalizing k with
  | nil => simp
  | cons x xs ih => cases k with
    | zero => simp
    | succ k => simp only [List.take_succ_cons, List.map_cons, List.sum_cons]; have := ih k; omega
theorem phTot_take (ps : List Ph) (k : Nat) : phTot (ps.take k) ≤ phTot ps := sum_take_le _ _ _
theorem blksTot_take (ps : List Blk) (k : Nat) : blksTot (ps.take k) ≤ blksTot ps := sum_take_le _ _ _

end Go.Proofs.YtlmaodcddbkllaaDoor
