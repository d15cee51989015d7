import Derived.Test.YtdcdgopblbmgoaaGreatDoorMem
/-
  Texts as strings. Imports nothing of the program.
-/
namespace Go.Proofs.YtdcdgopblbmgoaaGreatDoor
open Go.RowKit

/-- A text as a string. -/
def strOf (l : List UInt8) : ByteArray := ⟨l.toArray⟩
theorem strOf_size (l : List UInt8) : (strOf l).size = l.length := by simp [strOf, ByteArray.size]
theorem strOf_append (a b : List UInt8) : strOf a ++ strOf b = strOf (a ++ b) := by
  apply ByteArray.ext; simp [strOf, ByteArray.data_append]
end Go.Proofs.YtdcdgopblbmgoaaGreatDoor

/-
  Reading a text, pure: numbers, fields, lines. Imports nothing of the program.
-/
namespace Go.Proofs.YtdcdgopblbmgoaaGreatDoor

def isDig (c : UInt8) : Bool := decide (48 ≤ c.toNat) && decide (c.toNat ≤ 57)
def digitsOk (f : List UInt8) (most : Nat) : Bool := !(f.length == 0 || decide (most < f.length) || (f.head? == some 48 && decide (1 < f.length))) && f.all isDig
def amount (f : List UInt8) : Nat := f.foldl (fun a c => a * 10 + (c.toNat - 48)) 0
theorem amount_snoc (f : List UInt8) (c : UInt8) : amount (f ++ [c]) = amount f * 10 + (c.toNat - 48) := by simp [amount]
theorem amount_from (f : List UInt8) : ∀ a : Nat, f.all isDig = true → f.foldl (fun a c => a * 10 + (c.toNat - 48)) a < (a + 1) * 10 ^ f.length := by
  induction f with
  | nil => intro a _; simp
  | cons c r ih =>
    intro a h
    rw [List.all_cons, Bool.and_eq_true] at h
    have h2 := h.1
    simp only [isDig, Bool.and_eq_true, decide_eq_true_eq] at h2
    have h1 := ih (a * 10 + (c.toNat - 48)) h.2
    rw [List.foldl_cons, List.length_cons, Nat.pow_succ]
    refine Nat.lt_of_lt_of_le h1 ?_
    calc (a * 10 + (c.toNat - 48) + 1) * 10 ^ r.length ≤ ((a + 1) * 10) * 10 ^ r.length := Nat.mul_le_mul_right _ (by omega)
      _ = (a + 1) * (10 ^ r.length * 10) := by rw [Nat.mul_assoc, Nat.mul_comm 10]
theorem amount_lt (f : List UInt8) (h : f.all isDig = true) : amount f < 10 ^ f.length := by
  have := amount_from f 0 h
  simpa [amount] using this
/-- The value of an index, or -1. -/
def idx (f : List UInt8) : Int := if digitsOk f 4 = true then (amount f : Int) else -1
def isC : List UInt8 → Bool
  | 45 :: c :: r => c != 48 && isC (c :: r) && c != 45
  | f => digitsOk f 10 && decide (amount f ≤ 1000000000)
def constV (f : List UInt8) : Int := if f.head? = some 45 then -(amount f.tail : Int) else amount f
/-- The parts of a text between the separators. -/
def cutF (sep : UInt8) : List UInt8 → List UInt8 → List (List UInt8)
  | cur, [] => [cur]
  | cur, c :: r => if c = sep then cur :: cutF sep [] r else cutF sep (cur ++ [c]) r
def cutS (text : List UInt8) (sep : UInt8) : List (List UInt8) := cutF sep [] text
def fieldOk (f : List UInt8) : Bool := decide (0 < f.length) && f.all fun c => decide (33 ≤ c.toNat) && decide (c.toNat ≤ 126)
def fieldsS (line : List UInt8) : List (List UInt8) := if (cutS line 32).all fieldOk = true then cutS line 32 else []
end Go.Proofs.YtdcdgopblbmgoaaGreatDoor
