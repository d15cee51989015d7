import Derived.Test.YtdcdgopblbmgoaaDoorOwn
import Derived.Test.YtdcdgopblbmgoaaDoorIw
/-
  Values and bytes that lie in one row. Imports nothing of the program.
-/
namespace Go.Proofs.YtdcdgopblbmgoaaDoor
open Go.RowKit

def bytesV (l : List UInt8) : List Value := l.map fun b => Value.int .u8 (b.toNat : Int)
theorem bytesV_snoc (l : List UInt8) (b : UInt8) : bytesV (l ++ [b]) = bytesV l ++ [Value.int .u8 (b.toNat : Int)] := by simp [bytesV]
theorem bytesV_app (a b : List UInt8) : bytesV (a ++ b) = bytesV a ++ bytesV b := by simp [bytesV]
/-- A slice of values that lie in one row. -/
def ValsAt (w : World) (L B : Nat) (a : Option Addr) (vs : List Value) : Prop := ∀ i (h : i < vs.length), ∃ b o, a = some ⟨b, o, none⟩ ∧ (L ≤ b ∧ b < B) ∧ w.cell? ⟨b, o + i, none⟩ = some vs[i]
theorem ValsAt.keepS {w w' : World} {L B : Nat} {a : Option Addr} {xs : List Value} (h : ValsAt w L B a xs) (k : Same L B w w') : ValsAt w' L B a xs := fun i hi => by
  obtain ⟨b, o, e, hb, hc⟩ := h i hi
  exact ⟨b, o, e, hb, by rw [cell_of (k b hb.1 hb.2)]; exact hc⟩
theorem vals_owned {w : World} {base e : Nat} {v : Value} {n : Nat} {xs : List Value} (h : w.ownsRow base e 1 v n xs) : ∃ a c, v = .slice a xs.length c ∧ ValsAt w base w.heap.size a xs := by
  obtain ⟨hl, h | ⟨g, cap, cur, rfl, hg, hh, hc, _, hs, ht⟩⟩ := h
  · obtain ⟨rfl, rfl⟩ := h
    have : xs = [] := by simpa using hl
    subst this
    exact ⟨_, _, rfl, fun i hi => absurd hi (by simp)⟩
  · simp only [Nat.mul_one] at hl hs ht
    subst hl
    refine ⟨_, _, rfl, fun i hi => ⟨g, 0, rfl, ⟨hg, ?_⟩, ?_⟩⟩
    · rcases Nat.lt_or_ge g w.heap.size with h1 | h1
      · exact h1
      · rw [Array.getElem?_eq_none h1] at hh; cases hh
    · rw [Nat.zero_add, cell_of_row w g i cur e (0, 0) hh, ← Array.getElem?_toList]
      have := congrArg (fun l : List Value => l[i]?) ht
      simp only [List.getElem?_take, hi, if_true] at this
      rw [this, List.getElem?_eq_getElem hi]
theorem ValsAt.lower {w : World} {L L' B : Nat} {a : Option Addr} {vs : List Value} (h : ValsAt w L B a vs) (hl : L' ≤ L) : ValsAt w L' B a vs := fun i hi => by
  obtain ⟨b, o, e, hb, hc⟩ := h i hi
  exact ⟨b, o, e, by omega, hc⟩
theorem vals_lit (w : World) (vs : List Value) (t : TypeId) : ValsAt (w.alloc (.cells vs.toArray t)) w.heap.size (w.heap.size + 1) (some ⟨w.heap.size, 0, none⟩) vs := fun i hi =>
  ⟨_, 0, rfl, ⟨Nat.le_refl _, Nat.lt_succ_self _⟩, by simp [hi]⟩
def BytesAt (w : World) (L B : Nat) (a : Option Addr) (bs : List UInt8) : Prop := ∀ i (h : i < bs.length), ∃ b o, a = some ⟨b, o, none⟩ ∧ (L ≤ b ∧ b < B) ∧ w.cell? ⟨b, o + i, none⟩ = some (.int .u8 (bs[i].toNat : Int))
theorem BytesAt.keepS {w w' : World} {L B : Nat} {a : Option Addr} {xs : List UInt8} (h : BytesAt w L B a xs) (k : Same L B w w') : BytesAt w' L B a xs := fun i hi => by
  obtain ⟨b, o, e, hb, hc⟩ := h i hi
  exact ⟨b, o, e, hb, by rw [cell_of (k b hb.1 hb.2)]; exact hc⟩
theorem BytesAt.keep {w w' : World} {L B : Nat} {a : Option Addr} {xs : List UInt8} (h : BytesAt w L B a xs) (k : Below B w w') : BytesAt w' L B a xs := h.keepS (Same.of_below k)
/-- A row of bytes that a call owns lies in one block, not frozen. -/
theorem bytes_owned {w : World} {base e n : Nat} {v : Value} {bs : List UInt8} (h : w.ownsRow base e 1 v n (bytesV bs)) : ∃ a c L B, v = .slice a bs.length c ∧ BytesAt w L B a bs ∧ ThawB L B w ∧ ((L = 0 ∧ B = 0) ∨ (B = L + 1 ∧ base ≤ L ∧ L < w.heap.size)) := by
  obtain ⟨hl, h0 | ⟨g, cap, cur, rfl, hg, hh, hc, _, hs, ht⟩⟩ := h
  · have : bs = [] := by
      have h2 := h0.2
      subst h2
      simpa [bytesV] using hl
    subst this
    exact ⟨none, 0, 0, 0, h0.1, fun i hi => absurd hi (by simp), fun b o hb => absurd hb (by omega), Or.inl ⟨rfl, rfl⟩⟩
  · have hgl : g < w.heap.size := (Array.getElem?_eq_some_iff.1 hh).1
    have hn : n = bs.length := by simpa [bytesV] using hl.symm
    subst hn
    refine ⟨_, _, g, g + 1, rfl, fun i hi => ⟨g, 0, rfl, ⟨Nat.le_refl _, Nat.lt_succ_self _⟩, ?_⟩, fun b o hb => ?_, Or.inr ⟨rfl, hg, hgl⟩⟩
    · rw [Nat.zero_add, cell_of_row w g i cur e (0, 0) hh, ← Array.getElem?_toList]
      have h3 := congrArg (fun l : List Value => l[i]?) ht
      simp only [List.getElem?_take, Nat.mul_one, hi, if_true] at h3
      rw [h3]
      simp [bytesV, hi]
    · have : b = g := by omega
      subst this
      unfold World.frozen?
      rw [hh]; simp
theorem own_base {w : World} {B B' e s n : Nat} {v : Value} {xs : List Value} (h : w.ownsRow B e s v n xs) (hb : B' ≤ B) : w.ownsRow B' e s v n xs := by
  obtain ⟨hl, h0 | ⟨g, cap, cur, hv, hg, r⟩⟩ := h
  · exact ⟨hl, .inl h0⟩
  · exact ⟨hl, .inr ⟨g, cap, cur, hv, Nat.le_trans hb hg, r⟩⟩
end Go.Proofs.YtdcdgopblbmgoaaDoor
