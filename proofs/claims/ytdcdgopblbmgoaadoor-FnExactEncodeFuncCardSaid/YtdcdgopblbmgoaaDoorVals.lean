import Derived.Test.YtdcdgopblbmgoaaDoorW5
import Derived.Test.YtdcdgopblbmgoaaDoorW7
import Derived.Test.YtdcdgopblbmgoaaDoorE1
import Derived.Maps.AppendAt
/-
  Values and bytes that lie in one row. Imports nothing of the program.
-/
namespace Go.Proofs.YtdcdgopblbmgoaaDoor
open Go.RowKit

def bytesV (l : List UInt8) : List Value := l.map fun b => Value.int .u8 (b.toNat : Int)
theorem bytesV_snoc (l : List UInt8) (b : UInt8) : bytesV (l ++ [b]) = bytesV l ++ [Value.int .u8 (b.toNat : Int)] := by simp [bytesV]
theorem bytesV_app (a b : List UInt8) : bytesV (a ++ b) = bytesV a ++ bytesV b := by simp [bytesV]
/-- A slice of values that lie in one row. -/
def ValsAt (w : World) (L B : Nat) (a : Option Addr) (vs : List Value) : Prop := ∀ i (h : i < vs.length), ∃ b o, a = some ⟨b, o, none⟩ ∧ (L ≤ b ∧ b < B) ∧ w.cell? ⟨b, o + i, none⟩ = some vs[i]
theorem ValsAt.keepS {w w' : World} {L B : Nat} {a : Option Addr} {xs : List Value} (h : ValsAt w L B a xs) (k : Same L B w w') : ValsAt w' L B a xs := fun i hi => by
  obtain ⟨b, o, e, hb, hc⟩ := h i hi
  exact ⟨b, o, e, hb, by rw [cell_of (k b hb.1 hb.2)]; exact hc⟩
theorem vals_owned {w : World} {base e : Nat} {v : Value} {n : Nat} {xs : List Value} (h : w.ownsRow base e 1 v n xs) : ∃ a c, v = .slice a xs.length c ∧ ValsAt w base w.heap.size a xs := by
  obtain ⟨hl, h | ⟨g, cap, cur, rfl, hg, hh, hc, _, hs, ht⟩⟩ := h
  · obtain ⟨rfl, rfl⟩ := h
    have : xs = [] := by simpa using hl
    subst this
    exact ⟨_, _, rfl, fun i hi => absurd hi (by simp)⟩
  · simp only [Nat.mul_one] at hl hs ht
    subst hl
    refine ⟨_, _, rfl, fun i hi => ⟨g, 0, rfl, ⟨hg, ?_⟩, ?_⟩⟩
    · rcases Nat.lt_or_ge g w.heap.size with h1 | h1
      · exact h1
      · rw [Array.getElem?_eq_none h1] at hh; cases hh
    · rw [Nat.zero_add, cell_of_row w g i cur e (0, 0) hh, ← Array.getElem?_toList]
      have := congrArg (fun l : List Value => l[i]?) ht
      simp only [List.getElem?_take, hi, if_true] at this
      rw [this, List.getElem?_eq_getElem hi]
theorem ValsAt.lower {w : World} {L L' B : Nat} {a : Option Addr} {vs : List Value} (h : ValsAt w L B a vs) (hl : L' ≤ L) : ValsAt w L' B a vs := fun i hi => by
  obtain ⟨b, o, e, hb, hc⟩ := h i hi
  exact ⟨b, o, e, by omega, hc⟩
theorem vals_lit (w : World) (vs : List Value) (t : TypeId) : ValsAt (w.alloc (.cells vs.toArray t)) w.heap.size (w.heap.size + 1) (some ⟨w.heap.size, 0, none⟩) vs := fun i hi =>
  ⟨_, 0, rfl, ⟨Nat.le_refl _, Nat.lt_succ_self _⟩, by simp [hi]⟩
def BytesAt (w : World) (L B : Nat) (a : Option Addr) (bs : List UInt8) : Prop := ∀ i (h : i < bs.length), ∃ b o, a = some ⟨b, o, none⟩ ∧ (L ≤ b ∧ b < B) ∧ w.cell? ⟨b, o + i, none⟩ = some (.int .u8 (bs[i].toNat : Int))
theorem BytesAt.keepS {w w' : World} {L B : Nat} {a : Option Addr} {xs : List UInt8} (h : BytesAt w L B a xs) (k : Same L B w w') : BytesAt w' L B a xs := fun i hi => by
  obtain ⟨b, o, e, hb, hc⟩ := h i hi
  exact ⟨b, o, e, hb, by rw [cell_of (k b hb.1 hb.2)]; exact hc⟩
theorem BytesAt.keep {w w' : World} {L B : Nat} {a : Option Addr} {xs : List UInt8} (h : BytesAt w L B a xs) (k : Below B w w') : BytesAt w' L B a xs := h.keepS (Same.of_below k)
/-- A row of bytes that a call owns lies in one block, not frozen. -/
theorem bytes_owned {w : World} {base e n : Nat} {v : Value} {bs : List UInt8} (h : w.ownsRow base e 1 v n (bytesV bs)) : ∃ a c L B, v = .slice a bs.length c ∧ BytesAt w L B a bs ∧ ThawB L B w ∧ ((L = 0 ∧ B = 0) ∨ (B = L + 1 ∧ base ≤ L ∧ L < w.heap.size)) := by
  obtain ⟨hl, h0 | ⟨g, cap, cur, rfl, hg, hh, hc, _, hs, ht⟩⟩ := h
  · have : bs = [] := by
      have h2 := h0.2
      subst h2
      simpa [bytesV] using hl
    subst this
    exact ⟨none, 0, 0, 0, h0.1, fun i hi => absurd hi (by simp), fun b o hb => absurd hb (by omega), Or.inl ⟨rfl, rfl⟩⟩
  · have hgl : g < w.heap.size := (Array.getElem?_eq_some_iff.1 hh).1
    have hn : n = bs.length := by simpa [bytesV] using hl.symm
    subst hn
    refine ⟨_, _, g, g + 1, rfl, fun i hi => ⟨g, 0, rfl, ⟨Nat.le_refl _, Nat.lt_succ_self _⟩, ?_⟩, fun b o hb => ?_, Or.inr ⟨rfl, hg, hgl⟩⟩
    · rw [Nat.zero_add, cell_of_row w g i cur e (0, 0) hh, ← Array.getElem?_toList]
      have h3 := congrArg (fun l : List Value => l[i]?) ht
      simp only [List.getElem?_take, Nat.mul_one, hi, if_true] at h3
      rw [h3]
      simp [bytesV, hi]
    · have : b = g := by omega
      subst this
      unfold World.frozen?
      rw [hh]; simp
theorem own_base {w : World} {B B' e s n : Nat} {v : Value} {xs : List Value} (h : w.ownsRow B e s v n xs) (hb : B' ≤ B) : w.ownsRow B' e s v n xs := by
  obtain ⟨hl, h0 | ⟨g, cap, cur, hv, hg, r⟩⟩ := h
  · exact ⟨hl, .inl h0⟩
  · exact ⟨hl, .inr ⟨g, cap, cur, hv, Nat.le_trans hb hg, r⟩⟩
end Go.Proofs.YtdcdgopblbmgoaaDoor

/-
  l1Put of the model: a text behind a row of bytes.
-/
namespace Go.Proofs.YtdcdgopblbmgoaaDoor
open Go.RowKit

theorem Tryd.infoB : (Tryd.prog.info? 5).map (fun i => (i.zero, i.size, i.bytes)) = some (some (.int .u8 0), 1, 1) := by kernel_rfl


/-- What an append, or more of them, may do: the row's own block turns, or the row is a new one. -/
structure Gr (w w' : World) (u v : Value) : Prop where
  grown : w.grownBy w' u.ownBlock
  own : ∀ g, v.ownBlock = some g → w.heap.size ≤ g ∨ u.ownBlock = some g

theorem Gr.refl (w : World) (u : Value) : Gr w w u u := ⟨⟨rfl, rfl, rfl, Nat.le_refl _, fun _ _ _ => rfl⟩, fun _ h => Or.inr h⟩
theorem Gr.trans {a b c : World} {u v x : Value} (h : Gr a b u v) (k : Gr b c v x) : Gr a c u x :=
  ⟨⟨k.grown.os.trans h.grown.os, k.grown.tape.trans h.grown.tape, k.grown.output.trans h.grown.output, Nat.le_trans h.grown.size k.grown.size,
    fun i hi hne => (k.grown.block i (Nat.lt_of_lt_of_le hi h.grown.size) (fun e => by
      rcases h.own i e.symm with h1 | h1
      · omega
      · exact hne h1.symm)).trans (h.grown.block i hi hne)⟩,
   fun g hg => by
    rcases k.own g hg with h1 | h1
    · exact Or.inl (Nat.le_trans h.grown.size h1)
    · exact h.own g h1⟩
theorem Gr.below {w w' W : World} {u v : Value} {B e s n : Nat} {xs : List Value} (h : Gr w w' u v) (ho : w.ownsRow B e s u n xs) (hb : Below B W w) (hB : B ≤ w.heap.size) : Below B W w' :=
  hb.grown h.grown hB (fun k hk => (ho.lt k hk).1)
theorem Gr.alloc {w w' : World} {u v : Value} (h : Gr w w' u v) (o : Obj) : Gr w (w'.alloc o) u v :=
  ⟨⟨h.grown.os, h.grown.tape, h.grown.output, by have := h.grown.size; simp; omega, fun i hi hne => (Below.heap_alloc _ _ _ (Nat.lt_of_lt_of_le hi h.grown.size)).trans (h.grown.block i hi hne)⟩, h.own⟩

set_option maxHeartbeats 400000 in
set_option maxRecDepth 100000 in
theorem put_any (B : Nat) (u : Value) (xs : List UInt8) (s : List UInt8) (w : World) (hB : B ≤ w.heap.size)
    (ho : Hid (w.ownsRow B 5 1 u xs.length (bytesV xs))) (hn : Hid (u ≠ .slice none 0 0)) (hlen : Hid (xs.length + s.length ≤ 1000000000000)) :
    Calls Tryd.prog 133 #[u, .string (strOf s)] w fun e w' => ∃ v, e = .returned v ∧ Gr w w' u v ∧ v ≠ .slice none 0 0 ∧ w'.ownsRow B 5 1 v (xs ++ s).length (bytesV (xs ++ s)) := by
  go_enter Tryd.func133, Tryd.ntmps133
  obtain ⟨i0, hi0, hz0, hz1, hz2⟩ := info_parts Tryd.infoB
  have hsz : (strOf s).size = s.length := strOf_size s
  have hs62 : s.length ≤ 1000000000000 := by have := hlen.out; omega
  go_wp2
  go_loopw [0, 5] (fun x i wr => ∃ k : Nat, k ≤ s.length ∧ i = .int .i64 k ∧ Hid (Gr w wr u x) ∧ Hid (x ≠ .slice none 0 0) ∧ Hid (wr.ownsRow B 5 1 x (xs ++ s.take k).length (bytesV (xs ++ s.take k)))) (fun _ i _ => s.length - (intOf i).toNat)
  case atStart => exact ⟨0, Nat.zero_le _, rfl, hide (Gr.refl _ _), hn, hide (by simpa using ho.out)⟩
  case round =>
    obtain ⟨k, hk, rfl, HG, HN, HO⟩ := hrel
    have hwz := HG.out.grown.size
    by_cases hlt : k < s.length
    · have hk2 : k < (strOf s).size := by omega
      have HT : Hid (xs ++ s.take (k + 1) = (xs ++ s.take k) ++ [(strOf s)[k]]) := hide (by rw [List.take_succ_eq_append_getElem hlt, List.append_assoc]; rfl)
      have HL : Hid ((xs ++ s.take k).length + 1 ≤ 1000000000000) := hide (by have := hlen.out; simp only [List.length_append, List.length_take]; omega)
      go_wp2_with (at_builtin; refine wpList_append_own_at _ rfl _ _ 33 rfl B 5 i0 (.int .u8 0) 1 1 Tryd.underlying33 hi0 hz0 hz1 hz2 rfl (by decide) _ _ _ rfl (HO.out.alloc _) ⟨wr.heap.size, 0, none⟩ 1 1 [.int .u8 (((strOf s)[k]).toNat : Int)] rfl rfl ?c1 ?c2 ?c3 ?c4 ?c5 ?_)
      case c1 => exact cell_one_new _ _ _
      case c2 => intro u hu; simp at hu; subst hu; rfl
      case c3 => have := HL.out; unfold maxLen; omega
      case c4 => have := HL.out; omega
      case c5 => simp; omega
      intro v1 w1 hown1 hgrow1 hne1 hat1
      have HO1 : Hid (w1.ownsRow B 5 1 v1 (xs ++ s.take (k + 1)).length (bytesV (xs ++ s.take (k + 1)))) := hide (by rw [show (xs ++ s.take (k + 1)).length = xs.length + k + 1 by simp only [List.length_append, List.length_take]; omega, HT.out, bytesV_snoc]; exact hown1)
      have HN1 : Hid (v1 ≠ .slice none 0 0) := hide hne1
      have HG1 : Hid (Gr w w1 u v1) := hide (HG.out.trans (Gr.trans ((Gr.refl _ _).alloc _) ⟨hgrow1, fun g hg => by
        rcases hat1 with h | h
        · exact Or.inr (h ▸ hg)
        · rw [h] at hg; cases hg; exact Or.inl (by simp)⟩))
      clear hown1 hgrow1 hne1 hat1
      go_wp2
      exact ⟨⟨k + 1, by omega, by go_num, HG1, HN1, HO1⟩, by simp [intOf]; omega⟩
    · have hks : k = s.length := by omega
      have HO2 : Hid (wr.ownsRow B 5 1 u0 (xs ++ s).length (bytesV (xs ++ s))) := hide (by have := HO.out; rwa [List.take_of_length_le (by omega)] at this)
      go_wp2
      go_ret
      exact ⟨_, rfl, HG.out, HN.out, HO2.out⟩
end Go.Proofs.YtdcdgopblbmgoaaDoor
