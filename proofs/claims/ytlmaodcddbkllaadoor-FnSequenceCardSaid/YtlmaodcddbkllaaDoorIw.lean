import Derived.Test.YtlmaodcddbkllaaDoorMem
import Derived.Deep.Slices
/-
  Worlds that differ in numbers alone (what the marking of a copy does). Imports nothing of the program.
-/
namespace Go.Proofs.YtlmaodcddbkllaaDoor
open Go.RowKit Go.Deep

/-- In the blocks from L to below B some numbers have turned into other numbers; nothing else has. -/
structure IW (L B : Nat) (w w' : World) : Prop where
  os : w'.os = w.os
  tape : w'.tape = w.tape
  output : w'.output = w.output
  size : w'.heap.size = w.heap.size
  block : ∀ k, ¬ (L ≤ k ∧ k < B) → w'.heap[k]? = w.heap[k]?
  cell : ∀ p, w'.cell? p = w.cell? p ∨ ∃ u v, w.cell? p = some (.int .i64 u) ∧ w'.cell? p = some (.int .i64 v)
  frozen : ∀ p, w'.frozen? p = w.frozen? p

variable {w w' w1 : World} {L B : Nat}

theorem IW.refl (L B : Nat) (w : World) : IW L B w w := ⟨rfl, rfl, rfl, rfl, fun _ _ => rfl, fun _ => Or.inl rfl, fun _ => rfl⟩
theorem IW.trans {w2 : World} (h : IW L B w w1) (k : IW L B w1 w2) : IW L B w w2 := by
  refine ⟨k.os.trans h.os, k.tape.trans h.tape, k.output.trans h.output, k.size.trans h.size, fun i hi => (k.block i hi).trans (h.block i hi), fun p => ?_, fun p => (k.frozen p).trans (h.frozen p)⟩
  rcases k.cell p with e | ⟨u, v, e1, e2⟩
  · rcases h.cell p with f | ⟨u, v, f1, f2⟩
    · exact Or.inl (e.trans f)
    · exact Or.inr ⟨u, v, f1, e.trans f2⟩
  · rcases h.cell p with f | ⟨u', v', f1, f2⟩
    · exact Or.inr ⟨u, v, f.symm.trans e1, e2⟩
    · exact Or.inr ⟨u', v, f1, e2⟩
theorem IW.set (h : IW L B w w1) {b o : Nat} (hp : L ≤ b ∧ b < B) {u : Int} (hc : w1.cell? ⟨b, o, none⟩ = some (.int .i64 u)) (v : Int) : IW L B w (w1.setCell ⟨b, o, none⟩ (.int .i64 v)) := by
  refine h.trans ⟨rfl, rfl, rfl, by simp [World.setCell], fun k hk => Below.heap_setCell _ _ _ _ (by dsimp only; omega), fun p => ?_, fun p => World.frozen?_setCell _ _ _ _⟩
  by_cases e : p = ⟨b, o, none⟩
  · subst e
    exact Or.inr ⟨u, v, hc, World.cell?_setCell_same _ _ _ hc⟩
  · exact Or.inl (World.cell?_setCell_other _ _ _ _ (fun h => e h.symm))
theorem IW.int (h : IW L B w w') {p : Addr} {u : Int} (hc : w.cell? p = some (.int .i64 u)) : ∃ v, w'.cell? p = some (.int .i64 v) := by
  rcases h.cell p with e | ⟨_, v, _, e⟩
  · exact ⟨u, e.trans hc⟩
  · exact ⟨v, e⟩
theorem IW.slice (h : IW L B w w') {p : Addr} {a : Option Addr} {n c : Nat} (hc : w.cell? p = some (.slice a n c)) : w'.cell? p = some (.slice a n c) := by
  rcases h.cell p with e | ⟨u, _, e, _⟩
  · exact e.trans hc
  · rw [hc] at e; cases e
/-- In the blocks from L to below B nothing is frozen. -/
def ThawB (L B : Nat) (w : World) : Prop := ∀ b o, L ≤ b ∧ b < B → w.frozen? ⟨b, o, none⟩ = false
theorem ThawB.of {L B : Nat} {w : World} (h : Thaw L w) : ThawB L B w := fun b o hb => h b o hb.1
theorem ThawB.keepS {L B : Nat} {w w' : World} (h : ThawB L B w) (k : Same L B w w') : ThawB L B w' := fun b o hb => (World.frozen?_of_block (k b hb.1 hb.2)).trans (h b o hb)
theorem ThawB.setCell {L B : Nat} {w : World} (h : ThawB L B w) (p : Addr) (v : Value) : ThawB L B (w.setCell p v) := fun b o hb => by rw [World.frozen?_setCell]; exact h b o hb
theorem IW.thawB (h : IW L B w w') {M N : Nat} (t : ThawB M N w) : ThawB M N w' := fun b o hb => (h.frozen _).trans (t b o hb)
theorem IW.thaw (h : IW L B w w') {M : Nat} (t : Thaw M w) : Thaw M w' := fun b o hb => (h.frozen _).trans (t b o hb)

variable {L' B' : Nat} {a : Option Addr}
theorem IntsAt.iw {xs : List Int} (h : IntsAt w L B a xs) (k : IW L' B' w w') : ∃ ys : List Int, ys.length = xs.length ∧ IntsAt w' L B a ys := by
  obtain ⟨f, hf⟩ := choose_lt (α := Int) (n := xs.length) (p := fun i y => ∃ b o, a = some ⟨b, o, none⟩ ∧ (L ≤ b ∧ b < B) ∧ w'.cell? ⟨b, o + i, none⟩ = some (.int .i64 y)) (fun i hi => by
    obtain ⟨b, o, e, hb, hc⟩ := h i hi
    obtain ⟨v, hv⟩ := k.int hc
    exact ⟨v, b, o, e, hb, hv⟩)
  refine ⟨(List.range xs.length).map f, by simp, fun i hi => ?_⟩
  simp only [List.length_map, List.length_range] at hi
  obtain ⟨b, o, e, hb, hc⟩ := hf i hi
  exact ⟨b, o, e, hb, by simpa using hc⟩
theorem InsAt.iw {b o : Nat} {x : Ins} (h : InsAt w b o x) (k : IW L' B' w w') : ∃ y : Ins, InsAt w' b o y := by
  obtain ⟨h0, h1, h2, h3, h4⟩ := h
  obtain ⟨v0, e0⟩ := k.int h0
  obtain ⟨v1, e1⟩ := k.int h1
  obtain ⟨v2, e2⟩ := k.int h2
  obtain ⟨v3, e3⟩ := k.int h3
  obtain ⟨v4, e4⟩ := k.int h4
  exact ⟨⟨v0, v1, v2, v3, v4⟩, e0, e1, e2, e3, e4⟩
theorem TerAt.iw {b o : Nat} {x : Ter} (h : TerAt w b o x) (k : IW L' B' w w') : ∃ y : Ter, TerAt w' b o y := by
  obtain ⟨h0, h1, h2, h3⟩ := h
  obtain ⟨v0, e0⟩ := k.int h0
  obtain ⟨v1, e1⟩ := k.int h1
  obtain ⟨v2, e2⟩ := k.int h2
  obtain ⟨v3, e3⟩ := k.int h3
  exact ⟨⟨v0, v1, v2, v3⟩, e0, e1, e2, e3⟩
theorem InssAt.iw {xs : List Ins} (h : InssAt w L B a xs) (k : IW L' B' w w') : ∃ ys : List Ins, ys.length = xs.length ∧ InssAt w' L B a ys := by
  haveI : Inhabited Ins := ⟨⟨0, 0, 0, 0, 0⟩⟩
  obtain ⟨f, hf⟩ := choose_lt (α := Ins) (n := xs.length) (p := fun i y => ∃ b o, a = some ⟨b, o, none⟩ ∧ (L ≤ b ∧ b < B) ∧ InsAt w' b (o + i * 5) y) (fun i hi => by
    obtain ⟨b, o, e, hb, hc⟩ := h i hi
    obtain ⟨v, hv⟩ := hc.iw k
    exact ⟨v, b, o, e, hb, hv⟩)
  refine ⟨(List.range xs.length).map f, by simp, fun i hi => ?_⟩
  simp only [List.length_map, List.length_range] at hi
  obtain ⟨b, o, e, hb, hc⟩ := hf i hi
  exact ⟨b, o, e, hb, by simpa using hc⟩
theorem PhAt.iw {b o : Nat} {x : Ph} (h : PhAt w L B b o x) (k : IW L' B' w w') : ∃ y : Ph, y.args.length = x.args.length ∧ PhAt w' L B b o y := by
  obtain ⟨a, c, h0, h1, h2⟩ := h
  obtain ⟨v0, e0⟩ := k.int h0
  obtain ⟨ys, hl, h3⟩ := h2.iw k
  exact ⟨⟨v0, ys⟩, hl, a, c, e0, by rw [hl]; exact k.slice h1, h3⟩
theorem PhsAt.iw {xs : List Ph} (h : PhsAt w L B a xs) (k : IW L' B' w w') : ∃ ys : List Ph, ys.map (fun p => p.args.length) = xs.map (fun p => p.args.length) ∧ PhsAt w' L B a ys := by
  haveI : Inhabited Ph := ⟨⟨0, []⟩⟩
  obtain ⟨f, hf⟩ := choose_lt (α := Ph) (n := xs.length) (p := fun i y => (∀ hi : i < xs.length, y.args.length = xs[i].args.length) ∧ ∃ b o, a = some ⟨b, o, none⟩ ∧ (L ≤ b ∧ b < B) ∧ PhAt w' L B b (o + i * 2) y) (fun i hi => by
    obtain ⟨b, o, e, hb, hc⟩ := h i hi
    obtain ⟨v, hl, hv⟩ := hc.iw k
    exact ⟨v, fun _ => hl, b, o, e, hb, hv⟩)
  refine ⟨(List.range xs.length).map f, ?_, fun i hi => ?_⟩
  · refine List.ext_getElem (by simp) (fun i h1 h2 => ?_)
    simp only [List.length_map, List.length_range] at h1
    simp only [List.getElem_map, List.getElem_range]
    exact (hf i h1).1 h1
  · simp only [List.length_map, List.length_range] at hi
    obtain ⟨_, b, o, e, hb, hc⟩ := hf i hi
    exact ⟨b, o, e, hb, by simpa using hc⟩
/-- The lengths of a block's lists. -/
def Blk.sh (x : Blk) : List Nat × Nat := (x.phis.map (fun p => p.args.length), x.instrs.length)
theorem BlkAt.iw {b o : Nat} {x : Blk} (h : BlkAt w L B b o x) (k : IW L' B' w w') : ∃ y : Blk, y.sh = x.sh ∧ BlkAt w' L B b o y := by
  obtain ⟨pa, pc, ia, ic, h0, h1, h2, h3, h4⟩ := h
  obtain ⟨t, ht⟩ := h2.iw k
  obtain ⟨ps, hp1, hp2⟩ := h3.iw k
  obtain ⟨is, hi1, hi2⟩ := h4.iw k
  have hpl : ps.length = x.phis.length := by have := congrArg List.length hp1; simpa using this
  exact ⟨⟨ps, is, t⟩, by simp only [Blk.sh, hp1, hi1], pa, pc, ia, ic, by rw [hpl]; exact k.slice h0, by rw [hi1]; exact k.slice h1, ht, hp2, hi2⟩
theorem BlksAt.iw {xs : List Blk} (h : BlksAt w L B a xs) (k : IW L' B' w w') : ∃ ys : List Blk, ys.map Blk.sh = xs.map Blk.sh ∧ BlksAt w' L B a ys := by
  haveI : Inhabited Blk := ⟨⟨[], [], ⟨0, 0, 0, 0⟩⟩⟩
  obtain ⟨f, hf⟩ := choose_lt (α := Blk) (n := xs.length) (p := fun i y => (∀ hi : i < xs.length, y.sh = xs[i].sh) ∧ ∃ b o, a = some ⟨b, o, none⟩ ∧ (L ≤ b ∧ b < B) ∧ BlkAt w' L B b (o + i * 6) y) (fun i hi => by
    obtain ⟨b, o, e, hb, hc⟩ := h i hi
    obtain ⟨v, hl, hv⟩ := hc.iw k
    exact ⟨v, fun _ => hl, b, o, e, hb, hv⟩)
  refine ⟨(List.range xs.length).map f, ?_, fun i hi => ?_⟩
  · refine List.ext_getElem (by simp) (fun i h1 h2 => ?_)
    simp only [List.length_map, List.length_range] at h1
    simp only [List.getElem_map, List.getElem_range]
    exact (hf i h1).1 h1
  · simp only [List.length_map, List.length_range] at hi
    obtain ⟨_, b, o, e, hb, hc⟩ := hf i hi
    exact ⟨b, o, e, hb, by simpa using hc⟩
end Go.Proofs.YtlmaodcddbkllaaDoor

/-
  Values and bytes that lie in one row. Imports nothing of the program.
-/
namespace Go.Proofs.YtlmaodcddbkllaaDoor
open Go.RowKit

def bytesV (l : List UInt8) : List Value := l.map fun b => Value.int .u8 (b.toNat : Int)
theorem bytesV_snoc (l : List UInt8) (b : UInt8) : bytesV (l ++ [b]) = bytesV l ++ [Value.int .u8 (b.toNat : Int)] := by simp [bytesV]
theorem bytesV_app (a b : List UInt8) : bytesV (a ++ b) = bytesV a ++ bytesV b := by simp [bytesV]
/-- A slice of values that lie in one row. -/
def ValsAt (w : World) (L B : Nat) (a : Option Addr) (vs : List Value) : Prop := ∀ i (h : i < vs.length), ∃ b o, a = some ⟨b, o, none⟩ ∧ (L ≤ b ∧ b < B) ∧ w.cell? ⟨b, o + i, none⟩ = some vs[i]
theorem ValsAt.keepS {w w' : World} {L B : Nat} {a : Option Addr} {xs : List Value} (h : ValsAt w L B a xs) (k : Same L B w w') : ValsAt w' L B a xs := fun i hi => by
  obtain ⟨b, o, e, hb, hc⟩ := h i hi
  exact ⟨b, o, e, hb, by rw [cell_of (k b hb.1 hb.2)]; exact hc⟩
theorem vals_owned {w : World} {base e : Nat} {v : Value} {n : Nat} {xs : List Value} (h : w.ownsRow base e 1 v n xs) : ∃ a c, v = .slice a xs.length c ∧ ValsAt w base w.heap.size a xs := by
  obtain ⟨hl, h | ⟨g, cap, cur, rfl, hg, hh, hc, _, hs, ht⟩⟩ := h
  · obtain ⟨rfl, rfl⟩ := h
    have : xs = [] := by simpa using hl
    subst this
    exact ⟨_, _, rfl, fun i hi => absurd hi (by simp)⟩
  · simp only [Nat.mul_one] at hl hs ht
    subst hl
    refine ⟨_, _, rfl, fun i hi => ⟨g, 0, rfl, ⟨hg, ?_⟩, ?_⟩⟩
    · rcases Nat.lt_or_ge g w.heap.size with h1 | h1
      · exact h1
      · rw [Array.getElem?_eq_none h1] at hh; cases hh
    · rw [Nat.zero_add, cell_of_row w g i cur e (0, 0) hh, ← Array.getElem?_toList]
      have := congrArg (fun l : List Value => l[i]?) ht
      simp only [List.getElem?_take, hi, if_true] at this
      rw [this, List.getElem?_eq_getElem hi]
theorem ValsAt.lower {w : World} {L L' B : Nat} {a : Option Addr} {vs : List Value} (h : ValsAt w L B a vs) (hl : L' ≤ L) : ValsAt w L' B a vs := fun i hi => by
  obtain ⟨b, o, e, hb, hc⟩ := h i hi
  exact ⟨b, o, e, by omega, hc⟩
theorem vals_lit (w : World) (vs : List Value) (t : TypeId) : ValsAt (w.alloc (.cells vs.toArray t)) w.heap.size (w.heap.size + 1) (some ⟨w.heap.size, 0, none⟩) vs := fun i hi =>
  ⟨_, 0, rfl, ⟨Nat.le_refl _, Nat.lt_succ_self _⟩, by simp [hi]⟩
def BytesAt (w : World) (L B : Nat) (a : Option Addr) (bs : List UInt8) : Prop := ∀ i (h : i < bs.length), ∃ b o, a = some ⟨b, o, none⟩ ∧ (L ≤ b ∧ b < B) ∧ w.cell? ⟨b, o + i, none⟩ = some (.int .u8 (bs[i].toNat : Int))
theorem BytesAt.keepS {w w' : World} {L B : Nat} {a : Option Addr} {xs : List UInt8} (h : BytesAt w L B a xs) (k : Same L B w w') : BytesAt w' L B a xs := fun i hi => by
  obtain ⟨b, o, e, hb, hc⟩ := h i hi
  exact ⟨b, o, e, hb, by rw [cell_of (k b hb.1 hb.2)]; exact hc⟩
theorem BytesAt.keep {w w' : World} {L B : Nat} {a : Option Addr} {xs : List UInt8} (h : BytesAt w L B a xs) (k : Below B w w') : BytesAt w' L B a xs := h.keepS (Same.of_below k)
/-- A row of bytes that a call owns lies in one block, not frozen. -/
theorem bytes_owned {w : World} {base e n : Nat} {v : Value} {bs : List UInt8} (h : w.ownsRow base e 1 v n (bytesV bs)) : ∃ a c L B, v = .slice a bs.length c ∧ BytesAt w L B a bs ∧ ThawB L B w ∧ ((L = 0 ∧ B = 0) ∨ (B = L + 1 ∧ base ≤ L ∧ L < w.heap.size)) := by
  obtain ⟨hl, h0 | ⟨g, cap, cur, rfl, hg, hh, hc, _, hs, ht⟩⟩ := h
  · have : bs = [] := by
      have h2 := h0.2
      subst h2
      simpa [bytesV] using hl
    subst this
    exact ⟨none, 0, 0, 0, h0.1, fun i hi => absurd hi (by simp), fun b o hb => absurd hb (by omega), Or.inl ⟨rfl, rfl⟩⟩
  · have hgl : g < w.heap.size := (Array.getElem?_eq_some_iff.1 hh).1
    have hn : n = bs.length := by simpa [bytesV] using hl.symm
    subst hn
    refine ⟨_, _, g, g + 1, rfl, fun i hi => ⟨g, 0, rfl, ⟨Nat.le_refl _, Nat.lt_succ_self _⟩, ?_⟩, fun b o hb => ?_, Or.inr ⟨rfl, hg, hgl⟩⟩
    · rw [Nat.zero_add, cell_of_row w g i cur e (0, 0) hh, ← Array.getElem?_toList]
      have h3 := congrArg (fun l : List Value => l[i]?) ht
      simp only [List.getElem?_take, Nat.mul_one, hi, if_true] at h3
      rw [h3]
      simp [bytesV, hi]
    · have : b = g := by omega
      subst this
      unfold World.frozen?
      rw [hh]; simp
theorem own_base {w : World} {B B' e s n : Nat} {v : Value} {xs : List Value} (h : w.ownsRow B e s v n xs) (hb : B' ≤ B) : w.ownsRow B' e s v n xs := by
  obtain ⟨hl, h0 | ⟨g, cap, cur, hv, hg, r⟩⟩ := h
  · exact ⟨hl, .inl h0⟩
  · exact ⟨hl, .inr ⟨g, cap, cur, hv, Nat.le_trans hb hg, r⟩⟩
end Go.Proofs.YtlmaodcddbkllaaDoor
