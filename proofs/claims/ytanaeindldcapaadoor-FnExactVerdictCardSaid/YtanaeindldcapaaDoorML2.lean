import Derived.Test.YtanaeindldcapaaDoorMV1
namespace Go.Proofs.YtanaeindldcapaaDoor
open Go.RowKit
section
def rdsM (x : Blk) : List (List Int) := x.instrs.map rdI
def dfsM (x : Blk) : List Int := x.instrs.map defI
theorem IntsP.mono {w : World} {P Q : Nat → Prop} {a : Option Addr} {xs : List Int} (h : IntsP w P a xs) (k : ∀ b, b < w.heap.size → P b → Q b) : IntsP w Q a xs := fun i hi => by
  obtain ⟨b, o, e, hb, hc⟩ := h i hi
  exact ⟨b, o, e, ⟨k b hb.2 hb.1, hb.2⟩, hc⟩
theorem IntsP.keep {w w' : World} {P : Nat → Prop} {a : Option Addr} {xs : List Int} (h : IntsP w P a xs) (k : ∀ b, b < w.heap.size → P b → w'.heap[b]? = w.heap[b]?) (hz : w.heap.size ≤ w'.heap.size) : IntsP w' P a xs := fun i hi => by
  obtain ⟨b, o, e, hb, hc⟩ := h i hi
  exact ⟨b, o, e, ⟨hb.1, Nat.lt_of_lt_of_le hb.2 hz⟩, (cell_of (k b hb.2 hb.1)).trans hc⟩
theorem RowsP.mono {w : World} {P Q : Nat → Prop} {a : Option Addr} {xs : List (List Int)} (h : RowsP w P a xs) (k : ∀ b, b < w.heap.size → P b → Q b) : RowsP w Q a xs := fun i hi => by
  obtain ⟨b, o, e, hb, a', c', hc, h2⟩ := h i hi
  exact ⟨b, o, e, ⟨k b hb.2 hb.1, hb.2⟩, a', c', hc, h2.mono k⟩
theorem RowsP.keep {w w' : World} {P : Nat → Prop} {a : Option Addr} {xs : List (List Int)} (h : RowsP w P a xs) (k : ∀ b, b < w.heap.size → P b → w'.heap[b]? = w.heap[b]?) (hz : w.heap.size ≤ w'.heap.size) : RowsP w' P a xs := fun i hi => by
  obtain ⟨b, o, e, hb, a', c', hc, h2⟩ := h i hi
  exact ⟨b, o, e, ⟨hb.1, Nat.lt_of_lt_of_le hb.2 hz⟩, a', c', (cell_of (k b hb.2 hb.1)).trans hc, h2.keep k hz⟩
theorem IntsP.of_at {w : World} {L B : Nat} {P : Nat → Prop} {a : Option Addr} {xs : List Int} (h : IntsAt w L B a xs) (hB : B ≤ w.heap.size) (k : ∀ b, L ≤ b → b < B → P b) : IntsP w P a xs := fun i hi => by
  obtain ⟨b, o, e, hb, hc⟩ := h i hi
  exact ⟨b, o, e, ⟨k b hb.1 hb.2, by omega⟩, hc⟩
theorem IntsP.at_ {w : World} {P : Nat → Prop} {a : Option Addr} {xs : List Int} (h : IntsP w P a xs) : IntsAt w 0 w.heap.size a xs := fun i hi => by
  obtain ⟨b, o, e, hb, hc⟩ := h i hi
  exact ⟨b, o, e, ⟨Nat.zero_le _, hb.2⟩, hc⟩
/-- The facts of a block, as six slices. -/
structure FaAt (w : World) (P : Nat → Prop) (us : Nat → Value) (x : Blk) (E : List Int) : Prop where
  e0 : ∃ a c, us 0 = .slice a x.term.targets.length c ∧ IntsP w P a x.term.targets
  e1 : ∃ a c, us 1 = .slice a (x.phis.map Ph.dst).length c ∧ IntsP w P a (x.phis.map Ph.dst)
  e2 : ∃ a c, us 2 = .slice a E.length c ∧ IntsP w P a E
  e3 : ∃ a c, us 3 = .slice a (rdsM x).length c ∧ RowsP w P a (rdsM x)
  e4 : ∃ a c, us 4 = .slice a (dfsM x).length c ∧ IntsP w P a (dfsM x)
  e5 : ∃ a c, us 5 = .slice a (rdT x.term).length c ∧ IntsP w P a (rdT x.term)
theorem FaAt.keep {w w' : World} {P : Nat → Prop} {us : Nat → Value} {x : Blk} {E : List Int} (h : FaAt w P us x E) (k : ∀ b, b < w.heap.size → P b → w'.heap[b]? = w.heap[b]?) (hz : w.heap.size ≤ w'.heap.size) : FaAt w' P us x E := by
  obtain ⟨⟨a0, c0, e0, h0⟩, ⟨a1, c1, e1, h1⟩, ⟨a2, c2, e2, h2⟩, ⟨a3, c3, e3, h3⟩, ⟨a4, c4, e4, h4⟩, ⟨a5, c5, e5, h5⟩⟩ := h
  exact ⟨⟨a0, c0, e0, h0.keep k hz⟩, ⟨a1, c1, e1, h1.keep k hz⟩, ⟨a2, c2, e2, h2.keep k hz⟩, ⟨a3, c3, e3, h3.keep k hz⟩, ⟨a4, c4, e4, h4.keep k hz⟩, ⟨a5, c5, e5, h5.keep k hz⟩⟩
theorem FaAt.mono {w : World} {P Q : Nat → Prop} {us : Nat → Value} {x : Blk} {E : List Int} (h : FaAt w P us x E) (k : ∀ b, b < w.heap.size → P b → Q b) : FaAt w Q us x E := by
  obtain ⟨⟨a0, c0, e0, h0⟩, ⟨a1, c1, e1, h1⟩, ⟨a2, c2, e2, h2⟩, ⟨a3, c3, e3, h3⟩, ⟨a4, c4, e4, h4⟩, ⟨a5, c5, e5, h5⟩⟩ := h
  exact ⟨⟨a0, c0, e0, h0.mono k⟩, ⟨a1, c1, e1, h1.mono k⟩, ⟨a2, c2, e2, h2.mono k⟩, ⟨a3, c3, e3, h3.mono k⟩, ⟨a4, c4, e4, h4.mono k⟩, ⟨a5, c5, e5, h5.mono k⟩⟩
/-- The edges of a block, as they are listed. -/
structure EdL (W1 : World) (bx : Nat) (f0 : Nat → Value) (wr : World) (u : Value) (l : List Int) : Prop where
  os : wr.os = W1.os
  tape : wr.tape = W1.tape
  output : wr.output = W1.output
  size : W1.heap.size ≤ wr.heap.size
  fr : ∀ q, q < W1.heap.size → q ≠ bx → wr.heap[q]? = W1.heap[q]?
  box : wr.rowIs bx 81 6 (fun i => if i = 2 then u else f0 i)
  own : wr.ownsRow W1.heap.size 2 1 u l.length (l.map (Value.int .i64))
section
variable {W1 wr w5 w6 : World} {bx : Nat} {f0 : Nat → Value} {u u' : Value} {l qs : List Int}
theorem EdL.start (hb : W1.rowIs bx 81 6 f0) (h2 : f0 2 = .slice none 0 0) : EdL W1 bx f0 W1 (.slice none 0 0) [] :=
  ⟨rfl, rfl, rfl, Nat.le_refl _, fun _ _ _ => rfl, hb.congr (fun i _ => by by_cases e : i = 2 <;> simp [e, h2]), World.ownsRow_nil _ _ _ _⟩
theorem EdL.push (h : EdL W1 bx f0 wr u l) (hx : bx < W1.heap.size) (k5 : Below wr.heap.size wr w5) (hg : w5.grownBy w6 u.ownBlock) (ho : w6.ownsRow W1.heap.size 2 1 u' (l ++ qs).length ((l ++ qs).map (Value.int .i64))) : EdL W1 bx f0 (w6.setCell ⟨bx, 2, none⟩ u') u' (l ++ qs) := by
  have hz := h.size
  have hz5 := k5.size
  have hz6 := hg.size
  have hbl : ∀ q, q < W1.heap.size → w6.heap[q]? = wr.heap[q]? := fun q hq => (hg.block q (by omega) (fun e => by have := (h.own.lt q e.symm).1; omega)).trans (k5.block q (by omega))
  refine ⟨hg.os.trans (k5.os.trans h.os), hg.tape.trans (k5.tape.trans h.tape), hg.output.trans (k5.output.trans h.output), by rw [size_setCell]; omega, fun q h1 h2 => (Below.heap_setCell _ _ _ _ h2).trans ((hbl q h1).trans (h.fr q h1 h2)), ((h.box.of_block (hbl bx hx)).set 2 u').congr (fun i _ => by by_cases e : i = 2 <;> simp [e]), ownsRow_setCell_below ho hx _⟩
theorem EdL.cell (h : EdL W1 bx f0 wr u l) {b o : Nat} {v : Value} (hb : b ≠ bx) (hc : W1.cell? ⟨b, o, none⟩ = some v) : wr.cell? ⟨b, o, none⟩ = some v := (cell_of (h.fr b (World.block_lt_of_cell? W1 _ hc) hb)).trans hc
end
/-- Reads and definitions of a block, as they are listed. -/
structure InL (W2 : World) (bx : Nat) (f0 : Nat → Value) (wr : World) (ur ud : Value) (rs : List Value) (zs : List (List Int)) (ds : List Int) : Prop where
  os : wr.os = W2.os
  tape : wr.tape = W2.tape
  output : wr.output = W2.output
  size : W2.heap.size ≤ wr.heap.size
  fr : ∀ q, q < W2.heap.size → q ≠ bx → wr.heap[q]? = W2.heap[q]?
  box : wr.rowIs bx 81 6 (fun i => if i = 3 then ur else if i = 4 then ud else f0 i)
  ownR : wr.ownsRow W2.heap.size 112 1 ur rs.length rs
  len : rs.length = zs.length
  rows : ∀ i (h : i < zs.length), ∃ a' c', rs[i]? = some (.slice a' zs[i].length c') ∧ IntsP wr (fun b => W2.heap.size ≤ b ∧ some b ≠ ur.ownBlock ∧ some b ≠ ud.ownBlock) a' zs[i]
  ownD : wr.ownsRow W2.heap.size 2 1 ud ds.length (ds.map (Value.int .i64))
  ne : ∀ g, ur.ownBlock = some g → ud.ownBlock ≠ some g
section
variable {W2 wr w5 w6 : World} {bx : Nat} {f0 : Nat → Value} {ur ud ur' ud' : Value} {rs : List Value} {zs : List (List Int)} {ds : List Int}
theorem InL.start (hb : W2.rowIs bx 81 6 f0) (h3 : f0 3 = .slice none 0 0) (h4 : f0 4 = .slice none 0 0) : InL W2 bx f0 W2 (.slice none 0 0) (.slice none 0 0) [] [] [] :=
  ⟨rfl, rfl, rfl, Nat.le_refl _, fun _ _ _ => rfl, hb.congr (fun i _ => by by_cases e : i = 3 <;> by_cases e2 : i = 4 <;> simp [e, e2, h3, h4]), World.ownsRow_nil _ _ _ _, rfl, fun i h => absurd h (by simp), World.ownsRow_nil _ _ _ _, fun g e => by cases e⟩
theorem InL.below (h : InL W2 bx f0 wr ur ud rs zs ds) (k : Below wr.heap.size wr w5) : InL W2 bx f0 w5 ur ud rs zs ds := by
  have hz := h.size
  refine ⟨k.os.trans h.os, k.tape.trans h.tape, k.output.trans h.output, Nat.le_trans hz k.size, fun q h1 h2 => (k.block q (by omega)).trans (h.fr q h1 h2), h.box.of_block (k.block _ h.box.lt), own_block h.ownR (fun g e => k.block g (h.ownR.lt g e).2), h.len, fun i hi => ?_, own_block h.ownD (fun g e => k.block g (h.ownD.lt g e).2), h.ne⟩
  obtain ⟨a', c', e, hp⟩ := h.rows i hi
  exact ⟨a', c', e, hp.keep (fun b hb _ => k.block b hb) k.size⟩
theorem InL.pushR {a5 : Option Addr} {c5 : Nat} {ys : List Int} (h : InL W2 bx f0 wr ur ud rs zs ds) (hx : bx < W2.heap.size) {B0 : Nat} (hB0 : W2.heap.size ≤ B0) (hB1 : ∀ g, ur.ownBlock = some g → g < B0) (hB2 : ∀ g, ud.ownBlock = some g → g < B0) (hi5 : IntsAt wr B0 wr.heap.size a5 ys) (hg : wr.grownBy w6 ur.ownBlock) (ho : w6.ownsRow W2.heap.size 112 1 ur' (rs.length + 1) (rs ++ [.slice a5 ys.length c5])) (hat : ur'.ownBlock = ur.ownBlock ∨ ur'.ownBlock = some wr.heap.size) :
    InL W2 bx f0 (w6.setCell ⟨bx, 3, none⟩ ur') ur' ud (rs ++ [.slice a5 ys.length c5]) (zs ++ [ys]) ds := by
  have hz := h.size
  have hz6 := hg.size
  have hnb : ∀ q, q < W2.heap.size → some q ≠ ur.ownBlock := fun q hq e => by have := (h.ownR.lt q e.symm).1; omega
  have hnew : ∀ b, b < wr.heap.size → some b ≠ ur.ownBlock → some b ≠ ur'.ownBlock := fun b hb h1 e => by
    rcases hat with k | k
    · exact h1 (by rw [← k]; exact e)
    · rw [k] at e; injection e with e; omega
  have keep : ∀ b, b < wr.heap.size → b ≠ bx → some b ≠ ur.ownBlock → (w6.setCell ⟨bx, 3, none⟩ ur').heap[b]? = wr.heap[b]? := fun b h1 h2 h3 => (Below.heap_setCell _ _ _ _ h2).trans (hg.block b h1 h3)
  refine ⟨hg.os.trans h.os, hg.tape.trans h.tape, hg.output.trans h.output, by rw [size_setCell]; omega, fun q h1 h2 => (keep q (by omega) h2 (hnb q h1)).trans (h.fr q h1 h2), ((h.box.of_block (hg.block bx (by omega) (hnb _ hx))).set 3 ur').congr (fun i _ => by by_cases e : i = 3 <;> simp [e]), ?_, by simp [h.len], fun i hi => ?_, ?_, fun g e => ?_⟩
  · rw [List.length_append]
    exact ownsRow_setCell_below ho hx _
  · by_cases e : i < zs.length
    · obtain ⟨a', c', e1, hp⟩ := h.rows i e
      refine ⟨a', c', ?_, ?_⟩
      · rw [List.getElem?_append_left (by rw [h.len]; exact e), List.getElem_append_left e]; exact e1
      · rw [List.getElem_append_left e]
        refine (hp.mono (Q := fun b => W2.heap.size ≤ b ∧ some b ≠ ur.ownBlock ∧ some b ≠ ur'.ownBlock ∧ some b ≠ ud.ownBlock) (fun b hb q => ⟨q.1, q.2.1, hnew b hb q.2.1, q.2.2⟩)).keep (fun b hb q => keep b hb (by omega) q.2.1) (by rw [size_setCell]; omega) |>.mono (fun b _ q => ⟨q.1, q.2.2.1, q.2.2.2⟩)
    · have e' : i = zs.length := by simp at hi; omega
      subst e'
      refine ⟨a5, c5, ?_, ?_⟩
      · rw [List.getElem?_append_right (by rw [h.len]; exact Nat.le_refl _), h.len]; simp
      · rw [List.getElem_append_right (Nat.le_refl _)]
        simp only [Nat.sub_self, List.getElem_cons_zero]
        have hp : IntsP wr (fun b => B0 ≤ b) a5 ys := IntsP.of_at hi5 (Nat.le_refl _) (fun b h1 _ => h1)
        have hp2 := hp.mono (Q := fun b => W2.heap.size ≤ b ∧ some b ≠ ur'.ownBlock ∧ some b ≠ ud.ownBlock ∧ some b ≠ ur.ownBlock) (fun b hb q => ⟨by omega, hnew b hb (fun e => by have := hB1 b e.symm; omega), fun e => by have := hB2 b e.symm; omega, fun e => by have := hB1 b e.symm; omega⟩)
        exact (hp2.keep (w' := w6.setCell ⟨bx, 3, none⟩ ur') (fun b hb q => keep b hb (by omega) q.2.2.2) (by rw [size_setCell]; omega)).mono (fun b _ q => ⟨q.1, q.2.1, q.2.2.1⟩)
  · refine own_block h.ownD (fun g e => keep g (h.ownD.lt g e).2 (by have := (h.ownD.lt g e).1; omega) (fun e2 => h.ne g e2.symm e))
  · rcases hat with k | k
    · rw [k] at e; exact h.ne g e
    · rw [k] at e
      injection e with e
      intro e2
      have := (h.ownD.lt g e2).2
      omega
theorem InL.pushD {x : Int} (h : InL W2 bx f0 wr ur ud rs zs ds) (hx : bx < W2.heap.size) (hg : wr.grownBy w6 ud.ownBlock) (ho : w6.ownsRow W2.heap.size 2 1 ud' (ds.length + 1) (ds.map (Value.int .i64) ++ [.int .i64 x])) (hat : ud'.ownBlock = ud.ownBlock ∨ ud'.ownBlock = some wr.heap.size) :
    InL W2 bx f0 (w6.setCell ⟨bx, 4, none⟩ ud') ur ud' rs zs (ds ++ [x]) := by
  have hz := h.size
  have hz6 := hg.size
  have hnb : ∀ q, q < W2.heap.size → some q ≠ ud.ownBlock := fun q hq e => by have := (h.ownD.lt q e.symm).1; omega
  have hnew : ∀ b, b < wr.heap.size → some b ≠ ud.ownBlock → some b ≠ ud'.ownBlock := fun b hb h1 e => by
    rcases hat with k | k
    · exact h1 (by rw [← k]; exact e)
    · rw [k] at e; injection e with e; omega
  have keep : ∀ b, b < wr.heap.size → b ≠ bx → some b ≠ ud.ownBlock → (w6.setCell ⟨bx, 4, none⟩ ud').heap[b]? = wr.heap[b]? := fun b h1 h2 h3 => (Below.heap_setCell _ _ _ _ h2).trans (hg.block b h1 h3)
  refine ⟨hg.os.trans h.os, hg.tape.trans h.tape, hg.output.trans h.output, by rw [size_setCell]; omega, fun q h1 h2 => (keep q (by omega) h2 (hnb q h1)).trans (h.fr q h1 h2), ((h.box.of_block (hg.block bx (by omega) (hnb _ hx))).set 4 ud').congr (fun i _ => by by_cases e : i = 4 <;> simp [e]), own_block h.ownR (fun g e => keep g (h.ownR.lt g e).2 (by have := (h.ownR.lt g e).1; omega) (fun e2 => h.ne g e e2.symm)), h.len, fun i hi => ?_, ?_, fun g e e2 => ?_⟩
  · obtain ⟨a', c', e1, hp⟩ := h.rows i hi
    refine ⟨a', c', e1, ?_⟩
    have hp2 := hp.mono (Q := fun b => W2.heap.size ≤ b ∧ some b ≠ ur.ownBlock ∧ some b ≠ ud'.ownBlock ∧ some b ≠ ud.ownBlock) (fun b hb q => ⟨q.1, q.2.1, hnew b hb q.2.2, q.2.2⟩)
    exact (hp2.keep (w' := w6.setCell ⟨bx, 4, none⟩ ud') (fun b hb q => keep b hb (by omega) q.2.2.2) (by rw [size_setCell]; omega)).mono (fun b _ q => ⟨q.1, q.2.1, q.2.2.1⟩)
  · rw [ints_snoc, List.length_append]
    exact ownsRow_setCell_below ho hx _
  · have hl := (h.ownR.lt g e).2
    exact hnew g hl (fun e3 => h.ne g e e3.symm) e2.symm
theorem InL.fin (h : InL W2 bx f0 wr ur ud rs zs ds) : (∃ a c, ur = .slice a zs.length c ∧ RowsP wr (fun b => W2.heap.size ≤ b) a zs) ∧ ∃ a c, ud = .slice a ds.length c ∧ IntsP wr (fun b => W2.heap.size ≤ b) a ds := by
  refine ⟨?_, ?_⟩
  · rcases own_form h.ownR with ⟨e1, e2, _⟩ | ⟨g, c, e1, hg, _⟩
    · have hz : zs.length = 0 := by rw [← h.len]; exact e2
      exact ⟨none, 0, by rw [e1, hz], fun i hi => absurd hi (by omega)⟩
    · refine ⟨_, c, by rw [e1, h.len], fun i hi => ?_⟩
      obtain ⟨a', c', e3, hp⟩ := h.rows i hi
      refine ⟨g, 0, rfl, hg, a', c', ?_, hp.mono (fun b _ q => q.1)⟩
      have := h.ownR.cells (g := g) (by rw [e1]; rfl) i _ e3
      rw [Nat.zero_add]
      by_cases e4 : i = 0
      · subst e4; simpa [Addr.add] using this
      · simpa [Addr.add, e4] using this
  · obtain ⟨a, c, e, hi⟩ := ints_owned h.ownD
    exact ⟨a, c, e, IntsP.of_at hi (Nat.le_refl _) (fun b h1 _ => h1)⟩
end
theorem addr_add (g m : Nat) : (⟨g, 0, none⟩ : Addr).add m = ⟨g, m, none⟩ := by by_cases e : m = 0 <;> simp [Addr.add, e]
/-- The list, as far as it is made. -/
structure LsI (w : World) (V : Nat) (a : Option Addr) (n c : Nat) (xs : List Blk) (wr : World) (u : Value) (k : Nat) (cs : List Value) : Prop where
  low : Below w.heap.size w wr
  sz : w.heap.size + 2 ≤ wr.heap.size
  f0 : wr.cell? ⟨w.heap.size, 0, none⟩ = some (.int .i64 (V : Int))
  f1 : wr.cell? ⟨w.heap.size, 1, none⟩ = some (.slice a n c)
  own : wr.ownsRow (w.heap.size + 1) 81 6 u k cs
  fa : ∀ i (h : i < xs.length), i < k → FaAt wr (fun b => w.heap.size + 2 ≤ b ∧ some b ≠ u.ownBlock) (fun j => cs.getD (i * 6 + j) (.slice none 0 0)) xs[i] (edgesM xs i)
theorem LsI.next {w : World} {V : Nat} {a : Option Addr} {n c : Nat} {xs : List Blk} {wr W3 w4 : World} {u u' : Value} {k : Nat} {cs : List Value} {f : Nat → Value} (h : LsI w V a n c xs wr u k cs) (hkx : k < xs.length) (k3 : Below wr.heap.size wr W3) (hf : FaAt W3 (fun b => wr.heap.size ≤ b) f xs[k] (edgesM xs k)) (hg : W3.grownBy w4 u.ownBlock) (ho : w4.ownsRow (w.heap.size + 1) 81 6 u' (k + 1) (cs ++ [f 0, f 1, f 2, f 3, f 4, f 5])) (hat : u'.ownBlock = u.ownBlock ∨ u'.ownBlock = some W3.heap.size) :
    LsI w V a n c xs w4 u' (k + 1) (cs ++ [f 0, f 1, f 2, f 3, f 4, f 5]) := by
  have hz := h.sz
  have hz3 := k3.size
  have hz4 := hg.size
  have hwz := h.low.size
  have hul : ∀ g, u.ownBlock = some g → w.heap.size + 1 ≤ g ∧ g < wr.heap.size := fun g e => h.own.lt g e
  have hcl : cs.length = k * 6 := h.own.1
  have lo : ∀ q, q ≤ w.heap.size → w4.heap[q]? = wr.heap[q]? := fun q hq => (hg.block q (by omega) (fun e => by have := hul q e.symm; omega)).trans (k3.block q (by omega))
  refine ⟨⟨hg.os.trans (k3.os.trans h.low.os), hg.tape.trans (k3.tape.trans h.low.tape), hg.output.trans (k3.output.trans h.low.output), by omega, fun q hq => (lo q (by omega)).trans (h.low.block q hq)⟩, by omega, (cell_of (lo _ (Nat.le_refl _))).trans h.f0, (cell_of (lo _ (Nat.le_refl _))).trans h.f1, ho, fun i hi hik => ?_⟩
  have hnew : ∀ b, b < W3.heap.size → some b ≠ u.ownBlock → some b ≠ u'.ownBlock := fun b hb h1 e => by
    rcases hat with q | q
    · exact h1 (by rw [← q]; exact e)
    · rw [q] at e; injection e with e; omega
  by_cases e : i = k
  · subst e
    have h2 := hf.mono (Q := fun b => (w.heap.size + 2 ≤ b ∧ some b ≠ u'.ownBlock) ∧ some b ≠ u.ownBlock) (fun b hb q => ⟨⟨by omega, hnew b hb (fun e => by have := hul b e.symm; omega)⟩, fun e => by have := hul b e.symm; omega⟩)
    have h3 := (h2.keep (w' := w4) (fun b hb q => hg.block b hb q.2) hz4).mono (Q := fun b => w.heap.size + 2 ≤ b ∧ some b ≠ u'.ownBlock) (fun b _ q => q.1)
    have eg : ∀ j, j < 6 → (cs ++ [f 0, f 1, f 2, f 3, f 4, f 5]).getD (i * 6 + j) (.slice none 0 0) = f j := fun j hj => by
      rw [List.getD_eq_getElem?_getD, List.getElem?_append_right (by omega), hcl, Nat.add_sub_cancel_left]
      match j, hj with
      | 0, _ => rfl
      | 1, _ => rfl
      | 2, _ => rfl
      | 3, _ => rfl
      | 4, _ => rfl
      | 5, _ => rfl
    obtain ⟨h0, h1, h2', h3', h4, h5⟩ := h3
    exact ⟨by rw [eg 0 (by decide)]; exact h0, by rw [eg 1 (by decide)]; exact h1, by rw [eg 2 (by decide)]; exact h2', by rw [eg 3 (by decide)]; exact h3', by rw [eg 4 (by decide)]; exact h4, by rw [eg 5 (by decide)]; exact h5⟩
  · have h1 := h.fa i hi (by omega)
    have h2 := h1.keep (w' := W3) (fun b hb _ => k3.block b hb) hz3
    have h2b := h2.mono (Q := fun b => (w.heap.size + 2 ≤ b ∧ some b ≠ u'.ownBlock) ∧ some b ≠ u.ownBlock) (fun b hb q => ⟨⟨q.1, hnew b hb q.2⟩, q.2⟩)
    have h3 := (h2b.keep (w' := w4) (fun b hb q => hg.block b hb q.2) hz4).mono (Q := fun b => w.heap.size + 2 ≤ b ∧ some b ≠ u'.ownBlock) (fun b _ q => q.1)
    have eg : ∀ j, j < 6 → (cs ++ [f 0, f 1, f 2, f 3, f 4, f 5]).getD (i * 6 + j) (.slice none 0 0) = cs.getD (i * 6 + j) (.slice none 0 0) := fun j hj => by
      rw [List.getD_eq_getElem?_getD, List.getD_eq_getElem?_getD, List.getElem?_append_left (by omega)]
    obtain ⟨h0, h1', h2', h3', h4, h5⟩ := h3
    exact ⟨by rw [eg 0 (by decide)]; exact h0, by rw [eg 1 (by decide)]; exact h1', by rw [eg 2 (by decide)]; exact h2', by rw [eg 3 (by decide)]; exact h3', by rw [eg 4 (by decide)]; exact h4, by rw [eg 5 (by decide)]; exact h5⟩
theorem ints_nw {w : World} {L B : Nat} {ad : Addr} {xs : List Int} (h : IntsAt w L B (some ad) xs) : ∀ (j : Nat) (u : Value), (xs.map (Value.int .i64))[j]? = some u → w.cell? (ad.add j) = some u := fun j u hj => by
  have hl : j < xs.length := by have := (List.getElem?_eq_some_iff.1 hj).1; simpa using this
  obtain ⟨b, o, e, _, hc⟩ := h j hl
  injection e with e
  subst e
  have hu : Value.int .i64 xs[j] = u := by simpa [hl] using hj
  rw [← hu, ← hc]
  by_cases e : j = 0 <;> simp [Addr.add, e]
theorem edgeU_len {V : Nat} {xs : List Blk} (ho : OkL V xs) (p t : Int) : (edgeU xs p t).length ≤ 4000000 := by
  unfold edgeU
  split
  · simp
  · rename_i x hx
    split
    · simp
    · have h1 := edP_len (predsFrom xs 0 t) x.phis p (predsFrom xs 0 t).length
      have h2 := predsFrom_len t xs 0
      have h3 := ho.okf.n2
      have h4 := (ho.lens x (List.mem_of_getElem? hx)).2
      exact Nat.le_trans h1 (Nat.le_trans (Nat.mul_le_mul (show (predsFrom xs 0 t).length ≤ 1000 by omega) h4) (by decide))
theorem flat_len {V : Nat} {xs : List Blk} (ho : OkL V xs) (p : Int) : ∀ l : List Int, (l.flatMap (edgeU xs p)).length ≤ l.length * 4000000
  | [] => by simp
  | t :: l => by
    have h1 := flat_len ho p l
    have h2 := edgeU_len ho p t
    rw [List.flatMap_cons, List.length_append, List.length_cons]
    omega
theorem flat_take {xs : List Blk} {p : Int} {l : List Int} {j : Nat} (h : j < l.length) : (l.take (j + 1)).flatMap (edgeU xs p) = (l.take j).flatMap (edgeU xs p) ++ edgeU xs p l[j] := by
  rw [List.take_succ_eq_append_getElem h, List.flatMap_append]
  simp
/-- Behind x := l2Facts{..}. -/
structure FcA (wr Y : World) (bx : Nat) (X : Blk) (f0 : Nat → Value) : Prop where
  low : Below wr.heap.size wr Y
  b1 : wr.heap.size ≤ bx
  box : Y.rowIs bx 81 6 f0
  n2 : f0 2 = .slice none 0 0
  n3 : f0 3 = .slice none 0 0
  n4 : f0 4 = .slice none 0 0
  e0 : ∃ a c, f0 0 = .slice a X.term.targets.length c ∧ IntsP Y (fun b => wr.heap.size ≤ b ∧ b ≠ bx) a X.term.targets
  e1 : ∃ a c, f0 1 = .slice a X.phis.length c ∧ IntsP Y (fun b => wr.heap.size ≤ b ∧ b ≠ bx) a (X.phis.map Ph.dst)
  e5 : ∃ a c, f0 5 = .slice a (rdT X.term).length c ∧ IntsP Y (fun b => wr.heap.size ≤ b ∧ b ≠ bx) a (rdT X.term)
def boxF (vT vP vR : Value) (i : Nat) : Value := if i = 0 then vT else if i = 1 then vP else if i = 5 then vR else .slice none 0 0
/-- What is new while the facts of a block are gathered: the box (o), the rows of numbers. -/
structure FcD (u W : World) (o : Option Nat) (I : List (Option Addr × List Int)) : Prop where
  s : Below u.heap.size u W
  bx : ∀ b, o = some b → W.rowIs b 81 6 (fun _ => .slice none 0 0) ∧ u.heap.size ≤ b
  il : ∀ x ∈ I, IntsP W (fun b => u.heap.size ≤ b ∧ o ≠ some b) x.1 x.2
theorem FcD.next {u W W' : World} {o : Option Nat} {I : List (Option Addr × List Int)} (h : FcD u W o I) (k : Below W.heap.size W W') : FcD u W' o I :=
  ⟨bnext h.s k, fun b e => ⟨(h.bx b e).1.of_block (k.block _ (h.bx b e).1.lt), (h.bx b e).2⟩, fun x hx => (h.il x hx).keep (fun b hb _ => k.block b hb) k.size⟩
theorem FcD.add {u W W' : World} {o : Option Nat} {I : List (Option Addr × List Int)} {a : Option Addr} {xs : List Int} (h : FcD u W o I) (k : Below W.heap.size W W') (i : IntsAt W' W.heap.size W'.heap.size a xs) : FcD u W' o ((a, xs) :: I) := by
  refine ⟨(h.next k).s, (h.next k).bx, fun x hx => ?_⟩
  rcases List.mem_cons.1 hx with rfl | hx
  · exact IntsP.of_at i (Nat.le_refl _) (fun b h1 _ => ⟨Nat.le_trans h.s.size h1, fun e => by have := (h.bx b e).1.lt; omega⟩)
  · exact (h.next k).il x hx
theorem FcD.box {u W : World} {I : List (Option Addr × List Int)} (h : FcD u W none I) : ∃ mb, mb = W.heap.size ∧ FcD u (W.alloc (.cells #[.slice none 0 0, .slice none 0 0, .slice none 0 0, .slice none 0 0, .slice none 0 0, .slice none 0 0] 81)) (some mb) I := by
  refine ⟨_, rfl, balloc h.s _, fun b e => ?_, fun x hx => ((h.il x hx).mono (fun b h1 h2 => ⟨h2.1, fun e => by cases e; omega⟩)).keep (fun b hb _ => Below.heap_alloc _ _ _ hb) (by simp)⟩
  cases e
  exact ⟨World.rowIs_alloc _ _ _ _ (fun i hi => by match i, hi with | 0, _ => rfl | 1, _ => rfl | 2, _ => rfl | 3, _ => rfl | 4, _ => rfl | 5, _ => rfl), h.s.size⟩
theorem fcA_of {wr Z : World} {bx : Nat} {X : Blk} {aT aP aR : Option Addr} {cT cP cR : Nat} (h : FcD wr Z (some bx) [(aR, rdT X.term), (aP, X.phis.map Ph.dst), (aT, X.term.targets)]) :
    FcA wr ((((((Z.setCell ⟨bx, 0, none⟩ (.slice aT X.term.targets.length cT)).setCell ⟨bx, 1, none⟩ (.slice aP X.phis.length cP)).setCell ⟨bx, 2, none⟩ (.slice none 0 0)).setCell ⟨bx, 3, none⟩ (.slice none 0 0)).setCell ⟨bx, 4, none⟩ (.slice none 0 0)).setCell ⟨bx, 5, none⟩ (.slice aR (rdT X.term).length cR)) bx X (boxF (.slice aT X.term.targets.length cT) (.slice aP X.phis.length cP) (.slice aR (rdT X.term).length cR)) := by
  obtain ⟨BX, b1⟩ := h.bx bx rfl
  have st : ∀ {W : World} {a : Option Addr} {xs : List Int} (i : Nat) (v : Value), IntsP W (fun b => wr.heap.size ≤ b ∧ b ≠ bx) a xs → IntsP (W.setCell ⟨bx, i, none⟩ v) (fun b => wr.heap.size ≤ b ∧ b ≠ bx) a xs := fun i v k => k.keep (fun b _ q => Below.heap_setCell _ _ _ _ q.2) (by simp)
  have six : ∀ x ∈ [(aR, rdT X.term), (aP, X.phis.map Ph.dst), (aT, X.term.targets)], ∀ v0 v1 v2 v3 v4 v5, _ := fun x hx v0 v1 v2 v3 v4 v5 => st 5 v5 (st 4 v4 (st 3 v3 (st 2 v2 (st 1 v1 (st 0 v0 ((h.il x hx).mono (fun b _ q => ⟨q.1, fun e => q.2 (by rw [e])⟩)))))))
  refine ⟨((((((h.s.setCell b1 _).setCell b1 _).setCell b1 _).setCell b1 _).setCell b1 _).setCell b1 _), b1, ((((((BX.set 0 _).set 1 _).set 2 _).set 3 _).set 4 _).set 5 _).congr (fun i hi => ?_), rfl, rfl, rfl, ⟨aT, cT, rfl, six (aT, X.term.targets) (by simp) _ _ _ _ _ _⟩, ⟨aP, cP, rfl, six (aP, X.phis.map Ph.dst) (by simp) _ _ _ _ _ _⟩, ⟨aR, cR, rfl, six (aR, rdT X.term) (by simp) _ _ _ _ _ _⟩⟩
  unfold boxF
  match i, hi with
  | 0, _ => rfl
  | 1, _ => rfl
  | 2, _ => rfl
  | 3, _ => rfl
  | 4, _ => rfl
  | 5, _ => rfl
def boxG (v0 v1 v2 v3 v4 v5 : Value) : Nat → Value
  | 0 => v0
  | 1 => v1
  | 2 => v2
  | 3 => v3
  | 4 => v4
  | _ => v5
/-- The facts of all blocks in memory. -/
def FactsAt (w : World) (a : Option Addr) (xs : List Blk) : Prop := ∀ i (h : i < xs.length), ∃ b o us, a = some ⟨b, o, none⟩ ∧ b < w.heap.size ∧ (∀ j, j < 6 → w.cell? ⟨b, o + i * 6 + j, none⟩ = some (us j)) ∧ FaAt w (fun _ => True) us xs[i] (edgesM xs i)
theorem FactsAt.keep {w w' : World} {a : Option Addr} {xs : List Blk} (h : FactsAt w a xs) (k : Below w.heap.size w w') : FactsAt w' a xs := fun i hi => by
  obtain ⟨b, o, us, e, hb, hc, hf⟩ := h i hi
  exact ⟨b, o, us, e, Nat.lt_of_lt_of_le hb k.size, fun j hj => (cell_of (k.block b hb)).trans (hc j hj), hf.keep (fun q hq _ => k.block q hq) k.size⟩
/-- The same, behind all that lay before. -/
def FactsFr (w : World) (base : Nat) (a : Option Addr) (xs : List Blk) : Prop := ∀ i (h : i < xs.length), ∃ b o us, a = some ⟨b, o, none⟩ ∧ (base ≤ b ∧ b < w.heap.size) ∧ (∀ j, j < 6 → w.cell? ⟨b, o + i * 6 + j, none⟩ = some (us j)) ∧ FaAt w (fun q => base ≤ q) us xs[i] (edgesM xs i)
theorem FactsFr.at_ {w : World} {base : Nat} {a : Option Addr} {xs : List Blk} (h : FactsFr w base a xs) : FactsAt w a xs := fun i hi => by
  obtain ⟨b, o, us, e, hb, hc, hf⟩ := h i hi
  exact ⟨b, o, us, e, hb.2, hc, hf.mono (fun _ _ _ => trivial)⟩
theorem FactsFr.keep {w w' : World} {base : Nat} {a : Option Addr} {xs : List Blk} (h : FactsFr w base a xs) (k : ∀ q, base ≤ q → q < w.heap.size → w'.heap[q]? = w.heap[q]?) (hz : w.heap.size ≤ w'.heap.size) : FactsFr w' base a xs := fun i hi => by
  obtain ⟨b, o, us, e, hb, hc, hf⟩ := h i hi
  exact ⟨b, o, us, e, ⟨hb.1, Nat.lt_of_lt_of_le hb.2 hz⟩, fun j hj => (cell_of (k b hb.1 hb.2)).trans (hc j hj), hf.keep (fun q hq hP => k q hP hq) hz⟩
theorem LsI.fin {w : World} {V : Nat} {a : Option Addr} {n c : Nat} {xs : List Blk} {wr : World} {u : Value} {cs : List Value} (h : LsI w V a n c xs wr u xs.length cs) : ∃ a' c', u = .slice a' xs.length c' ∧ FactsFr wr w.heap.size a' xs := by
  rcases own_form h.own with ⟨e1, e2, _⟩ | ⟨g, c', e1, hg, _⟩
  · exact ⟨none, 0, by rw [e1, e2], fun i hi => absurd hi (by omega)⟩
  · have hcl : cs.length = xs.length * 6 := h.own.1
    refine ⟨_, c', e1, fun i hi => ⟨g, 0, fun j => cs.getD (i * 6 + j) (.slice none 0 0), rfl, ⟨by have := hg.1; omega, hg.2⟩, fun j hj => ?_, (h.fa i hi hi).mono (fun q _ hq => by have := hq.1; omega)⟩⟩
    have hlt : i * 6 + j < cs.length := by omega
    have := h.own.cells (g := g) (by rw [e1]; rfl) (i * 6 + j) (cs[i * 6 + j]) (List.getElem?_eq_getElem hlt)
    show wr.cell? ⟨g, 0 + i * 6 + j, none⟩ = some (cs.getD (i * 6 + j) (.slice none 0 0))
    rw [Nat.zero_add, List.getD_eq_getElem?_getD, List.getElem?_eq_getElem hlt]
    rw [addr_add] at this
    exact this
end
end Go.Proofs.YtanaeindldcapaaDoor
