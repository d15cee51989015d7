import Derived.Test.YtanaeindldcapaaDoorFI2
namespace Go.Proofs.YtanaeindldcapaaDoor
open Go.RowKit Go.Shelf
/-- m, l, q: the rows that are made so far (the sets in, the box, the sets that the phis ask for). -/
structure FvS (w w1 X : World) (V : Nat) (a : Option Addr) (n c Kw : Nat) (xs : List Blk) (m l : Option Nat) (q : Option (Nat × (Nat → Nat) × (Nat → Nat → Nat))) : Prop where
  low : Below w1.heap.size w1 X
  f0 : w1.cell? ⟨w.heap.size, 0, none⟩ = some (.int .i64 (V : Int))
  f1 : w1.cell? ⟨w.heap.size, 1, none⟩ = some (.slice a n c)
  lt : w.heap.size < w1.heap.size
  mr : ∀ g, m = some g → X.rowIs g 46 n (fun _ => .slice none 0 0) ∧ w1.heap.size ≤ g
  lb : ∀ g, l = some g → X.rowIs g 49 2 (fun _ => .slice none 0 0) ∧ w1.heap.size ≤ g
  ca : ∀ r, q = some r → SetsAv X r.1 n Kw r.2.1 (fun _ => Kw) r.2.2 ∧ AllWd r.2.2 ∧ (∀ b, b < n → ∀ v, hasN (r.2.2 b) v = true ↔ (b, v) ∈ phE xs n) ∧ w1.heap.size ≤ r.1 ∧ ∀ i, i < n → w1.heap.size ≤ r.2.1 i
  d1 : ∀ g h, m = some g → l = some h → g ≠ h
  d2 : ∀ g r, m = some g → q = some r → g ≠ r.1 ∧ ∀ i, i < n → r.2.1 i ≠ g
  d3 : ∀ g r, l = some g → q = some r → g ≠ r.1 ∧ ∀ i, i < n → r.2.1 i ≠ g
theorem FvS.next {w w1 X Y : World} {V : Nat} {a : Option Addr} {n c Kw : Nat} {xs : List Blk} {m l : Option Nat} {q : Option (Nat × (Nat → Nat) × (Nat → Nat → Nat))} (h : FvS w w1 X V a n c Kw xs m l q) (k : Below X.heap.size X Y) : FvS w w1 Y V a n c Kw xs m l q :=
  ⟨bnext h.low k, h.f0, h.f1, h.lt, fun g e => ⟨(h.mr g e).1.of_block (k.block _ (h.mr g e).1.lt), (h.mr g e).2⟩, fun g e => ⟨(h.lb g e).1.of_block (k.block _ (h.lb g e).1.lt), (h.lb g e).2⟩, fun r e => ⟨(h.ca r e).1.keep k, (h.ca r e).2⟩, h.d1, h.d2, h.d3⟩
theorem FvS.mkS {w w1 X : World} {V : Nat} {a : Option Addr} {n c Kw : Nat} {xs : List Blk} {l : Option Nat} {q : Option (Nat × (Nat → Nat) × (Nat → Nat → Nat))} {K : Act → World → Prop} {A : Act} (h : FvS w w1 X V a n c Kw xs none l q) (k : ∀ Y, FvS w w1 Y V a n c Kw xs (some X.heap.size) l q → K A Y) : K A (X.alloc (.cells (madeCells #[.slice none 0 0] n) 46)) := by
  have h' := h.next (balloc (Below.refl _ X) (.cells (madeCells #[.slice none 0 0] n) 46))
  have z := h.low.size
  refine k _ ⟨h'.low, h.f0, h.f1, h.lt, fun g e => ?_, h'.lb, h'.ca, fun g r e e2 => ?_, fun g r e e2 => ?_, h'.d3⟩
  · cases e; exact ⟨World.rowIs_made X _ n _, z⟩
  · cases e; have := (h.lb r e2).1.lt; omega
  · cases e; have := (h.ca r e2).1.row.lt; exact ⟨by omega, fun i hi => by have := ((h.ca r e2).1.set i hi).lt; omega⟩
theorem FvS.lbS {w w1 X : World} {V : Nat} {a : Option Addr} {n c Kw : Nat} {xs : List Blk} {m : Option Nat} {q : Option (Nat × (Nat → Nat) × (Nat → Nat → Nat))} {K : Act → World → Prop} {A : Act} (h : FvS w w1 X V a n c Kw xs m none q) (k : ∀ Y, FvS w w1 Y V a n c Kw xs m (some X.heap.size) q → K A Y) : K A (X.alloc (.cells #[.slice none 0 0, .slice none 0 0] 49)) := by
  have h' := h.next (balloc (Below.refl _ X) (.cells #[.slice none 0 0, .slice none 0 0] 49))
  have z := h.low.size
  refine k _ ⟨h'.low, h.f0, h.f1, h.lt, h'.mr, fun g e => ?_, h'.ca, fun g r e e2 => ?_, h'.d2, fun g r e e2 => ?_⟩
  · cases e; exact ⟨World.rowIs_alloc X #[.slice none 0 0, .slice none 0 0] 49 (fun _ => .slice none 0 0) (fun i hi => by match i, hi with | 0, _ => rfl | 1, _ => rfl), z⟩
  · cases e2; have := (h.mr g e).1.lt; omega
  · cases e; have := (h.ca r e2).1.row.lt; exact ⟨by omega, fun i hi => by have := ((h.ca r e2).1.set i hi).lt; omega⟩
theorem FvS.caS {P : Program} {f : Nat} {av : Array Value} {w w1 X : World} {V : Nat} {a : Option Addr} {n c Kw : Nat} {xs : List Blk} {m l : Option Nat} (h : FvS w w1 X V a n c Kw xs m l none) (hc : Calls P f av X fun e w' => ∃ G gs Ws, e = .returned (.slice (some ⟨G, 0, none⟩) n n) ∧ X.heap.size ≤ G ∧ Below X.heap.size X w' ∧ SetsAv w' G n Kw gs (fun _ => Kw) Ws ∧ (∀ i, i < n → X.heap.size ≤ gs i) ∧ AllWd Ws ∧ ∀ b, b < n → ∀ v, hasN (Ws b) v = true ↔ (b, v) ∈ phE xs n) :
    Calls P f av X fun e Y => ∃ G gs Ws, e = .returned (.slice (some ⟨G, 0, none⟩) n n) ∧ FvS w w1 Y V a n c Kw xs m l (some (G, gs, Ws)) := by
  refine hc.mono ?_
  rintro e Y ⟨G, gs, Ws, rfl, g1, b, s, g2, wd, hh⟩
  have h' := h.next b
  have z := h.low.size
  refine ⟨G, gs, Ws, rfl, h'.low, h.f0, h.f1, h.lt, h'.mr, h'.lb, fun r e => ?_, h'.d1, fun g r e e2 => ?_, fun g r e e2 => ?_⟩
  · cases e; exact ⟨s, wd, hh, Nat.le_trans z g1, fun i hi => Nat.le_trans z (g2 i hi)⟩
  · cases e2; have := (h.mr g e).1.lt; exact ⟨by show g ≠ G; omega, fun i hi => by have := g2 i hi; show gs i ≠ g; omega⟩
  · cases e2; have := (h.lb g e).1.lt; exact ⟨by show g ≠ G; omega, fun i hi => by have := g2 i hi; show gs i ≠ g; omega⟩
theorem FvS.kp {w w1 X : World} {V : Nat} {a : Option Addr} {n c Kw : Nat} {xs : List Blk} {m l : Option Nat} {q : Option (Nat × (Nat → Nat) × (Nat → Nat → Nat))} (h : FvS w w1 X V a n c Kw xs m l q) : X.cell? ⟨w.heap.size, 0, none⟩ = some (.int .i64 (V : Int)) ∧ X.cell? ⟨w.heap.size, 1, none⟩ = some (.slice a n c) :=
  ⟨(h.low.cell (p := ⟨w.heap.size, 0, none⟩) h.lt).trans h.f0, (h.low.cell (p := ⟨w.heap.size, 1, none⟩) h.lt).trans h.f1⟩
theorem FvS.lbc {w w1 X : World} {V : Nat} {a : Option Addr} {n c Kw : Nat} {xs : List Blk} {m : Option Nat} {g : Nat} {q : Option (Nat × (Nat → Nat) × (Nat → Nat → Nat))} (h : FvS w w1 X V a n c Kw xs m (some g) q) : X.cell? ⟨g, 0, none⟩ = some (.slice none 0 0) ∧ X.cell? ⟨g, 1, none⟩ = some (.slice none 0 0) ∧ (∀ o, X.frozen? ⟨g, o, none⟩ = false) ∧ ∀ u, (X.setCell ⟨g, 0, none⟩ u).cell? ⟨g, 1, none⟩ = some (.slice none 0 0) := by
  have r := (h.lb g rfl).1
  have r1 := r.cell (i := 1) (by decide)
  exact ⟨r.cell (i := 0) (by decide), r1, r.frozen, fun u => (World.cell?_setCell_other _ _ _ _ (by simp)).trans r1⟩
theorem FvS.fin {w w1 X : World} {V : Nat} {a : Option Addr} {n c Kw : Nat} {xs : List Blk} {g l G : Nat} {gs : Nat → Nat} {Ws : Nat → Nat → Nat} (h : FvS w w1 X V a n c Kw xs (some g) (some l) (some (G, gs, Ws))) (hw1 : Below w.heap.size w w1) (hz : w1.heap.size = w.heap.size + 2) (r0 : w1.cell? ⟨w.heap.size + 1, 0, none⟩ = some (.slice none 0 0)) (r1 : w1.cell? ⟨w.heap.size + 1, 1, none⟩ = some (.slice none 0 0)) (rz : ∀ q, w1.frozen? ⟨w.heap.size + 1, q, none⟩ = false) :
    FlA w ((X.setCell ⟨l, 0, none⟩ (.slice (some ⟨g, 0, none⟩) n n)).setCell ⟨l, 1, none⟩ (.slice (some ⟨G, 0, none⟩) n n)) V a n c Kw xs g l G gs Ws := by
  obtain ⟨s, wd, hh, b3, b4⟩ := h.ca _ rfl
  have d2 := h.d2 _ _ rfl rfl
  have d3 := h.d3 _ _ rfl rfl
  exact flA_of hw1 hz h.low h.f0 h.f1 r0 r1 rz (h.mr g rfl).1 (h.lb l rfl).1 s wd hh (hz ▸ (h.mr g rfl).2) (hz ▸ (h.lb l rfl).2) (hz ▸ b3) (fun i hi => hz ▸ b4 i hi) ⟨fun e => d3.1 e.symm, h.d1 _ _ rfl rfl, d2.1, fun i hi => ⟨d2.2 i hi, d3.2 i hi⟩⟩
end Go.Proofs.YtanaeindldcapaaDoor
