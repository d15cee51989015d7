import Derived.Test.YteifkldaoddpdaaDoorRunS
namespace Go.Proofs.YteifkldaoddpdaaDoor
open Go.RowKit

/-- The variable of the outcome, at block r. -/
def OB (w : World) (r : Nat) (code value steps : Int) (ta : Option Addr) (nt ct gh ch : Nat) : Prop := (w.cell? ⟨r, 0, none⟩ = some (.int .i64 code) ∧ w.cell? ⟨r, 1, none⟩ = some (.int .i64 value) ∧ w.cell? ⟨r, 2, none⟩ = some (.int .i64 steps) ∧ w.cell? ⟨r, 3, none⟩ = some (.slice ta nt ct) ∧ w.cell? ⟨r, 4, none⟩ = some (.slice (some ⟨gh, 0, none⟩) 32 ch)) ∧ ∀ o, w.frozen? ⟨r, o, none⟩ = false
theorem OB.keep {w w1 : World} {r : Nat} {code value steps : Int} {ta : Option Addr} {nt ct gh ch : Nat} (h : OB w r code value steps ta nt ct gh ch) (k : w1.heap[r]? = w.heap[r]?) : OB w1 r code value steps ta nt ct gh ch :=
  ⟨⟨(cell_of k).trans h.1.1, (cell_of k).trans h.1.2.1, (cell_of k).trans h.1.2.2.1, (cell_of k).trans h.1.2.2.2.1, (cell_of k).trans h.1.2.2.2.2⟩, fun o => (World.frozen?_of_block k).trans (h.2 o)⟩

/-- What holds at the head of the loop of a run. -/
structure Inv (F : Fn) (args : List Int) (fuel : Nat) (R0 : Out) (w : World) (a : Option Addr) (n c m ob gh ch Bt : Nat) (s : RS) (k gv : Nat) (ta : Option Addr) (nt ct : Nat) (wr : World) : Prop where
  below : Below w.heap.size w wr
  fb : FB wr w.heap.size m a n c
  obl : w.heap.size + 1 < ob
  ghl : w.heap.size + 1 < gh
  gho : gh < ob
  obt : ob < Bt
  rb : RB wr (w.heap.size + 1)
  obx : OB wr ob 3 0 k ta nt ct gh ch
  mem : RunMem wr Bt gv gh 2 (.slice ta nt ct) s.vals s.hp s.tr
  bts : Bt ≤ wr.heap.size
  gvl : ob < gv
  sb : s.b < n
  vl : s.vals.length = m
  hl : s.hp.length = 32
  tl : nt ≤ k
  kf : k ≤ fuel
  run : runR F args (fuel - k) k s = R0

theorem OB.five {w : World} {r : Nat} {code value steps : Int} {ta : Option Addr} {nt ct gh ch : Nat} (h : OB w r code value steps ta nt ct gh ch) (code' value' steps' : Int) (ta' : Option Addr) (nt' ct' : Nat) :
    OB (((((w.setCell ⟨r, 0, none⟩ (.int .i64 code')).setCell ⟨r, 1, none⟩ (.int .i64 value')).setCell ⟨r, 2, none⟩ (.int .i64 steps')).setCell ⟨r, 3, none⟩ (.slice ta' nt' ct')).setCell ⟨r, 4, none⟩ (.slice (some ⟨gh, 0, none⟩) 32 ch)) r code' value' steps' ta' nt' ct' gh ch := by
  obtain ⟨⟨h0, h1, h2, h3, h4⟩, hz⟩ := h
  refine ⟨⟨?_, ?_, ?_, ?_, ?_⟩, fun o => by simp [hz]⟩ <;> simp [h0, h1, h2, h3, h4, go_sem]
theorem OB.steps' {w : World} {r : Nat} {code value steps : Int} {ta : Option Addr} {nt ct gh ch : Nat} (h : OB w r code value steps ta nt ct gh ch) (k : Int) : OB (w.setCell ⟨r, 2, none⟩ (.int .i64 k)) r code value k ta nt ct gh ch := by
  obtain ⟨⟨h0, h1, h2, h3, h4⟩, hz⟩ := h
  refine ⟨⟨?_, ?_, ?_, ?_, ?_⟩, fun o => by simp [hz]⟩ <;> simp [h0, h1, h2, h3, h4, go_sem]

theorem Kb.far {B ob : Nat} {w W : World} (h : Kb B ob ob w W) {b : Nat} (hb : b < B) (hne : b ≠ ob) : W.heap[b]? = w.heap[b]? := h.block b hb hne hne
/-- An instruction has been carried out. -/
theorem Inv.next {F : Fn} {args : List Int} {fuel : Nat} {R0 : Out} {w : World} {a : Option Addr} {n c m ob gh ch Bt : Nat} {s : RS} {k gv : Nat} {ta : Option Addr} {nt ct : Nat} {wr W w3 : World} (h : Inv F args fuel R0 w a n c m ob gh ch Bt s k gv ta nt ct wr) (hk : k < fuel)
    (hW : Kb wr.heap.size ob ob wr W) (hK : Kb Bt gv gh W w3) {ta' : Option Addr} {nt' ct' pc : Nat} {vals hp tr : List Int} (hM : RunMem w3 Bt gv gh 2 (.slice ta' nt' ct') vals hp tr) (ho : OB W ob 3 0 (k + 1 : Nat) ta nt ct gh ch)
    (hv : vals.length = m) (hh : hp.length = 32) (ht : nt' ≤ k + 1) (hr : runR F args (fuel - (k + 1)) (k + 1) ⟨s.b, pc, vals, hp, tr⟩ = R0) :
    Inv F args fuel R0 w a n c m ob gh ch Bt ⟨s.b, pc, vals, hp, tr⟩ (k + 1) gv ta' nt' ct' (((((w3.setCell ⟨ob, 0, none⟩ (.int .i64 3)).setCell ⟨ob, 1, none⟩ (.int .i64 0)).setCell ⟨ob, 2, none⟩ (.int .i64 (k + 1 : Nat))).setCell ⟨ob, 3, none⟩ (.slice ta' nt' ct')).setCell ⟨ob, 4, none⟩ (.slice (some ⟨gh, 0, none⟩) 32 ch)) := by
  have hgl := h.gvl
  have h1 := h.obl
  have h2 := h.ghl
  have h3 := h.gho
  have h4 := h.obt
  have h5 := h.bts
  have hws := h.below.size
  have hWs := hW.size
  have hKs := hK.size
  have hb3 : Below w.heap.size w w3 := h.below.trans ((hW.below (by omega) (by omega) (by omega)).trans (hK.below (by omega) (by omega) (by omega)))
  have hrt : (Value.slice ta' nt' ct').ownBlock ≠ some ob := fun e => by have := (hM.own.lt _ e).1; omega
  have far : ∀ b, b < Bt → b ≠ gv → b ≠ gh → b ≠ ob → w3.heap[b]? = wr.heap[b]? := fun b q1 q2 q3 q4 => (hK.block b q1 q2 q3).trans (hW.far (by omega) q4)
  have fs : ∀ (i : Nat) (v : Value) (W' : World) (b : Nat), b ≠ ob → (W'.setCell ⟨ob, i, none⟩ v).heap[b]? = W'.heap[b]? := fun i v W' b q => Below.heap_setCell _ _ _ _ q
  have f5 : ∀ b, b ≠ ob → (((((w3.setCell ⟨ob, 0, none⟩ (.int .i64 3)).setCell ⟨ob, 1, none⟩ (.int .i64 0)).setCell ⟨ob, 2, none⟩ (.int .i64 (k + 1 : Nat))).setCell ⟨ob, 3, none⟩ (.slice ta' nt' ct')).setCell ⟨ob, 4, none⟩ (.slice (some ⟨gh, 0, none⟩) 32 ch)).heap[b]? = w3.heap[b]? := fun b q => by rw [fs _ _ _ _ q, fs _ _ _ _ q, fs _ _ _ _ q, fs _ _ _ _ q, fs _ _ _ _ q]
  refine ⟨?_, ?_, h1, h2, h3, h4, ?_, ?_, ⟨hM.vals.keep (f5 _ (by omega)), hM.heap.keep (f5 _ (by omega)), own_keep hM.own (fun b e => f5 b (fun e2 => hrt (by rw [e, e2]))), hM.ne, hM.tvals, hM.theap⟩, ?_, hgl, h.sb, hv, hh, ht, by omega, hr⟩
  · exact (((((hb3.setCell (by show w.heap.size ≤ ob; omega) _).setCell (by show w.heap.size ≤ ob; omega) _).setCell (by show w.heap.size ≤ ob; omega) _).setCell (by show w.heap.size ≤ ob; omega) _).setCell (by show w.heap.size ≤ ob; omega) _)
  · exact h.fb.keep ((f5 _ (by omega)).trans (far _ (by omega) (by omega) (by omega) (by omega)))
  · exact h.rb.keep ((f5 _ (by omega)).trans (far _ (by omega) (by omega) (by omega) (by omega)))
  · exact (ho.keep (hK.block ob h4 (by omega) (by omega))).five 3 0 (k + 1 : Nat) ta' nt' ct'
  · simp only [size_setCell]; omega
/-- A block has been entered. -/
theorem Inv.enter {F : Fn} {args : List Int} {fuel : Nat} {R0 : Out} {w : World} {a : Option Addr} {n c m ob gh ch Bt : Nat} {s : RS} {k gv : Nat} {ta : Option Addr} {nt ct : Nat} {wr W w3 : World} (h : Inv F args fuel R0 w a n c m ob gh ch Bt s k gv ta nt ct wr) (hk : k < fuel)
    (hW : Kb wr.heap.size ob ob wr W) (ho : OB W ob 3 0 (k + 1 : Nat) ta nt ct gh ch) (hb : Below W.heap.size W w3) {g to : Nat} (hg : W.heap.size ≤ g) {vals : List Int} (hi : IntsW w3 g vals) (hv : vals.length = m) (hto : to < n)
    (hr : runR F args (fuel - (k + 1)) (k + 1) ⟨to, 0, vals, s.hp, s.tr⟩ = R0) :
    Inv F args fuel R0 w a n c m ob gh ch Bt ⟨to, 0, vals, s.hp, s.tr⟩ (k + 1) g ta nt ct w3 := by
  have hgl := h.gvl
  have h1 := h.obl
  have h2 := h.ghl
  have h3 := h.gho
  have h4 := h.obt
  have h5 := h.bts
  have h6 := h.tl
  have hws := h.below.size
  have hWs := hW.size
  have hbs := hb.size
  have hghl := h.mem.heap.lt
  have far : ∀ b, b < wr.heap.size → b ≠ ob → w3.heap[b]? = wr.heap[b]? := fun b q1 q2 => (hb.block b (by omega)).trans (hW.far q1 q2)
  have hno : ∀ b, (Value.slice ta nt ct).ownBlock = some b → b ≠ ob := fun b e e2 => by have := (h.mem.own.lt _ e).1; omega
  refine ⟨h.below.trans ((hW.below (by omega) (by omega) (by omega)).trans (hb.mono (by omega))), h.fb.keep (far _ (by omega) (by omega)), h1, h2, h3, h4, h.rb.keep (far _ (by omega) (by omega)), ho.keep (hb.block ob (by omega)),
    ⟨hi, h.mem.heap.keep (far _ hghl (by omega)), own_keep h.mem.own (fun b e => far b (h.mem.own.lt _ e).2 (hno b e)), by omega, fun e => by have := (h.mem.own.lt _ e).2; omega, h.mem.theap⟩, by omega, by omega, hto, hv, h.hl, by omega, by omega, hr⟩

/-- The answer is given. -/
theorem Inv.give {F : Fn} {args : List Int} {fuel : Nat} {R0 : Out} {w : World} {a : Option Addr} {n c m ob gh ch Bt : Nat} {s : RS} {k gv : Nat} {ta : Option Addr} {nt ct : Nat} {wr W : World} (h : Inv F args fuel R0 w a n c m ob gh ch Bt s k gv ta nt ct wr)
    (hW : Kb wr.heap.size (w.heap.size + 1) ob wr W) (code value : Int) (steps : Nat) : Below w.heap.size w W ∧ OutAt W w.heap.size W.heap.size (.agg #[.int .i64 code, .int .i64 value, .int .i64 steps, .slice ta nt ct, .slice (some ⟨gh, 0, none⟩) 32 ch]) ⟨code, value, steps, s.tr, s.hp⟩ := by
  have h1 := h.obl
  have h2 := h.ghl
  have h3 := h.gho
  have h4 := h.obt
  have h5 := h.bts
  have hws := h.below.size
  have hWs := hW.size
  have hghl := h.mem.heap.lt
  have far : ∀ b, b < wr.heap.size → b ≠ w.heap.size + 1 → b ≠ ob → W.heap[b]? = wr.heap[b]? := fun b q1 q2 q3 => hW.block b q1 q2 q3
  have hno : ∀ b, (Value.slice ta nt ct).ownBlock = some b → Bt ≤ b ∧ b < wr.heap.size := fun b e => h.mem.own.lt _ e
  have ho := own_keep (w1 := W) h.mem.own (fun b e => far b (hno b e).2 (by have := hno b e; omega) (by have := hno b e; omega))
  obtain ⟨a1, c1, e1, hi1⟩ := ints_owned ho
  obtain ⟨e2, e3, e4⟩ := Value.slice.inj e1
  subst e2
  refine ⟨h.below.trans (hW.below (by omega) (by omega) (by omega)), ta, nt, ct, _, 32, ch, rfl, e3, h.hl.symm, hi1.mono (by omega) (Nat.le_refl _), ?_⟩
  exact (h.mem.heap.keep (far _ hghl (by omega) (by omega))).at ⟨by omega, by omega⟩
end Go.Proofs.YteifkldaoddpdaaDoor

namespace Go.Proofs.YteifkldaoddpdaaDoor
open Go.RowKit

section
variable {wr : World} {ob b o : Nat} {V : Value} {f : Bool}
theorem sc1 (h : wr.cell? ⟨b, o, none⟩ = some V) (hne : b ≠ ob) : ∀ v, (wr.setCell ⟨ob, 2, none⟩ v).cell? ⟨b, o, none⟩ = some V := fun v => (World.cell?_setCell_other _ _ _ _ (by intro e; injection e with e1; exact hne e1.symm)).trans h
theorem sl1 (v : Value) (hb : b < wr.heap.size) : b < (wr.setCell ⟨ob, 2, none⟩ v).heap.size := by rw [size_setCell]; exact hb
theorem sc2 (h : wr.cell? ⟨b, o, none⟩ = some V) (hne : b ≠ ob) (hb : b < wr.heap.size) : ∀ v x, ((wr.setCell ⟨ob, 2, none⟩ v).alloc x).cell? ⟨b, o, none⟩ = some V := fun v x => ((balloc (Below.refl _ (wr.setCell ⟨ob, 2, none⟩ v)) x).cell (p := ⟨b, o, none⟩) (sl1 v hb)).trans (sc1 h hne v)
theorem sc3 (h : wr.cell? ⟨b, o, none⟩ = some V) (hne : b ≠ ob) (hb : b < wr.heap.size) : ∀ v x y, (((wr.setCell ⟨ob, 2, none⟩ v).alloc x).alloc y).cell? ⟨b, o, none⟩ = some V := fun v x y => ((balloc (balloc (Below.refl _ (wr.setCell ⟨ob, 2, none⟩ v)) x) y).cell (p := ⟨b, o, none⟩) (sl1 v hb)).trans (sc1 h hne v)
theorem ob2 {code value k : Int} {ta : Option Addr} {nt ct gh ch : Nat} (h : OB wr ob code value k ta nt ct gh ch) (hb : ob < wr.heap.size) (k' : Int) (x : Obj) : OB ((wr.setCell ⟨ob, 2, none⟩ (.int .i64 k')).alloc x) ob code value k' ta nt ct gh ch := (h.steps' k').keep ((balloc (Below.refl _ (wr.setCell ⟨ob, 2, none⟩ (.int .i64 k'))) x).block ob (sl1 _ hb))
theorem ob3 {code value k : Int} {ta : Option Addr} {nt ct gh ch : Nat} (h : OB wr ob code value k ta nt ct gh ch) (hb : ob < wr.heap.size) (k' : Int) (x y : Obj) : OB (((wr.setCell ⟨ob, 2, none⟩ (.int .i64 k')).alloc x).alloc y) ob code value k' ta nt ct gh ch := (h.steps' k').keep ((balloc (balloc (Below.refl _ (wr.setCell ⟨ob, 2, none⟩ (.int .i64 k'))) x) y).block ob (sl1 _ hb))
theorem kb2 (v : Value) (x : Obj) : Kb wr.heap.size ob ob wr ((wr.setCell ⟨ob, 2, none⟩ v).alloc x) := ((Kb.refl _ ob ob wr).set (Or.inl rfl) v).trans (Kb.of_below ((balloc (Below.refl _ (wr.setCell ⟨ob, 2, none⟩ v)) x).mono (by rw [size_setCell]; exact Nat.le_refl _)))
theorem kb3 (v : Value) (x y : Obj) : Kb wr.heap.size ob ob wr (((wr.setCell ⟨ob, 2, none⟩ v).alloc x).alloc y) := ((Kb.refl _ ob ob wr).set (Or.inl rfl) v).trans (Kb.of_below ((balloc (balloc (Below.refl _ (wr.setCell ⟨ob, 2, none⟩ v)) x) y).mono (by rw [size_setCell]; exact Nat.le_refl _)))
theorem sd3 (h : wr.cell? ⟨b, o, none⟩ = some V) (hne : b ≠ ob) (hb : b < wr.heap.size) (i : Nat) : ∀ v x y u, ((((wr.setCell ⟨ob, 2, none⟩ v).alloc x).alloc y).setCell ⟨ob, i, none⟩ u).cell? ⟨b, o, none⟩ = some V := fun v x y u => (World.cell?_setCell_other _ _ _ _ (by intro e; injection e with e1; exact hne e1.symm)).trans (sc3 h hne hb v x y)
theorem fz3 (h : ∀ o, wr.frozen? ⟨b, o, none⟩ = false) (hb : b < wr.heap.size) : ∀ v x y o, (((wr.setCell ⟨ob, 2, none⟩ v).alloc x).alloc y).frozen? ⟨b, o, none⟩ = false := fun v x y o => ((balloc (balloc (Below.refl _ (wr.setCell ⟨ob, 2, none⟩ v)) x) y).frozen (p := ⟨b, o, none⟩) (sl1 v hb)).trans ((World.frozen?_setCell _ _ _ _).trans (h o))
theorem kr2 (r : Nat) (v : Value) (x : Obj) : Kb wr.heap.size r ob wr ((wr.setCell ⟨ob, 2, none⟩ v).alloc x) := ((Kb.refl _ r ob wr).set (Or.inr rfl) v).trans (Kb.of_below ((balloc (Below.refl _ (wr.setCell ⟨ob, 2, none⟩ v)) x).mono (by rw [size_setCell]; exact Nat.le_refl _)))
theorem kr3 (r : Nat) (v : Value) (x y : Obj) : Kb wr.heap.size r ob wr (((wr.setCell ⟨ob, 2, none⟩ v).alloc x).alloc y) := ((Kb.refl _ r ob wr).set (Or.inr rfl) v).trans (Kb.of_below ((balloc (balloc (Below.refl _ (wr.setCell ⟨ob, 2, none⟩ v)) x) y).mono (by rw [size_setCell]; exact Nat.le_refl _)))
theorem Kb.five {B r ob : Nat} {w W : World} (h : Kb B r ob w W) (v0 v1 v2 v3 v4 : Value) : Kb B r ob w (((((W.setCell ⟨r, 0, none⟩ v0).setCell ⟨r, 1, none⟩ v1).setCell ⟨r, 2, none⟩ v2).setCell ⟨r, 3, none⟩ v3).setCell ⟨r, 4, none⟩ v4) := ((((h.set (Or.inl rfl) _).set (Or.inl rfl) _).set (Or.inl rfl) _).set (Or.inl rfl) _).set (Or.inl rfl) _
end

end Go.Proofs.YteifkldaoddpdaaDoor
