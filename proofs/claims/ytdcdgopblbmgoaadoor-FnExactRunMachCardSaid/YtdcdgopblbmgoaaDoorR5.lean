import Derived.Test.YtdcdgopblbmgoaaDoorR4a
import Derived.Test.YtdcdgopblbmgoaaDoorR4c
import Derived.Test.YtdcdgopblbmgoaaDoorN1
namespace Go.Proofs.YtdcdgopblbmgoaaDoor
open Go.RowKit

theorem exec_any (x : Ins) (gv nv cv : Nat) (aa : Option Addr) (na ca : Nat) (code value steps : Int) (ta : Option Addr) (nt ct : Nat) (gh ch : Nat) (w : World) (args vals hp tr : List Int) (B L A : Nat)
    (hm : Hid (RunMem w B gv gh 2 (.slice ta nt ct) vals hp tr)) (hB : B ≤ w.heap.size) (hnv : Hid (nv = vals.length)) (hh : Hid (hp.length = 32)) (ha : Hid (IntsAt w L A aa args)) (hx : Hid (na = args.length)) (hAB : A ≤ w.heap.size) (hnt : nt ≤ 1000000)
    (ok : insOk nv 10 x = true) (hd : x.op = 6 → getN vals x.b ≠ 0) :
    Calls Tryd.prog 70 #[.agg #[.int .i64 x.op, .int .i64 x.dst, .int .i64 x.a, .int .i64 x.b, .int .i64 x.imm], .slice (some ⟨gv, 0, none⟩) nv cv, .slice aa na ca, .agg #[.int .i64 code, .int .i64 value, .int .i64 steps, .slice ta nt ct, .slice (some ⟨gh, 0, none⟩) 32 ch]] w
      (ExecPost gv nv cv code value steps gh ch B (execV x args vals hp) (execH x vals hp) (execT x vals tr) w) := by
  obtain ⟨⟨o1, o2⟩, fd, fa, fb, fi⟩ := ins_facts ok
  obtain ⟨op, dst, a, b, imm⟩ := x
  dsimp only at *
  have hc : op = 1 ∨ op = 2 ∨ (3 ≤ op ∧ op ≤ 7) ∨ op = 8 ∨ op = 9 ∨ op = 10 := by omega
  rcases hc with rfl | rfl | ⟨c1, c2⟩ | rfl | rfl | rfl
  · obtain ⟨d0, d1⟩ := fd (by decide)
    exact exec1 _ _ _ _ _ _ _ _ _ _ _ _ _ _ _ _ _ _ _ _ _ _ _ hm hB hnv d0 d1
  · obtain ⟨d0, d1⟩ := fd (by decide)
    obtain ⟨i0, i1⟩ := fi rfl
    exact exec2 _ _ _ _ _ _ _ _ _ _ _ _ _ _ _ _ _ _ _ _ _ _ _ hm hB hnv d0 d1 args L A ha hx hAB i0 (by omega)
  · obtain ⟨d0, d1⟩ := fd (by simp [dB]; omega)
    obtain ⟨a0, a1⟩ := fa (by simp [aB]; omega)
    obtain ⟨b0, b1⟩ := fb (by simp [bB]; omega)
    have e1 : execV ⟨op, dst, a, b, imm⟩ args vals hp = setN vals dst (arithR op (getN vals a) (getN vals b)) := by
      unfold execV
      simp only
      rw [if_neg (by omega), if_neg (by omega), if_neg (by omega), if_neg (by omega), if_neg (by omega)]
    have e2 : execH ⟨op, dst, a, b, imm⟩ vals hp = hp := if_neg (by dsimp only; omega)
    have e3 : execT ⟨op, dst, a, b, imm⟩ vals tr = tr := if_neg (by dsimp only; omega)
    rw [e1, e2, e3]
    exact exec37 _ _ _ _ _ _ _ _ _ _ _ _ _ _ _ _ _ _ _ _ _ _ _ _ hm hB hnv d0 d1 a0 a1 b0 b1 c1 c2 hd
  · obtain ⟨d0, d1⟩ := fd (by decide)
    obtain ⟨a0, a1⟩ := fa (by decide)
    exact exec8 _ _ _ _ _ _ _ _ _ _ _ _ _ _ _ _ _ _ _ _ _ _ _ hm hB hnv d0 d1 a0 a1 hh
  · obtain ⟨a0, a1⟩ := fa (by decide)
    obtain ⟨b0, b1⟩ := fb (by decide)
    exact exec9 _ _ _ _ _ _ _ _ _ _ _ _ _ _ _ _ _ _ _ _ _ _ _ hm hB hnv a0 a1 b0 b1 hh
  · obtain ⟨a0, a1⟩ := fa (by decide)
    exact exec10 _ _ _ _ _ _ _ _ _ _ _ _ _ _ _ _ _ _ _ _ _ _ _ hm hB hnv a0 a1 hnt
end Go.Proofs.YtdcdgopblbmgoaaDoor

/-
  Variables that a run keeps, in both models of a run.
-/
namespace Go.Proofs.YtdcdgopblbmgoaaDoor
open Go.RowKit

/-- An outcome as it lies in memory. -/
def OutAt (w : World) (L B : Nat) (val : Value) (o : Out) : Prop :=
  ∃ ta nt ct ha nh ch, val = .agg #[.int .i64 o.code, .int .i64 o.value, .int .i64 o.steps, .slice ta nt ct, .slice ha nh ch] ∧ nt = o.tr.length ∧ nh = o.hp.length ∧ IntsAt w L B ta o.tr ∧ IntsAt w L B ha o.hp

theorem IntsAt.nil (w : World) (L B : Nat) (a : Option Addr) : IntsAt w L B a [] := fun i h => absurd h (by simp)

/-- The variable of the answer, zero, at block r. -/
def RB (w : World) (r : Nat) : Prop := (w.cell? ⟨r, 0, none⟩ = some (.int .i64 0) ∧ w.cell? ⟨r, 1, none⟩ = some (.int .i64 0) ∧ w.cell? ⟨r, 2, none⟩ = some (.int .i64 0) ∧ w.cell? ⟨r, 3, none⟩ = some (.slice none 0 0) ∧ w.cell? ⟨r, 4, none⟩ = some (.slice none 0 0)) ∧ ∀ o, w.frozen? ⟨r, o, none⟩ = false
/-- The variable of the function, at block r. -/
def FB (w : World) (r : Nat) (v : Int) (a : Option Addr) (n c : Nat) : Prop := w.cell? ⟨r, 0, none⟩ = some (.int .i64 v) ∧ w.cell? ⟨r, 1, none⟩ = some (.slice a n c)
theorem RB.keep {w w1 : World} {r : Nat} (h : RB w r) (k : w1.heap[r]? = w.heap[r]?) : RB w1 r :=
  ⟨⟨(cell_of k).trans h.1.1, (cell_of k).trans h.1.2.1, (cell_of k).trans h.1.2.2.1, (cell_of k).trans h.1.2.2.2.1, (cell_of k).trans h.1.2.2.2.2⟩, fun o => (World.frozen?_of_block k).trans (h.2 o)⟩
theorem FB.keep {w w1 : World} {r : Nat} {v : Int} {a : Option Addr} {n c : Nat} (h : FB w r v a n c) (k : w1.heap[r]? = w.heap[r]?) : FB w1 r v a n c := ⟨(cell_of k).trans h.1, (cell_of k).trans h.2⟩
theorem boxes {w w1 : World} {v : Int} {a : Option Addr} {n c t u : Nat} (hb : Below (w.heap.size + 1 + 1) ((w.alloc (.cells #[.int .i64 v, .slice a n c] t)).alloc (.cells #[.int .i64 0, .int .i64 0, .int .i64 0, .slice none 0 0, .slice none 0 0] u)) w1) : FB w1 w.heap.size v a n c ∧ RB w1 (w.heap.size + 1) := by
  have k1 := hb.block w.heap.size (by omega)
  have k2 := hb.block (w.heap.size + 1) (by omega)
  refine ⟨⟨(cell_of k1).trans (by simp [go_sem]), (cell_of k1).trans (by simp [go_sem])⟩, ⟨(cell_of k2).trans (by simp [go_sem]), (cell_of k2).trans (by simp [go_sem]), (cell_of k2).trans (by simp [go_sem]), (cell_of k2).trans (by simp [go_sem]), (cell_of k2).trans (by simp [go_sem])⟩, fun o => (World.frozen?_of_block k2).trans (by simp [go_sem])⟩

/-- The variable of the outcome, at block r. -/
def OB (w : World) (r : Nat) (code value steps : Int) (ta : Option Addr) (nt ct gh ch : Nat) : Prop := (w.cell? ⟨r, 0, none⟩ = some (.int .i64 code) ∧ w.cell? ⟨r, 1, none⟩ = some (.int .i64 value) ∧ w.cell? ⟨r, 2, none⟩ = some (.int .i64 steps) ∧ w.cell? ⟨r, 3, none⟩ = some (.slice ta nt ct) ∧ w.cell? ⟨r, 4, none⟩ = some (.slice (some ⟨gh, 0, none⟩) 32 ch)) ∧ ∀ o, w.frozen? ⟨r, o, none⟩ = false
theorem OB.keep {w w1 : World} {r : Nat} {code value steps : Int} {ta : Option Addr} {nt ct gh ch : Nat} (h : OB w r code value steps ta nt ct gh ch) (k : w1.heap[r]? = w.heap[r]?) : OB w1 r code value steps ta nt ct gh ch :=
  ⟨⟨(cell_of k).trans h.1.1, (cell_of k).trans h.1.2.1, (cell_of k).trans h.1.2.2.1, (cell_of k).trans h.1.2.2.2.1, (cell_of k).trans h.1.2.2.2.2⟩, fun o => (World.frozen?_of_block k).trans (h.2 o)⟩

theorem OB.five {w : World} {r : Nat} {code value steps : Int} {ta : Option Addr} {nt ct gh ch : Nat} (h : OB w r code value steps ta nt ct gh ch) (code' value' steps' : Int) (ta' : Option Addr) (nt' ct' : Nat) :
    OB (((((w.setCell ⟨r, 0, none⟩ (.int .i64 code')).setCell ⟨r, 1, none⟩ (.int .i64 value')).setCell ⟨r, 2, none⟩ (.int .i64 steps')).setCell ⟨r, 3, none⟩ (.slice ta' nt' ct')).setCell ⟨r, 4, none⟩ (.slice (some ⟨gh, 0, none⟩) 32 ch)) r code' value' steps' ta' nt' ct' gh ch := by
  obtain ⟨⟨h0, h1, h2, h3, h4⟩, hz⟩ := h
  refine ⟨⟨?_, ?_, ?_, ?_, ?_⟩, fun o => by simp [hz]⟩ <;> simp [h0, h1, h2, h3, h4, go_sem]
theorem OB.steps' {w : World} {r : Nat} {code value steps : Int} {ta : Option Addr} {nt ct gh ch : Nat} (h : OB w r code value steps ta nt ct gh ch) (k : Int) : OB (w.setCell ⟨r, 2, none⟩ (.int .i64 k)) r code value k ta nt ct gh ch := by
  obtain ⟨⟨h0, h1, h2, h3, h4⟩, hz⟩ := h
  refine ⟨⟨?_, ?_, ?_, ?_, ?_⟩, fun o => by simp [hz]⟩ <;> simp [h0, h1, h2, h3, h4, go_sem]

theorem Kb.far {B ob : Nat} {w W : World} (h : Kb B ob ob w W) {b : Nat} (hb : b < B) (hne : b ≠ ob) : W.heap[b]? = w.heap[b]? := h.block b hb hne hne
section
variable {wr : World} {ob b o : Nat} {V : Value} {f : Bool}
theorem sc1 (h : wr.cell? ⟨b, o, none⟩ = some V) (hne : b ≠ ob) : ∀ v, (wr.setCell ⟨ob, 2, none⟩ v).cell? ⟨b, o, none⟩ = some V := fun v => (World.cell?_setCell_other _ _ _ _ (by intro e; injection e with e1; exact hne e1.symm)).trans h
theorem sl1 (v : Value) (hb : b < wr.heap.size) : b < (wr.setCell ⟨ob, 2, none⟩ v).heap.size := by rw [size_setCell]; exact hb
theorem sc2 (h : wr.cell? ⟨b, o, none⟩ = some V) (hne : b ≠ ob) (hb : b < wr.heap.size) : ∀ v x, ((wr.setCell ⟨ob, 2, none⟩ v).alloc x).cell? ⟨b, o, none⟩ = some V := fun v x => ((balloc (Below.refl _ (wr.setCell ⟨ob, 2, none⟩ v)) x).cell (p := ⟨b, o, none⟩) (sl1 v hb)).trans (sc1 h hne v)
theorem sc3 (h : wr.cell? ⟨b, o, none⟩ = some V) (hne : b ≠ ob) (hb : b < wr.heap.size) : ∀ v x y, (((wr.setCell ⟨ob, 2, none⟩ v).alloc x).alloc y).cell? ⟨b, o, none⟩ = some V := fun v x y => ((balloc (balloc (Below.refl _ (wr.setCell ⟨ob, 2, none⟩ v)) x) y).cell (p := ⟨b, o, none⟩) (sl1 v hb)).trans (sc1 h hne v)
theorem ob2 {code value k : Int} {ta : Option Addr} {nt ct gh ch : Nat} (h : OB wr ob code value k ta nt ct gh ch) (hb : ob < wr.heap.size) (k' : Int) (x : Obj) : OB ((wr.setCell ⟨ob, 2, none⟩ (.int .i64 k')).alloc x) ob code value k' ta nt ct gh ch := (h.steps' k').keep ((balloc (Below.refl _ (wr.setCell ⟨ob, 2, none⟩ (.int .i64 k'))) x).block ob (sl1 _ hb))
theorem ob3 {code value k : Int} {ta : Option Addr} {nt ct gh ch : Nat} (h : OB wr ob code value k ta nt ct gh ch) (hb : ob < wr.heap.size) (k' : Int) (x y : Obj) : OB (((wr.setCell ⟨ob, 2, none⟩ (.int .i64 k')).alloc x).alloc y) ob code value k' ta nt ct gh ch := (h.steps' k').keep ((balloc (balloc (Below.refl _ (wr.setCell ⟨ob, 2, none⟩ (.int .i64 k'))) x) y).block ob (sl1 _ hb))
theorem kb2 (v : Value) (x : Obj) : Kb wr.heap.size ob ob wr ((wr.setCell ⟨ob, 2, none⟩ v).alloc x) := ((Kb.refl _ ob ob wr).set (Or.inl rfl) v).trans (Kb.of_below ((balloc (Below.refl _ (wr.setCell ⟨ob, 2, none⟩ v)) x).mono (by rw [size_setCell]; exact Nat.le_refl _)))
theorem kb3 (v : Value) (x y : Obj) : Kb wr.heap.size ob ob wr (((wr.setCell ⟨ob, 2, none⟩ v).alloc x).alloc y) := ((Kb.refl _ ob ob wr).set (Or.inl rfl) v).trans (Kb.of_below ((balloc (balloc (Below.refl _ (wr.setCell ⟨ob, 2, none⟩ v)) x) y).mono (by rw [size_setCell]; exact Nat.le_refl _)))
theorem sd3 (h : wr.cell? ⟨b, o, none⟩ = some V) (hne : b ≠ ob) (hb : b < wr.heap.size) (i : Nat) : ∀ v x y u, ((((wr.setCell ⟨ob, 2, none⟩ v).alloc x).alloc y).setCell ⟨ob, i, none⟩ u).cell? ⟨b, o, none⟩ = some V := fun v x y u => (World.cell?_setCell_other _ _ _ _ (by intro e; injection e with e1; exact hne e1.symm)).trans (sc3 h hne hb v x y)
theorem fz3 (h : ∀ o, wr.frozen? ⟨b, o, none⟩ = false) (hb : b < wr.heap.size) : ∀ v x y o, (((wr.setCell ⟨ob, 2, none⟩ v).alloc x).alloc y).frozen? ⟨b, o, none⟩ = false := fun v x y o => ((balloc (balloc (Below.refl _ (wr.setCell ⟨ob, 2, none⟩ v)) x) y).frozen (p := ⟨b, o, none⟩) (sl1 v hb)).trans ((World.frozen?_setCell _ _ _ _).trans (h o))
theorem kr2 (r : Nat) (v : Value) (x : Obj) : Kb wr.heap.size r ob wr ((wr.setCell ⟨ob, 2, none⟩ v).alloc x) := ((Kb.refl _ r ob wr).set (Or.inr rfl) v).trans (Kb.of_below ((balloc (Below.refl _ (wr.setCell ⟨ob, 2, none⟩ v)) x).mono (by rw [size_setCell]; exact Nat.le_refl _)))
theorem kr3 (r : Nat) (v : Value) (x y : Obj) : Kb wr.heap.size r ob wr (((wr.setCell ⟨ob, 2, none⟩ v).alloc x).alloc y) := ((Kb.refl _ r ob wr).set (Or.inr rfl) v).trans (Kb.of_below ((balloc (balloc (Below.refl _ (wr.setCell ⟨ob, 2, none⟩ v)) x) y).mono (by rw [size_setCell]; exact Nat.le_refl _)))
theorem Kb.five {B r ob : Nat} {w W : World} (h : Kb B r ob w W) (v0 v1 v2 v3 v4 : Value) : Kb B r ob w (((((W.setCell ⟨r, 0, none⟩ v0).setCell ⟨r, 1, none⟩ v1).setCell ⟨r, 2, none⟩ v2).setCell ⟨r, 3, none⟩ v3).setCell ⟨r, 4, none⟩ v4) := ((((h.set (Or.inl rfl) _).set (Or.inl rfl) _).set (Or.inl rfl) _).set (Or.inl rfl) _).set (Or.inl rfl) _
end

end Go.Proofs.YtdcdgopblbmgoaaDoor
