import Derived.Test.YtdcdgopblbmgoaaDoorR1
import Derived.Test.YtdcdgopblbmgoaaDoorR5
/-
  A run of a function, step by step, over pure data. Imports nothing of the program.
-/
namespace Go.Proofs.YtdcdgopblbmgoaaDoor
open Go.RowKit

structure RS where
  b : Nat
  pc : Nat
  vals : List Int
  hp : List Int
  tr : List Int
structure Out where
  code : Int
  value : Int
  steps : Nat
  tr : List Int
  hp : List Int
inductive Nx where
  | trap : Nx
  | ret : Int → Nx
  | go : RS → Nx
def Fn.blk (F : Fn) (b : Nat) : Blk := F.blocks.getD b ⟨[], [], ⟨0, 0, 0, 0⟩⟩
def goTo (X : Blk) (vals : List Int) : Int := if X.term.kind = 2 ∧ getN vals X.term.a = 0 then X.term.els else X.term.to
def stepR (F : Fn) (args : List Int) (s : RS) : Nx :=
  if h : s.pc < (F.blk s.b).instrs.length then
    if (F.blk s.b).instrs[s.pc].op = 6 ∧ getN s.vals (F.blk s.b).instrs[s.pc].b = 0 then .trap
    else .go ⟨s.b, s.pc + 1, execV (F.blk s.b).instrs[s.pc] args s.vals s.hp, execH (F.blk s.b).instrs[s.pc] s.vals s.hp, execT (F.blk s.b).instrs[s.pc] s.vals s.tr⟩
  else if (F.blk s.b).term.kind = 3 then .ret (getN s.vals (F.blk s.b).term.a)
  else .go ⟨(goTo (F.blk s.b) s.vals).toNat, 0, entTo (F.preds (goTo (F.blk s.b) s.vals).toNat) s.b (F.blk (goTo (F.blk s.b) s.vals).toNat).phis s.vals, s.hp, s.tr⟩
/-- The run from here on: fuel is what is left, k what is spent. -/
def runR (F : Fn) (args : List Int) : Nat → Nat → RS → Out
  | 0, k, s => ⟨3, 0, k, s.tr, s.hp⟩
  | fuel + 1, k, s => match stepR F args s with
    | .trap => ⟨2, 0, k + 1, s.tr, s.hp⟩
    | .ret v => ⟨1, v, k + 1, s.tr, s.hp⟩
    | .go s' => runR F args fuel (k + 1) s'
def startR (F : Fn) (heap : List Int) : RS := ⟨0, 0, List.replicate F.values.toNat 0, heapR heap, []⟩
/-- What RunFunc answers. -/
def outR (F : Fn) (args heap : List Int) (fuel : Int) : Out :=
  if validS F && runOk args.length heap.length fuel then runR F args fuel.toNat 0 (startR F heap) else ⟨4, 0, 0, [], []⟩

theorem blk_at (F : Fn) (b : Nat) (h : b < F.blocks.length) : F.blk b = F.blocks[b] := by simp [Fn.blk, h]
theorem runR_stop (F : Fn) (args : List Int) {fuel k : Nat} {s : RS} (h : k < fuel) : runR F args (fuel - k) k s = match stepR F args s with | .trap => ⟨2, 0, k + 1, s.tr, s.hp⟩ | .ret v => ⟨1, v, k + 1, s.tr, s.hp⟩ | .go s' => runR F args (fuel - (k + 1)) (k + 1) s' := by
  obtain ⟨q, hq⟩ : ∃ q, fuel - k = q + 1 := ⟨fuel - k - 1, by omega⟩
  have hq2 : fuel - (k + 1) = q := by omega
  rw [hq, hq2, runR]

/-- What validity says of one block. -/
structure BlkOk (F : Fn) (b : Nat) : Prop where
  lt : b < F.blocks.length
  ins : ∀ i (h : i < (F.blk b).instrs.length), insOk F.values 10 (F.blk b).instrs[i] = true
  ter : terOk' F.values F.blocks.length (F.blk b).term = true
  phi : ∀ i (h : i < (F.blk b).phis.length), phOkI F.values (F.preds b).length (F.blk b).phis[i] = true
theorem phisFrom_at (ok : Int → Nat → Ph → Bool) (F : Fn) : ∀ (xs : List Blk) (i : Nat), phisFrom ok F xs i = true → ∀ j (h : j < xs.length), xs[j].phis.all (ok F.values (F.preds ((i + j : Nat) : Int)).length) = true
  | [], _, _, j, h => absurd h (by simp)
  | x :: xs, i, hp, j, h => by
    rw [phisFrom, Bool.and_eq_true] at hp
    cases j with
    | zero => simpa using hp.1
    | succ j =>
      have := phisFrom_at ok F xs (i + 1) hp.2 j (by simpa using h)
      rw [show i + 1 + j = i + (j + 1) by omega] at this
      simpa using this
theorem blkOk_of (F : Fn) (h : validS F = true) (b : Nat) (hb : b < F.blocks.length) : BlkOk F b := by
  rw [← valid_same] at h
  simp only [validI, Bool.and_eq_true] at h
  obtain ⟨⟨⟨⟨_, h2⟩, h3⟩, h4⟩, _⟩ := h
  refine ⟨hb, ?_, ?_, ?_⟩
  · rw [blk_at F b hb]
    intro i hi
    have := (List.all_eq_true.1 h3) F.blocks[b] (List.getElem_mem hb)
    exact (List.all_eq_true.1 this) _ (List.getElem_mem hi)
  · rw [blk_at F b hb]
    exact (List.all_eq_true.1 h2) F.blocks[b] (List.getElem_mem hb)
  · rw [blk_at F b hb]
    intro i hi
    have := phisFrom_at phOkI F F.blocks 0 h4 b hb
    rw [Nat.zero_add] at this
    exact (List.all_eq_true.1 this) _ (List.getElem_mem hi)
/-- Where an end leads. -/
theorem goTo_ok {F : Fn} {b : Nat} (h : BlkOk F b) (hk : (F.blk b).term.kind ≠ 3) (vals : List Int) : 1 ≤ goTo (F.blk b) vals ∧ goTo (F.blk b) vals < F.blocks.length := by
  have ht := h.ter
  generalize F.blk b = X at *
  simp only [terOk', terOk, Bool.and_eq_true, decide_eq_true_eq] at ht
  obtain ⟨⟨⟨⟨⟨t1, t2⟩, _⟩, t3⟩, t4⟩, _⟩ := ht
  unfold goTo
  split
  · rename_i e; exact fld_yes t4 (by simp [e.1])
  · exact fld_yes t3 (by simp [hk])
theorem term_a {F : Fn} {b : Nat} (h : BlkOk F b) (hk : (F.blk b).term.kind ≠ 1) : 0 ≤ (F.blk b).term.a ∧ (F.blk b).term.a < F.values := by
  have ht := h.ter
  generalize F.blk b = X at *
  simp only [terOk', terOk, Bool.and_eq_true, decide_eq_true_eq] at ht
  obtain ⟨⟨⟨⟨⟨t1, t2⟩, t3⟩, _⟩, _⟩, _⟩ := ht
  exact fld_yes t3 (by simp [hk])
theorem term_kind {F : Fn} {b : Nat} (h : BlkOk F b) : 1 ≤ (F.blk b).term.kind ∧ (F.blk b).term.kind ≤ 3 := by
  have ht := h.ter
  generalize F.blk b = X at *
  simp only [terOk', terOk, Bool.and_eq_true, decide_eq_true_eq] at ht
  exact ⟨ht.1.1.1.1.1, ht.1.1.1.1.2⟩
end Go.Proofs.YtdcdgopblbmgoaaDoor

/-
  Variables that a run keeps, in both models of a run.
-/
namespace Go.Proofs.YtdcdgopblbmgoaaDoor
open Go.RowKit

/-- An outcome as it lies in memory. -/
def OutAt (w : World) (L B : Nat) (val : Value) (o : Out) : Prop :=
  ∃ ta nt ct ha nh ch, val = .agg #[.int .i64 o.code, .int .i64 o.value, .int .i64 o.steps, .slice ta nt ct, .slice ha nh ch] ∧ nt = o.tr.length ∧ nh = o.hp.length ∧ IntsAt w L B ta o.tr ∧ IntsAt w L B ha o.hp

theorem IntsAt.nil (w : World) (L B : Nat) (a : Option Addr) : IntsAt w L B a [] := fun i h => absurd h (by simp)

/-- The variable of the answer, zero, at block r. -/
def RB (w : World) (r : Nat) : Prop := (w.cell? ⟨r, 0, none⟩ = some (.int .i64 0) ∧ w.cell? ⟨r, 1, none⟩ = some (.int .i64 0) ∧ w.cell? ⟨r, 2, none⟩ = some (.int .i64 0) ∧ w.cell? ⟨r, 3, none⟩ = some (.slice none 0 0) ∧ w.cell? ⟨r, 4, none⟩ = some (.slice none 0 0)) ∧ ∀ o, w.frozen? ⟨r, o, none⟩ = false
/-- The variable of the function, at block r. -/
def FB (w : World) (r : Nat) (v : Int) (a : Option Addr) (n c : Nat) : Prop := w.cell? ⟨r, 0, none⟩ = some (.int .i64 v) ∧ w.cell? ⟨r, 1, none⟩ = some (.slice a n c)
theorem RB.keep {w w1 : World} {r : Nat} (h : RB w r) (k : w1.heap[r]? = w.heap[r]?) : RB w1 r :=
  ⟨⟨(cell_of k).trans h.1.1, (cell_of k).trans h.1.2.1, (cell_of k).trans h.1.2.2.1, (cell_of k).trans h.1.2.2.2.1, (cell_of k).trans h.1.2.2.2.2⟩, fun o => (World.frozen?_of_block k).trans (h.2 o)⟩
theorem FB.keep {w w1 : World} {r : Nat} {v : Int} {a : Option Addr} {n c : Nat} (h : FB w r v a n c) (k : w1.heap[r]? = w.heap[r]?) : FB w1 r v a n c := ⟨(cell_of k).trans h.1, (cell_of k).trans h.2⟩
theorem boxes {w w1 : World} {v : Int} {a : Option Addr} {n c t u : Nat} (hb : Below (w.heap.size + 1 + 1) ((w.alloc (.cells #[.int .i64 v, .slice a n c] t)).alloc (.cells #[.int .i64 0, .int .i64 0, .int .i64 0, .slice none 0 0, .slice none 0 0] u)) w1) : FB w1 w.heap.size v a n c ∧ RB w1 (w.heap.size + 1) := by
  have k1 := hb.block w.heap.size (by omega)
  have k2 := hb.block (w.heap.size + 1) (by omega)
  refine ⟨⟨(cell_of k1).trans (by simp [go_sem]), (cell_of k1).trans (by simp [go_sem])⟩, ⟨(cell_of k2).trans (by simp [go_sem]), (cell_of k2).trans (by simp [go_sem]), (cell_of k2).trans (by simp [go_sem]), (cell_of k2).trans (by simp [go_sem]), (cell_of k2).trans (by simp [go_sem])⟩, fun o => (World.frozen?_of_block k2).trans (by simp [go_sem])⟩

/-- The variable of the outcome, at block r. -/
def OB (w : World) (r : Nat) (code value steps : Int) (ta : Option Addr) (nt ct gh ch : Nat) : Prop := (w.cell? ⟨r, 0, none⟩ = some (.int .i64 code) ∧ w.cell? ⟨r, 1, none⟩ = some (.int .i64 value) ∧ w.cell? ⟨r, 2, none⟩ = some (.int .i64 steps) ∧ w.cell? ⟨r, 3, none⟩ = some (.slice ta nt ct) ∧ w.cell? ⟨r, 4, none⟩ = some (.slice (some ⟨gh, 0, none⟩) 32 ch)) ∧ ∀ o, w.frozen? ⟨r, o, none⟩ = false
theorem OB.keep {w w1 : World} {r : Nat} {code value steps : Int} {ta : Option Addr} {nt ct gh ch : Nat} (h : OB w r code value steps ta nt ct gh ch) (k : w1.heap[r]? = w.heap[r]?) : OB w1 r code value steps ta nt ct gh ch :=
  ⟨⟨(cell_of k).trans h.1.1, (cell_of k).trans h.1.2.1, (cell_of k).trans h.1.2.2.1, (cell_of k).trans h.1.2.2.2.1, (cell_of k).trans h.1.2.2.2.2⟩, fun o => (World.frozen?_of_block k).trans (h.2 o)⟩

theorem OB.five {w : World} {r : Nat} {code value steps : Int} {ta : Option Addr} {nt ct gh ch : Nat} (h : OB w r code value steps ta nt ct gh ch) (code' value' steps' : Int) (ta' : Option Addr) (nt' ct' : Nat) :
    OB (((((w.setCell ⟨r, 0, none⟩ (.int .i64 code')).setCell ⟨r, 1, none⟩ (.int .i64 value')).setCell ⟨r, 2, none⟩ (.int .i64 steps')).setCell ⟨r, 3, none⟩ (.slice ta' nt' ct')).setCell ⟨r, 4, none⟩ (.slice (some ⟨gh, 0, none⟩) 32 ch)) r code' value' steps' ta' nt' ct' gh ch := by
  obtain ⟨⟨h0, h1, h2, h3, h4⟩, hz⟩ := h
  refine ⟨⟨?_, ?_, ?_, ?_, ?_⟩, fun o => by simp [hz]⟩ <;> simp [h0, h1, h2, h3, h4, go_sem]
theorem OB.steps' {w : World} {r : Nat} {code value steps : Int} {ta : Option Addr} {nt ct gh ch : Nat} (h : OB w r code value steps ta nt ct gh ch) (k : Int) : OB (w.setCell ⟨r, 2, none⟩ (.int .i64 k)) r code value k ta nt ct gh ch := by
  obtain ⟨⟨h0, h1, h2, h3, h4⟩, hz⟩ := h
  refine ⟨⟨?_, ?_, ?_, ?_, ?_⟩, fun o => by simp [hz]⟩ <;> simp [h0, h1, h2, h3, h4, go_sem]

theorem Kb.far {B ob : Nat} {w W : World} (h : Kb B ob ob w W) {b : Nat} (hb : b < B) (hne : b ≠ ob) : W.heap[b]? = w.heap[b]? := h.block b hb hne hne
section
variable {wr : World} {ob b o : Nat} {V : Value} {f : Bool}
theorem sc1 (h : wr.cell? ⟨b, o, none⟩ = some V) (hne : b ≠ ob) : ∀ v, (wr.setCell ⟨ob, 2, none⟩ v).cell? ⟨b, o, none⟩ = some V := fun v => (World.cell?_setCell_other _ _ _ _ (by intro e; injection e with e1; exact hne e1.symm)).trans h
theorem sl1 (v : Value) (hb : b < wr.heap.size) : b < (wr.setCell ⟨ob, 2, none⟩ v).heap.size := by rw [size_setCell]; exact hb
theorem sc2 (h : wr.cell? ⟨b, o, none⟩ = some V) (hne : b ≠ ob) (hb : b < wr.heap.size) : ∀ v x, ((wr.setCell ⟨ob, 2, none⟩ v).alloc x).cell? ⟨b, o, none⟩ = some V := fun v x => ((balloc (Below.refl _ (wr.setCell ⟨ob, 2, none⟩ v)) x).cell (p := ⟨b, o, none⟩) (sl1 v hb)).trans (sc1 h hne v)
theorem sc3 (h : wr.cell? ⟨b, o, none⟩ = some V) (hne : b ≠ ob) (hb : b < wr.heap.size) : ∀ v x y, (((wr.setCell ⟨ob, 2, none⟩ v).alloc x).alloc y).cell? ⟨b, o, none⟩ = some V := fun v x y => ((balloc (balloc (Below.refl _ (wr.setCell ⟨ob, 2, none⟩ v)) x) y).cell (p := ⟨b, o, none⟩) (sl1 v hb)).trans (sc1 h hne v)
theorem ob2 {code value k : Int} {ta : Option Addr} {nt ct gh ch : Nat} (h : OB wr ob code value k ta nt ct gh ch) (hb : ob < wr.heap.size) (k' : Int) (x : Obj) : OB ((wr.setCell ⟨ob, 2, none⟩ (.int .i64 k')).alloc x) ob code value k' ta nt ct gh ch := (h.steps' k').keep ((balloc (Below.refl _ (wr.setCell ⟨ob, 2, none⟩ (.int .i64 k'))) x).block ob (sl1 _ hb))
theorem ob3 {code value k : Int} {ta : Option Addr} {nt ct gh ch : Nat} (h : OB wr ob code value k ta nt ct gh ch) (hb : ob < wr.heap.size) (k' : Int) (x y : Obj) : OB (((wr.setCell ⟨ob, 2, none⟩ (.int .i64 k')).alloc x).alloc y) ob code value k' ta nt ct gh ch := (h.steps' k').keep ((balloc (balloc (Below.refl _ (wr.setCell ⟨ob, 2, none⟩ (.int .i64 k'))) x) y).block ob (sl1 _ hb))
theorem kb2 (v : Value) (x : Obj) : Kb wr.heap.size ob ob wr ((wr.setCell ⟨ob, 2, none⟩ v).alloc x) := ((Kb.refl _ ob ob wr).set (Or.inl rfl) v).trans (Kb.of_below ((balloc (Below.refl _ (wr.setCell ⟨ob, 2, none⟩ v)) x).mono (by rw [size_setCell]; exact Nat.le_refl _)))
theorem kb3 (v : Value) (x y : Obj) : Kb wr.heap.size ob ob wr (((wr.setCell ⟨ob, 2, none⟩ v).alloc x).alloc y) := ((Kb.refl _ ob ob wr).set (Or.inl rfl) v).trans (Kb.of_below ((balloc (balloc (Below.refl _ (wr.setCell ⟨ob, 2, none⟩ v)) x) y).mono (by rw [size_setCell]; exact Nat.le_refl _)))
theorem sd3 (h : wr.cell? ⟨b, o, none⟩ = some V) (hne : b ≠ ob) (hb : b < wr.heap.size) (i : Nat) : ∀ v x y u, ((((wr.setCell ⟨ob, 2, none⟩ v).alloc x).alloc y).setCell ⟨ob, i, none⟩ u).cell? ⟨b, o, none⟩ = some V := fun v x y u => (World.cell?_setCell_other _ _ _ _ (by intro e; injection e with e1; exact hne e1.symm)).trans (sc3 h hne hb v x y)
theorem fz3 (h : ∀ o, wr.frozen? ⟨b, o, none⟩ = false) (hb : b < wr.heap.size) : ∀ v x y o, (((wr.setCell ⟨ob, 2, none⟩ v).alloc x).alloc y).frozen? ⟨b, o, none⟩ = false := fun v x y o => ((balloc (balloc (Below.refl _ (wr.setCell ⟨ob, 2, none⟩ v)) x) y).frozen (p := ⟨b, o, none⟩) (sl1 v hb)).trans ((World.frozen?_setCell _ _ _ _).trans (h o))
theorem kr2 (r : Nat) (v : Value) (x : Obj) : Kb wr.heap.size r ob wr ((wr.setCell ⟨ob, 2, none⟩ v).alloc x) := ((Kb.refl _ r ob wr).set (Or.inr rfl) v).trans (Kb.of_below ((balloc (Below.refl _ (wr.setCell ⟨ob, 2, none⟩ v)) x).mono (by rw [size_setCell]; exact Nat.le_refl _)))
theorem kr3 (r : Nat) (v : Value) (x y : Obj) : Kb wr.heap.size r ob wr (((wr.setCell ⟨ob, 2, none⟩ v).alloc x).alloc y) := ((Kb.refl _ r ob wr).set (Or.inr rfl) v).trans (Kb.of_below ((balloc (balloc (Below.refl _ (wr.setCell ⟨ob, 2, none⟩ v)) x) y).mono (by rw [size_setCell]; exact Nat.le_refl _)))
theorem Kb.five {B r ob : Nat} {w W : World} (h : Kb B r ob w W) (v0 v1 v2 v3 v4 : Value) : Kb B r ob w (((((W.setCell ⟨r, 0, none⟩ v0).setCell ⟨r, 1, none⟩ v1).setCell ⟨r, 2, none⟩ v2).setCell ⟨r, 3, none⟩ v3).setCell ⟨r, 4, none⟩ v4) := ((((h.set (Or.inl rfl) _).set (Or.inl rfl) _).set (Or.inl rfl) _).set (Or.inl rfl) _).set (Or.inl rfl) _
end

end Go.Proofs.YtdcdgopblbmgoaaDoor
