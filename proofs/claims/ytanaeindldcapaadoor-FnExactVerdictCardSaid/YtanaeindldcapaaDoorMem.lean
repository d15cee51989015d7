import Derived.WalkKit
namespace Go.Proofs.YtanaeindldcapaaDoor
open Go.RowKit
section
structure Ins where
  op : Int
  dst : Int
  a : Int
  b : Int
  imm : Int
structure Ter where
  kind : Int
  a : Int
  to : Int
  els : Int
structure Ph where
  dst : Int
  args : List Int
structure Blk where
  phis : List Ph
  instrs : List Ins
  term : Ter
structure Fn where
  values : Int
  blocks : List Blk
/-- The values that the cells of an instruction hold. -/
def Ins.cells (x : Ins) : List Value := [.int .i64 x.op, .int .i64 x.dst, .int .i64 x.a, .int .i64 x.b, .int .i64 x.imm]
def Ter.cells (x : Ter) : List Value := [.int .i64 x.kind, .int .i64 x.a, .int .i64 x.to, .int .i64 x.els]
/-- A slice of numbers: where it has an element it has a block, below B, and the cells hold the numbers. -/
def IntsAt (w : World) (L B : Nat) (a : Option Addr) (xs : List Int) : Prop :=
  ∀ i (h : i < xs.length), ∃ b o, a = some ⟨b, o, none⟩ ∧ (L ≤ b ∧ b < B) ∧ w.cell? ⟨b, o + i, none⟩ = some (.int .i64 xs[i])
def InsAt (w : World) (b o : Nat) (x : Ins) : Prop :=
  w.cell? ⟨b, o, none⟩ = some (.int .i64 x.op) ∧ w.cell? ⟨b, o + 1, none⟩ = some (.int .i64 x.dst) ∧ w.cell? ⟨b, o + 2, none⟩ = some (.int .i64 x.a) ∧
  w.cell? ⟨b, o + 3, none⟩ = some (.int .i64 x.b) ∧ w.cell? ⟨b, o + 4, none⟩ = some (.int .i64 x.imm)
def InssAt (w : World) (L B : Nat) (a : Option Addr) (xs : List Ins) : Prop :=
  ∀ i (h : i < xs.length), ∃ b o, a = some ⟨b, o, none⟩ ∧ (L ≤ b ∧ b < B) ∧ InsAt w b (o + i * 5) xs[i]
def TerAt (w : World) (b o : Nat) (x : Ter) : Prop :=
  w.cell? ⟨b, o, none⟩ = some (.int .i64 x.kind) ∧ w.cell? ⟨b, o + 1, none⟩ = some (.int .i64 x.a) ∧ w.cell? ⟨b, o + 2, none⟩ = some (.int .i64 x.to) ∧
  w.cell? ⟨b, o + 3, none⟩ = some (.int .i64 x.els)
def PhAt (w : World) (L B b o : Nat) (x : Ph) : Prop :=
  ∃ a c, w.cell? ⟨b, o, none⟩ = some (.int .i64 x.dst) ∧ w.cell? ⟨b, o + 1, none⟩ = some (.slice a x.args.length c) ∧ IntsAt w L B a x.args
def PhsAt (w : World) (L B : Nat) (a : Option Addr) (xs : List Ph) : Prop :=
  ∀ i (h : i < xs.length), ∃ b o, a = some ⟨b, o, none⟩ ∧ (L ≤ b ∧ b < B) ∧ PhAt w L B b (o + i * 2) xs[i]
def BlkAt (w : World) (L B b o : Nat) (x : Blk) : Prop :=
  ∃ pa pc ia ic, w.cell? ⟨b, o, none⟩ = some (.slice pa x.phis.length pc) ∧ w.cell? ⟨b, o + 1, none⟩ = some (.slice ia x.instrs.length ic) ∧
    TerAt w b (o + 2) x.term ∧ PhsAt w L B pa x.phis ∧ InssAt w L B ia x.instrs
def BlksAt (w : World) (L B : Nat) (a : Option Addr) (xs : List Blk) : Prop :=
  ∀ i (h : i < xs.length), ∃ b o, a = some ⟨b, o, none⟩ ∧ (L ≤ b ∧ b < B) ∧ BlkAt w L B b (o + i * 6) xs[i]
theorem hide {p : Prop} (h : p) : Hid p := h
theorem unhide {p : Prop} (h : Hid p) : p := h
theorem bnext {w w1 w2 : World} (h : Below w.heap.size w w1) (k : Below w1.heap.size w1 w2) : Below w.heap.size w w2 := h.trans (k.mono h.size)
theorem bcell {W w1 : World} (hb : Below W.heap.size W w1) : (∀ b o, b < W.heap.size → w1.cell? ⟨b, o, none⟩ = W.cell? ⟨b, o, none⟩) ∧ (∀ b o, b < W.heap.size → w1.frozen? ⟨b, o, none⟩ = W.frozen? ⟨b, o, none⟩) :=
  ⟨fun b o h => hb.cell (p := ⟨b, o, none⟩) h, fun b o h => hb.frozen (p := ⟨b, o, none⟩) h⟩
theorem balloc {w w1 : World} (h : Below w.heap.size w w1) (o : Obj) : Below w.heap.size w (w1.alloc o) := h.alloc h.size o
/-- From block L on nothing is frozen. -/
def Thaw (L : Nat) (w : World) : Prop := ∀ b o, L ≤ b → w.frozen? ⟨b, o, none⟩ = false
theorem Thaw.start (w : World) : Thaw w.heap.size w := fun b o h => by
  unfold World.frozen?
  rw [Array.getElem?_eq_none (by exact h)]
theorem Thaw.alloc {L : Nat} {w : World} (h : Thaw L w) (c : Array Value) (t : TypeId) : Thaw L (w.alloc (.cells c t)) := fun b o hb => by
  by_cases e : b < w.heap.size
  · rw [World.frozen?_of_block (w := w) (a := ⟨b, o, none⟩) (Below.heap_alloc _ _ _ e)]; exact h b o hb
  · unfold World.frozen?
    show (match (w.heap.push (.cells c t))[b]? with | some (.cells _ _ (lo, hi)) => decide (lo ≤ o) && decide (o < hi) | _ => false) = false
    rw [Array.getElem?_push]
    split
    · rename_i _ _ _ hh
      split at hh
      · cases hh; simp
      · rw [Array.getElem?_eq_none (by omega)] at hh; cases hh
    · rfl
theorem Thaw.setCell {L : Nat} {w : World} (h : Thaw L w) (p : Addr) (v : Value) : Thaw L (w.setCell p v) := fun b o hb => by rw [World.frozen?_setCell]; exact h b o hb
theorem Thaw.drew {L : Nat} {w : World} (h : Thaw L w) : Thaw L w.drew := h
theorem Thaw.trans {L : Nat} {w w1 : World} (h : Thaw L w) (k : Below w.heap.size w w1) (t : Thaw w.heap.size w1) : Thaw L w1 := fun b o hb => by
  by_cases e : b < w.heap.size
  · rw [k.frozen (p := ⟨b, o, none⟩) e]; exact h b o hb
  · exact t b o (by omega)
theorem Thaw.mono {L L' : Nat} {w : World} (h : Thaw L w) (l : L ≤ L') : Thaw L' w := fun b o hb => h b o (by omega)
variable {w w' : World} {L B : Nat}
/-- The blocks from L to below B are as they were. -/
def Same (L B : Nat) (w w' : World) : Prop := ∀ k, L ≤ k → k < B → w'.heap[k]? = w.heap[k]?
theorem Same.of_below (k : Below B w w') : Same L B w w' := fun i _ h => k.block i h
theorem Same.mono {L' B' : Nat} (h : Same L B w w') (l : L ≤ L') (k : B' ≤ B) : Same L' B' w w' := fun i hi hj => h i (by omega) (by omega)
theorem Same.trans {w2 : World} (h : Same L B w w') (k : Same L B w' w2) : Same L B w w2 := fun i hi hj => (k i hi hj).trans (h i hi hj)
theorem cell_of {b o : Nat} (h : w'.heap[b]? = w.heap[b]?) : w'.cell? ⟨b, o, none⟩ = w.cell? ⟨b, o, none⟩ := World.cell?_of_block (w := w) h
theorem IntsAt.keepS {a : Option Addr} {xs : List Int} (h : IntsAt w L B a xs) (k : Same L B w w') : IntsAt w' L B a xs := fun i hi => by
  obtain ⟨b, o, e, hb, hc⟩ := h i hi
  exact ⟨b, o, e, hb, by rw [cell_of (k b hb.1 hb.2)]; exact hc⟩
theorem InsAt.keepS {b o : Nat} {x : Ins} (h : InsAt w b o x) (k : w'.heap[b]? = w.heap[b]?) : InsAt w' b o x := by
  obtain ⟨h0, h1, h2, h3, h4⟩ := h
  exact ⟨(cell_of k).trans h0, (cell_of k).trans h1, (cell_of k).trans h2, (cell_of k).trans h3, (cell_of k).trans h4⟩
theorem TerAt.keepS {b o : Nat} {x : Ter} (h : TerAt w b o x) (k : w'.heap[b]? = w.heap[b]?) : TerAt w' b o x := by
  obtain ⟨h0, h1, h2, h3⟩ := h
  exact ⟨(cell_of k).trans h0, (cell_of k).trans h1, (cell_of k).trans h2, (cell_of k).trans h3⟩
theorem InssAt.keepS {a : Option Addr} {xs : List Ins} (h : InssAt w L B a xs) (k : Same L B w w') : InssAt w' L B a xs := fun i hi => by
  obtain ⟨b, o, e, hb, hc⟩ := h i hi
  exact ⟨b, o, e, hb, hc.keepS (k b hb.1 hb.2)⟩
theorem PhAt.keepS {b o : Nat} {x : Ph} (h : PhAt w L B b o x) (k : Same L B w w') (e : w'.heap[b]? = w.heap[b]?) : PhAt w' L B b o x := by
  obtain ⟨a, c, h0, h1, h2⟩ := h
  exact ⟨a, c, (cell_of e).trans h0, (cell_of e).trans h1, h2.keepS k⟩
theorem PhsAt.keepS {a : Option Addr} {xs : List Ph} (h : PhsAt w L B a xs) (k : Same L B w w') : PhsAt w' L B a xs := fun i hi => by
  obtain ⟨b, o, e, hb, hc⟩ := h i hi
  exact ⟨b, o, e, hb, hc.keepS k (k b hb.1 hb.2)⟩
theorem BlkAt.keepS {b o : Nat} {x : Blk} (h : BlkAt w L B b o x) (k : Same L B w w') (e : w'.heap[b]? = w.heap[b]?) : BlkAt w' L B b o x := by
  obtain ⟨pa, pc, ia, ic, h0, h1, h2, h3, h4⟩ := h
  exact ⟨pa, pc, ia, ic, (cell_of e).trans h0, (cell_of e).trans h1, h2.keepS e, h3.keepS k, h4.keepS k⟩
theorem BlksAt.keepS {a : Option Addr} {xs : List Blk} (h : BlksAt w L B a xs) (k : Same L B w w') : BlksAt w' L B a xs := fun i hi => by
  obtain ⟨b, o, e, hb, hc⟩ := h i hi
  exact ⟨b, o, e, hb, hc.keepS k (k b hb.1 hb.2)⟩
theorem IntsAt.keep {a : Option Addr} {xs : List Int} (h : IntsAt w L B a xs) (k : Below B w w') : IntsAt w' L B a xs := h.keepS (Same.of_below k)
theorem InsAt.keep {b o : Nat} {x : Ins} (h : InsAt w b o x) (k : Below B w w') (hb : b < B) : InsAt w' b o x := h.keepS (k.block b hb)
theorem TerAt.keep {b o : Nat} {x : Ter} (h : TerAt w b o x) (k : Below B w w') (hb : b < B) : TerAt w' b o x := h.keepS (k.block b hb)
theorem InssAt.keep {a : Option Addr} {xs : List Ins} (h : InssAt w L B a xs) (k : Below B w w') : InssAt w' L B a xs := h.keepS (Same.of_below k)
theorem PhAt.keep {b o : Nat} {x : Ph} (h : PhAt w L B b o x) (k : Below B w w') (hb : b < B) : PhAt w' L B b o x := h.keepS (Same.of_below k) (k.block b hb)
theorem PhsAt.keep {a : Option Addr} {xs : List Ph} (h : PhsAt w L B a xs) (k : Below B w w') : PhsAt w' L B a xs := h.keepS (Same.of_below k)
theorem BlkAt.keep {b o : Nat} {x : Blk} (h : BlkAt w L B b o x) (k : Below B w w') (hb : b < B) : BlkAt w' L B b o x := h.keepS (Same.of_below k) (k.block b hb)
theorem BlksAt.keep {a : Option Addr} {xs : List Blk} (h : BlksAt w L B a xs) (k : Below B w w') : BlksAt w' L B a xs := h.keepS (Same.of_below k)
/-- A greater bound. -/
theorem IntsAt.mono {L' B' : Nat} {a : Option Addr} {xs : List Int} (h : IntsAt w L B a xs) (l : L' ≤ L) (k : B ≤ B') : IntsAt w L' B' a xs := fun i hi => by
  obtain ⟨b, o, e, hb, hc⟩ := h i hi
  exact ⟨b, o, e, by omega, hc⟩
theorem InssAt.mono {L' B' : Nat} {a : Option Addr} {xs : List Ins} (h : InssAt w L B a xs) (l : L' ≤ L) (k : B ≤ B') : InssAt w L' B' a xs := fun i hi => by
  obtain ⟨b, o, e, hb, hc⟩ := h i hi
  exact ⟨b, o, e, by omega, hc⟩
theorem PhAt.mono {L' B' : Nat} {b o : Nat} {x : Ph} (h : PhAt w L B b o x) (l : L' ≤ L) (k : B ≤ B') : PhAt w L' B' b o x := by
  obtain ⟨a, c, h0, h1, h2⟩ := h
  exact ⟨a, c, h0, h1, h2.mono l k⟩
theorem PhsAt.mono {L' B' : Nat} {a : Option Addr} {xs : List Ph} (h : PhsAt w L B a xs) (l : L' ≤ L) (k : B ≤ B') : PhsAt w L' B' a xs := fun i hi => by
  obtain ⟨b, o, e, hb, hc⟩ := h i hi
  exact ⟨b, o, e, by omega, hc.mono l k⟩
theorem BlkAt.mono {L' B' : Nat} {b o : Nat} {x : Blk} (h : BlkAt w L B b o x) (l : L' ≤ L) (k : B ≤ B') : BlkAt w L' B' b o x := by
  obtain ⟨pa, pc, ia, ic, h0, h1, h2, h3, h4⟩ := h
  exact ⟨pa, pc, ia, ic, h0, h1, h2, h3.mono l k, h4.mono l k⟩
theorem BlksAt.mono {L' B' : Nat} {a : Option Addr} {xs : List Blk} (h : BlksAt w L B a xs) (l : L' ≤ L) (k : B ≤ B') : BlksAt w L' B' a xs := fun i hi => by
  obtain ⟨b, o, e, hb, hc⟩ := h i hi
  exact ⟨b, o, e, by omega, hc.mono l k⟩
end
def dB (op : Int) : Bool := decide (1 ≤ op ∧ op ≤ 8) || decide (op = 11) || decide (op = 13)
def aB (op : Int) : Bool := decide (3 ≤ op ∧ op ≤ 12)
def bB (op : Int) : Bool := decide (3 ≤ op ∧ op ≤ 7) || decide (op = 9)
def fld (u : Bool) (x lo hi : Int) : Bool := if u then decide (lo ≤ x) && decide (x < hi) else x == 0
def immOk (x : Ins) : Bool := if x.op == 1 then decide (-1000000000 ≤ x.imm) && decide (x.imm ≤ 1000000000) else if x.op == 2 then decide (0 ≤ x.imm) && decide (x.imm < 8) else x.imm == 0
def insOk (n most : Int) (x : Ins) : Bool :=
  decide (1 ≤ x.op) && decide (x.op ≤ most) && fld (dB x.op) x.dst 0 n && fld (aB x.op) x.a 0 n && fld (bB x.op) x.b 0 n && immOk x
def terOk (n low blocks : Int) (t : Ter) : Bool :=
  decide (1 ≤ t.kind) && decide (t.kind ≤ 3) && fld (t.kind != 1) t.a 0 n && fld (t.kind != 3) t.to low blocks && fld (t.kind == 2) t.els low blocks
def terOk' (n blocks : Int) (t : Ter) : Bool := terOk n 1 blocks t && !(t.kind == 2 && t.to == t.els)
def Ter.targets (t : Ter) : List Int := if t.kind = 1 then [t.to] else if t.kind = 2 then [t.to, t.els] else []
def phSize (ps : List Ph) : Nat := (ps.map fun p => 1 + p.args.length).sum
def blkSize (x : Blk) : Nat := 1 + x.instrs.length + phSize x.phis
def blksSize (xs : List Blk) : Nat := (xs.map blkSize).sum
/-- The predecessors of block b among blocks that are numbered from i on. -/
def predsFrom : List Blk → Nat → Int → List Int
  | [], _, _ => []
  | x :: xs, i, b => (if x.term.targets.contains b then [(i : Int)] else []) ++ predsFrom xs (i + 1) b
def Fn.preds (F : Fn) (b : Int) : List Int := predsFrom F.blocks 0 b
def phDefs (ps : List Ph) : List Int := ps.map (·.dst)
def insDefs (xs : List Ins) : List Int := (xs.filter fun x => dB x.op).map (·.dst)
def blkDefs (x : Blk) : List Int := phDefs x.phis ++ insDefs x.instrs
def blksDefs (xs : List Blk) : List Int := xs.flatMap blkDefs
def sizeOk (F : Fn) : Bool := decide (0 ≤ F.values) && decide (F.values ≤ 2000) && decide (1 ≤ F.blocks.length) && decide (F.blocks.length ≤ 1000) && decide (blksSize F.blocks ≤ 4000)
def termsOk (F : Fn) : Bool := F.blocks.all fun x => terOk' F.values F.blocks.length x.term
def instrsOk (F : Fn) : Bool := F.blocks.all fun x => x.instrs.all (insOk F.values 10)
/-- One phi by the specification: of its Dst nothing is said here. -/
def phOkS (n : Int) (k : Nat) (p : Ph) : Bool := decide (1 ≤ p.args.length) && decide (p.args.length = k) && p.args.all (fun a => decide (0 ≤ a) && decide (a < n))
def phOkI (n : Int) (k : Nat) (p : Ph) : Bool := fld true p.dst 0 n && phOkS n k p
def phisFrom (ok : Int → Nat → Ph → Bool) (F : Fn) (xs : List Blk) (i : Nat) : Bool :=
  match xs with
  | [] => true
  | x :: xs => x.phis.all (ok F.values (F.preds i).length) && phisFrom ok F xs (i + 1)
def phisOkS (F : Fn) : Bool := phisFrom phOkS F F.blocks 0
def phisOkI (F : Fn) : Bool := phisFrom phOkI F F.blocks 0
def countEq (xs : List Int) (v : Int) : Nat := (xs.filter fun x => x == v).length
def onceOk (F : Fn) : Bool := (List.range F.values.toNat).all fun v => countEq (blksDefs F.blocks) v == 1
def coverOk (F : Fn) : Bool := decide (((blksDefs F.blocks).length : Int) = F.values) && (List.range F.values.toNat).all fun v => (blksDefs F.blocks).contains (v : Int)
def validI (F : Fn) : Bool := sizeOk F && termsOk F && instrsOk F && phisOkI F && onceOk F
def validS (F : Fn) : Bool := sizeOk F && (instrsOk F && termsOk F) && phisOkS F && coverOk F
/-- What the counting of sizes leaves of l: -1 where it does not suffice. -/
def szR (l : Int) (n : Nat) : Int := if l < n then -1 else l - n
theorem szR_neg {l : Int} {n : Nat} (h : l < n) : szR l n = -1 := if_pos h
theorem szR_pos {l : Int} {n : Nat} (h : (n : Int) ≤ l) : szR l n = l - n := if_neg (by omega)
def phTot (ps : List Ph) : Nat := (ps.map fun p => p.args.length).sum
def blkTot (x : Blk) : Nat := x.phis.length + phTot x.phis + x.instrs.length
def blksTot (xs : List Blk) : Nat := (xs.map blkTot).sum
theorem phTot_snoc (ps : List Ph) (p : Ph) : phTot (ps ++ [p]) = phTot ps + p.args.length := by simp [phTot]
theorem blksTot_snoc (ps : List Blk) (p : Blk) : blksTot (ps ++ [p]) = blksTot ps + blkTot p := by simp [blksTot]
theorem sum_take_le {α : Type} (f : α → Nat) (xs : List α) (k : Nat) : ((xs.take k).map f).sum ≤ (xs.map f).sum := by
  induction xs generalizing k with
  | nil => simp
  | cons x xs ih => cases k with
    | zero => simp
    | succ k => simp only [List.take_succ_cons, List.map_cons, List.sum_cons]; have := ih k; omega
theorem phTot_take (ps : List Ph) (k : Nat) : phTot (ps.take k) ≤ phTot ps := sum_take_le _ _ _
theorem blksTot_take (ps : List Blk) (k : Nat) : blksTot (ps.take k) ≤ blksTot ps := sum_take_le _ _ _
theorem countEq_count (l : List Int) (v : Int) : countEq l v = l.count v := by
  unfold countEq
  rw [List.count, List.countP_eq_length_filter]
theorem cover_to (n : Nat) : ∀ l : List Int, l.length = n → (∀ v : Nat, v < n → (v : Int) ∈ l) → (∀ d ∈ l, 0 ≤ d ∧ d < n) ∧ ∀ v : Nat, v < n → l.count (v : Int) = 1 := by
  induction n with
  | zero =>
    intro l hl _
    have : l = [] := List.eq_nil_of_length_eq_zero hl
    subst this
    exact ⟨fun d hd => (List.not_mem_nil hd).elim, fun v hv => absurd hv (by omega)⟩
  | succ n ih =>
    intro l hl hv
    have hm := hv n (by omega)
    have hlen : (l.erase (n : Int)).length = n := by rw [List.length_erase_of_mem hm]; omega
    have hmem : ∀ v : Nat, v < n → (v : Int) ∈ l.erase (n : Int) := fun v h => (List.mem_erase_of_ne (by omega)).2 (hv v (by omega))
    obtain ⟨h1, h2⟩ := ih _ hlen hmem
    have hp := List.perm_cons_erase hm
    refine ⟨fun d hd => ?_, fun v h => ?_⟩
    · rcases List.mem_cons.1 (hp.mem_iff.1 hd) with rfl | hd
      · omega
      · have := h1 d hd; omega
    · rw [hp.count_eq, List.count_cons]
      by_cases e : v = n
      · subst e
        have : (l.erase (v : Int)).count (v : Int) = 0 := List.count_eq_zero.2 (fun hh => by have := h1 _ hh; omega)
        simp [this]
      · rw [h2 v (by omega)]
        have : ((n : Int) == (v : Int)) = false := by simp; omega
        simp [this]
theorem cover_from (n : Nat) : ∀ l : List Int, (∀ d ∈ l, 0 ≤ d ∧ d < n) → (∀ v : Nat, v < n → l.count (v : Int) = 1) → l.length = n ∧ ∀ v : Nat, v < n → (v : Int) ∈ l := by
  induction n with
  | zero =>
    intro l hl _
    have : l = [] := List.eq_nil_iff_forall_not_mem.2 (fun d hd => by have := hl d hd; omega)
    subst this
    exact ⟨rfl, fun v hv => absurd hv (by omega)⟩
  | succ n ih =>
    intro l hl hc
    have hm : (n : Int) ∈ l := List.count_pos_iff.1 (by rw [hc n (by omega)]; omega)
    have hp := List.perm_cons_erase hm
    have hc0 : (l.erase (n : Int)).count (n : Int) = 0 := by rw [List.count_erase_self, hc n (by omega)]
    have h1 : ∀ d ∈ l.erase (n : Int), 0 ≤ d ∧ d < n := fun d hd => by
      have h := hl d (List.mem_of_mem_erase hd)
      have hne : d ≠ n := fun e => by subst e; exact absurd hd (List.count_eq_zero.1 hc0)
      omega
    have h2 : ∀ v : Nat, v < n → (l.erase (n : Int)).count (v : Int) = 1 := fun v h => by
      rw [List.count_erase_of_ne (by omega)]; exact hc v (by omega)
    obtain ⟨k1, k2⟩ := ih _ h1 h2
    refine ⟨by have := List.length_erase_of_mem hm; have : 0 < l.length := List.length_pos_of_mem hm; omega, fun v h => ?_⟩
    exact List.count_pos_iff.1 (by rw [hc v h]; omega)
/-- All values that the phis of the blocks define. -/
def dstsOk (n : Int) (xs : List Blk) : Bool := xs.all fun x => x.phis.all fun p => fld true p.dst 0 n
theorem all_and {α : Type} (p q : α → Bool) (l : List α) : l.all (fun x => p x && q x) = (l.all p && l.all q) := by
  induction l with
  | nil => rfl
  | cons x l ih => simp only [List.all_cons, ih]; cases p x <;> cases q x <;> cases l.all p <;> simp
theorem phisFrom_split (F : Fn) : ∀ (xs : List Blk) (i : Nat), phisFrom phOkI F xs i = (dstsOk F.values xs && phisFrom phOkS F xs i) := by
  intro xs
  induction xs with
  | nil => intro i; rfl
  | cons x xs ih =>
    intro i
    simp only [phisFrom, dstsOk, List.all_cons, ih]
    have : x.phis.all (phOkI F.values (F.preds ↑i).length) = (x.phis.all (fun p => fld true p.dst 0 F.values) && x.phis.all (phOkS F.values (F.preds ↑i).length)) := all_and _ _ _
    rw [this]
    cases x.phis.all (fun p => fld true p.dst 0 F.values) <;> cases x.phis.all (phOkS F.values (F.preds ↑i).length) <;> simp
theorem defs_range (F : Fn) (hi : instrsOk F = true) : (dstsOk F.values F.blocks = true ↔ ∀ d ∈ blksDefs F.blocks, 0 ≤ d ∧ d < F.values) := by
  unfold dstsOk blksDefs
  simp only [List.all_eq_true, List.mem_flatMap, blkDefs, phDefs, insDefs, List.mem_append, List.mem_map, List.mem_filter, fld, if_true, Bool.and_eq_true, decide_eq_true_eq]
  constructor
  · rintro h d ⟨x, hx, ⟨p, hp, rfl⟩ | ⟨y, ⟨hy, hd⟩, rfl⟩⟩
    · exact h x hx p hp
    · have := List.all_eq_true.1 (List.all_eq_true.1 hi x hx) y hy
      simp only [insOk, hd, fld, if_true, Bool.and_eq_true, decide_eq_true_eq] at this
      omega
  · intro h x hx p hp
    exact h _ ⟨x, hx, Or.inl ⟨p, hp, rfl⟩⟩
theorem once_cover (F : Fn) (h0 : 0 ≤ F.values) (hi : instrsOk F = true) : (dstsOk F.values F.blocks && onceOk F) = coverOk F := by
  rw [Bool.eq_iff_iff]
  obtain ⟨n, hn⟩ := Int.eq_ofNat_of_zero_le h0
  rw [Bool.and_eq_true, defs_range F hi]
  unfold onceOk coverOk
  rw [hn]
  simp only [List.all_eq_true, List.mem_range, Int.toNat_natCast, beq_iff_eq, Bool.and_eq_true, decide_eq_true_eq, List.contains_iff_mem, countEq_count]
  constructor
  · rintro ⟨h1, h2⟩
    obtain ⟨k1, k2⟩ := cover_from n _ h1 h2
    exact ⟨by omega, k2⟩
  · rintro ⟨h1, h2⟩
    exact cover_to n _ (by omega) h2
theorem valid_same (F : Fn) : validI F = validS F := by
  unfold validI validS phisOkI phisOkS
  rw [phisFrom_split]
  cases hs : sizeOk F
  · simp
  cases hi : instrsOk F
  · simp
  cases ht : termsOk F
  · simp
  have h0 : 0 ≤ F.values := by
    simp only [sizeOk, Bool.and_eq_true, decide_eq_true_eq] at hs
    omega
  have := once_cover F h0 hi
  rw [← this]
  cases dstsOk F.values F.blocks <;> cases phisFrom phOkS F F.blocks 0 <;> simp
end Go.Proofs.YtanaeindldcapaaDoor
