import Derived.Test.YtdcdgopblbmgoaaGreatDoorQO
import Derived.Deep.AppendLies
import Derived.Test.YtdcdgopblbmgoaaGreatDoorQL
import Derived.Test.YtdcdgopblbmgoaaGreatDoorPM2
import Derived.Deep.RegionHeld3
/-
  What lies in memory while a function is run. Imports nothing of the program.
-/
namespace Go.Proofs.YtdcdgopblbmgoaaGreatDoor
open Go.RowKit

/-- Below B nothing has turned but blocks gv and gh. -/
structure Kb (B gv gh : Nat) (w w' : World) : Prop where
  os : w'.os = w.os
  tape : w'.tape = w.tape
  output : w'.output = w.output
  size : w.heap.size ≤ w'.heap.size
  block : ∀ k, k < B → k ≠ gv → k ≠ gh → w'.heap[k]? = w.heap[k]?
variable {w w' w1 w2 : World} {B gv gh : Nat}
theorem Kb.refl (B gv gh : Nat) (w : World) : Kb B gv gh w w := ⟨rfl, rfl, rfl, Nat.le_refl _, fun _ _ _ _ => rfl⟩
theorem Kb.trans (h : Kb B gv gh w w1) (k : Kb B gv gh w1 w2) : Kb B gv gh w w2 := ⟨k.os.trans h.os, k.tape.trans h.tape, k.output.trans h.output, Nat.le_trans h.size k.size, fun i a b c => (k.block i a b c).trans (h.block i a b c)⟩
theorem Kb.of_below (h : Below B w w1) : Kb B gv gh w w1 := ⟨h.os, h.tape, h.output, h.size, fun i a _ _ => h.block i a⟩
theorem Kb.mono {B' : Nat} (h : Kb B gv gh w w1) (hb : B' ≤ B) : Kb B' gv gh w w1 := ⟨h.os, h.tape, h.output, h.size, fun i a b c => h.block i (by omega) b c⟩
theorem Kb.below {B' : Nat} (h : Kb B gv gh w w1) (hb : B' ≤ B) (h1 : B' ≤ gv) (h2 : B' ≤ gh) : Below B' w w1 := ⟨h.os, h.tape, h.output, h.size, fun i a => h.block i (by omega) (by omega) (by omega)⟩
theorem Kb.set (h : Kb B gv gh w w1) {b o : Nat} (hb : b = gv ∨ b = gh) (v : Value) : Kb B gv gh w (w1.setCell ⟨b, o, none⟩ v) :=
  h.trans ⟨rfl, rfl, rfl, by simp [World.setCell], fun k _ h1 h2 => Below.heap_setCell _ _ _ _ (by dsimp only; omega)⟩

/-- The three rows of a run. -/
structure RunMem (w : World) (B gv gh : Nat) (t : Nat) (tv : Value) (vals hp tr : List Int) : Prop where
  vals : IntsW w gv vals
  heap : IntsW w gh hp
  own : w.ownsRow B t 1 tv tr.length (tr.map (Value.int .i64))
  ne : gv ≠ gh
  tvals : tv.ownBlock ≠ some gv
  theap : tv.ownBlock ≠ some gh
variable {t : Nat} {tv : Value} {vals hp tr : List Int}
theorem own_keep {x : Value} {n : Nat} {xs : List Value} (h : w.ownsRow B t 1 x n xs) (k : ∀ b, x.ownBlock = some b → w1.heap[b]? = w.heap[b]?) : w1.ownsRow B t 1 x n xs := by
  obtain ⟨hl, h | ⟨g, cap, cur, rfl, hg, hh, hc⟩⟩ := h
  · exact ⟨hl, Or.inl h⟩
  · exact ⟨hl, Or.inr ⟨g, cap, cur, rfl, hg, (k g rfl).trans hh, hc⟩⟩
theorem RunMem.keep (h : RunMem w B gv gh t tv vals hp tr) (k : ∀ b, b < w.heap.size → w1.heap[b]? = w.heap[b]?) : RunMem w1 B gv gh t tv vals hp tr :=
  ⟨h.vals.keep (k _ h.vals.lt), h.heap.keep (k _ h.heap.lt), own_keep h.own (fun b e => k b (h.own.lt b e).2), h.ne, h.tvals, h.theap⟩
theorem RunMem.setV (h : RunMem w B gv gh t tv vals hp tr) {i : Nat} (hi : i < vals.length) (v : Int) : RunMem (w.setCell ⟨gv, i, none⟩ (.int .i64 v)) B gv gh t tv (vals.set i v) hp tr :=
  ⟨h.vals.set hi v, h.heap.keep (Below.heap_setCell _ _ _ _ (fun e => h.ne e.symm)), own_keep h.own (fun b e => Below.heap_setCell _ _ _ _ (fun e2 => h.tvals (by rw [e, e2]))), h.ne, h.tvals, h.theap⟩
theorem RunMem.setH (h : RunMem w B gv gh t tv vals hp tr) {i : Nat} (hi : i < hp.length) (v : Int) : RunMem (w.setCell ⟨gh, i, none⟩ (.int .i64 v)) B gv gh t tv vals (hp.set i v) tr :=
  ⟨h.vals.keep (Below.heap_setCell _ _ _ _ h.ne), h.heap.set hi v, own_keep h.own (fun b e => Below.heap_setCell _ _ _ _ (fun e2 => h.theap (by rw [e, e2]))), h.ne, h.tvals, h.theap⟩

theorem Kb.drew (h : Kb B gv gh w w1) : Kb B gv gh w w1.drew := ⟨h.os, h.tape, h.output, h.size, h.block⟩
theorem RunMem.drew (h : RunMem w B gv gh t tv vals hp tr) : RunMem w.drew B gv gh t tv vals hp tr := h.keep (fun _ _ => rfl)
/-- A run's rows in W, and block r apart from them. -/
structure Rn (w : World) (r B gv gh t : Nat) (tv : Value) (vals hp tr : List Int) (W : World) : Prop where
  kb : Kb B gv gh w W
  mem : RunMem W B gv gh t tv vals hp tr
  rv : r ≠ gv
  rh : r ≠ gh
  rt : tv.ownBlock ≠ some r
  rB : B ≤ r
variable {r : Nat} {W : World}
theorem Rn.drew (h : Rn w r B gv gh t tv vals hp tr W) : Rn w r B gv gh t tv vals hp tr W.drew := ⟨h.kb.drew, h.mem.drew, h.rv, h.rh, h.rt, h.rB⟩
theorem Rn.out (h : Rn w r B gv gh t tv vals hp tr W) (i : Nat) (v : Value) : Rn w r B gv gh t tv vals hp tr (W.setCell ⟨r, i, none⟩ v) :=
  ⟨h.kb.trans ⟨rfl, rfl, rfl, by simp [World.setCell], fun k hk _ _ => Below.heap_setCell _ _ _ _ (by have := h.rB; dsimp only; omega)⟩,
   ⟨h.mem.vals.keep (Below.heap_setCell _ _ _ _ (fun e => h.rv e.symm)), h.mem.heap.keep (Below.heap_setCell _ _ _ _ (fun e => h.rh e.symm)), own_keep h.mem.own (fun b e => Below.heap_setCell _ _ _ _ (fun e2 => h.rt (by rw [e, e2]))), h.mem.ne, h.mem.tvals, h.mem.theap⟩, h.rv, h.rh, h.rt, h.rB⟩
theorem Rn.setV (h : Rn w r B gv gh t tv vals hp tr W) {i : Nat} (hi : i < vals.length) (v : Int) : Rn w r B gv gh t tv (vals.set i v) hp tr (W.setCell ⟨gv, i, none⟩ (.int .i64 v)) :=
  ⟨h.kb.set (Or.inl rfl) _, h.mem.setV hi v, h.rv, h.rh, h.rt, h.rB⟩
theorem Rn.setH (h : Rn w r B gv gh t tv vals hp tr W) {i : Nat} (hi : i < hp.length) (v : Int) : Rn w r B gv gh t tv vals (hp.set i v) tr (W.setCell ⟨gh, i, none⟩ (.int .i64 v)) :=
  ⟨h.kb.set (Or.inr rfl) _, h.mem.setH hi v, h.rv, h.rh, h.rt, h.rB⟩
theorem Rn.out5 (h : Rn w r B gv gh t tv vals hp tr W) (v0 v1 v2 v3 v4 : Value) : Rn w r B gv gh t tv vals hp tr (((((W.setCell ⟨r, 0, none⟩ v0).setCell ⟨r, 1, none⟩ v1).setCell ⟨r, 2, none⟩ v2).setCell ⟨r, 3, none⟩ v3).setCell ⟨r, 4, none⟩ v4) :=
  ((((h.out _ _).out _ _).out _ _).out _ _).out _ _
theorem Rn.of (h : RunMem w B gv gh t tv vals hp tr) (hB : B ≤ w.heap.size) (k : Below w.heap.size w W) (hr : w.heap.size ≤ r) : Rn w r B gv gh t tv vals hp tr W :=
  ⟨Kb.of_below (k.mono hB), h.keep k.block, by have := h.vals.lt; omega, by have := h.heap.lt; omega, fun e => by have := (h.own.lt _ e).2; omega, by omega⟩

/-- A number has been written into the trace. -/
theorem Rn.push (h : Rn w r B gv gh t tv vals hp tr W) {g cap : Nat} {x : Int} {n : Nat} (hn : n = (tr ++ [x]).length) (ho : w1.ownsRow B t 1 (.slice (some ⟨g, 0, none⟩) n cap) n (tr.map (Value.int .i64) ++ [.int .i64 x])) (hg : W.grownBy w1 tv.ownBlock) (hat : tv.ownBlock = some g ∨ W.heap.size ≤ g) (hr : r < W.heap.size) :
    Rn w r B gv gh t (.slice (some ⟨g, 0, none⟩) n cap) vals hp (tr ++ [x]) w1 := by
  subst hn
  have hvl := h.mem.vals.lt
  have hhl := h.mem.heap.lt
  refine ⟨h.kb.trans ⟨hg.os, hg.tape, hg.output, hg.size, fun k hk _ _ => ?_⟩, ⟨h.mem.vals.keep (hg.block _ hvl (fun e => h.mem.tvals e.symm)), h.mem.heap.keep (hg.block _ hhl (fun e => h.mem.theap e.symm)), by rw [List.map_append]; exact ho, h.mem.ne, ?_, ?_⟩, h.rv, h.rh, ?_, h.rB⟩
  · by_cases hkw : k < W.heap.size
    · exact hg.block k hkw (fun e => by have := (h.mem.own.lt k e.symm).1; omega)
    · have := h.rB; omega
  · rcases hat with e | e
    · rw [show (Value.slice (some ⟨g, 0, none⟩) (tr ++ [x]).length cap).ownBlock = some g from rfl, ← e]; exact h.mem.tvals
    · intro e2; injection e2 with e3; dsimp only at e3; omega
  · rcases hat with e | e
    · rw [show (Value.slice (some ⟨g, 0, none⟩) (tr ++ [x]).length cap).ownBlock = some g from rfl, ← e]; exact h.mem.theap
    · intro e2; injection e2 with e3; dsimp only at e3; omega
  · rcases hat with e | e
    · rw [show (Value.slice (some ⟨g, 0, none⟩) (tr ++ [x]).length cap).ownBlock = some g from rfl, ← e]; exact h.rt
    · intro e2; injection e2 with e3; dsimp only at e3; omega

/-- One instruction, no trap. -/
def execV (x : Ins) (args vals hp : List Int) : List Int :=
  if x.op = 1 then setN vals x.dst x.imm else if x.op = 2 then setN vals x.dst (argR args x.imm) else if x.op = 8 then setN vals x.dst (getN hp (getN vals x.a % 32))
  else if x.op = 9 then vals else if x.op = 10 then vals else setN vals x.dst (arithR x.op (getN vals x.a) (getN vals x.b))
def execH (x : Ins) (vals hp : List Int) : List Int := if x.op = 9 then setN hp (getN vals x.a % 32) (getN vals x.b) else hp
def execT (x : Ins) (vals tr : List Int) : List Int := if x.op = 10 then tr ++ [getN vals x.a] else tr
theorem execV_len (x : Ins) (args vals hp : List Int) : (execV x args vals hp).length = vals.length := by
  unfold execV
  repeat' split
  all_goals simp [setN_len]
theorem execH_len (x : Ins) (vals hp : List Int) : (execH x vals hp).length = hp.length := by
  unfold execH
  split
  all_goals simp [setN_len]
theorem execT_len (x : Ins) (vals tr : List Int) : (execT x vals tr).length ≤ tr.length + 1 := by
  unfold execT
  split
  all_goals simp
theorem fld_yes {u : Bool} {x lo hi : Int} (h : fld u x lo hi = true) (hu : u = true) : lo ≤ x ∧ x < hi := by
  subst hu
  simpa [fld] using h
theorem ins_facts {n : Int} {x : Ins} (h : insOk n 10 x = true) : (1 ≤ x.op ∧ x.op ≤ 10) ∧ (dB x.op = true → 0 ≤ x.dst ∧ x.dst < n) ∧ (aB x.op = true → 0 ≤ x.a ∧ x.a < n) ∧ (bB x.op = true → 0 ≤ x.b ∧ x.b < n) ∧ (x.op = 2 → 0 ≤ x.imm ∧ x.imm < 8) := by
  simp only [insOk, Bool.and_eq_true, decide_eq_true_eq] at h
  obtain ⟨⟨⟨⟨⟨h1, h2⟩, h3⟩, h4⟩, h5⟩, h6⟩ := h
  refine ⟨⟨h1, h2⟩, fld_yes h3, fld_yes h4, fld_yes h5, fun e => ?_⟩
  simpa [immOk, e] using h6
theorem Kb.cell {g b o : Nat} (h : Kb B g g w w') (hb : b < B) (hne : b ≠ g) : w'.cell? ⟨b, o, none⟩ = w.cell? ⟨b, o, none⟩ := cell_of (h.block b hb hne hne)

/-- The reading of one phi, seen from the first j predecessors. -/
def entIn (ps : List Int) (p : Int) (ph : Ph) (vals : List Int) : Nat → List Int → List Int
  | 0, o => o
  | j + 1, o => if ps.getD j (-1) = p then setN (entIn ps p ph vals j o) ph.dst (getN vals (ph.args.getD j 0)) else entIn ps p ph vals j o
/-- All phis of a block at once. -/
def entTo (ps : List Int) (p : Int) (phs : List Ph) (vals : List Int) : List Int := phs.foldl (fun o ph => entIn ps p ph vals ps.length o) vals
theorem entIn_len (ps : List Int) (p : Int) (ph : Ph) (vals : List Int) (j : Nat) (o : List Int) : (entIn ps p ph vals j o).length = o.length := by
  induction j with
  | zero => rfl
  | succ j ih => unfold entIn; split <;> simp [setN_len, ih]
theorem entTo_len (ps : List Int) (p : Int) (phs : List Ph) (vals : List Int) : (entTo ps p phs vals).length = vals.length := by
  unfold entTo
  suffices h : ∀ o : List Int, (phs.foldl (fun o ph => entIn ps p ph vals ps.length o) o).length = o.length from h vals
  induction phs with
  | nil => intro o; rfl
  | cons x xs ih => intro o; rw [List.foldl_cons, ih, entIn_len]
theorem entTo_snoc (ps : List Int) (p : Int) (phs : List Ph) (ph : Ph) (vals : List Int) : entTo ps p (phs ++ [ph]) vals = entIn ps p ph vals ps.length (entTo ps p phs vals) := by simp [entTo]
theorem phOk_facts {n : Int} {k : Nat} {p : Ph} (h : phOkI n k p = true) : (0 ≤ p.dst ∧ p.dst < n) ∧ p.args.length = k ∧ ∀ a ∈ p.args, 0 ≤ a ∧ a < n := by
  simp only [phOkI, phOkS, Bool.and_eq_true, decide_eq_true_eq, List.all_eq_true] at h
  obtain ⟨h1, ⟨h2, h3⟩, h4⟩ := h
  exact ⟨fld_yes h1 rfl, h3, h4⟩
end Go.Proofs.YtdcdgopblbmgoaaGreatDoor

/-
  put of the program's reader: a block, a phi.
-/
namespace Go.Proofs.YtdcdgopblbmgoaaGreatDoor
open Go.RowKit Go.Shelf

theorem heapNew (w : World) (o : Obj) : (w.alloc o).heap[w.heap.size]? = some o := by show (w.heap.push o)[w.heap.size]? = some o; simp
theorem Tryz.infoBlk2 : (Tryz.prog.info? 46).map (fun i => (i.zero, i.size, i.bytes)) = some (some (.agg #[.slice none 0 0, .slice none 0 0, .int .i64 0, .int .i64 0, .int .i64 0, .int .i64 0]), 6, 80) := by kernel_rfl
theorem Tryz.infoIns2 : (Tryz.prog.info? 53).map (fun i => (i.zero, i.size, i.bytes)) = some (some (.agg #[.int .i64 0, .int .i64 0, .int .i64 0, .int .i64 0, .int .i64 0]), 5, 40) := by kernel_rfl
theorem Tryz.infoPhi2 : (Tryz.prog.info? 49).map (fun i => (i.zero, i.size, i.bytes)) = some (some (.agg #[.int .i64 0, .slice none 0 0]), 2, 32) := by kernel_rfl

/-- The reader's state. -/
structure RSt (w : World) (R : Nat) (wd : Value) (V : Int) (B0 : Nat) (s : Pst) (va : Option Addr) (vn vc : Nat) : Prop where
  rd : RdAt w R wd V va vn vc s.cur.isSome
  st : StAt2 w B0 va vn vc s
  fz : ∀ o, w.frozen? ⟨R, o, none⟩ = false
  lo : R < B0 ∧ B0 ≤ w.heap.size
theorem RdAt.keep {w w' : World} {R : Nat} {wd : Value} {V : Int} {va : Option Addr} {n c : Nat} {op : Bool} (h : RdAt w R wd V va n c op) (k : w'.heap[R]? = w.heap[R]?) : RdAt w' R wd V va n c op := ⟨(cell_of k).trans h.words, (cell_of k).trans h.values, (cell_of k).trans h.blocks, (cell_of k).trans h.opened⟩
theorem RSt.keep {w w' : World} {R : Nat} {wd : Value} {V : Int} {B0 : Nat} {s : Pst} {va : Option Addr} {vn vc : Nat} (h : RSt w R wd V B0 s va vn vc) (k : Below w.heap.size w w') : RSt w' R wd V B0 s va vn vc := by
  obtain ⟨l1, l2⟩ := h.lo
  have hs := k.size
  have q := k.block R (by omega)
  exact ⟨h.rd.keep q, h.st.keep (fun b _ h2 => k.block b h2) hs, fun o => (World.frozen?_of_block q).trans (h.fz o), ⟨l1, by omega⟩⟩
theorem Kb.low' {B r : Nat} {w w1 : World} (hos : w1.os = w.os) (htp : w1.tape = w.tape) (hou : w1.output = w.output) (hs : w.heap.size ≤ w1.heap.size) (h : ∀ b, b < B → b ≠ r → w1.heap[b]? = w.heap[b]?) : Kb B r r w w1 := ⟨hos, htp, hou, hs, fun b h1 h2 _ => h b h1 h2⟩

set_option maxHeartbeats 2000000 in
set_option maxRecDepth 100000 in
theorem put_block (R : Nat) (wd : Value) (V : Int) (B0 : Nat) (pre : List Blk) (va : Option Addr) (vn vc : Nat) (code : Int) (na : Option Addr) (nn nc : Nat) (w : World) (h : Hid (RSt w R wd V B0 ⟨pre, none⟩ va vn vc)) (hvb : vn ≤ 100000) :
    Calls Tryz.prog 79 #[.pointer (some ⟨R, 0, none⟩), opV 0 code, .slice na nn nc] w fun e w' => e = .returned (.tuple #[]) ∧ ∃ va' vn' vc', RSt w' R wd V B0 ⟨pre, some ([], [])⟩ va' vn' vc' ∧ Kb B0 R R w w' := by
  obtain ⟨hvn, hbc⟩ := h.out.st
  dsimp only at hvn hbc
  obtain ⟨cs, hcs⟩ := hbc.own
  obtain ⟨lo1, lo2⟩ := h.out.lo
  have hRl : R < w.heap.size := by omega
  have b1 := fun x => balloc (Below.refl w.heap.size w) x
  have c2 := fun x => ((b1 x).cell (p := ⟨R, 2, none⟩) hRl).trans h.out.rd.blocks
  have HAP : Hid (∀ x y, ((w.alloc x).alloc y).ownsRow B0 46 6 (.slice va vn vc) vn cs) := hide (fun x y => by rw [hvn]; exact ownKeep hcs (fun b e => (balloc (b1 x) y).block b (hcs.lt b e).2))
  have HGW : Hid (∀ x t g' cap' wN, wN.ownsRow B0 46 6 (.slice (some ⟨g', 0, none⟩) (vn + 1) cap') (vn + 1) (cs ++ [.slice none 0 0, .slice none 0 0, .int .i64 0, .int .i64 0, .int .i64 0, .int .i64 0]) → ((w.alloc x).alloc (.cells #[.slice none 0 0, .slice none 0 0, .int .i64 0, .int .i64 0, .int .i64 0, .int .i64 0] t)).grownBy wN (Value.slice va vn vc).ownBlock → ((Value.slice va vn vc).ownBlock = some g' ∨ g' = w.heap.size + 1 + 1) → wN.cell? ⟨R, 2, none⟩ = some (.slice va vn vc) ∧ wN.cell? ⟨R, 3, none⟩ = some (.bool false) ∧ (∀ o, wN.frozen? ⟨R, o, none⟩ = false) ∧ RSt ((wN.setCell ⟨R, 2, none⟩ (.slice (some ⟨g', 0, none⟩) (vn + 1) cap')).setCell ⟨R, 3, none⟩ (.bool true)) R wd V B0 ⟨pre, some ([], [])⟩ (some ⟨g', 0, none⟩) (vn + 1) cap' ∧ Kb B0 R R w ((wN.setCell ⟨R, 2, none⟩ (.slice (some ⟨g', 0, none⟩) (vn + 1) cap')).setCell ⟨R, 3, none⟩ (.bool true))) := hide (fun x t g' cap' wN ho hg hat => by
    have b2 := balloc (b1 x) (.cells #[.slice none 0 0, .slice none 0 0, .int .i64 0, .int .i64 0, .int .i64 0, .int .i64 0] t)
    have e2 : ((w.alloc x).alloc (.cells #[.slice none 0 0, .slice none 0 0, .int .i64 0, .int .i64 0, .int .i64 0, .int .i64 0] t)).heap.size = w.heap.size + 1 + 1 := by simp
    have hgs := hg.size
    rw [e2] at hgs
    have hcb := hbc.keep (w' := (w.alloc x).alloc (.cells #[.slice none 0 0, .slice none 0 0, .int .i64 0, .int .i64 0, .int .i64 0, .int .i64 0] t)) (fun b _ h2 => b2.block b h2) (by omega)
    have hcs' := HAP.out x (.cells #[.slice none 0 0, .slice none 0 0, .int .i64 0, .int .i64 0, .int .i64 0, .int .i64 0] t)
    rw [hvn] at hcs' ho hg hat ⊢
    have hbo := hcb.open_ hcs' ho hg (by rw [e2]; exact hat)
    have low : ∀ b, b < B0 → wN.heap[b]? = w.heap[b]? := fun b hb => (hg.block b (by omega) (fun e => by have := (hcs'.lt b e.symm).1; omega)).trans (b2.block b (by omega))
    have kR := low R lo1
    have q2 := (cell_of (o := 2) kR).trans h.out.rd.blocks
    rw [hvn] at q2
    have q3 := (cell_of (o := 3) kR).trans h.out.rd.opened
    have qz := fun o => (World.frozen?_of_block (a := ⟨R, o, none⟩) kR).trans (h.out.fz o)
    have sm : ∀ b, b ≠ R → ((wN.setCell ⟨R, 2, none⟩ (.slice (some ⟨g', 0, none⟩) (pre.length + 1) cap')).setCell ⟨R, 3, none⟩ (.bool true)).heap[b]? = wN.heap[b]? := fun b hb => (Below.heap_setCell _ _ _ _ hb).trans (Below.heap_setCell _ _ _ _ hb)
    have oth : ∀ (U : World) (i j : Nat) (v : Value), i ≠ j → (U.setCell ⟨R, i, none⟩ v).cell? ⟨R, j, none⟩ = U.cell? ⟨R, j, none⟩ := fun U i j v hij => World.cell?_setCell_other _ _ _ _ (by intro e; injection e with _ e; exact hij e)
    refine ⟨q2, q3, qz, ⟨⟨?_, ?_, ?_, ?_⟩, ?_, fun o => ?_, ⟨lo1, by simp; omega⟩⟩, Kb.low' hg.os hg.tape hg.output (by simp; omega) (fun b h1 h2 => (sm b h2).trans (low b h1))⟩
    · rw [oth _ _ _ _ (by decide), oth _ _ _ _ (by decide)]; exact (cell_of kR).trans h.out.rd.words
    · rw [oth _ _ _ _ (by decide), oth _ _ _ _ (by decide)]; exact (cell_of kR).trans h.out.rd.values
    · rw [oth _ _ _ _ (by decide)]; exact World.cell?_setCell_same _ _ _ q2
    · exact World.cell?_setCell_same _ _ _ ((oth _ _ _ _ (by decide)).trans q3)
    · exact ⟨_, g', _, _, _, _, rfl, rfl, hbo.keep (fun b h1 h2 => sm b (by omega)) (by simp)⟩
    · rw [World.frozen?_setCell, World.frozen?_setCell]; exact qz o)
  obtain ⟨i0, hi0, hz0, hz1, hz2⟩ := info_parts Tryz.infoBlk2
  have hva : (vn = 0 ∧ True) ∨ ∃ G, va = some ⟨G, 0, none⟩ := by
    rcases hcs.2 with ⟨e, h0⟩ | ⟨G, _, _, e, _⟩
    · exact Or.inl ⟨by omega, trivial⟩
    · right; injection e with e; exact ⟨G, e⟩
  clear h hbc hcs hvn hva
  unfold opV
  go_enter Tryz.func79, Tryz.ntmps79
  go_wp2_with (at_builtin; refine wpList_append_lies _ rfl _ _ 23 rfl B0 46 i0 (.agg #[.slice none 0 0, .slice none 0 0, .int .i64 0, .int .i64 0, .int .i64 0, .int .i64 0]) 6 80 Tryz.underlying23 hi0 hz0 hz1 hz2 rfl (by decide) (.slice va vn vc) vn cs (by simp [Act.eval]) (HAP.out _ _) ⟨w.heap.size + 1, 0, none⟩ 1 1 [.slice none 0 0, .slice none 0 0, .int .i64 0, .int .i64 0, .int .i64 0, .int .i64 0] (by simp [Act.eval]) rfl (World.news_of_block (by have q := heapNew (w.alloc (.cells #[.int .i64 0, .int .i64 code] 111)) (.cells #[.slice none 0 0, .slice none 0 0, .int .i64 0, .int .i64 0, .int .i64 0, .int .i64 0] 46); rw [World.size_alloc] at q; exact q)) (by intro u hu; simp at hu; rcases hu with rfl | rfl <;> rfl) (by decide) (by unfold maxLen; omega) (by omega) (by simp; omega) (w.heap.size + 1 + 1) (by simp) ?_; intro g' cap' wN hown hgrow hat hlt2; obtain ⟨d2, d3, dz, hrs, hkb⟩ := HGW.out _ _ _ _ _ hown hgrow hat; have HRS := hide hrs; have HKB := hide hkb; clear hown hgrow hat hlt2 hrs hkb)
  exact bodyPost_end (v := .tuple #[]) (by simp [results, Tryz.results79, go_sem]) rfl ⟨rfl, _, _, _, HRS.out, HKB.out⟩

set_option maxHeartbeats 4000000 in
set_option maxRecDepth 100000 in
theorem put_phi (R : Nat) (wd : Value) (V : Int) (B0 : Nat) (pre : List Blk) (ps : List Ph) (va : Option Addr) (vn vc : Nat) (code : Int) (nb no nn nc : Nat) (nums : List Int) (w0 w : World) (h : Hid (RSt w0 R wd V B0 ⟨pre, some (ps, [])⟩ va vn vc)) (hb : Hid (Below w0.heap.size w0 w)) (hvb : vn ≤ 100000) (hpl : ps.length ≤ 100000)
    (hnn : Hid (nn = nums.length)) (hn2 : 2 ≤ nn) (hnl : nn ≤ 1000000) (hcap : nn ≤ nc) (hna : Hid (IntsAt w w0.heap.size w.heap.size (some ⟨nb, no, none⟩) nums)) (hfz : Hid (Fz w nb)) :
    Calls Tryz.prog 79 #[.pointer (some ⟨R, 0, none⟩), opV 1 code, .slice (some ⟨nb, no, none⟩) nn nc] w fun e w' => e = .returned (.tuple #[]) ∧ ∃ va' vn' vc', RSt w' R wd V B0 ⟨pre, some (ps ++ [⟨nums.getD 0 0, nums.tail⟩], [])⟩ va' vn' vc' ∧ Kb B0 R R w w' := by
  obtain ⟨H, G, pa, pc, ia, ic, hva, hvn, hbo⟩ := h.out.st
  dsimp only at hvn hbo
  obtain ⟨lo1, lo2⟩ := h.out.lo
  have hbs := hb.out.size
  obtain ⟨⟨lG0, lG1⟩, lH1, lH2⟩ := hbo.lo
  have hw := h.out.keep hb.out
  have HBO := hide (hbo.keep (w' := w) (fun b _ h2 => hb.out.block b h2) hbs)
  have HPO : Hid (PhsOwn2 w0 H pa pc ps) := hide (by rcases hbo.rows with ⟨_, _, _, h⟩ | ⟨h, _⟩; exact h; exact absurd rfl h)
  obtain ⟨cs, hcs⟩ := HPO.out.own
  obtain ⟨p0, p1⟩ : w.cell? ⟨nb, no, none⟩ = some (.int .i64 (nums.getD 0 0)) ∧ w0.heap.size ≤ nb ∧ nb < w.heap.size := by
    obtain ⟨b', o', e, q, hc⟩ := hna.out 0 (by have := hnn.out; omega)
    cases e
    exact ⟨hc.trans (by have := hnn.out; simp [show 0 < nums.length by omega]), q⟩
  have hRl : R < w.heap.size := by omega
  have hGl : G < w.heap.size := by omega
  have b1 := fun x => balloc (Below.refl w.heap.size w) x
  have HM : Hid (pre.length = vn - 1) := hide (by omega)
  obtain ⟨m, hm⟩ : ∃ m, pre.length = m := ⟨_, rfl⟩
  have hvm : vn = m + 1 := by omega
  have HLA : Hid (∀ x, Calls Tryz.prog 97 #[.pointer (some ⟨R, 0, none⟩)] (w.alloc x) fun e w' => e = .returned (.pointer (some ⟨G, m * 6, none⟩)) ∧ w' = (w.alloc x).drew) := hide (fun x => last_any R wd V G m vc true (w.alloc x) (by
    have q := (hw.rd.keep ((b1 x).block R hRl))
    rw [hva, hvm] at q
    exact q) (by omega))
  have HAP : Hid (∀ W, Below w.heap.size w W → W.ownsRow H 49 2 (.slice pa ps.length pc) ps.length cs) := hide (fun W hW => ownKeep hcs (fun b e => (hW.block b (by have := (hcs.lt b e).2; omega)).trans (hb.out.block b (hcs.lt b e).2)))
  have HCL : Hid (∀ W, Below w.heap.size w W → W.cell? ⟨G, m * 6, none⟩ = some (.slice pa ps.length pc)) := hide (fun W hW => (hW.cell (p := ⟨G, m * 6, none⟩) hGl).trans (by rw [← hm]; exact HBO.out.c0))
  have HGW : Hid (∀ W g' cap' wN, Below w.heap.size w W → wN.ownsRow H 49 2 (.slice (some ⟨g', 0, none⟩) (ps.length + 1) cap') (ps.length + 1) (cs ++ [.int .i64 (nums.getD 0 0), .slice (some ⟨nb, no + 1, none⟩) (nn - 1) (nc - 1)]) → W.grownBy wN (Value.slice pa ps.length pc).ownBlock → ((Value.slice pa ps.length pc).ownBlock = some g' ∨ g' = W.heap.size) → wN.cell? ⟨G, m * 6, none⟩ = some (.slice pa ps.length pc) ∧ (∀ o, wN.frozen? ⟨G, o, none⟩ = false) ∧ wN.cell? ⟨nb, no, none⟩ = some (.int .i64 (nums.getD 0 0)) ∧ RSt (wN.setCell ⟨G, m * 6, none⟩ (.slice (some ⟨g', 0, none⟩) (ps.length + 1) cap')) R wd V B0 ⟨pre, some (ps ++ [⟨nums.getD 0 0, nums.tail⟩], [])⟩ (some ⟨G, 0, none⟩) (m + 1) vc ∧ Kb B0 R R w (wN.setCell ⟨G, m * 6, none⟩ (.slice (some ⟨g', 0, none⟩) (ps.length + 1) cap'))) := hide (fun W g' cap' wN hW ho hg hat => by
    have hWs := hW.size
    have hgs := hg.size
    have hcs' := HAP.out W hW
    have hbo' := HBO.out.keep (w' := W) (fun b _ h2 => hW.block b h2) hWs
    have htl : nums.tail.length = nn - 1 := by rw [List.length_tail, ← hnn.out]
    have hin := hbo'.phi hcs' ⟨nums.getD 0 0, nums.tail⟩ (a := some ⟨nb, no + 1, none⟩) (c := nc - 1) (HPO.out.lt.keep (fun g e => by
      subst e
      have hgl := (hcs.lt g rfl).2
      exact (hW.block g (by omega)).trans (hb.out.block g hgl))) (fun j hj => by
      obtain ⟨b', o', e, q, hc⟩ := (hna.out.keep (hW.mono (Nat.le_refl _))) (j + 1) (by rw [List.length_tail] at hj; omega)
      cases e
      refine ⟨nb, no + 1, rfl, by omega, fun e2 => by have := (hcs.lt nb e2.symm).2; omega, hfz.out.keep (hW.block nb p1.2), ?_⟩
      rw [show no + 1 + j = no + (j + 1) by omega, hc]
      simp) (by dsimp only; rw [htl]; exact ho) hg hat
    rw [hm] at hin
    have low : ∀ b, b < H → wN.heap[b]? = W.heap[b]? := fun b h1 => hg.block b (by omega) (fun e => by have := (hcs'.lt b e.symm).1; omega)
    have kG := (low G (by omega)).trans (hW.block G hGl)
    have far : ∀ b, b ≠ G → (wN.setCell ⟨G, m * 6, none⟩ (.slice (some ⟨g', 0, none⟩) (ps.length + 1) cap')).heap[b]? = wN.heap[b]? := fun b hb => Below.heap_setCell _ _ _ _ hb
    have kR := (low R (by omega)).trans (hW.block R hRl)
    have kR2 := (far R (by omega)).trans kR
    have kn := (hg.block nb (by omega) (fun e => by have := (hcs.lt nb e.symm).2; omega)).trans (hW.block nb p1.2)
    have hrd := hw.rd.keep kR2
    rw [hva, hvm] at hrd
    have hth := fun o => rowThaw HBO.out.own.choose_spec o
    refine ⟨(cell_of kG).trans (by rw [← hm]; exact HBO.out.c0), fun o => (World.frozen?_of_block kG).trans (hth o), (cell_of kn).trans p0, ⟨hrd, ⟨_, _, _, _, _, _, rfl, by show m + 1 = pre.length + 1; rw [hm], hin⟩, fun o => (World.frozen?_of_block kR2).trans (hw.fz o), ⟨lo1, by rw [size_setCell]; omega⟩⟩, Kb.low' (hg.os.trans hW.os) (hg.tape.trans hW.tape) (hg.output.trans hW.output) (by rw [size_setCell]; omega) (fun b h1 h2 => (far b (by omega)).trans ((low b (by omega)).trans (hW.block b (by omega))))⟩)
  obtain ⟨i0, hi0, hz0, hz1, hz2⟩ := info_parts Tryz.infoPhi2
  have HBX := fun x => hide (b1 x)
  have hHl : H ≤ w.heap.size := by omega
  have p0a := fun x => ((b1 x).cell (p := ⟨nb, no, none⟩) (by show nb < _; omega)).trans p0
  have g0a := fun x => HCL.out _ (b1 x)
  have g0b := fun x y => HCL.out _ (balloc (b1 x) y)
  have ex : 0 < nn := by omega
  have ey : (1 : Int) ≤ (nn : Int) := by omega
  have ez : ¬ nc = 1 := by omega
  have nGb : G ≠ nb := by omega
  have nbG : nb ≠ G := by omega
  clear h hb hbo hw HBO HPO hcs hna hfz hnn hm HM b1 hvm hva hvn
  unfold opV
  generalize nums.getD 0 0 = n0 at *
  generalize ps.length = pl at *
  go_enter Tryz.func79, Tryz.ntmps79
  go_wp2_with (go_at_call 97; refine (HLA.out _).mono ?_; rintro e w1 ⟨rfl, hw1⟩; rw [hw1]; clear hw1 w1)
  refine wp_region_held_drew (S := (fun w' => w'.cell? ⟨nb, no, none⟩ = some (.int .i64 n0))) (by kernel_rfl) (by (try dsimp only); go_keep) (fun hHeld => ?_)
  refine wpAnyH_take (i := 0) (v := ?_) rfl (by kernel_rfl) (by kernel_rfl) (by kernel_rfl) (fun _ _ _ h => h) (Or.inl ⟨by rfl, ?_⟩) (by assumption) ?_
  rotate_left
  · intro w hSw; (try dsimp only at hSw); go_simp; try with_reducible rfl
  simp only [Act.put, List.getElem_toArray, List.getElem_cons_zero, List.setIfInBounds_toArray, List.set_cons_zero, List.set_cons_succ]
  refine wpAnyH_take (i := 1) (v := ?_) rfl (by kernel_rfl) (by kernel_rfl) (by kernel_rfl) (fun _ _ _ h => h) (Or.inl ⟨by rfl, ?_⟩) (by assumption) ?_
  rotate_left
  · intro w hSw; (try dsimp only at hSw); go_simp; try with_reducible rfl
  simp only [Act.put, List.getElem_toArray, List.getElem_cons_zero, List.getElem_cons_succ, List.setIfInBounds_toArray, List.set_cons_zero, List.set_cons_succ]
  refine wpAnyH_take (i := 2) (v := ?_) rfl (by kernel_rfl) (by kernel_rfl) (by kernel_rfl) (fun _ _ _ h => h) (Or.inl ⟨by rfl, ?_⟩) (by assumption) ?_
  rotate_left
  · intro w hSw; (try dsimp only at hSw); go_simp; try with_reducible rfl
  simp only [Act.put, List.getElem_toArray, List.getElem_cons_zero, List.getElem_cons_succ, List.setIfInBounds_toArray, List.set_cons_zero, List.set_cons_succ]
  refine wpAnyH_take (i := 3) (v := ?_) rfl (by kernel_rfl) (by kernel_rfl) (by kernel_rfl) (fun _ _ _ h => h) (Or.inl ⟨by rfl, ?_⟩) (by assumption) ?_
  rotate_left
  · intro w hSw; (try dsimp only at hSw); go_simp; try with_reducible rfl
  simp only [Act.put, List.getElem_toArray, List.getElem_cons_zero, List.getElem_cons_succ, List.setIfInBounds_toArray, List.set_cons_zero, List.set_cons_succ]
  refine wpAnyH_take (i := 5) (v := ?_) rfl (by kernel_rfl) (by kernel_rfl) (by kernel_rfl) (fun _ _ _ h => h) (Or.inl ⟨by rfl, ?_⟩) (by assumption) ?_
  rotate_left
  · intro w hSw; (try dsimp only at hSw); go_simp; try with_reducible rfl
  simp only [Act.put, List.getElem_toArray, List.getElem_cons_zero, List.getElem_cons_succ, List.setIfInBounds_toArray, List.set_cons_zero, List.set_cons_succ]
  refine wpAnyH_take (i := 6) (v := ?_) rfl (by kernel_rfl) (by kernel_rfl) (by kernel_rfl) (fun _ _ _ h => h) (Or.inl ⟨by rfl, ?_⟩) (by assumption) ?_
  rotate_left
  · intro w hSw; (try dsimp only at hSw); go_simp; try with_reducible rfl
  simp only [Act.put, List.getElem_toArray, List.getElem_cons_zero, List.getElem_cons_succ, List.setIfInBounds_toArray, List.set_cons_zero, List.set_cons_succ]
  refine wpAnyH_take (i := 7) (v := ?_) rfl (by kernel_rfl) (by kernel_rfl) (by kernel_rfl) (fun _ _ _ h => h) (Or.inl ⟨by rfl, ?_⟩) (by assumption) ?_
  rotate_left
  · intro w hSw; (try dsimp only at hSw); go_simp; try with_reducible rfl
  simp only [Act.put, List.getElem_toArray, List.getElem_cons_zero, List.getElem_cons_succ, List.setIfInBounds_toArray, List.set_cons_zero, List.set_cons_succ]
  refine wpAnyH_take (i := 8) (v := ?_) rfl (by kernel_rfl) (by kernel_rfl) (by kernel_rfl) (fun _ _ _ h => h) (Or.inl ⟨by rfl, ?_⟩) (by assumption) ?_
  rotate_left
  · intro w hSw; (try dsimp only at hSw); go_simp; try with_reducible rfl
  simp only [Act.put, List.getElem_toArray, List.getElem_cons_zero, List.getElem_cons_succ, List.setIfInBounds_toArray, List.set_cons_zero, List.set_cons_succ]
  refine wpAnyH_take (i := 9) (v := ?_) rfl (by kernel_rfl) (by kernel_rfl) (by kernel_rfl) (fun _ _ _ h => h) (Or.inl ⟨by rfl, ?_⟩) (by assumption) ?_
  rotate_left
  · intro w hSw; (try dsimp only at hSw); go_simp; try with_reducible rfl
  simp only [Act.put, List.getElem_toArray, List.getElem_cons_zero, List.getElem_cons_succ, List.setIfInBounds_toArray, List.set_cons_zero, List.set_cons_succ]
  refine wpAnyH_take (i := 10) (v := ?_) rfl (by kernel_rfl) (by kernel_rfl) (by kernel_rfl) (fun _ _ _ h => h) (Or.inl ⟨by rfl, ?_⟩) (by assumption) ?_
  rotate_left
  · intro w hSw; (try dsimp only at hSw); go_simp; try with_reducible rfl
  simp only [Act.put, List.getElem_toArray, List.getElem_cons_zero, List.getElem_cons_succ, List.setIfInBounds_toArray, List.set_cons_zero, List.set_cons_succ]
  refine wpAnyH_ready (rs := [4, 11]) (by kernel_rfl) (by simp) ?_
  refine (AllReadyH.cons rfl (fun K hK => ?_) (AllReadyH.cons rfl (fun K hK => ?_) AllReadyH.nil))
  · skip
    go_simp
    refine hK.out _ _ (by first | with_reducible exact hHeld | ((try dsimp only); go_keep)) (fun hHeld => ?_)
    clear hK
    try simp only [Act.put, List.getElem_toArray, List.getElem_cons_zero, List.getElem_cons_succ, List.setIfInBounds_toArray, List.set_cons_zero, List.set_cons_succ]
    refine wpAnyH_ready (rs := [11]) (by kernel_rfl) (by simp) ?_
    refine AllReadyH.cons rfl (fun K hK => ?_) AllReadyH.nil
    go_simp
    refine hK.out _ _ (by first | with_reducible exact hHeld | ((try dsimp only); go_keep)) (fun hHeld => ?_)
    clear hK
    try simp only [Act.put, List.getElem_toArray, List.getElem_cons_zero, List.getElem_cons_succ, List.setIfInBounds_toArray, List.set_cons_zero, List.set_cons_succ]
    refine wpAnyH_ready (rs := [12]) (by kernel_rfl) (by simp) ?_
    refine AllReadyH.cons rfl (fun K hK => ?_) AllReadyH.nil
    refine step_append_lies _ rfl (.tmp 37) (.tmp 44) 43 rfl H 49 i0 (.agg #[.int .i64 0, .slice none 0 0]) 2 32 Tryz.underlying43 hi0 hz0 hz1 hz2 rfl (by decide) (.slice pa pl pc) pl cs (by simp [Act.eval]) (HAP.out _ (balloc (HBX _).out _).drew.drew) ⟨w.heap.size + 1, 0, none⟩ 1 1 [.int .i64 n0, .slice (some ⟨nb, no + 1, none⟩) (nn - 1) (nc - 1)] (by simp [Act.eval]) rfl (World.news_of_block (by have q := heapNew (w.alloc (.cells #[.int .i64 1, .int .i64 code] 111)) (.cells #[.int .i64 n0, .slice (some ⟨nb, no + 1, none⟩) (nn - 1) (nc - 1)] 49); rw [World.size_alloc] at q; exact q)) (by intro u hu; simp at hu; rcases hu with rfl | rfl <;> rfl) (by decide) (by unfold maxLen; omega) (by omega) (by simp; omega) (w.heap.size + 1 + 1) (by simp) ?_
    intro g' cap' wN hown hgrow hat hlt2
    obtain ⟨d2, dz, dn, hrs, hkb⟩ := HGW.out _ _ _ _ (balloc (HBX _).out _).drew.drew hown hgrow (by simpa using hat)
    have HRS := hide hrs
    have HKB := hide hkb
    have dz0 := dz (m * 6)
    clear hown hgrow hat hlt2 hrs hkb dz
    refine hK.out _ _ (by first | with_reducible exact hHeld | ((try dsimp only); go_keep)) (fun hHeld => ?_)
    clear hK
    try simp only [Act.put, List.getElem_toArray, List.getElem_cons_zero, List.getElem_cons_succ, List.setIfInBounds_toArray, List.set_cons_zero, List.set_cons_succ]
    refine wpAnyH_take (i := 13) (v := ?_) rfl (by kernel_rfl) (by kernel_rfl) (by kernel_rfl) (fun _ _ _ h => h) (Or.inl ⟨by rfl, ?_⟩) (by assumption) ?_
    rotate_left
    · intro w hSw; (try dsimp only at hSw); go_simp; try with_reducible rfl
    simp only [Act.put, List.getElem_toArray, List.getElem_cons_zero, List.getElem_cons_succ, List.setIfInBounds_toArray, List.set_cons_zero, List.set_cons_succ]
    refine wpAnyH_take (i := 14) (v := ?_) rfl (by kernel_rfl) (by kernel_rfl) (by kernel_rfl) (fun _ _ _ h => h) (Or.inl ⟨by rfl, ?_⟩) (by assumption) ?_
    rotate_left
    · intro w hSw; (try dsimp only at hSw); go_simp; try with_reducible rfl
    simp only [Act.put, List.getElem_toArray, List.getElem_cons_zero, List.getElem_cons_succ, List.setIfInBounds_toArray, List.set_cons_zero, List.set_cons_succ]
    refine wpAnyH_ready (rs := [15]) (by kernel_rfl) (by simp) ?_
    refine AllReadyH.cons rfl (fun K hK => ?_) AllReadyH.nil
    go_simp
    refine hK.out _ _ (by first | with_reducible exact hHeld | ((try dsimp only); go_keep)) (fun hHeld => ?_)
    clear hK
    try simp only [Act.put, List.getElem_toArray, List.getElem_cons_zero, List.getElem_cons_succ, List.setIfInBounds_toArray, List.set_cons_zero, List.set_cons_succ]
    refine wpAnyH_done (by kernel_rfl) ?_ _
    go_wp2
    exact bodyPost_end (v := .tuple #[]) (by simp [results, Tryz.results79, go_sem]) rfl ⟨rfl, _, _, _, HRS.out, HKB.out⟩
  · skip
    go_simp
    refine hK.out _ _ (by first | with_reducible exact hHeld | ((try dsimp only); go_keep)) (fun hHeld => ?_)
    clear hK
    try simp only [Act.put, List.getElem_toArray, List.getElem_cons_zero, List.getElem_cons_succ, List.setIfInBounds_toArray, List.set_cons_zero, List.set_cons_succ]
    refine wpAnyH_ready (rs := [4]) (by kernel_rfl) (by simp) ?_
    refine AllReadyH.cons rfl (fun K hK => ?_) AllReadyH.nil
    go_simp
    refine hK.out _ _ (by first | with_reducible exact hHeld | ((try dsimp only); go_keep)) (fun hHeld => ?_)
    clear hK
    try simp only [Act.put, List.getElem_toArray, List.getElem_cons_zero, List.getElem_cons_succ, List.setIfInBounds_toArray, List.set_cons_zero, List.set_cons_succ]
    refine wpAnyH_ready (rs := [12]) (by kernel_rfl) (by simp) ?_
    refine AllReadyH.cons rfl (fun K hK => ?_) AllReadyH.nil
    refine step_append_lies _ rfl (.tmp 37) (.tmp 44) 43 rfl H 49 i0 (.agg #[.int .i64 0, .slice none 0 0]) 2 32 Tryz.underlying43 hi0 hz0 hz1 hz2 rfl (by decide) (.slice pa pl pc) pl cs (by simp [Act.eval]) (HAP.out _ (balloc (HBX _).out _).drew.drew) ⟨w.heap.size + 1, 0, none⟩ 1 1 [.int .i64 n0, .slice (some ⟨nb, no + 1, none⟩) (nn - 1) (nc - 1)] (by simp [Act.eval]) rfl (World.news_of_block (by have q := heapNew (w.alloc (.cells #[.int .i64 1, .int .i64 code] 111)) (.cells #[.int .i64 n0, .slice (some ⟨nb, no + 1, none⟩) (nn - 1) (nc - 1)] 49); rw [World.size_alloc] at q; exact q)) (by intro u hu; simp at hu; rcases hu with rfl | rfl <;> rfl) (by decide) (by unfold maxLen; omega) (by omega) (by simp; omega) (w.heap.size + 1 + 1) (by simp) ?_
    intro g' cap' wN hown hgrow hat hlt2
    obtain ⟨d2, dz, dn, hrs, hkb⟩ := HGW.out _ _ _ _ (balloc (HBX _).out _).drew.drew hown hgrow (by simpa using hat)
    have HRS := hide hrs
    have HKB := hide hkb
    have dz0 := dz (m * 6)
    clear hown hgrow hat hlt2 hrs hkb dz
    refine hK.out _ _ (by first | with_reducible exact hHeld | ((try dsimp only); go_keep)) (fun hHeld => ?_)
    clear hK
    try simp only [Act.put, List.getElem_toArray, List.getElem_cons_zero, List.getElem_cons_succ, List.setIfInBounds_toArray, List.set_cons_zero, List.set_cons_succ]
    refine wpAnyH_take (i := 13) (v := ?_) rfl (by kernel_rfl) (by kernel_rfl) (by kernel_rfl) (fun _ _ _ h => h) (Or.inl ⟨by rfl, ?_⟩) (by assumption) ?_
    rotate_left
    · intro w hSw; (try dsimp only at hSw); go_simp; try with_reducible rfl
    simp only [Act.put, List.getElem_toArray, List.getElem_cons_zero, List.getElem_cons_succ, List.setIfInBounds_toArray, List.set_cons_zero, List.set_cons_succ]
    refine wpAnyH_take (i := 14) (v := ?_) rfl (by kernel_rfl) (by kernel_rfl) (by kernel_rfl) (fun _ _ _ h => h) (Or.inl ⟨by rfl, ?_⟩) (by assumption) ?_
    rotate_left
    · intro w hSw; (try dsimp only at hSw); go_simp; try with_reducible rfl
    simp only [Act.put, List.getElem_toArray, List.getElem_cons_zero, List.getElem_cons_succ, List.setIfInBounds_toArray, List.set_cons_zero, List.set_cons_succ]
    refine wpAnyH_ready (rs := [15]) (by kernel_rfl) (by simp) ?_
    refine AllReadyH.cons rfl (fun K hK => ?_) AllReadyH.nil
    go_simp
    refine hK.out _ _ (by first | with_reducible exact hHeld | ((try dsimp only); go_keep)) (fun hHeld => ?_)
    clear hK
    try simp only [Act.put, List.getElem_toArray, List.getElem_cons_zero, List.getElem_cons_succ, List.setIfInBounds_toArray, List.set_cons_zero, List.set_cons_succ]
    refine wpAnyH_done (by kernel_rfl) ?_ _
    go_wp2
    exact bodyPost_end (v := .tuple #[]) (by simp [results, Tryz.results79, go_sem]) rfl ⟨rfl, _, _, _, HRS.out, HKB.out⟩
end Go.Proofs.YtdcdgopblbmgoaaGreatDoor
