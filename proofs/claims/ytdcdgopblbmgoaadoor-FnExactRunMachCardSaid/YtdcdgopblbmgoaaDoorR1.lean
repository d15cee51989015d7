import Derived.Test.YtdcdgopblbmgoaaDoorW7
import Derived.Deep.AppendLies
namespace Go.Proofs.YtdcdgopblbmgoaaDoor
open Go.RowKit

/-- A 64-bit number. -/
def I64 (x : Int) : Prop := -9223372036854775808 ≤ x ∧ x ≤ 9223372036854775807

theorem tm (x : Int) : (0 ≤ x ∧ x.tmod 32 = x % 32) ∨ (x < 0 ∧ x.tmod 32 = -((-x) % 32)) := by
  by_cases h : 0 ≤ x
  · exact Or.inl ⟨h, Int.tmod_eq_emod_of_nonneg h⟩
  · refine Or.inr ⟨by omega, ?_⟩
    have h1 := Int.neg_tmod (-x) 32
    rw [Int.neg_neg] at h1
    rw [h1, Int.tmod_eq_emod_of_nonneg (by omega)]

set_option maxHeartbeats 400000 in
theorem l1Cell_any (x : Int) (w : World) :
    Calls Tryd.prog 112 #[.int .i64 x] w fun e w' => e = .returned (.int .i64 (x % 32)) ∧ w' = w := by
  have hm := tm x
  have hb : -32 < x.tmod 32 ∧ x.tmod 32 < 32 := by omega
  have HM := hide hm
  clear hm
  go_enter Tryd.func112, Tryd.ntmps112
  go_wp2
  all_goals
    go_ret
    exact ⟨ret_int (by have := HM.out; omega), rfl⟩

set_option maxHeartbeats 400000 in
theorem heapCell_any (x : Int) (w : World) :
    Calls Tryd.prog 151 #[.int .i64 x] w fun e w' => e = .returned (.int .i64 (x % 32)) ∧ w' = w := by
  have hm := tm x
  have hb : -32 < x.tmod 32 ∧ x.tmod 32 < 32 := by omega
  have HM := hide hm
  clear hm
  go_enter Tryd.func151, Tryd.ntmps151
  go_wp2
  all_goals
    go_ret
    exact ⟨ret_int (by have := HM.out; omega), rfl⟩


set_option maxHeartbeats 400000 in
theorem l1Arith_any (op a b : Int) (w : World) (h3 : 3 ≤ op) (h7 : op ≤ 7) (hb : op = 6 → b ≠ 0) :
    Calls Tryd.prog 113 #[.int .i64 op, .int .i64 a, .int .i64 b] w fun e w' => e = .returned (.int .i64 (arithR op a b)) ∧ w' = w := by
  have hc : op = 3 ∨ op = 4 ∨ op = 5 ∨ op = 6 ∨ op = 7 := by omega
  rcases hc with rfl | rfl | rfl | rfl | rfl
  · go_enter Tryd.func113, Tryd.ntmps113
    go_wp2
    go_ret
    exact ⟨rfl, rfl⟩
  · go_enter Tryd.func113, Tryd.ntmps113
    go_wp2
    go_ret
    exact ⟨rfl, rfl⟩
  · go_enter Tryd.func113, Tryd.ntmps113
    go_wp2
    go_ret
    exact ⟨rfl, rfl⟩
  · by_cases h1 : b = -1
    · subst h1
      clear hb
      go_enter Tryd.func113, Tryd.ntmps113
      go_wp2
      go_ret
      exact ⟨ret_int (by show wrap64 (-a) = wrap64 (a.tdiv (-1)); rw [Int.tdiv_neg, Int.tdiv_one]), rfl⟩
    · have h2 : (b == -1) = false := by simp [h1]
      have h3 : b ≠ 0 := hb rfl
      clear hb h1
      go_enter Tryd.func113, Tryd.ntmps113
      go_wp2
      go_ret
      exact ⟨rfl, rfl⟩
  · clear hb
    by_cases h : a < b
    all_goals
      go_enter Tryd.func113, Tryd.ntmps113
      go_wp2
      go_ret
      exact ⟨ret_int (by simp [arithR, h]), rfl⟩

set_option maxHeartbeats 400000 in
theorem arithI_any (op a b : Int) (w : World) (h3 : 3 ≤ op) (h7 : op ≤ 7) (hb : op = 6 → b ≠ 0) :
    Calls Tryd.prog 150 #[.int .i64 op, .int .i64 a, .int .i64 b] w fun e w' => e = .returned (.int .i64 (arithR op a b)) ∧ w' = w := by
  have hc : op = 3 ∨ op = 4 ∨ op = 5 ∨ op = 6 ∨ op = 7 := by omega
  rcases hc with rfl | rfl | rfl | rfl | rfl
  · go_enter Tryd.func150, Tryd.ntmps150
    go_wp2
    go_ret
    exact ⟨rfl, rfl⟩
  · go_enter Tryd.func150, Tryd.ntmps150
    go_wp2
    go_ret
    exact ⟨rfl, rfl⟩
  · go_enter Tryd.func150, Tryd.ntmps150
    go_wp2
    go_ret
    exact ⟨rfl, rfl⟩
  · have h3 : b ≠ 0 := hb rfl
    clear hb
    go_enter Tryd.func150, Tryd.ntmps150
    go_wp2
    go_ret
    exact ⟨rfl, rfl⟩
  · clear hb
    by_cases h : a < b
    all_goals
      go_enter Tryd.func150, Tryd.ntmps150
      go_wp2
      go_ret
      exact ⟨ret_int (by simp [arithR, h]), rfl⟩


set_option maxHeartbeats 400000 in
theorem l1ArgOf_any (a : Option Addr) (n c : Nat) (i : Int) (xs : List Int) (L B : Nat) (w : World) (ha : Hid (IntsAt w L B a xs)) (hx : Hid (n = xs.length)) (h0 : 0 ≤ i) (h1 : i ≤ 1000) :
    Calls Tryd.prog 111 #[.slice a n c, .int .i64 i] w fun e w' => e = .returned (.int .i64 (argR xs i)) ∧ w' = w := by
  obtain ⟨k, rfl⟩ := Int.eq_ofNat_of_zero_le h0
  by_cases hlt : k < n
  · have hkx : k < xs.length := by have := hx.out; omega
    obtain ⟨b, o, rfl, _, hc⟩ := ha.out k hkx
    go_enter Tryd.func111, Tryd.ntmps111
    go_wp2
    go_ret
    exact ⟨ret_int (by simp [argR, hkx]), rfl⟩
  · have hkx : xs.length ≤ k := by have := hx.out; omega
    go_enter Tryd.func111, Tryd.ntmps111
    go_wp2
    go_ret
    exact ⟨ret_int (by simp [argR, List.getElem?_eq_none hkx]), rfl⟩

set_option maxHeartbeats 400000 in
theorem l1BadRun_any (a h : Option Addr) (na ca nh ch : Nat) (fuel : Int) (w : World) :
    Calls Tryd.prog 68 #[.slice a na ca, .slice h nh ch, .int .i64 fuel] w fun e w' => e = .returned (.bool (!runOk na nh fuel)) ∧ w' = w := by
  go_enter Tryd.func68, Tryd.ntmps68
  go_wp2
  all_goals
    go_ret
    refine ⟨ret_bool ?_, rfl⟩
    rw [Bool.eq_iff_iff]
    simp [runOk]
    omega
set_option maxHeartbeats 400000 in
theorem validRun_any (a h : Option Addr) (na ca nh ch : Nat) (fuel : Int) (w : World) :
    Calls Tryd.prog 72 #[.slice a na ca, .slice h nh ch, .int .i64 fuel] w fun e w' => e = .returned (.bool (runOk na nh fuel)) ∧ w' = w := by
  go_enter Tryd.func72, Tryd.ntmps72
  go_wp2
  all_goals
    go_ret
    refine ⟨ret_bool ?_, rfl⟩
    rw [Bool.eq_iff_iff]
    simp [runOk]
    omega
end Go.Proofs.YtdcdgopblbmgoaaDoor

/-
  What lies in memory while a function is run. Imports nothing of the program.
-/
namespace Go.Proofs.YtdcdgopblbmgoaaDoor
open Go.RowKit

/-- Below B nothing has turned but blocks gv and gh. -/
structure Kb (B gv gh : Nat) (w w' : World) : Prop where
  os : w'.os = w.os
  tape : w'.tape = w.tape
  output : w'.output = w.output
  size : w.heap.size ≤ w'.heap.size
  block : ∀ k, k < B → k ≠ gv → k ≠ gh → w'.heap[k]? = w.heap[k]?
variable {w w' w1 w2 : World} {B gv gh : Nat}
theorem Kb.refl (B gv gh : Nat) (w : World) : Kb B gv gh w w := ⟨rfl, rfl, rfl, Nat.le_refl _, fun _ _ _ _ => rfl⟩
theorem Kb.trans (h : Kb B gv gh w w1) (k : Kb B gv gh w1 w2) : Kb B gv gh w w2 := ⟨k.os.trans h.os, k.tape.trans h.tape, k.output.trans h.output, Nat.le_trans h.size k.size, fun i a b c => (k.block i a b c).trans (h.block i a b c)⟩
theorem Kb.of_below (h : Below B w w1) : Kb B gv gh w w1 := ⟨h.os, h.tape, h.output, h.size, fun i a _ _ => h.block i a⟩
theorem Kb.mono {B' : Nat} (h : Kb B gv gh w w1) (hb : B' ≤ B) : Kb B' gv gh w w1 := ⟨h.os, h.tape, h.output, h.size, fun i a b c => h.block i (by omega) b c⟩
theorem Kb.below {B' : Nat} (h : Kb B gv gh w w1) (hb : B' ≤ B) (h1 : B' ≤ gv) (h2 : B' ≤ gh) : Below B' w w1 := ⟨h.os, h.tape, h.output, h.size, fun i a => h.block i (by omega) (by omega) (by omega)⟩
theorem Kb.set (h : Kb B gv gh w w1) {b o : Nat} (hb : b = gv ∨ b = gh) (v : Value) : Kb B gv gh w (w1.setCell ⟨b, o, none⟩ v) :=
  h.trans ⟨rfl, rfl, rfl, by simp [World.setCell], fun k _ h1 h2 => Below.heap_setCell _ _ _ _ (by dsimp only; omega)⟩

/-- The three rows of a run. -/
structure RunMem (w : World) (B gv gh : Nat) (t : Nat) (tv : Value) (vals hp tr : List Int) : Prop where
  vals : IntsW w gv vals
  heap : IntsW w gh hp
  own : w.ownsRow B t 1 tv tr.length (tr.map (Value.int .i64))
  ne : gv ≠ gh
  tvals : tv.ownBlock ≠ some gv
  theap : tv.ownBlock ≠ some gh
variable {t : Nat} {tv : Value} {vals hp tr : List Int}
theorem own_keep {x : Value} {n : Nat} {xs : List Value} (h : w.ownsRow B t 1 x n xs) (k : ∀ b, x.ownBlock = some b → w1.heap[b]? = w.heap[b]?) : w1.ownsRow B t 1 x n xs := by
  obtain ⟨hl, h | ⟨g, cap, cur, rfl, hg, hh, hc⟩⟩ := h
  · exact ⟨hl, Or.inl h⟩
  · exact ⟨hl, Or.inr ⟨g, cap, cur, rfl, hg, (k g rfl).trans hh, hc⟩⟩
theorem RunMem.keep (h : RunMem w B gv gh t tv vals hp tr) (k : ∀ b, b < w.heap.size → w1.heap[b]? = w.heap[b]?) : RunMem w1 B gv gh t tv vals hp tr :=
  ⟨h.vals.keep (k _ h.vals.lt), h.heap.keep (k _ h.heap.lt), own_keep h.own (fun b e => k b (h.own.lt b e).2), h.ne, h.tvals, h.theap⟩
theorem RunMem.setV (h : RunMem w B gv gh t tv vals hp tr) {i : Nat} (hi : i < vals.length) (v : Int) : RunMem (w.setCell ⟨gv, i, none⟩ (.int .i64 v)) B gv gh t tv (vals.set i v) hp tr :=
  ⟨h.vals.set hi v, h.heap.keep (Below.heap_setCell _ _ _ _ (fun e => h.ne e.symm)), own_keep h.own (fun b e => Below.heap_setCell _ _ _ _ (fun e2 => h.tvals (by rw [e, e2]))), h.ne, h.tvals, h.theap⟩
theorem RunMem.setH (h : RunMem w B gv gh t tv vals hp tr) {i : Nat} (hi : i < hp.length) (v : Int) : RunMem (w.setCell ⟨gh, i, none⟩ (.int .i64 v)) B gv gh t tv vals (hp.set i v) tr :=
  ⟨h.vals.keep (Below.heap_setCell _ _ _ _ h.ne), h.heap.set hi v, own_keep h.own (fun b e => Below.heap_setCell _ _ _ _ (fun e2 => h.theap (by rw [e, e2]))), h.ne, h.tvals, h.theap⟩

theorem Kb.drew (h : Kb B gv gh w w1) : Kb B gv gh w w1.drew := ⟨h.os, h.tape, h.output, h.size, h.block⟩
theorem RunMem.drew (h : RunMem w B gv gh t tv vals hp tr) : RunMem w.drew B gv gh t tv vals hp tr := h.keep (fun _ _ => rfl)
/-- A run's rows in W, and block r apart from them. -/
structure Rn (w : World) (r B gv gh t : Nat) (tv : Value) (vals hp tr : List Int) (W : World) : Prop where
  kb : Kb B gv gh w W
  mem : RunMem W B gv gh t tv vals hp tr
  rv : r ≠ gv
  rh : r ≠ gh
  rt : tv.ownBlock ≠ some r
  rB : B ≤ r
variable {r : Nat} {W : World}
theorem Rn.drew (h : Rn w r B gv gh t tv vals hp tr W) : Rn w r B gv gh t tv vals hp tr W.drew := ⟨h.kb.drew, h.mem.drew, h.rv, h.rh, h.rt, h.rB⟩
theorem Rn.out (h : Rn w r B gv gh t tv vals hp tr W) (i : Nat) (v : Value) : Rn w r B gv gh t tv vals hp tr (W.setCell ⟨r, i, none⟩ v) :=
  ⟨h.kb.trans ⟨rfl, rfl, rfl, by simp [World.setCell], fun k hk _ _ => Below.heap_setCell _ _ _ _ (by have := h.rB; dsimp only; omega)⟩,
   ⟨h.mem.vals.keep (Below.heap_setCell _ _ _ _ (fun e => h.rv e.symm)), h.mem.heap.keep (Below.heap_setCell _ _ _ _ (fun e => h.rh e.symm)), own_keep h.mem.own (fun b e => Below.heap_setCell _ _ _ _ (fun e2 => h.rt (by rw [e, e2]))), h.mem.ne, h.mem.tvals, h.mem.theap⟩, h.rv, h.rh, h.rt, h.rB⟩
theorem Rn.setV (h : Rn w r B gv gh t tv vals hp tr W) {i : Nat} (hi : i < vals.length) (v : Int) : Rn w r B gv gh t tv (vals.set i v) hp tr (W.setCell ⟨gv, i, none⟩ (.int .i64 v)) :=
  ⟨h.kb.set (Or.inl rfl) _, h.mem.setV hi v, h.rv, h.rh, h.rt, h.rB⟩
theorem Rn.setH (h : Rn w r B gv gh t tv vals hp tr W) {i : Nat} (hi : i < hp.length) (v : Int) : Rn w r B gv gh t tv vals (hp.set i v) tr (W.setCell ⟨gh, i, none⟩ (.int .i64 v)) :=
  ⟨h.kb.set (Or.inr rfl) _, h.mem.setH hi v, h.rv, h.rh, h.rt, h.rB⟩
theorem Rn.out5 (h : Rn w r B gv gh t tv vals hp tr W) (v0 v1 v2 v3 v4 : Value) : Rn w r B gv gh t tv vals hp tr (((((W.setCell ⟨r, 0, none⟩ v0).setCell ⟨r, 1, none⟩ v1).setCell ⟨r, 2, none⟩ v2).setCell ⟨r, 3, none⟩ v3).setCell ⟨r, 4, none⟩ v4) :=
  ((((h.out _ _).out _ _).out _ _).out _ _).out _ _
theorem Rn.of (h : RunMem w B gv gh t tv vals hp tr) (hB : B ≤ w.heap.size) (k : Below w.heap.size w W) (hr : w.heap.size ≤ r) : Rn w r B gv gh t tv vals hp tr W :=
  ⟨Kb.of_below (k.mono hB), h.keep k.block, by have := h.vals.lt; omega, by have := h.heap.lt; omega, fun e => by have := (h.own.lt _ e).2; omega, by omega⟩

/-- A number has been written into the trace. -/
theorem Rn.push (h : Rn w r B gv gh t tv vals hp tr W) {g cap : Nat} {x : Int} {n : Nat} (hn : n = (tr ++ [x]).length) (ho : w1.ownsRow B t 1 (.slice (some ⟨g, 0, none⟩) n cap) n (tr.map (Value.int .i64) ++ [.int .i64 x])) (hg : W.grownBy w1 tv.ownBlock) (hat : tv.ownBlock = some g ∨ W.heap.size ≤ g) (hr : r < W.heap.size) :
    Rn w r B gv gh t (.slice (some ⟨g, 0, none⟩) n cap) vals hp (tr ++ [x]) w1 := by
  subst hn
  have hvl := h.mem.vals.lt
  have hhl := h.mem.heap.lt
  refine ⟨h.kb.trans ⟨hg.os, hg.tape, hg.output, hg.size, fun k hk _ _ => ?_⟩, ⟨h.mem.vals.keep (hg.block _ hvl (fun e => h.mem.tvals e.symm)), h.mem.heap.keep (hg.block _ hhl (fun e => h.mem.theap e.symm)), by rw [List.map_append]; exact ho, h.mem.ne, ?_, ?_⟩, h.rv, h.rh, ?_, h.rB⟩
  · by_cases hkw : k < W.heap.size
    · exact hg.block k hkw (fun e => by have := (h.mem.own.lt k e.symm).1; omega)
    · have := h.rB; omega
  · rcases hat with e | e
    · rw [show (Value.slice (some ⟨g, 0, none⟩) (tr ++ [x]).length cap).ownBlock = some g from rfl, ← e]; exact h.mem.tvals
    · intro e2; injection e2 with e3; dsimp only at e3; omega
  · rcases hat with e | e
    · rw [show (Value.slice (some ⟨g, 0, none⟩) (tr ++ [x]).length cap).ownBlock = some g from rfl, ← e]; exact h.mem.theap
    · intro e2; injection e2 with e3; dsimp only at e3; omega
  · rcases hat with e | e
    · rw [show (Value.slice (some ⟨g, 0, none⟩) (tr ++ [x]).length cap).ownBlock = some g from rfl, ← e]; exact h.rt
    · intro e2; injection e2 with e3; dsimp only at e3; omega

/-- One instruction, no trap. -/
def execV (x : Ins) (args vals hp : List Int) : List Int :=
  if x.op = 1 then setN vals x.dst x.imm else if x.op = 2 then setN vals x.dst (argR args x.imm) else if x.op = 8 then setN vals x.dst (getN hp (getN vals x.a % 32))
  else if x.op = 9 then vals else if x.op = 10 then vals else setN vals x.dst (arithR x.op (getN vals x.a) (getN vals x.b))
def execH (x : Ins) (vals hp : List Int) : List Int := if x.op = 9 then setN hp (getN vals x.a % 32) (getN vals x.b) else hp
def execT (x : Ins) (vals tr : List Int) : List Int := if x.op = 10 then tr ++ [getN vals x.a] else tr
theorem execV_len (x : Ins) (args vals hp : List Int) : (execV x args vals hp).length = vals.length := by
  unfold execV
  repeat' split
  all_goals simp [setN_len]
theorem execH_len (x : Ins) (vals hp : List Int) : (execH x vals hp).length = hp.length := by
  unfold execH
  split
  all_goals simp [setN_len]
theorem execT_len (x : Ins) (vals tr : List Int) : (execT x vals tr).length ≤ tr.length + 1 := by
  unfold execT
  split
  all_goals simp
theorem fld_yes {u : Bool} {x lo hi : Int} (h : fld u x lo hi = true) (hu : u = true) : lo ≤ x ∧ x < hi := by
  subst hu
  simpa [fld] using h
theorem ins_facts {n : Int} {x : Ins} (h : insOk n 10 x = true) : (1 ≤ x.op ∧ x.op ≤ 10) ∧ (dB x.op = true → 0 ≤ x.dst ∧ x.dst < n) ∧ (aB x.op = true → 0 ≤ x.a ∧ x.a < n) ∧ (bB x.op = true → 0 ≤ x.b ∧ x.b < n) ∧ (x.op = 2 → 0 ≤ x.imm ∧ x.imm < 8) := by
  simp only [insOk, Bool.and_eq_true, decide_eq_true_eq] at h
  obtain ⟨⟨⟨⟨⟨h1, h2⟩, h3⟩, h4⟩, h5⟩, h6⟩ := h
  refine ⟨⟨h1, h2⟩, fld_yes h3, fld_yes h4, fld_yes h5, fun e => ?_⟩
  simpa [immOk, e] using h6
theorem Kb.cell {g b o : Nat} (h : Kb B g g w w') (hb : b < B) (hne : b ≠ g) : w'.cell? ⟨b, o, none⟩ = w.cell? ⟨b, o, none⟩ := cell_of (h.block b hb hne hne)

/-- The reading of one phi, seen from the first j predecessors. -/
def entIn (ps : List Int) (p : Int) (ph : Ph) (vals : List Int) : Nat → List Int → List Int
  | 0, o => o
  | j + 1, o => if ps.getD j (-1) = p then setN (entIn ps p ph vals j o) ph.dst (getN vals (ph.args.getD j 0)) else entIn ps p ph vals j o
/-- All phis of a block at once. -/
def entTo (ps : List Int) (p : Int) (phs : List Ph) (vals : List Int) : List Int := phs.foldl (fun o ph => entIn ps p ph vals ps.length o) vals
theorem entIn_len (ps : List Int) (p : Int) (ph : Ph) (vals : List Int) (j : Nat) (o : List Int) : (entIn ps p ph vals j o).length = o.length := by
  induction j with
  | zero => rfl
  | succ j ih => unfold entIn; split <;> simp [setN_len, ih]
theorem entTo_len (ps : List Int) (p : Int) (phs : List Ph) (vals : List Int) : (entTo ps p phs vals).length = vals.length := by
  unfold entTo
  suffices h : ∀ o : List Int, (phs.foldl (fun o ph => entIn ps p ph vals ps.length o) o).length = o.length from h vals
  induction phs with
  | nil => intro o; rfl
  | cons x xs ih => intro o; rw [List.foldl_cons, ih, entIn_len]
theorem entTo_snoc (ps : List Int) (p : Int) (phs : List Ph) (ph : Ph) (vals : List Int) : entTo ps p (phs ++ [ph]) vals = entIn ps p ph vals ps.length (entTo ps p phs vals) := by simp [entTo]
theorem phOk_facts {n : Int} {k : Nat} {p : Ph} (h : phOkI n k p = true) : (0 ≤ p.dst ∧ p.dst < n) ∧ p.args.length = k ∧ ∀ a ∈ p.args, 0 ≤ a ∧ a < n := by
  simp only [phOkI, phOkS, Bool.and_eq_true, decide_eq_true_eq, List.all_eq_true] at h
  obtain ⟨h1, ⟨h2, h3⟩, h4⟩ := h
  exact ⟨fld_yes h1 rfl, h3, h4⟩
end Go.Proofs.YtdcdgopblbmgoaaDoor
