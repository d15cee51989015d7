import Derived.Test.YtdcdgopblbmgoaaDoorMem
import Derived.Test.YtdcdgopblbmgoaaDoorN1
/-
  How a machine program lies in memory, and what is valid of one. Imports nothing of the program.
-/
namespace Go.Proofs.YtdcdgopblbmgoaaDoor
open Go.RowKit

structure MBlk where
  instrs : List Ins
  term : Ter

def MBlkAt (w : World) (L B b o : Nat) (x : MBlk) : Prop :=
  ∃ ia ic, w.cell? ⟨b, o, none⟩ = some (.slice ia x.instrs.length ic) ∧ TerAt w b (o + 1) x.term ∧ InssAt w L B ia x.instrs

def MBlksAt (w : World) (L B : Nat) (a : Option Addr) (xs : List MBlk) : Prop :=
  ∀ i (h : i < xs.length), ∃ b o, a = some ⟨b, o, none⟩ ∧ (L ≤ b ∧ b < B) ∧ MBlkAt w L B b (o + i * 5) xs[i]

variable {w w' : World} {L B : Nat}
theorem MBlkAt.keepS {b o : Nat} {x : MBlk} (h : MBlkAt w L B b o x) (k : Same L B w w') (e : w'.heap[b]? = w.heap[b]?) : MBlkAt w' L B b o x := by
  obtain ⟨ia, ic, h0, h2, h4⟩ := h
  exact ⟨ia, ic, (cell_of e).trans h0, h2.keepS e, h4.keepS k⟩
theorem MBlksAt.keepS {a : Option Addr} {xs : List MBlk} (h : MBlksAt w L B a xs) (k : Same L B w w') : MBlksAt w' L B a xs := fun i hi => by
  obtain ⟨b, o, e, hb, hc⟩ := h i hi
  exact ⟨b, o, e, hb, hc.keepS k (k b hb.1 hb.2)⟩
theorem MBlkAt.keep {b o : Nat} {x : MBlk} (h : MBlkAt w L B b o x) (k : Below B w w') (hb : b < B) : MBlkAt w' L B b o x := h.keepS (Same.of_below k) (k.block b hb)
theorem MBlksAt.keep {a : Option Addr} {xs : List MBlk} (h : MBlksAt w L B a xs) (k : Below B w w') : MBlksAt w' L B a xs := h.keepS (Same.of_below k)
theorem MBlkAt.mono {L' B' : Nat} {b o : Nat} {x : MBlk} (h : MBlkAt w L B b o x) (l : L' ≤ L) (k : B ≤ B') : MBlkAt w L' B' b o x := by
  obtain ⟨ia, ic, h0, h2, h4⟩ := h
  exact ⟨ia, ic, h0, h2, h4.mono l k⟩
theorem MBlksAt.mono {L' B' : Nat} {a : Option Addr} {xs : List MBlk} (h : MBlksAt w L B a xs) (l : L' ≤ L) (k : B ≤ B') : MBlksAt w L' B' a xs := fun i hi => by
  obtain ⟨b, o, e, hb, hc⟩ := h i hi
  exact ⟨b, o, e, by omega, hc.mono l k⟩

def mTot (xs : List MBlk) : Nat := (xs.map fun x => x.instrs.length).sum
def mSize (xs : List MBlk) : Nat := (xs.map fun x => 1 + x.instrs.length).sum
theorem mTot_snoc (ps : List MBlk) (p : MBlk) : mTot (ps ++ [p]) = mTot ps + p.instrs.length := by simp [mTot]
theorem mSize_snoc (ps : List MBlk) (p : MBlk) : mSize (ps ++ [p]) = mSize ps + (1 + p.instrs.length) := by simp [mSize]
theorem mTot_take (ps : List MBlk) (k : Nat) : mTot (ps.take k) ≤ mTot ps := sum_take_le _ _ _
theorem mSize_take (ps : List MBlk) (k : Nat) : mSize (ps.take k) ≤ mSize ps := sum_take_le _ _ _
theorem mSize_tot (xs : List MBlk) : mSize xs = xs.length + mTot xs := by
  induction xs with
  | nil => rfl
  | cons x xs ih =>
    simp only [mSize, mTot, List.map_cons, List.sum_cons, List.length_cons] at ih ⊢
    omega
theorem mTot_le {xs : List MBlk} {x : MBlk} (h : x ∈ xs) : x.instrs.length ≤ mTot xs := by
  induction xs with
  | nil => cases h
  | cons y ys ih =>
    have h2 : mTot (y :: ys) = y.instrs.length + mTot ys := by simp [mTot]
    rcases List.mem_cons.1 h with rfl | h
    · omega
    · have := ih h; omega

/-- One block of a machine program: its instructions and its end. -/
def mOk (v : Int) (n : Nat) (x : MBlk) : Bool := x.instrs.all (insOk v 13) && terOk v 0 n x.term
def headM (v : Int) (xs : List MBlk) : Bool := decide (1 ≤ v) && decide (v ≤ 64) && decide (1 ≤ xs.length) && decide (xs.length ≤ 3000) && decide (mSize xs ≤ 20000)
def validM (v : Int) (xs : List MBlk) : Bool := headM v xs && xs.all (mOk v xs.length)
theorem headM_yes {v : Int} {xs : List MBlk} (h0 : 1 ≤ v) (h1 : v ≤ 64) (h2 : 1 ≤ xs.length) (h3 : xs.length ≤ 3000) (h4 : mSize xs ≤ 20000) : headM v xs = true := by simp [headM, *]
theorem headM_no {v : Int} {xs : List MBlk} (h : ¬ (1 ≤ v ∧ v ≤ 64 ∧ 1 ≤ xs.length ∧ xs.length ≤ 3000 ∧ mSize xs ≤ 20000)) : headM v xs = false := by
  rw [Bool.eq_false_iff]
  intro e
  simp only [headM, Bool.and_eq_true, decide_eq_true_eq] at e
  omega
theorem validM_no {v : Int} {xs : List MBlk} (h : ¬ (1 ≤ v ∧ v ≤ 64 ∧ 1 ≤ xs.length ∧ xs.length ≤ 3000 ∧ mSize xs ≤ 20000)) : validM v xs = false := by
  unfold validM
  rw [headM_no h]
  rfl

/-- Each list of the blocks is no longer than memory allows. -/
def MLenOk (xs : List MBlk) : Prop := ∀ x ∈ xs, x.instrs.length ≤ 9223372036854775807
def MLen (xs : List MBlk) : Prop := ∀ x ∈ xs, x.instrs.length ≤ 1048576
theorem mlen_of_tot {xs : List MBlk} (h : xs.length + mTot xs ≤ 1048576) : MLen xs := fun x hx => by
  have h1 := mTot_le hx
  omega
end Go.Proofs.YtdcdgopblbmgoaaDoor

/-
  A run of a machine program, step by step, over pure data. Imports nothing of the program.
-/
namespace Go.Proofs.YtdcdgopblbmgoaaDoor
open Go.RowKit

structure MS where
  b : Nat
  pc : Nat
  regs : List Int
  sc : Int
  hp : List Int
  tr : List Int
inductive NM where
  | trap : NM
  | ret : Int → NM
  | go : MS → NM
def mblk (xs : List MBlk) (b : Nat) : MBlk := xs.getD b ⟨[], ⟨0, 0, 0, 0⟩⟩
def goM (X : MBlk) (regs : List Int) : Int := if X.term.kind = 2 ∧ getN regs X.term.a = 0 then X.term.els else X.term.to
/-- One instruction of a machine program. -/
def insM (x : Ins) (args : List Int) (s : MS) : NM :=
  if x.op = 11 then .go ⟨s.b, s.pc + 1, setN s.regs x.dst (getN s.regs x.a), s.sc, s.hp, s.tr⟩
  else if x.op = 12 then .go ⟨s.b, s.pc + 1, s.regs, getN s.regs x.a, s.hp, s.tr⟩
  else if x.op = 13 then .go ⟨s.b, s.pc + 1, setN s.regs x.dst s.sc, s.sc, s.hp, s.tr⟩
  else if x.op = 6 ∧ getN s.regs x.b = 0 then .trap
  else .go ⟨s.b, s.pc + 1, execV x args s.regs s.hp, s.sc, execH x s.regs s.hp, execT x s.regs s.tr⟩
def stepM (xs : List MBlk) (args : List Int) (s : MS) : NM :=
  if h : s.pc < (mblk xs s.b).instrs.length then insM (mblk xs s.b).instrs[s.pc] args s
  else if (mblk xs s.b).term.kind = 3 then .ret (getN s.regs (mblk xs s.b).term.a)
  else .go ⟨(goM (mblk xs s.b) s.regs).toNat, 0, s.regs, s.sc, s.hp, s.tr⟩
/-- The run from here on: fuel is what is left, k what is spent. -/
def runM (xs : List MBlk) (args : List Int) : Nat → Nat → MS → Out
  | 0, k, s => ⟨3, 0, k, s.tr, s.hp⟩
  | fuel + 1, k, s => match stepM xs args s with
    | .trap => ⟨2, 0, k + 1, s.tr, s.hp⟩
    | .ret v => ⟨1, v, k + 1, s.tr, s.hp⟩
    | .go s' => runM xs args fuel (k + 1) s'
def startM (V : Int) (heap : List Int) : MS := ⟨0, 0, List.replicate V.toNat 0, 0, heapR heap, []⟩
/-- What RunMach answers. -/
def outM (V : Int) (xs : List MBlk) (args heap : List Int) (fuel : Int) : Out :=
  if validM V xs && runOk args.length heap.length fuel then runM xs args fuel.toNat 0 (startM V heap) else ⟨4, 0, 0, [], []⟩

theorem mblk_at (xs : List MBlk) (b : Nat) (h : b < xs.length) : mblk xs b = xs[b] := by simp [mblk, h]
theorem runM_stop (xs : List MBlk) (args : List Int) {fuel k : Nat} {s : MS} (h : k < fuel) : runM xs args (fuel - k) k s = match stepM xs args s with | .trap => ⟨2, 0, k + 1, s.tr, s.hp⟩ | .ret v => ⟨1, v, k + 1, s.tr, s.hp⟩ | .go s' => runM xs args (fuel - (k + 1)) (k + 1) s' := by
  obtain ⟨q, hq⟩ : ∃ q, fuel - k = q + 1 := ⟨fuel - k - 1, by omega⟩
  have hq2 : fuel - (k + 1) = q := by omega
  rw [hq, hq2, runM]

/-- What validity says of one block. -/
structure MOk (V : Int) (xs : List MBlk) (b : Nat) : Prop where
  lt : b < xs.length
  ins : ∀ i (h : i < (mblk xs b).instrs.length), insOk V 13 (mblk xs b).instrs[i] = true
  ter : terOk V 0 xs.length (mblk xs b).term = true
theorem mOk_of {V : Int} {xs : List MBlk} (h : validM V xs = true) (b : Nat) (hb : b < xs.length) : MOk V xs b := by
  unfold validM at h
  rw [Bool.and_eq_true, List.all_eq_true] at h
  have h1 := h.2 xs[b] (List.getElem_mem hb)
  unfold mOk at h1
  rw [Bool.and_eq_true, List.all_eq_true] at h1
  refine ⟨hb, ?_, ?_⟩
  · rw [mblk_at xs b hb]
    intro i hi
    exact h1.1 _ (List.getElem_mem hi)
  · rw [mblk_at xs b hb]; exact h1.2
theorem insOk_low {n : Int} {x : Ins} (h : insOk n 13 x = true) (h1 : x.op ≠ 11) (h2 : x.op ≠ 12) (h3 : x.op ≠ 13) : insOk n 10 x = true := by
  simp only [insOk, Bool.and_eq_true, decide_eq_true_eq] at h ⊢
  refine ⟨⟨⟨⟨⟨h.1.1.1.1.1, ?_⟩, h.1.1.1.2⟩, h.1.1.2⟩, h.1.2⟩, h.2⟩
  have := h.1.1.1.1.2
  omega
theorem insM_facts {n : Int} {x : Ins} (h : insOk n 13 x = true) : (1 ≤ x.op ∧ x.op ≤ 13) ∧ (dB x.op = true → 0 ≤ x.dst ∧ x.dst < n) ∧ (aB x.op = true → 0 ≤ x.a ∧ x.a < n) ∧ (bB x.op = true → 0 ≤ x.b ∧ x.b < n) := by
  simp only [insOk, Bool.and_eq_true, decide_eq_true_eq] at h
  obtain ⟨⟨⟨⟨⟨h1, h2⟩, h3⟩, h4⟩, h5⟩, h6⟩ := h
  exact ⟨⟨h1, h2⟩, fld_yes h3, fld_yes h4, fld_yes h5⟩
theorem goM_ok {V : Int} {xs : List MBlk} {b : Nat} (h : MOk V xs b) (hk : (mblk xs b).term.kind ≠ 3) (regs : List Int) : 0 ≤ goM (mblk xs b) regs ∧ goM (mblk xs b) regs < xs.length := by
  have ht := h.ter
  generalize mblk xs b = X at *
  simp only [terOk, Bool.and_eq_true, decide_eq_true_eq] at ht
  obtain ⟨⟨⟨⟨t1, t2⟩, _⟩, t3⟩, t4⟩ := ht
  unfold goM
  split
  · rename_i e; exact fld_yes t4 (by simp [e.1])
  · exact fld_yes t3 (by simp [hk])
theorem termM_a {V : Int} {xs : List MBlk} {b : Nat} (h : MOk V xs b) (hk : (mblk xs b).term.kind ≠ 1) : 0 ≤ (mblk xs b).term.a ∧ (mblk xs b).term.a < V := by
  have ht := h.ter
  generalize mblk xs b = X at *
  simp only [terOk, Bool.and_eq_true, decide_eq_true_eq] at ht
  obtain ⟨⟨⟨⟨t1, t2⟩, t3⟩, _⟩, _⟩ := ht
  exact fld_yes t3 (by simp [hk])
theorem termM_kind {V : Int} {xs : List MBlk} {b : Nat} (h : MOk V xs b) : 1 ≤ (mblk xs b).term.kind ∧ (mblk xs b).term.kind ≤ 3 := by
  have ht := h.ter
  generalize mblk xs b = X at *
  simp only [terOk, Bool.and_eq_true, decide_eq_true_eq] at ht
  exact ⟨ht.1.1.1.1, ht.1.1.1.2⟩
theorem stepM_hp {xs : List MBlk} {args : List Int} {s s' : MS} (h : stepM xs args s = .go s') : s'.hp.length = s.hp.length := by
  unfold stepM at h
  split at h
  · unfold insM at h
    repeat' split at h
    all_goals first | (cases h; done) | (injection h with h; subst h; first | rfl | exact execH_len _ _ _)
  · split at h
    · cases h
    · injection h with h; subst h; rfl
theorem runM_hp (xs : List MBlk) (args : List Int) : ∀ (fuel k : Nat) (s : MS), (runM xs args fuel k s).hp.length = s.hp.length
  | 0, _, _ => rfl
  | fuel + 1, k, s => by
    rw [runM]
    cases h : stepM xs args s with
    | trap => rfl
    | ret v => rfl
    | go s' => exact (runM_hp xs args fuel (k + 1) s').trans (stepM_hp h)

/-- The registers and the scratch behind them, as one row of cells. -/
theorem getN_app {regs : List Int} {sc i : Int} (h0 : 0 ≤ i) (h1 : i < regs.length) : getN (regs ++ [sc]) i = getN regs i := by
  obtain ⟨k, rfl⟩ := Int.eq_ofNat_of_zero_le h0
  have hk : k < regs.length := by omega
  rw [getN_of _ _ (by simp; omega), getN_of _ _ hk]
  simp [List.getElem_append_left hk]
theorem getN_last (regs : List Int) (sc : Int) : getN (regs ++ [sc]) regs.length = sc := by
  rw [getN_of _ _ (by simp)]
  simp
theorem setN_app {regs : List Int} {sc i v : Int} (h0 : 0 ≤ i) (h1 : i < regs.length) : setN (regs ++ [sc]) i v = setN regs i v ++ [sc] := by
  obtain ⟨k, rfl⟩ := Int.eq_ofNat_of_zero_le h0
  have hk : k < regs.length := by omega
  simp only [setN, Int.toNat_natCast]
  rw [List.set_append_left _ _ hk]
theorem setN_last (regs : List Int) (sc v : Int) : setN (regs ++ [sc]) regs.length v = regs ++ [v] := by
  simp only [setN, Int.toNat_natCast]
  rw [List.set_append_right _ _ (Nat.le_refl _)]
  simp
theorem exec_app {n : Int} {x : Ins} (ok : insOk n 10 x = true) (args regs hp tr : List Int) (sc : Int) (hn : n = regs.length) : execV x args (regs ++ [sc]) hp = execV x args regs hp ++ [sc] ∧ execH x (regs ++ [sc]) hp = execH x regs hp ∧ execT x (regs ++ [sc]) tr = execT x regs tr := by
  obtain ⟨⟨o1, o2⟩, fd, fa, fb, fi⟩ := ins_facts ok
  subst hn
  obtain ⟨op, dst, a, b, imm⟩ := x
  dsimp only at *
  have hc : op = 1 ∨ op = 2 ∨ (3 ≤ op ∧ op ≤ 7) ∨ op = 8 ∨ op = 9 ∨ op = 10 := by omega
  rcases hc with rfl | rfl | ⟨c1, c2⟩ | rfl | rfl | rfl
  · obtain ⟨d0, d1⟩ := fd (by decide)
    refine ⟨?_, rfl, rfl⟩
    simp only [execV, if_pos]
    exact setN_app d0 d1
  · obtain ⟨d0, d1⟩ := fd (by decide)
    refine ⟨?_, rfl, rfl⟩
    simp [execV, setN_app d0 d1]
  · obtain ⟨d0, d1⟩ := fd (by simp [dB]; omega)
    obtain ⟨a0, a1⟩ := fa (by simp [aB]; omega)
    obtain ⟨b0, b1⟩ := fb (by simp [bB]; omega)
    refine ⟨?_, ?_, ?_⟩
    · unfold execV
      dsimp only
      rw [if_neg (by omega), if_neg (by omega), if_neg (by omega), if_neg (by omega), if_neg (by omega), if_neg (by omega), if_neg (by omega), if_neg (by omega), if_neg (by omega), if_neg (by omega), getN_app a0 a1, getN_app b0 b1, setN_app d0 d1]
    · unfold execH
      dsimp only
      rw [if_neg (by omega), if_neg (by omega)]
    · unfold execT
      dsimp only
      rw [if_neg (by omega), if_neg (by omega)]
  · obtain ⟨d0, d1⟩ := fd (by decide)
    obtain ⟨a0, a1⟩ := fa (by decide)
    refine ⟨?_, rfl, rfl⟩
    simp [execV, setN_app d0 d1, getN_app a0 a1]
  · obtain ⟨a0, a1⟩ := fa (by decide)
    obtain ⟨b0, b1⟩ := fb (by decide)
    refine ⟨by simp [execV], ?_, rfl⟩
    simp [execH, getN_app a0 a1, getN_app b0 b1]
  · obtain ⟨a0, a1⟩ := fa (by decide)
    refine ⟨by simp [execV], rfl, ?_⟩
    simp [execT, getN_app a0 a1]
end Go.Proofs.YtdcdgopblbmgoaaDoor
