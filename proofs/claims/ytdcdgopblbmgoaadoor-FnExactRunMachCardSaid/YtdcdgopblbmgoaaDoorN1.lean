import Derived.Test.YtdcdgopblbmgoaaDoorR1
import Derived.Deep.RegionWith
import Derived.Deep.RegionHeld3
namespace Go.Proofs.YtdcdgopblbmgoaaDoor
open Go.RowKit

/-- The node of an instruction. -/
def nodeV (args : List Int) (x : Ins) : Value :=
  if x.op = 1 then .iface 214 (.agg #[.int .i64 x.dst, .int .i64 x.imm]) else if x.op = 2 then .iface 214 (.agg #[.int .i64 x.dst, .int .i64 (argR args x.imm)])
  else if x.op = 8 ∨ x.op = 9 then .iface 216 (.agg #[.int .i64 x.op, .int .i64 x.dst, .int .i64 x.a, .int .i64 x.b]) else if x.op = 10 then .iface 218 (.agg #[.int .i64 x.a])
  else .iface 219 (.agg #[.int .i64 x.op, .int .i64 x.dst, .int .i64 x.a, .int .i64 x.b])

set_option maxHeartbeats 400000 in
theorem argument_any (r : Nat) (a : Option Addr) (n c : Nat) (i : Int) (xs : List Int) (L B : Nat) (w : World) (hc : w.cell? ⟨r, 0, none⟩ = some (.slice a n c)) (ha : Hid (IntsAt w L B a xs)) (hx : Hid (n = xs.length)) (h0 : 0 ≤ i) (h1 : i ≤ 1000) :
    Calls Tryd.prog 148 #[.pointer (some ⟨r, 0, none⟩), .int .i64 i] w fun e w' => e = .returned (.int .i64 (argR xs i)) ∧ w' = w := by
  obtain ⟨k, rfl⟩ := Int.eq_ofNat_of_zero_le h0
  by_cases hk : k < n
  · have hkx : k < xs.length := by have := hx.out; omega
    obtain ⟨b, o, rfl, ⟨_, hb⟩, hcc⟩ := ha.out k hkx
    have hv : argR xs (k : Int) = xs[k] := by simp [argR, hkx]
    generalize xs[k] = X at *
    go_enter Tryd.func148, Tryd.ntmps148
    go_wp2
    go_ret
    exact ⟨ret_int hv.symm, rfl⟩
  · have hkx : xs.length ≤ k := by have := hx.out; omega
    have hv : argR xs (k : Int) = 0 := by simp [argR, List.getElem?_eq_none hkx]
    go_enter Tryd.func148, Tryd.ntmps148
    go_wp2
    go_ret
    exact ⟨ret_int hv.symm, rfl⟩

theorem ret_val {u v : Value} (h : u = v) : Ending.returned u = Ending.returned v := by rw [h]

set_option maxHeartbeats 1000000 in
theorem instrNode_any (x : Ins) (args : List Int) (r : Nat) (a : Option Addr) (n c : Nat) (nv : Int) (L B : Nat) (w : World) (hc : w.cell? ⟨r, 0, none⟩ = some (.slice a n c)) (hr : r < w.heap.size) (ha : Hid (IntsAt w L B a args)) (hx : Hid (n = args.length)) (hB : B ≤ w.heap.size) (ok : insOk nv 10 x = true) :
    Calls Tryd.prog 115 #[.pointer (some ⟨r, 0, none⟩), .agg #[.int .i64 x.op, .int .i64 x.dst, .int .i64 x.a, .int .i64 x.b, .int .i64 x.imm]] w fun e w' => e = .returned (nodeV args x) ∧ Below w.heap.size w w' := by
  obtain ⟨⟨o1, o2⟩, _, _, _, fi⟩ := ins_facts ok
  clear ok
  have HA := fun o => hide (ha.out.keep ((balloc (Below.refl w.heap.size w) o).drew.mono hB))
  have HC := fun o => ((balloc (Below.refl w.heap.size w) o).drew.cell (p := ⟨r, 0, none⟩) hr).trans hc
  obtain ⟨op, dst, xa, xb, imm⟩ := x
  dsimp only at *
  have hk : op = 1 ∨ op = 2 ∨ op = 8 ∨ op = 9 ∨ op = 10 ∨ (3 ≤ op ∧ op ≤ 7) := by omega
  rcases hk with rfl | rfl | rfl | rfl | rfl | ⟨k1, k2⟩
  · go_enter Tryd.func115, Tryd.ntmps115
    go_wp2
    go_ret
    exact ⟨ret_val (by simp [nodeV]), balloc (Below.refl _ _) _⟩
  · obtain ⟨i0, i1⟩ := fi rfl
    have hv : Hid (nodeV args ⟨2, dst, xa, xb, imm⟩ = .iface 214 (.agg #[.int .i64 dst, .int .i64 (argR args imm)])) := hide (by simp [nodeV])
    go_enter Tryd.func115, Tryd.ntmps115
    go_wp2
    go_region_with (go_at_call 148; refine (argument_any r a n c imm args L B _ (HC _) (HA _) hx i0 (by omega)).mono ?_; rintro e w1 ⟨rfl, rfl⟩)
    all_goals
      go_wp2
      go_ret
      exact ⟨ret_val hv.out.symm, (balloc (Below.refl _ _) _).drew⟩
  · go_enter Tryd.func115, Tryd.ntmps115
    go_wp2
    go_ret
    exact ⟨ret_val (by simp [nodeV]), balloc (Below.refl _ _) _⟩
  · go_enter Tryd.func115, Tryd.ntmps115
    go_wp2
    go_ret
    exact ⟨ret_val (by simp [nodeV]), balloc (Below.refl _ _) _⟩
  · go_enter Tryd.func115, Tryd.ntmps115
    go_wp2
    go_ret
    exact ⟨ret_val (by simp [nodeV]), balloc (Below.refl _ _) _⟩
  · have e1 : (op == 1) = false := by simp; omega
    have e2 : (op == 2) = false := by simp; omega
    have e3 : (op == 8) = false := by simp; omega
    have e4 : (op == 9) = false := by simp; omega
    have e5 : (op == 10) = false := by simp; omega
    have hv : Hid (nodeV args ⟨op, dst, xa, xb, imm⟩ = .iface 219 (.agg #[.int .i64 op, .int .i64 dst, .int .i64 xa, .int .i64 xb])) := hide (by
      unfold nodeV
      rw [if_neg (by dsimp only; omega), if_neg (by dsimp only; omega), if_neg (by dsimp only; omega), if_neg (by dsimp only; omega)])
    go_enter Tryd.func115, Tryd.ntmps115
    go_wp2
    go_ret
    exact ⟨ret_val hv.out.symm, balloc (Below.refl _ _) _⟩

set_option maxHeartbeats 400000 in
theorem outcome_any (r : Nat) (code value steps : Int) (ta : Option Addr) (nt ct : Nat) (ha : Option Addr) (nh ch : Nat) (w : World)
    (h1 : w.cell? ⟨r, 1, none⟩ = some (.slice ha nh ch)) (h2 : w.cell? ⟨r, 2, none⟩ = some (.slice ta nt ct)) (h4 : w.cell? ⟨r, 4, none⟩ = some (.int .i64 steps)) (h5 : w.cell? ⟨r, 5, none⟩ = some (.int .i64 value)) (hr : r < w.heap.size) :
    Calls Tryd.prog 118 #[.pointer (some ⟨r, 0, none⟩), .int .i64 code] w fun e w' => e = .returned (.agg #[.int .i64 code, .int .i64 value, .int .i64 steps, .slice ta nt ct, .slice ha nh ch]) ∧ Below w.heap.size w w' := by
  have z1 := fun o => ((balloc (Below.refl w.heap.size w) o).cell (p := ⟨r, 1, none⟩) hr).trans h1
  have z2 := fun o => ((balloc (Below.refl w.heap.size w) o).cell (p := ⟨r, 2, none⟩) hr).trans h2
  have z4 := fun o => ((balloc (Below.refl w.heap.size w) o).cell (p := ⟨r, 4, none⟩) hr).trans h4
  have z5 := fun o => ((balloc (Below.refl w.heap.size w) o).cell (p := ⟨r, 5, none⟩) hr).trans h5
  go_enter Tryd.func118, Tryd.ntmps118
  go_wp2
  go_region_held3 (fun w' => w'.cell? ⟨r, 1, none⟩ = some (.slice ha nh ch) ∧ w'.cell? ⟨r, 2, none⟩ = some (.slice ta nt ct) ∧ w'.cell? ⟨r, 4, none⟩ = some (.int .i64 steps) ∧ w'.cell? ⟨r, 5, none⟩ = some (.int .i64 value)) (go_keep) (fail)
  go_wp2
  exact bodyPost_ret (v := .agg #[.int .i64 code, .int .i64 value, .int .i64 steps, .slice ta nt ct, .slice ha nh ch]) (by simp [results, Tryd.results118, go_sem]) rfl ⟨rfl, (balloc (Below.refl _ _) _).drew⟩
end Go.Proofs.YtdcdgopblbmgoaaDoor

/-
  A run of a function, step by step, over pure data. Imports nothing of the program.
-/
namespace Go.Proofs.YtdcdgopblbmgoaaDoor
open Go.RowKit

structure RS where
  b : Nat
  pc : Nat
  vals : List Int
  hp : List Int
  tr : List Int
structure Out where
  code : Int
  value : Int
  steps : Nat
  tr : List Int
  hp : List Int
inductive Nx where
  | trap : Nx
  | ret : Int → Nx
  | go : RS → Nx
def Fn.blk (F : Fn) (b : Nat) : Blk := F.blocks.getD b ⟨[], [], ⟨0, 0, 0, 0⟩⟩
def goTo (X : Blk) (vals : List Int) : Int := if X.term.kind = 2 ∧ getN vals X.term.a = 0 then X.term.els else X.term.to
def stepR (F : Fn) (args : List Int) (s : RS) : Nx :=
  if h : s.pc < (F.blk s.b).instrs.length then
    if (F.blk s.b).instrs[s.pc].op = 6 ∧ getN s.vals (F.blk s.b).instrs[s.pc].b = 0 then .trap
    else .go ⟨s.b, s.pc + 1, execV (F.blk s.b).instrs[s.pc] args s.vals s.hp, execH (F.blk s.b).instrs[s.pc] s.vals s.hp, execT (F.blk s.b).instrs[s.pc] s.vals s.tr⟩
  else if (F.blk s.b).term.kind = 3 then .ret (getN s.vals (F.blk s.b).term.a)
  else .go ⟨(goTo (F.blk s.b) s.vals).toNat, 0, entTo (F.preds (goTo (F.blk s.b) s.vals).toNat) s.b (F.blk (goTo (F.blk s.b) s.vals).toNat).phis s.vals, s.hp, s.tr⟩
/-- The run from here on: fuel is what is left, k what is spent. -/
def runR (F : Fn) (args : List Int) : Nat → Nat → RS → Out
  | 0, k, s => ⟨3, 0, k, s.tr, s.hp⟩
  | fuel + 1, k, s => match stepR F args s with
    | .trap => ⟨2, 0, k + 1, s.tr, s.hp⟩
    | .ret v => ⟨1, v, k + 1, s.tr, s.hp⟩
    | .go s' => runR F args fuel (k + 1) s'
def startR (F : Fn) (heap : List Int) : RS := ⟨0, 0, List.replicate F.values.toNat 0, heapR heap, []⟩
/-- What RunFunc answers. -/
def outR (F : Fn) (args heap : List Int) (fuel : Int) : Out :=
  if validS F && runOk args.length heap.length fuel then runR F args fuel.toNat 0 (startR F heap) else ⟨4, 0, 0, [], []⟩

theorem blk_at (F : Fn) (b : Nat) (h : b < F.blocks.length) : F.blk b = F.blocks[b] := by simp [Fn.blk, h]
theorem runR_stop (F : Fn) (args : List Int) {fuel k : Nat} {s : RS} (h : k < fuel) : runR F args (fuel - k) k s = match stepR F args s with | .trap => ⟨2, 0, k + 1, s.tr, s.hp⟩ | .ret v => ⟨1, v, k + 1, s.tr, s.hp⟩ | .go s' => runR F args (fuel - (k + 1)) (k + 1) s' := by
  obtain ⟨q, hq⟩ : ∃ q, fuel - k = q + 1 := ⟨fuel - k - 1, by omega⟩
  have hq2 : fuel - (k + 1) = q := by omega
  rw [hq, hq2, runR]

/-- What validity says of one block. -/
structure BlkOk (F : Fn) (b : Nat) : Prop where
  lt : b < F.blocks.length
  ins : ∀ i (h : i < (F.blk b).instrs.length), insOk F.values 10 (F.blk b).instrs[i] = true
  ter : terOk' F.values F.blocks.length (F.blk b).term = true
  phi : ∀ i (h : i < (F.blk b).phis.length), phOkI F.values (F.preds b).length (F.blk b).phis[i] = true
theorem phisFrom_at (ok : Int → Nat → Ph → Bool) (F : Fn) : ∀ (xs : List Blk) (i : Nat), phisFrom ok F xs i = true → ∀ j (h : j < xs.length), xs[j].phis.all (ok F.values (F.preds ((i + j : Nat) : Int)).length) = true
  | [], _, _, j, h => absurd h (by simp)
  | x :: xs, i, hp, j, h => by
    rw [phisFrom, Bool.and_eq_true] at hp
    cases j with
    | zero => simpa using hp.1
    | succ j =>
      have := phisFrom_at ok F xs (i + 1) hp.2 j (by simpa using h)
      rw [show i + 1 + j = i + (j + 1) by omega] at this
      simpa using this
theorem blkOk_of (F : Fn) (h : validS F = true) (b : Nat) (hb : b < F.blocks.length) : BlkOk F b := by
  rw [← valid_same] at h
  simp only [validI, Bool.and_eq_true] at h
  obtain ⟨⟨⟨⟨_, h2⟩, h3⟩, h4⟩, _⟩ := h
  refine ⟨hb, ?_, ?_, ?_⟩
  · rw [blk_at F b hb]
    intro i hi
    have := (List.all_eq_true.1 h3) F.blocks[b] (List.getElem_mem hb)
    exact (List.all_eq_true.1 this) _ (List.getElem_mem hi)
  · rw [blk_at F b hb]
    exact (List.all_eq_true.1 h2) F.blocks[b] (List.getElem_mem hb)
  · rw [blk_at F b hb]
    intro i hi
    have := phisFrom_at phOkI F F.blocks 0 h4 b hb
    rw [Nat.zero_add] at this
    exact (List.all_eq_true.1 this) _ (List.getElem_mem hi)
/-- Where an end leads. -/
theorem goTo_ok {F : Fn} {b : Nat} (h : BlkOk F b) (hk : (F.blk b).term.kind ≠ 3) (vals : List Int) : 1 ≤ goTo (F.blk b) vals ∧ goTo (F.blk b) vals < F.blocks.length := by
  have ht := h.ter
  generalize F.blk b = X at *
  simp only [terOk', terOk, Bool.and_eq_true, decide_eq_true_eq] at ht
  obtain ⟨⟨⟨⟨⟨t1, t2⟩, _⟩, t3⟩, t4⟩, _⟩ := ht
  unfold goTo
  split
  · rename_i e; exact fld_yes t4 (by simp [e.1])
  · exact fld_yes t3 (by simp [hk])
theorem term_a {F : Fn} {b : Nat} (h : BlkOk F b) (hk : (F.blk b).term.kind ≠ 1) : 0 ≤ (F.blk b).term.a ∧ (F.blk b).term.a < F.values := by
  have ht := h.ter
  generalize F.blk b = X at *
  simp only [terOk', terOk, Bool.and_eq_true, decide_eq_true_eq] at ht
  obtain ⟨⟨⟨⟨⟨t1, t2⟩, t3⟩, _⟩, _⟩, _⟩ := ht
  exact fld_yes t3 (by simp [hk])
theorem term_kind {F : Fn} {b : Nat} (h : BlkOk F b) : 1 ≤ (F.blk b).term.kind ∧ (F.blk b).term.kind ≤ 3 := by
  have ht := h.ter
  generalize F.blk b = X at *
  simp only [terOk', terOk, Bool.and_eq_true, decide_eq_true_eq] at ht
  exact ⟨ht.1.1.1.1.1, ht.1.1.1.1.2⟩
end Go.Proofs.YtdcdgopblbmgoaaDoor
