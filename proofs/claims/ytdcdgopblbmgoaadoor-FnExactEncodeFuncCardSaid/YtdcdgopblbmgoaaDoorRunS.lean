import Derived.Test.YtdcdgopblbmgoaaDoorRunP
import Derived.Test.YtdcdgopblbmgoaaDoorE7
import Derived.Test.YtdcdgopblbmgoaaDoorW18
/-
  A run of a function, step by step, over pure data. Imports nothing of the program.
-/
namespace Go.Proofs.YtdcdgopblbmgoaaDoor
open Go.RowKit

structure RS where
  b : Nat
  pc : Nat
  vals : List Int
  hp : List Int
  tr : List Int
structure Out where
  code : Int
  value : Int
  steps : Nat
  tr : List Int
  hp : List Int
inductive Nx where
  | trap : Nx
  | ret : Int → Nx
  | go : RS → Nx
def Fn.blk (F : Fn) (b : Nat) : Blk := F.blocks.getD b ⟨[], [], ⟨0, 0, 0, 0⟩⟩
def goTo (X : Blk) (vals : List Int) : Int := if X.term.kind = 2 ∧ getN vals X.term.a = 0 then X.term.els else X.term.to
def stepR (F : Fn) (args : List Int) (s : RS) : Nx :=
  if h : s.pc < (F.blk s.b).instrs.length then
    if (F.blk s.b).instrs[s.pc].op = 6 ∧ getN s.vals (F.blk s.b).instrs[s.pc].b = 0 then .trap
    else .go ⟨s.b, s.pc + 1, execV (F.blk s.b).instrs[s.pc] args s.vals s.hp, execH (F.blk s.b).instrs[s.pc] s.vals s.hp, execT (F.blk s.b).instrs[s.pc] s.vals s.tr⟩
  else if (F.blk s.b).term.kind = 3 then .ret (getN s.vals (F.blk s.b).term.a)
  else .go ⟨(goTo (F.blk s.b) s.vals).toNat, 0, entTo (F.preds (goTo (F.blk s.b) s.vals).toNat) s.b (F.blk (goTo (F.blk s.b) s.vals).toNat).phis s.vals, s.hp, s.tr⟩
/-- The run from here on: fuel is what is left, k what is spent. -/
def runR (F : Fn) (args : List Int) : Nat → Nat → RS → Out
  | 0, k, s => ⟨3, 0, k, s.tr, s.hp⟩
  | fuel + 1, k, s => match stepR F args s with
    | .trap => ⟨2, 0, k + 1, s.tr, s.hp⟩
    | .ret v => ⟨1, v, k + 1, s.tr, s.hp⟩
    | .go s' => runR F args fuel (k + 1) s'
def startR (F : Fn) (heap : List Int) : RS := ⟨0, 0, List.replicate F.values.toNat 0, heapR heap, []⟩
/-- What RunFunc answers. -/
def outR (F : Fn) (args heap : List Int) (fuel : Int) : Out :=
  if validS F && runOk args.length heap.length fuel then runR F args fuel.toNat 0 (startR F heap) else ⟨4, 0, 0, [], []⟩

theorem blk_at (F : Fn) (b : Nat) (h : b < F.blocks.length) : F.blk b = F.blocks[b] := by simp [Fn.blk, h]
theorem runR_stop (F : Fn) (args : List Int) {fuel k : Nat} {s : RS} (h : k < fuel) : runR F args (fuel - k) k s = match stepR F args s with | .trap => ⟨2, 0, k + 1, s.tr, s.hp⟩ | .ret v => ⟨1, v, k + 1, s.tr, s.hp⟩ | .go s' => runR F args (fuel - (k + 1)) (k + 1) s' := by
  obtain ⟨q, hq⟩ : ∃ q, fuel - k = q + 1 := ⟨fuel - k - 1, by omega⟩
  have hq2 : fuel - (k + 1) = q := by omega
  rw [hq, hq2, runR]

/-- What validity says of one block. -/
structure BlkOk (F : Fn) (b : Nat) : Prop where
  lt : b < F.blocks.length
  ins : ∀ i (h : i < (F.blk b).instrs.length), insOk F.values 10 (F.blk b).instrs[i] = true
  ter : terOk' F.values F.blocks.length (F.blk b).term = true
  phi : ∀ i (h : i < (F.blk b).phis.length), phOkI F.values (F.preds b).length (F.blk b).phis[i] = true
theorem phisFrom_at (ok : Int → Nat → Ph → Bool) (F : Fn) : ∀ (xs : List Blk) (i : Nat), phisFrom ok F xs i = true → ∀ j (h : j < xs.length), xs[j].phis.all (ok F.values (F.preds ((i + j : Nat) : Int)).length) = true
  | [], _, _, j, h => absurd h (by simp)
  | x :: xs, i, hp, j, h => by
    rw [phisFrom, Bool.and_eq_true] at hp
    cases j with
    | zero => simpa using hp.1
    | succ j =>
      have := phisFrom_at ok F xs (i + 1) hp.2 j (by simpa using h)
      rw [show i + 1 + j = i + (j + 1) by omega] at this
      simpa using this
theorem blkOk_of (F : Fn) (h : validS F = true) (b : Nat) (hb : b < F.blocks.length) : BlkOk F b := by
  rw [← valid_same] at h
  simp only [validI, Bool.and_eq_true] at h
  obtain ⟨⟨⟨⟨_, h2⟩, h3⟩, h4⟩, _⟩ := h
  refine ⟨hb, ?_, ?_, ?_⟩
  · rw [blk_at F b hb]
    intro i hi
    have := (List.all_eq_true.1 h3) F.blocks[b] (List.getElem_mem hb)
    exact (List.all_eq_true.1 this) _ (List.getElem_mem hi)
  · rw [blk_at F b hb]
    exact (List.all_eq_true.1 h2) F.blocks[b] (List.getElem_mem hb)
  · rw [blk_at F b hb]
    intro i hi
    have := phisFrom_at phOkI F F.blocks 0 h4 b hb
    rw [Nat.zero_add] at this
    exact (List.all_eq_true.1 this) _ (List.getElem_mem hi)
/-- Where an end leads. -/
theorem goTo_ok {F : Fn} {b : Nat} (h : BlkOk F b) (hk : (F.blk b).term.kind ≠ 3) (vals : List Int) : 1 ≤ goTo (F.blk b) vals ∧ goTo (F.blk b) vals < F.blocks.length := by
  have ht := h.ter
  generalize F.blk b = X at *
  simp only [terOk', terOk, Bool.and_eq_true, decide_eq_true_eq] at ht
  obtain ⟨⟨⟨⟨⟨t1, t2⟩, _⟩, t3⟩, t4⟩, _⟩ := ht
  unfold goTo
  split
  · rename_i e; exact fld_yes t4 (by simp [e.1])
  · exact fld_yes t3 (by simp [hk])
theorem term_a {F : Fn} {b : Nat} (h : BlkOk F b) (hk : (F.blk b).term.kind ≠ 1) : 0 ≤ (F.blk b).term.a ∧ (F.blk b).term.a < F.values := by
  have ht := h.ter
  generalize F.blk b = X at *
  simp only [terOk', terOk, Bool.and_eq_true, decide_eq_true_eq] at ht
  obtain ⟨⟨⟨⟨⟨t1, t2⟩, t3⟩, _⟩, _⟩, _⟩ := ht
  exact fld_yes t3 (by simp [hk])
theorem term_kind {F : Fn} {b : Nat} (h : BlkOk F b) : 1 ≤ (F.blk b).term.kind ∧ (F.blk b).term.kind ≤ 3 := by
  have ht := h.ter
  generalize F.blk b = X at *
  simp only [terOk', terOk, Bool.and_eq_true, decide_eq_true_eq] at ht
  exact ⟨ht.1.1.1.1.1, ht.1.1.1.1.2⟩
end Go.Proofs.YtdcdgopblbmgoaaDoor

/-
  spec.EncodeFunc.
-/
namespace Go.Proofs.YtdcdgopblbmgoaaDoor
open Go.RowKit

/-- The text of a function: empty for one that is not valid. -/
def encS (F : Fn) : List UInt8 := if validS F = true then rawS F else []
theorem fld_in {u : Bool} {x lo hi : Int} (h : fld u x lo hi = true) (h0 : 0 ≤ lo) (h1 : hi ≤ 2000) : 0 ≤ x ∧ x ≤ 2000 := by
  cases u <;> simp [fld] at h <;> omega
theorem inB_of {v : Int} (h : -1000000000 ≤ v ∧ v ≤ 1000000000) : InB v := by unfold InB; omega
/-- What a valid function's numbers are. -/
theorem ops_of_valid (F : Fn) (h : validS F = true) : InB F.values ∧ (∀ x ∈ F.blocks, BlkIn x) ∧ (∀ x ∈ F.blocks, (∀ i ∈ x.instrs, 1 ≤ i.op ∧ i.op ≤ 13) ∧ (x.term.kind = 1 ∨ x.term.kind = 2 ∨ x.term.kind = 3)) := by
  have hz : sizeOk F = true := by simp only [validS, Bool.and_eq_true] at h; exact h.1.1.1
  simp only [sizeOk, Bool.and_eq_true, decide_eq_true_eq] at hz
  obtain ⟨⟨⟨⟨z1, z2⟩, z3⟩, z4⟩, z5⟩ := hz
  refine ⟨inB_of (by omega), fun x hx => ?_, fun x hx => ?_⟩
  all_goals
    obtain ⟨b, hb, rfl⟩ := List.getElem_of_mem hx
    have H := blkOk_of F h b hb
    have e := blk_at F b hb
    have hI := H.ins
    have hT := H.ter
    have hP := H.phi
    rw [e] at hT
    simp only [terOk', terOk, Bool.and_eq_true, decide_eq_true_eq] at hT
    obtain ⟨⟨⟨⟨⟨t1, t2⟩, t3⟩, t4⟩, t5⟩, _⟩ := hT
  · constructor
    · intro p hp v hv
      obtain ⟨i, hi, rfl⟩ := List.getElem_of_mem hp
      have h1 := hP i (by rw [e]; exact hi)
      simp only [e] at h1
      simp only [phOkI, phOkS, Bool.and_eq_true, List.all_eq_true, decide_eq_true_eq] at h1
      obtain ⟨q1, ⟨_, q2⟩⟩ := h1
      rcases List.mem_cons.1 hv with rfl | hv
      · exact inB_of (by have := fld_in q1 (by omega) z2; omega)
      · exact inB_of (by have := q2 v hv; omega)
    · intro j hj v hv
      obtain ⟨i, hi, rfl⟩ := List.getElem_of_mem hj
      have h1 := hI i (by rw [e]; exact hi)
      simp only [e] at h1
      simp only [insOk, Bool.and_eq_true, decide_eq_true_eq] at h1
      obtain ⟨⟨⟨⟨⟨q1, q2⟩, q3⟩, q4⟩, q5⟩, q6⟩ := h1
      have i3 := fld_in q3 (by omega) z2
      have i4 := fld_in q4 (by omega) z2
      have i5 := fld_in q5 (by omega) z2
      have i6 : -1000000000 ≤ F.blocks[b].instrs[i].imm ∧ F.blocks[b].instrs[i].imm ≤ 1000000000 := by
        unfold immOk at q6
        split at q6
        · simpa using q6
        · split at q6
          · simp at q6; omega
          · simp at q6; omega
      simp only [List.mem_cons, List.not_mem_nil, or_false] at hv
      exact inB_of (by rcases hv with rfl | rfl | rfl | rfl <;> omega)
    · intro v hv
      have i3 := fld_in t3 (by omega) z2
      have i4 := fld_in t4 (by omega) (by omega)
      have i5 := fld_in t5 (by omega) (by omega)
      simp only [List.mem_cons, List.not_mem_nil, or_false] at hv
      exact inB_of (by rcases hv with rfl | rfl | rfl <;> omega)
  · refine ⟨fun j hj => ?_, by omega⟩
    obtain ⟨i, hi, rfl⟩ := List.getElem_of_mem hj
    have h1 := hI i (by rw [e]; exact hi)
    simp only [e] at h1
    simp only [insOk, Bool.and_eq_true, decide_eq_true_eq] at h1
    have h2 := h1.1.1.1.1
    omega

theorem own_nilB (w : World) : (w.alloc (.cells #[] 5)).ownsRow w.heap.size 5 1 (.slice (some ⟨w.heap.size, 0, none⟩) 0 0) 0 [] := by
  have := World.ownsRow_lit (base := w.heap.size) (e := 5) (size := 1) w #[] 0 (by simp) (by simp) rfl
  simpa using this

set_option maxHeartbeats 1000000 in
theorem encS_any (V : Int) (a : Option Addr) (n c : Nat) (xs : List Blk) (L B : Nat) (w : World) (ha : Hid (BlksAt w L B a xs)) (hx : Hid (n = xs.length)) (hs : Hid (xs.length + blksTot xs ≤ 1048576)) (hB : B ≤ w.heap.size) :
    Calls Tryd.prog 15 #[.agg #[.int .i64 V, .slice a n c]] w fun e w' => ∃ v, e = .returned v ∧ Below w.heap.size w w' ∧ v ≠ .slice none 0 0 ∧ w'.ownsRow w.heap.size 5 1 v (encS ⟨V, xs⟩).length (bytesV (encS ⟨V, xs⟩)) := by
  cases hv : validS ⟨V, xs⟩ with
  | false =>
    have HV := hide hv
    have HE : Hid (encS ⟨V, xs⟩ = []) := hide (by unfold encS; rw [hv]; rfl)
    clear hv
    go_enter Tryd.func15, Tryd.ntmps15
    go_wp2_with (go_at_call 11; refine (validFuncS_any V a n c xs L B _ (hide (ha.out.keep ((balloc (Below.refl w.heap.size w) _).mono hB))) hx hs (by simp; omega)).mono ?_; rintro e w1 ⟨rfl, hb1⟩; rw [HV.out])
    go_ret
    have hb := hb1
    have hz := hb1.size
    simp at hz
    refine ⟨_, rfl, balloc (((balloc (Below.refl w.heap.size w) _)).trans (hb1.mono (by simp))) _, by simp, ?_⟩
    rw [HE.out]
    exact own_base (own_nilB _) (by omega)
  | true =>
    have HV := hide hv
    have HE : Hid (encS ⟨V, xs⟩ = rawS ⟨V, xs⟩) := hide (by unfold encS; rw [hv]; rfl)
    obtain ⟨o1, o2, o3⟩ := ops_of_valid _ hv
    have O1 := hide o1
    have O2 := hide o2
    have O3 := hide o3
    have hn : n ≤ 1048576 := by have := hx.out; have := hs.out; omega
    have HLEN : Hid ((rawS ⟨V, xs⟩).length ≤ 1000000000000) := hide (by have := rawS_le ⟨V, xs⟩ o1 o2; have h2 := hs.out; simp only at this; omega)
    clear hv o1 o2 o3
    have HF : Hid (∀ w1, Below (w.alloc (.cells #[.int .i64 V, .slice a n c] 29)).heap.size (w.alloc (.cells #[.int .i64 V, .slice a n c] 29)) w1 → w.heap.size + 1 ≤ w1.heap.size ∧ w1.cell? ⟨w.heap.size, 0, none⟩ = some (.int .i64 V) ∧ w1.cell? ⟨w.heap.size, 1, none⟩ = some (.slice a n c) ∧ Hid (Below w.heap.size w w1)) := hide (fun w1 hb1 => by
      refine ⟨by have := hb1.size; simpa using this, (hb1.cell (p := ⟨w.heap.size, 0, none⟩) (by simp)).trans (by simp), (hb1.cell (p := ⟨w.heap.size, 1, none⟩) (by simp)).trans (by simp), hide ((balloc (Below.refl w.heap.size w) _).trans (hb1.mono (by simp)))⟩)
    go_enter Tryd.func15, Tryd.ntmps15
    go_wp2_with (go_at_call 11; refine (validFuncS_any V a n c xs L B _ (hide (ha.out.keep ((balloc (Below.refl w.heap.size w) _).mono hB))) hx hs (by simp; omega)).mono ?_; rintro e w1 ⟨rfl, hb1⟩; rw [HV.out]; obtain ⟨hz, k0, k1, HB1⟩ := HF.out _ hb1; clear hb1)
    go_wp2_with (go_at_call 62; refine (raw_any V a n c xs L B _ (by omega) (hide (ha.out.keep (HB1.out.mono hB))) hx hn HLEN O1 O2 O3).mono ?_; rintro e w2 ⟨v2, rfl, hb2, hn2, ho2⟩)
    have HB2 : Hid (Below w.heap.size w w2) := hide (HB1.out.trans (hb2.mono (by omega)))
    have HN2 := hide hn2
    have HO2 : Hid (w2.ownsRow w.heap.size 5 1 v2 (encS ⟨V, xs⟩).length (bytesV (encS ⟨V, xs⟩))) := hide (by rw [HE.out]; exact own_base ho2 (by omega))
    clear hb2 hn2 ho2
    go_wp2
    go_ret
    exact ⟨_, rfl, HB2.out, HN2.out, HO2.out⟩
end Go.Proofs.YtdcdgopblbmgoaaDoor
