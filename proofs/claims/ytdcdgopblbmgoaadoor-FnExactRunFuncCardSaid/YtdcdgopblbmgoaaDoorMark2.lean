import Derived.Test.YtdcdgopblbmgoaaDoorIw
import Derived.Test.YtdcdgopblbmgoaaDoorW1
import Derived.Test.YtdcdgopblbmgoaaDoorPure2
namespace Go.Proofs.YtdcdgopblbmgoaaDoor
open Go.RowKit

/-- Of the blocks that were there those from L to below B may have turned. -/
structure Mod (L B : Nat) (w w' : World) : Prop where
  os : w'.os = w.os
  tape : w'.tape = w.tape
  output : w'.output = w.output
  size : w.heap.size ≤ w'.heap.size
  block : ∀ k, k < w.heap.size → ¬ (L ≤ k ∧ k < B) → w'.heap[k]? = w.heap[k]?
theorem Mod.of_iw {L B : Nat} {w w' : World} (h : IW L B w w') : Mod L B w w' := ⟨h.os, h.tape, h.output, by rw [h.size]; exact Nat.le_refl _, fun k _ hk => h.block k hk⟩
theorem Mod.of_below {L B : Nat} {w w' : World} (h : Below w.heap.size w w') : Mod L B w w' := ⟨h.os, h.tape, h.output, h.size, fun k hk _ => h.block k hk⟩
theorem Mod.trans {L B : Nat} {w w1 w2 : World} (h : Mod L B w w1) (k : Mod L B w1 w2) : Mod L B w w2 :=
  ⟨k.os.trans h.os, k.tape.trans h.tape, k.output.trans h.output, Nat.le_trans h.size k.size, fun i hi hj => (k.block i (Nat.lt_of_lt_of_le hi h.size) hj).trans (h.block i hi hj)⟩
theorem Mod.same {L B L' B' : Nat} {w w' : World} (h : Mod L B w w') (hB : B' ≤ w.heap.size) (hd : B' ≤ L ∨ B ≤ L') : Same L' B' w w' := fun k h1 h2 => h.block k (by omega) (by omega)
theorem Mod.below {L B : Nat} {w0 w w' : World} (h : Mod L B w w') (k : Below w0.heap.size w0 w) (hl : w0.heap.size ≤ L) : Below w0.heap.size w0 w' :=
  ⟨h.os.trans k.os, h.tape.trans k.tape, h.output.trans k.output, Nat.le_trans k.size h.size, fun i hi => (h.block i (Nat.lt_of_lt_of_le hi k.size) (by omega)).trans (k.block i hi)⟩

/-- How many numbers a marking lays in a block of this shape. -/
def shCnt (s : List Nat × Nat) : Nat := phCnt s.1 + 5 * s.2 + 4
def shsCnt (ss : List (List Nat × Nat)) : Nat := (ss.map shCnt).sum
theorem shsCnt_snoc (ss : List (List Nat × Nat)) (s : List Nat × Nat) : shsCnt (ss ++ [s]) = shsCnt ss + shCnt s := by simp [shsCnt]
theorem shsCnt_take (ss : List (List Nat × Nat)) (k : Nat) : shsCnt (ss.take k) ≤ shsCnt ss := sum_take_le _ _ _

set_option maxHeartbeats 1000000 in
theorem markBlocks_any (a : Option Addr) (n c : Nat) (k : Int) (xs : List Blk) (L B : Nat) (w : World) (ha : Hid (BlksAt w L B a xs)) (hx : Hid (n = xs.length)) (ht : Hid (ThawB L B w)) (hl : Hid (BlkLen xs)) (hn : n ≤ 1048576) (h0 : 0 ≤ k) (h1 : k ≤ 10000000) (h2 : shsCnt (xs.map Blk.sh) ≤ 10000000) :
    Calls Tryd.prog 67 #[.slice a n c, .int .i64 k] w fun e w' => e = .returned (.int .i64 (k + shsCnt (xs.map Blk.sh))) ∧ IW L B w w' := by
  go_enter Tryd.func67, Tryd.ntmps67
  go_wp2
  go_loopw [1, 5] (fun u i wr => ∃ j : Nat, j ≤ n ∧ i = .int .i64 j ∧ u = .int .i64 (k + (shsCnt ((xs.take j).map Blk.sh) : Nat)) ∧ Hid (IW L B w wr)) (fun _ i _ => n - (intOf i).toNat)
  case atStart => exact ⟨0, Nat.zero_le _, rfl, by simp [shsCnt], IW.refl _ _ _⟩
  case round =>
    obtain ⟨j, hj, rfl, rfl, hw⟩ := hrel
    by_cases hlt : j < n
    · have hjx : j < xs.length := by have := hx.out; omega
      obtain ⟨b, o, rfl, hbB, hc⟩ := ha.out j hjx
      have hS : Hid (shsCnt ((xs.take (j + 1)).map Blk.sh) = shsCnt ((xs.take j).map Blk.sh) + shCnt xs[j].sh) := by show _ = _; rw [take_next _ _ hjx, List.map_append, List.map_cons, List.map_nil, shsCnt_snoc]
      have hb2 : shsCnt ((xs.take j).map Blk.sh) + shCnt xs[j].sh ≤ 10000000 := by
        have h3 := hS.out
        have h4 := shsCnt_take (xs.map Blk.sh) (j + 1)
        rw [← List.map_take] at h4
        omega
      obtain ⟨hl1, hl2, hl3⟩ := hl.out _ (List.getElem_mem hjx)
      obtain ⟨Y, hsh, pa, pc, ia, ic, e0, e1, _, hp, _⟩ := hc.iw hw.out
      have hsh1 : Y.phis.map (fun p => p.args.length) = xs[j].phis.map (fun p => p.args.length) := congrArg Prod.fst hsh
      have hsh2 : Y.instrs.length = xs[j].instrs.length := congrArg Prod.snd hsh
      have hYp : Y.phis.length = xs[j].phis.length := by have := congrArg List.length hsh1; simpa using this
      have hYl : ∀ p ∈ Y.phis, p.args.length ≤ 1048576 := fun p hp' => by
        have h5 : p.args.length ∈ Y.phis.map (fun p => p.args.length) := List.mem_map.2 ⟨p, hp', rfl⟩
        rw [hsh1] at h5
        obtain ⟨q, hq, e⟩ := List.mem_map.1 h5
        rw [← e]; exact hl3 q hq
      have HC := hide hc
      have HYL := hide hYl
      have hpc : phCnt (Y.phis.map (fun p => p.args.length)) + 5 * Y.instrs.length + 4 = shCnt xs[j].sh := by rw [hsh1, hsh2]; rfl
      rw [hYp, ← hYp] at e0
      have ft := hide (hw.out.thawB ht.out)
      have HP := hide hp
      have HPC := hide hpc
      have hpb : phCnt (Y.phis.map (fun p => p.args.length)) + 5 * Y.instrs.length + 4 ≤ 10000000 := by omega
      have hYi : Y.instrs.length ≤ 1048576 := by omega
      have hYn : Y.phis.length ≤ 1048576 := by omega
      have e0' : wr.cell? ⟨b, o + j * 6, none⟩ = some (.slice pa Y.phis.length pc) := e0
      have e1' : wr.cell? ⟨b, o + j * 6 + 1, none⟩ = some (.slice ia Y.instrs.length ic) := e1
      have HS2 := hide hsh2
      clear hc hp e0 e1 hsh hsh1 hsh2 hpc hYl hl1 hl2 hl3 hYp
      generalize hQ : shsCnt ((xs.take j).map Blk.sh) = Q at *
      have HQ := hide hQ
      clear hQ
      go_wp2_with fail
      refine (markPhis_any _ _ _ _ Y.phis L B _ HP rfl ft HYL (by omega) (by omega) (by omega) (by omega)).mono ?_
      rintro e w2 ⟨rfl, hiw2⟩
      have c2 := hiw2.slice e1'
      obtain ⟨Y2, hsh', pa2, pc2, ia2, ic2, _, g1, _, _, hi2⟩ := HC.out.iw (hw.out.trans hiw2)
      have hsame : ia2 = ia ∧ Y2.instrs.length = Y.instrs.length := by
        have := Option.some.inj (g1.symm.trans c2)
        injection this with q1 q2 _
        exact ⟨q1, q2⟩
      obtain ⟨rfl, hlen2⟩ := hsame
      have HI2 := hide hi2
      have ft2 := hide (hiw2.thawB ft.out)
      have HL2 := hide hlen2
      have HIW2 := hide hiw2
      clear g1 hi2 hsh' hiw2 e0' e1' hlen2
      generalize phCnt (Y.phis.map (fun p => p.args.length)) = S at *
      go_wp2_with fail
      refine (markInstrs_any _ _ _ _ Y2.instrs L B _ HI2 HL2.out.symm ft2 (by omega) (by omega) (by omega)).mono ?_
      rintro e w3 ⟨rfl, hiw3⟩
      obtain ⟨Y3, _, _, _, _, _, _, _, ⟨t0, t1, t2, t3⟩, _, _⟩ := HC.out.iw (hw.out.trans (HIW2.out.trans hiw3))
      have ft3 := hiw3.thawB ft2.out
      have f0 := ft3 b (o + j * 6 + 2) hbB
      have f1 := ft3 b (o + j * 6 + 2 + 1) hbB
      have f2 := ft3 b (o + j * 6 + 2 + 2) hbB
      have f3 := ft3 b (o + j * 6 + 2 + 3) hbB
      have HIW3 := hide hiw3
      clear hiw3 ft3 c2
      go_wp2
      exact ⟨⟨j + 1, by omega, by go_num, by rw [hS.out, ← HPC.out]; go_num, (hw.out.trans (HIW2.out.trans HIW3.out)).set4 hbB t0 t1 t2 t3 _ _ _ _⟩, by simp [intOf]; omega⟩
    · have hjn : j = n := by omega
      subst hjn
      have E := hide (List.take_of_length_le (l := xs) (i := j) (by have := hx.out; omega))
      go_wp2
      go_ret
      exact ⟨ret_int (by rw [E.out]), hw.out⟩

set_option maxHeartbeats 400000 in
theorem markFunc_any (v : Int) (a : Option Addr) (n c : Nat) (k : Int) (xs : List Blk) (L B : Nat) (w : World) (ha : Hid (BlksAt w L B a xs)) (hx : Hid (n = xs.length)) (ht : Hid (ThawB L B w)) (hl : Hid (BlkLen xs)) (hB : B ≤ w.heap.size) (hn : n ≤ 1048576) (h0 : 0 ≤ k) (h1 : k ≤ 10000000) (h2 : shsCnt (xs.map Blk.sh) ≤ 10000000) :
    Calls Tryd.prog 18 #[.agg #[.int .i64 v, .slice a n c], .int .i64 k] w fun e w' => e = .returned (.int .i64 (k + shsCnt (xs.map Blk.sh))) ∧ Mod L B w w' := by
  go_enter Tryd.func18, Tryd.ntmps18
  go_wp2_with fail
  refine (markBlocks_any _ _ _ _ xs L B _ ?q1 hx ?q2 hl hn h0 h1 h2).mono ?_
  case q1 => exact ha.out.keep ((balloc (Below.refl _ _) _).mono hB)
  case q2 => exact ht.out.keepS (Same.of_below ((balloc (Below.refl _ _) _).mono hB))
  rintro e w1 ⟨rfl, hiw⟩
  go_wp2
  go_ret
  exact ⟨rfl, (Mod.of_below (balloc (Below.refl _ _) _)).trans (Mod.of_iw hiw)⟩
end Go.Proofs.YtdcdgopblbmgoaaDoor

/-
  A run, over pure data; rows of numbers that a run writes. Imports nothing of the program.
-/
namespace Go.Proofs.YtdcdgopblbmgoaaDoor
open Go.RowKit

def setN (xs : List Int) (i : Int) (v : Int) : List Int := xs.set i.toNat v
def getN (xs : List Int) (i : Int) : Int := xs.getD i.toNat 0
theorem setN_len (xs : List Int) (i v : Int) : (setN xs i v).length = xs.length := by simp [setN]
theorem getN_of (xs : List Int) (k : Nat) (h : k < xs.length) : getN xs (k : Int) = xs[k] := by simp [getN, h]

/-- Block b is a row of cells, none frozen, and it begins with these numbers. -/
def IntsW (w : World) (b : Nat) (xs : List Int) : Prop := (∃ C t, w.heap[b]? = some (.cells C t (0, 0))) ∧ ∀ i (h : i < xs.length), w.cell? ⟨b, i, none⟩ = some (.int .i64 xs[i])

variable {w w' : World} {b : Nat} {xs : List Int}
theorem IntsW.lt (h : IntsW w b xs) : b < w.heap.size := by
  obtain ⟨⟨C, t, e⟩, _⟩ := h
  exact (Array.getElem?_eq_some_iff.1 e).1
theorem IntsW.frozen (h : IntsW w b xs) (i : Nat) : w.frozen? ⟨b, i, none⟩ = false := by
  obtain ⟨⟨C, t, e⟩, _⟩ := h
  unfold World.frozen?
  rw [e]
  simp
theorem IntsW.keep (h : IntsW w b xs) (k : w'.heap[b]? = w.heap[b]?) : IntsW w' b xs := by
  obtain ⟨⟨C, t, e⟩, h2⟩ := h
  exact ⟨⟨C, t, k.trans e⟩, fun i hi => (cell_of k).trans (h2 i hi)⟩
theorem IntsW.set (h : IntsW w b xs) {i : Nat} (hi : i < xs.length) (v : Int) : IntsW (w.setCell ⟨b, i, none⟩ (.int .i64 v)) b (xs.set i v) := by
  obtain ⟨⟨C, t, e⟩, h2⟩ := h
  refine ⟨⟨C.setIfInBounds i (.int .i64 v), t, ?_⟩, fun j hj => ?_⟩
  · simp only [World.setCell, Array.getElem?_modify, e]
    simp
  · have hj' : j < xs.length := by simpa using hj
    by_cases ej : j = i
    · subst ej
      rw [World.cell?_setCell_same _ _ _ (h2 j hj')]
      simp
    · rw [World.cell?_setCell_other _ _ _ _ (by intro q; injection q with _ q2; omega)]
      rw [h2 j hj', List.getElem_set_ne (by omega)]
theorem IntsW.at (h : IntsW w b xs) {L B : Nat} (hb : L ≤ b ∧ b < B) : IntsAt w L B (some ⟨b, 0, none⟩) xs := fun i hi => ⟨b, 0, rfl, hb, by rw [Nat.zero_add]; exact h.2 i hi⟩
theorem IntsW.of_row {t n : Nat} {f : Nat → Value} (h : w.rowIs b t n f) (hl : xs.length ≤ n) (hf : ∀ i (hi : i < xs.length), f i = .int .i64 xs[i]) : IntsW w b xs := by
  refine ⟨?_, fun i hi => by rw [h.cell (by omega), hf i hi]⟩
  obtain ⟨C, e, _⟩ := h
  exact ⟨C, t, e⟩
theorem IntsW.of_owned {base e : Nat} {v : Value} {n : Nat} (h : w.ownsRow base e 1 v n (xs.map (Value.int .i64))) (hv : v ≠ .slice none 0 0) : ∃ g c, v = .slice (some ⟨g, 0, none⟩) xs.length c ∧ base ≤ g ∧ IntsW w g xs := by
  obtain ⟨hl, h | ⟨g, cap, cur, rfl, hg, hh, hc, _, hs, ht⟩⟩ := h
  · exact absurd h.1 hv
  · simp only [Nat.mul_one, List.length_map] at hl hs ht
    subst hl
    refine ⟨g, cap, rfl, hg, ⟨cur, e, hh⟩, fun i hi => ?_⟩
    have h1 : (cur.toList.take xs.length)[i]? = some (Value.int .i64 xs[i]) := by rw [ht]; simp [hi]
    rw [List.getElem?_take_of_lt hi] at h1
    simp only [World.cell?, hh]
    simpa using h1

/-- The instructions of two operands. -/
def arithR (op a b : Int) : Int := if op = 3 then wrap64 (a + b) else if op = 4 then wrap64 (a - b) else if op = 5 then wrap64 (a * b) else if op = 6 then wrap64 (a.tdiv b) else if a < b then 1 else 0
/-- Argument number i, 0 where there is none. -/
def argR (xs : List Int) (i : Int) : Int := xs.getD i.toNat 0

def runOk (na nh : Nat) (fuel : Int) : Bool := decide (na ≤ 8) && decide (nh ≤ 32) && decide (0 ≤ fuel) && decide (fuel ≤ 60000)
theorem runOk_yes {na nh : Nat} {fuel : Int} (h1 : na ≤ 8) (h2 : nh ≤ 32) (h3 : 0 ≤ fuel) (h4 : fuel ≤ 60000) : runOk na nh fuel = true := by simp [runOk, h1, h2, h3, h4]
theorem runOk_no {na nh : Nat} {fuel : Int} (h : 8 < na ∨ 32 < nh ∨ fuel < 0 ∨ 60000 < fuel) : runOk na nh fuel = false := by
  rw [Bool.eq_false_iff]
  intro e
  simp only [runOk, Bool.and_eq_true, decide_eq_true_eq] at e
  omega

/-- All cells of the heap at the start. -/
def heapR (hs : List Int) : List Int := (List.range 32).map fun i => hs.getD i 0
def heapTo (hs : List Int) (k : Nat) : List Int := (List.range k).map fun i => hs.getD i 0
theorem heapTo_snoc (hs : List Int) (k : Nat) : heapTo hs (k + 1) = heapTo hs k ++ [hs.getD k 0] := by simp [heapTo, List.range_succ]
theorem heapTo_len (hs : List Int) (k : Nat) : (heapTo hs k).length = k := by simp [heapTo]
end Go.Proofs.YtdcdgopblbmgoaaDoor
