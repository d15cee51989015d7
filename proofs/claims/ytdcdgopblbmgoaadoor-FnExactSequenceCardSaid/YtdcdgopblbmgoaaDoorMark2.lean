import Derived.Test.YtdcdgopblbmgoaaDoorMark
import Derived.Test.YtdcdgopblbmgoaaDoorW2
namespace Go.Proofs.YtdcdgopblbmgoaaDoor
open Go.RowKit

/-- Of the blocks that were there those from L to below B may have turned. -/
structure Mod (L B : Nat) (w w' : World) : Prop where
  os : w'.os = w.os
  tape : w'.tape = w.tape
  output : w'.output = w.output
  size : w.heap.size ≤ w'.heap.size
  block : ∀ k, k < w.heap.size → ¬ (L ≤ k ∧ k < B) → w'.heap[k]? = w.heap[k]?
theorem Mod.of_iw {L B : Nat} {w w' : World} (h : IW L B w w') : Mod L B w w' := ⟨h.os, h.tape, h.output, by rw [h.size]; exact Nat.le_refl _, fun k _ hk => h.block k hk⟩
theorem Mod.of_below {L B : Nat} {w w' : World} (h : Below w.heap.size w w') : Mod L B w w' := ⟨h.os, h.tape, h.output, h.size, fun k hk _ => h.block k hk⟩
theorem Mod.trans {L B : Nat} {w w1 w2 : World} (h : Mod L B w w1) (k : Mod L B w1 w2) : Mod L B w w2 :=
  ⟨k.os.trans h.os, k.tape.trans h.tape, k.output.trans h.output, Nat.le_trans h.size k.size, fun i hi hj => (k.block i (Nat.lt_of_lt_of_le hi h.size) hj).trans (h.block i hi hj)⟩
theorem Mod.same {L B L' B' : Nat} {w w' : World} (h : Mod L B w w') (hB : B' ≤ w.heap.size) (hd : B' ≤ L ∨ B ≤ L') : Same L' B' w w' := fun k h1 h2 => h.block k (by omega) (by omega)
theorem Mod.below {L B : Nat} {w0 w w' : World} (h : Mod L B w w') (k : Below w0.heap.size w0 w) (hl : w0.heap.size ≤ L) : Below w0.heap.size w0 w' :=
  ⟨h.os.trans k.os, h.tape.trans k.tape, h.output.trans k.output, Nat.le_trans k.size h.size, fun i hi => (h.block i (Nat.lt_of_lt_of_le hi k.size) (by omega)).trans (k.block i hi)⟩

/-- How many numbers a marking lays in a block of this shape. -/
def shCnt (s : List Nat × Nat) : Nat := phCnt s.1 + 5 * s.2 + 4
def shsCnt (ss : List (List Nat × Nat)) : Nat := (ss.map shCnt).sum
theorem shsCnt_snoc (ss : List (List Nat × Nat)) (s : List Nat × Nat) : shsCnt (ss ++ [s]) = shsCnt ss + shCnt s := by simp [shsCnt]
theorem shsCnt_take (ss : List (List Nat × Nat)) (k : Nat) : shsCnt (ss.take k) ≤ shsCnt ss := sum_take_le _ _ _

set_option maxHeartbeats 1000000 in
theorem markBlocks_any (a : Option Addr) (n c : Nat) (k : Int) (xs : List Blk) (L B : Nat) (w : World) (ha : Hid (BlksAt w L B a xs)) (hx : Hid (n = xs.length)) (ht : Hid (ThawB L B w)) (hl : Hid (BlkLen xs)) (hn : n ≤ 1048576) (h0 : 0 ≤ k) (h1 : k ≤ 10000000) (h2 : shsCnt (xs.map Blk.sh) ≤ 10000000) :
    Calls Tryd.prog 67 #[.slice a n c, .int .i64 k] w fun e w' => e = .returned (.int .i64 (k + shsCnt (xs.map Blk.sh))) ∧ IW L B w w' := by
  go_enter Tryd.func67, Tryd.ntmps67
  go_wp2
  go_loopw [1, 5] (fun u i wr => ∃ j : Nat, j ≤ n ∧ i = .int .i64 j ∧ u = .int .i64 (k + (shsCnt ((xs.take j).map Blk.sh) : Nat)) ∧ Hid (IW L B w wr)) (fun _ i _ => n - (intOf i).toNat)
  case atStart => exact ⟨0, Nat.zero_le _, rfl, by simp [shsCnt], IW.refl _ _ _⟩
  case round =>
    obtain ⟨j, hj, rfl, rfl, hw⟩ := hrel
    by_cases hlt : j < n
    · have hjx : j < xs.length := by have := hx.out; omega
      obtain ⟨b, o, rfl, hbB, hc⟩ := ha.out j hjx
      have hS : Hid (shsCnt ((xs.take (j + 1)).map Blk.sh) = shsCnt ((xs.take j).map Blk.sh) + shCnt xs[j].sh) := by show _ = _; rw [take_next _ _ hjx, List.map_append, List.map_cons, List.map_nil, shsCnt_snoc]
      have hb2 : shsCnt ((xs.take j).map Blk.sh) + shCnt xs[j].sh ≤ 10000000 := by
        have h3 := hS.out
        have h4 := shsCnt_take (xs.map Blk.sh) (j + 1)
        rw [← List.map_take] at h4
        omega
      obtain ⟨hl1, hl2, hl3⟩ := hl.out _ (List.getElem_mem hjx)
      obtain ⟨Y, hsh, pa, pc, ia, ic, e0, e1, _, hp, _⟩ := hc.iw hw.out
      have hsh1 : Y.phis.map (fun p => p.args.length) = xs[j].phis.map (fun p => p.args.length) := congrArg Prod.fst hsh
      have hsh2 : Y.instrs.length = xs[j].instrs.length := congrArg Prod.snd hsh
      have hYp : Y.phis.length = xs[j].phis.length := by have := congrArg List.length hsh1; simpa using this
      have hYl : ∀ p ∈ Y.phis, p.args.length ≤ 1048576 := fun p hp' => by
        have h5 : p.args.length ∈ Y.phis.map (fun p => p.args.length) := List.mem_map.2 ⟨p, hp', rfl⟩
        rw [hsh1] at h5
        obtain ⟨q, hq, e⟩ := List.mem_map.1 h5
        rw [← e]; exact hl3 q hq
      have HC := hide hc
      have HYL := hide hYl
      have hpc : phCnt (Y.phis.map (fun p => p.args.length)) + 5 * Y.instrs.length + 4 = shCnt xs[j].sh := by rw [hsh1, hsh2]; rfl
      rw [hYp, ← hYp] at e0
      have ft := hide (hw.out.thawB ht.out)
      have HP := hide hp
      have HPC := hide hpc
      have hpb : phCnt (Y.phis.map (fun p => p.args.length)) + 5 * Y.instrs.length + 4 ≤ 10000000 := by omega
      have hYi : Y.instrs.length ≤ 1048576 := by omega
      have hYn : Y.phis.length ≤ 1048576 := by omega
      have e0' : wr.cell? ⟨b, o + j * 6, none⟩ = some (.slice pa Y.phis.length pc) := e0
      have e1' : wr.cell? ⟨b, o + j * 6 + 1, none⟩ = some (.slice ia Y.instrs.length ic) := e1
      have HS2 := hide hsh2
      clear hc hp e0 e1 hsh hsh1 hsh2 hpc hYl hl1 hl2 hl3 hYp
      generalize hQ : shsCnt ((xs.take j).map Blk.sh) = Q at *
      have HQ := hide hQ
      clear hQ
      go_wp2_with fail
      refine (markPhis_any _ _ _ _ Y.phis L B _ HP rfl ft HYL (by omega) (by omega) (by omega) (by omega)).mono ?_
      rintro e w2 ⟨rfl, hiw2⟩
      have c2 := hiw2.slice e1'
      obtain ⟨Y2, hsh', pa2, pc2, ia2, ic2, _, g1, _, _, hi2⟩ := HC.out.iw (hw.out.trans hiw2)
      have hsame : ia2 = ia ∧ Y2.instrs.length = Y.instrs.length := by
        have := Option.some.inj (g1.symm.trans c2)
        injection this with q1 q2 _
        exact ⟨q1, q2⟩
      obtain ⟨rfl, hlen2⟩ := hsame
      have HI2 := hide hi2
      have ft2 := hide (hiw2.thawB ft.out)
      have HL2 := hide hlen2
      have HIW2 := hide hiw2
      clear g1 hi2 hsh' hiw2 e0' e1' hlen2
      generalize phCnt (Y.phis.map (fun p => p.args.length)) = S at *
      go_wp2_with fail
      refine (markInstrs_any _ _ _ _ Y2.instrs L B _ HI2 HL2.out.symm ft2 (by omega) (by omega) (by omega)).mono ?_
      rintro e w3 ⟨rfl, hiw3⟩
      obtain ⟨Y3, _, _, _, _, _, _, _, ⟨t0, t1, t2, t3⟩, _, _⟩ := HC.out.iw (hw.out.trans (HIW2.out.trans hiw3))
      have ft3 := hiw3.thawB ft2.out
      have f0 := ft3 b (o + j * 6 + 2) hbB
      have f1 := ft3 b (o + j * 6 + 2 + 1) hbB
      have f2 := ft3 b (o + j * 6 + 2 + 2) hbB
      have f3 := ft3 b (o + j * 6 + 2 + 3) hbB
      have HIW3 := hide hiw3
      clear hiw3 ft3 c2
      go_wp2
      exact ⟨⟨j + 1, by omega, by go_num, by rw [hS.out, ← HPC.out]; go_num, (hw.out.trans (HIW2.out.trans HIW3.out)).set4 hbB t0 t1 t2 t3 _ _ _ _⟩, by simp [intOf]; omega⟩
    · have hjn : j = n := by omega
      subst hjn
      have E := hide (List.take_of_length_le (l := xs) (i := j) (by have := hx.out; omega))
      go_wp2
      go_ret
      exact ⟨ret_int (by rw [E.out]), hw.out⟩

set_option maxHeartbeats 400000 in
theorem markFunc_any (v : Int) (a : Option Addr) (n c : Nat) (k : Int) (xs : List Blk) (L B : Nat) (w : World) (ha : Hid (BlksAt w L B a xs)) (hx : Hid (n = xs.length)) (ht : Hid (ThawB L B w)) (hl : Hid (BlkLen xs)) (hB : B ≤ w.heap.size) (hn : n ≤ 1048576) (h0 : 0 ≤ k) (h1 : k ≤ 10000000) (h2 : shsCnt (xs.map Blk.sh) ≤ 10000000) :
    Calls Tryd.prog 18 #[.agg #[.int .i64 v, .slice a n c], .int .i64 k] w fun e w' => e = .returned (.int .i64 (k + shsCnt (xs.map Blk.sh))) ∧ Mod L B w w' := by
  go_enter Tryd.func18, Tryd.ntmps18
  go_wp2_with fail
  refine (markBlocks_any _ _ _ _ xs L B _ ?q1 hx ?q2 hl hn h0 h1 h2).mono ?_
  case q1 => exact ha.out.keep ((balloc (Below.refl _ _) _).mono hB)
  case q2 => exact ht.out.keepS (Same.of_below ((balloc (Below.refl _ _) _).mono hB))
  rintro e w1 ⟨rfl, hiw⟩
  go_wp2
  go_ret
  exact ⟨rfl, (Mod.of_below (balloc (Below.refl _ _) _)).trans (Mod.of_iw hiw)⟩
end Go.Proofs.YtdcdgopblbmgoaaDoor
