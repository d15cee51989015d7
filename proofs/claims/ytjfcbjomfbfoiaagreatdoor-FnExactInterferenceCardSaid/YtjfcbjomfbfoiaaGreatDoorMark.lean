import Derived.Test.YtjfcbjomfbfoiaaGreatDoorMem
import Derived.Test.YtjfcbjomfbfoiaaGreatDoorIw
import Derived.Test.YtjfcbjomfbfoiaaGreatDoorW2
namespace Go.Proofs.YtjfcbjomfbfoiaaGreatDoor
open Go.RowKit
theorem oth (w : World) (b : Nat) {o o' : Nat} (h : o ≠ o') (v : Value) : (w.setCell ⟨b, o, none⟩ v).cell? ⟨b, o', none⟩ = w.cell? ⟨b, o', none⟩ := World.cell?_setCell_other _ _ _ _ (by intro e; injection e with _ e2; exact h e2)
/-- Four and five numbers in a row turned. -/
theorem IW.set4 {L B : Nat} {w wr : World} (h : IW L B w wr) {b o : Nat} (hb : L ≤ b ∧ b < B) {u0 u1 u2 u3 : Int} (e0 : wr.cell? ⟨b, o, none⟩ = some (.int .i64 u0)) (e1 : wr.cell? ⟨b, o + 1, none⟩ = some (.int .i64 u1)) (e2 : wr.cell? ⟨b, o + 2, none⟩ = some (.int .i64 u2)) (e3 : wr.cell? ⟨b, o + 3, none⟩ = some (.int .i64 u3)) (v0 v1 v2 v3 : Int) :
    IW L B w ((((wr.setCell ⟨b, o, none⟩ (.int .i64 v0)).setCell ⟨b, o + 1, none⟩ (.int .i64 v1)).setCell ⟨b, o + 2, none⟩ (.int .i64 v2)).setCell ⟨b, o + 3, none⟩ (.int .i64 v3)) := by
  refine IW.set (IW.set (IW.set (IW.set h hb e0 v0) hb (u := u1) ?_ v1) hb (u := u2) ?_ v2) hb (u := u3) ?_ v3
  · rw [oth _ _ (by omega)]; exact e1
  · rw [oth _ _ (by omega), oth _ _ (by omega)]; exact e2
  · rw [oth _ _ (by omega), oth _ _ (by omega), oth _ _ (by omega)]; exact e3
theorem IW.set5 {L B : Nat} {w wr : World} (h : IW L B w wr) {b o : Nat} (hb : L ≤ b ∧ b < B) {u0 u1 u2 u3 u4 : Int} (e0 : wr.cell? ⟨b, o, none⟩ = some (.int .i64 u0)) (e1 : wr.cell? ⟨b, o + 1, none⟩ = some (.int .i64 u1)) (e2 : wr.cell? ⟨b, o + 2, none⟩ = some (.int .i64 u2)) (e3 : wr.cell? ⟨b, o + 3, none⟩ = some (.int .i64 u3)) (e4 : wr.cell? ⟨b, o + 4, none⟩ = some (.int .i64 u4)) (v0 v1 v2 v3 v4 : Int) :
    IW L B w (((((wr.setCell ⟨b, o, none⟩ (.int .i64 v0)).setCell ⟨b, o + 1, none⟩ (.int .i64 v1)).setCell ⟨b, o + 2, none⟩ (.int .i64 v2)).setCell ⟨b, o + 3, none⟩ (.int .i64 v3)).setCell ⟨b, o + 4, none⟩ (.int .i64 v4)) := by
  refine IW.set (h.set4 hb e0 e1 e2 e3 v0 v1 v2 v3) hb (u := u4) ?_ v4
  rw [oth _ _ (by omega), oth _ _ (by omega), oth _ _ (by omega), oth _ _ (by omega)]; exact e4
/-- The numbers that a marking from k on lays. -/
def marks (k : Int) (n : Nat) : List Int := (List.range n).map fun i => k + (i : Nat)
theorem marks_len (k : Int) (n : Nat) : (marks k n).length = n := by simp [marks]
theorem marks_get (k : Int) (n i : Nat) (h : i < (marks k n).length) : (marks k n)[i] = k + (i : Nat) := by simp [marks]
set_option maxHeartbeats 400000 in
theorem markInts_any (a : Option Addr) (n c : Nat) (k : Int) (xs : List Int) (L B : Nat) (w : World) (ha : Hid (IntsAt w L B a xs)) (hx : Hid (n = xs.length)) (ht : Hid (ThawB L B w)) (hn : n ≤ 1048576) (h0 : 0 ≤ k) (h1 : k ≤ 1000000000) :
    Calls Tryz.prog 40 #[.slice a n c, .int .i64 k] w fun e w' => e = .returned (.int .i64 (k + n)) ∧ IW L B w w' ∧ IntsAt w' L B a (marks k n) := by
  go_enter Tryz.func40, Tryz.ntmps40
  go_wp2
  go_loopw [1, 5] (fun u i wr => ∃ j : Nat, j ≤ n ∧ i = .int .i64 j ∧ u = .int .i64 (k + j) ∧ Hid (IW L B w wr) ∧ Hid (∀ q, q < j → ∃ b o, a = some ⟨b, o, none⟩ ∧ (L ≤ b ∧ b < B) ∧ wr.cell? ⟨b, o + q, none⟩ = some (.int .i64 (k + (q : Nat))))) (fun _ i _ => n - (intOf i).toNat)
  case atStart => exact ⟨0, Nat.zero_le _, rfl, by simp, IW.refl _ _ _, fun q hq => absurd hq (by omega)⟩
  case round =>
    obtain ⟨j, hj, rfl, rfl, hw, hq⟩ := hrel
    by_cases hlt : j < n
    · have hjx : j < xs.length := by have := hx.out; omega
      obtain ⟨b, o, rfl, hbB, hc⟩ := ha.out j hjx
      obtain ⟨u, e1⟩ := hw.out.int hc
      have e2 := hw.out.thawB ht.out b (o + j) hbB
      clear hc
      go_wp2
      refine ⟨⟨j + 1, by omega, by go_num, by go_num, hw.out.set hbB e1 _, fun q hqj => ?_⟩, by simp [intOf]; omega⟩
      by_cases e : q = j
      · subst e
        exact ⟨b, o, rfl, hbB, World.cell?_setCell_same _ _ _ e1⟩
      · obtain ⟨b', o', e', hb', hc'⟩ := hq.out q (by omega)
        cases e'
        exact ⟨b, o, rfl, hbB, by rw [World.cell?_setCell_other _ _ _ _ (by intro h; injection h with _ h2; omega)]; exact hc'⟩
    · have hjn : j = n := by omega
      subst hjn
      go_wp2
      go_ret
      refine ⟨rfl, hw.out, fun i hi => ?_⟩
      rw [marks_get]
      rw [marks_len] at hi
      exact hq.out i hi
set_option maxHeartbeats 400000 in
theorem heldInts_any (a : Option Addr) (n c : Nat) (k : Int) (L B : Nat) (w : World) (ha : Hid (IntsAt w L B a (marks k n))) (hn : n ≤ 1048576) (h0 : 0 ≤ k) (h1 : k ≤ 1000000000) :
    Calls Tryz.prog 41 #[.slice a n c, .int .i64 k] w fun e w' => e = .returned (.int .i64 (k + n)) ∧ w' = w := by
  go_enter Tryz.func41, Tryz.ntmps41
  go_wp2
  go_loop [1, 5] (fun u i => ∃ j : Nat, j ≤ n ∧ i = .int .i64 j ∧ u = .int .i64 (k + j)) (fun _ i => n - (intOf i).toNat)
  case atStart => exact ⟨0, Nat.zero_le _, rfl, by simp⟩
  case round =>
    obtain ⟨j, hj, rfl, rfl⟩ := hrel
    by_cases hlt : j < n
    · obtain ⟨b, o, rfl, hbB, hc⟩ := ha.out j (by rw [marks_len]; exact hlt)
      rw [marks_get] at hc
      go_wp2
      go_round
      case rel => exact ⟨j + 1, by omega, by go_num, by go_num⟩
      case measure => simp [intOf]; omega
    · have hjn : j = n := by omega
      subst hjn
      go_wp2
      go_ret
      exact ⟨rfl, rfl⟩
set_option maxHeartbeats 1000000 in
theorem markInstrs_any (a : Option Addr) (n c : Nat) (k : Int) (xs : List Ins) (L B : Nat) (w : World) (ha : Hid (InssAt w L B a xs)) (hx : Hid (n = xs.length)) (ht : Hid (ThawB L B w)) (hn : n ≤ 1048576) (h0 : 0 ≤ k) (h1 : k ≤ 1000000000) :
    Calls Tryz.prog 79 #[.slice a n c, .int .i64 k] w fun e w' => e = .returned (.int .i64 (k + 5 * n)) ∧ IW L B w w' := by
  go_enter Tryz.func79, Tryz.ntmps79
  go_wp2
  go_loopw [1, 5] (fun u i wr => ∃ j : Nat, j ≤ n ∧ i = .int .i64 j ∧ u = .int .i64 (k + 5 * j) ∧ Hid (IW L B w wr)) (fun _ i _ => n - (intOf i).toNat)
  case atStart => exact ⟨0, Nat.zero_le _, rfl, by simp, IW.refl _ _ _⟩
  case round =>
    obtain ⟨j, hj, rfl, rfl, hw⟩ := hrel
    by_cases hlt : j < n
    · have hjx : j < xs.length := by have := hx.out; omega
      obtain ⟨b, o, rfl, hbB, hc⟩ := ha.out j hjx
      obtain ⟨⟨u0, u1, u2, u3, u4⟩, e0, e1, e2, e3, e4⟩ := hc.iw hw.out
      dsimp only at e0 e1 e2 e3 e4
      have ft := hw.out.thawB ht.out
      have f0 := ft b (o + j * 5) hbB
      have f1 := ft b (o + j * 5 + 1) hbB
      have f2 := ft b (o + j * 5 + 2) hbB
      have f3 := ft b (o + j * 5 + 3) hbB
      have f4 := ft b (o + j * 5 + 4) hbB
      clear hc ft
      go_wp2
      exact ⟨⟨j + 1, by omega, by go_num, by go_num, hw.out.set5 hbB e0 e1 e2 e3 e4 _ _ _ _ _⟩, by simp [intOf]; omega⟩
    · have hjn : j = n := by omega
      subst hjn
      go_wp2
      go_ret
      exact ⟨rfl, hw.out⟩
/-- How many numbers of phis a marking lays. -/
def phCnt (ls : List Nat) : Nat := (ls.map (· + 1)).sum
theorem phCnt_snoc (ls : List Nat) (l : Nat) : phCnt (ls ++ [l]) = phCnt ls + (l + 1) := by simp [phCnt]
theorem phCnt_take (ls : List Nat) (k : Nat) : phCnt (ls.take k) ≤ phCnt ls := sum_take_le _ _ _
set_option maxHeartbeats 1000000 in
theorem markPhis_any (a : Option Addr) (n c : Nat) (k : Int) (xs : List Ph) (L B : Nat) (w : World) (ha : Hid (PhsAt w L B a xs)) (hx : Hid (n = xs.length)) (ht : Hid (ThawB L B w)) (hl : Hid (∀ p ∈ xs, p.args.length ≤ 1048576)) (hn : n ≤ 1048576) (h0 : 0 ≤ k) (h1 : k ≤ 100000000) (h2 : phCnt (xs.map fun p => p.args.length) ≤ 100000000) :
    Calls Tryz.prog 78 #[.slice a n c, .int .i64 k] w fun e w' => e = .returned (.int .i64 (k + phCnt (xs.map fun p => p.args.length))) ∧ IW L B w w' := by
  go_enter Tryz.func78, Tryz.ntmps78
  go_wp2
  go_loopw [1, 5] (fun u i wr => ∃ j : Nat, j ≤ n ∧ i = .int .i64 j ∧ u = .int .i64 (k + (phCnt ((xs.take j).map fun p => p.args.length) : Nat)) ∧ Hid (IW L B w wr)) (fun _ i _ => n - (intOf i).toNat)
  case atStart => exact ⟨0, Nat.zero_le _, rfl, by simp [phCnt], IW.refl _ _ _⟩
  case round =>
    obtain ⟨j, hj, rfl, rfl, hw⟩ := hrel
    by_cases hlt : j < n
    · have hjx : j < xs.length := by have := hx.out; omega
      obtain ⟨b, o, rfl, hbB, hc⟩ := ha.out j hjx
      obtain ⟨⟨d, ys⟩, hyl, aa, cc, e0, e1, hi⟩ := hc.iw hw.out
      dsimp only at e0 e1 hi hyl
      rw [hyl] at e1
      have hal := hl.out _ (List.getElem_mem hjx)
      have ft := hw.out.thawB ht.out
      have f0 := ft b (o + j * 2) hbB
      have hS : Hid (phCnt ((xs.take (j + 1)).map fun p => p.args.length) = phCnt ((xs.take j).map fun p => p.args.length) + (xs[j].args.length + 1)) := by show _ = _; rw [take_next _ _ hjx, List.map_append, List.map_cons, List.map_nil, phCnt_snoc]
      have hb2 : phCnt ((xs.take j).map fun p => p.args.length) + (xs[j].args.length + 1) ≤ 100000000 := by
        have h3 := hS.out
        have h4 := phCnt_take (xs.map fun p => p.args.length) (j + 1)
        rw [← List.map_take] at h4
        omega
      have FT := hide ft
      have HI := hide hi
      have E1 := hide e1
      clear hc ft hi
      generalize phCnt ((xs.take j).map fun p => p.args.length) = S at *
      generalize xs[j].args.length = m at *
      go_wp2_with fail
      have hw2 := hw.out.set hbB e0 (k + S)
      have hi2 := HI.out.iw (L' := L) (B' := B) ((IW.refl L B wr).set hbB e0 (k + S))
      obtain ⟨zs, hzl, hz⟩ := hi2
      refine (markInts_any _ _ _ _ zs L B _ hz (by show _ = _; omega) ((FT.out).setCell _ _) (by omega) (by omega) (by omega)).mono ?_
      rintro e w2 ⟨rfl, hiw, _⟩
      go_wp2
      exact ⟨⟨j + 1, by omega, by go_num, by rw [hS.out]; go_num, hw2.trans hiw⟩, by simp [intOf]; omega⟩
    · have hjn : j = n := by omega
      subst hjn
      have E := hide (List.take_of_length_le (l := xs) (i := j) (by have := hx.out; omega))
      go_wp2
      go_ret
      exact ⟨ret_int (by rw [E.out]), hw.out⟩
end Go.Proofs.YtjfcbjomfbfoiaaGreatDoor

namespace Go.Proofs.YtjfcbjomfbfoiaaGreatDoor
open Go.RowKit
/-- Of the blocks that were there those from L to below B may have turned. -/
structure Mod (L B : Nat) (w w' : World) : Prop where
  os : w'.os = w.os
  tape : w'.tape = w.tape
  output : w'.output = w.output
  size : w.heap.size ≤ w'.heap.size
  block : ∀ k, k < w.heap.size → ¬ (L ≤ k ∧ k < B) → w'.heap[k]? = w.heap[k]?
theorem Mod.of_iw {L B : Nat} {w w' : World} (h : IW L B w w') : Mod L B w w' := ⟨h.os, h.tape, h.output, by rw [h.size]; exact Nat.le_refl _, fun k _ hk => h.block k hk⟩
theorem Mod.of_below {L B : Nat} {w w' : World} (h : Below w.heap.size w w') : Mod L B w w' := ⟨h.os, h.tape, h.output, h.size, fun k hk _ => h.block k hk⟩
theorem Mod.trans {L B : Nat} {w w1 w2 : World} (h : Mod L B w w1) (k : Mod L B w1 w2) : Mod L B w w2 :=
  ⟨k.os.trans h.os, k.tape.trans h.tape, k.output.trans h.output, Nat.le_trans h.size k.size, fun i hi hj => (k.block i (Nat.lt_of_lt_of_le hi h.size) hj).trans (h.block i hi hj)⟩
theorem Mod.same {L B L' B' : Nat} {w w' : World} (h : Mod L B w w') (hB : B' ≤ w.heap.size) (hd : B' ≤ L ∨ B ≤ L') : Same L' B' w w' := fun k h1 h2 => h.block k (by omega) (by omega)
theorem Mod.below {L B : Nat} {w0 w w' : World} (h : Mod L B w w') (k : Below w0.heap.size w0 w) (hl : w0.heap.size ≤ L) : Below w0.heap.size w0 w' :=
  ⟨h.os.trans k.os, h.tape.trans k.tape, h.output.trans k.output, Nat.le_trans k.size h.size, fun i hi => (h.block i (Nat.lt_of_lt_of_le hi k.size) (by omega)).trans (k.block i hi)⟩
/-- How many numbers a marking lays in a block of this shape. -/
def shCnt (s : List Nat × Nat) : Nat := phCnt s.1 + 5 * s.2 + 4
def shsCnt (ss : List (List Nat × Nat)) : Nat := (ss.map shCnt).sum
theorem shsCnt_snoc (ss : List (List Nat × Nat)) (s : List Nat × Nat) : shsCnt (ss ++ [s]) = shsCnt ss + shCnt s := by simp [shsCnt]
theorem shsCnt_take (ss : List (List Nat × Nat)) (k : Nat) : shsCnt (ss.take k) ≤ shsCnt ss := sum_take_le _ _ _
set_option maxHeartbeats 1000000 in
theorem markBlocks_any (a : Option Addr) (n c : Nat) (k : Int) (xs : List Blk) (L B : Nat) (w : World) (ha : Hid (BlksAt w L B a xs)) (hx : Hid (n = xs.length)) (ht : Hid (ThawB L B w)) (hl : Hid (BlkLen xs)) (hn : n ≤ 1048576) (h0 : 0 ≤ k) (h1 : k ≤ 10000000) (h2 : shsCnt (xs.map Blk.sh) ≤ 10000000) :
    Calls Tryz.prog 36 #[.slice a n c, .int .i64 k] w fun e w' => e = .returned (.int .i64 (k + shsCnt (xs.map Blk.sh))) ∧ IW L B w w' := by
  go_enter Tryz.func36, Tryz.ntmps36
  go_wp2
  go_loopw [1, 5] (fun u i wr => ∃ j : Nat, j ≤ n ∧ i = .int .i64 j ∧ u = .int .i64 (k + (shsCnt ((xs.take j).map Blk.sh) : Nat)) ∧ Hid (IW L B w wr)) (fun _ i _ => n - (intOf i).toNat)
  case atStart => exact ⟨0, Nat.zero_le _, rfl, by simp [shsCnt], IW.refl _ _ _⟩
  case round =>
    obtain ⟨j, hj, rfl, rfl, hw⟩ := hrel
    by_cases hlt : j < n
    · have hjx : j < xs.length := by have := hx.out; omega
      obtain ⟨b, o, rfl, hbB, hc⟩ := ha.out j hjx
      have hS : Hid (shsCnt ((xs.take (j + 1)).map Blk.sh) = shsCnt ((xs.take j).map Blk.sh) + shCnt xs[j].sh) := by show _ = _; rw [take_next _ _ hjx, List.map_append, List.map_cons, List.map_nil, shsCnt_snoc]
      have hb2 : shsCnt ((xs.take j).map Blk.sh) + shCnt xs[j].sh ≤ 10000000 := by
        have h3 := hS.out
        have h4 := shsCnt_take (xs.map Blk.sh) (j + 1)
        rw [← List.map_take] at h4
        omega
      obtain ⟨hl1, hl2, hl3⟩ := hl.out _ (List.getElem_mem hjx)
      obtain ⟨Y, hsh, pa, pc, ia, ic, e0, e1, _, hp, _⟩ := hc.iw hw.out
      have hsh1 : Y.phis.map (fun p => p.args.length) = xs[j].phis.map (fun p => p.args.length) := congrArg Prod.fst hsh
      have hsh2 : Y.instrs.length = xs[j].instrs.length := congrArg Prod.snd hsh
      have hYp : Y.phis.length = xs[j].phis.length := by have := congrArg List.length hsh1; simpa using this
      have hYl : ∀ p ∈ Y.phis, p.args.length ≤ 1048576 := fun p hp' => by
        have h5 : p.args.length ∈ Y.phis.map (fun p => p.args.length) := List.mem_map.2 ⟨p, hp', rfl⟩
        rw [hsh1] at h5
        obtain ⟨q, hq, e⟩ := List.mem_map.1 h5
        rw [← e]; exact hl3 q hq
      have HC := hide hc
      have HYL := hide hYl
      have hpc : phCnt (Y.phis.map (fun p => p.args.length)) + 5 * Y.instrs.length + 4 = shCnt xs[j].sh := by rw [hsh1, hsh2]; rfl
      rw [hYp, ← hYp] at e0
      have ft := hide (hw.out.thawB ht.out)
      have HP := hide hp
      have HPC := hide hpc
      have hpb : phCnt (Y.phis.map (fun p => p.args.length)) + 5 * Y.instrs.length + 4 ≤ 10000000 := by omega
      have hYi : Y.instrs.length ≤ 1048576 := by omega
      have hYn : Y.phis.length ≤ 1048576 := by omega
      have e0' : wr.cell? ⟨b, o + j * 6, none⟩ = some (.slice pa Y.phis.length pc) := e0
      have e1' : wr.cell? ⟨b, o + j * 6 + 1, none⟩ = some (.slice ia Y.instrs.length ic) := e1
      have HS2 := hide hsh2
      clear hc hp e0 e1 hsh hsh1 hsh2 hpc hYl hl1 hl2 hl3 hYp
      generalize hQ : shsCnt ((xs.take j).map Blk.sh) = Q at *
      have HQ := hide hQ
      clear hQ
      go_wp2_with fail
      refine (markPhis_any _ _ _ _ Y.phis L B _ HP rfl ft HYL (by omega) (by omega) (by omega) (by omega)).mono ?_
      rintro e w2 ⟨rfl, hiw2⟩
      have c2 := hiw2.slice e1'
      obtain ⟨Y2, hsh', pa2, pc2, ia2, ic2, _, g1, _, _, hi2⟩ := HC.out.iw (hw.out.trans hiw2)
      have hsame : ia2 = ia ∧ Y2.instrs.length = Y.instrs.length := by
        have := Option.some.inj (g1.symm.trans c2)
        injection this with q1 q2 _
        exact ⟨q1, q2⟩
      obtain ⟨rfl, hlen2⟩ := hsame
      have HI2 := hide hi2
      have ft2 := hide (hiw2.thawB ft.out)
      have HL2 := hide hlen2
      have HIW2 := hide hiw2
      clear g1 hi2 hsh' hiw2 e0' e1' hlen2
      generalize phCnt (Y.phis.map (fun p => p.args.length)) = S at *
      go_wp2_with fail
      refine (markInstrs_any _ _ _ _ Y2.instrs L B _ HI2 HL2.out.symm ft2 (by omega) (by omega) (by omega)).mono ?_
      rintro e w3 ⟨rfl, hiw3⟩
      obtain ⟨Y3, _, _, _, _, _, _, _, ⟨t0, t1, t2, t3⟩, _, _⟩ := HC.out.iw (hw.out.trans (HIW2.out.trans hiw3))
      have ft3 := hiw3.thawB ft2.out
      have f0 := ft3 b (o + j * 6 + 2) hbB
      have f1 := ft3 b (o + j * 6 + 2 + 1) hbB
      have f2 := ft3 b (o + j * 6 + 2 + 2) hbB
      have f3 := ft3 b (o + j * 6 + 2 + 3) hbB
      have HIW3 := hide hiw3
      clear hiw3 ft3 c2
      go_wp2
      exact ⟨⟨j + 1, by omega, by go_num, by rw [hS.out, ← HPC.out]; go_num, (hw.out.trans (HIW2.out.trans HIW3.out)).set4 hbB t0 t1 t2 t3 _ _ _ _⟩, by simp [intOf]; omega⟩
    · have hjn : j = n := by omega
      subst hjn
      have E := hide (List.take_of_length_le (l := xs) (i := j) (by have := hx.out; omega))
      go_wp2
      go_ret
      exact ⟨ret_int (by rw [E.out]), hw.out⟩
set_option maxHeartbeats 400000 in
theorem markFunc_any (v : Int) (a : Option Addr) (n c : Nat) (k : Int) (xs : List Blk) (L B : Nat) (w : World) (ha : Hid (BlksAt w L B a xs)) (hx : Hid (n = xs.length)) (ht : Hid (ThawB L B w)) (hl : Hid (BlkLen xs)) (hB : B ≤ w.heap.size) (hn : n ≤ 1048576) (h0 : 0 ≤ k) (h1 : k ≤ 10000000) (h2 : shsCnt (xs.map Blk.sh) ≤ 10000000) :
    Calls Tryz.prog 13 #[.agg #[.int .i64 v, .slice a n c], .int .i64 k] w fun e w' => e = .returned (.int .i64 (k + shsCnt (xs.map Blk.sh))) ∧ Mod L B w w' := by
  go_enter Tryz.func13, Tryz.ntmps13
  go_wp2_with fail
  refine (markBlocks_any _ _ _ _ xs L B _ ?q1 hx ?q2 hl hn h0 h1 h2).mono ?_
  case q1 => exact ha.out.keep ((balloc (Below.refl _ _) _).mono hB)
  case q2 => exact ht.out.keepS (Same.of_below ((balloc (Below.refl _ _) _).mono hB))
  rintro e w1 ⟨rfl, hiw⟩
  go_wp2
  go_ret
  exact ⟨rfl, (Mod.of_below (balloc (Below.refl _ _) _)).trans (Mod.of_iw hiw)⟩
end Go.Proofs.YtjfcbjomfbfoiaaGreatDoor
