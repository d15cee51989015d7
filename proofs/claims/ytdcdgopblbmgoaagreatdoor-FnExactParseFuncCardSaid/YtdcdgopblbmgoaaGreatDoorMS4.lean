import Derived.Test.YtdcdgopblbmgoaaGreatDoorMS2
import Derived.Test.YtdcdgopblbmgoaaGreatDoorPure2
import Derived.Test.YtdcdgopblbmgoaaGreatDoorW1
/-
  The law's markings of what the program has read are found again: blocks, functions, answers; answers are one.
-/
namespace Go.Proofs.YtdcdgopblbmgoaaGreatDoor
open Go.RowKit

set_option maxHeartbeats 4000000 in
theorem heldBlocks_any (a : Option Addr) (n c : Nat) (k : Int) (xs : List Blk) (w : World) (ha : Hid (BlksMarked w a k xs)) (hx : Hid (n = xs.length)) (hl : Hid (BlkLen xs)) (hn : n ≤ 1048576) (h0 : 0 ≤ k) (h1 : k ≤ 10000000) (h2 : shsCnt (xs.map Blk.sh) ≤ 10000000) :
    Calls Tryz.prog 49 #[.slice a n c, .int .i64 k] w fun e w' => e = .returned (.int .i64 (k + shsCnt (xs.map Blk.sh))) ∧ w' = w := by
  go_enter Tryz.func49, Tryz.ntmps49
  go_wp2
  go_loopw [1, 5] (fun u i wr => ∃ j : Nat, j ≤ n ∧ i = .int .i64 j ∧ u = .int .i64 (mkAt k xs j) ∧ wr = w) (fun _ i _ => n - (intOf i).toNat)
  case atStart => exact ⟨0, Nat.zero_le _, rfl, by simp [mkAt, shsCnt], rfl⟩
  case round =>
    obtain ⟨j, hj, rfl, rfl, rfl⟩ := hrel
    by_cases hlt : j < n
    · have hjx : j < xs.length := by have := hx.out; omega
      obtain ⟨G, L, B, pa, pc, ia, ic, rfl, c0, c1, hb⟩ := ha.out j hjx
      have hS : Hid (mkAt k xs (j + 1) = mkAt k xs j + (shCnt xs[j].sh : Nat)) := by
        show _ = _
        unfold mkAt
        rw [take_next _ _ (by simpa using hjx), shsCnt_snoc]
        simp
        omega
      have hb2 : mkAt k xs j + (shCnt xs[j].sh : Nat) ≤ 20000000 ∧ 0 ≤ mkAt k xs j := by
        have h3 := hS.out
        have h4 := shsCnt_take (xs.map Blk.sh) (j + 1)
        unfold mkAt at *
        omega
      obtain ⟨hl1, hl2, hl3⟩ := hl.out _ (List.getElem_mem hjx)
      have hsh : shCnt xs[j].sh = phCnt (lens xs[j].phis) + 5 * xs[j].instrs.length + 4 := rfl
      rw [hsh] at hS hb2
      have HP := hide hb.p
      have HI := hide hb.i
      obtain ⟨t0, t1, t2, t3⟩ := hb.t
      dsimp only [mkTer] at t0 t1 t2 t3
      have HL3 : Hid (∀ l ∈ lens xs[j].phis, l ≤ 1048576) := hide (fun l hl => by
        obtain ⟨p, hp, e⟩ := List.mem_map.1 hl
        rw [← e]
        exact hl3 p hp)
      have hpl : xs[j].phis.length = (lens xs[j].phis).length := (lens_len _).symm
      rw [hpl] at c0 hl1
      clear hb hl3 hsh hpl
      generalize hKK : mkAt k xs j = K at *
      clear hKK
      generalize lens xs[j].phis = P at *
      generalize xs[j].instrs.length = m at *
      have HPB : phCnt P ≤ 100000000 := by omega
      have g1 : ¬ (K + (phCnt P : Int) < 0) := by omega
      have g2 : ¬ (K + (phCnt P : Int) + 5 * (m : Int) < 0) := by omega
      generalize hSS : phCnt P = S at *
      have HSS := hide hSS
      clear hSS
      generalize hpn : P.length = pn at *
      have HPN := hide hpn
      clear hpn
      go_wp2_with (first
        | (go_at_call 69; refine (heldPhis_any _ pn _ _ P L B _ HP (hide HPN.out.symm) HL3 (by omega) (by omega) (by omega) (by rw [HSS.out]; omega)).mono ?_; rw [HSS.out]; rintro e w2 ⟨rfl, hw2⟩; rw [hw2]; clear hw2 w2)
        | (go_at_call 70; refine (heldInstrs_any _ _ _ _ L B _ HI (by omega) (by omega) (by omega)).mono ?_; rintro e w2 ⟨rfl, hw2⟩; rw [hw2]; clear hw2 w2))
      exact ⟨⟨j + 1, by omega, by go_num, by rw [hS.out]; go_num, (by first | rfl | trivial)⟩, by simp [intOf]; omega⟩
    · have hjn : j = n := by omega
      subst hjn
      have E : Hid (mkAt k xs j = k + shsCnt (xs.map Blk.sh)) := hide (by unfold mkAt; rw [List.take_of_length_le (by have := hx.out; simp; omega)])
      go_wp2
      go_ret
      exact ⟨ret_int (by rw [E.out]), rfl⟩

theorem PhsMarked.keepG {w w' : World} {L B : Nat} {pa : Option Addr} {k : Int} {ls : List Nat} (h : PhsMarked w L B pa k ls) (s : Below w.heap.size w w') : PhsMarked w' L B pa k ls := fun i hi => by
  obtain ⟨g, a, c, e, hg, h1, h2, h3⟩ := h i hi
  have q := s.block g (World.block_lt_of_cell? _ _ h1)
  refine ⟨g, a, c, e, hg, (cell_of q).trans h1, (cell_of q).trans h2, fun j hj => ?_⟩
  obtain ⟨b, o, e, hb, hc⟩ := h3 j hj
  exact ⟨b, o, e, hb, (cell_of (s.block b (World.block_lt_of_cell? _ _ hc))).trans hc⟩
theorem InsMarked.keepG {w w' : World} {L B : Nat} {ia : Option Addr} {k : Int} {n : Nat} (h : InsMarked w L B ia k n) (s : Below w.heap.size w w') : InsMarked w' L B ia k n := fun i hi => by
  obtain ⟨g, e, hg, h1⟩ := h i hi
  exact ⟨g, e, hg, h1.keepS (s.block g (World.block_lt_of_cell? _ _ h1.1))⟩
theorem BlksMarked.keep {w w' : World} {va : Option Addr} {k : Int} {xs : List Blk} (h : BlksMarked w va k xs) (s : Below w.heap.size w w') : BlksMarked w' va k xs := fun i hi => by
  obtain ⟨G, L, B, pa, pc, ia, ic, e, c0, c1, hb⟩ := h i hi
  have q := s.block G (World.block_lt_of_cell? _ _ c0)
  exact ⟨G, L, B, pa, pc, ia, ic, e, (cell_of q).trans c0, (cell_of q).trans c1, hb.p.keepG s, hb.i.keepG s, hb.t.keepS q⟩

set_option maxHeartbeats 400000 in
theorem markFunc_sep (v : Int) (a : Option Addr) (n c : Nat) (k : Int) (xs : List Blk) (L B : Nat) (w : World) (ha : Hid (BlksSep w L B a xs)) (hx : Hid (n = xs.length)) (hl : Hid (BlkLen xs)) (hB : B ≤ w.heap.size) (hn : n ≤ 1048576) (h0 : 0 ≤ k) (h1 : k ≤ 10000000) (h2 : shsCnt (xs.map Blk.sh) ≤ 10000000) :
    Calls Tryz.prog 24 #[.agg #[.int .i64 v, .slice a n c], .int .i64 k] w fun e w' => e = .returned (.int .i64 (k + shsCnt (xs.map Blk.sh))) ∧ Mod L B w w' ∧ BlksMarked w' a k xs := by
  go_enter Tryz.func24, Tryz.ntmps24
  go_wp2_with fail
  refine (markBlocks_sep _ _ _ _ xs L B _ ?q1 hx hl hn h0 h1 h2).mono ?_
  case q1 => exact hide (ha.out.keepS (Same.of_below ((balloc (Below.refl _ _) _).mono hB)))
  rintro e w1 ⟨rfl, hiw, hm⟩
  have HM := hide hm
  have HIW := hide hiw
  clear hm hiw
  go_wp2
  go_ret
  exact ⟨rfl, (Mod.of_below (balloc (Below.refl _ _) _)).trans (Mod.of_iw HIW.out), HM.out⟩

set_option maxHeartbeats 400000 in
theorem heldFunc_any (v : Int) (a : Option Addr) (n c : Nat) (k : Int) (xs : List Blk) (w : World) (ha : Hid (BlksMarked w a k xs)) (hx : Hid (n = xs.length)) (hl : Hid (BlkLen xs)) (hn : n ≤ 1048576) (h0 : 0 ≤ k) (h1 : k ≤ 10000000) (h2 : shsCnt (xs.map Blk.sh) ≤ 10000000) :
    Calls Tryz.prog 25 #[.agg #[.int .i64 v, .slice a n c], .int .i64 k] w fun e w' => e = .returned (.int .i64 (k + shsCnt (xs.map Blk.sh))) ∧ Below w.heap.size w w' := by
  generalize hS : shsCnt (xs.map Blk.sh) = S at *
  have HS := hide hS
  clear hS
  go_enter Tryz.func25, Tryz.ntmps25
  go_wp2_with fail
  refine (heldBlocks_any _ _ _ _ xs _ (hide (ha.out.keep (balloc (Below.refl _ _) _))) hx hl hn h0 h1 (by rw [HS.out]; exact h2)).mono ?_
  rw [HS.out]
  rintro e w1 ⟨rfl, hw1⟩
  rw [hw1]
  clear hw1 w1
  have g1 : ¬ (k + (S : Int) < 0) := by omega
  go_wp2
  go_ret
  exact ⟨rfl, balloc (Below.refl _ _) _⟩

set_option maxHeartbeats 400000 in
theorem markParsed_sep (co li v : Int) (a : Option Addr) (n c : Nat) (k : Int) (xs : List Blk) (L B : Nat) (w : World) (ha : Hid (BlksSep w L B a xs)) (hx : Hid (n = xs.length)) (hl : Hid (BlkLen xs)) (hB : B ≤ w.heap.size) (hn : n ≤ 1048576) (h0 : 0 ≤ k) (h1 : k ≤ 10000000) (h2 : shsCnt (xs.map Blk.sh) ≤ 10000000) :
    Calls Tryz.prog 10 #[.agg #[.int .i64 co, .int .i64 li, .int .i64 v, .slice a n c], .int .i64 k] w fun e w' => e = .returned (.int .i64 (k + shsCnt (xs.map Blk.sh))) ∧ Mod L B w w' ∧ BlksMarked w' a k xs := by
  go_enter Tryz.func10, Tryz.ntmps10
  go_wp2_with fail
  refine (markFunc_sep v a n c k xs L B _ ?q1 hx hl (by simp; omega) hn h0 h1 h2).mono ?_
  case q1 => exact hide (ha.out.keepS (Same.of_below ((balloc (Below.refl _ _) _).mono hB)))
  rintro e w1 ⟨rfl, hm1, hm⟩
  have HM := hide hm
  have HM1 := hide hm1
  clear hm hm1
  go_wp2
  go_ret
  exact ⟨rfl, (Mod.of_below (balloc (Below.refl _ _) _)).trans HM1.out, HM.out⟩

set_option maxHeartbeats 400000 in
theorem heldParsed_any (co li v : Int) (a : Option Addr) (n c : Nat) (k : Int) (xs : List Blk) (w : World) (ha : Hid (BlksMarked w a k xs)) (hx : Hid (n = xs.length)) (hl : Hid (BlkLen xs)) (hn : n ≤ 1048576) (h0 : 0 ≤ k) (h1 : k ≤ 10000000) (h2 : shsCnt (xs.map Blk.sh) ≤ 10000000) :
    Calls Tryz.prog 11 #[.agg #[.int .i64 co, .int .i64 li, .int .i64 v, .slice a n c], .int .i64 k] w fun e w' => e = .returned (.int .i64 (k + shsCnt (xs.map Blk.sh))) ∧ Below w.heap.size w w' := by
  generalize hS : shsCnt (xs.map Blk.sh) = S at *
  have HS := hide hS
  clear hS
  go_enter Tryz.func11, Tryz.ntmps11
  go_wp2_with fail
  refine (heldFunc_any v a n c k xs _ (hide (ha.out.keep (balloc (Below.refl _ _) _))) hx hl hn h0 h1 (by rw [HS.out]; exact h2)).mono ?_
  rw [HS.out]
  rintro e w1 ⟨rfl, hw1⟩
  have HW := hide (bnext (balloc (Below.refl w.heap.size w) _) hw1)
  clear hw1
  have g1 : ¬ (k + (S : Int) < 0) := by omega
  go_wp2
  go_ret
  exact ⟨rfl, HW.out⟩

set_option maxHeartbeats 400000 in
theorem eqParsed_yes (co li v : Int) (a a' : Option Addr) (n c c' : Nat) (xs : List Blk) (L B L' B' : Nat) (w : World) (ha : Hid (BlksAt w L B a xs)) (hb : Hid (BlksAt w L' B' a' xs)) (hx : Hid (n = xs.length)) (hs : Hid (BlkLen xs)) (hn : n ≤ 1048576) (hB : B ≤ w.heap.size) (hB' : B' ≤ w.heap.size) :
    Calls Tryz.prog 7 #[.agg #[.int .i64 co, .int .i64 li, .int .i64 v, .slice a n c], .agg #[.int .i64 co, .int .i64 li, .int .i64 v, .slice a' n c']] w fun e w' => e = .returned (.bool true) ∧ Below w.heap.size w w' := by
  go_enter Tryz.func7, Tryz.ntmps7
  go_wp2_with fail
  have b2 := fun x y => balloc (balloc (Below.refl w.heap.size w) x) y
  refine (eqFunc_yes v a a' n c c' xs L B L' B' _ (hide (ha.out.keep ((b2 _ _).mono hB))) (hide (hb.out.keep ((b2 _ _).mono hB'))) hx hs hn (by simp; omega) (by simp; omega)).mono ?_
  rintro e w1 ⟨rfl, hb1⟩
  have HB := hide (bnext (b2 _ _) hb1)
  clear hb1 b2
  go_wp2
  go_ret
  exact ⟨rfl, HB.out⟩
end Go.Proofs.YtdcdgopblbmgoaaGreatDoor

namespace Go.Proofs.YtdcdgopblbmgoaaGreatDoor
open Go.RowKit

theorem ret_slice {a a' : Option Addr} {n n' c c' : Nat} (h : a = a') (k : n = n') (l : c = c') : Ending.returned (.slice a n c) = .returned (.slice a' n' c') := by rw [h, k, l]

set_option maxHeartbeats 400000 in
theorem targetsS_any (t : Ter) (w : World) :
    Calls Tryz.prog 52 #[.agg #[.int .i64 t.kind, .int .i64 t.a, .int .i64 t.to, .int .i64 t.els]] w fun e w' => ∃ a c, e = .returned (.slice a t.targets.length c) ∧ Below w.heap.size w w' ∧ IntsAt w' w.heap.size w'.heap.size a t.targets := by
  obtain ⟨kind, ta, to, els⟩ := t
  by_cases h1 : kind = 1
  · subst h1
    go_enter Tryz.func52, Tryz.ntmps52
    go_wp2
    go_ret
    refine ⟨_, _, rfl, balloc (balloc (Below.refl _ _) _) _, fun i hi => ?_⟩
    simp [Ter.targets] at hi
    subst hi
    exact ⟨_, _, rfl, ⟨by simp, by simp⟩, by simp [Ter.targets]⟩
  · by_cases h2 : kind = 2
    · subst h2
      go_enter Tryz.func52, Tryz.ntmps52
      go_wp2
      go_ret
      refine ⟨_, _, rfl, balloc (balloc (Below.refl _ _) _) _, fun i hi => ?_⟩
      simp [Ter.targets] at hi
      match i, hi with
      | 0, _ => exact ⟨_, _, rfl, ⟨by simp, by simp⟩, by simp [Ter.targets]⟩
      | 1, _ => exact ⟨_, _, rfl, ⟨by simp, by simp⟩, by simp [Ter.targets]⟩
    · have e1 : (kind == 1) = false := by simp [h1]
      have e2 : (kind == 2) = false := by simp [h2]
      have hn : (Ter.targets ⟨kind, ta, to, els⟩) = [] := by simp [Ter.targets, h1, h2]
      rw [hn]
      clear h1 h2 hn
      go_enter Tryz.func52, Tryz.ntmps52
      go_wp2
      go_ret
      exact ⟨_, _, rfl, balloc (balloc (Below.refl _ _) _) _, fun i hi => absurd hi (by simp)⟩
end Go.Proofs.YtdcdgopblbmgoaaGreatDoor
