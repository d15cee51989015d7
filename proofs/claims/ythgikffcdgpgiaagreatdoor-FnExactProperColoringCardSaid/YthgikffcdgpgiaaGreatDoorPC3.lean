import Derived.Test.YthgikffcdgpgiaaGreatDoorPC2
import Derived.Test.YthgikffcdgpgiaaGreatDoorMC1
import Derived.Test.YthgikffcdgpgiaaGreatDoorW2
import Derived.Test.YthgikffcdgpgiaaGreatDoorW4
import Derived.Deep.RegionWith
import Derived.Deep.DrawnRows
namespace Go.Proofs.YthgikffcdgpgiaaGreatDoor
open Go.RowKit
attribute [local go_sem ↓] Go.wp_at_zero Go.wp_at_succ
set_option maxRecDepth 100000 in
set_option maxHeartbeats 4000000 in
theorem lawC_any (v : Int) (a : Option Addr) (n c : Nat) (xs : List Blk) (ac : Option Addr) (nc cc : Nat) (cs : List Int) (k : Int) (w : World) (ha : Hid (BlksAt w 0 w.heap.size a xs)) (hx : Hid (n = xs.length)) (hn : n ≤ 9223372036854775807) (hs : Hid (LenOk xs)) (hO : Hid (OpTabW w)) (hT : Hid (TerTabW w)) (hZ : Hid (TzTab w)) (hc : Hid (IntsAt w 0 w.heap.size ac cs)) (hcx : Hid (nc = cs.length)) :
    Calls Tryz.prog 4 #[.agg #[.int .i64 v, .slice a n c], .slice ac nc cc, .int .i64 k] w fun e w' => e = .returned (.bool true) ∧ Below w.heap.size w w' := by
  by_cases hcb : (1048576 : Int) < (nc : Int)
  · go_enter Tryz.func4, Tryz.ntmps4
    go_wp2
    go_ret
    exact ⟨rfl, balloc (Below.refl _ _) _⟩
  have hnc : nc ≤ 1048576 := by omega
  by_cases hbig : (1048576 : Int) < (n + blksTot xs : Nat)
  · have hz := szR_neg hbig
    go_enter Tryz.func4, Tryz.ntmps4
    go_wp2_with (go_at_call 5; refine (szFunc_any _ _ _ _ _ xs 0 w.heap.size _ (ha.out.keep (balloc (Below.refl _ _) _)) hx hn hs (by omega) (by omega) (by simp)).mono ?_; rintro e w1 ⟨rfl, hb1⟩)
    go_ret
    exact ⟨rfl, bnext (balloc (Below.refl _ _) _) hb1⟩
  · have hz : szR 1048576 (n + blksTot xs) = 1048576 - (n + blksTot xs : Nat) := szR_pos (by omega)
    have hnn : n ≤ 1048576 := by omega
    have htot : Hid (xs.length + blksTot xs ≤ 1048576) := by have := hx.out; show _ ≤ _; omega
    have hlen := hide (len_of_tot htot.out)
    have hnon : (0 : Int) ≤ 1048576 - (n + blksTot xs : Nat) := by omega
    generalize hN : n + blksTot xs = N at *
    have HN := hide hN
    clear hN hbig
    go_enter Tryz.func4, Tryz.ntmps4
    go_wp2_with fail
    refine (szFunc_any _ _ _ _ _ xs 0 w.heap.size _ ?q1 hx hn hs (by omega) (by omega) (by simp)).mono ?_
    case q1 => exact ha.out.keep (balloc (Below.refl _ _) _)
    rintro e w1 ⟨rfl, hb1⟩
    rw [unhide HN, hz]
    obtain ⟨hc1, hf1⟩ := bcell hb1
    have k0 : w1.cell? ⟨w.heap.size, 0, none⟩ = some (.int .i64 v) := by rw [hc1 _ _ (by simp)]; simp
    have k1 : w1.cell? ⟨w.heap.size, 1, none⟩ = some (.slice a n c) := by rw [hc1 _ _ (by simp)]; simp
    have B1 := bnext (balloc (Below.refl w.heap.size w) _) hb1
    have hz1 := hb1.size
    simp at hz1
    have HA := hide (ha.out.keep B1)
    have HB1 := hide B1
    clear hc1 hf1 hb1 B1 hz
    go_wp2_with fail
    refine (toFunc_any v a n c xs 0 w.heap.size _ HA hx hlen hnn (by omega)).mono ?_
    rintro e w2 ⟨a2, c2, rfl, hb2, hi2, _⟩
    have HI2 := hide hi2
    have k0' := (hb2.cell (p := ⟨w.heap.size, 0, none⟩) (by show w.heap.size < _; omega)).trans k0
    have k1' := (hb2.cell (p := ⟨w.heap.size, 1, none⟩) (by show w.heap.size < _; omega)).trans k1
    have hz2 := hb2.size
    have HB2 := hide (bnext HB1.out hb2)
    clear hi2 hb2 k0 k1 HA
    go_wp2_with fail
    refine (toInts_any ac nc cc cs 0 w.heap.size _ (hide (hc.out.keep HB2.out)) hcx hnc (by omega)).mono ?_
    rintro e w2b ⟨c2b, rfl, hb2b, hi2b, _⟩
    have HI2b := hide hi2b
    have k0'' := (hb2b.cell (p := ⟨w.heap.size, 0, none⟩) (by show w.heap.size < _; omega)).trans k0'
    have k1'' := (hb2b.cell (p := ⟨w.heap.size, 1, none⟩) (by show w.heap.size < _; omega)).trans k1'
    have hz2b := hb2b.size
    have HB2b := hide (bnext HB2.out hb2b)
    have HI2' := hide (HI2.out.keep hb2b)
    clear hi2b hb2b k0' k1' HI2
    go_wp2_with fail
    refine (pcS_any v a2 n c2 xs w1.heap.size w2.heap.size (some ⟨w2.heap.size, 0, none⟩) nc c2b cs w2.heap.size w2b.heap.size k _ HI2' hx htot (by omega) HI2b hcx (Nat.le_refl _) hnc).mono ?_
    rintro e w3 ⟨rfl, hb3⟩
    generalize hr : pcB v xs cs k = r at *
    have HRR := hide hr
    have q0 := (hb3.cell (p := ⟨w.heap.size, 0, none⟩) (by show w.heap.size < _; omega)).trans k0''
    have q1 := (hb3.cell (p := ⟨w.heap.size, 1, none⟩) (by show w.heap.size < _; omega)).trans k1''
    have hz3 := hb3.size
    have HB3 := hide (bnext HB2b.out hb3)
    clear hb3 k0'' k1'' hr HI2' HI2b
    go_wp2_with fail
    refine (toFunc_any v a n c xs 0 w.heap.size _ (ha.out.keep HB3.out) hx hlen hnn (by omega)).mono ?_
    rintro e w4 ⟨a4, c4, rfl, hb4, hi4, _⟩
    have HI4 := hide hi4
    have x0 := (hb4.cell (p := ⟨w.heap.size, 0, none⟩) (by show w.heap.size < _; omega)).trans q0
    have x1 := (hb4.cell (p := ⟨w.heap.size, 1, none⟩) (by show w.heap.size < _; omega)).trans q1
    have hz4 := hb4.size
    have HB4 := hide (bnext HB3.out hb4)
    clear hi4 hb4 q0 q1
    go_wp2_with fail
    have hbF : Below w4.heap.size w4 (w4.alloc (.cells #[.int .i64 v, .slice a4 n c4] 32)) := balloc (Below.refl _ _) _
    have y0 : (w4.alloc (.cells #[.int .i64 v, .slice a4 n c4] 32)).cell? ⟨w4.heap.size, 0, none⟩ = some (.int .i64 v) := by simp
    have y1 : (w4.alloc (.cells #[.int .i64 v, .slice a4 n c4] 32)).cell? ⟨w4.heap.size, 1, none⟩ = some (.slice a4 n c4) := by simp
    have hzF : w4.heap.size + 1 ≤ (w4.alloc (.cells #[.int .i64 v, .slice a4 n c4] 32)).heap.size := by simp
    generalize w4.alloc (.cells #[.int .i64 v, .slice a4 n c4] 32) = wF at *
    have HBF := hide (bnext HB4.out hbF)
    have xF0 := (hbF.cell (p := ⟨w.heap.size, 0, none⟩) (by show w.heap.size < _; omega)).trans x0
    have xF1 := (hbF.cell (p := ⟨w.heap.size, 1, none⟩) (by show w.heap.size < _; omega)).trans x1
    have HIF := hide (HI4.out.keep hbF)
    clear hbF x0 x1 HI4
    refine (toInts_any ac nc cc cs 0 w.heap.size _ (hide (hc.out.keep HBF.out)) hcx hnc (by omega)).mono ?_
    rintro e wG ⟨cG, rfl, hbG, hiG, _⟩
    have HIG := hide hiG
    have hzG := hbG.size
    have HBG := hide (bnext HBF.out hbG)
    have HIF' := hide (HIF.out.keep (hbG.mono (by omega)))
    have u0 := (hbG.cell (p := ⟨w.heap.size, 0, none⟩) (by show w.heap.size < _; omega)).trans xF0
    have u1 := (hbG.cell (p := ⟨w.heap.size, 1, none⟩) (by show w.heap.size < _; omega)).trans xF1
    have v0 := (hbG.cell (p := ⟨w4.heap.size, 0, none⟩) (by show w4.heap.size < _; omega)).trans y0
    have v1 := (hbG.cell (p := ⟨w4.heap.size, 1, none⟩) (by show w4.heap.size < _; omega)).trans y1
    have hgt : (1 : Nat) < w.heap.size := World.block_lt_of_cell? w _ (hZ.out 0 (by decide))
    have HZG : Hid (TzTab wG) := hide (hZ.out.of_block (HBG.out.block _ hgt))
    clear hbG hiG xF0 xF1 y0 y1 HIF
    go_wp2_with fail
    refine (pcI_any v a4 n c4 xs w3.heap.size w4.heap.size (some ⟨wF.heap.size, 0, none⟩) nc cG cs wF.heap.size wG.heap.size k _ HIF' hx htot (by omega) (hide (hO.out.keep HBG.out hO.out.1)) (hide (hT.out.keep HBG.out hT.out.1)) HZG HIG hcx (Nat.le_refl _) hnc).mono ?_
    rintro e w5 ⟨rfl, hb5⟩
    rw [unhide HRR]
    have z0 := (hb5.cell (p := ⟨w4.heap.size, 0, none⟩) (by show w4.heap.size < _; omega)).trans v0
    have z1 := (hb5.cell (p := ⟨w4.heap.size, 1, none⟩) (by show w4.heap.size < _; omega)).trans v1
    have t0' := (hb5.cell (p := ⟨w.heap.size, 0, none⟩) (by show w.heap.size < _; omega)).trans u0
    have t1' := (hb5.cell (p := ⟨w.heap.size, 1, none⟩) (by show w.heap.size < _; omega)).trans u1
    have hz5 := hb5.size
    have HB5 := hide (bnext HBG.out hb5)
    have HI5 := hide (HIF'.out.keep (hb5.mono (by omega)))
    have HJ5 := hide (HIG.out.keep hb5)
    clear hb5 u0 u1 v0 v1 HIF' HIG HZG
    have hrr : (r != r) = false := by simp
    go_wp2
    go_region_with (first | (go_at_call 7; refine (toFunc_any v a n c xs 0 w.heap.size _ (ha.out.keep HB5.out.drew) hx hlen hnn (by show w.heap.size ≤ w5.heap.size; omega)).mono ?_; rintro e w6 ⟨a6, c6, rfl, hb6, hi6, ht6⟩; clear ht6; have HI6 := hide hi6; clear hi6; have t0 := (hb6.cell (p := ⟨w4.heap.size, 0, none⟩) (by show w4.heap.size < w5.heap.size; omega)).trans z0; have t1 := (hb6.cell (p := ⟨w4.heap.size, 1, none⟩) (by show w4.heap.size < w5.heap.size; omega)).trans z1) | (go_at_call 10; refine (eqFunc_yes v _ _ _ _ _ xs w3.heap.size w4.heap.size w5.heap.size w6.heap.size _ (HI5.out.keep ((Below.refl w4.heap.size w5).drew.trans (hb6.mono (by show w4.heap.size ≤ w5.heap.size; omega)))) HI6 hx hlen hnn (by have := hb6.size; have : w5.heap.size ≤ w6.heap.size := this; omega) (Nat.le_refl _)).mono ?_; rintro e w7 ⟨rfl, hb7⟩))
    all_goals
      have HB7 := hide (bnext (bnext HB5.out.drew hb6) hb7)
      have hz6 : w5.heap.size ≤ w6.heap.size := hb6.size
      have hz7 := hb7.size
      have HJ7 := hide ((HJ5.out.keep ((Below.refl wG.heap.size w5).drew.trans (hb6.mono (by show wG.heap.size ≤ w5.heap.size; omega)))).keep (hb7.mono (by omega)))
      go_wp2_with fail
      refine (toInts_any ac nc cc cs 0 w.heap.size _ (hide (hc.out.keep HB7.out)) hcx hnc (by omega)).mono ?_
      rintro e w8 ⟨c8, rfl, hb8, hi8, _⟩
      have hz8 := hb8.size
      have HI8 := hide hi8
      have HB8 := hide (bnext HB7.out hb8)
      have HJ8 := hide (HJ7.out.keep (hb8.mono (by omega)))
      clear hi8 hb8
      go_wp2_with fail
      refine (eqInts_yes _ _ nc _ _ cs wF.heap.size wG.heap.size w7.heap.size w8.heap.size _ HJ8 HI8 hcx hnc (by omega) (Nat.le_refl _)).mono ?_
      rintro e w9 ⟨rfl, hb9⟩
      have HB9 := hide (bnext HB8.out hb9)
      clear hb9
      go_wp2_with fail
      go_ret
      exact ⟨rfl, HB9.out⟩
end Go.Proofs.YthgikffcdgpgiaaGreatDoor
