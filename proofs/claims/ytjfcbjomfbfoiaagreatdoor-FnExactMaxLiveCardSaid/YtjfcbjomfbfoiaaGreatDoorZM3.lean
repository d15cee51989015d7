import Derived.Test.YtjfcbjomfbfoiaaGreatDoorMQ4
import Derived.Test.YtjfcbjomfbfoiaaGreatDoorW4
import Derived.Deep.RegionWith
import Derived.Deep.DrawnRows
namespace Go.Proofs.YtjfcbjomfbfoiaaGreatDoor
open Go.RowKit
attribute [local go_sem ↓] Go.wp_at_zero Go.wp_at_succ
set_option maxRecDepth 100000 in
set_option maxHeartbeats 4000000 in
theorem lawX_any (v : Int) (a : Option Addr) (n c : Nat) (xs : List Blk) (w : World) (ha : Hid (BlksAt w 0 w.heap.size a xs)) (hx : Hid (n = xs.length)) (hn : n ≤ 9223372036854775807) (hs : Hid (LenOk xs)) (hO : Hid (OpTabW w)) (hT : Hid (TerTabW w)) :
    Calls Tryz.prog 5 #[.agg #[.int .i64 v, .slice a n c]] w fun e w' => e = .returned (.bool true) ∧ Below w.heap.size w w' := by
  by_cases hbig : (1048576 : Int) < (n + blksTot xs : Nat)
  · have hz := szR_neg hbig
    go_enter Tryz.func5, Tryz.ntmps5
    go_wp2_with (go_at_call 7; refine (szFunc_any _ _ _ _ _ xs 0 w.heap.size _ (ha.out.keep (balloc (Below.refl _ _) _)) hx hn hs (by omega) (by omega) (by simp)).mono ?_; rintro e w1 ⟨rfl, hb1⟩)
    go_ret
    exact ⟨rfl, bnext (balloc (Below.refl _ _) _) hb1⟩
  · have hz : szR 1048576 (n + blksTot xs) = 1048576 - (n + blksTot xs : Nat) := szR_pos (by omega)
    have hnn : n ≤ 1048576 := by omega
    have htot : Hid (xs.length + blksTot xs ≤ 1048576) := by have := hx.out; show _ ≤ _; omega
    have hlen := hide (len_of_tot htot.out)
    have hnon : (0 : Int) ≤ 1048576 - (n + blksTot xs : Nat) := by omega
    generalize hN : n + blksTot xs = N at *
    have HN := hide hN
    clear hN hbig
    go_enter Tryz.func5, Tryz.ntmps5
    go_wp2_with fail
    refine (szFunc_any _ _ _ _ _ xs 0 w.heap.size _ ?q1 hx hn hs (by omega) (by omega) (by simp)).mono ?_
    case q1 => exact ha.out.keep (balloc (Below.refl _ _) _)
    rintro e w1 ⟨rfl, hb1⟩
    rw [unhide HN, hz]
    obtain ⟨hc1, hf1⟩ := bcell hb1
    have k0 : w1.cell? ⟨w.heap.size, 0, none⟩ = some (.int .i64 v) := by rw [hc1 _ _ (by simp)]; simp
    have k1 : w1.cell? ⟨w.heap.size, 1, none⟩ = some (.slice a n c) := by rw [hc1 _ _ (by simp)]; simp
    have B1 := bnext (balloc (Below.refl w.heap.size w) _) hb1
    have hz1 := hb1.size
    simp at hz1
    have HA := hide (ha.out.keep B1)
    have HB1 := hide B1
    clear hc1 hf1 hb1 B1 hz
    go_wp2_with fail
    refine (toFunc_any v a n c xs 0 w.heap.size _ HA hx hlen hnn (by omega)).mono ?_
    rintro e w2 ⟨a2, c2, rfl, hb2, hi2, _⟩
    have HI2 := hide hi2
    have k0' := (hb2.cell (p := ⟨w.heap.size, 0, none⟩) (by show w.heap.size < _; omega)).trans k0
    have k1' := (hb2.cell (p := ⟨w.heap.size, 1, none⟩) (by show w.heap.size < _; omega)).trans k1
    have hz2 := hb2.size
    have HB2 := hide (bnext HB1.out hb2)
    clear hi2 hb2 k0 k1 HA
    go_wp2_with fail
    refine (maxS_ans v a2 n c2 xs w1.heap.size w2.heap.size _ HI2 hx htot (Nat.le_refl _)).mono ?_
    rintro e w3 ⟨rfl, hb3⟩
    generalize hr : mxV v xs = r at *
    have HRR := hide hr
    have q0 := (hb3.cell (p := ⟨w.heap.size, 0, none⟩) (by show w.heap.size < _; omega)).trans k0'
    have q1 := (hb3.cell (p := ⟨w.heap.size, 1, none⟩) (by show w.heap.size < _; omega)).trans k1'
    have hz3 := hb3.size
    have HB3 := hide (bnext HB2.out hb3)
    clear hb3 k0' k1' hr HI2
    go_wp2_with fail
    refine (toFunc_any v a n c xs 0 w.heap.size _ (ha.out.keep HB3.out) hx hlen hnn (by omega)).mono ?_
    rintro e w4 ⟨a4, c4, rfl, hb4, hi4, _⟩
    have HI4 := hide hi4
    have x0 := (hb4.cell (p := ⟨w.heap.size, 0, none⟩) (by show w.heap.size < _; omega)).trans q0
    have x1 := (hb4.cell (p := ⟨w.heap.size, 1, none⟩) (by show w.heap.size < _; omega)).trans q1
    have hz4 := hb4.size
    have HB4 := hide (bnext HB3.out hb4)
    clear hi4 hb4 q0 q1
    go_wp2_with fail
    refine (maxI_ans v a4 n c4 xs w3.heap.size w4.heap.size _ ?p1 hx htot ?p2 ?p3 ?p4).mono ?_
    case p1 => exact HI4.out.keep (balloc (Below.refl _ _) _)
    case p2 => simp
    case p3 => exact hO.out.keep (balloc HB4.out _) hO.out.1
    case p4 => exact hT.out.keep (balloc HB4.out _) hT.out.1
    rintro e w5 ⟨rfl, hb5⟩
    rw [unhide HRR]
    obtain ⟨hc5, hf5⟩ := bcell hb5
    have z0 : w5.cell? ⟨w4.heap.size, 0, none⟩ = some (.int .i64 v) := by rw [hc5 _ _ (by simp)]; simp
    have z1 : w5.cell? ⟨w4.heap.size, 1, none⟩ = some (.slice a4 n c4) := by rw [hc5 _ _ (by simp)]; simp
    have b5 := bnext (balloc (Below.refl w4.heap.size w4) _) hb5
    have y0 := (b5.cell (p := ⟨w.heap.size, 0, none⟩) (by show w.heap.size < _; omega)).trans x0
    have y1 := (b5.cell (p := ⟨w.heap.size, 1, none⟩) (by show w.heap.size < _; omega)).trans x1
    have hz5 := hb5.size
    simp at hz5
    have HB5 := hide (bnext HB4.out b5)
    have HI5 := hide (HI4.out.keep b5)
    clear hc5 hf5 hb5 x0 x1 b5 HI4
    have hrr : (r != r) = false := by simp
    go_wp2
    go_region_with (first | (go_at_call 9; refine (toFunc_any v a n c xs 0 w.heap.size _ (ha.out.keep HB5.out.drew) hx hlen hnn (by show w.heap.size ≤ w5.heap.size; omega)).mono ?_; rintro e w6 ⟨a6, c6, rfl, hb6, hi6, ht6⟩; clear ht6; have HI6 := hide hi6; clear hi6; have t0 := (hb6.cell (p := ⟨w4.heap.size, 0, none⟩) (by show w4.heap.size < w5.heap.size; omega)).trans z0; have t1 := (hb6.cell (p := ⟨w4.heap.size, 1, none⟩) (by show w4.heap.size < w5.heap.size; omega)).trans z1) | (go_at_call 12; refine (eqFunc_yes v _ _ _ _ _ xs w3.heap.size w4.heap.size w5.heap.size w6.heap.size _ (HI5.out.keep ((Below.refl w4.heap.size w5).drew.trans (hb6.mono (by show w4.heap.size ≤ w5.heap.size; omega)))) HI6 hx hlen hnn (by have := hb6.size; have : w5.heap.size ≤ w6.heap.size := this; omega) (Nat.le_refl _)).mono ?_; rintro e w7 ⟨rfl, hb7⟩))
    all_goals
      go_wp2
      go_ret
      exact ⟨rfl, bnext (bnext HB5.out.drew hb6) hb7⟩
end Go.Proofs.YtjfcbjomfbfoiaaGreatDoor
