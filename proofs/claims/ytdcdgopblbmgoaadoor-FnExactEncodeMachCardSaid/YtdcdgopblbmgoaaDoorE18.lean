import Derived.Test.YtdcdgopblbmgoaaDoorM8
import Derived.Test.YtdcdgopblbmgoaaDoorM2
import Derived.Test.YtdcdgopblbmgoaaDoorM6
import Derived.Test.YtdcdgopblbmgoaaDoorM7
import Derived.Deep.DrawnRows
/-
  The law's own words on rows of bytes: held.
-/
namespace Go.Proofs.YtdcdgopblbmgoaaDoor
open Go.RowKit

set_option maxHeartbeats 400000 in
theorem heldBytes_any (a : Option Addr) (n c : Nat) (k : Int) (L B : Nat) (w : World) (ha : Hid (ByteMarks w L B a k n)) (hn : n ≤ 1000000000) (h0 : 0 ≤ k) (h1 : k ≤ 1000000000) :
    Calls Tryd.prog 20 #[.slice a n c, .int .i64 k] w fun e w' => e = .returned (.int .i64 (k + n)) ∧ w' = w := by
  go_enter Tryd.func20, Tryd.ntmps20
  go_wp2
  go_loop [1, 5] (fun u i => ∃ j : Nat, j ≤ n ∧ i = .int .i64 j ∧ u = .int .i64 (k + j)) (fun _ i => n - (intOf i).toNat)
  case atStart => exact ⟨0, Nat.zero_le _, rfl, by simp⟩
  case round =>
    obtain ⟨j, hj, rfl, rfl⟩ := hrel
    by_cases hlt : j < n
    · obtain ⟨b, o, rfl, hbB, hc⟩ := ha.out j hlt
      go_wp2
      go_round
      case rel => exact ⟨j + 1, by omega, by go_num, by go_num⟩
      case measure => simp [intOf]; omega
    · have hjn : j = n := by omega
      subst hjn
      go_wp2
      go_ret
      exact ⟨rfl, rfl⟩
end Go.Proofs.YtdcdgopblbmgoaaDoor

/-
  The law on EncodeMach.
-/
namespace Go.Proofs.YtdcdgopblbmgoaaDoor
open Go.RowKit
attribute [local go_sem ↓] Go.wp_at_zero Go.wp_at_succ

theorem TabOk.nextM {w W : World} (h : TabOk w.heap.size w) (k : Below w.heap.size w W) : TabOk W.heap.size W := fun w' h' => h w' (k.trans (h'.mono k.size))

/-- A variable that holds a function, at block r. -/
def FVm (w : World) (r : Nat) (v : Int) (a : Option Addr) (n c : Nat) : Prop := w.cell? ⟨r, 0, none⟩ = some (.int .i64 v) ∧ w.cell? ⟨r, 1, none⟩ = some (.slice a n c)
theorem FVm.keep {w w1 : World} {r : Nat} {v : Int} {a : Option Addr} {n c : Nat} (h : FVm w r v a n c) (k : w1.heap[r]? = w.heap[r]?) : FVm w1 r v a n c := ⟨(cell_of k).trans h.1, (cell_of k).trans h.2⟩
theorem FVm.new (w : World) (v : Int) (a : Option Addr) (n c t : Nat) : FVm (w.alloc (.cells #[.int .i64 v, .slice a n c] t)) w.heap.size v a n c := by
  refine ⟨?_, ?_⟩ <;> simp [go_sem]
/-- What the law keeps in its hands: f and its copy x; the two texts, each in one block. -/
structure LSM (w : World) (v : Int) (a : Option Addr) (n c : Nat) (a4 : Option Addr) (c4 : Nat) (a0 a5 : Option Addr) (bs : List UInt8) (B3 B4 L0 M0 L5 M5 : Nat) (xs : List MBlk) (W : World) : Prop where
  below : Below w.heap.size w W
  f : FVm W w.heap.size v a n c
  x : FVm W B4 v a4 n c4
  p : BytesAt W L0 M0 a0 bs
  q : BytesAt W L5 M5 a5 bs
  t : ThawB L5 M5 W
  b : MBlksAt W B3 B4 a4 xs
  y : ThawB B3 B4 W
  z : B4 < W.heap.size
  o : w.heap.size < B3 ∧ B3 ≤ B4
  r0 : (L0 = 0 ∧ M0 = 0) ∨ (M0 = L0 + 1 ∧ w.heap.size < L0 ∧ L0 < B3)
  r5 : (L5 = 0 ∧ M5 = 0) ∨ (M5 = L5 + 1 ∧ B4 < L5 ∧ L5 < W.heap.size)
section
variable {w : World} {v : Int} {a : Option Addr} {n c : Nat} {a4 : Option Addr} {c4 : Nat} {a0 a5 : Option Addr} {bs : List UInt8} {B3 B4 L0 M0 L5 M5 : Nat} {xs : List MBlk} {W W' : World}
theorem LSM.next (h : LSM w v a n c a4 c4 a0 a5 bs B3 B4 L0 M0 L5 M5 xs W) (k : Below W.heap.size W W') : LSM w v a n c a4 c4 a0 a5 bs B3 B4 L0 M0 L5 M5 xs W' := by
  obtain ⟨o1, o2⟩ := h.o
  have hz := h.z
  have hs := k.size
  have r0 := h.r0
  have r5 := h.r5
  exact ⟨bnext h.below k, h.f.keep (k.block _ (by omega)), h.x.keep (k.block _ (by omega)), h.p.keepS (fun q _ q2 => k.block q (by omega)), h.q.keepS (fun q _ q2 => k.block q (by omega)), h.t.keepS (fun q _ q2 => k.block q (by omega)), h.b.keepS (fun q _ q2 => k.block q (by omega)), h.y.keepS (fun q _ q2 => k.block q (by omega)), by omega, h.o, r0, by omega⟩
end
set_option maxRecDepth 100000 in
set_option maxHeartbeats 4000000 in
theorem lawEncM_any (v : Int) (a : Option Addr) (n c : Nat) (xs : List MBlk) (w : World) (ha : Hid (MBlksAt w 0 w.heap.size a xs)) (hx : Hid (n = xs.length)) (hn : n ≤ 9223372036854775807) (hs : Hid (MLenOk xs)) (hO : Hid (OpTabW w)) (hT : Hid (TerTabW w)) (hP : Hid (TabOk w.heap.size w)) :
    Calls Tryd.prog 8 #[.agg #[.int .i64 v, .slice a n c]] w fun e w' => e = .returned (.bool true) ∧ Below w.heap.size w w' := by
  by_cases hbig : (1048576 : Int) < (n + mTot xs : Nat)
  · have hz := szR_neg hbig
    go_enter Tryd.func8, Tryd.ntmps8
    go_wp2_with (go_at_call 38; refine (szMach_any _ _ _ _ _ xs 0 w.heap.size _ (ha.out.keep (balloc (Below.refl _ _) _)) hx hn hs (by omega) (by omega) (by simp)).mono ?_; rintro e w1 ⟨rfl, hb1⟩)
    go_ret
    exact ⟨rfl, bnext (balloc (Below.refl _ _) _) hb1⟩
  · have hz : szR 1048576 (n + mTot xs) = 1048576 - (n + mTot xs : Nat) := szR_pos (by omega)
    have hnn : n ≤ 1048576 := by omega
    have htot : Hid (xs.length + mTot xs ≤ 1048576) := by have := hx.out; show _ ≤ _; omega
    have hlen := hide (mlen_of_tot htot.out)
    have hnon : (0 : Int) ≤ 1048576 - (n + mTot xs : Nat) := by omega
    have hzt : 0 < w.heap.size ∧ 1 < w.heap.size := ⟨hO.out.1, hT.out.1⟩
    generalize hN : n + mTot xs = N at *
    have HN := hide hN
    clear hN hbig
    go_enter Tryd.func8, Tryd.ntmps8
    go_wp2_with fail
    refine (szMach_any _ _ _ _ _ xs 0 w.heap.size _ ?q1 hx hn hs (by omega) (by omega) (by simp)).mono ?_
    case q1 => exact ha.out.keep (balloc (Below.refl _ _) _)
    rintro e w1 ⟨rfl, hb1⟩
    rw [unhide HN, hz]
    have F1 : FVm w1 w.heap.size v a n c := (FVm.new w v a n c 61).keep (hb1.block _ (by simp))
    have HB1 := hide (bnext (balloc (Below.refl w.heap.size w) _) hb1)
    have hz1 := hb1.size
    simp at hz1
    clear hb1 hz
    have k0 := F1.1
    have k1 := F1.2
    go_wp2_with fail
    refine (toMach_any v a n c xs 0 w.heap.size _ (hide (ha.out.keep HB1.out)) hx hlen hnn (by omega)).mono ?_
    rintro e w2 ⟨a2, c2, rfl, hb2, hi2, -⟩
    have F2 := F1.keep (hb2.block _ (by omega))
    have s2 := hb2.size
    have HB2 := hide (bnext HB1.out hb2)
    have HI2 := hide hi2
    clear k0 k1 F1 hb2 hi2
    have k0 := F2.1
    have k1 := F2.2
    go_wp2_with fail
    refine (encMS_any v a2 n c2 xs w1.heap.size w2.heap.size _ HI2 hx htot (Nat.le_refl _)).mono ?_
    have hbl := encM_le v xs htot.out
    generalize hES : encM v xs = bs at *
    have HES := hide hES
    clear hES
    rintro e w3 ⟨v3, rfl, hb3, -, ho3⟩
    obtain ⟨a0, c0, L0, M0, rfl, hy0, -, hr0⟩ := bytes_owned ho3
    have F3 := F2.keep (hb3.block _ (by omega))
    have s3 := hb3.size
    have HB3 := hide (bnext HB2.out hb3)
    have HY0 := hide hy0
    clear k0 k1 F2 hb3 hy0 ho3 HI2
    have k0 := F3.1
    have k1 := F3.2
    go_wp2_with fail
    refine (toMach_any v a n c xs 0 w.heap.size _ (hide (ha.out.keep HB3.out)) hx hlen hnn (by omega)).mono ?_
    rintro e w4 ⟨a4, c4, rfl, hb4, hi4, ht4⟩
    have F4 := F3.keep (hb4.block _ (by omega))
    have s4 := hb4.size
    have HB4 := hide (bnext HB3.out hb4)
    have HY4 := hide (HY0.out.keepS (w' := w4) (fun q q1 q2 => hb4.block q (by omega)))
    have HI4 := hide hi4
    have HT4 := hide ht4
    clear k0 k1 F3 hb4 hi4 ht4 HY0
    go_wp2_with fail
    have b4 := fun x => balloc (Below.refl w4.heap.size w4) x
    refine (encMI_any v a4 n c4 xs w3.heap.size w4.heap.size _ (hide (HI4.out.keep (b4 _))) hx htot (by simp) (hide (hO.out.keep (balloc HB4.out _) (by omega))) (hide (hT.out.keep (balloc HB4.out _) (by omega))) (hide (hP.out.nextM (balloc HB4.out _)))).mono ?_
    rw [HES.out]
    rintro e w5 ⟨v5, rfl, hb5, ho5⟩
    obtain ⟨a5, c5, L5, M5, rfl, hy5, ht5, hr5⟩ := bytes_owned ho5
    have s5 := hb5.size
    simp at s5 hr5
    have h45 : Below w4.heap.size w4 w5 := bnext (b4 _) hb5
    have HL5 : Hid (LSM w v a n c a4 c4 a0 a5 bs w3.heap.size w4.heap.size L0 M0 L5 M5 xs w5) := hide (by
      refine ⟨bnext HB4.out h45, F4.keep (h45.block _ (by omega)), (FVm.new w4 v a4 n c4 66).keep (hb5.block _ (by simp)), HY4.out.keepS (fun q _ q2 => h45.block q (by omega)), hy5, ht5, HI4.out.keep h45, (ThawB.of HT4.out).keepS (Same.of_below h45), by omega, by omega, by omega, by omega⟩)
    clear h45 hb5 ho5 hy5 ht5 b4 F4 HY4 HI4 HT4
    have r0 := HL5.out.r0
    have r5 := HL5.out.r5
    have hbz : M0 ≤ w5.heap.size ∧ M5 ≤ w5.heap.size := by omega
    go_wp2_with fail
    refine (eqBytes_yes a5 a0 bs.length c5 c0 bs L5 M5 L0 M0 _ (hide HL5.out.q) (hide HL5.out.p) (hide rfl) hbl (by omega) (by omega)).mono ?_
    rintro e w6 ⟨rfl, hb6⟩
    have h6 := HL5.out.next hb6
    have s6 := hb6.size
    have g0 := h6.x.1
    have g1 := h6.x.2
    have f0 := h6.f.1
    have f1 := h6.f.2
    have HL6 := hide h6
    clear hb6 h6 HL5
    have hz6 := HL6.out.z
    go_wp2_with fail
    go_region_held3 (fun w' => w'.cell? ⟨w.heap.size, 0, none⟩ = some (.int .i64 v) ∧ w'.cell? ⟨w.heap.size, 1, none⟩ = some (.slice a n c) ∧ w'.cell? ⟨w4.heap.size, 0, none⟩ = some (.int .i64 v) ∧ w'.cell? ⟨w4.heap.size, 1, none⟩ = some (.slice a4 n c4)) (go_keep)
      (first
        | (go_at_call 40; refine (toMach_any v a n c xs 0 w.heap.size _ (hide (ha.out.keep HL6.out.below.drew)) hx hlen hnn (by show w.heap.size ≤ w6.heap.size; omega)).mono ?_; rintro e w7 ⟨a7, c7, rfl, hb7, hi7, -⟩; have v7 := (Below.refl w6.heap.size w6).drew.trans hb7; have h7 := HL6.out.next v7; have p0 := h7.x.1; have p1 := h7.x.2; have q0 := h7.f.1; have q1 := h7.f.2; have HL7 := hide h7; have HI7 := hide hi7; have s7 := v7.size; clear hb7 hi7 h7 v7)
        | (go_at_call 42; refine (eqMach_yes v a4 a7 n c4 c7 xs w3.heap.size w4.heap.size w6.heap.size w7.heap.size _ (hide HL7.out.b) (hide HI7.out) hx hlen hnn (by have := HL7.out.z; omega) (Nat.le_refl _)).mono ?_; rintro e w8 ⟨rfl, hb8⟩; have h8 := HL7.out.next hb8; have x0 := h8.x.1; have x1 := h8.x.2; have y0 := h8.f.1; have y1 := h8.f.2; have HL8 := hide h8; have s8 := hb8.size; clear hb8 h8))
    clear p0 p1 q0 q1 g0 g1 f0 f1 HI7 HL6 HL7
    have hsc : mCnt xs ≤ 10000000 := by have := mCnt_le xs; have := htot.out; omega
    have hz8 := HL8.out.z
    go_wp2_with fail
    refine (markMach_any v a4 n c4 1 xs w3.heap.size w4.heap.size _ (hide HL8.out.b) hx (hide HL8.out.y) hlen (by omega) hnn (by omega) (by omega) hsc).mono ?_
    generalize mCnt xs = SC at *
    rintro e w9 ⟨rfl, hm9⟩
    have s9 := hm9.size
    have HB9 := hide (hm9.below HL8.out.below (by omega))
    have F9 := HL8.out.f.keep (hm9.block _ (by omega) (by omega))
    have HP9 := hide (HL8.out.p.keepS (w' := w9) (fun q q1 q2 => hm9.block q (by omega) (by omega)))
    have HQ9 := hide (HL8.out.q.keepS (w' := w9) (fun q q1 q2 => hm9.block q (by omega) (by omega)))
    have HT9 := hide (HL8.out.t.keepS (w' := w9) (fun q q1 q2 => hm9.block q (by omega) (by omega)))
    clear hm9 HL8 x0 x1 y0 y1
    have hkp : ¬ (1 + (SC : Int) < 0) := by omega
    go_wp2_with fail
    refine (eqBytes_yes a5 a0 bs.length c5 c0 bs L5 M5 L0 M0 _ HQ9 HP9 (hide rfl) hbl (by omega) (by omega)).mono ?_
    rintro e w10 ⟨rfl, hb10⟩
    have s10 := hb10.size
    have HB10 := hide (bnext HB9.out hb10)
    have F10 := F9.keep (hb10.block _ (by omega))
    have HP10 := hide (HP9.out.keepS (w' := w10) (fun q q1 q2 => hb10.block q (by omega)))
    have HQ10 := hide (HQ9.out.keepS (w' := w10) (fun q q1 q2 => hb10.block q (by omega)))
    have HT10 := hide (HT9.out.keepS (w' := w10) (fun q q1 q2 => hb10.block q (by omega)))
    clear hb10 F9 HP9 HQ9 HT9 HB9
    go_wp2_with fail
    refine (markBytes_any a5 bs.length c5 1 bs L5 M5 _ HQ10 (hide rfl) HT10 hbl (by omega) (by omega)).mono ?_
    rintro e w11 ⟨rfl, hm11, hq11⟩
    have s11 := hm11.size
    have HB11 := hide (show Below w.heap.size w w11 from ⟨hm11.os.trans HB10.out.os, hm11.tape.trans HB10.out.tape, hm11.output.trans HB10.out.output, Nat.le_trans HB10.out.size hm11.size, fun i hi => (hm11.block i (by omega) (by omega)).trans (HB10.out.block i hi)⟩)
    have F11 := F10.keep (hm11.block _ (by omega) (by omega))
    have HP11 := hide (HP10.out.keepS (w' := w11) (fun q q1 q2 => hm11.block q (by omega) (by omega)))
    have HQ11 := hide hq11
    clear hm11 hq11 F10 HP10 HQ10 HT10 HB10
    go_wp2_with fail
    refine (heldBytes_any a5 bs.length c5 1 L5 M5 _ HQ11 hbl (by omega) (by omega)).mono ?_
    rintro e w12 ⟨rfl, hw12⟩
    rw [hw12]
    clear hw12 w12 HQ11
    have hqp : ¬ (1 + (bs.length : Int) < 0) := by omega
    have hqe : (1 + (bs.length : Int) != 1 + (bs.length : Int)) = false := by simp
    have f0 := F11.1
    have f1 := F11.2
    go_wp2_with fail
    refine (toMach_any v a n c xs 0 w.heap.size _ (hide (ha.out.keep HB11.out)) hx hlen hnn (by omega)).mono ?_
    rintro e w13 ⟨a13, c13, rfl, hb13, hi13, -⟩
    have s13 := hb13.size
    have HB13 := hide (bnext HB11.out hb13)
    have HP13 := hide (HP11.out.keepS (w' := w13) (fun q q1 q2 => hb13.block q (by omega)))
    have HI13 := hide hi13
    clear hb13 hi13 f0 f1 F11 HP11 HB11
    go_wp2_with fail
    refine (encMI_any v a13 n c13 xs w11.heap.size w13.heap.size _ HI13 hx htot (Nat.le_refl _) (hide (hO.out.keep HB13.out (by omega))) (hide (hT.out.keep HB13.out (by omega))) (hide (hP.out.nextM HB13.out))).mono ?_
    rw [HES.out]
    rintro e w14 ⟨v14, rfl, hb14, ho14⟩
    obtain ⟨a14, c14, L14, M14, rfl, hy14, -, hr14⟩ := bytes_owned ho14
    have s14 := hb14.size
    have HB14 := hide (bnext HB13.out hb14)
    have HP14 := hide (HP13.out.keepS (w' := w14) (fun q q1 q2 => hb14.block q (by omega)))
    have HY14 := hide hy14
    clear hb14 ho14 hy14 HP13 HB13 HI13
    go_wp2_with fail
    refine (eqBytes_yes a14 a0 bs.length c14 c0 bs L14 M14 L0 M0 _ HY14 HP14 (hide rfl) hbl (by omega) (by omega)).mono ?_
    rintro e w15 ⟨rfl, hb15⟩
    go_wp2
    go_ret
    exact ⟨rfl, bnext HB14.out hb15⟩
end Go.Proofs.YtdcdgopblbmgoaaDoor
