import Derived.Test.YtjfcbjomfbfoiaaGreatDoorZI3
import Derived.Test.YtjfcbjomfbfoiaaGreatDoorW4
import Derived.Deep.RegionWith
import Derived.Deep.DrawnRows
namespace Go.Proofs.YtjfcbjomfbfoiaaGreatDoor
open Go.RowKit
attribute [local go_sem ↓] Go.wp_at_zero Go.wp_at_succ
set_option maxRecDepth 100000 in
set_option maxHeartbeats 4000000 in
theorem lawI_any (v : Int) (a : Option Addr) (n c : Nat) (xs : List Blk) (w : World) (ha : Hid (BlksAt w 0 w.heap.size a xs)) (hx : Hid (n = xs.length)) (hn : n ≤ 9223372036854775807) (hs : Hid (LenOk xs)) (hO : Hid (OpTabW w)) (hT : Hid (TerTabW w)) (hZ : Hid (TzTab w)) :
    Calls Tryz.prog 6 #[.agg #[.int .i64 v, .slice a n c]] w fun e w' => e = .returned (.bool true) ∧ Below w.heap.size w w' := by
  by_cases hbig : (1048576 : Int) < (n + blksTot xs : Nat)
  · have hz := szR_neg hbig
    go_enter Tryz.func6, Tryz.ntmps6
    go_wp2_with (go_at_call 7; refine (szFunc_any _ _ _ _ _ xs 0 w.heap.size _ (ha.out.keep (balloc (Below.refl _ _) _)) hx hn hs (by omega) (by omega) (by simp)).mono ?_; rintro e w1 ⟨rfl, hb1⟩)
    go_ret
    exact ⟨rfl, bnext (balloc (Below.refl _ _) _) hb1⟩
  · have hz : szR 1048576 (n + blksTot xs) = 1048576 - (n + blksTot xs : Nat) := szR_pos (by omega)
    have hnn : n ≤ 1048576 := by omega
    have htot : Hid (xs.length + blksTot xs ≤ 1048576) := by have := hx.out; show _ ≤ _; omega
    have hlen := hide (len_of_tot htot.out)
    have hnon : (0 : Int) ≤ 1048576 - (n + blksTot xs : Nat) := by omega
    generalize hN : n + blksTot xs = N at *
    have HN := hide hN
    clear hN hbig
    obtain ⟨lst, hlst⟩ : ∃ l, l = infL v xs := ⟨_, rfl⟩
    have HSA := hide (fun a' c' L B W h1 h2 => infS_ans v a' n c' xs L B W h1 hx.out htot.out h2)
    have HIA := hide (fun a' c' L B W h1 h2 h3 h4 h5 => infI_ans v a' n c' xs L B W h1 hx.out htot.out h2 h3 h4 h5)
    rw [← hlst] at HSA HIA
    clear hlst
    go_enter Tryz.func6, Tryz.ntmps6
    go_wp2_with fail
    refine (szFunc_any _ _ _ _ _ xs 0 w.heap.size _ ?q1 hx hn hs (by omega) (by omega) (by simp)).mono ?_
    case q1 => exact ha.out.keep (balloc (Below.refl _ _) _)
    rintro e w1 ⟨rfl, hb1⟩
    rw [unhide HN, hz]
    obtain ⟨hc1, hf1⟩ := bcell hb1
    have k0 : w1.cell? ⟨w.heap.size, 0, none⟩ = some (.int .i64 v) := by rw [hc1 _ _ (by simp)]; simp
    have k1 : w1.cell? ⟨w.heap.size, 1, none⟩ = some (.slice a n c) := by rw [hc1 _ _ (by simp)]; simp
    have B1 := bnext (balloc (Below.refl w.heap.size w) _) hb1
    have hz1 := hb1.size
    simp at hz1
    have HA := hide (ha.out.keep B1)
    have HB1 := hide B1
    clear hc1 hf1 hb1 B1 hz
    go_wp2_with fail
    refine (toFunc_any v a n c xs 0 w.heap.size _ HA hx hlen hnn (by omega)).mono ?_
    rintro e w2 ⟨a2, c2, rfl, hb2, hi2, _⟩
    have HI2 := hide hi2
    have k0' := (hb2.cell (p := ⟨w.heap.size, 0, none⟩) (by show w.heap.size < _; omega)).trans k0
    have k1' := (hb2.cell (p := ⟨w.heap.size, 1, none⟩) (by show w.heap.size < _; omega)).trans k1
    have hz2 := hb2.size
    have HB2 := hide (bnext HB1.out hb2)
    clear hi2 hb2 k0 k1 HA
    go_wp2_with fail
    refine (HSA.out a2 c2 w1.heap.size w2.heap.size _ HI2.out (Nat.le_refl _)).mono ?_
    rintro e w3 ⟨G0, rfl, hb3, hf3⟩
    obtain ⟨r1, m1, s1, rfl⟩ := hf3.form
    have HF3 := hide hf3
    have q0 := (hb3.cell (p := ⟨w.heap.size, 0, none⟩) (by show w.heap.size < _; omega)).trans k0'
    have q1 := (hb3.cell (p := ⟨w.heap.size, 1, none⟩) (by show w.heap.size < _; omega)).trans k1'
    have hz3 := hb3.size
    have HB3 := hide (bnext HB2.out hb3)
    have hl3 : w.heap.size < w3.heap.size := by omega
    have HC3 := hide (And.intro q0 q1)
    clear hb3 k0' k1' hf3 HI2
    go_wp2_with fail
    clear q0 q1
    refine (toFunc_any v a n c xs 0 w.heap.size _ (ha.out.keep HB3.out) hx hlen hnn (by omega)).mono ?_
    rintro e w4 ⟨a4, c4, rfl, hb4, hi4, ht4⟩
    have HI4 := hide hi4
    have HT4 := hide ht4
    have HC4 : Hid (w4.cell? ⟨w.heap.size, 0, none⟩ = some (.int .i64 v) ∧ w4.cell? ⟨w.heap.size, 1, none⟩ = some (.slice a n c)) := hide ⟨(hb4.cell (p := ⟨w.heap.size, 0, none⟩) (by show w.heap.size < _; omega)).trans HC3.out.1, (hb4.cell (p := ⟨w.heap.size, 1, none⟩) (by show w.heap.size < _; omega)).trans HC3.out.2⟩
    have hz4 := hb4.size
    have HB4 := hide (bnext HB3.out hb4)
    have HF4 := hide (HF3.out.keepS (fun k _ h2 => hb4.block k (by omega)))
    clear hi4 hb4 ht4 HF3 HC3
    have HP4 := hide (balloc (Below.refl w4.heap.size w4) (.cells #[.int .i64 v, .slice a4 n c4] 32))
    have HXX : Hid ((w4.alloc (.cells #[.int .i64 v, .slice a4 n c4] 32)).cell? ⟨w4.heap.size, 0, none⟩ = some (.int .i64 v) ∧ (w4.alloc (.cells #[.int .i64 v, .slice a4 n c4] 32)).cell? ⟨w4.heap.size, 1, none⟩ = some (.slice a4 n c4)) := hide (by simp [go_sem])
    have hz4b : (w4.alloc (.cells #[.int .i64 v, .slice a4 n c4] 32)).heap.size = w4.heap.size + 1 := by simp
    go_wp2_with fail
    generalize w4.alloc (.cells #[.int .i64 v, .slice a4 n c4] 32) = wc at *
    have hzc : w4.heap.size + 1 ≤ wc.heap.size := by omega
    clear hz4b
    have HBc := hide (bnext HB4.out HP4.out)
    refine (HIA.out a4 c4 w3.heap.size w4.heap.size wc (HI4.out.keep HP4.out) (by omega) (hO.out.keep HBc.out hO.out.1) (hT.out.keep HBc.out hT.out.1) (hZ.out.of_block (HBc.out.block _ (World.block_lt_of_cell? w _ (hZ.out 0 (by decide)))))).mono ?_
    rintro e wd ⟨G1, rfl, hb5, hf5, hm5⟩
    obtain ⟨t1, n1, y1, rfl⟩ := hf5.form
    have HFD := hide hf5
    have HMD := hide hm5
    have HB45 := hide (bnext HP4.out hb5)
    have hz5 := hb5.size
    have HY5 : Hid (wd.cell? ⟨w4.heap.size, 0, none⟩ = some (.int .i64 v) ∧ wd.cell? ⟨w4.heap.size, 1, none⟩ = some (.slice a4 n c4)) := hide ⟨(hb5.cell (p := ⟨w4.heap.size, 0, none⟩) (by show w4.heap.size < _; omega)).trans HXX.out.1, (hb5.cell (p := ⟨w4.heap.size, 1, none⟩) (by show w4.heap.size < _; omega)).trans HXX.out.2⟩
    clear hf5 hm5 hb5 HXX
    have HC5 : Hid (wd.cell? ⟨w.heap.size, 0, none⟩ = some (.int .i64 v) ∧ wd.cell? ⟨w.heap.size, 1, none⟩ = some (.slice a n c)) := hide ⟨(HB45.out.cell (p := ⟨w.heap.size, 0, none⟩) (by show w.heap.size < _; omega)).trans HC4.out.1, (HB45.out.cell (p := ⟨w.heap.size, 1, none⟩) (by show w.heap.size < _; omega)).trans HC4.out.2⟩
    have HFA : Hid (∀ W, (∀ k, k < wd.heap.size → ¬ (w3.heap.size ≤ k ∧ k < w4.heap.size) → ¬ (wc.heap.size ≤ k ∧ k < wd.heap.size) → W.heap[k]? = wd.heap[k]?) → (W.cell? ⟨w.heap.size, 0, none⟩ = some (.int .i64 v) ∧ W.cell? ⟨w.heap.size, 1, none⟩ = some (.slice a n c)) ∧ (W.cell? ⟨w4.heap.size, 0, none⟩ = some (.int .i64 v) ∧ W.cell? ⟨w4.heap.size, 1, none⟩ = some (.slice a4 n c4)) ∧ SetA W w2.heap.size w3.heap.size lst (.slice r1 m1 s1)) := hide (fun W hW => by
      have k0 := hW w.heap.size (by omega) (by omega) (by omega)
      have k4 := hW w4.heap.size (by omega) (by omega) (by omega)
      refine ⟨⟨(cell_of k0).trans HC5.out.1, (cell_of k0).trans HC5.out.2⟩, ⟨(cell_of k4).trans HY5.out.1, (cell_of k4).trans HY5.out.2⟩, ?_⟩
      exact HF4.out.keepS (fun k _ h2 => (hW k (by omega) (by omega) (by omega)).trans (HB45.out.block k (by omega))))
    have HBD : Hid (Below w.heap.size w wd) := hide (bnext HB4.out HB45.out)
    have HXD : Hid (BlksAt wd w3.heap.size w4.heap.size a4 xs) := hide (HI4.out.keep HB45.out)
    have HTD : Hid (ThawB w3.heap.size w4.heap.size wd) := hide ((ThawB.of HT4.out).keepS (fun k _ h2 => HB45.out.block k h2))
    have HEQ := hide (eqSetA_yes lst _ _ wc.heap.size wd.heap.size w2.heap.size w3.heap.size wd HFD.out (HFA.out wd (fun _ _ _ _ => rfl)).2.2 (by omega) (by omega))
    go_wp2_with fail
    refine HEQ.out.mono ?_
    rintro e w6 ⟨rfl, hb6⟩
    have HB6 := hide hb6
    have hz6 := hb6.size
    obtain ⟨⟨d0, d1⟩, ⟨d2, d3⟩, _⟩ := HFA.out w6 (fun k h _ _ => hb6.block k h)
    have HBw6 := hide (bnext HBD.out hb6)
    have HX6 := hide (HXD.out.keep (hb6.mono (by omega)))
    clear hb6 HEQ
    go_wp2
    go_region_with (first | (go_at_call 9; refine (toFunc_any v a n c xs 0 w.heap.size _ (ha.out.keep HBw6.out.drew) hx hlen hnn (by show w.heap.size ≤ w6.heap.size; omega)).mono ?_; rintro e w7 ⟨a7, c7, rfl, hb7, hi7, ht7⟩; clear ht7; have HI7 := hide hi7; clear hi7; have u0 := (hb7.cell (p := ⟨w4.heap.size, 0, none⟩) (by show w4.heap.size < w6.heap.size; omega)).trans d2; have u1 := (hb7.cell (p := ⟨w4.heap.size, 1, none⟩) (by show w4.heap.size < w6.heap.size; omega)).trans d3) | (go_at_call 12; refine (eqFunc_yes v _ _ _ _ _ xs w3.heap.size w4.heap.size w6.heap.size w7.heap.size _ (HX6.out.keep ((Below.refl w4.heap.size w6).drew.trans (hb7.mono (by show w4.heap.size ≤ w6.heap.size; omega)))) HI7 hx hlen hnn (by have := hb7.size; have : w6.heap.size ≤ w7.heap.size := this; omega) (Nat.le_refl _)).mono ?_; rintro e w8 ⟨rfl, hb8⟩))
    all_goals
      have HB8 := hide (bnext (bnext HB6.out.drew hb7) hb8)
      have hz8 : wd.heap.size ≤ w8.heap.size := HB8.out.size
      obtain ⟨_, ⟨p2, p3⟩, _⟩ := HFA.out w8 (fun k h _ _ => HB8.out.block k h)
      clear hb7 hb8 d0 d1 d2 d3
      have HX8 : Hid (BlksAt w8 w3.heap.size w4.heap.size a4 xs) := hide (HXD.out.keepS (fun k _ h2 => HB8.out.block k (by omega)))
      have HT8 : Hid (ThawB w3.heap.size w4.heap.size w8) := hide (HTD.out.keepS (fun k _ h2 => HB8.out.block k (by omega)))
      have hsc : shsCnt (xs.map Blk.sh) ≤ 10000000 := by have := shsCnt_leL xs; have := htot.out; omega
      go_wp2_with fail
      refine (markFunc_any v a4 n c4 1 xs w3.heap.size w4.heap.size _ HX8 hx HT8 hlen (by omega) hnn (by omega) (by omega) hsc).mono ?_
      generalize shsCnt (xs.map Blk.sh) = SC at *
      rintro e w9 ⟨rfl, hm9⟩
      have hz9 := hm9.size
      have HA9 : Hid (∀ k, k < wd.heap.size → ¬ (w3.heap.size ≤ k ∧ k < w4.heap.size) → w9.heap[k]? = wd.heap[k]?) := hide (fun k h1 h2 => (hm9.block k (by omega) h2).trans (HB8.out.block k h1))
      have HB9 : Hid (Below w.heap.size w w9) := hide (hm9.below (bnext HBD.out HB8.out) (by omega))
      have HF9 := hide (HFA.out w9 (fun k h1 h2 _ => HA9.out k h1 h2)).2.2
      have HG9 : Hid (SetA w9 wc.heap.size wd.heap.size lst (.slice t1 n1 y1)) := hide (HFD.out.keepS (fun k h1 h2 => HA9.out k (by omega) (by omega)))
      have HEQ := hide (eqSetA_yes lst _ _ wc.heap.size wd.heap.size w2.heap.size w3.heap.size w9 HG9.out HF9.out (by omega) (by omega))
      have hkp : ¬ (1 + (SC : Int) < 0) := by omega
      clear hm9 p2 p3
      go_wp2_with fail
      refine HEQ.out.mono ?_
      rintro e w10 ⟨rfl, hb10⟩
      have hz10 := hb10.size
      have HA10 : Hid (∀ k, k < wd.heap.size → ¬ (w3.heap.size ≤ k ∧ k < w4.heap.size) → w10.heap[k]? = wd.heap[k]?) := hide (fun k h1 h2 => (hb10.block k (by omega)).trans (HA9.out k h1 h2))
      have HB10 := hide (bnext HB9.out hb10)
      have HMK := hide (HMD.out w10 (fun k h1 h2 => HA10.out k (by omega) (by omega)) (by omega))
      clear hb10 HEQ HF9 HG9
      go_wp2_with fail
      refine HMK.out.mono ?_
      rintro e w11 ⟨m, rfl, hm, hmd, hz11, hheld⟩
      have HHE := hide hheld
      have HA11 : Hid (∀ k, k < wd.heap.size → ¬ (w3.heap.size ≤ k ∧ k < w4.heap.size) → ¬ (wc.heap.size ≤ k ∧ k < wd.heap.size) → w11.heap[k]? = wd.heap[k]?) := hide (fun k h1 h2 h3 => (hmd.block k (by omega) h3).trans (HA10.out k h1 h2))
      have HB11 : Hid (Below w.heap.size w w11) := hide (hmd.below HB10.out (by omega))
      clear hmd hheld HMK
      go_wp2_with fail
      refine HHE.out.mono ?_
      rintro e w12 ⟨rfl, hb12⟩
      have hz12 := hb12.size
      have HA12 : Hid (∀ k, k < wd.heap.size → ¬ (w3.heap.size ≤ k ∧ k < w4.heap.size) → ¬ (wc.heap.size ≤ k ∧ k < wd.heap.size) → w12.heap[k]? = wd.heap[k]?) := hide (fun k h1 h2 h3 => (hb12.block k (by omega)).trans (HA11.out k h1 h2 h3))
      have HB12 := hide (bnext HB11.out hb12)
      have hm0 : ¬ ((m : Int) < 0) := by omega
      have hmm : ((m : Int) != (m : Int)) = false := by simp
      clear hb12 HHE
      obtain ⟨⟨e0, e1⟩, _, _⟩ := HFA.out w12 HA12.out
      go_wp2_with fail
      refine (toFunc_any v a n c xs 0 w.heap.size _ (ha.out.keep HB12.out) hx hlen hnn (by omega)).mono ?_
      rintro e w13 ⟨a13, c13, rfl, hb13, hi13, ht13⟩
      have HI13 := hide hi13
      have hz13 := hb13.size
      have HA13 : Hid (∀ k, k < wd.heap.size → ¬ (w3.heap.size ≤ k ∧ k < w4.heap.size) → ¬ (wc.heap.size ≤ k ∧ k < wd.heap.size) → w13.heap[k]? = wd.heap[k]?) := hide (fun k h1 h2 h3 => (hb13.block k (by omega)).trans (HA12.out k h1 h2 h3))
      have HB13 := hide (bnext HB12.out hb13)
      clear hb13 hi13 ht13 e0 e1
      go_wp2_with fail
      refine (HIA.out a13 c13 w12.heap.size w13.heap.size w13 HI13.out (Nat.le_refl _) (hO.out.keep HB13.out hO.out.1) (hT.out.keep HB13.out hT.out.1) (hZ.out.of_block (HB13.out.block _ (World.block_lt_of_cell? w _ (hZ.out 0 (by decide)))))).mono ?_
      rintro e w14 ⟨G2, rfl, hb14, hf14, _⟩
      obtain ⟨o1, l1, j1, rfl⟩ := hf14.form
      have hz14 := hb14.size
      have HB14 := hide (bnext HB13.out hb14)
      have hfe := (HFA.out w14 (fun k h1 h2 h3 => (hb14.block k (by omega)).trans (HA13.out k h1 h2 h3))).2.2
      have HEQ := hide (eqSetA_yes lst _ _ w13.heap.size w14.heap.size w2.heap.size w3.heap.size w14 hf14 hfe (by omega) (by omega))
      clear hb14 hf14 hfe
      go_wp2_with fail
      refine HEQ.out.mono ?_
      rintro e w15 ⟨rfl, hb15⟩
      have HB15 := hide (bnext HB14.out hb15)
      clear hb15 HEQ
      go_wp2_with fail
      go_ret
      exact ⟨rfl, HB15.out⟩
end Go.Proofs.YtjfcbjomfbfoiaaGreatDoor
