import Derived.Test.YtdcdgopblbmgoaaDoorO3b
import Derived.Deep.DrawnRows
import Derived.Test.YtdcdgopblbmgoaaDoorCards
import Derived.Test.YtdcdgopblbmgoaaDoorTie
import Derived.Test.YtdcdgopblbmgoaaDoorRead
import Derived.ProofKit
import Derived.OpenShut
import Derived.OpenVars
import Derived.LaidMore
import Derived.Deep.DeepHandedRow
import Derived.Lib.LaidTab
namespace Go.Proofs.YtdcdgopblbmgoaaDoor
open Go.RowKit
attribute [local go_sem ↓] Go.wp_at_zero Go.wp_at_succ

set_option maxRecDepth 100000 in
set_option maxHeartbeats 4000000 in
theorem lawRun_any (v : Int) (a : Option Addr) (n c : Nat) (aa : Option Addr) (na ca : Nat) (hA : Option Addr) (nh chh : Nat) (fuel : Int) (xs : List Blk) (args heap : List Int) (w : World) (ha : Hid (BlksAt w 0 w.heap.size a xs)) (hx : Hid (n = xs.length)) (hn : n ≤ 9223372036854775807) (hs : Hid (LenOk xs))
    (hargs : Hid (IntsAt w 0 w.heap.size aa args)) (hna : Hid (na = args.length)) (hna2 : na ≤ 9223372036854775807) (hheap : Hid (IntsAt w 0 w.heap.size hA heap)) (hnh : Hid (nh = heap.length)) (hnh2 : nh ≤ 9223372036854775807) (hO : Hid (OpTab w)) (hT : Hid (TerTab w)) :
    Calls Tryd.prog 5 #[.agg #[.int .i64 v, .slice a n c], .slice aa na ca, .slice hA nh chh, .int .i64 fuel] w fun e w' => e = .returned (.bool true) ∧ Below w.heap.size w w' := by
  by_cases hn1 : 1048576 < na
  · go_enter Tryd.func5, Tryd.ntmps5
    go_wp2
    go_ret
    exact ⟨rfl, balloc (Below.refl _ _) _⟩
  by_cases hn2 : 1048576 < nh
  · go_enter Tryd.func5, Tryd.ntmps5
    go_wp2
    go_ret
    exact ⟨rfl, balloc (Below.refl _ _) _⟩
  by_cases hbig : (1048576 : Int) < (n + blksTot xs : Nat)
  · have hz := szR_neg hbig
    go_enter Tryd.func5, Tryd.ntmps5
    go_wp2_with (go_at_call 10; refine (szFunc_any _ _ _ _ _ xs 0 w.heap.size _ (ha.out.keep (balloc (Below.refl _ _) _)) hx hn hs (by omega) (by omega) (by simp)).mono ?_; rintro e w1 ⟨rfl, hb1⟩)
    go_ret
    exact ⟨rfl, bnext (balloc (Below.refl _ _) _) hb1⟩
  · have hz : szR 1048576 (n + blksTot xs) = 1048576 - (n + blksTot xs : Nat) := szR_pos (by omega)
    have hnn : n ≤ 1048576 := by omega
    have htot : Hid (xs.length + blksTot xs ≤ 1048576) := by have := hx.out; show _ ≤ _; omega
    have hlen := hide (len_of_tot htot.out)
    have hnon : (0 : Int) ≤ 1048576 - (n + blksTot xs : Nat) := by omega
    generalize hN : n + blksTot xs = N at *
    have HN := hide hN
    clear hN hbig
    have hna1 : na ≤ 1048576 := by omega
    have hnh1 : nh ≤ 1048576 := by omega
    go_enter Tryd.func5, Tryd.ntmps5
    go_wp2_with fail
    refine (szFunc_any _ _ _ _ _ xs 0 w.heap.size _ ?q1 hx hn hs (by omega) (by omega) (by simp)).mono ?_
    case q1 => exact ha.out.keep (balloc (Below.refl _ _) _)
    rintro e w1 ⟨rfl, hb1⟩
    rw [unhide HN, hz]
    obtain ⟨hc1, hf1⟩ := bcell hb1
    have k0 : w1.cell? ⟨w.heap.size, 0, none⟩ = some (.int .i64 v) := by rw [hc1 _ _ (by simp)]; simp
    have k1 : w1.cell? ⟨w.heap.size, 1, none⟩ = some (.slice a n c) := by rw [hc1 _ _ (by simp)]; simp
    have B1 := bnext (balloc (Below.refl w.heap.size w) _) hb1
    have hz1 := hb1.size
    simp at hz1
    have HB1 := hide B1
    clear hc1 hf1 hb1 B1 hz
    have F1 : FB w1 w.heap.size v a n c := ⟨k0, k1⟩
    clear k0 k1
    have k0 := F1.1
    have k1 := F1.2
    go_wp2_with fail
    refine (toFunc_any v a n c xs 0 w.heap.size _ (hide (ha.out.keep HB1.out)) hx hlen hnn (by omega)).mono ?_
    rintro e w2 ⟨a2, c2, rfl, hb2, hi2, -⟩
    have F2 := FB.keep F1 (hb2.block _ (by omega))
    have s2 := hb2.size
    have HB2 := hide (bnext HB1.out hb2)
    have HI2 := hide hi2
    clear k0 k1 F1 hb2 hi2
    have k0 := F2.1
    have k1 := F2.2
    go_wp2_with fail
    refine (toInts_any aa na ca args 0 w.heap.size _ (hide (hargs.out.keep HB2.out)) hna hna1 (by omega)).mono ?_
    rintro e w3 ⟨c3, rfl, hb3, hi3, -⟩
    have F3 := FB.keep F2 (hb3.block _ (by omega))
    have s3 := hb3.size
    have HB3 := hide (bnext HB2.out hb3)
    have HI3 := hide hi3
    have HI2' := hide (HI2.out.keep hb3)
    clear k0 k1 F2 hb3 hi3 HI2
    have k0 := F3.1
    have k1 := F3.2
    go_wp2_with fail
    refine (toInts_any hA nh chh heap 0 w.heap.size _ (hide (hheap.out.keep HB3.out)) hnh hnh1 (by omega)).mono ?_
    rintro e w4 ⟨c4, rfl, hb4, hi4, -⟩
    have F4 := FB.keep F3 (hb4.block _ (by omega))
    have s4 := hb4.size
    have HB4 := hide (bnext HB3.out hb4)
    have HI4 := hide (hi4.mono (L' := w1.heap.size) (by omega) (Nat.le_refl _))
    have HI3' := hide ((HI3.out.keep hb4).mono (L' := w1.heap.size) (B' := w4.heap.size) (by omega) (by omega))
    have HI2'' := hide ((HI2'.out.keep (hb4.mono (by omega))).mono (L' := w1.heap.size) (B' := w4.heap.size) (by omega) (by omega))
    clear k0 k1 F3 hb4 hi4 HI3 HI2'
    have k0 := F4.1
    have k1 := F4.2
    go_wp2_with fail
    refine (runS_any v a2 n c2 _ na c3 _ nh c4 fuel xs args heap w1.heap.size w4.heap.size _ HI2'' hx htot (Nat.le_refl _) HI3' hna HI4 hnh).mono ?_
    generalize hOO : outR ⟨v, xs⟩ args heap fuel = OO
    rintro e w5 ⟨val0, rfl, hb5, ta0, nt, ct0, ha0, nhh, ch0, rfl, hnt, hnhh, hit0, hih0⟩
    have F5 := FB.keep F4 (hb5.block _ (by omega))
    have s5 := hb5.size
    have HB5 := hide (bnext HB4.out hb5)
    have HT0 := hide hit0
    have HH0 := hide hih0
    have HNT := hide hnt
    have HNH := hide hnhh
    have HOO := hide hOO
    clear k0 k1 F4 hb5 hit0 hih0 HI4 HI3' HI2'' hnt hnhh hOO
    have k0 := F5.1
    have k1 := F5.2
    generalize hOC : OO.code = oc at *
    generalize hOV : OO.value = ov at *
    have HOC := hide hOC
    have HOV := hide hOV
    clear hOC hOV
    have F5a := fun x => FB.keep F5 ((balloc (Below.refl w5.heap.size w5) x).block _ (by omega))
    have k0a := fun x => (F5a x).1
    have k1a := fun x => (F5a x).2
    generalize hOS : (OO.steps : Int) = os at *
    have HOS := hide hOS
    clear hOS
    go_wp2_with fail
    refine (toFunc_any v a n c xs 0 w.heap.size _ (hide (ha.out.keep (balloc HB5.out _))) hx hlen hnn (by simp; omega)).mono ?_
    rintro e w6 ⟨a6, c6, rfl, hb6, hi6, ht6⟩
    have s6 := hb6.size
    simp at s6
    have F6 := FB.keep (F5a _) (hb6.block _ (by simp; omega))
    have X6 := OX.keep (OX.new w5 oc ov os ta0 ha0 nt ct0 nhh ch0 40) (hb6.block w5.heap.size (by simp))
    have HB6 := hide (bnext (balloc HB5.out _) hb6)
    have h56 : Below w5.heap.size w5 w6 := bnext (balloc (Below.refl w5.heap.size w5) _) hb6
    have HT6 := hide (HT0.out.keep h56)
    have HH6 := hide (HH0.out.keep h56)
    have HI6 := hide (hi6.mono (L' := w5.heap.size + 1) (by simp) (Nat.le_refl _))
    have HW6 := hide (ht6.mono (L' := w5.heap.size + 1) (by simp))
    clear k0a k1a F5a k0 k1 F5 hb6 hi6 ht6 h56 HT0 HH0
    have F6a := fun x => FB.keep F6 ((balloc (Below.refl w6.heap.size w6) x).block _ (by omega))
    go_wp2_with fail
    refine (toInts_any aa na ca args 0 w.heap.size _ (hide (hargs.out.keep (balloc HB6.out _))) hna hna1 (by simp; omega)).mono ?_
    rintro e w7 ⟨c7, rfl, hb7, hi7, ht7⟩
    have s7 := hb7.size
    simp at s7
    have h67 : Below w6.heap.size w6 w7 := bnext (balloc (Below.refl w6.heap.size w6) _) hb7
    have G7 := FB.keep (FB.new w6 v a6 n c6 29) (hb7.block w6.heap.size (by simp))
    have F7 := FB.keep F6 (h67.block _ (by omega))
    have X7 := OX.keep X6 (h67.block _ (by omega))
    have HB7 := hide (bnext HB6.out h67)
    have HT7 := hide (HT6.out.keep (h67.mono (by omega)))
    have HH7 := hide (HH6.out.keep (h67.mono (by omega)))
    have HI7 := hide ((HI6.out.keep h67))
    have HA7 := hide (hi7)
    simp only [World.size_alloc] at HA7 ht7
    clear F6a F6 X6 hb7 hi7 HI6 HT6 HH6
    have HW7 := hide ht7
    have HV7 := hide h67
    clear ht7 h67
    go_wp2_with fail
    refine (toInts_any hA nh chh heap 0 w.heap.size _ (hide (hheap.out.keep HB7.out)) hnh hnh1 (by omega)).mono ?_
    rintro e w8 ⟨c8, rfl, hb8, hi8, ht8⟩
    have s8 := hb8.size
    have G8 := FB.keep G7 (hb8.block _ (by omega))
    have F8 := FB.keep F7 (hb8.block _ (by omega))
    have X8 := OX.keep X7 (hb8.block _ (by omega))
    have HB8 := hide (bnext HB7.out hb8)
    have HT8 := hide (HT7.out.keep (hb8.mono (by omega)))
    have HH8 := hide (HH7.out.keep (hb8.mono (by omega)))
    have HI8 := hide (HI7.out.keep (hb8.mono (by omega)))
    have HA8 := hide (HA7.out.keep (hb8.mono (by omega)))
    have HC8 := hide hi8
    have HW8 := hide ht8
    have HV8 := hide hb8
    clear G7 F7 X7 hb8 hi8 ht8 HT7 HH7 HI7 HA7
    have g0 := G8.1
    have g1 := G8.2
    have k0 := F8.1
    have k1 := F8.2
    go_wp2_with fail
    refine (runI_any v a6 n c6 _ na c7 _ nh c8 fuel xs args heap (w5.heap.size + 1) w8.heap.size _ (hide (HI8.out.mono (Nat.le_refl _) (by omega))) hx htot (Nat.le_refl _) (hide (HA8.out.mono (by omega) (by omega))) hna (hide (HC8.out.mono (by omega) (Nat.le_refl _))) hnh (hide (hO.out.keep HB8.out)) (hide (hT.out.keep HB8.out))).mono ?_
    rw [HOO.out]
    rintro e w9 ⟨val9, rfl, hb9, ta9, nt9, ct9, ha9, nh9, ch9, rfl, hnt9, hnh9, hit9, hih9, ft9, fh9, dj9⟩
    rw [HOC.out, HOV.out, HOS.out]
    obtain rfl : nt9 = nt := hnt9.trans HNT.out.symm
    obtain rfl : nh9 = nhh := hnh9.trans HNH.out.symm
    have hl9 := outR_len ⟨v, xs⟩ args heap fuel
    rw [HOO.out] at hl9
    have hntl : nt9 ≤ 60000 := by have := HNT.out; omega
    have hnhl : nh9 ≤ 32 := by have := HNH.out; omega
    have s9 := hb9.size
    have G9 := FB.keep G8 (hb9.block _ (by omega))
    have F9 := FB.keep F8 (hb9.block _ (by omega))
    have X9 := OX.keep X8 (hb9.block _ (by omega))
    have HB9 := hide (bnext HB8.out hb9)
    have HT9 := hide (HT8.out.keep (hb9.mono (by omega)))
    have HH9 := hide (HH8.out.keep (hb9.mono (by omega)))
    have HI9 := hide (HI8.out.keep (hb9.mono (by omega)))
    have HA9 := hide (HA8.out.keep (hb9.mono (by omega)))
    have HC9 := hide (HC8.out.keep hb9)
    have HP9 := hide hit9
    have HQ9 := hide hih9
    have FT9 := hide ft9
    have FH9 := hide fh9
    have DJ9 := hide dj9
    have HV9 := hide hb9
    clear G8 F8 X8 hb9 HT8 HH8 HI8 HA8 HC8 hit9 hih9 ft9 fh9 dj9 g0 g1 k0 k1 hnt9 hnh9 hl9
    have hLS : ∀ x, x = Obj.cells #[.int .i64 oc, .int .i64 ov, .int .i64 os, .slice ta9 nt9 ct9, .slice ha9 nh9 ch9] 40 → LSC w v a n c a6 c6 oc ov os ta0 nt9 ct0 ha0 nh9 ch0 ta9 ct9 ha9 ch9 OO.tr OO.hp w4.heap.size w5.heap.size w6.heap.size w8.heap.size w9.heap.size (w9.alloc x) := fun x hx => by
      have b9 := balloc (Below.refl w9.heap.size w9) x
      refine ⟨balloc HB9.out x, F9.keep (b9.block _ (by omega)), G9.keep (b9.block _ (by omega)), X9.keep (b9.block _ (by omega)), by rw [hx]; exact OX.new _ _ _ _ _ _ _ _ _ _ _, HT9.out.keep (b9.mono (by omega)), HH9.out.keep (b9.mono (by omega)), HP9.out.keep b9, HQ9.out.keep b9, fun b o e hb i => (World.frozen?_of_block (b9.block b hb.2)).trans (FT9.out b o e i), fun b o e hb i => (World.frozen?_of_block (b9.block b hb.2)).trans (FH9.out b o e i), by simp, by omega⟩
    have HLS := hide hLS
    have X9a := fun x => OX.keep X9 ((balloc (Below.refl w9.heap.size w9) x).block _ (by omega))
    have x0 := fun x => (X9a x).1
    have x1 := fun x => (X9a x).2.1
    have x2 := fun x => (X9a x).2.2.1
    have x3 := fun x => (X9a x).2.2.2.1
    have x4 := fun x => (X9a x).2.2.2.2
    have TW6 := hide (ThawB.keepS (B := w6.heap.size) (ThawB.of HW6.out) (Same.of_below (((HV7.out.trans (HV8.out.mono (by omega))).trans (HV9.out.mono (by omega))))))
    have TW7 := hide (ThawB.keepS (B := w7.heap.size) (ThawB.of HW7.out) (Same.of_below (((HV8.out.trans (HV9.out.mono (by omega)))))))
    have TW8 := hide (ThawB.keepS (B := w8.heap.size) (ThawB.of HW8.out) (Same.of_below HV9.out))
    clear hLS F9 G9 X9 HT9 HH9 HP9 HQ9 FT9 FH9 HW6 HW7 HW8 HV7 HV8 X9a
    go_wp2_with fail
    refine (eqOutcome_yes oc ov os ta9 ta0 ha9 ha0 nt9 ct9 ct0 nh9 ch9 ch0 OO.tr OO.hp w8.heap.size w9.heap.size w4.heap.size w5.heap.size _ (hide (HLS.out _ rfl).p) (hide (HLS.out _ rfl).t0) (hide (HLS.out _ rfl).q) (hide (HLS.out _ rfl).h0) HNT HNH (by omega) (by omega) (by simp) (by simp; omega)).mono ?_
    rintro e w10 ⟨rfl, hb10⟩
    have h10 := (HLS.out _ rfl).next hb10
    have HV10 := hide (bnext (balloc (Below.refl w9.heap.size w9) _) hb10)
    have s10 := hb10.size
    simp at s10
    have HL10 := hide h10
    have g0 := h10.g.1
    have g1 := h10.g.2
    have f0 := h10.f.1
    have f1 := h10.f.2
    clear hb10 HLS x0 x1 x2 x3 x4 h10
    go_wp2_with fail
    go_region_held3 (fun w' => w'.cell? ⟨w.heap.size, 0, none⟩ = some (.int .i64 v) ∧ w'.cell? ⟨w.heap.size, 1, none⟩ = some (.slice a n c) ∧ w'.cell? ⟨w6.heap.size, 0, none⟩ = some (.int .i64 v) ∧ w'.cell? ⟨w6.heap.size, 1, none⟩ = some (.slice a6 n c6)) (go_keep) (first | (go_at_call 12; refine (toFunc_any v a n c xs 0 w.heap.size _ (hide (ha.out.keep HL10.out.below.drew)) hx hlen hnn (by show w.heap.size ≤ w10.heap.size; omega)).mono ?_; rintro e w11 ⟨a11, c11, rfl, hb11, hi11, -⟩; have v11 := (Below.refl w10.heap.size w10).drew.trans hb11; have h11 := HL10.out.next v11; have p0 := h11.g.1; have p1 := h11.g.2; have q0 := h11.f.1; have q1 := h11.f.2; have HL11 := hide h11; have HV11 := hide v11; have HI11 := hide hi11; have s11 := v11.size; clear hb11 hi11 h11 v11) | (go_at_call 14; refine (eqFunc_yes v a6 a11 n c6 c11 xs (w5.heap.size + 1) w6.heap.size w10.heap.size w11.heap.size _ (hide (HI9.out.keep ((HV10.out.mono (by omega)).trans (HV11.out.mono (by omega))))) (hide HI11.out) hx hlen hnn (by omega) (Nat.le_refl _)).mono ?_; rintro e w12 ⟨rfl, hb12⟩; have h12 := HL11.out.next hb12; have g0 := h12.g.1; have g1 := h12.g.2; have f0 := h12.f.1; have f1 := h12.f.2; have HL12 := hide h12; have HV12 := hide ((HV10.out.trans (HV11.out.mono (by omega))).trans (hb12.mono (by omega))); have s12 := hb12.size; clear hb12 h12))
    clear p0 p1 q0 q1 HI11 HV11 HV10 HL10 HL11
    go_wp2_with fail
    refine (toInts_any aa na ca args 0 w.heap.size _ (hide (hargs.out.keep HL12.out.below)) hna hna1 (by omega)).mono ?_
    rintro e w13 ⟨c13, rfl, hb13, hi13, -⟩
    have h13 := HL12.out.next hb13
    have s13 := hb13.size
    have HV13 := hide (HV12.out.trans (hb13.mono (by omega)))
    have HL13 := hide h13
    have HI13 := hide hi13
    clear hb13 hi13 h13 HL12 HV12 g0 g1 f0 f1
    go_wp2_with fail
    refine (eqInts_yes _ _ na c7 c13 args (w6.heap.size + 1) w7.heap.size w12.heap.size w13.heap.size _ (hide (HA9.out.keep (HV13.out.mono (by omega)))) HI13 hna hna1 (by omega) (Nat.le_refl _)).mono ?_
    rintro e w14 ⟨rfl, hb14⟩
    have h14 := HL13.out.next hb14
    have s14 := hb14.size
    have HV14 := hide (HV13.out.trans (hb14.mono (by omega)))
    have HL14 := hide h14
    clear hb14 h14 HL13 HV13 HI13
    go_wp2_with fail
    refine (toInts_any hA nh chh heap 0 w.heap.size _ (hide (hheap.out.keep HL14.out.below)) hnh hnh1 (by omega)).mono ?_
    rintro e w15 ⟨c15, rfl, hb15, hi15, -⟩
    have h15 := HL14.out.next hb15
    have s15 := hb15.size
    have HV15 := hide (HV14.out.trans (hb15.mono (by omega)))
    have HL15 := hide h15
    have HI15 := hide hi15
    clear hb15 hi15 h15 HL14 HV14
    go_wp2_with fail
    refine (eqInts_yes _ _ nh c8 c15 heap w7.heap.size w8.heap.size w14.heap.size w15.heap.size _ (hide (HC9.out.keep (HV15.out.mono (by omega)))) HI15 hnh hnh1 (by omega) (Nat.le_refl _)).mono ?_
    rintro e w16 ⟨rfl, hb16⟩
    have h16 := HL15.out.next hb16
    have s16 := hb16.size
    have HV16 := hide (HV15.out.trans (hb16.mono (by omega)))
    have HL16 := hide h16
    have g0 := h16.g.1
    have g1 := h16.g.2
    clear hb16 h16 HL15 HV15 HI15
    have hsc : shsCnt (xs.map Blk.sh) ≤ 10000000 := by have := shsCnt_le xs; have := htot.out; omega
    go_wp2_with fail
    refine (markFunc_any v a6 n c6 1 xs (w5.heap.size + 1) w6.heap.size _ (hide (HI9.out.keep (HV16.out.mono (by omega)))) hx (hide (TW6.out.keepS (Same.of_below (HV16.out.mono (by omega))))) hlen (by omega) hnn (by omega) (by omega) hsc).mono ?_
    generalize shsCnt (xs.map Blk.sh) = SC at *
    rintro e w17 ⟨rfl, hm17⟩
    have h17 := HL16.out.keepG (W' := w17) (fun b hb hc => hm17.block b hb (by omega)) hm17.size (hm17.below HL16.out.below (by omega))
    have s17 := hm17.size
    have HA17 := hide ((HA9.out.keep (HV16.out.mono (by omega))).keepS (w' := w17) (fun q q1 q2 => hm17.block q (by omega) (by omega)))
    have HC17 := hide ((HC9.out.keep (HV16.out.mono (by omega))).keepS (w' := w17) (fun q q1 q2 => hm17.block q (by omega) (by omega)))
    have T717 := hide ((TW7.out.keepS (Same.of_below (HV16.out.mono (by omega)))).keepS (w' := w17) (fun q q1 q2 => hm17.block q (by omega) (by omega)))
    have T817 := hide ((TW8.out.keepS (Same.of_below (HV16.out.mono (by omega)))).keepS (w' := w17) (fun q q1 q2 => hm17.block q (by omega) (by omega)))
    have HL17 := hide h17
    clear h17 hm17 HL16 HV16 HI9 HA9 HC9 TW6 TW7 TW8 g0 g1
    go_wp2_with fail
    refine (markInts_any _ na c7 (1 + SC) args (w6.heap.size + 1) w7.heap.size _ HA17 hna T717 hna1 (by omega) (by omega)).mono ?_
    rintro e w18 ⟨rfl, hi18, -⟩
    have h18 := HL17.out.keepG (W' := w18) (fun b hb hc => hi18.block b (by omega)) (by rw [hi18.size]; exact Nat.le_refl _) ((Mod.of_iw hi18).below HL17.out.below (by omega))
    have s18 := hi18.size
    have HC18 := hide (HC17.out.keepS (w' := w18) (fun q q1 q2 => hi18.block q (by omega)))
    have T818 := hide (T817.out.keepS (w' := w18) (fun q q1 q2 => hi18.block q (by omega)))
    have HL18 := hide h18
    clear h18 hi18 HL17 HA17 HC17 T717 T817
    go_wp2_with fail
    refine (markInts_any _ nh c8 (1 + SC + na) heap w7.heap.size w8.heap.size _ HC18 hnh T818 hnh1 (by omega) (by omega)).mono ?_
    rintro e w19 ⟨rfl, hi19, -⟩
    have h19 := HL18.out.keepG (W' := w19) (fun b hb hc => hi19.block b (by omega)) (by rw [hi19.size]; exact Nat.le_refl _) ((Mod.of_iw hi19).below HL18.out.below (by omega))
    have s19 := hi19.size
    have HL19 := hide h19
    obtain ⟨y0, y1, y2, y3, y4⟩ := h19.y
    obtain ⟨x0, x1, x2, x3, x4⟩ := h19.x
    clear h19 hi19 HL18 HC18 T818
    have hkp : ¬ (1 + (SC : Int) + na + nh < 0) := by omega
    go_wp2_with fail
    refine (eqOutcome_yes oc ov os ta9 ta0 ha9 ha0 nt9 ct9 ct0 nh9 ch9 ch0 OO.tr OO.hp w8.heap.size w9.heap.size w4.heap.size w5.heap.size _ (hide HL19.out.p) (hide HL19.out.t0) (hide HL19.out.q) (hide HL19.out.h0) HNT HNH (by omega) (by omega) (by omega) (by omega)).mono ?_
    rintro e w20 ⟨rfl, hb20⟩
    have h20 := HL19.out.next hb20
    have s20 := hb20.size
    have HL20 := hide h20
    clear y0 y1 y2 y3 y4 x0 x1 x2 x3 x4
    obtain ⟨y0, y1, y2, y3, y4⟩ := h20.y
    clear hb20 h20 HL19
    go_wp2_with fail
    refine (markOutcome_any oc ov os 1 ta9 ha9 nt9 ct9 nh9 ch9 OO.tr OO.hp w8.heap.size w9.heap.size _ (hide HL20.out.p) (hide HL20.out.q) HNT HNH (by omega) (by omega) (by omega) (hide HL20.out.ft) (hide HL20.out.fh) DJ9 (by omega) (by omega)).mono ?_
    rintro e w21 ⟨rfl, hm21, hp21, hq21⟩
    have s21 := hm21.size
    have F21 := HL20.out.f.keep (hm21.block _ (by omega) (by omega))
    have X21 := HL20.out.x.keep (hm21.block _ (by omega) (by omega))
    have Y21 := HL20.out.y.keep (hm21.block _ (by omega) (by omega))
    have HT21 := hide (HL20.out.t0.keepS (w' := w21) (fun q q1 q2 => hm21.block q (by omega) (by omega)))
    have HH21 := hide (HL20.out.h0.keepS (w' := w21) (fun q q1 q2 => hm21.block q (by omega) (by omega)))
    have HB21 := hide (hm21.below HL20.out.below (by omega))
    have HP21 := hide hp21
    have HQ21 := hide hq21
    clear y0 y1 y2 y3 y4 hm21 hp21 hq21 HL20 DJ9
    have y0 := Y21.1
    have y1 := Y21.2.1
    have y2 := Y21.2.2.1
    have y3 := Y21.2.2.2.1
    have y4 := Y21.2.2.2.2
    go_wp2_with fail
    refine (heldOutcome_any oc ov os 1 ta9 ha9 nt9 ct9 nh9 ch9 w8.heap.size w9.heap.size _ HP21 HQ21 (by omega) (by omega) (by omega) (by omega) (by omega)).mono ?_
    rintro e w22 ⟨rfl, hb22⟩
    have s22 := hb22.size
    have F22 := F21.keep (hb22.block _ (by omega))
    have X22 := X21.keep (hb22.block _ (by omega))
    have HT22 := hide (HT21.out.keep (hb22.mono (by omega)))
    have HH22 := hide (HH21.out.keep (hb22.mono (by omega)))
    have HB22 := hide (bnext HB21.out hb22)
    clear y0 y1 y2 y3 y4 hb22 F21 X21 Y21 HT21 HH21 HP21 HQ21 HB21
    have hqp : ¬ (1 + (nt9 : Int) + nh9 < 0) := by omega
    have hqe : (1 + (nt9 : Int) + nh9 != 1 + (nt9 : Int) + nh9) = false := by simp
    have f0 := F22.1
    have f1 := F22.2
    go_wp2_with fail
    refine (toFunc_any v a n c xs 0 w.heap.size _ (hide (ha.out.keep HB22.out)) hx hlen hnn (by omega)).mono ?_
    rintro e w23 ⟨a23, c23, rfl, hb23, hi23, -⟩
    have s23 := hb23.size
    have X23 := X22.keep (hb23.block _ (by omega))
    have HT23 := hide (HT22.out.keep (hb23.mono (by omega)))
    have HH23 := hide (HH22.out.keep (hb23.mono (by omega)))
    have HB23 := hide (bnext HB22.out hb23)
    have HI23 := hide hi23
    clear hb23 hi23 F22 X22 HT22 HH22 HB22 f0 f1
    go_wp2_with fail
    refine (toInts_any aa na ca args 0 w.heap.size _ (hide (hargs.out.keep HB23.out)) hna hna1 (by omega)).mono ?_
    rintro e w24 ⟨c24, rfl, hb24, hi24, -⟩
    have s24 := hb24.size
    have X24 := X23.keep (hb24.block _ (by omega))
    have HT24 := hide (HT23.out.keep (hb24.mono (by omega)))
    have HH24 := hide (HH23.out.keep (hb24.mono (by omega)))
    have HB24 := hide (bnext HB23.out hb24)
    have HI24 := hide (HI23.out.keep hb24)
    have HA24 := hide hi24
    clear hb24 hi24 X23 HT23 HH23 HB23 HI23
    go_wp2_with fail
    refine (toInts_any hA nh chh heap 0 w.heap.size _ (hide (hheap.out.keep HB24.out)) hnh hnh1 (by omega)).mono ?_
    rintro e w25 ⟨c25, rfl, hb25, hi25, -⟩
    have s25 := hb25.size
    have X25 := X24.keep (hb25.block _ (by omega))
    have HT25 := hide (HT24.out.keep (hb25.mono (by omega)))
    have HH25 := hide (HH24.out.keep (hb25.mono (by omega)))
    have HB25 := hide (bnext HB24.out hb25)
    have HI25 := hide ((HI24.out.keep (hb25.mono (by omega))).mono (L' := w22.heap.size) (B' := w25.heap.size) (by omega) (by omega))
    have HA25 := hide ((HA24.out.keep hb25).mono (L' := w22.heap.size) (B' := w25.heap.size) (by omega) (by omega))
    have HC25 := hide (hi25.mono (L' := w22.heap.size) (B' := w25.heap.size) (by omega) (by omega))
    clear hb25 hi25 X24 HT24 HH24 HB24 HI24 HA24
    go_wp2_with fail
    refine (runI_any v a23 n c23 _ na c24 _ nh c25 fuel xs args heap w22.heap.size w25.heap.size _ HI25 hx htot (Nat.le_refl _) HA25 hna HC25 hnh (hide (hO.out.keep HB25.out)) (hide (hT.out.keep HB25.out))).mono ?_
    rw [HOO.out]
    rintro e w26 ⟨val26, rfl, hb26, ta26, nt26, ct26, ha26, nh26, ch26, rfl, hnt26, hnh26, hit26, hih26, -, -, -⟩
    rw [HOC.out, HOV.out, HOS.out]
    obtain rfl : nt26 = nt9 := hnt26.trans HNT.out.symm
    obtain rfl : nh26 = nh9 := hnh26.trans HNH.out.symm
    have s26 := hb26.size
    have X26 := X25.keep (hb26.block _ (by omega))
    have b26 := fun x => balloc (Below.refl w26.heap.size w26) x
    have X26a := fun x => X26.keep ((b26 x).block _ (by omega))
    have HT26 := fun x => hide ((HT25.out.keep (hb26.mono (by omega))).keep ((b26 x).mono (by omega)))
    have HH26 := fun x => hide ((HH25.out.keep (hb26.mono (by omega))).keep ((b26 x).mono (by omega)))
    have HP26 := fun x => hide (hit26.keep (b26 x))
    have HQ26 := fun x => hide (hih26.keep (b26 x))
    have HB26 := hide (bnext HB25.out hb26)
    have x0 := fun x => (X26a x).1
    have x1 := fun x => (X26a x).2.1
    have x2 := fun x => (X26a x).2.2.1
    have x3 := fun x => (X26a x).2.2.2.1
    have x4 := fun x => (X26a x).2.2.2.2
    clear hb26 X25 HT25 HH25 HB25 HI25 HA25 HC25 hit26 hih26 hnt26 hnh26 X26a X26
    go_wp2_with fail
    refine (eqOutcome_yes oc ov os ta26 ta0 ha26 ha0 nt26 ct26 ct0 nh26 ch26 ch0 OO.tr OO.hp w25.heap.size w26.heap.size w4.heap.size w5.heap.size _ (HP26 _) (HT26 _) (HQ26 _) (HH26 _) HNT HNH (by omega) (by omega) (by simp) (by simp; omega)).mono ?_
    rintro e w27 ⟨rfl, hb27⟩
    go_wp2
    go_ret
    exact ⟨rfl, bnext (balloc HB26.out _) hb27⟩
end Go.Proofs.YtdcdgopblbmgoaaDoor

namespace Go.Proofs.YtdcdgopblbmgoaaDoor
open Go.ChangeShapes Go.WideShapes Go.ChangeAt Go.RowKit Go.Joins

theorem own : ownKnob Tryd.prog.godebug = none := by kernel_rfl
theorem gOps : Tryd.prog.globalNamed "loop.example/s0031/impl.opForms" = some 0 := by kernel_rfl
theorem gTers : Tryd.prog.globalNamed "loop.example/s0031/impl.termForms" = some 1 := by kernel_rfl
theorem tOps : (Tryd.prog.globals[0]?).map (·.type) = some 148 := by kernel_rfl
theorem tTers : (Tryd.prog.globals[1]?).map (·.type) = some 157 := by kernel_rfl
theorem cells_op : Tryd.prog.cellsOf 147 = 5 := by kernel_rfl
theorem cells_ter : Tryd.prog.cellsOf 156 = 4 := by kernel_rfl
theorem cells_bool : Tryd.prog.cellsOf 4 = 1 := by kernel_rfl
theorem cells_str : Tryd.prog.cellsOf 9 = 1 := by kernel_rfl

variable {H : Type} {enc : TypeId × Value → H} {w : World} {base : Nat} {spare : Nat → Bool} {held : Bool}

theorem bool_at {n k : Nat} {cs : List Value} {y : DataW H × List MemPlace} {b : Bool} (h : DataW.trod enc Tryd.prog w base spare held n 4 ((cs.drop k).take (Tryd.prog.cellsOf 4)) = some y) (e : y.1 = .lit (.bool b)) : cs[k]? = some (.bool b) := by
  rw [cells_bool] at h
  obtain ⟨z, h1, h2⟩ := DataW.trod_bool Tryd.underlying4 h
  rw [h2] at e
  cases e
  exact take1 h1
theorem str_at {n k : Nat} {cs : List Value} {y : DataW H × List MemPlace} (h : DataW.trod enc Tryd.prog w base spare held n 9 ((cs.drop k).take (Tryd.prog.cellsOf 9)) = some y) : ∃ s, cs[k]? = some (.string s) := by
  rw [cells_str] at h
  obtain ⟨z, h1, _⟩ := DataW.trod_string Tryd.underlying9 h
  exact ⟨z, take1 h1⟩
/-- A field's reading, with its datum. -/
theorem fld_is {P : Program} {fs : Array Field} {xs : List (DataW H × List MemPlace)} {n : Nat} {cs : List Value}
    (hf : ∀ (i : Nat) (f : Field), fs[i]? = some f → DataW.trod enc P w base spare held n f.type ((cs.drop f.offset).take (P.cellsOf f.type)) = xs[i]?) (hlen : xs.length = fs.size) (i : Nat) {f : Field} (hi : fs[i]? = some f) {ds : List (DataW H)} (hd : xs.map (·.1) = ds) {d : DataW H} (he : ds[i]? = some d) :
    ∃ y, DataW.trod enc P w base spare held n f.type ((cs.drop f.offset).take (P.cellsOf f.type)) = some y ∧ y.1 = d := by
  have h1 := hf i f hi
  have h2 : i < xs.length := by rw [hlen]; exact (Array.getElem?_eq_some_iff.1 hi).1
  rw [List.getElem?_eq_getElem h2] at h1
  refine ⟨_, h1, ?_⟩
  have h3 : (xs.map (·.1))[i]? = some d := by rw [hd]; exact he
  rw [List.getElem?_map, List.getElem?_eq_getElem h2] at h3
  simpa using h3
theorem dt {cs : List Value} {k m j : Nat} {v : Value} (h : ((cs.drop k).take m)[j]? = some v) (hj : j < m) : cs[k + j]? = some v := drop_take h hj

theorem op_row {n : Nat} {cs : List Value} {rows : List (DataW H)} {p : List MemPlace} (h : DataW.trod enc Tryd.prog w base spare held n 148 cs = some (.agg rows, p)) (i : Nat) (hi : i < 14) (s : List UInt8) (d a b m : Bool)
    (hr : rows[i]? = some (.agg [.lit (.string s), .lit (.bool d), .lit (.bool a), .lit (.bool b), .lit (.bool m)])) :
    ∃ s, cs[i * 5]? = some (.string s) ∧ cs[i * 5 + 1]? = some (.bool d) ∧ cs[i * 5 + 2]? = some (.bool a) ∧ cs[i * 5 + 3]? = some (.bool b) ∧ cs[i * 5 + 4]? = some (.bool m) := by
  obtain ⟨xs, k, _, hx, _, hlen, hel⟩ := DataW.trod_array Tryd.underlying148 h
  have h1 := hel i hi
  rw [List.getElem?_eq_getElem (by omega), cells_op] at h1
  simp only [Prod.mk.injEq, DataW.agg.injEq] at hx
  have h2 : (xs[i]'(by omega)).1 = .agg [.lit (.string s), .lit (.bool d), .lit (.bool a), .lit (.bool b), .lit (.bool m)] := by
    have : (xs.map (·.1))[i]? = some (.agg [.lit (.string s), .lit (.bool d), .lit (.bool a), .lit (.bool b), .lit (.bool m)]) := by rw [← hx.1]; exact hr
    rw [List.getElem?_map, List.getElem?_eq_getElem (by omega)] at this
    simpa using this
  obtain ⟨ys, k2, _, hy, _, hlen2, hf⟩ := DataW.trod_struct Tryd.underlying147 h1
  rw [hy] at h2
  simp only [DataW.agg.injEq] at h2
  obtain ⟨y0, g0, _⟩ := fld_is hf hlen2 0 rfl h2 rfl
  obtain ⟨y1, g1, e1⟩ := fld_is hf hlen2 1 rfl h2 rfl
  obtain ⟨y2, g2, e2⟩ := fld_is hf hlen2 2 rfl h2 rfl
  obtain ⟨y3, g3, e3⟩ := fld_is hf hlen2 3 rfl h2 rfl
  obtain ⟨y4, g4, e4⟩ := fld_is hf hlen2 4 rfl h2 rfl
  obtain ⟨s, f0⟩ := str_at (k := 0) g0
  exact ⟨s, dt (j := 0) f0 (by decide), dt (bool_at (k := 1) g1 e1) (by decide), dt (bool_at (k := 2) g2 e2) (by decide), dt (bool_at (k := 3) g3 e3) (by decide), dt (bool_at (k := 4) g4 e4) (by decide)⟩

theorem ter_row {n : Nat} {cs : List Value} {rows : List (DataW H)} {p : List MemPlace} (h : DataW.trod enc Tryd.prog w base spare held n 157 cs = some (.agg rows, p)) (i : Nat) (hi : i < 4) (s : List UInt8) (a t o : Bool)
    (hr : rows[i]? = some (.agg [.lit (.string s), .lit (.bool a), .lit (.bool t), .lit (.bool o)])) :
    ∃ s, cs[i * 4]? = some (.string s) ∧ cs[i * 4 + 1]? = some (.bool a) ∧ cs[i * 4 + 2]? = some (.bool t) ∧ cs[i * 4 + 3]? = some (.bool o) := by
  obtain ⟨xs, k, _, hx, _, hlen, hel⟩ := DataW.trod_array Tryd.underlying157 h
  have h1 := hel i hi
  rw [List.getElem?_eq_getElem (by omega), cells_ter] at h1
  simp only [Prod.mk.injEq, DataW.agg.injEq] at hx
  have h2 : (xs[i]'(by omega)).1 = .agg [.lit (.string s), .lit (.bool a), .lit (.bool t), .lit (.bool o)] := by
    have : (xs.map (·.1))[i]? = some (.agg [.lit (.string s), .lit (.bool a), .lit (.bool t), .lit (.bool o)]) := by rw [← hx.1]; exact hr
    rw [List.getElem?_map, List.getElem?_eq_getElem (by omega)] at this
    simpa using this
  obtain ⟨ys, k2, _, hy, _, hlen2, hf⟩ := DataW.trod_struct Tryd.underlying156 h1
  rw [hy] at h2
  simp only [DataW.agg.injEq] at h2
  obtain ⟨y0, g0, _⟩ := fld_is hf hlen2 0 rfl h2 rfl
  obtain ⟨y1, g1, e1⟩ := fld_is hf hlen2 1 rfl h2 rfl
  obtain ⟨y2, g2, e2⟩ := fld_is hf hlen2 2 rfl h2 rfl
  obtain ⟨y3, g3, e3⟩ := fld_is hf hlen2 3 rfl h2 rfl
  obtain ⟨s, f0⟩ := str_at (k := 0) g0
  exact ⟨s, dt (j := 0) f0 (by decide), dt (bool_at (k := 1) g1 e1) (by decide), dt (bool_at (k := 2) g2 e2) (by decide), dt (bool_at (k := 3) g3 e3) (by decide)⟩

/-- WHAT THE ROW's LIST GIVES: the two tables. -/
theorem tables {W : World} (h : laidMetH Tryd.prog Rows.fnExactRunFuncRow.laid W) : OpTab W ∧ TerTab W := by
  rw [MakeChecks.laidMetH_plain _ _ _ (by kernel_rfl)] at h
  obtain ⟨ps, ⟨g0, t0, cs0, f0, p0, q0, hg0, ht0, hv0, hd0, ⟨g1, t1, cs1, f1, p1, q1, hg1, ht1, hv1, hd1, _, _⟩, _⟩, _, _⟩ := h
  obtain rfl := Option.some.inj (gOps.symm.trans hg0)
  obtain rfl := Option.some.inj (gTers.symm.trans hg1)
  obtain rfl := Option.some.inj (tOps.symm.trans ht0)
  obtain rfl := Option.some.inj (tTers.symm.trans ht1)
  have c0 : ∀ j v, cs0.toList[j]? = some v → W.cell? ⟨0, j, none⟩ = some v := fun j v hv => by
    have := World.var?_cell hg0 hv0 j
    rw [this]
    simpa using hv
  have c1 : ∀ j v, cs1.toList[j]? = some v → W.cell? ⟨1, j, none⟩ = some v := fun j v hv => by
    have := World.var?_cell hg1 hv1 j
    rw [this]
    simpa using hv
  constructor
  · have row : ∀ i s d a b m, i < 14 → Rows.laid_loop_example_s0031_impl_opForms (H := Unit) = .agg (match Rows.laid_loop_example_s0031_impl_opForms (H := Unit) with | .agg l => l | _ => []) → ((match Rows.laid_loop_example_s0031_impl_opForms (H := Unit) with | .agg l => l | _ => []) : List (DataW Unit))[i]? = some (.agg [.lit (.string s), .lit (.bool d), .lit (.bool a), .lit (.bool b), .lit (.bool m)]) →
        ∃ s, W.cell? ⟨0, i * 5, none⟩ = some (.string s) ∧ W.cell? ⟨0, i * 5 + 1, none⟩ = some (.bool d) ∧ W.cell? ⟨0, i * 5 + 2, none⟩ = some (.bool a) ∧ W.cell? ⟨0, i * 5 + 3, none⟩ = some (.bool b) ∧ ∃ q, W.cell? ⟨0, i * 5 + 4, none⟩ = some (.bool q) := fun i s d a b m hi _ hr => by
      obtain ⟨s, e0, e1, e2, e3, e4⟩ := op_row hd0 i hi s d a b m hr
      exact ⟨s, c0 _ _ e0, c0 _ _ e1, c0 _ _ e2, c0 _ _ e3, m, c0 _ _ e4⟩
    have r1 := row 1 _ _ _ _ _ (by decide) rfl rfl
    refine ⟨?_, fun k h1 h2 => ?_⟩
    · obtain ⟨s, e, _⟩ := r1
      exact block_of_cell e
    · have hk : k = 1 ∨ k = 2 ∨ k = 3 ∨ k = 4 ∨ k = 5 ∨ k = 6 ∨ k = 7 ∨ k = 8 ∨ k = 9 ∨ k = 10 ∨ k = 11 ∨ k = 12 ∨ k = 13 := by omega
      rcases hk with rfl | rfl | rfl | rfl | rfl | rfl | rfl | rfl | rfl | rfl | rfl | rfl | rfl
      · exact r1
      · exact row 2 _ _ _ _ _ (by decide) rfl rfl
      · exact row 3 _ _ _ _ _ (by decide) rfl rfl
      · exact row 4 _ _ _ _ _ (by decide) rfl rfl
      · exact row 5 _ _ _ _ _ (by decide) rfl rfl
      · exact row 6 _ _ _ _ _ (by decide) rfl rfl
      · exact row 7 _ _ _ _ _ (by decide) rfl rfl
      · exact row 8 _ _ _ _ _ (by decide) rfl rfl
      · exact row 9 _ _ _ _ _ (by decide) rfl rfl
      · exact row 10 _ _ _ _ _ (by decide) rfl rfl
      · exact row 11 _ _ _ _ _ (by decide) rfl rfl
      · exact row 12 _ _ _ _ _ (by decide) rfl rfl
      · exact row 13 _ _ _ _ _ (by decide) rfl rfl
  · have row : ∀ i s a t o, i < 4 → ((match Rows.laid_loop_example_s0031_impl_termForms (H := Unit) with | .agg l => l | _ => []) : List (DataW Unit))[i]? = some (.agg [.lit (.string s), .lit (.bool a), .lit (.bool t), .lit (.bool o)]) →
        ∃ s, W.cell? ⟨1, i * 4, none⟩ = some (.string s) ∧ W.cell? ⟨1, i * 4 + 1, none⟩ = some (.bool a) ∧ W.cell? ⟨1, i * 4 + 2, none⟩ = some (.bool t) ∧ W.cell? ⟨1, i * 4 + 3, none⟩ = some (.bool o) := fun i s a t o hi hr => by
      obtain ⟨s, e0, e1, e2, e3⟩ := ter_row hd1 i hi s a t o hr
      exact ⟨s, c1 _ _ e0, c1 _ _ e1, c1 _ _ e2, c1 _ _ e3⟩
    have r1 := row 1 _ _ _ _ (by decide) rfl
    refine ⟨?_, fun k h1 h2 => ?_⟩
    · obtain ⟨s, e, _⟩ := r1
      exact block_of_cell e
    · have hk : k = 1 ∨ k = 2 ∨ k = 3 := by omega
      rcases hk with rfl | rfl | rfl
      · exact r1
      · exact row 2 _ _ _ _ (by decide) rfl
      · exact row 3 _ _ _ _ (by decide) rfl

set_option maxRecDepth 100000 in
theorem contract (H : Type) (enc : TypeId × Value → H) (W : World) (base : Nat) (args : Array Value) (ds gs : List (DataW H)) (before : List MemPlace)
    (hval : ∀ (j : Nat) t v, Tryd.f5.params[j]? = some t → args[j]? = some v → Value.okWide Tryd.prog W .any base t v)
    (hW : DataW.Whole enc Tryd.prog Tryd.f5.params.toList Rows.fnExactRunFuncSpec.vars false W args.toList ds gs before) (hL : laidMetH Tryd.prog Rows.fnExactRunFuncRow.laid W) :
    Calls Tryd.prog 5 args W fun e W' => ∃ v, e = .returned v ∧ Rows.fnExactRunFuncSpec.post enc Tryd.prog Tryd.f5 false true false false W args v W' := by
  have hW' := hW
  obtain ⟨p, q, hA0, hV, rfl, hfz, hnd⟩ := hW
  have hA : DataW.TrodAll enc Tryd.prog W 0 (fun _ => true) true Tryd.f5.params.toList args.toList ds p := hA0
  rw [Tryd.params5] at hA hval
  obtain ⟨v0, vs0, d0, ds0, p0, q0, hargs, rfl, rfl, h0, r0⟩ := trodAll_cons hA
  obtain ⟨v1, vs1, d1, ds1, p1, q1, rfl, rfl, rfl, h1, r1⟩ := trodAll_cons r0
  obtain ⟨v2, vs2, d2, ds2, p2, q2, rfl, rfl, rfl, h2, r2⟩ := trodAll_cons r1
  obtain ⟨v3, vs3, d3, ds3, p3, q3, rfl, rfl, rfl, h3, r3⟩ := trodAll_cons r2
  obtain ⟨rfl, rfl, rfl⟩ := trodAll_nil r3
  obtain rfl : args = #[v0, v1, v2, v3] := by cases args; simp_all
  clear hA0
  have h0' := h0
  have h1' := h1
  have h2' := h2
  have h3' := h3
  obtain ⟨c0, c1, y0, y1, m, rfl, rfl, rfl, hy0, hy1⟩ := open_agg2 Tryd.underlying24 (by kernel_rfl) (show Tryd.prog.cellsOf 24 = 2 by kernel_rfl) (hval 0 24 v0 rfl rfl) h0
  obtain ⟨val, e0, _, _⟩ := DataW.trod_int Tryd.underlying2 hy0
  obtain ⟨a, xs, c, e1, hlen, hb, hls⟩ := read_blocks hy1
  simp only [List.cons.injEq, and_true] at e0 e1
  subst e0
  subst e1
  obtain ⟨a1, l1, k1, rfl⟩ := okWide_slice Tryd.underlying38 (hval 1 38 v1 rfl rfl)
  obtain ⟨a2, l2, k2, rfl⟩ := okWide_slice Tryd.underlying38 (hval 2 38 v2 rfl rfl)
  obtain ⟨fl, rfl⟩ := okWide_int Tryd.underlying2 (hval 3 2 v3 rfl rfl)
  obtain ⟨f1, t1⟩ := h1
  obtain ⟨f2, t2⟩ := h2
  obtain ⟨b1, ys1, m1, e1, hlen1, hi1⟩ := read_ints t1
  obtain ⟨b2, ys2, m2, e2, hlen2, hi2⟩ := read_ints t2
  have q1 : Value.slice a1 l1 k1 = .slice b1 ys1.length m1 := by simpa [Value.cells] using e1
  have q2 : Value.slice a2 l2 k2 = .slice b2 ys2.length m2 := by simpa [Value.cells] using e2
  injection q1 with q11 q12 q13
  injection q2 with q21 q22 q23
  subst q11 q12 q13 q21 q22 q23
  obtain ⟨hO, hT⟩ := tables hL
  have hmax : maxLen = 9223372036854775807 := by unfold maxLen; decide
  rw [hmax] at hlen hls hlen1 hlen2
  refine (lawRun_any val a xs.length c a1 ys1.length k1 a2 ys2.length k2 fl xs ys1 ys2 W hb rfl hlen hls hi1 rfl hlen1 hi2 rfl hlen2 hO hT).mono fun e W' ⟨he, hbel⟩ => ?_
  subst he
  obtain ⟨g1, g2, rfl⟩ : ∃ g1 g2, gs = [g1, g2] := by
    match gs, hV with
    | [g1, g2], _ => exact ⟨g1, g2, rfl⟩
    | [], hV => exact hV.elim
    | [_], hV => obtain ⟨_, _, _, _, _, _, _, _, _, _, hV, _⟩ := hV; exact hV.elim
    | _ :: _ :: _ :: _, hV => obtain ⟨_, _, _, _, _, _, _, _, _, _, ⟨_, _, _, _, _, _, _, _, _, _, hV, _⟩, _⟩ := hV; exact hV.elim
  have hlt := hW'.lt
  refine ⟨_, rfl, _, _, _, [], (y0.2 ++ y1.2) ++ (p1 ++ (p2 ++ (p3 ++ []))), q, hW', trodAll_cons_mk (shut_bool Tryd.underlying4 _) trodAll_mk0, ?_, ?_, hbel.frame _, fun h => by cases h⟩
  rotate_left
  · exact Below.trodVars (by kernel_rfl) hbel (by kernel_rfl) hV
  · exact trodAll_cons_mk (Below.trod (by kernel_rfl) (by kernel_rfl) (of_decide_eq_true (by kernel_rfl)) h0' hbel (fun x hx => hlt x (List.mem_append_left _ (List.mem_append_left _ hx)))) (trodAll_cons_mk (Below.trod (by kernel_rfl) (by kernel_rfl) (of_decide_eq_true (by kernel_rfl)) h1' hbel (fun x hx => hlt x (List.mem_append_left _ (List.mem_append_right _ (List.mem_append_left _ hx))))) (trodAll_cons_mk (Below.trod (by kernel_rfl) (by kernel_rfl) (of_decide_eq_true (by kernel_rfl)) h2' hbel (fun x hx => hlt x (List.mem_append_left _ (List.mem_append_right _ (List.mem_append_right _ (List.mem_append_left _ hx)))))) (trodAll_cons_mk (Below.trod (by kernel_rfl) (by kernel_rfl) (of_decide_eq_true (by kernel_rfl)) h3' hbel (fun x hx => hlt x (List.mem_append_left _ (List.mem_append_right _ (List.mem_append_right _ (List.mem_append_right _ (List.mem_append_left _ hx))))))) trodAll_mk0)))

/-- A WORLD FOR THE WITNESS: the heap that the door's own run leaves. -/
theorem laid_met (os : Os) : laidMet Tryd.prog Rows.fnExactRunFuncRow.laid ((World.doorLaid Tryd.prog 64 os).forCall (fun _ _ => 0) ⟨#[], #[.agg #[.int .i64 0, .slice none 0 0], .slice none 0 0, .slice none 0 0, .int .i64 0], []⟩).memory :=
  laidMet_of_run' 8 (by kernel_rfl) (by kernel_rfl)
theorem reads (os : Os) {H : Type} (enc : TypeId × Value → H) : ∃ gs places, DataW.whole enc Tryd.prog ((World.doorLaid Tryd.prog 64 os).forCall (fun _ _ => 0) ⟨#[], #[.agg #[.int .i64 0, .slice none 0 0], .slice none 0 0, .slice none 0 0, .int .i64 0], []⟩).memory Tryd.f5.params.toList Rows.fnExactRunFuncSpec.vars false #[Value.agg #[.int .i64 0, .slice none 0 0], .slice none 0 0, .slice none 0 0, .int .i64 0].toList 8 = some ([.agg [.lit (.int .i64 0), .nil], .nil, .nil, .lit (.int .i64 0)], gs, places) :=
  ⟨[Rows.laid_loop_example_s0031_impl_termForms, Rows.laid_loop_example_s0031_impl_opForms], [] ++ (MemPlace.row ⟨1, 0, none⟩ 16 ++ [] ++ (MemPlace.row ⟨0, 0, none⟩ 70 ++ [] ++ [])), by kernel_rfl⟩

set_option maxRecDepth 100000 in
theorem lifted (os : Os) (started : os.Started) (H : Type) (enc : TypeId × Value → H) (F : Stop.Interp) :
    ReturnsInHanded {} Tryd.checked os 5 .any ((OpenSpec.ofChange Rows.fnExactRunFuncSpec).preRow enc Tryd.prog Tryd.f5 Rows.fnExactRunFuncRow.domain false Rows.fnExactRunFuncRow.laid) (((OpenSpec.ofChange Rows.fnExactRunFuncSpec).at F).post enc Tryd.prog Tryd.f5 false true false false) := by
  obtain ⟨gs, places, hx⟩ := reads os enc
  refine returnsInHanded_of_row (C := Tryd.checked) (s := OpenSpec.ofChange Rows.fnExactRunFuncSpec) own started (by kernel_rfl) Tryd.func5
    (witness_row_at (enc := enc) (C := Tryd.checked) false (World.doorLaid Tryd.prog 64 os) #[.agg #[.int .i64 0, .slice none 0 0], .slice none 0 0, .slice none 0 0, .int .i64 0] rfl (by kernel_rfl) (by kernel_rfl) (by kernel_rfl)
      (OpenSpec.preRow_of_cond 8 hx (by kernel_rfl) (fun k hk => by cases hk) (by kernel_rfl) (laid_met os))) ?_
  intro W base args ds gs before hval hW _ _ _ hL _ _
  exact contract H enc W base args ds gs before hval hW hL

theorem said : Rows.FnExactRunFuncSaid :=
  OpenClaim.holds_of_cond 5 Tryd.f5 rfl rfl rfl rfl rfl rfl rfl ⟨rfl, rfl, rfl, rfl, rfl⟩ rfl rfl rfl rfl rfl (by kernel_rfl) Tryd.func5 (by kernel_rfl)
    (of_decide_eq_true (by kernel_rfl)) (by unfold Func.isWrapper; first | (rw [if_pos (by decide +kernel)]; kernel_rfl) | (rw [if_neg (by decide +kernel)]; exact ⟨rfl, rfl⟩))
    (fun os started H enc _ F => by rw [OpenClaim.pre_eq_preRow]; exact lifted os started H enc F)

theorem plain (f : FuncId) (fn : Func) (hf : Tryd.pinned.checked.prog.funcNamed "loop.example/s0031/laws.FnExactRunFunc" = some f) (hfn : Tryd.pinned.checked.prog.funcs[f]? = some fn) :
    true = Tryd.pinned.checked.prog.looks [] ∧ ∀ (j : Nat) t, fn.params[j]? = some t → Tryd.pinned.checked.prog.wantsStandIn t = false := by
  obtain rfl : f = 5 := Option.some.inj ((show Tryd.prog.funcNamed "loop.example/s0031/laws.FnExactRunFunc" = some 5 by kernel_rfl).symm.trans hf) |>.symm
  obtain rfl : fn = Tryd.f5 := (Option.some.inj (Tryd.func5.symm.trans hfn)).symm
  refine ⟨by kernel_rfl, fun j t ht => ?_⟩
  rw [Tryd.params5] at ht
  have hm := Array.mem_of_getElem? ht
  simp only [List.mem_toArray, List.mem_cons, List.not_mem_nil, or_false] at hm
  rcases hm with rfl | rfl | rfl | rfl
  · exact (show Tryd.prog.wantsStandIn 24 = false by kernel_rfl)
  · exact (show Tryd.prog.wantsStandIn 38 = false by kernel_rfl)
  · exact (show Tryd.prog.wantsStandIn 38 = false by kernel_rfl)
  · exact (show Tryd.prog.wantsStandIn 2 = false by kernel_rfl)

theorem runFunc_card : Rows.FnExactRunFuncCardSaid :=
  Claim7.holds_tied_plain_at .later [] _ _ _ _ said (fun _ h => by cases h) (by kernel_rfl) (fun _ h => by cases h) fnExactRunFunc_row_tie rfl ⟨rfl, rfl⟩ (by kernel_rfl) rfl plain (by kernel_rfl)
#print axioms runFunc_card
end Go.Proofs.YtdcdgopblbmgoaaDoor
