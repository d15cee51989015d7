import Derived.Test.YtlmaodcddbkllaaDoorDS2
/-
  The draw of moves: the walk, one way of four (written by ds3gen.py out of DS3.part).
-/
namespace Go.Proofs.YtlmaodcddbkllaaDoor
open Go.RowKit
set_option maxHeartbeats 4000000 in
set_option maxRecDepth 100000 in
theorem drawSeq_d (a : Option Addr) (n c : Nat) (bs : List UInt8) (L B : Nat) (w : World) (ha : Hid (BytesAt w L B a bs)) (hx : Hid (n = bs.length)) (hn : n ≤ 1048576) (hB : B ≤ w.heap.size) (s0 s1 s2 s4 : Sr) (r1 r2 r4 : Int)
    (h0 : Hid (srcP bs = s0)) (h1 : Hid (nextP s0 (3 + 3 * s0.size) = (r1, s1))) (h2 : Hid (nextP s1 2 = (r2, s2))) (h4 : Hid (nextP s2 10 = (r4, s4))) (hq2 : ¬ r2 = 0) (hq4 : r4 = 0) :
    Calls Tryd.prog 22 #[.slice a n c] w fun e w' => ∃ v, e = .returned v ∧ Below w.heap.size w w' ∧ w'.ownsRow w.heap.size 58 2 v (drawP (srcP bs)).length (mvV (drawP (srcP bs))) := by
  obtain ⟨i0, hi0, hz0, hz1, hz2⟩ := info_three Tryd.info2'
  obtain ⟨j0, hj0, hy0, hy1, hy2⟩ := info_three Tryd.infoMv
  have HSO := hide (srcP_ok bs)
  have HSR := hide (source_any a n c bs L B w ha hx hn hB)
  rw [h0.out] at HSO HSR ⊢
  have hs0 := HSO.out.size
  have HR : Hid (drawP s0 = draw1 (1 + (nextP s0 (3 + 3 * s0.size)).1.toNat) (nextP s0 (3 + 3 * s0.size)).2) := hide rfl
  have hr1 := next_lt s0 (n := 3 + 3 * s0.size) (by omega)
  rw [h1.out] at HR hr1
  dsimp only at HR hr1
  obtain ⟨m, rfl⟩ := nat_of hr1.1
  have HR2 : Hid (drawP s0 = draw3 64 64 s4) := hide (by
    rw [HR.out, Int.toNat_natCast]
    unfold draw1
    rw [h2.out]
    dsimp only
    rw [if_neg hq2]
    unfold draw2
    rw [h4.out]
    dsimp only
    rw [if_pos hq4])
  clear HR
  generalize drawP s0 = R at *
  go_enter Tryd.func22, Tryd.ntmps22
  go_wp2_with (first | (go_at_call 49; refine HSR.out.mono ?_; rintro e w1 ⟨rfl, hl1, hq1, hs1⟩; have HD : Hid (DrW w w1 w1.heap.size s0) := hide ⟨hl1, hs1, HSO.out, hq1, Nat.le_refl _⟩; have e3 := hs1.c3; clear hs1 hl1))
  clear e3
  refine (next_dr w w1 _ s0 _ HD (by omega) (by omega)).mono ?_
  rintro e w2 ⟨rfl, hd, -⟩
  rw [h1.out] at hd ⊢
  have HD2 := hide hd
  clear hd HD
  go_wp2_with fail
  refine (next_dr w w2 _ s1 _ HD2 (by omega) (by omega)).mono ?_
  rintro e w3 ⟨rfl, hd, -⟩
  rw [h2.out] at hd ⊢
  have HD3 := hide hd
  clear hd HD2
  have hy6 : (r2 == 0) = false := by simpa using hq2
  clear hq2
  go_wp2_with fail
  clear hy6
  refine (next_dr w w3 _ s2 _ HD3 (by omega) (by omega)).mono ?_
  rintro e w5 ⟨rfl, hd, -⟩
  rw [h4.out] at hd ⊢
  have HD5 := hide hd
  clear hd HD3
  subst hq4
  go_wp2
  obtain ⟨wd, hwd⟩ : ∃ wd : Nat, wd = 64 := ⟨_, rfl⟩
  rw [show (64 : Int) = (wd : Int) by omega]
  rw [← hwd] at HR2
  have hN1 : 1 ≤ wd := by omega
  have hNW : wd ≤ wd := by omega
  have hW64 : wd ≤ 64 := by omega
  clear hwd hr1 h1 h2 h4 HSR HSO hs0 hq1
  have HB1 := hide HD5.out.bB
  have HB2 := hide HD5.out.sB
  generalize w1.heap.size = B1 at *
  go_loopw [6, 7] (fun v u wr => ∃ j : Nat, j ≤ wd ∧ u = .int .i64 j ∧ Hid (DrW w wr B1 s4) ∧ Hid (wr.ownsRow B1 2 1 v j ((iota j).map (Value.int .i64)))) (fun _ u _ => wd - (intOf u).toNat)
  case atStart => exact ⟨0, Nat.zero_le _, rfl, hide (HD5.out.keep (Below.alloc (Below.refl _ _) HB2.out _)), hide (own_ints0 w5 HB2.out)⟩
  case round =>
    obtain ⟨j, hj, rfl, HD, HO⟩ := hrel
    have hwz := HD.out.sB
    by_cases hlt : j < wd
    · clear HD5
      go_wp2_with (at_builtin; refine wpList_append_own_at _ rfl _ _ 40 rfl B1 2 i0 (.int .i64 0) 1 8 Tryd.underlying40 hi0 hz0 hz1 hz2 rfl (by decide) _ _ _ rfl (HO.out.alloc _) ⟨wr.heap.size, 0, none⟩ 1 1 [.int .i64 (j : Int)] rfl rfl ?c1 ?c2 ?c3 ?c4 ?c5 ?_)
      case c1 => exact one_news _ _ _
      case c2 => intro u hu; simp at hu; subst hu; rfl
      case c3 => unfold maxLen; omega
      case c4 => omega
      case c5 => simp; omega
      intro v1 w1 hown1 hgrow1 hne1 hat1
      have HO1 : Hid (w1.ownsRow B1 2 1 v1 (j + 1) ((iota (j + 1)).map (Value.int .i64))) := hide (by rw [iota_succ, ints_snoc]; exact hown1)
      have HD1 : Hid (DrW w w1 B1 s4) := hide (HD.out.keep (grown_below (Below.alloc (Below.refl _ _) hwz _) hgrow1 (HO.out.alloc _) (Nat.le_refl _) (by simp; omega)))
      clear hown1 hgrow1 hne1 hat1 HO HD
      go_wp2
      exact ⟨⟨j + 1, by omega, by go_num, HD1, HO1⟩, by simp [intOf]; omega⟩
    · have hje : j = wd := by omega
      subst hje
      clear HD5 hlt hj
      obtain ⟨g, cap, rfl, hg, hcap⟩ := own_some' HO.out (by omega)
      have HGb := hide hg.1
      have HG := hide hg
      clear hg
      obtain ⟨wk, hwk⟩ : ∃ wk, j = wk + 1 := ⟨j - 1, by omega⟩
      have hwi : (j : Int) - 1 = (wk : Int) := by omega
      have hwk64 : wk < 64 := by omega
      have HWK := hide hwk
      clear hwk
      go_wp2
      clear hwi
      generalize wr = wo at *
      have HP : Hid (R = draw5 j j (shufP wk s4 (iota j))) := hide (by rw [HR2.out]; unfold draw3; rw [show j - 1 = wk by have := HWK.out; omega])
      clear HR2
      have HI0 : Hid (∀ x ∈ iota j, 0 ≤ x ∧ x < 64) := hide (fun x hx => by have := iota_mem hx; omega)
      have HIL : Hid ((iota j).length = j) := hide (iota_len _)
      generalize iota j = xs0 at *
      go_loopw [8] (fun u wq => ∃ (i : Nat) (s : Sr) (xs : List Int), i ≤ wk ∧ u = .int .i64 i ∧ Hid (xs.length = j) ∧ Hid (∀ x ∈ xs, 0 ≤ x ∧ x < 64) ∧ Hid (shufP i s xs = shufP wk s4 xs0) ∧ Hid (DrW w wq B1 s) ∧ Hid (wq.ownsRow B1 2 1 (.slice (some ⟨g, 0, none⟩) j cap) j (xs.map (Value.int .i64)))) (fun u _ => (intOf u).toNat)
      case atStart => exact ⟨wk, s4, xs0, Nat.le_refl _, rfl, HIL, HI0, hide rfl, HD, HO⟩
      case round =>
        obtain ⟨i, s, xs, hi, rfl, HL, HM, HE, HD2, HO2⟩ := hrel
        clear HD HO HIL
        cases i with
        | succ i =>
          have HE2 : Hid (shufP i (nextP s ((i : Int) + 1 + 1)).2 (swapL xs (i + 1) (nextP s ((i : Int) + 1 + 1)).1.toNat) = shufP wk s4 xs0) := HE
          have hr := next_lt s (n := (i : Int) + 1 + 1) (by omega)
          go_wp2_with fail
          refine (next_dr w wr _ s _ HD2 (by omega) (by omega)).mono ?_
          rintro e w2 ⟨rfl, hd, hgr⟩
          obtain ⟨r, s', hrs⟩ : ∃ r s', nextP s ((i : Int) + 1 + 1) = (r, s') := ⟨_, _, rfl⟩
          rw [hrs] at hd HE2 hr ⊢
          dsimp only at hd HE2 hr ⊢
          obtain ⟨q, rfl⟩ := nat_of hr.1
          have HO3 := hide (own_grown HO2.out hgr HB1.out)
          have HD3 := hide hd
          clear hd hgr HE hrs
          have hij : i + 1 < j := by have := HWK.out; omega
          have hqj : q < j := by omega
          have hqx : q < xs.length := by have := HL.out; have := HWK.out; omega
          have hix : i + 1 < xs.length := by have := HL.out; have := HWK.out; omega
          have ei := own_cell HO3.out (j := i + 1) (u := .int .i64 xs[i + 1]) (by simp [hix])
          have eq := own_cell HO3.out (j := q) (u := .int .i64 xs[q]) (by simp [hqx])
          have hz := own_thaw HO3.out
          have HSW := hide (swap_at xs hix hqx)
          rw [Int.toNat_natCast] at HE2
          have HML : Hid ((swapL xs (i + 1) q).length = j) := hide ((swap_len _ _ _).trans HL.out)
          have HMM : Hid (∀ x ∈ swapL xs (i + 1) q, 0 ≤ x ∧ x < 64) := hide (fun x hx => HM.out x (swap_mem hx))
          have hc2 : (w2.setCell ⟨g, i + 1, none⟩ (.int .i64 xs[q])).cell? ⟨g, q, none⟩ = some (.int .i64 xs[q]) := by
            by_cases hqi : q = i + 1
            · subst hqi; exact World.cell?_setCell_same _ _ _ eq
            · exact (set_other _ _ (fun e => hqi e.symm) _).trans eq
          generalize xs[i + 1] = vi at *
          generalize xs[q] = vq at *
          go_wp2
          exact ⟨⟨i, s', swapL xs (i + 1) q, by omega, rfl, HML, HMM, HE2, hide (HD3.out.keep (((Below.refl B1 w2).setCell HGb.out _).setCell HGb.out _)), hide (by
            rw [HSW.out, List.map_set, List.map_set]
            exact own_set (own_set HO3.out _) _)⟩, by simp [intOf]⟩
        | zero =>
          have HP2 : Hid (R = draw5 j j (xs, s)) := hide (by rw [HP.out, ← HE.out]; rfl)
          clear HE HP HI0
          go_wp2_with fail
          rw [show ((0 : Nat) : Int) = 0 from rfl]
          have HB3 := hide HD2.out.sB
          have HDa : Hid (DrW w (wr.alloc (.cells #[] 58)) B1 s) := hide (HD2.out.keep (Below.alloc (Below.refl _ _) HB3.out _))
          have HAa := hide (HO2.out.alloc (.cells #[] 58))
          have HMa := hide (own_mv0 wr)
          have hbm : B1 ≤ wr.heap.size := HB3.out
          have HGm : Hid (g < wr.heap.size) := hide ((HO2.out.lt g rfl).2)
          have HZa : Hid (wr.heap.size ≤ (wr.alloc (.cells #[] 58)).heap.size) := hide (by simp)
          clear HD2 HO2 HB3
          have HBM1 : Hid (w.heap.size < wr.heap.size) := hide (by have := HB1.out; omega)
          have HBM : Hid (B1 ≤ wr.heap.size) := hide hbm
          clear hbm
          generalize wr.alloc (.cells #[] 58) = wa at *
          generalize wr.heap.size = BM at *
          refine (next_dr w wa _ s _ HDa (by omega) (by omega)).mono ?_
          rintro e w2 ⟨rfl, hd, hgr⟩
          obtain ⟨lo, s', hrs⟩ : ∃ r s', nextP s 3 = (r, s') := ⟨_, _, rfl⟩
          have hlo := next_lt s (n := 3) (by omega)
          rw [hrs] at hd hlo ⊢
          dsimp only at hd hlo ⊢
          have HP3 : Hid (R = draw7 (shufP (j - 1) (mvsP lo j xs j 0 s' []).2 (mvsP lo j xs j 0 s' []).1)) := hide (by
            rw [HP2.out]
            unfold draw5
            dsimp only
            rw [hrs]
            dsimp only
            rw [mvs_len, List.length_nil, Nat.zero_add])
          have HDb := hide hd
          have HAb := hide (own_grown HAa.out hgr HB1.out)
          have HMb := hide (own_grown HMa.out hgr HBM1.out)
          have HZb := hide (Nat.le_trans HZa.out hgr.size)
          clear hd hgr hrs HDa HAa HMa HZa HP2
          go_wp2_with fail
          generalize wr = wo2 at *
          go_loopw [11, 13] (fun v u wq => ∃ (k i : Nat) (s5 : Sr) (acc : List Mv), i + k = j ∧ u = .int .i64 i ∧ Hid (acc.length = i) ∧ Hid (mvsP lo j xs k i s5 acc = mvsP lo j xs j 0 s' []) ∧ Hid (DrW w wq B1 s5) ∧ Hid (BM ≤ wq.heap.size) ∧ Hid (wq.ownsRow B1 2 1 (.slice (some ⟨g, 0, none⟩) j cap) j (xs.map (Value.int .i64))) ∧ Hid (wq.ownsRow BM 58 2 v i (mvV acc))) (fun _ u _ => j - (intOf u).toNat)
          case atStart => exact ⟨j, 0, s', [], by omega, rfl, hide rfl, hide rfl, HDb, HZb, HAb, HMb⟩
          case round =>
            obtain ⟨k, i, s5, acc, hik, rfl, HAL, HME, HDq, HZq, HAq, HMq⟩ := hrel
            generalize wr = wq at *
            clear HDb HZb HAb HMb
            cases k with
            | succ k =>
              have hin : i < j := by omega
              have hij : i < j := by omega
              by_cases hl0 : lo = 0
              · skip
                have hl0b : (lo == 0) = true := by simpa using hl0
                have HL0 := hide hl0
                clear hl0
                go_wp2_with fail
                refine (next_dr w wq _ s5 _ HDq (by omega) (by omega)).mono ?_
                rintro e w3 ⟨rfl, hd, hgr⟩
                obtain ⟨f, s6, hrs⟩ : ∃ r s', nextP s5 (j : Int) = (r, s') := ⟨_, _, rfl⟩
                rw [hrs] at hd ⊢
                dsimp only at hd ⊢
                have HD9 := hide hd
                have HA9 := hide (own_grown HAq.out hgr HB1.out)
                have HO9 := hide (own_grown HMq.out hgr HBM1.out)
                have HZ9 := hide (Nat.le_trans HZq.out hgr.size)
                have HFR : Hid (frP lo j i s5 = (f, s6)) := hide (by unfold frP; rw [if_pos HL0.out]; exact hrs)
                clear hd hgr hrs HDq HAq HMq HZq
                have hix : i < xs.length := by have := HL.out; omega
                have eat := own_cell HA9.out (j := i) (u := .int .i64 xs[i]) (by simp [hix])
                have HMS : Hid (mvsP lo j xs k (i + 1) s6 (acc ++ [⟨xs[i], f⟩]) = mvsP lo j xs j 0 s' []) := hide (by
                  rw [← HME.out, mvsP, HFR.out]
                  simp [hix])
                have hz3 := HZ9.out
                generalize xs[i] = ai at *
                go_wp2_with (at_builtin; refine wpList_append_own_at _ rfl _ _ 54 rfl BM 58 j0 (.agg #[.int .i64 0, .int .i64 0]) 2 16 Tryd.underlying54 hj0 hy0 hy1 hy2 rfl (by decide) _ _ _ rfl (HO9.out.alloc _) ⟨w3.heap.size, 0, none⟩ 1 1 [.int .i64 ai, .int .i64 f] rfl rfl ?c1 ?c2 ?c3 ?c4 ?c5 ?_)
                case c1 => exact mv_news _ _ _ _
                case c2 => intro u hu; simp at hu; rcases hu with rfl | rfl <;> rfl
                case c3 => unfold maxLen; omega
                case c4 => omega
                case c5 => simp; omega
                intro v8 w8 hown8 hg8 hne8 hat8
                have HBE : Hid (Below BM w3 w8) := hide (grown_below (Below.alloc (Below.refl _ _) HZ9.out _) hg8 (HO9.out.alloc _) (Nat.le_refl _) (by simp; omega))
                have HO8 : Hid (w8.ownsRow BM 58 2 v8 (i + 1) (mvV (acc ++ [⟨ai, f⟩]))) := hide (by rw [mvV_app]; exact hown8)
                have HD8 : Hid (DrW w w8 B1 s6) := hide (HD9.out.keep (HBE.out.mono HBM.out))
                have HA8 : Hid (w8.ownsRow B1 2 1 (.slice (some ⟨g, 0, none⟩) j cap) j (xs.map (Value.int .i64))) := hide (own_blk HA9.out (HBE.out.block g HGm.out))
                have HZ8 : Hid (BM ≤ w8.heap.size) := hide (Nat.le_trans HZ9.out HBE.out.size)
                clear hown8 hg8 hne8 hat8 HBE HO9 HD9 HA9 HZ9
                go_wp2
                exact ⟨⟨k, i + 1, s6, acc ++ [⟨ai, f⟩], by omega, by go_num, hide (by rw [List.length_append, HAL.out]; rfl), HMS, HD8, HZ8, HA8, HO8⟩, by simp [intOf]; omega⟩
              · have hl0b : (lo == 0) = false := by simpa using hl0
                by_cases hl1 : lo = 1
                · skip
                  have hl1b : (lo == 1) = true := by simpa using hl1
                  have HL0 := hide hl0
                  have HL1 := hide hl1
                  clear hl0 hl1
                  go_wp2_with fail
                  refine (next_dr w wq _ s5 _ HDq (by omega) (by omega)).mono ?_
                  rintro e w2q ⟨rfl, hd, hgr⟩
                  obtain ⟨r6, s7, hrs⟩ : ∃ r s', nextP s5 6 = (r, s') := ⟨_, _, rfl⟩
                  rw [hrs] at hd ⊢
                  dsimp only at hd ⊢
                  have HDr := hide hd
                  have HAr := hide (own_grown HAq.out hgr HB1.out)
                  have HMr := hide (own_grown HMq.out hgr HBM1.out)
                  have HZr := hide (Nat.le_trans HZq.out hgr.size)
                  have HR6 := hide hrs
                  clear hd hgr hrs HDq HAq HMq HZq
                  by_cases hr6 : r6 = 0
                  · skip
                    have hr6b : (r6 == 0) = true := by simpa using hr6
                    have HR0 := hide hr6
                    clear hr6
                    go_wp2_with fail
                    refine (next_dr w w2q _ s7 _ HDr (by omega) (by omega)).mono ?_
                    rintro e w3 ⟨rfl, hd, hgr⟩
                    obtain ⟨f, s6, hrs⟩ : ∃ r s', nextP s7 (j : Int) = (r, s') := ⟨_, _, rfl⟩
                    rw [hrs] at hd ⊢
                    dsimp only at hd ⊢
                    have HD9 := hide hd
                    have HA9 := hide (own_grown HAr.out hgr HB1.out)
                    have HO9 := hide (own_grown HMr.out hgr HBM1.out)
                    have HZ9 := hide (Nat.le_trans HZr.out hgr.size)
                    have HFR : Hid (frP lo j i s5 = (f, s6)) := hide (by unfold frP; rw [if_neg HL0.out, if_pos HL1.out, HR6.out]; dsimp only; rw [if_pos HR0.out]; exact hrs)
                    clear hd hgr hrs HDr HAr HMr HZr
                    have hix : i < xs.length := by have := HL.out; omega
                    have eat := own_cell HA9.out (j := i) (u := .int .i64 xs[i]) (by simp [hix])
                    have HMS : Hid (mvsP lo j xs k (i + 1) s6 (acc ++ [⟨xs[i], f⟩]) = mvsP lo j xs j 0 s' []) := hide (by
                      rw [← HME.out, mvsP, HFR.out]
                      simp [hix])
                    have hz3 := HZ9.out
                    generalize xs[i] = ai at *
                    go_wp2_with (at_builtin; refine wpList_append_own_at _ rfl _ _ 54 rfl BM 58 j0 (.agg #[.int .i64 0, .int .i64 0]) 2 16 Tryd.underlying54 hj0 hy0 hy1 hy2 rfl (by decide) _ _ _ rfl (HO9.out.alloc _) ⟨w3.heap.size, 0, none⟩ 1 1 [.int .i64 ai, .int .i64 f] rfl rfl ?c1 ?c2 ?c3 ?c4 ?c5 ?_)
                    case c1 => exact mv_news _ _ _ _
                    case c2 => intro u hu; simp at hu; rcases hu with rfl | rfl <;> rfl
                    case c3 => unfold maxLen; omega
                    case c4 => omega
                    case c5 => simp; omega
                    intro v8 w8 hown8 hg8 hne8 hat8
                    have HBE : Hid (Below BM w3 w8) := hide (grown_below (Below.alloc (Below.refl _ _) HZ9.out _) hg8 (HO9.out.alloc _) (Nat.le_refl _) (by simp; omega))
                    have HO8 : Hid (w8.ownsRow BM 58 2 v8 (i + 1) (mvV (acc ++ [⟨ai, f⟩]))) := hide (by rw [mvV_app]; exact hown8)
                    have HD8 : Hid (DrW w w8 B1 s6) := hide (HD9.out.keep (HBE.out.mono HBM.out))
                    have HA8 : Hid (w8.ownsRow B1 2 1 (.slice (some ⟨g, 0, none⟩) j cap) j (xs.map (Value.int .i64))) := hide (own_blk HA9.out (HBE.out.block g HGm.out))
                    have HZ8 : Hid (BM ≤ w8.heap.size) := hide (Nat.le_trans HZ9.out HBE.out.size)
                    clear hown8 hg8 hne8 hat8 HBE HO9 HD9 HA9 HZ9
                    go_wp2
                    exact ⟨⟨k, i + 1, s6, acc ++ [⟨ai, f⟩], by omega, by go_num, hide (by rw [List.length_append, HAL.out]; rfl), HMS, HD8, HZ8, HA8, HO8⟩, by simp [intOf]; omega⟩
                  · skip
                    have HFR : Hid (frP lo j i s5 = ((i : Int), s7)) := hide (by unfold frP; rw [if_neg HL0.out, if_pos HL1.out, HR6.out]; dsimp only; rw [if_neg hr6])
                    have HD9 := HDr
                    have HA9 := HAr
                    have HO9 := HMr
                    have HZ9 := HZr
                    clear HDr HAr HMr HZr
                    generalize w2q = w3 at *
                    have hr6b : (r6 == 0) = false := by simpa using hr6
                    clear hr6
                    have hix : i < xs.length := by have := HL.out; omega
                    have eat := own_cell HA9.out (j := i) (u := .int .i64 xs[i]) (by simp [hix])
                    have HMS : Hid (mvsP lo j xs k (i + 1) s7 (acc ++ [⟨xs[i], (i : Int)⟩]) = mvsP lo j xs j 0 s' []) := hide (by
                      rw [← HME.out, mvsP, HFR.out]
                      simp [hix])
                    have hz3 := HZ9.out
                    generalize xs[i] = ai at *
                    go_wp2_with (at_builtin; refine wpList_append_own_at _ rfl _ _ 54 rfl BM 58 j0 (.agg #[.int .i64 0, .int .i64 0]) 2 16 Tryd.underlying54 hj0 hy0 hy1 hy2 rfl (by decide) _ _ _ rfl (HO9.out.alloc _) ⟨w3.heap.size, 0, none⟩ 1 1 [.int .i64 ai, .int .i64 (i : Int)] rfl rfl ?c1 ?c2 ?c3 ?c4 ?c5 ?_)
                    case c1 => exact mv_news _ _ _ _
                    case c2 => intro u hu; simp at hu; rcases hu with rfl | rfl <;> rfl
                    case c3 => unfold maxLen; omega
                    case c4 => omega
                    case c5 => simp; omega
                    intro v8 w8 hown8 hg8 hne8 hat8
                    have HBE : Hid (Below BM w3 w8) := hide (grown_below (Below.alloc (Below.refl _ _) HZ9.out _) hg8 (HO9.out.alloc _) (Nat.le_refl _) (by simp; omega))
                    have HO8 : Hid (w8.ownsRow BM 58 2 v8 (i + 1) (mvV (acc ++ [⟨ai, (i : Int)⟩]))) := hide (by rw [mvV_app]; exact hown8)
                    have HD8 : Hid (DrW w w8 B1 s7) := hide (HD9.out.keep (HBE.out.mono HBM.out))
                    have HA8 : Hid (w8.ownsRow B1 2 1 (.slice (some ⟨g, 0, none⟩) j cap) j (xs.map (Value.int .i64))) := hide (own_blk HA9.out (HBE.out.block g HGm.out))
                    have HZ8 : Hid (BM ≤ w8.heap.size) := hide (Nat.le_trans HZ9.out HBE.out.size)
                    clear hown8 hg8 hne8 hat8 HBE HO9 HD9 HA9 HZ9
                    go_wp2
                    exact ⟨⟨k, i + 1, s7, acc ++ [⟨ai, (i : Int)⟩], by omega, by go_num, hide (by rw [List.length_append, HAL.out]; rfl), HMS, HD8, HZ8, HA8, HO8⟩, by simp [intOf]; omega⟩
                · have hl1b : (lo == 1) = false := by simpa using hl1
                  have HFR : Hid (frP lo j i s5 = ((i : Int), s5)) := hide (by unfold frP; rw [if_neg hl0, if_neg hl1])
                  clear hl0 hl1
                  have HD9 := HDq
                  have HA9 := HAq
                  have HO9 := HMq
                  have HZ9 := HZq
                  clear HDq HAq HMq HZq
                  generalize wq = w3 at *
                  have hix : i < xs.length := by have := HL.out; omega
                  have eat := own_cell HA9.out (j := i) (u := .int .i64 xs[i]) (by simp [hix])
                  have HMS : Hid (mvsP lo j xs k (i + 1) s5 (acc ++ [⟨xs[i], (i : Int)⟩]) = mvsP lo j xs j 0 s' []) := hide (by
                    rw [← HME.out, mvsP, HFR.out]
                    simp [hix])
                  have hz3 := HZ9.out
                  generalize xs[i] = ai at *
                  go_wp2_with (at_builtin; refine wpList_append_own_at _ rfl _ _ 54 rfl BM 58 j0 (.agg #[.int .i64 0, .int .i64 0]) 2 16 Tryd.underlying54 hj0 hy0 hy1 hy2 rfl (by decide) _ _ _ rfl (HO9.out.alloc _) ⟨w3.heap.size, 0, none⟩ 1 1 [.int .i64 ai, .int .i64 (i : Int)] rfl rfl ?c1 ?c2 ?c3 ?c4 ?c5 ?_)
                  case c1 => exact mv_news _ _ _ _
                  case c2 => intro u hu; simp at hu; rcases hu with rfl | rfl <;> rfl
                  case c3 => unfold maxLen; omega
                  case c4 => omega
                  case c5 => simp; omega
                  intro v8 w8 hown8 hg8 hne8 hat8
                  have HBE : Hid (Below BM w3 w8) := hide (grown_below (Below.alloc (Below.refl _ _) HZ9.out _) hg8 (HO9.out.alloc _) (Nat.le_refl _) (by simp; omega))
                  have HO8 : Hid (w8.ownsRow BM 58 2 v8 (i + 1) (mvV (acc ++ [⟨ai, (i : Int)⟩]))) := hide (by rw [mvV_app]; exact hown8)
                  have HD8 : Hid (DrW w w8 B1 s5) := hide (HD9.out.keep (HBE.out.mono HBM.out))
                  have HA8 : Hid (w8.ownsRow B1 2 1 (.slice (some ⟨g, 0, none⟩) j cap) j (xs.map (Value.int .i64))) := hide (own_blk HA9.out (HBE.out.block g HGm.out))
                  have HZ8 : Hid (BM ≤ w8.heap.size) := hide (Nat.le_trans HZ9.out HBE.out.size)
                  clear hown8 hg8 hne8 hat8 HBE HO9 HD9 HA9 HZ9
                  go_wp2
                  exact ⟨⟨k, i + 1, s5, acc ++ [⟨ai, (i : Int)⟩], by omega, by go_num, hide (by rw [List.length_append, HAL.out]; rfl), HMS, HD8, HZ8, HA8, HO8⟩, by simp [intOf]; omega⟩
            | zero =>
              have HP4 : Hid (R = draw7 (shufP (j - 1) s5 acc)) := hide (by rw [HP3.out, ← HME.out]; rfl)
              clear HP3 HME
              have hin : i = j := by omega
              subst hin
              obtain ⟨gm, cm, rfl, hgm, hcm⟩ := own_some' HMq.out (by omega)
              have HGM := hide hgm.1
              clear hgm
              obtain ⟨nk, hnk⟩ : ∃ nk, i = nk + 1 := ⟨i - 1, by omega⟩
              have hni : (i : Int) - 1 = (nk : Int) := by omega
              have hnk64 : nk < 64 := by omega
              have HNK := hide hnk
              rw [show i - 1 = nk by omega] at HP4
              clear hnk
              go_wp2_with fail
              clear hni
              generalize wq = wo3 at *
              go_loopw [15] (fun u wq => ∃ (q : Nat) (s6 : Sr) (ys : List Mv), q ≤ nk ∧ u = .int .i64 q ∧ Hid (ys.length = i) ∧ Hid (shufP q s6 ys = shufP nk s5 acc) ∧ Hid (DrW w wq B1 s6) ∧ Hid (BM ≤ wq.heap.size) ∧ Hid (wq.ownsRow BM 58 2 (.slice (some ⟨gm, 0, none⟩) i cm) i (mvV ys))) (fun u _ => (intOf u).toNat)
              case atStart => exact ⟨nk, s5, acc, Nat.le_refl _, rfl, HAL, hide rfl, HDq, HZq, HMq⟩
              case round =>
                obtain ⟨q, s6, ys, hq, rfl, HYL, HYE, HDy, HZy, HMy⟩ := hrel
                clear HDq HZq HMq HAL
                cases q with
                | succ q =>
                  have HE2 : Hid (shufP q (nextP s6 ((q : Int) + 1 + 1)).2 (swapL ys (q + 1) (nextP s6 ((q : Int) + 1 + 1)).1.toNat) = shufP nk s5 acc) := HYE
                  have hr := next_lt s6 (n := (q : Int) + 1 + 1) (by omega)
                  go_wp2_with fail
                  refine (next_dr w wr _ s6 _ HDy (by omega) (by omega)).mono ?_
                  rintro e w4 ⟨rfl, hd, hgr⟩
                  obtain ⟨r, s7, hrs⟩ : ∃ r s', nextP s6 ((q : Int) + 1 + 1) = (r, s') := ⟨_, _, rfl⟩
                  rw [hrs] at hd HE2 hr ⊢
                  dsimp only at hd HE2 hr ⊢
                  obtain ⟨p, rfl⟩ := nat_of hr.1
                  have HO3 := hide (own_grown HMy.out hgr HBM1.out)
                  have HD3 := hide hd
                  have HZ3 := hide (Nat.le_trans HZy.out hgr.size)
                  clear hd hgr HYE hrs HDy HZy HMy
                  have hqi : q + 1 < i := by have := HNK.out; omega
                  have hpi : p < i := by omega
                  have hqx : q + 1 < ys.length := by have := HYL.out; omega
                  have hpx : p < ys.length := by have := HYL.out; omega
                  obtain ⟨eq0, eq1⟩ := own_move HO3.out hqx
                  obtain ⟨ep0, ep1⟩ := own_move HO3.out hpx
                  have hz := own_thaw HO3.out
                  have HSW := hide (swap_at ys hqx hpx)
                  rw [Int.toNat_natCast] at HE2
                  have HML : Hid ((swapL ys (q + 1) p).length = i) := hide ((swap_len _ _ _).trans HYL.out)
                  generalize ys[q + 1] = mq at *
                  generalize ys[p] = mp at *
                  have hgm4 : gm < w4.heap.size := (HO3.out.lt gm rfl).2
                  have hgn : w4.heap.size ≠ gm := by omega
                  have hgn' : gm ≠ w4.heap.size := by omega
                  have fa : ∀ ob o, (w4.alloc ob).cell? ⟨gm, o, none⟩ = w4.cell? ⟨gm, o, none⟩ := fun ob o => World.cell?_alloc_lt _ _ _ hgm4
                  have f1 : ((w4.setCell ⟨gm, (q + 1) * 2, none⟩ (.int .i64 mp.to)).setCell ⟨gm, (q + 1) * 2 + 1, none⟩ (.int .i64 mp.frm)).cell? ⟨gm, p * 2, none⟩ = some (.int .i64 mp.to) := set2_0 ep0
                  have f2 : ((w4.setCell ⟨gm, (q + 1) * 2, none⟩ (.int .i64 mp.to)).setCell ⟨gm, (q + 1) * 2 + 1, none⟩ (.int .i64 mp.frm)).cell? ⟨gm, p * 2 + 1, none⟩ = some (.int .i64 mp.frm) := set2_1 ep1
                  have f3 : (((w4.setCell ⟨gm, (q + 1) * 2, none⟩ (.int .i64 mp.to)).setCell ⟨gm, (q + 1) * 2 + 1, none⟩ (.int .i64 mp.frm)).setCell ⟨gm, p * 2, none⟩ (.int .i64 mq.to)).cell? ⟨gm, p * 2 + 1, none⟩ = some (.int .i64 mp.frm) := (set_other _ _ (by omega) _).trans f2
                  go_wp2
                  exact ⟨⟨q, s7, swapL ys (q + 1) p, by omega, rfl, HML, HE2, hide (HD3.out.keep (Below.alloc (((((Below.refl B1 w4).setCell (Nat.le_trans HBM.out HGM.out) _).setCell (Nat.le_trans HBM.out HGM.out) _).setCell (Nat.le_trans HBM.out HGM.out) _).setCell (Nat.le_trans HBM.out HGM.out) _) (by simp only [size_setCell]; exact HD3.out.sB) _)), hide (by rw [World.size_alloc]; simp only [size_setCell]; exact Nat.le_succ_of_le HZ3.out), hide (by
                    rw [HSW.out]
                    exact (own_setMv (own_setMv HO3.out mp) mq).alloc _)⟩, by simp [intOf]⟩
                | zero =>
                  have HP5 : Hid (R = draw7 (ys, s6)) := hide (by rw [HP4.out, ← HYE.out]; rfl)
                  clear HYE HP4
                  go_wp2_with fail
                  rw [show ((0 : Nat) : Int) = 0 from rfl]
                  refine (next_dr w wr _ s6 _ HDy (by omega) (by omega)).mono ?_
                  rintro e w4 ⟨rfl, hd, hgr⟩
                  obtain ⟨k, s7, hrs⟩ : ∃ r s', nextP s6 20 = (r, s') := ⟨_, _, rfl⟩
                  have hk := next_lt s6 (n := 20) (by omega)
                  rw [hrs] at hd hk ⊢
                  dsimp only at hd hk ⊢
                  have HK := hide hrs
                  have HD4 := hide hd
                  have HO4 := hide (own_grown HMy.out hgr HBM1.out)
                  have HZ4 := hide (Nat.le_trans HZy.out hgr.size)
                  clear hd hgr hrs HDy HMy HZy
                  go_wp2_with fail
                  refine (next_dr w w4 _ s7 _ HD4 (by omega) (by omega)).mono ?_
                  rintro e w6 ⟨rfl, hd, hgr⟩
                  obtain ⟨r, s8, hrs⟩ : ∃ r s', nextP s7 (i : Int) = (r, s') := ⟨_, _, rfl⟩
                  have hr := next_lt s7 (n := (i : Int)) (by omega)
                  rw [hrs] at hd hr ⊢
                  dsimp only at hd hr ⊢
                  obtain ⟨p, rfl⟩ := nat_of hr.1
                  have hpi : p < i := by omega
                  have HP6 : Hid (R = lastP k p ys s8) := hide (by
                    rw [HP5.out]
                    unfold draw7
                    dsimp only
                    rw [HK.out]
                    dsimp only
                    rw [HYL.out, hrs]
                    dsimp only
                    rw [Int.toNat_natCast])
                  have HD6 := hide hd
                  have HO6 := hide (own_grown HO4.out hgr HBM1.out)
                  have HZ6 := hide (Nat.le_trans HZ4.out hgr.size)
                  have hpx : p < ys.length := by have := HYL.out; omega
                  have h0x : 0 < ys.length := by have := HYL.out; omega
                  clear hd hgr hrs HD4 HO4 HZ4 HK HP5
                  have hgm6 : gm < w6.heap.size := (HO6.out.lt gm rfl).2
                  have hz := own_thaw HO6.out
                  obtain ⟨ep0, ep1⟩ := own_move HO6.out hpx
                  obtain ⟨e00, e01⟩ := own_move HO6.out h0x
                  have HPT := hide (fun t => mvV_setTo ys p t ⟨0, 0⟩ hpx)
                  have HPF := hide (fun t => mvV_setFrm ys p t ⟨0, 0⟩ hpx)
                  have HG0 : Hid ((ys.getD 0 ⟨0, 0⟩).to = ys[0].to) := hide (by simp [h0x])
                  have HGM' : Hid (w.heap.size ≤ gm) := hide (Nat.le_trans (Nat.le_of_lt HBM1.out) HGM.out)
                  generalize ys[p] = mp at *
                  generalize ys[0] = m0 at *
                  have hcs : k = 0 ∨ k = 1 ∨ k = 2 ∨ k = 3 ∨ k = 4 ∨ (¬ k = 0 ∧ ¬ k = 1 ∧ ¬ k = 2 ∧ ¬ k = 3 ∧ ¬ k = 4) := by omega
                  rcases hcs with rfl | rfl | rfl | rfl | rfl | ⟨q0, q1, q2, q3, q4⟩
                  · go_wp2_with fail
                    refine (next_dr w w6 _ s8 _ HD6 (by omega) (by omega)).mono ?_
                    rintro e w7 ⟨rfl, hd, hgr⟩
                    obtain ⟨r2, s9, hrs⟩ : ∃ r s', nextP s8 2 = (r, s') := ⟨_, _, rfl⟩
                    have hr2 := next_lt s8 (n := 2) (by omega)
                    rw [hrs] at hd hr2 ⊢
                    dsimp only at hd hr2 ⊢
                    have HR7 : Hid (R = ys.set p ⟨64 - r2, (ys.getD p ⟨0, 0⟩).frm⟩) := hide (by rw [HP6.out]; unfold lastP; rw [if_pos rfl, hrs])
                    have HD7 := hide hd
                    have HO7 := hide (own_grown HO6.out hgr HBM1.out)
                    have hne : some gm ≠ some w.heap.size := fun e => by injection e with e; have := HBM1.out; have := HGM.out; omega
                    have ep7 := hgr.cell ep0 hne
                    have hz7 := own_thaw HO7.out
                    clear hd hgr hrs HP6 HD6 HO6 hz ep0 ep1 e00 e01 hne
                    go_wp2
                    go_ret
                    refine ⟨_, rfl, HD7.out.low.setCell HGM'.out _, ?_⟩
                    rw [HR7.out, List.length_set, HYL.out, HPT.out]
                    exact own_base (own_set HO7.out _) (Nat.le_of_lt HBM1.out)
                  · go_wp2_with fail
                    refine (next_dr w w6 _ s8 _ HD6 (by omega) (by omega)).mono ?_
                    rintro e w7 ⟨rfl, hd, hgr⟩
                    obtain ⟨r2, s9, hrs⟩ : ∃ r s', nextP s8 2 = (r, s') := ⟨_, _, rfl⟩
                    have hr2 := next_lt s8 (n := 2) (by omega)
                    rw [hrs] at hd hr2 ⊢
                    dsimp only at hd hr2 ⊢
                    have HR7 : Hid (R = ys.set p ⟨(ys.getD p ⟨0, 0⟩).to, 64 - r2⟩) := hide (by rw [HP6.out]; unfold lastP; rw [if_neg (by decide), if_pos rfl, hrs])
                    have HD7 := hide hd
                    have HO7 := hide (own_grown HO6.out hgr HBM1.out)
                    have hne : some gm ≠ some w.heap.size := fun e => by injection e with e; have := HBM1.out; have := HGM.out; omega
                    have ep7 := hgr.cell ep1 hne
                    have hz7 := own_thaw HO7.out
                    clear hd hgr hrs HP6 HD6 HO6 hz ep0 ep1 e00 e01 hne
                    go_wp2
                    go_ret
                    refine ⟨_, rfl, HD7.out.low.setCell HGM'.out _, ?_⟩
                    rw [HR7.out, List.length_set, HYL.out, HPF.out]
                    exact own_base (own_set HO7.out _) (Nat.le_of_lt HBM1.out)
                  · have HR7 : Hid (R = ys.set p ⟨(ys.getD 0 ⟨0, 0⟩).to, (ys.getD p ⟨0, 0⟩).frm⟩) := hide (by rw [HP6.out]; unfold lastP; rw [if_neg (by decide), if_neg (by decide), if_pos rfl])
                    clear HP6
                    go_wp2_with fail
                    go_ret
                    refine ⟨_, rfl, HD6.out.low.setCell HGM'.out _, ?_⟩
                    rw [HR7.out, List.length_set, HYL.out, HPT.out, HG0.out]
                    exact own_base (own_set HO6.out _) (Nat.le_of_lt HBM1.out)
                  · have HR7 : Hid (R = ys.set p ⟨(ys.getD p ⟨0, 0⟩).to, -1⟩) := hide (by rw [HP6.out]; unfold lastP; rw [if_neg (by decide), if_neg (by decide), if_neg (by decide), if_pos rfl])
                    clear HP6
                    go_wp2_with fail
                    go_ret
                    refine ⟨_, rfl, HD6.out.low.setCell HGM'.out _, ?_⟩
                    rw [HR7.out, List.length_set, HYL.out, HPF.out]
                    exact own_base (own_set HO6.out _) (Nat.le_of_lt HBM1.out)
                  · have HR7 : Hid (R = ys ++ [⟨63, 0⟩]) := hide (by rw [HP6.out]; unfold lastP; rw [if_neg (by decide), if_neg (by decide), if_neg (by decide), if_neg (by decide), if_pos rfl])
                    clear HP6 ep0 ep1 e00 e01 hz
                    have hz6 := HZ6.out
                    go_wp2_with (at_builtin; refine wpList_append_own_at _ rfl _ _ 54 rfl BM 58 j0 (.agg #[.int .i64 0, .int .i64 0]) 2 16 Tryd.underlying54 hj0 hy0 hy1 hy2 rfl (by decide) _ _ _ rfl (HO6.out.alloc _) ⟨w6.heap.size, 0, none⟩ 1 1 [.int .i64 63, .int .i64 0] rfl rfl ?c1 ?c2 ?c3 ?c4 ?c5 ?_)
                    case c1 => exact mv_news _ _ _ _
                    case c2 => intro u hu; simp at hu; rcases hu with rfl | rfl <;> rfl
                    case c3 => unfold maxLen; omega
                    case c4 => omega
                    case c5 => simp; omega
                    intro v8 w8 hown8 hg8 hne8 hat8
                    have HBE : Hid (Below BM w6 w8) := hide (grown_below (Below.alloc (Below.refl _ _) HZ6.out _) hg8 (HO6.out.alloc _) (Nat.le_refl _) (by simp; omega))
                    have HO8 : Hid (w8.ownsRow BM 58 2 v8 (i + 1) (mvV (ys ++ [⟨63, 0⟩]))) := hide (by rw [mvV_app]; exact hown8)
                    have HD8 := hide (HD6.out.keep (HBE.out.mono HBM.out))
                    clear hown8 hg8 hne8 hat8 HBE HO6 HD6
                    go_wp2
                    go_ret
                    refine ⟨_, rfl, HD8.out.low, ?_⟩
                    rw [HR7.out, List.length_append, HYL.out]
                    exact own_base HO8.out (Nat.le_of_lt HBM1.out)
                  · have b0 : (k == 0) = false := by simpa using q0
                    have b1 : (k == 1) = false := by simpa using q1
                    have b2 : (k == 2) = false := by simpa using q2
                    have b3 : (k == 3) = false := by simpa using q3
                    have b4 : (k == 4) = false := by simpa using q4
                    have HR7 : Hid (R = ys) := hide (by rw [HP6.out]; unfold lastP; rw [if_neg q0, if_neg q1, if_neg q2, if_neg q3, if_neg q4])
                    clear q0 q1 q2 q3 q4 HP6
                    go_wp2_with fail
                    go_ret
                    rw [HR7.out]
                    exact ⟨_, rfl, HD6.out.low, by rw [HYL.out]; exact own_base HO6.out (Nat.le_of_lt HBM1.out)⟩
end Go.Proofs.YtlmaodcddbkllaaDoor
