import Derived.Test.YtlmaodcddbkllaaDoorDO1
import Derived.Test.YtlmaodcddbkllaaDoorRC1
import Derived.Test.YtlmaodcddbkllaaDoorW18b
/-
  Dominates of the model.
-/
namespace Go.Proofs.YtlmaodcddbkllaaDoor
open Go.RowKit

theorem natV_natI (F : List Nat) : natV F = (natI F).map (Value.int .i64) := by simp [natV, natI]
theorem hasI_nat {F : List Nat} {x : Nat} : hasI (natI F) (x : Int) = true ↔ x ∈ F := by
  unfold hasI
  rw [List.contains_iff_mem]
  unfold natI
  rw [List.mem_map]
  constructor
  · rintro ⟨a, h, e⟩
    have : a = x := Int.ofNat.inj e
    rw [← this]; exact h
  · exact fun h => ⟨x, h, rfl⟩
set_option maxHeartbeats 2000000 in
set_option maxRecDepth 100000 in
theorem dominatesS_any (v : Int) (a : Option Addr) (n c : Nat) (xs : List Blk) (L B : Nat) (x y : Int) (w : World) (ha : Hid (BlksAt w L B a xs)) (hx : Hid (n = xs.length)) (hs : Hid (xs.length + blksTot xs ≤ 1048576)) (hB : B ≤ w.heap.size) :
    Calls Tryd.prog 37 #[.agg #[.int .i64 v, .slice a n c], .int .i64 x, .int .i64 y] w fun e w' => e = .returned (.bool (domB v xs x y)) ∧ Below w.heap.size w w' := by
  have HVF := hide (fun W (hb : Below w.heap.size w W) => validFuncS_any v a n c xs L B W (hide (ha.out.keep (hb.mono hB))) hx hs (by have := hb.size; omega))
  have HRC : Hid (∀ W, Below w.heap.size w W → validI ⟨v, xs⟩ = true → ∀ z, Calls Tryd.prog 59 #[.agg #[.int .i64 v, .slice a n c], .int .i64 z] W fun e w' => ∃ v F, e = .returned v ∧ Below W.heap.size W w' ∧ w'.ownsRow W.heap.size 2 1 v F.length (natV F) ∧ F.Nodup ∧ ∀ x, x ∈ F ↔ AvZ (tgN xs) z x) := hide (fun W hb hv z => by
    have ok := ok_of_valid hv
    have h1 := ok.n1
    have h2 := ok.n2
    have h3 := hx.out
    exact reach_any v a n c z xs L B W (hide (ha.out.keep (hb.mono hB))) hx (by omega) (by omega) (by have := hb.size; omega) (hide (by rw [hx.out]; exact ok.tgt)))
  have HVS := hide (valid_same ⟨v, xs⟩)
  rw [← HVS.out] at HVF
  go_enter Tryd.func37, Tryd.ntmps37
  go_wp2_with fail
  refine (HVF.out _ (balloc (Below.refl _ _) _)).mono ?_
  rintro e w1 ⟨rfl, hb1⟩
  obtain ⟨hc1, hf1⟩ := bcell hb1
  have k0 : w1.cell? ⟨w.heap.size, 0, none⟩ = some (.int .i64 v) := by rw [hc1 _ _ (by simp)]; simp
  have k1 : w1.cell? ⟨w.heap.size, 1, none⟩ = some (.slice a n c) := by rw [hc1 _ _ (by simp)]; simp
  have HB1 := hide (bnext (balloc (Below.refl w.heap.size w) _) hb1)
  have hz1 : w.heap.size + 1 ≤ w1.heap.size := by have := hb1.size; simp at this; omega
  clear hc1 hf1 hb1 HVF
  cases hv : validI ⟨v, xs⟩ with
  | false =>
    have HD := hide (domB_bad (a := x) (b := y) hv)
    clear hv
    go_wp2_with fail
    go_ret
    exact ⟨ret_bool HD.out.symm, HB1.out⟩
  | true =>
    have HV := hide hv
    have HOK := hide (ok_of_valid hv)
    clear hv
    have hn2 : n ≤ 1000 := by have := HOK.out.n2; have := hx.out; omega
    have hn1 : 0 < n := by have := HOK.out.n1; have := hx.out; omega
    have HRE : Hid (∀ x, Re (tgN xs) x → x < n) := hide (by rw [hx.out]; exact HOK.out.re)
    by_cases hx0 : x < 0
    · have HD := hide (domB_false (v := v) (xs := xs) (a := x) (b := y) (fun h => by omega))
      go_wp2_with fail
      go_ret
      exact ⟨ret_bool HD.out.symm, HB1.out⟩
    · obtain ⟨p, rfl⟩ := Int.eq_ofNat_of_zero_le (show 0 ≤ x by omega)
      by_cases hpn : n ≤ p
      · have HD := hide (domB_false (v := v) (xs := xs) (a := (p : Int)) (b := y) (fun h => by have := HRE.out _ h.2.2.ra; omega))
        go_wp2_with fail
        go_ret
        exact ⟨ret_bool HD.out.symm, HB1.out⟩
      · by_cases hy0 : y < 0
        · have HD := hide (domB_false (v := v) (xs := xs) (a := (p : Int)) (b := y) (fun h => by omega))
          go_wp2_with fail
          go_ret
          exact ⟨ret_bool HD.out.symm, HB1.out⟩
        · obtain ⟨q, rfl⟩ := Int.eq_ofNat_of_zero_le (show 0 ≤ y by omega)
          by_cases hqn : n ≤ q
          · have HD := hide (domB_false (v := v) (xs := xs) (a := (p : Int)) (b := (q : Int)) (fun h => by have := HRE.out _ h.2.2.rb; omega))
            go_wp2_with fail
            go_ret
            exact ⟨ret_bool HD.out.symm, HB1.out⟩
          · have hp' : p < n := by omega
            have hq' : q < n := by omega
            clear hpn hqn hx0 hy0
            go_wp2_with fail
            generalize decide ((p : Int) < 0) = t1
            generalize decide (n ≤ p) = t2
            generalize decide ((q : Int) < 0) = t3
            generalize decide (n ≤ q) = t4
            generalize (t1 || t2) = t5
            generalize (t5 || t3) = t6
            generalize (t6 || t4) = t7
            refine (HRC.out w1 HB1.out HV.out (-1)).mono ?_
            rintro e w2 ⟨v2, F, rfl, hb2, ho2, hnd2, hm2⟩
            obtain ⟨a2, c2, rfl, hi2⟩ := ints_owned (xs := natI F) (by rw [← natV_natI]; exact ho2)
            have HM2 : Hid (∀ x, x ∈ F ↔ Re (tgN xs) x) := hide (fun x => (hm2 x).trans (avz_neg (by decide)))
            have hl2 : (natI F).length ≤ 1000 := by rw [natI_len]; exact Nat.le_trans (nodup_le hnd2 (fun x hx => HRE.out x ((HM2.out x).1 hx))) hn2
            have HHA := hide (l1Has_any a2 (natI F).length c2 p (natI F) w1.heap.size w2.heap.size w2 (hide hi2) (hide rfl) (by omega))
            have HB2 := hide (bnext HB1.out hb2)
            have l0 := (hb2.cell (p := ⟨w.heap.size, 0, none⟩) (by show w.heap.size < _; omega)).trans k0
            have l1 := (hb2.cell (p := ⟨w.heap.size, 1, none⟩) (by show w.heap.size < _; omega)).trans k1
            have hz2 := hb2.size
            clear hb2 ho2 hi2 hm2 hnd2 k0 k1
            generalize (natI F).length = lF at *
            go_wp2_with fail
            refine HHA.out.mono ?_
            rintro e w2' ⟨rfl, hw2⟩
            rw [hw2]
            clear hw2 HHA
            cases h1 : hasI (natI F) (p : Int) with
            | false =>
              have HD := hide (domB_false (v := v) (xs := xs) (a := (p : Int)) (b := (q : Int)) (fun h => by
                have : hasI (natI F) (p : Int) = true := hasI_nat.2 ((HM2.out p).2 h.2.2.ra)
                rw [h1] at this; cases this))
              clear h1
              go_wp2_with fail
              go_ret
              exact ⟨ret_bool HD.out.symm, HB2.out⟩
            | true =>
              have HP : Hid (Re (tgN xs) p) := hide ((HM2.out p).1 (hasI_nat.1 h1))
              clear h1 HM2
              go_wp2_with fail
              refine (HRC.out w2 HB2.out HV.out (-1)).mono ?_
              rintro e w3 ⟨v3, F3, rfl, hb3, ho3, hnd3, hm3⟩
              obtain ⟨a3, c3, rfl, hi3⟩ := ints_owned (xs := natI F3) (by rw [← natV_natI]; exact ho3)
              have HM3 : Hid (∀ x, x ∈ F3 ↔ Re (tgN xs) x) := hide (fun x => (hm3 x).trans (avz_neg (by decide)))
              have hl3 : (natI F3).length ≤ 1000 := by rw [natI_len]; exact Nat.le_trans (nodup_le hnd3 (fun x hx => HRE.out x ((HM3.out x).1 hx))) hn2
              have HHA := hide (l1Has_any a3 (natI F3).length c3 q (natI F3) w2.heap.size w3.heap.size w3 (hide hi3) (hide rfl) (by omega))
              have HB3 := hide (bnext HB2.out hb3)
              have m0 := (hb3.cell (p := ⟨w.heap.size, 0, none⟩) (by show w.heap.size < _; omega)).trans l0
              have m1 := (hb3.cell (p := ⟨w.heap.size, 1, none⟩) (by show w.heap.size < _; omega)).trans l1
              have hz3 := hb3.size
              clear hb3 ho3 hi3 hm3 hnd3 l0 l1
              generalize (natI F3).length = lF3 at *
              go_wp2_with fail
              refine HHA.out.mono ?_
              rintro e w3' ⟨rfl, hw3⟩
              rw [hw3]
              clear hw3 HHA
              cases h2 : hasI (natI F3) (q : Int) with
              | false =>
                have HD := hide (domB_false (v := v) (xs := xs) (a := (p : Int)) (b := (q : Int)) (fun h => by
                  have : hasI (natI F3) (q : Int) = true := hasI_nat.2 ((HM3.out q).2 h.2.2.rb)
                  rw [h2] at this; cases this))
                clear h2
                go_wp2_with fail
                go_ret
                exact ⟨ret_bool HD.out.symm, HB3.out⟩
              | true =>
                have HQ : Hid (Re (tgN xs) q) := hide ((HM3.out q).1 (hasI_nat.1 h2))
                clear h2 HM3
                go_wp2_with fail
                refine (HRC.out w3 HB3.out HV.out (p : Int)).mono ?_
                rintro e w4 ⟨v4, F4, rfl, hb4, ho4, hnd4, hm4⟩
                obtain ⟨a4, c4, rfl, hi4⟩ := ints_owned (xs := natI F4) (by rw [← natV_natI]; exact ho4)
                have HM4 : Hid (∀ x, x ∈ F4 ↔ Av (tgN xs) p x) := hide (fun x => (hm4 x).trans avz_nat)
                have hl4 : (natI F4).length ≤ 1000 := by rw [natI_len]; exact Nat.le_trans (nodup_le hnd4 (fun x hx => HRE.out x (av_re ((HM4.out x).1 hx)))) hn2
                have HHA := hide (l1Has_any a4 (natI F4).length c4 q (natI F4) w3.heap.size w4.heap.size w4 (hide hi4) (hide rfl) (by omega))
                have HB4 := hide (bnext HB3.out hb4)
                clear hb4 ho4 hi4 hm4 hnd4 m0 m1
                generalize (natI F4).length = lF4 at *
                go_wp2_with fail
                refine HHA.out.mono ?_
                rintro e w4' ⟨rfl, hw4⟩
                rw [hw4]
                clear hw4 HHA
                have HD : Hid (domB v xs (p : Int) (q : Int) = !hasI (natI F4) (q : Int)) := hide (by
                  cases h3 : hasI (natI F4) (q : Int) with
                  | false => exact domB_true HV.out ⟨by omega, by omega, HP.out, HQ.out, fun k => by rw [hasI_nat.2 ((HM4.out q).2 k)] at h3; cases h3⟩
                  | true => exact domB_false (fun h => h.2.2.no ((HM4.out q).1 (hasI_nat.1 h3))))
                generalize hasI (natI F4) (q : Int) = r4 at *
                go_wp2_with fail
                go_ret
                exact ⟨ret_bool HD.out.symm, HB4.out⟩
end Go.Proofs.YtlmaodcddbkllaaDoor
