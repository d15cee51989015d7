import Derived.Test.YtdcdgopblbmgoaaDoorSQ17
/-
  Sequence: the law, whole.
-/
namespace Go.Proofs.YtdcdgopblbmgoaaDoor
open Go.RowKit
attribute [local go_sem ↓] Go.wp_at_zero Go.wp_at_succ

theorem seq_len (xs : List Mv) : (seqM xs).length ≤ 128 := by
  by_cases hg : goodM xs = true
  · obtain ⟨h64, hgood⟩ := goodM_good hg
    unfold seqM
    rw [if_pos hg]
    refine Nat.le_trans (emitM_len _ _) ?_
    have : (startM xs).length ≤ xs.length := List.length_filter_le _ _
    omega
  · unfold seqM
    rw [if_neg hg]
    exact Nat.zero_le _
theorem iw_below {w W W' : World} {L B : Nat} (h : IW L B W W') (k : Below w.heap.size w W) (hL : w.heap.size ≤ L) : Below w.heap.size w W' := k.trans ⟨h.os, h.tape, h.output, Nat.le_of_eq h.size.symm, fun q hq => h.block q (by omega)⟩
/-- What the law keeps in its hands: the model's copies, the argument, the program's copies. -/
structure LQ (w : World) (P X R S : Nat) (a0 a4 : Option Addr) (xs : List Mv) (is : List Ins) (W : World) : Prop where
  below : Below w.heap.size w W
  f : CpsAt W P X a0 is
  g : CpsAt W R S a4 is
  x : MvsAt W X R (some ⟨X, 0, none⟩) xs
  y : ThawB X R W
  z : w.heap.size ≤ P ∧ P ≤ X ∧ X ≤ R ∧ R ≤ S ∧ S ≤ W.heap.size
theorem LQ.next {w : World} {P X R S : Nat} {a0 a4 : Option Addr} {xs : List Mv} {is : List Ins} {W W' : World} (h : LQ w P X R S a0 a4 xs is W) (k : Below W.heap.size W W') : LQ w P X R S a0 a4 xs is W' := by
  have hz := h.z
  have hs := k.size
  exact ⟨bnext h.below k, h.f.keepS (fun q _ q2 => k.block q (by omega)), h.g.keepS (fun q _ q2 => k.block q (by omega)), h.x.keepS (fun q _ q2 => k.block q (by omega)), h.y.keepS (fun q _ q2 => k.block q (by omega)), by omega⟩
set_option maxRecDepth 100000 in
set_option maxHeartbeats 4000000 in
theorem lawSeq_any (a : Option Addr) (n c : Nat) (xs : List Mv) (w : World) (ha : Hid (MvsAt w 0 w.heap.size a xs)) (hx : Hid (n = xs.length)) (hn : n ≤ 9223372036854775807) (hr : Hid (∀ m ∈ xs, -9223372036854775808 ≤ m.to ∧ m.to ≤ 9223372036854775807)) (hO : Hid (OpTabW w)) :
    Calls Tryd.prog 6 #[.slice a n c] w fun e w' => e = .returned (.bool true) ∧ Below w.heap.size w w' := by
  have HSZ := hide (szMoves_any a n c 1048576 w hn (by omega) (by omega))
  by_cases hbig : 1048576 < n
  · rw [szR_neg (by omega)] at HSZ
    go_enter Tryd.func6, Tryd.ntmps6
    go_wp2_with (go_at_call 29; refine HSZ.out.mono ?_; rintro e w' ⟨rfl, rfl⟩)
    go_ret
    exact ⟨rfl, Below.refl _ _⟩
  have hnn : n ≤ 1048576 := by omega
  rw [szR_pos (by omega)] at HSZ
  have HI : Hid (∀ (W : World) (L B : Nat) (a : Option Addr), Below w.heap.size w W → B ≤ W.heap.size → MvsAt W L B a xs → Calls Tryd.prog 32 #[.slice a n n] W fun e w' => ∃ a' c', e = .returned (.slice a' (seqM xs).length c') ∧ Below W.heap.size W w' ∧ CpsAt w' W.heap.size w'.heap.size a' (seqM xs)) := hide (fun W L B a k hB hb => by
    refine (seqI_any a n n xs L B W (hide hb) hx hnn hB hr (hide (hO.out.keep k hO.out.1))).mono ?_
    rintro e w' ⟨v, rfl, _, hb', ho⟩
    obtain ⟨a', c', rfl, h⟩ := cps_owned ho
    exact ⟨a', c', rfl, hb', h⟩)
  have HSP : Hid (∀ (W : World) (L B : Nat) (a : Option Addr), B ≤ W.heap.size → MvsAt W L B a xs → Calls Tryd.prog 30 #[.slice a n n] W fun e w' => ∃ a' c', e = .returned (.slice a' (seqM xs).length c') ∧ Below W.heap.size W w' ∧ CpsAt w' W.heap.size w'.heap.size a' (seqM xs)) := hide (fun W L B a hB hb => by
    refine (seqS_any a n n xs L B W (hide hb) hx hnn hB).mono ?_
    rintro e w' ⟨v, rfl, _, hb', ho⟩
    obtain ⟨a', c', rfl, h⟩ := cps_owned ho
    exact ⟨a', c', rfl, hb', h⟩)
  have hlen := seq_len xs
  clear hO hr hbig
  generalize seqM xs = is at *
  go_enter Tryd.func6, Tryd.ntmps6
  go_wp2_with fail
  refine HSZ.out.mono ?_
  rintro e w' ⟨rfl, hw'⟩
  rw [hw']
  clear hw' w'
  have hz1 : ¬ ((1048576 : Int) - n < 0) := by omega
  go_wp2_with fail
  refine (toMoves_any a n c xs 0 w.heap.size w ha hx hnn (Nat.le_refl _)).mono ?_
  rintro e w1 ⟨rfl, hb1, hi1, -⟩
  have s1 := hb1.size
  have HB1 := hide hb1
  have HI1 := hide hi1
  clear hb1 hi1
  go_wp2_with fail
  refine (HSP.out w1 _ _ _ (Nat.le_refl _) HI1.out).mono ?_
  rintro e w2 ⟨a0, c0, rfl, hb2, hf2⟩
  have s2 := hb2.size
  have HB2 := hide (bnext HB1.out hb2)
  have HF2 := hide hf2
  clear hb2 hf2 HI1
  go_wp2_with fail
  refine (toMoves_any a n c xs 0 w.heap.size w2 (hide (ha.out.keep HB2.out)) hx hnn (by omega)).mono ?_
  rintro e w3 ⟨rfl, hb3, hi3, ht3⟩
  have s3 := hb3.size
  have HB3 := hide (bnext HB2.out hb3)
  have HF3 := hide (HF2.out.keepS (w' := w3) (fun q _ q2 => hb3.block q q2))
  have HI3 := hide hi3
  have HT3 := hide ht3
  clear hb3 hi3 ht3 HF2 HB2
  go_wp2_with fail
  refine (HI.out w3 _ _ _ HB3.out (Nat.le_refl _) HI3.out).mono ?_
  rintro e w4 ⟨a4, c4, rfl, hb4, hg4⟩
  have s4 := hb4.size
  have HL4 : Hid (LQ w w1.heap.size w2.heap.size w3.heap.size w4.heap.size a0 a4 xs is w4) := hide ⟨bnext HB3.out hb4, HF3.out.keepS (fun q _ q2 => hb4.block q (by omega)), hg4, HI3.out.keepS (fun q _ q2 => hb4.block q q2), (ThawB.of (B := w3.heap.size) HT3.out).keepS (fun q _ q2 => hb4.block q q2), by omega⟩
  clear hb4 hg4 HB3 HF3 HI3 HT3
  have z4 := HL4.out.z
  go_wp2_with fail
  refine (eqInstrs_yes a4 a0 is.length c4 c0 is w3.heap.size w4.heap.size w1.heap.size w2.heap.size _ (hide HL4.out.g.inss) (hide HL4.out.f.inss) (hide rfl) (by omega) (by omega) (by omega)).mono ?_
  rintro e w5 ⟨rfl, hb5⟩
  have HL5 := hide (HL4.out.next hb5)
  have z5 := HL5.out.z
  clear hb5 HL4
  go_wp2_with fail
  refine (toMoves_any a n c xs 0 w.heap.size _ (hide (ha.out.keep HL5.out.below)) hx hnn (by omega)).mono ?_
  rintro e w6 ⟨rfl, hb6, hi6, -⟩
  have HL6 := hide (HL5.out.next hb6)
  have z6 := HL6.out.z
  have s6 := hb6.size
  have HI6 := hide hi6
  clear hb6 hi6 HL5
  go_wp2_with fail
  refine (eqMoves_yes _ _ n n n xs w2.heap.size w3.heap.size w5.heap.size w6.heap.size _ (hide HL6.out.x) HI6 hx (by omega) (by omega) (Nat.le_refl _)).mono ?_
  rintro e w7 ⟨rfl, hb7⟩
  have HL7 := hide (HL6.out.next hb7)
  have z7 := HL7.out.z
  clear hb7 HL6 HI6
  go_wp2_with fail
  refine (markMoves_any _ n n 1 xs w2.heap.size w3.heap.size _ (hide HL7.out.x) hx (hide HL7.out.y) (by omega) (by omega) (by omega)).mono ?_
  rintro e w8 ⟨rfl, hm8⟩
  have s8 : w7.heap.size ≤ w8.heap.size := Nat.le_of_eq hm8.size.symm
  have HB8 := hide (iw_below hm8 HL7.out.below (by omega))
  have HF8 := hide (HL7.out.f.keepS (w' := w8) (fun q q1 q2 => hm8.block q (by omega)))
  have HG8 := hide (HL7.out.g.keepS (w' := w8) (fun q q1 q2 => hm8.block q (by omega)))
  clear hm8 HL7
  have hk8 : ¬ (1 + 2 * (n : Int) < 0) := by omega
  go_wp2_with fail
  refine (eqInstrs_yes a4 a0 is.length c4 c0 is w3.heap.size w4.heap.size w1.heap.size w2.heap.size _ (hide HG8.out.inss) (hide HF8.out.inss) (hide rfl) (by omega) (by omega) (by omega)).mono ?_
  rintro e w9 ⟨rfl, hb9⟩
  have s9 := hb9.size
  have HB9 := hide (bnext HB8.out hb9)
  have HF9 := hide (HF8.out.keepS (w' := w9) (fun q q1 q2 => hb9.block q (by omega)))
  have HG9 := hide (HG8.out.keepS (w' := w9) (fun q q1 q2 => hb9.block q (by omega)))
  clear hb9 HB8 HF8 HG8
  go_wp2_with fail
  refine (markCps_any a4 is.length c4 1 is w3.heap.size w4.heap.size _ HG9 (hide rfl) (by omega) (by omega) (by omega)).mono ?_
  rintro e w10 ⟨rfl, hm10, hq10⟩
  have s10 : w9.heap.size ≤ w10.heap.size := Nat.le_of_eq hm10.size.symm
  have HB10 := hide (iw_below hm10 HB9.out (by omega))
  have HF10 := hide (HF9.out.keepS (w' := w10) (fun q q1 q2 => hm10.block q (by omega)))
  have HQ10 := hide hq10
  clear hm10 hq10 HB9 HF9 HG9
  go_wp2_with fail
  refine (heldCps_any a4 is.length c4 1 w3.heap.size w4.heap.size _ HQ10 (by omega) (by omega) (by omega)).mono ?_
  rintro e w11 ⟨rfl, rfl⟩
  have hqp : ¬ (1 + 5 * (is.length : Int) < 0) := by omega
  have hqe : (1 + 5 * (is.length : Int) != 1 + 5 * (is.length : Int)) = false := by simp
  go_wp2_with fail
  refine (toMoves_any a n c xs 0 w.heap.size _ (hide (ha.out.keep HB10.out)) hx hnn (by omega)).mono ?_
  rintro e w12 ⟨rfl, hb12, hi12, -⟩
  have s12 := hb12.size
  have HB12 := hide (bnext HB10.out hb12)
  have HF12 := hide (HF10.out.keepS (w' := w12) (fun q q1 q2 => hb12.block q (by omega)))
  have HI12 := hide hi12
  clear hb12 hi12 HB10 HF10 HQ10 hqp hqe hk8 hz1
  go_wp2_with fail
  refine (HI.out w12 _ _ _ HB12.out (Nat.le_refl _) HI12.out).mono ?_
  rintro e w13 ⟨a13, c13, rfl, hb13, hg13⟩
  have s13 := hb13.size
  have HB13 := hide (bnext HB12.out hb13)
  have HF13 := hide (HF12.out.keepS (w' := w13) (fun q q1 q2 => hb13.block q (by omega)))
  have HG13 := hide hg13
  clear hb13 hg13 HB12 HF12 HI12
  go_wp2_with fail
  refine (eqInstrs_yes a13 a0 is.length c13 c0 is w12.heap.size w13.heap.size w1.heap.size w2.heap.size _ (hide HG13.out.inss) (hide HF13.out.inss) (hide rfl) (by omega) (by omega) (by omega)).mono ?_
  rintro e w14 ⟨rfl, hb14⟩
  have HB14 := hide (bnext HB13.out hb14)
  clear hb14
  go_wp2
  go_ret
  exact ⟨rfl, HB14.out⟩
end Go.Proofs.YtdcdgopblbmgoaaDoor
