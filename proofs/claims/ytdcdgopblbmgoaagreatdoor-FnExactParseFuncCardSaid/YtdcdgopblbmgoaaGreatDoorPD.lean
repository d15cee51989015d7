import Derived.Test.YtdcdgopblbmgoaaGreatDoorStr
import Derived.Test.YtdcdgopblbmgoaaGreatDoorW1
import Derived.Deep.RegionHeld3
/-
  Numbers of the text, the model's side: l1Digits, l1Amount, l1Index, l1IsConstant, l1Constant.
-/
namespace Go.Proofs.YtdcdgopblbmgoaaGreatDoor
open Go.RowKit

theorem strOf_at (f : List UInt8) (k : Nat) (h : k < (strOf f).size) : (strOf f)[k] = f[k]'(by rw [← strOf_size]; exact h) := rfl
theorem digitsOk_eq (f : List UInt8) (most : Nat) : digitsOk f most = (!(decide (f.length = 0) || decide (most < f.length) || (f.head? == some 48 && decide (1 < f.length))) && f.all isDig) := rfl

set_option maxHeartbeats 1000000 in
theorem l1Digits_any (f : List UInt8) (most : Nat) (hm : most ≤ 100) (w : World) :
    Calls Tryz.prog 26 #[.string (strOf f), .int .i64 most] w fun e w' => e = .returned (.bool (digitsOk f most)) ∧ w' = w := by
  have hsz : (strOf f).size = f.length := strOf_size f
  by_cases h0 : f.length = 0
  · have HR : Hid (digitsOk f most = false) := hide (by unfold digitsOk; simp [h0])
    go_enter Tryz.func26, Tryz.ntmps26
    go_wp2
    go_ret
    exact ⟨ret_bool HR.out.symm, rfl⟩
  by_cases h1 : most < f.length
  · have HR : Hid (digitsOk f most = false) := hide (by unfold digitsOk; simp [h1])
    go_enter Tryz.func26, Tryz.ntmps26
    go_wp2
    all_goals
      go_ret
      exact ⟨ret_bool HR.out.symm, rfl⟩
  have hp : 0 < (strOf f).size := by omega
  have HH : Hid ((f.head? == some 48) = decide ((((strOf f)[0]).toNat : Int) = 48)) := hide (by
    cases f with
    | nil => simp at h0
    | cons c r =>
      have e : (strOf (c :: r))[0] = c := rfl
      rw [e]
      by_cases hc : c = 48
      · subst hc; rfl
      · have : ¬ ((c.toNat : Int) = 48) := fun h => hc (UInt8.toNat_inj.1 (by show c.toNat = 48; omega))
        simp [hc, this])
  by_cases hz : ((((strOf f)[0]).toNat : Int) = 48) ∧ 1 < f.length
  · have HR : Hid (digitsOk f most = false) := hide (by unfold digitsOk; rw [HH.out]; simp [hz.1, hz.2])
    obtain ⟨z1, z2⟩ := hz
    go_enter Tryz.func26, Tryz.ntmps26
    go_wp2
    all_goals
      go_ret
      exact ⟨ret_bool HR.out.symm, rfl⟩
  have HREST : Hid (digitsOk f most = f.all isDig) := hide (by
    unfold digitsOk
    rw [HH.out]
    have e1 : (f.length == 0) = false := by simpa using h0
    have e2 : decide (most < f.length) = false := by simpa using h1
    have e3 : (decide ((((strOf f)[0]).toNat : Int) = 48) && decide (1 < f.length)) = false := by
      rw [Bool.and_eq_false_iff]
      by_cases q : (((strOf f)[0]).toNat : Int) = 48
      · exact Or.inr (by simpa using fun h => hz ⟨q, h⟩)
      · exact Or.inl (by simpa using q)
    rw [e1, e2, e3]; rfl)
  have hz' : (¬ ((((strOf f)[0]).toNat : Int) = 48)) ∨ ((((strOf f)[0]).toNat : Int) = 48 ∧ f.length ≤ 1) := by
    by_cases q : (((strOf f)[0]).toNat : Int) = 48
    · exact Or.inr ⟨q, by
        rcases Nat.lt_or_ge 1 f.length with h | h
        · exact absurd ⟨q, h⟩ hz
        · exact h⟩
    · exact Or.inl q
  clear hz
  rcases hz' with z1 | ⟨z1, z2⟩
  · go_enter Tryz.func26, Tryz.ntmps26
    go_wp2
    go_loop [5] (fun i => ∃ k : Nat, k ≤ f.length ∧ i = .int .i64 k ∧ Hid ((f.take k).all isDig = true)) (fun i => f.length - (intOf i).toNat)
    case atStart => exact ⟨0, Nat.zero_le _, rfl, rfl⟩
    case round =>
      obtain ⟨k, hk, rfl, HA⟩ := hrel
      by_cases hlt : k < f.length
      · have hks : k < (strOf f).size := by omega
        have HD : Hid (isDig (strOf f)[k] = true ↔ ¬ (((strOf f)[k]).toNat : Int) < 48 ∧ ¬ (57 : Int) < (((strOf f)[k]).toNat : Int)) := hide (by simp only [isDig, Bool.and_eq_true, decide_eq_true_eq]; omega)
        have HT : Hid ((f.take (k + 1)).all isDig = ((f.take k).all isDig && isDig (strOf f)[k])) := hide (by rw [List.take_succ_eq_append_getElem hlt, List.all_append]; simp [strOf_at])
        have HF : Hid (isDig (strOf f)[k] = false → digitsOk f most = false) := hide (fun h => HREST.out.trans (by
          rw [List.all_eq_false]
          exact ⟨f[k], List.getElem_mem hlt, by have e : isDig f[k] = false := h; rw [e]; simp⟩))
        by_cases c1 : (((strOf f)[k]).toNat : Int) < 48
        · have HV := hide (HF.out (by cases h : isDig (strOf f)[k] with | false => rfl | true => exact absurd c1 (HD.out.1 h).1))
          go_wp2
          go_ret
          exact ⟨ret_bool HV.out.symm, rfl⟩
        · by_cases c2 : (57 : Int) < (((strOf f)[k]).toNat : Int)
          · have HV := hide (HF.out (by cases h : isDig (strOf f)[k] with | false => rfl | true => exact absurd c2 (HD.out.1 h).2))
            go_wp2
            go_ret
            exact ⟨ret_bool HV.out.symm, rfl⟩
          · have HA2 : Hid ((f.take (k + 1)).all isDig = true) := hide (by rw [HT.out, HA.out, HD.out.2 ⟨c1, c2⟩]; rfl)
            go_wp2
            go_round
            case rel => exact ⟨k + 1, by omega, by go_num, HA2⟩
            case measure => simp [intOf]; omega
      · have HV : Hid (digitsOk f most = true) := hide (by rw [HREST.out]; have := HA.out; rwa [List.take_of_length_le (by omega)] at this)
        go_wp2
        go_ret
        exact ⟨ret_bool HV.out.symm, rfl⟩
  · have hl1 : f.length = 1 := by omega
    have z3 : ¬ ((1 : Int) < (f.length : Int)) := by omega
    clear z2
    go_enter Tryz.func26, Tryz.ntmps26
    go_wp2
    go_loop [5] (fun i => ∃ k : Nat, k ≤ f.length ∧ i = .int .i64 k ∧ Hid ((f.take k).all isDig = true)) (fun i => f.length - (intOf i).toNat)
    case atStart => exact ⟨0, Nat.zero_le _, rfl, rfl⟩
    case round =>
      obtain ⟨k, hk, rfl, HA⟩ := hrel
      by_cases hlt : k < f.length
      · have hks : k < (strOf f).size := by omega
        have HD : Hid (isDig (strOf f)[k] = true ↔ ¬ (((strOf f)[k]).toNat : Int) < 48 ∧ ¬ (57 : Int) < (((strOf f)[k]).toNat : Int)) := hide (by simp only [isDig, Bool.and_eq_true, decide_eq_true_eq]; omega)
        have HT : Hid ((f.take (k + 1)).all isDig = ((f.take k).all isDig && isDig (strOf f)[k])) := hide (by rw [List.take_succ_eq_append_getElem hlt, List.all_append]; simp [strOf_at])
        have HF : Hid (isDig (strOf f)[k] = false → digitsOk f most = false) := hide (fun h => HREST.out.trans (by
          rw [List.all_eq_false]
          exact ⟨f[k], List.getElem_mem hlt, by have e : isDig f[k] = false := h; rw [e]; simp⟩))
        by_cases c1 : (((strOf f)[k]).toNat : Int) < 48
        · have HV := hide (HF.out (by cases h : isDig (strOf f)[k] with | false => rfl | true => exact absurd c1 (HD.out.1 h).1))
          go_wp2
          go_ret
          exact ⟨ret_bool HV.out.symm, rfl⟩
        · by_cases c2 : (57 : Int) < (((strOf f)[k]).toNat : Int)
          · have HV := hide (HF.out (by cases h : isDig (strOf f)[k] with | false => rfl | true => exact absurd c2 (HD.out.1 h).2))
            go_wp2
            go_ret
            exact ⟨ret_bool HV.out.symm, rfl⟩
          · have HA2 : Hid ((f.take (k + 1)).all isDig = true) := hide (by rw [HT.out, HA.out, HD.out.2 ⟨c1, c2⟩]; rfl)
            go_wp2
            go_round
            case rel => exact ⟨k + 1, by omega, by go_num, HA2⟩
            case measure => simp [intOf]; omega
      · have HV : Hid (digitsOk f most = true) := hide (by rw [HREST.out]; have := HA.out; rwa [List.take_of_length_le (by omega)] at this)
        go_wp2
        go_ret
        exact ⟨ret_bool HV.out.symm, rfl⟩
end Go.Proofs.YtdcdgopblbmgoaaGreatDoor

/-
  l1Amount, l1Index of the model.
-/
namespace Go.Proofs.YtdcdgopblbmgoaaGreatDoor
open Go.RowKit

set_option maxHeartbeats 1000000 in
set_option maxRecDepth 100000 in
theorem l1Amount_any (n : Nat) : ∀ (f : List UInt8), f.length = n → f.all isDig = true → n ≤ 10 → ∀ w : World, Calls Tryz.prog 27 #[.string (strOf f)] w fun e w' => e = .returned (.int .i64 (amount f : Nat)) ∧ Below w.heap.size w w' := by
  induction n with
  | zero =>
    intro f hn _ _ w
    have hf : f = [] := List.length_eq_zero_iff.1 hn
    subst hf
    clear hn
    have hs : (strOf []).size = 0 := rfl
    go_enter Tryz.func27, Tryz.ntmps27
    go_wp2
    go_ret
    exact ⟨rfl, Below.refl _ _⟩
  | succ n ih =>
    intro f hn hd hl w
    have hne : f ≠ [] := by intro h; rw [h] at hn; simp at hn
    obtain ⟨g, c, rfl⟩ : ∃ g c, f = g ++ [c] := ⟨f.dropLast, f.getLast hne, (List.dropLast_concat_getLast hne).symm⟩
    have hgl : g.length = n := by simpa using hn
    rw [List.all_append, Bool.and_eq_true] at hd
    obtain ⟨hd1, hd2⟩ := hd
    have IH := hide (ih g hgl hd1 (by omega))
    clear ih
    have hsz : (strOf (g ++ [c])).size = n + 1 := by rw [strOf_size]; exact hn
    have HE : Hid ((strOf (g ++ [c])).extract 0 n = strOf g) := hide (by
      apply ByteArray.ext
      simp [strOf, ByteArray.data_extract, ← hgl])
    have hlt : n < (strOf (g ++ [c])).size := by omega
    have hc : (strOf (g ++ [c]))[n] = c := by
      show (g ++ [c])[n]'(by simp [hgl]) = c
      simp [← hgl]
    have hcd : (48 : Int) ≤ (c.toNat : Int) ∧ (c.toNat : Int) ≤ 57 := by
      simp only [List.all_cons, List.all_nil, Bool.and_true, isDig, Bool.and_eq_true, decide_eq_true_eq] at hd2; omega
    have HA : Hid ((amount (g ++ [c]) : Int) = amount g * 10 + ((c.toNat : Int) - 48)) := hide (by rw [amount_snoc]; omega)
    have hab : (amount g : Int) < 10000000000 := by
      have h1 := amount_lt g hd1
      have h2 : 10 ^ g.length ≤ 10 ^ 10 := Nat.pow_le_pow_right (by decide) (by omega)
      have h3 : (10 : Nat) ^ 10 = 10000000000 := by decide
      omega
    clear hd1 hd2 hne hn
    have HGL := hide hgl
    have hn10 : n ≤ 9 := by omega
    clear hgl
    generalize strOf (g ++ [c]) = F at *
    have HSZ := hide hsz
    clear hsz
    have hlt' : (n : Int) < (F.size : Int) := by omega
    have hs1 : ¬ ((F.size : Int) = 0) := by omega
    have hs2 : F.size ≤ 10 := by have := HSZ.out; omega
    have hs9 : ((F.size : Int) == 0) = false := by simpa using hs1
    have HAB := hide hab
    clear hab
    have hfn : (F.size : Int) - 1 = (n : Int) := by have := HSZ.out; omega
    have hw1 : IntKind.i64.wrap ((F.size : Int) - 1) = (n : Int) := by rw [IntKind.wrap_i64, hfn]; omega
    have hw2 : IntKind.i64.wrap ((n : Int)) = (n : Int) := by rw [IntKind.wrap_i64]; omega
    have hn0 : (0 : Int) ≤ (n : Int) := by omega
    have hn1 : (n : Int) ≤ (F.size : Int) := by omega
    have IH' : Hid (∀ w, Calls Tryz.prog 27 #[.string (F.extract 0 n)] w fun e w' => e = .returned (.int .i64 (amount g : Nat)) ∧ Below w.heap.size w w') := hide (by rw [HE.out]; exact IH.out)
    go_enter Tryz.func27, Tryz.ntmps27
    go_wp2_with fail
    go_region_held3 (fun _ => True) (trivial) ((go_at_call 27; refine (IH'.out _).mono ?_; rintro e w1 ⟨rfl, hw1⟩))
    all_goals
      go_wp2
      go_ret
      refine ⟨ret_int ?_, ?_⟩
      · rw [HA.out]
        have := HAB.out
        have e1 : IntKind.u8.wrap ((c.toNat : Int) - 48) = (c.toNat : Int) - 48 := by simp [IntKind.wrap, IntKind.signed, IntKind.bits]; omega
        have e2 : IntKind.i64.wrap ((c.toNat : Int) - 48) = (c.toNat : Int) - 48 := by rw [IntKind.wrap_i64]; omega
        have e3 : IntKind.i64.wrap ((amount g : Int) * 10) = (amount g : Int) * 10 := by rw [IntKind.wrap_i64]; omega
        rw [e1, e2, e3, IntKind.wrap_i64]
        omega
      · exact (Below.refl _ _).drew.trans hw1

set_option maxHeartbeats 1000000 in
theorem l1Index_any (f : List UInt8) (w : World) :
    Calls Tryz.prog 15 #[.string (strOf f)] w fun e w' => e = .returned (.int .i64 (idx f)) ∧ Below w.heap.size w w' := by
  have HD := fun w => hide (l1Digits_any f 4 (by decide) w)
  cases h : digitsOk f 4 with
  | false =>
    have HV : Hid (idx f = -1) := hide (by unfold idx; rw [h]; rfl)
    have HH := hide h
    clear h
    go_enter Tryz.func15, Tryz.ntmps15
    go_wp2_with (go_at_call 26; refine (HD _).out.mono ?_; rintro e w1 ⟨rfl, hw1⟩; rw [hw1, HH.out]; clear hw1 w1)
    go_ret
    exact ⟨ret_int HV.out.symm, Below.refl _ _⟩
  | true =>
    have HV : Hid (idx f = (amount f : Nat)) := hide (by unfold idx; rw [h]; rfl)
    have HH := hide h
    have hq : f.length ≤ 4 ∧ f.all isDig = true := by
      unfold digitsOk at h
      simp only [Bool.and_eq_true, Bool.not_eq_true', Bool.or_eq_false_iff, decide_eq_false_iff_not] at h
      exact ⟨by omega, h.2⟩
    have HAm := fun w => hide (l1Amount_any f.length f rfl hq.2 (by omega) w)
    clear h hq
    go_enter Tryz.func15, Tryz.ntmps15
    go_wp2_with (first | (go_at_call 26; refine (HD _).out.mono ?_; rintro e w1 ⟨rfl, hw1⟩; rw [hw1, HH.out]; clear hw1 w1) | (go_at_call 27; refine (HAm _).out.mono ?_; rintro e w1 ⟨rfl, hb1⟩))
    go_ret
    exact ⟨ret_int HV.out.symm, hb1⟩
end Go.Proofs.YtdcdgopblbmgoaaGreatDoor
