import Derived.Test.YtdcdgopblbmgoaaGreatDoorPD
import Derived.Test.YtdcdgopblbmgoaaGreatDoorW1
import Derived.Test.YtdcdgopblbmgoaaGreatDoorIw
/-
  l1IsConstant, l1Constant of the model.
-/
namespace Go.Proofs.YtdcdgopblbmgoaaGreatDoor
open Go.RowKit

theorem isC_neg (c : UInt8) (r : List UInt8) : isC (45 :: c :: r) = (c != 48 && isC (c :: r) && c != 45) := by rw [isC]
theorem isC_pos (f : List UInt8) (h : ∀ c r, f ≠ 45 :: c :: r) : isC f = (digitsOk f 10 && decide (amount f ≤ 1000000000)) := by
  rw [isC]
  intro c r e
  exact h c r e
theorem digits_all {f : List UInt8} {m : Nat} (h : digitsOk f m = true) : f.length ≤ m ∧ f.all isDig = true ∧ 0 < f.length := by
  unfold digitsOk at h
  simp only [Bool.and_eq_true, Bool.not_eq_true', Bool.or_eq_false_iff, decide_eq_false_iff_not, beq_eq_false_iff_ne] at h
  exact ⟨by omega, h.2, by omega⟩

theorem no_minus : ∀ (f : List UInt8) (_ : ∀ c r, f ≠ 45 :: c :: r) (_ : 1 < f.length) (h0 : 0 < (strOf f).size), ¬ ((((strOf f)[0]).toNat : Int) = 45)
  | c :: d :: r, h, _, _, e => h d r (by rw [show c = 45 from UInt8.toNat_inj.1 (by have : (c.toNat : Int) = 45 := e; show c.toNat = 45; omega)])
  | [_], _, q, _, _ => absurd q (by simp)
  | [], _, q, _, _ => absurd q (by simp)

set_option maxHeartbeats 1000000 in
theorem isConstant_pos (f : List UInt8) (h : ∀ c r, f ≠ 45 :: c :: r) (w : World) :
    Calls Tryz.prog 30 #[.string (strOf f)] w fun e w' => e = .returned (.bool (isC f)) ∧ Below w.heap.size w w' := by
  have HR := hide (isC_pos f h)
  have HD := fun w => hide (l1Digits_any f 10 (by decide) w)
  have hsz : (strOf f).size = f.length := strOf_size f
  have hcond : f.length ≤ 1 ∨ (1 < f.length ∧ ∃ h0 : 0 < (strOf f).size, ¬ ((((strOf f)[0]).toNat : Int) = 45)) := by
    rcases Nat.lt_or_ge 1 f.length with q | q
    · right
      exact ⟨q, by omega, no_minus f h q (by omega)⟩
    · exact Or.inl q
  cases hd : digitsOk f 10 with
  | false =>
    have HH := hide hd
    have HV : Hid (isC f = false) := hide (by rw [HR.out, hd]; rfl)
    clear hd
    rcases hcond with q | ⟨q, h0, q2⟩
    · go_enter Tryz.func30, Tryz.ntmps30
      go_wp2_with (go_at_call 26; refine (HD _).out.mono ?_; rintro e w1 ⟨rfl, hw1⟩; rw [hw1, HH.out]; clear hw1 w1)
      go_ret
      exact ⟨ret_bool HV.out.symm, Below.refl _ _⟩
    · go_enter Tryz.func30, Tryz.ntmps30
      go_wp2_with (go_at_call 26; refine (HD _).out.mono ?_; rintro e w1 ⟨rfl, hw1⟩; rw [hw1, HH.out]; clear hw1 w1)
      go_ret
      exact ⟨ret_bool HV.out.symm, Below.refl _ _⟩
  | true =>
    have HH := hide hd
    have hq := digits_all hd
    have HAm := fun w => hide (l1Amount_any f.length f rfl hq.2.1 hq.1 w)
    have HV : Hid (isC f = decide ((amount f : Int) ≤ 1000000000)) := hide (by
      rw [HR.out, hd, Bool.true_and]
      by_cases q : amount f ≤ 1000000000
      · rw [decide_eq_true q, decide_eq_true (by omega)]
      · rw [decide_eq_false q, decide_eq_false (by omega)])
    clear hd hq
    rcases hcond with q | ⟨q, h0, q2⟩
    · go_enter Tryz.func30, Tryz.ntmps30
      go_wp2_with (first | (go_at_call 26; refine (HD _).out.mono ?_; rintro e w1 ⟨rfl, hw1⟩; rw [hw1, HH.out]; clear hw1 w1) | (go_at_call 27; refine (HAm _).out.mono ?_; rintro e w1 ⟨rfl, hb1⟩))
      go_ret
      exact ⟨ret_bool HV.out.symm, hb1⟩
    · go_enter Tryz.func30, Tryz.ntmps30
      go_wp2_with (first | (go_at_call 26; refine (HD _).out.mono ?_; rintro e w1 ⟨rfl, hw1⟩; rw [hw1, HH.out]; clear hw1 w1) | (go_at_call 27; refine (HAm _).out.mono ?_; rintro e w1 ⟨rfl, hb1⟩))
      go_ret
      exact ⟨ret_bool HV.out.symm, hb1⟩

set_option maxHeartbeats 1000000 in
set_option maxRecDepth 100000 in
theorem l1IsConstant_any (n : Nat) : ∀ (f : List UInt8), f.length ≤ n → f.length ≤ 1000000 → ∀ w : World, Calls Tryz.prog 30 #[.string (strOf f)] w fun e w' => e = .returned (.bool (isC f)) ∧ Below w.heap.size w w' := by
  induction n with
  | zero =>
    intro f hf _ w
    exact isConstant_pos f (fun c r e => by rw [e] at hf; simp at hf) w
  | succ n ih =>
    intro f hf hf6 w
    by_cases hp : ∀ c r, f ≠ 45 :: c :: r
    · exact isConstant_pos f hp w
    · have hp : ∃ c r, f = 45 :: c :: r := by
        false_or_by_contra
        rename_i q
        exact hp (fun c r e => q ⟨c, r, e⟩)
      obtain ⟨c, r, rfl⟩ := hp
      have IH := hide (ih (c :: r) (by simp at hf ⊢; omega) (by simp at hf6 ⊢; omega))
      clear ih hf
      have HR := hide (isC_neg c r)
      have hsz : (strOf (45 :: c :: r)).size = r.length + 2 := strOf_size _
      have h0 : 0 < (strOf (45 :: c :: r)).size := by omega
      have h1 : 1 < (strOf (45 :: c :: r)).size := by omega
      have hc0 : (strOf (45 :: c :: r))[0] = 45 := rfl
      have hc1 : (strOf (45 :: c :: r))[1] = c := rfl
      have HE : Hid ((strOf (45 :: c :: r)).extract 1 (strOf (45 :: c :: r)).size = strOf (c :: r)) := hide (by
        apply ByteArray.ext
        rw [ByteArray.data_extract, strOf_size]
        simp [strOf])
      have IH' : Hid (∀ w, Calls Tryz.prog 30 #[.string ((strOf (45 :: c :: r)).extract 1 (r.length + 2))] w fun e w' => e = .returned (.bool (isC (c :: r))) ∧ Below w.heap.size w w') := hide (by rw [← hsz, HE.out]; exact IH.out)
      have hl6 : r.length ≤ 1000000 := by simp at hf6; omega
      clear hf6 IH HE
      generalize strOf (45 :: c :: r) = F at *
      by_cases c48 : (c.toNat : Int) = 48
      · have HV : Hid (isC (45 :: c :: r) = false) := hide (by
          have e : c = 48 := UInt8.toNat_inj.1 (by show c.toNat = 48; omega)
          rw [HR.out, e]; rfl)
        go_enter Tryz.func30, Tryz.ntmps30
        go_wp2
        go_ret
        exact ⟨ret_bool HV.out.symm, Below.refl _ _⟩
      · have H48 : Hid ((c != 48) = true) := hide (by
          rw [bne_iff_ne]; intro e; subst e; exact c48 rfl)
        go_enter Tryz.func30, Tryz.ntmps30
        go_wp2_with fail
        refine (IH'.out _).mono ?_
        rintro e w1 ⟨rfl, hb1⟩
        cases hb : isC (c :: r) with
        | false =>
          have HV : Hid (isC (45 :: c :: r) = false) := hide (by rw [HR.out, hb]; simp)
          go_wp2
          go_ret
          exact ⟨ret_bool HV.out.symm, hb1⟩
        | true =>
          have HV : Hid (isC (45 :: c :: r) = ((c.toNat : Int) != 48 && (c.toNat : Int) != 45)) := hide (by
            rw [HR.out, hb, H48.out, Bool.true_and, Bool.true_and, bne_iff_ne.2 c48, Bool.true_and]
            by_cases q : c = 45
            · subst q; rfl
            · have : ¬ ((c.toNat : Int) = 45) := fun h => q (UInt8.toNat_inj.1 (by show c.toNat = 45; omega))
              rw [bne_iff_ne.2 q, bne_iff_ne.2 this])
          go_wp2
          go_ret
          exact ⟨ret_bool HV.out.symm, hb1⟩

/-- What a constant is. -/
theorem isC_cases (f : List UInt8) (h : isC f = true) : (∃ r, f = 45 :: r ∧ r.length ≤ 10 ∧ r.all isDig = true ∧ amount r ≤ 1000000000) ∨ (f.head? ≠ some 45 ∧ 0 < f.length ∧ f.length ≤ 10 ∧ f.all isDig = true ∧ amount f ≤ 1000000000) := by
  have pos : ∀ g : List UInt8, (∀ c r, g ≠ 45 :: c :: r) → isC g = true → g.head? ≠ some 45 ∧ 0 < g.length ∧ g.length ≤ 10 ∧ g.all isDig = true ∧ amount g ≤ 1000000000 := fun g hg hc => by
    rw [isC_pos g hg, Bool.and_eq_true, decide_eq_true_eq] at hc
    obtain ⟨q1, q2, q3⟩ := digits_all hc.1
    refine ⟨fun e => ?_, q3, q1, q2, hc.2⟩
    cases g with
    | nil => cases e
    | cons x r =>
      simp at e
      subst e
      simp [isDig] at q2
  by_cases hp : ∀ c r, f ≠ 45 :: c :: r
  · exact Or.inr (pos f hp h)
  · have hp : ∃ c r, f = 45 :: c :: r := by
      false_or_by_contra
      rename_i q
      exact hp (fun c r e => q ⟨c, r, e⟩)
    obtain ⟨c, r, rfl⟩ := hp
    rw [isC_neg, Bool.and_eq_true, Bool.and_eq_true, bne_iff_ne, bne_iff_ne] at h
    obtain ⟨_, q3, q4, q5, q6⟩ := pos (c :: r) (fun d s e => h.2 (by cases e; rfl)) h.1.2
    exact Or.inl ⟨c :: r, rfl, q4, q5, q6⟩

set_option maxHeartbeats 1000000 in
set_option maxRecDepth 100000 in
theorem l1Constant_any (f : List UInt8) (hf : isC f = true) (w : World) :
    Calls Tryz.prog 31 #[.string (strOf f)] w fun e w' => e = .returned (.int .i64 (constV f)) ∧ Below w.heap.size w w' := by
  rcases isC_cases f hf with ⟨r, rfl, h1, h2, h3⟩ | ⟨h0, hp, h1, h2, h3⟩
  · have HAm := fun w => hide (l1Amount_any r.length r rfl h2 h1 w)
    have HV : Hid (constV (45 :: r) = -(amount r : Int)) := hide rfl
    have hsz : (strOf (45 :: r)).size = r.length + 1 := strOf_size _
    have hp : 0 < (strOf (45 :: r)).size := by omega
    have hc0 : (strOf (45 :: r))[0] = 45 := rfl
    have HE : Hid ((strOf (45 :: r)).extract 1 (r.length + 1) = strOf r) := hide (by
      apply ByteArray.ext
      rw [ByteArray.data_extract]
      simp [strOf])
    have HAm' : Hid (∀ w, Calls Tryz.prog 27 #[.string ((strOf (45 :: r)).extract 1 (r.length + 1))] w fun e w' => e = .returned (.int .i64 (amount r : Nat)) ∧ Below w.heap.size w w') := hide (by rw [HE.out]; exact fun w => (HAm w).out)
    have H3 := hide h3
    clear hf h2 h3 HAm HE
    generalize strOf (45 :: r) = F at *
    go_enter Tryz.func31, Tryz.ntmps31
    go_wp2_with fail
    refine (HAm'.out _).mono ?_
    rintro e w1 ⟨rfl, hb1⟩
    have hw : IntKind.i64.wrap (-(amount r : Int)) = -(amount r : Int) := by rw [IntKind.wrap_i64]; have := H3.out; omega
    go_wp2
    go_ret
    exact ⟨ret_int HV.out.symm, hb1⟩
  · have HAm := fun w => hide (l1Amount_any f.length f rfl h2 h1 w)
    have HV : Hid (constV f = (amount f : Int)) := hide (by unfold constV; rw [if_neg h0])
    have hsz : (strOf f).size = f.length := strOf_size _
    have hp' : 0 < (strOf f).size := by omega
    have hc0 : ¬ ((((strOf f)[0]).toNat : Int) = 45) := by
      cases f with
      | nil => simp at hp
      | cons c s =>
        intro e
        exact h0 (by rw [show c = 45 from UInt8.toNat_inj.1 (by have : (c.toNat : Int) = 45 := e; show c.toNat = 45; omega)]; rfl)
    clear hf h2 h3 h0
    go_enter Tryz.func31, Tryz.ntmps31
    go_wp2_with fail
    refine (HAm _).out.mono ?_
    rintro e w1 ⟨rfl, hb1⟩
    go_wp2
    go_ret
    exact ⟨ret_int HV.out.symm, hb1⟩
end Go.Proofs.YtdcdgopblbmgoaaGreatDoor

/-
  Values and bytes that lie in one row. Imports nothing of the program.
-/
namespace Go.Proofs.YtdcdgopblbmgoaaGreatDoor
open Go.RowKit

def bytesV (l : List UInt8) : List Value := l.map fun b => Value.int .u8 (b.toNat : Int)
theorem bytesV_snoc (l : List UInt8) (b : UInt8) : bytesV (l ++ [b]) = bytesV l ++ [Value.int .u8 (b.toNat : Int)] := by simp [bytesV]
theorem bytesV_app (a b : List UInt8) : bytesV (a ++ b) = bytesV a ++ bytesV b := by simp [bytesV]
/-- A slice of values that lie in one row. -/
def ValsAt (w : World) (L B : Nat) (a : Option Addr) (vs : List Value) : Prop := ∀ i (h : i < vs.length), ∃ b o, a = some ⟨b, o, none⟩ ∧ (L ≤ b ∧ b < B) ∧ w.cell? ⟨b, o + i, none⟩ = some vs[i]
theorem ValsAt.keepS {w w' : World} {L B : Nat} {a : Option Addr} {xs : List Value} (h : ValsAt w L B a xs) (k : Same L B w w') : ValsAt w' L B a xs := fun i hi => by
  obtain ⟨b, o, e, hb, hc⟩ := h i hi
  exact ⟨b, o, e, hb, by rw [cell_of (k b hb.1 hb.2)]; exact hc⟩
theorem vals_owned {w : World} {base e : Nat} {v : Value} {n : Nat} {xs : List Value} (h : w.ownsRow base e 1 v n xs) : ∃ a c, v = .slice a xs.length c ∧ ValsAt w base w.heap.size a xs := by
  obtain ⟨hl, h | ⟨g, cap, cur, rfl, hg, hh, hc, _, hs, ht⟩⟩ := h
  · obtain ⟨rfl, rfl⟩ := h
    have : xs = [] := by simpa using hl
    subst this
    exact ⟨_, _, rfl, fun i hi => absurd hi (by simp)⟩
  · simp only [Nat.mul_one] at hl hs ht
    subst hl
    refine ⟨_, _, rfl, fun i hi => ⟨g, 0, rfl, ⟨hg, ?_⟩, ?_⟩⟩
    · rcases Nat.lt_or_ge g w.heap.size with h1 | h1
      · exact h1
      · rw [Array.getElem?_eq_none h1] at hh; cases hh
    · rw [Nat.zero_add, cell_of_row w g i cur e (0, 0) hh, ← Array.getElem?_toList]
      have := congrArg (fun l : List Value => l[i]?) ht
      simp only [List.getElem?_take, hi, if_true] at this
      rw [this, List.getElem?_eq_getElem hi]
theorem ValsAt.lower {w : World} {L L' B : Nat} {a : Option Addr} {vs : List Value} (h : ValsAt w L B a vs) (hl : L' ≤ L) : ValsAt w L' B a vs := fun i hi => by
  obtain ⟨b, o, e, hb, hc⟩ := h i hi
  exact ⟨b, o, e, by omega, hc⟩
theorem vals_lit (w : World) (vs : List Value) (t : TypeId) : ValsAt (w.alloc (.cells vs.toArray t)) w.heap.size (w.heap.size + 1) (some ⟨w.heap.size, 0, none⟩) vs := fun i hi =>
  ⟨_, 0, rfl, ⟨Nat.le_refl _, Nat.lt_succ_self _⟩, by simp [hi]⟩
def BytesAt (w : World) (L B : Nat) (a : Option Addr) (bs : List UInt8) : Prop := ∀ i (h : i < bs.length), ∃ b o, a = some ⟨b, o, none⟩ ∧ (L ≤ b ∧ b < B) ∧ w.cell? ⟨b, o + i, none⟩ = some (.int .u8 (bs[i].toNat : Int))
theorem BytesAt.keepS {w w' : World} {L B : Nat} {a : Option Addr} {xs : List UInt8} (h : BytesAt w L B a xs) (k : Same L B w w') : BytesAt w' L B a xs := fun i hi => by
  obtain ⟨b, o, e, hb, hc⟩ := h i hi
  exact ⟨b, o, e, hb, by rw [cell_of (k b hb.1 hb.2)]; exact hc⟩
theorem BytesAt.keep {w w' : World} {L B : Nat} {a : Option Addr} {xs : List UInt8} (h : BytesAt w L B a xs) (k : Below B w w') : BytesAt w' L B a xs := h.keepS (Same.of_below k)
/-- A row of bytes that a call owns lies in one block, not frozen. -/
theorem bytes_owned {w : World} {base e n : Nat} {v : Value} {bs : List UInt8} (h : w.ownsRow base e 1 v n (bytesV bs)) : ∃ a c L B, v = .slice a bs.length c ∧ BytesAt w L B a bs ∧ ThawB L B w ∧ ((L = 0 ∧ B = 0) ∨ (B = L + 1 ∧ base ≤ L ∧ L < w.heap.size)) := by
  obtain ⟨hl, h0 | ⟨g, cap, cur, rfl, hg, hh, hc, _, hs, ht⟩⟩ := h
  · have : bs = [] := by
      have h2 := h0.2
      subst h2
      simpa [bytesV] using hl
    subst this
    exact ⟨none, 0, 0, 0, h0.1, fun i hi => absurd hi (by simp), fun b o hb => absurd hb (by omega), Or.inl ⟨rfl, rfl⟩⟩
  · have hgl : g < w.heap.size := (Array.getElem?_eq_some_iff.1 hh).1
    have hn : n = bs.length := by simpa [bytesV] using hl.symm
    subst hn
    refine ⟨_, _, g, g + 1, rfl, fun i hi => ⟨g, 0, rfl, ⟨Nat.le_refl _, Nat.lt_succ_self _⟩, ?_⟩, fun b o hb => ?_, Or.inr ⟨rfl, hg, hgl⟩⟩
    · rw [Nat.zero_add, cell_of_row w g i cur e (0, 0) hh, ← Array.getElem?_toList]
      have h3 := congrArg (fun l : List Value => l[i]?) ht
      simp only [List.getElem?_take, Nat.mul_one, hi, if_true] at h3
      rw [h3]
      simp [bytesV, hi]
    · have : b = g := by omega
      subst this
      unfold World.frozen?
      rw [hh]; simp
theorem own_base {w : World} {B B' e s n : Nat} {v : Value} {xs : List Value} (h : w.ownsRow B e s v n xs) (hb : B' ≤ B) : w.ownsRow B' e s v n xs := by
  obtain ⟨hl, h0 | ⟨g, cap, cur, hv, hg, r⟩⟩ := h
  · exact ⟨hl, .inl h0⟩
  · exact ⟨hl, .inr ⟨g, cap, cur, hv, Nat.le_trans hb hg, r⟩⟩
end Go.Proofs.YtdcdgopblbmgoaaGreatDoor
