import Derived.Test.YtdcdgopblbmgoaaGreatDoorPD
import Derived.Test.YtdcdgopblbmgoaaGreatDoorPF
import Derived.Shelf.Bytes.Small
import Derived.Shelf.Lay
import Derived.Ground.NamesProg
/-
  Numbers of the text, the program's side: readDigits, readIndex.
-/
namespace Go.Proofs.YtdcdgopblbmgoaaGreatDoor
open Go.RowKit

def numV (bs : List UInt8) (most : Nat) : Int := if digitsOk bs most = true then (amount bs : Int) else 0

set_option maxHeartbeats 1000000 in
set_option maxRecDepth 100000 in
theorem readDigits_any (a : Option Addr) (n c most : Nat) (bs : List UInt8) (L B : Nat) (w : World) (ha : Hid (BytesAt w L B a bs)) (hx : Hid (n = bs.length)) (hm : most ≤ 10) (hn : n ≤ 1000000) (hB : B ≤ w.heap.size) :
    Calls Tryz.prog 75 #[.slice a n c, .int .i64 most] w fun e w' => e = .returned (.tuple #[.int .i64 (numV bs most), .bool (digitsOk bs most)]) ∧ Below w.heap.size w w' := by
  by_cases h0 : n = 0
  · have HR : Hid (digitsOk bs most = false ∧ numV bs most = 0) := hide (by
      have h : digitsOk bs most = false := by unfold digitsOk; simp [← hx.out, h0]
      exact ⟨h, by unfold numV; rw [h]; rfl⟩)
    subst h0
    go_enter Tryz.func75, Tryz.ntmps75
    go_wp2
    refine bodyPost_ret (v := .tuple #[.int .i64 0, .bool false]) (by simp [results, Tryz.results75, go_sem]) rfl ⟨by rw [HR.out.1, HR.out.2], Below.refl _ _⟩
  by_cases h1 : most < n
  · have HR : Hid (digitsOk bs most = false ∧ numV bs most = 0) := hide (by
      have h : digitsOk bs most = false := by unfold digitsOk; rw [← hx.out]; simp [h1]
      exact ⟨h, by unfold numV; rw [h]; rfl⟩)
    go_enter Tryz.func75, Tryz.ntmps75
    go_wp2
    all_goals
      refine bodyPost_ret (v := .tuple #[.int .i64 0, .bool false]) (by simp [results, Tryz.results75, go_sem]) rfl ⟨by rw [HR.out.1, HR.out.2], Below.refl _ _⟩
  have hbl : 0 < bs.length := by have := hx.out; omega
  obtain ⟨b, o, rfl, hb0, hc0⟩ := ha.out 0 hbl
  have hbw : b < w.heap.size := by omega
  have hn0 : ((n : Int) == 0) = false := by rw [beq_eq_false_iff_ne]; omega
  have hnm : ¬ ((most : Int) < (n : Int)) := by omega
  have HH : Hid ((bs.head? == some 48) = decide ((bs[0].toNat : Int) = 48)) := hide (by
    cases bs with
    | nil => simp at hbl
    | cons c r =>
      by_cases hc : c = 48
      · subst hc; rfl
      · have : ¬ ((c.toNat : Int) = 48) := fun h => hc (UInt8.toNat_inj.1 (by show c.toNat = 48; omega))
        simp [hc, this])
  have HREST : Hid (((bs[0].toNat : Int) = 48 ∧ 1 < n → digitsOk bs most = false) ∧ (¬ ((bs[0].toNat : Int) = 48 ∧ 1 < n) → digitsOk bs most = bs.all isDig)) := hide (by
    have hxl := hx.out
    constructor
    · rintro ⟨q1, q2⟩
      unfold digitsOk; rw [HH.out]; simp [q1, show 1 < bs.length by omega]
    · intro hz
      unfold digitsOk
      rw [HH.out]
      have e1 : (bs.length == 0) = false := by rw [beq_eq_false_iff_ne]; omega
      have e2 : decide (most < bs.length) = false := by rw [decide_eq_false_iff_not]; omega
      have e3 : (decide ((bs[0].toNat : Int) = 48) && decide (1 < bs.length)) = false := by
        rw [Bool.and_eq_false_iff]
        by_cases q : (bs[0].toNat : Int) = 48
        · exact Or.inr (by rw [decide_eq_false_iff_not]; intro h; exact hz ⟨q, by omega⟩)
        · exact Or.inl (by rw [decide_eq_false_iff_not]; exact q)
      rw [e1, e2, e3]; rfl)
  have c0 : w.cell? ⟨b, o, none⟩ = some (.int .u8 (bs[0].toNat : Int)) := hc0
  generalize (bs[0].toNat : Int) = Z at *
  clear hc0 HH
  by_cases hz : Z = 48 ∧ 1 < n
  · have HR : Hid (digitsOk bs most = false ∧ numV bs most = 0) := hide (by
      have h := HREST.out.1 hz
      exact ⟨h, by unfold numV; rw [h]; rfl⟩)
    obtain ⟨z1, z2⟩ := hz
    have z3 : (1 : Int) < (n : Int) := by omega
    go_enter Tryz.func75, Tryz.ntmps75
    go_wp2
    all_goals
      refine bodyPost_ret (v := .tuple #[.int .i64 0, .bool false]) (by simp [results, Tryz.results75, go_sem]) rfl ⟨by rw [HR.out.1, HR.out.2], Below.refl _ _⟩
  have HD := hide (HREST.out.2 hz)
  have hz' : ((Z == 48) = false) ∨ ((Z == 48) = true ∧ ¬ ((1 : Int) < (n : Int))) := by
    by_cases q : Z = 48
    · exact Or.inr ⟨by rw [beq_iff_eq]; exact q, fun h => hz ⟨q, by omega⟩⟩
    · exact Or.inl (by rw [beq_eq_false_iff_ne]; exact q)
  clear hz HREST
  rcases hz' with z1 | ⟨z1, z2⟩
  · go_enter Tryz.func75, Tryz.ntmps75
    go_wp2
    go_loopw [6, 31] (fun x i wr => ∃ k : Nat, k ≤ n ∧ i = .int .i64 k ∧ x = .int .i64 (amount (bs.take k) : Nat) ∧ Hid (Below w.heap.size w wr) ∧ Hid ((bs.take k).all isDig = true)) (fun _ i _ => n - (intOf i).toNat)
    case atStart => exact ⟨0, Nat.zero_le _, rfl, rfl, hide (Below.refl _ _), hide rfl⟩
    case round =>
      obtain ⟨k, hk, rfl, rfl, HB, HA⟩ := hrel
      by_cases hlt : k < n
      · have hkx : k < bs.length := by have := hx.out; omega
        obtain ⟨b', o', e', _, hc'⟩ := ha.out k hkx
        cases e'
        have ck : wr.cell? ⟨b, o + k, none⟩ = some (.int .u8 (bs[k].toNat : Int)) := (HB.out.cell (p := ⟨b, o + k, none⟩) hbw).trans hc'
        have HDG : Hid (isDig bs[k] = true ↔ ¬ (bs[k].toNat : Int) < 48 ∧ ¬ (57 : Int) < (bs[k].toNat : Int)) := hide (by simp only [isDig, Bool.and_eq_true, decide_eq_true_eq]; omega)
        have HT : Hid ((bs.take (k + 1)).all isDig = ((bs.take k).all isDig && isDig bs[k])) := hide (by rw [List.take_succ_eq_append_getElem hkx, List.all_append]; simp)
        have HAM : Hid ((amount (bs.take (k + 1)) : Int) = amount (bs.take k) * 10 + ((bs[k].toNat - 48 : Nat) : Int)) := hide (by rw [List.take_succ_eq_append_getElem hkx, amount_snoc]; omega)
        have HF : Hid (isDig bs[k] = false → digitsOk bs most = false ∧ numV bs most = 0) := hide (fun h => by
          have h2 : digitsOk bs most = false := HD.out.trans (by
            rw [List.all_eq_false]
            exact ⟨bs[k], List.getElem_mem hkx, by rw [h]; simp⟩)
          exact ⟨h2, by unfold numV; rw [h2]; rfl⟩)
        have HAB : Hid ((amount (bs.take k) : Int) < 10000000000) := hide (by
          have h1 := amount_lt (bs.take k) HA.out
          have h2 : 10 ^ (bs.take k).length ≤ 10 ^ 10 := Nat.pow_le_pow_right (by decide) (by simp only [List.length_take]; omega)
          have h3 : (10 : Nat) ^ 10 = 10000000000 := by decide
          omega)
        clear hc'
        by_cases c1 : (bs[k].toNat : Int) < 48
        · have HV := hide (HF.out (by cases h : isDig bs[k] with | false => rfl | true => exact absurd c1 (HDG.out.1 h).1))
          go_wp2
          refine bodyPost_ret (v := .tuple #[.int .i64 0, .bool false]) (by simp [results, Tryz.results75, go_sem]) rfl ⟨by rw [HV.out.1, HV.out.2], HB.out⟩
        · by_cases c2 : (57 : Int) < (bs[k].toNat : Int)
          · have HV := hide (HF.out (by cases h : isDig bs[k] with | false => rfl | true => exact absurd c2 (HDG.out.1 h).2))
            go_wp2
            refine bodyPost_ret (v := .tuple #[.int .i64 0, .bool false]) (by simp [results, Tryz.results75, go_sem]) rfl ⟨by rw [HV.out.1, HV.out.2], HB.out⟩
          · have HA2 : Hid ((bs.take (k + 1)).all isDig = true) := hide (by rw [HT.out, HA.out, HDG.out.2 ⟨c1, c2⟩]; rfl)
            have e1 : IntKind.u8.wrap ((bs[k].toNat : Int) - 48) = (bs[k].toNat : Int) - 48 := by simp [IntKind.wrap, IntKind.signed, IntKind.bits]; omega
            have e2 : IntKind.i64.wrap ((bs[k].toNat : Int) - 48) = (bs[k].toNat : Int) - 48 := by rw [IntKind.wrap_i64]; omega
            have e3 : IntKind.i64.wrap ((amount (bs.take k) : Int) * 10) = (amount (bs.take k) : Int) * 10 := by rw [IntKind.wrap_i64]; have := HAB.out; omega
            have HS : Hid (IntKind.i64.wrap ((amount (bs.take k) : Int) * 10 + ((bs[k].toNat : Int) - 48)) = (amount (bs.take (k + 1)) : Int)) := hide (by rw [HAM.out, IntKind.wrap_i64]; have := HAB.out; omega)
            have hs := HS.out
            go_wp2
            exact ⟨⟨k + 1, by omega, by go_num, rfl, HB, HA2⟩, by simp [intOf]; omega⟩
      · have HV : Hid (digitsOk bs most = true ∧ numV bs most = amount (bs.take k)) := hide (by
          have e : bs.take k = bs := List.take_of_length_le (by have := hx.out; omega)
          have h2 : digitsOk bs most = true := by rw [HD.out]; have := HA.out; rwa [e] at this
          exact ⟨h2, by unfold numV; rw [h2, e]; rfl⟩)
        go_wp2
        refine bodyPost_ret (v := .tuple #[.int .i64 (amount (bs.take k) : Nat), .bool true]) (by simp [results, Tryz.results75, go_sem]) rfl ⟨by rw [HV.out.1, HV.out.2], HB.out⟩
  · go_enter Tryz.func75, Tryz.ntmps75
    go_wp2
    go_loopw [6, 31] (fun x i wr => ∃ k : Nat, k ≤ n ∧ i = .int .i64 k ∧ x = .int .i64 (amount (bs.take k) : Nat) ∧ Hid (Below w.heap.size w wr) ∧ Hid ((bs.take k).all isDig = true)) (fun _ i _ => n - (intOf i).toNat)
    case atStart => exact ⟨0, Nat.zero_le _, rfl, rfl, hide (Below.refl _ _), hide rfl⟩
    case round =>
      obtain ⟨k, hk, rfl, rfl, HB, HA⟩ := hrel
      by_cases hlt : k < n
      · have hkx : k < bs.length := by have := hx.out; omega
        obtain ⟨b', o', e', _, hc'⟩ := ha.out k hkx
        cases e'
        have ck : wr.cell? ⟨b, o + k, none⟩ = some (.int .u8 (bs[k].toNat : Int)) := (HB.out.cell (p := ⟨b, o + k, none⟩) hbw).trans hc'
        have HDG : Hid (isDig bs[k] = true ↔ ¬ (bs[k].toNat : Int) < 48 ∧ ¬ (57 : Int) < (bs[k].toNat : Int)) := hide (by simp only [isDig, Bool.and_eq_true, decide_eq_true_eq]; omega)
        have HT : Hid ((bs.take (k + 1)).all isDig = ((bs.take k).all isDig && isDig bs[k])) := hide (by rw [List.take_succ_eq_append_getElem hkx, List.all_append]; simp)
        have HAM : Hid ((amount (bs.take (k + 1)) : Int) = amount (bs.take k) * 10 + ((bs[k].toNat - 48 : Nat) : Int)) := hide (by rw [List.take_succ_eq_append_getElem hkx, amount_snoc]; omega)
        have HF : Hid (isDig bs[k] = false → digitsOk bs most = false ∧ numV bs most = 0) := hide (fun h => by
          have h2 : digitsOk bs most = false := HD.out.trans (by
            rw [List.all_eq_false]
            exact ⟨bs[k], List.getElem_mem hkx, by rw [h]; simp⟩)
          exact ⟨h2, by unfold numV; rw [h2]; rfl⟩)
        have HAB : Hid ((amount (bs.take k) : Int) < 10000000000) := hide (by
          have h1 := amount_lt (bs.take k) HA.out
          have h2 : 10 ^ (bs.take k).length ≤ 10 ^ 10 := Nat.pow_le_pow_right (by decide) (by simp only [List.length_take]; omega)
          have h3 : (10 : Nat) ^ 10 = 10000000000 := by decide
          omega)
        clear hc'
        by_cases c1 : (bs[k].toNat : Int) < 48
        · have HV := hide (HF.out (by cases h : isDig bs[k] with | false => rfl | true => exact absurd c1 (HDG.out.1 h).1))
          go_wp2
          refine bodyPost_ret (v := .tuple #[.int .i64 0, .bool false]) (by simp [results, Tryz.results75, go_sem]) rfl ⟨by rw [HV.out.1, HV.out.2], HB.out⟩
        · by_cases c2 : (57 : Int) < (bs[k].toNat : Int)
          · have HV := hide (HF.out (by cases h : isDig bs[k] with | false => rfl | true => exact absurd c2 (HDG.out.1 h).2))
            go_wp2
            refine bodyPost_ret (v := .tuple #[.int .i64 0, .bool false]) (by simp [results, Tryz.results75, go_sem]) rfl ⟨by rw [HV.out.1, HV.out.2], HB.out⟩
          · have HA2 : Hid ((bs.take (k + 1)).all isDig = true) := hide (by rw [HT.out, HA.out, HDG.out.2 ⟨c1, c2⟩]; rfl)
            have e1 : IntKind.u8.wrap ((bs[k].toNat : Int) - 48) = (bs[k].toNat : Int) - 48 := by simp [IntKind.wrap, IntKind.signed, IntKind.bits]; omega
            have e2 : IntKind.i64.wrap ((bs[k].toNat : Int) - 48) = (bs[k].toNat : Int) - 48 := by rw [IntKind.wrap_i64]; omega
            have e3 : IntKind.i64.wrap ((amount (bs.take k) : Int) * 10) = (amount (bs.take k) : Int) * 10 := by rw [IntKind.wrap_i64]; have := HAB.out; omega
            have HS : Hid (IntKind.i64.wrap ((amount (bs.take k) : Int) * 10 + ((bs[k].toNat : Int) - 48)) = (amount (bs.take (k + 1)) : Int)) := hide (by rw [HAM.out, IntKind.wrap_i64]; have := HAB.out; omega)
            have hs := HS.out
            go_wp2
            exact ⟨⟨k + 1, by omega, by go_num, rfl, HB, HA2⟩, by simp [intOf]; omega⟩
      · have HV : Hid (digitsOk bs most = true ∧ numV bs most = amount (bs.take k)) := hide (by
          have e : bs.take k = bs := List.take_of_length_le (by have := hx.out; omega)
          have h2 : digitsOk bs most = true := by rw [HD.out]; have := HA.out; rwa [e] at this
          exact ⟨h2, by unfold numV; rw [h2, e]; rfl⟩)
        go_wp2
        refine bodyPost_ret (v := .tuple #[.int .i64 (amount (bs.take k) : Nat), .bool true]) (by simp [results, Tryz.results75, go_sem]) rfl ⟨by rw [HV.out.1, HV.out.2], HB.out⟩

set_option maxHeartbeats 1000000 in
theorem readIndex_any (a : Option Addr) (n c : Nat) (bs : List UInt8) (L B : Nat) (w : World) (ha : Hid (BytesAt w L B a bs)) (hx : Hid (n = bs.length)) (hn : n ≤ 1000000) (hB : B ≤ w.heap.size) :
    Calls Tryz.prog 56 #[.slice a n c] w fun e w' => e = .returned (.tuple #[.int .i64 (numV bs 4), .bool (digitsOk bs 4)]) ∧ Below w.heap.size w w' := by
  have HC := hide (readDigits_any a n c 4 bs L B w ha hx (by decide) hn hB)
  generalize numV bs 4 = V at *
  generalize digitsOk bs 4 = D at *
  go_enter Tryz.func56, Tryz.ntmps56
  go_wp2_with (go_at_call 75; refine HC.out.mono ?_; rintro e w1 ⟨rfl, hb1⟩)
  refine bodyPost_ret (v := .tuple #[.int .i64 V, .bool D]) (by simp [results, Tryz.results56, go_sem]) rfl ⟨rfl, hb1⟩
end Go.Proofs.YtdcdgopblbmgoaaGreatDoor

/-
  readConstant of the program.
-/
namespace Go.Proofs.YtdcdgopblbmgoaaGreatDoor
open Go.RowKit Go.Shelf

shelf_lay Lays.nb141 Nm 141 at Tryz as Tryz.laysCP

theorem bytesOf_nat (bs : List UInt8) : Lib.bytesOf (bs.map fun x => (x.toNat : Int)) = bs := by
  unfold Lib.bytesOf
  rw [List.map_map]
  have : ((fun n : Int => UInt8.ofNat n.toNat) ∘ fun x : UInt8 => (x.toNat : Int)) = id := by
    funext x
    simp
  rw [this, List.map_id]
theorem amount_ge (f : List UInt8) : ∀ a : Nat, a ≤ f.foldl (fun a c => a * 10 + (c.toNat - 48)) a := by
  induction f with
  | nil => intro a; exact Nat.le_refl _
  | cons c r ih => intro a; rw [List.foldl_cons]; exact Nat.le_trans (by omega) (ih _)
/-- A constant with a minus. -/
theorem isC_minus (r : List UInt8) : isC (45 :: r) = (digitsOk r 10 && decide (amount r ≤ 1000000000) && decide (amount r ≠ 0)) := by
  cases r with
  | nil => rfl
  | cons c s =>
    rw [isC_neg]
    cases hd : digitsOk (c :: s) 10 with
    | false =>
      by_cases h45 : c = 45
      · subst h45; simp
      · rw [isC_pos (c :: s) (fun d r e => h45 (by cases e; rfl)), hd]; simp
    | true =>
      have hq := digits_all hd
      have hc : isDig c = true := by have := hq.2.1; rw [List.all_cons, Bool.and_eq_true] at this; exact this.1
      simp only [isDig, Bool.and_eq_true, decide_eq_true_eq] at hc
      have h45 : c ≠ 45 := fun e => by subst e; simp at hc
      rw [isC_pos (c :: s) (fun d r e => h45 (by cases e; rfl)), hd]
      have e45 : (c != 45) = true := by rw [bne_iff_ne]; exact h45
      rw [e45, Bool.and_true, Bool.true_and]
      by_cases h48 : c = 48
      · have hs : s = [] := by
          unfold digitsOk at hd
          simp only [Bool.and_eq_true, Bool.not_eq_true', Bool.or_eq_false_iff, Bool.and_eq_false_iff] at hd
          have := hd.1.2
          subst h48
          rcases this with q | q
          · simp at q
          · simp at q; exact q
        subst hs; subst h48; rfl
      · have e48 : (c != 48) = true := by rw [bne_iff_ne]; exact h48
        have hne : amount (c :: s) ≠ 0 := by
          have h1 := amount_ge s (0 * 10 + (c.toNat - 48))
          have h2 : c.toNat ≠ 48 := fun e => h48 (UInt8.toNat_inj.1 e)
          have h3 : amount (c :: s) = s.foldl (fun a c => a * 10 + (c.toNat - 48)) (0 * 10 + (c.toNat - 48)) := rfl
          omega
        rw [e48, decide_eq_true hne, Bool.true_and, Bool.and_true]

def conV (f : List UInt8) : Int := if isC f = true then constV f else 0

set_option maxHeartbeats 1000000 in
theorem cutMinus_any (b o n c b2 : Nat) (bs : List UInt8) (w : World) (hx : n = bs.length) (hnc : n ≤ c) (ha : ∀ i (h : i < bs.length), w.cell? ⟨b, o + i, none⟩ = some (.int .u8 (bs[i].toNat : Int))) (h2 : w.cell? ⟨b2, 0, none⟩ = some (.int .u8 45)) :
    Calls Tryz.prog 111 #[.slice (some ⟨b, o, none⟩) n c, .slice (some ⟨b2, 0, none⟩) 1 1] w fun e w' => e = .returned (.tuple #[if bs.head? = some 45 then .slice (if c = 1 then some ⟨b, o, none⟩ else some ⟨b, o + 1, none⟩) (n - 1) (c - 1) else .slice (some ⟨b, o, none⟩) n c, .bool (decide (bs.head? = some 45))]) ∧ w' = w := by
  have h := Any.bytes_CutPrefix Tryz.laysCP b o n c b2 0 1 1 (bs.map fun x => (x.toNat : Int)) [45] w (by simp [hx]) rfl hnc (fun i hi => by
    have hi2 : i < bs.length := by omega
    rw [ha i hi2]; simp [List.getD, hi2]) (fun i hi => by
    have : i = 0 := by omega
    subst this; exact h2)
  have hp : Lib.hasPrefix (Lib.bytesOf (bs.map fun x => (x.toNat : Int))) (Lib.bytesOf [45]) = decide (bs.head? = some 45) := by
    rw [bytesOf_nat]
    cases bs with
    | nil => rfl
    | cons x r =>
      show (List.isPrefixOf [45] (x :: r)) = _
      by_cases e : x = 45
      · subst e; simp
      · have e' : ((45 : UInt8) == x) = false := by rw [beq_eq_false_iff_ne]; exact fun q => e q.symm
        have e2 : decide ((x :: r).head? = some 45) = false := by rw [decide_eq_false_iff_not]; intro q; exact e (Option.some.inj q)
        rw [e2]
        show ((45 : UInt8) == x && List.isPrefixOf [] r) = false
        rw [e']; rfl
  refine h.mono ?_
  rintro e w' ⟨rfl, rfl⟩
  refine ⟨?_, rfl⟩
  unfold Lib.bytesTrimPrefix
  rw [hp]
  by_cases q : bs.head? = some 45
  · rw [if_pos (by simpa using q), if_pos q]; rfl
  · rw [if_neg (by simpa using q), if_neg q]

set_option maxHeartbeats 2000000 in
set_option maxRecDepth 100000 in
theorem readConstant_any (b o n c : Nat) (bs : List UInt8) (L B : Nat) (w : World) (ha : Hid (BytesAt w L B (some ⟨b, o, none⟩) bs)) (hx : Hid (n = bs.length)) (hnc : n ≤ c) (hn : n ≤ 1000000) (hB : B ≤ w.heap.size) :
    Calls Tryz.prog 96 #[.slice (some ⟨b, o, none⟩) n c] w fun e w' => e = .returned (.tuple #[.int .i64 (conV bs), .bool (isC bs)]) ∧ Below w.heap.size w w' := by
  have HA1 : Hid (∀ x i (h : i < bs.length), (w.alloc x).cell? ⟨b, o + i, none⟩ = some (.int .u8 (bs[i].toNat : Int))) := hide (fun x i h => by
    obtain ⟨b', o', e', _, hc⟩ := (ha.out.keep ((balloc (Below.refl w.heap.size w) x).mono hB)) i h
    cases e'
    exact hc)
  by_cases hm : bs.head? = some 45
  · obtain ⟨r, rfl⟩ : ∃ r, bs = 45 :: r := by
      cases bs with
      | nil => cases hm
      | cons x r => simp at hm; exact ⟨r, by rw [hm]⟩
    have HCP := hide (cutMinus_any b o n c w.heap.size (45 :: r) (w.alloc (.cells #[.int .u8 45] 5)) hx.out hnc (HA1.out _) (by simp))
    have hnr : n - 1 = r.length := by have := hx.out; simp at this; omega
    have hba : Below w.heap.size w (w.alloc (.cells #[.int .u8 45] 5)) := balloc (Below.refl _ _) _
    have HRD : Hid (Calls Tryz.prog 75 #[.slice (if c = 1 then some ⟨b, o, none⟩ else some ⟨b, o + 1, none⟩) (n - 1) (c - 1), .int .i64 10] (w.alloc (.cells #[.int .u8 45] 5)) fun e w' => e = .returned (.tuple #[.int .i64 (numV r 10), .bool (digitsOk r 10)]) ∧ Below (w.alloc (.cells #[.int .u8 45] 5)).heap.size (w.alloc (.cells #[.int .u8 45] 5)) w') := hide (by
      refine readDigits_any _ (n - 1) (c - 1) 10 r L B _ (hide (fun i hi => ?_)) (hide hnr) (by decide) (by omega) (by simp; omega)
      obtain ⟨b', o', e', hb', hc'⟩ := (ha.out.keep (hba.mono hB)) (i + 1) (by simp; omega)
      cases e'
      have hc1 : ¬ (c = 1) := by omega
      rw [if_neg hc1]
      exact ⟨b, o + 1, rfl, hb', by rw [Nat.add_assoc, Nat.add_comm 1 i]; exact hc'⟩)
    have HIS := hide (isC_minus r)
    have HCV : Hid (constV (45 :: r) = -(amount r : Int)) := hide rfl
    have HNV : Hid (digitsOk r 10 = true → numV r 10 = (amount r : Int)) := hide (fun h => by unfold numV; rw [h]; rfl)
    have HB0 := hide hba
    clear hba hnr HA1
    generalize (if c = 1 then some (⟨b, o, none⟩ : Addr) else some ⟨b, o + 1, none⟩) = ad at *
    go_enter Tryz.func96, Tryz.ntmps96
    go_wp2_with (go_at_call 111; refine HCP.out.mono ?_; rintro e w1 ⟨rfl, hw1⟩; rw [hw1]; clear hw1 w1)
    refine HRD.out.mono ?_
    rintro e w1 ⟨rfl, hb1⟩
    have HB1 := hide (HB0.out.trans (hb1.mono (by simp)))
    clear hb1
    cases hd : digitsOk r 10 with
    | false =>
      have HV : Hid (isC (45 :: r) = false ∧ conV (45 :: r) = 0) := hide (by
        have h : isC (45 :: r) = false := by rw [HIS.out, hd]; rfl
        exact ⟨h, by unfold conV; rw [h]; rfl⟩)
      clear hd
      go_wp2
      refine bodyPost_ret (v := .tuple #[.int .i64 0, .bool false]) (by simp [results, Tryz.results96, go_sem]) rfl ⟨by rw [HV.out.1, HV.out.2], HB1.out⟩
    | true =>
      rw [HNV.out hd]
      by_cases hbig : (1000000000 : Int) < (amount r : Int)
      · have HV : Hid (isC (45 :: r) = false ∧ conV (45 :: r) = 0) := hide (by
          have h : isC (45 :: r) = false := by rw [HIS.out, hd, decide_eq_false (by omega)]; rfl
          exact ⟨h, by unfold conV; rw [h]; rfl⟩)
        clear hd
        go_wp2
        refine bodyPost_ret (v := .tuple #[.int .i64 0, .bool false]) (by simp [results, Tryz.results96, go_sem]) rfl ⟨by rw [HV.out.1, HV.out.2], HB1.out⟩
      · have HV : Hid (isC (45 :: r) = ((amount r : Int) != 0) ∧ conV (45 :: r) = -(amount r : Int)) := hide (by
          have h : isC (45 :: r) = ((amount r : Int) != 0) := by
            rw [HIS.out, hd, decide_eq_true (by omega), Bool.true_and, Bool.true_and]
            by_cases q : amount r = 0
            · rw [q]; rfl
            · rw [decide_eq_true q]; symm; rw [bne_iff_ne]; omega
          refine ⟨h, ?_⟩
          unfold conV
          rw [h, HCV.out]
          by_cases q : (amount r : Int) = 0
          · rw [q]; rfl
          · rw [if_pos (by rw [bne_iff_ne]; exact q)])
        have hw : IntKind.i64.wrap (-(amount r : Int)) = -(amount r : Int) := by rw [IntKind.wrap_i64]; omega
        have HW := hide hw
        clear hd
        generalize (amount r : Int) = Z at *
        go_wp2
        refine bodyPost_ret (v := .tuple #[.int .i64 (-Z), .bool (Z != 0)]) (by simp [results, Tryz.results96, go_sem]) rfl ⟨by rw [HV.out.1, HV.out.2], HB1.out⟩
  · have HCP := hide (cutMinus_any b o n c w.heap.size bs (w.alloc (.cells #[.int .u8 45] 5)) hx.out hnc (HA1.out _) (by simp))
    have hba : Below w.heap.size w (w.alloc (.cells #[.int .u8 45] 5)) := balloc (Below.refl _ _) _
    have HRD : Hid (Calls Tryz.prog 75 #[.slice (some ⟨b, o, none⟩) n c, .int .i64 10] (w.alloc (.cells #[.int .u8 45] 5)) fun e w' => e = .returned (.tuple #[.int .i64 (numV bs 10), .bool (digitsOk bs 10)]) ∧ Below (w.alloc (.cells #[.int .u8 45] 5)).heap.size (w.alloc (.cells #[.int .u8 45] 5)) w') := hide
      (readDigits_any _ n c 10 bs L B _ (hide (ha.out.keep (hba.mono hB))) hx (by decide) hn (by simp; omega))
    have HIS := hide (isC_pos bs (fun x r e => hm (by rw [e]; rfl)))
    have HCV : Hid (constV bs = (amount bs : Int)) := hide (by unfold constV; rw [if_neg hm])
    have HNV : Hid (digitsOk bs 10 = true → numV bs 10 = (amount bs : Int)) := hide (fun h => by unfold numV; rw [h]; rfl)
    have HB0 := hide hba
    have HM := hide hm
    clear hba HA1 hm
    go_enter Tryz.func96, Tryz.ntmps96
    go_wp2_with (go_at_call 111; refine HCP.out.mono ?_; rintro e w1 ⟨rfl, hw1⟩; rw [hw1, if_neg HM.out, decide_eq_false HM.out]; clear hw1 w1)
    refine HRD.out.mono ?_
    rintro e w1 ⟨rfl, hb1⟩
    have HB1 := hide (HB0.out.trans (hb1.mono (by simp)))
    clear hb1
    cases hd : digitsOk bs 10 with
    | false =>
      have HV : Hid (isC bs = false ∧ conV bs = 0) := hide (by
        have h : isC bs = false := by rw [HIS.out, hd]; rfl
        exact ⟨h, by unfold conV; rw [h]; rfl⟩)
      clear hd
      go_wp2
      refine bodyPost_ret (v := .tuple #[.int .i64 0, .bool false]) (by simp [results, Tryz.results96, go_sem]) rfl ⟨by rw [HV.out.1, HV.out.2], HB1.out⟩
    | true =>
      rw [HNV.out hd]
      by_cases hbig : (1000000000 : Int) < (amount bs : Int)
      · have HV : Hid (isC bs = false ∧ conV bs = 0) := hide (by
          have h : isC bs = false := by rw [HIS.out, hd, decide_eq_false (by omega)]; rfl
          exact ⟨h, by unfold conV; rw [h]; rfl⟩)
        clear hd
        go_wp2
        refine bodyPost_ret (v := .tuple #[.int .i64 0, .bool false]) (by simp [results, Tryz.results96, go_sem]) rfl ⟨by rw [HV.out.1, HV.out.2], HB1.out⟩
      · have HV : Hid (isC bs = true ∧ conV bs = (amount bs : Int)) := hide (by
          have h : isC bs = true := by rw [HIS.out, hd, decide_eq_true (by omega)]; rfl
          exact ⟨h, by unfold conV; rw [h, HCV.out]; rfl⟩)
        clear hd
        generalize (amount bs : Int) = Z at *
        go_wp2
        refine bodyPost_ret (v := .tuple #[.int .i64 Z, .bool true]) (by simp [results, Tryz.results96, go_sem]) rfl ⟨by rw [HV.out.1, HV.out.2], HB1.out⟩
end Go.Proofs.YtdcdgopblbmgoaaGreatDoor
