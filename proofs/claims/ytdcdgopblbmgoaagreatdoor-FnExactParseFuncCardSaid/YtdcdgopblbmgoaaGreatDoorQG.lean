import Derived.Test.YtdcdgopblbmgoaaGreatDoorQE
import Derived.Test.YtdcdgopblbmgoaaGreatDoorWd
import Derived.Laws.BytesArg
import Derived.Shelf.Bytes.SlSmallAll
/-
  readHeader of the program.
-/
namespace Go.Proofs.YtdcdgopblbmgoaaGreatDoor
open Go.RowKit Go.Shelf

/-- The head line: the word func and an index. -/
def headOf (fs : List (List UInt8)) : Option (List UInt8) := match fs with
  | [a, b] => if fs.all fieldOk = true ∧ a = [102, 117, 110, 99] ∧ digitsOk b 4 = true then some b else none
  | _ => none
def faultV (c l : Int) : Value := .iface 61 (.agg #[.int .i64 c, .int .i64 l])
def headV (o : Option (List UInt8)) : Value := match o with
  | some b => .tuple #[.int .i64 (amount b : Int), .nilIface]
  | none => .tuple #[.int .i64 0, faultV 3 1]
theorem string_of (w : World) (b o c : Nat) (f : List UInt8) (h : ∀ j (h : j < f.length), w.cell? ⟨b, o + j, none⟩ = some (.int .u8 (f[j].toNat : Int))) : (convert 22 9 (.slice (some ⟨b, o, none⟩) f.length c)).run Tryz.prog w = .ok (.string (strOf f)) w := by
  have q := run_convert_bytes_arg (P := Tryz.prog) w 22 5 Tryz.underlying22 Tryz.underlying5 b o f.length c (f.map fun x => (x.toNat : Int)) (by simp) (fun i hi => by rw [h i hi]; simp [List.getD, hi]) 9 Tryz.underlying9
  have e : strOfNums (f.map fun x => (x.toNat : Int)) = strOf f := congrArg (fun l : List UInt8 => (⟨l.toArray⟩ : ByteArray)) (bytesOf_nat f)
  rw [e] at q
  exact q
theorem piece_bytes {w : World} {b o B : Nat} {f : List UInt8} (h : ∀ j (h : j < f.length), w.cell? ⟨b, o + j, none⟩ = some (.int .u8 (f[j].toNat : Int))) (hb : b < B) : BytesAt w b B (some ⟨b, o, none⟩) f := fun i hi => ⟨b, o, rfl, ⟨Nat.le_refl _, hb⟩, h i hi⟩
set_option maxHeartbeats 1000000 in
set_option maxRecDepth 100000 in
theorem readHeader_any (b o n c : Nat) (line : List UInt8) (w : World) (hx : Hid (n = line.length)) (hnc : n ≤ c) (hc : c ≤ 9223372036854775807) (hn : n ≤ 1000000) (ha : Hid (∀ i (h : i < line.length), w.cell? ⟨b, o + i, none⟩ = some (.int .u8 (line[i].toNat : Int)))) (hm : Hid (MaxL w)) (hb : b < w.heap.size) :
    Calls Tryz.prog 39 #[.slice (some ⟨b, o, none⟩) n c] w fun e w' => e = .returned (headV (headOf (cutS line 32))) ∧ Below w.heap.size w w' := by
  have HSF := hide (splitFields_any b o n c line w hx hnc hc hn ha hm hb)
  have HFS : Hid (∀ f ∈ cutS line 32, f.length ≤ 1000000) := hide (fun f hf => by have := cutF_sum 32 line [] f hf; simp only [List.length_nil] at this; have := hx.out; omega)
  generalize cutS line 32 = fs at *
  cases hall : fs.all fieldOk with
  | false =>
    have HV : Hid (headV (headOf fs) = .tuple #[.int .i64 0, faultV 3 1]) := hide (by
      have : headOf fs = none := by
        unfold headOf; split
        · rw [if_neg (fun h => by rw [hall] at h; exact absurd h.1 (by decide))]
        · rfl
      rw [this]; rfl)
    go_enter Tryz.func39, Tryz.ntmps39
    go_wp2_with (go_at_call 55; refine HSF.out.mono ?_; rintro e w1 ⟨hb1, -, hs⟩; have := hs hall; subst this; clear hs; have HB1 := hide hb1; clear hb1)
    refine bodyPost_ret (v := .tuple #[.int .i64 0, faultV 3 1]) (by simp [results, Tryz.results39, go_sem, faultV]) rfl ⟨by rw [HV.out], HB1.out⟩
  | true =>
    by_cases hl2 : fs.length = 2
    · obtain ⟨a, f, rfl⟩ : ∃ a f, fs = [a, f] := by
        match fs, hl2 with
        | [a, f], _ => exact ⟨a, f, rfl⟩
      have HFa := hide (HFS.out a (by simp))
      have HFf := hide (HFS.out f (by simp))
      have HVn : Hid (¬ (a = [102, 117, 110, 99] ∧ digitsOk f 4 = true) → headV (headOf [a, f]) = .tuple #[.int .i64 0, faultV 3 1]) := hide (fun h => by
        show headV (if _ then _ else _) = _
        rw [if_neg (fun q => h q.2)]; rfl)
      have HVy : Hid (a = [102, 117, 110, 99] ∧ digitsOk f 4 = true → headV (headOf [a, f]) = .tuple #[.int .i64 (numV f 4), .nilIface]) := hide (fun h => by
        show headV (if _ then _ else _) = _
        rw [if_pos ⟨hall, h.1, h.2⟩]
        show _ = Value.tuple #[.int .i64 (if digitsOk f 4 = true then _ else _), _]
        rw [if_pos h.2]; rfl)
      clear hl2
      have HALL := hide hall
      clear hall
      generalize headV (headOf [a, f]) = V at *
      by_cases h4 : a = [102, 117, 110, 99]
      · have hts : (strOf a).toList = [102, 117, 110, 99] := by rw [h4]; exact strOf_toList _
        have H4 := hide h4
        clear h4
        cases hd : digitsOk f 4 with
        | false =>
          have HV := hide (HVn.out (fun q => by rw [hd] at q; exact absurd q.2 (by decide)))
          have HD := hide hd
          clear hd
          go_enter Tryz.func39, Tryz.ntmps39
          go_wp2_with first | (go_at_call 55; refine HSF.out.mono ?_; rintro e w1 ⟨hb1, hs, -⟩; obtain ⟨g, k, hg, rfl, rfl, hp⟩ := hs HALL.out; clear hs; obtain ⟨v0, hv0, o0, c0, rfl, hl0, hc0⟩ := hp.2 0 (by simp); obtain ⟨v1, hv1, o1, c1, rfl, hl1, hc1⟩ := hp.2 1 (by simp); have hcv := string_of w1 b o0 c0 a hc0; have HC1 := hide (readIndex_any (some ⟨b, o1, none⟩) f.length c1 f b w1.heap.size w1 (hide (piece_bytes hc1 (Nat.lt_of_lt_of_le hb hb1.size))) (hide rfl) HFf.out (Nat.le_refl _)); have HB1 := hide hb1; clear hb1 hp hc0 hc1) | (go_at_call 56; refine HC1.out.mono ?_; rintro e w2 ⟨rfl, hb2⟩; rw [HD.out]; have HB2 := hide (HB1.out.trans (hb2.mono HB1.out.size)); clear hb2)
          refine bodyPost_ret (v := .tuple #[.int .i64 0, faultV 3 1]) (by simp [results, Tryz.results39, go_sem, faultV]) rfl ⟨by rw [HV.out], HB2.out⟩
        | true =>
          have HV := hide (HVy.out ⟨H4.out, hd⟩)
          have HD := hide hd
          clear hd
          go_enter Tryz.func39, Tryz.ntmps39
          go_wp2_with first | (go_at_call 55; refine HSF.out.mono ?_; rintro e w1 ⟨hb1, hs, -⟩; obtain ⟨g, k, hg, rfl, rfl, hp⟩ := hs HALL.out; clear hs; obtain ⟨v0, hv0, o0, c0, rfl, hl0, hc0⟩ := hp.2 0 (by simp); obtain ⟨v1, hv1, o1, c1, rfl, hl1, hc1⟩ := hp.2 1 (by simp); have hcv := string_of w1 b o0 c0 a hc0; have HC1 := hide (readIndex_any (some ⟨b, o1, none⟩) f.length c1 f b w1.heap.size w1 (hide (piece_bytes hc1 (Nat.lt_of_lt_of_le hb hb1.size))) (hide rfl) HFf.out (Nat.le_refl _)); have HB1 := hide hb1; clear hb1 hp hc0 hc1) | (go_at_call 56; refine HC1.out.mono ?_; rintro e w2 ⟨rfl, hb2⟩; rw [HD.out]; have HB2 := hide (HB1.out.trans (hb2.mono HB1.out.size)); clear hb2)
          refine bodyPost_ret (v := .tuple #[.int .i64 (numV f 4), .nilIface]) (by simp [results, Tryz.results39, go_sem]) rfl ⟨by rw [HV.out], HB2.out⟩
      · have HV := hide (HVn.out (fun q => h4 q.1))
        have hts := strOf_toList a
        have h4b : (a == [102, 117, 110, 99]) = false := by rw [beq_eq_false_iff_ne]; exact h4
        go_enter Tryz.func39, Tryz.ntmps39
        go_wp2_with (go_at_call 55; refine HSF.out.mono ?_; rintro e w1 ⟨hb1, hs, -⟩; obtain ⟨g, k, hg, rfl, rfl, hp⟩ := hs HALL.out; clear hs; obtain ⟨v0, hv0, o0, c0, rfl, hl0, hc0⟩ := hp.2 0 (by simp); obtain ⟨v1, hv1, o1, c1, rfl, hl1, hc1⟩ := hp.2 1 (by simp); have hcv := string_of w1 b o0 c0 a hc0; have HC1 := hide (readIndex_any (some ⟨b, o1, none⟩) f.length c1 f b w1.heap.size w1 (hide (piece_bytes hc1 (Nat.lt_of_lt_of_le hb hb1.size))) (hide rfl) HFf.out (Nat.le_refl _)); have HB1 := hide hb1; clear hb1 hp hc0 hc1)
        refine bodyPost_ret (v := .tuple #[.int .i64 0, faultV 3 1]) (by simp [results, Tryz.results39, go_sem, faultV]) rfl ⟨by rw [HV.out], HB1.out⟩
    · have HV : Hid (headV (headOf fs) = .tuple #[.int .i64 0, faultV 3 1]) := hide (by
        have : headOf fs = none := by
          unfold headOf; split
          · exact absurd rfl hl2
          · rfl
        rw [this]; rfl)
      have hl3 : ¬ ((fs.length : Int) = 2) := by omega
      generalize headV (headOf fs) = V at *
      have HALL := hide hall
      clear hall
      go_enter Tryz.func39, Tryz.ntmps39
      go_wp2_with (go_at_call 55; refine HSF.out.mono ?_; rintro e w1 ⟨hb1, hs, -⟩; obtain ⟨g, k, hg, rfl, rfl, hp⟩ := hs HALL.out; clear hs; have HB1 := hide hb1; clear hb1 hp)
      refine bodyPost_ret (v := .tuple #[.int .i64 0, faultV 3 1]) (by simp [results, Tryz.results39, go_sem, faultV]) rfl ⟨by rw [HV.out], HB1.out⟩
end Go.Proofs.YtdcdgopblbmgoaaGreatDoor

/-
  splitLines of the program.
-/
namespace Go.Proofs.YtdcdgopblbmgoaaGreatDoor
open Go.RowKit Go.Shelf

shelf_lay Lays.nb142 Nm 142 at Tryz as Tryz.laysCS

/-- What splitLines answers. -/
def LinesAns (H : Nat) (w' : World) (a : Option Addr) (text : List UInt8) (e : Ending) : Prop :=
  (100000 < text.length → e = .returned (.tuple #[.slice none 0 0, faultV 1 0])) ∧
  (text.length ≤ 100000 → text.getLast? ≠ some 10 → e = .returned (.tuple #[.slice none 0 0, faultV 2 0])) ∧
  (text.length ≤ 100000 → text.getLast? = some 10 → ∃ b o g k, a = some ⟨b, o, none⟩ ∧ H ≤ g ∧ k = (cutS text.dropLast 10).length ∧ e = .returned (.tuple #[.slice (some ⟨g, 0, none⟩) k k, .nilIface]) ∧ PiecesAt w' b g (cutS text.dropLast 10))
theorem suffix_one (s : UInt8) (l : List UInt8) : Lib.hasSuffix l [s] = decide (l.getLast? = some s) := by
  unfold Lib.hasSuffix List.isSuffixOf
  rw [← List.head?_reverse]
  cases l.reverse with
  | nil => rfl
  | cons x r =>
    show (([s] : List UInt8).isPrefixOf (x :: r)) = _
    by_cases e : x = s
    · subst e; simp
    · have e' : (s == x) = false := by rw [beq_eq_false_iff_ne]; exact fun q => e q.symm
      have e2 : decide ((x :: r).head? = some s) = false := by rw [decide_eq_false_iff_not]; intro q; exact e (Option.some.inj q)
      rw [e2]
      show (s == x && List.isPrefixOf [] r) = false
      rw [e']; rfl
/-- bytes.CutSuffix of the line's end. -/
theorem cutEnd_any (a : Option Addr) (n c b2 L B : Nat) (text : List UInt8) (w : World) (hx : n = text.length) (hnc : n ≤ c) (hn : n ≤ 1000000) (ha : BytesAt w L B a text) (h2 : w.cell? ⟨b2, 0, none⟩ = some (.int .u8 10)) :
    Calls Tryz.prog 53 #[.slice a n c, .slice (some ⟨b2, 0, none⟩) 1 1] w fun e w' => e = .returned (.tuple #[.slice a (if text.getLast? = some 10 then n - 1 else n) c, .bool (decide (text.getLast? = some 10))]) ∧ w' = w := by
  by_cases h0 : n = 0
  · have : text = [] := List.eq_nil_of_length_eq_zero (by omega)
    subst this; subst h0
    exact Any.bytes_CutSuffix_e1 Tryz.laysCS a (some ⟨b2, 0, none⟩) c 1 1 (by decide) w
  · obtain ⟨b, o, rfl, _, _⟩ := ha 0 (by omega)
    have ha' : ∀ i (h : i < text.length), w.cell? ⟨b, o + i, none⟩ = some (.int .u8 (text[i].toNat : Int)) := fun i h => by
      obtain ⟨b', o', e', _, hc⟩ := ha i h
      cases e'; exact hc
    have h := Any.bytes_CutSuffix Tryz.laysCS b o n c b2 0 1 1 (text.map fun x => (x.toNat : Int)) [10] w (by simp [hx]) rfl hnc (by omega) (fun i hi => by
      have hi2 : i < text.length := by omega
      rw [ha' i hi2]; simp [List.getD, hi2]) (fun i hi => by
      have : i = 0 := by omega
      subst this; exact h2)
    have hp : Lib.hasSuffix (Lib.bytesOf (text.map fun x => (x.toNat : Int))) (Lib.bytesOf [10]) = decide (text.getLast? = some 10) := by
      rw [bytesOf_nat]; exact suffix_one 10 text
    refine h.mono ?_
    rintro e w' ⟨rfl, rfl⟩
    refine ⟨?_, rfl⟩
    unfold Lib.bytesTrimSuffix Lib.sliceTo
    rw [hp]
    by_cases q : text.getLast? = some 10
    · rw [if_pos (by simpa using q), if_pos q]; rfl
    · rw [if_neg (by simpa using q), if_neg q]

set_option maxHeartbeats 1000000 in
set_option maxRecDepth 100000 in
theorem splitLines_any (a : Option Addr) (n c L B : Nat) (text : List UInt8) (w : World) (hx : Hid (n = text.length)) (hnc : n ≤ c) (hc : c ≤ 9223372036854775807) (ha : Hid (BytesAt w L B a text)) (hm : Hid (MaxL w)) (hB : B ≤ w.heap.size) :
    Calls Tryz.prog 38 #[.slice a n c] w fun e w' => LinesAns w.heap.size w' a text e ∧ Below w.heap.size w w' := by
  by_cases hbig : 100000 < n
  · have HV : Hid (∀ w', LinesAns w.heap.size w' a text (.returned (.tuple #[.slice none 0 0, faultV 1 0]))) := hide (fun w' => ⟨fun _ => rfl, fun h => absurd h (by have := hx.out; omega), fun h => absurd h (by have := hx.out; omega)⟩)
    go_enter Tryz.func38, Tryz.ntmps38
    go_wp2
    refine bodyPost_ret (v := .tuple #[.slice none 0 0, faultV 1 0]) (by simp [results, Tryz.results38, go_sem, faultV]) rfl ⟨HV.out _, Below.refl _ _⟩
  · have hle : text.length ≤ 100000 := by have := hx.out; omega
    have HCE : Hid (Calls Tryz.prog 53 #[.slice a n c, .slice (some ⟨w.heap.size, 0, none⟩) 1 1] (w.alloc (.cells #[.int .u8 10] 5)) fun e w' => e = .returned (.tuple #[.slice a (if text.getLast? = some 10 then n - 1 else n) c, .bool (decide (text.getLast? = some 10))]) ∧ w' = (w.alloc (.cells #[.int .u8 10] 5))) := hide
      (cutEnd_any a n c w.heap.size L B text _ hx.out hnc (by omega) (ha.out.keep ((balloc (Below.refl w.heap.size w) _).mono hB)) (by rw [cell_of_row _ w.heap.size 0 _ _ _ (heap_alloc_new w _)]; rfl))
    have HB0 : Hid (Below w.heap.size w (w.alloc (.cells #[.int .u8 10] 5))) := hide (balloc (Below.refl w.heap.size w) _)
    by_cases hq : text.getLast? = some 10
    · have hn1 : 1 ≤ n := by
        have := hx.out
        cases text with
        | nil => cases hq
        | cons x r => simp at this; omega
      obtain ⟨b, o, rfl, hbB, _⟩ := ha.out 0 (by have := hx.out; omega)
      have HSP : Hid (∀ (w1 : World) (b2 : Nat), Below w.heap.size w w1 → w1.cell? ⟨b2, 0, none⟩ = some (.int .u8 ((10 : UInt8).toNat : Int)) → Calls Tryz.prog 54 #[.slice (some ⟨b, o, none⟩) (n - 1) c, .slice (some ⟨b2, 0, none⟩) 1 1] w1 fun e w' => ∃ k, k = (cutS text.dropLast 10).length ∧ e = .returned (.slice (some ⟨w1.heap.size, 0, none⟩) k k) ∧ Below w1.heap.size w1 w' ∧ PiecesAt w' b w1.heap.size (cutS text.dropLast 10)) := hide (fun w1 b2 hb1 h2 =>
        split_any 10 b o (n - 1) c b2 text.dropLast w1 (by have := hx.out; simp; omega) (by omega) hc (by omega) (fun i h => by
          have hi : i < text.length := by simp at h; omega
          obtain ⟨b', o', e', hb', hc'⟩ := ha.out i hi
          cases e'
          rw [hb1.cell (p := ⟨b, o + i, none⟩) (by show b < _; omega), hc']
          simp) h2 ⟨Nat.lt_of_lt_of_le hm.out.1 hb1.size, by
          obtain ⟨m, h⟩ := hm.out.2
          exact ⟨m, (hb1.cell (p := ⟨3, 0, none⟩) hm.out.1).trans h⟩⟩ (by have := hb1.size; omega))
      have HV : Hid (∀ w' g k, w.heap.size ≤ g → k = (cutS text.dropLast 10).length → PiecesAt w' b g (cutS text.dropLast 10) → LinesAns w.heap.size w' (some ⟨b, o, none⟩) text (.returned (.tuple #[.slice (some ⟨g, 0, none⟩) k k, .nilIface]))) := hide (fun w' g k h1 h2 h3 => ⟨fun h => absurd h (by omega), fun _ h => absurd hq h, fun _ _ => ⟨b, o, g, k, rfl, h1, h2, rfl, h3⟩⟩)
      rw [if_pos hq, decide_eq_true hq] at HCE
      clear hq
      go_enter Tryz.func38, Tryz.ntmps38
      go_wp2_with (go_at_call 53; refine HCE.out.mono ?_; rintro e w1 ⟨rfl, hw1⟩; have HW1 : Hid (Below w.heap.size w w1) := hide (by rw [hw1]; exact HB0.out); clear hw1)
      refine (HSP.out _ _ (balloc HW1.out _) (by rw [cell_of_row _ w1.heap.size 0 _ _ _ (heap_alloc_new w1 _)]; rfl)).mono ?_
      rintro e w2 ⟨k, hk, rfl, hb2, hp⟩
      have hg : w.heap.size ≤ (w1.alloc (.cells #[.int .u8 10] 5)).heap.size := (balloc HW1.out _).size
      have HL := hide (HV.out w2 _ k hg hk hp)
      have HB2 : Hid (Below w.heap.size w w2) := hide ((balloc HW1.out _).trans (hb2.mono hg))
      clear hb2 hp hk
      generalize (w1.alloc (.cells #[.int .u8 10] 5)).heap.size = g at *
      go_wp2
      refine bodyPost_ret (v := .tuple #[.slice (some ⟨g, 0, none⟩) k k, .nilIface]) (by simp [results, Tryz.results38, go_sem]) rfl ⟨HL.out, HB2.out⟩
    · have HV : Hid (∀ w', LinesAns w.heap.size w' a text (.returned (.tuple #[.slice none 0 0, faultV 2 0]))) := hide (fun w' => ⟨fun h => absurd h (by omega), fun _ _ => rfl, fun _ h => absurd h hq⟩)
      rw [if_neg hq, decide_eq_false hq] at HCE
      clear hq
      go_enter Tryz.func38, Tryz.ntmps38
      go_wp2_with (go_at_call 53; refine HCE.out.mono ?_; rintro e w1 ⟨rfl, hw1⟩; have HW1 : Hid (Below w.heap.size w w1) := hide (by rw [hw1]; exact HB0.out); clear hw1)
      refine bodyPost_ret (v := .tuple #[.slice none 0 0, faultV 2 0]) (by simp [results, Tryz.results38, go_sem, faultV]) rfl ⟨HV.out _, HW1.out⟩
end Go.Proofs.YtdcdgopblbmgoaaGreatDoor
