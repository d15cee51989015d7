import Derived.Test.YtdcdgopblbmgoaaGreatDoorPF
import Derived.Maps.AppendAt
import Derived.Lib.ItoaMem
import Derived.Lib.UnsafeStr
import Derived.OwnWalk
import Derived.Laws.IdiomStrings
/-
  l1Cut of the model.
-/
namespace Go.Proofs.YtdcdgopblbmgoaaGreatDoor
open Go.RowKit

def strsV (l : List (List UInt8)) : List Value := l.map fun f => Value.string (strOf f)
theorem strsV_snoc (l : List (List UInt8)) (f : List UInt8) : strsV (l ++ [f]) = strsV l ++ [Value.string (strOf f)] := by simp [strsV]
theorem Tryz.infoS : (Tryz.prog.info? 9).map (fun i => (i.zero, i.size, i.bytes)) = some (some (.string ByteArray.empty), 1, 16) := by kernel_rfl
theorem cut_step (sep : UInt8) (bs : List UInt8) (fr k : Nat) (h : k < bs.length) (hf : fr ≤ k) : cutF sep ((bs.take k).drop fr) (bs.drop k) = if bs[k] = sep then (bs.take k).drop fr :: cutF sep ((bs.take (k + 1)).drop (k + 1)) (bs.drop (k + 1)) else cutF sep ((bs.take (k + 1)).drop fr) (bs.drop (k + 1)) := by
  rw [List.drop_eq_getElem_cons h, cutF]
  have e1 : (bs.take (k + 1)).drop (k + 1) = [] := by rw [List.drop_eq_nil_iff]; simp; omega
  have e2 : (bs.take (k + 1)).drop fr = (bs.take k).drop fr ++ [bs[k]] := by
    rw [List.take_succ_eq_append_getElem h, List.drop_append_of_le_length (by simp; omega)]
  rw [e1, e2]

set_option maxHeartbeats 1000000 in
set_option maxRecDepth 100000 in
theorem l1Cut_any (b o n c : Nat) (sep : UInt8) (bs : List UInt8) (L B : Nat) (w : World) (ha : Hid (BytesAt w L B (some ⟨b, o, none⟩) bs)) (hx : Hid (n = bs.length)) (hn : n ≤ 1000000) (hc : n ≤ c) (hB : B ≤ w.heap.size) :
    Calls Tryz.prog 13 #[.slice (some ⟨b, o, none⟩) n c, .int .u8 (sep.toNat : Int)] w fun e w' => ∃ v, e = .returned v ∧ Below w.heap.size w w' ∧ w'.ownsRow w.heap.size 9 1 v (cutS bs sep).length (strsV (cutS bs sep)) := by
  obtain ⟨i0, hi0, hz0, hz1, hz2⟩ := info_parts Tryz.infoS
  go_enter Tryz.func13, Tryz.ntmps13
  go_wp2
  go_loopw [5, 6, 7] (fun v fr i wr => ∃ (k q : Nat) (done : List (List UInt8)), k ≤ n ∧ q ≤ k ∧ i = .int .i64 k ∧ fr = .int .i64 q ∧ Hid (Below w.heap.size w wr) ∧ Hid (done.length ≤ k) ∧ Hid (cutS bs sep = done ++ cutF sep ((bs.take k).drop q) (bs.drop k)) ∧ Hid (wr.ownsRow w.heap.size 9 1 v done.length (strsV done))) (fun _ _ i _ => n - (intOf i).toNat)
  case atStart => exact ⟨0, 0, [], Nat.zero_le _, Nat.le_refl _, rfl, rfl, hide (balloc (Below.refl _ _) _), hide (Nat.le_refl _), hide (by simp [cutS]), hide (by
    have := World.ownsRow_lit (base := w.heap.size) (e := 9) (size := 1) w #[] 0 (by simp) (by simp) rfl
    simpa [strsV] using this)⟩
  case round =>
    obtain ⟨k, q, done, hk, hqk, rfl, rfl, HB, HDL, HC, HO⟩ := hrel
    have hwz := HB.out.size
    have hcv : ∀ (W : World) (cap : Nat) (e : Nat), Below w.heap.size w W → e ≤ n → q ≤ e → (convert 22 9 (.slice (some ⟨b, o + q, none⟩) (e - q) cap)).run Tryz.prog W = .ok (.string (strOf ((bs.take e).drop q))) W := fun W cap e hW he hqe => by
      have hxl := hx.out
      have hl : ((bs.take e).drop q).length = e - q := by simp only [List.length_drop, List.length_take]; omega
      have := run_convert_bytes_back (P := Tryz.prog) W 22 9 5 ⟨b, o + q, none⟩ cap ((bs.take e).drop q) Tryz.underlying22 Tryz.underlying5 Tryz.underlying9 (fun j hj => by
        have hj2 : q + j < bs.length := by omega
        obtain ⟨b', o', e', hb', hc'⟩ := (ha.out.keep (hW.mono hB)) (q + j) hj2
        cases e'
        rw [Addr.add_lit, Nat.add_assoc, hc']
        simp only [List.getElem_drop, List.getElem_take])
      rw [hl] at this
      exact this
    by_cases hlt : k < n
    · have hkx : k < bs.length := by have := hx.out; omega
      obtain ⟨b', o', e', ⟨_, hbB⟩, hc1⟩ := (ha.out.keep (HB.out.mono hB)) k hkx
      cases e'
      have HST := hide (cut_step sep bs q k hkx hqk)
      by_cases hs : bs[k] = sep
      · have hz : ((bs[k].toNat : Int) == (sep.toNat : Int)) = true := by simp [hs]
        have HC2 : Hid (cutS bs sep = (done ++ [(bs.take k).drop q]) ++ cutF sep ((bs.take (k + 1)).drop (k + 1)) (bs.drop (k + 1))) := hide (by rw [HC.out, HST.out, if_pos hs]; simp)
        have hcv1 := fun cap => hcv wr cap k HB.out hk hqk
        have HL1 : Hid (done.length + 1 ≤ 2000000) := hide (by have := HDL.out; omega)
        clear hs hcv
        generalize (bs[k].toNat : Int) = Z at *
        generalize (bs.take k).drop q = cur at *
        go_wp2_with (at_builtin; refine wpList_append_own_at _ rfl _ _ 36 rfl w.heap.size 9 i0 (.string ByteArray.empty) 1 16 Tryz.underlying36 hi0 hz0 hz1 hz2 rfl (by decide) _ _ _ rfl (HO.out.alloc _) ⟨wr.heap.size, 0, none⟩ 1 1 [.string (strOf cur)] rfl rfl ?c1 ?c2 ?c3 ?c4 ?c5 ?_)
        case c1 => exact cell_one_new _ _ _
        case c2 => first | rfl | (intro u hu; simp at hu; subst hu; rfl)
        case c3 => have := HL1.out; unfold maxLen; omega
        case c4 => have := HL1.out; omega
        case c5 => first | omega | (simp; omega)
        intro v1 w1 hown1 hgrow1 hne1 hat1
        have HO1 : Hid (w1.ownsRow w.heap.size 9 1 v1 (done ++ [cur]).length (strsV (done ++ [cur]))) := hide (by rw [strsV_snoc, List.length_append]; exact hown1)
        have HB1 : Hid (Below w.heap.size w w1) := hide (HB.out.alloc (by omega) _ |>.grown hgrow1 (by simp; omega) (fun g hg => (HO.out.lt g hg).1))
        clear hown1 hgrow1 hne1 hat1
        go_wp2
        exact ⟨⟨k + 1, k + 1, done ++ [cur], by omega, Nat.le_refl _, by go_num, by go_num, HB1, hide (by have := HDL.out; simp; omega), HC2, HO1⟩, by simp [intOf]; omega⟩
      · have hz : ((bs[k].toNat : Int) == (sep.toNat : Int)) = false := by
          rw [beq_eq_false_iff_ne]; intro e; exact hs (UInt8.toNat_inj.1 (by omega))
        have HC2 : Hid (cutS bs sep = done ++ cutF sep ((bs.take (k + 1)).drop q) (bs.drop (k + 1))) := hide (by rw [HC.out, HST.out, if_neg hs])
        clear hs hcv
        generalize (bs[k].toNat : Int) = Z at *
        go_wp2
        exact ⟨⟨k + 1, q, done, by omega, by omega, by go_num, rfl, HB, hide (by have := HDL.out; omega), HC2, HO⟩, by simp [intOf]; omega⟩
    · have hkn : k = n := by omega
      subst hkn
      have HF : Hid (cutS bs sep = done ++ [bs.drop q]) := hide (by
        have e1 : bs.drop k = [] := by rw [List.drop_eq_nil_iff]; have := hx.out; omega
        have e2 : bs.take k = bs := List.take_of_length_le (by have := hx.out; omega)
        rw [HC.out, e1, e2, cutF])
      have HL1 : Hid (done.length + 1 ≤ 2000000) := hide (by have := HDL.out; omega)
      have hcv1 : ∀ cap, (convert 22 9 (.slice (some ⟨b, o + q, none⟩) (k - q) cap)).run Tryz.prog wr = .ok (.string (strOf (bs.drop q))) wr := fun cap => by
        have := hcv wr cap k HB.out hk hqk
        rwa [List.take_of_length_le (by have := hx.out; omega)] at this
      have hcv2 : ∀ cap, c = q → (convert 22 9 (.slice (some ⟨b, o, none⟩) (k - q) cap)).run Tryz.prog wr = .ok (.string (strOf (bs.drop q))) wr := fun cap hcq => by
        have e1 : bs.drop q = [] := by rw [List.drop_eq_nil_iff]; have := hx.out; omega
        have e2 : k - q = ([] : List UInt8).length := by simp; omega
        rw [e1, e2]
        exact run_convert_bytes_back (P := Tryz.prog) wr 22 9 5 ⟨b, o, none⟩ cap [] Tryz.underlying22 Tryz.underlying5 Tryz.underlying9 (fun j hj => absurd hj (by simp))
      clear hcv
      generalize bs.drop q = cur at *
      have fin : ∀ (v1 : Value) (w1 : World), w1.ownsRow w.heap.size 9 1 v1 (done.length + 1) (strsV done ++ [.string (strOf cur)]) → w1.ownsRow w.heap.size 9 1 v1 (cutS bs sep).length (strsV (cutS bs sep)) := fun v1 w1 h => by rw [HF.out, strsV_snoc, List.length_append]; exact h
      have FIN := hide fin
      clear fin
      by_cases hcq : c = q
      · have hcv3 := fun cap => hcv2 cap hcq
        clear hcv1 hcv2
        go_wp2_with (at_builtin; refine wpList_append_own_at _ rfl _ _ 36 rfl w.heap.size 9 i0 (.string ByteArray.empty) 1 16 Tryz.underlying36 hi0 hz0 hz1 hz2 rfl (by decide) _ _ _ rfl (HO.out.alloc _) ⟨wr.heap.size, 0, none⟩ 1 1 [.string (strOf cur)] rfl rfl ?d1 ?d2 ?d3 ?d4 ?d5 ?_)
        case d1 => exact cell_one_new _ _ _
        case d2 => first | rfl | (intro u hu; simp at hu; subst hu; rfl)
        case d3 => have := HL1.out; unfold maxLen; omega
        case d4 => have := HL1.out; omega
        case d5 => first | omega | (simp; omega)
        intro v1 w1 hown1 hgrow1 hne1 hat1
        have HO1 := hide (FIN.out _ _ hown1)
        have HB1 : Hid (Below w.heap.size w w1) := hide (HB.out.alloc (by omega) _ |>.grown hgrow1 (by simp; omega) (fun g hg => (HO.out.lt g hg).1))
        clear hown1 hgrow1 hne1 hat1
        go_wp2
        go_ret
        exact ⟨_, rfl, HB1.out, HO1.out⟩
      · clear hcv2
        go_wp2_with (at_builtin; refine wpList_append_own_at _ rfl _ _ 36 rfl w.heap.size 9 i0 (.string ByteArray.empty) 1 16 Tryz.underlying36 hi0 hz0 hz1 hz2 rfl (by decide) _ _ _ rfl (HO.out.alloc _) ⟨wr.heap.size, 0, none⟩ 1 1 [.string (strOf cur)] rfl rfl ?e1 ?e2 ?e3 ?e4 ?e5 ?_)
        case e1 => exact cell_one_new _ _ _
        case e2 => first | rfl | (intro u hu; simp at hu; subst hu; rfl)
        case e3 => have := HL1.out; unfold maxLen; omega
        case e4 => have := HL1.out; omega
        case e5 => first | omega | (simp; omega)
        intro v1 w1 hown1 hgrow1 hne1 hat1
        have HO1 := hide (FIN.out _ _ hown1)
        have HB1 : Hid (Below w.heap.size w w1) := hide (HB.out.alloc (by omega) _ |>.grown hgrow1 (by simp; omega) (fun g hg => (HO.out.lt g hg).1))
        clear hown1 hgrow1 hne1 hat1
        go_wp2
        go_ret
        exact ⟨_, rfl, HB1.out, HO1.out⟩
end Go.Proofs.YtdcdgopblbmgoaaGreatDoor

/-
  l1Fields of the model.
-/
namespace Go.Proofs.YtdcdgopblbmgoaaGreatDoor
open Go.RowKit

/-- []byte(line). -/
theorem bytes_of (w : World) (line : List UInt8) : ∃ cap W1, line.length ≤ cap ∧ (convert 9 22 (.string (strOf line))).run Tryz.prog w = .ok (.slice (some ⟨w.heap.size, 0, none⟩) line.length cap) W1 ∧ Below w.heap.size w W1 ∧ W1.heap.size = w.heap.size + 1 ∧ BytesAt W1 w.heap.size (w.heap.size + 1) (some ⟨w.heap.size, 0, none⟩) line := by
  refine ⟨_, _, ?_, by have := run_bytes_of_string (P := Tryz.prog) w 9 22 5 (strOf line) Tryz.underlying9 Tryz.underlying22 Tryz.underlying5; rw [strOf_size] at this; exact this, ?_, ?_, ?_⟩
  · exact grownCap_ge w _ _ _
  · exact (balloc (Below.refl _ _).drew _)
  · show (w.heap.push _).size = _; simp
  · intro i hi
    refine ⟨_, 0, rfl, ⟨Nat.le_refl _, Nat.lt_succ_self _⟩, ?_⟩
    rw [Nat.zero_add, cell_of_row _ w.heap.size i _ _ _ (heap_alloc_new w.drew _)]
    unfold bytesRow
    rw [Array.getElem?_append_left (by simpa [strOf] using hi)]
    simp [strOf, hi]

theorem own_calm2 {w w' : World} {B e s n : Nat} {u : Value} {xs : List Value} (ho : w.ownsRow B e s u n xs) (h : Below w.heap.size w w') : w'.ownsRow B e s u n xs := by
  refine ho.kept (row := none) ⟨h.os, h.tape, h.output, h.size, fun k hk _ => h.block k hk⟩ ?_
  cases hu : u.ownBlock with
  | none => exact Or.inl rfl
  | some g => exact Or.inr (by simp)
theorem cutF_len (sep : UInt8) : ∀ (r cur : List UInt8), (cutF sep cur r).length ≤ r.length + 1
  | [], cur => by simp [cutF]
  | c :: r, cur => by
    rw [cutF]
    split
    · have := cutF_len sep r []; simp only [List.length_cons]; omega
    · have := cutF_len sep r (cur ++ [c]); simp only [List.length_cons]; omega
theorem cutF_sum (sep : UInt8) : ∀ (r cur : List UInt8), ∀ f ∈ cutF sep cur r, f.length ≤ cur.length + r.length
  | [], cur, f, h => by simp [cutF] at h; subst h; simp
  | c :: r, cur, f, h => by
    rw [cutF] at h
    split at h
    · rcases List.mem_cons.1 h with rfl | h
      · simp only [List.length_cons]; omega
      · have := cutF_sum sep r [] f h; simp only [List.length_cons, List.length_nil] at this ⊢; omega
    · have := cutF_sum sep r (cur ++ [c]) f h; simp only [List.length_append, List.length_cons, List.length_nil] at this ⊢; omega
def chOk (c : UInt8) : Bool := decide (33 ≤ c.toNat) && decide (c.toNat ≤ 126)
theorem fieldOk_eq (f : List UInt8) : fieldOk f = (decide (0 < f.length) && f.all chOk) := rfl
theorem fields_no {line : List UInt8} {k : Nat} (h : k < (cutS line 32).length) (hf : fieldOk (cutS line 32)[k] = false) : fieldsS line = [] := by
  unfold fieldsS
  rw [if_neg]
  intro ha
  have := List.all_eq_true.1 ha _ (List.getElem_mem h)
  rw [hf] at this; cases this

set_option maxHeartbeats 2000000 in
set_option maxRecDepth 100000 in
theorem l1Fields_any (line : List UInt8) (hl : line.length ≤ 1000000) (w : World) :
    Calls Tryz.prog 14 #[.string (strOf line)] w fun e w' => ∃ v, e = .returned v ∧ Below w.heap.size w w' ∧ w'.ownsRow w.heap.size 9 1 v (fieldsS line).length (strsV (fieldsS line)) := by
  obtain ⟨cap, W1, hcap, hcv, hb1, hz1, hy1⟩ := bytes_of w line
  have HB1 := hide hb1
  have HY1 := hide hy1
  have HZ1 := hide hz1
  clear hb1 hy1 hz1
  go_enter Tryz.func14, Tryz.ntmps14
  go_wp2_with (go_at_call 13; refine (l1Cut_any w.heap.size 0 line.length cap 32 line w.heap.size (w.heap.size + 1) W1 HY1 (hide rfl) hl hcap (by have := HZ1.out; omega)).mono ?_; rintro e w2 ⟨v2, rfl, hb2, ho2⟩)
  obtain ⟨a2, c2, rfl, hvals⟩ := vals_owned ho2
  have hvl : (strsV (cutS line 32)).length = (cutS line 32).length := by simp [strsV]
  rw [hvl]
  have HB2 : Hid (Below w.heap.size w w2) := hide (HB1.out.trans (hb2.mono (by have := HZ1.out; omega)))
  have hw2 := HB2.out.size
  have HVA := hide hvals
  have HO2 : Hid (w2.ownsRow w.heap.size 9 1 (.slice a2 (cutS line 32).length c2) (cutS line 32).length (strsV (cutS line 32))) := hide (by rw [hvl] at ho2; exact (by
    obtain ⟨hl', h0 | ⟨g, cc, cur, hv, hg, r⟩⟩ := ho2
    · exact ⟨hl', .inl h0⟩
    · exact ⟨hl', .inr ⟨g, cc, cur, hv, by have := HZ1.out; omega, r⟩⟩))
  have HVL := hide hvl
  have hfl : (cutS line 32).length ≤ 1000001 := by have := cutF_len 32 line []; unfold cutS; omega
  have HFS : Hid (∀ f ∈ cutS line 32, f.length ≤ 1000000) := hide (fun f hf => by have := cutF_sum 32 line [] f hf; simp only [List.length_nil] at this; omega)
  have HNO : Hid (∀ k (h : k < (cutS line 32).length), fieldOk (cutS line 32)[k] = false → fieldsS line = []) := hide (fun k h hf => fields_no h hf)
  have HYES : Hid ((cutS line 32).all fieldOk = true → fieldsS line = cutS line 32) := hide (fun h => by unfold fieldsS; rw [if_pos h])
  have HEMP : Hid (∀ W, Below w.heap.size w W → fieldsS line = [] → (W.alloc (.cells #[] 9)).ownsRow w.heap.size 9 1 (.slice (some ⟨W.heap.size, 0, none⟩) 0 0) (fieldsS line).length (strsV (fieldsS line))) := hide (fun W hW h => by
    rw [h]
    have := World.ownsRow_lit (base := w.heap.size) (e := 9) (size := 1) W #[] 0 hW.size (by simp) rfl
    simpa [strsV] using this)
  clear hvals ho2 hb2 hvl hcv HB1 HY1 HZ1
  generalize cutS line 32 = fs at *
  go_wp2
  go_loopw [4] (fun i wr => ∃ k : Nat, k ≤ fs.length ∧ i = .int .i64 k ∧ Hid (Below w2.heap.size w2 wr) ∧ Hid ((fs.take k).all fieldOk = true)) (fun i _ => fs.length - (intOf i).toNat)
  case atStart => exact ⟨0, Nat.zero_le _, rfl, hide (Below.refl _ _), hide rfl⟩
  case round =>
    obtain ⟨k, hk, rfl, HB, HA⟩ := hrel
    have hws := HB.out.size
    have HBw : Hid (Below w.heap.size w wr) := hide (HB2.out.trans (HB.out.mono hw2))
    by_cases hlt : k < fs.length
    · obtain ⟨b, o, rfl, ⟨_, hbB⟩, hc⟩ := HVA.out k (by rw [HVL.out]; exact hlt)
      have HC2 : Hid (w2.cell? ⟨b, o + k, none⟩ = some (.string (strOf fs[k]))) := hide (hc.trans (by simp [strsV]))
      have hc1 : wr.cell? ⟨b, o + k, none⟩ = some (.string (strOf fs[k])) := (HB.out.cell (p := ⟨b, o + k, none⟩) hbB).trans HC2.out
      have HNk := hide (HNO.out k hlt)
      have HFk := hide (HFS.out fs[k] (List.getElem_mem hlt))
      have HTk : Hid ((fs.take (k + 1)).all fieldOk = ((fs.take k).all fieldOk && fieldOk fs[k])) := hide (by rw [List.take_succ_eq_append_getElem hlt, List.all_append]; simp)
      clear hc
      generalize fs[k] = f at *
      have hsz : (strOf f).size = f.length := strOf_size f
      by_cases hf0 : f.length = 0
      · have HE := hide (HNk.out (by rw [fieldOk_eq, hf0]; rfl))
        go_wp2
        go_ret
        exact ⟨_, rfl, balloc HBw.out _, HEMP.out _ HBw.out HE.out⟩
      · have hfp : 0 < f.length := by omega
        have hf6 : f.length ≤ 1000000 := HFk.out
        go_wp2
        generalize wr = wo at *
        go_loopw [5] (fun j wi => ∃ q : Nat, q ≤ f.length ∧ j = .int .i64 q ∧ Hid (Below w2.heap.size w2 wi) ∧ Hid ((f.take q).all chOk = true)) (fun j _ => f.length - (intOf j).toNat)
        case atStart => exact ⟨0, Nat.zero_le _, rfl, HB, hide rfl⟩
        case round =>
          clear hc1 HB HBw hws
          obtain ⟨q, hq, rfl, HB, HAq⟩ := hrel
          have hws := HB.out.size
          have HBw : Hid (Below w.heap.size w wr) := hide (HB2.out.trans (HB.out.mono hw2))
          have hc1 : wr.cell? ⟨b, o + k, none⟩ = some (.string (strOf f)) := (HB.out.cell (p := ⟨b, o + k, none⟩) hbB).trans HC2.out
          by_cases hlq : q < f.length
          · have hqs : q < (strOf f).size := by omega
            have HT : Hid ((f.take (q + 1)).all chOk = ((f.take q).all chOk && chOk (strOf f)[q])) := hide (by rw [List.take_succ_eq_append_getElem hlq, List.all_append]; simp [strOf_at])
            have HCH : Hid (chOk (strOf f)[q] = true ↔ ¬ (((strOf f)[q]).toNat : Int) < 33 ∧ ¬ (126 : Int) < (((strOf f)[q]).toNat : Int)) := hide (by simp only [chOk, Bool.and_eq_true, decide_eq_true_eq]; omega)
            have HF : Hid (chOk (strOf f)[q] = false → fieldsS line = []) := hide (fun h => HNk.out (by
              rw [fieldOk_eq, Bool.and_eq_false_iff]
              exact Or.inr (by
                rw [List.all_eq_false]
                exact ⟨f[q], List.getElem_mem hlq, by have e : chOk f[q] = false := h; rw [e]; simp⟩)))
            by_cases c1 : (((strOf f)[q]).toNat : Int) < 33
            · have HE := hide (HF.out (by cases h : chOk (strOf f)[q] with | false => rfl | true => exact absurd c1 (HCH.out.1 h).1))
              go_wp2
              go_ret
              exact ⟨_, rfl, balloc HBw.out _, HEMP.out _ HBw.out HE.out⟩
            · by_cases c3 : (126 : Int) < (((strOf f)[q]).toNat : Int)
              · have HE := hide (HF.out (by cases h : chOk (strOf f)[q] with | false => rfl | true => exact absurd c3 (HCH.out.1 h).2))
                go_wp2
                go_ret
                exact ⟨_, rfl, balloc HBw.out _, HEMP.out _ HBw.out HE.out⟩
              · have HA2 : Hid ((f.take (q + 1)).all chOk = true) := hide (by rw [HT.out, HAq.out, HCH.out.2 ⟨c1, c3⟩]; rfl)
                go_wp2
                exact ⟨⟨q + 1, by omega, by go_num, HB, HA2⟩, by simp [intOf]; omega⟩
          · have HA2 : Hid ((fs.take (k + 1)).all fieldOk = true) := hide (by
              rw [HTk.out, HA.out, fieldOk_eq, decide_eq_true hfp]
              have := HAq.out
              rw [List.take_of_length_le (by omega)] at this
              rw [this]; rfl)
            go_wp2
            exact ⟨⟨k + 1, by omega, by go_num, HB, HA2⟩, by simp [intOf]; omega⟩
    · have HE := hide (HYES.out (by have := HA.out; rwa [List.take_of_length_le (by omega)] at this))
      have HOE : Hid (wr.ownsRow w.heap.size 9 1 (.slice a2 fs.length c2) (fieldsS line).length (strsV (fieldsS line))) := hide (by rw [HE.out]; exact own_calm2 HO2.out HB.out)
      have HBw : Hid (Below w.heap.size w wr) := hide (HB2.out.trans (HB.out.mono hw2))
      go_wp2
      go_ret
      exact ⟨_, rfl, HBw.out, HOE.out⟩
end Go.Proofs.YtdcdgopblbmgoaaGreatDoor
