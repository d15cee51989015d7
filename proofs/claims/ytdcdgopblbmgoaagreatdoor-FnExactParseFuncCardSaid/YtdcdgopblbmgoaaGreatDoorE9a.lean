import Derived.Test.YtdcdgopblbmgoaaGreatDoorPF
import Derived.Test.YtdcdgopblbmgoaaGreatDoorW6b
import Derived.Maps.AppendAt
import Derived.Test.YtdcdgopblbmgoaaGreatDoorPure2
/-
  chosen of the program: pointers to fields.
-/
namespace Go.Proofs.YtdcdgopblbmgoaaGreatDoor
open Go.RowKit

def ptrV (p : Addr) : Value := .pointer (some p)
/-- Those fields whose mark is set. -/
def keepP : List Bool → List Addr → List Addr
  | k :: ks, p :: ps => if k then p :: keepP ks ps else keepP ks ps
  | _, _ => []
theorem keepP_snoc (ks : List Bool) (ps : List Addr) (k : Bool) (p : Addr) (h : ks.length = ps.length) : keepP (ks ++ [k]) (ps ++ [p]) = keepP ks ps ++ (if k then [p] else []) := by
  induction ks generalizing ps with
  | nil => cases ps with
    | nil => cases k <;> rfl
    | cons q r => simp at h
  | cons x r ih => cases ps with
    | nil => simp at h
    | cons q s => cases x <;> simp [keepP, ih s (by simpa using h)]
theorem keepP_len (ks : List Bool) (ps : List Addr) : (keepP ks ps).length ≤ ps.length := by
  induction ks generalizing ps with
  | nil => simp [keepP]
  | cons x r ih => cases ps with
    | nil => simp [keepP]
    | cons q s => have := ih s; cases x <;> simp [keepP] <;> omega
theorem Tryz.infoPtr : (Tryz.prog.info? 174).map (fun i => (i.zero, i.size, i.bytes)) = some (some (.pointer none), 1, 8) := by kernel_rfl
theorem ptrs_snoc (l : List Addr) (v : Addr) : (l ++ [v]).map ptrV = l.map ptrV ++ [ptrV v] := by simp
theorem own_emptyP (w : World) : (w.alloc (.cells #[] 174)).ownsRow w.heap.size 174 1 (.slice (some ⟨w.heap.size, 0, none⟩) 0 0) 0 [] := by
  have := World.ownsRow_lit (base := w.heap.size) (e := 174) (size := 1) w #[] 0 (by simp) (by simp) rfl
  simpa using this

set_option maxHeartbeats 1000000 in
set_option maxRecDepth 100000 in
theorem chosen_any (ka fa : Option Addr) (kc fc : Nat) (ks : List Bool) (ps : List Addr) (L B : Nat) (w : World) (hB : B ≤ w.heap.size) (hk : Hid (ValsAt w L B ka (ks.map Value.bool))) (hp : Hid (ValsAt w L B fa (ps.map ptrV))) (hl : Hid (ks.length = ps.length)) (hs : ps.length ≤ 1000) :
    Calls Tryz.prog 110 #[.slice ka ks.length kc, .slice fa ps.length fc] w fun e w' => ∃ v, e = .returned v ∧ Below w.heap.size w w' ∧ w'.ownsRow w.heap.size 174 1 v (keepP ks ps).length ((keepP ks ps).map ptrV) := by
  obtain ⟨i0, hi0, hz0, hz1, hz2⟩ := info_parts Tryz.infoPtr
  go_enter Tryz.func110, Tryz.ntmps110
  go_wp2
  go_loopw [5, 11] (fun v i wr => ∃ k : Nat, k ≤ ps.length ∧ i = .int .i64 k ∧ Hid (Below w.heap.size w wr) ∧ Hid (wr.ownsRow w.heap.size 174 1 v (keepP (ks.take k) (ps.take k)).length ((keepP (ks.take k) (ps.take k)).map ptrV))) (fun _ i _ => ps.length - (intOf i).toNat)
  case atStart => exact ⟨0, Nat.zero_le _, rfl, hide (balloc (Below.refl _ _) _), hide (by simpa [keepP] using own_emptyP w)⟩
  case round =>
    obtain ⟨k, hk', rfl, HB, HO⟩ := hrel
    have hwz := HB.out.size
    by_cases hlt : k < ps.length
    · have hkk : k < ks.length := by have := hl.out; omega
      obtain ⟨b1, o1, rfl, ⟨_, hb1⟩, hc1⟩ := (hk.out.keepS (Same.of_below (HB.out.mono hB))) k (by simpa using hkk)
      obtain ⟨b2, o2, rfl, ⟨_, hb2⟩, hc2⟩ := (hp.out.keepS (Same.of_below (HB.out.mono hB))) k (by simpa using hlt)
      rw [List.getElem_map] at hc1 hc2
      unfold ptrV at hc2
      have HT : Hid (keepP (ks.take (k + 1)) (ps.take (k + 1)) = keepP (ks.take k) (ps.take k) ++ (if ks[k] then [ps[k]] else [])) := hide (by rw [List.take_succ_eq_append_getElem hkk, List.take_succ_eq_append_getElem hlt, keepP_snoc _ _ _ _ (by simp only [List.length_take]; omega)])
      have HL : Hid ((keepP (ks.take k) (ps.take k)).length + 1 ≤ 2000) := hide (by have := keepP_len (ks.take k) (ps.take k); simp only [List.length_take] at this; omega)
      generalize ks[k] = K at *
      generalize ps[k] = p at *
      cases K with
      | false =>
        have HO1 : Hid (wr.ownsRow w.heap.size 174 1 u5 (keepP (ks.take (k + 1)) (ps.take (k + 1))).length ((keepP (ks.take (k + 1)) (ps.take (k + 1))).map ptrV)) := hide (by rw [HT.out]; simpa using HO.out)
        go_wp2
        exact ⟨⟨k + 1, by omega, by go_num, HB, HO1⟩, by simp [intOf]; omega⟩
      | true =>
        have HT' : Hid (keepP (ks.take (k + 1)) (ps.take (k + 1)) = keepP (ks.take k) (ps.take k) ++ [p]) := hide (by have := HT.out; simpa using this)
        go_wp2_with (at_builtin; refine wpList_append_own_at _ rfl _ _ 157 rfl w.heap.size 174 i0 (.pointer none) 1 8 Tryz.underlying157 hi0 hz0 hz1 hz2 rfl (by decide) _ _ _ rfl (HO.out.alloc _) ⟨wr.heap.size, 0, none⟩ 1 1 [.pointer (some p)] rfl rfl ?c1 ?c2 ?c3 ?c4 ?c5 ?_)
        case c2 => first | rfl | simp | (intro u hu; simp at hu; subst hu; rfl)
        case c3 => have := HL.out; unfold maxLen; omega
        case c4 => have := HL.out; omega
        case c5 => first | omega | (simp; omega)
        intro v1 w1 hown1 hgrow1 hne1 hat1
        have HO1 : Hid (w1.ownsRow w.heap.size 174 1 v1 (keepP (ks.take (k + 1)) (ps.take (k + 1))).length ((keepP (ks.take (k + 1)) (ps.take (k + 1))).map ptrV)) := hide (by rw [HT'.out, ptrs_snoc, List.length_append]; exact hown1)
        have HB1 : Hid (Below w.heap.size w w1) := hide (grown_below ((HB.out).alloc (by omega) _) hgrow1 (HO.out.alloc _) (Nat.le_refl _) (by simp; omega))
        clear hown1 hgrow1 hne1 hat1
        go_wp2
        exact ⟨⟨k + 1, by omega, by go_num, HB1, HO1⟩, by simp [intOf]; omega⟩
    · have HO2 : Hid (wr.ownsRow w.heap.size 174 1 u5 (keepP ks ps).length ((keepP ks ps).map ptrV)) := hide (by have := HO.out; have e := hl.out; rwa [List.take_of_length_le (by omega), List.take_of_length_le (by omega)] at this)
      go_wp2
      go_ret
      exact ⟨_, rfl, HB.out, HO2.out⟩
end Go.Proofs.YtdcdgopblbmgoaaGreatDoor

namespace Go.Proofs.YtdcdgopblbmgoaaGreatDoor
open Go.RowKit

set_option maxHeartbeats 400000 in
theorem validImm_any (op dst a b imm : Int) (w : World) :
    Calls Tryz.prog 99 #[.agg #[.int .i64 op, .int .i64 dst, .int .i64 a, .int .i64 b, .int .i64 imm]] w fun e w' => e = .returned (.bool (immOk ⟨op, dst, a, b, imm⟩)) ∧ Below w.heap.size w w' := by
  go_enter Tryz.func99, Tryz.ntmps99
  go_wp2
  all_goals
    go_ret
    refine ⟨ret_bool ?_, balloc (Below.refl _ _) _⟩
    first | (simp [immOk, *]; done) | (simp [immOk, *]; omega)

/-- What the table of the instructions' forms (variable 0) holds. -/
def OpTab (w : World) : Prop := 1 < w.heap.size ∧ ∀ k : Nat, 1 ≤ k → k ≤ 13 → ∃ s, w.cell? ⟨1, k * 5, none⟩ = some (.string s) ∧ w.cell? ⟨1, k * 5 + 1, none⟩ = some (.bool (dB k)) ∧ w.cell? ⟨1, k * 5 + 2, none⟩ = some (.bool (aB k)) ∧
  w.cell? ⟨1, k * 5 + 3, none⟩ = some (.bool (bB k)) ∧ ∃ i, w.cell? ⟨1, k * 5 + 4, none⟩ = some (.bool i)
/-- What the table of the ends' forms (variable 1) holds. -/
def TerTab (w : World) : Prop := 2 < w.heap.size ∧ ∀ k : Nat, 1 ≤ k → k ≤ 3 → ∃ s, w.cell? ⟨2, k * 4, none⟩ = some (.string s) ∧ w.cell? ⟨2, k * 4 + 1, none⟩ = some (.bool ((k : Int) != 1)) ∧ w.cell? ⟨2, k * 4 + 2, none⟩ = some (.bool ((k : Int) != 3)) ∧
  w.cell? ⟨2, k * 4 + 3, none⟩ = some (.bool ((k : Int) == 2))
theorem OpTab.keep {w w' : World} (h : OpTab w) (k : Below w.heap.size w w') : OpTab w' := by
  refine ⟨Nat.lt_of_lt_of_le h.1 k.size, fun i h1 h2 => ?_⟩
  have e := fun o => cell_of (o := o) (k.block 1 h.1)
  obtain ⟨s, c0, c1, c2, c3, j, c4⟩ := h.2 i h1 h2
  exact ⟨s, (e _).trans c0, (e _).trans c1, (e _).trans c2, (e _).trans c3, j, (e _).trans c4⟩
theorem TerTab.keep {w w' : World} (h : TerTab w) (k : Below w.heap.size w w') : TerTab w' := by
  refine ⟨Nat.lt_of_lt_of_le h.1 k.size, fun i h1 h2 => ?_⟩
  have e := fun o => cell_of (o := o) (k.block 2 h.1)
  obtain ⟨s, c0, c1, c2, c3⟩ := h.2 i h1 h2
  exact ⟨s, (e _).trans c0, (e _).trans c1, (e _).trans c2, (e _).trans c3⟩

set_option maxHeartbeats 1000000 in
theorem validInstr_gen (op dst a b imm n most : Int) (w : World) (hm : most ≤ 13) (hT : Hid (OpTab w)) :
    Calls Tryz.prog 81 #[.agg #[.int .i64 op, .int .i64 dst, .int .i64 a, .int .i64 b, .int .i64 imm], .int .i64 most, .int .i64 n] w fun e w' => e = .returned (.bool (insOk n most ⟨op, dst, a, b, imm⟩)) ∧ Below w.heap.size w w' := by
  by_cases h : 1 ≤ op ∧ op ≤ most
  · obtain ⟨h1, h2⟩ := h
    obtain ⟨k, rfl⟩ := Int.eq_ofNat_of_zero_le (show 0 ≤ op by omega)
    have hz := hT.out.1
    obtain ⟨s, c0, c1, c2, c3, j, c4⟩ := hT.out.2 k (by omega) (by omega)
    have hR : Hid (insOk n most ⟨k, dst, a, b, imm⟩ = (fld (dB k) dst 0 n && fld (aB k) a 0 n && fld (bB k) b 0 n && immOk ⟨k, dst, a, b, imm⟩)) := by
      show _ = _
      unfold insOk
      rw [decide_eq_true h1, decide_eq_true h2]
      simp
    generalize dB (k : Int) = uD at *
    generalize aB (k : Int) = uA at *
    generalize bB (k : Int) = uB at *
    have hk13 : (k : Int) ≤ 13 := by omega
    go_enter Tryz.func81, Tryz.ntmps81
    go_wp2_with (first | (go_at_call 83; refine (validField_any _ _ _ _ _).mono ?_; rintro e w2 ⟨rfl, hw2⟩; rw [hw2]; clear hw2 w2) | (go_at_call 99; refine (validImm_any _ _ _ _ _ _).mono ?_; rintro e w2 ⟨rfl, hb2⟩))
    all_goals
      go_ret
      refine ⟨ret_bool ?_, ?_⟩
      · rw [hR.out]; simp [*]
      · first | exact bnext (balloc (balloc (Below.refl _ _) _) _) hb2 | exact balloc (balloc (Below.refl _ _) _) _
  · have hn : ∃ r, r = insOk n most ⟨op, dst, a, b, imm⟩ ∧ r = false := ⟨_, rfl, by
      unfold insOk
      by_cases h1 : 1 ≤ op
      · rw [decide_eq_false (p := op ≤ most) (by omega)]; simp
      · rw [decide_eq_false (p := 1 ≤ op) h1]; simp⟩
    obtain ⟨r, hr, rfl⟩ := hn
    rw [← hr]
    clear hr
    have h' : op < 1 ∨ (1 ≤ op ∧ most < op) := by omega
    clear h
    rcases h' with h' | ⟨h', h''⟩
    all_goals
      go_enter Tryz.func81, Tryz.ntmps81
      go_wp2
      all_goals
        go_ret
        exact ⟨rfl, balloc (Below.refl _ _) _⟩

theorem validInstr_any (op dst a b imm n : Int) (w : World) (hT : Hid (OpTab w)) :
    Calls Tryz.prog 81 #[.agg #[.int .i64 op, .int .i64 dst, .int .i64 a, .int .i64 b, .int .i64 imm], .int .i64 10, .int .i64 n] w fun e w' => e = .returned (.bool (insOk n 10 ⟨op, dst, a, b, imm⟩)) ∧ Below w.heap.size w w' :=
  validInstr_gen op dst a b imm n 10 w (by decide) hT

set_option maxHeartbeats 1000000 in
theorem validTerm_any (kind ta to els n low bl : Int) (w : World) (hT : Hid (TerTab w)) :
    Calls Tryz.prog 80 #[.agg #[.int .i64 kind, .int .i64 ta, .int .i64 to, .int .i64 els], .int .i64 n, .int .i64 low, .int .i64 bl] w fun e w' => e = .returned (.bool (terOk n low bl ⟨kind, ta, to, els⟩)) ∧ Below w.heap.size w w' := by
  by_cases h : 1 ≤ kind ∧ kind ≤ 3
  · obtain ⟨h1, h2⟩ := h
    obtain ⟨k, rfl⟩ := Int.eq_ofNat_of_zero_le (show 0 ≤ kind by omega)
    have hz := hT.out.1
    obtain ⟨s, c0, c1, c2, c3⟩ := hT.out.2 k (by omega) (by omega)
    have hR : Hid (terOk n low bl ⟨k, ta, to, els⟩ = (fld ((k : Int) != 1) ta 0 n && fld ((k : Int) != 3) to low bl && fld ((k : Int) == 2) els low bl)) := by
      show _ = _
      unfold terOk
      rw [decide_eq_true h1, decide_eq_true h2]
      simp
    generalize ((k : Int) != 1) = uA at *
    generalize ((k : Int) != 3) = uT at *
    generalize ((k : Int) == 2) = uE at *
    go_enter Tryz.func80, Tryz.ntmps80
    go_wp2_with (go_at_call 83; refine (validField_any _ _ _ _ _).mono ?_; rintro e w2 ⟨rfl, hw2⟩; rw [hw2]; clear hw2 w2)
    all_goals
      go_ret
      refine ⟨ret_bool ?_, ?_⟩
      · rw [hR.out]; simp [*]
      · exact balloc (balloc (Below.refl _ _) _) _
  · have hn : ∃ r, r = terOk n low bl ⟨kind, ta, to, els⟩ ∧ r = false := ⟨_, rfl, terOk_no h⟩
    obtain ⟨r, hr, rfl⟩ := hn
    rw [← hr]
    clear hr
    have h' : kind < 1 ∨ 3 < kind := by omega
    clear h
    go_enter Tryz.func80, Tryz.ntmps80
    go_wp2
    all_goals
      go_ret
      exact ⟨rfl, balloc (Below.refl _ _) _⟩

set_option maxHeartbeats 400000 in
theorem targetsI_any (t : Ter) (w : World) :
    Calls Tryz.prog 100 #[.agg #[.int .i64 t.kind, .int .i64 t.a, .int .i64 t.to, .int .i64 t.els]] w fun e w' => ∃ a c, e = .returned (.slice a t.targets.length c) ∧ Below w.heap.size w w' ∧ IntsAt w' w.heap.size w'.heap.size a t.targets := by
  obtain ⟨kind, ta, to, els⟩ := t
  by_cases h1 : kind = 1
  · subst h1
    go_enter Tryz.func100, Tryz.ntmps100
    go_wp2
    go_ret
    refine ⟨_, _, rfl, balloc (balloc (Below.refl _ _) _) _, fun i hi => ?_⟩
    simp [Ter.targets] at hi
    subst hi
    exact ⟨_, _, rfl, ⟨by simp, by simp⟩, by simp [Ter.targets]⟩
  · by_cases h2 : kind = 2
    · subst h2
      go_enter Tryz.func100, Tryz.ntmps100
      go_wp2
      go_ret
      refine ⟨_, _, rfl, balloc (balloc (Below.refl _ _) _) _, fun i hi => ?_⟩
      simp [Ter.targets] at hi
      match i, hi with
      | 0, _ => exact ⟨_, _, rfl, ⟨by simp, by simp⟩, by simp [Ter.targets]⟩
      | 1, _ => exact ⟨_, _, rfl, ⟨by simp, by simp⟩, by simp [Ter.targets]⟩
    · have e1 : (kind == 1) = false := by simp [h1]
      have e2 : (kind == 2) = false := by simp [h2]
      have hn : (Ter.targets ⟨kind, ta, to, els⟩) = [] := by simp [Ter.targets, h1, h2]
      rw [hn]
      clear h1 h2 hn
      go_enter Tryz.func100, Tryz.ntmps100
      go_wp2
      go_ret
      exact ⟨_, _, rfl, balloc (Below.refl _ _) _, fun i hi => absurd hi (by simp)⟩
end Go.Proofs.YtdcdgopblbmgoaaGreatDoor
