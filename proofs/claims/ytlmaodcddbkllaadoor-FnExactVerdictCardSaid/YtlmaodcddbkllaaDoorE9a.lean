import Derived.Test.YtlmaodcddbkllaaDoorW10
import Derived.Test.YtlmaodcddbkllaaDoorW7
import Derived.Maps.AppendAt
import Derived.Test.YtlmaodcddbkllaaDoorE7a
import Derived.Test.YtlmaodcddbkllaaDoorE2
import Derived.Deep.RegionHeld3
/-
  chosen of the program: pointers to fields.
-/
namespace Go.Proofs.YtlmaodcddbkllaaDoor
open Go.RowKit

def ptrV (p : Addr) : Value := .pointer (some p)
/-- Those fields whose mark is set. -/
def keepP : List Bool → List Addr → List Addr
  | k :: ks, p :: ps => if k then p :: keepP ks ps else keepP ks ps
  | _, _ => []
theorem keepP_snoc (ks : List Bool) (ps : List Addr) (k : Bool) (p : Addr) (h : ks.length = ps.length) : keepP (ks ++ [k]) (ps ++ [p]) = keepP ks ps ++ (if k then [p] else []) := by
  induction ks generalizing ps with
  | nil => cases ps with
    | nil => cases k <;> rfl
    | cons q r => simp at h
  | cons x r ih => cases ps with
    | nil => simp at h
    | cons q s => cases x <;> simp [keepP, ih s (by simpa using h)]
theorem keepP_len (ks : List Bool) (ps : List Addr) : (keepP ks ps).length ≤ ps.length := by
  induction ks generalizing ps with
  | nil => simp [keepP]
  | cons x r ih => cases ps with
    | nil => simp [keepP]
    | cons q s => have := ih s; cases x <;> simp [keepP] <;> omega
theorem Tryd.infoPtr : (Tryd.prog.info? 245).map (fun i => (i.zero, i.size, i.bytes)) = some (some (.pointer none), 1, 8) := by kernel_rfl
theorem ptrs_snoc (l : List Addr) (v : Addr) : (l ++ [v]).map ptrV = l.map ptrV ++ [ptrV v] := by simp
theorem own_emptyP (w : World) : (w.alloc (.cells #[] 245)).ownsRow w.heap.size 245 1 (.slice (some ⟨w.heap.size, 0, none⟩) 0 0) 0 [] := by
  have := World.ownsRow_lit (base := w.heap.size) (e := 245) (size := 1) w #[] 0 (by simp) (by simp) rfl
  simpa using this

set_option maxHeartbeats 1000000 in
set_option maxRecDepth 100000 in
theorem chosen_any (ka fa : Option Addr) (kc fc : Nat) (ks : List Bool) (ps : List Addr) (L B : Nat) (w : World) (hB : B ≤ w.heap.size) (hk : Hid (ValsAt w L B ka (ks.map Value.bool))) (hp : Hid (ValsAt w L B fa (ps.map ptrV))) (hl : Hid (ks.length = ps.length)) (hs : ps.length ≤ 1000) :
    Calls Tryd.prog 176 #[.slice ka ks.length kc, .slice fa ps.length fc] w fun e w' => ∃ v, e = .returned v ∧ Below w.heap.size w w' ∧ w'.ownsRow w.heap.size 245 1 v (keepP ks ps).length ((keepP ks ps).map ptrV) := by
  obtain ⟨i0, hi0, hz0, hz1, hz2⟩ := info_parts Tryd.infoPtr
  go_enter Tryd.func176, Tryd.ntmps176
  go_wp2
  go_loopw [5, 11] (fun v i wr => ∃ k : Nat, k ≤ ps.length ∧ i = .int .i64 k ∧ Hid (Below w.heap.size w wr) ∧ Hid (wr.ownsRow w.heap.size 245 1 v (keepP (ks.take k) (ps.take k)).length ((keepP (ks.take k) (ps.take k)).map ptrV))) (fun _ i _ => ps.length - (intOf i).toNat)
  case atStart => exact ⟨0, Nat.zero_le _, rfl, hide (balloc (Below.refl _ _) _), hide (by simpa [keepP] using own_emptyP w)⟩
  case round =>
    obtain ⟨k, hk', rfl, HB, HO⟩ := hrel
    have hwz := HB.out.size
    by_cases hlt : k < ps.length
    · have hkk : k < ks.length := by have := hl.out; omega
      obtain ⟨b1, o1, rfl, ⟨_, hb1⟩, hc1⟩ := (hk.out.keepS (Same.of_below (HB.out.mono hB))) k (by simpa using hkk)
      obtain ⟨b2, o2, rfl, ⟨_, hb2⟩, hc2⟩ := (hp.out.keepS (Same.of_below (HB.out.mono hB))) k (by simpa using hlt)
      rw [List.getElem_map] at hc1 hc2
      unfold ptrV at hc2
      have HT : Hid (keepP (ks.take (k + 1)) (ps.take (k + 1)) = keepP (ks.take k) (ps.take k) ++ (if ks[k] then [ps[k]] else [])) := hide (by rw [List.take_succ_eq_append_getElem hkk, List.take_succ_eq_append_getElem hlt, keepP_snoc _ _ _ _ (by simp only [List.length_take]; omega)])
      have HL : Hid ((keepP (ks.take k) (ps.take k)).length + 1 ≤ 2000) := hide (by have := keepP_len (ks.take k) (ps.take k); simp only [List.length_take] at this; omega)
      generalize ks[k] = K at *
      generalize ps[k] = p at *
      cases K with
      | false =>
        have HO1 : Hid (wr.ownsRow w.heap.size 245 1 u5 (keepP (ks.take (k + 1)) (ps.take (k + 1))).length ((keepP (ks.take (k + 1)) (ps.take (k + 1))).map ptrV)) := hide (by rw [HT.out]; simpa using HO.out)
        go_wp2
        exact ⟨⟨k + 1, by omega, by go_num, HB, HO1⟩, by simp [intOf]; omega⟩
      | true =>
        have HT' : Hid (keepP (ks.take (k + 1)) (ps.take (k + 1)) = keepP (ks.take k) (ps.take k) ++ [p]) := hide (by have := HT.out; simpa using this)
        go_wp2_with (at_builtin; refine wpList_append_own_at _ rfl _ _ 208 rfl w.heap.size 245 i0 (.pointer none) 1 8 Tryd.underlying208 hi0 hz0 hz1 hz2 rfl (by decide) _ _ _ rfl (HO.out.alloc _) ⟨wr.heap.size, 0, none⟩ 1 1 [.pointer (some p)] rfl rfl ?c1 ?c2 ?c3 ?c4 ?c5 ?_)
        case c2 => first | rfl | simp | (intro u hu; simp at hu; subst hu; rfl)
        case c3 => have := HL.out; unfold maxLen; omega
        case c4 => have := HL.out; omega
        case c5 => first | omega | (simp; omega)
        intro v1 w1 hown1 hgrow1 hne1 hat1
        have HO1 : Hid (w1.ownsRow w.heap.size 245 1 v1 (keepP (ks.take (k + 1)) (ps.take (k + 1))).length ((keepP (ks.take (k + 1)) (ps.take (k + 1))).map ptrV)) := hide (by rw [HT'.out, ptrs_snoc, List.length_append]; exact hown1)
        have HB1 : Hid (Below w.heap.size w w1) := hide (grown_below ((HB.out).alloc (by omega) _) hgrow1 (HO.out.alloc _) (Nat.le_refl _) (by simp; omega))
        clear hown1 hgrow1 hne1 hat1
        go_wp2
        exact ⟨⟨k + 1, by omega, by go_num, HB1, HO1⟩, by simp [intOf]; omega⟩
    · have HO2 : Hid (wr.ownsRow w.heap.size 245 1 u5 (keepP ks ps).length ((keepP ks ps).map ptrV)) := hide (by have := HO.out; have e := hl.out; rwa [List.take_of_length_le (by omega), List.take_of_length_le (by omega)] at this)
      go_wp2
      go_ret
      exact ⟨_, rfl, HB.out, HO2.out⟩
end Go.Proofs.YtlmaodcddbkllaaDoor

/-
  contents of the program: what lies where pointers point.
-/
namespace Go.Proofs.YtlmaodcddbkllaaDoor
open Go.RowKit

set_option maxHeartbeats 1000000 in
set_option maxRecDepth 100000 in
theorem contents_any (fa : Option Addr) (fc : Nat) (ps : List Addr) (vs : List Int) (L B : Nat) (w : World) (hB : B ≤ w.heap.size) (hp : Hid (ValsAt w L B fa (ps.map ptrV))) (hl : Hid (vs.length = ps.length)) (hv : Hid (∀ i (h : i < ps.length) (h' : i < vs.length), ps[i].block < w.heap.size ∧ w.cell? ps[i] = some (.int .i64 vs[i]))) (hs : ps.length ≤ 1000) :
    Calls Tryd.prog 147 #[.slice fa ps.length fc] w fun e w' => ∃ v, e = .returned v ∧ Below w.heap.size w w' ∧ w'.ownsRow w.heap.size 2 1 v vs.length (vs.map (Value.int .i64)) := by
  obtain ⟨i0, hi0, hz0, hz1, hz2⟩ := info_parts Tryd.info2'
  go_enter Tryd.func147, Tryd.ntmps147
  go_wp2
  go_loopw [3, 9] (fun v i wr => ∃ k : Nat, k ≤ ps.length ∧ i = .int .i64 k ∧ Hid (Below w.heap.size w wr) ∧ Hid (wr.ownsRow w.heap.size 2 1 v (vs.take k).length ((vs.take k).map (Value.int .i64)))) (fun _ i _ => ps.length - (intOf i).toNat)
  case atStart => exact ⟨0, Nat.zero_le _, rfl, hide (balloc (Below.refl _ _) _), hide (by
    have := World.ownsRow_lit (base := w.heap.size) (e := 2) (size := 1) w #[] 0 (by simp) (by simp) rfl
    simpa using this)⟩
  case round =>
    obtain ⟨k, hk', rfl, HB, HO⟩ := hrel
    have hwz := HB.out.size
    by_cases hlt : k < ps.length
    · have hkk : k < vs.length := by have := hl.out; omega
      obtain ⟨b2, o2, rfl, ⟨_, hb2⟩, hc2⟩ := (hp.out.keepS (Same.of_below (HB.out.mono hB))) k (by simpa using hlt)
      rw [List.getElem_map] at hc2
      unfold ptrV at hc2
      obtain ⟨hq1, hq2⟩ := hv.out k hlt hkk
      have hc3 := (HB.out.cell (p := ps[k]) hq1).trans hq2
      have HT : Hid ((vs.take (k + 1)) = vs.take k ++ [vs[k]]) := hide (List.take_succ_eq_append_getElem hkk)
      have HL : Hid ((vs.take k).length + 1 ≤ 2000) := hide (by have := hl.out; simp only [List.length_take]; omega)
      clear hq1 hq2
      generalize vs[k] = V at *
      generalize ps[k] = p at *
      go_wp2_with (at_builtin; refine wpList_append_own_at _ rfl _ _ 40 rfl w.heap.size 2 i0 (.int .i64 0) 1 8 Tryd.underlying40 hi0 hz0 hz1 hz2 rfl (by decide) _ _ _ rfl (HO.out.alloc _) ⟨wr.heap.size, 0, none⟩ 1 1 [.int .i64 V] rfl rfl ?c1 ?c2 ?c3 ?c4 ?c5 ?_)
      case c1 => exact cell_one_new _ _ _
      case c2 => intro u hu; simp at hu; subst hu; rfl
      case c3 => have := HL.out; unfold maxLen; omega
      case c4 => have := HL.out; omega
      case c5 => simp; omega
      intro v1 w1 hown1 hgrow1 hne1 hat1
      have HO1 : Hid (w1.ownsRow w.heap.size 2 1 v1 (vs.take (k + 1)).length ((vs.take (k + 1)).map (Value.int .i64))) := hide (by
        rw [HT.out, ints_snoc', List.length_append, List.map_take, List.length_take]; exact hown1)
      have HB1 : Hid (Below w.heap.size w w1) := hide (grown_below ((HB.out).alloc (by omega) _) hgrow1 (HO.out.alloc _) (Nat.le_refl _) (by simp; omega))
      clear hown1 hgrow1 hne1 hat1
      go_wp2
      exact ⟨⟨k + 1, by omega, by go_num, HB1, HO1⟩, by simp [intOf]; omega⟩
    · have HO2 : Hid (wr.ownsRow w.heap.size 2 1 u3 vs.length (vs.map (Value.int .i64))) := hide (by have := HO.out; have e := hl.out; rwa [List.take_of_length_le (by omega)] at this)
      go_wp2
      go_ret
      exact ⟨_, rfl, HB.out, HO2.out⟩
end Go.Proofs.YtlmaodcddbkllaaDoor

/-
  The tables with their words; used of an instruction.
-/
namespace Go.Proofs.YtlmaodcddbkllaaDoor
open Go.RowKit

def iB (op : Int) : Bool := decide (op ≤ 2)
def terW (k : Int) : List UInt8 := if k = 1 then [106, 117, 109, 112] else if k = 3 then [114, 101, 116] else [98, 114, 97, 110, 99, 104]
/-- What the two tables hold, words and all. -/
def OpTabW (w : World) : Prop := 0 < w.heap.size ∧ ∀ k : Nat, 1 ≤ k → k ≤ 13 → w.cell? ⟨0, k * 5, none⟩ = some (.string (strOf (wordS k))) ∧ w.cell? ⟨0, k * 5 + 1, none⟩ = some (.bool (dB k)) ∧ w.cell? ⟨0, k * 5 + 2, none⟩ = some (.bool (aB k)) ∧
  w.cell? ⟨0, k * 5 + 3, none⟩ = some (.bool (bB k)) ∧ w.cell? ⟨0, k * 5 + 4, none⟩ = some (.bool (iB k))
def TerTabW (w : World) : Prop := 1 < w.heap.size ∧ ∀ k : Nat, 1 ≤ k → k ≤ 3 → w.cell? ⟨1, k * 4, none⟩ = some (.string (strOf (terW k))) ∧ w.cell? ⟨1, k * 4 + 1, none⟩ = some (.bool ((k : Int) != 1)) ∧ w.cell? ⟨1, k * 4 + 2, none⟩ = some (.bool ((k : Int) != 3)) ∧
  w.cell? ⟨1, k * 4 + 3, none⟩ = some (.bool ((k : Int) == 2))
theorem OpTabW.keep {w w' : World} {B : Nat} (h : OpTabW w) (k : Below B w w') (hB : 0 < B) : OpTabW w' := by
  refine ⟨Nat.lt_of_lt_of_le h.1 k.size, fun i h1 h2 => ?_⟩
  have e := fun o => cell_of (o := o) (k.block 0 hB)
  obtain ⟨c0, c1, c2, c3, c4⟩ := h.2 i h1 h2
  exact ⟨(e _).trans c0, (e _).trans c1, (e _).trans c2, (e _).trans c3, (e _).trans c4⟩
theorem TerTabW.keep {w w' : World} {B : Nat} (h : TerTabW w) (k : Below B w w') (hB : 1 < B) : TerTabW w' := by
  refine ⟨Nat.lt_of_lt_of_le h.1 k.size, fun i h1 h2 => ?_⟩
  have e := fun o => cell_of (o := o) (k.block 1 hB)
  obtain ⟨c0, c1, c2, c3⟩ := h.2 i h1 h2
  exact ⟨(e _).trans c0, (e _).trans c1, (e _).trans c2, (e _).trans c3⟩
theorem OpTabW.old {w : World} (h : OpTabW w) : OpTab w := ⟨h.1, fun k h1 h2 => by
  obtain ⟨c0, c1, c2, c3, c4⟩ := h.2 k h1 h2
  exact ⟨_, c0, c1, c2, c3, _, c4⟩⟩
theorem TerTabW.old {w : World} (h : TerTabW w) : TerTab w := ⟨h.1, fun k h1 h2 => by
  obtain ⟨c0, c1, c2, c3⟩ := h.2 k h1 h2
  exact ⟨_, c0, c1, c2, c3⟩⟩

theorem vals_two1 (w : World) (vs : List Value) (t : TypeId) (us : List Value) (t' : TypeId) : ValsAt ((w.alloc (.cells vs.toArray t)).alloc (.cells us.toArray t')).drew w.heap.size (w.heap.size + 2) (some ⟨w.heap.size, 0, none⟩) vs := fun i hi =>
  ⟨_, 0, rfl, ⟨Nat.le_refl _, by omega⟩, by
    obtain ⟨b, o, e, _, h⟩ := vals_lit w vs t i hi
    cases e
    exact (cell_of (Below.heap_alloc _ _ _ (by simp))).trans h⟩
theorem vals_two2 (w : World) (vs : List Value) (t : TypeId) (us : List Value) (t' : TypeId) : ValsAt ((w.alloc (.cells us.toArray t')).alloc (.cells vs.toArray t)).drew w.heap.size (w.heap.size + 2) (some ⟨w.heap.size + 1, 0, none⟩) vs := fun i hi =>
  ⟨_, 0, rfl, ⟨by omega, by omega⟩, by
    obtain ⟨b, o, e, _, h⟩ := vals_lit (w.alloc (.cells us.toArray t')) vs t i hi
    have e1 : (w.alloc (.cells us.toArray t')).heap.size = w.heap.size + 1 := by simp
    rw [e1] at e
    cases e
    exact h⟩

set_option maxHeartbeats 1000000 in
set_option maxRecDepth 100000 in
theorem usedI_any (b : Nat) (k : Nat) (dst a bb imm : Int) (w : World) (hi : Hid (InsAt w b 0 ⟨k, dst, a, bb, imm⟩)) (h1 : 1 ≤ k) (h2 : k ≤ 13) (ht : Hid (OpTabW w)) :
    Calls Tryd.prog 148 #[.pointer (some ⟨b, 0, none⟩)] w fun e w' => ∃ v, e = .returned v ∧ Below w.heap.size w w' ∧ w'.ownsRow w.heap.size 245 1 v (keepP [dB k, aB k, bB k, iB k] [⟨b, 1, none⟩, ⟨b, 2, none⟩, ⟨b, 3, none⟩, ⟨b, 4, none⟩]).length ((keepP [dB k, aB k, bB k, iB k] [⟨b, 1, none⟩, ⟨b, 2, none⟩, ⟨b, 3, none⟩, ⟨b, 4, none⟩]).map ptrV) := by
  obtain ⟨q0, q1, q2, q3, q4⟩ := hi.out
  simp only at q0 q1 q2 q3 q4
  obtain ⟨c0, c1, c2, c3, c4⟩ := ht.out.2 k h1 h2
  have hz := ht.out.1
  generalize dB (k : Int) = uD at *
  generalize aB (k : Int) = uA at *
  generalize bB (k : Int) = uB at *
  generalize iB (k : Int) = uI at *
  go_enter Tryd.func148, Tryd.ntmps148
  go_wp2_with fail
  have e1 : (w.alloc (.cells #[.string (strOf (wordS k)), .bool uD, .bool uA, .bool uB, .bool uI] 199)).heap.size = w.heap.size + 1 := by simp
  have g1 : (w.alloc (.cells #[.string (strOf (wordS k)), .bool uD, .bool uA, .bool uB, .bool uI] 199)).cell? ⟨w.heap.size, 1, none⟩ = some (.bool uD) := by simp
  have g2 : (w.alloc (.cells #[.string (strOf (wordS k)), .bool uD, .bool uA, .bool uB, .bool uI] 199)).cell? ⟨w.heap.size, 2, none⟩ = some (.bool uA) := by simp
  have g3 : (w.alloc (.cells #[.string (strOf (wordS k)), .bool uD, .bool uA, .bool uB, .bool uI] 199)).cell? ⟨w.heap.size, 3, none⟩ = some (.bool uB) := by simp
  have g4 : (w.alloc (.cells #[.string (strOf (wordS k)), .bool uD, .bool uA, .bool uB, .bool uI] 199)).cell? ⟨w.heap.size, 4, none⟩ = some (.bool uI) := by simp
  have HBW : Hid (Below w.heap.size w (w.alloc (.cells #[.string (strOf (wordS k)), .bool uD, .bool uA, .bool uB, .bool uI] 199))) := hide (balloc (Below.refl _ _) _)
  generalize w.alloc (.cells #[.string (strOf (wordS k)), .bool uD, .bool uA, .bool uB, .bool uI] 199) = W0 at *
  clear q0 q1 q2 q3 q4 c0 c1 c2 c3 c4
  have HE1 := hide e1
  have hlt : w.heap.size < W0.heap.size := by omega
  clear e1
  have HCH1 : Hid (Calls Tryd.prog 176 #[.slice (some ⟨W0.heap.size, 0, none⟩) 4 4, .slice (some ⟨W0.heap.size + 1, 0, none⟩) 4 4] (((W0.alloc (.cells #[.bool uD, .bool uA, .bool uB, .bool uI] 4)).alloc (.cells #[.pointer (some ⟨b, 1, none⟩), .pointer (some ⟨b, 2, none⟩), .pointer (some ⟨b, 3, none⟩), .pointer (some ⟨b, 4, none⟩)] 245)).drew) (fun e w' => ∃ v, e = .returned v ∧ Hid (Below w.heap.size w w') ∧ Hid (w'.ownsRow w.heap.size 245 1 v (keepP [uD, uA, uB, uI] [⟨b, 1, none⟩, ⟨b, 2, none⟩, ⟨b, 3, none⟩, ⟨b, 4, none⟩]).length ((keepP [uD, uA, uB, uI] [⟨b, 1, none⟩, ⟨b, 2, none⟩, ⟨b, 3, none⟩, ⟨b, 4, none⟩]).map ptrV)) ∧ w'.cell? ⟨w.heap.size, 1, none⟩ = some (.bool uD) ∧ w'.cell? ⟨w.heap.size, 2, none⟩ = some (.bool uA) ∧ w'.cell? ⟨w.heap.size, 3, none⟩ = some (.bool uB) ∧ w'.cell? ⟨w.heap.size, 4, none⟩ = some (.bool uI))) := hide (by
    refine (chosen_any (some ⟨W0.heap.size, 0, none⟩) (some ⟨W0.heap.size + 1, 0, none⟩) 4 4 [uD, uA, uB, uI] [⟨b, 1, none⟩, ⟨b, 2, none⟩, ⟨b, 3, none⟩, ⟨b, 4, none⟩] W0.heap.size (W0.heap.size + 2) (((W0.alloc (.cells #[.bool uD, .bool uA, .bool uB, .bool uI] 4)).alloc (.cells #[.pointer (some ⟨b, 1, none⟩), .pointer (some ⟨b, 2, none⟩), .pointer (some ⟨b, 3, none⟩), .pointer (some ⟨b, 4, none⟩)] 245)).drew) (by show _ ≤ ((W0.alloc (.cells #[.bool uD, .bool uA, .bool uB, .bool uI] 4)).alloc (.cells #[.pointer (some ⟨b, 1, none⟩), .pointer (some ⟨b, 2, none⟩), .pointer (some ⟨b, 3, none⟩), .pointer (some ⟨b, 4, none⟩)] 245)).heap.size; simp) (hide (vals_two1 W0 _ _ _ _)) (hide (vals_two2 W0 _ _ _ _)) (hide rfl) (by simp)).mono ?_
    rintro e w' ⟨v, rfl, h1, h2⟩
    have h3 : Below W0.heap.size W0 w' := (balloc (balloc (Below.refl W0.heap.size W0) _) _).drew.trans (h1.mono (by show _ ≤ ((W0.alloc (.cells #[.bool uD, .bool uA, .bool uB, .bool uI] 4)).alloc (.cells #[.pointer (some ⟨b, 1, none⟩), .pointer (some ⟨b, 2, none⟩), .pointer (some ⟨b, 3, none⟩), .pointer (some ⟨b, 4, none⟩)] 245)).heap.size; simp; omega))
    exact ⟨v, rfl, hide (HBW.out.trans (h3.mono (by omega))), hide (own_base h2 (by show _ ≤ ((W0.alloc (.cells #[.bool uD, .bool uA, .bool uB, .bool uI] 4)).alloc (.cells #[.pointer (some ⟨b, 1, none⟩), .pointer (some ⟨b, 2, none⟩), .pointer (some ⟨b, 3, none⟩), .pointer (some ⟨b, 4, none⟩)] 245)).heap.size; simp; omega)), (h3.cell (p := ⟨w.heap.size, 1, none⟩) hlt).trans g1, (h3.cell (p := ⟨w.heap.size, 2, none⟩) hlt).trans g2, (h3.cell (p := ⟨w.heap.size, 3, none⟩) hlt).trans g3, (h3.cell (p := ⟨w.heap.size, 4, none⟩) hlt).trans g4⟩)
  have HCH2 : Hid (Calls Tryd.prog 176 #[.slice (some ⟨W0.heap.size + 1, 0, none⟩) 4 4, .slice (some ⟨W0.heap.size, 0, none⟩) 4 4] (((W0.alloc (.cells #[.pointer (some ⟨b, 1, none⟩), .pointer (some ⟨b, 2, none⟩), .pointer (some ⟨b, 3, none⟩), .pointer (some ⟨b, 4, none⟩)] 245)).alloc (.cells #[.bool uD, .bool uA, .bool uB, .bool uI] 4)).drew) (fun e w' => ∃ v, e = .returned v ∧ Hid (Below w.heap.size w w') ∧ Hid (w'.ownsRow w.heap.size 245 1 v (keepP [uD, uA, uB, uI] [⟨b, 1, none⟩, ⟨b, 2, none⟩, ⟨b, 3, none⟩, ⟨b, 4, none⟩]).length ((keepP [uD, uA, uB, uI] [⟨b, 1, none⟩, ⟨b, 2, none⟩, ⟨b, 3, none⟩, ⟨b, 4, none⟩]).map ptrV)) ∧ w'.cell? ⟨w.heap.size, 1, none⟩ = some (.bool uD) ∧ w'.cell? ⟨w.heap.size, 2, none⟩ = some (.bool uA) ∧ w'.cell? ⟨w.heap.size, 3, none⟩ = some (.bool uB) ∧ w'.cell? ⟨w.heap.size, 4, none⟩ = some (.bool uI))) := hide (by
    refine (chosen_any (some ⟨W0.heap.size + 1, 0, none⟩) (some ⟨W0.heap.size, 0, none⟩) 4 4 [uD, uA, uB, uI] [⟨b, 1, none⟩, ⟨b, 2, none⟩, ⟨b, 3, none⟩, ⟨b, 4, none⟩] W0.heap.size (W0.heap.size + 2) (((W0.alloc (.cells #[.pointer (some ⟨b, 1, none⟩), .pointer (some ⟨b, 2, none⟩), .pointer (some ⟨b, 3, none⟩), .pointer (some ⟨b, 4, none⟩)] 245)).alloc (.cells #[.bool uD, .bool uA, .bool uB, .bool uI] 4)).drew) (by show _ ≤ ((W0.alloc (.cells #[.pointer (some ⟨b, 1, none⟩), .pointer (some ⟨b, 2, none⟩), .pointer (some ⟨b, 3, none⟩), .pointer (some ⟨b, 4, none⟩)] 245)).alloc (.cells #[.bool uD, .bool uA, .bool uB, .bool uI] 4)).heap.size; simp) (hide (vals_two2 W0 _ _ _ _)) (hide (vals_two1 W0 _ _ _ _)) (hide rfl) (by simp)).mono ?_
    rintro e w' ⟨v, rfl, h1, h2⟩
    have h3 : Below W0.heap.size W0 w' := (balloc (balloc (Below.refl W0.heap.size W0) _) _).drew.trans (h1.mono (by show _ ≤ ((W0.alloc (.cells #[.pointer (some ⟨b, 1, none⟩), .pointer (some ⟨b, 2, none⟩), .pointer (some ⟨b, 3, none⟩), .pointer (some ⟨b, 4, none⟩)] 245)).alloc (.cells #[.bool uD, .bool uA, .bool uB, .bool uI] 4)).heap.size; simp; omega))
    exact ⟨v, rfl, hide (HBW.out.trans (h3.mono (by omega))), hide (own_base h2 (by show _ ≤ ((W0.alloc (.cells #[.pointer (some ⟨b, 1, none⟩), .pointer (some ⟨b, 2, none⟩), .pointer (some ⟨b, 3, none⟩), .pointer (some ⟨b, 4, none⟩)] 245)).alloc (.cells #[.bool uD, .bool uA, .bool uB, .bool uI] 4)).heap.size; simp; omega)), (h3.cell (p := ⟨w.heap.size, 1, none⟩) hlt).trans g1, (h3.cell (p := ⟨w.heap.size, 2, none⟩) hlt).trans g2, (h3.cell (p := ⟨w.heap.size, 3, none⟩) hlt).trans g3, (h3.cell (p := ⟨w.heap.size, 4, none⟩) hlt).trans g4⟩)
  go_region_held3 (fun w' => w'.cell? ⟨w.heap.size, 1, none⟩ = some (.bool uD) ∧ w'.cell? ⟨w.heap.size, 2, none⟩ = some (.bool uA) ∧ w'.cell? ⟨w.heap.size, 3, none⟩ = some (.bool uB) ∧ w'.cell? ⟨w.heap.size, 4, none⟩ = some (.bool uI)) (go_keep)
    (first
      | (go_at_call 176; with_reducible refine HCH1.out.mono ?_; rintro e w5 ⟨v5, rfl, HB5, HO5, f1, f2, f3, f4⟩)
      | (go_at_call 176; with_reducible refine HCH2.out.mono ?_; rintro e w5 ⟨v5, rfl, HB5, HO5, f1, f2, f3, f4⟩))
  all_goals
    go_wp2
    go_ret
    exact ⟨_, rfl, HB5.out, HO5.out⟩
end Go.Proofs.YtlmaodcddbkllaaDoor
