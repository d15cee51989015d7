import Derived.Test.YtdcdgopblbmgoaaDoorE9a
import Derived.Test.YtdcdgopblbmgoaaDoorE7a
/-
  used of an end; appendInstr and appendTerm of the program.
-/
namespace Go.Proofs.YtdcdgopblbmgoaaDoor
open Go.RowKit

set_option maxHeartbeats 1000000 in
set_option maxRecDepth 100000 in
theorem usedT_any (b : Nat) (k : Nat) (a to els : Int) (w : World) (hi : Hid (TerAt w b 0 ⟨k, a, to, els⟩)) (h1 : 1 ≤ k) (h2 : k ≤ 3) (ht : Hid (TerTabW w)) :
    Calls Tryd.prog 109 #[.pointer (some ⟨b, 0, none⟩)] w fun e w' => ∃ v, e = .returned v ∧ Below w.heap.size w w' ∧ w'.ownsRow w.heap.size 208 1 v (keepP [(k : Int) != 1, (k : Int) != 3, (k : Int) == 2] [⟨b, 1, none⟩, ⟨b, 2, none⟩, ⟨b, 3, none⟩]).length ((keepP [(k : Int) != 1, (k : Int) != 3, (k : Int) == 2] [⟨b, 1, none⟩, ⟨b, 2, none⟩, ⟨b, 3, none⟩]).map ptrV) := by
  obtain ⟨q0, q1, q2, q3⟩ := hi.out
  simp only at q0 q1 q2 q3
  obtain ⟨c0, c1, c2, c3⟩ := ht.out.2 k h1 h2
  have hz := ht.out.1
  generalize ((k : Int) != 1) = uA at *
  generalize ((k : Int) != 3) = uT at *
  generalize ((k : Int) == 2) = uE at *
  go_enter Tryd.func109, Tryd.ntmps109
  go_wp2_with fail
  have e1 : (w.alloc (.cells #[.string (strOf (terW k)), .bool uA, .bool uT, .bool uE] 156)).heap.size = w.heap.size + 1 := by simp
  have g1 : (w.alloc (.cells #[.string (strOf (terW k)), .bool uA, .bool uT, .bool uE] 156)).cell? ⟨w.heap.size, 1, none⟩ = some (.bool uA) := by simp
  have g2 : (w.alloc (.cells #[.string (strOf (terW k)), .bool uA, .bool uT, .bool uE] 156)).cell? ⟨w.heap.size, 2, none⟩ = some (.bool uT) := by simp
  have g3 : (w.alloc (.cells #[.string (strOf (terW k)), .bool uA, .bool uT, .bool uE] 156)).cell? ⟨w.heap.size, 3, none⟩ = some (.bool uE) := by simp
  have HBW : Hid (Below w.heap.size w (w.alloc (.cells #[.string (strOf (terW k)), .bool uA, .bool uT, .bool uE] 156))) := hide (balloc (Below.refl _ _) _)
  generalize w.alloc (.cells #[.string (strOf (terW k)), .bool uA, .bool uT, .bool uE] 156) = W0 at *
  clear q0 q1 q2 q3 c0 c1 c2 c3
  have HE1 := hide e1
  have hlt : w.heap.size < W0.heap.size := by omega
  clear e1
  have HCH1 : Hid (Calls Tryd.prog 147 #[.slice (some ⟨W0.heap.size, 0, none⟩) 3 3, .slice (some ⟨W0.heap.size + 1, 0, none⟩) 3 3] (((W0.alloc (.cells #[.bool uA, .bool uT, .bool uE] 4)).alloc (.cells #[.pointer (some ⟨b, 1, none⟩), .pointer (some ⟨b, 2, none⟩), .pointer (some ⟨b, 3, none⟩)] 208)).drew) (fun e w' => ∃ v, e = .returned v ∧ Hid (Below w.heap.size w w') ∧ Hid (w'.ownsRow w.heap.size 208 1 v (keepP [uA, uT, uE] [⟨b, 1, none⟩, ⟨b, 2, none⟩, ⟨b, 3, none⟩]).length ((keepP [uA, uT, uE] [⟨b, 1, none⟩, ⟨b, 2, none⟩, ⟨b, 3, none⟩]).map ptrV)) ∧ w'.cell? ⟨w.heap.size, 1, none⟩ = some (.bool uA) ∧ w'.cell? ⟨w.heap.size, 2, none⟩ = some (.bool uT) ∧ w'.cell? ⟨w.heap.size, 3, none⟩ = some (.bool uE))) := hide (by
    refine (chosen_any (some ⟨W0.heap.size, 0, none⟩) (some ⟨W0.heap.size + 1, 0, none⟩) 3 3 [uA, uT, uE] [⟨b, 1, none⟩, ⟨b, 2, none⟩, ⟨b, 3, none⟩] W0.heap.size (W0.heap.size + 2) (((W0.alloc (.cells #[.bool uA, .bool uT, .bool uE] 4)).alloc (.cells #[.pointer (some ⟨b, 1, none⟩), .pointer (some ⟨b, 2, none⟩), .pointer (some ⟨b, 3, none⟩)] 208)).drew) (by show _ ≤ ((W0.alloc (.cells #[.bool uA, .bool uT, .bool uE] 4)).alloc (.cells #[.pointer (some ⟨b, 1, none⟩), .pointer (some ⟨b, 2, none⟩), .pointer (some ⟨b, 3, none⟩)] 208)).heap.size; simp) (hide (vals_two1 W0 _ _ _ _)) (hide (vals_two2 W0 _ _ _ _)) (hide rfl) (by simp)).mono ?_
    rintro e w' ⟨v, rfl, h1, h2⟩
    have h3 : Below W0.heap.size W0 w' := (balloc (balloc (Below.refl W0.heap.size W0) _) _).drew.trans (h1.mono (by show _ ≤ ((W0.alloc (.cells #[.bool uA, .bool uT, .bool uE] 4)).alloc (.cells #[.pointer (some ⟨b, 1, none⟩), .pointer (some ⟨b, 2, none⟩), .pointer (some ⟨b, 3, none⟩)] 208)).heap.size; simp; omega))
    exact ⟨v, rfl, hide (HBW.out.trans (h3.mono (by omega))), hide (own_base h2 (by show _ ≤ ((W0.alloc (.cells #[.bool uA, .bool uT, .bool uE] 4)).alloc (.cells #[.pointer (some ⟨b, 1, none⟩), .pointer (some ⟨b, 2, none⟩), .pointer (some ⟨b, 3, none⟩)] 208)).heap.size; simp; omega)), (h3.cell (p := ⟨w.heap.size, 1, none⟩) hlt).trans g1, (h3.cell (p := ⟨w.heap.size, 2, none⟩) hlt).trans g2, (h3.cell (p := ⟨w.heap.size, 3, none⟩) hlt).trans g3⟩)
  have HCH2 : Hid (Calls Tryd.prog 147 #[.slice (some ⟨W0.heap.size + 1, 0, none⟩) 3 3, .slice (some ⟨W0.heap.size, 0, none⟩) 3 3] (((W0.alloc (.cells #[.pointer (some ⟨b, 1, none⟩), .pointer (some ⟨b, 2, none⟩), .pointer (some ⟨b, 3, none⟩)] 208)).alloc (.cells #[.bool uA, .bool uT, .bool uE] 4)).drew) (fun e w' => ∃ v, e = .returned v ∧ Hid (Below w.heap.size w w') ∧ Hid (w'.ownsRow w.heap.size 208 1 v (keepP [uA, uT, uE] [⟨b, 1, none⟩, ⟨b, 2, none⟩, ⟨b, 3, none⟩]).length ((keepP [uA, uT, uE] [⟨b, 1, none⟩, ⟨b, 2, none⟩, ⟨b, 3, none⟩]).map ptrV)) ∧ w'.cell? ⟨w.heap.size, 1, none⟩ = some (.bool uA) ∧ w'.cell? ⟨w.heap.size, 2, none⟩ = some (.bool uT) ∧ w'.cell? ⟨w.heap.size, 3, none⟩ = some (.bool uE))) := hide (by
    refine (chosen_any (some ⟨W0.heap.size + 1, 0, none⟩) (some ⟨W0.heap.size, 0, none⟩) 3 3 [uA, uT, uE] [⟨b, 1, none⟩, ⟨b, 2, none⟩, ⟨b, 3, none⟩] W0.heap.size (W0.heap.size + 2) (((W0.alloc (.cells #[.pointer (some ⟨b, 1, none⟩), .pointer (some ⟨b, 2, none⟩), .pointer (some ⟨b, 3, none⟩)] 208)).alloc (.cells #[.bool uA, .bool uT, .bool uE] 4)).drew) (by show _ ≤ ((W0.alloc (.cells #[.pointer (some ⟨b, 1, none⟩), .pointer (some ⟨b, 2, none⟩), .pointer (some ⟨b, 3, none⟩)] 208)).alloc (.cells #[.bool uA, .bool uT, .bool uE] 4)).heap.size; simp) (hide (vals_two2 W0 _ _ _ _)) (hide (vals_two1 W0 _ _ _ _)) (hide rfl) (by simp)).mono ?_
    rintro e w' ⟨v, rfl, h1, h2⟩
    have h3 : Below W0.heap.size W0 w' := (balloc (balloc (Below.refl W0.heap.size W0) _) _).drew.trans (h1.mono (by show _ ≤ ((W0.alloc (.cells #[.pointer (some ⟨b, 1, none⟩), .pointer (some ⟨b, 2, none⟩), .pointer (some ⟨b, 3, none⟩)] 208)).alloc (.cells #[.bool uA, .bool uT, .bool uE] 4)).heap.size; simp; omega))
    exact ⟨v, rfl, hide (HBW.out.trans (h3.mono (by omega))), hide (own_base h2 (by show _ ≤ ((W0.alloc (.cells #[.pointer (some ⟨b, 1, none⟩), .pointer (some ⟨b, 2, none⟩), .pointer (some ⟨b, 3, none⟩)] 208)).alloc (.cells #[.bool uA, .bool uT, .bool uE] 4)).heap.size; simp; omega)), (h3.cell (p := ⟨w.heap.size, 1, none⟩) hlt).trans g1, (h3.cell (p := ⟨w.heap.size, 2, none⟩) hlt).trans g2, (h3.cell (p := ⟨w.heap.size, 3, none⟩) hlt).trans g3⟩)
  go_region_held3 (fun w' => w'.cell? ⟨w.heap.size, 1, none⟩ = some (.bool uA) ∧ w'.cell? ⟨w.heap.size, 2, none⟩ = some (.bool uT) ∧ w'.cell? ⟨w.heap.size, 3, none⟩ = some (.bool uE)) (go_keep)
    (first
      | (go_at_call 147; with_reducible refine HCH1.out.mono ?_; rintro e w5 ⟨v5, rfl, HB5, HO5, f1, f2, f3⟩)
      | (go_at_call 147; with_reducible refine HCH2.out.mono ?_; rintro e w5 ⟨v5, rfl, HB5, HO5, f1, f2, f3⟩))
  all_goals
    go_wp2
    go_ret
    exact ⟨_, rfl, HB5.out, HO5.out⟩
end Go.Proofs.YtdcdgopblbmgoaaDoor

/-
  contents of the program: what lies where pointers point.
-/
namespace Go.Proofs.YtdcdgopblbmgoaaDoor
open Go.RowKit

set_option maxHeartbeats 1000000 in
set_option maxRecDepth 100000 in
theorem contents_any (fa : Option Addr) (fc : Nat) (ps : List Addr) (vs : List Int) (L B : Nat) (w : World) (hB : B ≤ w.heap.size) (hp : Hid (ValsAt w L B fa (ps.map ptrV))) (hl : Hid (vs.length = ps.length)) (hv : Hid (∀ i (h : i < ps.length) (h' : i < vs.length), ps[i].block < w.heap.size ∧ w.cell? ps[i] = some (.int .i64 vs[i]))) (hs : ps.length ≤ 1000) :
    Calls Tryd.prog 107 #[.slice fa ps.length fc] w fun e w' => ∃ v, e = .returned v ∧ Below w.heap.size w w' ∧ w'.ownsRow w.heap.size 2 1 v vs.length (vs.map (Value.int .i64)) := by
  obtain ⟨i0, hi0, hz0, hz1, hz2⟩ := info_parts Tryd.info2'
  go_enter Tryd.func107, Tryd.ntmps107
  go_wp2
  go_loopw [3, 9] (fun v i wr => ∃ k : Nat, k ≤ ps.length ∧ i = .int .i64 k ∧ Hid (Below w.heap.size w wr) ∧ Hid (wr.ownsRow w.heap.size 2 1 v (vs.take k).length ((vs.take k).map (Value.int .i64)))) (fun _ i _ => ps.length - (intOf i).toNat)
  case atStart => exact ⟨0, Nat.zero_le _, rfl, hide (balloc (Below.refl _ _) _), hide (by
    have := World.ownsRow_lit (base := w.heap.size) (e := 2) (size := 1) w #[] 0 (by simp) (by simp) rfl
    simpa using this)⟩
  case round =>
    obtain ⟨k, hk', rfl, HB, HO⟩ := hrel
    have hwz := HB.out.size
    by_cases hlt : k < ps.length
    · have hkk : k < vs.length := by have := hl.out; omega
      obtain ⟨b2, o2, rfl, ⟨_, hb2⟩, hc2⟩ := (hp.out.keepS (Same.of_below (HB.out.mono hB))) k (by simpa using hlt)
      rw [List.getElem_map] at hc2
      unfold ptrV at hc2
      obtain ⟨hq1, hq2⟩ := hv.out k hlt hkk
      have hc3 := (HB.out.cell (p := ps[k]) hq1).trans hq2
      have HT : Hid ((vs.take (k + 1)) = vs.take k ++ [vs[k]]) := hide (List.take_succ_eq_append_getElem hkk)
      have HL : Hid ((vs.take k).length + 1 ≤ 2000) := hide (by have := hl.out; simp only [List.length_take]; omega)
      clear hq1 hq2
      generalize vs[k] = V at *
      generalize ps[k] = p at *
      go_wp2_with (at_builtin; refine wpList_append_own_at _ rfl _ _ 38 rfl w.heap.size 2 i0 (.int .i64 0) 1 8 Tryd.underlying38 hi0 hz0 hz1 hz2 rfl (by decide) _ _ _ rfl (HO.out.alloc _) ⟨wr.heap.size, 0, none⟩ 1 1 [.int .i64 V] rfl rfl ?c1 ?c2 ?c3 ?c4 ?c5 ?_)
      case c1 => exact cell_one_new _ _ _
      case c2 => intro u hu; simp at hu; subst hu; rfl
      case c3 => have := HL.out; unfold maxLen; omega
      case c4 => have := HL.out; omega
      case c5 => simp; omega
      intro v1 w1 hown1 hgrow1 hne1 hat1
      have HO1 : Hid (w1.ownsRow w.heap.size 2 1 v1 (vs.take (k + 1)).length ((vs.take (k + 1)).map (Value.int .i64))) := hide (by
        rw [HT.out, ints_snoc', List.length_append, List.map_take, List.length_take]; exact hown1)
      have HB1 : Hid (Below w.heap.size w w1) := hide (grown_below ((HB.out).alloc (by omega) _) hgrow1 (HO.out.alloc _) (Nat.le_refl _) (by simp; omega))
      clear hown1 hgrow1 hne1 hat1
      go_wp2
      exact ⟨⟨k + 1, by omega, by go_num, HB1, HO1⟩, by simp [intOf]; omega⟩
    · have HO2 : Hid (wr.ownsRow w.heap.size 2 1 u3 vs.length (vs.map (Value.int .i64))) := hide (by have := HO.out; have e := hl.out; rwa [List.take_of_length_le (by omega)] at this)
      go_wp2
      go_ret
      exact ⟨_, rfl, HB.out, HO2.out⟩
end Go.Proofs.YtdcdgopblbmgoaaDoor
