import Derived.Test.YtlmaodcddbkllaaDoorE9a
import Derived.Test.YtlmaodcddbkllaaDoorE7b
/-
  contents of the program: what lies where pointers point.
-/
namespace Go.Proofs.YtlmaodcddbkllaaDoor
open Go.RowKit

set_option maxHeartbeats 1000000 in
set_option maxRecDepth 100000 in
theorem contents_any (fa : Option Addr) (fc : Nat) (ps : List Addr) (vs : List Int) (L B : Nat) (w : World) (hB : B ≤ w.heap.size) (hp : Hid (ValsAt w L B fa (ps.map ptrV))) (hl : Hid (vs.length = ps.length)) (hv : Hid (∀ i (h : i < ps.length) (h' : i < vs.length), ps[i].block < w.heap.size ∧ w.cell? ps[i] = some (.int .i64 vs[i]))) (hs : ps.length ≤ 1000) :
    Calls Tryd.prog 147 #[.slice fa ps.length fc] w fun e w' => ∃ v, e = .returned v ∧ Below w.heap.size w w' ∧ w'.ownsRow w.heap.size 2 1 v vs.length (vs.map (Value.int .i64)) := by
  obtain ⟨i0, hi0, hz0, hz1, hz2⟩ := info_parts Tryd.info2'
  go_enter Tryd.func147, Tryd.ntmps147
  go_wp2
  go_loopw [3, 9] (fun v i wr => ∃ k : Nat, k ≤ ps.length ∧ i = .int .i64 k ∧ Hid (Below w.heap.size w wr) ∧ Hid (wr.ownsRow w.heap.size 2 1 v (vs.take k).length ((vs.take k).map (Value.int .i64)))) (fun _ i _ => ps.length - (intOf i).toNat)
  case atStart => exact ⟨0, Nat.zero_le _, rfl, hide (balloc (Below.refl _ _) _), hide (by
    have := World.ownsRow_lit (base := w.heap.size) (e := 2) (size := 1) w #[] 0 (by simp) (by simp) rfl
    simpa using this)⟩
  case round =>
    obtain ⟨k, hk', rfl, HB, HO⟩ := hrel
    have hwz := HB.out.size
    by_cases hlt : k < ps.length
    · have hkk : k < vs.length := by have := hl.out; omega
      obtain ⟨b2, o2, rfl, ⟨_, hb2⟩, hc2⟩ := (hp.out.keepS (Same.of_below (HB.out.mono hB))) k (by simpa using hlt)
      rw [List.getElem_map] at hc2
      unfold ptrV at hc2
      obtain ⟨hq1, hq2⟩ := hv.out k hlt hkk
      have hc3 := (HB.out.cell (p := ps[k]) hq1).trans hq2
      have HT : Hid ((vs.take (k + 1)) = vs.take k ++ [vs[k]]) := hide (List.take_succ_eq_append_getElem hkk)
      have HL : Hid ((vs.take k).length + 1 ≤ 2000) := hide (by have := hl.out; simp only [List.length_take]; omega)
      clear hq1 hq2
      generalize vs[k] = V at *
      generalize ps[k] = p at *
      go_wp2_with (at_builtin; refine wpList_append_own_at _ rfl _ _ 40 rfl w.heap.size 2 i0 (.int .i64 0) 1 8 Tryd.underlying40 hi0 hz0 hz1 hz2 rfl (by decide) _ _ _ rfl (HO.out.alloc _) ⟨wr.heap.size, 0, none⟩ 1 1 [.int .i64 V] rfl rfl ?c1 ?c2 ?c3 ?c4 ?c5 ?_)
      case c1 => exact cell_one_new _ _ _
      case c2 => intro u hu; simp at hu; subst hu; rfl
      case c3 => have := HL.out; unfold maxLen; omega
      case c4 => have := HL.out; omega
      case c5 => simp; omega
      intro v1 w1 hown1 hgrow1 hne1 hat1
      have HO1 : Hid (w1.ownsRow w.heap.size 2 1 v1 (vs.take (k + 1)).length ((vs.take (k + 1)).map (Value.int .i64))) := hide (by
        rw [HT.out, ints_snoc', List.length_append, List.map_take, List.length_take]; exact hown1)
      have HB1 : Hid (Below w.heap.size w w1) := hide (grown_below ((HB.out).alloc (by omega) _) hgrow1 (HO.out.alloc _) (Nat.le_refl _) (by simp; omega))
      clear hown1 hgrow1 hne1 hat1
      go_wp2
      exact ⟨⟨k + 1, by omega, by go_num, HB1, HO1⟩, by simp [intOf]; omega⟩
    · have HO2 : Hid (wr.ownsRow w.heap.size 2 1 u3 vs.length (vs.map (Value.int .i64))) := hide (by have := HO.out; have e := hl.out; rwa [List.take_of_length_le (by omega)] at this)
      go_wp2
      go_ret
      exact ⟨_, rfl, HB.out, HO2.out⟩
end Go.Proofs.YtlmaodcddbkllaaDoor
