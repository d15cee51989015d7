import Derived.Test.YtlmaodcddbkllaaDoorIw
import Derived.Test.YtlmaodcddbkllaaDoorW7
import Derived.Maps.AppendAt
/-
  chosen of the program: pointers to fields.
-/
namespace Go.Proofs.YtlmaodcddbkllaaDoor
open Go.RowKit

def ptrV (p : Addr) : Value := .pointer (some p)
/-- Those fields whose mark is set. -/
def keepP : List Bool → List Addr → List Addr
  | k :: ks, p :: ps => if k then p :: keepP ks ps else keepP ks ps
  | _, _ => []
theorem keepP_snoc (ks : List Bool) (ps : List Addr) (k : Bool) (p : Addr) (h : ks.length = ps.length) : keepP (ks ++ [k]) (ps ++ [p]) = keepP ks ps ++ (if k then [p] else []) := by
  induction ks generalizing ps with
  | nil => cases ps with
    | nil => cases k <;> rfl
    | cons q r => simp at h
  | cons x r ih => cases ps with
    | nil => simp at h
    | cons q s => cases x <;> simp [keepP, ih s (by simpa using h)]
theorem keepP_len (ks : List Bool) (ps : List Addr) : (keepP ks ps).length ≤ ps.length := by
  induction ks generalizing ps with
  | nil => simp [keepP]
  | cons x r ih => cases ps with
    | nil => simp [keepP]
    | cons q s => have := ih s; cases x <;> simp [keepP] <;> omega
theorem Tryd.infoPtr : (Tryd.prog.info? 245).map (fun i => (i.zero, i.size, i.bytes)) = some (some (.pointer none), 1, 8) := by kernel_rfl
theorem ptrs_snoc (l : List Addr) (v : Addr) : (l ++ [v]).map ptrV = l.map ptrV ++ [ptrV v] := by simp
theorem own_emptyP (w : World) : (w.alloc (.cells #[] 245)).ownsRow w.heap.size 245 1 (.slice (some ⟨w.heap.size, 0, none⟩) 0 0) 0 [] := by
  have := World.ownsRow_lit (base := w.heap.size) (e := 245) (size := 1) w #[] 0 (by simp) (by simp) rfl
  simpa using this

set_option maxHeartbeats 1000000 in
set_option maxRecDepth 100000 in
theorem chosen_any (ka fa : Option Addr) (kc fc : Nat) (ks : List Bool) (ps : List Addr) (L B : Nat) (w : World) (hB : B ≤ w.heap.size) (hk : Hid (ValsAt w L B ka (ks.map Value.bool))) (hp : Hid (ValsAt w L B fa (ps.map ptrV))) (hl : Hid (ks.length = ps.length)) (hs : ps.length ≤ 1000) :
    Calls Tryd.prog 176 #[.slice ka ks.length kc, .slice fa ps.length fc] w fun e w' => ∃ v, e = .returned v ∧ Below w.heap.size w w' ∧ w'.ownsRow w.heap.size 245 1 v (keepP ks ps).length ((keepP ks ps).map ptrV) := by
  obtain ⟨i0, hi0, hz0, hz1, hz2⟩ := info_parts Tryd.infoPtr
  go_enter Tryd.func176, Tryd.ntmps176
  go_wp2
  go_loopw [5, 11] (fun v i wr => ∃ k : Nat, k ≤ ps.length ∧ i = .int .i64 k ∧ Hid (Below w.heap.size w wr) ∧ Hid (wr.ownsRow w.heap.size 245 1 v (keepP (ks.take k) (ps.take k)).length ((keepP (ks.take k) (ps.take k)).map ptrV))) (fun _ i _ => ps.length - (intOf i).toNat)
  case atStart => exact ⟨0, Nat.zero_le _, rfl, hide (balloc (Below.refl _ _) _), hide (by simpa [keepP] using own_emptyP w)⟩
  case round =>
    obtain ⟨k, hk', rfl, HB, HO⟩ := hrel
    have hwz := HB.out.size
    by_cases hlt : k < ps.length
    · have hkk : k < ks.length := by have := hl.out; omega
      obtain ⟨b1, o1, rfl, ⟨_, hb1⟩, hc1⟩ := (hk.out.keepS (Same.of_below (HB.out.mono hB))) k (by simpa using hkk)
      obtain ⟨b2, o2, rfl, ⟨_, hb2⟩, hc2⟩ := (hp.out.keepS (Same.of_below (HB.out.mono hB))) k (by simpa using hlt)
      rw [List.getElem_map] at hc1 hc2
      unfold ptrV at hc2
      have HT : Hid (keepP (ks.take (k + 1)) (ps.take (k + 1)) = keepP (ks.take k) (ps.take k) ++ (if ks[k] then [ps[k]] else [])) := hide (by rw [List.take_succ_eq_append_getElem hkk, List.take_succ_eq_append_getElem hlt, keepP_snoc _ _ _ _ (by simp only [List.length_take]; omega)])
      have HL : Hid ((keepP (ks.take k) (ps.take k)).length + 1 ≤ 2000) := hide (by have := keepP_len (ks.take k) (ps.take k); simp only [List.length_take] at this; omega)
      generalize ks[k] = K at *
      generalize ps[k] = p at *
      cases K with
      | false =>
        have HO1 : Hid (wr.ownsRow w.heap.size 245 1 u5 (keepP (ks.take (k + 1)) (ps.take (k + 1))).length ((keepP (ks.take (k + 1)) (ps.take (k + 1))).map ptrV)) := hide (by rw [HT.out]; simpa using HO.out)
        go_wp2
        exact ⟨⟨k + 1, by omega, by go_num, HB, HO1⟩, by simp [intOf]; omega⟩
      | true =>
        have HT' : Hid (keepP (ks.take (k + 1)) (ps.take (k + 1)) = keepP (ks.take k) (ps.take k) ++ [p]) := hide (by have := HT.out; simpa using this)
        go_wp2_with (at_builtin; refine wpList_append_own_at _ rfl _ _ 208 rfl w.heap.size 245 i0 (.pointer none) 1 8 Tryd.underlying208 hi0 hz0 hz1 hz2 rfl (by decide) _ _ _ rfl (HO.out.alloc _) ⟨wr.heap.size, 0, none⟩ 1 1 [.pointer (some p)] rfl rfl ?c1 ?c2 ?c3 ?c4 ?c5 ?_)
        case c2 => first | rfl | simp | (intro u hu; simp at hu; subst hu; rfl)
        case c3 => have := HL.out; unfold maxLen; omega
        case c4 => have := HL.out; omega
        case c5 => first | omega | (simp; omega)
        intro v1 w1 hown1 hgrow1 hne1 hat1
        have HO1 : Hid (w1.ownsRow w.heap.size 245 1 v1 (keepP (ks.take (k + 1)) (ps.take (k + 1))).length ((keepP (ks.take (k + 1)) (ps.take (k + 1))).map ptrV)) := hide (by rw [HT'.out, ptrs_snoc, List.length_append]; exact hown1)
        have HB1 : Hid (Below w.heap.size w w1) := hide (grown_below ((HB.out).alloc (by omega) _) hgrow1 (HO.out.alloc _) (Nat.le_refl _) (by simp; omega))
        clear hown1 hgrow1 hne1 hat1
        go_wp2
        exact ⟨⟨k + 1, by omega, by go_num, HB1, HO1⟩, by simp [intOf]; omega⟩
    · have HO2 : Hid (wr.ownsRow w.heap.size 245 1 u5 (keepP ks ps).length ((keepP ks ps).map ptrV)) := hide (by have := HO.out; have e := hl.out; rwa [List.take_of_length_le (by omega), List.take_of_length_le (by omega)] at this)
      go_wp2
      go_ret
      exact ⟨_, rfl, HB.out, HO2.out⟩
end Go.Proofs.YtlmaodcddbkllaaDoor
