import Derived.Test.YtdcdgopblbmgoaaDoorR1
import Derived.Test.YtdcdgopblbmgoaaDoorMark2
import Derived.Test.YtdcdgopblbmgoaaDoorW9
import Derived.Deep.RegionLaw
namespace Go.Proofs.YtdcdgopblbmgoaaDoor
open Go.RowKit

set_option maxHeartbeats 400000 in
set_option maxRecDepth 100000 in
theorem l1Heap_any (a : Option Addr) (n c : Nat) (hs : List Int) (L B : Nat) (w : World) (ha : Hid (IntsAt w L B a hs)) (hx : Hid (n = hs.length)) (hB : B ≤ w.heap.size) :
    Calls Tryd.prog 69 #[.slice a n c] w fun e w' => ∃ g c', e = .returned (.slice (some ⟨g, 0, none⟩) 32 c') ∧ Below w.heap.size w w' ∧ w.heap.size ≤ g ∧ IntsW w' g (heapR hs) := by
  obtain ⟨i0, hi0, hz0, hz1, hz2⟩ := info_parts Tryd.info2'
  go_enter Tryd.func69, Tryd.ntmps69
  go_wp2
  go_loopw [3, 4] (fun u i wr => ∃ k : Nat, k ≤ 32 ∧ i = .int .i64 k ∧ Below w.heap.size w wr ∧ Hid (u ≠ .slice none 0 0) ∧ wr.ownsRow w.heap.size 2 1 u (heapTo hs k).length ((heapTo hs k).map (Value.int .i64))) (fun _ i _ => 32 - (intOf i).toNat)
  case atStart => exact ⟨0, Nat.zero_le _, rfl, balloc (Below.refl _ _) _, (by intro h; cases h), World.ownsRow_lit (base := w.heap.size) (e := 2) (size := 1) w #[] 0 (Nat.le_refl _) (by simp) rfl⟩
  case round =>
    obtain ⟨k, hk, rfl, hw, hnn, hown⟩ := hrel
    have hwz := hw.size
    by_cases hlt : k < 32
    · have HO := hide hown
      clear hown
      by_cases hkn : k < n
      · have hkx : k < hs.length := by have := hx.out; omega
        obtain ⟨b, o, rfl, ⟨_, hbB⟩, hc⟩ := ha.out k hkx
        have e1 := (hw.cell (p := ⟨b, o + k, none⟩) (by show b < _; omega)).trans hc
        have hnx : Hid (heapTo hs (k + 1) = heapTo hs k ++ [hs[k]]) := by show _ = _; rw [heapTo_snoc]; simp [hkx]
        clear hc
        generalize hs[k] = V at *
        go_wp2_with (at_builtin; refine wpList_append_own _ rfl _ _ 38 rfl w.heap.size 2 i0 (.int .i64 0) 1 8 Tryd.underlying38 hi0 hz0 hz1 hz2 rfl (by decide) _ _ _ rfl (HO.out.alloc _) ⟨wr.heap.size, 0, none⟩ 1 1 [.int .i64 V] rfl rfl ?c1 ?c2 ?c3 ?c4 ?c5 ?_)
        case c1 =>
          intro j u hj
          match j, hj with
          | 0, hj => simp at hj; subst hj; simp [Addr.add]
        case c2 => intro u hu; simp at hu; subst hu; rfl
        case c3 => rw [heapTo_len]; unfold maxLen; omega
        case c4 => rw [heapTo_len]; omega
        case c5 => simp; omega
        intro v1 w1 hown1 hgrow1 hne1
        have HO1 := hide hown1
        have HN1 := hide hne1
        have HB1 := hide (grown_below (balloc hw _) hgrow1 (HO.out.alloc _) (Nat.le_refl _) (by simp; omega))
        clear hown1 hgrow1 hne1
        go_wp2
        exact ⟨⟨k + 1, by omega, by go_num, HB1.out, hide (by simpa using HN1.out), by rw [hnx.out, ints_snoc, List.length_append]; exact HO1.out⟩, by simp [intOf]; omega⟩
      · have hkx : hs.length ≤ k := by have := hx.out; omega
        have hnx : Hid (heapTo hs (k + 1) = heapTo hs k ++ [0]) := by show _ = _; rw [heapTo_snoc]; simp [List.getElem?_eq_none hkx]
        go_wp2_with (at_builtin; refine wpList_append_own _ rfl _ _ 38 rfl w.heap.size 2 i0 (.int .i64 0) 1 8 Tryd.underlying38 hi0 hz0 hz1 hz2 rfl (by decide) _ _ _ rfl (HO.out.alloc _) ⟨wr.heap.size, 0, none⟩ 1 1 [.int .i64 0] rfl rfl ?c1 ?c2 ?c3 ?c4 ?c5 ?_)
        case c1 =>
          intro j u hj
          match j, hj with
          | 0, hj => simp at hj; subst hj; simp [Addr.add]
        case c2 => intro u hu; simp at hu; subst hu; rfl
        case c3 => rw [heapTo_len]; unfold maxLen; omega
        case c4 => rw [heapTo_len]; omega
        case c5 => simp; omega
        intro v1 w1 hown1 hgrow1 hne1
        have HO1 := hide hown1
        have HN1 := hide hne1
        have HB1 := hide (grown_below (balloc hw _) hgrow1 (HO.out.alloc _) (Nat.le_refl _) (by simp; omega))
        clear hown1 hgrow1 hne1
        go_wp2
        exact ⟨⟨k + 1, by omega, by go_num, HB1.out, hide (by simpa using HN1.out), by rw [hnx.out, ints_snoc, List.length_append]; exact HO1.out⟩, by simp [intOf]; omega⟩
    · have hk32 : k = 32 := by omega
      subst hk32
      have HO := hide hown
      clear hown
      go_wp2
      go_ret
      obtain ⟨g, c', rfl, hg, hi⟩ := IntsW.of_owned HO.out hnn.out
      exact ⟨g, c', ret_slice rfl (heapTo_len _ _) rfl, hw, hg, hi⟩
end Go.Proofs.YtdcdgopblbmgoaaDoor

namespace Go.Proofs.YtdcdgopblbmgoaaDoor
open Go.RowKit

theorem bl3 (w : World) (x y z : Obj) : Below w.heap.size w (((w.alloc x).alloc y).alloc z) := balloc (balloc (balloc (Below.refl _ _) _) _) _
theorem in3 (w : World) {b o : Nat} {v : Value} (h : w.cell? ⟨b, o, none⟩ = some v) (hb : b < w.heap.size) : ∀ x y z, (((w.alloc x).alloc y).alloc z).cell? ⟨b, o, none⟩ = some v := fun x y z => ((bl3 w x y z).cell (p := ⟨b, o, none⟩) hb).trans h
theorem fr3 (w : World) {b o : Nat} {v : Bool} (h : w.frozen? ⟨b, o, none⟩ = v) (hb : b < w.heap.size) : ∀ x y z, (((w.alloc x).alloc y).alloc z).frozen? ⟨b, o, none⟩ = v := fun x y z => ((bl3 w x y z).frozen (p := ⟨b, o, none⟩) hb).trans h
theorem at_nat {xs : List Int} {n : Nat} {i : Int} (hn : n = xs.length) (h0 : 0 ≤ i) (h1 : i < n) : ∃ k : Nat, i = k ∧ k < xs.length ∧ getN xs i = getN xs k := by
  obtain ⟨k, rfl⟩ := Int.eq_ofNat_of_zero_le h0
  exact ⟨k, rfl, by omega, rfl⟩

/-- What a call of l1Exec leaves. -/
def ExecPost (gv nv cv : Nat) (code value steps : Int) (gh ch B : Nat) (vals hp tr : List Int) (w : World) (e : Ending) (w' : World) : Prop :=
  ∃ ta nt ct, e = .returned (.tuple #[.slice (some ⟨gv, 0, none⟩) nv cv, .agg #[.int .i64 code, .int .i64 value, .int .i64 steps, .slice ta nt ct, .slice (some ⟨gh, 0, none⟩) 32 ch]]) ∧ Kb B gv gh w w' ∧ RunMem w' B gv gh 2 (.slice ta nt ct) vals hp tr
theorem ExecPost.mk {gv nv cv : Nat} {code value steps : Int} {gh ch B : Nat} {vals hp tr : List Int} {w w' : World} {ta : Option Addr} {nt ct r : Nat} (R : Rn w r B gv gh 2 (.slice ta nt ct) vals hp tr w') :
    ExecPost gv nv cv code value steps gh ch B vals hp tr w (.returned (.tuple #[.slice (some ⟨gv, 0, none⟩) nv cv, .agg #[.int .i64 code, .int .i64 value, .int .i64 steps, .slice ta nt ct, .slice (some ⟨gh, 0, none⟩) 32 ch]])) w' := ⟨_, _, _, rfl, R.kb, R.mem⟩

set_option maxHeartbeats 1000000 in
theorem exec1 (dst a b imm : Int) (gv nv cv : Nat) (aa : Option Addr) (na ca : Nat) (code value steps : Int) (ta : Option Addr) (nt ct : Nat) (gh ch : Nat) (w : World) (vals hp tr : List Int) (B : Nat)
    (hm : Hid (RunMem w B gv gh 2 (.slice ta nt ct) vals hp tr)) (hB : B ≤ w.heap.size) (hnv : Hid (nv = vals.length)) (d0 : 0 ≤ dst) (d1 : dst < nv) :
    Calls Tryd.prog 70 #[.agg #[.int .i64 1, .int .i64 dst, .int .i64 a, .int .i64 b, .int .i64 imm], .slice (some ⟨gv, 0, none⟩) nv cv, .slice aa na ca, .agg #[.int .i64 code, .int .i64 value, .int .i64 steps, .slice ta nt ct, .slice (some ⟨gh, 0, none⟩) 32 ch]] w
      (ExecPost gv nv cv code value steps gh ch B (setN vals dst imm) (hp) (tr) w) := by
  have hgv := hm.out.vals.lt
  have hgh := hm.out.heap.lt
  obtain ⟨d, rfl, hdx, -⟩ := at_nat hnv.out d0 d1
  have c1 := in3 w (hm.out.vals.2 d hdx) hgv
  have c2 := fr3 w (hm.out.vals.frozen d) hgv
  have R := fun x y z => ((((Rn.of (r := w.heap.size + 1 + 1) hm.out hB (bl3 w x y z) (by omega)).setV hdx imm).out5 (.int .i64 code) (.int .i64 value) (.int .i64 steps) (.slice ta nt ct) (.slice (some ⟨gh, 0, none⟩) 32 ch)).drew)
  go_enter Tryd.func70, Tryd.ntmps70
  go_wp2
  go_region
  all_goals
    go_wp2
    exact bodyPost_ret (v := .tuple #[.slice (some ⟨gv, 0, none⟩) nv cv, .agg #[.int .i64 code, .int .i64 value, .int .i64 steps, .slice ta nt ct, .slice (some ⟨gh, 0, none⟩) 32 ch]]) (by simp [results, Tryd.results70, go_sem]) rfl (ExecPost.mk (R _ _ _))
set_option maxHeartbeats 1000000 in
theorem exec2 (dst a b imm : Int) (gv nv cv : Nat) (aa : Option Addr) (na ca : Nat) (code value steps : Int) (ta : Option Addr) (nt ct : Nat) (gh ch : Nat) (w : World) (vals hp tr : List Int) (B : Nat)
    (hm : Hid (RunMem w B gv gh 2 (.slice ta nt ct) vals hp tr)) (hB : B ≤ w.heap.size) (hnv : Hid (nv = vals.length)) (d0 : 0 ≤ dst) (d1 : dst < nv) (xs : List Int) (L A : Nat) (ha : Hid (IntsAt w L A aa xs)) (hx : Hid (na = xs.length)) (hAB : A ≤ w.heap.size) (i0 : 0 ≤ imm) (i1 : imm ≤ 1000) :
    Calls Tryd.prog 70 #[.agg #[.int .i64 2, .int .i64 dst, .int .i64 a, .int .i64 b, .int .i64 imm], .slice (some ⟨gv, 0, none⟩) nv cv, .slice aa na ca, .agg #[.int .i64 code, .int .i64 value, .int .i64 steps, .slice ta nt ct, .slice (some ⟨gh, 0, none⟩) 32 ch]] w
      (ExecPost gv nv cv code value steps gh ch B (setN vals dst (argR xs imm)) (hp) (tr) w) := by
  have hgv := hm.out.vals.lt
  have hgh := hm.out.heap.lt
  obtain ⟨d, rfl, hdx, -⟩ := at_nat hnv.out d0 d1
  have c1 := in3 w (hm.out.vals.2 d hdx) hgv
  have c2 := fr3 w (hm.out.vals.frozen d) hgv
  have HA := fun x y z => hide (ha.out.keep ((bl3 w x y z).drew.mono hAB))
  have R := fun x y z => ((((Rn.of (r := w.heap.size + 1 + 1) hm.out hB (bl3 w x y z) (by omega)).setV hdx (argR xs imm)).out5 (.int .i64 code) (.int .i64 value) (.int .i64 steps) (.slice ta nt ct) (.slice (some ⟨gh, 0, none⟩) 32 ch)).drew.drew)
  go_enter Tryd.func70, Tryd.ntmps70
  go_wp2_with fail
  go_region_with (go_at_call 111; refine (l1ArgOf_any _ _ _ _ xs L A _ (HA _ _ _) hx i0 i1).mono ?_; rintro e w1 ⟨rfl, rfl⟩)
  all_goals
    go_wp2
    go_region
    all_goals
      go_wp2
      exact bodyPost_ret (v := .tuple #[.slice (some ⟨gv, 0, none⟩) nv cv, .agg #[.int .i64 code, .int .i64 value, .int .i64 steps, .slice ta nt ct, .slice (some ⟨gh, 0, none⟩) 32 ch]]) (by simp [results, Tryd.results70, go_sem]) rfl (ExecPost.mk (R _ _ _))
end Go.Proofs.YtdcdgopblbmgoaaDoor
