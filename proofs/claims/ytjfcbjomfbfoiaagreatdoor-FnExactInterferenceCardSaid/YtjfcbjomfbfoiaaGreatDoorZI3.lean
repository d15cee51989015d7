import Derived.Test.YtjfcbjomfbfoiaaGreatDoorMI3
import Derived.Test.YtjfcbjomfbfoiaaGreatDoorLF1
namespace Go.Proofs.YtjfcbjomfbfoiaaGreatDoor
open Go.RowKit
/-- What Interference answers. -/
noncomputable def infL (v : Int) (xs : List Blk) : List (List Int) := if validI ⟨v, xs⟩ = true then (List.range v.toNat).map (fun i => natI (infP xs v.toNat i)) else []
theorem infP_len (xs : List Blk) (V i : Nat) : (natI (infP xs V i)).length ≤ V := by
  unfold natI infP
  rw [List.length_map]
  exact Nat.le_trans (List.length_filter_le _ _) (by simp)
set_option maxHeartbeats 1000000 in
set_option maxRecDepth 100000 in
theorem infS_bad (v : Int) (a : Option Addr) (n c : Nat) (xs : List Blk) (L B : Nat) (w : World) (ha : Hid (BlksAt w L B a xs)) (hx : Hid (n = xs.length)) (hs : Hid (xs.length + blksTot xs ≤ 1048576)) (hB : B ≤ w.heap.size) (hv : Hid (validI ⟨v, xs⟩ = false)) :
    Calls Tryz.prog 23 #[.agg #[.int .i64 v, .slice a n c]] w fun e w' => ∃ g, e = .returned (.slice (some ⟨g, 0, none⟩) 0 0) ∧ Below w.heap.size w w' := by
  have HVF := hide (fun W (hb : Below w.heap.size w W) => validFuncS_any v a n c xs L B W (hide (ha.out.keep (hb.mono hB))) hx hs (by have := hb.size; omega))
  rw [← valid_same, hv.out] at HVF
  go_enter Tryz.func23, Tryz.ntmps23
  go_wp2_with fail
  refine (HVF.out _ (balloc (balloc (Below.refl _ _) _) _)).mono ?_
  rintro e w1 ⟨rfl, hb1⟩
  have HB1 := hide (bnext (balloc (balloc (Below.refl w.heap.size w) _) _) hb1)
  clear hb1 HVF
  go_wp2_with fail
  go_ret
  exact ⟨_, rfl, HB1.out⟩
set_option maxHeartbeats 1000000 in
set_option maxRecDepth 100000 in
theorem infI_bad (v : Int) (a : Option Addr) (n c : Nat) (xs : List Blk) (L B : Nat) (w : World) (ha : Hid (BlksAt w L B a xs)) (hx : Hid (n = xs.length)) (hs : Hid (xs.length + blksTot xs ≤ 1048576)) (hB : B ≤ w.heap.size) (hO : Hid (OpTabW w)) (hT : Hid (TerTabW w)) (hv : Hid (validI ⟨v, xs⟩ = false)) :
    Calls Tryz.prog 24 #[.agg #[.int .i64 v, .slice a n c]] w fun e w' => ∃ g, e = .returned (.slice (some ⟨g, 0, none⟩) 0 0) ∧ Below w.heap.size w w' := by
  have HVF := hide (fun W (hb : Below w.heap.size w W) => validFuncI_any v a n c xs L B W (hide (ha.out.keep (hb.mono hB))) hx hs (by have := hb.size; omega) (hide (hO.out.keep hb hO.out.1).old) (hide (hT.out.keep hb hT.out.1).old))
  rw [hv.out] at HVF
  go_enter Tryz.func24, Tryz.ntmps24
  go_wp2_with fail
  refine (HVF.out _ (balloc (Below.refl _ _) _)).mono ?_
  rintro e w1 ⟨rfl, hb1⟩
  have HB1 := hide (bnext (balloc (Below.refl w.heap.size w) _) hb1)
  clear hb1 HVF
  go_wp2_with fail
  go_ret
  exact ⟨w1.heap.size, rfl, balloc HB1.out _⟩
theorem OuS.setA {w2 w' : World} {b0 L : Nat} {X : Value} {V : Nat} {P : Nat → List Int} (h : OuS w2 w' b0 X V P) (hb : L ≤ b0) (h2 : L ≤ w2.heap.size) (hV : V ≤ 5000) (hl : ∀ i, i < V → (P i).length ≤ 5000) : SetA w' L w'.heap.size ((List.range V).map P) X := by
  obtain ⟨U, h1, hU⟩ := h.own
  have hlen : ∀ x ∈ (List.range V).map P, x.length ≤ 5000 := fun x hx => by
    obtain ⟨i, hi, rfl⟩ := List.mem_map.1 hx
    exact hl i (List.mem_range.1 hi)
  rcases own_form h1 with ⟨e1, e2, _⟩ | ⟨g, c, e1, _⟩
  · subst e2
    rw [e1]
    exact setA_nil _ _ _ _ _
  · subst e1
    refine ⟨_, V, c, rfl, fun i hi => ?_, by simp, hV, hlen⟩
    have hi' : i < V := by simpa using hi
    obtain ⟨ai, ci, hv, hai⟩ := ints_owned (hU i hi')
    have hg := h1.lt g rfl
    refine ⟨g, 0, rfl, ⟨by omega, hg.2⟩, ai, ci, ?_, ?_⟩
    · simp only [List.getElem_map, List.getElem_range, Nat.zero_add]
      rw [← hv]
      exact own_cell h1 (by simp [hi'])
    · simp only [List.getElem_map, List.getElem_range]
      exact hai.mono h2 (Nat.le_refl _)
theorem infS_ans (v : Int) (a : Option Addr) (n c : Nat) (xs : List Blk) (L B : Nat) (w : World) (ha : BlksAt w L B a xs) (hx : n = xs.length) (hs : xs.length + blksTot xs ≤ 1048576) (hB : B ≤ w.heap.size) :
    Calls Tryz.prog 23 #[.agg #[.int .i64 v, .slice a n c]] w fun e w' => ∃ G, e = .returned G ∧ Below w.heap.size w w' ∧ SetA w' w.heap.size w'.heap.size (infL v xs) G := by
  unfold infL
  cases hv : validI ⟨v, xs⟩ with
  | false =>
    rw [if_neg (by simp)]
    refine (infS_bad v a n c xs L B w (hide ha) (hide hx) (hide hs) hB (hide hv)).mono ?_
    rintro e w' ⟨g, rfl, hb⟩
    exact ⟨_, rfl, hb, setA_nil _ _ _ _ _⟩
  | true =>
    rw [if_pos rfl]
    obtain ⟨V, rfl⟩ := valid_nat hv
    have hok := okL_of_valid hv
    have hV := hok.vle
    refine (infS_any V a n c xs L B w (hide ha) (hide hx) (hide hs) hB (hide hv) (hide hok)).mono ?_
    rintro e w' ⟨X, rfl, hb, w2, hw2, hO⟩
    exact ⟨_, rfl, hb, hO.setA (by omega) hw2 (by omega) (fun i _ => by have := infP_len xs V i; omega)⟩
theorem infI_ans (v : Int) (a : Option Addr) (n c : Nat) (xs : List Blk) (L B : Nat) (w : World) (ha : BlksAt w L B a xs) (hx : n = xs.length) (hs : xs.length + blksTot xs ≤ 1048576) (hB : B ≤ w.heap.size) (hO : OpTabW w) (hT : TerTabW w) (hZ : TzTab w) :
    Calls Tryz.prog 24 #[.agg #[.int .i64 v, .slice a n c]] w fun e w' => ∃ G, e = .returned G ∧ Below w.heap.size w w' ∧ SetA w' w.heap.size w'.heap.size (infL v xs) G ∧ MarkS w' w.heap.size G := by
  unfold infL
  cases hv : validI ⟨v, xs⟩ with
  | false =>
    rw [if_neg (by simp)]
    refine (infI_bad v a n c xs L B w (hide ha) (hide hx) (hide hs) hB (hide hO) (hide hT) (hide hv)).mono ?_
    rintro e w' ⟨g, rfl, hb⟩
    exact ⟨_, rfl, hb, setA_nil _ _ _ _ _, markS_empty _ _ _ _⟩
  | true =>
    rw [if_pos rfl]
    obtain ⟨V, rfl⟩ := valid_nat hv
    have hok := okL_of_valid hv
    have hV := hok.vle
    refine (infI_any V a n c xs L B w (hide ha) (hide hx) (hide hs) hB (hide hO) (hide hT) (hide hZ) (hide hv) (hide hok)).mono ?_
    rintro e w' ⟨base, g, U, rfl, hg, hb, hR⟩
    have hl : ∀ i, i < V → (natI (infP xs V i)).length ≤ 5000 := fun i _ => by have := infP_len xs V i; omega
    exact ⟨_, rfl, hb, hR.setA (c := V) hg (by omega) hl, hR.mark (c := V) hg (by omega) hl⟩
end Go.Proofs.YtjfcbjomfbfoiaaGreatDoor
