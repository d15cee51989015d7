import Derived.Test.YtlmaodcddbkllaaDoorAN0
import Derived.Test.YtlmaodcddbkllaaDoorW2
import Derived.Deep.RegionHeld3
/-
  The law's ways with flows: equality.
-/
namespace Go.Proofs.YtlmaodcddbkllaaDoor
open Go.RowKit

set_option maxHeartbeats 1000000 in
theorem eqSet_yes (a a' : Option Addr) (n c c' : Nat) (xs : List Int) (L B L' B' : Nat) (w : World) (ha : Hid (IntsAt w L B a xs)) (hb : Hid (IntsAt w L' B' a' xs)) (hx : Hid (n = xs.length)) (hn : n ≤ 1048576) (hB : B ≤ w.heap.size) (hB' : B' ≤ w.heap.size) :
    Calls Tryd.prog 151 #[.agg #[.slice a n c], .agg #[.slice a' n c']] w fun e w' => e = .returned (.bool true) ∧ Below w.heap.size w w' := by
  have bl := fun x y => balloc (balloc (Below.refl w.heap.size w) x) y
  have C1 := fun x y => hide (eqInts_yes a a' n c c' xs L B L' B' ((w.alloc x).alloc y) (hide (ha.out.keep ((bl x y).mono hB))) (hide (hb.out.keep ((bl x y).mono hB'))) hx hn (by have := (bl x y).size; omega) (by have := (bl x y).size; omega))
  go_enter Tryd.func151, Tryd.ntmps151
  go_wp2_with fail
  refine (C1 _ _).out.mono ?_
  rintro e w1 ⟨rfl, hb1⟩
  have HB1 := hide (bnext (bl _ _) hb1)
  clear hb1
  go_wp2_with fail
  go_ret
  exact ⟨rfl, HB1.out⟩
set_option maxHeartbeats 1000000 in
set_option maxRecDepth 100000 in
theorem eqSets_yes (a a' : Option Addr) (n c c' : Nat) (Pr : List (List Int)) (L B L' B' : Nat) (w : World) (ha : Hid (IntssAt w L B a Pr)) (hb : Hid (IntssAt w L' B' a' Pr)) (hx : Hid (n = Pr.length)) (hn : n ≤ 1000) (hl : Hid (∀ l ∈ Pr, l.length ≤ 1000)) (hB : B ≤ w.heap.size) (hB' : B' ≤ w.heap.size) :
    Calls Tryd.prog 89 #[.slice a n c, .slice a' n c'] w fun e w' => e = .returned (.bool true) ∧ Below w.heap.size w w' := by
  have hnn : (n != n) = false := by simp
  have hni : ((n : Int) != (n : Int)) = false := by simp
  go_enter Tryd.func89, Tryd.ntmps89
  go_wp2_with fail
  go_loopw [5] (fun u wr => ∃ j : Nat, j ≤ n ∧ u = .int .i64 j ∧ Hid (Below w.heap.size w wr)) (fun u _ => n - (intOf u).toNat)
  case atStart => exact ⟨0, Nat.zero_le _, rfl, hide (Below.refl _ _)⟩
  case round =>
    obtain ⟨j, hj, rfl, HB⟩ := hrel
    by_cases hlt : j < n
    · have hjx : j < Pr.length := by have := hx.out; omega
      obtain ⟨b, o, rfl, hbB, a1, c1, e1, i1⟩ := ha.out j hjx
      obtain ⟨b', o', rfl, hbB', a2, c2, e2, i2⟩ := hb.out j hjx
      have k1 := (HB.out.cell (p := ⟨b, o + j, none⟩) (by show b < _; omega)).trans e1
      have k2 := (HB.out.cell (p := ⟨b', o' + j, none⟩) (by show b' < _; omega)).trans e2
      have hlj := hl.out _ (List.getElem_mem hjx)
      have HC := hide (eqSet_yes a1 a2 Pr[j].length c1 c2 Pr[j] L B L' B' wr.drew (hide (i1.keep (HB.out.drew.mono hB))) (hide (i2.keep (HB.out.drew.mono hB'))) (hide rfl) (by omega) (by show B ≤ wr.heap.size; have := HB.out.size; omega) (by show B' ≤ wr.heap.size; have := HB.out.size; omega))
      have hbl : b < wr.heap.size := by have := HB.out.size; omega
      have hbl' : b' < wr.heap.size := by have := HB.out.size; omega
      clear e1 e2 i1 i2
      generalize Pr[j].length = lj at *
      go_wp2_with fail
      refine wp_region_held_drew (S := (fun w' => w'.cell? ⟨b, o + j, none⟩ = some (.slice a1 lj c1) ∧ w'.cell? ⟨b', o' + j, none⟩ = some (.slice a2 lj c2))) (by kernel_rfl) (by (try dsimp only); go_keep) (fun hHeld => ?_)
      refine wpAnyH_take (i := 0) (v := ?_) rfl (by kernel_rfl) (by kernel_rfl) (by kernel_rfl) (fun _ _ _ h => h) (Or.inl ⟨by rfl, ?_⟩) (by assumption) ?_
      rotate_left
      · intro w hSw; (try dsimp only at hSw); go_simp; try with_reducible rfl
      simp only [Act.put, List.getElem_toArray, List.getElem_cons_zero, List.setIfInBounds_toArray, List.set_cons_zero, List.set_cons_succ]
      refine wpAnyH_take (i := 1) (v := ?_) rfl (by kernel_rfl) (by kernel_rfl) (by kernel_rfl) (fun _ _ _ h => h) (Or.inl ⟨by rfl, ?_⟩) (by assumption) ?_
      rotate_left
      · intro w hSw; (try dsimp only at hSw); go_simp; try with_reducible rfl
      simp only [Act.put, List.getElem_toArray, List.getElem_cons_zero, List.getElem_cons_succ, List.setIfInBounds_toArray, List.set_cons_zero, List.set_cons_succ]
      refine wpAnyH_take (i := 2) (v := ?_) rfl (by kernel_rfl) (by kernel_rfl) (by kernel_rfl) (fun _ _ _ h => h) (Or.inl ⟨by rfl, ?_⟩) (by assumption) ?_
      rotate_left
      · intro w hSw; (try dsimp only at hSw); go_simp; try with_reducible rfl
      simp only [Act.put, List.getElem_toArray, List.getElem_cons_zero, List.getElem_cons_succ, List.setIfInBounds_toArray, List.set_cons_zero, List.set_cons_succ]
      refine wpAnyH_take (i := 3) (v := ?_) rfl (by kernel_rfl) (by kernel_rfl) (by kernel_rfl) (fun _ _ _ h => h) (Or.inl ⟨by rfl, ?_⟩) (by assumption) ?_
      rotate_left
      · intro w hSw; (try dsimp only at hSw); go_simp; try with_reducible rfl
      simp only [Act.put, List.getElem_toArray, List.getElem_cons_zero, List.getElem_cons_succ, List.setIfInBounds_toArray, List.set_cons_zero, List.set_cons_succ]
      refine wpAnyH_take (i := 4) (v := ?_) rfl (by kernel_rfl) (by kernel_rfl) (by kernel_rfl) (fun _ _ _ h => h) (Or.inl ⟨by rfl, ?_⟩) (by assumption) ?_
      rotate_left
      · intro w hSw; (try dsimp only at hSw); go_simp; try with_reducible rfl
      simp only [Act.put, List.getElem_toArray, List.getElem_cons_zero, List.getElem_cons_succ, List.setIfInBounds_toArray, List.set_cons_zero, List.set_cons_succ]
      refine wpAnyH_take (i := 5) (v := ?_) rfl (by kernel_rfl) (by kernel_rfl) (by kernel_rfl) (fun _ _ _ h => h) (Or.inl ⟨by rfl, ?_⟩) (by assumption) ?_
      rotate_left
      · intro w hSw; (try dsimp only at hSw); go_simp; try with_reducible rfl
      simp only [Act.put, List.getElem_toArray, List.getElem_cons_zero, List.getElem_cons_succ, List.setIfInBounds_toArray, List.set_cons_zero, List.set_cons_succ]
      refine wpAnyH_take (i := 6) (v := ?_) rfl (by kernel_rfl) (by kernel_rfl) (by kernel_rfl) (fun _ _ _ h => h) (Or.inl ⟨by rfl, ?_⟩) (by assumption) ?_
      rotate_left
      · intro w hSw; (try dsimp only at hSw); go_simp; try with_reducible rfl
      simp only [Act.put, List.getElem_toArray, List.getElem_cons_zero, List.getElem_cons_succ, List.setIfInBounds_toArray, List.set_cons_zero, List.set_cons_succ]
      refine wpAnyH_take (i := 7) (v := ?_) rfl (by kernel_rfl) (by kernel_rfl) (by kernel_rfl) (fun _ _ _ h => h) (Or.inl ⟨by rfl, ?_⟩) (by assumption) ?_
      rotate_left
      · intro w hSw; (try dsimp only at hSw); go_simp; try with_reducible rfl
      simp only [Act.put, List.getElem_toArray, List.getElem_cons_zero, List.getElem_cons_succ, List.setIfInBounds_toArray, List.set_cons_zero, List.set_cons_succ]
      refine wpAnyH_ready (rs := [8]) (by kernel_rfl) (by simp) ?_
      refine AllReadyH.cons rfl (fun K hK => ?_) AllReadyH.nil
      go_simp
      go_at_call 151
      refine HC.out.mono ?_
      rintro e w1 ⟨rfl, hb1⟩
      have HB1 := hide (bnext HB.out.drew hb1)
      have q1 := (hb1.cell (p := ⟨b, o + j, none⟩) hbl).trans k1
      have q2 := (hb1.cell (p := ⟨b', o' + j, none⟩) hbl').trans k2
      clear hb1
      refine hK.out _ _ ⟨q1, q2⟩ (fun hHeld => ?_)
      clear hK
      try simp only [Act.put, List.getElem_toArray, List.getElem_cons_zero, List.getElem_cons_succ, List.setIfInBounds_toArray, List.set_cons_zero, List.set_cons_succ]
      refine wpAnyH_take (i := 9) (v := ?_) rfl (by kernel_rfl) (by kernel_rfl) (by kernel_rfl) (fun _ _ _ h => h) (Or.inl ⟨by rfl, ?_⟩) (by assumption) ?_
      rotate_left
      · intro w hSw; (try dsimp only at hSw); go_simp; try with_reducible rfl
      simp only [Act.put, List.getElem_toArray, List.getElem_cons_zero, List.getElem_cons_succ, List.setIfInBounds_toArray, List.set_cons_zero, List.set_cons_succ]
      refine wpAnyH_done (by kernel_rfl) ?_ _
      go_wp2_with fail
      exact ⟨⟨j + 1, by omega, by go_num, HB1⟩, by simp [intOf]; omega⟩
    · go_wp2_with fail
      go_ret
      exact ⟨rfl, HB.out⟩
set_option maxHeartbeats 1000000 in
set_option maxRecDepth 100000 in
theorem eqBools_yes (a a' : Option Addr) (n c c' : Nat) (xs : List Bool) (L B L' B' : Nat) (w : World) (ha : Hid (BoolsAt w L B a xs)) (hb : Hid (BoolsAt w L' B' a' xs)) (hx : Hid (n = xs.length)) (hn : n ≤ 1000) (hB : B ≤ w.heap.size) (hB' : B' ≤ w.heap.size) :
    Calls Tryd.prog 90 #[.slice a n c, .slice a' n c'] w fun e w' => e = .returned (.bool true) ∧ Below w.heap.size w w' := by
  have hni : ((n : Int) != (n : Int)) = false := by simp
  go_enter Tryd.func90, Tryd.ntmps90
  go_wp2_with fail
  go_loopw [5] (fun u wr => ∃ j : Nat, j ≤ n ∧ u = .int .i64 j ∧ Hid (Below w.heap.size w wr)) (fun u _ => n - (intOf u).toNat)
  case atStart => exact ⟨0, Nat.zero_le _, rfl, hide (Below.refl _ _)⟩
  case round =>
    obtain ⟨j, hj, rfl, HB⟩ := hrel
    by_cases hlt : j < n
    · have hjx : j < xs.length := by have := hx.out; omega
      obtain ⟨b, o, rfl, hbB, e1⟩ := ha.out j hjx
      obtain ⟨b', o', rfl, hbB', e2⟩ := hb.out j hjx
      have k1 := (HB.out.cell (p := ⟨b, o + j, none⟩) (by show b < _; omega)).trans e1
      have k2 := (HB.out.cell (p := ⟨b', o' + j, none⟩) (by show b' < _; omega)).trans e2
      clear e1 e2
      generalize xs[j] = x at *
      have hxx : (x != x) = false := by simp
      go_wp2_with fail
      go_region
      go_wp2_with fail
      exact ⟨⟨j + 1, by omega, by go_num, hide HB.out.drew⟩, by simp [intOf]; omega⟩
    · go_wp2_with fail
      go_ret
      exact ⟨rfl, HB.out⟩
set_option maxHeartbeats 1000000 in
set_option maxRecDepth 100000 in
theorem eqFlow_yes (a1 a2 a3 a4 b1 b2 b3 b4 : Option Addr) (n q c1 c2 c3 c4 d1 d2 d3 d4 : Nat) (Pr : List (List Int)) (Rc : List Bool) (P Od : List Int) (L B L' B' : Nat) (w : World) (ha : Hid (FlowAt w L B Pr Rc P Od a1 a2 a3 a4)) (hb : Hid (FlowAt w L' B' Pr Rc P Od b1 b2 b3 b4)) (h1 : Hid (n = Pr.length)) (h2 : Hid (n = Rc.length)) (h3 : Hid (n = P.length)) (h4 : Hid (q = Od.length)) (hn : n ≤ 1000) (hq : q ≤ 1000) (hl : Hid (∀ l ∈ Pr, l.length ≤ 1000)) (hB : B ≤ w.heap.size) (hB' : B' ≤ w.heap.size) :
    Calls Tryd.prog 34 #[.agg #[.slice a1 n c1, .slice a2 n c2, .slice a3 n c3, .slice a4 q c4], .agg #[.slice b1 n d1, .slice b2 n d2, .slice b3 n d3, .slice b4 q d4]] w fun e w' => e = .returned (.bool true) ∧ Below w.heap.size w w' := by
  have bl := fun x y => balloc (balloc (Below.refl w.heap.size w) x) y
  have C1 := fun x y => hide (eqSets_yes a1 b1 n c1 d1 Pr L B L' B' ((w.alloc x).alloc y) (hide (ha.out.p.keep ((bl x y).mono hB))) (hide (hb.out.p.keep ((bl x y).mono hB'))) h1 hn hl (by have := (bl x y).size; omega) (by have := (bl x y).size; omega))
  go_enter Tryd.func34, Tryd.ntmps34
  go_wp2_with fail
  refine (C1 _ _).out.mono ?_
  rintro e w1 ⟨rfl, hb1⟩
  obtain ⟨k1, f1⟩ := bcell hb1
  have hs1 := hb1.size
  simp at hs1
  have HB1 := hide (bnext (bl _ _) hb1)
  clear hb1 C1
  go_wp2_with fail
  refine (eqBools_yes a2 b2 n c2 d2 Rc L B L' B' w1 (hide (ha.out.r.keep (HB1.out.mono hB))) (hide (hb.out.r.keep (HB1.out.mono hB'))) h2 hn (by omega) (by omega)).mono ?_
  rintro e w2 ⟨rfl, hb2⟩
  have HB2 := hide (bnext HB1.out hb2)
  have hs2 := hb2.size
  have k2 : ∀ b o, b < w1.heap.size → w2.cell? ⟨b, o, none⟩ = w1.cell? ⟨b, o, none⟩ := fun b o h => hb2.cell (p := ⟨b, o, none⟩) h
  have l1 : w.heap.size < w1.heap.size := by omega
  have l2 : w.heap.size + 1 < w1.heap.size := by omega
  clear hb2
  go_wp2_with fail
  refine (eqInts_yes a3 b3 n c3 d3 P L B L' B' w2 (hide (ha.out.i.keep (HB2.out.mono hB))) (hide (hb.out.i.keep (HB2.out.mono hB'))) h3 (by omega) (by omega) (by omega)).mono ?_
  rintro e w3 ⟨rfl, hb3⟩
  have HB3 := hide (bnext HB2.out hb3)
  have hs3 := hb3.size
  have k3 : ∀ b o, b < w2.heap.size → w3.cell? ⟨b, o, none⟩ = w2.cell? ⟨b, o, none⟩ := fun b o h => hb3.cell (p := ⟨b, o, none⟩) h
  have l3 : w.heap.size < w2.heap.size := by omega
  have l4 : w.heap.size + 1 < w2.heap.size := by omega
  clear hb3
  go_wp2_with fail
  refine (eqInts_yes a4 b4 q c4 d4 Od L B L' B' w3 (hide (ha.out.o.keep (HB3.out.mono hB))) (hide (hb.out.o.keep (HB3.out.mono hB'))) h4 (by omega) (by omega) (by omega)).mono ?_
  rintro e w4 ⟨rfl, hb4⟩
  have HB4 := hide (bnext HB3.out hb4)
  clear hb4
  go_wp2_with fail
  go_ret
  exact ⟨rfl, HB4.out⟩
end Go.Proofs.YtlmaodcddbkllaaDoor
