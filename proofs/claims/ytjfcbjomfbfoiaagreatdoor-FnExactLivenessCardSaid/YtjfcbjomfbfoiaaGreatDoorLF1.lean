import Derived.Test.YtjfcbjomfbfoiaaGreatDoorW2
import Derived.Test.YtjfcbjomfbfoiaaGreatDoorIw
import Derived.Deep.RegionHeld3
namespace Go.Proofs.YtjfcbjomfbfoiaaGreatDoor
open Go.RowKit
set_option maxHeartbeats 1000000 in
theorem eqSet_yes (a a' : Option Addr) (n c c' : Nat) (xs : List Int) (L B L' B' : Nat) (w : World) (ha : Hid (IntsAt w L B a xs)) (hb : Hid (IntsAt w L' B' a' xs)) (hx : Hid (n = xs.length)) (hn : n ≤ 1048576) (hB : B ≤ w.heap.size) (hB' : B' ≤ w.heap.size) :
    Calls Tryz.prog 39 #[.agg #[.slice a n c], .agg #[.slice a' n c']] w fun e w' => e = .returned (.bool true) ∧ Below w.heap.size w w' := by
  have bl := fun x y => balloc (balloc (Below.refl w.heap.size w) x) y
  have C1 := fun x y => hide (eqInts_yes a a' n c c' xs L B L' B' ((w.alloc x).alloc y) (hide (ha.out.keep ((bl x y).mono hB))) (hide (hb.out.keep ((bl x y).mono hB'))) hx hn (by have := (bl x y).size; omega) (by have := (bl x y).size; omega))
  go_enter Tryz.func39, Tryz.ntmps39
  go_wp2_with fail
  refine (C1 _ _).out.mono ?_
  rintro e w1 ⟨rfl, hb1⟩
  have HB1 := hide (bnext (bl _ _) hb1)
  clear hb1
  go_wp2_with fail
  go_ret
  exact ⟨rfl, HB1.out⟩
set_option maxHeartbeats 1000000 in
set_option maxRecDepth 100000 in
theorem eqSets_yes (a a' : Option Addr) (n c c' : Nat) (Pr : List (List Int)) (L B L' B' : Nat) (w : World) (ha : Hid (IntssAt w L B a Pr)) (hb : Hid (IntssAt w L' B' a' Pr)) (hx : Hid (n = Pr.length)) (hn : n ≤ 5000) (hl : Hid (∀ l ∈ Pr, l.length ≤ 5000)) (hB : B ≤ w.heap.size) (hB' : B' ≤ w.heap.size) :
    Calls Tryz.prog 18 #[.slice a n c, .slice a' n c'] w fun e w' => e = .returned (.bool true) ∧ Below w.heap.size w w' := by
  have hnn : (n != n) = false := by simp
  have hni : ((n : Int) != (n : Int)) = false := by simp
  go_enter Tryz.func18, Tryz.ntmps18
  go_wp2_with fail
  go_loopw [5] (fun u wr => ∃ j : Nat, j ≤ n ∧ u = .int .i64 j ∧ Hid (Below w.heap.size w wr)) (fun u _ => n - (intOf u).toNat)
  case atStart => exact ⟨0, Nat.zero_le _, rfl, hide (Below.refl _ _)⟩
  case round =>
    obtain ⟨j, hj, rfl, HB⟩ := hrel
    by_cases hlt : j < n
    · have hjx : j < Pr.length := by have := hx.out; omega
      obtain ⟨b, o, rfl, hbB, a1, c1, e1, i1⟩ := ha.out j hjx
      obtain ⟨b', o', rfl, hbB', a2, c2, e2, i2⟩ := hb.out j hjx
      have k1 := (HB.out.cell (p := ⟨b, o + j, none⟩) (by show b < _; omega)).trans e1
      have k2 := (HB.out.cell (p := ⟨b', o' + j, none⟩) (by show b' < _; omega)).trans e2
      have hlj := hl.out _ (List.getElem_mem hjx)
      have HC := hide (eqSet_yes a1 a2 Pr[j].length c1 c2 Pr[j] L B L' B' wr.drew (hide (i1.keep (HB.out.drew.mono hB))) (hide (i2.keep (HB.out.drew.mono hB'))) (hide rfl) (by omega) (by show B ≤ wr.heap.size; have := HB.out.size; omega) (by show B' ≤ wr.heap.size; have := HB.out.size; omega))
      have hbl : b < wr.heap.size := by have := HB.out.size; omega
      have hbl' : b' < wr.heap.size := by have := HB.out.size; omega
      clear e1 e2 i1 i2
      generalize Pr[j].length = lj at *
      go_wp2_with fail
      refine wp_region_held_drew (S := (fun w' => w'.cell? ⟨b, o + j, none⟩ = some (.slice a1 lj c1) ∧ w'.cell? ⟨b', o' + j, none⟩ = some (.slice a2 lj c2))) (by kernel_rfl) (by (try dsimp only); go_keep) (fun hHeld => ?_)
      refine wpAnyH_take (i := 0) (v := ?_) rfl (by kernel_rfl) (by kernel_rfl) (by kernel_rfl) (fun _ _ _ h => h) (Or.inl ⟨by rfl, ?_⟩) (by assumption) ?_
      rotate_left
      · intro w hSw; (try dsimp only at hSw); go_simp; try with_reducible rfl
      simp only [Act.put, List.getElem_toArray, List.getElem_cons_zero, List.setIfInBounds_toArray, List.set_cons_zero, List.set_cons_succ]
      refine wpAnyH_take (i := 1) (v := ?_) rfl (by kernel_rfl) (by kernel_rfl) (by kernel_rfl) (fun _ _ _ h => h) (Or.inl ⟨by rfl, ?_⟩) (by assumption) ?_
      rotate_left
      · intro w hSw; (try dsimp only at hSw); go_simp; try with_reducible rfl
      simp only [Act.put, List.getElem_toArray, List.getElem_cons_zero, List.getElem_cons_succ, List.setIfInBounds_toArray, List.set_cons_zero, List.set_cons_succ]
      refine wpAnyH_take (i := 2) (v := ?_) rfl (by kernel_rfl) (by kernel_rfl) (by kernel_rfl) (fun _ _ _ h => h) (Or.inl ⟨by rfl, ?_⟩) (by assumption) ?_
      rotate_left
      · intro w hSw; (try dsimp only at hSw); go_simp; try with_reducible rfl
      simp only [Act.put, List.getElem_toArray, List.getElem_cons_zero, List.getElem_cons_succ, List.setIfInBounds_toArray, List.set_cons_zero, List.set_cons_succ]
      refine wpAnyH_take (i := 3) (v := ?_) rfl (by kernel_rfl) (by kernel_rfl) (by kernel_rfl) (fun _ _ _ h => h) (Or.inl ⟨by rfl, ?_⟩) (by assumption) ?_
      rotate_left
      · intro w hSw; (try dsimp only at hSw); go_simp; try with_reducible rfl
      simp only [Act.put, List.getElem_toArray, List.getElem_cons_zero, List.getElem_cons_succ, List.setIfInBounds_toArray, List.set_cons_zero, List.set_cons_succ]
      refine wpAnyH_take (i := 4) (v := ?_) rfl (by kernel_rfl) (by kernel_rfl) (by kernel_rfl) (fun _ _ _ h => h) (Or.inl ⟨by rfl, ?_⟩) (by assumption) ?_
      rotate_left
      · intro w hSw; (try dsimp only at hSw); go_simp; try with_reducible rfl
      simp only [Act.put, List.getElem_toArray, List.getElem_cons_zero, List.getElem_cons_succ, List.setIfInBounds_toArray, List.set_cons_zero, List.set_cons_succ]
      refine wpAnyH_take (i := 5) (v := ?_) rfl (by kernel_rfl) (by kernel_rfl) (by kernel_rfl) (fun _ _ _ h => h) (Or.inl ⟨by rfl, ?_⟩) (by assumption) ?_
      rotate_left
      · intro w hSw; (try dsimp only at hSw); go_simp; try with_reducible rfl
      simp only [Act.put, List.getElem_toArray, List.getElem_cons_zero, List.getElem_cons_succ, List.setIfInBounds_toArray, List.set_cons_zero, List.set_cons_succ]
      refine wpAnyH_take (i := 6) (v := ?_) rfl (by kernel_rfl) (by kernel_rfl) (by kernel_rfl) (fun _ _ _ h => h) (Or.inl ⟨by rfl, ?_⟩) (by assumption) ?_
      rotate_left
      · intro w hSw; (try dsimp only at hSw); go_simp; try with_reducible rfl
      simp only [Act.put, List.getElem_toArray, List.getElem_cons_zero, List.getElem_cons_succ, List.setIfInBounds_toArray, List.set_cons_zero, List.set_cons_succ]
      refine wpAnyH_take (i := 7) (v := ?_) rfl (by kernel_rfl) (by kernel_rfl) (by kernel_rfl) (fun _ _ _ h => h) (Or.inl ⟨by rfl, ?_⟩) (by assumption) ?_
      rotate_left
      · intro w hSw; (try dsimp only at hSw); go_simp; try with_reducible rfl
      simp only [Act.put, List.getElem_toArray, List.getElem_cons_zero, List.getElem_cons_succ, List.setIfInBounds_toArray, List.set_cons_zero, List.set_cons_succ]
      refine wpAnyH_ready (rs := [8]) (by kernel_rfl) (by simp) ?_
      refine AllReadyH.cons rfl (fun K hK => ?_) AllReadyH.nil
      go_simp
      go_at_call 39
      refine HC.out.mono ?_
      rintro e w1 ⟨rfl, hb1⟩
      have HB1 := hide (bnext HB.out.drew hb1)
      have q1 := (hb1.cell (p := ⟨b, o + j, none⟩) hbl).trans k1
      have q2 := (hb1.cell (p := ⟨b', o' + j, none⟩) hbl').trans k2
      clear hb1
      refine hK.out _ _ ⟨q1, q2⟩ (fun hHeld => ?_)
      clear hK
      try simp only [Act.put, List.getElem_toArray, List.getElem_cons_zero, List.getElem_cons_succ, List.setIfInBounds_toArray, List.set_cons_zero, List.set_cons_succ]
      refine wpAnyH_take (i := 9) (v := ?_) rfl (by kernel_rfl) (by kernel_rfl) (by kernel_rfl) (fun _ _ _ h => h) (Or.inl ⟨by rfl, ?_⟩) (by assumption) ?_
      rotate_left
      · intro w hSw; (try dsimp only at hSw); go_simp; try with_reducible rfl
      simp only [Act.put, List.getElem_toArray, List.getElem_cons_zero, List.getElem_cons_succ, List.setIfInBounds_toArray, List.set_cons_zero, List.set_cons_succ]
      refine wpAnyH_done (by kernel_rfl) ?_ _
      go_wp2_with fail
      exact ⟨⟨j + 1, by omega, by go_num, HB1⟩, by simp [intOf]; omega⟩
    · go_wp2_with fail
      go_ret
      exact ⟨rfl, HB.out⟩
def pc (Pr : Nat → List Int) : Nat → Nat
  | 0 => 0
  | i + 1 => pc Pr i + (Pr i).length
theorem pc_le {Pr : Nat → List Int} {n : Nat} (h : ∀ i, i < n → (Pr i).length ≤ 5000) : ∀ i, i ≤ n → pc Pr i ≤ 5000 * i
  | 0, _ => Nat.le_refl _
  | i + 1, hi => by
    have := pc_le h i (by omega)
    have := h i (by omega)
    rw [pc]; omega
structure SetsSep (w : World) (g n : Nat) (a : Nat → Option Addr) (cp lo hi : Nat → Nat) (Pr : Nat → List Int) : Prop where
  cell : ∀ i, i < n → w.cell? ⟨g, i, none⟩ = some (.slice (a i) (Pr i).length (cp i))
  ints : ∀ i, i < n → IntsAt w (lo i) (hi i) (a i) (Pr i)
  thaw : ∀ i, i < n → ThawB (lo i) (hi i) w
  dj : ∀ i j, i < n → j < n → i ≠ j → hi i ≤ lo j ∨ hi j ≤ lo i
  out : ∀ i, i < n → ¬ (lo i ≤ g ∧ g < hi i)
/-- The first j sets are marked. -/
structure MkS (w wr : World) (n j : Nat) (k : Int) (a : Nat → Option Addr) (lo hi : Nat → Nat) (Pr : Nat → List Int) : Prop where
  os : wr.os = w.os
  tape : wr.tape = w.tape
  output : wr.output = w.output
  size : wr.heap.size = w.heap.size
  block : ∀ b, (∀ i, i < n → ¬ (lo i ≤ b ∧ b < hi i)) → wr.heap[b]? = w.heap[b]?
  done : ∀ i, i < j → IntsAt wr (lo i) (hi i) (a i) (marks (k + pc Pr i) (Pr i).length)
  rest : ∀ i, j ≤ i → i < n → Same (lo i) (hi i) w wr
theorem MkS.next {w wr w' : World} {n j : Nat} {k : Int} {a : Nat → Option Addr} {lo hi : Nat → Nat} {Pr : Nat → List Int} (h : MkS w wr n j k a lo hi Pr) (hj : j < n) (dj : ∀ i j, i < n → j < n → i ≠ j → hi i ≤ lo j ∨ hi j ≤ lo i) (k1 : IW (lo j) (hi j) wr w') (k2 : IntsAt w' (lo j) (hi j) (a j) (marks (k + pc Pr j) (Pr j).length)) : MkS w w' n (j + 1) k a lo hi Pr := by
  refine ⟨k1.os.trans h.os, k1.tape.trans h.tape, k1.output.trans h.output, k1.size.trans h.size, fun b hb => (k1.block b (hb j hj)).trans (h.block b hb), fun i hi' => ?_, fun i h1 h2 q q1 q2 => (k1.block q (fun e => by have := dj i j h2 hj (by omega); omega)).trans (h.rest i (by omega) h2 q q1 q2)⟩
  by_cases e : i = j
  · subst e; exact k2
  · exact (h.done i (by omega)).keepS (fun q q1 q2 => k1.block q (fun e2 => by have := dj i j (by omega) hj e; omega))
set_option maxHeartbeats 1000000 in
set_option maxRecDepth 100000 in
theorem markSets_sep (g n c : Nat) (k : Int) (a : Nat → Option Addr) (cp lo hi : Nat → Nat) (Pr : Nat → List Int) (w : World) (hs : Hid (SetsSep w g n a cp lo hi Pr)) (hn : n ≤ 5000) (hl : Hid (∀ i, i < n → (Pr i).length ≤ 5000)) (h0 : 0 ≤ k) (h1 : k ≤ 100000000) :
    Calls Tryz.prog 19 #[.slice (some ⟨g, 0, none⟩) n c, .int .i64 k] w fun e w' => e = .returned (.int .i64 (k + pc Pr n)) ∧ MkS w w' n n k a lo hi Pr := by
  go_enter Tryz.func19, Tryz.ntmps19
  go_wp2_with fail
  go_loopw [1, 5] (fun u i wr => ∃ j : Nat, j ≤ n ∧ i = .int .i64 j ∧ u = .int .i64 (k + pc Pr j) ∧ Hid (MkS w wr n j k a lo hi Pr)) (fun _ i _ => n - (intOf i).toNat)
  case atStart => exact ⟨0, Nat.zero_le _, rfl, by simp [pc], hide ⟨rfl, rfl, rfl, rfl, fun _ _ => rfl, fun _ h => absurd h (Nat.not_lt_zero _), fun _ _ _ => Same.refl _ _ _⟩⟩
  case round =>
    obtain ⟨j, hj, rfl, rfl, HM⟩ := hrel
    have hpj := pc_le hl.out j hj
    by_cases hlt : j < n
    · have cj : wr.cell? ⟨g, j, none⟩ = some (.slice (a j) (Pr j).length (cp j)) := (World.cell?_of_block (HM.out.block g hs.out.out)).trans (hs.out.cell j hlt)
      have hlj := hl.out j hlt
      have HS := HM.out.rest j (Nat.le_refl _) hlt
      have HC := hide (markInts_any (a j) (Pr j).length (cp j) (k + pc Pr j) (Pr j) (lo j) (hi j) wr (hide ((hs.out.ints j hlt).keepS HS)) (hide rfl) (hide ((hs.out.thaw j hlt).keepS HS)) (by omega) (by omega) (by omega))
      have HPC : Hid (k + (pc Pr j : Int) + ((Pr j).length : Int) = k + (pc Pr (j + 1) : Int)) := hide (by rw [pc]; omega)
      have HNX := hide (fun w' k1 k2 => HM.out.next (w' := w') hlt hs.out.dj k1 k2)
      clear HS
      generalize (Pr j).length = lj at *
      generalize (pc Pr j : Int) = pj at *
      go_wp2_with fail
      refine HC.out.mono ?_
      rintro e w1 ⟨rfl, hiw, hia⟩
      have HM1 := hide (HNX.out w1 hiw hia)
      clear hiw hia HC
      go_wp2_with fail
      exact ⟨⟨j + 1, by omega, by go_num, congrArg (Value.int .i64) HPC.out, HM1⟩, by simp [intOf]; omega⟩
    · have hje : j = n := by omega
      subst hje
      go_wp2_with fail
      go_ret
      exact ⟨rfl, HM.out⟩
set_option maxHeartbeats 1000000 in
set_option maxRecDepth 100000 in
theorem heldSets_any (g n c : Nat) (k : Int) (a : Nat → Option Addr) (cp lo hi : Nat → Nat) (Pr : Nat → List Int) (w : World) (hc : Hid (∀ i, i < n → w.cell? ⟨g, i, none⟩ = some (.slice (a i) (Pr i).length (cp i)))) (hi' : Hid (∀ i, i < n → IntsAt w (lo i) (hi i) (a i) (marks (k + pc Pr i) (Pr i).length))) (hn : n ≤ 5000) (hl : Hid (∀ i, i < n → (Pr i).length ≤ 5000)) (h0 : 0 ≤ k) (h1 : k ≤ 100000000) :
    Calls Tryz.prog 20 #[.slice (some ⟨g, 0, none⟩) n c, .int .i64 k] w fun e w' => e = .returned (.int .i64 (k + pc Pr n)) ∧ w' = w := by
  go_enter Tryz.func20, Tryz.ntmps20
  go_wp2_with fail
  go_loopw [1, 5] (fun u i wr => ∃ j : Nat, j ≤ n ∧ i = .int .i64 j ∧ u = .int .i64 (k + pc Pr j) ∧ Hid (wr = w)) (fun _ i _ => n - (intOf i).toNat)
  case atStart => exact ⟨0, Nat.zero_le _, rfl, by simp [pc], hide rfl⟩
  case round =>
    obtain ⟨j, hj, rfl, rfl, HW⟩ := hrel
    have hpj := pc_le hl.out j hj
    have HW' := HW.out
    subst HW'
    by_cases hlt : j < n
    · have cj := hc.out j hlt
      have hlj := hl.out j hlt
      have HC := hide (heldInts_any (a j) (Pr j).length (cp j) (k + pc Pr j) (lo j) (hi j) wr (hide (hi'.out j hlt)) (by omega) (by omega) (by omega))
      have HPC : Hid (k + (pc Pr j : Int) + ((Pr j).length : Int) = k + (pc Pr (j + 1) : Int)) := hide (by rw [pc]; omega)
      generalize (Pr j).length = lj at *
      have hpz : 0 ≤ (pc Pr j : Int) := by omega
      have hpy : (pc Pr j : Int) ≤ 25000000 := by omega
      generalize (pc Pr j : Int) = pj at *
      clear hpj
      go_wp2_with fail
      refine HC.out.mono ?_
      rintro e w1 ⟨rfl, hw1⟩
      rw [hw1]
      clear hw1 HC
      have hneg : ¬ (k + pj + (lj : Int) < 0) := by omega
      go_wp2_with fail
      exact ⟨⟨j + 1, by omega, by go_num, congrArg (Value.int .i64) HPC.out, HW⟩, by simp [intOf]; omega⟩
    · have hje : j = n := by omega
      subst hje
      go_wp2_with fail
      go_ret
      exact ⟨rfl, rfl⟩
set_option maxHeartbeats 1000000 in
theorem markSets_nil (k : Int) (w : World) : Calls Tryz.prog 19 #[.slice none 0 0, .int .i64 k] w fun e w' => e = .returned (.int .i64 k) ∧ w' = w := by
  go_enter Tryz.func19, Tryz.ntmps19
  go_wp2_with fail
  go_loopw [1, 5] (fun u i wr => u = .int .i64 k ∧ i = .int .i64 0 ∧ Hid (wr = w)) (fun _ _ _ => 0)
  case atStart => exact ⟨rfl, rfl, hide rfl⟩
  case round =>
    obtain ⟨rfl, rfl, HW⟩ := hrel
    have hw := HW.out
    subst hw
    go_wp2_with fail
    go_ret
    exact ⟨rfl, rfl⟩
set_option maxHeartbeats 1000000 in
theorem heldSets_nil (k : Int) (w : World) : Calls Tryz.prog 20 #[.slice none 0 0, .int .i64 k] w fun e w' => e = .returned (.int .i64 k) ∧ w' = w := by
  go_enter Tryz.func20, Tryz.ntmps20
  go_wp2_with fail
  go_loopw [1, 5] (fun u i wr => u = .int .i64 k ∧ i = .int .i64 0 ∧ Hid (wr = w)) (fun _ _ _ => 0)
  case atStart => exact ⟨rfl, rfl, hide rfl⟩
  case round =>
    obtain ⟨rfl, rfl, HW⟩ := hrel
    have hw := HW.out
    subst hw
    go_wp2_with fail
    go_ret
    exact ⟨rfl, rfl⟩
end Go.Proofs.YtjfcbjomfbfoiaaGreatDoor
