import Derived.Test.YtjfcbjomfbfoiaaGreatDoorW2
import Derived.Test.YtjfcbjomfbfoiaaGreatDoorMark
import Derived.Deep.RegionHeld3
import Derived.Test.YtjfcbjomfbfoiaaGreatDoorZM1
import Derived.Test.YtjfcbjomfbfoiaaGreatDoorFV1
import Derived.Test.YtjfcbjomfbfoiaaGreatDoorOC2
import Derived.Test.YtjfcbjomfbfoiaaGreatDoorW14b
import Derived.Deep.MidRow
import Derived.Deep.CutRange
import Derived.Test.YtjfcbjomfbfoiaaGreatDoorML3
import Derived.Test.YtjfcbjomfbfoiaaGreatDoorW18b
import Derived.Test.YtjfcbjomfbfoiaaGreatDoorZP0
namespace Go.Proofs.YtjfcbjomfbfoiaaGreatDoor
open Go.RowKit
set_option maxHeartbeats 1000000 in
theorem eqSet_yes (a a' : Option Addr) (n c c' : Nat) (xs : List Int) (L B L' B' : Nat) (w : World) (ha : Hid (IntsAt w L B a xs)) (hb : Hid (IntsAt w L' B' a' xs)) (hx : Hid (n = xs.length)) (hn : n ≤ 1048576) (hB : B ≤ w.heap.size) (hB' : B' ≤ w.heap.size) :
    Calls Tryz.prog 39 #[.agg #[.slice a n c], .agg #[.slice a' n c']] w fun e w' => e = .returned (.bool true) ∧ Below w.heap.size w w' := by
  have bl := fun x y => balloc (balloc (Below.refl w.heap.size w) x) y
  have C1 := fun x y => hide (eqInts_yes a a' n c c' xs L B L' B' ((w.alloc x).alloc y) (hide (ha.out.keep ((bl x y).mono hB))) (hide (hb.out.keep ((bl x y).mono hB'))) hx hn (by have := (bl x y).size; omega) (by have := (bl x y).size; omega))
  go_enter Tryz.func39, Tryz.ntmps39
  go_wp2_with fail
  refine (C1 _ _).out.mono ?_
  rintro e w1 ⟨rfl, hb1⟩
  have HB1 := hide (bnext (bl _ _) hb1)
  clear hb1
  go_wp2_with fail
  go_ret
  exact ⟨rfl, HB1.out⟩
set_option maxHeartbeats 1000000 in
set_option maxRecDepth 100000 in
theorem eqSets_yes (a a' : Option Addr) (n c c' : Nat) (Pr : List (List Int)) (L B L' B' : Nat) (w : World) (ha : Hid (IntssAt w L B a Pr)) (hb : Hid (IntssAt w L' B' a' Pr)) (hx : Hid (n = Pr.length)) (hn : n ≤ 5000) (hl : Hid (∀ l ∈ Pr, l.length ≤ 5000)) (hB : B ≤ w.heap.size) (hB' : B' ≤ w.heap.size) :
    Calls Tryz.prog 18 #[.slice a n c, .slice a' n c'] w fun e w' => e = .returned (.bool true) ∧ Below w.heap.size w w' := by
  have hnn : (n != n) = false := by simp
  have hni : ((n : Int) != (n : Int)) = false := by simp
  go_enter Tryz.func18, Tryz.ntmps18
  go_wp2_with fail
  go_loopw [5] (fun u wr => ∃ j : Nat, j ≤ n ∧ u = .int .i64 j ∧ Hid (Below w.heap.size w wr)) (fun u _ => n - (intOf u).toNat)
  case atStart => exact ⟨0, Nat.zero_le _, rfl, hide (Below.refl _ _)⟩
  case round =>
    obtain ⟨j, hj, rfl, HB⟩ := hrel
    by_cases hlt : j < n
    · have hjx : j < Pr.length := by have := hx.out; omega
      obtain ⟨b, o, rfl, hbB, a1, c1, e1, i1⟩ := ha.out j hjx
      obtain ⟨b', o', rfl, hbB', a2, c2, e2, i2⟩ := hb.out j hjx
      have k1 := (HB.out.cell (p := ⟨b, o + j, none⟩) (by show b < _; omega)).trans e1
      have k2 := (HB.out.cell (p := ⟨b', o' + j, none⟩) (by show b' < _; omega)).trans e2
      have hlj := hl.out _ (List.getElem_mem hjx)
      have HC := hide (eqSet_yes a1 a2 Pr[j].length c1 c2 Pr[j] L B L' B' wr.drew (hide (i1.keep (HB.out.drew.mono hB))) (hide (i2.keep (HB.out.drew.mono hB'))) (hide rfl) (by omega) (by show B ≤ wr.heap.size; have := HB.out.size; omega) (by show B' ≤ wr.heap.size; have := HB.out.size; omega))
      have hbl : b < wr.heap.size := by have := HB.out.size; omega
      have hbl' : b' < wr.heap.size := by have := HB.out.size; omega
      clear e1 e2 i1 i2
      generalize Pr[j].length = lj at *
      go_wp2_with fail
      refine wp_region_held_drew (S := (fun w' => w'.cell? ⟨b, o + j, none⟩ = some (.slice a1 lj c1) ∧ w'.cell? ⟨b', o' + j, none⟩ = some (.slice a2 lj c2))) (by kernel_rfl) (by (try dsimp only); go_keep) (fun hHeld => ?_)
      refine wpAnyH_take (i := 0) (v := ?_) rfl (by kernel_rfl) (by kernel_rfl) (by kernel_rfl) (fun _ _ _ h => h) (Or.inl ⟨by rfl, ?_⟩) (by assumption) ?_
      rotate_left
      · intro w hSw; (try dsimp only at hSw); go_simp; try with_reducible rfl
      simp only [Act.put, List.getElem_toArray, List.getElem_cons_zero, List.setIfInBounds_toArray, List.set_cons_zero, List.set_cons_succ]
      refine wpAnyH_take (i := 1) (v := ?_) rfl (by kernel_rfl) (by kernel_rfl) (by kernel_rfl) (fun _ _ _ h => h) (Or.inl ⟨by rfl, ?_⟩) (by assumption) ?_
      rotate_left
      · intro w hSw; (try dsimp only at hSw); go_simp; try with_reducible rfl
      simp only [Act.put, List.getElem_toArray, List.getElem_cons_zero, List.getElem_cons_succ, List.setIfInBounds_toArray, List.set_cons_zero, List.set_cons_succ]
      refine wpAnyH_take (i := 2) (v := ?_) rfl (by kernel_rfl) (by kernel_rfl) (by kernel_rfl) (fun _ _ _ h => h) (Or.inl ⟨by rfl, ?_⟩) (by assumption) ?_
      rotate_left
      · intro w hSw; (try dsimp only at hSw); go_simp; try with_reducible rfl
      simp only [Act.put, List.getElem_toArray, List.getElem_cons_zero, List.getElem_cons_succ, List.setIfInBounds_toArray, List.set_cons_zero, List.set_cons_succ]
      refine wpAnyH_take (i := 3) (v := ?_) rfl (by kernel_rfl) (by kernel_rfl) (by kernel_rfl) (fun _ _ _ h => h) (Or.inl ⟨by rfl, ?_⟩) (by assumption) ?_
      rotate_left
      · intro w hSw; (try dsimp only at hSw); go_simp; try with_reducible rfl
      simp only [Act.put, List.getElem_toArray, List.getElem_cons_zero, List.getElem_cons_succ, List.setIfInBounds_toArray, List.set_cons_zero, List.set_cons_succ]
      refine wpAnyH_take (i := 4) (v := ?_) rfl (by kernel_rfl) (by kernel_rfl) (by kernel_rfl) (fun _ _ _ h => h) (Or.inl ⟨by rfl, ?_⟩) (by assumption) ?_
      rotate_left
      · intro w hSw; (try dsimp only at hSw); go_simp; try with_reducible rfl
      simp only [Act.put, List.getElem_toArray, List.getElem_cons_zero, List.getElem_cons_succ, List.setIfInBounds_toArray, List.set_cons_zero, List.set_cons_succ]
      refine wpAnyH_take (i := 5) (v := ?_) rfl (by kernel_rfl) (by kernel_rfl) (by kernel_rfl) (fun _ _ _ h => h) (Or.inl ⟨by rfl, ?_⟩) (by assumption) ?_
      rotate_left
      · intro w hSw; (try dsimp only at hSw); go_simp; try with_reducible rfl
      simp only [Act.put, List.getElem_toArray, List.getElem_cons_zero, List.getElem_cons_succ, List.setIfInBounds_toArray, List.set_cons_zero, List.set_cons_succ]
      refine wpAnyH_take (i := 6) (v := ?_) rfl (by kernel_rfl) (by kernel_rfl) (by kernel_rfl) (fun _ _ _ h => h) (Or.inl ⟨by rfl, ?_⟩) (by assumption) ?_
      rotate_left
      · intro w hSw; (try dsimp only at hSw); go_simp; try with_reducible rfl
      simp only [Act.put, List.getElem_toArray, List.getElem_cons_zero, List.getElem_cons_succ, List.setIfInBounds_toArray, List.set_cons_zero, List.set_cons_succ]
      refine wpAnyH_take (i := 7) (v := ?_) rfl (by kernel_rfl) (by kernel_rfl) (by kernel_rfl) (fun _ _ _ h => h) (Or.inl ⟨by rfl, ?_⟩) (by assumption) ?_
      rotate_left
      · intro w hSw; (try dsimp only at hSw); go_simp; try with_reducible rfl
      simp only [Act.put, List.getElem_toArray, List.getElem_cons_zero, List.getElem_cons_succ, List.setIfInBounds_toArray, List.set_cons_zero, List.set_cons_succ]
      refine wpAnyH_ready (rs := [8]) (by kernel_rfl) (by simp) ?_
      refine AllReadyH.cons rfl (fun K hK => ?_) AllReadyH.nil
      go_simp
      go_at_call 39
      refine HC.out.mono ?_
      rintro e w1 ⟨rfl, hb1⟩
      have HB1 := hide (bnext HB.out.drew hb1)
      have q1 := (hb1.cell (p := ⟨b, o + j, none⟩) hbl).trans k1
      have q2 := (hb1.cell (p := ⟨b', o' + j, none⟩) hbl').trans k2
      clear hb1
      refine hK.out _ _ ⟨q1, q2⟩ (fun hHeld => ?_)
      clear hK
      try simp only [Act.put, List.getElem_toArray, List.getElem_cons_zero, List.getElem_cons_succ, List.setIfInBounds_toArray, List.set_cons_zero, List.set_cons_succ]
      refine wpAnyH_take (i := 9) (v := ?_) rfl (by kernel_rfl) (by kernel_rfl) (by kernel_rfl) (fun _ _ _ h => h) (Or.inl ⟨by rfl, ?_⟩) (by assumption) ?_
      rotate_left
      · intro w hSw; (try dsimp only at hSw); go_simp; try with_reducible rfl
      simp only [Act.put, List.getElem_toArray, List.getElem_cons_zero, List.getElem_cons_succ, List.setIfInBounds_toArray, List.set_cons_zero, List.set_cons_succ]
      refine wpAnyH_done (by kernel_rfl) ?_ _
      go_wp2_with fail
      exact ⟨⟨j + 1, by omega, by go_num, HB1⟩, by simp [intOf]; omega⟩
    · go_wp2_with fail
      go_ret
      exact ⟨rfl, HB.out⟩
def pc (Pr : Nat → List Int) : Nat → Nat
  | 0 => 0
  | i + 1 => pc Pr i + (Pr i).length
theorem pc_le {Pr : Nat → List Int} {n : Nat} (h : ∀ i, i < n → (Pr i).length ≤ 5000) : ∀ i, i ≤ n → pc Pr i ≤ 5000 * i
  | 0, _ => Nat.le_refl _
  | i + 1, hi => by
    have := pc_le h i (by omega)
    have := h i (by omega)
    rw [pc]; omega
structure SetsSep (w : World) (g n : Nat) (a : Nat → Option Addr) (cp lo hi : Nat → Nat) (Pr : Nat → List Int) : Prop where
  cell : ∀ i, i < n → w.cell? ⟨g, i, none⟩ = some (.slice (a i) (Pr i).length (cp i))
  ints : ∀ i, i < n → IntsAt w (lo i) (hi i) (a i) (Pr i)
  thaw : ∀ i, i < n → ThawB (lo i) (hi i) w
  dj : ∀ i j, i < n → j < n → i ≠ j → hi i ≤ lo j ∨ hi j ≤ lo i
  out : ∀ i, i < n → ¬ (lo i ≤ g ∧ g < hi i)
/-- The first j sets are marked. -/
structure MkS (w wr : World) (n j : Nat) (k : Int) (a : Nat → Option Addr) (lo hi : Nat → Nat) (Pr : Nat → List Int) : Prop where
  os : wr.os = w.os
  tape : wr.tape = w.tape
  output : wr.output = w.output
  size : wr.heap.size = w.heap.size
  block : ∀ b, (∀ i, i < n → ¬ (lo i ≤ b ∧ b < hi i)) → wr.heap[b]? = w.heap[b]?
  done : ∀ i, i < j → IntsAt wr (lo i) (hi i) (a i) (marks (k + pc Pr i) (Pr i).length)
  rest : ∀ i, j ≤ i → i < n → Same (lo i) (hi i) w wr
theorem MkS.next {w wr w' : World} {n j : Nat} {k : Int} {a : Nat → Option Addr} {lo hi : Nat → Nat} {Pr : Nat → List Int} (h : MkS w wr n j k a lo hi Pr) (hj : j < n) (dj : ∀ i j, i < n → j < n → i ≠ j → hi i ≤ lo j ∨ hi j ≤ lo i) (k1 : IW (lo j) (hi j) wr w') (k2 : IntsAt w' (lo j) (hi j) (a j) (marks (k + pc Pr j) (Pr j).length)) : MkS w w' n (j + 1) k a lo hi Pr := by
  refine ⟨k1.os.trans h.os, k1.tape.trans h.tape, k1.output.trans h.output, k1.size.trans h.size, fun b hb => (k1.block b (hb j hj)).trans (h.block b hb), fun i hi' => ?_, fun i h1 h2 q q1 q2 => (k1.block q (fun e => by have := dj i j h2 hj (by omega); omega)).trans (h.rest i (by omega) h2 q q1 q2)⟩
  by_cases e : i = j
  · subst e; exact k2
  · exact (h.done i (by omega)).keepS (fun q q1 q2 => k1.block q (fun e2 => by have := dj i j (by omega) hj e; omega))
set_option maxHeartbeats 1000000 in
set_option maxRecDepth 100000 in
theorem markSets_sep (g n c : Nat) (k : Int) (a : Nat → Option Addr) (cp lo hi : Nat → Nat) (Pr : Nat → List Int) (w : World) (hs : Hid (SetsSep w g n a cp lo hi Pr)) (hn : n ≤ 5000) (hl : Hid (∀ i, i < n → (Pr i).length ≤ 5000)) (h0 : 0 ≤ k) (h1 : k ≤ 100000000) :
    Calls Tryz.prog 19 #[.slice (some ⟨g, 0, none⟩) n c, .int .i64 k] w fun e w' => e = .returned (.int .i64 (k + pc Pr n)) ∧ MkS w w' n n k a lo hi Pr := by
  go_enter Tryz.func19, Tryz.ntmps19
  go_wp2_with fail
  go_loopw [1, 5] (fun u i wr => ∃ j : Nat, j ≤ n ∧ i = .int .i64 j ∧ u = .int .i64 (k + pc Pr j) ∧ Hid (MkS w wr n j k a lo hi Pr)) (fun _ i _ => n - (intOf i).toNat)
  case atStart => exact ⟨0, Nat.zero_le _, rfl, by simp [pc], hide ⟨rfl, rfl, rfl, rfl, fun _ _ => rfl, fun _ h => absurd h (Nat.not_lt_zero _), fun _ _ _ => Same.refl _ _ _⟩⟩
  case round =>
    obtain ⟨j, hj, rfl, rfl, HM⟩ := hrel
    have hpj := pc_le hl.out j hj
    by_cases hlt : j < n
    · have cj : wr.cell? ⟨g, j, none⟩ = some (.slice (a j) (Pr j).length (cp j)) := (World.cell?_of_block (HM.out.block g hs.out.out)).trans (hs.out.cell j hlt)
      have hlj := hl.out j hlt
      have HS := HM.out.rest j (Nat.le_refl _) hlt
      have HC := hide (markInts_any (a j) (Pr j).length (cp j) (k + pc Pr j) (Pr j) (lo j) (hi j) wr (hide ((hs.out.ints j hlt).keepS HS)) (hide rfl) (hide ((hs.out.thaw j hlt).keepS HS)) (by omega) (by omega) (by omega))
      have HPC : Hid (k + (pc Pr j : Int) + ((Pr j).length : Int) = k + (pc Pr (j + 1) : Int)) := hide (by rw [pc]; omega)
      have HNX := hide (fun w' k1 k2 => HM.out.next (w' := w') hlt hs.out.dj k1 k2)
      clear HS
      generalize (Pr j).length = lj at *
      generalize (pc Pr j : Int) = pj at *
      go_wp2_with fail
      refine HC.out.mono ?_
      rintro e w1 ⟨rfl, hiw, hia⟩
      have HM1 := hide (HNX.out w1 hiw hia)
      clear hiw hia HC
      go_wp2_with fail
      exact ⟨⟨j + 1, by omega, by go_num, congrArg (Value.int .i64) HPC.out, HM1⟩, by simp [intOf]; omega⟩
    · have hje : j = n := by omega
      subst hje
      go_wp2_with fail
      go_ret
      exact ⟨rfl, HM.out⟩
set_option maxHeartbeats 1000000 in
set_option maxRecDepth 100000 in
theorem heldSets_any (g n c : Nat) (k : Int) (a : Nat → Option Addr) (cp lo hi : Nat → Nat) (Pr : Nat → List Int) (w : World) (hc : Hid (∀ i, i < n → w.cell? ⟨g, i, none⟩ = some (.slice (a i) (Pr i).length (cp i)))) (hi' : Hid (∀ i, i < n → IntsAt w (lo i) (hi i) (a i) (marks (k + pc Pr i) (Pr i).length))) (hn : n ≤ 5000) (hl : Hid (∀ i, i < n → (Pr i).length ≤ 5000)) (h0 : 0 ≤ k) (h1 : k ≤ 100000000) :
    Calls Tryz.prog 20 #[.slice (some ⟨g, 0, none⟩) n c, .int .i64 k] w fun e w' => e = .returned (.int .i64 (k + pc Pr n)) ∧ w' = w := by
  go_enter Tryz.func20, Tryz.ntmps20
  go_wp2_with fail
  go_loopw [1, 5] (fun u i wr => ∃ j : Nat, j ≤ n ∧ i = .int .i64 j ∧ u = .int .i64 (k + pc Pr j) ∧ Hid (wr = w)) (fun _ i _ => n - (intOf i).toNat)
  case atStart => exact ⟨0, Nat.zero_le _, rfl, by simp [pc], hide rfl⟩
  case round =>
    obtain ⟨j, hj, rfl, rfl, HW⟩ := hrel
    have hpj := pc_le hl.out j hj
    have HW' := HW.out
    subst HW'
    by_cases hlt : j < n
    · have cj := hc.out j hlt
      have hlj := hl.out j hlt
      have HC := hide (heldInts_any (a j) (Pr j).length (cp j) (k + pc Pr j) (lo j) (hi j) wr (hide (hi'.out j hlt)) (by omega) (by omega) (by omega))
      have HPC : Hid (k + (pc Pr j : Int) + ((Pr j).length : Int) = k + (pc Pr (j + 1) : Int)) := hide (by rw [pc]; omega)
      generalize (Pr j).length = lj at *
      have hpz : 0 ≤ (pc Pr j : Int) := by omega
      have hpy : (pc Pr j : Int) ≤ 25000000 := by omega
      generalize (pc Pr j : Int) = pj at *
      clear hpj
      go_wp2_with fail
      refine HC.out.mono ?_
      rintro e w1 ⟨rfl, hw1⟩
      rw [hw1]
      clear hw1 HC
      have hneg : ¬ (k + pj + (lj : Int) < 0) := by omega
      go_wp2_with fail
      exact ⟨⟨j + 1, by omega, by go_num, congrArg (Value.int .i64) HPC.out, HW⟩, by simp [intOf]; omega⟩
    · have hje : j = n := by omega
      subst hje
      go_wp2_with fail
      go_ret
      exact ⟨rfl, rfl⟩
end Go.Proofs.YtjfcbjomfbfoiaaGreatDoor

namespace Go.Proofs.YtjfcbjomfbfoiaaGreatDoor
open Go.RowKit
/-- Two lists of sets, every row its own. -/
structure LvSep (w : World) (B T n : Nat) (g : Bool → Nat) (a : Bool → Nat → Option Addr) (cp lo hi : Bool → Nat → Nat) (Pr : Bool → Nat → List Int) : Prop where
  sep : ∀ s, SetsSep w (g s) n (a s) (cp s) (lo s) (hi s) (Pr s)
  dj : ∀ i j, i < n → j < n → hi false i ≤ lo true j ∨ hi true j ≤ lo false i
  out : ∀ s s' i, i < n → ¬ (lo s i ≤ g s' ∧ g s' < hi s i)
  low : ∀ s, g s < T
  top : T ≤ w.heap.size
  rng : ∀ s i q, i < n → lo s i ≤ q → q < hi s i → B ≤ q ∧ q < T
theorem SetsSep.of {w w' : World} {g n : Nat} {a : Nat → Option Addr} {cp lo hi : Nat → Nat} {Pr : Nat → List Int} (h : SetsSep w g n a cp lo hi Pr) (k : ∀ q, (q = g ∨ ∃ i, i < n ∧ lo i ≤ q ∧ q < hi i) → w'.heap[q]? = w.heap[q]?) : SetsSep w' g n a cp lo hi Pr :=
  ⟨fun i hi' => (cell_of (k g (Or.inl rfl))).trans (h.cell i hi'), fun i hi' => (h.ints i hi').keepS (fun q q1 q2 => k q (Or.inr ⟨i, hi', q1, q2⟩)), fun i hi' => (h.thaw i hi').keepS (fun q q1 q2 => k q (Or.inr ⟨i, hi', q1, q2⟩)), h.dj, h.out⟩
/-- Marked. -/
structure LvMk (w : World) (T n : Nat) (k : Int) (g : Bool → Nat) (a : Bool → Nat → Option Addr) (cp lo hi : Bool → Nat → Nat) (Pr : Bool → Nat → List Int) : Prop where
  cell : ∀ s i, i < n → w.cell? ⟨g s, i, none⟩ = some (.slice (a s i) (Pr s i).length (cp s i))
  ints : ∀ s i, i < n → IntsAt w (lo s i) (hi s i) (a s i) (marks (k + (if s = true then (pc (Pr false) n : Int) else 0) + pc (Pr s) i) (Pr s i).length)
  low : ∀ s, g s < T
  top : T ≤ w.heap.size
  rng : ∀ s i q, i < n → lo s i ≤ q → q < hi s i → q < T
theorem LvMk.below {w w' : World} {T n : Nat} {k : Int} {g : Bool → Nat} {a : Bool → Nat → Option Addr} {cp lo hi : Bool → Nat → Nat} {Pr : Bool → Nat → List Int} (h : LvMk w T n k g a cp lo hi Pr) (b : Below w.heap.size w w') : LvMk w' T n k g a cp lo hi Pr :=
  ⟨fun s i hi' => (b.cell (p := ⟨g s, i, none⟩) (Nat.lt_of_lt_of_le (h.low s) h.top)).trans (h.cell s i hi'), fun s i hi' => (h.ints s i hi').keepS (fun q q1 q2 => b.block q (Nat.lt_of_lt_of_le (h.rng s i q hi' q1 q2) h.top)), h.low, Nat.le_trans h.top b.size, h.rng⟩
end Go.Proofs.YtjfcbjomfbfoiaaGreatDoor

namespace Go.Proofs.YtjfcbjomfbfoiaaGreatDoor
open Go.RowKit
noncomputable def lqL (v : Int) (xs : List Blk) (s : Bool) : List (List Int) := if validI ⟨v, xs⟩ = true then (List.range xs.length).map (ipTo xs v.toNat s) else []
def LiveA (w : World) (L B : Nat) (v : Int) (xs : List Blk) (G : Value) : Prop := ∃ n a1 c1 a2 c2, G = .agg #[.slice a1 n c1, .slice a2 n c2] ∧ IntssAt w L B a1 (lqL v xs false) ∧ IntssAt w L B a2 (lqL v xs true) ∧ n = (lqL v xs false).length ∧ n = (lqL v xs true).length ∧ n ≤ 1000
theorem LiveA.keepS {w w' : World} {L B : Nat} {v : Int} {xs : List Blk} {G : Value} (h : LiveA w L B v xs G) (k : Same L B w w') : LiveA w' L B v xs G := by
  obtain ⟨n, a1, c1, a2, c2, e, h1, h2, h3⟩ := h
  exact ⟨n, a1, c1, a2, c2, e, h1.keepS k, h2.keepS k, h3⟩
theorem LiveA.form {w : World} {L B : Nat} {v : Int} {xs : List Blk} {G : Value} (h : LiveA w L B v xs G) : ∃ a1 n1 c1 a2 n2 c2, G = .agg #[.slice a1 n1 c1, .slice a2 n2 c2] := by
  obtain ⟨n, a1, c1, a2, c2, e, _⟩ := h
  exact ⟨a1, n, c1, a2, n, c2, e⟩
theorem valid_nat {v : Int} {xs : List Blk} (h : validI ⟨v, xs⟩ = true) : ∃ V : Nat, v = (V : Int) := by
  have h0 : 0 ≤ v := by
    simp only [validI, sizeOk, Bool.and_eq_true, decide_eq_true_eq] at h
    omega
  exact Int.eq_ofNat_of_zero_le h0
def aV : Value → Option Addr
  | .slice a _ _ => a
  | _ => none
def cV : Value → Nat
  | .slice _ _ c => c
  | _ => 0
def loV (v : Value) : Nat := v.ownBlock.getD 0
def hiV (v : Value) : Nat := match v.ownBlock with
  | some g => g + 1
  | none => 0
theorem lohiV {v : Value} {k : Nat} : (loV v ≤ k ∧ k < hiV v) ↔ v.ownBlock = some k := by
  unfold loV hiV
  cases e : v.ownBlock with
  | none => simp
  | some g => simp; omega
theorem row_sepV {w : World} {B n : Nat} {v : Value} {xs : List Int} (h : w.ownsRow B 2 1 v n (xs.map (Value.int .i64))) : v = .slice (aV v) xs.length (cV v) ∧ IntsAt w (loV v) (hiV v) (aV v) xs ∧ ThawB (loV v) (hiV v) w ∧ ∀ k, v.ownBlock = some k → B ≤ k ∧ k < w.heap.size := by
  have hl : xs.length = n := by have := h.1; simpa using this
  refine ⟨?_, fun i hi => ?_, fun b o hb => ?_, fun k e => h.lt k e⟩
  · rcases own_form h with ⟨e, h0, _⟩ | ⟨g, c, e, _, _⟩
    · rw [e]; simp [aV, cV]; omega
    · rw [e, hl]; rfl
  · rcases own_form h with ⟨e, h0, _⟩ | ⟨g, c, e, _, _⟩
    · omega
    · subst e
      refine ⟨g, 0, rfl, lohiV.2 rfl, ?_⟩
      rw [Nat.zero_add]
      exact own_cell h (by simp [hi])
  · rcases own_form h with ⟨e, h0, _⟩ | ⟨g, c, e, _, _⟩
    · subst e
      have := lohiV.1 hb
      cases this
    · subst e
      have hb' := lohiV.1 hb
      cases hb'
      exact own_thaw h o
theorem djV {u v : Value} (h : u.ownBlock = none ∨ u.ownBlock ≠ v.ownBlock) : hiV u ≤ loV v ∨ hiV v ≤ loV u := by
  unfold loV hiV
  cases e1 : u.ownBlock with
  | none => exact Or.inl (Nat.zero_le _)
  | some a =>
    cases e2 : v.ownBlock with
    | none => exact Or.inr (Nat.zero_le _)
    | some b =>
      rw [e1, e2] at h
      have : a ≠ b := fun e => by
        rcases h with q | q
        · cases q
        · exact q (by rw [e])
      simp
      omega
/-- The same rows in a world where all of their blocks lie still. -/
theorem LiG.move {w0 wr w' : World} {Fo n : Nat} {U : Bool → Nat → Value} {P : Bool → Nat → List Int} {X : Bool → Value} (h : LiG w0 wr Fo (fun _ => n) U P X) (hq : ∀ q, w0.heap.size ≤ q → w'.heap[q]? = wr.heap[q]?) : (∀ s, w'.ownsRow w0.heap.size 56 1 (X s) n ((List.range n).map (U s))) ∧ ∀ s i, i < n → w'.ownsRow w0.heap.size 2 1 (U s i) (P s i).length ((P s i).map (Value.int .i64)) :=
  ⟨fun s => own_block (h.oo s) (fun g e => hq g ((h.oo s).lt g e).1), fun s i hi => own_block (h.own s i hi) (fun g e => hq g ((h.own s i hi).lt g e).1)⟩
theorem LiG.sep {w0 wr w' : World} {Fo n : Nat} {U : Bool → Nat → Value} {P : Bool → Nat → List Int} {X : Bool → Value} {g c : Bool → Nat} (h : LiG w0 wr Fo (fun _ => n) U P X) (hq : ∀ q, w0.heap.size ≤ q → w'.heap[q]? = wr.heap[q]?) (hX : ∀ s, X s = .slice (some ⟨g s, 0, none⟩) n (c s)) : LvSep w' w0.heap.size w'.heap.size n g (fun s i => aV (U s i)) (fun s i => cV (U s i)) (fun s i => loV (U s i)) (fun s i => hiV (U s i)) P := by
  obtain ⟨h1, h2⟩ := h.move hq
  have hg : ∀ s, (X s).ownBlock = some (g s) := fun s => by rw [hX s]; rfl
  have hne : ∀ s s' i, i < n → ¬ (loV (U s i) ≤ g s' ∧ g s' < hiV (U s i)) := fun s s' i hi e => by
    have e1 := lohiV.1 e
    rcases own_types (h.own s i hi) (h.oo s') (by decide) with q | q
    · rw [e1] at q; cases q
    · exact q (by rw [e1, hg s'])
  refine ⟨fun s => ⟨fun i hi => ?_, fun i hi => (row_sepV (h2 s i hi)).2.1, fun i hi => (row_sepV (h2 s i hi)).2.2.1, fun i j hi hj hij => djV (h.dj s i s j hi hj (fun e => hij (congrArg Prod.snd e))), fun i hi => hne s s i hi⟩, fun i j hi hj => djV (h.dj false i true j hi hj (fun e => by cases congrArg Prod.fst e)), hne, fun s => ((h1 s).lt _ (hg s)).2, Nat.le_refl _, fun s i q hi q1 q2 => (row_sepV (h2 s i hi)).2.2.2 q (lohiV.1 ⟨q1, q2⟩)⟩
  rw [← (row_sepV (h2 s i hi)).1]
  have h3 := h1 s
  rw [hX s] at h3
  exact own_cell h3 (by simp [hi])
theorem LvSep.keepS {w W : World} {B n : Nat} {g : Bool → Nat} {a : Bool → Nat → Option Addr} {cp lo hi : Bool → Nat → Nat} {Pr : Bool → Nat → List Int} (h : LvSep w B w.heap.size n g a cp lo hi Pr) (hg : ∀ s, B ≤ g s) (k : Same B w.heap.size w W) (hz : w.heap.size ≤ W.heap.size) : LvSep W B w.heap.size n g a cp lo hi Pr :=
  ⟨fun s => (h.sep s).of (fun q hq => by
    rcases hq with rfl | ⟨i, hi', q1, q2⟩
    · exact k _ (hg s) (h.low s)
    · have := h.rng s i q hi' q1 q2
      exact k q this.1 this.2), h.dj, h.out, h.low, hz, h.rng⟩
end Go.Proofs.YtjfcbjomfbfoiaaGreatDoor

namespace Go.Proofs.YtjfcbjomfbfoiaaGreatDoor
open Go.RowKit
def SetA (w : World) (L B : Nat) (l : List (List Int)) (G : Value) : Prop := ∃ a n c, G = .slice a n c ∧ IntssAt w L B a l ∧ n = l.length ∧ n ≤ 5000 ∧ ∀ x ∈ l, x.length ≤ 5000
theorem SetA.keepS {w w' : World} {L B : Nat} {l : List (List Int)} {G : Value} (h : SetA w L B l G) (k : Same L B w w') : SetA w' L B l G := by
  obtain ⟨a, n, c, e, h1, h2⟩ := h
  exact ⟨a, n, c, e, h1.keepS k, h2⟩
theorem SetA.form {w : World} {L B : Nat} {l : List (List Int)} {G : Value} (h : SetA w L B l G) : ∃ a n c, G = .slice a n c := by
  obtain ⟨a, n, c, e, _⟩ := h
  exact ⟨a, n, c, e⟩
theorem eqSetA_yes (l : List (List Int)) (G G' : Value) (L B L' B' : Nat) (w : World) (ha : SetA w L B l G) (hb : SetA w L' B' l G') (hB : B ≤ w.heap.size) (hB' : B' ≤ w.heap.size) :
    Calls Tryz.prog 18 #[G, G'] w fun e w' => e = .returned (.bool true) ∧ Below w.heap.size w w' := by
  obtain ⟨a, n, c, rfl, h1, h2, h3, h4⟩ := ha
  obtain ⟨a', n', c', rfl, k1, k2, _⟩ := hb
  obtain rfl : n = n' := by omega
  exact eqSets_yes a a' n c c' l L B L' B' w (hide h1) (hide k1) (hide h2) h3 (hide h4) hB hB'
/-- The marks of the answer, found again. -/
def MarkS (w : World) (B : Nat) (G : Value) : Prop := ∀ W, Same B w.heap.size w W → w.heap.size ≤ W.heap.size → Calls Tryz.prog 19 #[G, .int .i64 1] W fun e w' => ∃ m : Nat, e = .returned (.int .i64 m) ∧ m ≤ 60000000 ∧ Mod B w.heap.size W w' ∧ W.heap.size ≤ w'.heap.size ∧ (Calls Tryz.prog 20 #[G, .int .i64 1] w' fun e w'' => e = .returned (.int .i64 m) ∧ Below w'.heap.size w' w'')
theorem SetsSep.mark {w : World} {B g n c : Nat} {a : Nat → Option Addr} {cp lo hi : Nat → Nat} {Pr : Nat → List Int} (h : SetsSep w g n a cp lo hi Pr) (hg : 0 < n → B ≤ g ∧ g < w.heap.size) (hr : ∀ i q, i < n → lo i ≤ q → q < hi i → B ≤ q ∧ q < w.heap.size) (hn : n ≤ 5000) (hl : ∀ i, i < n → (Pr i).length ≤ 5000) : MarkS w B (.slice (some ⟨g, 0, none⟩) n c) := fun W hW hz => by
  have hW' : SetsSep W g n a cp lo hi Pr := ⟨fun i hi => (cell_of (hW g (hg (by omega)).1 (hg (by omega)).2)).trans (h.cell i hi), fun i hi => (h.ints i hi).keepS (fun q q1 q2 => hW q (hr i q hi q1 q2).1 (hr i q hi q1 q2).2), fun i hi => (h.thaw i hi).keepS (fun q q1 q2 => hW q (hr i q hi q1 q2).1 (hr i q hi q1 q2).2), h.dj, h.out⟩
  have hp := pc_le hl n (Nat.le_refl _)
  refine (markSets_sep g n c 1 a cp lo hi Pr W (hide hW') hn (hide hl) (by decide) (by decide)).mono ?_
  rintro e w' ⟨rfl, hk⟩
  have hzz := hk.size
  have hgk : 0 < n → w'.heap[g]? = W.heap[g]? := fun _ => hk.block g (fun i hi => h.out i hi)
  refine ⟨1 + pc Pr n, by simp, by omega, ⟨hk.os, hk.tape, hk.output, by omega, fun q q1 q2 => hk.block q (fun i hi e => q2 (hr i q hi e.1 e.2))⟩, by omega, ?_⟩
  refine (heldSets_any g n c 1 a cp lo hi Pr w' (hide (fun i hi => (cell_of (hgk (by omega))).trans (hW'.cell i hi))) (hide hk.done) hn (hide hl) (by decide) (by decide)).mono ?_
  rintro e w'' ⟨rfl, rfl⟩
  exact ⟨by simp, Below.refl _ _⟩
theorem RoS.sep {w : World} {base g m : Nat} {P : Nat → List Int} {U : Nat → Value} (h : RoS w base g m P U) : SetsSep w g m (fun i => aV (U i)) (fun i => cV (U i)) (fun i => loV (U i)) (fun i => hiV (U i)) P := by
  refine ⟨fun i hi => ?_, fun i hi => (row_sepV (h.own i hi)).2.1, fun i hi => (row_sepV (h.own i hi)).2.2.1, fun i j hi hj hij => djV (h.dj i j hi hj hij), fun i hi e => ?_⟩
  · rw [h.row.cell hi]
    exact congrArg some (row_sepV (h.own i hi)).1
  · have e1 := lohiV.1 e
    have := ((h.own i hi).lt g e1).1
    have := h.lt
    omega
theorem RoS.mark {w : World} {B base g m c : Nat} {P : Nat → List Int} {U : Nat → Value} (h : RoS w base g m P U) (hB : B ≤ g) (hm : m ≤ 5000) (hl : ∀ i, i < m → (P i).length ≤ 5000) : MarkS w B (.slice (some ⟨g, 0, none⟩) m c) :=
  h.sep.mark (fun _ => ⟨hB, h.row.lt⟩) (fun i q hi q1 q2 => by have h1 := (h.own i hi).lt q (lohiV.1 ⟨q1, q2⟩); have := h.lt; omega) hm hl
theorem RoS.setA {w : World} {L base g m c : Nat} {P : Nat → List Int} {U : Nat → Value} (h : RoS w base g m P U) (hL : L ≤ g) (hm : m ≤ 5000) (hl : ∀ i, i < m → (P i).length ≤ 5000) : SetA w L w.heap.size ((List.range m).map P) (.slice (some ⟨g, 0, none⟩) m c) :=
  ⟨_, m, c, rfl, h.ints hL, by simp, hm, fun x hx => by
    obtain ⟨i, hi, rfl⟩ := List.mem_map.1 hx
    exact hl i (List.mem_range.1 hi)⟩
theorem setA_nil (w : World) (L B : Nat) (a : Option Addr) (c : Nat) : SetA w L B [] (.slice a 0 c) := ⟨a, 0, c, rfl, fun i hi => absurd hi (by simp), rfl, by decide, fun x hx => absurd hx List.not_mem_nil⟩
theorem markS_empty (w : World) (B g c : Nat) : MarkS w B (.slice (some ⟨g, 0, none⟩) 0 c) :=
  SetsSep.mark (a := fun _ => none) (cp := fun _ => 0) (lo := fun _ => 0) (hi := fun _ => 0) (Pr := fun _ => []) ⟨fun i hi => absurd hi (by omega), fun i hi => absurd hi (by omega), fun i hi => absurd hi (by omega), fun i j hi => absurd hi (by omega), fun i hi => absurd hi (by omega)⟩ (fun h => absurd h (by omega)) (fun i q hi => absurd hi (by omega)) (by decide) (fun i hi => absurd hi (by omega))
end Go.Proofs.YtjfcbjomfbfoiaaGreatDoor
