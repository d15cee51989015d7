import Derived.Test.YtdcdgopblbmgoaaDoorSQ16
/-
  Sequence: the law.
-/
namespace Go.Proofs.YtdcdgopblbmgoaaDoor
open Go.RowKit
attribute [local go_sem ↓] Go.wp_at_zero Go.wp_at_succ

set_option maxHeartbeats 1000000 in
theorem eqMoves_yes (a a' : Option Addr) (n c c' : Nat) (xs : List Mv) (L B L' B' : Nat) (w : World) (ha : Hid (MvsAt w L B a xs)) (hb : Hid (MvsAt w L' B' a' xs)) (hx : Hid (n = xs.length)) (hn : n ≤ 1048576) (hB : B ≤ w.heap.size) (hB' : B' ≤ w.heap.size) :
    Calls Tryd.prog 34 #[.slice a n c, .slice a' n c'] w fun e w' => e = .returned (.bool true) ∧ Below w.heap.size w w' := by
  go_enter Tryd.func34, Tryd.ntmps34
  go_wp2
  go_loopw [5] (fun i wr => ∃ k : Nat, k ≤ n ∧ i = .int .i64 k ∧ Below w.heap.size w wr) (fun i _ => n - (intOf i).toNat)
  case atStart => exact ⟨0, Nat.zero_le _, rfl, Below.refl _ _⟩
  case round =>
    obtain ⟨k, hk, rfl, hw⟩ := hrel
    by_cases hlt : k < n
    · have hkx : k < xs.length := by have := hx.out; omega
      obtain ⟨b, o, rfl, ⟨_, hbB⟩, c0, c1⟩ := ha.out k hkx
      obtain ⟨b', o', rfl, ⟨_, hbB'⟩, d0, d1⟩ := hb.out k hkx
      have hk0 : (0 : Int) ≤ (k : Int) := by omega
      have hk1 : (k : Int) < (n : Int) := by omega
      have e0 := (hw.cell (p := ⟨b, o + k * 2, none⟩) (by show b < _; omega)).trans c0
      have e1 := (hw.cell (p := ⟨b, o + k * 2 + 1, none⟩) (by show b < _; omega)).trans c1
      have f0 := (hw.cell (p := ⟨b', o' + k * 2, none⟩) (by show b' < _; omega)).trans d0
      have f1 := (hw.cell (p := ⟨b', o' + k * 2 + 1, none⟩) (by show b' < _; omega)).trans d1
      clear c0 c1 d0 d1
      generalize xs[k] = X at *
      go_wp2
      go_region_with (go_at_call 85; refine (eqMove_yes _ _ _).mono ?_; rintro e w1 ⟨rfl, hb1⟩)
      all_goals
        go_wp2
        exact ⟨⟨k + 1, by omega, by go_num, bnext hw.drew hb1⟩, by simp [intOf]; omega⟩
    · go_wp2
      go_ret
      exact ⟨rfl, hw⟩
set_option maxHeartbeats 1000000 in
theorem markMoves_any (a : Option Addr) (n c : Nat) (k : Int) (xs : List Mv) (L B : Nat) (w : World) (ha : Hid (MvsAt w L B a xs)) (hx : Hid (n = xs.length)) (ht : Hid (ThawB L B w)) (hn : n ≤ 1048576) (h0 : 0 ≤ k) (h1 : k ≤ 1000000000) :
    Calls Tryd.prog 35 #[.slice a n c, .int .i64 k] w fun e w' => e = .returned (.int .i64 (k + 2 * n)) ∧ IW L B w w' := by
  go_enter Tryd.func35, Tryd.ntmps35
  go_wp2
  go_loopw [1, 5] (fun u i wr => ∃ j : Nat, j ≤ n ∧ i = .int .i64 j ∧ u = .int .i64 (k + 2 * j) ∧ Hid (IW L B w wr)) (fun _ i _ => n - (intOf i).toNat)
  case atStart => exact ⟨0, Nat.zero_le _, rfl, by simp, IW.refl _ _ _⟩
  case round =>
    obtain ⟨j, hj, rfl, rfl, hw⟩ := hrel
    by_cases hlt : j < n
    · have hjx : j < xs.length := by have := hx.out; omega
      obtain ⟨b, o, rfl, hbB, c0, c1⟩ := ha.out j hjx
      obtain ⟨u0, e0⟩ := hw.out.int c0
      obtain ⟨u1, e1⟩ := hw.out.int c1
      have ft := hw.out.thawB ht.out
      have f0 := ft b (o + j * 2) hbB
      have f1 := ft b (o + j * 2 + 1) hbB
      clear c0 c1 ft
      go_wp2
      exact ⟨⟨j + 1, by omega, by go_num, by go_num, IW.set (IW.set hw.out hbB e0 _) hbB (u := u1) (by rw [oth _ _ (by omega)]; exact e1) _⟩, by simp [intOf]; omega⟩
    · have hjn : j = n := by omega
      subst hjn
      go_wp2
      go_ret
      exact ⟨rfl, hw.out⟩
end Go.Proofs.YtdcdgopblbmgoaaDoor
