import Derived.Test.YtdcdgopblbmgoaaDoorVals
import Derived.Test.YtdcdgopblbmgoaaDoorMark
/-
  The law's own words on rows of bytes: equal, marked, held.
-/
namespace Go.Proofs.YtdcdgopblbmgoaaDoor
open Go.RowKit

set_option maxHeartbeats 400000 in
theorem eqBytes_yes (a a' : Option Addr) (n c c' : Nat) (xs : List UInt8) (L B L' B' : Nat) (w : World) (ha : Hid (BytesAt w L B a xs)) (hb : Hid (BytesAt w L' B' a' xs)) (hx : Hid (n = xs.length)) (hn : n ≤ 1000000000) (hB : B ≤ w.heap.size) (hB' : B' ≤ w.heap.size) :
    Calls Tryd.prog 17 #[.slice a n c, .slice a' n c'] w fun e w' => e = .returned (.bool true) ∧ Below w.heap.size w w' := by
  go_enter Tryd.func17, Tryd.ntmps17
  go_wp2
  go_loopw [5] (fun i wr => ∃ k : Nat, k ≤ n ∧ i = .int .i64 k ∧ Below w.heap.size w wr) (fun i _ => n - (intOf i).toNat)
  case atStart => exact ⟨0, Nat.zero_le _, rfl, Below.refl _ _⟩
  case round =>
    obtain ⟨k, hk, rfl, hw⟩ := hrel
    by_cases hlt : k < n
    · have hkx : k < xs.length := by have := hx.out; omega
      obtain ⟨b, o, rfl, ⟨_, hbB⟩, hc⟩ := ha.out k hkx
      obtain ⟨b', o', rfl, ⟨_, hbB'⟩, hc'⟩ := hb.out k hkx
      have hk0 : (0 : Int) ≤ (k : Int) := by omega
      have hk1 : (k : Int) < (n : Int) := by omega
      have e1 := (hw.cell (p := ⟨b, o + k, none⟩) (by show b < _; omega)).trans hc
      have e2 := (hw.cell (p := ⟨b', o' + k, none⟩) (by show b' < _; omega)).trans hc'
      clear hc hc'
      generalize (xs[k].toNat : Int) = Z at *
      go_wp2
      go_region
      go_wp2
      exact ⟨⟨k + 1, by omega, by go_num, hw.drew⟩, by simp [intOf]; omega⟩
    · go_wp2
      go_ret
      exact ⟨rfl, hw⟩

/-- What a marking from k on lays. -/
def ByteMarks (w : World) (L B : Nat) (a : Option Addr) (k : Int) (n : Nat) : Prop := ∀ q, q < n → ∃ b o, a = some ⟨b, o, none⟩ ∧ (L ≤ b ∧ b < B) ∧ w.cell? ⟨b, o + q, none⟩ = some (.int .u8 ((k + (q : Nat)) % 256))

set_option maxHeartbeats 1000000 in
theorem markBytes_any (a : Option Addr) (n c : Nat) (k : Int) (xs : List UInt8) (L B : Nat) (w : World) (ha : Hid (BytesAt w L B a xs)) (hx : Hid (n = xs.length)) (ht : Hid (ThawB L B w)) (hn : n ≤ 1000000000) (h0 : 0 ≤ k) (h1 : k ≤ 1000000000) :
    Calls Tryd.prog 19 #[.slice a n c, .int .i64 k] w fun e w' => e = .returned (.int .i64 (k + n)) ∧ Mod L B w w' ∧ ByteMarks w' L B a k n := by
  go_enter Tryd.func19, Tryd.ntmps19
  go_wp2
  go_loopw [1, 5] (fun u i wr => ∃ j : Nat, j ≤ n ∧ i = .int .i64 j ∧ u = .int .i64 (k + j) ∧ Hid (Mod L B w wr) ∧ Hid (ThawB L B wr) ∧ Hid (∀ q, q < n → ∃ b o v, a = some ⟨b, o, none⟩ ∧ (L ≤ b ∧ b < B) ∧ wr.cell? ⟨b, o + q, none⟩ = some (.int .u8 v)) ∧ Hid (ByteMarks wr L B a k j)) (fun _ i _ => n - (intOf i).toNat)
  case atStart =>
    refine ⟨0, Nat.zero_le _, rfl, by simp, hide (Mod.of_below (Below.refl _ _)), ht, hide (fun q hq => ?_), hide (fun q hq => absurd hq (by omega))⟩
    obtain ⟨b, o, e, hb, hc⟩ := ha.out q (by have := hx.out; omega)
    exact ⟨b, o, _, e, hb, hc⟩
  case round =>
    obtain ⟨j, hj, rfl, rfl, HM, HT, HC, HQ⟩ := hrel
    by_cases hlt : j < n
    · obtain ⟨b, o, v, rfl, hbB, hc⟩ := HC.out j hlt
      have hf := HT.out b (o + j) hbB
      go_wp2
      refine ⟨⟨j + 1, by omega, by go_num, by go_num, hide (HM.out.trans ⟨rfl, rfl, rfl, by simp [World.setCell], fun q _ hq => Below.heap_setCell _ _ _ _ (by dsimp only; omega)⟩), hide (HT.out.setCell _ _), hide (fun q hq => ?_), hide (fun q hq => ?_)⟩, by simp [intOf]; omega⟩
      · by_cases e : q = j
        · subst e
          exact ⟨b, o, _, rfl, hbB, World.cell?_setCell_same _ _ _ hc⟩
        · obtain ⟨b', o', v', e', hb', hc'⟩ := HC.out q hq
          cases e'
          exact ⟨b, o, v', rfl, hbB, by rw [World.cell?_setCell_other _ _ _ _ (by intro h; injection h with _ h2; omega)]; exact hc'⟩
      · by_cases e : q = j
        · subst e
          exact ⟨b, o, rfl, hbB, World.cell?_setCell_same _ _ _ hc⟩
        · obtain ⟨b', o', e', hb', hc'⟩ := HQ.out q (by omega)
          cases e'
          exact ⟨b, o, rfl, hbB, by rw [World.cell?_setCell_other _ _ _ _ (by intro h; injection h with _ h2; omega)]; exact hc'⟩
    · have hjn : j = n := by omega
      subst hjn
      go_wp2
      go_ret
      exact ⟨rfl, HM.out, HQ.out⟩
end Go.Proofs.YtdcdgopblbmgoaaDoor

/-
  The law's own words on rows of bytes: held.
-/
namespace Go.Proofs.YtdcdgopblbmgoaaDoor
open Go.RowKit

set_option maxHeartbeats 400000 in
theorem heldBytes_any (a : Option Addr) (n c : Nat) (k : Int) (L B : Nat) (w : World) (ha : Hid (ByteMarks w L B a k n)) (hn : n ≤ 1000000000) (h0 : 0 ≤ k) (h1 : k ≤ 1000000000) :
    Calls Tryd.prog 20 #[.slice a n c, .int .i64 k] w fun e w' => e = .returned (.int .i64 (k + n)) ∧ w' = w := by
  go_enter Tryd.func20, Tryd.ntmps20
  go_wp2
  go_loop [1, 5] (fun u i => ∃ j : Nat, j ≤ n ∧ i = .int .i64 j ∧ u = .int .i64 (k + j)) (fun _ i => n - (intOf i).toNat)
  case atStart => exact ⟨0, Nat.zero_le _, rfl, by simp⟩
  case round =>
    obtain ⟨j, hj, rfl, rfl⟩ := hrel
    by_cases hlt : j < n
    · obtain ⟨b, o, rfl, hbB, hc⟩ := ha.out j hlt
      go_wp2
      go_round
      case rel => exact ⟨j + 1, by omega, by go_num, by go_num⟩
      case measure => simp [intOf]; omega
    · have hjn : j = n := by omega
      subst hjn
      go_wp2
      go_ret
      exact ⟨rfl, rfl⟩
end Go.Proofs.YtdcdgopblbmgoaaDoor
