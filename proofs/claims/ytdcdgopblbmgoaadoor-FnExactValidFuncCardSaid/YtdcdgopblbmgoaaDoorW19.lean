import Derived.Test.YtdcdgopblbmgoaaDoorW18b
import Derived.Deep.RegionWith
import Derived.Deep.DrawnRows
import Derived.Test.YtdcdgopblbmgoaaDoorPure2
import Derived.Test.YtdcdgopblbmgoaaDoorOwn
import Derived.ProofKit
import Derived.Deep.Slices
import Derived.Lib.SmallJoins
namespace Go.Proofs.YtdcdgopblbmgoaaDoor
open Go.RowKit
attribute [local go_sem ↓] Go.wp_at_zero Go.wp_at_succ

set_option maxRecDepth 100000 in
set_option maxHeartbeats 4000000 in
theorem law_any (v : Int) (a : Option Addr) (n c : Nat) (xs : List Blk) (w : World) (ha : Hid (BlksAt w 0 w.heap.size a xs)) (hx : Hid (n = xs.length)) (hn : n ≤ 9223372036854775807) (hs : Hid (LenOk xs)) (hO : Hid (OpTab w)) (hT : Hid (TerTab w)) :
    Calls Tryd.prog 3 #[.agg #[.int .i64 v, .slice a n c]] w fun e w' => e = .returned (.bool true) ∧ Below w.heap.size w w' := by
  by_cases hbig : (1048576 : Int) < (n + blksTot xs : Nat)
  · have hz := szR_neg hbig
    go_enter Tryd.func3, Tryd.ntmps3
    go_wp2_with (go_at_call 10; refine (szFunc_any _ _ _ _ _ xs 0 w.heap.size _ (ha.out.keep (balloc (Below.refl _ _) _)) hx hn hs (by omega) (by omega) (by simp)).mono ?_; rintro e w1 ⟨rfl, hb1⟩)
    go_ret
    exact ⟨rfl, bnext (balloc (Below.refl _ _) _) hb1⟩
  · have hz : szR 1048576 (n + blksTot xs) = 1048576 - (n + blksTot xs : Nat) := szR_pos (by omega)
    have hnn : n ≤ 1048576 := by omega
    have htot : Hid (xs.length + blksTot xs ≤ 1048576) := by have := hx.out; show _ ≤ _; omega
    have hlen := hide (len_of_tot htot.out)
    have hnon : (0 : Int) ≤ 1048576 - (n + blksTot xs : Nat) := by omega
    generalize hN : n + blksTot xs = N at *
    have HN := hide hN
    clear hN hbig
    go_enter Tryd.func3, Tryd.ntmps3
    go_wp2_with fail
    refine (szFunc_any _ _ _ _ _ xs 0 w.heap.size _ ?q1 hx hn hs (by omega) (by omega) (by simp)).mono ?_
    case q1 => exact ha.out.keep (balloc (Below.refl _ _) _)
    rintro e w1 ⟨rfl, hb1⟩
    rw [unhide HN, hz]
    obtain ⟨hc1, hf1⟩ := bcell hb1
    have k0 : w1.cell? ⟨w.heap.size, 0, none⟩ = some (.int .i64 v) := by rw [hc1 _ _ (by simp)]; simp
    have k1 : w1.cell? ⟨w.heap.size, 1, none⟩ = some (.slice a n c) := by rw [hc1 _ _ (by simp)]; simp
    have B1 := bnext (balloc (Below.refl w.heap.size w) _) hb1
    have hz1 := hb1.size
    simp at hz1
    have HA := hide (ha.out.keep B1)
    have HB1 := hide B1
    clear hc1 hf1 hb1 B1 hz
    go_wp2_with fail
    refine (toFunc_any v a n c xs 0 w.heap.size _ HA hx hlen hnn (by omega)).mono ?_
    rintro e w2 ⟨a2, c2, rfl, hb2, hi2, _⟩
    have HI2 := hide hi2
    have k0' := (hb2.cell (p := ⟨w.heap.size, 0, none⟩) (by show w.heap.size < _; omega)).trans k0
    have k1' := (hb2.cell (p := ⟨w.heap.size, 1, none⟩) (by show w.heap.size < _; omega)).trans k1
    have hz2 := hb2.size
    have HB2 := hide (bnext HB1.out hb2)
    clear hi2 hb2 k0 k1 HA
    go_wp2_with fail
    refine (validFuncS_any v a2 n c2 xs w1.heap.size w2.heap.size _ HI2 hx htot (Nat.le_refl _)).mono ?_
    rintro e w3 ⟨rfl, hb3⟩
    generalize hr : validS ⟨v, xs⟩ = r at *
    have HRR := hide hr
    have q0 := (hb3.cell (p := ⟨w.heap.size, 0, none⟩) (by show w.heap.size < _; omega)).trans k0'
    have q1 := (hb3.cell (p := ⟨w.heap.size, 1, none⟩) (by show w.heap.size < _; omega)).trans k1'
    have hz3 := hb3.size
    have HB3 := hide (bnext HB2.out hb3)
    clear hb3 k0' k1' hr HI2
    go_wp2_with fail
    refine (toFunc_any v a n c xs 0 w.heap.size _ (ha.out.keep HB3.out) hx hlen hnn (by omega)).mono ?_
    rintro e w4 ⟨a4, c4, rfl, hb4, hi4, _⟩
    have HI4 := hide hi4
    have x0 := (hb4.cell (p := ⟨w.heap.size, 0, none⟩) (by show w.heap.size < _; omega)).trans q0
    have x1 := (hb4.cell (p := ⟨w.heap.size, 1, none⟩) (by show w.heap.size < _; omega)).trans q1
    have hz4 := hb4.size
    have HB4 := hide (bnext HB3.out hb4)
    clear hi4 hb4 q0 q1
    go_wp2_with fail
    refine (validFuncI_any v a4 n c4 xs w3.heap.size w4.heap.size _ ?p1 hx htot ?p2 ?p3 ?p4).mono ?_
    case p1 => exact HI4.out.keep (balloc (Below.refl _ _) _)
    case p2 => simp
    case p3 => exact hO.out.keep (balloc HB4.out _)
    case p4 => exact hT.out.keep (balloc HB4.out _)
    rintro e w5 ⟨rfl, hb5⟩
    rw [valid_same, unhide HRR]
    obtain ⟨hc5, hf5⟩ := bcell hb5
    have z0 : w5.cell? ⟨w4.heap.size, 0, none⟩ = some (.int .i64 v) := by rw [hc5 _ _ (by simp)]; simp
    have z1 : w5.cell? ⟨w4.heap.size, 1, none⟩ = some (.slice a4 n c4) := by rw [hc5 _ _ (by simp)]; simp
    have b5 := bnext (balloc (Below.refl w4.heap.size w4) _) hb5
    have y0 := (b5.cell (p := ⟨w.heap.size, 0, none⟩) (by show w.heap.size < _; omega)).trans x0
    have y1 := (b5.cell (p := ⟨w.heap.size, 1, none⟩) (by show w.heap.size < _; omega)).trans x1
    have hz5 := hb5.size
    simp at hz5
    have HB5 := hide (bnext HB4.out b5)
    have HI5 := hide (HI4.out.keep b5)
    clear hc5 hf5 hb5 x0 x1 b5 HI4
    have hrr : (r != r) = false := by simp
    go_wp2
    go_region_with (first | (go_at_call 12; refine (toFunc_any v a n c xs 0 w.heap.size _ (ha.out.keep HB5.out.drew) hx hlen hnn (by show w.heap.size ≤ w5.heap.size; omega)).mono ?_; rintro e w6 ⟨a6, c6, rfl, hb6, hi6, ht6⟩; clear ht6; have HI6 := hide hi6; clear hi6; have t0 := (hb6.cell (p := ⟨w4.heap.size, 0, none⟩) (by show w4.heap.size < w5.heap.size; omega)).trans z0; have t1 := (hb6.cell (p := ⟨w4.heap.size, 1, none⟩) (by show w4.heap.size < w5.heap.size; omega)).trans z1) | (go_at_call 14; refine (eqFunc_yes v _ _ _ _ _ xs w3.heap.size w4.heap.size w5.heap.size w6.heap.size _ (HI5.out.keep ((Below.refl w4.heap.size w5).drew.trans (hb6.mono (by show w4.heap.size ≤ w5.heap.size; omega)))) HI6 hx hlen hnn (by have := hb6.size; have : w5.heap.size ≤ w6.heap.size := this; omega) (Nat.le_refl _)).mono ?_; rintro e w7 ⟨rfl, hb7⟩))
    all_goals
      go_wp2
      go_ret
      exact ⟨rfl, bnext (bnext HB5.out.drew hb6) hb7⟩
end Go.Proofs.YtdcdgopblbmgoaaDoor

/-
  From what a reading of the argument says to how the function lies in memory.
-/
namespace Go.Proofs.YtdcdgopblbmgoaaDoor
open Go.RowKit Go.Deep

variable {H : Type} {enc : TypeId × Value → H} {P : Program} {w : World} {base : Nat} {spare : Nat → Bool} {held : Bool}

theorem block_of_cell {a : Addr} {v : Value} (h : w.cell? a = some v) : a.block < w.heap.size := by
  unfold World.cell? at h
  split at h
  · rename_i c _ _ hb
    exact (Array.getElem?_eq_some_iff.1 hb).1
  · cases h

theorem read_slice {α : Type} [Inhabited α] {t e : TypeId} {fuel s : Nat} {cs : List Value} {x : DataW H × List MemPlace} (ht : P.underlying t = some (.slice e)) (hs : P.cellsOf e = s) (hs0 : 0 < s) (Q : Nat → Nat → α → Prop)
    (hQ : ∀ b o cs' n d, (∀ j, j < s → w.cell? ⟨b, o + j, none⟩ = cs'[j]?) → cs'.length = s → DataW.trod enc P w base spare held n e cs' = some d → ∃ x, Q b o x)
    (h : DataW.trod enc P w base spare held fuel t cs = some x) :
    ∃ (a : Option Addr) (xs : List α) (c : Nat), cs = [.slice a xs.length c] ∧ xs.length ≤ maxLen ∧ ∀ i (hi : i < xs.length), ∃ b o, a = some ⟨b, o, none⟩ ∧ b < w.heap.size ∧ Q b (o + i * s) xs[i] := by
  rcases open_slice ht h with ⟨rfl, _⟩ | ⟨a, len, cap, m, n, D, Pl, rfl, _, hl, hm, hmm, _, hx⟩
  · exact ⟨none, [], 0, rfl, Nat.zero_le _, fun i hi => absurd hi (by simp)⟩
  rw [hs] at hx
  have hlm : len ≤ m := by rw [hmm]; split <;> omega
  have cellsOf : ∀ i, i < len → ∃ cs', cs'.length = s ∧ (∀ j, j < s → w.cell? ((a.add (i * s)).add j) = cs'[j]?) ∧ DataW.trod enc P w base spare held n e cs' = some (D i, Pl i) := fun i hi => by
    obtain ⟨cs', h1, h2⟩ := hx i (by omega)
    obtain ⟨_, h3, h4⟩ := World.cells?_some h1
    exact ⟨cs', h3, h4, h2⟩
  obtain ⟨b, o, spot⟩ := a
  by_cases hlen : len = 0
  · subst hlen
    exact ⟨some ⟨b, o, spot⟩, [], cap, rfl, Nat.zero_le _, fun i hi => absurd hi (by simp)⟩
  have hspot : spot = none := by
    obtain ⟨cs', h1, h2, _⟩ := cellsOf 0 (by omega)
    have h3 := h2 0 hs0
    rw [List.getElem?_eq_getElem (by omega)] at h3
    simpa [Addr.add] using World.cell?_spot h3
  subst hspot
  obtain ⟨f, hf⟩ := choose_lt (α := α) (n := len) (p := fun i x => b < w.heap.size ∧ Q b (o + i * s) x) (fun i hi => by
    obtain ⟨cs', h1, h2, h3⟩ := cellsOf i hi
    have h4 : ∀ j, j < s → w.cell? ⟨b, o + i * s + j, none⟩ = cs'[j]? := fun j hj => by
      have := h2 j hj
      rw [Addr.add_mid, Addr.add_mid] at this
      exact this
    obtain ⟨x, hx⟩ := hQ b (o + i * s) cs' n _ h4 h1 h3
    have h5 := h4 0 hs0
    rw [List.getElem?_eq_getElem (by omega)] at h5
    exact ⟨x, block_of_cell h5, hx⟩)
  refine ⟨some ⟨b, o, none⟩, (List.range len).map f, cap, by simp, by simp; omega, fun i hi => ?_⟩
  simp only [List.length_map, List.length_range] at hi
  obtain ⟨h1, h2⟩ := hf i hi
  exact ⟨b, o, rfl, h1, by simpa using h2⟩
end Go.Proofs.YtdcdgopblbmgoaaDoor
