import Derived.Test.YtdcdgopblbmgoaaDoorW1
import Derived.Test.YtdcdgopblbmgoaaDoorIw
namespace Go.Proofs.YtdcdgopblbmgoaaDoor
open Go.RowKit

theorem oth (w : World) (b : Nat) {o o' : Nat} (h : o ≠ o') (v : Value) : (w.setCell ⟨b, o, none⟩ v).cell? ⟨b, o', none⟩ = w.cell? ⟨b, o', none⟩ := World.cell?_setCell_other _ _ _ _ (by intro e; injection e with _ e2; exact h e2)
/-- Four and five numbers in a row turned. -/
theorem IW.set4 {L B : Nat} {w wr : World} (h : IW L B w wr) {b o : Nat} (hb : L ≤ b ∧ b < B) {u0 u1 u2 u3 : Int} (e0 : wr.cell? ⟨b, o, none⟩ = some (.int .i64 u0)) (e1 : wr.cell? ⟨b, o + 1, none⟩ = some (.int .i64 u1)) (e2 : wr.cell? ⟨b, o + 2, none⟩ = some (.int .i64 u2)) (e3 : wr.cell? ⟨b, o + 3, none⟩ = some (.int .i64 u3)) (v0 v1 v2 v3 : Int) :
    IW L B w ((((wr.setCell ⟨b, o, none⟩ (.int .i64 v0)).setCell ⟨b, o + 1, none⟩ (.int .i64 v1)).setCell ⟨b, o + 2, none⟩ (.int .i64 v2)).setCell ⟨b, o + 3, none⟩ (.int .i64 v3)) := by
  refine IW.set (IW.set (IW.set (IW.set h hb e0 v0) hb (u := u1) ?_ v1) hb (u := u2) ?_ v2) hb (u := u3) ?_ v3
  · rw [oth _ _ (by omega)]; exact e1
  · rw [oth _ _ (by omega), oth _ _ (by omega)]; exact e2
  · rw [oth _ _ (by omega), oth _ _ (by omega), oth _ _ (by omega)]; exact e3
theorem IW.set5 {L B : Nat} {w wr : World} (h : IW L B w wr) {b o : Nat} (hb : L ≤ b ∧ b < B) {u0 u1 u2 u3 u4 : Int} (e0 : wr.cell? ⟨b, o, none⟩ = some (.int .i64 u0)) (e1 : wr.cell? ⟨b, o + 1, none⟩ = some (.int .i64 u1)) (e2 : wr.cell? ⟨b, o + 2, none⟩ = some (.int .i64 u2)) (e3 : wr.cell? ⟨b, o + 3, none⟩ = some (.int .i64 u3)) (e4 : wr.cell? ⟨b, o + 4, none⟩ = some (.int .i64 u4)) (v0 v1 v2 v3 v4 : Int) :
    IW L B w (((((wr.setCell ⟨b, o, none⟩ (.int .i64 v0)).setCell ⟨b, o + 1, none⟩ (.int .i64 v1)).setCell ⟨b, o + 2, none⟩ (.int .i64 v2)).setCell ⟨b, o + 3, none⟩ (.int .i64 v3)).setCell ⟨b, o + 4, none⟩ (.int .i64 v4)) := by
  refine IW.set (h.set4 hb e0 e1 e2 e3 v0 v1 v2 v3) hb (u := u4) ?_ v4
  rw [oth _ _ (by omega), oth _ _ (by omega), oth _ _ (by omega), oth _ _ (by omega)]; exact e4

/-- The numbers that a marking from k on lays. -/
def marks (k : Int) (n : Nat) : List Int := (List.range n).map fun i => k + (i : Nat)
theorem marks_len (k : Int) (n : Nat) : (marks k n).length = n := by simp [marks]
theorem marks_get (k : Int) (n i : Nat) (h : i < (marks k n).length) : (marks k n)[i] = k + (i : Nat) := by simp [marks]

set_option maxHeartbeats 400000 in
theorem markInts_any (a : Option Addr) (n c : Nat) (k : Int) (xs : List Int) (L B : Nat) (w : World) (ha : Hid (IntsAt w L B a xs)) (hx : Hid (n = xs.length)) (ht : Hid (ThawB L B w)) (hn : n ≤ 1048576) (h0 : 0 ≤ k) (h1 : k ≤ 1000000000) :
    Calls Tryd.prog 26 #[.slice a n c, .int .i64 k] w fun e w' => e = .returned (.int .i64 (k + n)) ∧ IW L B w w' ∧ IntsAt w' L B a (marks k n) := by
  go_enter Tryd.func26, Tryd.ntmps26
  go_wp2
  go_loopw [1, 5] (fun u i wr => ∃ j : Nat, j ≤ n ∧ i = .int .i64 j ∧ u = .int .i64 (k + j) ∧ Hid (IW L B w wr) ∧ Hid (∀ q, q < j → ∃ b o, a = some ⟨b, o, none⟩ ∧ (L ≤ b ∧ b < B) ∧ wr.cell? ⟨b, o + q, none⟩ = some (.int .i64 (k + (q : Nat))))) (fun _ i _ => n - (intOf i).toNat)
  case atStart => exact ⟨0, Nat.zero_le _, rfl, by simp, IW.refl _ _ _, fun q hq => absurd hq (by omega)⟩
  case round =>
    obtain ⟨j, hj, rfl, rfl, hw, hq⟩ := hrel
    by_cases hlt : j < n
    · have hjx : j < xs.length := by have := hx.out; omega
      obtain ⟨b, o, rfl, hbB, hc⟩ := ha.out j hjx
      obtain ⟨u, e1⟩ := hw.out.int hc
      have e2 := hw.out.thawB ht.out b (o + j) hbB
      clear hc
      go_wp2
      refine ⟨⟨j + 1, by omega, by go_num, by go_num, hw.out.set hbB e1 _, fun q hqj => ?_⟩, by simp [intOf]; omega⟩
      by_cases e : q = j
      · subst e
        exact ⟨b, o, rfl, hbB, World.cell?_setCell_same _ _ _ e1⟩
      · obtain ⟨b', o', e', hb', hc'⟩ := hq.out q (by omega)
        cases e'
        exact ⟨b, o, rfl, hbB, by rw [World.cell?_setCell_other _ _ _ _ (by intro h; injection h with _ h2; omega)]; exact hc'⟩
    · have hjn : j = n := by omega
      subst hjn
      go_wp2
      go_ret
      refine ⟨rfl, hw.out, fun i hi => ?_⟩
      rw [marks_get]
      rw [marks_len] at hi
      exact hq.out i hi

set_option maxHeartbeats 400000 in
theorem heldInts_any (a : Option Addr) (n c : Nat) (k : Int) (L B : Nat) (w : World) (ha : Hid (IntsAt w L B a (marks k n))) (hn : n ≤ 1048576) (h0 : 0 ≤ k) (h1 : k ≤ 1000000000) :
    Calls Tryd.prog 77 #[.slice a n c, .int .i64 k] w fun e w' => e = .returned (.int .i64 (k + n)) ∧ w' = w := by
  go_enter Tryd.func77, Tryd.ntmps77
  go_wp2
  go_loop [1, 5] (fun u i => ∃ j : Nat, j ≤ n ∧ i = .int .i64 j ∧ u = .int .i64 (k + j)) (fun _ i => n - (intOf i).toNat)
  case atStart => exact ⟨0, Nat.zero_le _, rfl, by simp⟩
  case round =>
    obtain ⟨j, hj, rfl, rfl⟩ := hrel
    by_cases hlt : j < n
    · obtain ⟨b, o, rfl, hbB, hc⟩ := ha.out j (by rw [marks_len]; exact hlt)
      rw [marks_get] at hc
      go_wp2
      go_round
      case rel => exact ⟨j + 1, by omega, by go_num, by go_num⟩
      case measure => simp [intOf]; omega
    · have hjn : j = n := by omega
      subst hjn
      go_wp2
      go_ret
      exact ⟨rfl, rfl⟩

set_option maxHeartbeats 1000000 in
theorem markInstrs_any (a : Option Addr) (n c : Nat) (k : Int) (xs : List Ins) (L B : Nat) (w : World) (ha : Hid (InssAt w L B a xs)) (hx : Hid (n = xs.length)) (ht : Hid (ThawB L B w)) (hn : n ≤ 1048576) (h0 : 0 ≤ k) (h1 : k ≤ 1000000000) :
    Calls Tryd.prog 36 #[.slice a n c, .int .i64 k] w fun e w' => e = .returned (.int .i64 (k + 5 * n)) ∧ IW L B w w' := by
  go_enter Tryd.func36, Tryd.ntmps36
  go_wp2
  go_loopw [1, 5] (fun u i wr => ∃ j : Nat, j ≤ n ∧ i = .int .i64 j ∧ u = .int .i64 (k + 5 * j) ∧ Hid (IW L B w wr)) (fun _ i _ => n - (intOf i).toNat)
  case atStart => exact ⟨0, Nat.zero_le _, rfl, by simp, IW.refl _ _ _⟩
  case round =>
    obtain ⟨j, hj, rfl, rfl, hw⟩ := hrel
    by_cases hlt : j < n
    · have hjx : j < xs.length := by have := hx.out; omega
      obtain ⟨b, o, rfl, hbB, hc⟩ := ha.out j hjx
      obtain ⟨⟨u0, u1, u2, u3, u4⟩, e0, e1, e2, e3, e4⟩ := hc.iw hw.out
      dsimp only at e0 e1 e2 e3 e4
      have ft := hw.out.thawB ht.out
      have f0 := ft b (o + j * 5) hbB
      have f1 := ft b (o + j * 5 + 1) hbB
      have f2 := ft b (o + j * 5 + 2) hbB
      have f3 := ft b (o + j * 5 + 3) hbB
      have f4 := ft b (o + j * 5 + 4) hbB
      clear hc ft
      go_wp2
      exact ⟨⟨j + 1, by omega, by go_num, by go_num, hw.out.set5 hbB e0 e1 e2 e3 e4 _ _ _ _ _⟩, by simp [intOf]; omega⟩
    · have hjn : j = n := by omega
      subst hjn
      go_wp2
      go_ret
      exact ⟨rfl, hw.out⟩

/-- How many numbers of phis a marking lays. -/
def phCnt (ls : List Nat) : Nat := (ls.map (· + 1)).sum
theorem phCnt_snoc (ls : List Nat) (l : Nat) : phCnt (ls ++ [l]) = phCnt ls + (l + 1) := by simp [phCnt]
theorem phCnt_take (ls : List Nat) (k : Nat) : phCnt (ls.take k) ≤ phCnt ls := sum_take_le _ _ _

set_option maxHeartbeats 1000000 in
theorem markPhis_any (a : Option Addr) (n c : Nat) (k : Int) (xs : List Ph) (L B : Nat) (w : World) (ha : Hid (PhsAt w L B a xs)) (hx : Hid (n = xs.length)) (ht : Hid (ThawB L B w)) (hl : Hid (∀ p ∈ xs, p.args.length ≤ 1048576)) (hn : n ≤ 1048576) (h0 : 0 ≤ k) (h1 : k ≤ 100000000) (h2 : phCnt (xs.map fun p => p.args.length) ≤ 100000000) :
    Calls Tryd.prog 110 #[.slice a n c, .int .i64 k] w fun e w' => e = .returned (.int .i64 (k + phCnt (xs.map fun p => p.args.length))) ∧ IW L B w w' := by
  go_enter Tryd.func110, Tryd.ntmps110
  go_wp2
  go_loopw [1, 5] (fun u i wr => ∃ j : Nat, j ≤ n ∧ i = .int .i64 j ∧ u = .int .i64 (k + (phCnt ((xs.take j).map fun p => p.args.length) : Nat)) ∧ Hid (IW L B w wr)) (fun _ i _ => n - (intOf i).toNat)
  case atStart => exact ⟨0, Nat.zero_le _, rfl, by simp [phCnt], IW.refl _ _ _⟩
  case round =>
    obtain ⟨j, hj, rfl, rfl, hw⟩ := hrel
    by_cases hlt : j < n
    · have hjx : j < xs.length := by have := hx.out; omega
      obtain ⟨b, o, rfl, hbB, hc⟩ := ha.out j hjx
      obtain ⟨⟨d, ys⟩, hyl, aa, cc, e0, e1, hi⟩ := hc.iw hw.out
      dsimp only at e0 e1 hi hyl
      rw [hyl] at e1
      have hal := hl.out _ (List.getElem_mem hjx)
      have ft := hw.out.thawB ht.out
      have f0 := ft b (o + j * 2) hbB
      have hS : Hid (phCnt ((xs.take (j + 1)).map fun p => p.args.length) = phCnt ((xs.take j).map fun p => p.args.length) + (xs[j].args.length + 1)) := by show _ = _; rw [take_next _ _ hjx, List.map_append, List.map_cons, List.map_nil, phCnt_snoc]
      have hb2 : phCnt ((xs.take j).map fun p => p.args.length) + (xs[j].args.length + 1) ≤ 100000000 := by
        have h3 := hS.out
        have h4 := phCnt_take (xs.map fun p => p.args.length) (j + 1)
        rw [← List.map_take] at h4
        omega
      have FT := hide ft
      have HI := hide hi
      have E1 := hide e1
      clear hc ft hi
      generalize phCnt ((xs.take j).map fun p => p.args.length) = S at *
      generalize xs[j].args.length = m at *
      go_wp2_with fail
      have hw2 := hw.out.set hbB e0 (k + S)
      have hi2 := HI.out.iw (L' := L) (B' := B) ((IW.refl L B wr).set hbB e0 (k + S))
      obtain ⟨zs, hzl, hz⟩ := hi2
      refine (markInts_any _ _ _ _ zs L B _ hz (by show _ = _; omega) ((FT.out).setCell _ _) (by omega) (by omega) (by omega)).mono ?_
      rintro e w2 ⟨rfl, hiw, _⟩
      go_wp2
      exact ⟨⟨j + 1, by omega, by go_num, by rw [hS.out]; go_num, hw2.trans hiw⟩, by simp [intOf]; omega⟩
    · have hjn : j = n := by omega
      subst hjn
      have E := hide (List.take_of_length_le (l := xs) (i := j) (by have := hx.out; omega))
      go_wp2
      go_ret
      exact ⟨ret_int (by rw [E.out]), hw.out⟩
end Go.Proofs.YtdcdgopblbmgoaaDoor
