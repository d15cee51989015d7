import Derived.Test.YtlmaodcddbkllaaDoorW7
import Derived.Test.YtlmaodcddbkllaaDoorW10
namespace Go.Proofs.YtlmaodcddbkllaaDoor
open Go.RowKit

theorem phSize_snoc (ps : List Ph) (p : Ph) : phSize (ps ++ [p]) = phSize ps + (1 + p.args.length) := by simp [phSize]
theorem blksSize_snoc (xs : List Blk) (x : Blk) : blksSize (xs ++ [x]) = blksSize xs + (1 + x.instrs.length + phSize x.phis) := by simp [blksSize, blkSize]
theorem phSize_len (ps : List Ph) : ps.length ≤ phSize ps := by
  induction ps with
  | nil => simp
  | cons p ps ih => simp only [phSize, List.map_cons, List.sum_cons, List.length_cons] at ih ⊢; omega
theorem phSize_take (ps : List Ph) (k : Nat) : phSize (ps.take k) ≤ phSize ps := sum_take_le _ _ _
theorem blksSize_take (xs : List Blk) (k : Nat) : blksSize (xs.take k) ≤ blksSize xs := sum_take_le _ _ _

set_option maxHeartbeats 1000000 in
theorem l1Size_any (v : Int) (a : Option Addr) (n c : Nat) (xs : List Blk) (L B : Nat) (w : World) (ha : Hid (BlksAt w L B a xs)) (hx : Hid (n = xs.length)) (hn : n ≤ 1048576) (hs : blksSize xs ≤ 1048576) (hB : B ≤ w.heap.size) :
    Calls Tryd.prog 52 #[.agg #[.int .i64 v, .slice a n c]] w fun e w' => e = .returned (.int .i64 (blksSize xs)) ∧ Below w.heap.size w w' := by
  go_enter Tryd.func52, Tryd.ntmps52
  go_wp2
  have hbel := balloc (Below.refl w.heap.size w) (.cells #[.int .i64 v, .slice a n c] 25)
  have hbox : (w.alloc (.cells #[.int .i64 v, .slice a n c] 25)).cell? ⟨w.heap.size, 1, none⟩ = some (.slice a n c) := by simp
  generalize w.alloc (.cells #[.int .i64 v, .slice a n c] 25) = w1 at *
  go_loop [3, 4] (fun u i => ∃ k : Nat, k ≤ n ∧ i = .int .i64 k ∧ u = .int .i64 (blksSize (xs.take k) : Nat)) (fun _ i => n - (intOf i).toNat)
  case atStart => exact ⟨0, Nat.zero_le _, rfl, rfl⟩
  case round =>
    obtain ⟨k, hk, rfl, rfl⟩ := hrel
    by_cases hlt : k < n
    · have hkx : k < xs.length := by have := hx.out; omega
      obtain ⟨b, o, rfl, ⟨_, hbB⟩, hc⟩ := ha.out k hkx
      obtain ⟨pa, pc, ia, ic, e0, e1, _, hp, _⟩ := hc.keep (hbel.mono hB) (by omega)
      have HP := hide hp
      have h1 : Hid (blksSize (xs.take (k + 1)) = blksSize (xs.take k) + (1 + xs[k].instrs.length + phSize xs[k].phis)) := by show _ = _; rw [take_next _ _ hkx, blksSize_snoc]
      have h2 := blksSize_take xs (k + 1)
      have H2 := hide h2
      have hb1 : blksSize (xs.take k) + (1 + xs[k].instrs.length + phSize xs[k].phis) ≤ 1048576 := by have := h1.out; omega
      have hpl : xs[k].phis.length ≤ 1048576 := by have := phSize_len xs[k].phis; omega
      clear hc hp h2
      generalize xs[k] = X at *
      generalize hS : blksSize (xs.take k) = S at *
      have HS := hide hS
      clear hS
      go_wp2
      go_loop [3, 5] (fun u i => ∃ j : Nat, j ≤ X.phis.length ∧ i = .int .i64 j ∧ u = .int .i64 (S + (1 + X.instrs.length) + phSize (X.phis.take j) : Nat)) (fun _ i => X.phis.length - (intOf i).toNat)
      case atStart => exact ⟨0, Nat.zero_le _, rfl, by simp [phSize]; try omega⟩
      case round =>
        obtain ⟨j, hj, rfl, rfl⟩ := hrel
        by_cases hjt : j < X.phis.length
        · obtain ⟨b', o', rfl, ⟨_, hbB'⟩, aa, cc, g0, g1, _⟩ := HP.out j hjt
          have h3 : Hid (phSize (X.phis.take (j + 1)) = phSize (X.phis.take j) + (1 + X.phis[j].args.length)) := by show _ = _; rw [take_next _ _ hjt, phSize_snoc]
          have h4 := phSize_take X.phis (j + 1)
          have hb2 : phSize (X.phis.take j) + (1 + X.phis[j].args.length) ≤ phSize X.phis := by have := h3.out; omega
          have H4 := hide h4
          clear h4
          generalize X.phis[j] = P at *
          generalize hT : phSize (X.phis.take j) = T at *
          have HT := hide hT
          clear hT
          go_wp2
          go_round
          case rel => exact ⟨j + 1, by omega, by go_num, by rw [h3.out]; go_num⟩
          case measure => simp [intOf]; omega
        · have e := List.take_of_length_le (l := X.phis) (i := j) (by omega)
          have E := hide e
          clear e
          go_wp2
          go_round
          case rel => exact ⟨k + 1, by omega, by go_num, by rw [h1.out, E.out]; go_num⟩
          case measure => simp [intOf]; omega
    · have e := List.take_of_length_le (l := xs) (i := k) (by have := hx.out; omega)
      have E := hide e
      clear e
      go_wp2
      go_ret
      exact ⟨ret_int (by rw [E.out]), hbel⟩
end Go.Proofs.YtlmaodcddbkllaaDoor

namespace Go.Proofs.YtlmaodcddbkllaaDoor
open Go.RowKit

theorem sizeOk_yes {F : Fn} (h0 : 0 ≤ F.values) (h1 : F.values ≤ 2000) (h2 : 1 ≤ F.blocks.length) (h3 : F.blocks.length ≤ 1000) (h4 : blksSize F.blocks ≤ 4000) : sizeOk F = true := by simp [sizeOk, *]
theorem sizeOk_big {F : Fn} (h4 : 4000 < blksSize F.blocks) : sizeOk F = false := by simp [sizeOk]; omega
theorem sizeOk_head {F : Fn} (h : ¬ (0 ≤ F.values ∧ F.values ≤ 2000 ∧ 1 ≤ F.blocks.length ∧ F.blocks.length ≤ 1000)) : sizeOk F = false := by simp [sizeOk]; omega

set_option maxHeartbeats 2000000 in
theorem validSize_any (v : Int) (a : Option Addr) (n c : Nat) (xs : List Blk) (L B : Nat) (w : World) (ha : Hid (BlksAt w L B a xs)) (hx : Hid (n = xs.length)) (hn : n ≤ 1048576) (hs : blksSize xs ≤ 1048576) (hB : B ≤ w.heap.size) :
    Calls Tryd.prog 77 #[.agg #[.int .i64 v, .slice a n c]] w fun e w' => e = .returned (.bool (sizeOk ⟨v, xs⟩)) ∧ Below w.heap.size w w' := by
  by_cases hd : 0 ≤ v ∧ v ≤ 2000 ∧ 1 ≤ n ∧ n ≤ 1000
  · obtain ⟨d0, d1, d2, d3⟩ := hd
    go_enter Tryd.func77, Tryd.ntmps77
    go_wp2
    go_loopw [3, 31] (fun u i wr => ∃ k : Nat, k ≤ n ∧ i = .int .i64 k ∧ u = .int .i64 (blksSize (xs.take k) : Nat) ∧ blksSize (xs.take k) ≤ 4000 ∧ Below w.heap.size w wr) (fun _ i _ => n - (intOf i).toNat)
    case atStart => exact ⟨0, Nat.zero_le _, rfl, rfl, by simp [blksSize], balloc (Below.refl _ _) _⟩
    case round =>
      obtain ⟨k, hk, rfl, rfl, hle, hw⟩ := hrel
      by_cases hlt : k < n
      · have hkx : k < xs.length := by have := hx.out; omega
        obtain ⟨b, o, rfl, ⟨_, hbB⟩, hc⟩ := ha.out k hkx
        obtain ⟨pa, pc, ia, ic, e0, e1, ⟨e2, e3, e4, e5⟩, hp, _⟩ := hc.keep (hw.mono hB) (by omega)
        have HP := hide (hp.keep (balloc (Below.refl wr.heap.size wr) (.cells #[.slice pa xs[k].phis.length pc, .slice ia xs[k].instrs.length ic, .int .i64 xs[k].term.kind, .int .i64 xs[k].term.a, .int .i64 xs[k].term.to, .int .i64 xs[k].term.els] 39) |>.mono (by have := hw.size; omega)))
        have h1 : Hid (blksSize (xs.take (k + 1)) = blksSize (xs.take k) + (1 + xs[k].instrs.length + phSize xs[k].phis)) := by show _ = _; rw [take_next _ _ hkx, blksSize_snoc]
        have h2 := blksSize_take xs (k + 1)
        have H2 := hide h2
        have hb1 : blksSize (xs.take k) + (1 + xs[k].instrs.length + phSize xs[k].phis) ≤ 1048576 := by have := h1.out; omega
        have hpl : xs[k].phis.length ≤ 1048576 := by have := phSize_len xs[k].phis; omega
        have HW := hide (balloc hw (.cells #[.slice pa xs[k].phis.length pc, .slice ia xs[k].instrs.length ic, .int .i64 xs[k].term.kind, .int .i64 xs[k].term.a, .int .i64 xs[k].term.to, .int .i64 xs[k].term.els] 39))
        have hwz := hw.size
        clear hc hp h2
        generalize xs[k] = X at *
        generalize hS : blksSize (xs.take k) = S at *
        have HS := hide hS
        clear hS
        go_wp2
        go_loopw [3, 44] (fun u i wi => ∃ j : Nat, j ≤ X.phis.length ∧ i = .int .i64 j ∧ u = .int .i64 (S + (1 + X.instrs.length) + phSize (X.phis.take j) : Nat) ∧ Below w.heap.size w wi) (fun _ i _ => X.phis.length - (intOf i).toNat)
        case atStart => exact ⟨0, Nat.zero_le _, rfl, by simp [phSize]; try omega, HW.out⟩
        case round =>
          obtain ⟨j, hj, rfl, rfl, hwi⟩ := hrel
          by_cases hjt : j < X.phis.length
          · obtain ⟨b', o', rfl, ⟨_, hbB'⟩, aa, cc, g0, g1, _⟩ := HP.out j hjt
            have g0' : wr.cell? ⟨b', o' + j * 2, none⟩ = some (.int .i64 X.phis[j].dst) := by
              have q := (HW.out.cell (p := ⟨b', o' + j * 2, none⟩) (by show b' < _; omega))
              exact (hwi.cell (p := ⟨b', o' + j * 2, none⟩) (by show b' < _; omega)).trans (q.symm.trans g0)
            have g1' : wr.cell? ⟨b', o' + j * 2 + 1, none⟩ = some (.slice aa X.phis[j].args.length cc) := by
              have q := (HW.out.cell (p := ⟨b', o' + j * 2 + 1, none⟩) (by show b' < _; omega))
              exact (hwi.cell (p := ⟨b', o' + j * 2 + 1, none⟩) (by show b' < _; omega)).trans (q.symm.trans g1)
            have h3 : Hid (phSize (X.phis.take (j + 1)) = phSize (X.phis.take j) + (1 + X.phis[j].args.length)) := by show _ = _; rw [take_next _ _ hjt, phSize_snoc]
            have h4 := phSize_take X.phis (j + 1)
            have hb2 : phSize (X.phis.take j) + (1 + X.phis[j].args.length) ≤ phSize X.phis := by have := h3.out; omega
            clear h4 g0 g1
            generalize X.phis[j] = P at *
            generalize hT : phSize (X.phis.take j) = T at *
            have HT := hide hT
            clear hT
            by_cases hgt : 4000 < S + (1 + X.instrs.length) + (T + (1 + P.args.length))
            · go_wp2
              go_ret
              exact ⟨ret_bool (sizeOk_big (by have := h1.out; have := H2.out; show 4000 < blksSize xs; omega)).symm, balloc hwi _⟩
            · go_wp2
              exact ⟨⟨j + 1, by omega, by go_num, by rw [h3.out]; go_num, balloc hwi _⟩, by simp [intOf]; omega⟩
          · have E := hide (List.take_of_length_le (l := X.phis) (i := j) (by omega))
            by_cases hgt : 4000 < S + (1 + X.instrs.length) + phSize (X.phis.take j)
            · go_wp2
              go_ret
              exact ⟨ret_bool (sizeOk_big (by have := h1.out; have := H2.out; have e := E.out; rw [e] at hgt; show 4000 < blksSize xs; omega)).symm, hwi⟩
            · go_wp2
              have e := E.out
              rw [e] at hgt ⊢
              exact ⟨⟨k + 1, by omega, by go_num, by rw [h1.out]; go_num, by rw [h1.out]; omega, hwi⟩, by simp [intOf]; omega⟩
      · go_wp2
        go_ret
        have e := List.take_of_length_le (l := xs) (i := k) (by have := hx.out; omega)
        rw [e] at hle
        exact ⟨ret_bool (sizeOk_yes d0 d1 (by have := hx.out; show 1 ≤ xs.length; omega) (by have := hx.out; show xs.length ≤ 1000; omega) hle).symm, hw⟩
  · have hR : Hid (sizeOk ⟨v, xs⟩ = false) := sizeOk_head (F := ⟨v, xs⟩) (by have := hx.out; show ¬ (0 ≤ v ∧ v ≤ 2000 ∧ 1 ≤ xs.length ∧ xs.length ≤ 1000); omega)
    have hd' : v < 0 ∨ (0 ≤ v ∧ 2000 < v) ∨ (0 ≤ v ∧ v ≤ 2000 ∧ n < 1) ∨ (0 ≤ v ∧ v ≤ 2000 ∧ 1 ≤ n ∧ 1000 < n) := by omega
    clear hd
    rcases hd' with d | ⟨d, d1⟩ | ⟨d, d1, d2⟩ | ⟨d, d1, d2, d3⟩
    all_goals
      go_enter Tryd.func77, Tryd.ntmps77
      go_wp2
      go_ret
      exact ⟨ret_bool hR.out.symm, balloc (Below.refl _ _) _⟩
end Go.Proofs.YtlmaodcddbkllaaDoor
