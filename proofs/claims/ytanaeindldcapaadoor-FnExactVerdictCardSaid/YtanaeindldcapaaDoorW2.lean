import Derived.Test.YtanaeindldcapaaDoorW1
import Derived.Deep.RegionWith
import Derived.Deep.DrawnRows
namespace Go.Proofs.YtanaeindldcapaaDoor
open Go.RowKit
section
attribute [local go_sem ↓] Go.wp_at_zero Go.wp_at_succ
set_option maxHeartbeats 400000 in
theorem eqInts_yes (a a' : Option Addr) (n c c' : Nat) (xs : List Int) (L B L' B' : Nat) (w : World) (ha : Hid (IntsAt w L B a xs)) (hb : Hid (IntsAt w L' B' a' xs)) (hx : Hid (n = xs.length)) (hn : n ≤ 1048576) (hB : B ≤ w.heap.size) (hB' : B' ≤ w.heap.size) :
    Calls Tryd.prog 92 #[.slice a n c, .slice a' n c'] w fun e w' => e = .returned (.bool true) ∧ Below w.heap.size w w' := by
  go_enter Tryd.func92, Tryd.ntmps92
  go_wp2
  go_loopw [5] (fun i wr => ∃ k : Nat, k ≤ n ∧ i = .int .i64 k ∧ Below w.heap.size w wr) (fun i _ => n - (intOf i).toNat)
  case atStart => exact ⟨0, Nat.zero_le _, rfl, Below.refl _ _⟩
  case round =>
    obtain ⟨k, hk, rfl, hw⟩ := hrel
    by_cases hlt : k < n
    · have hkx : k < xs.length := by have := hx.out; omega
      obtain ⟨b, o, rfl, ⟨_, hbB⟩, hc⟩ := ha.out k hkx
      obtain ⟨b', o', rfl, ⟨_, hbB'⟩, hc'⟩ := hb.out k hkx
      have hk0 : (0 : Int) ≤ (k : Int) := by omega
      have hk1 : (k : Int) < (n : Int) := by omega
      have e1 := (hw.cell (p := ⟨b, o + k, none⟩) (by show b < _; omega)).trans hc
      have e2 := (hw.cell (p := ⟨b', o' + k, none⟩) (by show b' < _; omega)).trans hc'
      clear hc hc'
      go_wp2
      go_region
      go_wp2
      exact ⟨⟨k + 1, by omega, by go_num, hw.drew⟩, by simp [intOf]; omega⟩
    · go_wp2
      go_ret
      exact ⟨rfl, hw⟩
set_option maxHeartbeats 400000 in
theorem eqInstr_yes (a b c d f : Int) (w : World) :
    Calls Tryd.prog 89 #[.agg #[.int .i64 a, .int .i64 b, .int .i64 c, .int .i64 d, .int .i64 f], .agg #[.int .i64 a, .int .i64 b, .int .i64 c, .int .i64 d, .int .i64 f]] w fun e w' => e = .returned (.bool true) ∧ Below w.heap.size w w' := by
  go_enter Tryd.func89, Tryd.ntmps89
  go_wp2
  go_ret
  exact ⟨rfl, balloc (balloc (Below.refl _ _) _) _⟩
set_option maxHeartbeats 400000 in
theorem eqTerm_yes (a b c d : Int) (w : World) :
    Calls Tryd.prog 77 #[.agg #[.int .i64 a, .int .i64 b, .int .i64 c, .int .i64 d], .agg #[.int .i64 a, .int .i64 b, .int .i64 c, .int .i64 d]] w fun e w' => e = .returned (.bool true) ∧ Below w.heap.size w w' := by
  go_enter Tryd.func77, Tryd.ntmps77
  go_wp2
  go_ret
  exact ⟨rfl, balloc (balloc (Below.refl _ _) _) _⟩
set_option maxHeartbeats 400000 in
theorem eqPhi_yes (d : Int) (a a' : Option Addr) (n c c' : Nat) (xs : List Int) (L B L' B' : Nat) (w : World) (ha : Hid (IntsAt w L B a xs)) (hb : Hid (IntsAt w L' B' a' xs)) (hx : Hid (n = xs.length)) (hn : n ≤ 1048576) (hB : B ≤ w.heap.size) (hB' : B' ≤ w.heap.size) :
    Calls Tryd.prog 88 #[.agg #[.int .i64 d, .slice a n c], .agg #[.int .i64 d, .slice a' n c']] w fun e w' => e = .returned (.bool true) ∧ Below w.heap.size w w' := by
  go_enter Tryd.func88, Tryd.ntmps88
  go_wp2_with fail
  refine (eqInts_yes _ _ _ _ _ xs L B L' B' _ ?q1 ?q2 hx hn ?q3 ?q4).mono ?_
  case q1 => exact ha.out.keep (((Below.refl _ _).alloc (by omega) _).alloc (by simp; omega) _)
  case q2 => exact hb.out.keep (((Below.refl _ _).alloc (by omega) _).alloc (by simp; omega) _)
  case q3 => simp; omega
  case q4 => simp; omega
  rintro e w1 ⟨rfl, hb1⟩
  go_wp2
  go_ret
  exact ⟨rfl, bnext (balloc (balloc (Below.refl _ _) _) _) hb1⟩
set_option maxHeartbeats 1000000 in
theorem eqInstrs_yes (a a' : Option Addr) (n c c' : Nat) (xs : List Ins) (L B L' B' : Nat) (w : World) (ha : Hid (InssAt w L B a xs)) (hb : Hid (InssAt w L' B' a' xs)) (hx : Hid (n = xs.length)) (hn : n ≤ 1048576) (hB : B ≤ w.heap.size) (hB' : B' ≤ w.heap.size) :
    Calls Tryd.prog 76 #[.slice a n c, .slice a' n c'] w fun e w' => e = .returned (.bool true) ∧ Below w.heap.size w w' := by
  go_enter Tryd.func76, Tryd.ntmps76
  go_wp2
  go_loopw [5] (fun i wr => ∃ k : Nat, k ≤ n ∧ i = .int .i64 k ∧ Below w.heap.size w wr) (fun i _ => n - (intOf i).toNat)
  case atStart => exact ⟨0, Nat.zero_le _, rfl, Below.refl _ _⟩
  case round =>
    obtain ⟨k, hk, rfl, hw⟩ := hrel
    by_cases hlt : k < n
    · have hkx : k < xs.length := by have := hx.out; omega
      obtain ⟨b, o, rfl, ⟨_, hbB⟩, hc⟩ := ha.out k hkx
      obtain ⟨b', o', rfl, ⟨_, hbB'⟩, hc'⟩ := hb.out k hkx
      have hk0 : (0 : Int) ≤ (k : Int) := by omega
      have hk1 : (k : Int) < (n : Int) := by omega
      obtain ⟨e0, e1, e2, e3, e4⟩ := hc.keep hw (by omega)
      obtain ⟨f0, f1, f2, f3, f4⟩ := hc'.keep hw (by omega)
      clear hc hc'
      generalize xs[k] = X at *
      go_wp2
      go_region_with (go_at_call 89; refine (eqInstr_yes _ _ _ _ _ _).mono ?_; rintro e w1 ⟨rfl, hb1⟩)
      all_goals
        go_wp2
        exact ⟨⟨k + 1, by omega, by go_num, bnext hw.drew hb1⟩, by simp [intOf]; omega⟩
    · go_wp2
      go_ret
      exact ⟨rfl, hw⟩
def PhLen (xs : List Ph) : Prop := ∀ p ∈ xs, p.args.length ≤ 1048576
set_option maxHeartbeats 1000000 in
theorem eqPhis_yes (a a' : Option Addr) (n c c' : Nat) (xs : List Ph) (L B L' B' : Nat) (w : World) (ha : Hid (PhsAt w L B a xs)) (hb : Hid (PhsAt w L' B' a' xs)) (hx : Hid (n = xs.length)) (hs : Hid (PhLen xs)) (hn : n ≤ 1048576) (hB : B ≤ w.heap.size) (hB' : B' ≤ w.heap.size) :
    Calls Tryd.prog 75 #[.slice a n c, .slice a' n c'] w fun e w' => e = .returned (.bool true) ∧ Below w.heap.size w w' := by
  go_enter Tryd.func75, Tryd.ntmps75
  go_wp2
  go_loopw [5] (fun i wr => ∃ k : Nat, k ≤ n ∧ i = .int .i64 k ∧ Below w.heap.size w wr) (fun i _ => n - (intOf i).toNat)
  case atStart => exact ⟨0, Nat.zero_le _, rfl, Below.refl _ _⟩
  case round =>
    obtain ⟨k, hk, rfl, hw⟩ := hrel
    by_cases hlt : k < n
    · have hkx : k < xs.length := by have := hx.out; omega
      obtain ⟨b, o, rfl, ⟨_, hbB⟩, hc⟩ := ha.out k hkx
      obtain ⟨b', o', rfl, ⟨_, hbB'⟩, hc'⟩ := hb.out k hkx
      have hk0 : (0 : Int) ≤ (k : Int) := by omega
      have hk1 : (k : Int) < (n : Int) := by omega
      obtain ⟨aa, cc, e0, e1, hi⟩ := hc.keep (hw.mono hB) (by omega)
      obtain ⟨aa', cc', f0, f1, hi'⟩ := hc'.keep (hw.mono hB') (by omega)
      have HI := hide (hi.keep ((Below.refl B wr).drew))
      have HI' := hide (hi'.keep ((Below.refl B' wr).drew))
      have hq := hs.out _ (List.getElem_mem hkx)
      have hBr : B ≤ wr.heap.size := by have := hw.size; omega
      have hBr' : B' ≤ wr.heap.size := by have := hw.size; omega
      clear hc hc' hi hi'
      generalize xs[k] = X at *
      go_wp2
      go_region_with (go_at_call 88; refine (eqPhi_yes _ _ _ _ _ _ X.args L B L' B' _ HI HI' rfl hq hBr hBr').mono ?_; rintro e w1 ⟨rfl, hb1⟩)
      all_goals
        go_wp2
        exact ⟨⟨k + 1, by omega, by go_num, bnext hw.drew hb1⟩, by simp [intOf]; omega⟩
    · go_wp2
      go_ret
      exact ⟨rfl, hw⟩
set_option maxHeartbeats 1000000 in
theorem eqBlock_yes (p p' i i' : Option Addr) (n pc pc' m ic ic' : Nat) (t0 t1 t2 t3 : Int) (xs : List Ph) (ys : List Ins) (L B L' B' : Nat) (w : World) (ha : Hid (PhsAt w L B p xs)) (hb : Hid (PhsAt w L' B' p' xs)) (ga : Hid (InssAt w L B i ys)) (gb : Hid (InssAt w L' B' i' ys))
    (hx : Hid (n = xs.length)) (hy : Hid (m = ys.length)) (hs : Hid (PhLen xs)) (hn : n ≤ 1048576) (hm : m ≤ 1048576) (hB : B ≤ w.heap.size) (hB' : B' ≤ w.heap.size) :
    Calls Tryd.prog 50 #[.agg #[.slice p n pc, .slice i m ic, .int .i64 t0, .int .i64 t1, .int .i64 t2, .int .i64 t3], .agg #[.slice p' n pc', .slice i' m ic', .int .i64 t0, .int .i64 t1, .int .i64 t2, .int .i64 t3]] w fun e w' => e = .returned (.bool true) ∧ Below w.heap.size w w' := by
  go_enter Tryd.func50, Tryd.ntmps50
  go_wp2_with fail
  refine (eqPhis_yes _ _ _ _ _ xs L B L' B' _ ?q1 ?q2 hx hs hn ?q3 ?q4).mono ?_
  case q1 => exact ha.out.keep (((Below.refl _ _).alloc (by omega) _).alloc (by simp; omega) _)
  case q2 => exact hb.out.keep (((Below.refl _ _).alloc (by omega) _).alloc (by simp; omega) _)
  case q3 => simp; omega
  case q4 => simp; omega
  rintro e w1 ⟨rfl, hb1⟩
  have hz1 := hb1.size
  simp at hz1
  have hz2 : w.heap.size < w1.heap.size := by omega
  have hz3 : w.heap.size + 1 < w1.heap.size := by omega
  obtain ⟨hc1, hf1⟩ := bcell hb1
  have b1 := bnext (balloc (balloc (Below.refl _ _) _) _) hb1
  go_wp2_with fail
  refine (eqInstrs_yes _ _ _ _ _ ys L B L' B' _ ?q1 ?q2 hy hm ?q3 ?q4).mono ?_
  case q1 => exact ga.out.keep (b1.mono hB)
  case q2 => exact gb.out.keep (b1.mono hB')
  case q3 => omega
  case q4 => omega
  rintro e w2 ⟨rfl, hb2⟩
  obtain ⟨hc2, hf2⟩ := bcell hb2
  have b2 := bnext b1 hb2
  go_wp2_with fail
  refine (eqTerm_yes _ _ _ _ _).mono ?_
  rintro e w3 ⟨rfl, hb3⟩
  go_wp2
  go_ret
  exact ⟨rfl, bnext b2 hb3⟩
def BlkLen (xs : List Blk) : Prop := ∀ x ∈ xs, x.phis.length ≤ 1048576 ∧ x.instrs.length ≤ 1048576 ∧ PhLen x.phis
set_option maxHeartbeats 1000000 in
theorem eqBlocks_yes (a a' : Option Addr) (n c c' : Nat) (xs : List Blk) (L B L' B' : Nat) (w : World) (ha : Hid (BlksAt w L B a xs)) (hb : Hid (BlksAt w L' B' a' xs)) (hx : Hid (n = xs.length)) (hs : Hid (BlkLen xs)) (hn : n ≤ 1048576) (hB : B ≤ w.heap.size) (hB' : B' ≤ w.heap.size) :
    Calls Tryd.prog 19 #[.slice a n c, .slice a' n c'] w fun e w' => e = .returned (.bool true) ∧ Below w.heap.size w w' := by
  go_enter Tryd.func19, Tryd.ntmps19
  go_wp2
  go_loopw [5] (fun i wr => ∃ k : Nat, k ≤ n ∧ i = .int .i64 k ∧ Below w.heap.size w wr) (fun i _ => n - (intOf i).toNat)
  case atStart => exact ⟨0, Nat.zero_le _, rfl, Below.refl _ _⟩
  case round =>
    obtain ⟨k, hk, rfl, hw⟩ := hrel
    by_cases hlt : k < n
    · have hkx : k < xs.length := by have := hx.out; omega
      obtain ⟨b, o, rfl, ⟨_, hbB⟩, hc⟩ := ha.out k hkx
      obtain ⟨b', o', rfl, ⟨_, hbB'⟩, hc'⟩ := hb.out k hkx
      have hk0 : (0 : Int) ≤ (k : Int) := by omega
      have hk1 : (k : Int) < (n : Int) := by omega
      obtain ⟨pa, pc, ia, ic, e0, e1, ⟨e2, e3, e4, e5⟩, hp, hi⟩ := hc.keep (hw.mono hB) (by omega)
      obtain ⟨pa', pc', ia', ic', f0, f1, ⟨f2, f3, f4, f5⟩, hp', hi'⟩ := hc'.keep (hw.mono hB') (by omega)
      have HP := hide (hp.keep ((Below.refl B wr).drew))
      have HP' := hide (hp'.keep ((Below.refl B' wr).drew))
      have HI := hide (hi.keep ((Below.refl B wr).drew))
      have HI' := hide (hi'.keep ((Below.refl B' wr).drew))
      obtain ⟨hq1, hq2, hq3⟩ := hs.out _ (List.getElem_mem hkx)
      have HQ := hide hq3
      have hBr : B ≤ wr.heap.size := by have := hw.size; omega
      have hBr' : B' ≤ wr.heap.size := by have := hw.size; omega
      clear hc hc' hi hi' hp hp' hq3
      generalize xs[k] = X at *
      go_wp2
      go_region_with (go_at_call 50; refine (eqBlock_yes _ _ _ _ _ _ _ _ _ _ _ _ _ _ X.phis X.instrs L B L' B' _ HP HP' HI HI' rfl rfl HQ hq1 hq2 hBr hBr').mono ?_; rintro e w1 ⟨rfl, hb1⟩)
      all_goals
        go_wp2
        exact ⟨⟨k + 1, by omega, by go_num, bnext hw.drew hb1⟩, by simp [intOf]; omega⟩
    · go_wp2
      go_ret
      exact ⟨rfl, hw⟩
set_option maxHeartbeats 1000000 in
theorem eqFunc_yes (v : Int) (a a' : Option Addr) (n c c' : Nat) (xs : List Blk) (L B L' B' : Nat) (w : World) (ha : Hid (BlksAt w L B a xs)) (hb : Hid (BlksAt w L' B' a' xs)) (hx : Hid (n = xs.length)) (hs : Hid (BlkLen xs)) (hn : n ≤ 1048576) (hB : B ≤ w.heap.size) (hB' : B' ≤ w.heap.size) :
    Calls Tryd.prog 8 #[.agg #[.int .i64 v, .slice a n c], .agg #[.int .i64 v, .slice a' n c']] w fun e w' => e = .returned (.bool true) ∧ Below w.heap.size w w' := by
  go_enter Tryd.func8, Tryd.ntmps8
  go_wp2_with fail
  refine (eqBlocks_yes _ _ _ _ _ xs L B L' B' _ ?q1 ?q2 hx hs hn ?q3 ?q4).mono ?_
  case q1 => exact ha.out.keep (((Below.refl _ _).alloc (by omega) _).alloc (by simp; omega) _)
  case q2 => exact hb.out.keep (((Below.refl _ _).alloc (by omega) _).alloc (by simp; omega) _)
  case q3 => simp; omega
  case q4 => simp; omega
  rintro e w1 ⟨rfl, hb1⟩
  go_wp2
  go_ret
  exact ⟨rfl, bnext (balloc (balloc (Below.refl _ _) _) _) hb1⟩
end
end Go.Proofs.YtanaeindldcapaaDoor
