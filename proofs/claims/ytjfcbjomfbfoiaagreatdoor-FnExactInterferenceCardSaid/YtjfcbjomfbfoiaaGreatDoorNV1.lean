import Derived.Test.YtjfcbjomfbfoiaaGreatDoorWS0
import Derived.Test.YtjfcbjomfbfoiaaGreatDoorDR1
import Derived.RangeFuncNested
import Derived.RangeFuncBound
import Derived.RangeFuncCalls
import Derived.RangeFuncLeaves
import Derived.Shelf.Abstract
import Derived.Shelf.RegionOpen
import Derived.WalkKit
import Derived.OwnWalkIn
import Derived.TacticsInMore
import Derived.LoopNIn
import Derived.LoopIn
import Derived.Test.YtjfcbjomfbfoiaaGreatDoorNSP
import Derived.Test.YtjfcbjomfbfoiaaGreatDoorW7
import Derived.Test.YtjfcbjomfbfoiaaGreatDoorRW
import Derived.Laws.CopyOwn
import Derived.Test.YtjfcbjomfbfoiaaGreatDoorSP0
import Derived.Test.YtjfcbjomfbfoiaaGreatDoorW5
import Derived.Test.YtjfcbjomfbfoiaaGreatDoorW2
import Derived.Test.YtjfcbjomfbfoiaaGreatDoorW14c
import Derived.Test.YtjfcbjomfbfoiaaGreatDoorPL1
namespace Go.Proofs.YtjfcbjomfbfoiaaGreatDoor
open Go.RowKit
def delN (W : Nat → Nat) (x : Nat) : Nat → Nat := fun i => if i = x / 64 then W i &&& (18446744073709551615 - 2 ^ (x % 64)) else W i
theorem pow_lt64 {t : Nat} (h : t < 64) : 2 ^ t < 18446744073709551616 := Nat.lt_of_lt_of_le (Nat.pow_lt_pow_right (by decide) h) (by decide)
theorem has_del (W : Nat → Nat) (x y : Nat) : hasN (delN W x) y = (decide (y ≠ x) && hasN W y) := by
  unfold hasN delN
  by_cases e : y / 64 = x / 64
  · rw [if_pos e, Nat.testBit_and, not_bit (pow_lt64 (Nat.mod_lt _ (by decide))) (Nat.mod_lt _ (by decide)), Nat.testBit_two_pow]
    by_cases h : x % 64 = y % 64
    · have : y = x := by omega
      simp [this]
    · have : y ≠ x := fun q => h (by rw [q])
      simp [h, this]
  · rw [if_neg e]
    have : y ≠ x := fun q => e (by rw [q])
    simp [this]
theorem del_wd {W : Nat → Nat} (h : WdOk W) (x : Nat) : WdOk (delN W x) := fun i => by
  unfold delN
  split
  · exact Nat.lt_of_le_of_lt Nat.and_le_left (h i)
  · exact h i
def delsN (W : Nat → Nat) (ts : List Nat) : Nat → Nat := ts.foldl delN W
theorem dels_take {W : Nat → Nat} {ts : List Nat} {q : Nat} (h : q < ts.length) : delsN W (ts.take (q + 1)) = delN (delsN W (ts.take q)) ts[q] := by
  unfold delsN
  rw [List.take_succ_eq_append_getElem h, List.foldl_append]
  rfl
theorem dels_wd : ∀ (ts : List Nat) {W : Nat → Nat}, WdOk W → WdOk (delsN W ts)
  | [], _, h => h
  | t :: ts, _, h => dels_wd ts (del_wd h t)
theorem has_dels : ∀ (ts : List Nat) (W : Nat → Nat) (y : Nat), hasN (delsN W ts) y = (decide (y ∉ ts) && hasN W y)
  | [], _, _ => by simp [delsN]
  | t :: ts, W, y => by
    have h := has_dels ts (delN W t) y
    have e : delsN W (t :: ts) = delsN (delN W t) ts := rfl
    rw [e, h, has_del]
    by_cases h1 : y = t <;> by_cases h2 : y ∈ ts <;> simp [h1, h2]
theorem andNotN_bit {W t : Nat} (ht : t < 64) (hW : W < 18446744073709551616) : bits .andNot .u64 (W : Int) (IntKind.u64.wrap (2 ^ t)) = ((W &&& (18446744073709551615 - 2 ^ t) : Nat) : Int) := by
  have h2 := pow_lt64 ht
  have e : IntKind.u64.wrap (2 ^ t) = ((2 ^ t : Nat) : Int) := by
    rw [IntKind.wrap_u64]
    have : ((2 ^ t : Nat) : Int) = (2 : Int) ^ t := by simp
    rw [← this]
    exact Int.emod_eq_of_lt (Int.natCast_nonneg _) (Int.ofNat_lt.2 h2)
  rw [e, u64_andNot_nat _ _ hW h2]
set_option maxHeartbeats 1000000 in
set_option maxRecDepth 100000 in
theorem remove_valueNo (g K C n c : Nat) (W : Nat → Nat) (a : Option Addr) (ts : List Nat) (L B : Nat) (w : World) (ha : Hid (IntsAt w L B a (ts.map Int.ofNat))) (hx : Hid (n = ts.length)) (hn : n ≤ 4000) (ht : Hid (∀ t ∈ ts, t < 64 * K)) (hK : K ≤ 1000) (hW : Hid (WdOk W)) (hr : Hid (WsAt w g K C W)) (hB : B ≤ w.heap.size) (hgL : ¬ (L ≤ g ∧ g < B)) :
    Calls Tryz.prog 49 #[.agg #[.slice (some ⟨g, 0, none⟩) K C], .slice a n c] w fun e w' => e = .returned (.tuple #[]) ∧ w.grownBy w' (some g) ∧ WsAt w' g K C (delsN W ts) := by
  go_enter Tryz.func49, Tryz.ntmps49
  go_wp2
  have hg : g < w.heap.size := hr.out.lt
  go_loopw [8] (fun u wr => ∃ q : Nat, q ≤ n ∧ u = .int .i64 q ∧ Hid (w.grownBy wr (some g)) ∧ wr.cell? ⟨w.heap.size, 0, none⟩ = some (.slice (some ⟨g, 0, none⟩) K C) ∧ Hid (WsAt wr g K C (delsN W (ts.take q)))) (fun u _ => n - (intOf u).toNat)
  case atStart => exact ⟨0, Nat.zero_le _, rfl, hide (World.grownBy_alloc _ _ _), by simp, hide (hr.out.alloc _)⟩
  case round =>
    obtain ⟨q, hq, rfl, HG, hs, HR⟩ := hrel
    by_cases hlt : q < n
    · have hqx : q < ts.length := by have := hx.out; omega
      obtain ⟨b, o, rfl, hbB, e0w⟩ := ha.out q (by simpa using hqx)
      have e0 := (cell_of (HG.out.block b (by omega) (fun e => by injection e with e; omega))).trans e0w
      rw [List.getElem_map] at e0
      have htq := ht.out _ (List.getElem_mem hqx)
      have HT := hide (dels_take (W := W) hqx)
      have HWA := hide (dels_wd (ts.take q) hW.out)
      clear e0w
      generalize ts[q] = t at *
      have h2 := quoN t
      have h3 := remN t
      have e0' : wr.cell? ⟨b, o + q, none⟩ = some (.int .i64 (t : Int)) := e0
      clear e0
      generalize delsN W (ts.take q) = W1 at *
      have hd : t / 64 < K := by omega
      have hm : t % 64 < 64 := Nat.mod_lt _ (by decide)
      have ec := HR.out.cell hd
      have ez := HR.out.frozen
      have HOR := hide (andNotN_bit hm (HWA.out (t / 64)))
      have HAD : Hid (∀ i, (if i = t / 64 then W1 (t / 64) &&& (18446744073709551615 - 2 ^ (t % 64)) else W1 i) = delsN W (ts.take (q + 1)) i) := hide (fun i => by
        rw [HT.out]
        unfold delN
        by_cases e : i = t / 64
        · rw [if_pos e, if_pos e, e]
        · rw [if_neg e, if_neg e])
      generalize hd2 : t / 64 = td at *
      generalize hm2 : t % 64 = tm at *
      go_wp2
      go_region
      go_wp2
      rw [HOR.out]
      have kk : wr.grownBy (wr.setCell ⟨g, td, none⟩ (.int .u64 ((W1 td &&& (18446744073709551615 - 2 ^ tm) : Nat) : Int))).drew (some g) := ⟨rfl, rfl, rfl, by simp [World.setCell, World.drew], fun k _ hk => Below.heap_setCell _ _ _ _ (fun e => hk (by rw [e]))⟩
      refine ⟨⟨q + 1, by omega, by go_num, hide (HG.out.andThen kk (fun j hj => by cases hj; exact Or.inr rfl)), ?_, hide ?_⟩, by simp [intOf]; omega⟩
      · exact (World.cell?_setCell_far wr ⟨g, td, none⟩ ⟨w.heap.size, 0, none⟩ _ (by show g ≠ w.heap.size; omega)).trans hs
      · refine WsAt.drew ((HR.out.set td _ hd).congr (fun i _ => ?_))
        rw [← HAD.out i]
    · have hqn : q = n := by omega
      have HX : Hid (ts.take q = ts) := hide (List.take_of_length_le (by have := hx.out; omega))
      rw [HX.out] at HR
      go_wp2
      go_end0
      exact ⟨rfl, HG.out, HR.out⟩
end Go.Proofs.YtjfcbjomfbfoiaaGreatDoor

namespace Go.Proofs.YtjfcbjomfbfoiaaGreatDoor
open Go.RowKit
set_option maxHeartbeats 1000000 in
set_option maxRecDepth 100000 in
theorem cloneU_any (g K C : Nat) (W : Nat → Nat) (w : World) (hr : Hid (WsAt w g K C W)) (hK : K ≤ 1000) :
    Calls Tryz.prog 97 #[.slice (some ⟨g, 0, none⟩) K C] w fun e w' => ∃ g' C', e = .returned (.slice (some ⟨g', 0, none⟩) K C') ∧ w.heap.size ≤ g' ∧ Below w.heap.size w w' ∧ WsAt w' g' K C' W := by
  obtain ⟨i0, hi0, hz0, hz1, hz2⟩ := info_parts Tryz.infoU64valueNo
  have q22 : ∀ (w : World) (a : Option Addr) (n c n' c' : Nat), (binOp .eql 63 (.slice a n c) (.slice none n' c')).run Tryz.prog w = .ok (.bool a.isNone) w := fun w a n c n' c' => Lib.run_eql_slice_nil w _ _ a n c n' c' Tryz.underlying63
  have hg := hr.out.lt
  have HO0 : Hid ((w.alloc (.cells #[] 140)).ownsRow w.heap.size 140 1 (.slice (some ⟨w.heap.size, 0, none⟩) 0 0) 0 []) := hide (World.ownsRow_lit (base := w.heap.size) (e := 140) (size := 1) w #[] 0 (by simp) (by simp) rfl)
  go_enter Tryz.func97, Tryz.ntmps97
  go_wp2_with (at_builtin; refine wpList_append_own _ rfl _ _ 63 rfl w.heap.size 140 i0 (.int .u64 0) 1 8 Tryz.underlying63 hi0 hz0 hz1 hz2 rfl (by decide) _ _ _ rfl HO0.out ⟨g, 0, none⟩ K C ((List.range K).map fun i => Value.int .u64 (W i : Int)) rfl ?c0 ?c1 ?c2 ?c3 ?c4 ?c5 ?_)
  case c0 => simp
  case c1 =>
    intro j u hj
    rw [List.getElem?_map] at hj
    by_cases e : j < K
    · rw [List.getElem?_range e] at hj
      simp at hj
      subst hj
      have := (hr.out.alloc (.cells #[] 140)).cell e
      have e2 : (⟨g, 0, none⟩ : Addr).add j = ⟨g, j, none⟩ := by rw [Addr.add_lit]; simp
      rw [e2]
      exact this
    · rw [List.getElem?_eq_none (by simp; omega)] at hj
      cases hj
  case c2 =>
    intro u hu
    obtain ⟨i, _, rfl⟩ := List.mem_map.1 hu
    rfl
  case c3 => unfold maxLen; omega
  case c4 => omega
  case c5 => simp
  intro v1 w1 hown1 hgrow1 hnil
  have hvn : v1 ≠ .slice none 0 0 := by simpa using hnil
  have hb := grown_below (balloc (Below.refl w.heap.size w) _) hgrow1 HO0.out (Nat.le_refl _) (by simp)
  have hown2 : w1.ownsRow w.heap.size 140 1 v1 ((List.range K).map W).length (((List.range K).map W).map fun x : Nat => Value.int .u64 (x : Int)) := by
    have e : (((List.range K).map W).map fun x : Nat => Value.int .u64 (x : Int)) = (List.range K).map fun i => Value.int .u64 (W i : Int) := by simp
    rw [e]
    simpa using hown1
  obtain ⟨g', C', rfl, hg', hw'⟩ := WsAt.of_own hown2 hvn
  have HB := hide hb
  have HW : Hid (WsAt w1 g' K C' W) := hide (by
    have e : ((List.range K).map W).length = K := by simp
    rw [e] at hw'
    exact hw'.congr (fun i hi => by simp [hi]))
  have e : ((List.range K).map W).length = K := by simp
  rw [e]
  clear hb hown1 hown2 hgrow1 hnil hvn hw' e
  go_wp2
  go_ret
  exact ⟨_, _, rfl, hg', HB.out, HW.out⟩
set_option maxHeartbeats 1000000 in
theorem clone_valueNo (g K C : Nat) (W : Nat → Nat) (w : World) (hr : Hid (WsAt w g K C W)) (hK : K ≤ 1000) :
    Calls Tryz.prog 71 #[.agg #[.slice (some ⟨g, 0, none⟩) K C]] w fun e w' => ∃ g' C', e = .returned (.agg #[.slice (some ⟨g', 0, none⟩) K C']) ∧ w.heap.size ≤ g' ∧ Below w.heap.size w w' ∧ WsAt w' g' K C' W := by
  go_enter Tryz.func71, Tryz.ntmps71
  go_wp2_with fail
  have HA : Hid (Below w.heap.size w ((w.alloc (.cells #[.slice (some ⟨g, 0, none⟩) K C] 65)).alloc (.cells #[.slice none 0 0] 65))) := hide (balloc (balloc (Below.refl _ _) _) _)
  have hzA : ((w.alloc (.cells #[.slice (some ⟨g, 0, none⟩) K C] 65)).alloc (.cells #[.slice none 0 0] 65)).heap.size = w.heap.size + 2 := by simp
  have hrA := (hr.out.alloc (.cells #[.slice (some ⟨g, 0, none⟩) K C] 65)).alloc (.cells #[.slice none 0 0] 65)
  have hcA : ((w.alloc (.cells #[.slice (some ⟨g, 0, none⟩) K C] 65)).alloc (.cells #[.slice none 0 0] 65)).cell? ⟨w.heap.size + 1, 0, none⟩ = some (.slice none 0 0) := by simp [go_sem]
  have hfA : ((w.alloc (.cells #[.slice (some ⟨g, 0, none⟩) K C] 65)).alloc (.cells #[.slice none 0 0] 65)).frozen? ⟨w.heap.size + 1, 0, none⟩ = false := by simp [go_sem]
  generalize (w.alloc (.cells #[.slice (some ⟨g, 0, none⟩) K C] 65)).alloc (.cells #[.slice none 0 0] 65) = wa at *
  refine (cloneU_any g K C W wa (hide hrA) hK).mono ?_
  rintro e w1 ⟨g1, C1, rfl, hg1, hb1, hw1⟩
  have f1 := (hb1.cell (p := ⟨w.heap.size + 1, 0, none⟩) (by show w.heap.size + 1 < _; omega)).trans hcA
  have f2 : w1.frozen? ⟨w.heap.size + 1, 0, none⟩ = false := by rw [World.frozen?_of_block (w := wa) (a := ⟨w.heap.size + 1, 0, none⟩) (hb1.block _ (by show w.heap.size + 1 < _; omega))]; exact hfA
  have HB1 := hide (bnext HA.out hb1)
  have HW1 := hide hw1
  clear hb1 hw1 hcA hfA
  go_wp2_with fail
  refine bodyPost_ret (v := .agg #[.slice (some ⟨g1, 0, none⟩) K C1]) (by simp [results, Tryz.results71, go_sem, f1]) rfl ?_
  exact ⟨_, _, rfl, by omega, HB1.out.setCell (by show w.heap.size ≤ w.heap.size + 1; omega) _, HW1.out.setOther (by show g1 ≠ w.heap.size + 1; omega) _⟩
end Go.Proofs.YtjfcbjomfbfoiaaGreatDoor

namespace Go.Proofs.YtjfcbjomfbfoiaaGreatDoor
open Go.RowKit
set_option maxHeartbeats 1000000 in
set_option maxRecDepth 100000 in
theorem newSearch_any (vl : Int) (a : Option Addr) (n c : Nat) (w : World) (hn : n ≤ 1000) :
    Calls Tryz.prog 70 #[.agg #[.int .i64 vl, .slice a n c]] w fun e w' => ∃ bS gS, e = .returned (.pointer (some ⟨bS, 0, none⟩)) ∧ w.heap.size ≤ bS ∧ w.heap.size ≤ gS ∧ Below w.heap.size w w' ∧ SeaAt w' bS gS w'.heap.size ((n + 63) / 64) a n c (fun _ => 0) (.slice none 0 0) [] := by
  have HNS := hide (fun W => newSet_blockNo n W (by omega))
  go_enter Tryz.func70, Tryz.ntmps70
  go_wp2_with fail
  refine wp_region_held_drew (S := (fun w' => w'.cell? ⟨w.heap.size, 1, none⟩ = some (.slice a n c))) (by kernel_rfl) (by (try dsimp only); go_keep) (fun hHeld => ?_)
  refine wpAnyH_take (i := 0) (v := ?_) rfl (by kernel_rfl) (by kernel_rfl) (by kernel_rfl) (fun _ _ _ h => h) (Or.inl ⟨by rfl, ?_⟩) (by assumption) ?_
  rotate_left
  · intro w hSw; (try dsimp only at hSw); go_simp; try with_reducible rfl
  simp only [Act.put, List.getElem_toArray, List.getElem_cons_zero, List.setIfInBounds_toArray, List.set_cons_zero, List.set_cons_succ]
  refine wpAnyH_take (i := 1) (v := ?_) rfl (by kernel_rfl) (by kernel_rfl) (by kernel_rfl) (fun _ _ _ h => h) (Or.inl ⟨by rfl, ?_⟩) (by assumption) ?_
  rotate_left
  · intro w hSw; (try dsimp only at hSw); go_simp; try with_reducible rfl
  simp only [Act.put, List.getElem_toArray, List.getElem_cons_zero, List.getElem_cons_succ, List.setIfInBounds_toArray, List.set_cons_zero, List.set_cons_succ]
  refine wpAnyH_take (i := 2) (v := ?_) rfl (by kernel_rfl) (by kernel_rfl) (by kernel_rfl) (fun _ _ _ h => h) (Or.inl ⟨by rfl, ?_⟩) (by assumption) ?_
  rotate_left
  · intro w hSw; (try dsimp only at hSw); go_simp; try with_reducible rfl
  simp only [Act.put, List.getElem_toArray, List.getElem_cons_zero, List.getElem_cons_succ, List.setIfInBounds_toArray, List.set_cons_zero, List.set_cons_succ]
  refine wpAnyH_take (i := 3) (v := ?_) rfl (by kernel_rfl) (by kernel_rfl) (by kernel_rfl) (fun _ _ _ h => h) (Or.inl ⟨by rfl, ?_⟩) (by assumption) ?_
  rotate_left
  · intro w hSw; (try dsimp only at hSw); go_simp; try with_reducible rfl
  simp only [Act.put, List.getElem_toArray, List.getElem_cons_zero, List.getElem_cons_succ, List.setIfInBounds_toArray, List.set_cons_zero, List.set_cons_succ]
  refine wpAnyH_take (i := 4) (v := ?_) rfl (by kernel_rfl) (by kernel_rfl) (by kernel_rfl) (fun _ _ _ h => h) (Or.inl ⟨by rfl, ?_⟩) (by assumption) ?_
  rotate_left
  · intro w hSw; (try dsimp only at hSw); go_simp; try with_reducible rfl
  simp only [Act.put, List.getElem_toArray, List.getElem_cons_zero, List.getElem_cons_succ, List.setIfInBounds_toArray, List.set_cons_zero, List.set_cons_succ]
  refine wpAnyH_ready (rs := [5]) (by kernel_rfl) (by simp) ?_
  refine AllReadyH.cons rfl (fun K hK => ?_) AllReadyH.nil
  go_simp
  go_at_call 96
  refine (HNS.out _).mono ?_
  rintro e w3 ⟨gS, rfl, hgS, hb3, hr3⟩
  have hz3 : w.heap.size + 1 ≤ w3.heap.size := by have := hb3.size; simp at this; omega
  have hc3 : w3.cell? ⟨w.heap.size, 1, none⟩ = some (.slice a n c) := (hb3.cell (p := ⟨w.heap.size, 1, none⟩) (by show w.heap.size < _; simp)).trans (by simp [go_sem])
  have hgl := hr3.lt
  have HB3 : Hid (Below w.heap.size w w3) := hide (bnext (w1 := (w.alloc (.cells #[.int .i64 vl, .slice a n c] 32)).drew) (balloc (Below.refl _ _) _).drew hb3)
  have HR3 := hide hr3
  have hgb : w.heap.size ≤ gS := by simp at hgS; omega
  clear hb3 hr3 hgS
  refine hK.out _ _ hc3 (fun hHeld => ?_)
  clear hK
  try simp only [Act.put, List.getElem_toArray, List.getElem_cons_zero, List.getElem_cons_succ, List.setIfInBounds_toArray, List.set_cons_zero, List.set_cons_succ]
  refine wpAnyH_take (i := 6) (v := ?_) rfl (by kernel_rfl) (by kernel_rfl) (by kernel_rfl) (fun _ _ _ h => h) (Or.inl ⟨by rfl, ?_⟩) (by assumption) ?_
  rotate_left
  · intro w hSw; (try dsimp only at hSw); go_simp; try with_reducible rfl
  simp only [Act.put, List.getElem_toArray, List.getElem_cons_zero, List.getElem_cons_succ, List.setIfInBounds_toArray, List.set_cons_zero, List.set_cons_succ]
  refine wpAnyH_ready (rs := [7]) (by kernel_rfl) (by simp) ?_
  refine AllReadyH.cons rfl (fun K hK => ?_) AllReadyH.nil
  go_simp
  refine hK.out _ _ ((World.cell?_alloc_lt _ _ _ (by show w.heap.size < _; omega)).trans hc3) (fun hHeld => ?_)
  clear hK
  try simp only [Act.put, List.getElem_toArray, List.getElem_cons_zero, List.getElem_cons_succ, List.setIfInBounds_toArray, List.set_cons_zero, List.set_cons_succ]
  refine wpAnyH_take (i := 8) (v := ?_) rfl (by kernel_rfl) (by kernel_rfl) (by kernel_rfl) (fun _ _ _ h => h) (Or.inl ⟨by rfl, ?_⟩) (by assumption) ?_
  rotate_left
  · intro w hSw; (try dsimp only at hSw); go_simp; try with_reducible rfl
  simp only [Act.put, List.getElem_toArray, List.getElem_cons_zero, List.getElem_cons_succ, List.setIfInBounds_toArray, List.set_cons_zero, List.set_cons_succ]
  refine wpAnyH_done (by kernel_rfl) ?_ _
  go_wp2_with fail
  go_ret
  refine ⟨w3.heap.size, gS, rfl, by omega, hgb, balloc HB3.out _, ⟨by simp, by simp, by simp, fun q => by simp, HR3.out.alloc _, World.ownsRow_nil _ _ _ _, by simp, by simp; omega, by omega, Nat.le_refl _⟩⟩
end Go.Proofs.YtjfcbjomfbfoiaaGreatDoor

namespace Go.Proofs.YtjfcbjomfbfoiaaGreatDoor
open Go.RowKit Go.Shelf
attribute [local go_sem] Oper.semAt_some
/-- The marks that the ranges over functions leave. -/
def mks (ds : List Nat) : List Deferred := ds.map fun D => { target := .collected D, args := #[] }
structure MksAt (W : World) (B : Nat) (ds : List Nat) : Prop where
  nd : ds.Nodup
  ge : ∀ D ∈ ds, B ≤ D
  obj : ∀ D ∈ ds, W.heap[D]? = some (.deferred (some []))
end Go.Proofs.YtjfcbjomfbfoiaaGreatDoor

namespace Go.Proofs.YtjfcbjomfbfoiaaGreatDoor
open Go.RowKit Go.Shelf
/-- Behind live := liveSets{..}. -/
structure FlA (w Y : World) (V : Nat) (a : Option Addr) (n c Kw : Nat) (xs : List Blk) (Gi LB Go : Nat) (go : Nat → Nat) (WO : Nat → Nat → Nat) : Prop where
  low : Below w.heap.size w Y
  f0 : Y.cell? ⟨w.heap.size, 0, none⟩ = some (.int .i64 (V : Int))
  f1 : Y.cell? ⟨w.heap.size, 1, none⟩ = some (.slice a n c)
  r0 : Y.cell? ⟨w.heap.size + 1, 0, none⟩ = some (.slice none 0 0)
  r1 : Y.cell? ⟨w.heap.size + 1, 1, none⟩ = some (.slice none 0 0)
  rz : ∀ q, Y.frozen? ⟨w.heap.size + 1, q, none⟩ = false
  gi : Y.rowIs Gi 65 n (fun _ => .slice none 0 0)
  l0 : Y.cell? ⟨LB, 0, none⟩ = some (.slice (some ⟨Gi, 0, none⟩) n n)
  l1 : Y.cell? ⟨LB, 1, none⟩ = some (.slice (some ⟨Go, 0, none⟩) n n)
  out : SetsAv Y Go n Kw go (fun _ => Kw) WO
  wd : AllWd WO
  has : ∀ b, b < n → ∀ v, hasN (WO b) v = true ↔ (b, v) ∈ phE xs n
  b1 : w.heap.size + 2 ≤ Gi
  b2 : w.heap.size + 2 ≤ LB
  b3 : w.heap.size + 2 ≤ Go
  b4 : ∀ i, i < n → w.heap.size + 2 ≤ go i
  d1 : Gi ≠ LB
  d2 : Gi ≠ Go
  d3 : LB ≠ Go
  d4 : ∀ i, i < n → go i ≠ Gi ∧ go i ≠ LB
set_option maxHeartbeats 1000000 in
theorem places_in (F : Fence) (n : Nat) (h6 : F.fn 72) (hro : F.round = none) (v0 v1 v2 v3 v4 v5 : Value) (w : World) :
    CallsIn F n Tryz.prog 72 #[.agg #[v0, v1, v2, v3, v4, v5]] w fun e w' => e = .returned (.func (.func 98) #[] #[.pointer (some ⟨w.heap.size, 0, none⟩)]) ∧ w' = w.alloc (.cells #[v0, v1, v2, v3, v4, v5] 79) := by
  refine callsIn_of_wp Tryz.func72 rfl h6 ?_ hro
  simp only [Tryz.ntmps72, List.size_toArray, List.length_cons, List.length_nil, Nat.reduceAdd, Nat.reduceSub, Array.replicate_succ, Array.replicate_zero, List.push_toArray, List.append_toArray, List.nil_append, List.cons_append]
  gi_wp2
  go_ret
  exact ⟨rfl, rfl⟩
theorem SetsAv.setCell {w : World} {G n K : Nat} {gs cp : Nat → Nat} {Ws : Nat → Nat → Nat} (h : SetsAv w G n K gs cp Ws) (p : Addr) (v : Value) (h1 : p.block ≠ G) (h2 : ∀ i, i < n → p.block ≠ gs i) : SetsAv (w.setCell p v) G n K gs cp Ws :=
  ⟨h.row.setOther (fun e => h1 e.symm) v, fun i hi => (h.set i hi).setOther (fun e => h2 i hi e.symm) v, h.inj, h.out⟩
theorem flA_of {w w1 X : World} {V : Nat} {a : Option Addr} {n c Kw : Nat} {xs : List Blk} {Gi LB Go : Nat} {go : Nat → Nat} {WO : Nat → Nat → Nat} (hw1 : Below w.heap.size w w1) (hz : w1.heap.size = w.heap.size + 2) (HBX : Below w1.heap.size w1 X)
    (f0 : w1.cell? ⟨w.heap.size, 0, none⟩ = some (.int .i64 (V : Int))) (f1 : w1.cell? ⟨w.heap.size, 1, none⟩ = some (.slice a n c)) (r0 : w1.cell? ⟨w.heap.size + 1, 0, none⟩ = some (.slice none 0 0)) (r1 : w1.cell? ⟨w.heap.size + 1, 1, none⟩ = some (.slice none 0 0)) (rz : ∀ q, w1.frozen? ⟨w.heap.size + 1, q, none⟩ = false)
    (GI : X.rowIs Gi 65 n (fun _ => .slice none 0 0)) (LBX : X.rowIs LB 61 2 (fun _ => .slice none 0 0)) (SO : SetsAv X Go n Kw go (fun _ => Kw) WO) (wd : AllWd WO) (hh : ∀ b, b < n → ∀ v, hasN (WO b) v = true ↔ (b, v) ∈ phE xs n)
    (b1 : w.heap.size + 2 ≤ Gi) (b2 : w.heap.size + 2 ≤ LB) (b3 : w.heap.size + 2 ≤ Go) (b4 : ∀ i, i < n → w.heap.size + 2 ≤ go i) (hne : Go ≠ LB ∧ Gi ≠ LB ∧ Gi ≠ Go ∧ ∀ i, i < n → go i ≠ Gi ∧ go i ≠ LB) :
    FlA w ((X.setCell ⟨LB, 0, none⟩ (.slice (some ⟨Gi, 0, none⟩) n n)).setCell ⟨LB, 1, none⟩ (.slice (some ⟨Go, 0, none⟩) n n)) V a n c Kw xs Gi LB Go go WO := by
  have hl := (LBX.set 0 (.slice (some ⟨Gi, 0, none⟩) n n)).set 1 (.slice (some ⟨Go, 0, none⟩) n n)
  have hc : ∀ p : Addr, p.block < w1.heap.size → p.block ≠ LB → ((X.setCell ⟨LB, 0, none⟩ (.slice (some ⟨Gi, 0, none⟩) n n)).setCell ⟨LB, 1, none⟩ (.slice (some ⟨Go, 0, none⟩) n n)).cell? p = w1.cell? p := fun p h1 h2 =>
    (World.cell?_setCell_far _ _ _ _ (fun e => h2 e.symm)).trans ((World.cell?_setCell_far _ _ _ _ (fun e => h2 e.symm)).trans (HBX.cell h1))
  refine ⟨((bnext hw1 HBX).setCell (by show w.heap.size ≤ LB; omega) _).setCell (by show w.heap.size ≤ LB; omega) _, (hc _ (by show w.heap.size < _; omega) (by show w.heap.size ≠ LB; omega)).trans f0, (hc _ (by show w.heap.size < _; omega) (by show w.heap.size ≠ LB; omega)).trans f1, (hc _ (by show w.heap.size + 1 < _; omega) (by show w.heap.size + 1 ≠ LB; omega)).trans r0, (hc _ (by show w.heap.size + 1 < _; omega) (by show w.heap.size + 1 ≠ LB; omega)).trans r1, fun q => ?_, (GI.setOther hne.2.1 _).setOther hne.2.1 _, (hl.cell (i := 0) (by decide)).trans (by simp), (hl.cell (i := 1) (by decide)).trans (by simp), (SO.setCell _ _ (fun e => hne.1 e.symm) (fun i hi e => (hne.2.2.2 i hi).2 e.symm)).setCell _ _ (fun e => hne.1 e.symm) (fun i hi e => (hne.2.2.2 i hi).2 e.symm), wd, hh, b1, b2, b3, b4, hne.2.1, hne.2.2.1, fun e => hne.1 e.symm, hne.2.2.2⟩
  exact (World.frozen?_setCell _ _ _ _).trans ((World.frozen?_setCell _ _ _ _).trans ((HBX.frozen (p := ⟨w.heap.size + 1, q, none⟩) (by show w.heap.size + 1 < _; omega)).trans (rz q)))
end Go.Proofs.YtjfcbjomfbfoiaaGreatDoor
