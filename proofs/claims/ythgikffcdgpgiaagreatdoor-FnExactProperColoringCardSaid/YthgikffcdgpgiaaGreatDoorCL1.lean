import Derived.Test.YthgikffcdgpgiaaGreatDoorWS0
import Derived.Test.YthgikffcdgpgiaaGreatDoorDF1
import Derived.RangeFuncNested
import Derived.RangeFuncBound
import Derived.RangeFuncCalls
import Derived.RangeFuncLeaves
import Derived.Shelf.Abstract
import Derived.Shelf.RegionOpen
import Derived.WalkKit
import Derived.OwnWalkIn
import Derived.TacticsInMore
import Derived.LoopNIn
import Derived.LoopIn
import Derived.Test.YthgikffcdgpgiaaGreatDoorDFP
import Derived.Test.YthgikffcdgpgiaaGreatDoorW5
import Derived.Laws.CopyOwn
import Derived.Test.YthgikffcdgpgiaaGreatDoorSP0
import Derived.Test.YthgikffcdgpgiaaGreatDoorRC2
import Derived.Test.YthgikffcdgpgiaaGreatDoorW2
import Derived.Test.YthgikffcdgpgiaaGreatDoorW14c
import Derived.Test.YthgikffcdgpgiaaGreatDoorPL1
namespace Go.Proofs.YthgikffcdgpgiaaGreatDoor
open Go.RowKit
set_option maxHeartbeats 1000000 in
set_option maxRecDepth 100000 in
theorem cloneU_any (g K C : Nat) (W : Nat → Nat) (w : World) (hr : Hid (WsAt w g K C W)) (hK : K ≤ 1000) :
    Calls Tryz.prog 110 #[.slice (some ⟨g, 0, none⟩) K C] w fun e w' => ∃ g' C', e = .returned (.slice (some ⟨g', 0, none⟩) K C') ∧ w.heap.size ≤ g' ∧ Below w.heap.size w w' ∧ WsAt w' g' K C' W := by
  obtain ⟨i0, hi0, hz0, hz1, hz2⟩ := info_parts Tryz.infoU64valueNo
  have q22 : ∀ (w : World) (a : Option Addr) (n c n' c' : Nat), (binOp .eql 73 (.slice a n c) (.slice none n' c')).run Tryz.prog w = .ok (.bool a.isNone) w := fun w a n c n' c' => Lib.run_eql_slice_nil w _ _ a n c n' c' Tryz.underlying73
  have hg := hr.out.lt
  have HO0 : Hid ((w.alloc (.cells #[] 133)).ownsRow w.heap.size 133 1 (.slice (some ⟨w.heap.size, 0, none⟩) 0 0) 0 []) := hide (World.ownsRow_lit (base := w.heap.size) (e := 133) (size := 1) w #[] 0 (by simp) (by simp) rfl)
  go_enter Tryz.func110, Tryz.ntmps110
  go_wp2_with (at_builtin; refine wpList_append_own _ rfl _ _ 73 rfl w.heap.size 133 i0 (.int .u64 0) 1 8 Tryz.underlying73 hi0 hz0 hz1 hz2 rfl (by decide) _ _ _ rfl HO0.out ⟨g, 0, none⟩ K C ((List.range K).map fun i => Value.int .u64 (W i : Int)) rfl ?c0 ?c1 ?c2 ?c3 ?c4 ?c5 ?_)
  case c0 => simp
  case c1 =>
    intro j u hj
    rw [List.getElem?_map] at hj
    by_cases e : j < K
    · rw [List.getElem?_range e] at hj
      simp at hj
      subst hj
      have := (hr.out.alloc (.cells #[] 133)).cell e
      have e2 : (⟨g, 0, none⟩ : Addr).add j = ⟨g, j, none⟩ := by rw [Addr.add_lit]; simp
      rw [e2]
      exact this
    · rw [List.getElem?_eq_none (by simp; omega)] at hj
      cases hj
  case c2 =>
    intro u hu
    obtain ⟨i, _, rfl⟩ := List.mem_map.1 hu
    rfl
  case c3 => unfold maxLen; omega
  case c4 => omega
  case c5 => simp
  intro v1 w1 hown1 hgrow1 hnil
  have hvn : v1 ≠ .slice none 0 0 := by simpa using hnil
  have hb := grown_below (balloc (Below.refl w.heap.size w) _) hgrow1 HO0.out (Nat.le_refl _) (by simp)
  have hown2 : w1.ownsRow w.heap.size 133 1 v1 ((List.range K).map W).length (((List.range K).map W).map fun x : Nat => Value.int .u64 (x : Int)) := by
    have e : (((List.range K).map W).map fun x : Nat => Value.int .u64 (x : Int)) = (List.range K).map fun i => Value.int .u64 (W i : Int) := by simp
    rw [e]
    simpa using hown1
  obtain ⟨g', C', rfl, hg', hw'⟩ := WsAt.of_own hown2 hvn
  have HB := hide hb
  have HW : Hid (WsAt w1 g' K C' W) := hide (by
    have e : ((List.range K).map W).length = K := by simp
    rw [e] at hw'
    exact hw'.congr (fun i hi => by simp [hi]))
  have e : ((List.range K).map W).length = K := by simp
  rw [e]
  clear hb hown1 hown2 hgrow1 hnil hvn hw' e
  go_wp2
  go_ret
  exact ⟨_, _, rfl, hg', HB.out, HW.out⟩
set_option maxHeartbeats 1000000 in
theorem clone_valueNo (g K C : Nat) (W : Nat → Nat) (w : World) (hr : Hid (WsAt w g K C W)) (hK : K ≤ 1000) :
    Calls Tryz.prog 61 #[.agg #[.slice (some ⟨g, 0, none⟩) K C]] w fun e w' => ∃ g' C', e = .returned (.agg #[.slice (some ⟨g', 0, none⟩) K C']) ∧ w.heap.size ≤ g' ∧ Below w.heap.size w w' ∧ WsAt w' g' K C' W := by
  go_enter Tryz.func61, Tryz.ntmps61
  go_wp2_with fail
  have HA : Hid (Below w.heap.size w ((w.alloc (.cells #[.slice (some ⟨g, 0, none⟩) K C] 75)).alloc (.cells #[.slice none 0 0] 75))) := hide (balloc (balloc (Below.refl _ _) _) _)
  have hzA : ((w.alloc (.cells #[.slice (some ⟨g, 0, none⟩) K C] 75)).alloc (.cells #[.slice none 0 0] 75)).heap.size = w.heap.size + 2 := by simp
  have hrA := (hr.out.alloc (.cells #[.slice (some ⟨g, 0, none⟩) K C] 75)).alloc (.cells #[.slice none 0 0] 75)
  have hcA : ((w.alloc (.cells #[.slice (some ⟨g, 0, none⟩) K C] 75)).alloc (.cells #[.slice none 0 0] 75)).cell? ⟨w.heap.size + 1, 0, none⟩ = some (.slice none 0 0) := by simp [go_sem]
  have hfA : ((w.alloc (.cells #[.slice (some ⟨g, 0, none⟩) K C] 75)).alloc (.cells #[.slice none 0 0] 75)).frozen? ⟨w.heap.size + 1, 0, none⟩ = false := by simp [go_sem]
  generalize (w.alloc (.cells #[.slice (some ⟨g, 0, none⟩) K C] 75)).alloc (.cells #[.slice none 0 0] 75) = wa at *
  refine (cloneU_any g K C W wa (hide hrA) hK).mono ?_
  rintro e w1 ⟨g1, C1, rfl, hg1, hb1, hw1⟩
  have f1 := (hb1.cell (p := ⟨w.heap.size + 1, 0, none⟩) (by show w.heap.size + 1 < _; omega)).trans hcA
  have f2 : w1.frozen? ⟨w.heap.size + 1, 0, none⟩ = false := by rw [World.frozen?_of_block (w := wa) (a := ⟨w.heap.size + 1, 0, none⟩) (hb1.block _ (by show w.heap.size + 1 < _; omega))]; exact hfA
  have HB1 := hide (bnext HA.out hb1)
  have HW1 := hide hw1
  clear hb1 hw1 hcA hfA
  go_wp2_with fail
  refine bodyPost_ret (v := .agg #[.slice (some ⟨g1, 0, none⟩) K C1]) (by simp [results, Tryz.results61, go_sem, f1]) rfl ?_
  exact ⟨_, _, rfl, by omega, HB1.out.setCell (by show w.heap.size ≤ w.heap.size + 1; omega) _, HW1.out.setOther (by show g1 ≠ w.heap.size + 1; omega) _⟩
end Go.Proofs.YthgikffcdgpgiaaGreatDoor

namespace Go.Proofs.YthgikffcdgpgiaaGreatDoor
open Go.RowKit
set_option maxHeartbeats 1000000 in
set_option maxRecDepth 100000 in
theorem newSearch_any (vl : Int) (a : Option Addr) (n c : Nat) (w : World) (hn : n ≤ 1000) :
    Calls Tryz.prog 53 #[.agg #[.int .i64 vl, .slice a n c]] w fun e w' => ∃ bS gS, e = .returned (.pointer (some ⟨bS, 0, none⟩)) ∧ w.heap.size ≤ bS ∧ w.heap.size ≤ gS ∧ Below w.heap.size w w' ∧ SeaAt w' bS gS w'.heap.size ((n + 63) / 64) a n c (fun _ => 0) (.slice none 0 0) [] := by
  have HNS := hide (fun W => newSet_blockNo n W (by omega))
  go_enter Tryz.func53, Tryz.ntmps53
  go_wp2_with fail
  refine wp_region_held_drew (S := (fun w' => w'.cell? ⟨w.heap.size, 1, none⟩ = some (.slice a n c))) (by kernel_rfl) (by (try dsimp only); go_keep) (fun hHeld => ?_)
  refine wpAnyH_take (i := 0) (v := ?_) rfl (by kernel_rfl) (by kernel_rfl) (by kernel_rfl) (fun _ _ _ h => h) (Or.inl ⟨by rfl, ?_⟩) (by assumption) ?_
  rotate_left
  · intro w hSw; (try dsimp only at hSw); go_simp; try with_reducible rfl
  simp only [Act.put, List.getElem_toArray, List.getElem_cons_zero, List.setIfInBounds_toArray, List.set_cons_zero, List.set_cons_succ]
  refine wpAnyH_take (i := 1) (v := ?_) rfl (by kernel_rfl) (by kernel_rfl) (by kernel_rfl) (fun _ _ _ h => h) (Or.inl ⟨by rfl, ?_⟩) (by assumption) ?_
  rotate_left
  · intro w hSw; (try dsimp only at hSw); go_simp; try with_reducible rfl
  simp only [Act.put, List.getElem_toArray, List.getElem_cons_zero, List.getElem_cons_succ, List.setIfInBounds_toArray, List.set_cons_zero, List.set_cons_succ]
  refine wpAnyH_take (i := 2) (v := ?_) rfl (by kernel_rfl) (by kernel_rfl) (by kernel_rfl) (fun _ _ _ h => h) (Or.inl ⟨by rfl, ?_⟩) (by assumption) ?_
  rotate_left
  · intro w hSw; (try dsimp only at hSw); go_simp; try with_reducible rfl
  simp only [Act.put, List.getElem_toArray, List.getElem_cons_zero, List.getElem_cons_succ, List.setIfInBounds_toArray, List.set_cons_zero, List.set_cons_succ]
  refine wpAnyH_take (i := 3) (v := ?_) rfl (by kernel_rfl) (by kernel_rfl) (by kernel_rfl) (fun _ _ _ h => h) (Or.inl ⟨by rfl, ?_⟩) (by assumption) ?_
  rotate_left
  · intro w hSw; (try dsimp only at hSw); go_simp; try with_reducible rfl
  simp only [Act.put, List.getElem_toArray, List.getElem_cons_zero, List.getElem_cons_succ, List.setIfInBounds_toArray, List.set_cons_zero, List.set_cons_succ]
  refine wpAnyH_take (i := 4) (v := ?_) rfl (by kernel_rfl) (by kernel_rfl) (by kernel_rfl) (fun _ _ _ h => h) (Or.inl ⟨by rfl, ?_⟩) (by assumption) ?_
  rotate_left
  · intro w hSw; (try dsimp only at hSw); go_simp; try with_reducible rfl
  simp only [Act.put, List.getElem_toArray, List.getElem_cons_zero, List.getElem_cons_succ, List.setIfInBounds_toArray, List.set_cons_zero, List.set_cons_succ]
  refine wpAnyH_ready (rs := [5]) (by kernel_rfl) (by simp) ?_
  refine AllReadyH.cons rfl (fun K hK => ?_) AllReadyH.nil
  go_simp
  go_at_call 91
  refine (HNS.out _).mono ?_
  rintro e w3 ⟨gS, rfl, hgS, hb3, hr3⟩
  have hz3 : w.heap.size + 1 ≤ w3.heap.size := by have := hb3.size; simp at this; omega
  have hc3 : w3.cell? ⟨w.heap.size, 1, none⟩ = some (.slice a n c) := (hb3.cell (p := ⟨w.heap.size, 1, none⟩) (by show w.heap.size < _; simp)).trans (by simp [go_sem])
  have hgl := hr3.lt
  have HB3 : Hid (Below w.heap.size w w3) := hide (bnext (w1 := (w.alloc (.cells #[.int .i64 vl, .slice a n c] 32)).drew) (balloc (Below.refl _ _) _).drew hb3)
  have HR3 := hide hr3
  have hgb : w.heap.size ≤ gS := by simp at hgS; omega
  clear hb3 hr3 hgS
  refine hK.out _ _ hc3 (fun hHeld => ?_)
  clear hK
  try simp only [Act.put, List.getElem_toArray, List.getElem_cons_zero, List.getElem_cons_succ, List.setIfInBounds_toArray, List.set_cons_zero, List.set_cons_succ]
  refine wpAnyH_take (i := 6) (v := ?_) rfl (by kernel_rfl) (by kernel_rfl) (by kernel_rfl) (fun _ _ _ h => h) (Or.inl ⟨by rfl, ?_⟩) (by assumption) ?_
  rotate_left
  · intro w hSw; (try dsimp only at hSw); go_simp; try with_reducible rfl
  simp only [Act.put, List.getElem_toArray, List.getElem_cons_zero, List.getElem_cons_succ, List.setIfInBounds_toArray, List.set_cons_zero, List.set_cons_succ]
  refine wpAnyH_ready (rs := [7]) (by kernel_rfl) (by simp) ?_
  refine AllReadyH.cons rfl (fun K hK => ?_) AllReadyH.nil
  go_simp
  refine hK.out _ _ ((World.cell?_alloc_lt _ _ _ (by show w.heap.size < _; omega)).trans hc3) (fun hHeld => ?_)
  clear hK
  try simp only [Act.put, List.getElem_toArray, List.getElem_cons_zero, List.getElem_cons_succ, List.setIfInBounds_toArray, List.set_cons_zero, List.set_cons_succ]
  refine wpAnyH_take (i := 8) (v := ?_) rfl (by kernel_rfl) (by kernel_rfl) (by kernel_rfl) (fun _ _ _ h => h) (Or.inl ⟨by rfl, ?_⟩) (by assumption) ?_
  rotate_left
  · intro w hSw; (try dsimp only at hSw); go_simp; try with_reducible rfl
  simp only [Act.put, List.getElem_toArray, List.getElem_cons_zero, List.getElem_cons_succ, List.setIfInBounds_toArray, List.set_cons_zero, List.set_cons_succ]
  refine wpAnyH_done (by kernel_rfl) ?_ _
  go_wp2_with fail
  go_ret
  refine ⟨w3.heap.size, gS, rfl, by omega, hgb, balloc HB3.out _, ⟨by simp, by simp, by simp, fun q => by simp, HR3.out.alloc _, World.ownsRow_nil _ _ _ _, by simp, by simp; omega, by omega, Nat.le_refl _⟩⟩
end Go.Proofs.YthgikffcdgpgiaaGreatDoor

namespace Go.Proofs.YthgikffcdgpgiaaGreatDoor
open Go.RowKit Go.Shelf
attribute [local go_sem] Oper.semAt_some
/-- The marks that the ranges over functions leave. -/
def mks (ds : List Nat) : List Deferred := ds.map fun D => { target := .collected D, args := #[] }
structure MksAt (W : World) (B : Nat) (ds : List Nat) : Prop where
  nd : ds.Nodup
  ge : ∀ D ∈ ds, B ≤ D
  obj : ∀ D ∈ ds, W.heap[D]? = some (.deferred (some []))
end Go.Proofs.YthgikffcdgpgiaaGreatDoor

namespace Go.Proofs.YthgikffcdgpgiaaGreatDoor
open Go.RowKit Go.Shelf
/-- Behind live := liveSets{..}. -/
structure FlA (w Y : World) (V : Nat) (a : Option Addr) (n c Kw : Nat) (xs : List Blk) (Gi LB Go : Nat) (go : Nat → Nat) (WO : Nat → Nat → Nat) : Prop where
  low : Below w.heap.size w Y
  f0 : Y.cell? ⟨w.heap.size, 0, none⟩ = some (.int .i64 (V : Int))
  f1 : Y.cell? ⟨w.heap.size, 1, none⟩ = some (.slice a n c)
  r0 : Y.cell? ⟨w.heap.size + 1, 0, none⟩ = some (.slice none 0 0)
  r1 : Y.cell? ⟨w.heap.size + 1, 1, none⟩ = some (.slice none 0 0)
  rz : ∀ q, Y.frozen? ⟨w.heap.size + 1, q, none⟩ = false
  gi : Y.rowIs Gi 75 n (fun _ => .slice none 0 0)
  l0 : Y.cell? ⟨LB, 0, none⟩ = some (.slice (some ⟨Gi, 0, none⟩) n n)
  l1 : Y.cell? ⟨LB, 1, none⟩ = some (.slice (some ⟨Go, 0, none⟩) n n)
  out : SetsAv Y Go n Kw go (fun _ => Kw) WO
  wd : AllWd WO
  has : ∀ b, b < n → ∀ v, hasN (WO b) v = true ↔ (b, v) ∈ phE xs n
  b1 : w.heap.size + 2 ≤ Gi
  b2 : w.heap.size + 2 ≤ LB
  b3 : w.heap.size + 2 ≤ Go
  b4 : ∀ i, i < n → w.heap.size + 2 ≤ go i
  d1 : Gi ≠ LB
  d2 : Gi ≠ Go
  d3 : LB ≠ Go
  d4 : ∀ i, i < n → go i ≠ Gi ∧ go i ≠ LB
set_option maxHeartbeats 1000000 in
theorem places_in (F : Fence) (n : Nat) (h6 : F.fn 97) (hro : F.round = none) (v0 v1 v2 v3 v4 v5 : Value) (w : World) :
    CallsIn F n Tryz.prog 97 #[.agg #[v0, v1, v2, v3, v4, v5]] w fun e w' => e = .returned (.func (.func 124) #[] #[.pointer (some ⟨w.heap.size, 0, none⟩)]) ∧ w' = w.alloc (.cells #[v0, v1, v2, v3, v4, v5] 57) := by
  refine callsIn_of_wp Tryz.func97 rfl h6 ?_ hro
  simp only [Tryz.ntmps97, List.size_toArray, List.length_cons, List.length_nil, Nat.reduceAdd, Nat.reduceSub, Array.replicate_succ, Array.replicate_zero, List.push_toArray, List.append_toArray, List.nil_append, List.cons_append]
  gi_wp2
  go_ret
  exact ⟨rfl, rfl⟩
theorem SetsAv.setCell {w : World} {G n K : Nat} {gs cp : Nat → Nat} {Ws : Nat → Nat → Nat} (h : SetsAv w G n K gs cp Ws) (p : Addr) (v : Value) (h1 : p.block ≠ G) (h2 : ∀ i, i < n → p.block ≠ gs i) : SetsAv (w.setCell p v) G n K gs cp Ws :=
  ⟨h.row.setOther (fun e => h1 e.symm) v, fun i hi => (h.set i hi).setOther (fun e => h2 i hi e.symm) v, h.inj, h.out⟩
theorem flA_of {w w1 X : World} {V : Nat} {a : Option Addr} {n c Kw : Nat} {xs : List Blk} {Gi LB Go : Nat} {go : Nat → Nat} {WO : Nat → Nat → Nat} (hw1 : Below w.heap.size w w1) (hz : w1.heap.size = w.heap.size + 2) (HBX : Below w1.heap.size w1 X)
    (f0 : w1.cell? ⟨w.heap.size, 0, none⟩ = some (.int .i64 (V : Int))) (f1 : w1.cell? ⟨w.heap.size, 1, none⟩ = some (.slice a n c)) (r0 : w1.cell? ⟨w.heap.size + 1, 0, none⟩ = some (.slice none 0 0)) (r1 : w1.cell? ⟨w.heap.size + 1, 1, none⟩ = some (.slice none 0 0)) (rz : ∀ q, w1.frozen? ⟨w.heap.size + 1, q, none⟩ = false)
    (GI : X.rowIs Gi 75 n (fun _ => .slice none 0 0)) (LBX : X.rowIs LB 115 2 (fun _ => .slice none 0 0)) (SO : SetsAv X Go n Kw go (fun _ => Kw) WO) (wd : AllWd WO) (hh : ∀ b, b < n → ∀ v, hasN (WO b) v = true ↔ (b, v) ∈ phE xs n)
    (b1 : w.heap.size + 2 ≤ Gi) (b2 : w.heap.size + 2 ≤ LB) (b3 : w.heap.size + 2 ≤ Go) (b4 : ∀ i, i < n → w.heap.size + 2 ≤ go i) (hne : Go ≠ LB ∧ Gi ≠ LB ∧ Gi ≠ Go ∧ ∀ i, i < n → go i ≠ Gi ∧ go i ≠ LB) :
    FlA w ((X.setCell ⟨LB, 0, none⟩ (.slice (some ⟨Gi, 0, none⟩) n n)).setCell ⟨LB, 1, none⟩ (.slice (some ⟨Go, 0, none⟩) n n)) V a n c Kw xs Gi LB Go go WO := by
  have hl := (LBX.set 0 (.slice (some ⟨Gi, 0, none⟩) n n)).set 1 (.slice (some ⟨Go, 0, none⟩) n n)
  have hc : ∀ p : Addr, p.block < w1.heap.size → p.block ≠ LB → ((X.setCell ⟨LB, 0, none⟩ (.slice (some ⟨Gi, 0, none⟩) n n)).setCell ⟨LB, 1, none⟩ (.slice (some ⟨Go, 0, none⟩) n n)).cell? p = w1.cell? p := fun p h1 h2 =>
    (World.cell?_setCell_far _ _ _ _ (fun e => h2 e.symm)).trans ((World.cell?_setCell_far _ _ _ _ (fun e => h2 e.symm)).trans (HBX.cell h1))
  refine ⟨((bnext hw1 HBX).setCell (by show w.heap.size ≤ LB; omega) _).setCell (by show w.heap.size ≤ LB; omega) _, (hc _ (by show w.heap.size < _; omega) (by show w.heap.size ≠ LB; omega)).trans f0, (hc _ (by show w.heap.size < _; omega) (by show w.heap.size ≠ LB; omega)).trans f1, (hc _ (by show w.heap.size + 1 < _; omega) (by show w.heap.size + 1 ≠ LB; omega)).trans r0, (hc _ (by show w.heap.size + 1 < _; omega) (by show w.heap.size + 1 ≠ LB; omega)).trans r1, fun q => ?_, (GI.setOther hne.2.1 _).setOther hne.2.1 _, (hl.cell (i := 0) (by decide)).trans (by simp), (hl.cell (i := 1) (by decide)).trans (by simp), (SO.setCell _ _ (fun e => hne.1 e.symm) (fun i hi e => (hne.2.2.2 i hi).2 e.symm)).setCell _ _ (fun e => hne.1 e.symm) (fun i hi e => (hne.2.2.2 i hi).2 e.symm), wd, hh, b1, b2, b3, b4, hne.2.1, hne.2.2.1, fun e => hne.1 e.symm, hne.2.2.2⟩
  exact (World.frozen?_setCell _ _ _ _).trans ((World.frozen?_setCell _ _ _ _).trans ((HBX.frozen (p := ⟨w.heap.size + 1, q, none⟩) (by show w.heap.size + 1 < _; omega)).trans (rz q)))
end Go.Proofs.YthgikffcdgpgiaaGreatDoor

namespace Go.Proofs.YthgikffcdgpgiaaGreatDoor
open Go.RowKit
/-- What stays as it is. -/
structure FlP where
  w : World
  V : Nat
  n : Nat
  c : Nat
  Kw : Nat
  K2 : Nat
  a : Option Addr
  xs : List Blk
  Gi : Nat
  LB : Nat
  Go : Nat
  DB : Nat
  Gd : Nat
  Gn : Nat
  bS : Nat
  gS : Nat
  sA : Nat
  s3 : Nat
  M : Nat
  go : Nat → Nat
  gd : Nat → Nat
  WO : Nat → Nat → Nat
structure FlD where
  gi : Nat → Nat
  ci : Nat → Nat
  WI : Nat → Nat → Nat
  WD : Nat → Nat → Nat
  nx : Nat → Value
  Ws : Nat → Nat
  vS : Value
  Lf : List Nat
structure FlS (p : FlP) : Prop where
  a1 : p.w.heap.size + 2 ≤ p.Gi ∧ p.Gi < p.sA
  a2 : p.w.heap.size + 2 ≤ p.LB ∧ p.LB < p.sA
  a3 : p.w.heap.size + 2 ≤ p.Go ∧ p.Go < p.sA
  a4 : ∀ i, i < p.n → p.w.heap.size + 2 ≤ p.go i ∧ p.go i < p.sA
  d1 : p.Gi ≠ p.LB
  d2 : p.Gi ≠ p.Go
  d3 : p.LB ≠ p.Go
  d4 : ∀ i, i < p.n → p.go i ≠ p.Gi ∧ p.go i ≠ p.LB
  a5 : p.sA ≤ p.Gd ∧ p.Gd < p.s3
  a6 : ∀ i, i < p.n → p.sA ≤ p.gd i ∧ p.gd i < p.s3
  a7 : p.DB = p.s3
  a8 : p.Gn = p.s3 + 1
  a9 : p.s3 + 2 ≤ p.bS ∧ p.bS < p.M
  a10 : p.s3 + 2 ≤ p.gS ∧ p.gS < p.M
  a11 : p.bS ≠ p.gS
def tgI (xs : List Blk) (i : Nat) : List Int := (xs[i]?).elim [] fun x => x.term.targets
theorem tgI_at {xs : List Blk} {i : Nat} (h : i < xs.length) : tgI xs i = xs[i].term.targets := by simp [tgI, h]
structure FlK (p : FlP) (W : World) (k : Nat) (d : FlD) : Prop where
  low : Below p.w.heap.size p.w W
  sz : p.M ≤ W.heap.size
  f0 : W.cell? ⟨p.w.heap.size, 0, none⟩ = some (.int .i64 (p.V : Int))
  f1 : W.cell? ⟨p.w.heap.size, 1, none⟩ = some (.slice p.a p.n p.c)
  r0 : W.cell? ⟨p.w.heap.size + 1, 0, none⟩ = some (.slice none 0 0)
  r1 : W.cell? ⟨p.w.heap.size + 1, 1, none⟩ = some (.slice none 0 0)
  rz : ∀ q, W.frozen? ⟨p.w.heap.size + 1, q, none⟩ = false
  l0 : W.cell? ⟨p.LB, 0, none⟩ = some (.slice (some ⟨p.Gi, 0, none⟩) p.n p.n)
  l1 : W.cell? ⟨p.LB, 1, none⟩ = some (.slice (some ⟨p.Go, 0, none⟩) p.n p.n)
  d0 : W.cell? ⟨p.DB, 0, none⟩ = some (.slice (some ⟨p.Gd, 0, none⟩) p.n p.n)
  out : SetsAv W p.Go p.n p.Kw p.go (fun _ => p.Kw) p.WO
  inr : W.rowIs p.Gi 75 p.n (fun i => if i < k then .slice (some ⟨d.gi i, 0, none⟩) p.Kw (d.ci i) else .slice none 0 0)
  ins : ∀ i, i < k → WsAt W (d.gi i) p.Kw (d.ci i) (d.WI i)
  inj : ∀ i j, i < k → j < k → d.gi i = d.gi j → i = j
  igM : ∀ i, i < k → p.M ≤ d.gi i
  defs : SetsAv W p.Gd p.n p.Kw p.gd (fun _ => p.Kw) d.WD
  nxr : W.rowIs p.Gn 26 p.n (fun i => if i < k then d.nx i else .slice none 0 0)
  nxs : ∀ i, i < k → ∃ a' c', d.nx i = .slice a' (tgI p.xs i).length c' ∧ IntsP W (fun b => p.M ≤ b ∧ (∀ j, j < k → b ≠ d.gi j) ∧ some b ≠ d.vS.ownBlock) a' (tgI p.xs i)
  sea : SeaAt W p.bS p.gS p.M p.K2 p.a p.n p.c d.Ws d.vS d.Lf
  giv : ∀ i, i < k → some (d.gi i) ≠ d.vS.ownBlock
def updN {α : Type} (f : Nat → α) (k : Nat) (v : α) : Nat → α := fun i => if i = k then v else f i
theorem updN_at {α : Type} (f : Nat → α) (k : Nat) (v : α) : updN f k v k = v := by simp [updN]
theorem updN_ne {α : Type} (f : Nat → α) (k : Nat) (v : α) {i : Nat} (h : i ≠ k) : updN f k v i = f i := by simp [updN, h]
theorem FlK.next {p : FlP} {W W' : World} {k : Nat} {d : FlD} (h : FlK p W k d) (s : FlS p) (hk : k < p.n) {gB CB : Nat} {I' D' : Nat → Nat} {nk v' : Value} {Ws' : Nat → Nat} {Lf' : List Nat}
    (hos : W'.os = W.os) (htp : W'.tape = W.tape) (hop : W'.output = W.output) (hsz : W.heap.size ≤ W'.heap.size)
    (fr : ∀ q, q < W.heap.size → q ≠ p.Gi → q ≠ p.gd k → q ≠ p.Gn → q ≠ p.bS → q ≠ p.gS → some q ≠ d.vS.ownBlock → W'.heap[q]? = W.heap[q]?)
    (hgB : W.heap.size ≤ gB) (hI : WsAt W' gB p.Kw CB I') (hGi : W'.rowIs p.Gi 75 p.n (fun i => if i = k then .slice (some ⟨gB, 0, none⟩) p.Kw CB else if i < k then .slice (some ⟨d.gi i, 0, none⟩) p.Kw (d.ci i) else .slice none 0 0))
    (hD : WsAt W' (p.gd k) p.Kw p.Kw D') (hGn : W'.rowIs p.Gn 26 p.n (fun i => if i = k then nk else if i < k then d.nx i else .slice none 0 0))
    (hnk : ∃ a' c', nk = .slice a' (tgI p.xs k).length c' ∧ IntsP W' (fun b => W.heap.size ≤ b ∧ b ≠ gB ∧ some b ≠ v'.ownBlock) a' (tgI p.xs k))
    (hs : SeaAt W' p.bS p.gS p.M p.K2 p.a p.n p.c Ws' v' Lf') (hv : v'.ownBlock = d.vS.ownBlock ∨ ∀ q, v'.ownBlock = some q → W.heap.size ≤ q) (hvB : some gB ≠ v'.ownBlock) :
    FlK p W' (k + 1) ⟨updN d.gi k gB, updN d.ci k CB, updN d.WI k I', updN d.WD k D', updN d.nx k nk, Ws', v', Lf'⟩ := by
  have hvM : ∀ q, d.vS.ownBlock = some q → p.M ≤ q := fun q e => (h.sea.own.lt q e).1
  have hM := s.a9
  have hM2 := s.a10
  have hG := s.a5
  have hz := h.sz
  have hw := h.low.size
  have h7 := s.a7
  have h8 := s.a8
  have hgk := s.a6 k hk
  have lowb : ∀ q, q < p.M → q ≠ p.Gi → q ≠ p.gd k → q ≠ p.Gn → q ≠ p.bS → q ≠ p.gS → W'.heap[q]? = W.heap[q]? := fun q h1 h2 h3 h4 h5 h6 => fr q (by omega) h2 h3 h4 h5 h6 (fun e => by have := hvM q e.symm; omega)
  have a1 := s.a1
  have a2 := s.a2
  have a3 := s.a3
  have cA : ∀ q o v, q < p.sA → q ≠ p.Gi → W.cell? ⟨q, o, none⟩ = some v → W'.cell? ⟨q, o, none⟩ = some v := fun q o v h1 h2 hc => (cell_of (lowb q (by omega) h2 (by omega) (by omega) (by omega) (by omega))).trans hc
  have up : ∀ q, p.M ≤ q → q < W.heap.size → some q ≠ d.vS.ownBlock → W'.heap[q]? = W.heap[q]? := fun q h1 h2 h3 => fr q h2 (by omega) (by omega) (by omega) (by omega) (by omega) h3
  refine ⟨⟨hos.trans h.low.os, htp.trans h.low.tape, hop.trans h.low.output, Nat.le_trans hw hsz, fun q hq => (lowb q (by omega) (by omega) (by omega) (by omega) (by omega) (by omega)).trans (h.low.block q hq)⟩, Nat.le_trans hz hsz, cA _ _ _ (by omega) (by omega) h.f0, cA _ _ _ (by omega) (by omega) h.f1, cA _ _ _ (by omega) (by omega) h.r0, cA _ _ _ (by omega) (by omega) h.r1, fun q => ?rz, cA _ _ _ a2.2 (fun e => s.d1 e.symm) h.l0, cA _ _ _ a2.2 (fun e => s.d1 e.symm) h.l1, (cell_of (lowb p.DB (by omega) (by omega) (by omega) (by omega) (by omega) (by omega))).trans h.d0, ?out, ?inr, ?ins, ?inj, ?igM, ?defs, ?nxr, ?nxs, hs, ?giv⟩
  case rz => rw [World.frozen?_of_block (a := ⟨p.w.heap.size + 1, q, none⟩) (lowb (p.w.heap.size + 1) (by omega) (by omega) (by omega) (by omega) (by omega) (by omega))]; exact h.rz q
  case out =>
    refine ⟨h.out.row.of_block (lowb p.Go (by omega) (fun e => s.d2 e.symm) (by omega) (by omega) (by omega) (by omega)), fun i hi => ?_, h.out.inj, h.out.out⟩
    have := s.a4 i hi
    exact (h.out.set i hi).of_block (lowb _ (by omega) (s.d4 i hi).1 (by omega) (by omega) (by omega) (by omega))
  case inr =>
    refine hGi.congr (fun i _ => ?_)
    by_cases e : i = k
    · rw [if_pos e, if_pos (by omega), e]; simp only [updN_at]
    · rw [if_neg e]
      by_cases e2 : i < k
      · rw [if_pos e2, if_pos (by omega)]; simp only [updN_ne _ _ _ e]
      · rw [if_neg e2, if_neg (by omega)]
  case ins =>
    intro i hi
    by_cases e : i = k
    · subst e; simp only [updN_at]; exact hI
    · have hi2 : i < k := by omega
      simp only [updN_ne _ _ _ e]
      exact (h.ins i hi2).of_block (up _ (h.igM i hi2) (h.ins i hi2).lt (h.giv i hi2))
  case inj =>
    intro i j hi hj e
    by_cases e1 : i = k
    · by_cases e2 : j = k
      · omega
      · simp only [e1, updN_at, updN_ne _ _ _ e2] at e
        have := (h.ins j (by omega)).lt
        omega
    · by_cases e2 : j = k
      · simp only [e2, updN_at, updN_ne _ _ _ e1] at e
        have := (h.ins i (by omega)).lt
        omega
      · simp only [updN_ne _ _ _ e1, updN_ne _ _ _ e2] at e
        exact h.inj i j (by omega) (by omega) e
  case igM =>
    intro i hi
    by_cases e : i = k
    · subst e; simp only [updN_at]; omega
    · simp only [updN_ne _ _ _ e]; exact h.igM i (by omega)
  case defs =>
    refine ⟨h.defs.row.of_block (lowb p.Gd (by omega) (by omega) (fun e => h.defs.out k hk e.symm) (by omega) (by omega) (by omega)), fun i hi => ?_, h.defs.inj, h.defs.out⟩
    by_cases e : i = k
    · subst e; simp only [updN_at]; exact hD
    · simp only [updN_ne _ _ _ e]
      have := s.a6 i hi
      exact (h.defs.set i hi).of_block (lowb _ (by omega) (by omega) (fun e2 => e (h.defs.inj i k hi hk e2)) (by omega) (by omega) (by omega))
  case nxr =>
    refine hGn.congr (fun i _ => ?_)
    by_cases e : i = k
    · rw [if_pos e, if_pos (by omega), e]; simp only [updN_at]
    · rw [if_neg e]
      by_cases e2 : i < k
      · rw [if_pos e2, if_pos (by omega)]; simp only [updN_ne _ _ _ e]
      · rw [if_neg e2, if_neg (by omega)]
  case nxs =>
    intro i hi
    by_cases e : i = k
    · subst e
      simp only [updN_at]
      obtain ⟨a', c', e1, h1⟩ := hnk
      refine ⟨a', c', e1, fun q hq => ?_⟩
      obtain ⟨b, o, e2, hb, hc⟩ := h1 q hq
      refine ⟨b, o, e2, ⟨⟨by omega, fun j hj => ?_, hb.1.2.2⟩, hb.2⟩, hc⟩
      by_cases ej : j = i
      · rw [ej]; simp only [updN_at]; exact hb.1.2.1
      · simp only [updN_ne _ _ _ ej]
        have := (h.ins j (by omega)).lt
        omega
    · have hi2 : i < k := by omega
      simp only [updN_ne _ _ _ e]
      obtain ⟨a', c', e1, h1⟩ := h.nxs i hi2
      refine ⟨a', c', e1, fun q hq => ?_⟩
      obtain ⟨b, o, e2, hb, hc⟩ := h1 q hq
      refine ⟨b, o, e2, ⟨⟨hb.1.1, fun j hj => ?_, fun ev => ?_⟩, by omega⟩, (cell_of (up b hb.1.1 hb.2 hb.1.2.2)).trans hc⟩
      · by_cases ej : j = k
        · rw [ej]; simp only [updN_at]; omega
        · simp only [updN_ne _ _ _ ej]
          exact hb.1.2.1 j (by omega)
      · rcases hv with hv | hv
        · rw [hv] at ev; exact hb.1.2.2 ev
        · have := hv b ev.symm; omega
  case giv =>
    intro i hi
    by_cases e : i = k
    · subst e; simp only [updN_at]; exact hvB
    · have hi2 : i < k := by omega
      simp only [updN_ne _ _ _ e]
      intro ev
      rcases hv with hv | hv
      · rw [hv] at ev; exact h.giv i hi2 ev
      · have := hv _ ev.symm; have := (h.ins i hi2).lt; omega
end Go.Proofs.YthgikffcdgpgiaaGreatDoor

namespace Go.Proofs.YthgikffcdgpgiaaGreatDoor
open Go.RowKit
theorem flK_start {w Y w3 W0 : World} {V : Nat} {a : Option Addr} {n c Kw : Nat} {xs : List Blk} {Gi LB Go : Nat} {go : Nat → Nat} {WO : Nat → Nat → Nat} (h : FlA w Y V a n c Kw xs Gi LB Go go WO) {Gd : Nat} {gd : Nat → Nat} (hGd : Y.heap.size ≤ Gd) (hb3 : Below Y.heap.size Y w3) (hs3 : SetsAv w3 Gd n Kw gd (fun _ => Kw) (fun _ _ => 0)) (hgd : ∀ i, i < n → Y.heap.size ≤ gd i)
    {bS gS : Nat} (hbS : w3.heap.size + 2 ≤ bS) (hgS : w3.heap.size + 2 ≤ gS) (hb6 : Below (w3.heap.size + 2) ((w3.alloc (.cells #[.slice (some ⟨Gd, 0, none⟩) n n] 113)).alloc (.cells (madeCells #[.slice none 0 0] n) 26)) W0) (hsea : SeaAt W0 bS gS W0.heap.size ((n + 63) / 64) a n c (fun _ => 0) (.slice none 0 0) []) :
    FlS ⟨w, V, n, c, Kw, (n + 63) / 64, a, xs, Gi, LB, Go, w3.heap.size, Gd, w3.heap.size + 1, bS, gS, Y.heap.size, w3.heap.size, W0.heap.size, go, gd, WO⟩ ∧ FlK ⟨w, V, n, c, Kw, (n + 63) / 64, a, xs, Gi, LB, Go, w3.heap.size, Gd, w3.heap.size + 1, bS, gS, Y.heap.size, w3.heap.size, W0.heap.size, go, gd, WO⟩ W0 0 ⟨fun _ => 0, fun _ => 0, fun _ _ => 0, fun _ _ => 0, fun _ => .slice none 0 0, fun _ => 0, .slice none 0 0, []⟩ := by
  have hz3 := hb3.size
  have hw5 : ((w3.alloc (.cells #[.slice (some ⟨Gd, 0, none⟩) n n] 113)).alloc (.cells (madeCells #[.slice none 0 0] n) 26)).heap.size = w3.heap.size + 2 := by simp
  have h35 : Below w3.heap.size w3 ((w3.alloc (.cells #[.slice (some ⟨Gd, 0, none⟩) n n] 113)).alloc (.cells (madeCells #[.slice none 0 0] n) 26)) := balloc (balloc (Below.refl _ _) _) _
  have hz6 : w3.heap.size + 2 ≤ W0.heap.size := by have := hb6.size; omega
  have hB36 : Below w3.heap.size w3 W0 := h35.trans (hb6.mono (by omega))
  have hBY : Below Y.heap.size Y W0 := bnext hb3 hB36
  have hwY := h.low.size
  have gi := h.gi.lt
  have gl := World.block_lt_of_cell? Y _ h.l0
  have gg := h.out.row.lt
  have b1 := h.b1
  have b2 := h.b2
  have b3 := h.b3
  have hnr : ((w3.alloc (.cells #[.slice (some ⟨Gd, 0, none⟩) n n] 113)).alloc (.cells (madeCells #[.slice none 0 0] n) 26)).rowIs (w3.heap.size + 1) 26 n (fun _ => .slice none 0 0) := by
    have := World.rowIs_made (w3.alloc (.cells #[.slice (some ⟨Gd, 0, none⟩) n n] 113)) (.slice none 0 0) n 26
    rwa [World.size_alloc] at this
  have cY : ∀ p : Addr, p.block < Y.heap.size → W0.cell? p = Y.cell? p := fun p hp => hBY.cell hp
  have gl' : LB < Y.heap.size := gl
  refine ⟨⟨⟨b1, gi⟩, ⟨b2, gl⟩, ⟨b3, gg⟩, fun i hi => ⟨h.b4 i hi, (h.out.set i hi).lt⟩, h.d1, h.d2, h.d3, h.d4, ⟨hGd, hs3.row.lt⟩, fun i hi => ⟨hgd i hi, (hs3.set i hi).lt⟩, rfl, rfl, ⟨hbS, hsea.lb⟩, ⟨hgS, hsea.lg⟩, hsea.ne⟩, ?_⟩
  refine ⟨bnext h.low hBY, Nat.le_refl _, (cY _ (by show w.heap.size < _; omega)).trans h.f0, (cY _ (by show w.heap.size < _; omega)).trans h.f1, (cY _ (by show w.heap.size + 1 < _; omega)).trans h.r0, (cY _ (by show w.heap.size + 1 < _; omega)).trans h.r1, fun q => (hBY.frozen (p := ⟨w.heap.size + 1, q, none⟩) (by show w.heap.size + 1 < _; omega)).trans (h.rz q), (cY _ gl').trans h.l0, (cY _ gl').trans h.l1, (hb6.cell (p := ⟨w3.heap.size, 0, none⟩) (by show w3.heap.size < _; omega)).trans (by simp [go_sem]), h.out.keep hBY, (h.gi.of_block (hBY.block _ gi)).congr (fun i _ => by simp), fun i hi => absurd hi (by omega), fun i j hi => absurd hi (by omega), fun i hi => absurd hi (by omega), hs3.keep hB36, (hnr.of_block (hb6.block _ (by omega))).congr (fun i _ => by simp), fun i hi => absurd hi (by omega), hsea, fun i hi => absurd hi (by omega)⟩
end Go.Proofs.YthgikffcdgpgiaaGreatDoor
