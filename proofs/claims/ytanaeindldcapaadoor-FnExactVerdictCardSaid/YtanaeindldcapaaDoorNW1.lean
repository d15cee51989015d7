import Derived.Laws.CopyOwn
import Derived.Test.YtanaeindldcapaaDoorPU1
import Derived.Test.YtanaeindldcapaaDoorPL1
import Derived.Test.YtanaeindldcapaaDoorNV1
namespace Go.Proofs.YtanaeindldcapaaDoor
open Go.RowKit Go.Shelf
set_option maxHeartbeats 1000000 in
set_option maxRecDepth 100000 in
theorem newSearch_any (vl : Int) (a : Option Addr) (n c : Nat) (w : World) (hn : n ≤ 1000) :
    Calls Tryd.prog 15 #[.agg #[.int .i64 vl, .slice a n c]] w fun e w' => ∃ bS gS, e = .returned (.pointer (some ⟨bS, 0, none⟩)) ∧ w.heap.size ≤ bS ∧ w.heap.size ≤ gS ∧ Below w.heap.size w w' ∧ SeaAt w' bS gS w'.heap.size ((n + 63) / 64) a n c (fun _ => 0) (.slice none 0 0) [] := by
  have HNS := hide (fun W => newSet_blockNo n W (by omega))
  go_enter Tryd.func15, Tryd.ntmps15
  go_wp2_with fail
  refine wp_region_held_drew (S := (fun w' => w'.cell? ⟨w.heap.size, 1, none⟩ = some (.slice a n c))) (by kernel_rfl) (by (try dsimp only); go_keep) (fun hHeld => ?_)
  refine wpAnyH_take (i := 0) (v := ?_) rfl (by kernel_rfl) (by kernel_rfl) (by kernel_rfl) (fun _ _ _ h => h) (Or.inl ⟨by rfl, ?_⟩) (by assumption) ?_
  rotate_left
  · intro w hSw; (try dsimp only at hSw); go_simp; try with_reducible rfl
  simp only [Act.put, List.getElem_toArray, List.getElem_cons_zero, List.setIfInBounds_toArray, List.set_cons_zero, List.set_cons_succ]
  refine wpAnyH_take (i := 1) (v := ?_) rfl (by kernel_rfl) (by kernel_rfl) (by kernel_rfl) (fun _ _ _ h => h) (Or.inl ⟨by rfl, ?_⟩) (by assumption) ?_
  rotate_left
  · intro w hSw; (try dsimp only at hSw); go_simp; try with_reducible rfl
  simp only [Act.put, List.getElem_toArray, List.getElem_cons_zero, List.getElem_cons_succ, List.setIfInBounds_toArray, List.set_cons_zero, List.set_cons_succ]
  refine wpAnyH_take (i := 2) (v := ?_) rfl (by kernel_rfl) (by kernel_rfl) (by kernel_rfl) (fun _ _ _ h => h) (Or.inl ⟨by rfl, ?_⟩) (by assumption) ?_
  rotate_left
  · intro w hSw; (try dsimp only at hSw); go_simp; try with_reducible rfl
  simp only [Act.put, List.getElem_toArray, List.getElem_cons_zero, List.getElem_cons_succ, List.setIfInBounds_toArray, List.set_cons_zero, List.set_cons_succ]
  refine wpAnyH_take (i := 3) (v := ?_) rfl (by kernel_rfl) (by kernel_rfl) (by kernel_rfl) (fun _ _ _ h => h) (Or.inl ⟨by rfl, ?_⟩) (by assumption) ?_
  rotate_left
  · intro w hSw; (try dsimp only at hSw); go_simp; try with_reducible rfl
  simp only [Act.put, List.getElem_toArray, List.getElem_cons_zero, List.getElem_cons_succ, List.setIfInBounds_toArray, List.set_cons_zero, List.set_cons_succ]
  refine wpAnyH_take (i := 4) (v := ?_) rfl (by kernel_rfl) (by kernel_rfl) (by kernel_rfl) (fun _ _ _ h => h) (Or.inl ⟨by rfl, ?_⟩) (by assumption) ?_
  rotate_left
  · intro w hSw; (try dsimp only at hSw); go_simp; try with_reducible rfl
  simp only [Act.put, List.getElem_toArray, List.getElem_cons_zero, List.getElem_cons_succ, List.setIfInBounds_toArray, List.set_cons_zero, List.set_cons_succ]
  refine wpAnyH_ready (rs := [5]) (by kernel_rfl) (by simp) ?_
  refine AllReadyH.cons rfl (fun K hK => ?_) AllReadyH.nil
  go_simp
  go_at_call 36
  refine (HNS.out _).mono ?_
  rintro e w3 ⟨gS, rfl, hgS, hb3, hr3⟩
  have hz3 : w.heap.size + 1 ≤ w3.heap.size := by have := hb3.size; simp at this; omega
  have hc3 : w3.cell? ⟨w.heap.size, 1, none⟩ = some (.slice a n c) := (hb3.cell (p := ⟨w.heap.size, 1, none⟩) (by show w.heap.size < _; simp)).trans (by simp [go_sem])
  have hgl := hr3.lt
  have HB3 : Hid (Below w.heap.size w w3) := hide (bnext (w1 := (w.alloc (.cells #[.int .i64 vl, .slice a n c] 29)).drew) (balloc (Below.refl _ _) _).drew hb3)
  have HR3 := hide hr3
  have hgb : w.heap.size ≤ gS := by simp at hgS; omega
  clear hb3 hr3 hgS
  refine hK.out _ _ hc3 (fun hHeld => ?_)
  clear hK
  try simp only [Act.put, List.getElem_toArray, List.getElem_cons_zero, List.getElem_cons_succ, List.setIfInBounds_toArray, List.set_cons_zero, List.set_cons_succ]
  refine wpAnyH_take (i := 6) (v := ?_) rfl (by kernel_rfl) (by kernel_rfl) (by kernel_rfl) (fun _ _ _ h => h) (Or.inl ⟨by rfl, ?_⟩) (by assumption) ?_
  rotate_left
  · intro w hSw; (try dsimp only at hSw); go_simp; try with_reducible rfl
  simp only [Act.put, List.getElem_toArray, List.getElem_cons_zero, List.getElem_cons_succ, List.setIfInBounds_toArray, List.set_cons_zero, List.set_cons_succ]
  refine wpAnyH_ready (rs := [7]) (by kernel_rfl) (by simp) ?_
  refine AllReadyH.cons rfl (fun K hK => ?_) AllReadyH.nil
  go_simp
  refine hK.out _ _ ((World.cell?_alloc_lt _ _ _ (by show w.heap.size < _; omega)).trans hc3) (fun hHeld => ?_)
  clear hK
  try simp only [Act.put, List.getElem_toArray, List.getElem_cons_zero, List.getElem_cons_succ, List.setIfInBounds_toArray, List.set_cons_zero, List.set_cons_succ]
  refine wpAnyH_take (i := 8) (v := ?_) rfl (by kernel_rfl) (by kernel_rfl) (by kernel_rfl) (fun _ _ _ h => h) (Or.inl ⟨by rfl, ?_⟩) (by assumption) ?_
  rotate_left
  · intro w hSw; (try dsimp only at hSw); go_simp; try with_reducible rfl
  simp only [Act.put, List.getElem_toArray, List.getElem_cons_zero, List.getElem_cons_succ, List.setIfInBounds_toArray, List.set_cons_zero, List.set_cons_succ]
  refine wpAnyH_done (by kernel_rfl) ?_ _
  go_wp2_with fail
  go_ret
  refine ⟨w3.heap.size, gS, rfl, by omega, hgb, balloc HB3.out _, ⟨by simp, by simp, by simp, fun q => by simp, HR3.out.alloc _, World.ownsRow_nil _ _ _ _, by simp, by simp; omega, by omega, Nat.le_refl _⟩⟩
section
attribute [local go_sem] Oper.semAt_some
/-- The marks that the ranges over functions leave. -/
def mks (ds : List Nat) : List Deferred := ds.map fun D => { target := .collected D, args := #[] }
structure MksAt (W : World) (B : Nat) (ds : List Nat) : Prop where
  nd : ds.Nodup
  ge : ∀ D ∈ ds, B ≤ D
  obj : ∀ D ∈ ds, W.heap[D]? = some (.deferred (some []))
end
/-- Behind live := liveSets{..}. -/
structure FlA (w Y : World) (V : Nat) (a : Option Addr) (n c Kw : Nat) (xs : List Blk) (Gi LB Go : Nat) (go : Nat → Nat) (WO : Nat → Nat → Nat) : Prop where
  low : Below w.heap.size w Y
  f0 : Y.cell? ⟨w.heap.size, 0, none⟩ = some (.int .i64 (V : Int))
  f1 : Y.cell? ⟨w.heap.size, 1, none⟩ = some (.slice a n c)
  r0 : Y.cell? ⟨w.heap.size + 1, 0, none⟩ = some (.slice none 0 0)
  r1 : Y.cell? ⟨w.heap.size + 1, 1, none⟩ = some (.slice none 0 0)
  rz : ∀ q, Y.frozen? ⟨w.heap.size + 1, q, none⟩ = false
  gi : Y.rowIs Gi 46 n (fun _ => .slice none 0 0)
  l0 : Y.cell? ⟨LB, 0, none⟩ = some (.slice (some ⟨Gi, 0, none⟩) n n)
  l1 : Y.cell? ⟨LB, 1, none⟩ = some (.slice (some ⟨Go, 0, none⟩) n n)
  out : SetsAv Y Go n Kw go (fun _ => Kw) WO
  wd : AllWd WO
  has : ∀ b, b < n → ∀ v, hasN (WO b) v = true ↔ (b, v) ∈ phE xs n
  b1 : w.heap.size + 2 ≤ Gi
  b2 : w.heap.size + 2 ≤ LB
  b3 : w.heap.size + 2 ≤ Go
  b4 : ∀ i, i < n → w.heap.size + 2 ≤ go i
  d1 : Gi ≠ LB
  d2 : Gi ≠ Go
  d3 : LB ≠ Go
  d4 : ∀ i, i < n → go i ≠ Gi ∧ go i ≠ LB
set_option maxHeartbeats 1000000 in
theorem places_in (F : Fence) (n : Nat) (h6 : F.fn 43) (hro : F.round = none) (v0 v1 v2 v3 v4 v5 : Value) (w : World) :
    CallsIn F n Tryd.prog 43 #[.agg #[v0, v1, v2, v3, v4, v5]] w fun e w' => e = .returned (.func (.func 66) #[] #[.pointer (some ⟨w.heap.size, 0, none⟩)]) ∧ w' = w.alloc (.cells #[v0, v1, v2, v3, v4, v5] 66) := by
  refine callsIn_of_wp Tryd.func43 rfl h6 ?_ hro
  simp only [Tryd.ntmps43, List.size_toArray, List.length_cons, List.length_nil, Nat.reduceAdd, Nat.reduceSub, Array.replicate_succ, Array.replicate_zero, List.push_toArray, List.append_toArray, List.nil_append, List.cons_append]
  gi_wp2
  go_ret
  exact ⟨rfl, rfl⟩
theorem SetsAv.setCell {w : World} {G n K : Nat} {gs cp : Nat → Nat} {Ws : Nat → Nat → Nat} (h : SetsAv w G n K gs cp Ws) (p : Addr) (v : Value) (h1 : p.block ≠ G) (h2 : ∀ i, i < n → p.block ≠ gs i) : SetsAv (w.setCell p v) G n K gs cp Ws :=
  ⟨h.row.setOther (fun e => h1 e.symm) v, fun i hi => (h.set i hi).setOther (fun e => h2 i hi e.symm) v, h.inj, h.out⟩
theorem flA_of {w w1 X : World} {V : Nat} {a : Option Addr} {n c Kw : Nat} {xs : List Blk} {Gi LB Go : Nat} {go : Nat → Nat} {WO : Nat → Nat → Nat} (hw1 : Below w.heap.size w w1) (hz : w1.heap.size = w.heap.size + 2) (HBX : Below w1.heap.size w1 X)
    (f0 : w1.cell? ⟨w.heap.size, 0, none⟩ = some (.int .i64 (V : Int))) (f1 : w1.cell? ⟨w.heap.size, 1, none⟩ = some (.slice a n c)) (r0 : w1.cell? ⟨w.heap.size + 1, 0, none⟩ = some (.slice none 0 0)) (r1 : w1.cell? ⟨w.heap.size + 1, 1, none⟩ = some (.slice none 0 0)) (rz : ∀ q, w1.frozen? ⟨w.heap.size + 1, q, none⟩ = false)
    (GI : X.rowIs Gi 46 n (fun _ => .slice none 0 0)) (LBX : X.rowIs LB 49 2 (fun _ => .slice none 0 0)) (SO : SetsAv X Go n Kw go (fun _ => Kw) WO) (wd : AllWd WO) (hh : ∀ b, b < n → ∀ v, hasN (WO b) v = true ↔ (b, v) ∈ phE xs n)
    (b1 : w.heap.size + 2 ≤ Gi) (b2 : w.heap.size + 2 ≤ LB) (b3 : w.heap.size + 2 ≤ Go) (b4 : ∀ i, i < n → w.heap.size + 2 ≤ go i) (hne : Go ≠ LB ∧ Gi ≠ LB ∧ Gi ≠ Go ∧ ∀ i, i < n → go i ≠ Gi ∧ go i ≠ LB) :
    FlA w ((X.setCell ⟨LB, 0, none⟩ (.slice (some ⟨Gi, 0, none⟩) n n)).setCell ⟨LB, 1, none⟩ (.slice (some ⟨Go, 0, none⟩) n n)) V a n c Kw xs Gi LB Go go WO := by
  have hl := (LBX.set 0 (.slice (some ⟨Gi, 0, none⟩) n n)).set 1 (.slice (some ⟨Go, 0, none⟩) n n)
  have hc : ∀ p : Addr, p.block < w1.heap.size → p.block ≠ LB → ((X.setCell ⟨LB, 0, none⟩ (.slice (some ⟨Gi, 0, none⟩) n n)).setCell ⟨LB, 1, none⟩ (.slice (some ⟨Go, 0, none⟩) n n)).cell? p = w1.cell? p := fun p h1 h2 =>
    (World.cell?_setCell_far _ _ _ _ (fun e => h2 e.symm)).trans ((World.cell?_setCell_far _ _ _ _ (fun e => h2 e.symm)).trans (HBX.cell h1))
  refine ⟨((bnext hw1 HBX).setCell (by show w.heap.size ≤ LB; omega) _).setCell (by show w.heap.size ≤ LB; omega) _, (hc _ (by show w.heap.size < _; omega) (by show w.heap.size ≠ LB; omega)).trans f0, (hc _ (by show w.heap.size < _; omega) (by show w.heap.size ≠ LB; omega)).trans f1, (hc _ (by show w.heap.size + 1 < _; omega) (by show w.heap.size + 1 ≠ LB; omega)).trans r0, (hc _ (by show w.heap.size + 1 < _; omega) (by show w.heap.size + 1 ≠ LB; omega)).trans r1, fun q => ?_, (GI.setOther hne.2.1 _).setOther hne.2.1 _, (hl.cell (i := 0) (by decide)).trans (by simp), (hl.cell (i := 1) (by decide)).trans (by simp), (SO.setCell _ _ (fun e => hne.1 e.symm) (fun i hi e => (hne.2.2.2 i hi).2 e.symm)).setCell _ _ (fun e => hne.1 e.symm) (fun i hi e => (hne.2.2.2 i hi).2 e.symm), wd, hh, b1, b2, b3, b4, hne.2.1, hne.2.2.1, fun e => hne.1 e.symm, hne.2.2.2⟩
  exact (World.frozen?_setCell _ _ _ _).trans ((World.frozen?_setCell _ _ _ _).trans ((HBX.frozen (p := ⟨w.heap.size + 1, q, none⟩) (by show w.heap.size + 1 < _; omega)).trans (rz q)))
end Go.Proofs.YtanaeindldcapaaDoor
