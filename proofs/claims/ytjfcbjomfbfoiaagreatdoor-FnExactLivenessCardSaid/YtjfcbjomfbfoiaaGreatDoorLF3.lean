import Derived.Test.YtjfcbjomfbfoiaaGreatDoorLF2
import Derived.Test.YtjfcbjomfbfoiaaGreatDoorLI1
import Derived.Test.YtjfcbjomfbfoiaaGreatDoorMH3
namespace Go.Proofs.YtjfcbjomfbfoiaaGreatDoor
open Go.RowKit
noncomputable def lqL (v : Int) (xs : List Blk) (s : Bool) : List (List Int) := if validI ⟨v, xs⟩ = true then (List.range xs.length).map (ipTo xs v.toNat s) else []
theorem lq_bad {v : Int} {xs : List Blk} (h : validI ⟨v, xs⟩ = false) (s : Bool) : lqL v xs s = [] := by unfold lqL; rw [h]; rfl
theorem lq_ok {V : Nat} {xs : List Blk} (h : validI ⟨(V : Int), xs⟩ = true) (s : Bool) : lqL (V : Int) xs s = (List.range xs.length).map (ipTo xs V s) := by unfold lqL; rw [if_pos h, Int.toNat_natCast]
def LiveA (w : World) (L B : Nat) (v : Int) (xs : List Blk) (G : Value) : Prop := ∃ n a1 c1 a2 c2, G = .agg #[.slice a1 n c1, .slice a2 n c2] ∧ IntssAt w L B a1 (lqL v xs false) ∧ IntssAt w L B a2 (lqL v xs true) ∧ n = (lqL v xs false).length ∧ n = (lqL v xs true).length ∧ n ≤ 1000
theorem LiveA.keepS {w w' : World} {L B : Nat} {v : Int} {xs : List Blk} {G : Value} (h : LiveA w L B v xs G) (k : Same L B w w') : LiveA w' L B v xs G := by
  obtain ⟨n, a1, c1, a2, c2, e, h1, h2, h3⟩ := h
  exact ⟨n, a1, c1, a2, c2, e, h1.keepS k, h2.keepS k, h3⟩
theorem LiveA.form {w : World} {L B : Nat} {v : Int} {xs : List Blk} {G : Value} (h : LiveA w L B v xs G) : ∃ a1 n1 c1 a2 n2 c2, G = .agg #[.slice a1 n1 c1, .slice a2 n2 c2] := by
  obtain ⟨n, a1, c1, a2, c2, e, _⟩ := h
  exact ⟨a1, n, c1, a2, n, c2, e⟩
theorem valid_nat {v : Int} {xs : List Blk} (h : validI ⟨v, xs⟩ = true) : ∃ V : Nat, v = (V : Int) := by
  have h0 : 0 ≤ v := by
    simp only [validI, sizeOk, Bool.and_eq_true, decide_eq_true_eq] at h
    omega
  exact Int.eq_ofNat_of_zero_le h0
theorem lq_len (v : Int) (xs : List Blk) (s : Bool) : ∀ l ∈ lqL v xs s, l.length ≤ 5000 := fun l hl => by
  cases h : validI ⟨v, xs⟩ with
  | false => rw [lq_bad h] at hl; cases hl
  | true =>
    obtain ⟨V, rfl⟩ := valid_nat h
    rw [lq_ok h] at hl
    obtain ⟨b, _, rfl⟩ := List.mem_map.1 hl
    have := ipTo_len xs s V b
    have := (okL_of_valid h).vle
    omega
theorem eqLiveA_yes (v : Int) (xs : List Blk) (G G' : Value) (L B L' B' : Nat) (w : World) (ha : LiveA w L B v xs G) (hb : LiveA w L' B' v xs G') (hB : B ≤ w.heap.size) (hB' : B' ≤ w.heap.size) :
    Calls Tryz.prog 11 #[G, G'] w fun e w' => e = .returned (.bool true) ∧ Below w.heap.size w w' := by
  obtain ⟨n, a1, c1, a2, c2, rfl, h1, h2, h3, h4, h5⟩ := ha
  obtain ⟨m, b1, d1, b2, d2, rfl, k1, k2, k3, _⟩ := hb
  have e : m = n := by omega
  subst e
  exact eqLive_yes a1 a2 b1 b2 m c1 c2 d1 d2 (lqL v xs false) (lqL v xs true) L B L' B' w (hide h1) (hide h2) (hide k1) (hide k2) (hide h3) (hide h4) (by omega) (hide (lq_len v xs false)) (hide (lq_len v xs true)) hB hB'
def MarkL (w : World) (B : Nat) (G : Value) : Prop := ∀ W, Same B w.heap.size w W → w.heap.size ≤ W.heap.size → Calls Tryz.prog 14 #[G, .int .i64 1] W fun e w' => ∃ m : Nat, e = .returned (.int .i64 m) ∧ m ≤ 60000000 ∧ Mod B w.heap.size W w' ∧ W.heap.size ≤ w'.heap.size ∧ (Calls Tryz.prog 15 #[G, .int .i64 1] w' fun e w'' => e = .returned (.int .i64 m) ∧ Below w'.heap.size w' w'')
theorem markL_nil (w : World) (B : Nat) : MarkL w B (.agg #[.slice none 0 0, .slice none 0 0]) := fun W _ _ => by
  refine (markLive_nil W).mono ?_
  rintro e w' ⟨rfl, hb⟩
  refine ⟨1, rfl, by omega, Mod.of_below hb, hb.size, ?_⟩
  exact heldLive_nil w'
theorem liveA_nil {v : Int} {xs : List Blk} (h : validI ⟨v, xs⟩ = false) (w : World) (L B : Nat) : LiveA w L B v xs (.agg #[.slice none 0 0, .slice none 0 0]) := by
  refine ⟨0, none, 0, none, 0, rfl, ?_, ?_, by rw [lq_bad h]; rfl, by rw [lq_bad h]; rfl, by omega⟩
  · rw [lq_bad h]; exact fun i hi => absurd hi (by simp)
  · rw [lq_bad h]; exact fun i hi => absurd hi (by simp)
theorem liveA_ok {V : Nat} {xs : List Blk} (h : validI ⟨(V : Int), xs⟩ = true) {w : World} {L B n : Nat} {a1 a2 : Option Addr} {c1 c2 : Nat} (hx : n = xs.length) (h1 : IntssAt w L B a1 ((List.range n).map (ipTo xs V false))) (h2 : IntssAt w L B a2 ((List.range n).map (ipTo xs V true))) : LiveA w L B (V : Int) xs (.agg #[.slice a1 n c1, .slice a2 n c2]) := by
  refine ⟨n, a1, c1, a2, c2, rfl, ?_, ?_, by rw [lq_ok h]; simp [hx], by rw [lq_ok h]; simp [hx], by have := (okL_of_valid h).okf.n2; omega⟩
  · rw [lq_ok h, ← hx]; exact h1
  · rw [lq_ok h, ← hx]; exact h2
def aV : Value → Option Addr
  | .slice a _ _ => a
  | _ => none
def cV : Value → Nat
  | .slice _ _ c => c
  | _ => 0
def loV (v : Value) : Nat := v.ownBlock.getD 0
def hiV (v : Value) : Nat := match v.ownBlock with
  | some g => g + 1
  | none => 0
theorem lohiV {v : Value} {k : Nat} : (loV v ≤ k ∧ k < hiV v) ↔ v.ownBlock = some k := by
  unfold loV hiV
  cases e : v.ownBlock with
  | none => simp
  | some g => simp; omega
theorem row_sepV {w : World} {B n : Nat} {v : Value} {xs : List Int} (h : w.ownsRow B 2 1 v n (xs.map (Value.int .i64))) : v = .slice (aV v) xs.length (cV v) ∧ IntsAt w (loV v) (hiV v) (aV v) xs ∧ ThawB (loV v) (hiV v) w ∧ ∀ k, v.ownBlock = some k → B ≤ k ∧ k < w.heap.size := by
  have hl : xs.length = n := by have := h.1; simpa using this
  refine ⟨?_, fun i hi => ?_, fun b o hb => ?_, fun k e => h.lt k e⟩
  · rcases own_form h with ⟨e, h0, _⟩ | ⟨g, c, e, _, _⟩
    · rw [e]; simp [aV, cV]; omega
    · rw [e, hl]; rfl
  · rcases own_form h with ⟨e, h0, _⟩ | ⟨g, c, e, _, _⟩
    · omega
    · subst e
      refine ⟨g, 0, rfl, lohiV.2 rfl, ?_⟩
      rw [Nat.zero_add]
      exact own_cell h (by simp [hi])
  · rcases own_form h with ⟨e, h0, _⟩ | ⟨g, c, e, _, _⟩
    · subst e
      have := lohiV.1 hb
      cases this
    · subst e
      have hb' := lohiV.1 hb
      cases hb'
      exact own_thaw h o
theorem djV {u v : Value} (h : u.ownBlock = none ∨ u.ownBlock ≠ v.ownBlock) : hiV u ≤ loV v ∨ hiV v ≤ loV u := by
  unfold loV hiV
  cases e1 : u.ownBlock with
  | none => exact Or.inl (Nat.zero_le _)
  | some a =>
    cases e2 : v.ownBlock with
    | none => exact Or.inr (Nat.zero_le _)
    | some b =>
      rw [e1, e2] at h
      have : a ≠ b := fun e => by
        rcases h with q | q
        · cases q
        · exact q (by rw [e])
      simp
      omega
/-- The same rows in a world where all of their blocks lie still. -/
theorem LiG.move {w0 wr w' : World} {Fo n : Nat} {U : Bool → Nat → Value} {P : Bool → Nat → List Int} {X : Bool → Value} (h : LiG w0 wr Fo (fun _ => n) U P X) (hq : ∀ q, w0.heap.size ≤ q → w'.heap[q]? = wr.heap[q]?) : (∀ s, w'.ownsRow w0.heap.size 56 1 (X s) n ((List.range n).map (U s))) ∧ ∀ s i, i < n → w'.ownsRow w0.heap.size 2 1 (U s i) (P s i).length ((P s i).map (Value.int .i64)) :=
  ⟨fun s => own_block (h.oo s) (fun g e => hq g ((h.oo s).lt g e).1), fun s i hi => own_block (h.own s i hi) (fun g e => hq g ((h.own s i hi).lt g e).1)⟩
theorem LiG.sep {w0 wr w' : World} {Fo n : Nat} {U : Bool → Nat → Value} {P : Bool → Nat → List Int} {X : Bool → Value} {g c : Bool → Nat} (h : LiG w0 wr Fo (fun _ => n) U P X) (hq : ∀ q, w0.heap.size ≤ q → w'.heap[q]? = wr.heap[q]?) (hX : ∀ s, X s = .slice (some ⟨g s, 0, none⟩) n (c s)) : LvSep w' w0.heap.size w'.heap.size n g (fun s i => aV (U s i)) (fun s i => cV (U s i)) (fun s i => loV (U s i)) (fun s i => hiV (U s i)) P := by
  obtain ⟨h1, h2⟩ := h.move hq
  have hg : ∀ s, (X s).ownBlock = some (g s) := fun s => by rw [hX s]; rfl
  have hne : ∀ s s' i, i < n → ¬ (loV (U s i) ≤ g s' ∧ g s' < hiV (U s i)) := fun s s' i hi e => by
    have e1 := lohiV.1 e
    rcases own_types (h.own s i hi) (h.oo s') (by decide) with q | q
    · rw [e1] at q; cases q
    · exact q (by rw [e1, hg s'])
  refine ⟨fun s => ⟨fun i hi => ?_, fun i hi => (row_sepV (h2 s i hi)).2.1, fun i hi => (row_sepV (h2 s i hi)).2.2.1, fun i j hi hj hij => djV (h.dj s i s j hi hj (fun e => hij (congrArg Prod.snd e))), fun i hi => hne s s i hi⟩, fun i j hi hj => djV (h.dj false i true j hi hj (fun e => by cases congrArg Prod.fst e)), hne, fun s => ((h1 s).lt _ (hg s)).2, Nat.le_refl _, fun s i q hi q1 q2 => (row_sepV (h2 s i hi)).2.2.2 q (lohiV.1 ⟨q1, q2⟩)⟩
  rw [← (row_sepV (h2 s i hi)).1]
  have h3 := h1 s
  rw [hX s] at h3
  exact own_cell h3 (by simp [hi])
theorem LvSep.keepS {w W : World} {B n : Nat} {g : Bool → Nat} {a : Bool → Nat → Option Addr} {cp lo hi : Bool → Nat → Nat} {Pr : Bool → Nat → List Int} (h : LvSep w B w.heap.size n g a cp lo hi Pr) (hg : ∀ s, B ≤ g s) (k : Same B w.heap.size w W) (hz : w.heap.size ≤ W.heap.size) : LvSep W B w.heap.size n g a cp lo hi Pr :=
  ⟨fun s => (h.sep s).of (fun q hq => by
    rcases hq with rfl | ⟨i, hi', q1, q2⟩
    · exact k _ (hg s) (h.low s)
    · have := h.rng s i q hi' q1 q2
      exact k q this.1 this.2), h.dj, h.out, h.low, hz, h.rng⟩
theorem markL_own {w0 wr w' : World} {B Fo n : Nat} {U : Bool → Nat → Value} {P : Bool → Nat → List Int} {X : Bool → Value} {g c : Bool → Nat} (h : LiG w0 wr Fo (fun _ => n) U P X) (hq : ∀ q, w0.heap.size ≤ q → w'.heap[q]? = wr.heap[q]?) (hX : ∀ s, X s = .slice (some ⟨g s, 0, none⟩) n (c s)) (hB : B ≤ w0.heap.size) (hn : n ≤ 1000) (hl : ∀ s i, i < n → (P s i).length ≤ 5000) : MarkL w' B (.agg #[.slice (some ⟨g false, 0, none⟩) n (c false), .slice (some ⟨g true, 0, none⟩) n (c true)]) := fun W hW hzW => by
  have hs := h.sep hq hX
  have hg : ∀ s, w0.heap.size ≤ g s := fun s => by
    have h3 := (h.move hq).1 s
    exact (h3.lt (g s) (by rw [hX s]; rfl)).1
  have hsW := hs.keepS hg (fun q q1 q2 => hW q (by omega) q2) hzW
  have hp0 := pc_le (hl false) n (Nat.le_refl _)
  have hp1 := pc_le (hl true) n (Nat.le_refl _)
  refine (markLive_sep w0.heap.size w'.heap.size n 1 g _ _ _ _ P (c false) (c true) W (hide hsW) (by omega) (hide hl) (by decide) (by decide)).mono ?_
  rintro e w'' ⟨rfl, hm, hz'', hk⟩
  refine ⟨1 + pc (P false) n + pc (P true) n, by simp, by omega, ⟨hm.os, hm.tape, hm.output, hm.size, fun q q1 q2 => hm.block q q1 (fun e => q2 (by omega))⟩, hz'', ?_⟩
  refine (heldLive_any w'.heap.size n 1 g _ _ _ _ P (c false) (c true) w'' (hide hk) (by omega) (hide hl) (by decide) (by decide)).mono ?_
  rintro e w3 ⟨rfl, hb⟩
  exact ⟨by simp, hb⟩
end Go.Proofs.YtjfcbjomfbfoiaaGreatDoor

namespace Go.Proofs.YtjfcbjomfbfoiaaGreatDoor
open Go.RowKit
set_option maxHeartbeats 1000000 in
set_option maxRecDepth 100000 in
theorem liveS_bad (v : Int) (a : Option Addr) (n c : Nat) (xs : List Blk) (L B : Nat) (w : World) (ha : Hid (BlksAt w L B a xs)) (hx : Hid (n = xs.length)) (hs : Hid (xs.length + blksTot xs ≤ 1048576)) (hB : B ≤ w.heap.size) (hv : Hid (validI ⟨v, xs⟩ = false)) :
    Calls Tryz.prog 8 #[.agg #[.int .i64 v, .slice a n c]] w fun e w' => e = .returned (.agg #[.slice none 0 0, .slice none 0 0]) ∧ Below w.heap.size w w' := by
  have HVF := hide (fun W (hb : Below w.heap.size w W) => validFuncS_any v a n c xs L B W (hide (ha.out.keep (hb.mono hB))) hx hs (by have := hb.size; omega))
  rw [← valid_same, hv.out] at HVF
  go_enter Tryz.func8, Tryz.ntmps8
  go_wp2_with fail
  refine (HVF.out _ (balloc (balloc (balloc (Below.refl _ _) _) _) _)).mono ?_
  rintro e w1 ⟨rfl, hb1⟩
  have HB1 := hide (bnext (balloc (balloc (balloc (Below.refl w.heap.size w) _) _) _) hb1)
  have hR1 : w1.rowIs (w.heap.size + 1) 28 2 (fun _ => .slice none 0 0) := by
    have h := World.rowIs_alloc (w.alloc (.cells #[.int .i64 v, .slice a n c] 32)) #[.slice none 0 0, .slice none 0 0] 28 (fun _ => .slice none 0 0) (fun i hi => by match i, hi with | 0, _ => rfl | 1, _ => rfl)
    rw [World.size_alloc] at h
    exact (h.alloc (.cells #[.slice none 0 0, .slice none 0 0] 28)).of_block (hb1.block _ (by simp))
  have hR2 : w1.rowIs (w.heap.size + 1 + 1) 28 2 (fun _ => .slice none 0 0) := by
    have h := World.rowIs_alloc ((w.alloc (.cells #[.int .i64 v, .slice a n c] 32)).alloc (.cells #[.slice none 0 0, .slice none 0 0] 28)) #[.slice none 0 0, .slice none 0 0] 28 (fun _ => .slice none 0 0) (fun i hi => by match i, hi with | 0, _ => rfl | 1, _ => rfl)
    rw [World.size_alloc, World.size_alloc] at h
    exact h.of_block (hb1.block _ (by simp))
  have y0 := hR1.cell (i := 0) (by decide)
  have y1 := hR1.cell (i := 1) (by decide)
  have yf := hR1.frozen
  have y1' : ∀ u, (w1.setCell ⟨w.heap.size + 1, 0, none⟩ u).cell? ⟨w.heap.size + 1, 1, none⟩ = some (.slice none 0 0) := fun u => (hR1.set 0 u).cell (i := 1) (by decide)
  have x0 := hR2.cell (i := 0) (by decide)
  have x1 := hR2.cell (i := 1) (by decide)
  have HR1 := hide hR1
  clear hb1 hR1 hR2 HVF
  go_wp2_with fail
  have h4 := (HR1.out.set 0 (.slice none 0 0)).set 1 (.slice none 0 0)
  have z0 := h4.cell (i := 0) (by decide)
  have z1 := h4.cell (i := 1) (by decide)
  have hB4 : Below w.heap.size w ((w1.setCell ⟨w.heap.size + 1, 0, none⟩ (.slice none 0 0)).setCell ⟨w.heap.size + 1, 1, none⟩ (.slice none 0 0)) := (HB1.out.setCell (p := ⟨w.heap.size + 1, 0, none⟩) (by dsimp only; omega) _).setCell (p := ⟨w.heap.size + 1, 1, none⟩) (by dsimp only; omega) _
  generalize (w1.setCell ⟨w.heap.size + 1, 0, none⟩ (.slice none 0 0)).setCell ⟨w.heap.size + 1, 1, none⟩ (.slice none 0 0) = wE at *
  simp only [reduceIte, Nat.reduceEqDiff] at z0 z1
  refine bodyPost_ret (v := .agg #[.slice none 0 0, .slice none 0 0]) (by simp [results, Tryz.results8, go_sem, z0, z1]) rfl ⟨rfl, hB4⟩
set_option maxHeartbeats 1000000 in
set_option maxRecDepth 100000 in
theorem liveI_bad (v : Int) (a : Option Addr) (n c : Nat) (xs : List Blk) (L B : Nat) (w : World) (ha : Hid (BlksAt w L B a xs)) (hx : Hid (n = xs.length)) (hs : Hid (xs.length + blksTot xs ≤ 1048576)) (hB : B ≤ w.heap.size) (hO : Hid (OpTabW w)) (hT : Hid (TerTabW w)) (hv : Hid (validI ⟨v, xs⟩ = false)) :
    Calls Tryz.prog 10 #[.agg #[.int .i64 v, .slice a n c]] w fun e w' => e = .returned (.agg #[.slice none 0 0, .slice none 0 0]) ∧ Below w.heap.size w w' := by
  have HVF := hide (fun W (hb : Below w.heap.size w W) => validFuncI_any v a n c xs L B W (hide (ha.out.keep (hb.mono hB))) hx hs (by have := hb.size; omega) (hide (hO.out.keep hb hO.out.1).old) (hide (hT.out.keep hb hT.out.1).old))
  rw [hv.out] at HVF
  go_enter Tryz.func10, Tryz.ntmps10
  go_wp2_with fail
  refine (HVF.out _ (balloc (balloc (Below.refl _ _) _) _)).mono ?_
  rintro e w1 ⟨rfl, hb1⟩
  have HB1 := hide (bnext (balloc (balloc (Below.refl w.heap.size w) _) _) hb1)
  have hR1 : w1.rowIs (w.heap.size + 1) 28 2 (fun _ => .slice none 0 0) := by
    have h := World.rowIs_alloc (w.alloc (.cells #[.int .i64 v, .slice a n c] 32)) #[.slice none 0 0, .slice none 0 0] 28 (fun _ => .slice none 0 0) (fun i hi => by match i, hi with | 0, _ => rfl | 1, _ => rfl)
    rw [World.size_alloc] at h
    exact h.of_block (hb1.block _ (by simp))
  have y0 := hR1.cell (i := 0) (by decide)
  have y1 := hR1.cell (i := 1) (by decide)
  have yf := hR1.frozen
  have y1' : ∀ u, (w1.setCell ⟨w.heap.size + 1, 0, none⟩ u).cell? ⟨w.heap.size + 1, 1, none⟩ = some (.slice none 0 0) := fun u => (hR1.set 0 u).cell (i := 1) (by decide)
  have HR1 := hide hR1
  clear hb1 hR1 HVF
  go_wp2_with fail
  have h4 := (HR1.out.set 0 (.slice none 0 0)).set 1 (.slice none 0 0)
  have z0 := h4.cell (i := 0) (by decide)
  have z1 := h4.cell (i := 1) (by decide)
  have hB4 : Below w.heap.size w ((w1.setCell ⟨w.heap.size + 1, 0, none⟩ (.slice none 0 0)).setCell ⟨w.heap.size + 1, 1, none⟩ (.slice none 0 0)) := (HB1.out.setCell (p := ⟨w.heap.size + 1, 0, none⟩) (by dsimp only; omega) _).setCell (p := ⟨w.heap.size + 1, 1, none⟩) (by dsimp only; omega) _
  generalize (w1.setCell ⟨w.heap.size + 1, 0, none⟩ (.slice none 0 0)).setCell ⟨w.heap.size + 1, 1, none⟩ (.slice none 0 0) = wE at *
  simp only [reduceIte, Nat.reduceEqDiff] at z0 z1
  refine bodyPost_ret (v := .agg #[.slice none 0 0, .slice none 0 0]) (by simp [results, Tryz.results10, go_sem, z0, z1]) rfl ⟨rfl, hB4⟩
theorem liveS_ans (v : Int) (a : Option Addr) (n c : Nat) (xs : List Blk) (L B : Nat) (w : World) (ha : BlksAt w L B a xs) (hx : n = xs.length) (hs : xs.length + blksTot xs ≤ 1048576) (hB : B ≤ w.heap.size) :
    Calls Tryz.prog 8 #[.agg #[.int .i64 v, .slice a n c]] w fun e w' => ∃ G, e = .returned G ∧ Below w.heap.size w w' ∧ LiveA w' w.heap.size w'.heap.size v xs G := by
  cases hv : validI ⟨v, xs⟩ with
  | false =>
    refine (liveS_bad v a n c xs L B w (hide ha) (hide hx) (hide hs) hB (hide hv)).mono ?_
    rintro e w' ⟨rfl, hb⟩
    exact ⟨_, rfl, hb, liveA_nil hv _ _ _⟩
  | true =>
    obtain ⟨V, rfl⟩ := valid_nat hv
    refine (liveS_any V a n c xs L B w (hide ha) (hide hx) (hide hs) hB (hide hv) (hide (okL_of_valid hv))).mono ?_
    rintro e w' ⟨g1, g2, rfl, hb, h1, h2⟩
    exact ⟨_, rfl, hb, liveA_ok hv hx h1 h2⟩
theorem liveI_ans (v : Int) (a : Option Addr) (n c : Nat) (xs : List Blk) (L B : Nat) (w : World) (ha : BlksAt w L B a xs) (hx : n = xs.length) (hs : xs.length + blksTot xs ≤ 1048576) (hB : B ≤ w.heap.size) (hO : OpTabW w) (hT : TerTabW w) (hZ : TzTab w) :
    Calls Tryz.prog 10 #[.agg #[.int .i64 v, .slice a n c]] w fun e w' => ∃ G, e = .returned G ∧ Below w.heap.size w w' ∧ LiveA w' w.heap.size w'.heap.size v xs G ∧ MarkL w' w.heap.size G := by
  cases hv : validI ⟨v, xs⟩ with
  | false =>
    refine (liveI_bad v a n c xs L B w (hide ha) (hide hx) (hide hs) hB (hide hO) (hide hT) (hide hv)).mono ?_
    rintro e w' ⟨rfl, hb⟩
    exact ⟨_, rfl, hb, liveA_nil hv _ _ _, markL_nil _ _⟩
  | true =>
    obtain ⟨V, rfl⟩ := valid_nat hv
    have hok := okL_of_valid hv
    refine (liveI_any V a n c xs L B w (hide ha) (hide hx) (hide hs) hB (hide hO) (hide hT) (hide hZ) (hide hv) (hide hok)).mono ?_
    rintro e w' ⟨w0, Fo, U, X, wr, rfl, hw0, hG, hb, hz, hq⟩
    have hn1 := hok.okf.n1
    have hn2 := hok.okf.n2
    have hfm : ∀ s, ∃ g c, X s = .slice (some ⟨g, 0, none⟩) n c := fun s => by
      obtain ⟨g, c, e, _⟩ := own_some' (hG.oo s) (by show 0 < n; omega)
      exact ⟨g, c, e⟩
    obtain ⟨g0, c0, e0⟩ := hfm false
    obtain ⟨g1, c1, e1⟩ := hfm true
    have hX : ∀ s, X s = .slice (some ⟨if s = true then g1 else g0, 0, none⟩) n (if s = true then c1 else c0) := fun s => by cases s; (· exact e0); (· exact e1)
    have hm := hG.move hq
    have hi : ∀ s, IntssAt w' w.heap.size w'.heap.size (some ⟨if s = true then g1 else g0, 0, none⟩) ((List.range n).map (ipTo xs V s)) := fun s i hi => by
      simp only [List.length_map, List.length_range] at hi
      obtain ⟨a, c, hv, ha⟩ := ints_owned (hm.2 s i hi)
      have h3 := hm.1 s
      rw [hX s] at h3
      have h4 : w0.heap.size ≤ (if s = true then g1 else g0) ∧ (if s = true then g1 else g0) < w'.heap.size := h3.lt _ rfl
      refine ⟨_, 0, rfl, ⟨by omega, h4.2⟩, a, c, ?_, ?_⟩
      · simp only [List.getElem_map, List.getElem_range, Nat.zero_add]
        rw [← hv]
        exact own_cell h3 (by simp [hi])
      · simp only [List.getElem_map, List.getElem_range]
        exact ha.mono hw0 (Nat.le_refl _)
    refine ⟨_, rfl, hb, ?_, ?_⟩
    · rw [e0, e1]
      exact liveA_ok hv hx (hi false) (hi true)
    · have h := markL_own (B := w.heap.size) hG hq hX hw0 (by omega) (fun s i _ => by have := ipTo_len xs s V i; have := hok.vle; omega)
      rw [e0, e1]
      exact h
end Go.Proofs.YtjfcbjomfbfoiaaGreatDoor
