import Derived.Test.YtjfcbjomfbfoiaaGreatDoorZP1
import Derived.Test.YtjfcbjomfbfoiaaGreatDoorMQ3
import Derived.Test.YtjfcbjomfbfoiaaGreatDoorW18b
import Derived.Test.YtjfcbjomfbfoiaaGreatDoorLF3
namespace Go.Proofs.YtjfcbjomfbfoiaaGreatDoor
open Go.RowKit
def sdW (p : Nat) (s : Sd) : List Nat := lsN s.W p
theorem KpB.far {n₀ : Nat} {Ms : Nat → Prop} {u A V : World} (h : KpB n₀ Ms u A) (hn : n₀ ≤ u.heap.size) (k : ∀ q, q < u.heap.size → V.heap[q]? = A.heap[q]?) (hs : A.heap.size ≤ V.heap.size) : KpB n₀ Ms u V :=
  ⟨Nat.le_trans h.size hs, fun q h1 h2 => (k q (by omega)).trans (h.low q h1 h2), fun q o h1 h2 h3 => (k q (Array.getElem?_eq_some_iff.1 h2).1).trans (h.cells q o h1 h2 h3)⟩
theorem keepsFrom_far {B : Nat} {u A V : World} (h : KeepsFrom B u A) (k : ∀ q, q < u.heap.size → V.heap[q]? = A.heap[q]?) (hs : A.heap.size ≤ V.heap.size) : KeepsFrom B u V :=
  ⟨Nat.le_trans h.size hs, fun q o h1 h2 h3 => (k q (Array.getElem?_eq_some_iff.1 h2).1).trans (h.same q o h1 h2 h3)⟩
/-- While the sets of one block are handed on. -/
structure AsI (W u : World) (n₀ : Nat) (Ms : Nat → Prop) (J : Nat → List Sd → World → Prop) (s0 : List Sd) (z : Nat) (ss : List Sd) (V : World) : Prop where
  j : J z (s0 ++ ss) V
  kp : KpB n₀ Ms u V
  kf : KeepsFrom W.heap.size u V
structure AsX (W u : World) (Jx : List Sd → World → Prop) (s0 ss : List Sd) (V : World) : Prop where
  j : Jx (s0 ++ ss) V
  kf : KeepsFrom W.heap.size u V
section
variable {W u : World} {n₀ : Nat} {Ms : Nat → Prop} {J : Nat → List Sd → World → Prop} {Jx : List Sd → World → Prop} {s0 : List Sd}
theorem AsI.own (hJ : ∀ z, OwnFrom W.heap.size (J z)) (hW : W.heap.size ≤ u.heap.size) (hn : n₀ ≤ u.heap.size) (z : Nat) : OwnFrom u.heap.size (AsI W u n₀ Ms J s0 z) := fun ss A V row h k q => by
  have hu := h.kp.size
  have hb : ∀ i, i < u.heap.size → V.heap[i]? = A.heap[i]? := fun i hi => k.block i (by omega) (fun e => by have := (q i e.symm).1; omega)
  exact ⟨hJ z _ A V row h.j k (fun r e => ⟨by have := (q r e).1; omega, (q r e).2⟩), h.kp.far hn hb k.size, keepsFrom_far h.kf hb k.size⟩
theorem AsX.own (hJ : OwnFrom W.heap.size Jx) (hW : W.heap.size ≤ u.heap.size) : OwnFrom u.heap.size (AsX W u Jx s0) := fun ss A V row h k q => by
  have hu := h.kf.size
  have hb : ∀ i, i < u.heap.size → V.heap[i]? = A.heap[i]? := fun i hi => k.block i (by omega) (fun e => by have := (q i e.symm).1; omega)
  exact ⟨hJ _ A V row h.j k (fun r e => ⟨by have := (q r e).1; omega, (q r e).2⟩), keepsFrom_far h.kf hb k.size⟩
theorem AsI.turn (hJz : ∀ z s V V', W.heap.size ≤ z → J z s V → V.grownBy V' (some z) → J z s V') (hW : W.heap.size ≤ u.heap.size) (hn : n₀ ≤ u.heap.size) {z : Nat} (hz : u.heap.size ≤ z) {ss : List Sd} {A V : World} (h : AsI W u n₀ Ms J s0 z ss A) (k : A.grownBy V (some z)) : AsI W u n₀ Ms J s0 z ss V := by
  have hu := h.kp.size
  have hb : ∀ i, i < u.heap.size → V.heap[i]? = A.heap[i]? := fun i hi => k.block i (by omega) (fun e => by injection e with e; omega)
  exact ⟨hJz z _ A V (by omega) h.j k, h.kp.far hn hb k.size, keepsFrom_far h.kf hb k.size⟩
end
end Go.Proofs.YtjfcbjomfbfoiaaGreatDoor

namespace Go.Proofs.YtjfcbjomfbfoiaaGreatDoor
open Go.RowKit Go.Shelf
attribute [local go_sem] Oper.semAt_some
/-- The greatest length. -/
def mxL {α : Type} (l : List (List α)) : Nat := (l.map List.length).foldl max 0
/-- While MaxLive goes through the sets. -/
structure MxI (w6 : World) (Bm p : Nat) (pre : List Sd) (V : World) : Prop where
  os : V.os = w6.os
  tape : V.tape = w6.tape
  output : V.output = w6.output
  size : w6.heap.size ≤ V.heap.size
  bl : Bm < w6.heap.size
  fr : ∀ q, q < w6.heap.size → q ≠ Bm → V.heap[q]? = w6.heap[q]?
  mx : V.rowIs Bm 3 1 (fun _ => .int .i64 (mxL (pre.map (sdW p)) : Int))
section
variable {w6 V V' : World} {Bm p : Nat} {pre : List Sd}
theorem MxI.far (h : MxI w6 Bm p pre V) (k : Below w6.heap.size V V') : MxI w6 Bm p pre V' :=
  ⟨k.os.trans h.os, k.tape.trans h.tape, k.output.trans h.output, Nat.le_trans h.size k.size, h.bl, fun q q1 q2 => (k.block q q1).trans (h.fr q q1 q2), h.mx.of_block (k.block _ h.bl)⟩
theorem MxI.own (w6 : World) (Bm p : Nat) : OwnFrom w6.heap.size (MxI w6 Bm p) := fun pre V V' row h k q => by
  have := h.size
  exact h.far ⟨k.os, k.tape, k.output, k.size, fun b hb => k.block b (by omega) (fun e => by have := (q b e.symm).1; omega)⟩
theorem MxI.push (h : MxI w6 Bm p pre V) {s : Sd} (k : Below V.heap.size V V') {x : Int} (hx : x = (mxL ((pre ++ [s]).map (sdW p)) : Int)) : MxI w6 Bm p (pre ++ [s]) (V'.setCell ⟨Bm, 0, none⟩ (.int .i64 x)) := by
  have h' := h.far (k.mono h.size)
  refine ⟨h'.os, h'.tape, h'.output, by rw [size_setCell]; exact h'.size, h'.bl, fun q q1 q2 => (Below.heap_setCell _ _ _ _ q2).trans (h'.fr q q1 q2), ?_⟩
  rw [← hx]
  exact (h'.mx.set 0 _).congr (fun i hi => by rw [show i = 0 by omega]; simp)
end
end Go.Proofs.YtjfcbjomfbfoiaaGreatDoor

namespace Go.Proofs.YtjfcbjomfbfoiaaGreatDoor
open Go.RowKit
theorem ptQ_some {xs : List Blk} {b : Nat} (hb : b < xs.length) (V i : Nat) : ptQ xs V b i = natI (ptP xs xs[b] V b i) := by
  unfold ptQ
  rw [List.getElem?_eq_getElem hb]
theorem dfL_some {xs : List Blk} {b : Nat} (hb : b < xs.length) : (dfL xs b).length = xs[b].instrs.length := by
  unfold dfL
  rw [List.getElem?_eq_getElem hb]
  simp [dfsM]
set_option maxHeartbeats 4000000 in
theorem pointS_any (V : Nat) (a : Option Addr) (n c k : Nat) (xs : List Blk) (L B : Nat) (w : World) (ha : Hid (BlksAt w L B a xs)) (hx : Hid (n = xs.length)) (hs : Hid (xs.length + blksTot xs ≤ 1048576)) (hB : B ≤ w.heap.size) (hv : Hid (validI ⟨(V : Int), xs⟩ = true)) (ho : Hid (OkL V xs)) (hk : k < n) :
    Calls Tryz.prog 16 #[.agg #[.int .i64 (V : Int), .slice a n c], .int .i64 (k : Int)] w fun e w' => ∃ g m, e = .returned (.slice (some ⟨g, 0, none⟩) m m) ∧ Below w.heap.size w w' ∧ m = (dfL xs k).length + 1 ∧ IntssAt w' w.heap.size w'.heap.size (some ⟨g, 0, none⟩) ((List.range m).map (ptQ xs V k)) := by
  have hn : n ≤ 1000 := by have := hx.out; have := ho.out.okf.n2; omega
  have HVF := hide (fun W (hb : Below w.heap.size w W) => validFuncS_any (V : Int) a n c xs L B W (hide (ha.out.keep (hb.mono hB))) hx hs (by have := hb.size; omega))
  have HVS := hide (valid_same ⟨(V : Int), xs⟩)
  rw [← HVS.out, hv.out] at HVF
  clear HVS
  have hk1 : ¬ ((k : Int) < 0) := by omega
  have hk2 : ¬ ((n : Int) ≤ (k : Int)) := by omega
  go_enter Tryz.func16, Tryz.ntmps16
  go_wp2_with fail
  refine (HVF.out _ (balloc (Below.refl _ _) _)).mono ?_
  rintro e w1 ⟨rfl, hb1⟩
  have g0 := (hb1.cell (p := ⟨w.heap.size, 0, none⟩) (by simp)).trans (show _ = some (.int .i64 (V : Int)) by simp)
  have g1 := (hb1.cell (p := ⟨w.heap.size, 1, none⟩) (by simp)).trans (show _ = some (.slice a n c) by simp)
  have HB1 := hide (bnext (balloc (Below.refl w.heap.size w) (.cells #[.int .i64 (V : Int), .slice a n c] 32)) hb1)
  clear hb1 HVF
  have HPT := hide (points_any V a n c xs L B w1 (hide (ha.out.keep (HB1.out.mono hB))) hx (by have := HB1.out.size; omega) ho)
  go_wp2_with fail
  refine HPT.out.mono ?_
  rintro e w2 ⟨gO, cO, G, rfl, hb2, hgO, hG⟩
  obtain ⟨h1, h2, h3⟩ := hG k hk
  have HH := hide h3
  have HB2 := hide (bnext HB1.out hb2)
  clear hb2 hG h3 g0 g1 HPT
  go_wp2_with fail
  go_ret
  exact ⟨G k, _, rfl, HB2.out, rfl, HH.out.mono HB1.out.size (Nat.le_refl _)⟩
end Go.Proofs.YtjfcbjomfbfoiaaGreatDoor

namespace Go.Proofs.YtjfcbjomfbfoiaaGreatDoor
open Go.RowKit
def SetA (w : World) (L B : Nat) (l : List (List Int)) (G : Value) : Prop := ∃ a n c, G = .slice a n c ∧ IntssAt w L B a l ∧ n = l.length ∧ n ≤ 5000 ∧ ∀ x ∈ l, x.length ≤ 5000
theorem SetA.keepS {w w' : World} {L B : Nat} {l : List (List Int)} {G : Value} (h : SetA w L B l G) (k : Same L B w w') : SetA w' L B l G := by
  obtain ⟨a, n, c, e, h1, h2⟩ := h
  exact ⟨a, n, c, e, h1.keepS k, h2⟩
theorem SetA.form {w : World} {L B : Nat} {l : List (List Int)} {G : Value} (h : SetA w L B l G) : ∃ a n c, G = .slice a n c := by
  obtain ⟨a, n, c, e, _⟩ := h
  exact ⟨a, n, c, e⟩
theorem eqSetA_yes (l : List (List Int)) (G G' : Value) (L B L' B' : Nat) (w : World) (ha : SetA w L B l G) (hb : SetA w L' B' l G') (hB : B ≤ w.heap.size) (hB' : B' ≤ w.heap.size) :
    Calls Tryz.prog 18 #[G, G'] w fun e w' => e = .returned (.bool true) ∧ Below w.heap.size w w' := by
  obtain ⟨a, n, c, rfl, h1, h2, h3, h4⟩ := ha
  obtain ⟨a', n', c', rfl, k1, k2, _⟩ := hb
  obtain rfl : n = n' := by omega
  exact eqSets_yes a a' n c c' l L B L' B' w (hide h1) (hide k1) (hide h2) h3 (hide h4) hB hB'
/-- The marks of the answer, found again. -/
def MarkS (w : World) (B : Nat) (G : Value) : Prop := ∀ W, Same B w.heap.size w W → w.heap.size ≤ W.heap.size → Calls Tryz.prog 19 #[G, .int .i64 1] W fun e w' => ∃ m : Nat, e = .returned (.int .i64 m) ∧ m ≤ 60000000 ∧ Mod B w.heap.size W w' ∧ W.heap.size ≤ w'.heap.size ∧ (Calls Tryz.prog 20 #[G, .int .i64 1] w' fun e w'' => e = .returned (.int .i64 m) ∧ Below w'.heap.size w' w'')
theorem SetsSep.mark {w : World} {B g n c : Nat} {a : Nat → Option Addr} {cp lo hi : Nat → Nat} {Pr : Nat → List Int} (h : SetsSep w g n a cp lo hi Pr) (hg : 0 < n → B ≤ g ∧ g < w.heap.size) (hr : ∀ i q, i < n → lo i ≤ q → q < hi i → B ≤ q ∧ q < w.heap.size) (hn : n ≤ 5000) (hl : ∀ i, i < n → (Pr i).length ≤ 5000) : MarkS w B (.slice (some ⟨g, 0, none⟩) n c) := fun W hW hz => by
  have hW' : SetsSep W g n a cp lo hi Pr := ⟨fun i hi => (cell_of (hW g (hg (by omega)).1 (hg (by omega)).2)).trans (h.cell i hi), fun i hi => (h.ints i hi).keepS (fun q q1 q2 => hW q (hr i q hi q1 q2).1 (hr i q hi q1 q2).2), fun i hi => (h.thaw i hi).keepS (fun q q1 q2 => hW q (hr i q hi q1 q2).1 (hr i q hi q1 q2).2), h.dj, h.out⟩
  have hp := pc_le hl n (Nat.le_refl _)
  refine (markSets_sep g n c 1 a cp lo hi Pr W (hide hW') hn (hide hl) (by decide) (by decide)).mono ?_
  rintro e w' ⟨rfl, hk⟩
  have hzz := hk.size
  have hgk : 0 < n → w'.heap[g]? = W.heap[g]? := fun _ => hk.block g (fun i hi => h.out i hi)
  refine ⟨1 + pc Pr n, by simp, by omega, ⟨hk.os, hk.tape, hk.output, by omega, fun q q1 q2 => hk.block q (fun i hi e => q2 (hr i q hi e.1 e.2))⟩, by omega, ?_⟩
  refine (heldSets_any g n c 1 a cp lo hi Pr w' (hide (fun i hi => (cell_of (hgk (by omega))).trans (hW'.cell i hi))) (hide hk.done) hn (hide hl) (by decide) (by decide)).mono ?_
  rintro e w'' ⟨rfl, rfl⟩
  exact ⟨by simp, Below.refl _ _⟩
theorem RoS.sep {w : World} {base g m : Nat} {P : Nat → List Int} {U : Nat → Value} (h : RoS w base g m P U) : SetsSep w g m (fun i => aV (U i)) (fun i => cV (U i)) (fun i => loV (U i)) (fun i => hiV (U i)) P := by
  refine ⟨fun i hi => ?_, fun i hi => (row_sepV (h.own i hi)).2.1, fun i hi => (row_sepV (h.own i hi)).2.2.1, fun i j hi hj hij => djV (h.dj i j hi hj hij), fun i hi e => ?_⟩
  · rw [h.row.cell hi]
    exact congrArg some (row_sepV (h.own i hi)).1
  · have e1 := lohiV.1 e
    have := ((h.own i hi).lt g e1).1
    have := h.lt
    omega
theorem RoS.mark {w : World} {B base g m c : Nat} {P : Nat → List Int} {U : Nat → Value} (h : RoS w base g m P U) (hB : B ≤ g) (hm : m ≤ 5000) (hl : ∀ i, i < m → (P i).length ≤ 5000) : MarkS w B (.slice (some ⟨g, 0, none⟩) m c) :=
  h.sep.mark (fun _ => ⟨hB, h.row.lt⟩) (fun i q hi q1 q2 => by have h1 := (h.own i hi).lt q (lohiV.1 ⟨q1, q2⟩); have := h.lt; omega) hm hl
theorem RoS.setA {w : World} {L base g m c : Nat} {P : Nat → List Int} {U : Nat → Value} (h : RoS w base g m P U) (hL : L ≤ g) (hm : m ≤ 5000) (hl : ∀ i, i < m → (P i).length ≤ 5000) : SetA w L w.heap.size ((List.range m).map P) (.slice (some ⟨g, 0, none⟩) m c) :=
  ⟨_, m, c, rfl, h.ints hL, by simp, hm, fun x hx => by
    obtain ⟨i, hi, rfl⟩ := List.mem_map.1 hx
    exact hl i (List.mem_range.1 hi)⟩
theorem setA_nil (w : World) (L B : Nat) (a : Option Addr) (c : Nat) : SetA w L B [] (.slice a 0 c) := ⟨a, 0, c, rfl, fun i hi => absurd hi (by simp), rfl, by decide, fun x hx => absurd hx List.not_mem_nil⟩
theorem markS_empty (w : World) (B g c : Nat) : MarkS w B (.slice (some ⟨g, 0, none⟩) 0 c) :=
  SetsSep.mark (a := fun _ => none) (cp := fun _ => 0) (lo := fun _ => 0) (hi := fun _ => 0) (Pr := fun _ => []) ⟨fun i hi => absurd hi (by omega), fun i hi => absurd hi (by omega), fun i hi => absurd hi (by omega), fun i j hi => absurd hi (by omega), fun i hi => absurd hi (by omega)⟩ (fun h => absurd h (by omega)) (fun i q hi => absurd hi (by omega)) (by decide) (fun i hi => absurd hi (by omega))
end Go.Proofs.YtjfcbjomfbfoiaaGreatDoor

namespace Go.Proofs.YtjfcbjomfbfoiaaGreatDoor
open Go.RowKit
/-- What PointSets answers. -/
noncomputable def pqL (v : Int) (xs : List Blk) (k : Int) : List (List Int) := if validI ⟨v, xs⟩ = true ∧ 0 ≤ k ∧ k < xs.length then (List.range ((dfL xs k.toNat).length + 1)).map (ptQ xs v.toNat k.toNat) else []
set_option maxHeartbeats 1000000 in
set_option maxRecDepth 100000 in
theorem pointS_bad (v : Int) (a : Option Addr) (n c : Nat) (k : Int) (xs : List Blk) (L B : Nat) (w : World) (ha : Hid (BlksAt w L B a xs)) (hx : Hid (n = xs.length)) (hs : Hid (xs.length + blksTot xs ≤ 1048576)) (hB : B ≤ w.heap.size) (hv : validI ⟨v, xs⟩ = false ∨ (validI ⟨v, xs⟩ = true ∧ k < 0) ∨ (validI ⟨v, xs⟩ = true ∧ 0 ≤ k ∧ (n : Int) ≤ k)) :
    Calls Tryz.prog 16 #[.agg #[.int .i64 v, .slice a n c], .int .i64 k] w fun e w' => ∃ g, e = .returned (.slice (some ⟨g, 0, none⟩) 0 0) ∧ Below w.heap.size w w' := by
  have HVF := hide (fun W (hb : Below w.heap.size w W) => validFuncS_any v a n c xs L B W (hide (ha.out.keep (hb.mono hB))) hx hs (by have := hb.size; omega))
  rw [← valid_same] at HVF
  rcases hv with hv | ⟨hv, hk⟩ | ⟨hv, hk0, hk⟩
  · rw [hv] at HVF
    clear hv
    go_enter Tryz.func16, Tryz.ntmps16
    go_wp2_with fail
    refine (HVF.out _ (balloc (Below.refl _ _) _)).mono ?_
    rintro e w1 ⟨rfl, hb1⟩
    have g0 := (hb1.cell (p := ⟨w.heap.size, 0, none⟩) (by simp)).trans (show _ = some (.int .i64 v) by simp)
    have g1 := (hb1.cell (p := ⟨w.heap.size, 1, none⟩) (by simp)).trans (show _ = some (.slice a n c) by simp)
    have HB1 := hide (bnext (balloc (Below.refl w.heap.size w) (.cells #[.int .i64 v, .slice a n c] 32)) hb1)
    clear hb1 HVF
    go_wp2_with fail
    go_ret
    exact ⟨w1.heap.size, rfl, balloc HB1.out _⟩
  · rw [hv] at HVF
    clear hv
    go_enter Tryz.func16, Tryz.ntmps16
    go_wp2_with fail
    refine (HVF.out _ (balloc (Below.refl _ _) _)).mono ?_
    rintro e w1 ⟨rfl, hb1⟩
    have g0 := (hb1.cell (p := ⟨w.heap.size, 0, none⟩) (by simp)).trans (show _ = some (.int .i64 v) by simp)
    have g1 := (hb1.cell (p := ⟨w.heap.size, 1, none⟩) (by simp)).trans (show _ = some (.slice a n c) by simp)
    have HB1 := hide (bnext (balloc (Below.refl w.heap.size w) (.cells #[.int .i64 v, .slice a n c] 32)) hb1)
    clear hb1 HVF
    go_wp2_with fail
    go_ret
    exact ⟨w1.heap.size, rfl, balloc HB1.out _⟩
  · rw [hv] at HVF
    clear hv
    have hk1 : ¬ (k < 0) := by omega
    go_enter Tryz.func16, Tryz.ntmps16
    go_wp2_with fail
    refine (HVF.out _ (balloc (Below.refl _ _) _)).mono ?_
    rintro e w1 ⟨rfl, hb1⟩
    have g0 := (hb1.cell (p := ⟨w.heap.size, 0, none⟩) (by simp)).trans (show _ = some (.int .i64 v) by simp)
    have g1 := (hb1.cell (p := ⟨w.heap.size, 1, none⟩) (by simp)).trans (show _ = some (.slice a n c) by simp)
    have HB1 := hide (bnext (balloc (Below.refl w.heap.size w) (.cells #[.int .i64 v, .slice a n c] 32)) hb1)
    clear hb1 HVF
    go_wp2_with fail
    go_ret
    exact ⟨w1.heap.size, rfl, balloc HB1.out _⟩
set_option maxHeartbeats 1000000 in
set_option maxRecDepth 100000 in
theorem pointI_bad (v : Int) (a : Option Addr) (n c : Nat) (k : Int) (xs : List Blk) (L B : Nat) (w : World) (ha : Hid (BlksAt w L B a xs)) (hx : Hid (n = xs.length)) (hs : Hid (xs.length + blksTot xs ≤ 1048576)) (hB : B ≤ w.heap.size) (hO : Hid (OpTabW w)) (hT : Hid (TerTabW w)) (hv : validI ⟨v, xs⟩ = false ∨ (validI ⟨v, xs⟩ = true ∧ k < 0) ∨ (validI ⟨v, xs⟩ = true ∧ 0 ≤ k ∧ (n : Int) ≤ k)) :
    Calls Tryz.prog 17 #[.agg #[.int .i64 v, .slice a n c], .int .i64 k] w fun e w' => ∃ g, e = .returned (.slice (some ⟨g, 0, none⟩) 0 0) ∧ Below w.heap.size w w' := by
  have HVF := hide (fun W (hb : Below w.heap.size w W) => validFuncI_any v a n c xs L B W (hide (ha.out.keep (hb.mono hB))) hx hs (by have := hb.size; omega) (hide (hO.out.keep hb hO.out.1).old) (hide (hT.out.keep hb hT.out.1).old))
  rcases hv with hv | ⟨hv, hk⟩ | ⟨hv, hk0, hk⟩
  · rw [hv] at HVF
    clear hv
    go_enter Tryz.func17, Tryz.ntmps17
    go_wp2_with fail
    refine (HVF.out _ (balloc (Below.refl _ _) _)).mono ?_
    rintro e w1 ⟨rfl, hb1⟩
    have g0 := (hb1.cell (p := ⟨w.heap.size, 0, none⟩) (by simp)).trans (show _ = some (.int .i64 v) by simp)
    have g1 := (hb1.cell (p := ⟨w.heap.size, 1, none⟩) (by simp)).trans (show _ = some (.slice a n c) by simp)
    have HB1 := hide (bnext (balloc (Below.refl w.heap.size w) (.cells #[.int .i64 v, .slice a n c] 32)) hb1)
    clear hb1 HVF
    go_wp2_with fail
    go_ret
    exact ⟨w1.heap.size, rfl, balloc HB1.out _⟩
  · rw [hv] at HVF
    clear hv
    go_enter Tryz.func17, Tryz.ntmps17
    go_wp2_with fail
    refine (HVF.out _ (balloc (Below.refl _ _) _)).mono ?_
    rintro e w1 ⟨rfl, hb1⟩
    have g0 := (hb1.cell (p := ⟨w.heap.size, 0, none⟩) (by simp)).trans (show _ = some (.int .i64 v) by simp)
    have g1 := (hb1.cell (p := ⟨w.heap.size, 1, none⟩) (by simp)).trans (show _ = some (.slice a n c) by simp)
    have HB1 := hide (bnext (balloc (Below.refl w.heap.size w) (.cells #[.int .i64 v, .slice a n c] 32)) hb1)
    clear hb1 HVF
    go_wp2_with fail
    go_ret
    exact ⟨w1.heap.size, rfl, balloc HB1.out _⟩
  · rw [hv] at HVF
    clear hv
    have hk1 : ¬ (k < 0) := by omega
    go_enter Tryz.func17, Tryz.ntmps17
    go_wp2_with fail
    refine (HVF.out _ (balloc (Below.refl _ _) _)).mono ?_
    rintro e w1 ⟨rfl, hb1⟩
    have g0 := (hb1.cell (p := ⟨w.heap.size, 0, none⟩) (by simp)).trans (show _ = some (.int .i64 v) by simp)
    have g1 := (hb1.cell (p := ⟨w.heap.size, 1, none⟩) (by simp)).trans (show _ = some (.slice a n c) by simp)
    have HB1 := hide (bnext (balloc (Below.refl w.heap.size w) (.cells #[.int .i64 v, .slice a n c] 32)) hb1)
    clear hb1 HVF
    go_wp2_with fail
    go_ret
    exact ⟨w1.heap.size, rfl, balloc HB1.out _⟩
theorem pqL_ok {V : Nat} {xs : List Blk} (hv : validI ⟨(V : Int), xs⟩ = true) {k : Nat} (hk : k < xs.length) : pqL (V : Int) xs (k : Int) = (List.range ((dfL xs k).length + 1)).map (ptQ xs V k) := by
  unfold pqL
  rw [if_pos ⟨hv, by omega, by omega⟩, Int.toNat_natCast, Int.toNat_natCast]
theorem pq_cases (v : Int) (xs : List Blk) (n : Nat) (hx : n = xs.length) (k : Int) : ((validI ⟨v, xs⟩ = false ∨ (validI ⟨v, xs⟩ = true ∧ k < 0) ∨ (validI ⟨v, xs⟩ = true ∧ 0 ≤ k ∧ (n : Int) ≤ k)) ∧ pqL v xs k = []) ∨ (validI ⟨v, xs⟩ = true ∧ ∃ V k' : Nat, v = V ∧ k = k' ∧ k' < xs.length) := by
  cases hv : validI ⟨v, xs⟩ with
  | false => exact Or.inl ⟨Or.inl rfl, by unfold pqL; rw [if_neg (by rw [hv]; simp)]⟩
  | true =>
    by_cases h0 : k < 0
    · exact Or.inl ⟨Or.inr (Or.inl ⟨rfl, h0⟩), by unfold pqL; rw [if_neg (by omega)]⟩
    · by_cases h1 : (n : Int) ≤ k
      · exact Or.inl ⟨Or.inr (Or.inr ⟨rfl, by omega, h1⟩), by unfold pqL; rw [if_neg (by omega)]⟩
      · obtain ⟨V, e⟩ := valid_nat hv
        exact Or.inr ⟨rfl, V, k.toNat, e, by omega, by omega⟩
theorem pointS_ans (v : Int) (a : Option Addr) (n c : Nat) (k : Int) (xs : List Blk) (L B : Nat) (w : World) (ha : BlksAt w L B a xs) (hx : n = xs.length) (hs : xs.length + blksTot xs ≤ 1048576) (hB : B ≤ w.heap.size) :
    Calls Tryz.prog 16 #[.agg #[.int .i64 v, .slice a n c], .int .i64 k] w fun e w' => ∃ G, e = .returned G ∧ Below w.heap.size w w' ∧ SetA w' w.heap.size w'.heap.size (pqL v xs k) G := by
  rcases pq_cases v xs n hx k with ⟨h, e⟩ | ⟨hv, V, k', rfl, rfl, hk⟩
  · rw [e]
    refine (pointS_bad v a n c k xs L B w (hide ha) (hide hx) (hide hs) hB h).mono ?_
    rintro e w' ⟨g, rfl, hb⟩
    exact ⟨_, rfl, hb, setA_nil _ _ _ _ _⟩
  · rw [pqL_ok hv hk]
    have hok := okL_of_valid hv
    refine (pointS_any V a n c k' xs L B w (hide ha) (hide hx) (hide hs) hB (hide hv) (hide hok) (by omega)).mono ?_
    rintro e w' ⟨g, m, rfl, hb, hm, h1⟩
    have := df_len hok k'
    rw [← hm]
    refine ⟨_, rfl, hb, _, m, m, rfl, h1, by simp, by omega, fun x hx => ?_⟩
    obtain ⟨i, _, rfl⟩ := List.mem_map.1 hx
    have := ptQ_len xs V k' i
    have := hok.vle
    omega
theorem pointI_ans (v : Int) (a : Option Addr) (n c : Nat) (k : Int) (xs : List Blk) (L B : Nat) (w : World) (ha : BlksAt w L B a xs) (hx : n = xs.length) (hs : xs.length + blksTot xs ≤ 1048576) (hB : B ≤ w.heap.size) (hO : OpTabW w) (hT : TerTabW w) (hZ : TzTab w) :
    Calls Tryz.prog 17 #[.agg #[.int .i64 v, .slice a n c], .int .i64 k] w fun e w' => ∃ G, e = .returned G ∧ Below w.heap.size w w' ∧ SetA w' w.heap.size w'.heap.size (pqL v xs k) G ∧ MarkS w' w.heap.size G := by
  rcases pq_cases v xs n hx k with ⟨h, e⟩ | ⟨hv, V, k', rfl, rfl, hk⟩
  · rw [e]
    refine (pointI_bad v a n c k xs L B w (hide ha) (hide hx) (hide hs) hB (hide hO) (hide hT) h).mono ?_
    rintro e w' ⟨g, rfl, hb⟩
    exact ⟨_, rfl, hb, setA_nil _ _ _ _ _, markS_empty _ _ _ _⟩
  · rw [pqL_ok hv hk]
    have hok := okL_of_valid hv
    refine (pointI_any V a n c k' xs L B w (hide ha) (hide hx) (hide hs) hB (hide hO) (hide hT) (hide hZ) (hide hv) (hide hok) (by omega) hk).mono ?_
    rintro e w' ⟨base, g, U, rfl, hg, hb, hR⟩
    have h4 := (hok.lens _ (List.getElem_mem hk)).1
    have hV := hok.vle
    have hl : ∀ i, i < xs[k'].instrs.length + 1 → (natI (ptP xs xs[k'] V k' i)).length ≤ 5000 := fun i _ => by
      have := ptQ_len xs V k' i
      rw [ptQ_some hk] at this
      omega
    have hA := hR.setA (c := xs[k'].instrs.length + 1) hg (by omega) hl
    have hM := hR.mark (c := xs[k'].instrs.length + 1) hg (by omega) hl
    refine ⟨_, rfl, hb, ?_, hM⟩
    rw [dfL_some hk, List.map_congr_left (fun i _ => ptQ_some hk V i)]
    exact hA
end Go.Proofs.YtjfcbjomfbfoiaaGreatDoor
