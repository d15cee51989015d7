import Derived.Test.YtdcdgopblbmgoaaDoorW14b
import Derived.Test.YtdcdgopblbmgoaaDoorW16
import Derived.Deep.Cut
import Derived.Test.YtdcdgopblbmgoaaDoorN1
namespace Go.Proofs.YtdcdgopblbmgoaaDoor
open Go.RowKit

/-- One way out of block b, as a node bears it. -/
def WayAt (w : World) (L B : Nat) (F : Fn) (b : Nat) (to : Int) (ta : Option Addr) (nt : Nat) : Prop :=
  nt = (F.blk to.toNat).phis.length ∧ TakesAt w L B ta (takesR (idxR (F.preds to) b) (F.blk to.toNat).phis)
theorem WayAt.keep {w w' : World} {L B : Nat} {F : Fn} {b : Nat} {to : Int} {ta : Option Addr} {nt : Nat} (h : WayAt w L B F b to ta nt) (k : Below B w w') : WayAt w' L B F b to ta nt := ⟨h.1, h.2.keep k⟩
theorem WayAt.keepS {w w' : World} {L B : Nat} {F : Fn} {b : Nat} {to : Int} {ta : Option Addr} {nt : Nat} (h : WayAt w L B F b to ta nt) (k : Same L B w w') : WayAt w' L B F b to ta nt := ⟨h.1, h.2.keepS k⟩
theorem WayAt.mono {w : World} {L B L' B' : Nat} {F : Fn} {b : Nat} {to : Int} {ta : Option Addr} {nt : Nat} (h : WayAt w L B F b to ta nt) (l : L' ≤ L) (k : B ≤ B') : WayAt w L' B' F b to ta nt := ⟨h.1, h.2.mono l k⟩
/-- The end of block b as its node bears it. -/
def EndAt (w : World) (L B : Nat) (F : Fn) (b : Nat) (val : Value) : Prop :=
  ∃ (t1 t2 : Int) (ta ea : Option Addr) (nt ct ne ce : Nat), val = .agg #[.int .i64 (F.blk b).term.kind, .int .i64 (F.blk b).term.a, .int .i64 t1, .slice ta nt ct, .int .i64 t2, .slice ea ne ce] ∧
    ((F.blk b).term.kind ≠ 3 → t1 = (F.blk b).term.to ∧ WayAt w L B F b (F.blk b).term.to ta nt) ∧ ((F.blk b).term.kind = 2 → t2 = (F.blk b).term.els ∧ WayAt w L B F b (F.blk b).term.els ea ne)
theorem EndAt.keepS {w w' : World} {L B : Nat} {F : Fn} {b : Nat} {val : Value} (h : EndAt w L B F b val) (k : Same L B w w') : EndAt w' L B F b val := by
  obtain ⟨t1, t2, ta, ea, nt, ct, ne, ce, e, h1, h2⟩ := h
  exact ⟨t1, t2, ta, ea, nt, ct, ne, ce, e, fun q => ⟨(h1 q).1, (h1 q).2.keepS k⟩, fun q => ⟨(h2 q).1, (h2 q).2.keepS k⟩⟩
theorem EndAt.mono {w : World} {L B L' B' : Nat} {F : Fn} {b : Nat} {val : Value} (h : EndAt w L B F b val) (l : L' ≤ L) (k : B ≤ B') : EndAt w L' B' F b val := by
  obtain ⟨t1, t2, ta, ea, nt, ct, ne, ce, e, h1, h2⟩ := h
  exact ⟨t1, t2, ta, ea, nt, ct, ne, ce, e, fun q => ⟨(h1 q).1, (h1 q).2.mono l k⟩, fun q => ⟨(h2 q).1, (h2 q).2.mono l k⟩⟩

/-- Six cells of a variable. -/
def Six (w : World) (r : Nat) (v0 v1 v2 v3 v4 v5 : Value) : Prop := (w.cell? ⟨r, 0, none⟩ = some v0 ∧ w.cell? ⟨r, 1, none⟩ = some v1 ∧ w.cell? ⟨r, 2, none⟩ = some v2 ∧ w.cell? ⟨r, 3, none⟩ = some v3 ∧ w.cell? ⟨r, 4, none⟩ = some v4 ∧ w.cell? ⟨r, 5, none⟩ = some v5) ∧ ∀ o, w.frozen? ⟨r, o, none⟩ = false
theorem Six.keep {w w1 : World} {r : Nat} {v0 v1 v2 v3 v4 v5 : Value} (h : Six w r v0 v1 v2 v3 v4 v5) (k : w1.heap[r]? = w.heap[r]?) : Six w1 r v0 v1 v2 v3 v4 v5 :=
  ⟨⟨(cell_of k).trans h.1.1, (cell_of k).trans h.1.2.1, (cell_of k).trans h.1.2.2.1, (cell_of k).trans h.1.2.2.2.1, (cell_of k).trans h.1.2.2.2.2.1, (cell_of k).trans h.1.2.2.2.2.2⟩, fun o => (World.frozen?_of_block k).trans (h.2 o)⟩
theorem Six.lo {w : World} {r : Nat} {v0 v1 v2 v3 v4 v5 : Value} (h : Six w r v0 v1 v2 v3 v4 v5) (x y : Value) : Six ((w.setCell ⟨r, 2, none⟩ x).setCell ⟨r, 3, none⟩ y) r v0 v1 x y v4 v5 := by
  obtain ⟨⟨h0, h1, h2, h3, h4, h5⟩, hz⟩ := h
  refine ⟨⟨?_, ?_, ?_, ?_, ?_, ?_⟩, fun o => by simp [hz]⟩ <;> simp [h0, h1, h2, h3, h4, h5, go_sem]
theorem Same.set {L B : Nat} {w w1 : World} (h : Same L B w w1) (p : Addr) (v : Value) (hp : p.block < L) : Same L B w (w1.setCell p v) := fun k h1 h2 => (Below.heap_setCell _ _ _ _ (by omega)).trans (h k h1 h2)
theorem set6 {B : Nat} {w W : World} (h : Below B w W) {r : Nat} (hr : B ≤ r) (v0 v1 v2 v3 v4 v5 : Value) : Below B w ((((((W.setCell ⟨r, 0, none⟩ v0).setCell ⟨r, 1, none⟩ v1).setCell ⟨r, 2, none⟩ v2).setCell ⟨r, 3, none⟩ v3).setCell ⟨r, 4, none⟩ v4).setCell ⟨r, 5, none⟩ v5) := (((((h.setCell hr _).setCell hr _).setCell hr _).setCell hr _).setCell hr _).setCell hr _
theorem same6 {L B : Nat} {w W : World} (h : Same L B w W) {r : Nat} (hr : r < L) (v0 v1 v2 v3 v4 v5 : Value) : Same L B w ((((((W.setCell ⟨r, 0, none⟩ v0).setCell ⟨r, 1, none⟩ v1).setCell ⟨r, 2, none⟩ v2).setCell ⟨r, 3, none⟩ v3).setCell ⟨r, 4, none⟩ v4).setCell ⟨r, 5, none⟩ v5) := (((((h.set _ _ hr).set _ _ hr).set _ _ hr).set _ _ hr).set _ _ hr).set _ _ hr
theorem Six.hi {w : World} {r : Nat} {v0 v1 v2 v3 v4 v5 : Value} (h : Six w r v0 v1 v2 v3 v4 v5) (x y : Value) : Six ((w.setCell ⟨r, 4, none⟩ x).setCell ⟨r, 5, none⟩ y) r v0 v1 v2 v3 x y := by
  obtain ⟨⟨h0, h1, h2, h3, h4, h5⟩, hz⟩ := h
  refine ⟨⟨?_, ?_, ?_, ?_, ?_, ?_⟩, fun o => by simp [hz]⟩ <;> simp [h0, h1, h2, h3, h4, h5, go_sem]
theorem ends2 {w w1 : World} {kd xa xto xel : Int} {u v : Nat} (hb : Below (w.heap.size + 1 + 1) ((w.alloc (.cells #[.int .i64 kd, .int .i64 xa, .int .i64 xto, .int .i64 xel] u)).alloc (.cells #[.int .i64 kd, .int .i64 xa, .int .i64 0, .slice none 0 0, .int .i64 0, .slice none 0 0] v)) w1) :
    (w1.cell? ⟨w.heap.size, 0, none⟩ = some (.int .i64 kd) ∧ w1.cell? ⟨w.heap.size, 2, none⟩ = some (.int .i64 xto) ∧ w1.cell? ⟨w.heap.size, 3, none⟩ = some (.int .i64 xel)) ∧ Six w1 (w.heap.size + 1) (.int .i64 kd) (.int .i64 xa) (.int .i64 0) (.slice none 0 0) (.int .i64 0) (.slice none 0 0) := by
  have k0 := hb.block w.heap.size (by omega)
  have k1 := hb.block (w.heap.size + 1) (by omega)
  refine ⟨⟨(cell_of k0).trans ?_, (cell_of k0).trans ?_, (cell_of k0).trans ?_⟩, Six.keep ⟨⟨?_, ?_, ?_, ?_, ?_, ?_⟩, fun o => ?_⟩ k1⟩ <;> simp [go_sem]
/-- What holds behind the first way out. -/
structure EndW (w W : World) (R : Nat) (kd xa xel t1 : Int) (ta : Option Addr) (nt ct : Nat) (F : Fn) (b : Nat) : Prop where
  below : Below w.heap.size w W
  q0 : W.cell? ⟨w.heap.size, 0, none⟩ = some (.int .i64 kd)
  q3 : W.cell? ⟨w.heap.size, 3, none⟩ = some (.int .i64 xel)
  six : Six W (w.heap.size + 1) (.int .i64 kd) (.int .i64 xa) (.int .i64 t1) (.slice ta nt ct) (.int .i64 0) (.slice none 0 0)
  way : WayAt W (w.heap.size + 1 + 1) W.heap.size F b t1 ta nt
  size : w.heap.size + 1 + 1 ≤ W.heap.size
theorem EndW.mk' {w w1 : World} {R : Nat} {kd xa xto xel : Int} {u v : Nat} {t1 : Int} {ta : Option Addr} {nt ct : Nat} {F : Fn} {b : Nat} (hb : Below ((w.alloc (.cells #[.int .i64 kd, .int .i64 xa, .int .i64 xto, .int .i64 xel] u)).alloc (.cells #[.int .i64 kd, .int .i64 xa, .int .i64 0, .slice none 0 0, .int .i64 0, .slice none 0 0] v)).drew.heap.size ((w.alloc (.cells #[.int .i64 kd, .int .i64 xa, .int .i64 xto, .int .i64 xel] u)).alloc (.cells #[.int .i64 kd, .int .i64 xa, .int .i64 0, .slice none 0 0, .int .i64 0, .slice none 0 0] v)).drew w1)
    (hway : WayAt w1 ((w.alloc (.cells #[.int .i64 kd, .int .i64 xa, .int .i64 xto, .int .i64 xel] u)).alloc (.cells #[.int .i64 kd, .int .i64 xa, .int .i64 0, .slice none 0 0, .int .i64 0, .slice none 0 0] v)).drew.heap.size w1.heap.size F b t1 ta nt) :
    EndW w ((w1.setCell ⟨w.heap.size + 1, 2, none⟩ (.int .i64 t1)).setCell ⟨w.heap.size + 1, 3, none⟩ (.slice ta nt ct)) R kd xa xel t1 ta nt ct F b := by
  have hs : ((w.alloc (.cells #[.int .i64 kd, .int .i64 xa, .int .i64 xto, .int .i64 xel] u)).alloc (.cells #[.int .i64 kd, .int .i64 xa, .int .i64 0, .slice none 0 0, .int .i64 0, .slice none 0 0] v)).drew.heap.size = w.heap.size + 1 + 1 := by simp
  rw [hs] at hb hway
  have hb' : Below (w.heap.size + 1 + 1) ((w.alloc (.cells #[.int .i64 kd, .int .i64 xa, .int .i64 xto, .int .i64 xel] u)).alloc (.cells #[.int .i64 kd, .int .i64 xa, .int .i64 0, .slice none 0 0, .int .i64 0, .slice none 0 0] v)) w1 := (Below.refl _ _).drew.trans hb
  obtain ⟨⟨q0, q2, q3⟩, hsix⟩ := ends2 hb'
  have hsz := hb.size
  rw [hs] at hsz
  have far : ∀ q, q ≠ w.heap.size + 1 → ((w1.setCell ⟨w.heap.size + 1, 2, none⟩ (.int .i64 t1)).setCell ⟨w.heap.size + 1, 3, none⟩ (.slice ta nt ct)).heap[q]? = w1.heap[q]? := fun q hq => (Below.heap_setCell _ _ _ _ hq).trans (Below.heap_setCell _ _ _ _ hq)
  refine ⟨(((balloc (balloc (Below.refl w.heap.size w) _) _).trans (hb'.mono (by omega))).setCell (by show w.heap.size ≤ w.heap.size + 1; omega) _).setCell (by show w.heap.size ≤ w.heap.size + 1; omega) _, (cell_of (far _ (by omega))).trans q0, (cell_of (far _ (by omega))).trans q3, hsix.lo _ _, ?_, by simp; omega⟩
  have h2 := hway.keepS (((Same.refl (w.heap.size + 1 + 1) w1.heap.size w1).set ⟨w.heap.size + 1, 2, none⟩ (.int .i64 t1) (by show w.heap.size + 1 < _; omega)).set ⟨w.heap.size + 1, 3, none⟩ (.slice ta nt ct) (by show w.heap.size + 1 < _; omega))
  exact h2.mono (Nat.le_refl _) (by simp)
theorem letterE {P : World → Prop} (W0 : World) (h : ∀ W, W = W0 → P W) : P W0 := h W0 rfl

theorem both_ok {F : Fn} {b : Nat} (h : BlkOk F b) (hk : (F.blk b).term.kind = 2) : (1 ≤ (F.blk b).term.to ∧ (F.blk b).term.to < F.blocks.length) ∧ (1 ≤ (F.blk b).term.els ∧ (F.blk b).term.els < F.blocks.length) := by
  have ht := h.ter
  generalize F.blk b = X at *
  simp only [terOk', terOk, Bool.and_eq_true, decide_eq_true_eq] at ht
  obtain ⟨⟨⟨⟨⟨t1, t2⟩, _⟩, t3⟩, t4⟩, _⟩ := ht
  exact ⟨fld_yes t3 (by simp [hk]), fld_yes t4 (by simp [hk])⟩
/-- makeEdge of a way out of a valid function's block. -/
theorem way_any (m : Nat) (a : Option Addr) (n c : Nat) (pa : Option Addr) (pn pc : Nat) (b t : Nat) (xs : List Blk) (L B L2 B2 : Nat) (w : World)
    (ha : Hid (BlksAt w L B a xs)) (hx : Hid (n = xs.length)) (hs : Hid (xs.length + blksTot xs ≤ 1048576)) (hB : B ≤ w.heap.size) (hp : Hid (IntssAt w L2 B2 pa ((List.range xs.length).map fun i : Nat => predsFrom xs 0 (i : Int)))) (hpn : Hid (pn = xs.length)) (hB2 : B2 ≤ w.heap.size)
    (good : Hid (validS ⟨m, xs⟩ = true)) (hb : b < n) (ht : t < n) (htm : Hid ((t : Int) ∈ ((⟨m, xs⟩ : Fn).blk b).term.targets)) :
    Calls Tryd.prog 149 #[.agg #[.int .i64 m, .slice a n c], .slice pa pn pc, .int .i64 b, .int .i64 t] w
      fun e w' => ∃ ta nt ct, e = .returned (.agg #[.int .i64 t, .slice ta nt ct]) ∧ Below w.heap.size w w' ∧ WayAt w' w.heap.size w'.heap.size ⟨m, xs⟩ b t ta nt := by
  have hbx : b < xs.length := by have := hx.out; omega
  have htx : t < xs.length := by have := hx.out; omega
  have BT := blkOk_of ⟨m, xs⟩ good.out t htx
  have hlen : ((⟨m, xs⟩ : Fn).blk t).phis.length ≤ 1048576 := by rw [blk_at ⟨m, xs⟩ t htx]; show xs[t].phis.length ≤ _; have := tot_le (List.getElem_mem htx); have := hs.out; omega
  refine (makeEdge_any m a n c pa pn pc b t xs _ ((⟨m, xs⟩ : Fn).blk t) (predsFrom xs 0 (t : Int)) m L B L2 B2 w ha hx hB hp (hide (by rw [List.length_map, List.length_range]; exact hpn.out)) hB2 ht (by have := hpn.out; omega) (hide (fun h => (blk_at ⟨m, xs⟩ t h).symm)) (hide (fun h => by simp)) (by have := predsFrom_len (t : Int) xs 0; have := hs.out; omega) hlen (hide (pred_here (F := ⟨m, xs⟩) hbx htm.out)) (hide BT.phi)).mono ?_
  rintro e w' ⟨ta, ct, rfl, hb', ht'⟩
  exact ⟨ta, _, ct, rfl, hb', rfl, ht'⟩

set_option maxHeartbeats 2000000 in
theorem endNode_any (m : Nat) (a : Option Addr) (n c : Nat) (pa : Option Addr) (pn pc : Nat) (b : Nat) (xs : List Blk) (R L B L2 B2 : Nat) (w : World)
    (ha : Hid (BlksAt w L B a xs)) (hx : Hid (n = xs.length)) (hs : Hid (xs.length + blksTot xs ≤ 1048576)) (hB : B ≤ w.heap.size) (hp : Hid (IntssAt w L2 B2 pa ((List.range xs.length).map fun i : Nat => predsFrom xs 0 (i : Int)))) (hpn : Hid (pn = xs.length)) (hB2 : B2 ≤ w.heap.size)
    (good : Hid (validS ⟨m, xs⟩ = true)) (hb : b < n) (hT : Hid (TerTab w)) (g1 : w.cell? ⟨R, 11, none⟩ = some (.int .i64 m)) (g2 : w.cell? ⟨R, 12, none⟩ = some (.slice a n c)) (g3 : w.cell? ⟨R, 13, none⟩ = some (.slice pa pn pc)) (hR : R < w.heap.size) :
    Calls Tryd.prog 116 #[.pointer (some ⟨R, 0, none⟩), .int .i64 b] w
      fun e w' => ∃ val, e = .returned (.iface 200 val) ∧ Below w.heap.size w w' ∧ EndAt w' w.heap.size w'.heap.size ⟨m, xs⟩ b val := by
  have hbx : b < xs.length := by have := hx.out; omega
  have BO := blkOk_of ⟨m, xs⟩ good.out b hbx
  have hkd := term_kind BO
  obtain ⟨b1, o1, rfl, ⟨_, hbB⟩, hc⟩ := ha.out b hbx
  rw [show xs[b] = (⟨m, xs⟩ : Fn).blk b from (blk_at ⟨m, xs⟩ b hbx).symm] at hc
  obtain ⟨_, _, _, _, -, -, ⟨t0, t1, t2, t3⟩, -, -⟩ := hc
  have G1 := fun x y => ((balloc (balloc (Below.refl w.heap.size w) x) y).cell (p := ⟨R, 11, none⟩) hR).trans g1
  have G2 := fun x y => ((balloc (balloc (Below.refl w.heap.size w) x) y).cell (p := ⟨R, 12, none⟩) hR).trans g2
  have G3 := fun x y => ((balloc (balloc (Below.refl w.heap.size w) x) y).cell (p := ⟨R, 13, none⟩) hR).trans g3
  have hz := hT.out.1
  have m1 : w.heap.size + 1 ≠ R := by omega
  have m2 : R ≠ w.heap.size + 1 := by omega
  have hc : ((⟨m, xs⟩ : Fn).blk b).term.kind = 1 ∨ ((⟨m, xs⟩ : Fn).blk b).term.kind = 2 ∨ ((⟨m, xs⟩ : Fn).blk b).term.kind = 3 := by omega
  rcases hc with hk | hk | hk
  · obtain ⟨s, c0, c1, c2, c3⟩ := hT.out.2 1 (by omega) (by omega)
    have C2 := fun x y => ((balloc (balloc (Below.refl w.heap.size w) x) y).cell (p := ⟨1, 1 * 4 + 2, none⟩) hz).trans c2
    have htm1 : Hid (((⟨m, xs⟩ : Fn).blk b).term.to ∈ ((⟨m, xs⟩ : Fn).blk b).term.targets) := hide (by unfold Ter.targets; rw [if_pos hk]; simp)
    have htt := goTo_ok BO (by omega) []
    rw [show goTo ((⟨m, xs⟩ : Fn).blk b) [] = ((⟨m, xs⟩ : Fn).blk b).term.to from by unfold goTo; rw [if_neg (fun h => by have := h.1; omega)]] at htt
    obtain ⟨tt, ett⟩ := Int.eq_ofNat_of_zero_le (show 0 ≤ ((⟨m, xs⟩ : Fn).blk b).term.to by omega)
    rw [ett] at htt htm1
    have HW1 := fun (W : World) (h : Below w.heap.size w W) => hide (way_any m (some ⟨b1, o1, none⟩) n c pa pn pc b tt xs L B L2 B2 W (hide (ha.out.keep (h.mono hB))) hx hs (by have := h.size; omega) (hide (hp.out.keep (h.mono hB2))) hpn (by have := h.size; omega) good hb (by have := hx.out; have h2 : (tt : Int) < xs.length := htt.2; omega) htm1)
    unfold EndAt
    rw [hk] at t0 ⊢
    rw [ett] at t2 ⊢
    generalize ((⟨m, xs⟩ : Fn).blk b).term.a = xa at *
    generalize ((⟨m, xs⟩ : Fn).blk b).term.els = xel at *
    have C3 := hide c3
    clear c0 c1 c2 c3 htm1 htt
    have n1 : w.heap.size + 1 ≠ 1 := by omega
    have n2 : 1 ≠ w.heap.size + 1 := by omega
    go_enter Tryd.func116, Tryd.ntmps116
    go_wp2
    go_region_held3 (fun w' => w'.cell? ⟨R, 11, none⟩ = some (.int .i64 m) ∧ w'.cell? ⟨R, 12, none⟩ = some (.slice (some ⟨b1, o1, none⟩) n c) ∧ w'.cell? ⟨R, 13, none⟩ = some (.slice pa pn pc) ∧ w'.cell? ⟨w.heap.size, 2, none⟩ = some (.int .i64 tt)) (go_keep) ((go_at_call 149; refine (HW1 _ (balloc (balloc (Below.refl w.heap.size w) _) _).drew).out.mono ?_; rintro e w1 ⟨ta, nt, ct, rfl, hb1, hway⟩; obtain ⟨⟨q0, q2, q3⟩, ⟨e0, e1, e2, e3, e4, e5⟩, ez⟩ := ends2 ((Below.refl _ _).drew.trans (hb1.mono (by simp))); have hbb := bnext (balloc (balloc (Below.refl w.heap.size w) _) _).drew hb1; have k1 := (hbb.cell (p := ⟨R, 11, none⟩) hR).trans g1; have k2 := (hbb.cell (p := ⟨R, 12, none⟩) hR).trans g2; have k3 := (hbb.cell (p := ⟨R, 13, none⟩) hR).trans g3; have HEW := hide (EndW.mk' (R := R) (ct := ct) hb1 hway); clear hb1 hway hbb))
    go_upto_region 5 with fail
    refine letterE (P := Code.wp _ _ _ _) _ ?_
    intro W1 hW1
    have HE : Hid (EndW w W1 R 1 xa xel tt ta nt ct ⟨m, xs⟩ b) := hide (by rw [hW1]; exact HEW.out)
    clear hW1 HEW q0 q2 q3 e0 e1 e2 e3 e4 e5 ez k1 k2 k3 HW1
    have C3' := (HE.out.below.cell (p := ⟨1, 1 * 4 + 3, none⟩) hz).trans C3.out
    have q0 := HE.out.q0
    have q3 := HE.out.q3
    have hsz := HE.out.size
    obtain ⟨⟨e0, e1, e2, e3, e4, e5⟩, ez⟩ := HE.out.six
    clear C2 G1 G2 G3
    go_wp2
    go_ret
    exact ⟨_, rfl, HE.out.below, tt, 0, ta, none, nt, ct, 0, 0, rfl, fun _ => ⟨rfl, HE.out.way.mono (by omega) (Nat.le_refl _)⟩, fun h => absurd h (by decide)⟩
  · obtain ⟨s, c0, c1, c2, c3⟩ := hT.out.2 2 (by omega) (by omega)
    have C2 := fun x y => ((balloc (balloc (Below.refl w.heap.size w) x) y).cell (p := ⟨1, 2 * 4 + 2, none⟩) hz).trans c2
    have htm1 : Hid (((⟨m, xs⟩ : Fn).blk b).term.to ∈ ((⟨m, xs⟩ : Fn).blk b).term.targets) := hide (by unfold Ter.targets; rw [if_neg (by omega), if_pos hk]; simp)
    have htm2 : Hid (((⟨m, xs⟩ : Fn).blk b).term.els ∈ ((⟨m, xs⟩ : Fn).blk b).term.targets) := hide (by unfold Ter.targets; rw [if_neg (by omega), if_pos hk]; simp)
    obtain ⟨htt, hte⟩ := both_ok BO hk
    obtain ⟨tt, ett⟩ := Int.eq_ofNat_of_zero_le (show 0 ≤ ((⟨m, xs⟩ : Fn).blk b).term.to by omega)
    obtain ⟨te, ete⟩ := Int.eq_ofNat_of_zero_le (show 0 ≤ ((⟨m, xs⟩ : Fn).blk b).term.els by omega)
    rw [ett] at htt htm1
    rw [ete] at hte htm2
    have HW1 := fun (W : World) (h : Below w.heap.size w W) => hide (way_any m (some ⟨b1, o1, none⟩) n c pa pn pc b tt xs L B L2 B2 W (hide (ha.out.keep (h.mono hB))) hx hs (by have := h.size; omega) (hide (hp.out.keep (h.mono hB2))) hpn (by have := h.size; omega) good hb (by have := hx.out; have h2 : (tt : Int) < xs.length := htt.2; omega) htm1)
    have HW2 := fun (W : World) (h : Below w.heap.size w W) => hide (way_any m (some ⟨b1, o1, none⟩) n c pa pn pc b te xs L B L2 B2 W (hide (ha.out.keep (h.mono hB))) hx hs (by have := h.size; omega) (hide (hp.out.keep (h.mono hB2))) hpn (by have := h.size; omega) good hb (by have := hx.out; have h2 : (te : Int) < xs.length := hte.2; omega) htm2)
    unfold EndAt
    rw [hk] at t0 ⊢
    rw [ett] at t2 ⊢
    rw [ete] at t3 ⊢
    generalize ((⟨m, xs⟩ : Fn).blk b).term.a = xa at *
    have C3 := hide c3
    clear c0 c1 c2 c3 htm1 htt htm2 hte
    have n1 : w.heap.size + 1 ≠ 1 := by omega
    have n2 : 1 ≠ w.heap.size + 1 := by omega
    go_enter Tryd.func116, Tryd.ntmps116
    go_wp2
    go_region_held3 (fun w' => w'.cell? ⟨R, 11, none⟩ = some (.int .i64 m) ∧ w'.cell? ⟨R, 12, none⟩ = some (.slice (some ⟨b1, o1, none⟩) n c) ∧ w'.cell? ⟨R, 13, none⟩ = some (.slice pa pn pc) ∧ w'.cell? ⟨w.heap.size, 2, none⟩ = some (.int .i64 tt)) (go_keep) ((go_at_call 149; refine (HW1 _ (balloc (balloc (Below.refl w.heap.size w) _) _).drew).out.mono ?_; rintro e w1 ⟨ta, nt, ct, rfl, hb1, hway⟩; obtain ⟨⟨q0, q2, q3⟩, ⟨e0, e1, e2, e3, e4, e5⟩, ez⟩ := ends2 ((Below.refl _ _).drew.trans (hb1.mono (by simp))); have hbb := bnext (balloc (balloc (Below.refl w.heap.size w) _) _).drew hb1; have k1 := (hbb.cell (p := ⟨R, 11, none⟩) hR).trans g1; have k2 := (hbb.cell (p := ⟨R, 12, none⟩) hR).trans g2; have k3 := (hbb.cell (p := ⟨R, 13, none⟩) hR).trans g3; have HEW := hide (EndW.mk' (R := R) (ct := ct) hb1 hway); clear hb1 hway hbb))
    go_upto_region 5 with fail
    refine letterE (P := Code.wp _ _ _ _) _ ?_
    intro W1 hW1
    have HE : Hid (EndW w W1 R 2 xa (te : Int) tt ta nt ct ⟨m, xs⟩ b) := hide (by rw [hW1]; exact HEW.out)
    clear hW1 HEW q0 q2 q3 e0 e1 e2 e3 e4 e5 ez k1 k2 k3 HW1
    have C3' := (HE.out.below.cell (p := ⟨1, 2 * 4 + 3, none⟩) hz).trans C3.out
    have q0 := HE.out.q0
    have q3 := HE.out.q3
    have hsz := HE.out.size
    obtain ⟨⟨e0, e1, e2, e3, e4, e5⟩, ez⟩ := HE.out.six
    clear C2 G1 G2 G3
    have g1' := (HE.out.below.cell (p := ⟨R, 11, none⟩) hR).trans g1
    have g2' := (HE.out.below.cell (p := ⟨R, 12, none⟩) hR).trans g2
    have g3' := (HE.out.below.cell (p := ⟨R, 13, none⟩) hR).trans g3
    have hRW : R < W1.heap.size := by have := HE.out.below.size; omega
    go_wp2
    go_region_held3 (fun w' => w'.cell? ⟨R, 11, none⟩ = some (.int .i64 m) ∧ w'.cell? ⟨R, 12, none⟩ = some (.slice (some ⟨b1, o1, none⟩) n c) ∧ w'.cell? ⟨R, 13, none⟩ = some (.slice pa pn pc) ∧ w'.cell? ⟨w.heap.size, 3, none⟩ = some (.int .i64 te)) (go_keep) ((go_at_call 149; refine (HW2 _ HE.out.below.drew).out.mono ?_; rintro e w2 ⟨ea, ne, ce, rfl, hb2, hway⟩; have hb2' : Below W1.heap.size W1 w2 := (Below.refl W1.heap.size W1).drew.trans hb2; have k1 := (hb2'.cell (p := ⟨R, 11, none⟩) hRW).trans g1'; have k2 := (hb2'.cell (p := ⟨R, 12, none⟩) hRW).trans g2'; have k3 := (hb2'.cell (p := ⟨R, 13, none⟩) hRW).trans g3'; have p3 := (hb2'.cell (p := ⟨w.heap.size, 3, none⟩) (by show w.heap.size < _; omega)).trans q3; have H6 := hide (HE.out.six.keep (hb2'.block (w.heap.size + 1) (by omega))); obtain ⟨⟨f0, f1, f2, f3, f4, f5⟩, fz⟩ := H6.out; have HB2 := hide hb2'; have HY2 := hide hway; clear hb2 hb2' hway))
    go_wp2
    go_ret
    have hs2 := HB2.out.size
    have sm := fun (L : Nat) (hL : w.heap.size + 1 < L) => (((Same.refl L w2.heap.size w2).set ⟨w.heap.size + 1, 4, none⟩ (.int .i64 te) (by show w.heap.size + 1 < _; omega)).set ⟨w.heap.size + 1, 5, none⟩ (.slice ea ne ce) (by show w.heap.size + 1 < _; omega))
    refine ⟨_, rfl, ((HE.out.below.trans (HB2.out.mono HE.out.below.size)).setCell (by show w.heap.size ≤ w.heap.size + 1; omega) _).setCell (by show w.heap.size ≤ w.heap.size + 1; omega) _, tt, te, ta, ea, nt, ct, ne, ce, rfl, fun _ => ⟨rfl, ?_⟩, fun _ => ⟨rfl, ?_⟩⟩
    · exact (((HE.out.way.keep HB2.out).mono (Nat.le_refl _) hs2).keepS (sm _ (by omega))).mono (by omega) (by simp)
    · exact (HY2.out.keepS (sm _ (by show w.heap.size + 1 < W1.heap.size; omega))).mono (by show w.heap.size ≤ W1.heap.size; omega) (by simp)
  · obtain ⟨s, c0, c1, c2, c3⟩ := hT.out.2 3 (by omega) (by omega)
    have C2 := fun x y => ((balloc (balloc (Below.refl w.heap.size w) x) y).cell (p := ⟨1, 3 * 4 + 2, none⟩) hz).trans c2
    have C3 := fun x y => ((balloc (balloc (Below.refl w.heap.size w) x) y).cell (p := ⟨1, 3 * 4 + 3, none⟩) hz).trans c3
    unfold EndAt
    rw [hk] at t0 ⊢
    generalize ((⟨m, xs⟩ : Fn).blk b).term.a = xa at *
    generalize ((⟨m, xs⟩ : Fn).blk b).term.to = xto at *
    generalize ((⟨m, xs⟩ : Fn).blk b).term.els = xel at *
    clear c0 c1 c2 c3 G1 G2 G3
    go_enter Tryd.func116, Tryd.ntmps116
    go_wp2
    go_ret
    exact ⟨_, rfl, balloc (balloc (Below.refl _ _) _) _, 0, 0, none, none, 0, 0, 0, 0, rfl, fun h => absurd rfl h, fun h => absurd h (by decide)⟩
end Go.Proofs.YtdcdgopblbmgoaaDoor

/-
  The table of a run's nodes, whatever is run: a row of rows of nodes that grows block by block.
-/
namespace Go.Proofs.YtdcdgopblbmgoaaDoor
open Go.RowKit

theorem Tryd.info116 : (Tryd.prog.info? 163).map (fun i => (i.zero, i.size, i.bytes)) = some (some (.slice none 0 0), 1, 24) := by kernel_rfl
theorem Tryd.info118 : (Tryd.prog.info? 165).map (fun i => (i.zero, i.size, i.bytes)) = some (some .nilIface, 1, 16) := by kernel_rfl

theorem nodeV_iface (args : List Int) (x : Ins) : ∃ T V, nodeV args x = .iface T V := by
  unfold nodeV
  split
  · exact ⟨_, _, rfl⟩
  split
  · exact ⟨_, _, rfl⟩
  split
  · exact ⟨_, _, rfl⟩
  split
  · exact ⟨_, _, rfl⟩
  · exact ⟨_, _, rfl⟩
theorem five_keep {wi w2 : World} {v0 v1 v2 v3 v4 : Value} {t : Nat} (h : Below (wi.heap.size + 1) (wi.alloc (.cells #[v0, v1, v2, v3, v4] t)).drew w2) : w2.cell? ⟨wi.heap.size, 0, none⟩ = some v0 ∧ w2.cell? ⟨wi.heap.size, 1, none⟩ = some v1 ∧ w2.cell? ⟨wi.heap.size, 2, none⟩ = some v2 ∧ w2.cell? ⟨wi.heap.size, 3, none⟩ = some v3 ∧ w2.cell? ⟨wi.heap.size, 4, none⟩ = some v4 := by
  have k := h.block wi.heap.size (by omega)
  refine ⟨(cell_of k).trans ?_, (cell_of k).trans ?_, (cell_of k).trans ?_, (cell_of k).trans ?_, (cell_of k).trans ?_⟩ <;> simp [go_sem]
theorem TerTab.keep1 {w w' : World} (h : TerTab w) (k : w'.heap[1]? = w.heap[1]?) (hs : 1 < w'.heap.size) : TerTab w' := by
  refine ⟨hs, fun i h1 h2 => ?_⟩
  have e := fun o => cell_of (o := o) k
  obtain ⟨s, c0, c1, c2, c3⟩ := h.2 i h1 h2
  exact ⟨s, (e _).trans c0, (e _).trans c1, (e _).trans c2, (e _).trans c3⟩
theorem heap_new (w : World) (o : Obj) : (w.alloc o).heap[w.heap.size]? = some o := by show (w.heap.push o)[w.heap.size]? = some o; simp
theorem own_born (w : World) (o : Obj) (t : Nat) : ((w.alloc o).alloc (.cells #[] t)).ownsRow (w.heap.size + 1) t 1 (.slice (some ⟨w.heap.size + 1, 0, none⟩) 0 0) 0 [] := by
  have h := World.ownsRow_lit (base := w.heap.size + 1) (e := t) (size := 1) (w.alloc o) #[] 0 (by simp) (by simp) rfl
  rw [World.size_alloc] at h
  exact h

/-- The fields of a run that making nodes does not turn. -/
def RunBox (w : World) (R : Nat) (aa : Option Addr) (na ca : Nat) (v7 : Value) (C : Nat → Option Value) : Prop := w.cell? ⟨R, 0, none⟩ = some (.slice aa na ca) ∧ w.cell? ⟨R, 7, none⟩ = some v7 ∧ (∀ o, w.frozen? ⟨R, o, none⟩ = false) ∧ ∀ o, o ≠ 7 → w.cell? ⟨R, o, none⟩ = C o
theorem RunBox.keep {w w1 : World} {R : Nat} {aa : Option Addr} {na ca : Nat} {v7 : Value} {C : Nat → Option Value} (h : RunBox w R aa na ca v7 C) (k : w1.heap[R]? = w.heap[R]?) : RunBox w1 R aa na ca v7 C :=
  ⟨(cell_of k).trans h.1, (cell_of k).trans h.2.1, fun o => (World.frozen?_of_block k).trans (h.2.2.1 o), fun o ho => (cell_of k).trans (h.2.2.2 o ho)⟩
theorem RunBox.set7 {w : World} {R : Nat} {aa : Option Addr} {na ca : Nat} {v7 : Value} {C : Nat → Option Value} (h : RunBox w R aa na ca v7 C) (v : Value) : RunBox (w.setCell ⟨R, 7, none⟩ v) R aa na ca v C := by
  obtain ⟨h0, h7, hz, ho⟩ := h
  refine ⟨?_, World.cell?_setCell_same _ _ _ h7, fun o => (World.frozen?_setCell _ _ _ _).trans (hz o), fun o h => ?_⟩
  · exact (World.cell?_setCell_other _ _ _ _ (by intro e; injection e with _ e; omega)).trans h0
  · exact (World.cell?_setCell_other _ _ _ _ (by intro e; injection e with _ e; exact h e.symm)).trans (ho o h)

/-- The nodes of one block: what a slice of nodes holds. E: what is said of its end. -/
def NodeRowG (w : World) (L B : Nat) (nv : List Value) (E : World → Nat → Nat → Value → Prop) (v : Value) : Prop :=
  ∃ g c, v = .slice (some ⟨g, 0, none⟩) (nv.length + 1) c ∧ (L ≤ g ∧ g < B) ∧ (∀ j (h : j < nv.length), w.cell? ⟨g, j, none⟩ = some nv[j]) ∧
    ∃ val, w.cell? ⟨g, nv.length, none⟩ = some (.iface 200 val) ∧ E w L B val
/-- What is said of ends stays when their blocks stay, and with wider bounds. -/
structure EKeep (E : World → Nat → Nat → Value → Prop) : Prop where
  keep : ∀ {w w' L B v}, E w L B v → Same L B w w' → E w' L B v
  mono : ∀ {w L B L' B' v}, E w L B v → L' ≤ L → B ≤ B' → E w L' B' v
theorem NodeRowG.keepS {w w' : World} {L B : Nat} {nv : List Value} {E : World → Nat → Nat → Value → Prop} {v : Value} (hE : EKeep E) (h : NodeRowG w L B nv E v) (k : Same L B w w') : NodeRowG w' L B nv E v := by
  obtain ⟨g, c, e, hg, h1, val, h2, h3⟩ := h
  have q := k g hg.1 hg.2
  exact ⟨g, c, e, hg, fun j hj => (cell_of q).trans (h1 j hj), val, (cell_of q).trans h2, hE.keep h3 k⟩
theorem NodeRowG.of_own {w : World} {base L : Nat} {nv : List Value} {E : World → Nat → Nat → Value → Prop} {g cap ln : Nat} {val : Value} (hln : ln = nv.length) (hl : L ≤ base) (h : w.ownsRow base 165 1 (.slice (some ⟨g, 0, none⟩) (ln + 1) cap) (ln + 1) (nv ++ [.iface 200 val])) (he : E w L w.heap.size val) :
    NodeRowG w L w.heap.size nv E (.slice (some ⟨g, 0, none⟩) (ln + 1) cap) := by
  subst hln
  have hg := h.lt g rfl
  have hc := h.cells (g := g) rfl
  refine ⟨g, cap, rfl, by omega, fun j hj => ?_, val, ?_, he⟩
  · have := hc j nv[j] (by rw [List.getElem?_append_left hj]; simp [hj])
    rw [addr_add, Nat.zero_add] at this
    exact this
  · have := hc nv.length (.iface 200 val) (by rw [List.getElem?_append_right (Nat.le_refl _)]; simp)
    rw [addr_add, Nat.zero_add] at this
    exact this

/-- What holds at the head of the loop that makes the nodes. -/
structure NInvG (w : World) (R : Nat) (aa : Option Addr) (na ca : Nat) (C : Nat → Option Value) (nv : Nat → List Value) (E : Nat → World → Nat → Nat → Value → Prop) (k : Nat) (Us : List Value) (va : Option Addr) (vc : Nat) (wr : World) : Prop where
  kb : Kb w.heap.size R R w wr
  box : RunBox wr R aa na ca (.slice va k vc) C
  own : wr.ownsRow w.heap.size 163 1 (.slice va k vc) k Us
  rows : ∀ i (h : i < Us.length), ∃ L B, w.heap.size ≤ L ∧ B ≤ wr.heap.size ∧ (∀ g, (Value.slice va k vc).ownBlock = some g → ¬ (L ≤ g ∧ g < B)) ∧ NodeRowG wr L B (nv i) (E i) Us[i]
theorem NInvG.start {w : World} {R : Nat} {aa : Option Addr} {na ca : Nat} {C : Nat → Option Value} {nv : Nat → List Value} {E : Nat → World → Nat → Nat → Value → Prop} (h : RunBox w R aa na ca (.slice none 0 0) C) : NInvG w R aa na ca C nv E 0 [] none 0 w :=
  ⟨Kb.refl _ _ _ _, h, World.ownsRow_nil _ _ _ _, fun i hi => absurd hi (by simp)⟩
theorem NInvG.step {w wo w3 w4 : World} {R : Nat} {aa : Option Addr} {na ca : Nat} {C : Nat → Option Value} {nv : Nat → List Value} {E : Nat → World → Nat → Nat → Value → Prop} {k : Nat} {Us : List Value} {va : Option Addr} {vc : Nat} (hE : ∀ i, EKeep (E i)) (hR : R < w.heap.size)
    (h : NInvG w R aa na ca C nv E k Us va vc wo) (hb : Below wo.heap.size wo w3) {v : Value} (hv : NodeRowG w3 wo.heap.size w3.heap.size (nv k) (E k) v) {x : Obj} {G cap : Nat}
    (ho : w4.ownsRow w.heap.size 163 1 (.slice (some ⟨G, 0, none⟩) (k + 1) cap) (k + 1) (Us ++ [v])) (hg : (w3.alloc x).grownBy w4 (Value.slice va k vc).ownBlock) (hat : (Value.slice va k vc).ownBlock = some G ∨ G = w3.heap.size + 1) :
    NInvG w R aa na ca C nv E (k + 1) (Us ++ [v]) (some ⟨G, 0, none⟩) cap (w4.setCell ⟨R, 7, none⟩ (.slice (some ⟨G, 0, none⟩) (k + 1) cap)) := by
  have hks := h.kb.size
  have hbs := hb.size
  have hgs := hg.size
  rw [World.size_alloc] at hgs
  have hol := fun g e => h.own.lt g e
  have hlen : Us.length = k := by have := h.own.1; omega
  have f3 : ∀ b, b < w3.heap.size → some b ≠ (Value.slice va k vc).ownBlock → w4.heap[b]? = w3.heap[b]? := fun b h1 h2 => (hg.block b (by rw [World.size_alloc]; omega) h2).trans ((balloc (Below.refl w3.heap.size w3) x).block b h1)
  have fR : ∀ b, b ≠ R → (w4.setCell ⟨R, 7, none⟩ (.slice (some ⟨G, 0, none⟩) (k + 1) cap)).heap[b]? = w4.heap[b]? := fun b hb => Below.heap_setCell _ _ _ _ hb
  have nR : some R ≠ (Value.slice va k vc).ownBlock := fun e => by have := (hol R e.symm).1; omega
  have hGb : G < w4.heap.size := (ho.lt G rfl).2
  have hGw : w.heap.size ≤ G := (ho.lt G rfl).1
  refine ⟨?_, ?_, own_keep2 ho (fun b e => fR b (by injection e with e; dsimp only at e; omega)), fun i hi => ?_⟩
  · refine (h.kb.trans ⟨hg.os.trans hb.os, hg.tape.trans hb.tape, hg.output.trans hb.output, by omega, fun b h1 _ _ => (f3 b (by omega) (fun e => by have := (hol b e.symm).1; omega)).trans (hb.block b (by omega))⟩).set (Or.inl rfl) _
  · exact (h.box.keep ((f3 R (by omega) nR).trans (hb.block R (by omega)))).set7 _
  · by_cases hik : i < Us.length
    · obtain ⟨L, B, q1, q2, q3, q4⟩ := h.rows i hik
      rw [List.getElem_append_left hik]
      refine ⟨L, B, q1, by rw [size_setCell]; omega, fun g e => ?_, q4.keepS (hE i) (fun b h1 h2 => (fR b (by omega)).trans ((f3 b (by omega) (fun e => q3 b e.symm ⟨h1, h2⟩)).trans (hb.block b (by omega))))⟩
      injection e with e
      dsimp only at e
      subst e
      rcases hat with f | f
      · exact q3 _ f
      · omega
    · have hie : i = k := by rw [List.length_append, List.length_singleton] at hi; omega
      subst hie
      have e1 : (Us ++ [v])[i] = v := by rw [List.getElem_append_right (by omega)]; simp
      rw [e1]
      refine ⟨wo.heap.size, w3.heap.size, hks, by rw [size_setCell]; omega, fun g e => ?_, hv.keepS (hE i) (fun b h1 h2 => (fR b (by omega)).trans (f3 b h2 (fun e => by have := (hol b e.symm).2; omega)))⟩
      injection e with e
      dsimp only at e
      subst e
      rcases hat with f | f
      · have := (hol _ f).2; omega
      · omega

/-- The table when it is made. gs, cs: where the rows of nodes lie; vs: their ends. -/
def NTab (w : World) (lo B G n : Nat) (nv : Nat → List Value) (E : Nat → World → Nat → Nat → Value → Prop) (gs cs : Nat → Nat) (vs : Nat → Value) : Prop :=
  ∀ i, i < n → w.cell? ⟨G, i, none⟩ = some (.slice (some ⟨gs i, 0, none⟩) ((nv i).length + 1) (cs i)) ∧ (lo ≤ gs i ∧ gs i < B) ∧ (∀ j (h : j < (nv i).length), w.cell? ⟨gs i, j, none⟩ = some (nv i)[j]) ∧ w.cell? ⟨gs i, (nv i).length, none⟩ = some (.iface 200 (vs i)) ∧ E i w lo B (vs i)
theorem NTab.keep {w w' : World} {lo B G n : Nat} {nv : Nat → List Value} {E : Nat → World → Nat → Nat → Value → Prop} {gs cs : Nat → Nat} {vs : Nat → Value} (hE : ∀ i, EKeep (E i)) (h : NTab w lo B G n nv E gs cs vs) (hG : lo ≤ G ∧ G < B) (k : Same lo B w w') : NTab w' lo B G n nv E gs cs vs := fun i hi => by
  obtain ⟨h1, h2, h3, h4, h5⟩ := h i hi
  have q := k _ h2.1 h2.2
  exact ⟨(cell_of (k G hG.1 hG.2)).trans h1, h2, fun j hj => (cell_of q).trans (h3 j hj), (cell_of q).trans h4, (hE i).keep h5 k⟩
theorem NTab.mono {w : World} {lo B lo' B' G n : Nat} {nv : Nat → List Value} {E : Nat → World → Nat → Nat → Value → Prop} {gs cs : Nat → Nat} {vs : Nat → Value} (hE : ∀ i, EKeep (E i)) (h : NTab w lo B G n nv E gs cs vs) (h1 : lo' ≤ lo) (h2 : B ≤ B') : NTab w lo' B' G n nv E gs cs vs := fun i hi => by
  obtain ⟨q1, q2, q3, q4, q5⟩ := h i hi
  exact ⟨q1, by omega, q3, q4, (hE i).mono q5 h1 h2⟩
theorem NInvG.table {w wr : World} {R : Nat} {aa : Option Addr} {na ca : Nat} {C : Nat → Option Value} {nv : Nat → List Value} {E : Nat → World → Nat → Nat → Value → Prop} {k : Nat} {Us : List Value} {va : Option Addr} {vc : Nat} (hE : ∀ i, EKeep (E i)) (h : NInvG w R aa na ca C nv E k Us va vc wr) (hk : 0 < k) :
    ∃ G gs cs vs, va = some ⟨G, 0, none⟩ ∧ (w.heap.size ≤ G ∧ G < wr.heap.size) ∧ NTab wr w.heap.size wr.heap.size G k nv E gs cs vs := by
  obtain ⟨G, cap, e, hG1, hG2⟩ := h.own.form hk
  obtain ⟨rfl, -, rfl⟩ := Value.slice.inj e
  have hlen : Us.length = k := by have := h.own.1; omega
  have hcl := h.own.cells (g := G) rfl
  have H : ∀ i, ∃ y : Nat × Nat × Value, i < k → wr.cell? ⟨G, i, none⟩ = some (.slice (some ⟨y.1, 0, none⟩) ((nv i).length + 1) y.2.1) ∧ (w.heap.size ≤ y.1 ∧ y.1 < wr.heap.size) ∧ (∀ j (h : j < (nv i).length), wr.cell? ⟨y.1, j, none⟩ = some (nv i)[j]) ∧ wr.cell? ⟨y.1, (nv i).length, none⟩ = some (.iface 200 y.2.2) ∧ E i wr w.heap.size wr.heap.size y.2.2 := fun i => by
    by_cases hi : i < k
    · obtain ⟨L, B, q1, q2, -, g, c, e, hg, h1, val, h2, h3⟩ := h.rows i (by omega)
      refine ⟨(g, c, val), fun _ => ⟨?_, by dsimp only; omega, h1, h2, (hE i).mono h3 q1 q2⟩⟩
      have := hcl i Us[i] (by simp)
      rw [addr_add, Nat.zero_add, e] at this
      exact this
    · exact ⟨(0, 0, .nilIface), fun h => absurd h hi⟩
  obtain ⟨f, hf⟩ := Classical.skolem.1 H
  exact ⟨G, fun i => (f i).1, fun i => (f i).2.1, fun i => (f i).2.2, rfl, ⟨hG1, hG2⟩, fun i hi => hf i hi⟩
end Go.Proofs.YtdcdgopblbmgoaaDoor
