import Derived.Test.YteifkldaoddpdaaDoorN1
import Derived.Test.YteifkldaoddpdaaDoorW16
namespace Go.Proofs.YteifkldaoddpdaaDoor
open Go.RowKit

/-- One way out of block b, as a node bears it. -/
def WayAt (w : World) (L B : Nat) (F : Fn) (b : Nat) (to : Int) (ta : Option Addr) (nt : Nat) : Prop :=
  nt = (F.blk to.toNat).phis.length ∧ TakesAt w L B ta (takesR (idxR (F.preds to) b) (F.blk to.toNat).phis)
theorem WayAt.keep {w w' : World} {L B : Nat} {F : Fn} {b : Nat} {to : Int} {ta : Option Addr} {nt : Nat} (h : WayAt w L B F b to ta nt) (k : Below B w w') : WayAt w' L B F b to ta nt := ⟨h.1, h.2.keep k⟩
theorem WayAt.keepS {w w' : World} {L B : Nat} {F : Fn} {b : Nat} {to : Int} {ta : Option Addr} {nt : Nat} (h : WayAt w L B F b to ta nt) (k : Same L B w w') : WayAt w' L B F b to ta nt := ⟨h.1, h.2.keepS k⟩
theorem WayAt.mono {w : World} {L B L' B' : Nat} {F : Fn} {b : Nat} {to : Int} {ta : Option Addr} {nt : Nat} (h : WayAt w L B F b to ta nt) (l : L' ≤ L) (k : B ≤ B') : WayAt w L' B' F b to ta nt := ⟨h.1, h.2.mono l k⟩
/-- The end of block b as its node bears it. -/
def EndAt (w : World) (L B : Nat) (F : Fn) (b : Nat) (val : Value) : Prop :=
  ∃ (t1 t2 : Int) (ta ea : Option Addr) (nt ct ne ce : Nat), val = .agg #[.int .i64 (F.blk b).term.kind, .int .i64 (F.blk b).term.a, .int .i64 t1, .slice ta nt ct, .int .i64 t2, .slice ea ne ce] ∧
    ((F.blk b).term.kind ≠ 3 → t1 = (F.blk b).term.to ∧ WayAt w L B F b (F.blk b).term.to ta nt) ∧ ((F.blk b).term.kind = 2 → t2 = (F.blk b).term.els ∧ WayAt w L B F b (F.blk b).term.els ea ne)
theorem EndAt.keepS {w w' : World} {L B : Nat} {F : Fn} {b : Nat} {val : Value} (h : EndAt w L B F b val) (k : Same L B w w') : EndAt w' L B F b val := by
  obtain ⟨t1, t2, ta, ea, nt, ct, ne, ce, e, h1, h2⟩ := h
  exact ⟨t1, t2, ta, ea, nt, ct, ne, ce, e, fun q => ⟨(h1 q).1, (h1 q).2.keepS k⟩, fun q => ⟨(h2 q).1, (h2 q).2.keepS k⟩⟩
theorem EndAt.mono {w : World} {L B L' B' : Nat} {F : Fn} {b : Nat} {val : Value} (h : EndAt w L B F b val) (l : L' ≤ L) (k : B ≤ B') : EndAt w L' B' F b val := by
  obtain ⟨t1, t2, ta, ea, nt, ct, ne, ce, e, h1, h2⟩ := h
  exact ⟨t1, t2, ta, ea, nt, ct, ne, ce, e, fun q => ⟨(h1 q).1, (h1 q).2.mono l k⟩, fun q => ⟨(h2 q).1, (h2 q).2.mono l k⟩⟩

/-- Six cells of a variable. -/
def Six (w : World) (r : Nat) (v0 v1 v2 v3 v4 v5 : Value) : Prop := (w.cell? ⟨r, 0, none⟩ = some v0 ∧ w.cell? ⟨r, 1, none⟩ = some v1 ∧ w.cell? ⟨r, 2, none⟩ = some v2 ∧ w.cell? ⟨r, 3, none⟩ = some v3 ∧ w.cell? ⟨r, 4, none⟩ = some v4 ∧ w.cell? ⟨r, 5, none⟩ = some v5) ∧ ∀ o, w.frozen? ⟨r, o, none⟩ = false
theorem Six.keep {w w1 : World} {r : Nat} {v0 v1 v2 v3 v4 v5 : Value} (h : Six w r v0 v1 v2 v3 v4 v5) (k : w1.heap[r]? = w.heap[r]?) : Six w1 r v0 v1 v2 v3 v4 v5 :=
  ⟨⟨(cell_of k).trans h.1.1, (cell_of k).trans h.1.2.1, (cell_of k).trans h.1.2.2.1, (cell_of k).trans h.1.2.2.2.1, (cell_of k).trans h.1.2.2.2.2.1, (cell_of k).trans h.1.2.2.2.2.2⟩, fun o => (World.frozen?_of_block k).trans (h.2 o)⟩
theorem Six.lo {w : World} {r : Nat} {v0 v1 v2 v3 v4 v5 : Value} (h : Six w r v0 v1 v2 v3 v4 v5) (x y : Value) : Six ((w.setCell ⟨r, 2, none⟩ x).setCell ⟨r, 3, none⟩ y) r v0 v1 x y v4 v5 := by
  obtain ⟨⟨h0, h1, h2, h3, h4, h5⟩, hz⟩ := h
  refine ⟨⟨?_, ?_, ?_, ?_, ?_, ?_⟩, fun o => by simp [hz]⟩ <;> simp [h0, h1, h2, h3, h4, h5, go_sem]
theorem Same.set {L B : Nat} {w w1 : World} (h : Same L B w w1) (p : Addr) (v : Value) (hp : p.block < L) : Same L B w (w1.setCell p v) := fun k h1 h2 => (Below.heap_setCell _ _ _ _ (by omega)).trans (h k h1 h2)
theorem set6 {B : Nat} {w W : World} (h : Below B w W) {r : Nat} (hr : B ≤ r) (v0 v1 v2 v3 v4 v5 : Value) : Below B w ((((((W.setCell ⟨r, 0, none⟩ v0).setCell ⟨r, 1, none⟩ v1).setCell ⟨r, 2, none⟩ v2).setCell ⟨r, 3, none⟩ v3).setCell ⟨r, 4, none⟩ v4).setCell ⟨r, 5, none⟩ v5) := (((((h.setCell hr _).setCell hr _).setCell hr _).setCell hr _).setCell hr _).setCell hr _
theorem same6 {L B : Nat} {w W : World} (h : Same L B w W) {r : Nat} (hr : r < L) (v0 v1 v2 v3 v4 v5 : Value) : Same L B w ((((((W.setCell ⟨r, 0, none⟩ v0).setCell ⟨r, 1, none⟩ v1).setCell ⟨r, 2, none⟩ v2).setCell ⟨r, 3, none⟩ v3).setCell ⟨r, 4, none⟩ v4).setCell ⟨r, 5, none⟩ v5) := (((((h.set _ _ hr).set _ _ hr).set _ _ hr).set _ _ hr).set _ _ hr).set _ _ hr
theorem Six.hi {w : World} {r : Nat} {v0 v1 v2 v3 v4 v5 : Value} (h : Six w r v0 v1 v2 v3 v4 v5) (x y : Value) : Six ((w.setCell ⟨r, 4, none⟩ x).setCell ⟨r, 5, none⟩ y) r v0 v1 v2 v3 x y := by
  obtain ⟨⟨h0, h1, h2, h3, h4, h5⟩, hz⟩ := h
  refine ⟨⟨?_, ?_, ?_, ?_, ?_, ?_⟩, fun o => by simp [hz]⟩ <;> simp [h0, h1, h2, h3, h4, h5, go_sem]
theorem ends4 {w w1 : World} {fv fs : Value} {ft : Nat} {kd xa xto xel : Int} {t u v : Nat} (hb : Below (w.heap.size + 1 + 1 + 1 + 1) ((((w.alloc (.cells #[fv, fs] ft)).alloc (.cells #[.int .i64 0, .int .i64 0, .int .i64 0, .slice none 0 0, .int .i64 0, .slice none 0 0] t)).alloc (.cells #[.int .i64 kd, .int .i64 xa, .int .i64 xto, .int .i64 xel] u)).alloc (.cells #[.int .i64 kd, .int .i64 xa, .int .i64 0, .slice none 0 0, .int .i64 0, .slice none 0 0] v)) w1) :
    Six w1 (w.heap.size + 1) (.int .i64 0) (.int .i64 0) (.int .i64 0) (.slice none 0 0) (.int .i64 0) (.slice none 0 0) ∧ (w1.cell? ⟨w.heap.size + 1 + 1, 0, none⟩ = some (.int .i64 kd) ∧ w1.cell? ⟨w.heap.size + 1 + 1, 3, none⟩ = some (.int .i64 xel) ∧ w1.cell? ⟨w.heap.size, 0, none⟩ = some fv ∧ w1.cell? ⟨w.heap.size, 1, none⟩ = some fs) ∧ Six w1 (w.heap.size + 1 + 1 + 1) (.int .i64 kd) (.int .i64 xa) (.int .i64 0) (.slice none 0 0) (.int .i64 0) (.slice none 0 0) := by
  have k0 := hb.block w.heap.size (by omega)
  have k1 := hb.block (w.heap.size + 1) (by omega)
  have k2 := hb.block (w.heap.size + 1 + 1) (by omega)
  have k3 := hb.block (w.heap.size + 1 + 1 + 1) (by omega)
  refine ⟨Six.keep ⟨⟨?_, ?_, ?_, ?_, ?_, ?_⟩, fun o => ?_⟩ k1, ⟨(cell_of k2).trans ?_, (cell_of k2).trans ?_, (cell_of k0).trans ?_, (cell_of k0).trans ?_⟩, Six.keep ⟨⟨?_, ?_, ?_, ?_, ?_, ?_⟩, fun o => ?_⟩ k3⟩ <;> simp [go_sem]

theorem both_ok {F : Fn} {b : Nat} (h : BlkOk F b) (hk : (F.blk b).term.kind = 2) : (1 ≤ (F.blk b).term.to ∧ (F.blk b).term.to < F.blocks.length) ∧ (1 ≤ (F.blk b).term.els ∧ (F.blk b).term.els < F.blocks.length) := by
  have ht := h.ter
  generalize F.blk b = X at *
  simp only [terOk', terOk, Bool.and_eq_true, decide_eq_true_eq] at ht
  obtain ⟨⟨⟨⟨⟨t1, t2⟩, _⟩, t3⟩, t4⟩, _⟩ := ht
  exact ⟨fld_yes t3 (by simp [hk]), fld_yes t4 (by simp [hk])⟩
/-- makeEdge of a way out of a valid function's block. -/
theorem way_any (m : Nat) (a : Option Addr) (n c : Nat) (pa : Option Addr) (pn pc : Nat) (b t : Nat) (xs : List Blk) (L B L2 B2 : Nat) (w : World)
    (ha : Hid (BlksAt w L B a xs)) (hx : Hid (n = xs.length)) (hs : Hid (xs.length + blksTot xs ≤ 1048576)) (hB : B ≤ w.heap.size) (hp : Hid (IntssAt w L2 B2 pa ((List.range xs.length).map fun i : Nat => predsFrom xs 0 (i : Int)))) (hpn : Hid (pn = xs.length)) (hB2 : B2 ≤ w.heap.size)
    (good : Hid (validS ⟨m, xs⟩ = true)) (hb : b < n) (ht : t < n) (htm : Hid ((t : Int) ∈ ((⟨m, xs⟩ : Fn).blk b).term.targets)) :
    Calls Tryd.prog 100 #[.agg #[.int .i64 m, .slice a n c], .slice pa pn pc, .int .i64 b, .int .i64 t] w
      fun e w' => ∃ ta nt ct, e = .returned (.agg #[.int .i64 t, .slice ta nt ct]) ∧ Below w.heap.size w w' ∧ WayAt w' w.heap.size w'.heap.size ⟨m, xs⟩ b t ta nt := by
  have hbx : b < xs.length := by have := hx.out; omega
  have htx : t < xs.length := by have := hx.out; omega
  have BT := blkOk_of ⟨m, xs⟩ good.out t htx
  have hlen : ((⟨m, xs⟩ : Fn).blk t).phis.length ≤ 1048576 := by rw [blk_at ⟨m, xs⟩ t htx]; show xs[t].phis.length ≤ _; have := tot_le (List.getElem_mem htx); have := hs.out; omega
  refine (makeEdge_any m a n c pa pn pc b t xs _ ((⟨m, xs⟩ : Fn).blk t) (predsFrom xs 0 (t : Int)) m L B L2 B2 w ha hx hB hp (hide (by rw [List.length_map, List.length_range]; exact hpn.out)) hB2 ht (by have := hpn.out; omega) (hide (fun h => (blk_at ⟨m, xs⟩ t h).symm)) (hide (fun h => by simp)) (by have := predsFrom_len (t : Int) xs 0; have := hs.out; omega) hlen (hide (pred_here (F := ⟨m, xs⟩) hbx htm.out)) (hide BT.phi)).mono ?_
  rintro e w' ⟨ta, ct, rfl, hb', ht'⟩
  exact ⟨ta, _, ct, rfl, hb', rfl, ht'⟩

set_option maxHeartbeats 2000000 in
theorem makeEnd_any (m : Nat) (a : Option Addr) (n c : Nat) (pa : Option Addr) (pn pc : Nat) (b : Nat) (xs : List Blk) (L B L2 B2 : Nat) (w : World)
    (ha : Hid (BlksAt w L B a xs)) (hx : Hid (n = xs.length)) (hs : Hid (xs.length + blksTot xs ≤ 1048576)) (hB : B ≤ w.heap.size) (hp : Hid (IntssAt w L2 B2 pa ((List.range xs.length).map fun i : Nat => predsFrom xs 0 (i : Int)))) (hpn : Hid (pn = xs.length)) (hB2 : B2 ≤ w.heap.size)
    (good : Hid (validS ⟨m, xs⟩ = true)) (hb : b < n) (hT : Hid (TerTab w)) :
    Calls Tryd.prog 80 #[.agg #[.int .i64 m, .slice a n c], .slice pa pn pc, .int .i64 b] w
      fun e w' => ∃ val, e = .returned val ∧ Below w.heap.size w w' ∧ EndAt w' w.heap.size w'.heap.size ⟨m, xs⟩ b val := by
  have hbx : b < xs.length := by have := hx.out; omega
  have BO := blkOk_of ⟨m, xs⟩ good.out b hbx
  have hkd := term_kind BO
  obtain ⟨b1, o1, rfl, ⟨_, hbB⟩, hc⟩ := ha.out b hbx
  rw [show xs[b] = (⟨m, xs⟩ : Fn).blk b from (blk_at ⟨m, xs⟩ b hbx).symm] at hc
  obtain ⟨_, _, _, _, -, -, ⟨t0, t1, t2, t3⟩, -, -⟩ := hc
  have T0 := fun x y => ((balloc (balloc (Below.refl w.heap.size w) x) y).cell (p := ⟨b1, o1 + b * 6 + 2, none⟩) (by show b1 < _; omega)).trans t0
  have T1 := fun x y => ((balloc (balloc (Below.refl w.heap.size w) x) y).cell (p := ⟨b1, o1 + b * 6 + 2 + 1, none⟩) (by show b1 < _; omega)).trans t1
  have T2 := fun x y => ((balloc (balloc (Below.refl w.heap.size w) x) y).cell (p := ⟨b1, o1 + b * 6 + 2 + 2, none⟩) (by show b1 < _; omega)).trans t2
  have T3 := fun x y => ((balloc (balloc (Below.refl w.heap.size w) x) y).cell (p := ⟨b1, o1 + b * 6 + 2 + 3, none⟩) (by show b1 < _; omega)).trans t3
  have hz := hT.out.1
  have hc : ((⟨m, xs⟩ : Fn).blk b).term.kind = 1 ∨ ((⟨m, xs⟩ : Fn).blk b).term.kind = 2 ∨ ((⟨m, xs⟩ : Fn).blk b).term.kind = 3 := by omega
  rcases hc with hk | hk | hk
  · obtain ⟨s, c0, c1, c2, c3⟩ := hT.out.2 1 (by omega) (by omega)
    have C2 := fun x y z u => ((balloc (balloc (balloc (balloc (Below.refl w.heap.size w) x) y) z) u).cell (p := ⟨1, 1 * 4 + 2, none⟩) hz).trans c2
    have htm1 : Hid (((⟨m, xs⟩ : Fn).blk b).term.to ∈ ((⟨m, xs⟩ : Fn).blk b).term.targets) := hide (by unfold Ter.targets; rw [if_pos hk]; simp)
    have htt := goTo_ok BO (by omega) []
    rw [show goTo ((⟨m, xs⟩ : Fn).blk b) [] = ((⟨m, xs⟩ : Fn).blk b).term.to from by unfold goTo; rw [if_neg (fun h => by have := h.1; omega)]] at htt
    obtain ⟨tt, ett⟩ := Int.eq_ofNat_of_zero_le (show 0 ≤ ((⟨m, xs⟩ : Fn).blk b).term.to by omega)
    rw [ett] at htt htm1
    have HW1 := fun (W : World) (h : Below w.heap.size w W) => hide (way_any m (some ⟨b1, o1, none⟩) n c pa pn pc b tt xs L B L2 B2 W (hide (ha.out.keep (h.mono hB))) hx hs (by have := h.size; omega) (hide (hp.out.keep (h.mono hB2))) hpn (by have := h.size; omega) good hb (by have := hx.out; have h2 : (tt : Int) < xs.length := htt.2; omega) htm1)
    have C3 := fun (w1 : World) x y z u (h : Below ((((w.alloc x).alloc y).alloc z).alloc u).heap.size ((((w.alloc x).alloc y).alloc z).alloc u) w1) => ((bnext (balloc (balloc (balloc (balloc (Below.refl w.heap.size w) x) y) z) u) h).cell (p := ⟨1, 1 * 4 + 3, none⟩) hz).trans c3
    have HBB := fun (w1 : World) x y z u (h : Below ((((w.alloc x).alloc y).alloc z).alloc u).heap.size ((((w.alloc x).alloc y).alloc z).alloc u) w1) => bnext (balloc (balloc (balloc (balloc (Below.refl w.heap.size w) x) y) z) u) h
    unfold EndAt
    rw [hk] at T0 ⊢
    rw [ett] at T2 ⊢
    generalize ((⟨m, xs⟩ : Fn).blk b).term.a = xa at *
    generalize ((⟨m, xs⟩ : Fn).blk b).term.els = xel at *
    clear t0 t1 t2 t3 c0 c1 c2 c3 htm1 htt
    have n1 : w.heap.size + 1 + 1 + 1 ≠ 1 := by omega
    have n2 : 1 ≠ w.heap.size + 1 + 1 + 1 := by omega
    go_enter Tryd.func80, Tryd.ntmps80
    go_wp2_with (go_at_call 100; refine (HW1 _ (balloc (balloc (balloc (balloc (Below.refl w.heap.size w) _) _) _) _)).out.mono ?_; rintro e w1 ⟨ta, nt, ct, rfl, hb1, hway⟩; obtain ⟨hrx, ⟨q0, q3, f0, f1⟩, hsix⟩ := ends4 (hb1.mono (by simp)); have HRX := hide hrx; obtain ⟨⟨r0, r1, r2, r3, r4, r5⟩, rz⟩ := hrx; have HSX := hide hsix; obtain ⟨⟨e0, e1, e2, e3, e4, e5⟩, ez⟩ := hsix; have c3 := C3 w1 _ _ _ _ hb1; have HB1 := hide (HBB w1 _ _ _ _ hb1); have HWY := hide (hway.mono (L' := w.heap.size + 1 + 1 + 1 + 1) (by simp) (Nat.le_refl _)); have hs1 := hb1.size; simp at hs1; clear hb1 hway)
    exact bodyPost_ret (v := .agg #[.int .i64 1, .int .i64 xa, .int .i64 tt, .slice ta nt ct, .int .i64 0, .slice none 0 0]) (by simp [results, Tryd.results80, go_sem, r0, r1, r2, r3, r4, r5]) rfl ⟨_, rfl, set6 ((HB1.out.setCell (by show w.heap.size ≤ w.heap.size + 1 + 1 + 1; omega) _).setCell (by show w.heap.size ≤ w.heap.size + 1 + 1 + 1; omega) _) (by omega) _ _ _ _ _ _, tt, 0, ta, none, nt, ct, 0, 0, rfl,
      fun _ => ⟨rfl, (HWY.out.keepS (same6 (((Same.refl _ _ w1).set _ _ (by show w.heap.size + 1 + 1 + 1 < _; omega)).set _ _ (by show w.heap.size + 1 + 1 + 1 < _; omega)) (by omega) _ _ _ _ _ _)).mono (by omega) (by simp)⟩, fun h => absurd h (by decide)⟩
  · obtain ⟨s, c0, c1, c2, c3⟩ := hT.out.2 2 (by omega) (by omega)
    have C2 := fun x y z u => ((balloc (balloc (balloc (balloc (Below.refl w.heap.size w) x) y) z) u).cell (p := ⟨1, 2 * 4 + 2, none⟩) hz).trans c2
    have htm1 : Hid (((⟨m, xs⟩ : Fn).blk b).term.to ∈ ((⟨m, xs⟩ : Fn).blk b).term.targets) := hide (by unfold Ter.targets; rw [if_neg (by omega), if_pos hk]; simp)
    have htm2 : Hid (((⟨m, xs⟩ : Fn).blk b).term.els ∈ ((⟨m, xs⟩ : Fn).blk b).term.targets) := hide (by unfold Ter.targets; rw [if_neg (by omega), if_pos hk]; simp)
    obtain ⟨htt, hte⟩ := both_ok BO hk
    obtain ⟨tt, ett⟩ := Int.eq_ofNat_of_zero_le (show 0 ≤ ((⟨m, xs⟩ : Fn).blk b).term.to by omega)
    obtain ⟨te, ete⟩ := Int.eq_ofNat_of_zero_le (show 0 ≤ ((⟨m, xs⟩ : Fn).blk b).term.els by omega)
    rw [ett] at htt htm1
    rw [ete] at hte htm2
    have HW1 := fun (W : World) (h : Below w.heap.size w W) => hide (way_any m (some ⟨b1, o1, none⟩) n c pa pn pc b tt xs L B L2 B2 W (hide (ha.out.keep (h.mono hB))) hx hs (by have := h.size; omega) (hide (hp.out.keep (h.mono hB2))) hpn (by have := h.size; omega) good hb (by have := hx.out; have h2 : (tt : Int) < xs.length := htt.2; omega) htm1)
    have HW2 := fun (W : World) (h : Below w.heap.size w W) => hide (way_any m (some ⟨b1, o1, none⟩) n c pa pn pc b te xs L B L2 B2 W (hide (ha.out.keep (h.mono hB))) hx hs (by have := h.size; omega) (hide (hp.out.keep (h.mono hB2))) hpn (by have := h.size; omega) good hb (by have := hx.out; have h2 : (te : Int) < xs.length := hte.2; omega) htm2)
    have C3 := fun (w1 : World) x y z u (h : Below ((((w.alloc x).alloc y).alloc z).alloc u).heap.size ((((w.alloc x).alloc y).alloc z).alloc u) w1) => ((bnext (balloc (balloc (balloc (balloc (Below.refl w.heap.size w) x) y) z) u) h).cell (p := ⟨1, 2 * 4 + 3, none⟩) hz).trans c3
    have HBB := fun (w1 : World) x y z u (h : Below ((((w.alloc x).alloc y).alloc z).alloc u).heap.size ((((w.alloc x).alloc y).alloc z).alloc u) w1) => bnext (balloc (balloc (balloc (balloc (Below.refl w.heap.size w) x) y) z) u) h
    unfold EndAt
    rw [hk] at T0 ⊢
    rw [ett] at T2 ⊢
    rw [ete] at T3 ⊢
    generalize ((⟨m, xs⟩ : Fn).blk b).term.a = xa at *
    clear t0 t1 t2 t3 c0 c1 c2 c3 htm1 htm2 htt hte
    have n1 : w.heap.size + 1 + 1 + 1 ≠ 1 := by omega
    have n2 : 1 ≠ w.heap.size + 1 + 1 + 1 := by omega
    go_enter Tryd.func80, Tryd.ntmps80
    go_wp2_with (first | (go_at_call 100; refine (HW2 _ ((HB1.out.setCell (by show w.heap.size ≤ w.heap.size + 1 + 1 + 1; omega) _).setCell (by show w.heap.size ≤ w.heap.size + 1 + 1 + 1; omega) _)).out.mono ?_; rintro e w2 ⟨ea, ne, ce, rfl, hb2, hway⟩; simp only [size_setCell] at hb2 hway; have hs2 := hb2.size; simp only [size_setCell] at hs2; have HY1 := hide ((HWY.out.keepS (((Same.refl _ _ w1).set _ _ (by show w.heap.size + 1 + 1 + 1 < _; omega)).set _ _ (by show w.heap.size + 1 + 1 + 1 < _; omega))).keep hb2); have HY2 := hide hway; have HB2 := hide (((HB1.out.setCell (by show w.heap.size ≤ w.heap.size + 1 + 1 + 1; omega) _).setCell (by show w.heap.size ≤ w.heap.size + 1 + 1 + 1; omega) _).trans (hb2.mono (by omega))); obtain ⟨⟨e0, e1, e2, e3, e4, e5⟩, ez⟩ := (HSX.out.lo (.int .i64 tt) (.slice ta nt ct)).keep (hb2.block _ (by omega)); obtain ⟨⟨r0, r1, r2, r3, r4, r5⟩, rz⟩ := HRX.out.keep ((hb2.block (w.heap.size + 1) (by omega)).trans ((Below.heap_setCell _ _ _ _ (by show w.heap.size + 1 ≠ w.heap.size + 1 + 1 + 1; omega)).trans (Below.heap_setCell _ _ _ _ (by show w.heap.size + 1 ≠ w.heap.size + 1 + 1 + 1; omega)))); clear hb2 hway) | (go_at_call 100; refine (HW1 _ (balloc (balloc (balloc (balloc (Below.refl w.heap.size w) _) _) _) _)).out.mono ?_; rintro e w1 ⟨ta, nt, ct, rfl, hb1, hway⟩; obtain ⟨hrx, ⟨q0, q3, f0, f1⟩, hsix⟩ := ends4 (hb1.mono (by simp)); have HRX := hide hrx; obtain ⟨⟨r0, r1, r2, r3, r4, r5⟩, rz⟩ := hrx; have HSX := hide hsix; obtain ⟨⟨e0, e1, e2, e3, e4, e5⟩, ez⟩ := hsix; have c3 := C3 w1 _ _ _ _ hb1; have HB1 := hide (HBB w1 _ _ _ _ hb1); have HWY := hide (hway.mono (L' := w.heap.size + 1 + 1 + 1 + 1) (by simp) (Nat.le_refl _)); have hs1 := hb1.size; simp at hs1; clear hb1 hway))
    exact bodyPost_ret (v := .agg #[.int .i64 2, .int .i64 xa, .int .i64 tt, .slice ta nt ct, .int .i64 te, .slice ea ne ce]) (by simp [results, Tryd.results80, go_sem, r0, r1, r2, r3, r4, r5]) rfl ⟨_, rfl, set6 ((HB2.out.setCell (by show w.heap.size ≤ w.heap.size + 1 + 1 + 1; omega) _).setCell (by show w.heap.size ≤ w.heap.size + 1 + 1 + 1; omega) _) (by omega) _ _ _ _ _ _, tt, te, ta, ea, nt, ct, ne, ce, rfl,
      fun _ => ⟨rfl, (HY1.out.keepS (same6 (((Same.refl _ _ w2).set _ _ (by show w.heap.size + 1 + 1 + 1 < _; omega)).set _ _ (by show w.heap.size + 1 + 1 + 1 < _; omega)) (by omega) _ _ _ _ _ _)).mono (by omega) (by simp; omega)⟩, fun _ => ⟨rfl, (HY2.out.keepS (same6 (((Same.refl _ _ w2).set _ _ (by show w.heap.size + 1 + 1 + 1 < _; omega)).set _ _ (by show w.heap.size + 1 + 1 + 1 < _; omega)) (by omega) _ _ _ _ _ _)).mono (by omega) (by simp)⟩⟩
  · obtain ⟨s, c0, c1, c2, c3⟩ := hT.out.2 3 (by omega) (by omega)
    have C2 := fun x y z u => ((balloc (balloc (balloc (balloc (Below.refl w.heap.size w) x) y) z) u).cell (p := ⟨1, 3 * 4 + 2, none⟩) hz).trans c2
    have C3 := fun x y z u => ((balloc (balloc (balloc (balloc (Below.refl w.heap.size w) x) y) z) u).cell (p := ⟨1, 3 * 4 + 3, none⟩) hz).trans c3
    unfold EndAt
    rw [hk] at T0 ⊢
    generalize ((⟨m, xs⟩ : Fn).blk b).term.a = xa at *
    generalize ((⟨m, xs⟩ : Fn).blk b).term.to = xto at *
    generalize ((⟨m, xs⟩ : Fn).blk b).term.els = xel at *
    clear t0 t1 t2 t3 c0 c1 c2 c3
    go_enter Tryd.func80, Tryd.ntmps80
    go_wp2
    exact bodyPost_ret (v := .agg #[.int .i64 3, .int .i64 xa, .int .i64 0, .slice none 0 0, .int .i64 0, .slice none 0 0]) (by simp [results, Tryd.results80, go_sem]) rfl ⟨_, rfl, balloc (balloc (balloc (balloc (Below.refl _ _) _) _) _) _, 0, 0, none, none, 0, 0, 0, 0, rfl, fun h => absurd rfl h, fun h => absurd h (by decide)⟩
end Go.Proofs.YteifkldaoddpdaaDoor

namespace Go.Proofs.YteifkldaoddpdaaDoor
open Go.RowKit

/-- The nodes of block i: what a slice of nodes holds. -/
def NodeRow (w : World) (L B : Nat) (F : Fn) (args : List Int) (i : Nat) (v : Value) : Prop :=
  ∃ g c, v = .slice (some ⟨g, 0, none⟩) ((F.blk i).instrs.length + 1) c ∧ (L ≤ g ∧ g < B) ∧ (∀ j (h : j < (F.blk i).instrs.length), w.cell? ⟨g, j, none⟩ = some (nodeV args (F.blk i).instrs[j])) ∧
    ∃ val, w.cell? ⟨g, (F.blk i).instrs.length, none⟩ = some (.iface 124 val) ∧ EndAt w L B F i val
theorem NodeRow.keepS {w w' : World} {L B : Nat} {F : Fn} {args : List Int} {i : Nat} {v : Value} (h : NodeRow w L B F args i v) (k : Same L B w w') : NodeRow w' L B F args i v := by
  obtain ⟨g, c, e, hg, h1, val, h2, h3⟩ := h
  have q := k g hg.1 hg.2
  exact ⟨g, c, e, hg, fun j hj => (cell_of q).trans (h1 j hj), val, (cell_of q).trans h2, h3.keepS k⟩
theorem NodeRow.mono {w : World} {L B L' B' : Nat} {F : Fn} {args : List Int} {i : Nat} {v : Value} (h : NodeRow w L B F args i v) (l : L' ≤ L) (k : B ≤ B') : NodeRow w L' B' F args i v := by
  obtain ⟨g, c, e, hg, h1, val, h2, h3⟩ := h
  exact ⟨g, c, e, by omega, h1, val, h2, h3.mono l k⟩
/-- What the field 'blocks' leads to. -/
def NodesAt (w : World) (B G : Nat) (F : Fn) (args : List Int) (n : Nat) : Prop := ∃ U, w.rowIs G 116 F.blocks.length U ∧ ∀ i, i < n → NodeRow w (G + 1) B F args i (U i)
theorem NodesAt.keepS {w w' : World} {B G : Nat} {F : Fn} {args : List Int} {n : Nat} (h : NodesAt w B G F args n) (k : Same (G + 1) B w w') (e : w'.heap[G]? = w.heap[G]?) : NodesAt w' B G F args n := by
  obtain ⟨U, h1, h2⟩ := h
  exact ⟨U, h1.of_block e, fun i hi => (h2 i hi).keepS k⟩
theorem NodesAt.mono {w : World} {B B' G : Nat} {F : Fn} {args : List Int} {n : Nat} (h : NodesAt w B G F args n) (k : B ≤ B') : NodesAt w B' G F args n := by
  obtain ⟨U, h1, h2⟩ := h
  exact ⟨U, h1, fun i hi => (h2 i hi).mono (Nat.le_refl _) k⟩
theorem NodesAt.step {w : World} {B G : Nat} {F : Fn} {args : List Int} {n : Nat} (h : NodesAt w B G F args n) {v : Value} (hv : NodeRow w (G + 1) B F args n v) : NodesAt (w.setCell ⟨G, n, none⟩ v) B G F args (n + 1) := by
  obtain ⟨U, h1, h2⟩ := h
  have k : Same (G + 1) B w (w.setCell ⟨G, n, none⟩ v) := (Same.refl _ _ w).set _ _ (by show G < G + 1; omega)
  refine ⟨fun i => if i = n then v else U i, h1.set n v, fun i hi => ?_⟩
  by_cases e : i = n
  · subst e; simp only [if_true]; exact hv.keepS k
  · simp only [e, if_false]; exact (h2 i (by omega)).keepS k

/-- The fields of a run that making nodes does not turn. -/
def RunBox (w : World) (R : Nat) (aa : Option Addr) (na ca : Nat) (v7 : Value) (C : Nat → Option Value) : Prop := w.cell? ⟨R, 0, none⟩ = some (.slice aa na ca) ∧ w.cell? ⟨R, 7, none⟩ = some v7 ∧ (∀ o, w.frozen? ⟨R, o, none⟩ = false) ∧ ∀ o, o ≠ 7 → w.cell? ⟨R, o, none⟩ = C o

theorem Tryd.info116 : (Tryd.prog.info? 116).map (fun i => (i.zero, i.size, i.bytes)) = some (some (.slice none 0 0), 1, 24) := by kernel_rfl
theorem Tryd.info118 : (Tryd.prog.info? 118).map (fun i => (i.zero, i.size, i.bytes)) = some (some .nilIface, 1, 16) := by kernel_rfl

theorem nodeV_iface (args : List Int) (x : Ins) : ∃ T V, nodeV args x = .iface T V := by
  unfold nodeV
  split
  · exact ⟨_, _, rfl⟩
  split
  · exact ⟨_, _, rfl⟩
  split
  · exact ⟨_, _, rfl⟩
  split
  · exact ⟨_, _, rfl⟩
  · exact ⟨_, _, rfl⟩
theorem five_keep {wi w2 : World} {v0 v1 v2 v3 v4 : Value} {t : Nat} (h : Below (wi.heap.size + 1) (wi.alloc (.cells #[v0, v1, v2, v3, v4] t)).drew w2) : w2.cell? ⟨wi.heap.size, 0, none⟩ = some v0 ∧ w2.cell? ⟨wi.heap.size, 1, none⟩ = some v1 ∧ w2.cell? ⟨wi.heap.size, 2, none⟩ = some v2 ∧ w2.cell? ⟨wi.heap.size, 3, none⟩ = some v3 ∧ w2.cell? ⟨wi.heap.size, 4, none⟩ = some v4 := by
  have k := h.block wi.heap.size (by omega)
  refine ⟨(cell_of k).trans ?_, (cell_of k).trans ?_, (cell_of k).trans ?_, (cell_of k).trans ?_, (cell_of k).trans ?_⟩ <;> simp [go_sem]
theorem TerTab.keep1 {w w' : World} (h : TerTab w) (k : w'.heap[1]? = w.heap[1]?) (hs : 1 < w'.heap.size) : TerTab w' := by
  refine ⟨hs, fun i h1 h2 => ?_⟩
  have e := fun o => cell_of (o := o) k
  obtain ⟨s, c0, c1, c2, c3⟩ := h.2 i h1 h2
  exact ⟨s, (e _).trans c0, (e _).trans c1, (e _).trans c2, (e _).trans c3⟩
/-- What holds at the head of the loop that makes the nodes. -/
structure NInv (w : World) (m : Nat) (a : Option Addr) (n c : Nat) (xs : List Blk) (R : Nat) (aa : Option Addr) (na ca : Nat) (args : List Int) (C : Nat → Option Value) (G : Nat) (pa : Option Addr) (k : Nat) (wr : World) : Prop where
  kb : Kb w.heap.size R R w wr
  f0 : wr.cell? ⟨w.heap.size, 0, none⟩ = some (.int .i64 m)
  f1 : wr.cell? ⟨w.heap.size, 1, none⟩ = some (.slice a n c)
  box : RunBox wr R aa na ca (.slice (some ⟨G, 0, none⟩) n n) C
  nodes : NodesAt wr wr.heap.size G ⟨m, xs⟩ args k
  pr : IntssAt wr (w.heap.size + 1) G pa ((List.range n).map fun i : Nat => predsFrom xs 0 (i : Int))
  gl : G < wr.heap.size
  gw : w.heap.size < G
theorem RunBox.keep {w w1 : World} {R : Nat} {aa : Option Addr} {na ca : Nat} {v7 : Value} {C : Nat → Option Value} (h : RunBox w R aa na ca v7 C) (k : w1.heap[R]? = w.heap[R]?) : RunBox w1 R aa na ca v7 C :=
  ⟨(cell_of k).trans h.1, (cell_of k).trans h.2.1, fun o => (World.frozen?_of_block k).trans (h.2.2.1 o), fun o ho => (cell_of k).trans (h.2.2.2 o ho)⟩
theorem NInv.step {w : World} {m : Nat} {a : Option Addr} {n c : Nat} {xs : List Blk} {R : Nat} {aa : Option Addr} {na ca : Nat} {args : List Int} {C : Nat → Option Value} {G : Nat} {pa : Option Addr} {k : Nat} {wr w3 : World} (h : NInv w m a n c xs R aa na ca args C G pa k wr) (hR : R < w.heap.size) (hb : Below wr.heap.size wr w3) {v : Value} (hv : NodeRow w3 (G + 1) w3.heap.size ⟨m, xs⟩ args k v) :
    NInv w m a n c xs R aa na ca args C G pa (k + 1) (w3.setCell ⟨G, k, none⟩ v) := by
  have hgl := h.gl
  have hgw := h.gw
  have hbs := hb.size
  have hks := h.kb.size
  have far : ∀ b, b < wr.heap.size → b ≠ G → (w3.setCell ⟨G, k, none⟩ v).heap[b]? = wr.heap[b]? := fun b h1 h2 => (Below.heap_setCell _ _ _ _ h2).trans (hb.block b h1)
  refine ⟨h.kb.trans ⟨hb.os, hb.tape, hb.output, by rw [size_setCell]; exact hb.size, fun b h1 _ _ => far b (by omega) (by omega)⟩, (cell_of (far _ (by omega) (by omega))).trans h.f0, (cell_of (far _ (by omega) (by omega))).trans h.f1, h.box.keep (far _ (by omega) (by omega)), ?_, h.pr.keepS (fun b h1 h2 => far b (by omega) (by omega)), by rw [size_setCell]; omega, hgw⟩
  rw [size_setCell]
  exact ((h.nodes.keepS (Same.of_below hb) (hb.block G hgl)).mono hbs).step hv
theorem NodeRow.of_own {w : World} {base : Nat} {L : Nat} {F : Fn} {args : List Int} {i : Nat} {g cap : Nat} {val : Value} (hl : L ≤ base) (h : w.ownsRow base 118 1 (.slice (some ⟨g, 0, none⟩) ((F.blk i).instrs.length + 1) cap) ((F.blk i).instrs.length + 1) ((F.blk i).instrs.map (nodeV args) ++ [.iface 124 val])) (he : EndAt w L w.heap.size F i val) :
    NodeRow w L w.heap.size F args i (.slice (some ⟨g, 0, none⟩) ((F.blk i).instrs.length + 1) cap) := by
  have hg := h.lt g rfl
  have hc := h.cells (g := g) rfl
  refine ⟨g, cap, rfl, by omega, fun j hj => ?_, val, ?_, he⟩
  · have := hc j (nodeV args (F.blk i).instrs[j]) (by rw [List.getElem?_append_left (by simpa using hj)]; simp [hj])
    rw [addr_add, Nat.zero_add] at this
    exact this
  · have := hc (F.blk i).instrs.length (.iface 124 val) (by rw [List.getElem?_append_right (by simp)]; simp)
    rw [addr_add, Nat.zero_add] at this
    exact this
theorem heap_new (w : World) (o : Obj) : (w.alloc o).heap[w.heap.size]? = some o := by show (w.heap.push o)[w.heap.size]? = some o; simp
theorem own_born (w : World) (o : Obj) (t : Nat) : ((w.alloc o).alloc (.cells #[] t)).ownsRow (w.heap.size + 1) t 1 (.slice (some ⟨w.heap.size + 1, 0, none⟩) 0 0) 0 [] := by
  have h := World.ownsRow_lit (base := w.heap.size + 1) (e := t) (size := 1) (w.alloc o) #[] 0 (by simp) (by simp) rfl
  rw [World.size_alloc] at h
  exact h

set_option maxHeartbeats 2000000 in
set_option maxRecDepth 100000 in
theorem makeNodes_any (m : Nat) (a : Option Addr) (n c : Nat) (xs : List Blk) (R : Nat) (aa : Option Addr) (na ca : Nat) (args : List Int) (C : Nat → Option Value) (L B La Ba : Nat) (w : World)
    (ha : Hid (BlksAt w L B a xs)) (hx : Hid (n = xs.length)) (hs : Hid (xs.length + blksTot xs ≤ 1048576)) (hB : B ≤ R) (hR : R < w.heap.size) (hBa : Ba ≤ R) (hR2 : 1 < R) (hargs : Hid (IntsAt w La Ba aa args)) (hna : Hid (na = args.length))
    (good : Hid (validS ⟨m, xs⟩ = true)) (hT : Hid (TerTab w)) (hbox : Hid (RunBox w R aa na ca (.slice none 0 0) C)) :
    Calls Tryd.prog 52 #[.pointer (some ⟨R, 0, none⟩), .agg #[.int .i64 m, .slice a n c]] w
      fun e w' => ∃ G c', e = .returned (.tuple #[]) ∧ Kb w.heap.size R R w w' ∧ w.heap.size ≤ G ∧ RunBox w' R aa na ca (.slice (some ⟨G, 0, none⟩) n c') C ∧ NodesAt w' w'.heap.size G ⟨m, xs⟩ args n := by
  have hnn : n ≤ 1048576 := by have := hx.out; have := hs.out; omega
  obtain ⟨i0, hi0, hz0, hz1, hz2⟩ := info_parts Tryd.info118
  have hmk := run_make_row' (P := Tryd.prog) 79 116 (.slice none 0 0) 24 Tryd.underlying79 Tryd.info116 rfl .i64 .i64 n (by omega) (by omega)
  have htg := hide (tgt_of_terms (v := m) (xs := xs) (by have h := good.out; rw [← valid_same] at h; simp only [validI, Bool.and_eq_true] at h; exact h.1.1.1.2))
  have HFB : ∀ w1 t, Below (w.alloc (.cells #[.int .i64 m, .slice a n c] t)).heap.size (w.alloc (.cells #[.int .i64 m, .slice a n c] t)) w1 → (w1.cell? ⟨w.heap.size, 0, none⟩ = some (.int .i64 m) ∧ w1.cell? ⟨w.heap.size, 1, none⟩ = some (.slice a n c)) ∧ RunBox w1 R aa na ca (.slice none 0 0) C ∧ Below w.heap.size w w1 ∧ w.heap.size < w1.heap.size := fun w1 t h => by
    have h1 := h.mono (B' := w.heap.size + 1) (by simp)
    have hb := bnext (balloc (Below.refl w.heap.size w) _) h
    have hsz := h.size
    simp at hsz
    obtain ⟨x0, x7, xz, xo⟩ := hbox.out
    have k := hb.block R hR
    exact ⟨⟨(h1.cell (p := ⟨w.heap.size, 0, none⟩) (by show w.heap.size < _; omega)).trans (by simp [go_sem]), (h1.cell (p := ⟨w.heap.size, 1, none⟩) (by show w.heap.size < _; omega)).trans (by simp [go_sem])⟩, ⟨(cell_of k).trans x0, (cell_of k).trans x7, fun o => (World.frozen?_of_block k).trans (xz o), fun o ho => (cell_of k).trans (xo o ho)⟩, hb, by omega⟩
  go_enter Tryd.func52, Tryd.ntmps52
  go_wp2_with (go_at_call 62; refine (predecessors_any m a n c xs L B _ (hide (ha.out.keep ((balloc (Below.refl w.heap.size w) _).mono (by omega)))) hx hnn (by simp; omega) (hide (by rw [hx.out]; exact htg.out))).mono ?_; rintro e w1 ⟨pa, pc, rfl, hb1, hi1⟩; obtain ⟨⟨f0, f1⟩, hbx, hbb, hsz1⟩ := HFB w1 _ hb1; have HBX := hide hbx; obtain ⟨x0, x7, xz, -⟩ := hbx; have y7 := fun o => ((balloc (Below.refl w1.heap.size w1) o).cell (p := ⟨R, 7, none⟩) (by show R < _; omega)).trans x7; have yz := fun o => ((balloc (Below.refl w1.heap.size w1) o).frozen (p := ⟨R, 7, none⟩) (by show R < _; omega)).trans (xz 7); have g1 : ∀ o v, ((w1.alloc o).setCell ⟨R, 7, none⟩ v).cell? ⟨w.heap.size, 1, none⟩ = some (.slice a n c) := fun o v => (World.cell?_setCell_other _ _ _ _ (by intro e; injection e with e; omega)).trans (((balloc (Below.refl w1.heap.size w1) o).cell (p := ⟨w.heap.size, 1, none⟩) (by show w.heap.size < _; omega)).trans f1); have g2 : ∀ o v, ((w1.setCell ⟨R, 7, none⟩ v).alloc o).cell? ⟨w.heap.size, 1, none⟩ = some (.slice a n c) := fun o v => ((balloc (Below.refl _ (w1.setCell ⟨R, 7, none⟩ v)) o).cell (p := ⟨w.heap.size, 1, none⟩) (by show w.heap.size < _; rw [size_setCell]; omega)).trans ((World.cell?_setCell_other _ _ _ _ (by intro e; injection e with e; omega)).trans f1); have HI1 := hide hi1; have HBB := hide hbb; clear hi1 hb1 hbb HFB)
  generalize hG : w1.heap.size = G at *
  have hG1 : w.heap.size < G := hsz1
  have HST : NInv w m a n c xs R aa na ca args C G pa 0 ((w1.alloc (.cells (madeCells #[.slice none 0 0] n) 116)).setCell ⟨R, 7, none⟩ (.slice (some ⟨G, 0, none⟩) n n)) := by
    have hb := balloc HBB.out (.cells (madeCells #[.slice none 0 0] n) 116)
    have far : ∀ b, b < w1.heap.size → b ≠ R → ((w1.alloc (.cells (madeCells #[.slice none 0 0] n) 116)).setCell ⟨R, 7, none⟩ (.slice (some ⟨G, 0, none⟩) n n)).heap[b]? = w1.heap[b]? := fun b h1 h2 => (Below.heap_setCell _ _ _ _ h2).trans ((balloc (Below.refl w1.heap.size w1) _).block b h1)
    have kR : (w1.alloc (.cells (madeCells #[.slice none 0 0] n) 116)).heap[R]? = w1.heap[R]? := (balloc (Below.refl w1.heap.size w1) _).block R (by omega)
    obtain ⟨b0, b7, bz, bo⟩ := HBX.out.keep kR
    have hrow := World.rowIs_made w1 (.slice none 0 0) n 116
    rw [hG] at hrow
    refine ⟨(Kb.of_below hb).set (Or.inl rfl) _, (cell_of (far _ (by omega) (by omega))).trans f0, (cell_of (far _ (by omega) (by omega))).trans f1, ⟨?_, World.cell?_setCell_same _ _ _ b7, fun o => (World.frozen?_setCell _ _ _ _).trans (bz o), fun o ho => ?_⟩, ⟨fun _ => .slice none 0 0, ?_, fun i hi => absurd hi (by omega)⟩, ?_, by simp [hG], hG1⟩
    · exact (World.cell?_setCell_other _ _ _ _ (by intro e; injection e with _ e; omega)).trans b0
    · exact (World.cell?_setCell_other _ _ _ _ (by intro e; injection e with _ e; exact ho e.symm)).trans (bo o ho)
    · show World.rowIs _ G _ xs.length _
      rw [← hx.out]
      exact hrow.of_block (Below.heap_setCell _ _ _ _ (by dsimp only; omega))
    · have h := HI1.out
      simp only [World.size_alloc] at h
      exact h.keepS (fun b h1 h2 => far b (by omega) (by omega))
  clear g1 g2 y7 yz x0 x7 xz f0 f1
  go_loopw [22] (fun i wr => ∃ k : Nat, k ≤ n ∧ i = .int .i64 k ∧ Hid (NInv w m a n c xs R aa na ca args C G pa k wr)) (fun i _ => n - (intOf i).toNat)
  case atStart => exact ⟨0, Nat.zero_le _, rfl, hide HST⟩
  case round =>
    clear HST HBX HI1 HBB hmk
    obtain ⟨k, hk, rfl, hinv⟩ := hrel
    have hgl := hinv.out.gl
    have hks := hinv.out.kb.size
    by_cases hlt : k < n
    · have hkx : k < xs.length := by have := hx.out; omega
      have BO := blkOk_of ⟨m, xs⟩ good.out k hkx
      obtain ⟨b, o, rfl, ⟨_, hbB⟩, hc⟩ := ha.out k hkx
      rw [show xs[k] = (⟨m, xs⟩ : Fn).blk k from (blk_at ⟨m, xs⟩ k hkx).symm] at hc
      have hil : ((⟨m, xs⟩ : Fn).blk k).instrs.length ≤ 1048576 := by rw [blk_at ⟨m, xs⟩ k hkx]; show xs[k].instrs.length ≤ _; have := tot_le (List.getElem_mem hkx); have := hs.out; omega
      obtain ⟨pa', pc', ia, ic, e0, e1, ⟨e2, e3, e4, e5⟩, _, hin⟩ := hc.keep (hinv.out.kb.below (B' := B) (by omega) hB hB) hbB
      have HIN0 := hide hin
      have hok := hide BO.ins
      obtain ⟨s0, s7, sz, -⟩ := hinv.out.box
      clear hc BO hin
      generalize hX : (⟨m, xs⟩ : Fn).blk k = X at *
      have HX := hide hX
      clear hX
      have HOW0 := fun o => own_born wr o 118
      go_wp2
      generalize wr = wo at *
      generalize hM : wo.heap.size = M at *
      go_loopw [7, 31] (fun u i wi => ∃ j : Nat, j ≤ X.instrs.length ∧ i = .int .i64 j ∧ Below M wo wi ∧ M + 1 < wi.heap.size ∧ Hid (wi.ownsRow (M + 1) 118 1 u j ((X.instrs.take j).map (nodeV args)))) (fun _ i _ => X.instrs.length - (intOf i).toNat)
      case atStart => exact ⟨0, Nat.zero_le _, rfl, by rw [← hM]; exact balloc (balloc (Below.refl _ _) _) _, by simp [hM], hide (by simpa [hM] using HOW0 _)⟩
      case round =>
        obtain ⟨j, hj, rfl, hwi0, hwsz, HOW⟩ := hrel
        generalize wr = wi at *
        have hwi := hide hwi0
        clear HOW0 e0 e1 e2 e3 e4 e5
        by_cases hjl : j < X.instrs.length
        · obtain ⟨b3, o3, rfl, ⟨_, hb3⟩, hcc⟩ := HIN0.out j hjl
          obtain ⟨i0', i1, i2, i3, i4⟩ := hcc.keep (hwi0.mono (B' := B) (by omega)) hb3
          have hokj := hok.out j hjl
          obtain ⟨xi, hxi⟩ : ∃ xi, X.instrs[j] = xi := ⟨_, rfl⟩
          rw [hxi] at hokj i0' i1 i2 i3 i4
          obtain ⟨op, dst, xa, xb, imm⟩ := xi
          dsimp only at i0' i1 i2 i3 i4
          obtain ⟨T, V, htv⟩ := nodeV_iface args ⟨op, dst, xa, xb, imm⟩
          have HTV := hide htv
          have HXI := hide hxi
          have HAR := fun x => hide ((hargs.out.keep (hinv.out.kb.below (by omega) hBa hBa)).keep ((hwi0.mono (B' := Ba) (by omega)).trans ((balloc (Below.refl wi.heap.size wi) x).drew.mono (by omega))))
          have HIN := fun x => hide (by
            have h := instrNode_any ⟨op, dst, xa, xb, imm⟩ args R aa na ca m La Ba ((wi.alloc x).drew) (((balloc (Below.refl wi.heap.size wi) x).drew.cell (p := ⟨R, 0, none⟩) (by show R < _; omega)).trans ((hwi0.cell (p := ⟨R, 0, none⟩) (by show R < _; omega)).trans s0)) (by simp; omega) (HAR x) hna (by simp; omega) hokj
            dsimp only at h
            exact h)
          clear htv hxi hokj HAR hcc hwi0 s0 s7 sz
          go_wp2
          refine wp_region_held_drew (S := (fun w' => w'.cell? ⟨wi.heap.size, 0, none⟩ = some (.int .i64 op) ∧ w'.cell? ⟨wi.heap.size, 1, none⟩ = some (.int .i64 dst) ∧ w'.cell? ⟨wi.heap.size, 2, none⟩ = some (.int .i64 xa) ∧ w'.cell? ⟨wi.heap.size, 3, none⟩ = some (.int .i64 xb) ∧ w'.cell? ⟨wi.heap.size, 4, none⟩ = some (.int .i64 imm))) (by kernel_rfl) (by (try dsimp only); go_keep) (fun hHeld => ?_)
          refine wpAnyH_take (i := 0) (v := ?_) rfl (by kernel_rfl) (by kernel_rfl) (by kernel_rfl) (fun _ _ _ h => h) (Or.inl ⟨by rfl, ?_⟩) (by assumption) ?_
          rotate_left
          · intro w hSw; (try dsimp only at hSw); go_simp; try with_reducible rfl
          simp only [Act.put, List.getElem_toArray, List.getElem_cons_zero, List.setIfInBounds_toArray, List.set_cons_zero, List.set_cons_succ]
          refine wpAnyH_take (i := 1) (v := ?_) rfl (by kernel_rfl) (by kernel_rfl) (by kernel_rfl) (fun _ _ _ h => h) (Or.inl ⟨by rfl, ?_⟩) (by assumption) ?_
          rotate_left
          · intro w hSw; (try dsimp only at hSw); go_simp; try with_reducible rfl
          simp only [Act.put, List.getElem_toArray, List.getElem_cons_zero, List.getElem_cons_succ, List.setIfInBounds_toArray, List.set_cons_zero, List.set_cons_succ]
          refine wpAnyH_take (i := 2) (v := ?_) rfl (by kernel_rfl) (by kernel_rfl) (by kernel_rfl) (fun _ _ _ h => h) (Or.inl ⟨by rfl, ?_⟩) (by assumption) ?_
          rotate_left
          · intro w hSw; (try dsimp only at hSw); go_simp; try with_reducible rfl
          simp only [Act.put, List.getElem_toArray, List.getElem_cons_zero, List.getElem_cons_succ, List.setIfInBounds_toArray, List.set_cons_zero, List.set_cons_succ]
          refine wpAnyH_take (i := 3) (v := ?_) rfl (by kernel_rfl) (by kernel_rfl) (by kernel_rfl) (fun _ _ _ h => h) (Or.inl ⟨by rfl, ?_⟩) (by assumption) ?_
          rotate_left
          · intro w hSw; (try dsimp only at hSw); go_simp; try with_reducible rfl
          simp only [Act.put, List.getElem_toArray, List.getElem_cons_zero, List.getElem_cons_succ, List.setIfInBounds_toArray, List.set_cons_zero, List.set_cons_succ]
          refine wpAnyH_take (i := 4) (v := ?_) rfl (by kernel_rfl) (by kernel_rfl) (by kernel_rfl) (fun _ _ _ h => h) (Or.inl ⟨by rfl, ?_⟩) (by assumption) ?_
          rotate_left
          · intro w hSw; (try dsimp only at hSw); go_simp; try with_reducible rfl
          simp only [Act.put, List.getElem_toArray, List.getElem_cons_zero, List.getElem_cons_succ, List.setIfInBounds_toArray, List.set_cons_zero, List.set_cons_succ]
          refine wpAnyH_ready (rs := [5]) (by kernel_rfl) (by simp) ?_
          refine AllReadyH.cons rfl (fun K hK => ?_) AllReadyH.nil
          go_simp
          refine (HIN _).out.mono ?_
          rintro e w2 ⟨rfl, hb2⟩
          rw [HTV.out]
          have hs2 := hb2.size
          simp at hs2
          obtain ⟨f0, f1, f2, f3, f4⟩ := five_keep (hb2.mono (B' := wi.heap.size + 1) (by simp))
          have HB2 := hide (bnext (balloc (Below.refl wi.heap.size wi) _).drew hb2)
          clear hb2
          go_wp2_with fail
          refine hK.out _ _ (by first | exact hHeld | ((try dsimp only); go_keep)) (fun hHeld => ?_)
          clear hK
          try simp only [Act.put, List.getElem_toArray, List.getElem_cons_zero, List.getElem_cons_succ, List.setIfInBounds_toArray, List.set_cons_zero, List.set_cons_succ]
          refine wpAnyH_ready (rs := [6]) (by kernel_rfl) (by simp) ?_
          refine AllReadyH.cons rfl (fun K hK => ?_) AllReadyH.nil
          go_simp
          refine hK.out _ _ (by first | exact hHeld | ((try dsimp only); go_keep)) (fun hHeld => ?_)
          clear hK
          try simp only [Act.put, List.getElem_toArray, List.getElem_cons_zero, List.getElem_cons_succ, List.setIfInBounds_toArray, List.set_cons_zero, List.set_cons_succ]
          refine wpAnyH_ready (rs := [7]) (by kernel_rfl) (by simp) ?_
          refine AllReadyH.cons rfl (fun K hK => ?_) AllReadyH.nil
          refine step_append_lies _ rfl (.tmp 35) (.tmp 41) 116 rfl (M + 1) 118 i0 .nilIface 1 16 Tryd.underlying116 hi0 hz0 hz1 hz2 rfl (by decide) u7 j (((X.instrs.take j).map (nodeV args))) (by simp [Act.eval]) (own_keep2 HOW.out (fun b e => ((balloc HB2.out _).block b (HOW.out.lt b e).2))) ⟨w2.heap.size, 0, none⟩ 1 1 [.iface T V] (by simp [Act.eval]) rfl ?_ (by intro u hu; simp at hu; subst hu; rfl) (by decide) (by unfold maxLen; omega) (by omega) (by simp; omega) (w2.heap.size + 1) (by simp) ?_
          · intro j u hj
            match j, hj with
            | 0, hj => simp at hj; subst hj; simp [Addr.add, go_sem]
          intro g cap w3 hown hgrow hat hlt
          have hgs := hgrow.size
          simp at hgs
          have HB3 := hide (grown_below ((hwi.out.trans (HB2.out.mono (by omega))).alloc (by have := HB2.out.size; omega) _) hgrow (own_keep2 HOW.out (fun b e => ((balloc HB2.out _).block b (HOW.out.lt b e).2))) (by omega) (by simp; omega))
          have HOW3 := hide hown
          have hfr : some wi.heap.size ≠ u7.ownBlock := fun e => by have := (HOW.out.lt _ e.symm).2; omega
          obtain ⟨q, -⟩ := far10' hgrow (k := wi.heap.size) (by simp; omega) hfr
          have q0 := (q 0).trans (((balloc (Below.refl w2.heap.size w2) _).cell (p := ⟨wi.heap.size, 0, none⟩) (by show wi.heap.size < _; omega)).trans f0)
          have q1 := (q 1).trans (((balloc (Below.refl w2.heap.size w2) _).cell (p := ⟨wi.heap.size, 1, none⟩) (by show wi.heap.size < _; omega)).trans f1)
          have q2 := (q 2).trans (((balloc (Below.refl w2.heap.size w2) _).cell (p := ⟨wi.heap.size, 2, none⟩) (by show wi.heap.size < _; omega)).trans f2)
          have q3 := (q 3).trans (((balloc (Below.refl w2.heap.size w2) _).cell (p := ⟨wi.heap.size, 3, none⟩) (by show wi.heap.size < _; omega)).trans f3)
          have q4 := (q 4).trans (((balloc (Below.refl w2.heap.size w2) _).cell (p := ⟨wi.heap.size, 4, none⟩) (by show wi.heap.size < _; omega)).trans f4)
          clear q hown hgrow hat hlt hfr
          refine hK.out _ _ (by first | exact hHeld | ((try dsimp only); go_keep)) (fun hHeld => ?_)
          clear hK
          try simp only [Act.put, List.getElem_toArray, List.getElem_cons_zero, List.getElem_cons_succ, List.setIfInBounds_toArray, List.set_cons_zero, List.set_cons_succ]
          refine wpAnyH_ready (rs := [8]) (by kernel_rfl) (by simp) ?_
          refine AllReadyH.cons rfl (fun K hK => ?_) AllReadyH.nil
          go_simp
          refine hK.out _ _ (by first | exact hHeld | ((try dsimp only); go_keep)) (fun hHeld => ?_)
          clear hK
          try simp only [Act.put, List.getElem_toArray, List.getElem_cons_zero, List.getElem_cons_succ, List.setIfInBounds_toArray, List.set_cons_zero, List.set_cons_succ]
          refine wpAnyH_done (by kernel_rfl) ?_ _
          go_wp2
          exact ⟨⟨j + 1, by omega, by go_num, HB3.out, by omega, hide (by rw [take_next _ _ hjl, List.map_append]; show w3.ownsRow _ _ _ _ _ (_ ++ [nodeV args X.instrs[j]]); rw [HXI.out, HTV.out]; exact HOW3.out)⟩, by simp [intOf]; omega⟩
        · have hje : j = X.instrs.length := by omega
          subst hje
          have v0 := hinv.out.f0
          have v1 := hinv.out.f1
          have c7 := (hwi0.cell (p := ⟨R, 7, none⟩) (by show R < _; omega)).trans s7
          have c0 := (hwi0.cell (p := ⟨w.heap.size, 0, none⟩) (by show w.heap.size < _; omega)).trans v0
          have c1 := (hwi0.cell (p := ⟨w.heap.size, 1, none⟩) (by show w.heap.size < _; omega)).trans v1
          rw [List.take_length] at HOW
          have HEN := hide (makeEnd_any m (some ⟨b, o, none⟩) n c pa n pc k xs L B (w.heap.size + 1) G wi.drew (hide ((ha.out.keep (hinv.out.kb.below (B' := B) (by omega) hB hB)).keep ((hwi0.mono (B' := B) (by omega)).drew))) hx hs (by simp; omega) (hide (by rw [← hx.out]; exact (hinv.out.pr.keep ((hwi0.mono (B' := G) (by omega)).drew)))) hx (by simp; omega) good hlt (hide (hT.out.keep1 ((hwi0.drew.block 1 (by omega)).trans (hinv.out.kb.block 1 hT.out.1 (by omega) (by omega))) (by simp; omega))))
          clear s0 sz HIN0 hok hwi0
          go_wp2
          refine wp_region_held_drew (S := (fun w' => w'.cell? ⟨R, 7, none⟩ = some (.slice (some ⟨G, 0, none⟩) n n) ∧ w'.cell? ⟨w.heap.size, 0, none⟩ = some (.int .i64 m) ∧ w'.cell? ⟨w.heap.size, 1, none⟩ = some (.slice (some ⟨b, o, none⟩) n c))) (by kernel_rfl) (by (try dsimp only); go_keep) (fun hHeld => ?_)
          refine wpAnyH_take (i := 0) (v := ?_) rfl (by kernel_rfl) (by kernel_rfl) (by kernel_rfl) (fun _ _ _ h => h) (Or.inl ⟨by rfl, ?_⟩) (by assumption) ?_
          rotate_left
          · intro w hSw; (try dsimp only at hSw); go_simp; try with_reducible rfl
          simp only [Act.put, List.getElem_toArray, List.getElem_cons_zero, List.setIfInBounds_toArray, List.set_cons_zero, List.set_cons_succ]
          refine wpAnyH_take (i := 1) (v := ?_) rfl (by kernel_rfl) (by kernel_rfl) (by kernel_rfl) (fun _ _ _ h => h) (Or.inl ⟨by rfl, ?_⟩) (by assumption) ?_
          rotate_left
          · intro w hSw; (try dsimp only at hSw); go_simp; try with_reducible rfl
          simp only [Act.put, List.getElem_toArray, List.getElem_cons_zero, List.getElem_cons_succ, List.setIfInBounds_toArray, List.set_cons_zero, List.set_cons_succ]
          refine wpAnyH_take (i := 2) (v := ?_) rfl (by kernel_rfl) (by kernel_rfl) (by kernel_rfl) (fun _ _ _ h => h) (Or.inl ⟨by rfl, ?_⟩) (by assumption) ?_
          rotate_left
          · intro w hSw; (try dsimp only at hSw); go_simp; try with_reducible rfl
          simp only [Act.put, List.getElem_toArray, List.getElem_cons_zero, List.getElem_cons_succ, List.setIfInBounds_toArray, List.set_cons_zero, List.set_cons_succ]
          refine wpAnyH_take (i := 3) (v := ?_) rfl (by kernel_rfl) (by kernel_rfl) (by kernel_rfl) (fun _ _ _ h => h) (Or.inl ⟨by rfl, ?_⟩) (by assumption) ?_
          rotate_left
          · intro w hSw; (try dsimp only at hSw); go_simp; try with_reducible rfl
          simp only [Act.put, List.getElem_toArray, List.getElem_cons_zero, List.getElem_cons_succ, List.setIfInBounds_toArray, List.set_cons_zero, List.set_cons_succ]
          refine wpAnyH_take (i := 4) (v := ?_) rfl (by kernel_rfl) (by kernel_rfl) (by kernel_rfl) (fun _ _ _ h => h) (Or.inl ⟨by rfl, ?_⟩) (by assumption) ?_
          rotate_left
          · intro w hSw; (try dsimp only at hSw); go_simp; try with_reducible rfl
          simp only [Act.put, List.getElem_toArray, List.getElem_cons_zero, List.getElem_cons_succ, List.setIfInBounds_toArray, List.set_cons_zero, List.set_cons_succ]
          refine wpAnyH_take (i := 5) (v := ?_) rfl (by kernel_rfl) (by kernel_rfl) (by kernel_rfl) (fun _ _ _ h => h) (Or.inl ⟨by rfl, ?_⟩) (by assumption) ?_
          rotate_left
          · intro w hSw; (try dsimp only at hSw); go_simp; try with_reducible rfl
          simp only [Act.put, List.getElem_toArray, List.getElem_cons_zero, List.getElem_cons_succ, List.setIfInBounds_toArray, List.set_cons_zero, List.set_cons_succ]
          refine wpAnyH_take (i := 6) (v := ?_) rfl (by kernel_rfl) (by kernel_rfl) (by kernel_rfl) (fun _ _ _ h => h) (Or.inl ⟨by rfl, ?_⟩) (by assumption) ?_
          rotate_left
          · intro w hSw; (try dsimp only at hSw); go_simp; try with_reducible rfl
          simp only [Act.put, List.getElem_toArray, List.getElem_cons_zero, List.getElem_cons_succ, List.setIfInBounds_toArray, List.set_cons_zero, List.set_cons_succ]
          refine wpAnyH_take (i := 7) (v := ?_) rfl (by kernel_rfl) (by kernel_rfl) (by kernel_rfl) (fun _ _ _ h => h) (Or.inl ⟨by rfl, ?_⟩) (by assumption) ?_
          rotate_left
          · intro w hSw; (try dsimp only at hSw); go_simp; try with_reducible rfl
          simp only [Act.put, List.getElem_toArray, List.getElem_cons_zero, List.getElem_cons_succ, List.setIfInBounds_toArray, List.set_cons_zero, List.set_cons_succ]
          refine wpAnyH_take (i := 8) (v := ?_) rfl (by kernel_rfl) (by kernel_rfl) (by kernel_rfl) (fun _ _ _ h => h) (Or.inl ⟨by rfl, ?_⟩) (by assumption) ?_
          rotate_left
          · intro w hSw; (try dsimp only at hSw); go_simp; try with_reducible rfl
          simp only [Act.put, List.getElem_toArray, List.getElem_cons_zero, List.getElem_cons_succ, List.setIfInBounds_toArray, List.set_cons_zero, List.set_cons_succ]
          refine wpAnyH_ready (rs := [9]) (by kernel_rfl) (by simp) ?_
          refine AllReadyH.cons rfl (fun K hK => ?_) AllReadyH.nil
          go_simp
          refine HEN.out.mono ?_
          rintro e w2 ⟨val, rfl, hb2, hend⟩
          have HE := hide hend
          obtain ⟨t1, t2, ta, ea, nt, ct, ne, ce, rfl, -⟩ := hend
          have hs2 : wi.heap.size ≤ w2.heap.size := hb2.size
          have k7 := (hb2.cell (p := ⟨R, 7, none⟩) (by show R < _; simp; omega)).trans c7
          have k0 := (hb2.cell (p := ⟨w.heap.size, 0, none⟩) (by show w.heap.size < _; simp; omega)).trans c0
          have k1 := (hb2.cell (p := ⟨w.heap.size, 1, none⟩) (by show w.heap.size < _; simp; omega)).trans c1
          have HB2 := hide ((Below.refl wi.heap.size wi).drew.trans hb2)
          clear hb2
          go_wp2_with fail
          refine hK.out _ _ (by first | exact hHeld | ((try dsimp only); go_keep)) (fun hHeld => ?_)
          clear hK
          try simp only [Act.put, List.getElem_toArray, List.getElem_cons_zero, List.getElem_cons_succ, List.setIfInBounds_toArray, List.set_cons_zero, List.set_cons_succ]
          refine wpAnyH_take (i := 10) (v := ?_) rfl (by kernel_rfl) (by kernel_rfl) (by kernel_rfl) (fun _ _ _ h => h) (Or.inl ⟨by rfl, ?_⟩) (by assumption) ?_
          rotate_left
          · intro w hSw; (try dsimp only at hSw); go_simp; try with_reducible rfl
          simp only [Act.put, List.getElem_toArray, List.getElem_cons_zero, List.getElem_cons_succ, List.setIfInBounds_toArray, List.set_cons_zero, List.set_cons_succ]
          refine wpAnyH_ready (rs := [11]) (by kernel_rfl) (by simp) ?_
          refine AllReadyH.cons rfl (fun K hK => ?_) AllReadyH.nil
          go_simp
          refine hK.out _ _ (by first | exact hHeld | ((try dsimp only); go_keep)) (fun hHeld => ?_)
          clear hK
          try simp only [Act.put, List.getElem_toArray, List.getElem_cons_zero, List.getElem_cons_succ, List.setIfInBounds_toArray, List.set_cons_zero, List.set_cons_succ]
          refine wpAnyH_ready (rs := [12]) (by kernel_rfl) (by simp) ?_
          refine AllReadyH.cons rfl (fun K hK => ?_) AllReadyH.nil
          refine step_append_lies _ rfl (.tmp 49) (.tmp 55) 116 rfl (M + 1) 118 i0 .nilIface 1 16 Tryd.underlying116 hi0 hz0 hz1 hz2 rfl (by decide) u7 X.instrs.length (X.instrs.map (nodeV args)) (by simp [Act.eval]) (own_keep2 HOW.out (fun b e => ((balloc HB2.out _).block b (HOW.out.lt b e).2))) ⟨w2.heap.size, 0, none⟩ 1 1 [.iface 124 (.agg #[.int .i64 ((⟨m, xs⟩ : Fn).blk k).term.kind, .int .i64 ((⟨m, xs⟩ : Fn).blk k).term.a, .int .i64 t1, .slice ta nt ct, .int .i64 t2, .slice ea ne ce])] (by simp [Act.eval]) rfl ?_ (by intro u hu; simp at hu; subst hu; rfl) (by decide) (by unfold maxLen; omega) (by omega) (by simp; omega) (w2.heap.size + 1) (by simp) ?_
          · exact World.news_of_block (heap_new _ _)
          intro g cap w3 hown hgrow hat hlt
          have hgs := hgrow.size
          simp at hgs
          have HB3 := hide (grown_below ((hwi.out.trans (HB2.out.mono (by omega))).alloc (by have := HB2.out.size; omega) _) hgrow (own_keep2 HOW.out (fun b e => ((balloc HB2.out _).block b (HOW.out.lt b e).2))) (by omega) (by simp; omega))
          have HOW3 := hide hown
          have HE3 := hide ((HE.out.keepS (w' := w3) (fun b h1 h2 => (hgrow.block b (by simp; omega) (fun e => by have := (HOW.out.lt _ e.symm).2; simp at h1; omega)).trans ((balloc (Below.refl w2.heap.size w2) _).block b h2))).mono (L' := G + 1) (B' := w3.heap.size) (by simp; omega) (by omega))
          have p7 := (HB3.out.cell (p := ⟨R, 7, none⟩) (by show R < _; omega)).trans s7
          have p0 := (HB3.out.cell (p := ⟨w.heap.size, 0, none⟩) (by show w.heap.size < _; omega)).trans v0
          have p1 := (HB3.out.cell (p := ⟨w.heap.size, 1, none⟩) (by show w.heap.size < _; omega)).trans v1
          obtain ⟨U, hU, -⟩ := hinv.out.nodes
          have hU3 := hU.of_block (HB3.out.block G (by omega))
          have pg := hU3.cell (i := k) hkx
          have pz := hU3.frozen (i := k)
          have nG1 : G ≠ R := by omega
          have nG2 : G ≠ w.heap.size := by omega
          clear hown hgrow hat hlt hU hU3
          refine hK.out _ _ (by first | exact hHeld | ((try dsimp only); go_keep)) (fun hHeld => ?_)
          clear hK
          try simp only [Act.put, List.getElem_toArray, List.getElem_cons_zero, List.getElem_cons_succ, List.setIfInBounds_toArray, List.set_cons_zero, List.set_cons_succ]
          refine wpAnyH_take (i := 13) (v := ?_) rfl (by kernel_rfl) (by kernel_rfl) (by kernel_rfl) (fun _ _ _ h => h) (Or.inl ⟨by rfl, ?_⟩) (by assumption) ?_
          rotate_left
          · intro w hSw; (try dsimp only at hSw); go_simp; try with_reducible rfl
          simp only [Act.put, List.getElem_toArray, List.getElem_cons_zero, List.getElem_cons_succ, List.setIfInBounds_toArray, List.set_cons_zero, List.set_cons_succ]
          refine wpAnyH_ready (rs := [14]) (by kernel_rfl) (by simp) ?_
          refine AllReadyH.cons rfl (fun K hK => ?_) AllReadyH.nil
          go_simp
          refine hK.out _ _ (by first | exact hHeld | ((try dsimp only); go_keep)) (fun hHeld => ?_)
          clear hK
          try simp only [Act.put, List.getElem_toArray, List.getElem_cons_zero, List.getElem_cons_succ, List.setIfInBounds_toArray, List.set_cons_zero, List.set_cons_succ]
          refine wpAnyH_done (by kernel_rfl) ?_ _
          go_wp2
          have hX := HX.out
          subst hX
          exact ⟨⟨k + 1, by omega, by go_num, hide (hinv.out.step hR (by rw [hM]; exact HB3.out) (NodeRow.of_own (by omega) HOW3.out HE3.out))⟩, by simp [intOf]; omega⟩
    · have hke : k = n := by omega
      subst hke
      go_wp2
      exact bodyPost_end (v := .tuple #[]) (by simp [results, Tryd.results52, go_sem]) rfl ⟨G, k, rfl, hinv.out.kb, by omega, hinv.out.box, hinv.out.nodes⟩
end Go.Proofs.YteifkldaoddpdaaDoor
