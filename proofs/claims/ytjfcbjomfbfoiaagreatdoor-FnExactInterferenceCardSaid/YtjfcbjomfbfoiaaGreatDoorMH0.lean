import Derived.Test.YtjfcbjomfbfoiaaGreatDoorML2
import Derived.Test.YtjfcbjomfbfoiaaGreatDoorTZ1
import Derived.Test.YtjfcbjomfbfoiaaGreatDoorRW
import Derived.Test.YtjfcbjomfbfoiaaGreatDoorFI2
namespace Go.Proofs.YtjfcbjomfbfoiaaGreatDoor
open Go.RowKit
def phL (xs : List Blk) (b : Nat) : List Int := match xs[b]? with
  | none => []
  | some x => x.phis.map Ph.dst
def rtL (xs : List Blk) (b : Nat) : List Int := match xs[b]? with
  | none => []
  | some x => rdT x.term
def dfL (xs : List Blk) (b : Nat) : List Int := match xs[b]? with
  | none => []
  | some x => dfsM x
def rdL (xs : List Blk) (b : Nat) : List (List Int) := match xs[b]? with
  | none => []
  | some x => rdsM x
theorem phiB_eq (xs : List Blk) (b v : Nat) : phiB xs b v = hasI (phL xs b) (v : Int) := by
  unfold phiB phL
  cases xs[b]? <;> rfl
/-- One block's facts. -/
structure FcB (W : World) (base : Nat) (xs : List Blk) (b : Nat) (a0 : Option Addr) (n0 : Nat) (a1 : Option Addr) (n1 : Nat) (a2 : Option Addr) (n2 : Nat) (a3 : Option Addr) (n3 : Nat) (a4 : Option Addr) (n4 : Nat) (a5 : Option Addr) (n5 : Nat) (c0 c1 c2 c3 c4 c5 : Nat) : Prop where
  t : n0 = (tgN xs b).length ∧ IntsAt W 0 base a0 (natI (tgN xs b))
  p : n1 = (phL xs b).length ∧ IntsAt W 0 base a1 (phL xs b)
  e : n2 = (edgesM xs b).length ∧ IntsAt W 0 base a2 (edgesM xs b)
  r : n3 = (rdL xs b).length ∧ RowsP W (fun q => q < base) a3 (rdL xs b)
  d : n4 = (dfL xs b).length ∧ IntsAt W 0 base a4 (dfL xs b)
  u : n5 = (rtL xs b).length ∧ IntsAt W 0 base a5 (rtL xs b)
  bare : ∀ v : Nat, Calls Tryz.prog 62 #[.agg #[.slice a0 n0 c0, .slice a1 n1 c1, .slice a2 n2 c2, .slice a3 n3 c3, .slice a4 n4 c4, .slice a5 n5 c5], .int .i64 (v : Int)] W fun e w' => e = .returned (.int .i64 (barB xs b v : Nat)) ∧ Below W.heap.size W w'
theorem FactsAt.row {V : Nat} {xs : List Blk} (ho : OkL V xs) {w W : World} {bf of : Nat} (h : FactsAt w (some ⟨bf, of, none⟩) xs) (k : Below w.heap.size w W) {b : Nat} (hb : b < xs.length) :
    ∃ a0 n0 a1 n1 a2 n2 a3 n3 a4 n4 a5 n5 c0 c1 c2 c3 c4 c5, bf < w.heap.size ∧ W.cell? ⟨bf, of + b * 6, none⟩ = some (.slice a0 n0 c0) ∧ W.cell? ⟨bf, of + b * 6 + 1, none⟩ = some (.slice a1 n1 c1) ∧ W.cell? ⟨bf, of + b * 6 + 2, none⟩ = some (.slice a2 n2 c2) ∧ W.cell? ⟨bf, of + b * 6 + 3, none⟩ = some (.slice a3 n3 c3) ∧ W.cell? ⟨bf, of + b * 6 + 4, none⟩ = some (.slice a4 n4 c4) ∧ W.cell? ⟨bf, of + b * 6 + 5, none⟩ = some (.slice a5 n5 c5) ∧ n0 ≤ 2 ∧ n1 ≤ 4000 ∧ n2 ≤ 8000000 ∧ n4 ≤ 4000 ∧ n5 ≤ 1 ∧ FcB W w.heap.size xs b a0 n0 a1 n1 a2 n2 a3 n3 a4 n4 a5 n5 c0 c1 c2 c3 c4 c5 := by
  obtain ⟨bf', of', us, e, hbf, hus, hfa⟩ := h b hb
  injection e with e
  injection e with e1 e2
  subst e1 e2
  have hc : ∀ j, j < 6 → W.cell? ⟨bf, of + b * 6 + j, none⟩ = some (us j) := fun j hj => (k.cell (p := ⟨bf, of + b * 6 + j, none⟩) hbf).trans (hus j hj)
  have hfW := hfa.keep (fun q hq _ => k.block q hq) k.size
  obtain ⟨a0, c0, e0, i0⟩ := hfa.e0
  obtain ⟨a1, c1, e1, i1⟩ := hfa.e1
  obtain ⟨a2, c2, e2, i2⟩ := hfa.e2
  obtain ⟨a3, c3, e3, i3⟩ := hfa.e3
  obtain ⟨a4, c4, e4, i4⟩ := hfa.e4
  obtain ⟨a5, c5, e5, i5⟩ := hfa.e5
  have x0 := hc 0 (by decide)
  have x1 := hc 1 (by decide)
  have x2 := hc 2 (by decide)
  have x3 := hc 3 (by decide)
  have x4 := hc 4 (by decide)
  have x5 := hc 5 (by decide)
  rw [e0] at x0
  rw [e1] at x1
  rw [e2] at x2
  rw [e3] at x3
  rw [e4] at x4
  rw [e5] at x5
  have hlx := ho.lens xs[b] (List.getElem_mem hb)
  have htg : xs[b].term.targets = natI (tgN xs b) := by rw [natI_tg ho.okf hb, tgI_at hb]
  have hel : (edgesM xs b).length ≤ 8000000 := by
    unfold edgesM
    rw [List.getElem?_eq_getElem hb]
    have h1 := flat_len ho ((b : Nat) : Int) xs[b].term.targets
    have h2 := tg_two xs[b].term
    simp only
    omega
  have hT : (rdT xs[b].term).length ≤ 1 := by unfold rdT; split <;> simp
  have hph : phL xs b = xs[b].phis.map Ph.dst := by unfold phL; rw [List.getElem?_eq_getElem hb]
  have hrt : rtL xs b = rdT xs[b].term := by unfold rtL; rw [List.getElem?_eq_getElem hb]
  have hdf : dfL xs b = dfsM xs[b] := by unfold dfL; rw [List.getElem?_eq_getElem hb]
  have hrd : rdL xs b = rdsM xs[b] := by unfold rdL; rw [List.getElem?_eq_getElem hb]
  have hbb : ∀ v : Nat, barB xs b v = bareM xs[b] (edgesM xs b) (v : Int) := fun v => by unfold barB; rw [List.getElem?_eq_getElem hb]
  refine ⟨a0, _, a1, _, a2, _, a3, _, a4, _, a5, _, c0, c1, c2, c3, c4, c5, hbf, x0, x1, x2, x3, x4, x5, tg_two _, by rw [List.length_map]; exact hlx.2, hel, by unfold dfsM; rw [List.length_map]; exact hlx.1, hT, ⟨⟨by rw [htg]; simp [natI], ?_⟩, ⟨by rw [hph], ?_⟩, ⟨rfl, i2.at_.keep k⟩, ⟨by rw [hrd], ?_⟩, ⟨by rw [hdf], ?_⟩, ⟨by rw [hrt], ?_⟩, fun v => ?_⟩⟩
  · rw [← htg]; exact i0.at_.keep k
  · rw [hph]; exact i1.at_.keep k
  · rw [hrd]
    intro i hi
    obtain ⟨b', o', e', hb', a', c', hc', h2'⟩ := i3 i hi
    exact ⟨b', o', e', ⟨hb'.2, Nat.lt_of_lt_of_le hb'.2 k.size⟩, a', c', (k.cell (p := ⟨b', o' + i, none⟩) hb'.2).trans hc', fun j hj => by
      obtain ⟨b2, o2, e2, hb2, hc2⟩ := h2' j hj
      exact ⟨b2, o2, e2, ⟨hb2.2, Nat.lt_of_lt_of_le hb2.2 k.size⟩, (k.cell (p := ⟨b2, o2 + j, none⟩) hb2.2).trans hc2⟩⟩
  · rw [hdf]; exact i4.at_.keep k
  · rw [hrt]; exact i5.at_.keep k
  · rw [hbb]
    exact bare_any xs[b] (edgesM xs b) us (v : Int) W (hide hfW) (hide hlx.1) (hide hel) _ _ _ _ _ _ e2 e3 e4 e5
/-- How many are marked. -/
def cntB (lv : Nat → Bool) (n : Nat) : Nat := (List.range n).countP lv
theorem cntB_le (lv : Nat → Bool) (n : Nat) : cntB lv n ≤ n := Nat.le_trans List.countP_le_length (by simp)
theorem cntB_succ (lv : Nat → Bool) (n : Nat) : cntB lv (n + 1) = cntB lv n + (if lv n then 1 else 0) := by
  unfold cntB
  rw [List.range_succ, List.countP_append]
  simp [List.countP_cons]
theorem cntB_congr {lv lv' : Nat → Bool} {n : Nat} (h : ∀ b, b < n → lv b = lv' b) : cntB lv n = cntB lv' n := by
  unfold cntB
  exact List.countP_congr (fun x hx => by rw [h x (List.mem_range.1 hx)])
theorem cntB_set {lv : Nat → Bool} {b : Nat} (hl : lv b = false) : ∀ n, b < n → cntB (fun z => if z = b then true else lv z) n = cntB lv n + 1
  | 0, h => absurd h (by omega)
  | n + 1, h => by
    rw [cntB_succ, cntB_succ]
    by_cases e : b = n
    · subst e
      rw [cntB_congr (lv' := lv) (fun z hz => by simp [show z ≠ b by omega])]
      simp [hl]
    · rw [cntB_set hl n (by omega)]
      have : n ≠ b := by omega
      simp only [this, if_false]
      omega
theorem cntB_pos {lv : Nat → Bool} {b n : Nat} (hb : b < n) (h : lv b = true) : 0 < cntB lv n := by
  unfold cntB
  exact List.countP_pos_iff.2 ⟨b, List.mem_range.2 hb, h⟩
/-- While l2Behind goes through the blocks. -/
structure BhI (xs : List Blk) (v n : Nat) (lv0 lv : Nat → Bool) (b : Nat) (gr : Bool) : Prop where
  snd : ∀ z, z < n → lv z = true → Lbe xs v z
  here : ∀ z, z < n → barB xs z v = 1 → lv z = true
  no : gr = false → (∀ z, z < n → lv z = lv0 z) ∧ ∀ z, z < b → barB xs z v = 0 → ∀ t ∈ tgN xs z, lv t = true → phiB xs t v = false → lv z = true
  yes : gr = true → cntB lv0 n < cntB lv n ∧ 0 < cntB lv0 n
theorem BhI.start {xs : List Blk} {v n : Nat} {lv : Nat → Bool} (h1 : ∀ z, z < n → lv z = true → Lbe xs v z) (h2 : ∀ z, z < n → barB xs z v = 1 → lv z = true) : BhI xs v n lv lv 0 false :=
  ⟨h1, h2, fun _ => ⟨fun _ _ => rfl, fun z hz => absurd hz (by omega)⟩, fun h => by cases h⟩
theorem BhI.set {xs : List Blk} {v n b t : Nat} {lv0 lv : Nat → Bool} {gr : Bool} (h : BhI xs v n lv0 lv b gr) (hn : n = xs.length) (hb : b < n) (ht : t ∈ tgN xs b) (htn : t < n) (h0 : barB xs b v = 0) (hl : lv b = false) (h1 : lv t = true) (h2 : phiB xs t v = false) : BhI xs v n lv0 (fun z => if z = b then true else lv z) b true := by
  refine ⟨fun z hz he => ?_, fun z hz he => ?_, fun e => (by cases e), fun _ => ?_⟩
  · by_cases e : z = b
    · subst e
      exact Lbe.step (by omega) h0 ht h2 (h.snd t htn h1)
    · simp only [e, if_false] at he
      exact h.snd z hz he
  · by_cases e : z = b
    · simp [e]
    · simp only [e, if_false]
      exact h.here z hz he
  · rw [cntB_set hl n hb]
    cases hg : gr with
    | false =>
      have e := cntB_congr (h.no hg).1
      rw [e]
      refine ⟨by omega, ?_⟩
      rw [← e]
      exact cntB_pos htn h1
    | true =>
      have := h.yes hg
      omega
theorem BhI.next {xs : List Blk} {v n b : Nat} {lv0 lv : Nat → Bool} {gr : Bool} (h : BhI xs v n lv0 lv b gr) (hc : gr = false → barB xs b v = 0 → ∀ t ∈ tgN xs b, lv t = true → phiB xs t v = false → lv b = true) : BhI xs v n lv0 lv (b + 1) gr :=
  ⟨h.snd, h.here, fun e => ⟨(h.no e).1, fun z hz => by
    by_cases e2 : z = b
    · subst e2; exact hc e
    · exact (h.no e).2 z (by omega)⟩, h.yes⟩
theorem BhI.done {xs : List Blk} {v n : Nat} {lv0 lv : Nat → Bool} (h : BhI xs v n lv0 lv n false) (hn : n = xs.length) : ∀ b, b < n → (lv b = true ↔ Lbe xs v b) := by
  subst hn
  exact fun b hb => mark_done h.snd h.here (h.no rfl).2 hb
end Go.Proofs.YtjfcbjomfbfoiaaGreatDoor

namespace Go.Proofs.YtjfcbjomfbfoiaaGreatDoor
open Go.RowKit
/-- The two rows of marks. -/
structure BhW (w wr : World) (n : Nat) (lv op : Nat → Bool) : Prop where
  low : Below w.heap.size w wr
  r1 : wr.rowIs w.heap.size 4 n (fun b => .bool (lv b))
  r2 : wr.rowIs (w.heap.size + 1) 4 n (fun b => .bool (op b))
  sz : w.heap.size + 2 ≤ wr.heap.size
section
variable {w wr wr' : World} {n : Nat} {lv op : Nat → Bool}
theorem BhW.below (h : BhW w wr n lv op) (k : Below wr.heap.size wr wr') : BhW w wr' n lv op :=
  ⟨bnext h.low k, h.r1.of_block (k.block _ h.r1.lt), h.r2.of_block (k.block _ h.r2.lt), Nat.le_trans h.sz k.size⟩
theorem BhW.congr {lv' op' : Nat → Bool} (h : BhW w wr n lv op) (e1 : ∀ z, z < n → lv z = lv' z) (e2 : ∀ z, z < n → op z = op' z) : BhW w wr n lv' op' := ⟨h.low, row_as (C := Value.bool) h.r1 e1, row_as (C := Value.bool) h.r2 e2, h.sz⟩
theorem BhW.set1 (h : BhW w wr n lv op) (b : Nat) (q : Bool) : BhW w (wr.setCell ⟨w.heap.size, b, none⟩ (.bool q)) n (fun z => if z = b then q else lv z) op :=
  ⟨h.low.setCell (Nat.le_refl _) _, row_set (C := Value.bool) h.r1 b q, h.r2.setOther (by show w.heap.size + 1 ≠ w.heap.size; omega) _, by rw [size_setCell]; exact h.sz⟩
theorem BhW.set2 (h : BhW w wr n lv op) (b : Nat) (q : Bool) : BhW w (wr.setCell ⟨w.heap.size + 1, b, none⟩ (.bool q)) n lv (fun z => if z = b then q else op z) :=
  ⟨h.low.setCell (by show w.heap.size ≤ w.heap.size + 1; omega) _, h.r1.setOther (by show w.heap.size ≠ w.heap.size + 1; omega) _, row_set (C := Value.bool) h.r2 b q, by rw [size_setCell]; exact h.sz⟩
end
/-- Rounds that are left, against how many are marked. -/
def RnI (xs : List Blk) (v n k : Nat) (lv : Nat → Bool) : Prop := (∀ z, z < n → lv z = true → Lbe xs v z) ∧ (∀ z, z < n → barB xs z v = 1 → lv z = true) ∧ (n < k + cntB lv n ∨ (k = n ∧ cntB lv n = 0))
def BhR (w wr : World) (xs : List Blk) (v n : Nat) (lv op : Nat → Bool) (gr : Value) (b : Nat) : Prop := ∃ (g : Bool) (lv' : Nat → Bool), gr = .bool g ∧ BhW w wr n lv' op ∧ BhI xs v n lv lv' b g
def BhJ (w wr : World) (xs : List Blk) (v n : Nat) (lv op : Nat → Bool) (gr : Value) (b j : Nat) : Prop := ∃ (g : Bool) (lv' : Nat → Bool), gr = .bool g ∧ BhW w wr n lv' op ∧ BhI xs v n lv lv' b g ∧ (lv' b = false → ∀ r, r < j → ∀ t, (tgN xs b)[r]? = some t → ¬ (lv' t = true ∧ phiB xs t v = false))
set_option maxHeartbeats 4000000 in
set_option maxRecDepth 100000 in
theorem behind_any (V v n c bf of : Nat) (xs : List Blk) (w : World) (hF : Hid (FactsAt w (some ⟨bf, of, none⟩) xs)) (hx : Hid (n = xs.length)) (ho : Hid (OkL V xs)) :
    Calls Tryz.prog 28 #[.slice (some ⟨bf, of, none⟩) n c, .int .i64 (v : Int)] w fun e w' => ∃ g, e = .returned (.slice (some ⟨g, 0, none⟩) n n) ∧ Below w.heap.size w w' ∧ w.heap.size ≤ g ∧ ∃ lv : Nat → Bool, w'.rowIs g 4 n (fun b => .bool (lv b)) ∧ ∀ b, b < n → (lv b = true ↔ Lbe xs v b) := by
  have hn : n ≤ 1000 := by have := hx.out; have := ho.out.okf.n2; omega
  have hn0 : 0 < n := by have := hx.out; have := ho.out.okf.n1; omega
  have hmk := run_make_row' (P := Tryz.prog) 49 4 (.bool false) 1 Tryz.underlying49 Tryz.infoBo rfl .i64 .i64 n (by omega) (by omega)
  have HR1 := hide (World.rowIs_made w (.bool false) n 4)
  have HR2 := hide (World.rowIs_made (w.alloc (.cells (madeCells #[.bool false] n) 4)) (.bool false) n 4)
  go_enter Tryz.func28, Tryz.ntmps28
  go_wp2_with fail
  have HW0 : Hid (BhW w ((w.alloc (.cells (madeCells #[.bool false] n) 4)).alloc (.cells (madeCells #[.bool false] n) 4)) n (fun z => decide (z < 0) && decide (barB xs z v = 1)) (fun z => decide (z < 0) && decide (barB xs z v = 0))) := hide ⟨balloc (balloc (Below.refl _ _) _) _, row_as (C := Value.bool) (HR1.out.alloc _) (fun z _ => by simp), row_as (C := Value.bool) (by have := HR2.out; rwa [World.size_alloc] at this) (fun z _ => by simp), by simp⟩
  clear HR1 HR2 hmk
  generalize (w.alloc (.cells (madeCells #[.bool false] n) 4)).alloc (.cells (madeCells #[.bool false] n) 4) = w2 at *
  go_loopw [7] (fun i wr => ∃ b : Nat, b ≤ n ∧ i = .int .i64 b ∧ Hid (BhW w wr n (fun z => decide (z < b) && decide (barB xs z v = 1)) (fun z => decide (z < b) && decide (barB xs z v = 0)))) (fun i _ => n - (intOf i).toNat)
  case atStart => exact ⟨0, Nat.zero_le _, rfl, HW0⟩
  case round =>
    clear HW0
    obtain ⟨b, hb, rfl, HW⟩ := hrel
    by_cases hlt : b < n
    · obtain ⟨a0, n0, a1, n1, a2, n2, a3, n3, a4, n4, a5, n5, c0, c1, c2, c3, c4, c5, hbf, x0, x1, x2, x3, x4, x5, _, _, _, _, _, hfc⟩ := FactsAt.row ho.out hF.out HW.out.low (show b < xs.length by have := hx.out; omega)
      have HBR := hide (hfc.bare v)
      clear hfc
      go_wp2_with fail
      refine HBR.out.mono ?_
      rintro e w3 ⟨rfl, hb3⟩
      have HW3 := hide (HW.out.below hb3)
      have k1 := HW3.out.r1.cell hlt
      have k2 := HW3.out.r2.cell hlt
      have z1 := HW3.out.r1.frozen b
      have z2 := HW3.out.r2.frozen b
      clear hb3 HBR x0 x1 x2 x3 x4 x5
      obtain ⟨q1, hq1⟩ : ∃ q : Bool, (((barB xs b v : Nat) : Int) == 1) = q := ⟨_, rfl⟩
      obtain ⟨q2, hq2⟩ : ∃ q : Bool, (((barB xs b v : Nat) : Int) == 0) = q := ⟨_, rfl⟩
      have HQ : Hid (q1 = decide (barB xs b v = 1) ∧ q2 = decide (barB xs b v = 0)) := hide (by
        rw [← hq1, ← hq2]
        constructor
        · rw [Bool.eq_iff_iff, beq_iff_eq, decide_eq_true_eq]; omega
        · rw [Bool.eq_iff_iff, beq_iff_eq, decide_eq_true_eq]; omega)
      have k2' : ∀ u, (w3.setCell ⟨w.heap.size, b, none⟩ u).cell? ⟨w.heap.size + 1, b, none⟩ = w3.cell? ⟨w.heap.size + 1, b, none⟩ := fun u => World.cell?_of_block (Below.heap_setCell _ _ _ _ (by show w.heap.size + 1 ≠ w.heap.size; omega))
      go_wp2_with fail
      exact ⟨⟨b + 1, by omega, by go_num, hide (((HW3.out.set1 b q1).set2 b q2).congr (fun z hz => by
        by_cases e : z = b
        · subst e; simp [HQ.out.1]
        · have : z < b + 1 ↔ z < b := by omega
          simp [e, this]) (fun z hz => by
        by_cases e : z = b
        · subst e; simp [HQ.out.2]
        · have : z < b + 1 ↔ z < b := by omega
          simp [e, this]))⟩, by simp [intOf]; omega⟩
    · have hbe : n = b := by omega
      have HW1 : Hid (BhW w wr n (fun z => decide (barB xs z v = 1)) (fun z => decide (barB xs z v = 0))) := hide (HW.out.congr (fun z hz => by simp [← hbe, hz]) (fun z hz => by simp [← hbe, hz]))
      subst hbe
      clear HW
      have HRN : Hid (RnI xs v n n (fun z => decide (barB xs z v = 1))) := hide ⟨fun z hz h => Lbe.here (by have := hx.out; omega) (of_decide_eq_true h), fun z _ h => decide_eq_true h, by omega⟩
      go_wp2_with fail
      generalize (fun z => decide (barB xs z v = 1)) = lv0 at *
      generalize hop : (fun z => decide (barB xs z v = 0)) = op0 at *
      have HOP : Hid (∀ z, op0 z = decide (barB xs z v = 0)) := hide (fun z => by rw [← hop])
      clear hop
      generalize wr = w5 at *
      go_loopw [9] (fun r wr => ∃ (k : Nat) (lv : Nat → Bool), k ≤ n ∧ r = .int .i64 k ∧ Hid (BhW w wr n lv op0) ∧ Hid (RnI xs v n k lv)) (fun r _ => (intOf r).toNat)
      case atStart => exact ⟨n, lv0, Nat.le_refl _, rfl, HW1, HRN⟩
      case round =>
        clear HW1 HRN
        obtain ⟨k, lv, hk, rfl, HW1, HRN⟩ := hrel
        have hk0 : 0 < k := by
          have h1 := HRN.out.2.2
          have h2 := cntB_le lv n
          omega
        have HBI : Hid (BhR w wr xs v n lv op0 (.bool false) 0) := hide ⟨false, lv, rfl, HW1.out, BhI.start HRN.out.1 HRN.out.2.1⟩
        clear HW1
        go_wp2_with fail
        generalize wr = w6 at *
        go_loopw [10, 11] (fun gr bb wr => ∃ b : Nat, b ≤ n ∧ bb = .int .i64 b ∧ Hid (BhR w wr xs v n lv op0 gr b)) (fun _ bb _ => n - (intOf bb).toNat)
        case atStart => exact ⟨0, Nat.zero_le _, rfl, HBI⟩
        case round =>
          clear HBI
          obtain ⟨b, hb, rfl, HBI⟩ := hrel
          by_cases hlt : b < n
          · have hbx : b < xs.length := by have := hx.out; omega
            obtain ⟨a0, n0, a1, n1, a2, n2, a3, n3, a4, n4, a5, n5, c0, c1, c2, c3, c4, c5, hbf, y0, _, _, _, _, _, hn0', _, _, _, _, hfc⟩ := FactsAt.row ho.out hF.out (Below.refl w.heap.size w) hbx
            have HT := hide hfc.t
            clear hfc
            have HBJ : Hid (BhJ w wr xs v n lv op0 u10 b 0) := hide (by
              obtain ⟨g, lv', e, h1, h2⟩ := HBI.out
              exact ⟨g, lv', e, h1, h2, fun _ r hr => absurd hr (by omega)⟩)
            clear HBI
            go_wp2_with fail
            generalize wr = w7 at *
            go_loopw [10, 12] (fun gr jj wr => ∃ j : Nat, j ≤ n0 ∧ jj = .int .i64 j ∧ Hid (BhJ w wr xs v n lv op0 gr b j)) (fun _ jj _ => n0 - (intOf jj).toNat)
            case atStart => exact ⟨0, Nat.zero_le _, rfl, HBJ⟩
            case round =>
              clear HBJ
              obtain ⟨j, hj, rfl, HBJ⟩ := hrel
              obtain ⟨g, lv', rfl, hW, hI, hJ⟩ := HBJ.out
              have HW := hide hW
              have HI := hide hI
              have HJ := hide hJ
              have k0 := (hW.low.cell (p := ⟨bf, of + b * 6, none⟩) hbf).trans y0
              have k1 := hW.r1.cell hlt
              have k2 := hW.r2.cell hlt
              clear HBJ hW hI hJ
              by_cases hop : barB xs b v = 0
              · have ho1 : op0 b = true := by rw [HOP.out]; exact decide_eq_true hop
                rw [ho1] at k2
                cases hlb : lv' b with
                | true =>
                  rw [hlb] at k1
                  have HNX : Hid (BhR w wr xs v n lv op0 (.bool g) (b + 1)) := hide ⟨g, lv', rfl, HW.out, HI.out.next (fun _ _ _ _ _ _ => hlb)⟩
                  clear hlb ho1
                  go_wp2_with fail
                  exact ⟨⟨b + 1, by omega, by go_num, HNX⟩, by simp [intOf]; omega⟩
                | false =>
                  rw [hlb] at k1
                  by_cases hjn : j < n0
                  · have hjt : j < (tgN xs b).length := by rw [← HT.out.1]; exact hjn
                    have hjI : j < (natI (tgN xs b)).length := by simp [natI]; exact hjt
                    obtain ⟨bt, ot, rfl, ⟨_, hbt⟩, hct⟩ := HT.out.2 j hjI
                    have ect : (natI (tgN xs b))[j] = (((tgN xs b)[j] : Nat) : Int) := by simp [natI]
                    rw [ect] at hct
                    have htg := List.getElem_mem hjt
                    have htx := ho.out.okf.tg _ hbx _ htg
                    have HGE : Hid ((tgN xs b)[j]? = some (tgN xs b)[j]) := hide (List.getElem?_eq_getElem hjt)
                    obtain ⟨t, ht⟩ : ∃ t, t = (tgN xs b)[j] := ⟨_, rfl⟩
                    rw [← ht] at hct htg htx HGE
                    have HTG := hide htg
                    have htn : t < n := by have := hx.out; omega
                    have kt := (HW.out.low.cell (p := ⟨bt, ot + j, none⟩) hbt).trans hct
                    have kl := HW.out.r1.cell htn
                    obtain ⟨d0, m0, d1, m1, d2, m2, d3, m3, d4, m4, d5, m5, f0, f1, f2, f3, f4, f5, _, _, t1, _, _, _, _, _, hm1, _, _, _, hft⟩ := FactsAt.row ho.out hF.out HW.out.low htx
                    have HHP := hide (l1Has_any d1 m1 f1 (v : Int) (phL xs t) 0 w.heap.size wr (hide hft.p.2) (hide hft.p.1) (by omega))
                    have HPB : Hid (phiB xs t v = hasI (phL xs t) (v : Int)) := hide (phiB_eq xs t v)
                    clear hct htg ht ect hft
                    cases hlt' : lv' t with
                    | false =>
                      rw [hlt'] at kl
                      have HNX : Hid (BhJ w wr xs v n lv op0 (.bool g) b (j + 1)) := hide ⟨g, lv', rfl, HW.out, HI.out, fun h r hr z hz => by
                        by_cases e : r = j
                        · subst e
                          rw [HGE.out] at hz
                          injection hz with hz
                          subst hz
                          rw [hlt']
                          exact fun h => by cases h.1
                        · exact HJ.out h r (by omega) z hz⟩
                      clear hlt' hlb ho1
                      go_wp2_with fail
                      exact ⟨⟨j + 1, by omega, by go_num, HNX⟩, by simp [intOf]; omega⟩
                    | true =>
                      rw [hlt'] at kl
                      have HLT := hide hlt'
                      have HLB := hide hlb
                      have HP0 := hide hop
                      have z1 := HW.out.r1.frozen b
                      clear hlt' hlb ho1 hop
                      go_wp2_with fail
                      refine HHP.out.mono ?_
                      rintro e w8 ⟨rfl, hw8⟩
                      subst hw8
                      cases hph : hasI (phL xs t) (v : Int) with
                      | true =>
                        have HNX : Hid (BhJ w w8 xs v n lv op0 (.bool g) b (j + 1)) := hide ⟨g, lv', rfl, HW.out, HI.out, fun h r hr z hz => by
                          by_cases e : r = j
                          · subst e
                            rw [HGE.out] at hz
                            injection hz with hz
                            subst hz
                            rw [HPB.out, hph]
                            exact fun h => by cases h.2
                          · exact HJ.out h r (by omega) z hz⟩
                        clear hph
                        go_wp2_with fail
                        refine ⟨?_, by simp [intOf]; omega⟩
                        first
                          | exact ⟨j + 1, by omega, by go_num, HNX⟩
                          | ((repeat apply Exists.intro); refine ⟨?_, rfl⟩; exact ⟨j + 1, by omega, by go_num, HNX⟩)
                      | false =>
                        have HNX : Hid (BhJ w (w8.setCell ⟨w.heap.size, b, none⟩ (.bool true)) xs v n lv op0 (.bool true) b (j + 1)) := hide ⟨true, _, rfl, HW.out.set1 b true, HI.out.set hx.out hlt HTG.out htn HP0.out HLB.out HLT.out (by rw [HPB.out]; exact hph), fun h => by simp at h⟩
                        clear hph
                        go_wp2_with fail
                        refine ⟨?_, by simp [intOf]; omega⟩
                        first
                          | exact ⟨j + 1, by omega, by go_num, HNX⟩
                          | ((repeat apply Exists.intro); refine ⟨?_, rfl⟩; exact ⟨j + 1, by omega, by go_num, HNX⟩)
                  · have HNX : Hid (BhR w wr xs v n lv op0 (.bool g) (b + 1)) := hide ⟨g, lv', rfl, HW.out, HI.out.next (fun _ _ t ht h1 h2 => by
                      obtain ⟨r, hr, e⟩ := List.getElem_of_mem ht
                      exact absurd ⟨h1, h2⟩ (HJ.out hlb r (by have := HT.out.1; omega) t (by rw [List.getElem?_eq_getElem hr, e])))⟩
                    clear hlb ho1
                    go_wp2_with fail
                    exact ⟨⟨b + 1, by omega, by go_num, HNX⟩, by simp [intOf]; omega⟩
              · have ho1 : op0 b = false := by rw [HOP.out]; exact decide_eq_false hop
                rw [ho1] at k2
                have HNX : Hid (BhR w wr xs v n lv op0 (.bool g) (b + 1)) := hide ⟨g, lv', rfl, HW.out, HI.out.next (fun _ h => absurd h hop)⟩
                clear ho1 hop
                go_wp2_with fail
                exact ⟨⟨b + 1, by omega, by go_num, HNX⟩, by simp [intOf]; omega⟩
          · have hbe : b = n := by omega
            subst hbe
            obtain ⟨g, lv', rfl, hW, hI⟩ := HBI.out
            have HW := hide hW
            have HI := hide hI
            clear HBI hW hI
            cases g with
            | true =>
              have HRN2 : Hid (RnI xs v b (k - 1) lv') := hide ⟨HI.out.snd, HI.out.here, by
                have h1 := HI.out.yes rfl
                have h2 := HRN.out.2.2
                have h3 := cntB_le lv' b
                omega⟩
              go_wp2_with fail
              exact ⟨⟨k - 1, lv', by omega, by go_num, HW, HRN2⟩, by simp [intOf]; omega⟩
            | false =>
              go_wp2_with fail
              go_ret
              exact ⟨w.heap.size, rfl, HW.out.low, Nat.le_refl _, lv', HW.out.r1, HI.out.done hx.out⟩
end Go.Proofs.YtjfcbjomfbfoiaaGreatDoor
