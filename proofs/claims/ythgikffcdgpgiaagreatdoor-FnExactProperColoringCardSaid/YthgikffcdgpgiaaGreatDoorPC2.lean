import Derived.Test.YthgikffcdgpgiaaGreatDoorZP0
import Derived.Test.YthgikffcdgpgiaaGreatDoorVI0
import Derived.Test.YthgikffcdgpgiaaGreatDoorZM1
import Derived.Test.YthgikffcdgpgiaaGreatDoorVI1
namespace Go.Proofs.YthgikffcdgpgiaaGreatDoor
open Go.RowKit Go.Shelf
attribute [local go_sem] Oper.semAt_some
theorem leaves_zero {F : Fence} {n : Nat} {P : Program} {fn : Func} {tmps : Array Value} {R : Ending → World → Prop} {W : World} (h : ∃ v, (results fn tmps).run P W = .ok v W ∧ R (.returned v) W) : LeavesInM F n P fn tmps R [] .returning W := h
theorem valid_ofV {v : Int} {xs : List Blk} (h : verdP v xs = 0) : validI ⟨v, xs⟩ = true := by
  cases hv : validI ⟨v, xs⟩ with
  | true => rfl
  | false => rw [verdP_bad hv] at h; exact absurd h (by decide)
/-- The first q colours are colours. -/
def okK (cs : List Int) (k : Int) (q : Nat) : Prop := ∀ i (h : i < cs.length), i < q → 0 ≤ cs[i] ∧ cs[i] < k
theorem okK_zero (cs : List Int) (k : Int) : okK cs k 0 := fun i _ h => absurd h (by omega)
theorem okK_succ {cs : List Int} {k : Int} {q : Nat} (h : okK cs k q) (hq : q < cs.length) (h2 : 0 ≤ cs[q] ∧ cs[q] < k) : okK cs k (q + 1) := fun i hi hq' => by
  by_cases e : i = q
  · subst e; exact h2
  · exact h i hi (by omega)
theorem okK_all {cs : List Int} {k : Int} (h : okK cs k cs.length) : ∀ c ∈ cs, 0 ≤ c ∧ c < k := fun c hc => by
  obtain ⟨i, hi, rfl⟩ := List.getElem_of_mem hc
  exact h i hi hi
theorem pc_colorI {v : Int} {xs : List Blk} {cs : List Int} {k : Int} {q : Nat} (hq : q < cs.length) (h : ¬ (0 ≤ cs[q] ∧ cs[q] < k)) : ¬ pcQ v xs cs k := fun h2 => h (h2.2.2.2.2.1 _ (List.getElem_mem hq))
/-- While the sets are gone through. -/
structure PcI (w3 : World) (p : Nat) (cs : List Int) (pre : List Sd) (V : World) : Prop where
  low : Below w3.heap.size w3 V
  ok : ∀ s ∈ pre, ((sdW p s).map (colD cs)).Nodup
/-- Where two of a set share a colour. -/
structure PcX (w3 : World) (Br p : Nat) (cs : List Int) (pre : List Sd) (V : World) : Prop where
  os : V.os = w3.os
  tape : V.tape = w3.tape
  output : V.output = w3.output
  size : w3.heap.size ≤ V.heap.size
  bl : Br < w3.heap.size
  fr : ∀ q, q < w3.heap.size → q ≠ Br → V.heap[q]? = w3.heap[q]?
  row : V.rowIs Br 4 1 (fun _ => .bool false)
  bad : ∃ s ∈ pre, ¬ ((sdW p s).map (colD cs)).Nodup
section
variable {w3 V V' : World} {Br p : Nat} {cs : List Int} {pre : List Sd}
theorem PcI.far (h : PcI w3 p cs pre V) (k : Below w3.heap.size V V') : PcI w3 p cs pre V' := ⟨h.low.trans k, h.ok⟩
theorem PcI.own (w3 : World) (p : Nat) (cs : List Int) : OwnFrom w3.heap.size (PcI w3 p cs) := fun pre V V' row h k q => by
  have := h.low.size
  exact h.far ⟨k.os, k.tape, k.output, k.size, fun b hb => k.block b (by omega) (fun e => by have := (q b e.symm).1; omega)⟩
theorem PcX.far (h : PcX w3 Br p cs pre V) (k : Below w3.heap.size V V') : PcX w3 Br p cs pre V' :=
  ⟨k.os.trans h.os, k.tape.trans h.tape, k.output.trans h.output, Nat.le_trans h.size k.size, h.bl, fun q q1 q2 => (k.block q q1).trans (h.fr q q1 q2), h.row.of_block (k.block _ h.bl), h.bad⟩
theorem PcX.own (w3 : World) (Br p : Nat) (cs : List Int) : OwnFrom w3.heap.size (PcX w3 Br p cs) := fun pre V V' row h k q => by
  have := h.size
  exact h.far ⟨k.os, k.tape, k.output, k.size, fun b hb => k.block b (by omega) (fun e => by have := (q b e.symm).1; omega)⟩
end
theorem colR_iff {cs : List Int} {k : Int} {l : List Nat} (h : ∀ c ∈ cs, 0 ≤ c ∧ c < k) (hl : ∀ u ∈ l, u < cs.length) (c : Nat) : colR cs l c ↔ ∃ v ∈ l, colD cs v = c := by
  unfold colR colD colI
  constructor
  · rintro ⟨v, h1, h2⟩
    refine ⟨v, h1, ?_⟩
    rw [List.getD_eq_getElem?_getD, h2]
    rfl
  · rintro ⟨v, h1, h2⟩
    refine ⟨v, h1, ?_⟩
    rw [List.getD_eq_getElem?_getD, List.getElem?_eq_getElem (hl v h1), Option.getD_some] at h2
    rw [List.getElem?_eq_getElem (hl v h1)]
    have := (h _ (List.getElem_mem (hl v h1))).1
    exact congrArg some (by omega)
theorem colD_lt {cs : List Int} {kk : Nat} (h : ∀ c ∈ cs, 0 ≤ c ∧ c < (kk : Int)) {v : Nat} (hv : v < cs.length) : colD cs v < kk := by
  unfold colD colI
  rw [List.getD_eq_getElem?_getD, List.getElem?_eq_getElem hv, Option.getD_some]
  have := h _ (List.getElem_mem hv)
  omega
set_option maxHeartbeats 4000000 in
set_option maxRecDepth 100000 in
theorem pcI_any (v : Int) (a : Option Addr) (n c : Nat) (xs : List Blk) (L B : Nat) (ac : Option Addr) (nc cc : Nat) (cs : List Int) (Lc Bc : Nat) (k : Int) (w : World) (ha : Hid (BlksAt w L B a xs)) (hx : Hid (n = xs.length)) (hs : Hid (xs.length + blksTot xs ≤ 1048576)) (hB : B ≤ w.heap.size) (hO : Hid (OpTabW w)) (hT : Hid (TerTabW w)) (hZ : Hid (TzTab w)) (hc : Hid (IntsAt w Lc Bc ac cs)) (hcx : Hid (nc = cs.length)) (hBc : Bc ≤ w.heap.size) (hnc : nc ≤ 1048576) :
    Calls Tryz.prog 16 #[.agg #[.int .i64 v, .slice a n c], .slice ac nc cc, .int .i64 k] w fun e w' => e = .returned (.bool (pcB v xs cs k)) ∧ Below w.heap.size w w' := by
  have HVD := hide (fun W (hb : Below w.heap.size w W) => verdictI_any v a n c xs L B W (hide (ha.out.keep (hb.mono hB))) hx hs (by have := hb.size; omega) (hide (hO.out.keep hb hO.out.1)) (hide (hT.out.keep hb hT.out.1)))
  obtain ⟨vd, hvd⟩ : ∃ vd, vd = verdP v xs := ⟨_, rfl⟩
  rw [← hvd] at HVD
  have HVd := hide hvd
  clear hvd
  refine (callsIn_wide (n := 10)).1 ?_
  refine callsIn_of_wp_marks Tryz.func16 rfl trivial ?_ rfl
  simp only [Tryz.ntmps16, List.size_toArray, List.length_cons, List.length_nil, Nat.reduceAdd, Nat.reduceSub, Array.replicate_succ, Array.replicate_zero, List.push_toArray, List.append_toArray, List.nil_append, List.cons_append]
  gi_wp2
  have hb0 : Below w.heap.size w ((((w.alloc (.cells #[.int .i64 v, .slice a n c] 32)).alloc (.cells #[.slice ac nc cc] 26)).alloc (.cells #[.int .i64 k] 2)).alloc (.cells #[.bool false] 4)) := balloc (balloc (balloc (balloc (Below.refl _ _) _) _) _) _
  have hs0 : w.heap.size + 4 ≤ ((((w.alloc (.cells #[.int .i64 v, .slice a n c] 32)).alloc (.cells #[.slice ac nc cc] 26)).alloc (.cells #[.int .i64 k] 2)).alloc (.cells #[.bool false] 4)).heap.size := by simp
  have c0 : ((((w.alloc (.cells #[.int .i64 v, .slice a n c] 32)).alloc (.cells #[.slice ac nc cc] 26)).alloc (.cells #[.int .i64 k] 2)).alloc (.cells #[.bool false] 4)).cell? ⟨w.heap.size, 0, none⟩ = some (.int .i64 v) := by simp [go_sem]
  have c1 : ((((w.alloc (.cells #[.int .i64 v, .slice a n c] 32)).alloc (.cells #[.slice ac nc cc] 26)).alloc (.cells #[.int .i64 k] 2)).alloc (.cells #[.bool false] 4)).cell? ⟨w.heap.size, 1, none⟩ = some (.slice a n c) := by simp [go_sem]
  have c2 : ((((w.alloc (.cells #[.int .i64 v, .slice a n c] 32)).alloc (.cells #[.slice ac nc cc] 26)).alloc (.cells #[.int .i64 k] 2)).alloc (.cells #[.bool false] 4)).cell? ⟨w.heap.size + 1, 0, none⟩ = some (.slice ac nc cc) := by simp [go_sem]
  have c3 : ((((w.alloc (.cells #[.int .i64 v, .slice a n c] 32)).alloc (.cells #[.slice ac nc cc] 26)).alloc (.cells #[.int .i64 k] 2)).alloc (.cells #[.bool false] 4)).cell? ⟨w.heap.size + 2, 0, none⟩ = some (.int .i64 k) := by simp [go_sem]
  have HR0 : Hid (((((w.alloc (.cells #[.int .i64 v, .slice a n c] 32)).alloc (.cells #[.slice ac nc cc] 26)).alloc (.cells #[.int .i64 k] 2)).alloc (.cells #[.bool false] 4)).rowIs (w.heap.size + 3) 4 1 (fun _ => .bool false)) := hide (by
    have h := World.rowIs_alloc (((w.alloc (.cells #[.int .i64 v, .slice a n c] 32)).alloc (.cells #[.slice ac nc cc] 26)).alloc (.cells #[.int .i64 k] 2)) #[.bool false] 4 (fun _ => .bool false) (fun i hi => by match i, hi with | 0, _ => rfl)
    rw [World.size_alloc, World.size_alloc, World.size_alloc] at h
    exact h)
  generalize (((w.alloc (.cells #[.int .i64 v, .slice a n c] 32)).alloc (.cells #[.slice ac nc cc] 26)).alloc (.cells #[.int .i64 k] 2)).alloc (.cells #[.bool false] 4) = w0 at *
  refine ⟨trivial, (callsIn_wide.2 (HVD.out w0 hb0)).mono ?_⟩
  rintro e w1 ⟨rfl, hb1⟩
  have hs1 := hb1.size
  have k0 := (hb1.cell (p := ⟨w.heap.size, 0, none⟩) (by show w.heap.size < _; omega)).trans c0
  have k1 := (hb1.cell (p := ⟨w.heap.size, 1, none⟩) (by show w.heap.size < _; omega)).trans c1
  have k2 := (hb1.cell (p := ⟨w.heap.size + 1, 0, none⟩) (by show w.heap.size + 1 < _; omega)).trans c2
  have k3 := (hb1.cell (p := ⟨w.heap.size + 2, 0, none⟩) (by show w.heap.size + 2 < _; omega)).trans c3
  have HR1 := hide (HR0.out.of_block (hb1.block _ (by omega)))
  have k4 := HR1.out.cell (i := 0) (by decide)
  have k5 := HR1.out.frozen 0
  have HB1 := hide (bnext hb0 hb1)
  have HEX : Hid (pcB v xs cs k = false → (w1.setCell ⟨w.heap.size + 3, 0, none⟩ (.bool false)).cell? ⟨w.heap.size + 3, 0, none⟩ = some (.bool (pcB v xs cs k)) ∧ Below w.heap.size w (w1.setCell ⟨w.heap.size + 3, 0, none⟩ (.bool false))) := hide (fun h => by
    refine ⟨?_, HB1.out.setCell (by show w.heap.size ≤ w.heap.size + 3; omega) _⟩
    rw [h]
    simpa using (HR1.out.set 0 (.bool false)).cell (i := 0) (by decide))
  clear hb1 hb0 c0 c1 c2 c3 HVD HR0
  by_cases hv : vd = 0
  case neg =>
    have HN := hide (HEX.out (pcB_no (v := v) (xs := xs) (cs := cs) (k := k) (fun h => hv (HVd.out.trans h.1))))
    have hv1 : (vd != 0) = true := by rw [bne_iff_ne]; exact hv
    gi_wp2
    have hres := HN.out.1
    exact leaves_zero ⟨.bool (pcB v xs cs k), by simp [results, Tryz.results16, go_sem, hres], rfl, HN.out.2⟩
  subst hv
  by_cases hk0 : k < 0
  · have HN := hide (HEX.out (pcB_no (v := v) (xs := xs) (cs := cs) (k := k) (fun h => by have := h.2.1; omega)))
    gi_wp2
    have hres := HN.out.1
    exact leaves_zero ⟨.bool (pcB v xs cs k), by simp [results, Tryz.results16, go_sem, hres], rfl, HN.out.2⟩
  by_cases hk1 : 2000 < k
  · have HN := hide (HEX.out (pcB_no (v := v) (xs := xs) (cs := cs) (k := k) (fun h => by have := h.2.2.1; omega)))
    gi_wp2
    have hres := HN.out.1
    exact leaves_zero ⟨.bool (pcB v xs cs k), by simp [results, Tryz.results16, go_sem, hres], rfl, HN.out.2⟩
  by_cases hlv : (nc : Int) = v
  case neg =>
    have HN := hide (HEX.out (pcB_no (v := v) (xs := xs) (cs := cs) (k := k) (fun h => hlv (by rw [hcx.out]; exact h.2.2.2.1))))
    have hv1 : ((nc : Int) != v) = true := by rw [bne_iff_ne]; exact hlv
    gi_wp2
    have hres := HN.out.1
    exact leaves_zero ⟨.bool (pcB v xs cs k), by simp [results, Tryz.results16, go_sem, hres], rfl, HN.out.2⟩
  subst hlv
  have hv1 : ((nc : Int) != (nc : Int)) = false := by simp
  have HOK : Hid (OkL nc xs) := hide (okL_of_valid (valid_ofV HVd.out.symm))
  have hVl := HOK.out.vle
  have HC1 : Hid (∀ (q : Nat) (h : q < nc), ∃ b o, ac = some ⟨b, o, none⟩ ∧ w1.cell? ⟨b, o + q, none⟩ = some (.int .i64 (colI cs q)) ∧ ∃ h : q < cs.length, colI cs q = cs[q]) := hide (fun q hq => by
    have hq' : q < cs.length := by rw [← hcx.out]; exact hq
    obtain ⟨b, o, e, hb, h⟩ := hc.out q hq'
    have e2 : colI cs q = cs[q] := by
      unfold colI
      rw [List.getD_eq_getElem?_getD, List.getElem?_eq_getElem hq']
      rfl
    refine ⟨b, o, e, ?_, hq', e2⟩
    rw [e2]
    exact (HB1.out.cell (p := ⟨b, o + q, none⟩) (by show b < _; omega)).trans h)
  gi_wp2
  gi_loop [30] (fun i => ∃ q : Nat, q ≤ nc ∧ i = .int .i64 q ∧ Hid (okK cs k q)) (fun i => nc - (intOf i).toNat)
  case atStart => exact ⟨0, Nat.zero_le _, rfl, hide (okK_zero _ _)⟩
  case round =>
    obtain ⟨q, hq, rfl, HQ⟩ := hrel
    by_cases hlt : q < nc
    · obtain ⟨b, o, rfl, e0, hq', eq⟩ := HC1.out q hlt
      have HNO := hide (fun h => HEX.out (pcB_no (pc_colorI (v := (nc : Int)) (xs := xs) (k := k) hq' h)))
      have HYS := hide (fun h => okK_succ HQ.out hq' h)
      rw [← eq] at HNO HYS
      clear eq HEX
      generalize colI cs q = Y at *
      have hqi : (q : Int) < (nc : Int) := by omega
      by_cases hC0 : Y < 0
      · have HN := hide (HNO.out (by omega))
        gi_wp2
        have hres := HN.out.1
        exact leaves_zero ⟨.bool (pcB (nc : Int) xs cs k), by simp [results, Tryz.results16, go_sem, hres], rfl, HN.out.2⟩
      by_cases hC1 : k ≤ Y
      · have HN := hide (HNO.out (by omega))
        gi_wp2
        have hres := HN.out.1
        exact leaves_zero ⟨.bool (pcB (nc : Int) xs cs k), by simp [results, Tryz.results16, go_sem, hres], rfl, HN.out.2⟩
      · gi_wp2
        exact ⟨⟨q + 1, by omega, by go_num, hide (HYS.out (by omega))⟩, by simp [intOf]; omega⟩
    · have hqn : q = nc := by omega
      subst hqn
      have HCA : Hid (∀ c ∈ cs, 0 ≤ c ∧ c < k) := hide (okK_all (by rw [← hcx.out]; exact HQ.out))
      clear HQ HC1 HEX k4 k5
      obtain ⟨kk, rfl⟩ := Int.eq_ofNat_of_zero_le (show 0 ≤ k by omega)
      gi_wp2
      generalize decide ((kk : Int) < 0) = d1
      generalize decide (2000 < (kk : Int)) = d2
      generalize (d1 || d2) = d3
      refine ⟨trivial, (allSides_in 9 _ _ w1).mono ?_⟩
      rintro e w3 ⟨rfl, hw3⟩
      have hb3 : Below w1.heap.size w1 w3 := by rw [hw3]; exact balloc (Below.refl _ _) _
      have hz3 : w1.heap.size + 1 ≤ w3.heap.size := by rw [hw3, World.size_alloc]; exact Nat.le_refl _
      have hf0 : w3.cell? ⟨w1.heap.size, 0, none⟩ = some (.int .i64 (q : Int)) := by rw [hw3]; simp [go_sem]
      have hf1 : w3.cell? ⟨w1.heap.size, 1, none⟩ = some (.slice a n c) := by rw [hw3]; simp [go_sem]
      have HW3 : Hid (Below w.heap.size w w3) := hide (bnext HB1.out hb3)
      have HF2 := hide ((hb3.cell (p := ⟨w.heap.size + 1, 0, none⟩) (by show w.heap.size + 1 < _; omega)).trans k2)
      have HF3 := hide ((hb3.cell (p := ⟨w.heap.size + 2, 0, none⟩) (by show w.heap.size + 2 < _; omega)).trans k3)
      have HR3 := hide (HR1.out.of_block (hb3.block _ (by omega)))
      obtain ⟨Kw, hkw⟩ : ∃ m, m = (q + 63) / 64 := ⟨_, rfl⟩
      have HKW := hide hkw
      have hKW : Kw ≤ 100 := by omega
      obtain ⟨Kr, hkr⟩ : ∃ m, m = (kk + 63) / 64 := ⟨_, rfl⟩
      have HKR := hide hkr
      have hKR : Kr ≤ 100 := by omega
      have hkK : kk ≤ 64 * Kr := by omega
      have hO1 := hO.out.1
      have hT1 := hT.out.1
      have hgt : (1 : Nat) < w.heap.size := World.block_lt_of_cell? w _ (hZ.out 0 (by decide))
      have HA3 : Hid (BlksAt w3 L B a xs) := hide (ha.out.keep (HW3.out.mono hB))
      have HO3 := hide (hO.out.keep HW3.out hO.out.1)
      have HT3 := hide (hT.out.keep HW3.out hT.out.1)
      have HF0 := hide hf0
      have HF1 := hide hf1
      have hn : n ≤ 1000 := by have := hx.out; have := HOK.out.okf.n2; omega
      clear hb3 hw3 hkw hkr hf0 hf1 k0 k1 k2 k3 HR1 hk0 hk1 hv1
      gi_wp2
      refine rangeS (F := Fence.wide) (n := 10) rfl (by decide) (gf := 66) (lb := #[.pointer (some ⟨w1.heap.size, 0, none⟩)]) rfl trivial (enters_of Tryz.func66 (by kernel_rfl) rfl) (all_seqS w3.heap.size w1.heap.size L B q n c Kw a (fun z => z = w.heap.size + 3) xs w3 HF0.out HF1.out HA3 hx (by omega) (Nat.le_refl _) HO3 HT3 (by omega) (by omega) HOK HKW (hide (fun z h1 h2 e => by omega)) (hide (fun z h1 e => by omega)) (hide (fun e => by omega)) (hide (fun e => by omega))) (fun z => sdPv_own _ _ _ z) (fun h k => h.trans k) (fun W l o o' h1 h2 h3 => KpB.putObj W l o o' (by omega) h2 h3) (Below.refl _ _) (fun _ _ => rfl)
        (fun _ => PcI w3 (64 * Kw) cs) (fun c pre V => c = .ret ∧ PcX w3 (w.heap.size + 3) (64 * Kw) cs pre V) (fun _ => PcI.own w3 _ _) (fun c s A V row h k q => ⟨h.1, PcX.own w3 _ _ _ s A V row h.2 k q⟩) (fun _ z s A A' hz h g => h.far ⟨g.os, g.tape, g.output, g.size, fun b hb => g.block b (by have := h.low.size; omega) (fun e => by injection e with e; omega)⟩) (fun _ => ⟨fun z z' s A A' _ h k => h.far (k.mono (by omega)), fun c s A A' h k => ⟨h.1, h.2.far (k.mono (by omega))⟩⟩) (fun z U _ _ hU => ⟨hU, fun s h => by simp at h⟩)
        (fun z p a' U => ∃ bp : Nat, a' = ⟨#[.agg #[.int .i64 (q : Int), .slice a n c], .slice ac q cc, .int .i64 (kk : Int), .pointer (some ⟨w.heap.size, 0, none⟩), .pointer (some ⟨w.heap.size + 1, 0, none⟩), .pointer (some ⟨w.heap.size + 1 + 1, 0, none⟩), .pointer (some ⟨w.heap.size + 1 + 1 + 1, 0, none⟩), undef, u8, .pointer (some ⟨bp, 0, none⟩), .agg #[.int .i64 (q : Int), .slice a n c], .int .i64 0, .bool false, .bool false, .int .i64 (kk : Int), .bool d1, .bool d1, .bool d1, .int .i64 (kk : Int), .bool d2, .bool d3, .bool d3, .slice ac q cc, .int .i64 (q : Int), .pointer (some ⟨w.heap.size, 0, none⟩), .int .i64 (q : Int), .bool false, .bool d3, .slice ac q cc, .int .i64 (q : Int), .int .i64 (q : Int), .bool false, u32, u33, u34, u35, u36, u37, u38, u39, u40, u41, .agg #[.int .i64 (q : Int), .slice a n c], .func (.func 66) #[] #[.pointer (some ⟨w1.heap.size, 0, none⟩)], .agg #[.slice (some ⟨z, 0, none⟩) Kw p.C], undef, undef, undef, undef, undef, undef, undef, undef], []⟩ ∧ w3.heap.size ≤ bp ∧ U.cell? ⟨bp, 0, none⟩ = some (.slice (some ⟨z, 0, none⟩) Kw p.C)) ?ownA ?assign ?body ?done ?stop
      case ownA =>
        rintro z p a' _ A U row ⟨bp, e, h1, h2⟩ g qq
        refine ⟨bp, e, h1, (cell_of (g.block bp (World.block_lt_of_cell? A _ h2) (fun e2 => ?_))).trans h2⟩
        obtain ⟨ob, h3, h4⟩ := cells_of_cell h2
        obtain ⟨_, o2, h5, h6⟩ := qq bp e2.symm
        rw [show A.heap[bp]? = some ob from h3] at h5
        injection h5 with h5
        subst h5
        rw [h4] at h6
        cases h6
      case assign =>
        intro l' z pre p U KK hz hI hP hKK
        have HII := hide hI
        have HPP := hide hP
        have HKK := hide hKK
        clear hI hP hKK
        unfold asEnc
        gi_wp2
        have hbA : Below U.heap.size U (U.alloc (.cells #[.slice (some ⟨z, 0, none⟩) Kw p.C] 75)) := balloc (Below.refl _ _) _
        exact HKK.out _ _ ⟨hbA.size, fun k o h1 _ => (hbA.block k (Array.getElem?_eq_some_iff.1 h1).1).trans h1⟩ (KpB.of_below hbA HII.out.low.size) (HII.out.far (hbA.mono HII.out.low.size)) (sdPv_below HPP.out hbA) ⟨U.heap.size, rfl, HII.out.low.size, by simp [go_sem]⟩
      case body =>
        rintro l' z pre p a' U hz hl' _ hI hP ⟨bp, rfl, hbp, hcp⟩ hlen
        have HII := hide hI
        have hzU := hI.low.size
        have e2 := (hI.low.cell (p := ⟨w.heap.size + 1, 0, none⟩) (by show w.heap.size + 1 < _; omega)).trans HF2.out
        have e3 := (hI.low.cell (p := ⟨w.heap.size + 2, 0, none⟩) (by show w.heap.size + 2 < _; omega)).trans HF3.out
        have HRU := hide (HR3.out.of_block (hI.low.block _ (by omega)))
        have HWU : Hid (Below w.heap.size w U) := hide (HW3.out.trans (hI.low.mono HW3.out.size))
        have HCO := hide (fun W (hW : Below U.heap.size U W) => colorsOf_any z Kw p.C p.W ac q cc kk Kr cs Lc Bc W (hide (hP.2.1.of_block (hW.block z hP.2.1.lt))) (hide hP.2.2) (hide (hc.out.keep ((HWU.out.trans (hW.mono HWU.out.size)).mono hBc))) hcx (by have := hW.size; omega) (hide (hZ.out.of_block ((HWU.out.trans (hW.mono HWU.out.size)).block _ hgt))) hKW (hide hP.1) (by omega) HKR (hide (fun c hc => Or.inr (HCA.out c hc))))
        have HCC := hide (fun W g T (h1 : WsAt W g Kr Kr T) (h2 : WdOk T) => count_colorNo g Kr Kr T W (hide h2) (hide h1) (by omega))
        have HCV := hide (fun W (hW : Below U.heap.size U W) => count_valueNo z Kw p.C p.W W (hide hP.2.2) (hide (hP.2.1.of_block (hW.block z hP.2.1.lt))) (by omega))
        have HIM : Hid (∀ T, (∀ c, c < 64 * Kr → (hasN T c = true ↔ colR cs (lsN p.W (64 * Kw)) c)) → (cntN T Kr < cntN p.W Kw ↔ ¬ ((sdW (64 * Kw) p).map (colD cs)).Nodup)) := hide (fun T h => by
          have hl : ∀ u ∈ lsN p.W (64 * Kw), u < cs.length := fun u hu => by
            have h1 := lsN_mem.1 hu
            rw [← hcx.out]
            exact hP.1 u h1.1 h1.2
          rw [ls_cnt, ls_cnt]
          exact cnt_img (fun c hc => (h c hc).trans (colR_iff HCA.out hl c)) (fun v hv => Nat.lt_of_lt_of_le (colD_lt HCA.out (hl v hv)) hkK))
        clear hI hP
        gi_wp2
        refine wpIn_region_held_drew (S := (fun w' => w'.cell? ⟨bp, 0, none⟩ = some (.slice (some ⟨z, 0, none⟩) Kw p.C) ∧ w'.cell? ⟨w.heap.size + 1, 0, none⟩ = some (.slice ac q cc) ∧ w'.cell? ⟨w.heap.size + 2, 0, none⟩ = some (.int .i64 (kk : Int)))) (by kernel_rfl) (by (try dsimp only); go_keep) (fun hHeld => ?_)
        refine wpAnyHI_take (i := 0) (v := ?_) rfl (by kernel_rfl) (by kernel_rfl) (by kernel_rfl) (by kernel_rfl) (fun _ _ _ h => h) ⟨Or.inl ⟨by rfl, ?_⟩, fun _ => rfl⟩ (by assumption) ?_
        rotate_left
        · intro w hSw; (try dsimp only at hSw); go_simp; try with_reducible rfl
        simp only [Act.put, List.getElem_toArray, List.getElem_cons_zero, List.setIfInBounds_toArray, List.set_cons_zero, List.set_cons_succ]
        refine wpAnyHI_take (i := 1) (v := ?_) rfl (by kernel_rfl) (by kernel_rfl) (by kernel_rfl) (by kernel_rfl) (fun _ _ _ h => h) ⟨Or.inl ⟨by rfl, ?_⟩, fun _ => rfl⟩ (by assumption) ?_
        rotate_left
        · intro w hSw; (try dsimp only at hSw); go_simp; try with_reducible rfl
        simp only [Act.put, List.getElem_toArray, List.getElem_cons_zero, List.getElem_cons_succ, List.setIfInBounds_toArray, List.set_cons_zero, List.set_cons_succ]
        refine wpAnyHI_take (i := 2) (v := ?_) rfl (by kernel_rfl) (by kernel_rfl) (by kernel_rfl) (by kernel_rfl) (fun _ _ _ h => h) ⟨Or.inl ⟨by rfl, ?_⟩, fun _ => rfl⟩ (by assumption) ?_
        rotate_left
        · intro w hSw; (try dsimp only at hSw); go_simp; try with_reducible rfl
        simp only [Act.put, List.getElem_toArray, List.getElem_cons_zero, List.getElem_cons_succ, List.setIfInBounds_toArray, List.set_cons_zero, List.set_cons_succ]
        refine wpAnyHI_take (i := 5) (v := ?_) rfl (by kernel_rfl) (by kernel_rfl) (by kernel_rfl) (by kernel_rfl) (fun _ _ _ h => h) ⟨Or.inl ⟨by rfl, ?_⟩, fun _ => rfl⟩ (by assumption) ?_
        rotate_left
        · intro w hSw; (try dsimp only at hSw); go_simp; try with_reducible rfl
        simp only [Act.put, List.getElem_toArray, List.getElem_cons_zero, List.getElem_cons_succ, List.setIfInBounds_toArray, List.set_cons_zero, List.set_cons_succ]
        refine wpAnyHI_ready (rs := [3]) (by kernel_rfl) (by simp) ?_
        refine AllReadyHI.cons rfl (fun K hK => ?_) AllReadyHI.nil
        go_simp
        refine ⟨trivial, (CallsIn.inRound l' (callsIn_wide.2 (HCO.out U.drew (Below.refl U.heap.size U).drew))).mono ?_⟩
        rintro e U5 ⟨g, T, rfl, hg5, hb5', hw5, hd5, hr5⟩
        have hb5 : Below U.heap.size U U5 := ⟨hb5'.os, hb5'.tape, hb5'.output, hb5'.size, hb5'.block⟩
        have HB5 := hide hb5
        have a1 := (hb5.cell (p := ⟨bp, 0, none⟩) (World.block_lt_of_cell? U _ hcp)).trans hcp
        have a2 := (hb5.cell (p := ⟨w.heap.size + 1, 0, none⟩) (World.block_lt_of_cell? U _ e2)).trans e2
        have a3 := (hb5.cell (p := ⟨w.heap.size + 2, 0, none⟩) (World.block_lt_of_cell? U _ e3)).trans e3
        have HC5 := hide (HCC.out U5 g T hw5 hd5)
        have HIM5 := hide (HIM.out T hr5)
        have HV5 := hide (HCV.out)
        have hct := cnt_le T Kr
        have hcv := cnt_le p.W Kw
        clear hb5 hb5' hw5 hd5 hr5 HCO HCC HIM HCV
        refine hK.out _ _ ⟨a1, a2, a3⟩ (fun hHeld => ?_)
        clear hK
        try simp only [Act.put, List.getElem_toArray, List.getElem_cons_zero, List.getElem_cons_succ, List.setIfInBounds_toArray, List.set_cons_zero, List.set_cons_succ]
        refine wpAnyHI_ready (rs := [4]) (by kernel_rfl) (by simp) ?_
        refine AllReadyHI.cons rfl (fun K hK => ?_) AllReadyHI.nil
        go_simp
        refine ⟨trivial, (CallsIn.inRound l' (callsIn_wide.2 HC5.out)).mono ?_⟩
        rintro e U6 ⟨rfl, hb6'⟩
        have hb6 : Below U5.heap.size U5 U6 := ⟨hb6'.os, hb6'.tape, hb6'.output, hb6'.size, hb6'.block⟩
        have HB6 := hide (bnext HB5.out hb6)
        have d1' := (hb6.cell (p := ⟨bp, 0, none⟩) (World.block_lt_of_cell? U5 _ a1)).trans a1
        have d2' := (hb6.cell (p := ⟨w.heap.size + 1, 0, none⟩) (World.block_lt_of_cell? U5 _ a2)).trans a2
        have d3' := (hb6.cell (p := ⟨w.heap.size + 2, 0, none⟩) (World.block_lt_of_cell? U5 _ a3)).trans a3
        have HV6 := hide (HV5.out U6 HB6.out)
        generalize cntN T Kr = nT at *
        generalize cntN p.W Kw = nV at *
        clear hb6 hb6' HC5 HV5
        refine hK.out _ _ ⟨d1', d2', d3'⟩ (fun hHeld => ?_)
        clear hK
        try simp only [Act.put, List.getElem_toArray, List.getElem_cons_zero, List.getElem_cons_succ, List.setIfInBounds_toArray, List.set_cons_zero, List.set_cons_succ]
        refine wpAnyHI_ready (rs := [6]) (by kernel_rfl) (by simp) ?_
        refine AllReadyHI.cons rfl (fun K hK => ?_) AllReadyHI.nil
        go_simp
        refine ⟨trivial, (CallsIn.inRound l' (callsIn_wide.2 HV6.out)).mono ?_⟩
        rintro e U7 ⟨rfl, hb7'⟩
        have hb7 : Below U6.heap.size U6 U7 := ⟨hb7'.os, hb7'.tape, hb7'.output, hb7'.size, hb7'.block⟩
        have HB7 := hide (bnext HB6.out hb7)
        have g1 := (hb7.cell (p := ⟨bp, 0, none⟩) (World.block_lt_of_cell? U6 _ d1')).trans d1'
        have g2 := (hb7.cell (p := ⟨w.heap.size + 1, 0, none⟩) (World.block_lt_of_cell? U6 _ d2')).trans d2'
        have g3 := (hb7.cell (p := ⟨w.heap.size + 2, 0, none⟩) (World.block_lt_of_cell? U6 _ d3')).trans d3'
        clear hb7 hb7' HV6
        refine hK.out _ _ ⟨g1, g2, g3⟩ (fun hHeld => ?_)
        clear hK
        try simp only [Act.put, List.getElem_toArray, List.getElem_cons_zero, List.getElem_cons_succ, List.setIfInBounds_toArray, List.set_cons_zero, List.set_cons_succ]
        refine wpAnyHI_ready (rs := [7]) (by kernel_rfl) (by simp) ?_
        refine AllReadyHI.cons rfl (fun K hK => ?_) AllReadyHI.nil
        go_simp
        refine hK.out _ _ (by first | with_reducible exact hHeld | ((try dsimp only); go_keep)) (fun hHeld => ?_)
        clear hK
        try simp only [Act.put, List.getElem_toArray, List.getElem_cons_zero, List.getElem_cons_succ, List.setIfInBounds_toArray, List.set_cons_zero, List.set_cons_succ]
        refine wpAnyHI_doneN (by kernel_rfl) ?_ _
        clear hHeld
        have HR7 := hide (HRU.out.of_block (HB7.out.block _ HRU.out.lt))
        have r7 := HR7.out.cell (i := 0) (by decide)
        have f7 := HR7.out.frozen 0
        by_cases hlt7 : (nT : Int) < (nV : Int)
        · gi_wp2
          have hkk : KpB w3.heap.size (fun z => z = w.heap.size + 3) U (U7.setCell ⟨w.heap.size + 3, 0, none⟩ (.bool false)) := (KpB.of_below HB7.out hzU).trans (kpB_grown ⟨rfl, rfl, rfl, by simp [World.setCell], fun k _ hk => Below.heap_setCell _ _ _ _ (fun e => hk (by rw [e]))⟩ rfl (by have := HB7.out.size; omega))
          have h7 := HII.out.low.trans (HB7.out.mono hzU)
          refine ⟨⟨hkk.size, fun z ob h1 h2 h3 => ?_⟩, hkk, rfl, ⟨h7.os, h7.tape, h7.output, by rw [size_setCell]; exact h7.size, by omega, fun z q1 q2 => (Below.heap_setCell _ _ _ _ q2).trans (h7.block z q1), ?_, p, List.mem_append_right _ (List.mem_singleton.2 rfl), HIM5.out.1 (by omega)⟩⟩
          · exact (Below.heap_setCell _ _ _ _ (by show z ≠ w.heap.size + 3; omega)).trans ((HB7.out.block z (Array.getElem?_eq_some_iff.1 h2).1).trans h2)
          · exact (HR7.out.set 0 _).congr (fun i hi => by rw [show i = 0 by omega]; simp)
        · gi_wp2
          refine ⟨⟨HB7.out.size, fun z ob h1 h2 h3 => (HB7.out.block z (Array.getElem?_eq_some_iff.1 h2).1).trans h2⟩, KpB.of_below HB7.out hzU, HII.out.low.trans (HB7.out.mono hzU), fun s hs => ?_⟩
          rcases List.mem_append.1 hs with h | h
          · exact HII.out.ok s h
          · rw [List.mem_singleton.1 h]
            exact Classical.not_not.1 (fun h2 => by have := HIM5.out.2 h2; omega)
      case done =>
        rintro D z ss U hD hz hS' hI hKD
        have HII := hide hI
        have HKD := hide hKD
        have HRU := hide (HR3.out.of_block (hI.low.block _ (by omega)))
        have r7 := HRU.out.cell (i := 0) (by decide)
        have f7 := HRU.out.frozen 0
        have hDl : D < U.heap.size := (Array.getElem?_eq_some_iff.1 hKD).1
        have HPC : Hid (pcB (q : Int) xs cs (kk : Int) = true) := hide (pcB_yes ⟨HVd.out.symm, by omega, by omega, by rw [hcx.out], HCA.out, fun l hl => by
          rw [show ((q : Int)).toNat = q from rfl, ← hx.out, ← hS'] at hl
          obtain ⟨s, hs, rfl⟩ := List.mem_map.1 hl
          exact hI.ok s hs⟩)
        clear hI hKD hS'
        gi_wp2
        have HKD2 : Hid ((U.setCell ⟨w.heap.size + 3, 0, none⟩ (.bool true)).heap[D]? = some (.deferred (some []))) := hide ((Below.heap_setCell _ _ _ _ (by show D ≠ w.heap.size + 3; omega)).trans HKD.out)
        have hres : ((U.setCell ⟨w.heap.size + 3, 0, none⟩ (.bool true)).putObj D (.deferred none)).cell? ⟨w.heap.size + 3, 0, none⟩ = some (.bool true) := by
          refine (World.cell?_of_block (a := ⟨w.heap.size + 3, 0, none⟩) (World.putObj_heap_other (show w.heap.size + 3 ≠ D by omega))).trans ?_
          simpa using (HRU.out.set 0 (.bool true)).cell (i := 0) (by decide)
        refine leaves_one HKD2.out ⟨.bool true, by simp [results, Tryz.results16, go_sem, hres], ?_⟩
        have hUw : Below w.heap.size w U := HW3.out.trans (HII.out.low.mono HW3.out.size)
        have hUs : Below w.heap.size w (U.setCell ⟨w.heap.size + 3, 0, none⟩ (.bool true)) := hUw.setCell (by show w.heap.size ≤ w.heap.size + 3; omega) _
        have hg := grownBy_putObj' (U.setCell ⟨w.heap.size + 3, 0, none⟩ (.bool true)) D (.deferred none)
        have hzw := HW3.out.size
        exact ⟨by rw [HPC.out], hg.os.trans hUs.os, hg.tape.trans hUs.tape, hg.output.trans hUs.output, Nat.le_trans hUs.size hg.size, fun z hz => (World.putObj_heap_other (by omega)).trans (hUs.block z hz)⟩
      case stop =>
        rintro D c' pre U hD hSp ⟨rfl, hX⟩ hKD
        have HKD := hide hKD
        have hDl : D < U.heap.size := (Array.getElem?_eq_some_iff.1 hKD).1
        have HPC : Hid (pcB (q : Int) xs cs (kk : Int) = false) := hide (pcB_no (fun h => by
          obtain ⟨s, hs, hb⟩ := hX.bad
          refine hb (h.2.2.2.2.2 _ ?_)
          rw [show ((q : Int)).toNat = q from rfl, ← hx.out]
          exact hSp.subset (List.mem_map.2 ⟨s, hs, rfl⟩)))
        have HX := hide hX
        clear hX hKD hSp
        gi_wp2
        have hres : (U.putObj D (.deferred none)).cell? ⟨w.heap.size + 3, 0, none⟩ = some (.bool false) := (World.cell?_of_block (a := ⟨w.heap.size + 3, 0, none⟩) (World.putObj_heap_other (show w.heap.size + 3 ≠ D by omega))).trans (HX.out.row.cell (i := 0) (by decide))
        refine leaves_one HKD.out ⟨.bool false, by simp [results, Tryz.results16, go_sem, hres], ?_⟩
        have hg := grownBy_putObj' U D (.deferred none)
        have hzw := HW3.out.size
        exact ⟨by rw [HPC.out], hg.os.trans (HX.out.os.trans HW3.out.os), hg.tape.trans (HX.out.tape.trans HW3.out.tape), hg.output.trans (HX.out.output.trans HW3.out.output), Nat.le_trans HW3.out.size (Nat.le_trans HX.out.size hg.size), fun z hz => (World.putObj_heap_other (by omega)).trans ((HX.out.fr z (by omega) (by omega)).trans (HW3.out.block z hz))⟩
end Go.Proofs.YthgikffcdgpgiaaGreatDoor
