import Derived.Test.YtjfcbjomfbfoiaaGreatDoorAS1
namespace Go.Proofs.YtjfcbjomfbfoiaaGreatDoor
open Go.RowKit Go.Shelf
attribute [local go_sem] Oper.semAt_some
set_option maxHeartbeats 1000000 in
theorem allSides_in (n : Nat) (v0 v1 : Value) (w : World) :
    CallsIn Fence.wide n Tryz.prog 42 #[.agg #[v0, v1]] w fun e w' => e = .returned (.func (.func 82) #[] #[.pointer (some ⟨w.heap.size, 0, none⟩)]) ∧ w' = w.alloc (.cells #[v0, v1] 32) := by
  refine callsIn_of_wp Tryz.func42 rfl trivial ?_ rfl
  simp only [Tryz.ntmps42, List.size_toArray, List.length_cons, List.length_nil, Nat.reduceAdd, Nat.reduceSub, Array.replicate_succ, Array.replicate_zero, List.push_toArray, List.append_toArray, List.nil_append, List.cons_append]
  gi_wp2
  go_ret
  exact ⟨rfl, rfl⟩
theorem sdPx_own (Kw B z : Nat) : OwnFrom B (sdPx Kw z) := fun p A V row h k q => by
  have h1 := sdPy_own p.i Kw B z p A V row ⟨Nat.le_refl _, h⟩ k q
  exact h1.2
theorem sdPx_below {Kw z : Nat} {p : Sd} {V V' : World} (h : sdPx Kw z p V) (k : Below V.heap.size V V') : sdPx Kw z p V' := ⟨h.1.of_block (k.block z h.1.lt), h.2⟩
/-- The greatest length. -/
def mxL {α : Type} (l : List (List α)) : Nat := (l.map List.length).foldl max 0
theorem mxL_snoc {α : Type} (l : List (List α)) (x : List α) : mxL (l ++ [x]) = max (mxL l) x.length := by unfold mxL; rw [List.map_append, List.foldl_append]; rfl
/-- While MaxLive goes through the sets. -/
structure MxI (w6 : World) (Bm p : Nat) (pre : List Sd) (V : World) : Prop where
  os : V.os = w6.os
  tape : V.tape = w6.tape
  output : V.output = w6.output
  size : w6.heap.size ≤ V.heap.size
  bl : Bm < w6.heap.size
  fr : ∀ q, q < w6.heap.size → q ≠ Bm → V.heap[q]? = w6.heap[q]?
  mx : V.rowIs Bm 3 1 (fun _ => .int .i64 (mxL (pre.map (sdW p)) : Int))
section
variable {w6 V V' : World} {Bm p : Nat} {pre : List Sd}
theorem MxI.far (h : MxI w6 Bm p pre V) (k : Below w6.heap.size V V') : MxI w6 Bm p pre V' :=
  ⟨k.os.trans h.os, k.tape.trans h.tape, k.output.trans h.output, Nat.le_trans h.size k.size, h.bl, fun q q1 q2 => (k.block q q1).trans (h.fr q q1 q2), h.mx.of_block (k.block _ h.bl)⟩
theorem MxI.own (w6 : World) (Bm p : Nat) : OwnFrom w6.heap.size (MxI w6 Bm p) := fun pre V V' row h k q => by
  have := h.size
  exact h.far ⟨k.os, k.tape, k.output, k.size, fun b hb => k.block b (by omega) (fun e => by have := (q b e.symm).1; omega)⟩
theorem MxI.push (h : MxI w6 Bm p pre V) {s : Sd} (k : Below V.heap.size V V') {x : Int} (hx : x = (mxL ((pre ++ [s]).map (sdW p)) : Int)) : MxI w6 Bm p (pre ++ [s]) (V'.setCell ⟨Bm, 0, none⟩ (.int .i64 x)) := by
  have h' := h.far (k.mono h.size)
  refine ⟨h'.os, h'.tape, h'.output, by rw [size_setCell]; exact h'.size, h'.bl, fun q q1 q2 => (Below.heap_setCell _ _ _ _ q2).trans (h'.fr q q1 q2), ?_⟩
  rw [← hx]
  exact (h'.mx.set 0 _).congr (fun i hi => by rw [show i = 0 by omega]; simp)
end
set_option maxHeartbeats 4000000 in
set_option maxRecDepth 100000 in
theorem maxI_any (V : Nat) (a : Option Addr) (n c : Nat) (xs : List Blk) (L B : Nat) (w : World) (ha : Hid (BlksAt w L B a xs)) (hx : Hid (n = xs.length)) (hs : Hid (xs.length + blksTot xs ≤ 1048576)) (hB : B ≤ w.heap.size) (hO : Hid (OpTabW w)) (hT : Hid (TerTabW w)) (hv : Hid (validI ⟨(V : Int), xs⟩ = true)) (ho : Hid (OkL V xs)) :
    Calls Tryz.prog 22 #[.agg #[.int .i64 (V : Int), .slice a n c]] w fun e w' => e = .returned (.int .i64 (mxL (allP xs V xs.length) : Int)) ∧ Below w.heap.size w w' := by
  have HVF := hide (fun W (hb : Below w.heap.size w W) => validFuncI_any (V : Int) a n c xs L B W (hide (ha.out.keep (hb.mono hB))) hx hs (by have := hb.size; omega) (hide (hO.out.keep hb hO.out.1).old) (hide (hT.out.keep hb hT.out.1).old))
  rw [hv.out] at HVF
  have hn : n ≤ 1000 := by have := hx.out; have := ho.out.okf.n2; omega
  refine (callsIn_wide (n := 10)).1 ?_
  refine callsIn_of_wp_marks Tryz.func22 rfl trivial ?_ rfl
  simp only [Tryz.ntmps22, List.size_toArray, List.length_cons, List.length_nil, Nat.reduceAdd, Nat.reduceSub, Array.replicate_succ, Array.replicate_zero, List.push_toArray, List.append_toArray, List.nil_append, List.cons_append]
  gi_wp2
  refine ⟨trivial, (callsIn_wide.2 (HVF.out _ (balloc (Below.refl _ _) _))).mono ?_⟩
  rintro e w1 ⟨rfl, hb1⟩
  have g0 := (hb1.cell (p := ⟨w.heap.size, 0, none⟩) (by simp)).trans (show _ = some (.int .i64 (V : Int)) by simp)
  have g1 := (hb1.cell (p := ⟨w.heap.size, 1, none⟩) (by simp)).trans (show _ = some (.slice a n c) by simp)
  have HB1 := hide (bnext (balloc (Below.refl w.heap.size w) (.cells #[.int .i64 (V : Int), .slice a n c] 32)) hb1)
  have hzw1 : w.heap.size < w1.heap.size := World.block_lt_of_cell? w1 _ g0
  have g0a : ∀ ob, (w1.alloc ob).cell? ⟨w.heap.size, 0, none⟩ = some (.int .i64 (V : Int)) := fun ob => (World.cell?_alloc_lt w1 ob ⟨w.heap.size, 0, none⟩ hzw1).trans g0
  have g1a : ∀ ob, (w1.alloc ob).cell? ⟨w.heap.size, 1, none⟩ = some (.slice a n c) := fun ob => (World.cell?_alloc_lt w1 ob ⟨w.heap.size, 1, none⟩ hzw1).trans g1
  clear hb1 HVF g0 g1
  gi_wp2
  have HB2 : Hid (Below w1.heap.size w1 (w1.alloc (.cells #[.int .i64 0] 3))) := hide (balloc (Below.refl _ _) _)
  have hz2 : w1.heap.size + 1 ≤ (w1.alloc (.cells #[.int .i64 0] 3)).heap.size := by simp
  have HMX : Hid ((w1.alloc (.cells #[.int .i64 0] 3)).rowIs w1.heap.size 3 1 (fun _ => .int .i64 0)) := hide (World.rowIs_alloc w1 #[.int .i64 0] 3 (fun _ => .int .i64 0) (fun i hi => by match i, hi with | 0, _ => rfl))
  generalize w1.alloc (.cells #[.int .i64 0] 3) = w2 at *
  clear g0a g1a
  refine ⟨trivial, (allSides_in 9 _ _ w2).mono ?_⟩
  rintro e w3 ⟨rfl, hw3⟩
  have hb3 : Below w2.heap.size w2 w3 := by rw [hw3]; exact balloc (Below.refl _ _) _
  have hz3 : w2.heap.size + 1 ≤ w3.heap.size := by rw [hw3, World.size_alloc]; exact Nat.le_refl _
  have hf0 : w3.cell? ⟨w2.heap.size, 0, none⟩ = some (.int .i64 (V : Int)) := by rw [hw3]; simp [go_sem]
  have hf1 : w3.cell? ⟨w2.heap.size, 1, none⟩ = some (.slice a n c) := by rw [hw3]; simp [go_sem]
  have HW3 : Hid (Below w.heap.size w w3) := hide (bnext (bnext HB1.out HB2.out) hb3)
  have HMX3 := hide (HMX.out.of_block (hb3.block _ HMX.out.lt))
  obtain ⟨Kw, hkw⟩ : ∃ q, q = (V + 63) / 64 := ⟨_, rfl⟩
  have HKW := hide hkw
  have hVl := ho.out.vle
  have hKW : Kw ≤ 100 := by omega
  have hO1 := hO.out.1
  have hT1 := hT.out.1
  have HA3 : Hid (BlksAt w3 L B a xs) := hide (ha.out.keep (HW3.out.mono hB))
  have HO3 := hide (hO.out.keep HW3.out hO.out.1)
  have HT3 := hide (hT.out.keep HW3.out hT.out.1)
  have HF0 := hide hf0
  have HF1 := hide hf1
  clear hb3 hw3 hkw hVl hf0 hf1
  gi_wp2
  refine rangeS (F := Fence.wide) (n := 10) rfl (by decide) (gf := 82) (lb := #[.pointer (some ⟨w2.heap.size, 0, none⟩)]) rfl trivial (enters_of Tryz.func82 (by kernel_rfl) rfl) (all_seqS w3.heap.size w2.heap.size L B V n c Kw a (fun q => q = w1.heap.size) xs w3 HF0.out HF1.out HA3 hx (by omega) (Nat.le_refl _) HO3 HT3 (by omega) (by omega) ho HKW (hide (fun q h1 h2 e => by omega)) (hide (fun q h1 e => by omega)) (hide (fun e => by omega)) (hide (fun e => by omega))) (fun z => sdPx_own _ _ z) (fun h k => h.trans k) (fun W l o o' h1 h2 h3 => KpB.putObj W l o o' (by omega) h2 h3) (Below.refl _ _) (fun _ _ => rfl)
    (fun _ => MxI w3 w1.heap.size (64 * Kw)) (fun _ _ _ => False) (fun _ => MxI.own w3 _ _) (fun _ _ _ _ _ h _ _ => h) (fun _ z s A A' hz h g => h.far ⟨g.os, g.tape, g.output, g.size, fun b hb => g.block b (by have := h.size; omega) (fun e => by injection e with e; omega)⟩) (fun _ => ⟨fun z z' s A A' _ h k => h.far (k.mono (by omega)), fun _ _ _ _ h _ => h⟩) ?start
    (fun z p a' U => ∃ bp : Nat, a' = ⟨#[.agg #[.int .i64 (V : Int), .slice a n c], .pointer (some ⟨w.heap.size, 0, none⟩), .int .i64 0, .pointer (some ⟨w1.heap.size, 0, none⟩), .pointer (some ⟨bp, 0, none⟩), .agg #[.int .i64 (V : Int), .slice a n c], .bool true, .bool false, .agg #[.int .i64 (V : Int), .slice a n c], .func (.func 82) #[] #[.pointer (some ⟨w2.heap.size, 0, none⟩)], .agg #[.slice (some ⟨z, 0, none⟩) Kw p.C], undef, undef, undef, undef, undef], []⟩ ∧ w3.heap.size ≤ bp ∧ U.cell? ⟨bp, 0, none⟩ = some (.slice (some ⟨z, 0, none⟩) Kw p.C)) ?ownA ?assign ?body ?done (fun _ _ _ _ _ _ h _ => h.elim)
  case start =>
    intro z U _ _ hU
    exact ⟨hU.os, hU.tape, hU.output, hU.size, by omega, fun q h1 _ => hU.block q h1, HMX3.out.of_block (hU.block _ (by omega))⟩
  case ownA =>
    rintro z p a' _ A U row ⟨bp, e, h1, h2⟩ g q
    refine ⟨bp, e, h1, (cell_of (g.block bp (World.block_lt_of_cell? A _ h2) (fun e2 => ?_))).trans h2⟩
    obtain ⟨ob, h3, h4⟩ := cells_of_cell h2
    obtain ⟨_, o2, h5, h6⟩ := q bp e2.symm
    rw [show A.heap[bp]? = some ob from h3] at h5
    injection h5 with h5
    subst h5
    rw [h4] at h6
    cases h6
  case assign =>
    intro l' z pre p U KK hz hI hP hKK
    have HII := hide hI
    have HPP := hide hP
    have HKK := hide hKK
    clear hI hP hKK
    unfold asEnc
    gi_wp2
    have hbA : Below U.heap.size U (U.alloc (.cells #[.slice (some ⟨z, 0, none⟩) Kw p.C] 65)) := balloc (Below.refl _ _) _
    exact HKK.out _ _ ⟨hbA.size, fun k o h1 _ => (hbA.block k (Array.getElem?_eq_some_iff.1 h1).1).trans h1⟩ (KpB.of_below hbA HII.out.size) (HII.out.far (hbA.mono HII.out.size)) (sdPx_below HPP.out hbA) ⟨U.heap.size, rfl, HII.out.size, by simp [go_sem]⟩
  case body =>
    rintro l' z pre p a' U hz hl' _ hI hP ⟨bp, rfl, hbp, hcp⟩ hlen
    have HII := hide hI
    have hm0 := hI.mx.cell (i := 0) (by decide)
    have hmz := hI.mx.frozen 0
    have hzU := hI.size
    have HCN := hide (fun W (hW : Below U.heap.size U W) => count_valueNo z Kw p.C p.W W (hide hP.2) (hide (hP.1.of_block (hW.block z hP.1.lt))) (by omega))
    have HCT : Hid (mxL ((pre ++ [p]).map (sdW (64 * Kw))) = max (mxL (pre.map (sdW (64 * Kw)))) (cntN p.W Kw)) := hide (by rw [List.map_append, List.map_cons, List.map_nil, mxL_snoc, ls_cnt]; rfl)
    have hcnt := cnt_le p.W Kw
    generalize mxL (pre.map (sdW (64 * Kw))) = M at *
    generalize cntN p.W Kw = N at *
    clear hI hP
    have HEND : Hid (∀ (U5 : World) (x : Int), Below U.heap.size U U5 → x = (max M N : Nat) → KeepsFrom w3.heap.size U (U5.setCell ⟨w1.heap.size, 0, none⟩ (.int .i64 x)) ∧ KpB w3.heap.size (fun q => q = w1.heap.size) U (U5.setCell ⟨w1.heap.size, 0, none⟩ (.int .i64 x)) ∧ MxI w3 w1.heap.size (64 * Kw) (pre ++ [p]) (U5.setCell ⟨w1.heap.size, 0, none⟩ (.int .i64 x))) := hide (fun U5 x hb5 e => by
      have hkk : KpB w3.heap.size (fun q => q = w1.heap.size) U (U5.setCell ⟨w1.heap.size, 0, none⟩ (.int .i64 x)) := (KpB.of_below hb5 hzU).trans (kpB_grown ⟨rfl, rfl, rfl, by simp [World.setCell], fun k _ hk => Below.heap_setCell _ _ _ _ (fun e => hk (by rw [e]))⟩ rfl (by have := hb5.size; omega))
      refine ⟨⟨hkk.size, fun q ob h1 h2 h3 => ?_⟩, hkk, HII.out.push hb5 (by rw [HCT.out]; exact e)⟩
      exact (Below.heap_setCell _ _ _ _ (by show q ≠ w1.heap.size; omega)).trans ((hb5.block q (Array.getElem?_eq_some_iff.1 h2).1).trans h2))
    gi_wp2
    by_cases hgt : (M : Int) < (N : Int)
    · skip
      refine wpIn_region_held_drew (S := (fun w' => w'.cell? ⟨bp, 0, none⟩ = some (.slice (some ⟨z, 0, none⟩) Kw p.C))) (by kernel_rfl) (by (try dsimp only); go_keep) (fun hHeld => ?_)
      refine wpAnyHI_take (i := 1) (v := ?_) rfl (by kernel_rfl) (by kernel_rfl) (by kernel_rfl) (by kernel_rfl) (fun _ _ _ h => h) ⟨Or.inl ⟨by rfl, ?_⟩, fun _ => rfl⟩ (by assumption) ?_
      rotate_left
      · intro w hSw; (try dsimp only at hSw); go_simp; try with_reducible rfl
      simp only [Act.put, List.getElem_toArray, List.getElem_cons_zero, List.getElem_cons_succ, List.setIfInBounds_toArray, List.set_cons_zero, List.set_cons_succ]
      refine wpAnyHI_ready (rs := [0, 2]) (by kernel_rfl) (by simp) ?_
      refine (AllReadyHI.cons rfl (fun K hK => ?_) (AllReadyHI.cons rfl (fun K hK => ?_) AllReadyHI.nil))
      · skip
        go_simp
        refine hK.out _ _ (by first | with_reducible exact hHeld | ((try dsimp only); go_keep)) (fun hHeld => ?_)
        clear hK
        try simp only [Act.put, List.getElem_toArray, List.getElem_cons_zero, List.getElem_cons_succ, List.setIfInBounds_toArray, List.set_cons_zero, List.set_cons_succ]
        refine wpAnyHI_ready (rs := [2]) (by kernel_rfl) (by simp) ?_
        refine AllReadyHI.cons rfl (fun K hK => ?_) AllReadyHI.nil
        go_simp
        refine ⟨trivial, (CallsIn.inRound l' (callsIn_wide.2 (HCN.out U.drew (Below.refl U.heap.size U).drew))).mono ?_⟩
        rintro e U5 ⟨rfl, hb5'⟩
        have hb5 : Below U.heap.size U U5 := ⟨hb5'.os, hb5'.tape, hb5'.output, hb5'.size, hb5'.block⟩
        have cp5 := (hb5.cell (p := ⟨bp, 0, none⟩) (World.block_lt_of_cell? U _ hcp)).trans hcp
        have m5 := (hb5.cell (p := ⟨w1.heap.size, 0, none⟩) (World.block_lt_of_cell? U _ hm0)).trans hm0
        have f5 := (hb5.frozen (p := ⟨w1.heap.size, 0, none⟩) (World.block_lt_of_cell? U _ hm0)).trans hmz
        have HB5 := hide hb5
        clear hb5 hb5'
        refine hK.out _ _ cp5 (fun hHeld => ?_)
        clear hK
        try simp only [Act.put, List.getElem_toArray, List.getElem_cons_zero, List.getElem_cons_succ, List.setIfInBounds_toArray, List.set_cons_zero, List.set_cons_succ]
        refine wpAnyHI_ready (rs := [3]) (by kernel_rfl) (by simp) ?_
        refine AllReadyHI.cons rfl (fun K hK => ?_) AllReadyHI.nil
        go_simp
        refine hK.out _ _ (by first | with_reducible exact hHeld | ((try dsimp only); go_keep)) (fun hHeld => ?_)
        clear hK
        try simp only [Act.put, List.getElem_toArray, List.getElem_cons_zero, List.getElem_cons_succ, List.setIfInBounds_toArray, List.set_cons_zero, List.set_cons_succ]
        refine wpAnyHI_ready (rs := [4]) (by kernel_rfl) (by simp) ?_
        refine AllReadyHI.cons rfl (fun K hK => ?_) AllReadyHI.nil
        go_simp
        refine hK.out _ _ ((World.cell?_setCell_far U5 ⟨w1.heap.size, 0, none⟩ ⟨bp, 0, none⟩ _ (by show w1.heap.size ≠ bp; omega)).trans cp5) (fun hHeld => ?_)
        clear hK
        try simp only [Act.put, List.getElem_toArray, List.getElem_cons_zero, List.getElem_cons_succ, List.setIfInBounds_toArray, List.set_cons_zero, List.set_cons_succ]
        refine wpAnyHI_doneN (by kernel_rfl) ?_ _
        clear hHeld
        gi_wp2
        exact HEND.out U5 _ HB5.out (by omega)
      · skip
        go_simp
        refine ⟨trivial, (CallsIn.inRound l' (callsIn_wide.2 (HCN.out U.drew (Below.refl U.heap.size U).drew))).mono ?_⟩
        rintro e U5 ⟨rfl, hb5'⟩
        have hb5 : Below U.heap.size U U5 := ⟨hb5'.os, hb5'.tape, hb5'.output, hb5'.size, hb5'.block⟩
        have cp5 := (hb5.cell (p := ⟨bp, 0, none⟩) (World.block_lt_of_cell? U _ hcp)).trans hcp
        have m5 := (hb5.cell (p := ⟨w1.heap.size, 0, none⟩) (World.block_lt_of_cell? U _ hm0)).trans hm0
        have f5 := (hb5.frozen (p := ⟨w1.heap.size, 0, none⟩) (World.block_lt_of_cell? U _ hm0)).trans hmz
        have HB5 := hide hb5
        clear hb5 hb5'
        refine hK.out _ _ cp5 (fun hHeld => ?_)
        clear hK
        try simp only [Act.put, List.getElem_toArray, List.getElem_cons_zero, List.getElem_cons_succ, List.setIfInBounds_toArray, List.set_cons_zero, List.set_cons_succ]
        refine wpAnyHI_ready (rs := [0]) (by kernel_rfl) (by simp) ?_
        refine AllReadyHI.cons rfl (fun K hK => ?_) AllReadyHI.nil
        go_simp
        refine hK.out _ _ (by first | with_reducible exact hHeld | ((try dsimp only); go_keep)) (fun hHeld => ?_)
        clear hK
        try simp only [Act.put, List.getElem_toArray, List.getElem_cons_zero, List.getElem_cons_succ, List.setIfInBounds_toArray, List.set_cons_zero, List.set_cons_succ]
        refine wpAnyHI_ready (rs := [3]) (by kernel_rfl) (by simp) ?_
        refine AllReadyHI.cons rfl (fun K hK => ?_) AllReadyHI.nil
        go_simp
        refine hK.out _ _ (by first | with_reducible exact hHeld | ((try dsimp only); go_keep)) (fun hHeld => ?_)
        clear hK
        try simp only [Act.put, List.getElem_toArray, List.getElem_cons_zero, List.getElem_cons_succ, List.setIfInBounds_toArray, List.set_cons_zero, List.set_cons_succ]
        refine wpAnyHI_ready (rs := [4]) (by kernel_rfl) (by simp) ?_
        refine AllReadyHI.cons rfl (fun K hK => ?_) AllReadyHI.nil
        go_simp
        refine hK.out _ _ ((World.cell?_setCell_far U5 ⟨w1.heap.size, 0, none⟩ ⟨bp, 0, none⟩ _ (by show w1.heap.size ≠ bp; omega)).trans cp5) (fun hHeld => ?_)
        clear hK
        try simp only [Act.put, List.getElem_toArray, List.getElem_cons_zero, List.getElem_cons_succ, List.setIfInBounds_toArray, List.set_cons_zero, List.set_cons_succ]
        refine wpAnyHI_doneN (by kernel_rfl) ?_ _
        clear hHeld
        gi_wp2
        exact HEND.out U5 _ HB5.out (by omega)
    · skip
      refine wpIn_region_held_drew (S := (fun w' => w'.cell? ⟨bp, 0, none⟩ = some (.slice (some ⟨z, 0, none⟩) Kw p.C))) (by kernel_rfl) (by (try dsimp only); go_keep) (fun hHeld => ?_)
      refine wpAnyHI_take (i := 1) (v := ?_) rfl (by kernel_rfl) (by kernel_rfl) (by kernel_rfl) (by kernel_rfl) (fun _ _ _ h => h) ⟨Or.inl ⟨by rfl, ?_⟩, fun _ => rfl⟩ (by assumption) ?_
      rotate_left
      · intro w hSw; (try dsimp only at hSw); go_simp; try with_reducible rfl
      simp only [Act.put, List.getElem_toArray, List.getElem_cons_zero, List.getElem_cons_succ, List.setIfInBounds_toArray, List.set_cons_zero, List.set_cons_succ]
      refine wpAnyHI_ready (rs := [0, 2]) (by kernel_rfl) (by simp) ?_
      refine (AllReadyHI.cons rfl (fun K hK => ?_) (AllReadyHI.cons rfl (fun K hK => ?_) AllReadyHI.nil))
      · skip
        go_simp
        refine hK.out _ _ (by first | with_reducible exact hHeld | ((try dsimp only); go_keep)) (fun hHeld => ?_)
        clear hK
        try simp only [Act.put, List.getElem_toArray, List.getElem_cons_zero, List.getElem_cons_succ, List.setIfInBounds_toArray, List.set_cons_zero, List.set_cons_succ]
        refine wpAnyHI_ready (rs := [2]) (by kernel_rfl) (by simp) ?_
        refine AllReadyHI.cons rfl (fun K hK => ?_) AllReadyHI.nil
        go_simp
        refine ⟨trivial, (CallsIn.inRound l' (callsIn_wide.2 (HCN.out U.drew (Below.refl U.heap.size U).drew))).mono ?_⟩
        rintro e U5 ⟨rfl, hb5'⟩
        have hb5 : Below U.heap.size U U5 := ⟨hb5'.os, hb5'.tape, hb5'.output, hb5'.size, hb5'.block⟩
        have cp5 := (hb5.cell (p := ⟨bp, 0, none⟩) (World.block_lt_of_cell? U _ hcp)).trans hcp
        have m5 := (hb5.cell (p := ⟨w1.heap.size, 0, none⟩) (World.block_lt_of_cell? U _ hm0)).trans hm0
        have f5 := (hb5.frozen (p := ⟨w1.heap.size, 0, none⟩) (World.block_lt_of_cell? U _ hm0)).trans hmz
        have HB5 := hide hb5
        clear hb5 hb5'
        refine hK.out _ _ cp5 (fun hHeld => ?_)
        clear hK
        try simp only [Act.put, List.getElem_toArray, List.getElem_cons_zero, List.getElem_cons_succ, List.setIfInBounds_toArray, List.set_cons_zero, List.set_cons_succ]
        refine wpAnyHI_ready (rs := [3]) (by kernel_rfl) (by simp) ?_
        refine AllReadyHI.cons rfl (fun K hK => ?_) AllReadyHI.nil
        go_simp
        refine hK.out _ _ (by first | with_reducible exact hHeld | ((try dsimp only); go_keep)) (fun hHeld => ?_)
        clear hK
        try simp only [Act.put, List.getElem_toArray, List.getElem_cons_zero, List.getElem_cons_succ, List.setIfInBounds_toArray, List.set_cons_zero, List.set_cons_succ]
        refine wpAnyHI_ready (rs := [4]) (by kernel_rfl) (by simp) ?_
        refine AllReadyHI.cons rfl (fun K hK => ?_) AllReadyHI.nil
        go_simp
        refine hK.out _ _ ((World.cell?_setCell_far U5 ⟨w1.heap.size, 0, none⟩ ⟨bp, 0, none⟩ _ (by show w1.heap.size ≠ bp; omega)).trans cp5) (fun hHeld => ?_)
        clear hK
        try simp only [Act.put, List.getElem_toArray, List.getElem_cons_zero, List.getElem_cons_succ, List.setIfInBounds_toArray, List.set_cons_zero, List.set_cons_succ]
        refine wpAnyHI_doneN (by kernel_rfl) ?_ _
        clear hHeld
        gi_wp2
        exact HEND.out U5 _ HB5.out (by omega)
      · skip
        go_simp
        refine ⟨trivial, (CallsIn.inRound l' (callsIn_wide.2 (HCN.out U.drew (Below.refl U.heap.size U).drew))).mono ?_⟩
        rintro e U5 ⟨rfl, hb5'⟩
        have hb5 : Below U.heap.size U U5 := ⟨hb5'.os, hb5'.tape, hb5'.output, hb5'.size, hb5'.block⟩
        have cp5 := (hb5.cell (p := ⟨bp, 0, none⟩) (World.block_lt_of_cell? U _ hcp)).trans hcp
        have m5 := (hb5.cell (p := ⟨w1.heap.size, 0, none⟩) (World.block_lt_of_cell? U _ hm0)).trans hm0
        have f5 := (hb5.frozen (p := ⟨w1.heap.size, 0, none⟩) (World.block_lt_of_cell? U _ hm0)).trans hmz
        have HB5 := hide hb5
        clear hb5 hb5'
        refine hK.out _ _ cp5 (fun hHeld => ?_)
        clear hK
        try simp only [Act.put, List.getElem_toArray, List.getElem_cons_zero, List.getElem_cons_succ, List.setIfInBounds_toArray, List.set_cons_zero, List.set_cons_succ]
        refine wpAnyHI_ready (rs := [0]) (by kernel_rfl) (by simp) ?_
        refine AllReadyHI.cons rfl (fun K hK => ?_) AllReadyHI.nil
        go_simp
        refine hK.out _ _ (by first | with_reducible exact hHeld | ((try dsimp only); go_keep)) (fun hHeld => ?_)
        clear hK
        try simp only [Act.put, List.getElem_toArray, List.getElem_cons_zero, List.getElem_cons_succ, List.setIfInBounds_toArray, List.set_cons_zero, List.set_cons_succ]
        refine wpAnyHI_ready (rs := [3]) (by kernel_rfl) (by simp) ?_
        refine AllReadyHI.cons rfl (fun K hK => ?_) AllReadyHI.nil
        go_simp
        refine hK.out _ _ (by first | with_reducible exact hHeld | ((try dsimp only); go_keep)) (fun hHeld => ?_)
        clear hK
        try simp only [Act.put, List.getElem_toArray, List.getElem_cons_zero, List.getElem_cons_succ, List.setIfInBounds_toArray, List.set_cons_zero, List.set_cons_succ]
        refine wpAnyHI_ready (rs := [4]) (by kernel_rfl) (by simp) ?_
        refine AllReadyHI.cons rfl (fun K hK => ?_) AllReadyHI.nil
        go_simp
        refine hK.out _ _ ((World.cell?_setCell_far U5 ⟨w1.heap.size, 0, none⟩ ⟨bp, 0, none⟩ _ (by show w1.heap.size ≠ bp; omega)).trans cp5) (fun hHeld => ?_)
        clear hK
        try simp only [Act.put, List.getElem_toArray, List.getElem_cons_zero, List.getElem_cons_succ, List.setIfInBounds_toArray, List.set_cons_zero, List.set_cons_succ]
        refine wpAnyHI_doneN (by kernel_rfl) ?_ _
        clear hHeld
        gi_wp2
        exact HEND.out U5 _ HB5.out (by omega)
  case done =>
    rintro D z ss U hD hz hS' hI hKD
    have HII := hide hI
    have HKD := hide hKD
    have HS' := hide hS'
    have hm0 := hI.mx.cell (i := 0) (by decide)
    clear hI hKD hS'
    gi_wp2
    have hI2 : MxI w3 w1.heap.size (64 * Kw) ss (U.putObj D (.deferred none)) := (MxI.own w3 _ _).putObj _ HII.out (by omega) HKD.out rfl
    refine leaves_one HKD.out ⟨.int .i64 (mxL (ss.map (sdW (64 * Kw))) : Int), by simp [results, Tryz.results22, go_sem], ?_⟩
    rw [HS'.out, hx.out]
    exact ⟨rfl, hI2.os.trans HW3.out.os, hI2.tape.trans HW3.out.tape, hI2.output.trans HW3.out.output, Nat.le_trans HW3.out.size hI2.size, fun q hq => (hI2.fr q (by omega) (by omega)).trans (HW3.out.block q hq)⟩
end Go.Proofs.YtjfcbjomfbfoiaaGreatDoor
