import Derived.Test.YtanaeindldcapaaDoorPL2
namespace Go.Proofs.YtanaeindldcapaaDoor
open Go.RowKit Go.Shelf
section
attribute [local go_sem] Oper.semAt_some
set_option maxHeartbeats 4000000 in
set_option maxRecDepth 100000 in
theorem places_seqS (n₀ Bx L B : Nat) (Ms : Nat → Prop) (Pd : Nat × List Int × List Int → Prop) (x : Blk) (w : World) (hS : Hid (Stc2 x L B Bx n₀ w.heap.size w)) (hM : Hid (∀ k, L ≤ k → k < B → ¬ Ms k)) (hMx : Hid (¬ Ms Bx)) (hMn : Hid (∀ k, w.heap.size ≤ k → ¬ Ms k)) (hM1 : Hid (¬ Ms 0)) (hM2 : Hid (¬ Ms 1)) (hops : Hid (∀ y ∈ x.instrs, 1 ≤ y.op ∧ y.op ≤ 13)) (htk : 1 ≤ x.term.kind ∧ x.term.kind ≤ 3) (hln : x.instrs.length ≤ 4000) (hlp : x.phis.length ≤ 4000) (hPd : Hid (∀ q ∈ plL x, Pd q)) :
    SeqS Fence.wide 7 Tryd.prog 66 #[.pointer (some ⟨Bx, 0, none⟩)] (fun _ => plEnc) (fun _ => plPx w.heap.size Pd) (KpB n₀ Ms) (fun xs => xs.map Pl.dat = plL x) (fun xs => xs.map Pl.dat <+: plL x) (x.instrs.length + 2) False False w := by
  intro l J0 Jx W hW hl hJ hJx _ _ hY h0
  have HY := hide (fun pre x V => hY W.heap.size pre x V (Nat.le_refl _))
  have HJ := hide (hJ W.heap.size)
  have H0 := hide (fun V => h0 W.heap.size V (Nat.le_refl _))
  have HE : Hid (∀ xs V, xs.map Pl.dat = plL x → J0 W.heap.size xs V → (∃ z xs, W.heap.size ≤ z ∧ xs.map Pl.dat = plL x ∧ J0 z xs V) ∨ ∃ pre, pre.map Pl.dat <+: plL x ∧ Jx pre V) := hide (fun xs V h1 h2 => .inl ⟨_, xs, Nat.le_refl _, h1, h2⟩)
  have HJX := hide hJx
  clear hY hJ h0 hJx
  generalize J0 W.heap.size = J at HY HJ H0 HE
  have hzW := hW.size
  have HSW := hide (hS.out.below hW (Nat.le_refl _))
  refine callsIn_of_wp_marks Tryd.func66 rfl trivial ?_ rfl
  simp only [Tryd.ntmps66, List.size_toArray, List.length_cons, List.length_nil, Nat.reduceAdd, Nat.reduceSub, Array.replicate_succ, Array.replicate_zero, List.push_toArray, List.append_toArray, List.nil_append, List.cons_append]
  gi_wp2
  have hL9 : (fun x9 : World => Hid (Below W.heap.size W x9) ∧ x9.cell? ⟨W.heap.size, 0, none⟩ = some (.func (.yield l) #[] #[]) ∧ x9.heap.size = W.heap.size + 1) (W.alloc (.cells #[.func (.yield l) #[] #[]] 123)) := ⟨hide (balloc (Below.refl _ _) _), (by simp [go_sem]), (by simp)⟩
  generalize W.alloc (.cells #[.func (.yield l) #[] #[]] 123) = wa at *
  obtain ⟨HBa, hya, hza⟩ := hL9
  have HSa := hide (HSW.out.below HBa.out hzW)
  obtain ⟨pa, pc, ia, ic, e0, e1, t0, hph, hin⟩ := HSa.out.blk
  simp only [Nat.zero_add] at e1 t0
  clear e0 hph hin
  obtain ⟨k, hk⟩ := Int.eq_ofNat_of_zero_le (show 0 ≤ x.term.kind by omega)
  have hk1 : 1 ≤ k := by omega
  have hk3 : k ≤ 3 := by omega
  have HT : Hid (TerAt wa Bx 2 ⟨(k : Int), x.term.a, x.term.to, x.term.els⟩) := hide (by rw [← hk]; exact t0)
  have HRD := hide (rdT_any Bx 2 k x.term.a x.term.to x.term.els wa.drew (hide HT.out) hk1 hk3 (hide HSa.out.ter))
  have hrt : rdT ⟨(k : Int), x.term.a, x.term.to, x.term.els⟩ = rdT x.term := by unfold rdT; simp only; rw [← hk]
  rw [hrt] at HRD
  have HLR : Hid ((rdT x.term).length ≤ 1) := hide (by unfold rdT; split <;> simp)
  clear hrt t0
  obtain ⟨us, hus⟩ : ∃ us, us = rdT x.term := ⟨_, rfl⟩
  rw [← hus] at HRD HLR
  have HUS := hide hus
  clear hus
  have hwl : IntKind.i64.wrap ((x.instrs.length : Int) + 1) = (x.instrs.length : Int) + 1 := by rw [IntKind.wrap_i64]; omega
  refine wpIn_region_held_drew (S := (fun w' => w'.cell? ⟨W.heap.size, 0, none⟩ = some (.func (.yield l) #[] #[]) ∧ w'.cell? ⟨Bx, 1, none⟩ = some (.slice ia x.instrs.length ic))) (by kernel_rfl) (by (try dsimp only); go_keep) (fun hHeld => ?_)
  refine wpAnyHI_take (i := 0) (v := ?_) rfl (by kernel_rfl) (by kernel_rfl) (by kernel_rfl) (by kernel_rfl) (fun _ _ _ h => h) ⟨Or.inl ⟨by rfl, ?_⟩, fun _ => rfl⟩ (by assumption) ?_
  rotate_left
  · intro w hSw; (try dsimp only at hSw); go_simp; try with_reducible rfl
  simp only [Act.put, List.getElem_toArray, List.getElem_cons_zero, List.setIfInBounds_toArray, List.set_cons_zero, List.set_cons_succ]
  refine wpAnyHI_take (i := 1) (v := ?_) rfl (by kernel_rfl) (by kernel_rfl) (by kernel_rfl) (by kernel_rfl) (fun _ _ _ h => h) ⟨Or.inl ⟨by rfl, ?_⟩, fun _ => rfl⟩ (by assumption) ?_
  rotate_left
  · intro w hSw; (try dsimp only at hSw); go_simp; try with_reducible rfl
  simp only [Act.put, List.getElem_toArray, List.getElem_cons_zero, List.getElem_cons_succ, List.setIfInBounds_toArray, List.set_cons_zero, List.set_cons_succ]
  refine wpAnyHI_take (i := 2) (v := ?_) rfl (by kernel_rfl) (by kernel_rfl) (by kernel_rfl) (by kernel_rfl) (fun _ _ _ h => h) ⟨Or.inl ⟨by rfl, ?_⟩, fun _ => rfl⟩ (by assumption) ?_
  rotate_left
  · intro w hSw; (try dsimp only at hSw); go_simp; try with_reducible rfl
  simp only [Act.put, List.getElem_toArray, List.getElem_cons_zero, List.getElem_cons_succ, List.setIfInBounds_toArray, List.set_cons_zero, List.set_cons_succ]
  refine wpAnyHI_take (i := 3) (v := ?_) rfl (by kernel_rfl) (by kernel_rfl) (by kernel_rfl) (by kernel_rfl) (fun _ _ _ h => h) ⟨Or.inl ⟨by rfl, ?_⟩, fun _ => rfl⟩ (by assumption) ?_
  rotate_left
  · intro w hSw; (try dsimp only at hSw); go_simp; try with_reducible rfl
  simp only [Act.put, List.getElem_toArray, List.getElem_cons_zero, List.getElem_cons_succ, List.setIfInBounds_toArray, List.set_cons_zero, List.set_cons_succ]
  refine wpAnyHI_take (i := 4) (v := ?_) rfl (by kernel_rfl) (by kernel_rfl) (by kernel_rfl) (by kernel_rfl) (fun _ _ _ h => h) ⟨Or.inl ⟨by rfl, ?_⟩, fun _ => rfl⟩ (by assumption) ?_
  rotate_left
  · intro w hSw; (try dsimp only at hSw); go_simp; try with_reducible rfl
  simp only [Act.put, List.getElem_toArray, List.getElem_cons_zero, List.getElem_cons_succ, List.setIfInBounds_toArray, List.set_cons_zero, List.set_cons_succ]
  refine wpAnyHI_take (i := 5) (v := ?_) rfl (by kernel_rfl) (by kernel_rfl) (by kernel_rfl) (by kernel_rfl) (fun _ _ _ h => h) ⟨Or.inl ⟨by rfl, ?_⟩, fun _ => rfl⟩ (by assumption) ?_
  rotate_left
  · intro w hSw; (try dsimp only at hSw); go_simp; try with_reducible rfl
  simp only [Act.put, List.getElem_toArray, List.getElem_cons_zero, List.getElem_cons_succ, List.setIfInBounds_toArray, List.set_cons_zero, List.set_cons_succ]
  refine wpAnyHI_ready (rs := [6]) (by kernel_rfl) (by simp) ?_
  refine AllReadyHI.cons rfl (fun K hK => ?_) AllReadyHI.nil
  go_simp
  refine ⟨trivial, (callsIn_wide.2 HRD.out).mono ?_⟩
  rintro e w5 ⟨v5, rfl, hb5, ho5⟩
  obtain ⟨a5, c5, rfl, hi5⟩ := ints_owned ho5
  have hb5' : Below wa.heap.size wa w5 := ⟨hb5.os, hb5.tape, hb5.output, hb5.size, hb5.block⟩
  have HB5 := hide hb5'
  have y5 := (hb5'.cell (p := ⟨W.heap.size, 0, none⟩) (by show W.heap.size < _; omega)).trans hya
  have i5 := (hb5'.cell (p := ⟨Bx, 1, none⟩) (by have := hS.out.lt; show Bx < _; omega)).trans e1
  have HI5 : Hid (IntsAt w5 wa.heap.size w5.heap.size a5 us) := hide hi5
  have HVN := hide (valueNumbers_any a5 us.length c5 us wa.heap.size w5.heap.size w5 HI5 (hide rfl) (by have := HLR.out; omega) (Nat.le_refl _))
  clear hb5 ho5 hi5 HRD hb5'
  refine hK.out _ _ ⟨y5, i5⟩ (fun hHeld => ?_)
  clear hK
  try simp only [Act.put, List.getElem_toArray, List.getElem_cons_zero, List.getElem_cons_succ, List.setIfInBounds_toArray, List.set_cons_zero, List.set_cons_succ]
  refine wpAnyHI_ready (rs := [7]) (by kernel_rfl) (by simp) ?_
  refine AllReadyHI.cons rfl (fun K hK => ?_) AllReadyHI.nil
  go_simp
  refine ⟨trivial, (callsIn_wide.2 HVN.out).mono ?_⟩
  rintro e w6 ⟨a6, c6, rfl, hb6, hi6⟩
  have HB6 := hide (bnext HB5.out hb6)
  have y6 := (HB6.out.cell (p := ⟨W.heap.size, 0, none⟩) (by show W.heap.size < _; omega)).trans hya
  have i6 := (HB6.out.cell (p := ⟨Bx, 1, none⟩) (by have := hS.out.lt; show Bx < _; omega)).trans e1
  have HI6 := hide hi6
  have hz6 := HB6.out.size
  have hz65 := hb6.size
  have hz5 := HB5.out.size
  clear hb6 hi6 HVN y5 i5
  refine hK.out _ _ ⟨y6, i6⟩ (fun hHeld => ?_)
  clear hK
  try simp only [Act.put, List.getElem_toArray, List.getElem_cons_zero, List.getElem_cons_succ, List.setIfInBounds_toArray, List.set_cons_zero, List.set_cons_succ]
  refine wpAnyHI_take (i := 8) (v := ?_) rfl (by kernel_rfl) (by kernel_rfl) (by kernel_rfl) (by kernel_rfl) (fun _ _ _ h => h) ⟨Or.inl ⟨by rfl, ?_⟩, fun _ => rfl⟩ (by assumption) ?_
  rotate_left
  · intro w hSw; (try dsimp only at hSw); go_simp; try with_reducible rfl
  simp only [Act.put, List.getElem_toArray, List.getElem_cons_zero, List.getElem_cons_succ, List.setIfInBounds_toArray, List.set_cons_zero, List.set_cons_succ]
  have HS6 := hide (HSa.out.below HB6.out (by omega))
  have HJ6 : Hid (J [] w6) := hide (H0.out w6 (by omega) (bnext HBa.out HB6.out))
  obtain ⟨fn, tmps, asg, bo, hy, hR⟩ := HY.out [] ⟨x.instrs.length + 1, a6, c6, us, none, 0, []⟩ w6 HJ6.out ⟨hPd.out _ (by show ((x.instrs.length + 1 : Nat), us, ([] : List Int)) ∈ plL x; rw [HUS.out]; exact List.mem_cons_self), HI6.out.mono (by omega) (Nat.le_refl _), fun i hi => absurd hi (by simp)⟩ (by simp)
  have hy' : (Instr.yield l #[.int .i64 ((x.instrs.length : Int) + 1), .agg #[.slice a6 us.length c6, .slice none 0 0]]).run Tryd.prog w6 = _ := hy
  clear hy
  refine wpAnyHI_ready (rs := [9]) (by kernel_rfl) (by simp) ?_
  refine AllReadyHI.cons rfl (fun K hK => ?_) AllReadyHI.nil
  go_simp
  refine hR.mono ?_
  rintro e W3 (⟨rfl, hJ3, hk3', hf3⟩ | ⟨rfl, hJ3, hk3', hf3⟩)
  rotate_left
  · have HJ3 := hide hJ3
    have y3 := hk3'.cell y6 (hMn.out _ hzW)
    have i3 := hk3'.cell i6 hMx.out
    clear hJ3 hk3' hf3 hy' hR
    refine hK.out _ _ ⟨y3, i3⟩ (fun hHeld => ?_)
    clear hK hHeld
    try simp only [Act.put, List.getElem_toArray, List.getElem_cons_zero, List.getElem_cons_succ, List.setIfInBounds_toArray, List.set_cons_zero, List.set_cons_succ]
    have hHeld : (fun w' : World => w'.cell? ⟨W.heap.size, 0, none⟩ = some (.func (.yield l) #[] #[]) ∧ w'.cell? ⟨Bx, 1, none⟩ = some (.slice ia x.instrs.length ic)) W3 := ⟨y3, i3⟩
    refine wpAnyHI_take (i := 10) (v := ?_) rfl (by kernel_rfl) (by kernel_rfl) (by kernel_rfl) (by kernel_rfl) (fun _ _ _ h => h) ⟨Or.inl ⟨by rfl, ?_⟩, fun _ => rfl⟩ (by assumption) ?_
    rotate_left
    · intro w hSw; (try dsimp only at hSw); go_simp; try with_reducible rfl
    simp only [Act.put, List.getElem_toArray, List.getElem_cons_zero, List.getElem_cons_succ, List.setIfInBounds_toArray, List.set_cons_zero, List.set_cons_succ]
    refine wpAnyHI_doneN (by kernel_rfl) ?_ _
    clear hHeld y6 i6 hya e1
    gi_wp2
    exact ⟨.tuple #[], results_none rfl _ _ _, ⟨_, rfl⟩, .inr ⟨_, by show [((x.instrs.length + 1 : Nat), us, ([] : List Int))] <+: plL x; rw [HUS.out]; exact ⟨_, rfl⟩, HJ3.out⟩⟩
  have HJ3 := hide hJ3
  have HK3 := hide hk3'
  have HF3 := hide hf3
  have HS3 := hide (HS6.out.kp hk3' hM.out hMx.out hM1.out hM2.out)
  have y3 := hk3'.cell y6 (hMn.out _ hzW)
  have i3 := hk3'.cell i6 hMx.out
  have hz3 := hk3'.size
  clear hJ3 hk3' hf3 hy' hR
  refine hK.out _ _ ⟨y3, i3⟩ (fun hHeld => ?_)
  clear hK hHeld
  try simp only [Act.put, List.getElem_toArray, List.getElem_cons_zero, List.getElem_cons_succ, List.setIfInBounds_toArray, List.set_cons_zero, List.set_cons_succ]
  have hHeld : (fun w' : World => w'.cell? ⟨W.heap.size, 0, none⟩ = some (.func (.yield l) #[] #[]) ∧ w'.cell? ⟨Bx, 1, none⟩ = some (.slice ia x.instrs.length ic)) W3 := ⟨y3, i3⟩
  refine wpAnyHI_take (i := 10) (v := ?_) rfl (by kernel_rfl) (by kernel_rfl) (by kernel_rfl) (by kernel_rfl) (fun _ _ _ h => h) ⟨Or.inl ⟨by rfl, ?_⟩, fun _ => rfl⟩ (by assumption) ?_
  rotate_left
  · intro w hSw; (try dsimp only at hSw); go_simp; try with_reducible rfl
  simp only [Act.put, List.getElem_toArray, List.getElem_cons_zero, List.getElem_cons_succ, List.setIfInBounds_toArray, List.set_cons_zero, List.set_cons_succ]
  refine wpAnyHI_doneN (by kernel_rfl) ?_ _
  clear hHeld y6 i6 hya e1
  gi_wp2
  refine ⟨trivial, (backwardI_in Fence.wide 6 trivial rfl ia x.instrs.length ic W3).mono ?_⟩
  rintro e w4 ⟨rfl, hw4⟩
  have hb4 : Below W3.heap.size W3 w4 := by rw [hw4]; exact balloc (Below.refl _ _) _
  have hz4 : w4.heap.size = W3.heap.size + 1 := by rw [hw4]; simp
  have hs4 : w4.cell? ⟨W3.heap.size, 0, none⟩ = some (.slice ia x.instrs.length ic) := by rw [hw4]; simp [go_sem]
  have HS4 := hide (HS3.out.below hb4 (by omega))
  have HJ4 := hide (ownFrom_none HJ.out HJ3.out hb4)
  have y4 := (hb4.cell (p := ⟨W.heap.size, 0, none⟩) (by show W.heap.size < _; omega)).trans y3
  have HB34 := hide hb4
  have I3 := hide i3
  clear hw4 hb4 y3 i3
  have HS4C := hide hs4
  have HZ4 := hide hz4
  have hz4' : W.heap.size < w4.heap.size := by omega
  have HW34 : Hid (W3.heap.size < w4.heap.size) := hide (by omega)
  have HBW : Hid (w.heap.size ≤ w4.heap.size) := hide (by omega)
  have HY4 := hide y4
  clear hs4 hz4 y4
  gi_wp2
  have hMS : ¬ Ms W3.heap.size := hMn.out _ (by omega)
  refine wpIn_rangeFunc_ownH (F := Fence.wide) (n := 7) rfl (by decide) (gf := 85) (lb := #[.pointer (some ⟨W3.heap.size, 0, none⟩)]) rfl trivial (enters_of Tryd.func85 (by kernel_rfl) rfl) (backwardI_stops2 Fence.wide 6 trivial rfl (by decide) W3.heap.size n₀ ic Ms ia x.instrs L B (by omega) hS.out.le hM.out hMS w4 (Nat.le_trans hS.out.nn HBW.out) HW34.out HS4C.out (hide ?inss)) (fun h k => h.trans k) (fun V l' o o' h1 h2 h3 _ => KpB.putObj V l' o o' (Nat.le_trans hS.out.nn (Nat.le_trans HBW.out h1)) h2 h3) (Below.refl _ _) (fun _ => rfl)
    (fun pre V => ∃ ps : List Pl, ps.map Pl.dat = (x.instrs.length + 1, us, []) :: pre.map (plI x) ∧ J ps V ∧ Stc2 x L B Bx n₀ w.heap.size V ∧ V.cell? ⟨W.heap.size, 0, none⟩ = some (.func (.yield l) #[] #[]) ∧ w4.heap.size ≤ V.heap.size)
    (fun c pre V => c = .ret ∧ ∃ ps : List Pl, ps.map Pl.dat = (x.instrs.length + 1, us, []) :: pre.map (plI x) ∧ Jx ps V)
    ?ownI ?ownX ?start
    (fun j a' V => ∃ bi, a' = ⟨#[.func (.yield l) #[] #[], .pointer (some ⟨Bx, 0, none⟩), .pointer (some ⟨W.heap.size, 0, none⟩), .int .i64 ((j : Nat) : Int), .pointer (some ⟨bi, 0, none⟩), undef, undef, undef, .func (.yield l) #[] #[], .pointer (some ⟨Bx, 1, none⟩), .slice ia x.instrs.length ic, .int .i64 (x.instrs.length : Int), .int .i64 ((x.instrs.length : Int) + 1), .pointer (some ⟨Bx, 2, none⟩), .slice a5 us.length c5, .slice a6 us.length c6, .agg #[.slice a6 us.length c6, .slice none 0 0], .bool true, .bool false, .pointer (some ⟨Bx, 1, none⟩), .slice ia x.instrs.length ic, .func (.func 85) #[] #[.pointer (some ⟨W3.heap.size, 0, none⟩)], .int .i64 ((j : Nat) : Int), insV x.instrs[j], undef, undef, undef, undef, undef, undef, undef, undef, undef, undef, undef, undef, undef, undef, undef, undef, undef, undef, undef, undef, undef, undef, undef, undef, undef, undef, undef, undef, undef], []⟩ ∧ w4.heap.size ≤ bi ∧ InsAt V bi 0 x.instrs[j]) ?ownA ?assign ?body ?done ?stop
  case inss =>
    obtain ⟨pa', pc', ia', ic', _, f1, _, _, f4⟩ := HS4.out.blk
    simp only [Nat.zero_add] at f1
    have hia : ia' = ia := by
      have h3 := (HB34.out.cell (p := ⟨Bx, 1, none⟩) (by show Bx < _; have := hS.out.lt; omega)).trans I3.out
      rw [f1] at h3
      injection h3 with h3
      injection h3
    rw [← hia]
    exact f4
  case ownI =>
    rintro pre A V row ⟨ps, p1, p2, p3, p4, p5⟩ k q
    have hblk : ∀ i, i < w4.heap.size → V.heap[i]? = A.heap[i]? := fun i hi => k.block i (by omega) (fun e => by have := (q i e.symm).1; omega)
    refine ⟨ps, p1, HJ.out ps A V row p2 k (fun r e => ⟨by have := (q r e).1; omega, (q r e).2⟩), p3.same (fun i hi => hblk i (Nat.lt_of_lt_of_le hi HBW.out)) k.size, ?_, Nat.le_trans p5 k.size⟩
    exact (cell_of (hblk _ hz4')).trans p4
  case ownX =>
    rintro c pre A V row ⟨rfl, ps, p0, p1⟩ k q
    exact ⟨rfl, ps, p0, HJX.out ps A V row p1 k (fun r e => ⟨by have := (q r e).1; omega, (q r e).2⟩)⟩
  case start => exact ⟨[⟨x.instrs.length + 1, a6, c6, us, none, 0, []⟩], rfl, HJ4.out, HS4.out, HY4.out, Nat.le_refl _⟩
  case ownA =>
    rintro j a' _ A V row ⟨bi, e, hbi, hins⟩ k q
    have hbl : V.heap[bi]? = A.heap[bi]? := by
      obtain ⟨o, h1, h2⟩ := cells_of_cell hins.1
      refine k.block bi (Array.getElem?_eq_some_iff.1 h1).1 (fun e => ?_)
      obtain ⟨_, o2, h3, h4⟩ := q bi e.symm
      rw [show A.heap[bi]? = some o from h1] at h3
      injection h3 with h3
      subst h3
      rw [h2] at h4
      cases h4
    have hc := fun o => cell_of (o := o) hbl
    exact ⟨bi, e, hbi, (hc _).trans hins.1, (hc _).trans hins.2.1, (hc _).trans hins.2.2.1, (hc _).trans hins.2.2.2.1, (hc _).trans hins.2.2.2.2⟩
  case assign =>
    intro l' pre j V K hI hK
    have HI := hide hI
    have HKK := hide hK
    clear hI hK
    unfold insV
    gi_wp2
    have hbA : Below V.heap.size V (V.alloc (.cells #[.int .i64 x.instrs[j].op, .int .i64 x.instrs[j].dst, .int .i64 x.instrs[j].a, .int .i64 x.instrs[j].b, .int .i64 x.instrs[j].imm] 69)) := balloc (Below.refl _ _) _
    obtain ⟨ps, p1, p2, p3, p4, p5⟩ := HI.out
    refine HKK.out _ _ ⟨hbA.size, fun k o _ h1 _ => (hbA.block k (Array.getElem?_eq_some_iff.1 h1).1).trans h1⟩ (KpB.of_below hbA (by have := HBW.out; have := hS.out.nn; omega)) ⟨ps, p1, ownFrom_none HJ.out p2 hbA, p3.below hbA (by have := HBW.out; omega), (hbA.cell (p := ⟨W.heap.size, 0, none⟩) (by show W.heap.size < _; omega)).trans p4, Nat.le_trans p5 hbA.size⟩ ⟨V.heap.size, rfl, p5, ?_⟩
    exact ⟨by simp [go_sem], by simp [go_sem], by simp [go_sem], by simp [go_sem], by simp [go_sem]⟩
  case body =>
    rintro l' pre j a' V hl' _ ⟨ps, p1, p2, p3, p4, p5⟩ ⟨bi, rfl, hbi, hins⟩ hlen
    have HP1 := hide p1
    have HP2 := hide p2
    have HP3 := hide p3
    have hop := hops.out x.instrs[j] (List.getElem_mem _)
    obtain ⟨kk, hkk⟩ := Int.eq_ofNat_of_zero_le (show 0 ≤ x.instrs[j].op by omega)
    have hk1' : 1 ≤ kk := by omega
    have hk13 : kk ≤ 13 := by omega
    have hbil : bi < V.heap.size := World.block_lt_of_cell? V _ hins.1
    have HIN : Hid (InsAt V bi 0 ⟨(kk : Int), x.instrs[j].dst, x.instrs[j].a, x.instrs[j].b, x.instrs[j].imm⟩) := hide (by rw [← hkk]; exact hins)
    have hri : rdI ⟨(kk : Int), x.instrs[j].dst, x.instrs[j].a, x.instrs[j].b, x.instrs[j].imm⟩ = rdI x.instrs[j] := by rw [← hkk]
    have hwi : writesI ⟨(kk : Int), x.instrs[j].dst, x.instrs[j].a, x.instrs[j].b, x.instrs[j].imm⟩ = writesI x.instrs[j] := by rw [← hkk]
    have HRD := hide (rdI_any bi kk x.instrs[j].dst x.instrs[j].a x.instrs[j].b x.instrs[j].imm V.drew (hide HIN.out) hk1' hk13 (hide HP3.out.op))
    have HWR : Hid (∀ V', Below V.heap.size V V' → _) := hide (fun V' (hV : Below V.heap.size V V') => writes_any bi kk x.instrs[j].dst x.instrs[j].a x.instrs[j].b x.instrs[j].imm V' (hide (by
      have hc := fun o => hV.cell (p := ⟨bi, o, none⟩) hbil
      exact ⟨(hc _).trans HIN.out.1, (hc _).trans HIN.out.2.1, (hc _).trans HIN.out.2.2.1, (hc _).trans HIN.out.2.2.2.1, (hc _).trans HIN.out.2.2.2.2⟩)) hk1' hk13 (hide (HP3.out.below hV (by have := HBW.out; omega)).op))
    rw [hri] at HRD
    simp only [hwi] at HWR
    obtain ⟨ui, hui⟩ : ∃ u, u = rdI x.instrs[j] := ⟨_, rfl⟩
    obtain ⟨di, hdi⟩ : ∃ u, u = writesI x.instrs[j] := ⟨_, rfl⟩
    rw [← hui] at HRD
    simp only [← hdi] at HWR
    have HUI := hide hui
    have HDI := hide hdi
    have hul : ui.length ≤ 2 := by rw [hui]; exact rdI_le _
    have hdl : di.length ≤ 1 := by rw [hdi]; unfold writesI; split <;> simp
    clear hui hdi hri hwi hins p1 p2 p3 hkk hop
    have HPL : Hid (ps.length < x.instrs.length + 1) := hide (by
      have h := congrArg List.length HP1.out
      simp at h
      omega)
    have hwj : IntKind.i64.wrap (((j : Nat) : Int) + 1) = ((j : Nat) : Int) + 1 := by have := j.isLt; rw [IntKind.wrap_i64]; omega
    gi_wp2
    refine wpIn_region_held_drew (S := (fun w' => w'.cell? ⟨W.heap.size, 0, none⟩ = some (.func (.yield l) #[] #[]))) (by kernel_rfl) (by (try dsimp only); go_keep) (fun hHeld => ?_)
    refine wpAnyHI_take (i := 0) (v := ?_) rfl (by kernel_rfl) (by kernel_rfl) (by kernel_rfl) (by kernel_rfl) (fun _ _ _ h => h) ⟨Or.inl ⟨by rfl, ?_⟩, fun _ => rfl⟩ (by assumption) ?_
    rotate_left
    · intro w hSw; (try dsimp only at hSw); go_simp; try with_reducible rfl
    simp only [Act.put, List.getElem_toArray, List.getElem_cons_zero, List.setIfInBounds_toArray, List.set_cons_zero, List.set_cons_succ]
    refine wpAnyHI_take (i := 1) (v := ?_) rfl (by kernel_rfl) (by kernel_rfl) (by kernel_rfl) (by kernel_rfl) (fun _ _ _ h => h) ⟨Or.inl ⟨by rfl, ?_⟩, fun _ => rfl⟩ (by assumption) ?_
    rotate_left
    · intro w hSw; (try dsimp only at hSw); go_simp; try with_reducible rfl
    simp only [Act.put, List.getElem_toArray, List.getElem_cons_zero, List.getElem_cons_succ, List.setIfInBounds_toArray, List.set_cons_zero, List.set_cons_succ]
    refine wpAnyHI_take (i := 2) (v := ?_) rfl (by kernel_rfl) (by kernel_rfl) (by kernel_rfl) (by kernel_rfl) (fun _ _ _ h => h) ⟨Or.inl ⟨by rfl, ?_⟩, fun _ => rfl⟩ (by assumption) ?_
    rotate_left
    · intro w hSw; (try dsimp only at hSw); go_simp; try with_reducible rfl
    simp only [Act.put, List.getElem_toArray, List.getElem_cons_zero, List.getElem_cons_succ, List.setIfInBounds_toArray, List.set_cons_zero, List.set_cons_succ]
    refine wpAnyHI_ready (rs := [3]) (by kernel_rfl) (by simp) ?_
    refine AllReadyHI.cons rfl (fun K hK => ?_) AllReadyHI.nil
    go_simp
    refine ⟨trivial, (CallsIn.inRound l' (callsIn_wide.2 HRD.out)).mono ?_⟩
    rintro e V1 ⟨v1, rfl, hb1, ho1⟩
    obtain ⟨a1, c1, rfl, hi1⟩ := ints_owned ho1
    have HB1 : Hid (Below V.heap.size V V1) := hide ⟨hb1.os, hb1.tape, hb1.output, hb1.size, hb1.block⟩
    have HI1 : Hid (IntsAt V1 V.heap.size V1.heap.size a1 ui) := hide hi1
    have y1 := (HB1.out.cell (p := ⟨W.heap.size, 0, none⟩) (by show W.heap.size < _; omega)).trans p4
    have HVN := hide (valueNumbers_any a1 ui.length c1 ui V.heap.size V1.heap.size V1 HI1 (hide rfl) (by omega) (Nat.le_refl _))
    clear hb1 ho1 hi1 HRD
    refine hK.out _ _ y1 (fun hHeld => ?_)
    clear hK
    try simp only [Act.put, List.getElem_toArray, List.getElem_cons_zero, List.getElem_cons_succ, List.setIfInBounds_toArray, List.set_cons_zero, List.set_cons_succ]
    refine wpAnyHI_ready (rs := [4]) (by kernel_rfl) (by simp) ?_
    refine AllReadyHI.cons rfl (fun K hK => ?_) AllReadyHI.nil
    go_simp
    refine ⟨trivial, (CallsIn.inRound l' (callsIn_wide.2 HVN.out)).mono ?_⟩
    rintro e V2 ⟨a2, c2, rfl, hb2, hi2⟩
    have HB2 := hide (bnext HB1.out hb2)
    have HI2 : Hid (IntsAt V2 V.heap.size V2.heap.size a2 ui) := hide (hi2.mono HB1.out.size (Nat.le_refl _))
    have y2 := (HB2.out.cell (p := ⟨W.heap.size, 0, none⟩) (by show W.heap.size < _; omega)).trans p4
    have HW2 := hide (HWR.out V2 HB2.out)
    clear hb2 hi2 HVN HWR y1 HI1 HB1
    refine hK.out _ _ y2 (fun hHeld => ?_)
    clear hK
    try simp only [Act.put, List.getElem_toArray, List.getElem_cons_zero, List.getElem_cons_succ, List.setIfInBounds_toArray, List.set_cons_zero, List.set_cons_succ]
    refine wpAnyHI_ready (rs := [5]) (by kernel_rfl) (by simp) ?_
    refine AllReadyHI.cons rfl (fun K hK => ?_) AllReadyHI.nil
    go_simp
    refine ⟨trivial, (CallsIn.inRound l' (callsIn_wide.2 HW2.out)).mono ?_⟩
    rintro e V3 ⟨v3, rfl, hb3, ho3⟩
    obtain ⟨a3, c3, rfl, hi3⟩ := ints_owned ho3
    have HI23 : Hid (IntsAt V3 V.heap.size V3.heap.size a2 ui) := hide ((HI2.out.keep hb3).mono (Nat.le_refl _) hb3.size)
    have HB3 := hide (bnext HB2.out hb3)
    have HI3 : Hid (IntsAt V3 V2.heap.size V3.heap.size a3 di) := hide hi3
    have y3 := (HB3.out.cell (p := ⟨W.heap.size, 0, none⟩) (by show W.heap.size < _; omega)).trans p4
    have HVN := hide (valueNumbers_any a3 di.length c3 di V2.heap.size V3.heap.size V3 HI3 (hide rfl) (by omega) (Nat.le_refl _))
    clear hb3 ho3 hi3 HW2 y2 HB2 HI2 HI3
    refine hK.out _ _ y3 (fun hHeld => ?_)
    clear hK
    try simp only [Act.put, List.getElem_toArray, List.getElem_cons_zero, List.getElem_cons_succ, List.setIfInBounds_toArray, List.set_cons_zero, List.set_cons_succ]
    refine wpAnyHI_ready (rs := [6]) (by kernel_rfl) (by simp) ?_
    refine AllReadyHI.cons rfl (fun K hK => ?_) AllReadyHI.nil
    go_simp
    refine ⟨trivial, (CallsIn.inRound l' (callsIn_wide.2 HVN.out)).mono ?_⟩
    rintro e V4 ⟨a4, c4, rfl, hb4, hi4⟩
    have HI24 : Hid (IntsAt V4 V.heap.size V4.heap.size a2 ui) := hide ((HI23.out.keep hb4).mono (Nat.le_refl _) hb4.size)
    have HB4 := hide (bnext HB3.out hb4)
    have HI4 : Hid (IntsAt V4 V.heap.size V4.heap.size a4 di) := hide (hi4.mono HB3.out.size (Nat.le_refl _))
    have y4 := (HB4.out.cell (p := ⟨W.heap.size, 0, none⟩) (by show W.heap.size < _; omega)).trans p4
    clear hb4 hi4 HVN y3 HB3 HI23
    refine hK.out _ _ y4 (fun hHeld => ?_)
    clear hK
    try simp only [Act.put, List.getElem_toArray, List.getElem_cons_zero, List.getElem_cons_succ, List.setIfInBounds_toArray, List.set_cons_zero, List.set_cons_succ]
    refine wpAnyHI_take (i := 7) (v := ?_) rfl (by kernel_rfl) (by kernel_rfl) (by kernel_rfl) (by kernel_rfl) (fun _ _ _ h => h) ⟨Or.inl ⟨by rfl, ?_⟩, fun _ => rfl⟩ (by assumption) ?_
    rotate_left
    · intro w hSw; (try dsimp only at hSw); go_simp; try with_reducible rfl
    simp only [Act.put, List.getElem_toArray, List.getElem_cons_zero, List.getElem_cons_succ, List.setIfInBounds_toArray, List.set_cons_zero, List.set_cons_succ]
    have hVz : w.heap.size ≤ V.heap.size := by have := HBW.out; omega
    have HS5 := hide (HP3.out.below HB4.out hVz)
    obtain ⟨fn, tmps, asg, bo, hy, hR⟩ := yield_wide (l' := l') (m' := 4) (HY.out ps ⟨(j : Nat) + 1, a2, c2, ui, a4, c4, di⟩ V4 (ownFrom_none HJ.out HP2.out HB4.out) ⟨hPd.out _ (by have h := plI_mem x j; unfold plI at h; rw [← HUI.out, ← HDI.out] at h; exact h), HI24.out.mono hVz (Nat.le_refl _), HI4.out.mono hVz (Nat.le_refl _)⟩ (by have := HPL.out; omega))
    have hy' : (Instr.yield l #[.int .i64 (((j : Nat) : Int) + 1), .agg #[.slice a2 ui.length c2, .slice a4 di.length c4]]).run Tryd.prog V4 = _ := hy
    clear hy
    refine wpAnyHI_ready (rs := [8]) (by kernel_rfl) (by simp) ?_
    refine AllReadyHI.cons rfl (fun K hK => ?_) AllReadyHI.nil
    go_simp
    refine hR.mono ?_
    rintro e V5 (⟨rfl, hJ5, hk5, hf5⟩ | ⟨rfl, hJ5, hk5, hf5⟩)
    rotate_left
    · have y5 := hk5.cell y4 (hMn.out _ hzW)
      have HJ5 := hide hJ5
      have HK5 := hide hk5
      have HF5 := hide hf5
      clear hJ5 hk5 hf5 hy' hR
      refine hK.out _ _ y5 (fun hHeld => ?_)
      clear hK
      try simp only [Act.put, List.getElem_toArray, List.getElem_cons_zero, List.getElem_cons_succ, List.setIfInBounds_toArray, List.set_cons_zero, List.set_cons_succ]
      refine wpAnyHI_take (i := 9) (v := ?_) rfl (by kernel_rfl) (by kernel_rfl) (by kernel_rfl) (by kernel_rfl) (fun _ _ _ h => h) ⟨Or.inl ⟨by rfl, ?_⟩, fun _ => rfl⟩ (by assumption) ?_
      rotate_left
      · intro w hSw; (try dsimp only at hSw); go_simp; try with_reducible rfl
      simp only [Act.put, List.getElem_toArray, List.getElem_cons_zero, List.getElem_cons_succ, List.setIfInBounds_toArray, List.set_cons_zero, List.set_cons_succ]
      refine wpAnyHI_doneN (by kernel_rfl) ?_ _
      gi_wp2
      have hkV : KpB n₀ Ms V V5 := (KpB.of_below HB4.out (Nat.le_trans hS.out.nn hVz)).trans HK5.out
      refine ⟨⟨hkV.size, fun k o h1 h2 h3 => HF5.out.same k o (by omega) ((HB4.out.block k (Array.getElem?_eq_some_iff.1 h2).1).trans h2) h3⟩, rfl, ps ++ [⟨(j : Nat) + 1, a2, c2, ui, a4, c4, di⟩], ?_, HJ5.out⟩
      rw [List.map_append, HP1.out, List.map_append]
      show _ = (x.instrs.length + 1, us, []) :: (pre.map (plI x) ++ [plI x j])
      rw [← List.cons_append]
      congr 1
      unfold plI Pl.dat
      simp only [List.map_cons, List.map_nil]
      rw [HUI.out, HDI.out]
    have y5 := hk5.cell y4 (hMn.out _ hzW)
    have HJ5 := hide hJ5
    have HK5 := hide hk5
    have HF5 := hide hf5
    clear hJ5 hk5 hf5 hy' hR
    refine hK.out _ _ y5 (fun hHeld => ?_)
    clear hK
    try simp only [Act.put, List.getElem_toArray, List.getElem_cons_zero, List.getElem_cons_succ, List.setIfInBounds_toArray, List.set_cons_zero, List.set_cons_succ]
    refine wpAnyHI_take (i := 9) (v := ?_) rfl (by kernel_rfl) (by kernel_rfl) (by kernel_rfl) (by kernel_rfl) (fun _ _ _ h => h) ⟨Or.inl ⟨by rfl, ?_⟩, fun _ => rfl⟩ (by assumption) ?_
    rotate_left
    · intro w hSw; (try dsimp only at hSw); go_simp; try with_reducible rfl
    simp only [Act.put, List.getElem_toArray, List.getElem_cons_zero, List.getElem_cons_succ, List.setIfInBounds_toArray, List.set_cons_zero, List.set_cons_succ]
    refine wpAnyHI_doneN (by kernel_rfl) ?_ _
    gi_wp2
    have hkV : KpB n₀ Ms V V5 := (KpB.of_below HB4.out (Nat.le_trans hS.out.nn hVz)).trans HK5.out
    refine ⟨⟨hkV.size, fun k o h1 h2 h3 => HF5.out.same k o (by omega) ((HB4.out.block k (Array.getElem?_eq_some_iff.1 h2).1).trans h2) h3⟩, hkV, ps ++ [⟨(j : Nat) + 1, a2, c2, ui, a4, c4, di⟩], ?_, HJ5.out, HS5.out.kp HK5.out hM.out hMx.out hM1.out hM2.out, y5, Nat.le_trans p5 hkV.size⟩
    rw [List.map_append, HP1.out, List.map_append]
    show _ = (x.instrs.length + 1, us, []) :: (pre.map (plI x) ++ [plI x j])
    rw [← List.cons_append]
    congr 1
    unfold plI Pl.dat
    simp only [List.map_cons, List.map_nil]
    rw [HUI.out, HDI.out]
  case done =>
    rintro D ys V hD rfl ⟨ps, p1, p2, p3, p4, p5⟩ hKD
    have HP1 := hide p1
    have HP2 := hide p2
    have HP3 := hide p3
    have HKD := hide hKD
    have HP4 := hide p4
    obtain ⟨pa', pc', ia', ic', f0, f1, _, f3, _⟩ := p3.blk
    have HPH := hide f3
    have hBxV : Bx < V.heap.size := World.block_lt_of_cell? V _ f0
    have f0a := fun o => (World.cell?_alloc_lt V o ⟨Bx, 0, none⟩ hBxV).trans f0
    have hp4V : W.heap.size < V.heap.size := by omega
    clear f1 f3 p1 p2 p3 hKD f0 p4
    obtain ⟨i0, hi0, hz0, hz1, hz2⟩ := info_parts Tryd.infoVn
    gi_wp2
    clear f0a
    gi_loopw [38] (fun i wr => ∃ k : Nat, k ≤ x.phis.length ∧ i = .int .i64 k ∧ Hid (Below V.heap.size V wr) ∧ wr.cell? ⟨V.heap.size, 0, none⟩ = some (.slice none 0 0) ∧ wr.frozen? ⟨V.heap.size, 1, none⟩ = false ∧ ∃ u, wr.cell? ⟨V.heap.size, 1, none⟩ = some u ∧ Hid (wr.ownsRow (V.heap.size + 1) 52 1 u k (((x.phis.map Ph.dst).take k).map (Value.int .i64)))) (fun i _ => x.phis.length - (intOf i).toNat)
    case atStart => exact ⟨0, Nat.zero_le _, rfl, hide (balloc (Below.refl _ _) _), by simp [go_sem], by simp [go_sem], .slice none 0 0, by simp [go_sem], hide (World.ownsRow_nil _ _ _ _)⟩
    case round =>
      obtain ⟨k, hkn, rfl, HB, c0, z1, u, c1, HO⟩ := hrel
      by_cases hlt : k < x.phis.length
      · obtain ⟨b, o, rfl, hbB, ap, cp, h1, h2, _⟩ := HPH.out k hlt
        have hbV : b < V.heap.size := World.block_lt_of_cell? V _ h1
        have g1 := (HB.out.cell (p := ⟨b, o + k * 2, none⟩) hbV).trans h1
        have g2 := (HB.out.cell (p := ⟨b, o + k * 2 + 1, none⟩) hbV).trans h2
        have HN : Hid ((x.phis.map Ph.dst).take (k + 1) = (x.phis.map Ph.dst).take k ++ [x.phis[k].dst]) := hide (by rw [take_next _ _ (by simpa using hlt)]; simp)
        have hsz : V.heap.size < wr.heap.size := World.block_lt_of_cell? wr _ c0
        clear h1 h2
        generalize x.phis[k] = ph at *
        generalize (x.phis.map Ph.dst).take k = dk at *
        gi_wp2_with (gi_at_builtin; refine wpListIn_append_own _ rfl _ _ 95 rfl (V.heap.size + 1) 52 i0 (.int .i64 0) 1 8 Tryd.underlying95 hi0 hz0 hz1 hz2 rfl (by decide) _ _ _ rfl ((HO.out.alloc _).alloc _) ⟨wr.heap.size + 1, 0, none⟩ 1 1 [.int .i64 ph.dst] rfl rfl ?c1 ?c2 ?c3 ?c4 ?c5 ?_)
        case c1 =>
          intro j u hj
          match j, hj with
          | 0, hj => simp at hj; subst hj; simp [Addr.add, go_sem]
        case c2 => intro u hu; simp at hu; subst hu; rfl
        case c3 => unfold maxLen; omega
        case c4 => omega
        case c5 => simp; omega
        intro v1 w1 hown1 hgrow1 _
        obtain ⟨av, cv, hv, _⟩ := ints_owned (xs := dk ++ [ph.dst]) (by rw [ints_snoc]; exact hown1)
        have HV := hide hv
        have HO1 := hide hown1
        have HB1 := hide (grown_below (balloc (balloc HB.out _) _) hgrow1 ((HO.out.alloc _).alloc _) (by omega) (by have := HB.out.size; simp; omega))
        have hbk := grown_block hgrow1 ((HO.out.alloc _).alloc _) (b := V.heap.size) (by omega) (by simp; omega)
        have k0 : w1.cell? ⟨V.heap.size, 0, none⟩ = some (.slice none 0 0) := (cell_of hbk).trans (((balloc (balloc (Below.refl wr.heap.size wr) _) _).cell (p := ⟨V.heap.size, 0, none⟩) hsz).trans c0)
        have k1 : w1.cell? ⟨V.heap.size, 1, none⟩ = some u := (cell_of hbk).trans (((balloc (balloc (Below.refl wr.heap.size wr) _) _).cell (p := ⟨V.heap.size, 1, none⟩) hsz).trans c1)
        have kz : w1.frozen? ⟨V.heap.size, 1, none⟩ = false := by
          rw [World.frozen?_of_block (a := ⟨V.heap.size, 1, none⟩) hbk]
          exact ((balloc (balloc (Below.refl wr.heap.size wr) _) _).frozen (p := ⟨V.heap.size, 1, none⟩) hsz).trans z1
        clear hown1 hgrow1 hbk c0 c1 z1
        rw [hv]
        clear hv
        gi_wp2
        have hv2 := HV.out
        rw [List.length_append, List.length_cons, List.length_nil, Nat.zero_add] at hv2
        rw [← hv2]
        clear hv2
        refine ⟨⟨k + 1, by omega, by go_num, hide (HB1.out.setCell (Nat.le_refl _) _), ?_, ?_, v1, ?_, hide ?_⟩, by simp [intOf]; omega⟩
        · exact (World.cell?_setCell_other w1 ⟨V.heap.size, 1, none⟩ ⟨V.heap.size, 0, none⟩ v1 (by simp)).trans k0
        · exact (World.frozen?_setCell _ _ _ _).trans kz
        · exact World.cell?_setCell_same' w1 _ v1 (by rw [k1]; rfl)
        · rw [HN.out, ints_snoc]
          exact HO1.out.kept (row := some V.heap.size) ⟨rfl, rfl, rfl, by simp [World.setCell], fun k _ hk => Below.heap_setCell _ _ _ _ (fun e => hk (by rw [e]))⟩ (Or.inr (fun e => by have := (HO1.out.lt _ e).1; omega))
      · have hke : k = x.phis.length := by omega
        subst hke
        have hown := HO.out
        rw [List.take_of_length_le (by simp)] at hown
        obtain ⟨av, cv, rfl, hiv⟩ := ints_owned hown
        have HIV := hide hiv
        have hVz : w.heap.size ≤ V.heap.size := by have := HBW.out; omega
        have hdz : D < V.heap.size := (Array.getElem?_eq_some_iff.1 HKD.out).1
        have HDr := hide ((HB.out.block D hdz).trans HKD.out)
        have yr := (HB.out.cell (p := ⟨W.heap.size, 0, none⟩) hp4V).trans HP4.out
        have HPL : Hid (ps.length = x.instrs.length + 1) := hide (by
          have h := congrArg List.length HP1.out
          simp [bwF_len] at h
          omega)
        clear hown hiv
        obtain ⟨fn, tmps, asg, bo, hy, hR⟩ := HY.out ps ⟨0, none, 0, [], av, cv, x.phis.map Ph.dst⟩ wr (ownFrom_none HJ.out HP2.out HB.out) ⟨hPd.out _ (plL_last x), fun i hi => absurd hi (by simp), HIV.out.mono (by omega) (Nat.le_refl _)⟩ (by have := HPL.out; omega)
        have hy' : (Instr.yield l #[.int .i64 0, .agg #[.slice none 0 0, .slice av (x.phis.map Ph.dst).length cv]]).run Tryd.prog wr = _ := hy
        rw [List.length_map] at hy' c1
        clear hy
        gi_wp2
        refine hR.mono ?_
        rintro e V9 (⟨rfl, hJ9, hk9, hf9⟩ | ⟨rfl, hJ9, hk9, hf9⟩)
        rotate_left
        · have HJ9 := hide hJ9
          have HD9 := hide (hf9.same D _ (by omega) HDr.out rfl)
          clear hJ9 hk9 hf9 hy' hR
          gi_wp2
          refine leaves_one HD9.out ⟨.tuple #[], results_none rfl _ _ _, ⟨_, rfl⟩, .inr ⟨ps ++ [⟨0, none, 0, [], av, cv, x.phis.map Ph.dst⟩], ?_, HJX.out.putObj _ HJ9.out (by omega) HD9.out rfl⟩⟩
          rw [List.map_append, HP1.out, HUS.out]
          exact List.prefix_refl _
        have HJ9 := hide hJ9
        have HD9 := hide (hf9.same D _ (by omega) HDr.out rfl)
        clear hJ9 hk9 hf9 hy' hR
        gi_wp2
        refine leaves_one HD9.out ⟨.tuple #[], results_none rfl _ _ _, ⟨_, rfl⟩, HE.out (ps ++ [⟨0, none, 0, [], av, cv, x.phis.map Ph.dst⟩]) _ ?_ (HJ.out.putObj _ HJ9.out (by omega) HD9.out rfl)⟩
        rw [List.map_append, HP1.out, HUS.out]
        rfl
  case stop =>
    rintro D c pre V hD ⟨q, hq⟩ ⟨rfl, ps, p0, p1⟩ hKD
    have HP0 := hide p0
    have HQ := hide hq
    clear p0 hq
    have HP1 := hide p1
    have HKD := hide hKD
    clear p1 hKD
    gi_wp2
    refine leaves_one HKD.out ⟨.tuple #[], results_none rfl _ _ _, ⟨_, rfl⟩, .inr ⟨ps, ?_, HJX.out.putObj _ HP1.out (by omega) HKD.out rfl⟩⟩
    rw [HP0.out, HUS.out, HQ.out]
    obtain ⟨t, ht⟩ := bwF_prefix x.instrs.length q
    refine ⟨t.map (plI x) ++ [(0, [], x.phis.map Ph.dst)], ?_⟩
    unfold plL
    rw [List.cons_append, ← List.append_assoc, ← List.map_append, ht]
end
end Go.Proofs.YtanaeindldcapaaDoor
