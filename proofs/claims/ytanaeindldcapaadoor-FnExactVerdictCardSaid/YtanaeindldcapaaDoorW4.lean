import Derived.Test.YtanaeindldcapaaDoorVS1
namespace Go.Proofs.YtanaeindldcapaaDoor
open Go.RowKit
set_option maxHeartbeats 400000 in
theorem toPhi_any (d : Int) (a : Option Addr) (n c : Nat) (xs : List Int) (L B : Nat) (w : World) (ha : Hid (IntsAt w L B a xs)) (hx : Hid (n = xs.length)) (hn : n ≤ 1048576) (hB : B ≤ w.heap.size) :
    Calls Tryd.prog 80 #[.agg #[.int .i64 d, .slice a n c]] w fun e w' => ∃ a' c', e = .returned (.agg #[.int .i64 d, .slice a' n c']) ∧ Below w.heap.size w w' ∧ IntsAt w' w.heap.size w'.heap.size a' xs ∧ Thaw w.heap.size w' := by
  go_enter Tryd.func80, Tryd.ntmps80
  go_wp2_with fail
  refine (toInts_any _ _ _ xs L B _ ?q1 hx hn ?q2).mono ?_
  case q1 => exact ha.out.keep ((((Below.refl _ _).alloc (by omega) _).alloc (by simp; omega) _).alloc (by simp; omega) _)
  case q2 => simp; omega
  rintro e w1 ⟨c', rfl, hb1, hi1, ht1⟩
  have HT1 := hide (((((Thaw.start w).alloc _ _).alloc _ _).alloc _ _).trans hb1 ht1)
  clear ht1
  have b1 := bnext (balloc (balloc (balloc (Below.refl w.heap.size w) _) _) _) hb1
  have hz1 := hb1.size
  simp at hz1
  have hz2 : w.heap.size < w1.heap.size := by omega
  have hz3 : w.heap.size + 1 < w1.heap.size := by omega
  have hz4 : w.heap.size + 1 + 1 < w1.heap.size := by omega
  obtain ⟨hc1, hf1⟩ := bcell hb1
  have HI := hide hi1
  clear hi1
  go_wp2
  refine bodyPost_ret (v := .agg #[.int .i64 d, .slice (some ⟨w.heap.size + 1 + 1 + 1, 0, none⟩) n c']) (by simp [results, Tryd.results80, go_sem, hc1]) rfl ⟨_, _, rfl, ?_, ?_, ((HT1.out.setCell _ _).setCell _ _).setCell _ _⟩
  · exact ((b1.setCell (by simp; omega) _).setCell (by simp) _).setCell (by simp) _
  · have h := HI.out
    simp only [World.size_alloc] at h
    exact (h.keepS ((((Same.refl _ _ _).setCell (Or.inl (by simp)) _).setCell (Or.inl (by simp)) _).setCell (Or.inl (by simp)) _)).mono (by omega) (by simp only [size_setCell]; omega)
theorem Tryd.infoPhi : (Tryd.prog.info? 72).map (fun i => (i.zero, i.size, i.bytes)) = some (some (.agg #[.int .i64 0, .slice none 0 0]), 2, 32) := by kernel_rfl
set_option maxHeartbeats 400000 in
theorem toPhis_any (a : Option Addr) (n c : Nat) (xs : List Ph) (L B : Nat) (w : World) (ha : Hid (PhsAt w L B a xs)) (hx : Hid (n = xs.length)) (hs : Hid (PhLen xs)) (hn : n ≤ 1048576) (hB : B ≤ w.heap.size) :
    Calls Tryd.prog 58 #[.slice a n c] w fun e w' => ∃ c', e = .returned (.slice (some ⟨w.heap.size, 0, none⟩) n c') ∧ Below w.heap.size w w' ∧ PhsAt w' w.heap.size w'.heap.size (some ⟨w.heap.size, 0, none⟩) xs ∧ Thaw w.heap.size w' := by
  have hmk := run_make_rows (P := Tryd.prog) 62 72 _ 2 32 Tryd.underlying62 Tryd.infoPhi n (by omega) (by omega)
  go_enter Tryd.func58, Tryd.ntmps58
  go_wp2
  go_loopw [4] (fun i wr => ∃ k : Nat, k ≤ n ∧ i = .int .i64 k ∧ Below w.heap.size w wr ∧ w.heap.size < wr.heap.size ∧ Hid (Thaw w.heap.size wr) ∧ Hid (∃ f, wr.rowIs w.heap.size 72 (n * 2) f) ∧ Hid (∀ j (h : j < xs.length), j < k → PhAt wr (w.heap.size + 1) wr.heap.size w.heap.size (j * 2) xs[j])) (fun i _ => n - (intOf i).toNat)
  case atStart => exact ⟨0, Nat.zero_le _, rfl, balloc (Below.refl _ _) _, by simp, (Thaw.start _).alloc _ _, ⟨_, rowIs_born _ _ _ _⟩, fun j _ h => absurd h (by omega)⟩
  case round =>
    obtain ⟨k, hk, rfl, hw, hsz, hth, hf, hg⟩ := hrel
    by_cases hlt : k < n
    · have hkx : k < xs.length := by have := hx.out; omega
      obtain ⟨b, o, rfl, ⟨_, hbB⟩, hc⟩ := ha.out k hkx
      obtain ⟨aa, cc, e0, e1, hi⟩ := hc.keep (hw.mono hB) (by omega)
      have HI := hide hi
      have hq := hs.out _ (List.getElem_mem hkx)
      have hBr : B ≤ wr.heap.size := by have := hw.size; omega
      obtain ⟨f, hr⟩ := hf.out
      have HR := hide hr
      clear hc hf hr hi
      generalize hX : xs[k] = X at *
      have HX := hide hX
      clear hX
      go_wp2_with (go_at_call 80; refine (toPhi_any _ _ _ _ X.args L B _ HI rfl hq hBr).mono ?_; rintro e w1 ⟨a1, c1, rfl, hb1, hi1, ht1⟩; have HT1 := hide ht1; clear ht1; have hr1 := HR.out.of_block (hb1.block _ HR.out.lt); have g0 := hr1.cell (i := k * 2) (by omega); have g1 := hr1.cell (i := k * 2 + 1) (by omega); have z0 := hr1.frozen (k * 2); have z1 := hr1.frozen (k * 2 + 1); have HR1 := hide hr1; clear hr1; have HI1 := hide hi1; clear hi1)
      have hX := unhide HX
      subst hX
      have hz1 := hb1.size
      have h1 : ∀ j (h : j < xs.length), j < k → PhAt w1 (w.heap.size + 1) w1.heap.size w.heap.size (j * 2) xs[j] := fun j h hj => ((hg.out j h hj).keepS (Same.of_below hb1) (hb1.block _ HR.out.lt)).mono (Nat.le_refl _) hz1
      have h2 := ph_step HR1.out (Nat.lt_succ_self _) xs k hkx (by have := hx.out; omega) h1 a1 c1 (HI1.out.mono (by omega) (Nat.le_refl _))
      have h3 := size_setCells w.heap.size [.int .i64 xs[k].dst, .slice a1 xs[k].args.length c1] (k * 2) w1
      exact ⟨⟨k + 1, by omega, by go_num, below_setCells _ [.int .i64 xs[k].dst, .slice a1 xs[k].args.length c1] (k * 2) _ _ (bnext hw hb1) (Nat.le_refl _), by simp only [size_setCell]; omega, ((hth.out.trans hb1 HT1.out).setCell _ _).setCell _ _, rowIs_setCells [.int .i64 xs[k].dst, .slice a1 xs[k].args.length c1] (k * 2) _ _ HR1.out, fun j h hj => (h2 j h hj).mono (Nat.le_refl _) (Nat.le_of_eq h3.symm)⟩, by simp [intOf]; omega⟩
    · go_wp2
      go_ret
      obtain ⟨f, hr⟩ := hf.out
      refine ⟨_, rfl, hw, fun j hj => ⟨w.heap.size, 0, rfl, ⟨Nat.le_refl _, hr.lt⟩, ?_⟩, hth.out⟩
      rw [Nat.zero_add]
      exact (hg.out j hj (by have := hx.out; omega)).mono (by omega) (Nat.le_refl _)
set_option maxHeartbeats 1000000 in
theorem toBlock_any (p i : Option Addr) (n pc m ic : Nat) (t0 t1 t2 t3 : Int) (xs : List Ph) (ys : List Ins) (L B : Nat) (w : World) (ha : Hid (PhsAt w L B p xs)) (hb : Hid (InssAt w L B i ys)) (hx : Hid (n = xs.length)) (hy : Hid (m = ys.length)) (hs : Hid (PhLen xs)) (hn : n ≤ 1048576) (hm : m ≤ 1048576) (hB : B ≤ w.heap.size) :
    Calls Tryd.prog 30 #[.agg #[.slice p n pc, .slice i m ic, .int .i64 t0, .int .i64 t1, .int .i64 t2, .int .i64 t3]] w fun e w' => ∃ p' c' i' d', e = .returned (.agg #[.slice p' n c', .slice i' m d', .int .i64 t0, .int .i64 t1, .int .i64 t2, .int .i64 t3]) ∧ Below w.heap.size w w' ∧
      PhsAt w' w.heap.size w'.heap.size p' xs ∧ InssAt w' w.heap.size w'.heap.size i' ys ∧ Thaw w.heap.size w' := by
  go_enter Tryd.func30, Tryd.ntmps30
  go_wp2_with fail
  refine (toPhis_any _ _ _ xs L B _ ?q1 hx hs hn ?q2).mono ?_
  case q1 => exact ha.out.keep ((((Below.refl _ _).alloc (by omega) _).alloc (by simp; omega) _).alloc (by simp; omega) _)
  case q2 => simp; omega
  rintro e w1 ⟨c', rfl, hb1, hi1, ht1⟩
  have HT1 := hide (((((Thaw.start w).alloc _ _).alloc _ _).alloc _ _).trans hb1 ht1)
  clear ht1
  have b1 := bnext (balloc (balloc (balloc (Below.refl w.heap.size w) _) _) _) hb1
  have hz1 := hb1.size
  simp at hz1
  have hz2 : w.heap.size < w1.heap.size := by omega
  have hz3 : w.heap.size + 1 < w1.heap.size := by omega
  have hz4 : w.heap.size + 1 + 1 < w1.heap.size := by omega
  obtain ⟨hc1, hf1⟩ := bcell hb1
  have HI := hide hi1
  clear hi1
  go_wp2_with fail
  refine (toInstrs_any _ _ _ ys L B _ ?q3 hy hm ?q4).mono ?_
  case q3 => exact hb.out.keep ((b1.setCell (by simp; omega) _).mono hB)
  case q4 => simp only [size_setCell]; omega
  rintro e w2 ⟨d', rfl, hb2, hj1, ht2⟩
  have HT2 := hide ((HT1.out.setCell _ _).trans hb2 ht2)
  clear ht2
  have hz5 := hb2.size
  simp only [size_setCell] at hz5
  have hz6 : w.heap.size < w2.heap.size := by omega
  have hz7 : w.heap.size + 1 < w2.heap.size := by omega
  have hz8 : w.heap.size + 1 + 1 < w2.heap.size := by omega
  obtain ⟨hc2, hf2⟩ := bcell hb2
  simp only [size_setCell] at hc2 hf2 hj1
  have HJ := hide hj1
  clear hj1
  have S2 : Same (w.heap.size + 1 + 1 + 1) w1.heap.size w1 w2 := ((Same.refl _ _ _).setCell (Or.inl (by simp)) _).trans (Same.of_below (hb2.mono (by simp only [size_setCell]; omega)))
  have B2 := hide (bnext (b1.setCell (p := ⟨w.heap.size + 1 + 1, 0, none⟩) (by simp; omega) _) hb2)
  have HS2 := hide S2
  clear S2
  go_wp2_with fail
  refine (toTerm_any _ _ _ _ _).mono ?_
  rintro e w3 ⟨rfl, hb3, ht3⟩
  have HT3 := hide ((HT2.out.setCell _ _).trans hb3 ht3)
  clear ht3
  have hz9 := hb3.size
  simp only [size_setCell] at hz9
  obtain ⟨hc3, hf3⟩ := bcell hb3
  simp only [size_setCell] at hc3 hf3
  go_wp2
  refine bodyPost_ret (v := .agg #[.slice (some ⟨w.heap.size + 1 + 1 + 1, 0, none⟩) n c', .slice (some ⟨w1.heap.size, 0, none⟩) m d', .int .i64 t0, .int .i64 t1, .int .i64 t2, .int .i64 t3]) (by simp [results, Tryd.results30, go_sem, hc1, hc2, hc3, hz3, hz7]) rfl ⟨_, _, _, _, rfl, ?_, ?_, ?_, ?_⟩
  · repeat (refine Below.setCell ?_ (by dsimp only; omega) _)
    exact bnext (B2.out.setCell (p := ⟨w.heap.size + 1 + 1, 1, none⟩) (by dsimp only; omega) _) hb3
  · have h := HI.out
    simp only [World.size_alloc] at h
    refine (PhsAt.keepS h (?_ : Same _ _ w1 _)).mono (by omega) (by simp only [size_setCell]; omega)
    repeat (refine Same.setCell ?_ (Or.inl (by dsimp only; omega)) _)
    exact (HS2.out.setCell (Or.inl (by dsimp only; omega)) _).trans (Same.of_below (hb3.mono (by simp only [size_setCell]; omega)))
  · refine (InssAt.keepS HJ.out (?_ : Same _ _ w2 _)).mono (by omega) (by simp only [size_setCell]; omega)
    repeat (refine Same.setCell ?_ (Or.inl (by dsimp only; omega)) _)
    exact ((Same.refl _ _ _).setCell (Or.inl (by dsimp only; omega)) _).trans (Same.of_below (hb3.mono (by simp only [size_setCell]; omega)))
  · repeat (refine Thaw.setCell ?_ _ _)
    exact HT3.out
theorem Tryd.infoBlock : (Tryd.prog.info? 66).map (fun i => (i.zero, i.size, i.bytes)) = some (some (.agg #[.slice none 0 0, .slice none 0 0, .int .i64 0, .int .i64 0, .int .i64 0, .int .i64 0]), 6, 80) := by kernel_rfl
set_option maxHeartbeats 1000000 in
theorem toBlocks_any (a : Option Addr) (n c : Nat) (xs : List Blk) (L B : Nat) (w : World) (ha : Hid (BlksAt w L B a xs)) (hx : Hid (n = xs.length)) (hs : Hid (BlkLen xs)) (hn : n ≤ 1048576) (hB : B ≤ w.heap.size) :
    Calls Tryd.prog 13 #[.slice a n c] w fun e w' => ∃ c', e = .returned (.slice (some ⟨w.heap.size, 0, none⟩) n c') ∧ Below w.heap.size w w' ∧ BlksAt w' w.heap.size w'.heap.size (some ⟨w.heap.size, 0, none⟩) xs ∧ Thaw w.heap.size w' := by
  have hmk := run_make_rows (P := Tryd.prog) 27 66 _ 6 80 Tryd.underlying27 Tryd.infoBlock n (by omega) (by omega)
  go_enter Tryd.func13, Tryd.ntmps13
  go_wp2
  go_loopw [4] (fun i wr => ∃ k : Nat, k ≤ n ∧ i = .int .i64 k ∧ Below w.heap.size w wr ∧ w.heap.size < wr.heap.size ∧ Hid (Thaw w.heap.size wr) ∧ Hid (∃ f, wr.rowIs w.heap.size 66 (n * 6) f) ∧ Hid (∀ j (h : j < xs.length), j < k → BlkAt wr (w.heap.size + 1) wr.heap.size w.heap.size (j * 6) xs[j])) (fun i _ => n - (intOf i).toNat)
  case atStart => exact ⟨0, Nat.zero_le _, rfl, balloc (Below.refl _ _) _, by simp, (Thaw.start _).alloc _ _, ⟨_, rowIs_born _ _ _ _⟩, fun j _ h => absurd h (by omega)⟩
  case round =>
    obtain ⟨k, hk, rfl, hw, hsz, hth, hf, hg⟩ := hrel
    by_cases hlt : k < n
    · have hkx : k < xs.length := by have := hx.out; omega
      obtain ⟨b, o, rfl, ⟨_, hbB⟩, hc⟩ := ha.out k hkx
      obtain ⟨pa, pc, ia, ic, e0, e1, ⟨e2, e3, e4, e5⟩, hp, hi⟩ := hc.keep (hw.mono hB) (by omega)
      have HP := hide hp
      have HI := hide hi
      obtain ⟨hq1, hq2, hq3⟩ := hs.out _ (List.getElem_mem hkx)
      have HQ := hide hq3
      have hBr : B ≤ wr.heap.size := by have := hw.size; omega
      obtain ⟨f, hr⟩ := hf.out
      have HR := hide hr
      clear hc hf hr hi hp hq3
      generalize hX : xs[k] = X at *
      have HX := hide hX
      clear hX
      go_wp2_with (go_at_call 30; refine (toBlock_any _ _ _ _ _ _ _ _ _ _ X.phis X.instrs L B _ HP HI rfl rfl HQ hq1 hq2 hBr).mono ?_; rintro e w1 ⟨p1, c1, i1, d1, rfl, hb1, hp1, hi1, ht1⟩; have HT1 := hide ht1; clear ht1; have hr1 := HR.out.of_block (hb1.block _ HR.out.lt); have g0 := hr1.cell (i := k * 6) (by omega); have g1 := hr1.cell (i := k * 6 + 1) (by omega); have g2 := hr1.cell (i := k * 6 + 2) (by omega); have g3 := hr1.cell (i := k * 6 + 3) (by omega); have g4 := hr1.cell (i := k * 6 + 4) (by omega); have g5 := hr1.cell (i := k * 6 + 5) (by omega); have z0 := hr1.frozen (k * 6); have z1 := hr1.frozen (k * 6 + 1); have z2 := hr1.frozen (k * 6 + 2); have z3 := hr1.frozen (k * 6 + 3); have z4 := hr1.frozen (k * 6 + 4); have z5 := hr1.frozen (k * 6 + 5); have HR1 := hide hr1; clear hr1; have HI1 := hide hi1; clear hi1; have HP1 := hide hp1; clear hp1)
      have hX := unhide HX
      subst hX
      have hz1 := hb1.size
      have h1 : ∀ j (h : j < xs.length), j < k → BlkAt w1 (w.heap.size + 1) w1.heap.size w.heap.size (j * 6) xs[j] := fun j h hj => ((hg.out j h hj).keepS (Same.of_below hb1) (hb1.block _ HR.out.lt)).mono (Nat.le_refl _) hz1
      have h2 := blk_step HR1.out (Nat.lt_succ_self _) xs k hkx (by have := hx.out; omega) h1 p1 i1 c1 d1 (HP1.out.mono (by omega) (Nat.le_refl _)) (HI1.out.mono (by omega) (Nat.le_refl _))
      have h3 := size_setCells w.heap.size [.slice p1 xs[k].phis.length c1, .slice i1 xs[k].instrs.length d1, .int .i64 xs[k].term.kind, .int .i64 xs[k].term.a, .int .i64 xs[k].term.to, .int .i64 xs[k].term.els] (k * 6) w1
      have h4 := rowIs_setCells [.slice p1 xs[k].phis.length c1, .slice i1 xs[k].instrs.length d1, .int .i64 xs[k].term.kind, .int .i64 xs[k].term.a, .int .i64 xs[k].term.to, .int .i64 xs[k].term.els] (k * 6) _ _ HR1.out
      have h5 := below_setCells _ [.slice p1 xs[k].phis.length c1, .slice i1 xs[k].instrs.length d1, .int .i64 xs[k].term.kind, .int .i64 xs[k].term.a, .int .i64 xs[k].term.to, .int .i64 xs[k].term.els] (k * 6) _ _ (bnext hw hb1) (Nat.le_refl _)
      exact ⟨⟨k + 1, by omega, by go_num, h5, by simp only [size_setCell]; omega, ((((((hth.out.trans hb1 HT1.out).setCell _ _).setCell _ _).setCell _ _).setCell _ _).setCell _ _).setCell _ _, h4, fun j h hj => (h2 j h hj).mono (Nat.le_refl _) (Nat.le_of_eq h3.symm)⟩, by simp [intOf]; omega⟩
    · go_wp2
      go_ret
      obtain ⟨f, hr⟩ := hf.out
      refine ⟨_, rfl, hw, fun j hj => ⟨w.heap.size, 0, rfl, ⟨Nat.le_refl _, hr.lt⟩, ?_⟩, hth.out⟩
      rw [Nat.zero_add]
      exact (hg.out j hj (by have := hx.out; omega)).mono (by omega) (Nat.le_refl _)
set_option maxHeartbeats 400000 in
theorem toFunc_any (v : Int) (a : Option Addr) (n c : Nat) (xs : List Blk) (L B : Nat) (w : World) (ha : Hid (BlksAt w L B a xs)) (hx : Hid (n = xs.length)) (hs : Hid (BlkLen xs)) (hn : n ≤ 1048576) (hB : B ≤ w.heap.size) :
    Calls Tryd.prog 6 #[.agg #[.int .i64 v, .slice a n c]] w fun e w' => ∃ a' c', e = .returned (.agg #[.int .i64 v, .slice a' n c']) ∧ Below w.heap.size w w' ∧ BlksAt w' w.heap.size w'.heap.size a' xs ∧ Thaw w.heap.size w' := by
  go_enter Tryd.func6, Tryd.ntmps6
  go_wp2_with fail
  refine (toBlocks_any _ _ _ xs L B _ ?q1 hx hs hn ?q2).mono ?_
  case q1 => exact ha.out.keep ((((Below.refl _ _).alloc (by omega) _).alloc (by simp; omega) _).alloc (by simp; omega) _)
  case q2 => simp; omega
  rintro e w1 ⟨c', rfl, hb1, hi1, ht1⟩
  have HT1 := hide (((((Thaw.start w).alloc _ _).alloc _ _).alloc _ _).trans hb1 ht1)
  clear ht1
  have b1 := bnext (balloc (balloc (balloc (Below.refl w.heap.size w) _) _) _) hb1
  have hz1 := hb1.size
  simp at hz1
  have hz2 : w.heap.size < w1.heap.size := by omega
  have hz3 : w.heap.size + 1 < w1.heap.size := by omega
  have hz4 : w.heap.size + 1 + 1 < w1.heap.size := by omega
  obtain ⟨hc1, hf1⟩ := bcell hb1
  have HI := hide hi1
  clear hi1
  go_wp2
  refine bodyPost_ret (v := .agg #[.int .i64 v, .slice (some ⟨w.heap.size + 1 + 1 + 1, 0, none⟩) n c']) (by simp [results, Tryd.results6, go_sem, hc1]) rfl ⟨_, _, rfl, ?_, ?_, ((HT1.out.setCell _ _).setCell _ _).setCell _ _⟩
  · exact ((b1.setCell (by simp; omega) _).setCell (by simp) _).setCell (by simp) _
  · have h := HI.out
    simp only [World.size_alloc] at h
    exact (h.keepS ((((Same.refl _ _ _).setCell (Or.inl (by simp)) _).setCell (Or.inl (by simp)) _).setCell (Or.inl (by simp)) _)).mono (by omega) (by simp only [size_setCell]; omega)
section
attribute [local go_sem ↓] Go.wp_at_zero Go.wp_at_succ
set_option maxRecDepth 100000 in
set_option maxHeartbeats 4000000 in
theorem lawV_any (v : Int) (a : Option Addr) (n c : Nat) (xs : List Blk) (w : World) (ha : Hid (BlksAt w 0 w.heap.size a xs)) (hx : Hid (n = xs.length)) (hn : n ≤ 9223372036854775807) (hs : Hid (LenOk xs)) (hO : Hid (OpTabW w)) (hT : Hid (TerTabW w)) :
    Calls Tryd.prog 3 #[.agg #[.int .i64 v, .slice a n c]] w fun e w' => e = .returned (.bool true) ∧ Below w.heap.size w w' := by
  by_cases hbig : (1048576 : Int) < (n + blksTot xs : Nat)
  · have hz := szR_neg hbig
    go_enter Tryd.func3, Tryd.ntmps3
    go_wp2_with (go_at_call 4; refine (szFunc_any _ _ _ _ _ xs 0 w.heap.size _ (ha.out.keep (balloc (Below.refl _ _) _)) hx hn hs (by omega) (by omega) (by simp)).mono ?_; rintro e w1 ⟨rfl, hb1⟩)
    go_ret
    exact ⟨rfl, bnext (balloc (Below.refl _ _) _) hb1⟩
  · have hz : szR 1048576 (n + blksTot xs) = 1048576 - (n + blksTot xs : Nat) := szR_pos (by omega)
    have hnn : n ≤ 1048576 := by omega
    have htot : Hid (xs.length + blksTot xs ≤ 1048576) := by have := hx.out; show _ ≤ _; omega
    have hlen := hide (len_of_tot htot.out)
    have hnon : (0 : Int) ≤ 1048576 - (n + blksTot xs : Nat) := by omega
    generalize hN : n + blksTot xs = N at *
    have HN := hide hN
    clear hN hbig
    go_enter Tryd.func3, Tryd.ntmps3
    go_wp2_with fail
    refine (szFunc_any _ _ _ _ _ xs 0 w.heap.size _ ?q1 hx hn hs (by omega) (by omega) (by simp)).mono ?_
    case q1 => exact ha.out.keep (balloc (Below.refl _ _) _)
    rintro e w1 ⟨rfl, hb1⟩
    rw [unhide HN, hz]
    obtain ⟨hc1, hf1⟩ := bcell hb1
    have k0 : w1.cell? ⟨w.heap.size, 0, none⟩ = some (.int .i64 v) := by rw [hc1 _ _ (by simp)]; simp
    have k1 : w1.cell? ⟨w.heap.size, 1, none⟩ = some (.slice a n c) := by rw [hc1 _ _ (by simp)]; simp
    have B1 := bnext (balloc (Below.refl w.heap.size w) _) hb1
    have hz1 := hb1.size
    simp at hz1
    have HA := hide (ha.out.keep B1)
    have HB1 := hide B1
    clear hc1 hf1 hb1 B1 hz
    go_wp2_with fail
    refine (toFunc_any v a n c xs 0 w.heap.size _ HA hx hlen hnn (by omega)).mono ?_
    rintro e w2 ⟨a2, c2, rfl, hb2, hi2, _⟩
    have HI2 := hide hi2
    have k0' := (hb2.cell (p := ⟨w.heap.size, 0, none⟩) (by show w.heap.size < _; omega)).trans k0
    have k1' := (hb2.cell (p := ⟨w.heap.size, 1, none⟩) (by show w.heap.size < _; omega)).trans k1
    have hz2 := hb2.size
    have HB2 := hide (bnext HB1.out hb2)
    clear hi2 hb2 k0 k1 HA
    go_wp2_with fail
    refine (verdictS_any v a2 n c2 xs w1.heap.size w2.heap.size _ HI2 hx htot (Nat.le_refl _)).mono ?_
    rintro e w3 ⟨rfl, hb3⟩
    generalize hr : verdP v xs = r at *
    have HRR := hide hr
    have q0 := (hb3.cell (p := ⟨w.heap.size, 0, none⟩) (by show w.heap.size < _; omega)).trans k0'
    have q1 := (hb3.cell (p := ⟨w.heap.size, 1, none⟩) (by show w.heap.size < _; omega)).trans k1'
    have hz3 := hb3.size
    have HB3 := hide (bnext HB2.out hb3)
    clear hb3 k0' k1' hr HI2
    go_wp2_with fail
    refine (toFunc_any v a n c xs 0 w.heap.size _ (ha.out.keep HB3.out) hx hlen hnn (by omega)).mono ?_
    rintro e w4 ⟨a4, c4, rfl, hb4, hi4, _⟩
    have HI4 := hide hi4
    have x0 := (hb4.cell (p := ⟨w.heap.size, 0, none⟩) (by show w.heap.size < _; omega)).trans q0
    have x1 := (hb4.cell (p := ⟨w.heap.size, 1, none⟩) (by show w.heap.size < _; omega)).trans q1
    have hz4 := hb4.size
    have HB4 := hide (bnext HB3.out hb4)
    clear hi4 hb4 q0 q1
    go_wp2_with fail
    refine (verdictI_any v a4 n c4 xs w3.heap.size w4.heap.size _ ?p1 hx htot ?p2 ?p3 ?p4).mono ?_
    case p1 => exact HI4.out.keep (balloc (Below.refl _ _) _)
    case p2 => simp
    case p3 => exact hO.out.keep (balloc HB4.out _) hO.out.1
    case p4 => exact hT.out.keep (balloc HB4.out _) hT.out.1
    rintro e w5 ⟨rfl, hb5⟩
    rw [unhide HRR]
    obtain ⟨hc5, hf5⟩ := bcell hb5
    have z0 : w5.cell? ⟨w4.heap.size, 0, none⟩ = some (.int .i64 v) := by rw [hc5 _ _ (by simp)]; simp
    have z1 : w5.cell? ⟨w4.heap.size, 1, none⟩ = some (.slice a4 n c4) := by rw [hc5 _ _ (by simp)]; simp
    have b5 := bnext (balloc (Below.refl w4.heap.size w4) _) hb5
    have y0 := (b5.cell (p := ⟨w.heap.size, 0, none⟩) (by show w.heap.size < _; omega)).trans x0
    have y1 := (b5.cell (p := ⟨w.heap.size, 1, none⟩) (by show w.heap.size < _; omega)).trans x1
    have hz5 := hb5.size
    simp at hz5
    have HB5 := hide (bnext HB4.out b5)
    have HI5 := hide (HI4.out.keep b5)
    clear hc5 hf5 hb5 x0 x1 b5 HI4
    have hrr : (r != r) = false := by simp
    go_wp2
    go_region_with (first | (go_at_call 6; refine (toFunc_any v a n c xs 0 w.heap.size _ (ha.out.keep HB5.out.drew) hx hlen hnn (by show w.heap.size ≤ w5.heap.size; omega)).mono ?_; rintro e w6 ⟨a6, c6, rfl, hb6, hi6, ht6⟩; clear ht6; have HI6 := hide hi6; clear hi6; have t0 := (hb6.cell (p := ⟨w4.heap.size, 0, none⟩) (by show w4.heap.size < w5.heap.size; omega)).trans z0; have t1 := (hb6.cell (p := ⟨w4.heap.size, 1, none⟩) (by show w4.heap.size < w5.heap.size; omega)).trans z1) | (go_at_call 8; refine (eqFunc_yes v _ _ _ _ _ xs w3.heap.size w4.heap.size w5.heap.size w6.heap.size _ (HI5.out.keep ((Below.refl w4.heap.size w5).drew.trans (hb6.mono (by show w4.heap.size ≤ w5.heap.size; omega)))) HI6 hx hlen hnn (by have := hb6.size; have : w5.heap.size ≤ w6.heap.size := this; omega) (Nat.le_refl _)).mono ?_; rintro e w7 ⟨rfl, hb7⟩))
    all_goals
      go_wp2
      go_ret
      exact ⟨rfl, bnext (bnext HB5.out.drew hb6) hb7⟩
end
end Go.Proofs.YtanaeindldcapaaDoor
