import Derived.Test.YtdcdgopblbmgoaaDoorN4
namespace Go.Proofs.YtdcdgopblbmgoaaDoor
open Go.RowKit

theorem Kc.below {B B' r gv gh : Nat} {w w1 : World} (h : Kc B r gv gh w w1) (hb : B' ≤ B) (h0 : B' ≤ r) (h1 : B' ≤ gv) (h2 : B' ≤ gh) : Below B' w w1 := ⟨h.os, h.tape, h.output, h.size, fun i a => h.block i (by omega) (by omega) (by omega) (by omega)⟩

set_option maxHeartbeats 1000000 in
theorem end_ret (R : Nat) (aa : Option Addr) (na ca gh ch : Nat) (ta : Option Addr) (nt ct : Nat) (fuel k0 value : Int) (gv nv cv G n cn : Nat) (b pc : Int) (ka : Option Addr) (kn kc : Nat) (xa : Nat) (t1 t2 : Int) (ea oa : Option Addr) (ne ce no co : Nat) (vals hp tr K : List Int) (Bt : Nat) (w : World)
    (hbox : Hid (PBox w R aa na ca gh ch ta nt ct fuel k0 value gv nv cv G n cn b pc ka kn kc)) (hmem : Hid (PMem w Bt gv gh ta nt ct ka kn kc vals hp tr K)) (hnv : Hid (nv = vals.length)) (hxa : xa < nv) (hR : R < Bt) (hgv : gv < Bt) (hRv : R ≠ gv) (hRh : R ≠ gh) (hB : Bt ≤ w.heap.size) :
    Calls Tryd.prog 152 #[.pointer (some ⟨R, 0, none⟩), .agg #[.int .i64 3, .int .i64 xa, .int .i64 t1, .slice ea ne ce, .int .i64 t2, .slice oa no co]] w
      fun e w' => e = .returned (.int .i64 1) ∧ Kc Bt R gv gh w w' ∧ PBox w' R aa na ca gh ch ta nt ct fuel k0 (getN vals xa) gv nv cv G n cn b pc ka kn kc ∧ PMem w' Bt gv gh ta nt ct ka kn kc vals hp tr K := by
  have hax : xa < vals.length := by have := hnv.out; omega
  have VA0 := hmem.out.mem.vals.2 xa hax
  rw [getN_of _ _ hax]
  have ba := fun o => balloc (Below.refl w.heap.size w) o
  have HF := fun x => hide (show Kc Bt R gv gh w (((w.alloc x).setCell ⟨R, 5, none⟩ (.int .i64 vals[xa])).drew) ∧ PBox (((w.alloc x).setCell ⟨R, 5, none⟩ (.int .i64 vals[xa])).drew) R aa na ca gh ch ta nt ct fuel k0 vals[xa] gv nv cv G n cn b pc ka kn kc ∧ PMem (((w.alloc x).setCell ⟨R, 5, none⟩ (.int .i64 vals[xa])).drew) Bt gv gh ta nt ct ka kn kc vals hp tr K from
    ⟨((Kc.of_below ((ba x).mono hB)).set (Or.inl rfl) _).drew, ((hbox.out.keep ((ba x).block R (by omega))).set5 _).keep rfl, hmem.out.keep (fun q h1 h2 => (Below.heap_setCell _ _ _ _ (by show q ≠ R; omega)).trans ((ba x).block q h1))⟩)
  generalize vals[xa] = VA at *
  have c6 := fun x => ((ba x).cell (p := ⟨R, 6, none⟩) (by show R < _; omega)).trans hbox.out.c6
  have c5 := fun x => ((ba x).cell (p := ⟨R, 5, none⟩) (by show R < _; omega)).trans hbox.out.c5
  have cz := fun x => ((ba x).frozen (p := ⟨R, 5, none⟩) (by show R < _; omega)).trans (hbox.out.fz 5)
  have cv1 := fun x => ((ba x).cell (p := ⟨gv, xa, none⟩) (by show gv < _; omega)).trans VA0
  have c6' : ∀ x v, ((w.alloc x).setCell ⟨R, 5, none⟩ v).cell? ⟨R, 6, none⟩ = some (.slice (some ⟨gv, 0, none⟩) nv cv) := fun x v => (World.cell?_setCell_other _ _ _ _ (by intro e; injection e with _ e; omega)).trans (c6 x)
  have n1 : w.heap.size ≠ R := by omega
  have n2 : w.heap.size ≠ gv := by omega
  have n3 : R ≠ w.heap.size := by omega
  have n4 : gv ≠ w.heap.size := by omega
  go_enter Tryd.func152, Tryd.ntmps152
  go_wp2
  go_region_held3 (fun w' => w'.cell? ⟨R, 6, none⟩ = some (.slice (some ⟨gv, 0, none⟩) nv cv) ∧ w'.cell? ⟨w.heap.size, 1, none⟩ = some (.int .i64 xa) ∧ w'.cell? ⟨gv, xa, none⟩ = some (.int .i64 VA)) (go_keep) (fail)
  go_wp2
  go_ret
  exact ⟨rfl, (HF _).out⟩

set_option maxHeartbeats 1000000 in
theorem end_jump (R : Nat) (aa : Option Addr) (na ca gh ch : Nat) (ta : Option Addr) (nt ct : Nat) (fuel k0 value : Int) (gv nv cv G n cn : Nat) (b pc : Int) (ka : Option Addr) (kn kc : Nat) (xa : Int) (t1 t2 : Int) (ea oa : Option Addr) (ne ce no co : Nat) (ts : List (Int × Int)) (vals hp tr K : List Int) (L Bt : Nat) (w : World)
    (hbox : Hid (PBox w R aa na ca gh ch ta nt ct fuel k0 value gv nv cv G n cn b pc ka kn kc)) (hmem : Hid (PMem w Bt gv gh ta nt ct ka kn kc vals hp tr K)) (hts : Hid (TakesAt w L Bt ea ts)) (hne : Hid (ne = ts.length)) (hnl : ts.length ≤ 1048576) (hok : Hid (∀ t ∈ ts, (0 ≤ t.1 ∧ t.1 < nv) ∧ 0 ≤ t.2 ∧ t.2 < nv)) (hnv : Hid (nv = vals.length)) 
    (hR : R < L) (hgv : gv < L) (hgh : gh < L) (hRv : R ≠ gv) (hRh : R ≠ gh) (hLB : L ≤ Bt) (hB : Bt ≤ w.heap.size) :
    Calls Tryd.prog 152 #[.pointer (some ⟨R, 0, none⟩), .agg #[.int .i64 1, .int .i64 xa, .int .i64 t1, .slice ea ne ce, .int .i64 t2, .slice oa no co]] w
      fun e w' => e = .returned (.int .i64 0) ∧ ∃ ka' kn' kc' K', Kc Bt R gv gh w w' ∧ PBox w' R aa na ca gh ch ta nt ct fuel k0 value gv nv cv G n cn t1 0 ka' kn' kc' ∧ PMem w' Bt gv gh ta nt ct ka' kn' kc' (takeTo vals ts vals) hp tr K' := by
  have ba := fun o => balloc (Below.refl w.heap.size w) o
  have HFO := fun x => hide (follow_any R aa na ca gh ch ta nt ct fuel k0 value gv nv cv G n cn b pc ka kn kc t1 ea ne ce ts vals hp tr K L Bt ((w.alloc x).drew) (hide (hbox.out.keep ((ba x).block R (by omega)))) (hide (hmem.out.keep (fun q h1 _ => (ba x).block q h1))) (hide (hts.out.keep ((ba x).drew.mono hB))) hne hnl hok hnv hR hgv hgh hRv hRh hLB (by simp; omega))
  have HKC := fun x => hide (Kc.of_below (r := R) (gv := gv) (gh := gh) ((ba x).drew.mono hB))
  go_enter Tryd.func152, Tryd.ntmps152
  go_wp2
  refine wp_region_held_drew (S := (fun w' => w'.cell? ⟨w.heap.size, 0, none⟩ = some (.int .i64 1))) (by kernel_rfl) (by (try dsimp only); go_keep) (fun hHeld => ?_)
  refine wpAnyH_take (i := 0) (v := ?_) rfl (by kernel_rfl) (by kernel_rfl) (by kernel_rfl) (fun _ _ _ h => h) (Or.inl ⟨by rfl, ?_⟩) (by assumption) ?_
  rotate_left
  · intro w hSw; (try dsimp only at hSw); go_simp; try with_reducible rfl
  simp only [Act.put, List.getElem_toArray, List.getElem_cons_zero, List.setIfInBounds_toArray, List.set_cons_zero, List.set_cons_succ]
  refine wpAnyH_take (i := 1) (v := ?_) rfl (by kernel_rfl) (by kernel_rfl) (by kernel_rfl) (fun _ _ _ h => h) (Or.inl ⟨by rfl, ?_⟩) (by assumption) ?_
  rotate_left
  · intro w hSw; (try dsimp only at hSw); go_simp; try with_reducible rfl
  simp only [Act.put, List.getElem_toArray, List.getElem_cons_zero, List.getElem_cons_succ, List.setIfInBounds_toArray, List.set_cons_zero, List.set_cons_succ]
  refine wpAnyH_take (i := 2) (v := ?_) rfl (by kernel_rfl) (by kernel_rfl) (by kernel_rfl) (fun _ _ _ h => h) (Or.inl ⟨by rfl, ?_⟩) (by assumption) ?_
  rotate_left
  · intro w hSw; (try dsimp only at hSw); go_simp; try with_reducible rfl
  simp only [Act.put, List.getElem_toArray, List.getElem_cons_zero, List.getElem_cons_succ, List.setIfInBounds_toArray, List.set_cons_zero, List.set_cons_succ]
  refine wpAnyH_take (i := 3) (v := ?_) rfl (by kernel_rfl) (by kernel_rfl) (by kernel_rfl) (fun _ _ _ h => h) (Or.inl ⟨by rfl, ?_⟩) (by assumption) ?_
  rotate_left
  · intro w hSw; (try dsimp only at hSw); go_simp; try with_reducible rfl
  simp only [Act.put, List.getElem_toArray, List.getElem_cons_zero, List.getElem_cons_succ, List.setIfInBounds_toArray, List.set_cons_zero, List.set_cons_succ]
  refine wpAnyH_take (i := 4) (v := undef) rfl (by kernel_rfl) (by kernel_rfl) (by kernel_rfl) (fun _ _ _ h => h) (Or.inr ⟨by rfl, rfl⟩) (by assumption) ?_
  simp only [Act.put, List.getElem_toArray, List.getElem_cons_zero, List.getElem_cons_succ, List.setIfInBounds_toArray, List.set_cons_zero, List.set_cons_succ]
  refine wpAnyH_take (i := 5) (v := undef) rfl (by kernel_rfl) (by kernel_rfl) (by kernel_rfl) (fun _ _ _ h => h) (Or.inr ⟨by rfl, rfl⟩) (by assumption) ?_
  simp only [Act.put, List.getElem_toArray, List.getElem_cons_zero, List.getElem_cons_succ, List.setIfInBounds_toArray, List.set_cons_zero, List.set_cons_succ]
  refine wpAnyH_take (i := 6) (v := undef) rfl (by kernel_rfl) (by kernel_rfl) (by kernel_rfl) (fun _ _ _ h => h) (Or.inr ⟨by rfl, rfl⟩) (by assumption) ?_
  simp only [Act.put, List.getElem_toArray, List.getElem_cons_zero, List.getElem_cons_succ, List.setIfInBounds_toArray, List.set_cons_zero, List.set_cons_succ]
  refine wpAnyH_take (i := 7) (v := undef) rfl (by kernel_rfl) (by kernel_rfl) (by kernel_rfl) (fun _ _ _ h => h) (Or.inr ⟨by rfl, rfl⟩) (by assumption) ?_
  simp only [Act.put, List.getElem_toArray, List.getElem_cons_zero, List.getElem_cons_succ, List.setIfInBounds_toArray, List.set_cons_zero, List.set_cons_succ]
  refine wpAnyH_take (i := 8) (v := undef) rfl (by kernel_rfl) (by kernel_rfl) (by kernel_rfl) (fun _ _ _ h => h) (Or.inr ⟨by rfl, rfl⟩) (by assumption) ?_
  simp only [Act.put, List.getElem_toArray, List.getElem_cons_zero, List.getElem_cons_succ, List.setIfInBounds_toArray, List.set_cons_zero, List.set_cons_succ]
  refine wpAnyH_take (i := 9) (v := undef) rfl (by kernel_rfl) (by kernel_rfl) (by kernel_rfl) (fun _ _ _ h => h) (Or.inr ⟨by rfl, rfl⟩) (by assumption) ?_
  simp only [Act.put, List.getElem_toArray, List.getElem_cons_zero, List.getElem_cons_succ, List.setIfInBounds_toArray, List.set_cons_zero, List.set_cons_succ]
  refine wpAnyH_take (i := 10) (v := undef) rfl (by kernel_rfl) (by kernel_rfl) (by kernel_rfl) (fun _ _ _ h => h) (Or.inr ⟨by rfl, rfl⟩) (by assumption) ?_
  simp only [Act.put, List.getElem_toArray, List.getElem_cons_zero, List.getElem_cons_succ, List.setIfInBounds_toArray, List.set_cons_zero, List.set_cons_succ]
  refine wpAnyH_take (i := 11) (v := undef) rfl (by kernel_rfl) (by kernel_rfl) (by kernel_rfl) (fun _ _ _ h => h) (Or.inr ⟨by rfl, rfl⟩) (by assumption) ?_
  simp only [Act.put, List.getElem_toArray, List.getElem_cons_zero, List.getElem_cons_succ, List.setIfInBounds_toArray, List.set_cons_zero, List.set_cons_succ]
  refine wpAnyH_take (i := 12) (v := undef) rfl (by kernel_rfl) (by kernel_rfl) (by kernel_rfl) (fun _ _ _ h => h) (Or.inr ⟨by rfl, rfl⟩) (by assumption) ?_
  simp only [Act.put, List.getElem_toArray, List.getElem_cons_zero, List.getElem_cons_succ, List.setIfInBounds_toArray, List.set_cons_zero, List.set_cons_succ]
  refine wpAnyH_take (i := 13) (v := ?_) rfl (by kernel_rfl) (by kernel_rfl) (by kernel_rfl) (fun _ _ _ h => h) (Or.inl ⟨by rfl, ?_⟩) (by assumption) ?_
  rotate_left
  · intro w hSw; (try dsimp only at hSw); go_simp; try with_reducible rfl
  simp only [Act.put, List.getElem_toArray, List.getElem_cons_zero, List.getElem_cons_succ, List.setIfInBounds_toArray, List.set_cons_zero, List.set_cons_succ]
  refine wpAnyH_ready (rs := [14]) (by kernel_rfl) (by simp) ?_
  refine AllReadyH.cons rfl (fun K hK => ?_) AllReadyH.nil
  go_simp
  refine hK.out _ _ (by first | exact hHeld | ((try dsimp only); go_keep)) (fun hHeld => ?_)
  clear hK
  try simp only [Act.put, List.getElem_toArray, List.getElem_cons_zero, List.getElem_cons_succ, List.setIfInBounds_toArray, List.set_cons_zero, List.set_cons_succ]
  refine wpAnyH_done (by kernel_rfl) ?_ _
  go_wp2_with (go_at_call 163; refine (HFO _).out.mono ?_; rintro e w1 ⟨rfl, ka', kn', kc', K', hkc, hbx, hmm⟩; have H1 := hide ((HKC _).out.trans hkc); have H2 := hide hbx; have H3 := hide hmm; clear hkc hbx hmm)
  go_wp2
  go_ret
  exact ⟨rfl, ka', kn', kc', K', H1.out, H2.out, H3.out⟩

set_option maxHeartbeats 1000000 in
theorem end_else (R : Nat) (aa : Option Addr) (na ca gh ch : Nat) (ta : Option Addr) (nt ct : Nat) (fuel k0 value : Int) (gv nv cv G n cn : Nat) (b pc : Int) (ka : Option Addr) (kn kc : Nat) (xa : Nat) (t1 t2 : Int) (ea oa : Option Addr) (ne ce no co : Nat) (ts : List (Int × Int)) (vals hp tr K : List Int) (L Bt : Nat) (w : World)
    (hbox : Hid (PBox w R aa na ca gh ch ta nt ct fuel k0 value gv nv cv G n cn b pc ka kn kc)) (hmem : Hid (PMem w Bt gv gh ta nt ct ka kn kc vals hp tr K)) (hts : Hid (TakesAt w L Bt oa ts)) (hne : Hid (no = ts.length)) (hnl : ts.length ≤ 1048576) (hok : Hid (∀ t ∈ ts, (0 ≤ t.1 ∧ t.1 < nv) ∧ 0 ≤ t.2 ∧ t.2 < nv)) (hnv : Hid (nv = vals.length)) (hxa : xa < nv) (hz : getN vals (xa : Int) = 0)
    (hR : R < L) (hgv : gv < L) (hgh : gh < L) (hRv : R ≠ gv) (hRh : R ≠ gh) (hLB : L ≤ Bt) (hB : Bt ≤ w.heap.size) :
    Calls Tryd.prog 152 #[.pointer (some ⟨R, 0, none⟩), .agg #[.int .i64 2, .int .i64 xa, .int .i64 t1, .slice ea ne ce, .int .i64 t2, .slice oa no co]] w
      fun e w' => e = .returned (.int .i64 0) ∧ ∃ ka' kn' kc' K', Kc Bt R gv gh w w' ∧ PBox w' R aa na ca gh ch ta nt ct fuel k0 value gv nv cv G n cn t2 0 ka' kn' kc' ∧ PMem w' Bt gv gh ta nt ct ka' kn' kc' (takeTo vals ts vals) hp tr K' := by
  have ba := fun o => balloc (Below.refl w.heap.size w) o
  have hax : xa < vals.length := by have := hnv.out; omega
  have VA0 := hmem.out.mem.vals.2 xa hax
  rw [getN_of _ _ hax] at hz
  rw [hz] at VA0
  have c6 := fun x => ((ba x).cell (p := ⟨R, 6, none⟩) (by show R < _; omega)).trans hbox.out.c6
  have cv1 := fun x => ((ba x).cell (p := ⟨gv, xa, none⟩) (by show gv < _; omega)).trans VA0
  have HFO := fun x => hide (follow_any R aa na ca gh ch ta nt ct fuel k0 value gv nv cv G n cn b pc ka kn kc t2 oa no co ts vals hp tr K L Bt ((w.alloc x).drew) (hide (hbox.out.keep ((ba x).block R (by omega)))) (hide (hmem.out.keep (fun q h1 _ => (ba x).block q h1))) (hide (hts.out.keep ((ba x).drew.mono hB))) hne hnl hok hnv hR hgv hgh hRv hRh hLB (by simp; omega))
  have HKC := fun x => hide (Kc.of_below (r := R) (gv := gv) (gh := gh) ((ba x).drew.mono hB))
  go_enter Tryd.func152, Tryd.ntmps152
  go_wp2
  go_region_held3 (fun w' => w'.cell? ⟨w.heap.size, 0, none⟩ = some (.int .i64 2) ∧ w'.cell? ⟨R, 6, none⟩ = some (.slice (some ⟨gv, 0, none⟩) nv cv) ∧ w'.cell? ⟨w.heap.size, 1, none⟩ = some (.int .i64 xa) ∧ w'.cell? ⟨gv, xa, none⟩ = some (.int .i64 0)) (go_keep) (fail)
  go_wp2_with (go_at_call 163; refine (HFO _).out.mono ?_; rintro e w1 ⟨rfl, ka', kn', kc', K', hkc, hbx, hmm⟩; have H1 := hide ((HKC _).out.trans hkc); have H2 := hide hbx; have H3 := hide hmm; clear hkc hbx hmm)
  go_wp2
  go_ret
  exact ⟨rfl, ka', kn', kc', K', H1.out, H2.out, H3.out⟩

set_option maxHeartbeats 1000000 in
theorem end_then (R : Nat) (aa : Option Addr) (na ca gh ch : Nat) (ta : Option Addr) (nt ct : Nat) (fuel k0 value : Int) (gv nv cv G n cn : Nat) (b pc : Int) (ka : Option Addr) (kn kc : Nat) (xa : Nat) (t1 t2 : Int) (ea oa : Option Addr) (ne ce no co : Nat) (ts : List (Int × Int)) (vals hp tr K : List Int) (L Bt : Nat) (w : World)
    (hbox : Hid (PBox w R aa na ca gh ch ta nt ct fuel k0 value gv nv cv G n cn b pc ka kn kc)) (hmem : Hid (PMem w Bt gv gh ta nt ct ka kn kc vals hp tr K)) (hts : Hid (TakesAt w L Bt ea ts)) (hne : Hid (ne = ts.length)) (hnl : ts.length ≤ 1048576) (hok : Hid (∀ t ∈ ts, (0 ≤ t.1 ∧ t.1 < nv) ∧ 0 ≤ t.2 ∧ t.2 < nv)) (hnv : Hid (nv = vals.length)) (hxa : xa < nv) (hz : getN vals (xa : Int) ≠ 0)
    (hR : R < L) (hgv : gv < L) (hgh : gh < L) (hRv : R ≠ gv) (hRh : R ≠ gh) (hLB : L ≤ Bt) (hB : Bt ≤ w.heap.size) :
    Calls Tryd.prog 152 #[.pointer (some ⟨R, 0, none⟩), .agg #[.int .i64 2, .int .i64 xa, .int .i64 t1, .slice ea ne ce, .int .i64 t2, .slice oa no co]] w
      fun e w' => e = .returned (.int .i64 0) ∧ ∃ ka' kn' kc' K', Kc Bt R gv gh w w' ∧ PBox w' R aa na ca gh ch ta nt ct fuel k0 value gv nv cv G n cn t1 0 ka' kn' kc' ∧ PMem w' Bt gv gh ta nt ct ka' kn' kc' (takeTo vals ts vals) hp tr K' := by
  have ba := fun o => balloc (Below.refl w.heap.size w) o
  have hax : xa < vals.length := by have := hnv.out; omega
  have VA0 := hmem.out.mem.vals.2 xa hax
  rw [getN_of _ _ hax] at hz
  have hzb : (vals[xa] == 0) = false := by simp [hz]
  have c6 := fun x => ((ba x).cell (p := ⟨R, 6, none⟩) (by show R < _; omega)).trans hbox.out.c6
  have cv1 := fun x => ((ba x).cell (p := ⟨gv, xa, none⟩) (by show gv < _; omega)).trans VA0
  generalize vals[xa] = VA at *
  have HFO := fun x => hide (follow_any R aa na ca gh ch ta nt ct fuel k0 value gv nv cv G n cn b pc ka kn kc t1 ea ne ce ts vals hp tr K L Bt ((w.alloc x).drew) (hide (hbox.out.keep ((ba x).block R (by omega)))) (hide (hmem.out.keep (fun q h1 _ => (ba x).block q h1))) (hide (hts.out.keep ((ba x).drew.mono hB))) hne hnl hok hnv hR hgv hgh hRv hRh hLB (by simp; omega))
  have HKC := fun x => hide (Kc.of_below (r := R) (gv := gv) (gh := gh) ((ba x).drew.mono hB))
  go_enter Tryd.func152, Tryd.ntmps152
  go_wp2
  go_region_held3 (fun w' => w'.cell? ⟨w.heap.size, 0, none⟩ = some (.int .i64 2) ∧ w'.cell? ⟨R, 6, none⟩ = some (.slice (some ⟨gv, 0, none⟩) nv cv) ∧ w'.cell? ⟨w.heap.size, 1, none⟩ = some (.int .i64 xa) ∧ w'.cell? ⟨gv, xa, none⟩ = some (.int .i64 VA)) (go_keep) (fail)
  go_wp2_with (go_at_call 163; refine (HFO _).out.mono ?_; rintro e w1 ⟨rfl, ka', kn', kc', K', hkc, hbx, hmm⟩; have H1 := hide ((HKC _).out.trans hkc); have H2 := hide hbx; have H3 := hide hmm; clear hkc hbx hmm)
  go_wp2
  go_ret
  exact ⟨rfl, ka', kn', kc', K', H1.out, H2.out, H3.out⟩
end Go.Proofs.YtdcdgopblbmgoaaDoor

namespace Go.Proofs.YtdcdgopblbmgoaaDoor
open Go.RowKit

theorem assert_yes {P : Program} {t : TypeId} {fs : Array Field} (hu : P.underlying t = some (.struct fs)) (xT : TypeId) (v : Value) (w : World) : (Instr.typeAssert (.iface t v) xT t true).run P w = .ok (.tuple #[v, .bool true]) w := by
  simp [Instr.typeAssert, run_underlying hu]
theorem assert_no {P : Program} {t u : TypeId} {fs : Array Field} {z : Value} (hu : P.underlying u = some (.struct fs)) (hz : (P.info? u).map (·.zero) = some (some z)) (hne : t ≠ u) (xT : TypeId) (v : Value) (w : World) : (Instr.typeAssert (.iface t v) xT u true).run P w = .ok (.tuple #[z, .bool false]) w := by
  obtain ⟨j, hj, hz'⟩ := Option.map_eq_some_iff.1 hz
  simp [Instr.typeAssert, run_underlying hu, zeroValue, typeInfo, hj, hz', hne]
theorem Tryd.zeroC : (Tryd.prog.info? 214).map (·.zero) = some (some (.agg #[.int .i64 0, .int .i64 0])) := by kernel_rfl
theorem Tryd.zeroA : (Tryd.prog.info? 219).map (·.zero) = some (some (.agg #[.int .i64 0, .int .i64 0, .int .i64 0, .int .i64 0])) := by kernel_rfl
theorem Tryd.zeroH : (Tryd.prog.info? 216).map (·.zero) = some (some (.agg #[.int .i64 0, .int .i64 0, .int .i64 0, .int .i64 0])) := by kernel_rfl
theorem Tryd.zeroO : (Tryd.prog.info? 218).map (·.zero) = some (some (.agg #[.int .i64 0])) := by kernel_rfl

theorem Tryd.zeroP : (Tryd.prog.info? 222).map (·.zero) = some (some (.agg #[.int .i64 0, .int .i64 0])) := by kernel_rfl

theorem RunMem.len {w : World} {B gv gh t : Nat} {ta : Option Addr} {nt ct : Nat} {vals hp tr : List Int} (h : RunMem w B gv gh t (.slice ta nt ct) vals hp tr) : nt = tr.length := by
  obtain ⟨_, ⟨h1, h2⟩ | ⟨_, _, _, h1, _⟩⟩ := h.own
  · have := (Value.slice.inj h1).2.1; omega
  · exact (Value.slice.inj h1).2.1
/-- A run's state in w', which came of w. -/
def PSt (w w' : World) (R : Nat) (aa : Option Addr) (na ca gh ch : Nat) (ta : Option Addr) (nt ct : Nat) (fuel k0 value : Int) (gv nv cv G n cn : Nat) (b pc : Int) (ka : Option Addr) (kn kc Bt : Nat) (vals hp tr K : List Int) : Prop :=
  Kc Bt R gv gh w w' ∧ PBox w' R aa na ca gh ch ta nt ct fuel k0 value gv nv cv G n cn b pc ka kn kc ∧ PMem w' Bt gv gh ta nt ct ka kn kc vals hp tr K
section
variable {w W W1 : World} {R : Nat} {aa : Option Addr} {na ca gh ch : Nat} {ta : Option Addr} {nt ct : Nat} {fuel k0 value : Int} {gv nv cv G n cn : Nat} {b pc : Int} {ka : Option Addr} {kn kc Bt : Nat} {vals hp tr K : List Int}
theorem PSt.drew (h : PSt w W R aa na ca gh ch ta nt ct fuel k0 value gv nv cv G n cn b pc ka kn kc Bt vals hp tr K) : PSt w W.drew R aa na ca gh ch ta nt ct fuel k0 value gv nv cv G n cn b pc ka kn kc Bt vals hp tr K :=
  ⟨h.1.drew, h.2.1.keep rfl, h.2.2.keep (fun _ _ _ => rfl)⟩
theorem PSt.next (h : PSt w W R aa na ca gh ch ta nt ct fuel k0 value gv nv cv G n cn b pc ka kn kc Bt vals hp tr K) (hB : Bt ≤ W.heap.size) (hR : R < Bt) (k : Below W.heap.size W W1) : PSt w W1 R aa na ca gh ch ta nt ct fuel k0 value gv nv cv G n cn b pc ka kn kc Bt vals hp tr K :=
  ⟨h.1.trans (Kc.of_below (k.mono hB)), h.2.1.keep (k.block R (by omega)), h.2.2.keep (fun q h1 _ => k.block q h1)⟩
theorem PSt.setV (h : PSt w W R aa na ca gh ch ta nt ct fuel k0 value gv nv cv G n cn b pc ka kn kc Bt vals hp tr K) (hgv : gv < Bt) (hRv : R ≠ gv) {D : Nat} (hD : D < vals.length) (v : Int) : PSt w (W.setCell ⟨gv, D, none⟩ (.int .i64 v)) R aa na ca gh ch ta nt ct fuel k0 value gv nv cv G n cn b pc ka kn kc Bt (vals.set D v) hp tr K :=
  ⟨h.1.set (Or.inr (Or.inl rfl)) _, h.2.1.keep (Below.heap_setCell _ _ _ _ hRv), h.2.2.mem.setV hD v, own_keep h.2.2.own (fun q e => Below.heap_setCell _ _ _ _ (by have := (h.2.2.own.lt q e).1; show q ≠ gv; omega)), h.2.2.tk⟩
theorem PSt.setH (h : PSt w W R aa na ca gh ch ta nt ct fuel k0 value gv nv cv G n cn b pc ka kn kc Bt vals hp tr K) (hgh : gh < Bt) (hRh : R ≠ gh) {D : Nat} (hD : D < hp.length) (v : Int) : PSt w (W.setCell ⟨gh, D, none⟩ (.int .i64 v)) R aa na ca gh ch ta nt ct fuel k0 value gv nv cv G n cn b pc ka kn kc Bt vals (hp.set D v) tr K :=
  ⟨h.1.set (Or.inr (Or.inr (Or.inl rfl))) _, h.2.1.keep (Below.heap_setCell _ _ _ _ hRh), h.2.2.mem.setH hD v, own_keep h.2.2.own (fun q e => Below.heap_setCell _ _ _ _ (by have := (h.2.2.own.lt q e).1; show q ≠ gh; omega)), h.2.2.tk⟩
theorem PSt.push {w1 : World} (h : PSt w W R aa na ca gh ch ta nt ct fuel k0 value gv nv cv G n cn b pc ka kn kc Bt vals hp tr K) (hR : R < Bt) (hgv : gv < Bt) (hgh : gh < Bt) (hRv : R ≠ gv) (hRh : R ≠ gh) (hB : Bt ≤ W.heap.size) {g cap : Nat} {x : Int}
    (ho : w1.ownsRow Bt 2 1 (.slice (some ⟨g, 0, none⟩) (nt + 1) cap) (nt + 1) (tr.map (Value.int .i64) ++ [.int .i64 x])) (hg : W.grownBy w1 (Value.slice ta nt ct).ownBlock) (hat : (Value.slice ta nt ct).ownBlock = some g ∨ W.heap.size ≤ g) :
    PSt w (w1.setCell ⟨R, 2, none⟩ (.slice (some ⟨g, 0, none⟩) (nt + 1) cap)) R aa na ca gh ch (some ⟨g, 0, none⟩) (nt + 1) cap fuel k0 value gv nv cv G n cn b pc ka kn kc Bt vals hp (tr ++ [x]) K := by
  have hgs := hg.size
  have low : ∀ q, q < Bt → some q ≠ (Value.slice ta nt ct).ownBlock := fun q hq e => by have := (h.2.2.mem.own.lt q e.symm).1; omega
  have set : ∀ q, q ≠ R → (w1.setCell ⟨R, 2, none⟩ (.slice (some ⟨g, 0, none⟩) (nt + 1) cap)).heap[q]? = w1.heap[q]? := fun q hq => Below.heap_setCell _ _ _ _ hq
  have hgb := (ho.lt g rfl).1
  have vl := h.2.2.mem.vals.lt
  have hl := h.2.2.mem.heap.lt
  have hnt := h.2.2.mem.own.1
  have kt : ∀ q, (Value.slice ka kn kc).ownBlock = some q → (w1.setCell ⟨R, 2, none⟩ (.slice (some ⟨g, 0, none⟩) (nt + 1) cap)).heap[q]? = W.heap[q]? := fun q e => by
    have hq := h.2.2.own.lt q e
    refine (set q (by omega)).trans (hg.block q hq.2 (fun e2 => ?_))
    rcases h.2.2.tk with f | f
    · rw [f] at e; cases e
    · exact f (e.trans e2)
  refine ⟨(h.1.grown hg hB (fun q e => (h.2.2.mem.own.lt q e).1)).set (Or.inl rfl) _, (h.2.1.keep (hg.block R (by omega) (low R hR))).set2 _ _ _, ⟨h.2.2.mem.vals.keep ((set _ (fun e => hRv e.symm)).trans (hg.block _ vl (low _ hgv))), h.2.2.mem.heap.keep ((set _ (fun e => hRh e.symm)).trans (hg.block _ hl (low _ hgh))), ?_, h.2.2.mem.ne, ?_, ?_⟩, own_keep h.2.2.own kt, ?_⟩
  · have e1 : (tr ++ [x]).length = nt + 1 := by
      have := ho.1
      simp only [List.length_append, List.length_map, List.length_cons, List.length_nil, Nat.mul_one] at this ⊢
      omega
    rw [ints_snoc, e1]
    exact own_keep ho (fun q e => set q (fun e2 => by injection e with e; dsimp only at e; omega))
  · intro e; injection e with e; dsimp only at e; omega
  · intro e; injection e with e; dsimp only at e; omega
  · rcases h.2.2.tk with f | f
    · exact Or.inl f
    · right
      rcases hat with e | e
      · intro e2; apply f; rw [e, e2]; rfl
      · intro e2
        have := (h.2.2.own.lt g e2).2
        omega
end
end Go.Proofs.YtdcdgopblbmgoaaDoor
