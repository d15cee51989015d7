import Derived.Test.YtdcdgopblbmgoaaDoorN6
namespace Go.Proofs.YtdcdgopblbmgoaaDoor
open Go.RowKit

set_option maxHeartbeats 4000000 in
set_option maxRecDepth 100000 in
theorem step_load (R : Nat) (aa : Option Addr) (na ca gh ch : Nat) (ta : Option Addr) (nt ct : Nat) (fuel k0 value : Int) (gv nv cv G n cn : Nat) (b pc : Int) (ka : Option Addr) (kn kc : Nat) (D xa xb : Nat) (vals hp tr K : List Int) (Bt : Nat) (w : World)
    (hst : Hid (PSt w w R aa na ca gh ch ta nt ct fuel k0 value gv nv cv G n cn b pc ka kn kc Bt vals hp tr K)) (hnv : Hid (nv = vals.length)) (hh : Hid (hp.length = 32)) (hD : D < nv) (hA : xa < nv) (hR : R < Bt) (hgv : gv < Bt) (hgh : gh < Bt) (hRv : R ≠ gv) (hRh : R ≠ gh) (hB : Bt ≤ w.heap.size) :
    Calls Tryd.prog 117 #[.pointer (some ⟨R, 0, none⟩), .iface 216 (.agg #[.int .i64 8, .int .i64 D, .int .i64 xa, .int .i64 xb])] w
      fun e w' => e = .returned (.int .i64 0) ∧ PSt w w' R aa na ca gh ch ta nt ct fuel k0 value gv nv cv G n cn b pc ka kn kc Bt (vals.set D (getN hp (getN vals xa % 32))) hp tr K := by
  have ba := fun o => balloc (Below.refl w.heap.size w) o
  have c6 := fun x => ((ba x).cell (p := ⟨R, 6, none⟩) (by show R < _; omega)).trans hst.out.2.1.c6
  have n1 : w.heap.size ≠ R := by omega
  have n2 : w.heap.size ≠ gv := by omega
  have n3 : R ≠ w.heap.size := by omega
  have n4 : gv ≠ w.heap.size := by omega
  have n5 : gv ≠ R := fun e => hRv e.symm
  have n6 : gh ≠ R := fun e => hRh e.symm
  have n7 : gh ≠ w.heap.size := by omega
  have hvh := hst.out.2.2.mem.ne
  have hhv : gh ≠ gv := fun e => hvh e.symm
  have hAx : xa < vals.length := by have := hnv.out; omega
  have VA0 := hst.out.2.2.mem.vals.2 xa hAx
  obtain ⟨j, hj⟩ : ∃ j : Nat, vals[xa] % 32 = j := Int.eq_ofNat_of_zero_le (Int.emod_nonneg vals[xa] (b := 32) (by decide))
  have hj32 : j < 32 := by omega
  have hjx : j < hp.length := by have := hh.out; omega
  have ji0 : (0 : Int) ≤ j := by omega
  have ji1 : (j : Int) < 32 := by omega
  have H0 := hst.out.2.2.mem.heap.2 j hjx
  have HZ0 := hst.out.2.2.mem.heap.frozen j
  have hgj : getN hp (getN vals xa % 32) = hp[j] := by rw [getN_of _ _ hAx, hj, getN_of _ _ hjx]
  rw [hgj]
  have hDx : D < vals.length := by have := hnv.out; omega
  have VD0 := hst.out.2.2.mem.vals.2 D hDx
  have VZ0 := hst.out.2.2.mem.vals.frozen D
  have HF := fun x => hide ((((hst.out.next hB hR (ba x)).setV hgv hRv hDx hp[j])).drew.drew)
  have HJ := hide hj
  clear hj hgj
  generalize vals[D] = VD at *
  generalize vals[xa] = VA at *
  generalize hp[j] = VH at *
  have cd := fun x => ((ba x).cell (p := ⟨gv, D, none⟩) (by show gv < _; omega)).trans VD0
  have cz := fun x => ((ba x).frozen (p := ⟨gv, D, none⟩) (by show gv < _; omega)).trans VZ0
  have ca1 := fun x => ((ba x).cell (p := ⟨gv, xa, none⟩) (by show gv < _; omega)).trans VA0
  have ch1 := fun x => ((ba x).cell (p := ⟨gh, j, none⟩) (by show gh < _; omega)).trans H0
  have c1 := fun x => ((ba x).cell (p := ⟨R, 1, none⟩) (by show R < _; omega)).trans hst.out.2.1.c1
  have Y := fun xT v w => assert_yes Tryd.underlying216 xT v w
  have NC := fun xT v w => assert_no (t := 216) Tryd.underlying214 Tryd.zeroC (by decide) xT v w
  have NA := fun xT v w => assert_no (t := 216) Tryd.underlying219 Tryd.zeroA (by decide) xT v w
  go_enter Tryd.func117, Tryd.ntmps117
  go_wp2
  go_region_held3 (fun w' => w'.cell? ⟨R, 6, none⟩ = some (.slice (some ⟨gv, 0, none⟩) nv cv) ∧ w'.cell? ⟨R, 1, none⟩ = some (.slice (some ⟨gh, 0, none⟩) 32 ch) ∧ w'.cell? ⟨w.heap.size, 2, none⟩ = some (.int .i64 xa) ∧ w'.cell? ⟨gv, xa, none⟩ = some (.int .i64 VA)) (go_keep) (first | (go_at_call 151; refine (heapCell_any _ _).mono ?_; rintro e w1 ⟨rfl, rfl⟩; rw [unhide HJ]))
  go_wp2
  go_region_held3 (fun w' => w'.cell? ⟨R, 6, none⟩ = some (.slice (some ⟨gv, 0, none⟩) nv cv) ∧ w'.cell? ⟨w.heap.size, 1, none⟩ = some (.int .i64 D) ∧ w'.cell? ⟨gh, j, none⟩ = some (.int .i64 VH)) (go_keep) (fail)
  go_wp2
  go_ret
  exact ⟨rfl, (HF _).out⟩
end Go.Proofs.YtdcdgopblbmgoaaDoor

namespace Go.Proofs.YtdcdgopblbmgoaaDoor
open Go.RowKit

set_option maxHeartbeats 4000000 in
set_option maxRecDepth 100000 in
theorem step_out (R : Nat) (aa : Option Addr) (na ca gh ch : Nat) (ta : Option Addr) (nt ct : Nat) (fuel k0 value : Int) (gv nv cv G n cn : Nat) (b pc : Int) (ka : Option Addr) (kn kc : Nat) (xa : Nat) (vals hp tr K : List Int) (Bt : Nat) (w : World)
    (hst : Hid (PSt w w R aa na ca gh ch ta nt ct fuel k0 value gv nv cv G n cn b pc ka kn kc Bt vals hp tr K)) (hnv : Hid (nv = vals.length)) (hA : xa < nv) (hntl : nt ≤ 1000000) (hR : R < Bt) (hgv : gv < Bt) (hgh : gh < Bt) (hRv : R ≠ gv) (hRh : R ≠ gh) (hB : Bt ≤ w.heap.size) :
    Calls Tryd.prog 117 #[.pointer (some ⟨R, 0, none⟩), .iface 218 (.agg #[.int .i64 xa])] w
      fun e w' => e = .returned (.int .i64 0) ∧ ∃ ta' nt' ct', PSt w w' R aa na ca gh ch ta' nt' ct' fuel k0 value gv nv cv G n cn b pc ka kn kc Bt vals hp (tr ++ [getN vals xa]) K := by
  have ba := fun o => balloc (Below.refl w.heap.size w) o
  have c6 := fun x => ((ba x).cell (p := ⟨R, 6, none⟩) (by show R < _; omega)).trans hst.out.2.1.c6
  have n1 : w.heap.size ≠ R := by omega
  have n2 : w.heap.size ≠ gv := by omega
  have n3 : R ≠ w.heap.size := by omega
  have n4 : gv ≠ w.heap.size := by omega
  have n5 : gv ≠ R := fun e => hRv e.symm
  have n6 : gh ≠ R := fun e => hRh e.symm
  have n7 : gh ≠ w.heap.size := by omega
  have hvh := hst.out.2.2.mem.ne
  have hhv : gh ≠ gv := fun e => hvh e.symm
  have hAx : xa < vals.length := by have := hnv.out; omega
  rw [getN_of _ _ hAx]
  have VA0 := hst.out.2.2.mem.vals.2 xa hAx
  obtain ⟨i0, hi0, hz0, hz1, hz2⟩ := info_parts Tryd.info2'
  have bw := fun x y => balloc (balloc (Below.refl w.heap.size w) x).drew y
  have hntl2 := hst.out.2.2.mem.len
  have hown0 : w.ownsRow Bt 2 1 (.slice ta nt ct) nt (tr.map (Value.int .i64)) := by have h := hst.out.2.2.mem.own; rw [← hntl2] at h; exact h
  have HOW : ∀ x y, (((w.alloc x).drew).alloc y).ownsRow Bt 2 1 (.slice ta nt ct) nt (tr.map (Value.int .i64)) := fun x y => own_keep hown0 (fun q e => (bw x y).block q (hown0.lt q e).2)
  have hno : ∀ q, w.heap.size ≤ q → some q ≠ (Value.slice ta nt ct).ownBlock := fun q hq e => by have := (hown0.lt q e.symm).2; omega
  have hlow : ∀ q, q < Bt → some q ≠ (Value.slice ta nt ct).ownBlock := fun q hq e => by have := (hown0.lt q e.symm).1; omega
  have HP : ∀ (x y : Obj) (g cap : Nat) (w1 : World), w1.ownsRow Bt 2 1 (.slice (some ⟨g, 0, none⟩) (nt + 1) cap) (nt + 1) (tr.map (Value.int .i64) ++ [.int .i64 vals[xa]]) → (((w.alloc x).drew).alloc y).grownBy w1 (Value.slice ta nt ct).ownBlock → ((Value.slice ta nt ct).ownBlock = some g ∨ g = w.heap.size + 1 + 1) →
      PSt w (w1.setCell ⟨R, 2, none⟩ (.slice (some ⟨g, 0, none⟩) (nt + 1) cap)) R aa na ca gh ch (some ⟨g, 0, none⟩) (nt + 1) cap fuel k0 value gv nv cv G n cn b pc ka kn kc Bt vals hp (tr ++ [vals[xa]]) K := fun x y g cap w1 ho hg hat =>
    (hst.out.next hB hR (bw x y)).push hR hgv hgh hRv hRh (by have := (bw x y).size; omega) ho hg (hat.imp id (fun e => by rw [e]; simp))
  clear hntl2 hown0
  generalize vals[xa] = VA at *
  have c6a : ∀ x y, (((w.alloc x).drew).alloc y).cell? ⟨R, 6, none⟩ = some (.slice (some ⟨gv, 0, none⟩) nv cv) := fun x y => ((bw x y).cell (p := ⟨R, 6, none⟩) (by show R < _; omega)).trans hst.out.2.1.c6
  have c2a : ∀ x y, (((w.alloc x).drew).alloc y).cell? ⟨R, 2, none⟩ = some (.slice ta nt ct) := fun x y => ((bw x y).cell (p := ⟨R, 2, none⟩) (by show R < _; omega)).trans hst.out.2.1.c2
  have cza : ∀ x y, (((w.alloc x).drew).alloc y).frozen? ⟨R, 2, none⟩ = false := fun x y => ((bw x y).frozen (p := ⟨R, 2, none⟩) (by show R < _; omega)).trans (hst.out.2.1.fz 2)
  have cva : ∀ x y, (((w.alloc x).drew).alloc y).cell? ⟨gv, xa, none⟩ = some (.int .i64 VA) := fun x y => ((bw x y).cell (p := ⟨gv, xa, none⟩) (by show gv < _; omega)).trans VA0
  have c2b : ∀ x, (w.alloc x).cell? ⟨R, 2, none⟩ = some (.slice ta nt ct) := fun x => ((ba x).cell (p := ⟨R, 2, none⟩) (by show R < _; omega)).trans hst.out.2.1.c2
  have cvb : ∀ x, (w.alloc x).cell? ⟨gv, xa, none⟩ = some (.int .i64 VA) := fun x => ((ba x).cell (p := ⟨gv, xa, none⟩) (by show gv < _; omega)).trans VA0
  have c6c : ∀ x y, ((w.alloc x).alloc y).cell? ⟨R, 6, none⟩ = some (.slice (some ⟨gv, 0, none⟩) nv cv) := c6a
  have c2c : ∀ x y, ((w.alloc x).alloc y).cell? ⟨R, 2, none⟩ = some (.slice ta nt ct) := c2a
  have cvc : ∀ x y, ((w.alloc x).alloc y).cell? ⟨gv, xa, none⟩ = some (.int .i64 VA) := cva
  have Y := fun xT v w => assert_yes Tryd.underlying218 xT v w
  have NC := fun xT v w => assert_no (t := 218) Tryd.underlying214 Tryd.zeroC (by decide) xT v w
  have NA := fun xT v w => assert_no (t := 218) Tryd.underlying219 Tryd.zeroA (by decide) xT v w
  have NH := fun xT v w => assert_no (t := 218) Tryd.underlying216 Tryd.zeroH (by decide) xT v w
  go_enter Tryd.func117, Tryd.ntmps117
  go_wp2
  refine wp_region_held_drew (S := (fun w' => w'.cell? ⟨R, 6, none⟩ = some (.slice (some ⟨gv, 0, none⟩) nv cv) ∧ w'.cell? ⟨w.heap.size, 0, none⟩ = some (.int .i64 xa) ∧ w'.cell? ⟨gv, xa, none⟩ = some (.int .i64 VA))) (by kernel_rfl) (by (try dsimp only); go_keep) (fun hHeld => ?_)
  refine wpAnyH_take (i := 0) (v := ?_) rfl (by kernel_rfl) (by kernel_rfl) (by kernel_rfl) (fun _ _ _ h => h) (Or.inl ⟨by rfl, ?_⟩) (by assumption) ?_
  rotate_left
  · intro w hSw; (try dsimp only at hSw); go_simp; try with_reducible rfl
  simp only [Act.put, List.getElem_toArray, List.getElem_cons_zero, List.setIfInBounds_toArray, List.set_cons_zero, List.set_cons_succ]
  refine wpAnyH_take (i := 1) (v := ?_) rfl (by kernel_rfl) (by kernel_rfl) (by kernel_rfl) (fun _ _ _ h => h) (Or.inl ⟨by rfl, ?_⟩) (by assumption) ?_
  rotate_left
  · intro w hSw; (try dsimp only at hSw); go_simp; try with_reducible rfl
  simp only [Act.put, List.getElem_toArray, List.getElem_cons_zero, List.getElem_cons_succ, List.setIfInBounds_toArray, List.set_cons_zero, List.set_cons_succ]
  refine wpAnyH_take (i := 2) (v := ?_) rfl (by kernel_rfl) (by kernel_rfl) (by kernel_rfl) (fun _ _ _ h => h) (Or.inl ⟨by rfl, ?_⟩) (by assumption) ?_
  rotate_left
  · intro w hSw; (try dsimp only at hSw); go_simp; try with_reducible rfl
  simp only [Act.put, List.getElem_toArray, List.getElem_cons_zero, List.getElem_cons_succ, List.setIfInBounds_toArray, List.set_cons_zero, List.set_cons_succ]
  refine wpAnyH_take (i := 3) (v := ?_) rfl (by kernel_rfl) (by kernel_rfl) (by kernel_rfl) (fun _ _ _ h => h) (Or.inl ⟨by rfl, ?_⟩) (by assumption) ?_
  rotate_left
  · intro w hSw; (try dsimp only at hSw); go_simp; try with_reducible rfl
  simp only [Act.put, List.getElem_toArray, List.getElem_cons_zero, List.getElem_cons_succ, List.setIfInBounds_toArray, List.set_cons_zero, List.set_cons_succ]
  refine wpAnyH_take (i := 5) (v := ?_) rfl (by kernel_rfl) (by kernel_rfl) (by kernel_rfl) (fun _ _ _ h => h) (Or.inl ⟨by rfl, ?_⟩) (by assumption) ?_
  rotate_left
  · intro w hSw; (try dsimp only at hSw); go_simp; try with_reducible rfl
  simp only [Act.put, List.getElem_toArray, List.getElem_cons_zero, List.getElem_cons_succ, List.setIfInBounds_toArray, List.set_cons_zero, List.set_cons_succ]
  refine wpAnyH_take (i := 6) (v := ?_) rfl (by kernel_rfl) (by kernel_rfl) (by kernel_rfl) (fun _ _ _ h => h) (Or.inl ⟨by rfl, ?_⟩) (by assumption) ?_
  rotate_left
  · intro w hSw; (try dsimp only at hSw); go_simp; try with_reducible rfl
  simp only [Act.put, List.getElem_toArray, List.getElem_cons_zero, List.getElem_cons_succ, List.setIfInBounds_toArray, List.set_cons_zero, List.set_cons_succ]
  refine wpAnyH_take (i := 7) (v := ?_) rfl (by kernel_rfl) (by kernel_rfl) (by kernel_rfl) (fun _ _ _ h => h) (Or.inl ⟨by rfl, ?_⟩) (by assumption) ?_
  rotate_left
  · intro w hSw; (try dsimp only at hSw); go_simp; try with_reducible rfl
  simp only [Act.put, List.getElem_toArray, List.getElem_cons_zero, List.getElem_cons_succ, List.setIfInBounds_toArray, List.set_cons_zero, List.set_cons_succ]
  refine wpAnyH_take (i := 8) (v := ?_) rfl (by kernel_rfl) (by kernel_rfl) (by kernel_rfl) (fun _ _ _ h => h) (Or.inl ⟨by rfl, ?_⟩) (by assumption) ?_
  rotate_left
  · intro w hSw; (try dsimp only at hSw); go_simp; try with_reducible rfl
  simp only [Act.put, List.getElem_toArray, List.getElem_cons_zero, List.getElem_cons_succ, List.setIfInBounds_toArray, List.set_cons_zero, List.set_cons_succ]
  refine wpAnyH_take (i := 9) (v := ?_) rfl (by kernel_rfl) (by kernel_rfl) (by kernel_rfl) (fun _ _ _ h => h) (Or.inl ⟨by rfl, ?_⟩) (by assumption) ?_
  rotate_left
  · intro w hSw; (try dsimp only at hSw); go_simp; try with_reducible rfl
  simp only [Act.put, List.getElem_toArray, List.getElem_cons_zero, List.getElem_cons_succ, List.setIfInBounds_toArray, List.set_cons_zero, List.set_cons_succ]
  refine wpAnyH_take (i := 10) (v := ?_) rfl (by kernel_rfl) (by kernel_rfl) (by kernel_rfl) (fun _ _ _ h => h) (Or.inl ⟨by rfl, ?_⟩) (by assumption) ?_
  rotate_left
  · intro w hSw; (try dsimp only at hSw); go_simp; try with_reducible rfl
  simp only [Act.put, List.getElem_toArray, List.getElem_cons_zero, List.getElem_cons_succ, List.setIfInBounds_toArray, List.set_cons_zero, List.set_cons_succ]
  refine wpAnyH_take (i := 11) (v := ?_) rfl (by kernel_rfl) (by kernel_rfl) (by kernel_rfl) (fun _ _ _ h => h) (Or.inl ⟨by rfl, ?_⟩) (by assumption) ?_
  rotate_left
  · intro w hSw; (try dsimp only at hSw); go_simp; try with_reducible rfl
  simp only [Act.put, List.getElem_toArray, List.getElem_cons_zero, List.getElem_cons_succ, List.setIfInBounds_toArray, List.set_cons_zero, List.set_cons_succ]
  refine wpAnyH_take (i := 12) (v := ?_) rfl (by kernel_rfl) (by kernel_rfl) (by kernel_rfl) (fun _ _ _ h => h) (Or.inl ⟨by rfl, ?_⟩) (by assumption) ?_
  rotate_left
  · intro w hSw; (try dsimp only at hSw); go_simp; try with_reducible rfl
  simp only [Act.put, List.getElem_toArray, List.getElem_cons_zero, List.getElem_cons_succ, List.setIfInBounds_toArray, List.set_cons_zero, List.set_cons_succ]
  refine wpAnyH_ready (rs := [4, 13]) (by kernel_rfl) (by simp) ?_
  refine (AllReadyH.cons rfl (fun K hK => ?_) (AllReadyH.cons rfl (fun K hK => ?_) AllReadyH.nil))
  · skip
    go_simp
    refine hK.out _ _ (by first | with_reducible exact hHeld | ((try dsimp only); go_keep)) (fun hHeld => ?_)
    clear hK
    try simp only [Act.put, List.getElem_toArray, List.getElem_cons_zero, List.getElem_cons_succ, List.setIfInBounds_toArray, List.set_cons_zero, List.set_cons_succ]
    refine wpAnyH_ready (rs := [13]) (by kernel_rfl) (by simp) ?_
    refine AllReadyH.cons rfl (fun K hK => ?_) AllReadyH.nil
    go_simp
    refine hK.out _ _ (by first | with_reducible exact hHeld | ((try dsimp only); go_keep)) (fun hHeld => ?_)
    clear hK
    try simp only [Act.put, List.getElem_toArray, List.getElem_cons_zero, List.getElem_cons_succ, List.setIfInBounds_toArray, List.set_cons_zero, List.set_cons_succ]
    refine wpAnyH_ready (rs := [14]) (by kernel_rfl) (by simp) ?_
    refine AllReadyH.cons rfl (fun K hK => ?_) AllReadyH.nil
    refine step_append_lies _ rfl (.tmp 115) (.tmp 124) 38 rfl Bt 2 i0 (.int .i64 0) 1 8 Tryd.underlying38 hi0 hz0 hz1 hz2 rfl (by decide) (.slice ta nt ct) nt (tr.map (Value.int .i64)) (by simp [Act.eval]) (HOW _ _) ⟨w.heap.size + 1, 0, none⟩ 1 1 [.int .i64 VA] (by simp [Act.eval]) rfl ?_ (by intro u hu; simp at hu; subst hu; rfl) (by decide) (by unfold maxLen; omega) (by omega) (by simp; omega) (w.heap.size + 1 + 1) (by simp) ?_
    · intro j u hj
      match j, hj with
      | 0, hj => simp at hj; subst hj; simp [Addr.add, go_sem]
    intro g cap w1 hown hgrow hat hlt
    have HN := hide (HP _ _ g cap w1 hown hgrow hat)
    obtain ⟨f0, -⟩ := far10' hgrow (k := w.heap.size) (by simp <;> omega) (hno _ (by omega))
    obtain ⟨f1, -⟩ := far10' hgrow (k := gv) (by simp <;> omega) (hlow _ (by omega))
    obtain ⟨f2, e2⟩ := far10' hgrow (k := R) (by simp <;> omega) (hlow _ (by omega))
    have kx : w1.cell? ⟨R, 6, none⟩ = some (.slice (some ⟨gv, 0, none⟩) nv cv) := (f2 6).trans (c6a _ _)
    have kx' : ∀ v, (w1.setCell ⟨R, 2, none⟩ v).cell? ⟨R, 6, none⟩ = some (.slice (some ⟨gv, 0, none⟩) nv cv) := fun v => (World.cell?_setCell_other _ _ _ _ (by intro e; injection e with _ e; omega)).trans kx
    have ky : w1.cell? ⟨w.heap.size, 0, none⟩ = some (.int .i64 xa) := (f0 0).trans (by simp [go_sem])
    have kz : w1.cell? ⟨gv, xa, none⟩ = some (.int .i64 VA) := (f1 xa).trans (cva _ _)
    have k1 : w1.cell? ⟨R, 2, none⟩ = some (.slice ta nt ct) := (f2 2).trans (c2a _ _)
    have z1 : w1.frozen? ⟨R, 2, none⟩ = false := (e2 2).trans (cza _ _)
    clear f0 f1 f2 e2 hown hgrow hat hlt
    refine hK.out _ _ (by first | with_reducible exact hHeld | ((try dsimp only); go_keep)) (fun hHeld => ?_)
    clear hK
    try simp only [Act.put, List.getElem_toArray, List.getElem_cons_zero, List.getElem_cons_succ, List.setIfInBounds_toArray, List.set_cons_zero, List.set_cons_succ]
    refine wpAnyH_take (i := 15) (v := ?_) rfl (by kernel_rfl) (by kernel_rfl) (by kernel_rfl) (fun _ _ _ h => h) (Or.inl ⟨by rfl, ?_⟩) (by assumption) ?_
    rotate_left
    · intro w hSw; (try dsimp only at hSw); go_simp; try with_reducible rfl
    simp only [Act.put, List.getElem_toArray, List.getElem_cons_zero, List.getElem_cons_succ, List.setIfInBounds_toArray, List.set_cons_zero, List.set_cons_succ]
    refine wpAnyH_take (i := 16) (v := ?_) rfl (by kernel_rfl) (by kernel_rfl) (by kernel_rfl) (fun _ _ _ h => h) (Or.inl ⟨by rfl, ?_⟩) (by assumption) ?_
    rotate_left
    · intro w hSw; (try dsimp only at hSw); go_simp; try with_reducible rfl
    simp only [Act.put, List.getElem_toArray, List.getElem_cons_zero, List.getElem_cons_succ, List.setIfInBounds_toArray, List.set_cons_zero, List.set_cons_succ]
    refine wpAnyH_ready (rs := [17]) (by kernel_rfl) (by simp) ?_
    refine AllReadyH.cons rfl (fun K hK => ?_) AllReadyH.nil
    go_simp
    refine hK.out _ _ (by first | with_reducible exact hHeld | ((try dsimp only); go_keep)) (fun hHeld => ?_)
    clear hK
    try simp only [Act.put, List.getElem_toArray, List.getElem_cons_zero, List.getElem_cons_succ, List.setIfInBounds_toArray, List.set_cons_zero, List.set_cons_succ]
    refine wpAnyH_done (by kernel_rfl) ?_ _
    go_wp2
    go_ret
    exact ⟨rfl, some ⟨g, 0, none⟩, nt + 1, cap, HN.out⟩
  · skip
    go_simp
    refine hK.out _ _ (by first | with_reducible exact hHeld | ((try dsimp only); go_keep)) (fun hHeld => ?_)
    clear hK
    try simp only [Act.put, List.getElem_toArray, List.getElem_cons_zero, List.getElem_cons_succ, List.setIfInBounds_toArray, List.set_cons_zero, List.set_cons_succ]
    refine wpAnyH_ready (rs := [4]) (by kernel_rfl) (by simp) ?_
    refine AllReadyH.cons rfl (fun K hK => ?_) AllReadyH.nil
    go_simp
    refine hK.out _ _ (by first | with_reducible exact hHeld | ((try dsimp only); go_keep)) (fun hHeld => ?_)
    clear hK
    try simp only [Act.put, List.getElem_toArray, List.getElem_cons_zero, List.getElem_cons_succ, List.setIfInBounds_toArray, List.set_cons_zero, List.set_cons_succ]
    refine wpAnyH_ready (rs := [14]) (by kernel_rfl) (by simp) ?_
    refine AllReadyH.cons rfl (fun K hK => ?_) AllReadyH.nil
    refine step_append_lies _ rfl (.tmp 115) (.tmp 124) 38 rfl Bt 2 i0 (.int .i64 0) 1 8 Tryd.underlying38 hi0 hz0 hz1 hz2 rfl (by decide) (.slice ta nt ct) nt (tr.map (Value.int .i64)) (by simp [Act.eval]) (HOW _ _) ⟨w.heap.size + 1, 0, none⟩ 1 1 [.int .i64 VA] (by simp [Act.eval]) rfl ?_ (by intro u hu; simp at hu; subst hu; rfl) (by decide) (by unfold maxLen; omega) (by omega) (by simp; omega) (w.heap.size + 1 + 1) (by simp) ?_
    · intro j u hj
      match j, hj with
      | 0, hj => simp at hj; subst hj; simp [Addr.add, go_sem]
    intro g cap w1 hown hgrow hat hlt
    have HN := hide (HP _ _ g cap w1 hown hgrow hat)
    obtain ⟨f0, -⟩ := far10' hgrow (k := w.heap.size) (by simp <;> omega) (hno _ (by omega))
    obtain ⟨f1, -⟩ := far10' hgrow (k := gv) (by simp <;> omega) (hlow _ (by omega))
    obtain ⟨f2, e2⟩ := far10' hgrow (k := R) (by simp <;> omega) (hlow _ (by omega))
    have kx : w1.cell? ⟨R, 6, none⟩ = some (.slice (some ⟨gv, 0, none⟩) nv cv) := (f2 6).trans (c6a _ _)
    have kx' : ∀ v, (w1.setCell ⟨R, 2, none⟩ v).cell? ⟨R, 6, none⟩ = some (.slice (some ⟨gv, 0, none⟩) nv cv) := fun v => (World.cell?_setCell_other _ _ _ _ (by intro e; injection e with _ e; omega)).trans kx
    have ky : w1.cell? ⟨w.heap.size, 0, none⟩ = some (.int .i64 xa) := (f0 0).trans (by simp [go_sem])
    have kz : w1.cell? ⟨gv, xa, none⟩ = some (.int .i64 VA) := (f1 xa).trans (cva _ _)
    have k1 : w1.cell? ⟨R, 2, none⟩ = some (.slice ta nt ct) := (f2 2).trans (c2a _ _)
    have z1 : w1.frozen? ⟨R, 2, none⟩ = false := (e2 2).trans (cza _ _)
    clear f0 f1 f2 e2 hown hgrow hat hlt
    refine hK.out _ _ (by first | with_reducible exact hHeld | ((try dsimp only); go_keep)) (fun hHeld => ?_)
    clear hK
    try simp only [Act.put, List.getElem_toArray, List.getElem_cons_zero, List.getElem_cons_succ, List.setIfInBounds_toArray, List.set_cons_zero, List.set_cons_succ]
    refine wpAnyH_take (i := 15) (v := ?_) rfl (by kernel_rfl) (by kernel_rfl) (by kernel_rfl) (fun _ _ _ h => h) (Or.inl ⟨by rfl, ?_⟩) (by assumption) ?_
    rotate_left
    · intro w hSw; (try dsimp only at hSw); go_simp; try with_reducible rfl
    simp only [Act.put, List.getElem_toArray, List.getElem_cons_zero, List.getElem_cons_succ, List.setIfInBounds_toArray, List.set_cons_zero, List.set_cons_succ]
    refine wpAnyH_take (i := 16) (v := ?_) rfl (by kernel_rfl) (by kernel_rfl) (by kernel_rfl) (fun _ _ _ h => h) (Or.inl ⟨by rfl, ?_⟩) (by assumption) ?_
    rotate_left
    · intro w hSw; (try dsimp only at hSw); go_simp; try with_reducible rfl
    simp only [Act.put, List.getElem_toArray, List.getElem_cons_zero, List.getElem_cons_succ, List.setIfInBounds_toArray, List.set_cons_zero, List.set_cons_succ]
    refine wpAnyH_ready (rs := [17]) (by kernel_rfl) (by simp) ?_
    refine AllReadyH.cons rfl (fun K hK => ?_) AllReadyH.nil
    go_simp
    refine hK.out _ _ (by first | with_reducible exact hHeld | ((try dsimp only); go_keep)) (fun hHeld => ?_)
    clear hK
    try simp only [Act.put, List.getElem_toArray, List.getElem_cons_zero, List.getElem_cons_succ, List.setIfInBounds_toArray, List.set_cons_zero, List.set_cons_succ]
    refine wpAnyH_done (by kernel_rfl) ?_ _
    go_wp2
    go_ret
    exact ⟨rfl, some ⟨g, 0, none⟩, nt + 1, cap, HN.out⟩
end Go.Proofs.YtdcdgopblbmgoaaDoor
