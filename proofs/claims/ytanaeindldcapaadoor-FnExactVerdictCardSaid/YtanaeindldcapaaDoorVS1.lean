import Derived.Test.YtanaeindldcapaaDoorMT1
import Derived.Test.YtanaeindldcapaaDoorW18b
namespace Go.Proofs.YtanaeindldcapaaDoor
open Go.RowKit
set_option maxHeartbeats 2000000 in
set_option maxRecDepth 100000 in
theorem verdictS_any (v : Int) (a : Option Addr) (n c : Nat) (xs : List Blk) (L B : Nat) (w : World) (ha : Hid (BlksAt w L B a xs)) (hx : Hid (n = xs.length)) (hs : Hid (xs.length + blksTot xs ≤ 1048576)) (hB : B ≤ w.heap.size) :
    Calls Tryd.prog 5 #[.agg #[.int .i64 v, .slice a n c]] w fun e w' => e = .returned (.int .i64 (verdP v xs)) ∧ Below w.heap.size w w' := by
  have HVF := hide (fun W (hb : Below w.heap.size w W) => validFuncS_any v a n c xs L B W (hide (ha.out.keep (hb.mono hB))) hx hs (by have := hb.size; omega))
  have HVS := hide (valid_same ⟨v, xs⟩)
  rw [← HVS.out] at HVF
  have hW0 : Below w.heap.size w (w.alloc (.cells #[.int .i64 v, .slice a n c] 29)) := balloc (Below.refl _ _) _
  have hf0 : (w.alloc (.cells #[.int .i64 v, .slice a n c] 29)).cell? ⟨w.heap.size, 0, none⟩ = some (.int .i64 v) := by simp
  have hf1 : (w.alloc (.cells #[.int .i64 v, .slice a n c] 29)).cell? ⟨w.heap.size, 1, none⟩ = some (.slice a n c) := by simp
  have hz0 : w.heap.size < (w.alloc (.cells #[.int .i64 v, .slice a n c] 29)).heap.size := by simp
  cases hv : validI ⟨v, xs⟩ with
  | false =>
    rw [hv] at HVF
    rw [verdP_bad hv]
    clear hv
    go_enter Tryd.func5, Tryd.ntmps5
    go_wp2_with fail
    refine (HVF.out _ hW0).mono ?_
    rintro e w1 ⟨rfl, hb1⟩
    have HB1 := hide (bnext hW0 hb1)
    clear hb1 HVF hW0 hf0 hf1 hz0
    go_wp2_with fail
    go_ret
    exact ⟨rfl, HB1.out⟩
  | true =>
    rw [hv] at HVF
    have HV := hide hv
    have hv0 : 0 ≤ v := by
      simp only [validI, sizeOk, Bool.and_eq_true, decide_eq_true_eq] at hv
      omega
    obtain ⟨V, rfl⟩ := Int.eq_ofNat_of_zero_le hv0
    have HOK : Hid (OkL V xs) := hide (okL_of_valid hv)
    have hn : n ≤ 1000 := by have := hx.out; have := HOK.out.okf.n2; omega
    have hn0 : 0 < n := by have := hx.out; have := HOK.out.okf.n1; omega
    generalize hvr : verdP (V : Int) xs = vr
    have HVR := hide hvr
    clear hv hv0 hvr
    have HRC := hide (fun W (hb : Below w.heap.size w W) => reach_any (V : Int) a n c (-1) xs L B W (hide (ha.out.keep (hb.mono hB))) hx (by omega) (by omega) (by have := hb.size; omega) (hide (by rw [hx.out]; exact HOK.out.okf.tgt)))
    have HSR := hide (fun W (hb : Below w.heap.size w W) => strict_any V a n c xs L B W (hide (ha.out.keep (hb.mono hB))) hx (by have := hb.size; omega) HOK)
    go_enter Tryd.func5, Tryd.ntmps5
    go_wp2_with fail
    refine (HVF.out _ hW0).mono ?_
    rintro e w1 ⟨rfl, hb1⟩
    have HB1 := hide (bnext hW0 hb1)
    have g0 := (hb1.cell (p := ⟨w.heap.size, 0, none⟩) hz0).trans hf0
    have g1 := (hb1.cell (p := ⟨w.heap.size, 1, none⟩) hz0).trans hf1
    have hz1 : w.heap.size < w1.heap.size := Nat.lt_of_lt_of_le hz0 hb1.size
    clear hb1 hW0 hf0 hf1 hz0 HVF
    go_wp2_with fail
    refine wp_region_held_drew (S := (fun w' => w'.cell? ⟨w.heap.size, 0, none⟩ = some (.int .i64 (V : Int)) ∧ w'.cell? ⟨w.heap.size, 1, none⟩ = some (.slice a n c))) (by kernel_rfl) (by (try dsimp only); go_keep) (fun hHeld => ?_)
    refine wpAnyH_take (i := 0) (v := ?_) rfl (by kernel_rfl) (by kernel_rfl) (by kernel_rfl) (fun _ _ _ h => h) (Or.inl ⟨by rfl, ?_⟩) (by assumption) ?_
    rotate_left
    · intro w hSw; (try dsimp only at hSw); go_simp; try with_reducible rfl
    simp only [Act.put, List.getElem_toArray, List.getElem_cons_zero, List.setIfInBounds_toArray, List.set_cons_zero, List.set_cons_succ]
    refine wpAnyH_take (i := 3) (v := ?_) rfl (by kernel_rfl) (by kernel_rfl) (by kernel_rfl) (fun _ _ _ h => h) (Or.inl ⟨by rfl, ?_⟩) (by assumption) ?_
    rotate_left
    · intro w hSw; (try dsimp only at hSw); go_simp; try with_reducible rfl
    simp only [Act.put, List.getElem_toArray, List.getElem_cons_zero, List.getElem_cons_succ, List.setIfInBounds_toArray, List.set_cons_zero, List.set_cons_succ]
    refine wpAnyH_take (i := 4) (v := ?_) rfl (by kernel_rfl) (by kernel_rfl) (by kernel_rfl) (fun _ _ _ h => h) (Or.inl ⟨by rfl, ?_⟩) (by assumption) ?_
    rotate_left
    · intro w hSw; (try dsimp only at hSw); go_simp; try with_reducible rfl
    simp only [Act.put, List.getElem_toArray, List.getElem_cons_zero, List.getElem_cons_succ, List.setIfInBounds_toArray, List.set_cons_zero, List.set_cons_succ]
    refine wpAnyH_take (i := 5) (v := ?_) rfl (by kernel_rfl) (by kernel_rfl) (by kernel_rfl) (fun _ _ _ h => h) (Or.inl ⟨by rfl, ?_⟩) (by assumption) ?_
    rotate_left
    · intro w hSw; (try dsimp only at hSw); go_simp; try with_reducible rfl
    simp only [Act.put, List.getElem_toArray, List.getElem_cons_zero, List.getElem_cons_succ, List.setIfInBounds_toArray, List.set_cons_zero, List.set_cons_succ]
    refine wpAnyH_ready (rs := [1]) (by kernel_rfl) (by simp) ?_
    refine AllReadyH.cons rfl (fun K hK => ?_) AllReadyH.nil
    go_simp
    refine (HRC.out w1.drew HB1.out.drew).mono ?_
    rintro e w2 ⟨v2, F, rfl, hb2', ho2, hnd2, hm2⟩
    have hb2 : Below w1.heap.size w1 w2 := ⟨hb2'.os, hb2'.tape, hb2'.output, hb2'.size, hb2'.block⟩
    rw [show natV F = (natI F).map (Value.int .i64) by simp [natV, natI]] at ho2
    obtain ⟨aF, cF, e2, _⟩ := ints_owned ho2
    have hnF : (natI F).length = F.length := by simp [natI]
    have HFU := hide (full_iff HOK.out.okf hnd2 (fun x => (hm2 x).trans (avz_neg (by decide))))
    rw [hnF] at e2
    subst e2
    obtain ⟨lF, hlF⟩ : ∃ m, m = F.length := ⟨_, rfl⟩
    rw [← hlF]
    have HAR : Hid (lF = n ↔ AllRe xs) := hide (by rw [hlF, hx.out]; exact HFU.out.2)
    have hl1 : lF ≤ n := by rw [hlF, hx.out]; exact HFU.out.1
    have HB2 := hide (bnext HB1.out hb2)
    have k0 := (hb2.cell (p := ⟨w.heap.size, 0, none⟩) hz1).trans g0
    have k1 := (hb2.cell (p := ⟨w.heap.size, 1, none⟩) hz1).trans g1
    clear hb2 hb2' ho2 hnd2 hm2 hnF hlF HFU g0 g1
    refine hK.out _ _ ⟨k0, k1⟩ (fun hHeld => ?_)
    clear hK
    try simp only [Act.put, List.getElem_toArray, List.getElem_cons_zero, List.getElem_cons_succ, List.setIfInBounds_toArray, List.set_cons_zero, List.set_cons_succ]
    refine wpAnyH_take (i := 2) (v := ?_) rfl (by kernel_rfl) (by kernel_rfl) (by kernel_rfl) (fun _ _ _ h => h) (Or.inl ⟨by rfl, ?_⟩) (by assumption) ?_
    rotate_left
    · intro w hSw; (try dsimp only at hSw); go_simp; try with_reducible rfl
    simp only [Act.put, List.getElem_toArray, List.getElem_cons_zero, List.getElem_cons_succ, List.setIfInBounds_toArray, List.set_cons_zero, List.set_cons_succ]
    by_cases hle : lF = n
    · have HAL : Hid (AllRe xs) := hide (HAR.out.1 hle)
      have hne : ((lF : Int) != (n : Int)) = false := by simp [hle]
      clear hle
      refine wpAnyH_take (i := 6) (v := ?_) rfl (by kernel_rfl) (by kernel_rfl) (by kernel_rfl) (fun _ _ _ h => h) (Or.inl ⟨by rfl, ?_⟩) (by assumption) ?_
      rotate_left
      · intro w hSw; (try dsimp only at hSw); go_simp; try with_reducible rfl
      simp only [Act.put, List.getElem_toArray, List.getElem_cons_zero, List.getElem_cons_succ, List.setIfInBounds_toArray, List.set_cons_zero, List.set_cons_succ]
      refine wpAnyH_done (by kernel_rfl) ?_ _
      clear hHeld
      go_wp2_with fail
      refine (HSR.out w2 HB2.out).mono ?_
      rintro e w3 ⟨s, rfl, hsi, hb3⟩
      have HB3 := hide (bnext HB2.out hb3)
      have HSI := hide hsi
      clear hsi hb3
      cases s with
      | true =>
        have HR : Hid (vr = 0) := hide (by rw [← HVR.out]; exact verdP_ok HV.out HAL.out (fun h => by
          obtain ⟨x, h1⟩ := h
          exact HSI.out.1 rfl x (bad_lt HOK.out h1) h1))
        go_wp2_with fail
        go_ret
        exact ⟨by rw [HR.out]; rfl, HB3.out⟩
      | false =>
        have HR : Hid (vr = 11) := hide (by rw [← HVR.out]; exact verdP_ns HV.out HAL.out (Classical.byContradiction fun h => by
          have := HSI.out.2 (fun x _ h1 => h ⟨x, h1⟩)
          cases this))
        go_wp2_with fail
        go_ret
        exact ⟨by rw [HR.out]; rfl, HB3.out⟩
    · have HR : Hid (vr = 10) := hide (by rw [← HVR.out]; exact verdP_un HV.out (fun h => hle (HAR.out.2 h)))
      have hne : ((lF : Int) != (n : Int)) = true := by simp; omega
      clear hle
      refine wpAnyH_take (i := 6) (v := ?_) rfl (by kernel_rfl) (by kernel_rfl) (by kernel_rfl) (fun _ _ _ h => h) (Or.inl ⟨by rfl, ?_⟩) (by assumption) ?_
      rotate_left
      · intro w hSw; (try dsimp only at hSw); go_simp; try with_reducible rfl
      simp only [Act.put, List.getElem_toArray, List.getElem_cons_zero, List.getElem_cons_succ, List.setIfInBounds_toArray, List.set_cons_zero, List.set_cons_succ]
      refine wpAnyH_done (by kernel_rfl) ?_ _
      clear hHeld
      go_wp2_with fail
      go_ret
      exact ⟨by rw [HR.out]; rfl, HB2.out⟩
end Go.Proofs.YtanaeindldcapaaDoor
