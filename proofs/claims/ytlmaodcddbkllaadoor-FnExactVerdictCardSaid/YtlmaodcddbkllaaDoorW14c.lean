import Derived.Test.YtlmaodcddbkllaaDoorW14b
import Derived.Test.YtlmaodcddbkllaaDoorDF1
/-
  predecessors of the program: each list in a row of its own.
-/
namespace Go.Proofs.YtlmaodcddbkllaaDoor
open Go.RowKit

set_option maxHeartbeats 2000000 in
theorem predecessors_sep (v : Int) (a : Option Addr) (n c : Nat) (xs : List Blk) (L B : Nat) (w : World) (ha : Hid (BlksAt w L B a xs)) (hx : Hid (n = xs.length)) (hn : n ≤ 1048576) (hB : B ≤ w.heap.size) (hg : Hid (TgtOk xs n)) :
    Calls Tryd.prog 63 #[.agg #[.int .i64 v, .slice a n c]] w fun e w' => ∃ U, e = .returned (.slice (some ⟨w.heap.size + 1, 0, none⟩) n n) ∧ Below w.heap.size w w' ∧ Rows2 w' (w.heap.size + 1) n (fun i : Nat => predsFrom xs 0 (i : Int)) U := by
  obtain ⟨i0, hi0, hz0, hz1, hz2⟩ := info_parts Tryd.info2'
  have hmk := run_make_row' (P := Tryd.prog) 105 40 (.slice none 0 0) 24 Tryd.underlying105 Tryd.info45 rfl .i64 .i64 n (by omega) (by omega)
  go_enter Tryd.func63, Tryd.ntmps63
  go_wp2
  go_loopw [15] (fun i wr => ∃ k : Nat, k ≤ n ∧ i = .int .i64 k ∧ Below w.heap.size w wr ∧ Hid (∃ U, Rows2 wr (w.heap.size + 1) n (predsMid xs k []) U)) (fun i _ => n - (intOf i).toNat)
  case atStart => exact ⟨0, Nat.zero_le _, rfl, balloc (balloc (Below.refl _ _) _) _, ⟨_, by have := Rows2.born (w.alloc (.cells #[.int .i64 v, .slice a n c] 25)) n; rw [World.size_alloc] at this; exact this⟩⟩
  case round =>
    obtain ⟨k, hk, rfl, hw, hrw⟩ := hrel
    by_cases hlt : k < n
    · have hkx : k < xs.length := by have := hx.out; omega
      obtain ⟨b, o, rfl, ⟨_, hbB⟩, hc⟩ := ha.out k hkx
      obtain ⟨pa, pc, ia, ic, e0, e1, ⟨e2, e3, e4, e5⟩, _, _⟩ := hc.keep (hw.mono hB) (by omega)
      have hwh := hide (fun i => predsMid_whole xs k i hkx)
      obtain ⟨hg1, hg2⟩ := hg.out _ (List.getElem_mem hkx)
      have HG1 := hide hg1
      have HG2 := hide hg2
      clear hc hg1 hg2
      generalize xs[k] = X at *
      go_wp2_with fail
      refine (targetsI_any X.term _).mono ?_
      rintro e w2 ⟨a1, c1, rfl, hb2, hi2⟩
      have hb3 := bnext (balloc (Below.refl wr.heap.size wr) _) hb2
      have hz3 := hb2.size
      simp at hz3
      have hz4 : wr.heap.size < w2.heap.size := by omega
      have HI := hide hi2
      have hGlt : w.heap.size + 1 < wr.heap.size := by obtain ⟨U, hU⟩ := hrw.out; exact hU.1.lt
      have HR : Hid (∃ U, Rows2 w2 (w.heap.size + 1) n (predsMid xs k []) U ∧ ∀ i g, i < n → (U i).ownBlock = some g → g ≤ wr.heap.size ∨ w2.heap.size ≤ g) := by
        obtain ⟨U, hU⟩ := hrw.out
        exact ⟨U, hU.below hb3, fun i g hi hg => by have := ((hU.2.1 i hi).lt g hg).2; omega⟩
      have HW := hide (bnext hw hb3)
      have htl : X.term.targets.length ≤ 2 := by unfold Ter.targets; split <;> (try split) <;> simp
      generalize hT : X.term.targets = ts at *
      clear hT hi2 hrw e0 e1 e2 e3 e4 e5 hw
      simp only [World.size_alloc] at HI
      generalize hM : wr.heap.size = M at *
      clear hM
      go_wp2
      go_loopw [24] (fun i wi => ∃ j : Nat, j ≤ ts.length ∧ i = .int .i64 j ∧ Below w.heap.size w wi ∧ w2.heap.size ≤ wi.heap.size ∧ Hid (IntsAt wi (M + 1) w2.heap.size a1 ts) ∧ Hid (∃ U, Rows2 wi (w.heap.size + 1) n (predsMid xs k (ts.take j)) U ∧ ∀ i g, i < n → (U i).ownBlock = some g → g ≤ M ∨ w2.heap.size ≤ g)) (fun i _ => ts.length - (intOf i).toNat)
      case atStart => exact ⟨0, Nat.zero_le _, rfl, HW.out, Nat.le_refl _, HI.out, HR.out⟩
      case round =>
        obtain ⟨j, hj, rfl, hwi, hszi, hii, hri⟩ := hrel
        by_cases hjt : j < ts.length
        · obtain ⟨b', o', rfl, _, hcj⟩ := hii.out j hjt
          obtain ⟨ht0, ht1⟩ := HG1.out _ (List.getElem_mem hjt)
          have hnd : Hid (ts[j] ∉ ts.take j) := by
            intro hm
            obtain ⟨m, hm1, hm2⟩ := List.getElem_of_mem hm
            simp only [List.length_take] at hm1
            rw [List.getElem_take] at hm2
            have := (List.getElem_inj HG2.out).1 hm2
            omega
          have hts : Hid (ts.take (j + 1) = ts.take j ++ [ts[j]]) := take_next _ _ hjt
          obtain ⟨U, hU, hav⟩ := hri.out
          have HAV := hide hav
          clear hav
          obtain ⟨t, htt⟩ := Int.eq_ofNat_of_zero_le ht0
          generalize ts[j] = T at *
          subst htt
          have htn : t < n := by omega
          have hcU := hU.1.cell htn
          have hfU := hU.1.frozen t
          have hpl := predsMid_len xs k t (ts.take j) (by have := hx.out; omega)
          have HU := hide hU
          clear hU hri
          go_wp2_with (at_builtin; refine wpList_append_own_at _ rfl _ _ 40 rfl (w.heap.size + 1 + 1) 2 i0 (.int .i64 0) 1 8 Tryd.underlying40 hi0 hz0 hz1 hz2 rfl (by decide) _ _ _ rfl ((HU.out.alloc _).2.1 t htn) ⟨wr.heap.size, 0, none⟩ 1 1 [.int .i64 k] rfl rfl ?c1 ?c2 ?c3 ?c4 ?c5 ?_)
          case c1 =>
            intro j u hj
            match j, hj with
            | 0, hj => simp at hj; subst hj; simp [Addr.add]
          case c2 => intro u hu; simp at hu; subst hu; rfl
          case c3 => unfold maxLen; omega
          case c4 => omega
          case c5 => have := HU.out.1.lt; simp; omega
          intro v1 w1 hown1 hgrow1 _ hat1
          obtain ⟨av, cv, hv, _⟩ := ints_owned (xs := predsMid xs k (ts.take j) t ++ [(k : Int)]) (by rw [ints_snoc]; exact hown1)
          have hst := hide ((HU.out.alloc (.cells #[.int .i64 k] 2)).step htn k v1 hgrow1 hown1 (by rw [World.size_alloc]; exact hat1))
          have hbG : w1.heap[w.heap.size + 1]? = (wr.alloc (.cells #[.int .i64 k] 2)).heap[w.heap.size + 1]? := grown_block hgrow1 ((HU.out.alloc (.cells #[.int .i64 k] 2)).2.1 t htn) (by omega) (by have := HU.out.1.lt; simp; omega)
          have hbel := hide (grown_below (balloc hwi (.cells #[.int .i64 k] 2)) hgrow1 ((HU.out.alloc (.cells #[.int .i64 k] 2)).2.1 t htn) (by omega) (by have := hwi.size; simp; omega))
          have hcG : w1.cell? ⟨w.heap.size + 1, t, none⟩ = some (U t) := by rw [cell_of hbG]; exact ((HU.out.alloc (.cells #[.int .i64 k] 2)).1).cell htn
          have hfG : w1.frozen? ⟨w.heap.size + 1, t, none⟩ = false := by rw [World.frozen?_of_block (w := wr.alloc (.cells #[.int .i64 k] 2)) (a := ⟨w.heap.size + 1, t, none⟩) hbG]; exact ((HU.out.alloc (.cells #[.int .i64 k] 2)).1).frozen t
          have hgz := hgrow1.size
          simp at hgz
          have hsm : Same (M + 1) w2.heap.size wr w1 := fun q q1 q2 => (hgrow1.block q (by simp; omega) (fun e => by have := HAV.out t q htn e.symm; omega)).trans (Below.heap_alloc _ _ _ (by omega))
          have HSM := hide hsm
          have hii2 := hide (hii.out.keepS hsm)
          have HAT := hide hat1
          have HV := hide hv
          clear hsm
          clear hown1 hgrow1 hat1 hbG hcU hfU
          rw [hv]
          clear hv
          go_wp2
          have hv2 := HV.out
          rw [List.length_append, List.length_cons, List.length_nil, Nat.zero_add] at hv2
          rw [← hv2]
          refine ⟨⟨j + 1, by omega, by go_num, hbel.out.setCell (by dsimp only; omega) _, by rw [size_setCell]; omega, hii2.out.keepS ((Same.refl _ _ _).setCell (Or.inl (by dsimp only; omega)) _), ⟨_, (hst.out).congr (fun i _ => ?_), fun i g hi hg => ?_⟩⟩, by simp [intOf]; omega⟩
          · rw [hts.out, predsMid_step xs k i (ts.take j) t hnd.out]
          · by_cases e : i = t
            · subst e
              simp only [if_true] at hg
              rcases HAT.out with q | q
              · exact HAV.out i g hi (by rw [← q]; exact hg)
              · rw [q] at hg
                have := Option.some.inj hg
                omega
            · simp only [e, if_false] at hg
              exact HAV.out i g hi hg
        · have E := hide (List.take_of_length_le (l := ts) (i := j) (by omega))
          go_wp2
          refine ⟨⟨k + 1, by omega, by go_num, hwi, ?_⟩, by simp [intOf]; omega⟩
          obtain ⟨U, hU, _⟩ := hri.out
          exact ⟨U, hU.congr (fun i _ => by rw [E.out, hwh.out, predsMid_nil])⟩
    · go_wp2
      go_ret
      obtain ⟨U, hU⟩ := hrw.out
      have e := List.take_of_length_le (l := xs) (i := k) (by have := hx.out; omega)
      exact ⟨U, rfl, hw, hU.congr (P' := fun i : Nat => predsFrom xs 0 (i : Int)) (fun i _ => by rw [predsMid_nil, e])⟩
end Go.Proofs.YtlmaodcddbkllaaDoor

/-
  newSearch of the program.
-/
namespace Go.Proofs.YtlmaodcddbkllaaDoor
open Go.RowKit

set_option maxHeartbeats 1000000 in
set_option maxRecDepth 100000 in
theorem newSearch_any (vl : Int) (a : Option Addr) (n c : Nat) (w : World) (hn : n ≤ 1000) :
    Calls Tryd.prog 64 #[.agg #[.int .i64 vl, .slice a n c]] w fun e w' => ∃ bS gS, e = .returned (.pointer (some ⟨bS, 0, none⟩)) ∧ w.heap.size ≤ bS ∧ w.heap.size ≤ gS ∧ Below w.heap.size w w' ∧ SeaAt w' bS gS w'.heap.size ((n + 63) / 64) a n c (fun _ => 0) (.slice none 0 0) [] := by
  have HNS := hide (fun W => newSet_blockNo n W (by omega))
  go_enter Tryd.func64, Tryd.ntmps64
  go_wp2_with fail
  refine wp_region_held_drew (S := (fun w' => w'.cell? ⟨w.heap.size, 1, none⟩ = some (.slice a n c))) (by kernel_rfl) (by (try dsimp only); go_keep) (fun hHeld => ?_)
  refine wpAnyH_take (i := 0) (v := ?_) rfl (by kernel_rfl) (by kernel_rfl) (by kernel_rfl) (fun _ _ _ h => h) (Or.inl ⟨by rfl, ?_⟩) (by assumption) ?_
  rotate_left
  · intro w hSw; (try dsimp only at hSw); go_simp; try with_reducible rfl
  simp only [Act.put, List.getElem_toArray, List.getElem_cons_zero, List.setIfInBounds_toArray, List.set_cons_zero, List.set_cons_succ]
  refine wpAnyH_take (i := 1) (v := ?_) rfl (by kernel_rfl) (by kernel_rfl) (by kernel_rfl) (fun _ _ _ h => h) (Or.inl ⟨by rfl, ?_⟩) (by assumption) ?_
  rotate_left
  · intro w hSw; (try dsimp only at hSw); go_simp; try with_reducible rfl
  simp only [Act.put, List.getElem_toArray, List.getElem_cons_zero, List.getElem_cons_succ, List.setIfInBounds_toArray, List.set_cons_zero, List.set_cons_succ]
  refine wpAnyH_take (i := 2) (v := ?_) rfl (by kernel_rfl) (by kernel_rfl) (by kernel_rfl) (fun _ _ _ h => h) (Or.inl ⟨by rfl, ?_⟩) (by assumption) ?_
  rotate_left
  · intro w hSw; (try dsimp only at hSw); go_simp; try with_reducible rfl
  simp only [Act.put, List.getElem_toArray, List.getElem_cons_zero, List.getElem_cons_succ, List.setIfInBounds_toArray, List.set_cons_zero, List.set_cons_succ]
  refine wpAnyH_take (i := 3) (v := ?_) rfl (by kernel_rfl) (by kernel_rfl) (by kernel_rfl) (fun _ _ _ h => h) (Or.inl ⟨by rfl, ?_⟩) (by assumption) ?_
  rotate_left
  · intro w hSw; (try dsimp only at hSw); go_simp; try with_reducible rfl
  simp only [Act.put, List.getElem_toArray, List.getElem_cons_zero, List.getElem_cons_succ, List.setIfInBounds_toArray, List.set_cons_zero, List.set_cons_succ]
  refine wpAnyH_take (i := 4) (v := ?_) rfl (by kernel_rfl) (by kernel_rfl) (by kernel_rfl) (fun _ _ _ h => h) (Or.inl ⟨by rfl, ?_⟩) (by assumption) ?_
  rotate_left
  · intro w hSw; (try dsimp only at hSw); go_simp; try with_reducible rfl
  simp only [Act.put, List.getElem_toArray, List.getElem_cons_zero, List.getElem_cons_succ, List.setIfInBounds_toArray, List.set_cons_zero, List.set_cons_succ]
  refine wpAnyH_ready (rs := [5]) (by kernel_rfl) (by simp) ?_
  refine AllReadyH.cons rfl (fun K hK => ?_) AllReadyH.nil
  go_simp
  go_at_call 122
  refine (HNS.out _).mono ?_
  rintro e w3 ⟨gS, rfl, hgS, hb3, hr3⟩
  have hz3 : w.heap.size + 1 ≤ w3.heap.size := by have := hb3.size; simp at this; omega
  have hc3 : w3.cell? ⟨w.heap.size, 1, none⟩ = some (.slice a n c) := (hb3.cell (p := ⟨w.heap.size, 1, none⟩) (by show w.heap.size < _; simp)).trans (by simp [go_sem])
  have hgl := hr3.lt
  have HB3 : Hid (Below w.heap.size w w3) := hide (bnext (w1 := (w.alloc (.cells #[.int .i64 vl, .slice a n c] 25)).drew) (balloc (Below.refl _ _) _).drew hb3)
  have HR3 := hide hr3
  have hgb : w.heap.size ≤ gS := by simp at hgS; omega
  clear hb3 hr3 hgS
  refine hK.out _ _ hc3 (fun hHeld => ?_)
  clear hK
  try simp only [Act.put, List.getElem_toArray, List.getElem_cons_zero, List.getElem_cons_succ, List.setIfInBounds_toArray, List.set_cons_zero, List.set_cons_succ]
  refine wpAnyH_take (i := 6) (v := ?_) rfl (by kernel_rfl) (by kernel_rfl) (by kernel_rfl) (fun _ _ _ h => h) (Or.inl ⟨by rfl, ?_⟩) (by assumption) ?_
  rotate_left
  · intro w hSw; (try dsimp only at hSw); go_simp; try with_reducible rfl
  simp only [Act.put, List.getElem_toArray, List.getElem_cons_zero, List.getElem_cons_succ, List.setIfInBounds_toArray, List.set_cons_zero, List.set_cons_succ]
  refine wpAnyH_ready (rs := [7]) (by kernel_rfl) (by simp) ?_
  refine AllReadyH.cons rfl (fun K hK => ?_) AllReadyH.nil
  go_simp
  refine hK.out _ _ ((World.cell?_alloc_lt _ _ _ (by show w.heap.size < _; omega)).trans hc3) (fun hHeld => ?_)
  clear hK
  try simp only [Act.put, List.getElem_toArray, List.getElem_cons_zero, List.getElem_cons_succ, List.setIfInBounds_toArray, List.set_cons_zero, List.set_cons_succ]
  refine wpAnyH_take (i := 8) (v := ?_) rfl (by kernel_rfl) (by kernel_rfl) (by kernel_rfl) (fun _ _ _ h => h) (Or.inl ⟨by rfl, ?_⟩) (by assumption) ?_
  rotate_left
  · intro w hSw; (try dsimp only at hSw); go_simp; try with_reducible rfl
  simp only [Act.put, List.getElem_toArray, List.getElem_cons_zero, List.getElem_cons_succ, List.setIfInBounds_toArray, List.set_cons_zero, List.set_cons_succ]
  refine wpAnyH_done (by kernel_rfl) ?_ _
  go_wp2_with fail
  go_ret
  refine ⟨w3.heap.size, gS, rfl, by omega, hgb, balloc HB3.out _, ⟨by simp, by simp, by simp, fun q => by simp, HR3.out.alloc _, World.ownsRow_nil _ _ _ _, by simp, by simp; omega, by omega, Nat.le_refl _⟩⟩
end Go.Proofs.YtlmaodcddbkllaaDoor
