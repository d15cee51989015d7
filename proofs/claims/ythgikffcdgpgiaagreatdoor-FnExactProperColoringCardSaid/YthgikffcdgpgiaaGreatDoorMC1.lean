import Derived.Test.YthgikffcdgpgiaaGreatDoorVI0
import Derived.Test.YthgikffcdgpgiaaGreatDoorLQ0
import Derived.Test.YthgikffcdgpgiaaGreatDoorMT1
import Derived.Deep.QuietTactic
import Derived.BigQuiet
namespace Go.Proofs.YthgikffcdgpgiaaGreatDoor
open Go.RowKit
theorem valid_of_verd {v : Int} {xs : List Blk} (h : verdP v xs = 0) : validI ⟨v, xs⟩ = true := by
  cases hv : validI ⟨v, xs⟩ with
  | true => rfl
  | false => rw [verdP_bad hv] at h; exact absurd h (by decide)
/-- The first q colours are colours. -/
def okC (cs : List Int) (k : Int) (q : Nat) : Prop := ∀ i (h : i < cs.length), i < q → 0 ≤ cs[i] ∧ cs[i] < k
theorem okC_zero (cs : List Int) (k : Int) : okC cs k 0 := fun i _ h => absurd h (by omega)
theorem okC_succ {cs : List Int} {k : Int} {q : Nat} (h : okC cs k q) (hq : q < cs.length) (h2 : 0 ≤ cs[q] ∧ cs[q] < k) : okC cs k (q + 1) := fun i hi hq' => by
  by_cases e : i = q
  · subst e; exact h2
  · exact h i hi (by omega)
theorem okC_all {cs : List Int} {k : Int} (h : okC cs k cs.length) : ∀ c ∈ cs, 0 ≤ c ∧ c < k := fun c hc => by
  obtain ⟨i, hi, rfl⟩ := List.getElem_of_mem hc
  exact h i hi hi
theorem pc_color {v : Int} {xs : List Blk} {cs : List Int} {k : Int} {q : Nat} (hq : q < cs.length) (h : ¬ (0 ≤ cs[q] ∧ cs[q] < k)) : ¬ pcQ v xs cs k := fun h2 => h (h2.2.2.2.2.1 _ (List.getElem_mem hq))
theorem colI_get {cs : List Int} {u : Nat} (h : u < cs.length) : colI cs u = cs[u] := by
  unfold colI
  rw [List.getD_eq_getElem?_getD, List.getElem?_eq_getElem h]
  rfl
theorem colA_get {cs l : List Int} {a u : Nat} (ha : a < l.length) (e : l[a] = (u : Int)) : colA cs l a = colI cs u := by
  unfold colA
  rw [List.getD_eq_getElem?_getD, List.getElem?_eq_getElem ha, Option.getD_some, e]
  rfl
set_option maxHeartbeats 4000000 in
set_option maxRecDepth 100000 in
theorem pcS_any (v : Int) (a : Option Addr) (n c : Nat) (xs : List Blk) (L B : Nat) (ac : Option Addr) (nc cc : Nat) (cs : List Int) (Lc Bc : Nat) (k : Int) (w : World) (ha : Hid (BlksAt w L B a xs)) (hx : Hid (n = xs.length)) (hs : Hid (xs.length + blksTot xs ≤ 1048576)) (hB : B ≤ w.heap.size) (hc : Hid (IntsAt w Lc Bc ac cs)) (hcx : Hid (nc = cs.length)) (hBc : Bc ≤ w.heap.size) (hnc : nc ≤ 1048576) :
    Calls Tryz.prog 14 #[.agg #[.int .i64 v, .slice a n c], .slice ac nc cc, .int .i64 k] w fun e w' => e = .returned (.bool (pcB v xs cs k)) ∧ Below w.heap.size w w' := by
  have HVD := hide (fun W (hb : Below w.heap.size w W) => verdictS_any v a n c xs L B W (hide (ha.out.keep (hb.mono hB))) hx hs (by have := hb.size; omega))
  obtain ⟨vd, hvd⟩ : ∃ vd, vd = verdP v xs := ⟨_, rfl⟩
  rw [← hvd] at HVD
  have HVd := hide hvd
  clear hvd
  go_enter Tryz.func14, Tryz.ntmps14
  go_wp2_with fail
  refine (HVD.out _ (balloc (Below.refl _ _) _)).mono ?_
  rintro e w1 ⟨rfl, hb1⟩
  obtain ⟨hc1, hf1⟩ := bcell hb1
  have k0 : w1.cell? ⟨w.heap.size, 0, none⟩ = some (.int .i64 v) := by rw [hc1 _ _ (by simp)]; simp
  have k1 : w1.cell? ⟨w.heap.size, 1, none⟩ = some (.slice a n c) := by rw [hc1 _ _ (by simp)]; simp
  have HB1 := hide (bnext (balloc (Below.refl w.heap.size w) _) hb1)
  have hz1 : w.heap.size + 1 ≤ w1.heap.size := by have := hb1.size; simp at this; omega
  clear hc1 hf1 hb1 HVD
  by_cases hv : vd = 0
  case neg =>
    have HN := hide (pcB_no (v := v) (xs := xs) (cs := cs) (k := k) (fun h => hv (HVd.out.trans h.1)))
    have hv1 : (vd != 0) = true := by rw [bne_iff_ne]; exact hv
    go_wp2_with fail
    go_ret
    exact ⟨ret_bool HN.out.symm, HB1.out⟩
  subst hv
  by_cases hk0 : k < 0
  · have HN := hide (pcB_no (v := v) (xs := xs) (cs := cs) (k := k) (fun h => by have := h.2.1; omega))
    go_wp2_with fail
    go_ret
    exact ⟨ret_bool HN.out.symm, HB1.out⟩
  by_cases hk1 : 2000 < k
  · have HN := hide (pcB_no (v := v) (xs := xs) (cs := cs) (k := k) (fun h => by have := h.2.2.1; omega))
    go_wp2_with fail
    go_ret
    exact ⟨ret_bool HN.out.symm, HB1.out⟩
  by_cases hlv : (nc : Int) = v
  case neg =>
    have HN := hide (pcB_no (v := v) (xs := xs) (cs := cs) (k := k) (fun h => hlv (by rw [hcx.out]; exact h.2.2.2.1)))
    have hv1 : ((nc : Int) != v) = true := by rw [bne_iff_ne]; exact hlv
    go_wp2_with fail
    go_ret
    exact ⟨ret_bool HN.out.symm, HB1.out⟩
  subst hlv
  have hv1 : ((nc : Int) != (nc : Int)) = false := by simp
  have HOK : Hid (OkL nc xs) := hide (okL_of_valid (valid_of_verd HVd.out.symm))
  have hVl := HOK.out.vle
  have HC1 : Hid (∀ W, Below w1.heap.size w1 W → ∀ (q : Nat) (h : q < nc), ∃ b o, ac = some ⟨b, o, none⟩ ∧ W.cell? ⟨b, o + q, none⟩ = some (.int .i64 (colI cs q))) := hide (fun W hW q hq => by
    have hq' : q < cs.length := by rw [← hcx.out]; exact hq
    obtain ⟨b, o, e, hb, h⟩ := hc.out q hq'
    refine ⟨b, o, e, ?_⟩
    rw [colI_get hq']
    exact (hW.cell (p := ⟨b, o + q, none⟩) (by show b < _; omega)).trans ((HB1.out.cell (p := ⟨b, o + q, none⟩) (by show b < _; omega)).trans h))
  have HAS := hide (allSets_any nc a n c xs L B w1 (hide (ha.out.keep (HB1.out.mono hB))) hx (by have := HB1.out.size; omega) HOK)
  go_wp2_with fail
  go_loop [7] (fun i => ∃ q : Nat, q ≤ nc ∧ i = .int .i64 q ∧ Hid (okC cs k q)) (fun i => nc - (intOf i).toNat)
  case atStart => exact ⟨0, Nat.zero_le _, rfl, hide (okC_zero _ _)⟩
  case round =>
    obtain ⟨q, hq, rfl, HQ⟩ := hrel
    by_cases hlt : q < nc
    · obtain ⟨b, o, rfl, e0⟩ := HC1.out w1 (Below.refl _ _) q hlt
      have hq' : q < cs.length := by rw [← hcx.out]; exact hlt
      have HNO := hide (fun h => pcB_no (pc_color (v := (nc : Int)) (xs := xs) (k := k) hq' h))
      have HYS := hide (fun h => okC_succ HQ.out hq' h)
      have HCG := hide (colI_get hq')
      rw [← HCG.out] at HNO HYS
      clear HCG
      generalize colI cs q = C at *
      have hqi : (q : Int) < (nc : Int) := by omega
      by_cases hC0 : C < 0
      · go_wp2_with fail
        go_ret
        exact ⟨ret_bool (HNO.out (by omega)).symm, HB1.out⟩
      by_cases hC1 : k ≤ C
      · go_wp2_with fail
        go_ret
        exact ⟨ret_bool (HNO.out (by omega)).symm, HB1.out⟩
      · go_wp2_with fail
        exact ⟨⟨q + 1, by omega, by go_num, hide (HYS.out (by omega))⟩, by simp [intOf]; omega⟩
    · have hqn : q = nc := by omega
      subst hqn
      have HCA : Hid (∀ c ∈ cs, 0 ≤ c ∧ c < k) := hide (okC_all (by rw [← hcx.out]; exact HQ.out))
      go_wp2_with fail
      refine HAS.out.mono ?_
      rintro e w2 ⟨gA, cA, rfl, hb2, hI2⟩
      have HB2 := hide (bnext HB1.out hb2)
      have HC2 : Hid (∀ W, Below w2.heap.size w2 W → ∀ (u : Nat) (h : u < q), ∃ b o, ac = some ⟨b, o, none⟩ ∧ W.cell? ⟨b, o + u, none⟩ = some (.int .i64 (colI cs u))) := hide (fun W hW => HC1.out W (hb2.trans (hW.mono hb2.size)))
      obtain ⟨fl, hfl⟩ : ∃ fl, fl = flQ xs q n := ⟨_, rfl⟩
      have HFL := hide hfl
      rw [← hfl] at hI2
      rw [← hfl]
      obtain ⟨N, hN⟩ : ∃ N, N = fl.length := ⟨_, rfl⟩
      have HNe := hide hN
      rw [← hN]
      have hNb : N ≤ 4001000 := by
        have h1 := flQ_len HOK.out n
        have h2 := HOK.out.okf.n2
        have h3 := hx.out
        have h4 : n * 4001 ≤ 1000 * 4001 := Nat.mul_le_mul_right _ (by omega)
        rw [← hfl] at h1
        omega
      have HSC : Hid (∀ wx, Below w2.heap.size w2 wx → ∀ i, i < N → ∃ a' c', wx.cell? ⟨gA, i, none⟩ = some (.slice a' (fl.getD i []).length c') ∧ ∀ j, j < (fl.getD i []).length → ∃ b3 o3 u, a' = some ⟨b3, o3, none⟩ ∧ u < q ∧ wx.cell? ⟨b3, o3 + j, none⟩ = some (.int .i64 ((u : Nat) : Int)) ∧ colA cs (fl.getD i []) j = colI cs u) := hide (fun wx hwx i hi => by
        have hi' : i < fl.length := by rw [← hN]; exact hi
        obtain ⟨b', o', e', hb', a', c', hc', hi2⟩ := hI2 i hi'
        injection e' with e'
        injection e' with e1 e2
        subst e1 e2
        rw [Nat.zero_add] at hc'
        have hgd : fl.getD i [] = fl[i] := by rw [List.getD_eq_getElem?_getD, List.getElem?_eq_getElem hi']; rfl
        rw [hgd]
        have hsm := flQ_small' (xs := xs) (V := q) (l := fl[i]) (by rw [← hx.out, ← hfl]; exact List.getElem_mem hi')
        refine ⟨a', c', (hwx.cell (p := ⟨gA, i, none⟩) hb'.2).trans hc', fun j hj => ?_⟩
        obtain ⟨b3, o3, e3, hb3, hc3⟩ := hi2 j hj
        obtain ⟨u, hu, eu⟩ := hsm.2 _ (List.getElem_mem hj)
        rw [eu] at hc3
        exact ⟨b3, o3, u, e3, hu, (hwx.cell (p := ⟨b3, o3 + j, none⟩) hb3.2).trans hc3, colA_get hj eu⟩)
      have HSL : Hid (∀ i, i < N → (fl.getD i []).length ≤ q) := hide (fun i hi => by
        have hi' : i < fl.length := by rw [← hN]; exact hi
        have hgd : fl.getD i [] = fl[i] := by rw [List.getD_eq_getElem?_getD, List.getElem?_eq_getElem hi']; rfl
        rw [hgd]
        exact (flQ_small' (xs := xs) (V := q) (l := fl[i]) (by rw [← hx.out, ← hfl]; exact List.getElem_mem hi')).1)
      have HCL : Hid (∀ i j b, i < N → j < (fl.getD i []).length → b < j → colA cs (fl.getD i []) j = colA cs (fl.getD i []) b → pcB (q : Int) xs cs k = false) := hide (fun i j b h1 h2 h3 h4 => pcB_no (pc_clash (i := i) (a := j) (b := b) (l := fl.getD i []) (by rw [hfl, hx.out]; rfl) (by rw [show ((q : Int)).toNat = q from rfl, ← hx.out, ← hfl, ← hN]; exact h1) h2 h3 h4))
      have HEND : Hid (okU cs fl N → pcB (q : Int) xs cs k = true) := hide (fun h => pcB_yes ⟨HVd.out.symm, by omega, by omega, by rw [hcx.out], HCA.out, (okU_iff HCA.out).1 (by rw [show ((q : Int)).toNat = q from rfl, ← hx.out, ← hfl, ← hN]; exact h)⟩)
      clear hb2 hI2 HAS hfl hN HQ HFL
      go_wp2_with fail
      go_loopw [9] (fun i wr => ∃ i' : Nat, i' ≤ N ∧ i = .int .i64 i' ∧ Hid (Below w2.heap.size w2 wr) ∧ Hid (okU cs fl i')) (fun i _ => N - (intOf i).toNat)
      case atStart => exact ⟨0, Nat.zero_le _, rfl, hide (Below.refl _ _), hide (okU_zero _ _)⟩
      case round =>
        obtain ⟨i, hi, rfl, HBi, HU⟩ := hrel
        by_cases hlt2 : i < N
        · have HSi := hide (fun wx hwx => HSC.out wx hwx i hlt2)
          have HCi := hide (fun j b => HCL.out i j b hlt2)
          have hsl := HSL.out i hlt2
          have HUi := hide (fun h => okU_succ (i := i) HU.out h)
          obtain ⟨lst, hlst⟩ : ∃ l, l = fl.getD i [] := ⟨_, rfl⟩
          rw [← hlst] at HCi HUi hsl
          simp only [← hlst] at HSi
          obtain ⟨ln, hln⟩ : ∃ l, l = lst.length := ⟨_, rfl⟩
          rw [← hln] at HCi HUi hsl
          simp only [← hln] at HSi
          clear hlst hln
          have hii : (i : Int) < (N : Int) := by omega
          go_wp2_with fail
          go_loopw [10] (fun j wr => ∃ j' : Nat, j' ≤ ln ∧ j = .int .i64 j' ∧ Hid (Below w2.heap.size w2 wr) ∧ Hid (okA cs lst j')) (fun j _ => ln - (intOf j).toNat)
          case atStart => exact ⟨0, Nat.zero_le _, rfl, HBi, hide (okA_zero _ _)⟩
          case round =>
            clear HBi
            obtain ⟨j, hj, rfl, HBj, HA⟩ := hrel
            obtain ⟨a', c', x1, x2⟩ := HSi.out wr HBj.out
            by_cases hlt3 : j < ln
            · have hji : (j : Int) < (ln : Int) := by omega
              clear x2
              go_wp2_with fail
              clear x1
              go_loopw [11] (fun b wr => ∃ b' : Nat, b' ≤ j ∧ b = .int .i64 b' ∧ Hid (Below w2.heap.size w2 wr) ∧ Hid (okB cs lst j b')) (fun b _ => j - (intOf b).toNat)
              case atStart => exact ⟨0, Nat.zero_le _, rfl, HBj, hide (okB_zero _ _ _)⟩
              case round =>
                clear HBj
                obtain ⟨b, hb, rfl, HBb, HBk⟩ := hrel
                by_cases hlt4 : b < j
                · obtain ⟨a', c', x1, x2⟩ := HSi.out wr HBb.out
                  obtain ⟨b3, o3, u1, rfl, hu1, y1, q1⟩ := x2 j hlt3
                  obtain ⟨b4, o4, u2, e4, hu2, y2, q2⟩ := x2 b (by omega)
                  injection e4 with e4
                  injection e4 with e5 e6
                  subst e5 e6
                  obtain ⟨bc, oc, rfl, z1⟩ := HC2.out wr HBb.out u1 hu1
                  obtain ⟨bc2, oc2, e7, z2⟩ := HC2.out wr HBb.out u2 hu2
                  injection e7 with e7
                  injection e7 with e8 e9
                  subst e8 e9
                  have HCj := hide (HCi.out j b hlt3 hlt4)
                  have HOj := hide (fun h => okB_succ (b := b) HBk.out h)
                  rw [q1, q2] at HCj HOj
                  clear q1 q2 x2
                  generalize colI cs u1 = c1 at *
                  generalize colI cs u2 = c2 at *
                  have i1 : (b : Int) < (ln : Int) := by omega
                  have i2 : (u1 : Int) < (q : Int) := by omega
                  have i3 : (u2 : Int) < (q : Int) := by omega
                  have i4 : (b : Int) < (j : Int) := by omega
                  by_cases he : c1 = c2
                  · subst he
                    go_wp2_with fail
                    go_quiet (fail)
                    go_wp2_with fail
                    go_ret
                    exact ⟨ret_bool (HCj.out (by trivial)).symm, bnext HB2.out (below_drewN HBb.out _)⟩
                  · have he1 : (c1 == c2) = false := by rw [beq_eq_false_iff_ne]; exact he
                    go_wp2_with fail
                    go_quiet (fail)
                    go_wp2_with fail
                    exact ⟨⟨b + 1, by omega, by go_num, hide (below_drewN HBb.out _), hide (HOj.out he)⟩, by simp [intOf]; omega⟩
                · have hbj : b = j := by omega
                  subst hbj
                  go_wp2_with fail
                  exact ⟨⟨b + 1, by omega, by go_num, HBb, hide (okA_succ HA.out HBk.out)⟩, by simp [intOf]; omega⟩
            · have hjn : j = ln := by omega
              subst hjn
              clear x2
              go_wp2_with fail
              exact ⟨⟨i + 1, by omega, by go_num, HBj, hide (HUi.out HA.out)⟩, by simp [intOf]; omega⟩
        · have hin : i = N := by omega
          subst hin
          go_wp2_with fail
          go_ret
          exact ⟨ret_bool (HEND.out HU.out).symm, bnext HB2.out HBi.out⟩
end Go.Proofs.YthgikffcdgpgiaaGreatDoor
