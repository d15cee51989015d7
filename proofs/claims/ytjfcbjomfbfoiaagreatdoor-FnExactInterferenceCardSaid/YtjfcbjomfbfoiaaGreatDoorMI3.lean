import Derived.Test.YtjfcbjomfbfoiaaGreatDoorMI2
import Derived.Deep.CutRange
namespace Go.Proofs.YtjfcbjomfbfoiaaGreatDoor
open Go.RowKit
open Classical in
/-- The first k of the values that stand side by side with v. -/
noncomputable def infK (xs : List Blk) (V v k : Nat) : List Int := natI ((List.range k).filter fun u => decide (infQ xs V v u))
open Classical in
theorem infK_yes {xs : List Blk} {V v k : Nat} (h : infQ xs V v k) : infK xs V v (k + 1) = infK xs V v k ++ [(k : Int)] := by
  unfold infK natI
  rw [List.range_succ, List.filter_append, List.map_append]
  simp [h]
open Classical in
theorem infK_no {xs : List Blk} {V v k : Nat} (h : ¬ infQ xs V v k) : infK xs V v (k + 1) = infK xs V v k := by
  unfold infK natI
  rw [List.range_succ, List.filter_append, List.map_append]
  simp [h]
theorem infK_len (xs : List Blk) (V v k : Nat) : (infK xs V v k).length ≤ k := by
  unfold infK natI
  rw [List.length_map]
  exact Nat.le_trans (List.length_filter_le _ _) (by simp)
set_option maxHeartbeats 4000000 in
set_option maxRecDepth 100000 in
theorem infS_any (V : Nat) (a : Option Addr) (n c : Nat) (xs : List Blk) (L B : Nat) (w : World) (ha : Hid (BlksAt w L B a xs)) (hx : Hid (n = xs.length)) (hs : Hid (xs.length + blksTot xs ≤ 1048576)) (hB : B ≤ w.heap.size) (hv : Hid (validI ⟨(V : Int), xs⟩ = true)) (ho : Hid (OkL V xs)) :
    Calls Tryz.prog 23 #[.agg #[.int .i64 (V : Int), .slice a n c]] w fun e w' => ∃ X : Value, e = .returned X ∧ Below w.heap.size w w' ∧ ∃ w2 : World, w.heap.size ≤ w2.heap.size ∧ OuS w2 w' (w.heap.size + 1) X V (fun v => natI (infP xs V v)) := by
  have hn : n ≤ 1000 := by have := hx.out; have := ho.out.okf.n2; omega
  have hVl := ho.out.vle
  have HVF := hide (fun W (hb : Below w.heap.size w W) => validFuncS_any (V : Int) a n c xs L B W (hide (ha.out.keep (hb.mono hB))) hx hs (by have := hb.size; omega))
  have HVS := hide (valid_same ⟨(V : Int), xs⟩)
  rw [← HVS.out, hv.out] at HVF
  clear HVS
  obtain ⟨i0, hi0, hz0, hz1, hz2⟩ := info_three Tryz.infoSetI'
  obtain ⟨m0, hm0, hm1, hm2, hm3⟩ := info_three Tryz.info2'
  have hmk := run_make_row' (P := Tryz.prog) 49 4 (.bool false) 1 Tryz.underlying49 Tryz.infoBo rfl .i64 .i64 V (by omega) (by omega)
  have hW0 : Below w.heap.size w ((w.alloc (.cells #[.int .i64 (V : Int), .slice a n c] 32)).alloc (.cells #[] 56)) := balloc (balloc (Below.refl _ _) _) _
  have hf0 : ((w.alloc (.cells #[.int .i64 (V : Int), .slice a n c] 32)).alloc (.cells #[] 56)).cell? ⟨w.heap.size, 0, none⟩ = some (.int .i64 (V : Int)) := by simp [go_sem]
  have hf1 : ((w.alloc (.cells #[.int .i64 (V : Int), .slice a n c] 32)).alloc (.cells #[] 56)).cell? ⟨w.heap.size, 1, none⟩ = some (.slice a n c) := by simp [go_sem]
  have hl0 : ((w.alloc (.cells #[.int .i64 (V : Int), .slice a n c] 32)).alloc (.cells #[] 56)).ownsRow (w.heap.size + 1) 56 1 (.slice (some ⟨w.heap.size + 1, 0, none⟩) 0 0) 0 [] := by
    have h := World.ownsRow_lit (base := w.heap.size + 1) (e := 56) (size := 1) (w.alloc (.cells #[.int .i64 (V : Int), .slice a n c] 32)) #[] 0 (by simp) (by simp) rfl
    rw [World.size_alloc] at h
    exact h
  go_enter Tryz.func23, Tryz.ntmps23
  go_wp2_with fail
  generalize (w.alloc (.cells #[.int .i64 (V : Int), .slice a n c] 32)).alloc (.cells #[] 56) = w0 at *
  have hz0w : w.heap.size + 1 < w0.heap.size := (hl0.lt _ rfl).2
  refine (HVF.out _ hW0).mono ?_
  rintro e w1 ⟨rfl, hb1⟩
  have HB1 := hide (bnext hW0 hb1)
  have g0 := (hb1.cell (p := ⟨w.heap.size, 0, none⟩) (by show w.heap.size < _; omega)).trans hf0
  have g1 := (hb1.cell (p := ⟨w.heap.size, 1, none⟩) (by show w.heap.size < _; omega)).trans hf1
  have HL1 := hide (own_below hl0 hb1)
  have hz1w := hb1.size
  clear hb1 HVF hW0 hf0 hf1 hl0
  have HPT := hide (allSets_any V a n c xs L B w1 (hide (ha.out.keep (HB1.out.mono hB))) hx (by have := HB1.out.size; omega) ho)
  go_wp2_with fail
  refine HPT.out.mono ?_
  rintro e w2 ⟨gA, cA, rfl, hb2, hI2⟩
  have HI2 := hide hI2
  have HB2 := hide (bnext HB1.out hb2)
  have hz2w := hb2.size
  have k0 := (hb2.cell (p := ⟨w.heap.size, 0, none⟩) (by show w.heap.size < _; omega)).trans g0
  have HOu : Hid (OuS w2 w2 (w.heap.size + 1) (.slice (some ⟨w.heap.size + 1, 0, none⟩) 0 0) 0 (fun v => natI (infP xs V v))) := hide ⟨rfl, rfl, rfl, Nat.le_refl _, fun _ _ _ => rfl, fun q e => Or.inl (by injection e with e; exact e.symm), fun _ => .slice none 0 0, own_below HL1.out hb2, fun i hi => absurd hi (by omega)⟩
  have HFS : Hid (∀ l ∈ flQ xs V n, l.length ≤ V ∧ ∀ x ∈ l, ∃ k : Nat, k < V ∧ x = (k : Int)) := hide (fun l hl => flQ_small (by rw [← hx.out]; exact hl))
  have HMB : Hid (∀ v u, mB (flQ xs V n) v (flQ xs V n).length u ↔ meetP (allP xs V xs.length) v u) := hide (fun v u => by rw [hx.out]; exact mB_all)
  have HNL : Hid ((flQ xs V n).length ≤ 4001000) := hide (by have := flQ_len ho.out n; have : n * 4001 ≤ 1000 * 4001 := Nat.mul_le_mul_right _ (by omega); omega)
  obtain ⟨fl, hfl⟩ : ∃ fl, fl = flQ xs V n := ⟨_, rfl⟩
  rw [← hfl] at HI2 HFS HMB HNL
  rw [← hfl]
  obtain ⟨N, hN⟩ : ∃ N, N = fl.length := ⟨_, rfl⟩
  rw [← hN] at HMB HNL
  rw [← hN]
  have HNe := hide hN
  clear hb2 hI2 HPT g0 g1 HL1 hfl hN
  have hNb : N ≤ 4001000 := HNL.out
  go_wp2_with fail
  go_loopw [3, 5] (fun X i wr => ∃ v : Nat, v ≤ V ∧ i = .int .i64 v ∧ Hid (OuS w2 wr (w.heap.size + 1) X v (fun v => natI (infP xs V v)))) (fun _ i _ => V - (intOf i).toNat)
  case atStart => exact ⟨0, Nat.zero_le _, rfl, HOu⟩
  case round =>
    clear HOu
    obtain ⟨v, hvV, rfl, HO⟩ := hrel
    have hk0 := (cell_of (HO.out.fr w.heap.size (by omega) (by omega))).trans k0
    by_cases hlv : v < V
    · have hzo := HO.out.size
      go_wp2_with fail
      have HM0 : Hid (MtX wr (wr.alloc (.cells (madeCells #[.bool false] V) 4)) wr.heap.size V (mB fl v 0)) := hide ⟨balloc (Below.refl _ _) _, Nat.le_refl _, fun _ => false, World.rowIs_made wr (.bool false) V 4, fun u _ => ⟨fun h => (by cases h), fun h => (by obtain ⟨i, h1, _⟩ := h; omega)⟩⟩
      generalize wr.alloc (.cells (madeCells #[.bool false] V) 4) = w4 at *
      generalize wr = wv at *
      have HSC : Hid (∀ wx, Below wv.heap.size wv wx → ∀ i, i < N → ∃ a' c', wx.cell? ⟨gA, i, none⟩ = some (.slice a' (fl.getD i []).length c') ∧ IntsAt wx 0 wx.heap.size a' (fl.getD i [])) := hide (fun wx hwx i hi => by
        have hi' : i < fl.length := by rw [← HNe.out]; exact hi
        obtain ⟨b', o', e', hb', a', c', hc', hi2⟩ := HI2.out i hi'
        injection e' with e'
        injection e' with e1 e2
        subst e1 e2
        rw [Nat.zero_add] at hc'
        have hgd : fl.getD i [] = fl[i] := by rw [List.getD_eq_getElem?_getD, List.getElem?_eq_getElem hi']; rfl
        rw [hgd]
        have kp : ∀ q, w1.heap.size ≤ q → q < w2.heap.size → wx.heap[q]? = w2.heap[q]? := fun q q1 q2 => (hwx.block q (by omega)).trans (HO.out.fr q q2 (by omega))
        have hzx := hwx.size
        refine ⟨a', c', (cell_of (kp gA hb'.1 hb'.2)).trans hc', fun j hj => ?_⟩
        obtain ⟨b3, o3, e3, hb3, hc3⟩ := hi2 j hj
        exact ⟨b3, o3, e3, ⟨Nat.zero_le _, by omega⟩, (cell_of (kp b3 hb3.1 hb3.2)).trans hc3⟩)
      have HKV : Hid (∀ wx, Below wv.heap.size wv wx → wx.cell? ⟨w.heap.size, 0, none⟩ = some (.int .i64 (V : Int))) := hide (fun wx hwx => (hwx.cell (p := ⟨w.heap.size, 0, none⟩) (by show w.heap.size < _; omega)).trans hk0)
      have HGD : Hid (∀ i, i < N → ((fl.getD i []).length ≤ V ∧ ∀ x ∈ fl.getD i [], ∃ k : Nat, k < V ∧ x = (k : Int)) ∧ ∀ u, mB fl v (i + 1) u ↔ mB fl v i u ∨ ((v : Int) ∈ fl.getD i [] ∧ (u : Int) ∈ fl.getD i [])) := hide (fun i hi => by
        have hi' : i < fl.length := by rw [← HNe.out]; exact hi
        have hgd : fl.getD i [] = fl[i] := by rw [List.getD_eq_getElem?_getD, List.getElem?_eq_getElem hi']; rfl
        rw [hgd]
        exact ⟨HFS.out _ (List.getElem_mem hi'), fun u => mB_succ hi'⟩)
      go_wp2_with fail
      go_loopw [7] (fun i wx => ∃ i' : Nat, i' ≤ N ∧ i = .int .i64 i' ∧ Hid (MtX wv wx wv.heap.size V (mB fl v i'))) (fun i _ => N - (intOf i).toNat)
      case atStart => exact ⟨0, Nat.zero_le _, rfl, HM0⟩
      case round =>
        clear HM0
        obtain ⟨i, hi, rfl, HM⟩ := hrel
        by_cases hlt : i < N
        · obtain ⟨hsm, hmb⟩ := HGD.out i hlt
          have HSM := hide hsm
          have HMB1 := hide hmb
          clear hsm hmb
          have hsl : (fl.getD i []).length ≤ V := HSM.out.1
          have HSI := hide (fun wx (hwx : Below wv.heap.size wv wx) => HSC.out wx hwx i hlt)
          obtain ⟨lst, hlst⟩ : ∃ l, l = fl.getD i [] := ⟨_, rfl⟩
          rw [← hlst] at HSM HMB1 hsl
          simp only [← hlst] at HSI
          clear hlst
          have HM1 : Hid (MtX wv wr wv.heap.size V (fun u => mB fl v i u ∨ ((v : Int) ∈ lst ∧ preJ lst 0 u))) := hide (HM.out.congr (fun u _ => ⟨Or.inl, fun h => h.elim id (fun h => by obtain ⟨_, j', h1, _⟩ := h; omega)⟩))
          clear HM
          go_wp2_with fail
          generalize wr = wb at *
          go_loopw [8] (fun j wx => ∃ j' : Nat, j' ≤ lst.length ∧ j = .int .i64 j' ∧ Hid (MtX wv wx wv.heap.size V (fun u => mB fl v i u ∨ ((v : Int) ∈ lst ∧ preJ lst j' u)))) (fun j _ => lst.length - (intOf j).toNat)
          case atStart => exact ⟨0, Nat.zero_le _, rfl, HM1⟩
          case round =>
            clear HM1
            obtain ⟨j, hj, rfl, HMj⟩ := hrel
            obtain ⟨a', c', x1, x2⟩ := HSI.out wr HMj.out.low
            have HX2 := hide x2
            have HH := hide (l1Has_any a' lst.length c' (v : Int) lst 0 wr.heap.size wr (hide x2) (hide rfl) (by omega))
            obtain ⟨f, hf, hfR⟩ := HMj.out.row
            have HF := hide hf
            have HHI : Hid (hasI lst (v : Int) = true ↔ (v : Int) ∈ lst) := hide hasI_iff
            obtain ⟨ln, hln⟩ : ∃ ln, ln = lst.length := ⟨_, rfl⟩
            rw [← hln] at x1 HH hj hsl
            have HLN := hide hln
            clear x2 hf hfR hln
            go_wp2_with fail
            refine HH.out.mono ?_
            rintro e w8 ⟨rfl, hw8⟩
            have e8 := hw8.symm
            subst e8
            generalize hasI lst (v : Int) = hb at *
            cases hb with
            | false =>
              have HN1 : Hid (MtX wv wr wv.heap.size V (mB fl v (i + 1))) := hide (HMj.out.congr (fun u _ => by
                rw [HMB1.out u]
                have hno : ¬ (v : Int) ∈ lst := fun h => by have := HHI.out.2 h; cases this
                simp [hno]))
              clear HH
              go_wp2_with fail
              exact ⟨⟨i + 1, by omega, by go_num, HN1⟩, by simp [intOf]; omega⟩
            | true =>
              have hin : (v : Int) ∈ lst := HHI.out.1 rfl
              have HIN := hide hin
              clear hin HH
              by_cases hjl : j < ln
              · have hjl' : j < lst.length := by have := HLN.out; omega
                obtain ⟨bj, oj, ej, hbj, cj⟩ := HX2.out j hjl'
                obtain ⟨x, hxV, hxe⟩ := HSM.out.2 lst[j] (List.getElem_mem hjl')
                have HXJ : Hid (lst[j]? = some (x : Int)) := hide (by rw [List.getElem?_eq_getElem hjl', hxe])
                rw [hxe] at cj
                subst ej
                have cm := HF.out.cell hxV
                have fm := HF.out.frozen x
                have hji : (j : Int) < (ln : Int) := by omega
                have hxi : (x : Int) < (V : Int) := by omega
                have HN2 : Hid (MtX wv (wr.setCell ⟨wv.heap.size, x, none⟩ (.bool true)) wv.heap.size V (fun u => mB fl v i u ∨ ((v : Int) ∈ lst ∧ preJ lst (j + 1) u))) := hide ((HMj.out.set x).congr (fun u _ => by
                  rw [preJ_succ HXJ.out]
                  have := HIN.out
                  constructor
                  · rintro ((h | h) | h)
                    · exact Or.inl h
                    · exact Or.inr ⟨this, Or.inl h.2⟩
                    · exact Or.inr ⟨this, Or.inr h⟩
                  · rintro (h | ⟨_, h | h⟩)
                    · exact Or.inl (Or.inl h)
                    · exact Or.inl (Or.inr ⟨this, h⟩)
                    · exact Or.inr h))
                clear HMj HF HX2
                go_wp2_with fail
                exact ⟨⟨j + 1, by have := HLN.out; omega, by go_num, HN2⟩, by have := HLN.out; simp [intOf]; omega⟩
              · have hje : j = ln := by omega
                subst hje
                have HN1 : Hid (MtX wv wr wv.heap.size V (mB fl v (i + 1))) := hide (HMj.out.congr (fun u _ => by rw [HMB1.out u, HLN.out, preJ_all]))
                clear HF HX2
                go_wp2_with fail
                exact ⟨⟨i + 1, by omega, by go_num, HN1⟩, by simp [intOf]; omega⟩
        · have hin : N = i := by omega
          subst hin
          have HM2 : Hid (MtX wv wr wv.heap.size V (meetP (allP xs V xs.length) v)) := hide (HM.out.congr (fun u _ => HMB.out v u))
          clear HM
          have kv := HKV.out wr HM2.out.low
          go_wp2_with fail
          have HS0 : Hid (SlX wv (wr.alloc (.cells #[.slice none 0 0] 56)) wv.heap.size V (meetP (allP xs V xs.length) v) wr.heap.size (.slice none 0 0) (infK xs V v 0)) := hide (by
            obtain ⟨f, h1, h2⟩ := HM2.out.row
            have hz := HM2.out.low.size
            have hl := h1.lt
            refine ⟨⟨balloc HM2.out.low _, HM2.out.ge, f, h1.alloc _, h2⟩, ⟨by omega, by omega⟩, World.rowIs_alloc wr #[.slice none 0 0] 56 (fun _ => .slice none 0 0) (fun i hi => by match i, hi with | 0, _ => rfl), World.ownsRow_nil _ _ _ _⟩)
          generalize hw9 : wr.alloc (.cells #[.slice none 0 0] 56) = w9 at *
          clear hw9 kv HM2
          have hzx : wv.heap.size ≤ wr.heap.size := HS0.out.gs.1
          obtain ⟨bs, hbs⟩ : ∃ bs, bs = wr.heap.size := ⟨_, rfl⟩
          rw [← hbs] at HS0
          rw [← hbs]
          clear hbs hzx
          generalize wr = wq at *
          go_loopw [10] (fun i wx => ∃ (k : Nat) (u : Value), k ≤ V ∧ i = .int .i64 k ∧ Hid (SlX wv wx wv.heap.size V (meetP (allP xs V xs.length) v) bs u (infK xs V v k))) (fun i _ => V - (intOf i).toNat)
          case atStart => exact ⟨0, _, Nat.zero_le _, rfl, HS0⟩
          case round =>
            clear HS0
            obtain ⟨k, u, hkV, rfl, HS⟩ := hrel
            have kv := HKV.out wr HS.out.mt.low
            by_cases hkl : k < V
            · by_cases hkv : k = v
              · subst hkv
                have hq : ((k : Int) != (k : Int)) = false := by simp
                have HNo : Hid (infK xs V k (k + 1) = infK xs V k k) := hide (infK_no (fun h => h.2 rfl))
                go_wp2_with fail
                exact ⟨⟨k + 1, u, by omega, by go_num, hide (by rw [HNo.out]; exact HS.out)⟩, by simp [intOf]; omega⟩
              · have hq : ((k : Int) != (v : Int)) = true := by simp; omega
                obtain ⟨f, hf, hfR⟩ := HS.out.mt.row
                have cm := hf.cell hkl
                have HFR := hide (hfR k hkl)
                have hki : (k : Int) < (V : Int) := by omega
                clear hf hfR
                generalize f k = fk at *
                cases fk with
                | false =>
                  have HNo : Hid (infK xs V v (k + 1) = infK xs V v k) := hide (infK_no (fun h => by have := HFR.out.2 h.1; cases this))
                  go_wp2_with fail
                  exact ⟨⟨k + 1, u, by omega, by go_num, hide (by rw [HNo.out]; exact HS.out)⟩, by simp [intOf]; omega⟩
                | true =>
                  have HYes : Hid (infK xs V v (k + 1) = infK xs V v k ++ [(k : Int)]) := hide (infK_yes ⟨HFR.out.1 rfl, hkv⟩)
                  obtain ⟨au, cu, eu, _⟩ := ints_owned HS.out.own
                  have hil := infK_len xs V v k
                  have HOW := hide HS.out.own
                  have cb := HS.out.box.cell (i := 0) (by decide)
                  obtain ⟨lu, hlu⟩ : ∃ lu, lu = (infK xs V v k).length := ⟨_, rfl⟩
                  rw [← hlu] at eu hil HOW
                  have HLU := hide hlu
                  subst eu
                  have hbl : bs < wr.heap.size := World.block_lt_of_cell? wr _ cb
                  have hzv := HS.out.mt.low.size
                  have cba : ∀ ob, (wr.alloc ob).cell? ⟨bs, 0, none⟩ = some (.slice au lu cu) := fun ob => (World.cell?_alloc_lt wr ob ⟨bs, 0, none⟩ hbl).trans cb
                  clear hlu
                  go_wp2_with (at_builtin; go_loud (refine wpList_append_own_at _ rfl _ _ 52 rfl wv.heap.size 2 m0 (.int .i64 0) 1 8 Tryz.underlying52 hm0 hm1 hm2 hm3 rfl (by decide) _ _ _ rfl (HOW.out.alloc _) ⟨wr.heap.size, 0, none⟩ 1 1 [.int .i64 (k : Int)] rfl rfl ?p1 ?p2 ?p3 ?p4 ?p5 ?_))
                  case p2 => rfl
                  case p3 => unfold maxLen; omega
                  case p4 => omega
                  case p5 => omega
                  intro v8 w8 hown8 hg8 _ hat8
                  obtain ⟨g8, c8, rfl, _, _⟩ := own_some' hown8 (by omega)
                  have HS8 := hide (HS.out.push (x := (k : Int)) hg8 (by rw [← HLU.out]; exact hown8))
                  have hnb : bs ≠ wv.heap.size := HS.out.gs.2
                  have hblk : w8.heap[bs]? = (wr.alloc (.cells #[.int .i64 (k : Int)] 2)).heap[bs]? := hg8.block bs (by rw [World.size_alloc]; omega) (fun e => by
                    obtain ⟨cc, h3, _⟩ := HS.out.box
                    rcases HOW.out.2 with ⟨e1, _⟩ | ⟨g, cap, cur, e1, _, h4, _⟩
                    · rw [e1] at e; cases e
                    · rw [e1] at e
                      injection e with e
                      have e : bs = g := e
                      subst e
                      rw [show wr.heap[bs]? = _ from h3] at h4
                      injection h4 with h4
                      injection h4 with _ h5
                      exact absurd h5 (by decide))
                  have ce8 := (cell_of (o := 0) hblk).trans (cba _)
                  have fe8 : w8.frozen? ⟨bs, 0, none⟩ = false := by
                    rw [World.frozen?_of_block (a := ⟨bs, 0, none⟩) hblk, World.frozen?_of_block (a := ⟨bs, 0, none⟩) (Below.heap_alloc wr _ _ hbl)]
                    exact HS.out.box.frozen 0
                  clear hown8 hg8 hat8 hblk cb cba
                  go_wp2_with fail
                  exact ⟨⟨k + 1, _, by omega, by go_num, hide (by rw [HYes.out]; exact HS8.out)⟩, by simp [intOf]; omega⟩
            · have hke : k = V := by omega
              subst hke
              obtain ⟨au, cu, eu, _⟩ := ints_owned HS.out.own
              have cb := HS.out.box.cell (i := 0) (by decide)
              have HOb := hide (HO.out.below HS.out.mt.low)
              obtain ⟨U, hU⟩ := HOb.out.own
              have HU := hide hU
              have HUW := hide hU.1
              have HEU := hide eu
              have hzb := HOb.out.size
              have hzv := HS.out.mt.low.size
              have HLP : Hid (infK xs k v k = natI (infP xs k v)) := hide rfl
              have HUU : Hid (wr.ownsRow w2.heap.size 2 1 u (natI (infP xs k v)).length ((natI (infP xs k v)).map (Value.int .i64))) := hide (by
                have h := HS.out.own
                rw [HLP.out] at h
                refine ⟨h.1, h.2.imp id ?_⟩
                rintro ⟨g', cap, cur, e1, e2, e3⟩
                exact ⟨g', cap, cur, e1, by omega, e3⟩)
              rw [eu] at cb
              generalize (infK xs k v k).length = lu at *
              clear eu hU
              go_wp2_with (at_builtin; go_loud (refine wpList_append_own_at _ rfl _ _ 26 rfl (w.heap.size + 1) 56 i0 (.agg #[.slice none 0 0]) 1 24 Tryz.underlying26 hi0 hz0 hz1 hz2 rfl (by decide) _ _ _ rfl (HUW.out.alloc _) ⟨wr.heap.size, 0, none⟩ 1 1 [.slice au lu cu] rfl rfl ?q1 ?q2 ?q3 ?q4 ?q5 ?_))
              case q1 => exact one_news _ _ _
              case q2 => intro u hu; simp at hu; subst hu; rfl
              case q3 => unfold maxLen; omega
              case q4 => omega
              case q5 => simp; omega
              intro v8 w8 hown8 hg8 _ hat8
              have HO8 := hide (HOb.out.push HU.out HUU.out hg8 (by rw [HEU.out]; exact hown8) (by simpa using hat8))
              clear hown8 hg8 hat8
              go_wp2_with fail
              exact ⟨⟨v + 1, by omega, by go_num, HO8⟩, by simp [intOf]; omega⟩
    · have hve : v = V := by omega
      subst hve
      have HLW := hide (show Below w.heap.size w wr from ⟨HO.out.os.trans HB2.out.os, HO.out.tape.trans HB2.out.tape, HO.out.output.trans HB2.out.output, by have := HB2.out.size; have := HO.out.size; omega, fun q hq => (HO.out.fr q (by omega) (by omega)).trans (HB2.out.block q hq)⟩)
      go_wp2_with fail
      go_ret
      exact ⟨_, rfl, HLW.out, w2, by omega, HO.out⟩
end Go.Proofs.YtjfcbjomfbfoiaaGreatDoor
