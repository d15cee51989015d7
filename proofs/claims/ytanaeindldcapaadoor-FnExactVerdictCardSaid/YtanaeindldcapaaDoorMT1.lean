import Derived.Test.YtanaeindldcapaaDoorML3
import Derived.Test.YtanaeindldcapaaDoorMB1
namespace Go.Proofs.YtanaeindldcapaaDoor
open Go.RowKit
theorem Gro.start1 {W1 : World} {G : Nat} {u : Value} {l : List Int} (h : W1.ownsRow G 2 1 u l.length (l.map (Value.int .i64))) (hu : ∀ g, u.ownBlock = some g → g = G) : Gro W1 G W1 u l := ⟨rfl, rfl, rfl, Nat.le_refl _, fun _ _ _ => rfl, h, fun g e => Or.inl (hu g e)⟩
theorem Gro.low {w W1 wr : World} {G : Nat} {u : Value} {l : List Int} (h : Gro W1 G wr u l) (k : Below G w W1) (hG : G ≤ W1.heap.size) : Below G w wr :=
  ⟨h.os.trans k.os, h.tape.trans k.tape, h.output.trans k.output, Nat.le_trans k.size h.size, fun q hq => (h.fr q (by omega) (by omega)).trans (k.block q hq)⟩
theorem own_raise {w : World} {base e s g n c m : Nat} {xs : List Value} (h : w.ownsRow base e s (.slice (some ⟨g, 0, none⟩) n c) m xs) : w.ownsRow g e s (.slice (some ⟨g, 0, none⟩) n c) m xs := by
  obtain ⟨hl, h | ⟨g2, cap, cur, e1, hg, h3⟩⟩ := h
  · exact absurd h.1 (by simp)
  · have e2 : g = g2 := by
      injection e1 with e1
      injection e1 with e1
      injection e1
    subst e2
    exact ⟨hl, Or.inr ⟨g, cap, cur, e1, Nat.le_refl _, h3⟩⟩
theorem Gro.rebase {W1 wr wx : World} {G g n c : Nat} {l : List Int} (h : Gro W1 G wr (.slice (some ⟨g, 0, none⟩) n c) l) (k : Below wr.heap.size wr wx) : Gro wx g wx (.slice (some ⟨g, 0, none⟩) n c) l :=
  Gro.start1 (own_raise (own_block h.own (fun q e => k.block q (h.own.lt q e).2))) (fun q e => by
    have e' : g = q := by simpa [Value.ownBlock] using e
    exact e'.symm)
theorem Gro.join {W1 wr wx w2 : World} {G g : Nat} {u u2 : Value} {l l2 : List Int} (h : Gro W1 G wr u l) (k : Below wr.heap.size wr wx) (hg : u.ownBlock = some g) (h2 : Gro wx g w2 u2 l2) : Gro W1 G w2 u2 l2 := by
  have z1 := h.size
  have z2 := k.size
  have hgl := h.own.lt g hg
  refine ⟨h2.os.trans (k.os.trans h.os), h2.tape.trans (k.tape.trans h.tape), h2.output.trans (k.output.trans h.output), by have := h2.size; omega, fun q q1 q2 => (h2.fr q (by omega) (fun e => ?_)).trans ((k.block q (by omega)).trans (h.fr q q1 q2)), own_base h2.own hgl.1, fun q e => ?_⟩
  · rcases h.here g hg with e2 | e2
    · exact q2 (e.trans e2)
    · omega
  · rcases h2.here q e with e2 | e2
    · rw [e2]; exact h.here g hg
    · exact Or.inr (by omega)
def SmT (a b : World) : Prop := a = b
def StrA (w : World) (V : Nat) (xs : List Blk) (e : Ending) (w' : World) : Prop := ∃ s : Bool, e = .returned (.bool s) ∧ (s = true ↔ ∀ v, v < V → ¬ Bad xs v) ∧ Below w.heap.size w w'
set_option maxHeartbeats 4000000 in
set_option maxRecDepth 100000 in
theorem strict_any (V : Nat) (a : Option Addr) (n c : Nat) (xs : List Blk) (L B : Nat) (w : World) (ha : Hid (BlksAt w L B a xs)) (hx : Hid (n = xs.length)) (hB : B ≤ w.heap.size) (ho : Hid (OkL V xs)) :
    Calls Tryd.prog 12 #[.agg #[.int .i64 (V : Int), .slice a n c]] w fun e w' => StrA w V xs e w' := by
  obtain ⟨m0, hm0, hm1, hm2, hm3⟩ := info_three Tryd.info2'
  have hn : n ≤ 1000 := by have := hx.out; have := ho.out.okf.n2; omega
  have hn0 : 0 < n := by have := hx.out; have := ho.out.okf.n1; omega
  have hV := ho.out.vle
  have hW0 : Below w.heap.size w (w.alloc (.cells #[.int .i64 (V : Int), .slice a n c] 29)) := balloc (Below.refl _ _) _
  have hf0 : (w.alloc (.cells #[.int .i64 (V : Int), .slice a n c] 29)).cell? ⟨w.heap.size, 0, none⟩ = some (.int .i64 (V : Int)) := by simp
  have hz0 : w.heap.size < (w.alloc (.cells #[.int .i64 (V : Int), .slice a n c] 29)).heap.size := by simp
  have HLA := hide (list_any V a n c xs L B (w.alloc (.cells #[.int .i64 (V : Int), .slice a n c] 29)) (hide (ha.out.keep (hW0.mono hB))) hx (by omega) ho)
  go_enter Tryd.func12, Tryd.ntmps12
  go_wp2_with fail
  refine HLA.out.mono ?_
  rintro e w1 ⟨af, cf, rfl, hb1, hF⟩
  have HF1 := hide hF.at_
  have HB1 := hide (bnext hW0 hb1)
  have g0 := (hb1.cell (p := ⟨w.heap.size, 0, none⟩) hz0).trans hf0
  have hz1 : w.heap.size < w1.heap.size := Nat.lt_of_lt_of_le hz0 hb1.size
  have HG0 := hide g0
  clear hF hb1 hW0 hf0 hz0 HLA g0
  go_wp2_with fail
  go_loopw [4] (fun i wr => ∃ v : Nat, v ≤ V ∧ i = .int .i64 v ∧ Hid (Below w1.heap.size w1 wr) ∧ Hid (∀ v', v' < v → ¬ Bad xs v')) (fun i _ => V - (intOf i).toNat)
  case atStart => exact ⟨0, Nat.zero_le _, rfl, hide (Below.refl _ _), hide (fun v' h => absurd h (by omega))⟩
  case round =>
    obtain ⟨v, hv, rfl, HB, HNB⟩ := hrel
    have k0 := (HB.out.cell (p := ⟨w.heap.size, 0, none⟩) hz1).trans HG0.out
    have hzr := HB.out.size
    by_cases hlt : v < V
    · go_wp2_with fail
      have hbt : Below wr.heap.size wr (wr.alloc (.cells #[.int .i64 0] 2)) := balloc (Below.refl _ _) _
      have HGT : Hid (Gro (wr.alloc (.cells #[.int .i64 0] 2)) wr.heap.size (wr.alloc (.cells #[.int .i64 0] 2)) (.slice (some ⟨wr.heap.size, 0, none⟩) 1 1) (natI [0])) := hide (Gro.start1 (by
        have h := World.ownsRow_lit (base := wr.heap.size) (e := 2) (size := 1) wr #[.int .i64 0] 1 (Nat.le_refl _) (by unfold maxLen; omega) rfl
        exact h) (fun g e => by
        have e' : wr.heap.size = g := by simpa [Value.ownBlock] using e
        exact e'.symm))
      have HBT := hide hbt
      have hzt : wr.heap.size < (wr.alloc (.cells #[.int .i64 0] 2)).heap.size := by simp
      clear hbt k0
      generalize wr.alloc (.cells #[.int .i64 0] 2) = wt at *
      generalize wr = wo at *
      go_loopw [5, 6] (fun u i wr => ∃ (q : Nat) (F : List Nat), q ≤ F.length ∧ i = .int .i64 q ∧ Hid (StI xs v F q) ∧ Hid (Gro wt wo.heap.size wr u (natI F))) (fun _ i _ => n - (intOf i).toNat)
      case atStart => exact ⟨0, [0], by simp, rfl, hide stI_start, HGT⟩
      case round =>
        clear HGT
        obtain ⟨q, F, hq, rfl, HST, HGR⟩ := hrel
        have HLF : Hid (∀ x ∈ F, x < n) := hide (by rw [hx.out]; exact HST.out.lt ho.out.okf)
        have hFl : F.length ≤ n := nodup_le HST.out.nd HLF.out
        obtain ⟨aF, cF, eF, hiF⟩ := ints_owned HGR.out.own
        have hnF : (natI F).length = F.length := by simp [natI]
        obtain ⟨gF, cF', eF', hgF, _⟩ := own_some' HGR.out.own (by rw [hnF]; exact List.length_pos_of_mem HST.out.z)
        rw [hnF] at eF eF'
        have eaF : aF = some ⟨gF, 0, none⟩ := by
          rw [eF] at eF'
          injection eF'
        subst eaF
        clear eF'
        subst eF
        have HIF := hide hiF
        have hgF1 : wo.heap.size ≤ gF := hgF.1
        have hgF2 : gF < wr.heap.size := hgF.2
        clear hgF
        have HLOW : Hid (Below wo.heap.size wo wr) := hide (HGR.out.low HBT.out (by omega))
        obtain ⟨lF, hlF⟩ : ∃ m, m = F.length := ⟨_, rfl⟩
        rw [← hlF] at hq hFl
        rw [← hlF]
        rw [← hlF] at HGR
        have HLL := hide hlF
        clear hiF hnF hlF
        by_cases hltq : q < lF
        · have hqF : q < F.length := by rw [← HLL.out]; exact hltq
          have hqN : q < (natI F).length := by simp [natI]; exact hqF
          obtain ⟨bq, oq, eb, hbq, hcq⟩ := HIF.out q hqN
          injection eb with eb
          injection eb with eb1 eb2
          subst eb1 eb2
          rw [Nat.zero_add] at hcq
          have eq : (natI F)[q] = ((F[q] : Nat) : Int) := by simp [natI]
          rw [eq] at hcq
          have htn : F[q] < n := HLF.out _ (List.getElem_mem hqF)
          have htx : F[q] < xs.length := by have := hx.out; omega
          have HB1R : Hid (Below w1.heap.size w1 wr) := hide (HB.out.trans (HLOW.out.mono hzr))
          obtain ⟨bf, of, us, rfl, hbf, hus', hfa⟩ := HF1.out F[q] htx
          have hus : ∀ j', j' < 6 → wr.cell? ⟨bf, of + F[q] * 6 + j', none⟩ = some (us j') := fun j' hj' => (HB1R.out.cell (p := ⟨bf, of + F[q] * 6 + j', none⟩) hbf).trans (hus' j' hj')
          have HFA := hide (hfa.keep (fun b' h1 _ => HB1R.out.block b' h1) HB1R.out.size)
          clear hus'
          obtain ⟨a0, c0, e0, i0⟩ := hfa.e0
          obtain ⟨a1, c1, e1, i1⟩ := hfa.e1
          obtain ⟨a2, c2, e2, _⟩ := hfa.e2
          obtain ⟨a3, c3, e3, _⟩ := hfa.e3
          obtain ⟨a4, c4, e4, _⟩ := hfa.e4
          obtain ⟨a5, c5, e5, _⟩ := hfa.e5
          have u0 := hus 0 (by decide)
          have u1 := hus 1 (by decide)
          have u2 := hus 2 (by decide)
          have u3 := hus 3 (by decide)
          have u4 := hus 4 (by decide)
          have u5 := hus 5 (by decide)
          simp only [Nat.add_zero] at u0
          rw [e0] at u0
          rw [e1] at u1
          rw [e2] at u2
          rw [e3] at u3
          rw [e4] at u4
          rw [e5] at u5
          have HE2 := hide e2
          have HE3 := hide e3
          have HE4 := hide e4
          have HE5 := hide e5
          have HI0 := hide i0
          have HI1 := hide i1
          have HLX := hide (ho.out.lens xs[F[q]] (List.getElem_mem htx))
          have HPB : Hid (phiB xs F[q] v = hasI (xs[F[q]].phis.map Ph.dst) (v : Int)) := hide (by unfold phiB; rw [List.getElem?_eq_getElem htx])
          have HBB : Hid (barB xs F[q] v = bareM xs[F[q]] (edgesM xs F[q]) (v : Int)) := hide (by unfold barB; rw [List.getElem?_eq_getElem htx])
          have HTG : Hid (xs[F[q]].term.targets = natI (tgN xs F[q])) := hide (by rw [natI_tg ho.out.okf htx, tgI_at htx])
          have HTLT : Hid (∀ z ∈ tgN xs F[q], z < n) := hide (by rw [hx.out]; exact ho.out.okf.tg _ htx)
          have HEL : Hid ((edgesM xs F[q]).length ≤ 8000000) := hide (by
            unfold edgesM
            rw [List.getElem?_eq_getElem htx]
            have h1 := flat_len ho.out ((F[q] : Nat) : Int) xs[F[q]].term.targets
            have h2 := tg_two xs[F[q]].term
            simp only
            omega)
          obtain ⟨t, ht⟩ : ∃ t, t = F[q] := ⟨_, rfl⟩
          obtain ⟨X, hX⟩ : ∃ X, X = xs[F[q]] := ⟨_, rfl⟩
          obtain ⟨E, hE⟩ : ∃ E, E = edgesM xs F[q] := ⟨_, rfl⟩
          rw [← hX, ← hE] at HFA HBB
          rw [← hX] at u0 u1 u3 u4 u5 HE3 HE4 HE5 HI0 HI1 HLX HPB HTG
          rw [← hE] at u2 HE2 HEL
          rw [← ht] at hcq htn u0 u1 u2 u3 u4 u5 HPB HBB HTG HTLT
          have HTT := hide ht
          clear hus hfa eq ht hX hE e0 e1 e2 e3 e4 e5 i0 i1
          obtain ⟨n0, hn0'⟩ : ∃ m, m = X.term.targets.length := ⟨_, rfl⟩
          obtain ⟨n1, hn1'⟩ : ∃ m, m = (X.phis.map Ph.dst).length := ⟨_, rfl⟩
          rw [← hn0'] at u0
          rw [← hn1'] at u1
          have hn02 : n0 ≤ 2 := by rw [hn0']; exact tg_two _
          have hn14 : n1 ≤ 4000 := by rw [hn1', List.length_map]; exact HLX.out.2
          have HN0 := hide hn0'
          have HN1 := hide hn1'
          clear hn0' hn1'
          have HEL2 : Hid (E.length ≤ 8000000) := HEL
          clear HEL
          generalize hn2' : E.length = n2 at u2 HE2
          clear hn2'
          generalize hn3' : (rdsM X).length = n3 at u3 HE3
          generalize hn4' : (dfsM X).length = n4 at u4 HE4
          generalize hn5' : (rdT X.term).length = n5 at u5 HE5
          clear hn3' hn4' hn5'
          have hbX : Below wr.heap.size wr (wr.alloc (.cells #[.slice a0 n0 c0, .slice a1 n1 c1, .slice a2 n2 c2, .slice a3 n3 c3, .slice a4 n4 c4, .slice a5 n5 c5] 81)) := balloc (Below.refl _ _) _
          have hcX : ∀ q' v', #[Value.slice a0 n0 c0, .slice a1 n1 c1, .slice a2 n2 c2, .slice a3 n3 c3, .slice a4 n4 c4, .slice a5 n5 c5][q']? = some v' → (wr.alloc (.cells #[.slice a0 n0 c0, .slice a1 n1 c1, .slice a2 n2 c2, .slice a3 n3 c3, .slice a4 n4 c4, .slice a5 n5 c5] 81)).cell? ⟨wr.heap.size, q', none⟩ = some v' := fun q' v' h => by
            rw [World.cell?_alloc_new]
            exact h
          have hzX : wr.heap.size < (wr.alloc (.cells #[.slice a0 n0 c0, .slice a1 n1 c1, .slice a2 n2 c2, .slice a3 n3 c3, .slice a4 n4 c4, .slice a5 n5 c5] 81)).heap.size := by simp
          go_wp2_with fail
          clear u0 u1 u2 u3 u4 u5 hcq
          generalize wr.alloc (.cells #[.slice a0 n0 c0, .slice a1 n1 c1, .slice a2 n2 c2, .slice a3 n3 c3, .slice a4 n4 c4, .slice a5 n5 c5] 81) = wx at *
          have x0 : wx.cell? ⟨wr.heap.size, 0, none⟩ = some (.slice a0 n0 c0) := hcX 0 _ rfl
          have x1 : wx.cell? ⟨wr.heap.size, 1, none⟩ = some (.slice a1 n1 c1) := hcX 1 _ rfl
          have x2 : wx.cell? ⟨wr.heap.size, 2, none⟩ = some (.slice a2 n2 c2) := hcX 2 _ rfl
          have x3 : wx.cell? ⟨wr.heap.size, 3, none⟩ = some (.slice a3 n3 c3) := hcX 3 _ rfl
          have x4 : wx.cell? ⟨wr.heap.size, 4, none⟩ = some (.slice a4 n4 c4) := hcX 4 _ rfl
          have x5 : wx.cell? ⟨wr.heap.size, 5, none⟩ = some (.slice a5 n5 c5) := hcX 5 _ rfl
          have HBX := hide hbX
          have HGX := hide (HGR.out.below hbX)
          have HI1X : Hid (IntsAt wx 0 w1.heap.size a1 (X.phis.map Ph.dst)) := hide ((HI1.out.at_.keep HB1R.out).keep (hbX.mono (by omega)))
          have HI0X : Hid (IntsAt wx 0 w1.heap.size a0 X.term.targets) := hide ((HI0.out.at_.keep HB1R.out).keep (hbX.mono (by omega)))
          have HFX : Hid (FaAt wx (fun _ => True) us X E) := hide (HFA.out.keep (fun b' h1 _ => hbX.block b' h1) hbX.size)
          have HHP := hide (l1Has_any a1 n1 c1 (v : Int) (X.phis.map Ph.dst) 0 w1.heap.size wx HI1X HN1 (by omega))
          have HBR := hide (bare_any X E us (v : Int) wx HFX (hide HLX.out.1) HEL2 (.slice a0 n0 c0) (.slice a1 n1 c1) (.slice a2 n2 c2) (.slice a3 n3 c3) (.slice a4 n4 c4) (.slice a5 n5 c5) HE2.out HE3.out HE4.out HE5.out)
          clear hbX hcX
          refine HHP.out.mono ?_
          rintro e w3 ⟨rfl, hw3⟩
          rw [hw3]
          clear hw3 HHP
          cases hph : hasI (X.phis.map Ph.dst) (v : Int) with
          | true =>
            have HS2 : Hid (StI xs v F (q + 1)) := hide (HST.out.go hqF (Or.inl (by rw [← HTT.out, HPB.out]; exact hph)))
            clear hph
            go_wp2_with fail
            refine ⟨?_, by simp [intOf]; omega⟩
            first
              | exact ⟨q + 1, F, by omega, by go_num, HS2, HGX⟩
              | ((repeat apply Exists.intro); refine ⟨?_, rfl⟩; exact ⟨q + 1, F, by omega, by go_num, HS2, HGX⟩)
          | false =>
            have HPF : Hid (phiB xs t v = false) := hide (by rw [HPB.out]; exact hph)
            clear hph
            go_wp2_with fail
            refine HBR.out.mono ?_
            rintro e w4 ⟨rfl, hb4⟩
            have HB4 : Hid (Below wr.heap.size wr w4) := hide (bnext HBX.out hb4)
            have y0 := (hb4.cell (p := ⟨wr.heap.size, 0, none⟩) hzX).trans x0
            have HI04 : Hid (IntsAt w4 0 w1.heap.size a0 X.term.targets) := hide (HI0X.out.keep (hb4.mono (by omega)))
            have hz4 := hb4.size
            have hmt := bareF_le (v := (v : Int)) (fin := hasI (rdT X.term) (v : Int) || hasI E (v : Int)) X.instrs
            have hmt2 : bareM X E (v : Int) ≤ 2 := hmt
            generalize hmm : bareM X E (v : Int) = mt at *
            have HMT : Hid (barB xs t v = mt) := hide HBB.out
            clear hmm HBB hmt hb4 x0 x1 x2 x3 x4 x5 HBR HFX
            have hcs : mt = 0 ∨ mt = 1 ∨ mt = 2 := by omega
            rcases hcs with rfl | rfl | rfl
            · have hxb : wr.heap.size ≠ gF := by omega
              have HG4 : Hid (Gro w4 gF w4 (.slice (some ⟨gF, 0, none⟩) lF cF) (natI F)) := hide (HGR.out.rebase HB4.out)
              have HY0 := hide y0
              have HTE : Hid (F[q]? = some t) := hide (by rw [List.getElem?_eq_getElem hqF, HTT.out])
              have HWO : Hid (w1.heap.size ≤ gF) := hide (by omega)
              have HNTg : Hid ((tgN xs t).length = n0) := hide (by rw [HN0.out, HTG.out]; simp [natI])
              have HOB : Hid ((Value.slice (some ⟨gF, 0, none⟩) lF cF).ownBlock = some gF) := hide rfl
              go_wp2_with fail
              clear y0
              generalize wr = wp at *
              go_loopw [5, 9] (fun u j wr => ∃ (m : Nat) (F2 : List Nat), m ≤ n0 ∧ j = .int .i64 m ∧ Hid (StI xs v F2 q) ∧ Hid (F2[q]? = some t) ∧ Hid (∀ r (h : r < (tgN xs t).length), r < m → (tgN xs t)[r] ∈ F2) ∧ Hid (Gro w4 gF wr u (natI F2))) (fun _ j _ => n0 - (intOf j).toNat)
              case atStart => exact ⟨0, F, Nat.zero_le _, rfl, HST, HTE, hide (fun r _ h => absurd h (by omega)), HG4⟩
              case round =>
                clear HG4
                obtain ⟨m, F2, hm, rfl, HS2, HTE2, HAL, HG2⟩ := hrel
                have z0 := HG2.out.cell hxb HY0.out
                have hqF2 : q < F2.length := (List.getElem?_eq_some_iff.1 HTE2.out).1
                have HF2q : Hid (F2[q] = t) := hide (List.getElem?_eq_some_iff.1 HTE2.out).2
                by_cases hltm : m < n0
                · have hmx : m < X.term.targets.length := by rw [← HN0.out]; exact hltm
                  have hmt' : m < (tgN xs t).length := by rw [HNTg.out]; exact hltm
                  obtain ⟨bt, ot, rfl, ⟨_, hbt⟩, hct⟩ := HI04.out m hmx
                  have ht1 : X.term.targets[m] = (((tgN xs t)[m] : Nat) : Int) := by simp only [HTG.out, natI, List.getElem_map]; rfl
                  rw [ht1] at hct
                  have zt := HG2.out.cell (by have := HWO.out; omega) hct
                  obtain ⟨aG, cG, eG, hiG⟩ := ints_owned HG2.out.own
                  have hnG : (natI F2).length = F2.length := by simp [natI]
                  have HLF2 : Hid (F2.length ≤ 1000) := hide (Nat.le_trans (nodup_le HS2.out.nd (fun z hz => by have := HS2.out.lt ho.out.okf z hz; have := hx.out; show z < n; omega)) hn)
                  obtain ⟨tt, htt⟩ : ∃ z, z = (tgN xs t)[m] := ⟨_, rfl⟩
                  rw [← htt] at zt
                  have HTT2 := hide htt
                  obtain ⟨l2, hl2⟩ : ∃ z, z = (natI F2).length := ⟨_, rfl⟩
                  rw [← hl2] at eG
                  subst eG
                  have hl2' : l2 ≤ 1000 := by rw [hl2, hnG]; exact HLF2.out
                  have HHT := hide (l1Has_any aG l2 cG (tt : Int) (natI F2) gF wr.heap.size wr (hide hiG) (hide hl2) (by omega))
                  have HL2 := hide hl2
                  clear hct ht1 hiG hnG htt hl2
                  go_wp2_with fail
                  refine HHT.out.mono ?_
                  rintro e w5 ⟨rfl, hw5⟩
                  rw [hw5]
                  clear hw5 HHT
                  cases hh : hasI (natI F2) (tt : Int) with
                  | true =>
                    have HM2 : Hid (∀ r (h : r < (tgN xs t).length), r < m + 1 → (tgN xs t)[r] ∈ F2) := hide (fun r hr hrm => by
                      by_cases e : r = m
                      · subst e
                        rw [← HTT2.out]
                        have h1 := hasI_iff.1 hh
                        obtain ⟨z, hz, e2⟩ := List.mem_map.1 h1
                        have : z = tt := by have e3 : (z : Int) = (tt : Int) := e2; omega
                        rw [← this]; exact hz
                      · exact HAL.out r hr (by omega))
                    clear hh
                    go_wp2_with fail
                    refine ⟨?_, by simp [intOf]; omega⟩
                    first
                      | exact ⟨m + 1, F2, by omega, by go_num, HS2, HTE2, HM2, HG2⟩
                      | ((repeat apply Exists.intro); refine ⟨?_, rfl⟩; exact ⟨m + 1, F2, by omega, by go_num, HS2, HTE2, HM2, HG2⟩)
                  | false =>
                    have HNI : Hid (tt ∉ F2) := hide (fun h => by
                      have h1 : hasI (natI F2) (tt : Int) = true := hasI_iff.2 (List.mem_map.2 ⟨tt, h, rfl⟩)
                      rw [hh] at h1; cases h1)
                    have HS4 : Hid (StI xs v (F2 ++ [tt]) q) := hide (HS2.out.push hqF2 (by rw [HF2q.out]; exact HPF.out) (by rw [HF2q.out]; exact HMT.out) (by rw [HF2q.out, HTT2.out]; exact List.getElem_mem hmt') HNI.out)
                    have HTE4 : Hid ((F2 ++ [tt])[q]? = some t) := hide (by rw [List.getElem?_append_left hqF2]; exact HTE2.out)
                    have HM4 : Hid (∀ r (h : r < (tgN xs t).length), r < m + 1 → (tgN xs t)[r] ∈ F2 ++ [tt]) := hide (fun r hr hrm => by
                      by_cases e : r = m
                      · subst e
                        rw [← HTT2.out]
                        simp
                      · exact List.mem_append_left _ (HAL.out r hr (by omega)))
                    clear hh
                    go_wp2_with (at_builtin; refine wpList_append_own_at _ rfl _ _ 35 rfl gF 2 m0 (.int .i64 0) 1 8 Tryd.underlying35 hm0 hm1 hm2 hm3 rfl (by decide) _ _ _ rfl (HG2.out.own.alloc _) ⟨wr.heap.size, 0, none⟩ 1 1 [.int .i64 (tt : Int)] rfl rfl ?c1 ?c2 ?c3 ?c4 ?c5 ?_)
                    case c1 =>
                      intro j' u' hj'
                      match j', hj' with
                      | 0, hj' => simp at hj'; subst hj'; simp [Addr.add]
                    case c2 => intro u' hu'; simp at hu'; subst hu'; rfl
                    case c3 => have := HL2.out; unfold maxLen; omega
                    case c4 => have := HL2.out; omega
                    case c5 => have := HG2.out.size; simp; omega
                    intro u9 w9 hown9 hg9 _ hat9
                    have HG5 := hide ((HG2.out.alloc _).push (x := (tt : Int)) hg9 hown9 (by rw [World.size_alloc]; exact hat9))
                    have HG6 : Hid (Gro w4 gF w9 u9 (natI (F2 ++ [tt]))) := hide (by have h := HG5.out; rw [show natI F2 ++ [(tt : Int)] = natI (F2 ++ [tt]) by simp [natI]] at h; exact h)
                    clear hown9 hg9 hat9 z0 zt
                    go_wp2_with fail
                    refine ⟨?_, by simp [intOf]; omega⟩
                    first
                      | exact ⟨m + 1, F2 ++ [tt], by omega, by go_num, HS4, HTE4, HM4, HG6⟩
                      | ((repeat apply Exists.intro); refine ⟨?_, rfl⟩; exact ⟨m + 1, F2 ++ [tt], by omega, by go_num, HS4, HTE4, HM4, HG6⟩)
                · have HS3 : Hid (StI xs v F2 (q + 1)) := hide (HS2.out.go hqF2 (Or.inr ⟨by rw [HF2q.out, HMT.out]; decide, fun _ z hz => by
                    rw [HF2q.out] at hz
                    obtain ⟨r, hr, rfl⟩ := List.getElem_of_mem hz
                    exact HAL.out r hr (by have := HNTg.out; omega)⟩))
                  have HJ := hide (HGR.out.join HB4.out HOB.out HG2.out)
                  go_wp2_with fail
                  refine ⟨?_, by simp [intOf]; omega⟩
                  first
                    | exact ⟨q + 1, F2, by omega, by go_num, HS3, HJ⟩
                    | ((repeat apply Exists.intro); refine ⟨?_, rfl⟩; exact ⟨q + 1, F2, by omega, by go_num, HS3, HJ⟩)
            · have HBD : Hid (Bad xs v) := hide (HST.out.hit hqF (by rw [← HTT.out]; exact HPF.out) (by rw [← HTT.out]; exact HMT.out))
              go_wp2_with fail
              go_ret
              exact ⟨false, rfl, ⟨fun h => (by cases h), fun h => absurd HBD.out (h v hlt)⟩, HB1.out.trans ((HB1R.out.trans (HB4.out.mono (by have := HB1R.out.size; omega))).mono (by omega))⟩
            · have HS3 : Hid (StI xs v F (q + 1)) := hide (HST.out.go hqF (Or.inr ⟨by rw [← HTT.out, HMT.out]; decide, fun h => by rw [← HTT.out, HMT.out] at h; cases h⟩))
              have HG4 := hide (HGR.out.below HB4.out)
              go_wp2_with fail
              generalize wr = wp at *
              go_loopw [5, 9] (fun u j wr => u = .slice (some ⟨gF, 0, none⟩) lF cF ∧ j = .int .i64 0 ∧ Hid (SmT wr w4)) (fun _ _ _ => 0)
              case atStart => exact ⟨rfl, rfl, hide rfl⟩
              case round =>
                obtain ⟨rfl, rfl, HSW⟩ := hrel
                have esw : wr = w4 := HSW.out
                clear HSW
                subst esw
                by_cases h0 : 0 < n0
                · go_wp2_with fail
                  refine ⟨?_, by simp [intOf]; omega⟩
                  first
                    | exact ⟨q + 1, F, by omega, by go_num, HS3, HG4⟩
                    | ((repeat apply Exists.intro); refine ⟨?_, rfl⟩; exact ⟨q + 1, F, by omega, by go_num, HS3, HG4⟩)
                · go_wp2_with fail
                  refine ⟨?_, by simp [intOf]; omega⟩
                  first
                    | exact ⟨q + 1, F, by omega, by go_num, HS3, HG4⟩
                    | ((repeat apply Exists.intro); refine ⟨?_, rfl⟩; exact ⟨q + 1, F, by omega, by go_num, HS3, HG4⟩)
        · have HNV : Hid (∀ v', v' < v + 1 → ¬ Bad xs v') := hide (fun v' hv' => by
            by_cases e : v' = v
            · subst e
              exact HST.out.none (by have := HLL.out; omega)
            · exact HNB.out v' (by omega))
          have HBW : Hid (Below w1.heap.size w1 wr) := hide (HB.out.trans (HLOW.out.mono hzr))
          go_wp2_with fail
          refine ⟨?_, by simp [intOf]; omega⟩
          first
            | exact ⟨v + 1, by omega, by go_num, HBW, HNV⟩
            | ((repeat apply Exists.intro); refine ⟨?_, rfl⟩; exact ⟨v + 1, by omega, by go_num, HBW, HNV⟩)
    · have HS : Hid (∀ v', v' < V → ¬ Bad xs v') := hide (fun v' h => HNB.out v' (by omega))
      go_wp2_with fail
      go_ret
      exact ⟨true, rfl, ⟨fun _ => HS.out, fun _ => rfl⟩, HB1.out.trans (HB.out.mono (by omega))⟩
end Go.Proofs.YtanaeindldcapaaDoor
