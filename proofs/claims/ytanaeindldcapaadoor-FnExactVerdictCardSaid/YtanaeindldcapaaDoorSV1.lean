import Derived.Test.YtanaeindldcapaaDoorWS0
namespace Go.Proofs.YtanaeindldcapaaDoor
open Go.RowKit
/-- Numbers, and lists of numbers, in blocks that a predicate names. -/
def IntsP (w : World) (P : Nat → Prop) (a : Option Addr) (xs : List Int) : Prop :=
  ∀ i (h : i < xs.length), ∃ b o, a = some ⟨b, o, none⟩ ∧ (P b ∧ b < w.heap.size) ∧ w.cell? ⟨b, o + i, none⟩ = some (.int .i64 xs[i])
def RowsP (w : World) (P : Nat → Prop) (a : Option Addr) (xss : List (List Int)) : Prop :=
  ∀ i (h : i < xss.length), ∃ b o, a = some ⟨b, o, none⟩ ∧ (P b ∧ b < w.heap.size) ∧ ∃ a' c', w.cell? ⟨b, o + i, none⟩ = some (.slice a' xss[i].length c') ∧ IntsP w P a' xss[i]
theorem SetsAv.keep {w w' : World} {G n K : Nat} {gs cp : Nat → Nat} {Ws : Nat → Nat → Nat} (h : SetsAv w G n K gs cp Ws) (k : Below w.heap.size w w') : SetsAv w' G n K gs cp Ws :=
  ⟨h.row.of_block (k.block _ h.row.lt), fun i hi => (h.set i hi).of_block (k.block _ (h.set i hi).lt), h.inj, h.out⟩
/-- One set of the row has been written. -/
theorem SetsAv.wrote {w w' : World} {G n K b : Nat} {gs cp : Nat → Nat} {Ws : Nat → Nat → Nat} {W' : Nat → Nat} (h : SetsAv w G n K gs cp Ws) (hb : b < n) (k : w.grownBy w' (some (gs b))) (hr : WsAt w' (gs b) K (cp b) W') : SetsAv w' G n K gs cp (fun i => if i = b then W' else Ws i) := by
  refine ⟨h.row.of_block (k.block _ h.row.lt (fun e => h.out b hb (by injection e with e; exact e.symm))), fun i hi => ?_, h.inj, h.out⟩
  by_cases e : i = b
  · subst e
    simpa using hr
  · simp only [if_neg e]
    exact (h.set i hi).of_block (k.block _ (h.set i hi).lt (fun e2 => e (by injection e2 with e2; exact h.inj i b hi hb e2)))
/-- Sets that none of the sets that are written touches. -/
theorem SetsAv.apart {w w' : World} {G2 n K : Nat} {gs gs2 cp2 : Nat → Nat} {T : Nat → Nat → Nat} (h : SetsAv w G2 n K gs2 cp2 T) (f : FrS w w' n gs) (h1 : ∀ i, i < n → G2 ≠ gs i) (h2 : ∀ i j, i < n → j < n → gs2 i ≠ gs j) : SetsAv w' G2 n K gs2 cp2 T :=
  ⟨h.row.of_block (f.block _ h.row.lt h1), fun i hi => (h.set i hi).of_block (f.block _ (h.set i hi).lt (fun j hj => h2 i j hi hj)), h.inj, h.out⟩
set_option maxHeartbeats 4000000 in
set_option maxRecDepth 100000 in
theorem spread_valueNo (b0 o0 n0 c0 : Nat) (ord : List Nat) (L1 B1 : Nat) (sa : Option Addr) (ns cs : Nat) (src : List (List Nat)) (G G2 n K : Nat) (gs gs2 cp cp2 : Nat → Nat) (I T : Nat → Nat → Nat) (w : World)
    (hord : Hid (IntsAt w L1 B1 (some ⟨b0, o0, none⟩) (natI ord))) (h0 : Hid (n0 = ord.length)) (hn0 : n0 ≤ 1000) (hn0' : 0 < n0) (hsrc : Hid (RowsP w (fun k => ∀ i, i < n → k ≠ gs i) sa (src.map natI))) (hs : Hid (ns = src.length)) (hns : Hid (src.length = n)) (hK : K ≤ 100)
    (hB1 : B1 ≤ w.heap.size) (HI : Hid (SetsAv w G n K gs cp I)) (HT : Hid (SetsAv w G2 n K gs2 cp2 T)) (hwI : Hid (AllWd I)) (hwT : Hid (AllWd T))
    (d3 : Hid (∀ i, i < n → G2 ≠ gs i)) (d4 : Hid (∀ i j, i < n → j < n → gs2 i ≠ gs j))
    (ho : Hid (∀ b ∈ ord, b < n)) (hsr : Hid (∀ l ∈ src, l.length ≤ 2000 ∧ ∀ t ∈ l, t < n)) :
    Calls Tryd.prog 46 #[.slice (some ⟨b0, o0, none⟩) n0 c0, .slice sa ns cs, .slice (some ⟨G, 0, none⟩) n n, .slice (some ⟨G2, 0, none⟩) n n] w fun e w' => e = .returned (.tuple #[]) ∧ FrS w w' n gs ∧ ∃ Ws, AllWd Ws ∧ SetsAv w' G n K gs cp Ws ∧ ∀ b, b < n → ∀ x, x < 64 * K → (hasN (Ws b) x = true ↔ Sp I T (· ∈ ord) (fun b => src.getD b []) b x) := by
  go_enter Tryd.func46, Tryd.ntmps46
  go_wp2_with fail
  go_step3
  go_wp2_with fail
  refine (cloneI_any b0 o0 n0 c0 (natI ord) L1 B1 w hord (hide (by have := h0.out; simp [natI]; omega)) (by omega) hB1).mono ?_
  rintro e w1 ⟨v1, rfl, hb1, hne1, ho1⟩
  obtain ⟨g1, k1, rfl, hg1, hk1⟩ := own_some' ho1 (by have := h0.out; simp [natI]; omega)
  have HB1 := hide hb1
  have HO1 := hide ho1
  have hln : (natI ord).length = n0 := by have := h0.out; simp [natI]; omega
  rw [hln] at HO1
  clear hb1 ho1 hne1
  go_wp2_with fail
  have hg1z : g1 < w1.heap.size := hg1.2
  have hg1b : w.heap.size ≤ g1 := hg1.1
  refine (reverse_any g1 n0 k1 w.heap.size (natI ord) w1 (by omega) (hide hln.symm) HO1).mono ?_
  rintro e w2 ⟨rfl, hgr2, ho2⟩
  have HB2 : Hid (Below w.heap.size w w2) := hide (HB1.out.grown hgr2 HB1.out.size (fun k e => by cases e; omega))
  have HO2 := hide ho2
  clear hgr2 ho2 HO1 HB1
  go_wp2_with fail
  have hL9 : (fun x9 : World => Hid (Below w2.heap.size w2 x9) ∧ x9.cell? ⟨w2.heap.size, 0, none⟩ = some (.slice (some ⟨b0, o0, none⟩) n0 c0) ∧ x9.cell? ⟨w2.heap.size, 1, none⟩ = some (.slice (some ⟨g1, 0, none⟩) n0 k1)) (w2.alloc (.cells #[.slice (some ⟨b0, o0, none⟩) n0 c0, .slice (some ⟨g1, 0, none⟩) n0 k1] 35)) := ⟨hide (balloc (Below.refl _ _) _), (by simp), (by simp)⟩
  generalize w2.alloc (.cells #[.slice (some ⟨b0, o0, none⟩) n0 c0, .slice (some ⟨g1, 0, none⟩) n0 k1] 35) = wa at *
  obtain ⟨HWA, hq0, hq1⟩ := hL9
  have HBA : Hid (Below w.heap.size w wa) := hide (bnext HB2.out HWA.out)
  have hlr : (natI ord).reverse.length = n0 := by rw [List.length_reverse]; exact hln
  have HIR : Hid (IntsAt wa w.heap.size w2.heap.size (some ⟨g1, 0, none⟩) (natI ord).reverse) := hide (by
    have h := HO2.out
    rw [← hlr] at h
    obtain ⟨a', c', e', hi'⟩ := ints_owned h
    injection e' with e1
    subst e1
    exact hi'.keep HWA.out)
  refine (concat2_any w2.heap.size n0 c0 n0 k1 _ _ (natI ord) (natI ord).reverse L1 B1 w.heap.size w2.heap.size wa (hide (hord.out.keep (HBA.out.mono hB1))) HIR (hide hln.symm) (hide hlr.symm) hn0 hn0 (by omega) (by have := HBA.out.size; omega) HWA.out.size hq0 hq1).mono ?_
  rintro e w3 ⟨v3, rfl, hb3, ho3⟩
  have HB3 : Hid (Below w.heap.size w w3) := hide (bnext HBA.out hb3)
  have eR : natI ord ++ (natI ord).reverse = natI (ord ++ ord.reverse) := by simp [natI]
  rw [eR] at ho3
  have hRl : (ord ++ ord.reverse).length = 2 * n0 := by have := h0.out; simp; omega
  have hRo : Hid (∀ b, b ∈ ord ++ ord.reverse ↔ b ∈ ord) := hide (fun b => by simp)
  generalize ord ++ ord.reverse = R at *
  have hnl : (natI R).length = R.length := by simp [natI]
  obtain ⟨a3, c3, e3, hi3⟩ := ints_owned ho3
  rw [hnl] at e3
  subst e3
  have HI3 := hide hi3
  have HZ3 : Hid (wa.heap.size ≤ w3.heap.size ∧ w.heap.size ≤ wa.heap.size) := hide ⟨hb3.size, HBA.out.size⟩
  clear hb3 ho3 eR hq0 hq1 HIR HWA HO2 HB2 hi3
  have HS3 := hide (HI.out.keep (HB3.out))
  have HT3 := hide (HT.out.keep (HB3.out))
  have hR0 : 0 < R.length := by omega
  have hR1 : R.length ≤ 2000 := by omega
  clear hRl hln hlr hnl
  have HGS : Hid (∀ i, i < n → gs i < w.heap.size) := hide (fun i hi => (HI.out.set i hi).lt)
  go_wp2_with fail
  go_step3
  go_wp2_with fail
  go_loopg [10] (misN I K n) (fun k qv wr => ∃ (q : Nat) (W : Nat → Nat → Nat), qv = .int .i64 q ∧ q < R.length ∧ Hid (FrS w3 wr n gs) ∧ Hid (SetsAv wr G n K gs cp W) ∧ Hid (AllWd W) ∧ Hid (misN W K n ≤ k) ∧ Hid (∀ b x, hasN (I b) x = true → hasN (W b) x = true) ∧ Hid (∀ b x, hasN (W b) x = true → Sp I T (· ∈ ord) (fun b => src.getD b []) b x) ∧ Hid (ClQ T K (fun b => src.getD b []) W R q 0))
  case atStart => exact ⟨0, I, rfl, hR0, hide (FrS.refl _ _ _), HS3, hwI, hide (Nat.le_refl _), hide (fun _ _ h => h), hide (fun _ _ h => Sp.init h), hide clq_none⟩
  case round =>
    obtain ⟨q0, W0, rfl, hq0, HF0, HS0, HW0, HM0, HI0, HSo0, HC0⟩ := hrel
    go_wp2_with fail
    generalize wr = wo at *
    go_loopw [10, 26] (fun qv u wr => ∃ (q p : Nat) (W : Nat → Nat → Nat), qv = .int .i64 q ∧ q < R.length ∧ u = .int .i64 p ∧ p ≤ R.length ∧ Hid (FrS w3 wr n gs) ∧ Hid (SetsAv wr G n K gs cp W) ∧ Hid (AllWd W) ∧ Hid (misN W K n < gk ∨ (misN W K n ≤ gk ∧ q = q0 + p)) ∧ Hid (∀ b x, hasN (I b) x = true → hasN (W b) x = true) ∧ Hid (∀ b x, hasN (W b) x = true → Sp I T (· ∈ ord) (fun b => src.getD b []) b x) ∧ Hid (ClQ T K (fun b => src.getD b []) W R q p)) (fun _ u _ => R.length - (intOf u).toNat)
    case atStart => exact ⟨q0, 0, W0, rfl, hq0, rfl, Nat.zero_le _, HF0, HS0, HW0, hide (Or.inr ⟨HM0.out, by omega⟩), HI0, HSo0, HC0⟩
    case round =>
      obtain ⟨q, p, W, rfl, hq, rfl, hp, HF, HS, HW, HM, HIm, HSo, HC⟩ := hrel
      by_cases hlt : p < R.length
      · obtain ⟨br, or_, rfl, hbr, er3⟩ := HI3.out p (by simpa [natI] using hlt)
        have HFW : Hid (FrS w wr n gs) := hide ⟨HF.out.os.trans HB3.out.os, HF.out.tape.trans HB3.out.tape, HF.out.output.trans HB3.out.output, Nat.le_trans HB3.out.size HF.out.size, fun k h1 h2 => (HF.out.block k (Nat.lt_of_lt_of_le h1 HB3.out.size) h2).trans (HB3.out.block k h1)⟩
        have er := (cell_of (HF.out.block br hbr.2 (fun i hi e => by have := HGS.out i hi; have := HZ3.out; omega))).trans er3
        have hRp : (natI R)[p]'(by simpa [natI] using hlt) = ((R[p] : Nat) : Int) := by simp [natI]
        rw [hRp] at er
        have hbn : R[p] < n := ho.out _ ((hRo.out _).1 (List.getElem_mem hlt))
        have hbo : Hid (R[p] ∈ ord) := hide ((hRo.out _).1 (List.getElem_mem hlt))
        have hbs : R[p] < src.length := by have := hns.out; omega
        obtain ⟨bs, os, hsa, hbs2, as', cs', es, his⟩ := hsrc.out R[p] (by simpa using hbs)
        subst hsa
        have esr := (cell_of (HFW.out.block bs hbs2.2 hbs2.1)).trans es
        have hsl : ((src.map natI)[R[p]]'(by simpa using hbs)).length = src[R[p]].length := by simp [natI]
        rw [hsl] at esr
        have HSL := hide (hsr.out src[R[p]] (List.getElem_mem hbs))
        have hls := HSL.out.1
        have HGD : Hid (src.getD R[p] [] = src[R[p]]) := hide (by simp [hbs])
        have HCN : Hid (∀ W', (∀ i x, x < 64 * K → hasN (W' i) x = hasN (W i) x) → ClB T K (fun b => src.getD b []) W R[p] → ClQ T K (fun b => src.getD b []) W' R (q + 1) (p + 1)) := hide (fun W' e hb => clq_next HC.out e hlt hb)
        have hbsn : R[p] < ns := by have := hs.out; omega
        have HISw : Hid (IntsP w (fun k => ∀ i, i < n → k ≠ gs i) as' (natI src[R[p]])) := hide (by simpa using his)
        clear er3 es his hRp hsl
        generalize hbb : R[p] = b at *
        clear hbb
        generalize src[b] = sl at *
        go_wp2_with fail
        generalize wr = wo2 at *
        go_loopw [13, 35] (fun gv u wq => ∃ r : Nat, r ≤ sl.length ∧ u = .int .i64 r ∧ gv = .bool (takesN T K b (sl.take r) (W, false)).2 ∧ Hid (FrS w3 wq n gs) ∧ Hid (SetsAv wq G n K gs cp (takesN T K b (sl.take r) (W, false)).1)) (fun _ u _ => sl.length - (intOf u).toNat)
        case atStart => exact ⟨0, Nat.zero_le _, rfl, rfl, HF, HS⟩
        case round =>
          obtain ⟨r, hr, rfl, rfl, HFq, HSq⟩ := hrel
          by_cases hlr : r < sl.length
          · have HFW2 : Hid (FrS w wr n gs) := hide ⟨HFq.out.os.trans HB3.out.os, HFq.out.tape.trans HB3.out.tape, HFq.out.output.trans HB3.out.output, Nat.le_trans HB3.out.size HFq.out.size, fun k h1 h2 => (HFq.out.block k (Nat.lt_of_lt_of_le h1 HB3.out.size) h2).trans (HB3.out.block k h1)⟩
            obtain ⟨b5, o5, rfl, hb5, e5w⟩ := HISw.out r (by simpa [natI] using hlr)
            have e5 := (cell_of (HFW2.out.block b5 hb5.2 hb5.1)).trans e5w
            have hsr5 : (natI sl)[r]'(by simpa [natI] using hlr) = ((sl[r] : Nat) : Int) := by simp [natI]
            rw [hsr5] at e5
            have hsn : sl[r] < n := HSL.out.2 _ (List.getElem_mem hlr)
            have HTQ := hide (HT3.out.apart HFq.out d3.out d4.out)
            have HTK := hide (takes_take (T := T) (K := K) (b := b) hlr (W, false))
            have HWq := hide (takes_wd (T := T) (K := K) (b := b) (sl.take r) (W, false) HW.out)
            clear e5w hsr5
            generalize sl[r] = s at *
            generalize takesN T K b (sl.take r) (W, false) = sq at *
            obtain ⟨Wq, gq⟩ := sq
            dsimp only at *
            have k1 := HSq.out.row.cell hbn
            have k2 := HSq.out.row.cell hsn
            have k3 := HTQ.out.row.cell hbn
            have HAB := hide (addBut_valueNo (gs b) (gs s) (gs2 b) K (cp b) (cp s) (cp2 b) (Wq b) (Wq s) (T b) wr.drew (hide (HWq.out b)) (hide (HWq.out s)) (hide (hwT.out b)) (by omega) (hide ((HSq.out.set b hbn).drew)) (hide ((HSq.out.set s hsn).drew)) (hide ((HTQ.out.set b hbn).drew)) (d4.out b b hbn hbn) (hide (fun e => by rw [HSq.out.inj s b hsn hbn e])))
            have HSD : Hid (SetsAv wr.drew G n K gs cp Wq) := hide ⟨HSq.out.row, fun i hi => (HSq.out.set i hi).drew, HSq.out.inj, HSq.out.out⟩
            have HFD : Hid (FrS w3 wr.drew n gs) := hide ⟨HFq.out.os, HFq.out.tape, HFq.out.output, HFq.out.size, HFq.out.block⟩
            have HLL : Hid (G < wr.heap.size ∧ G2 < wr.heap.size) := hide ⟨HSq.out.row.lt, HTQ.out.row.lt⟩
            generalize grewN (Wq b) (Wq s) (T b) K = g5 at *
            go_wp2_with fail
            refine wp_region_held_drew (S := (fun w' => w'.cell? ⟨G, b, none⟩ = some (.slice (some ⟨gs b, 0, none⟩) K (cp b)) ∧ w'.cell? ⟨G, s, none⟩ = some (.slice (some ⟨gs s, 0, none⟩) K (cp s)) ∧ w'.cell? ⟨G2, b, none⟩ = some (.slice (some ⟨gs2 b, 0, none⟩) K (cp2 b)))) (by kernel_rfl) (by (try dsimp only); go_keep) (fun hHeld => ?_)
            refine wpAnyH_take (i := 0) (v := ?_) rfl (by kernel_rfl) (by kernel_rfl) (by kernel_rfl) (fun _ _ _ h => h) (Or.inl ⟨by rfl, ?_⟩) (by assumption) ?_
            rotate_left
            · intro w hSw; (try dsimp only at hSw); go_simp; try with_reducible rfl
            simp only [Act.put, List.getElem_toArray, List.getElem_cons_zero, List.setIfInBounds_toArray, List.set_cons_zero, List.set_cons_succ]
            refine wpAnyH_take (i := 1) (v := ?_) rfl (by kernel_rfl) (by kernel_rfl) (by kernel_rfl) (fun _ _ _ h => h) (Or.inl ⟨by rfl, ?_⟩) (by assumption) ?_
            rotate_left
            · intro w hSw; (try dsimp only at hSw); go_simp; try with_reducible rfl
            simp only [Act.put, List.getElem_toArray, List.getElem_cons_zero, List.getElem_cons_succ, List.setIfInBounds_toArray, List.set_cons_zero, List.set_cons_succ]
            refine wpAnyH_take (i := 2) (v := ?_) rfl (by kernel_rfl) (by kernel_rfl) (by kernel_rfl) (fun _ _ _ h => h) (Or.inl ⟨by rfl, ?_⟩) (by assumption) ?_
            rotate_left
            · intro w hSw; (try dsimp only at hSw); go_simp; try with_reducible rfl
            simp only [Act.put, List.getElem_toArray, List.getElem_cons_zero, List.getElem_cons_succ, List.setIfInBounds_toArray, List.set_cons_zero, List.set_cons_succ]
            refine wpAnyH_take (i := 3) (v := ?_) rfl (by kernel_rfl) (by kernel_rfl) (by kernel_rfl) (fun _ _ _ h => h) (Or.inl ⟨by rfl, ?_⟩) (by assumption) ?_
            rotate_left
            · intro w hSw; (try dsimp only at hSw); go_simp; try with_reducible rfl
            simp only [Act.put, List.getElem_toArray, List.getElem_cons_zero, List.getElem_cons_succ, List.setIfInBounds_toArray, List.set_cons_zero, List.set_cons_succ]
            refine wpAnyH_take (i := 4) (v := ?_) rfl (by kernel_rfl) (by kernel_rfl) (by kernel_rfl) (fun _ _ _ h => h) (Or.inl ⟨by rfl, ?_⟩) (by assumption) ?_
            rotate_left
            · intro w hSw; (try dsimp only at hSw); go_simp; try with_reducible rfl
            simp only [Act.put, List.getElem_toArray, List.getElem_cons_zero, List.getElem_cons_succ, List.setIfInBounds_toArray, List.set_cons_zero, List.set_cons_succ]
            refine wpAnyH_take (i := 5) (v := ?_) rfl (by kernel_rfl) (by kernel_rfl) (by kernel_rfl) (fun _ _ _ h => h) (Or.inl ⟨by rfl, ?_⟩) (by assumption) ?_
            rotate_left
            · intro w hSw; (try dsimp only at hSw); go_simp; try with_reducible rfl
            simp only [Act.put, List.getElem_toArray, List.getElem_cons_zero, List.getElem_cons_succ, List.setIfInBounds_toArray, List.set_cons_zero, List.set_cons_succ]
            refine wpAnyH_take (i := 6) (v := ?_) rfl (by kernel_rfl) (by kernel_rfl) (by kernel_rfl) (fun _ _ _ h => h) (Or.inl ⟨by rfl, ?_⟩) (by assumption) ?_
            rotate_left
            · intro w hSw; (try dsimp only at hSw); go_simp; try with_reducible rfl
            simp only [Act.put, List.getElem_toArray, List.getElem_cons_zero, List.getElem_cons_succ, List.setIfInBounds_toArray, List.set_cons_zero, List.set_cons_succ]
            refine wpAnyH_take (i := 7) (v := ?_) rfl (by kernel_rfl) (by kernel_rfl) (by kernel_rfl) (fun _ _ _ h => h) (Or.inl ⟨by rfl, ?_⟩) (by assumption) ?_
            rotate_left
            · intro w hSw; (try dsimp only at hSw); go_simp; try with_reducible rfl
            simp only [Act.put, List.getElem_toArray, List.getElem_cons_zero, List.getElem_cons_succ, List.setIfInBounds_toArray, List.set_cons_zero, List.set_cons_succ]
            refine wpAnyH_take (i := 8) (v := ?_) rfl (by kernel_rfl) (by kernel_rfl) (by kernel_rfl) (fun _ _ _ h => h) (Or.inl ⟨by rfl, ?_⟩) (by assumption) ?_
            rotate_left
            · intro w hSw; (try dsimp only at hSw); go_simp; try with_reducible rfl
            simp only [Act.put, List.getElem_toArray, List.getElem_cons_zero, List.getElem_cons_succ, List.setIfInBounds_toArray, List.set_cons_zero, List.set_cons_succ]
            refine wpAnyH_take (i := 9) (v := ?_) rfl (by kernel_rfl) (by kernel_rfl) (by kernel_rfl) (fun _ _ _ h => h) (Or.inl ⟨by rfl, ?_⟩) (by assumption) ?_
            rotate_left
            · intro w hSw; (try dsimp only at hSw); go_simp; try with_reducible rfl
            simp only [Act.put, List.getElem_toArray, List.getElem_cons_zero, List.getElem_cons_succ, List.setIfInBounds_toArray, List.set_cons_zero, List.set_cons_succ]
            refine wpAnyH_take (i := 10) (v := ?_) rfl (by kernel_rfl) (by kernel_rfl) (by kernel_rfl) (fun _ _ _ h => h) (Or.inl ⟨by rfl, ?_⟩) (by assumption) ?_
            rotate_left
            · intro w hSw; (try dsimp only at hSw); go_simp; try with_reducible rfl
            simp only [Act.put, List.getElem_toArray, List.getElem_cons_zero, List.getElem_cons_succ, List.setIfInBounds_toArray, List.set_cons_zero, List.set_cons_succ]
            refine wpAnyH_take (i := 11) (v := ?_) rfl (by kernel_rfl) (by kernel_rfl) (by kernel_rfl) (fun _ _ _ h => h) (Or.inl ⟨by rfl, ?_⟩) (by assumption) ?_
            rotate_left
            · intro w hSw; (try dsimp only at hSw); go_simp; try with_reducible rfl
            simp only [Act.put, List.getElem_toArray, List.getElem_cons_zero, List.getElem_cons_succ, List.setIfInBounds_toArray, List.set_cons_zero, List.set_cons_succ]
            refine wpAnyH_ready (rs := [12]) (by kernel_rfl) (by simp) ?_
            refine AllReadyH.cons rfl (fun K hK => ?_) AllReadyH.nil
            go_simp
            go_at_call 48
            refine HAB.out.mono ?_
            rintro e w5 ⟨rfl, hg5, hr5⟩
            have HS5 := hide (HSD.out.wrote hbn hg5 hr5)
            have HF5 := hide (HFD.out.grown hg5 hbn)
            have j1 := (cell_of (hg5.block G HLL.out.1 (fun e => HSq.out.out b hbn (by injection e with e; exact e.symm)))).trans k1
            have j2 := (cell_of (hg5.block G HLL.out.1 (fun e => HSq.out.out b hbn (by injection e with e; exact e.symm)))).trans k2
            have j3 := (cell_of (hg5.block G2 HLL.out.2 (fun e => d3.out b hbn (by injection e)))).trans k3
            clear hg5 hr5 HAB
            refine hK.out _ _ ⟨j1, j2, j3⟩ (fun hHeld => ?_)
            clear hK
            try simp only [Act.put, List.getElem_toArray, List.getElem_cons_zero, List.getElem_cons_succ, List.setIfInBounds_toArray, List.set_cons_zero, List.set_cons_succ]
            refine wpAnyH_take (i := 13) (v := ?_) rfl (by kernel_rfl) (by kernel_rfl) (by kernel_rfl) (fun _ _ _ h => h) (Or.inl ⟨by rfl, ?_⟩) (by assumption) ?_
            rotate_left
            · intro w hSw; (try dsimp only at hSw); go_simp; try with_reducible rfl
            simp only [Act.put, List.getElem_toArray, List.getElem_cons_zero, List.getElem_cons_succ, List.setIfInBounds_toArray, List.set_cons_zero, List.set_cons_succ]
            cases g5
            focus
              refine wpAnyH_take (i := 14) (v := ?_) rfl (by kernel_rfl) (by kernel_rfl) (by kernel_rfl) (fun _ _ _ h => h) (Or.inl ⟨by rfl, ?_⟩) (by assumption) ?_
              rotate_left
              · intro w hSw; (try dsimp only at hSw); go_simp; try with_reducible rfl
            rotate_left
            focus
              refine wpAnyH_take (i := 14) (v := undef) rfl (by kernel_rfl) (by kernel_rfl) (by kernel_rfl) (fun _ _ _ h => h) (Or.inr ⟨by rfl, rfl⟩) (by assumption) ?_
            all_goals (
              simp only [Act.put, List.getElem_toArray, List.getElem_cons_zero, List.getElem_cons_succ, List.setIfInBounds_toArray, List.set_cons_zero, List.set_cons_succ]
              refine wpAnyH_take (i := 15) (v := ?_) rfl (by kernel_rfl) (by kernel_rfl) (by kernel_rfl) (fun _ _ _ h => h) (Or.inl ⟨by rfl, ?_⟩) (by assumption) ?_
              rotate_left
              · intro w hSw; (try dsimp only at hSw); go_simp; try with_reducible rfl
              simp only [Act.put, List.getElem_toArray, List.getElem_cons_zero, List.getElem_cons_succ, List.setIfInBounds_toArray, List.set_cons_zero, List.set_cons_succ]
              refine wpAnyH_take (i := 16) (v := ?_) rfl (by kernel_rfl) (by kernel_rfl) (by kernel_rfl) (fun _ _ _ h => h) (Or.inl ⟨by rfl, ?_⟩) (by assumption) ?_
              rotate_left
              · intro w hSw; (try dsimp only at hSw); go_simp; try with_reducible rfl
              simp only [Act.put, List.getElem_toArray, List.getElem_cons_zero, List.getElem_cons_succ, List.setIfInBounds_toArray, List.set_cons_zero, List.set_cons_succ]
              refine wpAnyH_done (by kernel_rfl) ?_ _
              go_wp2_with fail
              exact ⟨⟨r + 1, by omega, by go_num, by rw [HTK.out]; rfl, hide HF5.out, hide (by rw [HTK.out]; exact HS5.out)⟩, by simp [intOf]; omega⟩)
          · have hre : r = sl.length := by omega
            have HTE : Hid (sl.take r = sl) := hide (List.take_of_length_le (by omega))
            rw [HTE.out] at HSq ⊢
            clear hre
            have HW2 := hide (takes_wd (T := T) (K := K) (b := b) sl (W, false) HW.out)
            have HMo := hide (takes_mono (T := T) (K := K) (b := b) hwT.out sl (W, false) HW.out)
            have HSd := hide (takes_sound (I := I) (T := T) (K := K) (b := b) (ord := (· ∈ ord)) (src := fun b => src.getD b []) hwT.out hbo.out sl (W, false) HW.out (fun t ht => by show t ∈ src.getD b []; rw [HGD.out]; exact ht) HSo.out)
            have HQu := hide (takes_quiet (T := T) (K := K) (b := b) hwT.out sl (W, false) HW.out)
            have HGw := hide (takes_grew (T := T) (K := K) (b := b) hwT.out sl (W, false) HW.out rfl)
            have HOt := hide (fun i (hi : i ≠ b) => takes_other (T := T) (K := K) hi sl (W, false))
            generalize takesN T K b sl (W, false) = sq at *
            obtain ⟨W2, g2'⟩ := sq
            dsimp only at *
            have HIm2 : Hid (∀ b x, hasN (I b) x = true → hasN (W2 b) x = true) := hide (fun b x h => HMo.out b x (HIm.out b x h))
            cases g2' with
            | true =>
              have HML := hide (mis_less (K := K) HOt.out (HGw.out rfl) n hbn)
              go_wp2_with fail
              exact ⟨⟨0, p + 1, W2, rfl, hR0, by go_num, by omega, HFq, HSq, HW2, hide (Or.inl (by have := HML.out; rcases HM.out with h | h <;> omega)), HIm2, HSd, hide clq_none⟩, by simp [intOf]; omega⟩
            | false =>
              obtain ⟨hsame, hcl⟩ := HQu.out rfl
              have HCQ : Hid (ClQ T K (fun b => src.getD b []) W2 R (q + 1) (p + 1)) := hide (HCN.out W2 hsame (fun t ht x hx => by have ht' : t ∈ src.getD b [] := ht; rw [HGD.out] at ht'; exact hcl t ht' x hx))
              have HMS : Hid (misN W2 K n = misN W K n) := hide (mis_same n (fun i _ => unseen_congr _ (fun x hx => hsame i x hx)))
              clear hsame hcl
              by_cases hqe : q + 1 = R.length
              · have hqb : (((q : Int) + 1) == (R.length : Int)) = true := by simp; omega
                have HCA : Hid (ClQ T K (fun b => src.getD b []) W2 R R.length (p + 1)) := hide (by rw [← hqe]; exact HCQ.out)
                clear hqe
                go_wp2_with fail
                go_end0
                refine ⟨rfl, ⟨HFq.out.os.trans HB3.out.os, HFq.out.tape.trans HB3.out.tape, HFq.out.output.trans HB3.out.output, Nat.le_trans HB3.out.size HFq.out.size, fun k h1 h2 => (HFq.out.block k (Nat.lt_of_lt_of_le h1 HB3.out.size) h2).trans (HB3.out.block k h1)⟩, W2, HW2.out, HSq.out, fun b _ x hx => ?_⟩
                exact spread_done HIm2.out HSd.out (fun b hb t ht x hx h1 h2 => clq_all HCA.out (by omega) ((hRo.out b).2 hb) t ht x hx h1 h2) b x hx
              · have hqb : (((q : Int) + 1) == (R.length : Int)) = false := by simp; omega
                go_wp2_with fail
                exact ⟨⟨q + 1, p + 1, W2, by go_num, by omega, by go_num, by omega, HFq, HSq, HW2, hide (by rw [HMS.out]; rcases HM.out with h | ⟨h, h'⟩; exact Or.inl h; exact Or.inr ⟨h, by omega⟩), HIm2, HSd, HCQ⟩, by simp [intOf]; omega⟩
      · have hpe : p = R.length := by omega
        subst hpe
        go_wp2_with fail
        go_roundg (misN W K n)
        case measure => rcases HM.out with h | ⟨_, h⟩; exact h; omega
        case rel => exact ⟨q, W, rfl, hq, HF, HS, HW, hide (Nat.le_refl _), HIm, HSo, hide (clq_wrap HC.out hq)⟩
end Go.Proofs.YtanaeindldcapaaDoor
