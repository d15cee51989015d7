import Derived.Test.YtdcdgopblbmgoaaDoorR4a
import Derived.Test.YtdcdgopblbmgoaaDoorR4c
import Derived.Test.YtdcdgopblbmgoaaDoorR2
import Derived.Test.YtdcdgopblbmgoaaDoorR1
import Derived.Deep.RegionHeld3
namespace Go.Proofs.YtdcdgopblbmgoaaDoor
open Go.RowKit

theorem exec_any (x : Ins) (gv nv cv : Nat) (aa : Option Addr) (na ca : Nat) (code value steps : Int) (ta : Option Addr) (nt ct : Nat) (gh ch : Nat) (w : World) (args vals hp tr : List Int) (B L A : Nat)
    (hm : Hid (RunMem w B gv gh 2 (.slice ta nt ct) vals hp tr)) (hB : B ≤ w.heap.size) (hnv : Hid (nv = vals.length)) (hh : Hid (hp.length = 32)) (ha : Hid (IntsAt w L A aa args)) (hx : Hid (na = args.length)) (hAB : A ≤ w.heap.size) (hnt : nt ≤ 1000000)
    (ok : insOk nv 10 x = true) (hd : x.op = 6 → getN vals x.b ≠ 0) :
    Calls Tryd.prog 70 #[.agg #[.int .i64 x.op, .int .i64 x.dst, .int .i64 x.a, .int .i64 x.b, .int .i64 x.imm], .slice (some ⟨gv, 0, none⟩) nv cv, .slice aa na ca, .agg #[.int .i64 code, .int .i64 value, .int .i64 steps, .slice ta nt ct, .slice (some ⟨gh, 0, none⟩) 32 ch]] w
      (ExecPost gv nv cv code value steps gh ch B (execV x args vals hp) (execH x vals hp) (execT x vals tr) w) := by
  obtain ⟨⟨o1, o2⟩, fd, fa, fb, fi⟩ := ins_facts ok
  obtain ⟨op, dst, a, b, imm⟩ := x
  dsimp only at *
  have hc : op = 1 ∨ op = 2 ∨ (3 ≤ op ∧ op ≤ 7) ∨ op = 8 ∨ op = 9 ∨ op = 10 := by omega
  rcases hc with rfl | rfl | ⟨c1, c2⟩ | rfl | rfl | rfl
  · obtain ⟨d0, d1⟩ := fd (by decide)
    exact exec1 _ _ _ _ _ _ _ _ _ _ _ _ _ _ _ _ _ _ _ _ _ _ _ hm hB hnv d0 d1
  · obtain ⟨d0, d1⟩ := fd (by decide)
    obtain ⟨i0, i1⟩ := fi rfl
    exact exec2 _ _ _ _ _ _ _ _ _ _ _ _ _ _ _ _ _ _ _ _ _ _ _ hm hB hnv d0 d1 args L A ha hx hAB i0 (by omega)
  · obtain ⟨d0, d1⟩ := fd (by simp [dB]; omega)
    obtain ⟨a0, a1⟩ := fa (by simp [aB]; omega)
    obtain ⟨b0, b1⟩ := fb (by simp [bB]; omega)
    have e1 : execV ⟨op, dst, a, b, imm⟩ args vals hp = setN vals dst (arithR op (getN vals a) (getN vals b)) := by
      unfold execV
      simp only
      rw [if_neg (by omega), if_neg (by omega), if_neg (by omega), if_neg (by omega), if_neg (by omega)]
    have e2 : execH ⟨op, dst, a, b, imm⟩ vals hp = hp := if_neg (by dsimp only; omega)
    have e3 : execT ⟨op, dst, a, b, imm⟩ vals tr = tr := if_neg (by dsimp only; omega)
    rw [e1, e2, e3]
    exact exec37 _ _ _ _ _ _ _ _ _ _ _ _ _ _ _ _ _ _ _ _ _ _ _ _ hm hB hnv d0 d1 a0 a1 b0 b1 c1 c2 hd
  · obtain ⟨d0, d1⟩ := fd (by decide)
    obtain ⟨a0, a1⟩ := fa (by decide)
    exact exec8 _ _ _ _ _ _ _ _ _ _ _ _ _ _ _ _ _ _ _ _ _ _ _ hm hB hnv d0 d1 a0 a1 hh
  · obtain ⟨a0, a1⟩ := fa (by decide)
    obtain ⟨b0, b1⟩ := fb (by decide)
    exact exec9 _ _ _ _ _ _ _ _ _ _ _ _ _ _ _ _ _ _ _ _ _ _ _ hm hB hnv a0 a1 b0 b1 hh
  · obtain ⟨a0, a1⟩ := fa (by decide)
    exact exec10 _ _ _ _ _ _ _ _ _ _ _ _ _ _ _ _ _ _ _ _ _ _ _ hm hB hnv a0 a1 hnt
end Go.Proofs.YtdcdgopblbmgoaaDoor

namespace Go.Proofs.YtdcdgopblbmgoaaDoor
open Go.RowKit

set_option maxHeartbeats 2000000 in
set_option maxRecDepth 100000 in
theorem enter_any (v : Int) (a : Option Addr) (n c : Nat) (p : Int) (t : Nat) (gv nv cv : Nat) (xs : List Blk) (vals : List Int) (L B : Nat) (w : World)
    (ha : Hid (BlksAt w L B a xs)) (hx : Hid (n = xs.length)) (hn : n ≤ 1048576) (hB : B ≤ w.heap.size) (ht : t < n) (hv : Hid (IntsW w gv vals)) (hnv : Hid (nv = vals.length)) (hnv2 : nv ≤ 2000)
    (X : Blk) (hX : Hid (∀ h : t < xs.length, xs[t] = X)) (hpn : X.phis.length ≤ 1048576) (hok : Hid (∀ i (h : i < X.phis.length), phOkI nv (predsFrom xs 0 (t : Int)).length X.phis[i] = true)) :
    Calls Tryd.prog 71 #[.agg #[.int .i64 v, .slice a n c], .int .i64 p, .int .i64 t, .slice (some ⟨gv, 0, none⟩) nv cv] w
      fun e w' => ∃ g c', e = .returned (.slice (some ⟨g, 0, none⟩) nv c') ∧ Below w.heap.size w w' ∧ w.heap.size ≤ g ∧ IntsW w' g (entTo (predsFrom xs 0 (t : Int)) p X.phis vals) := by
  obtain ⟨i0, hi0, hz0, hz1, hz2⟩ := info_parts Tryd.info2'
  have hgv := hv.out.lt
  have hpl : (predsFrom xs 0 (t : Int)).length ≤ 1048576 := by have := predsFrom_len (t : Int) xs 0; have := hx.out; omega
  go_enter Tryd.func71, Tryd.ntmps71
  go_wp2_with (at_builtin; refine wpList_append_own _ rfl _ _ 38 rfl (w.heap.size + 1) 2 i0 (.int .i64 0) 1 8 Tryd.underlying38 hi0 hz0 hz1 hz2 rfl (by decide) _ _ _ rfl (own_empty w _) ⟨gv, 0, none⟩ nv cv (vals.map (Value.int .i64)) rfl ?c0 ?c1 ?c2 ?c3 ?c4 ?c5 ?_)
  case c0 => rw [List.length_map, Nat.mul_one]; exact hnv.out.symm
  case c1 =>
    intro j u hj
    have hjl : j < vals.length := by
      have := (List.getElem?_eq_some_iff.1 hj).1
      simpa using this
    rw [List.getElem?_map, List.getElem?_eq_getElem hjl] at hj
    injection hj with hj
    subst hj
    rw [show (⟨gv, 0, none⟩ : Addr).add j = ⟨gv, j, none⟩ from by unfold Addr.add; split <;> simp_all]
    exact ((balloc (balloc (Below.refl w.heap.size w) _) _).cell (p := ⟨gv, j, none⟩) hgv).trans (hv.out.2 j hjl)
  case c2 =>
    intro u hu
    obtain ⟨y, _, rfl⟩ := List.mem_map.1 hu
    rfl
  case c3 => unfold maxLen; omega
  case c4 => omega
  case c5 => simp
  intro v1 w1 hown1 hgrow1 hne1
  obtain ⟨g, c1, hv1, hg, hi1⟩ := IntsW.of_owned hown1 hne1
  rw [← hnv.out] at hv1
  subst hv1
  have hb1 : Below w.heap.size w w1 := grown_below (balloc (balloc (Below.refl _ _) _) _) hgrow1 (own_empty w _) (by omega) (by simp <;> omega)
  have hbk := grown_block hgrow1 (own_empty w _) (b := w.heap.size) (by omega) (by simp <;> omega)
  have k0 : w1.cell? ⟨w.heap.size, 0, none⟩ = some (.int .i64 v) := (cell_of hbk).trans (by simp [go_sem])
  have k1 : w1.cell? ⟨w.heap.size, 1, none⟩ = some (.slice a n c) := (cell_of hbk).trans (by simp [go_sem])
  have hsz1 : w.heap.size + 1 + 1 ≤ w1.heap.size := by have := hgrow1.size; simpa using this
  have hgl := hi1.lt
  have HI1 := hide hi1
  have HB1 := hide hb1
  have HA1 := hide (ha.out.keep (hb1.mono hB))
  have HV1 := hide (hv.out.keep (hb1.block gv hgv))
  clear hown1 hgrow1 hne1 hbk hi1 hb1
  have htx : t < xs.length := by have := hx.out; omega
  obtain ⟨b, o, rfl, ⟨_, hbB⟩, hc⟩ := HA1.out t htx
  rw [hX.out htx] at hc
  obtain ⟨pa, pc, ia, ic, e0, _, _, hp, _⟩ := hc
  have HP := hide hp
  have E0 := hide e0
  clear hp e0
  go_wp2_with (go_at_call 52; refine (l1Preds_any v _ n c t xs L B w1 HA1 hx hn (by omega)).mono ?_; rintro e w2 ⟨a2, c2, rfl, hb2, hi2⟩; have HI2 := hide hi2; clear hi2)
  generalize hps : predsFrom xs 0 (t : Int) = ps at *
  have HB2 := hide hb2
  have hsz2 := hb2.size
  clear hb2
  go_loopw [11, 12] (fun i _ wr => ∃ k : Nat, k ≤ X.phis.length ∧ i = .int .i64 k ∧ Hid (Kb w2.heap.size g g w2 wr) ∧ Hid (IntsW wr g (entTo ps p (X.phis.take k) vals))) (fun i _ _ => X.phis.length - (intOf i).toNat)
  case atStart => exact ⟨0, Nat.zero_le _, rfl, Kb.refl _ _ _ _, hide (by have := HI1.out.keep (HB2.out.block g hgl); simpa [entTo] using this)⟩
  case round =>
    obtain ⟨k, hk, rfl, hw, hi⟩ := hrel
    have f1 : wr.cell? ⟨w.heap.size, 1, none⟩ = some (.slice (some ⟨b, o, none⟩) n c) := (hw.out.cell (by omega) (by omega)).trans ((HB2.out.cell (p := ⟨w.heap.size, 1, none⟩) (by show w.heap.size < _; omega)).trans k1)
    have f2 : wr.cell? ⟨b, o + t * 6, none⟩ = some (.slice pa X.phis.length pc) := (hw.out.cell (by omega) (by omega)).trans ((HB2.out.cell (p := ⟨b, o + t * 6, none⟩) (by show b < _; omega)).trans E0.out)
    by_cases hlt : k < X.phis.length
    · obtain ⟨b', o', rfl, ⟨_, hbB'⟩, aa, cc, g0, g1, hargs⟩ := HP.out k hlt
      obtain ⟨⟨d0, d1⟩, hal, hav⟩ := phOk_facts (hok.out k hlt)
      have hnx : Hid (entTo ps p (X.phis.take (k + 1)) vals = entIn ps p X.phis[k] vals ps.length (entTo ps p (X.phis.take k) vals)) := by show _ = _; rw [take_next _ _ hlt, entTo_snoc]
      have hol : (entTo ps p (X.phis.take k) vals).length = vals.length := entTo_len _ _ _ _
      generalize X.phis[k] = PH at *
      generalize entTo ps p (X.phis.take k) vals = O at *
      obtain ⟨dst, args⟩ := PH
      dsimp only at *
      obtain ⟨D, rfl⟩ := Int.eq_ofNat_of_zero_le d0
      have HAR := hide hargs
      have G0 := hide g0
      have G1 := hide g1
      have HAV := hide hav
      have HAL := hide hal
      have HOL := hide hol
      clear hargs g0 g1 hav hal hol
      go_wp2
      go_loopw [12] (fun i wi => ∃ j : Nat, j ≤ ps.length ∧ i = .int .i64 j ∧ Hid (Kb w2.heap.size g g w2 wi) ∧ Hid (IntsW wi g (entIn ps p ⟨D, args⟩ vals j O))) (fun i _ => ps.length - (intOf i).toNat)
      case atStart => exact ⟨0, Nat.zero_le _, rfl, hw, hi⟩
      case round =>
        clear f1 f2 hi hw
        obtain ⟨j, hj, rfl, hw, hi⟩ := hrel
        by_cases hjt : j < ps.length
        · obtain ⟨b2, o2, rfl, ⟨hb2, hb2'⟩, hc2⟩ := HI2.out j hjt
          have q1 := (hw.out.cell (o := o2 + j) hb2' (by omega)).trans hc2
          by_cases hpj : ps[j] = p
          · have hja : j < args.length := by have := HAL.out; omega
            obtain ⟨b3, o3, rfl, ⟨_, hb3⟩, hc3⟩ := HAR.out j hja
            obtain ⟨a0, a1⟩ := HAV.out args[j] (List.getElem_mem hja)
            have hnx2 : Hid (entIn ps p ⟨D, args⟩ vals (j + 1) O = (entIn ps p ⟨D, args⟩ vals j O).set D (getN vals args[j])) := by
              show _ = _
              rw [entIn, if_pos (by simp [hjt, hpj])]
              simp [setN, hja]
            have f1 : wr.cell? ⟨w.heap.size, 1, none⟩ = some (.slice (some ⟨b, o, none⟩) n c) := (hw.out.cell (by omega) (by omega)).trans ((HB2.out.cell (p := ⟨w.heap.size, 1, none⟩) (by show w.heap.size < _; omega)).trans k1)
            have f2 : wr.cell? ⟨b, o + t * 6, none⟩ = some (.slice (some ⟨b', o', none⟩) X.phis.length pc) := (hw.out.cell (by omega) (by omega)).trans ((HB2.out.cell (p := ⟨b, o + t * 6, none⟩) (by show b < _; omega)).trans E0.out)
            have f3 := (hw.out.cell (o := o' + k * 2) (by omega : b' < w2.heap.size) (by omega)).trans ((HB2.out.cell (p := ⟨b', o' + k * 2, none⟩) (by show b' < _; omega)).trans G0.out)
            have f4 := (hw.out.cell (o := o' + k * 2 + 1) (by omega : b' < w2.heap.size) (by omega)).trans ((HB2.out.cell (p := ⟨b', o' + k * 2 + 1, none⟩) (by show b' < _; omega)).trans G1.out)
            have f5 := (hw.out.cell (o := o3 + j) (by omega : b3 < w2.heap.size) (by omega)).trans ((HB2.out.cell (p := ⟨b3, o3 + j, none⟩) (by show b3 < _; omega)).trans hc3)
            generalize args[j] = AJ at *
            obtain ⟨q, rfl⟩ := Int.eq_ofNat_of_zero_le a0
            have hqx : q < vals.length := by have := hnv.out; omega
            have f6 := (hw.out.cell (o := q) (by omega : gv < w2.heap.size) (by omega)).trans ((HB2.out.cell (p := ⟨gv, q, none⟩) (by show gv < _; omega)).trans (HV1.out.2 q hqx))
            have hDx : D < (entIn ps p ⟨D, args⟩ vals j O).length := by rw [entIn_len, HOL.out, ← hnv.out]; omega
            have f7 := hi.out.2 D hDx
            have f8 := hi.out.frozen D
            rw [getN_of _ _ hqx] at hnx2
            have n1 : g ≠ w.heap.size := by omega
            have n2 : g ≠ b := by omega
            have n3 : g ≠ b' := by omega
            have n4 : g ≠ b3 := by omega
            have n5 : g ≠ gv := by omega
            have hpb : (ps[j] == p) = true := by simp [hpj]
            have KF := hw.out.set (b := g) (o := D) (Or.inl rfl) (.int .i64 vals[q])
            have IF := hi.out.set hDx vals[q]
            rw [← hnx2.out] at IF
            have HKF := hide KF
            have HIF := hide IF
            clear KF IF hnx2 hc2 hc3 HAL HAV HAR
            generalize ps[j] = PJ at *
            generalize vals[q] = VQ at *
            generalize (entIn ps p ⟨D, args⟩ vals j O)[D] = OD at *
            go_wp2
            go_region_held3 (fun w' => w'.cell? ⟨w.heap.size, 1, none⟩ = some (.slice (some ⟨b, o, none⟩) n c) ∧ w'.cell? ⟨b, o + t * 6, none⟩ = some (.slice (some ⟨b', o', none⟩) X.phis.length pc) ∧ w'.cell? ⟨b', o' + k * 2, none⟩ = some (.int .i64 D) ∧ w'.cell? ⟨b', o' + k * 2 + 1, none⟩ = some (.slice (some ⟨b3, o3, none⟩) args.length cc) ∧ w'.cell? ⟨b3, o3 + j, none⟩ = some (.int .i64 q) ∧ w'.cell? ⟨gv, q, none⟩ = some (.int .i64 VQ)) (go_keep) (fail)
            go_wp2
            exact ⟨⟨j + 1, by omega, by go_num, HKF.out.drew, HIF.out.keep rfl⟩, by simp [intOf]; omega⟩
          · have hnx2 : Hid (entIn ps p ⟨D, args⟩ vals (j + 1) O = entIn ps p ⟨D, args⟩ vals j O) := by
              show _ = _
              rw [entIn, if_neg (by simp [hjt, hpj])]
            have hpb : (ps[j] == p) = false := by simp [hpj]
            generalize ps[j] = PJ at *
            go_wp2
            exact ⟨⟨j + 1, by omega, by go_num, hw, by rw [hnx2.out]; exact hi⟩, by simp [intOf]; omega⟩
        · have hjl : j = ps.length := by omega
          subst hjl
          go_wp2
          exact ⟨⟨k + 1, by omega, by go_num, hw, by rw [hnx.out]; exact hi⟩, by simp [intOf]; omega⟩
    · have hkl : k = X.phis.length := by omega
      subst hkl
      go_wp2
      go_ret
      have e := List.take_of_length_le (l := X.phis) (i := X.phis.length) (Nat.le_refl _)
      have hi' := hi.out
      rw [e] at hi'
      exact ⟨g, c1, rfl, HB1.out.trans ((HB2.out.mono (by omega)).trans (hw.out.below (by omega) (by omega) (by omega))), by omega, by rw [hps]; exact hi'⟩
end Go.Proofs.YtdcdgopblbmgoaaDoor
