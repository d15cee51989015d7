import Derived.Test.YtdcdgopblbmgoaaDoorM3
import Derived.Test.YtdcdgopblbmgoaaDoorW3
import Derived.Deep.Cut
import Derived.Deep.RegionHeld3
/-
  spec.RunMach of what is not valid.
-/
namespace Go.Proofs.YtdcdgopblbmgoaaDoor
open Go.RowKit

set_option maxHeartbeats 1000000 in
set_option maxRecDepth 100000 in
theorem runMS_bad (v : Int) (a : Option Addr) (n c : Nat) (aa : Option Addr) (na ca : Nat) (hA : Option Addr) (nh ch : Nat) (fuel : Int) (xs : List MBlk) (L B : Nat) (w : World)
    (ha : Hid (MBlksAt w L B a xs)) (hx : Hid (n = xs.length)) (hs : Hid (xs.length + mTot xs ≤ 1048576)) (hB : B ≤ w.heap.size) (bad : validM v xs = false ∨ runOk na nh fuel = false) :
    Calls Tryd.prog 46 #[.agg #[.int .i64 v, .slice a n c], .slice aa na ca, .slice hA nh ch, .int .i64 fuel] w
      fun e w' => ∃ val, e = .returned val ∧ Below w.heap.size w w' ∧ OutAt w' w.heap.size w'.heap.size val ⟨4, 0, 0, [], []⟩ := by
  have HA := fun x y => hide (ha.out.keep ((balloc (balloc (Below.refl w.heap.size w) x) y).mono hB))
  cases hvd : validM v xs
  · clear bad
    go_enter Tryd.func46, Tryd.ntmps46
    go_wp2_with (go_at_call 39; refine (validMachS_any v a n c xs L B _ (HA _ _) hx hs (by simp; omega)).mono ?_; rintro e w1 ⟨rfl, hb1⟩; rw [hvd]; have HB1 := hide (bnext (balloc (balloc (Below.refl w.heap.size w) _) _) hb1); obtain ⟨-, ⟨r0, r1, r2, r3, r4⟩, rz⟩ := boxes (hb1.mono (by simp)); clear hb1)
    exact bodyPost_ret (v := .agg #[.int .i64 4, .int .i64 0, .int .i64 0, .slice none 0 0, .slice none 0 0]) (by simp [results, Tryd.results46, go_sem, r0, r1, r2, r3, r4]) rfl ⟨_, rfl, (((((HB1.out.setCell (by show w.heap.size ≤ w.heap.size + 1; omega) _).setCell (by show w.heap.size ≤ w.heap.size + 1; omega) _).setCell (by show w.heap.size ≤ w.heap.size + 1; omega) _).setCell (by show w.heap.size ≤ w.heap.size + 1; omega) _).setCell (by show w.heap.size ≤ w.heap.size + 1; omega) _), none, 0, 0, none, 0, 0, rfl, rfl, rfl, IntsAt.nil _ _ _ _, IntsAt.nil _ _ _ _⟩
  · rw [hvd] at bad
    have hro : runOk na nh fuel = false := by simpa using bad
    clear bad
    go_enter Tryd.func46, Tryd.ntmps46
    go_wp2_with (first | (go_at_call 39; refine (validMachS_any v a n c xs L B _ (HA _ _) hx hs (by simp; omega)).mono ?_; rintro e w1 ⟨rfl, hb1⟩; rw [hvd]; have HB1 := hide (bnext (balloc (balloc (Below.refl w.heap.size w) _) _) hb1); obtain ⟨-, ⟨r0, r1, r2, r3, r4⟩, rz⟩ := boxes (hb1.mono (by simp)); clear hb1) | (go_at_call 68; refine (l1BadRun_any _ _ _ _ _ _ _ _).mono ?_; rintro e w2 ⟨rfl, rfl⟩; rw [hro]; simp only [Bool.not_false]))
    exact bodyPost_ret (v := .agg #[.int .i64 4, .int .i64 0, .int .i64 0, .slice none 0 0, .slice none 0 0]) (by simp [results, Tryd.results46, go_sem, r0, r1, r2, r3, r4]) rfl ⟨_, rfl, (((((HB1.out.setCell (by show w.heap.size ≤ w.heap.size + 1; omega) _).setCell (by show w.heap.size ≤ w.heap.size + 1; omega) _).setCell (by show w.heap.size ≤ w.heap.size + 1; omega) _).setCell (by show w.heap.size ≤ w.heap.size + 1; omega) _).setCell (by show w.heap.size ≤ w.heap.size + 1; omega) _), none, 0, 0, none, 0, 0, rfl, rfl, rfl, IntsAt.nil _ _ _ _, IntsAt.nil _ _ _ _⟩
end Go.Proofs.YtdcdgopblbmgoaaDoor

/-
  spec.RunMach of what is valid.
-/
namespace Go.Proofs.YtdcdgopblbmgoaaDoor
open Go.RowKit

theorem RunMem.ntM {w : World} {B gv gh t : Nat} {ta : Option Addr} {nt ct : Nat} {vals hp tr : List Int} (h : RunMem w B gv gh t (.slice ta nt ct) vals hp tr) : nt = tr.length := by
  obtain ⟨_, ⟨h1, h2⟩ | ⟨_, _, _, h1, _⟩⟩ := h.own
  · have := (Value.slice.inj h1).2.1; omega
  · exact (Value.slice.inj h1).2.1
theorem letterM {P : World → Prop} (W0 : World) (h : ∀ W, W = W0 → P W) : P W0 := h W0 rfl

set_option maxHeartbeats 4000000 in
set_option maxRecDepth 100000 in
theorem runMS_good (m : Nat) (a : Option Addr) (n c : Nat) (aa : Option Addr) (na ca : Nat) (hA : Option Addr) (nh ch0 : Nat) (fuel : Nat) (xs : List MBlk) (args heap : List Int) (L B : Nat) (w : World)
    (ha : Hid (MBlksAt w L B a xs)) (hx : Hid (n = xs.length)) (hs : Hid (xs.length + mTot xs ≤ 1048576)) (hB : B ≤ w.heap.size) (hargs : Hid (IntsAt w L B aa args)) (hna : Hid (na = args.length)) (hheap : Hid (IntsAt w L B hA heap)) (hnh : Hid (nh = heap.length))
    (good : validM m xs = true) (ok : runOk na nh fuel = true) (hm2 : m ≤ 64) (hn1 : 1 ≤ n) (hn2 : n ≤ 3000) (hf : fuel ≤ 60000) :
    Calls Tryd.prog 46 #[.agg #[.int .i64 m, .slice a n c], .slice aa na ca, .slice hA nh ch0, .int .i64 fuel] w
      fun e w' => ∃ val, e = .returned val ∧ Below w.heap.size w w' ∧ OutAt w' w.heap.size w'.heap.size val (runM xs args fuel 0 (startM m heap)) := by
  have HA := fun x y => hide (ha.out.keep ((balloc (balloc (Below.refl w.heap.size w) x) y).mono hB))
  have GV := hide good
  clear good
  have hmk := run_make_row' (P := Tryd.prog) 38 2 (.int .i64 0) 8 Tryd.underlying38 Tryd.info2 rfl .i64 .i64 m (by omega) (by omega)
  generalize hR0 : runM xs args fuel 0 (startM m heap) = R0
  go_enter Tryd.func46, Tryd.ntmps46
  go_wp2_with (first | (go_at_call 39; refine (validMachS_any m a n c xs L B _ (HA _ _) hx hs (by simp; omega)).mono ?_; rintro e w1 ⟨rfl, hb1⟩; rw [GV.out]; have HB1 := hide (bnext (balloc (balloc (Below.refl w.heap.size w) _) _) hb1); obtain ⟨FB1, RB1⟩ := boxes (hb1.mono (by simp)); have HFB := hide FB1; have HRB := hide RB1; have z1 := FB1.1; have hs1 := hb1.size; simp at hs1; clear FB1 RB1 hb1) | (go_at_call 68; refine (l1BadRun_any _ _ _ _ _ _ _ _).mono ?_; rintro e w2 ⟨rfl, rfl⟩; rw [ok]; simp only [Bool.not_true]) | (go_at_call 69; refine (l1Heap_any _ _ _ heap L B _ (hide (hheap.out.keep (HB1.out.mono hB))) hnh (by omega)).mono ?_; rintro e w2 ⟨gh, ch, rfl, hb2, hgh, hi2⟩; have HB2 := hide hb2; have HI2 := hide hi2; have hs2 := hb2.size; have hgl := hi2.lt; have z2 := fun x => ((balloc (Below.refl w2.heap.size w2) x).cell (p := ⟨w.heap.size, 0, none⟩) (by show w.heap.size < _; omega)).trans ((hb2.cell (p := ⟨w.heap.size, 0, none⟩) (by show w.heap.size < _; omega)).trans z1); clear hb2 hi2))
  have hob : w.heap.size + 1 < w2.heap.size := by omega
  have hghl : w.heap.size + 1 < gh := by omega
  have HS : ∀ t, InvM xs args fuel R0 w a n c m w2.heap.size gh ch (w2.heap.size + 1 + 1) (startM m heap) 0 (w2.heap.size + 1) none 0 0 ((w2.alloc (.cells #[.int .i64 3, .int .i64 0, .int .i64 0, .slice none 0 0, .slice (some ⟨gh, 0, none⟩) 32 ch] t)).alloc (.cells (madeCells #[.int .i64 0] m) 2)) := fun t => by
    have hrow := World.rowIs_made (w2.alloc (.cells #[.int .i64 3, .int .i64 0, .int .i64 0, .slice none 0 0, .slice (some ⟨gh, 0, none⟩) 32 ch] t)) (.int .i64 0) m 2
    rw [World.size_alloc] at hrow
    refine ⟨balloc (balloc (bnext HB1.out HB2.out) _) _, HFB.out.keep ((balloc (balloc HB2.out _) _).block _ (by omega)), hob, hghl, hgl, by omega, HRB.out.keep ((balloc (balloc HB2.out _) _).block _ (by omega)), ⟨⟨by simp [go_sem], by simp [go_sem], by simp [go_sem], by simp [go_sem], by simp [go_sem]⟩, fun o => by simp [go_sem]⟩,
      ⟨IntsW.of_row hrow (by simp [startM]) (fun i hi => by simp [startM]), HI2.out.keep ((balloc (balloc (Below.refl w2.heap.size w2) _) _).block _ hgl), World.ownsRow_nil _ _ _ _, by omega, by simp [Value.ownBlock], by simp [Value.ownBlock]⟩, by simp, by omega, by show 0 < n; omega, by simp [startM], by simp [startM, heapR], Nat.le_refl _, Nat.zero_le _, by rw [Nat.sub_zero]; exact hR0⟩
  generalize hOB : w2.heap.size = ob at *
  go_loopw [10, 11, 12, 13] (fun uv us ub ua wr => ∃ (s : MS) (k gv cv : Nat) (ta : Option Addr) (nt ct : Nat), uv = .slice (some ⟨gv, 0, none⟩) m cv ∧ us = .int .i64 s.sc ∧ ub = .int .i64 s.b ∧ ua = .int .i64 s.pc ∧ Hid (InvM xs args fuel R0 w a n c m ob gh ch (ob + 1 + 1) s k gv ta nt ct wr)) (fun _ _ _ _ wr => fuel - (intOf ((wr.cell? ⟨ob, 2, none⟩).getD undef)).toNat)
  case atStart => exact ⟨startM m heap, 0, _, _, _, _, _, rfl, rfl, rfl, rfl, HS _⟩
  case round =>
    clear HS hmk z1 z2 HFB HRB HI2 HB2 HB1 hs1 hs2 hgh hOB
    obtain ⟨s, k, gv, cv, ta, nt, ct, rfl, rfl, rfl, rfl, hinv⟩ := hrel
    obtain ⟨⟨y0, y1, y2, y3, y4⟩, yz⟩ := hinv.out.obx
    obtain ⟨⟨r0, r1, r2, r3, r4⟩, rz⟩ := hinv.out.rb
    obtain ⟨f0, f1⟩ := hinv.out.fb
    have hkf := hinv.out.kf
    have hsb := hinv.out.sb
    have hgvl := hinv.out.gvl
    have hbts := hinv.out.bts
    have hB0 : B ≤ wr.heap.size := by have := hinv.out.below.size; omega
    have n1 : w.heap.size + 1 ≠ ob := by omega
    have n2 : ob ≠ w.heap.size + 1 := by omega
    have n3 : w.heap.size ≠ ob := by omega
    have n4 : ob ≠ w.heap.size := by omega
    by_cases hk : k < fuel
    · have hsx : s.b < xs.length := by have := hx.out; omega
      have hobl : ob < wr.heap.size := by omega
      obtain ⟨b, o, rfl, ⟨_, hbB⟩, hc⟩ := ha.out s.b hsx
      have hws := hinv.out.below.size
      have BO := mOk_of GV.out s.b hsx
      have hrun := hinv.out.run
      rw [runM_stop _ _ hk] at hrun
      have hX : xs[s.b] = mblk xs s.b := (mblk_at xs s.b hsx).symm
      have hil : (mblk xs s.b).instrs.length ≤ 1048576 := by rw [← hX]; have := mTot_le (List.getElem_mem hsx); have := hs.out; omega
      rw [hX] at hc
      obtain ⟨ia, ic, e1, ⟨t0, t1, t2, t3⟩, hi⟩ := hc.keep (hinv.out.below.mono hB) hbB
      have g1 := sc1 (ob := ob) f1 n3
      have E1 := sc1 (ob := ob) e1 (by omega)
      have T0 := sc1 (ob := ob) t0 (by omega)
      have T1 := sc1 (ob := ob) t1 (by omega)
      have T2 := sc1 (ob := ob) t2 (by omega)
      have T3 := sc1 (ob := ob) t3 (by omega)
      by_cases hpc : s.pc < (mblk xs s.b).instrs.length
      · obtain ⟨b3, o3, rfl, ⟨_, hb3⟩, i0, i1, i2, i3, i4⟩ := hi s.pc hpc
        have hok := BO.ins s.pc hpc
        have I0 := sc2 (ob := ob) i0 (by omega) (by omega)
        have I1 := sc2 (ob := ob) i1 (by omega) (by omega)
        have I2 := sc2 (ob := ob) i2 (by omega) (by omega)
        have I3 := sc2 (ob := ob) i3 (by omega) (by omega)
        have I4 := sc2 (ob := ob) i4 (by omega) (by omega)
        rw [stepM, dif_pos hpc] at hrun
        clear BO hX t0 t1 t2 t3 e1 i0 i1 i2 i3 i4 hi hc
        have OX := fun q x y => ob3 hinv.out.obx hobl q x y
        have KX := fun q x y => kb3 (wr := wr) (ob := ob) q x y
        have KR := fun q x y => kr3 (wr := wr) (ob := ob) (w.heap.size + 1) q x y
        have SZ : ∀ v x y, (((wr.setCell ⟨ob, 2, none⟩ v).alloc x).alloc y).heap.size = wr.heap.size + 1 + 1 := fun v x y => by simp
        generalize mblk xs s.b = X at *
        generalize X.instrs[s.pc] = xi at *
        obtain ⟨op, dst, xa, xb, imm⟩ := xi
        dsimp only at *
        have hgvs := hinv.out.mem.vals.lt
        have hvl := hinv.out.vl
        go_upto_region 14 with fail
        refine letterM (P := Code.wp _ _ _ _) _ ?_
        intro W hW
        have hOW : OB W ob 3 0 (k + 1 : Nat) ta nt ct gh ch := by rw [hW]; exact OX _ _ _
        have hKW : Kb wr.heap.size ob ob wr W := by rw [hW]; exact KX _ _ _
        have hKR : Kb wr.heap.size (w.heap.size + 1) ob wr W := by rw [hW]; exact KR _ _ _
        have hSW : W.heap.size = wr.heap.size + 1 + 1 := by rw [hW]; exact SZ _ _ _
        have x0 : W.cell? ⟨wr.heap.size + 1, 0, none⟩ = some (.int .i64 op) := by rw [hW]; simp [go_sem]
        have x1 : W.cell? ⟨wr.heap.size + 1, 1, none⟩ = some (.int .i64 dst) := by rw [hW]; simp [go_sem]
        have x2 : W.cell? ⟨wr.heap.size + 1, 2, none⟩ = some (.int .i64 xa) := by rw [hW]; simp [go_sem]
        have x3 : W.cell? ⟨wr.heap.size + 1, 3, none⟩ = some (.int .i64 xb) := by rw [hW]; simp [go_sem]
        have x4 : W.cell? ⟨wr.heap.size + 1, 4, none⟩ = some (.int .i64 imm) := by rw [hW]; simp [go_sem]
        clear hW OX KX KR SZ y0 y1 y2 y3 y4 yz r0 r1 r2 r3 r4 rz f0 f1 g1 E1 T0 T1 T2 T3 I0 I1 I2 I3 I4
        have HOW := hide hOW
        obtain ⟨⟨y0, y1, y2, y3, y4⟩, yz⟩ := hOW
        obtain ⟨⟨r0, r1, r2, r3, r4⟩, rz⟩ := hinv.out.rb.keep (hKW.far (b := w.heap.size + 1) (by omega) n1)
        have HV := hide (hinv.out.mem.vals.keep (hKW.far hgvs (by omega)))
        have hmem := hinv.out.mem
        have HMW : Hid (RunMem W (ob + 1 + 1) gv gh 2 (.slice ta nt ct) s.regs s.hp s.tr) := hide ⟨HV.out, hmem.heap.keep (hKW.far hmem.heap.lt (by omega)), own_keep hmem.own (fun q e => hKW.far (hmem.own.lt _ e).2 (by have := (hmem.own.lt _ e).1; omega)), hmem.ne, hmem.tvals, hmem.theap⟩
        clear hmem
        have htl := hinv.out.tl
        have hobv : ob ≠ gv := by omega
        by_cases h11 : op = 11
        · subst h11
          obtain ⟨-, fd, fa, -⟩ := insM_facts hok
          obtain ⟨d0, d1⟩ := fd (by show dB 11 = true; decide)
          obtain ⟨a0, a1⟩ := fa (by show aB 11 = true; decide)
          obtain ⟨D, rfl⟩ := Int.eq_ofNat_of_zero_le d0
          obtain ⟨A, rfl⟩ := Int.eq_ofNat_of_zero_le a0
          have hDx : D < s.regs.length := by dsimp only at d1; omega
          have hAx : A < s.regs.length := by dsimp only at a1; omega
          simp only [insM, if_pos] at hrun
          have e1 : setN s.regs (D : Int) (getN s.regs (A : Int)) = s.regs.set D s.regs[A] := by rw [getN_of _ _ hAx]; simp [setN]
          rw [e1] at hrun
          have VD := HV.out.2 D hDx
          have VZ := HV.out.frozen D
          have VA := HV.out.2 A hAx
          have HN : Hid (InvM xs args fuel R0 w (some ⟨b, o, none⟩) n c m ob gh ch (ob + 1 + 1) ⟨s.b, s.pc + 1, s.regs.set D s.regs[A], s.sc, s.hp, s.tr⟩ (k + 1) gv ta nt ct (W.setCell ⟨gv, D, none⟩ (.int .i64 s.regs[A])).drew) := hide (hinv.out.step (s' := ⟨s.b, s.pc + 1, s.regs.set D s.regs[A], s.sc, s.hp, s.tr⟩) (w3 := W.setCell ⟨gv, D, none⟩ (.int .i64 s.regs[A])) hk hKW ((Kb.refl _ _ _ W).set (Or.inl rfl) _) (HMW.out.setV hDx _) (HOW.out.keep (Below.heap_setCell _ _ _ _ hobv)) hsb (by rw [List.length_set]; exact hvl) hinv.out.hl (by omega) hrun).drew
          have HC1 := hide HN.out.obx.1.2.2.1
          have nW1 : wr.heap.size + 1 ≠ gv := by omega
          have nW2 : gv ≠ wr.heap.size + 1 := by omega
          have cs : (W.setCell ⟨gv, D, none⟩ (.int .i64 s.regs[A])).cell? ⟨gv, A, none⟩ = some (.int .i64 s.regs[A]) := by
            by_cases e : A = D
            · subst e
              exact World.cell?_setCell_same' _ _ _ (by simp [VD])
            · exact (World.cell?_setCell_other _ _ _ _ (by intro e2; injection e2 with _ e3; omega)).trans VA
          generalize s.regs.set D s.regs[A] = RG at *
          generalize s.regs[A] = VK at *
          generalize s.regs[D] = VL at *
          clear hrun e1
          go_wp2
          go_region_held3 (fun w' => w'.cell? ⟨wr.heap.size + 1, 1, none⟩ = some (.int .i64 D) ∧ w'.cell? ⟨wr.heap.size + 1, 2, none⟩ = some (.int .i64 A) ∧ w'.cell? ⟨gv, A, none⟩ = some (.int .i64 VK)) (go_keep) (fail)
          go_wp2
          exact ⟨⟨⟨s.b, s.pc + 1, RG, s.sc, s.hp, s.tr⟩, k + 1, gv, cv, ta, nt, ct, rfl, rfl, rfl, by go_num, HN⟩, by rw [HC1.out, hinv.out.obx.1.2.2.1]; simp [intOf]; omega⟩
        by_cases h12 : op = 12
        · subst h12
          obtain ⟨-, -, fa, -⟩ := insM_facts hok
          obtain ⟨a0, a1⟩ := fa (by show aB 12 = true; decide)
          obtain ⟨A, rfl⟩ := Int.eq_ofNat_of_zero_le a0
          have hAx : A < s.regs.length := by dsimp only at a1; omega
          simp only [insM] at hrun
          rw [if_neg (by decide), if_pos (by decide), getN_of _ _ hAx] at hrun
          dsimp only at hrun
          have VA := HV.out.2 A hAx
          have HN : Hid (InvM xs args fuel R0 w (some ⟨b, o, none⟩) n c m ob gh ch (ob + 1 + 1) ⟨s.b, s.pc + 1, s.regs, s.regs[A], s.hp, s.tr⟩ (k + 1) gv ta nt ct W) := hide (hinv.out.step hk hKW (Kb.refl _ _ _ W) HMW.out HOW.out hsb hvl hinv.out.hl (by omega) hrun)
          have HC1 := hide HN.out.obx.1.2.2.1
          generalize s.regs[A] = VK at *
          clear hrun
          go_wp2
          exact ⟨⟨⟨s.b, s.pc + 1, s.regs, VK, s.hp, s.tr⟩, k + 1, gv, cv, ta, nt, ct, rfl, rfl, rfl, by go_num, HN⟩, by rw [HC1.out, hinv.out.obx.1.2.2.1]; simp [intOf]; omega⟩
        by_cases h13 : op = 13
        · subst h13
          obtain ⟨-, fd, -, -⟩ := insM_facts hok
          obtain ⟨d0, d1⟩ := fd (by show dB 13 = true; decide)
          obtain ⟨D, rfl⟩ := Int.eq_ofNat_of_zero_le d0
          have hDx : D < s.regs.length := by dsimp only at d1; omega
          simp only [insM] at hrun
          rw [if_neg (by decide), if_neg (by decide), if_pos (by decide), show setN s.regs (D : Int) s.sc = s.regs.set D s.sc by simp [setN]] at hrun
          dsimp only at hrun
          have VD := HV.out.2 D hDx
          have VZ := HV.out.frozen D
          have HN : Hid (InvM xs args fuel R0 w (some ⟨b, o, none⟩) n c m ob gh ch (ob + 1 + 1) ⟨s.b, s.pc + 1, s.regs.set D s.sc, s.sc, s.hp, s.tr⟩ (k + 1) gv ta nt ct (W.setCell ⟨gv, D, none⟩ (.int .i64 s.sc))) := hide (hinv.out.step hk hKW ((Kb.refl _ _ _ W).set (Or.inl rfl) _) (HMW.out.setV hDx _) (HOW.out.keep (Below.heap_setCell _ _ _ _ hobv)) hsb (by rw [List.length_set]; exact hvl) hinv.out.hl (by omega) hrun)
          have HC1 := hide HN.out.obx.1.2.2.1
          generalize s.regs.set D s.sc = RG at *
          generalize s.regs[D] = VL at *
          clear hrun
          go_wp2
          exact ⟨⟨⟨s.b, s.pc + 1, RG, s.sc, s.hp, s.tr⟩, k + 1, gv, cv, ta, nt, ct, rfl, rfl, rfl, by go_num, HN⟩, by rw [HC1.out, hinv.out.obx.1.2.2.1]; simp [intOf]; omega⟩
        have hok0 := insOk_low hok h11 h12 h13
        have g11 : (op == 11) = false := by simp [h11]
        have g12 : (op == 12) = false := by simp [h12]
        have g13 : (op == 13) = false := by simp [h13]
        simp only [insM] at hrun
        rw [if_neg h11, if_neg h12, if_neg h13] at hrun
        clear h11 h12 h13
        by_cases htr : op = 6 ∧ getN s.regs xb = 0
        · rw [if_pos htr] at hrun
          dsimp only at hrun
          subst hrun
          obtain ⟨rfl, hz⟩ := htr
          obtain ⟨b0, b1⟩ := (ins_facts hok0).2.2.2.1 (by show bB 6 = true; decide)
          obtain ⟨kb, rfl⟩ := Int.eq_ofNat_of_zero_le b0
          have hbx : kb < s.regs.length := by dsimp only at b1; omega
          rw [getN_of _ _ hbx] at hz
          have VB := HV.out.2 kb hbx
          rw [hz] at VB
          have HG := hide (hinv.out.give ((hKR.set (o := 0) (Or.inr rfl) (.int .i64 2)).five (.int .i64 2) (.int .i64 0) (.int .i64 (k + 1 : Nat)) (.slice ta nt ct) (.slice (some ⟨gh, 0, none⟩) 32 ch)) 2 0 (k + 1))
          rw [show ((k + 1 : Nat) : Int) = (k : Int) + 1 from rfl] at HG
          go_wp2
          exact bodyPost_ret (v := .agg #[.int .i64 2, .int .i64 0, .int .i64 (k + 1), .slice ta nt ct, .slice (some ⟨gh, 0, none⟩) 32 ch]) (by simp [results, Tryd.results46, go_sem, r0, r1, r2, r3, r4]) rfl ⟨_, rfl, HG.out⟩
        · rw [if_neg htr] at hrun
          dsimp only at hrun
          have HRUN := hide hrun
          have HAW := hide (hargs.out.keep ((hinv.out.below.mono hB).trans (hKW.below hB0 (by omega) (by omega))))
          have hc0 := (exec_any ⟨op, dst, xa, xb, imm⟩ gv m cv aa na ca 3 0 (k + 1) ta nt ct gh ch W args s.regs s.hp s.tr (ob + 1 + 1) L B HMW (by omega) (hide hvl.symm) (hide hinv.out.hl) HAW hna (by omega) (by omega) hok0 (fun e h => htr ⟨e, h⟩))
          dsimp only at hc0
          have HC := hide hc0
          have hnt0 := hide hinv.out.mem.ntM
          clear hrun hc0
          have hcs : (op = 6 ∧ getN s.regs xb ≠ 0) ∨ (op == 6) = false := by
            by_cases e : op = 6
            · exact Or.inl ⟨e, fun h => htr ⟨e, h⟩⟩
            · exact Or.inr (by simp [e])
          have z1 := y0
          rcases hcs with ⟨rfl, hz⟩ | h6
          · obtain ⟨b0, b1⟩ := (ins_facts hok0).2.2.2.1 (by show bB 6 = true; decide)
            obtain ⟨kb, rfl⟩ := Int.eq_ofNat_of_zero_le b0
            have hbx : kb < s.regs.length := by dsimp only at b1; omega
            have VB := HV.out.2 kb hbx
            rw [getN_of _ _ hbx] at hz
            have hzb : (s.regs[kb] == 0) = false := by simp [hz]
            generalize s.regs[kb] = VK at *
            go_wp2_with (go_at_call 70; refine HC.out.mono ?_; rintro e w3 ⟨ta', nt', ct', rfl, hK, hM⟩; obtain ⟨⟨p0, p1, p2, p3, p4⟩, pz⟩ := HOW.out.keep (hK.block ob (by omega) (by omega) (by omega)); have HK := hide hK; have HM := hide hM; clear hK hM)
            have hnt1 := HM.out.ntM
            have htl2 := execT_len ⟨6, dst, xa, kb, imm⟩ s.regs s.tr
            have HN := hinv.out.next (s' := ⟨s.b, s.pc + 1, execV ⟨6, dst, xa, kb, imm⟩ args s.regs s.hp, s.sc, execH ⟨6, dst, xa, kb, imm⟩ s.regs s.hp, execT ⟨6, dst, xa, kb, imm⟩ s.regs s.tr⟩) hk hKW HK.out HM.out HOW.out hsb (by show (execV ⟨6, dst, xa, kb, imm⟩ args s.regs s.hp).length = m; rw [execV_len]; exact hvl) (by show (execH ⟨6, dst, xa, kb, imm⟩ s.regs s.hp).length = 32; rw [execH_len]; exact hinv.out.hl) (by have := hnt0.out; omega) HRUN.out
            have c1 := HN.obx.1.2.2.1
            rw [show ((k + 1 : Nat) : Int) = (k : Int) + 1 from rfl] at HN c1
            exact ⟨⟨⟨s.b, s.pc + 1, _, s.sc, _, _⟩, k + 1, gv, cv, ta', nt', ct', rfl, rfl, rfl, by go_num, HN⟩, by rw [c1, hinv.out.obx.1.2.2.1]; simp [intOf]; omega⟩
          · go_wp2_with (go_at_call 70; refine HC.out.mono ?_; rintro e w3 ⟨ta', nt', ct', rfl, hK, hM⟩; obtain ⟨⟨p0, p1, p2, p3, p4⟩, pz⟩ := HOW.out.keep (hK.block ob (by omega) (by omega) (by omega)); have HK := hide hK; have HM := hide hM; clear hK hM)
            have hnt1 := HM.out.ntM
            have htl2 := execT_len ⟨op, dst, xa, xb, imm⟩ s.regs s.tr
            have HN := hinv.out.next (s' := ⟨s.b, s.pc + 1, execV ⟨op, dst, xa, xb, imm⟩ args s.regs s.hp, s.sc, execH ⟨op, dst, xa, xb, imm⟩ s.regs s.hp, execT ⟨op, dst, xa, xb, imm⟩ s.regs s.tr⟩) hk hKW HK.out HM.out HOW.out hsb (by show (execV ⟨op, dst, xa, xb, imm⟩ args s.regs s.hp).length = m; rw [execV_len]; exact hvl) (by show (execH ⟨op, dst, xa, xb, imm⟩ s.regs s.hp).length = 32; rw [execH_len]; exact hinv.out.hl) (by have := hnt0.out; omega) HRUN.out
            have c1 := HN.obx.1.2.2.1
            rw [show ((k + 1 : Nat) : Int) = (k : Int) + 1 from rfl] at HN c1
            exact ⟨⟨⟨s.b, s.pc + 1, _, s.sc, _, _⟩, k + 1, gv, cv, ta', nt', ct', rfl, rfl, rfl, by go_num, HN⟩, by rw [c1, hinv.out.obx.1.2.2.1]; simp [intOf]; omega⟩
      · rw [stepM, dif_neg hpc] at hrun
        have hkd := termM_kind BO
        have hta : (mblk xs s.b).term.kind ≠ 1 → 0 ≤ (mblk xs s.b).term.a ∧ (mblk xs s.b).term.a < m := fun h => termM_a BO h
        have hgo : (mblk xs s.b).term.kind ≠ 3 → 0 ≤ goM (mblk xs s.b) s.regs ∧ goM (mblk xs s.b) s.regs < xs.length := fun h => goM_ok BO h s.regs
        have hgd : goM (mblk xs s.b) s.regs = if (mblk xs s.b).term.kind = 2 ∧ getN s.regs (mblk xs s.b).term.a = 0 then (mblk xs s.b).term.els else (mblk xs s.b).term.to := rfl
        generalize hG : goM (mblk xs s.b) s.regs = G at *
        clear hG BO hX t0 t1 t2 t3 e1 hi hc
        generalize hil2 : (mblk xs s.b).instrs.length = il at *
        generalize (mblk xs s.b).term.kind = kd at *
        generalize (mblk xs s.b).term.a = xa at *
        generalize (mblk xs s.b).term.to = xto at *
        generalize (mblk xs s.b).term.els = xel at *
        have OX := fun q x => ob2 hinv.out.obx hobl q x
        have KX := fun q x => kb2 (wr := wr) (ob := ob) q x
        have KR := fun q x => kr2 (wr := wr) (ob := ob) (w.heap.size + 1) q x
        have SZ : ∀ v x, ((wr.setCell ⟨ob, 2, none⟩ v).alloc x).heap.size = wr.heap.size + 1 := fun v x => by simp
        have hgvs := hinv.out.mem.vals.lt
        have hvl := hinv.out.vl
        have HRUN := hide hrun
        have HGO := hide hgo
        have HTA := hide hta
        have HGD := hide hgd
        clear hrun hgo hta hgd hil2
        go_upto_region 24 with fail
        refine letterM (P := Code.wp _ _ _ _) _ ?_
        intro W hW
        have hOW : OB W ob 3 0 (k + 1 : Nat) ta nt ct gh ch := by rw [hW]; exact OX _ _
        have hKW : Kb wr.heap.size ob ob wr W := by rw [hW]; exact KX _ _
        have hKR : Kb wr.heap.size (w.heap.size + 1) ob wr W := by rw [hW]; exact KR _ _
        have hSW : W.heap.size = wr.heap.size + 1 := by rw [hW]; exact SZ _ _
        have x0 : W.cell? ⟨wr.heap.size, 1, none⟩ = some (.int .i64 kd) := by rw [hW]; simp [go_sem]
        have x1 : W.cell? ⟨wr.heap.size, 2, none⟩ = some (.int .i64 xa) := by rw [hW]; simp [go_sem]
        have x2 : W.cell? ⟨wr.heap.size, 3, none⟩ = some (.int .i64 xto) := by rw [hW]; simp [go_sem]
        have x3 : W.cell? ⟨wr.heap.size, 4, none⟩ = some (.int .i64 xel) := by rw [hW]; simp [go_sem]
        clear hW OX KX KR SZ y0 y1 y2 y3 y4 yz r0 r1 r2 r3 r4 rz f0 f1 g1 E1 T0 T1 T2 T3
        have HOW := hide hOW
        obtain ⟨⟨y0, y1, y2, y3, y4⟩, yz⟩ := hOW
        obtain ⟨⟨r0, r1, r2, r3, r4⟩, rz⟩ := hinv.out.rb.keep (hKW.far (b := w.heap.size + 1) (by omega) n1)
        have HV := hide (hinv.out.mem.vals.keep (hKW.far hgvs (by omega)))
        by_cases hret : kd = 3
        · subst hret
          obtain ⟨a0, a1⟩ := HTA.out (by decide)
          obtain ⟨ka, rfl⟩ := Int.eq_ofNat_of_zero_le a0
          have hax : ka < s.regs.length := by omega
          have VA := HV.out.2 ka hax
          have hr := HRUN.out
          rw [if_pos rfl] at hr
          dsimp only at hr
          rw [getN_of _ _ hax] at hr
          generalize s.regs[ka] = VK at *
          subst hr
          have HG := hide (hinv.out.give (((hKR.set (o := 0) (Or.inr rfl) (.int .i64 1)).set (o := 1) (Or.inr rfl) (.int .i64 VK)).five (.int .i64 1) (.int .i64 VK) (.int .i64 (k + 1 : Nat)) (.slice ta nt ct) (.slice (some ⟨gh, 0, none⟩) 32 ch)) 1 VK (k + 1))
          rw [show ((k + 1 : Nat) : Int) = (k : Int) + 1 from rfl] at HG
          go_wp2
          exact bodyPost_ret (v := .agg #[.int .i64 1, .int .i64 VK, .int .i64 (k + 1), .slice ta nt ct, .slice (some ⟨gh, 0, none⟩) 32 ch]) (by simp [results, Tryd.results46, go_sem, r0, r1, r2, r3, r4]) rfl ⟨_, rfl, HG.out⟩
        · obtain ⟨g0, g1⟩ := HGO.out hret
          obtain ⟨t, rfl⟩ := Int.eq_ofNat_of_zero_le (show 0 ≤ G by omega)
          have hr := HRUN.out
          rw [if_neg hret, Int.toNat_natCast] at hr
          dsimp only at hr
          have htx : t < xs.length := by omega
          have hmem := hinv.out.mem
          have HMW : Hid (RunMem W (ob + 1 + 1) gv gh 2 (.slice ta nt ct) s.regs s.hp s.tr) := hide ⟨HV.out, hmem.heap.keep (hKW.far hmem.heap.lt (by omega)), own_keep hmem.own (fun q e => hKW.far (hmem.own.lt _ e).2 (by have := (hmem.own.lt _ e).1; omega)), hmem.ne, hmem.tvals, hmem.theap⟩
          have htl := hinv.out.tl
          clear hmem
          have HRN := hide hr
          obtain ⟨f0, f1⟩ := hinv.out.fb.keep (hKW.far (b := w.heap.size) (by omega) n3)
          have htn : t < n := by have := hx.out; omega
          have HN : Hid (InvM xs args fuel R0 w (some ⟨b, o, none⟩) n c m ob gh ch (ob + 1 + 1) ⟨t, 0, s.regs, s.sc, s.hp, s.tr⟩ (k + 1) gv ta nt ct W) := hide (hinv.out.step hk hKW (Kb.refl _ _ _ W) HMW.out HOW.out htn hvl hinv.out.hl (by omega) hr)
          have HC1 := hide HN.out.obx.1.2.2.1
          clear hr HRUN HGO
          have hkc : (kd = 1 ∧ xto = t) ∨ (kd = 2 ∧ getN s.regs xa = 0 ∧ xel = t) ∨ (kd = 2 ∧ getN s.regs xa ≠ 0 ∧ xto = t) := by
            have h := HGD.out
            split at h
            · rename_i e; exact Or.inr (Or.inl ⟨e.1, e.2, h.symm⟩)
            · rename_i e
              by_cases e2 : kd = 2
              · exact Or.inr (Or.inr ⟨e2, fun h => e ⟨e2, h⟩, h.symm⟩)
              · exact Or.inl ⟨by omega, h.symm⟩
          clear HGD
          rcases hkc with ⟨rfl, rfl⟩ | ⟨rfl, hz, rfl⟩ | ⟨rfl, hz, rfl⟩
          · go_wp2
            exact ⟨⟨⟨t, 0, s.regs, s.sc, s.hp, s.tr⟩, k + 1, gv, cv, ta, nt, ct, rfl, rfl, rfl, rfl, HN⟩, by rw [HC1.out, hinv.out.obx.1.2.2.1]; simp [intOf]; omega⟩
          · obtain ⟨a0, a1⟩ := HTA.out (by decide)
            obtain ⟨ka, rfl⟩ := Int.eq_ofNat_of_zero_le a0
            have hax : ka < s.regs.length := by omega
            have VA := HV.out.2 ka hax
            rw [getN_of _ _ hax] at hz
            rw [hz] at VA
            go_wp2
            exact ⟨⟨⟨t, 0, s.regs, s.sc, s.hp, s.tr⟩, k + 1, gv, cv, ta, nt, ct, rfl, rfl, rfl, rfl, HN⟩, by rw [HC1.out, hinv.out.obx.1.2.2.1]; simp [intOf]; omega⟩
          · obtain ⟨a0, a1⟩ := HTA.out (by decide)
            obtain ⟨ka, rfl⟩ := Int.eq_ofNat_of_zero_le a0
            have hax : ka < s.regs.length := by omega
            have VA := HV.out.2 ka hax
            rw [getN_of _ _ hax] at hz
            have hzb : (s.regs[ka] == 0) = false := by simp [hz]
            generalize s.regs[ka] = VK at *
            go_wp2
            exact ⟨⟨⟨t, 0, s.regs, s.sc, s.hp, s.tr⟩, k + 1, gv, cv, ta, nt, ct, rfl, rfl, rfl, rfl, HN⟩, by rw [HC1.out, hinv.out.obx.1.2.2.1]; simp [intOf]; omega⟩
    · have hkeq : k = fuel := by omega
      subst hkeq
      have hR : R0 = ⟨3, 0, k, s.tr, s.hp⟩ := by have := hinv.out.run; rw [Nat.sub_self] at this; exact this.symm
      subst hR
      have HG := hide (hinv.out.give (((((((Kb.refl wr.heap.size (w.heap.size + 1) ob wr).set (o := 0) (Or.inl rfl) (.int .i64 3)).set (o := 1) (Or.inl rfl) (.int .i64 0)).set (o := 2) (Or.inl rfl) (.int .i64 k)).set (o := 3) (Or.inl rfl) (.slice ta nt ct)).set (o := 4) (Or.inl rfl) (.slice (some ⟨gh, 0, none⟩) 32 ch))) 3 0 k)
      go_wp2
      exact bodyPost_ret (v := .agg #[.int .i64 3, .int .i64 0, .int .i64 k, .slice ta nt ct, .slice (some ⟨gh, 0, none⟩) 32 ch]) (by simp [results, Tryd.results46, go_sem, r0, r1, r2, r3, r4]) rfl ⟨_, rfl, HG.out⟩
end Go.Proofs.YtdcdgopblbmgoaaDoor
