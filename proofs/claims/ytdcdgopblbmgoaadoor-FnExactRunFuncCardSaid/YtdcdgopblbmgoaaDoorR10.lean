import Derived.Test.YtdcdgopblbmgoaaDoorR7
import Derived.Deep.Cut
import Derived.Test.YtdcdgopblbmgoaaDoorRunS
import Derived.Test.YtdcdgopblbmgoaaDoorW7
namespace Go.Proofs.YtdcdgopblbmgoaaDoor
open Go.RowKit

theorem RunMem.nt {w : World} {B gv gh t : Nat} {ta : Option Addr} {nt ct : Nat} {vals hp tr : List Int} (h : RunMem w B gv gh t (.slice ta nt ct) vals hp tr) : nt = tr.length := by
  obtain ⟨_, ⟨h1, h2⟩ | ⟨_, _, _, h1, _⟩⟩ := h.own
  · have := (Value.slice.inj h1).2.1; omega
  · exact (Value.slice.inj h1).2.1
theorem letter {P : World → Prop} (W0 : World) (h : ∀ W, W = W0 → P W) : P W0 := h W0 rfl

set_option maxHeartbeats 4000000 in
set_option maxRecDepth 100000 in
theorem runS_good (m : Nat) (a : Option Addr) (n c : Nat) (aa : Option Addr) (na ca : Nat) (hA : Option Addr) (nh ch0 : Nat) (fuel : Nat) (xs : List Blk) (args heap : List Int) (L B : Nat) (w : World)
    (ha : Hid (BlksAt w L B a xs)) (hx : Hid (n = xs.length)) (hs : Hid (xs.length + blksTot xs ≤ 1048576)) (hB : B ≤ w.heap.size) (hargs : Hid (IntsAt w L B aa args)) (hna : Hid (na = args.length)) (hheap : Hid (IntsAt w L B hA heap)) (hnh : Hid (nh = heap.length))
    (good : validS ⟨m, xs⟩ = true) (ok : runOk na nh fuel = true) (hm2 : m ≤ 2000) (hn1 : 1 ≤ n) (hn2 : n ≤ 1000) (hf : fuel ≤ 60000) :
    Calls Tryd.prog 21 #[.agg #[.int .i64 m, .slice a n c], .slice aa na ca, .slice hA nh ch0, .int .i64 fuel] w
      fun e w' => ∃ val, e = .returned val ∧ Below w.heap.size w w' ∧ OutAt w' w.heap.size w'.heap.size val (runR ⟨m, xs⟩ args fuel 0 (startR ⟨m, xs⟩ heap)) := by
  have HA := fun x y => hide (ha.out.keep ((balloc (balloc (Below.refl w.heap.size w) x) y).mono hB))
  have GV := hide good
  clear good
  have hmk := run_make_row' (P := Tryd.prog) 38 2 (.int .i64 0) 8 Tryd.underlying38 Tryd.info2 rfl .i64 .i64 m (by omega) (by omega)
  generalize hR0 : runR ⟨m, xs⟩ args fuel 0 (startR ⟨m, xs⟩ heap) = R0
  go_enter Tryd.func21, Tryd.ntmps21
  go_wp2_with (first | (go_at_call 11; refine (validFuncS_any m a n c xs L B _ (HA _ _) hx hs (by simp; omega)).mono ?_; rintro e w1 ⟨rfl, hb1⟩; rw [GV.out]; have HB1 := hide (bnext (balloc (balloc (Below.refl w.heap.size w) _) _) hb1); obtain ⟨FB1, RB1⟩ := boxes (hb1.mono (by simp)); have HFB := hide FB1; have HRB := hide RB1; have z1 := FB1.1; have hs1 := hb1.size; simp at hs1; clear FB1 RB1 hb1) | (go_at_call 68; refine (l1BadRun_any _ _ _ _ _ _ _ _).mono ?_; rintro e w2 ⟨rfl, rfl⟩; rw [ok]; simp only [Bool.not_true]) | (go_at_call 69; refine (l1Heap_any _ _ _ heap L B _ (hide (hheap.out.keep (HB1.out.mono hB))) hnh (by omega)).mono ?_; rintro e w2 ⟨gh, ch, rfl, hb2, hgh, hi2⟩; have HB2 := hide hb2; have HI2 := hide hi2; have hs2 := hb2.size; have hgl := hi2.lt; have z2 := fun x => ((balloc (Below.refl w2.heap.size w2) x).cell (p := ⟨w.heap.size, 0, none⟩) (by show w.heap.size < _; omega)).trans ((hb2.cell (p := ⟨w.heap.size, 0, none⟩) (by show w.heap.size < _; omega)).trans z1); clear hb2 hi2))
  have hob : w.heap.size + 1 < w2.heap.size := by omega
  have hghl : w.heap.size + 1 < gh := by omega
  have HS : ∀ t, Inv ⟨m, xs⟩ args fuel R0 w a n c m w2.heap.size gh ch (w2.heap.size + 1 + 1) (startR ⟨m, xs⟩ heap) 0 (w2.heap.size + 1) none 0 0 ((w2.alloc (.cells #[.int .i64 3, .int .i64 0, .int .i64 0, .slice none 0 0, .slice (some ⟨gh, 0, none⟩) 32 ch] t)).alloc (.cells (madeCells #[.int .i64 0] m) 2)) := fun t => by
    have hrow := World.rowIs_made (w2.alloc (.cells #[.int .i64 3, .int .i64 0, .int .i64 0, .slice none 0 0, .slice (some ⟨gh, 0, none⟩) 32 ch] t)) (.int .i64 0) m 2
    rw [World.size_alloc] at hrow
    refine ⟨balloc (balloc (bnext HB1.out HB2.out) _) _, HFB.out.keep ((balloc (balloc HB2.out _) _).block _ (by omega)), hob, hghl, hgl, by omega, HRB.out.keep ((balloc (balloc HB2.out _) _).block _ (by omega)), ⟨⟨by simp [go_sem], by simp [go_sem], by simp [go_sem], by simp [go_sem], by simp [go_sem]⟩, fun o => by simp [go_sem]⟩,
      ⟨IntsW.of_row hrow (by simp [startR]) (fun i hi => by simp [startR]), HI2.out.keep ((balloc (balloc (Below.refl w2.heap.size w2) _) _).block _ hgl), World.ownsRow_nil _ _ _ _, by omega, by simp [Value.ownBlock], by simp [Value.ownBlock]⟩, by simp, by omega, by show 0 < n; omega, by simp [startR], by simp [startR, heapR], Nat.le_refl _, Nat.zero_le _, by rw [Nat.sub_zero]; exact hR0⟩
  generalize hOB : w2.heap.size = ob at *
  go_loopw [10, 11, 12] (fun uv ub ua wr => ∃ (s : RS) (k gv cv : Nat) (ta : Option Addr) (nt ct : Nat), uv = .slice (some ⟨gv, 0, none⟩) m cv ∧ ub = .int .i64 s.b ∧ ua = .int .i64 s.pc ∧ Hid (Inv ⟨m, xs⟩ args fuel R0 w a n c m ob gh ch (ob + 1 + 1) s k gv ta nt ct wr)) (fun _ _ _ wr => fuel - (intOf ((wr.cell? ⟨ob, 2, none⟩).getD undef)).toNat)
  case atStart => exact ⟨_, 0, _, _, _, _, _, rfl, rfl, rfl, HS _⟩
  case round =>
    clear HS hmk z1 z2 HFB HRB HI2 HB2 HB1 hs1 hs2 hgh hOB
    obtain ⟨s, k, gv, cv, ta, nt, ct, rfl, rfl, rfl, hinv⟩ := hrel
    obtain ⟨⟨y0, y1, y2, y3, y4⟩, yz⟩ := hinv.out.obx
    obtain ⟨⟨r0, r1, r2, r3, r4⟩, rz⟩ := hinv.out.rb
    obtain ⟨f0, f1⟩ := hinv.out.fb
    have hkf := hinv.out.kf
    have hsb := hinv.out.sb
    have hgvl := hinv.out.gvl
    have hbts := hinv.out.bts
    have hB0 : B ≤ wr.heap.size := by have := hinv.out.below.size; omega
    have n1 : w.heap.size + 1 ≠ ob := by omega
    have n2 : ob ≠ w.heap.size + 1 := by omega
    have n3 : w.heap.size ≠ ob := by omega
    have n4 : ob ≠ w.heap.size := by omega
    by_cases hk : k < fuel
    · have hsx : s.b < xs.length := by have := hx.out; omega
      have hobl : ob < wr.heap.size := by omega
      obtain ⟨b, o, rfl, ⟨_, hbB⟩, hc⟩ := ha.out s.b hsx
      have hws := hinv.out.below.size
      have BO := blkOk_of ⟨m, xs⟩ GV.out s.b hsx
      have hrun := hinv.out.run
      rw [runR_stop _ _ hk] at hrun
      have hX : xs[s.b] = (⟨m, xs⟩ : Fn).blk s.b := (blk_at ⟨m, xs⟩ s.b hsx).symm
      have hil : ((⟨m, xs⟩ : Fn).blk s.b).instrs.length ≤ 1048576 := by rw [← hX]; have := tot_le (List.getElem_mem hsx); have := hs.out; omega
      rw [hX] at hc
      obtain ⟨pa, pc, ia, ic, e0, e1, ⟨t0, t1, t2, t3⟩, hp, hi⟩ := hc.keep (hinv.out.below.mono hB) hbB
      have g1 := sc1 (ob := ob) f1 n3
      have E0 := sc1 (ob := ob) e0 (by omega)
      have E1 := sc1 (ob := ob) e1 (by omega)
      have T0 := sc1 (ob := ob) t0 (by omega)
      have T1 := sc1 (ob := ob) t1 (by omega)
      have T2 := sc1 (ob := ob) t2 (by omega)
      have T3 := sc1 (ob := ob) t3 (by omega)
      by_cases hpc : s.pc < ((⟨m, xs⟩ : Fn).blk s.b).instrs.length
      · obtain ⟨b3, o3, rfl, ⟨_, hb3⟩, i0, i1, i2, i3, i4⟩ := hi s.pc hpc
        have hok := BO.ins s.pc hpc
        have I0 := sc2 (ob := ob) i0 (by omega) (by omega)
        have I1 := sc2 (ob := ob) i1 (by omega) (by omega)
        have I2 := sc2 (ob := ob) i2 (by omega) (by omega)
        have I3 := sc2 (ob := ob) i3 (by omega) (by omega)
        have I4 := sc2 (ob := ob) i4 (by omega) (by omega)
        rw [stepR, dif_pos hpc] at hrun
        clear BO hX t0 t1 t2 t3 e0 e1 i0 i1 i2 i3 i4 hp hi hc
        have OX := fun q x y => ob3 hinv.out.obx hobl q x y
        have KX := fun q x y => kb3 (wr := wr) (ob := ob) q x y
        have KR := fun q x y => kr3 (wr := wr) (ob := ob) (w.heap.size + 1) q x y
        have SZ : ∀ v x y, (((wr.setCell ⟨ob, 2, none⟩ v).alloc x).alloc y).heap.size = wr.heap.size + 1 + 1 := fun v x y => by simp
        generalize (⟨m, xs⟩ : Fn).blk s.b = X at *
        generalize X.instrs[s.pc] = xi at *
        obtain ⟨op, dst, xa, xb, imm⟩ := xi
        dsimp only at *
        have hgvs := hinv.out.mem.vals.lt
        have hvl := hinv.out.vl
        go_upto_region 12 with fail
        refine letter (P := Code.wp _ _ _ _) _ ?_
        intro W hW
        have hOW : OB W ob 3 0 (k + 1 : Nat) ta nt ct gh ch := by rw [hW]; exact OX _ _ _
        have hKW : Kb wr.heap.size ob ob wr W := by rw [hW]; exact KX _ _ _
        have hKR : Kb wr.heap.size (w.heap.size + 1) ob wr W := by rw [hW]; exact KR _ _ _
        have hSW : W.heap.size = wr.heap.size + 1 + 1 := by rw [hW]; exact SZ _ _ _
        have x0 : W.cell? ⟨wr.heap.size + 1, 0, none⟩ = some (.int .i64 op) := by rw [hW]; simp [go_sem]
        have x1 : W.cell? ⟨wr.heap.size + 1, 1, none⟩ = some (.int .i64 dst) := by rw [hW]; simp [go_sem]
        have x2 : W.cell? ⟨wr.heap.size + 1, 2, none⟩ = some (.int .i64 xa) := by rw [hW]; simp [go_sem]
        have x3 : W.cell? ⟨wr.heap.size + 1, 3, none⟩ = some (.int .i64 xb) := by rw [hW]; simp [go_sem]
        have x4 : W.cell? ⟨wr.heap.size + 1, 4, none⟩ = some (.int .i64 imm) := by rw [hW]; simp [go_sem]
        clear hW OX KX KR SZ y0 y1 y2 y3 y4 yz r0 r1 r2 r3 r4 rz f0 f1 g1 E0 E1 T0 T1 T2 T3 I0 I1 I2 I3 I4
        have HOW := hide hOW
        obtain ⟨⟨y0, y1, y2, y3, y4⟩, yz⟩ := hOW
        obtain ⟨⟨r0, r1, r2, r3, r4⟩, rz⟩ := hinv.out.rb.keep (hKW.far (b := w.heap.size + 1) (by omega) n1)
        have HV := hide (hinv.out.mem.vals.keep (hKW.far hgvs (by omega)))
        by_cases htr : op = 6 ∧ getN s.vals xb = 0
        · rw [if_pos htr] at hrun
          dsimp only at hrun
          subst hrun
          obtain ⟨rfl, hz⟩ := htr
          obtain ⟨b0, b1⟩ := (ins_facts hok).2.2.2.1 (by show bB 6 = true; decide)
          obtain ⟨kb, rfl⟩ := Int.eq_ofNat_of_zero_le b0
          have hbx : kb < s.vals.length := by dsimp only at b1; omega
          rw [getN_of _ _ hbx] at hz
          have VB := HV.out.2 kb hbx
          rw [hz] at VB
          have HG := hide (hinv.out.give ((hKR.set (o := 0) (Or.inr rfl) (.int .i64 2)).five (.int .i64 2) (.int .i64 0) (.int .i64 (k + 1 : Nat)) (.slice ta nt ct) (.slice (some ⟨gh, 0, none⟩) 32 ch)) 2 0 (k + 1))
          rw [show ((k + 1 : Nat) : Int) = (k : Int) + 1 from rfl] at HG
          go_wp2
          exact bodyPost_ret (v := .agg #[.int .i64 2, .int .i64 0, .int .i64 (k + 1), .slice ta nt ct, .slice (some ⟨gh, 0, none⟩) 32 ch]) (by simp [results, Tryd.results21, go_sem, r0, r1, r2, r3, r4]) rfl ⟨_, rfl, HG.out⟩
        · rw [if_neg htr] at hrun
          dsimp only at hrun
          have HRUN := hide hrun
          have HAW := hide (hargs.out.keep ((hinv.out.below.mono hB).trans (hKW.below hB0 (by omega) (by omega))))
          have hmem := hinv.out.mem
          have HMW : Hid (RunMem W (ob + 1 + 1) gv gh 2 (.slice ta nt ct) s.vals s.hp s.tr) := hide ⟨HV.out, hmem.heap.keep (hKW.far hmem.heap.lt (by omega)), own_keep hmem.own (fun q e => hKW.far (hmem.own.lt _ e).2 (by have := (hmem.own.lt _ e).1; omega)), hmem.ne, hmem.tvals, hmem.theap⟩
          have htl := hinv.out.tl
          have hc0 := (exec_any ⟨op, dst, xa, xb, imm⟩ gv m cv aa na ca 3 0 (k + 1) ta nt ct gh ch W args s.vals s.hp s.tr (ob + 1 + 1) L B HMW (by omega) (hide hvl.symm) (hide hinv.out.hl) HAW hna (by omega) (by omega) hok (fun e h => htr ⟨e, h⟩))
          dsimp only at hc0
          have HC := hide hc0
          have hnt0 := hide hmem.nt
          clear hmem hrun hc0
          have hcs : (op = 6 ∧ getN s.vals xb ≠ 0) ∨ (op == 6) = false := by
            by_cases e : op = 6
            · exact Or.inl ⟨e, fun h => htr ⟨e, h⟩⟩
            · exact Or.inr (by simp [e])
          have z1 := y0
          rcases hcs with ⟨rfl, hz⟩ | h6
          · obtain ⟨b0, b1⟩ := (ins_facts hok).2.2.2.1 (by show bB 6 = true; decide)
            obtain ⟨kb, rfl⟩ := Int.eq_ofNat_of_zero_le b0
            have hbx : kb < s.vals.length := by dsimp only at b1; omega
            have VB := HV.out.2 kb hbx
            rw [getN_of _ _ hbx] at hz
            have hzb : (s.vals[kb] == 0) = false := by simp [hz]
            generalize s.vals[kb] = VK at *
            go_wp2_with (go_at_call 70; refine HC.out.mono ?_; rintro e w3 ⟨ta', nt', ct', rfl, hK, hM⟩; obtain ⟨⟨p0, p1, p2, p3, p4⟩, pz⟩ := HOW.out.keep (hK.block ob (by omega) (by omega) (by omega)); have HK := hide hK; have HM := hide hM; clear hK hM)
            have hnt1 := HM.out.nt
            have htl2 := execT_len ⟨6, dst, xa, kb, imm⟩ s.vals s.tr
            have HN := hinv.out.next hk hKW HK.out HM.out HOW.out (by rw [execV_len]; exact hvl) (by rw [execH_len]; exact hinv.out.hl) (by have := hnt0.out; omega) HRUN.out
            have c1 := HN.obx.1.2.2.1
            rw [show ((k + 1 : Nat) : Int) = (k : Int) + 1 from rfl] at HN c1
            exact ⟨⟨⟨s.b, s.pc + 1, _, _, _⟩, k + 1, gv, cv, ta', nt', ct', rfl, rfl, by go_num, HN⟩, by rw [c1, hinv.out.obx.1.2.2.1]; simp [intOf]; omega⟩
          · go_wp2_with (go_at_call 70; refine HC.out.mono ?_; rintro e w3 ⟨ta', nt', ct', rfl, hK, hM⟩; obtain ⟨⟨p0, p1, p2, p3, p4⟩, pz⟩ := HOW.out.keep (hK.block ob (by omega) (by omega) (by omega)); have HK := hide hK; have HM := hide hM; clear hK hM)
            have hnt1 := HM.out.nt
            have htl2 := execT_len ⟨op, dst, xa, xb, imm⟩ s.vals s.tr
            have HN := hinv.out.next hk hKW HK.out HM.out HOW.out (by rw [execV_len]; exact hvl) (by rw [execH_len]; exact hinv.out.hl) (by have := hnt0.out; omega) HRUN.out
            have c1 := HN.obx.1.2.2.1
            rw [show ((k + 1 : Nat) : Int) = (k : Int) + 1 from rfl] at HN c1
            exact ⟨⟨⟨s.b, s.pc + 1, _, _, _⟩, k + 1, gv, cv, ta', nt', ct', rfl, rfl, by go_num, HN⟩, by rw [c1, hinv.out.obx.1.2.2.1]; simp [intOf]; omega⟩
      · rw [stepR, dif_neg hpc] at hrun
        have hkd := term_kind BO
        have hta : ((⟨m, xs⟩ : Fn).blk s.b).term.kind ≠ 1 → 0 ≤ ((⟨m, xs⟩ : Fn).blk s.b).term.a ∧ ((⟨m, xs⟩ : Fn).blk s.b).term.a < m := fun h => term_a BO h
        have hgo : ((⟨m, xs⟩ : Fn).blk s.b).term.kind ≠ 3 → 1 ≤ goTo ((⟨m, xs⟩ : Fn).blk s.b) s.vals ∧ goTo ((⟨m, xs⟩ : Fn).blk s.b) s.vals < xs.length := fun h => goTo_ok BO h s.vals
        have hgd : goTo ((⟨m, xs⟩ : Fn).blk s.b) s.vals = if ((⟨m, xs⟩ : Fn).blk s.b).term.kind = 2 ∧ getN s.vals ((⟨m, xs⟩ : Fn).blk s.b).term.a = 0 then ((⟨m, xs⟩ : Fn).blk s.b).term.els else ((⟨m, xs⟩ : Fn).blk s.b).term.to := rfl
        generalize hG : goTo ((⟨m, xs⟩ : Fn).blk s.b) s.vals = G at *
        clear hG BO hX t0 t1 t2 t3 e0 e1 hp hi hc
        generalize hil2 : ((⟨m, xs⟩ : Fn).blk s.b).instrs.length = il at *
        generalize ((⟨m, xs⟩ : Fn).blk s.b).phis.length = pl at *
        generalize ((⟨m, xs⟩ : Fn).blk s.b).term.kind = kd at *
        generalize ((⟨m, xs⟩ : Fn).blk s.b).term.a = xa at *
        generalize ((⟨m, xs⟩ : Fn).blk s.b).term.to = xto at *
        generalize ((⟨m, xs⟩ : Fn).blk s.b).term.els = xel at *
        have OX := fun q x => ob2 hinv.out.obx hobl q x
        have KX := fun q x => kb2 (wr := wr) (ob := ob) q x
        have KR := fun q x => kr2 (wr := wr) (ob := ob) (w.heap.size + 1) q x
        have SZ : ∀ v x, ((wr.setCell ⟨ob, 2, none⟩ v).alloc x).heap.size = wr.heap.size + 1 := fun v x => by simp
        have hgvs := hinv.out.mem.vals.lt
        have hvl := hinv.out.vl
        have HRUN := hide hrun
        have HGO := hide hgo
        have HTA := hide hta
        have HGD := hide hgd
        clear hrun hgo hta hgd hil2
        go_upto_region 17 with fail
        refine letter (P := Code.wp _ _ _ _) _ ?_
        intro W hW
        have hOW : OB W ob 3 0 (k + 1 : Nat) ta nt ct gh ch := by rw [hW]; exact OX _ _
        have hKW : Kb wr.heap.size ob ob wr W := by rw [hW]; exact KX _ _
        have hKR : Kb wr.heap.size (w.heap.size + 1) ob wr W := by rw [hW]; exact KR _ _
        have hSW : W.heap.size = wr.heap.size + 1 := by rw [hW]; exact SZ _ _
        have x0 : W.cell? ⟨wr.heap.size, 2, none⟩ = some (.int .i64 kd) := by rw [hW]; simp [go_sem]
        have x1 : W.cell? ⟨wr.heap.size, 3, none⟩ = some (.int .i64 xa) := by rw [hW]; simp [go_sem]
        have x2 : W.cell? ⟨wr.heap.size, 4, none⟩ = some (.int .i64 xto) := by rw [hW]; simp [go_sem]
        have x3 : W.cell? ⟨wr.heap.size, 5, none⟩ = some (.int .i64 xel) := by rw [hW]; simp [go_sem]
        clear hW OX KX KR SZ y0 y1 y2 y3 y4 yz r0 r1 r2 r3 r4 rz f0 f1 g1 E0 E1 T0 T1 T2 T3
        have HOW := hide hOW
        obtain ⟨⟨y0, y1, y2, y3, y4⟩, yz⟩ := hOW
        obtain ⟨⟨r0, r1, r2, r3, r4⟩, rz⟩ := hinv.out.rb.keep (hKW.far (b := w.heap.size + 1) (by omega) n1)
        have HV := hide (hinv.out.mem.vals.keep (hKW.far hgvs (by omega)))
        by_cases hret : kd = 3
        · subst hret
          obtain ⟨a0, a1⟩ := HTA.out (by decide)
          obtain ⟨ka, rfl⟩ := Int.eq_ofNat_of_zero_le a0
          have hax : ka < s.vals.length := by omega
          have VA := HV.out.2 ka hax
          have hr := HRUN.out
          rw [if_pos rfl] at hr
          dsimp only at hr
          rw [getN_of _ _ hax] at hr
          generalize s.vals[ka] = VK at *
          subst hr
          have HG := hide (hinv.out.give (((hKR.set (o := 0) (Or.inr rfl) (.int .i64 1)).set (o := 1) (Or.inr rfl) (.int .i64 VK)).five (.int .i64 1) (.int .i64 VK) (.int .i64 (k + 1 : Nat)) (.slice ta nt ct) (.slice (some ⟨gh, 0, none⟩) 32 ch)) 1 VK (k + 1))
          rw [show ((k + 1 : Nat) : Int) = (k : Int) + 1 from rfl] at HG
          go_wp2
          exact bodyPost_ret (v := .agg #[.int .i64 1, .int .i64 VK, .int .i64 (k + 1), .slice ta nt ct, .slice (some ⟨gh, 0, none⟩) 32 ch]) (by simp [results, Tryd.results21, go_sem, r0, r1, r2, r3, r4]) rfl ⟨_, rfl, HG.out⟩
        · obtain ⟨g0, g1⟩ := HGO.out hret
          obtain ⟨t, rfl⟩ := Int.eq_ofNat_of_zero_le (show 0 ≤ G by omega)
          have hr := HRUN.out
          rw [if_neg hret, Int.toNat_natCast] at hr
          dsimp only at hr
          have htx : t < xs.length := by omega
          have BT := blkOk_of ⟨m, xs⟩ GV.out t htx
          have hphl : ((⟨m, xs⟩ : Fn).blk t).phis.length ≤ 1048576 := by rw [blk_at ⟨m, xs⟩ t htx]; show xs[t].phis.length ≤ _; have := tot_le (List.getElem_mem htx); have := hs.out; omega
          have HPO : Hid (∀ i (h : i < ((⟨m, xs⟩ : Fn).blk t).phis.length), phOkI m (predsFrom xs 0 (t : Int)).length ((⟨m, xs⟩ : Fn).blk t).phis[i] = true) := hide BT.phi
          have HXT : Hid (∀ h : t < xs.length, xs[t] = (⟨m, xs⟩ : Fn).blk t) := hide (fun h => (blk_at ⟨m, xs⟩ t h).symm)
          have HAW := hide (ha.out.keep ((hinv.out.below.mono hB).trans (hKW.below hB0 (by omega) (by omega))))
          have HE := hide (enter_any m (some ⟨b, o, none⟩) n c s.b t gv m cv xs s.vals L B W HAW hx (by omega) (by omega) (by have := hx.out; omega) HV (hide hvl.symm) hm2 _ HXT hphl HPO)
          have HRN := hide hr
          obtain ⟨f0, f1⟩ := hinv.out.fb.keep (hKW.far (b := w.heap.size) (by omega) n3)
          have htn : t < n := by have := hx.out; omega
          clear hr BT HPO HXT hphl HRUN HGO
          have hkc : (kd = 1 ∧ xto = t) ∨ (kd = 2 ∧ getN s.vals xa = 0 ∧ xel = t) ∨ (kd = 2 ∧ getN s.vals xa ≠ 0 ∧ xto = t) := by
            have h := HGD.out
            split at h
            · rename_i e; exact Or.inr (Or.inl ⟨e.1, e.2, h.symm⟩)
            · rename_i e
              by_cases e2 : kd = 2
              · exact Or.inr (Or.inr ⟨e2, fun h => e ⟨e2, h⟩, h.symm⟩)
              · exact Or.inl ⟨by omega, h.symm⟩
          clear HGD
          rcases hkc with ⟨rfl, rfl⟩ | ⟨rfl, hz, rfl⟩ | ⟨rfl, hz, rfl⟩
          · go_wp2_with (go_at_call 71; refine HE.out.mono ?_; rintro e w3 ⟨g, c', rfl, hb3, hg3, hi3⟩; have HB3 := hide hb3; have HI3 := hide hi3; clear hb3 hi3)
            have HN := hinv.out.enter hk hKW HOW.out HB3.out hg3 HI3.out (by rw [entTo_len]; exact hvl) htn HRN.out
            have c1 := HN.obx.1.2.2.1
            exact ⟨⟨⟨t, 0, _, _, _⟩, k + 1, g, c', ta, nt, ct, rfl, rfl, rfl, HN⟩, by rw [c1, hinv.out.obx.1.2.2.1]; simp [intOf]; omega⟩
          · obtain ⟨a0, a1⟩ := HTA.out (by decide)
            obtain ⟨ka, rfl⟩ := Int.eq_ofNat_of_zero_le a0
            have hax : ka < s.vals.length := by omega
            have VA := HV.out.2 ka hax
            rw [getN_of _ _ hax] at hz
            rw [hz] at VA
            go_wp2_with (go_at_call 71; refine HE.out.mono ?_; rintro e w3 ⟨g, c', rfl, hb3, hg3, hi3⟩; have HB3 := hide hb3; have HI3 := hide hi3; clear hb3 hi3)
            have HN := hinv.out.enter hk hKW HOW.out HB3.out hg3 HI3.out (by rw [entTo_len]; exact hvl) htn HRN.out
            have c1 := HN.obx.1.2.2.1
            exact ⟨⟨⟨t, 0, _, _, _⟩, k + 1, g, c', ta, nt, ct, rfl, rfl, rfl, HN⟩, by rw [c1, hinv.out.obx.1.2.2.1]; simp [intOf]; omega⟩
          · obtain ⟨a0, a1⟩ := HTA.out (by decide)
            obtain ⟨ka, rfl⟩ := Int.eq_ofNat_of_zero_le a0
            have hax : ka < s.vals.length := by omega
            have VA := HV.out.2 ka hax
            rw [getN_of _ _ hax] at hz
            have hzb : (s.vals[ka] == 0) = false := by simp [hz]
            generalize s.vals[ka] = VK at *
            go_wp2_with (go_at_call 71; refine HE.out.mono ?_; rintro e w3 ⟨g, c', rfl, hb3, hg3, hi3⟩; have HB3 := hide hb3; have HI3 := hide hi3; clear hb3 hi3)
            have HN := hinv.out.enter hk hKW HOW.out HB3.out hg3 HI3.out (by rw [entTo_len]; exact hvl) htn HRN.out
            have c1 := HN.obx.1.2.2.1
            exact ⟨⟨⟨t, 0, _, _, _⟩, k + 1, g, c', ta, nt, ct, rfl, rfl, rfl, HN⟩, by rw [c1, hinv.out.obx.1.2.2.1]; simp [intOf]; omega⟩
    · have hkeq : k = fuel := by omega
      subst hkeq
      have hR : R0 = ⟨3, 0, k, s.tr, s.hp⟩ := by have := hinv.out.run; rw [Nat.sub_self] at this; exact this.symm
      subst hR
      have HG := hide (hinv.out.give (((((((Kb.refl wr.heap.size (w.heap.size + 1) ob wr).set (o := 0) (Or.inl rfl) (.int .i64 3)).set (o := 1) (Or.inl rfl) (.int .i64 0)).set (o := 2) (Or.inl rfl) (.int .i64 k)).set (o := 3) (Or.inl rfl) (.slice ta nt ct)).set (o := 4) (Or.inl rfl) (.slice (some ⟨gh, 0, none⟩) 32 ch))) 3 0 k)
      go_wp2
      exact bodyPost_ret (v := .agg #[.int .i64 3, .int .i64 0, .int .i64 k, .slice ta nt ct, .slice (some ⟨gh, 0, none⟩) 32 ch]) (by simp [results, Tryd.results21, go_sem, r0, r1, r2, r3, r4]) rfl ⟨_, rfl, HG.out⟩
end Go.Proofs.YtdcdgopblbmgoaaDoor

/-
  What the phis of a block take on one way, over pure data. Imports nothing of the program.
-/
namespace Go.Proofs.YtdcdgopblbmgoaaDoor
open Go.RowKit

theorem predsFrom_ge (b : Int) : ∀ (xs : List Blk) (i : Nat), ∀ y ∈ predsFrom xs i b, (i : Int) ≤ y
  | [], _, y, h => by simp [predsFrom] at h
  | x :: xs, i, y, h => by
    rw [predsFrom, List.mem_append] at h
    rcases h with h | h
    · split at h
      · simp at h; omega
      · simp at h
    · have := predsFrom_ge b xs (i + 1) y h; omega
theorem predsFrom_nodup (b : Int) : ∀ (xs : List Blk) (i : Nat), (predsFrom xs i b).Nodup
  | [], _ => by simp [predsFrom]
  | x :: xs, i => by
    rw [predsFrom]
    split
    · rw [List.singleton_append, List.nodup_cons]
      exact ⟨fun h => by have := predsFrom_ge b xs (i + 1) _ h; omega, predsFrom_nodup b xs (i + 1)⟩
    · rw [List.nil_append]; exact predsFrom_nodup b xs (i + 1)
theorem predsFrom_mem (b : Int) : ∀ (xs : List Blk) (i k : Nat) (h : k < xs.length), b ∈ xs[k].term.targets → ((i + k : Nat) : Int) ∈ predsFrom xs i b
  | [], _, _, h, _ => absurd h (by simp)
  | x :: xs, i, k, h, hb => by
    rw [predsFrom, List.mem_append]
    cases k with
    | zero => left; simp only [List.getElem_cons_zero] at hb; simp [hb]
    | succ k =>
      right
      have := predsFrom_mem b xs (i + 1) k (by simpa using h) (by simpa using hb)
      rwa [show i + 1 + k = i + (k + 1) by omega] at this

/-- Where p stands first. -/
def idxR (ps : List Int) (p : Int) : Nat := ps.findIdx (fun y => p == y)
theorem idxR_lt {ps : List Int} {p : Int} (h : p ∈ ps) : idxR ps p < ps.length := by
  unfold idxR
  rw [List.findIdx_lt_length]
  exact ⟨p, h, by simp⟩
theorem idxR_at {ps : List Int} {p : Int} (h : idxR ps p < ps.length) : ps[idxR ps p] = p := by
  have := List.findIdx_getElem (p := fun y => p == y) (xs := ps) (w := h)
  simp only [beq_iff_eq] at this
  exact this.symm
theorem idxR_ne {ps : List Int} {p : Int} {j : Nat} (h : j < idxR ps p) (hl : j < ps.length) : (p == ps[j]) = false := by
  have := List.not_of_lt_findIdx (p := fun y => p == y) (xs := ps) (i := j) h
  simpa using this
theorem idxR_eq {ps : List Int} {p : Int} {j : Nat} (hl : j < ps.length) (he : ps[j] = p) (hlt : ∀ i (h : i < j), ps[i] ≠ p) : idxR ps p = j := by
  unfold idxR
  rw [List.findIdx_eq hl]
  exact ⟨by simp [he], fun i hi => by have := hlt i hi; simp only [beq_eq_false_iff_ne]; exact fun e => this e.symm⟩

theorem entIn_none (ps : List Int) (p : Int) (ph : Ph) (vals o : List Int) : ∀ j, (∀ i, i < j → ps.getD i (-1) ≠ p) → entIn ps p ph vals j o = o
  | 0, _ => rfl
  | j + 1, h => by
    rw [entIn, if_neg (h j (by omega)), entIn_none ps p ph vals o j (fun i hi => h i (by omega))]
theorem entIn_one (ps : List Int) (p : Int) (ph : Ph) (vals o : List Int) (q : Nat) (hq : ps.getD q (-1) = p) : ∀ j, q < j → (∀ i, i < j → i ≠ q → ps.getD i (-1) ≠ p) → entIn ps p ph vals j o = setN o ph.dst (getN vals (ph.args.getD q 0))
  | 0, h, _ => absurd h (by omega)
  | j + 1, h, hu => by
    rw [entIn]
    by_cases e : j = q
    · subst e
      rw [if_pos hq, entIn_none ps p ph vals o j (fun i hi => hu i (by omega) (by omega))]
    · rw [if_neg (hu j (by omega) e), entIn_one ps p ph vals o q hq j (by omega) (fun i hi he => hu i (by omega) he)]

/-- What the phis take: where to, where from. -/
def takesR (q : Nat) (phs : List Ph) : List (Int × Int) := phs.map fun ph => (ph.dst, ph.args.getD q 0)
def takeTo (vals : List Int) (ts : List (Int × Int)) (o : List Int) : List Int := ts.foldl (fun o t => setN o t.1 (getN vals t.2)) o
theorem takeTo_len (vals : List Int) : ∀ (ts : List (Int × Int)) (o : List Int), (takeTo vals ts o).length = o.length
  | [], o => rfl
  | t :: ts, o => by
    have := takeTo_len vals ts (setN o t.1 (getN vals t.2))
    rw [setN_len] at this
    exact this
theorem takeTo_snoc (vals : List Int) (ts : List (Int × Int)) (t : Int × Int) (o : List Int) : takeTo vals (ts ++ [t]) o = setN (takeTo vals ts o) t.1 (getN vals t.2) := by simp [takeTo]
theorem entTo_takes (ps : List Int) (p : Int) (phs : List Ph) (vals : List Int) (hm : p ∈ ps) (hn : ps.Nodup) : entTo ps p phs vals = takeTo vals (takesR (idxR ps p) phs) vals := by
  have hl := idxR_lt hm
  have ha := idxR_at hl
  have one : ∀ ph (o : List Int), entIn ps p ph vals ps.length o = setN o ph.dst (getN vals (ph.args.getD (idxR ps p) 0)) := fun ph o => by
    refine entIn_one ps p ph vals o (idxR ps p) (by simp [hl, ha]) ps.length hl (fun i hi he e => he ?_)
    have e2 : ps[i] = ps[idxR ps p] := by rw [ha]; simpa [hi] using e
    exact (List.getElem_inj hn).1 e2
  unfold entTo takeTo takesR
  rw [List.foldl_map]
  have : (fun o ph => entIn ps p ph vals ps.length o) = fun (o : List Int) (ph : Ph) => setN o ph.dst (getN vals (ph.args.getD (idxR ps p) 0)) := by funext o ph; exact one ph o
  rw [this]
theorem pred_here {F : Fn} {b : Nat} (hb : b < F.blocks.length) {to : Int} (ht : to ∈ (F.blk b).term.targets) : (b : Int) ∈ F.preds to := by
  have := predsFrom_mem to F.blocks 0 b hb (by rw [← blk_at F b hb]; exact ht)
  rwa [Nat.zero_add] at this
/-- A block is entered: as the program says it. -/
theorem enter_takes {F : Fn} {b : Nat} (hb : b < F.blocks.length) {to : Int} (ht : to ∈ (F.blk b).term.targets) (phs : List Ph) (vals : List Int) : entTo (F.preds to) b phs vals = takeTo vals (takesR (idxR (F.preds to) b) phs) vals :=
  entTo_takes _ _ _ _ (pred_here hb ht) (predsFrom_nodup _ _ _)
theorem goTo_mem {X : Blk} (hk : X.term.kind = 1 ∨ X.term.kind = 2) (vals : List Int) : goTo X vals ∈ X.term.targets := by
  unfold goTo Ter.targets
  rcases hk with e | e
  · rw [if_pos e, if_neg (fun h => by have := h.1; omega)]; simp
  · rw [if_neg (show ¬ X.term.kind = 1 by omega), if_pos e]
    split <;> simp
end Go.Proofs.YtdcdgopblbmgoaaDoor
