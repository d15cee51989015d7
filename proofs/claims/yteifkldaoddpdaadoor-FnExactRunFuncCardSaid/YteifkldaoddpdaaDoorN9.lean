import Derived.Test.YteifkldaoddpdaaDoorN7
import Derived.Test.YteifkldaoddpdaaDoorN8b
import Derived.Test.YteifkldaoddpdaaDoorN8d
import Derived.Test.YteifkldaoddpdaaDoorN8f
namespace Go.Proofs.YteifkldaoddpdaaDoor
open Go.RowKit

theorem step_ins (x : Ins) (args : List Int) (R : Nat) (aa : Option Addr) (na ca gh ch : Nat) (ta : Option Addr) (nt ct : Nat) (fuel k0 value : Int) (gv nv cv G n cn : Nat) (b pc : Int) (ka : Option Addr) (kn kc : Nat) (vals hp tr K : List Int) (Bt : Nat) (w : World)
    (hst : Hid (PSt w w R aa na ca gh ch ta nt ct fuel k0 value gv nv cv G n cn b pc ka kn kc Bt vals hp tr K)) (hnv : Hid (nv = vals.length)) (hh : Hid (hp.length = 32)) (hntl : nt ≤ 1000000) (ok : insOk nv 10 x = true) (hnt : ¬ (x.op = 6 ∧ getN vals x.b = 0)) (hR : R < Bt) (hgv : gv < Bt) (hgh : gh < Bt) (hRv : R ≠ gv) (hRh : R ≠ gh) (hB : Bt ≤ w.heap.size) :
    Calls Tryd.prog 81 #[.pointer (some ⟨R, 0, none⟩), nodeV args x] w
      fun e w' => e = .returned (.int .i64 0) ∧ ∃ ta' nt' ct', PSt w w' R aa na ca gh ch ta' nt' ct' fuel k0 value gv nv cv G n cn b pc ka kn kc Bt (execV x args vals hp) (execH x vals hp) (execT x vals tr) K := by
  obtain ⟨⟨o1, o2⟩, fd, fa, fb, fi⟩ := ins_facts ok
  obtain ⟨op, dst, xa, xb, imm⟩ := x
  dsimp only at *
  have hc : op = 1 ∨ op = 2 ∨ ((3 ≤ op ∧ op ≤ 7) ∧ op ≠ 6) ∨ op = 6 ∨ op = 8 ∨ op = 9 ∨ op = 10 := by omega
  rcases hc with rfl | rfl | ⟨⟨c1, c2⟩, c6⟩ | rfl | rfl | rfl | rfl
  · obtain ⟨d0, d1⟩ := fd (by decide)
    obtain ⟨D, rfl⟩ := Int.eq_ofNat_of_zero_le d0
    have e1 : nodeV args ⟨1, D, xa, xb, imm⟩ = .iface 145 (.agg #[.int .i64 D, .int .i64 imm]) := by simp [nodeV]
    rw [e1]
    refine (step_const R aa na ca gh ch ta nt ct fuel k0 value gv nv cv G n cn b pc ka kn kc D imm vals hp tr K Bt w hst hnv (by omega) hR hgv hgh hRv hRh hB).mono ?_
    rintro e w' ⟨rfl, h⟩
    exact ⟨rfl, ta, nt, ct, by simpa [execV, execH, execT, setN] using h⟩
  · obtain ⟨d0, d1⟩ := fd (by decide)
    obtain ⟨D, rfl⟩ := Int.eq_ofNat_of_zero_le d0
    have e1 : nodeV args ⟨2, D, xa, xb, imm⟩ = .iface 145 (.agg #[.int .i64 D, .int .i64 (argR args imm)]) := by simp [nodeV]
    rw [e1]
    refine (step_const R aa na ca gh ch ta nt ct fuel k0 value gv nv cv G n cn b pc ka kn kc D (argR args imm) vals hp tr K Bt w hst hnv (by omega) hR hgv hgh hRv hRh hB).mono ?_
    rintro e w' ⟨rfl, h⟩
    exact ⟨rfl, ta, nt, ct, by simpa [execV, execH, execT, setN] using h⟩
  · obtain ⟨d0, d1⟩ := fd (by simp [dB]; omega)
    obtain ⟨a0, a1⟩ := fa (by simp [aB]; omega)
    obtain ⟨b0, b1⟩ := fb (by simp [bB]; omega)
    obtain ⟨D, rfl⟩ := Int.eq_ofNat_of_zero_le d0
    obtain ⟨A, rfl⟩ := Int.eq_ofNat_of_zero_le a0
    obtain ⟨Bx, rfl⟩ := Int.eq_ofNat_of_zero_le b0
    have e0 : nodeV args ⟨op, D, A, Bx, imm⟩ = .iface 150 (.agg #[.int .i64 op, .int .i64 D, .int .i64 A, .int .i64 Bx]) := by
      unfold nodeV
      rw [if_neg (by dsimp only; omega), if_neg (by dsimp only; omega), if_neg (by dsimp only; omega), if_neg (by dsimp only; omega)]
    rw [e0]
    have e1 : execV ⟨op, D, A, Bx, imm⟩ args vals hp = vals.set D (arithR op (getN vals A) (getN vals Bx)) := by
      unfold execV
      simp only
      rw [if_neg (by omega), if_neg (by omega), if_neg (by omega), if_neg (by omega), if_neg (by omega)]
      simp [setN]
    have e2 : execH ⟨op, D, A, Bx, imm⟩ vals hp = hp := if_neg (by dsimp only; omega)
    have e3 : execT ⟨op, D, A, Bx, imm⟩ vals tr = tr := if_neg (by dsimp only; omega)
    rw [e1, e2, e3]
    refine (step_arith R aa na ca gh ch ta nt ct fuel k0 value gv nv cv G n cn b pc ka kn kc op D A Bx vals hp tr K Bt w hst hnv (by omega) (by omega) (by omega) c1 c2 c6 hR hgv hgh hRv hRh hB).mono ?_
    rintro e w' ⟨rfl, h⟩
    exact ⟨rfl, ta, nt, ct, h⟩
  · obtain ⟨d0, d1⟩ := fd (by decide)
    obtain ⟨a0, a1⟩ := fa (by decide)
    obtain ⟨b0, b1⟩ := fb (by decide)
    obtain ⟨D, rfl⟩ := Int.eq_ofNat_of_zero_le d0
    obtain ⟨A, rfl⟩ := Int.eq_ofNat_of_zero_le a0
    obtain ⟨Bx, rfl⟩ := Int.eq_ofNat_of_zero_le b0
    have e0 : nodeV args ⟨6, D, A, Bx, imm⟩ = .iface 150 (.agg #[.int .i64 6, .int .i64 D, .int .i64 A, .int .i64 Bx]) := by simp [nodeV]
    rw [e0]
    refine (step_div R aa na ca gh ch ta nt ct fuel k0 value gv nv cv G n cn b pc ka kn kc D A Bx vals hp tr K Bt w hst hnv (by omega) (by omega) (by omega) (fun h => hnt ⟨rfl, h⟩) hR hgv hgh hRv hRh hB).mono ?_
    rintro e w' ⟨rfl, h⟩
    exact ⟨rfl, ta, nt, ct, by simpa [execV, execH, execT, setN] using h⟩
  · obtain ⟨d0, d1⟩ := fd (by decide)
    obtain ⟨a0, a1⟩ := fa (by decide)
    obtain ⟨D, rfl⟩ := Int.eq_ofNat_of_zero_le d0
    obtain ⟨A, rfl⟩ := Int.eq_ofNat_of_zero_le a0
    have hxb : xb = 0 := by
      simp only [insOk, Bool.and_eq_true] at ok
      have := ok.1.2
      simpa [fld, bB] using this
    subst hxb
    have e0 : nodeV args ⟨8, D, A, 0, imm⟩ = .iface 147 (.agg #[.int .i64 8, .int .i64 D, .int .i64 A, .int .i64 (0 : Nat)]) := by simp [nodeV]
    rw [e0]
    refine (step_load R aa na ca gh ch ta nt ct fuel k0 value gv nv cv G n cn b pc ka kn kc D A 0 vals hp tr K Bt w hst hnv hh (by omega) (by omega) hR hgv hgh hRv hRh hB).mono ?_
    rintro e w' ⟨rfl, h⟩
    exact ⟨rfl, ta, nt, ct, by simpa [execV, execH, execT, setN] using h⟩
  · obtain ⟨a0, a1⟩ := fa (by decide)
    obtain ⟨b0, b1⟩ := fb (by decide)
    obtain ⟨A, rfl⟩ := Int.eq_ofNat_of_zero_le a0
    obtain ⟨Bx, rfl⟩ := Int.eq_ofNat_of_zero_le b0
    have hxd : dst = 0 := by
      simp only [insOk, Bool.and_eq_true] at ok
      have := ok.1.1.1.2
      simpa [fld, dB] using this
    subst hxd
    have e0 : nodeV args ⟨9, 0, A, Bx, imm⟩ = .iface 147 (.agg #[.int .i64 9, .int .i64 (0 : Nat), .int .i64 A, .int .i64 Bx]) := by simp [nodeV]
    rw [e0]
    refine (step_store R aa na ca gh ch ta nt ct fuel k0 value gv nv cv G n cn b pc ka kn kc 0 A Bx vals hp tr K Bt w hst hnv hh (by omega) (by omega) hR hgv hgh hRv hRh hB).mono ?_
    rintro e w' ⟨rfl, h⟩
    exact ⟨rfl, ta, nt, ct, by simpa [execV, execH, execT] using h⟩
  · obtain ⟨a0, a1⟩ := fa (by decide)
    obtain ⟨A, rfl⟩ := Int.eq_ofNat_of_zero_le a0
    have e0 : nodeV args ⟨10, dst, A, xb, imm⟩ = .iface 149 (.agg #[.int .i64 A]) := by simp [nodeV]
    rw [e0]
    refine (step_out R aa na ca gh ch ta nt ct fuel k0 value gv nv cv G n cn b pc ka kn kc A vals hp tr K Bt w hst hnv (by omega) hntl hR hgv hgh hRv hRh hB).mono ?_
    rintro e w' ⟨rfl, ta', nt', ct', h⟩
    exact ⟨rfl, ta', nt', ct', by simpa [execV, execH, execT] using h⟩

theorem step_halt (x : Ins) (args : List Int) (R : Nat) (aa : Option Addr) (na ca gh ch : Nat) (ta : Option Addr) (nt ct : Nat) (fuel k0 value : Int) (gv nv cv G n cn : Nat) (b pc : Int) (ka : Option Addr) (kn kc : Nat) (vals hp tr K : List Int) (Bt : Nat) (w : World)
    (hst : Hid (PSt w w R aa na ca gh ch ta nt ct fuel k0 value gv nv cv G n cn b pc ka kn kc Bt vals hp tr K)) (hnv : Hid (nv = vals.length)) (ok : insOk nv 10 x = true) (h6 : x.op = 6) (hz : getN vals x.b = 0) (hR : R < Bt) (hgv : gv < Bt) (hgh : gh < Bt) (hRv : R ≠ gv) (hRh : R ≠ gh) (hB : Bt ≤ w.heap.size) :
    Calls Tryd.prog 81 #[.pointer (some ⟨R, 0, none⟩), nodeV args x] w
      fun e w' => e = .returned (.int .i64 2) ∧ PSt w w' R aa na ca gh ch ta nt ct fuel k0 value gv nv cv G n cn b pc ka kn kc Bt vals hp tr K := by
  obtain ⟨⟨o1, o2⟩, fd, fa, fb, fi⟩ := ins_facts ok
  obtain ⟨op, dst, xa, xb, imm⟩ := x
  dsimp only at *
  subst h6
  obtain ⟨d0, d1⟩ := fd (by decide)
  obtain ⟨a0, a1⟩ := fa (by decide)
  obtain ⟨b0, b1⟩ := fb (by decide)
  obtain ⟨D, rfl⟩ := Int.eq_ofNat_of_zero_le d0
  obtain ⟨A, rfl⟩ := Int.eq_ofNat_of_zero_le a0
  obtain ⟨Bx, rfl⟩ := Int.eq_ofNat_of_zero_le b0
  have e0 : nodeV args ⟨6, D, A, Bx, imm⟩ = .iface 150 (.agg #[.int .i64 6, .int .i64 D, .int .i64 A, .int .i64 Bx]) := by simp [nodeV]
  rw [e0]
  exact step_trap R aa na ca gh ch ta nt ct fuel k0 value gv nv cv G n cn b pc ka kn kc D A Bx vals hp tr K Bt w hst hnv (by omega) hz hR hgv hgh hRv hRh hB

set_option maxHeartbeats 2000000 in
set_option maxRecDepth 100000 in
theorem step_end (R : Nat) (v0 v1 v2 v4 : Int) (ea oa : Option Addr) (ne ce no co : Nat) (Q : Int → World → Prop) (w : World)
    (hc : Hid (∀ x, Calls Tryd.prog 103 #[.pointer (some ⟨R, 0, none⟩), .agg #[.int .i64 v0, .int .i64 v1, .int .i64 v2, .slice ea ne ce, .int .i64 v4, .slice oa no co]] (w.alloc x) fun e w' => ∃ c, e = .returned (.int .i64 c) ∧ Q c w')) :
    Calls Tryd.prog 81 #[.pointer (some ⟨R, 0, none⟩), .iface 124 (.agg #[.int .i64 v0, .int .i64 v1, .int .i64 v2, .slice ea ne ce, .int .i64 v4, .slice oa no co])] w
      fun e w' => ∃ c, e = .returned (.int .i64 c) ∧ Q c w' := by
  have Y := fun xT v w => assert_yes Tryd.underlying124 xT v w
  have NC := fun xT v w => assert_no (t := 124) Tryd.underlying145 Tryd.zeroC (by decide) xT v w
  have NA := fun xT v w => assert_no (t := 124) Tryd.underlying150 Tryd.zeroA (by decide) xT v w
  have NH := fun xT v w => assert_no (t := 124) Tryd.underlying147 Tryd.zeroH (by decide) xT v w
  have NO := fun xT v w => assert_no (t := 124) Tryd.underlying149 Tryd.zeroO (by decide) xT v w
  go_enter Tryd.func81, Tryd.ntmps81
  go_wp2_with (go_at_call 103; refine (hc.out _).mono ?_; rintro e w1 ⟨c, rfl, hq⟩; have HQ := hide hq; clear hq)
  go_ret
  exact ⟨c, rfl, HQ.out⟩
end Go.Proofs.YteifkldaoddpdaaDoor

namespace Go.Proofs.YteifkldaoddpdaaDoor
open Go.RowKit

theorem NodesAt.keepC {w w' : World} {B G : Nat} {F : Fn} {args : List Int} {n R gv gh : Nat} (h : NodesAt w B G F args n) (k : Kc B R gv gh w w') (hR : R < G) (hv : gv < G) (hh : gh < G) (hG : G < B) : NodesAt w' B G F args n :=
  h.keepS (fun q h1 h2 => k.block q h2 (by omega) (by omega) (by omega)) (k.block G hG (by omega) (by omega) (by omega))

section
variable {w W W1 : World} {R : Nat} {aa : Option Addr} {na ca gh ch : Nat} {ta : Option Addr} {nt ct : Nat} {fuel k0 value : Int} {gv nv cv G n cn : Nat} {b pc : Int} {ka : Option Addr} {kn kc Bt : Nat} {vals hp tr K : List Int}
theorem PSt.self (h : PSt w W R aa na ca gh ch ta nt ct fuel k0 value gv nv cv G n cn b pc ka kn kc Bt vals hp tr K) : PSt W W R aa na ca gh ch ta nt ct fuel k0 value gv nv cv G n cn b pc ka kn kc Bt vals hp tr K := ⟨Kc.refl _ _ _ _ _, h.2⟩
theorem PSt.tick (h : PSt w W R aa na ca gh ch ta nt ct fuel k0 value gv nv cv G n cn b pc ka kn kc Bt vals hp tr K) (hR : R < Bt) (hRv : R ≠ gv) (hRh : R ≠ gh) (k' pc' : Int) : PSt w (((W.setCell ⟨R, 4, none⟩ (.int .i64 k')).setCell ⟨R, 9, none⟩ (.int .i64 pc')).drew.drew) R aa na ca gh ch ta nt ct fuel k' value gv nv cv G n cn b pc' ka kn kc Bt vals hp tr K :=
  PSt.drew (PSt.drew ⟨(h.1.set (Or.inl rfl) _).set (Or.inl rfl) _, (h.2.1.set4 _).set9 _, h.2.2.keep (fun q _ h2 => (Below.heap_setCell _ _ _ _ (by show q ≠ R; omega)).trans (Below.heap_setCell _ _ _ _ (by show q ≠ R; omega)))⟩)
end

/-- What holds at the head of the program's loop. -/
structure PRun (F : Fn) (args : List Int) (fuel : Nat) (R0 : Out) (w : World) (R : Nat) (aa : Option Addr) (na ca gh ch gv nv cv G n cn Bt : Nat) (s : RS) (k : Nat) (ta : Option Addr) (nt ct : Nat) (ka : Option Addr) (kn kc : Nat) (K : List Int) (wr : World) : Prop where
  st : PSt w wr R aa na ca gh ch ta nt ct fuel k 0 gv nv cv G n cn s.b s.pc ka kn kc Bt s.vals s.hp s.tr K
  nodes : NodesAt wr Bt G F args n
  sb : s.b < n
  pcl : s.pc ≤ (F.blk s.b).instrs.length
  vl : s.vals.length = nv
  hl : s.hp.length = 32
  tl : nt ≤ k
  kf : k ≤ fuel
  run : runR F args (fuel - k) k s = R0

theorem takes_ok {F : Fn} {T b : Nat} (BT : BlkOk F T) (hm : (b : Int) ∈ F.preds T) : ∀ t ∈ takesR (idxR (F.preds T) b) (F.blk T).phis, (0 ≤ t.1 ∧ t.1 < F.values) ∧ 0 ≤ t.2 ∧ t.2 < F.values := fun t ht => by
  unfold takesR at ht
  obtain ⟨ph, hph, rfl⟩ := List.mem_map.1 ht
  obtain ⟨i, hi, rfl⟩ := List.getElem_of_mem hph
  obtain ⟨h1, h2, h3⟩ := phOk_facts (BT.phi i hi)
  have hx : idxR (F.preds T) b < (F.blk T).phis[i].args.length := by rw [h2]; exact idxR_lt hm
  refine ⟨h1, ?_⟩
  have e : (F.blk T).phis[i].args.getD (idxR (F.preds T) b) 0 = (F.blk T).phis[i].args[idxR (F.preds T) b] := by simp [hx]
  rw [e]
  exact h3 _ (List.getElem_mem hx)

set_option maxHeartbeats 4000000 in
set_option maxRecDepth 100000 in
theorem run_any (F : Fn) (args : List Int) (fuel : Nat) (R0 : Out) (R : Nat) (aa : Option Addr) (na ca gh ch gv nv cv G n cn Bt : Nat) (s : RS) (ta : Option Addr) (nt ct : Nat) (ka : Option Addr) (kn kc : Nat) (K : List Int) (w : World)
    (hinv : Hid (PRun F args fuel R0 w R aa na ca gh ch gv nv cv G n cn Bt s 0 ta nt ct ka kn kc K w)) (good : Hid (validS F = true)) (hF : Hid (F.values = nv)) (hn : Hid (n = F.blocks.length)) (hs : Hid (F.blocks.length + blksTot F.blocks ≤ 1048576)) (hf : fuel ≤ 60000)
    (hR : R < G) (hgv : gv < G) (hgh : gh < G) (hRv : R ≠ gv) (hRh : R ≠ gh) (hG : G < Bt) (hB : Bt ≤ w.heap.size) :
    Calls Tryd.prog 53 #[.pointer (some ⟨R, 0, none⟩)] w
      fun e w' => e = .returned (.int .i64 R0.code) ∧ ∃ ta nt ct ka kn kc b pc vals K, PSt w w' R aa na ca gh ch ta nt ct fuel R0.steps R0.value gv nv cv G n cn b pc ka kn kc Bt vals R0.hp R0.tr K := by
  have HN0 := hide hinv.out.nodes
  have HK0 := hinv
  go_enter Tryd.func53, Tryd.ntmps53
  go_wp2
  go_loopw [] (fun wr => ∃ (s : RS) (k : Nat) (ta : Option Addr) (nt ct : Nat) (ka : Option Addr) (kn kc : Nat) (K : List Int), Hid (PRun F args fuel R0 w R aa na ca gh ch gv nv cv G n cn Bt s k ta nt ct ka kn kc K wr)) (fun wr => fuel - (intOf ((wr.cell? ⟨R, 4, none⟩).getD undef)).toNat)
  case atStart => exact ⟨s, 0, ta, nt, ct, ka, kn, kc, K, HK0⟩
  case round =>
    clear hinv HK0
    obtain ⟨s, k, ta, nt, ct, ka, kn, kc, K, hinv⟩ := hrel
    have hkf := hinv.out.kf
    have hsb := hinv.out.sb
    have hbx := hinv.out.st.2.1
    have c3 := hbx.c3
    have c4 := hbx.c4
    have c7 := hbx.c7
    have c8 := hbx.c8
    have c9 := hbx.c9
    have f4 := hbx.fz 4
    have f9 := hbx.fz 9
    have hksz := hinv.out.st.1.size
    by_cases hk : k < fuel
    · have hsx : s.b < F.blocks.length := by have := hn.out; omega
      have BO := blkOk_of F good.out s.b hsx
      have hrun := hinv.out.run
      rw [runR_stop _ _ hk] at hrun
      obtain ⟨U, hU, hrow⟩ := hinv.out.nodes
      obtain ⟨g, cg, hUe, ⟨hg1, hg2⟩, hins, val, hval, hend⟩ := hrow s.b hsb
      have cG := hU.cell hsx
      rw [hUe] at cG
      have hil : (F.blk s.b).instrs.length ≤ 1048576 := by rw [blk_at F s.b hsx]; have := tot_le (List.getElem_mem hsx); have := hs.out; omega
      have hpl := hinv.out.pcl
      have HT := hide (fun k' pc' => hinv.out.st.tick (by omega) hRv hRh k' pc')
      clear hU hrow hUe
      by_cases hpc : s.pc < (F.blk s.b).instrs.length
      · have hok := BO.ins s.pc hpc
        have cN := hins s.pc hpc
        obtain ⟨T, V, htv⟩ := nodeV_iface args (F.blk s.b).instrs[s.pc]
        rw [htv] at cN
        rw [stepR, dif_pos hpc] at hrun
        have HTV := hide htv
        have HRUN := hide hrun
        have HOK := hide hok
        clear htv hrun hok hins hval hend BO
        generalize (F.blk s.b).instrs[s.pc] = xi at *
        generalize hILe : (F.blk s.b).instrs.length = il at *
        have hpc1 : s.pc < il + 1 := by omega
        generalize il + 1 = ln at cG hpc1
        have hBw : Bt ≤ (((wr.setCell ⟨R, 4, none⟩ (.int .i64 ((k : Int) + 1))).setCell ⟨R, 9, none⟩ (.int .i64 ((s.pc : Int) + 1))).drew.drew).heap.size := by show Bt ≤ ((wr.setCell ⟨R, 4, none⟩ (.int .i64 ((k : Int) + 1))).setCell ⟨R, 9, none⟩ (.int .i64 ((s.pc : Int) + 1))).heap.size; rw [size_setCell, size_setCell]; omega
        have HS := hide (HT.out ((k : Int) + 1) ((s.pc : Int) + 1))
        have hokn : insOk nv 10 xi = true := by have h := HOK.out; rw [hF.out] at h; exact h
        have hkn : nt ≤ 1000000 := by have := hinv.out.tl; omega
        by_cases htr : xi.op = 6 ∧ getN s.vals xi.b = 0
        · have hr := HRUN.out
          rw [if_pos htr] at hr
          dsimp only at hr
          subst hr
          have HC := hide (step_halt xi args R aa na ca gh ch ta nt ct fuel ((k : Int) + 1) 0 gv nv cv G n cn s.b ((s.pc : Int) + 1) ka kn kc s.vals s.hp s.tr K Bt _ (hide HS.out.self) (hide hinv.out.vl.symm) hokn htr.1 htr.2 (by omega) (by omega) (by omega) hRv hRh hBw)
          rw [HTV.out] at HC
          go_wp2
          go_region_held3 (fun w' => w'.cell? ⟨R, 4, none⟩ = some (.int .i64 k) ∧ w'.cell? ⟨R, 3, none⟩ = some (.int .i64 fuel)) (go_keep) (fail)
          go_wp2
          go_region_held3 (fun w' => w'.cell? ⟨R, 7, none⟩ = some (.slice (some ⟨G, 0, none⟩) n cn) ∧ w'.cell? ⟨R, 8, none⟩ = some (.int .i64 s.b) ∧ w'.cell? ⟨G, s.b, none⟩ = some (.slice (some ⟨g, 0, none⟩) ln cg) ∧ w'.cell? ⟨R, 9, none⟩ = some (.int .i64 s.pc) ∧ w'.cell? ⟨g, s.pc, none⟩ = some (.iface T V)) (go_keep) (fail)
          go_wp2_with (go_at_call 81; refine HC.out.mono ?_; rintro e w1 ⟨rfl, hq⟩; have HQ := hide hq; clear hq)
          go_ret
          exact ⟨rfl, ta, nt, ct, ka, kn, kc, _, _, s.vals, K, ⟨HS.out.1.trans HQ.out.1, HQ.out.2⟩⟩
        · have hr := HRUN.out
          rw [if_neg htr] at hr
          dsimp only at hr
          have HR := hide hr
          have HC := hide (step_ins xi args R aa na ca gh ch ta nt ct fuel ((k : Int) + 1) 0 gv nv cv G n cn s.b ((s.pc : Int) + 1) ka kn kc s.vals s.hp s.tr K Bt _ (hide HS.out.self) (hide hinv.out.vl.symm) (hide hinv.out.hl) hkn hokn htr (by omega) (by omega) (by omega) hRv hRh hBw)
          rw [HTV.out] at HC
          clear hr
          go_wp2
          go_region_held3 (fun w' => w'.cell? ⟨R, 4, none⟩ = some (.int .i64 k) ∧ w'.cell? ⟨R, 3, none⟩ = some (.int .i64 fuel)) (go_keep) (fail)
          go_wp2
          go_region_held3 (fun w' => w'.cell? ⟨R, 7, none⟩ = some (.slice (some ⟨G, 0, none⟩) n cn) ∧ w'.cell? ⟨R, 8, none⟩ = some (.int .i64 s.b) ∧ w'.cell? ⟨G, s.b, none⟩ = some (.slice (some ⟨g, 0, none⟩) ln cg) ∧ w'.cell? ⟨R, 9, none⟩ = some (.int .i64 s.pc) ∧ w'.cell? ⟨g, s.pc, none⟩ = some (.iface T V)) (go_keep) (fail)
          go_wp2_with (go_at_call 81; refine HC.out.mono ?_; rintro e w1 ⟨rfl, ta', nt', ct', hq⟩; have HQ := hide hq; clear hq)
          have hst := (show PSt w w1 _ _ _ _ _ _ _ _ _ _ _ _ _ _ _ _ _ _ _ _ _ _ _ _ _ _ _ _ from ⟨HS.out.1.trans HQ.out.1, HQ.out.2⟩)
          have hl1 := hst.2.2.mem.len
          have hl2 := hinv.out.st.2.2.mem.len
          have hl3 := execT_len xi s.vals s.tr
          have htl := hinv.out.tl
          exact ⟨⟨⟨s.b, s.pc + 1, _, _, _⟩, k + 1, ta', nt', ct', ka, kn, kc, K, hide ⟨hst, HN0.out.keepC hst.1 hR hgv hgh hG, hsb, by show s.pc + 1 ≤ _; rw [hILe]; omega, by show (execV _ _ _ _).length = _; rw [execV_len]; exact hinv.out.vl, by show (execH _ _ _).length = _; rw [execH_len]; exact hinv.out.hl, by omega, by omega, HR.out⟩⟩, by rw [hst.2.1.c4, c4]; simp [intOf]; omega⟩
      · have hpe : s.pc = (F.blk s.b).instrs.length := by omega
        rw [stepR, dif_neg hpc] at hrun
        rw [← hpe] at hval
        obtain ⟨t1, t2, wa, oa, nw, cw, no, co, rfl, hw1, hw2⟩ := hend
        have hkd := term_kind BO
        have hta : (F.blk s.b).term.kind ≠ 1 → 0 ≤ (F.blk s.b).term.a ∧ (F.blk s.b).term.a < nv := fun h => by have := term_a BO h; rw [hF.out] at this; exact this
        have hpc1 : s.pc < (F.blk s.b).instrs.length + 1 := by omega
        generalize (F.blk s.b).instrs.length + 1 = ln at cG hpc1
        have hpcb : s.pc ≤ 1048576 := by omega
        clear hpe hpc hpl
        have hBw : Bt ≤ (((wr.setCell ⟨R, 4, none⟩ (.int .i64 ((k : Int) + 1))).setCell ⟨R, 9, none⟩ (.int .i64 ((s.pc : Int) + 1))).drew.drew).heap.size := by show Bt ≤ ((wr.setCell ⟨R, 4, none⟩ (.int .i64 ((k : Int) + 1))).setCell ⟨R, 9, none⟩ (.int .i64 ((s.pc : Int) + 1))).heap.size; rw [size_setCell, size_setCell]; omega
        have HS := hide (HT.out ((k : Int) + 1) ((s.pc : Int) + 1))
        by_cases hk3 : (F.blk s.b).term.kind = 3
        · rw [if_pos hk3] at hrun
          dsimp only at hrun
          obtain ⟨a0, a1⟩ := hta (by omega)
          obtain ⟨xa, hxa⟩ := Int.eq_ofNat_of_zero_le a0
          rw [hxa] at hrun hval a1
          rw [hk3] at hval
          subst hrun
          have HC := hide (step_end R 3 xa t1 t2 wa oa nw cw no co (fun c w' => c = 1 ∧ PSt (((wr.setCell ⟨R, 4, none⟩ (.int .i64 ((k : Int) + 1))).setCell ⟨R, 9, none⟩ (.int .i64 ((s.pc : Int) + 1))).drew.drew) w' R aa na ca gh ch ta nt ct fuel ((k : Int) + 1) (getN s.vals xa) gv nv cv G n cn s.b ((s.pc : Int) + 1) ka kn kc Bt s.vals s.hp s.tr K) (((wr.setCell ⟨R, 4, none⟩ (.int .i64 ((k : Int) + 1))).setCell ⟨R, 9, none⟩ (.int .i64 ((s.pc : Int) + 1))).drew.drew) (hide (fun x => by
            have hn1 := HS.out.self.next hBw (by omega) (balloc (Below.refl _ _) x)
            refine (end_ret R aa na ca gh ch ta nt ct fuel ((k : Int) + 1) 0 gv nv cv G n cn s.b ((s.pc : Int) + 1) ka kn kc xa t1 t2 wa oa nw cw no co s.vals s.hp s.tr K Bt _ (hide hn1.2.1) (hide hn1.2.2) (hide hinv.out.vl.symm) (by omega) (by omega) (by omega) hRv hRh (by rw [World.size_alloc]; omega)).mono ?_
            rintro e w' ⟨rfl, h1, h2, h3⟩
            exact ⟨1, rfl, rfl, hn1.1.trans h1, h2, h3⟩)))
          clear hins hw1 hw2 BO hxa hk3 hta
          go_wp2
          go_region_held3 (fun w' => w'.cell? ⟨R, 4, none⟩ = some (.int .i64 k) ∧ w'.cell? ⟨R, 3, none⟩ = some (.int .i64 fuel)) (go_keep) (fail)
          go_wp2
          go_region_held3 (fun w' => w'.cell? ⟨R, 7, none⟩ = some (.slice (some ⟨G, 0, none⟩) n cn) ∧ w'.cell? ⟨R, 8, none⟩ = some (.int .i64 s.b) ∧ w'.cell? ⟨G, s.b, none⟩ = some (.slice (some ⟨g, 0, none⟩) ln cg) ∧ w'.cell? ⟨R, 9, none⟩ = some (.int .i64 s.pc) ∧ w'.cell? ⟨g, s.pc, none⟩ = some (.iface 124 (.agg #[.int .i64 3, .int .i64 xa, .int .i64 t1, .slice wa nw cw, .int .i64 t2, .slice oa no co]))) (go_keep) (fail)
          go_wp2_with (go_at_call 81; refine HC.out.mono ?_; rintro e w1 ⟨c, rfl, rfl, hq⟩; have HQ := hide hq; clear hq)
          go_ret
          exact ⟨rfl, ta, nt, ct, ka, kn, kc, _, _, s.vals, K, ⟨HS.out.1.trans HQ.out.1, HQ.out.2⟩⟩
        · rw [if_neg hk3] at hrun
          dsimp only at hrun
          obtain ⟨g0, g1⟩ := goTo_ok BO hk3 s.vals
          have hmem := goTo_mem (X := F.blk s.b) (by omega) s.vals
          have hgd : goTo (F.blk s.b) s.vals = if (F.blk s.b).term.kind = 2 ∧ getN s.vals (F.blk s.b).term.a = 0 then (F.blk s.b).term.els else (F.blk s.b).term.to := rfl
          obtain ⟨T, hT⟩ := Int.eq_ofNat_of_zero_le (show 0 ≤ goTo (F.blk s.b) s.vals by omega)
          rw [hT] at hrun g1 hmem hgd
          rw [Int.toNat_natCast, enter_takes hsx hmem] at hrun
          have htx : T < F.blocks.length := by omega
          have BT := blkOk_of F good.out T htx
          have hto := takes_ok BT (pred_here hsx hmem)
          have hTSl : (takesR (idxR (F.preds T) s.b) (F.blk T).phis).length ≤ 1048576 := by unfold takesR; rw [List.length_map, blk_at F T htx]; have := tot_le (List.getElem_mem htx); have := hs.out; omega
          rw [hF.out] at hto
          have HTO := hide hto
          have HR := hide hrun
          have hway : ∀ {ea : Option Addr} {ne : Nat} {to : Int}, to = T → WayAt wr (G + 1) Bt F s.b to ea ne → Hid (ne = (takesR (idxR (F.preds T) s.b) (F.blk T).phis).length) ∧ Hid (∀ x, TakesAt ((((wr.setCell ⟨R, 4, none⟩ (.int .i64 ((k : Int) + 1))).setCell ⟨R, 9, none⟩ (.int .i64 ((s.pc : Int) + 1))).drew.drew).alloc x) (G + 1) Bt ea (takesR (idxR (F.preds T) s.b) (F.blk T).phis)) := fun {ea ne to} e h => by
            subst e
            obtain ⟨h1, h2⟩ := h
            rw [Int.toNat_natCast] at h1 h2
            refine ⟨hide (by rw [h1]; unfold takesR; rw [List.length_map]), hide (fun x => (h2.keepS (w' := (((wr.setCell ⟨R, 4, none⟩ (.int .i64 ((k : Int) + 1))).setCell ⟨R, 9, none⟩ (.int .i64 ((s.pc : Int) + 1))).drew.drew)) (fun q hq1 hq2 => (Below.heap_setCell _ _ _ _ (by show q ≠ R; omega)).trans (Below.heap_setCell _ _ _ _ (by show q ≠ R; omega)))).keep ((balloc (Below.refl _ _) x).mono hBw))⟩
          generalize takesR (idxR (F.preds T) s.b) (F.blk T).phis = TS at *
          have hkc : ((F.blk s.b).term.kind = 1 ∧ (F.blk s.b).term.to = T) ∨ ((F.blk s.b).term.kind = 2 ∧ getN s.vals (F.blk s.b).term.a = 0 ∧ (F.blk s.b).term.els = T) ∨ ((F.blk s.b).term.kind = 2 ∧ getN s.vals (F.blk s.b).term.a ≠ 0 ∧ (F.blk s.b).term.to = T) := by
            split at hgd
            · rename_i e; exact Or.inr (Or.inl ⟨e.1, e.2, hgd.symm⟩)
            · rename_i e
              by_cases e2 : (F.blk s.b).term.kind = 2
              · exact Or.inr (Or.inr ⟨e2, fun h => e ⟨e2, h⟩, hgd.symm⟩)
              · exact Or.inl ⟨by omega, hgd.symm⟩
          clear hrun hto hgd BT hins
          rcases hkc with ⟨kk, kt⟩ | ⟨kk, kz, kt⟩ | ⟨kk, kz, kt⟩
          · obtain ⟨-, hwy⟩ := hw1 hk3
            obtain ⟨HTL, HTA⟩ := hway kt hwy
            have e1 := (hw1 hk3).1
            rw [kt] at e1
            rw [kk, e1] at hval
            subst e1
            generalize (F.blk s.b).term.a = xa at *
            clear hway hw1 hw2 BO hk3 kk kt hwy hta hkd hmem hT
            have HC := hide (step_end R 1 xa T t2 wa oa nw cw no co (fun c w' => c = 0 ∧ ∃ ka' kn' kc' K', PSt (((wr.setCell ⟨R, 4, none⟩ (.int .i64 ((k : Int) + 1))).setCell ⟨R, 9, none⟩ (.int .i64 ((s.pc : Int) + 1))).drew.drew) w' R aa na ca gh ch ta nt ct fuel ((k : Int) + 1) 0 gv nv cv G n cn T 0 ka' kn' kc' Bt (takeTo s.vals TS s.vals) s.hp s.tr K') (((wr.setCell ⟨R, 4, none⟩ (.int .i64 ((k : Int) + 1))).setCell ⟨R, 9, none⟩ (.int .i64 ((s.pc : Int) + 1))).drew.drew) (hide (fun x => by
              have hn1 := HS.out.self.next hBw (by omega) (balloc (Below.refl _ _) x)
              refine (end_jump R aa na ca gh ch ta nt ct fuel ((k : Int) + 1) 0 gv nv cv G n cn s.b ((s.pc : Int) + 1) ka kn kc xa T t2 wa oa nw cw no co TS s.vals s.hp s.tr K (G + 1) Bt _ (hide hn1.2.1) (hide hn1.2.2) (hide (HTA.out x)) HTL hTSl HTO (hide hinv.out.vl.symm) (by omega) (by omega) (by omega) hRv hRh (by omega) (by rw [World.size_alloc]; omega)).mono ?_
              rintro e w' ⟨rfl, ka', kn', kc', K', h1, h2, h3⟩
              exact ⟨0, rfl, rfl, ka', kn', kc', K', hn1.1.trans h1, h2, h3⟩)))
            go_wp2
            go_region_held3 (fun w' => w'.cell? ⟨R, 4, none⟩ = some (.int .i64 k) ∧ w'.cell? ⟨R, 3, none⟩ = some (.int .i64 fuel)) (go_keep) (fail)
            go_wp2
            go_region_held3 (fun w' => w'.cell? ⟨R, 7, none⟩ = some (.slice (some ⟨G, 0, none⟩) n cn) ∧ w'.cell? ⟨R, 8, none⟩ = some (.int .i64 s.b) ∧ w'.cell? ⟨G, s.b, none⟩ = some (.slice (some ⟨g, 0, none⟩) ln cg) ∧ w'.cell? ⟨R, 9, none⟩ = some (.int .i64 s.pc) ∧ w'.cell? ⟨g, s.pc, none⟩ = some (.iface 124 (.agg #[.int .i64 1, .int .i64 xa, .int .i64 T, .slice wa nw cw, .int .i64 t2, .slice oa no co]))) (go_keep) (fail)
            go_wp2_with (go_at_call 81; refine HC.out.mono ?_; rintro e w1 ⟨c, rfl, rfl, ka', kn', kc', K', hq⟩; have HQ := hide hq; clear hq)
            have hst := (show PSt w w1 _ _ _ _ _ _ _ _ _ _ _ _ _ _ _ _ _ _ _ _ _ _ _ _ _ _ _ _ from ⟨HS.out.1.trans HQ.out.1, HQ.out.2⟩)
            have htl := hinv.out.tl
            exact ⟨⟨⟨T, 0, _, _, _⟩, k + 1, ta, nt, ct, ka', kn', kc', K', hide ⟨hst, HN0.out.keepC hst.1 hR hgv hgh hG, by have := hn.out; show T < n; omega, Nat.zero_le _, by show (takeTo _ _ _).length = _; rw [takeTo_len]; exact hinv.out.vl, hinv.out.hl, by omega, by omega, HR.out⟩⟩, by rw [hst.2.1.c4, c4]; simp [intOf]; omega⟩
          · obtain ⟨e1, hwy⟩ := hw2 kk
            obtain ⟨HTL, HTA⟩ := hway kt hwy
            obtain ⟨a0, a1⟩ := hta (by omega)
            obtain ⟨xa, hxa⟩ := Int.eq_ofNat_of_zero_le a0
            rw [kt] at e1
            rw [hxa] at hval kz a1
            rw [kk, e1] at hval
            subst e1
            clear hway hw1 hw2 BO hk3 kk kt hwy hta hkd hmem hT hxa a0
            have HC := hide (step_end R 2 xa t1 T wa oa nw cw no co (fun c w' => c = 0 ∧ ∃ ka' kn' kc' K', PSt (((wr.setCell ⟨R, 4, none⟩ (.int .i64 ((k : Int) + 1))).setCell ⟨R, 9, none⟩ (.int .i64 ((s.pc : Int) + 1))).drew.drew) w' R aa na ca gh ch ta nt ct fuel ((k : Int) + 1) 0 gv nv cv G n cn T 0 ka' kn' kc' Bt (takeTo s.vals TS s.vals) s.hp s.tr K') (((wr.setCell ⟨R, 4, none⟩ (.int .i64 ((k : Int) + 1))).setCell ⟨R, 9, none⟩ (.int .i64 ((s.pc : Int) + 1))).drew.drew) (hide (fun x => by
              have hn1 := HS.out.self.next hBw (by omega) (balloc (Below.refl _ _) x)
              refine (end_else R aa na ca gh ch ta nt ct fuel ((k : Int) + 1) 0 gv nv cv G n cn s.b ((s.pc : Int) + 1) ka kn kc xa t1 T wa oa nw cw no co TS s.vals s.hp s.tr K (G + 1) Bt _ (hide hn1.2.1) (hide hn1.2.2) (hide (HTA.out x)) HTL hTSl HTO (hide hinv.out.vl.symm) (by omega) kz (by omega) (by omega) (by omega) hRv hRh (by omega) (by rw [World.size_alloc]; omega)).mono ?_
              rintro e w' ⟨rfl, ka', kn', kc', K', h1, h2, h3⟩
              exact ⟨0, rfl, rfl, ka', kn', kc', K', hn1.1.trans h1, h2, h3⟩)))
            go_wp2
            go_region_held3 (fun w' => w'.cell? ⟨R, 4, none⟩ = some (.int .i64 k) ∧ w'.cell? ⟨R, 3, none⟩ = some (.int .i64 fuel)) (go_keep) (fail)
            go_wp2
            go_region_held3 (fun w' => w'.cell? ⟨R, 7, none⟩ = some (.slice (some ⟨G, 0, none⟩) n cn) ∧ w'.cell? ⟨R, 8, none⟩ = some (.int .i64 s.b) ∧ w'.cell? ⟨G, s.b, none⟩ = some (.slice (some ⟨g, 0, none⟩) ln cg) ∧ w'.cell? ⟨R, 9, none⟩ = some (.int .i64 s.pc) ∧ w'.cell? ⟨g, s.pc, none⟩ = some (.iface 124 (.agg #[.int .i64 2, .int .i64 xa, .int .i64 t1, .slice wa nw cw, .int .i64 T, .slice oa no co]))) (go_keep) (fail)
            go_wp2_with (go_at_call 81; refine HC.out.mono ?_; rintro e w1 ⟨c, rfl, rfl, ka', kn', kc', K', hq⟩; have HQ := hide hq; clear hq)
            have hst := (show PSt w w1 _ _ _ _ _ _ _ _ _ _ _ _ _ _ _ _ _ _ _ _ _ _ _ _ _ _ _ _ from ⟨HS.out.1.trans HQ.out.1, HQ.out.2⟩)
            have htl := hinv.out.tl
            exact ⟨⟨⟨T, 0, _, _, _⟩, k + 1, ta, nt, ct, ka', kn', kc', K', hide ⟨hst, HN0.out.keepC hst.1 hR hgv hgh hG, by have := hn.out; show T < n; omega, Nat.zero_le _, by show (takeTo _ _ _).length = _; rw [takeTo_len]; exact hinv.out.vl, hinv.out.hl, by omega, by omega, HR.out⟩⟩, by rw [hst.2.1.c4, c4]; simp [intOf]; omega⟩
          · obtain ⟨-, hwy⟩ := hw1 hk3
            obtain ⟨HTL, HTA⟩ := hway kt hwy
            have e1 := (hw1 hk3).1
            obtain ⟨a0, a1⟩ := hta (by omega)
            obtain ⟨xa, hxa⟩ := Int.eq_ofNat_of_zero_le a0
            rw [kt] at e1
            rw [hxa] at hval kz a1
            rw [kk, e1] at hval
            subst e1
            clear hway hw1 hw2 BO hk3 kk kt hwy hta hkd hmem hT hxa a0
            have HC := hide (step_end R 2 xa T t2 wa oa nw cw no co (fun c w' => c = 0 ∧ ∃ ka' kn' kc' K', PSt (((wr.setCell ⟨R, 4, none⟩ (.int .i64 ((k : Int) + 1))).setCell ⟨R, 9, none⟩ (.int .i64 ((s.pc : Int) + 1))).drew.drew) w' R aa na ca gh ch ta nt ct fuel ((k : Int) + 1) 0 gv nv cv G n cn T 0 ka' kn' kc' Bt (takeTo s.vals TS s.vals) s.hp s.tr K') (((wr.setCell ⟨R, 4, none⟩ (.int .i64 ((k : Int) + 1))).setCell ⟨R, 9, none⟩ (.int .i64 ((s.pc : Int) + 1))).drew.drew) (hide (fun x => by
              have hn1 := HS.out.self.next hBw (by omega) (balloc (Below.refl _ _) x)
              refine (end_then R aa na ca gh ch ta nt ct fuel ((k : Int) + 1) 0 gv nv cv G n cn s.b ((s.pc : Int) + 1) ka kn kc xa T t2 wa oa nw cw no co TS s.vals s.hp s.tr K (G + 1) Bt _ (hide hn1.2.1) (hide hn1.2.2) (hide (HTA.out x)) HTL hTSl HTO (hide hinv.out.vl.symm) (by omega) kz (by omega) (by omega) (by omega) hRv hRh (by omega) (by rw [World.size_alloc]; omega)).mono ?_
              rintro e w' ⟨rfl, ka', kn', kc', K', h1, h2, h3⟩
              exact ⟨0, rfl, rfl, ka', kn', kc', K', hn1.1.trans h1, h2, h3⟩)))
            go_wp2
            go_region_held3 (fun w' => w'.cell? ⟨R, 4, none⟩ = some (.int .i64 k) ∧ w'.cell? ⟨R, 3, none⟩ = some (.int .i64 fuel)) (go_keep) (fail)
            go_wp2
            go_region_held3 (fun w' => w'.cell? ⟨R, 7, none⟩ = some (.slice (some ⟨G, 0, none⟩) n cn) ∧ w'.cell? ⟨R, 8, none⟩ = some (.int .i64 s.b) ∧ w'.cell? ⟨G, s.b, none⟩ = some (.slice (some ⟨g, 0, none⟩) ln cg) ∧ w'.cell? ⟨R, 9, none⟩ = some (.int .i64 s.pc) ∧ w'.cell? ⟨g, s.pc, none⟩ = some (.iface 124 (.agg #[.int .i64 2, .int .i64 xa, .int .i64 T, .slice wa nw cw, .int .i64 t2, .slice oa no co]))) (go_keep) (fail)
            go_wp2_with (go_at_call 81; refine HC.out.mono ?_; rintro e w1 ⟨c, rfl, rfl, ka', kn', kc', K', hq⟩; have HQ := hide hq; clear hq)
            have hst := (show PSt w w1 _ _ _ _ _ _ _ _ _ _ _ _ _ _ _ _ _ _ _ _ _ _ _ _ _ _ _ _ from ⟨HS.out.1.trans HQ.out.1, HQ.out.2⟩)
            have htl := hinv.out.tl
            exact ⟨⟨⟨T, 0, _, _, _⟩, k + 1, ta, nt, ct, ka', kn', kc', K', hide ⟨hst, HN0.out.keepC hst.1 hR hgv hgh hG, by have := hn.out; show T < n; omega, Nat.zero_le _, by show (takeTo _ _ _).length = _; rw [takeTo_len]; exact hinv.out.vl, hinv.out.hl, by omega, by omega, HR.out⟩⟩, by rw [hst.2.1.c4, c4]; simp [intOf]; omega⟩
    · have hke : k = fuel := by omega
      subst hke
      have hr := hinv.out.run
      rw [Nat.sub_self] at hr
      have hr2 : R0 = ⟨3, 0, k, s.tr, s.hp⟩ := hr.symm
      subst hr2
      go_wp2
      go_region_held3 (fun w' => w'.cell? ⟨R, 4, none⟩ = some (.int .i64 k) ∧ w'.cell? ⟨R, 3, none⟩ = some (.int .i64 k)) (go_keep) (fail)
      go_wp2
      go_ret
      exact ⟨rfl, ta, nt, ct, ka, kn, kc, _, _, s.vals, K, hinv.out.st.drew⟩
end Go.Proofs.YteifkldaoddpdaaDoor
