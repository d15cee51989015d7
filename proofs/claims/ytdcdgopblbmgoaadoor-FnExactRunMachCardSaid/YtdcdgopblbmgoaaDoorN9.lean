import Derived.Test.YtdcdgopblbmgoaaDoorN11
import Derived.Test.YtdcdgopblbmgoaaDoorN8b
import Derived.Test.YtdcdgopblbmgoaaDoorN8d
import Derived.Test.YtdcdgopblbmgoaaDoorN8f
import Derived.Test.YtdcdgopblbmgoaaDoorN6
namespace Go.Proofs.YtdcdgopblbmgoaaDoor
open Go.RowKit

theorem step_ins (x : Ins) (args : List Int) (R : Nat) (aa : Option Addr) (na ca gh ch : Nat) (ta : Option Addr) (nt ct : Nat) (fuel k0 value : Int) (gv nv cv G n cn : Nat) (b pc : Int) (ka : Option Addr) (kn kc : Nat) (vals hp tr K : List Int) (Bt : Nat) (w : World)
    (hst : Hid (PSt w w R aa na ca gh ch ta nt ct fuel k0 value gv nv cv G n cn b pc ka kn kc Bt vals hp tr K)) (hnv : Hid (nv = vals.length)) (hh : Hid (hp.length = 32)) (hntl : nt ≤ 1000000) (ok : insOk nv 10 x = true) (hnt : ¬ (x.op = 6 ∧ getN vals x.b = 0)) (hR : R < Bt) (hgv : gv < Bt) (hgh : gh < Bt) (hRv : R ≠ gv) (hRh : R ≠ gh) (hB : Bt ≤ w.heap.size) :
    Calls Tryd.prog 117 #[.pointer (some ⟨R, 0, none⟩), nodeV args x] w
      fun e w' => e = .returned (.int .i64 0) ∧ ∃ ta' nt' ct', PSt w w' R aa na ca gh ch ta' nt' ct' fuel k0 value gv nv cv G n cn b pc ka kn kc Bt (execV x args vals hp) (execH x vals hp) (execT x vals tr) K := by
  obtain ⟨⟨o1, o2⟩, fd, fa, fb, fi⟩ := ins_facts ok
  obtain ⟨op, dst, xa, xb, imm⟩ := x
  dsimp only at *
  have hc : op = 1 ∨ op = 2 ∨ ((3 ≤ op ∧ op ≤ 7) ∧ op ≠ 6) ∨ op = 6 ∨ op = 8 ∨ op = 9 ∨ op = 10 := by omega
  rcases hc with rfl | rfl | ⟨⟨c1, c2⟩, c6⟩ | rfl | rfl | rfl | rfl
  · obtain ⟨d0, d1⟩ := fd (by decide)
    obtain ⟨D, rfl⟩ := Int.eq_ofNat_of_zero_le d0
    have e1 : nodeV args ⟨1, D, xa, xb, imm⟩ = .iface 214 (.agg #[.int .i64 D, .int .i64 imm]) := by simp [nodeV]
    rw [e1]
    refine (step_const R aa na ca gh ch ta nt ct fuel k0 value gv nv cv G n cn b pc ka kn kc D imm vals hp tr K Bt w hst hnv (by omega) hR hgv hgh hRv hRh hB).mono ?_
    rintro e w' ⟨rfl, h⟩
    exact ⟨rfl, ta, nt, ct, by simpa [execV, execH, execT, setN] using h⟩
  · obtain ⟨d0, d1⟩ := fd (by decide)
    obtain ⟨D, rfl⟩ := Int.eq_ofNat_of_zero_le d0
    have e1 : nodeV args ⟨2, D, xa, xb, imm⟩ = .iface 214 (.agg #[.int .i64 D, .int .i64 (argR args imm)]) := by simp [nodeV]
    rw [e1]
    refine (step_const R aa na ca gh ch ta nt ct fuel k0 value gv nv cv G n cn b pc ka kn kc D (argR args imm) vals hp tr K Bt w hst hnv (by omega) hR hgv hgh hRv hRh hB).mono ?_
    rintro e w' ⟨rfl, h⟩
    exact ⟨rfl, ta, nt, ct, by simpa [execV, execH, execT, setN] using h⟩
  · obtain ⟨d0, d1⟩ := fd (by simp [dB]; omega)
    obtain ⟨a0, a1⟩ := fa (by simp [aB]; omega)
    obtain ⟨b0, b1⟩ := fb (by simp [bB]; omega)
    obtain ⟨D, rfl⟩ := Int.eq_ofNat_of_zero_le d0
    obtain ⟨A, rfl⟩ := Int.eq_ofNat_of_zero_le a0
    obtain ⟨Bx, rfl⟩ := Int.eq_ofNat_of_zero_le b0
    have e0 : nodeV args ⟨op, D, A, Bx, imm⟩ = .iface 219 (.agg #[.int .i64 op, .int .i64 D, .int .i64 A, .int .i64 Bx]) := by
      unfold nodeV
      rw [if_neg (by dsimp only; omega), if_neg (by dsimp only; omega), if_neg (by dsimp only; omega), if_neg (by dsimp only; omega)]
    rw [e0]
    have e1 : execV ⟨op, D, A, Bx, imm⟩ args vals hp = vals.set D (arithR op (getN vals A) (getN vals Bx)) := by
      unfold execV
      simp only
      rw [if_neg (by omega), if_neg (by omega), if_neg (by omega), if_neg (by omega), if_neg (by omega)]
      simp [setN]
    have e2 : execH ⟨op, D, A, Bx, imm⟩ vals hp = hp := if_neg (by dsimp only; omega)
    have e3 : execT ⟨op, D, A, Bx, imm⟩ vals tr = tr := if_neg (by dsimp only; omega)
    rw [e1, e2, e3]
    refine (step_arith R aa na ca gh ch ta nt ct fuel k0 value gv nv cv G n cn b pc ka kn kc op D A Bx vals hp tr K Bt w hst hnv (by omega) (by omega) (by omega) c1 c2 c6 hR hgv hgh hRv hRh hB).mono ?_
    rintro e w' ⟨rfl, h⟩
    exact ⟨rfl, ta, nt, ct, h⟩
  · obtain ⟨d0, d1⟩ := fd (by decide)
    obtain ⟨a0, a1⟩ := fa (by decide)
    obtain ⟨b0, b1⟩ := fb (by decide)
    obtain ⟨D, rfl⟩ := Int.eq_ofNat_of_zero_le d0
    obtain ⟨A, rfl⟩ := Int.eq_ofNat_of_zero_le a0
    obtain ⟨Bx, rfl⟩ := Int.eq_ofNat_of_zero_le b0
    have e0 : nodeV args ⟨6, D, A, Bx, imm⟩ = .iface 219 (.agg #[.int .i64 6, .int .i64 D, .int .i64 A, .int .i64 Bx]) := by simp [nodeV]
    rw [e0]
    refine (step_div R aa na ca gh ch ta nt ct fuel k0 value gv nv cv G n cn b pc ka kn kc D A Bx vals hp tr K Bt w hst hnv (by omega) (by omega) (by omega) (fun h => hnt ⟨rfl, h⟩) hR hgv hgh hRv hRh hB).mono ?_
    rintro e w' ⟨rfl, h⟩
    exact ⟨rfl, ta, nt, ct, by simpa [execV, execH, execT, setN] using h⟩
  · obtain ⟨d0, d1⟩ := fd (by decide)
    obtain ⟨a0, a1⟩ := fa (by decide)
    obtain ⟨D, rfl⟩ := Int.eq_ofNat_of_zero_le d0
    obtain ⟨A, rfl⟩ := Int.eq_ofNat_of_zero_le a0
    have hxb : xb = 0 := by
      simp only [insOk, Bool.and_eq_true] at ok
      have := ok.1.2
      simpa [fld, bB] using this
    subst hxb
    have e0 : nodeV args ⟨8, D, A, 0, imm⟩ = .iface 216 (.agg #[.int .i64 8, .int .i64 D, .int .i64 A, .int .i64 (0 : Nat)]) := by simp [nodeV]
    rw [e0]
    refine (step_load R aa na ca gh ch ta nt ct fuel k0 value gv nv cv G n cn b pc ka kn kc D A 0 vals hp tr K Bt w hst hnv hh (by omega) (by omega) hR hgv hgh hRv hRh hB).mono ?_
    rintro e w' ⟨rfl, h⟩
    exact ⟨rfl, ta, nt, ct, by simpa [execV, execH, execT, setN] using h⟩
  · obtain ⟨a0, a1⟩ := fa (by decide)
    obtain ⟨b0, b1⟩ := fb (by decide)
    obtain ⟨A, rfl⟩ := Int.eq_ofNat_of_zero_le a0
    obtain ⟨Bx, rfl⟩ := Int.eq_ofNat_of_zero_le b0
    have hxd : dst = 0 := by
      simp only [insOk, Bool.and_eq_true] at ok
      have := ok.1.1.1.2
      simpa [fld, dB] using this
    subst hxd
    have e0 : nodeV args ⟨9, 0, A, Bx, imm⟩ = .iface 216 (.agg #[.int .i64 9, .int .i64 (0 : Nat), .int .i64 A, .int .i64 Bx]) := by simp [nodeV]
    rw [e0]
    refine (step_store R aa na ca gh ch ta nt ct fuel k0 value gv nv cv G n cn b pc ka kn kc 0 A Bx vals hp tr K Bt w hst hnv hh (by omega) (by omega) hR hgv hgh hRv hRh hB).mono ?_
    rintro e w' ⟨rfl, h⟩
    exact ⟨rfl, ta, nt, ct, by simpa [execV, execH, execT] using h⟩
  · obtain ⟨a0, a1⟩ := fa (by decide)
    obtain ⟨A, rfl⟩ := Int.eq_ofNat_of_zero_le a0
    have e0 : nodeV args ⟨10, dst, A, xb, imm⟩ = .iface 218 (.agg #[.int .i64 A]) := by simp [nodeV]
    rw [e0]
    refine (step_out R aa na ca gh ch ta nt ct fuel k0 value gv nv cv G n cn b pc ka kn kc A vals hp tr K Bt w hst hnv (by omega) hntl hR hgv hgh hRv hRh hB).mono ?_
    rintro e w' ⟨rfl, ta', nt', ct', h⟩
    exact ⟨rfl, ta', nt', ct', by simpa [execV, execH, execT] using h⟩

theorem step_halt (x : Ins) (args : List Int) (R : Nat) (aa : Option Addr) (na ca gh ch : Nat) (ta : Option Addr) (nt ct : Nat) (fuel k0 value : Int) (gv nv cv G n cn : Nat) (b pc : Int) (ka : Option Addr) (kn kc : Nat) (vals hp tr K : List Int) (Bt : Nat) (w : World)
    (hst : Hid (PSt w w R aa na ca gh ch ta nt ct fuel k0 value gv nv cv G n cn b pc ka kn kc Bt vals hp tr K)) (hnv : Hid (nv = vals.length)) (ok : insOk nv 10 x = true) (h6 : x.op = 6) (hz : getN vals x.b = 0) (hR : R < Bt) (hgv : gv < Bt) (hgh : gh < Bt) (hRv : R ≠ gv) (hRh : R ≠ gh) (hB : Bt ≤ w.heap.size) :
    Calls Tryd.prog 117 #[.pointer (some ⟨R, 0, none⟩), nodeV args x] w
      fun e w' => e = .returned (.int .i64 2) ∧ PSt w w' R aa na ca gh ch ta nt ct fuel k0 value gv nv cv G n cn b pc ka kn kc Bt vals hp tr K := by
  obtain ⟨⟨o1, o2⟩, fd, fa, fb, fi⟩ := ins_facts ok
  obtain ⟨op, dst, xa, xb, imm⟩ := x
  dsimp only at *
  subst h6
  obtain ⟨d0, d1⟩ := fd (by decide)
  obtain ⟨a0, a1⟩ := fa (by decide)
  obtain ⟨b0, b1⟩ := fb (by decide)
  obtain ⟨D, rfl⟩ := Int.eq_ofNat_of_zero_le d0
  obtain ⟨A, rfl⟩ := Int.eq_ofNat_of_zero_le a0
  obtain ⟨Bx, rfl⟩ := Int.eq_ofNat_of_zero_le b0
  have e0 : nodeV args ⟨6, D, A, Bx, imm⟩ = .iface 219 (.agg #[.int .i64 6, .int .i64 D, .int .i64 A, .int .i64 Bx]) := by simp [nodeV]
  rw [e0]
  exact step_trap R aa na ca gh ch ta nt ct fuel k0 value gv nv cv G n cn b pc ka kn kc D A Bx vals hp tr K Bt w hst hnv (by omega) hz hR hgv hgh hRv hRh hB

set_option maxHeartbeats 2000000 in
set_option maxRecDepth 100000 in
theorem step_end (R : Nat) (v0 v1 v2 v4 : Int) (ea oa : Option Addr) (ne ce no co : Nat) (Q : Int → World → Prop) (w : World)
    (hc : Hid (∀ x, Calls Tryd.prog 152 #[.pointer (some ⟨R, 0, none⟩), .agg #[.int .i64 v0, .int .i64 v1, .int .i64 v2, .slice ea ne ce, .int .i64 v4, .slice oa no co]] (w.alloc x) fun e w' => ∃ c, e = .returned (.int .i64 c) ∧ Q c w')) :
    Calls Tryd.prog 117 #[.pointer (some ⟨R, 0, none⟩), .iface 200 (.agg #[.int .i64 v0, .int .i64 v1, .int .i64 v2, .slice ea ne ce, .int .i64 v4, .slice oa no co])] w
      fun e w' => ∃ c, e = .returned (.int .i64 c) ∧ Q c w' := by
  have Y := fun xT v w => assert_yes Tryd.underlying200 xT v w
  have NC := fun xT v w => assert_no (t := 200) Tryd.underlying214 Tryd.zeroC (by decide) xT v w
  have NA := fun xT v w => assert_no (t := 200) Tryd.underlying219 Tryd.zeroA (by decide) xT v w
  have NH := fun xT v w => assert_no (t := 200) Tryd.underlying216 Tryd.zeroH (by decide) xT v w
  have NO := fun xT v w => assert_no (t := 200) Tryd.underlying218 Tryd.zeroO (by decide) xT v w
  have NP := fun xT v w => assert_no (t := 200) Tryd.underlying222 Tryd.zeroP (by decide) xT v w
  go_enter Tryd.func117, Tryd.ntmps117
  go_wp2_with (go_at_call 152; refine (hc.out _).mono ?_; rintro e w1 ⟨c, rfl, hq⟩; have HQ := hide hq; clear hq)
  go_ret
  exact ⟨c, rfl, HQ.out⟩
end Go.Proofs.YtdcdgopblbmgoaaDoor

namespace Go.Proofs.YtdcdgopblbmgoaaDoor
open Go.RowKit

set_option maxHeartbeats 4000000 in
set_option maxRecDepth 100000 in
theorem step_copy (R : Nat) (aa : Option Addr) (na ca gh ch : Nat) (ta : Option Addr) (nt ct : Nat) (fuel k0 value : Int) (gv nv cv G n cn : Nat) (b pc : Int) (ka : Option Addr) (kn kc : Nat) (D xa : Nat) (vals hp tr K : List Int) (Bt : Nat) (w : World)
    (hst : Hid (PSt w w R aa na ca gh ch ta nt ct fuel k0 value gv nv cv G n cn b pc ka kn kc Bt vals hp tr K)) (hnv : Hid (nv = vals.length)) (hD : D < nv) (hA : xa < nv) (hR : R < Bt) (hgv : gv < Bt) (hgh : gh < Bt) (hRv : R ≠ gv) (hRh : R ≠ gh) (hB : Bt ≤ w.heap.size) :
    Calls Tryd.prog 117 #[.pointer (some ⟨R, 0, none⟩), .iface 222 (.agg #[.int .i64 D, .int .i64 xa])] w
      fun e w' => e = .returned (.int .i64 0) ∧ PSt w w' R aa na ca gh ch ta nt ct fuel k0 value gv nv cv G n cn b pc ka kn kc Bt (vals.set D (getN vals xa)) hp tr K := by
  have ba := fun o => balloc (Below.refl w.heap.size w) o
  have c6 := fun x => ((ba x).cell (p := ⟨R, 6, none⟩) (by show R < _; omega)).trans hst.out.2.1.c6
  have n1 : w.heap.size ≠ R := by omega
  have n2 : w.heap.size ≠ gv := by omega
  have n3 : R ≠ w.heap.size := by omega
  have n4 : gv ≠ w.heap.size := by omega
  have n5 : gv ≠ R := fun e => hRv e.symm
  have n6 : gh ≠ R := fun e => hRh e.symm
  have n7 : gh ≠ w.heap.size := by omega
  have hvh := hst.out.2.2.mem.ne
  have hhv : gh ≠ gv := fun e => hvh e.symm
  have hDx : D < vals.length := by have := hnv.out; omega
  have hAx : xa < vals.length := by have := hnv.out; omega
  rw [getN_of _ _ hAx]
  have VD0 := hst.out.2.2.mem.vals.2 D hDx
  have VZ0 := hst.out.2.2.mem.vals.frozen D
  have VA0 := hst.out.2.2.mem.vals.2 xa hAx
  have HF := fun x => hide ((((hst.out.next hB hR (ba x)).setV hgv hRv hDx vals[xa])).drew)
  have cd := fun x => ((ba x).cell (p := ⟨gv, D, none⟩) (by show gv < _; omega)).trans VD0
  have cz := fun x => ((ba x).frozen (p := ⟨gv, D, none⟩) (by show gv < _; omega)).trans VZ0
  have ca1 := fun x => ((ba x).cell (p := ⟨gv, xa, none⟩) (by show gv < _; omega)).trans VA0
  have cs : ∀ x, ((w.alloc x).setCell ⟨gv, D, none⟩ (.int .i64 vals[xa])).cell? ⟨gv, xa, none⟩ = some (.int .i64 vals[xa]) := fun x => by
    by_cases e : xa = D
    · subst e
      exact World.cell?_setCell_same' _ _ _ (by simp [cd x])
    · exact (World.cell?_setCell_other _ _ _ _ (by intro e2; injection e2 with _ e3; omega)).trans (ca1 x)
  generalize vals[D] = VD at *
  generalize vals[xa] = VA at *
  have Y := fun xT v w => assert_yes Tryd.underlying222 xT v w
  have NC := fun xT v w => assert_no (t := 222) Tryd.underlying214 Tryd.zeroC (by decide) xT v w
  have NA := fun xT v w => assert_no (t := 222) Tryd.underlying219 Tryd.zeroA (by decide) xT v w
  have NH := fun xT v w => assert_no (t := 222) Tryd.underlying216 Tryd.zeroH (by decide) xT v w
  have NO := fun xT v w => assert_no (t := 222) Tryd.underlying218 Tryd.zeroO (by decide) xT v w
  go_enter Tryd.func117, Tryd.ntmps117
  go_wp2
  go_region_held3 (fun w' => w'.cell? ⟨R, 6, none⟩ = some (.slice (some ⟨gv, 0, none⟩) nv cv) ∧ w'.cell? ⟨w.heap.size, 0, none⟩ = some (.int .i64 D) ∧ w'.cell? ⟨w.heap.size, 1, none⟩ = some (.int .i64 xa) ∧ w'.cell? ⟨gv, xa, none⟩ = some (.int .i64 VA)) (go_keep) (fail)
  go_wp2
  go_ret
  exact ⟨rfl, (HF _).out⟩
end Go.Proofs.YtdcdgopblbmgoaaDoor
