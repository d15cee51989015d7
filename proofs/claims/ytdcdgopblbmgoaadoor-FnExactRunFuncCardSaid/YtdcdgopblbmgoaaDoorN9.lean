import Derived.Test.YtdcdgopblbmgoaaDoorN8a
import Derived.Test.YtdcdgopblbmgoaaDoorN8c
import Derived.Test.YtdcdgopblbmgoaaDoorN8e
import Derived.Test.YtdcdgopblbmgoaaDoorN8g
import Derived.Test.YtdcdgopblbmgoaaDoorRunS
namespace Go.Proofs.YtdcdgopblbmgoaaDoor
open Go.RowKit

theorem step_ins (x : Ins) (args : List Int) (R : Nat) (aa : Option Addr) (na ca gh ch : Nat) (ta : Option Addr) (nt ct : Nat) (fuel k0 value : Int) (gv nv cv G n cn : Nat) (b pc : Int) (ka : Option Addr) (kn kc : Nat) (vals hp tr K : List Int) (Bt : Nat) (w : World)
    (hst : Hid (PSt w w R aa na ca gh ch ta nt ct fuel k0 value gv nv cv G n cn b pc ka kn kc Bt vals hp tr K)) (hnv : Hid (nv = vals.length)) (hh : Hid (hp.length = 32)) (hntl : nt ≤ 1000000) (ok : insOk nv 10 x = true) (hnt : ¬ (x.op = 6 ∧ getN vals x.b = 0)) (hR : R < Bt) (hgv : gv < Bt) (hgh : gh < Bt) (hRv : R ≠ gv) (hRh : R ≠ gh) (hB : Bt ≤ w.heap.size) :
    Calls Tryd.prog 117 #[.pointer (some ⟨R, 0, none⟩), nodeV args x] w
      fun e w' => e = .returned (.int .i64 0) ∧ ∃ ta' nt' ct', PSt w w' R aa na ca gh ch ta' nt' ct' fuel k0 value gv nv cv G n cn b pc ka kn kc Bt (execV x args vals hp) (execH x vals hp) (execT x vals tr) K := by
  obtain ⟨⟨o1, o2⟩, fd, fa, fb, fi⟩ := ins_facts ok
  obtain ⟨op, dst, xa, xb, imm⟩ := x
  dsimp only at *
  have hc : op = 1 ∨ op = 2 ∨ ((3 ≤ op ∧ op ≤ 7) ∧ op ≠ 6) ∨ op = 6 ∨ op = 8 ∨ op = 9 ∨ op = 10 := by omega
  rcases hc with rfl | rfl | ⟨⟨c1, c2⟩, c6⟩ | rfl | rfl | rfl | rfl
  · obtain ⟨d0, d1⟩ := fd (by decide)
    obtain ⟨D, rfl⟩ := Int.eq_ofNat_of_zero_le d0
    have e1 : nodeV args ⟨1, D, xa, xb, imm⟩ = .iface 214 (.agg #[.int .i64 D, .int .i64 imm]) := by simp [nodeV]
    rw [e1]
    refine (step_const R aa na ca gh ch ta nt ct fuel k0 value gv nv cv G n cn b pc ka kn kc D imm vals hp tr K Bt w hst hnv (by omega) hR hgv hgh hRv hRh hB).mono ?_
    rintro e w' ⟨rfl, h⟩
    exact ⟨rfl, ta, nt, ct, by simpa [execV, execH, execT, setN] using h⟩
  · obtain ⟨d0, d1⟩ := fd (by decide)
    obtain ⟨D, rfl⟩ := Int.eq_ofNat_of_zero_le d0
    have e1 : nodeV args ⟨2, D, xa, xb, imm⟩ = .iface 214 (.agg #[.int .i64 D, .int .i64 (argR args imm)]) := by simp [nodeV]
    rw [e1]
    refine (step_const R aa na ca gh ch ta nt ct fuel k0 value gv nv cv G n cn b pc ka kn kc D (argR args imm) vals hp tr K Bt w hst hnv (by omega) hR hgv hgh hRv hRh hB).mono ?_
    rintro e w' ⟨rfl, h⟩
    exact ⟨rfl, ta, nt, ct, by simpa [execV, execH, execT, setN] using h⟩
  · obtain ⟨d0, d1⟩ := fd (by simp [dB]; omega)
    obtain ⟨a0, a1⟩ := fa (by simp [aB]; omega)
    obtain ⟨b0, b1⟩ := fb (by simp [bB]; omega)
    obtain ⟨D, rfl⟩ := Int.eq_ofNat_of_zero_le d0
    obtain ⟨A, rfl⟩ := Int.eq_ofNat_of_zero_le a0
    obtain ⟨Bx, rfl⟩ := Int.eq_ofNat_of_zero_le b0
    have e0 : nodeV args ⟨op, D, A, Bx, imm⟩ = .iface 219 (.agg #[.int .i64 op, .int .i64 D, .int .i64 A, .int .i64 Bx]) := by
      unfold nodeV
      rw [if_neg (by dsimp only; omega), if_neg (by dsimp only; omega), if_neg (by dsimp only; omega), if_neg (by dsimp only; omega)]
    rw [e0]
    have e1 : execV ⟨op, D, A, Bx, imm⟩ args vals hp = vals.set D (arithR op (getN vals A) (getN vals Bx)) := by
      unfold execV
      simp only
      rw [if_neg (by omega), if_neg (by omega), if_neg (by omega), if_neg (by omega), if_neg (by omega)]
      simp [setN]
    have e2 : execH ⟨op, D, A, Bx, imm⟩ vals hp = hp := if_neg (by dsimp only; omega)
    have e3 : execT ⟨op, D, A, Bx, imm⟩ vals tr = tr := if_neg (by dsimp only; omega)
    rw [e1, e2, e3]
    refine (step_arith R aa na ca gh ch ta nt ct fuel k0 value gv nv cv G n cn b pc ka kn kc op D A Bx vals hp tr K Bt w hst hnv (by omega) (by omega) (by omega) c1 c2 c6 hR hgv hgh hRv hRh hB).mono ?_
    rintro e w' ⟨rfl, h⟩
    exact ⟨rfl, ta, nt, ct, h⟩
  · obtain ⟨d0, d1⟩ := fd (by decide)
    obtain ⟨a0, a1⟩ := fa (by decide)
    obtain ⟨b0, b1⟩ := fb (by decide)
    obtain ⟨D, rfl⟩ := Int.eq_ofNat_of_zero_le d0
    obtain ⟨A, rfl⟩ := Int.eq_ofNat_of_zero_le a0
    obtain ⟨Bx, rfl⟩ := Int.eq_ofNat_of_zero_le b0
    have e0 : nodeV args ⟨6, D, A, Bx, imm⟩ = .iface 219 (.agg #[.int .i64 6, .int .i64 D, .int .i64 A, .int .i64 Bx]) := by simp [nodeV]
    rw [e0]
    refine (step_div R aa na ca gh ch ta nt ct fuel k0 value gv nv cv G n cn b pc ka kn kc D A Bx vals hp tr K Bt w hst hnv (by omega) (by omega) (by omega) (fun h => hnt ⟨rfl, h⟩) hR hgv hgh hRv hRh hB).mono ?_
    rintro e w' ⟨rfl, h⟩
    exact ⟨rfl, ta, nt, ct, by simpa [execV, execH, execT, setN] using h⟩
  · obtain ⟨d0, d1⟩ := fd (by decide)
    obtain ⟨a0, a1⟩ := fa (by decide)
    obtain ⟨D, rfl⟩ := Int.eq_ofNat_of_zero_le d0
    obtain ⟨A, rfl⟩ := Int.eq_ofNat_of_zero_le a0
    have hxb : xb = 0 := by
      simp only [insOk, Bool.and_eq_true] at ok
      have := ok.1.2
      simpa [fld, bB] using this
    subst hxb
    have e0 : nodeV args ⟨8, D, A, 0, imm⟩ = .iface 216 (.agg #[.int .i64 8, .int .i64 D, .int .i64 A, .int .i64 (0 : Nat)]) := by simp [nodeV]
    rw [e0]
    refine (step_load R aa na ca gh ch ta nt ct fuel k0 value gv nv cv G n cn b pc ka kn kc D A 0 vals hp tr K Bt w hst hnv hh (by omega) (by omega) hR hgv hgh hRv hRh hB).mono ?_
    rintro e w' ⟨rfl, h⟩
    exact ⟨rfl, ta, nt, ct, by simpa [execV, execH, execT, setN] using h⟩
  · obtain ⟨a0, a1⟩ := fa (by decide)
    obtain ⟨b0, b1⟩ := fb (by decide)
    obtain ⟨A, rfl⟩ := Int.eq_ofNat_of_zero_le a0
    obtain ⟨Bx, rfl⟩ := Int.eq_ofNat_of_zero_le b0
    have hxd : dst = 0 := by
      simp only [insOk, Bool.and_eq_true] at ok
      have := ok.1.1.1.2
      simpa [fld, dB] using this
    subst hxd
    have e0 : nodeV args ⟨9, 0, A, Bx, imm⟩ = .iface 216 (.agg #[.int .i64 9, .int .i64 (0 : Nat), .int .i64 A, .int .i64 Bx]) := by simp [nodeV]
    rw [e0]
    refine (step_store R aa na ca gh ch ta nt ct fuel k0 value gv nv cv G n cn b pc ka kn kc 0 A Bx vals hp tr K Bt w hst hnv hh (by omega) (by omega) hR hgv hgh hRv hRh hB).mono ?_
    rintro e w' ⟨rfl, h⟩
    exact ⟨rfl, ta, nt, ct, by simpa [execV, execH, execT] using h⟩
  · obtain ⟨a0, a1⟩ := fa (by decide)
    obtain ⟨A, rfl⟩ := Int.eq_ofNat_of_zero_le a0
    have e0 : nodeV args ⟨10, dst, A, xb, imm⟩ = .iface 218 (.agg #[.int .i64 A]) := by simp [nodeV]
    rw [e0]
    refine (step_out R aa na ca gh ch ta nt ct fuel k0 value gv nv cv G n cn b pc ka kn kc A vals hp tr K Bt w hst hnv (by omega) hntl hR hgv hgh hRv hRh hB).mono ?_
    rintro e w' ⟨rfl, ta', nt', ct', h⟩
    exact ⟨rfl, ta', nt', ct', by simpa [execV, execH, execT] using h⟩

theorem step_halt (x : Ins) (args : List Int) (R : Nat) (aa : Option Addr) (na ca gh ch : Nat) (ta : Option Addr) (nt ct : Nat) (fuel k0 value : Int) (gv nv cv G n cn : Nat) (b pc : Int) (ka : Option Addr) (kn kc : Nat) (vals hp tr K : List Int) (Bt : Nat) (w : World)
    (hst : Hid (PSt w w R aa na ca gh ch ta nt ct fuel k0 value gv nv cv G n cn b pc ka kn kc Bt vals hp tr K)) (hnv : Hid (nv = vals.length)) (ok : insOk nv 10 x = true) (h6 : x.op = 6) (hz : getN vals x.b = 0) (hR : R < Bt) (hgv : gv < Bt) (hgh : gh < Bt) (hRv : R ≠ gv) (hRh : R ≠ gh) (hB : Bt ≤ w.heap.size) :
    Calls Tryd.prog 117 #[.pointer (some ⟨R, 0, none⟩), nodeV args x] w
      fun e w' => e = .returned (.int .i64 2) ∧ PSt w w' R aa na ca gh ch ta nt ct fuel k0 value gv nv cv G n cn b pc ka kn kc Bt vals hp tr K := by
  obtain ⟨⟨o1, o2⟩, fd, fa, fb, fi⟩ := ins_facts ok
  obtain ⟨op, dst, xa, xb, imm⟩ := x
  dsimp only at *
  subst h6
  obtain ⟨d0, d1⟩ := fd (by decide)
  obtain ⟨a0, a1⟩ := fa (by decide)
  obtain ⟨b0, b1⟩ := fb (by decide)
  obtain ⟨D, rfl⟩ := Int.eq_ofNat_of_zero_le d0
  obtain ⟨A, rfl⟩ := Int.eq_ofNat_of_zero_le a0
  obtain ⟨Bx, rfl⟩ := Int.eq_ofNat_of_zero_le b0
  have e0 : nodeV args ⟨6, D, A, Bx, imm⟩ = .iface 219 (.agg #[.int .i64 6, .int .i64 D, .int .i64 A, .int .i64 Bx]) := by simp [nodeV]
  rw [e0]
  exact step_trap R aa na ca gh ch ta nt ct fuel k0 value gv nv cv G n cn b pc ka kn kc D A Bx vals hp tr K Bt w hst hnv (by omega) hz hR hgv hgh hRv hRh hB

set_option maxHeartbeats 2000000 in
set_option maxRecDepth 100000 in
theorem step_end (R : Nat) (v0 v1 v2 v4 : Int) (ea oa : Option Addr) (ne ce no co : Nat) (Q : Int → World → Prop) (w : World)
    (hc : Hid (∀ x, Calls Tryd.prog 152 #[.pointer (some ⟨R, 0, none⟩), .agg #[.int .i64 v0, .int .i64 v1, .int .i64 v2, .slice ea ne ce, .int .i64 v4, .slice oa no co]] (w.alloc x) fun e w' => ∃ c, e = .returned (.int .i64 c) ∧ Q c w')) :
    Calls Tryd.prog 117 #[.pointer (some ⟨R, 0, none⟩), .iface 200 (.agg #[.int .i64 v0, .int .i64 v1, .int .i64 v2, .slice ea ne ce, .int .i64 v4, .slice oa no co])] w
      fun e w' => ∃ c, e = .returned (.int .i64 c) ∧ Q c w' := by
  have Y := fun xT v w => assert_yes Tryd.underlying200 xT v w
  have NC := fun xT v w => assert_no (t := 200) Tryd.underlying214 Tryd.zeroC (by decide) xT v w
  have NA := fun xT v w => assert_no (t := 200) Tryd.underlying219 Tryd.zeroA (by decide) xT v w
  have NH := fun xT v w => assert_no (t := 200) Tryd.underlying216 Tryd.zeroH (by decide) xT v w
  have NO := fun xT v w => assert_no (t := 200) Tryd.underlying218 Tryd.zeroO (by decide) xT v w
  have NP := fun xT v w => assert_no (t := 200) Tryd.underlying222 Tryd.zeroP (by decide) xT v w
  go_enter Tryd.func117, Tryd.ntmps117
  go_wp2_with (go_at_call 152; refine (hc.out _).mono ?_; rintro e w1 ⟨c, rfl, hq⟩; have HQ := hide hq; clear hq)
  go_ret
  exact ⟨c, rfl, HQ.out⟩
end Go.Proofs.YtdcdgopblbmgoaaDoor

/-
  The program's loop of a run, whatever is run: what one step does is given.
-/
namespace Go.Proofs.YtdcdgopblbmgoaaDoor
open Go.RowKit

section
variable {w W W1 : World} {R : Nat} {aa : Option Addr} {na ca gh ch : Nat} {ta : Option Addr} {nt ct : Nat} {fuel k0 value : Int} {gv nv cv G n cn : Nat} {b pc : Int} {ka : Option Addr} {kn kc Bt : Nat} {vals hp tr K : List Int}
theorem PSt.self (h : PSt w W R aa na ca gh ch ta nt ct fuel k0 value gv nv cv G n cn b pc ka kn kc Bt vals hp tr K) : PSt W W R aa na ca gh ch ta nt ct fuel k0 value gv nv cv G n cn b pc ka kn kc Bt vals hp tr K := ⟨Kc.refl _ _ _ _ _, h.2⟩
theorem PSt.on {W2 : World} {ta' : Option Addr} {nt' ct' : Nat} {k1 value' : Int} {b' pc' : Int} {ka' : Option Addr} {kn' kc' : Nat} {vals' hp' tr' K' : List Int} (h : PSt w W R aa na ca gh ch ta nt ct fuel k0 value gv nv cv G n cn b pc ka kn kc Bt vals hp tr K) (k : PSt W W2 R aa na ca gh ch ta' nt' ct' fuel k1 value' gv nv cv G n cn b' pc' ka' kn' kc' Bt vals' hp' tr' K') : PSt w W2 R aa na ca gh ch ta' nt' ct' fuel k1 value' gv nv cv G n cn b' pc' ka' kn' kc' Bt vals' hp' tr' K' := ⟨h.1.trans k.1, k.2⟩
theorem PSt.tick (h : PSt w W R aa na ca gh ch ta nt ct fuel k0 value gv nv cv G n cn b pc ka kn kc Bt vals hp tr K) (hR : R < Bt) (hRv : R ≠ gv) (hRh : R ≠ gh) (k' pc' : Int) : PSt w (((W.setCell ⟨R, 4, none⟩ (.int .i64 k')).setCell ⟨R, 9, none⟩ (.int .i64 pc')).drew.drew) R aa na ca gh ch ta nt ct fuel k' value gv nv cv G n cn b pc' ka kn kc Bt vals hp tr K :=
  PSt.drew (PSt.drew ⟨(h.1.set (Or.inl rfl) _).set (Or.inl rfl) _, (h.2.1.set4 _).set9 _, h.2.2.keep (fun q _ h2 => (Below.heap_setCell _ _ _ _ (by show q ≠ R; omega)).trans (Below.heap_setCell _ _ _ _ (by show q ≠ R; omega)))⟩)
end

theorem Kc.low {B B' r gv gh : Nat} {w w1 : World} (h : Kc B r gv gh w w1) (hb : B' ≤ B) : Kc B' r gv gh w w1 := ⟨h.os, h.tape, h.output, h.size, fun i a b c d => h.block i (by omega) b c d⟩
theorem own_low {w : World} {B B' e s : Nat} {v : Value} {n : Nat} {xs : List Value} (h : w.ownsRow B e s v n xs) (hb : B' ≤ B) : w.ownsRow B' e s v n xs := by
  obtain ⟨hl, h | ⟨g, cap, cur, rfl, hg, hc⟩⟩ := h
  · exact ⟨hl, Or.inl h⟩
  · exact ⟨hl, Or.inr ⟨g, cap, cur, rfl, by omega, hc⟩⟩
/-- The answer's variable (block w.heap.size) is written; what is left of a run. -/
theorem run_fin {w w0 w1 w2 : World} {R : Nat} {aa : Option Addr} {na ca gh ch : Nat} {ta : Option Addr} {nt ct : Nat} {fuel k0 value : Int} {gv nv cv G n cn : Nat} {b pc : Int} {ka : Option Addr} {kn kc : Nat} {vals hp tr K : List Int}
    (h : PSt w0 w1 R aa na ca gh ch ta nt ct fuel k0 value gv nv cv G n cn b pc ka kn kc (w.heap.size + 1) vals hp tr K) (h0 : Below w.heap.size w w0) (hs1 : w.heap.size + 1 ≤ w1.heap.size) (hR : R < w.heap.size) (hgv : gv < w.heap.size) (hgh : gh < w.heap.size) (h2 : Below w1.heap.size w1 w2) (v0 v1 v2 v3 v4 : Value) :
    PSt w (((((w2.setCell ⟨w.heap.size, 0, none⟩ v0).setCell ⟨w.heap.size, 1, none⟩ v1).setCell ⟨w.heap.size, 2, none⟩ v2).setCell ⟨w.heap.size, 3, none⟩ v3).setCell ⟨w.heap.size, 4, none⟩ v4) R aa na ca gh ch ta nt ct fuel k0 value gv nv cv G n cn b pc ka kn kc w.heap.size vals hp tr K := by
  have hn := h.next hs1 (by omega) h2
  have f5 : ∀ q, q ≠ w.heap.size → (((((w2.setCell ⟨w.heap.size, 0, none⟩ v0).setCell ⟨w.heap.size, 1, none⟩ v1).setCell ⟨w.heap.size, 2, none⟩ v2).setCell ⟨w.heap.size, 3, none⟩ v3).setCell ⟨w.heap.size, 4, none⟩ v4).heap[q]? = w2.heap[q]? := fun q hq => by
    rw [Below.heap_setCell _ _ _ _ hq, Below.heap_setCell _ _ _ _ hq, Below.heap_setCell _ _ _ _ hq, Below.heap_setCell _ _ _ _ hq, Below.heap_setCell _ _ _ _ hq]
  have mm := hn.2.2.keep (w1 := (((((w2.setCell ⟨w.heap.size, 0, none⟩ v0).setCell ⟨w.heap.size, 1, none⟩ v1).setCell ⟨w.heap.size, 2, none⟩ v2).setCell ⟨w.heap.size, 3, none⟩ v3).setCell ⟨w.heap.size, 4, none⟩ v4)) (fun q _ hq => f5 q (by omega))
  refine ⟨(((((Kc.trans (Kc.of_below h0) (hn.1.low (Nat.le_succ _))).set (Or.inr (Or.inr (Or.inr (Nat.le_refl _)))) _).set (Or.inr (Or.inr (Or.inr (Nat.le_refl _)))) _).set (Or.inr (Or.inr (Or.inr (Nat.le_refl _)))) _).set (Or.inr (Or.inr (Or.inr (Nat.le_refl _)))) _).set (Or.inr (Or.inr (Or.inr (Nat.le_refl _)))) _, hn.2.1.keep (f5 R (by omega)), ⟨mm.mem.vals, mm.mem.heap, own_low mm.mem.own (Nat.le_succ _), mm.mem.ne, mm.mem.tvals, mm.mem.theap⟩, own_low mm.own (Nat.le_succ _), mm.tk⟩

set_option maxHeartbeats 4000000 in
set_option maxRecDepth 100000 in
theorem run_gen {σ : Type} (vw : σ → RS) (okS : σ → Prop) (out : Nat → Nat → σ → Out) (ndT : σ → TypeId) (ndV : σ → Value) (Tab : World → Prop) (fuel : Nat) (R0 : Out) (R : Nat) (aa : Option Addr) (na ca gh ch gv nv cv G n cn Bt : Nat) (s0 : σ) (w : World)
    (h0 : Hid (PBox w R aa na ca gh ch none 0 0 fuel 0 0 gv nv cv G n cn (vw s0).b (vw s0).pc none 0 0 ∧ IntsW w gv (vw s0).vals ∧ IntsW w gh (vw s0).hp ∧ (vw s0).tr = [])) (hok0 : Hid (okS s0)) (hrun0 : Hid (out fuel 0 s0 = R0)) (hf : fuel ≤ 60000)
    (hend : Hid (∀ k s, out 0 k s = ⟨3, 0, k, (vw s).tr, (vw s).hp⟩))
    (hkeep : Hid (∀ W W', Kc Bt R gv gh W W' → Tab W → Tab W'))
    (hcell : Hid (∀ s W, okS s → Tab W → ∃ g ln cg, W.cell? ⟨G, (vw s).b, none⟩ = some (.slice (some ⟨g, 0, none⟩) ln cg) ∧ (vw s).b < n ∧ (vw s).pc < ln ∧ (vw s).pc ≤ 1048576 ∧ W.cell? ⟨g, (vw s).pc, none⟩ = some (.iface (ndT s) (ndV s))))
    (hstep : Hid (∀ s (k : Nat) ta nt ct ka kn kc K W, okS s → Tab W → Bt ≤ W.heap.size → nt ≤ k → k < fuel → PSt W W R aa na ca gh ch ta nt ct fuel ((k : Int) + 1) 0 gv nv cv G n cn (vw s).b (((vw s).pc : Int) + 1) ka kn kc Bt (vw s).vals (vw s).hp (vw s).tr K →
      Calls Tryd.prog 117 #[.pointer (some ⟨R, 0, none⟩), .iface (ndT s) (ndV s)] W fun e w' => ∃ c, e = .returned (.int .i64 c) ∧ ∃ ta' nt' ct' ka' kn' kc' K',
        ((c ≠ 0 ∧ ∃ value b' pc' vals' hp' tr', PSt W w' R aa na ca gh ch ta' nt' ct' fuel ((k : Int) + 1) value gv nv cv G n cn b' pc' ka' kn' kc' Bt vals' hp' tr' K' ∧ ∀ q, out (q + 1) k s = ⟨c, value, k + 1, tr', hp'⟩) ∨
         (c = 0 ∧ ∃ s', okS s' ∧ nt' ≤ k + 1 ∧ PSt W w' R aa na ca gh ch ta' nt' ct' fuel ((k : Int) + 1) 0 gv nv cv G n cn (vw s').b (vw s').pc ka' kn' kc' Bt (vw s').vals (vw s').hp (vw s').tr K' ∧ ∀ q, out (q + 1) k s = out q (k + 1) s'))))
    (hR : R < w.heap.size) (hgv : gv < w.heap.size) (hgh : gh < w.heap.size) (hRv : R ≠ gv) (hRh : R ≠ gh) (hvh : gv ≠ gh) (hB : Bt = w.heap.size + 1) (hT1 : Hid (∀ x, Tab (w.alloc x))) :
    Calls Tryd.prog 76 #[.pointer (some ⟨R, 0, none⟩)] w
      fun e w' => ∃ ta nt ct, e = .returned (.agg #[.int .i64 R0.code, .int .i64 R0.value, .int .i64 R0.steps, .slice ta nt ct, .slice (some ⟨gh, 0, none⟩) 32 ch]) ∧ ∃ ka kn kc b pc vals K, PSt w w' R aa na ca gh ch ta nt ct fuel R0.steps R0.value gv nv cv G n cn b pc ka kn kc w.heap.size vals R0.hp R0.tr K := by
  subst hB
  have HSTART : Hid (∀ t, PSt (w.alloc (.cells #[.int .i64 0, .int .i64 0, .int .i64 0, .slice none 0 0, .slice none 0 0] t)) (w.alloc (.cells #[.int .i64 0, .int .i64 0, .int .i64 0, .slice none 0 0, .slice none 0 0] t)) R aa na ca gh ch none 0 0 fuel (0 : Nat) 0 gv nv cv G n cn (vw s0).b (vw s0).pc none 0 0 (w.heap.size + 1) (vw s0).vals (vw s0).hp (vw s0).tr []) := hide (fun t => by
    obtain ⟨h1, h2, h3, h4⟩ := h0.out
    have ba := balloc (Below.refl w.heap.size w) (.cells #[.int .i64 0, .int .i64 0, .int .i64 0, .slice none 0 0, .slice none 0 0] t)
    rw [h4]
    exact ⟨Kc.refl _ _ _ _ _, h1.keep (ba.block R hR), ⟨h2.keep (ba.block gv hgv), h3.keep (ba.block gh hgh), World.ownsRow_nil _ _ _ _, hvh, by simp [Value.ownBlock], by simp [Value.ownBlock]⟩, World.ownsRow_nil _ _ _ _, Or.inl rfl⟩)
  have HRB : Hid (∀ t, RB (w.alloc (.cells #[.int .i64 0, .int .i64 0, .int .i64 0, .slice none 0 0, .slice none 0 0] t)) w.heap.size) := hide (fun t => by
    refine ⟨⟨?_, ?_, ?_, ?_, ?_⟩, fun o => ?_⟩ <;> simp [go_sem])
  have HBA : Hid (∀ t, Below w.heap.size w (w.alloc (.cells #[.int .i64 0, .int .i64 0, .int .i64 0, .slice none 0 0, .slice none 0 0] t))) := hide (fun t => balloc (Below.refl _ _) _)
  have HSA : Hid (∀ t, (w.alloc (.cells #[.int .i64 0, .int .i64 0, .int .i64 0, .slice none 0 0, .slice none 0 0] t)).heap.size = w.heap.size + 1) := hide (fun t => by simp)
  go_enter Tryd.func76, Tryd.ntmps76
  go_wp2
  have HST0 := hide (HSTART.out 40)
  have HRB0 := hide (HRB.out 40)
  have HBA0 := hide (HBA.out 40)
  have HSA0 := hide (HSA.out 40)
  have HT0 := hide (hT1.out (.cells #[.int .i64 0, .int .i64 0, .int .i64 0, .slice none 0 0, .slice none 0 0] 40))
  generalize (w.alloc (.cells #[.int .i64 0, .int .i64 0, .int .i64 0, .slice none 0 0, .slice none 0 0] 40)) = w0 at *
  clear HSTART HRB HBA HSA
  go_loopw [] (fun wr => ∃ (s : σ) (k : Nat) (ta : Option Addr) (nt ct : Nat) (ka : Option Addr) (kn kc : Nat) (K : List Int), Hid (PSt w0 wr R aa na ca gh ch ta nt ct fuel k 0 gv nv cv G n cn (vw s).b (vw s).pc ka kn kc (w.heap.size + 1) (vw s).vals (vw s).hp (vw s).tr K ∧ okS s ∧ Tab wr ∧ nt ≤ k ∧ k ≤ fuel ∧ out (fuel - k) k s = R0)) (fun wr => fuel - (intOf ((wr.cell? ⟨R, 4, none⟩).getD undef)).toNat)
  case atStart => exact ⟨s0, 0, none, 0, 0, none, 0, 0, [], hide ⟨HST0.out, hok0.out, HT0.out, Nat.le_refl _, Nat.zero_le _, hrun0.out⟩⟩
  case round =>
    clear h0 hok0 hT1 hrun0 HST0 HT0
    obtain ⟨s, k, ta, nt, ct, ka, kn, kc, K, hinv⟩ := hrel
    obtain ⟨hst, hok, htab, htl, hkf, hrun⟩ := hinv.out
    have hbx := hst.2.1
    have c3 := hbx.c3
    have c4 := hbx.c4
    have c7 := hbx.c7
    have c8 := hbx.c8
    have c9 := hbx.c9
    have f4 := hbx.fz 4
    have f9 := hbx.fz 9
    have hksz := hst.1.size
    have HST := hide hst
    have HTAB := hide htab
    have HOK := hide hok
    have HRUN := hide hrun
    have hsz0 := HSA0.out
    have hBw0 : w.heap.size + 1 ≤ wr.heap.size := by omega
    have hRl : R < wr.heap.size := by omega
    clear hinv hst hok htab hrun hbx
    by_cases hk : k < fuel
    · obtain ⟨g, ln, cg, cG, hsb, hpc1, hpcb, cN⟩ := hcell.out s wr HOK.out HTAB.out
      have HS := hide (HST.out.tick (by omega) hRv hRh ((k : Int) + 1) (((vw s).pc : Int) + 1))
      have hBw : w.heap.size + 1 ≤ (((wr.setCell ⟨R, 4, none⟩ (.int .i64 ((k : Int) + 1))).setCell ⟨R, 9, none⟩ (.int .i64 (((vw s).pc : Int) + 1))).drew.drew).heap.size := by show w.heap.size + 1 ≤ ((wr.setCell ⟨R, 4, none⟩ (.int .i64 ((k : Int) + 1))).setCell ⟨R, 9, none⟩ (.int .i64 (((vw s).pc : Int) + 1))).heap.size; rw [size_setCell, size_setCell]; omega
      have HTB := hide (hkeep.out _ (((wr.setCell ⟨R, 4, none⟩ (.int .i64 ((k : Int) + 1))).setCell ⟨R, 9, none⟩ (.int .i64 (((vw s).pc : Int) + 1))).drew.drew) ((((Kc.refl (w.heap.size + 1) R gv gh wr).set (Or.inl rfl) _).set (Or.inl rfl) _).drew.drew) HTAB.out)
      have HC := hide (hstep.out s k ta nt ct ka kn kc K _ HOK.out HTB.out hBw htl hk HS.out.self)
      clear hBw
      generalize ndT s = T at *
      generalize ndV s = V at *
      generalize (vw s).b = sb at *
      generalize (vw s).pc = spc at *
      go_wp2
      go_region_held3 (fun w' => w'.cell? ⟨R, 4, none⟩ = some (.int .i64 k) ∧ w'.cell? ⟨R, 3, none⟩ = some (.int .i64 fuel)) (go_keep) (fail)
      go_wp2
      go_region_held3 (fun w' => w'.cell? ⟨R, 7, none⟩ = some (.slice (some ⟨G, 0, none⟩) n cn) ∧ w'.cell? ⟨R, 8, none⟩ = some (.int .i64 sb) ∧ w'.cell? ⟨G, sb, none⟩ = some (.slice (some ⟨g, 0, none⟩) ln cg) ∧ w'.cell? ⟨R, 9, none⟩ = some (.int .i64 spc) ∧ w'.cell? ⟨g, spc, none⟩ = some (.iface T V)) (go_keep) (fail)
      go_wp2_with fail
      refine HC.out.mono ?_
      rintro e w1 ⟨c, rfl, ta', nt', ct', ka', kn', kc', K', hq⟩
      obtain ⟨p, hp⟩ : ∃ q, fuel - k = q + 1 := ⟨fuel - k - 1, by omega⟩
      have hp2 : fuel - (k + 1) = p := by omega
      rcases hq with ⟨hc, value, b', pc', vals', hp', tr', hq, hout⟩ | ⟨rfl, s', hok', hnt', hq, hout⟩
      · have hr := HRUN.out
        rw [hp, hout p] at hr
        subst hr
        have hcb : (c != 0) = true := by simp [hc]
        have hp1 := HS.out.on hq
        have HP1 := hide hp1
        have d1 := hp1.2.1.c1
        have d2 := hp1.2.1.c2
        have d4 := hp1.2.1.c4
        have d5 := hp1.2.1.c5
        have hs1 := hp1.1.size
        have hRl2 : R < w1.heap.size := by omega
        have HRB1 := hide (HRB0.out.keep (hp1.1.block w.heap.size (by omega) (by omega) (by omega) (by omega)))
        have hs1' : w.heap.size + 1 ≤ w1.heap.size := by omega
        clear hq hout hp1 hp hc
        go_wp2_with (go_at_call 118; refine (outcome_any R c value ((k : Int) + 1) ta' nt' ct' (some ⟨gh, 0, none⟩) 32 ch w1 d1 d2 d4 d5 hRl2).mono ?_; rintro e w2 ⟨rfl, hb2⟩; obtain ⟨⟨r0, r1, r2, r3, r4⟩, rz⟩ := HRB1.out.keep (hb2.block w.heap.size hs1'); have HF := hide (run_fin HP1.out HBA0.out hs1' hR hgv hgh hb2); clear hb2)
        exact bodyPost_ret (v := .agg #[.int .i64 c, .int .i64 value, .int .i64 ((k : Int) + 1), .slice ta' nt' ct', .slice (some ⟨gh, 0, none⟩) 32 ch]) (by simp [results, Tryd.results76, go_sem, r0, r1, r2, r3, r4]) rfl ⟨ta', nt', ct', rfl, ka', kn', kc', b', pc', vals', K', HF.out _ _ _ _ _⟩
      · have hr := HRUN.out
        rw [hp, hout p, ← hp2] at hr
        have hp1 := HS.out.on hq
        have hc4 := hp1.2.1.c4
        have HN := hide (show PSt w0 w1 R aa na ca gh ch ta' nt' ct' fuel (k + 1 : Nat) 0 gv nv cv G n cn (vw s').b (vw s').pc ka' kn' kc' (w.heap.size + 1) (vw s').vals (vw s').hp (vw s').tr K' ∧ okS s' ∧ Tab w1 ∧ nt' ≤ k + 1 ∧ k + 1 ≤ fuel ∧ out (fuel - (k + 1)) (k + 1) s' = R0 from ⟨hp1, hok', hkeep.out _ _ hq.1 HTB.out, hnt', by omega, hr⟩)
        clear hq hout hp1 hp hr
        have hms : fuel - (intOf ((w1.cell? ⟨R, 4, none⟩).getD undef)).toNat < fuel - (intOf ((wr.cell? ⟨R, 4, none⟩).getD undef)).toNat := by rw [hc4, c4]; simp [intOf]; omega
        have HMS := hide hms
        clear hms
        go_wp2
        exact ⟨⟨s', k + 1, ta', nt', ct', ka', kn', kc', K', HN⟩, HMS.out⟩
    · have hke : k = fuel := by omega
      subst hke
      have hr := HRUN.out
      rw [Nat.sub_self, hend.out] at hr
      subst hr
      have c1 := HST.out.2.1.c1
      have c2 := HST.out.2.1.c2
      have c5 := HST.out.2.1.c5
      have HRB1 := hide (HRB0.out.keep (HST.out.1.block w.heap.size (by omega) (by omega) (by omega) (by omega)))
      have HSD := hide HST.out.drew
      go_wp2
      go_region_held3 (fun w' => w'.cell? ⟨R, 4, none⟩ = some (.int .i64 k) ∧ w'.cell? ⟨R, 3, none⟩ = some (.int .i64 k)) (go_keep) (fail)
      go_wp2_with (go_at_call 118; refine (outcome_any R 3 0 (k : Int) ta nt ct (some ⟨gh, 0, none⟩) 32 ch wr.drew c1 c2 c4 c5 hRl).mono ?_; rintro e w2 ⟨rfl, hb2⟩; obtain ⟨⟨r0, r1, r2, r3, r4⟩, rz⟩ := HRB1.out.keep (hb2.block w.heap.size hBw0); have HF := hide (run_fin HSD.out HBA0.out hBw0 hR hgv hgh hb2); clear hb2)
      exact bodyPost_ret (v := .agg #[.int .i64 3, .int .i64 0, .int .i64 (k : Int), .slice ta nt ct, .slice (some ⟨gh, 0, none⟩) 32 ch]) (by simp [results, Tryd.results76, go_sem, r0, r1, r2, r3, r4]) rfl ⟨ta, nt, ct, rfl, ka, kn, kc, _, _, _, K, HF.out _ _ _ _ _⟩
end Go.Proofs.YtdcdgopblbmgoaaDoor
