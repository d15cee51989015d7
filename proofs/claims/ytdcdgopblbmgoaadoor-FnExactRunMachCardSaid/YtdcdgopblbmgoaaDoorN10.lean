import Derived.Test.YtdcdgopblbmgoaaDoorN9
import Derived.Test.YtdcdgopblbmgoaaDoorR5
import Derived.Test.YtdcdgopblbmgoaaDoorN11
/-
  The program's loop of a run, whatever is run: what one step does is given.
-/
namespace Go.Proofs.YtdcdgopblbmgoaaDoor
open Go.RowKit

section
variable {w W W1 : World} {R : Nat} {aa : Option Addr} {na ca gh ch : Nat} {ta : Option Addr} {nt ct : Nat} {fuel k0 value : Int} {gv nv cv G n cn : Nat} {b pc : Int} {ka : Option Addr} {kn kc Bt : Nat} {vals hp tr K : List Int}
theorem PSt.self (h : PSt w W R aa na ca gh ch ta nt ct fuel k0 value gv nv cv G n cn b pc ka kn kc Bt vals hp tr K) : PSt W W R aa na ca gh ch ta nt ct fuel k0 value gv nv cv G n cn b pc ka kn kc Bt vals hp tr K := ⟨Kc.refl _ _ _ _ _, h.2⟩
theorem PSt.on {W2 : World} {ta' : Option Addr} {nt' ct' : Nat} {k1 value' : Int} {b' pc' : Int} {ka' : Option Addr} {kn' kc' : Nat} {vals' hp' tr' K' : List Int} (h : PSt w W R aa na ca gh ch ta nt ct fuel k0 value gv nv cv G n cn b pc ka kn kc Bt vals hp tr K) (k : PSt W W2 R aa na ca gh ch ta' nt' ct' fuel k1 value' gv nv cv G n cn b' pc' ka' kn' kc' Bt vals' hp' tr' K') : PSt w W2 R aa na ca gh ch ta' nt' ct' fuel k1 value' gv nv cv G n cn b' pc' ka' kn' kc' Bt vals' hp' tr' K' := ⟨h.1.trans k.1, k.2⟩
theorem PSt.tick (h : PSt w W R aa na ca gh ch ta nt ct fuel k0 value gv nv cv G n cn b pc ka kn kc Bt vals hp tr K) (hR : R < Bt) (hRv : R ≠ gv) (hRh : R ≠ gh) (k' pc' : Int) : PSt w (((W.setCell ⟨R, 4, none⟩ (.int .i64 k')).setCell ⟨R, 9, none⟩ (.int .i64 pc')).drew.drew) R aa na ca gh ch ta nt ct fuel k' value gv nv cv G n cn b pc' ka kn kc Bt vals hp tr K :=
  PSt.drew (PSt.drew ⟨(h.1.set (Or.inl rfl) _).set (Or.inl rfl) _, (h.2.1.set4 _).set9 _, h.2.2.keep (fun q _ h2 => (Below.heap_setCell _ _ _ _ (by show q ≠ R; omega)).trans (Below.heap_setCell _ _ _ _ (by show q ≠ R; omega)))⟩)
end

theorem Kc.low {B B' r gv gh : Nat} {w w1 : World} (h : Kc B r gv gh w w1) (hb : B' ≤ B) : Kc B' r gv gh w w1 := ⟨h.os, h.tape, h.output, h.size, fun i a b c d => h.block i (by omega) b c d⟩
theorem own_low {w : World} {B B' e s : Nat} {v : Value} {n : Nat} {xs : List Value} (h : w.ownsRow B e s v n xs) (hb : B' ≤ B) : w.ownsRow B' e s v n xs := by
  obtain ⟨hl, h | ⟨g, cap, cur, rfl, hg, hc⟩⟩ := h
  · exact ⟨hl, Or.inl h⟩
  · exact ⟨hl, Or.inr ⟨g, cap, cur, rfl, by omega, hc⟩⟩
/-- The answer's variable (block w.heap.size) is written; what is left of a run. -/
theorem run_fin {w w0 w1 w2 : World} {R : Nat} {aa : Option Addr} {na ca gh ch : Nat} {ta : Option Addr} {nt ct : Nat} {fuel k0 value : Int} {gv nv cv G n cn : Nat} {b pc : Int} {ka : Option Addr} {kn kc : Nat} {vals hp tr K : List Int}
    (h : PSt w0 w1 R aa na ca gh ch ta nt ct fuel k0 value gv nv cv G n cn b pc ka kn kc (w.heap.size + 1) vals hp tr K) (h0 : Below w.heap.size w w0) (hs1 : w.heap.size + 1 ≤ w1.heap.size) (hR : R < w.heap.size) (hgv : gv < w.heap.size) (hgh : gh < w.heap.size) (h2 : Below w1.heap.size w1 w2) (v0 v1 v2 v3 v4 : Value) :
    PSt w (((((w2.setCell ⟨w.heap.size, 0, none⟩ v0).setCell ⟨w.heap.size, 1, none⟩ v1).setCell ⟨w.heap.size, 2, none⟩ v2).setCell ⟨w.heap.size, 3, none⟩ v3).setCell ⟨w.heap.size, 4, none⟩ v4) R aa na ca gh ch ta nt ct fuel k0 value gv nv cv G n cn b pc ka kn kc w.heap.size vals hp tr K := by
  have hn := h.next hs1 (by omega) h2
  have f5 : ∀ q, q ≠ w.heap.size → (((((w2.setCell ⟨w.heap.size, 0, none⟩ v0).setCell ⟨w.heap.size, 1, none⟩ v1).setCell ⟨w.heap.size, 2, none⟩ v2).setCell ⟨w.heap.size, 3, none⟩ v3).setCell ⟨w.heap.size, 4, none⟩ v4).heap[q]? = w2.heap[q]? := fun q hq => by
    rw [Below.heap_setCell _ _ _ _ hq, Below.heap_setCell _ _ _ _ hq, Below.heap_setCell _ _ _ _ hq, Below.heap_setCell _ _ _ _ hq, Below.heap_setCell _ _ _ _ hq]
  have mm := hn.2.2.keep (w1 := (((((w2.setCell ⟨w.heap.size, 0, none⟩ v0).setCell ⟨w.heap.size, 1, none⟩ v1).setCell ⟨w.heap.size, 2, none⟩ v2).setCell ⟨w.heap.size, 3, none⟩ v3).setCell ⟨w.heap.size, 4, none⟩ v4)) (fun q _ hq => f5 q (by omega))
  refine ⟨(((((Kc.trans (Kc.of_below h0) (hn.1.low (Nat.le_succ _))).set (Or.inr (Or.inr (Or.inr (Nat.le_refl _)))) _).set (Or.inr (Or.inr (Or.inr (Nat.le_refl _)))) _).set (Or.inr (Or.inr (Or.inr (Nat.le_refl _)))) _).set (Or.inr (Or.inr (Or.inr (Nat.le_refl _)))) _).set (Or.inr (Or.inr (Or.inr (Nat.le_refl _)))) _, hn.2.1.keep (f5 R (by omega)), ⟨mm.mem.vals, mm.mem.heap, own_low mm.mem.own (Nat.le_succ _), mm.mem.ne, mm.mem.tvals, mm.mem.theap⟩, own_low mm.own (Nat.le_succ _), mm.tk⟩

set_option maxHeartbeats 4000000 in
set_option maxRecDepth 100000 in
theorem run_gen {σ : Type} (vw : σ → RS) (okS : σ → Prop) (out : Nat → Nat → σ → Out) (ndT : σ → TypeId) (ndV : σ → Value) (Tab : World → Prop) (fuel : Nat) (R0 : Out) (R : Nat) (aa : Option Addr) (na ca gh ch gv nv cv G n cn Bt : Nat) (s0 : σ) (w : World)
    (h0 : Hid (PBox w R aa na ca gh ch none 0 0 fuel 0 0 gv nv cv G n cn (vw s0).b (vw s0).pc none 0 0 ∧ IntsW w gv (vw s0).vals ∧ IntsW w gh (vw s0).hp ∧ (vw s0).tr = [])) (hok0 : Hid (okS s0)) (hrun0 : Hid (out fuel 0 s0 = R0)) (hf : fuel ≤ 60000)
    (hend : Hid (∀ k s, out 0 k s = ⟨3, 0, k, (vw s).tr, (vw s).hp⟩))
    (hkeep : Hid (∀ W W', Kc Bt R gv gh W W' → Tab W → Tab W'))
    (hcell : Hid (∀ s W, okS s → Tab W → ∃ g ln cg, W.cell? ⟨G, (vw s).b, none⟩ = some (.slice (some ⟨g, 0, none⟩) ln cg) ∧ (vw s).b < n ∧ (vw s).pc < ln ∧ (vw s).pc ≤ 1048576 ∧ W.cell? ⟨g, (vw s).pc, none⟩ = some (.iface (ndT s) (ndV s))))
    (hstep : Hid (∀ s (k : Nat) ta nt ct ka kn kc K W, okS s → Tab W → Bt ≤ W.heap.size → nt ≤ k → k < fuel → PSt W W R aa na ca gh ch ta nt ct fuel ((k : Int) + 1) 0 gv nv cv G n cn (vw s).b (((vw s).pc : Int) + 1) ka kn kc Bt (vw s).vals (vw s).hp (vw s).tr K →
      Calls Tryd.prog 117 #[.pointer (some ⟨R, 0, none⟩), .iface (ndT s) (ndV s)] W fun e w' => ∃ c, e = .returned (.int .i64 c) ∧ ∃ ta' nt' ct' ka' kn' kc' K',
        ((c ≠ 0 ∧ ∃ value b' pc' vals' hp' tr', PSt W w' R aa na ca gh ch ta' nt' ct' fuel ((k : Int) + 1) value gv nv cv G n cn b' pc' ka' kn' kc' Bt vals' hp' tr' K' ∧ ∀ q, out (q + 1) k s = ⟨c, value, k + 1, tr', hp'⟩) ∨
         (c = 0 ∧ ∃ s', okS s' ∧ nt' ≤ k + 1 ∧ PSt W w' R aa na ca gh ch ta' nt' ct' fuel ((k : Int) + 1) 0 gv nv cv G n cn (vw s').b (vw s').pc ka' kn' kc' Bt (vw s').vals (vw s').hp (vw s').tr K' ∧ ∀ q, out (q + 1) k s = out q (k + 1) s'))))
    (hR : R < w.heap.size) (hgv : gv < w.heap.size) (hgh : gh < w.heap.size) (hRv : R ≠ gv) (hRh : R ≠ gh) (hvh : gv ≠ gh) (hB : Bt = w.heap.size + 1) (hT1 : Hid (∀ x, Tab (w.alloc x))) :
    Calls Tryd.prog 76 #[.pointer (some ⟨R, 0, none⟩)] w
      fun e w' => ∃ ta nt ct, e = .returned (.agg #[.int .i64 R0.code, .int .i64 R0.value, .int .i64 R0.steps, .slice ta nt ct, .slice (some ⟨gh, 0, none⟩) 32 ch]) ∧ ∃ ka kn kc b pc vals K, PSt w w' R aa na ca gh ch ta nt ct fuel R0.steps R0.value gv nv cv G n cn b pc ka kn kc w.heap.size vals R0.hp R0.tr K := by
  subst hB
  have HSTART : Hid (∀ t, PSt (w.alloc (.cells #[.int .i64 0, .int .i64 0, .int .i64 0, .slice none 0 0, .slice none 0 0] t)) (w.alloc (.cells #[.int .i64 0, .int .i64 0, .int .i64 0, .slice none 0 0, .slice none 0 0] t)) R aa na ca gh ch none 0 0 fuel (0 : Nat) 0 gv nv cv G n cn (vw s0).b (vw s0).pc none 0 0 (w.heap.size + 1) (vw s0).vals (vw s0).hp (vw s0).tr []) := hide (fun t => by
    obtain ⟨h1, h2, h3, h4⟩ := h0.out
    have ba := balloc (Below.refl w.heap.size w) (.cells #[.int .i64 0, .int .i64 0, .int .i64 0, .slice none 0 0, .slice none 0 0] t)
    rw [h4]
    exact ⟨Kc.refl _ _ _ _ _, h1.keep (ba.block R hR), ⟨h2.keep (ba.block gv hgv), h3.keep (ba.block gh hgh), World.ownsRow_nil _ _ _ _, hvh, by simp [Value.ownBlock], by simp [Value.ownBlock]⟩, World.ownsRow_nil _ _ _ _, Or.inl rfl⟩)
  have HRB : Hid (∀ t, RB (w.alloc (.cells #[.int .i64 0, .int .i64 0, .int .i64 0, .slice none 0 0, .slice none 0 0] t)) w.heap.size) := hide (fun t => by
    refine ⟨⟨?_, ?_, ?_, ?_, ?_⟩, fun o => ?_⟩ <;> simp [go_sem])
  have HBA : Hid (∀ t, Below w.heap.size w (w.alloc (.cells #[.int .i64 0, .int .i64 0, .int .i64 0, .slice none 0 0, .slice none 0 0] t))) := hide (fun t => balloc (Below.refl _ _) _)
  have HSA : Hid (∀ t, (w.alloc (.cells #[.int .i64 0, .int .i64 0, .int .i64 0, .slice none 0 0, .slice none 0 0] t)).heap.size = w.heap.size + 1) := hide (fun t => by simp)
  go_enter Tryd.func76, Tryd.ntmps76
  go_wp2
  have HST0 := hide (HSTART.out 40)
  have HRB0 := hide (HRB.out 40)
  have HBA0 := hide (HBA.out 40)
  have HSA0 := hide (HSA.out 40)
  have HT0 := hide (hT1.out (.cells #[.int .i64 0, .int .i64 0, .int .i64 0, .slice none 0 0, .slice none 0 0] 40))
  generalize (w.alloc (.cells #[.int .i64 0, .int .i64 0, .int .i64 0, .slice none 0 0, .slice none 0 0] 40)) = w0 at *
  clear HSTART HRB HBA HSA
  go_loopw [] (fun wr => ∃ (s : σ) (k : Nat) (ta : Option Addr) (nt ct : Nat) (ka : Option Addr) (kn kc : Nat) (K : List Int), Hid (PSt w0 wr R aa na ca gh ch ta nt ct fuel k 0 gv nv cv G n cn (vw s).b (vw s).pc ka kn kc (w.heap.size + 1) (vw s).vals (vw s).hp (vw s).tr K ∧ okS s ∧ Tab wr ∧ nt ≤ k ∧ k ≤ fuel ∧ out (fuel - k) k s = R0)) (fun wr => fuel - (intOf ((wr.cell? ⟨R, 4, none⟩).getD undef)).toNat)
  case atStart => exact ⟨s0, 0, none, 0, 0, none, 0, 0, [], hide ⟨HST0.out, hok0.out, HT0.out, Nat.le_refl _, Nat.zero_le _, hrun0.out⟩⟩
  case round =>
    clear h0 hok0 hT1 hrun0 HST0 HT0
    obtain ⟨s, k, ta, nt, ct, ka, kn, kc, K, hinv⟩ := hrel
    obtain ⟨hst, hok, htab, htl, hkf, hrun⟩ := hinv.out
    have hbx := hst.2.1
    have c3 := hbx.c3
    have c4 := hbx.c4
    have c7 := hbx.c7
    have c8 := hbx.c8
    have c9 := hbx.c9
    have f4 := hbx.fz 4
    have f9 := hbx.fz 9
    have hksz := hst.1.size
    have HST := hide hst
    have HTAB := hide htab
    have HOK := hide hok
    have HRUN := hide hrun
    have hsz0 := HSA0.out
    have hBw0 : w.heap.size + 1 ≤ wr.heap.size := by omega
    have hRl : R < wr.heap.size := by omega
    clear hinv hst hok htab hrun hbx
    by_cases hk : k < fuel
    · obtain ⟨g, ln, cg, cG, hsb, hpc1, hpcb, cN⟩ := hcell.out s wr HOK.out HTAB.out
      have HS := hide (HST.out.tick (by omega) hRv hRh ((k : Int) + 1) (((vw s).pc : Int) + 1))
      have hBw : w.heap.size + 1 ≤ (((wr.setCell ⟨R, 4, none⟩ (.int .i64 ((k : Int) + 1))).setCell ⟨R, 9, none⟩ (.int .i64 (((vw s).pc : Int) + 1))).drew.drew).heap.size := by show w.heap.size + 1 ≤ ((wr.setCell ⟨R, 4, none⟩ (.int .i64 ((k : Int) + 1))).setCell ⟨R, 9, none⟩ (.int .i64 (((vw s).pc : Int) + 1))).heap.size; rw [size_setCell, size_setCell]; omega
      have HTB := hide (hkeep.out _ (((wr.setCell ⟨R, 4, none⟩ (.int .i64 ((k : Int) + 1))).setCell ⟨R, 9, none⟩ (.int .i64 (((vw s).pc : Int) + 1))).drew.drew) ((((Kc.refl (w.heap.size + 1) R gv gh wr).set (Or.inl rfl) _).set (Or.inl rfl) _).drew.drew) HTAB.out)
      have HC := hide (hstep.out s k ta nt ct ka kn kc K _ HOK.out HTB.out hBw htl hk HS.out.self)
      clear hBw
      generalize ndT s = T at *
      generalize ndV s = V at *
      generalize (vw s).b = sb at *
      generalize (vw s).pc = spc at *
      go_wp2
      go_region_held3 (fun w' => w'.cell? ⟨R, 4, none⟩ = some (.int .i64 k) ∧ w'.cell? ⟨R, 3, none⟩ = some (.int .i64 fuel)) (go_keep) (fail)
      go_wp2
      go_region_held3 (fun w' => w'.cell? ⟨R, 7, none⟩ = some (.slice (some ⟨G, 0, none⟩) n cn) ∧ w'.cell? ⟨R, 8, none⟩ = some (.int .i64 sb) ∧ w'.cell? ⟨G, sb, none⟩ = some (.slice (some ⟨g, 0, none⟩) ln cg) ∧ w'.cell? ⟨R, 9, none⟩ = some (.int .i64 spc) ∧ w'.cell? ⟨g, spc, none⟩ = some (.iface T V)) (go_keep) (fail)
      go_wp2_with fail
      refine HC.out.mono ?_
      rintro e w1 ⟨c, rfl, ta', nt', ct', ka', kn', kc', K', hq⟩
      obtain ⟨p, hp⟩ : ∃ q, fuel - k = q + 1 := ⟨fuel - k - 1, by omega⟩
      have hp2 : fuel - (k + 1) = p := by omega
      rcases hq with ⟨hc, value, b', pc', vals', hp', tr', hq, hout⟩ | ⟨rfl, s', hok', hnt', hq, hout⟩
      · have hr := HRUN.out
        rw [hp, hout p] at hr
        subst hr
        have hcb : (c != 0) = true := by simp [hc]
        have hp1 := HS.out.on hq
        have HP1 := hide hp1
        have d1 := hp1.2.1.c1
        have d2 := hp1.2.1.c2
        have d4 := hp1.2.1.c4
        have d5 := hp1.2.1.c5
        have hs1 := hp1.1.size
        have hRl2 : R < w1.heap.size := by omega
        have HRB1 := hide (HRB0.out.keep (hp1.1.block w.heap.size (by omega) (by omega) (by omega) (by omega)))
        have hs1' : w.heap.size + 1 ≤ w1.heap.size := by omega
        clear hq hout hp1 hp hc
        go_wp2_with (go_at_call 118; refine (outcome_any R c value ((k : Int) + 1) ta' nt' ct' (some ⟨gh, 0, none⟩) 32 ch w1 d1 d2 d4 d5 hRl2).mono ?_; rintro e w2 ⟨rfl, hb2⟩; obtain ⟨⟨r0, r1, r2, r3, r4⟩, rz⟩ := HRB1.out.keep (hb2.block w.heap.size hs1'); have HF := hide (run_fin HP1.out HBA0.out hs1' hR hgv hgh hb2); clear hb2)
        exact bodyPost_ret (v := .agg #[.int .i64 c, .int .i64 value, .int .i64 ((k : Int) + 1), .slice ta' nt' ct', .slice (some ⟨gh, 0, none⟩) 32 ch]) (by simp [results, Tryd.results76, go_sem, r0, r1, r2, r3, r4]) rfl ⟨ta', nt', ct', rfl, ka', kn', kc', b', pc', vals', K', HF.out _ _ _ _ _⟩
      · have hr := HRUN.out
        rw [hp, hout p, ← hp2] at hr
        have hp1 := HS.out.on hq
        have hc4 := hp1.2.1.c4
        have HN := hide (show PSt w0 w1 R aa na ca gh ch ta' nt' ct' fuel (k + 1 : Nat) 0 gv nv cv G n cn (vw s').b (vw s').pc ka' kn' kc' (w.heap.size + 1) (vw s').vals (vw s').hp (vw s').tr K' ∧ okS s' ∧ Tab w1 ∧ nt' ≤ k + 1 ∧ k + 1 ≤ fuel ∧ out (fuel - (k + 1)) (k + 1) s' = R0 from ⟨hp1, hok', hkeep.out _ _ hq.1 HTB.out, hnt', by omega, hr⟩)
        clear hq hout hp1 hp hr
        have hms : fuel - (intOf ((w1.cell? ⟨R, 4, none⟩).getD undef)).toNat < fuel - (intOf ((wr.cell? ⟨R, 4, none⟩).getD undef)).toNat := by rw [hc4, c4]; simp [intOf]; omega
        have HMS := hide hms
        clear hms
        go_wp2
        exact ⟨⟨s', k + 1, ta', nt', ct', ka', kn', kc', K', HN⟩, HMS.out⟩
    · have hke : k = fuel := by omega
      subst hke
      have hr := HRUN.out
      rw [Nat.sub_self, hend.out] at hr
      subst hr
      have c1 := HST.out.2.1.c1
      have c2 := HST.out.2.1.c2
      have c5 := HST.out.2.1.c5
      have HRB1 := hide (HRB0.out.keep (HST.out.1.block w.heap.size (by omega) (by omega) (by omega) (by omega)))
      have HSD := hide HST.out.drew
      go_wp2
      go_region_held3 (fun w' => w'.cell? ⟨R, 4, none⟩ = some (.int .i64 k) ∧ w'.cell? ⟨R, 3, none⟩ = some (.int .i64 k)) (go_keep) (fail)
      go_wp2_with (go_at_call 118; refine (outcome_any R 3 0 (k : Int) ta nt ct (some ⟨gh, 0, none⟩) 32 ch wr.drew c1 c2 c4 c5 hRl).mono ?_; rintro e w2 ⟨rfl, hb2⟩; obtain ⟨⟨r0, r1, r2, r3, r4⟩, rz⟩ := HRB1.out.keep (hb2.block w.heap.size hBw0); have HF := hide (run_fin HSD.out HBA0.out hBw0 hR hgv hgh hb2); clear hb2)
      exact bodyPost_ret (v := .agg #[.int .i64 3, .int .i64 0, .int .i64 (k : Int), .slice ta nt ct, .slice (some ⟨gh, 0, none⟩) 32 ch]) (by simp [results, Tryd.results76, go_sem, r0, r1, r2, r3, r4]) rfl ⟨ta, nt, ct, rfl, ka, kn, kc, _, _, _, K, HF.out _ _ _ _ _⟩
end Go.Proofs.YtdcdgopblbmgoaaDoor

/-
  A run's variable as it is made, whatever is run; what is left of a run.
-/
namespace Go.Proofs.YtdcdgopblbmgoaaDoor
open Go.RowKit

/-- Cells i, i + 1, .. of block R are written. -/
def setL (W : World) (R : Nat) : Nat → List Value → World
  | _, [] => W
  | i, v :: vs => setL (W.setCell ⟨R, i, none⟩ v) R (i + 1) vs
theorem setL_far {R b : Nat} (hb : b ≠ R) : ∀ (vs : List Value) (W : World) (i : Nat), (setL W R i vs).heap[b]? = W.heap[b]?
  | [], _, _ => rfl
  | v :: vs, W, i => (setL_far hb vs (W.setCell ⟨R, i, none⟩ v) (i + 1)).trans (Below.heap_setCell _ _ _ _ hb)
theorem setL_size {R : Nat} : ∀ (vs : List Value) (W : World) (i : Nat), (setL W R i vs).heap.size = W.heap.size
  | [], _, _ => rfl
  | v :: vs, W, i => (setL_size vs (W.setCell ⟨R, i, none⟩ v) (i + 1)).trans (size_setCell _ _ _)
theorem setL_below {B : Nat} {w : World} {R : Nat} (hR : B ≤ R) : ∀ (vs : List Value) (W : World) (i : Nat), Below B w W → Below B w (setL W R i vs)
  | [], _, _, h => h
  | v :: vs, W, i, h => setL_below hR vs (W.setCell ⟨R, i, none⟩ v) (i + 1) (h.setCell hR _)
theorem setL_at {R t : Nat} : ∀ (vs zs pre : List Value) (W : World), W.heap[R]? = some (.cells (pre ++ zs).toArray t (0, 0)) → zs.length = vs.length → (setL W R pre.length vs).heap[R]? = some (.cells (pre ++ vs).toArray t (0, 0))
  | [], zs, pre, W, h, hl => by
    have : zs = [] := List.eq_nil_of_length_eq_zero hl
    subst this
    exact h
  | v :: vs, [], pre, W, h, hl => by simp at hl
  | v :: vs, z :: zs, pre, W, h, hl => by
    have h1 := set_at _ pre.length v h
    have e : (pre ++ z :: zs).toArray.setIfInBounds pre.length v = ((pre ++ [v]) ++ zs).toArray := by simp
    rw [e] at h1
    have h2 := setL_at vs zs (pre ++ [v]) (W.setCell ⟨R, pre.length, none⟩ v) h1 (by simpa using hl)
    rw [List.length_append, List.length_singleton] at h2
    show (setL (W.setCell ⟨R, pre.length, none⟩ v) R (pre.length + 1) vs).heap[R]? = _
    rw [h2]
    simp
def L11 (aa : Option Addr) (na ca gh : Nat) (fuel : Int) (gv m : Nat) : List Value := [.slice aa na ca, .slice (some ⟨gh, 0, none⟩) 32 32, .slice none 0 0, .int .i64 fuel, .int .i64 0, .int .i64 0, .slice (some ⟨gv, 0, none⟩) m m, .slice none 0 0, .int .i64 0, .int .i64 0, .slice none 0 0]
/-- What is there when a run's variable is made. -/
structure InitR (w W : World) (m : Nat) (aa : Option Addr) (na ca : Nat) (fuel : Int) (R gv gh : Nat) (heap : List Int) (tl : List Value) : Prop where
  below : Below w.heap.size w W
  rb : RB W (w.heap.size + 1)
  box : ∃ t, W.heap[R]? = some (.cells (L11 aa na ca gh fuel gv m ++ tl).toArray t (0, 0))
  vals : IntsW W gv (List.replicate m 0)
  heap : IntsW W gh (heapR heap)
  lo : w.heap.size + 1 < R ∧ w.heap.size + 1 < gv ∧ w.heap.size + 1 < gh
  ne : R ≠ gv ∧ R ≠ gh ∧ gv ≠ gh
section
variable {w W w4 w5 : World} {m : Nat} {aa : Option Addr} {na ca : Nat} {fuel : Int} {R gv gh : Nat} {heap : List Int} {tl : List Value}
theorem InitR.lt (h : InitR w W m aa na ca fuel R gv gh heap tl) : R < W.heap.size := by
  obtain ⟨t, ht⟩ := h.box
  exact (Array.getElem?_eq_some_iff.1 ht).1
theorem InitR.cell (h : InitR w W m aa na ca fuel R gv gh heap tl) (i : Nat) (v : Value) (hv : (L11 aa na ca gh fuel gv m ++ tl)[i]? = some v) : W.cell? ⟨R, i, none⟩ = some v := by
  obtain ⟨t, ht⟩ := h.box
  simp only [World.cell?, ht]
  simpa using hv
theorem InitR.fz (h : InitR w W m aa na ca fuel R gv gh heap tl) (o : Nat) : W.frozen? ⟨R, o, none⟩ = false := by
  obtain ⟨t, ht⟩ := h.box
  simp [World.frozen?, ht]
theorem InitR.runBox (h : InitR w W m aa na ca fuel R gv gh heap tl) : RunBox W R aa na ca (.slice none 0 0) (fun o => W.cell? ⟨R, o, none⟩) := ⟨h.cell 0 _ rfl, h.cell 7 _ rfl, h.fz, fun _ _ => rfl⟩
theorem after_nodes (hi : InitR w W m aa na ca fuel R gv gh heap tl) (hk : Kb W.heap.size R R W w4) {G n c4 : Nat} (hb : RunBox w4 R aa na ca (.slice (some ⟨G, 0, none⟩) n c4) (fun o => W.cell? ⟨R, o, none⟩)) :
    PBox w4 R aa na ca gh 32 none 0 0 fuel 0 0 gv m m G n c4 0 0 none 0 0 ∧ IntsW w4 gv (List.replicate m 0) ∧ IntsW w4 gh (heapR heap) := by
  obtain ⟨b0, b7, bz, bo⟩ := hb
  obtain ⟨n1, n2, n3⟩ := hi.ne
  have l2 := hi.vals.lt
  have l3 := hi.heap.lt
  exact ⟨⟨b0, (bo 1 (by decide)).trans (hi.cell 1 _ rfl), (bo 2 (by decide)).trans (hi.cell 2 _ rfl), (bo 3 (by decide)).trans (hi.cell 3 _ rfl), (bo 4 (by decide)).trans (hi.cell 4 _ rfl), (bo 5 (by decide)).trans (hi.cell 5 _ rfl), (bo 6 (by decide)).trans (hi.cell 6 _ rfl), b7, (bo 8 (by decide)).trans (hi.cell 8 _ rfl), (bo 9 (by decide)).trans (hi.cell 9 _ rfl), (bo 10 (by decide)).trans (hi.cell 10 _ rfl), bz⟩,
    hi.vals.keep (hk.block gv l2 (fun e => n1 e.symm) (fun e => n1 e.symm)), hi.heap.keep (hk.block gh l3 (fun e => n2 e.symm) (fun e => n2 e.symm))⟩
end

/-- An outcome as it lies in memory; its rows are apart and can be written. -/
def OutAtF (w : World) (L B : Nat) (val : Value) (o : Out) : Prop :=
  ∃ ta nt ct ha nh ch, val = .agg #[.int .i64 o.code, .int .i64 o.value, .int .i64 o.steps, .slice ta nt ct, .slice ha nh ch] ∧ nt = o.tr.length ∧ nh = o.hp.length ∧ IntsAt w L B ta o.tr ∧ IntsAt w L B ha o.hp ∧
    (∀ b o', ta = some ⟨b, o', none⟩ → ∀ i, w.frozen? ⟨b, i, none⟩ = false) ∧ (∀ b o', ha = some ⟨b, o', none⟩ → ∀ i, w.frozen? ⟨b, i, none⟩ = false) ∧ ∀ b o' b' o'', ta = some ⟨b, o', none⟩ → ha = some ⟨b', o'', none⟩ → b ≠ b'
theorem own_thaw {w : World} {B t : Nat} {ta : Option Addr} {nt ct n : Nat} {xs : List Value} (h : w.ownsRow B t 1 (.slice ta nt ct) n xs) : ∀ b o, ta = some ⟨b, o, none⟩ → ∀ i, w.frozen? ⟨b, i, none⟩ = false := fun b o e i => by
  subst e
  rcases h.2 with ⟨e2, _⟩ | ⟨g, cap, cur, e2, _, hh, _⟩
  · injection e2 with e3; cases e3
  · injection e2 with e3 _ _
    injection e3 with e3
    injection e3 with e4 _ _
    subst e4
    simp [World.frozen?, hh]
section
variable {w W w4 w5 : World} {m : Nat} {aa : Option Addr} {na ca fuel : Nat} {R gv gh G n c4 : Nat} {heap : List Int} {tl : List Value} {R0 : Out}
theorem after_run (hi : InitR w W m aa na ca fuel R gv gh heap tl) (hk : Kb W.heap.size R R W w4) (hl : 32 = R0.hp.length) {ta : Option Addr} {nt ct : Nat} {ka : Option Addr} {kn kc : Nat} {b pc : Int} {vals K : List Int}
    (h5 : PSt w4 w5 R aa na ca gh 32 ta nt ct fuel R0.steps R0.value gv m m G n c4 b pc ka kn kc w4.heap.size vals R0.hp R0.tr K) :
    RB w5 (w.heap.size + 1) ∧ ∀ vs, Below w.heap.size w (setL w5 (w.heap.size + 1) 0 vs) ∧
      OutAtF (setL w5 (w.heap.size + 1) 0 vs) w.heap.size (setL w5 (w.heap.size + 1) 0 vs).heap.size (.agg #[.int .i64 R0.code, .int .i64 R0.value, .int .i64 R0.steps, .slice ta nt ct, .slice (some ⟨gh, 0, none⟩) 32 32]) R0 := by
  obtain ⟨l1, l2, l3⟩ := hi.lo
  obtain ⟨n1, n2, n3⟩ := hi.ne
  have hRl := hi.lt
  have hWs := hi.below.size
  have hks := hk.size
  have h5s := h5.1.size
  have far : ∀ q, q < W.heap.size → q ≠ R → q ≠ gv → q ≠ gh → w5.heap[q]? = W.heap[q]? := fun q h1 h2 h3 h4 => (h5.1.block q (by omega) h2 h3 h4).trans (hk.block q h1 h2 h2)
  have hb5 : Below w.heap.size w w5 := hi.below.trans ((hk.below (by omega) (by omega) (by omega)).trans (h5.1.below (by omega) (by omega) (by omega) (by omega)))
  refine ⟨hi.rb.keep (far _ (by omega) (by omega) (by omega) (by omega)), fun vs => ⟨setL_below (by omega) vs w5 0 hb5, ?_⟩⟩
  have f5 : ∀ q, q ≠ w.heap.size + 1 → (setL w5 (w.heap.size + 1) 0 vs).heap[q]? = w5.heap[q]? := fun q hq => setL_far hq vs w5 0
  have mm := h5.2.2.mem
  have hown := own_keep (w1 := setL w5 (w.heap.size + 1) 0 vs) mm.own (fun q e => f5 q (by have := (mm.own.lt q e).1; omega))
  obtain ⟨a1, c1, e1, hi1⟩ := ints_owned hown
  obtain ⟨e2, e3, e4⟩ := Value.slice.inj e1
  subst e2
  have hh := mm.heap.keep (w' := setL w5 (w.heap.size + 1) 0 vs) (f5 gh (by omega))
  have hfz := hh.frozen
  have hth := own_thaw hown
  have hdj : ∀ b o' b' o'', ta = some ⟨b, o', none⟩ → some (⟨gh, 0, none⟩ : Addr) = some ⟨b', o'', none⟩ → b ≠ b' := fun b o' b' o'' e f g => mm.theap (by rw [e, g]; cases f; rfl)
  have hfz2 : ∀ b o', some (⟨gh, 0, none⟩ : Addr) = some ⟨b, o', none⟩ → ∀ i, (setL w5 (w.heap.size + 1) 0 vs).frozen? ⟨b, i, none⟩ = false := fun b o' e i => by
    have e5 : b = gh := by cases e; rfl
    rw [e5]
    exact hfz i
  exact ⟨ta, nt, ct, _, 32, 32, rfl, e3, hl, hi1.mono (by omega) (Nat.le_refl _), hh.at ⟨by omega, hh.lt⟩, hth, hfz2, hdj⟩
end
end Go.Proofs.YtdcdgopblbmgoaaDoor
