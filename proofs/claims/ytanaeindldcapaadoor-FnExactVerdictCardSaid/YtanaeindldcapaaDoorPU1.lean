import Derived.Test.YtanaeindldcapaaDoorW17
import Derived.Test.YtanaeindldcapaaDoorSV1
namespace Go.Proofs.YtanaeindldcapaaDoor
open Go.RowKit
/-- The sets while they are filled. -/
structure PuI (w2 wr : World) (G n K : Nat) (gs : Nat → Nat) (Ws : Nat → Nat → Nat) (E : List (Nat × Nat)) : Prop where
  sets : SetsAv wr G n K gs (fun _ => K) Ws
  wd : AllWd Ws
  fr : FrS w2 wr n gs
  has : ∀ b, b < n → ∀ v, hasN (Ws b) v = true ↔ (b, v) ∈ E
def PuE (w2 wr : World) (G n K : Nat) (gs : Nat → Nat) (E : List (Nat × Nat)) : Prop := ∃ Ws, PuI w2 wr G n K gs Ws E
theorem PuI.below {w2 wr wr' : World} {G n K : Nat} {gs : Nat → Nat} {Ws : Nat → Nat → Nat} {E : List (Nat × Nat)} (h : PuI w2 wr G n K gs Ws E) (k : Below wr.heap.size wr wr') : PuI w2 wr' G n K gs Ws E := ⟨h.sets.keep k, h.wd, h.fr.below k, h.has⟩
theorem PuE.below {w2 wr wr' : World} {G n K : Nat} {gs : Nat → Nat} {E : List (Nat × Nat)} (h : PuE w2 wr G n K gs E) (k : Below wr.heap.size wr wr') : PuE w2 wr' G n K gs E := by
  obtain ⟨Ws, h⟩ := h
  exact ⟨Ws, h.below k⟩
theorem PuI.add {w2 wr wr' : World} {G n K p v : Nat} {gs : Nat → Nat} {Ws : Nat → Nat → Nat} {E : List (Nat × Nat)} (h : PuI w2 wr G n K gs Ws E) (hp : p < n) (k : wr.grownBy wr' (some (gs p))) (hr : WsAt wr' (gs p) K K (addsN (Ws p) [v])) : PuI w2 wr' G n K gs (fun i => if i = p then addsN (Ws p) [v] else Ws i) (E ++ [(p, v)]) := by
  refine ⟨h.sets.wrote hp k hr, fun i => ?_, h.fr.grown k hp, fun b hb x => ?_⟩
  · by_cases e : i = p
    · simp only [if_pos e]; exact adds_wd _ (h.wd p)
    · simp only [if_neg e]; exact h.wd i
  · by_cases e : b = p
    · subst e
      simp only [if_true, List.mem_append, List.mem_singleton, Prod.mk.injEq, true_and]
      rw [has_adds, Bool.or_eq_true, decide_eq_true_eq, List.mem_singleton, h.has b hb x]
      exact or_comm
    · simp only [if_neg e, List.mem_append, List.mem_singleton, Prod.mk.injEq]
      rw [h.has b hb x]
      exact ⟨Or.inl, fun h => h.elim id (fun h => absurd h.1 e)⟩
theorem phE_step {xs : List Blk} {k : Nat} (h : k < xs.length) : phE xs (k + 1) = phE xs k ++ phT xs k xs[k].phis := by
  unfold phE
  rw [List.range_succ, List.flatMap_append]
  simp [phB, h]
theorem phT_step {xs : List Blk} {t j : Nat} {ps : List Ph} (h : j < ps.length) : phT xs t (ps.take (j + 1)) = phT xs t (ps.take j) ++ (predN xs xs.length t).zip (natL ps[j].args) := by
  unfold phT
  rw [take_next _ _ h, List.flatMap_append]
  simp
set_option maxHeartbeats 4000000 in
set_option maxRecDepth 100000 in
theorem phiUses_any (V : Nat) (a : Option Addr) (n c : Nat) (xs : List Blk) (L B : Nat) (w : World) (ha : Hid (BlksAt w L B a xs)) (hx : Hid (n = xs.length)) (hB : B ≤ w.heap.size) (ho : Hid (OkL V xs)) :
    Calls Tryd.prog 40 #[.agg #[.int .i64 (V : Int), .slice a n c]] w fun e w' => ∃ G gs Ws, e = .returned (.slice (some ⟨G, 0, none⟩) n n) ∧ w.heap.size ≤ G ∧ Below w.heap.size w w' ∧ SetsAv w' G n ((V + 63) / 64) gs (fun _ => (V + 63) / 64) Ws ∧ (∀ i, i < n → w.heap.size ≤ gs i) ∧ AllWd Ws ∧ ∀ b, b < n → ∀ v, hasN (Ws b) v = true ↔ (b, v) ∈ phE xs n := by
  have hn : n ≤ 1000 := by have := hx.out; have := ho.out.okf.n2; omega
  have hV := ho.out.vle
  have HNS := hide (fun W => newSets_valueNo n V W hn (by omega))
  have HPR : Hid (∀ W, Below w.heap.size w W → _) := hide (fun W (hW : Below w.heap.size w W) => predecessors_sep (V : Int) a n c xs L B W (hide (ha.out.keep (hW.mono hB))) hx (by omega) (by have := hW.size; omega) (hide (by rw [hx.out]; exact ho.out.okf.ok)))
  have hK : (V + 63) / 64 ≤ 32 := by omega
  have hVK : V ≤ 64 * ((V + 63) / 64) := by omega
  generalize (V + 63) / 64 = K at *
  go_enter Tryd.func40, Tryd.ntmps40
  go_wp2_with fail
  refine (HNS.out _).mono ?_
  rintro e w1 ⟨G, gs, rfl, hG, hb1, hs1, hgs⟩
  have HBA : Hid (Below w.heap.size w (w.alloc (.cells #[.int .i64 (V : Int), .slice a n c] 29))) := hide (balloc (Below.refl _ _) _)
  have q0 := (hb1.cell (p := ⟨w.heap.size, 0, none⟩) (by show w.heap.size < _; simp)).trans (by simp [go_sem] : (w.alloc (.cells #[.int .i64 (V : Int), .slice a n c] 29)).cell? ⟨w.heap.size, 0, none⟩ = some (.int .i64 (V : Int)))
  have q1 := (hb1.cell (p := ⟨w.heap.size, 1, none⟩) (by show w.heap.size < _; simp)).trans (by simp [go_sem] : (w.alloc (.cells #[.int .i64 (V : Int), .slice a n c] 29)).cell? ⟨w.heap.size, 1, none⟩ = some (.slice a n c))
  have HB1 : Hid (Below w.heap.size w w1) := hide (bnext HBA.out hb1)
  have HS1 := hide hs1
  have hG1 : w.heap.size < G := by simp at hG; omega
  have HGS : Hid (∀ i, i < n → w.heap.size < gs i ∧ gs i < w1.heap.size) := hide (fun i hi => ⟨by have := hgs i hi; simp at this; omega, (hs1.set i hi).lt⟩)
  have hGl : G < w1.heap.size := hs1.row.lt
  have hz1 := HB1.out.size
  have hzw : w.heap.size < w1.heap.size := by omega
  have HP1 := hide (HPR.out w1 HB1.out)
  clear hb1 hs1 hgs hG HNS HPR HBA
  go_wp2_with fail
  refine HP1.out.mono ?_
  rintro e w2 ⟨U, rfl, hb2, hr2⟩
  have HB2 : Hid (Below w.heap.size w w2) := hide (bnext HB1.out hb2)
  have HPS : Hid (IntssAt w2 (w1.heap.size + 1) w2.heap.size (some ⟨w1.heap.size + 1, 0, none⟩) ((List.range n).map fun i : Nat => predsFrom xs 0 (i : Int))) := hide hr2.ints
  have HI2 : Hid (PuE w2 w2 G n K gs []) := hide ⟨_, HS1.out.keep hb2, fun _ => fun _ => by decide, FrS.refl _ _ _, fun b _ v => by simp [has_none]⟩
  have q1' := (hb2.cell (p := ⟨w.heap.size, 1, none⟩) hzw).trans q1
  have hz2 := hb2.size
  clear hb2 hr2 HP1 HS1 q0 q1 HB1
  have HA2 : Hid (BlksAt w2 L B a xs) := hide (ha.out.keep (HB2.out.mono hB))
  go_wp2_with fail
  go_loopw [22] (fun i wr => ∃ k : Nat, k ≤ n ∧ i = .int .i64 k ∧ Hid (PuE w2 wr G n K gs (phE xs k))) (fun i _ => n - (intOf i).toNat)
  case atStart => exact ⟨0, Nat.zero_le _, rfl, HI2⟩
  case round =>
    obtain ⟨k, hk, rfl, HI⟩ := hrel
    by_cases hlt : k < n
    · have hkx : k < xs.length := by have := hx.out; omega
      obtain ⟨b, o, rfl, hbB, hc⟩ := HA2.out k hkx
      have hfr : FrS w2 wr n gs := HI.out.elim (fun _ h => h.fr)
      have HSm : Hid (Same L B w2 wr) := hide (fun i h1 h2 => hfr.block i (by omega) (fun j hj e => by have := HGS.out j hj; omega))
      obtain ⟨pa, pc, ia, ic, e0, e1, ⟨e2, e3, e4, e5⟩, hph, _⟩ := hc.keepS HSm.out (HSm.out b hbB.1 hbB.2)
      have HPH := hide hph
      have HNX := hide (phE_step (xs := xs) hkx)
      have HPA := hide (ho.out.pha k hkx)
      have HPD : Hid (predsFrom xs 0 (k : Int) = natI (predN xs xs.length k)) := hide (preds_all (fun x hx t ht => (ho.out.okf.tgt x hx t ht).1) k)
      have hpl := (ho.out.lens xs[k] (List.getElem_mem hkx)).2
      clear hc hph hfr
      generalize xs[k] = X at *
      go_wp2_with fail
      have HIa : Hid (PuE w2 (wr.alloc (.cells #[.slice pa X.phis.length pc, .slice ia X.instrs.length ic, .int .i64 X.term.kind, .int .i64 X.term.a, .int .i64 X.term.to, .int .i64 X.term.els] 66)) G n K gs (phE xs k)) := hide (HI.out.below (balloc (Below.refl _ _) _))
      have HPHw : Hid (PhsAt w2 L B pa X.phis) := hide (HPH.out.keepS (fun i h1 h2 => (HSm.out i h1 h2).symm))
      clear HPH HSm e0 e1 e2 e3 e4 e5 HI
      generalize wr = wo at *
      go_loopw [30] (fun i wr => ∃ j : Nat, j ≤ X.phis.length ∧ i = .int .i64 j ∧ Hid (PuE w2 wr G n K gs (phE xs k ++ phT xs k (X.phis.take j)))) (fun i _ => X.phis.length - (intOf i).toNat)
      case atStart => exact ⟨0, Nat.zero_le _, rfl, hide (by rw [show phE xs k ++ phT xs k (X.phis.take 0) = phE xs k by simp [phT]]; exact HIa.out)⟩
      case round =>
        obtain ⟨j, hj, rfl, HI⟩ := hrel
        by_cases hlj : j < X.phis.length
        · have hfr : FrS w2 wr n gs := HI.out.elim (fun _ h => h.fr)
          have HSm : Hid (Same L B w2 wr) := hide (fun i h1 h2 => hfr.block i (by omega) (fun j hj e => by have := HGS.out j hj; omega))
          obtain ⟨b2, o2, rfl, hb2B, ap, cp, f0, f1, hargs⟩ := (HPHw.out.keepS HSm.out) j hlj
          have HAR : Hid (IntsAt w2 L B ap X.phis[j].args) := hide (hargs.keepS (fun i h1 h2 => (HSm.out i h1 h2).symm))
          have HTX := hide (phT_step (xs := xs) (t := k) hlj)
          obtain ⟨hal, hav⟩ := HPA.out X.phis[j] (List.getElem_mem hlj)
          have HAV := hide hav
          clear hfr hargs hav
          generalize X.phis[j] = ph at *
          have hpn : (predN xs xs.length k).length ≤ n := by have := predN_len (xs := xs) (n := xs.length) (b := k); have := hx.out; omega
          have hal2 : ph.args.length = (predN xs xs.length k).length := by rw [hal, HPD.out]; simp [natI]
          have HAL := hide hal2
          have halb : ph.args.length ≤ 1000 := by omega
          clear hal hal2
          go_wp2_with fail
          have HIb : Hid (PuE w2 (wr.alloc (.cells #[.int .i64 ph.dst, .slice ap ph.args.length cp] 72)) G n K gs (phE xs k ++ phT xs k (X.phis.take j))) := hide (HI.out.below (balloc (Below.refl _ _) _))
          clear HI f0 f1 HSm
          generalize wr = wo2 at *
          go_loopw [37] (fun i wr => ∃ q : Nat, q ≤ ph.args.length ∧ i = .int .i64 q ∧ Hid (PuE w2 wr G n K gs (phE xs k ++ phT xs k (X.phis.take j) ++ ((predN xs xs.length k).zip (natL ph.args)).take q))) (fun i _ => ph.args.length - (intOf i).toNat)
          case atStart => exact ⟨0, Nat.zero_le _, rfl, hide (by rw [List.take_zero, List.append_nil]; exact HIb.out)⟩
          case round =>
            obtain ⟨q, hq, rfl, HI⟩ := hrel
            by_cases hlq : q < ph.args.length
            · obtain ⟨Ws, hW⟩ := HI.out
              have hfr := hW.fr
              obtain ⟨b3, o3, rfl, hb3, r0⟩ := HAR.out q hlq
              have r0' := (cell_of (hfr.block b3 (by omega) (fun i hi e => by have := HGS.out i hi; omega))).trans r0
              obtain ⟨b4, o4, e4, hb4, a4, c4, r1, hi4⟩ := HPS.out k (by simpa using hlt)
              injection e4 with e4
              injection e4 with e5 e6
              subst e5
              subst e6
              have r1' := (cell_of (hfr.block (w1.heap.size + 1) hb4.2 (fun i hi e => by have := HGS.out i hi; omega))).trans r1
              simp only [List.getElem_map, List.getElem_range, HPD.out] at r1' hi4
              have hqp : q < (predN xs xs.length k).length := by have := HAL.out; omega
              obtain ⟨b5, o5, e7, hb5, r2⟩ := hi4 q (by simpa [natI] using hqp)
              subst e7
              have r2' := (cell_of (hfr.block b5 hb5.2 (fun i hi e => by have := HGS.out i hi; omega))).trans r2
              have hpq : (natI (predN xs xs.length k))[q]'(by simpa [natI] using hqp) = (((predN xs xs.length k)[q] : Nat) : Int) := by simp [natI]
              rw [hpq] at r2'
              have hpl : (predN xs xs.length k)[q] < n := by have := (predN_mem.1 (List.getElem_mem hqp)).1; have := hx.out; omega
              have hvq := HAV.out ph.args[q] (List.getElem_mem hlq)
              have HZ : Hid (((predN xs xs.length k).zip (natL ph.args)).take (q + 1) = ((predN xs xs.length k).zip (natL ph.args)).take q ++ [((predN xs xs.length k)[q], ph.args[q].toNat)]) := hide (by
                rw [take_next _ _ (by simp [natL]; omega)]
                simp [natL])
              obtain ⟨vv, hvv⟩ := Int.eq_ofNat_of_zero_le hvq.1
              rw [hvv] at r0' hvq HZ
              simp only [Int.toNat_natCast] at HZ
              have hln4 : (natI (predN xs xs.length k)).length = (predN xs xs.length k).length := by simp [natI]
              rw [hln4, Nat.zero_add] at r1'
              have hpe := HAL.out
              rw [← hpe] at r1'
              have HW := hide hW
              clear hW hfr r0 r1 r2 hi4 hpq hvv HI hpe hln4
              generalize (predN xs xs.length k)[q] = p at *
              have hG0 := HW.out.sets.row.cell hpl
              have hvl : vv < V := by omega
              clear hvq
              go_wp2_with fail
              have HWa := hide (HW.out.below (balloc (Below.refl _ _) (.cells #[.int .i64 (vv : Int)] 52)))
              have hgl : gs p < wr.heap.size := (HW.out.sets.set p hpl).lt
              have hza : wr.heap.size + 1 ≤ (wr.alloc (.cells #[.int .i64 (vv : Int)] 52)).heap.size := by simp
              have HIO : Hid (IntsAt (wr.alloc (.cells #[.int .i64 (vv : Int)] 52)) wr.heap.size (wr.heap.size + 1) (some ⟨wr.heap.size, 0, none⟩) ([vv].map Int.ofNat)) := hide (ints_one wr vv _)
              have HTV : ∀ t ∈ [vv], t < 64 * K := fun t ht => by
                have e : t = vv := by simpa using ht
                omega
              refine (add_valueNo (gs p) K K 1 1 (Ws p) _ [vv] wr.heap.size (wr.heap.size + 1) _ HIO (hide rfl) (by omega) (hide HTV) (by omega) (hide (HW.out.wd p)) (hide (HWa.out.sets.set p hpl)) hza (by omega)).mono ?_
              rintro e w5 ⟨rfl, hg5, hr5⟩
              have HW5 := hide (HWa.out.add hpl hg5 hr5)
              clear hg5 hr5 HWa HIO hG0 r0' r1' r2'
              go_wp2_with fail
              exact ⟨⟨q + 1, by omega, by go_num, hide ⟨_, by rw [HZ.out, ← List.append_assoc]; exact HW5.out⟩⟩, by simp [intOf]; omega⟩
            · have hqe : q = ph.args.length := by omega
              have HZ : Hid (((predN xs xs.length k).zip (natL ph.args)).take q = (predN xs xs.length k).zip (natL ph.args)) := hide (List.take_of_length_le (by simp [natL]; omega))
              rw [HZ.out] at HI
              clear hqe
              go_wp2_with fail
              exact ⟨⟨j + 1, by omega, by go_num, hide (by rw [HTX.out, ← List.append_assoc]; exact HI.out)⟩, by simp [intOf]; omega⟩
        · have hje : j = X.phis.length := by omega
          have HZ : Hid (X.phis.take j = X.phis) := hide (List.take_of_length_le (by omega))
          rw [HZ.out] at HI
          clear hje
          go_wp2_with fail
          exact ⟨⟨k + 1, by omega, by go_num, hide (by rw [HNX.out]; exact HI.out)⟩, by simp [intOf]; omega⟩
    · have hke : k = n := by omega
      subst hke
      go_wp2
      go_ret
      obtain ⟨Ws, hW⟩ := HI.out
      refine ⟨G, gs, Ws, rfl, by omega, ⟨hW.fr.os.trans HB2.out.os, hW.fr.tape.trans HB2.out.tape, hW.fr.output.trans HB2.out.output, Nat.le_trans HB2.out.size hW.fr.size, fun i hi => (hW.fr.block i (by have := HB2.out.size; omega) (fun j hj e => by have := HGS.out j hj; omega)).trans (HB2.out.block i hi)⟩, hW.sets, fun i hi => by have := HGS.out i hi; omega, hW.wd, hW.has⟩
end Go.Proofs.YtanaeindldcapaaDoor
