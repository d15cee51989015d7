import Derived.Test.YtlmaodcddbkllaaDoorPL0
import Derived.Test.YtlmaodcddbkllaaDoorSV1
import Derived.Test.YtlmaodcddbkllaaDoorW14c
/-
  phiUses of the program.
-/
namespace Go.Proofs.YtlmaodcddbkllaaDoor
open Go.RowKit

/-- The sets while they are filled. -/
structure PuI (w2 wr : World) (G n K : Nat) (gs : Nat → Nat) (Ws : Nat → Nat → Nat) (E : List (Nat × Nat)) : Prop where
  sets : SetsAv wr G n K gs (fun _ => K) Ws
  wd : AllWd Ws
  fr : FrS w2 wr n gs
  has : ∀ b, b < n → ∀ v, hasN (Ws b) v = true ↔ (b, v) ∈ E
def PuE (w2 wr : World) (G n K : Nat) (gs : Nat → Nat) (E : List (Nat × Nat)) : Prop := ∃ Ws, PuI w2 wr G n K gs Ws E
theorem PuI.below {w2 wr wr' : World} {G n K : Nat} {gs : Nat → Nat} {Ws : Nat → Nat → Nat} {E : List (Nat × Nat)} (h : PuI w2 wr G n K gs Ws E) (k : Below wr.heap.size wr wr') : PuI w2 wr' G n K gs Ws E := ⟨h.sets.keep k, h.wd, h.fr.below k, h.has⟩
theorem PuE.below {w2 wr wr' : World} {G n K : Nat} {gs : Nat → Nat} {E : List (Nat × Nat)} (h : PuE w2 wr G n K gs E) (k : Below wr.heap.size wr wr') : PuE w2 wr' G n K gs E := by
  obtain ⟨Ws, h⟩ := h
  exact ⟨Ws, h.below k⟩
theorem PuI.add {w2 wr wr' : World} {G n K p v : Nat} {gs : Nat → Nat} {Ws : Nat → Nat → Nat} {E : List (Nat × Nat)} (h : PuI w2 wr G n K gs Ws E) (hp : p < n) (k : wr.grownBy wr' (some (gs p))) (hr : WsAt wr' (gs p) K K (addsN (Ws p) [v])) : PuI w2 wr' G n K gs (fun i => if i = p then addsN (Ws p) [v] else Ws i) (E ++ [(p, v)]) := by
  refine ⟨h.sets.wrote hp k hr, fun i => ?_, h.fr.grown k hp, fun b hb x => ?_⟩
  · by_cases e : i = p
    · simp only [if_pos e]; exact adds_wd _ (h.wd p)
    · simp only [if_neg e]; exact h.wd i
  · by_cases e : b = p
    · subst e
      simp only [if_true, List.mem_append, List.mem_singleton, Prod.mk.injEq, true_and]
      rw [has_adds, Bool.or_eq_true, decide_eq_true_eq, List.mem_singleton, h.has b hb x]
      exact or_comm
    · simp only [if_neg e, List.mem_append, List.mem_singleton, Prod.mk.injEq]
      rw [h.has b hb x]
      exact ⟨Or.inl, fun h => h.elim id (fun h => absurd h.1 e)⟩
theorem phE_step {xs : List Blk} {k : Nat} (h : k < xs.length) : phE xs (k + 1) = phE xs k ++ phT xs k xs[k].phis := by
  unfold phE
  rw [List.range_succ, List.flatMap_append]
  simp [phB, h]
theorem phT_step {xs : List Blk} {t j : Nat} {ps : List Ph} (h : j < ps.length) : phT xs t (ps.take (j + 1)) = phT xs t (ps.take j) ++ (predN xs xs.length t).zip (natL ps[j].args) := by
  unfold phT
  rw [take_next _ _ h, List.flatMap_append]
  simp
set_option maxHeartbeats 4000000 in
set_option maxRecDepth 100000 in
theorem phiUses_any (V : Nat) (a : Option Addr) (n c : Nat) (xs : List Blk) (L B : Nat) (w : World) (ha : Hid (BlksAt w L B a xs)) (hx : Hid (n = xs.length)) (hB : B ≤ w.heap.size) (ho : Hid (OkL V xs)) :
    Calls Tryd.prog 108 #[.agg #[.int .i64 (V : Int), .slice a n c]] w fun e w' => ∃ G gs Ws, e = .returned (.slice (some ⟨G, 0, none⟩) n n) ∧ w.heap.size ≤ G ∧ Below w.heap.size w w' ∧ SetsAv w' G n ((V + 63) / 64) gs (fun _ => (V + 63) / 64) Ws ∧ (∀ i, i < n → w.heap.size ≤ gs i) ∧ AllWd Ws ∧ ∀ b, b < n → ∀ v, hasN (Ws b) v = true ↔ (b, v) ∈ phE xs n := by
  have hn : n ≤ 1000 := by have := hx.out; have := ho.out.okf.n2; omega
  have hV := ho.out.vle
  have HNS := hide (fun W => newSets_valueNo n V W hn (by omega))
  have HPR : Hid (∀ W, Below w.heap.size w W → _) := hide (fun W (hW : Below w.heap.size w W) => predecessors_sep (V : Int) a n c xs L B W (hide (ha.out.keep (hW.mono hB))) hx (by omega) (by have := hW.size; omega) (hide (by rw [hx.out]; exact ho.out.okf.ok)))
  have hK : (V + 63) / 64 ≤ 32 := by omega
  have hVK : V ≤ 64 * ((V + 63) / 64) := by omega
  generalize (V + 63) / 64 = K at *
  go_enter Tryd.func108, Tryd.ntmps108
  go_wp2_with fail
  refine (HNS.out _).mono ?_
  rintro e w1 ⟨G, gs, rfl, hG, hb1, hs1, hgs⟩
  have HBA : Hid (Below w.heap.size w (w.alloc (.cells #[.int .i64 (V : Int), .slice a n c] 25))) := hide (balloc (Below.refl _ _) _)
  have q0 := (hb1.cell (p := ⟨w.heap.size, 0, none⟩) (by show w.heap.size < _; simp)).trans (by simp [go_sem] : (w.alloc (.cells #[.int .i64 (V : Int), .slice a n c] 25)).cell? ⟨w.heap.size, 0, none⟩ = some (.int .i64 (V : Int)))
  have q1 := (hb1.cell (p := ⟨w.heap.size, 1, none⟩) (by show w.heap.size < _; simp)).trans (by simp [go_sem] : (w.alloc (.cells #[.int .i64 (V : Int), .slice a n c] 25)).cell? ⟨w.heap.size, 1, none⟩ = some (.slice a n c))
  have HB1 : Hid (Below w.heap.size w w1) := hide (bnext HBA.out hb1)
  have HS1 := hide hs1
  have hG1 : w.heap.size < G := by simp at hG; omega
  have HGS : Hid (∀ i, i < n → w.heap.size < gs i ∧ gs i < w1.heap.size) := hide (fun i hi => ⟨by have := hgs i hi; simp at this; omega, (hs1.set i hi).lt⟩)
  have hGl : G < w1.heap.size := hs1.row.lt
  have hz1 := HB1.out.size
  have hzw : w.heap.size < w1.heap.size := by omega
  have HP1 := hide (HPR.out w1 HB1.out)
  clear hb1 hs1 hgs hG HNS HPR HBA
  go_wp2_with fail
  refine HP1.out.mono ?_
  rintro e w2 ⟨U, rfl, hb2, hr2⟩
  have HB2 : Hid (Below w.heap.size w w2) := hide (bnext HB1.out hb2)
  have HPS : Hid (IntssAt w2 (w1.heap.size + 1) w2.heap.size (some ⟨w1.heap.size + 1, 0, none⟩) ((List.range n).map fun i : Nat => predsFrom xs 0 (i : Int))) := hide hr2.ints
  have HI2 : Hid (PuE w2 w2 G n K gs []) := hide ⟨_, HS1.out.keep hb2, fun _ => fun _ => by decide, FrS.refl _ _ _, fun b _ v => by simp [has_none]⟩
  have q1' := (hb2.cell (p := ⟨w.heap.size, 1, none⟩) hzw).trans q1
  have hz2 := hb2.size
  clear hb2 hr2 HP1 HS1 q0 q1 HB1
  have HA2 : Hid (BlksAt w2 L B a xs) := hide (ha.out.keep (HB2.out.mono hB))
  go_wp2_with fail
  go_loopw [22] (fun i wr => ∃ k : Nat, k ≤ n ∧ i = .int .i64 k ∧ Hid (PuE w2 wr G n K gs (phE xs k))) (fun i _ => n - (intOf i).toNat)
  case atStart => exact ⟨0, Nat.zero_le _, rfl, HI2⟩
  case round =>
    obtain ⟨k, hk, rfl, HI⟩ := hrel
    by_cases hlt : k < n
    · have hkx : k < xs.length := by have := hx.out; omega
      obtain ⟨b, o, rfl, hbB, hc⟩ := HA2.out k hkx
      have hfr : FrS w2 wr n gs := HI.out.elim (fun _ h => h.fr)
      have HSm : Hid (Same L B w2 wr) := hide (fun i h1 h2 => hfr.block i (by omega) (fun j hj e => by have := HGS.out j hj; omega))
      obtain ⟨pa, pc, ia, ic, e0, e1, ⟨e2, e3, e4, e5⟩, hph, _⟩ := hc.keepS HSm.out (HSm.out b hbB.1 hbB.2)
      have HPH := hide hph
      have HNX := hide (phE_step (xs := xs) hkx)
      have HPA := hide (ho.out.pha k hkx)
      have HPD : Hid (predsFrom xs 0 (k : Int) = natI (predN xs xs.length k)) := hide (preds_all (fun x hx t ht => (ho.out.okf.tgt x hx t ht).1) k)
      have hpl := (ho.out.lens xs[k] (List.getElem_mem hkx)).2
      clear hc hph hfr
      generalize xs[k] = X at *
      go_wp2_with fail
      have HIa : Hid (PuE w2 (wr.alloc (.cells #[.slice pa X.phis.length pc, .slice ia X.instrs.length ic, .int .i64 X.term.kind, .int .i64 X.term.a, .int .i64 X.term.to, .int .i64 X.term.els] 39)) G n K gs (phE xs k)) := hide (HI.out.below (balloc (Below.refl _ _) _))
      have HPHw : Hid (PhsAt w2 L B pa X.phis) := hide (HPH.out.keepS (fun i h1 h2 => (HSm.out i h1 h2).symm))
      clear HPH HSm e0 e1 e2 e3 e4 e5 HI
      generalize wr = wo at *
      go_loopw [30] (fun i wr => ∃ j : Nat, j ≤ X.phis.length ∧ i = .int .i64 j ∧ Hid (PuE w2 wr G n K gs (phE xs k ++ phT xs k (X.phis.take j)))) (fun i _ => X.phis.length - (intOf i).toNat)
      case atStart => exact ⟨0, Nat.zero_le _, rfl, hide (by rw [show phE xs k ++ phT xs k (X.phis.take 0) = phE xs k by simp [phT]]; exact HIa.out)⟩
      case round =>
        obtain ⟨j, hj, rfl, HI⟩ := hrel
        by_cases hlj : j < X.phis.length
        · have hfr : FrS w2 wr n gs := HI.out.elim (fun _ h => h.fr)
          have HSm : Hid (Same L B w2 wr) := hide (fun i h1 h2 => hfr.block i (by omega) (fun j hj e => by have := HGS.out j hj; omega))
          obtain ⟨b2, o2, rfl, hb2B, ap, cp, f0, f1, hargs⟩ := (HPHw.out.keepS HSm.out) j hlj
          have HAR : Hid (IntsAt w2 L B ap X.phis[j].args) := hide (hargs.keepS (fun i h1 h2 => (HSm.out i h1 h2).symm))
          have HTX := hide (phT_step (xs := xs) (t := k) hlj)
          obtain ⟨hal, hav⟩ := HPA.out X.phis[j] (List.getElem_mem hlj)
          have HAV := hide hav
          clear hfr hargs hav
          generalize X.phis[j] = ph at *
          have hpn : (predN xs xs.length k).length ≤ n := by have := predN_len (xs := xs) (n := xs.length) (b := k); have := hx.out; omega
          have hal2 : ph.args.length = (predN xs xs.length k).length := by rw [hal, HPD.out]; simp [natI]
          have HAL := hide hal2
          have halb : ph.args.length ≤ 1000 := by omega
          clear hal hal2
          go_wp2_with fail
          have HIb : Hid (PuE w2 (wr.alloc (.cells #[.int .i64 ph.dst, .slice ap ph.args.length cp] 42)) G n K gs (phE xs k ++ phT xs k (X.phis.take j))) := hide (HI.out.below (balloc (Below.refl _ _) _))
          clear HI f0 f1 HSm
          generalize wr = wo2 at *
          go_loopw [37] (fun i wr => ∃ q : Nat, q ≤ ph.args.length ∧ i = .int .i64 q ∧ Hid (PuE w2 wr G n K gs (phE xs k ++ phT xs k (X.phis.take j) ++ ((predN xs xs.length k).zip (natL ph.args)).take q))) (fun i _ => ph.args.length - (intOf i).toNat)
          case atStart => exact ⟨0, Nat.zero_le _, rfl, hide (by rw [List.take_zero, List.append_nil]; exact HIb.out)⟩
          case round =>
            obtain ⟨q, hq, rfl, HI⟩ := hrel
            by_cases hlq : q < ph.args.length
            · obtain ⟨Ws, hW⟩ := HI.out
              have hfr := hW.fr
              obtain ⟨b3, o3, rfl, hb3, r0⟩ := HAR.out q hlq
              have r0' := (cell_of (hfr.block b3 (by omega) (fun i hi e => by have := HGS.out i hi; omega))).trans r0
              obtain ⟨b4, o4, e4, hb4, a4, c4, r1, hi4⟩ := HPS.out k (by simpa using hlt)
              injection e4 with e4
              injection e4 with e5 e6
              subst e5
              subst e6
              have r1' := (cell_of (hfr.block (w1.heap.size + 1) hb4.2 (fun i hi e => by have := HGS.out i hi; omega))).trans r1
              simp only [List.getElem_map, List.getElem_range, HPD.out] at r1' hi4
              have hqp : q < (predN xs xs.length k).length := by have := HAL.out; omega
              obtain ⟨b5, o5, e7, hb5, r2⟩ := hi4 q (by simpa [natI] using hqp)
              subst e7
              have r2' := (cell_of (hfr.block b5 hb5.2 (fun i hi e => by have := HGS.out i hi; omega))).trans r2
              have hpq : (natI (predN xs xs.length k))[q]'(by simpa [natI] using hqp) = (((predN xs xs.length k)[q] : Nat) : Int) := by simp [natI]
              rw [hpq] at r2'
              have hpl : (predN xs xs.length k)[q] < n := by have := (predN_mem.1 (List.getElem_mem hqp)).1; have := hx.out; omega
              have hvq := HAV.out ph.args[q] (List.getElem_mem hlq)
              have HZ : Hid (((predN xs xs.length k).zip (natL ph.args)).take (q + 1) = ((predN xs xs.length k).zip (natL ph.args)).take q ++ [((predN xs xs.length k)[q], ph.args[q].toNat)]) := hide (by
                rw [take_next _ _ (by simp [natL]; omega)]
                simp [natL])
              obtain ⟨vv, hvv⟩ := Int.eq_ofNat_of_zero_le hvq.1
              rw [hvv] at r0' hvq HZ
              simp only [Int.toNat_natCast] at HZ
              have hln4 : (natI (predN xs xs.length k)).length = (predN xs xs.length k).length := by simp [natI]
              rw [hln4, Nat.zero_add] at r1'
              have hpe := HAL.out
              rw [← hpe] at r1'
              have HW := hide hW
              clear hW hfr r0 r1 r2 hi4 hpq hvv HI hpe hln4
              generalize (predN xs xs.length k)[q] = p at *
              have hG0 := HW.out.sets.row.cell hpl
              have hvl : vv < V := by omega
              clear hvq
              go_wp2_with fail
              have HWa := hide (HW.out.below (balloc (Below.refl _ _) (.cells #[.int .i64 (vv : Int)] 93)))
              have hgl : gs p < wr.heap.size := (HW.out.sets.set p hpl).lt
              have hza : wr.heap.size + 1 ≤ (wr.alloc (.cells #[.int .i64 (vv : Int)] 93)).heap.size := by simp
              have HIO : Hid (IntsAt (wr.alloc (.cells #[.int .i64 (vv : Int)] 93)) wr.heap.size (wr.heap.size + 1) (some ⟨wr.heap.size, 0, none⟩) ([vv].map Int.ofNat)) := hide (ints_one wr vv _)
              have HTV : ∀ t ∈ [vv], t < 64 * K := fun t ht => by
                have e : t = vv := by simpa using ht
                omega
              refine (add_valueNo (gs p) K K 1 1 (Ws p) _ [vv] wr.heap.size (wr.heap.size + 1) _ HIO (hide rfl) (by omega) (hide HTV) (by omega) (hide (HW.out.wd p)) (hide (HWa.out.sets.set p hpl)) hza (by omega)).mono ?_
              rintro e w5 ⟨rfl, hg5, hr5⟩
              have HW5 := hide (HWa.out.add hpl hg5 hr5)
              clear hg5 hr5 HWa HIO hG0 r0' r1' r2'
              go_wp2_with fail
              exact ⟨⟨q + 1, by omega, by go_num, hide ⟨_, by rw [HZ.out, ← List.append_assoc]; exact HW5.out⟩⟩, by simp [intOf]; omega⟩
            · have hqe : q = ph.args.length := by omega
              have HZ : Hid (((predN xs xs.length k).zip (natL ph.args)).take q = (predN xs xs.length k).zip (natL ph.args)) := hide (List.take_of_length_le (by simp [natL]; omega))
              rw [HZ.out] at HI
              clear hqe
              go_wp2_with fail
              exact ⟨⟨j + 1, by omega, by go_num, hide (by rw [HTX.out, ← List.append_assoc]; exact HI.out)⟩, by simp [intOf]; omega⟩
        · have hje : j = X.phis.length := by omega
          have HZ : Hid (X.phis.take j = X.phis) := hide (List.take_of_length_le (by omega))
          rw [HZ.out] at HI
          clear hje
          go_wp2_with fail
          exact ⟨⟨k + 1, by omega, by go_num, hide (by rw [HNX.out]; exact HI.out)⟩, by simp [intOf]; omega⟩
    · have hke : k = n := by omega
      subst hke
      go_wp2
      go_ret
      obtain ⟨Ws, hW⟩ := HI.out
      refine ⟨G, gs, Ws, rfl, by omega, ⟨hW.fr.os.trans HB2.out.os, hW.fr.tape.trans HB2.out.tape, hW.fr.output.trans HB2.out.output, Nat.le_trans HB2.out.size hW.fr.size, fun i hi => (hW.fr.block i (by have := HB2.out.size; omega) (fun j hj e => by have := HGS.out j hj; omega)).trans (HB2.out.block i hi)⟩, hW.sets, fun i hi => by have := HGS.out i hi; omega, hW.wd, hW.has⟩
end Go.Proofs.YtlmaodcddbkllaaDoor

/-
  The program's sets of value numbers: remove; pure.
-/
namespace Go.Proofs.YtlmaodcddbkllaaDoor
open Go.RowKit

def delN (W : Nat → Nat) (x : Nat) : Nat → Nat := fun i => if i = x / 64 then W i &&& (18446744073709551615 - 2 ^ (x % 64)) else W i
theorem pow_lt64 {t : Nat} (h : t < 64) : 2 ^ t < 18446744073709551616 := Nat.lt_of_lt_of_le (Nat.pow_lt_pow_right (by decide) h) (by decide)
theorem has_del (W : Nat → Nat) (x y : Nat) : hasN (delN W x) y = (decide (y ≠ x) && hasN W y) := by
  unfold hasN delN
  by_cases e : y / 64 = x / 64
  · rw [if_pos e, Nat.testBit_and, not_bit (pow_lt64 (Nat.mod_lt _ (by decide))) (Nat.mod_lt _ (by decide)), Nat.testBit_two_pow]
    by_cases h : x % 64 = y % 64
    · have : y = x := by omega
      simp [this]
    · have : y ≠ x := fun q => h (by rw [q])
      simp [h, this]
  · rw [if_neg e]
    have : y ≠ x := fun q => e (by rw [q])
    simp [this]
theorem del_wd {W : Nat → Nat} (h : WdOk W) (x : Nat) : WdOk (delN W x) := fun i => by
  unfold delN
  split
  · exact Nat.lt_of_le_of_lt Nat.and_le_left (h i)
  · exact h i
def delsN (W : Nat → Nat) (ts : List Nat) : Nat → Nat := ts.foldl delN W
theorem dels_take {W : Nat → Nat} {ts : List Nat} {q : Nat} (h : q < ts.length) : delsN W (ts.take (q + 1)) = delN (delsN W (ts.take q)) ts[q] := by
  unfold delsN
  rw [List.take_succ_eq_append_getElem h, List.foldl_append]
  rfl
theorem dels_wd : ∀ (ts : List Nat) {W : Nat → Nat}, WdOk W → WdOk (delsN W ts)
  | [], _, h => h
  | t :: ts, _, h => dels_wd ts (del_wd h t)
theorem has_dels : ∀ (ts : List Nat) (W : Nat → Nat) (y : Nat), hasN (delsN W ts) y = (decide (y ∉ ts) && hasN W y)
  | [], _, _ => by simp [delsN]
  | t :: ts, W, y => by
    have h := has_dels ts (delN W t) y
    have e : delsN W (t :: ts) = delsN (delN W t) ts := rfl
    rw [e, h, has_del]
    by_cases h1 : y = t <;> by_cases h2 : y ∈ ts <;> simp [h1, h2]
theorem andNotN_bit {W t : Nat} (ht : t < 64) (hW : W < 18446744073709551616) : bits .andNot .u64 (W : Int) (IntKind.u64.wrap (2 ^ t)) = ((W &&& (18446744073709551615 - 2 ^ t) : Nat) : Int) := by
  have h2 := pow_lt64 ht
  have e : IntKind.u64.wrap (2 ^ t) = ((2 ^ t : Nat) : Int) := by
    rw [IntKind.wrap_u64]
    have : ((2 ^ t : Nat) : Int) = (2 : Int) ^ t := by simp
    rw [← this]
    exact Int.emod_eq_of_lt (Int.natCast_nonneg _) (Int.ofNat_lt.2 h2)
  rw [e, u64_andNot_nat _ _ hW h2]
set_option maxHeartbeats 1000000 in
set_option maxRecDepth 100000 in
theorem remove_valueNo (g K C n c : Nat) (W : Nat → Nat) (a : Option Addr) (ts : List Nat) (L B : Nat) (w : World) (ha : Hid (IntsAt w L B a (ts.map Int.ofNat))) (hx : Hid (n = ts.length)) (hn : n ≤ 4000) (ht : Hid (∀ t ∈ ts, t < 64 * K)) (hK : K ≤ 1000) (hW : Hid (WdOk W)) (hr : Hid (WsAt w g K C W)) (hB : B ≤ w.heap.size) (hgL : ¬ (L ≤ g ∧ g < B)) :
    Calls Tryd.prog 112 #[.agg #[.slice (some ⟨g, 0, none⟩) K C], .slice a n c] w fun e w' => e = .returned (.tuple #[]) ∧ w.grownBy w' (some g) ∧ WsAt w' g K C (delsN W ts) := by
  go_enter Tryd.func112, Tryd.ntmps112
  go_wp2
  have hg : g < w.heap.size := hr.out.lt
  go_loopw [8] (fun u wr => ∃ q : Nat, q ≤ n ∧ u = .int .i64 q ∧ Hid (w.grownBy wr (some g)) ∧ wr.cell? ⟨w.heap.size, 0, none⟩ = some (.slice (some ⟨g, 0, none⟩) K C) ∧ Hid (WsAt wr g K C (delsN W (ts.take q)))) (fun u _ => n - (intOf u).toNat)
  case atStart => exact ⟨0, Nat.zero_le _, rfl, hide (World.grownBy_alloc _ _ _), by simp, hide (hr.out.alloc _)⟩
  case round =>
    obtain ⟨q, hq, rfl, HG, hs, HR⟩ := hrel
    by_cases hlt : q < n
    · have hqx : q < ts.length := by have := hx.out; omega
      obtain ⟨b, o, rfl, hbB, e0w⟩ := ha.out q (by simpa using hqx)
      have e0 := (cell_of (HG.out.block b (by omega) (fun e => by injection e with e; omega))).trans e0w
      rw [List.getElem_map] at e0
      have htq := ht.out _ (List.getElem_mem hqx)
      have HT := hide (dels_take (W := W) hqx)
      have HWA := hide (dels_wd (ts.take q) hW.out)
      clear e0w
      generalize ts[q] = t at *
      have h2 := quoN t
      have h3 := remN t
      have e0' : wr.cell? ⟨b, o + q, none⟩ = some (.int .i64 (t : Int)) := e0
      clear e0
      generalize delsN W (ts.take q) = W1 at *
      have hd : t / 64 < K := by omega
      have hm : t % 64 < 64 := Nat.mod_lt _ (by decide)
      have ec := HR.out.cell hd
      have ez := HR.out.frozen
      have HOR := hide (andNotN_bit hm (HWA.out (t / 64)))
      have HAD : Hid (∀ i, (if i = t / 64 then W1 (t / 64) &&& (18446744073709551615 - 2 ^ (t % 64)) else W1 i) = delsN W (ts.take (q + 1)) i) := hide (fun i => by
        rw [HT.out]
        unfold delN
        by_cases e : i = t / 64
        · rw [if_pos e, if_pos e, e]
        · rw [if_neg e, if_neg e])
      generalize hd2 : t / 64 = td at *
      generalize hm2 : t % 64 = tm at *
      go_wp2
      go_region
      go_wp2
      rw [HOR.out]
      have kk : wr.grownBy (wr.setCell ⟨g, td, none⟩ (.int .u64 ((W1 td &&& (18446744073709551615 - 2 ^ tm) : Nat) : Int))).drew (some g) := ⟨rfl, rfl, rfl, by simp [World.setCell, World.drew], fun k _ hk => Below.heap_setCell _ _ _ _ (fun e => hk (by rw [e]))⟩
      refine ⟨⟨q + 1, by omega, by go_num, hide (HG.out.andThen kk (fun j hj => by cases hj; exact Or.inr rfl)), ?_, hide ?_⟩, by simp [intOf]; omega⟩
      · exact (World.cell?_setCell_far wr ⟨g, td, none⟩ ⟨w.heap.size, 0, none⟩ _ (by show g ≠ w.heap.size; omega)).trans hs
      · refine WsAt.drew ((HR.out.set td _ hd).congr (fun i _ => ?_))
        rw [← HAD.out i]
    · have hqn : q = n := by omega
      have HX : Hid (ts.take q = ts) := hide (List.take_of_length_le (by have := hx.out; omega))
      rw [HX.out] at HR
      go_wp2
      go_end0
      exact ⟨rfl, HG.out, HR.out⟩
end Go.Proofs.YtlmaodcddbkllaaDoor

/-
  The program's sets of value numbers: clone.
-/
namespace Go.Proofs.YtlmaodcddbkllaaDoor
open Go.RowKit

set_option maxHeartbeats 1000000 in
set_option maxRecDepth 100000 in
theorem cloneU_any (g K C : Nat) (W : Nat → Nat) (w : World) (hr : Hid (WsAt w g K C W)) (hK : K ≤ 1000) :
    Calls Tryd.prog 162 #[.slice (some ⟨g, 0, none⟩) K C] w fun e w' => ∃ g' C', e = .returned (.slice (some ⟨g', 0, none⟩) K C') ∧ w.heap.size ≤ g' ∧ Below w.heap.size w w' ∧ WsAt w' g' K C' W := by
  obtain ⟨i0, hi0, hz0, hz1, hz2⟩ := info_parts Tryd.infoU64valueNo
  have q22 : ∀ (w : World) (a : Option Addr) (n c n' c' : Nat), (binOp .eql 89 (.slice a n c) (.slice none n' c')).run Tryd.prog w = .ok (.bool a.isNone) w := fun w a n c n' c' => Lib.run_eql_slice_nil w _ _ a n c n' c' Tryd.underlying89
  have hg := hr.out.lt
  have HO0 : Hid ((w.alloc (.cells #[] 178)).ownsRow w.heap.size 178 1 (.slice (some ⟨w.heap.size, 0, none⟩) 0 0) 0 []) := hide (World.ownsRow_lit (base := w.heap.size) (e := 178) (size := 1) w #[] 0 (by simp) (by simp) rfl)
  go_enter Tryd.func162, Tryd.ntmps162
  go_wp2_with (at_builtin; refine wpList_append_own _ rfl _ _ 89 rfl w.heap.size 178 i0 (.int .u64 0) 1 8 Tryd.underlying89 hi0 hz0 hz1 hz2 rfl (by decide) _ _ _ rfl HO0.out ⟨g, 0, none⟩ K C ((List.range K).map fun i => Value.int .u64 (W i : Int)) rfl ?c0 ?c1 ?c2 ?c3 ?c4 ?c5 ?_)
  case c0 => simp
  case c1 =>
    intro j u hj
    rw [List.getElem?_map] at hj
    by_cases e : j < K
    · rw [List.getElem?_range e] at hj
      simp at hj
      subst hj
      have := (hr.out.alloc (.cells #[] 178)).cell e
      have e2 : (⟨g, 0, none⟩ : Addr).add j = ⟨g, j, none⟩ := by rw [Addr.add_lit]; simp
      rw [e2]
      exact this
    · rw [List.getElem?_eq_none (by simp; omega)] at hj
      cases hj
  case c2 =>
    intro u hu
    obtain ⟨i, _, rfl⟩ := List.mem_map.1 hu
    rfl
  case c3 => unfold maxLen; omega
  case c4 => omega
  case c5 => simp
  intro v1 w1 hown1 hgrow1 hnil
  have hvn : v1 ≠ .slice none 0 0 := by simpa using hnil
  have hb := grown_below (balloc (Below.refl w.heap.size w) _) hgrow1 HO0.out (Nat.le_refl _) (by simp)
  have hown2 : w1.ownsRow w.heap.size 178 1 v1 ((List.range K).map W).length (((List.range K).map W).map fun x : Nat => Value.int .u64 (x : Int)) := by
    have e : (((List.range K).map W).map fun x : Nat => Value.int .u64 (x : Int)) = (List.range K).map fun i => Value.int .u64 (W i : Int) := by simp
    rw [e]
    simpa using hown1
  obtain ⟨g', C', rfl, hg', hw'⟩ := WsAt.of_own hown2 hvn
  have HB := hide hb
  have HW : Hid (WsAt w1 g' K C' W) := hide (by
    have e : ((List.range K).map W).length = K := by simp
    rw [e] at hw'
    exact hw'.congr (fun i hi => by simp [hi]))
  have e : ((List.range K).map W).length = K := by simp
  rw [e]
  clear hb hown1 hown2 hgrow1 hnil hvn hw' e
  go_wp2
  go_ret
  exact ⟨_, _, rfl, hg', HB.out, HW.out⟩
set_option maxHeartbeats 1000000 in
theorem clone_valueNo (g K C : Nat) (W : Nat → Nat) (w : World) (hr : Hid (WsAt w g K C W)) (hK : K ≤ 1000) :
    Calls Tryd.prog 110 #[.agg #[.slice (some ⟨g, 0, none⟩) K C]] w fun e w' => ∃ g' C', e = .returned (.agg #[.slice (some ⟨g', 0, none⟩) K C']) ∧ w.heap.size ≤ g' ∧ Below w.heap.size w w' ∧ WsAt w' g' K C' W := by
  go_enter Tryd.func110, Tryd.ntmps110
  go_wp2_with fail
  have HA : Hid (Below w.heap.size w ((w.alloc (.cells #[.slice (some ⟨g, 0, none⟩) K C] 91)).alloc (.cells #[.slice none 0 0] 91))) := hide (balloc (balloc (Below.refl _ _) _) _)
  have hzA : ((w.alloc (.cells #[.slice (some ⟨g, 0, none⟩) K C] 91)).alloc (.cells #[.slice none 0 0] 91)).heap.size = w.heap.size + 2 := by simp
  have hrA := (hr.out.alloc (.cells #[.slice (some ⟨g, 0, none⟩) K C] 91)).alloc (.cells #[.slice none 0 0] 91)
  have hcA : ((w.alloc (.cells #[.slice (some ⟨g, 0, none⟩) K C] 91)).alloc (.cells #[.slice none 0 0] 91)).cell? ⟨w.heap.size + 1, 0, none⟩ = some (.slice none 0 0) := by simp [go_sem]
  have hfA : ((w.alloc (.cells #[.slice (some ⟨g, 0, none⟩) K C] 91)).alloc (.cells #[.slice none 0 0] 91)).frozen? ⟨w.heap.size + 1, 0, none⟩ = false := by simp [go_sem]
  generalize (w.alloc (.cells #[.slice (some ⟨g, 0, none⟩) K C] 91)).alloc (.cells #[.slice none 0 0] 91) = wa at *
  refine (cloneU_any g K C W wa (hide hrA) hK).mono ?_
  rintro e w1 ⟨g1, C1, rfl, hg1, hb1, hw1⟩
  have f1 := (hb1.cell (p := ⟨w.heap.size + 1, 0, none⟩) (by show w.heap.size + 1 < _; omega)).trans hcA
  have f2 : w1.frozen? ⟨w.heap.size + 1, 0, none⟩ = false := by rw [World.frozen?_of_block (w := wa) (a := ⟨w.heap.size + 1, 0, none⟩) (hb1.block _ (by show w.heap.size + 1 < _; omega))]; exact hfA
  have HB1 := hide (bnext HA.out hb1)
  have HW1 := hide hw1
  clear hb1 hw1 hcA hfA
  go_wp2_with fail
  refine bodyPost_ret (v := .agg #[.slice (some ⟨g1, 0, none⟩) K C1]) (by simp [results, Tryd.results110, go_sem, f1]) rfl ?_
  exact ⟨_, _, rfl, by omega, HB1.out.setCell (by show w.heap.size ≤ w.heap.size + 1; omega) _, HW1.out.setOther (by show g1 ≠ w.heap.size + 1; omega) _⟩
end Go.Proofs.YtlmaodcddbkllaaDoor
