import Derived.Test.YteifkldaoddpdaaDoorRunS
import Derived.Test.YteifkldaoddpdaaDoorE13
import Derived.Test.YteifkldaoddpdaaDoorE15
import Derived.Test.YteifkldaoddpdaaDoorW15
import Derived.Test.YteifkldaoddpdaaDoorOwn
import Derived.Deep.Slices
/-
  impl.EncodeFunc.
-/
namespace Go.Proofs.YteifkldaoddpdaaDoor
open Go.RowKit

/-- A line of numbers that were laid down last. -/
theorem litI_any (B : Nat) (u : Value) (xs word : List UInt8) (vs : List Int) (s : Nat) (W : World) (hs : s = W.heap.size) (hB : B ≤ W.heap.size)
    (ho : Hid (W.ownsRow B 5 1 u xs.length (bytesV xs))) (hlen : Hid (xs.length + (lineS word vs).length ≤ 1000000000000))
    (hin : Hid (∀ v ∈ vs, InB v)) (htab : Hid (TabOk B W)) :
    Calls Tryd.prog 40 #[u, .string (strOf word), .slice (some ⟨s, 0, none⟩) vs.length vs.length] (W.alloc (.cells (vs.map (Value.int .i64)).toArray 2)) fun e w' =>
      ∃ v, e = .returned v ∧ Kp B W w' ∧ w'.ownsRow B 5 1 v (xs ++ lineS word vs).length (bytesV (xs ++ lineS word vs)) := by
  subst hs
  have hst := ints_row (B := B) (B0 := B) (g := W.heap.size) (w' := W.alloc (.cells (vs.map (Value.int .i64)).toArray 2)) (qs := vs) ⟨_, _, heap_alloc_new W _⟩ hB (fun i hi => by
    obtain ⟨b, o, e, _, h⟩ := ints_lit W vs i hi
    cases e
    exact h)
  refine (appendLine_any B u xs word _ vs.length vs.length vs B _ _ (by simp; omega) (hide (ho.out.alloc _)) hlen (hide hst) (hide rfl) hin (hide (htab.out.on ((Below.refl _ _).alloc hB _)))).mono ?_
  rintro e w' ⟨v, rfl, h1, h2⟩
  exact ⟨v, rfl, ((Kp.refl B W).alloc hB _).trans h1, h2⟩
/-- A line without numbers. -/
theorem nilI_any (B : Nat) (u : Value) (xs word : List UInt8) (W : World) (hB : B ≤ W.heap.size)
    (ho : Hid (W.ownsRow B 5 1 u xs.length (bytesV xs))) (hlen : Hid (xs.length + (lineS word []).length ≤ 1000000000000)) (htab : Hid (TabOk B W)) :
    Calls Tryd.prog 40 #[u, .string (strOf word), .slice none 0 0] W fun e w' =>
      ∃ v, e = .returned v ∧ Kp B W w' ∧ w'.ownsRow B 5 1 v (xs ++ lineS word []).length (bytesV (xs ++ lineS word [])) :=
  appendLine_any B u xs word none 0 0 [] 0 0 W hB ho hlen (hide (fun _ _ i hi => absurd hi (by simp))) (hide rfl) (hide (fun v hv => by cases hv)) htab

theorem args_of_valid (F : Fn) (h : validS F = true) : ∀ x ∈ F.blocks, ∀ p ∈ x.phis, 1 ≤ p.args.length := by
  intro x hx p hp
  obtain ⟨b, hb, rfl⟩ := List.getElem_of_mem hx
  have H := blkOk_of F h b hb
  have e := blk_at F b hb
  have hP := H.phi
  obtain ⟨i, hi, rfl⟩ := List.getElem_of_mem hp
  have h1 := hP i (by rw [e]; exact hi)
  simp only [e] at h1
  simp only [phOkI, phOkS, Bool.and_eq_true, decide_eq_true_eq] at h1
  exact h1.2.1.1
theorem phi_clone (Wp W : World) (b o cap : Nat) (vs : List Int) (L B : Nat) (hv : IntsAt Wp L B (some ⟨b, o, none⟩) vs) (hB : B ≤ Wp.heap.size) (hn9 : vs.length ≤ 1000000000) (hW : Below Wp.heap.size Wp W) :
    Calls Tryd.prog 42 #[.slice (some ⟨b, o, none⟩) vs.length cap] W fun e w' => ∃ g cc, e = .returned (.slice (some ⟨g, 0, none⟩) vs.length cc) ∧ Below W.heap.size W w' ∧ W.heap.size ≤ g ∧ g < w'.heap.size ∧ w'.ownsRow W.heap.size 2 1 (.slice (some ⟨g, 0, none⟩) vs.length cc) vs.length (vs.map (Value.int .i64)) := by
  refine (clone_any b o vs.length cap vs L B W (hide (hv.keep (hW.mono hB))) (hide rfl) hn9 (Nat.le_trans hB hW.size)).mono ?_
  rintro e w' ⟨v, rfl, hb, hne, hown⟩
  have ho := hown
  obtain ⟨hl, h0 | ⟨g, cc, cur, rfl, hg, hh, r⟩⟩ := hown
  · exact absurd h0.1 hne
  · exact ⟨g, cc, rfl, hb, hg, (Array.getElem?_eq_some_iff.1 hh).1, ho⟩
/-- What the three calls of a phi's line do, one behind the other. -/
theorem phi_insert (B : Nat) (Wp W : World) (g cc vb : Nat) (d : Int) (vs : List Int) (hn : 1 ≤ vs.length) (hn9 : vs.length ≤ 1000000000) (hW : Below Wp.heap.size Wp W) (ho : W.ownsRow Wp.heap.size 2 1 (.slice (some ⟨g, 0, none⟩) vs.length cc) vs.length (vs.map (Value.int .i64)))
    (hvb : vb ≠ g) (hvh : W.heap[vb]? = some (.cells #[.int .i64 d] 2 (0, 0))) :
    Calls Tryd.prog 41 #[.slice (some ⟨g, 0, none⟩) vs.length cc, .int .i64 0, .slice (some ⟨vb, 0, none⟩) 1 1] W fun e w' =>
      ∃ qa qc, e = .returned (.slice qa (vs.length + 1) qc) ∧ Below Wp.heap.size Wp w' ∧ (∀ w'', Kp B w' w'' → IntsAt w'' Wp.heap.size w'.heap.size qa (d :: vs)) := by
  refine (insert_any B g vs.length cc vb Wp.heap.size d vs W hn rfl hn9 ho hvb hvh).mono ?_
  rintro e w' ⟨qa, qc, rfl, hb, hst⟩
  exact ⟨qa, qc, rfl, hW.trans hb, hst⟩
theorem phi_line (B : Nat) (u : Value) (xs : List UInt8) (P : Ph) (Wp W : World) (qa : Option Addr) (qc L M : Nat) (hB : B ≤ Wp.heap.size) (hW : Below Wp.heap.size Wp W) (ho : Wp.ownsRow B 5 1 u xs.length (bytesV xs))
    (hlen : xs.length + (phiS P).length ≤ 1000000000000) (hin : ∀ v ∈ P.dst :: P.args, InB v) (htab : TabOk B Wp) (hst : ∀ w'', Kp B W w'' → IntsAt w'' L M qa (P.dst :: P.args)) :
    Calls Tryd.prog 40 #[u, .string (strOf [112, 104, 105]), .slice qa (P.args.length + 1) qc] W fun e w' =>
      ∃ v, e = .returned v ∧ Kp B Wp w' ∧ w'.ownsRow B 5 1 v (xs ++ phiS P).length (bytesV (xs ++ phiS P)) := by
  have hs := hW.size
  refine (appendLine_any B u xs [112, 104, 105] qa (P.args.length + 1) qc (P.dst :: P.args) L M W (by omega) (hide (own_calm ho hW)) (hide hlen) (hide hst) (hide rfl) (hide hin) (hide (htab.on (hW.mono hB)))).mono ?_
  rintro e w' ⟨v, rfl, h1, h2⟩
  exact ⟨v, rfl, (Kp.calm hW hB).trans h1, h2⟩
theorem Kp.block {B g : Nat} {w w' : World} {t : TypeId} (h : Kp B w w') (hh : ∃ c fz, w.heap[g]? = some (.cells c t fz)) (ht : t ≠ 5) : w'.heap[g]? = w.heap[g]? := by
  obtain ⟨c, fz, hh⟩ := hh
  exact (h.kept g _ hh (by simp) (fun c' fz' e' => by cases e'; exact ht rfl)).trans hh.symm

set_option maxHeartbeats 2000000 in
set_option maxRecDepth 100000 in
theorem encI_yes (V : Int) (a : Option Addr) (n c : Nat) (xs : List Blk) (L B : Nat) (w : World) (ha : Hid (BlksAt w L B a xs)) (hx : Hid (n = xs.length)) (hs : Hid (xs.length + blksTot xs ≤ 1048576)) (hB : B ≤ w.heap.size) (hO : Hid (OpTabW w)) (hT : Hid (TerTabW w)) (hP : Hid (TabOk w.heap.size w))
    (HV : Hid (validS ⟨V, xs⟩ = true)) :
    Calls Tryd.prog 12 #[.agg #[.int .i64 V, .slice a n c]] w fun e w' => ∃ v, e = .returned v ∧ Below w.heap.size w w' ∧ w'.ownsRow w.heap.size 5 1 v (rawS ⟨V, xs⟩).length (bytesV (rawS ⟨V, xs⟩)) := by
  obtain ⟨o1, o2, o3⟩ := ops_of_valid _ HV.out
  have O1 := hide o1
  have O2 := hide o2
  have O3 := hide o3
  have hn : n ≤ 1048576 := by have := hx.out; have := hs.out; omega
  have HLEN : Hid ((rawS ⟨V, xs⟩).length ≤ 1000000000000) := hide (by have := rawS_le ⟨V, xs⟩ o1 o2; have h2 := hs.out; simp only at this; omega)
  have hB1 : 1 < w.heap.size := hT.out.1
  clear o1 o2 o3
  have HF : Hid (∀ w1, Below (w.alloc (.cells #[.int .i64 V, .slice a n c] 29)).heap.size (w.alloc (.cells #[.int .i64 V, .slice a n c] 29)) w1 → w.heap.size + 1 ≤ w1.heap.size ∧ w1.cell? ⟨w.heap.size, 0, none⟩ = some (.int .i64 V) ∧ w1.cell? ⟨w.heap.size, 1, none⟩ = some (.slice a n c) ∧ Hid (Below w.heap.size w w1)) := hide (fun w1 hb1 => by
      refine ⟨by have := hb1.size; simpa using this, (hb1.cell (p := ⟨w.heap.size, 0, none⟩) (by simp)).trans (by simp), (hb1.cell (p := ⟨w.heap.size, 1, none⟩) (by simp)).trans (by simp), hide ((balloc (Below.refl w.heap.size w) _).trans (hb1.mono (by simp)))⟩)
  have HVS : Hid (validI ⟨V, xs⟩ = true) := hide (by rw [valid_same]; exact HV.out)
  go_enter Tryd.func12, Tryd.ntmps12
  go_wp2_with fail
  refine (validFuncI_any V a n c xs L B _ (hide (ha.out.keep ((balloc (Below.refl w.heap.size w) _).mono hB))) hx hs (by simp; omega) (hide (hO.out.keep (balloc (Below.refl w.heap.size w) _) (by omega)).old) (hide (hT.out.keep (balloc (Below.refl w.heap.size w) _) (by omega)).old)).mono ?_
  rintro e w1 ⟨rfl, hb1⟩
  rw [HVS.out]
  obtain ⟨hz, k0, k1, HB1⟩ := HF.out _ hb1
  have HH1 : Hid (∃ c fz, w1.heap[w.heap.size]? = some (.cells c 29 fz)) := hide ⟨_, _, (hb1.block w.heap.size (by simp)).trans (heap_alloc_new w _)⟩
  clear hb1
  have hz' : w.heap.size < w1.heap.size := by omega
  have HK1 : Hid (Kp w.heap.size w w1) := hide (Kp.calm HB1.out (Nat.le_refl _))
  have HL1 : Hid (([] : List UInt8).length + (lineS [102, 117, 110, 99] [V]).length ≤ 1000000000000) := hide (by have := HLEN.out; unfold rawS at this; simp only [List.length_append, List.length_nil] at this ⊢; omega)
  have HKF : Hid (∀ w2, Kp w.heap.size (w1.alloc (.cells #[] 5)) w2 → Kp w.heap.size w w2 ∧ w2.cell? ⟨w.heap.size, 1, none⟩ = some (.slice a n c)) := hide (fun w2 hk => by
    obtain ⟨c0, fz, hh⟩ := HH1.out
    have h1 : Kp w.heap.size w1 w2 := ((Kp.refl _ w1).alloc (by omega) _).trans hk
    have h2 := h1.kept w.heap.size _ hh (by simp) (fun c' fz' e' => by cases e')
    exact ⟨HK1.out.trans h1, (cell_of (h2.trans hh.symm)).trans k1⟩)
  go_wp2_with (go_at_call 40; refine (litI_any w.heap.size _ [] [102, 117, 110, 99] [V] _ (w1.alloc (.cells #[] 5)) (by simp) (by simp; omega) (hide (own_base (own_nilB w1) (by omega))) HL1 (hide (fun v h => by simp at h; exact h ▸ O1.out)) (hide (hP.out.on ((HB1.out.alloc (by omega) _))))).mono ?_; rintro e w2 ⟨x2, rfl, hk2, ho2⟩; obtain ⟨hk3, k2⟩ := HKF.out _ hk2; have HK2 := hide hk3; have HO2 := hide ho2; clear hk2 hk3 ho2)
  have HARG := hide (args_of_valid _ HV.out)
  go_loopw [3, 22] (fun x i wr => ∃ k : Nat, k ≤ n ∧ i = .int .i64 k ∧ Hid (Kp w.heap.size w wr) ∧ Hid (wr.ownsRow w.heap.size 5 1 x (lineS [102, 117, 110, 99] [V] ++ (xs.take k).flatMap blkS).length (bytesV (lineS [102, 117, 110, 99] [V] ++ (xs.take k).flatMap blkS)))) (fun _ i _ => n - (intOf i).toNat)
  case atStart => exact ⟨0, Nat.zero_le _, rfl, HK2, hide (by simpa using HO2.out)⟩
  case round =>
    clear HK2 HO2 HK1 HB1 HH1 HKF HF k0 k1 k2 hz hz'
    obtain ⟨k, hk, rfl, HK, HO⟩ := hrel
    have hwz := HK.out.below.size
    by_cases hlt : k < n
    · have hkx : k < xs.length := by have := hx.out; omega
      have HKX := hide (O2.out xs[k] (List.getElem_mem hkx))
      have hop := hide (O3.out xs[k] (List.getElem_mem hkx)).1
      have hkd := hide (O3.out xs[k] (List.getElem_mem hkx)).2
      have HAR := hide (HARG.out xs[k] (List.getElem_mem hkx))
      obtain ⟨b, o, rfl, ⟨hbL, hbB⟩, hc⟩ := ha.out k hkx
      have hc2 := hc.keepS (Same.of_below (HK.out.below.mono hB)) (HK.out.below.block b (by omega))
      obtain ⟨pa, pc, ia, ic, e0, e1, ⟨t0, t1, t2, t3⟩, hp, hi⟩ := hc2
      have HP := hide hp
      have HI := hide hi
      clear hp hi hc
      have HT : Hid (lineS [102, 117, 110, 99] [V] ++ (xs.take (k + 1)).flatMap blkS = (lineS [102, 117, 110, 99] [V] ++ (xs.take k).flatMap blkS) ++ blkS xs[k]) := hide (by rw [take_next _ _ hkx, List.flatMap_append]; simp)
      have HL : Hid ((lineS [102, 117, 110, 99] [V] ++ (xs.take k).flatMap blkS).length + (blkS xs[k]).length ≤ 1000000000000) := hide (by have h1 := HLEN.out; have h2 := flat_split blkS xs k hkx; unfold rawS at h1; simp only at h1; rw [h2] at h1; simp only [List.length_append] at h1 ⊢; omega)
      have HPT : Hid (∀ p ∈ xs[k].phis, p.args.length ≤ 1000000000) := hide (fun p hp => by have h1 := tot_le (List.getElem_mem hkx); have h2 := ph_le hp; have h3 := hs.out; omega)
      generalize xs[k] = X at *
      generalize lineS [102, 117, 110, 99] [V] ++ (xs.take k).flatMap blkS = T at *
      have HLB : Hid (T.length + (lineS [98, 108, 111, 99, 107] []).length ≤ 1000000000000) := hide (by have := HL.out; unfold blkS at this; simp only [List.length_append] at this; omega)
      have HOX : Hid ((wr.alloc (.cells #[.slice pa X.phis.length pc, .slice ia X.instrs.length ic, .int .i64 X.term.kind, .int .i64 X.term.a, .int .i64 X.term.to, .int .i64 X.term.els] 55)).ownsRow w.heap.size 5 1 u3 T.length (bytesV T)) := hide (HO.out.alloc _)
      have HKW : Hid (Kp w.heap.size w (wr.alloc (.cells #[.slice pa X.phis.length pc, .slice ia X.instrs.length ic, .int .i64 X.term.kind, .int .i64 X.term.a, .int .i64 X.term.to, .int .i64 X.term.els] 55))) := hide (HK.out.alloc (by omega) _)
      have hq : (wr.alloc (.cells #[.slice pa X.phis.length pc, .slice ia X.instrs.length ic, .int .i64 X.term.kind, .int .i64 X.term.a, .int .i64 X.term.to, .int .i64 X.term.els] 55)).cell? ⟨wr.heap.size, 0, none⟩ = some (.slice pa X.phis.length pc) ∧ (wr.alloc (.cells #[.slice pa X.phis.length pc, .slice ia X.instrs.length ic, .int .i64 X.term.kind, .int .i64 X.term.a, .int .i64 X.term.to, .int .i64 X.term.els] 55)).cell? ⟨wr.heap.size, 1, none⟩ = some (.slice ia X.instrs.length ic) ∧ (wr.alloc (.cells #[.slice pa X.phis.length pc, .slice ia X.instrs.length ic, .int .i64 X.term.kind, .int .i64 X.term.a, .int .i64 X.term.to, .int .i64 X.term.els] 55)).cell? ⟨wr.heap.size, 2, none⟩ = some (.int .i64 X.term.kind) ∧ (wr.alloc (.cells #[.slice pa X.phis.length pc, .slice ia X.instrs.length ic, .int .i64 X.term.kind, .int .i64 X.term.a, .int .i64 X.term.to, .int .i64 X.term.els] 55)).cell? ⟨wr.heap.size, 3, none⟩ = some (.int .i64 X.term.a) ∧ (wr.alloc (.cells #[.slice pa X.phis.length pc, .slice ia X.instrs.length ic, .int .i64 X.term.kind, .int .i64 X.term.a, .int .i64 X.term.to, .int .i64 X.term.els] 55)).cell? ⟨wr.heap.size, 4, none⟩ = some (.int .i64 X.term.to) ∧ (wr.alloc (.cells #[.slice pa X.phis.length pc, .slice ia X.instrs.length ic, .int .i64 X.term.kind, .int .i64 X.term.a, .int .i64 X.term.to, .int .i64 X.term.els] 55)).cell? ⟨wr.heap.size, 5, none⟩ = some (.int .i64 X.term.els) := by
        refine ⟨?_, ?_, ?_, ?_, ?_, ?_⟩ <;> simp
      have HQ := hide hq
      have HHX : Hid (∃ c fz, (wr.alloc (.cells #[.slice pa X.phis.length pc, .slice ia X.instrs.length ic, .int .i64 X.term.kind, .int .i64 X.term.a, .int .i64 X.term.to, .int .i64 X.term.els] 55)).heap[wr.heap.size]? = some (.cells c 55 fz)) := hide ⟨_, _, heap_alloc_new wr _⟩
      have hsx : wr.heap.size < (wr.alloc (.cells #[.slice pa X.phis.length pc, .slice ia X.instrs.length ic, .int .i64 X.term.kind, .int .i64 X.term.a, .int .i64 X.term.to, .int .i64 X.term.els] 55)).heap.size := by simp
      have HPX : Hid (PhsAt (wr.alloc (.cells #[.slice pa X.phis.length pc, .slice ia X.instrs.length ic, .int .i64 X.term.kind, .int .i64 X.term.a, .int .i64 X.term.to, .int .i64 X.term.els] 55)) L B pa X.phis) := hide (HP.out.keep ((balloc (Below.refl wr.heap.size wr) _).mono (by omega)))
      have HIX : Hid (InssAt (wr.alloc (.cells #[.slice pa X.phis.length pc, .slice ia X.instrs.length ic, .int .i64 X.term.kind, .int .i64 X.term.a, .int .i64 X.term.to, .int .i64 X.term.els] 55)) L B ia X.instrs) := hide (HI.out.keep ((balloc (Below.refl wr.heap.size wr) _).mono (by omega)))
      clear hq
      go_wp2_with fail
      generalize wr.alloc (.cells #[.slice pa X.phis.length pc, .slice ia X.instrs.length ic, .int .i64 X.term.kind, .int .i64 X.term.a, .int .i64 X.term.to, .int .i64 X.term.els] 55) = WX at *
      have HSX := hide hsx
      clear hsx e0 e1 t0 t1 t2 t3 HP HI HO HK
      have hwx := HKW.out.below.size
      refine (nilI_any w.heap.size u3 T [98, 108, 111, 99, 107] WX hwx HOX HLB (hide (hP.out.on HKW.out.below))).mono ?_
      rintro e w2 ⟨x2, rfl, hk2, ho2⟩
      have HG2 := hide hk2
      have HO2 := hide ho2
      generalize wr = wo at *
      have HST : Hid (∀ wi, Kp w.heap.size WX wi → wi.heap[wo.heap.size]? = WX.heap[wo.heap.size]? ∧ w.heap.size ≤ wi.heap.size ∧ wo.heap.size < wi.heap.size ∧ Kp w.heap.size w wi) := hide (fun wi hg => by
        have h1 := HSX.out
        have h2 := hg.below.size
        exact ⟨hg.block HHX.out (by decide), by omega, by omega, HKW.out.trans hg⟩)
      obtain ⟨s1, _, _, _⟩ := HST.out _ hk2
      have c0 : w2.cell? ⟨wo.heap.size, 0, none⟩ = some (.slice pa X.phis.length pc) := (cell_of s1).trans HQ.out.1
      clear hk2 ho2 s1
      have HLP : Hid (∀ j, ∀ (h : j < X.phis.length), (T ++ (lineS [98, 108, 111, 99, 107] [] ++ (X.phis.take j).flatMap phiS)).length + (phiS X.phis[j]).length ≤ 1000000000000) := hide (fun j h => by
        have h1 := HL.out
        have h2 := flat_split phiS X.phis j h
        unfold blkS at h1
        rw [h2] at h1
        simp only [List.length_append] at h1 ⊢; omega)
      have HLI : Hid (∀ j, ∀ (h : j < X.instrs.length), (T ++ (lineS [98, 108, 111, 99, 107] [] ++ (X.phis.flatMap phiS ++ (X.instrs.take j).flatMap insS))).length + (insS X.instrs[j]).length ≤ 1000000000000) := hide (fun j h => by
        have h1 := HL.out
        have h2 := flat_split insS X.instrs j h
        unfold blkS at h1
        rw [h2] at h1
        simp only [List.length_append] at h1 ⊢; omega)
      have HLT : Hid ((T ++ (lineS [98, 108, 111, 99, 107] [] ++ (X.phis.flatMap phiS ++ X.instrs.flatMap insS))).length + (termS X.term).length ≤ 1000000000000) := hide (by
        have h1 := HL.out
        unfold blkS at h1
        simp only [List.length_append] at h1 ⊢; omega)
      have hpl : X.phis.length ≤ 1000000000000 := by
        have h1 := HL.out; have h2 := flat_len phiS (fun x => lineS_pos _ _) X.phis; unfold blkS at h1; simp only [List.length_append] at h1; omega
      have hil : X.instrs.length ≤ 1000000000000 := by
        have h1 := HL.out; have h2 := flat_len insS (fun x => lineS_pos _ _) X.instrs; unfold blkS at h1; simp only [List.length_append] at h1; omega
      generalize u3 = u3o at *
      go_wp2
      go_loopw [3, 31] (fun v i wi => ∃ j : Nat, j ≤ X.phis.length ∧ i = .int .i64 j ∧ Hid (Kp w.heap.size WX wi) ∧ Hid (wi.ownsRow w.heap.size 5 1 v (T ++ (lineS [98, 108, 111, 99, 107] [] ++ (X.phis.take j).flatMap phiS)).length (bytesV (T ++ (lineS [98, 108, 111, 99, 107] [] ++ (X.phis.take j).flatMap phiS))))) (fun _ i _ => X.phis.length - (intOf i).toNat)
      case atStart => exact ⟨0, Nat.zero_le _, rfl, HG2, hide (by simpa using HO2.out)⟩
      case round =>
        clear HG2 HO2 c0
        obtain ⟨j, hj, rfl, HGi, HOi⟩ := hrel
        obtain ⟨hsa, hsb, hsc, hsd⟩ := HST.out _ HGi.out
        have HSD := hide hsd
        by_cases hlj : j < X.phis.length
        · clear hsa hsd
          obtain ⟨b, o, rfl, ⟨hbL, hbB⟩, hpp⟩ := (HPX.out.keepS (Same.of_below (HGi.out.below.mono hB))) j hlj
          obtain ⟨aa, ac, d0, d1, hA⟩ := hpp
          have HLj := hide (HLP.out j hlj)
          have HKj := hide (HKX.out.phis X.phis[j] (List.getElem_mem hlj))
          have HTj := hide (flat_next phiS X.phis j hlj)
          have HN1 := hide (HAR.out X.phis[j] (List.getElem_mem hlj))
          have HN9 := hide (HPT.out X.phis[j] (List.getElem_mem hlj))
          obtain ⟨pb, po, rfl, ⟨_, hpB⟩, _⟩ := hA 0 HN1.out
          have HA := hide hA
          clear hA
          generalize X.phis[j] = P at *
          have HX : Hid (T ++ (lineS [98, 108, 111, 99, 107] [] ++ (X.phis.take (j + 1)).flatMap phiS) = (T ++ (lineS [98, 108, 111, 99, 107] [] ++ (X.phis.take j).flatMap phiS)) ++ phiS P) := hide (by rw [HTj.out]; simp)
          generalize T ++ (lineS [98, 108, 111, 99, 107] [] ++ (X.phis.take j).flatMap phiS) = TT at *
          go_wp2_with fail
          have HHP : Hid (∃ c fz, (wr.alloc (.cells #[.int .i64 P.dst, .slice (some ⟨pb, po, none⟩) P.args.length ac] 62)).heap[wr.heap.size]? = some (.cells c 62 fz)) := hide ⟨_, _, heap_alloc_new wr _⟩
          have p0 : (wr.alloc (.cells #[.int .i64 P.dst, .slice (some ⟨pb, po, none⟩) P.args.length ac] 62)).cell? ⟨wr.heap.size, 0, none⟩ = some (.int .i64 P.dst) := by simp
          have p1 : (wr.alloc (.cells #[.int .i64 P.dst, .slice (some ⟨pb, po, none⟩) P.args.length ac] 62)).cell? ⟨wr.heap.size, 1, none⟩ = some (.slice (some ⟨pb, po, none⟩) P.args.length ac) := by simp
          have hwp : wr.heap.size < (wr.alloc (.cells #[.int .i64 P.dst, .slice (some ⟨pb, po, none⟩) P.args.length ac] 62)).heap.size := by simp
          have HKP : Hid (Kp w.heap.size WX (wr.alloc (.cells #[.int .i64 P.dst, .slice (some ⟨pb, po, none⟩) P.args.length ac] 62))) := hide (HGi.out.alloc (by omega) _)
          have HOP : Hid ((wr.alloc (.cells #[.int .i64 P.dst, .slice (some ⟨pb, po, none⟩) P.args.length ac] 62)).ownsRow w.heap.size 5 1 u3 TT.length (bytesV TT)) := hide (HOi.out.alloc _)
          have HAP : Hid (IntsAt (wr.alloc (.cells #[.int .i64 P.dst, .slice (some ⟨pb, po, none⟩) P.args.length ac] 62)) L B (some ⟨pb, po, none⟩) P.args) := hide (HA.out.keep ((balloc (Below.refl wr.heap.size wr) _).mono (by omega)))
          have HTP : Hid (TabOk w.heap.size (wr.alloc (.cells #[.int .i64 P.dst, .slice (some ⟨pb, po, none⟩) P.args.length ac] 62))) := hide (hP.out.on (HKW.out.trans HKP.out).below)
          generalize wr.alloc (.cells #[.int .i64 P.dst, .slice (some ⟨pb, po, none⟩) P.args.length ac] 62) = Wp at *
          clear d0 d1
          have hws : w.heap.size ≤ Wp.heap.size := by omega
          have HKEEP : Hid (∀ w', Below Wp.heap.size Wp w' → w'.cell? ⟨wr.heap.size, 0, none⟩ = some (.int .i64 P.dst) ∧ w'.cell? ⟨wr.heap.size, 1, none⟩ = some (.slice (some ⟨pb, po, none⟩) P.args.length ac)) := hide (fun w' h => ⟨(h.cell (p := ⟨wr.heap.size, 0, none⟩) hwp).trans p0, (h.cell (p := ⟨wr.heap.size, 1, none⟩) hwp).trans p1⟩)
          have HCL : Hid (∀ W, Below Wp.heap.size Wp W → Calls Tryd.prog 42 #[.slice (some ⟨pb, po, none⟩) P.args.length ac] W (fun e w' => ∃ g cc, e = .returned (.slice (some ⟨g, 0, none⟩) P.args.length cc) ∧ Hid (Below Wp.heap.size Wp w') ∧ Hid (W.heap.size ≤ g ∧ g < w'.heap.size) ∧ Hid (Below W.heap.size W w') ∧ Hid (w'.ownsRow Wp.heap.size 2 1 (.slice (some ⟨g, 0, none⟩) P.args.length cc) P.args.length (P.args.map (Value.int .i64))) ∧ w'.cell? ⟨wr.heap.size, 0, none⟩ = some (.int .i64 P.dst) ∧ w'.cell? ⟨wr.heap.size, 1, none⟩ = some (.slice (some ⟨pb, po, none⟩) P.args.length ac))) := hide (fun W hW => by
            refine (phi_clone Wp W pb po ac P.args L B HAP.out (by omega) HN9.out hW).mono ?_
            rintro e w' ⟨g, cc, rfl, hb, hg1, hg2, hown⟩
            have hb3 : Below Wp.heap.size Wp w' := hW.trans (hb.mono hW.size)
            exact ⟨g, cc, rfl, hide hb3, hide ⟨hg1, hg2⟩, hide hb, hide (own_base hown hW.size), HKEEP.out _ hb3⟩)
          have HIN : Hid (∀ W g cc vb, Below Wp.heap.size Wp W → W.ownsRow Wp.heap.size 2 1 (.slice (some ⟨g, 0, none⟩) P.args.length cc) P.args.length (P.args.map (Value.int .i64)) → vb ≠ g → W.heap[vb]? = some (.cells #[.int .i64 P.dst] 2 (0, 0)) → Calls Tryd.prog 41 #[.slice (some ⟨g, 0, none⟩) P.args.length cc, .int .i64 0, .slice (some ⟨vb, 0, none⟩) 1 1] W (fun e w' => ∃ qa qc, e = .returned (.slice qa (P.args.length + 1) qc) ∧ Hid (Below Wp.heap.size Wp w') ∧ Hid (∀ w'', Kp w.heap.size w' w'' → IntsAt w'' Wp.heap.size w'.heap.size qa (P.dst :: P.args)) ∧ w'.cell? ⟨wr.heap.size, 0, none⟩ = some (.int .i64 P.dst) ∧ w'.cell? ⟨wr.heap.size, 1, none⟩ = some (.slice (some ⟨pb, po, none⟩) P.args.length ac))) := hide (fun W g cc vb hW hown hne hvh => by
            refine (phi_insert w.heap.size Wp W g cc vb P.dst P.args HN1.out HN9.out hW hown hne hvh).mono ?_
            rintro e w' ⟨qa, qc, rfl, hb, hst⟩
            exact ⟨qa, qc, rfl, hide hb, hide hst, HKEEP.out _ hb⟩)
          have HINa : Hid (∀ w3 g cc, Below Wp.heap.size Wp w3 → w3.ownsRow Wp.heap.size 2 1 (.slice (some ⟨g, 0, none⟩) P.args.length cc) P.args.length (P.args.map (Value.int .i64)) → g < w3.heap.size → Calls Tryd.prog 41 #[.slice (some ⟨g, 0, none⟩) P.args.length cc, .int .i64 0, .slice (some ⟨w3.heap.size, 0, none⟩) 1 1] (w3.alloc (.cells #[.int .i64 P.dst] 2)) (fun e w' => ∃ qa qc, e = .returned (.slice qa (P.args.length + 1) qc) ∧ Hid (Below Wp.heap.size Wp w') ∧ Hid (∀ w'', Kp w.heap.size w' w'' → IntsAt w'' Wp.heap.size w'.heap.size qa (P.dst :: P.args)) ∧ w'.cell? ⟨wr.heap.size, 0, none⟩ = some (.int .i64 P.dst) ∧ w'.cell? ⟨wr.heap.size, 1, none⟩ = some (.slice (some ⟨pb, po, none⟩) P.args.length ac))) := hide (fun w3 g cc hb hown hg =>
            HIN.out (w3.alloc (.cells #[.int .i64 P.dst] 2)) g cc w3.heap.size (hb.alloc hb.size _) (hown.alloc _) (by omega) (heap_alloc_new w3 _))
          have HINb : Hid (∀ w3 g cc, Below (Wp.alloc (.cells #[.int .i64 P.dst] 2)).drew.heap.size (Wp.alloc (.cells #[.int .i64 P.dst] 2)).drew w3 → Below Wp.heap.size Wp w3 → w3.ownsRow Wp.heap.size 2 1 (.slice (some ⟨g, 0, none⟩) P.args.length cc) P.args.length (P.args.map (Value.int .i64)) → (Wp.alloc (.cells #[.int .i64 P.dst] 2)).drew.heap.size ≤ g → Calls Tryd.prog 41 #[.slice (some ⟨g, 0, none⟩) P.args.length cc, .int .i64 0, .slice (some ⟨Wp.heap.size, 0, none⟩) 1 1] w3 (fun e w' => ∃ qa qc, e = .returned (.slice qa (P.args.length + 1) qc) ∧ Hid (Below Wp.heap.size Wp w') ∧ Hid (∀ w'', Kp w.heap.size w' w'' → IntsAt w'' Wp.heap.size w'.heap.size qa (P.dst :: P.args)) ∧ w'.cell? ⟨wr.heap.size, 0, none⟩ = some (.int .i64 P.dst) ∧ w'.cell? ⟨wr.heap.size, 1, none⟩ = some (.slice (some ⟨pb, po, none⟩) P.args.length ac))) := hide (fun w3 g cc hb hb2 hown hg => by
            have hs1 : (Wp.alloc (.cells #[.int .i64 P.dst] 2)).drew.heap.size = Wp.heap.size + 1 := by show (Wp.alloc (.cells #[.int .i64 P.dst] 2)).heap.size = _; simp
            exact HIN.out w3 g cc Wp.heap.size hb2 hown (by omega) ((hb.block Wp.heap.size (by omega)).trans (heap_alloc_new Wp _)))
          have HAL : Hid (∀ W qa qc M, Below Wp.heap.size Wp W → (∀ w'', Kp w.heap.size W w'' → IntsAt w'' Wp.heap.size M qa (P.dst :: P.args)) → Calls Tryd.prog 40 #[u3, .string ⟨#[112, 104, 105]⟩, .slice qa (P.args.length + 1) qc] W (fun e w' => ∃ v, e = .returned v ∧ Hid (Kp w.heap.size WX w') ∧ Hid (w'.ownsRow w.heap.size 5 1 v (T ++ (lineS [98, 108, 111, 99, 107] [] ++ (X.phis.take (j + 1)).flatMap phiS)).length (bytesV (T ++ (lineS [98, 108, 111, 99, 107] [] ++ (X.phis.take (j + 1)).flatMap phiS)))) ∧ w'.cell? ⟨wr.heap.size, 0, none⟩ = some (.int .i64 P.dst) ∧ w'.cell? ⟨wr.heap.size, 1, none⟩ = some (.slice (some ⟨pb, po, none⟩) P.args.length ac))) := hide (fun W qa qc M hW hst => by
            refine (phi_line w.heap.size u3 TT P Wp W qa qc _ M hws hW HOP.out HLj.out HKj.out HTP.out hst).mono ?_
            rintro e w' ⟨v, rfl, hk, hown⟩
            rw [HX.out]
            have hbl := hk.block HHP.out (by decide)
            exact ⟨v, rfl, hide (HKP.out.trans hk), hide hown, (cell_of hbl).trans p0, (cell_of hbl).trans p1⟩)
          have HB00 : Hid (Below Wp.heap.size Wp Wp) := hide (Below.refl _ _)
          have HB01 : Hid (Below Wp.heap.size Wp Wp.drew) := hide (Below.refl _ _).drew
          have HB02 : Hid (Below Wp.heap.size Wp (Wp.alloc (.cells #[.int .i64 P.dst] 2)).drew) := hide (balloc (Below.refl _ _) _).drew
          go_region_held3 (fun w' => w'.cell? ⟨wr.heap.size, 0, none⟩ = some (.int .i64 P.dst) ∧ w'.cell? ⟨wr.heap.size, 1, none⟩ = some (.slice (some ⟨pb, po, none⟩) P.args.length ac)) (go_keep)
            (first
              | (go_at_call 42; with_reducible refine (HCL.out Wp HB00.out).mono ?_; rintro e w5 ⟨g5, cc5, rfl, HB5, HG5, HBW5, HO5, f1, f2⟩)
              | (go_at_call 42; with_reducible refine (HCL.out Wp.drew HB01.out).mono ?_; rintro e w5 ⟨g5, cc5, rfl, HB5, HG5, HBW5, HO5, f1, f2⟩)
              | (go_at_call 42; with_reducible refine (HCL.out (Wp.alloc (.cells #[.int .i64 P.dst] 2)).drew HB02.out).mono ?_; rintro e w5 ⟨g5, cc5, rfl, HB5, HG5, HBW5, HO5, f1, f2⟩)
              | (go_at_call 41; with_reducible refine (HINa.out _ _ _ HB5.out HO5.out HG5.out.2).mono ?_; rintro e w6 ⟨qa, qc, rfl, HB6, HS6, f3, f4⟩)
              | (go_at_call 41; with_reducible refine (HINb.out _ _ _ HBW5.out HB5.out HO5.out HG5.out.1).mono ?_; rintro e w6 ⟨qa, qc, rfl, HB6, HS6, f3, f4⟩)
              | (go_at_call 40; with_reducible refine (HAL.out _ _ _ _ HB6.out HS6.out).mono ?_; rintro e w7 ⟨v7, rfl, HK7, HO7, f5, f6⟩))
          all_goals
            go_wp2
            exact ⟨⟨j + 1, by omega, by go_num, HK7, HO7⟩, by simp [intOf]; omega⟩
        · have c1 : wr.cell? ⟨wo.heap.size, 1, none⟩ = some (.slice ia X.instrs.length ic) := (cell_of hsa).trans HQ.out.2.1
          clear hsa hsd
          have HO5 : Hid (wr.ownsRow w.heap.size 5 1 u3 (T ++ (lineS [98, 108, 111, 99, 107] [] ++ X.phis.flatMap phiS)).length (bytesV (T ++ (lineS [98, 108, 111, 99, 107] [] ++ X.phis.flatMap phiS)))) := hide (by have := HOi.out; rwa [List.take_of_length_le (by omega)] at this)
          clear HOi
          go_wp2
          generalize wr = wp at *
          go_loopw [3, 48] (fun v i wi => ∃ q : Nat, q ≤ X.instrs.length ∧ i = .int .i64 q ∧ Hid (Kp w.heap.size WX wi) ∧ Hid (wi.ownsRow w.heap.size 5 1 v (T ++ (lineS [98, 108, 111, 99, 107] [] ++ (X.phis.flatMap phiS ++ (X.instrs.take q).flatMap insS))).length (bytesV (T ++ (lineS [98, 108, 111, 99, 107] [] ++ (X.phis.flatMap phiS ++ (X.instrs.take q).flatMap insS)))))) (fun _ i _ => X.instrs.length - (intOf i).toNat)
          case atStart => exact ⟨0, Nat.zero_le _, rfl, HGi, hide (by simpa using HO5.out)⟩
          case round =>
            clear HGi HO5 c1 HSD hsb hsc
            obtain ⟨q, hq, rfl, HGi, HOi⟩ := hrel
            obtain ⟨hsa, hsb, hsc, hsd⟩ := HST.out _ HGi.out
            have HSD := hide hsd
            clear hsd
            by_cases hlq : q < X.instrs.length
            · clear hsa
              obtain ⟨b, o, rfl, ⟨hbL, hbB⟩, ⟨d0, d1, d2, d3, d4⟩⟩ := (HIX.out.keepS (Same.of_below (HGi.out.below.mono hB))) q hlq
              have HLj := hide (HLI.out q hlq)
              have HKj := hide (HKX.out.instrs X.instrs[q] (List.getElem_mem hlq))
              have HOJ := hide (hop.out X.instrs[q] (List.getElem_mem hlq))
              have HTj := hide (flat_next insS X.instrs q hlq)
              generalize X.instrs[q] = I at *
              have HX : Hid (T ++ (lineS [98, 108, 111, 99, 107] [] ++ (X.phis.flatMap phiS ++ (X.instrs.take (q + 1)).flatMap insS)) = (T ++ (lineS [98, 108, 111, 99, 107] [] ++ (X.phis.flatMap phiS ++ (X.instrs.take q).flatMap insS))) ++ insS I) := hide (by rw [HTj.out]; simp)
              generalize T ++ (lineS [98, 108, 111, 99, 107] [] ++ (X.phis.flatMap phiS ++ (X.instrs.take q).flatMap insS)) = TT at *
              obtain ⟨op, dst, ia1, ib1, imm⟩ := I
              obtain ⟨m, hm⟩ := Int.eq_ofNat_of_zero_le (show 0 ≤ op by have := HOJ.out; simp only at this; omega)
              subst hm
              simp only at d0 d1 d2 d3 d4
              have HWA : Hid (Kp w.heap.size w (wr.alloc (.cells #[.int .i64 m, .int .i64 dst, .int .i64 ia1, .int .i64 ib1, .int .i64 imm] 58))) := hide (HSD.out.alloc hsb _)
              go_wp2_with (go_at_call 43; refine (appendInstr_any w.heap.size u3 TT m dst ia1 ib1 imm (wr.alloc (.cells #[.int .i64 m, .int .i64 dst, .int .i64 ia1, .int .i64 ib1, .int .i64 imm] 58)) (by simp; omega) (by have := HOJ.out; simp only at this; omega) (by have := HOJ.out; simp only at this; omega) hB1 (hide (HOi.out.alloc _)) HLj HKj (hide (hP.out.on HWA.out.below)) (hide (hO.out.keep HWA.out.below (by omega)))).mono ?_; rintro e w4 ⟨x4, rfl, hg4, ho4⟩)
              have HG4 : Hid (Kp w.heap.size WX w4) := hide ((HGi.out.alloc hsb _).trans hg4)
              have HO4 : Hid (w4.ownsRow w.heap.size 5 1 x4 (T ++ (lineS [98, 108, 111, 99, 107] [] ++ (X.phis.flatMap phiS ++ (X.instrs.take (q + 1)).flatMap insS))).length (bytesV (T ++ (lineS [98, 108, 111, 99, 107] [] ++ (X.phis.flatMap phiS ++ (X.instrs.take (q + 1)).flatMap insS))))) := hide (by rw [HX.out]; exact ho4)
              clear hg4 ho4
              go_wp2
              exact ⟨⟨q + 1, by omega, by go_num, HG4, HO4⟩, by simp [intOf]; omega⟩
            · have c2 : wr.cell? ⟨wo.heap.size, 2, none⟩ = some (.int .i64 X.term.kind) := (cell_of hsa).trans HQ.out.2.2.1
              have c3 : wr.cell? ⟨wo.heap.size, 3, none⟩ = some (.int .i64 X.term.a) := (cell_of hsa).trans HQ.out.2.2.2.1
              have c4 : wr.cell? ⟨wo.heap.size, 4, none⟩ = some (.int .i64 X.term.to) := (cell_of hsa).trans HQ.out.2.2.2.2.1
              have c5 : wr.cell? ⟨wo.heap.size, 5, none⟩ = some (.int .i64 X.term.els) := (cell_of hsa).trans HQ.out.2.2.2.2.2
              clear hsa
              have HOt : Hid (wr.ownsRow w.heap.size 5 1 u3 (T ++ (lineS [98, 108, 111, 99, 107] [] ++ (X.phis.flatMap phiS ++ X.instrs.flatMap insS))).length (bytesV (T ++ (lineS [98, 108, 111, 99, 107] [] ++ (X.phis.flatMap phiS ++ X.instrs.flatMap insS))))) := hide (by have := HOi.out; rwa [List.take_of_length_le (by omega)] at this)
              have HX : Hid (lineS [102, 117, 110, 99] [V] ++ (xs.take (k + 1)).flatMap blkS = (T ++ (lineS [98, 108, 111, 99, 107] [] ++ (X.phis.flatMap phiS ++ X.instrs.flatMap insS))) ++ termS X.term) := hide (by rw [HT.out]; simp [blkS])
              generalize T ++ (lineS [98, 108, 111, 99, 107] [] ++ (X.phis.flatMap phiS ++ X.instrs.flatMap insS)) = TT at *
              have HKT := hide HKX.out.term
              generalize X.term = Z at *
              obtain ⟨kind, za, zto, zels⟩ := Z
              obtain ⟨m, hm⟩ := Int.eq_ofNat_of_zero_le (show 0 ≤ kind by have := hkd.out; simp only at this; omega)
              subst hm
              simp only at c2 c3 c4 c5
              go_wp2_with (go_at_call 44; refine (appendTerm_any w.heap.size u3 TT m za zto zels wr hsb (by have := hkd.out; simp only at this; omega) (by have := hkd.out; simp only at this; omega) hB1 HOt HLT HKT (hide (hP.out.on HSD.out.below)) (hide (hT.out.keep HSD.out.below (by omega)))).mono ?_; rintro e w5 ⟨x5, rfl, hg5, ho5⟩)
              have HG5 : Hid (Kp w.heap.size w w5) := hide (HSD.out.trans hg5)
              have HO6 : Hid (w5.ownsRow w.heap.size 5 1 x5 (lineS [102, 117, 110, 99] [V] ++ (xs.take (k + 1)).flatMap blkS).length (bytesV (lineS [102, 117, 110, 99] [V] ++ (xs.take (k + 1)).flatMap blkS))) := hide (by rw [HX.out]; exact ho5)
              clear hg5 ho5
              go_wp2
              exact ⟨⟨k + 1, by omega, by go_num, HG5, HO6⟩, by simp [intOf]; omega⟩
    · have HO5 : Hid (wr.ownsRow w.heap.size 5 1 u3 (rawS ⟨V, xs⟩).length (bytesV (rawS ⟨V, xs⟩))) := hide (by have := HO.out; rwa [List.take_of_length_le (by have := hx.out; omega)] at this)
      go_wp2
      go_ret
      exact ⟨_, rfl, HK.out.below, HO5.out⟩
end Go.Proofs.YteifkldaoddpdaaDoor

/-
  Worlds that differ in numbers alone (what the marking of a copy does). Imports nothing of the program.
-/
namespace Go.Proofs.YteifkldaoddpdaaDoor
open Go.RowKit Go.Deep

/-- In the blocks from L to below B some numbers have turned into other numbers; nothing else has. -/
structure IW (L B : Nat) (w w' : World) : Prop where
  os : w'.os = w.os
  tape : w'.tape = w.tape
  output : w'.output = w.output
  size : w'.heap.size = w.heap.size
  block : ∀ k, ¬ (L ≤ k ∧ k < B) → w'.heap[k]? = w.heap[k]?
  cell : ∀ p, w'.cell? p = w.cell? p ∨ ∃ u v, w.cell? p = some (.int .i64 u) ∧ w'.cell? p = some (.int .i64 v)
  frozen : ∀ p, w'.frozen? p = w.frozen? p

variable {w w' w1 : World} {L B : Nat}

theorem IW.refl (L B : Nat) (w : World) : IW L B w w := ⟨rfl, rfl, rfl, rfl, fun _ _ => rfl, fun _ => Or.inl rfl, fun _ => rfl⟩
theorem IW.trans {w2 : World} (h : IW L B w w1) (k : IW L B w1 w2) : IW L B w w2 := by
  refine ⟨k.os.trans h.os, k.tape.trans h.tape, k.output.trans h.output, k.size.trans h.size, fun i hi => (k.block i hi).trans (h.block i hi), fun p => ?_, fun p => (k.frozen p).trans (h.frozen p)⟩
  rcases k.cell p with e | ⟨u, v, e1, e2⟩
  · rcases h.cell p with f | ⟨u, v, f1, f2⟩
    · exact Or.inl (e.trans f)
    · exact Or.inr ⟨u, v, f1, e.trans f2⟩
  · rcases h.cell p with f | ⟨u', v', f1, f2⟩
    · exact Or.inr ⟨u, v, f.symm.trans e1, e2⟩
    · exact Or.inr ⟨u', v, f1, e2⟩
theorem IW.set (h : IW L B w w1) {b o : Nat} (hp : L ≤ b ∧ b < B) {u : Int} (hc : w1.cell? ⟨b, o, none⟩ = some (.int .i64 u)) (v : Int) : IW L B w (w1.setCell ⟨b, o, none⟩ (.int .i64 v)) := by
  refine h.trans ⟨rfl, rfl, rfl, by simp [World.setCell], fun k hk => Below.heap_setCell _ _ _ _ (by dsimp only; omega), fun p => ?_, fun p => World.frozen?_setCell _ _ _ _⟩
  by_cases e : p = ⟨b, o, none⟩
  · subst e
    exact Or.inr ⟨u, v, hc, World.cell?_setCell_same _ _ _ hc⟩
  · exact Or.inl (World.cell?_setCell_other _ _ _ _ (fun h => e h.symm))
theorem IW.int (h : IW L B w w') {p : Addr} {u : Int} (hc : w.cell? p = some (.int .i64 u)) : ∃ v, w'.cell? p = some (.int .i64 v) := by
  rcases h.cell p with e | ⟨_, v, _, e⟩
  · exact ⟨u, e.trans hc⟩
  · exact ⟨v, e⟩
theorem IW.slice (h : IW L B w w') {p : Addr} {a : Option Addr} {n c : Nat} (hc : w.cell? p = some (.slice a n c)) : w'.cell? p = some (.slice a n c) := by
  rcases h.cell p with e | ⟨u, _, e, _⟩
  · exact e.trans hc
  · rw [hc] at e; cases e
/-- In the blocks from L to below B nothing is frozen. -/
def ThawB (L B : Nat) (w : World) : Prop := ∀ b o, L ≤ b ∧ b < B → w.frozen? ⟨b, o, none⟩ = false
theorem ThawB.of {L B : Nat} {w : World} (h : Thaw L w) : ThawB L B w := fun b o hb => h b o hb.1
theorem ThawB.keepS {L B : Nat} {w w' : World} (h : ThawB L B w) (k : Same L B w w') : ThawB L B w' := fun b o hb => (World.frozen?_of_block (k b hb.1 hb.2)).trans (h b o hb)
theorem ThawB.setCell {L B : Nat} {w : World} (h : ThawB L B w) (p : Addr) (v : Value) : ThawB L B (w.setCell p v) := fun b o hb => by rw [World.frozen?_setCell]; exact h b o hb
theorem IW.thawB (h : IW L B w w') {M N : Nat} (t : ThawB M N w) : ThawB M N w' := fun b o hb => (h.frozen _).trans (t b o hb)
theorem IW.thaw (h : IW L B w w') {M : Nat} (t : Thaw M w) : Thaw M w' := fun b o hb => (h.frozen _).trans (t b o hb)

variable {L' B' : Nat} {a : Option Addr}
theorem IntsAt.iw {xs : List Int} (h : IntsAt w L B a xs) (k : IW L' B' w w') : ∃ ys : List Int, ys.length = xs.length ∧ IntsAt w' L B a ys := by
  obtain ⟨f, hf⟩ := choose_lt (α := Int) (n := xs.length) (p := fun i y => ∃ b o, a = some ⟨b, o, none⟩ ∧ (L ≤ b ∧ b < B) ∧ w'.cell? ⟨b, o + i, none⟩ = some (.int .i64 y)) (fun i hi => by
    obtain ⟨b, o, e, hb, hc⟩ := h i hi
    obtain ⟨v, hv⟩ := k.int hc
    exact ⟨v, b, o, e, hb, hv⟩)
  refine ⟨(List.range xs.length).map f, by simp, fun i hi => ?_⟩
  simp only [List.length_map, List.length_range] at hi
  obtain ⟨b, o, e, hb, hc⟩ := hf i hi
  exact ⟨b, o, e, hb, by simpa using hc⟩
theorem InsAt.iw {b o : Nat} {x : Ins} (h : InsAt w b o x) (k : IW L' B' w w') : ∃ y : Ins, InsAt w' b o y := by
  obtain ⟨h0, h1, h2, h3, h4⟩ := h
  obtain ⟨v0, e0⟩ := k.int h0
  obtain ⟨v1, e1⟩ := k.int h1
  obtain ⟨v2, e2⟩ := k.int h2
  obtain ⟨v3, e3⟩ := k.int h3
  obtain ⟨v4, e4⟩ := k.int h4
  exact ⟨⟨v0, v1, v2, v3, v4⟩, e0, e1, e2, e3, e4⟩
theorem TerAt.iw {b o : Nat} {x : Ter} (h : TerAt w b o x) (k : IW L' B' w w') : ∃ y : Ter, TerAt w' b o y := by
  obtain ⟨h0, h1, h2, h3⟩ := h
  obtain ⟨v0, e0⟩ := k.int h0
  obtain ⟨v1, e1⟩ := k.int h1
  obtain ⟨v2, e2⟩ := k.int h2
  obtain ⟨v3, e3⟩ := k.int h3
  exact ⟨⟨v0, v1, v2, v3⟩, e0, e1, e2, e3⟩
theorem InssAt.iw {xs : List Ins} (h : InssAt w L B a xs) (k : IW L' B' w w') : ∃ ys : List Ins, ys.length = xs.length ∧ InssAt w' L B a ys := by
  haveI : Inhabited Ins := ⟨⟨0, 0, 0, 0, 0⟩⟩
  obtain ⟨f, hf⟩ := choose_lt (α := Ins) (n := xs.length) (p := fun i y => ∃ b o, a = some ⟨b, o, none⟩ ∧ (L ≤ b ∧ b < B) ∧ InsAt w' b (o + i * 5) y) (fun i hi => by
    obtain ⟨b, o, e, hb, hc⟩ := h i hi
    obtain ⟨v, hv⟩ := hc.iw k
    exact ⟨v, b, o, e, hb, hv⟩)
  refine ⟨(List.range xs.length).map f, by simp, fun i hi => ?_⟩
  simp only [List.length_map, List.length_range] at hi
  obtain ⟨b, o, e, hb, hc⟩ := hf i hi
  exact ⟨b, o, e, hb, by simpa using hc⟩
theorem PhAt.iw {b o : Nat} {x : Ph} (h : PhAt w L B b o x) (k : IW L' B' w w') : ∃ y : Ph, y.args.length = x.args.length ∧ PhAt w' L B b o y := by
  obtain ⟨a, c, h0, h1, h2⟩ := h
  obtain ⟨v0, e0⟩ := k.int h0
  obtain ⟨ys, hl, h3⟩ := h2.iw k
  exact ⟨⟨v0, ys⟩, hl, a, c, e0, by rw [hl]; exact k.slice h1, h3⟩
theorem PhsAt.iw {xs : List Ph} (h : PhsAt w L B a xs) (k : IW L' B' w w') : ∃ ys : List Ph, ys.map (fun p => p.args.length) = xs.map (fun p => p.args.length) ∧ PhsAt w' L B a ys := by
  haveI : Inhabited Ph := ⟨⟨0, []⟩⟩
  obtain ⟨f, hf⟩ := choose_lt (α := Ph) (n := xs.length) (p := fun i y => (∀ hi : i < xs.length, y.args.length = xs[i].args.length) ∧ ∃ b o, a = some ⟨b, o, none⟩ ∧ (L ≤ b ∧ b < B) ∧ PhAt w' L B b (o + i * 2) y) (fun i hi => by
    obtain ⟨b, o, e, hb, hc⟩ := h i hi
    obtain ⟨v, hl, hv⟩ := hc.iw k
    exact ⟨v, fun _ => hl, b, o, e, hb, hv⟩)
  refine ⟨(List.range xs.length).map f, ?_, fun i hi => ?_⟩
  · refine List.ext_getElem (by simp) (fun i h1 h2 => ?_)
    simp only [List.length_map, List.length_range] at h1
    simp only [List.getElem_map, List.getElem_range]
    exact (hf i h1).1 h1
  · simp only [List.length_map, List.length_range] at hi
    obtain ⟨_, b, o, e, hb, hc⟩ := hf i hi
    exact ⟨b, o, e, hb, by simpa using hc⟩
/-- The lengths of a block's lists. -/
def Blk.sh (x : Blk) : List Nat × Nat := (x.phis.map (fun p => p.args.length), x.instrs.length)
theorem BlkAt.iw {b o : Nat} {x : Blk} (h : BlkAt w L B b o x) (k : IW L' B' w w') : ∃ y : Blk, y.sh = x.sh ∧ BlkAt w' L B b o y := by
  obtain ⟨pa, pc, ia, ic, h0, h1, h2, h3, h4⟩ := h
  obtain ⟨t, ht⟩ := h2.iw k
  obtain ⟨ps, hp1, hp2⟩ := h3.iw k
  obtain ⟨is, hi1, hi2⟩ := h4.iw k
  have hpl : ps.length = x.phis.length := by have := congrArg List.length hp1; simpa using this
  exact ⟨⟨ps, is, t⟩, by simp only [Blk.sh, hp1, hi1], pa, pc, ia, ic, by rw [hpl]; exact k.slice h0, by rw [hi1]; exact k.slice h1, ht, hp2, hi2⟩
theorem BlksAt.iw {xs : List Blk} (h : BlksAt w L B a xs) (k : IW L' B' w w') : ∃ ys : List Blk, ys.map Blk.sh = xs.map Blk.sh ∧ BlksAt w' L B a ys := by
  haveI : Inhabited Blk := ⟨⟨[], [], ⟨0, 0, 0, 0⟩⟩⟩
  obtain ⟨f, hf⟩ := choose_lt (α := Blk) (n := xs.length) (p := fun i y => (∀ hi : i < xs.length, y.sh = xs[i].sh) ∧ ∃ b o, a = some ⟨b, o, none⟩ ∧ (L ≤ b ∧ b < B) ∧ BlkAt w' L B b (o + i * 6) y) (fun i hi => by
    obtain ⟨b, o, e, hb, hc⟩ := h i hi
    obtain ⟨v, hl, hv⟩ := hc.iw k
    exact ⟨v, fun _ => hl, b, o, e, hb, hv⟩)
  refine ⟨(List.range xs.length).map f, ?_, fun i hi => ?_⟩
  · refine List.ext_getElem (by simp) (fun i h1 h2 => ?_)
    simp only [List.length_map, List.length_range] at h1
    simp only [List.getElem_map, List.getElem_range]
    exact (hf i h1).1 h1
  · simp only [List.length_map, List.length_range] at hi
    obtain ⟨_, b, o, e, hb, hc⟩ := hf i hi
    exact ⟨b, o, e, hb, by simpa using hc⟩
end Go.Proofs.YteifkldaoddpdaaDoor
