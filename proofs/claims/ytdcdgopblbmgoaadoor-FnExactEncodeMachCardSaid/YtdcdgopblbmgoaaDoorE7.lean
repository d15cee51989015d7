import Derived.Test.YtdcdgopblbmgoaaDoorE7a
import Derived.Deep.RegionHeld3
import Derived.Test.YtdcdgopblbmgoaaDoorM0
/-
  l1Raw of the model.
-/
namespace Go.Proofs.YtdcdgopblbmgoaaDoor
open Go.RowKit

theorem flat_split {α : Type} (f : α → List UInt8) (l : List α) (j : Nat) (h : j < l.length) : l.flatMap f = (l.take j).flatMap f ++ (f l[j] ++ (l.drop (j + 1)).flatMap f) := by
  rw [← List.flatMap_cons, ← List.flatMap_append, ← List.drop_eq_getElem_cons h, List.take_append_drop]
theorem flat_len {α : Type} (f : α → List UInt8) (hf : ∀ x, 1 ≤ (f x).length) (l : List α) : l.length ≤ (l.flatMap f).length := by
  induction l with
  | nil => exact Nat.zero_le _
  | cons x r ih => have := hf x; simp only [List.flatMap_cons, List.length_append, List.length_cons]; omega
theorem lineS_pos (w : List UInt8) (vs : List Int) : 1 ≤ (lineS w vs).length := by simp only [lineS, List.length_append, List.length_singleton]; omega
theorem flat_next {α : Type} (f : α → List UInt8) (l : List α) (j : Nat) (h : j < l.length) : (l.take (j + 1)).flatMap f = (l.take j).flatMap f ++ f l[j] := by
  rw [take_next _ _ h, List.flatMap_append]; simp

set_option maxHeartbeats 1000000 in
set_option maxRecDepth 100000 in
theorem raw_any (V : Int) (a : Option Addr) (n c : Nat) (xs : List Blk) (L B : Nat) (w : World) (hB : B ≤ w.heap.size)
    (ha : Hid (BlksAt w L B a xs)) (hx : Hid (n = xs.length)) (hn : n ≤ 1048576) (hlen : Hid ((rawS ⟨V, xs⟩).length ≤ 1000000000000)) (hV : Hid (InB V)) (hin : Hid (∀ x ∈ xs, BlkIn x)) (hops : Hid (∀ x ∈ xs, (∀ i ∈ x.instrs, 1 ≤ i.op ∧ i.op ≤ 13) ∧ (x.term.kind = 1 ∨ x.term.kind = 2 ∨ x.term.kind = 3))) :
    Calls Tryd.prog 62 #[.agg #[.int .i64 V, .slice a n c]] w fun e w' => ∃ v, e = .returned v ∧ Below w.heap.size w w' ∧ v ≠ .slice none 0 0 ∧ w'.ownsRow w.heap.size 5 1 v (rawS ⟨V, xs⟩).length (bytesV (rawS ⟨V, xs⟩)) := by
  obtain ⟨i0, hi0, hz0, hz1, hz2⟩ := info_parts Tryd.info2'
  go_enter Tryd.func62, Tryd.ntmps62
  have HL1 : Hid (([] : List UInt8).length + (lineS [102, 117, 110, 99] [V]).length ≤ 1000000000000) := hide (by have := hlen.out; unfold rawS at this; simp only [List.length_append, List.length_nil] at this ⊢; omega)
  go_wp2_with (go_at_call 93; refine (lit0_any (w.heap.size + 1) _ [] [102, 117, 110, 99] [V] _ ((w.alloc (.cells #[.int .i64 V, .slice a n c] 29)).alloc (.cells #[] 5)) (by simp) (by simp) (hide (own_emptyB w _)) (hide (by simp)) HL1 (fun v h => by simp at h; exact h ▸ hV.out)).mono ?_; rintro e w1 ⟨x1, rfl, hg1, hn1, ho1⟩)
  have HB1 : Hid (Below (w.heap.size + 1) (w.alloc (.cells #[.int .i64 V, .slice a n c] 29)) w1) := hide (hg1.below (own_emptyB w _) ((Below.refl _ _).alloc (by simp) _) (by simp))
  have HN1 := hide hn1
  have HO1 := hide ho1
  clear hg1 hn1 ho1
  go_wp2
  go_loopw [3, 4] (fun x i wr => ∃ k : Nat, k ≤ n ∧ i = .int .i64 k ∧ Hid (Below (w.heap.size + 1) (w.alloc (.cells #[.int .i64 V, .slice a n c] 29)) wr) ∧ Hid (x ≠ .slice none 0 0) ∧ Hid (wr.ownsRow (w.heap.size + 1) 5 1 x (lineS [102, 117, 110, 99] [V] ++ (xs.take k).flatMap blkS).length (bytesV (lineS [102, 117, 110, 99] [V] ++ (xs.take k).flatMap blkS)))) (fun _ i _ => n - (intOf i).toNat)
  case atStart => exact ⟨0, Nat.zero_le _, rfl, HB1, HN1, hide (by simpa using HO1.out)⟩
  case round =>
    clear HB1 HN1 HO1
    obtain ⟨k, hk, rfl, HB, HN, HO⟩ := hrel
    have hwz := HB.out.size
    have hwz : w.heap.size + 1 ≤ wr.heap.size := by simpa using hwz
    have hwz0 := hwz
    have HW : Hid (Below w.heap.size w wr) := hide ((balloc (Below.refl w.heap.size w) _).trans (HB.out.mono (Nat.le_succ _)))
    have cf : wr.cell? ⟨w.heap.size, 1, none⟩ = some (.slice a n c) := (HB.out.cell (p := ⟨w.heap.size, 1, none⟩) (Nat.lt_succ_self _)).trans (by simp)
    by_cases hlt : k < n
    · have hkx : k < xs.length := by have := hx.out; omega
      have HK := hide (hin.out xs[k] (List.getElem_mem hkx))
      have hop := hide (hops.out xs[k] (List.getElem_mem hkx)).1
      have hkd := hide (hops.out xs[k] (List.getElem_mem hkx)).2
      obtain ⟨b, o, rfl, ⟨hbL, hbB⟩, hc⟩ := ha.out k hkx
      obtain ⟨pa, pc, ia, ic, e0, e1, ⟨t0, t1, t2, t3⟩, hp, hi⟩ := hc.keepS (Same.of_below (HW.out.mono hB)) (HW.out.block b (by omega))
      have HP := hide hp
      have HI := hide hi
      clear hp hi hc
      have HT : Hid (lineS [102, 117, 110, 99] [V] ++ (xs.take (k + 1)).flatMap blkS = (lineS [102, 117, 110, 99] [V] ++ (xs.take k).flatMap blkS) ++ blkS xs[k]) := hide (by rw [take_next _ _ hkx, List.flatMap_append]; simp)
      have HL : Hid ((lineS [102, 117, 110, 99] [V] ++ (xs.take k).flatMap blkS).length + (blkS xs[k]).length ≤ 1000000000000) := hide (by have h1 := hlen.out; have h2 := flat_split blkS xs k hkx; unfold rawS at h1; simp only at h1; rw [h2] at h1; simp only [List.length_append] at h1 ⊢; omega)
      generalize xs[k] = X at *
      generalize lineS [102, 117, 110, 99] [V] ++ (xs.take k).flatMap blkS = T at *
      have HBW : Hid (Below wr.heap.size wr (wr.alloc (.cells #[.slice pa X.phis.length pc, .slice ia X.instrs.length ic, .int .i64 X.term.kind, .int .i64 X.term.a, .int .i64 X.term.to, .int .i64 X.term.els] 80))) := hide (balloc (Below.refl _ _) _)
      have HOX : Hid ((wr.alloc (.cells #[.slice pa X.phis.length pc, .slice ia X.instrs.length ic, .int .i64 X.term.kind, .int .i64 X.term.a, .int .i64 X.term.to, .int .i64 X.term.els] 80)).ownsRow (w.heap.size + 1) 5 1 u3 T.length (bytesV T)) := hide (HO.out.alloc _)
      have HU : Hid (∀ g, u3.ownBlock = some g → g < wr.heap.size) := hide (fun g hg => (HO.out.lt g hg).2)
      have HL1 : Hid (T.length + (lineS [98, 108, 111, 99, 107] []).length ≤ 1000000000000) := hide (by have := HL.out; unfold blkS at this; simp only [List.length_append] at this; omega)
      go_wp2_with (go_at_call 93; refine (lit0_any (w.heap.size + 1) u3 T [98, 108, 111, 99, 107] [] _ (wr.alloc (.cells #[.slice pa X.phis.length pc, .slice ia X.instrs.length ic, .int .i64 X.term.kind, .int .i64 X.term.a, .int .i64 X.term.to, .int .i64 X.term.els] 80)) (by simp) (by simp; omega) HOX HN HL1 (fun v h => by simp at h)).mono ?_; rintro e w2 ⟨x2, rfl, hg2, hn2, ho2⟩)
      have HG2 := hide hg2
      have HN2 := hide hn2
      have HO2 := hide ho2
      clear hg2 hn2 ho2
      have q0 : (wr.alloc (.cells #[.slice pa X.phis.length pc, .slice ia X.instrs.length ic, .int .i64 X.term.kind, .int .i64 X.term.a, .int .i64 X.term.to, .int .i64 X.term.els] 80)).cell? ⟨wr.heap.size, 0, none⟩ = some (.slice pa X.phis.length pc) := by simp
      have q1 : (wr.alloc (.cells #[.slice pa X.phis.length pc, .slice ia X.instrs.length ic, .int .i64 X.term.kind, .int .i64 X.term.a, .int .i64 X.term.to, .int .i64 X.term.els] 80)).cell? ⟨wr.heap.size, 1, none⟩ = some (.slice ia X.instrs.length ic) := by simp
      have q2 : (wr.alloc (.cells #[.slice pa X.phis.length pc, .slice ia X.instrs.length ic, .int .i64 X.term.kind, .int .i64 X.term.a, .int .i64 X.term.to, .int .i64 X.term.els] 80)).cell? ⟨wr.heap.size, 2, none⟩ = some (.int .i64 X.term.kind) := by simp
      have q3 : (wr.alloc (.cells #[.slice pa X.phis.length pc, .slice ia X.instrs.length ic, .int .i64 X.term.kind, .int .i64 X.term.a, .int .i64 X.term.to, .int .i64 X.term.els] 80)).cell? ⟨wr.heap.size, 3, none⟩ = some (.int .i64 X.term.a) := by simp
      have q4 : (wr.alloc (.cells #[.slice pa X.phis.length pc, .slice ia X.instrs.length ic, .int .i64 X.term.kind, .int .i64 X.term.a, .int .i64 X.term.to, .int .i64 X.term.els] 80)).cell? ⟨wr.heap.size, 4, none⟩ = some (.int .i64 X.term.to) := by simp
      have q5 : (wr.alloc (.cells #[.slice pa X.phis.length pc, .slice ia X.instrs.length ic, .int .i64 X.term.kind, .int .i64 X.term.a, .int .i64 X.term.to, .int .i64 X.term.els] 80)).cell? ⟨wr.heap.size, 5, none⟩ = some (.int .i64 X.term.els) := by simp
      have hsX : (wr.alloc (.cells #[.slice pa X.phis.length pc, .slice ia X.instrs.length ic, .int .i64 X.term.kind, .int .i64 X.term.a, .int .i64 X.term.to, .int .i64 X.term.els] 80)).heap.size = wr.heap.size + 1 := by simp
      generalize wr.alloc (.cells #[.slice pa X.phis.length pc, .slice ia X.instrs.length ic, .int .i64 X.term.kind, .int .i64 X.term.a, .int .i64 X.term.to, .int .i64 X.term.els] 80) = WX at *
      have Q0 := hide q0
      have Q1 := hide q1
      have Q2 := hide q2
      have Q3 := hide q3
      have Q4 := hide q4
      have Q5 := hide q5
      have HSX := hide hsX
      clear q0 q1 q2 q3 q4 q5 hsX e0 e1 t0 t1 t2 t3 cf
      generalize wr = wo at *
      have HST : Hid (∀ wi v, Gr WX wi u3 v → wi.heap[wo.heap.size]? = WX.heap[wo.heap.size]? ∧ Same L B wo wi ∧ w.heap.size + 1 ≤ wi.heap.size) := hide (fun wi v hg => by
        have h1 := HSX.out
        have h2 := hg.grown.size
        refine ⟨hg.grown.block _ (by omega) (fun e => by have := HU.out _ e.symm; omega), ?_, by omega⟩
        exact (Same.of_below (HBW.out.mono (by omega))).trans (hg.same (fun g hg' => Or.inr (by have := (HO.out.lt g hg').1; omega)) (by omega)))
      have HLP : Hid (∀ j, j < X.phis.length → ∀ (h : j < X.phis.length), (T ++ (lineS [98, 108, 111, 99, 107] [] ++ (X.phis.take j).flatMap phiS)).length + (phiS X.phis[j]).length ≤ 1000000000000) := hide (fun j _ h => by
        have h1 := HL.out
        have h2 : (X.phis.flatMap phiS) = (X.phis.take j).flatMap phiS ++ (phiS X.phis[j] ++ (X.phis.drop (j + 1)).flatMap phiS) := by
          exact flat_split phiS X.phis j h
        unfold blkS at h1
        rw [h2] at h1
        simp only [List.length_append] at h1 ⊢; omega)
      have HLI : Hid (∀ j, ∀ (h : j < X.instrs.length), (T ++ (lineS [98, 108, 111, 99, 107] [] ++ (X.phis.flatMap phiS ++ (X.instrs.take j).flatMap insS))).length + (insS X.instrs[j]).length ≤ 1000000000000) := hide (fun j h => by
        have h1 := HL.out
        have h2 : (X.instrs.flatMap insS) = (X.instrs.take j).flatMap insS ++ (insS X.instrs[j] ++ (X.instrs.drop (j + 1)).flatMap insS) := by
          exact flat_split insS X.instrs j h
        unfold blkS at h1
        rw [h2] at h1
        simp only [List.length_append] at h1 ⊢; omega)
      have HLT : Hid ((T ++ (lineS [98, 108, 111, 99, 107] [] ++ (X.phis.flatMap phiS ++ X.instrs.flatMap insS))).length + (termS X.term).length ≤ 1000000000000) := hide (by
        have h1 := HL.out
        unfold blkS at h1
        simp only [List.length_append] at h1 ⊢; omega)
      have hpl : X.phis.length ≤ 1000000000000 := by
        have h1 := HL.out; have h2 := flat_len phiS (fun x => lineS_pos _ _) X.phis; unfold blkS at h1; simp only [List.length_append] at h1; omega
      have hil : X.instrs.length ≤ 1000000000000 := by
        have h1 := HL.out; have h2 := flat_len insS (fun x => lineS_pos _ _) X.instrs; unfold blkS at h1; simp only [List.length_append] at h1; omega
      generalize u3 = u3o at *
      go_wp2
      go_loopw [3, 6] (fun v i wi => ∃ j : Nat, j ≤ X.phis.length ∧ i = .int .i64 j ∧ Hid (Gr WX wi u3o v) ∧ Hid (v ≠ .slice none 0 0) ∧ Hid (wi.ownsRow (w.heap.size + 1) 5 1 v (T ++ (lineS [98, 108, 111, 99, 107] [] ++ (X.phis.take j).flatMap phiS)).length (bytesV (T ++ (lineS [98, 108, 111, 99, 107] [] ++ (X.phis.take j).flatMap phiS))))) (fun _ i _ => X.phis.length - (intOf i).toNat)
      case atStart => exact ⟨0, Nat.zero_le _, rfl, HG2, HN2, hide (by simpa using HO2.out)⟩
      case round =>
        clear HG2 HN2 HO2
        obtain ⟨j, hj, rfl, HGi, HNi, HOi⟩ := hrel
        obtain ⟨hsa, hsb, hsc⟩ := HST.out _ _ HGi.out
        have c0 : wr.cell? ⟨wo.heap.size, 0, none⟩ = some (.slice pa X.phis.length pc) := (cell_of hsa).trans Q0.out
        have c1 : wr.cell? ⟨wo.heap.size, 1, none⟩ = some (.slice ia X.instrs.length ic) := (cell_of hsa).trans Q1.out
        have HSB := hide hsb
        have hwo : wo.heap.size < wr.heap.size := by have h1 := HGi.out.grown.size; have h2 := HSX.out; omega
        clear hsa hsb
        by_cases hlj : j < X.phis.length
        · obtain ⟨b, o, rfl, ⟨hbL, hbB⟩, hpp⟩ := (HP.out.keepS HSB.out) j hlj
          obtain ⟨aa, ac, d0, d1, hA⟩ := hpp
          have HA := hide hA
          have HLj := hide (HLP.out j hlj hlj)
          have HKj := hide (HK.out.phis X.phis[j] (List.getElem_mem hlj))
          have HTj := hide (flat_next phiS X.phis j hlj)
          have HLW : Hid (1 + X.phis[j].args.length ≤ 1000000000000) := hide <| by
            have h1 := HLj.out; have h2 := numsS_len (X.phis[j].dst :: X.phis[j].args); unfold phiS lineS at h1; simp only [List.length_append, List.length_cons] at h1 h2; omega
          clear hA
          generalize X.phis[j] = P at *
          have HA1 : Hid (IntsAt (wr.alloc (.cells #[.int .i64 P.dst] 2)) L B aa P.args) := hide (HA.out.keep ((balloc (Below.refl wr.heap.size wr) _).mono (show B ≤ wr.heap.size by omega)))
          have HK3 : ∀ w3 v1, Gr ((wr.alloc (.cells #[.int .i64 P.dst] 2)).drew) w3 (.slice (some ⟨wr.heap.size, 0, none⟩) 1 1) v1 → Below wr.heap.size wr w3 ∧ wr.heap.size + 1 ≤ w3.heap.size := fun w3 v1 hg3 => by
            have h1 := hg3.below (B := wr.heap.size) (W := wr) (show (wr.alloc (.cells #[.int .i64 P.dst] 2)).drew.ownsRow wr.heap.size 2 1 (.slice (some ⟨wr.heap.size, 0, none⟩) 1 1) 1 [.int .i64 P.dst] from World.ownsRow_lit (base := wr.heap.size) (e := 2) (size := 1) wr #[.int .i64 P.dst] 1 (Nat.le_refl _) (by decide) rfl) ((balloc (Below.refl wr.heap.size wr) _).drew) (by show wr.heap.size ≤ (wr.alloc (.cells #[.int .i64 P.dst] 2)).heap.size; simp)
            exact ⟨h1, by have h2 : (wr.alloc (.cells #[.int .i64 P.dst] 2)).heap.size ≤ w3.heap.size := hg3.grown.size; simpa using h2⟩
          have HC3 : ∀ w3, Below wr.heap.size wr w3 → w3.cell? ⟨wo.heap.size, 0, none⟩ = some (.slice (some ⟨b, o, none⟩) X.phis.length pc) ∧ w3.cell? ⟨b, o + j * 2, none⟩ = some (.int .i64 P.dst) ∧ w3.cell? ⟨b, o + j * 2 + 1, none⟩ = some (.slice aa P.args.length ac) := fun w3 h => by
            exact ⟨(h.cell (p := ⟨wo.heap.size, 0, none⟩) hwo).trans c0, (h.cell (p := ⟨b, o + j * 2, none⟩) (by show b < _; omega)).trans d0, (h.cell (p := ⟨b, o + j * 2 + 1, none⟩) (by show b < _; omega)).trans d1⟩
          have HC4 : ∀ w3 x4, Gr WX w3 u3o x4 → w3.cell? ⟨wo.heap.size, 0, none⟩ = some (.slice (some ⟨b, o, none⟩) X.phis.length pc) ∧ w3.cell? ⟨b, o + j * 2, none⟩ = some (.int .i64 P.dst) ∧ w3.cell? ⟨b, o + j * 2 + 1, none⟩ = some (.slice aa P.args.length ac) := fun w3 x4 h => by
            obtain ⟨s1, s2, s3⟩ := HST.out _ _ h
            have hb' := cell_of (o := o + j * 2) ((s2 b hbL hbB).trans (HSB.out b hbL hbB).symm)
            have hb'' := cell_of (o := o + j * 2 + 1) ((s2 b hbL hbB).trans (HSB.out b hbL hbB).symm)
            exact ⟨(cell_of s1).trans Q0.out, hb'.trans d0, hb''.trans d1⟩
          have HSZ : Hid (wr.heap.size ≤ (wr.alloc (.cells #[.int .i64 P.dst] 2)).drew.heap.size) := hide (by show wr.heap.size ≤ (wr.alloc (.cells #[.int .i64 P.dst] 2)).heap.size; simp)
          have HOWN : Hid ((wr.alloc (.cells #[.int .i64 P.dst] 2)).drew.ownsRow wr.heap.size 2 1 (.slice (some ⟨wr.heap.size, 0, none⟩) 1 1) [P.dst].length ([P.dst].map (Value.int .i64))) := hide (World.ownsRow_lit (base := wr.heap.size) (e := 2) (size := 1) wr #[.int .i64 P.dst] 1 (Nat.le_refl _) (by decide) rfl)
          have HNN : Hid (Value.slice (some ⟨wr.heap.size, 0, none⟩) 1 1 ≠ .slice none 0 0) := hide (by simp)
          have HC3 := hide HC3
          have HC4 := hide HC4
          have HK3 := hide HK3
          have HPL : ∀ v1 w3, w3.ownsRow wr.heap.size 2 1 v1 ([P.dst] ++ P.args).length (([P.dst] ++ P.args).map (Value.int .i64)) → Below wr.heap.size wr w3 →
            Calls Tryd.prog 93 #[u3, .string (strOf [112, 104, 105]), v1] w3 fun e w' => ∃ v, e = .returned v ∧ Gr WX w' u3o v ∧ v ≠ .slice none 0 0 ∧ w'.ownsRow (w.heap.size + 1) 5 1 v (T ++ (lineS [98, 108, 111, 99, 107] [] ++ (X.phis.take (j + 1)).flatMap phiS)).length (bytesV (T ++ (lineS [98, 108, 111, 99, 107] [] ++ (X.phis.take (j + 1)).flatMap phiS))) := by
            intro v1 w3 ho3 hb3
            obtain ⟨a5, c5, rfl, hI⟩ := ints_owned ho3
            rw [HTj.out, ← List.append_assoc (lineS [98, 108, 111, 99, 107] []), ← List.append_assoc T]
            refine (putLine_any (w.heap.size + 1) u3 _ [112, 104, 105] a5 _ c5 (P.dst :: P.args) wr.heap.size w3.heap.size w3 (by have := hb3.size; omega) (hide (own_calm HOi.out hb3)) HNi HLj (hide hI) (Nat.le_refl _) (hide (fun g hg => Or.inl (HOi.out.lt g hg).2)) (hide rfl) HKj).mono ?_
            rintro e w' ⟨v, rfl, h1, h2, h3⟩
            exact ⟨v, rfl, HGi.out.trans ((Gr.calm hb3 _).trans h1), h2, h3⟩
          have HPL := hide HPL
          go_wp2_with fail
          go_region_held3 (fun w' => w'.cell? ⟨wo.heap.size, 0, none⟩ = some (.slice (some ⟨b, o, none⟩) X.phis.length pc) ∧ w'.cell? ⟨b, o + j * 2, none⟩ = some (.int .i64 P.dst) ∧ w'.cell? ⟨b, o + j * 2 + 1, none⟩ = some (.slice aa P.args.length ac)) (go_keep) (first | (refine step_append_ints rfl _ _ 38 rfl wr.heap.size 2 i0 Tryd.underlying38 hi0 hz0 hz1 hz2 (.slice (some ⟨wr.heap.size, 0, none⟩) 1 1) [P.dst] rfl HOWN.out HNN.out aa P.args.length ac P.args L B rfl rfl HA1.out HLW.out HSZ.out ?_; intro v1 w3 ho3 hg3 hn3; have HB3 := hide (HK3.out _ _ hg3).1; obtain ⟨f0, f1, f2⟩ := HC3.out _ HB3.out; have HO3 := hide ho3; clear ho3 hg3 hn3) | (go_at_call 93; refine (HPL.out _ _ HO3.out HB3.out).mono ?_; rintro e w4 ⟨x4, rfl, hg4, hn4, ho4⟩; obtain ⟨f4, f5, f6⟩ := HC4.out _ _ hg4; have HG4 := hide hg4; have HN4 := hide hn4; have HO4 := hide ho4; clear hg4 hn4 ho4))
          go_wp2
          exact ⟨⟨j + 1, by omega, by go_num, HG4, HN4, HO4⟩, by simp [intOf]; omega⟩
        · have HO5 : Hid (wr.ownsRow (w.heap.size + 1) 5 1 u3 (T ++ (lineS [98, 108, 111, 99, 107] [] ++ X.phis.flatMap phiS)).length (bytesV (T ++ (lineS [98, 108, 111, 99, 107] [] ++ X.phis.flatMap phiS)))) := hide (by have := HOi.out; rwa [List.take_of_length_le (by omega)] at this)
          clear HOi
          go_wp2
          generalize wr = wp at *
          go_loopw [3, 7] (fun v i wi => ∃ q : Nat, q ≤ X.instrs.length ∧ i = .int .i64 q ∧ Hid (Gr WX wi u3o v) ∧ Hid (v ≠ .slice none 0 0) ∧ Hid (wi.ownsRow (w.heap.size + 1) 5 1 v (T ++ (lineS [98, 108, 111, 99, 107] [] ++ (X.phis.flatMap phiS ++ (X.instrs.take q).flatMap insS))).length (bytesV (T ++ (lineS [98, 108, 111, 99, 107] [] ++ (X.phis.flatMap phiS ++ (X.instrs.take q).flatMap insS)))))) (fun _ i _ => X.instrs.length - (intOf i).toNat)
          case atStart => exact ⟨0, Nat.zero_le _, rfl, HGi, HNi, hide (by simpa using HO5.out)⟩
          case round =>
            clear HGi HNi HO5 c0 c1 HSB hsc hwo
            obtain ⟨q, hq, rfl, HGi, HNi, HOi⟩ := hrel
            obtain ⟨hsa, hsb, hsc⟩ := HST.out _ _ HGi.out
            have c1 : wr.cell? ⟨wo.heap.size, 1, none⟩ = some (.slice ia X.instrs.length ic) := (cell_of hsa).trans Q1.out
            have HSB := hide hsb
            have hwo : wo.heap.size < wr.heap.size := by have h1 := HGi.out.grown.size; have h2 := HSX.out; omega
            by_cases hlq : q < X.instrs.length
            · clear hsa hsb
              obtain ⟨b, o, rfl, ⟨hbL, hbB⟩, ⟨d0, d1, d2, d3, d4⟩⟩ := (HI.out.keepS HSB.out) q hlq
              have HLj := hide (HLI.out q hlq)
              have HKj := hide (HK.out.instrs X.instrs[q] (List.getElem_mem hlq))
              have HOJ := hide (hop.out X.instrs[q] (List.getElem_mem hlq))
              have HTj := hide (flat_next insS X.instrs q hlq)
              generalize X.instrs[q] = I at *
              have HX : Hid (T ++ (lineS [98, 108, 111, 99, 107] [] ++ (X.phis.flatMap phiS ++ (X.instrs.take (q + 1)).flatMap insS)) = (T ++ (lineS [98, 108, 111, 99, 107] [] ++ (X.phis.flatMap phiS ++ (X.instrs.take q).flatMap insS))) ++ insS I) := hide (by rw [HTj.out]; simp)
              generalize T ++ (lineS [98, 108, 111, 99, 107] [] ++ (X.phis.flatMap phiS ++ (X.instrs.take q).flatMap insS)) = TT at *
              go_wp2_with (go_at_call 94; refine (putInstr_any (w.heap.size + 1) u3 TT I wr hsc HOJ.out HOi HNi HLj HKj).mono ?_; rintro e w4 ⟨x4, rfl, hg4, hn4, ho4⟩)
              have HG4 := hide (HGi.out.trans hg4)
              have HN4 := hide hn4
              have HO4 : Hid (w4.ownsRow (w.heap.size + 1) 5 1 x4 (T ++ (lineS [98, 108, 111, 99, 107] [] ++ (X.phis.flatMap phiS ++ (X.instrs.take (q + 1)).flatMap insS))).length (bytesV (T ++ (lineS [98, 108, 111, 99, 107] [] ++ (X.phis.flatMap phiS ++ (X.instrs.take (q + 1)).flatMap insS))))) := hide (by rw [HX.out]; exact ho4)
              clear hg4 hn4 ho4
              go_wp2
              exact ⟨⟨q + 1, by omega, by go_num, HG4, HN4, HO4⟩, by simp [intOf]; omega⟩
            · have c2 : wr.cell? ⟨wo.heap.size, 2, none⟩ = some (.int .i64 X.term.kind) := (cell_of hsa).trans Q2.out
              have c3 : wr.cell? ⟨wo.heap.size, 3, none⟩ = some (.int .i64 X.term.a) := (cell_of hsa).trans Q3.out
              have c4 : wr.cell? ⟨wo.heap.size, 4, none⟩ = some (.int .i64 X.term.to) := (cell_of hsa).trans Q4.out
              have c5 : wr.cell? ⟨wo.heap.size, 5, none⟩ = some (.int .i64 X.term.els) := (cell_of hsa).trans Q5.out
              clear hsa hsb
              have HOt : Hid (wr.ownsRow (w.heap.size + 1) 5 1 u3 (T ++ (lineS [98, 108, 111, 99, 107] [] ++ (X.phis.flatMap phiS ++ X.instrs.flatMap insS))).length (bytesV (T ++ (lineS [98, 108, 111, 99, 107] [] ++ (X.phis.flatMap phiS ++ X.instrs.flatMap insS))))) := hide (by have := HOi.out; rwa [List.take_of_length_le (by omega)] at this)
              have HX : Hid (lineS [102, 117, 110, 99] [V] ++ (xs.take (k + 1)).flatMap blkS = (T ++ (lineS [98, 108, 111, 99, 107] [] ++ (X.phis.flatMap phiS ++ X.instrs.flatMap insS))) ++ termS X.term) := hide (by rw [HT.out]; simp [blkS])
              generalize T ++ (lineS [98, 108, 111, 99, 107] [] ++ (X.phis.flatMap phiS ++ X.instrs.flatMap insS)) = TT at *
              have HKT := hide HK.out.term
              go_wp2_with (go_at_call 95; refine (putTerm_any (w.heap.size + 1) u3 TT X.term wr hsc hkd.out HOt HNi HLT HKT).mono ?_; rintro e w5 ⟨x5, rfl, hg5, hn5, ho5⟩)
              have HG5 := hide (HGi.out.trans hg5)
              have HN5 := hide hn5
              have HO6 : Hid (w5.ownsRow (w.heap.size + 1) 5 1 x5 (lineS [102, 117, 110, 99] [V] ++ (xs.take (k + 1)).flatMap blkS).length (bytesV (lineS [102, 117, 110, 99] [V] ++ (xs.take (k + 1)).flatMap blkS))) := hide (by rw [HX.out]; exact ho5)
              clear hg5 hn5 ho5
              have HB5 := hide (HG5.out.below HOX.out (HB.out.trans (HBW.out.mono hwz0)) (by have := HSX.out; omega))
              go_wp2
              exact ⟨⟨k + 1, by omega, by go_num, HB5, HN5, HO6⟩, by simp [intOf]; omega⟩
    · have HO5 : Hid (wr.ownsRow (w.heap.size + 1) 5 1 u3 (rawS ⟨V, xs⟩).length (bytesV (rawS ⟨V, xs⟩))) := hide (by have := HO.out; rwa [List.take_of_length_le (by have := hx.out; omega)] at this)
      go_wp2
      go_ret
      exact ⟨_, rfl, HW.out, HN.out, own_base HO5.out (Nat.le_succ _)⟩
end Go.Proofs.YtdcdgopblbmgoaaDoor

/-
  The text of a machine program, pure, and how long it can be.
-/
namespace Go.Proofs.YtdcdgopblbmgoaaDoor
open Go.RowKit

/-- The instructions of a block and its end as lines. -/
def codeS (is : List Ins) (t : Ter) : List UInt8 := is.flatMap insS ++ termS t
theorem code_len {is : List Ins} {t : Ter} {q : Nat} (h : q < is.length) : ((is.take q).flatMap insS).length + (insS is[q]).length ≤ (codeS is t).length := by
  have := congrArg List.length (flat_split insS is q h)
  simp only [codeS, List.length_append] at this ⊢
  omega
def mblkS (x : MBlk) : List UInt8 := lineS [98, 108, 111, 99, 107] [] ++ codeS x.instrs x.term
def rawM (V : Int) (xs : List MBlk) : List UInt8 := lineS [109, 97, 99, 104] [V] ++ xs.flatMap mblkS

/-- All numbers of a block are such. -/
structure MBlkIn (x : MBlk) : Prop where
  instrs : ∀ i ∈ x.instrs, ∀ v ∈ [i.dst, i.a, i.b, i.imm], InB v
  term : ∀ v ∈ [x.term.a, x.term.to, x.term.els], InB v
  ops : ∀ i ∈ x.instrs, 1 ≤ i.op ∧ i.op ≤ 13
  kind : x.term.kind = 1 ∨ x.term.kind = 2 ∨ x.term.kind = 3
theorem mblkS_le (x : MBlk) (h : MBlkIn x) : (mblkS x).length ≤ 100 * (x.instrs.length + 1) := by
  have h2 := inssS_le x.instrs h.instrs
  have h3 := termS_le x.term h.term
  have h4 : (lineS [98, 108, 111, 99, 107] []).length = 6 := rfl
  unfold mblkS codeS
  rw [List.length_append, List.length_append, h4]; omega
theorem mblksS_le (xs : List MBlk) (h : ∀ x ∈ xs, MBlkIn x) : (xs.flatMap mblkS).length ≤ 100 * (mTot xs + xs.length) := by
  induction xs with
  | nil => simp
  | cons p r ih =>
    have h1 := mblkS_le p (h p (List.mem_cons_self ..))
    have h2 := ih (fun q hq => h q (List.mem_cons_of_mem _ hq))
    have h3 : mTot (p :: r) = p.instrs.length + mTot r := by simp [mTot]
    rw [h3, List.flatMap_cons, List.length_append, List.length_cons]; omega
theorem rawM_le (V : Int) (xs : List MBlk) (hv : InB V) (h : ∀ x ∈ xs, MBlkIn x) : (rawM V xs).length ≤ 100 * (mTot xs + xs.length + 1) := by
  have h1 := mblksS_le xs h
  have h2 := lineS_le [109, 97, 99, 104] [V] (fun v hv' => by simp at hv'; exact hv' ▸ hv)
  simp only [List.length_cons, List.length_nil] at h2
  unfold rawM
  rw [List.length_append]; omega

theorem fldM_in {u : Bool} {x lo hi : Int} (h : fld u x lo hi = true) (h0 : 0 ≤ lo) (h1 : hi ≤ 1000000) : 0 ≤ x ∧ x ≤ 1000000 := by
  cases u <;> simp [fld] at h <;> omega
theorem inBM_of {v : Int} (h : -1000000000 ≤ v ∧ v ≤ 1000000000) : InB v := by unfold InB; omega
/-- What a valid machine program's numbers are. -/
theorem in_of_validM {V : Int} {xs : List MBlk} (h : validM V xs = true) : InB V ∧ (∀ x ∈ xs, MBlkIn x) := by
  unfold validM headM at h
  simp only [Bool.and_eq_true, decide_eq_true_eq, List.all_eq_true] at h
  obtain ⟨⟨⟨⟨⟨z1, z2⟩, z3⟩, z4⟩, z5⟩, hb⟩ := h
  refine ⟨inBM_of (by omega), fun x hx => ?_⟩
  have h1 := hb x hx
  unfold mOk at h1
  simp only [Bool.and_eq_true, List.all_eq_true] at h1
  obtain ⟨hI, hT⟩ := h1
  simp only [terOk, Bool.and_eq_true, decide_eq_true_eq] at hT
  obtain ⟨⟨⟨⟨t1, t2⟩, t3⟩, t4⟩, t5⟩ := hT
  have i3 := fldM_in t3 (by omega) (by omega)
  have i4 := fldM_in t4 (by omega) (by omega)
  have i5 := fldM_in t5 (by omega) (by omega)
  refine ⟨fun j hj v hv => ?_, fun v hv => ?_, fun j hj => ?_, by omega⟩
  · have h1 := hI j hj
    simp only [insOk, Bool.and_eq_true, decide_eq_true_eq] at h1
    obtain ⟨⟨⟨⟨⟨q1, q2⟩, q3⟩, q4⟩, q5⟩, q6⟩ := h1
    have i3 := fldM_in q3 (by omega) (by omega)
    have i4 := fldM_in q4 (by omega) (by omega)
    have i5 := fldM_in q5 (by omega) (by omega)
    have i6 : -1000000000 ≤ j.imm ∧ j.imm ≤ 1000000000 := by
      unfold immOk at q6
      split at q6
      · simpa using q6
      · split at q6
        · simp at q6; omega
        · simp at q6; omega
    simp only [List.mem_cons, List.not_mem_nil, or_false] at hv
    exact inBM_of (by rcases hv with rfl | rfl | rfl | rfl <;> omega)
  · simp only [List.mem_cons, List.not_mem_nil, or_false] at hv
    exact inBM_of (by rcases hv with rfl | rfl | rfl <;> omega)
  · have h1 := hI j hj
    simp only [insOk, Bool.and_eq_true, decide_eq_true_eq] at h1
    exact h1.1.1.1.1
def encM (V : Int) (xs : List MBlk) : List UInt8 := if validM V xs = true then rawM V xs else []
theorem encM_le (V : Int) (xs : List MBlk) (h : xs.length + mTot xs ≤ 1048576) : (encM V xs).length ≤ 1000000000 := by
  unfold encM
  split
  · rename_i hv
    obtain ⟨o1, o2⟩ := in_of_validM hv
    have := rawM_le V xs o1 o2
    omega
  · simp
end Go.Proofs.YtdcdgopblbmgoaaDoor
