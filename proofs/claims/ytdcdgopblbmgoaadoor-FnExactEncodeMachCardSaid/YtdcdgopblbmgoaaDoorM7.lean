import Derived.Test.YtdcdgopblbmgoaaDoorE7
import Derived.Test.YtdcdgopblbmgoaaDoorW5b
import Derived.Test.YtdcdgopblbmgoaaDoorE1
import Derived.Test.YtdcdgopblbmgoaaDoorW6b
/-
  spec.EncodeMach.
-/
namespace Go.Proofs.YtdcdgopblbmgoaaDoor
open Go.RowKit
attribute [local go_sem ↓] Go.wp_at_zero Go.wp_at_succ

theorem own_nilM (w : World) : (w.alloc (.cells #[] 5)).ownsRow w.heap.size 5 1 (.slice (some ⟨w.heap.size, 0, none⟩) 0 0) 0 [] := by
  have := World.ownsRow_lit (base := w.heap.size) (e := 5) (size := 1) w #[] 0 (by simp) (by simp) rfl
  simpa using this

set_option maxHeartbeats 2000000 in
set_option maxRecDepth 100000 in
theorem encMS_any (V : Int) (a : Option Addr) (n c : Nat) (xs : List MBlk) (L B : Nat) (w : World) (ha : Hid (MBlksAt w L B a xs)) (hx : Hid (n = xs.length)) (hs : Hid (xs.length + mTot xs ≤ 1048576)) (hB : B ≤ w.heap.size) :
    Calls Tryd.prog 43 #[.agg #[.int .i64 V, .slice a n c]] w fun e w' => ∃ v, e = .returned v ∧ Below w.heap.size w w' ∧ v ≠ .slice none 0 0 ∧ w'.ownsRow w.heap.size 5 1 v (encM V xs).length (bytesV (encM V xs)) := by
  cases hv : validM V xs with
  | false =>
    have HV := hide hv
    have HE : Hid (encM V xs = []) := hide (by unfold encM; rw [hv]; rfl)
    clear hv
    go_enter Tryd.func43, Tryd.ntmps43
    go_wp2_with (go_at_call 39; refine (validMachS_any V a n c xs L B _ (hide (ha.out.keep ((balloc (Below.refl w.heap.size w) _).mono hB))) hx hs (by simp; omega)).mono ?_; rintro e w1 ⟨rfl, hb1⟩; rw [HV.out])
    go_ret
    have hz := hb1.size
    simp at hz
    refine ⟨_, rfl, balloc (((balloc (Below.refl w.heap.size w) _)).trans (hb1.mono (by simp))) _, by simp, ?_⟩
    rw [HE.out]
    exact own_base (own_nilM _) (by omega)
  | true =>
    have HV := hide hv
    have HE : Hid (encM V xs = rawM V xs) := hide (by unfold encM; rw [hv]; rfl)
    obtain ⟨o1, o2⟩ := in_of_validM hv
    have O1 := hide o1
    have O2 := hide o2
    have hn : n ≤ 1048576 := by have := hx.out; have := hs.out; omega
    have HLEN : Hid ((rawM V xs).length ≤ 1000000000000) := hide (by have := rawM_le V xs o1 o2; have h2 := hs.out; omega)
    clear hv o1 o2
    have HF : Hid (∀ w1, Below (w.alloc (.cells #[.int .i64 V, .slice a n c] 66)).heap.size (w.alloc (.cells #[.int .i64 V, .slice a n c] 66)) w1 → w.heap.size < w1.heap.size ∧ w1.cell? ⟨w.heap.size, 0, none⟩ = some (.int .i64 V) ∧ w1.cell? ⟨w.heap.size, 1, none⟩ = some (.slice a n c) ∧ Hid (Below w.heap.size w w1)) := hide (fun w1 hb1 => by
      refine ⟨by have := hb1.size; simp at this; omega, (hb1.cell (p := ⟨w.heap.size, 0, none⟩) (by simp)).trans (by simp), (hb1.cell (p := ⟨w.heap.size, 1, none⟩) (by simp)).trans (by simp), hide ((balloc (Below.refl w.heap.size w) _).trans (hb1.mono (by simp)))⟩)
    have HL1 : Hid (([] : List UInt8).length + (lineS [109, 97, 99, 104] [V]).length ≤ 1000000000000) := hide (by have := HLEN.out; unfold rawM at this; simp only [List.length_append, List.length_nil] at this ⊢; omega)
    go_enter Tryd.func43, Tryd.ntmps43
    go_wp2_with (go_at_call 39; refine (validMachS_any V a n c xs L B _ (hide (ha.out.keep ((balloc (Below.refl w.heap.size w) _).mono hB))) hx hs (by simp; omega)).mono ?_; rintro e w1 ⟨rfl, hb1⟩; rw [HV.out]; obtain ⟨hz', k0, k1, HB1⟩ := HF.out _ hb1; clear hb1)
    go_wp2_with (go_at_call 93; refine (lit0_any w1.heap.size _ [] [109, 97, 99, 104] [V] _ (w1.alloc (.cells #[] 5)) (by simp) (by simp) (hide (own_nilM w1)) (hide (by simp)) HL1 (fun v h => by simp at h; exact h ▸ O1.out)).mono ?_; rintro e w2 ⟨x2, rfl, hg2, hn2, ho2⟩)
    have HB2 : Hid (Below w1.heap.size w1 w2) := hide (hg2.below (own_nilM w1) ((Below.refl _ _).alloc (Nat.le_refl _) _) (by simp))
    have HN2 := hide hn2
    have HO2 := hide ho2
    have hz2 := HB2.out.size
    have q1 := (HB2.out.cell (p := ⟨w.heap.size, 1, none⟩) hz').trans k1
    have HA1 : Hid (MBlksAt w1 L B a xs) := hide (ha.out.keep (HB1.out.mono hB))
    clear hg2 hn2 ho2 k0
    go_wp2
    go_loopw [3, 4] (fun x i wr => ∃ k : Nat, k ≤ n ∧ i = .int .i64 k ∧ Hid (Below w1.heap.size w1 wr) ∧ Hid (x ≠ .slice none 0 0) ∧ Hid (wr.ownsRow w1.heap.size 5 1 x (lineS [109, 97, 99, 104] [V] ++ (xs.take k).flatMap mblkS).length (bytesV (lineS [109, 97, 99, 104] [V] ++ (xs.take k).flatMap mblkS)))) (fun _ i _ => n - (intOf i).toNat)
    case atStart => exact ⟨0, Nat.zero_le _, rfl, HB2, HN2, hide (by simpa using HO2.out)⟩
    case round =>
      clear HB2 HN2 HO2 hz2 q1
      obtain ⟨k, hk, rfl, HB, HN, HO⟩ := hrel
      have hwz := HB.out.size
      have q1 := (HB.out.cell (p := ⟨w.heap.size, 1, none⟩) hz').trans k1
      have hwz2 : w.heap.size < wr.heap.size := by omega
      by_cases hlt : k < n
      · have hkx : k < xs.length := by have := hx.out; omega
        have HK := hide (O2.out xs[k] (List.getElem_mem hkx))
        obtain ⟨b, o, rfl, ⟨hbL, hbB⟩, hc⟩ := HA1.out k hkx
        obtain ⟨ia, ic, e1, ⟨t0, t1, t2, t3⟩, hi⟩ := hc
        have HI := hide hi
        have HE1 := hide e1
        have HT4 := hide (And.intro t0 (And.intro t1 (And.intro t2 t3)))
        clear hi e1 t0 t1 t2 t3
        have HT : Hid (lineS [109, 97, 99, 104] [V] ++ (xs.take (k + 1)).flatMap mblkS = (lineS [109, 97, 99, 104] [V] ++ (xs.take k).flatMap mblkS) ++ mblkS xs[k]) := hide (by rw [take_next _ _ hkx, List.flatMap_append]; simp)
        have HL : Hid ((lineS [109, 97, 99, 104] [V] ++ (xs.take k).flatMap mblkS).length + (mblkS xs[k]).length ≤ 1000000000000) := hide (by have h1 := HLEN.out; have h2 := flat_split mblkS xs k hkx; unfold rawM at h1; rw [h2] at h1; simp only [List.length_append] at h1 ⊢; omega)
        generalize xs[k] = X at *
        generalize lineS [109, 97, 99, 104] [V] ++ (xs.take k).flatMap mblkS = T at *
        have HLB : Hid (T.length + (lineS [98, 108, 111, 99, 107] []).length ≤ 1000000000000) := hide (by have := HL.out; unfold mblkS at this; simp only [List.length_append] at this; omega)
        go_wp2_with (go_at_call 93; refine (lit0_any w1.heap.size u3 T [98, 108, 111, 99, 107] [] _ wr rfl hwz HO HN HLB (fun v h => by simp at h)).mono ?_; rintro e w2 ⟨x2, rfl, hg2, hn2, ho2⟩)
        have HG2 : Hid (Gr wr w2 u3 x2) := hide hg2
        have HN2 := hide hn2
        have HO2 := hide ho2
        clear hg2 hn2 ho2
        have HKEEP : Hid (∀ wi v, Gr wr wi u3 v → Below w1.heap.size w1 wi ∧ w1.heap.size ≤ wi.heap.size) := hide (fun wi v hg => by
          have h1 := hg.below HO.out HB.out hwz
          exact ⟨h1, h1.size⟩)
        have hil : X.instrs.length ≤ 1000000000000 := by
          have h1 := HL.out; have h2 := flat_len insS (fun x => lineS_pos _ _) X.instrs; unfold mblkS codeS at h1; simp only [List.length_append] at h1; omega
        generalize u3 = u3o at *
        generalize wr = wo at *
        go_wp2
        go_loopw [3, 5] (fun v i wi => ∃ q : Nat, q ≤ X.instrs.length ∧ i = .int .i64 q ∧ Hid (Gr wo wi u3o v) ∧ Hid (v ≠ .slice none 0 0) ∧ Hid (wi.ownsRow w1.heap.size 5 1 v (T ++ (lineS [98, 108, 111, 99, 107] [] ++ (X.instrs.take q).flatMap insS)).length (bytesV (T ++ (lineS [98, 108, 111, 99, 107] [] ++ (X.instrs.take q).flatMap insS))))) (fun _ i _ => X.instrs.length - (intOf i).toNat)
        case atStart => exact ⟨0, Nat.zero_le _, rfl, HG2, HN2, hide (by simpa using HO2.out)⟩
        case round =>
          clear HG2 HN2 HO2 q1
          obtain ⟨q, hq, rfl, HGi, HNi, HOi⟩ := hrel
          obtain ⟨hbi, hsz⟩ := HKEEP.out _ _ HGi.out
          have r1 := (hbi.cell (p := ⟨w.heap.size, 1, none⟩) hz').trans k1
          have e1 := (hbi.cell (p := ⟨b, o + k * 5, none⟩) (by show b < _; omega)).trans HE1.out
          have HBI := hide hbi
          have hwr : w.heap.size < wr.heap.size := by omega
          clear hbi
          have hk0 : (0 : Int) ≤ (k : Int) := by omega
          have hk1 : (k : Int) < (n : Int) := by omega
          by_cases hlq : q < X.instrs.length
          · obtain ⟨b', o', rfl, ⟨hbL', hbB'⟩, hcI⟩ := HI.out q hlq
            obtain ⟨d0, d1, d2, d3, d4⟩ := hcI.keepS (HBI.out.block b' (by omega))
            have HLj : Hid ((T ++ (lineS [98, 108, 111, 99, 107] [] ++ (X.instrs.take q).flatMap insS)).length + (insS X.instrs[q]).length ≤ 1000000000000) := hide (by
              have h1 := HL.out; have h2 := code_len (t := X.term) hlq; unfold mblkS at h1; simp only [List.length_append] at h1 h2 ⊢; omega)
            have HKj := hide (HK.out.instrs X.instrs[q] (List.getElem_mem hlq))
            have HOJ := hide (HK.out.ops X.instrs[q] (List.getElem_mem hlq))
            have HTj := hide (flat_next insS X.instrs q hlq)
            generalize X.instrs[q] = I at *
            have HX : Hid (T ++ (lineS [98, 108, 111, 99, 107] [] ++ (X.instrs.take (q + 1)).flatMap insS) = (T ++ (lineS [98, 108, 111, 99, 107] [] ++ (X.instrs.take q).flatMap insS)) ++ insS I) := hide (by rw [HTj.out]; simp)
            generalize T ++ (lineS [98, 108, 111, 99, 107] [] ++ (X.instrs.take q).flatMap insS) = TT at *
            clear hcI
            have hj0 : (0 : Int) ≤ (q : Int) := by omega
            have hj1 : (q : Int) < (X.instrs.length : Int) := by omega
            go_wp2_with (go_at_call 94; refine (putInstr_any w1.heap.size u3 TT I wr hsz HOJ.out HOi HNi HLj HKj).mono ?_; rintro e w4 ⟨x4, rfl, hg4, hn4, ho4⟩)
            have HG4 : Hid (Gr wo w4 u3o x4) := hide (HGi.out.trans hg4)
            have HN4 := hide hn4
            have HO4 : Hid (w4.ownsRow w1.heap.size 5 1 x4 (T ++ (lineS [98, 108, 111, 99, 107] [] ++ (X.instrs.take (q + 1)).flatMap insS)).length (bytesV (T ++ (lineS [98, 108, 111, 99, 107] [] ++ (X.instrs.take (q + 1)).flatMap insS)))) := hide (by rw [HX.out]; exact ho4)
            clear hg4 hn4 ho4
            go_wp2
            exact ⟨⟨q + 1, by omega, by go_num, HG4, HN4, HO4⟩, by simp [intOf]; omega⟩
          · obtain ⟨u0, u1, u2, u3'⟩ := HT4.out
            have e2 := (HBI.out.cell (p := ⟨b, o + k * 5 + 1, none⟩) (by show b < _; omega)).trans u0
            have e3 := (HBI.out.cell (p := ⟨b, o + k * 5 + 1 + 1, none⟩) (by show b < _; omega)).trans u1
            have e4 := (HBI.out.cell (p := ⟨b, o + k * 5 + 1 + 2, none⟩) (by show b < _; omega)).trans u2
            have e5 := (HBI.out.cell (p := ⟨b, o + k * 5 + 1 + 3, none⟩) (by show b < _; omega)).trans u3'
            clear u0 u1 u2 u3'
            have HOt : Hid (wr.ownsRow w1.heap.size 5 1 u3 (T ++ (lineS [98, 108, 111, 99, 107] [] ++ X.instrs.flatMap insS)).length (bytesV (T ++ (lineS [98, 108, 111, 99, 107] [] ++ X.instrs.flatMap insS)))) := hide (by have := HOi.out; rwa [List.take_of_length_le (by omega)] at this)
            have HX : Hid (lineS [109, 97, 99, 104] [V] ++ (xs.take (k + 1)).flatMap mblkS = (T ++ (lineS [98, 108, 111, 99, 107] [] ++ X.instrs.flatMap insS)) ++ termS X.term) := hide (by rw [HT.out]; simp [mblkS, codeS])
            have HLT : Hid ((T ++ (lineS [98, 108, 111, 99, 107] [] ++ X.instrs.flatMap insS)).length + (termS X.term).length ≤ 1000000000000) := hide (by
              have h1 := HL.out; unfold mblkS codeS at h1; simp only [List.length_append] at h1 ⊢; omega)
            generalize T ++ (lineS [98, 108, 111, 99, 107] [] ++ X.instrs.flatMap insS) = TT at *
            have HKT := hide HK.out.term
            have HKD := hide HK.out.kind
            go_wp2_with (go_at_call 95; refine (putTerm_any w1.heap.size u3 TT X.term wr hsz HKD.out HOt HNi HLT HKT).mono ?_; rintro e w5 ⟨x5, rfl, hg5, hn5, ho5⟩)
            have HB5 : Hid (Below w1.heap.size w1 w5) := hide (HKEEP.out _ _ (HGi.out.trans hg5)).1
            have HN5 := hide hn5
            have HO6 : Hid (w5.ownsRow w1.heap.size 5 1 x5 (lineS [109, 97, 99, 104] [V] ++ (xs.take (k + 1)).flatMap mblkS).length (bytesV (lineS [109, 97, 99, 104] [V] ++ (xs.take (k + 1)).flatMap mblkS))) := hide (by rw [HX.out]; exact ho5)
            clear hg5 hn5 ho5
            go_wp2
            exact ⟨⟨k + 1, by omega, by go_num, HB5, HN5, HO6⟩, by simp [intOf]; omega⟩
      · have HO5 : Hid (wr.ownsRow w1.heap.size 5 1 u3 (rawM V xs).length (bytesV (rawM V xs))) := hide (by have := HO.out; rwa [List.take_of_length_le (by have := hx.out; omega)] at this)
        go_wp2
        go_ret
        refine ⟨_, rfl, HB1.out.trans (HB.out.mono (by omega)), HN.out, ?_⟩
        rw [HE.out]
        exact own_base HO5.out (by omega)
end Go.Proofs.YtdcdgopblbmgoaaDoor

namespace Go.Proofs.YtdcdgopblbmgoaaDoor
open Go.RowKit

set_option maxHeartbeats 400000 in
theorem validImm_any (op dst a b imm : Int) (w : World) :
    Calls Tryd.prog 131 #[.agg #[.int .i64 op, .int .i64 dst, .int .i64 a, .int .i64 b, .int .i64 imm]] w fun e w' => e = .returned (.bool (immOk ⟨op, dst, a, b, imm⟩)) ∧ Below w.heap.size w w' := by
  go_enter Tryd.func131, Tryd.ntmps131
  go_wp2
  all_goals
    go_ret
    refine ⟨ret_bool ?_, balloc (Below.refl _ _) _⟩
    first | (simp [immOk, *]; done) | (simp [immOk, *]; omega)

/-- What the table of the instructions' forms (variable 0) holds. -/
def OpTab (w : World) : Prop := 0 < w.heap.size ∧ ∀ k : Nat, 1 ≤ k → k ≤ 13 → ∃ s, w.cell? ⟨0, k * 5, none⟩ = some (.string s) ∧ w.cell? ⟨0, k * 5 + 1, none⟩ = some (.bool (dB k)) ∧ w.cell? ⟨0, k * 5 + 2, none⟩ = some (.bool (aB k)) ∧
  w.cell? ⟨0, k * 5 + 3, none⟩ = some (.bool (bB k)) ∧ ∃ i, w.cell? ⟨0, k * 5 + 4, none⟩ = some (.bool i)
/-- What the table of the ends' forms (variable 1) holds. -/
def TerTab (w : World) : Prop := 1 < w.heap.size ∧ ∀ k : Nat, 1 ≤ k → k ≤ 3 → ∃ s, w.cell? ⟨1, k * 4, none⟩ = some (.string s) ∧ w.cell? ⟨1, k * 4 + 1, none⟩ = some (.bool ((k : Int) != 1)) ∧ w.cell? ⟨1, k * 4 + 2, none⟩ = some (.bool ((k : Int) != 3)) ∧
  w.cell? ⟨1, k * 4 + 3, none⟩ = some (.bool ((k : Int) == 2))
theorem OpTab.keep {w w' : World} (h : OpTab w) (k : Below w.heap.size w w') : OpTab w' := by
  refine ⟨Nat.lt_of_lt_of_le h.1 k.size, fun i h1 h2 => ?_⟩
  have e := fun o => cell_of (o := o) (k.block 0 h.1)
  obtain ⟨s, c0, c1, c2, c3, j, c4⟩ := h.2 i h1 h2
  exact ⟨s, (e _).trans c0, (e _).trans c1, (e _).trans c2, (e _).trans c3, j, (e _).trans c4⟩
theorem TerTab.keep {w w' : World} (h : TerTab w) (k : Below w.heap.size w w') : TerTab w' := by
  refine ⟨Nat.lt_of_lt_of_le h.1 k.size, fun i h1 h2 => ?_⟩
  have e := fun o => cell_of (o := o) (k.block 1 h.1)
  obtain ⟨s, c0, c1, c2, c3⟩ := h.2 i h1 h2
  exact ⟨s, (e _).trans c0, (e _).trans c1, (e _).trans c2, (e _).trans c3⟩

set_option maxHeartbeats 1000000 in
theorem validInstr_gen (op dst a b imm n most : Int) (w : World) (hm : most ≤ 13) (hT : Hid (OpTab w)) :
    Calls Tryd.prog 91 #[.agg #[.int .i64 op, .int .i64 dst, .int .i64 a, .int .i64 b, .int .i64 imm], .int .i64 most, .int .i64 n] w fun e w' => e = .returned (.bool (insOk n most ⟨op, dst, a, b, imm⟩)) ∧ Below w.heap.size w w' := by
  by_cases h : 1 ≤ op ∧ op ≤ most
  · obtain ⟨h1, h2⟩ := h
    obtain ⟨k, rfl⟩ := Int.eq_ofNat_of_zero_le (show 0 ≤ op by omega)
    have hz := hT.out.1
    obtain ⟨s, c0, c1, c2, c3, j, c4⟩ := hT.out.2 k (by omega) (by omega)
    have hR : Hid (insOk n most ⟨k, dst, a, b, imm⟩ = (fld (dB k) dst 0 n && fld (aB k) a 0 n && fld (bB k) b 0 n && immOk ⟨k, dst, a, b, imm⟩)) := by
      show _ = _
      unfold insOk
      rw [decide_eq_true h1, decide_eq_true h2]
      simp
    generalize dB (k : Int) = uD at *
    generalize aB (k : Int) = uA at *
    generalize bB (k : Int) = uB at *
    have hk13 : (k : Int) ≤ 13 := by omega
    go_enter Tryd.func91, Tryd.ntmps91
    go_wp2_with (first | (go_at_call 102; refine (validField_any _ _ _ _ _).mono ?_; rintro e w2 ⟨rfl, hw2⟩; rw [hw2]; clear hw2 w2) | (go_at_call 131; refine (validImm_any _ _ _ _ _ _).mono ?_; rintro e w2 ⟨rfl, hb2⟩))
    all_goals
      go_ret
      refine ⟨ret_bool ?_, ?_⟩
      · rw [hR.out]; simp [*]
      · first | exact bnext (balloc (balloc (Below.refl _ _) _) _) hb2 | exact balloc (balloc (Below.refl _ _) _) _
  · have hn : ∃ r, r = insOk n most ⟨op, dst, a, b, imm⟩ ∧ r = false := ⟨_, rfl, by
      unfold insOk
      by_cases h1 : 1 ≤ op
      · rw [decide_eq_false (p := op ≤ most) (by omega)]; simp
      · rw [decide_eq_false (p := 1 ≤ op) h1]; simp⟩
    obtain ⟨r, hr, rfl⟩ := hn
    rw [← hr]
    clear hr
    have h' : op < 1 ∨ (1 ≤ op ∧ most < op) := by omega
    clear h
    rcases h' with h' | ⟨h', h''⟩
    all_goals
      go_enter Tryd.func91, Tryd.ntmps91
      go_wp2
      all_goals
        go_ret
        exact ⟨rfl, balloc (Below.refl _ _) _⟩

theorem validInstr_any (op dst a b imm n : Int) (w : World) (hT : Hid (OpTab w)) :
    Calls Tryd.prog 91 #[.agg #[.int .i64 op, .int .i64 dst, .int .i64 a, .int .i64 b, .int .i64 imm], .int .i64 10, .int .i64 n] w fun e w' => e = .returned (.bool (insOk n 10 ⟨op, dst, a, b, imm⟩)) ∧ Below w.heap.size w w' :=
  validInstr_gen op dst a b imm n 10 w (by decide) hT

set_option maxHeartbeats 1000000 in
theorem validTerm_any (kind ta to els n low bl : Int) (w : World) (hT : Hid (TerTab w)) :
    Calls Tryd.prog 90 #[.agg #[.int .i64 kind, .int .i64 ta, .int .i64 to, .int .i64 els], .int .i64 n, .int .i64 low, .int .i64 bl] w fun e w' => e = .returned (.bool (terOk n low bl ⟨kind, ta, to, els⟩)) ∧ Below w.heap.size w w' := by
  by_cases h : 1 ≤ kind ∧ kind ≤ 3
  · obtain ⟨h1, h2⟩ := h
    obtain ⟨k, rfl⟩ := Int.eq_ofNat_of_zero_le (show 0 ≤ kind by omega)
    have hz := hT.out.1
    obtain ⟨s, c0, c1, c2, c3⟩ := hT.out.2 k (by omega) (by omega)
    have hR : Hid (terOk n low bl ⟨k, ta, to, els⟩ = (fld ((k : Int) != 1) ta 0 n && fld ((k : Int) != 3) to low bl && fld ((k : Int) == 2) els low bl)) := by
      show _ = _
      unfold terOk
      rw [decide_eq_true h1, decide_eq_true h2]
      simp
    generalize ((k : Int) != 1) = uA at *
    generalize ((k : Int) != 3) = uT at *
    generalize ((k : Int) == 2) = uE at *
    go_enter Tryd.func90, Tryd.ntmps90
    go_wp2_with (go_at_call 102; refine (validField_any _ _ _ _ _).mono ?_; rintro e w2 ⟨rfl, hw2⟩; rw [hw2]; clear hw2 w2)
    all_goals
      go_ret
      refine ⟨ret_bool ?_, ?_⟩
      · rw [hR.out]; simp [*]
      · exact balloc (balloc (Below.refl _ _) _) _
  · have hn : ∃ r, r = terOk n low bl ⟨kind, ta, to, els⟩ ∧ r = false := ⟨_, rfl, terOk_no h⟩
    obtain ⟨r, hr, rfl⟩ := hn
    rw [← hr]
    clear hr
    have h' : kind < 1 ∨ 3 < kind := by omega
    clear h
    go_enter Tryd.func90, Tryd.ntmps90
    go_wp2
    all_goals
      go_ret
      exact ⟨rfl, balloc (Below.refl _ _) _⟩

set_option maxHeartbeats 400000 in
theorem targetsI_any (t : Ter) (w : World) :
    Calls Tryd.prog 114 #[.agg #[.int .i64 t.kind, .int .i64 t.a, .int .i64 t.to, .int .i64 t.els]] w fun e w' => ∃ a c, e = .returned (.slice a t.targets.length c) ∧ Below w.heap.size w w' ∧ IntsAt w' w.heap.size w'.heap.size a t.targets := by
  obtain ⟨kind, ta, to, els⟩ := t
  by_cases h1 : kind = 1
  · subst h1
    go_enter Tryd.func114, Tryd.ntmps114
    go_wp2
    go_ret
    refine ⟨_, _, rfl, balloc (balloc (Below.refl _ _) _) _, fun i hi => ?_⟩
    simp [Ter.targets] at hi
    subst hi
    exact ⟨_, _, rfl, ⟨by simp, by simp⟩, by simp [Ter.targets]⟩
  · by_cases h2 : kind = 2
    · subst h2
      go_enter Tryd.func114, Tryd.ntmps114
      go_wp2
      go_ret
      refine ⟨_, _, rfl, balloc (balloc (Below.refl _ _) _) _, fun i hi => ?_⟩
      simp [Ter.targets] at hi
      match i, hi with
      | 0, _ => exact ⟨_, _, rfl, ⟨by simp, by simp⟩, by simp [Ter.targets]⟩
      | 1, _ => exact ⟨_, _, rfl, ⟨by simp, by simp⟩, by simp [Ter.targets]⟩
    · have e1 : (kind == 1) = false := by simp [h1]
      have e2 : (kind == 2) = false := by simp [h2]
      have hn : (Ter.targets ⟨kind, ta, to, els⟩) = [] := by simp [Ter.targets, h1, h2]
      rw [hn]
      clear h1 h2 hn
      go_enter Tryd.func114, Tryd.ntmps114
      go_wp2
      go_ret
      exact ⟨_, _, rfl, balloc (Below.refl _ _) _, fun i hi => absurd hi (by simp)⟩
end Go.Proofs.YtdcdgopblbmgoaaDoor
