import Derived.Test.YtdcdgopblbmgoaaGreatDoorQZ3
/-
  spec.ParseFunc: the lines' loop as a thing that is given; the header.
-/
namespace Go.Proofs.YtdcdgopblbmgoaaGreatDoor
open Go.RowKit

theorem heap_new' (w : World) (o : Obj) : (w.alloc o).heap[w.heap.size]? = some o := by show (w.heap.push o)[w.heap.size]? = some o; simp
theorem Tryz.infoBlk : (Tryz.prog.info? 46).map (fun i => (i.zero, i.size, i.bytes)) = some (some (.agg #[.slice none 0 0, .slice none 0 0, .int .i64 0, .int .i64 0, .int .i64 0, .int .i64 0]), 6, 80) := by kernel_rfl
theorem Tryz.infoIns : (Tryz.prog.info? 53).map (fun i => (i.zero, i.size, i.bytes)) = some (some (.agg #[.int .i64 0, .int .i64 0, .int .i64 0, .int .i64 0, .int .i64 0]), 5, 40) := by kernel_rfl
theorem Tryz.infoPhi : (Tryz.prog.info? 49).map (fun i => (i.zero, i.size, i.bytes)) = some (some (.agg #[.int .i64 0, .slice none 0 0]), 2, 32) := by kernel_rfl
theorem alloc_size' (w : World) (o : Obj) : (w.alloc o).heap.size = w.heap.size + 1 := Array.size_push ..
theorem cutS_pos (t : List UInt8) (s : UInt8) : 0 < (cutS t s).length := by
  unfold cutS
  have key : ∀ (r cur : List UInt8), 0 < (cutF s cur r).length := by
    intro r
    induction r with
    | nil => intro cur; simp [cutF]
    | cons c r ih => intro cur; rw [cutF]; split <;> simp [ih]
  exact key t []
theorem lines_lens (text : List UInt8) : lensOf (linesOf text) ≤ text.length := by
  have := cut_lens 10 text.dropLast []
  simp only [List.length_nil, List.length_dropLast, Nat.zero_add] at this
  show lensOf (cutF 10 [] text.dropLast) ≤ _
  omega
theorem lines_each (text : List UInt8) : ∀ l ∈ linesOf text, l.length ≤ text.length := fun l hl => by
  have := cutF_sum 10 text.dropLast [] l hl
  simp only [List.length_nil, List.length_dropLast, Nat.zero_add] at this
  omega
theorem lines_len (text : List UInt8) : (linesOf text).length ≤ text.length + 1 := by
  have := cutF_len 10 text.dropLast []
  rw [List.length_dropLast] at this
  show (cutF 10 [] text.dropLast).length ≤ _
  omega
theorem valCell {w : World} {L B b o : Nat} {fs : List (List UInt8)} (h : ValsAt w L B (some ⟨b, o, none⟩) (strsV fs)) (i : Nat) (hi : i < fs.length) : w.cell? ⟨b, o + i, none⟩ = some (.string (strOf fs[i])) ∧ b < B := by
  obtain ⟨b', o', e, hb, hc⟩ := h i (by simpa [strsV] using hi)
  cases e
  exact ⟨hc.trans (by simp [strsV]), hb.2⟩

set_option maxRecDepth 100000 in
set_option maxHeartbeats 40000000 in
theorem parseS_main (b o n c : Nat) (text : List UInt8) (L B : Nat) (w : World) (ha : Hid (BytesAt w L B (some ⟨b, o, none⟩) text)) (hx : Hid (n = text.length)) (hn1 : 1 ≤ n) (hl : n ≤ 100000) (hnc : n ≤ c) (hB : B ≤ w.heap.size) (hbB : b < B) (he : Hid (text.getLast? = some 10)) :
    Calls Tryz.prog 4 #[.slice (some ⟨b, o, none⟩) n c] w fun e w' => ∃ val, e = .returned val ∧ Below w.heap.size w w' ∧ ParsAt w' w.heap.size w'.heap.size val (parseP text) := by
  have hm : n - 1 < text.length := by have := hx.out; omega
  have hT : w.cell? ⟨b, o + (n - 1), none⟩ = some (.int .u8 10) := by
    obtain ⟨b', o', e, _, hc⟩ := ha.out (n - 1) hm
    cases e
    rw [hc]
    have h2 := he.out
    rw [List.getLast?_eq_getElem?, show text.length - 1 = n - 1 by have := hx.out; omega, List.getElem?_eq_getElem hm] at h2
    injection h2 with h2
    rw [h2]
    rfl
  have HB := fun t => hide (balloc (Below.refl w.heap.size w) (.cells #[.int .i64 0, .int .i64 0, .int .i64 0, .slice none 0 0] t))
  have HR := fun t => hide (RZ.new w t)
  have hcc := fun t => ((HB t).out.cell (p := ⟨b, o + (n - 1), none⟩) (by show b < _; omega)).trans hT
  have HY := fun t => hide (show BytesAt (w.alloc (.cells #[.int .i64 0, .int .i64 0, .int .i64 0, .slice none 0 0] t)) L B (some ⟨b, o, none⟩) text.dropLast from fun i hi => by
    obtain ⟨b', o', e, q, hc⟩ := (ha.out.keep ((HB t).out.mono hB)) i (by rw [List.length_dropLast] at hi; omega)
    exact ⟨b', o', e, q, hc.trans (by rw [List.getElem_dropLast])⟩)
  have HPP : Hid (parseP text = restP (linesOf text) (headI ((linesOf text).headD []))) := hide (by have := hx.out; unfold parseP; rw [if_neg (by omega), if_neg (fun q => q he.out)])
  have HLN : Hid (n - 1 = text.dropLast.length) := hide (by rw [List.length_dropLast, ← hx.out])
  have HCUT := fun t => hide (l1Cut_any b o (n - 1) c 10 text.dropLast L B (w.alloc (.cells #[.int .i64 0, .int .i64 0, .int .i64 0, .slice none 0 0] t)) (HY t) HLN (by omega) (by omega) (by simp; omega))
  have hls := hide (cutS_pos text.dropLast 10)
  have HLL : Hid ((linesOf text).length ≤ 100001) := hide (by have := lines_len text; have := hx.out; omega)
  have HLE : Hid (∀ l ∈ linesOf text, l.length ≤ 100000) := hide (fun l hl => by have := lines_each text l hl; have := hx.out; omega)
  have HLS : Hid (lensOf (linesOf text) ≤ 100000) := hide (by have := lines_lens text; have := hx.out; omega)
  change ∀ t, Hid (Calls _ _ _ _ (fun e w' => ∃ v, e = .returned v ∧ Below _ _ w' ∧ w'.ownsRow _ _ 1 v (linesOf text).length (strsV (linesOf text)))) at HCUT
  change Hid (0 < (linesOf text).length) at hls
  clear hT hm HY
  generalize hOUT : parseP text = OUT at *
  generalize linesOf text = ls at *
  go_enter Tryz.func4, Tryz.ntmps4
  go_wp2_with fail
  refine (HCUT _).out.mono ?_
  rintro e w1 ⟨v1, rfl, hb1, ho1⟩
  obtain ⟨g, cap, rfl, hg1, hg2⟩ := ho1.form hls.out
  obtain ⟨a1, c1, e1, hv1⟩ := vals_owned ho1
  obtain ⟨rfl, -, rfl⟩ := Value.slice.inj e1
  have HRZ := hide ((HR 27).out.keep (hb1.block w.heap.size (by simp)))
  have HB1 := hide (bnext (HB 27).out hb1)
  have hs1 := hb1.size
  simp at hs1 hg1
  have HV1 := hide (show ValsAt w1 (w.heap.size + 1) w1.heap.size (some ⟨g, 0, none⟩) (strsV ls) by simpa using hv1)
  obtain ⟨q0, -⟩ := valCell HV1.out 0 hls.out
  rw [Nat.zero_add] at q0
  have hp := hls.out
  have hll := HLL.out
  have HL0 := hide (HLE.out ls[0] (List.getElem_mem _))
  have HF0 := fun w => hide (l1Fields_any ls[0] (by have := HL0.out; omega) w)
  have HHD : Hid (ls.headD [] = ls[0]) := hide (by cases ls with | nil => simp at hp | cons x r => rfl)
  clear hb1 hv1 e1 ho1 HCUT HB HR hcc
  generalize hL0 : ls[0] = l0 at *
  clear hL0
  go_wp2_with fail
  refine (HF0 _).out.mono ?_
  rintro e w2 ⟨v2, rfl, hb2, ho2⟩
  obtain ⟨a2, c2, rfl, hv2⟩ := vals_owned ho2
  rw [show (strsV (fieldsS l0)).length = (fieldsS l0).length by simp [strsV]]
  have hs2 := hb2.size
  have HHI : Hid (headI l0 = if (fieldsS l0).length = 2 ∧ (fieldsS l0).getD 0 [] = wFunc ∧ 0 ≤ idx ((fieldsS l0).getD 1 []) then some (idx ((fieldsS l0).getD 1 [])) else none) := hide rfl
  have hfl := fields_len l0
  have HB2 := hide (bnext HB1.out hb2)
  have HR2 := hide (HRZ.out.keep (hb2.block w.heap.size (by omega)))
  have HV2 := hide (HV1.out.keepS (Same.of_below hb2))
  have HW2 := hide hv2
  clear hv2 ho2 hb2 HB1 HRZ HV1 HF0 q0
  have hfl2 : (fieldsS l0).length ≤ 100000 := by have := HL0.out; omega
  generalize fieldsS l0 = hs at *
  clear hfl
  by_cases h2 : hs.length = 2
  · obtain ⟨f0, f1, rfl⟩ : ∃ f0 f1, hs = [f0, f1] := by
      match hs, h2 with
      | [x, y], _ => exact ⟨x, y, rfl⟩
    obtain ⟨b2, o2, rfl, ⟨_, hb2B⟩, -⟩ := HW2.out 0 (by simp [strsV])
    obtain ⟨p0, -⟩ := valCell HW2.out 0 (by simp)
    obtain ⟨p1, -⟩ := valCell HW2.out 1 (by simp)
    simp only [List.getElem_cons_zero, List.getElem_cons_succ, Nat.add_zero] at p0 p1
    have hts := strOf_toList f0
    have HIX := fun w => hide (l1Index_any f1 w)
    clear h2 hfl2
    by_cases hf : f0 = wFunc
    · have fb : (f0 == [102, 117, 110, 99]) = true := by rw [hf]; rfl
      have fn : (f0 != [102, 117, 110, 99]) = false := by rw [hf]; rfl
      have HF := hide hf
      clear hf
      by_cases hi : 0 ≤ idx f1
      · have hi2 : ¬ idx f1 < 0 := by omega
        have HO : Hid (OUT = endP ls.length (idx f1) (bodyP (ls.drop 1) 1 ⟨[], none⟩)) := hide (by
          rw [HPP.out, HHD.out, HHI.out, if_pos ⟨rfl, HF.out, hi⟩, List.drop_one]
          rfl)
        clear hi HPP HHI HF
        generalize idx f1 = V at *
        go_wp2_with fail
        refine (HIX _).out.mono ?_
        rintro e w3 ⟨rfl, hb3⟩
        have k1 := (hb3.cell (p := ⟨b2, o2 + 1, none⟩) (by show b2 < _; omega)).trans p1
        have hs3 := hb3.size
        have HB3 := hide (bnext HB2.out hb3)
        have HR3 := hide (HR2.out.keep (hb3.block w.heap.size (by omega)))
        have HV3 := hide (HV2.out.keepS (Same.of_below (hb3.mono (by omega))))
        clear hb3 p0 p1 HB2 HR2 HV2 hts fb fn
        go_wp2_with fail
        refine (HIX _).out.mono ?_
        rintro e w4 ⟨rfl, hb4⟩
        have hs4 := hb4.size
        have HB4 := hide (bnext HB3.out hb4)
        have HR4 := hide (HR3.out.keep (hb4.block w.heap.size (by omega)))
        have HV4 := hide (HV3.out.keepS (Same.of_below (hb4.mono (by omega))))
        clear hb4 k1 HB3 HR3 HV3 HIX HW2
        have HST : Hid (∀ t, PInv w w4.heap.size V ls (some ⟨g, 0, none⟩) (w.heap.size + 1) w1.heap.size OUT 1 ⟨[], none⟩ none 0 0 (w4.alloc (.cells #[.int .i64 V, .slice none 0 0] t))) := hide (fun t => by
          have b4 := balloc (Below.refl w4.heap.size w4) (.cells #[.int .i64 V, .slice none 0 0] t)
          refine ⟨balloc HB4.out _, HR4.out.keep (b4.block _ (by omega)), by simp [go_sem], by simp [go_sem], fun o => by simp [go_sem], HV4.out.keepS (Same.of_below (b4.mono (by omega))), StAt.start _ _ (by simp), ⟨by omega, by omega, by simp⟩, ?_, HO.out.symm⟩
          show 0 + 0 + 0 ≤ _
          omega)
        have hsz := fun t => alloc_size' w4 (.cells #[.int .i64 V, .slice none 0 0] t)
        go_wp2
        have HST1 := hide (HST.out 25)
        clear HST hsz
        generalize (w4.alloc (.cells #[.int .i64 V, .slice none 0 0] 25)) = w5 at *
        generalize hF0 : w4.heap.size = F0 at *
        clear HO HB4 HR4 HV4
        go_loopw [6] (fun i wr => ∃ (k : Nat) (s : Pst) (va : Option Addr) (vn vc : Nat), 1 ≤ k ∧ k ≤ ls.length ∧ i = .int .i64 k ∧ Hid (PInv w F0 V ls (some ⟨g, 0, none⟩) (w.heap.size + 1) w1.heap.size OUT k s va vn vc wr)) (fun i _ => ls.length - (intOf i).toNat)
        case atStart => exact ⟨1, ⟨[], none⟩, none, 0, 0, Nat.le_refl _, hp, rfl, HST1⟩
        case round =>
          obtain ⟨k, s, va, vn, vc, hk1, hk, rfl, hinv⟩ := hrel
          clear HST1 hF0
          have hlo := hinv.out.lo
          obtain ⟨lo1, lo2, lo3⟩ := hlo
          have htot := hinv.out.tot
          have HITOT0 := hide htot
          have hlt0 := lens_take ls k
          have hvn := hinv.out.st.len
          have hls0 := HLS.out
          have hvb : vn ≤ 100000 := by omega
          clear hvn hls0 hlt0 htot
          by_cases hlt : k < ls.length
          · obtain ⟨q0, hgB⟩ := valCell hinv.out.lines k hlt
            rw [Nat.zero_add] at q0
            have HLK := hide (HLE.out ls[k] (List.getElem_mem hlt))
            have HFK := fun w => hide (l1Fields_any ls[k] (by have := HLK.out; omega) w)
            have HFLN := hide (fields_len ls[k])
            have HFE := hide (fields_each ls[k])
            have HLP : Hid (lineP s ls[k] = if fieldsS ls[k] = [] then .bad 4 else if lineCode (fieldsS ls[k]) ≠ 0 then .bad (lineCode (fieldsS ls[k])) else match stepL s (fieldsS ls[k]) with | none => .bad 8 | some s' => .ok s') := hide rfl
            have HBAD : Hid (∀ c, lineP s ls[k] = .bad c → OUT = badP c (k + 1)) := hide (fun c h => hinv.out.bad hlt h)
            have HNXT : Hid (∀ (s' : Pst) (va' : Option Addr) (vn' vc' : Nat) (wr' wN : World), PInv w F0 V ls (some ⟨g, 0, none⟩) (w.heap.size + 1) w1.heap.size OUT k s va vn vc wr' → Below F0 wr' wN → F0 < wN.heap.size → wN.cell? ⟨F0, 0, none⟩ = some (.int .i64 V) → wN.cell? ⟨F0, 1, none⟩ = some (.slice va' vn' vc') → (∀ o, wN.frozen? ⟨F0, o, none⟩ = false) → StAt wN (F0 + 1) va' vn' vc' s' → lineP s ls[k] = .ok s' → PInv w F0 V ls (some ⟨g, 0, none⟩) (w.heap.size + 1) w1.heap.size OUT (k + 1) s' va' vn' vc' wN) := hide (fun s' va' vn' vc' wr' wN h h1 h2 h3 h4 h5 h6 h7 => h.next h1 h2 h3 h4 h5 h6 hlt h7)
            generalize ls[k] = line at *
            go_wp2_with fail
            refine (HFK _).out.mono ?_
            rintro e w2 ⟨v2, rfl, hb2, ho2⟩
            obtain ⟨a2, c2, rfl, hv2⟩ := vals_owned ho2
            rw [show (strsV (fieldsS line)).length = (fieldsS line).length by simp [strsV]]
            have hs2 := hb2.size
            have HI := hide (hinv.out.calm hb2)
            have HW2 := hide hv2
            have hfl : (fieldsS line).length ≤ 100000 := by have := HFLN.out; have := HLK.out; omega
            clear hb2 ho2 hv2 hinv HFK q0
            generalize fieldsS line = fs at *
            by_cases h0 : fs.length = 0
            · have hfe : fs = [] := List.eq_nil_of_length_eq_zero h0
              have HO : Hid (OUT = badP 4 (k + 1)) := hide (HBAD.out 4 (by rw [HLP.out, if_pos hfe]))
              clear HLP HBAD HNXT hfe
              go_wp2_with (go_at_call 12; refine (l1Refuse_any _ _ _).mono ?_; rintro e wx ⟨rfl, hbx⟩; have hix := HI.out.calm hbx; obtain ⟨⟨r0, r1, r2, r3⟩, rz⟩ := hix.rv; have HIX := hide hix; clear hbx hix)
              exact bodyPost_ret (v := .agg #[.int .i64 4, .int .i64 ((k : Int) + 1), .int .i64 0, .slice none 0 0]) (by simp [results, Tryz.results4, go_sem, r0, r1, r2, r3]) rfl ⟨_, rfl, set4W_below HIX.out.below (Nat.le_refl _) _ _ _ _, by rw [HO.out]; exact pars_bad _ (k + 1) _ (by omega)⟩
            · have hpos : 0 < fs.length := by omega
              have hz0 : ((fs.length : Int) == 0) = false := by rw [beq_eq_false_iff_ne]; omega
              have HLC := hide (l1LineCode_any fs a2 c2 wr.heap.size w2.heap.size w2 HW2 hpos (by omega) (Nat.le_refl _) (hide (fun f hf => by have := HFE.out f hf; have := HLK.out; omega)))
              go_wp2_with fail
              refine HLC.out.mono ?_
              rintro e w3 ⟨rfl, hb3⟩
              have hs3 := hb3.size
              have HI3 := hide (HI.out.calm hb3)
              have HW3 := hide (HW2.out.keepS (Same.of_below hb3))
              clear hb3 HI HW2 HLC
              rename Hid (PInv w F0 V ls (some ⟨g, 0, none⟩) (w.heap.size + 1) w1.heap.size OUT k s va vn vc w3) => HI
              have hne : ¬ fs = [] := fun e => by rw [e] at hpos; simp at hpos
              by_cases hc : lineCode fs = 0
              · have HSL : Hid (lineP s line = match stepL s fs with | none => .bad 8 | some s' => .ok s') := hide (by rw [HLP.out, if_neg hne, if_neg (fun q => q hc)])
                have hcases := hide (line_cases hpos hc)
                have hcb : (lineCode fs != 0) = false := by rw [bne_eq_false_iff_eq]; exact hc
                clear HLP hc hne hz0
                generalize lineCode fs = cc at *
                obtain ⟨b3, o3, rfl, ⟨hb3L, hb3B⟩, -⟩ := HW3.out 0 (by simpa [strsV] using hpos)
                obtain ⟨p0, -⟩ := valCell HW3.out 0 hpos
                rw [Nat.add_zero] at p0
                have hdh : fs.headD [] = fs[0] := by cases fs with | nil => simp at hpos | cons x r => rfl
                have HDH := hide hdh
                have hts := strOf_toList fs[0]
                rw [hdh] at hcases
                have HST : Hid (stepL s fs = stepW s fs[0] fs) := hide (by unfold stepL; rw [hdh])
                clear hdh
                generalize hFF : fs[0] = F at *
                have HFF := hide hFF
                clear hFF
                have f1 := HI.out.f1
                have f0 := HI.out.f0
                obtain ⟨pre, cur⟩ := s
                cases cur with
                | none =>
                  obtain ⟨hvn, hbc⟩ := HI.out.st
                  have HBC := hide hbc
                  dsimp only at hvn
                  clear hbc
                  have hopn : vn = 0 ∨ ∃ m G kd, vn = m + 1 ∧ m ≤ 100000 ∧ va = some ⟨G, 0, none⟩ ∧ w3.cell? ⟨G, m * 6 + 2, none⟩ = some (.int .i64 kd) ∧ (kd == 0) = false ∧ G < w3.heap.size := by
                    rcases Nat.eq_zero_or_pos vn with h | h
                    · exact Or.inl h
                    · obtain ⟨cs, hcs⟩ := HBC.out.own
                      obtain ⟨G, cap0, e, hG1, hG2⟩ := hcs.form (by dsimp only; omega)
                      obtain ⟨rfl, -, -⟩ := Value.slice.inj e
                      obtain ⟨⟨L', B', _, _, _, pa, pc, ia, ic, _, _, ⟨t0, _⟩, _⟩, hkd⟩ := HBC.out.clo G rfl (vn - 1) (by dsimp only; omega)
                      exact Or.inr ⟨vn - 1, G, _, by omega, by omega, rfl, t0, by rw [beq_eq_false_iff_ne]; exact hkd, hG2⟩
                  by_cases hF : F = wBlock
                  · have wb : (F == [98, 108, 111, 99, 107]) = true := by rw [hF]; rfl
                    have wp : (F == [112, 104, 105]) = false := by rw [hF]; rfl
                    have HS' : Hid (lineP ⟨pre, none⟩ line = .ok ⟨pre, some ([], [])⟩) := hide (by rw [HSL.out, HST.out, show stepW ⟨pre, none⟩ F fs = some ⟨pre, some ([], [])⟩ by unfold stepW; rw [if_pos hF]])
                    clear hF HSL HST hcases HBAD
                    obtain ⟨cs, hcs⟩ := HBC.out.own
                    have hfz := HI.out.fz 1
                    have HAP : Hid (∀ t, (w3.alloc (.cells #[.slice none 0 0, .slice none 0 0, .int .i64 0, .int .i64 0, .int .i64 0, .int .i64 0] t)).ownsRow (F0 + 1) 46 6 (.slice va vn vc) vn cs) := hide (fun t => by rw [hvn]; exact ownKeep hcs (fun b e => (balloc (Below.refl w3.heap.size w3) _).block b (hcs.lt b e).2))
                    have HGW : Hid (∀ t g' cap' wN, wN.ownsRow (F0 + 1) 46 6 (.slice (some ⟨g', 0, none⟩) (vn + 1) cap') (vn + 1) (cs ++ [.slice none 0 0, .slice none 0 0, .int .i64 0, .int .i64 0, .int .i64 0, .int .i64 0]) → (w3.alloc (.cells #[.slice none 0 0, .slice none 0 0, .int .i64 0, .int .i64 0, .int .i64 0, .int .i64 0] t)).grownBy wN (Value.slice va vn vc).ownBlock → ((Value.slice va vn vc).ownBlock = some g' ∨ g' = w3.heap.size + 1) → wN.cell? ⟨F0, 1, none⟩ = some (.slice va vn vc) ∧ wN.frozen? ⟨F0, 1, none⟩ = false ∧ PInv w F0 V ls (some ⟨g, 0, none⟩) (w.heap.size + 1) w1.heap.size OUT (k + 1) ⟨pre, some ([], [])⟩ (some ⟨g', 0, none⟩) (vn + 1) cap' (wN.setCell ⟨F0, 1, none⟩ (.slice (some ⟨g', 0, none⟩) (vn + 1) cap'))) := hide (fun t g' cap' wN ho hg hat => by
                      have ba := balloc (Below.refl w3.heap.size w3) (.cells #[.slice none 0 0, .slice none 0 0, .int .i64 0, .int .i64 0, .int .i64 0, .int .i64 0] t)
                      have hgs := hg.size
                      rw [alloc_size'] at hgs
                      have ho' := hcs
                      have hcb := HBC.out.keep (w' := w3.alloc (.cells #[.slice none 0 0, .slice none 0 0, .int .i64 0, .int .i64 0, .int .i64 0, .int .i64 0] t)) (fun b _ h2 => ba.block b h2) (by rw [alloc_size']; omega)
                      have hcs' := HAP.out t
                      rw [hvn] at hcs' ho hg hat ⊢
                      have hbo := hcb.open_ hcs' ho hg (by rw [alloc_size']; exact hat)
                      have low : ∀ b, b < F0 + 1 → wN.heap[b]? = w3.heap[b]? := fun b hb => (hg.block b (by rw [alloc_size']; omega) (fun e => by have := (hcs'.lt b e.symm).1; omega)).trans (ba.block b (by omega))
                      have kF := low F0 (by omega)
                      have c1 := (cell_of (o := 1) kF).trans HI.out.f1
                      rw [hvn] at c1
                      have sm : ∀ b, b ≠ F0 → (wN.setCell ⟨F0, 1, none⟩ (.slice (some ⟨g', 0, none⟩) (pre.length + 1) cap')).heap[b]? = wN.heap[b]? := fun b hb => Below.heap_setCell _ _ _ _ hb
                      refine ⟨c1, (World.frozen?_of_block kF).trans (HI.out.fz 1), HNXT.out _ _ _ _ w3 _ HI.out ⟨hg.os, hg.tape, hg.output, by rw [size_setCell]; omega, fun b hb => (sm b (by omega)).trans (low b (by omega))⟩ (by rw [size_setCell]; omega) ?_ (World.cell?_setCell_same _ _ _ c1) (fun o => (World.frozen?_setCell _ _ _ _).trans ((World.frozen?_of_block kF).trans (HI.out.fz o))) ?_ HS'.out⟩
                      · exact (World.cell?_setCell_other _ _ _ _ (by intro e; injection e with _ e; omega)).trans ((cell_of kF).trans HI.out.f0)
                      · exact ⟨_, g', _, _, _, _, rfl, rfl, hbo.keep (fun b h1 h2 => sm b (by omega)) (by rw [size_setCell]; omega)⟩)
                    obtain ⟨i0, hi0, hz0, hz1, hz2⟩ := info_parts Tryz.infoBlk
                    rcases hopn with hv0 | ⟨m, G, kd, hvm, hm, hva, t0, hkd, hG⟩
                    · have hv00 := hv0
                      rw [hv0] at f1 HAP HGW
                      clear hv0 hvn HNXT
                      go_wp2_with (at_builtin; refine wpList_append_lies _ rfl _ _ 23 rfl (F0 + 1) 46 i0 (.agg #[.slice none 0 0, .slice none 0 0, .int .i64 0, .int .i64 0, .int .i64 0, .int .i64 0]) 6 80 Tryz.underlying23 hi0 hz0 hz1 hz2 rfl (by decide) (.slice va 0 vc) 0 cs (by simp [Act.eval]) (HAP.out _) ⟨w3.heap.size, 0, none⟩ 1 1 [.slice none 0 0, .slice none 0 0, .int .i64 0, .int .i64 0, .int .i64 0, .int .i64 0] (by simp [Act.eval]) rfl (World.news_of_block (heap_new' _ _)) (by intro u hu; simp at hu; rcases hu with rfl | rfl <;> rfl) (by decide) (by unfold maxLen; omega) (by omega) (by simp; omega) (w3.heap.size + 1) (by simp) ?_; intro g' cap' wN hown hgrow hat hlt2; obtain ⟨d1, dz, hpi⟩ := HGW.out _ _ _ _ hown hgrow hat; have HPI := hide hpi; clear hown hgrow hat hlt2 hpi)
                      exact ⟨⟨k + 1, _, _, _, _, by omega, by omega, by go_num, HPI⟩, by simp [intOf]; omega⟩
                    · rw [hvm] at f1 HAP HGW
                      rw [hva] at f1 HAP HGW
                      clear HNXT hvn
                      go_wp2_with (at_builtin; refine wpList_append_lies _ rfl _ _ 23 rfl (F0 + 1) 46 i0 (.agg #[.slice none 0 0, .slice none 0 0, .int .i64 0, .int .i64 0, .int .i64 0, .int .i64 0]) 6 80 Tryz.underlying23 hi0 hz0 hz1 hz2 rfl (by decide) (.slice (some ⟨G, 0, none⟩) (m + 1) vc) (m + 1) cs (by simp [Act.eval]) (HAP.out _) ⟨w3.heap.size, 0, none⟩ 1 1 [.slice none 0 0, .slice none 0 0, .int .i64 0, .int .i64 0, .int .i64 0, .int .i64 0] (by simp [Act.eval]) rfl (World.news_of_block (heap_new' _ _)) (by intro u hu; simp at hu; rcases hu with rfl | rfl <;> rfl) (by decide) (by unfold maxLen; omega) (by omega) (by simp; omega) (w3.heap.size + 1) (by simp) ?_; intro g' cap' wN hown hgrow hat hlt2; obtain ⟨d1, dz, hpi⟩ := HGW.out _ _ _ _ hown hgrow hat; have HPI := hide hpi; clear hown hgrow hat hlt2 hpi)
                      exact ⟨⟨k + 1, _, _, _, _, by omega, by omega, by go_num, HPI⟩, by simp [intOf]; omega⟩
                  · have HO : Hid (OUT = badP 8 (k + 1)) := hide (HBAD.out 8 (by rw [HSL.out, HST.out, show stepW ⟨pre, none⟩ F fs = none by unfold stepW; rw [if_neg hF]]))
                    have wb : (F == [98, 108, 111, 99, 107]) = false := by rw [beq_eq_false_iff_ne]; exact hF
                    clear hF HSL HST hcases HBAD HNXT HBC hvn
                    rcases hopn with hv0 | ⟨m, G, kd, hvm, hm, hva, t0, hkd, hG⟩
                    · subst hv0
                      go_wp2_with (go_at_call 12; refine (l1Refuse_any _ _ _).mono ?_; rintro e wx ⟨rfl, hbx⟩; have hix := HI.out.calm hbx; obtain ⟨⟨r0, r1, r2, r3⟩, rz⟩ := hix.rv; have HIX := hide hix; clear hbx hix)
                      exact bodyPost_ret (v := .agg #[.int .i64 8, .int .i64 ((k : Int) + 1), .int .i64 0, .slice none 0 0]) (by simp [results, Tryz.results4, go_sem, r0, r1, r2, r3]) rfl ⟨_, rfl, set4W_below HIX.out.below (Nat.le_refl _) _ _ _ _, by rw [HO.out]; exact pars_bad _ (k + 1) _ (by omega)⟩
                    · rw [hvm, hva] at f1
                      go_wp2_with (go_at_call 12; refine (l1Refuse_any _ _ _).mono ?_; rintro e wx ⟨rfl, hbx⟩; have hix := HI.out.calm hbx; obtain ⟨⟨r0, r1, r2, r3⟩, rz⟩ := hix.rv; have HIX := hide hix; clear hbx hix)
                      exact bodyPost_ret (v := .agg #[.int .i64 8, .int .i64 ((k : Int) + 1), .int .i64 0, .slice none 0 0]) (by simp [results, Tryz.results4, go_sem, r0, r1, r2, r3]) rfl ⟨_, rfl, set4W_below HIX.out.below (Nat.le_refl _) _ _ _ _, by rw [HO.out]; exact pars_bad _ (k + 1) _ (by omega)⟩
                | some pi =>
                  obtain ⟨ps, is⟩ := pi
                  obtain ⟨H, G, pa, pc, ia, ic, hva, hvn, hbo⟩ := HI.out.st
                  dsimp only at hvn hbo
                  have HBO := hide hbo
                  have o0 := hbo.c0
                  have o1 := hbo.c1
                  obtain ⟨t0, t1, t2, t3⟩ := hbo.ter
                  obtain ⟨⟨lG0, lG1⟩, lH1, lH2⟩ := hbo.lo
                  have hGl : G < w3.heap.size := by omega
                  have ozz := fun o => rowThaw hbo.own.choose_spec o
                  clear hbo
                  have HITOT : Hid (ps.length ≤ 100000 ∧ is.length ≤ 100000) := hide (by have h := HITOT0.out; have h2 := lens_take ls k; have h3 := HLS.out; simp only [pstTot] at h; omega)
                  rw [hvn] at hvb
                  generalize hm : pre.length = m at *
                  have HM := hide hm
                  clear hm
                  have hvm : vn = m + 1 := hvn
                  rw [hvm, hva] at f1
                  by_cases hF : F = wBlock
                  · have HO : Hid (OUT = badP 8 (k + 1)) := hide (HBAD.out 8 (by rw [HSL.out, HST.out, show stepW ⟨pre, some (ps, is)⟩ F fs = none by unfold stepW; rw [if_pos hF]]))
                    have wb : (F == [98, 108, 111, 99, 107]) = true := by rw [hF]; rfl
                    clear hF HSL HST hcases HBAD HNXT HBO
                    go_wp2_with (go_at_call 12; refine (l1Refuse_any _ _ _).mono ?_; rintro e wx ⟨rfl, hbx⟩; have hix := HI.out.calm hbx; obtain ⟨⟨r0, r1, r2, r3⟩, rz⟩ := hix.rv; have HIX := hide hix; clear hbx hix)
                    exact bodyPost_ret (v := .agg #[.int .i64 8, .int .i64 ((k : Int) + 1), .int .i64 0, .slice none 0 0]) (by simp [results, Tryz.results4, go_sem, r0, r1, r2, r3]) rfl ⟨_, rfl, set4W_below HIX.out.below (Nat.le_refl _) _ _ _ _, by rw [HO.out]; exact pars_bad _ (k + 1) _ (by omega)⟩
                  · have wb : (F == [98, 108, 111, 99, 107]) = false := by rw [beq_eq_false_iff_ne]; exact hF
                    by_cases hFp : F = wPhi
                    · have wp : (F == [112, 104, 105]) = true := by rw [hFp]; rfl
                      by_cases his : is = []
                      · subst his
                        have h3 : 3 ≤ fs.length := by
                          rcases hcases.out with ⟨h, -⟩ | ⟨-, h⟩ | ⟨-, -, -, h⟩ | ⟨-, -, -, -, h, -⟩
                          · exact absurd h hF
                          · exact h
                          · exact absurd hFp h
                          · exact absurd hFp h
                        have HS' : Hid (lineP ⟨pre, some (ps, [])⟩ line = .ok ⟨pre, some (ps ++ [readPhi fs], [])⟩) := hide (by rw [HSL.out, HST.out, show stepW ⟨pre, some (ps, [])⟩ F fs = some ⟨pre, some (ps ++ [readPhi fs], [])⟩ by unfold stepW; rw [if_neg hF]; dsimp only; rw [if_pos hFp, if_pos rfl]])
                        obtain ⟨p1, -⟩ := valCell HW3.out 1 (by omega)
                        have HPO : Hid (PhsOwn w3 H pa pc ps) := hide (by rcases HBO.out.rows with ⟨_, _, _, h⟩ | ⟨h, _⟩; exact h; exact absurd rfl h)
                        obtain ⟨cs, hcs⟩ := HPO.out.own
                        have HAP : Hid (∀ W, Below w3.heap.size w3 W → W.ownsRow H 49 2 (.slice pa ps.length pc) ps.length cs) := hide (fun W hb => ownKeep hcs (fun b e => hb.block b (hcs.lt b e).2))
                        have HRP : Hid ((readPhi fs).dst = idx fs[1] ∧ (readPhi fs).args = (fs.drop 2).map idx) := hide ⟨by show idx (fs.getD 1 []) = _; simp [show 1 < fs.length by omega], rfl⟩
                        have HCL : Hid (∀ W, Below w3.heap.size w3 W → W.cell? ⟨F0, 1, none⟩ = some (.slice (some ⟨G, 0, none⟩) (m + 1) vc) ∧ W.cell? ⟨G, m * 6, none⟩ = some (.slice pa ps.length pc)) := hide (fun W hb => ⟨(hb.cell (p := ⟨F0, 1, none⟩) (by show F0 < _; omega)).trans f1, (hb.cell (p := ⟨G, m * 6, none⟩) hGl).trans o0⟩)
                        have HGW : Hid (∀ W a c g' cap' wN, Below w3.heap.size w3 W → (∀ j (h : j < ((fs.drop 2).map idx).length), ∃ b o, a = some ⟨b, o, none⟩ ∧ (w3.heap.size ≤ b ∧ b < W.heap.size) ∧ W.cell? ⟨b, o + j, none⟩ = some (.int .i64 ((fs.drop 2).map idx)[j])) → wN.ownsRow H 49 2 (.slice (some ⟨g', 0, none⟩) (ps.length + 1) cap') (ps.length + 1) (cs ++ [.int .i64 (idx fs[1]), .slice a ((fs.drop 2).map idx).length c]) → W.grownBy wN (Value.slice pa ps.length pc).ownBlock → ((Value.slice pa ps.length pc).ownBlock = some g' ∨ g' = W.heap.size) → wN.cell? ⟨F0, 1, none⟩ = some (.slice (some ⟨G, 0, none⟩) (m + 1) vc) ∧ wN.cell? ⟨G, m * 6, none⟩ = some (.slice pa ps.length pc) ∧ (∀ o, wN.frozen? ⟨G, o, none⟩ = false) ∧ PInv w F0 V ls (some ⟨g, 0, none⟩) (w.heap.size + 1) w1.heap.size OUT (k + 1) ⟨pre, some (ps ++ [readPhi fs], [])⟩ (some ⟨G, 0, none⟩) (m + 1) vc (wN.setCell ⟨G, m * 6, none⟩ (.slice (some ⟨g', 0, none⟩) (ps.length + 1) cap'))) := hide (fun W a c g' cap' wN hb hargs ho hg hat => by
                          have hbs := hb.size
                          have hgs := hg.size
                          have hi := HI.out.calm hb
                          have hcs' := HAP.out W hb
                          have hbo := HBO.out.keep (w' := W) (fun b _ h2 => hb.block b h2) hbs
                          have hin := hbo.phi hcs' (readPhi fs) (a := a) (c := c) (by rw [HRP.out.2]; intro j hj; obtain ⟨b, o, e, q1, q2⟩ := hargs j hj; exact ⟨b, o, e, by omega, fun e2 => by have := (hcs.lt b e2.symm).2; omega, q2⟩) (by rw [HRP.out.1, HRP.out.2]; exact ho) hg hat
                          rw [HM.out] at hin
                          have low : ∀ b, b < H → wN.heap[b]? = W.heap[b]? := fun b h1 => hg.block b (by omega) (fun e => by have := (hcs'.lt b e.symm).1; omega)
                          have kG := (low G (by omega)).trans (hb.block G hGl)
                          have kF := low F0 (by omega)
                          have c1 := hi.f1
                          rw [hvm, hva] at c1
                          have far : ∀ b, b ≠ G → (wN.setCell ⟨G, m * 6, none⟩ (.slice (some ⟨g', 0, none⟩) (ps.length + 1) cap')).heap[b]? = wN.heap[b]? := fun b hb => Below.heap_setCell _ _ _ _ hb
                          have kF2 := (far F0 (by omega)).trans kF
                          refine ⟨(cell_of kF).trans c1, (cell_of kG).trans o0, fun o => (World.frozen?_of_block kG).trans (ozz o), HNXT.out _ _ _ _ W _ hi ⟨hg.os, hg.tape, hg.output, by rw [size_setCell]; exact hg.size, fun b hb => (far b (by omega)).trans (low b (by omega))⟩ (by rw [size_setCell]; omega) ((cell_of kF2).trans hi.f0) ((cell_of kF2).trans c1) (fun o => (World.frozen?_of_block kF2).trans (hi.fz o)) ⟨_, _, _, _, _, _, rfl, by show m + 1 = pre.length + 1; rw [HM.out], hin⟩ HS'.out⟩)
                        have HPL : Hid (ps.length ≤ 100000) := hide (by have := HITOT.out; omega)
                        have hpl := HPL.out
                        have nG1 : G ≠ F0 := by omega
                        have nG2 : F0 ≠ G := by omega
                        have hw1 : IntKind.i64.wrap ((m : Int) + 1 - 1) = m := by rw [IntKind.wrap_i64]; omega
                        have hw2 : IntKind.i64.wrap (m : Int) = m := by rw [IntKind.wrap_i64]; omega
                        have hw3 : (m : Int) < (m : Int) + 1 := by omega
                        obtain ⟨i0, hi0, hz0, hz1, hz2⟩ := info_parts Tryz.infoPhi
                        obtain ⟨j0, hj0, hy0, hy1, hy2⟩ := info_parts Tryz.info2
                        have HIX := fun (i : Nat) (h : i < fs.length) (w : World) => hide (l1Index_any fs[i] w)
                        have HCE : Hid (∀ W, Below w3.heap.size w3 W → ∀ i (h : i < fs.length), W.cell? ⟨b3, o3 + i, none⟩ = some (.string (strOf fs[i]))) := hide (fun W hb i h => (hb.cell (p := ⟨b3, o3 + i, none⟩) (by show b3 < _; omega)).trans (valCell HW3.out i h).1)
                        have hHs : H ≤ w3.heap.size := lH2
                        clear hF hFp HSL HST hcases HBAD HNXT HBO HS' HI HW3 hvn o0 ozz t1 t2 t3 hcs HPL HPO HRP
                        generalize hD : idx fs[1] = D at *
                        have HD := hide hD
                        clear hD
                        go_wp2_with fail
                        refine (HIX 1 (by omega) _).out.mono ?_
                        rintro e w4 ⟨rfl, hb4⟩
                        rw [HD.out]
                        have hs4 := hb4.size
                        have HAI : Hid (∀ t, Below w3.heap.size w3 (w4.alloc (.cells #[.int .i64 D, .slice none 0 0] t)) ∧ w4.heap.size < (w4.alloc (.cells #[.int .i64 D, .slice none 0 0] t)).heap.size ∧ (w4.alloc (.cells #[.int .i64 D, .slice none 0 0] t)).cell? ⟨w4.heap.size, 0, none⟩ = some (.int .i64 D) ∧ (w4.alloc (.cells #[.int .i64 D, .slice none 0 0] t)).cell? ⟨w4.heap.size, 1, none⟩ = some (.slice none 0 0) ∧ ∀ o, (w4.alloc (.cells #[.int .i64 D, .slice none 0 0] t)).frozen? ⟨w4.heap.size, o, none⟩ = false) := hide (fun t => ⟨balloc hb4 _, by simp, by simp [go_sem], by simp [go_sem], fun o => by simp [go_sem]⟩)
                        clear hb4
                        go_wp2
                        have HAI1 := hide (HAI.out 49)
                        clear HAI
                        generalize (w4.alloc (.cells #[.int .i64 D, .slice none 0 0] 49)) = wl at *
                        generalize hP : w4.heap.size = P at *
                        generalize wr = wo at *
                        go_loopw [12] (fun j wi => ∃ (q r : Nat) (av : Option Addr) (ac : Nat), q ≤ fs.length ∧ j = .int .i64 q ∧ Hid (q = r + 2) ∧ Hid ((Below w3.heap.size w3 wi ∧ P < wi.heap.size) ∧ wi.cell? ⟨P, 0, none⟩ = some (.int .i64 D) ∧ wi.cell? ⟨P, 1, none⟩ = some (.slice av r ac) ∧ (∀ o, wi.frozen? ⟨P, o, none⟩ = false) ∧ wi.ownsRow (P + 1) 2 1 (.slice av r ac) r ((((fs.drop 2).take r).map idx).map (Value.int .i64)))) (fun j _ => fs.length - (intOf j).toNat)
                        case atStart => exact ⟨2, 0, none, 0, by omega, rfl, hide rfl, hide ⟨⟨HAI1.out.1, HAI1.out.2.1⟩, HAI1.out.2.2.1, HAI1.out.2.2.2.1, HAI1.out.2.2.2.2, World.ownsRow_nil _ _ _ _⟩⟩
                        case round =>
                          obtain ⟨q, r, av, ac, hr, rfl, hqr, hai⟩ := hrel
                          have hr1 : r ≤ 100000 := by have := hqr.out; omega
                          generalize wr = wi at *
                          obtain ⟨⟨hbi, hPi⟩, a0, a1, az, ho⟩ := hai.out
                          have HBI := hide hbi
                          have HOW := hide ho
                          have hsi := hbi.size
                          have az1 := az 1
                          clear hai HAI1 ho
                          by_cases hrl : q < fs.length
                          · have cst := HCE.out wi hbi q hrl
                            have HIR := fun w => HIX q hrl w
                            have HSN : Hid ((((fs.drop 2).take (r + 1)).map idx).map (Value.int .i64) = (((fs.drop 2).take r).map idx).map (Value.int .i64) ++ [.int .i64 (idx fs[q])]) := hide (by
                              have hq := hqr.out
                              subst hq
                              have hd : r < (fs.drop 2).length := by rw [List.length_drop]; omega
                              have e : (fs.drop 2)[r]'hd = fs[r + 2] := by simp [Nat.add_comm]
                              rw [take_next _ _ hd, List.map_append, List.map_append]
                              simp only [List.map_cons, List.map_nil]
                              rw [e])
                            have hbs3 : b3 < wi.heap.size := by omega
                            have n3P : P ≠ b3 := by omega
                            clear hbi HCL HGW HAP
                            generalize hX : fs[q] = X at *
                            clear hX
                            generalize idx X = IX at *
                            go_wp2
                            refine wp_region_held_drew (S := (fun w' => w'.cell? ⟨b3, o3 + q, none⟩ = some (.string (strOf X)))) (by kernel_rfl) (by (try dsimp only); go_keep) (fun hHeld => ?_)
                            refine wpAnyH_take (i := 0) (v := ?_) rfl (by kernel_rfl) (by kernel_rfl) (by kernel_rfl) (fun _ _ _ h => h) (Or.inl ⟨by rfl, ?_⟩) (by assumption) ?_
                            rotate_left
                            · intro w hSw; (try dsimp only at hSw); go_simp; try with_reducible rfl
                            simp only [Act.put, List.getElem_toArray, List.getElem_cons_zero, List.setIfInBounds_toArray, List.set_cons_zero, List.set_cons_succ]
                            refine wpAnyH_take (i := 2) (v := ?_) rfl (by kernel_rfl) (by kernel_rfl) (by kernel_rfl) (fun _ _ _ h => h) (Or.inl ⟨by rfl, ?_⟩) (by assumption) ?_
                            rotate_left
                            · intro w hSw; (try dsimp only at hSw); go_simp; try with_reducible rfl
                            simp only [Act.put, List.getElem_toArray, List.getElem_cons_zero, List.getElem_cons_succ, List.setIfInBounds_toArray, List.set_cons_zero, List.set_cons_succ]
                            refine wpAnyH_take (i := 3) (v := ?_) rfl (by kernel_rfl) (by kernel_rfl) (by kernel_rfl) (fun _ _ _ h => h) (Or.inl ⟨by rfl, ?_⟩) (by assumption) ?_
                            rotate_left
                            · intro w hSw; (try dsimp only at hSw); go_simp; try with_reducible rfl
                            simp only [Act.put, List.getElem_toArray, List.getElem_cons_zero, List.getElem_cons_succ, List.setIfInBounds_toArray, List.set_cons_zero, List.set_cons_succ]
                            refine wpAnyH_take (i := 4) (v := ?_) rfl (by kernel_rfl) (by kernel_rfl) (by kernel_rfl) (fun _ _ _ h => h) (Or.inl ⟨by rfl, ?_⟩) (by assumption) ?_
                            rotate_left
                            · intro w hSw; (try dsimp only at hSw); go_simp; try with_reducible rfl
                            simp only [Act.put, List.getElem_toArray, List.getElem_cons_zero, List.getElem_cons_succ, List.setIfInBounds_toArray, List.set_cons_zero, List.set_cons_succ]
                            refine wpAnyH_take (i := 5) (v := ?_) rfl (by kernel_rfl) (by kernel_rfl) (by kernel_rfl) (fun _ _ _ h => h) (Or.inl ⟨by rfl, ?_⟩) (by assumption) ?_
                            rotate_left
                            · intro w hSw; (try dsimp only at hSw); go_simp; try with_reducible rfl
                            simp only [Act.put, List.getElem_toArray, List.getElem_cons_zero, List.getElem_cons_succ, List.setIfInBounds_toArray, List.set_cons_zero, List.set_cons_succ]
                            refine wpAnyH_ready (rs := [1, 6]) (by kernel_rfl) (by simp) ?_
                            refine (AllReadyH.cons rfl (fun K hK => ?_) (AllReadyH.cons rfl (fun K hK => ?_) AllReadyH.nil))
                            · skip
                              go_simp
                              refine hK.out _ _ (by first | with_reducible exact hHeld | ((try dsimp only); go_keep)) (fun hHeld => ?_)
                              clear hK
                              try simp only [Act.put, List.getElem_toArray, List.getElem_cons_zero, List.getElem_cons_succ, List.setIfInBounds_toArray, List.set_cons_zero, List.set_cons_succ]
                              refine wpAnyH_ready (rs := [6]) (by kernel_rfl) (by simp) ?_
                              refine AllReadyH.cons rfl (fun K hK => ?_) AllReadyH.nil
                              go_simp
                              refine (HIR _).out.mono ?_
                              rintro e w5 ⟨rfl, hb5⟩
                              have h5 := (Below.refl wi.heap.size wi).drew.trans hb5
                              have hs5 := h5.size
                              have k5 := (h5.cell (p := ⟨P, 1, none⟩) hPi).trans a1
                              have k5z := (h5.frozen (p := ⟨P, 1, none⟩) hPi).trans az1
                              have k5a := fun x => ((balloc (Below.refl w5.heap.size w5) x).cell (p := ⟨P, 1, none⟩) (by show P < _; omega)).trans k5
                              have s5 := (h5.cell (p := ⟨b3, o3 + q, none⟩) hbs3).trans cst
                              have HB5 := hide h5
                              clear hb5 h5
                              go_wp2_with fail
                              refine hK.out _ _ (by first | with_reducible exact hHeld | ((try dsimp only); go_keep)) (fun hHeld => ?_)
                              clear hK
                              try simp only [Act.put, List.getElem_toArray, List.getElem_cons_zero, List.getElem_cons_succ, List.setIfInBounds_toArray, List.set_cons_zero, List.set_cons_succ]
                              refine wpAnyH_ready (rs := [7]) (by kernel_rfl) (by simp) ?_
                              refine AllReadyH.cons rfl (fun K hK => ?_) AllReadyH.nil
                              go_simp
                              refine hK.out _ _ (by first | with_reducible exact hHeld | ((try dsimp only); go_keep)) (fun hHeld => ?_)
                              clear hK
                              try simp only [Act.put, List.getElem_toArray, List.getElem_cons_zero, List.getElem_cons_succ, List.setIfInBounds_toArray, List.set_cons_zero, List.set_cons_succ]
                              refine wpAnyH_ready (rs := [8]) (by kernel_rfl) (by simp) ?_
                              refine AllReadyH.cons rfl (fun K hK => ?_) AllReadyH.nil
                              refine step_append_lies _ rfl (.tmp 155) (.tmp 161) 47 rfl (P + 1) 2 j0 (.int .i64 0) 1 8 Tryz.underlying47 hj0 hy0 hy1 hy2 rfl (by decide) (.slice av r ac) r ((((fs.drop 2).take r).map idx).map (Value.int .i64)) (by simp [Act.eval]) (ownKeep HOW.out (fun b e => ((balloc HB5.out _).block b (HOW.out.lt b e).2))) ⟨w5.heap.size, 0, none⟩ 1 1 [.int .i64 IX] (by simp [Act.eval]) rfl (World.news_of_block (heap_new' _ _)) (by intro u hu; simp at hu; subst hu; rfl) (by decide) (by unfold maxLen; omega) (by omega) (by simp; omega) (w5.heap.size + 1) (by simp) ?_
                              intro g' cap' wN hown hgrow hat hlt2
                              have hgs := hgrow.size
                              simp at hgs
                              have low : ∀ b, b < P + 1 → wN.heap[b]? = wi.heap[b]? := fun b hb => (hgrow.block b (by simp; omega) (fun e => by have := (HOW.out.lt b e.symm).1; omega)).trans ((balloc HB5.out _).block b (by omega))
                              have kP := low P (by omega)
                              have d1 := (cell_of (o := 1) kP).trans a1
                              have d0 := (cell_of (o := 0) kP).trans a0
                              have dz := fun o => (World.frozen?_of_block (a := ⟨P, o, none⟩) kP).trans (az o)
                              have dst := (cell_of (o := o3 + q) (low b3 (by omega))).trans cst
                              have hown2 := hown
                              rw [← HSN.out] at hown2
                              have HNI := hide (show (Below w3.heap.size w3 (wN.setCell ⟨P, 1, none⟩ (.slice (some ⟨g', 0, none⟩) (r + 1) cap')) ∧ P < (wN.setCell ⟨P, 1, none⟩ (.slice (some ⟨g', 0, none⟩) (r + 1) cap')).heap.size) ∧ (wN.setCell ⟨P, 1, none⟩ (.slice (some ⟨g', 0, none⟩) (r + 1) cap')).cell? ⟨P, 0, none⟩ = some (.int .i64 D) ∧ (wN.setCell ⟨P, 1, none⟩ (.slice (some ⟨g', 0, none⟩) (r + 1) cap')).cell? ⟨P, 1, none⟩ = some (.slice (some ⟨g', 0, none⟩) (r + 1) cap') ∧ (∀ o, (wN.setCell ⟨P, 1, none⟩ (.slice (some ⟨g', 0, none⟩) (r + 1) cap')).frozen? ⟨P, o, none⟩ = false) ∧ (wN.setCell ⟨P, 1, none⟩ (.slice (some ⟨g', 0, none⟩) (r + 1) cap')).ownsRow (P + 1) 2 1 (.slice (some ⟨g', 0, none⟩) (r + 1) cap') (r + 1) ((((fs.drop 2).take (r + 1)).map idx).map (Value.int .i64)) from ⟨⟨(HBI.out.trans ⟨hgrow.os.trans HB5.out.os, hgrow.tape.trans HB5.out.tape, hgrow.output.trans HB5.out.output, by omega, fun b hb => low b (by omega)⟩).setCell (by show w3.heap.size ≤ P; omega) _, by rw [size_setCell]; omega⟩, (World.cell?_setCell_other _ _ _ _ (by intro e; injection e with _ e; omega)).trans d0, World.cell?_setCell_same _ _ _ d1, fun o => (World.frozen?_setCell _ _ _ _).trans (dz o), ownKeep hown2 (fun b e => Below.heap_setCell _ _ _ _ (by have := (hown.lt b e).1; show b ≠ P; omega))⟩)
                              have dz1 := dz 1
                              clear hown hown2 hgrow hat hlt2 low kP d0 dz
                              refine hK.out _ _ (by first | with_reducible exact hHeld | ((try dsimp only); go_keep)) (fun hHeld => ?_)
                              clear hK
                              try simp only [Act.put, List.getElem_toArray, List.getElem_cons_zero, List.getElem_cons_succ, List.setIfInBounds_toArray, List.set_cons_zero, List.set_cons_succ]
                              refine wpAnyH_take (i := 9) (v := ?_) rfl (by kernel_rfl) (by kernel_rfl) (by kernel_rfl) (fun _ _ _ h => h) (Or.inl ⟨by rfl, ?_⟩) (by assumption) ?_
                              rotate_left
                              · intro w hSw; (try dsimp only at hSw); go_simp; try with_reducible rfl
                              simp only [Act.put, List.getElem_toArray, List.getElem_cons_zero, List.getElem_cons_succ, List.setIfInBounds_toArray, List.set_cons_zero, List.set_cons_succ]
                              refine wpAnyH_ready (rs := [10]) (by kernel_rfl) (by simp) ?_
                              refine AllReadyH.cons rfl (fun K hK => ?_) AllReadyH.nil
                              go_simp
                              refine hK.out _ _ (by first | with_reducible exact hHeld | ((try dsimp only); go_keep)) (fun hHeld => ?_)
                              clear hK
                              try simp only [Act.put, List.getElem_toArray, List.getElem_cons_zero, List.getElem_cons_succ, List.setIfInBounds_toArray, List.set_cons_zero, List.set_cons_succ]
                              refine wpAnyH_done (by kernel_rfl) ?_ _
                              go_wp2
                              exact ⟨⟨q + 1, r + 1, _, _, by omega, by go_num, hide (by have := hqr.out; omega), HNI⟩, by simp [intOf]; omega⟩
                            · skip
                              go_simp
                              refine (HIR _).out.mono ?_
                              rintro e w5 ⟨rfl, hb5⟩
                              have h5 := (Below.refl wi.heap.size wi).drew.trans hb5
                              have hs5 := h5.size
                              have k5 := (h5.cell (p := ⟨P, 1, none⟩) hPi).trans a1
                              have k5z := (h5.frozen (p := ⟨P, 1, none⟩) hPi).trans az1
                              have k5a := fun x => ((balloc (Below.refl w5.heap.size w5) x).cell (p := ⟨P, 1, none⟩) (by show P < _; omega)).trans k5
                              have s5 := (h5.cell (p := ⟨b3, o3 + q, none⟩) hbs3).trans cst
                              have HB5 := hide h5
                              clear hb5 h5
                              go_wp2_with fail
                              refine hK.out _ _ (by first | with_reducible exact hHeld | ((try dsimp only); go_keep)) (fun hHeld => ?_)
                              clear hK
                              try simp only [Act.put, List.getElem_toArray, List.getElem_cons_zero, List.getElem_cons_succ, List.setIfInBounds_toArray, List.set_cons_zero, List.set_cons_succ]
                              refine wpAnyH_ready (rs := [1, 7]) (by kernel_rfl) (by simp) ?_
                              refine (AllReadyH.cons rfl (fun K hK => ?_) (AllReadyH.cons rfl (fun K hK => ?_) AllReadyH.nil))
                              · skip
                                go_simp
                                refine hK.out _ _ (by first | with_reducible exact hHeld | ((try dsimp only); go_keep)) (fun hHeld => ?_)
                                clear hK
                                try simp only [Act.put, List.getElem_toArray, List.getElem_cons_zero, List.getElem_cons_succ, List.setIfInBounds_toArray, List.set_cons_zero, List.set_cons_succ]
                                refine wpAnyH_ready (rs := [7]) (by kernel_rfl) (by simp) ?_
                                refine AllReadyH.cons rfl (fun K hK => ?_) AllReadyH.nil
                                go_simp
                                refine hK.out _ _ (by first | with_reducible exact hHeld | ((try dsimp only); go_keep)) (fun hHeld => ?_)
                                clear hK
                                try simp only [Act.put, List.getElem_toArray, List.getElem_cons_zero, List.getElem_cons_succ, List.setIfInBounds_toArray, List.set_cons_zero, List.set_cons_succ]
                                refine wpAnyH_ready (rs := [8]) (by kernel_rfl) (by simp) ?_
                                refine AllReadyH.cons rfl (fun K hK => ?_) AllReadyH.nil
                                refine step_append_lies _ rfl (.tmp 155) (.tmp 161) 47 rfl (P + 1) 2 j0 (.int .i64 0) 1 8 Tryz.underlying47 hj0 hy0 hy1 hy2 rfl (by decide) (.slice av r ac) r ((((fs.drop 2).take r).map idx).map (Value.int .i64)) (by simp [Act.eval]) (ownKeep HOW.out (fun b e => ((balloc HB5.out _).block b (HOW.out.lt b e).2))) ⟨w5.heap.size, 0, none⟩ 1 1 [.int .i64 IX] (by simp [Act.eval]) rfl (World.news_of_block (heap_new' _ _)) (by intro u hu; simp at hu; subst hu; rfl) (by decide) (by unfold maxLen; omega) (by omega) (by simp; omega) (w5.heap.size + 1) (by simp) ?_
                                intro g' cap' wN hown hgrow hat hlt2
                                have hgs := hgrow.size
                                simp at hgs
                                have low : ∀ b, b < P + 1 → wN.heap[b]? = wi.heap[b]? := fun b hb => (hgrow.block b (by simp; omega) (fun e => by have := (HOW.out.lt b e.symm).1; omega)).trans ((balloc HB5.out _).block b (by omega))
                                have kP := low P (by omega)
                                have d1 := (cell_of (o := 1) kP).trans a1
                                have d0 := (cell_of (o := 0) kP).trans a0
                                have dz := fun o => (World.frozen?_of_block (a := ⟨P, o, none⟩) kP).trans (az o)
                                have dst := (cell_of (o := o3 + q) (low b3 (by omega))).trans cst
                                have hown2 := hown
                                rw [← HSN.out] at hown2
                                have HNI := hide (show (Below w3.heap.size w3 (wN.setCell ⟨P, 1, none⟩ (.slice (some ⟨g', 0, none⟩) (r + 1) cap')) ∧ P < (wN.setCell ⟨P, 1, none⟩ (.slice (some ⟨g', 0, none⟩) (r + 1) cap')).heap.size) ∧ (wN.setCell ⟨P, 1, none⟩ (.slice (some ⟨g', 0, none⟩) (r + 1) cap')).cell? ⟨P, 0, none⟩ = some (.int .i64 D) ∧ (wN.setCell ⟨P, 1, none⟩ (.slice (some ⟨g', 0, none⟩) (r + 1) cap')).cell? ⟨P, 1, none⟩ = some (.slice (some ⟨g', 0, none⟩) (r + 1) cap') ∧ (∀ o, (wN.setCell ⟨P, 1, none⟩ (.slice (some ⟨g', 0, none⟩) (r + 1) cap')).frozen? ⟨P, o, none⟩ = false) ∧ (wN.setCell ⟨P, 1, none⟩ (.slice (some ⟨g', 0, none⟩) (r + 1) cap')).ownsRow (P + 1) 2 1 (.slice (some ⟨g', 0, none⟩) (r + 1) cap') (r + 1) ((((fs.drop 2).take (r + 1)).map idx).map (Value.int .i64)) from ⟨⟨(HBI.out.trans ⟨hgrow.os.trans HB5.out.os, hgrow.tape.trans HB5.out.tape, hgrow.output.trans HB5.out.output, by omega, fun b hb => low b (by omega)⟩).setCell (by show w3.heap.size ≤ P; omega) _, by rw [size_setCell]; omega⟩, (World.cell?_setCell_other _ _ _ _ (by intro e; injection e with _ e; omega)).trans d0, World.cell?_setCell_same _ _ _ d1, fun o => (World.frozen?_setCell _ _ _ _).trans (dz o), ownKeep hown2 (fun b e => Below.heap_setCell _ _ _ _ (by have := (hown.lt b e).1; show b ≠ P; omega))⟩)
                                have dz1 := dz 1
                                clear hown hown2 hgrow hat hlt2 low kP d0 dz
                                refine hK.out _ _ (by first | with_reducible exact hHeld | ((try dsimp only); go_keep)) (fun hHeld => ?_)
                                clear hK
                                try simp only [Act.put, List.getElem_toArray, List.getElem_cons_zero, List.getElem_cons_succ, List.setIfInBounds_toArray, List.set_cons_zero, List.set_cons_succ]
                                refine wpAnyH_take (i := 9) (v := ?_) rfl (by kernel_rfl) (by kernel_rfl) (by kernel_rfl) (fun _ _ _ h => h) (Or.inl ⟨by rfl, ?_⟩) (by assumption) ?_
                                rotate_left
                                · intro w hSw; (try dsimp only at hSw); go_simp; try with_reducible rfl
                                simp only [Act.put, List.getElem_toArray, List.getElem_cons_zero, List.getElem_cons_succ, List.setIfInBounds_toArray, List.set_cons_zero, List.set_cons_succ]
                                refine wpAnyH_ready (rs := [10]) (by kernel_rfl) (by simp) ?_
                                refine AllReadyH.cons rfl (fun K hK => ?_) AllReadyH.nil
                                go_simp
                                refine hK.out _ _ (by first | with_reducible exact hHeld | ((try dsimp only); go_keep)) (fun hHeld => ?_)
                                clear hK
                                try simp only [Act.put, List.getElem_toArray, List.getElem_cons_zero, List.getElem_cons_succ, List.setIfInBounds_toArray, List.set_cons_zero, List.set_cons_succ]
                                refine wpAnyH_done (by kernel_rfl) ?_ _
                                go_wp2
                                exact ⟨⟨q + 1, r + 1, _, _, by omega, by go_num, hide (by have := hqr.out; omega), HNI⟩, by simp [intOf]; omega⟩
                              · skip
                                go_simp
                                refine hK.out _ _ (by first | with_reducible exact hHeld | ((try dsimp only); go_keep)) (fun hHeld => ?_)
                                clear hK
                                try simp only [Act.put, List.getElem_toArray, List.getElem_cons_zero, List.getElem_cons_succ, List.setIfInBounds_toArray, List.set_cons_zero, List.set_cons_succ]
                                refine wpAnyH_ready (rs := [1]) (by kernel_rfl) (by simp) ?_
                                refine AllReadyH.cons rfl (fun K hK => ?_) AllReadyH.nil
                                go_simp
                                refine hK.out _ _ (by first | with_reducible exact hHeld | ((try dsimp only); go_keep)) (fun hHeld => ?_)
                                clear hK
                                try simp only [Act.put, List.getElem_toArray, List.getElem_cons_zero, List.getElem_cons_succ, List.setIfInBounds_toArray, List.set_cons_zero, List.set_cons_succ]
                                refine wpAnyH_ready (rs := [8]) (by kernel_rfl) (by simp) ?_
                                refine AllReadyH.cons rfl (fun K hK => ?_) AllReadyH.nil
                                refine step_append_lies _ rfl (.tmp 155) (.tmp 161) 47 rfl (P + 1) 2 j0 (.int .i64 0) 1 8 Tryz.underlying47 hj0 hy0 hy1 hy2 rfl (by decide) (.slice av r ac) r ((((fs.drop 2).take r).map idx).map (Value.int .i64)) (by simp [Act.eval]) (ownKeep HOW.out (fun b e => ((balloc HB5.out _).block b (HOW.out.lt b e).2))) ⟨w5.heap.size, 0, none⟩ 1 1 [.int .i64 IX] (by simp [Act.eval]) rfl (World.news_of_block (heap_new' _ _)) (by intro u hu; simp at hu; subst hu; rfl) (by decide) (by unfold maxLen; omega) (by omega) (by simp; omega) (w5.heap.size + 1) (by simp) ?_
                                intro g' cap' wN hown hgrow hat hlt2
                                have hgs := hgrow.size
                                simp at hgs
                                have low : ∀ b, b < P + 1 → wN.heap[b]? = wi.heap[b]? := fun b hb => (hgrow.block b (by simp; omega) (fun e => by have := (HOW.out.lt b e.symm).1; omega)).trans ((balloc HB5.out _).block b (by omega))
                                have kP := low P (by omega)
                                have d1 := (cell_of (o := 1) kP).trans a1
                                have d0 := (cell_of (o := 0) kP).trans a0
                                have dz := fun o => (World.frozen?_of_block (a := ⟨P, o, none⟩) kP).trans (az o)
                                have dst := (cell_of (o := o3 + q) (low b3 (by omega))).trans cst
                                have hown2 := hown
                                rw [← HSN.out] at hown2
                                have HNI := hide (show (Below w3.heap.size w3 (wN.setCell ⟨P, 1, none⟩ (.slice (some ⟨g', 0, none⟩) (r + 1) cap')) ∧ P < (wN.setCell ⟨P, 1, none⟩ (.slice (some ⟨g', 0, none⟩) (r + 1) cap')).heap.size) ∧ (wN.setCell ⟨P, 1, none⟩ (.slice (some ⟨g', 0, none⟩) (r + 1) cap')).cell? ⟨P, 0, none⟩ = some (.int .i64 D) ∧ (wN.setCell ⟨P, 1, none⟩ (.slice (some ⟨g', 0, none⟩) (r + 1) cap')).cell? ⟨P, 1, none⟩ = some (.slice (some ⟨g', 0, none⟩) (r + 1) cap') ∧ (∀ o, (wN.setCell ⟨P, 1, none⟩ (.slice (some ⟨g', 0, none⟩) (r + 1) cap')).frozen? ⟨P, o, none⟩ = false) ∧ (wN.setCell ⟨P, 1, none⟩ (.slice (some ⟨g', 0, none⟩) (r + 1) cap')).ownsRow (P + 1) 2 1 (.slice (some ⟨g', 0, none⟩) (r + 1) cap') (r + 1) ((((fs.drop 2).take (r + 1)).map idx).map (Value.int .i64)) from ⟨⟨(HBI.out.trans ⟨hgrow.os.trans HB5.out.os, hgrow.tape.trans HB5.out.tape, hgrow.output.trans HB5.out.output, by omega, fun b hb => low b (by omega)⟩).setCell (by show w3.heap.size ≤ P; omega) _, by rw [size_setCell]; omega⟩, (World.cell?_setCell_other _ _ _ _ (by intro e; injection e with _ e; omega)).trans d0, World.cell?_setCell_same _ _ _ d1, fun o => (World.frozen?_setCell _ _ _ _).trans (dz o), ownKeep hown2 (fun b e => Below.heap_setCell _ _ _ _ (by have := (hown.lt b e).1; show b ≠ P; omega))⟩)
                                have dz1 := dz 1
                                clear hown hown2 hgrow hat hlt2 low kP d0 dz
                                refine hK.out _ _ (by first | with_reducible exact hHeld | ((try dsimp only); go_keep)) (fun hHeld => ?_)
                                clear hK
                                try simp only [Act.put, List.getElem_toArray, List.getElem_cons_zero, List.getElem_cons_succ, List.setIfInBounds_toArray, List.set_cons_zero, List.set_cons_succ]
                                refine wpAnyH_take (i := 9) (v := ?_) rfl (by kernel_rfl) (by kernel_rfl) (by kernel_rfl) (fun _ _ _ h => h) (Or.inl ⟨by rfl, ?_⟩) (by assumption) ?_
                                rotate_left
                                · intro w hSw; (try dsimp only at hSw); go_simp; try with_reducible rfl
                                simp only [Act.put, List.getElem_toArray, List.getElem_cons_zero, List.getElem_cons_succ, List.setIfInBounds_toArray, List.set_cons_zero, List.set_cons_succ]
                                refine wpAnyH_ready (rs := [10]) (by kernel_rfl) (by simp) ?_
                                refine AllReadyH.cons rfl (fun K hK => ?_) AllReadyH.nil
                                go_simp
                                refine hK.out _ _ (by first | with_reducible exact hHeld | ((try dsimp only); go_keep)) (fun hHeld => ?_)
                                clear hK
                                try simp only [Act.put, List.getElem_toArray, List.getElem_cons_zero, List.getElem_cons_succ, List.setIfInBounds_toArray, List.set_cons_zero, List.set_cons_succ]
                                refine wpAnyH_done (by kernel_rfl) ?_ _
                                go_wp2
                                exact ⟨⟨q + 1, r + 1, _, _, by omega, by go_num, hide (by have := hqr.out; omega), HNI⟩, by simp [intOf]; omega⟩
                          · have hre : fs.length = r + 2 := by have := hqr.out; omega
                            have HLR : Hid ((fs.drop 2).map idx = ((fs.drop 2).take r).map idx) := hide (by rw [List.take_of_length_le (by rw [List.length_drop]; omega)])
                            have hlr : ((fs.drop 2).map idx).length = r := by rw [List.length_map, List.length_drop]; omega
                            have HAR : Hid (∀ W, Below wi.heap.size wi W → ∀ j (h : j < ((fs.drop 2).map idx).length), ∃ b o, av = some ⟨b, o, none⟩ ∧ (w3.heap.size ≤ b ∧ b < W.heap.size) ∧ W.cell? ⟨b, o + j, none⟩ = some (.int .i64 ((fs.drop 2).map idx)[j])) := hide (fun W hb j h => by
                              have hbs := hb.size
                              obtain ⟨gg, cc2, e, q1, q2⟩ := HOW.out.form (by omega)
                              obtain ⟨rfl, -, rfl⟩ := Value.slice.inj e
                              refine ⟨gg, 0, rfl, by omega, ?_⟩
                              have hj2 : j < ((((fs.drop 2).take r).map idx).map (Value.int .i64)).length := by rw [List.length_map, ← HLR.out]; exact h
                              have hc := rowCell HOW.out hj2
                              rw [Nat.zero_add, hb.cell (p := ⟨gg, j, none⟩) q2, hc]
                              congr 1
                              rw [List.getElem_map]
                              congr 1
                              exact (List.getElem_of_eq HLR.out h).symm)
                            have HLR2 := hide hlr
                            have c4 := HCL.out wi hbi
                            have c41 := c4.1
                            have c42 := c4.2
                            have c42a := fun x => ((balloc (Below.refl wi.heap.size wi) x).cell (p := ⟨G, m * 6, none⟩) (by show G < _; omega)).trans c42
                            have HBA := fun x => hide (balloc HBI.out x)
                            have HBW := fun x => hide (balloc (Below.refl wi.heap.size wi) x)
                            have nGP : G ≠ P := by omega
                            have nPG : P ≠ G := by omega
                            clear hbi c4 HIX HCE HLR hre hlr
                            generalize ps.length = pl at *
                            go_wp2
                            refine wp_region_held_drew (S := (fun w' => w'.cell? ⟨F0, 1, none⟩ = some (.slice (some ⟨G, 0, none⟩) (m + 1) vc) ∧ w'.cell? ⟨P, 0, none⟩ = some (.int .i64 D) ∧ w'.cell? ⟨P, 1, none⟩ = some (.slice av r ac))) (by kernel_rfl) (by (try dsimp only); go_keep) (fun hHeld => ?_)
                            refine wpAnyH_take (i := 0) (v := ?_) rfl (by kernel_rfl) (by kernel_rfl) (by kernel_rfl) (fun _ _ _ h => h) (Or.inl ⟨by rfl, ?_⟩) (by assumption) ?_
                            rotate_left
                            · intro w hSw; (try dsimp only at hSw); go_simp; try with_reducible rfl
                            simp only [Act.put, List.getElem_toArray, List.getElem_cons_zero, List.setIfInBounds_toArray, List.set_cons_zero, List.set_cons_succ]
                            refine wpAnyH_take (i := 1) (v := ?_) rfl (by kernel_rfl) (by kernel_rfl) (by kernel_rfl) (fun _ _ _ h => h) (Or.inl ⟨by rfl, ?_⟩) (by assumption) ?_
                            rotate_left
                            · intro w hSw; (try dsimp only at hSw); go_simp; try with_reducible rfl
                            simp only [Act.put, List.getElem_toArray, List.getElem_cons_zero, List.getElem_cons_succ, List.setIfInBounds_toArray, List.set_cons_zero, List.set_cons_succ]
                            refine wpAnyH_take (i := 2) (v := ?_) rfl (by kernel_rfl) (by kernel_rfl) (by kernel_rfl) (fun _ _ _ h => h) (Or.inl ⟨by rfl, ?_⟩) (by assumption) ?_
                            rotate_left
                            · intro w hSw; (try dsimp only at hSw); go_simp; try with_reducible rfl
                            simp only [Act.put, List.getElem_toArray, List.getElem_cons_zero, List.getElem_cons_succ, List.setIfInBounds_toArray, List.set_cons_zero, List.set_cons_succ]
                            refine wpAnyH_take (i := 3) (v := ?_) rfl (by kernel_rfl) (by kernel_rfl) (by kernel_rfl) (fun _ _ _ h => h) (Or.inl ⟨by rfl, ?_⟩) (by assumption) ?_
                            rotate_left
                            · intro w hSw; (try dsimp only at hSw); go_simp; try with_reducible rfl
                            simp only [Act.put, List.getElem_toArray, List.getElem_cons_zero, List.getElem_cons_succ, List.setIfInBounds_toArray, List.set_cons_zero, List.set_cons_succ]
                            refine wpAnyH_take (i := 4) (v := ?_) rfl (by kernel_rfl) (by kernel_rfl) (by kernel_rfl) (fun _ _ _ h => h) (Or.inl ⟨by rfl, ?_⟩) (by assumption) ?_
                            rotate_left
                            · intro w hSw; (try dsimp only at hSw); go_simp; try with_reducible rfl
                            simp only [Act.put, List.getElem_toArray, List.getElem_cons_zero, List.getElem_cons_succ, List.setIfInBounds_toArray, List.set_cons_zero, List.set_cons_succ]
                            refine wpAnyH_take (i := 5) (v := ?_) rfl (by kernel_rfl) (by kernel_rfl) (by kernel_rfl) (fun _ _ _ h => h) (Or.inl ⟨by rfl, ?_⟩) (by assumption) ?_
                            rotate_left
                            · intro w hSw; (try dsimp only at hSw); go_simp; try with_reducible rfl
                            simp only [Act.put, List.getElem_toArray, List.getElem_cons_zero, List.getElem_cons_succ, List.setIfInBounds_toArray, List.set_cons_zero, List.set_cons_succ]
                            refine wpAnyH_take (i := 6) (v := ?_) rfl (by kernel_rfl) (by kernel_rfl) (by kernel_rfl) (fun _ _ _ h => h) (Or.inl ⟨by rfl, ?_⟩) (by assumption) ?_
                            rotate_left
                            · intro w hSw; (try dsimp only at hSw); go_simp; try with_reducible rfl
                            simp only [Act.put, List.getElem_toArray, List.getElem_cons_zero, List.getElem_cons_succ, List.setIfInBounds_toArray, List.set_cons_zero, List.set_cons_succ]
                            refine wpAnyH_take (i := 7) (v := ?_) rfl (by kernel_rfl) (by kernel_rfl) (by kernel_rfl) (fun _ _ _ h => h) (Or.inl ⟨by rfl, ?_⟩) (by assumption) ?_
                            rotate_left
                            · intro w hSw; (try dsimp only at hSw); go_simp; try with_reducible rfl
                            simp only [Act.put, List.getElem_toArray, List.getElem_cons_zero, List.getElem_cons_succ, List.setIfInBounds_toArray, List.set_cons_zero, List.set_cons_succ]
                            refine wpAnyH_take (i := 8) (v := ?_) rfl (by kernel_rfl) (by kernel_rfl) (by kernel_rfl) (fun _ _ _ h => h) (Or.inl ⟨by rfl, ?_⟩) (by assumption) ?_
                            rotate_left
                            · intro w hSw; (try dsimp only at hSw); go_simp; try with_reducible rfl
                            simp only [Act.put, List.getElem_toArray, List.getElem_cons_zero, List.getElem_cons_succ, List.setIfInBounds_toArray, List.set_cons_zero, List.set_cons_succ]
                            refine wpAnyH_take (i := 9) (v := ?_) rfl (by kernel_rfl) (by kernel_rfl) (by kernel_rfl) (fun _ _ _ h => h) (Or.inl ⟨by rfl, ?_⟩) (by assumption) ?_
                            rotate_left
                            · intro w hSw; (try dsimp only at hSw); go_simp; try with_reducible rfl
                            simp only [Act.put, List.getElem_toArray, List.getElem_cons_zero, List.getElem_cons_succ, List.setIfInBounds_toArray, List.set_cons_zero, List.set_cons_succ]
                            refine wpAnyH_take (i := 11) (v := ?_) rfl (by kernel_rfl) (by kernel_rfl) (by kernel_rfl) (fun _ _ _ h => h) (Or.inl ⟨by rfl, ?_⟩) (by assumption) ?_
                            rotate_left
                            · intro w hSw; (try dsimp only at hSw); go_simp; try with_reducible rfl
                            simp only [Act.put, List.getElem_toArray, List.getElem_cons_zero, List.getElem_cons_succ, List.setIfInBounds_toArray, List.set_cons_zero, List.set_cons_succ]
                            refine wpAnyH_ready (rs := [10, 12]) (by kernel_rfl) (by simp) ?_
                            refine (AllReadyH.cons rfl (fun K hK => ?_) (AllReadyH.cons rfl (fun K hK => ?_) AllReadyH.nil))
                            · skip
                              go_simp
                              refine hK.out _ _ (by first | with_reducible exact hHeld | ((try dsimp only); go_keep)) (fun hHeld => ?_)
                              clear hK
                              try simp only [Act.put, List.getElem_toArray, List.getElem_cons_zero, List.getElem_cons_succ, List.setIfInBounds_toArray, List.set_cons_zero, List.set_cons_succ]
                              refine wpAnyH_ready (rs := [12]) (by kernel_rfl) (by simp) ?_
                              refine AllReadyH.cons rfl (fun K hK => ?_) AllReadyH.nil
                              go_simp
                              refine hK.out _ _ (by first | with_reducible exact hHeld | ((try dsimp only); go_keep)) (fun hHeld => ?_)
                              clear hK
                              try simp only [Act.put, List.getElem_toArray, List.getElem_cons_zero, List.getElem_cons_succ, List.setIfInBounds_toArray, List.set_cons_zero, List.set_cons_succ]
                              refine wpAnyH_ready (rs := [13]) (by kernel_rfl) (by simp) ?_
                              refine AllReadyH.cons rfl (fun K hK => ?_) AllReadyH.nil
                              refine step_append_lies _ rfl (.tmp 174) (.tmp 176) 43 rfl H 49 i0 (.agg #[.int .i64 0, .slice none 0 0]) 2 32 Tryz.underlying43 hi0 hz0 hz1 hz2 rfl (by decide) (.slice pa pl pc) pl cs (by simp [Act.eval]) (HAP.out _ (HBA _).out.drew) ⟨wi.heap.size, 0, none⟩ 1 1 [.int .i64 D, .slice av r ac] (by simp [Act.eval]) rfl (World.news_of_block (heap_new' _ _)) (by intro u hu; simp at hu; rcases hu with rfl | rfl <;> rfl) (by decide) (by unfold maxLen; omega) (by omega) (by simp; omega) (wi.heap.size + 1) (by simp) ?_
                              intro g' cap' wN hown hgrow hat hlt2
                              obtain ⟨d1, d2, dz, hpi⟩ := HGW.out _ av ac _ _ _ (HBA _).out.drew (HAR.out _ (HBW _).out.drew) (by rw [HLR2.out]; exact hown) hgrow (by rw [show ∀ (U : World), U.drew.heap.size = U.heap.size from fun _ => rfl, alloc_size']; exact hat)
                              have hgs := hgrow.size
                              simp at hgs
                              have kP := (hgrow.block P (by simp; omega) (fun e => by have := ((HAP.out w3 (Below.refl _ _)).lt P e.symm).2; omega)).trans ((balloc (Below.refl wi.heap.size wi) _).block P hPi)
                              have e0 := (cell_of (o := 0) kP).trans a0
                              have e1 := (cell_of (o := 1) kP).trans a1
                              have HPI := hide hpi
                              have dz0 := dz (m * 6)
                              clear hown hgrow hat hlt2 hpi kP dz
                              refine hK.out _ _ (by first | with_reducible exact hHeld | ((try dsimp only); go_keep)) (fun hHeld => ?_)
                              clear hK
                              try simp only [Act.put, List.getElem_toArray, List.getElem_cons_zero, List.getElem_cons_succ, List.setIfInBounds_toArray, List.set_cons_zero, List.set_cons_succ]
                              refine wpAnyH_take (i := 14) (v := ?_) rfl (by kernel_rfl) (by kernel_rfl) (by kernel_rfl) (fun _ _ _ h => h) (Or.inl ⟨by rfl, ?_⟩) (by assumption) ?_
                              rotate_left
                              · intro w hSw; (try dsimp only at hSw); go_simp; try with_reducible rfl
                              simp only [Act.put, List.getElem_toArray, List.getElem_cons_zero, List.getElem_cons_succ, List.setIfInBounds_toArray, List.set_cons_zero, List.set_cons_succ]
                              refine wpAnyH_take (i := 15) (v := ?_) rfl (by kernel_rfl) (by kernel_rfl) (by kernel_rfl) (fun _ _ _ h => h) (Or.inl ⟨by rfl, ?_⟩) (by assumption) ?_
                              rotate_left
                              · intro w hSw; (try dsimp only at hSw); go_simp; try with_reducible rfl
                              simp only [Act.put, List.getElem_toArray, List.getElem_cons_zero, List.getElem_cons_succ, List.setIfInBounds_toArray, List.set_cons_zero, List.set_cons_succ]
                              refine wpAnyH_ready (rs := [16]) (by kernel_rfl) (by simp) ?_
                              refine AllReadyH.cons rfl (fun K hK => ?_) AllReadyH.nil
                              go_simp
                              refine hK.out _ _ (by first | with_reducible exact hHeld | ((try dsimp only); go_keep)) (fun hHeld => ?_)
                              clear hK
                              try simp only [Act.put, List.getElem_toArray, List.getElem_cons_zero, List.getElem_cons_succ, List.setIfInBounds_toArray, List.set_cons_zero, List.set_cons_succ]
                              refine wpAnyH_done (by kernel_rfl) ?_ _
                              go_wp2
                              exact ⟨⟨k + 1, _, _, _, _, by omega, by omega, by go_num, HPI⟩, by simp [intOf]; omega⟩
                            · skip
                              go_simp
                              refine hK.out _ _ (by first | with_reducible exact hHeld | ((try dsimp only); go_keep)) (fun hHeld => ?_)
                              clear hK
                              try simp only [Act.put, List.getElem_toArray, List.getElem_cons_zero, List.getElem_cons_succ, List.setIfInBounds_toArray, List.set_cons_zero, List.set_cons_succ]
                              refine wpAnyH_ready (rs := [10]) (by kernel_rfl) (by simp) ?_
                              refine AllReadyH.cons rfl (fun K hK => ?_) AllReadyH.nil
                              go_simp
                              refine hK.out _ _ (by first | with_reducible exact hHeld | ((try dsimp only); go_keep)) (fun hHeld => ?_)
                              clear hK
                              try simp only [Act.put, List.getElem_toArray, List.getElem_cons_zero, List.getElem_cons_succ, List.setIfInBounds_toArray, List.set_cons_zero, List.set_cons_succ]
                              refine wpAnyH_ready (rs := [13]) (by kernel_rfl) (by simp) ?_
                              refine AllReadyH.cons rfl (fun K hK => ?_) AllReadyH.nil
                              refine step_append_lies _ rfl (.tmp 174) (.tmp 176) 43 rfl H 49 i0 (.agg #[.int .i64 0, .slice none 0 0]) 2 32 Tryz.underlying43 hi0 hz0 hz1 hz2 rfl (by decide) (.slice pa pl pc) pl cs (by simp [Act.eval]) (HAP.out _ (HBA _).out.drew) ⟨wi.heap.size, 0, none⟩ 1 1 [.int .i64 D, .slice av r ac] (by simp [Act.eval]) rfl (World.news_of_block (heap_new' _ _)) (by intro u hu; simp at hu; rcases hu with rfl | rfl <;> rfl) (by decide) (by unfold maxLen; omega) (by omega) (by simp; omega) (wi.heap.size + 1) (by simp) ?_
                              intro g' cap' wN hown hgrow hat hlt2
                              obtain ⟨d1, d2, dz, hpi⟩ := HGW.out _ av ac _ _ _ (HBA _).out.drew (HAR.out _ (HBW _).out.drew) (by rw [HLR2.out]; exact hown) hgrow (by rw [show ∀ (U : World), U.drew.heap.size = U.heap.size from fun _ => rfl, alloc_size']; exact hat)
                              have hgs := hgrow.size
                              simp at hgs
                              have kP := (hgrow.block P (by simp; omega) (fun e => by have := ((HAP.out w3 (Below.refl _ _)).lt P e.symm).2; omega)).trans ((balloc (Below.refl wi.heap.size wi) _).block P hPi)
                              have e0 := (cell_of (o := 0) kP).trans a0
                              have e1 := (cell_of (o := 1) kP).trans a1
                              have HPI := hide hpi
                              have dz0 := dz (m * 6)
                              clear hown hgrow hat hlt2 hpi kP dz
                              refine hK.out _ _ (by first | with_reducible exact hHeld | ((try dsimp only); go_keep)) (fun hHeld => ?_)
                              clear hK
                              try simp only [Act.put, List.getElem_toArray, List.getElem_cons_zero, List.getElem_cons_succ, List.setIfInBounds_toArray, List.set_cons_zero, List.set_cons_succ]
                              refine wpAnyH_take (i := 14) (v := ?_) rfl (by kernel_rfl) (by kernel_rfl) (by kernel_rfl) (fun _ _ _ h => h) (Or.inl ⟨by rfl, ?_⟩) (by assumption) ?_
                              rotate_left
                              · intro w hSw; (try dsimp only at hSw); go_simp; try with_reducible rfl
                              simp only [Act.put, List.getElem_toArray, List.getElem_cons_zero, List.getElem_cons_succ, List.setIfInBounds_toArray, List.set_cons_zero, List.set_cons_succ]
                              refine wpAnyH_take (i := 15) (v := ?_) rfl (by kernel_rfl) (by kernel_rfl) (by kernel_rfl) (fun _ _ _ h => h) (Or.inl ⟨by rfl, ?_⟩) (by assumption) ?_
                              rotate_left
                              · intro w hSw; (try dsimp only at hSw); go_simp; try with_reducible rfl
                              simp only [Act.put, List.getElem_toArray, List.getElem_cons_zero, List.getElem_cons_succ, List.setIfInBounds_toArray, List.set_cons_zero, List.set_cons_succ]
                              refine wpAnyH_ready (rs := [16]) (by kernel_rfl) (by simp) ?_
                              refine AllReadyH.cons rfl (fun K hK => ?_) AllReadyH.nil
                              go_simp
                              refine hK.out _ _ (by first | with_reducible exact hHeld | ((try dsimp only); go_keep)) (fun hHeld => ?_)
                              clear hK
                              try simp only [Act.put, List.getElem_toArray, List.getElem_cons_zero, List.getElem_cons_succ, List.setIfInBounds_toArray, List.set_cons_zero, List.set_cons_succ]
                              refine wpAnyH_done (by kernel_rfl) ?_ _
                              go_wp2
                              exact ⟨⟨k + 1, _, _, _, _, by omega, by omega, by go_num, HPI⟩, by simp [intOf]; omega⟩
                      · have HO : Hid (OUT = badP 8 (k + 1)) := hide (HBAD.out 8 (by rw [HSL.out, HST.out, show stepW ⟨pre, some (ps, is)⟩ F fs = none by unfold stepW; rw [if_neg hF]; dsimp only; rw [if_pos hFp, if_neg his]]))
                        have hip : 0 < is.length := by cases is with | nil => exact absurd rfl his | cons x r => simp
                        have hgt : ¬ is.length = 0 := by omega
                        clear hF hFp his HSL HST hcases HBAD HNXT HBO
                        go_wp2_with (go_at_call 12; refine (l1Refuse_any _ _ _).mono ?_; rintro e wx ⟨rfl, hbx⟩; have hix := HI.out.calm hbx; obtain ⟨⟨r0, r1, r2, r3⟩, rz⟩ := hix.rv; have HIX := hide hix; clear hbx hix)
                        exact bodyPost_ret (v := .agg #[.int .i64 8, .int .i64 ((k : Int) + 1), .int .i64 0, .slice none 0 0]) (by simp [results, Tryz.results4, go_sem, r0, r1, r2, r3]) rfl ⟨_, rfl, set4W_below HIX.out.below (Nat.le_refl _) _ _ _ _, by rw [HO.out]; exact pars_bad _ (k + 1) _ (by omega)⟩
                    · have wp : (F == [112, 104, 105]) = false := by rw [beq_eq_false_iff_ne]; exact hFp
                      rcases hcases.out with ⟨h, -⟩ | ⟨h, -⟩ | ⟨hend, hsh, -, -⟩ | ⟨hop, hlen, hnend, -, -, hcn⟩
                      · exact absurd h hF
                      · exact absurd h hFp
                      · have HS' : Hid (lineP ⟨pre, some (ps, is)⟩ line = .ok ⟨pre ++ [⟨ps, is, readTer fs⟩], none⟩) := hide (by rw [HSL.out, HST.out, show stepW ⟨pre, some (ps, is)⟩ F fs = some ⟨pre ++ [⟨ps, is, readTer fs⟩], none⟩ by unfold stepW; rw [if_neg hF]; dsimp only; rw [if_neg hFp, if_pos hend]])
                        have HRT := fun (W : World) (h : Below w3.heap.size w3 W) => hide (l1ReadTerm_any fs (some ⟨b3, o3, none⟩) c2 wr.heap.size w2.heap.size W (hide (HW3.out.keepS (Same.of_below (h.mono (by omega))))) (by have := h.size; omega) (by rw [HDH.out]; exact hsh))
                        have HCL : Hid (∀ W, Below w3.heap.size w3 W → W.cell? ⟨F0, 1, none⟩ = some (.slice (some ⟨G, 0, none⟩) (m + 1) vc) ∧ (W.cell? ⟨G, m * 6 + 2, none⟩ = some (.int .i64 0) ∧ W.cell? ⟨G, m * 6 + 2 + 1, none⟩ = some (.int .i64 0) ∧ W.cell? ⟨G, m * 6 + 2 + 2, none⟩ = some (.int .i64 0) ∧ W.cell? ⟨G, m * 6 + 2 + 3, none⟩ = some (.int .i64 0)) ∧ (∀ o, W.frozen? ⟨G, o, none⟩ = false) ∧ PInv w F0 V ls (some ⟨g, 0, none⟩) (w.heap.size + 1) w1.heap.size OUT (k + 1) ⟨pre ++ [⟨ps, is, readTer fs⟩], none⟩ (some ⟨G, 0, none⟩) (m + 1) vc ((((W.setCell ⟨G, m * 6 + 2, none⟩ (.int .i64 (readTer fs).kind)).setCell ⟨G, m * 6 + 2 + 1, none⟩ (.int .i64 (readTer fs).a)).setCell ⟨G, m * 6 + 2 + 2, none⟩ (.int .i64 (readTer fs).to)).setCell ⟨G, m * 6 + 2 + 3, none⟩ (.int .i64 (readTer fs).els))) := hide (fun W hb => by
                          have hbs := hb.size
                          have hi := HI.out.calm hb
                          have kG := hb.block G hGl
                          have c1 := hi.f1
                          rw [hvm, hva] at c1
                          have hcl := (HBO.out.keep (w' := W) (fun b _ h2 => hb.block b h2) hbs).close (readTer fs) readTer_kind
                          rw [HM.out] at hcl
                          have far : ∀ b, b ≠ G → ((((W.setCell ⟨G, m * 6 + 2, none⟩ (.int .i64 (readTer fs).kind)).setCell ⟨G, m * 6 + 2 + 1, none⟩ (.int .i64 (readTer fs).a)).setCell ⟨G, m * 6 + 2 + 2, none⟩ (.int .i64 (readTer fs).to)).setCell ⟨G, m * 6 + 2 + 3, none⟩ (.int .i64 (readTer fs).els)).heap[b]? = W.heap[b]? := fun b hb => by rw [Below.heap_setCell _ _ _ _ hb, Below.heap_setCell _ _ _ _ hb, Below.heap_setCell _ _ _ _ hb, Below.heap_setCell _ _ _ _ hb]
                          have kF := far F0 (by omega)
                          refine ⟨c1, ⟨(cell_of kG).trans t0, (cell_of kG).trans t1, (cell_of kG).trans t2, (cell_of kG).trans t3⟩, fun o => (World.frozen?_of_block kG).trans (ozz o), HNXT.out _ _ _ _ W _ hi ⟨rfl, rfl, rfl, by simp, fun b hb => far b (by omega)⟩ (by simp; omega) ((cell_of kF).trans hi.f0) ((cell_of kF).trans c1) (fun o => (World.frozen?_of_block kF).trans (hi.fz o)) ⟨by simp [HM.out], hcl⟩ HS'.out⟩)
                        have nG1 : G ≠ F0 := by omega
                        have nG2 : F0 ≠ G := by omega
                        have hw1 : IntKind.i64.wrap ((m : Int) + 1 - 1) = m := by rw [IntKind.wrap_i64]; omega
                        have hw2 : IntKind.i64.wrap (m : Int) = m := by rw [IntKind.wrap_i64]; omega
                        have hw3 : (m : Int) < (m : Int) + 1 := by omega
                        clear hF hFp HSL HST hcases HBAD HNXT HBO HS' HI HW3 hsh hvn o0 o1 ozz t1 t2 t3
                        generalize (readTer fs).kind = tk at *
                        generalize (readTer fs).a = tka at *
                        generalize (readTer fs).to = tko at *
                        generalize (readTer fs).els = tke at *
                        go_wp2_with (go_at_call 17; refine (l1IsEnd_any _ _).mono ?_; rintro e w4 ⟨rfl, hb4⟩; rw [hend]; have c4 := (HCL.out w4 hb4).1; have HB4 := hide hb4; have hs4 := hb4.size; clear hb4)
                        go_region_held3 (fun w' => w'.cell? ⟨F0, 1, none⟩ = some (.slice (some ⟨G, 0, none⟩) (m + 1) vc)) (go_keep) ((go_at_call 18; refine (HRT _ HB4.out.drew).out.mono ?_; rintro e w5 ⟨rfl, hb5⟩; have hbb := bnext HB4.out.drew hb5; obtain ⟨d1, ⟨x0, x1, x2, x3⟩, xz, hpi⟩ := HCL.out w5 hbb; have HPI := hide hpi; clear hb5 hbb hpi))
                        go_wp2
                        exact ⟨⟨k + 1, _, _, _, _, by omega, by omega, by go_num, HPI⟩, by simp [intOf]; omega⟩
                      · have HS' : Hid (lineP ⟨pre, some (ps, is)⟩ line = .ok ⟨pre, some (ps, is ++ [readIns fs])⟩) := hide (by rw [HSL.out, HST.out, show stepW ⟨pre, some (ps, is)⟩ F fs = some ⟨pre, some (ps, is ++ [readIns fs])⟩ by unfold stepW; rw [if_neg hF]; dsimp only; rw [if_neg hFp, if_neg (by rw [hnend]; decide)]])
                        have HRI := fun (W : World) (h : Below w3.heap.size w3 W) => hide (l1ReadInstr_any fs b3 o3 c2 wr.heap.size w2.heap.size W F (hide (HW3.out.keepS (Same.of_below (h.mono (by omega))))) hb3B (by have := h.size; omega) hpos HDH hop (hide hlen) (hide hcn))
                        obtain ⟨H2, cs, ⟨hH1, hH2⟩, hph, hio, hcs⟩ := HBO.out.insRow
                        have HAP : Hid (∀ W, Below w3.heap.size w3 W → W.ownsRow H2 53 5 (.slice ia is.length ic) is.length cs) := hide (fun W hb => ownKeep hcs (fun b e => hb.block b (hcs.lt b e).2))
                        have HCL : Hid (∀ W, Below w3.heap.size w3 W → W.cell? ⟨F0, 1, none⟩ = some (.slice (some ⟨G, 0, none⟩) (m + 1) vc) ∧ W.cell? ⟨G, m * 6 + 1, none⟩ = some (.slice ia is.length ic)) := hide (fun W hb => ⟨(hb.cell (p := ⟨F0, 1, none⟩) (by show F0 < _; omega)).trans f1, (hb.cell (p := ⟨G, m * 6 + 1, none⟩) hGl).trans o1⟩)
                        have HGW : Hid (∀ W g' cap' wN, Below w3.heap.size w3 W → wN.ownsRow H2 53 5 (.slice (some ⟨g', 0, none⟩) (is.length + 1) cap') (is.length + 1) (cs ++ [.int .i64 (readIns fs).op, .int .i64 (readIns fs).dst, .int .i64 (readIns fs).a, .int .i64 (readIns fs).b, .int .i64 (readIns fs).imm]) → W.grownBy wN (Value.slice ia is.length ic).ownBlock → wN.cell? ⟨F0, 1, none⟩ = some (.slice (some ⟨G, 0, none⟩) (m + 1) vc) ∧ wN.cell? ⟨G, m * 6 + 1, none⟩ = some (.slice ia is.length ic) ∧ (∀ o, wN.frozen? ⟨G, o, none⟩ = false) ∧ PInv w F0 V ls (some ⟨g, 0, none⟩) (w.heap.size + 1) w1.heap.size OUT (k + 1) ⟨pre, some (ps, is ++ [readIns fs])⟩ (some ⟨G, 0, none⟩) (m + 1) vc (wN.setCell ⟨G, m * 6 + 1, none⟩ (.slice (some ⟨g', 0, none⟩) (is.length + 1) cap'))) := hide (fun W g' cap' wN hb ho hg => by
                          have hbs := hb.size
                          have hgs := hg.size
                          have hi := HI.out.calm hb
                          have hcs' := HAP.out W hb
                          have hbo := HBO.out.keep (w' := W) (fun b _ h2 => hb.block b h2) hbs
                          have hin := hbo.ins ⟨hH1, by omega⟩ (hph.keepS (Same.of_below (hb.mono hH2))) (hio.keep (fun b _ h2 => hb.block b h2)) hcs' (readIns fs) ho hg
                          rw [HM.out] at hin
                          have low : ∀ b, b < H2 → wN.heap[b]? = W.heap[b]? := fun b h1 => hg.block b (by omega) (fun e => by have := (hcs'.lt b e.symm).1; omega)
                          have kG := (low G (by omega)).trans (hb.block G hGl)
                          have kF := low F0 (by omega)
                          have c1 := hi.f1
                          rw [hvm, hva] at c1
                          have far : ∀ b, b ≠ G → (wN.setCell ⟨G, m * 6 + 1, none⟩ (.slice (some ⟨g', 0, none⟩) (is.length + 1) cap')).heap[b]? = wN.heap[b]? := fun b hb => Below.heap_setCell _ _ _ _ hb
                          have kF2 := (far F0 (by omega)).trans kF
                          refine ⟨(cell_of kF).trans c1, (cell_of kG).trans o1, fun o => (World.frozen?_of_block kG).trans (ozz o), HNXT.out _ _ _ _ W _ hi ⟨hg.os, hg.tape, hg.output, by rw [size_setCell]; exact hg.size, fun b hb => (far b (by omega)).trans (low b (by omega))⟩ (by rw [size_setCell]; omega) ((cell_of kF2).trans hi.f0) ((cell_of kF2).trans c1) (fun o => (World.frozen?_of_block kF2).trans (hi.fz o)) ⟨_, _, _, _, _, _, rfl, by show m + 1 = pre.length + 1; rw [HM.out], hin⟩ HS'.out⟩)
                        have HIL : Hid (is.length ≤ 100000) := hide (by have := HITOT.out; omega)
                        have hil := HIL.out
                        have nG1 : G ≠ F0 := by omega
                        have nG2 : F0 ≠ G := by omega
                        have hw1 : IntKind.i64.wrap ((m : Int) + 1 - 1) = m := by rw [IntKind.wrap_i64]; omega
                        have hw2 : IntKind.i64.wrap (m : Int) = m := by rw [IntKind.wrap_i64]; omega
                        have hw3 : (m : Int) < (m : Int) + 1 := by omega
                        obtain ⟨i0, hi0, hz0, hz1, hz2⟩ := info_parts Tryz.infoIns
                        have HSB : H2 ≤ w3.heap.size := hH2
                        clear hF hFp HSL HST hcases HBAD HNXT HBO HS' HI HW3 hvn o0 o1 ozz t1 t2 t3 hph hio hcs hop hlen hcn HIL
                        generalize (readIns fs).op = xo at *
                        generalize (readIns fs).dst = xd at *
                        generalize (readIns fs).a = xa at *
                        generalize (readIns fs).b = xb at *
                        generalize (readIns fs).imm = xm at *
                        generalize is.length = il at *
                        go_wp2_with (go_at_call 17; refine (l1IsEnd_any _ _).mono ?_; rintro e w4 ⟨rfl, hb4⟩; rw [hnend]; have c4 := HCL.out w4 hb4; have c41 := c4.1; have c42 := c4.2; have HB4 := hide hb4; have hs4 := hb4.size; clear hb4 c4)
                        refine wp_region_held_drew (S := (fun w' => w'.cell? ⟨F0, 1, none⟩ = some (.slice (some ⟨G, 0, none⟩) (m + 1) vc))) (by kernel_rfl) (by (try dsimp only); go_keep) (fun hHeld => ?_)
                        refine wpAnyH_take (i := 0) (v := ?_) rfl (by kernel_rfl) (by kernel_rfl) (by kernel_rfl) (fun _ _ _ h => h) (Or.inl ⟨by rfl, ?_⟩) (by assumption) ?_
                        rotate_left
                        · intro w hSw; (try dsimp only at hSw); go_simp; try with_reducible rfl
                        simp only [Act.put, List.getElem_toArray, List.getElem_cons_zero, List.setIfInBounds_toArray, List.set_cons_zero, List.set_cons_succ]
                        refine wpAnyH_take (i := 1) (v := ?_) rfl (by kernel_rfl) (by kernel_rfl) (by kernel_rfl) (fun _ _ _ h => h) (Or.inl ⟨by rfl, ?_⟩) (by assumption) ?_
                        rotate_left
                        · intro w hSw; (try dsimp only at hSw); go_simp; try with_reducible rfl
                        simp only [Act.put, List.getElem_toArray, List.getElem_cons_zero, List.getElem_cons_succ, List.setIfInBounds_toArray, List.set_cons_zero, List.set_cons_succ]
                        refine wpAnyH_take (i := 2) (v := ?_) rfl (by kernel_rfl) (by kernel_rfl) (by kernel_rfl) (fun _ _ _ h => h) (Or.inl ⟨by rfl, ?_⟩) (by assumption) ?_
                        rotate_left
                        · intro w hSw; (try dsimp only at hSw); go_simp; try with_reducible rfl
                        simp only [Act.put, List.getElem_toArray, List.getElem_cons_zero, List.getElem_cons_succ, List.setIfInBounds_toArray, List.set_cons_zero, List.set_cons_succ]
                        refine wpAnyH_take (i := 3) (v := ?_) rfl (by kernel_rfl) (by kernel_rfl) (by kernel_rfl) (fun _ _ _ h => h) (Or.inl ⟨by rfl, ?_⟩) (by assumption) ?_
                        rotate_left
                        · intro w hSw; (try dsimp only at hSw); go_simp; try with_reducible rfl
                        simp only [Act.put, List.getElem_toArray, List.getElem_cons_zero, List.getElem_cons_succ, List.setIfInBounds_toArray, List.set_cons_zero, List.set_cons_succ]
                        refine wpAnyH_take (i := 4) (v := ?_) rfl (by kernel_rfl) (by kernel_rfl) (by kernel_rfl) (fun _ _ _ h => h) (Or.inl ⟨by rfl, ?_⟩) (by assumption) ?_
                        rotate_left
                        · intro w hSw; (try dsimp only at hSw); go_simp; try with_reducible rfl
                        simp only [Act.put, List.getElem_toArray, List.getElem_cons_zero, List.getElem_cons_succ, List.setIfInBounds_toArray, List.set_cons_zero, List.set_cons_succ]
                        refine wpAnyH_take (i := 5) (v := ?_) rfl (by kernel_rfl) (by kernel_rfl) (by kernel_rfl) (fun _ _ _ h => h) (Or.inl ⟨by rfl, ?_⟩) (by assumption) ?_
                        rotate_left
                        · intro w hSw; (try dsimp only at hSw); go_simp; try with_reducible rfl
                        simp only [Act.put, List.getElem_toArray, List.getElem_cons_zero, List.getElem_cons_succ, List.setIfInBounds_toArray, List.set_cons_zero, List.set_cons_succ]
                        refine wpAnyH_take (i := 6) (v := ?_) rfl (by kernel_rfl) (by kernel_rfl) (by kernel_rfl) (fun _ _ _ h => h) (Or.inl ⟨by rfl, ?_⟩) (by assumption) ?_
                        rotate_left
                        · intro w hSw; (try dsimp only at hSw); go_simp; try with_reducible rfl
                        simp only [Act.put, List.getElem_toArray, List.getElem_cons_zero, List.getElem_cons_succ, List.setIfInBounds_toArray, List.set_cons_zero, List.set_cons_succ]
                        refine wpAnyH_take (i := 7) (v := ?_) rfl (by kernel_rfl) (by kernel_rfl) (by kernel_rfl) (fun _ _ _ h => h) (Or.inl ⟨by rfl, ?_⟩) (by assumption) ?_
                        rotate_left
                        · intro w hSw; (try dsimp only at hSw); go_simp; try with_reducible rfl
                        simp only [Act.put, List.getElem_toArray, List.getElem_cons_zero, List.getElem_cons_succ, List.setIfInBounds_toArray, List.set_cons_zero, List.set_cons_succ]
                        refine wpAnyH_take (i := 8) (v := ?_) rfl (by kernel_rfl) (by kernel_rfl) (by kernel_rfl) (fun _ _ _ h => h) (Or.inl ⟨by rfl, ?_⟩) (by assumption) ?_
                        rotate_left
                        · intro w hSw; (try dsimp only at hSw); go_simp; try with_reducible rfl
                        simp only [Act.put, List.getElem_toArray, List.getElem_cons_zero, List.getElem_cons_succ, List.setIfInBounds_toArray, List.set_cons_zero, List.set_cons_succ]
                        refine wpAnyH_take (i := 9) (v := ?_) rfl (by kernel_rfl) (by kernel_rfl) (by kernel_rfl) (fun _ _ _ h => h) (Or.inl ⟨by rfl, ?_⟩) (by assumption) ?_
                        rotate_left
                        · intro w hSw; (try dsimp only at hSw); go_simp; try with_reducible rfl
                        simp only [Act.put, List.getElem_toArray, List.getElem_cons_zero, List.getElem_cons_succ, List.setIfInBounds_toArray, List.set_cons_zero, List.set_cons_succ]
                        refine wpAnyH_take (i := 11) (v := ?_) rfl (by kernel_rfl) (by kernel_rfl) (by kernel_rfl) (fun _ _ _ h => h) (Or.inl ⟨by rfl, ?_⟩) (by assumption) ?_
                        rotate_left
                        · intro w hSw; (try dsimp only at hSw); go_simp; try with_reducible rfl
                        simp only [Act.put, List.getElem_toArray, List.getElem_cons_zero, List.getElem_cons_succ, List.setIfInBounds_toArray, List.set_cons_zero, List.set_cons_succ]
                        refine wpAnyH_ready (rs := [10, 12]) (by kernel_rfl) (by simp) ?_
                        refine (AllReadyH.cons rfl (fun K hK => ?_) (AllReadyH.cons rfl (fun K hK => ?_) AllReadyH.nil))
                        · skip
                          go_simp
                          refine hK.out _ _ (by first | with_reducible exact hHeld | ((try dsimp only); go_keep)) (fun hHeld => ?_)
                          clear hK
                          try simp only [Act.put, List.getElem_toArray, List.getElem_cons_zero, List.getElem_cons_succ, List.setIfInBounds_toArray, List.set_cons_zero, List.set_cons_succ]
                          refine wpAnyH_ready (rs := [12]) (by kernel_rfl) (by simp) ?_
                          refine AllReadyH.cons rfl (fun K hK => ?_) AllReadyH.nil
                          go_simp
                          refine (HRI _ HB4.out.drew).out.mono ?_
                          rintro e w5 ⟨rfl, hb5⟩
                          have hbb := bnext HB4.out.drew hb5
                          have c5 := HCL.out w5 hbb
                          have c51 := c5.1
                          have c52 := c5.2
                          have hs5 := hbb.size
                          have HB5 := hide hbb
                          have c5a := fun x => ((balloc (Below.refl w5.heap.size w5) x).cell (p := ⟨G, m * 6 + 1, none⟩) (by show G < _; omega)).trans c52
                          clear hb5 hbb c5
                          go_wp2_with fail
                          refine hK.out _ _ (by first | with_reducible exact hHeld | ((try dsimp only); go_keep)) (fun hHeld => ?_)
                          clear hK
                          try simp only [Act.put, List.getElem_toArray, List.getElem_cons_zero, List.getElem_cons_succ, List.setIfInBounds_toArray, List.set_cons_zero, List.set_cons_succ]
                          refine wpAnyH_ready (rs := [13]) (by kernel_rfl) (by simp) ?_
                          refine AllReadyH.cons rfl (fun K hK => ?_) AllReadyH.nil
                          go_simp
                          refine hK.out _ _ (by first | with_reducible exact hHeld | ((try dsimp only); go_keep)) (fun hHeld => ?_)
                          clear hK
                          try simp only [Act.put, List.getElem_toArray, List.getElem_cons_zero, List.getElem_cons_succ, List.setIfInBounds_toArray, List.set_cons_zero, List.set_cons_succ]
                          refine wpAnyH_ready (rs := [14]) (by kernel_rfl) (by simp) ?_
                          refine AllReadyH.cons rfl (fun K hK => ?_) AllReadyH.nil
                          refine step_append_lies _ rfl (.tmp 202) (.tmp 205) 44 rfl H2 53 i0 (.agg #[.int .i64 0, .int .i64 0, .int .i64 0, .int .i64 0, .int .i64 0]) 5 40 Tryz.underlying44 hi0 hz0 hz1 hz2 rfl (by decide) (.slice ia il ic) il cs (by simp [Act.eval]) (HAP.out _ (balloc HB5.out _)) ⟨w5.heap.size, 0, none⟩ 1 1 [.int .i64 xo, .int .i64 xd, .int .i64 xa, .int .i64 xb, .int .i64 xm] (by simp [Act.eval]) rfl (World.news_of_block (heap_new' _ _)) (by intro u hu; simp at hu; rcases hu with rfl | rfl | rfl | rfl | rfl <;> rfl) (by decide) (by unfold maxLen; omega) (by omega) (by simp; omega) (w5.heap.size + 1) (by simp) ?_
                          intro g' cap' wN hown hgrow hat hlt2
                          obtain ⟨d1, d2, dz, hpi⟩ := HGW.out _ _ _ _ (balloc HB5.out _) hown hgrow
                          have HPI := hide hpi
                          clear hown hgrow hat hlt2 hpi
                          refine hK.out _ _ (by first | with_reducible exact hHeld | ((try dsimp only); go_keep)) (fun hHeld => ?_)
                          clear hK
                          try simp only [Act.put, List.getElem_toArray, List.getElem_cons_zero, List.getElem_cons_succ, List.setIfInBounds_toArray, List.set_cons_zero, List.set_cons_succ]
                          refine wpAnyH_take (i := 15) (v := ?_) rfl (by kernel_rfl) (by kernel_rfl) (by kernel_rfl) (fun _ _ _ h => h) (Or.inl ⟨by rfl, ?_⟩) (by assumption) ?_
                          rotate_left
                          · intro w hSw; (try dsimp only at hSw); go_simp; try with_reducible rfl
                          simp only [Act.put, List.getElem_toArray, List.getElem_cons_zero, List.getElem_cons_succ, List.setIfInBounds_toArray, List.set_cons_zero, List.set_cons_succ]
                          refine wpAnyH_take (i := 16) (v := ?_) rfl (by kernel_rfl) (by kernel_rfl) (by kernel_rfl) (fun _ _ _ h => h) (Or.inl ⟨by rfl, ?_⟩) (by assumption) ?_
                          rotate_left
                          · intro w hSw; (try dsimp only at hSw); go_simp; try with_reducible rfl
                          simp only [Act.put, List.getElem_toArray, List.getElem_cons_zero, List.getElem_cons_succ, List.setIfInBounds_toArray, List.set_cons_zero, List.set_cons_succ]
                          refine wpAnyH_ready (rs := [17]) (by kernel_rfl) (by simp) ?_
                          refine AllReadyH.cons rfl (fun K hK => ?_) AllReadyH.nil
                          go_simp
                          refine hK.out _ _ (by first | with_reducible exact hHeld | ((try dsimp only); go_keep)) (fun hHeld => ?_)
                          clear hK
                          try simp only [Act.put, List.getElem_toArray, List.getElem_cons_zero, List.getElem_cons_succ, List.setIfInBounds_toArray, List.set_cons_zero, List.set_cons_succ]
                          refine wpAnyH_done (by kernel_rfl) ?_ _
                          go_wp2
                          exact ⟨⟨k + 1, _, _, _, _, by omega, by omega, by go_num, HPI⟩, by simp [intOf]; omega⟩
                        · skip
                          go_simp
                          refine (HRI _ HB4.out.drew).out.mono ?_
                          rintro e w5 ⟨rfl, hb5⟩
                          have hbb := bnext HB4.out.drew hb5
                          have c5 := HCL.out w5 hbb
                          have c51 := c5.1
                          have c52 := c5.2
                          have hs5 := hbb.size
                          have HB5 := hide hbb
                          have c5a := fun x => ((balloc (Below.refl w5.heap.size w5) x).cell (p := ⟨G, m * 6 + 1, none⟩) (by show G < _; omega)).trans c52
                          clear hb5 hbb c5
                          go_wp2_with fail
                          refine hK.out _ _ (by first | with_reducible exact hHeld | ((try dsimp only); go_keep)) (fun hHeld => ?_)
                          clear hK
                          try simp only [Act.put, List.getElem_toArray, List.getElem_cons_zero, List.getElem_cons_succ, List.setIfInBounds_toArray, List.set_cons_zero, List.set_cons_succ]
                          refine wpAnyH_ready (rs := [10, 13]) (by kernel_rfl) (by simp) ?_
                          refine (AllReadyH.cons rfl (fun K hK => ?_) (AllReadyH.cons rfl (fun K hK => ?_) AllReadyH.nil))
                          · skip
                            go_simp
                            refine hK.out _ _ (by first | with_reducible exact hHeld | ((try dsimp only); go_keep)) (fun hHeld => ?_)
                            clear hK
                            try simp only [Act.put, List.getElem_toArray, List.getElem_cons_zero, List.getElem_cons_succ, List.setIfInBounds_toArray, List.set_cons_zero, List.set_cons_succ]
                            refine wpAnyH_ready (rs := [13]) (by kernel_rfl) (by simp) ?_
                            refine AllReadyH.cons rfl (fun K hK => ?_) AllReadyH.nil
                            go_simp
                            refine hK.out _ _ (by first | with_reducible exact hHeld | ((try dsimp only); go_keep)) (fun hHeld => ?_)
                            clear hK
                            try simp only [Act.put, List.getElem_toArray, List.getElem_cons_zero, List.getElem_cons_succ, List.setIfInBounds_toArray, List.set_cons_zero, List.set_cons_succ]
                            refine wpAnyH_ready (rs := [14]) (by kernel_rfl) (by simp) ?_
                            refine AllReadyH.cons rfl (fun K hK => ?_) AllReadyH.nil
                            refine step_append_lies _ rfl (.tmp 202) (.tmp 205) 44 rfl H2 53 i0 (.agg #[.int .i64 0, .int .i64 0, .int .i64 0, .int .i64 0, .int .i64 0]) 5 40 Tryz.underlying44 hi0 hz0 hz1 hz2 rfl (by decide) (.slice ia il ic) il cs (by simp [Act.eval]) (HAP.out _ (balloc HB5.out _)) ⟨w5.heap.size, 0, none⟩ 1 1 [.int .i64 xo, .int .i64 xd, .int .i64 xa, .int .i64 xb, .int .i64 xm] (by simp [Act.eval]) rfl (World.news_of_block (heap_new' _ _)) (by intro u hu; simp at hu; rcases hu with rfl | rfl | rfl | rfl | rfl <;> rfl) (by decide) (by unfold maxLen; omega) (by omega) (by simp; omega) (w5.heap.size + 1) (by simp) ?_
                            intro g' cap' wN hown hgrow hat hlt2
                            obtain ⟨d1, d2, dz, hpi⟩ := HGW.out _ _ _ _ (balloc HB5.out _) hown hgrow
                            have HPI := hide hpi
                            clear hown hgrow hat hlt2 hpi
                            refine hK.out _ _ (by first | with_reducible exact hHeld | ((try dsimp only); go_keep)) (fun hHeld => ?_)
                            clear hK
                            try simp only [Act.put, List.getElem_toArray, List.getElem_cons_zero, List.getElem_cons_succ, List.setIfInBounds_toArray, List.set_cons_zero, List.set_cons_succ]
                            refine wpAnyH_take (i := 15) (v := ?_) rfl (by kernel_rfl) (by kernel_rfl) (by kernel_rfl) (fun _ _ _ h => h) (Or.inl ⟨by rfl, ?_⟩) (by assumption) ?_
                            rotate_left
                            · intro w hSw; (try dsimp only at hSw); go_simp; try with_reducible rfl
                            simp only [Act.put, List.getElem_toArray, List.getElem_cons_zero, List.getElem_cons_succ, List.setIfInBounds_toArray, List.set_cons_zero, List.set_cons_succ]
                            refine wpAnyH_take (i := 16) (v := ?_) rfl (by kernel_rfl) (by kernel_rfl) (by kernel_rfl) (fun _ _ _ h => h) (Or.inl ⟨by rfl, ?_⟩) (by assumption) ?_
                            rotate_left
                            · intro w hSw; (try dsimp only at hSw); go_simp; try with_reducible rfl
                            simp only [Act.put, List.getElem_toArray, List.getElem_cons_zero, List.getElem_cons_succ, List.setIfInBounds_toArray, List.set_cons_zero, List.set_cons_succ]
                            refine wpAnyH_ready (rs := [17]) (by kernel_rfl) (by simp) ?_
                            refine AllReadyH.cons rfl (fun K hK => ?_) AllReadyH.nil
                            go_simp
                            refine hK.out _ _ (by first | with_reducible exact hHeld | ((try dsimp only); go_keep)) (fun hHeld => ?_)
                            clear hK
                            try simp only [Act.put, List.getElem_toArray, List.getElem_cons_zero, List.getElem_cons_succ, List.setIfInBounds_toArray, List.set_cons_zero, List.set_cons_succ]
                            refine wpAnyH_done (by kernel_rfl) ?_ _
                            go_wp2
                            exact ⟨⟨k + 1, _, _, _, _, by omega, by omega, by go_num, HPI⟩, by simp [intOf]; omega⟩
                          · skip
                            go_simp
                            refine hK.out _ _ (by first | with_reducible exact hHeld | ((try dsimp only); go_keep)) (fun hHeld => ?_)
                            clear hK
                            try simp only [Act.put, List.getElem_toArray, List.getElem_cons_zero, List.getElem_cons_succ, List.setIfInBounds_toArray, List.set_cons_zero, List.set_cons_succ]
                            refine wpAnyH_ready (rs := [10]) (by kernel_rfl) (by simp) ?_
                            refine AllReadyH.cons rfl (fun K hK => ?_) AllReadyH.nil
                            go_simp
                            refine hK.out _ _ (by first | with_reducible exact hHeld | ((try dsimp only); go_keep)) (fun hHeld => ?_)
                            clear hK
                            try simp only [Act.put, List.getElem_toArray, List.getElem_cons_zero, List.getElem_cons_succ, List.setIfInBounds_toArray, List.set_cons_zero, List.set_cons_succ]
                            refine wpAnyH_ready (rs := [14]) (by kernel_rfl) (by simp) ?_
                            refine AllReadyH.cons rfl (fun K hK => ?_) AllReadyH.nil
                            refine step_append_lies _ rfl (.tmp 202) (.tmp 205) 44 rfl H2 53 i0 (.agg #[.int .i64 0, .int .i64 0, .int .i64 0, .int .i64 0, .int .i64 0]) 5 40 Tryz.underlying44 hi0 hz0 hz1 hz2 rfl (by decide) (.slice ia il ic) il cs (by simp [Act.eval]) (HAP.out _ (balloc HB5.out _)) ⟨w5.heap.size, 0, none⟩ 1 1 [.int .i64 xo, .int .i64 xd, .int .i64 xa, .int .i64 xb, .int .i64 xm] (by simp [Act.eval]) rfl (World.news_of_block (heap_new' _ _)) (by intro u hu; simp at hu; rcases hu with rfl | rfl | rfl | rfl | rfl <;> rfl) (by decide) (by unfold maxLen; omega) (by omega) (by simp; omega) (w5.heap.size + 1) (by simp) ?_
                            intro g' cap' wN hown hgrow hat hlt2
                            obtain ⟨d1, d2, dz, hpi⟩ := HGW.out _ _ _ _ (balloc HB5.out _) hown hgrow
                            have HPI := hide hpi
                            clear hown hgrow hat hlt2 hpi
                            refine hK.out _ _ (by first | with_reducible exact hHeld | ((try dsimp only); go_keep)) (fun hHeld => ?_)
                            clear hK
                            try simp only [Act.put, List.getElem_toArray, List.getElem_cons_zero, List.getElem_cons_succ, List.setIfInBounds_toArray, List.set_cons_zero, List.set_cons_succ]
                            refine wpAnyH_take (i := 15) (v := ?_) rfl (by kernel_rfl) (by kernel_rfl) (by kernel_rfl) (fun _ _ _ h => h) (Or.inl ⟨by rfl, ?_⟩) (by assumption) ?_
                            rotate_left
                            · intro w hSw; (try dsimp only at hSw); go_simp; try with_reducible rfl
                            simp only [Act.put, List.getElem_toArray, List.getElem_cons_zero, List.getElem_cons_succ, List.setIfInBounds_toArray, List.set_cons_zero, List.set_cons_succ]
                            refine wpAnyH_take (i := 16) (v := ?_) rfl (by kernel_rfl) (by kernel_rfl) (by kernel_rfl) (fun _ _ _ h => h) (Or.inl ⟨by rfl, ?_⟩) (by assumption) ?_
                            rotate_left
                            · intro w hSw; (try dsimp only at hSw); go_simp; try with_reducible rfl
                            simp only [Act.put, List.getElem_toArray, List.getElem_cons_zero, List.getElem_cons_succ, List.setIfInBounds_toArray, List.set_cons_zero, List.set_cons_succ]
                            refine wpAnyH_ready (rs := [17]) (by kernel_rfl) (by simp) ?_
                            refine AllReadyH.cons rfl (fun K hK => ?_) AllReadyH.nil
                            go_simp
                            refine hK.out _ _ (by first | with_reducible exact hHeld | ((try dsimp only); go_keep)) (fun hHeld => ?_)
                            clear hK
                            try simp only [Act.put, List.getElem_toArray, List.getElem_cons_zero, List.getElem_cons_succ, List.setIfInBounds_toArray, List.set_cons_zero, List.set_cons_succ]
                            refine wpAnyH_done (by kernel_rfl) ?_ _
                            go_wp2
                            exact ⟨⟨k + 1, _, _, _, _, by omega, by omega, by go_num, HPI⟩, by simp [intOf]; omega⟩
              · have HO : Hid (OUT = badP (lineCode fs) (k + 1)) := hide (HBAD.out _ (by rw [HLP.out, if_neg hne, if_pos hc]))
                have hcb : (lineCode fs != 0) = true := by rw [bne_iff_ne]; exact hc
                clear HLP HBAD HNXT hc hne hz0
                generalize lineCode fs = cc at *
                go_wp2_with (go_at_call 12; refine (l1Refuse_any _ _ _).mono ?_; rintro e wx ⟨rfl, hbx⟩; have hix := HI.out.calm hbx; obtain ⟨⟨r0, r1, r2, r3⟩, rz⟩ := hix.rv; have HIX := hide hix; clear hbx hix)
                exact bodyPost_ret (v := .agg #[.int .i64 cc, .int .i64 ((k : Int) + 1), .int .i64 0, .slice none 0 0]) (by simp [results, Tryz.results4, go_sem, r0, r1, r2, r3]) rfl ⟨_, rfl, set4W_below HIX.out.below (Nat.le_refl _) _ _ _ _, by rw [HO.out]; exact pars_bad _ (k + 1) _ (by omega)⟩
          · have hke : k = ls.length := by omega
            have HI := hinv
            rw [hke] at HI
            have HRUN := hide (show endP ls.length V (.ok s) = OUT by have h := HI.out.run; rw [List.drop_length] at h; exact h)
            have f1 := HI.out.f1
            have f0 := HI.out.f0
            have htot := HI.out.tot
            have hlt0 := lens_take ls ls.length
            have hls0 := HLS.out
            have HTT : Hid (pstTot s ≤ 100000) := hide (by omega)
            clear htot hlt0 hls0
            obtain ⟨pre, cur⟩ := s
            cases cur with
            | some pi =>
              obtain ⟨ps, is⟩ := pi
              obtain ⟨H, G, pa, pc, ia, ic, hva, hvn, hbo⟩ := HI.out.st
              dsimp only at hvn hbo
              obtain ⟨t0, t1, t2, t3⟩ := hbo.ter
              obtain ⟨⟨lG0, lG1⟩, lH1, lH2⟩ := hbo.lo
              have hGl : G < wr.heap.size := by omega
              clear hbo
              rw [hvn] at hvb
              generalize hm : pre.length = m at *
              clear hm
              rw [hvn, hva] at f1
              have HO : Hid (OUT = badP 8 ls.length) := hide HRUN.out.symm
              clear hinv HRUN
              go_wp2_with (go_at_call 12; refine (l1Refuse_any _ _ _).mono ?_; rintro e wx ⟨rfl, hbx⟩; have hix := HI.out.calm hbx; obtain ⟨⟨r0, r1, r2, r3⟩, rz⟩ := hix.rv; have HIX := hide hix; clear hbx hix)
              exact bodyPost_ret (v := .agg #[.int .i64 8, .int .i64 (ls.length : Int), .int .i64 0, .slice none 0 0]) (by simp [results, Tryz.results4, go_sem, r0, r1, r2, r3]) rfl ⟨_, rfl, set4W_below HIX.out.below (Nat.le_refl _) _ _ _ _, by rw [HO.out]; exact pars_bad _ ls.length _ (by omega)⟩
            | none =>
              obtain ⟨hvn, hbc⟩ := HI.out.st
              have HBC := hide hbc
              dsimp only at hvn
              clear hbc
              have hopn : vn = 0 ∨ ∃ m G kd, vn = m + 1 ∧ m ≤ 100000 ∧ va = some ⟨G, 0, none⟩ ∧ wr.cell? ⟨G, m * 6 + 2, none⟩ = some (.int .i64 kd) ∧ (kd == 0) = false ∧ G < wr.heap.size := by
                rcases Nat.eq_zero_or_pos vn with h | h
                · exact Or.inl h
                · obtain ⟨cs, hcs⟩ := HBC.out.own
                  obtain ⟨G, cap0, e, hG1, hG2⟩ := hcs.form (by dsimp only; omega)
                  obtain ⟨rfl, -, -⟩ := Value.slice.inj e
                  obtain ⟨⟨L', B', _, _, _, pa, pc, ia, ic, _, _, ⟨t0, _⟩, _⟩, hkd⟩ := HBC.out.clo G rfl (vn - 1) (by dsimp only; omega)
                  exact Or.inr ⟨vn - 1, G, _, by omega, by omega, rfl, t0, by rw [beq_eq_false_iff_ne]; exact hkd, hG2⟩
              have HVF := hide (validFuncS_any V va vn vc pre (F0 + 1) wr.heap.size wr (hide HBC.out.blks) (hide hvn) (hide (by have := HTT.out; simp only [pstTot] at this; omega)) (Nat.le_refl _))
              have HGD : Hid (∀ wx, Below wr.heap.size wr wx → PInv w F0 V ls (some ⟨g, 0, none⟩) (w.heap.size + 1) w1.heap.size OUT ls.length ⟨pre, none⟩ va vn vc wx ∧ ∀ v0 v1 v2 v3, BlksAt (set4W wx w.heap.size v0 v1 v2 v3) w.heap.size (set4W wx w.heap.size v0 v1 v2 v3).heap.size va pre) := hide (fun wx hb => by
                have hi := HI.out.calm hb
                refine ⟨hi, fun v0 v1 v2 v3 => ?_⟩
                have hbs := hb.size
                exact ((HBC.out.blks.keep hb).keepS (w' := set4W wx w.heap.size v0 v1 v2 v3) (fun q h1 h2 => set4W_far (by omega) v0 v1 v2 v3)).mono (by omega) (by rw [set4W_size]; omega))
              cases hvd : validS ⟨V, pre⟩
              · have HO : Hid (OUT = badP 9 0) := hide (by rw [← HRUN.out]; show (if validS ⟨V, pre⟩ = true then _ else _) = _; rw [hvd]; rfl)
                clear hinv HRUN HBC
                rcases hopn with hv0 | ⟨m, G, kd, hvm, hm, hva, t0, hkd, hG⟩
                · rw [hv0] at f1 HVF
                  go_wp2_with (first | (go_at_call 20; refine HVF.out.mono ?_; rintro e w6 ⟨rfl, hb6⟩; rw [hvd]; have h6 := HGD.out w6 hb6; have HI6 := hide h6.1; have HBL := hide h6.2; have g1 := h6.1.f1; have g0 := h6.1.f0; obtain ⟨⟨r0, r1, r2, r3⟩, rz⟩ := h6.1.rv; skip; clear hb6 h6) | (go_at_call 12; refine (l1Refuse_any _ _ _).mono ?_; rintro e wx ⟨rfl, hbx⟩; have hix := HI6.out.calm hbx; obtain ⟨⟨r0, r1, r2, r3⟩, rz⟩ := hix.rv; have HIX := hide hix; clear hbx hix))
                  exact bodyPost_ret (v := .agg #[.int .i64 9, .int .i64 0, .int .i64 0, .slice none 0 0]) (by simp [results, Tryz.results4, go_sem, r0, r1, r2, r3]) rfl ⟨_, rfl, set4W_below HIX.out.below (Nat.le_refl _) _ _ _ _, by rw [HO.out]; exact pars_bad 9 0 0 rfl⟩
                · rw [hvm, hva] at f1 HVF
                  go_wp2_with (first | (go_at_call 20; refine HVF.out.mono ?_; rintro e w6 ⟨rfl, hb6⟩; rw [hvd]; have h6 := HGD.out w6 hb6; have HI6 := hide h6.1; have HBL := hide h6.2; have g1 := h6.1.f1; have g0 := h6.1.f0; obtain ⟨⟨r0, r1, r2, r3⟩, rz⟩ := h6.1.rv; skip; clear hb6 h6) | (go_at_call 12; refine (l1Refuse_any _ _ _).mono ?_; rintro e wx ⟨rfl, hbx⟩; have hix := HI6.out.calm hbx; obtain ⟨⟨r0, r1, r2, r3⟩, rz⟩ := hix.rv; have HIX := hide hix; clear hbx hix))
                  exact bodyPost_ret (v := .agg #[.int .i64 9, .int .i64 0, .int .i64 0, .slice none 0 0]) (by simp [results, Tryz.results4, go_sem, r0, r1, r2, r3]) rfl ⟨_, rfl, set4W_below HIX.out.below (Nat.le_refl _) _ _ _ _, by rw [HO.out]; exact pars_bad 9 0 0 rfl⟩
              · have HO : Hid (OUT = ⟨0, 0, ⟨V, pre⟩⟩) := hide (by rw [← HRUN.out]; show (if validS ⟨V, pre⟩ = true then _ else _) = _; rw [hvd]; rfl)
                clear hinv HRUN HBC
                rcases hopn with hv0 | ⟨m, G, kd, hvm, hm, hva, t0, hkd, hG⟩
                · rw [hv0] at f1 HVF
                  have hlen : pre.length = 0 := by omega
                  go_wp2_with (go_at_call 20; refine HVF.out.mono ?_; rintro e w6 ⟨rfl, hb6⟩; rw [hvd]; have h6 := HGD.out w6 hb6; have HI6 := hide h6.1; have HBL := hide h6.2; have g1 := h6.1.f1; have g0 := h6.1.f0; obtain ⟨⟨r0, r1, r2, r3⟩, rz⟩ := h6.1.rv; rw [hv0] at g1; clear hb6 h6)
                  exact bodyPost_ret (v := .agg #[.int .i64 0, .int .i64 0, .int .i64 V, .slice va 0 vc]) (by simp [results, Tryz.results4, go_sem, r0, r1, r2, r3]) rfl ⟨_, rfl, set4W_below HI6.out.below (Nat.le_refl _) _ _ _ _, by rw [HO.out]; exact ⟨va, vc, by show _ = Value.agg #[_, _, _, .slice _ pre.length _]; rw [hlen]; rfl, HBL.out _ _ _ _⟩⟩
                · rw [hvm, hva] at f1 HVF
                  have hlen : pre.length = m + 1 := by omega
                  go_wp2_with (go_at_call 20; refine HVF.out.mono ?_; rintro e w6 ⟨rfl, hb6⟩; rw [hvd]; have h6 := HGD.out w6 hb6; have HI6 := hide h6.1; have HBL := hide h6.2; have g1 := h6.1.f1; have g0 := h6.1.f0; obtain ⟨⟨r0, r1, r2, r3⟩, rz⟩ := h6.1.rv; rw [hvm, hva] at g1; clear hb6 h6)
                  exact bodyPost_ret (v := .agg #[.int .i64 0, .int .i64 0, .int .i64 V, .slice (some ⟨G, 0, none⟩) (m + 1) vc]) (by simp [results, Tryz.results4, go_sem, r0, r1, r2, r3]) rfl ⟨_, rfl, set4W_below HI6.out.below (Nat.le_refl _) _ _ _ _, by rw [HO.out]; exact ⟨(some ⟨G, 0, none⟩), vc, by show _ = Value.agg #[_, _, _, .slice _ pre.length _]; rw [hlen]; rfl, by have h := HBL.out (.int .i64 0) (.int .i64 0) (.int .i64 V) (.slice (some ⟨G, 0, none⟩) (m + 1) vc); rw [hva] at h; exact h⟩⟩
      · have hi2 : idx f1 < 0 := by omega
        have HO : Hid (OUT = badP 3 1) := hide (by rw [HPP.out, HHD.out, HHI.out, if_neg (fun q => hi q.2.2)]; rfl)
        clear hi
        generalize idx f1 = V at *
        go_wp2_with (first | (go_at_call 15; refine (HIX _).out.mono ?_; rintro e w3 ⟨rfl, hb3⟩; have hs3 := hb3.size; have HBV := hide (bnext HB2.out hb3); have HRX := hide (HR2.out.keep (hb3.block w.heap.size (by omega))); clear hb3) | (go_at_call 12; refine (l1Refuse_any _ _ _).mono ?_; rintro e wx ⟨rfl, hbx⟩; obtain ⟨⟨r0, r1, r2, r3⟩, rz⟩ := (HRX.out).keep (hbx.block _ (by omega)); have HBX := hide (bnext HBV.out hbx); clear hbx))
        exact bodyPost_ret (v := .agg #[.int .i64 3, .int .i64 1, .int .i64 0, .slice none 0 0]) (by simp [results, Tryz.results4, go_sem, r0, r1, r2, r3]) rfl ⟨_, rfl, set4W_below HBX.out (Nat.le_refl _) _ _ _ _, by rw [HO.out]; exact pars_bad 3 1 1 rfl⟩
    · have fb : (f0 == [102, 117, 110, 99]) = false := by rw [beq_eq_false_iff_ne]; exact hf
      have fn : (f0 != [102, 117, 110, 99]) = true := by rw [bne_iff_ne]; exact hf
      have HO : Hid (OUT = badP 3 1) := hide (by rw [HPP.out, HHD.out, HHI.out, if_neg (fun q => hf q.2.1)]; rfl)
      clear hf
      have HBV := HB2
      have HRX := HR2
      go_wp2_with (go_at_call 12; refine (l1Refuse_any _ _ _).mono ?_; rintro e wx ⟨rfl, hbx⟩; obtain ⟨⟨r0, r1, r2, r3⟩, rz⟩ := (HRX.out).keep (hbx.block _ (by omega)); have HBX := hide (bnext HBV.out hbx); clear hbx)
      exact bodyPost_ret (v := .agg #[.int .i64 3, .int .i64 1, .int .i64 0, .slice none 0 0]) (by simp [results, Tryz.results4, go_sem, r0, r1, r2, r3]) rfl ⟨_, rfl, set4W_below HBX.out (Nat.le_refl _) _ _ _ _, by rw [HO.out]; exact pars_bad 3 1 1 rfl⟩
  · have HO : Hid (OUT = badP 3 1) := hide (by rw [HPP.out, HHD.out, HHI.out, if_neg (fun q => h2 q.1)]; rfl)
    have h2' : ((hs.length : Int) != 2) = true := by rw [bne_iff_ne]; omega
    have HBV := HB2
    have HRX := HR2
    clear h2
    go_wp2_with (go_at_call 12; refine (l1Refuse_any _ _ _).mono ?_; rintro e wx ⟨rfl, hbx⟩; obtain ⟨⟨r0, r1, r2, r3⟩, rz⟩ := (HRX.out).keep (hbx.block _ (by omega)); have HBX := hide (bnext HBV.out hbx); clear hbx)
    exact bodyPost_ret (v := .agg #[.int .i64 3, .int .i64 1, .int .i64 0, .slice none 0 0]) (by simp [results, Tryz.results4, go_sem, r0, r1, r2, r3]) rfl ⟨_, rfl, set4W_below HBX.out (Nat.le_refl _) _ _ _ _, by rw [HO.out]; exact pars_bad 3 1 1 rfl⟩
end Go.Proofs.YtdcdgopblbmgoaaGreatDoor

/-
  spec.ParseFunc at every text.
-/
namespace Go.Proofs.YtdcdgopblbmgoaaGreatDoor
open Go.RowKit

theorem parseS_any (a : Option Addr) (n c : Nat) (text : List UInt8) (L B : Nat) (w : World) (ha : Hid (BytesAt w L B a text)) (hx : Hid (n = text.length)) (hnc : n ≤ c) (hl2 : n ≤ 9223372036854775807) (hB : B ≤ w.heap.size) :
    Calls Tryz.prog 4 #[.slice a n c] w fun e w' => ∃ val, e = .returned val ∧ Below w.heap.size w w' ∧ ParsAt w' w.heap.size w'.heap.size val (parseP text) := by
  by_cases h1 : 100000 < n
  · exact parseS_long a n c text w hx.out h1 hl2
  by_cases h2 : text.getLast? = some 10
  · have h3 : 0 < text.length := by
      cases text with
      | nil => cases h2
      | cons x r => simp
    obtain ⟨b, o, rfl, ⟨_, hb⟩, -⟩ := ha.out 0 h3
    exact parseS_main b o n c text L B w ha hx (by have := hx.out; omega) (by omega) hnc hB hb (hide h2)
  · exact parseS_noend a n c text L B w ha hx (by omega) hB (hide h2)
end Go.Proofs.YtdcdgopblbmgoaaGreatDoor
