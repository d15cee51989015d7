import Derived.Test.YtdcdgopblbmgoaaDoorE11a
import Derived.Test.YtdcdgopblbmgoaaDoorE11
import Derived.Test.YtdcdgopblbmgoaaDoorE7
/-
  The line of an end; appendCode of the program.
-/
namespace Go.Proofs.YtdcdgopblbmgoaaDoor
open Go.RowKit

/-- What the three calls of an end's line do. -/
theorem ter_line (B : Nat) (u : Value) (xs : List UInt8) (k : Nat) (a to els : Int) (W1 : World) (g : Nat) (hB : B ≤ W1.heap.size) (h1 : 1 ≤ k) (h2 : k ≤ 3) (hB2 : 0 < B ∧ 1 < B) (hlt : g < W1.heap.size)
    (hI : TerAt W1 g 0 ⟨k, a, to, els⟩) (hhp : ∃ c fz, W1.heap[g]? = some (.cells c 78 fz)) (ho : W1.ownsRow B 5 1 u xs.length (bytesV xs)) (hlen : xs.length + (termS ⟨k, a, to, els⟩).length ≤ 1000000000000)
    (hin : ∀ v ∈ [a, to, els], InB v) (htab : TabOk B W1) (ht : TerTabW W1) :
    ∃ l : List (Addr × Int), (∀ W, Below W1.heap.size W1 W → Calls Tryd.prog 109 #[.pointer (some ⟨g, 0, none⟩)] W (fun e w' => ∃ fa fc, e = .returned (.slice fa l.length fc) ∧ Hid (Below W1.heap.size W1 w') ∧ Hid (ValsAt w' W1.heap.size w'.heap.size fa ((l.map (·.1)).map ptrV)) ∧ w'.cell? ⟨g, 0, none⟩ = some (.int .i64 k) ∧ w'.cell? ⟨1, k * 4, none⟩ = some (.string (strOf (terW k))))) ∧
      (∀ w2 fa fc, Below W1.heap.size W1 w2 → ValsAt w2 W1.heap.size w2.heap.size fa ((l.map (·.1)).map ptrV) → Calls Tryd.prog 107 #[.slice fa l.length fc] w2 (fun e w' => ∃ qa qc, e = .returned (.slice qa l.length qc) ∧ Hid (Below W1.heap.size W1 w') ∧ Hid (∀ w'', Kp B w' w'' → IntsAt w'' w2.heap.size w'.heap.size qa (l.map (·.2))) ∧ w'.cell? ⟨g, 0, none⟩ = some (.int .i64 k) ∧ w'.cell? ⟨1, k * 4, none⟩ = some (.string (strOf (terW k))))) ∧
      (∀ w3 qa qc L M, Below W1.heap.size W1 w3 → (∀ w'', Kp B w3 w'' → IntsAt w'' L M qa (l.map (·.2))) → Calls Tryd.prog 63 #[u, .string (strOf (terW k)), .slice qa l.length qc] w3 (fun e w' => ∃ v, e = .returned v ∧ Hid (Kp B W1 w') ∧ Hid (w'.ownsRow B 5 1 v (xs ++ termS ⟨k, a, to, els⟩).length (bytesV (xs ++ termS ⟨k, a, to, els⟩))) ∧ w'.cell? ⟨g, 0, none⟩ = some (.int .i64 k) ∧ w'.cell? ⟨1, k * 4, none⟩ = some (.string (strOf (terW k))))) := by
  have hz := ht.1
  have g0 : W1.cell? ⟨g, 0, none⟩ = some (.int .i64 k) := hI.1
  have g1 : W1.cell? ⟨1, k * 4, none⟩ = some (.string (strOf (terW k))) := (ht.2 k h1 h2).1
  obtain ⟨l, hl1, hl2, hl3⟩ := fields_ter ⟨k, a, to, els⟩ ⟨by simp only; omega, by simp only; omega⟩ g 0
  simp only [Nat.zero_add] at hl1 hl2 hl3
  have HIS : termS ⟨k, a, to, els⟩ = lineS (terW k) (l.map (·.2)) := by rw [termS_eq]; simp only; rw [hl2]
  have hll : l.length ≤ 4 := by
    have := congrArg List.length hl1
    have h4 := keepP_len [(k : Int) != 1, (k : Int) != 3, (k : Int) == 2] [(⟨g, 1, none⟩ : Addr), ⟨g, 2, none⟩, ⟨g, 3, none⟩]
    simp only [List.length_map, List.length_cons, List.length_nil] at this h4; omega
  have HIV : ∀ v ∈ l.map (·.2), InB v := fun v hv => by
    obtain ⟨q, hq, rfl⟩ := List.mem_map.1 hv
    have := hl3 q hq
    simp only [List.mem_cons, List.not_mem_nil, or_false] at this
    exact hin _ (by rcases this with rfl | rfl | rfl <;> simp)
  have HKEEP : ∀ w', Below W1.heap.size W1 w' → w'.cell? ⟨g, 0, none⟩ = some (.int .i64 k) ∧ w'.cell? ⟨1, k * 4, none⟩ = some (.string (strOf (terW k))) := fun w' h => ⟨(h.cell (p := ⟨g, 0, none⟩) hlt).trans g0, (h.cell (p := ⟨1, k * 4, none⟩) (by show 1 < _; omega)).trans g1⟩
  refine ⟨l, ?_, ?_, ?_⟩
  · intro W hW
    have hWs := hW.size
    refine (usedT_any g k a to els W (hide (hI.keepS (hW.block _ hlt))) h1 h2 (hide (ht.keep hW (by omega)))).mono ?_
    rintro e w' ⟨v, rfl, hb, hown⟩
    rw [hl1] at hown
    obtain ⟨fa, fc, rfl, hvals⟩ := vals_owned hown
    have hvals := ValsAt.lower hvals hWs
    have hb : Below W1.heap.size W1 w' := hW.trans (hb.mono hWs)
    obtain ⟨s1, s2⟩ := HKEEP _ hb
    exact ⟨fa, fc, by simp, hide hb, hide hvals, s1, s2⟩
  · intro w2 fa fc hb2 hv2
    have hsz := hb2.size
    obtain ⟨n0, n1, n2, n3⟩ := hI
    have hcl : ∀ o, w2.cell? ⟨g, o, none⟩ = W1.cell? ⟨g, o, none⟩ := fun o => hb2.cell (p := ⟨g, o, none⟩) hlt
    have m1 := (hcl 1).trans n1
    have m2 := (hcl 2).trans n2
    have m3 := (hcl 3).trans n3
    have hlw : g < w2.heap.size := by omega
    refine (contentsL_any B l hll w2 W1.heap.size fa fc hv2 (fun q hq => ?_)).mono ?_
    · have hm := hl3 q hq
      simp only [List.mem_cons, List.not_mem_nil, or_false] at hm
      rcases hm with rfl | rfl | rfl
      · exact ⟨hlw, m1⟩
      · exact ⟨hlw, m2⟩
      · exact ⟨hlw, m3⟩
    · rintro e w' ⟨qa, qc, rfl, hb, hst⟩
      have hb3 : Below W1.heap.size W1 w' := hb2.trans (hb.mono hb2.size)
      obtain ⟨s1, s2⟩ := HKEEP _ hb3
      exact ⟨qa, qc, rfl, hide hb3, hide hst, s1, s2⟩
  · intro w3 qa qc L M hb3 hst
    have hK3 : Kp B W1 w3 := Kp.calm hb3 hB
    have hs3 := hb3.size
    refine (appendLine_any B u xs (terW k) qa l.length qc (l.map (·.2)) L M w3 (by omega) (hide (own_calm ho hb3)) (hide (by rw [← HIS]; exact hlen)) (hide hst) (hide (by simp)) (hide HIV) (hide (htab.on hK3.below))).mono ?_
    rintro e w' ⟨v, rfl, hk, hown⟩
    rw [← HIS] at hown
    have hk1 : Kp B W1 w' := hK3.trans hk
    obtain ⟨cs, fz, hh⟩ := hhp
    have hh2 := hk1.kept g _ hh (by simp) (fun c' fz' e' => by cases e')
    exact ⟨v, rfl, hide hk1, hide hown, (cell_of (hh2.trans hh.symm)).trans g0, (hk1.below.cell (p := ⟨1, k * 4, none⟩) (by show 1 < _; omega)).trans g1⟩
end Go.Proofs.YtdcdgopblbmgoaaDoor

/-
  appendCode of the program.
-/
namespace Go.Proofs.YtdcdgopblbmgoaaDoor
open Go.RowKit

theorem Kp.block {B g : Nat} {w w' : World} {t : TypeId} (h : Kp B w w') (hh : ∃ c fz, w.heap[g]? = some (.cells c t fz)) (ht : t ≠ 5) : w'.heap[g]? = w.heap[g]? := by
  obtain ⟨c, fz, hh⟩ := hh
  exact (h.kept g _ hh (by simp) (fun c' fz' e' => by cases e'; exact ht rfl)).trans hh.symm
set_option maxHeartbeats 2000000 in
set_option maxRecDepth 100000 in
theorem appendCode_any (B : Nat) (u : Value) (xs : List UInt8) (ia : Option Addr) (n ic : Nat) (is : List Ins) (kt : Nat) (ta to els : Int) (L M : Nat) (w : World) (hB : B ≤ w.heap.size) (hM : M ≤ B) (hi : Hid (InssAt w L M ia is)) (hx : Hid (n = is.length)) (hn : n ≤ 1048576)
    (hops : Hid (∀ i ∈ is, 1 ≤ i.op ∧ i.op ≤ 13)) (h1 : 1 ≤ kt) (h2 : kt ≤ 3) (hB2 : 0 < B ∧ 1 < B)
    (ho : Hid (w.ownsRow B 5 1 u xs.length (bytesV xs))) (hlen : Hid (xs.length + (codeS is ⟨kt, ta, to, els⟩).length ≤ 1000000000000))
    (hin : Hid (∀ i ∈ is, ∀ v ∈ [i.dst, i.a, i.b, i.imm], InB v)) (hinT : Hid (∀ v ∈ [ta, to, els], InB v)) (htab : Hid (TabOk B w)) (ht : Hid (OpTabW w)) (hT : Hid (TerTabW w)) :
    Calls Tryd.prog 66 #[u, .slice ia n ic, .agg #[.int .i64 kt, .int .i64 ta, .int .i64 to, .int .i64 els]] w fun e w' => ∃ v, e = .returned v ∧ Kp B w w' ∧ w'.ownsRow B 5 1 v (xs ++ codeS is ⟨kt, ta, to, els⟩).length (bytesV (xs ++ codeS is ⟨kt, ta, to, els⟩)) := by
  go_enter Tryd.func66, Tryd.ntmps66
  go_wp2
  have hhp : ∃ c fz, (w.alloc (.cells #[.int .i64 kt, .int .i64 ta, .int .i64 to, .int .i64 els] 78)).heap[w.heap.size]? = some (.cells c 78 fz) := ⟨_, _, heap_alloc_new w _⟩
  have hin1 : TerAt (w.alloc (.cells #[.int .i64 kt, .int .i64 ta, .int .i64 to, .int .i64 els] 78)) w.heap.size 0 ⟨kt, ta, to, els⟩ := by refine ⟨?_, ?_, ?_, ?_⟩ <;> simp
  have hsz : (w.alloc (.cells #[.int .i64 kt, .int .i64 ta, .int .i64 to, .int .i64 els] 78)).heap.size = w.heap.size + 1 := by simp
  have HKW : Hid (Kp B w (w.alloc (.cells #[.int .i64 kt, .int .i64 ta, .int .i64 to, .int .i64 els] 78))) := hide ((Kp.refl B w).alloc hB _)
  have HOW : Hid ((w.alloc (.cells #[.int .i64 kt, .int .i64 ta, .int .i64 to, .int .i64 els] 78)).ownsRow B 5 1 u xs.length (bytesV xs)) := hide (ho.out.alloc _)
  generalize (w.alloc (.cells #[.int .i64 kt, .int .i64 ta, .int .i64 to, .int .i64 els] 78)) = W0 at *
  have HHP := hide hhp
  have HIN1 := hide hin1
  have HSZ := hide hsz
  clear hhp hin1 hsz
  go_loopw [0, 11] (fun v i wr => ∃ q : Nat, q ≤ n ∧ i = .int .i64 q ∧ Hid (Kp B W0 wr) ∧ Hid (wr.ownsRow B 5 1 v (xs ++ (is.take q).flatMap insS).length (bytesV (xs ++ (is.take q).flatMap insS)))) (fun _ i _ => n - (intOf i).toNat)
  case atStart => exact ⟨0, Nat.zero_le _, rfl, hide (Kp.refl _ _), hide (by simpa using HOW.out)⟩
  case round =>
    clear HOW
    obtain ⟨q, hq, rfl, HK, HO⟩ := hrel
    have hwz : w.heap.size + 1 ≤ wr.heap.size := by have h1 := HK.out.below.size; have h2 := HSZ.out; omega
    have HKT : Hid (Kp B w wr) := hide (HKW.out.trans HK.out)
    by_cases hlt : q < n
    · have hkx : q < is.length := by have := hx.out; omega
      obtain ⟨b, o, rfl, ⟨hbL, hbB⟩, ⟨d0, d1, d2, d3, d4⟩⟩ := (hi.out.keepS (Same.of_below (HKT.out.below.mono hM))) q hkx
      have HLj : Hid ((xs ++ (is.take q).flatMap insS).length + (insS is[q]).length ≤ 1000000000000) := hide (by have h1 := hlen.out; have h2 := code_len (t := ⟨kt, ta, to, els⟩) hkx; rw [List.length_append]; omega)
      have HKj := hide (hin.out is[q] (List.getElem_mem hkx))
      have HOJ := hide (hops.out is[q] (List.getElem_mem hkx))
      have HTj := hide (flat_next insS is q hkx)
      generalize is[q] = I at *
      have HX : Hid (xs ++ (is.take (q + 1)).flatMap insS = (xs ++ (is.take q).flatMap insS) ++ insS I) := hide (by rw [HTj.out]; simp)
      generalize xs ++ (is.take q).flatMap insS = TT at *
      obtain ⟨op, dst, ia1, ib1, imm⟩ := I
      obtain ⟨m, hm⟩ := Int.eq_ofNat_of_zero_le (show 0 ≤ op by have := HOJ.out; simp only at this; omega)
      subst hm
      simp only at d0 d1 d2 d3 d4
      have hm1 : 1 ≤ m := by have := HOJ.out; simp only at this; omega
      have hm2 : m ≤ 13 := by have := HOJ.out; simp only at this; omega
      go_wp2_with fail
      have hsz : (wr.alloc (.cells #[.int .i64 m, .int .i64 dst, .int .i64 ia1, .int .i64 ib1, .int .i64 imm] 83)).heap.size = wr.heap.size + 1 := by simp
      have hin1 : InsAt (wr.alloc (.cells #[.int .i64 m, .int .i64 dst, .int .i64 ia1, .int .i64 ib1, .int .i64 imm] 83)) wr.heap.size 0 ⟨m, dst, ia1, ib1, imm⟩ := by refine ⟨?_, ?_, ?_, ?_, ?_⟩ <;> simp
      have hhp : ∃ c fz, (wr.alloc (.cells #[.int .i64 m, .int .i64 dst, .int .i64 ia1, .int .i64 ib1, .int .i64 imm] 83)).heap[wr.heap.size]? = some (.cells c 83 fz) := ⟨_, _, heap_alloc_new wr _⟩
      have HKA : Hid (Kp B wr (wr.alloc (.cells #[.int .i64 m, .int .i64 dst, .int .i64 ia1, .int .i64 ib1, .int .i64 imm] 83))) := hide ((Kp.refl B wr).alloc (by omega) _)
      have HOA : Hid ((wr.alloc (.cells #[.int .i64 m, .int .i64 dst, .int .i64 ia1, .int .i64 ib1, .int .i64 imm] 83)).ownsRow B 5 1 u0 TT.length (bytesV TT)) := hide (HO.out.alloc _)
      generalize (wr.alloc (.cells #[.int .i64 m, .int .i64 dst, .int .i64 ia1, .int .i64 ib1, .int .i64 imm] 83)) = W1 at *
      have HB1 : Hid (Kp B w W1) := hide (HKT.out.trans HKA.out)
      have g0 : W1.cell? ⟨wr.heap.size, 0, none⟩ = some (.int .i64 m) := hin1.1
      have HTW : Hid (OpTabW W1) := hide (ht.out.keep HB1.out.below (by omega))
      have g1 : W1.cell? ⟨0, m * 5, none⟩ = some (.string (strOf (wordS m))) := (HTW.out.2 m hm1 hm2).1
      obtain ⟨l, hU, hCT, hAL⟩ := ins_line B u0 TT m dst ia1 ib1 imm W1 wr.heap.size (by omega) hm1 hm2 hB2 (by omega) hin1 hhp HOA.out HLj.out HKj.out (htab.out.on HB1.out.below) HTW.out
      have HU := hide hU
      have HCT := hide hCT
      have HAL := hide hAL
      have hlt2 : wr.heap.size < W1.heap.size := by omega
      have hz : 0 < W1.heap.size := HTW.out.1
      clear hU hCT hAL hin1 hhp hsz d0 d1 d2 d3 d4
      have hk0 : (0 : Int) ≤ (m : Int) := by omega
      have hk1 : (m : Int) < 14 := by omega
      have hk2 : m < 14 := by omega
      have HB00 : Hid (Below W1.heap.size W1 W1) := hide (Below.refl _ _)
      have HB01 : Hid (Below W1.heap.size W1 W1.drew) := hide (Below.refl _ _).drew
      go_region_held3 (fun w' => w'.cell? ⟨wr.heap.size, 0, none⟩ = some (.int .i64 m) ∧ w'.cell? ⟨0, m * 5, none⟩ = some (.string (strOf (wordS m)))) (go_keep)
        (first
          | (go_at_call 108; with_reducible refine (HU.out W1 HB00.out).mono ?_; rintro e w5 ⟨fa, fc, rfl, HB5, HV5, f1, f2⟩)
          | (go_at_call 108; with_reducible refine (HU.out W1.drew HB01.out).mono ?_; rintro e w5 ⟨fa, fc, rfl, HB5, HV5, f1, f2⟩)
          | (go_at_call 107; with_reducible refine (HCT.out _ _ _ HB5.out HV5.out).mono ?_; rintro e w6 ⟨qa, qc, rfl, HB6, HS6, f3, f4⟩)
          | (go_at_call 63; with_reducible refine (HAL.out _ _ _ _ _ HB6.out HS6.out).mono ?_; rintro e w7 ⟨v7, rfl, HK7, HO7, f5, f6⟩))
      all_goals
        have HK8 : Hid (Kp B W0 w7) := hide ((HK.out.trans HKA.out).trans HK7.out)
        have HO8 : Hid (w7.ownsRow B 5 1 v7 (xs ++ (is.take (q + 1)).flatMap insS).length (bytesV (xs ++ (is.take (q + 1)).flatMap insS))) := hide (by rw [HX.out]; exact HO7.out)
        go_wp2
        exact ⟨⟨q + 1, by omega, by go_num, HK8, HO8⟩, by simp [intOf]; omega⟩
    · have HO5 : Hid (wr.ownsRow B 5 1 u0 (xs ++ is.flatMap insS).length (bytesV (xs ++ is.flatMap insS))) := hide (by have := HO.out; rwa [List.take_of_length_le (by have := hx.out; omega)] at this)
      have HX : Hid (xs ++ codeS is ⟨kt, ta, to, els⟩ = (xs ++ is.flatMap insS) ++ termS ⟨kt, ta, to, els⟩) := hide (by unfold codeS; simp)
      have HL5 : Hid ((xs ++ is.flatMap insS).length + (termS ⟨kt, ta, to, els⟩).length ≤ 1000000000000) := hide (by have h1 := hlen.out; unfold codeS at h1; rw [List.length_append] at h1 ⊢; omega)
      generalize xs ++ is.flatMap insS = TT at *
      have hbk := HK.out.block HHP.out (by decide)
      have hT1 : TerAt wr w.heap.size 0 ⟨kt, ta, to, els⟩ := HIN1.out.keepS hbk
      have hhp : ∃ c fz, wr.heap[w.heap.size]? = some (.cells c 78 fz) := by rw [hbk]; exact HHP.out
      have g0 : wr.cell? ⟨w.heap.size, 0, none⟩ = some (.int .i64 kt) := hT1.1
      have HTW : Hid (TerTabW wr) := hide (hT.out.keep HKT.out.below (by omega))
      have g1 : wr.cell? ⟨1, kt * 4, none⟩ = some (.string (strOf (terW kt))) := (HTW.out.2 kt h1 h2).1
      obtain ⟨l, hU, hCT, hAL⟩ := ter_line B u0 TT kt ta to els wr w.heap.size (by omega) h1 h2 hB2 (by omega) hT1 hhp HO5.out HL5.out hinT.out (htab.out.on HKT.out.below) HTW.out
      have HU := hide hU
      have HCT := hide hCT
      have HAL := hide hAL
      have hlt2 : w.heap.size < wr.heap.size := by omega
      have hz : 1 < wr.heap.size := HTW.out.1
      clear hU hCT hAL hT1 hhp hbk
      have hk0 : (0 : Int) ≤ (kt : Int) := by omega
      have hk1 : (kt : Int) < 4 := by omega
      have hk2 : kt < 4 := by omega
      have HB00 : Hid (Below wr.heap.size wr wr) := hide (Below.refl _ _)
      have HB01 : Hid (Below wr.heap.size wr wr.drew) := hide (Below.refl _ _).drew
      go_wp2_with fail
      go_region_held3 (fun w' => w'.cell? ⟨w.heap.size, 0, none⟩ = some (.int .i64 kt) ∧ w'.cell? ⟨1, kt * 4, none⟩ = some (.string (strOf (terW kt)))) (go_keep)
        (first
          | (go_at_call 109; with_reducible refine (HU.out wr HB00.out).mono ?_; rintro e w5 ⟨fa, fc, rfl, HB5, HV5, f1, f2⟩)
          | (go_at_call 109; with_reducible refine (HU.out wr.drew HB01.out).mono ?_; rintro e w5 ⟨fa, fc, rfl, HB5, HV5, f1, f2⟩)
          | (go_at_call 107; with_reducible refine (HCT.out _ _ _ HB5.out HV5.out).mono ?_; rintro e w6 ⟨qa, qc, rfl, HB6, HS6, f3, f4⟩)
          | (go_at_call 63; with_reducible refine (HAL.out _ _ _ _ _ HB6.out HS6.out).mono ?_; rintro e w7 ⟨v7, rfl, HK7, HO7, f5, f6⟩))
      all_goals
        have HK8 : Hid (Kp B w w7) := hide (HKT.out.trans HK7.out)
        have HO8 : Hid (w7.ownsRow B 5 1 v7 (xs ++ codeS is ⟨kt, ta, to, els⟩).length (bytesV (xs ++ codeS is ⟨kt, ta, to, els⟩))) := hide (by rw [HX.out]; exact HO7.out)
        go_wp2
        go_ret
        exact ⟨_, rfl, HK8.out, HO8.out⟩
end Go.Proofs.YtdcdgopblbmgoaaDoor
