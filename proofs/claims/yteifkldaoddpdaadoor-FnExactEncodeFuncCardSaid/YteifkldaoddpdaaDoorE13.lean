import Derived.Test.YteifkldaoddpdaaDoorE11
/-
  appendInstr of the program.
-/
namespace Go.Proofs.YteifkldaoddpdaaDoor
open Go.RowKit

/-- The row of numbers stays, whatever writing a line does. -/
theorem ints_stay {w : World} {base e n B : Nat} {v : Value} {vs : List Int} (ho : w.ownsRow base e 1 v n (vs.map (Value.int .i64))) (he : e ≠ 5) : ∃ a c, v = .slice a vs.length c ∧ ∀ w', Kp B w w' → IntsAt w' base w.heap.size a vs := by
  obtain ⟨a, c, rfl, hI⟩ := ints_owned ho
  refine ⟨a, c, rfl, fun w' hk i hi => ?_⟩
  obtain ⟨b, o, rfl, hb, hc⟩ := hI i hi
  refine ⟨b, o, rfl, hb, ?_⟩
  obtain ⟨cs, fz, hh⟩ := own_cells ho rfl
  have := hk.kept b _ hh (by simp) (fun c' fz' e' => by cases e'; exact he rfl)
  rw [cell_of (this.trans hh.symm)]
  exact hc

theorem ValsAt.lower {w : World} {L L' B : Nat} {a : Option Addr} {vs : List Value} (h : ValsAt w L B a vs) (hl : L' ≤ L) : ValsAt w L' B a vs := fun i hi => by
  obtain ⟨b, o, e, hb, hc⟩ := h i hi
  exact ⟨b, o, e, by omega, hc⟩
theorem contentsL_any (B : Nat) (l : List (Addr × Int)) (hll : l.length ≤ 4) (w : World) (L : Nat) (fa : Option Addr) (fc : Nat) (hv : ValsAt w L w.heap.size fa ((l.map (·.1)).map ptrV)) (hc : ∀ q ∈ l, q.1.block < w.heap.size ∧ w.cell? q.1 = some (.int .i64 q.2)) :
    Calls Tryd.prog 71 #[.slice fa l.length fc] w (fun e w' => ∃ qa qc, e = .returned (.slice qa l.length qc) ∧ Below w.heap.size w w' ∧ (∀ w'', Kp B w' w'' → IntsAt w'' w.heap.size w'.heap.size qa (l.map (·.2)))) := by
  have e1 : (l.map (·.1)).length = l.length := by simp
  have e2 : (l.map (·.2)).length = l.length := by simp
  have h := contents_any fa fc (l.map (·.1)) (l.map (·.2)) L w.heap.size w (Nat.le_refl _) (hide hv) (hide (e2.trans e1.symm)) (hide (fun i h h' => by
    have hi : i < l.length := by omega
    have hm := hc l[i] (List.getElem_mem hi)
    rw [List.getElem_map, List.getElem_map]
    exact hm)) (by omega)
  rw [e1] at h
  refine h.mono ?_
  rintro e w' ⟨v, rfl, hb, hown⟩
  obtain ⟨qa, qc, rfl, hst⟩ := ints_stay (B := B) hown (by decide)
  rw [e2]
  exact ⟨qa, qc, rfl, hb, hst⟩

set_option maxHeartbeats 1000000 in
set_option maxRecDepth 100000 in
theorem appendInstr_any (B : Nat) (u : Value) (xs : List UInt8) (k : Nat) (dst a bb imm : Int) (w : World) (hB : B ≤ w.heap.size) (h1 : 1 ≤ k) (h2 : k ≤ 10) (hB2 : 1 < B)
    (ho : Hid (w.ownsRow B 5 1 u xs.length (bytesV xs))) (hlen : Hid (xs.length + (insS ⟨k, dst, a, bb, imm⟩).length ≤ 1000000000000))
    (hin : Hid (∀ v ∈ [dst, a, bb, imm], InB v)) (htab : Hid (TabOk B w)) (ht : Hid (OpTabW w)) :
    Calls Tryd.prog 43 #[u, .agg #[.int .i64 k, .int .i64 dst, .int .i64 a, .int .i64 bb, .int .i64 imm]] w fun e w' => ∃ v, e = .returned v ∧ Kp B w w' ∧ w'.ownsRow B 5 1 v (xs ++ insS ⟨k, dst, a, bb, imm⟩).length (bytesV (xs ++ insS ⟨k, dst, a, bb, imm⟩)) := by
  obtain ⟨c0, c1, c2, c3, c4⟩ := ht.out.2 k h1 h2
  have hz := ht.out.1
  go_enter Tryd.func43, Tryd.ntmps43
  go_wp2_with fail
  have hsz : (w.alloc (.cells #[.int .i64 k, .int .i64 dst, .int .i64 a, .int .i64 bb, .int .i64 imm] 58)).heap.size = w.heap.size + 1 := by simp
  have hin1 : InsAt (w.alloc (.cells #[.int .i64 k, .int .i64 dst, .int .i64 a, .int .i64 bb, .int .i64 imm] 58)) w.heap.size 0 ⟨k, dst, a, bb, imm⟩ := by refine ⟨?_, ?_, ?_, ?_, ?_⟩ <;> simp
  have hhp : ∃ c fz, (w.alloc (.cells #[.int .i64 k, .int .i64 dst, .int .i64 a, .int .i64 bb, .int .i64 imm] 58)).heap[w.heap.size]? = some (.cells c 58 fz) := ⟨_, _, heap_alloc_new w _⟩
  have HBW : Hid (Below w.heap.size w (w.alloc (.cells #[.int .i64 k, .int .i64 dst, .int .i64 a, .int .i64 bb, .int .i64 imm] 58))) := hide (balloc (Below.refl _ _) _)
  have HOW : Hid ((w.alloc (.cells #[.int .i64 k, .int .i64 dst, .int .i64 a, .int .i64 bb, .int .i64 imm] 58)).ownsRow B 5 1 u xs.length (bytesV xs)) := hide (ho.out.alloc _)
  generalize (w.alloc (.cells #[.int .i64 k, .int .i64 dst, .int .i64 a, .int .i64 bb, .int .i64 imm] 58)) = W1 at *
  have HIN1 := hide hin1
  have HHP := hide hhp
  have g0 : W1.cell? ⟨w.heap.size, 0, none⟩ = some (.int .i64 k) := hin1.1
  have g1 : W1.cell? ⟨0, k * 5, none⟩ = some (.string (strOf (wordS k))) := (HBW.out.cell (p := ⟨0, k * 5, none⟩) hz).trans c0
  have hlt : w.heap.size < W1.heap.size := by omega
  have HSZ := hide hsz
  have HKW : Hid (Kp B w W1) := hide (Kp.calm HBW.out hB)
  clear hin1 hhp hsz c0 c1 c2 c3 c4
  obtain ⟨l, hl1, hl2, hl3⟩ := fields_ins ⟨k, dst, a, bb, imm⟩ ⟨by simp only; omega, by simp only; omega⟩ w.heap.size 0
  simp only [Nat.zero_add] at hl1 hl2 hl3
  have HL3 := hide hl3
  have HIS : Hid (insS ⟨k, dst, a, bb, imm⟩ = lineS (wordS k) (l.map (·.2))) := hide (by unfold insS; simp only; rw [hl2])
  have hll : l.length ≤ 4 := by
    have := congrArg List.length hl1
    have h4 := keepP_len [dB k, aB k, bB k, iB k] [(⟨w.heap.size, 1, none⟩ : Addr), ⟨w.heap.size, 2, none⟩, ⟨w.heap.size, 3, none⟩, ⟨w.heap.size, 4, none⟩]
    simp only [List.length_map, List.length_cons, List.length_nil] at this h4; omega
  have HIV : Hid (∀ v ∈ l.map (·.2), InB v) := hide (fun v hv => by
    obtain ⟨q, hq, rfl⟩ := List.mem_map.1 hv
    have := hl3 q hq
    simp only [List.mem_cons, List.not_mem_nil, or_false] at this
    exact hin.out _ (by rcases this with rfl | rfl | rfl | rfl <;> simp))
  have HKEEP : Hid (∀ w', Below W1.heap.size W1 w' → w'.cell? ⟨w.heap.size, 0, none⟩ = some (.int .i64 k) ∧ w'.cell? ⟨0, k * 5, none⟩ = some (.string (strOf (wordS k)))) := hide (fun w' h => ⟨(h.cell (p := ⟨w.heap.size, 0, none⟩) hlt).trans g0, (h.cell (p := ⟨0, k * 5, none⟩) (by show 0 < _; omega)).trans g1⟩)
  have HU : Hid (∀ W, Below W1.heap.size W1 W → Calls Tryd.prog 72 #[.pointer (some ⟨w.heap.size, 0, none⟩)] W (fun e w' => ∃ fa fc, e = .returned (.slice fa l.length fc) ∧ Hid (Below W1.heap.size W1 w') ∧ Hid (ValsAt w' W1.heap.size w'.heap.size fa ((l.map (·.1)).map ptrV)) ∧ w'.cell? ⟨w.heap.size, 0, none⟩ = some (.int .i64 k) ∧ w'.cell? ⟨0, k * 5, none⟩ = some (.string (strOf (wordS k))))) := hide (by
    intro W hW
    have hWs := hW.size
    refine (usedI_any w.heap.size k dst a bb imm W (hide (HIN1.out.keepS (hW.block _ hlt))) h1 h2 (hide ((ht.out.keep HBW.out (by omega)).keep hW (by omega)))).mono ?_
    rintro e w' ⟨v, rfl, hb, hown⟩
    rw [hl1] at hown
    obtain ⟨fa, fc, rfl, hvals⟩ := vals_owned hown
    have hvals := ValsAt.lower hvals hWs
    have hb : Below W1.heap.size W1 w' := hW.trans (hb.mono hWs)
    obtain ⟨s1, s2⟩ := HKEEP.out _ hb
    exact ⟨fa, fc, by simp, hide hb, hide hvals, s1, s2⟩)
  have HCT : Hid (∀ w2 fa fc, Below W1.heap.size W1 w2 → ValsAt w2 W1.heap.size w2.heap.size fa ((l.map (·.1)).map ptrV) → Calls Tryd.prog 71 #[.slice fa l.length fc] w2 (fun e w' => ∃ qa qc, e = .returned (.slice qa l.length qc) ∧ Hid (Below W1.heap.size W1 w') ∧ Hid (∀ w'', Kp B w' w'' → IntsAt w'' w2.heap.size w'.heap.size qa (l.map (·.2))) ∧ w'.cell? ⟨w.heap.size, 0, none⟩ = some (.int .i64 k) ∧ w'.cell? ⟨0, k * 5, none⟩ = some (.string (strOf (wordS k))))) := hide (by
    intro w2 fa fc hb2 hv2
    have hsz := hb2.size
    obtain ⟨n0, n1, n2, n3, n4⟩ := HIN1.out
    have hcl : ∀ o, w2.cell? ⟨w.heap.size, o, none⟩ = W1.cell? ⟨w.heap.size, o, none⟩ := fun o => hb2.cell (p := ⟨w.heap.size, o, none⟩) hlt
    have m1 := (hcl 1).trans n1
    have m2 := (hcl 2).trans n2
    have m3 := (hcl 3).trans n3
    have m4 := (hcl 4).trans n4
    have hlw : w.heap.size < w2.heap.size := by omega
    refine (contentsL_any B l hll w2 W1.heap.size fa fc hv2 (fun q hq => ?_)).mono ?_
    · have hm := HL3.out q hq
      simp only [List.mem_cons, List.not_mem_nil, or_false] at hm
      rcases hm with rfl | rfl | rfl | rfl
      · exact ⟨hlw, m1⟩
      · exact ⟨hlw, m2⟩
      · exact ⟨hlw, m3⟩
      · exact ⟨hlw, m4⟩
    · rintro e w' ⟨qa, qc, rfl, hb, hst⟩
      have hb3 : Below W1.heap.size W1 w' := hb2.trans (hb.mono hb2.size)
      obtain ⟨s1, s2⟩ := HKEEP.out _ hb3
      exact ⟨qa, qc, rfl, hide hb3, hide hst, s1, s2⟩)
  have HAL : Hid (∀ w3 qa qc L M, Below W1.heap.size W1 w3 → (∀ w'', Kp B w3 w'' → IntsAt w'' L M qa (l.map (·.2))) → Calls Tryd.prog 40 #[u, .string (strOf (wordS k)), .slice qa l.length qc] w3 (fun e w' => ∃ v, e = .returned v ∧ Hid (Kp B w w') ∧ Hid (w'.ownsRow B 5 1 v (xs ++ insS ⟨k, dst, a, bb, imm⟩).length (bytesV (xs ++ insS ⟨k, dst, a, bb, imm⟩))) ∧ w'.cell? ⟨w.heap.size, 0, none⟩ = some (.int .i64 k) ∧ w'.cell? ⟨0, k * 5, none⟩ = some (.string (strOf (wordS k))))) := hide (by
    intro w3 qa qc L M hb3 hst
    have hK3 : Kp B w w3 := HKW.out.trans (Kp.calm hb3 (by omega))
    have hs3 := hb3.size
    refine (appendLine_any B u xs (wordS k) qa l.length qc (l.map (·.2)) L M w3 (by omega) (hide (own_calm HOW.out hb3)) (hide (by rw [← HIS.out]; exact hlen.out)) (hide hst) (hide (by simp)) HIV (hide (htab.out.on hK3.below))).mono ?_
    rintro e w' ⟨v, rfl, hk, hown⟩
    rw [← HIS.out] at hown
    have hk1 : Kp B W1 w' := (Kp.calm hb3 (by omega)).trans hk
    obtain ⟨cs, fz, hh⟩ := HHP.out
    have hh2 := hk1.kept w.heap.size _ hh (by simp) (fun c' fz' e' => by cases e')
    refine ⟨v, rfl, hide (hK3.trans hk), hide hown, (cell_of (hh2.trans hh.symm)).trans g0, (hk1.below.cell (p := ⟨0, k * 5, none⟩) (by show 0 < _; omega)).trans g1⟩)
  have hk0 : (0 : Int) ≤ (k : Int) := by omega
  have hk1 : (k : Int) < 11 := by omega
  have hk2 : k < 11 := by omega
  have HB00 : Hid (Below W1.heap.size W1 W1) := hide (Below.refl _ _)
  have HB01 : Hid (Below W1.heap.size W1 W1.drew) := hide (Below.refl _ _).drew
  go_region_held3 (fun w' => w'.cell? ⟨w.heap.size, 0, none⟩ = some (.int .i64 k) ∧ w'.cell? ⟨0, k * 5, none⟩ = some (.string (strOf (wordS k)))) (go_keep)
    (first
      | (go_at_call 72; with_reducible refine (HU.out W1 HB00.out).mono ?_; rintro e w5 ⟨fa, fc, rfl, HB5, HV5, f1, f2⟩)
      | (go_at_call 72; with_reducible refine (HU.out W1.drew HB01.out).mono ?_; rintro e w5 ⟨fa, fc, rfl, HB5, HV5, f1, f2⟩)
      | (go_at_call 71; with_reducible refine (HCT.out _ _ _ HB5.out HV5.out).mono ?_; rintro e w6 ⟨qa, qc, rfl, HB6, HS6, f3, f4⟩)
      | (go_at_call 40; with_reducible refine (HAL.out _ _ _ _ _ HB6.out HS6.out).mono ?_; rintro e w7 ⟨v7, rfl, HK7, HO7, f5, f6⟩))
  all_goals
    go_wp2
    go_ret
    exact ⟨_, rfl, HK7.out, HO7.out⟩
end Go.Proofs.YteifkldaoddpdaaDoor

/-
  appendTerm of the program.
-/
namespace Go.Proofs.YteifkldaoddpdaaDoor
open Go.RowKit

set_option maxHeartbeats 1000000 in
set_option maxRecDepth 100000 in
theorem appendTerm_any (B : Nat) (u : Value) (xs : List UInt8) (k : Nat) (a to els : Int) (w : World) (hB : B ≤ w.heap.size) (h1 : 1 ≤ k) (h2 : k ≤ 3) (hB2 : 1 < B)
    (ho : Hid (w.ownsRow B 5 1 u xs.length (bytesV xs))) (hlen : Hid (xs.length + (termS ⟨k, a, to, els⟩).length ≤ 1000000000000))
    (hin : Hid (∀ v ∈ [a, to, els], InB v)) (htab : Hid (TabOk B w)) (ht : Hid (TerTabW w)) :
    Calls Tryd.prog 44 #[u, .agg #[.int .i64 k, .int .i64 a, .int .i64 to, .int .i64 els]] w fun e w' => ∃ v, e = .returned v ∧ Kp B w w' ∧ w'.ownsRow B 5 1 v (xs ++ termS ⟨k, a, to, els⟩).length (bytesV (xs ++ termS ⟨k, a, to, els⟩)) := by
  obtain ⟨c0, c1, c2, c3⟩ := ht.out.2 k h1 h2
  have hz := ht.out.1
  go_enter Tryd.func44, Tryd.ntmps44
  go_wp2_with fail
  have hsz : (w.alloc (.cells #[.int .i64 k, .int .i64 a, .int .i64 to, .int .i64 els] 53)).heap.size = w.heap.size + 1 := by simp
  have hin1 : TerAt (w.alloc (.cells #[.int .i64 k, .int .i64 a, .int .i64 to, .int .i64 els] 53)) w.heap.size 0 ⟨k, a, to, els⟩ := by refine ⟨?_, ?_, ?_, ?_⟩ <;> simp
  have hhp : ∃ c fz, (w.alloc (.cells #[.int .i64 k, .int .i64 a, .int .i64 to, .int .i64 els] 53)).heap[w.heap.size]? = some (.cells c 53 fz) := ⟨_, _, heap_alloc_new w _⟩
  have HBW : Hid (Below w.heap.size w (w.alloc (.cells #[.int .i64 k, .int .i64 a, .int .i64 to, .int .i64 els] 53))) := hide (balloc (Below.refl _ _) _)
  have HOW : Hid ((w.alloc (.cells #[.int .i64 k, .int .i64 a, .int .i64 to, .int .i64 els] 53)).ownsRow B 5 1 u xs.length (bytesV xs)) := hide (ho.out.alloc _)
  generalize (w.alloc (.cells #[.int .i64 k, .int .i64 a, .int .i64 to, .int .i64 els] 53)) = W1 at *
  have HIN1 := hide hin1
  have HHP := hide hhp
  have g0 : W1.cell? ⟨w.heap.size, 0, none⟩ = some (.int .i64 k) := hin1.1
  have g1 : W1.cell? ⟨1, k * 4, none⟩ = some (.string (strOf (terW k))) := (HBW.out.cell (p := ⟨1, k * 4, none⟩) hz).trans c0
  have hlt : w.heap.size < W1.heap.size := by omega
  have HSZ := hide hsz
  have HKW : Hid (Kp B w W1) := hide (Kp.calm HBW.out hB)
  clear hin1 hhp hsz c0 c1 c2 c3
  obtain ⟨l, hl1, hl2, hl3⟩ := fields_ter ⟨k, a, to, els⟩ ⟨by simp only; omega, by simp only; omega⟩ w.heap.size 0
  simp only [Nat.zero_add] at hl1 hl2 hl3
  have HL3 := hide hl3
  have HIS : Hid (termS ⟨k, a, to, els⟩ = lineS (terW k) (l.map (·.2))) := hide (by rw [termS_eq]; simp only; rw [hl2])
  have hll : l.length ≤ 4 := by
    have := congrArg List.length hl1
    have h4 := keepP_len [(k : Int) != 1, (k : Int) != 3, (k : Int) == 2] [(⟨w.heap.size, 1, none⟩ : Addr), ⟨w.heap.size, 2, none⟩, ⟨w.heap.size, 3, none⟩]
    simp only [List.length_map, List.length_cons, List.length_nil] at this h4; omega
  have HIV : Hid (∀ v ∈ l.map (·.2), InB v) := hide (fun v hv => by
    obtain ⟨q, hq, rfl⟩ := List.mem_map.1 hv
    have := hl3 q hq
    simp only [List.mem_cons, List.not_mem_nil, or_false] at this
    exact hin.out _ (by rcases this with rfl | rfl | rfl <;> simp))
  have HKEEP : Hid (∀ w', Below W1.heap.size W1 w' → w'.cell? ⟨w.heap.size, 0, none⟩ = some (.int .i64 k) ∧ w'.cell? ⟨1, k * 4, none⟩ = some (.string (strOf (terW k)))) := hide (fun w' h => ⟨(h.cell (p := ⟨w.heap.size, 0, none⟩) hlt).trans g0, (h.cell (p := ⟨1, k * 4, none⟩) (by show 1 < _; omega)).trans g1⟩)
  have HU : Hid (∀ W, Below W1.heap.size W1 W → Calls Tryd.prog 73 #[.pointer (some ⟨w.heap.size, 0, none⟩)] W (fun e w' => ∃ fa fc, e = .returned (.slice fa l.length fc) ∧ Hid (Below W1.heap.size W1 w') ∧ Hid (ValsAt w' W1.heap.size w'.heap.size fa ((l.map (·.1)).map ptrV)) ∧ w'.cell? ⟨w.heap.size, 0, none⟩ = some (.int .i64 k) ∧ w'.cell? ⟨1, k * 4, none⟩ = some (.string (strOf (terW k))))) := hide (by
    intro W hW
    have hWs := hW.size
    refine (usedT_any w.heap.size k a to els W (hide (HIN1.out.keepS (hW.block _ hlt))) h1 h2 (hide ((ht.out.keep HBW.out (by omega)).keep hW (by omega)))).mono ?_
    rintro e w' ⟨v, rfl, hb, hown⟩
    rw [hl1] at hown
    obtain ⟨fa, fc, rfl, hvals⟩ := vals_owned hown
    have hvals := ValsAt.lower hvals hWs
    have hb : Below W1.heap.size W1 w' := hW.trans (hb.mono hWs)
    obtain ⟨s1, s2⟩ := HKEEP.out _ hb
    exact ⟨fa, fc, by simp, hide hb, hide hvals, s1, s2⟩)
  have HCT : Hid (∀ w2 fa fc, Below W1.heap.size W1 w2 → ValsAt w2 W1.heap.size w2.heap.size fa ((l.map (·.1)).map ptrV) → Calls Tryd.prog 71 #[.slice fa l.length fc] w2 (fun e w' => ∃ qa qc, e = .returned (.slice qa l.length qc) ∧ Hid (Below W1.heap.size W1 w') ∧ Hid (∀ w'', Kp B w' w'' → IntsAt w'' w2.heap.size w'.heap.size qa (l.map (·.2))) ∧ w'.cell? ⟨w.heap.size, 0, none⟩ = some (.int .i64 k) ∧ w'.cell? ⟨1, k * 4, none⟩ = some (.string (strOf (terW k))))) := hide (by
    intro w2 fa fc hb2 hv2
    have hsz := hb2.size
    obtain ⟨n0, n1, n2, n3⟩ := HIN1.out
    have hcl : ∀ o, w2.cell? ⟨w.heap.size, o, none⟩ = W1.cell? ⟨w.heap.size, o, none⟩ := fun o => hb2.cell (p := ⟨w.heap.size, o, none⟩) hlt
    have m1 := (hcl 1).trans n1
    have m2 := (hcl 2).trans n2
    have m3 := (hcl 3).trans n3
    have hlw : w.heap.size < w2.heap.size := by omega
    refine (contentsL_any B l hll w2 W1.heap.size fa fc hv2 (fun q hq => ?_)).mono ?_
    · have hm := HL3.out q hq
      simp only [List.mem_cons, List.not_mem_nil, or_false] at hm
      rcases hm with rfl | rfl | rfl
      · exact ⟨hlw, m1⟩
      · exact ⟨hlw, m2⟩
      · exact ⟨hlw, m3⟩
    · rintro e w' ⟨qa, qc, rfl, hb, hst⟩
      have hb3 : Below W1.heap.size W1 w' := hb2.trans (hb.mono hb2.size)
      obtain ⟨s1, s2⟩ := HKEEP.out _ hb3
      exact ⟨qa, qc, rfl, hide hb3, hide hst, s1, s2⟩)
  have HAL : Hid (∀ w3 qa qc L M, Below W1.heap.size W1 w3 → (∀ w'', Kp B w3 w'' → IntsAt w'' L M qa (l.map (·.2))) → Calls Tryd.prog 40 #[u, .string (strOf (terW k)), .slice qa l.length qc] w3 (fun e w' => ∃ v, e = .returned v ∧ Hid (Kp B w w') ∧ Hid (w'.ownsRow B 5 1 v (xs ++ termS ⟨k, a, to, els⟩).length (bytesV (xs ++ termS ⟨k, a, to, els⟩))) ∧ w'.cell? ⟨w.heap.size, 0, none⟩ = some (.int .i64 k) ∧ w'.cell? ⟨1, k * 4, none⟩ = some (.string (strOf (terW k))))) := hide (by
    intro w3 qa qc L M hb3 hst
    have hK3 : Kp B w w3 := HKW.out.trans (Kp.calm hb3 (by omega))
    have hs3 := hb3.size
    refine (appendLine_any B u xs (terW k) qa l.length qc (l.map (·.2)) L M w3 (by omega) (hide (own_calm HOW.out hb3)) (hide (by rw [← HIS.out]; exact hlen.out)) (hide hst) (hide (by simp)) HIV (hide (htab.out.on hK3.below))).mono ?_
    rintro e w' ⟨v, rfl, hk, hown⟩
    rw [← HIS.out] at hown
    have hk1 : Kp B W1 w' := (Kp.calm hb3 (by omega)).trans hk
    obtain ⟨cs, fz, hh⟩ := HHP.out
    have hh2 := hk1.kept w.heap.size _ hh (by simp) (fun c' fz' e' => by cases e')
    refine ⟨v, rfl, hide (hK3.trans hk), hide hown, (cell_of (hh2.trans hh.symm)).trans g0, (hk1.below.cell (p := ⟨1, k * 4, none⟩) (by show 1 < _; omega)).trans g1⟩)
  have hk0 : (0 : Int) ≤ (k : Int) := by omega
  have hk1 : (k : Int) < 4 := by omega
  have hk2 : k < 4 := by omega
  have HB00 : Hid (Below W1.heap.size W1 W1) := hide (Below.refl _ _)
  have HB01 : Hid (Below W1.heap.size W1 W1.drew) := hide (Below.refl _ _).drew
  go_region_held3 (fun w' => w'.cell? ⟨w.heap.size, 0, none⟩ = some (.int .i64 k) ∧ w'.cell? ⟨1, k * 4, none⟩ = some (.string (strOf (terW k)))) (go_keep)
    (first
      | (go_at_call 73; with_reducible refine (HU.out W1 HB00.out).mono ?_; rintro e w5 ⟨fa, fc, rfl, HB5, HV5, f1, f2⟩)
      | (go_at_call 73; with_reducible refine (HU.out W1.drew HB01.out).mono ?_; rintro e w5 ⟨fa, fc, rfl, HB5, HV5, f1, f2⟩)
      | (go_at_call 71; with_reducible refine (HCT.out _ _ _ HB5.out HV5.out).mono ?_; rintro e w6 ⟨qa, qc, rfl, HB6, HS6, f3, f4⟩)
      | (go_at_call 40; with_reducible refine (HAL.out _ _ _ _ _ HB6.out HS6.out).mono ?_; rintro e w7 ⟨v7, rfl, HK7, HO7, f5, f6⟩))
  all_goals
    go_wp2
    go_ret
    exact ⟨_, rfl, HK7.out, HO7.out⟩
end Go.Proofs.YteifkldaoddpdaaDoor
