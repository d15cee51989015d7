import Derived.Test.YtdcdgopblbmgoaaGreatDoorPR
import Derived.Test.YtdcdgopblbmgoaaGreatDoorW15
import Derived.LaidEql
import Derived.Stop.Asserts
/-
  readText of the program.
-/
namespace Go.Proofs.YtdcdgopblbmgoaaGreatDoor
open Go.RowKit Go.Shelf

theorem head_link (line : List UInt8) : headI line = (headOf (cutS line 32)).map (fun b => (amount b : Int)) := by
  unfold headI headOf fieldsS
  by_cases hall : (cutS line 32).all fieldOk = true
  · rw [if_pos hall]
    match h : cutS line 32, hall with
    | [], _ => rfl
    | [_], _ => rfl
    | [a, b], hall =>
      dsimp only
      by_cases hf : a = [102, 117, 110, 99]
      · cases hd : digitsOk b 4 with
        | true =>
          have hi : idx b = amount b := by unfold idx; rw [if_pos hd]
          rw [if_pos ⟨rfl, hf, by show 0 ≤ idx b; rw [hi]; omega⟩, if_pos ⟨hall, hf, rfl⟩]
          show some (idx b) = _
          rw [hi]; rfl
        | false =>
          have hi : idx b = -1 := by unfold idx; rw [hd]; rfl
          rw [if_neg (fun q => absurd q.2.2 (by show ¬ 0 ≤ idx b; rw [hi]; decide)), if_neg (fun q => absurd q.2.2 (by decide))]
          rfl
      · rw [if_neg (fun q => hf q.2.1), if_neg (fun q => hf q.2.1)]
        rfl
    | _ :: _ :: _ :: _, _ =>
      rw [if_neg (fun q => by have := q.1; simp at this)]
      rfl
  · rw [if_neg hall, if_neg (fun q => by have := q.1; simp at this)]
    match h : cutS line 32, hall with
    | [], _ => rfl
    | [_], _ => rfl
    | [a, b], hall =>
      dsimp only
      rw [if_neg (fun q => hall q.1)]
      rfl
    | _ :: _ :: _ :: _, _ => rfl
theorem MaxL.keep {w w' : World} (h : MaxL w) (k : Below w.heap.size w w') : MaxL w' := ⟨Nat.lt_of_lt_of_le h.1 k.size, by
  obtain ⟨m, hm⟩ := h.2
  exact ⟨m, (k.cell (p := ⟨3, 0, none⟩) h.1).trans hm⟩⟩
theorem line_nz {s : Pst} {line : List UInt8} {c : Int} (h : lineP s line = .bad c) : c ≠ 0 := by
  unfold lineP at h
  split at h
  · cases h; decide
  · split at h
    · rename_i q
      cases h; exact q
    · cases hs : stepL s (fieldsS line) with
      | none => rw [hs] at h; cases h; decide
      | some s' => rw [hs] at h; cases h
theorem body_nz : ∀ (ls : List (List UInt8)) (i : Nat) (s : Pst) {c : Int} {l : Nat}, bodyP ls i s = .bad c l → c ≠ 0
  | [], _, _, _, _, h => by cases h
  | a :: ls, i, s, c, l, h => by
    rw [bodyP] at h
    cases hl : lineP s a with
    | bad c' => rw [hl] at h; cases h; exact line_nz hl
    | ok s' => rw [hl] at h; exact body_nz ls (i + 1) s' h
def partV (s : ByteArray) (c l : Int) : Value := .iface 78 (.agg #[.string s, faultV c l])
/-- What the reading of a text leaves. -/
def TextAns (w w' : World) (o : Pout) (e : Ending) : Prop := Below w.heap.size w w' ∧
  ((o.code = 0 ∧ o.line = 0 ∧ ∃ va vc, e = .returned (.tuple #[.agg #[.int .i64 o.fn.values, .slice va o.fn.blocks.length vc], .nilIface]) ∧ BlksSep w' w.heap.size w'.heap.size va o.fn.blocks) ∨
   (o.code ≠ 0 ∧ o = badP o.code o.line ∧ ∃ s, e = .returned (.tuple #[.agg #[.int .i64 0, .slice none 0 0], partV s o.code o.line])))
theorem textAns_bad {w w' : World} {o : Pout} {s : ByteArray} {c : Int} {l : Nat} {li : Int} (k : Below w.heap.size w w') (h : o = badP c l) (hc : c ≠ 0) (hl : li = l) : TextAns w w' o (.returned (.tuple #[.agg #[.int .i64 0, .slice none 0 0], .iface 78 (.agg #[.string s, .iface 61 (.agg #[.int .i64 c, .int .i64 li])])])) := by
  subst h hl
  exact ⟨k, Or.inr ⟨hc, rfl, s, rfl⟩⟩

set_option maxHeartbeats 4000000 in
set_option maxRecDepth 100000 in
theorem readText_any (a : Option Addr) (n c L B : Nat) (text : List UInt8) (w : World) (hx : Hid (n = text.length)) (hnc : n ≤ c) (hc : c ≤ 9223372036854775807) (ha : Hid (BytesAt w L B a text)) (hm : Hid (MaxL w)) (hB : B ≤ w.heap.size) (ht : Hid (OpTabW w)) (ht2 : Hid (TerTabW w)) :
    Calls Tryz.prog 21 #[.slice a n c] w fun e w' => TextAns w w' (parseP text) e := by
  have b1 : Below w.heap.size w (w.alloc (.cells #[.int .i64 0, .slice none 0 0] 25)) := balloc (Below.refl w.heap.size w) (.cells #[.int .i64 0, .slice none 0 0] 25)
  have hs0 : (w.alloc (.cells #[.int .i64 0, .slice none 0 0] 25)).heap.size = w.heap.size + 1 := World.size_alloc _ _
  have HSL : Hid (Calls Tryz.prog 38 #[.slice a n c] (w.alloc (.cells #[.int .i64 0, .slice none 0 0] 25)) fun e w' => LinesAns (w.alloc (.cells #[.int .i64 0, .slice none 0 0] 25)).heap.size w' a text e ∧ Below (w.alloc (.cells #[.int .i64 0, .slice none 0 0] 25)).heap.size (w.alloc (.cells #[.int .i64 0, .slice none 0 0] 25)) w') := hide (splitLines_any a n c L B text (w.alloc (.cells #[.int .i64 0, .slice none 0 0] 25)) hx hnc hc (hide (ha.out.keep (b1.mono hB))) (hide (MaxL.keep hm.out b1)) (by omega))
  have HRV : Hid (∀ W, Below (w.alloc (.cells #[.int .i64 0, .slice none 0 0] 25)).heap.size (w.alloc (.cells #[.int .i64 0, .slice none 0 0] 25)) W → Below w.heap.size w W ∧ w.heap.size < W.heap.size ∧ W.cell? ⟨w.heap.size, 0, none⟩ = some (.int .i64 0) ∧ W.cell? ⟨w.heap.size, 1, none⟩ = some (.slice none 0 0) ∧ ∀ o, W.frozen? ⟨w.heap.size, o, none⟩ = false) := hide (fun W k => by
    have k2 := k.size
    have kb := k.block w.heap.size (by omega)
    exact ⟨b1.trans (k.mono (by omega)), by omega, (cell_of kb).trans (by simp), (cell_of kb).trans (by simp), fun o => (World.frozen?_of_block kb).trans (by simp)⟩)
  by_cases h1 : 100000 < text.length
  · skip
    have HP : Hid (parseP text = badP 1 0) := hide (by unfold parseP; rw [if_pos h1])
    clear hx ha hm ht ht2 b1
    go_enter Tryz.func21, Tryz.ntmps21
    go_wp2_with (go_at_call 38; refine HSL.out.mono ?_; rintro e w1 ⟨⟨q1, _, _⟩, hb1⟩; rw [q1 h1]; unfold faultV; obtain ⟨hb, hsz, r0, r1, rz⟩ := HRV.out w1 hb1; have HB1 := hide hb; clear q1 hb1 hb)
    go_wp2
    all_goals
      refine bodyPost_ret (v := .tuple #[.agg #[.int .i64 0, .slice none 0 0], .iface 78 (.agg #[.string ⟨#[116, 101, 120, 116]⟩, .iface 61 (.agg #[.int .i64 1, .int .i64 0])])]) (by simp [results, Tryz.results21, go_sem, *]) rfl ?_
      exact textAns_bad ((HB1.out.setCell (Nat.le_refl _) _).setCell (Nat.le_refl _) _) HP.out (by decide) rfl
  · by_cases h2 : text.getLast? ≠ some 10
    · skip
      have HP : Hid (parseP text = badP 2 0) := hide (by unfold parseP; rw [if_neg h1, if_pos h2])
      clear hx ha hm ht ht2 b1
      go_enter Tryz.func21, Tryz.ntmps21
      go_wp2_with (go_at_call 38; refine HSL.out.mono ?_; rintro e w1 ⟨⟨_, q1, _⟩, hb1⟩; rw [q1 (by omega) h2]; unfold faultV; obtain ⟨hb, hsz, r0, r1, rz⟩ := HRV.out w1 hb1; have HB1 := hide hb; clear q1 hb1 hb)
      go_wp2
      all_goals
        refine bodyPost_ret (v := .tuple #[.agg #[.int .i64 0, .slice none 0 0], .iface 78 (.agg #[.string ⟨#[116, 101, 120, 116]⟩, .iface 61 (.agg #[.int .i64 2, .int .i64 0])])]) (by simp [results, Tryz.results21, go_sem, *]) rfl ?_
        exact textAns_bad ((HB1.out.setCell (Nat.le_refl _) _).setCell (Nat.le_refl _) _) HP.out (by decide) rfl
    · skip
      have h2' : text.getLast? = some 10 := Classical.not_not.1 h2
      have hpos : 0 < text.length := by cases text with | nil => simp at h2' | cons x r => simp
      obtain ⟨b, o, rfl, ⟨_, hbB⟩, -⟩ := ha.out 0 hpos
      obtain ⟨l0, lr, hls⟩ : ∃ l0 lr, cutS text.dropLast 10 = l0 :: lr := by
        have : 0 < (cutS text.dropLast 10).length := by unfold cutS; rw [cutF_count]; omega
        match hcs : cutS text.dropLast 10, this with
        | l0 :: lr, _ => exact ⟨l0, lr, rfl⟩
      have HLS := hide hls
      have HLN : Hid (lensOf (l0 :: lr) ≤ 100000 ∧ (l0 :: lr).length ≤ 100001) := hide (by
        rw [← hls]
        have q1 := cut_lens 10 text.dropLast []
        have q2 : (cutS text.dropLast 10).length = text.dropLast.count 10 + 1 := by unfold cutS; rw [cutF_count]
        have q3 := List.count_le_length (a := (10 : UInt8)) (l := text.dropLast)
        rw [List.length_dropLast] at q1 q3
        simp only [List.length_nil] at q1
        exact ⟨by show lensOf (cutF 10 [] text.dropLast) ≤ _; omega, by omega⟩)
      have hl0 : l0.length ≤ 100000 ∧ lensOf lr ≤ 100000 ∧ lr.length ≤ 100000 := by
        obtain ⟨q1, q2⟩ := HLN.out
        have q3 : lensOf (l0 :: lr) = l0.length + lensOf lr := by simp [lensOf]
        rw [List.length_cons] at q2
        omega
      obtain ⟨nl, hnl⟩ : ∃ nl, lr.length = nl := ⟨_, rfl⟩
      have HNL := hide hnl
      have hnlb : nl ≤ 100000 := by omega
      have HPP : Hid (parseP text = restP (l0 :: lr) (headI l0)) := hide (by unfold parseP linesOf; rw [if_neg h1, if_neg h2, hls]; rfl)
      have HHR : Hid (∀ w1 o1 c1, Below (w.alloc (.cells #[.int .i64 0, .slice none 0 0] 25)).heap.size (w.alloc (.cells #[.int .i64 0, .slice none 0 0] 25)) w1 → l0.length ≤ c1 → c1 ≤ 9223372036854775807 → (∀ i (h : i < l0.length), w1.cell? ⟨b, o1 + i, none⟩ = some (.int .u8 (l0[i].toNat : Int))) → Calls Tryz.prog 39 #[.slice (some ⟨b, o1, none⟩) l0.length c1] w1 fun e w' => e = .returned (headV (headOf (cutS l0 32))) ∧ Below w1.heap.size w1 w') := hide (fun w1 o1 c1 k q1 q2 q3 => by
        have k2 := k.size
        exact readHeader_any b o1 l0.length c1 l0 w1 (hide rfl) q1 q2 (by omega) (hide q3) (hide ((hm.out.keep b1).keep k)) (by omega))
      have hp1 : (1 : Int) ≤ (nl : Int) + 1 := by omega
      have hp2 : (0 : Int) < (nl : Int) + 1 := by omega
      rw [head_link] at HPP
      clear hls hnl h2
      cases hho : headOf (cutS l0 32) with
      | none =>
        have HP : Hid (parseP text = badP 3 1) := hide (by rw [HPP.out, hho]; rfl)
        rw [hho] at HHR
        clear hx ha hm ht ht2 b1 HPP hho
        go_enter Tryz.func21, Tryz.ntmps21
        go_wp2_with (first | (go_at_call 38; refine HSL.out.mono ?_; rintro e w1 ⟨⟨_, _, q1⟩, hb1⟩; obtain ⟨b', o', g, k, ea, hg, hk, rfl, hpc⟩ := q1 (by omega) h2'; cases ea; have hk' : k = nl + 1 := (by rw [hk, HLS.out, List.length_cons, HNL.out]); subst hk'; rw [HLS.out] at hpc; obtain ⟨v0, hv0, o1, c1, rfl, hle, hcells⟩ := hpc.2 0 (by simp); obtain ⟨hb, hsz, r0, r1, rz⟩ := HRV.out w1 hb1; have HB1 := hide hb; have HBA1 := hide hb1; have hgl := hpc.1; have HPC := hide hpc; have HHD := hide (HHR.out w1 o1 c1 hb1 hle.1 hle.2 hcells); clear q1 hb1 hb hk hpc hle hcells) | (go_at_call 39; refine HHD.out.mono ?_; rintro e w2 ⟨rfl, hb2⟩; (try unfold headV); (try unfold faultV); have HBA2 := hide (bnext HBA1.out hb2); obtain ⟨hb, hsz2, s0, s1, sz⟩ := HRV.out w2 HBA2.out; have HB2 := hide hb; have HBW2 := hide hb2; clear hb2 hb))
        go_wp2
        all_goals
          refine bodyPost_ret (v := .tuple #[.agg #[.int .i64 0, .slice none 0 0], .iface 78 (.agg #[.string ⟨#[104, 101, 97, 100, 101, 114]⟩, .iface 61 (.agg #[.int .i64 3, .int .i64 1])])]) (by simp [results, Tryz.results21, go_sem, *]) rfl ?_
          exact textAns_bad ((HB2.out.setCell (Nat.le_refl _) _).setCell (Nat.le_refl _) _) HP.out (by decide) rfl
      | some hf =>
        rw [hho] at HHR HPP
        dsimp only [headV] at HHR
        dsimp only [Option.map] at HPP
        generalize (amount hf : Int) = V at *
        have HPP2 : Hid (parseP text = endP (nl + 1) V (bodyP lr 1 ⟨[], none⟩)) := hide (by rw [HPP.out]; show endP (l0 :: lr).length V _ = _; rw [List.length_cons, HNL.out]; rfl)
        have HMW : Hid (∀ w2, Below (w.alloc (.cells #[.int .i64 0, .slice none 0 0] 25)).heap.size (w.alloc (.cells #[.int .i64 0, .slice none 0 0] 25)) w2 → Calls Tryz.prog 40 #[] w2 fun e w' => e = .returned (.map (some w2.heap.size)) ∧ Below w2.heap.size w2 w' ∧ w2.heap.size < w'.heap.size ∧ Hid (w'.ownsMap Tryz.prog 9 wordR w2.heap.size 15 (wdT 3))) := hide (fun w2 k => by
          have k2 := b1.trans (k.mono (by omega))
          refine (makeWords_any w2 (hide (ht.out.keep k2 ht.out.1)) (hide (ht2.out.keep k2 ht2.out.1))).mono ?_
          rintro e w' ⟨q1, q2, q3⟩
          exact ⟨q1, q2, q3.lt, hide q3⟩)
        obtain ⟨OUT, hOUT⟩ : ∃ OUT, bodyP lr 1 ⟨[], none⟩ = OUT := ⟨_, rfl⟩
        rw [hOUT] at HPP2
        have HRB : Hid (∀ w1 g w3 M fa, Below (w.alloc (.cells #[.int .i64 0, .slice none 0 0] 25)).heap.size (w.alloc (.cells #[.int .i64 0, .slice none 0 0] 25)) w1 → PiecesAt w1 b g (l0 :: lr) → Below w1.heap.size w1 w3 → M < w3.heap.size → w3.ownsMap Tryz.prog 9 wordR M 15 (wdT 3) → (nl = 0 ∨ fa = some ⟨g, 1, none⟩) → Calls Tryz.prog 41 #[.pointer (some ⟨w3.heap.size, 0, none⟩), .slice fa nl nl] (w3.alloc (.cells #[.map (some M), .int .i64 V, .slice none 0 0, .bool false] 84)) fun e w' => BodyAns (w3.alloc (.cells #[.map (some M), .int .i64 V, .slice none 0 0, .bool false] 84)) w' w3.heap.size M V (w3.heap.size + 1) nl OUT e) := hide (fun w1 g w3 M fa k1 hp k3 hM hom hfa => by
          have z1 := k1.size; have z3 := k3.size
          have kk := b1.trans ((k1.trans (k3.mono (by omega))).mono (by omega))
          have ka := balloc (Below.refl w3.heap.size w3) (.cells #[.map (some M), .int .i64 V, .slice none 0 0, .bool false] 84)
          have kw := kk.trans (ka.mono (by omega))
          have zz := World.size_alloc w3 (.cells #[.map (some M), .int .i64 V, .slice none 0 0, .bool false] 84)
          refine readBody_any w3.heap.size M b fa lr V (w3.heap.size + 1) none 0 0 nl nl OUT (w3.alloc (.cells #[.map (some M), .int .i64 V, .slice none 0 0, .bool false] 84)) (hide HNL.out.symm) (by omega) (hide hl0.2.1) (hide ⟨Below.refl _ _, ⟨⟨hM, hom.alloc _⟩, ⟨by have := ht.out.1; omega, ht.out.keep kw ht.out.1⟩, ⟨by have := ht2.out.1; omega, ht2.out.keep kw ht2.out.1⟩, ⟨by have := hm.out.1; omega, hm.out.keep kw⟩, by omega, fun i hi => ?_⟩, ⟨⟨by simp, by simp, by simp, by simp⟩, StAt2.start _ _ (by omega), fun o => by simp, ⟨by omega, by omega⟩⟩, by simp [pstTot, blksTot], by rw [List.drop_zero]; exact hOUT⟩)
          have hr0 := HNL.out
          have hg := hp.1
          rcases hfa with h0 | rfl
          · omega
          · obtain ⟨v, hv, hpv⟩ := hp.2 (i + 1) (by rw [List.length_cons]; omega)
            rw [List.getElem_cons_succ] at hpv
            have kx := k3.trans (ka.mono z3)
            exact ⟨g, 1, v, rfl, by omega, by rw [Nat.add_comm 1 i]; exact (kx.cell (p := ⟨g, i + 1, none⟩) hg).trans hv, hpv.keep (kx.block b (by omega))⟩)
        clear HPP
        have HCB : Hid (∀ c l, OUT = .bad c l → c ≠ 0) := hide (fun c l e => body_nz lr 1 ⟨[], none⟩ (hOUT.trans e))
        clear hOUT
        cases OUT with
        | bad c l =>
          have HCZ : Hid (c ≠ 0) := hide (HCB.out c l rfl)
          have HP : Hid (parseP text = badP c l) := hide HPP2.out
          have HC : Hid (c ≠ 0) := hide HCZ.out
          clear hx ha hm ht ht2 b1 hho HPP2
          go_enter Tryz.func21, Tryz.ntmps21
          go_wp2_with (first | (go_at_call 38; refine HSL.out.mono ?_; rintro e w1 ⟨⟨_, _, q1⟩, hb1⟩; obtain ⟨b', o', g, k, ea, hg, hk, rfl, hpc⟩ := q1 (by omega) h2'; cases ea; have hk' : k = nl + 1 := (by rw [hk, HLS.out, List.length_cons, HNL.out]); subst hk'; rw [HLS.out] at hpc; obtain ⟨v0, hv0, o1, c1, rfl, hle, hcells⟩ := hpc.2 0 (by simp); obtain ⟨hb, hsz, r0, r1, rz⟩ := HRV.out w1 hb1; have HB1 := hide hb; have HBA1 := hide hb1; have hgl := hpc.1; have HPC := hide hpc; have HHD := hide (HHR.out w1 o1 c1 hb1 hle.1 hle.2 hcells); clear q1 hb1 hb hk hpc hle hcells) | (go_at_call 39; refine HHD.out.mono ?_; rintro e w2 ⟨rfl, hb2⟩; (try unfold headV); (try unfold faultV); have HBA2 := hide (bnext HBA1.out hb2); obtain ⟨hb, hsz2, s0, s1, sz⟩ := HRV.out w2 HBA2.out; have HB2 := hide hb; have HBW2 := hide hb2; clear hb2 hb) | (go_at_call 40; refine (HMW.out _ HBA2.out).mono ?_; rintro e w3 ⟨rfl, hb3, hs3, HM3⟩; have HB3 := hide (bnext HBW2.out hb3); have HBA3 := hide (bnext HBA2.out hb3); have hs2 := hb3.size; obtain ⟨hb, hsz3, u0, u1, uz⟩ := HRV.out w3 HBA3.out; have HW3 := hide hb; have HRL := hide (HRV.out w3 HBA3.out); clear hb3 hb) | (go_at_call 41; refine (HRB.out w1 g w3 _ _ HBA1.out HPC.out HB3.out hs3 HM3.out (fa_side _ _)).mono ?_; rintro e w5 ⟨hb5, hans⟩; dsimp only at hans; subst hans; unfold faultV; obtain ⟨hb, _, t0, t1, tz⟩ := HRV.out w5 (HBA3.out.trans (((balloc (Below.refl w3.heap.size w3) _).trans hb5).mono (by have := HBA3.out.size; omega))); have HB5 := hide hb; clear hb5 hb))
          go_wp2
          all_goals
            refine bodyPost_ret (v := .tuple #[.agg #[.int .i64 0, .slice none 0 0], .iface 78 (.agg #[.string ⟨#[98, 111, 100, 121]⟩, .iface 61 (.agg #[.int .i64 c, .int .i64 l])])]) (by simp [results, Tryz.results21, go_sem, *]) rfl ?_
            exact textAns_bad ((HB5.out.setCell (Nat.le_refl _) _).setCell (Nat.le_refl _) _) HP.out HC.out rfl
        | ok s =>
          obtain ⟨pre, cur⟩ := s
          cases cur with
          | some pi =>
            have HP : Hid (parseP text = badP 8 (nl + 1)) := hide HPP2.out
            clear hx ha hm ht ht2 b1 hho HPP2 HCB
            go_enter Tryz.func21, Tryz.ntmps21
            go_wp2_with (first | (go_at_call 38; refine HSL.out.mono ?_; rintro e w1 ⟨⟨_, _, q1⟩, hb1⟩; obtain ⟨b', o', g, k, ea, hg, hk, rfl, hpc⟩ := q1 (by omega) h2'; cases ea; have hk' : k = nl + 1 := (by rw [hk, HLS.out, List.length_cons, HNL.out]); subst hk'; rw [HLS.out] at hpc; obtain ⟨v0, hv0, o1, c1, rfl, hle, hcells⟩ := hpc.2 0 (by simp); obtain ⟨hb, hsz, r0, r1, rz⟩ := HRV.out w1 hb1; have HB1 := hide hb; have HBA1 := hide hb1; have hgl := hpc.1; have HPC := hide hpc; have HHD := hide (HHR.out w1 o1 c1 hb1 hle.1 hle.2 hcells); clear q1 hb1 hb hk hpc hle hcells) | (go_at_call 39; refine HHD.out.mono ?_; rintro e w2 ⟨rfl, hb2⟩; (try unfold headV); (try unfold faultV); have HBA2 := hide (bnext HBA1.out hb2); obtain ⟨hb, hsz2, s0, s1, sz⟩ := HRV.out w2 HBA2.out; have HB2 := hide hb; have HBW2 := hide hb2; clear hb2 hb) | (go_at_call 40; refine (HMW.out _ HBA2.out).mono ?_; rintro e w3 ⟨rfl, hb3, hs3, HM3⟩; have HB3 := hide (bnext HBW2.out hb3); have HBA3 := hide (bnext HBA2.out hb3); have hs2 := hb3.size; obtain ⟨hb, hsz3, u0, u1, uz⟩ := HRV.out w3 HBA3.out; have HW3 := hide hb; have HRL := hide (HRV.out w3 HBA3.out); clear hb3 hb) | (go_at_call 41; refine (HRB.out w1 g w3 _ _ HBA1.out HPC.out HB3.out hs3 HM3.out (fa_side _ _)).mono ?_; rintro e w5 ⟨hb5, hans⟩; dsimp only at hans; subst hans; unfold faultV; obtain ⟨hb, _, t0, t1, tz⟩ := HRV.out w5 (HBA3.out.trans (((balloc (Below.refl w3.heap.size w3) _).trans hb5).mono (by have := HBA3.out.size; omega))); have HB5 := hide hb; clear hb5 hb))
            go_wp2
            all_goals
              refine bodyPost_ret (v := .tuple #[.agg #[.int .i64 0, .slice none 0 0], .iface 78 (.agg #[.string ⟨#[98, 111, 100, 121]⟩, .iface 61 (.agg #[.int .i64 8, .int .i64 ((nl + 1 : Nat) : Int)])])]) (by simp [results, Tryz.results21, go_sem, *]) rfl ?_
              exact textAns_bad ((HB5.out.setCell (Nat.le_refl _) _).setCell (Nat.le_refl _) _) HP.out (by decide) rfl
          | none =>
            have HVF : Hid (∀ w5 va vn vc R M, Below (w.alloc (.cells #[.int .i64 0, .slice none 0 0] 25)).heap.size (w.alloc (.cells #[.int .i64 0, .slice none 0 0] 25)) w5 → RSt w5 R (.map (some M)) V (R + 1) ⟨pre, none⟩ va vn vc → pstTot ⟨pre, none⟩ ≤ 100000 → Calls Tryz.prog 42 #[.agg #[.int .i64 V, .slice va vn vc]] w5 fun e w' => e = .returned (.bool (validS ⟨V, pre⟩)) ∧ Below w5.heap.size w5 w') := hide (fun w5 va vn vc R M k hst htot => by
              have k2 := b1.trans (k.mono (by omega))
              obtain ⟨e1, hbc⟩ := hst.st
              rw [← valid_same]
              simp only [pstTot] at htot
              exact validFuncI_any V va vn vc pre (R + 1) w5.heap.size w5 (hide hbc.blks) (hide e1) (hide (by omega)) (Nat.le_refl _) (hide (ht.out.keep k2 ht.out.1).old) (hide (ht2.out.keep k2 ht2.out.1).old))
            cases hvd : validS ⟨V, pre⟩ with
            | false =>
              have HP : Hid (parseP text = badP 9 0) := hide (by rw [HPP2.out]; show (if validS ⟨V, pre⟩ = true then _ else _) = _; rw [hvd]; rfl)
              clear hx ha hm ht ht2 b1 hho HPP2 HCB
              go_enter Tryz.func21, Tryz.ntmps21
              go_wp2_with (first | (go_at_call 38; refine HSL.out.mono ?_; rintro e w1 ⟨⟨_, _, q1⟩, hb1⟩; obtain ⟨b', o', g, k, ea, hg, hk, rfl, hpc⟩ := q1 (by omega) h2'; cases ea; have hk' : k = nl + 1 := (by rw [hk, HLS.out, List.length_cons, HNL.out]); subst hk'; rw [HLS.out] at hpc; obtain ⟨v0, hv0, o1, c1, rfl, hle, hcells⟩ := hpc.2 0 (by simp); obtain ⟨hb, hsz, r0, r1, rz⟩ := HRV.out w1 hb1; have HB1 := hide hb; have HBA1 := hide hb1; have hgl := hpc.1; have HPC := hide hpc; have HHD := hide (HHR.out w1 o1 c1 hb1 hle.1 hle.2 hcells); clear q1 hb1 hb hk hpc hle hcells) | (go_at_call 39; refine HHD.out.mono ?_; rintro e w2 ⟨rfl, hb2⟩; (try unfold headV); (try unfold faultV); have HBA2 := hide (bnext HBA1.out hb2); obtain ⟨hb, hsz2, s0, s1, sz⟩ := HRV.out w2 HBA2.out; have HB2 := hide hb; have HBW2 := hide hb2; clear hb2 hb) | (go_at_call 40; refine (HMW.out _ HBA2.out).mono ?_; rintro e w3 ⟨rfl, hb3, hs3, HM3⟩; have HB3 := hide (bnext HBW2.out hb3); have HBA3 := hide (bnext HBA2.out hb3); have hs2 := hb3.size; obtain ⟨hb, hsz3, u0, u1, uz⟩ := HRV.out w3 HBA3.out; have HW3 := hide hb; have HRL := hide (HRV.out w3 HBA3.out); clear hb3 hb) | (go_at_call 41; refine (HRB.out w1 g w3 _ _ HBA1.out HPC.out HB3.out hs3 HM3.out (fa_side _ _)).mono ?_; rintro e w5 ⟨hb5, hans⟩; dsimp only at hans; obtain ⟨rfl, htot5, va5, vn5, vc5, hst5⟩ := hans; have HBA5 := hide (HBA3.out.trans (((balloc (Below.refl w3.heap.size w3) _).trans hb5).mono (by have := HBA3.out.size; omega))); have HST5 := hide hst5; have c1v := hst5.rd.values; have c2v := hst5.rd.blocks; have hR5 : w3.heap.size < w5.heap.size := (by have := hst5.lo; omega); obtain ⟨hb, hsz5, t0, t1, tz⟩ := HRV.out w5 HBA5.out; clear hb5 hb hst5) | (go_at_call 42; refine (HVF.out w5 va5 vn5 vc5 _ _ HBA5.out HST5.out htot5).mono ?_; rintro e w6 ⟨rfl, hb6⟩; rw [hvd]; have HBA6 := hide (bnext HBA5.out hb6); obtain ⟨hb, hs6, z0, z1, zz⟩ := HRV.out w6 HBA6.out; have HB6 := hide hb; have HK6 := hide hb6; have d1 := (hb6.cell (p := ⟨w3.heap.size, 1, none⟩) hR5).trans c1v; have d2 := (hb6.cell (p := ⟨w3.heap.size, 2, none⟩) hR5).trans c2v; clear hb6 hb))
              go_wp2
              all_goals
                refine bodyPost_ret (v := .tuple #[.agg #[.int .i64 0, .slice none 0 0], .iface 78 (.agg #[.string ⟨#[102, 117, 110, 99, 116, 105, 111, 110]⟩, .iface 61 (.agg #[.int .i64 9, .int .i64 0])])]) (by simp [results, Tryz.results21, go_sem, *]) rfl ?_
                exact textAns_bad ((HB6.out.setCell (Nat.le_refl _) _).setCell (Nat.le_refl _) _) HP.out (by decide) rfl
            | true =>
              have HP : Hid (parseP text = ⟨0, 0, ⟨V, pre⟩⟩) := hide (by rw [HPP2.out]; show (if validS ⟨V, pre⟩ = true then _ else _) = _; rw [hvd]; rfl)
              clear hx ha hm ht ht2 b1 hho HPP2 HCB
              go_enter Tryz.func21, Tryz.ntmps21
              go_wp2_with (first | (go_at_call 38; refine HSL.out.mono ?_; rintro e w1 ⟨⟨_, _, q1⟩, hb1⟩; obtain ⟨b', o', g, k, ea, hg, hk, rfl, hpc⟩ := q1 (by omega) h2'; cases ea; have hk' : k = nl + 1 := (by rw [hk, HLS.out, List.length_cons, HNL.out]); subst hk'; rw [HLS.out] at hpc; obtain ⟨v0, hv0, o1, c1, rfl, hle, hcells⟩ := hpc.2 0 (by simp); obtain ⟨hb, hsz, r0, r1, rz⟩ := HRV.out w1 hb1; have HB1 := hide hb; have HBA1 := hide hb1; have hgl := hpc.1; have HPC := hide hpc; have HHD := hide (HHR.out w1 o1 c1 hb1 hle.1 hle.2 hcells); clear q1 hb1 hb hk hpc hle hcells) | (go_at_call 39; refine HHD.out.mono ?_; rintro e w2 ⟨rfl, hb2⟩; (try unfold headV); (try unfold faultV); have HBA2 := hide (bnext HBA1.out hb2); obtain ⟨hb, hsz2, s0, s1, sz⟩ := HRV.out w2 HBA2.out; have HB2 := hide hb; have HBW2 := hide hb2; clear hb2 hb) | (go_at_call 40; refine (HMW.out _ HBA2.out).mono ?_; rintro e w3 ⟨rfl, hb3, hs3, HM3⟩; have HB3 := hide (bnext HBW2.out hb3); have HBA3 := hide (bnext HBA2.out hb3); have hs2 := hb3.size; obtain ⟨hb, hsz3, u0, u1, uz⟩ := HRV.out w3 HBA3.out; have HW3 := hide hb; have HRL := hide (HRV.out w3 HBA3.out); clear hb3 hb) | (go_at_call 41; refine (HRB.out w1 g w3 _ _ HBA1.out HPC.out HB3.out hs3 HM3.out (fa_side _ _)).mono ?_; rintro e w5 ⟨hb5, hans⟩; dsimp only at hans; obtain ⟨rfl, htot5, va5, vn5, vc5, hst5⟩ := hans; have HBA5 := hide (HBA3.out.trans (((balloc (Below.refl w3.heap.size w3) _).trans hb5).mono (by have := HBA3.out.size; omega))); have HST5 := hide hst5; have c1v := hst5.rd.values; have c2v := hst5.rd.blocks; have hR5 : w3.heap.size < w5.heap.size := (by have := hst5.lo; omega); obtain ⟨hb, hsz5, t0, t1, tz⟩ := HRV.out w5 HBA5.out; clear hb5 hb hst5) | (go_at_call 42; refine (HVF.out w5 va5 vn5 vc5 _ _ HBA5.out HST5.out htot5).mono ?_; rintro e w6 ⟨rfl, hb6⟩; rw [hvd]; have HBA6 := hide (bnext HBA5.out hb6); obtain ⟨hb, hs6, z0, z1, zz⟩ := HRV.out w6 HBA6.out; have HB6 := hide hb; have HK6 := hide hb6; have d1 := (hb6.cell (p := ⟨w3.heap.size, 1, none⟩) hR5).trans c1v; have d2 := (hb6.cell (p := ⟨w3.heap.size, 2, none⟩) hR5).trans c2v; clear hb6 hb))
              all_goals
                refine bodyPost_ret (v := .tuple #[.agg #[.int .i64 V, .slice va5 vn5 vc5], .nilIface]) (by simp [results, Tryz.results21, go_sem, *]) rfl ?_
                obtain ⟨e5, hbc5⟩ := HST5.out.st
                have kf := (HB6.out.setCell (p := ⟨w.heap.size, 0, none⟩) (Nat.le_refl _) (.int .i64 V)).setCell (p := ⟨w.heap.size, 1, none⟩) (Nat.le_refl _) (.slice va5 vn5 vc5)
                have s6 := HK6.out.size
                have sf := hsz3
                refine ⟨kf, Or.inl ?_⟩
                rw [HP.out]
                refine ⟨rfl, rfl, va5, vc5, by rw [show vn5 = pre.length from e5], ?_⟩
                exact (hbc5.sep.keepS (fun b h1 h2 => ((Below.heap_setCell _ _ _ _ (by dsimp only; omega)).trans (Below.heap_setCell _ _ _ _ (by dsimp only; omega))).trans (HK6.out.block b h2))).mono (by omega) (by rw [size_setCell, size_setCell]; omega)
end Go.Proofs.YtdcdgopblbmgoaaGreatDoor

/-
  errors.As at a target of type *lineFault: closed facts of the model's entries at this program's types (as in the worked toy 'toyas').
-/
namespace Go.Proofs.YtdcdgopblbmgoaaGreatDoor
open Go.RowKit Go.Extern.Stop Go.Stop Go.Extern

theorem as_nil (t : Value) (w : World) :
    Calls Tryz.prog 22 #[.nilIface, t] w fun e w' => e = .returned (.bool false) ∧ w' = w := by
  go_enter Tryz.func22, Tryz.ntmps22
  go_wp2
  go_ret
  exact ⟨rfl, rfl⟩
theorem Tryz.valueOfP (t : Addr) (w : World) : (ReflectliteValue.unpack (.iface 63 (.pointer (some t)))).run Tryz.prog w
    = .ok (.agg #[.pointer (some ⟨6, 63, none⟩), .pointer (some ⟨w.heap.size, 0, none⟩), .int .u64 150]) (w.alloc (.cells #[.pointer (some t)] 63)) := by kernel_rfl
theorem Tryz.typeP (a : Addr) (w : World) : (ReflectliteValue.methodAny (ReflectliteValue.valueError "reflectlite.Value.Type" 0) (fun t _ _ _ => ReflectliteType.toType t) #[.agg #[.pointer (some ⟨6, 63, none⟩), .pointer (some a), .int .u64 150]]).run Tryz.prog w
    = .ok (.iface 121 (.agg #[.pointer (some ⟨6, 63, none⟩)])) w := by kernel_rfl
theorem Tryz.kindP (w : World) : ((ReflectliteType.abiMethod fun t => (fun a : Nat => Value.int IntKind.u8 (a : Int)) <$> Rtype.kind t) #[.pointer (some ⟨6, 63, none⟩)]).run Tryz.prog w = .ok (.int .u8 22) w := by kernel_rfl
theorem Tryz.kindL (w : World) : ((ReflectliteType.abiMethod fun t => (fun a : Nat => Value.int IntKind.u8 (a : Int)) <$> Rtype.kind t) #[.pointer (some ⟨6, 61, none⟩)]).run Tryz.prog w = .ok (.int .u8 25) w := by kernel_rfl
/-- A method of a Value, at one argument. -/
theorem method_one (z : Sem Value) (f : TypeId → Addr → Nat → Nat → Sem Value) (v : Value) : ReflectliteValue.method z f #[v] = (ReflectliteValue.parts v >>= fun q => match q with | none => z | some (t, a, fl) => f t a fl (fl % 32)) := rfl
theorem Tryz.partsP (a : Addr) (w : World) : (ReflectliteValue.parts (.agg #[.pointer (some ⟨6, 63, none⟩), .pointer (some a), .int .u64 150])).run Tryz.prog w = .ok (some (63, a, 150)) w := by kernel_rfl
theorem Tryz.isNilP (a p : Addr) (W : World) (ha : W.cell? a = some (.pointer (some p))) :
    (ReflectliteValue.method (ReflectliteValue.valueError "reflectlite.Value.IsNil" 0) ReflectliteValue.isNil #[.agg #[.pointer (some ⟨6, 63, none⟩), .pointer (some a), .int .u64 150]]).run Tryz.prog W = .ok (.bool false) W := by
  rw [method_one]
  simp only [Sem.run_bind, Tryz.partsP, Result.andThen]
  simp [ReflectliteValue.isNil, loadVar, isAgg, underlying, Tryz.underlying63, ha, Result.andThen]
theorem Tryz.elemT (w : World) : (ReflectliteType.method ReflectliteType.elem #[.agg #[.pointer (some ⟨6, 63, none⟩)]]).run Tryz.prog w = .ok (.iface 121 (.agg #[.pointer (some ⟨6, 61, none⟩)])) w := by kernel_rfl
theorem Tryz.implementsL (w : World) : (ReflectliteType.relation "Implements" ReflectliteType.implements_ #[.agg #[.pointer (some ⟨6, 61, none⟩)], .iface 121 (.agg #[.pointer (some ⟨6, 57, none⟩)])]).run Tryz.prog w = .ok (.bool true) w := by kernel_rfl
theorem Tryz.typeOfL (v : Value) (w : World) : (ReflectliteType.typeOf #[.iface 61 v]).run Tryz.prog w = .ok (.iface 121 (.agg #[.pointer (some ⟨6, 61, none⟩)])) w := by kernel_rfl
theorem Tryz.typeOfF (v : Value) (w : World) : (ReflectliteType.typeOf #[.iface 78 v]).run Tryz.prog w = .ok (.iface 121 (.agg #[.pointer (some ⟨6, 78, none⟩)])) w := by kernel_rfl
theorem Tryz.assignL (w : World) : (ReflectliteType.relation "AssignableTo" ReflectliteType.assignableTo #[.agg #[.pointer (some ⟨6, 61, none⟩)], .iface 121 (.agg #[.pointer (some ⟨6, 61, none⟩)])]).run Tryz.prog w = .ok (.bool true) w := by kernel_rfl
theorem Tryz.assignF (w : World) : (ReflectliteType.relation "AssignableTo" ReflectliteType.assignableTo #[.agg #[.pointer (some ⟨6, 78, none⟩)], .iface 121 (.agg #[.pointer (some ⟨6, 61, none⟩)])]).run Tryz.prog w = .ok (.bool false) w := by kernel_rfl
theorem Tryz.valueOfL (c l : Value) (w : World) : (ReflectliteValue.unpack (.iface 61 (.agg #[c, l]))).run Tryz.prog w
    = .ok (.agg #[.pointer (some ⟨6, 61, none⟩), .pointer (some ⟨w.heap.size, 0, none⟩), .int .u64 153]) (w.alloc (.cells #[c, l] 61)) := by kernel_rfl
theorem Tryz.elemOfP (w : World) : (Rtype.elem? 63).run Tryz.prog w = .ok (some 61) w := by kernel_rfl
theorem Tryz.mkL (p : Addr) (w : World) : (ReflectliteValue.mk 61 p ReflectliteValue.flagAddr).run Tryz.prog w = .ok (.agg #[.pointer (some ⟨6, 61, none⟩), .pointer (some p), .int .u64 409]) w := by kernel_rfl
theorem Tryz.elemVP (a p : Addr) (W : World) (ha : W.cell? a = some (.pointer (some p))) :
    (ReflectliteValue.method (ReflectliteValue.valueError "reflectlite.Value.Elem" 0) ReflectliteValue.elem #[.agg #[.pointer (some ⟨6, 63, none⟩), .pointer (some a), .int .u64 150]]).run Tryz.prog W
      = .ok (.agg #[.pointer (some ⟨6, 61, none⟩), .pointer (some p), .int .u64 409]) W := by
  rw [method_one]
  simp only [Sem.run_bind, Tryz.partsP, Result.andThen]
  simp [ReflectliteValue.elem, loadVar, isAgg, underlying, Tryz.underlying63, ha, Result.andThen, Tryz.elemOfP, Tryz.mkL]
end Go.Proofs.YtdcdgopblbmgoaaGreatDoor
