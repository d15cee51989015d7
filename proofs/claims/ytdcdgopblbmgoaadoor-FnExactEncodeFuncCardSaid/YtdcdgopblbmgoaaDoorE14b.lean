import Derived.Test.YtdcdgopblbmgoaaDoorE13
import Derived.Test.YtdcdgopblbmgoaaDoorM0
import Derived.Shelf.Spec.SlicesInsertGrow
/-
  appendCode of the program.
-/
namespace Go.Proofs.YtdcdgopblbmgoaaDoor
open Go.RowKit

theorem Kp.block {B g : Nat} {w w' : World} {t : TypeId} (h : Kp B w w') (hh : ∃ c fz, w.heap[g]? = some (.cells c t fz)) (ht : t ≠ 5) : w'.heap[g]? = w.heap[g]? := by
  obtain ⟨c, fz, hh⟩ := hh
  exact (h.kept g _ hh (by simp) (fun c' fz' e' => by cases e'; exact ht rfl)).trans hh.symm
set_option maxHeartbeats 2000000 in
set_option maxRecDepth 100000 in
theorem appendCode_any (B : Nat) (u : Value) (xs : List UInt8) (ia : Option Addr) (n ic : Nat) (is : List Ins) (kt : Nat) (ta to els : Int) (L M : Nat) (w : World) (hB : B ≤ w.heap.size) (hM : M ≤ B) (hi : Hid (InssAt w L M ia is)) (hx : Hid (n = is.length)) (hn : n ≤ 1048576)
    (hops : Hid (∀ i ∈ is, 1 ≤ i.op ∧ i.op ≤ 13)) (h1 : 1 ≤ kt) (h2 : kt ≤ 3) (hB2 : 0 < B ∧ 1 < B)
    (ho : Hid (w.ownsRow B 5 1 u xs.length (bytesV xs))) (hlen : Hid (xs.length + (codeS is ⟨kt, ta, to, els⟩).length ≤ 1000000000000))
    (hin : Hid (∀ i ∈ is, ∀ v ∈ [i.dst, i.a, i.b, i.imm], InB v)) (hinT : Hid (∀ v ∈ [ta, to, els], InB v)) (htab : Hid (TabOk B w)) (ht : Hid (OpTabW w)) (hT : Hid (TerTabW w)) :
    Calls Tryd.prog 66 #[u, .slice ia n ic, .agg #[.int .i64 kt, .int .i64 ta, .int .i64 to, .int .i64 els]] w fun e w' => ∃ v, e = .returned v ∧ Kp B w w' ∧ w'.ownsRow B 5 1 v (xs ++ codeS is ⟨kt, ta, to, els⟩).length (bytesV (xs ++ codeS is ⟨kt, ta, to, els⟩)) := by
  go_enter Tryd.func66, Tryd.ntmps66
  go_wp2
  have hhp : ∃ c fz, (w.alloc (.cells #[.int .i64 kt, .int .i64 ta, .int .i64 to, .int .i64 els] 78)).heap[w.heap.size]? = some (.cells c 78 fz) := ⟨_, _, heap_alloc_new w _⟩
  have hin1 : TerAt (w.alloc (.cells #[.int .i64 kt, .int .i64 ta, .int .i64 to, .int .i64 els] 78)) w.heap.size 0 ⟨kt, ta, to, els⟩ := by refine ⟨?_, ?_, ?_, ?_⟩ <;> simp
  have hsz : (w.alloc (.cells #[.int .i64 kt, .int .i64 ta, .int .i64 to, .int .i64 els] 78)).heap.size = w.heap.size + 1 := by simp
  have HKW : Hid (Kp B w (w.alloc (.cells #[.int .i64 kt, .int .i64 ta, .int .i64 to, .int .i64 els] 78))) := hide ((Kp.refl B w).alloc hB _)
  have HOW : Hid ((w.alloc (.cells #[.int .i64 kt, .int .i64 ta, .int .i64 to, .int .i64 els] 78)).ownsRow B 5 1 u xs.length (bytesV xs)) := hide (ho.out.alloc _)
  generalize (w.alloc (.cells #[.int .i64 kt, .int .i64 ta, .int .i64 to, .int .i64 els] 78)) = W0 at *
  have HHP := hide hhp
  have HIN1 := hide hin1
  have HSZ := hide hsz
  clear hhp hin1 hsz
  go_loopw [0, 11] (fun v i wr => ∃ q : Nat, q ≤ n ∧ i = .int .i64 q ∧ Hid (Kp B W0 wr) ∧ Hid (wr.ownsRow B 5 1 v (xs ++ (is.take q).flatMap insS).length (bytesV (xs ++ (is.take q).flatMap insS)))) (fun _ i _ => n - (intOf i).toNat)
  case atStart => exact ⟨0, Nat.zero_le _, rfl, hide (Kp.refl _ _), hide (by simpa using HOW.out)⟩
  case round =>
    clear HOW
    obtain ⟨q, hq, rfl, HK, HO⟩ := hrel
    have hwz : w.heap.size + 1 ≤ wr.heap.size := by have h1 := HK.out.below.size; have h2 := HSZ.out; omega
    have HKT : Hid (Kp B w wr) := hide (HKW.out.trans HK.out)
    by_cases hlt : q < n
    · have hkx : q < is.length := by have := hx.out; omega
      obtain ⟨b, o, rfl, ⟨hbL, hbB⟩, ⟨d0, d1, d2, d3, d4⟩⟩ := (hi.out.keepS (Same.of_below (HKT.out.below.mono hM))) q hkx
      have HLj : Hid ((xs ++ (is.take q).flatMap insS).length + (insS is[q]).length ≤ 1000000000000) := hide (by have h1 := hlen.out; have h2 := code_len (t := ⟨kt, ta, to, els⟩) hkx; rw [List.length_append]; omega)
      have HKj := hide (hin.out is[q] (List.getElem_mem hkx))
      have HOJ := hide (hops.out is[q] (List.getElem_mem hkx))
      have HTj := hide (flat_next insS is q hkx)
      generalize is[q] = I at *
      have HX : Hid (xs ++ (is.take (q + 1)).flatMap insS = (xs ++ (is.take q).flatMap insS) ++ insS I) := hide (by rw [HTj.out]; simp)
      generalize xs ++ (is.take q).flatMap insS = TT at *
      obtain ⟨op, dst, ia1, ib1, imm⟩ := I
      obtain ⟨m, hm⟩ := Int.eq_ofNat_of_zero_le (show 0 ≤ op by have := HOJ.out; simp only at this; omega)
      subst hm
      simp only at d0 d1 d2 d3 d4
      have hm1 : 1 ≤ m := by have := HOJ.out; simp only at this; omega
      have hm2 : m ≤ 13 := by have := HOJ.out; simp only at this; omega
      go_wp2_with fail
      have hsz : (wr.alloc (.cells #[.int .i64 m, .int .i64 dst, .int .i64 ia1, .int .i64 ib1, .int .i64 imm] 83)).heap.size = wr.heap.size + 1 := by simp
      have hin1 : InsAt (wr.alloc (.cells #[.int .i64 m, .int .i64 dst, .int .i64 ia1, .int .i64 ib1, .int .i64 imm] 83)) wr.heap.size 0 ⟨m, dst, ia1, ib1, imm⟩ := by refine ⟨?_, ?_, ?_, ?_, ?_⟩ <;> simp
      have hhp : ∃ c fz, (wr.alloc (.cells #[.int .i64 m, .int .i64 dst, .int .i64 ia1, .int .i64 ib1, .int .i64 imm] 83)).heap[wr.heap.size]? = some (.cells c 83 fz) := ⟨_, _, heap_alloc_new wr _⟩
      have HKA : Hid (Kp B wr (wr.alloc (.cells #[.int .i64 m, .int .i64 dst, .int .i64 ia1, .int .i64 ib1, .int .i64 imm] 83))) := hide ((Kp.refl B wr).alloc (by omega) _)
      have HOA : Hid ((wr.alloc (.cells #[.int .i64 m, .int .i64 dst, .int .i64 ia1, .int .i64 ib1, .int .i64 imm] 83)).ownsRow B 5 1 u0 TT.length (bytesV TT)) := hide (HO.out.alloc _)
      generalize (wr.alloc (.cells #[.int .i64 m, .int .i64 dst, .int .i64 ia1, .int .i64 ib1, .int .i64 imm] 83)) = W1 at *
      have HB1 : Hid (Kp B w W1) := hide (HKT.out.trans HKA.out)
      have g0 : W1.cell? ⟨wr.heap.size, 0, none⟩ = some (.int .i64 m) := hin1.1
      have HTW : Hid (OpTabW W1) := hide (ht.out.keep HB1.out.below (by omega))
      have g1 : W1.cell? ⟨0, m * 5, none⟩ = some (.string (strOf (wordS m))) := (HTW.out.2 m hm1 hm2).1
      obtain ⟨l, hU, hCT, hAL⟩ := ins_line B u0 TT m dst ia1 ib1 imm W1 wr.heap.size (by omega) hm1 hm2 hB2 (by omega) hin1 hhp HOA.out HLj.out HKj.out (htab.out.on HB1.out.below) HTW.out
      have HU := hide hU
      have HCT := hide hCT
      have HAL := hide hAL
      have hlt2 : wr.heap.size < W1.heap.size := by omega
      have hz : 0 < W1.heap.size := HTW.out.1
      clear hU hCT hAL hin1 hhp hsz d0 d1 d2 d3 d4
      have hk0 : (0 : Int) ≤ (m : Int) := by omega
      have hk1 : (m : Int) < 14 := by omega
      have hk2 : m < 14 := by omega
      have HB00 : Hid (Below W1.heap.size W1 W1) := hide (Below.refl _ _)
      have HB01 : Hid (Below W1.heap.size W1 W1.drew) := hide (Below.refl _ _).drew
      go_region_held3 (fun w' => w'.cell? ⟨wr.heap.size, 0, none⟩ = some (.int .i64 m) ∧ w'.cell? ⟨0, m * 5, none⟩ = some (.string (strOf (wordS m)))) (go_keep)
        (first
          | (go_at_call 108; with_reducible refine (HU.out W1 HB00.out).mono ?_; rintro e w5 ⟨fa, fc, rfl, HB5, HV5, f1, f2⟩)
          | (go_at_call 108; with_reducible refine (HU.out W1.drew HB01.out).mono ?_; rintro e w5 ⟨fa, fc, rfl, HB5, HV5, f1, f2⟩)
          | (go_at_call 107; with_reducible refine (HCT.out _ _ _ HB5.out HV5.out).mono ?_; rintro e w6 ⟨qa, qc, rfl, HB6, HS6, f3, f4⟩)
          | (go_at_call 63; with_reducible refine (HAL.out _ _ _ _ _ HB6.out HS6.out).mono ?_; rintro e w7 ⟨v7, rfl, HK7, HO7, f5, f6⟩))
      all_goals
        have HK8 : Hid (Kp B W0 w7) := hide ((HK.out.trans HKA.out).trans HK7.out)
        have HO8 : Hid (w7.ownsRow B 5 1 v7 (xs ++ (is.take (q + 1)).flatMap insS).length (bytesV (xs ++ (is.take (q + 1)).flatMap insS))) := hide (by rw [HX.out]; exact HO7.out)
        go_wp2
        exact ⟨⟨q + 1, by omega, by go_num, HK8, HO8⟩, by simp [intOf]; omega⟩
    · have HO5 : Hid (wr.ownsRow B 5 1 u0 (xs ++ is.flatMap insS).length (bytesV (xs ++ is.flatMap insS))) := hide (by have := HO.out; rwa [List.take_of_length_le (by have := hx.out; omega)] at this)
      have HX : Hid (xs ++ codeS is ⟨kt, ta, to, els⟩ = (xs ++ is.flatMap insS) ++ termS ⟨kt, ta, to, els⟩) := hide (by unfold codeS; simp)
      have HL5 : Hid ((xs ++ is.flatMap insS).length + (termS ⟨kt, ta, to, els⟩).length ≤ 1000000000000) := hide (by have h1 := hlen.out; unfold codeS at h1; rw [List.length_append] at h1 ⊢; omega)
      generalize xs ++ is.flatMap insS = TT at *
      have hbk := HK.out.block HHP.out (by decide)
      have hT1 : TerAt wr w.heap.size 0 ⟨kt, ta, to, els⟩ := HIN1.out.keepS hbk
      have hhp : ∃ c fz, wr.heap[w.heap.size]? = some (.cells c 78 fz) := by rw [hbk]; exact HHP.out
      have g0 : wr.cell? ⟨w.heap.size, 0, none⟩ = some (.int .i64 kt) := hT1.1
      have HTW : Hid (TerTabW wr) := hide (hT.out.keep HKT.out.below (by omega))
      have g1 : wr.cell? ⟨1, kt * 4, none⟩ = some (.string (strOf (terW kt))) := (HTW.out.2 kt h1 h2).1
      obtain ⟨l, hU, hCT, hAL⟩ := ter_line B u0 TT kt ta to els wr w.heap.size (by omega) h1 h2 hB2 (by omega) hT1 hhp HO5.out HL5.out hinT.out (htab.out.on HKT.out.below) HTW.out
      have HU := hide hU
      have HCT := hide hCT
      have HAL := hide hAL
      have hlt2 : w.heap.size < wr.heap.size := by omega
      have hz : 1 < wr.heap.size := HTW.out.1
      clear hU hCT hAL hT1 hhp hbk
      have hk0 : (0 : Int) ≤ (kt : Int) := by omega
      have hk1 : (kt : Int) < 4 := by omega
      have hk2 : kt < 4 := by omega
      have HB00 : Hid (Below wr.heap.size wr wr) := hide (Below.refl _ _)
      have HB01 : Hid (Below wr.heap.size wr wr.drew) := hide (Below.refl _ _).drew
      go_wp2_with fail
      go_region_held3 (fun w' => w'.cell? ⟨w.heap.size, 0, none⟩ = some (.int .i64 kt) ∧ w'.cell? ⟨1, kt * 4, none⟩ = some (.string (strOf (terW kt)))) (go_keep)
        (first
          | (go_at_call 109; with_reducible refine (HU.out wr HB00.out).mono ?_; rintro e w5 ⟨fa, fc, rfl, HB5, HV5, f1, f2⟩)
          | (go_at_call 109; with_reducible refine (HU.out wr.drew HB01.out).mono ?_; rintro e w5 ⟨fa, fc, rfl, HB5, HV5, f1, f2⟩)
          | (go_at_call 107; with_reducible refine (HCT.out _ _ _ HB5.out HV5.out).mono ?_; rintro e w6 ⟨qa, qc, rfl, HB6, HS6, f3, f4⟩)
          | (go_at_call 63; with_reducible refine (HAL.out _ _ _ _ _ HB6.out HS6.out).mono ?_; rintro e w7 ⟨v7, rfl, HK7, HO7, f5, f6⟩))
      all_goals
        have HK8 : Hid (Kp B w w7) := hide (HKT.out.trans HK7.out)
        have HO8 : Hid (w7.ownsRow B 5 1 v7 (xs ++ codeS is ⟨kt, ta, to, els⟩).length (bytesV (xs ++ codeS is ⟨kt, ta, to, els⟩))) := hide (by rw [HX.out]; exact HO7.out)
        go_wp2
        go_ret
        exact ⟨_, rfl, HK8.out, HO8.out⟩
end Go.Proofs.YtdcdgopblbmgoaaDoor

/-
  slices.Clone and slices.Insert of the program: one number ahead of a row of numbers.
-/
namespace Go.Proofs.YtdcdgopblbmgoaaDoor
open Go.RowKit Go.Lib

set_option maxHeartbeats 1000000 in
set_option maxRecDepth 100000 in
theorem clone_any (b o n c : Nat) (vs : List Int) (L B : Nat) (w : World) (hv : Hid (IntsAt w L B (some ⟨b, o, none⟩) vs)) (hx : Hid (n = vs.length)) (hn : n ≤ 1000000000) (hB : B ≤ w.heap.size) :
    Calls Tryd.prog 65 #[.slice (some ⟨b, o, none⟩) n c] w fun e w' => ∃ v, e = .returned v ∧ Below w.heap.size w w' ∧ v ≠ .slice none 0 0 ∧ w'.ownsRow w.heap.size 2 1 v vs.length (vs.map (Value.int .i64)) := by
  obtain ⟨i0, hi0, hz0, hz1, hz2⟩ := info_parts Tryd.info2'
  have q22 : ∀ (w : World) (a : Option Addr) (n c n' c' : Nat), (binOp .eql 38 (.slice a n c) (.slice none n' c')).run Tryd.prog w = .ok (.bool a.isNone) w := fun w a n c n' c' => Lib.run_eql_slice_nil w _ _ a n c n' c' Tryd.underlying38
  go_enter Tryd.func65, Tryd.ntmps65
  go_wp2_with (at_builtin; refine wpList_plain rfl fun K hK => wp_append_ints _ _ 38 rfl w.heap.size 2 i0 Tryd.underlying38 hi0 hz0 hz1 hz2 (.slice (some ⟨w.heap.size, 0, none⟩) 0 0) [] rfl (by simpa using World.ownsRow_lit (base := w.heap.size) (e := 2) (size := 1) w #[] 0 (by simp) (by simp) rfl) (by simp) (some ⟨b, o, none⟩) n c vs L B rfl hx.out (hv.out.keep ((balloc (Below.refl w.heap.size w) _).mono hB)) (by simp; omega) (by simp) ?_)
  intro v1 w1 ho1 hg1 hn1
  have HB : Hid (Below w.heap.size w w1) := hide (hg1.below (by simpa using World.ownsRow_lit (base := w.heap.size) (e := 2) (size := 1) w #[] 0 (by simp) (by simp) rfl : (w.alloc (.cells #[] 2)).ownsRow w.heap.size 2 1 (.slice (some ⟨w.heap.size, 0, none⟩) 0 0) 0 []) (balloc (Below.refl _ _) _) (by simp))
  have HO := hide ho1
  have HN := hide hn1
  clear hg1 ho1 hn1
  refine hK _ _ ?_
  go_wp2
  go_ret
  exact ⟨_, rfl, HB.out, HN.out, HO.out⟩

set_option maxHeartbeats 4000000 in
set_option maxRecDepth 100000 in
/-- One number goes ahead, in place. -/
theorem insert_room (g n c vb : Nat) (d : Value) (cs : List Value) (w : World) (hn : 0 < n) (hroom : n + 1 ≤ c) (hc63 : c ≤ 9223372036854775807) (hvb : vb ≠ g) (hcl : cs.length = n)
    (hcs : ∀ j v, cs[j]? = some v → w.cell? ⟨g, 0 + j, none⟩ = some v) (hsp : ∀ j, j < n + 1 → (w.cell? ⟨g, 0 + j, none⟩).isSome = true) (hfz : ∀ j, j < n + 1 → w.frozen? ⟨g, 0 + j, none⟩ = false)
    (hvs : w.cell? ⟨vb, 0, none⟩ = some d) (h1c : ∀ v ∈ cs, v.oneCell' = true) (h1d : d.oneCell' = true)
    (tA tB : TypeId) (kA kB : Nat) (hsa : w.shape? vb = some (tA, kA)) (hsb : w.shape? g = some (tB, kB)) (hkB : kB ≠ 0) (hfa : w.frozen? ⟨vb, 0, none⟩ = false) (hfe : w.frozen? ⟨vb, kA, none⟩ = false) :
    Calls Tryd.prog 64 #[.slice (some ⟨g, 0, none⟩) n c, .int .i64 0, .slice (some ⟨vb, 0, none⟩) 1 1] w fun e w' =>
      e = .returned (.slice (some ⟨g, 0, none⟩) (n + 1) c) ∧ w' = (w.drew.setCells g 1 cs).setCells g 0 [d] := by
  have u38 := run_underlying Tryd.underlying38
  have mixed : Tryd.prog.follows Departure.mixedOrders = true := by kernel_rfl
  have hz2 : ¬ ((0 : Int) = (n : Int)) := by omega
  obtain ⟨i0, hi0, hz0, hzs, hzb⟩ := info_parts Tryd.info2'
  have hsz : (Tryd.prog.info? 2).map (·.size) = some 1 := by rw [hi0]; simp [hzs]
  have hov : ∀ lb cb, (callFunc 105 #[.slice (some ⟨vb, 0, none⟩) 1 1, .slice (some ⟨g, 1, none⟩) lb cb]).run Tryd.prog w = .ok (.value (.bool false)) w := fun lb cb => by
    rw [run_callFunc_extern Tryd.func105 (by kernel_rfl) (by kernel_rfl) (by kernel_rfl) (e := Extern.SlicesOverlaps.overlaps #[38, 38] #[4]) (by kernel_rfl),
      Lib.run_overlaps_apart w 38 4 2 Tryd.underlying38 1 Tryd.sizeOf2 ⟨vb, 0, none⟩ ⟨g, 1, none⟩ 1 1 lb cb hvb tA tB kA kB hsa hsb hkB hfa hfe]
    rfl
  have hcp1 : ∀ ty dc sc, (Builtin.copy_ #[38, 38] ty #[.slice (some ⟨g, 1, none⟩) n dc, .slice (some ⟨g, 0, none⟩) (n + 1) sc]).run Tryd.prog w.drew = .ok (goInt cs.length) (w.drew.setCells g 1 cs) := fun ty dc sc =>
    run_copy_cells w.drew _ _ ty 2 g 1 n dc ⟨g, 0, none⟩ (n + 1) sc cs Tryd.underlying38 hsz (by rw [hcl]; simp only [Nat.min_def]; split <;> omega)
      (fun j v hj => by rw [Addr.add_lit]; exact hcs j v hj)
      (fun j hj => by have := hsp (1 + j) (by omega); rwa [Nat.zero_add] at this) (fun j hj => by have := hfz (1 + j) (by omega); rwa [Nat.zero_add] at this) h1c
  obtain ⟨W1, hW1⟩ : ∃ W1, W1 = w.drew.setCells g 1 cs := ⟨_, rfl⟩
  have hsp1 : (W1.cell? ⟨g, 0, none⟩).isSome = true := by
    rw [hW1]
    exact isSome_setCells g _ _ _ (fun j hj => by have := hsp (1 + j) (by omega); rwa [Nat.zero_add] at this) _ (hsp 0 (by omega))
  have hcp2 : ∀ (W : World), (∀ x, W.cell? x = W1.cell? x) → (∀ x, W.frozen? x = W1.frozen? x) → ∀ ty dc, (Builtin.copy_ #[38, 38] ty #[.slice (some ⟨g, 0, none⟩) (n + 1) dc, .slice (some ⟨vb, 0, none⟩) 1 1]).run Tryd.prog W = .ok (goInt [d].length) (W.setCells g 0 [d]) := fun W hWc hWf ty dc =>
    run_copy_cells W _ _ ty 2 g 0 (n + 1) dc ⟨vb, 0, none⟩ 1 1 [d] Tryd.underlying38 hsz (by show 1 = _; simp only [Nat.min_def]; split <;> omega)
      (fun j v hj => by
        have hj0 : j = 0 := by
          rcases Nat.eq_zero_or_pos j with h | h
          · exact h
          · rw [List.getElem?_eq_none (by simp; omega)] at hj; cases hj
        subst hj0
        cases hj
        rw [Addr.add_lit, hWc, hW1, World.cell?_setCells_out g _ _ _ _ (fun h _ => absurd h hvb)]
        exact hvs)
      (fun j hj => by
        have hj0 : j = 0 := by simpa using hj
        subst hj0
        rw [hWc]; exact hsp1)
      (fun j hj => by
        have hj0 : j = 0 := by simpa using hj
        subst hj0
        rw [hWf, hW1, World.frozen?_setCells]; exact hfz 0 (by omega)) (by intro v hv; simp at hv; subst hv; exact h1d)
  rw [← hW1] at hcp1
  have hn1 : (0 : Int) ≤ (n : Int) + 1 := by omega
  have hw1 : IntKind.i64.wrap ((n : Int) + 1) = (n : Int) + 1 := by rw [IntKind.wrap_i64]; omega
  have hw2 : IntKind.i64.wrap 1 = 1 := by rw [IntKind.wrap_i64]; rfl
  have hb1 : (1 : Int) ≤ (n : Int) + 1 := by omega
  have hb2 : ¬ (c = 1) := by omega
  have hb4 : ¬ (c = 0) := by omega
  have hnc : ¬ ((c : Int) < (n : Int) + 1) := by omega
  go_enter Tryd.func64, Tryd.ntmps64
  go_wp2_with (simp only [hov])
  go_region_law_o (refine step_copy_runI rfl _ _ 38 38 rfl _ _ (by simp [Act.eval, Act.put]; rfl) (by simp [Act.eval, Act.put]; rfl) (hcp1 _ _ _) ?_)
  go_wp2_with (at_builtin; refine wpList_copy_runI _ rfl _ _ 38 38 rfl _ _ rfl rfl (hcp2 _ (fun _ => rfl) (fun _ => rfl) _ _) ?_)
  go_ret
  first | exact ⟨rfl, rfl⟩ | exact ⟨rfl, by rw [hW1]⟩

set_option maxHeartbeats 4000000 in
set_option maxRecDepth 100000 in
/-- One number goes ahead, in a new row. -/
theorem insert_grow (g n c vb : Nat) (d : Value) (cs : List Value) (w : World) (hn : 0 < n) (hnc : n ≤ c) (hroom : c < n + 1) (hbig : (n + 1) * 8 ≤ 140737488355328) (hcl : cs.length = n)
    (hcs : ∀ j v, cs[j]? = some v → w.cell? ⟨g, 0 + j, none⟩ = some v)
    (hvs : w.cell? ⟨vb, 0, none⟩ = some d) (h1c : ∀ v ∈ cs, v.oneCell' = true) (h1d : d.oneCell' = true) :
    Calls Tryd.prog 64 #[.slice (some ⟨g, 0, none⟩) n c, .int .i64 0, .slice (some ⟨vb, 0, none⟩) 1 1] w fun e w' =>
      ∃ (G : Nat) (ROW : Array Value), n + 1 ≤ ROW.size ∧ e = .returned (.slice (some ⟨w.heap.size, 0, none⟩) (n + 1) G) ∧ w' = (((w.alloc (.cells ROW 2)).drew.setCells w.heap.size 0 [d]).drew).setCells w.heap.size 1 cs := by
  have u38 := run_underlying Tryd.underlying38
  have mixed : Tryd.prog.follows Departure.mixedOrders = true := by kernel_rfl
  obtain ⟨i0, hi0, hz0, hzs, hzb⟩ := info_parts Tryd.info2'
  have hz2 : ¬ ((0 : Int) = (n : Int)) := by omega
  have hz3 : (c : Int) < (n : Int) + 1 := by omega
  have hsz : (Tryd.prog.info? 2).map (·.size) = some 1 := by rw [hi0]; simp [hzs]
  have hbw : g < w.heap.size := block_lt_of_cell (hcs 0 _ (List.getElem?_eq_getElem (by omega)))
  have hvw : vb < w.heap.size := block_lt_of_cell hvs
  have hold : (Builtin.firstCells i0.size 0 (.slice (some ⟨g, 0, none⟩) 0 c)).run Tryd.prog w.drew = .ok ([] : List Value).toArray w.drew := by
    rw [hzs]
    exact run_firstCells_some w.drew 1 0 ⟨g, 0, none⟩ 0 c [] rfl (fun j v hj => by simp at hj)
  have hrz : ∀ ty, (Builtin.append_ #[38, 3] ty #[.slice (some ⟨g, 0, none⟩) 0 c, .int .i64 ((n : Int) + 1)]).run Tryd.prog w =
      .ok (.slice (some ⟨w.heap.size, 0, none⟩) (n + 1) (grownCap w (n + 1) c 2)) (w.drew.alloc (.cells (([] : List Value).toArray ++ Builtin.zeroCells (Value.int .i64 0).cells (n + 1) ++ Builtin.zeroCells (Value.int .i64 0).cells (grownCap w (n + 1) c 2 - (n + 1))) 2)) := fun ty => by
    have h := Lib.run_append_grow_zeros w 38 3 ty 2 i0 _ .i64 .i64 Tryd.underlying38 Tryd.underlying3 hi0 hz0 (some ⟨g, 0, none⟩) 0 c [] hold (n + 1) (by omega) (by omega) (by omega) (by omega) (by rw [hzb]; omega) (by rw [hzb, Nat.zero_add]; exact growslice_fits hroom hbig)
    rw [Nat.zero_add] at h
    exact h
  obtain ⟨G, hG⟩ : ∃ G, G = grownCap w (n + 1) c 2 := ⟨_, rfl⟩
  obtain ⟨ROW, hROW⟩ : ∃ ROW : Array Value, ROW = ([] : List Value).toArray ++ Builtin.zeroCells (Value.int .i64 0).cells (n + 1) ++ Builtin.zeroCells (Value.int .i64 0).cells (G - (n + 1)) := ⟨_, rfl⟩
  rw [← hG] at hrz
  rw [← hROW] at hrz
  have hRl : n + 1 ≤ ROW.size := by
    rw [hROW]
    simp [Builtin.zeroCells, Value.cells]
  obtain ⟨W1, hW1⟩ : ∃ W1, W1 = w.drew.alloc (.cells ROW 2) := ⟨_, rfl⟩
  rw [← hW1] at hrz
  have hN : ∀ j, j < n + 1 → (W1.cell? ⟨w.heap.size, j, none⟩).isSome = true := fun j hj => by
    rw [hW1, World.cell?_alloc_at (w := w.drew) ROW _ w.heap.size j rfl, Array.getElem?_eq_getElem (by omega)]; rfl
  have hNf : ∀ j, W1.frozen? ⟨w.heap.size, j, none⟩ = false := fun j => by rw [hW1]; exact World.frozen?_alloc_at (w := w.drew) ROW _ w.heap.size j rfl
  have hOb : ∀ j v, w.cell? ⟨g, j, none⟩ = some v → W1.cell? ⟨g, j, none⟩ = some v := fun j v h => by rw [hW1, World.cell?_alloc_past (w := w.drew) _ g j hbw]; exact h
  have hOv : W1.cell? ⟨vb, 0, none⟩ = some d := by rw [hW1, World.cell?_alloc_past (w := w.drew) _ vb 0 hvw]; exact hvs
  have hcpA : ∀ (W : World), (∀ x, W.cell? x = W1.cell? x) → (∀ x, W.frozen? x = W1.frozen? x) → ∀ ty dc, (Builtin.copy_ #[38, 38] ty #[.slice (some ⟨w.heap.size, 0, none⟩) (n + 1) dc, .slice (some ⟨vb, 0, none⟩) 1 1]).run Tryd.prog W = .ok (goInt [d].length) (W.setCells w.heap.size 0 [d]) := fun W hWc hWf ty dc =>
    run_copy_cells W _ _ ty 2 w.heap.size 0 (n + 1) dc ⟨vb, 0, none⟩ 1 1 [d] Tryd.underlying38 hsz (by show 1 = _; simp only [Nat.min_def]; split <;> omega)
      (fun j v hj => by
        have hj0 : j = 0 := by
          rcases Nat.eq_zero_or_pos j with h | h
          · exact h
          · rw [List.getElem?_eq_none (by simp; omega)] at hj; cases hj
        subst hj0
        cases hj
        rw [Addr.add_lit, hWc]; exact hOv)
      (fun j hj => by
        have hj0 : j = 0 := by simpa using hj
        subst hj0
        rw [hWc]; exact hN 0 (by omega)) (fun j hj => by rw [hWf]; exact hNf _) (by intro v hv; simp at hv; subst hv; exact h1d)
  have hGn : n + 1 ≤ G := by rw [hG]; exact grownCap_ge w _ _ _
  have hG63 : G ≤ 9223372036854775807 := by
    have := grownCap_le_maxLen w (n + 1) c 2 (by unfold maxLen; omega)
    rw [← hG] at this
    unfold maxLen at this
    omega
  have hbN : g ≠ w.heap.size := by omega
  have hcpB : ∀ (W : World), (∀ x, W.cell? x = (W1.setCells w.heap.size 0 [d]).cell? x) → (∀ x, W.frozen? x = (W1.setCells w.heap.size 0 [d]).frozen? x) → ∀ ty dc sc, (Builtin.copy_ #[38, 38] ty #[.slice (some ⟨w.heap.size, 1, none⟩) n dc, .slice (some ⟨g, 0, none⟩) n sc]).run Tryd.prog W = .ok (goInt cs.length) (W.setCells w.heap.size 1 cs) := fun W hWc hWf ty dc sc =>
    run_copy_cells W _ _ ty 2 w.heap.size 1 n dc ⟨g, 0, none⟩ n sc cs Tryd.underlying38 hsz (by rw [hcl]; simp only [Nat.min_def]; split <;> omega)
      (fun j v hj => by
        rw [Addr.add_lit, hWc, World.cell?_setCells_out _ _ _ _ _ (fun h _ => absurd h hbN)]
        exact hOb _ v (hcs j v hj))
      (fun j hj => by rw [hWc]; exact isSome_setCells _ _ _ _ (fun t ht => by
        have ht0 : t = 0 := by simpa using ht
        subst ht0
        exact hN 0 (by omega)) _ (hN _ (by omega)))
      (fun j hj => by rw [hWf, World.frozen?_setCells]; exact hNf _) h1c
  subst hW1
  have hE1 : ∀ x, ((w.alloc (.cells ROW 2)).drew).cell? x = (w.drew.alloc (.cells ROW 2)).cell? x := fun x => rfl
  have hE2 : ∀ x, ((w.alloc (.cells ROW 2)).drew).frozen? x = (w.drew.alloc (.cells ROW 2)).frozen? x := fun x => rfl
  have hF1 : ∀ x, (((w.alloc (.cells ROW 2)).drew.setCells w.heap.size 0 [d]).drew).cell? x = ((w.drew.alloc (.cells ROW 2)).setCells w.heap.size 0 [d]).cell? x := fun x => rfl
  have hF2 : ∀ x, (((w.alloc (.cells ROW 2)).drew.setCells w.heap.size 0 [d]).drew).frozen? x = ((w.drew.alloc (.cells ROW 2)).setCells w.heap.size 0 [d]).frozen? x := fun x => rfl
  have hw1 : IntKind.i64.wrap ((n : Int) + 1) = (n : Int) + 1 := by rw [IntKind.wrap_i64]; omega
  have hw2 : IntKind.i64.wrap 1 = 1 := by rw [IntKind.wrap_i64]; rfl
  have hn1 : (0 : Int) ≤ (n : Int) + 1 := by omega
  have hb1 : (1 : Int) ≤ (n : Int) + 1 := by omega
  have hci : ¬ (c = 0) := by omega
  have hGi : ¬ (G = 0) := by omega
  have hGim : ¬ (G = 1) := by omega
  clear hold hROW hG
  go_enter Tryd.func64, Tryd.ntmps64
  go_wp2_with (first
    | (at_builtin; refine Lib.wpList_append_run _ rfl _ _ _ _ rfl _ _ rfl rfl _ _ (hrz _) ?_)
    | (at_builtin; refine wpList_copy_runI _ rfl _ _ 38 38 rfl _ _ rfl rfl (hcpA _ hE1 hE2 _ _) ?_)
    | (at_builtin; refine wpList_copy_runI _ rfl _ _ 38 38 rfl _ _ rfl rfl (hcpB _ (fun _ => rfl) (fun _ => rfl) _ _ _) ?_))
  go_region_law_o (refine step_copy_runI rfl _ _ 38 38 rfl (.slice (some ⟨w.heap.size, 1, none⟩) n (G - 1)) (.slice (some ⟨g, 0, none⟩) n c) (by simp [Act.eval, Act.put]) (by simp [Act.eval, Act.put]) (hcpB _ hF1 hF2 3 (G - 1) c) ?_)
  go_wp2
  go_ret
  exact ⟨G, ROW, hRl, rfl, rfl⟩
end Go.Proofs.YtdcdgopblbmgoaaDoor
