import Derived.Test.YtlmaodcddbkllaaDoorSQ7
/-
  Sequence: movesLeft of the program.
-/
namespace Go.Proofs.YtlmaodcddbkllaaDoor
open Go.RowKit Go.Maps

theorem Tryd.tMap : Tryd.prog.underlying 122 = some (.map 2 44) := Tryd.underlying122
set_option maxHeartbeats 4000000 in
set_option maxRecDepth 100000 in
theorem movesLeft_any (a : Option Addr) (n c : Nat) (xs : List Mv) (L B : Nat) (w : World) (ha : Hid (MvsAt w L B a xs)) (hx : Hid (n = xs.length)) (hn : n ≤ 1048576) (hB : B ≤ w.heap.size) (hr : Hid (∀ m ∈ xs, -9223372036854775808 ≤ m.to ∧ m.to ≤ 9223372036854775807)) :
    Calls Tryd.prog 72 #[.slice a n c] w fun e w' => Below w.heap.size w w' ∧ e = .returned (.tuple #[.map (some w.heap.size), .bool (goodM xs)]) ∧ (goodM xs = true → ∃ D, w'.ownsMap Tryd.prog 2 insR w.heap.size 64 D ∧ MapL D (startM xs)) := by
  have hmm := @run_makeMap Tryd.prog
  by_cases hbig : 64 < n
  · have HG : Hid (goodM xs = false) := hide (by unfold goodM; have := hx.out; simp; intro h; omega)
    go_enter Tryd.func72, Tryd.ntmps72
    go_wp2
    refine bodyPost_ret (v := .tuple #[.map (some w.heap.size), .bool false]) (by simp [results, Tryd.results72, go_sem, *]) rfl ?_
    exact ⟨balloc (Below.refl _ _) _, by rw [HG.out], fun h => by rw [HG.out] at h; cases h⟩
  have HG : Hid (goodM xs = goodF [] xs) := hide (by unfold goodM; have := hx.out; simp; omega)
  have hn64 : n ≤ 64 := by omega
  clear hbig
  go_enter Tryd.func72, Tryd.ntmps72
  go_wp2
  go_loopw [16] (fun u wr => ∃ (q : Nat) (D : DataW Unit), q ≤ n ∧ u = .int .i64 q ∧ Hid (Below w.heap.size w wr) ∧ Hid (wr.ownsMap Tryd.prog 2 insR w.heap.size q D) ∧ Hid (MapL D (xs.take q)) ∧ Hid (GoodL (xs.take q)) ∧ Hid (goodM xs = goodF (xs.take q) (xs.drop q))) (fun u _ => n - (RowKit.intOf u).toNat)
  case atStart => exact ⟨0, .map [], Nat.zero_le _, rfl, hide (balloc (Below.refl _ _) _), hide (World.ownsMap_made _ _ _ _), hide (by rw [List.take_zero]; exact MapL.nil), hide (by rw [List.take_zero]; exact ⟨by simp [tosM], by simp⟩), hide (by rw [HG.out]; rfl)⟩
  case round =>
    obtain ⟨q, D, hq, rfl, HB, HO, HM, HGL, HJ⟩ := hrel
    have hwz := HB.out.size
    by_cases hlt : q < n
    · have hqx : q < xs.length := by have := hx.out; omega
      obtain ⟨b, o, rfl, hbB, e0w, e1w⟩ := ha.out q hqx
      have e0 := (HB.out.cell (p := ⟨b, o + q * 2, none⟩) (by show b < _; omega)).trans e0w
      have e1 := (HB.out.cell (p := ⟨b, o + q * 2 + 1, none⟩) (by show b < _; omega)).trans e1w
      have HST := hide (goodF_step hqx)
      have HT : Hid (xs.take (q + 1) = xs.take q ++ [xs[q]]) := hide (List.take_succ_eq_append_getElem hqx)
      have hrt := hr.out _ (List.getElem_mem hqx)
      clear e0w e1w
      generalize hm : xs[q] = m at *
      obtain ⟨t, f⟩ := m
      dsimp only at *
      clear hm
      obtain ⟨y, hlk⟩ := look_ok (HO.out.alloc (.cells #[.int .i64 t, .int .i64 f] 58)) HM.out t hrt
      unfold insA at hlk
      (try dsimp only at hlk)
      have HAT : Hid (goodAt (xs.take q) ⟨t, f⟩ = (decide (0 ≤ t ∧ t < 64 ∧ 0 ≤ f ∧ f < 64) && !(xs.take q).any (fun z => z.to == t))) := hide rfl
      generalize hany : (xs.take q).any (fun z => z.to == t) = tw at *
      have HANY := hide hany
      clear hany
      obtain ⟨y0, y1, y2, y3, y4⟩ := y
      (try dsimp only at *)
      cases tw with
      | true =>
        have HF : Hid (goodM xs = false) := hide (by rw [HJ.out, HST.out, HAT.out]; simp)
        go_wp2
        refine bodyPost_ret (v := .tuple #[.map (some w.heap.size), .bool false]) (by simp [results, Tryd.results72, go_sem, *]) rfl ?_
        exact ⟨balloc (balloc HB.out _) _, by rw [HF.out], fun h => by rw [HF.out] at h; cases h⟩
      | false =>
        by_cases hrt1 : 0 ≤ t ∧ t < 64
        · have F1 : Hid (fld true t 0 64 = true) := hide (by simp [fld, hrt1])
          by_cases hrf : 0 ≤ f ∧ f < 64
          · have F2 : Hid (fld true f 0 64 = true) := hide (by simp [fld, hrf])
            have HGA : Hid (goodAt (xs.take q) ⟨t, f⟩ = true) := hide (by rw [HAT.out]; simp [hrt1, hrf])
            have HCP : Hid (cpI ⟨t, f⟩ = ⟨11, t, f, 0, 0⟩) := hide (cp_move hrf.1)
            have HKT := hide (key_of t hrt)
            have HM2 : Hid (MapL (D.put (.int .i64 t) (insD ⟨11, t, f, 0, 0⟩)) (xs.take (q + 1))) := hide (by rw [HT.out, ← HCP.out]; exact HM.out.put_new (m := ⟨t, f⟩) HANY.out)
            have HG2 : Hid (GoodL (xs.take (q + 1))) := hide (by rw [HT.out]; exact HGL.out.snoc HGA.out)
            have HJ2 : Hid (goodM xs = goodF (xs.take (q + 1)) (xs.drop (q + 1))) := hide (by rw [HJ.out, HST.out, HGA.out, Bool.true_and])
            clear HAT HANY HGA HM HGL HJ HST HT hrt hrt1 hrf HCP
            go_wp2_with (first
              | (go_at_call 127; refine (validField_any _ _ _ _ _).mono ?_; rintro e w2 ⟨rfl, hw2⟩; rw [hw2]; clear hw2 w2; first | rw [F1.out] | rw [F2.out])
              | (at_mapUpdate; refine wpList_mapUpdate_own _ rfl _ _ _ 122 rfl 2 44 Tryd.keyI Tryd.tMap insR w.heap.size q D rfl ((HO.out.alloc _).alloc _) (by unfold maxLen; omega) _ _ _ rfl rfl HKT.out (insD ⟨11, t, f, 0, 0⟩) [] rfl ?_; intro w3 hown3 hg3))
            exact ⟨⟨q + 1, _, by omega, by go_num, hide ((balloc (balloc HB.out _) _).grown hg3 (by simp; omega) (fun k hk => by cases hk; exact Nat.le_refl _)), hide hown3, HM2, HG2, HJ2⟩, by simp [RowKit.intOf]; omega⟩
          · have F2 : Hid (fld true f 0 64 = false) := hide (by simp [fld]; omega)
            have HF : Hid (goodM xs = false) := hide (by rw [HJ.out, HST.out, HAT.out]; simp; omega)
            clear HAT HANY HM HGL HJ HST HT hrt hrt1 hrf
            go_wp2_with (go_at_call 127; refine (validField_any _ _ _ _ _).mono ?_; rintro e w2 ⟨rfl, hw2⟩; rw [hw2]; clear hw2 w2; first | rw [F1.out] | rw [F2.out])
            refine bodyPost_ret (v := .tuple #[.map (some w.heap.size), .bool false]) (by simp [results, Tryd.results72, go_sem, *]) rfl ?_
            exact ⟨balloc (balloc HB.out _) _, by rw [HF.out], fun h => by rw [HF.out] at h; cases h⟩
        · have F1 : Hid (fld true t 0 64 = false) := hide (by simp [fld]; omega)
          have HF : Hid (goodM xs = false) := hide (by rw [HJ.out, HST.out, HAT.out]; simp; omega)
          clear HAT HANY HM HGL HJ HST HT hrt hrt1
          go_wp2_with (go_at_call 127; refine (validField_any _ _ _ _ _).mono ?_; rintro e w2 ⟨rfl, hw2⟩; rw [hw2]; clear hw2 w2; rw [F1.out])
          refine bodyPost_ret (v := .tuple #[.map (some w.heap.size), .bool false]) (by simp [results, Tryd.results72, go_sem, *]) rfl ?_
          exact ⟨balloc (balloc HB.out _) _, by rw [HF.out], fun h => by rw [HF.out] at h; cases h⟩
    · have hqn : q = n := by omega
      have HF : Hid (goodM xs = true) := hide (by rw [HJ.out, List.drop_eq_nil_of_le (by have := hx.out; omega)]; rfl)
      have HX : Hid (xs.take q = xs) := hide (List.take_of_length_le (by have := hx.out; omega))
      rw [HX.out] at HM HGL
      have HD := hide (deleteFunc_any w.heap.size q D xs wr HO.out HM HGL)
      go_wp2_with (go_at_call 128; refine HD.out.mono ?_; rintro e w2 ⟨rfl, hg2, D2, ho2, hm2⟩)
      refine bodyPost_ret (v := .tuple #[.map (some w.heap.size), .bool true]) (by simp [results, Tryd.results72, go_sem, *]) rfl ?_
      exact ⟨HB.out.grown hg2 hwz (fun k hk => by cases hk; exact Nat.le_refl _), by rw [HF.out], fun _ => ⟨D2, ho2.mono (by omega), hm2⟩⟩
end Go.Proofs.YtlmaodcddbkllaaDoor
