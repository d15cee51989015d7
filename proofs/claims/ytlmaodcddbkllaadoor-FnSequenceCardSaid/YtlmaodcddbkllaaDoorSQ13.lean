import Derived.Test.YtlmaodcddbkllaaDoorSQ12
/-
  Sequence: smallestFree of the program.
-/
namespace Go.Proofs.YtlmaodcddbkllaaDoor
open Go.RowKit Go.Maps Go.Sort Go.Shelf

/-- slices.Sorted of maps.Keys, held against the moves. -/
theorem sorted_of (b nn : Nat) (D0 : DataW Unit) (L : List Mv) (w : World) (hown : w.ownsMap Tryd.prog 2 insR b nn D0) (hmax : Maps.size D0 ≤ 64) (hp : (intKeys D0).Perm (tosM L)) :
    Calls Tryd.prog 133 #[.func (.func 179) #[] #[.pointer (some ⟨w.heap.size, 0, none⟩)]] (w.alloc (.cells #[.map (some b)] 122)) fun e w' => ∃ a4 c4 ss, e = .returned (.slice a4 L.length c4) ∧ Hid (ss.Perm (tosM L)) ∧ ValsAt w' w.heap.size w'.heap.size a4 ((sortM ss).map encZ) ∧ Below w.heap.size w w' := by
  refine (sorted_any b nn D0 w hown hmax).mono ?_
  rintro e w4 ⟨v4, ss, rfl, hp4, ho4, hb4⟩
  obtain ⟨a4, c4, rfl, hv4⟩ := vals_owned ho4
  exact ⟨a4, c4, ss, by rw [List.length_map]; rw [← sort_len (hp4.trans hp)]; rfl, hide (hp4.trans hp), hv4, hb4⟩
theorem cp_form (m : Mv) : ∃ (k : Nat) (a : Int), cpI m = ⟨k, m.to, a, 0, 0⟩ ∧ 1 ≤ k ∧ k ≤ 13 := by
  unfold cpI
  split
  · exact ⟨13, 0, rfl, by omega, by omega⟩
  · exact ⟨11, m.frm, rfl, by omega, by omega⟩
theorem insA_inj {x y : Ins} (h : insA x = insA y) : x = y := by
  obtain ⟨a1, a2, a3, a4, a5⟩ := x
  obtain ⟨b1, b2, b3, b4, b5⟩ := y
  simp only [insA, Value.agg.injEq] at h
  have := congrArg Array.toList h
  simp at this
  obtain ⟨rfl, rfl, rfl, rfl, rfl⟩ := this
  rfl
/-- What a round of smallestFree's first loop does to the word. -/
structure ReadOf (L : List Mv) (m : Mv) (g R W : Nat) (w w' : World) : Prop where
  grown : w.grownBy w' (some g)
  lt : addW W (readsN m) < 18446744073709551616
  cell : w'.cell? ⟨g, 0, none⟩ = some (.int .u64 (addW W (readsN m)))
  thaw : ∀ q, w'.frozen? ⟨g, q, none⟩ = false
set_option maxHeartbeats 4000000 in
set_option maxRecDepth 100000 in
theorem smallestFree_any (b n : Nat) (D : DataW Unit) (L : List Mv) (w : World) (hown : Hid (w.ownsMap Tryd.prog 2 insR b n D)) (hn : n ≤ 64) (hm : Hid (MapL D L)) (hg : Hid (MvOk L)) (hne : Hid (L ≠ [])) (ht : Hid (OpTabW w)) :
    Calls Tryd.prog 73 #[.map (some b)] w fun e w' => Below w.heap.size w w' ∧ ∃ t f, e = .returned (.tuple #[.int .i64 t, .bool f]) ∧ ((f = true ∧ lowI (freeT L) = some t) ∨ (f = false ∧ lowI (freeT L) = none ∧ lowI (tosM L) = some t)) := by
  have hbl := hown.out.lt
  go_enter Tryd.func73, Tryd.ntmps73
  go_wp2_with (first
    | (go_at_call 130; refine (newSet_any _).mono ?_; rintro e w1 ⟨g, rfl, hg1, hb1, hc1, hz1⟩; have hown1 := (hown.out.kept (calm hb1) (by simp)).alloc (.cells #[.slice (some ⟨g, 0, none⟩) 1 1] 183))
    | (at_range; refine wpList_range_own _ rfl _ 122 rfl 2 44 Tryd.keyI Tryd.tMap insR b n D rfl hown1 ?_; intro w0 hrg0 hg0 hs0)
    | go_in)
  have hw1 := hb1.size
  have hg1' := hg1
  have hgl1 : g < w1.heap.size := World.block_lt_of_cell? w1 _ hc1
  have hz10 := fun q => hz1 q
  have HB0 : Hid (Below w.heap.size w w0) := hide ((balloc hb1 _).grown hg0 (by simp; omega) (fun k hk => by cases hk))
  have hR0 : w0.cell? ⟨w1.heap.size, 0, none⟩ = some (.slice (some ⟨g, 0, none⟩) 1 1) := (cell_of (hg0.block w1.heap.size (by simp) (by simp))).trans (by simp)
  have hG0 : w0.cell? ⟨g, 0, none⟩ = some (.int .u64 ((0 : Nat) : Int)) := (cell_of (hg0.block g (by simp; omega) (by simp))).trans (by rw [World.cell?_alloc_lt _ _ _ hgl1]; exact hc1)
  have hZ0 : ∀ q, w0.frozen? ⟨g, q, none⟩ = false := fun q => by
    rw [World.frozen?_of_block (hg0.block g (by simp; omega) (by simp)), World.frozen?_alloc_old _ _ _ (by show g ≠ _; omega)]
    exact hz1 q
  have e0 : (w1.alloc (.cells #[.slice (some ⟨g, 0, none⟩) 1 1] 183)).heap.size = w1.heap.size + 1 := by simp
  rw [e0] at hrg0
  rw [e0]
  have HZ0 := hide hZ0
  clear hZ0 hz10 hz1 hc1 hs0 hown1 e0 hg0
  generalize w1.heap.size = R at *
  go_frame
  go_loopw [13] (fun _ wr => ∃ (left : Lit → Bool) (cnt W : Nat), Hid (wr.ranges Tryd.prog 2 insR b (R + 1) n D left cnt) ∧ Hid (Below w.heap.size w wr) ∧ wr.cell? ⟨R, 0, none⟩ = some (.slice (some ⟨g, 0, none⟩) 1 1) ∧ Hid (W < 18446744073709551616) ∧ wr.cell? ⟨g, 0, none⟩ = some (.int .u64 W) ∧ Hid (∀ q, wr.frozen? ⟨g, q, none⟩ = false) ∧ Hid (∀ t, W.testBit t = visB L left t))
    (fun _ wr => wr.rangeLeft b (R + 1))
  case atStart => exact ⟨_, _, 0, hide hrg0, HB0, hR0, hide (by omega), hG0, HZ0, hide (fun t => by rw [vis_start (fun m hm' => (hm.out.keys _).2 ⟨m, hm', rfl⟩)]; simp)⟩
  case round =>
    clear hrg0 HB0 hR0 hG0 HZ0 hb1
    obtain ⟨left, cnt, W, HRG, HB, hR, HW, hG, HZ, HV⟩ := hrel
    go_wp2_with (first
      | (at_next; refine wpList_next_ranges _ rfl _ rfl 2 Tryd.keyI insR (Value.int .i64) insA (fun key kl hkey => by obtain ⟨x, rfl, _⟩ := Maps.keyOf_int_inv Tryd.underlying2 hkey; exact ⟨x, rfl⟩) (fun v y hv => by obtain ⟨x, rfl, _⟩ := insR_inv hv; exact ⟨x, rfl⟩) b (R + 1) n _ _ _ rfl HRG.out ?_ ?_)
      | go_in)
    · intro _ hl0
      have HIR : Hid (∀ t : Nat, W.testBit t = isRead L t) := hide (fun t => by rw [HV.out t, vis_end hl0])
      have hgg := hg.out
      have hpm := hm.out.perm hgg.nd (fun es he p hp => by
        obtain ⟨es', e1, _, e3⟩ := HRG.out.owns.entries Tryd.keyI
        rw [he] at e1
        injection e1 with e1
        subst e1
        exact e3 p hp)
      have hsz := HB.out.size
      have HS := hide (sorted_of b n D L wr HRG.out.owns (Nat.le_trans HRG.out.owns.size_le hn) hpm)
      have HK := hide (keys_any (some b) wr)
      clear hpm hgg
      go_wp2_with (first
        | (go_at_call 134; with_reducible refine HK.out.mono ?_; rintro e w3 ⟨rfl, hw3⟩; rw [hw3]; clear hw3 w3)
        | (go_at_call 133; with_reducible refine HS.out.mono ?_; rintro e w4 ⟨a4, c4, ss, rfl, hp, hv4, hb4⟩))
      have HB4 := hide (HB.out.trans (hb4.mono hsz))
      have hR4 := (hb4.cell (p := ⟨R, 0, none⟩) (World.block_lt_of_cell? wr _ hR)).trans hR
      have hG4 := (hb4.cell (p := ⟨g, 0, none⟩) (World.block_lt_of_cell? wr _ hG)).trans hG
      have hln : L.length ≤ 64 := by rw [← hm.out.size]; exact Nat.le_trans HRG.out.owns.size_le hn
      have hl1 : 0 < L.length := List.length_pos_iff.2 hne.out
      have HV4 : Hid (ValsAt w4 wr.heap.size w4.heap.size a4 ((sortM ss).map encZ)) := hide hv4
      have HKL : Hid ((sortM ss).length = L.length) := hide (sort_len hp.out)
      have HTO : Hid (∀ x ∈ sortM ss, 0 ≤ x ∧ x < 64) := hide (fun x hx => by
        obtain ⟨q, hq, rfl⟩ := List.mem_map.1 ((sort_mem hp.out).1 hx)
        exact hg.out.to q hq)
      have hw4 := hb4.size
      clear hv4 hb4 HS HK hR hG HB HRG hl0 HV HZ hsz hm
      generalize L.length = nl at *
      generalize wr.heap.size = Z at *
      generalize wr = wo2 at *
      go_loopw [25] (fun u wr => ∃ q : Nat, q ≤ nl ∧ u = .int .i64 q ∧ Hid (Below w4.heap.size w4 wr) ∧ Hid (∀ j (h : j < (sortM ss).length), j < q → isRead L (sortM ss)[j] = true)) (fun u _ => nl - (RowKit.intOf u).toNat)
      case atStart => exact ⟨0, Nat.zero_le _, rfl, hide (Below.refl _ _), hide (fun j _ h => absurd h (by omega))⟩
      case round =>
        obtain ⟨q, hq, rfl, HX, HF⟩ := hrel
        have hR5 := (HX.out.cell (p := ⟨R, 0, none⟩) (World.block_lt_of_cell? w4 _ hR4)).trans hR4
        have hG5 := (HX.out.cell (p := ⟨g, 0, none⟩) (World.block_lt_of_cell? w4 _ hG4)).trans hG4
        have hxz := HX.out.size
        by_cases hlt : q < nl
        · have hqk : q < (sortM ss).length := by have := HKL.out; omega
          obtain ⟨b4, o4, rfl, hbb, hc4⟩ := HV4.out q (by simpa using hqk)
          have hc5 := (HX.out.cell (p := ⟨b4, o4 + q, none⟩) hbb.2).trans hc4
          rw [List.getElem_map] at hc5
          have hto := HTO.out _ (List.getElem_mem hqk)
          obtain ⟨t, hte⟩ : ∃ t : Nat, (sortM ss)[q] = (t : Int) := ⟨(sortM ss)[q].toNat, (Int.toNat_of_nonneg hto.1).symm⟩
          have HTE := hide hte
          rw [hte] at hc5 hto
          have ht64 : t < 64 := by omega
          have HH := hide (has_any g W t wr ht64 HW.out hG5)
          have hbt := HIR.out t
          rw [hbt] at HH
          clear hc4 hte hbt hto
          cases hrd : isRead L t with
          | false =>
            rw [hrd] at HH
            have HRES : Hid (lowI (freeT L) = some (t : Int)) := hide (by rw [← HTE.out]; exact first_free hp.out hqk (fun j hj => HF.out j _ hj) (by rw [HTE.out]; exact hrd))
            clear hrd
            go_wp2_with (go_at_call 135; with_reducible refine HH.out.mono ?_; rintro e w6 ⟨rfl, hb6⟩)
            refine bodyPost_ret (v := .tuple #[.int .i64 t, .bool true]) (by simp [results, Tryd.results73, go_sem, *]) rfl ?_
            exact ⟨HB4.out.trans ((HX.out.trans (hb6.mono hxz)).mono (by have := HB4.out.size; omega)), _, _, rfl, Or.inl ⟨rfl, HRES.out⟩⟩
          | true =>
            rw [hrd] at HH
            have HF2 : Hid (∀ j (h : j < (sortM ss).length), j < q + 1 → isRead L (sortM ss)[j] = true) := hide (fun j h hj => by
              rcases Nat.lt_succ_iff_lt_or_eq.1 hj with hj | hj
              · exact HF.out j h hj
              · subst hj; rw [HTE.out]; exact hrd)
            clear hrd
            go_wp2_with (go_at_call 135; with_reducible refine HH.out.mono ?_; rintro e w6 ⟨rfl, hb6⟩)
            exact ⟨⟨q + 1, by omega, by go_num, hide (HX.out.trans (hb6.mono hxz)), HF2⟩, by simp [RowKit.intOf]; omega⟩
        · have hqk : 0 < (sortM ss).length := by have := HKL.out; omega
          obtain ⟨b4, o4, rfl, hbb, hc4⟩ := HV4.out 0 (by simpa using hqk)
          have hc5 := (HX.out.cell (p := ⟨b4, o4 + 0, none⟩) hbb.2).trans hc4
          rw [List.getElem_map, Nat.add_zero] at hc5
          have HRES : Hid (lowI (freeT L) = none) := hide (none_free hp.out (fun j hj => HF.out j hj (by have := HKL.out; omega)))
          have HRES2 := hide (first_low hp.out hqk)
          generalize (sortM ss)[0] = t at *
          clear hc4
          go_wp2
          refine bodyPost_ret (v := .tuple #[.int .i64 t, .bool false]) (by simp [results, Tryd.results73, go_sem, *]) rfl ?_
          exact ⟨HB4.out.trans (HX.out.mono (by have := HB4.out.size; omega)), _, _, rfl, Or.inr ⟨rfl, HRES.out, HRES2.out⟩⟩
    · intro x c kl yd yp w2 cnt1 hkey hlx hv hat hrg1 hlt hg1 hs1 hen
      obtain ⟨x', ex, rfl, hwx⟩ := Maps.keyOf_int_inv Tryd.underlying2 hkey
      cases ex
      obtain ⟨c', ec, ey⟩ := insR_inv hv
      obtain ⟨rfl, rfl⟩ := Prod.mk.inj ey
      have hcc := insA_inj ec
      subst hcc
      obtain ⟨m, hmL, hmx⟩ := (hm.out.keys (.int .i64 x)).1 (has_true_of_atKey (y := insD c) hat)
      have hmx' : x = m.to := by simpa using hmx
      have hcp : c = cpI m := insD_inj (by rw [← hm.out.at_ m hmL (.lit (.bool true)), ← hmx]; exact (hat _).symm)
      obtain ⟨k, a, hk, hk1, hk2⟩ := cp_form m
      have HK := hide hk
      rw [hk] at hcp
      subst hmx' hcp
      unfold insA at *
      clear hmx ey ec hv hat hk hwx
      dsimp only at *
      have hRl : R < wr.heap.size := World.block_lt_of_cell? wr _ hR
      have hGl : g < wr.heap.size := World.block_lt_of_cell? wr _ hG
      have hR2 := (cell_of (o := 0) (hg1.block R hRl (by simp))).trans hR
      have hG2 := (cell_of (o := 0) (hg1.block g hGl (by simp; omega))).trans hG
      have hZ2 : ∀ q, w2.frozen? ⟨g, q, none⟩ = false := fun q => by rw [World.frozen?_of_block (hg1.block g hGl (by simp; omega))]; exact HZ.out q
      have hsz := HB.out.size
      have HB2 : Hid (Below w.heap.size w w2) := hide (HB.out.grown hg1 (by omega) (fun j hj => by cases hj; omega))
      have HRG1 := hide hrg1
      have HLT := hide hlt
      clear hR hG HZ HB hg1 hrg1 hlt
      go_wp2_with fail
      have e2 : (w2.alloc (.cells #[.int .i64 k, .int .i64 m.to, .int .i64 a, .int .i64 0, .int .i64 0] 44)).heap.size = w2.heap.size + 1 := by simp
      have HI3 : Hid (InsAt (w2.alloc (.cells #[.int .i64 k, .int .i64 m.to, .int .i64 a, .int .i64 0, .int .i64 0] 44)) wr.heap.size 0 ⟨k, m.to, a, 0, 0⟩) := hide (by rw [← hs1]; exact ⟨by simp, by simp, by simp, by simp, by simp⟩)
      have HB3 := hide (balloc HB2.out (.cells #[.int .i64 k, .int .i64 m.to, .int .i64 a, .int .i64 0, .int .i64 0] 44))
      have HRG3 := hide (HRG1.out.alloc (.cells #[.int .i64 k, .int .i64 m.to, .int .i64 a, .int .i64 0, .int .i64 0] 44))
      have hR3 : (w2.alloc (.cells #[.int .i64 k, .int .i64 m.to, .int .i64 a, .int .i64 0, .int .i64 0] 44)).cell? ⟨R, 0, none⟩ = some (.slice (some ⟨g, 0, none⟩) 1 1) := by rw [World.cell?_alloc_lt _ _ _ (by show R < _; omega)]; exact hR2
      have hG3 : (w2.alloc (.cells #[.int .i64 k, .int .i64 m.to, .int .i64 a, .int .i64 0, .int .i64 0] 44)).cell? ⟨g, 0, none⟩ = some (.int .u64 W) := by rw [World.cell?_alloc_lt _ _ _ (by show g < _; omega)]; exact hG2
      have hZ3 : Hid (∀ q, (w2.alloc (.cells #[.int .i64 k, .int .i64 m.to, .int .i64 a, .int .i64 0, .int .i64 0] 44)).frozen? ⟨g, q, none⟩ = false) := hide (fun q => by rw [World.frozen?_alloc_old _ _ _ (by show g ≠ _; omega)]; exact hZ2 q)
      generalize w2.alloc (.cells #[.int .i64 k, .int .i64 m.to, .int .i64 a, .int .i64 0, .int .i64 0] 44) = W3 at *
      clear hR2 hG2 hZ2 HB2 HRG1
      have HT3 : Hid (OpTabW W3) := hide (ht.out.keep HB3.out ht.out.1)
      have HRD : Hid (Calls Tryd.prog 132 #[.pointer (some ⟨wr.heap.size, 0, none⟩)] W3.drew fun e w5 => ∃ a5 n5 c5, e = .returned (.slice a5 n5 c5) ∧ w5.cell? ⟨R, 0, none⟩ = some (.slice (some ⟨g, 0, none⟩) 1 1) ∧ Hid (Calls Tryd.prog 131 #[.agg #[.slice (some ⟨g, 0, none⟩) 1 1], .slice a5 n5 c5] w5 fun e w7 => e = .returned (.tuple #[]) ∧ w7.cell? ⟨R, 0, none⟩ = some (.slice (some ⟨g, 0, none⟩) 1 1) ∧ Hid (ReadOf L m g R W W3 w7))) := hide (by
        refine (reads_any wr.heap.size k m.to a 0 0 W3.drew HI3 hk1 hk2 HT3).mono ?_
        rintro e w5 ⟨v5, rfl, hb5, ho5⟩
        have hb5' : Below W3.heap.size W3 w5 := ⟨hb5.os, hb5.tape, hb5.output, hb5.size, hb5.block⟩
        rw [← HK.out, reads_cp] at ho5
        obtain ⟨a5, c5, rfl, hv5⟩ := vals_owned ho5
        have hs5 := hb5'.size
        refine ⟨a5, _, c5, rfl, (hb5'.cell (p := ⟨R, 0, none⟩) (by show R < _; omega)).trans hR3, hide ?_⟩
        refine (add_any g W _ c5 a5 (readsN m) W3.heap.size w5.heap.size w5 (hide ?_) (hide (by simp)) (by simp; unfold readsN; split <;> simp) (hide (reads_lt (hg.out.frm m hmL))) HW.out ((hb5'.cell (p := ⟨g, 0, none⟩) (by show g < _; omega)).trans hG3) (fun q => by rw [World.frozen?_of_block (hb5'.block g (by omega))]; exact hZ3.out q) (Nat.le_refl _) (by omega)).mono ?_
        · intro i hi
          obtain ⟨b5, o5, e5, hb5, hc5⟩ := hv5 i (by simpa using hi)
          exact ⟨b5, o5, e5, hb5, by rw [hc5]; simp⟩
        · rintro e w7 ⟨rfl, hg7, hlt7, hc7, hz7⟩
          exact ⟨rfl, (cell_of (hg7.block R (by omega) (by simp; omega))).trans ((hb5'.cell (p := ⟨R, 0, none⟩) (by show R < _; omega)).trans hR3), hide ⟨((calm hb5').but (some g)).andThen hg7 (fun j hj => by cases hj; exact Or.inr rfl), hlt7, hc7, hz7⟩⟩)
      clear HI3 HT3 hG3 hZ3
      go_region_held3 (fun w' => w'.cell? ⟨R, 0, none⟩ = some (.slice (some ⟨g, 0, none⟩) 1 1)) (go_keep)
        (first
          | (go_at_call 132; with_reducible refine HRD.out.mono ?_; rintro e w5 ⟨a5, n5, c5, rfl, f5, HA5⟩)
          | (go_at_call 131; with_reducible refine HA5.out.mono ?_; rintro e w7 ⟨rfl, f7, HO7⟩))
      all_goals
        have HRG4 := hide (HRG3.out.kept HO7.out.grown (by simp; omega) (by simp; omega))
        go_roundw
        case rel => exact ⟨_, _, _, _, _, _, _, _, ⟨_, cnt1, _, HRG4, hide (HB3.out.grown HO7.out.grown (by omega) (fun j hj => by cases hj; exact hg1')), f7, hide HO7.out.lt, HO7.out.cell, hide HO7.out.thaw, hide (fun t => by rw [reads_bit, HV.out t]; exact (vis_step hg.out.nd hmL t).symm)⟩, rfl⟩
        case measure => rw [HRG4.out.left_eq, HRG.out.left_eq]; exact HLT.out
end Go.Proofs.YtlmaodcddbkllaaDoor
