import Derived.Test.YtanaeindldcapaaDoorML2
namespace Go.Proofs.YtanaeindldcapaaDoor
open Go.RowKit
set_option maxHeartbeats 2000000 in
set_option maxRecDepth 100000 in
theorem bare_any (x : Blk) (E : List Int) (us : Nat → Value) (v : Int) (w : World) (h : Hid (FaAt w (fun _ => True) us x E)) (hln : Hid (x.instrs.length ≤ 4000)) (hE : Hid (E.length ≤ 8000000)) (u0 u1 u2 u3 u4 u5 : Value) (h2 : us 2 = u2) (h3 : us 3 = u3) (h4 : us 4 = u4) (h5 : us 5 = u5) :
    Calls Tryd.prog 29 #[.agg #[u0, u1, u2, u3, u4, u5], .int .i64 v] w fun e w' => e = .returned (.int .i64 (bareM x E v : Nat)) ∧ Below w.heap.size w w' := by
  obtain ⟨a2, c2, e2, i2⟩ := h.out.e2
  obtain ⟨a3, c3, e3, i3⟩ := h.out.e3
  obtain ⟨a4, c4, e4, i4⟩ := h.out.e4
  obtain ⟨a5, c5, e5, i5⟩ := h.out.e5
  rw [e2] at h2
  rw [e3] at h3
  rw [e4] at h4
  rw [e5] at h5
  subst h2 h3 h4 h5
  have H2 := hide i2
  have H3 := hide i3
  have H4 := hide i4
  have H5 := hide i5
  have HL3 : Hid ((rdsM x).length = x.instrs.length) := hide (by unfold rdsM; simp)
  have HL4 : Hid ((dfsM x).length = x.instrs.length) := hide (by unfold dfsM; simp)
  obtain ⟨n3, hn3⟩ : ∃ m, m = (rdsM x).length := ⟨_, rfl⟩
  obtain ⟨n4, hn4⟩ : ∃ m, m = (dfsM x).length := ⟨_, rfl⟩
  obtain ⟨n5, hn5⟩ : ∃ m, m = (rdT x.term).length := ⟨_, rfl⟩
  obtain ⟨n2, hn2⟩ : ∃ m, m = E.length := ⟨_, rfl⟩
  rw [← hn3, ← hn4, ← hn5, ← hn2]
  have h34 : n3 = n4 := by rw [hn3, hn4, HL3.out, HL4.out]
  subst h34
  have h4000 : n3 ≤ 4000 := by rw [hn3, HL3.out]; exact hln.out
  have hn5' : n5 ≤ 1 := by rw [hn5]; unfold rdT; split <;> simp
  have hn2' : n2 ≤ 8000000 := by rw [hn2]; exact hE.out
  have HN3 := hide hn3
  have HN4 := hide hn4
  have HN5 := hide hn5
  have HN2 := hide hn2
  clear hn3 hn4 hn5 hn2 e2 e3 e4 e5 i2 i3 i4 i5
  have HBB : Hid (bareM x E v = bareF v (hasI (rdT x.term) v || hasI E v) x.instrs) := hide rfl
  generalize bareM x E v = bm at *
  have hb0 : Below w.heap.size w (w.alloc (.cells #[u0, u1, .slice a2 n2 c2, .slice a3 n3 c3, .slice a4 n3 c4, .slice a5 n5 c5] 81)) := balloc (Below.refl _ _) _
  have hc : ∀ q' v', #[u0, u1, Value.slice a2 n2 c2, .slice a3 n3 c3, .slice a4 n3 c4, .slice a5 n5 c5][q']? = some v' → (w.alloc (.cells #[u0, u1, .slice a2 n2 c2, .slice a3 n3 c3, .slice a4 n3 c4, .slice a5 n5 c5] 81)).cell? ⟨w.heap.size, q', none⟩ = some v' := fun q' v' h => by
    rw [World.cell?_alloc_new]
    exact h
  go_enter Tryd.func29, Tryd.ntmps29
  go_wp2_with fail
  have HB0 := hide hb0
  have HC := hide hc
  generalize w.alloc (.cells #[u0, u1, .slice a2 n2 c2, .slice a3 n3 c3, .slice a4 n3 c4, .slice a5 n5 c5] 81) = W at *
  have k2 : W.cell? ⟨w.heap.size, 2, none⟩ = some (.slice a2 n2 c2) := HC.out 2 _ rfl
  have k3 : W.cell? ⟨w.heap.size, 3, none⟩ = some (.slice a3 n3 c3) := HC.out 3 _ rfl
  have k4 : W.cell? ⟨w.heap.size, 4, none⟩ = some (.slice a4 n3 c4) := HC.out 4 _ rfl
  have k5 : W.cell? ⟨w.heap.size, 5, none⟩ = some (.slice a5 n5 c5) := HC.out 5 _ rfl
  have hzW := hb0.size
  have H2W : Hid (IntsAt W 0 w.heap.size a2 E) := hide (H2.out.at_.keep hb0)
  have H5W : Hid (IntsAt W 0 w.heap.size a5 (rdT x.term)) := hide (H5.out.at_.keep hb0)
  have HHE := hide (l1Has_big a2 n2 c2 v E 0 w.heap.size W H2W HN2 (by omega))
  have HHT := hide (l1Has_any a5 n5 c5 v (rdT x.term) 0 w.heap.size W H5W HN5 (by omega))
  clear hb0 hc HC
  go_loop [5] (fun i => ∃ k : Nat, k ≤ n3 ∧ i = .int .i64 k ∧ Hid (bm = bareF v (hasI (rdT x.term) v || hasI E v) (x.instrs.drop k))) (fun i => n3 - (intOf i).toNat)
  case atStart => exact ⟨0, Nat.zero_le _, rfl, hide (by rw [HBB.out]; rfl)⟩
  case round =>
    obtain ⟨k, hk, rfl, HF⟩ := hrel
    by_cases hlt : k < n3
    · have hkx : k < x.instrs.length := by rw [← HL3.out, ← HN3.out]; exact hlt
      have hk3 : k < (rdsM x).length := by rw [← HN3.out]; exact hlt
      have hk4 : k < (dfsM x).length := by rw [← HN4.out]; exact hlt
      obtain ⟨b3, o3, rfl, ⟨_, hb3⟩, ar, cr, hcr, hir⟩ := H3.out k hk3
      obtain ⟨b4, o4, rfl, ⟨_, hb4⟩, hcd⟩ := H4.out k hk4
      have er : (rdsM x)[k] = rdI x.instrs[k] := by simp [rdsM]
      have ed : (dfsM x)[k] = defI x.instrs[k] := by simp [dfsM]
      rw [er] at hcr hir
      rw [ed] at hcd
      have l3 := (HB0.out.cell (p := ⟨b3, o3 + k, none⟩) hb3).trans hcr
      have l4 := (HB0.out.cell (p := ⟨b4, o4 + k, none⟩) hb4).trans hcd
      have HFD : Hid (bareF v (hasI (rdT x.term) v || hasI E v) (x.instrs.drop k) = if hasI (rdI x.instrs[k]) v then 1 else if defI x.instrs[k] = v then 2 else bareF v (hasI (rdT x.term) v || hasI E v) (x.instrs.drop (k + 1))) := hide (by rw [List.drop_eq_getElem_cons hkx]; rfl)
      have HIR : Hid (IntsAt W 0 w.heap.size ar (rdI x.instrs[k])) := hide (hir.at_.keep HB0.out)
      obtain ⟨nr, hnr⟩ : ∃ m, m = (rdI x.instrs[k]).length := ⟨_, rfl⟩
      rw [← hnr] at l3
      have hnr2 : nr ≤ 2 := by rw [hnr]; exact rdI_le _
      have HHR := hide (l1Has_any ar nr cr v (rdI x.instrs[k]) 0 w.heap.size W HIR (hide hnr) (by omega))
      clear hcr hcd hir er ed hnr
      generalize rdI x.instrs[k] = ri at *
      generalize defI x.instrs[k] = df at *
      go_wp2_with fail
      refine HHR.out.mono ?_
      rintro e w3 ⟨rfl, hw3⟩
      rw [hw3]
      clear hw3
      cases hh : hasI ri v with
      | true =>
        have HBM : Hid (bm = 1) := hide (by rw [HF.out, HFD.out, hh]; rfl)
        clear hh
        go_wp2_with fail
        go_ret
        exact ⟨by rw [HBM.out]; rfl, HB0.out⟩
      | false =>
        have HF2 : Hid (bm = if df = v then 2 else bareF v (hasI (rdT x.term) v || hasI E v) (x.instrs.drop (k + 1))) := hide (by rw [HF.out, HFD.out, hh]; rfl)
        clear hh
        by_cases hd : df = v
        · have HBM : Hid (bm = 2) := hide (by rw [HF2.out, if_pos hd])
          have hdb : (df == v) = true := by simp [hd]
          clear hd
          go_wp2_with fail
          go_ret
          exact ⟨by rw [HBM.out]; rfl, HB0.out⟩
        · have HF3 : Hid (bm = bareF v (hasI (rdT x.term) v || hasI E v) (x.instrs.drop (k + 1))) := hide (by rw [HF2.out, if_neg hd])
          have hdb : (df == v) = false := by simp [hd]
          clear hd
          go_wp2_with fail
          go_round
          case rel => exact ⟨k + 1, by omega, by go_num, HF3⟩
          case measure => simp [intOf]; omega
    · have HBM : Hid (bm = if (hasI (rdT x.term) v || hasI E v) then 1 else 0) := hide (by rw [HF.out, List.drop_eq_nil_of_le (by rw [← HL3.out, ← HN3.out]; omega)]; rfl)
      go_wp2_with fail
      refine HHT.out.mono ?_
      rintro e w3 ⟨rfl, hw3⟩
      rw [hw3]
      clear hw3
      cases ht : hasI (rdT x.term) v with
      | true =>
        have HB2 : Hid (bm = 1) := hide (by rw [HBM.out, ht]; rfl)
        clear ht
        go_wp2_with fail
        go_ret
        exact ⟨by rw [HB2.out]; rfl, HB0.out⟩
      | false =>
        have HB2 : Hid (bm = if hasI E v then 1 else 0) := hide (by rw [HBM.out, ht]; rfl)
        clear ht
        go_wp2_with fail
        refine HHE.out.mono ?_
        rintro e w4 ⟨rfl, hw4⟩
        rw [hw4]
        clear hw4
        cases ht : hasI E v with
        | true =>
          have HB3 : Hid (bm = 1) := hide (by rw [HB2.out, ht]; rfl)
          clear ht
          go_wp2_with fail
          go_ret
          exact ⟨by rw [HB3.out]; rfl, HB0.out⟩
        | false =>
          have HB3 : Hid (bm = 0) := hide (by rw [HB2.out, ht]; rfl)
          clear ht
          go_wp2_with fail
          go_ret
          exact ⟨by rw [HB3.out]; rfl, HB0.out⟩
end Go.Proofs.YtanaeindldcapaaDoor
