import Derived.Test.YtlmaodcddbkllaaDoorSQ13
/-
  Sequence: readScratch of the program.
-/
namespace Go.Proofs.YtlmaodcddbkllaaDoor
open Go.RowKit Go.Maps Go.Sort Go.Shelf

/-- The copies while some of them have taken the scratch. -/
def partS (L : List Mv) (r : Int) (S : List Int) : List Mv := L.map fun m => if m.frm = r ∧ m.to ∈ S then ⟨m.to, -1⟩ else m
theorem part_nil (L : List Mv) (r : Int) : partS L r [] = L := by simp [partS]
theorem part_all {L : List Mv} (r : Int) {S : List Int} (h : ∀ m ∈ L, m.to ∈ S) : partS L r S = scratch L r := by
  refine List.map_congr_left (fun m hm => ?_)
  simp [h m hm]
theorem part_in {L : List Mv} (r : Int) {S : List Int} {m : Mv} (hm : m ∈ L) (h : m.to ∉ S) : m ∈ partS L r S := List.mem_map.2 ⟨m, hm, if_neg (fun e => h e.2)⟩
theorem part_put {L : List Mv} {r : Int} {S : List Int} {m : Mv} (hn : (tosM L).Nodup) (hm : m ∈ L) (h : m.frm = r ∨ m.frm = -1) : toScratch (partS L r S) m.to = partS L r (S ++ [m.to]) := by
  unfold toScratch partS
  rw [List.map_map]
  refine List.map_congr_left (fun q hq => ?_)
  show (if (if q.frm = r ∧ q.to ∈ S then (⟨q.to, -1⟩ : Mv) else q).to = m.to then (⟨(if q.frm = r ∧ q.to ∈ S then (⟨q.to, -1⟩ : Mv) else q).to, -1⟩ : Mv) else (if q.frm = r ∧ q.to ∈ S then (⟨q.to, -1⟩ : Mv) else q)) = _
  have hto : (if q.frm = r ∧ q.to ∈ S then (⟨q.to, -1⟩ : Mv) else q).to = q.to := by split <;> rfl
  rw [hto]
  by_cases e : q.to = m.to
  · have := mv_one hn hq hm e
    subst this
    rw [if_pos rfl]
    by_cases hr : q.frm = r
    · rw [if_pos ⟨hr, by simp⟩]
    · rw [if_neg (fun e => hr e.1)]
      rcases h with h | h
      · exact absurd h hr
      · cases q; simp_all
  · rw [if_neg e]
    simp [e]
theorem part_keep {L : List Mv} {r : Int} {S : List Int} {m : Mv} (hn : (tosM L).Nodup) (hm : m ∈ L) (h : m.frm ≠ r) : partS L r (S ++ [m.to]) = partS L r S := by
  refine List.map_congr_left (fun q hq => ?_)
  by_cases e : q.to = m.to
  · have := mv_one hn hq hm e
    subst this
    rw [if_neg (fun e => h e.1), if_neg (fun e => h e.1)]
  · simp [e]
theorem part_tos (L : List Mv) (r : Int) (S : List Int) : tosM (partS L r S) = tosM L := by
  unfold tosM partS
  rw [List.map_map]
  refine List.map_congr_left (fun m _ => ?_)
  show (if m.frm = r ∧ m.to ∈ S then (⟨m.to, -1⟩ : Mv) else m).to = m.to
  split <;> rfl
theorem own_tight {w : World} {b n n' : Nat} {D : DataW Unit} (h : w.ownsMap Tryd.prog 2 insR b n D) (hs : Maps.size D ≤ n') : w.ownsMap Tryd.prog 2 insR b n' D := by
  obtain ⟨es, clock, hb, F, h1, rfl⟩ := h
  exact ⟨es, clock, hb, F, by simpa [Maps.size, length_sorted] using hs, rfl⟩
theorem own_keys {w : World} {b n : Nat} {D : DataW Unit} (h : w.ownsMap Tryd.prog 2 insR b n D) : ∀ es, D = .map es → ∀ p ∈ es, WideAt.IsKeyLit p.1 := fun es he p hp => by
  obtain ⟨es', e1, _, e3⟩ := h.entries Tryd.keyI
  rw [he] at e1
  injection e1 with e1
  subst e1
  exact e3 p hp
theorem field_a (k t a : Int) (W : World) : (Instr.field 44 (.agg #[.int .i64 k, .int .i64 t, .int .i64 a, .int .i64 0, .int .i64 0]) 2).run Tryd.prog W = .ok (.int .i64 a) W := by kernel_rfl
/-- What the program compares. -/
theorem cp_a (m : Mv) (h : m.frm = -1 ∨ (0 ≤ m.frm ∧ m.frm < 64)) (r : Int) (hr : 0 ≤ r) : ((cpI m).a = r ∧ (m.frm = r ∨ m.frm = -1)) ∨ ((cpI m).a ≠ r ∧ m.frm ≠ r) := by
  unfold cpI
  split
  · show ((0 : Int) = r ∧ _) ∨ ((0 : Int) ≠ r ∧ _)
    omega
  · show (m.frm = r ∧ _) ∨ (m.frm ≠ r ∧ _)
    omega
set_option maxHeartbeats 4000000 in
set_option maxRecDepth 100000 in
theorem readScratch_any (b : Nat) (D : DataW Unit) (L : List Mv) (r : Int) (w : World) (hown : Hid (w.ownsMap Tryd.prog 2 insR b 64 D)) (hm : Hid (MapL D L)) (hg : Hid (MvOk L)) (hr : 0 ≤ r) :
    Calls Tryd.prog 74 #[.map (some b), .int .i64 r] w fun e w' => e = .returned (.tuple #[]) ∧ w.grownBy w' (some b) ∧ ∃ D', w'.ownsMap Tryd.prog 2 insR b 64 D' ∧ MapL D' (scratch L r) := by
  have hbl := hown.out.lt
  have hln : L.length ≤ 64 := by rw [← hm.out.size]; exact hown.out.size_le
  have HS := hide (sorted_of b 64 D L w hown.out hown.out.size_le (hm.out.perm hg.out.nd (own_keys hown.out)))
  have HK := hide (keys_any (some b) w)
  go_enter Tryd.func74, Tryd.ntmps74
  go_wp2_with (first
    | (go_at_call 134; with_reducible refine HK.out.mono ?_; rintro e w3 ⟨rfl, hw3⟩; rw [hw3]; clear hw3 w3)
    | (go_at_call 133; with_reducible refine HS.out.mono ?_; rintro e w4 ⟨a4, c4, ss, rfl, hp, hv4, hb4⟩))
  have HV4 : Hid (ValsAt w4 w.heap.size w4.heap.size a4 ((sortM ss).map encZ)) := hide hv4
  have HKL : Hid ((sortM ss).length = L.length) := hide (sort_len hp.out)
  have HB4 := hide hb4
  have hw4 := hb4.size
  have HN : Hid ((sortM ss).Nodup) := hide (((sort_perm ss).trans hp.out).nodup_iff.2 hg.out.nd)
  clear hv4 hb4 HS HK
  have HO4 : Hid (w4.ownsMap Tryd.prog 2 insR b 64 D) := hide (hown.out.kept (calm HB4.out) (by simp))
  have HG4 : Hid (w.grownBy w4 (some b)) := hide ((calm HB4.out).but _)
  generalize hnl : L.length = nl at *
  have HNL := hide hnl
  clear hnl
  go_loopw [10] (fun u wr => ∃ (q : Nat) (D1 : DataW Unit), q ≤ nl ∧ u = .int .i64 q ∧ Hid (w4.grownBy wr (some b)) ∧ Hid (wr.ownsMap Tryd.prog 2 insR b 64 D1) ∧ Hid (MapL D1 (partS L r ((sortM ss).take q)))) (fun u _ => nl - (RowKit.intOf u).toNat)
  case atStart => exact ⟨0, D, Nat.zero_le _, rfl, hide ((calm (Below.refl _ _)).but _), HO4, hide (by rw [List.take_zero, part_nil]; exact hm.out)⟩
  case round =>
    obtain ⟨q, D1, hq, rfl, HG, HO, HM⟩ := hrel
    by_cases hlt : q < nl
    · have hqk : q < (sortM ss).length := by have := HKL.out; omega
      obtain ⟨b4, o4, rfl, hbb, hc4⟩ := HV4.out q (by simpa using hqk)
      have hc5 := (cell_of (o := o4 + q) (HG.out.block b4 hbb.2 (by simp; omega))).trans hc4
      rw [List.getElem_map] at hc5
      have htm := (sort_mem hp.out).1 (List.getElem_mem hqk)
      obtain ⟨m, hmL, hmt⟩ := List.mem_map.1 htm
      have HT : Hid ((sortM ss).take (q + 1) = (sortM ss).take q ++ [m.to]) := hide (by rw [hmt]; exact List.take_succ_eq_append_getElem hqk)
      have hni : m.to ∉ (sortM ss).take q := fun hin => by
        obtain ⟨j, hj, e⟩ := List.getElem_of_mem hin
        rw [List.length_take] at hj
        rw [List.getElem_take] at e
        have := List.pairwise_iff_getElem.1 HN.out j q (by omega) hqk (by omega)
        exact this (by rw [e, hmt])
      rw [← hmt] at hc5
      have hc6 : wr.cell? ⟨b4, o4 + q, none⟩ = some (.int .i64 m.to) := hc5
      clear hc5
      have hto := hg.out.to m hmL
      have hlk := look_one HO.out HM.out (part_in r hmL hni) (by omega)
      have hfr := hg.out.frm m hmL
      have HCA := hide (cp_a m hfr r hr)
      obtain ⟨k, a, hk, hk1, hk2⟩ := cp_form m
      rw [hk] at hlk HCA
      unfold insA at hlk
      dsimp only at hlk HCA
      have HKT := hide (key_of m.to (by omega))
      have HSZ : Hid (Maps.size D1 ≤ 64) := hide HO.out.size_le
      have hlen : (partS L r ((sortM ss).take (q + 1))).length ≤ 64 := by unfold partS; rw [List.length_map, HNL.out]; exact hln
      have HLEN := hide hlen
      have hfl := field_a k m.to a wr
      clear hc4 htm hmt hk hni hlen
      by_cases hca : a = r
      · have hor : m.frm = r ∨ m.frm = -1 := by rcases HCA.out with h | h; exact h.2; exact absurd hca h.1
        have HP := hide (part_put (S := (sortM ss).take q) hg.out.nd hmL hor)
        have hin : (partS L r ((sortM ss).take q)).any (fun z => z.to == m.to) = true := by
          have : m.to ∈ tosM (partS L r ((sortM ss).take q)) := by rw [part_tos]; exact List.mem_map.2 ⟨m, hmL, rfl⟩
          obtain ⟨z, hz, e⟩ := List.mem_map.1 this
          exact List.any_eq_true.2 ⟨z, hz, by simpa using e⟩
        have HM2 : Hid (MapL (D1.put (.int .i64 m.to) (insD ⟨13, m.to, 0, 0, 0⟩)) (partS L r ((sortM ss).take (q + 1)))) := hide (by rw [HT.out, ← HP.out]; exact HM.out.put_old hin)
        have hab : (a == r) = true := by simpa using hca
        clear HCA hor hin hca HP
        go_wp2_with (at_mapUpdate; refine wpList_mapUpdate_own _ rfl _ _ _ 122 rfl 2 44 Tryd.keyI Tryd.tMap insR b 64 D1 rfl HO.out (by unfold maxLen; omega) _ _ _ rfl rfl HKT.out (insD ⟨13, m.to, 0, 0, 0⟩) [] rfl ?_; intro w3 hown3 hg3)
        exact ⟨⟨q + 1, _, by omega, by go_num, hide (HG.out.andThen hg3 (fun j hj => by cases hj; exact Or.inr rfl)), hide (own_tight hown3 (by rw [HM2.out.size]; exact HLEN.out)), HM2⟩, by simp [RowKit.intOf]; omega⟩
      · have hnr : m.frm ≠ r := by rcases HCA.out with h | h; exact absurd h.1 hca; exact h.2
        have HP := hide (part_keep (S := (sortM ss).take q) hg.out.nd hmL hnr)
        have hab : (a == r) = false := by simpa using hca
        have HM2 : Hid (MapL D1 (partS L r ((sortM ss).take (q + 1)))) := hide (by rw [HT.out, HP.out]; exact HM.out)
        clear HCA hnr hca HP
        go_wp2
        exact ⟨⟨q + 1, _, by omega, by go_num, HG, HO, HM2⟩, by simp [RowKit.intOf]; omega⟩
    · have hqn : q = nl := by omega
      have HM2 : Hid (MapL D1 (scratch L r)) := hide (by
        have := HM.out
        rw [List.take_of_length_le (by have := HKL.out; omega), part_all r (fun m hm => (sort_mem hp.out).2 (List.mem_map.2 ⟨m, hm, rfl⟩))] at this
        exact this)
      go_wp2
      go_end0
      exact ⟨rfl, HG4.out.andThen HG.out (fun j hj => by cases hj; exact Or.inr rfl), D1, HO.out, HM2.out⟩
end Go.Proofs.YtlmaodcddbkllaaDoor
