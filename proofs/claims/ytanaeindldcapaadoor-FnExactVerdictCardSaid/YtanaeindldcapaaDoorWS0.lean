import Derived.Test.YtanaeindldcapaaDoorSP0
namespace Go.Proofs.YtanaeindldcapaaDoor
open Go.RowKit
section
structure WsAt (w : World) (g K C : Nat) (W : Nat → Nat) : Prop where
  le : K ≤ C
  ex : ∃ T : Nat → Value, w.rowIs g 102 C (fun i => if i < K then .int .u64 (W i) else T i)
namespace WsAt
variable {w : World} {g K C : Nat} {W W' : Nat → Nat}
theorem lt (h : WsAt w g K C W) : g < w.heap.size := by
  obtain ⟨_, T, h⟩ := h
  exact h.lt
theorem cell (h : WsAt w g K C W) {i : Nat} (hi : i < K) : w.cell? ⟨g, i, none⟩ = some (.int .u64 (W i)) := by
  obtain ⟨hl, T, h⟩ := h
  have := h.cell (i := i) (by omega)
  rwa [if_pos hi] at this
theorem frozen (h : WsAt w g K C W) (i : Nat) : w.frozen? ⟨g, i, none⟩ = false := by
  obtain ⟨_, T, h⟩ := h
  exact h.frozen i
theorem congr (h : WsAt w g K C W) (e : ∀ i, i < K → W i = W' i) : WsAt w g K C W' := by
  obtain ⟨hl, T, h⟩ := h
  refine ⟨hl, T, h.congr (fun i _ => ?_)⟩
  by_cases hi : i < K
  · rw [if_pos hi, if_pos hi, e i hi]
  · rw [if_neg hi, if_neg hi]
theorem of_block {w' : World} (h : WsAt w g K C W) (e : w'.heap[g]? = w.heap[g]?) : WsAt w' g K C W := by
  obtain ⟨hl, T, h⟩ := h
  exact ⟨hl, T, h.of_block e⟩
theorem set (h : WsAt w g K C W) (i v : Nat) (hi : i < K) : WsAt (w.setCell ⟨g, i, none⟩ (.int .u64 (v : Int))) g K C (fun j => if j = i then v else W j) := by
  obtain ⟨hl, T, h⟩ := h
  refine ⟨hl, T, (h.set i _).congr (fun j _ => ?_)⟩
  by_cases e : j = i
  · rw [if_pos e, if_pos (by omega), if_pos e]
  · rw [if_neg e, if_neg e]
theorem setOther (h : WsAt w g K C W) {a : Addr} (ha : g ≠ a.block) (v : Value) : WsAt (w.setCell a v) g K C W := by
  obtain ⟨hl, T, h⟩ := h
  exact ⟨hl, T, h.setOther ha v⟩
theorem alloc (h : WsAt w g K C W) (o : Obj) : WsAt (w.alloc o) g K C W := by
  obtain ⟨hl, T, h⟩ := h
  exact ⟨hl, T, h.alloc o⟩
theorem drew (h : WsAt w g K C W) : WsAt w.drew g K C W := by
  obtain ⟨hl, T, h⟩ := h
  exact ⟨hl, T, h.drew⟩
theorem of_row (h : w.rowIs g 102 K (fun i => .int .u64 (W i))) : WsAt w g K K W :=
  ⟨Nat.le_refl _, fun _ => .int .u64 0, h.congr (fun i hi => by rw [if_pos hi])⟩
/-- Out of a row that the call owns. -/
theorem of_own {base : Nat} {v : Value} {ws : List Nat} (h : w.ownsRow base 102 1 v ws.length (ws.map fun x : Nat => Value.int .u64 (x : Int))) (hv : v ≠ .slice none 0 0) : ∃ g C, v = .slice (some ⟨g, 0, none⟩) ws.length C ∧ base ≤ g ∧ WsAt w g ws.length C (fun i => ws.getD i 0) := by
  obtain ⟨hl, h | ⟨g, cap, cur, rfl, hg, hh, hc, _, hs, ht⟩⟩ := h
  · exact absurd h.1 hv
  · simp only [Nat.mul_one] at hl hs ht
    refine ⟨g, cap, rfl, hg, hc, fun i => cur[i]?.getD (.int .u64 0), cur, hh, hs, fun i hi => ?_⟩
    show cur[i]? = some (if i < ws.length then Value.int .u64 ((ws.getD i 0 : Nat) : Int) else cur[i]?.getD (.int .u64 0))
    by_cases e : i < ws.length
    · rw [if_pos e]
      have h1 : (cur.toList.take ws.length)[i]? = some (Value.int .u64 (ws[i] : Nat)) := by rw [ht]; simp [e]
      rw [List.getElem?_take_of_lt e] at h1
      have e2 : ws.getD i 0 = ws[i] := by simp [e]
      rw [e2]
      simpa using h1
    · rw [if_neg e]
      have : i < cur.size := by omega
      simp [this]
end WsAt
end
theorem Tryd.infoU64valueNo : (Tryd.prog.info? 102).map (fun i => (i.zero, i.size, i.bytes)) = some (some (.int .u64 0), 1, 8) := by kernel_rfl
set_option maxHeartbeats 1000000 in
set_option maxRecDepth 100000 in
theorem newSet_valueNo (room : Nat) (w : World) (hr : room ≤ 60000) : Calls Tryd.prog 47 #[.int .i64 room] w fun e w' => ∃ g, e = .returned (.agg #[.slice (some ⟨g, 0, none⟩) ((room + 63) / 64) ((room + 63) / 64)]) ∧ w.heap.size ≤ g ∧ Below w.heap.size w w' ∧ w'.rowIs g 102 ((room + 63) / 64) (fun _ => .int .u64 ((0 : Nat) : Int)) := by
  have hmk := run_make_row' (P := Tryd.prog) 41 102 (.int .u64 0) 8 Tryd.underlying41 Tryd.infoU64valueNo rfl .i64 .i64 ((room + 63) / 64) (by omega) (by omega)
  have hq : ((room : Int) + 63).tdiv 64 = (((room + 63) / 64 : Nat) : Int) := by rw [Int.tdiv_eq_ediv_of_nonneg (by omega)]; omega
  have hq2 : ((room : Int) + 64 - 1) = (room : Int) + 63 := by omega
  have hK : (room + 63) / 64 ≤ 1000 := by omega
  generalize (room + 63) / 64 = K at *
  go_enter Tryd.func47, Tryd.ntmps47
  go_wp2
  refine bodyPost_ret (v := .agg #[.slice (some ⟨w.heap.size + 1, 0, none⟩) K K]) (by simp [results, Tryd.results47, go_sem]) rfl ?_
  refine ⟨w.heap.size + 1, rfl, by omega, balloc (balloc (Below.refl _ _) _) _, ?_⟩
  have hrow : ∀ ob, ((w.alloc ob).alloc (.cells (madeCells #[.int .u64 0] K) 102)).rowIs (w.heap.size + 1) 102 K (fun _ => .int .u64 0) := fun ob => by
    have := World.rowIs_made (w.alloc ob) (.int .u64 0) K 102
    rwa [World.size_alloc] at this
  exact hrow _
set_option maxHeartbeats 1000000 in
set_option maxRecDepth 100000 in
theorem add_valueNo (g K C n c : Nat) (W : Nat → Nat) (a : Option Addr) (ts : List Nat) (L B : Nat) (w : World) (ha : Hid (IntsAt w L B a (ts.map Int.ofNat))) (hx : Hid (n = ts.length)) (hn : n ≤ 4000) (ht : Hid (∀ t ∈ ts, t < 64 * K)) (hK : K ≤ 1000) (hW : Hid (WdOk W)) (hr : Hid (WsAt w g K C W)) (hB : B ≤ w.heap.size) (hgL : ¬ (L ≤ g ∧ g < B)) :
    Calls Tryd.prog 45 #[.agg #[.slice (some ⟨g, 0, none⟩) K C], .slice a n c] w fun e w' => e = .returned (.tuple #[]) ∧ w.grownBy w' (some g) ∧ WsAt w' g K C (addsN W ts) := by
  go_enter Tryd.func45, Tryd.ntmps45
  go_wp2
  have hg : g < w.heap.size := hr.out.lt
  go_loopw [8] (fun u wr => ∃ q : Nat, q ≤ n ∧ u = .int .i64 q ∧ Hid (w.grownBy wr (some g)) ∧ wr.cell? ⟨w.heap.size, 0, none⟩ = some (.slice (some ⟨g, 0, none⟩) K C) ∧ Hid (WsAt wr g K C (addsN W (ts.take q)))) (fun u _ => n - (intOf u).toNat)
  case atStart => exact ⟨0, Nat.zero_le _, rfl, hide (World.grownBy_alloc _ _ _), by simp, hide (hr.out.alloc _)⟩
  case round =>
    obtain ⟨q, hq, rfl, HG, hs, HR⟩ := hrel
    by_cases hlt : q < n
    · have hqx : q < ts.length := by have := hx.out; omega
      obtain ⟨b, o, rfl, hbB, e0w⟩ := ha.out q (by simpa using hqx)
      have e0 := (cell_of (HG.out.block b (by omega) (fun e => by injection e with e; omega))).trans e0w
      rw [List.getElem_map] at e0
      have htq := ht.out _ (List.getElem_mem hqx)
      have HT := hide (adds_take (W := W) hqx)
      have HWA := hide (adds_wd (ts.take q) hW.out)
      clear e0w
      generalize ts[q] = t at *
      have h2 := quoN t
      have h3 := remN t
      have e0' : wr.cell? ⟨b, o + q, none⟩ = some (.int .i64 (t : Int)) := e0
      clear e0
      generalize addsN W (ts.take q) = W1 at *
      have hd : t / 64 < K := by omega
      have hm : t % 64 < 64 := Nat.mod_lt _ (by decide)
      have ec := HR.out.cell hd
      have ez := HR.out.frozen
      have HOR := hide (orN_bit hm (HWA.out (t / 64)))
      have HAD : Hid (∀ i, (if i = t / 64 then W1 (t / 64) ||| 2 ^ (t % 64) else W1 i) = addsN W (ts.take (q + 1)) i) := hide (fun i => by
        rw [HT.out]
        unfold addN
        by_cases e : i = t / 64
        · rw [if_pos e, if_pos e, e]
        · rw [if_neg e, if_neg e])
      generalize hd2 : t / 64 = td at *
      generalize hm2 : t % 64 = tm at *
      go_wp2
      go_region
      go_wp2
      rw [HOR.out]
      have kk : wr.grownBy (wr.setCell ⟨g, td, none⟩ (.int .u64 ((W1 td ||| 2 ^ tm : Nat) : Int))).drew (some g) := ⟨rfl, rfl, rfl, by simp [World.setCell, World.drew], fun k _ hk => Below.heap_setCell _ _ _ _ (fun e => hk (by rw [e]))⟩
      refine ⟨⟨q + 1, by omega, by go_num, hide (HG.out.andThen kk (fun j hj => by cases hj; exact Or.inr rfl)), ?_, hide ?_⟩, by simp [intOf]; omega⟩
      · exact (World.cell?_setCell_far wr ⟨g, td, none⟩ ⟨w.heap.size, 0, none⟩ _ (by show g ≠ w.heap.size; omega)).trans hs
      · refine WsAt.drew ((HR.out.set td _ hd).congr (fun i _ => ?_))
        rw [← HAD.out i]
    · have hqn : q = n := by omega
      have HX : Hid (ts.take q = ts) := hide (List.take_of_length_le (by have := hx.out; omega))
      rw [HX.out] at HR
      go_wp2
      go_end0
      exact ⟨rfl, HG.out, HR.out⟩
set_option maxHeartbeats 2000000 in
set_option maxRecDepth 100000 in
theorem addBut_valueNo (g g2 g3 K C C2 C3 : Nat) (S O T : Nat → Nat) (w : World) (hS : Hid (WdOk S)) (hO : Hid (WdOk O)) (hT : Hid (WdOk T)) (hK : K ≤ 1000) (rS : Hid (WsAt w g K C S)) (rO : Hid (WsAt w g2 K C2 O)) (rT : Hid (WsAt w g3 K C3 T)) (h3 : g3 ≠ g) (hs : Hid (g2 = g → S = O)) :
    Calls Tryd.prog 48 #[.agg #[.slice (some ⟨g, 0, none⟩) K C], .agg #[.slice (some ⟨g2, 0, none⟩) K C2], .agg #[.slice (some ⟨g3, 0, none⟩) K C3]] w fun e w' => e = .returned (.bool (grewN S O T K)) ∧ w.grownBy w' (some g) ∧ WsAt w' g K C (butN S O T) := by
  go_enter Tryd.func48, Tryd.ntmps48
  go_wp2
  have l1 : g < w.heap.size := rS.out.lt
  have l2 : g2 < w.heap.size := rO.out.lt
  have l3 : g3 < w.heap.size := rT.out.lt
  go_loopw [7, 14] (fun gv u wr => ∃ q : Nat, q ≤ K ∧ u = .int .i64 q ∧ gv = .bool (grewN S O T q) ∧ Hid (w.grownBy wr (some g)) ∧ wr.cell? ⟨w.heap.size, 0, none⟩ = some (.slice (some ⟨g, 0, none⟩) K C) ∧ wr.cell? ⟨w.heap.size + 2, 0, none⟩ = some (.slice (some ⟨g3, 0, none⟩) K C3) ∧ Hid (WsAt wr g K C (fun i => if i < q then butN S O T i else S i))) (fun _ u _ => K - (intOf u).toNat)
  case atStart => exact ⟨0, Nat.zero_le _, rfl, by rw [grew_zero], hide (((World.grownBy_alloc w _ _).andThen (World.grownBy_alloc _ _ _) (fun j hj => Or.inr hj)).andThen (World.grownBy_alloc _ _ _) (fun j hj => Or.inr hj)), by simp [go_sem], by simp [go_sem], hide ((((rS.out.alloc _).alloc _).alloc _).congr (fun i _ => by simp))⟩
  case round =>
    obtain ⟨q, hq, rfl, rfl, HG, hs0, hs2, HR⟩ := hrel
    by_cases hlt : q < K
    · have e1 : wr.cell? ⟨g, q, none⟩ = some (.int .u64 (S q)) := (HR.out.cell hlt).trans (by simp)
      have e3 : wr.cell? ⟨g3, q, none⟩ = some (.int .u64 (T q)) := (cell_of (HG.out.block g3 l3 (fun e => h3 (by injection e)))).trans (rT.out.cell hlt)
      have e2 : wr.cell? ⟨g2, q, none⟩ = some (.int .u64 (O q)) := by
        by_cases e : g2 = g
        · rw [← hs.out e, e]; exact e1
        · exact (cell_of (HG.out.block g2 l2 (fun e' => e (by injection e')))).trans (rO.out.cell hlt)
      have ez := HR.out.frozen
      have HA1 := u64_andNot_nat (O q) (T q) (hO.out q) (hT.out q)
      have hlx : O q &&& (18446744073709551615 - T q) < 18446744073709551616 := Nat.lt_of_le_of_lt Nat.and_le_left (hO.out q)
      have HA2 : bits .andNot .u64 ((O q &&& (18446744073709551615 - T q) : Nat) : Int) (S q : Int) = ((moreN S O T q : Nat) : Int) := u64_andNot_nat _ (S q) hlx (hS.out q)
      have HA3 : bits .or .u64 (S q : Int) ((moreN S O T q : Nat) : Int) = ((butN S O T q : Nat) : Int) := u64_or_nat _ _ (hS.out q) (more_lt hO.out q)
      have HGS := hide (grew_succ S O T q)
      have hsn : g ≠ w.heap.size := by omega
      have hsn2 : g ≠ w.heap.size + 2 := by omega
      have HNX : Hid (WsAt (wr.setCell ⟨g, q, none⟩ (.int .u64 (butN S O T q : Int))) g K C (fun i => if i < q + 1 then butN S O T i else S i)) := hide ((HR.out.set q _ hlt).congr (fun i _ => by
        by_cases e : i = q
        · subst e; simp
        · rw [if_neg e]
          by_cases e2 : i < q
          · rw [if_pos e2, if_pos (by omega)]
          · rw [if_neg e2, if_neg (by omega)]))
      have kk : wr.grownBy (wr.setCell ⟨g, q, none⟩ (.int .u64 (butN S O T q : Int))) (some g) := ⟨rfl, rfl, rfl, by simp [World.setCell], fun k _ hk => Below.heap_setCell _ _ _ _ (fun e => hk (by rw [e]))⟩
      have HKK : Hid (w.grownBy (wr.setCell ⟨g, q, none⟩ (.int .u64 (butN S O T q : Int))) (some g)) := hide (HG.out.andThen kk (fun j hj => by cases hj; exact Or.inr rfl))
      have hs0' := (World.cell?_setCell_far wr ⟨g, q, none⟩ ⟨w.heap.size, 0, none⟩ (.int .u64 (butN S O T q : Int)) hsn).trans hs0
      have hs2' := (World.cell?_setCell_far wr ⟨g, q, none⟩ ⟨w.heap.size + 2, 0, none⟩ (.int .u64 (butN S O T q : Int)) hsn2).trans hs2
      generalize hX : O q &&& (18446744073709551615 - T q) = X at *
      generalize butN S O T q = Bq at *
      generalize moreN S O T q = Mq at *
      generalize S q = Sq at *
      generalize O q = Oq at *
      generalize T q = Tq at *
      generalize grewN S O T q = gq at *
      clear hX kk
      cases gq with
      | true =>
        go_wp2
        go_region
        go_wp2
        exact ⟨⟨q + 1, by omega, by go_num, by rw [HGS.out]; rfl, hide ⟨HKK.out.os, HKK.out.tape, HKK.out.output, HKK.out.size, HKK.out.block⟩, hs0', hs2', hide HNX.out.drew⟩, by simp [intOf]; omega⟩
      | false =>
        go_wp2
        go_region
        go_wp2
        exact ⟨⟨q + 1, by omega, by go_num, by rw [HGS.out]; cases Mq <;> rfl, hide ⟨HKK.out.os, HKK.out.tape, HKK.out.output, HKK.out.size, HKK.out.block⟩, hs0', hs2', hide HNX.out.drew⟩, by simp [intOf]; omega⟩
    · have hqk : q = K := by omega
      subst hqk
      go_wp2
      go_ret
      exact ⟨rfl, HG.out, HR.out.congr (fun i hi => by rw [if_pos hi])⟩
structure SetsAv (w : World) (G n K : Nat) (gs cp : Nat → Nat) (Ws : Nat → Nat → Nat) : Prop where
  row : w.rowIs G 46 n (fun i => .slice (some ⟨gs i, 0, none⟩) K (cp i))
  set : ∀ i, i < n → WsAt w (gs i) K (cp i) (Ws i)
  inj : ∀ i j, i < n → j < n → gs i = gs j → i = j
  out : ∀ i, i < n → gs i ≠ G
theorem Tryd.infoSetV : (Tryd.prog.info? 46).map (fun i => (i.zero, i.size, i.bytes)) = some (some (.agg #[.slice none 0 0]), 1, 24) := by kernel_rfl
/-- The first q sets of the row are made. -/
structure SetsTv (w wr : World) (G n K q : Nat) (gs : Nat → Nat) : Prop where
  low : Below w.heap.size w wr
  base : w.heap.size ≤ G
  row : wr.rowIs G 46 n (fun i => if i < q then .slice (some ⟨gs i, 0, none⟩) K K else .slice none 0 0)
  set : ∀ i, i < q → wr.rowIs (gs i) 102 K (fun _ => .int .u64 ((0 : Nat) : Int))
  inj : ∀ i j, i < q → j < q → gs i = gs j → i = j
  up : ∀ i, i < q → G < gs i
theorem SetsTv.next {w wr w1 : World} {G n K q g : Nat} {gs : Nat → Nat} (h : SetsTv w wr G n K q gs) (hq : q < n) (hb : Below wr.heap.size wr w1) (hg : wr.heap.size ≤ g) (hr : w1.rowIs g 102 K (fun _ => .int .u64 ((0 : Nat) : Int))) :
    SetsTv w (w1.setCell ⟨G, q, none⟩ (.slice (some ⟨g, 0, none⟩) K K)) G n K (q + 1) (fun i => if i = q then g else gs i) ∧ w1.cell? ⟨G, q, none⟩ = some (.slice none 0 0) ∧ w1.frozen? ⟨G, q, none⟩ = false := by
  have hGl : G < wr.heap.size := h.row.lt
  have hrow : w1.rowIs G 46 n (fun i => if i < q then .slice (some ⟨gs i, 0, none⟩) K K else .slice none 0 0) := h.row.of_block (hb.block G hGl)
  have hgl : ∀ i, i < q → gs i < wr.heap.size := fun i hi => (h.set i hi).lt
  refine ⟨⟨(h.low.trans (hb.mono h.low.size)).setCell h.base _, h.base, (hrow.set q _).congr (fun i _ => ?_), fun i hi => ?_, fun i j hi hj e => ?_, fun i hi => ?_⟩, (hrow.cell hq).trans (by simp), hrow.frozen q⟩
  · by_cases e : i = q
    · subst e; simp
    · rw [if_neg e]
      by_cases e2 : i < q
      · rw [if_pos e2, if_pos (by omega)]; simp [e]
      · rw [if_neg e2, if_neg (by omega)]
  · by_cases e : i = q
    · rw [if_pos e]; exact hr.setOther (by show g ≠ G; omega) _
    · rw [if_neg e]
      have := h.up i (by omega)
      exact ((h.set i (by omega)).of_block (hb.block _ (hgl i (by omega)))).setOther (by show gs i ≠ G; omega) _
  · by_cases e1 : i = q
    · by_cases e2 : j = q
      · rw [e1, e2]
      · rw [if_pos e1, if_neg e2] at e
        have := hgl j (by omega); omega
    · by_cases e2 : j = q
      · rw [if_neg e1, if_pos e2] at e
        have := hgl i (by omega); omega
      · rw [if_neg e1, if_neg e2] at e
        exact h.inj i j (by omega) (by omega) e
  · by_cases e : i = q
    · show G < if i = q then g else gs i
      rw [if_pos e]; omega
    · show G < if i = q then g else gs i
      rw [if_neg e]; exact h.up i (by omega)
set_option maxHeartbeats 1000000 in
set_option maxRecDepth 100000 in
theorem newSets_valueNo (n room : Nat) (w : World) (hn : n ≤ 1000) (hr : room ≤ 60000) :
    Calls Tryd.prog 41 #[.int .i64 n, .int .i64 room] w fun e w' => ∃ G gs, e = .returned (.slice (some ⟨G, 0, none⟩) n n) ∧ w.heap.size ≤ G ∧ Below w.heap.size w w' ∧ SetsAv w' G n ((room + 63) / 64) gs (fun _ => (room + 63) / 64) (fun _ _ => 0) ∧ (∀ i, i < n → w.heap.size ≤ gs i) := by
  have hmk := run_makeS (P := Tryd.prog) 47 46 (.agg #[.slice none 0 0]) 1 24 Tryd.underlying47 Tryd.infoSetV n (by omega) (by omega)
  have HNS := hide (fun W => newSet_valueNo room W hr)
  generalize (room + 63) / 64 = K at *
  go_enter Tryd.func41, Tryd.ntmps41
  go_wp2_with fail
  go_loopw [11] (fun u wr => ∃ q : Nat, q ≤ n ∧ u = .int .i64 q ∧ ∃ gs, Hid (SetsTv w wr w.heap.size n K q gs)) (fun u _ => n - (intOf u).toNat)
  case atStart => exact ⟨0, Nat.zero_le _, rfl, fun _ => 0, hide ⟨balloc (Below.refl _ _) _, Nat.le_refl _, by
    have h := World.rowIs_made w (.slice none 0 0) n 46
    simpa [Value.cells] using h, fun i hi => absurd hi (by omega), fun i j hi => absurd hi (by omega), fun i hi => absurd hi (by omega)⟩⟩
  case round =>
    obtain ⟨q, hq, rfl, gs, HS⟩ := hrel
    by_cases hlt : q < n
    · go_wp2_with fail
      refine (HNS.out wr).mono ?_
      rintro e w1 ⟨g, rfl, hg, hb1, hr1⟩
      have hS1 := HS.out.next hlt hb1 hg hr1
      obtain ⟨hS2, hc1, hz1⟩ := hS1
      have HS2 := hide hS2
      clear hS2 hb1 hr1
      go_wp2_with fail
      exact ⟨⟨q + 1, by omega, by go_num, _, HS2⟩, by simp [intOf]; omega⟩
    · have hqn : q = n := by omega
      subst hqn
      go_wp2_with fail
      go_ret
      refine ⟨_, gs, rfl, Nat.le_refl _, HS.out.low, ⟨HS.out.row.congr (fun i hi => by rw [if_pos hi]), fun i hi => WsAt.of_row (HS.out.set i hi), HS.out.inj, fun i hi e => by have := HS.out.up i hi; omega⟩, fun i hi => by have := HS.out.up i hi; omega⟩
end Go.Proofs.YtanaeindldcapaaDoor
