import Derived.Test.YtanaeindldcapaaDoorWS0
namespace Go.Proofs.YtanaeindldcapaaDoor
open Go.RowKit
def delN (W : Nat → Nat) (x : Nat) : Nat → Nat := fun i => if i = x / 64 then W i &&& (18446744073709551615 - 2 ^ (x % 64)) else W i
theorem pow_lt64 {t : Nat} (h : t < 64) : 2 ^ t < 18446744073709551616 := Nat.lt_of_lt_of_le (Nat.pow_lt_pow_right (by decide) h) (by decide)
theorem has_del (W : Nat → Nat) (x y : Nat) : hasN (delN W x) y = (decide (y ≠ x) && hasN W y) := by
  unfold hasN delN
  by_cases e : y / 64 = x / 64
  · rw [if_pos e, Nat.testBit_and, not_bit (pow_lt64 (Nat.mod_lt _ (by decide))) (Nat.mod_lt _ (by decide)), Nat.testBit_two_pow]
    by_cases h : x % 64 = y % 64
    · have : y = x := by omega
      simp [this]
    · have : y ≠ x := fun q => h (by rw [q])
      simp [h, this]
  · rw [if_neg e]
    have : y ≠ x := fun q => e (by rw [q])
    simp [this]
theorem del_wd {W : Nat → Nat} (h : WdOk W) (x : Nat) : WdOk (delN W x) := fun i => by
  unfold delN
  split
  · exact Nat.lt_of_le_of_lt Nat.and_le_left (h i)
  · exact h i
def delsN (W : Nat → Nat) (ts : List Nat) : Nat → Nat := ts.foldl delN W
theorem dels_take {W : Nat → Nat} {ts : List Nat} {q : Nat} (h : q < ts.length) : delsN W (ts.take (q + 1)) = delN (delsN W (ts.take q)) ts[q] := by
  unfold delsN
  rw [List.take_succ_eq_append_getElem h, List.foldl_append]
  rfl
theorem dels_wd : ∀ (ts : List Nat) {W : Nat → Nat}, WdOk W → WdOk (delsN W ts)
  | [], _, h => h
  | t :: ts, _, h => dels_wd ts (del_wd h t)
theorem has_dels : ∀ (ts : List Nat) (W : Nat → Nat) (y : Nat), hasN (delsN W ts) y = (decide (y ∉ ts) && hasN W y)
  | [], _, _ => by simp [delsN]
  | t :: ts, W, y => by
    have h := has_dels ts (delN W t) y
    have e : delsN W (t :: ts) = delsN (delN W t) ts := rfl
    rw [e, h, has_del]
    by_cases h1 : y = t <;> by_cases h2 : y ∈ ts <;> simp [h1, h2]
theorem andNotN_bit {W t : Nat} (ht : t < 64) (hW : W < 18446744073709551616) : bits .andNot .u64 (W : Int) (IntKind.u64.wrap (2 ^ t)) = ((W &&& (18446744073709551615 - 2 ^ t) : Nat) : Int) := by
  have h2 := pow_lt64 ht
  have e : IntKind.u64.wrap (2 ^ t) = ((2 ^ t : Nat) : Int) := by
    rw [IntKind.wrap_u64]
    have : ((2 ^ t : Nat) : Int) = (2 : Int) ^ t := by simp
    rw [← this]
    exact Int.emod_eq_of_lt (Int.natCast_nonneg _) (Int.ofNat_lt.2 h2)
  rw [e, u64_andNot_nat _ _ hW h2]
set_option maxHeartbeats 1000000 in
set_option maxRecDepth 100000 in
theorem remove_valueNo (g K C n c : Nat) (W : Nat → Nat) (a : Option Addr) (ts : List Nat) (L B : Nat) (w : World) (ha : Hid (IntsAt w L B a (ts.map Int.ofNat))) (hx : Hid (n = ts.length)) (hn : n ≤ 4000) (ht : Hid (∀ t ∈ ts, t < 64 * K)) (hK : K ≤ 1000) (hW : Hid (WdOk W)) (hr : Hid (WsAt w g K C W)) (hB : B ≤ w.heap.size) (hgL : ¬ (L ≤ g ∧ g < B)) :
    Calls Tryd.prog 44 #[.agg #[.slice (some ⟨g, 0, none⟩) K C], .slice a n c] w fun e w' => e = .returned (.tuple #[]) ∧ w.grownBy w' (some g) ∧ WsAt w' g K C (delsN W ts) := by
  go_enter Tryd.func44, Tryd.ntmps44
  go_wp2
  have hg : g < w.heap.size := hr.out.lt
  go_loopw [8] (fun u wr => ∃ q : Nat, q ≤ n ∧ u = .int .i64 q ∧ Hid (w.grownBy wr (some g)) ∧ wr.cell? ⟨w.heap.size, 0, none⟩ = some (.slice (some ⟨g, 0, none⟩) K C) ∧ Hid (WsAt wr g K C (delsN W (ts.take q)))) (fun u _ => n - (intOf u).toNat)
  case atStart => exact ⟨0, Nat.zero_le _, rfl, hide (World.grownBy_alloc _ _ _), by simp, hide (hr.out.alloc _)⟩
  case round =>
    obtain ⟨q, hq, rfl, HG, hs, HR⟩ := hrel
    by_cases hlt : q < n
    · have hqx : q < ts.length := by have := hx.out; omega
      obtain ⟨b, o, rfl, hbB, e0w⟩ := ha.out q (by simpa using hqx)
      have e0 := (cell_of (HG.out.block b (by omega) (fun e => by injection e with e; omega))).trans e0w
      rw [List.getElem_map] at e0
      have htq := ht.out _ (List.getElem_mem hqx)
      have HT := hide (dels_take (W := W) hqx)
      have HWA := hide (dels_wd (ts.take q) hW.out)
      clear e0w
      generalize ts[q] = t at *
      have h2 := quoN t
      have h3 := remN t
      have e0' : wr.cell? ⟨b, o + q, none⟩ = some (.int .i64 (t : Int)) := e0
      clear e0
      generalize delsN W (ts.take q) = W1 at *
      have hd : t / 64 < K := by omega
      have hm : t % 64 < 64 := Nat.mod_lt _ (by decide)
      have ec := HR.out.cell hd
      have ez := HR.out.frozen
      have HOR := hide (andNotN_bit hm (HWA.out (t / 64)))
      have HAD : Hid (∀ i, (if i = t / 64 then W1 (t / 64) &&& (18446744073709551615 - 2 ^ (t % 64)) else W1 i) = delsN W (ts.take (q + 1)) i) := hide (fun i => by
        rw [HT.out]
        unfold delN
        by_cases e : i = t / 64
        · rw [if_pos e, if_pos e, e]
        · rw [if_neg e, if_neg e])
      generalize hd2 : t / 64 = td at *
      generalize hm2 : t % 64 = tm at *
      go_wp2
      go_region
      go_wp2
      rw [HOR.out]
      have kk : wr.grownBy (wr.setCell ⟨g, td, none⟩ (.int .u64 ((W1 td &&& (18446744073709551615 - 2 ^ tm) : Nat) : Int))).drew (some g) := ⟨rfl, rfl, rfl, by simp [World.setCell, World.drew], fun k _ hk => Below.heap_setCell _ _ _ _ (fun e => hk (by rw [e]))⟩
      refine ⟨⟨q + 1, by omega, by go_num, hide (HG.out.andThen kk (fun j hj => by cases hj; exact Or.inr rfl)), ?_, hide ?_⟩, by simp [intOf]; omega⟩
      · exact (World.cell?_setCell_far wr ⟨g, td, none⟩ ⟨w.heap.size, 0, none⟩ _ (by show g ≠ w.heap.size; omega)).trans hs
      · refine WsAt.drew ((HR.out.set td _ hd).congr (fun i _ => ?_))
        rw [← HAD.out i]
    · have hqn : q = n := by omega
      have HX : Hid (ts.take q = ts) := hide (List.take_of_length_le (by have := hx.out; omega))
      rw [HX.out] at HR
      go_wp2
      go_end0
      exact ⟨rfl, HG.out, HR.out⟩
set_option maxHeartbeats 1000000 in
set_option maxRecDepth 100000 in
theorem cloneU_any (g K C : Nat) (W : Nat → Nat) (w : World) (hr : Hid (WsAt w g K C W)) (hK : K ≤ 1000) :
    Calls Tryd.prog 65 #[.slice (some ⟨g, 0, none⟩) K C] w fun e w' => ∃ g' C', e = .returned (.slice (some ⟨g', 0, none⟩) K C') ∧ w.heap.size ≤ g' ∧ Below w.heap.size w w' ∧ WsAt w' g' K C' W := by
  obtain ⟨i0, hi0, hz0, hz1, hz2⟩ := info_parts Tryd.infoU64valueNo
  have q22 : ∀ (w : World) (a : Option Addr) (n c n' c' : Nat), (binOp .eql 41 (.slice a n c) (.slice none n' c')).run Tryd.prog w = .ok (.bool a.isNone) w := fun w a n c n' c' => Lib.run_eql_slice_nil w _ _ a n c n' c' Tryd.underlying41
  have hg := hr.out.lt
  have HO0 : Hid ((w.alloc (.cells #[] 102)).ownsRow w.heap.size 102 1 (.slice (some ⟨w.heap.size, 0, none⟩) 0 0) 0 []) := hide (World.ownsRow_lit (base := w.heap.size) (e := 102) (size := 1) w #[] 0 (by simp) (by simp) rfl)
  go_enter Tryd.func65, Tryd.ntmps65
  go_wp2_with (at_builtin; refine wpList_append_own _ rfl _ _ 41 rfl w.heap.size 102 i0 (.int .u64 0) 1 8 Tryd.underlying41 hi0 hz0 hz1 hz2 rfl (by decide) _ _ _ rfl HO0.out ⟨g, 0, none⟩ K C ((List.range K).map fun i => Value.int .u64 (W i : Int)) rfl ?c0 ?c1 ?c2 ?c3 ?c4 ?c5 ?_)
  case c0 => simp
  case c1 =>
    intro j u hj
    rw [List.getElem?_map] at hj
    by_cases e : j < K
    · rw [List.getElem?_range e] at hj
      simp at hj
      subst hj
      have := (hr.out.alloc (.cells #[] 102)).cell e
      have e2 : (⟨g, 0, none⟩ : Addr).add j = ⟨g, j, none⟩ := by rw [Addr.add_lit]; simp
      rw [e2]
      exact this
    · rw [List.getElem?_eq_none (by simp; omega)] at hj
      cases hj
  case c2 =>
    intro u hu
    obtain ⟨i, _, rfl⟩ := List.mem_map.1 hu
    rfl
  case c3 => unfold maxLen; omega
  case c4 => omega
  case c5 => simp
  intro v1 w1 hown1 hgrow1 hnil
  have hvn : v1 ≠ .slice none 0 0 := by simpa using hnil
  have hb := grown_below (balloc (Below.refl w.heap.size w) _) hgrow1 HO0.out (Nat.le_refl _) (by simp)
  have hown2 : w1.ownsRow w.heap.size 102 1 v1 ((List.range K).map W).length (((List.range K).map W).map fun x : Nat => Value.int .u64 (x : Int)) := by
    have e : (((List.range K).map W).map fun x : Nat => Value.int .u64 (x : Int)) = (List.range K).map fun i => Value.int .u64 (W i : Int) := by simp
    rw [e]
    simpa using hown1
  obtain ⟨g', C', rfl, hg', hw'⟩ := WsAt.of_own hown2 hvn
  have HB := hide hb
  have HW : Hid (WsAt w1 g' K C' W) := hide (by
    have e : ((List.range K).map W).length = K := by simp
    rw [e] at hw'
    exact hw'.congr (fun i hi => by simp [hi]))
  have e : ((List.range K).map W).length = K := by simp
  rw [e]
  clear hb hown1 hown2 hgrow1 hnil hvn hw' e
  go_wp2
  go_ret
  exact ⟨_, _, rfl, hg', HB.out, HW.out⟩
set_option maxHeartbeats 1000000 in
theorem clone_valueNo (g K C : Nat) (W : Nat → Nat) (w : World) (hr : Hid (WsAt w g K C W)) (hK : K ≤ 1000) :
    Calls Tryd.prog 42 #[.agg #[.slice (some ⟨g, 0, none⟩) K C]] w fun e w' => ∃ g' C', e = .returned (.agg #[.slice (some ⟨g', 0, none⟩) K C']) ∧ w.heap.size ≤ g' ∧ Below w.heap.size w w' ∧ WsAt w' g' K C' W := by
  go_enter Tryd.func42, Tryd.ntmps42
  go_wp2_with fail
  have HA : Hid (Below w.heap.size w ((w.alloc (.cells #[.slice (some ⟨g, 0, none⟩) K C] 46)).alloc (.cells #[.slice none 0 0] 46))) := hide (balloc (balloc (Below.refl _ _) _) _)
  have hzA : ((w.alloc (.cells #[.slice (some ⟨g, 0, none⟩) K C] 46)).alloc (.cells #[.slice none 0 0] 46)).heap.size = w.heap.size + 2 := by simp
  have hrA := (hr.out.alloc (.cells #[.slice (some ⟨g, 0, none⟩) K C] 46)).alloc (.cells #[.slice none 0 0] 46)
  have hL9 : (fun x9 : World => x9.cell? ⟨w.heap.size + 1, 0, none⟩ = some (.slice none 0 0) ∧ x9.frozen? ⟨w.heap.size + 1, 0, none⟩ = false) ((w.alloc (.cells #[.slice (some ⟨g, 0, none⟩) K C] 46)).alloc (.cells #[.slice none 0 0] 46)) := ⟨(by simp [go_sem]), (by simp [go_sem])⟩
  generalize (w.alloc (.cells #[.slice (some ⟨g, 0, none⟩) K C] 46)).alloc (.cells #[.slice none 0 0] 46) = wa at *
  obtain ⟨hcA, hfA⟩ := hL9
  refine (cloneU_any g K C W wa (hide hrA) hK).mono ?_
  rintro e w1 ⟨g1, C1, rfl, hg1, hb1, hw1⟩
  have f1 := (hb1.cell (p := ⟨w.heap.size + 1, 0, none⟩) (by show w.heap.size + 1 < _; omega)).trans hcA
  have f2 : w1.frozen? ⟨w.heap.size + 1, 0, none⟩ = false := by rw [World.frozen?_of_block (w := wa) (a := ⟨w.heap.size + 1, 0, none⟩) (hb1.block _ (by show w.heap.size + 1 < _; omega))]; exact hfA
  have HB1 := hide (bnext HA.out hb1)
  have HW1 := hide hw1
  clear hb1 hw1 hcA hfA
  go_wp2_with fail
  refine bodyPost_ret (v := .agg #[.slice (some ⟨g1, 0, none⟩) K C1]) (by simp [results, Tryd.results42, go_sem, f1]) rfl ?_
  exact ⟨_, _, rfl, by omega, HB1.out.setCell (by show w.heap.size ≤ w.heap.size + 1; omega) _, HW1.out.setOther (by show g1 ≠ w.heap.size + 1; omega) _⟩
end Go.Proofs.YtanaeindldcapaaDoor
