import Derived.Test.YtlmaodcddbkllaaDoorSQ6
import Derived.Deep.LoopGhost
import Derived.Laws.IdiomRangeMap
import Derived.Shelf.Lay
/-
  Sequence: look-ups in the program's map; maps.DeleteFunc at it.
-/
namespace Go.Proofs.YtlmaodcddbkllaaDoor
open Go.RowKit Go.Maps Go.Shelf

theorem Tryd.zeroIns (w : World) : (zeroValue 44).run Tryd.prog w = .ok (insA ⟨0, 0, 0, 0, 0⟩) w := by kernel_rfl
/-- The look-up with ok. -/
theorem look_ok {w : World} {b n : Nat} {D : DataW Unit} {L : List Mv} (h : w.ownsMap Tryd.prog 2 insR b n D) (hm : MapL D L) (t : Int) (ht : -9223372036854775808 ≤ t ∧ t ≤ 9223372036854775807) :
    ∃ x, (Instr.lookup 122 (.map (some b)) (.int .i64 t) true).run Tryd.prog w = .ok (.tuple #[insA x, .bool (L.any fun m => m.to == t)]) w := by
  obtain ⟨es, clock, hb, F, _, hD⟩ := h
  rcases Maps.fit_look true Tryd.keyI Tryd.underlying122 (Tryd.zeroIns w) hb F (key_of t ht) with ⟨hrun, _, hz⟩ | ⟨e0, y, _, _, hrun, hR, hz, _⟩
  · refine ⟨⟨0, 0, 0, 0, 0⟩, ?_⟩
    have : has D (.int .i64 t) = false := has_false_of_atKey (by rw [hD]; exact hz)
    rw [hm.has_iff] at this
    rw [this]
    exact hrun
  · obtain ⟨x, hx, rfl⟩ := insR_inv hR
    refine ⟨x, ?_⟩
    have : has D (.int .i64 t) = true := has_true_of_atKey (y := insD x) (by rw [hD]; exact hz)
    rw [hm.has_iff] at this
    rw [this, ← hx]
    exact hrun
/-- The look-up of a copy that is there. -/
theorem look_one {w : World} {b n : Nat} {D : DataW Unit} {L : List Mv} (h : w.ownsMap Tryd.prog 2 insR b n D) (hm : MapL D L) {m : Mv} (hin : m ∈ L) (ht : -9223372036854775808 ≤ m.to ∧ m.to ≤ 9223372036854775807) :
    (Instr.lookup 122 (.map (some b)) (.int .i64 m.to) false).run Tryd.prog w = .ok (insA (cpI m)) w := by
  obtain ⟨v, ps, hrun, hv⟩ := h.lookup Tryd.keyI Tryd.underlying122 (Tryd.zeroIns w) (insR_mk _) (key_of m.to ht)
  rw [hm.at_ m hin] at hv
  obtain ⟨x, rfl, hx⟩ := insR_inv hv
  simp only [Prod.mk.injEq] at hx
  rw [hrun, insD_inj hx.1]
theorem closure_any (t : Int) (x : Ins) (W : World) : Calls Tryd.prog 129 (#[.int .i64 t, insA x] ++ #[]) W fun e w' => e = .returned (.bool (x.a == t)) ∧ W.grownBy w' none := by
  unfold insA
  go_enter Tryd.func129, Tryd.ntmps129
  go_wp2
  go_ret
  exact ⟨rfl, World.grownBy_alloc _ _ _⟩
/-- What is left while the copies that change nothing are struck. -/
def strikeL (L : List Mv) (left : Lit → Bool) : List Mv := L.filter fun m => left (.int .i64 m.to) || (m.to != m.frm)
theorem strike_start {L : List Mv} {left : Lit → Bool} (h : ∀ m ∈ L, left (.int .i64 m.to) = true) : strikeL L left = L := List.filter_eq_self.2 (fun m hm => by rw [h m hm]; rfl)
theorem strike_end {L : List Mv} {left : Lit → Bool} (h : ∀ k, left k = false) : strikeL L left = startM L := by
  unfold strikeL startM
  congr 1
  funext m
  rw [h]
  rfl
theorem strike_other {t t' : Int} {left : Lit → Bool} (h : t' ≠ t) : (left (.int .i64 t') && !(Lit.int .i64 t').sameKey (.int .i64 t)) = left (.int .i64 t') := by
  rw [sameKey_ne (fun e => h (by simpa using e))]
  simp
theorem strike_same {t : Int} {left : Lit → Bool} : (left (.int .i64 t) && !(Lit.int .i64 t).sameKey (.int .i64 t)) = false := by
  rw [WideAt.sameKey_self (keyLit t)]
  simp
theorem strike_keep {L : List Mv} (hn : (tosM L).Nodup) {left : Lit → Bool} {m : Mv} (hm : m ∈ L) (hne : m.to ≠ m.frm) : strikeL L (fun z => left z && !z.sameKey (.int .i64 m.to)) = strikeL L left := by
  unfold strikeL
  refine List.filter_congr (fun q hq => ?_)
  by_cases e : q.to = m.to
  · have hqm : q = m := by
      obtain ⟨i, hi, rfl⟩ := List.getElem_of_mem hq
      obtain ⟨j, hj, rfl⟩ := List.getElem_of_mem hm
      have key := List.pairwise_iff_getElem.1 (show (L.map (·.to)).Pairwise (· ≠ ·) from hn)
      rcases Nat.lt_trichotomy i j with hl | hl | hl
      · exact (key i j (by simpa using hi) (by simpa using hj) hl (by simp [e])).elim
      · subst hl; rfl
      · exact (key j i (by simpa using hj) (by simpa using hi) hl (by simp [e])).elim
    subst hqm
    have : (q.to != q.frm) = true := by simpa using hne
    rw [this, Bool.or_true, Bool.or_true]
  · dsimp only
    rw [strike_other e]
theorem strike_drop {L : List Mv} (hn : (tosM L).Nodup) {left : Lit → Bool} {m : Mv} (hm : m ∈ L) (he : m.to = m.frm) : strikeL L (fun z => left z && !z.sameKey (.int .i64 m.to)) = without (strikeL L left) m.to := by
  unfold strikeL without
  rw [List.filter_filter]
  refine List.filter_congr (fun q hq => ?_)
  by_cases e : q.to = m.to
  · have hqm : q = m := by
      obtain ⟨i, hi, rfl⟩ := List.getElem_of_mem hq
      obtain ⟨j, hj, rfl⟩ := List.getElem_of_mem hm
      have key := List.pairwise_iff_getElem.1 (show (L.map (·.to)).Pairwise (· ≠ ·) from hn)
      rcases Nat.lt_trichotomy i j with hl | hl | hl
      · exact (key i j (by simpa using hi) (by simpa using hj) hl (by simp [e])).elim
      · subst hl; rfl
      · exact (key j i (by simpa using hj) (by simpa using hi) hl (by simp [e])).elim
    subst hqm
    dsimp only
    rw [strike_same, show (q.to != q.frm) = false by simpa using he]
    simp
  · dsimp only
    rw [strike_other e, show (q.to != m.to) = true by simpa using e]
    simp
theorem strike_nodup {L : List Mv} (hn : (tosM L).Nodup) (left : Lit → Bool) : (tosM (strikeL L left)).Nodup := hn.sublist (List.filter_sublist.map _)
theorem cp_move {m : Mv} (h : 0 ≤ m.frm) : cpI m = ⟨11, m.to, m.frm, 0, 0⟩ := if_neg (by omega)

set_option maxHeartbeats 2000000 in
set_option maxRecDepth 100000 in
theorem deleteFunc_any (b n : Nat) (D : DataW Unit) (L : List Mv) (w : World) (hown : w.ownsMap Tryd.prog 2 insR b n D) (hm : Hid (MapL D L)) (hg : Hid (GoodL L)) :
    Calls Tryd.prog 128 #[.map (some b), .func (.func 129) #[] #[]] w fun e w' => e = .returned (.tuple #[]) ∧ w.grownBy w' (some b) ∧ ∃ D', w'.ownsMap Tryd.prog 2 insR b n D' ∧ MapL D' (startM L) := by
  have eg : ∀ args w, (callFunc 129 args).run Tryd.prog w = .ok (.enter 129 args) w := enters_of Tryd.func129 (by kernel_rfl) rfl
  go_enter Tryd.func128, Tryd.ntmps128
  go_wp2_with (first
    | (at_range; refine wpList_range_own _ rfl _ 122 rfl 2 44 Tryd.keyI Tryd.underlying122 insR b n D rfl hown ?_; intro w0 hrg0 hg0 hs0)
    | go_in)
  go_frame
  go_loopw [8] (fun _ wr => ∃ (left : Lit → Bool) (cnt : Nat) (D1 : DataW Unit), wr.ranges Tryd.prog 2 insR b w.heap.size n D1 left cnt ∧ w.grownBy wr (some b) ∧ Hid (MapL D1 (strikeL L left)))
    (fun _ wr => wr.rangeLeft b w.heap.size)
  case atStart => exact ⟨_, _, _, hrg0, hg0.but _, hide (by rw [strike_start (fun m hm' => (hm.out.keys _).2 ⟨m, hm', rfl⟩)]; exact hm.out)⟩
  case round =>
    clear hrg0 hg0 hs0
    obtain ⟨left, cnt, D1, hrg, hgw, HM⟩ := hrel
    go_wp2_with (first
      | (at_next; refine wpList_next_ranges _ rfl _ rfl 2 Tryd.keyI insR (Value.int .i64) insA (fun key kl hkey => by obtain ⟨x, rfl, _⟩ := Maps.keyOf_int_inv Tryd.underlying2 hkey; exact ⟨x, rfl⟩) (fun v y hv => by obtain ⟨x, rfl, _⟩ := insR_inv hv; exact ⟨x, rfl⟩) b w.heap.size n _ _ _ rfl hrg ?_ ?_)
      | go_in)
    · intro _ hl0
      go_wp2
      go_end0
      exact ⟨rfl, hgw, D1, hrg.owns, by rw [← strike_end hl0]; exact HM.out⟩
    · intro x c kl yd yp w1 cnt1 hkey hlx hv hat hrg1 hlt hg1 hs1 hen
      have hgw1 := hgw.andThen hg1 (fun j hj => by cases hj; exact Or.inl (Nat.le_refl _))
      obtain ⟨x', ex, rfl, hwx⟩ := Maps.keyOf_int_inv Tryd.underlying2 hkey
      cases ex
      obtain ⟨c', ec, ey⟩ := insR_inv hv
      obtain ⟨rfl, rfl⟩ := Prod.mk.inj ey
      have hcc : c' = c := by
        obtain ⟨a1, a2, a3, a4, a5⟩ := c
        obtain ⟨b1, b2, b3, b4, b5⟩ := c'
        simp only [insA, Value.agg.injEq] at ec
        have := congrArg Array.toList ec
        simp at this
        obtain ⟨rfl, rfl, rfl, rfl, rfl⟩ := this
        rfl
      subst hcc
      obtain ⟨m, hmS, hmx⟩ := (HM.out.keys (.int .i64 x)).1 (has_true_of_atKey (y := insD c') hat)
      have hmx' : x = m.to := by simpa using hmx
      have hcp : c' = cpI m := insD_inj (by rw [← HM.out.at_ m hmS (.lit (.bool true)), ← hmx]; exact (hat _).symm)
      have hmL : m ∈ L := (List.mem_filter.1 hmS).1
      have hfr := hg.out.rng m hmL
      rw [cp_move (by omega)] at hcp
      subst hmx' hcp
      unfold insA at *
      clear hmx ey ec hv hat
      dsimp only at *
      have hbl := hrg1.owns.lt
      have hrl := hrg1.lt
      have hc := fun W => closure_any m.to ⟨11, m.to, m.frm, 0, 0⟩ W
      unfold insA at hc
      dsimp only at hc
      by_cases he : m.frm = m.to
      · have HD := hide (strike_drop hg.out.nd (left := left) hmL he.symm)
        have heb : (m.frm == m.to) = true := by simpa using he
        rw [heb] at hc
        clear heb he
        go_wp2_with (first
          | (go_at_fn 129; refine (hc _).mono ?_; rintro e w2 ⟨rfl, hg2⟩; have hrg2 := (hrg1.alloc (.cells #[.int .i64 11, .int .i64 m.to, .int .i64 m.frm, .int .i64 0, .int .i64 0] 44)).kept hg2 (by simp) (by simp))
          | (at_delete; refine wpList_delete_ranges _ rfl _ _ 122 2 rfl 44 Tryd.keyI Tryd.underlying122 insR b w.heap.size n _ _ _ rfl hrg2 _ _ rfl hkey ?_; intro w3 cnt3 hrg3 hle hturn; go_frame)
          | go_in)
        rw [strike_twice] at hrg3
        have HM3 := hide (HM.out.del (strike_nodup hg.out.nd left) m.to)
        go_roundw
        case rel => exact ⟨_, cnt3, _, hrg3, ((hgw1.andThen (World.grownBy_alloc w1 _ none) (fun j hj => by cases hj)).andThen hg2 (fun j hj => by cases hj)).andThen hturn.grown (fun j hj => by cases hj; exact Or.inr rfl), hide (by rw [HD.out]; exact HM3.out)⟩
        case measure => rw [hrg3.left_eq, hrg.left_eq]; omega
      · have HD := hide (strike_keep hg.out.nd (left := left) hmL (fun e => he e.symm))
        have heb : (m.frm == m.to) = false := by simpa using he
        rw [heb] at hc
        clear heb he
        go_wp2_with (first
          | (go_at_fn 129; refine (hc _).mono ?_; rintro e w2 ⟨rfl, hg2⟩)
          | go_in)
        have hrg2 := (hrg1.alloc (.cells #[.int .i64 11, .int .i64 m.to, .int .i64 m.frm, .int .i64 0, .int .i64 0] 44)).kept hg2 (by simp) (by simp)
        go_roundw
        case rel => exact ⟨_, cnt1, _, hrg2, (hgw1.andThen (World.grownBy_alloc w1 _ none) (fun j hj => by cases hj)).andThen hg2 (fun j hj => by cases hj), hide (by rw [HD.out]; exact HM.out)⟩
        case measure => rw [hrg2.left_eq, hrg.left_eq]; exact hlt
end Go.Proofs.YtlmaodcddbkllaaDoor
