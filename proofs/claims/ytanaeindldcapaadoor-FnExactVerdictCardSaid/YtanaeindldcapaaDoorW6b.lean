import Derived.Test.YtanaeindldcapaaDoorW5
namespace Go.Proofs.YtanaeindldcapaaDoor
open Go.RowKit
def inB (lo hi x : Int) : Bool := decide (lo ≤ x) && decide (x < hi)
theorem terOk_1 (n lo bl a to els : Int) : terOk n lo bl ⟨1, a, to, els⟩ = (a == 0 && inB lo bl to && els == 0) := by simp [terOk, fld, inB]
theorem terOk_2 (n lo bl a to els : Int) : terOk n lo bl ⟨2, a, to, els⟩ = (inB 0 n a && inB lo bl to && inB lo bl els) := by simp [terOk, fld, inB]
theorem terOk_3 (n lo bl a to els : Int) : terOk n lo bl ⟨3, a, to, els⟩ = (inB 0 n a && to == 0 && els == 0) := by simp [terOk, fld, inB]
theorem terOk_no {n lo bl k a to els : Int} (h : ¬ (1 ≤ k ∧ k ≤ 3)) : terOk n lo bl ⟨k, a, to, els⟩ = false := by
  unfold terOk
  by_cases h1 : 1 ≤ k
  · rw [decide_eq_false (p := k ≤ 3) (by omega)]; simp
  · rw [decide_eq_false (p := 1 ≤ k) h1]; simp
theorem all_take_next {α : Type} {p : α → Bool} {xs : List α} {k : Nat} (hk : k < xs.length) (h : (xs.take k).all p = true) (hp : p xs[k] = true) : (xs.take (k + 1)).all p = true := by
  rw [take_next xs k hk, List.all_append, h]; simp [hp]
theorem all_no {α : Type} {p : α → Bool} {xs : List α} {k : Nat} (hk : k < xs.length) (hp : p xs[k] = false) : xs.all p = false := by
  rw [List.all_eq_false]; exact ⟨_, List.getElem_mem hk, by simp [hp]⟩
theorem all_whole {α : Type} {p : α → Bool} {xs : List α} {k : Nat} (hk : xs.length ≤ k) (h : (xs.take k).all p = true) : xs.all p = true := by
  rwa [List.take_of_length_le hk] at h
set_option maxHeartbeats 1000000 in
theorem goodTerm_loop (kind ta to els n low bl : Int) (w : World) (ts : List Int) (R : Bool) (hts : Hid ((Ter.mk kind ta to els).targets = ts)) (hlen : ts.length ≤ 2) (hk1 : 1 ≤ kind) (hk3 : kind ≤ 3)
    (c1 : Hid (kind = 1 → ta = 0 ∧ els = 0)) (c3 : Hid (kind = 3 → to = 0 ∧ els = 0)) (c2 : Hid (kind ≠ 1 → 0 ≤ ta ∧ ta < n)) (hR : Hid (ts.all (inB low bl) = R)) :
    Calls Tryd.prog 23 #[.agg #[.int .i64 kind, .int .i64 ta, .int .i64 to, .int .i64 els], .int .i64 n, .int .i64 low, .int .i64 bl] w fun e w' => e = .returned (.bool R) ∧ Below w.heap.size w w' := by
  have hc : kind = 1 ∨ kind = 2 ∨ kind = 3 := by omega
  have hb0 := hide hlen
  rcases hc with rfl | rfl | rfl
  · obtain ⟨rfl, rfl⟩ := c1.out rfl
    clear c1 c2 c3
    go_enter Tryd.func23, Tryd.ntmps23
    go_wp2_with (go_at_call 27; refine (targetsS_any ⟨_, _, _, _⟩ _).mono ?_; rintro e w1 ⟨a, c, rfl, hb1, hi1⟩; rw [unhide hts] at hi1 ⊢; have HI := hide hi1; clear hi1)
    go_loop [10] (fun i => ∃ k : Nat, k ≤ ts.length ∧ i = .int .i64 k ∧ Hid ((ts.take k).all (inB low bl) = true)) (fun i => ts.length - (intOf i).toNat)
    case atStart => exact ⟨0, Nat.zero_le _, rfl, rfl⟩
    case round =>
      obtain ⟨k, hk, rfl, hall⟩ := hrel
      by_cases hlt : k < ts.length
      · obtain ⟨b, o, rfl, _, hc⟩ := HI.out k hlt
        by_cases hx : low ≤ ts[k] ∧ ts[k] < bl
        · obtain ⟨hx1, hx2⟩ := hx
          go_wp2
          go_round
          case rel => exact ⟨k + 1, by omega, by go_num, all_take_next hlt hall.out (by simp [inB, hx1, hx2])⟩
          case measure => simp [intOf]; omega
        · go_wp2
          all_goals
            go_ret
            exact ⟨ret_bool (by rw [← hR.out]; exact (all_no hlt (by unfold inB; rw [Bool.and_eq_false_iff, decide_eq_false_iff_not, decide_eq_false_iff_not]; omega)).symm), bnext (balloc (Below.refl _ _) _) hb1⟩
      · go_wp2
        go_ret
        exact ⟨ret_bool (by rw [← hR.out]; exact (all_whole (by omega) hall.out).symm), bnext (balloc (Below.refl _ _) _) hb1⟩
  · obtain ⟨d1, d2⟩ := c2.out (by decide)
    clear c1 c2 c3
    go_enter Tryd.func23, Tryd.ntmps23
    go_wp2_with (go_at_call 27; refine (targetsS_any ⟨_, _, _, _⟩ _).mono ?_; rintro e w1 ⟨a, c, rfl, hb1, hi1⟩; rw [unhide hts] at hi1 ⊢; have HI := hide hi1; clear hi1)
    go_loop [10] (fun i => ∃ k : Nat, k ≤ ts.length ∧ i = .int .i64 k ∧ Hid ((ts.take k).all (inB low bl) = true)) (fun i => ts.length - (intOf i).toNat)
    case atStart => exact ⟨0, Nat.zero_le _, rfl, rfl⟩
    case round =>
      obtain ⟨k, hk, rfl, hall⟩ := hrel
      by_cases hlt : k < ts.length
      · obtain ⟨b, o, rfl, _, hc⟩ := HI.out k hlt
        by_cases hx : low ≤ ts[k] ∧ ts[k] < bl
        · obtain ⟨hx1, hx2⟩ := hx
          go_wp2
          go_round
          case rel => exact ⟨k + 1, by omega, by go_num, all_take_next hlt hall.out (by simp [inB, hx1, hx2])⟩
          case measure => simp [intOf]; omega
        · go_wp2
          all_goals
            go_ret
            exact ⟨ret_bool (by rw [← hR.out]; exact (all_no hlt (by unfold inB; rw [Bool.and_eq_false_iff, decide_eq_false_iff_not, decide_eq_false_iff_not]; omega)).symm), bnext (balloc (Below.refl _ _) _) hb1⟩
      · go_wp2
        go_ret
        exact ⟨ret_bool (by rw [← hR.out]; exact (all_whole (by omega) hall.out).symm), bnext (balloc (Below.refl _ _) _) hb1⟩
  · obtain ⟨d1, d2⟩ := c2.out (by decide)
    obtain ⟨rfl, rfl⟩ := c3.out rfl
    clear c1 c2 c3
    go_enter Tryd.func23, Tryd.ntmps23
    go_wp2_with (go_at_call 27; refine (targetsS_any ⟨_, _, _, _⟩ _).mono ?_; rintro e w1 ⟨a, c, rfl, hb1, hi1⟩; rw [unhide hts] at hi1 ⊢; have HI := hide hi1; clear hi1)
    go_loop [10] (fun i => ∃ k : Nat, k ≤ ts.length ∧ i = .int .i64 k ∧ Hid ((ts.take k).all (inB low bl) = true)) (fun i => ts.length - (intOf i).toNat)
    case atStart => exact ⟨0, Nat.zero_le _, rfl, rfl⟩
    case round =>
      obtain ⟨k, hk, rfl, hall⟩ := hrel
      by_cases hlt : k < ts.length
      · have := hts.out
        simp [Ter.targets] at this
        subst this
        simp at hlt
      · go_wp2
        go_ret
        exact ⟨ret_bool (by rw [← hR.out]; exact (all_whole (by omega) hall.out).symm), bnext (balloc (Below.refl _ _) _) hb1⟩
set_option maxHeartbeats 1000000 in
theorem goodTerm_no (kind ta to els n low bl : Int) (w : World) (h : ¬ (1 ≤ kind ∧ kind ≤ 3) ∨ (kind = 1 ∧ ¬ (ta = 0 ∧ els = 0)) ∨ (kind = 3 ∧ ¬ (to = 0 ∧ els = 0)) ∨ (1 ≤ kind ∧ kind ≤ 3 ∧ kind ≠ 1 ∧ ¬ (0 ≤ ta ∧ ta < n))) :
    Calls Tryd.prog 23 #[.agg #[.int .i64 kind, .int .i64 ta, .int .i64 to, .int .i64 els], .int .i64 n, .int .i64 low, .int .i64 bl] w fun e w' => e = .returned (.bool false) ∧ Below w.heap.size w w' := by
  by_cases hk : 1 ≤ kind ∧ kind ≤ 3
  · have hc : kind = 1 ∨ kind = 2 ∨ kind = 3 := by omega
    rcases hc with rfl | rfl | rfl
    · have h1 : ¬ (ta = 0 ∧ els = 0) := by omega
      clear h hk
      by_cases h2 : ta = 0
      · subst h2
        have h3 : (els != 0) = true := by simp at h1; simp [h1]
        clear h1
        go_enter Tryd.func23, Tryd.ntmps23
        go_wp2
        go_ret
        exact ⟨rfl, balloc (Below.refl _ _) _⟩
      · have h3 : (ta != 0) = true := by simp [h2]
        clear h1 h2
        go_enter Tryd.func23, Tryd.ntmps23
        go_wp2
        go_ret
        exact ⟨rfl, balloc (Below.refl _ _) _⟩
    · have h1 : ta < 0 ∨ n ≤ ta := by omega
      clear h hk
      go_enter Tryd.func23, Tryd.ntmps23
      go_wp2
      all_goals
        go_ret
        exact ⟨rfl, balloc (Below.refl _ _) _⟩
    · by_cases h1 : to = 0 ∧ els = 0
      · obtain ⟨rfl, rfl⟩ := h1
        have h1 : ta < 0 ∨ n ≤ ta := by omega
        clear h hk
        go_enter Tryd.func23, Tryd.ntmps23
        go_wp2
        all_goals
          go_ret
          exact ⟨rfl, balloc (Below.refl _ _) _⟩
      · clear h hk
        by_cases h2 : to = 0
        · subst h2
          have h3 : (els != 0) = true := by simp at h1; simp [h1]
          clear h1
          go_enter Tryd.func23, Tryd.ntmps23
          go_wp2
          go_ret
          exact ⟨rfl, balloc (Below.refl _ _) _⟩
        · have h3 : (to != 0) = true := by simp [h2]
          clear h1 h2
          go_enter Tryd.func23, Tryd.ntmps23
          go_wp2
          go_ret
          exact ⟨rfl, balloc (Below.refl _ _) _⟩
  · have h1 : kind < 1 ∨ 3 < kind := by omega
    clear h hk
    go_enter Tryd.func23, Tryd.ntmps23
    go_wp2
    all_goals
      go_ret
      exact ⟨rfl, balloc (Below.refl _ _) _⟩
theorem goodTerm_any (kind ta to els n low bl : Int) (w : World) :
    Calls Tryd.prog 23 #[.agg #[.int .i64 kind, .int .i64 ta, .int .i64 to, .int .i64 els], .int .i64 n, .int .i64 low, .int .i64 bl] w fun e w' => e = .returned (.bool (terOk n low bl ⟨kind, ta, to, els⟩)) ∧ Below w.heap.size w w' := by
  by_cases hk : 1 ≤ kind ∧ kind ≤ 3
  · have hc : kind = 1 ∨ kind = 2 ∨ kind = 3 := by omega
    rcases hc with rfl | rfl | rfl
    · rw [terOk_1]
      by_cases h : ta = 0 ∧ els = 0
      · exact goodTerm_loop 1 ta to els n low bl w [to] _ rfl (by simp) (by decide) (by decide) (fun _ => h) (fun e => by omega) (fun e => absurd rfl e) (by obtain ⟨rfl, rfl⟩ := h; show _ = _; simp)
      · have e : (ta == 0 && inB low bl to && els == 0) = false := by
          by_cases h1 : ta = 0
          · have : els ≠ 0 := fun e => h ⟨h1, e⟩
            simp [this]
          · simp [h1]
        rw [e]
        exact goodTerm_no 1 ta to els n low bl w (Or.inr (Or.inl ⟨rfl, h⟩))
    · rw [terOk_2]
      by_cases h : 0 ≤ ta ∧ ta < n
      · exact goodTerm_loop 2 ta to els n low bl w [to, els] _ rfl (by simp) (by decide) (by decide) (fun e => by omega) (fun e => by omega) (fun _ => h) (by show _ = _; simp [inB, h.1, h.2])
      · have e : inB 0 n ta = false := by unfold inB; rw [Bool.and_eq_false_iff, decide_eq_false_iff_not, decide_eq_false_iff_not]; omega
        rw [e]
        exact goodTerm_no 2 ta to els n low bl w (by omega)
    · rw [terOk_3]
      by_cases h : 0 ≤ ta ∧ ta < n
      · by_cases h2 : to = 0 ∧ els = 0
        · exact goodTerm_loop 3 ta to els n low bl w [] _ rfl (by simp) (by decide) (by decide) (fun e => by omega) (fun _ => h2) (fun _ => h) (by obtain ⟨rfl, rfl⟩ := h2; show _ = _; simp [inB, h.1, h.2])
        · have e : (inB 0 n ta && to == 0 && els == 0) = false := by
            by_cases h1 : to = 0
            · have : els ≠ 0 := fun e => h2 ⟨h1, e⟩
              simp [this]
            · simp [h1]
          rw [e]
          exact goodTerm_no 3 ta to els n low bl w (by omega)
      · have e : inB 0 n ta = false := by unfold inB; rw [Bool.and_eq_false_iff, decide_eq_false_iff_not, decide_eq_false_iff_not]; omega
        rw [e]
        exact goodTerm_no 3 ta to els n low bl w (by omega)
  · rw [terOk_no hk]
    exact goodTerm_no kind ta to els n low bl w (Or.inl hk)
end Go.Proofs.YtanaeindldcapaaDoor
