import Derived.Test.YtjfcbjomfbfoiaaGreatDoorW1
import Derived.Test.YtjfcbjomfbfoiaaGreatDoorMem
namespace Go.Proofs.YtjfcbjomfbfoiaaGreatDoor
open Go.RowKit
def inB (lo hi x : Int) : Bool := decide (lo ≤ x) && decide (x < hi)
theorem terOk_1 (n lo bl a to els : Int) : terOk n lo bl ⟨1, a, to, els⟩ = (a == 0 && inB lo bl to && els == 0) := by simp [terOk, fld, inB]
theorem terOk_2 (n lo bl a to els : Int) : terOk n lo bl ⟨2, a, to, els⟩ = (inB 0 n a && inB lo bl to && inB lo bl els) := by simp [terOk, fld, inB]
theorem terOk_3 (n lo bl a to els : Int) : terOk n lo bl ⟨3, a, to, els⟩ = (inB 0 n a && to == 0 && els == 0) := by simp [terOk, fld, inB]
theorem terOk_no {n lo bl k a to els : Int} (h : ¬ (1 ≤ k ∧ k ≤ 3)) : terOk n lo bl ⟨k, a, to, els⟩ = false := by
  unfold terOk
  by_cases h1 : 1 ≤ k
  · rw [decide_eq_false (p := k ≤ 3) (by omega)]; simp
  · rw [decide_eq_false (p := 1 ≤ k) h1]; simp
theorem all_take_next {α : Type} {p : α → Bool} {xs : List α} {k : Nat} (hk : k < xs.length) (h : (xs.take k).all p = true) (hp : p xs[k] = true) : (xs.take (k + 1)).all p = true := by
  rw [take_next xs k hk, List.all_append, h]; simp [hp]
theorem all_no {α : Type} {p : α → Bool} {xs : List α} {k : Nat} (hk : k < xs.length) (hp : p xs[k] = false) : xs.all p = false := by
  rw [List.all_eq_false]; exact ⟨_, List.getElem_mem hk, by simp [hp]⟩
theorem all_whole {α : Type} {p : α → Bool} {xs : List α} {k : Nat} (hk : xs.length ≤ k) (h : (xs.take k).all p = true) : xs.all p = true := by
  rwa [List.take_of_length_le hk] at h
set_option maxHeartbeats 1000000 in
theorem goodTerm_loop (kind ta to els n low bl : Int) (w : World) (ts : List Int) (R : Bool) (hts : Hid ((Ter.mk kind ta to els).targets = ts)) (hlen : ts.length ≤ 2) (hk1 : 1 ≤ kind) (hk3 : kind ≤ 3)
    (c1 : Hid (kind = 1 → ta = 0 ∧ els = 0)) (c3 : Hid (kind = 3 → to = 0 ∧ els = 0)) (c2 : Hid (kind ≠ 1 → 0 ≤ ta ∧ ta < n)) (hR : Hid (ts.all (inB low bl) = R)) :
    Calls Tryz.prog 53 #[.agg #[.int .i64 kind, .int .i64 ta, .int .i64 to, .int .i64 els], .int .i64 n, .int .i64 low, .int .i64 bl] w fun e w' => e = .returned (.bool R) ∧ Below w.heap.size w w' := by
  have hc : kind = 1 ∨ kind = 2 ∨ kind = 3 := by omega
  have hb0 := hide hlen
  rcases hc with rfl | rfl | rfl
  · obtain ⟨rfl, rfl⟩ := c1.out rfl
    clear c1 c2 c3
    go_enter Tryz.func53, Tryz.ntmps53
    go_wp2_with (go_at_call 56; refine (targetsS_any ⟨_, _, _, _⟩ _).mono ?_; rintro e w1 ⟨a, c, rfl, hb1, hi1⟩; rw [unhide hts] at hi1 ⊢; have HI := hide hi1; clear hi1)
    go_loop [10] (fun i => ∃ k : Nat, k ≤ ts.length ∧ i = .int .i64 k ∧ Hid ((ts.take k).all (inB low bl) = true)) (fun i => ts.length - (intOf i).toNat)
    case atStart => exact ⟨0, Nat.zero_le _, rfl, rfl⟩
    case round =>
      obtain ⟨k, hk, rfl, hall⟩ := hrel
      by_cases hlt : k < ts.length
      · obtain ⟨b, o, rfl, _, hc⟩ := HI.out k hlt
        by_cases hx : low ≤ ts[k] ∧ ts[k] < bl
        · obtain ⟨hx1, hx2⟩ := hx
          go_wp2
          go_round
          case rel => exact ⟨k + 1, by omega, by go_num, all_take_next hlt hall.out (by simp [inB, hx1, hx2])⟩
          case measure => simp [intOf]; omega
        · go_wp2
          all_goals
            go_ret
            exact ⟨ret_bool (by rw [← hR.out]; exact (all_no hlt (by unfold inB; rw [Bool.and_eq_false_iff, decide_eq_false_iff_not, decide_eq_false_iff_not]; omega)).symm), bnext (balloc (Below.refl _ _) _) hb1⟩
      · go_wp2
        go_ret
        exact ⟨ret_bool (by rw [← hR.out]; exact (all_whole (by omega) hall.out).symm), bnext (balloc (Below.refl _ _) _) hb1⟩
  · obtain ⟨d1, d2⟩ := c2.out (by decide)
    clear c1 c2 c3
    go_enter Tryz.func53, Tryz.ntmps53
    go_wp2_with (go_at_call 56; refine (targetsS_any ⟨_, _, _, _⟩ _).mono ?_; rintro e w1 ⟨a, c, rfl, hb1, hi1⟩; rw [unhide hts] at hi1 ⊢; have HI := hide hi1; clear hi1)
    go_loop [10] (fun i => ∃ k : Nat, k ≤ ts.length ∧ i = .int .i64 k ∧ Hid ((ts.take k).all (inB low bl) = true)) (fun i => ts.length - (intOf i).toNat)
    case atStart => exact ⟨0, Nat.zero_le _, rfl, rfl⟩
    case round =>
      obtain ⟨k, hk, rfl, hall⟩ := hrel
      by_cases hlt : k < ts.length
      · obtain ⟨b, o, rfl, _, hc⟩ := HI.out k hlt
        by_cases hx : low ≤ ts[k] ∧ ts[k] < bl
        · obtain ⟨hx1, hx2⟩ := hx
          go_wp2
          go_round
          case rel => exact ⟨k + 1, by omega, by go_num, all_take_next hlt hall.out (by simp [inB, hx1, hx2])⟩
          case measure => simp [intOf]; omega
        · go_wp2
          all_goals
            go_ret
            exact ⟨ret_bool (by rw [← hR.out]; exact (all_no hlt (by unfold inB; rw [Bool.and_eq_false_iff, decide_eq_false_iff_not, decide_eq_false_iff_not]; omega)).symm), bnext (balloc (Below.refl _ _) _) hb1⟩
      · go_wp2
        go_ret
        exact ⟨ret_bool (by rw [← hR.out]; exact (all_whole (by omega) hall.out).symm), bnext (balloc (Below.refl _ _) _) hb1⟩
  · obtain ⟨d1, d2⟩ := c2.out (by decide)
    obtain ⟨rfl, rfl⟩ := c3.out rfl
    clear c1 c2 c3
    go_enter Tryz.func53, Tryz.ntmps53
    go_wp2_with (go_at_call 56; refine (targetsS_any ⟨_, _, _, _⟩ _).mono ?_; rintro e w1 ⟨a, c, rfl, hb1, hi1⟩; rw [unhide hts] at hi1 ⊢; have HI := hide hi1; clear hi1)
    go_loop [10] (fun i => ∃ k : Nat, k ≤ ts.length ∧ i = .int .i64 k ∧ Hid ((ts.take k).all (inB low bl) = true)) (fun i => ts.length - (intOf i).toNat)
    case atStart => exact ⟨0, Nat.zero_le _, rfl, rfl⟩
    case round =>
      obtain ⟨k, hk, rfl, hall⟩ := hrel
      by_cases hlt : k < ts.length
      · have := hts.out
        simp [Ter.targets] at this
        subst this
        simp at hlt
      · go_wp2
        go_ret
        exact ⟨ret_bool (by rw [← hR.out]; exact (all_whole (by omega) hall.out).symm), bnext (balloc (Below.refl _ _) _) hb1⟩
set_option maxHeartbeats 1000000 in
theorem goodTerm_no (kind ta to els n low bl : Int) (w : World) (h : ¬ (1 ≤ kind ∧ kind ≤ 3) ∨ (kind = 1 ∧ ¬ (ta = 0 ∧ els = 0)) ∨ (kind = 3 ∧ ¬ (to = 0 ∧ els = 0)) ∨ (1 ≤ kind ∧ kind ≤ 3 ∧ kind ≠ 1 ∧ ¬ (0 ≤ ta ∧ ta < n))) :
    Calls Tryz.prog 53 #[.agg #[.int .i64 kind, .int .i64 ta, .int .i64 to, .int .i64 els], .int .i64 n, .int .i64 low, .int .i64 bl] w fun e w' => e = .returned (.bool false) ∧ Below w.heap.size w w' := by
  by_cases hk : 1 ≤ kind ∧ kind ≤ 3
  · have hc : kind = 1 ∨ kind = 2 ∨ kind = 3 := by omega
    rcases hc with rfl | rfl | rfl
    · have h1 : ¬ (ta = 0 ∧ els = 0) := by omega
      clear h hk
      by_cases h2 : ta = 0
      · subst h2
        have h3 : (els != 0) = true := by simp at h1; simp [h1]
        clear h1
        go_enter Tryz.func53, Tryz.ntmps53
        go_wp2
        go_ret
        exact ⟨rfl, balloc (Below.refl _ _) _⟩
      · have h3 : (ta != 0) = true := by simp [h2]
        clear h1 h2
        go_enter Tryz.func53, Tryz.ntmps53
        go_wp2
        go_ret
        exact ⟨rfl, balloc (Below.refl _ _) _⟩
    · have h1 : ta < 0 ∨ n ≤ ta := by omega
      clear h hk
      go_enter Tryz.func53, Tryz.ntmps53
      go_wp2
      all_goals
        go_ret
        exact ⟨rfl, balloc (Below.refl _ _) _⟩
    · by_cases h1 : to = 0 ∧ els = 0
      · obtain ⟨rfl, rfl⟩ := h1
        have h1 : ta < 0 ∨ n ≤ ta := by omega
        clear h hk
        go_enter Tryz.func53, Tryz.ntmps53
        go_wp2
        all_goals
          go_ret
          exact ⟨rfl, balloc (Below.refl _ _) _⟩
      · clear h hk
        by_cases h2 : to = 0
        · subst h2
          have h3 : (els != 0) = true := by simp at h1; simp [h1]
          clear h1
          go_enter Tryz.func53, Tryz.ntmps53
          go_wp2
          go_ret
          exact ⟨rfl, balloc (Below.refl _ _) _⟩
        · have h3 : (to != 0) = true := by simp [h2]
          clear h1 h2
          go_enter Tryz.func53, Tryz.ntmps53
          go_wp2
          go_ret
          exact ⟨rfl, balloc (Below.refl _ _) _⟩
  · have h1 : kind < 1 ∨ 3 < kind := by omega
    clear h hk
    go_enter Tryz.func53, Tryz.ntmps53
    go_wp2
    all_goals
      go_ret
      exact ⟨rfl, balloc (Below.refl _ _) _⟩
theorem goodTerm_any (kind ta to els n low bl : Int) (w : World) :
    Calls Tryz.prog 53 #[.agg #[.int .i64 kind, .int .i64 ta, .int .i64 to, .int .i64 els], .int .i64 n, .int .i64 low, .int .i64 bl] w fun e w' => e = .returned (.bool (terOk n low bl ⟨kind, ta, to, els⟩)) ∧ Below w.heap.size w w' := by
  by_cases hk : 1 ≤ kind ∧ kind ≤ 3
  · have hc : kind = 1 ∨ kind = 2 ∨ kind = 3 := by omega
    rcases hc with rfl | rfl | rfl
    · rw [terOk_1]
      by_cases h : ta = 0 ∧ els = 0
      · exact goodTerm_loop 1 ta to els n low bl w [to] _ rfl (by simp) (by decide) (by decide) (fun _ => h) (fun e => by omega) (fun e => absurd rfl e) (by obtain ⟨rfl, rfl⟩ := h; show _ = _; simp)
      · have e : (ta == 0 && inB low bl to && els == 0) = false := by
          by_cases h1 : ta = 0
          · have : els ≠ 0 := fun e => h ⟨h1, e⟩
            simp [this]
          · simp [h1]
        rw [e]
        exact goodTerm_no 1 ta to els n low bl w (Or.inr (Or.inl ⟨rfl, h⟩))
    · rw [terOk_2]
      by_cases h : 0 ≤ ta ∧ ta < n
      · exact goodTerm_loop 2 ta to els n low bl w [to, els] _ rfl (by simp) (by decide) (by decide) (fun e => by omega) (fun e => by omega) (fun _ => h) (by show _ = _; simp [inB, h.1, h.2])
      · have e : inB 0 n ta = false := by unfold inB; rw [Bool.and_eq_false_iff, decide_eq_false_iff_not, decide_eq_false_iff_not]; omega
        rw [e]
        exact goodTerm_no 2 ta to els n low bl w (by omega)
    · rw [terOk_3]
      by_cases h : 0 ≤ ta ∧ ta < n
      · by_cases h2 : to = 0 ∧ els = 0
        · exact goodTerm_loop 3 ta to els n low bl w [] _ rfl (by simp) (by decide) (by decide) (fun e => by omega) (fun _ => h2) (fun _ => h) (by obtain ⟨rfl, rfl⟩ := h2; show _ = _; simp [inB, h.1, h.2])
        · have e : (inB 0 n ta && to == 0 && els == 0) = false := by
            by_cases h1 : to = 0
            · have : els ≠ 0 := fun e => h2 ⟨h1, e⟩
              simp [this]
            · simp [h1]
          rw [e]
          exact goodTerm_no 3 ta to els n low bl w (by omega)
      · have e : inB 0 n ta = false := by unfold inB; rw [Bool.and_eq_false_iff, decide_eq_false_iff_not, decide_eq_false_iff_not]; omega
        rw [e]
        exact goodTerm_no 3 ta to els n low bl w (by omega)
  · rw [terOk_no hk]
    exact goodTerm_no kind ta to els n low bl w (Or.inl hk)
end Go.Proofs.YtjfcbjomfbfoiaaGreatDoor

namespace Go.Proofs.YtjfcbjomfbfoiaaGreatDoor
open Go.RowKit
set_option maxHeartbeats 400000 in
theorem validImm_any (op dst a b imm : Int) (w : World) :
    Calls Tryz.prog 115 #[.agg #[.int .i64 op, .int .i64 dst, .int .i64 a, .int .i64 b, .int .i64 imm]] w fun e w' => e = .returned (.bool (immOk ⟨op, dst, a, b, imm⟩)) ∧ Below w.heap.size w w' := by
  go_enter Tryz.func115, Tryz.ntmps115
  go_wp2
  all_goals
    go_ret
    refine ⟨ret_bool ?_, balloc (Below.refl _ _) _⟩
    first | (simp [immOk, *]; done) | (simp [immOk, *]; omega)
/-- What the table of the instructions' forms (variable 0) holds. -/
def OpTab (w : World) : Prop := 0 < w.heap.size ∧ ∀ k : Nat, 1 ≤ k → k ≤ 13 → ∃ s, w.cell? ⟨0, k * 5, none⟩ = some (.string s) ∧ w.cell? ⟨0, k * 5 + 1, none⟩ = some (.bool (dB k)) ∧ w.cell? ⟨0, k * 5 + 2, none⟩ = some (.bool (aB k)) ∧
  w.cell? ⟨0, k * 5 + 3, none⟩ = some (.bool (bB k)) ∧ ∃ i, w.cell? ⟨0, k * 5 + 4, none⟩ = some (.bool i)
/-- What the table of the ends' forms (variable 1) holds. -/
def TerTab (w : World) : Prop := 2 < w.heap.size ∧ ∀ k : Nat, 1 ≤ k → k ≤ 3 → ∃ s, w.cell? ⟨2, k * 4, none⟩ = some (.string s) ∧ w.cell? ⟨2, k * 4 + 1, none⟩ = some (.bool ((k : Int) != 1)) ∧ w.cell? ⟨2, k * 4 + 2, none⟩ = some (.bool ((k : Int) != 3)) ∧
  w.cell? ⟨2, k * 4 + 3, none⟩ = some (.bool ((k : Int) == 2))
theorem OpTab.keep {w w' : World} (h : OpTab w) (k : Below w.heap.size w w') : OpTab w' := by
  refine ⟨Nat.lt_of_lt_of_le h.1 k.size, fun i h1 h2 => ?_⟩
  have e := fun o => cell_of (o := o) (k.block 0 h.1)
  obtain ⟨s, c0, c1, c2, c3, j, c4⟩ := h.2 i h1 h2
  exact ⟨s, (e _).trans c0, (e _).trans c1, (e _).trans c2, (e _).trans c3, j, (e _).trans c4⟩
theorem TerTab.keep {w w' : World} (h : TerTab w) (k : Below w.heap.size w w') : TerTab w' := by
  refine ⟨Nat.lt_of_lt_of_le h.1 k.size, fun i h1 h2 => ?_⟩
  have e := fun o => cell_of (o := o) (k.block 2 h.1)
  obtain ⟨s, c0, c1, c2, c3⟩ := h.2 i h1 h2
  exact ⟨s, (e _).trans c0, (e _).trans c1, (e _).trans c2, (e _).trans c3⟩
set_option maxHeartbeats 1000000 in
theorem validInstr_gen (op dst a b imm n most : Int) (w : World) (hm : most ≤ 13) (hT : Hid (OpTab w)) :
    Calls Tryz.prog 93 #[.agg #[.int .i64 op, .int .i64 dst, .int .i64 a, .int .i64 b, .int .i64 imm], .int .i64 most, .int .i64 n] w fun e w' => e = .returned (.bool (insOk n most ⟨op, dst, a, b, imm⟩)) ∧ Below w.heap.size w w' := by
  by_cases h : 1 ≤ op ∧ op ≤ most
  · obtain ⟨h1, h2⟩ := h
    obtain ⟨k, rfl⟩ := Int.eq_ofNat_of_zero_le (show 0 ≤ op by omega)
    have hz := hT.out.1
    obtain ⟨s, c0, c1, c2, c3, j, c4⟩ := hT.out.2 k (by omega) (by omega)
    have hR : Hid (insOk n most ⟨k, dst, a, b, imm⟩ = (fld (dB k) dst 0 n && fld (aB k) a 0 n && fld (bB k) b 0 n && immOk ⟨k, dst, a, b, imm⟩)) := by
      show _ = _
      unfold insOk
      rw [decide_eq_true h1, decide_eq_true h2]
      simp
    generalize dB (k : Int) = uD at *
    generalize aB (k : Int) = uA at *
    generalize bB (k : Int) = uB at *
    have hk13 : (k : Int) ≤ 13 := by omega
    go_enter Tryz.func93, Tryz.ntmps93
    go_wp2_with (first | (go_at_call 95; refine (validField_any _ _ _ _ _).mono ?_; rintro e w2 ⟨rfl, hw2⟩; rw [hw2]; clear hw2 w2) | (go_at_call 115; refine (validImm_any _ _ _ _ _ _).mono ?_; rintro e w2 ⟨rfl, hb2⟩))
    all_goals
      go_ret
      refine ⟨ret_bool ?_, ?_⟩
      · rw [hR.out]; simp [*]
      · first | exact bnext (balloc (balloc (Below.refl _ _) _) _) hb2 | exact balloc (balloc (Below.refl _ _) _) _
  · have hn : ∃ r, r = insOk n most ⟨op, dst, a, b, imm⟩ ∧ r = false := ⟨_, rfl, by
      unfold insOk
      by_cases h1 : 1 ≤ op
      · rw [decide_eq_false (p := op ≤ most) (by omega)]; simp
      · rw [decide_eq_false (p := 1 ≤ op) h1]; simp⟩
    obtain ⟨r, hr, rfl⟩ := hn
    rw [← hr]
    clear hr
    have h' : op < 1 ∨ (1 ≤ op ∧ most < op) := by omega
    clear h
    rcases h' with h' | ⟨h', h''⟩
    all_goals
      go_enter Tryz.func93, Tryz.ntmps93
      go_wp2
      all_goals
        go_ret
        exact ⟨rfl, balloc (Below.refl _ _) _⟩
theorem validInstr_any (op dst a b imm n : Int) (w : World) (hT : Hid (OpTab w)) :
    Calls Tryz.prog 93 #[.agg #[.int .i64 op, .int .i64 dst, .int .i64 a, .int .i64 b, .int .i64 imm], .int .i64 10, .int .i64 n] w fun e w' => e = .returned (.bool (insOk n 10 ⟨op, dst, a, b, imm⟩)) ∧ Below w.heap.size w w' :=
  validInstr_gen op dst a b imm n 10 w (by decide) hT
set_option maxHeartbeats 1000000 in
theorem validTerm_any (kind ta to els n low bl : Int) (w : World) (hT : Hid (TerTab w)) :
    Calls Tryz.prog 92 #[.agg #[.int .i64 kind, .int .i64 ta, .int .i64 to, .int .i64 els], .int .i64 n, .int .i64 low, .int .i64 bl] w fun e w' => e = .returned (.bool (terOk n low bl ⟨kind, ta, to, els⟩)) ∧ Below w.heap.size w w' := by
  by_cases h : 1 ≤ kind ∧ kind ≤ 3
  · obtain ⟨h1, h2⟩ := h
    obtain ⟨k, rfl⟩ := Int.eq_ofNat_of_zero_le (show 0 ≤ kind by omega)
    have hz := hT.out.1
    obtain ⟨s, c0, c1, c2, c3⟩ := hT.out.2 k (by omega) (by omega)
    have hR : Hid (terOk n low bl ⟨k, ta, to, els⟩ = (fld ((k : Int) != 1) ta 0 n && fld ((k : Int) != 3) to low bl && fld ((k : Int) == 2) els low bl)) := by
      show _ = _
      unfold terOk
      rw [decide_eq_true h1, decide_eq_true h2]
      simp
    generalize ((k : Int) != 1) = uA at *
    generalize ((k : Int) != 3) = uT at *
    generalize ((k : Int) == 2) = uE at *
    go_enter Tryz.func92, Tryz.ntmps92
    go_wp2_with (go_at_call 95; refine (validField_any _ _ _ _ _).mono ?_; rintro e w2 ⟨rfl, hw2⟩; rw [hw2]; clear hw2 w2)
    all_goals
      go_ret
      refine ⟨ret_bool ?_, ?_⟩
      · rw [hR.out]; simp [*]
      · exact balloc (balloc (Below.refl _ _) _) _
  · have hn : ∃ r, r = terOk n low bl ⟨kind, ta, to, els⟩ ∧ r = false := ⟨_, rfl, terOk_no h⟩
    obtain ⟨r, hr, rfl⟩ := hn
    rw [← hr]
    clear hr
    have h' : kind < 1 ∨ 3 < kind := by omega
    clear h
    go_enter Tryz.func92, Tryz.ntmps92
    go_wp2
    all_goals
      go_ret
      exact ⟨rfl, balloc (Below.refl _ _) _⟩
set_option maxHeartbeats 400000 in
theorem targetsI_any (t : Ter) (w : World) :
    Calls Tryz.prog 74 #[.agg #[.int .i64 t.kind, .int .i64 t.a, .int .i64 t.to, .int .i64 t.els]] w fun e w' => ∃ a c, e = .returned (.slice a t.targets.length c) ∧ Below w.heap.size w w' ∧ IntsAt w' w.heap.size w'.heap.size a t.targets := by
  obtain ⟨kind, ta, to, els⟩ := t
  by_cases h1 : kind = 1
  · subst h1
    go_enter Tryz.func74, Tryz.ntmps74
    go_wp2
    go_ret
    refine ⟨_, _, rfl, balloc (balloc (Below.refl _ _) _) _, fun i hi => ?_⟩
    simp [Ter.targets] at hi
    subst hi
    exact ⟨_, _, rfl, ⟨by simp, by simp⟩, by simp [Ter.targets]⟩
  · by_cases h2 : kind = 2
    · subst h2
      go_enter Tryz.func74, Tryz.ntmps74
      go_wp2
      go_ret
      refine ⟨_, _, rfl, balloc (balloc (Below.refl _ _) _) _, fun i hi => ?_⟩
      simp [Ter.targets] at hi
      match i, hi with
      | 0, _ => exact ⟨_, _, rfl, ⟨by simp, by simp⟩, by simp [Ter.targets]⟩
      | 1, _ => exact ⟨_, _, rfl, ⟨by simp, by simp⟩, by simp [Ter.targets]⟩
    · have e1 : (kind == 1) = false := by simp [h1]
      have e2 : (kind == 2) = false := by simp [h2]
      have hn : (Ter.targets ⟨kind, ta, to, els⟩) = [] := by simp [Ter.targets, h1, h2]
      rw [hn]
      clear h1 h2 hn
      go_enter Tryz.func74, Tryz.ntmps74
      go_wp2
      go_ret
      exact ⟨_, _, rfl, balloc (Below.refl _ _) _, fun i hi => absurd hi (by simp)⟩
end Go.Proofs.YtjfcbjomfbfoiaaGreatDoor

namespace Go.Proofs.YtjfcbjomfbfoiaaGreatDoor
open Go.RowKit
def hasI (xs : List Int) (x : Int) : Bool := xs.contains x
set_option maxHeartbeats 400000 in
theorem l1Has_any (a : Option Addr) (n c : Nat) (x : Int) (xs : List Int) (L B : Nat) (w : World) (ha : Hid (IntsAt w L B a xs)) (hx : Hid (n = xs.length)) (hn : n ≤ 1048576) :
    Calls Tryz.prog 29 #[.slice a n c, .int .i64 x] w fun e w' => e = .returned (.bool (hasI xs x)) ∧ w' = w := by
  go_enter Tryz.func29, Tryz.ntmps29
  go_wp2
  go_loop [5] (fun i => ∃ k : Nat, k ≤ n ∧ i = .int .i64 k ∧ Hid (∀ j (h : j < xs.length), j < k → xs[j] ≠ x)) (fun i => n - (intOf i).toNat)
  case atStart => exact ⟨0, Nat.zero_le _, rfl, fun j hj h => absurd h (by omega)⟩
  case round =>
    obtain ⟨k, hk, rfl, hno⟩ := hrel
    by_cases hlt : k < n
    · have hkx : k < xs.length := by have := hx.out; omega
      obtain ⟨b, o, rfl, _, hc⟩ := ha.out k hkx
      by_cases he : xs[k] = x
      · have hb : (xs[k] == x) = true := by simp [he]
        have HE := hide he
        clear he
        go_wp2
        go_ret
        exact ⟨ret_bool (by unfold hasI; rw [eq_comm, List.contains_iff_mem, ← HE.out]; exact List.getElem_mem hkx), rfl⟩
      · have hb : (xs[k] == x) = false := by simp [he]
        have HE := hide he
        clear he
        go_wp2
        go_round
        case rel => exact ⟨k + 1, by omega, by go_num, fun j hj h => if e : j = k then by subst e; exact HE.out else hno.out j hj (by omega)⟩
        case measure => simp [intOf]; omega
    · go_wp2
      go_ret
      exact ⟨ret_bool (by
        rw [eq_comm, Bool.eq_false_iff]
        intro hc
        obtain ⟨j, hj, e⟩ := List.getElem_of_mem (List.contains_iff_mem.1 (show xs.contains x = true from hc))
        exact hno.out j hj (by have := hx.out; omega) e), rfl⟩
theorem targets_has (t : Ter) (b : Int) : t.targets.contains b = true ↔ (t.kind = 1 ∧ t.to = b) ∨ (t.kind = 2 ∧ (t.to = b ∨ t.els = b)) := by
  unfold Ter.targets
  by_cases h1 : t.kind = 1
  · rw [if_pos h1]
    simp only [h1, true_and, List.contains_iff_mem, List.mem_singleton]
    constructor
    · intro h; exact Or.inl h.symm
    · rintro (h | ⟨h, _⟩)
      · exact h.symm
      · omega
  · rw [if_neg h1]
    by_cases h2 : t.kind = 2
    · rw [if_pos h2]
      simp only [h2, true_and, List.contains_iff_mem, List.mem_cons, List.not_mem_nil, or_false]
      constructor
      · rintro (h | h)
        · exact Or.inr (Or.inl h.symm)
        · exact Or.inr (Or.inr h.symm)
      · rintro (⟨h, _⟩ | h | h)
        · omega
        · exact Or.inl h.symm
        · exact Or.inr h.symm
    · rw [if_neg h2]
      simp [h1, h2]
theorem predsFrom_snoc (x : Blk) (b : Int) : ∀ (xs : List Blk) (i : Nat), predsFrom (xs ++ [x]) i b = predsFrom xs i b ++ (if x.term.targets.contains b then [((i + xs.length : Nat) : Int)] else [])
  | [], i => by simp [predsFrom]
  | y :: ys, i => by
    simp only [List.cons_append, predsFrom]
    have e : i + 1 + ys.length = i + (ys.length + 1) := by omega
    rw [predsFrom_snoc x b ys (i + 1), List.append_assoc, e, List.length_cons]
theorem predsFrom_len (b : Int) : ∀ (xs : List Blk) (i : Nat), (predsFrom xs i b).length ≤ xs.length
  | [], _ => Nat.le_refl _
  | y :: ys, i => by
    simp only [predsFrom, List.length_append, List.length_cons]
    have := predsFrom_len b ys (i + 1)
    split <;> simp <;> omega
/-- A row of numbers that the call owns, read as numbers. -/
theorem ints_owned {w : World} {base e : Nat} {v : Value} {n : Nat} {xs : List Int} (h : w.ownsRow base e 1 v n (xs.map (Value.int .i64))) : ∃ a c, v = .slice a xs.length c ∧ IntsAt w base w.heap.size a xs := by
  obtain ⟨hl, h | ⟨g, cap, cur, rfl, hg, hh, hc, _, hs, ht⟩⟩ := h
  · obtain ⟨rfl, rfl⟩ := h
    have : xs = [] := by simpa using hl
    subst this
    exact ⟨_, _, rfl, fun i hi => absurd hi (by simp)⟩
  · simp only [Nat.mul_one, List.length_map] at hl hs ht
    subst hl
    refine ⟨_, _, rfl, fun i hi => ⟨g, 0, rfl, ⟨hg, ?_⟩, ?_⟩⟩
    · exact (Array.getElem?_eq_some_iff.1 hh).1
    · have h1 : (cur.toList.take xs.length)[i]? = some (Value.int .i64 xs[i]) := by rw [ht]; simp [hi]
      rw [List.getElem?_take_of_lt hi] at h1
      simp only [World.cell?, hh, Nat.zero_add]
      simpa using h1
theorem Tryz.info2' : (Tryz.prog.info? 2).map (fun i => (i.zero, i.size, i.bytes)) = some (some (.int .i64 0), 1, 8) := by kernel_rfl
/-- Behind an append to a row of the call's own. -/
theorem grown_block {W w' : World} {base e s : Nat} {u : Value} {n : Nat} {xs : List Value} (hg : W.grownBy w' u.ownBlock) (ho : W.ownsRow base e s u n xs) {b : Nat} (hb : b < base) (hz : b < W.heap.size) : w'.heap[b]? = W.heap[b]? :=
  hg.block b hz (fun h => by have := (ho.lt b h.symm).1; omega)
theorem grown_below {w W w' : World} {B base e s : Nat} {u : Value} {n : Nat} {xs : List Value} (h : Below B w W) (hg : W.grownBy w' u.ownBlock) (ho : W.ownsRow base e s u n xs) (hb : B ≤ base) (hz : B ≤ W.heap.size) : Below B w w' :=
  h.grown hg hz (fun k hk => by have := (ho.lt k hk).1; omega)
theorem own_empty (w : World) (o : Obj) : ((w.alloc o).alloc (.cells #[] 2)).ownsRow (w.heap.size + 1) 2 1 (.slice (some ⟨w.heap.size + 1, 0, none⟩) 0 0) 0 [] := by
  have h := World.ownsRow_lit (base := w.heap.size + 1) (e := 2) (size := 1) (w.alloc o) #[] 0 (by simp) (by simp) rfl
  rw [World.size_alloc] at h
  exact h
theorem ints_snoc (xs : List Int) (x : Int) : (xs ++ [x]).map (Value.int .i64) = xs.map (Value.int .i64) ++ [.int .i64 x] := by simp
set_option maxHeartbeats 1000000 in
theorem l1Preds_any (v : Int) (a : Option Addr) (n c : Nat) (q : Int) (xs : List Blk) (L B : Nat) (w : World) (ha : Hid (BlksAt w L B a xs)) (hx : Hid (n = xs.length)) (hn : n ≤ 1048576) (hB : B ≤ w.heap.size) :
    Calls Tryz.prog 54 #[.agg #[.int .i64 v, .slice a n c], .int .i64 q] w fun e w' => ∃ a' c', e = .returned (.slice a' (predsFrom xs 0 q).length c') ∧ Below w.heap.size w w' ∧ IntsAt w' w.heap.size w'.heap.size a' (predsFrom xs 0 q) := by
  obtain ⟨i0, hi0, hz0, hz1, hz2⟩ := info_parts Tryz.info2'
  go_enter Tryz.func54, Tryz.ntmps54
  go_wp2
  go_loopw [5, 6] (fun u i wr => ∃ k : Nat, k ≤ n ∧ i = .int .i64 k ∧ Below w.heap.size w wr ∧ w.heap.size < wr.heap.size ∧ wr.cell? ⟨w.heap.size, 1, none⟩ = some (.slice a n c) ∧ wr.ownsRow (w.heap.size + 1) 2 1 u (predsFrom (xs.take k) 0 q).length ((predsFrom (xs.take k) 0 q).map (Value.int .i64))) (fun _ i _ => n - (intOf i).toNat)
  case atStart => exact ⟨0, Nat.zero_le _, rfl, balloc (balloc (Below.refl _ _) _) _, by simp; omega, by simp, own_empty _ _⟩
  case round =>
    obtain ⟨k, hk, rfl, hw, hsz, hcell, hown⟩ := hrel
    by_cases hlt : k < n
    · have hkx : k < xs.length := by have := hx.out; omega
      obtain ⟨b, o, rfl, ⟨_, hbB⟩, hc⟩ := ha.out k hkx
      obtain ⟨pa, pc, ia, ic, _, _, ⟨e2, e3, e4, e5⟩, _, _⟩ := hc.keep (hw.mono hB) (by omega)
      have hnx : Hid (predsFrom (xs.take (k + 1)) 0 q = predsFrom (xs.take k) 0 q ++ (if xs[k].term.targets.contains q then [(k : Int)] else [])) := by
        show _ = _
        rw [take_next _ _ hkx, predsFrom_snoc]
        simp [Nat.min_eq_left (Nat.le_of_lt hkx)]
      have hpl : (predsFrom (xs.take k) 0 q).length ≤ 1048576 := by have := predsFrom_len q (xs.take k) 0; simp at this; omega
      have HO := hide hown
      clear hown hc
      have hth := hide (targets_has xs[k].term q)
      generalize xs[k] = X at *
      by_cases hin : X.term.targets.contains q = true
      · have HN : Hid (predsFrom (xs.take (k + 1)) 0 q = predsFrom (xs.take k) 0 q ++ [(k : Int)]) := by have := hnx.out; rw [if_pos hin] at this; exact this
        have hcs := hth.out.1 hin
        clear hin hnx hth
        generalize predsFrom (xs.take k) 0 q = ps at *
        have hcs' : (X.term.kind = 1 ∧ X.term.to = q) ∨ (X.term.kind = 2 ∧ X.term.to = q) ∨ (X.term.kind = 2 ∧ X.term.to ≠ q ∧ X.term.els = q) := by omega
        clear hcs
        rcases hcs' with ⟨d1, d2⟩ | ⟨d1, d2⟩ | ⟨d1, d3, d2⟩
        all_goals
          go_wp2_with (at_builtin; refine wpList_append_own _ rfl _ _ 52 rfl (w.heap.size + 1) 2 i0 (.int .i64 0) 1 8 Tryz.underlying52 hi0 hz0 hz1 hz2 rfl (by decide) _ _ _ rfl ((HO.out.alloc _).alloc _) ⟨wr.heap.size + 1, 0, none⟩ 1 1 [.int .i64 k] rfl rfl ?c1 ?c2 ?c3 ?c4 ?c5 ?_)
          case c1 =>
            intro j u hj
            match j, hj with
            | 0, hj => simp at hj; subst hj; simp [Addr.add]
          case c2 => intro u hu; simp at hu; subst hu; rfl
          case c3 => unfold maxLen; omega
          case c4 => omega
          case c5 => simp; omega
          intro v1 w1 hown1 hgrow1 _
          have HO1 := hide hown1
          clear hown1
          go_wp2
          have hb2 : Below w.heap.size w w1 := grown_below (balloc (balloc hw _) _) hgrow1 ((HO.out.alloc _).alloc _) (by omega) (by simp; omega)
          have hbk := grown_block hgrow1 ((HO.out.alloc _).alloc _) (b := w.heap.size) (by omega) (by simp; omega)
          have hsz1 := hgrow1.size
          simp at hsz1
          exact ⟨⟨k + 1, by omega, by go_num, hb2, by omega, (cell_of hbk).trans (((balloc (balloc (Below.refl wr.heap.size wr) _) _).cell (p := ⟨w.heap.size, 1, none⟩) hsz).trans hcell), by rw [HN.out, ints_snoc]; simpa using HO1.out⟩, by simp [intOf]; omega⟩
      · have HN : Hid (predsFrom (xs.take (k + 1)) 0 q = predsFrom (xs.take k) 0 q) := by have := hnx.out; rw [if_neg hin, List.append_nil] at this; exact this
        have hcs : ¬ ((X.term.kind = 1 ∧ X.term.to = q) ∨ (X.term.kind = 2 ∧ (X.term.to = q ∨ X.term.els = q))) := fun h => hin (hth.out.2 h)
        clear hin hnx hth
        generalize predsFrom (xs.take k) 0 q = ps at *
        have hcs' : (X.term.kind = 1 ∧ (X.term.to == q) = false) ∨ (X.term.kind = 2 ∧ (X.term.to == q) = false ∧ (X.term.els == q) = false) ∨ ((X.term.kind == 1) = false ∧ (X.term.kind == 2) = false) := by
          simp only [beq_eq_false_iff_ne]; omega
        clear hcs
        rcases hcs' with ⟨d1, d2⟩ | ⟨d1, d2, d3⟩ | ⟨d1, d2⟩
        all_goals
          go_wp2
          exact ⟨⟨k + 1, by omega, by go_num, balloc hw _, by simp; omega, ((balloc (Below.refl wr.heap.size wr) _).cell (p := ⟨w.heap.size, 1, none⟩) hsz).trans hcell, by rw [HN.out]; exact HO.out.alloc _⟩, by simp [intOf]; omega⟩
    · go_wp2
      go_ret
      have e := List.take_of_length_le (l := xs) (i := k) (by have := hx.out; omega)
      rw [e] at hown
      obtain ⟨a1, c1, rfl, hi1⟩ := ints_owned hown
      exact ⟨_, _, rfl, hw, hi1.mono (by omega) (Nat.le_refl _)⟩
end Go.Proofs.YtjfcbjomfbfoiaaGreatDoor
