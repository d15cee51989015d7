import Derived.Test.YtlmaodcddbkllaaDoorPure2
import Derived.BigQuiet
namespace Go.Proofs.YtlmaodcddbkllaaDoor
open Go.RowKit

/-- Which fields an instruction uses, in letters. -/
def usesS (op : Int) : ByteArray :=
  if op = 1 then ⟨#[100, 105]⟩ else if op = 2 then ⟨#[100, 105]⟩ else if 3 ≤ op ∧ op ≤ 7 then ⟨#[100, 97, 98]⟩ else if op = 8 then ⟨#[100, 97]⟩ else if op = 11 then ⟨#[100, 97]⟩
  else if op = 9 then ⟨#[97, 98]⟩ else if op = 10 then ⟨#[97]⟩ else if op = 12 then ⟨#[97]⟩ else if op = 13 then ⟨#[100]⟩ else ⟨#[]⟩

theorem ret_string {a b : ByteArray} (h : a = b) : Ending.returned (.string a) = .returned (.string b) := by rw [h]

set_option maxHeartbeats 1000000 in
theorem l1Uses_any (op : Int) (w : World) :
    Calls Tryd.prog 171 #[.int .i64 op] w fun e w' => e = .returned (.string (usesS op)) ∧ w' = w := by
  by_cases h : 1 ≤ op ∧ op ≤ 13
  · have hc : op = 1 ∨ op = 2 ∨ op = 3 ∨ op = 4 ∨ op = 5 ∨ op = 6 ∨ op = 7 ∨ op = 8 ∨ op = 9 ∨ op = 10 ∨ op = 11 ∨ op = 12 ∨ op = 13 := by omega
    rcases hc with rfl | rfl | rfl | rfl | rfl | rfl | rfl | rfl | rfl | rfl | rfl | rfl | rfl
    all_goals
      clear h
      go_enter Tryd.func171, Tryd.ntmps171
      go_wp2
      go_ret
      exact ⟨rfl, rfl⟩
  · have h1 : (op == 1) = false := by simp; omega
    have h2 : (op == 2) = false := by simp; omega
    have h3 : (op == 3) = false := by simp; omega
    have h4 : (op == 4) = false := by simp; omega
    have h5 : (op == 5) = false := by simp; omega
    have h6 : (op == 6) = false := by simp; omega
    have h7 : (op == 7) = false := by simp; omega
    have h8 : (op == 8) = false := by simp; omega
    have h9 : (op == 9) = false := by simp; omega
    have h10 : (op == 10) = false := by simp; omega
    have h11 : (op == 11) = false := by simp; omega
    have h12 : (op == 12) = false := by simp; omega
    have h13 : (op == 13) = false := by simp; omega
    have hu : Hid (usesS op = ⟨#[]⟩) := by
      show _ = _
      unfold usesS
      rw [if_neg (by omega), if_neg (by omega), if_neg (by omega), if_neg (by omega), if_neg (by omega), if_neg (by omega), if_neg (by omega), if_neg (by omega), if_neg (by omega)]
    clear h
    go_enter Tryd.func171, Tryd.ntmps171
    go_wp2
    go_ret
    exact ⟨ret_string hu.out.symm, rfl⟩

def hasB (s : ByteArray) (f : Int) : Bool := s.data.toList.any fun c => (c.toNat : Int) == f
theorem hasB_yes {s : ByteArray} {f : Int} {k : Nat} (hk : k < s.size) (h : (s[k].toNat : Int) = f) : hasB s f = true := by
  unfold hasB
  rw [List.any_eq_true]
  exact ⟨s[k], by rw [Array.mem_toList_iff]; exact Array.getElem_mem hk, by simp [h]⟩
theorem hasB_no {s : ByteArray} {f : Int} (h : ∀ j (hj : j < s.size), (s[j].toNat : Int) ≠ f) : hasB s f = false := by
  unfold hasB
  rw [List.any_eq_false]
  intro c hc
  obtain ⟨j, hj, rfl⟩ := Array.mem_iff_getElem.1 (Array.mem_toList_iff.1 hc)
  have := h j hj
  rw [beq_iff_eq]
  exact this
theorem usesS_size (op : Int) : (usesS op).size ≤ 3 := by
  unfold usesS
  repeat (split <;> try decide)

set_option maxHeartbeats 400000 in
theorem l1Used_any (op f : Int) (w : World) :
    Calls Tryd.prog 119 #[.int .i64 op, .int .u8 f] w fun e w' => e = .returned (.bool (hasB (usesS op) f)) ∧ w' = w := by
  go_enter Tryd.func119, Tryd.ntmps119
  go_wp2_with fail
  refine (l1Uses_any _ _).mono ?_
  rintro e w1 ⟨rfl, rfl⟩
  have hs := usesS_size op
  generalize hS : usesS op = s at *
  have HS := hide hS
  clear hS
  go_wp2
  go_loop [6] (fun i => ∃ k : Nat, k ≤ s.size ∧ i = .int .i64 k ∧ Hid (∀ j (hj : j < s.size), j < k → (s[j].toNat : Int) ≠ f)) (fun i => s.size - (intOf i).toNat)
  case atStart => exact ⟨0, Nat.zero_le _, rfl, fun j hj h => absurd h (by omega)⟩
  case round =>
    obtain ⟨k, hk, rfl, hno⟩ := hrel
    by_cases hlt : k < s.size
    · by_cases he : (s[k].toNat : Int) = f
      · have hb : ((s[k].toNat : Int) == f) = true := by simp [he]
        have HE := hide he
        clear he
        go_wp2
        go_ret
        exact ⟨ret_bool (by rw [unhide HS]; exact (hasB_yes hlt HE.out).symm), rfl⟩
      · have hb : ((s[k].toNat : Int) == f) = false := by simp [he]
        have HE := hide he
        clear he
        go_wp2
        go_round
        case rel => exact ⟨k + 1, by omega, by go_num, fun j hj h => if e : j = k then by subst e; exact HE.out else hno.out j hj (by omega)⟩
        case measure => simp [intOf]; omega
    · go_wp2
      go_ret
      exact ⟨ret_bool (by rw [unhide HS]; exact (hasB_no fun j hj => hno.out j hj (by omega)).symm), rfl⟩

theorem hasB_d (op : Int) : hasB (usesS op) 100 = dB op := by
  by_cases h : 1 ≤ op ∧ op ≤ 13
  · have hc : op = 1 ∨ op = 2 ∨ op = 3 ∨ op = 4 ∨ op = 5 ∨ op = 6 ∨ op = 7 ∨ op = 8 ∨ op = 9 ∨ op = 10 ∨ op = 11 ∨ op = 12 ∨ op = 13 := by omega
    rcases hc with rfl | rfl | rfl | rfl | rfl | rfl | rfl | rfl | rfl | rfl | rfl | rfl | rfl <;> rfl
  · unfold usesS
    rw [if_neg (by omega), if_neg (by omega), if_neg (by omega), if_neg (by omega), if_neg (by omega), if_neg (by omega), if_neg (by omega), if_neg (by omega), if_neg (by omega)]
    simp only [hasB, dB]
    rw [decide_eq_false (by omega), decide_eq_false (by omega), decide_eq_false (by omega)]
    rfl
theorem hasB_a (op : Int) : hasB (usesS op) 97 = aB op := by
  by_cases h : 1 ≤ op ∧ op ≤ 13
  · have hc : op = 1 ∨ op = 2 ∨ op = 3 ∨ op = 4 ∨ op = 5 ∨ op = 6 ∨ op = 7 ∨ op = 8 ∨ op = 9 ∨ op = 10 ∨ op = 11 ∨ op = 12 ∨ op = 13 := by omega
    rcases hc with rfl | rfl | rfl | rfl | rfl | rfl | rfl | rfl | rfl | rfl | rfl | rfl | rfl <;> rfl
  · unfold usesS
    rw [if_neg (by omega), if_neg (by omega), if_neg (by omega), if_neg (by omega), if_neg (by omega), if_neg (by omega), if_neg (by omega), if_neg (by omega), if_neg (by omega)]
    simp only [hasB, aB]
    rw [decide_eq_false (by omega)]
    rfl
theorem hasB_b (op : Int) : hasB (usesS op) 98 = bB op := by
  by_cases h : 1 ≤ op ∧ op ≤ 13
  · have hc : op = 1 ∨ op = 2 ∨ op = 3 ∨ op = 4 ∨ op = 5 ∨ op = 6 ∨ op = 7 ∨ op = 8 ∨ op = 9 ∨ op = 10 ∨ op = 11 ∨ op = 12 ∨ op = 13 := by omega
    rcases hc with rfl | rfl | rfl | rfl | rfl | rfl | rfl | rfl | rfl | rfl | rfl | rfl | rfl <;> rfl
  · unfold usesS
    rw [if_neg (by omega), if_neg (by omega), if_neg (by omega), if_neg (by omega), if_neg (by omega), if_neg (by omega), if_neg (by omega), if_neg (by omega), if_neg (by omega)]
    simp only [hasB, bB]
    rw [decide_eq_false (by omega), decide_eq_false (by omega)]
    rfl
theorem usedD (op : Int) (w : World) : Calls Tryd.prog 119 #[.int .i64 op, .int .u8 100] w fun e w' => e = .returned (.bool (dB op)) ∧ w' = w := by rw [← hasB_d]; exact l1Used_any op 100 w
theorem usedA (op : Int) (w : World) : Calls Tryd.prog 119 #[.int .i64 op, .int .u8 97] w fun e w' => e = .returned (.bool (aB op)) ∧ w' = w := by rw [← hasB_a]; exact l1Used_any op 97 w
theorem usedB (op : Int) (w : World) : Calls Tryd.prog 119 #[.int .i64 op, .int .u8 98] w fun e w' => e = .returned (.bool (bB op)) ∧ w' = w := by rw [← hasB_b]; exact l1Used_any op 98 w
end Go.Proofs.YtlmaodcddbkllaaDoor
