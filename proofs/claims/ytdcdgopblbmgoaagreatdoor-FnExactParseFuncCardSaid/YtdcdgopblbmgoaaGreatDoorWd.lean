import Derived.Test.YtdcdgopblbmgoaaGreatDoorStr
import Derived.Test.YtdcdgopblbmgoaaGreatDoorW1
import Derived.Test.YtdcdgopblbmgoaaGreatDoorPG
import Derived.Laws.Strings2
/-
  l1Word of the model.
-/
namespace Go.Proofs.YtdcdgopblbmgoaaGreatDoor
open Go.RowKit

def wordS (op : Int) : List UInt8 :=
  if op = 1 then [99, 111, 110, 115, 116] else if op = 2 then [97, 114, 103] else if op = 3 then [97, 100, 100] else if op = 4 then [115, 117, 98] else if op = 5 then [109, 117, 108]
  else if op = 6 then [100, 105, 118] else if op = 7 then [108, 101, 115, 115] else if op = 8 then [108, 111, 97, 100] else if op = 9 then [115, 116, 111, 114, 101] else if op = 11 then [109, 111, 118, 101] else if op = 12 then [112, 117, 116] else if op = 13 then [103, 101, 116] else [111, 117, 116]

set_option maxHeartbeats 1000000 in
theorem l1Word_any (op : Int) (h : 1 ≤ op ∧ op ≤ 13) (w : World) :
    Calls Tryz.prog 50 #[.int .i64 op] w fun e w' => e = .returned (.string (strOf (wordS op))) ∧ w' = w := by
  have hc : op = 1 ∨ op = 2 ∨ op = 3 ∨ op = 4 ∨ op = 5 ∨ op = 6 ∨ op = 7 ∨ op = 8 ∨ op = 9 ∨ op = 10 ∨ op = 11 ∨ op = 12 ∨ op = 13 := by omega
  rcases hc with rfl | rfl | rfl | rfl | rfl | rfl | rfl | rfl | rfl | rfl | rfl | rfl | rfl
  all_goals
    clear h
    go_enter Tryz.func50, Tryz.ntmps50
    go_wp2
    go_ret
    exact ⟨rfl, rfl⟩
end Go.Proofs.YtdcdgopblbmgoaaGreatDoor

/-
  l1OpOf, l1IsEnd of the model.
-/
namespace Go.Proofs.YtdcdgopblbmgoaaGreatDoor
open Go.RowKit

/-- The first operation from k on whose word it is, or 0. -/
def opFrom (w : List UInt8) : Nat → Nat → Int
  | 0, _ => 0
  | n + 1, k => if wordS k = w then k else opFrom w n (k + 1)
def opOf (w : List UInt8) : Int := opFrom w 10 1
theorem strOf_inj {a b : List UInt8} : strOf a = strOf b ↔ a = b := ⟨fun h => by
  have := congrArg (fun s : ByteArray => s.data.toList) h
  simpa [strOf] using this, fun h => by rw [h]⟩

theorem strOf_toList (f : List UInt8) : (strOf f).toList = f := by rw [ByteArray.toList_eq]; rfl
theorem opFrom_step (w : List UInt8) (n k : Nat) : opFrom w (n + 1) k = if wordS k = w then (k : Int) else opFrom w n (k + 1) := rfl

set_option maxHeartbeats 1000000 in
theorem l1OpOf_any (f : List UInt8) (w : World) :
    Calls Tryz.prog 28 #[.string (strOf f)] w fun e w' => e = .returned (.int .i64 (opOf f)) ∧ Below w.heap.size w w' := by
  have hts := strOf_toList f
  go_enter Tryz.func28, Tryz.ntmps28
  go_wp2
  go_loopw [3] (fun i wr => ∃ k : Nat, 1 ≤ k ∧ k ≤ 11 ∧ i = .int .i64 k ∧ Hid (Below w.heap.size w wr) ∧ Hid (opOf f = opFrom f (11 - k) k)) (fun i _ => 11 - (intOf i).toNat)
  case atStart => exact ⟨1, by omega, by omega, rfl, hide (Below.refl _ _), hide rfl⟩
  case round =>
    obtain ⟨k, h1, h2, rfl, HB, HO⟩ := hrel
    by_cases hlt : k ≤ 10
    · have hts2 := strOf_toList (wordS k)
      have HS : Hid (opOf f = if wordS k = f then (k : Int) else opFrom f (11 - (k + 1)) (k + 1)) := hide (by
        rw [HO.out, show 11 - k = (11 - (k + 1)) + 1 by omega, opFrom_step])
      have HW := hide (l1Word_any (k : Int) ⟨by omega, by omega⟩ wr)
      by_cases he : wordS k = f
      · have HV : Hid (opOf f = (k : Int)) := hide (by rw [HS.out, if_pos he])
        go_wp2_with (go_at_call 50; refine HW.out.mono ?_; rintro e w2 ⟨rfl, hw2⟩; rw [hw2]; clear hw2 w2)
        go_ret
        exact ⟨ret_int HV.out.symm, HB.out⟩
      · have HV : Hid (opOf f = opFrom f (11 - (k + 1)) (k + 1)) := hide (by rw [HS.out, if_neg he])
        have heb : (wordS k == f) = false := by rw [beq_eq_false_iff_ne]; exact he
        have hk1 : (k : Int) ≤ 10 := by omega
        clear he
        go_wp2_with (go_at_call 50; refine HW.out.mono ?_; rintro e w2 ⟨rfl, hw2⟩; rw [hw2]; clear hw2 w2)
        go_wp2
        exact ⟨⟨k + 1, by omega, by omega, by go_num, HB, HV⟩, by simp [intOf]; omega⟩
    · have hk : k = 11 := by omega
      subst hk
      have HV : Hid (opOf f = 0) := hide (by rw [HO.out]; rfl)
      go_wp2
      go_ret
      exact ⟨ret_int HV.out.symm, HB.out⟩

/-- The word of an end. -/
def isEnd (f : List UInt8) : Bool := f == [106, 117, 109, 112] || f == [98, 114, 97, 110, 99, 104] || f == [114, 101, 116]
theorem l1IsEnd_any (f : List UInt8) (w : World) :
    Calls Tryz.prog 17 #[.string (strOf f)] w fun e w' => e = .returned (.bool (isEnd f)) ∧ Below w.heap.size w w' := by
  have hts := strOf_toList f
  have HV : Hid (isEnd f = (f == [106, 117, 109, 112] || f == [98, 114, 97, 110, 99, 104] || f == [114, 101, 116])) := hide rfl
  go_enter Tryz.func17, Tryz.ntmps17
  go_wp2
  all_goals
    go_ret
    refine ⟨ret_bool (Eq.trans ?_ HV.out.symm), Below.refl _ _⟩
    first | rfl | simp [*]
end Go.Proofs.YtdcdgopblbmgoaaGreatDoor
