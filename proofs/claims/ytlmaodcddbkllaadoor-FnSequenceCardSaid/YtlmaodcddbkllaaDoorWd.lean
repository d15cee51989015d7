import Derived.Test.YtlmaodcddbkllaaDoorStr
import Derived.Test.YtlmaodcddbkllaaDoorW1
/-
  l1Word of the model.
-/
namespace Go.Proofs.YtlmaodcddbkllaaDoor
open Go.RowKit

def wordS (op : Int) : List UInt8 :=
  if op = 1 then [99, 111, 110, 115, 116] else if op = 2 then [97, 114, 103] else if op = 3 then [97, 100, 100] else if op = 4 then [115, 117, 98] else if op = 5 then [109, 117, 108]
  else if op = 6 then [100, 105, 118] else if op = 7 then [108, 101, 115, 115] else if op = 8 then [108, 111, 97, 100] else if op = 9 then [115, 116, 111, 114, 101] else if op = 11 then [109, 111, 118, 101] else if op = 12 then [112, 117, 116] else if op = 13 then [103, 101, 116] else [111, 117, 116]

set_option maxHeartbeats 1000000 in
theorem l1Word_any (op : Int) (h : 1 ≤ op ∧ op ≤ 13) (w : World) :
    Calls Tryd.prog 190 #[.int .i64 op] w fun e w' => e = .returned (.string (strOf (wordS op))) ∧ w' = w := by
  have hc : op = 1 ∨ op = 2 ∨ op = 3 ∨ op = 4 ∨ op = 5 ∨ op = 6 ∨ op = 7 ∨ op = 8 ∨ op = 9 ∨ op = 10 ∨ op = 11 ∨ op = 12 ∨ op = 13 := by omega
  rcases hc with rfl | rfl | rfl | rfl | rfl | rfl | rfl | rfl | rfl | rfl | rfl | rfl | rfl
  all_goals
    clear h
    go_enter Tryd.func190, Tryd.ntmps190
    go_wp2
    go_ret
    exact ⟨rfl, rfl⟩
end Go.Proofs.YtlmaodcddbkllaaDoor
