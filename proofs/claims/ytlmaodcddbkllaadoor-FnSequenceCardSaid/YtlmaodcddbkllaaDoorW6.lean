import Derived.Test.YtlmaodcddbkllaaDoorW5
import Derived.Test.YtlmaodcddbkllaaDoorMem
namespace Go.Proofs.YtlmaodcddbkllaaDoor
open Go.RowKit

theorem ret_slice {a a' : Option Addr} {n n' c c' : Nat} (h : a = a') (k : n = n') (l : c = c') : Ending.returned (.slice a n c) = .returned (.slice a' n' c') := by rw [h, k, l]

set_option maxHeartbeats 400000 in
theorem targetsS_any (t : Ter) (w : World) :
    Calls Tryd.prog 120 #[.agg #[.int .i64 t.kind, .int .i64 t.a, .int .i64 t.to, .int .i64 t.els]] w fun e w' => ∃ a c, e = .returned (.slice a t.targets.length c) ∧ Below w.heap.size w w' ∧ IntsAt w' w.heap.size w'.heap.size a t.targets := by
  obtain ⟨kind, ta, to, els⟩ := t
  by_cases h1 : kind = 1
  · subst h1
    go_enter Tryd.func120, Tryd.ntmps120
    go_wp2
    go_ret
    refine ⟨_, _, rfl, balloc (balloc (Below.refl _ _) _) _, fun i hi => ?_⟩
    simp [Ter.targets] at hi
    subst hi
    exact ⟨_, _, rfl, ⟨by simp, by simp⟩, by simp [Ter.targets]⟩
  · by_cases h2 : kind = 2
    · subst h2
      go_enter Tryd.func120, Tryd.ntmps120
      go_wp2
      go_ret
      refine ⟨_, _, rfl, balloc (balloc (Below.refl _ _) _) _, fun i hi => ?_⟩
      simp [Ter.targets] at hi
      match i, hi with
      | 0, _ => exact ⟨_, _, rfl, ⟨by simp, by simp⟩, by simp [Ter.targets]⟩
      | 1, _ => exact ⟨_, _, rfl, ⟨by simp, by simp⟩, by simp [Ter.targets]⟩
    · have e1 : (kind == 1) = false := by simp [h1]
      have e2 : (kind == 2) = false := by simp [h2]
      have hn : (Ter.targets ⟨kind, ta, to, els⟩) = [] := by simp [Ter.targets, h1, h2]
      rw [hn]
      clear h1 h2 hn
      go_enter Tryd.func120, Tryd.ntmps120
      go_wp2
      go_ret
      exact ⟨_, _, rfl, balloc (balloc (Below.refl _ _) _) _, fun i hi => absurd hi (by simp)⟩
end Go.Proofs.YtlmaodcddbkllaaDoor
