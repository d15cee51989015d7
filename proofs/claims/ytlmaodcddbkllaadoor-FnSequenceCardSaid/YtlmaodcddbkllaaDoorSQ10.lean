import Derived.Test.YtlmaodcddbkllaaDoorSQ9
import Derived.Test.YtlmaodcddbkllaaDoorE9
import Derived.Test.YtlmaodcddbkllaaDoorE11a
import Derived.Deep.RegionHeld3
/-
  Sequence: what a copy reads, by the program.
-/
namespace Go.Proofs.YtlmaodcddbkllaaDoor
open Go.RowKit Go.Maps

/-- What a copy reads. -/
def readsI (x : Ins) : List Int := (if aB x.op then [x.a] else []) ++ (if bB x.op then [x.b] else [])
set_option maxHeartbeats 2000000 in
set_option maxRecDepth 100000 in
theorem reads_any (b k : Nat) (dst a bb imm : Int) (w : World) (hi : Hid (InsAt w b 0 ⟨k, dst, a, bb, imm⟩)) (h1 : 1 ≤ k) (h2 : k ≤ 13) (ht : Hid (OpTabW w)) :
    Calls Tryd.prog 132 #[.pointer (some ⟨b, 0, none⟩)] w fun e w' => ∃ v, e = .returned v ∧ Below w.heap.size w w' ∧ w'.ownsRow w.heap.size 2 1 v (readsI ⟨k, dst, a, bb, imm⟩).length ((readsI ⟨k, dst, a, bb, imm⟩).map (Value.int .i64)) := by
  obtain ⟨q0, q1, q2, q3, q4⟩ := hi.out
  simp only at q0 q1 q2 q3 q4
  obtain ⟨c0, c1, c2, c3, c4⟩ := ht.out.2 k h1 h2
  have hz := ht.out.1
  have hbl : b < w.heap.size := World.block_lt_of_cell? w _ q2
  have HRI : Hid (readsI ⟨k, dst, a, bb, imm⟩ = (if aB (k : Int) then [a] else []) ++ (if bB (k : Int) then [bb] else [])) := hide rfl
  generalize readsI ⟨k, dst, a, bb, imm⟩ = vs at *
  generalize dB (k : Int) = uD at *
  generalize aB (k : Int) = uA at *
  generalize bB (k : Int) = uB at *
  generalize iB (k : Int) = uI at *
  have HQ2 := hide q2
  have HQ3 := hide q3
  go_enter Tryd.func132, Tryd.ntmps132
  go_wp2_with fail
  have e1 : (w.alloc (.cells #[.string (strOf (wordS k)), .bool uD, .bool uA, .bool uB, .bool uI] 199)).heap.size = w.heap.size + 1 := by simp
  have g2 : (w.alloc (.cells #[.string (strOf (wordS k)), .bool uD, .bool uA, .bool uB, .bool uI] 199)).cell? ⟨w.heap.size, 2, none⟩ = some (.bool uA) := by simp
  have g3 : (w.alloc (.cells #[.string (strOf (wordS k)), .bool uD, .bool uA, .bool uB, .bool uI] 199)).cell? ⟨w.heap.size, 3, none⟩ = some (.bool uB) := by simp
  have HBW : Hid (Below w.heap.size w (w.alloc (.cells #[.string (strOf (wordS k)), .bool uD, .bool uA, .bool uB, .bool uI] 199))) := hide (balloc (Below.refl _ _) _)
  generalize w.alloc (.cells #[.string (strOf (wordS k)), .bool uD, .bool uA, .bool uB, .bool uI] 199) = W0 at *
  clear q0 q1 q2 q3 q4 c0 c1 c2 c3 c4
  have HE1 := hide e1
  have hlt : w.heap.size < W0.heap.size := by omega
  clear e1
  have KEY : Hid (∀ (ka fa : Option Addr) (W : World), Below W0.heap.size W0 W → ValsAt W W0.heap.size W.heap.size ka ([uA, uB].map Value.bool) → ValsAt W W0.heap.size W.heap.size fa ([⟨b, 2, none⟩, ⟨b, 3, none⟩].map ptrV) → Calls Tryd.prog 176 #[.slice ka 2 2, .slice fa 2 2] W fun e w5 => ∃ a5 c5 m5, e = .returned (.slice a5 m5 c5) ∧ w5.cell? ⟨w.heap.size, 2, none⟩ = some (.bool uA) ∧ w5.cell? ⟨w.heap.size, 3, none⟩ = some (.bool uB) ∧
      Hid (Calls Tryd.prog 147 #[.slice a5 m5 c5] w5 fun e w' => ∃ v, e = .returned v ∧ w'.cell? ⟨w.heap.size, 2, none⟩ = some (.bool uA) ∧ w'.cell? ⟨w.heap.size, 3, none⟩ = some (.bool uB) ∧ Hid (Below w.heap.size w w') ∧ Hid (w'.ownsRow w.heap.size 2 1 v vs.length (vs.map (Value.int .i64))))) := hide (fun ka fa W hW hk hp => by
    have hsz := hW.size
    refine (chosen_any ka fa 2 2 [uA, uB] [⟨b, 2, none⟩, ⟨b, 3, none⟩] W0.heap.size W.heap.size W (Nat.le_refl _) (hide hk) (hide hp) (hide rfl) (by simp)).mono ?_
    rintro e w5 ⟨v5, rfl, hb5, ho5⟩
    have s5 := hb5.size
    have k5 : Below W0.heap.size W0 w5 := bnext hW hb5
    obtain ⟨a5, c5, rfl, hv5⟩ := vals_owned ho5
    rw [List.length_map]
    have hbw : Below w.heap.size w w5 := HBW.out.trans (k5.mono (by omega))
    refine ⟨a5, c5, _, rfl, (k5.cell (p := ⟨w.heap.size, 2, none⟩) hlt).trans g2, (k5.cell (p := ⟨w.heap.size, 3, none⟩) hlt).trans g3, hide ?_⟩
    have r2 := (hbw.cell (p := ⟨b, 2, none⟩) hbl).trans HQ2.out
    have r3 := (hbw.cell (p := ⟨b, 3, none⟩) hbl).trans HQ3.out
    have hb5l : b < w5.heap.size := by omega
    refine (contents_any a5 c5 (keepP [uA, uB] [⟨b, 2, none⟩, ⟨b, 3, none⟩]) vs W.heap.size w5.heap.size w5 (Nat.le_refl _) (hide hv5) (hide ?_) (hide ?_) ?_).mono ?_
    · rw [HRI.out]; cases uA <;> cases uB <;> rfl
    · intro i h h'
      have hvs := HRI.out
      subst hvs
      cases uA <;> cases uB
      · exact absurd h (by simp [keepP])
      · match i, h with
        | 0, _ => exact ⟨hb5l, r3⟩
      · match i, h with
        | 0, _ => exact ⟨hb5l, r2⟩
      · match i, h with
        | 0, _ => exact ⟨hb5l, r2⟩
        | 1, _ => exact ⟨hb5l, r3⟩
    · cases uA <;> cases uB <;> simp [keepP]
    · rintro e w7 ⟨v7, rfl, hb7, ho7⟩
      have k7 := bnext k5 hb7
      exact ⟨v7, rfl, (k7.cell (p := ⟨w.heap.size, 2, none⟩) hlt).trans g2, (k7.cell (p := ⟨w.heap.size, 3, none⟩) hlt).trans g3, hide (HBW.out.trans (k7.mono (by omega))), hide (own_base ho7 (by omega))⟩)
  have HCH1 := hide (KEY.out (some ⟨W0.heap.size, 0, none⟩) (some ⟨W0.heap.size + 1, 0, none⟩) ((W0.alloc (.cells #[.bool uA, .bool uB] 4)).alloc (.cells #[.pointer (some ⟨b, 2, none⟩), .pointer (some ⟨b, 3, none⟩)] 245)).drew (balloc (balloc (Below.refl W0.heap.size W0) _) _).drew (by rw [show ((W0.alloc (.cells #[.bool uA, .bool uB] 4)).alloc (.cells #[.pointer (some ⟨b, 2, none⟩), .pointer (some ⟨b, 3, none⟩)] 245)).drew.heap.size = W0.heap.size + 2 from by show ((W0.alloc (.cells #[.bool uA, .bool uB] 4)).alloc (.cells #[.pointer (some ⟨b, 2, none⟩), .pointer (some ⟨b, 3, none⟩)] 245)).heap.size = _; simp]; exact vals_two1 W0 [.bool uA, .bool uB] 4 [.pointer (some ⟨b, 2, none⟩), .pointer (some ⟨b, 3, none⟩)] 245) (by rw [show ((W0.alloc (.cells #[.bool uA, .bool uB] 4)).alloc (.cells #[.pointer (some ⟨b, 2, none⟩), .pointer (some ⟨b, 3, none⟩)] 245)).drew.heap.size = W0.heap.size + 2 from by show ((W0.alloc (.cells #[.bool uA, .bool uB] 4)).alloc (.cells #[.pointer (some ⟨b, 2, none⟩), .pointer (some ⟨b, 3, none⟩)] 245)).heap.size = _; simp]; exact vals_two2 W0 [.pointer (some ⟨b, 2, none⟩), .pointer (some ⟨b, 3, none⟩)] 245 [.bool uA, .bool uB] 4))
  have HCH2 := hide (KEY.out (some ⟨W0.heap.size + 1, 0, none⟩) (some ⟨W0.heap.size, 0, none⟩) ((W0.alloc (.cells #[.pointer (some ⟨b, 2, none⟩), .pointer (some ⟨b, 3, none⟩)] 245)).alloc (.cells #[.bool uA, .bool uB] 4)).drew (balloc (balloc (Below.refl W0.heap.size W0) _) _).drew (by rw [show ((W0.alloc (.cells #[.pointer (some ⟨b, 2, none⟩), .pointer (some ⟨b, 3, none⟩)] 245)).alloc (.cells #[.bool uA, .bool uB] 4)).drew.heap.size = W0.heap.size + 2 from by show ((W0.alloc (.cells #[.pointer (some ⟨b, 2, none⟩), .pointer (some ⟨b, 3, none⟩)] 245)).alloc (.cells #[.bool uA, .bool uB] 4)).heap.size = _; simp]; exact vals_two2 W0 [.bool uA, .bool uB] 4 [.pointer (some ⟨b, 2, none⟩), .pointer (some ⟨b, 3, none⟩)] 245) (by rw [show ((W0.alloc (.cells #[.pointer (some ⟨b, 2, none⟩), .pointer (some ⟨b, 3, none⟩)] 245)).alloc (.cells #[.bool uA, .bool uB] 4)).drew.heap.size = W0.heap.size + 2 from by show ((W0.alloc (.cells #[.pointer (some ⟨b, 2, none⟩), .pointer (some ⟨b, 3, none⟩)] 245)).alloc (.cells #[.bool uA, .bool uB] 4)).heap.size = _; simp]; exact vals_two1 W0 [.pointer (some ⟨b, 2, none⟩), .pointer (some ⟨b, 3, none⟩)] 245 [.bool uA, .bool uB] 4))
  clear KEY HBW HQ2 HQ3 HRI
  go_region_held3 (fun w' => w'.cell? ⟨w.heap.size, 2, none⟩ = some (.bool uA) ∧ w'.cell? ⟨w.heap.size, 3, none⟩ = some (.bool uB)) (go_keep)
    (first
      | (go_at_call 176; with_reducible refine HCH1.out.mono ?_; rintro e w5 ⟨a5, c5, m5, rfl, f2, f3, HC5⟩)
      | (go_at_call 176; with_reducible refine HCH2.out.mono ?_; rintro e w5 ⟨a5, c5, m5, rfl, f2, f3, HC5⟩)
      | (go_at_call 147; with_reducible refine HC5.out.mono ?_; rintro e w7 ⟨v7, rfl, h2, h3, HB7, HO7⟩))
  all_goals
    go_wp2
    go_ret
    exact ⟨_, rfl, HB7.out, HO7.out⟩
end Go.Proofs.YtlmaodcddbkllaaDoor
