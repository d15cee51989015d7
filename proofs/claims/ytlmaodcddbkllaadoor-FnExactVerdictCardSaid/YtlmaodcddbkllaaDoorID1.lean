import Derived.Test.YtlmaodcddbkllaaDoorRC1
import Derived.Test.YtlmaodcddbkllaaDoorW3
import Derived.Test.YtlmaodcddbkllaaDoorSP1
/-
  The model's l2Idoms.
-/
namespace Go.Proofs.YtlmaodcddbkllaaDoor
open Go.RowKit

/-- The number that stands for the nearest dominator, or -1. -/
def optI (o : Option Nat) : Int := match o with
  | some a => (a : Int)
  | none => -1
def stepB (cnt : Nat → Nat) (b : Nat) (best : Option Nat) (a : Nat) : Option Nat := if a ≠ b ∧ (best = none ∨ ∃ k, best = some k ∧ cnt a > cnt k) then some a else best
theorem best_take {cnt : Nat → Nat} {b : Nat} {ds : List Nat} {j : Nat} (h : j < ds.length) : bestP cnt b (ds.take (j + 1)) = stepB cnt b (bestP cnt b (ds.take j)) ds[j] := by
  unfold bestP stepB
  rw [List.take_succ_eq_append_getElem h, List.foldl_append]
  rfl
def idomP (dss : List (List Nat)) (b : Nat) : Int := optI (bestP (fun a => (dss.getD a []).length) b (dss.getD b []))
theorem best_mem {cnt : Nat → Nat} {b : Nat} : ∀ (ds : List Nat) {a : Nat}, bestP cnt b ds = some a → a ∈ ds := fun ds => by
  have key : ∀ (l : List Nat) (best : Option Nat) (a : Nat), l.foldl (fun best a => if a ≠ b ∧ (best = none ∨ ∃ k, best = some k ∧ cnt a > cnt k) then some a else best) best = some a → best = some a ∨ a ∈ l := fun l => by
    induction l with
    | nil => intro best a h; exact Or.inl h
    | cons c l ih =>
      intro best a h
      rw [List.foldl_cons] at h
      rcases ih _ a h with h1 | h1
      · split at h1
        · injection h1 with h1
          exact Or.inr (by rw [h1]; exact List.mem_cons_self)
        · exact Or.inl h1
      · exact Or.inr (List.mem_cons_of_mem _ h1)
  intro a h
  rcases key ds none a h with h1 | h1
  · cases h1
  · exact h1
theorem own_heap {w w' : World} {B t s n : Nat} {v : Value} {cs : List Value} (h : w.ownsRow B t s v n cs) (e : w'.heap = w.heap) : w'.ownsRow B t s v n cs := by
  unfold World.ownsRow at *
  rw [e]
  exact h
set_option maxHeartbeats 2000000 in
set_option maxRecDepth 100000 in
theorem idoms_any (da : Option Addr) (n dc : Nat) (dss : List (List Nat)) (L B : Nat) (w : World) (hd : Hid (IntssAt w L B da (dss.map natI))) (hx : Hid (n = dss.length)) (hn : n ≤ 1000) (hB : B ≤ w.heap.size) (hl : Hid (∀ l ∈ dss, l.length ≤ 1000 ∧ ∀ a ∈ l, a < n)) :
    Calls Tryd.prog 60 #[.slice da n dc] w fun e w' => ∃ v, e = .returned v ∧ Below w.heap.size w w' ∧ w'.ownsRow w.heap.size 2 1 v n (((List.range n).map (idomP dss)).map (Value.int .i64)) := by
  obtain ⟨i0, hi0, hz0, hz1, hz2⟩ := info_three Tryd.info2'
  go_enter Tryd.func60, Tryd.ntmps60
  go_wp2_with fail
  go_loopw [3, 4] (fun v u wr => ∃ b : Nat, b ≤ n ∧ u = .int .i64 b ∧ Hid (Below w.heap.size w wr) ∧ Hid (wr.ownsRow w.heap.size 2 1 v b (((List.range b).map (idomP dss)).map (Value.int .i64)))) (fun _ u _ => n - (intOf u).toNat)
  case atStart => exact ⟨0, Nat.zero_le _, rfl, hide (balloc (Below.refl _ _) _), hide (by
    have := World.ownsRow_lit (base := w.heap.size) (e := 2) (size := 1) w #[] 0 (by simp) (by simp) rfl
    simpa using this)⟩
  case round =>
    obtain ⟨b, hb, rfl, HB, HO⟩ := hrel
    by_cases hlt : b < n
    · have hbx : b < dss.length := by have := hx.out; omega
      have HDD : Hid (∀ t (h : t < dss.length), ∃ bd od a' c', da = some ⟨bd, od, none⟩ ∧ bd < B ∧ w.cell? ⟨bd, od + t, none⟩ = some (.slice a' dss[t].length c') ∧ IntsAt w L B a' (natI dss[t])) := hide (fun t h => by
        obtain ⟨bd, od, e, hbd, a', c', e1, e2⟩ := hd.out t (by simpa using h)
        have e3 : (dss.map natI)[t]'(by simpa using h) = natI dss[t] := by simp
        rw [e3] at e1 e2
        exact ⟨bd, od, a', c', e, hbd.2, by rw [e1]; simp [natI], e2⟩)
      obtain ⟨bd, od, ab, cb, rfl, hbd, eb, ib⟩ := HDD.out b hbx
      have HHD : Hid (∀ t (h : t < dss.length), ∃ a' c', w.cell? ⟨bd, od + t, none⟩ = some (.slice a' dss[t].length c')) := hide (fun t h => by
        obtain ⟨bd', od', a', c', e, _, e1, _⟩ := HDD.out t h
        injection e with e
        injection e with e4 e5
        subst e4 e5
        exact ⟨a', c', e1⟩)
      have HLB := hide (hl.out dss[b] (List.getElem_mem hbx))
      have hlb := HLB.out.1
      have HIB := hide ib
      have HGB : Hid (dss.getD b [] = dss[b]) := hide (by simp [hbx])
      have HEB := hide eb
      clear ib eb HDD
      generalize dss[b] = ds at *
      go_wp2_with fail
      generalize wr = wo at *
      go_loopw [5, 6] (fun bv u wq => ∃ j : Nat, j ≤ ds.length ∧ u = .int .i64 j ∧ bv = .int .i64 (optI (bestP (fun a => (dss.getD a []).length) b (ds.take j))) ∧ Hid (Below w.heap.size w wq) ∧ Hid (wq.heap = wo.heap)) (fun _ u _ => ds.length - (intOf u).toNat)
      case atStart => exact ⟨0, Nat.zero_le _, rfl, rfl, HB, hide rfl⟩
      case round =>
        obtain ⟨j, hj, rfl, rfl, HBq, HWq⟩ := hrel
        have eb := (HBq.out.cell (p := ⟨bd, od + b, none⟩) (by show bd < _; omega)).trans HEB.out
        by_cases hlj : j < ds.length
        · obtain ⟨bv, ov, rfl, hbv, ev⟩ := HIB.out j (by simpa [natI] using hlj)
          have ej := (HBq.out.cell (p := ⟨bv, ov + j, none⟩) (by show bv < _; omega)).trans ev
          have e3 : (natI ds)[j]'(by simpa [natI] using hlj) = ((ds[j] : Nat) : Int) := by simp [natI]
          rw [e3] at ej
          have haj := HLB.out.2 ds[j] (List.getElem_mem hlj)
          have HBT := hide (best_take (cnt := fun a => (dss.getD a []).length) (b := b) hlj)
          have HBM : Hid (∀ k, bestP (fun a => (dss.getD a []).length) b (ds.take j) = some k → k < n) := hide (fun k h => HLB.out.2 k (List.mem_of_mem_take (best_mem _ h)))
          clear ev e3
          generalize ds[j] = aj at *
          generalize bestP (fun a => (dss.getD a []).length) b (ds.take j) = bs at *
          have hajx : aj < dss.length := by have := hx.out; omega
          obtain ⟨a1, c1, h1⟩ := HHD.out aj hajx
          have e1 := (HBq.out.cell (p := ⟨bd, od + aj, none⟩) (by show bd < _; omega)).trans h1
          have HG1 : Hid ((dss.getD aj []).length = dss[aj].length) := hide (by simp [hajx])
          have hl1 := (hl.out dss[aj] (List.getElem_mem hajx)).1
          clear h1
          by_cases hab : aj = b
          · have HST : Hid (stepB (fun a => (dss.getD a []).length) b bs aj = bs) := hide (by unfold stepB; rw [if_neg (fun k => k.1 hab)])
            have q1 : ((aj : Int) == (b : Int)) = true := by simp [hab]
            have q2 : ((aj : Int) != (b : Int)) = false := by simp [hab]
            clear hab e1
            go_wp2_with fail
            refine wp_region_held_drew (S := (fun _ => True)) (by kernel_rfl) trivial (fun hHeld => ?_)
            refine wpAnyH_take (i := 0) (v := ?_) rfl (by kernel_rfl) (by kernel_rfl) (by kernel_rfl) (fun _ _ _ h => h) (Or.inl ⟨by rfl, ?_⟩) (by assumption) ?_
            rotate_left
            · intro w hSw; (try dsimp only at hSw); go_simp; try with_reducible rfl
            simp only [Act.put, List.getElem_toArray, List.getElem_cons_zero, List.setIfInBounds_toArray, List.set_cons_zero, List.set_cons_succ]
            refine wpAnyH_take (i := 1) (v := ?_) rfl (by kernel_rfl) (by kernel_rfl) (by kernel_rfl) (fun _ _ _ h => h) (Or.inl ⟨by rfl, ?_⟩) (by assumption) ?_
            rotate_left
            · intro w hSw; (try dsimp only at hSw); go_simp; try with_reducible rfl
            simp only [Act.put, List.getElem_toArray, List.getElem_cons_zero, List.getElem_cons_succ, List.setIfInBounds_toArray, List.set_cons_zero, List.set_cons_succ]
            refine wpAnyH_take (i := 2) (v := ?_) rfl (by kernel_rfl) (by kernel_rfl) (by kernel_rfl) (fun _ _ _ h => h) (Or.inl ⟨by rfl, ?_⟩) (by assumption) ?_
            rotate_left
            · intro w hSw; (try dsimp only at hSw); go_simp; try with_reducible rfl
            simp only [Act.put, List.getElem_toArray, List.getElem_cons_zero, List.getElem_cons_succ, List.setIfInBounds_toArray, List.set_cons_zero, List.set_cons_succ]
            refine wpAnyH_take (i := 3) (v := ?_) rfl (by kernel_rfl) (by kernel_rfl) (by kernel_rfl) (fun _ _ _ h => h) (Or.inl ⟨by rfl, ?_⟩) (by assumption) ?_
            rotate_left
            · intro w hSw; (try dsimp only at hSw); go_simp; try with_reducible rfl
            simp only [Act.put, List.getElem_toArray, List.getElem_cons_zero, List.getElem_cons_succ, List.setIfInBounds_toArray, List.set_cons_zero, List.set_cons_succ]
            refine wpAnyH_take (i := 4) (v := undef) rfl (by kernel_rfl) (by kernel_rfl) (by kernel_rfl) (fun _ _ _ h => h) (Or.inr ⟨by rfl, rfl⟩) (by assumption) ?_
            simp only [Act.put, List.getElem_toArray, List.getElem_cons_zero, List.getElem_cons_succ, List.setIfInBounds_toArray, List.set_cons_zero, List.set_cons_succ]
            refine wpAnyH_take (i := 5) (v := undef) rfl (by kernel_rfl) (by kernel_rfl) (by kernel_rfl) (fun _ _ _ h => h) (Or.inr ⟨by rfl, rfl⟩) (by assumption) ?_
            simp only [Act.put, List.getElem_toArray, List.getElem_cons_zero, List.getElem_cons_succ, List.setIfInBounds_toArray, List.set_cons_zero, List.set_cons_succ]
            refine wpAnyH_take (i := 6) (v := undef) rfl (by kernel_rfl) (by kernel_rfl) (by kernel_rfl) (fun _ _ _ h => h) (Or.inr ⟨by rfl, rfl⟩) (by assumption) ?_
            simp only [Act.put, List.getElem_toArray, List.getElem_cons_zero, List.getElem_cons_succ, List.setIfInBounds_toArray, List.set_cons_zero, List.set_cons_succ]
            refine wpAnyH_take (i := 7) (v := undef) rfl (by kernel_rfl) (by kernel_rfl) (by kernel_rfl) (fun _ _ _ h => h) (Or.inr ⟨by rfl, rfl⟩) (by assumption) ?_
            simp only [Act.put, List.getElem_toArray, List.getElem_cons_zero, List.getElem_cons_succ, List.setIfInBounds_toArray, List.set_cons_zero, List.set_cons_succ]
            refine wpAnyH_take (i := 8) (v := undef) rfl (by kernel_rfl) (by kernel_rfl) (by kernel_rfl) (fun _ _ _ h => h) (Or.inr ⟨by rfl, rfl⟩) (by assumption) ?_
            simp only [Act.put, List.getElem_toArray, List.getElem_cons_zero, List.getElem_cons_succ, List.setIfInBounds_toArray, List.set_cons_zero, List.set_cons_succ]
            refine wpAnyH_take (i := 9) (v := undef) rfl (by kernel_rfl) (by kernel_rfl) (by kernel_rfl) (fun _ _ _ h => h) (Or.inr ⟨by rfl, rfl⟩) (by assumption) ?_
            simp only [Act.put, List.getElem_toArray, List.getElem_cons_zero, List.getElem_cons_succ, List.setIfInBounds_toArray, List.set_cons_zero, List.set_cons_succ]
            refine wpAnyH_take (i := 10) (v := undef) rfl (by kernel_rfl) (by kernel_rfl) (by kernel_rfl) (fun _ _ _ h => h) (Or.inr ⟨by rfl, rfl⟩) (by assumption) ?_
            simp only [Act.put, List.getElem_toArray, List.getElem_cons_zero, List.getElem_cons_succ, List.setIfInBounds_toArray, List.set_cons_zero, List.set_cons_succ]
            refine wpAnyH_take (i := 11) (v := undef) rfl (by kernel_rfl) (by kernel_rfl) (by kernel_rfl) (fun _ _ _ h => h) (Or.inr ⟨by rfl, rfl⟩) (by assumption) ?_
            simp only [Act.put, List.getElem_toArray, List.getElem_cons_zero, List.getElem_cons_succ, List.setIfInBounds_toArray, List.set_cons_zero, List.set_cons_succ]
            refine wpAnyH_take (i := 12) (v := undef) rfl (by kernel_rfl) (by kernel_rfl) (by kernel_rfl) (fun _ _ _ h => h) (Or.inr ⟨by rfl, rfl⟩) (by assumption) ?_
            simp only [Act.put, List.getElem_toArray, List.getElem_cons_zero, List.getElem_cons_succ, List.setIfInBounds_toArray, List.set_cons_zero, List.set_cons_succ]
            refine wpAnyH_take (i := 13) (v := undef) rfl (by kernel_rfl) (by kernel_rfl) (by kernel_rfl) (fun _ _ _ h => h) (Or.inr ⟨by rfl, rfl⟩) (by assumption) ?_
            simp only [Act.put, List.getElem_toArray, List.getElem_cons_zero, List.getElem_cons_succ, List.setIfInBounds_toArray, List.set_cons_zero, List.set_cons_succ]
            refine wpAnyH_take (i := 14) (v := undef) rfl (by kernel_rfl) (by kernel_rfl) (by kernel_rfl) (fun _ _ _ h => h) (Or.inr ⟨by rfl, rfl⟩) (by assumption) ?_
            simp only [Act.put, List.getElem_toArray, List.getElem_cons_zero, List.getElem_cons_succ, List.setIfInBounds_toArray, List.set_cons_zero, List.set_cons_succ]
            refine wpAnyH_take (i := 15) (v := undef) rfl (by kernel_rfl) (by kernel_rfl) (by kernel_rfl) (fun _ _ _ h => h) (Or.inr ⟨by rfl, rfl⟩) (by assumption) ?_
            simp only [Act.put, List.getElem_toArray, List.getElem_cons_zero, List.getElem_cons_succ, List.setIfInBounds_toArray, List.set_cons_zero, List.set_cons_succ]
            refine wpAnyH_take (i := 16) (v := undef) rfl (by kernel_rfl) (by kernel_rfl) (by kernel_rfl) (fun _ _ _ h => h) (Or.inr ⟨by rfl, rfl⟩) (by assumption) ?_
            simp only [Act.put, List.getElem_toArray, List.getElem_cons_zero, List.getElem_cons_succ, List.setIfInBounds_toArray, List.set_cons_zero, List.set_cons_succ]
            refine wpAnyH_take (i := 17) (v := undef) rfl (by kernel_rfl) (by kernel_rfl) (by kernel_rfl) (fun _ _ _ h => h) (Or.inr ⟨by rfl, rfl⟩) (by assumption) ?_
            simp only [Act.put, List.getElem_toArray, List.getElem_cons_zero, List.getElem_cons_succ, List.setIfInBounds_toArray, List.set_cons_zero, List.set_cons_succ]
            refine wpAnyH_take (i := 18) (v := undef) rfl (by kernel_rfl) (by kernel_rfl) (by kernel_rfl) (fun _ _ _ h => h) (Or.inr ⟨by rfl, rfl⟩) (by assumption) ?_
            simp only [Act.put, List.getElem_toArray, List.getElem_cons_zero, List.getElem_cons_succ, List.setIfInBounds_toArray, List.set_cons_zero, List.set_cons_succ]
            refine wpAnyH_take (i := 19) (v := undef) rfl (by kernel_rfl) (by kernel_rfl) (by kernel_rfl) (fun _ _ _ h => h) (Or.inr ⟨by rfl, rfl⟩) (by assumption) ?_
            simp only [Act.put, List.getElem_toArray, List.getElem_cons_zero, List.getElem_cons_succ, List.setIfInBounds_toArray, List.set_cons_zero, List.set_cons_succ]
            refine wpAnyH_take (i := 20) (v := undef) rfl (by kernel_rfl) (by kernel_rfl) (by kernel_rfl) (fun _ _ _ h => h) (Or.inr ⟨by rfl, rfl⟩) (by assumption) ?_
            simp only [Act.put, List.getElem_toArray, List.getElem_cons_zero, List.getElem_cons_succ, List.setIfInBounds_toArray, List.set_cons_zero, List.set_cons_succ]
            refine wpAnyH_take (i := 21) (v := ?_) rfl (by kernel_rfl) (by kernel_rfl) (by kernel_rfl) (fun _ _ _ h => h) (Or.inl ⟨by rfl, ?_⟩) (by assumption) ?_
            rotate_left
            · intro w hSw; (try dsimp only at hSw); go_simp; try with_reducible rfl
            simp only [Act.put, List.getElem_toArray, List.getElem_cons_zero, List.getElem_cons_succ, List.setIfInBounds_toArray, List.set_cons_zero, List.set_cons_succ]
            refine wpAnyH_done (by kernel_rfl) ?_ _
            go_wp2_with fail
            exact ⟨⟨j + 1, by omega, by go_num, by rw [HBT.out, HST.out], hide HBq.out.drew, hide HWq.out⟩, by simp [intOf]; omega⟩
          · have q1 : ((aj : Int) == (b : Int)) = false := by simp; omega
            have q2 : ((aj : Int) != (b : Int)) = true := by simp; omega
            cases bs with
            | none =>
              have HST : Hid (stepB (fun a => (dss.getD a []).length) b none aj = some aj) := hide (by unfold stepB; rw [if_pos ⟨hab, Or.inl rfl⟩])
              have HON : Hid (optI none = -1) := hide rfl
              rw [HON.out]
              clear e1
              go_wp2_with fail
              refine wp_region_held_drew (S := (fun _ => True)) (by kernel_rfl) trivial (fun hHeld => ?_)
              refine wpAnyH_take (i := 0) (v := ?_) rfl (by kernel_rfl) (by kernel_rfl) (by kernel_rfl) (fun _ _ _ h => h) (Or.inl ⟨by rfl, ?_⟩) (by assumption) ?_
              rotate_left
              · intro w hSw; (try dsimp only at hSw); go_simp; try with_reducible rfl
              simp only [Act.put, List.getElem_toArray, List.getElem_cons_zero, List.setIfInBounds_toArray, List.set_cons_zero, List.set_cons_succ]
              refine wpAnyH_take (i := 1) (v := ?_) rfl (by kernel_rfl) (by kernel_rfl) (by kernel_rfl) (fun _ _ _ h => h) (Or.inl ⟨by rfl, ?_⟩) (by assumption) ?_
              rotate_left
              · intro w hSw; (try dsimp only at hSw); go_simp; try with_reducible rfl
              simp only [Act.put, List.getElem_toArray, List.getElem_cons_zero, List.getElem_cons_succ, List.setIfInBounds_toArray, List.set_cons_zero, List.set_cons_succ]
              refine wpAnyH_take (i := 2) (v := ?_) rfl (by kernel_rfl) (by kernel_rfl) (by kernel_rfl) (fun _ _ _ h => h) (Or.inl ⟨by rfl, ?_⟩) (by assumption) ?_
              rotate_left
              · intro w hSw; (try dsimp only at hSw); go_simp; try with_reducible rfl
              simp only [Act.put, List.getElem_toArray, List.getElem_cons_zero, List.getElem_cons_succ, List.setIfInBounds_toArray, List.set_cons_zero, List.set_cons_succ]
              refine wpAnyH_take (i := 3) (v := ?_) rfl (by kernel_rfl) (by kernel_rfl) (by kernel_rfl) (fun _ _ _ h => h) (Or.inl ⟨by rfl, ?_⟩) (by assumption) ?_
              rotate_left
              · intro w hSw; (try dsimp only at hSw); go_simp; try with_reducible rfl
              simp only [Act.put, List.getElem_toArray, List.getElem_cons_zero, List.getElem_cons_succ, List.setIfInBounds_toArray, List.set_cons_zero, List.set_cons_succ]
              refine wpAnyH_take (i := 4) (v := ?_) rfl (by kernel_rfl) (by kernel_rfl) (by kernel_rfl) (fun _ _ _ h => h) (Or.inl ⟨by rfl, ?_⟩) (by assumption) ?_
              rotate_left
              · intro w hSw; (try dsimp only at hSw); go_simp; try with_reducible rfl
              simp only [Act.put, List.getElem_toArray, List.getElem_cons_zero, List.getElem_cons_succ, List.setIfInBounds_toArray, List.set_cons_zero, List.set_cons_succ]
              refine wpAnyH_take (i := 5) (v := ?_) rfl (by kernel_rfl) (by kernel_rfl) (by kernel_rfl) (fun _ _ _ h => h) (Or.inl ⟨by rfl, ?_⟩) (by assumption) ?_
              rotate_left
              · intro w hSw; (try dsimp only at hSw); go_simp; try with_reducible rfl
              simp only [Act.put, List.getElem_toArray, List.getElem_cons_zero, List.getElem_cons_succ, List.setIfInBounds_toArray, List.set_cons_zero, List.set_cons_succ]
              refine wpAnyH_take (i := 6) (v := ?_) rfl (by kernel_rfl) (by kernel_rfl) (by kernel_rfl) (fun _ _ _ h => h) (Or.inl ⟨by rfl, ?_⟩) (by assumption) ?_
              rotate_left
              · intro w hSw; (try dsimp only at hSw); go_simp; try with_reducible rfl
              simp only [Act.put, List.getElem_toArray, List.getElem_cons_zero, List.getElem_cons_succ, List.setIfInBounds_toArray, List.set_cons_zero, List.set_cons_succ]
              refine wpAnyH_take (i := 7) (v := undef) rfl (by kernel_rfl) (by kernel_rfl) (by kernel_rfl) (fun _ _ _ h => h) (Or.inr ⟨by rfl, rfl⟩) (by assumption) ?_
              simp only [Act.put, List.getElem_toArray, List.getElem_cons_zero, List.getElem_cons_succ, List.setIfInBounds_toArray, List.set_cons_zero, List.set_cons_succ]
              refine wpAnyH_take (i := 8) (v := undef) rfl (by kernel_rfl) (by kernel_rfl) (by kernel_rfl) (fun _ _ _ h => h) (Or.inr ⟨by rfl, rfl⟩) (by assumption) ?_
              simp only [Act.put, List.getElem_toArray, List.getElem_cons_zero, List.getElem_cons_succ, List.setIfInBounds_toArray, List.set_cons_zero, List.set_cons_succ]
              refine wpAnyH_take (i := 9) (v := undef) rfl (by kernel_rfl) (by kernel_rfl) (by kernel_rfl) (fun _ _ _ h => h) (Or.inr ⟨by rfl, rfl⟩) (by assumption) ?_
              simp only [Act.put, List.getElem_toArray, List.getElem_cons_zero, List.getElem_cons_succ, List.setIfInBounds_toArray, List.set_cons_zero, List.set_cons_succ]
              refine wpAnyH_take (i := 10) (v := undef) rfl (by kernel_rfl) (by kernel_rfl) (by kernel_rfl) (fun _ _ _ h => h) (Or.inr ⟨by rfl, rfl⟩) (by assumption) ?_
              simp only [Act.put, List.getElem_toArray, List.getElem_cons_zero, List.getElem_cons_succ, List.setIfInBounds_toArray, List.set_cons_zero, List.set_cons_succ]
              refine wpAnyH_take (i := 11) (v := undef) rfl (by kernel_rfl) (by kernel_rfl) (by kernel_rfl) (fun _ _ _ h => h) (Or.inr ⟨by rfl, rfl⟩) (by assumption) ?_
              simp only [Act.put, List.getElem_toArray, List.getElem_cons_zero, List.getElem_cons_succ, List.setIfInBounds_toArray, List.set_cons_zero, List.set_cons_succ]
              refine wpAnyH_take (i := 12) (v := undef) rfl (by kernel_rfl) (by kernel_rfl) (by kernel_rfl) (fun _ _ _ h => h) (Or.inr ⟨by rfl, rfl⟩) (by assumption) ?_
              simp only [Act.put, List.getElem_toArray, List.getElem_cons_zero, List.getElem_cons_succ, List.setIfInBounds_toArray, List.set_cons_zero, List.set_cons_succ]
              refine wpAnyH_take (i := 13) (v := undef) rfl (by kernel_rfl) (by kernel_rfl) (by kernel_rfl) (fun _ _ _ h => h) (Or.inr ⟨by rfl, rfl⟩) (by assumption) ?_
              simp only [Act.put, List.getElem_toArray, List.getElem_cons_zero, List.getElem_cons_succ, List.setIfInBounds_toArray, List.set_cons_zero, List.set_cons_succ]
              refine wpAnyH_take (i := 14) (v := undef) rfl (by kernel_rfl) (by kernel_rfl) (by kernel_rfl) (fun _ _ _ h => h) (Or.inr ⟨by rfl, rfl⟩) (by assumption) ?_
              simp only [Act.put, List.getElem_toArray, List.getElem_cons_zero, List.getElem_cons_succ, List.setIfInBounds_toArray, List.set_cons_zero, List.set_cons_succ]
              refine wpAnyH_take (i := 15) (v := undef) rfl (by kernel_rfl) (by kernel_rfl) (by kernel_rfl) (fun _ _ _ h => h) (Or.inr ⟨by rfl, rfl⟩) (by assumption) ?_
              simp only [Act.put, List.getElem_toArray, List.getElem_cons_zero, List.getElem_cons_succ, List.setIfInBounds_toArray, List.set_cons_zero, List.set_cons_succ]
              refine wpAnyH_take (i := 16) (v := undef) rfl (by kernel_rfl) (by kernel_rfl) (by kernel_rfl) (fun _ _ _ h => h) (Or.inr ⟨by rfl, rfl⟩) (by assumption) ?_
              simp only [Act.put, List.getElem_toArray, List.getElem_cons_zero, List.getElem_cons_succ, List.setIfInBounds_toArray, List.set_cons_zero, List.set_cons_succ]
              refine wpAnyH_take (i := 17) (v := undef) rfl (by kernel_rfl) (by kernel_rfl) (by kernel_rfl) (fun _ _ _ h => h) (Or.inr ⟨by rfl, rfl⟩) (by assumption) ?_
              simp only [Act.put, List.getElem_toArray, List.getElem_cons_zero, List.getElem_cons_succ, List.setIfInBounds_toArray, List.set_cons_zero, List.set_cons_succ]
              refine wpAnyH_take (i := 18) (v := undef) rfl (by kernel_rfl) (by kernel_rfl) (by kernel_rfl) (fun _ _ _ h => h) (Or.inr ⟨by rfl, rfl⟩) (by assumption) ?_
              simp only [Act.put, List.getElem_toArray, List.getElem_cons_zero, List.getElem_cons_succ, List.setIfInBounds_toArray, List.set_cons_zero, List.set_cons_succ]
              refine wpAnyH_take (i := 19) (v := undef) rfl (by kernel_rfl) (by kernel_rfl) (by kernel_rfl) (fun _ _ _ h => h) (Or.inr ⟨by rfl, rfl⟩) (by assumption) ?_
              simp only [Act.put, List.getElem_toArray, List.getElem_cons_zero, List.getElem_cons_succ, List.setIfInBounds_toArray, List.set_cons_zero, List.set_cons_succ]
              refine wpAnyH_take (i := 20) (v := ?_) rfl (by kernel_rfl) (by kernel_rfl) (by kernel_rfl) (fun _ _ _ h => h) (Or.inl ⟨by rfl, ?_⟩) (by assumption) ?_
              rotate_left
              · intro w hSw; (try dsimp only at hSw); go_simp; try with_reducible rfl
              simp only [Act.put, List.getElem_toArray, List.getElem_cons_zero, List.getElem_cons_succ, List.setIfInBounds_toArray, List.set_cons_zero, List.set_cons_succ]
              refine wpAnyH_take (i := 21) (v := ?_) rfl (by kernel_rfl) (by kernel_rfl) (by kernel_rfl) (fun _ _ _ h => h) (Or.inl ⟨by rfl, ?_⟩) (by assumption) ?_
              rotate_left
              · intro w hSw; (try dsimp only at hSw); go_simp; try with_reducible rfl
              simp only [Act.put, List.getElem_toArray, List.getElem_cons_zero, List.getElem_cons_succ, List.setIfInBounds_toArray, List.set_cons_zero, List.set_cons_succ]
              refine wpAnyH_done (by kernel_rfl) ?_ _
              go_wp2_with fail
              exact ⟨⟨j + 1, by omega, by go_num, by rw [HBT.out, HST.out]; rfl, hide HBq.out.drew, hide HWq.out⟩, by simp [intOf]; omega⟩
            | some k =>
              have hkn := HBM.out k rfl
              have hkx : k < dss.length := by have := hx.out; omega
              obtain ⟨a2, c2, h2⟩ := HHD.out k hkx
              have e2 := (HBq.out.cell (p := ⟨bd, od + k, none⟩) (by show bd < _; omega)).trans h2
              have HG2 : Hid ((dss.getD k []).length = dss[k].length) := hide (by simp [hkx])
              have hl2 := (hl.out dss[k] (List.getElem_mem hkx)).1
              have HON : Hid (optI (some k) = (k : Int)) := hide rfl
              rw [HON.out]
              clear h2
              by_cases hgt : dss[aj].length > dss[k].length
              · have HST : Hid (stepB (fun a => (dss.getD a []).length) b (some k) aj = some aj) := hide (by unfold stepB; rw [if_pos ⟨hab, Or.inr ⟨k, rfl, by show (dss.getD aj []).length > (dss.getD k []).length; rw [HG1.out, HG2.out]; exact hgt⟩⟩])
                generalize dss[aj].length = la at *
                generalize dss[k].length = lk at *
                go_wp2_with fail
                refine wp_region_held_drew (S := (fun w' => w'.cell? ⟨bd, od + aj, none⟩ = some (.slice a1 la c1) ∧ w'.cell? ⟨bd, od + k, none⟩ = some (.slice a2 lk c2))) (by kernel_rfl) (by (try dsimp only); go_keep) (fun hHeld => ?_)
                refine wpAnyH_take (i := 0) (v := ?_) rfl (by kernel_rfl) (by kernel_rfl) (by kernel_rfl) (fun _ _ _ h => h) (Or.inl ⟨by rfl, ?_⟩) (by assumption) ?_
                rotate_left
                · intro w hSw; (try dsimp only at hSw); go_simp; try with_reducible rfl
                simp only [Act.put, List.getElem_toArray, List.getElem_cons_zero, List.setIfInBounds_toArray, List.set_cons_zero, List.set_cons_succ]
                refine wpAnyH_take (i := 1) (v := ?_) rfl (by kernel_rfl) (by kernel_rfl) (by kernel_rfl) (fun _ _ _ h => h) (Or.inl ⟨by rfl, ?_⟩) (by assumption) ?_
                rotate_left
                · intro w hSw; (try dsimp only at hSw); go_simp; try with_reducible rfl
                simp only [Act.put, List.getElem_toArray, List.getElem_cons_zero, List.getElem_cons_succ, List.setIfInBounds_toArray, List.set_cons_zero, List.set_cons_succ]
                refine wpAnyH_take (i := 2) (v := ?_) rfl (by kernel_rfl) (by kernel_rfl) (by kernel_rfl) (fun _ _ _ h => h) (Or.inl ⟨by rfl, ?_⟩) (by assumption) ?_
                rotate_left
                · intro w hSw; (try dsimp only at hSw); go_simp; try with_reducible rfl
                simp only [Act.put, List.getElem_toArray, List.getElem_cons_zero, List.getElem_cons_succ, List.setIfInBounds_toArray, List.set_cons_zero, List.set_cons_succ]
                refine wpAnyH_take (i := 3) (v := ?_) rfl (by kernel_rfl) (by kernel_rfl) (by kernel_rfl) (fun _ _ _ h => h) (Or.inl ⟨by rfl, ?_⟩) (by assumption) ?_
                rotate_left
                · intro w hSw; (try dsimp only at hSw); go_simp; try with_reducible rfl
                simp only [Act.put, List.getElem_toArray, List.getElem_cons_zero, List.getElem_cons_succ, List.setIfInBounds_toArray, List.set_cons_zero, List.set_cons_succ]
                refine wpAnyH_take (i := 4) (v := ?_) rfl (by kernel_rfl) (by kernel_rfl) (by kernel_rfl) (fun _ _ _ h => h) (Or.inl ⟨by rfl, ?_⟩) (by assumption) ?_
                rotate_left
                · intro w hSw; (try dsimp only at hSw); go_simp; try with_reducible rfl
                simp only [Act.put, List.getElem_toArray, List.getElem_cons_zero, List.getElem_cons_succ, List.setIfInBounds_toArray, List.set_cons_zero, List.set_cons_succ]
                refine wpAnyH_take (i := 5) (v := ?_) rfl (by kernel_rfl) (by kernel_rfl) (by kernel_rfl) (fun _ _ _ h => h) (Or.inl ⟨by rfl, ?_⟩) (by assumption) ?_
                rotate_left
                · intro w hSw; (try dsimp only at hSw); go_simp; try with_reducible rfl
                simp only [Act.put, List.getElem_toArray, List.getElem_cons_zero, List.getElem_cons_succ, List.setIfInBounds_toArray, List.set_cons_zero, List.set_cons_succ]
                refine wpAnyH_take (i := 6) (v := ?_) rfl (by kernel_rfl) (by kernel_rfl) (by kernel_rfl) (fun _ _ _ h => h) (Or.inl ⟨by rfl, ?_⟩) (by assumption) ?_
                rotate_left
                · intro w hSw; (try dsimp only at hSw); go_simp; try with_reducible rfl
                simp only [Act.put, List.getElem_toArray, List.getElem_cons_zero, List.getElem_cons_succ, List.setIfInBounds_toArray, List.set_cons_zero, List.set_cons_succ]
                refine wpAnyH_take (i := 7) (v := ?_) rfl (by kernel_rfl) (by kernel_rfl) (by kernel_rfl) (fun _ _ _ h => h) (Or.inl ⟨by rfl, ?_⟩) (by assumption) ?_
                rotate_left
                · intro w hSw; (try dsimp only at hSw); go_simp; try with_reducible rfl
                simp only [Act.put, List.getElem_toArray, List.getElem_cons_zero, List.getElem_cons_succ, List.setIfInBounds_toArray, List.set_cons_zero, List.set_cons_succ]
                refine wpAnyH_take (i := 8) (v := ?_) rfl (by kernel_rfl) (by kernel_rfl) (by kernel_rfl) (fun _ _ _ h => h) (Or.inl ⟨by rfl, ?_⟩) (by assumption) ?_
                rotate_left
                · intro w hSw; (try dsimp only at hSw); go_simp; try with_reducible rfl
                simp only [Act.put, List.getElem_toArray, List.getElem_cons_zero, List.getElem_cons_succ, List.setIfInBounds_toArray, List.set_cons_zero, List.set_cons_succ]
                refine wpAnyH_take (i := 9) (v := ?_) rfl (by kernel_rfl) (by kernel_rfl) (by kernel_rfl) (fun _ _ _ h => h) (Or.inl ⟨by rfl, ?_⟩) (by assumption) ?_
                rotate_left
                · intro w hSw; (try dsimp only at hSw); go_simp; try with_reducible rfl
                simp only [Act.put, List.getElem_toArray, List.getElem_cons_zero, List.getElem_cons_succ, List.setIfInBounds_toArray, List.set_cons_zero, List.set_cons_succ]
                refine wpAnyH_take (i := 10) (v := ?_) rfl (by kernel_rfl) (by kernel_rfl) (by kernel_rfl) (fun _ _ _ h => h) (Or.inl ⟨by rfl, ?_⟩) (by assumption) ?_
                rotate_left
                · intro w hSw; (try dsimp only at hSw); go_simp; try with_reducible rfl
                simp only [Act.put, List.getElem_toArray, List.getElem_cons_zero, List.getElem_cons_succ, List.setIfInBounds_toArray, List.set_cons_zero, List.set_cons_succ]
                refine wpAnyH_take (i := 11) (v := ?_) rfl (by kernel_rfl) (by kernel_rfl) (by kernel_rfl) (fun _ _ _ h => h) (Or.inl ⟨by rfl, ?_⟩) (by assumption) ?_
                rotate_left
                · intro w hSw; (try dsimp only at hSw); go_simp; try with_reducible rfl
                simp only [Act.put, List.getElem_toArray, List.getElem_cons_zero, List.getElem_cons_succ, List.setIfInBounds_toArray, List.set_cons_zero, List.set_cons_succ]
                refine wpAnyH_take (i := 12) (v := ?_) rfl (by kernel_rfl) (by kernel_rfl) (by kernel_rfl) (fun _ _ _ h => h) (Or.inl ⟨by rfl, ?_⟩) (by assumption) ?_
                rotate_left
                · intro w hSw; (try dsimp only at hSw); go_simp; try with_reducible rfl
                simp only [Act.put, List.getElem_toArray, List.getElem_cons_zero, List.getElem_cons_succ, List.setIfInBounds_toArray, List.set_cons_zero, List.set_cons_succ]
                refine wpAnyH_take (i := 13) (v := ?_) rfl (by kernel_rfl) (by kernel_rfl) (by kernel_rfl) (fun _ _ _ h => h) (Or.inl ⟨by rfl, ?_⟩) (by assumption) ?_
                rotate_left
                · intro w hSw; (try dsimp only at hSw); go_simp; try with_reducible rfl
                simp only [Act.put, List.getElem_toArray, List.getElem_cons_zero, List.getElem_cons_succ, List.setIfInBounds_toArray, List.set_cons_zero, List.set_cons_succ]
                refine wpAnyH_take (i := 14) (v := ?_) rfl (by kernel_rfl) (by kernel_rfl) (by kernel_rfl) (fun _ _ _ h => h) (Or.inl ⟨by rfl, ?_⟩) (by assumption) ?_
                rotate_left
                · intro w hSw; (try dsimp only at hSw); go_simp; try with_reducible rfl
                simp only [Act.put, List.getElem_toArray, List.getElem_cons_zero, List.getElem_cons_succ, List.setIfInBounds_toArray, List.set_cons_zero, List.set_cons_succ]
                refine wpAnyH_take (i := 15) (v := ?_) rfl (by kernel_rfl) (by kernel_rfl) (by kernel_rfl) (fun _ _ _ h => h) (Or.inl ⟨by rfl, ?_⟩) (by assumption) ?_
                rotate_left
                · intro w hSw; (try dsimp only at hSw); go_simp; try with_reducible rfl
                simp only [Act.put, List.getElem_toArray, List.getElem_cons_zero, List.getElem_cons_succ, List.setIfInBounds_toArray, List.set_cons_zero, List.set_cons_succ]
                refine wpAnyH_take (i := 16) (v := ?_) rfl (by kernel_rfl) (by kernel_rfl) (by kernel_rfl) (fun _ _ _ h => h) (Or.inl ⟨by rfl, ?_⟩) (by assumption) ?_
                rotate_left
                · intro w hSw; (try dsimp only at hSw); go_simp; try with_reducible rfl
                simp only [Act.put, List.getElem_toArray, List.getElem_cons_zero, List.getElem_cons_succ, List.setIfInBounds_toArray, List.set_cons_zero, List.set_cons_succ]
                refine wpAnyH_take (i := 17) (v := ?_) rfl (by kernel_rfl) (by kernel_rfl) (by kernel_rfl) (fun _ _ _ h => h) (Or.inl ⟨by rfl, ?_⟩) (by assumption) ?_
                rotate_left
                · intro w hSw; (try dsimp only at hSw); go_simp; try with_reducible rfl
                simp only [Act.put, List.getElem_toArray, List.getElem_cons_zero, List.getElem_cons_succ, List.setIfInBounds_toArray, List.set_cons_zero, List.set_cons_succ]
                refine wpAnyH_take (i := 18) (v := ?_) rfl (by kernel_rfl) (by kernel_rfl) (by kernel_rfl) (fun _ _ _ h => h) (Or.inl ⟨by rfl, ?_⟩) (by assumption) ?_
                rotate_left
                · intro w hSw; (try dsimp only at hSw); go_simp; try with_reducible rfl
                simp only [Act.put, List.getElem_toArray, List.getElem_cons_zero, List.getElem_cons_succ, List.setIfInBounds_toArray, List.set_cons_zero, List.set_cons_succ]
                refine wpAnyH_take (i := 19) (v := ?_) rfl (by kernel_rfl) (by kernel_rfl) (by kernel_rfl) (fun _ _ _ h => h) (Or.inl ⟨by rfl, ?_⟩) (by assumption) ?_
                rotate_left
                · intro w hSw; (try dsimp only at hSw); go_simp; try with_reducible rfl
                simp only [Act.put, List.getElem_toArray, List.getElem_cons_zero, List.getElem_cons_succ, List.setIfInBounds_toArray, List.set_cons_zero, List.set_cons_succ]
                refine wpAnyH_take (i := 20) (v := ?_) rfl (by kernel_rfl) (by kernel_rfl) (by kernel_rfl) (fun _ _ _ h => h) (Or.inl ⟨by rfl, ?_⟩) (by assumption) ?_
                rotate_left
                · intro w hSw; (try dsimp only at hSw); go_simp; try with_reducible rfl
                simp only [Act.put, List.getElem_toArray, List.getElem_cons_zero, List.getElem_cons_succ, List.setIfInBounds_toArray, List.set_cons_zero, List.set_cons_succ]
                refine wpAnyH_take (i := 21) (v := ?_) rfl (by kernel_rfl) (by kernel_rfl) (by kernel_rfl) (fun _ _ _ h => h) (Or.inl ⟨by rfl, ?_⟩) (by assumption) ?_
                rotate_left
                · intro w hSw; (try dsimp only at hSw); go_simp; try with_reducible rfl
                simp only [Act.put, List.getElem_toArray, List.getElem_cons_zero, List.getElem_cons_succ, List.setIfInBounds_toArray, List.set_cons_zero, List.set_cons_succ]
                refine wpAnyH_done (by kernel_rfl) ?_ _
                go_wp2_with fail
                exact ⟨⟨j + 1, by omega, by go_num, by rw [HBT.out, HST.out]; rfl, hide HBq.out.drew, hide HWq.out⟩, by simp [intOf]; omega⟩
              · have HST : Hid (stepB (fun a => (dss.getD a []).length) b (some k) aj = some k) := hide (by
                  unfold stepB
                  rw [if_neg (fun q => by
                    rcases q.2 with q | ⟨y, q3, q4⟩
                    · cases q
                    · injection q3 with q3
                      subst q3
                      have q5 : (dss.getD aj []).length > (dss.getD k []).length := q4
                      rw [HG1.out, HG2.out] at q5
                      exact hgt q5)])
                generalize dss[aj].length = la at *
                generalize dss[k].length = lk at *
                go_wp2_with fail
                refine wp_region_held_drew (S := (fun w' => w'.cell? ⟨bd, od + aj, none⟩ = some (.slice a1 la c1) ∧ w'.cell? ⟨bd, od + k, none⟩ = some (.slice a2 lk c2))) (by kernel_rfl) (by (try dsimp only); go_keep) (fun hHeld => ?_)
                refine wpAnyH_take (i := 0) (v := ?_) rfl (by kernel_rfl) (by kernel_rfl) (by kernel_rfl) (fun _ _ _ h => h) (Or.inl ⟨by rfl, ?_⟩) (by assumption) ?_
                rotate_left
                · intro w hSw; (try dsimp only at hSw); go_simp; try with_reducible rfl
                simp only [Act.put, List.getElem_toArray, List.getElem_cons_zero, List.setIfInBounds_toArray, List.set_cons_zero, List.set_cons_succ]
                refine wpAnyH_take (i := 1) (v := ?_) rfl (by kernel_rfl) (by kernel_rfl) (by kernel_rfl) (fun _ _ _ h => h) (Or.inl ⟨by rfl, ?_⟩) (by assumption) ?_
                rotate_left
                · intro w hSw; (try dsimp only at hSw); go_simp; try with_reducible rfl
                simp only [Act.put, List.getElem_toArray, List.getElem_cons_zero, List.getElem_cons_succ, List.setIfInBounds_toArray, List.set_cons_zero, List.set_cons_succ]
                refine wpAnyH_take (i := 2) (v := ?_) rfl (by kernel_rfl) (by kernel_rfl) (by kernel_rfl) (fun _ _ _ h => h) (Or.inl ⟨by rfl, ?_⟩) (by assumption) ?_
                rotate_left
                · intro w hSw; (try dsimp only at hSw); go_simp; try with_reducible rfl
                simp only [Act.put, List.getElem_toArray, List.getElem_cons_zero, List.getElem_cons_succ, List.setIfInBounds_toArray, List.set_cons_zero, List.set_cons_succ]
                refine wpAnyH_take (i := 3) (v := ?_) rfl (by kernel_rfl) (by kernel_rfl) (by kernel_rfl) (fun _ _ _ h => h) (Or.inl ⟨by rfl, ?_⟩) (by assumption) ?_
                rotate_left
                · intro w hSw; (try dsimp only at hSw); go_simp; try with_reducible rfl
                simp only [Act.put, List.getElem_toArray, List.getElem_cons_zero, List.getElem_cons_succ, List.setIfInBounds_toArray, List.set_cons_zero, List.set_cons_succ]
                refine wpAnyH_take (i := 4) (v := ?_) rfl (by kernel_rfl) (by kernel_rfl) (by kernel_rfl) (fun _ _ _ h => h) (Or.inl ⟨by rfl, ?_⟩) (by assumption) ?_
                rotate_left
                · intro w hSw; (try dsimp only at hSw); go_simp; try with_reducible rfl
                simp only [Act.put, List.getElem_toArray, List.getElem_cons_zero, List.getElem_cons_succ, List.setIfInBounds_toArray, List.set_cons_zero, List.set_cons_succ]
                refine wpAnyH_take (i := 5) (v := ?_) rfl (by kernel_rfl) (by kernel_rfl) (by kernel_rfl) (fun _ _ _ h => h) (Or.inl ⟨by rfl, ?_⟩) (by assumption) ?_
                rotate_left
                · intro w hSw; (try dsimp only at hSw); go_simp; try with_reducible rfl
                simp only [Act.put, List.getElem_toArray, List.getElem_cons_zero, List.getElem_cons_succ, List.setIfInBounds_toArray, List.set_cons_zero, List.set_cons_succ]
                refine wpAnyH_take (i := 6) (v := ?_) rfl (by kernel_rfl) (by kernel_rfl) (by kernel_rfl) (fun _ _ _ h => h) (Or.inl ⟨by rfl, ?_⟩) (by assumption) ?_
                rotate_left
                · intro w hSw; (try dsimp only at hSw); go_simp; try with_reducible rfl
                simp only [Act.put, List.getElem_toArray, List.getElem_cons_zero, List.getElem_cons_succ, List.setIfInBounds_toArray, List.set_cons_zero, List.set_cons_succ]
                refine wpAnyH_take (i := 7) (v := ?_) rfl (by kernel_rfl) (by kernel_rfl) (by kernel_rfl) (fun _ _ _ h => h) (Or.inl ⟨by rfl, ?_⟩) (by assumption) ?_
                rotate_left
                · intro w hSw; (try dsimp only at hSw); go_simp; try with_reducible rfl
                simp only [Act.put, List.getElem_toArray, List.getElem_cons_zero, List.getElem_cons_succ, List.setIfInBounds_toArray, List.set_cons_zero, List.set_cons_succ]
                refine wpAnyH_take (i := 8) (v := ?_) rfl (by kernel_rfl) (by kernel_rfl) (by kernel_rfl) (fun _ _ _ h => h) (Or.inl ⟨by rfl, ?_⟩) (by assumption) ?_
                rotate_left
                · intro w hSw; (try dsimp only at hSw); go_simp; try with_reducible rfl
                simp only [Act.put, List.getElem_toArray, List.getElem_cons_zero, List.getElem_cons_succ, List.setIfInBounds_toArray, List.set_cons_zero, List.set_cons_succ]
                refine wpAnyH_take (i := 9) (v := ?_) rfl (by kernel_rfl) (by kernel_rfl) (by kernel_rfl) (fun _ _ _ h => h) (Or.inl ⟨by rfl, ?_⟩) (by assumption) ?_
                rotate_left
                · intro w hSw; (try dsimp only at hSw); go_simp; try with_reducible rfl
                simp only [Act.put, List.getElem_toArray, List.getElem_cons_zero, List.getElem_cons_succ, List.setIfInBounds_toArray, List.set_cons_zero, List.set_cons_succ]
                refine wpAnyH_take (i := 10) (v := ?_) rfl (by kernel_rfl) (by kernel_rfl) (by kernel_rfl) (fun _ _ _ h => h) (Or.inl ⟨by rfl, ?_⟩) (by assumption) ?_
                rotate_left
                · intro w hSw; (try dsimp only at hSw); go_simp; try with_reducible rfl
                simp only [Act.put, List.getElem_toArray, List.getElem_cons_zero, List.getElem_cons_succ, List.setIfInBounds_toArray, List.set_cons_zero, List.set_cons_succ]
                refine wpAnyH_take (i := 11) (v := ?_) rfl (by kernel_rfl) (by kernel_rfl) (by kernel_rfl) (fun _ _ _ h => h) (Or.inl ⟨by rfl, ?_⟩) (by assumption) ?_
                rotate_left
                · intro w hSw; (try dsimp only at hSw); go_simp; try with_reducible rfl
                simp only [Act.put, List.getElem_toArray, List.getElem_cons_zero, List.getElem_cons_succ, List.setIfInBounds_toArray, List.set_cons_zero, List.set_cons_succ]
                refine wpAnyH_take (i := 12) (v := ?_) rfl (by kernel_rfl) (by kernel_rfl) (by kernel_rfl) (fun _ _ _ h => h) (Or.inl ⟨by rfl, ?_⟩) (by assumption) ?_
                rotate_left
                · intro w hSw; (try dsimp only at hSw); go_simp; try with_reducible rfl
                simp only [Act.put, List.getElem_toArray, List.getElem_cons_zero, List.getElem_cons_succ, List.setIfInBounds_toArray, List.set_cons_zero, List.set_cons_succ]
                refine wpAnyH_take (i := 13) (v := ?_) rfl (by kernel_rfl) (by kernel_rfl) (by kernel_rfl) (fun _ _ _ h => h) (Or.inl ⟨by rfl, ?_⟩) (by assumption) ?_
                rotate_left
                · intro w hSw; (try dsimp only at hSw); go_simp; try with_reducible rfl
                simp only [Act.put, List.getElem_toArray, List.getElem_cons_zero, List.getElem_cons_succ, List.setIfInBounds_toArray, List.set_cons_zero, List.set_cons_succ]
                refine wpAnyH_take (i := 14) (v := ?_) rfl (by kernel_rfl) (by kernel_rfl) (by kernel_rfl) (fun _ _ _ h => h) (Or.inl ⟨by rfl, ?_⟩) (by assumption) ?_
                rotate_left
                · intro w hSw; (try dsimp only at hSw); go_simp; try with_reducible rfl
                simp only [Act.put, List.getElem_toArray, List.getElem_cons_zero, List.getElem_cons_succ, List.setIfInBounds_toArray, List.set_cons_zero, List.set_cons_succ]
                refine wpAnyH_take (i := 15) (v := ?_) rfl (by kernel_rfl) (by kernel_rfl) (by kernel_rfl) (fun _ _ _ h => h) (Or.inl ⟨by rfl, ?_⟩) (by assumption) ?_
                rotate_left
                · intro w hSw; (try dsimp only at hSw); go_simp; try with_reducible rfl
                simp only [Act.put, List.getElem_toArray, List.getElem_cons_zero, List.getElem_cons_succ, List.setIfInBounds_toArray, List.set_cons_zero, List.set_cons_succ]
                refine wpAnyH_take (i := 16) (v := ?_) rfl (by kernel_rfl) (by kernel_rfl) (by kernel_rfl) (fun _ _ _ h => h) (Or.inl ⟨by rfl, ?_⟩) (by assumption) ?_
                rotate_left
                · intro w hSw; (try dsimp only at hSw); go_simp; try with_reducible rfl
                simp only [Act.put, List.getElem_toArray, List.getElem_cons_zero, List.getElem_cons_succ, List.setIfInBounds_toArray, List.set_cons_zero, List.set_cons_succ]
                refine wpAnyH_take (i := 17) (v := ?_) rfl (by kernel_rfl) (by kernel_rfl) (by kernel_rfl) (fun _ _ _ h => h) (Or.inl ⟨by rfl, ?_⟩) (by assumption) ?_
                rotate_left
                · intro w hSw; (try dsimp only at hSw); go_simp; try with_reducible rfl
                simp only [Act.put, List.getElem_toArray, List.getElem_cons_zero, List.getElem_cons_succ, List.setIfInBounds_toArray, List.set_cons_zero, List.set_cons_succ]
                refine wpAnyH_take (i := 18) (v := ?_) rfl (by kernel_rfl) (by kernel_rfl) (by kernel_rfl) (fun _ _ _ h => h) (Or.inl ⟨by rfl, ?_⟩) (by assumption) ?_
                rotate_left
                · intro w hSw; (try dsimp only at hSw); go_simp; try with_reducible rfl
                simp only [Act.put, List.getElem_toArray, List.getElem_cons_zero, List.getElem_cons_succ, List.setIfInBounds_toArray, List.set_cons_zero, List.set_cons_succ]
                refine wpAnyH_take (i := 19) (v := ?_) rfl (by kernel_rfl) (by kernel_rfl) (by kernel_rfl) (fun _ _ _ h => h) (Or.inl ⟨by rfl, ?_⟩) (by assumption) ?_
                rotate_left
                · intro w hSw; (try dsimp only at hSw); go_simp; try with_reducible rfl
                simp only [Act.put, List.getElem_toArray, List.getElem_cons_zero, List.getElem_cons_succ, List.setIfInBounds_toArray, List.set_cons_zero, List.set_cons_succ]
                refine wpAnyH_take (i := 20) (v := ?_) rfl (by kernel_rfl) (by kernel_rfl) (by kernel_rfl) (fun _ _ _ h => h) (Or.inl ⟨by rfl, ?_⟩) (by assumption) ?_
                rotate_left
                · intro w hSw; (try dsimp only at hSw); go_simp; try with_reducible rfl
                simp only [Act.put, List.getElem_toArray, List.getElem_cons_zero, List.getElem_cons_succ, List.setIfInBounds_toArray, List.set_cons_zero, List.set_cons_succ]
                refine wpAnyH_take (i := 21) (v := ?_) rfl (by kernel_rfl) (by kernel_rfl) (by kernel_rfl) (fun _ _ _ h => h) (Or.inl ⟨by rfl, ?_⟩) (by assumption) ?_
                rotate_left
                · intro w hSw; (try dsimp only at hSw); go_simp; try with_reducible rfl
                simp only [Act.put, List.getElem_toArray, List.getElem_cons_zero, List.getElem_cons_succ, List.setIfInBounds_toArray, List.set_cons_zero, List.set_cons_succ]
                refine wpAnyH_done (by kernel_rfl) ?_ _
                go_wp2_with fail
                exact ⟨⟨j + 1, by omega, by go_num, by rw [HBT.out, HST.out]; rfl, hide HBq.out.drew, hide HWq.out⟩, by simp [intOf]; omega⟩
        · have hje : j = ds.length := by omega
          subst hje
          have HID : Hid (optI (bestP (fun a => (dss.getD a []).length) b (ds.take ds.length)) = idomP dss b) := hide (by unfold idomP; rw [List.take_length, HGB.out])
          rw [HID.out]
          have HOq : Hid (wr.ownsRow w.heap.size 2 1 u3 b (((List.range b).map (idomP dss)).map (Value.int .i64))) := hide (own_heap HO.out HWq.out)
          have hwz := HBq.out.size
          have HRS : Hid (((List.range (b + 1)).map (idomP dss)).map (Value.int .i64) = ((List.range b).map (idomP dss)).map (Value.int .i64) ++ [.int .i64 (idomP dss b)]) := hide (by rw [List.range_succ]; simp)
          generalize idomP dss b = ib at *
          go_wp2_with (at_builtin; refine wpList_append_own_at _ rfl _ _ 40 rfl w.heap.size 2 i0 (.int .i64 0) 1 8 Tryd.underlying40 hi0 hz0 hz1 hz2 rfl (by decide) _ _ _ rfl (HOq.out.alloc _) ⟨wr.heap.size, 0, none⟩ 1 1 [.int .i64 ib] rfl rfl ?c1 ?c2 ?c3 ?c4 ?c5 ?_)
          case c1 => exact one_news _ _ _
          case c2 => intro u hu; simp at hu; subst hu; rfl
          case c3 => unfold maxLen; omega
          case c4 => omega
          case c5 => simp; omega
          intro v8 w8 hown8 hg8 hne8 hat8
          have HB8 : Hid (Below w.heap.size w w8) := hide (grown_below (Below.alloc HBq.out (by omega) _) hg8 (HOq.out.alloc _) (Nat.le_refl _) (by simp; omega))
          have HO8 : Hid (w8.ownsRow w.heap.size 2 1 v8 (b + 1) (((List.range (b + 1)).map (idomP dss)).map (Value.int .i64))) := hide (by rw [HRS.out, List.map_map]; exact hown8)
          clear hown8 hg8 hne8 hat8
          go_wp2_with fail
          exact ⟨⟨b + 1, by omega, by go_num, HB8, HO8⟩, by simp [intOf]; omega⟩
    · have hbn : b = n := by omega
      subst hbn
      go_wp2_with fail
      go_ret
      exact ⟨_, rfl, HB.out, HO.out⟩
end Go.Proofs.YtlmaodcddbkllaaDoor

/-
  Dominators, pure: what the model lists and finds, against the nearest.
-/
namespace Go.Proofs.YtlmaodcddbkllaaDoor
variable {tg : Nat → List Nat}

open Classical in
/-- The blocks that dominate b, ascending. -/
noncomputable def domL (tg : Nat → List Nat) (n b : Nat) : List Nat := (List.range n).filter fun a => decide (Dom tg a b)
theorem domL_mem {n a b : Nat} : a ∈ domL tg n b ↔ a < n ∧ Dom tg a b := by
  unfold domL
  simp
theorem domL_nd (n b : Nat) : (domL tg n b).Nodup := List.nodup_range.sublist List.filter_sublist
/-- What is dominated by another has more that dominate it. -/
theorem domL_less {n a c : Nat} (ha : a < n) (h : Dom tg c a) (hne : c ≠ a) : (domL tg n c).length < (domL tg n a).length := by
  have h1 : a ∉ domL tg n c := fun k => hne (dom_anti h (domL_mem.1 k).2)
  have h2 : (a :: domL tg n c).Nodup := List.nodup_cons.2 ⟨h1, domL_nd n c⟩
  have h3 : (a :: domL tg n c) ⊆ domL tg n a := fun x hx => by
    rcases List.mem_cons.1 hx with rfl | hx
    · exact domL_mem.2 ⟨ha, dom_self h.rb⟩
    · obtain ⟨k1, k2⟩ := domL_mem.1 hx
      exact domL_mem.2 ⟨k1, dom_trans k2 h⟩
  have := List.Nodup.length_le_of_subset h2 h3
  simp only [List.length_cons] at this
  omega
theorem domss_get {n b : Nat} (hb : b < n) : ((List.range n).map (domL tg n)).getD b [] = domL tg n b := by simp [hb]
theorem model_some {n a b : Nat} (hn : ∀ x, Re tg x → x < n) (h : Idm tg a b) : idomP ((List.range n).map (domL tg n)) b = (a : Int) := by
  have hbn := hn b h.dom.rb
  have han := hn a h.dom.ra
  have key : bestP (fun a => (((List.range n).map (domL tg n)).getD a []).length) b (domL tg n b) = some a := by
    refine best_some (domL_mem.2 ⟨han, h.dom⟩) h.ne (fun c hc hcb hca => ?_)
    obtain ⟨k1, k2⟩ := domL_mem.1 hc
    rw [domss_get k1, domss_get han]
    exact domL_less han (h.near c k2 hcb) hca
  unfold idomP
  rw [domss_get hbn, key]
  rfl
theorem model_none {n b : Nat} (hb : b < n) (h : ∀ c, Dom tg c b → c = b) : idomP ((List.range n).map (domL tg n)) b = -1 := by
  unfold idomP
  rw [domss_get hb, best_none (fun a ha => h a (domL_mem.1 ha).2)]
  rfl
end Go.Proofs.YtlmaodcddbkllaaDoor

/-
  Dominators, pure: the list of the nearest, the tree turned round, its order; the way up.
-/
namespace Go.Proofs.YtlmaodcddbkllaaDoor
variable {tg : Nat → List Nat}

/-- The list of the nearest. -/
structure IsIdm (tg : Nat → List Nat) (n : Nat) (P : List Int) : Prop where
  len : P.length = n
  get : ∀ b, b < n → (∃ a : Nat, Idm tg a b ∧ P.getD b 0 = (a : Int)) ∨ ((∀ c, Dom tg c b → c = b) ∧ P.getD b 0 = -1)
theorem isIdm_one {n : Nat} {P Q : List Int} (h : IsIdm tg n P) (k : IsIdm tg n Q) : P = Q := by
  apply List.ext_getElem (h.len.trans k.len.symm)
  intro i h1 h2
  have e1 : P.getD i 0 = P[i] := by simp [h1]
  have e2 : Q.getD i 0 = Q[i] := by simp [h2]
  rw [← e1, ← e2]
  have hi : i < n := by rw [← h.len]; exact h1
  rcases h.get i hi with ⟨a, ha, ea⟩ | ⟨ha, ea⟩
  · rcases k.get i hi with ⟨c, hc, ec⟩ | ⟨hc, ec⟩
    · rw [ea, ec, idm_one ha hc]
    · exact absurd (hc a ha.dom) ha.ne
  · rcases k.get i hi with ⟨c, hc, ec⟩ | ⟨hc, ec⟩
    · exact absurd (ha c hc.dom) hc.ne
    · rw [ea, ec]
open Classical in
/-- There is such a list. -/
theorem isIdm_model {n : Nat} (hn : ∀ x, Re tg x → x < n) (hex : ∀ b, b < n → (∃ a, Idm tg a b) ∨ ∀ c, Dom tg c b → c = b) : IsIdm tg n ((List.range n).map (idomP ((List.range n).map (domL tg n)))) := by
  refine ⟨by simp, fun b hb => ?_⟩
  have e : ((List.range n).map (idomP ((List.range n).map (domL tg n)))).getD b 0 = idomP ((List.range n).map (domL tg n)) b := by simp [hb]
  rw [e]
  rcases hex b hb with ⟨a, ha⟩ | h
  · exact Or.inl ⟨a, ha, model_some hn ha⟩
  · exact Or.inr ⟨h, model_none hb h⟩
def chP (P : List Int) (b : Nat) : List Nat := (List.range P.length).filter fun c => P.getD c 0 == (b : Int)
def preP (P : List Int) : Nat → Nat → List Nat
  | 0, b => [b]
  | m + 1, b => b :: (chP P b).flatMap (preP P m)
theorem chP_mem {P : List Int} {b c : Nat} : c ∈ chP P b ↔ c < P.length ∧ P.getD c 0 = (b : Int) := by
  unfold chP
  rw [List.mem_filter, List.mem_range, beq_iff_eq]
theorem ch_idm {n : Nat} {P : List Int} (h : IsIdm tg n P) {b c : Nat} (hc : c ∈ chP P b) : Idm tg b c := by
  obtain ⟨h1, h2⟩ := chP_mem.1 hc
  rcases h.get c (by rw [← h.len]; exact h1) with ⟨a, ha, ea⟩ | ⟨_, ea⟩
  · rw [ea] at h2
    have : a = b := by omega
    rw [← this]; exact ha
  · rw [ea] at h2; omega
theorem ch_len {P : List Int} {b : Nat} : (chP P b).length ≤ P.length := Nat.le_trans (List.length_filter_le _ _) (by simp)
theorem pre_dom {n : Nat} {P : List Int} (h : IsIdm tg n P) : ∀ (m b x : Nat), Re tg b → x ∈ preP P m b → Dom tg b x
  | 0, b, x, hb, hx => by
    have : x = b := by simpa [preP] using hx
    rw [this]; exact dom_self hb
  | m + 1, b, x, hb, hx => by
    rw [preP, List.mem_cons] at hx
    rcases hx with rfl | hx
    · exact dom_self hb
    · obtain ⟨c, hc, hx⟩ := List.mem_flatMap.1 hx
      have hi := ch_idm h hc
      exact dom_trans hi.dom (pre_dom h m c x hi.dom.rb hx)
theorem pre_nd {n : Nat} {P : List Int} (h : IsIdm tg n P) : ∀ (m b : Nat), Re tg b → (preP P m b).Nodup
  | 0, b, _ => by simp [preP]
  | m + 1, b, hb => by
    rw [preP, List.nodup_cons]
    refine ⟨fun hx => ?_, ?_⟩
    · obtain ⟨c, hc, hx⟩ := List.mem_flatMap.1 hx
      have hi := ch_idm h hc
      exact hi.ne (dom_anti hi.dom (pre_dom h m c b hi.dom.rb hx))
    · unfold List.Nodup
      rw [List.pairwise_flatMap]
      refine ⟨fun c hc => pre_nd h m c (ch_idm h hc).dom.rb, ?_⟩
      have hnd : (chP P b).Nodup := List.nodup_range.sublist List.filter_sublist
      refine List.Pairwise.imp_of_mem (fun {c d} hc hd hne x hx y hy e => ?_) hnd
      subst e
      have ic := ch_idm h hc
      have id := ch_idm h hd
      have dc := pre_dom h m c x ic.dom.rb hx
      have dd := pre_dom h m d x id.dom.rb hy
      rcases dom_chain dc dd with k | k
      · exact ic.ne (dom_anti ic.dom (id.near c k hne))
      · exact id.ne (dom_anti id.dom (ic.near d k (fun e => hne e.symm)))
theorem pre_len {n : Nat} {P : List Int} (h : IsIdm tg n P) (hn : ∀ x, Re tg x → x < n) (m b : Nat) (hb : Re tg b) : (preP P m b).length ≤ n := nodup_le (pre_nd h m b hb) (fun x hx => hn x (pre_dom h m b x hb hx).rb)
theorem dn_less {n : Nat} {P : List Int} (h : IsIdm tg n P) (hn : ∀ x, Re tg x → x < n) {b c : Nat} (hc : c ∈ chP P b) : (domL tg n b).length < (domL tg n c).length := by
  have hi := ch_idm h hc
  exact domL_less (hn c hi.dom.rb) hi.dom hi.ne
theorem dn_le (n b : Nat) : (domL tg n b).length ≤ n := Nat.le_trans (List.length_filter_le _ _) (by simp)
/-- The way up. -/
theorem up_some {n : Nat} {P : List Int} (h : IsIdm tg n P) (hn : ∀ x, Re tg x → x < n) {b : Nat} (hb : Re tg b) (h0 : b ≠ 0) : ∃ c : Nat, P.getD b 0 = (c : Int) ∧ c < n ∧ Re tg c ∧ (domL tg n c).length < (domL tg n b).length ∧ ∀ a, a ≠ b → (Dom tg a b ↔ Dom tg a c) := by
  rcases h.get b (hn b hb) with ⟨c, hc, ec⟩ | ⟨hc, _⟩
  · exact ⟨c, ec, hn c hc.dom.ra, hc.dom.ra, domL_less (hn b hb) hc.dom hc.ne, fun a hne => ⟨fun k => hc.near a k hne, fun k => dom_trans k hc.dom⟩⟩
  · exact absurd (hc 0 (dom_root hb)) (fun e => h0 e.symm)
theorem dom_zero {a : Nat} (h : Dom tg a 0) : a = 0 := Classical.byContradiction (fun e => h.no (Av.root e))
end Go.Proofs.YtlmaodcddbkllaaDoor
