import Derived.Test.YtjfcbjomfbfoiaaGreatDoorSA0
import Derived.Test.YtjfcbjomfbfoiaaGreatDoorFV1
import Derived.Test.YtjfcbjomfbfoiaaGreatDoorOC2
import Derived.Test.YtjfcbjomfbfoiaaGreatDoorW17
import Derived.Deep.RegionHeld3
import Derived.Deep.MidRow
import Derived.Deep.CutRange
import Derived.Test.YtjfcbjomfbfoiaaGreatDoorML3
import Derived.Test.YtjfcbjomfbfoiaaGreatDoorW18b
namespace Go.Proofs.YtjfcbjomfbfoiaaGreatDoor
open Go.RowKit
noncomputable def lqL (v : Int) (xs : List Blk) (s : Bool) : List (List Int) := if validI ⟨v, xs⟩ = true then (List.range xs.length).map (ipTo xs v.toNat s) else []
def LiveA (w : World) (L B : Nat) (v : Int) (xs : List Blk) (G : Value) : Prop := ∃ n a1 c1 a2 c2, G = .agg #[.slice a1 n c1, .slice a2 n c2] ∧ IntssAt w L B a1 (lqL v xs false) ∧ IntssAt w L B a2 (lqL v xs true) ∧ n = (lqL v xs false).length ∧ n = (lqL v xs true).length ∧ n ≤ 1000
theorem LiveA.keepS {w w' : World} {L B : Nat} {v : Int} {xs : List Blk} {G : Value} (h : LiveA w L B v xs G) (k : Same L B w w') : LiveA w' L B v xs G := by
  obtain ⟨n, a1, c1, a2, c2, e, h1, h2, h3⟩ := h
  exact ⟨n, a1, c1, a2, c2, e, h1.keepS k, h2.keepS k, h3⟩
theorem LiveA.form {w : World} {L B : Nat} {v : Int} {xs : List Blk} {G : Value} (h : LiveA w L B v xs G) : ∃ a1 n1 c1 a2 n2 c2, G = .agg #[.slice a1 n1 c1, .slice a2 n2 c2] := by
  obtain ⟨n, a1, c1, a2, c2, e, _⟩ := h
  exact ⟨a1, n, c1, a2, n, c2, e⟩
theorem valid_nat {v : Int} {xs : List Blk} (h : validI ⟨v, xs⟩ = true) : ∃ V : Nat, v = (V : Int) := by
  have h0 : 0 ≤ v := by
    simp only [validI, sizeOk, Bool.and_eq_true, decide_eq_true_eq] at h
    omega
  exact Int.eq_ofNat_of_zero_le h0
def aV : Value → Option Addr
  | .slice a _ _ => a
  | _ => none
def cV : Value → Nat
  | .slice _ _ c => c
  | _ => 0
def loV (v : Value) : Nat := v.ownBlock.getD 0
def hiV (v : Value) : Nat := match v.ownBlock with
  | some g => g + 1
  | none => 0
theorem lohiV {v : Value} {k : Nat} : (loV v ≤ k ∧ k < hiV v) ↔ v.ownBlock = some k := by
  unfold loV hiV
  cases e : v.ownBlock with
  | none => simp
  | some g => simp; omega
theorem row_sepV {w : World} {B n : Nat} {v : Value} {xs : List Int} (h : w.ownsRow B 2 1 v n (xs.map (Value.int .i64))) : v = .slice (aV v) xs.length (cV v) ∧ IntsAt w (loV v) (hiV v) (aV v) xs ∧ ThawB (loV v) (hiV v) w ∧ ∀ k, v.ownBlock = some k → B ≤ k ∧ k < w.heap.size := by
  have hl : xs.length = n := by have := h.1; simpa using this
  refine ⟨?_, fun i hi => ?_, fun b o hb => ?_, fun k e => h.lt k e⟩
  · rcases own_form h with ⟨e, h0, _⟩ | ⟨g, c, e, _, _⟩
    · rw [e]; simp [aV, cV]; omega
    · rw [e, hl]; rfl
  · rcases own_form h with ⟨e, h0, _⟩ | ⟨g, c, e, _, _⟩
    · omega
    · subst e
      refine ⟨g, 0, rfl, lohiV.2 rfl, ?_⟩
      rw [Nat.zero_add]
      exact own_cell h (by simp [hi])
  · rcases own_form h with ⟨e, h0, _⟩ | ⟨g, c, e, _, _⟩
    · subst e
      have := lohiV.1 hb
      cases this
    · subst e
      have hb' := lohiV.1 hb
      cases hb'
      exact own_thaw h o
theorem djV {u v : Value} (h : u.ownBlock = none ∨ u.ownBlock ≠ v.ownBlock) : hiV u ≤ loV v ∨ hiV v ≤ loV u := by
  unfold loV hiV
  cases e1 : u.ownBlock with
  | none => exact Or.inl (Nat.zero_le _)
  | some a =>
    cases e2 : v.ownBlock with
    | none => exact Or.inr (Nat.zero_le _)
    | some b =>
      rw [e1, e2] at h
      have : a ≠ b := fun e => by
        rcases h with q | q
        · cases q
        · exact q (by rw [e])
      simp
      omega
/-- The same rows in a world where all of their blocks lie still. -/
theorem LiG.move {w0 wr w' : World} {Fo n : Nat} {U : Bool → Nat → Value} {P : Bool → Nat → List Int} {X : Bool → Value} (h : LiG w0 wr Fo (fun _ => n) U P X) (hq : ∀ q, w0.heap.size ≤ q → w'.heap[q]? = wr.heap[q]?) : (∀ s, w'.ownsRow w0.heap.size 56 1 (X s) n ((List.range n).map (U s))) ∧ ∀ s i, i < n → w'.ownsRow w0.heap.size 2 1 (U s i) (P s i).length ((P s i).map (Value.int .i64)) :=
  ⟨fun s => own_block (h.oo s) (fun g e => hq g ((h.oo s).lt g e).1), fun s i hi => own_block (h.own s i hi) (fun g e => hq g ((h.own s i hi).lt g e).1)⟩
theorem LiG.sep {w0 wr w' : World} {Fo n : Nat} {U : Bool → Nat → Value} {P : Bool → Nat → List Int} {X : Bool → Value} {g c : Bool → Nat} (h : LiG w0 wr Fo (fun _ => n) U P X) (hq : ∀ q, w0.heap.size ≤ q → w'.heap[q]? = wr.heap[q]?) (hX : ∀ s, X s = .slice (some ⟨g s, 0, none⟩) n (c s)) : LvSep w' w0.heap.size w'.heap.size n g (fun s i => aV (U s i)) (fun s i => cV (U s i)) (fun s i => loV (U s i)) (fun s i => hiV (U s i)) P := by
  obtain ⟨h1, h2⟩ := h.move hq
  have hg : ∀ s, (X s).ownBlock = some (g s) := fun s => by rw [hX s]; rfl
  have hne : ∀ s s' i, i < n → ¬ (loV (U s i) ≤ g s' ∧ g s' < hiV (U s i)) := fun s s' i hi e => by
    have e1 := lohiV.1 e
    rcases own_types (h.own s i hi) (h.oo s') (by decide) with q | q
    · rw [e1] at q; cases q
    · exact q (by rw [e1, hg s'])
  refine ⟨fun s => ⟨fun i hi => ?_, fun i hi => (row_sepV (h2 s i hi)).2.1, fun i hi => (row_sepV (h2 s i hi)).2.2.1, fun i j hi hj hij => djV (h.dj s i s j hi hj (fun e => hij (congrArg Prod.snd e))), fun i hi => hne s s i hi⟩, fun i j hi hj => djV (h.dj false i true j hi hj (fun e => by cases congrArg Prod.fst e)), hne, fun s => ((h1 s).lt _ (hg s)).2, Nat.le_refl _, fun s i q hi q1 q2 => (row_sepV (h2 s i hi)).2.2.2 q (lohiV.1 ⟨q1, q2⟩)⟩
  rw [← (row_sepV (h2 s i hi)).1]
  have h3 := h1 s
  rw [hX s] at h3
  exact own_cell h3 (by simp [hi])
theorem LvSep.keepS {w W : World} {B n : Nat} {g : Bool → Nat} {a : Bool → Nat → Option Addr} {cp lo hi : Bool → Nat → Nat} {Pr : Bool → Nat → List Int} (h : LvSep w B w.heap.size n g a cp lo hi Pr) (hg : ∀ s, B ≤ g s) (k : Same B w.heap.size w W) (hz : w.heap.size ≤ W.heap.size) : LvSep W B w.heap.size n g a cp lo hi Pr :=
  ⟨fun s => (h.sep s).of (fun q hq => by
    rcases hq with rfl | ⟨i, hi', q1, q2⟩
    · exact k _ (hg s) (h.low s)
    · have := h.rng s i q hi' q1 q2
      exact k q this.1 this.2), h.dj, h.out, h.low, hz, h.rng⟩
end Go.Proofs.YtjfcbjomfbfoiaaGreatDoor
