import Derived.Test.YthgikffcdgpgiaaGreatDoorVP1
import Derived.Test.YthgikffcdgpgiaaGreatDoorW14b
import Derived.Test.YthgikffcdgpgiaaGreatDoorZM1
import Derived.Test.YthgikffcdgpgiaaGreatDoorRFN
namespace Go.Proofs.YthgikffcdgpgiaaGreatDoor
def AllRe (xs : List Blk) : Prop := ∀ b, b < xs.length → Re (tgN xs) b
open Classical in
noncomputable def verdP (v : Int) (xs : List Blk) : Int := if validI ⟨v, xs⟩ = false then 9 else if ¬ AllRe xs then 10 else if ∃ x, Bad xs x then 11 else 0
theorem sub_len : ∀ (n : Nat) (F : List Nat), (∀ b, b < n → b ∈ F) → n ≤ F.length
  | 0, _, _ => Nat.zero_le _
  | n + 1, F, h => by
    have h1 := sub_len n (F.erase n) (fun b hb => (List.mem_erase_of_ne (by omega)).2 (h b (by omega)))
    have h2 : n ∈ F := h n (by omega)
    rw [List.length_erase_of_mem h2] at h1
    have := List.length_pos_of_mem h2
    omega
theorem full_iff {xs : List Blk} (ho : OkF xs) {F : List Nat} (hn : F.Nodup) (hm : ∀ x, x ∈ F ↔ Re (tgN xs) x) : F.length ≤ xs.length ∧ (F.length = xs.length ↔ AllRe xs) := by
  have hl : F.length ≤ xs.length := nodup_le hn (fun x hx => ho.re x ((hm x).1 hx))
  refine ⟨hl, fun h b hb => ?_, fun h => ?_⟩
  · apply Classical.byContradiction
    intro hc
    have hnd : (b :: F).Nodup := List.nodup_cons.2 ⟨fun h2 => hc ((hm b).1 h2), hn⟩
    have := nodup_le (n := xs.length) hnd (fun x hx => by
      rcases List.mem_cons.1 hx with rfl | hx
      · exact hb
      · exact ho.re x ((hm x).1 hx))
    rw [List.length_cons] at this
    omega
  · have := sub_len xs.length F (fun b hb => (hm b).2 (h b hb))
    omega
open Classical in
theorem verdP_bad {v : Int} {xs : List Blk} (h : validI ⟨v, xs⟩ = false) : verdP v xs = 9 := by unfold verdP; rw [if_pos h]
open Classical in
theorem verdP_un {v : Int} {xs : List Blk} (h : validI ⟨v, xs⟩ = true) (k : ¬ AllRe xs) : verdP v xs = 10 := by unfold verdP; rw [if_neg (by rw [h]; decide), if_pos k]
open Classical in
theorem verdP_ns {v : Int} {xs : List Blk} (h : validI ⟨v, xs⟩ = true) (k : AllRe xs) (m : ∃ x, Bad xs x) : verdP v xs = 11 := by unfold verdP; rw [if_neg (by rw [h]; decide), if_neg (fun q => q k), if_pos m]
open Classical in
theorem verdP_ok {v : Int} {xs : List Blk} (h : validI ⟨v, xs⟩ = true) (k : AllRe xs) (m : ¬ ∃ x, Bad xs x) : verdP v xs = 0 := by unfold verdP; rw [if_neg (by rw [h]; decide), if_neg (fun q => q k), if_neg m]
end Go.Proofs.YthgikffcdgpgiaaGreatDoor

namespace Go.Proofs.YthgikffcdgpgiaaGreatDoor
open Go.RowKit
theorem all_ltV' {xs : List Blk} {V : Nat} {l : List Nat} (h : l ∈ allP xs V xs.length) {u : Nat} (hu : u ∈ l) : u < V := by
  obtain ⟨s, hs, h1⟩ := List.mem_flatMap.1 h
  obtain ⟨i, _, rfl⟩ := (mem_side (List.mem_range.1 hs)).1 h1
  unfold ptP at hu
  exact List.mem_range.1 (List.mem_filter.1 hu).1
theorem flQ_mem' {xs : List Blk} {V : Nat} {l : List Int} : l ∈ flQ xs V xs.length ↔ ∃ y ∈ allP xs V xs.length, l = natI y := by
  unfold flQ allP
  constructor
  · intro h
    obtain ⟨s, hs, h1⟩ := List.mem_flatMap.1 h
    obtain ⟨i, hi, rfl⟩ := List.mem_map.1 h1
    have hs' := List.mem_range.1 hs
    have hi := List.mem_range.1 hi
    rw [dfL_some hs'] at hi
    exact ⟨ptP xs xs[s] V s i, List.mem_flatMap.2 ⟨s, hs, (mem_side hs').2 ⟨i, by omega, rfl⟩⟩, ptQ_some hs' V i⟩
  · rintro ⟨y, hy, rfl⟩
    obtain ⟨s, hs, h1⟩ := List.mem_flatMap.1 hy
    have hs' := List.mem_range.1 hs
    obtain ⟨i, hi, rfl⟩ := (mem_side hs').1 h1
    exact List.mem_flatMap.2 ⟨s, hs, List.mem_map.2 ⟨i, List.mem_range.2 (by rw [dfL_some hs']; omega), ptQ_some hs' V i⟩⟩
theorem flQ_small' {xs : List Blk} {V : Nat} {l : List Int} (h : l ∈ flQ xs V xs.length) : l.length ≤ V ∧ ∀ x ∈ l, ∃ k : Nat, k < V ∧ x = (k : Int) := by
  obtain ⟨y, hy, rfl⟩ := flQ_mem'.1 h
  constructor
  · obtain ⟨s, hs, h1⟩ := List.mem_flatMap.1 hy
    obtain ⟨i, hi, rfl⟩ := (mem_side (List.mem_range.1 hs)).1 h1
    have := ptQ_len xs V s i
    rw [ptQ_some (List.mem_range.1 hs)] at this
    exact this
  · intro x hx
    unfold natI at hx
    obtain ⟨z, hz, rfl⟩ := List.mem_map.1 hx
    exact ⟨z, all_ltV' hy hz, rfl⟩
/-- The colour of a value. -/
def colI (cs : List Int) (v : Nat) : Int := cs.getD v 0
def colD (cs : List Int) (v : Nat) : Nat := (colI cs v).toNat
/-- Proper. -/
def pcQ (v : Int) (xs : List Blk) (cs : List Int) (k : Int) : Prop := verdP v xs = 0 ∧ 0 ≤ k ∧ k ≤ 2000 ∧ (cs.length : Int) = v ∧ (∀ c ∈ cs, 0 ≤ c ∧ c < k) ∧ ∀ l ∈ allP xs v.toNat xs.length, (l.map (colD cs)).Nodup
open Classical in
noncomputable def pcB (v : Int) (xs : List Blk) (cs : List Int) (k : Int) : Bool := decide (pcQ v xs cs k)
theorem pcB_no {v : Int} {xs : List Blk} {cs : List Int} {k : Int} (h : ¬ pcQ v xs cs k) : pcB v xs cs k = false := by simp [pcB, h]
theorem pcB_yes {v : Int} {xs : List Blk} {cs : List Int} {k : Int} (h : pcQ v xs cs k) : pcB v xs cs k = true := by simp [pcB, h]
/-- The colour of the a-th value of a list. -/
def colA (cs : List Int) (l : List Int) (a : Nat) : Int := colI cs (l.getD a 0).toNat
/-- The first a values of a list have colours of their own. -/
def okA (cs l : List Int) (a : Nat) : Prop := ∀ a' b', a' < a → b' < a' → colA cs l a' ≠ colA cs l b'
def okB (cs l : List Int) (a b : Nat) : Prop := ∀ b', b' < b → colA cs l a ≠ colA cs l b'
def okU (cs : List Int) (fl : List (List Int)) (i : Nat) : Prop := ∀ i', i' < i → okA cs (fl.getD i' []) (fl.getD i' []).length
theorem okA_zero (cs l : List Int) : okA cs l 0 := fun a' b' h => absurd h (by omega)
theorem okB_zero (cs l : List Int) (a : Nat) : okB cs l a 0 := fun b' h => absurd h (by omega)
theorem okU_zero (cs : List Int) (fl : List (List Int)) : okU cs fl 0 := fun i' h => absurd h (by omega)
theorem okB_succ {cs l : List Int} {a b : Nat} (h : okB cs l a b) (h2 : ¬ colA cs l a = colA cs l b) : okB cs l a (b + 1) := fun b' hb => by
  by_cases e : b' = b
  · subst e; exact h2
  · exact h b' (by omega)
theorem okA_succ {cs l : List Int} {a : Nat} (h : okA cs l a) (h2 : okB cs l a a) : okA cs l (a + 1) := fun a' b' h1 h3 => by
  by_cases e : a' = a
  · subst e; exact h2 b' h3
  · exact h a' b' (by omega) h3
theorem okU_succ {cs : List Int} {fl : List (List Int)} {i : Nat} (h : okU cs fl i) (h2 : okA cs (fl.getD i []) (fl.getD i []).length) : okU cs fl (i + 1) := fun i' h1 => by
  by_cases e : i' = i
  · subst e; exact h2
  · exact h i' (by omega)
theorem colI_nonneg {cs : List Int} {k : Int} (h : ∀ c ∈ cs, 0 ≤ c ∧ c < k) (v : Nat) : 0 ≤ colI cs v := by
  unfold colI
  rw [List.getD_eq_getElem?_getD]
  by_cases hv : v < cs.length
  · rw [List.getElem?_eq_getElem hv]; exact (h _ (List.getElem_mem hv)).1
  · rw [List.getElem?_eq_none (by omega)]; decide
theorem colA_nat {cs : List Int} {y : List Nat} {a : Nat} (ha : a < y.length) : colA cs (natI y) a = colI cs y[a] := by
  unfold colA natI
  rw [List.getD_eq_getElem?_getD, List.getElem?_map, List.getElem?_eq_getElem ha]
  rfl
theorem okA_iff {cs : List Int} {k : Int} (h : ∀ c ∈ cs, 0 ≤ c ∧ c < k) (y : List Nat) : okA cs (natI y) (natI y).length ↔ (y.map (colD cs)).Nodup := by
  have hl : (natI y).length = y.length := by simp [natI]
  rw [hl]
  show _ ↔ List.Pairwise _ _
  rw [List.pairwise_iff_getElem]
  simp only [List.length_map, List.getElem_map]
  constructor
  · intro h1 i j hi hj hij e
    have := h1 j i hj hij
    rw [colA_nat hj, colA_nat hi] at this
    have n1 := colI_nonneg h y[i]
    have n2 := colI_nonneg h y[j]
    unfold colD at e
    exact this (by omega)
  · intro h1 a b ha hb e
    rw [colA_nat ha, colA_nat (by omega)] at e
    exact h1 b a (by omega) ha hb (by unfold colD; rw [e])
theorem okU_iff {xs : List Blk} {V : Nat} {cs : List Int} {k : Int} (h : ∀ c ∈ cs, 0 ≤ c ∧ c < k) : okU cs (flQ xs V xs.length) (flQ xs V xs.length).length ↔ ∀ l ∈ allP xs V xs.length, (l.map (colD cs)).Nodup := by
  constructor
  · intro h1 l hl
    obtain ⟨i, hi, e⟩ := List.getElem_of_mem (flQ_mem'.2 ⟨l, hl, rfl⟩)
    have := h1 i hi
    rw [List.getD_eq_getElem?_getD, List.getElem?_eq_getElem hi, Option.getD_some, e] at this
    exact (okA_iff h l).1 this
  · intro h1 i hi
    rw [List.getD_eq_getElem?_getD, List.getElem?_eq_getElem hi, Option.getD_some]
    obtain ⟨y, hy, e⟩ := flQ_mem'.1 (List.getElem_mem hi)
    rw [e]
    exact (okA_iff h y).2 (h1 y hy)
/-- Two of one list share a colour: not proper. -/
theorem pc_clash {v : Int} {xs : List Blk} {cs : List Int} {k : Int} {i a b : Nat} {l : List Int} (hl : l = (flQ xs v.toNat xs.length).getD i []) (hi : i < (flQ xs v.toNat xs.length).length) (ha : a < l.length) (hb : b < a) (e : colA cs l a = colA cs l b) : ¬ pcQ v xs cs k := fun h => by
  have := (okU_iff h.2.2.2.2.1).2 h.2.2.2.2.2 i hi
  rw [← hl] at this
  exact this a b ha hb e
end Go.Proofs.YthgikffcdgpgiaaGreatDoor
