import Derived.Test.YtlmaodcddbkllaaDoorBW
import Derived.Test.YtlmaodcddbkllaaDoorID1
import Derived.Test.YtlmaodcddbkllaaDoorAB1
/-
  nearestDominators, pure: what the search from behind gives.
-/
namespace Go.Proofs.YtlmaodcddbkllaaDoor

def nrF (Ws : Nat → Nat → Nat) (ord : List Nat) : Nat → Nat → Int
  | 0, _ => -1
  | i + 1, z => match (ord.take i).reverse.find? (fun a => !hasN (Ws (ord.getD i 0)) a) with
    | some a => if z = ord.getD i 0 then (a : Int) else nrF Ws ord i z
    | none => nrF Ws ord i z
theorem nrF_some {Ws : Nat → Nat → Nat} {ord : List Nat} {i a : Nat} (h : (ord.take i).reverse.find? (fun a => !hasN (Ws (ord.getD i 0)) a) = some a) (z : Nat) : nrF Ws ord (i + 1) z = if z = ord.getD i 0 then (a : Int) else nrF Ws ord i z := by
  rw [nrF, h]
theorem nrF_none {Ws : Nat → Nat → Nat} {ord : List Nat} {i : Nat} (h : (ord.take i).reverse.find? (fun a => !hasN (Ws (ord.getD i 0)) a) = none) (z : Nat) : nrF Ws ord (i + 1) z = nrF Ws ord i z := by
  rw [nrF, h]
theorem bw_rev {zs : List Nat} {N : Nat} (hz : ∀ z ∈ zs, z < N) (h0 : 0 < N) {len : Nat} (hl : len ≤ zs.length) : (bwTo (pbAt hz h0) len 0).map (fun x => x.1.2) = (zs.take len).reverse := by
  apply List.ext_getElem
  · simp [bwTo, hl]
  · intro j h1 h2
    have hj : j < len := by simpa [bwTo] using h1
    have h3 : len - 1 - j < zs.length := by omega
    simp [bwTo, pbAt, Nat.min_eq_left hl, List.getElem?_eq_getElem h3]
theorem bw_pre {α : Type} (f : Nat → α) {len : Nat} : ∀ (k : Nat), k ≤ len → ∃ r, bwTo f len 0 = bwTo f len k ++ r
  | 0, _ => ⟨[], by simp⟩
  | k + 1, h => by
    obtain ⟨r, hr⟩ := bw_pre f (len := len) k (by omega)
    exact ⟨f k :: r, by rw [hr, bw_step f (show k < len from h)]; simp⟩
theorem find_hit {zs : List Nat} {N : Nat} (hz : ∀ z ∈ zs, z < N) (h0 : 0 < N) {len k : Nat} (hl : len ≤ zs.length) (hk : k ≤ len) {p : Nat → Bool} {pre : List (Pb N)} {x : Pb N} (e : pre ++ [x] = bwTo (pbAt hz h0) len k) (hp : ∀ y ∈ pre, p y.1.2 = false) (hx : p x.1.2 = true) : (zs.take len).reverse.find? p = some x.1.2 := by
  obtain ⟨r, hr⟩ := bw_pre (pbAt hz h0) k hk
  rw [← bw_rev hz h0 hl, hr, ← e, List.map_append, List.map_append, List.find?_append, List.find?_append]
  have h1 : (pre.map fun x => x.1.2).find? p = none := by
    rw [List.find?_eq_none]
    intro y hy
    obtain ⟨u, hu, rfl⟩ := List.mem_map.1 hy
    rw [hp u hu]
    decide
  rw [h1]
  simp [hx]
theorem find_miss {zs : List Nat} {N : Nat} (hz : ∀ z ∈ zs, z < N) (h0 : 0 < N) {len : Nat} (hl : len ≤ zs.length) {p : Nat → Bool} (hp : ∀ y ∈ bwTo (pbAt hz h0) len 0, p y.1.2 = false) : (zs.take len).reverse.find? p = none := by
  rw [← bw_rev hz h0 hl, List.find?_eq_none]
  intro y hy
  obtain ⟨u, hu, rfl⟩ := List.mem_map.1 hy
  rw [hp u hu]
  decide
/-- What is found for each block stays. -/
theorem nrF_not {Ws : Nat → Nat → Nat} {ord : List Nat} {b : Nat} : ∀ (i : Nat), i ≤ ord.length → (∀ j, j < i → ord.getD j 0 ≠ b) → nrF Ws ord i b = -1
  | 0, _, _ => rfl
  | i + 1, hi, h => by
    have ih := nrF_not (Ws := Ws) i (by omega) (fun j hj => h j (by omega))
    rw [nrF]
    split
    · rw [if_neg (fun e => h i (by omega) e.symm)]; exact ih
    · exact ih
theorem nrF_stay {Ws : Nat → Nat → Nat} {ord : List Nat} {b i : Nat} : ∀ (m : Nat), (∀ j, i ≤ j → j < i + m → ord.getD j 0 ≠ b) → nrF Ws ord (i + m) b = nrF Ws ord i b
  | 0, _ => rfl
  | m + 1, h => by
    have ih := nrF_stay (Ws := Ws) (i := i) m (fun j h1 h2 => h j h1 (by omega))
    rw [← ih, ← Nat.add_assoc, nrF]
    split
    · rw [if_neg (fun e => h (i + m) (by omega) (by omega) e.symm)]
    · rfl
variable {tg : Nat → List Nat}
/-- The whole: the list of the nearest. -/
theorem near_isIdm {n : Nat} {Ws : Nat → Nat → Nat} {o : List Nat} (hn : o.Nodup) (hm : ∀ x, x ∈ o ↔ Re tg x) (hlt : ∀ x, Re tg x → x < n) (ho : ∀ x a, Dom tg a x → a ≠ x → Bef o a x) (hw : ∀ b, b < n → ∀ x, x < n → (hasN (Ws b) x = true ↔ Av tg x b)) : IsIdm tg n ((List.range n).map (nrF Ws o o.length)) := by
  refine ⟨by simp, fun b hb => ?_⟩
  have e : ((List.range n).map (nrF Ws o o.length)).getD b 0 = nrF Ws o o.length b := by simp [hb]
  rw [e]
  by_cases hr : b ∈ o
  · obtain ⟨i, hi, ei⟩ := List.getElem_of_mem hr
    have key := List.pairwise_iff_getElem.1 (show o.Pairwise (· ≠ ·) from hn)
    have gd : ∀ j (hj : j < o.length), o.getD j 0 = o[j] := fun j hj => by simp [hj]
    have h1 : nrF Ws o o.length b = nrF Ws o (i + 1) b := by
      have := nrF_stay (Ws := Ws) (ord := o) (b := b) (i := i + 1) (o.length - (i + 1)) (fun j h1 h2 => by
        have hj : j < o.length := by omega
        rw [gd j hj, ← ei]
        exact fun e => key i j hi hj (by omega) e.symm)
      rw [show i + 1 + (o.length - (i + 1)) = o.length by omega] at this
      exact this
    have h2 : nrF Ws o i b = -1 := nrF_not i (by omega) (fun j hj => by
      have hj' : j < o.length := by omega
      rw [gd j hj', ← ei]
      exact key j i hj' hi hj)
    have hp : ∀ a ∈ o, (!hasN (Ws (o.getD i 0)) a) = true ↔ ¬ Av tg a o[i] := fun a ha => by
      rw [gd i hi, ← hw o[i] (by rw [ei]; exact hb) a (hlt a ((hm a).1 ha))]
      simp
    have h3 := near_prog hn hm ho hi hp
    rw [h1]
    cases hf : (o.take i).reverse.find? (fun a => !hasN (Ws (o.getD i 0)) a) with
    | some a =>
      rw [hf] at h3
      rw [nrF_some hf, gd i hi, ei, if_pos rfl]
      exact Or.inl ⟨a, by rw [← ei]; exact h3, rfl⟩
    | none =>
      rw [hf] at h3
      rw [nrF_none hf, h2]
      exact Or.inr ⟨by rw [← ei]; exact h3, rfl⟩
  · refine Or.inr ⟨fun c hc => absurd ((hm b).2 hc.rb) hr, nrF_not _ (Nat.le_refl _) (fun j hj e => hr ?_)⟩
    have : o.getD j 0 = o[j] := by simp [hj]
    rw [← e, this]
    exact List.getElem_mem hj
end Go.Proofs.YtlmaodcddbkllaaDoor
