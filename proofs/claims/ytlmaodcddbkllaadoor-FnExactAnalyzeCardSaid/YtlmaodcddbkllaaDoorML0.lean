import Derived.Test.YtlmaodcddbkllaaDoorID1
import Derived.Test.YtlmaodcddbkllaaDoorW3
import Derived.Test.YtlmaodcddbkllaaDoorSP1
import Derived.Test.YtlmaodcddbkllaaDoorCH1
/-
  The model's lists of what dominates each block: rows behind a row of sets; pure.
-/
namespace Go.Proofs.YtlmaodcddbkllaaDoor
open Go.RowKit

/-- n rows of numbers, each of its own, behind a row of sets (block G). -/
def RowsS (w : World) (G n : Nat) (P : Nat → List Int) (U : Nat → Value) : Prop :=
  w.rowIs G 47 n U ∧ (∀ i, i < n → w.ownsRow (G + 1) 2 1 (U i) (P i).length ((P i).map (Value.int .i64))) ∧ (∀ i j, i < n → j < n → i ≠ j → (U i).ownBlock = none ∨ (U i).ownBlock ≠ (U j).ownBlock)

theorem RowsS.alloc {w : World} {G n : Nat} {P : Nat → List Int} {U : Nat → Value} (h : RowsS w G n P U) (o : Obj) : RowsS (w.alloc o) G n P U := ⟨h.1.alloc o, fun i hi => (h.2.1 i hi).alloc o, h.2.2⟩
theorem RowsS.below {w w' : World} {G n : Nat} {P : Nat → List Int} {U : Nat → Value} (h : RowsS w G n P U) (k : Below w.heap.size w w') : RowsS w' G n P U := by
  refine ⟨h.1.of_block (k.block _ h.1.lt), fun i hi => ?_, h.2.2⟩
  refine (h.2.1 i hi).kept (row := none) ⟨k.os, k.tape, k.output, k.size, fun b hb _ => k.block b hb⟩ ?_
  cases (U i).ownBlock <;> simp
theorem RowsS.congr {w : World} {G n : Nat} {P P' : Nat → List Int} {U : Nat → Value} (h : RowsS w G n P U) (e : ∀ i, i < n → P i = P' i) : RowsS w G n P' U :=
  ⟨h.1, fun i hi => by rw [← e i hi]; exact h.2.1 i hi, h.2.2⟩

theorem RowsS.step {w w1 : World} {G n : Nat} {P : Nat → List Int} {U : Nat → Value} (h : RowsS w G n P U) {t : Nat} (ht : t < n) (x : Int) (v' : Value) (hg : w.grownBy w1 (U t).ownBlock)
    (ho : w1.ownsRow (G + 1) 2 1 v' ((P t).length + 1) ((P t).map (Value.int .i64) ++ [.int .i64 x])) (hat : v'.ownBlock = (U t).ownBlock ∨ v'.ownBlock = some w.heap.size) :
    RowsS (w1.setCell ⟨G, t, none⟩ v') G n (fun i => if i = t then P t ++ [x] else P i) (fun i => if i = t then v' else U i) := by
  have hr : w1.rowIs G 47 n U := h.1.of_block (hg.block _ h.1.lt (fun e => by have := ((h.2.1 t ht).lt _ e.symm).1; omega))
  refine ⟨hr.set t v', fun i hi => ?_, fun i j hi hj hij => ?_⟩
  · refine ownsRow_setCell_below ?_ (by dsimp only; omega) _
    by_cases e : i = t
    · subst e
      simp only [if_true, List.length_append, List.length_cons, List.length_nil, List.map_append, List.map_cons, List.map_nil]
      exact ho
    · simp only [e, if_false]
      exact (h.2.1 i hi).kept hg (h.2.2 i t hi ht e)
  · have fresh : ∀ m, m < n → (U m).ownBlock = none ∨ (U m).ownBlock ≠ some w.heap.size := fun m hm => by
      by_cases e : (U m).ownBlock = some w.heap.size
      · have := ((h.2.1 m hm).lt _ e).2; omega
      · exact Or.inr e
    by_cases e1 : i = t
    · subst e1
      have e2 : ¬ j = i := fun e => hij e.symm
      simp only [if_true, e2, if_false]
      rcases hat with q | q
      · rw [q]; exact h.2.2 i j hi hj hij
      · right
        rw [q]
        intro hh
        rcases fresh j hj with f | f
        · rw [f] at hh; cases hh
        · exact f hh.symm
    · simp only [e1, if_false]
      by_cases e2 : j = t
      · subst e2
        simp only [if_true]
        rcases hat with q | q
        · rw [q]; exact h.2.2 i j hi hj hij
        · rw [q]; exact fresh i hi
      · simp only [e2, if_false]
        exact h.2.2 i j hi hj hij

theorem RowsS.ints {w : World} {G n : Nat} {P : Nat → List Int} {U : Nat → Value} (h : RowsS w G n P U) : IntssAt w G w.heap.size (some ⟨G, 0, none⟩) ((List.range n).map P) := fun i hi => by
  simp only [List.length_map, List.length_range] at hi
  obtain ⟨a, c, hv, ha⟩ := ints_owned (h.2.1 i hi)
  refine ⟨G, 0, rfl, ⟨Nat.le_refl _, h.1.lt⟩, a, c, ?_, ?_⟩
  · simp only [List.getElem_map, List.getElem_range, Nat.zero_add]
    rw [h.1.cell hi, hv]
  · simp only [List.getElem_map, List.getElem_range]
    exact ha.mono (by omega) (Nat.le_refl _)

theorem RowsS.born (w : World) (n : Nat) : RowsS (w.alloc (.cells (madeCells #[.slice none 0 0] n) 47)) w.heap.size n (fun _ => []) (fun _ => .slice none 0 0) :=
  ⟨World.rowIs_made _ _ _ _, fun _ _ => World.ownsRow_nil _ _ _ _, fun _ _ _ _ _ => Or.inl rfl⟩

variable {tg : Nat → List Nat}
open Classical in
noncomputable def dmTo (tg : Nat → List Nat) (k b : Nat) : List Int := natI ((List.range k).filter fun a => decide (Dom tg a b))
theorem dmTo_all (n b : Nat) : dmTo tg n b = natI (domL tg n b) := rfl
open Classical in
theorem dmTo_succ (k b : Nat) : dmTo tg (k + 1) b = dmTo tg k b ++ (if Dom tg k b then [(k : Int)] else []) := by
  unfold dmTo
  rw [List.range_succ, List.filter_append, List.filter_cons, List.filter_nil]
  by_cases h : Dom tg k b
  · rw [if_pos (by simpa using h), if_pos h]; simp [natI]
  · rw [if_neg (by simpa using h), if_neg h]; simp [natI]
theorem dmTo_len (k b : Nat) : (dmTo tg k b).length ≤ k := by
  unfold dmTo
  rw [natI_len]
  exact Nat.le_trans (List.length_filter_le _ _) (by simp)
theorem dmTo_skip {k : Nat} (h : ¬ Re tg k) (b : Nat) : dmTo tg (k + 1) b = dmTo tg k b := by
  rw [dmTo_succ, if_neg (fun d => h d.ra), List.append_nil]
noncomputable def dmMid (tg : Nat → List Nat) (F Fa : List Nat) (k i b : Nat) : List Int := dmTo tg k b ++ (if b ∈ F.take i ∧ b ∉ Fa then [(k : Int)] else [])
theorem dmMid_zero (F Fa : List Nat) (k b : Nat) : dmMid tg F Fa k 0 b = dmTo tg k b := by
  unfold dmMid
  rw [if_neg (by simp), List.append_nil]
theorem dmMid_len (F Fa : List Nat) (k i b : Nat) : (dmMid tg F Fa k i b).length ≤ k + 1 := by
  unfold dmMid
  have := dmTo_len (tg := tg) k b
  rw [List.length_append]
  split <;> simp <;> omega
theorem take_mem {F : List Nat} {i b : Nat} (hi : i < F.length) : b ∈ F.take (i + 1) ↔ b ∈ F.take i ∨ b = F[i] := by
  rw [List.take_succ_eq_append_getElem hi, List.mem_append, List.mem_singleton]
theorem dmMid_in {F Fa : List Nat} {k i : Nat} (hi : i < F.length) (h : F[i] ∈ Fa) (b : Nat) : dmMid tg F Fa k (i + 1) b = dmMid tg F Fa k i b := by
  unfold dmMid
  by_cases e : b = F[i]
  · rw [if_neg (fun q => q.2 (by rw [e]; exact h)), if_neg (fun q => q.2 (by rw [e]; exact h))]
  · by_cases q : b ∈ F.take i ∧ b ∉ Fa
    · rw [if_pos ⟨(take_mem hi).2 (Or.inl q.1), q.2⟩, if_pos q]
    · rw [if_neg (fun r => q ⟨((take_mem hi).1 r.1).resolve_right e, r.2⟩), if_neg q]
theorem dmMid_out {F Fa : List Nat} {k i : Nat} (hn : F.Nodup) (hi : i < F.length) (h : F[i] ∉ Fa) (b : Nat) : dmMid tg F Fa k (i + 1) b = if b = F[i] then dmMid tg F Fa k i F[i] ++ [(k : Int)] else dmMid tg F Fa k i b := by
  have hnt : F[i] ∉ F.take i := fun q => by
    have e : F = F.take i ++ F.drop i := (List.take_append_drop i F).symm
    have hd : F[i] ∈ F.drop i := by rw [List.drop_eq_getElem_cons hi]; exact List.mem_cons_self
    rw [e, List.nodup_append] at hn
    exact hn.2.2 _ q _ hd rfl
  by_cases e : b = F[i]
  · rw [if_pos e, e]
    unfold dmMid
    rw [if_pos ⟨(take_mem hi).2 (Or.inr rfl), h⟩, if_neg (fun q => hnt q.1), List.append_nil]
  · rw [if_neg e]
    unfold dmMid
    by_cases q : b ∈ F.take i ∧ b ∉ Fa
    · rw [if_pos ⟨(take_mem hi).2 (Or.inl q.1), q.2⟩, if_pos q]
    · rw [if_neg (fun r => q ⟨((take_mem hi).1 r.1).resolve_right e, r.2⟩), if_neg q]
theorem dmMid_done {F Fa : List Nat} {k : Nat} (hF : ∀ x, x ∈ F ↔ Re tg x) (hFa : ∀ x, x ∈ Fa ↔ Av tg k x) (hk : Re tg k) {i : Nat} (hi : F.length ≤ i) (b : Nat) : dmMid tg F Fa k i b = dmTo tg (k + 1) b := by
  rw [dmTo_succ]
  unfold dmMid
  rw [List.take_of_length_le hi]
  by_cases h : Dom tg k b
  · rw [if_pos ⟨(hF b).2 h.rb, fun q => h.no ((hFa b).1 q)⟩, if_pos h]
  · rw [if_neg (fun q => h ⟨hk, (hF b).1 q.1, fun r => q.2 ((hFa b).2 r)⟩), if_neg h]
end Go.Proofs.YtlmaodcddbkllaaDoor
