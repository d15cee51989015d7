import Derived.Test.YthgikffcdgpgiaaGreatDoorRFN
import Derived.Test.YthgikffcdgpgiaaGreatDoorOC2
import Derived.Test.YthgikffcdgpgiaaGreatDoorSP0
import Derived.Test.YthgikffcdgpgiaaGreatDoorW10
namespace Go.Proofs.YthgikffcdgpgiaaGreatDoor
open Go.RowKit Go.Shelf
attribute [local go_sem] Oper.semAt_some
theorem ls_cnt (W : Nat → Nat) (K : Nat) : cntN W K = (lsN W (64 * K)).length := by
  unfold cntN lsN
  rw [List.countP_eq_length_filter]
/-- While the numbers are appended. -/
structure LiI (w : World) (n₀ Bo Bs : Nat) (sv : Value) (pre : List Nat) (V : World) : Prop where
  low : Below w.heap.size w V
  ge : w.heap.size ≤ Bo ∧ Bo ≠ Bs
  sz : n₀ ≤ V.heap.size
  bs : V.heap[Bs]? = some (.cells #[sv] 75)
  own : ∃ v, V.heap[Bo]? = some (.cells #[v] 26) ∧ V.ownsRow w.heap.size 2 1 v pre.length ((natI pre).map (Value.int .i64))
theorem box_set {V : World} {Bo T : Nat} {v v' : Value} (h : V.heap[Bo]? = some (.cells #[v] T)) : (V.setCell ⟨Bo, 0, none⟩ v').heap[Bo]? = some (.cells #[v'] T) := by
  simp [World.setCell, Array.getElem?_modify, h]
theorem own_not {V : World} {Bo T base e n : Nat} {u v : Value} {xs : List Value} (h : V.heap[Bo]? = some (.cells #[u] T)) (ho : V.ownsRow base e 1 v n xs) (hT : T ≠ e) : v.ownBlock ≠ some Bo := fun hb => by
  rcases ho.2 with ⟨rfl, _⟩ | ⟨g, cap, cur, rfl, _, h1, _⟩
  · cases hb
  · injection hb with hb
    subst hb
    rw [show V.heap[g]? = some (.cells #[u] T) from h] at h1
    injection h1 with h1
    injection h1 with _ h2
    exact hT h2
theorem LiI.next {w U u1 : World} {n₀ Bo Bs x : Nat} {sv v v1 : Value} {pre : List Nat} {ob : Obj} (h : LiI w n₀ Bo Bs sv pre U) (hbx : U.heap[Bo]? = some (.cells #[v] 26)) (hown : U.ownsRow w.heap.size 2 1 v pre.length ((natI pre).map (Value.int .i64))) (hg : (U.alloc ob).grownBy u1 v.ownBlock) (ho : u1.ownsRow w.heap.size 2 1 v1 (pre ++ [x]).length ((natI (pre ++ [x])).map (Value.int .i64))) :
    KeepsOthers U (u1.setCell ⟨Bo, 0, none⟩ v1) ∧ KpB n₀ (fun q => w.heap.size ≤ q ∧ q ≠ Bs) U (u1.setCell ⟨Bo, 0, none⟩ v1) ∧ LiI w n₀ Bo Bs sv (pre ++ [x]) (u1.setCell ⟨Bo, 0, none⟩ v1) := by
  have hz : U.heap.size ≤ u1.heap.size := Nat.le_trans (by simp) hg.size
  have hzs : (u1.setCell ⟨Bo, 0, none⟩ v1).heap.size = u1.heap.size := by simp [World.setCell]
  have hbl : ∀ b, b < U.heap.size → b ≠ Bo → v.ownBlock ≠ some b → (u1.setCell ⟨Bo, 0, none⟩ v1).heap[b]? = U.heap[b]? := fun b h1 h2 h3 => (Below.heap_setCell _ _ _ _ (fun e => h2 e)).trans ((hg.block b (by simp; omega) (fun e => h3 e.symm)).trans (Below.heap_alloc _ _ _ h1))
  have hn1 : ∀ b, b < w.heap.size → v.ownBlock ≠ some b := fun b hb e => by have := (hown.lt b e).1; omega
  have hn2 : v.ownBlock ≠ some Bs := own_not h.bs hown (by decide)
  have hge := h.ge
  have hlw := h.low.size
  have hkk : ∀ b, b < U.heap.size → ¬ (w.heap.size ≤ b ∧ b ≠ Bs) → (u1.setCell ⟨Bo, 0, none⟩ v1).heap[b]? = U.heap[b]? := fun b h1 h2 => by
    by_cases e : b = Bs
    · exact hbl b h1 (by omega) (by rw [e]; exact hn2)
    · have : b < w.heap.size := Nat.lt_of_not_le (fun h3 => h2 ⟨h3, e⟩)
      exact hbl b h1 (by omega) (hn1 b this)
  have hb1 : u1.heap[Bo]? = some (.cells #[v] 26) := (hg.block Bo (by have := (Array.getElem?_eq_some_iff.1 hbx).1; simp; omega) (fun e => own_not hbx hown (by decide) e.symm)).trans ((Below.heap_alloc _ _ _ (Array.getElem?_eq_some_iff.1 hbx).1).trans hbx)
  refine ⟨⟨by omega, fun k o h1 h2 => ?_⟩, ⟨by omega, fun k h1 h2 => hkk k (Nat.lt_of_lt_of_le h1 h.sz) h2, fun k o h1 h2 _ => (hkk k (Array.getElem?_eq_some_iff.1 h2).1 h1).trans h2⟩, ⟨⟨hg.os.trans h.low.os, hg.tape.trans h.low.tape, hg.output.trans h.low.output, by omega, fun b hb => (hbl b (by omega) (by omega) (hn1 b hb)).trans (h.low.block b hb)⟩, h.ge, by have := h.sz; omega, (hbl Bs (Array.getElem?_eq_some_iff.1 h.bs).1 (fun e => hge.2 e.symm) hn2).trans h.bs, v1, box_set hb1, ?_⟩⟩
  · refine (hbl k (Array.getElem?_eq_some_iff.1 h1).1 (fun e => ?_) (fun e => ?_)).trans h1
    · subst e
      rw [hbx] at h1
      injection h1 with h1
      subst h1
      cases h2
    · rcases hown.2 with ⟨rfl, _⟩ | ⟨g, cap, cur, rfl, _, h3, _⟩
      · cases e
      · injection e with e
        have e : g = k := e
        subst e
        rw [h3] at h1
        injection h1 with h1
        subst h1
        cases h2
  · exact ho.kept (row := some Bo) ⟨rfl, rfl, rfl, by omega, fun k _ hk => Below.heap_setCell _ _ _ _ (fun e => hk (by rw [e]))⟩ (Or.inr (own_not hb1 ho (by decide)))
end Go.Proofs.YthgikffcdgpgiaaGreatDoor

namespace Go.Proofs.YthgikffcdgpgiaaGreatDoor
open Go.RowKit Go.Shelf
attribute [local go_sem] Oper.semAt_some
/-- What lies still. -/
structure Stc2 (x : Blk) (L B Bx n₀ n₁ : Nat) (V : World) : Prop where
  op : OpTabW V
  ter : TerTabW V
  blk : BlkAt V L B Bx 0 x
  lt : Bx < n₁
  le : B ≤ n₀
  g1 : 0 < n₀
  g2 : 2 < n₀
  nn : n₀ ≤ n₁
theorem Stc2.same {x : Blk} {L B Bx n₀ n₁ : Nat} {V V' : World} (h : Stc2 x L B Bx n₀ n₁ V) (e : ∀ k, k < n₁ → V'.heap[k]? = V.heap[k]?) (hs : V.heap.size ≤ V'.heap.size) : Stc2 x L B Bx n₀ n₁ V' :=
  ⟨h.op.of_block (e _ (Nat.lt_of_lt_of_le h.g1 h.nn)) hs, h.ter.of_block (e _ (Nat.lt_of_lt_of_le h.g2 h.nn)) hs, h.blk.keepS (fun k _ h2 => e k (Nat.lt_of_lt_of_le (Nat.lt_of_lt_of_le h2 h.le) h.nn)) (e _ h.lt), h.lt, h.le, h.g1, h.g2, h.nn⟩
theorem Stc2.below {x : Blk} {L B Bx n₀ n₁ : Nat} {V V' : World} (h : Stc2 x L B Bx n₀ n₁ V) (k : Below V.heap.size V V') (hn : n₁ ≤ V.heap.size) : Stc2 x L B Bx n₀ n₁ V' := h.same (fun i hi => k.block i (by omega)) k.size
theorem Stc2.kp {x : Blk} {L B Bx n₀ n₁ : Nat} {Ms : Nat → Prop} {V V' : World} (h : Stc2 x L B Bx n₀ n₁ V) (k : KpB n₀ Ms V V') (hM : ∀ k, L ≤ k → k < B → ¬ Ms k) (hMx : ¬ Ms Bx) (hM1 : ¬ Ms 0) (hM2 : ¬ Ms 2) : Stc2 x L B Bx n₀ n₁ V' := by
  have hb : V'.heap[Bx]? = V.heap[Bx]? := by
    obtain ⟨pa, pc, ia, ic, e0, _⟩ := h.blk
    exact k.block e0 hMx
  exact ⟨h.op.of_block (k.low _ h.g1 hM1) k.size, h.ter.of_block (k.low _ h.g2 hM2) k.size, h.blk.keepS (fun i h1 h2 => k.low i (Nat.lt_of_lt_of_le h2 h.le) (hM i h1 h2)) hb, h.lt, h.le, h.g1, h.g2, h.nn⟩
end Go.Proofs.YthgikffcdgpgiaaGreatDoor
