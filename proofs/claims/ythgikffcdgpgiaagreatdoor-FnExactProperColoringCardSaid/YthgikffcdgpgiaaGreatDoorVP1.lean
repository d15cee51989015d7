import Derived.Test.YthgikffcdgpgiaaGreatDoorVP0
import Derived.Test.YthgikffcdgpgiaaGreatDoorFQ0
namespace Go.Proofs.YthgikffcdgpgiaaGreatDoor
structure StI (xs : List Blk) (v : Nat) (td : List Nat) (i : Nat) : Prop where
  nd : td.Nodup
  op : ∀ x ∈ td, Opn xs v x
  z : 0 ∈ td
  dn : ∀ j (h : j < td.length), j < i → phiB xs td[j] v = true ∨ (barB xs td[j] v ≠ 1 ∧ (barB xs td[j] v = 0 → ∀ t ∈ tgN xs td[j], t ∈ td))
section
variable {xs : List Blk} {v : Nat} {td : List Nat} {i : Nat}
theorem stI_start : StI xs v [0] 0 := ⟨by simp, fun x hx => by rw [List.mem_singleton.1 hx]; exact Opn.root, by simp, fun j _ h => absurd h (by omega)⟩
theorem StI.go (h : StI xs v td i) (hi : i < td.length) (hd : phiB xs td[i] v = true ∨ (barB xs td[i] v ≠ 1 ∧ (barB xs td[i] v = 0 → ∀ t ∈ tgN xs td[i], t ∈ td))) : StI xs v td (i + 1) :=
  ⟨h.nd, h.op, h.z, fun j hj hji => if e : j = i then by subst e; exact hd else h.dn j hj (by omega)⟩
theorem StI.push (h : StI xs v td i) (hi : i < td.length) (hp : phiB xs td[i] v = false) (hb : barB xs td[i] v = 0) {t : Nat} (ht : t ∈ tgN xs td[i]) (hn : t ∉ td) : StI xs v (td ++ [t]) i := by
  refine ⟨?_, fun x hx => ?_, by simp [h.z], fun j hj hji => ?_⟩
  · rw [List.nodup_append]
    exact ⟨h.nd, by simp, fun a ha b hb' => by rw [List.mem_singleton.1 hb']; exact fun e => hn (by rw [← e]; exact ha)⟩
  · rcases List.mem_append.1 hx with hx | hx
    · exact h.op x hx
    · rw [List.mem_singleton.1 hx]
      exact Opn.step (h.op _ (List.getElem_mem hi)) hp hb ht
  · have hj' : j < td.length := by omega
    rw [List.getElem_append_left hj']
    rcases h.dn j hj' hji with q | ⟨q1, q2⟩
    · exact Or.inl q
    · exact Or.inr ⟨q1, fun e u hu => List.mem_append_left _ (q2 e u hu)⟩
theorem StI.none (h : StI xs v td i) (hi : td.length ≤ i) : ¬ Bad xs v := by
  rintro ⟨b, hop, h1, h2⟩
  have hin : ∀ b, Opn xs v b → b ∈ td := fun b hop => by
    induction hop with
    | root => exact h.z
    | step _ q1 q2 q3 ih =>
      obtain ⟨j, hj, rfl⟩ := List.getElem_of_mem ih
      rcases h.dn j hj (by omega) with q | q
      · rw [q] at q1; cases q1
      · exact q.2 q2 _ q3
  obtain ⟨j, hj, rfl⟩ := List.getElem_of_mem (hin b hop)
  rcases h.dn j hj (by omega) with q | q
  · rw [q] at h1; cases h1
  · exact q.1 h2
theorem StI.hit (h : StI xs v td i) (hi : i < td.length) (hp : phiB xs td[i] v = false) (hb : barB xs td[i] v = 1) : Bad xs v := ⟨_, h.op _ (List.getElem_mem hi), hp, hb⟩
theorem StI.lt (h : StI xs v td i) (ho : OkF xs) : ∀ x ∈ td, x < xs.length := fun x hx => (h.op x hx).lt ho
end
end Go.Proofs.YthgikffcdgpgiaaGreatDoor

namespace Go.Proofs.YthgikffcdgpgiaaGreatDoor
open Go.RowKit
structure Gro (W1 : World) (G : Nat) (wr : World) (u : Value) (l : List Int) : Prop where
  os : wr.os = W1.os
  tape : wr.tape = W1.tape
  output : wr.output = W1.output
  size : W1.heap.size ≤ wr.heap.size
  fr : ∀ q, q < W1.heap.size → q ≠ G → wr.heap[q]? = W1.heap[q]?
  own : wr.ownsRow G 2 1 u l.length (l.map (Value.int .i64))
  here : ∀ g, u.ownBlock = some g → g = G ∨ W1.heap.size ≤ g
section
variable {W1 wr w2 : World} {G : Nat} {u u' : Value} {l : List Int}
theorem Gro.start (h : W1.ownsRow G 2 1 u 0 []) (hu : ∀ g, u.ownBlock = some g → g = G) : Gro W1 G W1 u [] := ⟨rfl, rfl, rfl, Nat.le_refl _, fun _ _ _ => rfl, h, fun g e => Or.inl (hu g e)⟩
theorem Gro.push {x : Int} (h : Gro W1 G wr u l) (hg : wr.grownBy w2 u.ownBlock) (ho : w2.ownsRow G 2 1 u' (l.length + 1) (l.map (Value.int .i64) ++ [.int .i64 x])) (hat : u'.ownBlock = u.ownBlock ∨ u'.ownBlock = some wr.heap.size) : Gro W1 G w2 u' (l ++ [x]) := by
  have hz := h.size
  refine ⟨hg.os.trans h.os, hg.tape.trans h.tape, hg.output.trans h.output, Nat.le_trans hz hg.size, fun q h1 h2 => (hg.block q (by omega) (fun e => ?_)).trans (h.fr q h1 h2), ?_, fun g e => ?_⟩
  · rcases h.here q e.symm with k | k
    · exact h2 k
    · omega
  · rw [ints_snoc, List.length_append]
    exact ho
  · rcases hat with k | k
    · exact h.here g (by rw [← k]; exact e)
    · rw [k] at e
      injection e with e
      exact Or.inr (by omega)
theorem Gro.below (h : Gro W1 G wr u l) (k : Below wr.heap.size wr w2) : Gro W1 G w2 u l :=
  ⟨k.os.trans h.os, k.tape.trans h.tape, k.output.trans h.output, Nat.le_trans h.size k.size, fun q h1 h2 => (k.block q (Nat.lt_of_lt_of_le h1 h.size)).trans (h.fr q h1 h2), own_block h.own (fun g e => k.block g (h.own.lt g e).2), h.here⟩
theorem Gro.alloc (h : Gro W1 G wr u l) (o : Obj) : Gro W1 G (wr.alloc o) u l := h.below (balloc (Below.refl _ _) o)
theorem Gro.cell (h : Gro W1 G wr u l) {b o : Nat} {v : Value} (hb : b ≠ G) (hc : W1.cell? ⟨b, o, none⟩ = some v) : wr.cell? ⟨b, o, none⟩ = some v := (cell_of (h.fr b (World.block_lt_of_cell? W1 _ hc) hb)).trans hc
theorem Gro.ints (h : Gro W1 G wr u l) {L B : Nat} {a : Option Addr} {xs : List Int} (hB : B ≤ W1.heap.size) (hG : ¬ (L ≤ G ∧ G < B)) (hi : IntsAt W1 L B a xs) : IntsAt wr L B a xs := hi.keepS (fun k h1 h2 => h.fr k (by omega) (fun e => hG (by omega)))
end
end Go.Proofs.YthgikffcdgpgiaaGreatDoor
