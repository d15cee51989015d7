import Derived.Test.YtdcdgopblbmgoaaDoorO1
namespace Go.Proofs.YtdcdgopblbmgoaaDoor
open Go.RowKit

/-- The variable of an outcome, at block r. -/
def OX (w : World) (r : Nat) (co va st : Int) (ta : Option Addr) (nt ct : Nat) (ha : Option Addr) (nh ch : Nat) : Prop := w.cell? ⟨r, 0, none⟩ = some (.int .i64 co) ∧ w.cell? ⟨r, 1, none⟩ = some (.int .i64 va) ∧ w.cell? ⟨r, 2, none⟩ = some (.int .i64 st) ∧ w.cell? ⟨r, 3, none⟩ = some (.slice ta nt ct) ∧ w.cell? ⟨r, 4, none⟩ = some (.slice ha nh ch)
theorem OX.keep {w w1 : World} {r : Nat} {co va st : Int} {ta ha : Option Addr} {nt ct nh ch : Nat} (h : OX w r co va st ta nt ct ha nh ch) (k : w1.heap[r]? = w.heap[r]?) : OX w1 r co va st ta nt ct ha nh ch :=
  ⟨(cell_of k).trans h.1, (cell_of k).trans h.2.1, (cell_of k).trans h.2.2.1, (cell_of k).trans h.2.2.2.1, (cell_of k).trans h.2.2.2.2⟩
theorem OX.new (w : World) (co va st : Int) (ta ha : Option Addr) (nt ct nh ch t : Nat) : OX (w.alloc (.cells #[.int .i64 co, .int .i64 va, .int .i64 st, .slice ta nt ct, .slice ha nh ch] t)) w.heap.size co va st ta nt ct ha nh ch := by
  refine ⟨?_, ?_, ?_, ?_, ?_⟩ <;> simp [go_sem]
theorem FB.new (w : World) (v : Int) (a : Option Addr) (n c t : Nat) : FB (w.alloc (.cells #[.int .i64 v, .slice a n c] t)) w.heap.size v a n c := by
  refine ⟨?_, ?_⟩ <;> simp [go_sem]

/-- What the law keeps in its hands. -/
structure LSC (w : World) (v : Int) (a : Option Addr) (n c : Nat) (a6 : Option Addr) (c6 : Nat) (oc ov os : Int) (ta0 : Option Addr) (nt ct0 : Nat) (ha0 : Option Addr) (nh ch0 : Nat) (ta9 : Option Addr) (ct9 : Nat) (ha9 : Option Addr) (ch9 : Nat) (tr hp : List Int) (B4 B5 B6 B8 B9 : Nat) (W : World) : Prop where
  below : Below w.heap.size w W
  f : FB W w.heap.size v a n c
  g : FB W B6 v a6 n c6
  x : OX W B5 oc ov os ta0 nt ct0 ha0 nh ch0
  y : OX W B9 oc ov os ta9 nt ct9 ha9 nh ch9
  t0 : IntsAt W B4 B5 ta0 tr
  h0 : IntsAt W B4 B5 ha0 hp
  p : IntsAt W B8 B9 ta9 tr
  q : IntsAt W B8 B9 ha9 hp
  ft : ∀ b o, ta9 = some ⟨b, o, none⟩ → B8 ≤ b ∧ b < B9 → ∀ i, W.frozen? ⟨b, i, none⟩ = false
  fh : ∀ b o, ha9 = some ⟨b, o, none⟩ → B8 ≤ b ∧ b < B9 → ∀ i, W.frozen? ⟨b, i, none⟩ = false
  z : B9 < W.heap.size
  o : w.heap.size < B4 ∧ B4 ≤ B5 ∧ B5 < B6 ∧ B6 < B8 ∧ B8 ≤ B9
section
variable {w : World} {v : Int} {a : Option Addr} {n c : Nat} {a6 : Option Addr} {c6 : Nat} {oc ov os : Int} {ta0 : Option Addr} {nt ct0 : Nat} {ha0 : Option Addr} {nh ch0 : Nat} {ta9 : Option Addr} {ct9 : Nat} {ha9 : Option Addr} {ch9 : Nat} {tr hp : List Int} {B4 B5 B6 B8 B9 : Nat} {W W' : World}
theorem LSC.keepG (h : LSC w v a n c a6 c6 oc ov os ta0 nt ct0 ha0 nh ch0 ta9 ct9 ha9 ch9 tr hp B4 B5 B6 B8 B9 W) (k : ∀ b, b < W.heap.size → (b < B5 + 1 ∨ b = B6 ∨ B8 ≤ b) → W'.heap[b]? = W.heap[b]?) (sz : W.heap.size ≤ W'.heap.size) (bl : Below w.heap.size w W') : LSC w v a n c a6 c6 oc ov os ta0 nt ct0 ha0 nh ch0 ta9 ct9 ha9 ch9 tr hp B4 B5 B6 B8 B9 W' := by
  obtain ⟨o1, o2, o3, o4, o5⟩ := h.o
  have hz := h.z
  refine ⟨bl, h.f.keep (k _ (by omega) (by omega)), h.g.keep (k _ (by omega) (by omega)), h.x.keep (k _ (by omega) (by omega)), h.y.keep (k _ (by omega) (by omega)), h.t0.keepS (fun q q1 q2 => k q (by omega) (by omega)), h.h0.keepS (fun q q1 q2 => k q (by omega) (by omega)), h.p.keepS (fun q q1 q2 => k q (by omega) (by omega)), h.q.keepS (fun q q1 q2 => k q (by omega) (by omega)), fun b o e hb i => ?_, fun b o e hb i => ?_, by omega, h.o⟩
  · exact (World.frozen?_of_block (k b (by omega) (by omega))).trans (h.ft b o e hb i)
  · exact (World.frozen?_of_block (k b (by omega) (by omega))).trans (h.fh b o e hb i)
theorem LSC.next (h : LSC w v a n c a6 c6 oc ov os ta0 nt ct0 ha0 nh ch0 ta9 ct9 ha9 ch9 tr hp B4 B5 B6 B8 B9 W) (k : Below W.heap.size W W') : LSC w v a n c a6 c6 oc ov os ta0 nt ct0 ha0 nh ch0 ta9 ct9 ha9 ch9 tr hp B4 B5 B6 B8 B9 W' := h.keepG (fun b hb _ => k.block b hb) k.size (bnext h.below k)
end
end Go.Proofs.YtdcdgopblbmgoaaDoor

namespace Go.Proofs.YtdcdgopblbmgoaaDoor
open Go.RowKit

theorem stepR_tr {F : Fn} {args : List Int} {s s' : RS} (h : stepR F args s = .go s') : s'.tr.length ≤ s.tr.length + 1 := by
  unfold stepR at h
  split at h
  · split at h
    · cases h
    · injection h with h; subst h; exact execT_len _ _ _
  · split at h
    · cases h
    · injection h with h; subst h; exact Nat.le_succ _
theorem runR_tr (F : Fn) (args : List Int) : ∀ (fuel k : Nat) (s : RS), (runR F args fuel k s).tr.length ≤ s.tr.length + fuel
  | 0, _, _ => Nat.le_refl _
  | fuel + 1, k, s => by
    rw [runR]
    cases h : stepR F args s with
    | trap => exact Nat.le_add_right _ _
    | ret v => exact Nat.le_add_right _ _
    | go s' => have h1 := runR_tr F args fuel (k + 1) s'; have h2 := stepR_tr h; show (runR F args fuel (k + 1) s').tr.length ≤ _; omega
theorem outR_len (F : Fn) (args heap : List Int) (fuel : Int) : (outR F args heap fuel).tr.length ≤ 60000 ∧ (outR F args heap fuel).hp.length ≤ 32 := by
  unfold outR
  split
  · rename_i h
    rw [Bool.and_eq_true] at h
    have h2 := h.2
    simp only [runOk, Bool.and_eq_true, decide_eq_true_eq] at h2
    have h3 := runR_tr F args fuel.toNat 0 (startR F heap)
    have h4 := runR_hp F args fuel.toNat 0 (startR F heap)
    have h5 : (startR F heap).tr.length = 0 := rfl
    have h6 : (startR F heap).hp.length = 32 := by simp [startR, heapR]
    omega
  · simp
theorem phCnt_tot (ps : List Ph) : phCnt (ps.map fun p => p.args.length) = ps.length + phTot ps := by
  induction ps with
  | nil => rfl
  | cons p ps ih =>
    have h1 : phCnt ((p :: ps).map fun p => p.args.length) = (p.args.length + 1) + phCnt (ps.map fun p => p.args.length) := by simp [phCnt]
    have h2 : phTot (p :: ps) = p.args.length + phTot ps := by simp [phTot]
    rw [h1, h2, ih, List.length_cons]
    omega
theorem shsCnt_le (xs : List Blk) : shsCnt (xs.map Blk.sh) ≤ 5 * (xs.length + blksTot xs) := by
  induction xs with
  | nil => simp [shsCnt]
  | cons x xs ih =>
    have h1 : shsCnt ((x :: xs).map Blk.sh) = shCnt x.sh + shsCnt (xs.map Blk.sh) := by simp [shsCnt]
    have h2 : blksTot (x :: xs) = blkTot x + blksTot xs := by simp [blksTot]
    have h3 : shCnt x.sh = phCnt (x.phis.map fun p => p.args.length) + 5 * x.instrs.length + 4 := rfl
    rw [h1, h2, h3, phCnt_tot, List.length_cons]
    simp only [blkTot]
    omega
end Go.Proofs.YtdcdgopblbmgoaaDoor
