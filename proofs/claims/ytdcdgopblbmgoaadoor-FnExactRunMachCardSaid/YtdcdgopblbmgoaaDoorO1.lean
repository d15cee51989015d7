import Derived.Test.YtdcdgopblbmgoaaDoorW2
import Derived.Test.YtdcdgopblbmgoaaDoorN10
namespace Go.Proofs.YtdcdgopblbmgoaaDoor
open Go.RowKit

set_option maxHeartbeats 1000000 in
theorem eqOutcome_yes (co va st : Int) (ta ta' ha ha' : Option Addr) (nt ct ct' nh ch ch' : Nat) (tr hp : List Int) (L B L' B' : Nat) (w : World) (h1 : Hid (IntsAt w L B ta tr)) (h2 : Hid (IntsAt w L' B' ta' tr)) (h3 : Hid (IntsAt w L B ha hp)) (h4 : Hid (IntsAt w L' B' ha' hp)) (hx : Hid (nt = tr.length)) (hy : Hid (nh = hp.length)) (hn : nt ≤ 1048576) (hm : nh ≤ 1048576) (hB : B ≤ w.heap.size) (hB' : B' ≤ w.heap.size) :
    Calls Tryd.prog 24 #[.agg #[.int .i64 co, .int .i64 va, .int .i64 st, .slice ta nt ct, .slice ha nh ch], .agg #[.int .i64 co, .int .i64 va, .int .i64 st, .slice ta' nt ct', .slice ha' nh ch']] w fun e w' => e = .returned (.bool true) ∧ Below w.heap.size w w' := by
  have e1 : (co != co) = false := by simp
  have e2 : (va != va) = false := by simp
  have e3 : (st != st) = false := by simp
  have bl := fun x y => balloc (balloc (Below.refl w.heap.size w) x) y
  have C1 := fun x y => hide (eqInts_yes ta ta' nt ct ct' tr L B L' B' ((w.alloc x).alloc y) (hide (h1.out.keep ((bl x y).mono hB))) (hide (h2.out.keep ((bl x y).mono hB'))) hx hn (by have := (bl x y).size; omega) (by have := (bl x y).size; omega))
  go_enter Tryd.func24, Tryd.ntmps24
  go_wp2_with fail
  refine (C1 _ _).out.mono ?_
  rintro e w1 ⟨rfl, hb1⟩
  obtain ⟨k1, f1⟩ := bcell hb1
  have hs1 := hb1.size
  simp at hs1
  have HB1 := hide (bnext (bl _ _) hb1)
  clear hb1
  go_wp2_with fail
  refine (eqInts_yes ha ha' nh ch ch' hp L B L' B' _ (hide (h3.out.keep (HB1.out.mono hB))) (hide (h4.out.keep (HB1.out.mono hB'))) hy hm (by omega) (by omega)).mono ?_
  rintro e w2 ⟨rfl, hb2⟩
  go_wp2
  go_ret
  exact ⟨rfl, bnext HB1.out hb2⟩

/-- The one block of a row of numbers. -/
theorem IntsAt.narrow {w : World} {L B : Nat} {a : Option Addr} {xs : List Int} (h : IntsAt w L B a xs) (hf : ∀ b o, a = some ⟨b, o, none⟩ → L ≤ b ∧ b < B → ∀ i, w.frozen? ⟨b, i, none⟩ = false) : ∃ b e, IntsAt w b e a xs ∧ ThawB b e w ∧ ((b = 0 ∧ e = 0) ∨ (e = b + 1 ∧ (L ≤ b ∧ b < B) ∧ ∃ o, a = some ⟨b, o, none⟩)) := by
  by_cases hx : 0 < xs.length
  · obtain ⟨b, o, e, hb, _⟩ := h 0 hx
    refine ⟨b, b + 1, fun i hi => ?_, fun q o' hq => ?_, Or.inr ⟨rfl, hb, o, e⟩⟩
    · obtain ⟨b', o', e', _, hc⟩ := h i hi
      have e2 : some (⟨b, o, none⟩ : Addr) = some ⟨b', o', none⟩ := e.symm.trans e'
      cases e2
      exact ⟨b, o, e, by omega, hc⟩
    · have : q = b := by omega
      subst this
      exact hf q o e hb o'
  · exact ⟨0, 0, fun i hi => absurd hi (by omega), fun q o' hq => absurd hq (by omega), Or.inl ⟨rfl, rfl⟩⟩

set_option maxHeartbeats 1000000 in
theorem markOutcome_any (co va st k : Int) (ta ha : Option Addr) (nt ct nh ch : Nat) (tr hp : List Int) (L B : Nat) (w : World) (h1 : Hid (IntsAt w L B ta tr)) (h2 : Hid (IntsAt w L B ha hp)) (hx : Hid (nt = tr.length)) (hy : Hid (nh = hp.length)) (hn : nt ≤ 1048576) (hm : nh ≤ 1048576) (hB : B ≤ w.heap.size)
    (f1 : Hid (∀ b o, ta = some ⟨b, o, none⟩ → L ≤ b ∧ b < B → ∀ i, w.frozen? ⟨b, i, none⟩ = false)) (f2 : Hid (∀ b o, ha = some ⟨b, o, none⟩ → L ≤ b ∧ b < B → ∀ i, w.frozen? ⟨b, i, none⟩ = false)) (dj : Hid (∀ b o b' o', ta = some ⟨b, o, none⟩ → ha = some ⟨b', o', none⟩ → b ≠ b')) (h0 : 0 ≤ k) (hk : k ≤ 1000000) :
    Calls Tryd.prog 27 #[.agg #[.int .i64 co, .int .i64 va, .int .i64 st, .slice ta nt ct, .slice ha nh ch], .int .i64 k] w fun e w' => e = .returned (.int .i64 (k + nt + nh)) ∧ Mod L B w w' ∧ IntsAt w' L B ta (marks k nt) ∧ IntsAt w' L B ha (marks (k + nt) nh) := by
  have ba := fun x => balloc (Below.refl w.heap.size w) x
  obtain ⟨bt, et, n1, t1, r1⟩ := h1.out.narrow f1.out
  obtain ⟨bh, eh, n2, t2, r2⟩ := h2.out.narrow f2.out
  have r1' : (bt = 0 ∧ et = 0) ∨ (et = bt + 1 ∧ L ≤ bt ∧ bt < B) := by
    rcases r1 with r | ⟨r, r', _⟩
    · exact Or.inl r
    · exact Or.inr ⟨r, r'⟩
  have r2' : (bh = 0 ∧ eh = 0) ∨ (eh = bh + 1 ∧ L ≤ bh ∧ bh < B) := by
    rcases r2 with r | ⟨r, r', _⟩
    · exact Or.inl r
    · exact Or.inr ⟨r, r'⟩
  have het : et ≤ w.heap.size := by omega
  have heh : eh ≤ w.heap.size := by omega
  have hdis : ∀ q, bt ≤ q ∧ q < et → ¬ (bh ≤ q ∧ q < eh) := fun q q1 q2 => by
    rcases r1 with r1 | ⟨r1, _, o1, e1⟩
    · omega
    · rcases r2 with r2 | ⟨r2, _, o2, e2⟩
      · omega
      · exact dj.out _ _ _ _ e1 e2 (by omega)
  have C1 := fun x => hide (markInts_any ta nt ct k tr bt et (w.alloc x) (hide (n1.keep ((ba x).mono het))) hx (hide (t1.keepS (Same.of_below ((ba x).mono het)))) hn h0 (by omega))
  have N2 := hide n2
  have T2 := hide t2
  clear n1 t1 n2 t2
  go_enter Tryd.func27, Tryd.ntmps27
  go_wp2_with fail
  refine (C1 _).out.mono ?_
  rintro e w1 ⟨rfl, hi1, hm1⟩
  have k4 : w1.cell? ⟨w.heap.size, 4, none⟩ = some (.slice ha nh ch) := (cell_of (hi1.block w.heap.size (by omega))).trans (by simp [go_sem])
  have HM1 := hide hm1
  have hsa : Same bh eh w w1 := fun q q1 q2 => (hi1.block q (fun q3 => hdis q q3 ⟨q1, q2⟩)).trans ((ba _).block q (by omega))
  have HS := hide hsa
  have HI1 := hide hi1
  clear hi1 hm1 hsa
  go_wp2_with fail
  refine (markInts_any ha nh ch (k + nt) hp bh eh w1 (hide (N2.out.keepS HS.out)) hy (hide (T2.out.keepS HS.out)) hm (by omega) (by omega)).mono ?_
  rintro e w2 ⟨rfl, hi2, hm2⟩
  have HI2 := hide hi2
  have HM2 := hide hm2
  clear hi2 hm2
  go_wp2
  go_ret
  have hT : IntsAt w2 bt et ta (marks k nt) := HM1.out.keepS (fun q q1 q2 => HI2.out.block q (fun q3 => hdis q ⟨q1, q2⟩ q3))
  refine ⟨rfl, ⟨HI2.out.os.trans HI1.out.os, HI2.out.tape.trans HI1.out.tape, HI2.out.output.trans HI1.out.output, by rw [HI2.out.size, HI1.out.size]; simp, fun q hq hq2 => ?_⟩, ?_, ?_⟩
  · exact (HI2.out.block q (by omega)).trans ((HI1.out.block q (by omega)).trans ((ba _).block q hq))
  · intro i hi
    obtain ⟨b, o, e, hb, hc⟩ := hT i hi
    exact ⟨b, o, e, by omega, hc⟩
  · intro i hi
    obtain ⟨b, o, e, hb, hc⟩ := HM2.out i hi
    exact ⟨b, o, e, by omega, hc⟩

set_option maxHeartbeats 1000000 in
theorem heldOutcome_any (co va st k : Int) (ta ha : Option Addr) (nt ct nh ch : Nat) (L B : Nat) (w : World) (h1 : Hid (IntsAt w L B ta (marks k nt))) (h2 : Hid (IntsAt w L B ha (marks (k + nt) nh))) (hn : nt ≤ 1048576) (hm : nh ≤ 1048576) (hB : B ≤ w.heap.size) (h0 : 0 ≤ k) (hk : k ≤ 1000000) :
    Calls Tryd.prog 28 #[.agg #[.int .i64 co, .int .i64 va, .int .i64 st, .slice ta nt ct, .slice ha nh ch], .int .i64 k] w fun e w' => e = .returned (.int .i64 (k + nt + nh)) ∧ Below w.heap.size w w' := by
  have ba := fun x => balloc (Below.refl w.heap.size w) x
  have C1 := fun x => hide (heldInts_any ta nt ct k L B (w.alloc x) (hide (h1.out.keep ((ba x).mono hB))) hn h0 (by omega))
  have C2 := fun x => hide (heldInts_any ha nh ch (k + nt) L B (w.alloc x) (hide (h2.out.keep ((ba x).mono hB))) hm (by omega) (by omega))
  go_enter Tryd.func28, Tryd.ntmps28
  go_wp2_with fail
  refine (C1 _).out.mono ?_
  rintro e w1 ⟨rfl, rfl⟩
  go_wp2_with fail
  refine (C2 _).out.mono ?_
  rintro e w2 ⟨rfl, rfl⟩
  go_wp2
  go_ret
  exact ⟨rfl, ba _⟩
end Go.Proofs.YtdcdgopblbmgoaaDoor

namespace Go.Proofs.YtdcdgopblbmgoaaDoor
open Go.RowKit

/-- The variable of an outcome, at block r. -/
def OX (w : World) (r : Nat) (co va st : Int) (ta : Option Addr) (nt ct : Nat) (ha : Option Addr) (nh ch : Nat) : Prop := w.cell? ⟨r, 0, none⟩ = some (.int .i64 co) ∧ w.cell? ⟨r, 1, none⟩ = some (.int .i64 va) ∧ w.cell? ⟨r, 2, none⟩ = some (.int .i64 st) ∧ w.cell? ⟨r, 3, none⟩ = some (.slice ta nt ct) ∧ w.cell? ⟨r, 4, none⟩ = some (.slice ha nh ch)
theorem OX.keep {w w1 : World} {r : Nat} {co va st : Int} {ta ha : Option Addr} {nt ct nh ch : Nat} (h : OX w r co va st ta nt ct ha nh ch) (k : w1.heap[r]? = w.heap[r]?) : OX w1 r co va st ta nt ct ha nh ch :=
  ⟨(cell_of k).trans h.1, (cell_of k).trans h.2.1, (cell_of k).trans h.2.2.1, (cell_of k).trans h.2.2.2.1, (cell_of k).trans h.2.2.2.2⟩
theorem OX.new (w : World) (co va st : Int) (ta ha : Option Addr) (nt ct nh ch t : Nat) : OX (w.alloc (.cells #[.int .i64 co, .int .i64 va, .int .i64 st, .slice ta nt ct, .slice ha nh ch] t)) w.heap.size co va st ta nt ct ha nh ch := by
  refine ⟨?_, ?_, ?_, ?_, ?_⟩ <;> simp [go_sem]
theorem FB.new (w : World) (v : Int) (a : Option Addr) (n c t : Nat) : FB (w.alloc (.cells #[.int .i64 v, .slice a n c] t)) w.heap.size v a n c := by
  refine ⟨?_, ?_⟩ <;> simp [go_sem]

/-- What the law keeps in its hands. -/
structure LSC (w : World) (v : Int) (a : Option Addr) (n c : Nat) (a6 : Option Addr) (c6 : Nat) (oc ov os : Int) (ta0 : Option Addr) (nt ct0 : Nat) (ha0 : Option Addr) (nh ch0 : Nat) (ta9 : Option Addr) (ct9 : Nat) (ha9 : Option Addr) (ch9 : Nat) (tr hp : List Int) (B4 B5 B6 B8 B9 : Nat) (W : World) : Prop where
  below : Below w.heap.size w W
  f : FB W w.heap.size v a n c
  g : FB W B6 v a6 n c6
  x : OX W B5 oc ov os ta0 nt ct0 ha0 nh ch0
  y : OX W B9 oc ov os ta9 nt ct9 ha9 nh ch9
  t0 : IntsAt W B4 B5 ta0 tr
  h0 : IntsAt W B4 B5 ha0 hp
  p : IntsAt W B8 B9 ta9 tr
  q : IntsAt W B8 B9 ha9 hp
  ft : ∀ b o, ta9 = some ⟨b, o, none⟩ → B8 ≤ b ∧ b < B9 → ∀ i, W.frozen? ⟨b, i, none⟩ = false
  fh : ∀ b o, ha9 = some ⟨b, o, none⟩ → B8 ≤ b ∧ b < B9 → ∀ i, W.frozen? ⟨b, i, none⟩ = false
  z : B9 < W.heap.size
  o : w.heap.size < B4 ∧ B4 ≤ B5 ∧ B5 < B6 ∧ B6 < B8 ∧ B8 ≤ B9
section
variable {w : World} {v : Int} {a : Option Addr} {n c : Nat} {a6 : Option Addr} {c6 : Nat} {oc ov os : Int} {ta0 : Option Addr} {nt ct0 : Nat} {ha0 : Option Addr} {nh ch0 : Nat} {ta9 : Option Addr} {ct9 : Nat} {ha9 : Option Addr} {ch9 : Nat} {tr hp : List Int} {B4 B5 B6 B8 B9 : Nat} {W W' : World}
theorem LSC.keepG (h : LSC w v a n c a6 c6 oc ov os ta0 nt ct0 ha0 nh ch0 ta9 ct9 ha9 ch9 tr hp B4 B5 B6 B8 B9 W) (k : ∀ b, b < W.heap.size → (b < B5 + 1 ∨ b = B6 ∨ B8 ≤ b) → W'.heap[b]? = W.heap[b]?) (sz : W.heap.size ≤ W'.heap.size) (bl : Below w.heap.size w W') : LSC w v a n c a6 c6 oc ov os ta0 nt ct0 ha0 nh ch0 ta9 ct9 ha9 ch9 tr hp B4 B5 B6 B8 B9 W' := by
  obtain ⟨o1, o2, o3, o4, o5⟩ := h.o
  have hz := h.z
  refine ⟨bl, h.f.keep (k _ (by omega) (by omega)), h.g.keep (k _ (by omega) (by omega)), h.x.keep (k _ (by omega) (by omega)), h.y.keep (k _ (by omega) (by omega)), h.t0.keepS (fun q q1 q2 => k q (by omega) (by omega)), h.h0.keepS (fun q q1 q2 => k q (by omega) (by omega)), h.p.keepS (fun q q1 q2 => k q (by omega) (by omega)), h.q.keepS (fun q q1 q2 => k q (by omega) (by omega)), fun b o e hb i => ?_, fun b o e hb i => ?_, by omega, h.o⟩
  · exact (World.frozen?_of_block (k b (by omega) (by omega))).trans (h.ft b o e hb i)
  · exact (World.frozen?_of_block (k b (by omega) (by omega))).trans (h.fh b o e hb i)
theorem LSC.next (h : LSC w v a n c a6 c6 oc ov os ta0 nt ct0 ha0 nh ch0 ta9 ct9 ha9 ch9 tr hp B4 B5 B6 B8 B9 W) (k : Below W.heap.size W W') : LSC w v a n c a6 c6 oc ov os ta0 nt ct0 ha0 nh ch0 ta9 ct9 ha9 ch9 tr hp B4 B5 B6 B8 B9 W' := h.keepG (fun b hb _ => k.block b hb) k.size (bnext h.below k)
end
end Go.Proofs.YtdcdgopblbmgoaaDoor
