import Derived.Test.YtanaeindldcapaaDoorWR1
namespace Go.Proofs.YtanaeindldcapaaDoor
open Go.RowKit Go.Shelf
section
attribute [local go_sem] Oper.semAt_some
/-- What lies still. -/
structure Stc2 (x : Blk) (L B Bx n₀ n₁ : Nat) (V : World) : Prop where
  op : OpTabW V
  ter : TerTabW V
  blk : BlkAt V L B Bx 0 x
  lt : Bx < n₁
  le : B ≤ n₀
  g1 : 0 < n₀
  g2 : 1 < n₀
  nn : n₀ ≤ n₁
theorem Stc2.same {x : Blk} {L B Bx n₀ n₁ : Nat} {V V' : World} (h : Stc2 x L B Bx n₀ n₁ V) (e : ∀ k, k < n₁ → V'.heap[k]? = V.heap[k]?) (hs : V.heap.size ≤ V'.heap.size) : Stc2 x L B Bx n₀ n₁ V' :=
  ⟨h.op.of_block (e _ (Nat.lt_of_lt_of_le h.g1 h.nn)) hs, h.ter.of_block (e _ (Nat.lt_of_lt_of_le h.g2 h.nn)) hs, h.blk.keepS (fun k _ h2 => e k (Nat.lt_of_lt_of_le (Nat.lt_of_lt_of_le h2 h.le) h.nn)) (e _ h.lt), h.lt, h.le, h.g1, h.g2, h.nn⟩
theorem Stc2.below {x : Blk} {L B Bx n₀ n₁ : Nat} {V V' : World} (h : Stc2 x L B Bx n₀ n₁ V) (k : Below V.heap.size V V') (hn : n₁ ≤ V.heap.size) : Stc2 x L B Bx n₀ n₁ V' := h.same (fun i hi => k.block i (by omega)) k.size
theorem Stc2.kp {x : Blk} {L B Bx n₀ n₁ : Nat} {Ms : Nat → Prop} {V V' : World} (h : Stc2 x L B Bx n₀ n₁ V) (k : KpB n₀ Ms V V') (hM : ∀ k, L ≤ k → k < B → ¬ Ms k) (hMx : ¬ Ms Bx) (hM1 : ¬ Ms 0) (hM2 : ¬ Ms 1) : Stc2 x L B Bx n₀ n₁ V' := by
  have hb : V'.heap[Bx]? = V.heap[Bx]? := by
    obtain ⟨pa, pc, ia, ic, e0, _⟩ := h.blk
    exact k.block e0 hMx
  exact ⟨h.op.of_block (k.low _ h.g1 hM1) k.size, h.ter.of_block (k.low _ h.g2 hM2) k.size, h.blk.keepS (fun i h1 h2 => k.low i (Nat.lt_of_lt_of_le h2 h.le) (hM i h1 h2)) hb, h.lt, h.le, h.g1, h.g2, h.nn⟩
end
section
variable {F : Fence} {n : Nat} {P : Program} {α : Type}
/-- The iterator's promise. J: between two rounds, z the walker's own row; Jx: where a round has said no more; Sp: what can be said of a part that has come. turn: the row z may be turned; vary: z may be another at each round. -/
def SeqS (F : Fence) (n : Nat) (P : Program) (g : Nat) (lb : Array Value) (encs : Nat → α → Array Value) (Px : Nat → α → World → Prop) (Kp : World → World → Prop) (S Sp : List α → Prop) (N : Nat) (turn vary : Prop) (w : World) : Prop :=
  ∀ (l : Nat) (J : Nat → List α → World → Prop) (Jx : List α → World → Prop) (W : World), Below w.heap.size w W → l < W.heap.size → (∀ z, OwnFrom W.heap.size (J z)) → OwnFrom W.heap.size Jx → (turn → ∀ z s V V', W.heap.size ≤ z → J z s V → V.grownBy V' (some z) → J z s V') →
    (vary → (∀ z z' s V V', W.heap.size ≤ z' → J z s V → Below W.heap.size V V' → J z' s V') ∧ ∀ s V V', Jx s V → Below W.heap.size V V' → Jx s V') →
    (∀ z pre x V, W.heap.size ≤ z → J z pre V → Px z x V → pre.length < N → YieldAt F (n - 1) P l (encs z x) V fun e V' => (e = .returned (.bool true) ∧ J z (pre ++ [x]) V' ∧ Kp V V' ∧ KeepsFrom W.heap.size V V') ∨ (e = .returned (.bool false) ∧ Jx (pre ++ [x]) V' ∧ Kp V V' ∧ KeepsFrom W.heap.size V V')) →
    (∀ z V, W.heap.size ≤ z → z < V.heap.size → Below W.heap.size W V → J z [] V) → CallsIn F n P g (#[.func (.yield l) #[] #[]] ++ lb) W fun e V => (∃ v, e = .returned v) ∧ ((∃ z xs, W.heap.size ≤ z ∧ S xs ∧ J z xs V) ∨ ∃ pre, Sp pre ∧ Jx pre V)
end
theorem bwF_prefix (n k : Nat) : bwF n k <+: bwF n 0 := by
  unfold bwF
  rw [show n - 0 = n by omega, List.take_of_length_le (by simp : (List.finRange n).reverse.length ≤ n)]
  exact List.take_prefix _ _
set_option maxRecDepth 100000 in
set_option maxHeartbeats 2000000 in
theorem bwi_in2 (F : Fence) (n : Nat) (h8 : F.fn 85) (hro : F.round = none) (hn : 1 ≤ n) (l Bs n₀ cap : Nat) (Ms : Nat → Prop) (a : Option Addr) (xs : List Ins) (L B : Nat) (hreach : xs.length ≤ 1000000) (hM : ∀ k, L ≤ k → k < B → ¬ Ms k) (hMs : ¬ Ms Bs) (J Jx : List (Fin xs.length) → World → Prop)
    (hY : ∀ (pre : List (Fin xs.length)) (x : Fin xs.length) (W : World), J pre W → pre.length < xs.length → YieldAt F (n - 1) Tryd.prog l #[.int .i64 ((x : Nat) : Int), insV xs[x]] W fun e W' =>
      (e = .returned (.bool true) ∧ J (pre ++ [x]) W' ∧ KpB n₀ Ms W W') ∨ (e = .returned (.bool false) ∧ Jx (pre ++ [x]) W'))
    (W : World) (hBs : W.cell? ⟨Bs, 0, none⟩ = some (.slice a xs.length cap)) (hc : Hid (InssAt W L B a xs)) (h0 : J [] W) :
    CallsIn F n Tryd.prog 85 #[.func (.yield l) #[] #[], .pointer (some ⟨Bs, 0, none⟩)] W fun e W' => (∃ v, e = .returned v) ∧
      ((∃ ys, ys = bwF xs.length 0 ∧ J ys W') ∨ (∃ pre, (∃ q, pre = bwF xs.length q) ∧ Jx pre W')) := by
  refine callsIn_of_wp Tryd.func85 rfl h8 ?_ hro
  simp only [Tryd.ntmps85, List.size_toArray, List.length_cons, List.length_nil, Nat.reduceAdd, Nat.reduceSub, Array.replicate_succ, Array.replicate_zero, List.push_toArray, List.append_toArray, List.nil_append, List.cons_append]
  gi_wp2
  gi_loopw [3] (fun i wr => ∃ (k : Nat) (z : Int), k ≤ xs.length ∧ i = .int .i64 z ∧ z + 1 = (k : Int) ∧ J (bwF xs.length k) wr ∧ KpB n₀ Ms W wr)
    (fun i _ => (intOf i + 1).toNat)
  case atStart => exact ⟨xs.length, _, Nat.le_refl _, rfl, by omega, by rw [bwF_start]; exact h0, KpB.refl _⟩
  case round =>
    obtain ⟨k, z, hk, rfl, hzk, hJs, hnx⟩ := hrel
    have hBs' := hnx.cell hBs hMs
    cases k with
    | zero =>
      have hz1 : z = -1 := by omega
      subst hz1
      gi_wp2
      go_end0
      exact ⟨⟨_, rfl⟩, .inl ⟨_, rfl, hJs⟩⟩
    | succ q =>
      have hz1 : z = (q : Int) := by omega
      subst hz1
      have hq : q < xs.length := hk
      obtain ⟨b, o, ea, hbB, hcx⟩ := hc.out q hq
      subst ea
      have hMb := hM b hbB.1 hbB.2
      obtain ⟨q0, q1, q2, q3, q4⟩ := hcx
      have r0 := hnx.cell q0 hMb
      have r1 := hnx.cell q1 hMb
      have r2 := hnx.cell q2 hMb
      have r3 := hnx.cell q3 hMb
      have r4 := hnx.cell q4 hMb
      clear q0 q1 q2 q3 q4
      obtain ⟨fn, tmps, assign, body, hy, hR⟩ := hY _ ⟨q, hq⟩ wr hJs (by rw [bwF_len]; omega)
      have hyy : (Instr.yield l #[.int .i64 ((q : Nat) : Int), .agg #[.int .i64 xs[q].op, .int .i64 xs[q].dst, .int .i64 xs[q].a, .int .i64 xs[q].b, .int .i64 xs[q].imm]]).run Tryd.prog wr = _ := hy
      clear hy
      gi_wp2
      refine hR.mono ?_
      rintro e W3 (⟨rfl, hJ3, hk3⟩ | ⟨rfl, hJx3⟩)
      · gi_wp2
        go_roundw
        case rel => exact ⟨q, _, by omega, rfl, by omega, by rw [bwF_step hq]; exact hJ3, hnx.trans hk3⟩
        case measure => simp [intOf]
      · gi_wp2
        refine bodyPost_ret (results_none rfl _ _ _) rfl ?_
        exact ⟨⟨_, rfl⟩, .inr ⟨_, ⟨q, (bwF_step hq).symm⟩, hJx3⟩⟩
theorem backwardI_stops2 (F : Fence) (n : Nat) (h8 : F.fn 85) (hro : F.round = none) (hn : 1 ≤ n) (Bs n₀ cap : Nat) (Ms : Nat → Prop) (a : Option Addr) (xs : List Ins) (L B : Nat) (hreach : xs.length ≤ 1000000) (hB : B ≤ n₀) (hM : ∀ k, L ≤ k → k < B → ¬ Ms k) (hMs : ¬ Ms Bs) (w : World) (hn0 : n₀ ≤ w.heap.size) (hBs : Bs < w.heap.size)
    (hc : w.cell? ⟨Bs, 0, none⟩ = some (.slice a xs.length cap)) (hI : Hid (InssAt w L B a xs)) :
    SeqStopsK F n Tryd.prog 85 #[.pointer (some ⟨Bs, 0, none⟩)] (fun x : Fin xs.length => #[Value.int .i64 ((x : Nat) : Int), insV xs[x]]) (KpB n₀ Ms) (fun ys => ys = bwF xs.length 0) (fun pre => ∃ q, pre = bwF xs.length q) xs.length w := fun l J Jx W hW _ _ hY h0 =>
  bwi_in2 F n h8 hro hn l Bs n₀ cap Ms a xs L B hreach hM hMs J Jx hY W ((hW.cell (p := ⟨Bs, 0, none⟩) hBs).trans hc) (hide (hI.out.keepS (fun k _ h2 => hW.block k (by omega)))) h0
end Go.Proofs.YtanaeindldcapaaDoor
