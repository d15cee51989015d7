import Derived.Test.YtjfcbjomfbfoiaaGreatDoorW7
namespace Go.Proofs.YtjfcbjomfbfoiaaGreatDoor
open Go.RowKit
theorem bwF_prefix (n k : Nat) : bwF n k <+: bwF n 0 := by
  unfold bwF
  rw [show n - 0 = n by omega, List.take_of_length_le (by simp : (List.finRange n).reverse.length ≤ n)]
  exact List.take_prefix _ _
set_option maxRecDepth 100000 in
set_option maxHeartbeats 2000000 in
theorem bwi_in2 (F : Fence) (n : Nat) (h8 : F.fn 118) (hro : F.round = none) (hn : 1 ≤ n) (l Bs n₀ cap : Nat) (Ms : Nat → Prop) (a : Option Addr) (xs : List Ins) (L B : Nat) (hreach : xs.length ≤ 1000000) (hM : ∀ k, L ≤ k → k < B → ¬ Ms k) (hMs : ¬ Ms Bs) (J Jx : List (Fin xs.length) → World → Prop)
    (hY : ∀ (pre : List (Fin xs.length)) (x : Fin xs.length) (W : World), J pre W → pre.length < xs.length → YieldAt F (n - 1) Tryz.prog l #[.int .i64 ((x : Nat) : Int), insV xs[x]] W fun e W' =>
      (e = .returned (.bool true) ∧ J (pre ++ [x]) W' ∧ KpB n₀ Ms W W') ∨ (e = .returned (.bool false) ∧ Jx (pre ++ [x]) W'))
    (W : World) (hBs : W.cell? ⟨Bs, 0, none⟩ = some (.slice a xs.length cap)) (hc : Hid (InssAt W L B a xs)) (h0 : J [] W) :
    CallsIn F n Tryz.prog 118 #[.func (.yield l) #[] #[], .pointer (some ⟨Bs, 0, none⟩)] W fun e W' => (∃ v, e = .returned v) ∧
      ((∃ ys, ys = bwF xs.length 0 ∧ J ys W') ∨ (∃ pre, (∃ q, pre = bwF xs.length q) ∧ Jx pre W')) := by
  refine callsIn_of_wp Tryz.func118 rfl h8 ?_ hro
  simp only [Tryz.ntmps118, List.size_toArray, List.length_cons, List.length_nil, Nat.reduceAdd, Nat.reduceSub, Array.replicate_succ, Array.replicate_zero, List.push_toArray, List.append_toArray, List.nil_append, List.cons_append]
  gi_wp2
  gi_loopw [3] (fun i wr => ∃ (k : Nat) (z : Int), k ≤ xs.length ∧ i = .int .i64 z ∧ z + 1 = (k : Int) ∧ J (bwF xs.length k) wr ∧ KpB n₀ Ms W wr)
    (fun i _ => (intOf i + 1).toNat)
  case atStart => exact ⟨xs.length, _, Nat.le_refl _, rfl, by omega, by rw [bwF_start]; exact h0, KpB.refl _⟩
  case round =>
    obtain ⟨k, z, hk, rfl, hzk, hJs, hnx⟩ := hrel
    have hBs' := hnx.cell hBs hMs
    cases k with
    | zero =>
      have hz1 : z = -1 := by omega
      subst hz1
      gi_wp2
      go_end0
      exact ⟨⟨_, rfl⟩, .inl ⟨_, rfl, hJs⟩⟩
    | succ q =>
      have hz1 : z = (q : Int) := by omega
      subst hz1
      have hq : q < xs.length := hk
      obtain ⟨b, o, ea, hbB, hcx⟩ := hc.out q hq
      subst ea
      have hMb := hM b hbB.1 hbB.2
      obtain ⟨q0, q1, q2, q3, q4⟩ := hcx
      have r0 := hnx.cell q0 hMb
      have r1 := hnx.cell q1 hMb
      have r2 := hnx.cell q2 hMb
      have r3 := hnx.cell q3 hMb
      have r4 := hnx.cell q4 hMb
      clear q0 q1 q2 q3 q4
      obtain ⟨fn, tmps, assign, body, hy, hR⟩ := hY _ ⟨q, hq⟩ wr hJs (by rw [bwF_len]; omega)
      have hyy : (Instr.yield l #[.int .i64 ((q : Nat) : Int), .agg #[.int .i64 xs[q].op, .int .i64 xs[q].dst, .int .i64 xs[q].a, .int .i64 xs[q].b, .int .i64 xs[q].imm]]).run Tryz.prog wr = _ := hy
      clear hy
      gi_wp2
      refine hR.mono ?_
      rintro e W3 (⟨rfl, hJ3, hk3⟩ | ⟨rfl, hJx3⟩)
      · gi_wp2
        go_roundw
        case rel => exact ⟨q, _, by omega, rfl, by omega, by rw [bwF_step hq]; exact hJ3, hnx.trans hk3⟩
        case measure => simp [intOf]
      · gi_wp2
        refine bodyPost_ret (results_none rfl _ _ _) rfl ?_
        exact ⟨⟨_, rfl⟩, .inr ⟨_, ⟨q, (bwF_step hq).symm⟩, hJx3⟩⟩
theorem backwardI_stops2 (F : Fence) (n : Nat) (h8 : F.fn 118) (hro : F.round = none) (hn : 1 ≤ n) (Bs n₀ cap : Nat) (Ms : Nat → Prop) (a : Option Addr) (xs : List Ins) (L B : Nat) (hreach : xs.length ≤ 1000000) (hB : B ≤ n₀) (hM : ∀ k, L ≤ k → k < B → ¬ Ms k) (hMs : ¬ Ms Bs) (w : World) (hn0 : n₀ ≤ w.heap.size) (hBs : Bs < w.heap.size)
    (hc : w.cell? ⟨Bs, 0, none⟩ = some (.slice a xs.length cap)) (hI : Hid (InssAt w L B a xs)) :
    SeqStopsK F n Tryz.prog 118 #[.pointer (some ⟨Bs, 0, none⟩)] (fun x : Fin xs.length => #[Value.int .i64 ((x : Nat) : Int), insV xs[x]]) (KpB n₀ Ms) (fun ys => ys = bwF xs.length 0) (fun pre => ∃ q, pre = bwF xs.length q) xs.length w := fun l J Jx W hW _ _ hY h0 =>
  bwi_in2 F n h8 hro hn l Bs n₀ cap Ms a xs L B hreach hM hMs J Jx hY W ((hW.cell (p := ⟨Bs, 0, none⟩) hBs).trans hc) (hide (hI.out.keepS (fun k _ h2 => hW.block k (by omega)))) h0
end Go.Proofs.YtjfcbjomfbfoiaaGreatDoor
