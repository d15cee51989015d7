import Derived.Test.YtdcdgopblbmgoaaDoorR2
import Derived.Deep.RegionHeld3
namespace Go.Proofs.YtdcdgopblbmgoaaDoor
open Go.RowKit

set_option maxHeartbeats 1000000 in
theorem exec37 (op : Int) (dst a b imm : Int) (gv nv cv : Nat) (aa : Option Addr) (na ca : Nat) (code value steps : Int) (ta : Option Addr) (nt ct : Nat) (gh ch : Nat) (w : World) (vals hp tr : List Int) (B : Nat)
    (hm : Hid (RunMem w B gv gh 2 (.slice ta nt ct) vals hp tr)) (hB : B ≤ w.heap.size) (hnv : Hid (nv = vals.length)) (d0 : 0 ≤ dst) (d1 : dst < nv) (a0 : 0 ≤ a) (a1 : a < nv) (b0 : 0 ≤ b) (b1 : b < nv) (h3 : 3 ≤ op) (h7 : op ≤ 7) (hb : op = 6 → getN vals b ≠ 0) :
    Calls Tryd.prog 70 #[.agg #[.int .i64 op, .int .i64 dst, .int .i64 a, .int .i64 b, .int .i64 imm], .slice (some ⟨gv, 0, none⟩) nv cv, .slice aa na ca, .agg #[.int .i64 code, .int .i64 value, .int .i64 steps, .slice ta nt ct, .slice (some ⟨gh, 0, none⟩) 32 ch]] w
      (ExecPost gv nv cv code value steps gh ch B (setN vals dst (arithR op (getN vals a) (getN vals b))) (hp) (tr) w) := by
  have hgv := hm.out.vals.lt
  have hgh := hm.out.heap.lt
  obtain ⟨d, rfl, hdx, -⟩ := at_nat hnv.out d0 d1
  have c1 := in3 w (hm.out.vals.2 d hdx) hgv
  have c2 := fr3 w (hm.out.vals.frozen d) hgv
  obtain ⟨ka, rfl, hax, -⟩ := at_nat hnv.out a0 a1
  have c3 := in3 w (hm.out.vals.2 ka hax) hgv
  obtain ⟨kb, rfl, hbx, -⟩ := at_nat hnv.out b0 b1
  have c4 := in3 w (hm.out.vals.2 kb hbx) hgv
  have ne1 : w.heap.size ≠ gv := by omega
  have ne2 : gv ≠ w.heap.size := by omega
  have hE : setN vals d (arithR op (getN vals ka) (getN vals kb)) = vals.set d (arithR op vals[ka] vals[kb]) := by rw [getN_of _ _ hax, getN_of _ _ hbx]; simp [setN]
  rw [hE]
  rw [getN_of _ _ hbx] at hb
  clear hE
  have R := fun x y z => ((((Rn.of (r := w.heap.size + 1 + 1) hm.out hB (bl3 w x y z) (by omega)).setV hdx (arithR op vals[ka] vals[kb])).out5 (.int .i64 code) (.int .i64 value) (.int .i64 steps) (.slice ta nt ct) (.slice (some ⟨gh, 0, none⟩) 32 ch)).drew.drew)
  have HC := hide (fun W => l1Arith_any op vals[ka] vals[kb] W h3 h7 hb)
  clear hb
  generalize arithR op vals[ka] vals[kb] = V at *
  generalize vals[ka] = VA at *
  generalize vals[kb] = VB at *
  have o1 : (op == 1) = false := by simp only [beq_eq_false_iff_ne]; omega
  have o2 : (op == 2) = false := by simp only [beq_eq_false_iff_ne]; omega
  have o8 : (op == 8) = false := by simp only [beq_eq_false_iff_ne]; omega
  have o9 : (op == 9) = false := by simp only [beq_eq_false_iff_ne]; omega
  have o10 : (op == 10) = false := by simp only [beq_eq_false_iff_ne]; omega
  go_enter Tryd.func70, Tryd.ntmps70
  go_wp2_with fail
  refine wp_region_held_drew (S := (fun w' => w'.cell? ⟨w.heap.size, 0, none⟩ = some (.int .i64 op) ∧ w'.cell? ⟨w.heap.size, 1, none⟩ = some (.int .i64 d) ∧ w'.cell? ⟨w.heap.size, 2, none⟩ = some (.int .i64 ka) ∧ w'.cell? ⟨w.heap.size, 3, none⟩ = some (.int .i64 kb))) (by kernel_rfl) (by (try dsimp only); go_keep) (fun hHeld => ?_)
  refine wpAnyH_take (i := 0) (v := ?_) rfl (by kernel_rfl) (by kernel_rfl) (by kernel_rfl) (fun _ _ _ h => h) (Or.inl ⟨by rfl, ?_⟩) (by assumption) ?_
  rotate_left
  · intro w hSw; (try dsimp only at hSw); go_simp; try with_reducible rfl
  simp only [Act.put, List.getElem_toArray, List.getElem_cons_zero, List.setIfInBounds_toArray, List.set_cons_zero, List.set_cons_succ]
  refine wpAnyH_take (i := 1) (v := ?_) rfl (by kernel_rfl) (by kernel_rfl) (by kernel_rfl) (fun _ _ _ h => h) (Or.inl ⟨by rfl, ?_⟩) (by assumption) ?_
  rotate_left
  · intro w hSw; (try dsimp only at hSw); go_simp; try with_reducible rfl
  simp only [Act.put, List.getElem_toArray, List.getElem_cons_zero, List.getElem_cons_succ, List.setIfInBounds_toArray, List.set_cons_zero, List.set_cons_succ]
  refine wpAnyH_take (i := 2) (v := ?_) rfl (by kernel_rfl) (by kernel_rfl) (by kernel_rfl) (fun _ _ _ h => h) (Or.inl ⟨by rfl, ?_⟩) (by assumption) ?_
  rotate_left
  · intro w hSw; (try dsimp only at hSw); go_simp; try with_reducible rfl
  simp only [Act.put, List.getElem_toArray, List.getElem_cons_zero, List.getElem_cons_succ, List.setIfInBounds_toArray, List.set_cons_zero, List.set_cons_succ]
  refine wpAnyH_take (i := 3) (v := ?_) rfl (by kernel_rfl) (by kernel_rfl) (by kernel_rfl) (fun _ _ _ h => h) (Or.inl ⟨by rfl, ?_⟩) (by assumption) ?_
  rotate_left
  · intro w hSw; (try dsimp only at hSw); go_simp; try with_reducible rfl
  simp only [Act.put, List.getElem_toArray, List.getElem_cons_zero, List.getElem_cons_succ, List.setIfInBounds_toArray, List.set_cons_zero, List.set_cons_succ]
  refine wpAnyH_take (i := 4) (v := ?_) rfl (by kernel_rfl) (by kernel_rfl) (by kernel_rfl) (fun _ _ _ h => h) (Or.inl ⟨by rfl, ?_⟩) (by assumption) ?_
  rotate_left
  · intro w hSw; (try dsimp only at hSw); go_simp; try with_reducible rfl
  simp only [Act.put, List.getElem_toArray, List.getElem_cons_zero, List.getElem_cons_succ, List.setIfInBounds_toArray, List.set_cons_zero, List.set_cons_succ]
  refine wpAnyH_take (i := 5) (v := ?_) rfl (by kernel_rfl) (by kernel_rfl) (by kernel_rfl) (fun _ _ _ h => h) (Or.inl ⟨by rfl, ?_⟩) (by assumption) ?_
  rotate_left
  · intro w hSw; (try dsimp only at hSw); go_simp; try with_reducible rfl
  simp only [Act.put, List.getElem_toArray, List.getElem_cons_zero, List.getElem_cons_succ, List.setIfInBounds_toArray, List.set_cons_zero, List.set_cons_succ]
  refine wpAnyH_take (i := 6) (v := ?_) rfl (by kernel_rfl) (by kernel_rfl) (by kernel_rfl) (fun _ _ _ h => h) (Or.inl ⟨by rfl, ?_⟩) (by assumption) ?_
  rotate_left
  · intro w hSw; (try dsimp only at hSw); go_simp; try with_reducible rfl
  simp only [Act.put, List.getElem_toArray, List.getElem_cons_zero, List.getElem_cons_succ, List.setIfInBounds_toArray, List.set_cons_zero, List.set_cons_succ]
  refine wpAnyH_take (i := 7) (v := ?_) rfl (by kernel_rfl) (by kernel_rfl) (by kernel_rfl) (fun _ _ _ h => h) (Or.inl ⟨by rfl, ?_⟩) (by assumption) ?_
  rotate_left
  · intro w hSw; (try dsimp only at hSw); go_simp; try with_reducible rfl
  simp only [Act.put, List.getElem_toArray, List.getElem_cons_zero, List.getElem_cons_succ, List.setIfInBounds_toArray, List.set_cons_zero, List.set_cons_succ]
  refine wpAnyH_take (i := 8) (v := ?_) rfl (by kernel_rfl) (by kernel_rfl) (by kernel_rfl) (fun _ _ _ h => h) (Or.inl ⟨by rfl, ?_⟩) (by assumption) ?_
  rotate_left
  · intro w hSw; (try dsimp only at hSw); go_simp; try with_reducible rfl
  simp only [Act.put, List.getElem_toArray, List.getElem_cons_zero, List.getElem_cons_succ, List.setIfInBounds_toArray, List.set_cons_zero, List.set_cons_succ]
  refine wpAnyH_take (i := 10) (v := ?_) rfl (by kernel_rfl) (by kernel_rfl) (by kernel_rfl) (fun _ _ _ h => h) (Or.inl ⟨by rfl, ?_⟩) (by assumption) ?_
  rotate_left
  · intro w hSw; (try dsimp only at hSw); go_simp; try with_reducible rfl
  simp only [Act.put, List.getElem_toArray, List.getElem_cons_zero, List.getElem_cons_succ, List.setIfInBounds_toArray, List.set_cons_zero, List.set_cons_succ]
  refine wpAnyH_take (i := 11) (v := ?_) rfl (by kernel_rfl) (by kernel_rfl) (by kernel_rfl) (fun _ _ _ h => h) (Or.inl ⟨by rfl, ?_⟩) (by assumption) ?_
  rotate_left
  · intro w hSw; (try dsimp only at hSw); go_simp; try with_reducible rfl
  simp only [Act.put, List.getElem_toArray, List.getElem_cons_zero, List.getElem_cons_succ, List.setIfInBounds_toArray, List.set_cons_zero, List.set_cons_succ]
  refine wpAnyH_take (i := 12) (v := ?_) rfl (by kernel_rfl) (by kernel_rfl) (by kernel_rfl) (fun _ _ _ h => h) (Or.inl ⟨by rfl, ?_⟩) (by assumption) ?_
  rotate_left
  · intro w hSw; (try dsimp only at hSw); go_simp; try with_reducible rfl
  simp only [Act.put, List.getElem_toArray, List.getElem_cons_zero, List.getElem_cons_succ, List.setIfInBounds_toArray, List.set_cons_zero, List.set_cons_succ]
  refine wpAnyH_take (i := 13) (v := ?_) rfl (by kernel_rfl) (by kernel_rfl) (by kernel_rfl) (fun _ _ _ h => h) (Or.inl ⟨by rfl, ?_⟩) (by assumption) ?_
  rotate_left
  · intro w hSw; (try dsimp only at hSw); go_simp; try with_reducible rfl
  simp only [Act.put, List.getElem_toArray, List.getElem_cons_zero, List.getElem_cons_succ, List.setIfInBounds_toArray, List.set_cons_zero, List.set_cons_succ]
  refine wpAnyH_ready (rs := [9, 14]) (by kernel_rfl) (by simp) ?_
  refine AllReadyH.cons rfl (fun K hK => ?_) (AllReadyH.cons rfl (fun K hK => ?_) AllReadyH.nil)
  · skip
    go_simp
    refine hK.out _ _ (by (try dsimp only); go_keep) (fun hHeld => ?_)
    clear hK
    try simp only [Act.put, List.getElem_toArray, List.getElem_cons_zero, List.getElem_cons_succ, List.setIfInBounds_toArray, List.set_cons_zero, List.set_cons_succ]
    refine wpAnyH_ready (rs := [14]) (by kernel_rfl) (by simp) ?_
    refine AllReadyH.cons rfl (fun K hK => ?_) AllReadyH.nil
    go_simp
    refine hK.out _ _ (by (try dsimp only); go_keep) (fun hHeld => ?_)
    clear hK
    try simp only [Act.put, List.getElem_toArray, List.getElem_cons_zero, List.getElem_cons_succ, List.setIfInBounds_toArray, List.set_cons_zero, List.set_cons_succ]
    refine wpAnyH_ready (rs := [15]) (by kernel_rfl) (by simp) ?_
    refine AllReadyH.cons rfl (fun K hK => ?_) AllReadyH.nil
    go_simp
    refine (HC.out _).mono ?_
    rintro e w1 ⟨rfl, rfl⟩
    go_wp2_with fail
    refine hK.out _ _ (by (try dsimp only); go_keep) (fun hHeld => ?_)
    clear hK
    try simp only [Act.put, List.getElem_toArray, List.getElem_cons_zero, List.getElem_cons_succ, List.setIfInBounds_toArray, List.set_cons_zero, List.set_cons_succ]
    refine wpAnyH_take (i := 16) (v := ?_) rfl (by kernel_rfl) (by kernel_rfl) (by kernel_rfl) (fun _ _ _ h => h) (Or.inl ⟨by rfl, ?_⟩) (by assumption) ?_
    rotate_left
    · intro w hSw; (try dsimp only at hSw); go_simp; try with_reducible rfl
    simp only [Act.put, List.getElem_toArray, List.getElem_cons_zero, List.getElem_cons_succ, List.setIfInBounds_toArray, List.set_cons_zero, List.set_cons_succ]
    refine wpAnyH_ready (rs := [17]) (by kernel_rfl) (by simp) ?_
    refine AllReadyH.cons rfl (fun K hK => ?_) AllReadyH.nil
    go_simp
    refine hK.out _ _ (by (try dsimp only); go_keep) (fun hHeld => ?_)
    clear hK
    try simp only [Act.put, List.getElem_toArray, List.getElem_cons_zero, List.getElem_cons_succ, List.setIfInBounds_toArray, List.set_cons_zero, List.set_cons_succ]
    refine wpAnyH_done (by kernel_rfl) ?_ _
    go_wp2
    go_region
    all_goals
      go_wp2
      exact bodyPost_ret (v := .tuple #[.slice (some ⟨gv, 0, none⟩) nv cv, .agg #[.int .i64 code, .int .i64 value, .int .i64 steps, .slice ta nt ct, .slice (some ⟨gh, 0, none⟩) 32 ch]]) (by simp [results, Tryd.results70, go_sem]) rfl (ExecPost.mk (R _ _ _))
  · skip
    go_simp
    refine hK.out _ _ (by (try dsimp only); go_keep) (fun hHeld => ?_)
    clear hK
    try simp only [Act.put, List.getElem_toArray, List.getElem_cons_zero, List.getElem_cons_succ, List.setIfInBounds_toArray, List.set_cons_zero, List.set_cons_succ]
    refine wpAnyH_ready (rs := [9]) (by kernel_rfl) (by simp) ?_
    refine AllReadyH.cons rfl (fun K hK => ?_) AllReadyH.nil
    go_simp
    refine hK.out _ _ (by (try dsimp only); go_keep) (fun hHeld => ?_)
    clear hK
    try simp only [Act.put, List.getElem_toArray, List.getElem_cons_zero, List.getElem_cons_succ, List.setIfInBounds_toArray, List.set_cons_zero, List.set_cons_succ]
    refine wpAnyH_ready (rs := [15]) (by kernel_rfl) (by simp) ?_
    refine AllReadyH.cons rfl (fun K hK => ?_) AllReadyH.nil
    go_simp
    refine (HC.out _).mono ?_
    rintro e w1 ⟨rfl, rfl⟩
    go_wp2_with fail
    refine hK.out _ _ (by (try dsimp only); go_keep) (fun hHeld => ?_)
    clear hK
    try simp only [Act.put, List.getElem_toArray, List.getElem_cons_zero, List.getElem_cons_succ, List.setIfInBounds_toArray, List.set_cons_zero, List.set_cons_succ]
    refine wpAnyH_take (i := 16) (v := ?_) rfl (by kernel_rfl) (by kernel_rfl) (by kernel_rfl) (fun _ _ _ h => h) (Or.inl ⟨by rfl, ?_⟩) (by assumption) ?_
    rotate_left
    · intro w hSw; (try dsimp only at hSw); go_simp; try with_reducible rfl
    simp only [Act.put, List.getElem_toArray, List.getElem_cons_zero, List.getElem_cons_succ, List.setIfInBounds_toArray, List.set_cons_zero, List.set_cons_succ]
    refine wpAnyH_ready (rs := [17]) (by kernel_rfl) (by simp) ?_
    refine AllReadyH.cons rfl (fun K hK => ?_) AllReadyH.nil
    go_simp
    refine hK.out _ _ (by (try dsimp only); go_keep) (fun hHeld => ?_)
    clear hK
    try simp only [Act.put, List.getElem_toArray, List.getElem_cons_zero, List.getElem_cons_succ, List.setIfInBounds_toArray, List.set_cons_zero, List.set_cons_succ]
    refine wpAnyH_done (by kernel_rfl) ?_ _
    go_wp2
    go_region
    all_goals
      go_wp2
      exact bodyPost_ret (v := .tuple #[.slice (some ⟨gv, 0, none⟩) nv cv, .agg #[.int .i64 code, .int .i64 value, .int .i64 steps, .slice ta nt ct, .slice (some ⟨gh, 0, none⟩) 32 ch]]) (by simp [results, Tryd.results70, go_sem]) rfl (ExecPost.mk (R _ _ _))

end Go.Proofs.YtdcdgopblbmgoaaDoor

namespace Go.Proofs.YtdcdgopblbmgoaaDoor
open Go.RowKit

theorem far10 {W w1 : World} {row : Option Nat} (hg : W.grownBy w1 row) {k : Nat} (hk : k < W.heap.size) (hn : some k ≠ row) : (∀ o, w1.cell? ⟨k, o, none⟩ = W.cell? ⟨k, o, none⟩) ∧ (∀ o, w1.frozen? ⟨k, o, none⟩ = W.frozen? ⟨k, o, none⟩) :=
  ⟨fun o => hg.cell_far ⟨k, o, none⟩ hk hn, fun o => hg.frozen_far ⟨k, o, none⟩ hk hn⟩

set_option maxHeartbeats 1000000 in
theorem exec10 (dst a b imm : Int) (gv nv cv : Nat) (aa : Option Addr) (na ca : Nat) (code value steps : Int) (ta : Option Addr) (nt ct : Nat) (gh ch : Nat) (w : World) (vals hp tr : List Int) (B : Nat)
    (hm : Hid (RunMem w B gv gh 2 (.slice ta nt ct) vals hp tr)) (hB : B ≤ w.heap.size) (hnv : Hid (nv = vals.length)) (a0 : 0 ≤ a) (a1 : a < nv) (hnt5 : nt ≤ 1000000) :
    Calls Tryd.prog 70 #[.agg #[.int .i64 10, .int .i64 dst, .int .i64 a, .int .i64 b, .int .i64 imm], .slice (some ⟨gv, 0, none⟩) nv cv, .slice aa na ca, .agg #[.int .i64 code, .int .i64 value, .int .i64 steps, .slice ta nt ct, .slice (some ⟨gh, 0, none⟩) 32 ch]] w
      (ExecPost gv nv cv code value steps gh ch B (vals) (hp) (tr ++ [getN vals a]) w) := by
  have hgv := hm.out.vals.lt
  have hgh := hm.out.heap.lt
  obtain ⟨ka, rfl, hax, -⟩ := at_nat hnv.out a0 a1
  have c3 := in3 w (hm.out.vals.2 ka hax) hgv
  obtain ⟨i0, hi0, hz0, hz1, hz2⟩ := info_parts Tryd.info2'
  have hE : tr ++ [getN vals ka] = tr ++ [vals[ka]] := by rw [getN_of _ _ hax]
  rw [hE]
  clear hE
  have hnt : nt = tr.length := by
    obtain ⟨_, ⟨h1, h2⟩ | ⟨_, _, _, h1, _⟩⟩ := hm.out.own
    · have := (Value.slice.inj h1).2.1; omega
    · exact (Value.slice.inj h1).2.1
  have HOW : ∀ x0 x1 x2 x3 : Obj, (((((w.alloc x0).alloc x1).alloc x2).alloc x3).drew).ownsRow B 2 1 (.slice ta nt ct) nt (tr.map (Value.int .i64)) := fun x0 x1 x2 x3 => by
    have h := (hm.out.keep (balloc (bl3 w x0 x1 x2) x3).block).drew.own
    rw [← hnt] at h
    exact h
  have hno : ∀ k, w.heap.size ≤ k → some k ≠ (Value.slice ta nt ct).ownBlock := fun k hk e => by have := (hm.out.own.lt k e.symm).2; omega
  have RP : ∀ (x0 x1 x2 x3 : Obj) (g cap : Nat) (w1 : World), w1.ownsRow B 2 1 (.slice (some ⟨g, 0, none⟩) (nt + 1) cap) (nt + 1) (tr.map (Value.int .i64) ++ [.int .i64 vals[ka]]) → (((((w.alloc x0).alloc x1).alloc x2).alloc x3).drew).grownBy w1 (Value.slice ta nt ct).ownBlock → ((Value.slice ta nt ct).ownBlock = some g ∨ g = w.heap.size + 1 + 1 + 1 + 1) →
      (Rn w (w.heap.size + 1) B gv gh 2 (.slice (some ⟨g, 0, none⟩) (nt + 1) cap) vals hp (tr ++ [vals[ka]]) w1 ∧ Rn w (w.heap.size + 1 + 1) B gv gh 2 (.slice (some ⟨g, 0, none⟩) (nt + 1) cap) vals hp (tr ++ [vals[ka]]) w1) ∧ w1.cell? ⟨gv, ka, none⟩ = some (.int .i64 vals[ka]) := fun x0 x1 x2 x3 g cap w1 hown hgrow hat => by
    have P1 := Rn.push (r := w.heap.size + 1) (Rn.of hm.out hB (balloc (bl3 w x0 x1 x2) x3) (by omega)).drew (n := nt + 1) (by simp [hnt]) hown hgrow (hat.imp id (fun e => by simp [e])) (by simp)
    have P2 := Rn.push (r := w.heap.size + 1 + 1) (Rn.of hm.out hB (balloc (bl3 w x0 x1 x2) x3) (by omega)).drew (n := nt + 1) (by simp [hnt]) hown hgrow (hat.imp id (fun e => by simp [e])) (by simp)
    exact ⟨⟨P1, P2⟩, P1.mem.vals.2 ka hax⟩
  have ne1 : w.heap.size + 1 ≠ gv := by omega
  have ne2 : gv ≠ w.heap.size + 1 := by omega
  have HNT := hide hnt
  clear hnt
  generalize vals[ka] = VA at *
  go_enter Tryd.func70, Tryd.ntmps70
  go_wp2_with fail
  refine wp_region_held_drew (S := (fun w' => w'.cell? ⟨w.heap.size, 2, none⟩ = some (.int .i64 ka) ∧ w'.cell? ⟨gv, ka, none⟩ = some (.int .i64 VA))) (by kernel_rfl) (by (try dsimp only); go_keep) (fun hHeld => ?_)
  refine wpAnyH_take (i := 0) (v := ?_) rfl (by kernel_rfl) (by kernel_rfl) (by kernel_rfl) (fun _ _ _ h => h) (Or.inl ⟨by rfl, ?_⟩) (by assumption) ?_
  rotate_left
  · intro w hSw; (try dsimp only at hSw); go_simp; try with_reducible rfl
  simp only [Act.put, List.getElem_toArray, List.getElem_cons_zero, List.setIfInBounds_toArray, List.set_cons_zero, List.set_cons_succ]
  refine wpAnyH_take (i := 2) (v := ?_) rfl (by kernel_rfl) (by kernel_rfl) (by kernel_rfl) (fun _ _ _ h => h) (Or.inl ⟨by rfl, ?_⟩) (by assumption) ?_
  rotate_left
  · intro w hSw; (try dsimp only at hSw); go_simp; try with_reducible rfl
  simp only [Act.put, List.getElem_toArray, List.getElem_cons_zero, List.getElem_cons_succ, List.setIfInBounds_toArray, List.set_cons_zero, List.set_cons_succ]
  refine wpAnyH_take (i := 3) (v := ?_) rfl (by kernel_rfl) (by kernel_rfl) (by kernel_rfl) (fun _ _ _ h => h) (Or.inl ⟨by rfl, ?_⟩) (by assumption) ?_
  rotate_left
  · intro w hSw; (try dsimp only at hSw); go_simp; try with_reducible rfl
  simp only [Act.put, List.getElem_toArray, List.getElem_cons_zero, List.getElem_cons_succ, List.setIfInBounds_toArray, List.set_cons_zero, List.set_cons_succ]
  refine wpAnyH_take (i := 4) (v := ?_) rfl (by kernel_rfl) (by kernel_rfl) (by kernel_rfl) (fun _ _ _ h => h) (Or.inl ⟨by rfl, ?_⟩) (by assumption) ?_
  rotate_left
  · intro w hSw; (try dsimp only at hSw); go_simp; try with_reducible rfl
  simp only [Act.put, List.getElem_toArray, List.getElem_cons_zero, List.getElem_cons_succ, List.setIfInBounds_toArray, List.set_cons_zero, List.set_cons_succ]
  refine wpAnyH_take (i := 5) (v := ?_) rfl (by kernel_rfl) (by kernel_rfl) (by kernel_rfl) (fun _ _ _ h => h) (Or.inl ⟨by rfl, ?_⟩) (by assumption) ?_
  rotate_left
  · intro w hSw; (try dsimp only at hSw); go_simp; try with_reducible rfl
  simp only [Act.put, List.getElem_toArray, List.getElem_cons_zero, List.getElem_cons_succ, List.setIfInBounds_toArray, List.set_cons_zero, List.set_cons_succ]
  refine wpAnyH_take (i := 6) (v := ?_) rfl (by kernel_rfl) (by kernel_rfl) (by kernel_rfl) (fun _ _ _ h => h) (Or.inl ⟨by rfl, ?_⟩) (by assumption) ?_
  rotate_left
  · intro w hSw; (try dsimp only at hSw); go_simp; try with_reducible rfl
  simp only [Act.put, List.getElem_toArray, List.getElem_cons_zero, List.getElem_cons_succ, List.setIfInBounds_toArray, List.set_cons_zero, List.set_cons_succ]
  refine wpAnyH_ready (rs := [1, 7]) (by kernel_rfl) (by simp) ?_
  refine AllReadyH.cons rfl (fun K hK => ?_) (AllReadyH.cons rfl (fun K hK => ?_) AllReadyH.nil)
  · skip
    go_simp
    refine hK.out _ _ (by (try dsimp only); go_keep) (fun hHeld => ?_)
    clear hK
    try simp only [Act.put, List.getElem_toArray, List.getElem_cons_zero, List.getElem_cons_succ, List.setIfInBounds_toArray, List.set_cons_zero, List.set_cons_succ]
    refine wpAnyH_ready (rs := [7]) (by kernel_rfl) (by simp) ?_
    refine AllReadyH.cons rfl (fun K hK => ?_) AllReadyH.nil
    go_simp
    refine hK.out _ _ (by (try dsimp only); go_keep) (fun hHeld => ?_)
    clear hK
    try simp only [Act.put, List.getElem_toArray, List.getElem_cons_zero, List.getElem_cons_succ, List.setIfInBounds_toArray, List.set_cons_zero, List.set_cons_succ]
    refine wpAnyH_ready (rs := [8]) (by kernel_rfl) (by simp) ?_
    refine AllReadyH.cons rfl (fun K hK => ?_) AllReadyH.nil
    refine step_append_lies _ rfl (.tmp 82) (.tmp 88) 38 rfl B 2 i0 (.int .i64 0) 1 8 Tryd.underlying38 hi0 hz0 hz1 hz2 rfl (by decide) (.slice ta nt ct) nt (tr.map (Value.int .i64)) (by simp [Act.eval]) (HOW _ _ _ _) ⟨w.heap.size + 1 + 1 + 1, 0, none⟩ 1 1 [.int .i64 VA] (by simp [Act.eval]) rfl ?_ (by intro u hu; simp at hu; subst hu; rfl) (by decide) (by unfold maxLen; omega) (by omega) (by simp; omega) (w.heap.size + 1 + 1 + 1 + 1) (by simp) ?_
    · intro j u hj
      match j, hj with
      | 0, hj => simp at hj; subst hj; simp [Addr.add, go_sem]
    intro g cap w1 hown hgrow hat hlt
    have RF := RP _ _ _ _ g cap w1 hown hgrow hat
    obtain ⟨f0, -⟩ := far10 hgrow (k := w.heap.size) (by simp <;> omega) (hno _ (by omega))
    obtain ⟨f1, e1⟩ := far10 hgrow (k := w.heap.size + 1) (by simp <;> omega) (hno _ (by omega))
    obtain ⟨f2, e2⟩ := far10 hgrow (k := w.heap.size + 1 + 1) (by simp) (hno _ (by omega))
    have kx : w1.cell? ⟨w.heap.size, 2, none⟩ = some (.int .i64 ka) := (f0 2).trans (by simp [go_sem])
    have kv : w1.cell? ⟨gv, ka, none⟩ = some (.int .i64 VA) := RF.2
    have k0 : w1.cell? ⟨w.heap.size + 1, 0, none⟩ = some (.int .i64 code) := (f1 0).trans (by simp [go_sem])
    have k1 : w1.cell? ⟨w.heap.size + 1, 1, none⟩ = some (.int .i64 value) := (f1 1).trans (by simp [go_sem])
    have k2 : w1.cell? ⟨w.heap.size + 1, 2, none⟩ = some (.int .i64 steps) := (f1 2).trans (by simp [go_sem])
    have k3 : w1.cell? ⟨w.heap.size + 1, 3, none⟩ = some (.slice ta nt ct) := (f1 3).trans (by simp [go_sem])
    have k4 : w1.cell? ⟨w.heap.size + 1, 4, none⟩ = some (.slice (some ⟨gh, 0, none⟩) 32 ch) := (f1 4).trans (by simp [go_sem])
    have q0 : w1.cell? ⟨w.heap.size + 1 + 1, 0, none⟩ = some (.int .i64 0) := (f2 0).trans (by simp [go_sem])
    have q1 : w1.cell? ⟨w.heap.size + 1 + 1, 1, none⟩ = some (.int .i64 0) := (f2 1).trans (by simp [go_sem])
    have q2 : w1.cell? ⟨w.heap.size + 1 + 1, 2, none⟩ = some (.int .i64 0) := (f2 2).trans (by simp [go_sem])
    have q3 : w1.cell? ⟨w.heap.size + 1 + 1, 3, none⟩ = some (.slice none 0 0) := (f2 3).trans (by simp [go_sem])
    have q4 : w1.cell? ⟨w.heap.size + 1 + 1, 4, none⟩ = some (.slice none 0 0) := (f2 4).trans (by simp [go_sem])
    have z1 : ∀ o, w1.frozen? ⟨w.heap.size + 1, o, none⟩ = false := fun o => (e1 o).trans (by simp [go_sem])
    have z2 : ∀ o, w1.frozen? ⟨w.heap.size + 1 + 1, o, none⟩ = false := fun o => (e2 o).trans (by simp [go_sem])
    have RM := hide RF.1
    clear f0 f1 f2 e1 e2 RF hown hgrow hat hlt
    refine hK.out _ _ (by (try dsimp only); go_keep) (fun hHeld => ?_)
    clear hK
    try simp only [Act.put, List.getElem_toArray, List.getElem_cons_zero, List.getElem_cons_succ, List.setIfInBounds_toArray, List.set_cons_zero, List.set_cons_succ]
    refine wpAnyH_take (i := 9) (v := ?_) rfl (by kernel_rfl) (by kernel_rfl) (by kernel_rfl) (fun _ _ _ h => h) (Or.inl ⟨by rfl, ?_⟩) (by assumption) ?_
    rotate_left
    · intro w hSw; (try dsimp only at hSw); go_simp; try with_reducible rfl
    simp only [Act.put, List.getElem_toArray, List.getElem_cons_zero, List.getElem_cons_succ, List.setIfInBounds_toArray, List.set_cons_zero, List.set_cons_succ]
    refine wpAnyH_ready (rs := [10]) (by kernel_rfl) (by simp) ?_
    refine AllReadyH.cons rfl (fun K hK => ?_) AllReadyH.nil
    go_simp
    refine hK.out _ _ (by (try dsimp only); go_keep) (fun hHeld => ?_)
    clear hK
    try simp only [Act.put, List.getElem_toArray, List.getElem_cons_zero, List.getElem_cons_succ, List.setIfInBounds_toArray, List.set_cons_zero, List.set_cons_succ]
    refine wpAnyH_done (by kernel_rfl) ?_ _
    go_wp2
    go_region
    all_goals
      go_wp2
      have RF := ((⟨(RM.out.1.out 3 (.slice (some ⟨g, 0, none⟩) (nt + 1) cap)).kb, (RM.out.1.out 3 (.slice (some ⟨g, 0, none⟩) (nt + 1) cap)).mem, RM.out.2.rv, RM.out.2.rh, RM.out.2.rt, RM.out.2.rB⟩ : Rn w (w.heap.size + 1 + 1) B gv gh 2 _ vals hp _ _).out5 (.int .i64 code) (.int .i64 value) (.int .i64 steps) (.slice (some ⟨g, 0, none⟩) (nt + 1) cap) (.slice (some ⟨gh, 0, none⟩) 32 ch))
      exact bodyPost_ret (v := .tuple #[.slice (some ⟨gv, 0, none⟩) nv cv, .agg #[.int .i64 code, .int .i64 value, .int .i64 steps, .slice (some ⟨g, 0, none⟩) (nt + 1) cap, .slice (some ⟨gh, 0, none⟩) 32 ch]]) (by simp [results, Tryd.results70, go_sem, q0, q1, q2, q3, q4]) rfl (ExecPost.mk RF.drew)
  · skip
    go_simp
    refine hK.out _ _ (by (try dsimp only); go_keep) (fun hHeld => ?_)
    clear hK
    try simp only [Act.put, List.getElem_toArray, List.getElem_cons_zero, List.getElem_cons_succ, List.setIfInBounds_toArray, List.set_cons_zero, List.set_cons_succ]
    refine wpAnyH_ready (rs := [1]) (by kernel_rfl) (by simp) ?_
    refine AllReadyH.cons rfl (fun K hK => ?_) AllReadyH.nil
    go_simp
    refine hK.out _ _ (by (try dsimp only); go_keep) (fun hHeld => ?_)
    clear hK
    try simp only [Act.put, List.getElem_toArray, List.getElem_cons_zero, List.getElem_cons_succ, List.setIfInBounds_toArray, List.set_cons_zero, List.set_cons_succ]
    refine wpAnyH_ready (rs := [8]) (by kernel_rfl) (by simp) ?_
    refine AllReadyH.cons rfl (fun K hK => ?_) AllReadyH.nil
    refine step_append_lies _ rfl (.tmp 82) (.tmp 88) 38 rfl B 2 i0 (.int .i64 0) 1 8 Tryd.underlying38 hi0 hz0 hz1 hz2 rfl (by decide) (.slice ta nt ct) nt (tr.map (Value.int .i64)) (by simp [Act.eval]) (HOW _ _ _ _) ⟨w.heap.size + 1 + 1 + 1, 0, none⟩ 1 1 [.int .i64 VA] (by simp [Act.eval]) rfl ?_ (by intro u hu; simp at hu; subst hu; rfl) (by decide) (by unfold maxLen; omega) (by omega) (by simp; omega) (w.heap.size + 1 + 1 + 1 + 1) (by simp) ?_
    · intro j u hj
      match j, hj with
      | 0, hj => simp at hj; subst hj; simp [Addr.add, go_sem]
    intro g cap w1 hown hgrow hat hlt
    have RF := RP _ _ _ _ g cap w1 hown hgrow hat
    obtain ⟨f0, -⟩ := far10 hgrow (k := w.heap.size) (by simp <;> omega) (hno _ (by omega))
    obtain ⟨f1, e1⟩ := far10 hgrow (k := w.heap.size + 1) (by simp <;> omega) (hno _ (by omega))
    obtain ⟨f2, e2⟩ := far10 hgrow (k := w.heap.size + 1 + 1) (by simp) (hno _ (by omega))
    have kx : w1.cell? ⟨w.heap.size, 2, none⟩ = some (.int .i64 ka) := (f0 2).trans (by simp [go_sem])
    have kv : w1.cell? ⟨gv, ka, none⟩ = some (.int .i64 VA) := RF.2
    have k0 : w1.cell? ⟨w.heap.size + 1, 0, none⟩ = some (.int .i64 code) := (f1 0).trans (by simp [go_sem])
    have k1 : w1.cell? ⟨w.heap.size + 1, 1, none⟩ = some (.int .i64 value) := (f1 1).trans (by simp [go_sem])
    have k2 : w1.cell? ⟨w.heap.size + 1, 2, none⟩ = some (.int .i64 steps) := (f1 2).trans (by simp [go_sem])
    have k3 : w1.cell? ⟨w.heap.size + 1, 3, none⟩ = some (.slice ta nt ct) := (f1 3).trans (by simp [go_sem])
    have k4 : w1.cell? ⟨w.heap.size + 1, 4, none⟩ = some (.slice (some ⟨gh, 0, none⟩) 32 ch) := (f1 4).trans (by simp [go_sem])
    have q0 : w1.cell? ⟨w.heap.size + 1 + 1, 0, none⟩ = some (.int .i64 0) := (f2 0).trans (by simp [go_sem])
    have q1 : w1.cell? ⟨w.heap.size + 1 + 1, 1, none⟩ = some (.int .i64 0) := (f2 1).trans (by simp [go_sem])
    have q2 : w1.cell? ⟨w.heap.size + 1 + 1, 2, none⟩ = some (.int .i64 0) := (f2 2).trans (by simp [go_sem])
    have q3 : w1.cell? ⟨w.heap.size + 1 + 1, 3, none⟩ = some (.slice none 0 0) := (f2 3).trans (by simp [go_sem])
    have q4 : w1.cell? ⟨w.heap.size + 1 + 1, 4, none⟩ = some (.slice none 0 0) := (f2 4).trans (by simp [go_sem])
    have z1 : ∀ o, w1.frozen? ⟨w.heap.size + 1, o, none⟩ = false := fun o => (e1 o).trans (by simp [go_sem])
    have z2 : ∀ o, w1.frozen? ⟨w.heap.size + 1 + 1, o, none⟩ = false := fun o => (e2 o).trans (by simp [go_sem])
    have RM := hide RF.1
    clear f0 f1 f2 e1 e2 RF hown hgrow hat hlt
    refine hK.out _ _ (by (try dsimp only); go_keep) (fun hHeld => ?_)
    clear hK
    try simp only [Act.put, List.getElem_toArray, List.getElem_cons_zero, List.getElem_cons_succ, List.setIfInBounds_toArray, List.set_cons_zero, List.set_cons_succ]
    refine wpAnyH_take (i := 9) (v := ?_) rfl (by kernel_rfl) (by kernel_rfl) (by kernel_rfl) (fun _ _ _ h => h) (Or.inl ⟨by rfl, ?_⟩) (by assumption) ?_
    rotate_left
    · intro w hSw; (try dsimp only at hSw); go_simp; try with_reducible rfl
    simp only [Act.put, List.getElem_toArray, List.getElem_cons_zero, List.getElem_cons_succ, List.setIfInBounds_toArray, List.set_cons_zero, List.set_cons_succ]
    refine wpAnyH_ready (rs := [10]) (by kernel_rfl) (by simp) ?_
    refine AllReadyH.cons rfl (fun K hK => ?_) AllReadyH.nil
    go_simp
    refine hK.out _ _ (by (try dsimp only); go_keep) (fun hHeld => ?_)
    clear hK
    try simp only [Act.put, List.getElem_toArray, List.getElem_cons_zero, List.getElem_cons_succ, List.setIfInBounds_toArray, List.set_cons_zero, List.set_cons_succ]
    refine wpAnyH_done (by kernel_rfl) ?_ _
    go_wp2
    go_region
    all_goals
      go_wp2
      have RF := ((⟨(RM.out.1.out 3 (.slice (some ⟨g, 0, none⟩) (nt + 1) cap)).kb, (RM.out.1.out 3 (.slice (some ⟨g, 0, none⟩) (nt + 1) cap)).mem, RM.out.2.rv, RM.out.2.rh, RM.out.2.rt, RM.out.2.rB⟩ : Rn w (w.heap.size + 1 + 1) B gv gh 2 _ vals hp _ _).out5 (.int .i64 code) (.int .i64 value) (.int .i64 steps) (.slice (some ⟨g, 0, none⟩) (nt + 1) cap) (.slice (some ⟨gh, 0, none⟩) 32 ch))
      exact bodyPost_ret (v := .tuple #[.slice (some ⟨gv, 0, none⟩) nv cv, .agg #[.int .i64 code, .int .i64 value, .int .i64 steps, .slice (some ⟨g, 0, none⟩) (nt + 1) cap, .slice (some ⟨gh, 0, none⟩) 32 ch]]) (by simp [results, Tryd.results70, go_sem, q0, q1, q2, q3, q4]) rfl (ExecPost.mk RF.drew)

end Go.Proofs.YtdcdgopblbmgoaaDoor
