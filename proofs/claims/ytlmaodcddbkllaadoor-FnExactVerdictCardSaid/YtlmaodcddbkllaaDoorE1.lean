import Derived.Test.YtlmaodcddbkllaaDoorProg
import Derived.WalkKit
import Derived.OwnWalk
import Derived.Lib.ItoaMem
import Derived.Lib.UnsafeStr
import Derived.Deep.RegionHeld3
import Derived.Test.YtlmaodcddbkllaaDoorSP0
/-
  Numbers and words as text: the model's side (l1Dec, l1Put).
-/
namespace Go.Proofs.YtlmaodcddbkllaaDoor
open Go.RowKit

theorem dec_ten {u : Nat} (h : ¬ u < 10) : Lib.decDigits u = Lib.decDigits (u / 10) ++ [UInt8.ofNat (48 + u % 10)] := by
  rw [Lib.decDigits, dif_neg h]

theorem conv1 (w : World) (b : UInt8) (W : World) (hW : W.cell? ⟨w.heap.size, 0, none⟩ = some (.int .u8 b.toNat)) : Sem.run Tryd.prog (convert 22 9 (.slice (some ⟨w.heap.size, 0, none⟩) 1 1)) W = .ok (.string (strOf [b])) W := by
  have h := run_convert_bytes_back (P := Tryd.prog) W 22 9 5 ⟨w.heap.size, 0, none⟩ 1 [b] Tryd.underlying22 Tryd.underlying5 Tryd.underlying9 ?_
  · exact h
  · intro j hj
    have e : j = 0 := by simpa using hj
    subst e
    simpa [Addr.add] using hW
theorem dec_len (u : Nat) : (Lib.decDigits u).length ≤ u / 2 + 1 := by
  induction u using Nat.strongRecOn with
  | ind u ih =>
    by_cases h : u < 10
    · rw [Lib.decDigits_one h]; simp
    · rw [dec_ten h, List.length_append]
      have := ih (u / 10) (by omega)
      simp only [List.length_cons, List.length_nil]; omega
theorem byte_of (u : Nat) (h : u < 10) : ∃ b : UInt8, b = UInt8.ofNat (48 + u) ∧ ((b.toNat : Nat) : Int) = 48 + (u : Int) := by
  refine ⟨_, rfl, ?_⟩
  have : (UInt8.ofNat (48 + u)).toNat = 48 + u := by rw [UInt8.toNat_ofNat']; omega
  rw [this]; omega

set_option maxHeartbeats 1000000 in
set_option maxRecDepth 100000 in
theorem dec_small (u : Nat) (h : u < 10) (w : World) :
    Calls Tryd.prog 189 #[.int .i64 u] w fun e w' => e = .returned (.string (strOf (Lib.decDigits u))) ∧ Below w.heap.size w w' := by
  have h' : (u : Int) < 10 := by omega
  have h0 : ¬ (u : Int) < 0 := by omega
  obtain ⟨b, hb1, hb2⟩ := byte_of u h
  have hcv := conv1 w b
  rw [hb2] at hcv
  have hcw := hcv (w.alloc (.cells #[.int .u8 (48 + (u : Int))] 5)) (by simp [go_sem])
  have HE : Hid (Lib.decDigits u = [b]) := hide (by rw [Lib.decDigits_one h, hb1])
  clear hb1 hb2 hcv
  go_enter Tryd.func189, Tryd.ntmps189
  go_wp2_with fail
  go_ret
  exact ⟨by rw [HE.out]; rfl, (Below.refl _ _).alloc (Nat.le_refl _) _⟩

set_option maxHeartbeats 1000000 in
set_option maxRecDepth 100000 in
theorem dec_nat (u : Nat) (hu : u ≤ 9223372036854775807) (w : World) :
    Calls Tryd.prog 189 #[.int .i64 u] w fun e w' => e = .returned (.string (strOf (Lib.decDigits u))) ∧ Below w.heap.size w w' := by
  induction u using Nat.strongRecOn generalizing w with
  | ind u ih =>
    by_cases h : u < 10
    · exact dec_small u h w
    · have IH := hide (fun W => ih (u / 10) (by omega) (by omega) W)
      have h' : ¬ (u : Int) < 10 := by omega
      have h0 : ¬ (u : Int) < 0 := by omega
      have hq : ((u : Int).tdiv 10) = ((u / 10 : Nat) : Int) := by rw [Int.tdiv_eq_ediv_of_nonneg (by omega)]; omega
      have hr : ((u : Int).tmod 10) = ((u % 10 : Nat) : Int) := by rw [Int.tmod_eq_emod_of_nonneg (by omega)]; omega
      have hr10 : u % 10 < 10 := Nat.mod_lt _ (by decide)
      have hqb : u / 10 ≤ 922337203685477580 := by omega
      have HE := hide (dec_ten h)
      generalize u % 10 = r at *
      generalize u / 10 = q at *
      obtain ⟨b, hb1, hb2⟩ := byte_of r hr10
      have hw1 : IntKind.i64.wrap ((q : Nat) : Int) = (q : Int) := by have hq0 : (0 : Int) ≤ q := by omega
                                                                      have hq1 : (q : Int) ≤ 922337203685477580 := by omega
                                                                      generalize (q : Int) = z at *; simp [IntKind.wrap, IntKind.signed, IntKind.bits]; omega
      have hw2 : IntKind.i64.wrap (48 + (r : Int)) = 48 + (r : Int) := by simp [IntKind.wrap, IntKind.signed, IntKind.bits]; omega
      have hw3 : IntKind.u8.wrap (48 + (r : Int)) = 48 + (r : Int) := by simp [IntKind.wrap, IntKind.signed, IntKind.bits]; omega
      have HE2 : Hid (strOf (Lib.decDigits q) ++ strOf [b] = strOf (Lib.decDigits u)) := hide (by rw [HE.out, strOf_append, hb1])
      have hnl : ¬ 9223372036854775807 < (strOf (Lib.decDigits q)).size + (strOf [b]).size := by
        rw [strOf_size, strOf_size]; have := dec_len q; simp only [List.length_cons, List.length_nil]; omega
      clear ih hb1 HE
      go_enter Tryd.func189, Tryd.ntmps189
      go_wp2_with fail
      refine wp_region_held_drew (S := (fun _ => True)) (by kernel_rfl) trivial (fun hHeld => ?_)
      refine wpAnyH_take (i := 0) (v := ?_) rfl (by kernel_rfl) (by kernel_rfl) (by kernel_rfl) (fun _ _ _ h => h) (Or.inl ⟨by rfl, ?_⟩) (by assumption) ?_
      rotate_left
      · intro w hSw; (try dsimp only at hSw); go_simp; try with_reducible rfl
      simp only [Act.put, List.getElem_toArray, List.getElem_cons_zero, List.setIfInBounds_toArray, List.set_cons_zero, List.set_cons_succ]
      refine wpAnyH_take (i := 1) (v := ?_) rfl (by kernel_rfl) (by kernel_rfl) (by kernel_rfl) (fun _ _ _ h => h) (Or.inl ⟨by rfl, ?_⟩) (by assumption) ?_
      rotate_left
      · intro w hSw; (try dsimp only at hSw); go_simp; try with_reducible rfl
      simp only [Act.put, List.getElem_toArray, List.getElem_cons_zero, List.getElem_cons_succ, List.setIfInBounds_toArray, List.set_cons_zero, List.set_cons_succ]
      refine wpAnyH_take (i := 3) (v := ?_) rfl (by kernel_rfl) (by kernel_rfl) (by kernel_rfl) (fun _ _ _ h => h) (Or.inl ⟨by rfl, ?_⟩) (by assumption) ?_
      rotate_left
      · intro w hSw; (try dsimp only at hSw); go_simp; try with_reducible rfl
      simp only [Act.put, List.getElem_toArray, List.getElem_cons_zero, List.getElem_cons_succ, List.setIfInBounds_toArray, List.set_cons_zero, List.set_cons_succ]
      refine wpAnyH_take (i := 4) (v := ?_) rfl (by kernel_rfl) (by kernel_rfl) (by kernel_rfl) (fun _ _ _ h => h) (Or.inl ⟨by rfl, ?_⟩) (by assumption) ?_
      rotate_left
      · intro w hSw; (try dsimp only at hSw); go_simp; try with_reducible rfl
      simp only [Act.put, List.getElem_toArray, List.getElem_cons_zero, List.getElem_cons_succ, List.setIfInBounds_toArray, List.set_cons_zero, List.set_cons_succ]
      refine wpAnyH_take (i := 5) (v := ?_) rfl (by kernel_rfl) (by kernel_rfl) (by kernel_rfl) (fun _ _ _ h => h) (Or.inl ⟨by rfl, ?_⟩) (by assumption) ?_
      rotate_left
      · intro w hSw; (try dsimp only at hSw); go_simp; try with_reducible rfl
      simp only [Act.put, List.getElem_toArray, List.getElem_cons_zero, List.getElem_cons_succ, List.setIfInBounds_toArray, List.set_cons_zero, List.set_cons_succ]
      refine wpAnyH_take (i := 6) (v := ?_) rfl (by kernel_rfl) (by kernel_rfl) (by kernel_rfl) (fun _ _ _ h => h) (Or.inl ⟨by rfl, ?_⟩) (by assumption) ?_
      rotate_left
      · intro w hSw; (try dsimp only at hSw); go_simp; try with_reducible rfl
      simp only [Act.put, List.getElem_toArray, List.getElem_cons_zero, List.getElem_cons_succ, List.setIfInBounds_toArray, List.set_cons_zero, List.set_cons_succ]
      refine wpAnyH_ready (rs := [2, 7]) (by kernel_rfl) (by simp) ?_
      refine (AllReadyH.cons rfl (fun K hK => ?_) (AllReadyH.cons rfl (fun K hK => ?_) AllReadyH.nil))
      · skip
        go_simp
        refine (IH.out _).mono ?_
        rintro e w1 ⟨rfl, hb1⟩
        have HB1 := hide hb1
        have s1 := hb1.size
        obtain ⟨k1, -⟩ := bcell hb1
        clear hb1
        go_simp
        refine hK.out _ _ trivial (fun hHeld => ?_)
        clear hK
        try simp only [Act.put, List.getElem_toArray, List.getElem_cons_zero, List.getElem_cons_succ, List.setIfInBounds_toArray, List.set_cons_zero, List.set_cons_succ]
        refine wpAnyH_ready (rs := [7]) (by kernel_rfl) (by simp) ?_
        refine AllReadyH.cons rfl (fun K hK => ?_) AllReadyH.nil
        go_simp
        refine hK.out _ _ trivial (fun hHeld => ?_)
        clear hK
        try simp only [Act.put, List.getElem_toArray, List.getElem_cons_zero, List.getElem_cons_succ, List.setIfInBounds_toArray, List.set_cons_zero, List.set_cons_succ]
        refine wpAnyH_ready (rs := [8]) (by kernel_rfl) (by simp) ?_
        refine AllReadyH.cons rfl (fun K hK => ?_) AllReadyH.nil
        have hcw := conv1 w1 b (w1.alloc (.cells #[.int .u8 (48 + (r : Int))] 5)) (by rw [hb2]; simp [go_sem])
        go_simp
        refine hK.out _ _ trivial (fun hHeld => ?_)
        clear hK
        try simp only [Act.put, List.getElem_toArray, List.getElem_cons_zero, List.getElem_cons_succ, List.setIfInBounds_toArray, List.set_cons_zero, List.set_cons_succ]
        refine wpAnyH_ready (rs := [9]) (by kernel_rfl) (by simp) ?_
        refine AllReadyH.cons rfl (fun K hK => ?_) AllReadyH.nil
        go_simp
        refine hK.out _ _ trivial (fun hHeld => ?_)
        clear hK
        try simp only [Act.put, List.getElem_toArray, List.getElem_cons_zero, List.getElem_cons_succ, List.setIfInBounds_toArray, List.set_cons_zero, List.set_cons_succ]
        refine wpAnyH_ready (rs := [10]) (by kernel_rfl) (by simp) ?_
        refine AllReadyH.cons rfl (fun K hK => ?_) AllReadyH.nil
        go_simp
        refine hK.out _ _ trivial (fun hHeld => ?_)
        clear hK
        try simp only [Act.put, List.getElem_toArray, List.getElem_cons_zero, List.getElem_cons_succ, List.setIfInBounds_toArray, List.set_cons_zero, List.set_cons_succ]
        refine wpAnyH_done (by kernel_rfl) ?_ _
        go_wp2_with fail
        go_ret
        exact ⟨by rw [← HE2.out]; rfl, balloc ((Below.refl w.heap.size w).drew.trans HB1.out) _⟩
      · skip
        go_simp
        refine hK.out _ _ trivial (fun hHeld => ?_)
        clear hK
        try simp only [Act.put, List.getElem_toArray, List.getElem_cons_zero, List.getElem_cons_succ, List.setIfInBounds_toArray, List.set_cons_zero, List.set_cons_succ]
        refine wpAnyH_ready (rs := [2, 8]) (by kernel_rfl) (by simp) ?_
        refine (AllReadyH.cons rfl (fun K hK => ?_) (AllReadyH.cons rfl (fun K hK => ?_) AllReadyH.nil))
        · skip
          go_simp
          refine (IH.out _).mono ?_
          rintro e w1 ⟨rfl, hb1⟩
          have HB1 := hide hb1
          have s1 := hb1.size
          obtain ⟨k1, -⟩ := bcell hb1
          clear hb1
          have hcw := conv1 w b w1 (by rw [hb2]; exact (k1 w.heap.size 0 (by simp [go_sem])).trans (by simp [go_sem]))
          go_simp
          refine hK.out _ _ trivial (fun hHeld => ?_)
          clear hK
          try simp only [Act.put, List.getElem_toArray, List.getElem_cons_zero, List.getElem_cons_succ, List.setIfInBounds_toArray, List.set_cons_zero, List.set_cons_succ]
          refine wpAnyH_ready (rs := [8]) (by kernel_rfl) (by simp) ?_
          refine AllReadyH.cons rfl (fun K hK => ?_) AllReadyH.nil
          go_simp
          refine hK.out _ _ trivial (fun hHeld => ?_)
          clear hK
          try simp only [Act.put, List.getElem_toArray, List.getElem_cons_zero, List.getElem_cons_succ, List.setIfInBounds_toArray, List.set_cons_zero, List.set_cons_succ]
          refine wpAnyH_ready (rs := [9]) (by kernel_rfl) (by simp) ?_
          refine AllReadyH.cons rfl (fun K hK => ?_) AllReadyH.nil
          go_simp
          refine hK.out _ _ trivial (fun hHeld => ?_)
          clear hK
          try simp only [Act.put, List.getElem_toArray, List.getElem_cons_zero, List.getElem_cons_succ, List.setIfInBounds_toArray, List.set_cons_zero, List.set_cons_succ]
          refine wpAnyH_ready (rs := [10]) (by kernel_rfl) (by simp) ?_
          refine AllReadyH.cons rfl (fun K hK => ?_) AllReadyH.nil
          go_simp
          refine hK.out _ _ trivial (fun hHeld => ?_)
          clear hK
          try simp only [Act.put, List.getElem_toArray, List.getElem_cons_zero, List.getElem_cons_succ, List.setIfInBounds_toArray, List.set_cons_zero, List.set_cons_succ]
          refine wpAnyH_done (by kernel_rfl) ?_ _
          go_wp2_with fail
          go_ret
          exact ⟨by rw [← HE2.out]; rfl, (balloc (Below.refl w.heap.size w) _).drew.trans (HB1.out.mono (by simp [go_sem]))⟩
        · skip
          have hcw := conv1 w b (w.alloc (.cells #[.int .u8 (48 + (r : Int))] 5)).drew (by rw [hb2]; simp [go_sem])
          go_simp
          refine hK.out _ _ trivial (fun hHeld => ?_)
          clear hK
          try simp only [Act.put, List.getElem_toArray, List.getElem_cons_zero, List.getElem_cons_succ, List.setIfInBounds_toArray, List.set_cons_zero, List.set_cons_succ]
          refine wpAnyH_ready (rs := [2]) (by kernel_rfl) (by simp) ?_
          refine AllReadyH.cons rfl (fun K hK => ?_) AllReadyH.nil
          go_simp
          refine (IH.out _).mono ?_
          rintro e w1 ⟨rfl, hb1⟩
          have HB1 := hide hb1
          have s1 := hb1.size
          obtain ⟨k1, -⟩ := bcell hb1
          clear hb1
          go_simp
          refine hK.out _ _ trivial (fun hHeld => ?_)
          clear hK
          try simp only [Act.put, List.getElem_toArray, List.getElem_cons_zero, List.getElem_cons_succ, List.setIfInBounds_toArray, List.set_cons_zero, List.set_cons_succ]
          refine wpAnyH_ready (rs := [9]) (by kernel_rfl) (by simp) ?_
          refine AllReadyH.cons rfl (fun K hK => ?_) AllReadyH.nil
          go_simp
          refine hK.out _ _ trivial (fun hHeld => ?_)
          clear hK
          try simp only [Act.put, List.getElem_toArray, List.getElem_cons_zero, List.getElem_cons_succ, List.setIfInBounds_toArray, List.set_cons_zero, List.set_cons_succ]
          refine wpAnyH_ready (rs := [10]) (by kernel_rfl) (by simp) ?_
          refine AllReadyH.cons rfl (fun K hK => ?_) AllReadyH.nil
          go_simp
          refine hK.out _ _ trivial (fun hHeld => ?_)
          clear hK
          try simp only [Act.put, List.getElem_toArray, List.getElem_cons_zero, List.getElem_cons_succ, List.setIfInBounds_toArray, List.set_cons_zero, List.set_cons_succ]
          refine wpAnyH_done (by kernel_rfl) ?_ _
          go_wp2_with fail
          go_ret
          exact ⟨by rw [← HE2.out]; rfl, (balloc (Below.refl w.heap.size w) _).drew.trans (HB1.out.mono (by simp [go_sem]))⟩

set_option maxHeartbeats 1000000 in
set_option maxRecDepth 100000 in
theorem dec_neg (u : Nat) (h1 : 0 < u) (hu : u ≤ 9223372036854775807) (w : World) :
    Calls Tryd.prog 189 #[.int .i64 (-(u : Int))] w fun e w' => e = .returned (.string (strOf (45 :: Lib.decDigits u))) ∧ Below w.heap.size w w' := by
  have IH := hide (fun W => dec_nat u hu W)
  have h0 : -(u : Int) < 0 := by omega
  have hw1 : IntKind.i64.wrap (u : Int) = (u : Int) := by
    have hq0 : (0 : Int) ≤ u := by omega
    have hq1 : (u : Int) ≤ 9223372036854775807 := by omega
    generalize (u : Int) = z at *; simp [IntKind.wrap, IntKind.signed, IntKind.bits]; omega
  go_enter Tryd.func189, Tryd.ntmps189
  have hnl : ¬ 9223372036854775807 < 1 + (strOf (Lib.decDigits u)).size := by
    rw [strOf_size]; have := dec_len u; omega
  have HE : Hid ((⟨#[45]⟩ : ByteArray) ++ strOf (Lib.decDigits u) = strOf (45 :: Lib.decDigits u)) := hide (by exact strOf_append [45] _)
  go_wp2_with fail
  refine (IH.out _).mono ?_
  rintro e w1 ⟨rfl, hb1⟩
  have HB1 := hide hb1
  clear hb1
  go_wp2_with fail
  go_ret
  exact ⟨by rw [← HE.out]; rfl, HB1.out⟩

theorem dec_int (v : Int) (h1 : -9223372036854775807 ≤ v) (h2 : v ≤ 9223372036854775807) (w : World) :
    Calls Tryd.prog 189 #[.int .i64 v] w fun e w' => e = .returned (.string (strOf (Lib.itoa v))) ∧ Below w.heap.size w w' := by
  unfold Lib.itoa
  by_cases h : v < 0
  · rw [if_pos h]
    have := dec_neg v.natAbs (by omega) (by omega) w
    rwa [show -(v.natAbs : Int) = v by omega] at this
  · rw [if_neg h]
    have := dec_nat v.toNat (by omega) w
    rwa [show (v.toNat : Int) = v by omega] at this
end Go.Proofs.YtlmaodcddbkllaaDoor
