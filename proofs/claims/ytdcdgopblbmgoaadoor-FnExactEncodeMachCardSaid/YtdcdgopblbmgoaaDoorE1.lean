import Derived.Test.YtdcdgopblbmgoaaDoorChecked
import Derived.WalkKit
import Derived.OwnWalk
import Derived.Lib.ItoaMem
import Derived.Lib.UnsafeStr
import Derived.Deep.RegionHeld3
import Derived.Test.YtdcdgopblbmgoaaDoorM6
import Derived.Test.YtdcdgopblbmgoaaDoorMem
/-
  Numbers and words as text: the model's side (l1Dec, l1Put).
-/
namespace Go.Proofs.YtdcdgopblbmgoaaDoor
open Go.RowKit

theorem dec_ten {u : Nat} (h : ¬ u < 10) : Lib.decDigits u = Lib.decDigits (u / 10) ++ [UInt8.ofNat (48 + u % 10)] := by
  rw [Lib.decDigits, dif_neg h]

theorem conv1 (w : World) (b : UInt8) (W : World) (hW : W.cell? ⟨w.heap.size, 0, none⟩ = some (.int .u8 b.toNat)) : Sem.run Tryd.prog (convert 33 9 (.slice (some ⟨w.heap.size, 0, none⟩) 1 1)) W = .ok (.string (strOf [b])) W := by
  have h := run_convert_bytes_back (P := Tryd.prog) W 33 9 5 ⟨w.heap.size, 0, none⟩ 1 [b] Tryd.underlying33 Tryd.underlying5 Tryd.underlying9 ?_
  · exact h
  · intro j hj
    have e : j = 0 := by simpa using hj
    subst e
    simpa [Addr.add] using hW
theorem dec_len (u : Nat) : (Lib.decDigits u).length ≤ u / 2 + 1 := by
  induction u using Nat.strongRecOn with
  | ind u ih =>
    by_cases h : u < 10
    · rw [Lib.decDigits_one h]; simp
    · rw [dec_ten h, List.length_append]
      have := ih (u / 10) (by omega)
      simp only [List.length_cons, List.length_nil]; omega
theorem byte_of (u : Nat) (h : u < 10) : ∃ b : UInt8, b = UInt8.ofNat (48 + u) ∧ ((b.toNat : Nat) : Int) = 48 + (u : Int) := by
  refine ⟨_, rfl, ?_⟩
  have : (UInt8.ofNat (48 + u)).toNat = 48 + u := by rw [UInt8.toNat_ofNat']; omega
  rw [this]; omega

set_option maxHeartbeats 1000000 in
set_option maxRecDepth 100000 in
theorem dec_small (u : Nat) (h : u < 10) (w : World) :
    Calls Tryd.prog 134 #[.int .i64 u] w fun e w' => e = .returned (.string (strOf (Lib.decDigits u))) ∧ Below w.heap.size w w' := by
  have h' : (u : Int) < 10 := by omega
  have h0 : ¬ (u : Int) < 0 := by omega
  obtain ⟨b, hb1, hb2⟩ := byte_of u h
  have hcv := conv1 w b
  rw [hb2] at hcv
  have hcw := hcv (w.alloc (.cells #[.int .u8 (48 + (u : Int))] 5)) (by simp [go_sem])
  have HE : Hid (Lib.decDigits u = [b]) := hide (by rw [Lib.decDigits_one h, hb1])
  clear hb1 hb2 hcv
  go_enter Tryd.func134, Tryd.ntmps134
  go_wp2_with fail
  go_ret
  exact ⟨by rw [HE.out]; rfl, (Below.refl _ _).alloc (Nat.le_refl _) _⟩

set_option maxHeartbeats 1000000 in
set_option maxRecDepth 100000 in
theorem dec_nat (u : Nat) (hu : u ≤ 9223372036854775807) (w : World) :
    Calls Tryd.prog 134 #[.int .i64 u] w fun e w' => e = .returned (.string (strOf (Lib.decDigits u))) ∧ Below w.heap.size w w' := by
  induction u using Nat.strongRecOn generalizing w with
  | ind u ih =>
    by_cases h : u < 10
    · exact dec_small u h w
    · have IH := hide (fun W => ih (u / 10) (by omega) (by omega) W)
      have h' : ¬ (u : Int) < 10 := by omega
      have h0 : ¬ (u : Int) < 0 := by omega
      have hq : ((u : Int).tdiv 10) = ((u / 10 : Nat) : Int) := by rw [Int.tdiv_eq_ediv_of_nonneg (by omega)]; omega
      have hr : ((u : Int).tmod 10) = ((u % 10 : Nat) : Int) := by rw [Int.tmod_eq_emod_of_nonneg (by omega)]; omega
      have hr10 : u % 10 < 10 := Nat.mod_lt _ (by decide)
      have hqb : u / 10 ≤ 922337203685477580 := by omega
      have HE := hide (dec_ten h)
      generalize u % 10 = r at *
      generalize u / 10 = q at *
      obtain ⟨b, hb1, hb2⟩ := byte_of r hr10
      have hw1 : IntKind.i64.wrap ((q : Nat) : Int) = (q : Int) := by have hq0 : (0 : Int) ≤ q := by omega
                                                                      have hq1 : (q : Int) ≤ 922337203685477580 := by omega
                                                                      generalize (q : Int) = z at *; simp [IntKind.wrap, IntKind.signed, IntKind.bits]; omega
      have hw2 : IntKind.i64.wrap (48 + (r : Int)) = 48 + (r : Int) := by simp [IntKind.wrap, IntKind.signed, IntKind.bits]; omega
      have hw3 : IntKind.u8.wrap (48 + (r : Int)) = 48 + (r : Int) := by simp [IntKind.wrap, IntKind.signed, IntKind.bits]; omega
      have HE2 : Hid (strOf (Lib.decDigits q) ++ strOf [b] = strOf (Lib.decDigits u)) := hide (by rw [HE.out, strOf_append, hb1])
      have hnl : ¬ 9223372036854775807 < (strOf (Lib.decDigits q)).size + (strOf [b]).size := by
        rw [strOf_size, strOf_size]; have := dec_len q; simp only [List.length_cons, List.length_nil]; omega
      clear ih hb1 HE
      go_enter Tryd.func134, Tryd.ntmps134
      go_wp2_with fail
      refine wp_region_held_drew (S := (fun _ => True)) (by kernel_rfl) trivial (fun hHeld => ?_)
      refine wpAnyH_take (i := 0) (v := ?_) rfl (by kernel_rfl) (by kernel_rfl) (by kernel_rfl) (fun _ _ _ h => h) (Or.inl ⟨by rfl, ?_⟩) (by assumption) ?_
      rotate_left
      · intro w hSw; (try dsimp only at hSw); go_simp; try with_reducible rfl
      simp only [Act.put, List.getElem_toArray, List.getElem_cons_zero, List.setIfInBounds_toArray, List.set_cons_zero, List.set_cons_succ]
      refine wpAnyH_take (i := 1) (v := ?_) rfl (by kernel_rfl) (by kernel_rfl) (by kernel_rfl) (fun _ _ _ h => h) (Or.inl ⟨by rfl, ?_⟩) (by assumption) ?_
      rotate_left
      · intro w hSw; (try dsimp only at hSw); go_simp; try with_reducible rfl
      simp only [Act.put, List.getElem_toArray, List.getElem_cons_zero, List.getElem_cons_succ, List.setIfInBounds_toArray, List.set_cons_zero, List.set_cons_succ]
      refine wpAnyH_take (i := 3) (v := ?_) rfl (by kernel_rfl) (by kernel_rfl) (by kernel_rfl) (fun _ _ _ h => h) (Or.inl ⟨by rfl, ?_⟩) (by assumption) ?_
      rotate_left
      · intro w hSw; (try dsimp only at hSw); go_simp; try with_reducible rfl
      simp only [Act.put, List.getElem_toArray, List.getElem_cons_zero, List.getElem_cons_succ, List.setIfInBounds_toArray, List.set_cons_zero, List.set_cons_succ]
      refine wpAnyH_take (i := 4) (v := ?_) rfl (by kernel_rfl) (by kernel_rfl) (by kernel_rfl) (fun _ _ _ h => h) (Or.inl ⟨by rfl, ?_⟩) (by assumption) ?_
      rotate_left
      · intro w hSw; (try dsimp only at hSw); go_simp; try with_reducible rfl
      simp only [Act.put, List.getElem_toArray, List.getElem_cons_zero, List.getElem_cons_succ, List.setIfInBounds_toArray, List.set_cons_zero, List.set_cons_succ]
      refine wpAnyH_take (i := 5) (v := ?_) rfl (by kernel_rfl) (by kernel_rfl) (by kernel_rfl) (fun _ _ _ h => h) (Or.inl ⟨by rfl, ?_⟩) (by assumption) ?_
      rotate_left
      · intro w hSw; (try dsimp only at hSw); go_simp; try with_reducible rfl
      simp only [Act.put, List.getElem_toArray, List.getElem_cons_zero, List.getElem_cons_succ, List.setIfInBounds_toArray, List.set_cons_zero, List.set_cons_succ]
      refine wpAnyH_take (i := 6) (v := ?_) rfl (by kernel_rfl) (by kernel_rfl) (by kernel_rfl) (fun _ _ _ h => h) (Or.inl ⟨by rfl, ?_⟩) (by assumption) ?_
      rotate_left
      · intro w hSw; (try dsimp only at hSw); go_simp; try with_reducible rfl
      simp only [Act.put, List.getElem_toArray, List.getElem_cons_zero, List.getElem_cons_succ, List.setIfInBounds_toArray, List.set_cons_zero, List.set_cons_succ]
      refine wpAnyH_ready (rs := [2, 7]) (by kernel_rfl) (by simp) ?_
      refine (AllReadyH.cons rfl (fun K hK => ?_) (AllReadyH.cons rfl (fun K hK => ?_) AllReadyH.nil))
      · skip
        go_simp
        refine (IH.out _).mono ?_
        rintro e w1 ⟨rfl, hb1⟩
        have HB1 := hide hb1
        have s1 := hb1.size
        obtain ⟨k1, -⟩ := bcell hb1
        clear hb1
        go_simp
        refine hK.out _ _ trivial (fun hHeld => ?_)
        clear hK
        try simp only [Act.put, List.getElem_toArray, List.getElem_cons_zero, List.getElem_cons_succ, List.setIfInBounds_toArray, List.set_cons_zero, List.set_cons_succ]
        refine wpAnyH_ready (rs := [7]) (by kernel_rfl) (by simp) ?_
        refine AllReadyH.cons rfl (fun K hK => ?_) AllReadyH.nil
        go_simp
        refine hK.out _ _ trivial (fun hHeld => ?_)
        clear hK
        try simp only [Act.put, List.getElem_toArray, List.getElem_cons_zero, List.getElem_cons_succ, List.setIfInBounds_toArray, List.set_cons_zero, List.set_cons_succ]
        refine wpAnyH_ready (rs := [8]) (by kernel_rfl) (by simp) ?_
        refine AllReadyH.cons rfl (fun K hK => ?_) AllReadyH.nil
        have hcw := conv1 w1 b (w1.alloc (.cells #[.int .u8 (48 + (r : Int))] 5)) (by rw [hb2]; simp [go_sem])
        go_simp
        refine hK.out _ _ trivial (fun hHeld => ?_)
        clear hK
        try simp only [Act.put, List.getElem_toArray, List.getElem_cons_zero, List.getElem_cons_succ, List.setIfInBounds_toArray, List.set_cons_zero, List.set_cons_succ]
        refine wpAnyH_ready (rs := [9]) (by kernel_rfl) (by simp) ?_
        refine AllReadyH.cons rfl (fun K hK => ?_) AllReadyH.nil
        go_simp
        refine hK.out _ _ trivial (fun hHeld => ?_)
        clear hK
        try simp only [Act.put, List.getElem_toArray, List.getElem_cons_zero, List.getElem_cons_succ, List.setIfInBounds_toArray, List.set_cons_zero, List.set_cons_succ]
        refine wpAnyH_ready (rs := [10]) (by kernel_rfl) (by simp) ?_
        refine AllReadyH.cons rfl (fun K hK => ?_) AllReadyH.nil
        go_simp
        refine hK.out _ _ trivial (fun hHeld => ?_)
        clear hK
        try simp only [Act.put, List.getElem_toArray, List.getElem_cons_zero, List.getElem_cons_succ, List.setIfInBounds_toArray, List.set_cons_zero, List.set_cons_succ]
        refine wpAnyH_done (by kernel_rfl) ?_ _
        go_wp2_with fail
        go_ret
        exact ⟨by rw [← HE2.out]; rfl, balloc ((Below.refl w.heap.size w).drew.trans HB1.out) _⟩
      · skip
        go_simp
        refine hK.out _ _ trivial (fun hHeld => ?_)
        clear hK
        try simp only [Act.put, List.getElem_toArray, List.getElem_cons_zero, List.getElem_cons_succ, List.setIfInBounds_toArray, List.set_cons_zero, List.set_cons_succ]
        refine wpAnyH_ready (rs := [2, 8]) (by kernel_rfl) (by simp) ?_
        refine (AllReadyH.cons rfl (fun K hK => ?_) (AllReadyH.cons rfl (fun K hK => ?_) AllReadyH.nil))
        · skip
          go_simp
          refine (IH.out _).mono ?_
          rintro e w1 ⟨rfl, hb1⟩
          have HB1 := hide hb1
          have s1 := hb1.size
          obtain ⟨k1, -⟩ := bcell hb1
          clear hb1
          have hcw := conv1 w b w1 (by rw [hb2]; exact (k1 w.heap.size 0 (by simp [go_sem])).trans (by simp [go_sem]))
          go_simp
          refine hK.out _ _ trivial (fun hHeld => ?_)
          clear hK
          try simp only [Act.put, List.getElem_toArray, List.getElem_cons_zero, List.getElem_cons_succ, List.setIfInBounds_toArray, List.set_cons_zero, List.set_cons_succ]
          refine wpAnyH_ready (rs := [8]) (by kernel_rfl) (by simp) ?_
          refine AllReadyH.cons rfl (fun K hK => ?_) AllReadyH.nil
          go_simp
          refine hK.out _ _ trivial (fun hHeld => ?_)
          clear hK
          try simp only [Act.put, List.getElem_toArray, List.getElem_cons_zero, List.getElem_cons_succ, List.setIfInBounds_toArray, List.set_cons_zero, List.set_cons_succ]
          refine wpAnyH_ready (rs := [9]) (by kernel_rfl) (by simp) ?_
          refine AllReadyH.cons rfl (fun K hK => ?_) AllReadyH.nil
          go_simp
          refine hK.out _ _ trivial (fun hHeld => ?_)
          clear hK
          try simp only [Act.put, List.getElem_toArray, List.getElem_cons_zero, List.getElem_cons_succ, List.setIfInBounds_toArray, List.set_cons_zero, List.set_cons_succ]
          refine wpAnyH_ready (rs := [10]) (by kernel_rfl) (by simp) ?_
          refine AllReadyH.cons rfl (fun K hK => ?_) AllReadyH.nil
          go_simp
          refine hK.out _ _ trivial (fun hHeld => ?_)
          clear hK
          try simp only [Act.put, List.getElem_toArray, List.getElem_cons_zero, List.getElem_cons_succ, List.setIfInBounds_toArray, List.set_cons_zero, List.set_cons_succ]
          refine wpAnyH_done (by kernel_rfl) ?_ _
          go_wp2_with fail
          go_ret
          exact ⟨by rw [← HE2.out]; rfl, (balloc (Below.refl w.heap.size w) _).drew.trans (HB1.out.mono (by simp [go_sem]))⟩
        · skip
          have hcw := conv1 w b (w.alloc (.cells #[.int .u8 (48 + (r : Int))] 5)).drew (by rw [hb2]; simp [go_sem])
          go_simp
          refine hK.out _ _ trivial (fun hHeld => ?_)
          clear hK
          try simp only [Act.put, List.getElem_toArray, List.getElem_cons_zero, List.getElem_cons_succ, List.setIfInBounds_toArray, List.set_cons_zero, List.set_cons_succ]
          refine wpAnyH_ready (rs := [2]) (by kernel_rfl) (by simp) ?_
          refine AllReadyH.cons rfl (fun K hK => ?_) AllReadyH.nil
          go_simp
          refine (IH.out _).mono ?_
          rintro e w1 ⟨rfl, hb1⟩
          have HB1 := hide hb1
          have s1 := hb1.size
          obtain ⟨k1, -⟩ := bcell hb1
          clear hb1
          go_simp
          refine hK.out _ _ trivial (fun hHeld => ?_)
          clear hK
          try simp only [Act.put, List.getElem_toArray, List.getElem_cons_zero, List.getElem_cons_succ, List.setIfInBounds_toArray, List.set_cons_zero, List.set_cons_succ]
          refine wpAnyH_ready (rs := [9]) (by kernel_rfl) (by simp) ?_
          refine AllReadyH.cons rfl (fun K hK => ?_) AllReadyH.nil
          go_simp
          refine hK.out _ _ trivial (fun hHeld => ?_)
          clear hK
          try simp only [Act.put, List.getElem_toArray, List.getElem_cons_zero, List.getElem_cons_succ, List.setIfInBounds_toArray, List.set_cons_zero, List.set_cons_succ]
          refine wpAnyH_ready (rs := [10]) (by kernel_rfl) (by simp) ?_
          refine AllReadyH.cons rfl (fun K hK => ?_) AllReadyH.nil
          go_simp
          refine hK.out _ _ trivial (fun hHeld => ?_)
          clear hK
          try simp only [Act.put, List.getElem_toArray, List.getElem_cons_zero, List.getElem_cons_succ, List.setIfInBounds_toArray, List.set_cons_zero, List.set_cons_succ]
          refine wpAnyH_done (by kernel_rfl) ?_ _
          go_wp2_with fail
          go_ret
          exact ⟨by rw [← HE2.out]; rfl, (balloc (Below.refl w.heap.size w) _).drew.trans (HB1.out.mono (by simp [go_sem]))⟩

set_option maxHeartbeats 1000000 in
set_option maxRecDepth 100000 in
theorem dec_neg (u : Nat) (h1 : 0 < u) (hu : u ≤ 9223372036854775807) (w : World) :
    Calls Tryd.prog 134 #[.int .i64 (-(u : Int))] w fun e w' => e = .returned (.string (strOf (45 :: Lib.decDigits u))) ∧ Below w.heap.size w w' := by
  have IH := hide (fun W => dec_nat u hu W)
  have h0 : -(u : Int) < 0 := by omega
  have hw1 : IntKind.i64.wrap (u : Int) = (u : Int) := by
    have hq0 : (0 : Int) ≤ u := by omega
    have hq1 : (u : Int) ≤ 9223372036854775807 := by omega
    generalize (u : Int) = z at *; simp [IntKind.wrap, IntKind.signed, IntKind.bits]; omega
  go_enter Tryd.func134, Tryd.ntmps134
  have hnl : ¬ 9223372036854775807 < 1 + (strOf (Lib.decDigits u)).size := by
    rw [strOf_size]; have := dec_len u; omega
  have HE : Hid ((⟨#[45]⟩ : ByteArray) ++ strOf (Lib.decDigits u) = strOf (45 :: Lib.decDigits u)) := hide (by exact strOf_append [45] _)
  go_wp2_with fail
  refine (IH.out _).mono ?_
  rintro e w1 ⟨rfl, hb1⟩
  have HB1 := hide hb1
  clear hb1
  go_wp2_with fail
  go_ret
  exact ⟨by rw [← HE.out]; rfl, HB1.out⟩

theorem dec_int (v : Int) (h1 : -9223372036854775807 ≤ v) (h2 : v ≤ 9223372036854775807) (w : World) :
    Calls Tryd.prog 134 #[.int .i64 v] w fun e w' => e = .returned (.string (strOf (Lib.itoa v))) ∧ Below w.heap.size w w' := by
  unfold Lib.itoa
  by_cases h : v < 0
  · rw [if_pos h]
    have := dec_neg v.natAbs (by omega) (by omega) w
    rwa [show -(v.natAbs : Int) = v by omega] at this
  · rw [if_neg h]
    have := dec_nat v.toNat (by omega) w
    rwa [show (v.toNat : Int) = v by omega] at this
end Go.Proofs.YtdcdgopblbmgoaaDoor

namespace Go.Proofs.YtdcdgopblbmgoaaDoor

theorem countEq_count (l : List Int) (v : Int) : countEq l v = l.count v := by
  unfold countEq
  rw [List.count, List.countP_eq_length_filter]

theorem cover_to (n : Nat) : ∀ l : List Int, l.length = n → (∀ v : Nat, v < n → (v : Int) ∈ l) → (∀ d ∈ l, 0 ≤ d ∧ d < n) ∧ ∀ v : Nat, v < n → l.count (v : Int) = 1 := by
  induction n with
  | zero =>
    intro l hl _
    have : l = [] := List.eq_nil_of_length_eq_zero hl
    subst this
    exact ⟨fun d hd => (List.not_mem_nil hd).elim, fun v hv => absurd hv (by omega)⟩
  | succ n ih =>
    intro l hl hv
    have hm := hv n (by omega)
    have hlen : (l.erase (n : Int)).length = n := by rw [List.length_erase_of_mem hm]; omega
    have hmem : ∀ v : Nat, v < n → (v : Int) ∈ l.erase (n : Int) := fun v h => (List.mem_erase_of_ne (by omega)).2 (hv v (by omega))
    obtain ⟨h1, h2⟩ := ih _ hlen hmem
    have hp := List.perm_cons_erase hm
    refine ⟨fun d hd => ?_, fun v h => ?_⟩
    · rcases List.mem_cons.1 (hp.mem_iff.1 hd) with rfl | hd
      · omega
      · have := h1 d hd; omega
    · rw [hp.count_eq, List.count_cons]
      by_cases e : v = n
      · subst e
        have : (l.erase (v : Int)).count (v : Int) = 0 := List.count_eq_zero.2 (fun hh => by have := h1 _ hh; omega)
        simp [this]
      · rw [h2 v (by omega)]
        have : ((n : Int) == (v : Int)) = false := by simp; omega
        simp [this]

theorem cover_from (n : Nat) : ∀ l : List Int, (∀ d ∈ l, 0 ≤ d ∧ d < n) → (∀ v : Nat, v < n → l.count (v : Int) = 1) → l.length = n ∧ ∀ v : Nat, v < n → (v : Int) ∈ l := by
  induction n with
  | zero =>
    intro l hl _
    have : l = [] := List.eq_nil_iff_forall_not_mem.2 (fun d hd => by have := hl d hd; omega)
    subst this
    exact ⟨rfl, fun v hv => absurd hv (by omega)⟩
  | succ n ih =>
    intro l hl hc
    have hm : (n : Int) ∈ l := List.count_pos_iff.1 (by rw [hc n (by omega)]; omega)
    have hp := List.perm_cons_erase hm
    have hc0 : (l.erase (n : Int)).count (n : Int) = 0 := by rw [List.count_erase_self, hc n (by omega)]
    have h1 : ∀ d ∈ l.erase (n : Int), 0 ≤ d ∧ d < n := fun d hd => by
      have h := hl d (List.mem_of_mem_erase hd)
      have hne : d ≠ n := fun e => by subst e; exact absurd hd (List.count_eq_zero.1 hc0)
      omega
    have h2 : ∀ v : Nat, v < n → (l.erase (n : Int)).count (v : Int) = 1 := fun v h => by
      rw [List.count_erase_of_ne (by omega)]; exact hc v (by omega)
    obtain ⟨k1, k2⟩ := ih _ h1 h2
    refine ⟨by have := List.length_erase_of_mem hm; have : 0 < l.length := List.length_pos_of_mem hm; omega, fun v h => ?_⟩
    exact List.count_pos_iff.1 (by rw [hc v h]; omega)

/-- All values that the phis of the blocks define. -/
def dstsOk (n : Int) (xs : List Blk) : Bool := xs.all fun x => x.phis.all fun p => fld true p.dst 0 n

theorem all_and {α : Type} (p q : α → Bool) (l : List α) : l.all (fun x => p x && q x) = (l.all p && l.all q) := by
  induction l with
  | nil => rfl
  | cons x l ih => simp only [List.all_cons, ih]; cases p x <;> cases q x <;> cases l.all p <;> simp

theorem phisFrom_split (F : Fn) : ∀ (xs : List Blk) (i : Nat), phisFrom phOkI F xs i = (dstsOk F.values xs && phisFrom phOkS F xs i) := by
  intro xs
  induction xs with
  | nil => intro i; rfl
  | cons x xs ih =>
    intro i
    simp only [phisFrom, dstsOk, List.all_cons, ih]
    have : x.phis.all (phOkI F.values (F.preds ↑i).length) = (x.phis.all (fun p => fld true p.dst 0 F.values) && x.phis.all (phOkS F.values (F.preds ↑i).length)) := all_and _ _ _
    rw [this]
    cases x.phis.all (fun p => fld true p.dst 0 F.values) <;> cases x.phis.all (phOkS F.values (F.preds ↑i).length) <;> simp

theorem defs_range (F : Fn) (hi : instrsOk F = true) : (dstsOk F.values F.blocks = true ↔ ∀ d ∈ blksDefs F.blocks, 0 ≤ d ∧ d < F.values) := by
  unfold dstsOk blksDefs
  simp only [List.all_eq_true, List.mem_flatMap, blkDefs, phDefs, insDefs, List.mem_append, List.mem_map, List.mem_filter, fld, if_true, Bool.and_eq_true, decide_eq_true_eq]
  constructor
  · rintro h d ⟨x, hx, ⟨p, hp, rfl⟩ | ⟨y, ⟨hy, hd⟩, rfl⟩⟩
    · exact h x hx p hp
    · have := List.all_eq_true.1 (List.all_eq_true.1 hi x hx) y hy
      simp only [insOk, hd, fld, if_true, Bool.and_eq_true, decide_eq_true_eq] at this
      omega
  · intro h x hx p hp
    exact h _ ⟨x, hx, Or.inl ⟨p, hp, rfl⟩⟩

theorem once_cover (F : Fn) (h0 : 0 ≤ F.values) (hi : instrsOk F = true) : (dstsOk F.values F.blocks && onceOk F) = coverOk F := by
  rw [Bool.eq_iff_iff]
  obtain ⟨n, hn⟩ := Int.eq_ofNat_of_zero_le h0
  rw [Bool.and_eq_true, defs_range F hi]
  unfold onceOk coverOk
  rw [hn]
  simp only [List.all_eq_true, List.mem_range, Int.toNat_natCast, beq_iff_eq, Bool.and_eq_true, decide_eq_true_eq, List.contains_iff_mem, countEq_count]
  constructor
  · rintro ⟨h1, h2⟩
    obtain ⟨k1, k2⟩ := cover_from n _ h1 h2
    exact ⟨by omega, k2⟩
  · rintro ⟨h1, h2⟩
    exact cover_to n _ (by omega) h2

theorem valid_same (F : Fn) : validI F = validS F := by
  unfold validI validS phisOkI phisOkS
  rw [phisFrom_split]
  cases hs : sizeOk F
  · simp
  cases hi : instrsOk F
  · simp
  cases ht : termsOk F
  · simp
  have h0 : 0 ≤ F.values := by
    simp only [sizeOk, Bool.and_eq_true, decide_eq_true_eq] at hs
    omega
  have := once_cover F h0 hi
  rw [← this]
  cases dstsOk F.values F.blocks <;> cases phisFrom phOkS F F.blocks 0 <;> simp

end Go.Proofs.YtdcdgopblbmgoaaDoor
