import Derived.Test.YtlmaodcddbkllaaDoorFL1
import Derived.Test.YtlmaodcddbkllaaDoorMark
/-
  The law's ways with flows: marks, and marks that are found again.
-/
namespace Go.Proofs.YtlmaodcddbkllaaDoor
open Go.RowKit

def pc (Pr : Nat → List Int) : Nat → Nat
  | 0 => 0
  | i + 1 => pc Pr i + (Pr i).length
theorem pc_le {Pr : Nat → List Int} {n : Nat} (h : ∀ i, i < n → (Pr i).length ≤ 1000) : ∀ i, i ≤ n → pc Pr i ≤ 1000 * i
  | 0, _ => Nat.le_refl _
  | i + 1, hi => by
    have := pc_le h i (by omega)
    have := h i (by omega)
    rw [pc]; omega
structure SetsSep (w : World) (g n : Nat) (a : Nat → Option Addr) (cp lo hi : Nat → Nat) (Pr : Nat → List Int) : Prop where
  cell : ∀ i, i < n → w.cell? ⟨g, i, none⟩ = some (.slice (a i) (Pr i).length (cp i))
  ints : ∀ i, i < n → IntsAt w (lo i) (hi i) (a i) (Pr i)
  thaw : ∀ i, i < n → ThawB (lo i) (hi i) w
  dj : ∀ i j, i < n → j < n → i ≠ j → hi i ≤ lo j ∨ hi j ≤ lo i
  out : ∀ i, i < n → ¬ (lo i ≤ g ∧ g < hi i)
/-- The first j sets are marked. -/
structure MkS (w wr : World) (n j : Nat) (k : Int) (a : Nat → Option Addr) (lo hi : Nat → Nat) (Pr : Nat → List Int) : Prop where
  os : wr.os = w.os
  tape : wr.tape = w.tape
  output : wr.output = w.output
  size : wr.heap.size = w.heap.size
  block : ∀ b, (∀ i, i < n → ¬ (lo i ≤ b ∧ b < hi i)) → wr.heap[b]? = w.heap[b]?
  done : ∀ i, i < j → IntsAt wr (lo i) (hi i) (a i) (marks (k + pc Pr i) (Pr i).length)
  rest : ∀ i, j ≤ i → i < n → Same (lo i) (hi i) w wr
theorem MkS.next {w wr w' : World} {n j : Nat} {k : Int} {a : Nat → Option Addr} {lo hi : Nat → Nat} {Pr : Nat → List Int} (h : MkS w wr n j k a lo hi Pr) (hj : j < n) (dj : ∀ i j, i < n → j < n → i ≠ j → hi i ≤ lo j ∨ hi j ≤ lo i) (k1 : IW (lo j) (hi j) wr w') (k2 : IntsAt w' (lo j) (hi j) (a j) (marks (k + pc Pr j) (Pr j).length)) : MkS w w' n (j + 1) k a lo hi Pr := by
  refine ⟨k1.os.trans h.os, k1.tape.trans h.tape, k1.output.trans h.output, k1.size.trans h.size, fun b hb => (k1.block b (hb j hj)).trans (h.block b hb), fun i hi' => ?_, fun i h1 h2 q q1 q2 => (k1.block q (fun e => by have := dj i j h2 hj (by omega); omega)).trans (h.rest i (by omega) h2 q q1 q2)⟩
  by_cases e : i = j
  · subst e; exact k2
  · exact (h.done i (by omega)).keepS (fun q q1 q2 => k1.block q (fun e2 => by have := dj i j (by omega) hj e; omega))
set_option maxHeartbeats 1000000 in
set_option maxRecDepth 100000 in
theorem markSets_sep (g n c : Nat) (k : Int) (a : Nat → Option Addr) (cp lo hi : Nat → Nat) (Pr : Nat → List Int) (w : World) (hs : Hid (SetsSep w g n a cp lo hi Pr)) (hn : n ≤ 1000) (hl : Hid (∀ i, i < n → (Pr i).length ≤ 1000)) (h0 : 0 ≤ k) (h1 : k ≤ 1000000) :
    Calls Tryd.prog 92 #[.slice (some ⟨g, 0, none⟩) n c, .int .i64 k] w fun e w' => e = .returned (.int .i64 (k + pc Pr n)) ∧ MkS w w' n n k a lo hi Pr := by
  go_enter Tryd.func92, Tryd.ntmps92
  go_wp2_with fail
  go_loopw [1, 5] (fun u i wr => ∃ j : Nat, j ≤ n ∧ i = .int .i64 j ∧ u = .int .i64 (k + pc Pr j) ∧ Hid (MkS w wr n j k a lo hi Pr)) (fun _ i _ => n - (intOf i).toNat)
  case atStart => exact ⟨0, Nat.zero_le _, rfl, by simp [pc], hide ⟨rfl, rfl, rfl, rfl, fun _ _ => rfl, fun _ h => absurd h (Nat.not_lt_zero _), fun _ _ _ => Same.refl _ _ _⟩⟩
  case round =>
    obtain ⟨j, hj, rfl, rfl, HM⟩ := hrel
    have hpj := pc_le hl.out j hj
    by_cases hlt : j < n
    · have cj : wr.cell? ⟨g, j, none⟩ = some (.slice (a j) (Pr j).length (cp j)) := (World.cell?_of_block (HM.out.block g hs.out.out)).trans (hs.out.cell j hlt)
      have hlj := hl.out j hlt
      have HS := HM.out.rest j (Nat.le_refl _) hlt
      have HC := hide (markInts_any (a j) (Pr j).length (cp j) (k + pc Pr j) (Pr j) (lo j) (hi j) wr (hide ((hs.out.ints j hlt).keepS HS)) (hide rfl) (hide ((hs.out.thaw j hlt).keepS HS)) (by omega) (by omega) (by omega))
      have HPC : Hid (k + (pc Pr j : Int) + ((Pr j).length : Int) = k + (pc Pr (j + 1) : Int)) := hide (by rw [pc]; omega)
      have HNX := hide (fun w' k1 k2 => HM.out.next (w' := w') hlt hs.out.dj k1 k2)
      clear HS
      generalize (Pr j).length = lj at *
      generalize (pc Pr j : Int) = pj at *
      go_wp2_with fail
      refine HC.out.mono ?_
      rintro e w1 ⟨rfl, hiw, hia⟩
      have HM1 := hide (HNX.out w1 hiw hia)
      clear hiw hia HC
      go_wp2_with fail
      exact ⟨⟨j + 1, by omega, by go_num, congrArg (Value.int .i64) HPC.out, HM1⟩, by simp [intOf]; omega⟩
    · have hje : j = n := by omega
      subst hje
      go_wp2_with fail
      go_ret
      exact ⟨rfl, HM.out⟩
set_option maxHeartbeats 1000000 in
set_option maxRecDepth 100000 in
theorem heldSets_any (g n c : Nat) (k : Int) (a : Nat → Option Addr) (cp lo hi : Nat → Nat) (Pr : Nat → List Int) (w : World) (hc : Hid (∀ i, i < n → w.cell? ⟨g, i, none⟩ = some (.slice (a i) (Pr i).length (cp i)))) (hi' : Hid (∀ i, i < n → IntsAt w (lo i) (hi i) (a i) (marks (k + pc Pr i) (Pr i).length))) (hn : n ≤ 1000) (hl : Hid (∀ i, i < n → (Pr i).length ≤ 1000)) (h0 : 0 ≤ k) (h1 : k ≤ 1000000) :
    Calls Tryd.prog 95 #[.slice (some ⟨g, 0, none⟩) n c, .int .i64 k] w fun e w' => e = .returned (.int .i64 (k + pc Pr n)) ∧ w' = w := by
  go_enter Tryd.func95, Tryd.ntmps95
  go_wp2_with fail
  go_loopw [1, 5] (fun u i wr => ∃ j : Nat, j ≤ n ∧ i = .int .i64 j ∧ u = .int .i64 (k + pc Pr j) ∧ Hid (wr = w)) (fun _ i _ => n - (intOf i).toNat)
  case atStart => exact ⟨0, Nat.zero_le _, rfl, by simp [pc], hide rfl⟩
  case round =>
    obtain ⟨j, hj, rfl, rfl, HW⟩ := hrel
    have hpj := pc_le hl.out j hj
    have HW' := HW.out
    subst HW'
    by_cases hlt : j < n
    · have cj := hc.out j hlt
      have hlj := hl.out j hlt
      have HC := hide (heldInts_any (a j) (Pr j).length (cp j) (k + pc Pr j) (lo j) (hi j) wr (hide (hi'.out j hlt)) (by omega) (by omega) (by omega))
      have HPC : Hid (k + (pc Pr j : Int) + ((Pr j).length : Int) = k + (pc Pr (j + 1) : Int)) := hide (by rw [pc]; omega)
      generalize (Pr j).length = lj at *
      have hpz : 0 ≤ (pc Pr j : Int) := by omega
      have hpy : (pc Pr j : Int) ≤ 1000000 := by omega
      generalize (pc Pr j : Int) = pj at *
      clear hpj
      go_wp2_with fail
      refine HC.out.mono ?_
      rintro e w1 ⟨rfl, hw1⟩
      rw [hw1]
      clear hw1 HC
      have hneg : ¬ (k + pj + (lj : Int) < 0) := by omega
      go_wp2_with fail
      exact ⟨⟨j + 1, by omega, by go_num, congrArg (Value.int .i64) HPC.out, HW⟩, by simp [intOf]; omega⟩
    · have hje : j = n := by omega
      subst hje
      go_wp2_with fail
      go_ret
      exact ⟨rfl, rfl⟩
def mB (z : Int) : Bool := z % 3 == 0
set_option maxHeartbeats 1000000 in
set_option maxRecDepth 100000 in
theorem markBools_any (g n c : Nat) (k : Int) (w : World) (hc : Hid (∀ i, i < n → ∃ v, w.cell? ⟨g, i, none⟩ = some (.bool v))) (ht : Hid (∀ q, w.frozen? ⟨g, q, none⟩ = false)) (hn : n ≤ 1000) (h0 : 0 ≤ k) (h1 : k ≤ 10000000) :
    Calls Tryd.prog 93 #[.slice (some ⟨g, 0, none⟩) n c, .int .i64 k] w fun e w' => e = .returned (.int .i64 (k + n)) ∧ w.grownBy w' (some g) ∧ w'.heap.size = w.heap.size ∧ ∀ i, i < n → w'.cell? ⟨g, i, none⟩ = some (.bool (mB (k + i))) := by
  go_enter Tryd.func93, Tryd.ntmps93
  go_wp2_with fail
  go_loopw [1, 5] (fun u i wr => ∃ j : Nat, j ≤ n ∧ i = .int .i64 j ∧ u = .int .i64 (k + j) ∧ Hid (w.grownBy wr (some g)) ∧ Hid (wr.heap.size = w.heap.size) ∧ Hid (∀ q, wr.frozen? ⟨g, q, none⟩ = false) ∧ Hid (∀ i, i < j → wr.cell? ⟨g, i, none⟩ = some (.bool (mB (k + i)))) ∧ Hid (∀ i, j ≤ i → i < n → ∃ v, wr.cell? ⟨g, i, none⟩ = some (.bool v))) (fun _ i _ => n - (intOf i).toNat)
  case atStart => exact ⟨0, Nat.zero_le _, rfl, by simp, hide (World.grownBy.refl _ _), hide rfl, ht, hide (fun _ h => absurd h (Nat.not_lt_zero _)), hide (fun i _ h => hc.out i h)⟩
  case round =>
    obtain ⟨j, hj, rfl, rfl, HG, HZ, HT, HD, HR⟩ := hrel
    by_cases hlt : j < n
    · obtain ⟨v, cj⟩ := HR.out j (Nat.le_refl _) hlt
      have fj := HT.out j
      have HBM : Hid (((k + (j : Int)) % 3 == 0) = mB (k + (j : Int))) := hide rfl
      go_wp2_with fail
      rw [HBM.out]
      refine ⟨⟨j + 1, by omega, by go_num, by go_num, hide (HG.out.trans ⟨rfl, rfl, rfl, by simp [World.setCell], fun k _ hk => Below.heap_setCell _ _ _ _ (fun e => hk (by rw [e]))⟩), hide (by rw [size_setCell]; exact HZ.out), hide (fun q => by rw [World.frozen?_setCell]; exact HT.out q), hide (fun i hi => ?_), hide (fun i h1 h2 => ?_)⟩, by simp [intOf]; omega⟩
      · by_cases e : i = j
        · subst e; exact World.cell?_setCell_same _ _ _ cj
        · rw [set_other _ _ (fun h => e h.symm) _]; exact HD.out i (by omega)
      · obtain ⟨v', hv'⟩ := HR.out i (by omega) h2
        exact ⟨v', by rw [set_other _ _ (by omega) _]; exact hv'⟩
    · have hje : j = n := by omega
      subst hje
      go_wp2_with fail
      go_ret
      exact ⟨rfl, HG.out, HZ.out, HD.out⟩
set_option maxHeartbeats 1000000 in
set_option maxRecDepth 100000 in
theorem heldBools_any (g n c : Nat) (k : Int) (w : World) (hc : Hid (∀ i, i < n → w.cell? ⟨g, i, none⟩ = some (.bool (mB (k + i))))) (hn : n ≤ 1000) (h0 : 0 ≤ k) (h1 : k ≤ 10000000) :
    Calls Tryd.prog 96 #[.slice (some ⟨g, 0, none⟩) n c, .int .i64 k] w fun e w' => e = .returned (.int .i64 (k + n)) ∧ w.heap = w'.heap ∧ Below w.heap.size w w' := by
  go_enter Tryd.func96, Tryd.ntmps96
  go_wp2_with fail
  go_loopw [1, 5] (fun u i wr => ∃ j : Nat, j ≤ n ∧ i = .int .i64 j ∧ u = .int .i64 (k + j) ∧ Hid (w.heap = wr.heap ∧ Below w.heap.size w wr)) (fun _ i _ => n - (intOf i).toNat)
  case atStart => exact ⟨0, Nat.zero_le _, rfl, by simp, hide ⟨rfl, Below.refl _ _⟩⟩
  case round =>
    obtain ⟨j, hj, rfl, rfl, HW⟩ := hrel
    by_cases hlt : j < n
    · have cj : wr.cell? ⟨g, j, none⟩ = some (.bool (mB (k + (j : Int)))) := (World.cell?_of_block (by rw [HW.out.1])).trans (hc.out j hlt)
      have HBM : Hid (((k + (j : Int)) % 3 == 0) = mB (k + (j : Int))) := hide rfl
      rw [← HBM.out] at cj
      clear HBM
      cases hm : ((k + (j : Int)) % 3 == 0) with
      | true =>
        rw [hm] at cj
        go_wp2_with fail
        exact ⟨⟨j + 1, by omega, by go_num, by go_num, HW⟩, by simp [intOf]; omega⟩
      | false =>
        rw [hm] at cj
        go_wp2_with fail
        exact ⟨⟨j + 1, by omega, by go_num, by go_num, HW⟩, by simp [intOf]; omega⟩
    · have hje : j = n := by omega
      subst hje
      go_wp2_with fail
      go_ret
      exact ⟨rfl, HW.out⟩
/-- The flow that the law marks: every list by itself. -/
structure FlowSep (w : World) (Bs n q g1 g2 g3 g4 : Nat) (a : Nat → Option Addr) (cp lo hi : Nat → Nat) (Pr : Nat → List Int) (P Od : List Int) : Prop where
  sets : SetsSep w g1 n a cp lo hi Pr
  rc : ∀ i, i < n → ∃ v, w.cell? ⟨g2, i, none⟩ = some (.bool v)
  rt : ∀ z, w.frozen? ⟨g2, z, none⟩ = false
  i : IntsAt w g3 (g3 + 1) (some ⟨g3, 0, none⟩) P
  it : ThawB g3 (g3 + 1) w
  o : IntsAt w g4 (g4 + 1) (some ⟨g4, 0, none⟩) Od
  ot : ThawB g4 (g4 + 1) w
  ne : g1 ≠ g2 ∧ g1 ≠ g3 ∧ g1 ≠ g4 ∧ g2 ≠ g3 ∧ g2 ≠ g4 ∧ g3 ≠ g4
  out : ∀ i, i < n → ¬ (lo i ≤ g2 ∧ g2 < hi i) ∧ ¬ (lo i ≤ g3 ∧ g3 < hi i) ∧ ¬ (lo i ≤ g4 ∧ g4 < hi i)
  ge : Bs ≤ g2 ∧ Bs ≤ g3 ∧ Bs ≤ g4 ∧ ∀ i, i < n → ∀ k, lo i ≤ k → k < hi i → Bs ≤ k
  lt : g1 < w.heap.size ∧ g2 < w.heap.size ∧ g3 < w.heap.size ∧ g4 < w.heap.size ∧ ∀ i, i < n → hi i ≤ w.heap.size
/-- Marked. -/
structure FlowMk (w : World) (k : Int) (n q g1 g2 g3 g4 : Nat) (a : Nat → Option Addr) (cp lo hi : Nat → Nat) (Pr : Nat → List Int) : Prop where
  c : ∀ i, i < n → w.cell? ⟨g1, i, none⟩ = some (.slice (a i) (Pr i).length (cp i))
  p : ∀ i, i < n → IntsAt w (lo i) (hi i) (a i) (marks (k + pc Pr i) (Pr i).length)
  r : ∀ i, i < n → w.cell? ⟨g2, i, none⟩ = some (.bool (mB (k + pc Pr n + i)))
  i : IntsAt w g3 (g3 + 1) (some ⟨g3, 0, none⟩) (marks (k + pc Pr n + n) n)
  o : IntsAt w g4 (g4 + 1) (some ⟨g4, 0, none⟩) (marks (k + pc Pr n + n + n) q)
theorem FlowMk.keep {w w' : World} {k : Int} {n q g1 g2 g3 g4 : Nat} {a : Nat → Option Addr} {cp lo hi : Nat → Nat} {Pr : Nat → List Int} (h : FlowMk w k n q g1 g2 g3 g4 a cp lo hi Pr) (hl : g1 < w.heap.size ∧ g2 < w.heap.size ∧ g3 < w.heap.size ∧ g4 < w.heap.size ∧ ∀ i, i < n → hi i ≤ w.heap.size) (b : Below w.heap.size w w') : FlowMk w' k n q g1 g2 g3 g4 a cp lo hi Pr :=
  ⟨fun i h1 => (b.cell (p := ⟨g1, i, none⟩) hl.1).trans (h.c i h1), fun i h1 => (h.p i h1).keepS (fun z _ z2 => b.block z (by have := hl.2.2.2.2 i h1; omega)), fun i h1 => (b.cell (p := ⟨g2, i, none⟩) hl.2.1).trans (h.r i h1), h.i.keepS (fun z _ z2 => b.block z (by omega)), h.o.keepS (fun z _ z2 => b.block z (by omega))⟩
set_option maxHeartbeats 1000000 in
set_option maxRecDepth 100000 in
theorem markFlow_sep (Bs T n q g1 g2 g3 g4 c1 c2 c3 c4 : Nat) (k : Int) (a : Nat → Option Addr) (cp lo hi : Nat → Nat) (Pr : Nat → List Int) (P Od : List Int) (w : World) (hs : Hid (FlowSep w Bs n q g1 g2 g3 g4 a cp lo hi Pr P Od)) (hn : n ≤ 1000) (hq : q ≤ 1000) (hP : Hid (n = P.length)) (hO : Hid (q = Od.length)) (hl : Hid (∀ i, i < n → (Pr i).length ≤ 1000)) (h0 : 0 ≤ k) (h1 : k ≤ 1000) (hT : Hid (g2 < T ∧ g3 < T ∧ g4 < T ∧ ∀ i, i < n → hi i ≤ T)) :
    Calls Tryd.prog 35 #[.agg #[.slice (some ⟨g1, 0, none⟩) n c1, .slice (some ⟨g2, 0, none⟩) n c2, .slice (some ⟨g3, 0, none⟩) n c3, .slice (some ⟨g4, 0, none⟩) q c4], .int .i64 k] w fun e w' => e = .returned (.int .i64 (k + pc Pr n + n + n + q)) ∧ Mod Bs T w w' ∧ w.heap.size ≤ w'.heap.size ∧ FlowMk w' k n q g1 g2 g3 g4 a cp lo hi Pr := by
  have hpn := pc_le hl.out n (Nat.le_refl _)
  obtain ⟨lt1, lt2, lt3, lt4, lt5⟩ := hs.out.lt
  obtain ⟨ne1, ne2, ne3, ne4, ne5, ne6⟩ := hs.out.ne
  have HL5 := hide lt5
  clear lt5
  obtain ⟨wa, hwa⟩ : ∃ wa, wa = w.alloc (.cells #[.slice (some ⟨g1, 0, none⟩) n c1, .slice (some ⟨g2, 0, none⟩) n c2, .slice (some ⟨g3, 0, none⟩) n c3, .slice (some ⟨g4, 0, none⟩) q c4] 50) := ⟨_, rfl⟩
  have HBA : Hid (Below w.heap.size w wa) := hide (by rw [hwa]; exact balloc (Below.refl _ _) _)
  have hza : wa.heap.size = w.heap.size + 1 := by rw [hwa]; simp
  have HXA : Hid (wa.cell? ⟨w.heap.size, 0, none⟩ = some (.slice (some ⟨g1, 0, none⟩) n c1) ∧ wa.cell? ⟨w.heap.size, 1, none⟩ = some (.slice (some ⟨g2, 0, none⟩) n c2) ∧ wa.cell? ⟨w.heap.size, 2, none⟩ = some (.slice (some ⟨g3, 0, none⟩) n c3) ∧ wa.cell? ⟨w.heap.size, 3, none⟩ = some (.slice (some ⟨g4, 0, none⟩) q c4)) := hide (by rw [hwa]; simp [go_sem])
  have HSA : Hid (SetsSep wa g1 n a cp lo hi Pr) := hide ⟨fun i h => (HBA.out.cell (p := ⟨g1, i, none⟩) lt1).trans (hs.out.sets.cell i h), fun i h => (hs.out.sets.ints i h).keepS (fun z _ z2 => HBA.out.block z (by have := HL5.out i h; omega)), fun i h => (hs.out.sets.thaw i h).keepS (fun z _ z2 => HBA.out.block z (by have := HL5.out i h; omega)), hs.out.sets.dj, hs.out.sets.out⟩
  have HC1 := hide (markSets_sep g1 n c1 k a cp lo hi Pr wa HSA hn hl h0 (by omega))
  go_enter Tryd.func35, Tryd.ntmps35
  go_wp2_with fail
  rw [← hwa]
  clear hwa
  refine HC1.out.mono ?_
  rintro e w1 ⟨rfl, hm1⟩
  have HM1 := hide hm1
  have hz1 : w1.heap.size = w.heap.size + 1 := by rw [hm1.size]; exact hza
  have hfar : ∀ b, (∀ i, i < n → ¬ (lo i ≤ b ∧ b < hi i)) → w1.heap[b]? = wa.heap[b]? := hm1.block
  have hA1 : w1.heap[w.heap.size]? = wa.heap[w.heap.size]? := hfar _ (fun i hi' => by have := HL5.out i hi'; omega)
  have hG2 : w1.heap[g2]? = w.heap[g2]? := (hfar g2 (fun i h => (hs.out.out i h).1)).trans (HBA.out.block g2 lt2)
  have hG3 : w1.heap[g3]? = w.heap[g3]? := (hfar g3 (fun i h => (hs.out.out i h).2.1)).trans (HBA.out.block g3 lt3)
  have hG4 : w1.heap[g4]? = w.heap[g4]? := (hfar g4 (fun i h => (hs.out.out i h).2.2)).trans (HBA.out.block g4 lt4)
  have hG1 : w1.heap[g1]? = w.heap[g1]? := (hfar g1 hs.out.sets.out).trans (HBA.out.block g1 lt1)
  have x1 := (cell_of hA1).trans HXA.out.2.1
  have HGS := hide (show _ ∧ _ ∧ _ ∧ _ ∧ _ from ⟨hA1, hG1, hG2, hG3, hG4⟩)
  obtain ⟨p, hp⟩ : ∃ p : Int, p = k + pc Pr n := ⟨_, rfl⟩
  have hp0 : 0 ≤ p := by omega
  have hp1 : p ≤ 1001000 := by omega
  rw [← hp]
  have HP := hide hp
  have HC2 := hide (markBools_any g2 n c2 p w1 (hide (fun i h => by obtain ⟨v, hv⟩ := hs.out.rc i h; exact ⟨v, (cell_of hG2).trans hv⟩)) (hide (fun z => (World.frozen?_of_block hG2).trans (hs.out.rt z))) hn hp0 (by omega))
  clear hm1 hfar HC1 hA1 hG1 hG2 hG3 hG4 hp
  go_wp2_with fail
  refine HC2.out.mono ?_
  rintro e w2 ⟨rfl, hg2, hz2, hc2⟩
  have HC2' := hide hc2
  have HG2 := hide hg2
  have hb2 : ∀ z, z < w1.heap.size → z ≠ g2 → w2.heap[z]? = w1.heap[z]? := fun z h1 h2 => hg2.block z h1 (fun e => h2 (by injection e))
  have x2 := (cell_of (hb2 w.heap.size (by omega) (by omega))).trans ((cell_of HGS.out.1).trans HXA.out.2.2.1)
  have x2' := (cell_of (hb2 w.heap.size (by omega) (by omega))).trans ((cell_of HGS.out.1).trans HXA.out.2.2.2)
  have HS3 : Hid (Same g3 (g3 + 1) w w2) := hide (fun z z1 z2 => by
    have : z = g3 := by omega
    subst this
    exact (hb2 z (by omega) (by omega)).trans HGS.out.2.2.2.1)
  have HS4 : Hid (Same g4 (g4 + 1) w w2) := hide (fun z z1 z2 => by
    have : z = g4 := by omega
    subst this
    exact (hb2 z (by omega) (by omega)).trans HGS.out.2.2.2.2)
  have HC3 := hide (markInts_any (some ⟨g3, 0, none⟩) n c3 (p + n) P g3 (g3 + 1) w2 (hide (hs.out.i.keepS HS3.out)) hP (hide (hs.out.it.keepS HS3.out)) (by omega) (by omega) (by omega))
  clear hg2 hc2 HC2 x1
  go_wp2_with fail
  refine HC3.out.mono ?_
  rintro e w3 ⟨rfl, hiw3, hia3⟩
  have HW3 := hide hiw3
  have HI3 := hide hia3
  have x3 := (cell_of (hiw3.block w.heap.size (by omega))).trans x2'
  have HS4' : Hid (Same g4 (g4 + 1) w w3) := hide (fun z z1 z2 => (hiw3.block z (by omega)).trans (HS4.out z z1 z2))
  have HC4 := hide (markInts_any (some ⟨g4, 0, none⟩) q c4 (p + n + n) Od g4 (g4 + 1) w3 (hide (hs.out.o.keepS HS4'.out)) hO (hide (hs.out.ot.keepS HS4'.out)) (by omega) (by omega) (by omega))
  clear hiw3 hia3 HC3 x2 x2' HS3
  go_wp2_with fail
  refine HC4.out.mono ?_
  rintro e w4 ⟨rfl, hiw4, hia4⟩
  have HW4 := hide hiw4
  have HI4 := hide hia4
  clear hiw4 hia4 HC4
  go_wp2_with fail
  go_ret
  have hb34 : ∀ z, z ≠ g3 → z ≠ g4 → w4.heap[z]? = w2.heap[z]? := fun z h1 h2 => (HW4.out.block z (by omega)).trans (HW3.out.block z (by omega))
  have hb24 : ∀ z, z < w1.heap.size → z ≠ g2 → z ≠ g3 → z ≠ g4 → w4.heap[z]? = w1.heap[z]? := fun z h0 h1 h2 h3 => (hb34 z h2 h3).trans (hb2 z h0 h1)
  have hz4 : w4.heap.size = w.heap.size + 1 := by rw [HW4.out.size, HW3.out.size, hz2, hz1]
  have hp := HP.out
  subst hp
  refine ⟨rfl, ⟨HW4.out.os.trans (HW3.out.os.trans (HG2.out.os.trans (HM1.out.os.trans HBA.out.os))), HW4.out.tape.trans (HW3.out.tape.trans (HG2.out.tape.trans (HM1.out.tape.trans HBA.out.tape))), HW4.out.output.trans (HW3.out.output.trans (HG2.out.output.trans (HM1.out.output.trans HBA.out.output))), by omega, fun z hz hnz => ?_⟩, by omega, ⟨fun i h => ?_, fun i h => ?_, fun i h => ?_, ?_, ?_⟩⟩
  · obtain ⟨ge2, ge3, ge4, ge5⟩ := hs.out.ge
    obtain ⟨t2, t3, t4, t5⟩ := hT.out
    exact (hb24 z (by omega) (by omega) (by omega) (by omega)).trans ((HM1.out.block z (fun i h e => by have := ge5 i h z e.1 e.2; have := t5 i h; omega)).trans (HBA.out.block z (by omega)))
  · exact (cell_of (hb24 g1 (by omega) ne1 ne2 ne3)).trans ((cell_of HGS.out.2.1).trans (hs.out.sets.cell i h))
  · refine (HM1.out.done i h).keepS (fun z z1 z2 => ?_)
    obtain ⟨o2, o3, o4⟩ := hs.out.out i h
    exact hb24 z (by have := HL5.out i h; omega) (fun e => o2 (by omega)) (fun e => o3 (by omega)) (fun e => o4 (by omega))
  · exact (cell_of (hb34 g2 ne4 ne5)).trans (HC2'.out i h)
  · exact HI3.out.keepS (fun z z1 z2 => HW4.out.block z (by omega))
  · exact HI4.out
set_option maxHeartbeats 1000000 in
set_option maxRecDepth 100000 in
theorem heldFlow_any (n q g1 g2 g3 g4 c1 c2 c3 c4 : Nat) (k : Int) (a : Nat → Option Addr) (cp lo hi : Nat → Nat) (Pr : Nat → List Int) (w : World) (hs : Hid (FlowMk w k n q g1 g2 g3 g4 a cp lo hi Pr)) (hlt : Hid (g1 < w.heap.size ∧ g2 < w.heap.size ∧ g3 < w.heap.size ∧ g4 < w.heap.size ∧ ∀ i, i < n → hi i ≤ w.heap.size)) (hn : n ≤ 1000) (hq : q ≤ 1000) (hl : Hid (∀ i, i < n → (Pr i).length ≤ 1000)) (h0 : 0 ≤ k) (h1 : k ≤ 1000) :
    Calls Tryd.prog 36 #[.agg #[.slice (some ⟨g1, 0, none⟩) n c1, .slice (some ⟨g2, 0, none⟩) n c2, .slice (some ⟨g3, 0, none⟩) n c3, .slice (some ⟨g4, 0, none⟩) q c4], .int .i64 k] w fun e w' => e = .returned (.int .i64 (k + pc Pr n + n + n + q)) ∧ Below w.heap.size w w' := by
  have hpn := pc_le hl.out n (Nat.le_refl _)
  have HK := hide (fun W (hb : Below w.heap.size w W) => hs.out.keep hlt.out hb)
  have bl := fun x => balloc (Below.refl w.heap.size w) x
  go_enter Tryd.func36, Tryd.ntmps36
  go_wp2_with fail
  refine (heldSets_any g1 n c1 k a cp lo hi Pr _ (hide (HK.out _ (bl _)).c) (hide (HK.out _ (bl _)).p) hn hl h0 (by omega)).mono ?_
  rintro e w1 ⟨rfl, hw1⟩
  rw [hw1]
  clear hw1
  obtain ⟨p, hp⟩ : ∃ p : Int, p = k + pc Pr n := ⟨_, rfl⟩
  have hp0 : 0 ≤ p := by omega
  have hp1 : p ≤ 1001000 := by omega
  have hpz : ¬ p < 0 := by omega
  have HP := hide hp
  rw [← hp]
  clear hp
  go_wp2_with fail
  refine (heldBools_any g2 n c2 p _ (hide (by rw [HP.out]; exact (HK.out _ (bl _)).r)) hn hp0 (by omega)).mono ?_
  rintro e w2 ⟨rfl, hh2, hb2⟩
  obtain ⟨k2, f2⟩ := bcell hb2
  have hz2 := hb2.size
  simp at hz2
  have HB2 := hide (bnext (bl _) hb2)
  have hpn0 : ¬ p + (n : Int) < 0 := by omega
  clear hh2 hb2
  go_wp2_with fail
  refine (heldInts_any (some ⟨g3, 0, none⟩) n c3 (p + n) g3 (g3 + 1) w2 (hide (by rw [HP.out]; exact (HK.out _ HB2.out).i)) (by omega) (by omega) (by omega)).mono ?_
  rintro e w3 ⟨rfl, hw3⟩
  rw [hw3]
  clear hw3
  have hpn1 : ¬ p + (n : Int) + (n : Int) < 0 := by omega
  go_wp2_with fail
  refine (heldInts_any (some ⟨g4, 0, none⟩) q c4 (p + n + n) g4 (g4 + 1) w2 (hide (by rw [HP.out]; exact (HK.out _ HB2.out).o)) (by omega) (by omega) (by omega)).mono ?_
  rintro e w4 ⟨rfl, hw4⟩
  rw [hw4]
  clear hw4
  have hpn2 : ¬ p + (n : Int) + (n : Int) + (q : Int) < 0 := by omega
  go_wp2_with fail
  go_ret
  have hp := HP.out
  subst hp
  exact ⟨rfl, HB2.out⟩
end Go.Proofs.YtlmaodcddbkllaaDoor
