import Derived.Test.YtjfcbjomfbfoiaaGreatDoorLF1
import Derived.Test.YtjfcbjomfbfoiaaGreatDoorMH2
namespace Go.Proofs.YtjfcbjomfbfoiaaGreatDoor
open Go.RowKit
set_option maxHeartbeats 1000000 in
set_option maxRecDepth 100000 in
theorem eqLive_yes (a1 a2 b1 b2 : Option Addr) (n c1 c2 d1 d2 : Nat) (P Q : List (List Int)) (L B L' B' : Nat) (w : World) (h1 : Hid (IntssAt w L B a1 P)) (h2 : Hid (IntssAt w L B a2 Q)) (k1 : Hid (IntssAt w L' B' b1 P)) (k2 : Hid (IntssAt w L' B' b2 Q)) (e1 : Hid (n = P.length)) (e2 : Hid (n = Q.length)) (hn : n ≤ 5000) (l1 : Hid (∀ l ∈ P, l.length ≤ 5000)) (l2 : Hid (∀ l ∈ Q, l.length ≤ 5000)) (hB : B ≤ w.heap.size) (hB' : B' ≤ w.heap.size) :
    Calls Tryz.prog 11 #[.agg #[.slice a1 n c1, .slice a2 n c2], .agg #[.slice b1 n d1, .slice b2 n d2]] w fun e w' => e = .returned (.bool true) ∧ Below w.heap.size w w' := by
  have bl := fun x y => balloc (balloc (Below.refl w.heap.size w) x) y
  have C1 := fun x y => hide (eqSets_yes a1 b1 n c1 d1 P L B L' B' ((w.alloc x).alloc y) (hide (h1.out.keep ((bl x y).mono hB))) (hide (k1.out.keep ((bl x y).mono hB'))) e1 hn l1 (by have := (bl x y).size; omega) (by have := (bl x y).size; omega))
  go_enter Tryz.func11, Tryz.ntmps11
  go_wp2_with fail
  refine (C1 _ _).out.mono ?_
  rintro e w1 ⟨rfl, hb1⟩
  obtain ⟨kk, ff⟩ := bcell hb1
  have hz1 := hb1.size
  simp at hz1
  have x1 : w1.cell? ⟨w.heap.size, 1, none⟩ = some (.slice a2 n c2) := by rw [kk _ _ (by simp; omega)]; simp [go_sem]
  have y1 : w1.cell? ⟨w.heap.size + 1, 1, none⟩ = some (.slice b2 n d2) := by rw [kk _ _ (by simp)]; simp [go_sem]
  have HB1 := hide (bnext (bl _ _) hb1)
  have C2 := hide (eqSets_yes a2 b2 n c2 d2 Q L B L' B' w1 (hide (h2.out.keep (HB1.out.mono hB))) (hide (k2.out.keep (HB1.out.mono hB'))) e2 hn l2 (by show B ≤ w1.heap.size; omega) (by show B' ≤ w1.heap.size; omega))
  clear hb1 kk ff
  go_wp2_with fail
  refine C2.out.mono ?_
  rintro e w2 ⟨rfl, hb2⟩
  have HB2 := hide (bnext HB1.out hb2)
  clear hb2 C2
  go_wp2_with fail
  go_ret
  exact ⟨rfl, HB2.out⟩
/-- Two lists of sets, every row its own. -/
structure LvSep (w : World) (B T n : Nat) (g : Bool → Nat) (a : Bool → Nat → Option Addr) (cp lo hi : Bool → Nat → Nat) (Pr : Bool → Nat → List Int) : Prop where
  sep : ∀ s, SetsSep w (g s) n (a s) (cp s) (lo s) (hi s) (Pr s)
  dj : ∀ i j, i < n → j < n → hi false i ≤ lo true j ∨ hi true j ≤ lo false i
  out : ∀ s s' i, i < n → ¬ (lo s i ≤ g s' ∧ g s' < hi s i)
  low : ∀ s, g s < T
  top : T ≤ w.heap.size
  rng : ∀ s i q, i < n → lo s i ≤ q → q < hi s i → B ≤ q ∧ q < T
theorem SetsSep.of {w w' : World} {g n : Nat} {a : Nat → Option Addr} {cp lo hi : Nat → Nat} {Pr : Nat → List Int} (h : SetsSep w g n a cp lo hi Pr) (k : ∀ q, (q = g ∨ ∃ i, i < n ∧ lo i ≤ q ∧ q < hi i) → w'.heap[q]? = w.heap[q]?) : SetsSep w' g n a cp lo hi Pr :=
  ⟨fun i hi' => (cell_of (k g (Or.inl rfl))).trans (h.cell i hi'), fun i hi' => (h.ints i hi').keepS (fun q q1 q2 => k q (Or.inr ⟨i, hi', q1, q2⟩)), fun i hi' => (h.thaw i hi').keepS (fun q q1 q2 => k q (Or.inr ⟨i, hi', q1, q2⟩)), h.dj, h.out⟩
/-- Marked. -/
structure LvMk (w : World) (T n : Nat) (k : Int) (g : Bool → Nat) (a : Bool → Nat → Option Addr) (cp lo hi : Bool → Nat → Nat) (Pr : Bool → Nat → List Int) : Prop where
  cell : ∀ s i, i < n → w.cell? ⟨g s, i, none⟩ = some (.slice (a s i) (Pr s i).length (cp s i))
  ints : ∀ s i, i < n → IntsAt w (lo s i) (hi s i) (a s i) (marks (k + (if s = true then (pc (Pr false) n : Int) else 0) + pc (Pr s) i) (Pr s i).length)
  low : ∀ s, g s < T
  top : T ≤ w.heap.size
  rng : ∀ s i q, i < n → lo s i ≤ q → q < hi s i → q < T
theorem LvMk.below {w w' : World} {T n : Nat} {k : Int} {g : Bool → Nat} {a : Bool → Nat → Option Addr} {cp lo hi : Bool → Nat → Nat} {Pr : Bool → Nat → List Int} (h : LvMk w T n k g a cp lo hi Pr) (b : Below w.heap.size w w') : LvMk w' T n k g a cp lo hi Pr :=
  ⟨fun s i hi' => (b.cell (p := ⟨g s, i, none⟩) (Nat.lt_of_lt_of_le (h.low s) h.top)).trans (h.cell s i hi'), fun s i hi' => (h.ints s i hi').keepS (fun q q1 q2 => b.block q (Nat.lt_of_lt_of_le (h.rng s i q hi' q1 q2) h.top)), h.low, Nat.le_trans h.top b.size, h.rng⟩
set_option maxHeartbeats 1000000 in
set_option maxRecDepth 100000 in
theorem markLive_sep (B T n : Nat) (k : Int) (g : Bool → Nat) (a : Bool → Nat → Option Addr) (cp lo hi : Bool → Nat → Nat) (Pr : Bool → Nat → List Int) (c0 c1 : Nat) (w : World) (hs : Hid (LvSep w B T n g a cp lo hi Pr)) (hn : n ≤ 5000) (hl : Hid (∀ s i, i < n → (Pr s i).length ≤ 5000)) (h0 : 0 ≤ k) (h1 : k ≤ 1000) :
    Calls Tryz.prog 14 #[.agg #[.slice (some ⟨g false, 0, none⟩) n c0, .slice (some ⟨g true, 0, none⟩) n c1], .int .i64 k] w fun e w' => e = .returned (.int .i64 (k + pc (Pr false) n + pc (Pr true) n)) ∧ Mod B T w w' ∧ w.heap.size ≤ w'.heap.size ∧ LvMk w' T n k g a cp lo hi Pr := by
  have hp0 := pc_le (hl.out false) n (Nat.le_refl _)
  have hp1 := pc_le (hl.out true) n (Nat.le_refl _)
  obtain ⟨wa, hwa⟩ : ∃ wa, wa = w.alloc (.cells #[.slice (some ⟨g false, 0, none⟩) n c0, .slice (some ⟨g true, 0, none⟩) n c1] 28) := ⟨_, rfl⟩
  have HBA : Hid (Below w.heap.size w wa) := hide (by rw [hwa]; exact balloc (Below.refl _ _) _)
  have hza : wa.heap.size = w.heap.size + 1 := by rw [hwa]; simp
  have HXA : Hid (wa.cell? ⟨w.heap.size, 1, none⟩ = some (.slice (some ⟨g true, 0, none⟩) n c1)) := hide (by rw [hwa]; simp [go_sem])
  have hT := hs.out.top
  have HSA : Hid (∀ s, SetsSep wa (g s) n (a s) (cp s) (lo s) (hi s) (Pr s)) := hide (fun s => (hs.out.sep s).of (fun q hq => HBA.out.block q (by
    rcases hq with rfl | ⟨i, hi', q1, q2⟩
    · have := hs.out.low s; omega
    · have := hs.out.rng s i q hi' q1 q2; omega)))
  have HC1 := hide (markSets_sep (g false) n c0 k (a false) (cp false) (lo false) (hi false) (Pr false) wa (hide (HSA.out false)) hn (hide (hl.out false)) h0 (by omega))
  go_enter Tryz.func14, Tryz.ntmps14
  go_wp2_with fail
  rw [← hwa]
  clear hwa
  refine HC1.out.mono ?_
  rintro e w1 ⟨rfl, hm1⟩
  have HM1 := hide hm1
  have hz1 : w1.heap.size = w.heap.size + 1 := by rw [hm1.size]; exact hza
  have x1 := (cell_of (hm1.block w.heap.size (fun i hi' e => by have := hs.out.rng false i _ hi' e.1 e.2; omega))).trans HXA.out
  have HS1 : Hid (SetsSep w1 (g true) n (a true) (cp true) (lo true) (hi true) (Pr true)) := hide ((HSA.out true).of (fun q hq => hm1.block q (fun i hi' e => by
    rcases hq with rfl | ⟨j, hj, q1, q2⟩
    · exact hs.out.out false true i hi' e
    · have := hs.out.dj i j hi' hj; omega)))
  obtain ⟨p, hp⟩ : ∃ p : Int, p = k + pc (Pr false) n := ⟨_, rfl⟩
  have hq0 : 0 ≤ p := by omega
  have hq1 : p ≤ 25001000 := by omega
  rw [← hp]
  have HP := hide hp
  have HC2 := hide (markSets_sep (g true) n c1 p (a true) (cp true) (lo true) (hi true) (Pr true) w1 HS1 hn (hide (hl.out true)) hq0 (by omega))
  clear hm1 HC1 hp
  go_wp2_with fail
  refine HC2.out.mono ?_
  rintro e w2 ⟨rfl, hm2⟩
  have HM2 := hide hm2
  clear hm2 HC2
  go_wp2_with fail
  go_ret
  have hp := HP.out
  subst hp
  have hz2 := HM2.out.size
  have hG : ∀ s, w2.heap[g s]? = w.heap[g s]? := fun s => (HM2.out.block _ (fun i hi' => hs.out.out true s i hi')).trans ((HM1.out.block _ (fun i hi' => hs.out.out false s i hi')).trans (HBA.out.block _ (by have := hs.out.low s; omega)))
  refine ⟨rfl, ⟨HM2.out.os.trans (HM1.out.os.trans HBA.out.os), HM2.out.tape.trans (HM1.out.tape.trans HBA.out.tape), HM2.out.output.trans (HM1.out.output.trans HBA.out.output), by omega, fun z hz hnz => ?_⟩, by omega, ⟨fun s i hi' => (cell_of (hG s)).trans ((hs.out.sep s).cell i hi'), fun s i hi' => ?_, hs.out.low, by omega, fun s i q hi' q1 q2 => (hs.out.rng s i q hi' q1 q2).2⟩⟩
  · exact (HM2.out.block z (fun i hi' e => hnz (hs.out.rng true i z hi' e.1 e.2))).trans ((HM1.out.block z (fun i hi' e => hnz (hs.out.rng false i z hi' e.1 e.2))).trans (HBA.out.block z hz))
  · cases s with
    | false =>
      have h := (HM1.out.done i hi').keepS (w' := w2) (fun z z1 z2 => HM2.out.block z (fun j hj e => by have := hs.out.dj i j hi' hj; omega))
      simpa using h
    | true =>
      have h := HM2.out.done i hi'
      simpa using h
set_option maxHeartbeats 1000000 in
set_option maxRecDepth 100000 in
theorem heldLive_any (T n : Nat) (k : Int) (g : Bool → Nat) (a : Bool → Nat → Option Addr) (cp lo hi : Bool → Nat → Nat) (Pr : Bool → Nat → List Int) (c0 c1 : Nat) (w : World) (hs : Hid (LvMk w T n k g a cp lo hi Pr)) (hn : n ≤ 5000) (hl : Hid (∀ s i, i < n → (Pr s i).length ≤ 5000)) (h0 : 0 ≤ k) (h1 : k ≤ 1000) :
    Calls Tryz.prog 15 #[.agg #[.slice (some ⟨g false, 0, none⟩) n c0, .slice (some ⟨g true, 0, none⟩) n c1], .int .i64 k] w fun e w' => e = .returned (.int .i64 (k + pc (Pr false) n + pc (Pr true) n)) ∧ Below w.heap.size w w' := by
  have hp0 := pc_le (hl.out false) n (Nat.le_refl _)
  have hp1 := pc_le (hl.out true) n (Nat.le_refl _)
  have HK := hide (fun W (hb : Below w.heap.size w W) => hs.out.below hb)
  have bl := fun x => balloc (Below.refl w.heap.size w) x
  go_enter Tryz.func15, Tryz.ntmps15
  go_wp2_with fail
  refine (heldSets_any (g false) n c0 k (a false) (cp false) (lo false) (hi false) (Pr false) _ (hide ((HK.out _ (bl _)).cell false)) (hide (fun i hi' => by have h := (HK.out _ (bl (.cells #[.slice (some ⟨g false, 0, none⟩) n c0, .slice (some ⟨g true, 0, none⟩) n c1] 28))).ints false i hi'; simpa using h)) hn (hide (hl.out false)) h0 (by omega)).mono ?_
  rintro e w1 ⟨rfl, hw1⟩
  rw [hw1]
  clear hw1
  obtain ⟨p, hp⟩ : ∃ p : Int, p = k + pc (Pr false) n := ⟨_, rfl⟩
  have hq0 : 0 ≤ p := by omega
  have hq1 : p ≤ 25001000 := by omega
  have hpz : ¬ p < 0 := by omega
  have HP := hide hp
  rw [← hp]
  clear hp
  go_wp2_with fail
  refine (heldSets_any (g true) n c1 p (a true) (cp true) (lo true) (hi true) (Pr true) _ (hide ((HK.out _ (bl _)).cell true)) (hide (fun i hi' => by have h := (HK.out _ (bl (.cells #[.slice (some ⟨g false, 0, none⟩) n c0, .slice (some ⟨g true, 0, none⟩) n c1] 28))).ints true i hi'; rw [HP.out]; simpa using h)) hn (hide (hl.out true)) hq0 (by omega)).mono ?_
  rintro e w2 ⟨rfl, hw2⟩
  rw [hw2]
  clear hw2
  obtain ⟨r, hr⟩ : ∃ r : Int, r = p + pc (Pr true) n := ⟨_, rfl⟩
  have hrz : ¬ r < 0 := by omega
  have HR := hide hr
  rw [← hr]
  clear hr
  go_wp2_with fail
  go_ret
  refine ⟨?_, bl _⟩
  rw [HR.out, HP.out]
  rfl
set_option maxHeartbeats 1000000 in
theorem markLive_nil (w : World) : Calls Tryz.prog 14 #[.agg #[.slice none 0 0, .slice none 0 0], .int .i64 1] w fun e w' => e = .returned (.int .i64 1) ∧ Below w.heap.size w w' := by
  have bl := fun x => balloc (Below.refl w.heap.size w) x
  go_enter Tryz.func14, Tryz.ntmps14
  go_wp2_with fail
  refine (markSets_nil 1 _).mono ?_
  rintro e w1 ⟨rfl, hw1⟩
  rw [hw1]
  clear hw1
  go_wp2_with fail
  refine (markSets_nil 1 _).mono ?_
  rintro e w2 ⟨rfl, hw2⟩
  rw [hw2]
  clear hw2
  go_wp2_with fail
  go_ret
  exact ⟨rfl, bl _⟩
set_option maxHeartbeats 1000000 in
theorem heldLive_nil (w : World) : Calls Tryz.prog 15 #[.agg #[.slice none 0 0, .slice none 0 0], .int .i64 1] w fun e w' => e = .returned (.int .i64 1) ∧ Below w.heap.size w w' := by
  have bl := fun x => balloc (Below.refl w.heap.size w) x
  go_enter Tryz.func15, Tryz.ntmps15
  go_wp2_with fail
  refine (heldSets_nil 1 _).mono ?_
  rintro e w1 ⟨rfl, hw1⟩
  rw [hw1]
  clear hw1
  go_wp2_with fail
  refine (heldSets_nil 1 _).mono ?_
  rintro e w2 ⟨rfl, hw2⟩
  rw [hw2]
  clear hw2
  go_wp2_with fail
  go_ret
  exact ⟨rfl, bl _⟩
end Go.Proofs.YtjfcbjomfbfoiaaGreatDoor
