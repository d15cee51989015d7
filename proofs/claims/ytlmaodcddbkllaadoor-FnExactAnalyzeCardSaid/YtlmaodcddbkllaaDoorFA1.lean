import Derived.Test.YtlmaodcddbkllaaDoorFM1
import Derived.Test.YtlmaodcddbkllaaDoorMA1
import Derived.Test.YtlmaodcddbkllaaDoorDO1
/-
  What Analyze answers, of both sides, as the law looks at it.
-/
namespace Go.Proofs.YtlmaodcddbkllaaDoor
open Go.RowKit

noncomputable def idmL (xs : List Blk) : List Int := (List.range xs.length).map (idomP ((List.range xs.length).map (domL (tgN xs) xs.length)))
noncomputable def fqPr (v : Int) (xs : List Blk) : List (List Int) := if validI ⟨v, xs⟩ = true then prL xs else []
noncomputable def fqRc (v : Int) (xs : List Blk) : List Bool := if validI ⟨v, xs⟩ = true then rcL xs else []
noncomputable def fqP (v : Int) (xs : List Blk) : List Int := if validI ⟨v, xs⟩ = true then idmL xs else []
noncomputable def fqO (v : Int) (xs : List Blk) : List Int := if validI ⟨v, xs⟩ = true then natI (preP (idmL xs) xs.length 0) else []
/-- The answer, to be read. -/
def FlowA (w : World) (L B : Nat) (v : Int) (xs : List Blk) (G : Value) : Prop := ∃ n q a1 c1 a2 c2 a3 c3 a4 c4, G = .agg #[.slice a1 n c1, .slice a2 n c2, .slice a3 n c3, .slice a4 q c4] ∧ FlowAt w L B (fqPr v xs) (fqRc v xs) (fqP v xs) (fqO v xs) a1 a2 a3 a4 ∧ n = (fqPr v xs).length ∧ n = (fqRc v xs).length ∧ n = (fqP v xs).length ∧ q = (fqO v xs).length ∧ n ≤ 1000 ∧ q ≤ 1000
theorem FlowA.keepS {w w' : World} {L B : Nat} {v : Int} {xs : List Blk} {G : Value} (h : FlowA w L B v xs G) (k : Same L B w w') : FlowA w' L B v xs G := by
  obtain ⟨n, q, a1, c1, a2, c2, a3, c3, a4, c4, e, hf, r⟩ := h
  exact ⟨n, q, a1, c1, a2, c2, a3, c3, a4, c4, e, hf.keepS k, r⟩
theorem fqPr_len {v : Int} {xs : List Blk} (hx : xs.length ≤ 1000 ∨ validI ⟨v, xs⟩ = false) : ∀ l ∈ fqPr v xs, l.length ≤ 1000 := fun l hl => by
  unfold fqPr at hl
  split at hl
  · rename_i hv
    obtain ⟨i, _, rfl⟩ := List.mem_map.1 hl
    have := predsFrom_len (i : Int) xs 0
    rcases hx with h | h
    · omega
    · rw [h] at hv; cases hv
  · cases hl
theorem eqFlowA_yes (v : Int) (xs : List Blk) (G G' : Value) (L B L' B' : Nat) (w : World) (ha : FlowA w L B v xs G) (hb : FlowA w L' B' v xs G') (hB : B ≤ w.heap.size) (hB' : B' ≤ w.heap.size) :
    Calls Tryd.prog 34 #[G, G'] w fun e w' => e = .returned (.bool true) ∧ Below w.heap.size w w' := by
  obtain ⟨n, q, a1, c1, a2, c2, a3, c3, a4, c4, rfl, hf, e1, e2, e3, e4, hn, hq⟩ := ha
  obtain ⟨n', q', b1, d1, b2, d2, b3, d3, b4, d4, rfl, hf', e1', _, _, e4', _, _⟩ := hb
  obtain rfl : n = n' := e1.trans e1'.symm
  obtain rfl : q = q' := e4.trans e4'.symm
  have hl : ∀ l ∈ fqPr v xs, l.length ≤ 1000 := fqPr_len (by
    cases hv : validI ⟨v, xs⟩ with
    | false => exact Or.inr rfl
    | true => exact Or.inl (ok_of_valid hv).n2)
  exact eqFlow_yes a1 a2 a3 a4 b1 b2 b3 b4 n q c1 c2 c3 c4 d1 d2 d3 d4 _ _ _ _ L B L' B' w (hide hf) (hide hf') (hide e1) (hide e2) (hide e3) (hide e4) hn hq (hide hl) hB hB'
/-- The answer can be marked, and the marks are found again. -/
def MarkA (w : World) (B : Nat) (G : Value) : Prop := ∀ W, Same B w.heap.size w W → w.heap.size ≤ W.heap.size → Calls Tryd.prog 35 #[G, .int .i64 1] W fun e w' => ∃ m : Nat, e = .returned (.int .i64 m) ∧ m ≤ 2000000 ∧ Mod B w.heap.size W w' ∧ W.heap.size ≤ w'.heap.size ∧ (Calls Tryd.prog 36 #[G, .int .i64 1] w' fun e w'' => e = .returned (.int .i64 m) ∧ Below w'.heap.size w' w'')
theorem fq_bad {v : Int} {xs : List Blk} (h : validI ⟨v, xs⟩ = false) : fqPr v xs = [] ∧ fqRc v xs = [] ∧ fqP v xs = [] ∧ fqO v xs = [] := by
  unfold fqPr fqRc fqP fqO
  rw [h]
  simp
theorem fq_ok {v : Int} {xs : List Blk} (h : validI ⟨v, xs⟩ = true) : fqPr v xs = prL xs ∧ fqRc v xs = rcL xs ∧ fqP v xs = idmL xs ∧ fqO v xs = natI (preP (idmL xs) xs.length 0) := by
  unfold fqPr fqRc fqP fqO
  rw [h]
  simp
theorem flowA_nil {v : Int} {xs : List Blk} (h : validI ⟨v, xs⟩ = false) (w : World) (L B : Nat) : FlowA w L B v xs (.agg #[.slice none 0 0, .slice none 0 0, .slice none 0 0, .slice none 0 0]) := by
  obtain ⟨h1, h2, h3, h4⟩ := fq_bad h
  refine ⟨0, 0, none, 0, none, 0, none, 0, none, 0, rfl, ?_, by rw [h1]; rfl, by rw [h2]; rfl, by rw [h3]; rfl, by rw [h4]; rfl, by omega, by omega⟩
  rw [h1, h2, h3, h4]
  exact ⟨fun i hi => absurd hi (Nat.not_lt_zero _), fun i hi => absurd hi (Nat.not_lt_zero _), fun i hi => absurd hi (Nat.not_lt_zero _), fun i hi => absurd hi (Nat.not_lt_zero _)⟩
theorem flowA_ok {v : Int} {xs : List Blk} (h : validI ⟨v, xs⟩ = true) {w : World} {L B n : Nat} {P : List Int} {a1 a2 a3 a4 : Option Addr} {c1 c2 c3 c4 : Nat} (hx : n = xs.length) (hid : IsIdm (tgN xs) n P) (hf : FlowAt w L B (prL xs) (rcL xs) P (natI (preP P n 0)) a1 a2 a3 a4) : FlowA w L B v xs (.agg #[.slice a1 n c1, .slice a2 n c2, .slice a3 n c3, .slice a4 (preP P n 0).length c4]) := by
  obtain ⟨h1, h2, h3, h4⟩ := fq_ok h
  have ok := ok_of_valid h
  subst hx
  have e : P = idmL xs := isIdm_one hid ok.model
  rw [e] at hf ⊢
  refine ⟨_, _, a1, c1, a2, c2, a3, c3, a4, c4, rfl, by rw [h1, h2, h3, h4]; exact hf, by rw [h1]; simp [prL], by rw [h2]; simp [rcL], by rw [h3]; simp [idmL], by rw [h4, natI_len], ok.n2, ?_⟩
  have := pre_len ok.model ok.re xs.length 0 Re.root
  have h5 := ok.n2
  exact Nat.le_trans this h5
theorem FlowOwn.at {w : World} {B n : Nat} {U : Nat → Value} {xs : List Blk} {P : List Int} {Od : List Nat} {g1 c1 g2 c2 g3 g4 c4 : Nat} (h : FlowOwn w B n U (fun i : Nat => predsFrom xs 0 (i : Int)) (fun z => hasN (seaP xs).1 z) P Od g1 c1 g2 c2 g3 g4 c4) (hx : n = xs.length) : FlowAt w B w.heap.size (prL xs) (rcL xs) P (natI Od) (some ⟨g1, 0, none⟩) (some ⟨g2, 0, none⟩) (some ⟨g3, 0, none⟩) (some ⟨g4, 0, none⟩) := by
  subst hx
  have l1 := h.o1.lt g1 rfl
  have l2 := h.o2.lt g2 rfl
  have l4 := h.o4.lt g4 rfl
  refine ⟨fun i hi => ?_, fun i hi => ?_, fun i hi => ?_, fun i hi => ?_⟩
  · have hin : i < xs.length := by simpa [prL] using hi
    have epr : (prL xs)[i] = predsFrom xs 0 (i : Int) := by simp [prL]
    obtain ⟨a', c', e, hi'⟩ := ints_owned (h.rows i hin)
    refine ⟨g1, 0, rfl, l1, a', c', ?_, by rw [epr]; exact hi'⟩
    rw [Nat.zero_add, own_cell h.o1 (u := U i) (by simp [hin]), e, epr]
  · have hin : i < xs.length := by simpa [rcL] using hi
    refine ⟨g2, 0, rfl, l2, ?_⟩
    rw [Nat.zero_add]
    exact own_cell h.o2 (by simp [rcL, hin])
  · have hin : i < xs.length := by rw [← h.len]; exact hi
    refine ⟨g3, 0, rfl, ⟨h.gs.1, h.o3.lt⟩, ?_⟩
    rw [Nat.zero_add, h.o3.cell hin]
    simp [hi]
  · have hil : i < Od.length := by rw [natI_len] at hi; exact hi
    refine ⟨g4, 0, rfl, l4, ?_⟩
    rw [Nat.zero_add]
    exact own_cell h.o4 (by simp [natV, natI, hil])
end Go.Proofs.YtlmaodcddbkllaaDoor

/-
  Analyze's answers: what the law does with them.
-/
namespace Go.Proofs.YtlmaodcddbkllaaDoor
open Go.RowKit

def aU : Value → Option Addr
  | .slice a _ _ => a
  | _ => none
def cU : Value → Nat
  | .slice _ _ c => c
  | _ => 0
def loU (v : Value) : Nat := v.ownBlock.getD 0
def hiU (v : Value) : Nat := match v.ownBlock with
  | some g => g + 1
  | none => 0
theorem lohi {v : Value} {k : Nat} : (loU v ≤ k ∧ k < hiU v) ↔ v.ownBlock = some k := by
  unfold loU hiU
  cases e : v.ownBlock with
  | none => simp
  | some g => simp; omega
theorem FlowA.form {w : World} {L B : Nat} {v : Int} {xs : List Blk} {G : Value} (h : FlowA w L B v xs G) : ∃ a1 n1 c1 a2 n2 c2 a3 n3 c3 a4 n4 c4, G = .agg #[.slice a1 n1 c1, .slice a2 n2 c2, .slice a3 n3 c3, .slice a4 n4 c4] := by
  obtain ⟨n, q, a1, c1, a2, c2, a3, c3, a4, c4, e, _⟩ := h
  exact ⟨a1, n, c1, a2, n, c2, a3, n, c3, a4, q, c4, e⟩
theorem row_sep {w : World} {B n : Nat} {v : Value} {xs : List Int} (h : w.ownsRow B 2 1 v n (xs.map (Value.int .i64))) : v = .slice (aU v) xs.length (cU v) ∧ IntsAt w (loU v) (hiU v) (aU v) xs ∧ ThawB (loU v) (hiU v) w ∧ ∀ k, v.ownBlock = some k → B ≤ k ∧ k < w.heap.size := by
  have hl : xs.length = n := by have := h.1; simpa using this
  refine ⟨?_, fun i hi => ?_, fun b o hb => ?_, fun k e => h.lt k e⟩
  · rcases own_form h with ⟨e, h0, _⟩ | ⟨g, c, e, _, _⟩
    · rw [e]; simp [aU, cU]; omega
    · rw [e, hl]; rfl
  · rcases own_form h with ⟨e, h0, _⟩ | ⟨g, c, e, _, _⟩
    · omega
    · subst e
      refine ⟨g, 0, rfl, lohi.2 rfl, ?_⟩
      rw [Nat.zero_add]
      exact own_cell h (by simp [hi])
  · rcases own_form h with ⟨e, h0, _⟩ | ⟨g, c, e, _, _⟩
    · subst e
      have := lohi.1 hb
      cases this
    · subst e
      have hb' := lohi.1 hb
      cases hb'
      exact own_thaw h o
theorem FlowOwn.sep {w : World} {B n : Nat} {U : Nat → Value} {Pr : Nat → List Int} {V : Nat → Bool} {P : List Int} {Od : List Nat} {g1 c1 g2 c2 g3 g4 c4 : Nat} (h : FlowOwn w B n U Pr V P Od g1 c1 g2 c2 g3 g4 c4) : FlowSep w B n Od.length g1 g2 g3 g4 (fun i => aU (U i)) (fun i => cU (U i)) (fun i => loU (U i)) (fun i => hiU (U i)) Pr P (natI Od) := by
  have l1 := h.o1.lt g1 rfl
  have l2 := h.o2.lt g2 rfl
  have l4 := h.o4.lt g4 rfl
  have l3 := h.o3.lt
  obtain ⟨gs0, gs1, gs2, gs3, gs4, gs5, gs6⟩ := h.gs
  refine ⟨⟨fun i hi => ?_, fun i hi => (row_sep (h.rows i hi)).2.1, fun i hi => (row_sep (h.rows i hi)).2.2.1, fun i j hi hj hij => ?_, fun i hi e => (h.out i hi g1 (lohi.1 e)).1 rfl⟩, fun i hi => ⟨V i, own_cell h.o2 (by simp [hi])⟩, fun z => own_thaw h.o2 z, fun i hi => ?_, fun b o hb => ?_, fun i hi => ?_, fun b o hb => ?_, ⟨gs1, gs2, gs3, gs4, gs5, gs6⟩, fun i hi => ⟨fun e => (h.out i hi g2 (lohi.1 e)).2.1 rfl, fun e => (h.out i hi g3 (lohi.1 e)).2.2.1 rfl, fun e => (h.out i hi g4 (lohi.1 e)).2.2.2 rfl⟩, ⟨l2.1, gs0, l4.1, fun i hi k k1 k2 => ((row_sep (h.rows i hi)).2.2.2 k (lohi.1 ⟨k1, k2⟩)).1⟩, ⟨l1.2, l2.2, l3, l4.2, fun i hi => ?_⟩⟩
  · rw [← (row_sep (h.rows i hi)).1]
    exact own_cell h.o1 (by simp [hi])
  · show hiU (U i) ≤ loU (U j) ∨ hiU (U j) ≤ loU (U i)
    have hd := h.rdj i j hi hj hij
    unfold loU hiU
    cases e1 : (U i).ownBlock with
    | none => exact Or.inl (Nat.zero_le _)
    | some a =>
      cases e2 : (U j).ownBlock with
      | none => exact Or.inr (Nat.zero_le _)
      | some b =>
        rw [e1, e2] at hd
        have : a ≠ b := fun e => by
          rcases hd with q | q
          · cases q
          · exact q (by rw [e])
        simp
        omega
  · have hin : i < n := by rw [← h.len]; exact hi
    refine ⟨g3, 0, rfl, ⟨Nat.le_refl _, Nat.lt_succ_self _⟩, ?_⟩
    rw [Nat.zero_add, h.o3.cell hin]
    simp [hi]
  · have : b = g3 := by omega
    subst this
    exact h.o3.frozen o
  · have hil : i < Od.length := by rw [natI_len] at hi; exact hi
    refine ⟨g4, 0, rfl, ⟨Nat.le_refl _, Nat.lt_succ_self _⟩, ?_⟩
    rw [Nat.zero_add]
    exact own_cell h.o4 (by simp [natV, natI, hil])
  · have : b = g4 := by omega
    subst this
    exact own_thaw h.o4 o
  · show hiU (U i) ≤ _
    cases e : (U i).ownBlock with
    | none => unfold hiU; rw [e]; exact Nat.zero_le _
    | some k =>
      have := ((row_sep (h.rows i hi)).2.2.2 k e).2
      unfold hiU
      rw [e]
      exact this
theorem FlowSep.keepS {w w' : World} {Bs n q g1 g2 g3 g4 : Nat} {a : Nat → Option Addr} {cp lo hi : Nat → Nat} {Pr : Nat → List Int} {P Od : List Int} (h : FlowSep w Bs n q g1 g2 g3 g4 a cp lo hi Pr P Od) (h1 : Bs ≤ g1) (k : Same Bs w.heap.size w w') (hz : w.heap.size ≤ w'.heap.size) : FlowSep w' Bs n q g1 g2 g3 g4 a cp lo hi Pr P Od := by
  obtain ⟨ge2, ge3, ge4, ge5⟩ := h.ge
  obtain ⟨lt1, lt2, lt3, lt4, lt5⟩ := h.lt
  have k1 := k g1 h1 lt1
  have k2 := k g2 ge2 lt2
  have sl : ∀ i, i < n → Same (lo i) (hi i) w w' := fun i hi' z z1 z2 => k z (ge5 i hi' z z1 z2) (by have := lt5 i hi'; omega)
  have s3 : Same g3 (g3 + 1) w w' := fun z z1 z2 => k z (by omega) (by omega)
  have s4 : Same g4 (g4 + 1) w w' := fun z z1 z2 => k z (by omega) (by omega)
  exact ⟨⟨fun i hi' => (cell_of k1).trans (h.sets.cell i hi'), fun i hi' => (h.sets.ints i hi').keepS (sl i hi'), fun i hi' => (h.sets.thaw i hi').keepS (sl i hi'), h.sets.dj, h.sets.out⟩, fun i hi' => by obtain ⟨v, hv⟩ := h.rc i hi'; exact ⟨v, (cell_of k2).trans hv⟩, fun z => (World.frozen?_of_block k2).trans (h.rt z), h.i.keepS s3, h.it.keepS s3, h.o.keepS s4, h.ot.keepS s4, h.ne, h.out, h.ge, ⟨by omega, by omega, by omega, by omega, fun i hi' => Nat.le_trans (lt5 i hi') hz⟩⟩
theorem markA_own {w : World} {B n : Nat} {U : Nat → Value} {Pr : Nat → List Int} {V : Nat → Bool} {P : List Int} {Od : List Nat} {g1 c1 g2 c2 g3 g4 c4 : Nat} (h : FlowOwn w B n U Pr V P Od g1 c1 g2 c2 g3 g4 c4) (hn : n ≤ 1000) (hq : Od.length ≤ 1000) (hl : ∀ i, i < n → (Pr i).length ≤ 1000) : MarkA w B (.agg #[.slice (some ⟨g1, 0, none⟩) n c1, .slice (some ⟨g2, 0, none⟩) n c2, .slice (some ⟨g3, 0, none⟩) n n, .slice (some ⟨g4, 0, none⟩) Od.length c4]) := fun W hW hz => by
  have hs := h.sep.keepS (h.o1.lt g1 rfl).1 hW hz
  have lt0 := h.sep.lt
  refine (markFlow_sep B w.heap.size n Od.length g1 g2 g3 g4 c1 c2 n c4 1 _ _ _ _ Pr P (natI Od) W (hide hs) hn hq (hide h.len.symm) (hide (natI_len Od).symm) (hide hl) (by decide) (by decide) (hide ⟨lt0.2.1, lt0.2.2.1, lt0.2.2.2.1, lt0.2.2.2.2⟩)).mono ?_
  rintro e w' ⟨rfl, hb, hz', hm⟩
  have hp := pc_le hl n (Nat.le_refl _)
  refine ⟨1 + pc Pr n + n + n + Od.length, by simp, by omega, hb, hz', ?_⟩
  have hlt := hs.lt
  refine (heldFlow_any n Od.length g1 g2 g3 g4 c1 c2 n c4 1 _ _ _ _ Pr w' (hide hm) (hide ⟨by omega, by omega, by omega, by omega, fun i hi => Nat.le_trans (hlt.2.2.2.2 i hi) hz'⟩) hn hq (hide hl) (by decide) (by decide)).mono ?_
  rintro e w'' ⟨rfl, hb'⟩
  exact ⟨by simp, hb'⟩
set_option maxHeartbeats 1000000 in
theorem markSets_nil (k : Int) (w : World) : Calls Tryd.prog 92 #[.slice none 0 0, .int .i64 k] w fun e w' => e = .returned (.int .i64 k) ∧ w' = w := by
  go_enter Tryd.func92, Tryd.ntmps92
  go_wp2_with fail
  go_loopw [1, 5] (fun u i wr => u = .int .i64 k ∧ i = .int .i64 0 ∧ Hid (wr = w)) (fun _ _ _ => 0)
  case atStart => exact ⟨rfl, rfl, hide rfl⟩
  case round =>
    obtain ⟨rfl, rfl, HW⟩ := hrel
    have hw := HW.out
    subst hw
    go_wp2_with fail
    go_ret
    exact ⟨rfl, rfl⟩
set_option maxHeartbeats 1000000 in
theorem heldSets_nil (k : Int) (w : World) : Calls Tryd.prog 95 #[.slice none 0 0, .int .i64 k] w fun e w' => e = .returned (.int .i64 k) ∧ w' = w := by
  go_enter Tryd.func95, Tryd.ntmps95
  go_wp2_with fail
  go_loopw [1, 5] (fun u i wr => u = .int .i64 k ∧ i = .int .i64 0 ∧ Hid (wr = w)) (fun _ _ _ => 0)
  case atStart => exact ⟨rfl, rfl, hide rfl⟩
  case round =>
    obtain ⟨rfl, rfl, HW⟩ := hrel
    have hw := HW.out
    subst hw
    go_wp2_with fail
    go_ret
    exact ⟨rfl, rfl⟩
set_option maxHeartbeats 1000000 in
theorem markBools_nil (k : Int) (w : World) : Calls Tryd.prog 93 #[.slice none 0 0, .int .i64 k] w fun e w' => e = .returned (.int .i64 k) ∧ w' = w := by
  go_enter Tryd.func93, Tryd.ntmps93
  go_wp2_with fail
  go_loopw [1, 5] (fun u i wr => u = .int .i64 k ∧ i = .int .i64 0 ∧ Hid (wr = w)) (fun _ _ _ => 0)
  case atStart => exact ⟨rfl, rfl, hide rfl⟩
  case round =>
    obtain ⟨rfl, rfl, HW⟩ := hrel
    have hw := HW.out
    subst hw
    go_wp2_with fail
    go_ret
    exact ⟨rfl, rfl⟩
set_option maxHeartbeats 1000000 in
theorem heldBools_nil (k : Int) (w : World) : Calls Tryd.prog 96 #[.slice none 0 0, .int .i64 k] w fun e w' => e = .returned (.int .i64 k) ∧ w' = w := by
  go_enter Tryd.func96, Tryd.ntmps96
  go_wp2_with fail
  go_loopw [1, 5] (fun u i wr => u = .int .i64 k ∧ i = .int .i64 0 ∧ Hid (wr = w)) (fun _ _ _ => 0)
  case atStart => exact ⟨rfl, rfl, hide rfl⟩
  case round =>
    obtain ⟨rfl, rfl, HW⟩ := hrel
    have hw := HW.out
    subst hw
    go_wp2_with fail
    go_ret
    exact ⟨rfl, rfl⟩
theorem markInts_nil (k : Int) (w : World) (h0 : 0 ≤ k) (h1 : k ≤ 1000) : Calls Tryd.prog 94 #[.slice none 0 0, .int .i64 k] w fun e w' => e = .returned (.int .i64 k) ∧ Below w.heap.size w w' := by
  refine (markInts_any none 0 0 k [] 0 0 w (hide (fun i hi => absurd hi (Nat.not_lt_zero _))) (hide rfl) (hide (fun b o hb => absurd hb.2 (Nat.not_lt_zero _))) (by omega) h0 (by omega)).mono ?_
  rintro e w' ⟨rfl, hw, _⟩
  exact ⟨by simp, ⟨hw.os, hw.tape, hw.output, by rw [hw.size]; exact Nat.le_refl _, fun z _ => hw.block z (by omega)⟩⟩
theorem heldInts_nil (k : Int) (w : World) (h0 : 0 ≤ k) (h1 : k ≤ 1000) : Calls Tryd.prog 97 #[.slice none 0 0, .int .i64 k] w fun e w' => e = .returned (.int .i64 k) ∧ w' = w := by
  refine (heldInts_any none 0 0 k 0 0 w (hide (fun i hi => absurd hi (Nat.not_lt_zero _))) (by omega) h0 (by omega)).mono ?_
  rintro e w' ⟨rfl, hw⟩
  exact ⟨by simp, hw⟩
set_option maxHeartbeats 1000000 in
theorem markFlow_nil (w : World) : Calls Tryd.prog 35 #[.agg #[.slice none 0 0, .slice none 0 0, .slice none 0 0, .slice none 0 0], .int .i64 1] w fun e w' => e = .returned (.int .i64 1) ∧ Below w.heap.size w w' := by
  have bl := fun x => balloc (Below.refl w.heap.size w) x
  go_enter Tryd.func35, Tryd.ntmps35
  go_wp2_with fail
  refine (markSets_nil 1 _).mono ?_
  rintro e w1 ⟨rfl, hw1⟩
  rw [hw1]
  clear hw1
  go_wp2_with fail
  refine (markBools_nil 1 _).mono ?_
  rintro e w1 ⟨rfl, hw1⟩
  rw [hw1]
  clear hw1
  go_wp2_with fail
  refine (markInts_nil 1 _ (by decide) (by decide)).mono ?_
  rintro e w2 ⟨rfl, hb2⟩
  obtain ⟨k2, f2⟩ := bcell hb2
  have hz2 := hb2.size
  simp at hz2
  have HB2 := hide (bnext (bl _) hb2)
  clear hb2
  go_wp2_with fail
  refine (markInts_nil 1 _ (by decide) (by decide)).mono ?_
  rintro e w3 ⟨rfl, hb3⟩
  have HB3 := hide (bnext HB2.out hb3)
  clear hb3
  go_wp2_with fail
  go_ret
  exact ⟨rfl, HB3.out⟩
set_option maxHeartbeats 1000000 in
theorem heldFlow_nil (w : World) : Calls Tryd.prog 36 #[.agg #[.slice none 0 0, .slice none 0 0, .slice none 0 0, .slice none 0 0], .int .i64 1] w fun e w' => e = .returned (.int .i64 1) ∧ Below w.heap.size w w' := by
  have bl := fun x => balloc (Below.refl w.heap.size w) x
  go_enter Tryd.func36, Tryd.ntmps36
  go_wp2_with fail
  refine (heldSets_nil 1 _).mono ?_
  rintro e w1 ⟨rfl, hw1⟩
  rw [hw1]
  clear hw1
  go_wp2_with fail
  refine (heldBools_nil 1 _).mono ?_
  rintro e w1 ⟨rfl, hw1⟩
  rw [hw1]
  clear hw1
  go_wp2_with fail
  refine (heldInts_nil 1 _ (by decide) (by decide)).mono ?_
  rintro e w2 ⟨rfl, hw2⟩
  rw [hw2]
  clear hw2
  go_wp2_with fail
  refine (heldInts_nil 1 _ (by decide) (by decide)).mono ?_
  rintro e w3 ⟨rfl, hw3⟩
  rw [hw3]
  clear hw3
  go_wp2_with fail
  go_ret
  exact ⟨rfl, bl _⟩
theorem markA_nil (w : World) (B : Nat) : MarkA w B (.agg #[.slice none 0 0, .slice none 0 0, .slice none 0 0, .slice none 0 0]) := fun W _ _ => by
  refine (markFlow_nil W).mono ?_
  rintro e w' ⟨rfl, hb⟩
  refine ⟨1, rfl, by omega, Mod.of_below hb, hb.size, ?_⟩
  exact heldFlow_nil w'
set_option maxHeartbeats 1000000 in
set_option maxRecDepth 100000 in
theorem analyzeS_bad (v : Int) (a : Option Addr) (n c : Nat) (xs : List Blk) (L B : Nat) (w : World) (ha : Hid (BlksAt w L B a xs)) (hx : Hid (n = xs.length)) (hs : Hid (xs.length + blksTot xs ≤ 1048576)) (hB : B ≤ w.heap.size) (hv : Hid (validI ⟨v, xs⟩ = false)) :
    Calls Tryd.prog 18 #[.agg #[.int .i64 v, .slice a n c]] w fun e w' => e = .returned (.agg #[.slice none 0 0, .slice none 0 0, .slice none 0 0, .slice none 0 0]) ∧ Below w.heap.size w w' := by
  have HVF := hide (fun W (hb : Below w.heap.size w W) => validFuncS_any v a n c xs L B W (hide (ha.out.keep (hb.mono hB))) hx hs (by have := hb.size; omega))
  rw [← valid_same, hv.out] at HVF
  go_enter Tryd.func18, Tryd.ntmps18
  go_wp2_with fail
  refine (HVF.out _ (balloc (balloc (Below.refl _ _) _) _)).mono ?_
  rintro e w1 ⟨rfl, hb1⟩
  have HB1 := hide (bnext (balloc (balloc (Below.refl w.heap.size w) _) _) hb1)
  have hR1 : w1.rowIs (w.heap.size + 1) 50 4 (fun _ => .slice none 0 0) := by
    have h := World.rowIs_alloc (w.alloc (.cells #[.int .i64 v, .slice a n c] 25)) #[.slice none 0 0, .slice none 0 0, .slice none 0 0, .slice none 0 0] 50 (fun _ => .slice none 0 0) (fun i hi => by
      match i, hi with
      | 0, _ => rfl
      | 1, _ => rfl
      | 2, _ => rfl
      | 3, _ => rfl)
    rw [World.size_alloc] at h
    exact h.of_block (hb1.block _ (by simp))
  have y0 := hR1.cell (i := 0) (by decide)
  have y1 := hR1.cell (i := 1) (by decide)
  have y2 := hR1.cell (i := 2) (by decide)
  have y3 := hR1.cell (i := 3) (by decide)
  have yf := hR1.frozen
  have HR1 := hide hR1
  clear hb1 hR1 HVF
  go_wp2_with fail
  have h4 := (((HR1.out.set 0 (.slice none 0 0)).set 1 (.slice none 0 0)).set 2 (.slice none 0 0)).set 3 (.slice none 0 0)
  have z0 := h4.cell (i := 0) (by decide)
  have z1 := h4.cell (i := 1) (by decide)
  have z2 := h4.cell (i := 2) (by decide)
  have z3 := h4.cell (i := 3) (by decide)
  have hB4 : Below w.heap.size w ((((w1.setCell ⟨w.heap.size + 1, 0, none⟩ (.slice none 0 0)).setCell ⟨w.heap.size + 1, 1, none⟩ (.slice none 0 0)).setCell ⟨w.heap.size + 1, 2, none⟩ (.slice none 0 0)).setCell ⟨w.heap.size + 1, 3, none⟩ (.slice none 0 0)) := (((HB1.out.setCell (p := ⟨w.heap.size + 1, 0, none⟩) (by dsimp only; omega) _).setCell (p := ⟨w.heap.size + 1, 1, none⟩) (by dsimp only; omega) _).setCell (p := ⟨w.heap.size + 1, 2, none⟩) (by dsimp only; omega) _).setCell (p := ⟨w.heap.size + 1, 3, none⟩) (by dsimp only; omega) _
  generalize (((w1.setCell ⟨w.heap.size + 1, 0, none⟩ (.slice none 0 0)).setCell ⟨w.heap.size + 1, 1, none⟩ (.slice none 0 0)).setCell ⟨w.heap.size + 1, 2, none⟩ (.slice none 0 0)).setCell ⟨w.heap.size + 1, 3, none⟩ (.slice none 0 0) = wE at *
  simp only [reduceIte, Nat.reduceEqDiff] at z0 z1 z2 z3
  refine bodyPost_ret (v := .agg #[.slice none 0 0, .slice none 0 0, .slice none 0 0, .slice none 0 0]) (by simp [results, Tryd.results18, go_sem, z0, z1, z2, z3]) rfl ⟨rfl, hB4⟩
theorem analyzeS_ans (v : Int) (a : Option Addr) (n c : Nat) (xs : List Blk) (L B : Nat) (w : World) (ha : BlksAt w L B a xs) (hx : n = xs.length) (hs : xs.length + blksTot xs ≤ 1048576) (hB : B ≤ w.heap.size) :
    Calls Tryd.prog 18 #[.agg #[.int .i64 v, .slice a n c]] w fun e w' => ∃ G, e = .returned G ∧ Below w.heap.size w w' ∧ FlowA w' w.heap.size w'.heap.size v xs G := by
  cases hv : validI ⟨v, xs⟩ with
  | false =>
    refine (analyzeS_bad v a n c xs L B w (hide ha) (hide hx) (hide hs) hB (hide hv)).mono ?_
    rintro e w' ⟨rfl, hb⟩
    exact ⟨_, rfl, hb, flowA_nil hv _ _ _⟩
  | true =>
    refine (analyzeS_any v a n c xs L B w (hide ha) (hide hx) (hide hs) hB (hide hv)).mono ?_
    rintro e w' ⟨P, a1, c1, a2, c2, a3, c3, a4, c4, rfl, hb, hid, hf⟩
    exact ⟨_, rfl, hb, flowA_ok hv hx hid hf⟩
theorem analyzeI_ans (v : Int) (a : Option Addr) (n c : Nat) (xs : List Blk) (L B : Nat) (w : World) (ha : BlksAt w L B a xs) (hx : n = xs.length) (hs : xs.length + blksTot xs ≤ 1048576) (hB : B ≤ w.heap.size) (hO : OpTab w) (hT : TerTab w) :
    Calls Tryd.prog 20 #[.agg #[.int .i64 v, .slice a n c]] w fun e w' => ∃ G, e = .returned G ∧ Below w.heap.size w w' ∧ FlowA w' w.heap.size w'.heap.size v xs G ∧ MarkA w' w.heap.size G := by
  cases hv : validI ⟨v, xs⟩ with
  | false =>
    refine (analyzeI_bad v a n c xs L B w (hide ha) (hide hx) (hide hs) hB (hide hO) (hide hT) (hide hv)).mono ?_
    rintro e w' ⟨rfl, hb⟩
    exact ⟨_, rfl, hb, flowA_nil hv _ _ _, markA_nil _ _⟩
  | true =>
    refine (analyzeI_any v a n c xs L B w (hide ha) (hide hx) (hide hs) hB (hide hO) (hide hT) (hide hv)).mono ?_
    rintro e w' ⟨U, P, g1, c1, g2, c2, g3, g4, c4, rfl, hb, hid, hf⟩
    have ok := ok_of_valid hv
    have h2 := ok.n2
    have hp := pre_len hid (by rw [hx]; exact ok.re) n 0 Re.root
    exact ⟨_, rfl, hb, flowA_ok hv hx hid (hf.at hx), markA_own hf (by omega) (by omega) (fun i _ => Nat.le_trans (predsFrom_len _ _ _) h2)⟩
end Go.Proofs.YtlmaodcddbkllaaDoor
