import Derived.Test.YtlmaodcddbkllaaDoorPure2
import Derived.Test.YtlmaodcddbkllaaDoorW6b
import Derived.Test.YtlmaodcddbkllaaDoorW5
import Derived.Deep.Slices
namespace Go.Proofs.YtlmaodcddbkllaaDoor
open Go.RowKit

set_option maxHeartbeats 400000 in
theorem validImm_any (op dst a b imm : Int) (w : World) :
    Calls Tryd.prog 185 #[.agg #[.int .i64 op, .int .i64 dst, .int .i64 a, .int .i64 b, .int .i64 imm]] w fun e w' => e = .returned (.bool (immOk ⟨op, dst, a, b, imm⟩)) ∧ Below w.heap.size w w' := by
  go_enter Tryd.func185, Tryd.ntmps185
  go_wp2
  all_goals
    go_ret
    refine ⟨ret_bool ?_, balloc (Below.refl _ _) _⟩
    first | (simp [immOk, *]; done) | (simp [immOk, *]; omega)

/-- What the table of the instructions' forms (variable 0) holds. -/
def OpTab (w : World) : Prop := 0 < w.heap.size ∧ ∀ k : Nat, 1 ≤ k → k ≤ 13 → ∃ s, w.cell? ⟨0, k * 5, none⟩ = some (.string s) ∧ w.cell? ⟨0, k * 5 + 1, none⟩ = some (.bool (dB k)) ∧ w.cell? ⟨0, k * 5 + 2, none⟩ = some (.bool (aB k)) ∧
  w.cell? ⟨0, k * 5 + 3, none⟩ = some (.bool (bB k)) ∧ ∃ i, w.cell? ⟨0, k * 5 + 4, none⟩ = some (.bool i)
/-- What the table of the ends' forms (variable 1) holds. -/
def TerTab (w : World) : Prop := 1 < w.heap.size ∧ ∀ k : Nat, 1 ≤ k → k ≤ 3 → ∃ s, w.cell? ⟨1, k * 4, none⟩ = some (.string s) ∧ w.cell? ⟨1, k * 4 + 1, none⟩ = some (.bool ((k : Int) != 1)) ∧ w.cell? ⟨1, k * 4 + 2, none⟩ = some (.bool ((k : Int) != 3)) ∧
  w.cell? ⟨1, k * 4 + 3, none⟩ = some (.bool ((k : Int) == 2))
theorem OpTab.keep {w w' : World} (h : OpTab w) (k : Below w.heap.size w w') : OpTab w' := by
  refine ⟨Nat.lt_of_lt_of_le h.1 k.size, fun i h1 h2 => ?_⟩
  have e := fun o => cell_of (o := o) (k.block 0 h.1)
  obtain ⟨s, c0, c1, c2, c3, j, c4⟩ := h.2 i h1 h2
  exact ⟨s, (e _).trans c0, (e _).trans c1, (e _).trans c2, (e _).trans c3, j, (e _).trans c4⟩
theorem TerTab.keep {w w' : World} (h : TerTab w) (k : Below w.heap.size w w') : TerTab w' := by
  refine ⟨Nat.lt_of_lt_of_le h.1 k.size, fun i h1 h2 => ?_⟩
  have e := fun o => cell_of (o := o) (k.block 1 h.1)
  obtain ⟨s, c0, c1, c2, c3⟩ := h.2 i h1 h2
  exact ⟨s, (e _).trans c0, (e _).trans c1, (e _).trans c2, (e _).trans c3⟩

set_option maxHeartbeats 1000000 in
theorem validInstr_gen (op dst a b imm n most : Int) (w : World) (hm : most ≤ 13) (hT : Hid (OpTab w)) :
    Calls Tryd.prog 139 #[.agg #[.int .i64 op, .int .i64 dst, .int .i64 a, .int .i64 b, .int .i64 imm], .int .i64 most, .int .i64 n] w fun e w' => e = .returned (.bool (insOk n most ⟨op, dst, a, b, imm⟩)) ∧ Below w.heap.size w w' := by
  by_cases h : 1 ≤ op ∧ op ≤ most
  · obtain ⟨h1, h2⟩ := h
    obtain ⟨k, rfl⟩ := Int.eq_ofNat_of_zero_le (show 0 ≤ op by omega)
    have hz := hT.out.1
    obtain ⟨s, c0, c1, c2, c3, j, c4⟩ := hT.out.2 k (by omega) (by omega)
    have hR : Hid (insOk n most ⟨k, dst, a, b, imm⟩ = (fld (dB k) dst 0 n && fld (aB k) a 0 n && fld (bB k) b 0 n && immOk ⟨k, dst, a, b, imm⟩)) := by
      show _ = _
      unfold insOk
      rw [decide_eq_true h1, decide_eq_true h2]
      simp
    generalize dB (k : Int) = uD at *
    generalize aB (k : Int) = uA at *
    generalize bB (k : Int) = uB at *
    have hk13 : (k : Int) ≤ 13 := by omega
    go_enter Tryd.func139, Tryd.ntmps139
    go_wp2_with (first | (go_at_call 127; refine (validField_any _ _ _ _ _).mono ?_; rintro e w2 ⟨rfl, hw2⟩; rw [hw2]; clear hw2 w2) | (go_at_call 185; refine (validImm_any _ _ _ _ _ _).mono ?_; rintro e w2 ⟨rfl, hb2⟩))
    all_goals
      go_ret
      refine ⟨ret_bool ?_, ?_⟩
      · rw [hR.out]; simp [*]
      · first | exact bnext (balloc (balloc (Below.refl _ _) _) _) hb2 | exact balloc (balloc (Below.refl _ _) _) _
  · have hn : ∃ r, r = insOk n most ⟨op, dst, a, b, imm⟩ ∧ r = false := ⟨_, rfl, by
      unfold insOk
      by_cases h1 : 1 ≤ op
      · rw [decide_eq_false (p := op ≤ most) (by omega)]; simp
      · rw [decide_eq_false (p := 1 ≤ op) h1]; simp⟩
    obtain ⟨r, hr, rfl⟩ := hn
    rw [← hr]
    clear hr
    have h' : op < 1 ∨ (1 ≤ op ∧ most < op) := by omega
    clear h
    rcases h' with h' | ⟨h', h''⟩
    all_goals
      go_enter Tryd.func139, Tryd.ntmps139
      go_wp2
      all_goals
        go_ret
        exact ⟨rfl, balloc (Below.refl _ _) _⟩

theorem validInstr_any (op dst a b imm n : Int) (w : World) (hT : Hid (OpTab w)) :
    Calls Tryd.prog 139 #[.agg #[.int .i64 op, .int .i64 dst, .int .i64 a, .int .i64 b, .int .i64 imm], .int .i64 10, .int .i64 n] w fun e w' => e = .returned (.bool (insOk n 10 ⟨op, dst, a, b, imm⟩)) ∧ Below w.heap.size w w' :=
  validInstr_gen op dst a b imm n 10 w (by decide) hT

set_option maxHeartbeats 1000000 in
theorem validTerm_any (kind ta to els n low bl : Int) (w : World) (hT : Hid (TerTab w)) :
    Calls Tryd.prog 138 #[.agg #[.int .i64 kind, .int .i64 ta, .int .i64 to, .int .i64 els], .int .i64 n, .int .i64 low, .int .i64 bl] w fun e w' => e = .returned (.bool (terOk n low bl ⟨kind, ta, to, els⟩)) ∧ Below w.heap.size w w' := by
  by_cases h : 1 ≤ kind ∧ kind ≤ 3
  · obtain ⟨h1, h2⟩ := h
    obtain ⟨k, rfl⟩ := Int.eq_ofNat_of_zero_le (show 0 ≤ kind by omega)
    have hz := hT.out.1
    obtain ⟨s, c0, c1, c2, c3⟩ := hT.out.2 k (by omega) (by omega)
    have hR : Hid (terOk n low bl ⟨k, ta, to, els⟩ = (fld ((k : Int) != 1) ta 0 n && fld ((k : Int) != 3) to low bl && fld ((k : Int) == 2) els low bl)) := by
      show _ = _
      unfold terOk
      rw [decide_eq_true h1, decide_eq_true h2]
      simp
    generalize ((k : Int) != 1) = uA at *
    generalize ((k : Int) != 3) = uT at *
    generalize ((k : Int) == 2) = uE at *
    go_enter Tryd.func138, Tryd.ntmps138
    go_wp2_with (go_at_call 127; refine (validField_any _ _ _ _ _).mono ?_; rintro e w2 ⟨rfl, hw2⟩; rw [hw2]; clear hw2 w2)
    all_goals
      go_ret
      refine ⟨ret_bool ?_, ?_⟩
      · rw [hR.out]; simp [*]
      · exact balloc (balloc (Below.refl _ _) _) _
  · have hn : ∃ r, r = terOk n low bl ⟨kind, ta, to, els⟩ ∧ r = false := ⟨_, rfl, terOk_no h⟩
    obtain ⟨r, hr, rfl⟩ := hn
    rw [← hr]
    clear hr
    have h' : kind < 1 ∨ 3 < kind := by omega
    clear h
    go_enter Tryd.func138, Tryd.ntmps138
    go_wp2
    all_goals
      go_ret
      exact ⟨rfl, balloc (Below.refl _ _) _⟩

set_option maxHeartbeats 400000 in
theorem targetsI_any (t : Ter) (w : World) :
    Calls Tryd.prog 114 #[.agg #[.int .i64 t.kind, .int .i64 t.a, .int .i64 t.to, .int .i64 t.els]] w fun e w' => ∃ a c, e = .returned (.slice a t.targets.length c) ∧ Below w.heap.size w w' ∧ IntsAt w' w.heap.size w'.heap.size a t.targets := by
  obtain ⟨kind, ta, to, els⟩ := t
  by_cases h1 : kind = 1
  · subst h1
    go_enter Tryd.func114, Tryd.ntmps114
    go_wp2
    go_ret
    refine ⟨_, _, rfl, balloc (balloc (Below.refl _ _) _) _, fun i hi => ?_⟩
    simp [Ter.targets] at hi
    subst hi
    exact ⟨_, _, rfl, ⟨by simp, by simp⟩, by simp [Ter.targets]⟩
  · by_cases h2 : kind = 2
    · subst h2
      go_enter Tryd.func114, Tryd.ntmps114
      go_wp2
      go_ret
      refine ⟨_, _, rfl, balloc (balloc (Below.refl _ _) _) _, fun i hi => ?_⟩
      simp [Ter.targets] at hi
      match i, hi with
      | 0, _ => exact ⟨_, _, rfl, ⟨by simp, by simp⟩, by simp [Ter.targets]⟩
      | 1, _ => exact ⟨_, _, rfl, ⟨by simp, by simp⟩, by simp [Ter.targets]⟩
    · have e1 : (kind == 1) = false := by simp [h1]
      have e2 : (kind == 2) = false := by simp [h2]
      have hn : (Ter.targets ⟨kind, ta, to, els⟩) = [] := by simp [Ter.targets, h1, h2]
      rw [hn]
      clear h1 h2 hn
      go_enter Tryd.func114, Tryd.ntmps114
      go_wp2
      go_ret
      exact ⟨_, _, rfl, balloc (Below.refl _ _) _, fun i hi => absurd hi (by simp)⟩
end Go.Proofs.YtlmaodcddbkllaaDoor

/-
  Worlds that differ in numbers alone (what the marking of a copy does). Imports nothing of the program.
-/
namespace Go.Proofs.YtlmaodcddbkllaaDoor
open Go.RowKit Go.Deep

/-- In the blocks from L to below B some numbers have turned into other numbers; nothing else has. -/
structure IW (L B : Nat) (w w' : World) : Prop where
  os : w'.os = w.os
  tape : w'.tape = w.tape
  output : w'.output = w.output
  size : w'.heap.size = w.heap.size
  block : ∀ k, ¬ (L ≤ k ∧ k < B) → w'.heap[k]? = w.heap[k]?
  cell : ∀ p, w'.cell? p = w.cell? p ∨ ∃ u v, w.cell? p = some (.int .i64 u) ∧ w'.cell? p = some (.int .i64 v)
  frozen : ∀ p, w'.frozen? p = w.frozen? p

variable {w w' w1 : World} {L B : Nat}

theorem IW.refl (L B : Nat) (w : World) : IW L B w w := ⟨rfl, rfl, rfl, rfl, fun _ _ => rfl, fun _ => Or.inl rfl, fun _ => rfl⟩
theorem IW.trans {w2 : World} (h : IW L B w w1) (k : IW L B w1 w2) : IW L B w w2 := by
  refine ⟨k.os.trans h.os, k.tape.trans h.tape, k.output.trans h.output, k.size.trans h.size, fun i hi => (k.block i hi).trans (h.block i hi), fun p => ?_, fun p => (k.frozen p).trans (h.frozen p)⟩
  rcases k.cell p with e | ⟨u, v, e1, e2⟩
  · rcases h.cell p with f | ⟨u, v, f1, f2⟩
    · exact Or.inl (e.trans f)
    · exact Or.inr ⟨u, v, f1, e.trans f2⟩
  · rcases h.cell p with f | ⟨u', v', f1, f2⟩
    · exact Or.inr ⟨u, v, f.symm.trans e1, e2⟩
    · exact Or.inr ⟨u', v, f1, e2⟩
theorem IW.set (h : IW L B w w1) {b o : Nat} (hp : L ≤ b ∧ b < B) {u : Int} (hc : w1.cell? ⟨b, o, none⟩ = some (.int .i64 u)) (v : Int) : IW L B w (w1.setCell ⟨b, o, none⟩ (.int .i64 v)) := by
  refine h.trans ⟨rfl, rfl, rfl, by simp [World.setCell], fun k hk => Below.heap_setCell _ _ _ _ (by dsimp only; omega), fun p => ?_, fun p => World.frozen?_setCell _ _ _ _⟩
  by_cases e : p = ⟨b, o, none⟩
  · subst e
    exact Or.inr ⟨u, v, hc, World.cell?_setCell_same _ _ _ hc⟩
  · exact Or.inl (World.cell?_setCell_other _ _ _ _ (fun h => e h.symm))
theorem IW.int (h : IW L B w w') {p : Addr} {u : Int} (hc : w.cell? p = some (.int .i64 u)) : ∃ v, w'.cell? p = some (.int .i64 v) := by
  rcases h.cell p with e | ⟨_, v, _, e⟩
  · exact ⟨u, e.trans hc⟩
  · exact ⟨v, e⟩
theorem IW.slice (h : IW L B w w') {p : Addr} {a : Option Addr} {n c : Nat} (hc : w.cell? p = some (.slice a n c)) : w'.cell? p = some (.slice a n c) := by
  rcases h.cell p with e | ⟨u, _, e, _⟩
  · exact e.trans hc
  · rw [hc] at e; cases e
/-- In the blocks from L to below B nothing is frozen. -/
def ThawB (L B : Nat) (w : World) : Prop := ∀ b o, L ≤ b ∧ b < B → w.frozen? ⟨b, o, none⟩ = false
theorem ThawB.of {L B : Nat} {w : World} (h : Thaw L w) : ThawB L B w := fun b o hb => h b o hb.1
theorem ThawB.keepS {L B : Nat} {w w' : World} (h : ThawB L B w) (k : Same L B w w') : ThawB L B w' := fun b o hb => (World.frozen?_of_block (k b hb.1 hb.2)).trans (h b o hb)
theorem ThawB.setCell {L B : Nat} {w : World} (h : ThawB L B w) (p : Addr) (v : Value) : ThawB L B (w.setCell p v) := fun b o hb => by rw [World.frozen?_setCell]; exact h b o hb
theorem IW.thawB (h : IW L B w w') {M N : Nat} (t : ThawB M N w) : ThawB M N w' := fun b o hb => (h.frozen _).trans (t b o hb)
theorem IW.thaw (h : IW L B w w') {M : Nat} (t : Thaw M w) : Thaw M w' := fun b o hb => (h.frozen _).trans (t b o hb)

variable {L' B' : Nat} {a : Option Addr}
theorem IntsAt.iw {xs : List Int} (h : IntsAt w L B a xs) (k : IW L' B' w w') : ∃ ys : List Int, ys.length = xs.length ∧ IntsAt w' L B a ys := by
  obtain ⟨f, hf⟩ := choose_lt (α := Int) (n := xs.length) (p := fun i y => ∃ b o, a = some ⟨b, o, none⟩ ∧ (L ≤ b ∧ b < B) ∧ w'.cell? ⟨b, o + i, none⟩ = some (.int .i64 y)) (fun i hi => by
    obtain ⟨b, o, e, hb, hc⟩ := h i hi
    obtain ⟨v, hv⟩ := k.int hc
    exact ⟨v, b, o, e, hb, hv⟩)
  refine ⟨(List.range xs.length).map f, by simp, fun i hi => ?_⟩
  simp only [List.length_map, List.length_range] at hi
  obtain ⟨b, o, e, hb, hc⟩ := hf i hi
  exact ⟨b, o, e, hb, by simpa using hc⟩
theorem InsAt.iw {b o : Nat} {x : Ins} (h : InsAt w b o x) (k : IW L' B' w w') : ∃ y : Ins, InsAt w' b o y := by
  obtain ⟨h0, h1, h2, h3, h4⟩ := h
  obtain ⟨v0, e0⟩ := k.int h0
  obtain ⟨v1, e1⟩ := k.int h1
  obtain ⟨v2, e2⟩ := k.int h2
  obtain ⟨v3, e3⟩ := k.int h3
  obtain ⟨v4, e4⟩ := k.int h4
  exact ⟨⟨v0, v1, v2, v3, v4⟩, e0, e1, e2, e3, e4⟩
theorem TerAt.iw {b o : Nat} {x : Ter} (h : TerAt w b o x) (k : IW L' B' w w') : ∃ y : Ter, TerAt w' b o y := by
  obtain ⟨h0, h1, h2, h3⟩ := h
  obtain ⟨v0, e0⟩ := k.int h0
  obtain ⟨v1, e1⟩ := k.int h1
  obtain ⟨v2, e2⟩ := k.int h2
  obtain ⟨v3, e3⟩ := k.int h3
  exact ⟨⟨v0, v1, v2, v3⟩, e0, e1, e2, e3⟩
theorem InssAt.iw {xs : List Ins} (h : InssAt w L B a xs) (k : IW L' B' w w') : ∃ ys : List Ins, ys.length = xs.length ∧ InssAt w' L B a ys := by
  haveI : Inhabited Ins := ⟨⟨0, 0, 0, 0, 0⟩⟩
  obtain ⟨f, hf⟩ := choose_lt (α := Ins) (n := xs.length) (p := fun i y => ∃ b o, a = some ⟨b, o, none⟩ ∧ (L ≤ b ∧ b < B) ∧ InsAt w' b (o + i * 5) y) (fun i hi => by
    obtain ⟨b, o, e, hb, hc⟩ := h i hi
    obtain ⟨v, hv⟩ := hc.iw k
    exact ⟨v, b, o, e, hb, hv⟩)
  refine ⟨(List.range xs.length).map f, by simp, fun i hi => ?_⟩
  simp only [List.length_map, List.length_range] at hi
  obtain ⟨b, o, e, hb, hc⟩ := hf i hi
  exact ⟨b, o, e, hb, by simpa using hc⟩
theorem PhAt.iw {b o : Nat} {x : Ph} (h : PhAt w L B b o x) (k : IW L' B' w w') : ∃ y : Ph, y.args.length = x.args.length ∧ PhAt w' L B b o y := by
  obtain ⟨a, c, h0, h1, h2⟩ := h
  obtain ⟨v0, e0⟩ := k.int h0
  obtain ⟨ys, hl, h3⟩ := h2.iw k
  exact ⟨⟨v0, ys⟩, hl, a, c, e0, by rw [hl]; exact k.slice h1, h3⟩
theorem PhsAt.iw {xs : List Ph} (h : PhsAt w L B a xs) (k : IW L' B' w w') : ∃ ys : List Ph, ys.map (fun p => p.args.length) = xs.map (fun p => p.args.length) ∧ PhsAt w' L B a ys := by
  haveI : Inhabited Ph := ⟨⟨0, []⟩⟩
  obtain ⟨f, hf⟩ := choose_lt (α := Ph) (n := xs.length) (p := fun i y => (∀ hi : i < xs.length, y.args.length = xs[i].args.length) ∧ ∃ b o, a = some ⟨b, o, none⟩ ∧ (L ≤ b ∧ b < B) ∧ PhAt w' L B b (o + i * 2) y) (fun i hi => by
    obtain ⟨b, o, e, hb, hc⟩ := h i hi
    obtain ⟨v, hl, hv⟩ := hc.iw k
    exact ⟨v, fun _ => hl, b, o, e, hb, hv⟩)
  refine ⟨(List.range xs.length).map f, ?_, fun i hi => ?_⟩
  · refine List.ext_getElem (by simp) (fun i h1 h2 => ?_)
    simp only [List.length_map, List.length_range] at h1
    simp only [List.getElem_map, List.getElem_range]
    exact (hf i h1).1 h1
  · simp only [List.length_map, List.length_range] at hi
    obtain ⟨_, b, o, e, hb, hc⟩ := hf i hi
    exact ⟨b, o, e, hb, by simpa using hc⟩
/-- The lengths of a block's lists. -/
def Blk.sh (x : Blk) : List Nat × Nat := (x.phis.map (fun p => p.args.length), x.instrs.length)
theorem BlkAt.iw {b o : Nat} {x : Blk} (h : BlkAt w L B b o x) (k : IW L' B' w w') : ∃ y : Blk, y.sh = x.sh ∧ BlkAt w' L B b o y := by
  obtain ⟨pa, pc, ia, ic, h0, h1, h2, h3, h4⟩ := h
  obtain ⟨t, ht⟩ := h2.iw k
  obtain ⟨ps, hp1, hp2⟩ := h3.iw k
  obtain ⟨is, hi1, hi2⟩ := h4.iw k
  have hpl : ps.length = x.phis.length := by have := congrArg List.length hp1; simpa using this
  exact ⟨⟨ps, is, t⟩, by simp only [Blk.sh, hp1, hi1], pa, pc, ia, ic, by rw [hpl]; exact k.slice h0, by rw [hi1]; exact k.slice h1, ht, hp2, hi2⟩
theorem BlksAt.iw {xs : List Blk} (h : BlksAt w L B a xs) (k : IW L' B' w w') : ∃ ys : List Blk, ys.map Blk.sh = xs.map Blk.sh ∧ BlksAt w' L B a ys := by
  haveI : Inhabited Blk := ⟨⟨[], [], ⟨0, 0, 0, 0⟩⟩⟩
  obtain ⟨f, hf⟩ := choose_lt (α := Blk) (n := xs.length) (p := fun i y => (∀ hi : i < xs.length, y.sh = xs[i].sh) ∧ ∃ b o, a = some ⟨b, o, none⟩ ∧ (L ≤ b ∧ b < B) ∧ BlkAt w' L B b (o + i * 6) y) (fun i hi => by
    obtain ⟨b, o, e, hb, hc⟩ := h i hi
    obtain ⟨v, hl, hv⟩ := hc.iw k
    exact ⟨v, fun _ => hl, b, o, e, hb, hv⟩)
  refine ⟨(List.range xs.length).map f, ?_, fun i hi => ?_⟩
  · refine List.ext_getElem (by simp) (fun i h1 h2 => ?_)
    simp only [List.length_map, List.length_range] at h1
    simp only [List.getElem_map, List.getElem_range]
    exact (hf i h1).1 h1
  · simp only [List.length_map, List.length_range] at hi
    obtain ⟨_, b, o, e, hb, hc⟩ := hf i hi
    exact ⟨b, o, e, hb, by simpa using hc⟩
end Go.Proofs.YtlmaodcddbkllaaDoor

/-
  Values and bytes that lie in one row. Imports nothing of the program.
-/
namespace Go.Proofs.YtlmaodcddbkllaaDoor
open Go.RowKit

def bytesV (l : List UInt8) : List Value := l.map fun b => Value.int .u8 (b.toNat : Int)
theorem bytesV_snoc (l : List UInt8) (b : UInt8) : bytesV (l ++ [b]) = bytesV l ++ [Value.int .u8 (b.toNat : Int)] := by simp [bytesV]
theorem bytesV_app (a b : List UInt8) : bytesV (a ++ b) = bytesV a ++ bytesV b := by simp [bytesV]
/-- A slice of values that lie in one row. -/
def ValsAt (w : World) (L B : Nat) (a : Option Addr) (vs : List Value) : Prop := ∀ i (h : i < vs.length), ∃ b o, a = some ⟨b, o, none⟩ ∧ (L ≤ b ∧ b < B) ∧ w.cell? ⟨b, o + i, none⟩ = some vs[i]
theorem ValsAt.keepS {w w' : World} {L B : Nat} {a : Option Addr} {xs : List Value} (h : ValsAt w L B a xs) (k : Same L B w w') : ValsAt w' L B a xs := fun i hi => by
  obtain ⟨b, o, e, hb, hc⟩ := h i hi
  exact ⟨b, o, e, hb, by rw [cell_of (k b hb.1 hb.2)]; exact hc⟩
theorem vals_owned {w : World} {base e : Nat} {v : Value} {n : Nat} {xs : List Value} (h : w.ownsRow base e 1 v n xs) : ∃ a c, v = .slice a xs.length c ∧ ValsAt w base w.heap.size a xs := by
  obtain ⟨hl, h | ⟨g, cap, cur, rfl, hg, hh, hc, _, hs, ht⟩⟩ := h
  · obtain ⟨rfl, rfl⟩ := h
    have : xs = [] := by simpa using hl
    subst this
    exact ⟨_, _, rfl, fun i hi => absurd hi (by simp)⟩
  · simp only [Nat.mul_one] at hl hs ht
    subst hl
    refine ⟨_, _, rfl, fun i hi => ⟨g, 0, rfl, ⟨hg, ?_⟩, ?_⟩⟩
    · rcases Nat.lt_or_ge g w.heap.size with h1 | h1
      · exact h1
      · rw [Array.getElem?_eq_none h1] at hh; cases hh
    · rw [Nat.zero_add, cell_of_row w g i cur e (0, 0) hh, ← Array.getElem?_toList]
      have := congrArg (fun l : List Value => l[i]?) ht
      simp only [List.getElem?_take, hi, if_true] at this
      rw [this, List.getElem?_eq_getElem hi]
theorem ValsAt.lower {w : World} {L L' B : Nat} {a : Option Addr} {vs : List Value} (h : ValsAt w L B a vs) (hl : L' ≤ L) : ValsAt w L' B a vs := fun i hi => by
  obtain ⟨b, o, e, hb, hc⟩ := h i hi
  exact ⟨b, o, e, by omega, hc⟩
theorem vals_lit (w : World) (vs : List Value) (t : TypeId) : ValsAt (w.alloc (.cells vs.toArray t)) w.heap.size (w.heap.size + 1) (some ⟨w.heap.size, 0, none⟩) vs := fun i hi =>
  ⟨_, 0, rfl, ⟨Nat.le_refl _, Nat.lt_succ_self _⟩, by simp [hi]⟩
def BytesAt (w : World) (L B : Nat) (a : Option Addr) (bs : List UInt8) : Prop := ∀ i (h : i < bs.length), ∃ b o, a = some ⟨b, o, none⟩ ∧ (L ≤ b ∧ b < B) ∧ w.cell? ⟨b, o + i, none⟩ = some (.int .u8 (bs[i].toNat : Int))
theorem BytesAt.keepS {w w' : World} {L B : Nat} {a : Option Addr} {xs : List UInt8} (h : BytesAt w L B a xs) (k : Same L B w w') : BytesAt w' L B a xs := fun i hi => by
  obtain ⟨b, o, e, hb, hc⟩ := h i hi
  exact ⟨b, o, e, hb, by rw [cell_of (k b hb.1 hb.2)]; exact hc⟩
theorem BytesAt.keep {w w' : World} {L B : Nat} {a : Option Addr} {xs : List UInt8} (h : BytesAt w L B a xs) (k : Below B w w') : BytesAt w' L B a xs := h.keepS (Same.of_below k)
/-- A row of bytes that a call owns lies in one block, not frozen. -/
theorem bytes_owned {w : World} {base e n : Nat} {v : Value} {bs : List UInt8} (h : w.ownsRow base e 1 v n (bytesV bs)) : ∃ a c L B, v = .slice a bs.length c ∧ BytesAt w L B a bs ∧ ThawB L B w ∧ ((L = 0 ∧ B = 0) ∨ (B = L + 1 ∧ base ≤ L ∧ L < w.heap.size)) := by
  obtain ⟨hl, h0 | ⟨g, cap, cur, rfl, hg, hh, hc, _, hs, ht⟩⟩ := h
  · have : bs = [] := by
      have h2 := h0.2
      subst h2
      simpa [bytesV] using hl
    subst this
    exact ⟨none, 0, 0, 0, h0.1, fun i hi => absurd hi (by simp), fun b o hb => absurd hb (by omega), Or.inl ⟨rfl, rfl⟩⟩
  · have hgl : g < w.heap.size := (Array.getElem?_eq_some_iff.1 hh).1
    have hn : n = bs.length := by simpa [bytesV] using hl.symm
    subst hn
    refine ⟨_, _, g, g + 1, rfl, fun i hi => ⟨g, 0, rfl, ⟨Nat.le_refl _, Nat.lt_succ_self _⟩, ?_⟩, fun b o hb => ?_, Or.inr ⟨rfl, hg, hgl⟩⟩
    · rw [Nat.zero_add, cell_of_row w g i cur e (0, 0) hh, ← Array.getElem?_toList]
      have h3 := congrArg (fun l : List Value => l[i]?) ht
      simp only [List.getElem?_take, Nat.mul_one, hi, if_true] at h3
      rw [h3]
      simp [bytesV, hi]
    · have : b = g := by omega
      subst this
      unfold World.frozen?
      rw [hh]; simp
theorem own_base {w : World} {B B' e s n : Nat} {v : Value} {xs : List Value} (h : w.ownsRow B e s v n xs) (hb : B' ≤ B) : w.ownsRow B' e s v n xs := by
  obtain ⟨hl, h0 | ⟨g, cap, cur, hv, hg, r⟩⟩ := h
  · exact ⟨hl, .inl h0⟩
  · exact ⟨hl, .inr ⟨g, cap, cur, hv, Nat.le_trans hb hg, r⟩⟩
end Go.Proofs.YtlmaodcddbkllaaDoor
