import Derived.Test.YtdcdgopblbmgoaaDoorN1
import Derived.Test.YtdcdgopblbmgoaaDoorW7
import Derived.Test.YtdcdgopblbmgoaaDoorPure2
import Derived.Test.YtdcdgopblbmgoaaDoorW6
/-
  What the phis of a block take on one way, over pure data. Imports nothing of the program.
-/
namespace Go.Proofs.YtdcdgopblbmgoaaDoor
open Go.RowKit

theorem predsFrom_ge (b : Int) : ∀ (xs : List Blk) (i : Nat), ∀ y ∈ predsFrom xs i b, (i : Int) ≤ y
  | [], _, y, h => by simp [predsFrom] at h
  | x :: xs, i, y, h => by
    rw [predsFrom, List.mem_append] at h
    rcases h with h | h
    · split at h
      · simp at h; omega
      · simp at h
    · have := predsFrom_ge b xs (i + 1) y h; omega
theorem predsFrom_nodup (b : Int) : ∀ (xs : List Blk) (i : Nat), (predsFrom xs i b).Nodup
  | [], _ => by simp [predsFrom]
  | x :: xs, i => by
    rw [predsFrom]
    split
    · rw [List.singleton_append, List.nodup_cons]
      exact ⟨fun h => by have := predsFrom_ge b xs (i + 1) _ h; omega, predsFrom_nodup b xs (i + 1)⟩
    · rw [List.nil_append]; exact predsFrom_nodup b xs (i + 1)
theorem predsFrom_mem (b : Int) : ∀ (xs : List Blk) (i k : Nat) (h : k < xs.length), b ∈ xs[k].term.targets → ((i + k : Nat) : Int) ∈ predsFrom xs i b
  | [], _, _, h, _ => absurd h (by simp)
  | x :: xs, i, k, h, hb => by
    rw [predsFrom, List.mem_append]
    cases k with
    | zero => left; simp only [List.getElem_cons_zero] at hb; simp [hb]
    | succ k =>
      right
      have := predsFrom_mem b xs (i + 1) k (by simpa using h) (by simpa using hb)
      rwa [show i + 1 + k = i + (k + 1) by omega] at this

/-- Where p stands first. -/
def idxR (ps : List Int) (p : Int) : Nat := ps.findIdx (fun y => p == y)
theorem idxR_lt {ps : List Int} {p : Int} (h : p ∈ ps) : idxR ps p < ps.length := by
  unfold idxR
  rw [List.findIdx_lt_length]
  exact ⟨p, h, by simp⟩
theorem idxR_at {ps : List Int} {p : Int} (h : idxR ps p < ps.length) : ps[idxR ps p] = p := by
  have := List.findIdx_getElem (p := fun y => p == y) (xs := ps) (w := h)
  simp only [beq_iff_eq] at this
  exact this.symm
theorem idxR_ne {ps : List Int} {p : Int} {j : Nat} (h : j < idxR ps p) (hl : j < ps.length) : (p == ps[j]) = false := by
  have := List.not_of_lt_findIdx (p := fun y => p == y) (xs := ps) (i := j) h
  simpa using this
theorem idxR_eq {ps : List Int} {p : Int} {j : Nat} (hl : j < ps.length) (he : ps[j] = p) (hlt : ∀ i (h : i < j), ps[i] ≠ p) : idxR ps p = j := by
  unfold idxR
  rw [List.findIdx_eq hl]
  exact ⟨by simp [he], fun i hi => by have := hlt i hi; simp only [beq_eq_false_iff_ne]; exact fun e => this e.symm⟩

theorem entIn_none (ps : List Int) (p : Int) (ph : Ph) (vals o : List Int) : ∀ j, (∀ i, i < j → ps.getD i (-1) ≠ p) → entIn ps p ph vals j o = o
  | 0, _ => rfl
  | j + 1, h => by
    rw [entIn, if_neg (h j (by omega)), entIn_none ps p ph vals o j (fun i hi => h i (by omega))]
theorem entIn_one (ps : List Int) (p : Int) (ph : Ph) (vals o : List Int) (q : Nat) (hq : ps.getD q (-1) = p) : ∀ j, q < j → (∀ i, i < j → i ≠ q → ps.getD i (-1) ≠ p) → entIn ps p ph vals j o = setN o ph.dst (getN vals (ph.args.getD q 0))
  | 0, h, _ => absurd h (by omega)
  | j + 1, h, hu => by
    rw [entIn]
    by_cases e : j = q
    · subst e
      rw [if_pos hq, entIn_none ps p ph vals o j (fun i hi => hu i (by omega) (by omega))]
    · rw [if_neg (hu j (by omega) e), entIn_one ps p ph vals o q hq j (by omega) (fun i hi he => hu i (by omega) he)]

/-- What the phis take: where to, where from. -/
def takesR (q : Nat) (phs : List Ph) : List (Int × Int) := phs.map fun ph => (ph.dst, ph.args.getD q 0)
def takeTo (vals : List Int) (ts : List (Int × Int)) (o : List Int) : List Int := ts.foldl (fun o t => setN o t.1 (getN vals t.2)) o
theorem takeTo_len (vals : List Int) : ∀ (ts : List (Int × Int)) (o : List Int), (takeTo vals ts o).length = o.length
  | [], o => rfl
  | t :: ts, o => by
    have := takeTo_len vals ts (setN o t.1 (getN vals t.2))
    rw [setN_len] at this
    exact this
theorem takeTo_snoc (vals : List Int) (ts : List (Int × Int)) (t : Int × Int) (o : List Int) : takeTo vals (ts ++ [t]) o = setN (takeTo vals ts o) t.1 (getN vals t.2) := by simp [takeTo]
theorem entTo_takes (ps : List Int) (p : Int) (phs : List Ph) (vals : List Int) (hm : p ∈ ps) (hn : ps.Nodup) : entTo ps p phs vals = takeTo vals (takesR (idxR ps p) phs) vals := by
  have hl := idxR_lt hm
  have ha := idxR_at hl
  have one : ∀ ph (o : List Int), entIn ps p ph vals ps.length o = setN o ph.dst (getN vals (ph.args.getD (idxR ps p) 0)) := fun ph o => by
    refine entIn_one ps p ph vals o (idxR ps p) (by simp [hl, ha]) ps.length hl (fun i hi he e => he ?_)
    have e2 : ps[i] = ps[idxR ps p] := by rw [ha]; simpa [hi] using e
    exact (List.getElem_inj hn).1 e2
  unfold entTo takeTo takesR
  rw [List.foldl_map]
  have : (fun o ph => entIn ps p ph vals ps.length o) = fun (o : List Int) (ph : Ph) => setN o ph.dst (getN vals (ph.args.getD (idxR ps p) 0)) := by funext o ph; exact one ph o
  rw [this]
theorem pred_here {F : Fn} {b : Nat} (hb : b < F.blocks.length) {to : Int} (ht : to ∈ (F.blk b).term.targets) : (b : Int) ∈ F.preds to := by
  have := predsFrom_mem to F.blocks 0 b hb (by rw [← blk_at F b hb]; exact ht)
  rwa [Nat.zero_add] at this
/-- A block is entered: as the program says it. -/
theorem enter_takes {F : Fn} {b : Nat} (hb : b < F.blocks.length) {to : Int} (ht : to ∈ (F.blk b).term.targets) (phs : List Ph) (vals : List Int) : entTo (F.preds to) b phs vals = takeTo vals (takesR (idxR (F.preds to) b) phs) vals :=
  entTo_takes _ _ _ _ (pred_here hb ht) (predsFrom_nodup _ _ _)
theorem goTo_mem {X : Blk} (hk : X.term.kind = 1 ∨ X.term.kind = 2) (vals : List Int) : goTo X vals ∈ X.term.targets := by
  unfold goTo Ter.targets
  rcases hk with e | e
  · rw [if_pos e, if_neg (fun h => by have := h.1; omega)]; simp
  · rw [if_neg (show ¬ X.term.kind = 1 by omega), if_pos e]
    split <;> simp
end Go.Proofs.YtdcdgopblbmgoaaDoor

namespace Go.Proofs.YtdcdgopblbmgoaaDoor
open Go.RowKit

set_option maxHeartbeats 400000 in
theorem validImm_any (op dst a b imm : Int) (w : World) :
    Calls Tryd.prog 131 #[.agg #[.int .i64 op, .int .i64 dst, .int .i64 a, .int .i64 b, .int .i64 imm]] w fun e w' => e = .returned (.bool (immOk ⟨op, dst, a, b, imm⟩)) ∧ Below w.heap.size w w' := by
  go_enter Tryd.func131, Tryd.ntmps131
  go_wp2
  all_goals
    go_ret
    refine ⟨ret_bool ?_, balloc (Below.refl _ _) _⟩
    first | (simp [immOk, *]; done) | (simp [immOk, *]; omega)

/-- What the table of the instructions' forms (variable 0) holds. -/
def OpTab (w : World) : Prop := 0 < w.heap.size ∧ ∀ k : Nat, 1 ≤ k → k ≤ 13 → ∃ s, w.cell? ⟨0, k * 5, none⟩ = some (.string s) ∧ w.cell? ⟨0, k * 5 + 1, none⟩ = some (.bool (dB k)) ∧ w.cell? ⟨0, k * 5 + 2, none⟩ = some (.bool (aB k)) ∧
  w.cell? ⟨0, k * 5 + 3, none⟩ = some (.bool (bB k)) ∧ ∃ i, w.cell? ⟨0, k * 5 + 4, none⟩ = some (.bool i)
/-- What the table of the ends' forms (variable 1) holds. -/
def TerTab (w : World) : Prop := 1 < w.heap.size ∧ ∀ k : Nat, 1 ≤ k → k ≤ 3 → ∃ s, w.cell? ⟨1, k * 4, none⟩ = some (.string s) ∧ w.cell? ⟨1, k * 4 + 1, none⟩ = some (.bool ((k : Int) != 1)) ∧ w.cell? ⟨1, k * 4 + 2, none⟩ = some (.bool ((k : Int) != 3)) ∧
  w.cell? ⟨1, k * 4 + 3, none⟩ = some (.bool ((k : Int) == 2))
theorem OpTab.keep {w w' : World} (h : OpTab w) (k : Below w.heap.size w w') : OpTab w' := by
  refine ⟨Nat.lt_of_lt_of_le h.1 k.size, fun i h1 h2 => ?_⟩
  have e := fun o => cell_of (o := o) (k.block 0 h.1)
  obtain ⟨s, c0, c1, c2, c3, j, c4⟩ := h.2 i h1 h2
  exact ⟨s, (e _).trans c0, (e _).trans c1, (e _).trans c2, (e _).trans c3, j, (e _).trans c4⟩
theorem TerTab.keep {w w' : World} (h : TerTab w) (k : Below w.heap.size w w') : TerTab w' := by
  refine ⟨Nat.lt_of_lt_of_le h.1 k.size, fun i h1 h2 => ?_⟩
  have e := fun o => cell_of (o := o) (k.block 1 h.1)
  obtain ⟨s, c0, c1, c2, c3⟩ := h.2 i h1 h2
  exact ⟨s, (e _).trans c0, (e _).trans c1, (e _).trans c2, (e _).trans c3⟩

set_option maxHeartbeats 1000000 in
theorem validInstr_gen (op dst a b imm n most : Int) (w : World) (hm : most ≤ 13) (hT : Hid (OpTab w)) :
    Calls Tryd.prog 91 #[.agg #[.int .i64 op, .int .i64 dst, .int .i64 a, .int .i64 b, .int .i64 imm], .int .i64 most, .int .i64 n] w fun e w' => e = .returned (.bool (insOk n most ⟨op, dst, a, b, imm⟩)) ∧ Below w.heap.size w w' := by
  by_cases h : 1 ≤ op ∧ op ≤ most
  · obtain ⟨h1, h2⟩ := h
    obtain ⟨k, rfl⟩ := Int.eq_ofNat_of_zero_le (show 0 ≤ op by omega)
    have hz := hT.out.1
    obtain ⟨s, c0, c1, c2, c3, j, c4⟩ := hT.out.2 k (by omega) (by omega)
    have hR : Hid (insOk n most ⟨k, dst, a, b, imm⟩ = (fld (dB k) dst 0 n && fld (aB k) a 0 n && fld (bB k) b 0 n && immOk ⟨k, dst, a, b, imm⟩)) := by
      show _ = _
      unfold insOk
      rw [decide_eq_true h1, decide_eq_true h2]
      simp
    generalize dB (k : Int) = uD at *
    generalize aB (k : Int) = uA at *
    generalize bB (k : Int) = uB at *
    have hk13 : (k : Int) ≤ 13 := by omega
    go_enter Tryd.func91, Tryd.ntmps91
    go_wp2_with (first | (go_at_call 102; refine (validField_any _ _ _ _ _).mono ?_; rintro e w2 ⟨rfl, hw2⟩; rw [hw2]; clear hw2 w2) | (go_at_call 131; refine (validImm_any _ _ _ _ _ _).mono ?_; rintro e w2 ⟨rfl, hb2⟩))
    all_goals
      go_ret
      refine ⟨ret_bool ?_, ?_⟩
      · rw [hR.out]; simp [*]
      · first | exact bnext (balloc (balloc (Below.refl _ _) _) _) hb2 | exact balloc (balloc (Below.refl _ _) _) _
  · have hn : ∃ r, r = insOk n most ⟨op, dst, a, b, imm⟩ ∧ r = false := ⟨_, rfl, by
      unfold insOk
      by_cases h1 : 1 ≤ op
      · rw [decide_eq_false (p := op ≤ most) (by omega)]; simp
      · rw [decide_eq_false (p := 1 ≤ op) h1]; simp⟩
    obtain ⟨r, hr, rfl⟩ := hn
    rw [← hr]
    clear hr
    have h' : op < 1 ∨ (1 ≤ op ∧ most < op) := by omega
    clear h
    rcases h' with h' | ⟨h', h''⟩
    all_goals
      go_enter Tryd.func91, Tryd.ntmps91
      go_wp2
      all_goals
        go_ret
        exact ⟨rfl, balloc (Below.refl _ _) _⟩

theorem validInstr_any (op dst a b imm n : Int) (w : World) (hT : Hid (OpTab w)) :
    Calls Tryd.prog 91 #[.agg #[.int .i64 op, .int .i64 dst, .int .i64 a, .int .i64 b, .int .i64 imm], .int .i64 10, .int .i64 n] w fun e w' => e = .returned (.bool (insOk n 10 ⟨op, dst, a, b, imm⟩)) ∧ Below w.heap.size w w' :=
  validInstr_gen op dst a b imm n 10 w (by decide) hT

set_option maxHeartbeats 1000000 in
theorem validTerm_any (kind ta to els n low bl : Int) (w : World) (hT : Hid (TerTab w)) :
    Calls Tryd.prog 90 #[.agg #[.int .i64 kind, .int .i64 ta, .int .i64 to, .int .i64 els], .int .i64 n, .int .i64 low, .int .i64 bl] w fun e w' => e = .returned (.bool (terOk n low bl ⟨kind, ta, to, els⟩)) ∧ Below w.heap.size w w' := by
  by_cases h : 1 ≤ kind ∧ kind ≤ 3
  · obtain ⟨h1, h2⟩ := h
    obtain ⟨k, rfl⟩ := Int.eq_ofNat_of_zero_le (show 0 ≤ kind by omega)
    have hz := hT.out.1
    obtain ⟨s, c0, c1, c2, c3⟩ := hT.out.2 k (by omega) (by omega)
    have hR : Hid (terOk n low bl ⟨k, ta, to, els⟩ = (fld ((k : Int) != 1) ta 0 n && fld ((k : Int) != 3) to low bl && fld ((k : Int) == 2) els low bl)) := by
      show _ = _
      unfold terOk
      rw [decide_eq_true h1, decide_eq_true h2]
      simp
    generalize ((k : Int) != 1) = uA at *
    generalize ((k : Int) != 3) = uT at *
    generalize ((k : Int) == 2) = uE at *
    go_enter Tryd.func90, Tryd.ntmps90
    go_wp2_with (go_at_call 102; refine (validField_any _ _ _ _ _).mono ?_; rintro e w2 ⟨rfl, hw2⟩; rw [hw2]; clear hw2 w2)
    all_goals
      go_ret
      refine ⟨ret_bool ?_, ?_⟩
      · rw [hR.out]; simp [*]
      · exact balloc (balloc (Below.refl _ _) _) _
  · have hn : ∃ r, r = terOk n low bl ⟨kind, ta, to, els⟩ ∧ r = false := ⟨_, rfl, terOk_no h⟩
    obtain ⟨r, hr, rfl⟩ := hn
    rw [← hr]
    clear hr
    have h' : kind < 1 ∨ 3 < kind := by omega
    clear h
    go_enter Tryd.func90, Tryd.ntmps90
    go_wp2
    all_goals
      go_ret
      exact ⟨rfl, balloc (Below.refl _ _) _⟩

set_option maxHeartbeats 400000 in
theorem targetsI_any (t : Ter) (w : World) :
    Calls Tryd.prog 114 #[.agg #[.int .i64 t.kind, .int .i64 t.a, .int .i64 t.to, .int .i64 t.els]] w fun e w' => ∃ a c, e = .returned (.slice a t.targets.length c) ∧ Below w.heap.size w w' ∧ IntsAt w' w.heap.size w'.heap.size a t.targets := by
  obtain ⟨kind, ta, to, els⟩ := t
  by_cases h1 : kind = 1
  · subst h1
    go_enter Tryd.func114, Tryd.ntmps114
    go_wp2
    go_ret
    refine ⟨_, _, rfl, balloc (balloc (Below.refl _ _) _) _, fun i hi => ?_⟩
    simp [Ter.targets] at hi
    subst hi
    exact ⟨_, _, rfl, ⟨by simp, by simp⟩, by simp [Ter.targets]⟩
  · by_cases h2 : kind = 2
    · subst h2
      go_enter Tryd.func114, Tryd.ntmps114
      go_wp2
      go_ret
      refine ⟨_, _, rfl, balloc (balloc (Below.refl _ _) _) _, fun i hi => ?_⟩
      simp [Ter.targets] at hi
      match i, hi with
      | 0, _ => exact ⟨_, _, rfl, ⟨by simp, by simp⟩, by simp [Ter.targets]⟩
      | 1, _ => exact ⟨_, _, rfl, ⟨by simp, by simp⟩, by simp [Ter.targets]⟩
    · have e1 : (kind == 1) = false := by simp [h1]
      have e2 : (kind == 2) = false := by simp [h2]
      have hn : (Ter.targets ⟨kind, ta, to, els⟩) = [] := by simp [Ter.targets, h1, h2]
      rw [hn]
      clear h1 h2 hn
      go_enter Tryd.func114, Tryd.ntmps114
      go_wp2
      go_ret
      exact ⟨_, _, rfl, balloc (Below.refl _ _) _, fun i hi => absurd hi (by simp)⟩
end Go.Proofs.YtdcdgopblbmgoaaDoor
