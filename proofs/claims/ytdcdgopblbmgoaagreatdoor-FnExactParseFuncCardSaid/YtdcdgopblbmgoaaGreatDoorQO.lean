import Derived.Test.YtdcdgopblbmgoaaGreatDoorQN
import Derived.Test.YtdcdgopblbmgoaaGreatDoorPure2
import Derived.Test.YtdcdgopblbmgoaaGreatDoorW1
/-
  The code of a line: the model's and the program's way to it. Pure.
-/
namespace Go.Proofs.YtdcdgopblbmgoaaGreatDoor
open Go.RowKit Go.Shelf Go.Maps

theorem oks_range (q : Nat → Bool) : ∀ (r : List (List UInt8)) (i : Nat), oksF q i r = (List.range r.length).all (fun j => match r[j]? with | some f => okAt (q (i + j)) f | none => true)
  | [], _ => rfl
  | f :: r, i => by
    rw [oksF, List.length_cons, List.range_succ_eq_map, List.all_cons, List.all_map, oks_range q r (i + 1)]
    congr 1
    congr 1
    funext j
    simp only [Function.comp, List.getElem?_cons_succ]
    rw [show i + 1 + j = i + (j + 1) by omega]
theorem idx_ok (f : List UInt8) : decide (0 ≤ idx f) = digitsOk f 4 := by
  unfold idx
  cases h : digitsOk f 4 with
  | true => rw [if_pos rfl]; simp
  | false => rw [if_neg (by decide)]; rfl
theorem num_ok (w : List UInt8) (r : List (List UInt8)) (i : Nat) (f : List UInt8) : numOk (w :: r) (i + 1) f = okAt (decide (w = wConst) && decide (i = 1)) f := by
  unfold numOk okAt
  by_cases h : w = wConst
  · by_cases h1 : i = 1
    · rw [if_pos ⟨by rw [h]; rfl, by omega⟩]; simp [h, h1]
    · rw [if_neg (fun q => h1 (by omega)), idx_ok]; simp [h1]
  · rw [if_neg (fun q => h (Option.some.inj q.1)), idx_ok]; simp [h]
theorem nums_link (w : List UInt8) (r : List (List UInt8)) : numsOk (w :: r) r.length = oksF (fun i => decide (w = wConst) && decide (i = 1)) 0 r := by
  rw [oks_range]
  unfold numsOk
  congr 1
  funext i
  rw [List.getElem?_cons_succ]
  cases r[i]? with
  | none => rfl
  | some f => simp only [num_ok, Nat.zero_add]
theorem oksF_congr {q q' : Nat → Bool} (h : ∀ i, q i = q' i) : ∀ (r : List (List UInt8)) (i : Nat), oksF q i r = oksF q' i r
  | [], _ => rfl
  | f :: r, i => by rw [oksF, oksF, h i, oksF_congr h r]
theorem cntI_uses (k : Nat) (h1 : 1 ≤ k) (h2 : k ≤ 10) : (usesS k).size = cntI k := by
  have hc : k = 1 ∨ k = 2 ∨ k = 3 ∨ k = 4 ∨ k = 5 ∨ k = 6 ∨ k = 7 ∨ k = 8 ∨ k = 9 ∨ k = 10 := by omega
  rcases hc with rfl | rfl | rfl | rfl | rfl | rfl | rfl | rfl | rfl | rfl <;> decide
/-- What a line's word and the number of its fields tell. -/
theorem want_link (w : List UInt8) (n : Nat) : match wordOp w with
    | none => wantN w (n + 1) = 0
    | some (ro, co) => wantN w (n + 1) ≠ 0 ∧ (takesB ro co n = true ↔ n + 1 = wantN w (n + 1)) ∧ (takesB ro co n = true → ∀ i, conAt ro co n i = (decide (w = wConst) && decide (i = 1))) ∧ ro ≤ 3 ∧ (ro = 2 → 1 ≤ co ∧ co ≤ 10) ∧ (ro = 3 → 1 ≤ co ∧ co ≤ 3) := by
  unfold wordOp wantN
  by_cases h0 : opOf w = 0
  · have hcw : w ≠ wConst := fun e => by subst e; exact absurd h0 (by decide)
    rw [if_neg (fun q : opOf w ≠ 0 => q h0), if_neg (fun q : opOf w ≠ 0 => q h0)]
    by_cases e5 : w = wBlock
    · subst e5
      rw [if_pos rfl, if_pos rfl]
      refine ⟨by decide, ?_, fun _ i => by simp [conAt, hcw], by decide, by decide, by decide⟩
      simp [takesB]
    · rw [if_neg e5, if_neg e5]
      by_cases e4 : w = wPhi
      · subst e4
        rw [if_pos rfl, if_neg (by decide), if_neg (by decide), if_neg (by decide), if_pos rfl]
        refine ⟨by split <;> omega, ?_, fun _ i => by simp [conAt, hcw], by decide, by decide, by decide⟩
        simp only [takesB]
        split <;> simp <;> omega
      · rw [if_neg e4]
        by_cases e3 : w = wJump
        · subst e3
          rw [if_pos rfl, if_pos rfl]
          refine ⟨by decide, ?_, fun _ i => by simp [conAt, hcw], by decide, by decide, by decide⟩
          show ((n == cntT 1) = true) ↔ _
          rw [show cntT 1 = 1 by decide]; simp
        · rw [if_neg e3, if_neg e3]
          by_cases e2 : w = wBranch
          · subst e2
            rw [if_pos rfl, if_neg (by decide), if_pos rfl]
            refine ⟨by decide, ?_, fun _ i => by simp [conAt, hcw], by decide, by decide, by decide⟩
            show ((n == cntT 2) = true) ↔ _
            rw [show cntT 2 = 3 by decide]; simp
          · rw [if_neg e2]
            by_cases e1 : w = wRet
            · subst e1
              rw [if_pos rfl, if_pos rfl]
              refine ⟨by decide, ?_, fun _ i => by simp [conAt, hcw], by decide, by decide, by decide⟩
              show ((n == cntT 3) = true) ↔ _
              rw [show cntT 3 = 1 by decide]; simp
            · rw [if_neg e1, if_neg e1, if_neg e2, if_neg e4]
  · rw [if_pos h0, if_pos h0]
    obtain ⟨⟨h1, h2⟩, _⟩ := op_other h0
    obtain ⟨k, hk⟩ : ∃ k : Nat, opOf w = k := ⟨(opOf w).toNat, by omega⟩
    have k1 : 1 ≤ k := by omega
    have k2 : k ≤ 10 := by omega
    rw [hk, cntI_uses k k1 k2]
    refine ⟨by omega, ?_, fun ht i => ?_, by decide, fun _ => ⟨by simpa using k1, by simpa using k2⟩, fun q => absurd q (by decide)⟩
    · show ((n == cntI _) = true) ↔ _
      rw [beq_iff_eq, Int.toNat_natCast]; omega
    · have ht' : n = cntI k := by
        have : ((n == cntI ((k : Int).toNat)) = true) := ht
        rw [beq_iff_eq, Int.toNat_natCast] at this
        exact this
      rw [Int.toNat_natCast]
      rcases opFrom_spec w 10 1 with q | ⟨j, j1, j2, j3, j4⟩
      · exact absurd q h0
      · have ej : j = k := by have : opOf w = j := j3; omega
        subst ej
        by_cases hj : j = 1
        · subst hj
          have : w = wConst := j4.symm
          subst this
          rw [ht']
          show (decide _ && (decide _ && decide (i + 1 = cntI 1))) = _
          rw [show cntI 1 = 2 by decide]
          simp
        · have hcw : w ≠ wConst := fun e => by
            subst e
            have : opOf wConst = 1 := by decide
            omega
          simp [conAt, hj, hcw]
theorem line_link (w : List UInt8) (r : List (List UInt8)) : lineCode (w :: r) = match wordOp w with
    | none => 5
    | some (ro, co) => if takesB ro co r.length = true then (if oksF (conAt ro co r.length) 0 r = true then 0 else 7) else 6 := by
  have h := want_link w r.length
  unfold lineCode
  simp only [List.headD_cons, List.length_cons, Nat.add_sub_cancel]
  cases hw : wordOp w with
  | none =>
    rw [hw] at h
    rw [if_pos h]
  | some rc =>
    obtain ⟨ro, co⟩ := rc
    rw [hw] at h
    obtain ⟨a1, a2, a3, _⟩ := h
    rw [if_neg a1]
    by_cases ht : takesB ro co r.length = true
    · rw [if_neg (fun q => q (a2.1 ht)), nums_link, oksF_congr (fun i => (a3 ht i).symm)]
      simp only [ht, if_true]
    · rw [if_pos (fun q => ht (a2.2 q))]
      simp only [ht]; rfl
end Go.Proofs.YtdcdgopblbmgoaaGreatDoor

/-
  A run, over pure data; rows of numbers that a run writes. Imports nothing of the program.
-/
namespace Go.Proofs.YtdcdgopblbmgoaaGreatDoor
open Go.RowKit

def setN (xs : List Int) (i : Int) (v : Int) : List Int := xs.set i.toNat v
def getN (xs : List Int) (i : Int) : Int := xs.getD i.toNat 0
theorem setN_len (xs : List Int) (i v : Int) : (setN xs i v).length = xs.length := by simp [setN]
theorem getN_of (xs : List Int) (k : Nat) (h : k < xs.length) : getN xs (k : Int) = xs[k] := by simp [getN, h]

/-- Block b is a row of cells, none frozen, and it begins with these numbers. -/
def IntsW (w : World) (b : Nat) (xs : List Int) : Prop := (∃ C t, w.heap[b]? = some (.cells C t (0, 0))) ∧ ∀ i (h : i < xs.length), w.cell? ⟨b, i, none⟩ = some (.int .i64 xs[i])

variable {w w' : World} {b : Nat} {xs : List Int}
theorem IntsW.lt (h : IntsW w b xs) : b < w.heap.size := by
  obtain ⟨⟨C, t, e⟩, _⟩ := h
  exact (Array.getElem?_eq_some_iff.1 e).1
theorem IntsW.frozen (h : IntsW w b xs) (i : Nat) : w.frozen? ⟨b, i, none⟩ = false := by
  obtain ⟨⟨C, t, e⟩, _⟩ := h
  unfold World.frozen?
  rw [e]
  simp
theorem IntsW.keep (h : IntsW w b xs) (k : w'.heap[b]? = w.heap[b]?) : IntsW w' b xs := by
  obtain ⟨⟨C, t, e⟩, h2⟩ := h
  exact ⟨⟨C, t, k.trans e⟩, fun i hi => (cell_of k).trans (h2 i hi)⟩
theorem IntsW.set (h : IntsW w b xs) {i : Nat} (hi : i < xs.length) (v : Int) : IntsW (w.setCell ⟨b, i, none⟩ (.int .i64 v)) b (xs.set i v) := by
  obtain ⟨⟨C, t, e⟩, h2⟩ := h
  refine ⟨⟨C.setIfInBounds i (.int .i64 v), t, ?_⟩, fun j hj => ?_⟩
  · simp only [World.setCell, Array.getElem?_modify, e]
    simp
  · have hj' : j < xs.length := by simpa using hj
    by_cases ej : j = i
    · subst ej
      rw [World.cell?_setCell_same _ _ _ (h2 j hj')]
      simp
    · rw [World.cell?_setCell_other _ _ _ _ (by intro q; injection q with _ q2; omega)]
      rw [h2 j hj', List.getElem_set_ne (by omega)]
theorem IntsW.at (h : IntsW w b xs) {L B : Nat} (hb : L ≤ b ∧ b < B) : IntsAt w L B (some ⟨b, 0, none⟩) xs := fun i hi => ⟨b, 0, rfl, hb, by rw [Nat.zero_add]; exact h.2 i hi⟩
theorem IntsW.of_row {t n : Nat} {f : Nat → Value} (h : w.rowIs b t n f) (hl : xs.length ≤ n) (hf : ∀ i (hi : i < xs.length), f i = .int .i64 xs[i]) : IntsW w b xs := by
  refine ⟨?_, fun i hi => by rw [h.cell (by omega), hf i hi]⟩
  obtain ⟨C, e, _⟩ := h
  exact ⟨C, t, e⟩
theorem IntsW.of_owned {base e : Nat} {v : Value} {n : Nat} (h : w.ownsRow base e 1 v n (xs.map (Value.int .i64))) (hv : v ≠ .slice none 0 0) : ∃ g c, v = .slice (some ⟨g, 0, none⟩) xs.length c ∧ base ≤ g ∧ IntsW w g xs := by
  obtain ⟨hl, h | ⟨g, cap, cur, rfl, hg, hh, hc, _, hs, ht⟩⟩ := h
  · exact absurd h.1 hv
  · simp only [Nat.mul_one, List.length_map] at hl hs ht
    subst hl
    refine ⟨g, cap, rfl, hg, ⟨cur, e, hh⟩, fun i hi => ?_⟩
    have h1 : (cur.toList.take xs.length)[i]? = some (Value.int .i64 xs[i]) := by rw [ht]; simp [hi]
    rw [List.getElem?_take_of_lt hi] at h1
    simp only [World.cell?, hh]
    simpa using h1

/-- The instructions of two operands. -/
def arithR (op a b : Int) : Int := if op = 3 then wrap64 (a + b) else if op = 4 then wrap64 (a - b) else if op = 5 then wrap64 (a * b) else if op = 6 then wrap64 (a.tdiv b) else if a < b then 1 else 0
/-- Argument number i, 0 where there is none. -/
def argR (xs : List Int) (i : Int) : Int := xs.getD i.toNat 0

def runOk (na nh : Nat) (fuel : Int) : Bool := decide (na ≤ 8) && decide (nh ≤ 32) && decide (0 ≤ fuel) && decide (fuel ≤ 60000)
theorem runOk_yes {na nh : Nat} {fuel : Int} (h1 : na ≤ 8) (h2 : nh ≤ 32) (h3 : 0 ≤ fuel) (h4 : fuel ≤ 60000) : runOk na nh fuel = true := by simp [runOk, h1, h2, h3, h4]
theorem runOk_no {na nh : Nat} {fuel : Int} (h : 8 < na ∨ 32 < nh ∨ fuel < 0 ∨ 60000 < fuel) : runOk na nh fuel = false := by
  rw [Bool.eq_false_iff]
  intro e
  simp only [runOk, Bool.and_eq_true, decide_eq_true_eq] at e
  omega

/-- All cells of the heap at the start. -/
def heapR (hs : List Int) : List Int := (List.range 32).map fun i => hs.getD i 0
def heapTo (hs : List Int) (k : Nat) : List Int := (List.range k).map fun i => hs.getD i 0
theorem heapTo_snoc (hs : List Int) (k : Nat) : heapTo hs (k + 1) = heapTo hs k ++ [hs.getD k 0] := by simp [heapTo, List.range_succ]
theorem heapTo_len (hs : List Int) (k : Nat) : (heapTo hs k).length = k := by simp [heapTo]
end Go.Proofs.YtdcdgopblbmgoaaGreatDoor
