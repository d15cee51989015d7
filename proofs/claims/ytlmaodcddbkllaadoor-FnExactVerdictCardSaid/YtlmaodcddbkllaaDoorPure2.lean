import Derived.Test.YtlmaodcddbkllaaDoorMem
import Derived.Test.YtlmaodcddbkllaaDoorProg
import Derived.WalkKit
import Derived.WalkSpells
import Derived.WalkLawsBesides
namespace Go.Proofs.YtlmaodcddbkllaaDoor

theorem countEq_count (l : List Int) (v : Int) : countEq l v = l.count v := by
  unfold countEq
  rw [List.count, List.countP_eq_length_filter]

theorem cover_to (n : Nat) : ∀ l : List Int, l.length = n → (∀ v : Nat, v < n → (v : Int) ∈ l) → (∀ d ∈ l, 0 ≤ d ∧ d < n) ∧ ∀ v : Nat, v < n → l.count (v : Int) = 1 := by
  induction n with
  | zero =>
    intro l hl _
    have : l = [] := List.eq_nil_of_length_eq_zero hl
    subst this
    exact ⟨fun d hd => (List.not_mem_nil hd).elim, fun v hv => absurd hv (by omega)⟩
  | succ n ih =>
    intro l hl hv
    have hm := hv n (by omega)
    have hlen : (l.erase (n : Int)).length = n := by rw [List.length_erase_of_mem hm]; omega
    have hmem : ∀ v : Nat, v < n → (v : Int) ∈ l.erase (n : Int) := fun v h => (List.mem_erase_of_ne (by omega)).2 (hv v (by omega))
    obtain ⟨h1, h2⟩ := ih _ hlen hmem
    have hp := List.perm_cons_erase hm
    refine ⟨fun d hd => ?_, fun v h => ?_⟩
    · rcases List.mem_cons.1 (hp.mem_iff.1 hd) with rfl | hd
      · omega
      · have := h1 d hd; omega
    · rw [hp.count_eq, List.count_cons]
      by_cases e : v = n
      · subst e
        have : (l.erase (v : Int)).count (v : Int) = 0 := List.count_eq_zero.2 (fun hh => by have := h1 _ hh; omega)
        simp [this]
      · rw [h2 v (by omega)]
        have : ((n : Int) == (v : Int)) = false := by simp; omega
        simp [this]

theorem cover_from (n : Nat) : ∀ l : List Int, (∀ d ∈ l, 0 ≤ d ∧ d < n) → (∀ v : Nat, v < n → l.count (v : Int) = 1) → l.length = n ∧ ∀ v : Nat, v < n → (v : Int) ∈ l := by
  induction n with
  | zero =>
    intro l hl _
    have : l = [] := List.eq_nil_iff_forall_not_mem.2 (fun d hd => by have := hl d hd; omega)
    subst this
    exact ⟨rfl, fun v hv => absurd hv (by omega)⟩
  | succ n ih =>
    intro l hl hc
    have hm : (n : Int) ∈ l := List.count_pos_iff.1 (by rw [hc n (by omega)]; omega)
    have hp := List.perm_cons_erase hm
    have hc0 : (l.erase (n : Int)).count (n : Int) = 0 := by rw [List.count_erase_self, hc n (by omega)]
    have h1 : ∀ d ∈ l.erase (n : Int), 0 ≤ d ∧ d < n := fun d hd => by
      have h := hl d (List.mem_of_mem_erase hd)
      have hne : d ≠ n := fun e => by subst e; exact absurd hd (List.count_eq_zero.1 hc0)
      omega
    have h2 : ∀ v : Nat, v < n → (l.erase (n : Int)).count (v : Int) = 1 := fun v h => by
      rw [List.count_erase_of_ne (by omega)]; exact hc v (by omega)
    obtain ⟨k1, k2⟩ := ih _ h1 h2
    refine ⟨by have := List.length_erase_of_mem hm; have : 0 < l.length := List.length_pos_of_mem hm; omega, fun v h => ?_⟩
    exact List.count_pos_iff.1 (by rw [hc v h]; omega)

/-- All values that the phis of the blocks define. -/
def dstsOk (n : Int) (xs : List Blk) : Bool := xs.all fun x => x.phis.all fun p => fld true p.dst 0 n

theorem all_and {α : Type} (p q : α → Bool) (l : List α) : l.all (fun x => p x && q x) = (l.all p && l.all q) := by
  induction l with
  | nil => rfl
  | cons x l ih => simp only [List.all_cons, ih]; cases p x <;> cases q x <;> cases l.all p <;> simp

theorem phisFrom_split (F : Fn) : ∀ (xs : List Blk) (i : Nat), phisFrom phOkI F xs i = (dstsOk F.values xs && phisFrom phOkS F xs i) := by
  intro xs
  induction xs with
  | nil => intro i; rfl
  | cons x xs ih =>
    intro i
    simp only [phisFrom, dstsOk, List.all_cons, ih]
    have : x.phis.all (phOkI F.values (F.preds ↑i).length) = (x.phis.all (fun p => fld true p.dst 0 F.values) && x.phis.all (phOkS F.values (F.preds ↑i).length)) := all_and _ _ _
    rw [this]
    cases x.phis.all (fun p => fld true p.dst 0 F.values) <;> cases x.phis.all (phOkS F.values (F.preds ↑i).length) <;> simp

theorem defs_range (F : Fn) (hi : instrsOk F = true) : (dstsOk F.values F.blocks = true ↔ ∀ d ∈ blksDefs F.blocks, 0 ≤ d ∧ d < F.values) := by
  unfold dstsOk blksDefs
  simp only [List.all_eq_true, List.mem_flatMap, blkDefs, phDefs, insDefs, List.mem_append, List.mem_map, List.mem_filter, fld, if_true, Bool.and_eq_true, decide_eq_true_eq]
  constructor
  · rintro h d ⟨x, hx, ⟨p, hp, rfl⟩ | ⟨y, ⟨hy, hd⟩, rfl⟩⟩
    · exact h x hx p hp
    · have := List.all_eq_true.1 (List.all_eq_true.1 hi x hx) y hy
      simp only [insOk, hd, fld, if_true, Bool.and_eq_true, decide_eq_true_eq] at this
      omega
  · intro h x hx p hp
    exact h _ ⟨x, hx, Or.inl ⟨p, hp, rfl⟩⟩

theorem once_cover (F : Fn) (h0 : 0 ≤ F.values) (hi : instrsOk F = true) : (dstsOk F.values F.blocks && onceOk F) = coverOk F := by
  rw [Bool.eq_iff_iff]
  obtain ⟨n, hn⟩ := Int.eq_ofNat_of_zero_le h0
  rw [Bool.and_eq_true, defs_range F hi]
  unfold onceOk coverOk
  rw [hn]
  simp only [List.all_eq_true, List.mem_range, Int.toNat_natCast, beq_iff_eq, Bool.and_eq_true, decide_eq_true_eq, List.contains_iff_mem, countEq_count]
  constructor
  · rintro ⟨h1, h2⟩
    obtain ⟨k1, k2⟩ := cover_from n _ h1 h2
    exact ⟨by omega, k2⟩
  · rintro ⟨h1, h2⟩
    exact cover_to n _ (by omega) h2

theorem valid_same (F : Fn) : validI F = validS F := by
  unfold validI validS phisOkI phisOkS
  rw [phisFrom_split]
  cases hs : sizeOk F
  · simp
  cases hi : instrsOk F
  · simp
  cases ht : termsOk F
  · simp
  have h0 : 0 ≤ F.values := by
    simp only [sizeOk, Bool.and_eq_true, decide_eq_true_eq] at hs
    omega
  have := once_cover F h0 hi
  rw [← this]
  cases dstsOk F.values F.blocks <;> cases phisFrom phOkS F F.blocks 0 <;> simp

end Go.Proofs.YtlmaodcddbkllaaDoor

namespace Go.Proofs.YtlmaodcddbkllaaDoor
open Go.RowKit

theorem ret_int {k : IntKind} {a b : Int} (h : a = b) : Ending.returned (.int k a) = .returned (.int k b) := by rw [h]
theorem ret_bool {a b : Bool} (h : a = b) : Ending.returned (.bool a) = .returned (.bool b) := by rw [h]

set_option maxHeartbeats 400000 in
theorem validField_any (u : Bool) (x lo hi : Int) (w : World) :
    Calls Tryd.prog 127 #[.bool u, .int .i64 x, .int .i64 lo, .int .i64 hi] w fun e w' => e = .returned (.bool (fld u x lo hi)) ∧ w' = w := by
  cases u
  · go_enter Tryd.func127, Tryd.ntmps127
    go_wp2
    go_ret
    exact ⟨rfl, rfl⟩
  · by_cases h1 : lo ≤ x <;> by_cases h2 : x < hi
    all_goals
      go_enter Tryd.func127, Tryd.ntmps127
      go_wp2
      go_ret
      exact ⟨by simp [fld, h1, h2], rfl⟩

set_option maxHeartbeats 400000 in
theorem szInts_any (a : Option Addr) (n c : Nat) (l : Int) (w : World) (hn : n ≤ 9223372036854775807) (h0 : 0 ≤ l) (h1 : l ≤ 1048576) :
    Calls Tryd.prog 224 #[.slice a n c, .int .i64 l] w fun e w' => e = .returned (.int .i64 (szR l n)) ∧ w' = w := by
  by_cases h : l < n
  · go_enter Tryd.func224, Tryd.ntmps224
    go_wp2
    go_ret
    exact ⟨ret_int (szR_neg h).symm, rfl⟩
  · go_enter Tryd.func224, Tryd.ntmps224
    go_wp2
    go_ret
    exact ⟨ret_int (szR_pos (by omega)).symm, rfl⟩

set_option maxHeartbeats 400000 in
theorem szInstrs_any (a : Option Addr) (n c : Nat) (l : Int) (w : World) (hn : n ≤ 9223372036854775807) (h0 : 0 ≤ l) (h1 : l ≤ 1048576) :
    Calls Tryd.prog 181 #[.slice a n c, .int .i64 l] w fun e w' => e = .returned (.int .i64 (szR l n)) ∧ w' = w := by
  by_cases h : l < n
  · go_enter Tryd.func181, Tryd.ntmps181
    go_wp2
    go_ret
    exact ⟨ret_int (szR_neg h).symm, rfl⟩
  · go_enter Tryd.func181, Tryd.ntmps181
    go_wp2
    go_ret
    exact ⟨ret_int (szR_pos (by omega)).symm, rfl⟩

set_option maxHeartbeats 400000 in
theorem szPhi_any (d : Int) (a : Option Addr) (n c : Nat) (l : Int) (w : World) (hn : n ≤ 9223372036854775807) (h0 : 0 ≤ l) (h1 : l ≤ 1048576) :
    Calls Tryd.prog 208 #[.agg #[.int .i64 d, .slice a n c], .int .i64 l] w fun e w' => e = .returned (.int .i64 (szR l n)) ∧ Below w.heap.size w w' := by
  by_cases h : l < n
  · have hz := szR_neg h
    go_enter Tryd.func208, Tryd.ntmps208
    go_wp2_with (go_at_call 224; refine (szInts_any _ _ _ _ _ (by omega) (by omega) (by omega)).mono ?_; rintro e w' ⟨rfl, rfl⟩)
    go_ret
    exact ⟨ret_int hz.symm, (Below.refl _ _).alloc (Nat.le_refl _) _⟩
  · have hz : szR l n = l - n := szR_pos (by omega)
    go_enter Tryd.func208, Tryd.ntmps208
    go_wp2_with (go_at_call 224; refine (szInts_any _ _ _ _ _ (by omega) (by omega) (by omega)).mono ?_; rintro e w' ⟨rfl, rfl⟩)
    go_ret
    exact ⟨ret_int hz.symm, (Below.refl _ _).alloc (Nat.le_refl _) _⟩

theorem take_next {α : Type} (xs : List α) (k : Nat) (h : k < xs.length) : xs.take (k + 1) = xs.take k ++ [xs[k]] := List.take_succ_eq_append_getElem h

set_option maxHeartbeats 400000 in
theorem szPhis_any (a : Option Addr) (n c : Nat) (l : Int) (xs : List Ph) (L B : Nat) (w : World) (ha : Hid (PhsAt w L B a xs)) (hx : Hid (n = xs.length)) (hn : n ≤ 9223372036854775807) (hs : Hid (∀ p ∈ xs, p.args.length ≤ 9223372036854775807))
    (h0 : 0 ≤ l) (h1 : l ≤ 1048576) (hB : B ≤ w.heap.size) :
    Calls Tryd.prog 180 #[.slice a n c, .int .i64 l] w fun e w' => e = .returned (.int .i64 (szR l (n + phTot xs))) ∧ Below w.heap.size w w' := by
  by_cases h : l < n
  · go_enter Tryd.func180, Tryd.ntmps180
    go_wp2
    go_ret
    exact ⟨ret_int (szR_neg (by omega)).symm, Below.refl _ _⟩
  · go_enter Tryd.func180, Tryd.ntmps180
    go_wp2
    go_loopw [1, 5] (fun q i wr => ∃ k : Nat, k ≤ n ∧ i = .int .i64 k ∧ (∃ r : Int, q = .int .i64 r ∧ 0 ≤ r ∧ r ≤ 1048576 ∧ Hid (r = l - (n + phTot (xs.take k) : Nat))) ∧ Below w.heap.size w wr) (fun _ i _ => n - (intOf i).toNat)
    case atStart => exact ⟨0, Nat.zero_le _, rfl, ⟨_, rfl, by omega, by omega, by show _ = _; simp [phTot]⟩, Below.refl _ _⟩
    case round =>
      obtain ⟨k, hk, rfl, ⟨r, rfl, hr0, hr1, hr⟩, hw⟩ := hrel
      by_cases hlt : k < n
      · obtain ⟨b, o, rfl, ⟨_, hbB⟩, aa, cc, hc0, hc1, _⟩ := ha.out k (by have := hx.out; omega)
        have hq := hs.out _ (List.getElem_mem (by have := hx.out; omega : k < xs.length))
        have e1 := (hw.cell (p := ⟨b, o + k * 2, none⟩) (by show b < _; omega)).trans hc0
        have e2 := (hw.cell (p := ⟨b, o + k * 2 + 1, none⟩) (by show b < _; omega)).trans hc1
        clear hc0 hc1
        have HT : Hid (phTot (xs.take (k + 1)) = phTot (xs.take k) + (xs[k]'(by have := hx.out; omega)).args.length) := by show _ = _; rw [take_next _ _ (by have := hx.out; omega), phTot_snoc]
        have HL : Hid (phTot (xs.take (k + 1)) ≤ phTot xs) := phTot_take _ _
        generalize (xs[k]'(by have := hx.out; omega)).args.length = m at *
        generalize (xs[k]'(by have := hx.out; omega)).dst = d at *
        by_cases hm : r < m
        · have hz := szR_neg hm
          go_wp2_with (go_at_call 208; refine (szPhi_any _ _ _ _ _ _ (by omega) (by omega) (by omega)).mono ?_; rintro e w' ⟨rfl, hb1⟩)
          go_ret
          exact ⟨ret_int (szR_neg (by have := hr.out; have := HT.out; have := HL.out; omega)).symm, bnext hw hb1⟩
        · have hz : szR r m = r - m := szR_pos (by omega)
          go_wp2_with (go_at_call 208; refine (szPhi_any _ _ _ _ _ _ (by omega) (by omega) (by omega)).mono ?_; rintro e w' ⟨rfl, hb1⟩)
          exact ⟨⟨k + 1, by omega, by go_num, ⟨_, rfl, by omega, by omega, by have := hr.out; have := HT.out; show _ = _; omega⟩, bnext hw hb1⟩, by simp [intOf]; omega⟩
      · go_wp2
        go_ret
        have : k = n := by omega
        have h2 := hr.out
        rw [List.take_of_length_le (by have := hx.out; omega)] at h2
        exact ⟨ret_int (by rw [szR_pos (by omega)]; exact h2), hw⟩

set_option maxHeartbeats 400000 in
theorem szBlock_any (p i : Option Addr) (n pc m ic : Nat) (t0 t1 t2 t3 l : Int) (xs : List Ph) (L B : Nat) (w : World) (ha : Hid (PhsAt w L B p xs)) (hx : Hid (n = xs.length)) (hn : n ≤ 9223372036854775807) (hm : m ≤ 9223372036854775807) (hs : Hid (∀ p ∈ xs, p.args.length ≤ 9223372036854775807))
    (h0 : 0 ≤ l) (h1 : l ≤ 1048576) (hB : B ≤ w.heap.size) :
    Calls Tryd.prog 136 #[.agg #[.slice p n pc, .slice i m ic, .int .i64 t0, .int .i64 t1, .int .i64 t2, .int .i64 t3], .int .i64 l] w fun e w' => e = .returned (.int .i64 (szR l (n + phTot xs + m))) ∧ Below w.heap.size w w' := by
  by_cases h : l < (n + phTot xs : Nat)
  · have hz := szR_neg h
    go_enter Tryd.func136, Tryd.ntmps136
    go_wp2_with (go_at_call 180; refine (szPhis_any _ _ _ _ xs L B _ (ha.out.keep ((Below.refl _ _).alloc hB _)) hx (by omega) hs (by omega) (by omega) (by simp; omega)).mono ?_; rintro e w' ⟨rfl, hb1⟩)
    go_ret
    exact ⟨ret_int (szR_neg (by omega)).symm, bnext ((Below.refl _ _).alloc (Nat.le_refl _) _) hb1⟩
  · have hz : szR l (n + phTot xs) = l - (n + phTot xs : Nat) := szR_pos (by omega)
    generalize hN : n + phTot xs = N at *
    have HN := hide hN
    clear hN
    by_cases h2 : l - N < m
    · have hz2 := szR_neg h2
      go_enter Tryd.func136, Tryd.ntmps136
      go_wp2_with (first | (go_at_call 180; refine (szPhis_any _ _ _ _ xs L B _ (ha.out.keep ((Below.refl _ _).alloc hB _)) hx (by omega) hs (by omega) (by omega) (by simp; omega)).mono ?_; rintro e w1 ⟨rfl, hb1⟩; obtain ⟨hc1, hf1⟩ := bcell hb1; rw [unhide HN]) | (go_at_call 181; refine (szInstrs_any _ _ _ _ _ (by omega) (by omega) (by omega)).mono ?_; rintro e w' ⟨rfl, rfl⟩))
      go_ret
      exact ⟨ret_int (szR_neg (by omega)).symm, bnext ((Below.refl _ _).alloc (Nat.le_refl _) _) hb1⟩
    · have hz2 : szR (l - N) m = l - N - m := szR_pos (by omega)
      go_enter Tryd.func136, Tryd.ntmps136
      go_wp2_with (first | (go_at_call 180; refine (szPhis_any _ _ _ _ xs L B _ (ha.out.keep ((Below.refl _ _).alloc hB _)) hx (by omega) hs (by omega) (by omega) (by simp; omega)).mono ?_; rintro e w1 ⟨rfl, hb1⟩; obtain ⟨hc1, hf1⟩ := bcell hb1; rw [unhide HN]) | (go_at_call 181; refine (szInstrs_any _ _ _ _ _ (by omega) (by omega) (by omega)).mono ?_; rintro e w' ⟨rfl, rfl⟩))
      go_ret
      exact ⟨ret_int (by rw [szR_pos (by omega)]; omega), bnext ((Below.refl _ _).alloc (Nat.le_refl _) _) hb1⟩

/-- Each list of the blocks is no longer than memory allows. -/
def LenOk (xs : List Blk) : Prop := ∀ x ∈ xs, x.phis.length ≤ 9223372036854775807 ∧ x.instrs.length ≤ 9223372036854775807 ∧ ∀ p ∈ x.phis, p.args.length ≤ 9223372036854775807

set_option maxHeartbeats 400000 in
theorem szBlocks_any (a : Option Addr) (n c : Nat) (l : Int) (xs : List Blk) (L B : Nat) (w : World) (ha : Hid (BlksAt w L B a xs)) (hx : Hid (n = xs.length)) (hn : n ≤ 9223372036854775807) (hs : Hid (LenOk xs))
    (h0 : 0 ≤ l) (h1 : l ≤ 1048576) (hB : B ≤ w.heap.size) :
    Calls Tryd.prog 75 #[.slice a n c, .int .i64 l] w fun e w' => e = .returned (.int .i64 (szR l (n + blksTot xs))) ∧ Below w.heap.size w w' := by
  by_cases h : l < n
  · go_enter Tryd.func75, Tryd.ntmps75
    go_wp2
    go_ret
    exact ⟨ret_int (szR_neg (by omega)).symm, Below.refl _ _⟩
  · go_enter Tryd.func75, Tryd.ntmps75
    go_wp2
    go_loopw [1, 5] (fun q i wr => ∃ k : Nat, k ≤ n ∧ i = .int .i64 k ∧ (∃ r : Int, q = .int .i64 r ∧ 0 ≤ r ∧ r ≤ 1048576 ∧ Hid (r = l - (n + blksTot (xs.take k) : Nat))) ∧ Below w.heap.size w wr) (fun _ i _ => n - (intOf i).toNat)
    case atStart => exact ⟨0, Nat.zero_le _, rfl, ⟨_, rfl, by omega, by omega, by show _ = _; simp [blksTot]⟩, Below.refl _ _⟩
    case round =>
      obtain ⟨k, hk, rfl, ⟨r, rfl, hr0, hr1, hr⟩, hw⟩ := hrel
      by_cases hlt : k < n
      · have hkx : k < xs.length := by have := hx.out; omega
        obtain ⟨b, o, rfl, ⟨_, hbB⟩, pa, pc, ia, ic, hc0, hc1, ⟨hc2, hc3, hc4, hc5⟩, hps, _⟩ := ha.out k hkx
        obtain ⟨hq1, hq2, hq3⟩ := hs.out _ (List.getElem_mem hkx)
        have HQ3 := hide hq3
        have e0 := (hw.cell (p := ⟨b, o + k * 6, none⟩) (by show b < _; omega)).trans hc0
        have e1 := (hw.cell (p := ⟨b, o + k * 6 + 1, none⟩) (by show b < _; omega)).trans hc1
        have e2 := (hw.cell (p := ⟨b, o + k * 6 + 2, none⟩) (by show b < _; omega)).trans hc2
        have e3 := (hw.cell (p := ⟨b, o + k * 6 + 2 + 1, none⟩) (by show b < _; omega)).trans hc3
        have e4 := (hw.cell (p := ⟨b, o + k * 6 + 2 + 2, none⟩) (by show b < _; omega)).trans hc4
        have e5 := (hw.cell (p := ⟨b, o + k * 6 + 2 + 3, none⟩) (by show b < _; omega)).trans hc5
        have HP := hide (hps.keep (hw.mono hB))
        clear hc0 hc1 hc2 hc3 hc4 hc5 hps hq3
        have HT : Hid (blksTot (xs.take (k + 1)) = blksTot (xs.take k) + (xs[k].phis.length + phTot xs[k].phis + xs[k].instrs.length)) := by show _ = _; rw [take_next _ _ hkx, blksTot_snoc]; rfl
        have HL : Hid (blksTot (xs.take (k + 1)) ≤ blksTot xs) := blksTot_take _ _
        have hBr : B ≤ wr.heap.size := by have := hw.size; omega
        generalize xs[k] = X at *
        by_cases hm : r < (X.phis.length + phTot X.phis + X.instrs.length : Nat)
        · have hz := szR_neg hm
          go_wp2_with (go_at_call 136; refine (szBlock_any _ _ _ _ _ _ _ _ _ _ _ X.phis L B _ HP rfl (by omega) (by omega) HQ3 (by omega) (by omega) (by omega)).mono ?_; rintro e w' ⟨rfl, hb1⟩)
          go_ret
          exact ⟨ret_int (szR_neg (by have := hr.out; have := HT.out; have := HL.out; omega)).symm, bnext hw hb1⟩
        · have hz : szR r (X.phis.length + phTot X.phis + X.instrs.length) = r - (X.phis.length + phTot X.phis + X.instrs.length : Nat) := szR_pos (by omega)
          go_wp2_with (go_at_call 136; refine (szBlock_any _ _ _ _ _ _ _ _ _ _ _ X.phis L B _ HP rfl (by omega) (by omega) HQ3 (by omega) (by omega) (by omega)).mono ?_; rintro e w' ⟨rfl, hb1⟩)
          exact ⟨⟨k + 1, by omega, by go_num, ⟨_, rfl, by omega, by omega, by have := hr.out; have := HT.out; show _ = _; omega⟩, bnext hw hb1⟩, by simp [intOf]; omega⟩
      · go_wp2
        go_ret
        have : k = n := by omega
        have h2 := hr.out
        rw [List.take_of_length_le (by have := hx.out; omega)] at h2
        exact ⟨ret_int (by rw [szR_pos (by omega)]; exact h2), hw⟩

set_option maxHeartbeats 400000 in
theorem szFunc_any (v : Int) (a : Option Addr) (n c : Nat) (l : Int) (xs : List Blk) (L B : Nat) (w : World) (ha : Hid (BlksAt w L B a xs)) (hx : Hid (n = xs.length)) (hn : n ≤ 9223372036854775807) (hs : Hid (LenOk xs))
    (h0 : 0 ≤ l) (h1 : l ≤ 1048576) (hB : B ≤ w.heap.size) :
    Calls Tryd.prog 24 #[.agg #[.int .i64 v, .slice a n c], .int .i64 l] w fun e w' => e = .returned (.int .i64 (szR l (n + blksTot xs))) ∧ Below w.heap.size w w' := by
  by_cases h : l < (n + blksTot xs : Nat)
  · have hz := szR_neg h
    go_enter Tryd.func24, Tryd.ntmps24
    go_wp2_with (go_at_call 75; refine (szBlocks_any _ _ _ _ xs L B _ (ha.out.keep ((Below.refl _ _).alloc hB _)) hx (by omega) hs (by omega) (by omega) (by simp; omega)).mono ?_; rintro e w' ⟨rfl, hb1⟩)
    go_ret
    exact ⟨ret_int hz.symm, bnext ((Below.refl _ _).alloc (Nat.le_refl _) _) hb1⟩
  · have hz : szR l (n + blksTot xs) = l - (n + blksTot xs : Nat) := szR_pos (by omega)
    go_enter Tryd.func24, Tryd.ntmps24
    go_wp2_with (go_at_call 75; refine (szBlocks_any _ _ _ _ xs L B _ (ha.out.keep ((Below.refl _ _).alloc hB _)) hx (by omega) hs (by omega) (by omega) (by simp; omega)).mono ?_; rintro e w' ⟨rfl, hb1⟩)
    go_ret
    exact ⟨ret_int hz.symm, bnext ((Below.refl _ _).alloc (Nat.le_refl _) _) hb1⟩
end Go.Proofs.YtlmaodcddbkllaaDoor
