import Derived.Test.YtdcdgopblbmgoaaDoorMem
import Derived.Deep.OwnRows
import Derived.Deep.MidRow
namespace Go.Proofs.YtdcdgopblbmgoaaDoor

theorem countEq_count (l : List Int) (v : Int) : countEq l v = l.count v := by
  unfold countEq
  rw [List.count, List.countP_eq_length_filter]

theorem cover_to (n : Nat) : ∀ l : List Int, l.length = n → (∀ v : Nat, v < n → (v : Int) ∈ l) → (∀ d ∈ l, 0 ≤ d ∧ d < n) ∧ ∀ v : Nat, v < n → l.count (v : Int) = 1 := by
  induction n with
  | zero =>
    intro l hl _
    have : l = [] := List.eq_nil_of_length_eq_zero hl
    subst this
    exact ⟨fun d hd => (List.not_mem_nil hd).elim, fun v hv => absurd hv (by omega)⟩
  | succ n ih =>
    intro l hl hv
    have hm := hv n (by omega)
    have hlen : (l.erase (n : Int)).length = n := by rw [List.length_erase_of_mem hm]; omega
    have hmem : ∀ v : Nat, v < n → (v : Int) ∈ l.erase (n : Int) := fun v h => (List.mem_erase_of_ne (by omega)).2 (hv v (by omega))
    obtain ⟨h1, h2⟩ := ih _ hlen hmem
    have hp := List.perm_cons_erase hm
    refine ⟨fun d hd => ?_, fun v h => ?_⟩
    · rcases List.mem_cons.1 (hp.mem_iff.1 hd) with rfl | hd
      · omega
      · have := h1 d hd; omega
    · rw [hp.count_eq, List.count_cons]
      by_cases e : v = n
      · subst e
        have : (l.erase (v : Int)).count (v : Int) = 0 := List.count_eq_zero.2 (fun hh => by have := h1 _ hh; omega)
        simp [this]
      · rw [h2 v (by omega)]
        have : ((n : Int) == (v : Int)) = false := by simp; omega
        simp [this]

theorem cover_from (n : Nat) : ∀ l : List Int, (∀ d ∈ l, 0 ≤ d ∧ d < n) → (∀ v : Nat, v < n → l.count (v : Int) = 1) → l.length = n ∧ ∀ v : Nat, v < n → (v : Int) ∈ l := by
  induction n with
  | zero =>
    intro l hl _
    have : l = [] := List.eq_nil_iff_forall_not_mem.2 (fun d hd => by have := hl d hd; omega)
    subst this
    exact ⟨rfl, fun v hv => absurd hv (by omega)⟩
  | succ n ih =>
    intro l hl hc
    have hm : (n : Int) ∈ l := List.count_pos_iff.1 (by rw [hc n (by omega)]; omega)
    have hp := List.perm_cons_erase hm
    have hc0 : (l.erase (n : Int)).count (n : Int) = 0 := by rw [List.count_erase_self, hc n (by omega)]
    have h1 : ∀ d ∈ l.erase (n : Int), 0 ≤ d ∧ d < n := fun d hd => by
      have h := hl d (List.mem_of_mem_erase hd)
      have hne : d ≠ n := fun e => by subst e; exact absurd hd (List.count_eq_zero.1 hc0)
      omega
    have h2 : ∀ v : Nat, v < n → (l.erase (n : Int)).count (v : Int) = 1 := fun v h => by
      rw [List.count_erase_of_ne (by omega)]; exact hc v (by omega)
    obtain ⟨k1, k2⟩ := ih _ h1 h2
    refine ⟨by have := List.length_erase_of_mem hm; have : 0 < l.length := List.length_pos_of_mem hm; omega, fun v h => ?_⟩
    exact List.count_pos_iff.1 (by rw [hc v h]; omega)

/-- All values that the phis of the blocks define. -/
def dstsOk (n : Int) (xs : List Blk) : Bool := xs.all fun x => x.phis.all fun p => fld true p.dst 0 n

theorem all_and {α : Type} (p q : α → Bool) (l : List α) : l.all (fun x => p x && q x) = (l.all p && l.all q) := by
  induction l with
  | nil => rfl
  | cons x l ih => simp only [List.all_cons, ih]; cases p x <;> cases q x <;> cases l.all p <;> simp

theorem phisFrom_split (F : Fn) : ∀ (xs : List Blk) (i : Nat), phisFrom phOkI F xs i = (dstsOk F.values xs && phisFrom phOkS F xs i) := by
  intro xs
  induction xs with
  | nil => intro i; rfl
  | cons x xs ih =>
    intro i
    simp only [phisFrom, dstsOk, List.all_cons, ih]
    have : x.phis.all (phOkI F.values (F.preds ↑i).length) = (x.phis.all (fun p => fld true p.dst 0 F.values) && x.phis.all (phOkS F.values (F.preds ↑i).length)) := all_and _ _ _
    rw [this]
    cases x.phis.all (fun p => fld true p.dst 0 F.values) <;> cases x.phis.all (phOkS F.values (F.preds ↑i).length) <;> simp

theorem defs_range (F : Fn) (hi : instrsOk F = true) : (dstsOk F.values F.blocks = true ↔ ∀ d ∈ blksDefs F.blocks, 0 ≤ d ∧ d < F.values) := by
  unfold dstsOk blksDefs
  simp only [List.all_eq_true, List.mem_flatMap, blkDefs, phDefs, insDefs, List.mem_append, List.mem_map, List.mem_filter, fld, if_true, Bool.and_eq_true, decide_eq_true_eq]
  constructor
  · rintro h d ⟨x, hx, ⟨p, hp, rfl⟩ | ⟨y, ⟨hy, hd⟩, rfl⟩⟩
    · exact h x hx p hp
    · have := List.all_eq_true.1 (List.all_eq_true.1 hi x hx) y hy
      simp only [insOk, hd, fld, if_true, Bool.and_eq_true, decide_eq_true_eq] at this
      omega
  · intro h x hx p hp
    exact h _ ⟨x, hx, Or.inl ⟨p, hp, rfl⟩⟩

theorem once_cover (F : Fn) (h0 : 0 ≤ F.values) (hi : instrsOk F = true) : (dstsOk F.values F.blocks && onceOk F) = coverOk F := by
  rw [Bool.eq_iff_iff]
  obtain ⟨n, hn⟩ := Int.eq_ofNat_of_zero_le h0
  rw [Bool.and_eq_true, defs_range F hi]
  unfold onceOk coverOk
  rw [hn]
  simp only [List.all_eq_true, List.mem_range, Int.toNat_natCast, beq_iff_eq, Bool.and_eq_true, decide_eq_true_eq, List.contains_iff_mem, countEq_count]
  constructor
  · rintro ⟨h1, h2⟩
    obtain ⟨k1, k2⟩ := cover_from n _ h1 h2
    exact ⟨by omega, k2⟩
  · rintro ⟨h1, h2⟩
    exact cover_to n _ (by omega) h2

theorem valid_same (F : Fn) : validI F = validS F := by
  unfold validI validS phisOkI phisOkS
  rw [phisFrom_split]
  cases hs : sizeOk F
  · simp
  cases hi : instrsOk F
  · simp
  cases ht : termsOk F
  · simp
  have h0 : 0 ≤ F.values := by
    simp only [sizeOk, Bool.and_eq_true, decide_eq_true_eq] at hs
    omega
  have := once_cover F h0 hi
  rw [← this]
  cases dstsOk F.values F.blocks <;> cases phisFrom phOkS F F.blocks 0 <;> simp

end Go.Proofs.YtdcdgopblbmgoaaDoor

/-
  Rows that a call makes and fills one element a round. Imports nothing of the program.
-/
namespace Go.Proofs.YtdcdgopblbmgoaaDoor
open Go.RowKit
variable {w w1 : World} {L B b t N : Nat} {f : Nat → Value}

theorem heap_setCells (b : Nat) : ∀ (vs : List Value) (o : Nat) (w : World) (k : Nat), k ≠ b → (w.setCells b o vs).heap[k]? = w.heap[k]?
  | [], _, _, _, _ => rfl
  | v :: r, o, w, k, h => by rw [World.setCells, heap_setCells b r _ _ _ h, Below.heap_setCell _ _ _ _ h]
theorem size_setCells (b : Nat) : ∀ (vs : List Value) (o : Nat) (w : World), (w.setCells b o vs).heap.size = w.heap.size
  | [], _, _ => rfl
  | v :: r, o, w => by rw [World.setCells, size_setCells b r]; simp [World.setCell]
theorem below_setCells (b : Nat) : ∀ (vs : List Value) (o : Nat) (w w1 : World), Below B w w1 → B ≤ b → Below B w (w1.setCells b o vs)
  | [], _, _, _, h, _ => h
  | v :: r, o, w, w1, h, hb => by rw [World.setCells]; exact below_setCells b r _ _ _ (h.setCell hb v) hb
theorem rowIs_setCells : ∀ (vs : List Value) (o : Nat) (w : World) (f : Nat → Value), w.rowIs b t N f → ∃ g, (w.setCells b o vs).rowIs b t N g
  | [], _, _, f, h => ⟨f, h⟩
  | v :: r, o, w, _, h => by rw [World.setCells]; exact rowIs_setCells r _ _ _ (h.set o v)
theorem there_of_row (hr : w.rowIs b t N f) {o m : Nat} (h : o + m ≤ N) : w.there b o m := fun j hj => ⟨by rw [hr.cell (by omega)]; rfl, hr.frozen _⟩
theorem same_setCells (h : Same L B w w1) (vs : List Value) (o : Nat) (hb : b < L ∨ B ≤ b) : Same L B w (w1.setCells b o vs) := fun k h1 h2 => by
  rw [heap_setCells _ _ _ _ _ (by omega)]; exact h k h1 h2
theorem Same.refl (L B : Nat) (w : World) : Same L B w w := fun _ _ _ => rfl

theorem Same.setCell (h : Same L B w w1) {p : Addr} (hp : p.block < L ∨ B ≤ p.block) (v : Value) : Same L B w (w1.setCell p v) := fun k h1 h2 => by
  rw [Below.heap_setCell _ _ _ _ (by omega)]; exact h k h1 h2
theorem size_setCell (w : World) (p : Addr) (v : Value) : (w.setCell p v).heap.size = w.heap.size := by simp [World.setCell]
theorem rowIs_same (hr : w.rowIs b t N f) (h : Below B w w1) (hb : b < B) : w1.rowIs b t N f := hr.of_block (h.block b hb)

theorem insAt_range {o : Nat} {x : Ins} : InsAt w b o x ↔ w.rangeAt b o x.cells := by
  constructor
  · rintro ⟨h0, h1, h2, h3, h4⟩ j v hv
    match j, hv with
    | 0, hv => simp [Ins.cells] at hv; subst hv; exact h0
    | 1, hv => simp [Ins.cells] at hv; subst hv; exact h1
    | 2, hv => simp [Ins.cells] at hv; subst hv; exact h2
    | 3, hv => simp [Ins.cells] at hv; subst hv; exact h3
    | 4, hv => simp [Ins.cells] at hv; subst hv; exact h4
    | n + 5, hv => simp [Ins.cells] at hv
  · intro h
    exact ⟨h 0 _ rfl, h 1 _ rfl, h 2 _ rfl, h 3 _ rfl, h 4 _ rfl⟩

theorem InsAt.apart {o o' : Nat} {x : Ins} (h : InsAt w b o x) (vs : List Value) (hap : o + 5 ≤ o' ∨ o' + vs.length ≤ o) : InsAt (w.setCells b o' vs) b o x :=
  insAt_range.2 (World.rangeAt_setCells_apart (insAt_range.1 h) b o' vs (by simp only [Ins.cells, List.length_cons, List.length_nil]; omega))

theorem out_cell {o o' : Nat} {vs : List Value} (hap : o < o' ∨ o' + vs.length ≤ o) : (w.setCells b o' vs).cell? ⟨b, o, none⟩ = w.cell? ⟨b, o, none⟩ :=
  World.cell?_setCells_out b vs o' w ⟨b, o, none⟩ (fun _ _ => hap)

theorem PhAt.apart {o o' : Nat} {x : Ph} (h : PhAt w L B b o x) (hb : b < L) (vs : List Value) (hap : o + 2 ≤ o' ∨ o' + vs.length ≤ o) : PhAt (w.setCells b o' vs) L B b o x := by
  obtain ⟨a, c, h0, h1, h2⟩ := h
  exact ⟨a, c, (out_cell (by omega)).trans h0, (out_cell (by omega)).trans h1, h2.keepS (same_setCells (Same.refl _ _ _) _ _ (Or.inl hb))⟩

theorem TerAt.apart {o o' : Nat} {x : Ter} (h : TerAt w b o x) (vs : List Value) (hap : o + 4 ≤ o' ∨ o' + vs.length ≤ o) : TerAt (w.setCells b o' vs) b o x := by
  obtain ⟨h0, h1, h2, h3⟩ := h
  exact ⟨(out_cell (by omega)).trans h0, (out_cell (by omega)).trans h1, (out_cell (by omega)).trans h2, (out_cell (by omega)).trans h3⟩

theorem BlkAt.apart {o o' : Nat} {x : Blk} (h : BlkAt w L B b o x) (hb : b < L) (vs : List Value) (hap : o + 6 ≤ o' ∨ o' + vs.length ≤ o) : BlkAt (w.setCells b o' vs) L B b o x := by
  obtain ⟨pa, pc, ia, ic, h0, h1, h2, h3, h4⟩ := h
  exact ⟨pa, pc, ia, ic, (out_cell (by omega)).trans h0, (out_cell (by omega)).trans h1, h2.apart _ (by omega), h3.keepS (same_setCells (Same.refl _ _ _) _ _ (Or.inl hb)), h4.keepS (same_setCells (Same.refl _ _ _) _ _ (Or.inl hb))⟩

theorem in_cell (hr : w.rowIs b t N f) {o : Nat} {vs : List Value} (h : o + vs.length ≤ N) (j : Nat) (v : Value) (hv : vs[j]? = some v) : (w.setCells b o vs).cell? ⟨b, o + j, none⟩ = some v :=
  World.rangeAt_setCells_same w b o vs (there_of_row hr h) j v hv

theorem ins_step (hr : w.rowIs b t N f) (xs : List Ins) (k : Nat) (hk : k < xs.length) (hN : xs.length * 5 ≤ N) (old : ∀ j (h : j < xs.length), j < k → InsAt w b (j * 5) xs[j]) :
    ∀ j (h : j < xs.length), j < k + 1 → InsAt (w.setCells b (k * 5) xs[k].cells) b (j * 5) xs[j] := fun j h hj => by
  by_cases e : j = k
  · subst e
    exact insAt_range.2 (World.rangeAt_setCells_same w b _ _ (there_of_row hr (by simp only [Ins.cells, List.length_cons, List.length_nil]; omega)))
  · exact (old j h (by omega)).apart _ (by omega)

theorem ph_step (hr : w.rowIs b t N f) (hb : b < L) (xs : List Ph) (k : Nat) (hk : k < xs.length) (hN : xs.length * 2 ≤ N) (old : ∀ j (h : j < xs.length), j < k → PhAt w L B b (j * 2) xs[j])
    (a : Option Addr) (c : Nat) (hi : IntsAt w L B a xs[k].args) :
    ∀ j (h : j < xs.length), j < k + 1 → PhAt (w.setCells b (k * 2) [.int .i64 xs[k].dst, .slice a xs[k].args.length c]) L B b (j * 2) xs[j] := fun j h hj => by
  by_cases e : j = k
  · subst e
    exact ⟨a, c, in_cell hr (by simp only [List.length_cons, List.length_nil]; omega) 0 _ rfl, in_cell hr (by simp only [List.length_cons, List.length_nil]; omega) 1 _ rfl, hi.keepS (same_setCells (Same.refl _ _ _) _ _ (Or.inl hb))⟩
  · exact (old j h (by omega)).apart hb _ (by simp only [List.length_cons, List.length_nil]; omega)

theorem blk_step (hr : w.rowIs b t N f) (hb : b < L) (xs : List Blk) (k : Nat) (hk : k < xs.length) (hN : xs.length * 6 ≤ N) (old : ∀ j (h : j < xs.length), j < k → BlkAt w L B b (j * 6) xs[j])
    (pa ia : Option Addr) (pc ic : Nat) (hp : PhsAt w L B pa xs[k].phis) (hi : InssAt w L B ia xs[k].instrs) :
    ∀ j (h : j < xs.length), j < k + 1 → BlkAt (w.setCells b (k * 6) [.slice pa xs[k].phis.length pc, .slice ia xs[k].instrs.length ic, .int .i64 xs[k].term.kind, .int .i64 xs[k].term.a, .int .i64 xs[k].term.to, .int .i64 xs[k].term.els]) L B b (j * 6) xs[j] := fun j h hj => by
  by_cases e : j = k
  · subst e
    have hc := in_cell (w := w) hr (o := j * 6) (vs := [.slice pa xs[j].phis.length pc, .slice ia xs[j].instrs.length ic, .int .i64 xs[j].term.kind, .int .i64 xs[j].term.a, .int .i64 xs[j].term.to, .int .i64 xs[j].term.els]) (by simp only [List.length_cons, List.length_nil]; omega)
    exact ⟨pa, pc, ia, ic, hc 0 _ rfl, hc 1 _ rfl, ⟨hc 2 _ rfl, hc 3 _ rfl, hc 4 _ rfl, hc 5 _ rfl⟩, hp.keepS (same_setCells (Same.refl _ _ _) _ _ (Or.inl hb)), hi.keepS (same_setCells (Same.refl _ _ _) _ _ (Or.inl hb))⟩
  · exact (old j h (by omega)).apart hb _ (by simp only [List.length_cons, List.length_nil]; omega)

end Go.Proofs.YtdcdgopblbmgoaaDoor
