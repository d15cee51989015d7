import Derived.Test.YtdcdgopblbmgoaaDoorW2
import Derived.Test.YtdcdgopblbmgoaaDoorOwn
import Derived.Test.YtdcdgopblbmgoaaDoorMem
namespace Go.Proofs.YtdcdgopblbmgoaaDoor
open Go.RowKit

theorem MBlkAt.apart {w : World} {L B b : Nat} {o o' : Nat} {x : MBlk} (h : MBlkAt w L B b o x) (hb : b < L) (vs : List Value) (hap : o + 5 ≤ o' ∨ o' + vs.length ≤ o) : MBlkAt (w.setCells b o' vs) L B b o x := by
  obtain ⟨ia, ic, h0, h2, h4⟩ := h
  exact ⟨ia, ic, (out_cell (by omega)).trans h0, h2.apart _ (by omega), h4.keepS (same_setCells (Same.refl _ _ _) _ _ (Or.inl hb))⟩

theorem mblk_step {w : World} {L B b t N : Nat} {f : Nat → Value} (hr : w.rowIs b t N f) (hb : b < L) (xs : List MBlk) (k : Nat) (hk : k < xs.length) (hN : xs.length * 5 ≤ N) (old : ∀ j (h : j < xs.length), j < k → MBlkAt w L B b (j * 5) xs[j])
    (ia : Option Addr) (ic : Nat) (hi : InssAt w L B ia xs[k].instrs) :
    ∀ j (h : j < xs.length), j < k + 1 → MBlkAt (w.setCells b (k * 5) [.slice ia xs[k].instrs.length ic, .int .i64 xs[k].term.kind, .int .i64 xs[k].term.a, .int .i64 xs[k].term.to, .int .i64 xs[k].term.els]) L B b (j * 5) xs[j] := fun j h hj => by
  by_cases e : j = k
  · subst e
    have hc := in_cell (w := w) hr (o := j * 5) (vs := [.slice ia xs[j].instrs.length ic, .int .i64 xs[j].term.kind, .int .i64 xs[j].term.a, .int .i64 xs[j].term.to, .int .i64 xs[j].term.els]) (by simp only [List.length_cons, List.length_nil]; omega)
    exact ⟨ia, ic, hc 0 _ rfl, ⟨hc 1 _ rfl, hc 2 _ rfl, hc 3 _ rfl, hc 4 _ rfl⟩, hi.keepS (same_setCells (Same.refl _ _ _) _ _ (Or.inl hb))⟩
  · exact (old j h (by omega)).apart hb _ (by simp only [List.length_cons, List.length_nil]; omega)

set_option maxHeartbeats 1000000 in
theorem toMBlock_any (i : Option Addr) (m ic : Nat) (t0 t1 t2 t3 : Int) (ys : List Ins) (L B : Nat) (w : World) (hb : Hid (InssAt w L B i ys)) (hy : Hid (m = ys.length)) (hm : m ≤ 1048576) (hB : B ≤ w.heap.size) :
    Calls Tryd.prog 130 #[.agg #[.slice i m ic, .int .i64 t0, .int .i64 t1, .int .i64 t2, .int .i64 t3]] w fun e w' => ∃ i' d', e = .returned (.agg #[.slice i' m d', .int .i64 t0, .int .i64 t1, .int .i64 t2, .int .i64 t3]) ∧ Below w.heap.size w w' ∧
      InssAt w' w.heap.size w'.heap.size i' ys ∧ Thaw w.heap.size w' := by
  go_enter Tryd.func130, Tryd.ntmps130
  go_wp2_with fail
  refine (toInstrs_any _ _ _ ys L B _ ?q1 hy hm ?q2).mono ?_
  case q1 => exact hb.out.keep ((((Below.refl _ _).alloc (by omega) _).alloc (by simp; omega) _).alloc (by simp; omega) _)
  case q2 => simp; omega
  rintro e w1 ⟨c', rfl, hb1, hi1, ht1⟩
  have HT1 := hide (((((Thaw.start w).alloc _ _).alloc _ _).alloc _ _).trans hb1 ht1)
  clear ht1
  have b1 := bnext (balloc (balloc (balloc (Below.refl w.heap.size w) _) _) _) hb1
  have hz1 := hb1.size
  simp at hz1
  have hz2 : w.heap.size < w1.heap.size := by omega
  have hz3 : w.heap.size + 1 < w1.heap.size := by omega
  have hz4 : w.heap.size + 1 + 1 < w1.heap.size := by omega
  obtain ⟨hc1, hf1⟩ := bcell hb1
  have HI := hide hi1
  clear hi1
  go_wp2_with fail
  refine (toTerm_any _ _ _ _ _).mono ?_
  rintro e w3 ⟨rfl, hb3, ht3⟩
  have HT3 := hide ((HT1.out.setCell _ _).trans hb3 ht3)
  clear ht3
  have hz9 := hb3.size
  simp only [size_setCell] at hz9
  obtain ⟨hc3, hf3⟩ := bcell hb3
  simp only [size_setCell] at hc3 hf3
  go_wp2
  refine bodyPost_ret (v := .agg #[.slice (some ⟨w.heap.size + 1 + 1 + 1, 0, none⟩) m c', .int .i64 t0, .int .i64 t1, .int .i64 t2, .int .i64 t3]) (by simp [results, Tryd.results130, go_sem, hc1, hc3, hz3]) rfl ⟨_, _, rfl, ?_, ?_, ?_⟩
  · repeat (refine Below.setCell ?_ (by dsimp only; omega) _)
    exact bnext (b1.setCell (p := ⟨w.heap.size + 1 + 1, 0, none⟩) (by dsimp only; omega) _) hb3
  · have h := HI.out
    simp only [World.size_alloc] at h
    refine (InssAt.keepS h (?_ : Same _ _ w1 _)).mono (by omega) (by simp only [size_setCell]; omega)
    repeat (refine Same.setCell ?_ (Or.inl (by dsimp only; omega)) _)
    exact ((Same.refl _ _ _).setCell (Or.inl (by dsimp only; omega)) _).trans (Same.of_below (hb3.mono (by simp only [size_setCell]; omega)))
  · repeat (refine Thaw.setCell ?_ _ _)
    exact HT3.out

theorem Tryd.infoMBlock : (Tryd.prog.info? 126).map (fun i => (i.zero, i.size, i.bytes)) = some (some (.agg #[.slice none 0 0, .int .i64 0, .int .i64 0, .int .i64 0, .int .i64 0]), 5, 56) := by kernel_rfl

set_option maxHeartbeats 1000000 in
theorem toMBlocks_any (a : Option Addr) (n c : Nat) (xs : List MBlk) (L B : Nat) (w : World) (ha : Hid (MBlksAt w L B a xs)) (hx : Hid (n = xs.length)) (hs : Hid (MLen xs)) (hn : n ≤ 1048576) (hB : B ≤ w.heap.size) :
    Calls Tryd.prog 88 #[.slice a n c] w fun e w' => ∃ c', e = .returned (.slice (some ⟨w.heap.size, 0, none⟩) n c') ∧ Below w.heap.size w w' ∧ MBlksAt w' w.heap.size w'.heap.size (some ⟨w.heap.size, 0, none⟩) xs ∧ Thaw w.heap.size w' := by
  have hmk := run_make_rows (P := Tryd.prog) 64 126 _ 5 56 Tryd.underlying64 Tryd.infoMBlock n (by omega) (by omega)
  go_enter Tryd.func88, Tryd.ntmps88
  go_wp2
  go_loopw [4] (fun i wr => ∃ k : Nat, k ≤ n ∧ i = .int .i64 k ∧ Below w.heap.size w wr ∧ w.heap.size < wr.heap.size ∧ Hid (Thaw w.heap.size wr) ∧ Hid (∃ f, wr.rowIs w.heap.size 126 (n * 5) f) ∧ Hid (∀ j (h : j < xs.length), j < k → MBlkAt wr (w.heap.size + 1) wr.heap.size w.heap.size (j * 5) xs[j])) (fun i _ => n - (intOf i).toNat)
  case atStart => exact ⟨0, Nat.zero_le _, rfl, balloc (Below.refl _ _) _, by simp, (Thaw.start _).alloc _ _, ⟨_, rowIs_born _ _ _ _⟩, fun j _ h => absurd h (by omega)⟩
  case round =>
    obtain ⟨k, hk, rfl, hw, hsz, hth, hf, hg⟩ := hrel
    by_cases hlt : k < n
    · have hkx : k < xs.length := by have := hx.out; omega
      obtain ⟨b, o, rfl, ⟨_, hbB⟩, hc⟩ := ha.out k hkx
      obtain ⟨ia, ic, e1, ⟨e2, e3, e4, e5⟩, hi⟩ := hc.keep (hw.mono hB) (by omega)
      have HI := hide hi
      have hq2 := hs.out _ (List.getElem_mem hkx)
      have hBr : B ≤ wr.heap.size := by have := hw.size; omega
      obtain ⟨f, hr⟩ := hf.out
      have HR := hide hr
      clear hc hf hr hi
      generalize hX : xs[k] = X at *
      have HX := hide hX
      clear hX
      go_wp2_with (go_at_call 130; refine (toMBlock_any _ _ _ _ _ _ _ X.instrs L B _ HI rfl hq2 hBr).mono ?_; rintro e w1 ⟨i1, d1, rfl, hb1, hi1, ht1⟩; have HT1 := hide ht1; clear ht1; have hr1 := HR.out.of_block (hb1.block _ HR.out.lt); have g0 := hr1.cell (i := k * 5) (by omega); have g1 := hr1.cell (i := k * 5 + 1) (by omega); have g2 := hr1.cell (i := k * 5 + 2) (by omega); have g3 := hr1.cell (i := k * 5 + 3) (by omega); have g4 := hr1.cell (i := k * 5 + 4) (by omega); have z0 := hr1.frozen (k * 5); have z1 := hr1.frozen (k * 5 + 1); have z2 := hr1.frozen (k * 5 + 2); have z3 := hr1.frozen (k * 5 + 3); have z4 := hr1.frozen (k * 5 + 4); have HR1 := hide hr1; clear hr1; have HI1 := hide hi1; clear hi1)
      have hX := unhide HX
      subst hX
      have hz1 := hb1.size
      have h1 : ∀ j (h : j < xs.length), j < k → MBlkAt w1 (w.heap.size + 1) w1.heap.size w.heap.size (j * 5) xs[j] := fun j h hj => ((hg.out j h hj).keepS (Same.of_below hb1) (hb1.block _ HR.out.lt)).mono (Nat.le_refl _) hz1
      have h2 := mblk_step HR1.out (Nat.lt_succ_self _) xs k hkx (by have := hx.out; omega) h1 i1 d1 (HI1.out.mono (by omega) (Nat.le_refl _))
      have h3 := size_setCells w.heap.size [.slice i1 xs[k].instrs.length d1, .int .i64 xs[k].term.kind, .int .i64 xs[k].term.a, .int .i64 xs[k].term.to, .int .i64 xs[k].term.els] (k * 5) w1
      have h4 := rowIs_setCells [.slice i1 xs[k].instrs.length d1, .int .i64 xs[k].term.kind, .int .i64 xs[k].term.a, .int .i64 xs[k].term.to, .int .i64 xs[k].term.els] (k * 5) _ _ HR1.out
      have h5 := below_setCells _ [.slice i1 xs[k].instrs.length d1, .int .i64 xs[k].term.kind, .int .i64 xs[k].term.a, .int .i64 xs[k].term.to, .int .i64 xs[k].term.els] (k * 5) _ _ (bnext hw hb1) (Nat.le_refl _)
      exact ⟨⟨k + 1, by omega, by go_num, h5, by simp only [size_setCell]; omega, (((((hth.out.trans hb1 HT1.out).setCell _ _).setCell _ _).setCell _ _).setCell _ _).setCell _ _, h4, fun j h hj => (h2 j h hj).mono (Nat.le_refl _) (Nat.le_of_eq h3.symm)⟩, by simp [intOf]; omega⟩
    · go_wp2
      go_ret
      obtain ⟨f, hr⟩ := hf.out
      refine ⟨_, rfl, hw, fun j hj => ⟨w.heap.size, 0, rfl, ⟨Nat.le_refl _, hr.lt⟩, ?_⟩, hth.out⟩
      rw [Nat.zero_add]
      exact (hg.out j hj (by have := hx.out; omega)).mono (by omega) (Nat.le_refl _)

set_option maxHeartbeats 400000 in
theorem toMach_any (v : Int) (a : Option Addr) (n c : Nat) (xs : List MBlk) (L B : Nat) (w : World) (ha : Hid (MBlksAt w L B a xs)) (hx : Hid (n = xs.length)) (hs : Hid (MLen xs)) (hn : n ≤ 1048576) (hB : B ≤ w.heap.size) :
    Calls Tryd.prog 40 #[.agg #[.int .i64 v, .slice a n c]] w fun e w' => ∃ a' c', e = .returned (.agg #[.int .i64 v, .slice a' n c']) ∧ Below w.heap.size w w' ∧ MBlksAt w' w.heap.size w'.heap.size a' xs ∧ Thaw w.heap.size w' := by
  go_enter Tryd.func40, Tryd.ntmps40
  go_wp2_with fail
  refine (toMBlocks_any _ _ _ xs L B _ ?q1 hx hs hn ?q2).mono ?_
  case q1 => exact ha.out.keep ((((Below.refl _ _).alloc (by omega) _).alloc (by simp; omega) _).alloc (by simp; omega) _)
  case q2 => simp; omega
  rintro e w1 ⟨c', rfl, hb1, hi1, ht1⟩
  have HT1 := hide (((((Thaw.start w).alloc _ _).alloc _ _).alloc _ _).trans hb1 ht1)
  clear ht1
  have b1 := bnext (balloc (balloc (balloc (Below.refl w.heap.size w) _) _) _) hb1
  have hz1 := hb1.size
  simp at hz1
  have hz2 : w.heap.size < w1.heap.size := by omega
  have hz3 : w.heap.size + 1 < w1.heap.size := by omega
  have hz4 : w.heap.size + 1 + 1 < w1.heap.size := by omega
  obtain ⟨hc1, hf1⟩ := bcell hb1
  have HI := hide hi1
  clear hi1
  go_wp2
  refine bodyPost_ret (v := .agg #[.int .i64 v, .slice (some ⟨w.heap.size + 1 + 1 + 1, 0, none⟩) n c']) (by simp [results, Tryd.results40, go_sem, hc1]) rfl ⟨_, _, rfl, ?_, ?_, ((HT1.out.setCell _ _).setCell _ _).setCell _ _⟩
  · exact ((b1.setCell (by simp; omega) _).setCell (by simp) _).setCell (by simp) _
  · have h := HI.out
    simp only [World.size_alloc] at h
    exact (h.keepS ((((Same.refl _ _ _).setCell (Or.inl (by simp)) _).setCell (Or.inl (by simp)) _).setCell (Or.inl (by simp)) _)).mono (by omega) (by simp only [size_setCell]; omega)
end Go.Proofs.YtdcdgopblbmgoaaDoor

namespace Go.Proofs.YtdcdgopblbmgoaaDoor

theorem countEq_count (l : List Int) (v : Int) : countEq l v = l.count v := by
  unfold countEq
  rw [List.count, List.countP_eq_length_filter]

theorem cover_to (n : Nat) : ∀ l : List Int, l.length = n → (∀ v : Nat, v < n → (v : Int) ∈ l) → (∀ d ∈ l, 0 ≤ d ∧ d < n) ∧ ∀ v : Nat, v < n → l.count (v : Int) = 1 := by
  induction n with
  | zero =>
    intro l hl _
    have : l = [] := List.eq_nil_of_length_eq_zero hl
    subst this
    exact ⟨fun d hd => (List.not_mem_nil hd).elim, fun v hv => absurd hv (by omega)⟩
  | succ n ih =>
    intro l hl hv
    have hm := hv n (by omega)
    have hlen : (l.erase (n : Int)).length = n := by rw [List.length_erase_of_mem hm]; omega
    have hmem : ∀ v : Nat, v < n → (v : Int) ∈ l.erase (n : Int) := fun v h => (List.mem_erase_of_ne (by omega)).2 (hv v (by omega))
    obtain ⟨h1, h2⟩ := ih _ hlen hmem
    have hp := List.perm_cons_erase hm
    refine ⟨fun d hd => ?_, fun v h => ?_⟩
    · rcases List.mem_cons.1 (hp.mem_iff.1 hd) with rfl | hd
      · omega
      · have := h1 d hd; omega
    · rw [hp.count_eq, List.count_cons]
      by_cases e : v = n
      · subst e
        have : (l.erase (v : Int)).count (v : Int) = 0 := List.count_eq_zero.2 (fun hh => by have := h1 _ hh; omega)
        simp [this]
      · rw [h2 v (by omega)]
        have : ((n : Int) == (v : Int)) = false := by simp; omega
        simp [this]

theorem cover_from (n : Nat) : ∀ l : List Int, (∀ d ∈ l, 0 ≤ d ∧ d < n) → (∀ v : Nat, v < n → l.count (v : Int) = 1) → l.length = n ∧ ∀ v : Nat, v < n → (v : Int) ∈ l := by
  induction n with
  | zero =>
    intro l hl _
    have : l = [] := List.eq_nil_iff_forall_not_mem.2 (fun d hd => by have := hl d hd; omega)
    subst this
    exact ⟨rfl, fun v hv => absurd hv (by omega)⟩
  | succ n ih =>
    intro l hl hc
    have hm : (n : Int) ∈ l := List.count_pos_iff.1 (by rw [hc n (by omega)]; omega)
    have hp := List.perm_cons_erase hm
    have hc0 : (l.erase (n : Int)).count (n : Int) = 0 := by rw [List.count_erase_self, hc n (by omega)]
    have h1 : ∀ d ∈ l.erase (n : Int), 0 ≤ d ∧ d < n := fun d hd => by
      have h := hl d (List.mem_of_mem_erase hd)
      have hne : d ≠ n := fun e => by subst e; exact absurd hd (List.count_eq_zero.1 hc0)
      omega
    have h2 : ∀ v : Nat, v < n → (l.erase (n : Int)).count (v : Int) = 1 := fun v h => by
      rw [List.count_erase_of_ne (by omega)]; exact hc v (by omega)
    obtain ⟨k1, k2⟩ := ih _ h1 h2
    refine ⟨by have := List.length_erase_of_mem hm; have : 0 < l.length := List.length_pos_of_mem hm; omega, fun v h => ?_⟩
    exact List.count_pos_iff.1 (by rw [hc v h]; omega)

/-- All values that the phis of the blocks define. -/
def dstsOk (n : Int) (xs : List Blk) : Bool := xs.all fun x => x.phis.all fun p => fld true p.dst 0 n

theorem all_and {α : Type} (p q : α → Bool) (l : List α) : l.all (fun x => p x && q x) = (l.all p && l.all q) := by
  induction l with
  | nil => rfl
  | cons x l ih => simp only [List.all_cons, ih]; cases p x <;> cases q x <;> cases l.all p <;> simp

theorem phisFrom_split (F : Fn) : ∀ (xs : List Blk) (i : Nat), phisFrom phOkI F xs i = (dstsOk F.values xs && phisFrom phOkS F xs i) := by
  intro xs
  induction xs with
  | nil => intro i; rfl
  | cons x xs ih =>
    intro i
    simp only [phisFrom, dstsOk, List.all_cons, ih]
    have : x.phis.all (phOkI F.values (F.preds ↑i).length) = (x.phis.all (fun p => fld true p.dst 0 F.values) && x.phis.all (phOkS F.values (F.preds ↑i).length)) := all_and _ _ _
    rw [this]
    cases x.phis.all (fun p => fld true p.dst 0 F.values) <;> cases x.phis.all (phOkS F.values (F.preds ↑i).length) <;> simp

theorem defs_range (F : Fn) (hi : instrsOk F = true) : (dstsOk F.values F.blocks = true ↔ ∀ d ∈ blksDefs F.blocks, 0 ≤ d ∧ d < F.values) := by
  unfold dstsOk blksDefs
  simp only [List.all_eq_true, List.mem_flatMap, blkDefs, phDefs, insDefs, List.mem_append, List.mem_map, List.mem_filter, fld, if_true, Bool.and_eq_true, decide_eq_true_eq]
  constructor
  · rintro h d ⟨x, hx, ⟨p, hp, rfl⟩ | ⟨y, ⟨hy, hd⟩, rfl⟩⟩
    · exact h x hx p hp
    · have := List.all_eq_true.1 (List.all_eq_true.1 hi x hx) y hy
      simp only [insOk, hd, fld, if_true, Bool.and_eq_true, decide_eq_true_eq] at this
      omega
  · intro h x hx p hp
    exact h _ ⟨x, hx, Or.inl ⟨p, hp, rfl⟩⟩

theorem once_cover (F : Fn) (h0 : 0 ≤ F.values) (hi : instrsOk F = true) : (dstsOk F.values F.blocks && onceOk F) = coverOk F := by
  rw [Bool.eq_iff_iff]
  obtain ⟨n, hn⟩ := Int.eq_ofNat_of_zero_le h0
  rw [Bool.and_eq_true, defs_range F hi]
  unfold onceOk coverOk
  rw [hn]
  simp only [List.all_eq_true, List.mem_range, Int.toNat_natCast, beq_iff_eq, Bool.and_eq_true, decide_eq_true_eq, List.contains_iff_mem, countEq_count]
  constructor
  · rintro ⟨h1, h2⟩
    obtain ⟨k1, k2⟩ := cover_from n _ h1 h2
    exact ⟨by omega, k2⟩
  · rintro ⟨h1, h2⟩
    exact cover_to n _ (by omega) h2

theorem valid_same (F : Fn) : validI F = validS F := by
  unfold validI validS phisOkI phisOkS
  rw [phisFrom_split]
  cases hs : sizeOk F
  · simp
  cases hi : instrsOk F
  · simp
  cases ht : termsOk F
  · simp
  have h0 : 0 ≤ F.values := by
    simp only [sizeOk, Bool.and_eq_true, decide_eq_true_eq] at hs
    omega
  have := once_cover F h0 hi
  rw [← this]
  cases dstsOk F.values F.blocks <;> cases phisFrom phOkS F F.blocks 0 <;> simp

end Go.Proofs.YtdcdgopblbmgoaaDoor
