import Derived.Test.YtdcdgopblbmgoaaDoorMem
import Derived.Deep.OwnRows
import Derived.Deep.MidRow
import Derived.Test.YtdcdgopblbmgoaaDoorW2
/-
  Rows that a call makes and fills one element a round. Imports nothing of the program.
-/
namespace Go.Proofs.YtdcdgopblbmgoaaDoor
open Go.RowKit
variable {w w1 : World} {L B b t N : Nat} {f : Nat → Value}

theorem heap_setCells (b : Nat) : ∀ (vs : List Value) (o : Nat) (w : World) (k : Nat), k ≠ b → (w.setCells b o vs).heap[k]? = w.heap[k]?
  | [], _, _, _, _ => rfl
  | v :: r, o, w, k, h => by rw [World.setCells, heap_setCells b r _ _ _ h, Below.heap_setCell _ _ _ _ h]
theorem size_setCells (b : Nat) : ∀ (vs : List Value) (o : Nat) (w : World), (w.setCells b o vs).heap.size = w.heap.size
  | [], _, _ => rfl
  | v :: r, o, w => by rw [World.setCells, size_setCells b r]; simp [World.setCell]
theorem below_setCells (b : Nat) : ∀ (vs : List Value) (o : Nat) (w w1 : World), Below B w w1 → B ≤ b → Below B w (w1.setCells b o vs)
  | [], _, _, _, h, _ => h
  | v :: r, o, w, w1, h, hb => by rw [World.setCells]; exact below_setCells b r _ _ _ (h.setCell hb v) hb
theorem rowIs_setCells : ∀ (vs : List Value) (o : Nat) (w : World) (f : Nat → Value), w.rowIs b t N f → ∃ g, (w.setCells b o vs).rowIs b t N g
  | [], _, _, f, h => ⟨f, h⟩
  | v :: r, o, w, _, h => by rw [World.setCells]; exact rowIs_setCells r _ _ _ (h.set o v)
theorem there_of_row (hr : w.rowIs b t N f) {o m : Nat} (h : o + m ≤ N) : w.there b o m := fun j hj => ⟨by rw [hr.cell (by omega)]; rfl, hr.frozen _⟩
theorem same_setCells (h : Same L B w w1) (vs : List Value) (o : Nat) (hb : b < L ∨ B ≤ b) : Same L B w (w1.setCells b o vs) := fun k h1 h2 => by
  rw [heap_setCells _ _ _ _ _ (by omega)]; exact h k h1 h2
theorem Same.refl (L B : Nat) (w : World) : Same L B w w := fun _ _ _ => rfl

theorem Same.setCell (h : Same L B w w1) {p : Addr} (hp : p.block < L ∨ B ≤ p.block) (v : Value) : Same L B w (w1.setCell p v) := fun k h1 h2 => by
  rw [Below.heap_setCell _ _ _ _ (by omega)]; exact h k h1 h2
theorem size_setCell (w : World) (p : Addr) (v : Value) : (w.setCell p v).heap.size = w.heap.size := by simp [World.setCell]
theorem rowIs_same (hr : w.rowIs b t N f) (h : Below B w w1) (hb : b < B) : w1.rowIs b t N f := hr.of_block (h.block b hb)

theorem insAt_range {o : Nat} {x : Ins} : InsAt w b o x ↔ w.rangeAt b o x.cells := by
  constructor
  · rintro ⟨h0, h1, h2, h3, h4⟩ j v hv
    match j, hv with
    | 0, hv => simp [Ins.cells] at hv; subst hv; exact h0
    | 1, hv => simp [Ins.cells] at hv; subst hv; exact h1
    | 2, hv => simp [Ins.cells] at hv; subst hv; exact h2
    | 3, hv => simp [Ins.cells] at hv; subst hv; exact h3
    | 4, hv => simp [Ins.cells] at hv; subst hv; exact h4
    | n + 5, hv => simp [Ins.cells] at hv
  · intro h
    exact ⟨h 0 _ rfl, h 1 _ rfl, h 2 _ rfl, h 3 _ rfl, h 4 _ rfl⟩

theorem InsAt.apart {o o' : Nat} {x : Ins} (h : InsAt w b o x) (vs : List Value) (hap : o + 5 ≤ o' ∨ o' + vs.length ≤ o) : InsAt (w.setCells b o' vs) b o x :=
  insAt_range.2 (World.rangeAt_setCells_apart (insAt_range.1 h) b o' vs (by simp only [Ins.cells, List.length_cons, List.length_nil]; omega))

theorem out_cell {o o' : Nat} {vs : List Value} (hap : o < o' ∨ o' + vs.length ≤ o) : (w.setCells b o' vs).cell? ⟨b, o, none⟩ = w.cell? ⟨b, o, none⟩ :=
  World.cell?_setCells_out b vs o' w ⟨b, o, none⟩ (fun _ _ => hap)

theorem PhAt.apart {o o' : Nat} {x : Ph} (h : PhAt w L B b o x) (hb : b < L) (vs : List Value) (hap : o + 2 ≤ o' ∨ o' + vs.length ≤ o) : PhAt (w.setCells b o' vs) L B b o x := by
  obtain ⟨a, c, h0, h1, h2⟩ := h
  exact ⟨a, c, (out_cell (by omega)).trans h0, (out_cell (by omega)).trans h1, h2.keepS (same_setCells (Same.refl _ _ _) _ _ (Or.inl hb))⟩

theorem TerAt.apart {o o' : Nat} {x : Ter} (h : TerAt w b o x) (vs : List Value) (hap : o + 4 ≤ o' ∨ o' + vs.length ≤ o) : TerAt (w.setCells b o' vs) b o x := by
  obtain ⟨h0, h1, h2, h3⟩ := h
  exact ⟨(out_cell (by omega)).trans h0, (out_cell (by omega)).trans h1, (out_cell (by omega)).trans h2, (out_cell (by omega)).trans h3⟩

theorem BlkAt.apart {o o' : Nat} {x : Blk} (h : BlkAt w L B b o x) (hb : b < L) (vs : List Value) (hap : o + 6 ≤ o' ∨ o' + vs.length ≤ o) : BlkAt (w.setCells b o' vs) L B b o x := by
  obtain ⟨pa, pc, ia, ic, h0, h1, h2, h3, h4⟩ := h
  exact ⟨pa, pc, ia, ic, (out_cell (by omega)).trans h0, (out_cell (by omega)).trans h1, h2.apart _ (by omega), h3.keepS (same_setCells (Same.refl _ _ _) _ _ (Or.inl hb)), h4.keepS (same_setCells (Same.refl _ _ _) _ _ (Or.inl hb))⟩

theorem in_cell (hr : w.rowIs b t N f) {o : Nat} {vs : List Value} (h : o + vs.length ≤ N) (j : Nat) (v : Value) (hv : vs[j]? = some v) : (w.setCells b o vs).cell? ⟨b, o + j, none⟩ = some v :=
  World.rangeAt_setCells_same w b o vs (there_of_row hr h) j v hv

theorem ins_step (hr : w.rowIs b t N f) (xs : List Ins) (k : Nat) (hk : k < xs.length) (hN : xs.length * 5 ≤ N) (old : ∀ j (h : j < xs.length), j < k → InsAt w b (j * 5) xs[j]) :
    ∀ j (h : j < xs.length), j < k + 1 → InsAt (w.setCells b (k * 5) xs[k].cells) b (j * 5) xs[j] := fun j h hj => by
  by_cases e : j = k
  · subst e
    exact insAt_range.2 (World.rangeAt_setCells_same w b _ _ (there_of_row hr (by simp only [Ins.cells, List.length_cons, List.length_nil]; omega)))
  · exact (old j h (by omega)).apart _ (by omega)

theorem ph_step (hr : w.rowIs b t N f) (hb : b < L) (xs : List Ph) (k : Nat) (hk : k < xs.length) (hN : xs.length * 2 ≤ N) (old : ∀ j (h : j < xs.length), j < k → PhAt w L B b (j * 2) xs[j])
    (a : Option Addr) (c : Nat) (hi : IntsAt w L B a xs[k].args) :
    ∀ j (h : j < xs.length), j < k + 1 → PhAt (w.setCells b (k * 2) [.int .i64 xs[k].dst, .slice a xs[k].args.length c]) L B b (j * 2) xs[j] := fun j h hj => by
  by_cases e : j = k
  · subst e
    exact ⟨a, c, in_cell hr (by simp only [List.length_cons, List.length_nil]; omega) 0 _ rfl, in_cell hr (by simp only [List.length_cons, List.length_nil]; omega) 1 _ rfl, hi.keepS (same_setCells (Same.refl _ _ _) _ _ (Or.inl hb))⟩
  · exact (old j h (by omega)).apart hb _ (by simp only [List.length_cons, List.length_nil]; omega)

theorem blk_step (hr : w.rowIs b t N f) (hb : b < L) (xs : List Blk) (k : Nat) (hk : k < xs.length) (hN : xs.length * 6 ≤ N) (old : ∀ j (h : j < xs.length), j < k → BlkAt w L B b (j * 6) xs[j])
    (pa ia : Option Addr) (pc ic : Nat) (hp : PhsAt w L B pa xs[k].phis) (hi : InssAt w L B ia xs[k].instrs) :
    ∀ j (h : j < xs.length), j < k + 1 → BlkAt (w.setCells b (k * 6) [.slice pa xs[k].phis.length pc, .slice ia xs[k].instrs.length ic, .int .i64 xs[k].term.kind, .int .i64 xs[k].term.a, .int .i64 xs[k].term.to, .int .i64 xs[k].term.els]) L B b (j * 6) xs[j] := fun j h hj => by
  by_cases e : j = k
  · subst e
    have hc := in_cell (w := w) hr (o := j * 6) (vs := [.slice pa xs[j].phis.length pc, .slice ia xs[j].instrs.length ic, .int .i64 xs[j].term.kind, .int .i64 xs[j].term.a, .int .i64 xs[j].term.to, .int .i64 xs[j].term.els]) (by simp only [List.length_cons, List.length_nil]; omega)
    exact ⟨pa, pc, ia, ic, hc 0 _ rfl, hc 1 _ rfl, ⟨hc 2 _ rfl, hc 3 _ rfl, hc 4 _ rfl, hc 5 _ rfl⟩, hp.keepS (same_setCells (Same.refl _ _ _) _ _ (Or.inl hb)), hi.keepS (same_setCells (Same.refl _ _ _) _ _ (Or.inl hb))⟩
  · exact (old j h (by omega)).apart hb _ (by simp only [List.length_cons, List.length_nil]; omega)

end Go.Proofs.YtdcdgopblbmgoaaDoor

namespace Go.Proofs.YtdcdgopblbmgoaaDoor
open Go.RowKit

theorem Tryd.info2 : (Tryd.prog.info? 2).map (fun i => (i.zero, i.size, i.bytes)) = some (some (.int .i64 0), 1, 8) := by kernel_rfl

set_option maxHeartbeats 400000 in
theorem toInts_any (a : Option Addr) (n c : Nat) (xs : List Int) (L B : Nat) (w : World) (ha : Hid (IntsAt w L B a xs)) (hx : Hid (n = xs.length)) (hn : n ≤ 1048576) (hB : B ≤ w.heap.size) :
    Calls Tryd.prog 22 #[.slice a n c] w fun e w' => ∃ c', e = .returned (.slice (some ⟨w.heap.size, 0, none⟩) n c') ∧ Below w.heap.size w w' ∧ IntsAt w' w.heap.size w'.heap.size (some ⟨w.heap.size, 0, none⟩) xs ∧ Thaw w.heap.size w' := by
  have hmk := run_make_row' (P := Tryd.prog) 38 2 (.int .i64 0) 8 Tryd.underlying38 Tryd.info2 rfl .i64 .i64 n (by omega) (by omega)
  go_enter Tryd.func22, Tryd.ntmps22
  go_wp2
  go_loopw [4] (fun i wr => ∃ k : Nat, k ≤ n ∧ i = .int .i64 k ∧ Below w.heap.size w wr ∧ Hid (Thaw w.heap.size wr) ∧ Hid (∃ f, wr.rowIs w.heap.size 2 n f ∧ ∀ j (h : j < xs.length), j < k → f j = .int .i64 xs[j])) (fun i _ => n - (intOf i).toNat)
  case atStart => exact ⟨0, Nat.zero_le _, rfl, balloc (Below.refl _ _) _, (Thaw.start _).alloc _ _, ⟨_, World.rowIs_made _ _ _ _, fun j _ h => absurd h (by omega)⟩⟩
  case round =>
    obtain ⟨k, hk, rfl, hw, hth, hf⟩ := hrel
    by_cases hlt : k < n
    · have hkx : k < xs.length := by have := hx.out; omega
      obtain ⟨b, o, rfl, ⟨_, hbB⟩, hc⟩ := ha.out k hkx
      have e1 := (hw.cell (p := ⟨b, o + k, none⟩) (by show b < _; omega)).trans hc
      obtain ⟨f, hr, hff⟩ := hf.out
      have e2 := hr.cell hlt
      have e3 := hr.frozen k
      have HF := hide hff
      have HR := hide hr
      clear hc hf hff hr
      go_wp2
      refine ⟨⟨k + 1, by omega, by go_num, hw.setCell (Nat.le_refl _) _, hth.out.setCell _ _, ⟨_, HR.out.set k _, fun j hj hjk => ?_⟩⟩, by simp [intOf]; omega⟩
      by_cases e : j = k
      · subst e; simp
      · simp only [e, if_false]; exact HF.out j hj (by omega)
    · go_wp2
      go_ret
      obtain ⟨f, hr, hff⟩ := hf.out
      refine ⟨_, rfl, hw, fun j hj => ⟨w.heap.size, 0, rfl, ⟨Nat.le_refl _, hr.lt⟩, ?_⟩, hth.out⟩
      rw [Nat.zero_add, hr.cell (by have := hx.out; omega), hff j hj (by have := hx.out; omega)]

set_option maxHeartbeats 400000 in
theorem toInstr_any (a b c d f : Int) (w : World) :
    Calls Tryd.prog 158 #[.agg #[.int .i64 a, .int .i64 b, .int .i64 c, .int .i64 d, .int .i64 f]] w fun e w' => e = .returned (.agg #[.int .i64 a, .int .i64 b, .int .i64 c, .int .i64 d, .int .i64 f]) ∧ Below w.heap.size w w' ∧ Thaw w.heap.size w' := by
  go_enter Tryd.func158, Tryd.ntmps158
  go_wp2
  exact bodyPost_ret (v := .agg #[.int .i64 a, .int .i64 b, .int .i64 c, .int .i64 d, .int .i64 f]) (by simp [results, Tryd.results158, go_sem]) rfl ⟨rfl, balloc (balloc (balloc (Below.refl _ _) _) _) _, (((Thaw.start _).alloc _ _).alloc _ _).alloc _ _⟩

set_option maxHeartbeats 400000 in
theorem toTerm_any (a b c d : Int) (w : World) :
    Calls Tryd.prog 142 #[.agg #[.int .i64 a, .int .i64 b, .int .i64 c, .int .i64 d]] w fun e w' => e = .returned (.agg #[.int .i64 a, .int .i64 b, .int .i64 c, .int .i64 d]) ∧ Below w.heap.size w w' ∧ Thaw w.heap.size w' := by
  go_enter Tryd.func142, Tryd.ntmps142
  go_wp2
  exact bodyPost_ret (v := .agg #[.int .i64 a, .int .i64 b, .int .i64 c, .int .i64 d]) (by simp [results, Tryd.results142, go_sem]) rfl ⟨rfl, balloc (balloc (balloc (Below.refl _ _) _) _) _, (((Thaw.start _).alloc _ _).alloc _ _).alloc _ _⟩

theorem run_make_rows {P : Program} (t e : TypeId) (z : Value) (size bytes : Nat) (ht : P.underlying t = some (.slice e)) (hinfo : (P.info? e).map (fun i => (i.zero, i.size, i.bytes)) = some (some z, size, bytes))
    (n : Nat) (hbytes : bytes * n ≤ 281474976710656) (h63 : n ≤ 9223372036854775807) (w : World) :
    (Instr.makeSlice t (.int .i64 (n : Int)) (.int .i64 (n : Int))).run P w = .ok (.slice (some ⟨w.heap.size, 0, none⟩) n n) (w.alloc (.cells (madeCells z.cells (n * size)) e)) := by
  obtain ⟨i, hi, hq⟩ := Option.map_eq_some_iff.1 hinfo
  simp only [Prod.mk.injEq] at hq
  obtain ⟨hz, hsz, hbt⟩ := hq
  have h := run_make (P := P) w t e i z ht hi hz .i64 .i64 (n : Int) (n : Int) (by omega) (Int.le_refl _) (by rw [hbt, ← Int.natCast_mul]; omega) (by omega)
  simp only [Int.toNat_natCast, hsz] at h
  exact h

theorem rowIs_born (w : World) (z : Array Value) (n : Nat) (t : TypeId) : (w.alloc (.cells (madeCells z n) t)).rowIs w.heap.size t n (fun i => z[i % z.size]!) := by
  have h := World.rowIs_alloc w (madeCells z n) t (fun i => z[i % z.size]!) (fun i hi => by
    rw [size_madeCells] at hi
    simp [madeCells, hi])
  rw [size_madeCells] at h
  exact h

theorem Tryd.infoInstr : (Tryd.prog.info? 83).map (fun i => (i.zero, i.size, i.bytes)) = some (some (.agg #[.int .i64 0, .int .i64 0, .int .i64 0, .int .i64 0, .int .i64 0]), 5, 40) := by kernel_rfl

set_option maxHeartbeats 400000 in
theorem toInstrs_any (a : Option Addr) (n c : Nat) (xs : List Ins) (L B : Nat) (w : World) (ha : Hid (InssAt w L B a xs)) (hx : Hid (n = xs.length)) (hn : n ≤ 1048576) (hB : B ≤ w.heap.size) :
    Calls Tryd.prog 141 #[.slice a n c] w fun e w' => ∃ c', e = .returned (.slice (some ⟨w.heap.size, 0, none⟩) n c') ∧ Below w.heap.size w w' ∧ InssAt w' w.heap.size w'.heap.size (some ⟨w.heap.size, 0, none⟩) xs ∧ Thaw w.heap.size w' := by
  have hmk := run_make_rows (P := Tryd.prog) 50 83 _ 5 40 Tryd.underlying50 Tryd.infoInstr n (by omega) (by omega)
  go_enter Tryd.func141, Tryd.ntmps141
  go_wp2
  go_loopw [4] (fun i wr => ∃ k : Nat, k ≤ n ∧ i = .int .i64 k ∧ Below w.heap.size w wr ∧ Hid (Thaw w.heap.size wr) ∧ Hid (∃ f, wr.rowIs w.heap.size 83 (n * 5) f) ∧ Hid (∀ j (h : j < xs.length), j < k → InsAt wr w.heap.size (j * 5) xs[j])) (fun i _ => n - (intOf i).toNat)
  case atStart => exact ⟨0, Nat.zero_le _, rfl, balloc (Below.refl _ _) _, (Thaw.start _).alloc _ _, ⟨_, rowIs_born _ _ _ _⟩, fun j _ h => absurd h (by omega)⟩
  case round =>
    obtain ⟨k, hk, rfl, hw, hth, hf, hg⟩ := hrel
    by_cases hlt : k < n
    · have hkx : k < xs.length := by have := hx.out; omega
      obtain ⟨b, o, rfl, ⟨_, hbB⟩, hc⟩ := ha.out k hkx
      obtain ⟨e0, e1, e2, e3, e4⟩ := hc.keep hw (by omega)
      obtain ⟨f, hr⟩ := hf.out
      have HR := hide hr
      clear hc hf hr
      generalize hX : xs[k] = X at *
      have HX := hide hX
      clear hX
      go_wp2_with (go_at_call 158; refine (toInstr_any _ _ _ _ _ _).mono ?_; rintro e w1 ⟨rfl, hb1, ht1⟩; have HT1 := hide ht1; clear ht1; have hr1 := HR.out.of_block (hb1.block _ HR.out.lt); have g0 := hr1.cell (i := k * 5) (by omega); have g1 := hr1.cell (i := k * 5 + 1) (by omega); have g2 := hr1.cell (i := k * 5 + 2) (by omega); have g3 := hr1.cell (i := k * 5 + 3) (by omega); have g4 := hr1.cell (i := k * 5 + 4) (by omega); have z0 := hr1.frozen (k * 5); have z1 := hr1.frozen (k * 5 + 1); have z2 := hr1.frozen (k * 5 + 2); have z3 := hr1.frozen (k * 5 + 3); have z4 := hr1.frozen (k * 5 + 4); have HR1 := hide hr1; clear hr1)
      rw [← unhide HX] 
      have h1 : ∀ j (h : j < xs.length), j < k → InsAt w1 w.heap.size (j * 5) xs[j] := fun j h hj => (hg.out j h hj).keepS (hb1.block _ HR.out.lt)
      have h2 := ins_step HR1.out xs k hkx (by have := hx.out; omega) h1
      exact ⟨⟨k + 1, by omega, by go_num, below_setCells _ xs[k].cells (k * 5) _ _ (bnext hw hb1) (Nat.le_refl _), (((((hth.out.trans hb1 HT1.out).setCell _ _).setCell _ _).setCell _ _).setCell _ _).setCell _ _, rowIs_setCells xs[k].cells (k * 5) _ _ HR1.out, h2⟩, by simp [intOf]; omega⟩
    · go_wp2
      go_ret
      obtain ⟨f, hr⟩ := hf.out
      refine ⟨_, rfl, hw, fun j hj => ⟨w.heap.size, 0, rfl, ⟨Nat.le_refl _, hr.lt⟩, ?_⟩, hth.out⟩
      rw [Nat.zero_add]
      exact hg.out j hj (by have := hx.out; omega)
end Go.Proofs.YtdcdgopblbmgoaaDoor
