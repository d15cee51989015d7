import Derived.Test.YtdcdgopblbmgoaaDoorW2
import Derived.Test.YtdcdgopblbmgoaaDoorOwn
import Derived.Deep.Slices
namespace Go.Proofs.YtdcdgopblbmgoaaDoor
open Go.RowKit

theorem MBlkAt.apart {w : World} {L B b : Nat} {o o' : Nat} {x : MBlk} (h : MBlkAt w L B b o x) (hb : b < L) (vs : List Value) (hap : o + 5 ≤ o' ∨ o' + vs.length ≤ o) : MBlkAt (w.setCells b o' vs) L B b o x := by
  obtain ⟨ia, ic, h0, h2, h4⟩ := h
  exact ⟨ia, ic, (out_cell (by omega)).trans h0, h2.apart _ (by omega), h4.keepS (same_setCells (Same.refl _ _ _) _ _ (Or.inl hb))⟩

theorem mblk_step {w : World} {L B b t N : Nat} {f : Nat → Value} (hr : w.rowIs b t N f) (hb : b < L) (xs : List MBlk) (k : Nat) (hk : k < xs.length) (hN : xs.length * 5 ≤ N) (old : ∀ j (h : j < xs.length), j < k → MBlkAt w L B b (j * 5) xs[j])
    (ia : Option Addr) (ic : Nat) (hi : InssAt w L B ia xs[k].instrs) :
    ∀ j (h : j < xs.length), j < k + 1 → MBlkAt (w.setCells b (k * 5) [.slice ia xs[k].instrs.length ic, .int .i64 xs[k].term.kind, .int .i64 xs[k].term.a, .int .i64 xs[k].term.to, .int .i64 xs[k].term.els]) L B b (j * 5) xs[j] := fun j h hj => by
  by_cases e : j = k
  · subst e
    have hc := in_cell (w := w) hr (o := j * 5) (vs := [.slice ia xs[j].instrs.length ic, .int .i64 xs[j].term.kind, .int .i64 xs[j].term.a, .int .i64 xs[j].term.to, .int .i64 xs[j].term.els]) (by simp only [List.length_cons, List.length_nil]; omega)
    exact ⟨ia, ic, hc 0 _ rfl, ⟨hc 1 _ rfl, hc 2 _ rfl, hc 3 _ rfl, hc 4 _ rfl⟩, hi.keepS (same_setCells (Same.refl _ _ _) _ _ (Or.inl hb))⟩
  · exact (old j h (by omega)).apart hb _ (by simp only [List.length_cons, List.length_nil]; omega)

set_option maxHeartbeats 1000000 in
theorem toMBlock_any (i : Option Addr) (m ic : Nat) (t0 t1 t2 t3 : Int) (ys : List Ins) (L B : Nat) (w : World) (hb : Hid (InssAt w L B i ys)) (hy : Hid (m = ys.length)) (hm : m ≤ 1048576) (hB : B ≤ w.heap.size) :
    Calls Tryd.prog 130 #[.agg #[.slice i m ic, .int .i64 t0, .int .i64 t1, .int .i64 t2, .int .i64 t3]] w fun e w' => ∃ i' d', e = .returned (.agg #[.slice i' m d', .int .i64 t0, .int .i64 t1, .int .i64 t2, .int .i64 t3]) ∧ Below w.heap.size w w' ∧
      InssAt w' w.heap.size w'.heap.size i' ys ∧ Thaw w.heap.size w' := by
  go_enter Tryd.func130, Tryd.ntmps130
  go_wp2_with fail
  refine (toInstrs_any _ _ _ ys L B _ ?q1 hy hm ?q2).mono ?_
  case q1 => exact hb.out.keep ((((Below.refl _ _).alloc (by omega) _).alloc (by simp; omega) _).alloc (by simp; omega) _)
  case q2 => simp; omega
  rintro e w1 ⟨c', rfl, hb1, hi1, ht1⟩
  have HT1 := hide (((((Thaw.start w).alloc _ _).alloc _ _).alloc _ _).trans hb1 ht1)
  clear ht1
  have b1 := bnext (balloc (balloc (balloc (Below.refl w.heap.size w) _) _) _) hb1
  have hz1 := hb1.size
  simp at hz1
  have hz2 : w.heap.size < w1.heap.size := by omega
  have hz3 : w.heap.size + 1 < w1.heap.size := by omega
  have hz4 : w.heap.size + 1 + 1 < w1.heap.size := by omega
  obtain ⟨hc1, hf1⟩ := bcell hb1
  have HI := hide hi1
  clear hi1
  go_wp2_with fail
  refine (toTerm_any _ _ _ _ _).mono ?_
  rintro e w3 ⟨rfl, hb3, ht3⟩
  have HT3 := hide ((HT1.out.setCell _ _).trans hb3 ht3)
  clear ht3
  have hz9 := hb3.size
  simp only [size_setCell] at hz9
  obtain ⟨hc3, hf3⟩ := bcell hb3
  simp only [size_setCell] at hc3 hf3
  go_wp2
  refine bodyPost_ret (v := .agg #[.slice (some ⟨w.heap.size + 1 + 1 + 1, 0, none⟩) m c', .int .i64 t0, .int .i64 t1, .int .i64 t2, .int .i64 t3]) (by simp [results, Tryd.results130, go_sem, hc1, hc3, hz3]) rfl ⟨_, _, rfl, ?_, ?_, ?_⟩
  · repeat (refine Below.setCell ?_ (by dsimp only; omega) _)
    exact bnext (b1.setCell (p := ⟨w.heap.size + 1 + 1, 0, none⟩) (by dsimp only; omega) _) hb3
  · have h := HI.out
    simp only [World.size_alloc] at h
    refine (InssAt.keepS h (?_ : Same _ _ w1 _)).mono (by omega) (by simp only [size_setCell]; omega)
    repeat (refine Same.setCell ?_ (Or.inl (by dsimp only; omega)) _)
    exact ((Same.refl _ _ _).setCell (Or.inl (by dsimp only; omega)) _).trans (Same.of_below (hb3.mono (by simp only [size_setCell]; omega)))
  · repeat (refine Thaw.setCell ?_ _ _)
    exact HT3.out

theorem Tryd.infoMBlock : (Tryd.prog.info? 126).map (fun i => (i.zero, i.size, i.bytes)) = some (some (.agg #[.slice none 0 0, .int .i64 0, .int .i64 0, .int .i64 0, .int .i64 0]), 5, 56) := by kernel_rfl

set_option maxHeartbeats 1000000 in
theorem toMBlocks_any (a : Option Addr) (n c : Nat) (xs : List MBlk) (L B : Nat) (w : World) (ha : Hid (MBlksAt w L B a xs)) (hx : Hid (n = xs.length)) (hs : Hid (MLen xs)) (hn : n ≤ 1048576) (hB : B ≤ w.heap.size) :
    Calls Tryd.prog 88 #[.slice a n c] w fun e w' => ∃ c', e = .returned (.slice (some ⟨w.heap.size, 0, none⟩) n c') ∧ Below w.heap.size w w' ∧ MBlksAt w' w.heap.size w'.heap.size (some ⟨w.heap.size, 0, none⟩) xs ∧ Thaw w.heap.size w' := by
  have hmk := run_make_rows (P := Tryd.prog) 64 126 _ 5 56 Tryd.underlying64 Tryd.infoMBlock n (by omega) (by omega)
  go_enter Tryd.func88, Tryd.ntmps88
  go_wp2
  go_loopw [4] (fun i wr => ∃ k : Nat, k ≤ n ∧ i = .int .i64 k ∧ Below w.heap.size w wr ∧ w.heap.size < wr.heap.size ∧ Hid (Thaw w.heap.size wr) ∧ Hid (∃ f, wr.rowIs w.heap.size 126 (n * 5) f) ∧ Hid (∀ j (h : j < xs.length), j < k → MBlkAt wr (w.heap.size + 1) wr.heap.size w.heap.size (j * 5) xs[j])) (fun i _ => n - (intOf i).toNat)
  case atStart => exact ⟨0, Nat.zero_le _, rfl, balloc (Below.refl _ _) _, by simp, (Thaw.start _).alloc _ _, ⟨_, rowIs_born _ _ _ _⟩, fun j _ h => absurd h (by omega)⟩
  case round =>
    obtain ⟨k, hk, rfl, hw, hsz, hth, hf, hg⟩ := hrel
    by_cases hlt : k < n
    · have hkx : k < xs.length := by have := hx.out; omega
      obtain ⟨b, o, rfl, ⟨_, hbB⟩, hc⟩ := ha.out k hkx
      obtain ⟨ia, ic, e1, ⟨e2, e3, e4, e5⟩, hi⟩ := hc.keep (hw.mono hB) (by omega)
      have HI := hide hi
      have hq2 := hs.out _ (List.getElem_mem hkx)
      have hBr : B ≤ wr.heap.size := by have := hw.size; omega
      obtain ⟨f, hr⟩ := hf.out
      have HR := hide hr
      clear hc hf hr hi
      generalize hX : xs[k] = X at *
      have HX := hide hX
      clear hX
      go_wp2_with (go_at_call 130; refine (toMBlock_any _ _ _ _ _ _ _ X.instrs L B _ HI rfl hq2 hBr).mono ?_; rintro e w1 ⟨i1, d1, rfl, hb1, hi1, ht1⟩; have HT1 := hide ht1; clear ht1; have hr1 := HR.out.of_block (hb1.block _ HR.out.lt); have g0 := hr1.cell (i := k * 5) (by omega); have g1 := hr1.cell (i := k * 5 + 1) (by omega); have g2 := hr1.cell (i := k * 5 + 2) (by omega); have g3 := hr1.cell (i := k * 5 + 3) (by omega); have g4 := hr1.cell (i := k * 5 + 4) (by omega); have z0 := hr1.frozen (k * 5); have z1 := hr1.frozen (k * 5 + 1); have z2 := hr1.frozen (k * 5 + 2); have z3 := hr1.frozen (k * 5 + 3); have z4 := hr1.frozen (k * 5 + 4); have HR1 := hide hr1; clear hr1; have HI1 := hide hi1; clear hi1)
      have hX := unhide HX
      subst hX
      have hz1 := hb1.size
      have h1 : ∀ j (h : j < xs.length), j < k → MBlkAt w1 (w.heap.size + 1) w1.heap.size w.heap.size (j * 5) xs[j] := fun j h hj => ((hg.out j h hj).keepS (Same.of_below hb1) (hb1.block _ HR.out.lt)).mono (Nat.le_refl _) hz1
      have h2 := mblk_step HR1.out (Nat.lt_succ_self _) xs k hkx (by have := hx.out; omega) h1 i1 d1 (HI1.out.mono (by omega) (Nat.le_refl _))
      have h3 := size_setCells w.heap.size [.slice i1 xs[k].instrs.length d1, .int .i64 xs[k].term.kind, .int .i64 xs[k].term.a, .int .i64 xs[k].term.to, .int .i64 xs[k].term.els] (k * 5) w1
      have h4 := rowIs_setCells [.slice i1 xs[k].instrs.length d1, .int .i64 xs[k].term.kind, .int .i64 xs[k].term.a, .int .i64 xs[k].term.to, .int .i64 xs[k].term.els] (k * 5) _ _ HR1.out
      have h5 := below_setCells _ [.slice i1 xs[k].instrs.length d1, .int .i64 xs[k].term.kind, .int .i64 xs[k].term.a, .int .i64 xs[k].term.to, .int .i64 xs[k].term.els] (k * 5) _ _ (bnext hw hb1) (Nat.le_refl _)
      exact ⟨⟨k + 1, by omega, by go_num, h5, by simp only [size_setCell]; omega, (((((hth.out.trans hb1 HT1.out).setCell _ _).setCell _ _).setCell _ _).setCell _ _).setCell _ _, h4, fun j h hj => (h2 j h hj).mono (Nat.le_refl _) (Nat.le_of_eq h3.symm)⟩, by simp [intOf]; omega⟩
    · go_wp2
      go_ret
      obtain ⟨f, hr⟩ := hf.out
      refine ⟨_, rfl, hw, fun j hj => ⟨w.heap.size, 0, rfl, ⟨Nat.le_refl _, hr.lt⟩, ?_⟩, hth.out⟩
      rw [Nat.zero_add]
      exact (hg.out j hj (by have := hx.out; omega)).mono (by omega) (Nat.le_refl _)

set_option maxHeartbeats 400000 in
theorem toMach_any (v : Int) (a : Option Addr) (n c : Nat) (xs : List MBlk) (L B : Nat) (w : World) (ha : Hid (MBlksAt w L B a xs)) (hx : Hid (n = xs.length)) (hs : Hid (MLen xs)) (hn : n ≤ 1048576) (hB : B ≤ w.heap.size) :
    Calls Tryd.prog 40 #[.agg #[.int .i64 v, .slice a n c]] w fun e w' => ∃ a' c', e = .returned (.agg #[.int .i64 v, .slice a' n c']) ∧ Below w.heap.size w w' ∧ MBlksAt w' w.heap.size w'.heap.size a' xs ∧ Thaw w.heap.size w' := by
  go_enter Tryd.func40, Tryd.ntmps40
  go_wp2_with fail
  refine (toMBlocks_any _ _ _ xs L B _ ?q1 hx hs hn ?q2).mono ?_
  case q1 => exact ha.out.keep ((((Below.refl _ _).alloc (by omega) _).alloc (by simp; omega) _).alloc (by simp; omega) _)
  case q2 => simp; omega
  rintro e w1 ⟨c', rfl, hb1, hi1, ht1⟩
  have HT1 := hide (((((Thaw.start w).alloc _ _).alloc _ _).alloc _ _).trans hb1 ht1)
  clear ht1
  have b1 := bnext (balloc (balloc (balloc (Below.refl w.heap.size w) _) _) _) hb1
  have hz1 := hb1.size
  simp at hz1
  have hz2 : w.heap.size < w1.heap.size := by omega
  have hz3 : w.heap.size + 1 < w1.heap.size := by omega
  have hz4 : w.heap.size + 1 + 1 < w1.heap.size := by omega
  obtain ⟨hc1, hf1⟩ := bcell hb1
  have HI := hide hi1
  clear hi1
  go_wp2
  refine bodyPost_ret (v := .agg #[.int .i64 v, .slice (some ⟨w.heap.size + 1 + 1 + 1, 0, none⟩) n c']) (by simp [results, Tryd.results40, go_sem, hc1]) rfl ⟨_, _, rfl, ?_, ?_, ((HT1.out.setCell _ _).setCell _ _).setCell _ _⟩
  · exact ((b1.setCell (by simp; omega) _).setCell (by simp) _).setCell (by simp) _
  · have h := HI.out
    simp only [World.size_alloc] at h
    exact (h.keepS ((((Same.refl _ _ _).setCell (Or.inl (by simp)) _).setCell (Or.inl (by simp)) _).setCell (Or.inl (by simp)) _)).mono (by omega) (by simp only [size_setCell]; omega)
end Go.Proofs.YtdcdgopblbmgoaaDoor

/-
  Worlds that differ in numbers alone (what the marking of a copy does). Imports nothing of the program.
-/
namespace Go.Proofs.YtdcdgopblbmgoaaDoor
open Go.RowKit Go.Deep

/-- In the blocks from L to below B some numbers have turned into other numbers; nothing else has. -/
structure IW (L B : Nat) (w w' : World) : Prop where
  os : w'.os = w.os
  tape : w'.tape = w.tape
  output : w'.output = w.output
  size : w'.heap.size = w.heap.size
  block : ∀ k, ¬ (L ≤ k ∧ k < B) → w'.heap[k]? = w.heap[k]?
  cell : ∀ p, w'.cell? p = w.cell? p ∨ ∃ u v, w.cell? p = some (.int .i64 u) ∧ w'.cell? p = some (.int .i64 v)
  frozen : ∀ p, w'.frozen? p = w.frozen? p

variable {w w' w1 : World} {L B : Nat}

theorem IW.refl (L B : Nat) (w : World) : IW L B w w := ⟨rfl, rfl, rfl, rfl, fun _ _ => rfl, fun _ => Or.inl rfl, fun _ => rfl⟩
theorem IW.trans {w2 : World} (h : IW L B w w1) (k : IW L B w1 w2) : IW L B w w2 := by
  refine ⟨k.os.trans h.os, k.tape.trans h.tape, k.output.trans h.output, k.size.trans h.size, fun i hi => (k.block i hi).trans (h.block i hi), fun p => ?_, fun p => (k.frozen p).trans (h.frozen p)⟩
  rcases k.cell p with e | ⟨u, v, e1, e2⟩
  · rcases h.cell p with f | ⟨u, v, f1, f2⟩
    · exact Or.inl (e.trans f)
    · exact Or.inr ⟨u, v, f1, e.trans f2⟩
  · rcases h.cell p with f | ⟨u', v', f1, f2⟩
    · exact Or.inr ⟨u, v, f.symm.trans e1, e2⟩
    · exact Or.inr ⟨u', v, f1, e2⟩
theorem IW.set (h : IW L B w w1) {b o : Nat} (hp : L ≤ b ∧ b < B) {u : Int} (hc : w1.cell? ⟨b, o, none⟩ = some (.int .i64 u)) (v : Int) : IW L B w (w1.setCell ⟨b, o, none⟩ (.int .i64 v)) := by
  refine h.trans ⟨rfl, rfl, rfl, by simp [World.setCell], fun k hk => Below.heap_setCell _ _ _ _ (by dsimp only; omega), fun p => ?_, fun p => World.frozen?_setCell _ _ _ _⟩
  by_cases e : p = ⟨b, o, none⟩
  · subst e
    exact Or.inr ⟨u, v, hc, World.cell?_setCell_same _ _ _ hc⟩
  · exact Or.inl (World.cell?_setCell_other _ _ _ _ (fun h => e h.symm))
theorem IW.int (h : IW L B w w') {p : Addr} {u : Int} (hc : w.cell? p = some (.int .i64 u)) : ∃ v, w'.cell? p = some (.int .i64 v) := by
  rcases h.cell p with e | ⟨_, v, _, e⟩
  · exact ⟨u, e.trans hc⟩
  · exact ⟨v, e⟩
theorem IW.slice (h : IW L B w w') {p : Addr} {a : Option Addr} {n c : Nat} (hc : w.cell? p = some (.slice a n c)) : w'.cell? p = some (.slice a n c) := by
  rcases h.cell p with e | ⟨u, _, e, _⟩
  · exact e.trans hc
  · rw [hc] at e; cases e
/-- In the blocks from L to below B nothing is frozen. -/
def ThawB (L B : Nat) (w : World) : Prop := ∀ b o, L ≤ b ∧ b < B → w.frozen? ⟨b, o, none⟩ = false
theorem ThawB.of {L B : Nat} {w : World} (h : Thaw L w) : ThawB L B w := fun b o hb => h b o hb.1
theorem ThawB.keepS {L B : Nat} {w w' : World} (h : ThawB L B w) (k : Same L B w w') : ThawB L B w' := fun b o hb => (World.frozen?_of_block (k b hb.1 hb.2)).trans (h b o hb)
theorem ThawB.setCell {L B : Nat} {w : World} (h : ThawB L B w) (p : Addr) (v : Value) : ThawB L B (w.setCell p v) := fun b o hb => by rw [World.frozen?_setCell]; exact h b o hb
theorem IW.thawB (h : IW L B w w') {M N : Nat} (t : ThawB M N w) : ThawB M N w' := fun b o hb => (h.frozen _).trans (t b o hb)
theorem IW.thaw (h : IW L B w w') {M : Nat} (t : Thaw M w) : Thaw M w' := fun b o hb => (h.frozen _).trans (t b o hb)

variable {L' B' : Nat} {a : Option Addr}
theorem IntsAt.iw {xs : List Int} (h : IntsAt w L B a xs) (k : IW L' B' w w') : ∃ ys : List Int, ys.length = xs.length ∧ IntsAt w' L B a ys := by
  obtain ⟨f, hf⟩ := choose_lt (α := Int) (n := xs.length) (p := fun i y => ∃ b o, a = some ⟨b, o, none⟩ ∧ (L ≤ b ∧ b < B) ∧ w'.cell? ⟨b, o + i, none⟩ = some (.int .i64 y)) (fun i hi => by
    obtain ⟨b, o, e, hb, hc⟩ := h i hi
    obtain ⟨v, hv⟩ := k.int hc
    exact ⟨v, b, o, e, hb, hv⟩)
  refine ⟨(List.range xs.length).map f, by simp, fun i hi => ?_⟩
  simp only [List.length_map, List.length_range] at hi
  obtain ⟨b, o, e, hb, hc⟩ := hf i hi
  exact ⟨b, o, e, hb, by simpa using hc⟩
theorem InsAt.iw {b o : Nat} {x : Ins} (h : InsAt w b o x) (k : IW L' B' w w') : ∃ y : Ins, InsAt w' b o y := by
  obtain ⟨h0, h1, h2, h3, h4⟩ := h
  obtain ⟨v0, e0⟩ := k.int h0
  obtain ⟨v1, e1⟩ := k.int h1
  obtain ⟨v2, e2⟩ := k.int h2
  obtain ⟨v3, e3⟩ := k.int h3
  obtain ⟨v4, e4⟩ := k.int h4
  exact ⟨⟨v0, v1, v2, v3, v4⟩, e0, e1, e2, e3, e4⟩
theorem TerAt.iw {b o : Nat} {x : Ter} (h : TerAt w b o x) (k : IW L' B' w w') : ∃ y : Ter, TerAt w' b o y := by
  obtain ⟨h0, h1, h2, h3⟩ := h
  obtain ⟨v0, e0⟩ := k.int h0
  obtain ⟨v1, e1⟩ := k.int h1
  obtain ⟨v2, e2⟩ := k.int h2
  obtain ⟨v3, e3⟩ := k.int h3
  exact ⟨⟨v0, v1, v2, v3⟩, e0, e1, e2, e3⟩
theorem InssAt.iw {xs : List Ins} (h : InssAt w L B a xs) (k : IW L' B' w w') : ∃ ys : List Ins, ys.length = xs.length ∧ InssAt w' L B a ys := by
  haveI : Inhabited Ins := ⟨⟨0, 0, 0, 0, 0⟩⟩
  obtain ⟨f, hf⟩ := choose_lt (α := Ins) (n := xs.length) (p := fun i y => ∃ b o, a = some ⟨b, o, none⟩ ∧ (L ≤ b ∧ b < B) ∧ InsAt w' b (o + i * 5) y) (fun i hi => by
    obtain ⟨b, o, e, hb, hc⟩ := h i hi
    obtain ⟨v, hv⟩ := hc.iw k
    exact ⟨v, b, o, e, hb, hv⟩)
  refine ⟨(List.range xs.length).map f, by simp, fun i hi => ?_⟩
  simp only [List.length_map, List.length_range] at hi
  obtain ⟨b, o, e, hb, hc⟩ := hf i hi
  exact ⟨b, o, e, hb, by simpa using hc⟩
theorem PhAt.iw {b o : Nat} {x : Ph} (h : PhAt w L B b o x) (k : IW L' B' w w') : ∃ y : Ph, y.args.length = x.args.length ∧ PhAt w' L B b o y := by
  obtain ⟨a, c, h0, h1, h2⟩ := h
  obtain ⟨v0, e0⟩ := k.int h0
  obtain ⟨ys, hl, h3⟩ := h2.iw k
  exact ⟨⟨v0, ys⟩, hl, a, c, e0, by rw [hl]; exact k.slice h1, h3⟩
theorem PhsAt.iw {xs : List Ph} (h : PhsAt w L B a xs) (k : IW L' B' w w') : ∃ ys : List Ph, ys.map (fun p => p.args.length) = xs.map (fun p => p.args.length) ∧ PhsAt w' L B a ys := by
  haveI : Inhabited Ph := ⟨⟨0, []⟩⟩
  obtain ⟨f, hf⟩ := choose_lt (α := Ph) (n := xs.length) (p := fun i y => (∀ hi : i < xs.length, y.args.length = xs[i].args.length) ∧ ∃ b o, a = some ⟨b, o, none⟩ ∧ (L ≤ b ∧ b < B) ∧ PhAt w' L B b (o + i * 2) y) (fun i hi => by
    obtain ⟨b, o, e, hb, hc⟩ := h i hi
    obtain ⟨v, hl, hv⟩ := hc.iw k
    exact ⟨v, fun _ => hl, b, o, e, hb, hv⟩)
  refine ⟨(List.range xs.length).map f, ?_, fun i hi => ?_⟩
  · refine List.ext_getElem (by simp) (fun i h1 h2 => ?_)
    simp only [List.length_map, List.length_range] at h1
    simp only [List.getElem_map, List.getElem_range]
    exact (hf i h1).1 h1
  · simp only [List.length_map, List.length_range] at hi
    obtain ⟨_, b, o, e, hb, hc⟩ := hf i hi
    exact ⟨b, o, e, hb, by simpa using hc⟩
/-- The lengths of a block's lists. -/
def Blk.sh (x : Blk) : List Nat × Nat := (x.phis.map (fun p => p.args.length), x.instrs.length)
theorem BlkAt.iw {b o : Nat} {x : Blk} (h : BlkAt w L B b o x) (k : IW L' B' w w') : ∃ y : Blk, y.sh = x.sh ∧ BlkAt w' L B b o y := by
  obtain ⟨pa, pc, ia, ic, h0, h1, h2, h3, h4⟩ := h
  obtain ⟨t, ht⟩ := h2.iw k
  obtain ⟨ps, hp1, hp2⟩ := h3.iw k
  obtain ⟨is, hi1, hi2⟩ := h4.iw k
  have hpl : ps.length = x.phis.length := by have := congrArg List.length hp1; simpa using this
  exact ⟨⟨ps, is, t⟩, by simp only [Blk.sh, hp1, hi1], pa, pc, ia, ic, by rw [hpl]; exact k.slice h0, by rw [hi1]; exact k.slice h1, ht, hp2, hi2⟩
theorem BlksAt.iw {xs : List Blk} (h : BlksAt w L B a xs) (k : IW L' B' w w') : ∃ ys : List Blk, ys.map Blk.sh = xs.map Blk.sh ∧ BlksAt w' L B a ys := by
  haveI : Inhabited Blk := ⟨⟨[], [], ⟨0, 0, 0, 0⟩⟩⟩
  obtain ⟨f, hf⟩ := choose_lt (α := Blk) (n := xs.length) (p := fun i y => (∀ hi : i < xs.length, y.sh = xs[i].sh) ∧ ∃ b o, a = some ⟨b, o, none⟩ ∧ (L ≤ b ∧ b < B) ∧ BlkAt w' L B b (o + i * 6) y) (fun i hi => by
    obtain ⟨b, o, e, hb, hc⟩ := h i hi
    obtain ⟨v, hl, hv⟩ := hc.iw k
    exact ⟨v, fun _ => hl, b, o, e, hb, hv⟩)
  refine ⟨(List.range xs.length).map f, ?_, fun i hi => ?_⟩
  · refine List.ext_getElem (by simp) (fun i h1 h2 => ?_)
    simp only [List.length_map, List.length_range] at h1
    simp only [List.getElem_map, List.getElem_range]
    exact (hf i h1).1 h1
  · simp only [List.length_map, List.length_range] at hi
    obtain ⟨_, b, o, e, hb, hc⟩ := hf i hi
    exact ⟨b, o, e, hb, by simpa using hc⟩
end Go.Proofs.YtdcdgopblbmgoaaDoor
