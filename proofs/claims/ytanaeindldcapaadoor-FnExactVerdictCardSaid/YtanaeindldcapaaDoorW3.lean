import Derived.Test.YtanaeindldcapaaDoorW2
import Derived.Test.YtanaeindldcapaaDoorW10
import Derived.Test.YtanaeindldcapaaDoorW7
import Derived.Maps.AppendAt
namespace Go.Proofs.YtanaeindldcapaaDoor
open Go.RowKit
theorem Tryd.info2 : (Tryd.prog.info? 2).map (fun i => (i.zero, i.size, i.bytes)) = some (some (.int .i64 0), 1, 8) := by kernel_rfl
set_option maxHeartbeats 400000 in
theorem toInts_any (a : Option Addr) (n c : Nat) (xs : List Int) (L B : Nat) (w : World) (ha : Hid (IntsAt w L B a xs)) (hx : Hid (n = xs.length)) (hn : n ≤ 1048576) (hB : B ≤ w.heap.size) :
    Calls Tryd.prog 91 #[.slice a n c] w fun e w' => ∃ c', e = .returned (.slice (some ⟨w.heap.size, 0, none⟩) n c') ∧ Below w.heap.size w w' ∧ IntsAt w' w.heap.size w'.heap.size (some ⟨w.heap.size, 0, none⟩) xs ∧ Thaw w.heap.size w' := by
  have hmk := run_make_row' (P := Tryd.prog) 35 2 (.int .i64 0) 8 Tryd.underlying35 Tryd.info2 rfl .i64 .i64 n (by omega) (by omega)
  go_enter Tryd.func91, Tryd.ntmps91
  go_wp2
  go_loopw [4] (fun i wr => ∃ k : Nat, k ≤ n ∧ i = .int .i64 k ∧ Below w.heap.size w wr ∧ Hid (Thaw w.heap.size wr) ∧ Hid (∃ f, wr.rowIs w.heap.size 2 n f ∧ ∀ j (h : j < xs.length), j < k → f j = .int .i64 xs[j])) (fun i _ => n - (intOf i).toNat)
  case atStart => exact ⟨0, Nat.zero_le _, rfl, balloc (Below.refl _ _) _, (Thaw.start _).alloc _ _, ⟨_, World.rowIs_made _ _ _ _, fun j _ h => absurd h (by omega)⟩⟩
  case round =>
    obtain ⟨k, hk, rfl, hw, hth, hf⟩ := hrel
    by_cases hlt : k < n
    · have hkx : k < xs.length := by have := hx.out; omega
      obtain ⟨b, o, rfl, ⟨_, hbB⟩, hc⟩ := ha.out k hkx
      have e1 := (hw.cell (p := ⟨b, o + k, none⟩) (by show b < _; omega)).trans hc
      obtain ⟨f, hr, hff⟩ := hf.out
      have e2 := hr.cell hlt
      have e3 := hr.frozen k
      have HF := hide hff
      have HR := hide hr
      clear hc hf hff hr
      go_wp2
      refine ⟨⟨k + 1, by omega, by go_num, hw.setCell (Nat.le_refl _) _, hth.out.setCell _ _, ⟨_, HR.out.set k _, fun j hj hjk => ?_⟩⟩, by simp [intOf]; omega⟩
      by_cases e : j = k
      · subst e; simp
      · simp only [e, if_false]; exact HF.out j hj (by omega)
    · go_wp2
      go_ret
      obtain ⟨f, hr, hff⟩ := hf.out
      refine ⟨_, rfl, hw, fun j hj => ⟨w.heap.size, 0, rfl, ⟨Nat.le_refl _, hr.lt⟩, ?_⟩, hth.out⟩
      rw [Nat.zero_add, hr.cell (by have := hx.out; omega), hff j hj (by have := hx.out; omega)]
set_option maxHeartbeats 400000 in
theorem toInstr_any (a b c d f : Int) (w : World) :
    Calls Tryd.prog 81 #[.agg #[.int .i64 a, .int .i64 b, .int .i64 c, .int .i64 d, .int .i64 f]] w fun e w' => e = .returned (.agg #[.int .i64 a, .int .i64 b, .int .i64 c, .int .i64 d, .int .i64 f]) ∧ Below w.heap.size w w' ∧ Thaw w.heap.size w' := by
  go_enter Tryd.func81, Tryd.ntmps81
  go_wp2
  exact bodyPost_ret (v := .agg #[.int .i64 a, .int .i64 b, .int .i64 c, .int .i64 d, .int .i64 f]) (by simp [results, Tryd.results81, go_sem]) rfl ⟨rfl, balloc (balloc (balloc (Below.refl _ _) _) _) _, (((Thaw.start _).alloc _ _).alloc _ _).alloc _ _⟩
set_option maxHeartbeats 400000 in
theorem toTerm_any (a b c d : Int) (w : World) :
    Calls Tryd.prog 60 #[.agg #[.int .i64 a, .int .i64 b, .int .i64 c, .int .i64 d]] w fun e w' => e = .returned (.agg #[.int .i64 a, .int .i64 b, .int .i64 c, .int .i64 d]) ∧ Below w.heap.size w w' ∧ Thaw w.heap.size w' := by
  go_enter Tryd.func60, Tryd.ntmps60
  go_wp2
  exact bodyPost_ret (v := .agg #[.int .i64 a, .int .i64 b, .int .i64 c, .int .i64 d]) (by simp [results, Tryd.results60, go_sem]) rfl ⟨rfl, balloc (balloc (balloc (Below.refl _ _) _) _) _, (((Thaw.start _).alloc _ _).alloc _ _).alloc _ _⟩
theorem run_make_rows {P : Program} (t e : TypeId) (z : Value) (size bytes : Nat) (ht : P.underlying t = some (.slice e)) (hinfo : (P.info? e).map (fun i => (i.zero, i.size, i.bytes)) = some (some z, size, bytes))
    (n : Nat) (hbytes : bytes * n ≤ 281474976710656) (h63 : n ≤ 9223372036854775807) (w : World) :
    (Instr.makeSlice t (.int .i64 (n : Int)) (.int .i64 (n : Int))).run P w = .ok (.slice (some ⟨w.heap.size, 0, none⟩) n n) (w.alloc (.cells (madeCells z.cells (n * size)) e)) := by
  obtain ⟨i, hi, hq⟩ := Option.map_eq_some_iff.1 hinfo
  simp only [Prod.mk.injEq] at hq
  obtain ⟨hz, hsz, hbt⟩ := hq
  have h := run_make (P := P) w t e i z ht hi hz .i64 .i64 (n : Int) (n : Int) (by omega) (Int.le_refl _) (by rw [hbt, ← Int.natCast_mul]; omega) (by omega)
  simp only [Int.toNat_natCast, hsz] at h
  exact h
theorem rowIs_born (w : World) (z : Array Value) (n : Nat) (t : TypeId) : (w.alloc (.cells (madeCells z n) t)).rowIs w.heap.size t n (fun i => z[i % z.size]!) := by
  have h := World.rowIs_alloc w (madeCells z n) t (fun i => z[i % z.size]!) (fun i hi => by
    rw [size_madeCells] at hi
    simp [madeCells, hi])
  rw [size_madeCells] at h
  exact h
theorem Tryd.infoInstr : (Tryd.prog.info? 69).map (fun i => (i.zero, i.size, i.bytes)) = some (some (.agg #[.int .i64 0, .int .i64 0, .int .i64 0, .int .i64 0, .int .i64 0]), 5, 40) := by kernel_rfl
set_option maxHeartbeats 400000 in
theorem toInstrs_any (a : Option Addr) (n c : Nat) (xs : List Ins) (L B : Nat) (w : World) (ha : Hid (InssAt w L B a xs)) (hx : Hid (n = xs.length)) (hn : n ≤ 1048576) (hB : B ≤ w.heap.size) :
    Calls Tryd.prog 59 #[.slice a n c] w fun e w' => ∃ c', e = .returned (.slice (some ⟨w.heap.size, 0, none⟩) n c') ∧ Below w.heap.size w w' ∧ InssAt w' w.heap.size w'.heap.size (some ⟨w.heap.size, 0, none⟩) xs ∧ Thaw w.heap.size w' := by
  have hmk := run_make_rows (P := Tryd.prog) 63 69 _ 5 40 Tryd.underlying63 Tryd.infoInstr n (by omega) (by omega)
  go_enter Tryd.func59, Tryd.ntmps59
  go_wp2
  go_loopw [4] (fun i wr => ∃ k : Nat, k ≤ n ∧ i = .int .i64 k ∧ Below w.heap.size w wr ∧ Hid (Thaw w.heap.size wr) ∧ Hid (∃ f, wr.rowIs w.heap.size 69 (n * 5) f) ∧ Hid (∀ j (h : j < xs.length), j < k → InsAt wr w.heap.size (j * 5) xs[j])) (fun i _ => n - (intOf i).toNat)
  case atStart => exact ⟨0, Nat.zero_le _, rfl, balloc (Below.refl _ _) _, (Thaw.start _).alloc _ _, ⟨_, rowIs_born _ _ _ _⟩, fun j _ h => absurd h (by omega)⟩
  case round =>
    obtain ⟨k, hk, rfl, hw, hth, hf, hg⟩ := hrel
    by_cases hlt : k < n
    · have hkx : k < xs.length := by have := hx.out; omega
      obtain ⟨b, o, rfl, ⟨_, hbB⟩, hc⟩ := ha.out k hkx
      obtain ⟨e0, e1, e2, e3, e4⟩ := hc.keep hw (by omega)
      obtain ⟨f, hr⟩ := hf.out
      have HR := hide hr
      clear hc hf hr
      generalize hX : xs[k] = X at *
      have HX := hide hX
      clear hX
      go_wp2_with (go_at_call 81; refine (toInstr_any _ _ _ _ _ _).mono ?_; rintro e w1 ⟨rfl, hb1, ht1⟩; have HT1 := hide ht1; clear ht1; have hr1 := HR.out.of_block (hb1.block _ HR.out.lt); have g0 := hr1.cell (i := k * 5) (by omega); have g1 := hr1.cell (i := k * 5 + 1) (by omega); have g2 := hr1.cell (i := k * 5 + 2) (by omega); have g3 := hr1.cell (i := k * 5 + 3) (by omega); have g4 := hr1.cell (i := k * 5 + 4) (by omega); have z0 := hr1.frozen (k * 5); have z1 := hr1.frozen (k * 5 + 1); have z2 := hr1.frozen (k * 5 + 2); have z3 := hr1.frozen (k * 5 + 3); have z4 := hr1.frozen (k * 5 + 4); have HR1 := hide hr1; clear hr1)
      rw [← unhide HX] 
      have h1 : ∀ j (h : j < xs.length), j < k → InsAt w1 w.heap.size (j * 5) xs[j] := fun j h hj => (hg.out j h hj).keepS (hb1.block _ HR.out.lt)
      have h2 := ins_step HR1.out xs k hkx (by have := hx.out; omega) h1
      exact ⟨⟨k + 1, by omega, by go_num, below_setCells _ xs[k].cells (k * 5) _ _ (bnext hw hb1) (Nat.le_refl _), (((((hth.out.trans hb1 HT1.out).setCell _ _).setCell _ _).setCell _ _).setCell _ _).setCell _ _, rowIs_setCells xs[k].cells (k * 5) _ _ HR1.out, h2⟩, by simp [intOf]; omega⟩
    · go_wp2
      go_ret
      obtain ⟨f, hr⟩ := hf.out
      refine ⟨_, rfl, hw, fun j hj => ⟨w.heap.size, 0, rfl, ⟨Nat.le_refl _, hr.lt⟩, ?_⟩, hth.out⟩
      rw [Nat.zero_add]
      exact hg.out j hj (by have := hx.out; omega)
/-- A slice of slices of numbers. -/
def IntssAt (w : World) (L B : Nat) (a : Option Addr) (xss : List (List Int)) : Prop :=
  ∀ i (h : i < xss.length), ∃ b o, a = some ⟨b, o, none⟩ ∧ (L ≤ b ∧ b < B) ∧ ∃ a' c', w.cell? ⟨b, o + i, none⟩ = some (.slice a' xss[i].length c') ∧ IntsAt w L B a' xss[i]
theorem IntssAt.keepS {w w' : World} {L B : Nat} {a : Option Addr} {xss : List (List Int)} (h : IntssAt w L B a xss) (k : Same L B w w') : IntssAt w' L B a xss := fun i hi => by
  obtain ⟨b, o, e, hb, a', c', h1, h2⟩ := h i hi
  exact ⟨b, o, e, hb, a', c', (cell_of (k b hb.1 hb.2)).trans h1, h2.keepS k⟩
theorem IntssAt.keep {w w' : World} {L B : Nat} {a : Option Addr} {xss : List (List Int)} (h : IntssAt w L B a xss) (k : Below B w w') : IntssAt w' L B a xss := h.keepS (Same.of_below k)
theorem IntssAt.mono {w : World} {L B L' B' : Nat} {a : Option Addr} {xss : List (List Int)} (h : IntssAt w L B a xss) (l : L' ≤ L) (k : B ≤ B') : IntssAt w L' B' a xss := fun i hi => by
  obtain ⟨b, o, e, hb, a', c', h1, h2⟩ := h i hi
  exact ⟨b, o, e, by omega, a', c', h1, h2.mono l k⟩
/-- n rows of numbers, each of its own, behind a row of slices (block G). -/
def Rows2 (w : World) (G n : Nat) (P : Nat → List Int) (U : Nat → Value) : Prop :=
  w.rowIs G 35 n U ∧ (∀ i, i < n → w.ownsRow (G + 1) 2 1 (U i) (P i).length ((P i).map (Value.int .i64))) ∧ (∀ i j, i < n → j < n → i ≠ j → (U i).ownBlock = none ∨ (U i).ownBlock ≠ (U j).ownBlock)
theorem Rows2.alloc {w : World} {G n : Nat} {P : Nat → List Int} {U : Nat → Value} (h : Rows2 w G n P U) (o : Obj) : Rows2 (w.alloc o) G n P U := ⟨h.1.alloc o, fun i hi => (h.2.1 i hi).alloc o, h.2.2⟩
theorem Rows2.below {w w' : World} {G n : Nat} {P : Nat → List Int} {U : Nat → Value} (h : Rows2 w G n P U) (k : Below w.heap.size w w') : Rows2 w' G n P U := by
  refine ⟨h.1.of_block (k.block _ h.1.lt), fun i hi => ?_, h.2.2⟩
  refine (h.2.1 i hi).kept (row := none) ⟨k.os, k.tape, k.output, k.size, fun b hb _ => k.block b hb⟩ ?_
  cases (U i).ownBlock <;> simp
theorem Rows2.congr {w : World} {G n : Nat} {P P' : Nat → List Int} {U : Nat → Value} (h : Rows2 w G n P U) (e : ∀ i, i < n → P i = P' i) : Rows2 w G n P' U :=
  ⟨h.1, fun i hi => by rw [← e i hi]; exact h.2.1 i hi, h.2.2⟩
theorem Rows2.step {w w1 : World} {G n : Nat} {P : Nat → List Int} {U : Nat → Value} (h : Rows2 w G n P U) {t : Nat} (ht : t < n) (x : Int) (v' : Value) (hg : w.grownBy w1 (U t).ownBlock)
    (ho : w1.ownsRow (G + 1) 2 1 v' ((P t).length + 1) ((P t).map (Value.int .i64) ++ [.int .i64 x])) (hat : v'.ownBlock = (U t).ownBlock ∨ v'.ownBlock = some w.heap.size) :
    Rows2 (w1.setCell ⟨G, t, none⟩ v') G n (fun i => if i = t then P t ++ [x] else P i) (fun i => if i = t then v' else U i) := by
  have hr : w1.rowIs G 35 n U := h.1.of_block (hg.block _ h.1.lt (fun e => by have := ((h.2.1 t ht).lt _ e.symm).1; omega))
  refine ⟨hr.set t v', fun i hi => ?_, fun i j hi hj hij => ?_⟩
  · refine ownsRow_setCell_below ?_ (by dsimp only; omega) _
    by_cases e : i = t
    · subst e
      simp only [if_true, List.length_append, List.length_cons, List.length_nil, List.map_append, List.map_cons, List.map_nil]
      exact ho
    · simp only [e, if_false]
      exact (h.2.1 i hi).kept hg (h.2.2 i t hi ht e)
  · have fresh : ∀ m, m < n → (U m).ownBlock = none ∨ (U m).ownBlock ≠ some w.heap.size := fun m hm => by
      by_cases e : (U m).ownBlock = some w.heap.size
      · have := ((h.2.1 m hm).lt _ e).2; omega
      · exact Or.inr e
    by_cases e1 : i = t
    · subst e1
      have e2 : ¬ j = i := fun e => hij e.symm
      simp only [if_true, e2, if_false]
      rcases hat with q | q
      · rw [q]; exact h.2.2 i j hi hj hij
      · right
        rw [q]
        intro hh
        rcases fresh j hj with f | f
        · rw [f] at hh; cases hh
        · exact f hh.symm
    · simp only [e1, if_false]
      by_cases e2 : j = t
      · subst e2
        simp only [if_true]
        rcases hat with q | q
        · rw [q]; exact h.2.2 i j hi hj hij
        · rw [q]; exact fresh i hi
      · simp only [e2, if_false]
        exact h.2.2 i j hi hj hij
theorem Rows2.ints {w : World} {G n : Nat} {P : Nat → List Int} {U : Nat → Value} (h : Rows2 w G n P U) : IntssAt w G w.heap.size (some ⟨G, 0, none⟩) ((List.range n).map P) := fun i hi => by
  simp only [List.length_map, List.length_range] at hi
  obtain ⟨a, c, hv, ha⟩ := ints_owned (h.2.1 i hi)
  refine ⟨G, 0, rfl, ⟨Nat.le_refl _, h.1.lt⟩, a, c, ?_, ?_⟩
  · simp only [List.getElem_map, List.getElem_range, Nat.zero_add]
    rw [h.1.cell hi, hv]
  · simp only [List.getElem_map, List.getElem_range]
    exact ha.mono (by omega) (Nat.le_refl _)
theorem Tryd.info45 : (Tryd.prog.info? 35).map (fun i => (i.zero, i.size, i.bytes)) = some (some (.slice none 0 0), 1, 24) := by kernel_rfl
theorem Rows2.born (w : World) (n : Nat) : Rows2 (w.alloc (.cells (madeCells #[.slice none 0 0] n) 35)) w.heap.size n (fun _ => []) (fun _ => .slice none 0 0) :=
  ⟨World.rowIs_made _ _ _ _, fun _ _ => World.ownsRow_nil _ _ _ _, fun _ _ _ _ _ => Or.inl rfl⟩
end Go.Proofs.YtanaeindldcapaaDoor
