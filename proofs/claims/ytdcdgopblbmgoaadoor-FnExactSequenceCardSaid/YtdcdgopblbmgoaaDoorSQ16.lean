import Derived.Test.YtdcdgopblbmgoaaDoorSQ15
import Derived.Test.YtdcdgopblbmgoaaDoorMark2
import Derived.Test.YtdcdgopblbmgoaaDoorW3
/-
  Sequence: what the law does with moves and copies.
-/
namespace Go.Proofs.YtdcdgopblbmgoaaDoor
open Go.RowKit
attribute [local go_sem ↓] Go.wp_at_zero Go.wp_at_succ

theorem inV_at : ∀ (xs : List Ins) (i : Nat) (h : i < xs.length), (inV xs)[i * 5]? = some (.int .i64 xs[i].op) ∧ (inV xs)[i * 5 + 1]? = some (.int .i64 xs[i].dst) ∧ (inV xs)[i * 5 + 2]? = some (.int .i64 xs[i].a) ∧ (inV xs)[i * 5 + 3]? = some (.int .i64 xs[i].b) ∧ (inV xs)[i * 5 + 4]? = some (.int .i64 xs[i].imm)
  | [], i, h => absurd h (by simp)
  | m :: xs, 0, _ => ⟨rfl, rfl, rfl, rfl, rfl⟩
  | m :: xs, i + 1, h => by
    have := inV_at xs i (by simpa using h)
    rw [inV_cons]
    rw [show (i + 1) * 5 = i * 5 + 1 + 1 + 1 + 1 + 1 by omega]
    simpa using this
/-- Copies in one row, not frozen. -/
def CpsAt (w : World) (L B : Nat) (ia : Option Addr) (is : List Ins) : Prop := ∀ i (h : i < is.length), ∃ g, ia = some ⟨g, 0, none⟩ ∧ (L ≤ g ∧ g < B) ∧ (∀ q, w.frozen? ⟨g, q, none⟩ = false) ∧ InsAt w g (i * 5) is[i]
theorem CpsAt.inss {w : World} {L B : Nat} {ia : Option Addr} {is : List Ins} (h : CpsAt w L B ia is) : InssAt w L B ia is := fun i hi => by
  obtain ⟨g, e, hg, _, h1⟩ := h i hi
  exact ⟨g, 0, e, hg, by rw [Nat.zero_add]; exact h1⟩
theorem CpsAt.keepS {w w' : World} {L B : Nat} {ia : Option Addr} {is : List Ins} (h : CpsAt w L B ia is) (k : Same L B w w') : CpsAt w' L B ia is := fun i hi => by
  obtain ⟨g, e, hg, hz, h1⟩ := h i hi
  exact ⟨g, e, hg, fun q => (World.frozen?_of_block (k g hg.1 hg.2)).trans (hz q), h1.keepS (k g hg.1 hg.2)⟩
theorem cps_owned {w : World} {base e : Nat} {v : Value} {n : Nat} {xs : List Ins} (h : w.ownsRow base e 5 v n (inV xs)) : ∃ a c, v = .slice a xs.length c ∧ CpsAt w base w.heap.size a xs := by
  have hl := h.1
  rw [inV_len] at hl
  have hn : n = xs.length := by omega
  subst hn
  rcases own_form h with ⟨rfl, h0, _⟩ | ⟨g, c, rfl, hg, hc⟩
  · have : xs = [] := List.eq_nil_of_length_eq_zero h0
    subst this
    exact ⟨none, 0, rfl, fun i hi => absurd hi (by simp)⟩
  · refine ⟨_, c, rfl, fun i hi => ⟨g, rfl, hg, own_thaw h, ?_⟩⟩
    obtain ⟨h0, h1, h2, h3, h4⟩ := inV_at xs i hi
    exact ⟨own_cell h h0, own_cell h h1, own_cell h h2, own_cell h h3, own_cell h h4⟩
/-- Copies whose numbers are marks. -/
def mkCp (k : Int) : Ins := ⟨k, k + 1, k + 2, k + 3, k + 4⟩
def CpsMarked (w : World) (L B : Nat) (ia : Option Addr) (k : Int) (n : Nat) : Prop := ∀ i, i < n → ∃ g, ia = some ⟨g, 0, none⟩ ∧ (L ≤ g ∧ g < B) ∧ InsAt w g (i * 5) (mkCp (k + 5 * (i : Nat)))
theorem cp5_at {w : World} {g o : Nat} {x : Ins} (h : InsAt w g o x) (v0 v1 v2 v3 v4 : Int) : InsAt (((((w.setCell ⟨g, o, none⟩ (.int .i64 v0)).setCell ⟨g, o + 1, none⟩ (.int .i64 v1)).setCell ⟨g, o + 2, none⟩ (.int .i64 v2)).setCell ⟨g, o + 3, none⟩ (.int .i64 v3)).setCell ⟨g, o + 4, none⟩ (.int .i64 v4)) g o ⟨v0, v1, v2, v3, v4⟩ := by
  obtain ⟨e0, e1, e2, e3, e4⟩ := h
  refine ⟨?_, ?_, ?_, ?_, ?_⟩ <;> simp [e0, e1, e2, e3, e4, go_sem]
theorem cp5_other {w : World} {g o o' : Nat} {x : Ins} (h : InsAt w g o' x) (hd : o' + 4 < o ∨ o + 4 < o') (v0 v1 v2 v3 v4 : Int) : InsAt (((((w.setCell ⟨g, o, none⟩ (.int .i64 v0)).setCell ⟨g, o + 1, none⟩ (.int .i64 v1)).setCell ⟨g, o + 2, none⟩ (.int .i64 v2)).setCell ⟨g, o + 3, none⟩ (.int .i64 v3)).setCell ⟨g, o + 4, none⟩ (.int .i64 v4)) g o' x := by
  obtain ⟨e0, e1, e2, e3, e4⟩ := h
  refine ⟨?_, ?_, ?_, ?_, ?_⟩ <;> (rw [oth _ _ (by omega), oth _ _ (by omega), oth _ _ (by omega), oth _ _ (by omega), oth _ _ (by omega)]; assumption)

set_option maxHeartbeats 1000000 in
theorem markCps_any (a : Option Addr) (n c : Nat) (k : Int) (xs : List Ins) (L B : Nat) (w : World) (ha : Hid (CpsAt w L B a xs)) (hx : Hid (n = xs.length)) (hn : n ≤ 1048576) (h0 : 0 ≤ k) (h1 : k ≤ 1000000000) :
    Calls Tryd.prog 36 #[.slice a n c, .int .i64 k] w fun e w' => e = .returned (.int .i64 (k + 5 * n)) ∧ IW L B w w' ∧ CpsMarked w' L B a k n := by
  go_enter Tryd.func36, Tryd.ntmps36
  go_wp2
  go_loopw [1, 5] (fun u i wr => ∃ j : Nat, j ≤ n ∧ i = .int .i64 j ∧ u = .int .i64 (k + 5 * j) ∧ Hid (IW L B w wr) ∧ Hid (CpsMarked wr L B a k j)) (fun _ i _ => n - (intOf i).toNat)
  case atStart => exact ⟨0, Nat.zero_le _, rfl, by simp, IW.refl _ _ _, fun q hq => absurd hq (by omega)⟩
  case round =>
    obtain ⟨j, hj, rfl, rfl, hw, hq⟩ := hrel
    by_cases hlt : j < n
    · have hjx : j < xs.length := by have := hx.out; omega
      obtain ⟨g, rfl, hbB, hz, hc⟩ := ha.out j hjx
      obtain ⟨⟨u0, u1, u2, u3, u4⟩, hia⟩ := hc.iw hw.out
      have HIA := hide hia
      obtain ⟨e0, e1, e2, e3, e4⟩ := hia
      dsimp only at e0 e1 e2 e3 e4
      have fz := fun q => (hw.out.frozen ⟨g, q, none⟩).trans (hz q)
      have f0 := fz (j * 5)
      have f1 := fz (j * 5 + 1)
      have f2 := fz (j * 5 + 2)
      have f3 := fz (j * 5 + 3)
      have f4 := fz (j * 5 + 4)
      clear hc hz fz
      go_wp2
      refine ⟨⟨j + 1, by omega, by go_num, by go_num, hw.out.set5 hbB e0 e1 e2 e3 e4 _ _ _ _ _, fun q hqj => ⟨g, rfl, hbB, ?_⟩⟩, by simp [intOf]; omega⟩
      by_cases e : q = j
      · subst e
        refine cast (congrArg (InsAt _ g (q * 5)) ?_) (cp5_at HIA.out _ _ _ _ _)
        unfold mkCp
        congr 1 <;> omega
      · obtain ⟨g', e', _, hc'⟩ := hq.out q (by omega)
        cases e'
        exact cp5_other hc' (by omega) _ _ _ _ _
    · have hjn : j = n := by omega
      subst hjn
      go_wp2
      go_ret
      exact ⟨rfl, hw.out, hq.out⟩

set_option maxHeartbeats 1000000 in
theorem heldCps_any (a : Option Addr) (n c : Nat) (k : Int) (L B : Nat) (w : World) (ha : Hid (CpsMarked w L B a k n)) (hn : n ≤ 1048576) (h0 : 0 ≤ k) (h1 : k ≤ 1000000000) :
    Calls Tryd.prog 37 #[.slice a n c, .int .i64 k] w fun e w' => e = .returned (.int .i64 (k + 5 * n)) ∧ w' = w := by
  go_enter Tryd.func37, Tryd.ntmps37
  go_wp2
  go_loop [1, 5] (fun u i => ∃ j : Nat, j ≤ n ∧ i = .int .i64 j ∧ u = .int .i64 (k + 5 * j)) (fun _ i => n - (intOf i).toNat)
  case atStart => exact ⟨0, Nat.zero_le _, rfl, by simp⟩
  case round =>
    obtain ⟨j, hj, rfl, rfl⟩ := hrel
    by_cases hlt : j < n
    · obtain ⟨g, rfl, -, e0, e1, e2, e3, e4⟩ := ha.out j hlt
      dsimp only [mkCp] at e0 e1 e2 e3 e4
      go_wp2
      go_round
      case rel => exact ⟨j + 1, by omega, by go_num, by go_num⟩
      case measure => simp [intOf]; omega
    · have hjn : j = n := by omega
      subst hjn
      go_wp2
      go_ret
      exact ⟨rfl, rfl⟩

set_option maxHeartbeats 400000 in
theorem szMoves_any (a : Option Addr) (n c : Nat) (l : Int) (w : World) (hn : n ≤ 9223372036854775807) (h0 : 0 ≤ l) (h1 : l ≤ 1048576) :
    Calls Tryd.prog 29 #[.slice a n c, .int .i64 l] w fun e w' => e = .returned (.int .i64 (szR l n)) ∧ w' = w := by
  by_cases h : l < n
  · go_enter Tryd.func29, Tryd.ntmps29
    go_wp2
    go_ret
    exact ⟨ret_int (szR_neg h).symm, rfl⟩
  · go_enter Tryd.func29, Tryd.ntmps29
    go_wp2
    go_ret
    exact ⟨ret_int (szR_pos (by omega)).symm, rfl⟩
set_option maxHeartbeats 400000 in
theorem toMove_any (a b : Int) (w : World) :
    Calls Tryd.prog 80 #[.agg #[.int .i64 a, .int .i64 b]] w fun e w' => e = .returned (.agg #[.int .i64 a, .int .i64 b]) ∧ Below w.heap.size w w' ∧ Thaw w.heap.size w' := by
  go_enter Tryd.func80, Tryd.ntmps80
  go_wp2
  exact bodyPost_ret (v := .agg #[.int .i64 a, .int .i64 b]) (by simp [results, Tryd.results80, go_sem]) rfl ⟨rfl, balloc (balloc (balloc (Below.refl _ _) _) _) _, (((Thaw.start _).alloc _ _).alloc _ _).alloc _ _⟩
theorem mv_step {w : World} {b t N : Nat} {f : Nat → Value} (hr : w.rowIs b t N f) (xs : List Mv) (k : Nat) (hk : k < xs.length) (hN : xs.length * 2 ≤ N) (old : ∀ j (h : j < xs.length), j < k → w.cell? ⟨b, j * 2, none⟩ = some (.int .i64 xs[j].to) ∧ w.cell? ⟨b, j * 2 + 1, none⟩ = some (.int .i64 xs[j].frm)) :
    ∀ j (h : j < xs.length), j < k + 1 → ((w.setCell ⟨b, k * 2, none⟩ (.int .i64 xs[k].to)).setCell ⟨b, k * 2 + 1, none⟩ (.int .i64 xs[k].frm)).cell? ⟨b, j * 2, none⟩ = some (.int .i64 xs[j].to) ∧ ((w.setCell ⟨b, k * 2, none⟩ (.int .i64 xs[k].to)).setCell ⟨b, k * 2 + 1, none⟩ (.int .i64 xs[k].frm)).cell? ⟨b, j * 2 + 1, none⟩ = some (.int .i64 xs[j].frm) := fun j h hj => by
  by_cases e : j = k
  · subst e
    have c0 := hr.cell (i := j * 2) (by omega)
    have c1 := hr.cell (i := j * 2 + 1) (by omega)
    constructor
    · rw [oth _ _ (by omega)]; exact World.cell?_setCell_same _ _ _ c0
    · exact World.cell?_setCell_same _ _ _ ((oth _ _ (by omega) _).trans c1)
  · obtain ⟨h1, h2⟩ := old j h (by omega)
    rw [oth _ _ (by omega), oth _ _ (by omega), oth _ _ (by omega), oth _ _ (by omega)]
    exact ⟨h1, h2⟩
set_option maxHeartbeats 1000000 in
theorem toMoves_any (a : Option Addr) (n c : Nat) (xs : List Mv) (L B : Nat) (w : World) (ha : Hid (MvsAt w L B a xs)) (hx : Hid (n = xs.length)) (hn : n ≤ 1048576) (hB : B ≤ w.heap.size) :
    Calls Tryd.prog 31 #[.slice a n c] w fun e w' => e = .returned (.slice (some ⟨w.heap.size, 0, none⟩) n n) ∧ Below w.heap.size w w' ∧ MvsAt w' w.heap.size w'.heap.size (some ⟨w.heap.size, 0, none⟩) xs ∧ Thaw w.heap.size w' := by
  have hmk := run_make_rows (P := Tryd.prog) 52 111 _ 2 16 Tryd.underlying52 Tryd.infoMv n (by omega) (by omega)
  go_enter Tryd.func31, Tryd.ntmps31
  go_wp2
  go_loopw [4] (fun i wr => ∃ k : Nat, k ≤ n ∧ i = .int .i64 k ∧ Below w.heap.size w wr ∧ Hid (Thaw w.heap.size wr) ∧ Hid (∃ f, wr.rowIs w.heap.size 111 (n * 2) f) ∧ Hid (∀ j (h : j < xs.length), j < k → wr.cell? ⟨w.heap.size, j * 2, none⟩ = some (.int .i64 xs[j].to) ∧ wr.cell? ⟨w.heap.size, j * 2 + 1, none⟩ = some (.int .i64 xs[j].frm))) (fun i _ => n - (intOf i).toNat)
  case atStart => exact ⟨0, Nat.zero_le _, rfl, balloc (Below.refl _ _) _, (Thaw.start _).alloc _ _, ⟨_, rowIs_born _ _ _ _⟩, fun j _ h => absurd h (by omega)⟩
  case round =>
    obtain ⟨k, hk, rfl, hw, hth, hf, hg⟩ := hrel
    by_cases hlt : k < n
    · have hkx : k < xs.length := by have := hx.out; omega
      obtain ⟨b, o, rfl, ⟨_, hbB⟩, hc0, hc1⟩ := ha.out k hkx
      have e0 := (hw.cell (p := ⟨b, o + k * 2, none⟩) (by show b < _; omega)).trans hc0
      have e1 := (hw.cell (p := ⟨b, o + k * 2 + 1, none⟩) (by show b < _; omega)).trans hc1
      obtain ⟨f, hr⟩ := hf.out
      have HR := hide hr
      clear hc0 hc1 hf hr
      generalize hX : xs[k] = X at *
      have HX := hide hX
      clear hX
      go_wp2_with (go_at_call 80; refine (toMove_any _ _ _).mono ?_; rintro e w1 ⟨rfl, hb1, ht1⟩; have HT1 := hide ht1; clear ht1; have hr1 := HR.out.of_block (hb1.block _ HR.out.lt); have g0 := hr1.cell (i := k * 2) (by omega); have g1 := hr1.cell (i := k * 2 + 1) (by omega); have z0 := hr1.frozen (k * 2); have z1 := hr1.frozen (k * 2 + 1); have HR1 := hide hr1; clear hr1)
      rw [← unhide HX]
      have h1 : ∀ j (h : j < xs.length), j < k → w1.cell? ⟨w.heap.size, j * 2, none⟩ = some (.int .i64 xs[j].to) ∧ w1.cell? ⟨w.heap.size, j * 2 + 1, none⟩ = some (.int .i64 xs[j].frm) := fun j h hj => by
        obtain ⟨q0, q1⟩ := hg.out j h hj
        have hh := hb1.block _ HR.out.lt
        exact ⟨(cell_of hh).trans q0, (cell_of hh).trans q1⟩
      have h2 := mv_step HR1.out xs k hkx (by have := hx.out; omega) h1
      exact ⟨⟨k + 1, by omega, by go_num, below_setCells _ [.int .i64 xs[k].to, .int .i64 xs[k].frm] (k * 2) _ _ (bnext hw hb1) (Nat.le_refl _), ((hth.out.trans hb1 HT1.out).setCell _ _).setCell _ _, rowIs_setCells [.int .i64 xs[k].to, .int .i64 xs[k].frm] (k * 2) _ _ HR1.out, h2⟩, by simp [intOf]; omega⟩
    · go_wp2
      go_ret
      obtain ⟨f, hr⟩ := hf.out
      refine ⟨rfl, hw, fun j hj => ⟨w.heap.size, 0, rfl, ⟨Nat.le_refl _, hr.lt⟩, ?_⟩, hth.out⟩
      rw [Nat.zero_add]
      exact hg.out j hj (by have := hx.out; omega)
set_option maxHeartbeats 400000 in
theorem eqMove_yes (a b : Int) (w : World) :
    Calls Tryd.prog 85 #[.agg #[.int .i64 a, .int .i64 b], .agg #[.int .i64 a, .int .i64 b]] w fun e w' => e = .returned (.bool true) ∧ Below w.heap.size w w' := by
  go_enter Tryd.func85, Tryd.ntmps85
  go_wp2
  go_ret
  exact ⟨rfl, balloc (balloc (Below.refl _ _) _) _⟩
end Go.Proofs.YtdcdgopblbmgoaaDoor
