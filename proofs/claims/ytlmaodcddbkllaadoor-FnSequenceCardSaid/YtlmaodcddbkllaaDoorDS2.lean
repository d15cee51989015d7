import Derived.Test.YtlmaodcddbkllaaDoorDR2
import Derived.Test.YtlmaodcddbkllaaDoorSQ3
/-
  The draw of moves: what holds while numbers are drawn.
-/
namespace Go.Proofs.YtlmaodcddbkllaaDoor
open Go.RowKit

/-- Numbers are being drawn: the source lies in the first block that was made. -/
structure DrW (w wr : World) (B : Nat) (s : Sr) : Prop where
  low : Below w.heap.size w wr
  src : SrAt wr w.heap.size (w.heap.size + 1) B s
  ok : SrOk s
  bB : w.heap.size + 1 ≤ B
  sB : B ≤ wr.heap.size
theorem DrW.drew {w wr : World} {B : Nat} {s : Sr} (h : DrW w wr B s) : DrW w wr.drew B s := ⟨h.low.drew, h.src.drew, h.ok, h.bB, h.sB⟩
theorem SrAt.block {w w' : World} {b L B : Nat} {s : Sr} (h : SrAt w b L B s) (hb : w'.heap[b]? = w.heap[b]?) (hk : ∀ k, L ≤ k → k < B → w'.heap[k]? = w.heap[k]?) : SrAt w' b L B s := by
  obtain ⟨a, c, e0, hbb⟩ := h.c0
  have ce : ∀ q, w'.cell? ⟨b, q, none⟩ = w.cell? ⟨b, q, none⟩ := fun q => World.cell?_of_block hb
  exact ⟨⟨a, c, (ce 0).trans e0, hbb.keepS hk⟩, (ce 1).trans h.c1, (ce 2).trans h.c2, (ce 3).trans h.c3, fun q => (World.frozen?_of_block hb).trans (h.thaw q), h.out⟩
/-- Whatever turns nothing below B keeps it. -/
theorem DrW.keep {w wr w' : World} {B : Nat} {s : Sr} (h : DrW w wr B s) (hk : Below B wr w') : DrW w w' B s := by
  have h1 := h.bB
  exact ⟨h.low.trans (hk.mono (by omega)), h.src.block (hk.block _ (by omega)) (fun k _ h2 => hk.block k h2), h.ok, h.bB, Nat.le_trans h.sB hk.size⟩
theorem next_dr (w wr : World) (B : Nat) (s : Sr) (n : Int) (h : Hid (DrW w wr B s)) (hn : n ≤ 1000000) (hn0 : -1000000 ≤ n) :
    Calls Tryd.prog 71 #[.pointer (some ⟨w.heap.size, 0, none⟩), .int .i64 n] wr fun e w' => e = .returned (.int .i64 (nextP s n).1) ∧ DrW w w' B (nextP s n).2 ∧ wr.grownBy w' (some w.heap.size) := by
  refine (next_any w.heap.size (w.heap.size + 1) B s n wr (hide h.out.src) (hide h.out.ok) hn hn0).mono ?_
  rintro e w' ⟨rfl, hs, hg⟩
  have h1 := h.out.bB
  have h2 := h.out.sB
  exact ⟨rfl, ⟨h.out.low.grown hg (by omega) (fun k e => by cases e; exact Nat.le_refl _), hs, next_ok h.out.ok _, h1, Nat.le_trans h2 hg.size⟩, hg⟩
theorem own_grown {w w' : World} {B t sz b n : Nat} {v : Value} {cs : List Value} (h : w.ownsRow B t sz v n cs) (hg : w.grownBy w' (some b)) (hb : b < B) : w'.ownsRow B t sz v n cs :=
  h.kept hg (by
    cases e : v.ownBlock with
    | none => exact Or.inl rfl
    | some k => exact Or.inr (fun e2 => by cases e2; have := (h.lt _ e).1; omega))
theorem own_blk {w w1 : World} {B t s g : Nat} {n c : Nat} {xs : List Value} (h : w.ownsRow B t s (.slice (some ⟨g, 0, none⟩) n c) n xs) (k : w1.heap[g]? = w.heap[g]?) : w1.ownsRow B t s (.slice (some ⟨g, 0, none⟩) n c) n xs := by
  obtain ⟨hl, h | ⟨g', cap, cur, e, hg, hh, hc⟩⟩ := h
  · exact ⟨hl, Or.inl h⟩
  · cases e
    exact ⟨hl, Or.inr ⟨g, c, cur, rfl, hg, k.trans hh, hc⟩⟩
/-- A cell of an owned row is written. -/
theorem own_set {w : World} {B t sz g n c k : Nat} {cs : List Value} (h : w.ownsRow B t sz (.slice (some ⟨g, 0, none⟩) n c) n cs) (u : Value) : (w.setCell ⟨g, k, none⟩ u).ownsRow B t sz (.slice (some ⟨g, 0, none⟩) n c) n (cs.set k u) := by
  obtain ⟨hl, h0 | ⟨g', cap, cur, e, hg, hh, hc, hm, hs, ht⟩⟩ := h
  · cases h0.1
  · cases e
    refine ⟨by rw [List.length_set]; exact hl, Or.inr ⟨g, c, cur.setIfInBounds k u, rfl, hg, ?_, hc, hm, by rw [Array.size_setIfInBounds]; exact hs, ?_⟩⟩
    · exact heap_setCell_same w g k cur t u hh
    · rw [Array.toList_setIfInBounds, List.take_set, ht]
theorem mvV_set : ∀ (xs : List Mv) (i : Nat) (m : Mv), mvV (xs.set i m) = ((mvV xs).set (i * 2) (.int .i64 m.to)).set (i * 2 + 1) (.int .i64 m.frm)
  | [], _, _ => by simp [mvV]
  | x :: xs, 0, m => rfl
  | x :: xs, i + 1, m => by
    rw [List.set_cons_succ, mvV_cons, mvV_cons, mvV_set xs i m, show (i + 1) * 2 = i * 2 + 1 + 1 by omega]
    rfl
theorem own_some' {w : World} {base e s n : Nat} {v : Value} {cs : List Value} (h : w.ownsRow base e s v n cs) (hn : 0 < n) : ∃ g c, v = .slice (some ⟨g, 0, none⟩) n c ∧ (base ≤ g ∧ g < w.heap.size) ∧ n ≤ c := by
  rcases own_form h with ⟨_, e, _⟩ | h
  · omega
  · exact h
/-- The two cells of a move in a row that the call owns. -/
theorem own_move {w : World} {B g n c i : Nat} {xs : List Mv} (h : w.ownsRow B 58 2 (.slice (some ⟨g, 0, none⟩) n c) n (mvV xs)) (hi : i < xs.length) : w.cell? ⟨g, i * 2, none⟩ = some (.int .i64 xs[i].to) ∧ w.cell? ⟨g, i * 2 + 1, none⟩ = some (.int .i64 xs[i].frm) :=
  ⟨own_cell h (mvV_at xs i hi).1, own_cell h (mvV_at xs i hi).2⟩
theorem own_setMv {w : World} {B g n c i : Nat} {xs : List Mv} (h : w.ownsRow B 58 2 (.slice (some ⟨g, 0, none⟩) n c) n (mvV xs)) (m : Mv) : ((w.setCell ⟨g, i * 2, none⟩ (.int .i64 m.to)).setCell ⟨g, i * 2 + 1, none⟩ (.int .i64 m.frm)).ownsRow B 58 2 (.slice (some ⟨g, 0, none⟩) n c) n (mvV (xs.set i m)) := by
  rw [mvV_set]
  exact own_set (own_set h _) _
theorem set2_0 {w : World} {g i p : Nat} {x y : Value} (h : w.cell? ⟨g, p * 2, none⟩ = some x) : ((w.setCell ⟨g, i * 2, none⟩ x).setCell ⟨g, i * 2 + 1, none⟩ y).cell? ⟨g, p * 2, none⟩ = some x := by
  rw [set_other _ _ (by omega) _]
  by_cases e : i = p
  · subst e; exact World.cell?_setCell_same _ _ _ h
  · rw [set_other _ _ (by omega) _]; exact h
theorem set2_1 {w : World} {g i p : Nat} {x y : Value} (h : w.cell? ⟨g, p * 2 + 1, none⟩ = some y) : ((w.setCell ⟨g, i * 2, none⟩ x).setCell ⟨g, i * 2 + 1, none⟩ y).cell? ⟨g, p * 2 + 1, none⟩ = some y := by
  by_cases e : i = p
  · subst e; exact World.cell?_setCell_same _ _ _ ((set_other _ _ (by omega) _).trans h)
  · rw [set_other _ _ (by omega) _, set_other _ _ (by omega) _]; exact h
theorem mvV_setTo : ∀ (xs : List Mv) (i : Nat) (t : Int) (d : Mv), i < xs.length → mvV (xs.set i ⟨t, (xs.getD i d).frm⟩) = (mvV xs).set (i * 2) (.int .i64 t)
  | [], _, _, _, h => absurd h (by simp)
  | x :: xs, 0, t, d, _ => rfl
  | x :: xs, i + 1, t, d, h => by
    rw [List.getD_cons_succ, List.set_cons_succ, mvV_cons, mvV_cons, mvV_setTo xs i t d (by simpa using h), show (i + 1) * 2 = i * 2 + 1 + 1 by omega]
    rfl
theorem mvV_setFrm : ∀ (xs : List Mv) (i : Nat) (t : Int) (d : Mv), i < xs.length → mvV (xs.set i ⟨(xs.getD i d).to, t⟩) = (mvV xs).set (i * 2 + 1) (.int .i64 t)
  | [], _, _, _, h => absurd h (by simp)
  | x :: xs, 0, t, d, _ => rfl
  | x :: xs, i + 1, t, d, h => by
    rw [List.getD_cons_succ, List.set_cons_succ, mvV_cons, mvV_cons, mvV_setFrm xs i t d (by simpa using h), show (i + 1) * 2 = i * 2 + 1 + 1 by omega]
    rfl
theorem nat_of {x : Int} (h : 0 ≤ x) : ∃ m : Nat, x = m := ⟨x.toNat, by omega⟩
theorem own_ints0 (w : World) {B : Nat} (h : B ≤ w.heap.size) : (w.alloc (.cells #[] 2)).ownsRow B 2 1 (.slice (some ⟨w.heap.size, 0, none⟩) 0 0) 0 ((iota 0).map (Value.int .i64)) := by
  have := World.ownsRow_lit (base := B) (e := 2) (size := 1) w #[] 0 h (by simp) rfl
  simpa [iota] using this
end Go.Proofs.YtlmaodcddbkllaaDoor
