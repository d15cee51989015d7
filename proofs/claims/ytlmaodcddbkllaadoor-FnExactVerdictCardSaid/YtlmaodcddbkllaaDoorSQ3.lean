import Derived.Test.YtlmaodcddbkllaaDoorSQ2
import Derived.Test.YtlmaodcddbkllaaDoorW7
import Derived.Maps.AppendAt
import Derived.Test.YtlmaodcddbkllaaDoorDR2
/-
  Sequence: rows of moves that a call owns; the model's l4Without.
-/
namespace Go.Proofs.YtlmaodcddbkllaaDoor
open Go.RowKit

def mvV (xs : List Mv) : List Value := xs.flatMap fun m => [.int .i64 m.to, .int .i64 m.frm]
theorem mvV_cons (m : Mv) (xs : List Mv) : mvV (m :: xs) = [.int .i64 m.to, .int .i64 m.frm] ++ mvV xs := rfl
theorem mvV_app (xs ys : List Mv) : mvV (xs ++ ys) = mvV xs ++ mvV ys := by simp [mvV]
theorem mvV_len : ∀ xs : List Mv, (mvV xs).length = xs.length * 2
  | [] => rfl
  | m :: xs => by rw [mvV_cons, List.length_append, mvV_len xs]; simp; omega
theorem mvV_at : ∀ (xs : List Mv) (i : Nat) (h : i < xs.length), (mvV xs)[i * 2]? = some (.int .i64 xs[i].to) ∧ (mvV xs)[i * 2 + 1]? = some (.int .i64 xs[i].frm)
  | [], i, h => absurd h (by simp)
  | m :: xs, 0, _ => ⟨rfl, rfl⟩
  | m :: xs, i + 1, h => by
    have := mvV_at xs i (by simpa using h)
    rw [mvV_cons]
    rw [show (i + 1) * 2 = i * 2 + 1 + 1 by omega]
    simpa using this
theorem addrAdd0 (g j : Nat) : (⟨g, 0, none⟩ : Addr).add j = ⟨g, j, none⟩ := by unfold Addr.add; split <;> simp_all
theorem own_cell {w : World} {base e s g n c : Nat} {cs : List Value} (h : w.ownsRow base e s (.slice (some ⟨g, 0, none⟩) n c) n cs) {j : Nat} {u : Value} (hj : cs[j]? = some u) : w.cell? ⟨g, j, none⟩ = some u := by
  have := h.cells (g := g) rfl j u hj
  rw [addrAdd0] at this
  exact this
theorem own_thaw {w : World} {base e s g n c : Nat} {cs : List Value} (h : w.ownsRow base e s (.slice (some ⟨g, 0, none⟩) n c) n cs) (o : Nat) : w.frozen? ⟨g, o, none⟩ = false := by
  rcases h.2 with ⟨e2, _⟩ | ⟨g', cap, cur, e2, _, hh, _⟩
  · cases e2
  · injection e2 with e3
    injection e3 with e3
    injection e3 with e4
    subst e4
    simp [World.frozen?, hh]
theorem own_form {w : World} {base e s n : Nat} {v : Value} {cs : List Value} (h : w.ownsRow base e s v n cs) : (v = .slice none 0 0 ∧ n = 0 ∧ cs = []) ∨ ∃ g c, v = .slice (some ⟨g, 0, none⟩) n c ∧ (base ≤ g ∧ g < w.heap.size) ∧ n ≤ c := by
  rcases h.2 with ⟨e1, e2⟩ | ⟨g, cap, cur, e1, hb, hh, hc, _⟩
  · refine Or.inl ⟨e1, e2, List.eq_nil_of_length_eq_zero ?_⟩
    rw [h.1, e2, Nat.zero_mul]
  · exact Or.inr ⟨g, cap, e1, ⟨hb, (Array.getElem?_eq_some_iff.1 hh).1⟩, hc⟩
theorem mvs_owned {w : World} {base e : Nat} {v : Value} {n : Nat} {xs : List Mv} (h : w.ownsRow base e 2 v n (mvV xs)) : ∃ a c, v = .slice a xs.length c ∧ n = xs.length ∧ xs.length ≤ c ∧ MvsAt w base w.heap.size a xs := by
  have hl := h.1
  rw [mvV_len] at hl
  have hn : n = xs.length := by omega
  subst hn
  rcases own_form h with ⟨rfl, h0, _⟩ | ⟨g, c, rfl, hg, hc⟩
  · have : xs = [] := List.eq_nil_of_length_eq_zero h0
    subst this
    exact ⟨none, 0, rfl, rfl, Nat.le_refl _, fun i hi => absurd hi (by simp)⟩
  · refine ⟨_, c, rfl, rfl, hc, fun i hi => ⟨g, 0, rfl, hg, ?_, ?_⟩⟩
    · rw [Nat.zero_add]; exact own_cell h (mvV_at xs i hi).1
    · rw [Nat.zero_add]; exact own_cell h (mvV_at xs i hi).2
theorem Tryd.infoMv : (Tryd.prog.info? 58).map (fun i => (i.zero, i.size, i.bytes)) = some (some (.agg #[.int .i64 0, .int .i64 0]), 2, 16) := by kernel_rfl
theorem own_mv0 (w : World) : (w.alloc (.cells #[] 58)).ownsRow w.heap.size 58 2 (.slice (some ⟨w.heap.size, 0, none⟩) 0 0) 0 (mvV []) := by
  have := World.ownsRow_lit (base := w.heap.size) (e := 58) (size := 2) w #[] 0 (by simp) (by simp) rfl
  simpa [mvV] using this
/-- The two cells of a new row of one move. -/
theorem mv_news (w : World) (t f : Int) (ty : Nat) : ∀ j u, ([.int .i64 t, .int .i64 f] : List Value)[j]? = some u → (w.alloc (.cells #[.int .i64 t, .int .i64 f] ty)).cell? ((⟨w.heap.size, 0, none⟩ : Addr).add j) = some u := fun j u hj => by
  rw [addrAdd0]
  match j, hj with
  | 0, hj => simpa using hj
  | 1, hj => simpa using hj
  | j + 2, hj => cases hj

set_option maxHeartbeats 2000000 in
set_option maxRecDepth 100000 in
theorem l4Without_any (a : Option Addr) (n c i : Nat) (xs : List Mv) (L B : Nat) (w : World) (ha : Hid (MvsAt w L B a xs)) (hx : Hid (n = xs.length)) (hn : n ≤ 64) (hi : i < n) (hB : B ≤ w.heap.size) :
    Calls Tryd.prog 156 #[.slice a n c, .int .i64 i] w fun e w' => ∃ v, e = .returned v ∧ Below w.heap.size w w' ∧ w'.ownsRow w.heap.size 58 2 v (xs.eraseIdx i).length (mvV (xs.eraseIdx i)) := by
  obtain ⟨i0, hi0, hz0, hz1, hz2⟩ := info_parts Tryd.infoMv
  go_enter Tryd.func156, Tryd.ntmps156
  go_wp2
  go_loopw [5, 6] (fun v u wr => ∃ j : Nat, j ≤ n ∧ u = .int .i64 j ∧ Hid (Below w.heap.size w wr) ∧ Hid (wr.ownsRow w.heap.size 58 2 v ((xs.take j).eraseIdx i).length (mvV ((xs.take j).eraseIdx i)))) (fun _ u _ => n - (intOf u).toNat)
  case atStart => exact ⟨0, Nat.zero_le _, rfl, hide (balloc (Below.refl _ _) _), hide (by rw [List.take_zero]; exact own_mv0 w)⟩
  case round =>
    obtain ⟨j, hj, rfl, HB, HO⟩ := hrel
    have hwz := HB.out.size
    by_cases hlt : j < n
    · have hjx : j < xs.length := by have := hx.out; omega
      obtain ⟨b, o, rfl, hbB, e0w, e1w⟩ := ha.out j hjx
      have e0 := (HB.out.cell (p := ⟨b, o + j * 2, none⟩) (by show b < _; omega)).trans e0w
      have e1 := (HB.out.cell (p := ⟨b, o + j * 2 + 1, none⟩) (by show b < _; omega)).trans e1w
      clear e0w e1w
      have HT : Hid (xs.take (j + 1) = xs.take j ++ [xs[j]]) := hide (List.take_succ_eq_append_getElem hjx)
      have HL : Hid (((xs.take j).eraseIdx i).length ≤ 64) := hide (Nat.le_trans (List.length_eraseIdx_le _ _) (by simp; omega))
      by_cases hji : j = i
      · have HE : Hid ((xs.take (j + 1)).eraseIdx i = (xs.take j).eraseIdx i) := hide (by
          rw [HT.out, List.eraseIdx_append_of_length_le (by simp; omega), List.eraseIdx_of_length_le (l := xs.take j) (by simp; omega)]
          have : i - (xs.take j).length = 0 := by simp; omega
          rw [this]
          simp)
        subst hji
        clear e0 e1
        go_wp2
        exact ⟨⟨j + 1, by omega, by go_num, HB, hide (by rw [HE.out]; exact HO.out)⟩, by simp [intOf]; omega⟩
      · have hji' : ¬ ((j : Int) = (i : Int)) := by omega
        have HE : Hid ((xs.take (j + 1)).eraseIdx i = (xs.take j).eraseIdx i ++ [xs[j]]) := hide (by
          rw [HT.out]
          by_cases hjl : i < j
          · rw [List.eraseIdx_append_of_lt_length (by simp; omega)]
          · rw [List.eraseIdx_append_of_length_le (by simp; omega), List.eraseIdx_of_length_le (l := xs.take j) (by simp; omega)]
            rw [List.eraseIdx_of_length_le (by simp; omega)])
        generalize hm : xs[j] = m at *
        obtain ⟨t, f⟩ := m
        dsimp only at *
        clear hm HT
        generalize (xs.take j).eraseIdx i = ys at *
        go_wp2_with (at_builtin; refine wpList_append_own_at _ rfl _ _ 54 rfl w.heap.size 58 i0 (.agg #[.int .i64 0, .int .i64 0]) 2 16 Tryd.underlying54 hi0 hz0 hz1 hz2 rfl (by decide) _ _ _ rfl (HO.out.alloc _) ⟨wr.heap.size, 0, none⟩ 1 1 [.int .i64 t, .int .i64 f] rfl rfl ?c1 ?c2 ?c3 ?c4 ?c5 ?_)
        case c1 => exact mv_news _ _ _ _
        case c2 => intro u hu; simp at hu; rcases hu with rfl | rfl <;> rfl
        case c3 => have := HL.out; unfold maxLen; omega
        case c4 => have := HL.out; omega
        case c5 => simp; omega
        intro v1 w1 hown1 hgrow1 hne1 hat1
        have HO1 : Hid (w1.ownsRow w.heap.size 58 2 v1 ((xs.take (j + 1)).eraseIdx i).length (mvV ((xs.take (j + 1)).eraseIdx i))) := hide (by
          rw [HE.out, mvV_app, List.length_append]; exact hown1)
        have HB1 : Hid (Below w.heap.size w w1) := hide (grown_below ((HB.out).alloc (by omega) _) hgrow1 (HO.out.alloc _) (Nat.le_refl _) (by simp; omega))
        clear hown1 hgrow1 hne1 hat1 HO HB HE
        go_wp2
        exact ⟨⟨j + 1, by omega, by go_num, HB1, HO1⟩, by simp [intOf]; omega⟩
    · have hjn : j = n := by omega
      have HO2 : Hid (wr.ownsRow w.heap.size 58 2 u5 (xs.eraseIdx i).length (mvV (xs.eraseIdx i))) := hide (by have := HO.out; rwa [List.take_of_length_le (by have := hx.out; omega)] at this)
      clear HO
      go_wp2
      go_ret
      exact ⟨_, rfl, HB.out, HO2.out⟩
end Go.Proofs.YtlmaodcddbkllaaDoor

/-
  The draw of moves: what holds while numbers are drawn.
-/
namespace Go.Proofs.YtlmaodcddbkllaaDoor
open Go.RowKit

/-- Numbers are being drawn: the source lies in the first block that was made. -/
structure DrW (w wr : World) (B : Nat) (s : Sr) : Prop where
  low : Below w.heap.size w wr
  src : SrAt wr w.heap.size (w.heap.size + 1) B s
  ok : SrOk s
  bB : w.heap.size + 1 ≤ B
  sB : B ≤ wr.heap.size
theorem DrW.drew {w wr : World} {B : Nat} {s : Sr} (h : DrW w wr B s) : DrW w wr.drew B s := ⟨h.low.drew, h.src.drew, h.ok, h.bB, h.sB⟩
theorem SrAt.block {w w' : World} {b L B : Nat} {s : Sr} (h : SrAt w b L B s) (hb : w'.heap[b]? = w.heap[b]?) (hk : ∀ k, L ≤ k → k < B → w'.heap[k]? = w.heap[k]?) : SrAt w' b L B s := by
  obtain ⟨a, c, e0, hbb⟩ := h.c0
  have ce : ∀ q, w'.cell? ⟨b, q, none⟩ = w.cell? ⟨b, q, none⟩ := fun q => World.cell?_of_block hb
  exact ⟨⟨a, c, (ce 0).trans e0, hbb.keepS hk⟩, (ce 1).trans h.c1, (ce 2).trans h.c2, (ce 3).trans h.c3, fun q => (World.frozen?_of_block hb).trans (h.thaw q), h.out⟩
/-- Whatever turns nothing below B keeps it. -/
theorem DrW.keep {w wr w' : World} {B : Nat} {s : Sr} (h : DrW w wr B s) (hk : Below B wr w') : DrW w w' B s := by
  have h1 := h.bB
  exact ⟨h.low.trans (hk.mono (by omega)), h.src.block (hk.block _ (by omega)) (fun k _ h2 => hk.block k h2), h.ok, h.bB, Nat.le_trans h.sB hk.size⟩
theorem next_dr (w wr : World) (B : Nat) (s : Sr) (n : Int) (h : Hid (DrW w wr B s)) (hn : n ≤ 1000000) (hn0 : -1000000 ≤ n) :
    Calls Tryd.prog 71 #[.pointer (some ⟨w.heap.size, 0, none⟩), .int .i64 n] wr fun e w' => e = .returned (.int .i64 (nextP s n).1) ∧ DrW w w' B (nextP s n).2 ∧ wr.grownBy w' (some w.heap.size) := by
  refine (next_any w.heap.size (w.heap.size + 1) B s n wr (hide h.out.src) (hide h.out.ok) hn hn0).mono ?_
  rintro e w' ⟨rfl, hs, hg⟩
  have h1 := h.out.bB
  have h2 := h.out.sB
  exact ⟨rfl, ⟨h.out.low.grown hg (by omega) (fun k e => by cases e; exact Nat.le_refl _), hs, next_ok h.out.ok _, h1, Nat.le_trans h2 hg.size⟩, hg⟩
theorem own_grown {w w' : World} {B t sz b n : Nat} {v : Value} {cs : List Value} (h : w.ownsRow B t sz v n cs) (hg : w.grownBy w' (some b)) (hb : b < B) : w'.ownsRow B t sz v n cs :=
  h.kept hg (by
    cases e : v.ownBlock with
    | none => exact Or.inl rfl
    | some k => exact Or.inr (fun e2 => by cases e2; have := (h.lt _ e).1; omega))
theorem own_blk {w w1 : World} {B t s g : Nat} {n c : Nat} {xs : List Value} (h : w.ownsRow B t s (.slice (some ⟨g, 0, none⟩) n c) n xs) (k : w1.heap[g]? = w.heap[g]?) : w1.ownsRow B t s (.slice (some ⟨g, 0, none⟩) n c) n xs := by
  obtain ⟨hl, h | ⟨g', cap, cur, e, hg, hh, hc⟩⟩ := h
  · exact ⟨hl, Or.inl h⟩
  · cases e
    exact ⟨hl, Or.inr ⟨g, c, cur, rfl, hg, k.trans hh, hc⟩⟩
/-- A cell of an owned row is written. -/
theorem own_set {w : World} {B t sz g n c k : Nat} {cs : List Value} (h : w.ownsRow B t sz (.slice (some ⟨g, 0, none⟩) n c) n cs) (u : Value) : (w.setCell ⟨g, k, none⟩ u).ownsRow B t sz (.slice (some ⟨g, 0, none⟩) n c) n (cs.set k u) := by
  obtain ⟨hl, h0 | ⟨g', cap, cur, e, hg, hh, hc, hm, hs, ht⟩⟩ := h
  · cases h0.1
  · cases e
    refine ⟨by rw [List.length_set]; exact hl, Or.inr ⟨g, c, cur.setIfInBounds k u, rfl, hg, ?_, hc, hm, by rw [Array.size_setIfInBounds]; exact hs, ?_⟩⟩
    · exact heap_setCell_same w g k cur t u hh
    · rw [Array.toList_setIfInBounds, List.take_set, ht]
theorem mvV_set : ∀ (xs : List Mv) (i : Nat) (m : Mv), mvV (xs.set i m) = ((mvV xs).set (i * 2) (.int .i64 m.to)).set (i * 2 + 1) (.int .i64 m.frm)
  | [], _, _ => by simp [mvV]
  | x :: xs, 0, m => rfl
  | x :: xs, i + 1, m => by
    rw [List.set_cons_succ, mvV_cons, mvV_cons, mvV_set xs i m, show (i + 1) * 2 = i * 2 + 1 + 1 by omega]
    rfl
theorem own_some' {w : World} {base e s n : Nat} {v : Value} {cs : List Value} (h : w.ownsRow base e s v n cs) (hn : 0 < n) : ∃ g c, v = .slice (some ⟨g, 0, none⟩) n c ∧ (base ≤ g ∧ g < w.heap.size) ∧ n ≤ c := by
  rcases own_form h with ⟨_, e, _⟩ | h
  · omega
  · exact h
/-- The two cells of a move in a row that the call owns. -/
theorem own_move {w : World} {B g n c i : Nat} {xs : List Mv} (h : w.ownsRow B 58 2 (.slice (some ⟨g, 0, none⟩) n c) n (mvV xs)) (hi : i < xs.length) : w.cell? ⟨g, i * 2, none⟩ = some (.int .i64 xs[i].to) ∧ w.cell? ⟨g, i * 2 + 1, none⟩ = some (.int .i64 xs[i].frm) :=
  ⟨own_cell h (mvV_at xs i hi).1, own_cell h (mvV_at xs i hi).2⟩
theorem own_setMv {w : World} {B g n c i : Nat} {xs : List Mv} (h : w.ownsRow B 58 2 (.slice (some ⟨g, 0, none⟩) n c) n (mvV xs)) (m : Mv) : ((w.setCell ⟨g, i * 2, none⟩ (.int .i64 m.to)).setCell ⟨g, i * 2 + 1, none⟩ (.int .i64 m.frm)).ownsRow B 58 2 (.slice (some ⟨g, 0, none⟩) n c) n (mvV (xs.set i m)) := by
  rw [mvV_set]
  exact own_set (own_set h _) _
theorem set2_0 {w : World} {g i p : Nat} {x y : Value} (h : w.cell? ⟨g, p * 2, none⟩ = some x) : ((w.setCell ⟨g, i * 2, none⟩ x).setCell ⟨g, i * 2 + 1, none⟩ y).cell? ⟨g, p * 2, none⟩ = some x := by
  rw [set_other _ _ (by omega) _]
  by_cases e : i = p
  · subst e; exact World.cell?_setCell_same _ _ _ h
  · rw [set_other _ _ (by omega) _]; exact h
theorem set2_1 {w : World} {g i p : Nat} {x y : Value} (h : w.cell? ⟨g, p * 2 + 1, none⟩ = some y) : ((w.setCell ⟨g, i * 2, none⟩ x).setCell ⟨g, i * 2 + 1, none⟩ y).cell? ⟨g, p * 2 + 1, none⟩ = some y := by
  by_cases e : i = p
  · subst e; exact World.cell?_setCell_same _ _ _ ((set_other _ _ (by omega) _).trans h)
  · rw [set_other _ _ (by omega) _, set_other _ _ (by omega) _]; exact h
theorem mvV_setTo : ∀ (xs : List Mv) (i : Nat) (t : Int) (d : Mv), i < xs.length → mvV (xs.set i ⟨t, (xs.getD i d).frm⟩) = (mvV xs).set (i * 2) (.int .i64 t)
  | [], _, _, _, h => absurd h (by simp)
  | x :: xs, 0, t, d, _ => rfl
  | x :: xs, i + 1, t, d, h => by
    rw [List.getD_cons_succ, List.set_cons_succ, mvV_cons, mvV_cons, mvV_setTo xs i t d (by simpa using h), show (i + 1) * 2 = i * 2 + 1 + 1 by omega]
    rfl
theorem mvV_setFrm : ∀ (xs : List Mv) (i : Nat) (t : Int) (d : Mv), i < xs.length → mvV (xs.set i ⟨(xs.getD i d).to, t⟩) = (mvV xs).set (i * 2 + 1) (.int .i64 t)
  | [], _, _, _, h => absurd h (by simp)
  | x :: xs, 0, t, d, _ => rfl
  | x :: xs, i + 1, t, d, h => by
    rw [List.getD_cons_succ, List.set_cons_succ, mvV_cons, mvV_cons, mvV_setFrm xs i t d (by simpa using h), show (i + 1) * 2 = i * 2 + 1 + 1 by omega]
    rfl
theorem nat_of {x : Int} (h : 0 ≤ x) : ∃ m : Nat, x = m := ⟨x.toNat, by omega⟩
theorem own_ints0 (w : World) {B : Nat} (h : B ≤ w.heap.size) : (w.alloc (.cells #[] 2)).ownsRow B 2 1 (.slice (some ⟨w.heap.size, 0, none⟩) 0 0) 0 ((iota 0).map (Value.int .i64)) := by
  have := World.ownsRow_lit (base := B) (e := 2) (size := 1) w #[] 0 h (by simp) rfl
  simpa [iota] using this
end Go.Proofs.YtlmaodcddbkllaaDoor
