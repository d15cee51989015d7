import Derived.Test.YtanaeindldcapaaDoorDF1
import Derived.Test.YtanaeindldcapaaDoorW9
import Derived.Lib.AppendZerosOnto
import Derived.Lib.Walk
import Derived.Lib.SliceRun
import Derived.Test.YtanaeindldcapaaDoorW3
import Derived.Deep.LoopGhost
import Derived.WalkMore
namespace Go.Proofs.YtanaeindldcapaaDoor
open Go.RowKit
/-- A row of sets, each in a block of its own. -/
structure SetsAt (w : World) (G n K : Nat) (gs : Nat → Nat) (Ws : Nat → Nat → Nat) : Prop where
  row : w.rowIs G 43 n (fun i => .slice (some ⟨gs i, 0, none⟩) K K)
  set : ∀ i, i < n → w.rowIs (gs i) 102 K (fun j => .int .u64 (Ws i j))
  inj : ∀ i j, i < n → j < n → gs i = gs j → i = j
  out : ∀ i, i < n → gs i ≠ G
theorem run_makeS {P : Program} (t e : TypeId) (z : Value) (size bytes : Nat) (ht : P.underlying t = some (.slice e)) (hinfo : (P.info? e).map (fun i => (i.zero, i.size, i.bytes)) = some (some z, size, bytes))
    (n : Nat) (hbytes : bytes * n ≤ 281474976710656) (h63 : n ≤ 9223372036854775807) (w : World) :
    (Instr.makeSlice t (.int .i64 (n : Int)) (.int .i64 (n : Int))).run P w = .ok (.slice (some ⟨w.heap.size, 0, none⟩) n n) (w.alloc (.cells (madeCells z.cells (n * size)) e)) := by
  obtain ⟨i, hi, hq⟩ := Option.map_eq_some_iff.1 hinfo
  simp only [Prod.mk.injEq] at hq
  obtain ⟨hz, hsz, hbt⟩ := hq
  have h := run_make (P := P) w t e i z ht hi hz .i64 .i64 (n : Int) (n : Int) (by omega) (Int.le_refl _) (by rw [hbt, ← Int.natCast_mul]; omega) (by omega)
  simp only [Int.toNat_natCast, hsz] at h
  exact h
/-- The first q sets of the row are made. -/
structure SetsTo (w wr : World) (G n K q : Nat) (gs : Nat → Nat) : Prop where
  low : Below w.heap.size w wr
  base : w.heap.size ≤ G
  row : wr.rowIs G 43 n (fun i => if i < q then .slice (some ⟨gs i, 0, none⟩) K K else .slice none 0 0)
  set : ∀ i, i < q → wr.rowIs (gs i) 102 K (fun _ => .int .u64 ((0 : Nat) : Int))
  inj : ∀ i j, i < q → j < q → gs i = gs j → i = j
  up : ∀ i, i < q → G < gs i
theorem SetsTo.next {w wr w1 : World} {G n K q g : Nat} {gs : Nat → Nat} (h : SetsTo w wr G n K q gs) (hq : q < n) (hb : Below wr.heap.size wr w1) (hg : wr.heap.size ≤ g) (hr : w1.rowIs g 102 K (fun _ => .int .u64 ((0 : Nat) : Int))) :
    SetsTo w (w1.setCell ⟨G, q, none⟩ (.slice (some ⟨g, 0, none⟩) K K)) G n K (q + 1) (fun i => if i = q then g else gs i) ∧ w1.cell? ⟨G, q, none⟩ = some (.slice none 0 0) ∧ w1.frozen? ⟨G, q, none⟩ = false := by
  have hGl : G < wr.heap.size := h.row.lt
  have hrow : w1.rowIs G 43 n (fun i => if i < q then .slice (some ⟨gs i, 0, none⟩) K K else .slice none 0 0) := h.row.of_block (hb.block G hGl)
  have hgl : ∀ i, i < q → gs i < wr.heap.size := fun i hi => (h.set i hi).lt
  refine ⟨⟨(h.low.trans (hb.mono h.low.size)).setCell h.base _, h.base, (hrow.set q _).congr (fun i _ => ?_), fun i hi => ?_, fun i j hi hj e => ?_, fun i hi => ?_⟩, (hrow.cell hq).trans (by simp), hrow.frozen q⟩
  · by_cases e : i = q
    · subst e; simp
    · rw [if_neg e]
      by_cases e2 : i < q
      · rw [if_pos e2, if_pos (by omega)]; simp [e]
      · rw [if_neg e2, if_neg (by omega)]
  · by_cases e : i = q
    · rw [if_pos e]; exact hr.setOther (by show g ≠ G; omega) _
    · rw [if_neg e]
      have := h.up i (by omega)
      exact ((h.set i (by omega)).of_block (hb.block _ (hgl i (by omega)))).setOther (by show gs i ≠ G; omega) _
  · by_cases e1 : i = q
    · by_cases e2 : j = q
      · rw [e1, e2]
      · rw [if_pos e1, if_neg e2] at e
        have := hgl j (by omega); omega
    · by_cases e2 : j = q
      · rw [if_neg e1, if_pos e2] at e
        have := hgl i (by omega); omega
      · rw [if_neg e1, if_neg e2] at e
        exact h.inj i j (by omega) (by omega) e
  · by_cases e : i = q
    · show G < if i = q then g else gs i
      rw [if_pos e]; omega
    · show G < if i = q then g else gs i
      rw [if_neg e]; exact h.up i (by omega)
/-- A row that is turned round as far as i. -/
def RevTo (L xs : List Int) (i : Nat) : Prop := xs.length = L.length ∧ ∀ k (h : k < L.length), xs[k]? = some (if k < i ∨ L.length ≤ k + i then L[L.length - 1 - k] else L[k])
theorem rev_zero (L : List Int) : RevTo L L 0 := ⟨rfl, fun k h => by rw [if_neg (by omega), List.getElem?_eq_getElem h]⟩
theorem rev_done {L xs : List Int} {i : Nat} (h : RevTo L xs i) (hi : L.length ≤ 2 * i + 1) : xs = L.reverse := by
  refine List.ext_getElem? (fun k => ?_)
  by_cases hk : k < L.length
  · rw [h.2 k hk, List.getElem?_reverse hk, List.getElem?_eq_getElem (by omega)]
    split
    · rfl
    · have e : L.length - 1 - k = k := by omega
      simp only [e]
  · rw [List.getElem?_eq_none (by rw [h.1]; omega), List.getElem?_eq_none (by rw [List.length_reverse]; omega)]
theorem rev_step {L xs : List Int} {i : Nat} (h : RevTo L xs i) (hi : 2 * i + 1 < L.length) (h1 : i < xs.length) (h2 : L.length - 1 - i < xs.length) : RevTo L ((xs.set i xs[L.length - 1 - i]).set (L.length - 1 - i) xs[i]) (i + 1) := by
  refine ⟨by rw [List.length_set, List.length_set]; exact h.1, fun k hk => ?_⟩
  have e1 := h.2 i (by omega)
  have e2 := h.2 (L.length - 1 - i) (by omega)
  rw [List.getElem?_eq_getElem h1, if_neg (by omega)] at e1
  rw [List.getElem?_eq_getElem h2, if_neg (by omega)] at e2
  injection e1 with e1
  injection e2 with e2
  rw [List.getElem?_set, List.length_set]
  by_cases c1 : L.length - 1 - i = k
  · subst c1
    rw [if_pos rfl, if_pos h2, if_pos (by omega), e1]
    have e : L.length - 1 - (L.length - 1 - i) = i := by omega
    simp only [e]
  · rw [if_neg c1, List.getElem?_set]
    by_cases c2 : i = k
    · subst c2
      rw [if_pos rfl, if_pos h1, if_pos (by omega), e2]
    · rw [if_neg c2, h.2 k hk]
      by_cases c3 : k < i ∨ L.length ≤ k + i
      · rw [if_pos c3, if_pos (by omega)]
      · rw [if_neg c3, if_neg (by omega)]
set_option maxHeartbeats 1000000 in
set_option maxRecDepth 100000 in
theorem reverse_any (g n c B : Nat) (L : List Int) (w : World) (hn : n ≤ 1000000) (hx : Hid (n = L.length)) (ho : Hid (w.ownsRow B 2 1 (.slice (some ⟨g, 0, none⟩) n c) n (L.map (Value.int .i64)))) :
    Calls Tryd.prog 73 #[.slice (some ⟨g, 0, none⟩) n c] w fun e w' => e = .returned (.tuple #[]) ∧ w.grownBy w' (some g) ∧ w'.ownsRow B 2 1 (.slice (some ⟨g, 0, none⟩) n c) n (L.reverse.map (Value.int .i64)) := by
  go_enter Tryd.func73, Tryd.ntmps73
  go_wp2
  go_loopw [2, 3] (fun u v wr => ∃ (i : Nat) (xs : List Int), u = .int .i64 i ∧ v = .int .i64 ((n : Int) - 1 - i) ∧ 2 * i ≤ n ∧ Hid (RevTo L xs i) ∧ Hid (w.grownBy wr (some g)) ∧ Hid (wr.ownsRow B 2 1 (.slice (some ⟨g, 0, none⟩) n c) n (xs.map (Value.int .i64)))) (fun u _ _ => n - (intOf u).toNat)
  case atStart => exact ⟨0, L, rfl, by go_num, by omega, hide (rev_zero L), hide ⟨rfl, rfl, rfl, Nat.le_refl _, fun _ _ _ => rfl⟩, ho⟩
  case round =>
    obtain ⟨i, xs, rfl, rfl, hi, HR, HG, HO⟩ := hrel
    by_cases hlt : 2 * i + 1 < n
    · have hl := hx.out
      have hl2 := HR.out.1
      obtain ⟨j, hj⟩ : ∃ j : Nat, (n : Int) - 1 - i = j := ⟨n - 1 - i, by omega⟩
      have hjn : j = L.length - 1 - i := by omega
      have h1 : i < xs.length := by omega
      have h2 : L.length - 1 - i < xs.length := by omega
      have h2' : j < xs.length := by omega
      have HRS := hide (rev_step HR.out (by omega) h1 h2)
      have e1 := own_cell HO.out (j := i) (u := .int .i64 xs[i]) (by simp [h1])
      have e2 := own_cell HO.out (j := j) (u := .int .i64 xs[j]) (by simp [h2'])
      have hz := own_thaw HO.out
      have HJ : Hid (xs[L.length - 1 - i] = xs[j]) := hide (by simp only [hjn])
      rw [HJ.out, ← hjn] at HRS
      have hij : i < j := by omega
      have hjn2 : j < n := by omega
      have hin : i < n := by omega
      have hj1 : (j : Int) - 1 = (n : Int) - 1 - (i + 1 : Nat) := by omega
      have HJ1 := hide hj1
      have hc2 : ∀ v, (wr.setCell ⟨g, i, none⟩ v).cell? ⟨g, j, none⟩ = some (.int .i64 xs[j]) := fun v => (set_other _ _ (by omega) _).trans e2
      clear hl hl2 hjn hj1 HJ
      rw [hj]
      generalize xs[i] = vi at *
      generalize xs[j] = vj at *
      go_wp2
      go_region
      go_wp2
      have kk : wr.grownBy ((wr.setCell ⟨g, i, none⟩ (.int .i64 vj)).setCell ⟨g, j, none⟩ (.int .i64 vi)).drew (some g) := ⟨rfl, rfl, rfl, by simp [World.setCell, World.drew], fun k _ hk => (Below.heap_setCell _ _ _ _ (fun e => hk (by rw [e]))).trans (Below.heap_setCell _ _ _ _ (fun e => hk (by rw [e])))⟩
      refine ⟨⟨i + 1, _, by go_num, by rw [HJ1.out], by omega, HRS, hide (HG.out.andThen kk (fun j hj => by cases hj; exact Or.inr rfl)), hide ?_⟩, by simp [intOf]; omega⟩
      rw [List.map_set, List.map_set]
      exact own_set (own_set HO.out _) _
    · have HE : Hid (xs = L.reverse) := hide (rev_done HR.out (by have := hx.out; omega))
      go_wp2
      go_end0
      exact ⟨rfl, HG.out, by rw [← HE.out]; exact HO.out⟩
set_option maxHeartbeats 1000000 in
set_option maxRecDepth 100000 in
theorem cloneI_any (b o n c : Nat) (vs : List Int) (L B : Nat) (w : World) (hv : Hid (IntsAt w L B (some ⟨b, o, none⟩) vs)) (hx : Hid (n = vs.length)) (hn : n ≤ 1000000000) (hB : B ≤ w.heap.size) :
    Calls Tryd.prog 72 #[.slice (some ⟨b, o, none⟩) n c] w fun e w' => ∃ v, e = .returned v ∧ Below w.heap.size w w' ∧ v ≠ .slice none 0 0 ∧ w'.ownsRow w.heap.size 2 1 v vs.length (vs.map (Value.int .i64)) := by
  obtain ⟨i0, hi0, hz0, hz1, hz2⟩ := info_parts Tryd.info2'
  have q22 : ∀ (w : World) (a : Option Addr) (n c n' c' : Nat), (binOp .eql 35 (.slice a n c) (.slice none n' c')).run Tryd.prog w = .ok (.bool a.isNone) w := fun w a n c n' c' => Lib.run_eql_slice_nil w _ _ a n c n' c' Tryd.underlying35
  go_enter Tryd.func72, Tryd.ntmps72
  go_wp2_with (at_builtin; refine wpList_plain rfl fun K hK => wp_append_ints _ _ 35 rfl w.heap.size 2 i0 Tryd.underlying35 hi0 hz0 hz1 hz2 (.slice (some ⟨w.heap.size, 0, none⟩) 0 0) [] rfl (by simpa using World.ownsRow_lit (base := w.heap.size) (e := 2) (size := 1) w #[] 0 (by simp) (by simp) rfl) (by simp) (some ⟨b, o, none⟩) n c vs L B rfl hx.out (hv.out.keep ((balloc (Below.refl w.heap.size w) _).mono hB)) (by simp; omega) (by simp) ?_)
  intro v1 w1 ho1 hg1 hn1
  have HB : Hid (Below w.heap.size w w1) := hide (hg1.below (by simpa using World.ownsRow_lit (base := w.heap.size) (e := 2) (size := 1) w #[] 0 (by simp) (by simp) rfl : (w.alloc (.cells #[] 2)).ownsRow w.heap.size 2 1 (.slice (some ⟨w.heap.size, 0, none⟩) 0 0) 0 []) (balloc (Below.refl _ _) _) (by simp))
  have HO := hide ho1
  have HN := hide hn1
  clear hg1 ho1 hn1
  refine hK _ _ ?_
  go_wp2
  go_ret
  exact ⟨_, rfl, HB.out, HN.out, HO.out⟩
def SameW2 (a b : World) : Prop := a = b
set_option maxHeartbeats 1000000 in
set_option maxRecDepth 100000 in
theorem growNil_any (n : Nat) (w : World) (hn : n ≤ 1000000) :
    Calls Tryd.prog 87 #[.slice none 0 0, .int .i64 n] w fun e w' => ∃ v, e = .returned v ∧ Below w.heap.size w w' ∧ (0 < n → v ≠ .slice none 0 0) ∧ w'.ownsRow w.heap.size 2 1 v 0 [] := by
  obtain ⟨i0, hi0, hz0, hz1, hz2⟩ := info_parts Tryd.info2'
  by_cases h0 : n = 0
  · subst h0
    go_enter Tryd.func87, Tryd.ntmps87
    go_wp2
    go_ret
    exact ⟨_, rfl, Below.refl _ _, fun h => absurd h (by omega), World.ownsRow_nil _ _ _ _⟩
  · have hrz : ∀ ty, (Builtin.append_ #[35, 3] ty #[.slice none 0 0, .int .i64 (n : Int)]).run Tryd.prog w =
        .ok (.slice (some ⟨w.heap.size, 0, none⟩) (0 + n) (grownCap w (0 + n) 0 2)) (w.drew.alloc (.cells (([] : List Value).toArray ++ Builtin.zeroCells (Value.int .i64 0).cells n ++ Builtin.zeroCells (Value.int .i64 0).cells (grownCap w (0 + n) 0 2 - (0 + n))) 2)) := fun ty =>
      Lib.run_append_grow_zeros w 35 3 ty 2 i0 (.int .i64 0) .i64 .i64 Tryd.underlying35 Tryd.underlying3 hi0 hz0 none 0 0 [] (run_firstCells_none w.drew i0.size 0 0 0) n (by omega) (by omega) (by omega) (by omega) (by rw [hz2]; omega) (by rw [hz2]; exact growslice_fits (by omega) (by omega))
    have hGn : 0 + n ≤ grownCap w (0 + n) 0 2 := grownCap_ge w _ _ _
    have hGm := grownCap_le_maxLen w (0 + n) 0 2 (by unfold maxLen; omega)
    rw [Nat.zero_add] at hrz hGn hGm
    have HOW : Hid (∀ W : World, (W.alloc (.cells (([] : List Value).toArray ++ Builtin.zeroCells (Value.int .i64 0).cells n ++ Builtin.zeroCells (Value.int .i64 0).cells (grownCap w n 0 2 - n)) 2)).ownsRow W.heap.size 2 1 (.slice (some ⟨W.heap.size, 0, none⟩) 0 (grownCap w n 0 2)) 0 []) := hide (fun W => World.ownsRow_made W _ _ (Nat.le_refl _) hGm (by simp [size_zeroCells, Value.cells]; omega))
    generalize ([] : List Value).toArray ++ Builtin.zeroCells (Value.int .i64 0).cells n ++ Builtin.zeroCells (Value.int .i64 0).cells (grownCap w n 0 2 - n) = cells at *
    generalize grownCap w n 0 2 = G at *
    unfold maxLen at hGm
    go_enter Tryd.func87, Tryd.ntmps87
    go_wp2_with (at_builtin; refine Lib.wpList_append_run _ rfl _ _ _ _ rfl _ _ rfl rfl _ _ (hrz _) ?_)
    all_goals (go_ret; exact ⟨_, rfl, balloc (Below.refl _ _).drew _, fun _ h => (by cases h), HOW.out w.drew⟩)
set_option maxHeartbeats 1000000 in
set_option maxRecDepth 100000 in
theorem concat2_any (g n1 c1 n2 c2 : Nat) (a1 a2 : Option Addr) (xs ys : List Int) (L1 B1 L2 B2 : Nat) (w : World) (h1 : Hid (IntsAt w L1 B1 a1 xs)) (h2 : Hid (IntsAt w L2 B2 a2 ys)) (e1 : Hid (n1 = xs.length)) (e2 : Hid (n2 = ys.length)) (hn1 : n1 ≤ 1000) (hn2 : n2 ≤ 1000) (hp : 0 < n1 + n2) (hB1 : B1 ≤ w.heap.size) (hB2 : B2 ≤ w.heap.size) (q0 : w.cell? ⟨g, 0, none⟩ = some (.slice a1 n1 c1)) (q1 : w.cell? ⟨g, 1, none⟩ = some (.slice a2 n2 c2)) :
    Calls Tryd.prog 74 #[.slice (some ⟨g, 0, none⟩) 2 2] w fun e w' => ∃ v, e = .returned v ∧ Below w.heap.size w w' ∧ w'.ownsRow w.heap.size 2 1 v (xs ++ ys).length ((xs ++ ys).map (Value.int .i64)) := by
  obtain ⟨i0, hi0, hz0, hz1, hz2⟩ := info_parts Tryd.info2'
  have HGR := hide (growNil_any (n1 + n2) w (by omega))
  go_enter Tryd.func74, Tryd.ntmps74
  go_wp2_with fail
  go_loopw [3, 11] (fun s u wr => SameW2 wr w ∧ ((s = .int .i64 0 ∧ u = .int .i64 0) ∨ (s = .int .i64 n1 ∧ u = .int .i64 1) ∨ (s = .int .i64 ((n1 + n2 : Nat) : Int) ∧ u = .int .i64 2))) (fun _ u _ => 2 - (intOf u).toNat)
  case atStart => exact ⟨rfl, Or.inl ⟨rfl, rfl⟩⟩
  case round =>
    obtain ⟨hW, hst⟩ := hrel
    unfold SameW2 at hW
    have hW' := hW.symm
    subst hW'
    clear hW
    rcases hst with ⟨rfl, rfl⟩ | ⟨rfl, rfl⟩ | ⟨rfl, rfl⟩
    · go_wp2_with fail
      exact ⟨⟨rfl, Or.inr (Or.inl ⟨rfl, rfl⟩)⟩, by simp [intOf]⟩
    · go_wp2_with fail
      exact ⟨⟨rfl, Or.inr (Or.inr ⟨by go_num, rfl⟩)⟩, by simp [intOf]⟩
    · go_wp2_with fail
      refine HGR.out.mono ?_
      rintro e w1 ⟨v, rfl, hb, hne, ho⟩
      have HB := hide hb
      have HO := hide ho
      have HNE := hide (hne hp)
      have hgl : g < w.heap.size := World.block_lt_of_cell? _ _ q0
      clear hb ho hne
      go_wp2_with fail
      go_loopw [6, 27] (fun v u wq => Hid (Below w.heap.size w wq) ∧ Hid (v ≠ .slice none 0 0) ∧ ((u = .int .i64 0 ∧ Hid (wq.ownsRow w.heap.size 2 1 v ([] : List Int).length (([] : List Int).map (Value.int .i64)))) ∨ (u = .int .i64 1 ∧ Hid (wq.ownsRow w.heap.size 2 1 v xs.length (xs.map (Value.int .i64)))) ∨ (u = .int .i64 2 ∧ Hid (wq.ownsRow w.heap.size 2 1 v (xs ++ ys).length ((xs ++ ys).map (Value.int .i64)))))) (fun _ u _ => 2 - (intOf u).toNat)
      case atStart => exact ⟨HB, HNE, Or.inl ⟨rfl, HO⟩⟩
      case round =>
        obtain ⟨HBq, HNq, hst⟩ := hrel
        have qq0 := (HBq.out.cell (p := ⟨g, 0, none⟩) hgl).trans q0
        have qq1 := (HBq.out.cell (p := ⟨g, 1, none⟩) hgl).trans q1
        have hzq := HBq.out.size
        have hx1 : xs.length ≤ 1000 := by have := e1.out; omega
        have hy1 : ys.length ≤ 1000 := by have := e2.out; omega
        rcases hst with ⟨rfl, HOq⟩ | ⟨rfl, HOq⟩ | ⟨rfl, HOq⟩
        · have HI1 := hide (h1.out.keep (HBq.out.mono hB1))
          go_wp2_with (at_builtin; refine wpList_plain rfl fun K hK => wp_append_ints _ _ 35 rfl w.heap.size 2 i0 Tryd.underlying35 hi0 hz0 hz1 hz2 _ [] rfl HOq.out HNq.out a1 n1 c1 xs L1 B1 rfl e1.out HI1.out (by simp; omega) (by omega) ?_)
          intro v2 w2 ho2 hg2 hn2'
          have HB2 := hide (hg2.below HOq.out HBq.out (by omega))
          have HO2 := hide ho2
          have HN2 := hide hn2'
          clear ho2 hg2 hn2'
          refine hK _ _ ?_
          go_wp2_with fail
          exact ⟨⟨HB2, HN2, Or.inr (Or.inl ⟨rfl, HO2⟩)⟩, by simp [intOf]⟩
        · have HI2 := hide (h2.out.keep (HBq.out.mono hB2))
          go_wp2_with (at_builtin; refine wpList_plain rfl fun K hK => wp_append_ints _ _ 35 rfl w.heap.size 2 i0 Tryd.underlying35 hi0 hz0 hz1 hz2 _ xs rfl HOq.out HNq.out a2 n2 c2 ys L2 B2 rfl e2.out HI2.out (by omega) (by omega) ?_)
          intro v2 w2 ho2 hg2 hn2'
          have HB2 := hide (hg2.below HOq.out HBq.out (by omega))
          have HO2 := hide ho2
          have HN2 := hide hn2'
          clear ho2 hg2 hn2'
          refine hK _ _ ?_
          go_wp2_with fail
          exact ⟨⟨HB2, HN2, Or.inr (Or.inr ⟨rfl, hide (by rw [List.length_append, List.map_append]; exact HO2.out)⟩)⟩, by simp [intOf]⟩
        · go_wp2_with fail
          go_ret
          exact ⟨_, rfl, HBq.out, HOq.out⟩
/-- What spread may turn: the sets alone. -/
structure FrS (w w' : World) (n : Nat) (gs : Nat → Nat) : Prop where
  os : w'.os = w.os
  tape : w'.tape = w.tape
  output : w'.output = w.output
  size : w.heap.size ≤ w'.heap.size
  block : ∀ k, k < w.heap.size → (∀ i, i < n → k ≠ gs i) → w'.heap[k]? = w.heap[k]?
theorem FrS.refl (w : World) (n : Nat) (gs : Nat → Nat) : FrS w w n gs := ⟨rfl, rfl, rfl, Nat.le_refl _, fun _ _ _ => rfl⟩
theorem FrS.below {w w1 w2 : World} {n : Nat} {gs : Nat → Nat} (h : FrS w w1 n gs) (k : Below w1.heap.size w1 w2) : FrS w w2 n gs := ⟨k.os.trans h.os, k.tape.trans h.tape, k.output.trans h.output, Nat.le_trans h.size k.size, fun j h1 h2 => (k.block j (Nat.lt_of_lt_of_le h1 h.size)).trans (h.block j h1 h2)⟩
theorem FrS.grown {w w1 w2 : World} {n b : Nat} {gs : Nat → Nat} (h : FrS w w1 n gs) (k : w1.grownBy w2 (some (gs b))) (hb : b < n) : FrS w w2 n gs := ⟨k.os.trans h.os, k.tape.trans h.tape, k.output.trans h.output, Nat.le_trans h.size k.size, fun j h1 h2 => (k.block j (Nat.lt_of_lt_of_le h1 h.size) (fun e => h2 b hb (by injection e))).trans (h.block j h1 h2)⟩
theorem SetsAt.keep {w w' : World} {G n K : Nat} {gs : Nat → Nat} {Ws : Nat → Nat → Nat} (h : SetsAt w G n K gs Ws) (k : Below w.heap.size w w') : SetsAt w' G n K gs Ws :=
  ⟨h.row.of_block (k.block _ h.row.lt), fun i hi => (h.set i hi).of_block (k.block _ (h.set i hi).lt), h.inj, h.out⟩
/-- One set of the row has been written. -/
theorem SetsAt.wrote {w w' : World} {G n K b : Nat} {gs : Nat → Nat} {Ws : Nat → Nat → Nat} {W' : Nat → Nat} (h : SetsAt w G n K gs Ws) (hb : b < n) (k : w.grownBy w' (some (gs b))) (hr : w'.rowIs (gs b) 102 K (fun j => .int .u64 (W' j))) : SetsAt w' G n K gs (fun i => if i = b then W' else Ws i) := by
  refine ⟨h.row.of_block (k.block _ h.row.lt (fun e => h.out b hb (by injection e with e; exact e.symm))), fun i hi => ?_, h.inj, h.out⟩
  by_cases e : i = b
  · subst e
    simpa using hr
  · simp only [if_neg e]
    exact (h.set i hi).of_block (k.block _ (h.set i hi).lt (fun e2 => e (by injection e2 with e2; exact h.inj i b hi hb e2)))
/-- Sets that none of the sets that are written touches. -/
theorem SetsAt.apart {w w' : World} {G2 n K : Nat} {gs gs2 : Nat → Nat} {T : Nat → Nat → Nat} (h : SetsAt w G2 n K gs2 T) (f : FrS w w' n gs) (h1 : ∀ i, i < n → G2 ≠ gs i) (h2 : ∀ i j, i < n → j < n → gs2 i ≠ gs j) : SetsAt w' G2 n K gs2 T :=
  ⟨h.row.of_block (f.block _ h.row.lt h1), fun i hi => (h.set i hi).of_block (f.block _ (h.set i hi).lt (fun j hj => h2 i j hi hj)), h.inj, h.out⟩
def natI (l : List Nat) : List Int := l.map Int.ofNat
def avL (b : Nat) : List Nat := (List.range b).filter fun x => x != 0
def Iav (b : Nat) : Nat → Nat → Nat := fun i => if i = 0 then addsN (fun _ => 0) (avL b) else fun _ => 0
def Tse (b : Nat) : Nat → Nat → Nat := fun i => if i < b then addN (fun _ => 0) i else fun _ => 0
theorem avL_mem {b x : Nat} : x ∈ avL b ↔ x < b ∧ x ≠ 0 := by simp [avL]
theorem iav_has {n b x : Nat} (hx : x < n) : hasN (Iav n b) x = true ↔ b = 0 ∧ x ≠ 0 := by
  unfold Iav
  by_cases e : b = 0
  · rw [if_pos e, has_adds, has_none, Bool.or_false, decide_eq_true_eq, avL_mem]
    exact ⟨fun h => ⟨e, h.2⟩, fun h => ⟨hx, h.2⟩⟩
  · rw [if_neg e, has_none]
    exact ⟨fun h => (by cases h), fun h => absurd h.1 e⟩
theorem tse_has {n b x : Nat} (hb : b < n) : hasN (Tse n b) x = true ↔ x = b := by
  unfold Tse
  rw [if_pos hb, has_add, has_none, Bool.or_false, decide_eq_true_eq]
theorem SetsAt.grown {w w' : World} {G n K b : Nat} {gs : Nat → Nat} {Ws : Nat → Nat → Nat} (h : SetsAt w G n K gs Ws) (k : w.grownBy w' (some b)) (h1 : G ≠ b) (h2 : ∀ i, i < n → gs i ≠ b) : SetsAt w' G n K gs Ws :=
  ⟨h.row.of_block (k.block _ h.row.lt (fun e => h1 (by injection e))), fun i hi => (h.set i hi).of_block (k.block _ (h.set i hi).lt (fun e => h2 i hi (by injection e))), h.inj, h.out⟩
end Go.Proofs.YtanaeindldcapaaDoor
