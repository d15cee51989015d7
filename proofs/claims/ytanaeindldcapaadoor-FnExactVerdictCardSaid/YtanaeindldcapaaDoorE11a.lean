import Derived.Test.YtanaeindldcapaaDoorW10
import Derived.Test.YtanaeindldcapaaDoorW9
namespace Go.Proofs.YtanaeindldcapaaDoor
open Go.RowKit
def iB (op : Int) : Bool := decide (op ≤ 2)
def terW (k : Int) : List UInt8 := if k = 1 then [106, 117, 109, 112] else if k = 3 then [114, 101, 116] else [98, 114, 97, 110, 99, 104]
/-- What the two tables hold, words and all. -/
def OpTabW (w : World) : Prop := 0 < w.heap.size ∧ ∀ k : Nat, 1 ≤ k → k ≤ 13 → w.cell? ⟨0, k * 5, none⟩ = some (.string (strOf (wordS k))) ∧ w.cell? ⟨0, k * 5 + 1, none⟩ = some (.bool (dB k)) ∧ w.cell? ⟨0, k * 5 + 2, none⟩ = some (.bool (aB k)) ∧
  w.cell? ⟨0, k * 5 + 3, none⟩ = some (.bool (bB k)) ∧ w.cell? ⟨0, k * 5 + 4, none⟩ = some (.bool (iB k))
def TerTabW (w : World) : Prop := 1 < w.heap.size ∧ ∀ k : Nat, 1 ≤ k → k ≤ 3 → w.cell? ⟨1, k * 4, none⟩ = some (.string (strOf (terW k))) ∧ w.cell? ⟨1, k * 4 + 1, none⟩ = some (.bool ((k : Int) != 1)) ∧ w.cell? ⟨1, k * 4 + 2, none⟩ = some (.bool ((k : Int) != 3)) ∧
  w.cell? ⟨1, k * 4 + 3, none⟩ = some (.bool ((k : Int) == 2))
theorem OpTabW.keep {w w' : World} {B : Nat} (h : OpTabW w) (k : Below B w w') (hB : 0 < B) : OpTabW w' := by
  refine ⟨Nat.lt_of_lt_of_le h.1 k.size, fun i h1 h2 => ?_⟩
  have e := fun o => cell_of (o := o) (k.block 0 hB)
  obtain ⟨c0, c1, c2, c3, c4⟩ := h.2 i h1 h2
  exact ⟨(e _).trans c0, (e _).trans c1, (e _).trans c2, (e _).trans c3, (e _).trans c4⟩
theorem TerTabW.keep {w w' : World} {B : Nat} (h : TerTabW w) (k : Below B w w') (hB : 1 < B) : TerTabW w' := by
  refine ⟨Nat.lt_of_lt_of_le h.1 k.size, fun i h1 h2 => ?_⟩
  have e := fun o => cell_of (o := o) (k.block 1 hB)
  obtain ⟨c0, c1, c2, c3⟩ := h.2 i h1 h2
  exact ⟨(e _).trans c0, (e _).trans c1, (e _).trans c2, (e _).trans c3⟩
theorem OpTabW.old {w : World} (h : OpTabW w) : OpTab w := ⟨h.1, fun k h1 h2 => by
  obtain ⟨c0, c1, c2, c3, c4⟩ := h.2 k h1 h2
  exact ⟨_, c0, c1, c2, c3, _, c4⟩⟩
theorem TerTabW.old {w : World} (h : TerTabW w) : TerTab w := ⟨h.1, fun k h1 h2 => by
  obtain ⟨c0, c1, c2, c3⟩ := h.2 k h1 h2
  exact ⟨_, c0, c1, c2, c3⟩⟩
theorem vals_two1 (w : World) (vs : List Value) (t : TypeId) (us : List Value) (t' : TypeId) : ValsAt ((w.alloc (.cells vs.toArray t)).alloc (.cells us.toArray t')).drew w.heap.size (w.heap.size + 2) (some ⟨w.heap.size, 0, none⟩) vs := fun i hi =>
  ⟨_, 0, rfl, ⟨Nat.le_refl _, by omega⟩, by
    obtain ⟨b, o, e, _, h⟩ := vals_lit w vs t i hi
    cases e
    exact (cell_of (Below.heap_alloc _ _ _ (by simp))).trans h⟩
theorem vals_two2 (w : World) (vs : List Value) (t : TypeId) (us : List Value) (t' : TypeId) : ValsAt ((w.alloc (.cells us.toArray t')).alloc (.cells vs.toArray t)).drew w.heap.size (w.heap.size + 2) (some ⟨w.heap.size + 1, 0, none⟩) vs := fun i hi =>
  ⟨_, 0, rfl, ⟨by omega, by omega⟩, by
    obtain ⟨b, o, e, _, h⟩ := vals_lit (w.alloc (.cells us.toArray t')) vs t i hi
    have e1 : (w.alloc (.cells us.toArray t')).heap.size = w.heap.size + 1 := by simp
    rw [e1] at e
    cases e
    exact h⟩
/-- What a copy reads. -/
def rdI (x : Ins) : List Int := (if aB x.op then [x.a] else []) ++ (if bB x.op then [x.b] else [])
set_option maxHeartbeats 2000000 in
set_option maxRecDepth 100000 in
theorem rdI_any (b k : Nat) (dst a bb imm : Int) (w : World) (hi : Hid (InsAt w b 0 ⟨k, dst, a, bb, imm⟩)) (h1 : 1 ≤ k) (h2 : k ≤ 13) (ht : Hid (OpTabW w)) :
    Calls Tryd.prog 70 #[.pointer (some ⟨b, 0, none⟩)] w fun e w' => ∃ v, e = .returned v ∧ Below w.heap.size w w' ∧ w'.ownsRow w.heap.size 2 1 v (rdI ⟨k, dst, a, bb, imm⟩).length ((rdI ⟨k, dst, a, bb, imm⟩).map (Value.int .i64)) := by
  obtain ⟨q0, q1, q2, q3, q4⟩ := hi.out
  simp only at q0 q1 q2 q3 q4
  obtain ⟨c0, c1, c2, c3, c4⟩ := ht.out.2 k h1 h2
  have hz := ht.out.1
  have hbl : b < w.heap.size := World.block_lt_of_cell? w _ q2
  have HRI : Hid (rdI ⟨k, dst, a, bb, imm⟩ = (if aB (k : Int) then [a] else []) ++ (if bB (k : Int) then [bb] else [])) := hide rfl
  generalize rdI ⟨k, dst, a, bb, imm⟩ = vs at *
  generalize dB (k : Int) = uD at *
  generalize aB (k : Int) = uA at *
  generalize bB (k : Int) = uB at *
  generalize iB (k : Int) = uI at *
  have HQ2 := hide q2
  have HQ3 := hide q3
  go_enter Tryd.func70, Tryd.ntmps70
  go_wp2_with fail
  have hL9 : (fun x9 : World => x9.heap.size = w.heap.size + 1 ∧ x9.cell? ⟨w.heap.size, 2, none⟩ = some (.bool uA) ∧ x9.cell? ⟨w.heap.size, 3, none⟩ = some (.bool uB) ∧ Hid (Below w.heap.size w x9)) (w.alloc (.cells #[.string (strOf (wordS k)), .bool uD, .bool uA, .bool uB, .bool uI] 119)) := ⟨(by simp), (by simp), (by simp), hide (balloc (Below.refl _ _) _)⟩
  generalize w.alloc (.cells #[.string (strOf (wordS k)), .bool uD, .bool uA, .bool uB, .bool uI] 119) = W0 at *
  obtain ⟨e1, g2, g3, HBW⟩ := hL9
  clear q0 q1 q2 q3 q4 c0 c1 c2 c3 c4
  have HE1 := hide e1
  have hlt : w.heap.size < W0.heap.size := by omega
  clear e1
  have KEY : Hid (∀ (ka fa : Option Addr) (W : World), Below W0.heap.size W0 W → ValsAt W W0.heap.size W.heap.size ka ([uA, uB].map Value.bool) → ValsAt W W0.heap.size W.heap.size fa ([⟨b, 2, none⟩, ⟨b, 3, none⟩].map ptrV) → Calls Tryd.prog 86 #[.slice ka 2 2, .slice fa 2 2] W fun e w5 => ∃ a5 c5 m5, e = .returned (.slice a5 m5 c5) ∧ w5.cell? ⟨w.heap.size, 2, none⟩ = some (.bool uA) ∧ w5.cell? ⟨w.heap.size, 3, none⟩ = some (.bool uB) ∧
      Hid (Calls Tryd.prog 83 #[.slice a5 m5 c5] w5 fun e w' => ∃ v, e = .returned v ∧ w'.cell? ⟨w.heap.size, 2, none⟩ = some (.bool uA) ∧ w'.cell? ⟨w.heap.size, 3, none⟩ = some (.bool uB) ∧ Hid (Below w.heap.size w w') ∧ Hid (w'.ownsRow w.heap.size 2 1 v vs.length (vs.map (Value.int .i64))))) := hide (fun ka fa W hW hk hp => by
    have hsz := hW.size
    refine (chosen_any ka fa 2 2 [uA, uB] [⟨b, 2, none⟩, ⟨b, 3, none⟩] W0.heap.size W.heap.size W (Nat.le_refl _) (hide hk) (hide hp) (hide rfl) (by simp)).mono ?_
    rintro e w5 ⟨v5, rfl, hb5, ho5⟩
    have s5 := hb5.size
    have k5 : Below W0.heap.size W0 w5 := bnext hW hb5
    obtain ⟨a5, c5, rfl, hv5⟩ := vals_owned ho5
    rw [List.length_map]
    have hbw : Below w.heap.size w w5 := HBW.out.trans (k5.mono (by omega))
    refine ⟨a5, c5, _, rfl, (k5.cell (p := ⟨w.heap.size, 2, none⟩) hlt).trans g2, (k5.cell (p := ⟨w.heap.size, 3, none⟩) hlt).trans g3, hide ?_⟩
    have r2 := (hbw.cell (p := ⟨b, 2, none⟩) hbl).trans HQ2.out
    have r3 := (hbw.cell (p := ⟨b, 3, none⟩) hbl).trans HQ3.out
    have hb5l : b < w5.heap.size := by omega
    refine (contents_any a5 c5 (keepP [uA, uB] [⟨b, 2, none⟩, ⟨b, 3, none⟩]) vs W.heap.size w5.heap.size w5 (Nat.le_refl _) (hide hv5) (hide ?_) (hide ?_) ?_).mono ?_
    · rw [HRI.out]; cases uA <;> cases uB <;> rfl
    · intro i h h'
      have hvs := HRI.out
      subst hvs
      cases uA <;> cases uB
      · exact absurd h (by simp [keepP])
      · match i, h with
        | 0, _ => exact ⟨hb5l, r3⟩
      · match i, h with
        | 0, _ => exact ⟨hb5l, r2⟩
      · match i, h with
        | 0, _ => exact ⟨hb5l, r2⟩
        | 1, _ => exact ⟨hb5l, r3⟩
    · cases uA <;> cases uB <;> simp [keepP]
    · rintro e w7 ⟨v7, rfl, hb7, ho7⟩
      have k7 := bnext k5 hb7
      exact ⟨v7, rfl, (k7.cell (p := ⟨w.heap.size, 2, none⟩) hlt).trans g2, (k7.cell (p := ⟨w.heap.size, 3, none⟩) hlt).trans g3, hide (HBW.out.trans (k7.mono (by omega))), hide (own_base ho7 (by omega))⟩)
  have HCH1 := hide (KEY.out (some ⟨W0.heap.size, 0, none⟩) (some ⟨W0.heap.size + 1, 0, none⟩) ((W0.alloc (.cells #[.bool uA, .bool uB] 4)).alloc (.cells #[.pointer (some ⟨b, 2, none⟩), .pointer (some ⟨b, 3, none⟩)] 153)).drew (balloc (balloc (Below.refl W0.heap.size W0) _) _).drew (by rw [show ((W0.alloc (.cells #[.bool uA, .bool uB] 4)).alloc (.cells #[.pointer (some ⟨b, 2, none⟩), .pointer (some ⟨b, 3, none⟩)] 153)).drew.heap.size = W0.heap.size + 2 from by show ((W0.alloc (.cells #[.bool uA, .bool uB] 4)).alloc (.cells #[.pointer (some ⟨b, 2, none⟩), .pointer (some ⟨b, 3, none⟩)] 153)).heap.size = _; simp]; exact vals_two1 W0 [.bool uA, .bool uB] 4 [.pointer (some ⟨b, 2, none⟩), .pointer (some ⟨b, 3, none⟩)] 153) (by rw [show ((W0.alloc (.cells #[.bool uA, .bool uB] 4)).alloc (.cells #[.pointer (some ⟨b, 2, none⟩), .pointer (some ⟨b, 3, none⟩)] 153)).drew.heap.size = W0.heap.size + 2 from by show ((W0.alloc (.cells #[.bool uA, .bool uB] 4)).alloc (.cells #[.pointer (some ⟨b, 2, none⟩), .pointer (some ⟨b, 3, none⟩)] 153)).heap.size = _; simp]; exact vals_two2 W0 [.pointer (some ⟨b, 2, none⟩), .pointer (some ⟨b, 3, none⟩)] 153 [.bool uA, .bool uB] 4))
  have HCH2 := hide (KEY.out (some ⟨W0.heap.size + 1, 0, none⟩) (some ⟨W0.heap.size, 0, none⟩) ((W0.alloc (.cells #[.pointer (some ⟨b, 2, none⟩), .pointer (some ⟨b, 3, none⟩)] 153)).alloc (.cells #[.bool uA, .bool uB] 4)).drew (balloc (balloc (Below.refl W0.heap.size W0) _) _).drew (by rw [show ((W0.alloc (.cells #[.pointer (some ⟨b, 2, none⟩), .pointer (some ⟨b, 3, none⟩)] 153)).alloc (.cells #[.bool uA, .bool uB] 4)).drew.heap.size = W0.heap.size + 2 from by show ((W0.alloc (.cells #[.pointer (some ⟨b, 2, none⟩), .pointer (some ⟨b, 3, none⟩)] 153)).alloc (.cells #[.bool uA, .bool uB] 4)).heap.size = _; simp]; exact vals_two2 W0 [.bool uA, .bool uB] 4 [.pointer (some ⟨b, 2, none⟩), .pointer (some ⟨b, 3, none⟩)] 153) (by rw [show ((W0.alloc (.cells #[.pointer (some ⟨b, 2, none⟩), .pointer (some ⟨b, 3, none⟩)] 153)).alloc (.cells #[.bool uA, .bool uB] 4)).drew.heap.size = W0.heap.size + 2 from by show ((W0.alloc (.cells #[.pointer (some ⟨b, 2, none⟩), .pointer (some ⟨b, 3, none⟩)] 153)).alloc (.cells #[.bool uA, .bool uB] 4)).heap.size = _; simp]; exact vals_two1 W0 [.pointer (some ⟨b, 2, none⟩), .pointer (some ⟨b, 3, none⟩)] 153 [.bool uA, .bool uB] 4))
  clear KEY HBW HQ2 HQ3 HRI
  go_region_held3 (fun w' => w'.cell? ⟨w.heap.size, 2, none⟩ = some (.bool uA) ∧ w'.cell? ⟨w.heap.size, 3, none⟩ = some (.bool uB)) (go_keep)
    (first
      | (go_at_call 86; with_reducible refine HCH1.out.mono ?_; rintro e w5 ⟨a5, c5, m5, rfl, f2, f3, HC5⟩)
      | (go_at_call 86; with_reducible refine HCH2.out.mono ?_; rintro e w5 ⟨a5, c5, m5, rfl, f2, f3, HC5⟩)
      | (go_at_call 83; with_reducible refine HC5.out.mono ?_; rintro e w7 ⟨v7, rfl, h2, h3, HB7, HO7⟩))
  all_goals
    go_wp2
    go_ret
    exact ⟨_, rfl, HB7.out, HO7.out⟩
def rdT (x : Ter) : List Int := if x.kind != 1 then [x.a] else []
set_option maxHeartbeats 2000000 in
set_option maxRecDepth 100000 in
theorem termCells_any (b o k : Nat) (a t l : Int) (w : World) (hi : Hid (TerAt w b o ⟨k, a, t, l⟩)) (h1 : 1 ≤ k) (h2 : k ≤ 3) (ht : Hid (TerTabW w)) :
    Calls Tryd.prog 84 #[.pointer (some ⟨b, o, none⟩)] w fun e w' => ∃ v, e = .returned v ∧ Below w.heap.size w w' ∧ w'.ownsRow w.heap.size 153 1 v (keepP [(k : Int) != 1] [⟨b, o + 1, none⟩]).length ((keepP [(k : Int) != 1] [⟨b, o + 1, none⟩]).map ptrV) := by
  obtain ⟨q0, q1, q2, q3⟩ := hi.out
  simp only at q0 q1 q2 q3
  obtain ⟨c0, c1, c2, c3⟩ := ht.out.2 k h1 h2
  have hz := ht.out.1
  have hbl : b < w.heap.size := World.block_lt_of_cell? w _ q0
  generalize ((k : Int) != 1) = uA at *
  have KEY : Hid (∀ (ka fa : Option Addr) (W : World), Below w.heap.size w W → ValsAt W w.heap.size W.heap.size ka ([uA].map Value.bool) → ValsAt W w.heap.size W.heap.size fa ([⟨b, o + 1, none⟩].map ptrV) → Calls Tryd.prog 86 #[.slice ka 1 1, .slice fa 1 1] W fun e w5 => ∃ v, e = .returned v ∧ Below w.heap.size w w5 ∧ Hid (w5.ownsRow w.heap.size 153 1 v (keepP [uA] [⟨b, o + 1, none⟩]).length ((keepP [uA] [⟨b, o + 1, none⟩]).map ptrV))) := hide (fun ka fa W hW hk hp => by
    have hsz := hW.size
    refine (chosen_any ka fa 1 1 [uA] [⟨b, o + 1, none⟩] w.heap.size W.heap.size W (Nat.le_refl _) (hide hk) (hide hp) (hide rfl) (by simp)).mono ?_
    rintro e w5 ⟨v5, rfl, hb5, ho5⟩
    exact ⟨v5, rfl, bnext hW hb5, hide (own_base ho5 (by omega))⟩)
  have e2 : ∀ x y, ((w.alloc x).alloc y).drew.heap.size = w.heap.size + 2 := fun x y => by show ((w.alloc x).alloc y).heap.size = _; simp
  have HCH1 := hide (KEY.out (some ⟨w.heap.size, 0, none⟩) (some ⟨w.heap.size + 1, 0, none⟩) ((w.alloc (.cells #[.bool uA] 4)).alloc (.cells #[.pointer (some ⟨b, o + 1, none⟩)] 153)).drew (balloc (balloc (Below.refl w.heap.size w) _) _).drew (by rw [e2]; exact vals_two1 w [.bool uA] 4 [.pointer (some ⟨b, o + 1, none⟩)] 153) (by rw [e2]; exact vals_two2 w [.pointer (some ⟨b, o + 1, none⟩)] 153 [.bool uA] 4))
  have HCH2 := hide (KEY.out (some ⟨w.heap.size + 1, 0, none⟩) (some ⟨w.heap.size, 0, none⟩) ((w.alloc (.cells #[.pointer (some ⟨b, o + 1, none⟩)] 153)).alloc (.cells #[.bool uA] 4)).drew (balloc (balloc (Below.refl w.heap.size w) _) _).drew (by rw [e2]; exact vals_two2 w [.bool uA] 4 [.pointer (some ⟨b, o + 1, none⟩)] 153) (by rw [e2]; exact vals_two1 w [.pointer (some ⟨b, o + 1, none⟩)] 153 [.bool uA] 4))
  clear e2 KEY q1 q2 q3 c0 c2 c3
  have hk3 : (k : Int) ≤ 3 := by omega
  have hk0 : (0 : Int) ≤ (k : Int) := by omega
  have hk4 : (k : Int) < 4 := by omega
  have hk5 : k < 4 := by omega
  go_enter Tryd.func84, Tryd.ntmps84
  go_wp2_with fail
  go_region_held3 (fun w' => w'.cell? ⟨b, o, none⟩ = some (.int .i64 (k : Int)) ∧ w'.cell? ⟨1, k * 4 + 1, none⟩ = some (.bool uA)) (go_keep)
    (first
      | (go_at_call 86; with_reducible refine HCH1.out.mono ?_; rintro e w5 ⟨v5, rfl, hb5, HO5⟩; have f2 := (hb5.cell (p := ⟨b, o, none⟩) hbl).trans q0; have f3 := (hb5.cell (p := ⟨1, k * 4 + 1, none⟩) hz).trans c1; have HB5 := hide hb5; clear hb5)
      | (go_at_call 86; with_reducible refine HCH2.out.mono ?_; rintro e w5 ⟨v5, rfl, hb5, HO5⟩; have f2 := (hb5.cell (p := ⟨b, o, none⟩) hbl).trans q0; have f3 := (hb5.cell (p := ⟨1, k * 4 + 1, none⟩) hz).trans c1; have HB5 := hide hb5; clear hb5))
  all_goals
    go_wp2
    go_ret
    exact ⟨v5, rfl, HB5.out, HO5.out⟩
set_option maxHeartbeats 2000000 in
theorem rdT_any (b o k : Nat) (a t l : Int) (w : World) (hi : Hid (TerAt w b o ⟨k, a, t, l⟩)) (h1 : 1 ≤ k) (h2 : k ≤ 3) (ht : Hid (TerTabW w)) :
    Calls Tryd.prog 68 #[.pointer (some ⟨b, o, none⟩)] w fun e w' => ∃ v, e = .returned v ∧ Below w.heap.size w w' ∧ w'.ownsRow w.heap.size 2 1 v (rdT ⟨k, a, t, l⟩).length ((rdT ⟨k, a, t, l⟩).map (Value.int .i64)) := by
  have HC := hide (termCells_any b o k a t l w hi h1 h2 ht)
  obtain ⟨q0, q1, q2, q3⟩ := hi.out
  simp only at q0 q1 q2 q3
  have HQ1 := hide q1
  have HRT : Hid (rdT ⟨k, a, t, l⟩ = if ((k : Int) != 1) then [a] else []) := hide rfl
  generalize rdT ⟨k, a, t, l⟩ = vs at *
  generalize ((k : Int) != 1) = uA at *
  have hbl : b < w.heap.size := World.block_lt_of_cell? w _ q0
  clear q0 q1 q2 q3
  go_enter Tryd.func68, Tryd.ntmps68
  go_wp2_with fail
  refine HC.out.mono ?_
  rintro e w5 ⟨v5, rfl, hb5, ho5⟩
  obtain ⟨a5, c5, rfl, hv5⟩ := vals_owned ho5
  rw [List.length_map]
  have r1 := (hb5.cell (p := ⟨b, o + 1, none⟩) hbl).trans HQ1.out
  have hb5l : b < w5.heap.size := by have := hb5.size; omega
  have HK := hide (contents_any a5 c5 (keepP [uA] [⟨b, o + 1, none⟩]) vs w.heap.size w5.heap.size w5 (Nat.le_refl _) (hide hv5) (hide (by rw [HRT.out]; cases uA <;> rfl)) (hide (by
    intro i h h'
    have hvs := HRT.out
    subst hvs
    cases uA
    · exact absurd h (by simp [keepP])
    · match i, h with
      | 0, _ => exact ⟨hb5l, r1⟩)) (by cases uA <;> simp [keepP]))
  have HB5 := hide hb5
  clear hb5 ho5 hv5 r1
  generalize (keepP [uA] [⟨b, o + 1, none⟩]).length = kl at *
  go_wp2_with fail
  refine HK.out.mono ?_
  rintro e w7 ⟨v7, rfl, hb7, ho7⟩
  have HB7 := hide (bnext HB5.out hb7)
  have HO7 := hide (own_base ho7 HB5.out.size)
  clear hb7 ho7
  go_wp2_with fail
  go_ret
  exact ⟨v7, rfl, HB7.out, HO7.out⟩
end Go.Proofs.YtanaeindldcapaaDoor
