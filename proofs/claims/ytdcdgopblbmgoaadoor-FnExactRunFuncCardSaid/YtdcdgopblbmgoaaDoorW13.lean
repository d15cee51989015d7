import Derived.Test.YtdcdgopblbmgoaaDoorW7
import Derived.Test.YtdcdgopblbmgoaaDoorW9
import Derived.Test.YtdcdgopblbmgoaaDoorW3
import Derived.Maps.AppendAt
namespace Go.Proofs.YtdcdgopblbmgoaaDoor
open Go.RowKit

set_option maxHeartbeats 2000000 in
theorem validInstrs_any (v : Int) (a : Option Addr) (n c : Nat) (xs : List Blk) (L B : Nat) (w : World) (ha : Hid (BlksAt w L B a xs)) (hx : Hid (n = xs.length)) (hn : n ≤ 1048576) (hl : Hid (∀ x ∈ xs, x.instrs.length ≤ 1048576)) (hB : B ≤ w.heap.size) (hT : Hid (OpTab w)) :
    Calls Tryd.prog 58 #[.agg #[.int .i64 v, .slice a n c]] w fun e w' => e = .returned (.bool (instrsOk ⟨v, xs⟩)) ∧ Below w.heap.size w w' := by
  go_enter Tryd.func58, Tryd.ntmps58
  go_wp2
  go_loopw [10] (fun i wr => ∃ k : Nat, k ≤ n ∧ i = .int .i64 k ∧ Below w.heap.size w wr ∧ w.heap.size < wr.heap.size ∧ wr.cell? ⟨w.heap.size, 0, none⟩ = some (.int .i64 v) ∧ Hid ((xs.take k).all (fun x => x.instrs.all (insOk v 10)) = true)) (fun i _ => n - (intOf i).toNat)
  case atStart => exact ⟨0, Nat.zero_le _, rfl, balloc (Below.refl _ _) _, by simp, by simp, rfl⟩
  case round =>
    obtain ⟨k, hk, rfl, hw, hsz, hc0, hall⟩ := hrel
    by_cases hlt : k < n
    · have hkx : k < xs.length := by have := hx.out; omega
      obtain ⟨b, o, rfl, ⟨_, hbB⟩, hc⟩ := ha.out k hkx
      obtain ⟨pa, pc, ia, ic, e0, e1, ⟨e2, e3, e4, e5⟩, _, hi⟩ := hc.keep (hw.mono hB) (by omega)
      have hno := hide (fun h => all_no (p := fun x : Blk => x.instrs.all (insOk v 10)) (xs := xs) (k := k) hkx h)
      have hyes := hide (fun h => all_take_next (p := fun x : Blk => x.instrs.all (insOk v 10)) hkx hall.out h)
      have hil := hl.out _ (List.getElem_mem hkx)
      have HI := hide hi
      have hwz := hw.size
      clear hc hi
      generalize xs[k] = X at *
      go_wp2
      go_loopw [17] (fun i wi => ∃ j : Nat, j ≤ X.instrs.length ∧ i = .int .i64 j ∧ Below wr.heap.size wr wi ∧ Hid ((X.instrs.take j).all (insOk v 10) = true)) (fun i _ => X.instrs.length - (intOf i).toNat)
      case atStart => exact ⟨0, Nat.zero_le _, rfl, balloc (Below.refl _ _) _, rfl⟩
      case round =>
        obtain ⟨j, hj, rfl, hwi, halli⟩ := hrel
        have hB2 := bnext hw hwi
        have f0 := (hwi.cell (p := ⟨w.heap.size, 0, none⟩) hsz).trans hc0
        have hsz2 : w.heap.size < wr.heap.size := by have := hwi.size; omega
        clear e0 e1 e2 e3 e4 e5
        by_cases hjt : j < X.instrs.length
        · obtain ⟨b', o', rfl, ⟨_, hbB'⟩, hc'⟩ := HI.out j hjt
          obtain ⟨g0, g1, g2, g3, g4⟩ := hc'.keep hwi (by omega)
          have HT := hide (hT.out.keep hB2)
          have hno2 := hide (fun h => all_no (p := insOk v 10) (xs := X.instrs) (k := j) hjt h)
          have hyes2 := hide (fun h => all_take_next (p := insOk v 10) hjt halli.out h)
          clear hc'
          generalize X.instrs[j] = P at *
          cases hr : insOk v 10 ⟨P.op, P.dst, P.a, P.b, P.imm⟩
          · have HR := hide hr
            clear hr
            go_wp2_with fail
            refine (validInstr_any _ _ _ _ _ _ _ ?q1).mono ?_
            case q1 => exact HT.out.keep (balloc (Below.refl _ _) _)
            rintro e w2 ⟨rfl, hb2⟩
            rw [unhide HR]
            go_wp2
            go_ret
            exact ⟨ret_bool (unhide hno (unhide hno2 HR.out)).symm, bnext (balloc hB2 _) hb2⟩
          · have HR := hide hr
            clear hr
            go_wp2_with fail
            refine (validInstr_any _ _ _ _ _ _ _ ?q1).mono ?_
            case q1 => exact HT.out.keep (balloc (Below.refl _ _) _)
            rintro e w2 ⟨rfl, hb2⟩
            rw [unhide HR]
            go_wp2
            exact ⟨⟨j + 1, by omega, by go_num, bnext (balloc hwi _) hb2, unhide hyes2 HR.out⟩, by simp [intOf]; omega⟩
        · go_wp2
          exact ⟨⟨k + 1, by omega, by go_num, hB2, hsz2, f0, unhide hyes (all_whole (xs := X.instrs) (k := j) (by omega) halli.out)⟩, by simp [intOf]; omega⟩
    · go_wp2
      go_ret
      exact ⟨ret_bool (all_whole (xs := xs) (k := k) (by have := hx.out; omega) hall.out).symm, hw⟩
end Go.Proofs.YtdcdgopblbmgoaaDoor

namespace Go.Proofs.YtdcdgopblbmgoaaDoor
open Go.RowKit

/-- A slice of slices of numbers. -/
def IntssAt (w : World) (L B : Nat) (a : Option Addr) (xss : List (List Int)) : Prop :=
  ∀ i (h : i < xss.length), ∃ b o, a = some ⟨b, o, none⟩ ∧ (L ≤ b ∧ b < B) ∧ ∃ a' c', w.cell? ⟨b, o + i, none⟩ = some (.slice a' xss[i].length c') ∧ IntsAt w L B a' xss[i]
theorem IntssAt.keepS {w w' : World} {L B : Nat} {a : Option Addr} {xss : List (List Int)} (h : IntssAt w L B a xss) (k : Same L B w w') : IntssAt w' L B a xss := fun i hi => by
  obtain ⟨b, o, e, hb, a', c', h1, h2⟩ := h i hi
  exact ⟨b, o, e, hb, a', c', (cell_of (k b hb.1 hb.2)).trans h1, h2.keepS k⟩
theorem IntssAt.keep {w w' : World} {L B : Nat} {a : Option Addr} {xss : List (List Int)} (h : IntssAt w L B a xss) (k : Below B w w') : IntssAt w' L B a xss := h.keepS (Same.of_below k)
theorem IntssAt.mono {w : World} {L B L' B' : Nat} {a : Option Addr} {xss : List (List Int)} (h : IntssAt w L B a xss) (l : L' ≤ L) (k : B ≤ B') : IntssAt w L' B' a xss := fun i hi => by
  obtain ⟨b, o, e, hb, a', c', h1, h2⟩ := h i hi
  exact ⟨b, o, e, by omega, a', c', h1, h2.mono l k⟩

/-- n rows of numbers, each of its own, behind a row of slices (block G). -/
def Rows2 (w : World) (G n : Nat) (P : Nat → List Int) (U : Nat → Value) : Prop :=
  w.rowIs G 38 n U ∧ (∀ i, i < n → w.ownsRow (G + 1) 2 1 (U i) (P i).length ((P i).map (Value.int .i64))) ∧ (∀ i j, i < n → j < n → i ≠ j → (U i).ownBlock = none ∨ (U i).ownBlock ≠ (U j).ownBlock)

theorem Rows2.alloc {w : World} {G n : Nat} {P : Nat → List Int} {U : Nat → Value} (h : Rows2 w G n P U) (o : Obj) : Rows2 (w.alloc o) G n P U := ⟨h.1.alloc o, fun i hi => (h.2.1 i hi).alloc o, h.2.2⟩
theorem Rows2.below {w w' : World} {G n : Nat} {P : Nat → List Int} {U : Nat → Value} (h : Rows2 w G n P U) (k : Below w.heap.size w w') : Rows2 w' G n P U := by
  refine ⟨h.1.of_block (k.block _ h.1.lt), fun i hi => ?_, h.2.2⟩
  refine (h.2.1 i hi).kept (row := none) ⟨k.os, k.tape, k.output, k.size, fun b hb _ => k.block b hb⟩ ?_
  cases (U i).ownBlock <;> simp
theorem Rows2.congr {w : World} {G n : Nat} {P P' : Nat → List Int} {U : Nat → Value} (h : Rows2 w G n P U) (e : ∀ i, i < n → P i = P' i) : Rows2 w G n P' U :=
  ⟨h.1, fun i hi => by rw [← e i hi]; exact h.2.1 i hi, h.2.2⟩

theorem Rows2.step {w w1 : World} {G n : Nat} {P : Nat → List Int} {U : Nat → Value} (h : Rows2 w G n P U) {t : Nat} (ht : t < n) (x : Int) (v' : Value) (hg : w.grownBy w1 (U t).ownBlock)
    (ho : w1.ownsRow (G + 1) 2 1 v' ((P t).length + 1) ((P t).map (Value.int .i64) ++ [.int .i64 x])) (hat : v'.ownBlock = (U t).ownBlock ∨ v'.ownBlock = some w.heap.size) :
    Rows2 (w1.setCell ⟨G, t, none⟩ v') G n (fun i => if i = t then P t ++ [x] else P i) (fun i => if i = t then v' else U i) := by
  have hr : w1.rowIs G 38 n U := h.1.of_block (hg.block _ h.1.lt (fun e => by have := ((h.2.1 t ht).lt _ e.symm).1; omega))
  refine ⟨hr.set t v', fun i hi => ?_, fun i j hi hj hij => ?_⟩
  · refine ownsRow_setCell_below ?_ (by dsimp only; omega) _
    by_cases e : i = t
    · subst e
      simp only [if_true, List.length_append, List.length_cons, List.length_nil, List.map_append, List.map_cons, List.map_nil]
      exact ho
    · simp only [e, if_false]
      exact (h.2.1 i hi).kept hg (h.2.2 i t hi ht e)
  · have fresh : ∀ m, m < n → (U m).ownBlock = none ∨ (U m).ownBlock ≠ some w.heap.size := fun m hm => by
      by_cases e : (U m).ownBlock = some w.heap.size
      · have := ((h.2.1 m hm).lt _ e).2; omega
      · exact Or.inr e
    by_cases e1 : i = t
    · subst e1
      have e2 : ¬ j = i := fun e => hij e.symm
      simp only [if_true, e2, if_false]
      rcases hat with q | q
      · rw [q]; exact h.2.2 i j hi hj hij
      · right
        rw [q]
        intro hh
        rcases fresh j hj with f | f
        · rw [f] at hh; cases hh
        · exact f hh.symm
    · simp only [e1, if_false]
      by_cases e2 : j = t
      · subst e2
        simp only [if_true]
        rcases hat with q | q
        · rw [q]; exact h.2.2 i j hi hj hij
        · rw [q]; exact fresh i hi
      · simp only [e2, if_false]
        exact h.2.2 i j hi hj hij

theorem Rows2.ints {w : World} {G n : Nat} {P : Nat → List Int} {U : Nat → Value} (h : Rows2 w G n P U) : IntssAt w G w.heap.size (some ⟨G, 0, none⟩) ((List.range n).map P) := fun i hi => by
  simp only [List.length_map, List.length_range] at hi
  obtain ⟨a, c, hv, ha⟩ := ints_owned (h.2.1 i hi)
  refine ⟨G, 0, rfl, ⟨Nat.le_refl _, h.1.lt⟩, a, c, ?_, ?_⟩
  · simp only [List.getElem_map, List.getElem_range, Nat.zero_add]
    rw [h.1.cell hi, hv]
  · simp only [List.getElem_map, List.getElem_range]
    exact ha.mono (by omega) (Nat.le_refl _)

theorem Tryd.info45 : (Tryd.prog.info? 38).map (fun i => (i.zero, i.size, i.bytes)) = some (some (.slice none 0 0), 1, 24) := by kernel_rfl

theorem Rows2.born (w : World) (n : Nat) : Rows2 (w.alloc (.cells (madeCells #[.slice none 0 0] n) 38)) w.heap.size n (fun _ => []) (fun _ => .slice none 0 0) :=
  ⟨World.rowIs_made _ _ _ _, fun _ _ => World.ownsRow_nil _ _ _ _, fun _ _ _ _ _ => Or.inl rfl⟩
end Go.Proofs.YtdcdgopblbmgoaaDoor
