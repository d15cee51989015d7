import Derived.Test.YtdcdgopblbmgoaaGreatDoorE9a
import Derived.Test.YtdcdgopblbmgoaaGreatDoorW6b
import Derived.Test.YtdcdgopblbmgoaaGreatDoorW9
import Derived.Maps.AppendAt
namespace Go.Proofs.YtdcdgopblbmgoaaGreatDoor
open Go.RowKit

/-- A slice of slices of numbers. -/
def IntssAt (w : World) (L B : Nat) (a : Option Addr) (xss : List (List Int)) : Prop :=
  ∀ i (h : i < xss.length), ∃ b o, a = some ⟨b, o, none⟩ ∧ (L ≤ b ∧ b < B) ∧ ∃ a' c', w.cell? ⟨b, o + i, none⟩ = some (.slice a' xss[i].length c') ∧ IntsAt w L B a' xss[i]
theorem IntssAt.keepS {w w' : World} {L B : Nat} {a : Option Addr} {xss : List (List Int)} (h : IntssAt w L B a xss) (k : Same L B w w') : IntssAt w' L B a xss := fun i hi => by
  obtain ⟨b, o, e, hb, a', c', h1, h2⟩ := h i hi
  exact ⟨b, o, e, hb, a', c', (cell_of (k b hb.1 hb.2)).trans h1, h2.keepS k⟩
theorem IntssAt.keep {w w' : World} {L B : Nat} {a : Option Addr} {xss : List (List Int)} (h : IntssAt w L B a xss) (k : Below B w w') : IntssAt w' L B a xss := h.keepS (Same.of_below k)
theorem IntssAt.mono {w : World} {L B L' B' : Nat} {a : Option Addr} {xss : List (List Int)} (h : IntssAt w L B a xss) (l : L' ≤ L) (k : B ≤ B') : IntssAt w L' B' a xss := fun i hi => by
  obtain ⟨b, o, e, hb, a', c', h1, h2⟩ := h i hi
  exact ⟨b, o, e, by omega, a', c', h1, h2.mono l k⟩

/-- n rows of numbers, each of its own, behind a row of slices (block G). -/
def Rows2 (w : World) (G n : Nat) (P : Nat → List Int) (U : Nat → Value) : Prop :=
  w.rowIs G 47 n U ∧ (∀ i, i < n → w.ownsRow (G + 1) 2 1 (U i) (P i).length ((P i).map (Value.int .i64))) ∧ (∀ i j, i < n → j < n → i ≠ j → (U i).ownBlock = none ∨ (U i).ownBlock ≠ (U j).ownBlock)

theorem Rows2.alloc {w : World} {G n : Nat} {P : Nat → List Int} {U : Nat → Value} (h : Rows2 w G n P U) (o : Obj) : Rows2 (w.alloc o) G n P U := ⟨h.1.alloc o, fun i hi => (h.2.1 i hi).alloc o, h.2.2⟩
theorem Rows2.below {w w' : World} {G n : Nat} {P : Nat → List Int} {U : Nat → Value} (h : Rows2 w G n P U) (k : Below w.heap.size w w') : Rows2 w' G n P U := by
  refine ⟨h.1.of_block (k.block _ h.1.lt), fun i hi => ?_, h.2.2⟩
  refine (h.2.1 i hi).kept (row := none) ⟨k.os, k.tape, k.output, k.size, fun b hb _ => k.block b hb⟩ ?_
  cases (U i).ownBlock <;> simp
theorem Rows2.congr {w : World} {G n : Nat} {P P' : Nat → List Int} {U : Nat → Value} (h : Rows2 w G n P U) (e : ∀ i, i < n → P i = P' i) : Rows2 w G n P' U :=
  ⟨h.1, fun i hi => by rw [← e i hi]; exact h.2.1 i hi, h.2.2⟩

theorem Rows2.step {w w1 : World} {G n : Nat} {P : Nat → List Int} {U : Nat → Value} (h : Rows2 w G n P U) {t : Nat} (ht : t < n) (x : Int) (v' : Value) (hg : w.grownBy w1 (U t).ownBlock)
    (ho : w1.ownsRow (G + 1) 2 1 v' ((P t).length + 1) ((P t).map (Value.int .i64) ++ [.int .i64 x])) (hat : v'.ownBlock = (U t).ownBlock ∨ v'.ownBlock = some w.heap.size) :
    Rows2 (w1.setCell ⟨G, t, none⟩ v') G n (fun i => if i = t then P t ++ [x] else P i) (fun i => if i = t then v' else U i) := by
  have hr : w1.rowIs G 47 n U := h.1.of_block (hg.block _ h.1.lt (fun e => by have := ((h.2.1 t ht).lt _ e.symm).1; omega))
  refine ⟨hr.set t v', fun i hi => ?_, fun i j hi hj hij => ?_⟩
  · refine ownsRow_setCell_below ?_ (by dsimp only; omega) _
    by_cases e : i = t
    · subst e
      simp only [if_true, List.length_append, List.length_cons, List.length_nil, List.map_append, List.map_cons, List.map_nil]
      exact ho
    · simp only [e, if_false]
      exact (h.2.1 i hi).kept hg (h.2.2 i t hi ht e)
  · have fresh : ∀ m, m < n → (U m).ownBlock = none ∨ (U m).ownBlock ≠ some w.heap.size := fun m hm => by
      by_cases e : (U m).ownBlock = some w.heap.size
      · have := ((h.2.1 m hm).lt _ e).2; omega
      · exact Or.inr e
    by_cases e1 : i = t
    · subst e1
      have e2 : ¬ j = i := fun e => hij e.symm
      simp only [if_true, e2, if_false]
      rcases hat with q | q
      · rw [q]; exact h.2.2 i j hi hj hij
      · right
        rw [q]
        intro hh
        rcases fresh j hj with f | f
        · rw [f] at hh; cases hh
        · exact f hh.symm
    · simp only [e1, if_false]
      by_cases e2 : j = t
      · subst e2
        simp only [if_true]
        rcases hat with q | q
        · rw [q]; exact h.2.2 i j hi hj hij
        · rw [q]; exact fresh i hi
      · simp only [e2, if_false]
        exact h.2.2 i j hi hj hij

theorem Rows2.ints {w : World} {G n : Nat} {P : Nat → List Int} {U : Nat → Value} (h : Rows2 w G n P U) : IntssAt w G w.heap.size (some ⟨G, 0, none⟩) ((List.range n).map P) := fun i hi => by
  simp only [List.length_map, List.length_range] at hi
  obtain ⟨a, c, hv, ha⟩ := ints_owned (h.2.1 i hi)
  refine ⟨G, 0, rfl, ⟨Nat.le_refl _, h.1.lt⟩, a, c, ?_, ?_⟩
  · simp only [List.getElem_map, List.getElem_range, Nat.zero_add]
    rw [h.1.cell hi, hv]
  · simp only [List.getElem_map, List.getElem_range]
    exact ha.mono (by omega) (Nat.le_refl _)

theorem Tryz.info45 : (Tryz.prog.info? 47).map (fun i => (i.zero, i.size, i.bytes)) = some (some (.slice none 0 0), 1, 24) := by kernel_rfl

theorem Rows2.born (w : World) (n : Nat) : Rows2 (w.alloc (.cells (madeCells #[.slice none 0 0] n) 47)) w.heap.size n (fun _ => []) (fun _ => .slice none 0 0) :=
  ⟨World.rowIs_made _ _ _ _, fun _ _ => World.ownsRow_nil _ _ _ _, fun _ _ _ _ _ => Or.inl rfl⟩
end Go.Proofs.YtdcdgopblbmgoaaGreatDoor

namespace Go.Proofs.YtdcdgopblbmgoaaGreatDoor
open Go.RowKit

def TgtOk (xs : List Blk) (n : Nat) : Prop := ∀ x ∈ xs, (∀ t ∈ x.term.targets, 0 ≤ t ∧ t < (n : Int)) ∧ x.term.targets.Nodup
/-- The predecessors of block i by the first k blocks and by the targets ts of block k. -/
def predsMid (xs : List Blk) (k : Nat) (ts : List Int) (i : Nat) : List Int := predsFrom (xs.take k) 0 i ++ (if ts.contains (i : Int) then [(k : Int)] else [])
theorem predsMid_nil (xs : List Blk) (k i : Nat) : predsMid xs k [] i = predsFrom (xs.take k) 0 i := by simp [predsMid]
theorem predsMid_whole (xs : List Blk) (k i : Nat) (hk : k < xs.length) : predsMid xs k xs[k].term.targets i = predsFrom (xs.take (k + 1)) 0 i := by
  unfold predsMid
  rw [take_next _ _ hk, predsFrom_snoc]
  simp [Nat.min_eq_left (Nat.le_of_lt hk)]
theorem predsMid_step (xs : List Blk) (k i : Nat) (ts : List Int) (t : Nat) (h : (t : Int) ∉ ts) : predsMid xs k (ts ++ [(t : Int)]) i = if i = t then predsMid xs k ts t ++ [(k : Int)] else predsMid xs k ts i := by
  unfold predsMid
  by_cases e : i = t
  · subst e
    simp [h]
  · have h1 : (ts ++ [(t : Int)]).contains (i : Int) = ts.contains (i : Int) := by
      rw [Bool.eq_iff_iff]
      simp only [List.contains_iff_mem, List.mem_append, List.mem_singleton]
      constructor
      · rintro (h | h)
        · exact h
        · omega
      · exact Or.inl
    rw [if_neg e, h1]
theorem predsMid_len (xs : List Blk) (k i : Nat) (ts : List Int) (h : k ≤ xs.length) : (predsMid xs k ts i).length ≤ k + 1 := by
  unfold predsMid
  have := predsFrom_len (i : Int) (xs.take k) 0
  simp only [List.length_take] at this
  rw [List.length_append]
  split <;> simp <;> omega

set_option maxHeartbeats 2000000 in
theorem predecessors_any (v : Int) (a : Option Addr) (n c : Nat) (xs : List Blk) (L B : Nat) (w : World) (ha : Hid (BlksAt w L B a xs)) (hx : Hid (n = xs.length)) (hn : n ≤ 1048576) (hB : B ≤ w.heap.size) (hg : Hid (TgtOk xs n)) :
    Calls Tryz.prog 82 #[.agg #[.int .i64 v, .slice a n c]] w fun e w' => ∃ a' c', e = .returned (.slice a' n c') ∧ Below w.heap.size w w' ∧ IntssAt w' w.heap.size w'.heap.size a' ((List.range n).map fun i : Nat => predsFrom xs 0 (i : Int)) := by
  obtain ⟨i0, hi0, hz0, hz1, hz2⟩ := info_parts Tryz.info2'
  have hmk := run_make_row' (P := Tryz.prog) 147 47 (.slice none 0 0) 24 Tryz.underlying147 Tryz.info45 rfl .i64 .i64 n (by omega) (by omega)
  go_enter Tryz.func82, Tryz.ntmps82
  go_wp2
  go_loopw [15] (fun i wr => ∃ k : Nat, k ≤ n ∧ i = .int .i64 k ∧ Below w.heap.size w wr ∧ Hid (∃ U, Rows2 wr (w.heap.size + 1) n (predsMid xs k []) U)) (fun i _ => n - (intOf i).toNat)
  case atStart => exact ⟨0, Nat.zero_le _, rfl, balloc (balloc (Below.refl _ _) _) _, ⟨_, by have := Rows2.born (w.alloc (.cells #[.int .i64 v, .slice a n c] 25)) n; rw [World.size_alloc] at this; exact this⟩⟩
  case round =>
    obtain ⟨k, hk, rfl, hw, hrw⟩ := hrel
    by_cases hlt : k < n
    · have hkx : k < xs.length := by have := hx.out; omega
      obtain ⟨b, o, rfl, ⟨_, hbB⟩, hc⟩ := ha.out k hkx
      obtain ⟨pa, pc, ia, ic, e0, e1, ⟨e2, e3, e4, e5⟩, _, _⟩ := hc.keep (hw.mono hB) (by omega)
      have hwh := hide (fun i => predsMid_whole xs k i hkx)
      obtain ⟨hg1, hg2⟩ := hg.out _ (List.getElem_mem hkx)
      have HG1 := hide hg1
      have HG2 := hide hg2
      clear hc hg1 hg2
      generalize xs[k] = X at *
      go_wp2_with fail
      refine (targetsI_any X.term _).mono ?_
      rintro e w2 ⟨a1, c1, rfl, hb2, hi2⟩
      have hb3 := bnext (balloc (Below.refl wr.heap.size wr) _) hb2
      have hz3 := hb2.size
      simp at hz3
      have hz4 : wr.heap.size < w2.heap.size := by omega
      have HI := hide hi2
      have hGlt : w.heap.size + 1 < wr.heap.size := by obtain ⟨U, hU⟩ := hrw.out; exact hU.1.lt
      have HR : Hid (∃ U, Rows2 w2 (w.heap.size + 1) n (predsMid xs k []) U ∧ ∀ i g, i < n → (U i).ownBlock = some g → g ≤ wr.heap.size ∨ w2.heap.size ≤ g) := by
        obtain ⟨U, hU⟩ := hrw.out
        exact ⟨U, hU.below hb3, fun i g hi hg => by have := ((hU.2.1 i hi).lt g hg).2; omega⟩
      have HW := hide (bnext hw hb3)
      have htl : X.term.targets.length ≤ 2 := by unfold Ter.targets; split <;> (try split) <;> simp
      generalize hT : X.term.targets = ts at *
      clear hT hi2 hrw e0 e1 e2 e3 e4 e5 hw
      simp only [World.size_alloc] at HI
      generalize hM : wr.heap.size = M at *
      clear hM
      go_wp2
      go_loopw [24] (fun i wi => ∃ j : Nat, j ≤ ts.length ∧ i = .int .i64 j ∧ Below w.heap.size w wi ∧ w2.heap.size ≤ wi.heap.size ∧ Hid (IntsAt wi (M + 1) w2.heap.size a1 ts) ∧ Hid (∃ U, Rows2 wi (w.heap.size + 1) n (predsMid xs k (ts.take j)) U ∧ ∀ i g, i < n → (U i).ownBlock = some g → g ≤ M ∨ w2.heap.size ≤ g)) (fun i _ => ts.length - (intOf i).toNat)
      case atStart => exact ⟨0, Nat.zero_le _, rfl, HW.out, Nat.le_refl _, HI.out, HR.out⟩
      case round =>
        obtain ⟨j, hj, rfl, hwi, hszi, hii, hri⟩ := hrel
        by_cases hjt : j < ts.length
        · obtain ⟨b', o', rfl, _, hcj⟩ := hii.out j hjt
          obtain ⟨ht0, ht1⟩ := HG1.out _ (List.getElem_mem hjt)
          have hnd : Hid (ts[j] ∉ ts.take j) := by
            intro hm
            obtain ⟨m, hm1, hm2⟩ := List.getElem_of_mem hm
            simp only [List.length_take] at hm1
            rw [List.getElem_take] at hm2
            have := (List.getElem_inj HG2.out).1 hm2
            omega
          have hts : Hid (ts.take (j + 1) = ts.take j ++ [ts[j]]) := take_next _ _ hjt
          obtain ⟨U, hU, hav⟩ := hri.out
          have HAV := hide hav
          clear hav
          obtain ⟨t, htt⟩ := Int.eq_ofNat_of_zero_le ht0
          generalize ts[j] = T at *
          subst htt
          have htn : t < n := by omega
          have hcU := hU.1.cell htn
          have hfU := hU.1.frozen t
          have hpl := predsMid_len xs k t (ts.take j) (by have := hx.out; omega)
          have HU := hide hU
          clear hU hri
          go_wp2_with (at_builtin; refine wpList_append_own_at _ rfl _ _ 47 rfl (w.heap.size + 1 + 1) 2 i0 (.int .i64 0) 1 8 Tryz.underlying47 hi0 hz0 hz1 hz2 rfl (by decide) _ _ _ rfl ((HU.out.alloc _).2.1 t htn) ⟨wr.heap.size, 0, none⟩ 1 1 [.int .i64 k] rfl rfl ?c1 ?c2 ?c3 ?c4 ?c5 ?_)
          case c1 =>
            intro j u hj
            match j, hj with
            | 0, hj => simp at hj; subst hj; simp [Addr.add]
          case c2 => intro u hu; simp at hu; subst hu; rfl
          case c3 => unfold maxLen; omega
          case c4 => omega
          case c5 => have := HU.out.1.lt; simp; omega
          intro v1 w1 hown1 hgrow1 _ hat1
          obtain ⟨av, cv, hv, _⟩ := ints_owned (xs := predsMid xs k (ts.take j) t ++ [(k : Int)]) (by rw [ints_snoc]; exact hown1)
          have hst := hide ((HU.out.alloc (.cells #[.int .i64 k] 2)).step htn k v1 hgrow1 hown1 (by rw [World.size_alloc]; exact hat1))
          have hbG : w1.heap[w.heap.size + 1]? = (wr.alloc (.cells #[.int .i64 k] 2)).heap[w.heap.size + 1]? := grown_block hgrow1 ((HU.out.alloc (.cells #[.int .i64 k] 2)).2.1 t htn) (by omega) (by have := HU.out.1.lt; simp; omega)
          have hbel := hide (grown_below (balloc hwi (.cells #[.int .i64 k] 2)) hgrow1 ((HU.out.alloc (.cells #[.int .i64 k] 2)).2.1 t htn) (by omega) (by have := hwi.size; simp; omega))
          have hcG : w1.cell? ⟨w.heap.size + 1, t, none⟩ = some (U t) := by rw [cell_of hbG]; exact ((HU.out.alloc (.cells #[.int .i64 k] 2)).1).cell htn
          have hfG : w1.frozen? ⟨w.heap.size + 1, t, none⟩ = false := by rw [World.frozen?_of_block (w := wr.alloc (.cells #[.int .i64 k] 2)) (a := ⟨w.heap.size + 1, t, none⟩) hbG]; exact ((HU.out.alloc (.cells #[.int .i64 k] 2)).1).frozen t
          have hgz := hgrow1.size
          simp at hgz
          have hsm : Same (M + 1) w2.heap.size wr w1 := fun q q1 q2 => (hgrow1.block q (by simp; omega) (fun e => by have := HAV.out t q htn e.symm; omega)).trans (Below.heap_alloc _ _ _ (by omega))
          have HSM := hide hsm
          have hii2 := hide (hii.out.keepS hsm)
          have HAT := hide hat1
          have HV := hide hv
          clear hsm
          clear hown1 hgrow1 hat1 hbG hcU hfU
          rw [hv]
          clear hv
          go_wp2
          have hv2 := HV.out
          rw [List.length_append, List.length_cons, List.length_nil, Nat.zero_add] at hv2
          rw [← hv2]
          refine ⟨⟨j + 1, by omega, by go_num, hbel.out.setCell (by dsimp only; omega) _, by rw [size_setCell]; omega, hii2.out.keepS ((Same.refl _ _ _).setCell (Or.inl (by dsimp only; omega)) _), ⟨_, (hst.out).congr (fun i _ => ?_), fun i g hi hg => ?_⟩⟩, by simp [intOf]; omega⟩
          · rw [hts.out, predsMid_step xs k i (ts.take j) t hnd.out]
          · by_cases e : i = t
            · subst e
              simp only [if_true] at hg
              rcases HAT.out with q | q
              · exact HAV.out i g hi (by rw [← q]; exact hg)
              · rw [q] at hg
                have := Option.some.inj hg
                omega
            · simp only [e, if_false] at hg
              exact HAV.out i g hi hg
        · have E := hide (List.take_of_length_le (l := ts) (i := j) (by omega))
          go_wp2
          refine ⟨⟨k + 1, by omega, by go_num, hwi, ?_⟩, by simp [intOf]; omega⟩
          obtain ⟨U, hU, _⟩ := hri.out
          exact ⟨U, hU.congr (fun i _ => by rw [E.out, hwh.out, predsMid_nil])⟩
    · go_wp2
      go_ret
      obtain ⟨U, hU⟩ := hrw.out
      have e := List.take_of_length_le (l := xs) (i := k) (by have := hx.out; omega)
      refine ⟨_, _, rfl, hw, ?_⟩
      have h := (hU.congr (P' := fun i : Nat => predsFrom xs 0 (i : Int)) (fun i _ => by rw [predsMid_nil, e])).ints
      exact h.mono (by omega) (Nat.le_refl _)
end Go.Proofs.YtdcdgopblbmgoaaGreatDoor
