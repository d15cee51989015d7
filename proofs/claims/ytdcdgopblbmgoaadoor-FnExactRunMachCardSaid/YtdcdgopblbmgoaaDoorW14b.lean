import Derived.Test.YtdcdgopblbmgoaaDoorW3
import Derived.Test.YtdcdgopblbmgoaaDoorRunT
import Derived.Test.YtdcdgopblbmgoaaDoorR1
import Derived.Deep.RegionWith
import Derived.Deep.RegionHeld3
import Derived.Deep.AppendLies
namespace Go.Proofs.YtdcdgopblbmgoaaDoor
open Go.RowKit

def TgtOk (xs : List Blk) (n : Nat) : Prop := ∀ x ∈ xs, (∀ t ∈ x.term.targets, 0 ≤ t ∧ t < (n : Int)) ∧ x.term.targets.Nodup
/-- The predecessors of block i by the first k blocks and by the targets ts of block k. -/
def predsMid (xs : List Blk) (k : Nat) (ts : List Int) (i : Nat) : List Int := predsFrom (xs.take k) 0 i ++ (if ts.contains (i : Int) then [(k : Int)] else [])
theorem predsMid_nil (xs : List Blk) (k i : Nat) : predsMid xs k [] i = predsFrom (xs.take k) 0 i := by simp [predsMid]
theorem predsMid_whole (xs : List Blk) (k i : Nat) (hk : k < xs.length) : predsMid xs k xs[k].term.targets i = predsFrom (xs.take (k + 1)) 0 i := by
  unfold predsMid
  rw [take_next _ _ hk, predsFrom_snoc]
  simp [Nat.min_eq_left (Nat.le_of_lt hk)]
theorem predsMid_step (xs : List Blk) (k i : Nat) (ts : List Int) (t : Nat) (h : (t : Int) ∉ ts) : predsMid xs k (ts ++ [(t : Int)]) i = if i = t then predsMid xs k ts t ++ [(k : Int)] else predsMid xs k ts i := by
  unfold predsMid
  by_cases e : i = t
  · subst e
    simp [h]
  · have h1 : (ts ++ [(t : Int)]).contains (i : Int) = ts.contains (i : Int) := by
      rw [Bool.eq_iff_iff]
      simp only [List.contains_iff_mem, List.mem_append, List.mem_singleton]
      constructor
      · rintro (h | h)
        · exact h
        · omega
      · exact Or.inl
    rw [if_neg e, h1]
theorem predsMid_len (xs : List Blk) (k i : Nat) (ts : List Int) (h : k ≤ xs.length) : (predsMid xs k ts i).length ≤ k + 1 := by
  unfold predsMid
  have := predsFrom_len (i : Int) (xs.take k) 0
  simp only [List.length_take] at this
  rw [List.length_append]
  split <;> simp <;> omega

set_option maxHeartbeats 2000000 in
theorem predecessors_any (v : Int) (a : Option Addr) (n c : Nat) (xs : List Blk) (L B : Nat) (w : World) (ha : Hid (BlksAt w L B a xs)) (hx : Hid (n = xs.length)) (hn : n ≤ 1048576) (hB : B ≤ w.heap.size) (hg : Hid (TgtOk xs n)) :
    Calls Tryd.prog 74 #[.agg #[.int .i64 v, .slice a n c]] w fun e w' => ∃ a' c', e = .returned (.slice a' n c') ∧ Below w.heap.size w w' ∧ IntssAt w' w.heap.size w'.heap.size a' ((List.range n).map fun i : Nat => predsFrom xs 0 (i : Int)) := by
  obtain ⟨i0, hi0, hz0, hz1, hz2⟩ := info_parts Tryd.info2'
  have hmk := run_make_row' (P := Tryd.prog) 104 38 (.slice none 0 0) 24 Tryd.underlying104 Tryd.info45 rfl .i64 .i64 n (by omega) (by omega)
  go_enter Tryd.func74, Tryd.ntmps74
  go_wp2
  go_loopw [15] (fun i wr => ∃ k : Nat, k ≤ n ∧ i = .int .i64 k ∧ Below w.heap.size w wr ∧ Hid (∃ U, Rows2 wr (w.heap.size + 1) n (predsMid xs k []) U)) (fun i _ => n - (intOf i).toNat)
  case atStart => exact ⟨0, Nat.zero_le _, rfl, balloc (balloc (Below.refl _ _) _) _, ⟨_, by have := Rows2.born (w.alloc (.cells #[.int .i64 v, .slice a n c] 29)) n; rw [World.size_alloc] at this; exact this⟩⟩
  case round =>
    obtain ⟨k, hk, rfl, hw, hrw⟩ := hrel
    by_cases hlt : k < n
    · have hkx : k < xs.length := by have := hx.out; omega
      obtain ⟨b, o, rfl, ⟨_, hbB⟩, hc⟩ := ha.out k hkx
      obtain ⟨pa, pc, ia, ic, e0, e1, ⟨e2, e3, e4, e5⟩, _, _⟩ := hc.keep (hw.mono hB) (by omega)
      have hwh := hide (fun i => predsMid_whole xs k i hkx)
      obtain ⟨hg1, hg2⟩ := hg.out _ (List.getElem_mem hkx)
      have HG1 := hide hg1
      have HG2 := hide hg2
      clear hc hg1 hg2
      generalize xs[k] = X at *
      go_wp2_with fail
      refine (targetsI_any X.term _).mono ?_
      rintro e w2 ⟨a1, c1, rfl, hb2, hi2⟩
      have hb3 := bnext (balloc (Below.refl wr.heap.size wr) _) hb2
      have hz3 := hb2.size
      simp at hz3
      have hz4 : wr.heap.size < w2.heap.size := by omega
      have HI := hide hi2
      have hGlt : w.heap.size + 1 < wr.heap.size := by obtain ⟨U, hU⟩ := hrw.out; exact hU.1.lt
      have HR : Hid (∃ U, Rows2 w2 (w.heap.size + 1) n (predsMid xs k []) U ∧ ∀ i g, i < n → (U i).ownBlock = some g → g ≤ wr.heap.size ∨ w2.heap.size ≤ g) := by
        obtain ⟨U, hU⟩ := hrw.out
        exact ⟨U, hU.below hb3, fun i g hi hg => by have := ((hU.2.1 i hi).lt g hg).2; omega⟩
      have HW := hide (bnext hw hb3)
      have htl : X.term.targets.length ≤ 2 := by unfold Ter.targets; split <;> (try split) <;> simp
      generalize hT : X.term.targets = ts at *
      clear hT hi2 hrw e0 e1 e2 e3 e4 e5 hw
      simp only [World.size_alloc] at HI
      generalize hM : wr.heap.size = M at *
      clear hM
      go_wp2
      go_loopw [24] (fun i wi => ∃ j : Nat, j ≤ ts.length ∧ i = .int .i64 j ∧ Below w.heap.size w wi ∧ w2.heap.size ≤ wi.heap.size ∧ Hid (IntsAt wi (M + 1) w2.heap.size a1 ts) ∧ Hid (∃ U, Rows2 wi (w.heap.size + 1) n (predsMid xs k (ts.take j)) U ∧ ∀ i g, i < n → (U i).ownBlock = some g → g ≤ M ∨ w2.heap.size ≤ g)) (fun i _ => ts.length - (intOf i).toNat)
      case atStart => exact ⟨0, Nat.zero_le _, rfl, HW.out, Nat.le_refl _, HI.out, HR.out⟩
      case round =>
        obtain ⟨j, hj, rfl, hwi, hszi, hii, hri⟩ := hrel
        by_cases hjt : j < ts.length
        · obtain ⟨b', o', rfl, _, hcj⟩ := hii.out j hjt
          obtain ⟨ht0, ht1⟩ := HG1.out _ (List.getElem_mem hjt)
          have hnd : Hid (ts[j] ∉ ts.take j) := by
            intro hm
            obtain ⟨m, hm1, hm2⟩ := List.getElem_of_mem hm
            simp only [List.length_take] at hm1
            rw [List.getElem_take] at hm2
            have := (List.getElem_inj HG2.out).1 hm2
            omega
          have hts : Hid (ts.take (j + 1) = ts.take j ++ [ts[j]]) := take_next _ _ hjt
          obtain ⟨U, hU, hav⟩ := hri.out
          have HAV := hide hav
          clear hav
          obtain ⟨t, htt⟩ := Int.eq_ofNat_of_zero_le ht0
          generalize ts[j] = T at *
          subst htt
          have htn : t < n := by omega
          have hcU := hU.1.cell htn
          have hfU := hU.1.frozen t
          have hpl := predsMid_len xs k t (ts.take j) (by have := hx.out; omega)
          have HU := hide hU
          clear hU hri
          go_wp2_with (at_builtin; refine wpList_append_own_at _ rfl _ _ 38 rfl (w.heap.size + 1 + 1) 2 i0 (.int .i64 0) 1 8 Tryd.underlying38 hi0 hz0 hz1 hz2 rfl (by decide) _ _ _ rfl ((HU.out.alloc _).2.1 t htn) ⟨wr.heap.size, 0, none⟩ 1 1 [.int .i64 k] rfl rfl ?c1 ?c2 ?c3 ?c4 ?c5 ?_)
          case c1 =>
            intro j u hj
            match j, hj with
            | 0, hj => simp at hj; subst hj; simp [Addr.add]
          case c2 => intro u hu; simp at hu; subst hu; rfl
          case c3 => unfold maxLen; omega
          case c4 => omega
          case c5 => have := HU.out.1.lt; simp; omega
          intro v1 w1 hown1 hgrow1 _ hat1
          obtain ⟨av, cv, hv, _⟩ := ints_owned (xs := predsMid xs k (ts.take j) t ++ [(k : Int)]) (by rw [ints_snoc]; exact hown1)
          have hst := hide ((HU.out.alloc (.cells #[.int .i64 k] 2)).step htn k v1 hgrow1 hown1 (by rw [World.size_alloc]; exact hat1))
          have hbG : w1.heap[w.heap.size + 1]? = (wr.alloc (.cells #[.int .i64 k] 2)).heap[w.heap.size + 1]? := grown_block hgrow1 ((HU.out.alloc (.cells #[.int .i64 k] 2)).2.1 t htn) (by omega) (by have := HU.out.1.lt; simp; omega)
          have hbel := hide (grown_below (balloc hwi (.cells #[.int .i64 k] 2)) hgrow1 ((HU.out.alloc (.cells #[.int .i64 k] 2)).2.1 t htn) (by omega) (by have := hwi.size; simp; omega))
          have hcG : w1.cell? ⟨w.heap.size + 1, t, none⟩ = some (U t) := by rw [cell_of hbG]; exact ((HU.out.alloc (.cells #[.int .i64 k] 2)).1).cell htn
          have hfG : w1.frozen? ⟨w.heap.size + 1, t, none⟩ = false := by rw [World.frozen?_of_block (w := wr.alloc (.cells #[.int .i64 k] 2)) (a := ⟨w.heap.size + 1, t, none⟩) hbG]; exact ((HU.out.alloc (.cells #[.int .i64 k] 2)).1).frozen t
          have hgz := hgrow1.size
          simp at hgz
          have hsm : Same (M + 1) w2.heap.size wr w1 := fun q q1 q2 => (hgrow1.block q (by simp; omega) (fun e => by have := HAV.out t q htn e.symm; omega)).trans (Below.heap_alloc _ _ _ (by omega))
          have HSM := hide hsm
          have hii2 := hide (hii.out.keepS hsm)
          have HAT := hide hat1
          have HV := hide hv
          clear hsm
          clear hown1 hgrow1 hat1 hbG hcU hfU
          rw [hv]
          clear hv
          go_wp2
          have hv2 := HV.out
          rw [List.length_append, List.length_cons, List.length_nil, Nat.zero_add] at hv2
          rw [← hv2]
          refine ⟨⟨j + 1, by omega, by go_num, hbel.out.setCell (by dsimp only; omega) _, by rw [size_setCell]; omega, hii2.out.keepS ((Same.refl _ _ _).setCell (Or.inl (by dsimp only; omega)) _), ⟨_, (hst.out).congr (fun i _ => ?_), fun i g hi hg => ?_⟩⟩, by simp [intOf]; omega⟩
          · rw [hts.out, predsMid_step xs k i (ts.take j) t hnd.out]
          · by_cases e : i = t
            · subst e
              simp only [if_true] at hg
              rcases HAT.out with q | q
              · exact HAV.out i g hi (by rw [← q]; exact hg)
              · rw [q] at hg
                have := Option.some.inj hg
                omega
            · simp only [e, if_false] at hg
              exact HAV.out i g hi hg
        · have E := hide (List.take_of_length_le (l := ts) (i := j) (by omega))
          go_wp2
          refine ⟨⟨k + 1, by omega, by go_num, hwi, ?_⟩, by simp [intOf]; omega⟩
          obtain ⟨U, hU, _⟩ := hri.out
          exact ⟨U, hU.congr (fun i _ => by rw [E.out, hwh.out, predsMid_nil])⟩
    · go_wp2
      go_ret
      obtain ⟨U, hU⟩ := hrw.out
      have e := List.take_of_length_le (l := xs) (i := k) (by have := hx.out; omega)
      refine ⟨_, _, rfl, hw, ?_⟩
      have h := (hU.congr (P' := fun i : Nat => predsFrom xs 0 (i : Int)) (fun i _ => by rw [predsMid_nil, e])).ints
      exact h.mono (by omega) (Nat.le_refl _)
end Go.Proofs.YtdcdgopblbmgoaaDoor

namespace Go.Proofs.YtdcdgopblbmgoaaDoor
open Go.RowKit

set_option maxHeartbeats 400000 in
theorem index_any (a : Option Addr) (n c : Nat) (p : Int) (ps : List Int) (L B : Nat) (w : World) (ha : Hid (IntsAt w L B a ps)) (hx : Hid (n = ps.length)) (hn : n ≤ 1048576) (hm : Hid (p ∈ ps)) :
    Calls Tryd.prog 162 #[.slice a n c, .int .i64 p] w fun e w' => e = .returned (.int .i64 (idxR ps p)) ∧ w' = w := by
  have hl := idxR_lt hm.out
  have hat := idxR_at hl
  generalize hI : idxR ps p = I at *
  go_enter Tryd.func162, Tryd.ntmps162
  go_wp2
  go_loopw [8] (fun i wr => ∃ k : Nat, k ≤ I ∧ i = .int .i64 k ∧ wr = w) (fun i _ => n - (intOf i).toNat)
  case atStart => exact ⟨0, Nat.zero_le _, rfl, rfl⟩
  case round =>
    obtain ⟨k, hk, rfl, rfl⟩ := hrel
    have hkx : k < ps.length := by omega
    have hkn : k < n := by have := hx.out; omega
    obtain ⟨b, o, rfl, _, hc⟩ := ha.out k hkx
    by_cases e : k = I
    · subst e
      rw [hat] at hc
      go_wp2
      go_ret
      exact ⟨rfl, rfl⟩
    · have he : (p == ps[k]) = false := idxR_ne (by omega) hkx
      generalize ps[k] = X at *
      go_wp2
      exact ⟨⟨k + 1, by omega, by go_num, trivial⟩, by simp [intOf]; omega⟩

/-- Pairs of numbers that lie in a row. -/
def TakesAt (w : World) (L B : Nat) (a : Option Addr) (ts : List (Int × Int)) : Prop :=
  ∀ i (h : i < ts.length), ∃ b o, a = some ⟨b, o, none⟩ ∧ (L ≤ b ∧ b < B) ∧ w.cell? ⟨b, o + i * 2, none⟩ = some (.int .i64 ts[i].1) ∧ w.cell? ⟨b, o + i * 2 + 1, none⟩ = some (.int .i64 ts[i].2)
theorem TakesAt.keepS {w w' : World} {L B : Nat} {a : Option Addr} {ts : List (Int × Int)} (h : TakesAt w L B a ts) (k : Same L B w w') : TakesAt w' L B a ts := fun i hi => by
  obtain ⟨b, o, e, hb, h1, h2⟩ := h i hi
  exact ⟨b, o, e, hb, (cell_of (k b hb.1 hb.2)).trans h1, (cell_of (k b hb.1 hb.2)).trans h2⟩
theorem TakesAt.keep {w w' : World} {L B : Nat} {a : Option Addr} {ts : List (Int × Int)} (h : TakesAt w L B a ts) (k : Below B w w') : TakesAt w' L B a ts := h.keepS (Same.of_below k)
theorem TakesAt.mono {w : World} {L B L' B' : Nat} {a : Option Addr} {ts : List (Int × Int)} (h : TakesAt w L B a ts) (l : L' ≤ L) (k : B ≤ B') : TakesAt w L' B' a ts := fun i hi => by
  obtain ⟨b, o, e, hb, h1, h2⟩ := h i hi
  exact ⟨b, o, e, by omega, h1, h2⟩
theorem TakesAt.nil (w : World) (L B : Nat) (a : Option Addr) : TakesAt w L B a [] := fun i h => absurd h (by simp)
def takeVs : List (Int × Int) → List Value
  | [] => []
  | t :: ts => .int .i64 t.1 :: .int .i64 t.2 :: takeVs ts
theorem takeVs_snoc (ts : List (Int × Int)) (t : Int × Int) : takeVs (ts ++ [t]) = takeVs ts ++ [.int .i64 t.1, .int .i64 t.2] := by
  induction ts with
  | nil => rfl
  | cons x ts ih => simp [takeVs, ih]
theorem takeVs_at : ∀ (ts : List (Int × Int)) (i : Nat) (h : i < ts.length), (takeVs ts)[i * 2]? = some (.int .i64 ts[i].1) ∧ (takeVs ts)[i * 2 + 1]? = some (.int .i64 ts[i].2)
  | [], i, h => absurd h (by simp)
  | t :: ts, 0, _ => by simp [takeVs]
  | t :: ts, i + 1, h => by
    have := takeVs_at ts i (by simpa using h)
    rw [show (i + 1) * 2 = i * 2 + 1 + 1 by omega]
    simpa [takeVs] using this
theorem addr_add (b j : Nat) : (⟨b, 0, none⟩ : Addr).add j = ⟨b, 0 + j, none⟩ := by unfold Addr.add; split <;> simp_all
theorem takes_owned {w : World} {base e : Nat} {ta : Option Addr} {nt ct n : Nat} {ts : List (Int × Int)} (h : w.ownsRow base e 2 (.slice ta nt ct) n (takeVs ts)) : TakesAt w base w.heap.size ta ts := fun i hi => by
  obtain ⟨h1, h2⟩ := takeVs_at ts i hi
  cases ta with
  | none =>
    exfalso
    rcases h.2 with ⟨_, e2⟩ | ⟨_, _, _, e2, _⟩
    · have hl := h.1
      have : i * 2 < (takeVs ts).length := (List.getElem?_eq_some_iff.1 h1).1
      omega
    · injection e2 with e3; injection e3
  | some ad =>
    have hg : (Value.slice (some ad) nt ct).ownBlock = some ad.block := rfl
    have hb := h.lt _ hg
    have e2 : ad = ⟨ad.block, 0, none⟩ := by
      rcases h.2 with ⟨e3, _⟩ | ⟨_, _, _, e3, _⟩
      · injection e3 with e4; injection e4
      · injection e3 with e4; injection e4 with e4; rw [e4]
    have c1 := h.cells hg _ _ h1
    have c2 := h.cells hg _ _ h2
    rw [addr_add] at c1 c2
    exact ⟨ad.block, 0, congrArg some e2, hb, c1, c2⟩

theorem own_keep2 {w w1 : World} {B t s : Nat} {x : Value} {n : Nat} {xs : List Value} (h : w.ownsRow B t s x n xs) (k : ∀ b, x.ownBlock = some b → w1.heap[b]? = w.heap[b]?) : w1.ownsRow B t s x n xs := by
  obtain ⟨hl, h | ⟨g, cap, cur, rfl, hg, hh, hc⟩⟩ := h
  · exact ⟨hl, Or.inl h⟩
  · exact ⟨hl, Or.inr ⟨g, cap, cur, rfl, hg, (k g rfl).trans hh, hc⟩⟩

/-- An edge while it is made. -/
structure EdgeMem (w : World) (E : Nat) (t : Int) (ta : Option Addr) (nt ct : Nat) (ts : List (Int × Int)) : Prop where
  c0 : w.cell? ⟨E, 0, none⟩ = some (.int .i64 t)
  c1 : w.cell? ⟨E, 1, none⟩ = some (.slice ta nt ct)
  fz : ∀ o, w.frozen? ⟨E, o, none⟩ = false
  own : w.ownsRow (E + 1) 234 2 (.slice ta nt ct) nt (takeVs ts)
theorem EdgeMem.push {w W w1 : World} {E : Nat} {t : Int} {ta : Option Addr} {nt ct : Nat} {ts : List (Int × Int)} (h : EdgeMem w E t ta nt ct ts) (hW : Below w.heap.size w W) (hE : E < w.heap.size) {g cap : Nat} {x y : Int}
    (ho : w1.ownsRow (E + 1) 234 2 (.slice (some ⟨g, 0, none⟩) (nt + 1) cap) (nt + 1) (takeVs ts ++ [.int .i64 x, .int .i64 y])) (hg : W.grownBy w1 (Value.slice ta nt ct).ownBlock) :
    EdgeMem (w1.setCell ⟨E, 1, none⟩ (.slice (some ⟨g, 0, none⟩) (nt + 1) cap)) E t (some ⟨g, 0, none⟩) (nt + 1) cap (ts ++ [(x, y)]) := by
  have hws := hW.size
  have k : w1.heap[E]? = w.heap[E]? := (hg.block E (by omega) (fun e => by have := (h.own.lt _ e.symm).1; omega)).trans (hW.block E hE)
  have hgE := ho.lt g rfl
  refine ⟨?_, ?_, fun o => (World.frozen?_setCell _ _ _ _).trans ((World.frozen?_of_block k).trans (h.fz o)), ?_⟩
  · rw [World.cell?_setCell_other _ _ _ _ (by intro e; injection e with _ e; omega)]
    exact (cell_of k).trans h.c0
  · exact World.cell?_setCell_same _ _ _ ((cell_of k).trans h.c1)
  · rw [takeVs_snoc]
    exact own_keep2 ho (fun b e => Below.heap_setCell _ _ _ _ (fun e2 => by injection e with e; dsimp only at e e2; omega))

theorem Tryd.info165 : (Tryd.prog.info? 234).map (fun i => (i.zero, i.size, i.bytes)) = some (some (.agg #[.int .i64 0, .int .i64 0]), 2, 16) := by kernel_rfl

theorem far10' {W w1 : World} {row : Option Nat} (hg : W.grownBy w1 row) {k : Nat} (hk : k < W.heap.size) (hn : some k ≠ row) : (∀ o, w1.cell? ⟨k, o, none⟩ = W.cell? ⟨k, o, none⟩) ∧ (∀ o, w1.frozen? ⟨k, o, none⟩ = W.frozen? ⟨k, o, none⟩) :=
  ⟨fun o => hg.cell_far ⟨k, o, none⟩ hk hn, fun o => hg.frozen_far ⟨k, o, none⟩ hk hn⟩

set_option maxHeartbeats 2000000 in
theorem makeEdge_any (v : Int) (a : Option Addr) (n c : Nat) (pa : Option Addr) (pn pc : Nat) (p t : Nat) (xs : List Blk) (pss : List (List Int)) (X : Blk) (ps : List Int) (nv : Int) (L B L2 B2 : Nat) (w : World)
    (ha : Hid (BlksAt w L B a xs)) (hx : Hid (n = xs.length)) (hB : B ≤ w.heap.size) (hp : Hid (IntssAt w L2 B2 pa pss)) (hpn : Hid (pn = pss.length)) (hB2 : B2 ≤ w.heap.size) (ht : t < n) (htp : t < pn)
    (hX : Hid (∀ h : t < xs.length, xs[t] = X)) (hps : Hid (∀ h : t < pss.length, pss[t] = ps)) (hpl : ps.length ≤ 1048576) (hphl : X.phis.length ≤ 1048576) (hm : Hid ((p : Int) ∈ ps)) (hok : Hid (∀ i (h : i < X.phis.length), phOkI nv ps.length X.phis[i] = true)) :
    Calls Tryd.prog 149 #[.agg #[.int .i64 v, .slice a n c], .slice pa pn pc, .int .i64 p, .int .i64 t] w
      fun e w' => ∃ ta ct, e = .returned (.agg #[.int .i64 t, .slice ta X.phis.length ct]) ∧ Below w.heap.size w w' ∧ TakesAt w' w.heap.size w'.heap.size ta (takesR (idxR ps p) X.phis) := by
  have htx : t < xs.length := by have := hx.out; omega
  have htq : t < pss.length := by have := hpn.out; omega
  obtain ⟨i0, hi0, hz0, hz1, hz2⟩ := info_parts Tryd.info165
  obtain ⟨b, o, rfl, ⟨_, hbB⟩, hc⟩ := ha.out t htx
  rw [hX.out htx] at hc
  obtain ⟨fa, fc, ia, ic, e0, -, -, hph, -⟩ := hc
  obtain ⟨b2, o2, rfl, ⟨_, hb2⟩, qa, qc, q0, hq⟩ := hp.out t htq
  rw [hps.out htq] at q0 hq
  have bl := fun x y z => balloc (balloc (balloc (Below.refl w.heap.size w) x) y) z
  have E0 := fun x y z => ((bl x y z).cell (p := ⟨b, o + t * 6, none⟩) (by show b < _; omega)).trans e0
  have Q0 := fun x y z => ((bl x y z).cell (p := ⟨b2, o2 + t, none⟩) (by show b2 < _; omega)).trans q0
  have HQ := fun x y z => hide (hq.keep ((bl x y z).mono hB2))
  have hI := hide (idxR_lt hm.out)
  have HPH := hide hph
  have hs0 : w.heap.size + 1 + 1 + 1 ≤ w.heap.size + 1 + 1 + 1 := Nat.le_refl _
  clear hph hq
  have ST : ∀ x, EdgeMem (((w.alloc x).alloc (.cells #[.int .i64 0, .slice none 0 0] 198)).alloc (.cells #[.int .i64 t, .slice none 0 0] 198)) (w.heap.size + 1 + 1) t none 0 0 [] := fun x => ⟨by simp [go_sem], by simp [go_sem], fun o => by simp [go_sem], World.ownsRow_nil _ _ _ _⟩
  go_enter Tryd.func149, Tryd.ntmps149
  go_wp2_with (go_at_call 162; refine (index_any qa ps.length qc p ps L2 B2 _ (HQ _ _ _) rfl hpl hm).mono ?_; rintro e w1 ⟨rfl, rfl⟩)
  generalize hIe : idxR ps p = I at *
  have hbb := bl (.cells #[.int .i64 v, .slice (some ⟨b, o, none⟩) n c] 29) (.cells #[.int .i64 0, .slice none 0 0] 198) (.cells #[.int .i64 t, .slice none 0 0] 198)
  have hst := ST (.cells #[.int .i64 v, .slice (some ⟨b, o, none⟩) n c] 29)
  have r0 : ((w.alloc (.cells #[.int .i64 v, .slice (some ⟨b, o, none⟩) n c] 29)).alloc (.cells #[.int .i64 0, .slice none 0 0] 198)).alloc (.cells #[.int .i64 t, .slice none 0 0] 198) = ((w.alloc (.cells #[.int .i64 v, .slice (some ⟨b, o, none⟩) n c] 29)).alloc (.cells #[.int .i64 0, .slice none 0 0] 198)).alloc (.cells #[.int .i64 t, .slice none 0 0] 198) := rfl
  clear r0 ST bl HQ Q0 q0
  have hR0 : ∀ o, (((w.alloc (.cells #[.int .i64 v, .slice (some ⟨b, o, none⟩) n c] 29)).alloc (.cells #[.int .i64 0, .slice none 0 0] 198)).alloc (.cells #[.int .i64 t, .slice none 0 0] 198)).frozen? ⟨w.heap.size + 1, o, none⟩ = false := fun o => by simp [go_sem]
  go_loopw [28] (fun i wr => ∃ (k : Nat) (ta : Option Addr) (ct : Nat), k ≤ X.phis.length ∧ i = .int .i64 k ∧ Hid (Below w.heap.size w wr) ∧ w.heap.size + 1 + 1 + 1 ≤ wr.heap.size ∧ Hid (EdgeMem wr (w.heap.size + 1 + 1) t ta k ct (takesR I (X.phis.take k))) ∧ Hid (wr.cell? ⟨w.heap.size + 1, 0, none⟩ = some (.int .i64 0) ∧ wr.cell? ⟨w.heap.size + 1, 1, none⟩ = some (.slice none 0 0) ∧ ∀ o, wr.frozen? ⟨w.heap.size + 1, o, none⟩ = false)) (fun i _ => X.phis.length - (intOf i).toNat)
  case atStart => exact ⟨0, none, 0, Nat.zero_le _, rfl, hide hbb, by simp, hide (by simpa [takesR] using hst), hide ⟨by simp [go_sem], by simp [go_sem], fun o => by simp [go_sem]⟩⟩
  case round =>
    obtain ⟨k, ta, ct, hk, rfl, hw, hws, hem, hrr⟩ := hrel
    clear hbb hst hR0 E0 e0
    by_cases hkl : k < X.phis.length
    · obtain ⟨b', o', rfl, ⟨_, hb'⟩, aa, cc, g0, g1, har⟩ := HPH.out k hkl
      obtain ⟨⟨d0, d1⟩, hal, hav⟩ := phOk_facts (hok.out k hkl)
      have hnx : takesR I (X.phis.take (k + 1)) = takesR I (X.phis.take k) ++ [(X.phis[k].dst, X.phis[k].args.getD I 0)] := by unfold takesR; rw [take_next _ _ hkl, List.map_append]; rfl
      have hIa : I < X.phis[k].args.length := by have := hI.out; omega
      have hag : X.phis[k].args.getD I 0 = X.phis[k].args[I] := by simp [hIa]
      rw [hag] at hnx
      obtain ⟨b3, o3, rfl, ⟨_, hb3⟩, h3⟩ := har I hIa
      have G0 := (hw.out.cell (p := ⟨b', o' + k * 2, none⟩) (by show b' < _; omega)).trans g0
      have G1 := (hw.out.cell (p := ⟨b', o' + k * 2 + 1, none⟩) (by show b' < _; omega)).trans g1
      have G3 := (hw.out.cell (p := ⟨b3, o3 + I, none⟩) (by show b3 < _; omega)).trans h3
      have HNX := hide hnx
      have hal2 : X.phis[k].args.length ≤ 1048576 := by omega
      clear hnx hag har hav hal h3 g0 g1
      generalize X.phis[k].args[I] = AQ at *
      generalize X.phis[k].args.length = al at *
      generalize X.phis[k].dst = dst at *
      generalize takesR I (X.phis.take k) = TS at *
      have c3 : ∀ x y, (((wr.alloc x).drew).alloc y).cell? ⟨b3, o3 + I, none⟩ = some (.int .i64 AQ) := fun x y => ((balloc (balloc (Below.refl wr.heap.size wr) x).drew y).cell (p := ⟨b3, o3 + I, none⟩) (by show b3 < _; omega)).trans G3
      have m1 : ∀ x y, (((wr.alloc x).drew).alloc y).cell? ⟨w.heap.size + 1 + 1, 1, none⟩ = some (.slice ta k ct) := fun x y => ((balloc (balloc (Below.refl wr.heap.size wr) x).drew y).cell (p := ⟨w.heap.size + 1 + 1, 1, none⟩) (by show w.heap.size + 1 + 1 < _; omega)).trans hem.out.c1
      have mz : ∀ x y o, (((wr.alloc x).drew).alloc y).frozen? ⟨w.heap.size + 1 + 1, o, none⟩ = false := fun x y o => ((balloc (balloc (Below.refl wr.heap.size wr) x).drew y).frozen (p := ⟨w.heap.size + 1 + 1, o, none⟩) (by show w.heap.size + 1 + 1 < _; omega)).trans (hem.out.fz o)
      have m1' : ∀ x, ((wr.alloc x).drew).cell? ⟨w.heap.size + 1 + 1, 1, none⟩ = some (.slice ta k ct) := fun x => (((balloc (Below.refl wr.heap.size wr) x).drew).cell (p := ⟨w.heap.size + 1 + 1, 1, none⟩) (by show w.heap.size + 1 + 1 < _; omega)).trans hem.out.c1
      have m2 : ∀ x y, ((wr.alloc x).alloc y).cell? ⟨w.heap.size + 1 + 1, 1, none⟩ = some (.slice ta k ct) := m1
      have m3 : ∀ x, (wr.alloc x).cell? ⟨w.heap.size + 1 + 1, 1, none⟩ = some (.slice ta k ct) := m1'
      have HOW : ∀ x y, (((wr.alloc x).drew).alloc y).ownsRow (w.heap.size + 1 + 1 + 1) 234 2 (.slice ta k ct) k (takeVs TS) := fun x y => own_keep2 hem.out.own (fun b e => ((balloc (balloc (Below.refl wr.heap.size wr) x).drew y).block b (hem.out.own.lt b e).2))
      have hno : ∀ q, wr.heap.size ≤ q → some q ≠ (Value.slice ta k ct).ownBlock := fun q hq e => by have := (hem.out.own.lt q e.symm).2; omega
      have hno3 : ∀ q, q < w.heap.size + 1 + 1 + 1 → some q ≠ (Value.slice ta k ct).ownBlock := fun q hq e => by have := (hem.out.own.lt q e.symm).1; omega
      have HP : ∀ (x y : Obj) (g cap : Nat) (w1 : World), w1.ownsRow (w.heap.size + 1 + 1 + 1) 234 2 (.slice (some ⟨g, 0, none⟩) (k + 1) cap) (k + 1) (takeVs TS ++ [.int .i64 dst, .int .i64 AQ]) → (((wr.alloc x).drew).alloc y).grownBy w1 (Value.slice ta k ct).ownBlock →
          EdgeMem (w1.setCell ⟨w.heap.size + 1 + 1, 1, none⟩ (.slice (some ⟨g, 0, none⟩) (k + 1) cap)) (w.heap.size + 1 + 1) t (some ⟨g, 0, none⟩) (k + 1) cap (TS ++ [(dst, AQ)]) ∧ Below w.heap.size w w1 ∧ w1.heap[w.heap.size + 1]? = wr.heap[w.heap.size + 1]? ∧ wr.heap.size ≤ w1.heap.size := fun x y g cap w1 ho hg => by
        have hb := balloc (balloc (Below.refl wr.heap.size wr) x).drew y
        have hgs := hg.size
        have hbs := hb.size
        exact ⟨hem.out.push hb (by omega) ho hg, grown_below (hw.out.trans (hb.mono (by omega))) hg (HOW x y) (by omega) (by omega), (hg.block _ (by omega) (hno3 _ (by omega))).trans (hb.block _ (by omega)), by omega⟩
      have n1 : wr.heap.size ≠ b3 := by omega
      have n2 : b3 ≠ wr.heap.size := by omega
      have n3 : w.heap.size + 1 + 1 ≠ b3 := by omega
      have n4 : b3 ≠ w.heap.size + 1 + 1 := by omega
      have n5 : w.heap.size + 1 + 1 ≠ wr.heap.size := by omega
      have n6 : wr.heap.size ≠ w.heap.size + 1 + 1 := by omega
      have hIl := hI.out
      go_wp2
      refine wp_region_held_drew (S := (fun w' => w'.cell? ⟨wr.heap.size, 0, none⟩ = some (.int .i64 dst) ∧ w'.cell? ⟨wr.heap.size, 1, none⟩ = some (.slice (some ⟨b3, o3, none⟩) al cc) ∧ w'.cell? ⟨b3, o3 + I, none⟩ = some (.int .i64 AQ))) (by kernel_rfl) (by (try dsimp only); go_keep) (fun hHeld => ?_)
      refine wpAnyH_take (i := 0) (v := ?_) rfl (by kernel_rfl) (by kernel_rfl) (by kernel_rfl) (fun _ _ _ h => h) (Or.inl ⟨by rfl, ?_⟩) (by assumption) ?_
      rotate_left
      · intro w hSw; (try dsimp only at hSw); go_simp; try with_reducible rfl
      simp only [Act.put, List.getElem_toArray, List.getElem_cons_zero, List.setIfInBounds_toArray, List.set_cons_zero, List.set_cons_succ]
      refine wpAnyH_take (i := 2) (v := ?_) rfl (by kernel_rfl) (by kernel_rfl) (by kernel_rfl) (fun _ _ _ h => h) (Or.inl ⟨by rfl, ?_⟩) (by assumption) ?_
      rotate_left
      · intro w hSw; (try dsimp only at hSw); go_simp; try with_reducible rfl
      simp only [Act.put, List.getElem_toArray, List.getElem_cons_zero, List.getElem_cons_succ, List.setIfInBounds_toArray, List.set_cons_zero, List.set_cons_succ]
      refine wpAnyH_take (i := 3) (v := ?_) rfl (by kernel_rfl) (by kernel_rfl) (by kernel_rfl) (fun _ _ _ h => h) (Or.inl ⟨by rfl, ?_⟩) (by assumption) ?_
      rotate_left
      · intro w hSw; (try dsimp only at hSw); go_simp; try with_reducible rfl
      simp only [Act.put, List.getElem_toArray, List.getElem_cons_zero, List.getElem_cons_succ, List.setIfInBounds_toArray, List.set_cons_zero, List.set_cons_succ]
      refine wpAnyH_take (i := 4) (v := ?_) rfl (by kernel_rfl) (by kernel_rfl) (by kernel_rfl) (fun _ _ _ h => h) (Or.inl ⟨by rfl, ?_⟩) (by assumption) ?_
      rotate_left
      · intro w hSw; (try dsimp only at hSw); go_simp; try with_reducible rfl
      simp only [Act.put, List.getElem_toArray, List.getElem_cons_zero, List.getElem_cons_succ, List.setIfInBounds_toArray, List.set_cons_zero, List.set_cons_succ]
      refine wpAnyH_take (i := 5) (v := ?_) rfl (by kernel_rfl) (by kernel_rfl) (by kernel_rfl) (fun _ _ _ h => h) (Or.inl ⟨by rfl, ?_⟩) (by assumption) ?_
      rotate_left
      · intro w hSw; (try dsimp only at hSw); go_simp; try with_reducible rfl
      simp only [Act.put, List.getElem_toArray, List.getElem_cons_zero, List.getElem_cons_succ, List.setIfInBounds_toArray, List.set_cons_zero, List.set_cons_succ]
      refine wpAnyH_take (i := 6) (v := ?_) rfl (by kernel_rfl) (by kernel_rfl) (by kernel_rfl) (fun _ _ _ h => h) (Or.inl ⟨by rfl, ?_⟩) (by assumption) ?_
      rotate_left
      · intro w hSw; (try dsimp only at hSw); go_simp; try with_reducible rfl
      simp only [Act.put, List.getElem_toArray, List.getElem_cons_zero, List.getElem_cons_succ, List.setIfInBounds_toArray, List.set_cons_zero, List.set_cons_succ]
      refine wpAnyH_take (i := 7) (v := ?_) rfl (by kernel_rfl) (by kernel_rfl) (by kernel_rfl) (fun _ _ _ h => h) (Or.inl ⟨by rfl, ?_⟩) (by assumption) ?_
      rotate_left
      · intro w hSw; (try dsimp only at hSw); go_simp; try with_reducible rfl
      simp only [Act.put, List.getElem_toArray, List.getElem_cons_zero, List.getElem_cons_succ, List.setIfInBounds_toArray, List.set_cons_zero, List.set_cons_succ]
      refine wpAnyH_take (i := 8) (v := ?_) rfl (by kernel_rfl) (by kernel_rfl) (by kernel_rfl) (fun _ _ _ h => h) (Or.inl ⟨by rfl, ?_⟩) (by assumption) ?_
      rotate_left
      · intro w hSw; (try dsimp only at hSw); go_simp; try with_reducible rfl
      simp only [Act.put, List.getElem_toArray, List.getElem_cons_zero, List.getElem_cons_succ, List.setIfInBounds_toArray, List.set_cons_zero, List.set_cons_succ]
      refine wpAnyH_take (i := 9) (v := ?_) rfl (by kernel_rfl) (by kernel_rfl) (by kernel_rfl) (fun _ _ _ h => h) (Or.inl ⟨by rfl, ?_⟩) (by assumption) ?_
      rotate_left
      · intro w hSw; (try dsimp only at hSw); go_simp; try with_reducible rfl
      simp only [Act.put, List.getElem_toArray, List.getElem_cons_zero, List.getElem_cons_succ, List.setIfInBounds_toArray, List.set_cons_zero, List.set_cons_succ]
      refine wpAnyH_ready (rs := [1, 10]) (by kernel_rfl) (by simp) ?_
      refine (AllReadyH.cons rfl (fun K hK => ?_) (AllReadyH.cons rfl (fun K hK => ?_) AllReadyH.nil))
      · skip
        go_simp
        refine hK.out _ _ (by first | exact hHeld | ((try dsimp only); go_keep)) (fun hHeld => ?_)
        clear hK
        try simp only [Act.put, List.getElem_toArray, List.getElem_cons_zero, List.getElem_cons_succ, List.setIfInBounds_toArray, List.set_cons_zero, List.set_cons_succ]
        refine wpAnyH_ready (rs := [10]) (by kernel_rfl) (by simp) ?_
        refine AllReadyH.cons rfl (fun K hK => ?_) AllReadyH.nil
        go_simp
        refine hK.out _ _ (by first | exact hHeld | ((try dsimp only); go_keep)) (fun hHeld => ?_)
        clear hK
        try simp only [Act.put, List.getElem_toArray, List.getElem_cons_zero, List.getElem_cons_succ, List.setIfInBounds_toArray, List.set_cons_zero, List.set_cons_succ]
        refine wpAnyH_ready (rs := [11]) (by kernel_rfl) (by simp) ?_
        refine AllReadyH.cons rfl (fun K hK => ?_) AllReadyH.nil
        refine step_append_lies _ rfl (.tmp 33) (.tmp 42) 196 rfl (w.heap.size + 1 + 1 + 1) 234 i0 (.agg #[.int .i64 0, .int .i64 0]) 2 16 Tryd.underlying196 hi0 hz0 hz1 hz2 rfl (by decide) (.slice ta k ct) k (takeVs TS) (by simp [Act.eval]) (HOW _ _) ⟨wr.heap.size + 1, 0, none⟩ 1 1 [.int .i64 dst, .int .i64 AQ] (by simp [Act.eval]) rfl ?_ (by intro u hu; simp at hu; rcases hu with rfl | rfl <;> rfl) (by decide) (by unfold maxLen; omega) (by omega) (by simp; omega) (wr.heap.size + 1 + 1) (by simp) ?_
        · intro j u hj
          match j, hj with
          | 0, hj => simp at hj; subst hj; simp [Addr.add, go_sem]
          | 1, hj => simp at hj; subst hj; simp [Addr.add, go_sem]
        intro g cap w1 hown hgrow hat hlt
        have HN := hide (HP _ _ g cap w1 hown hgrow)
        obtain ⟨f0, -⟩ := far10' hgrow (k := wr.heap.size) (by simp <;> omega) (hno _ (by omega))
        obtain ⟨f3, -⟩ := far10' hgrow (k := b3) (by simp <;> omega) (hno3 _ (by omega))
        obtain ⟨f1, e1⟩ := far10' hgrow (k := w.heap.size + 1 + 1) (by simp <;> omega) (hno3 _ (by omega))
        have kx : w1.cell? ⟨wr.heap.size, 0, none⟩ = some (.int .i64 dst) := (f0 0).trans (by simp [go_sem])
        have ky : w1.cell? ⟨wr.heap.size, 1, none⟩ = some (.slice (some ⟨b3, o3, none⟩) al cc) := (f0 1).trans (by simp [go_sem])
        have kz : w1.cell? ⟨b3, o3 + I, none⟩ = some (.int .i64 AQ) := (f3 _).trans (c3 _ _)
        have k1 : w1.cell? ⟨w.heap.size + 1 + 1, 1, none⟩ = some (.slice ta k ct) := (f1 1).trans (m1 _ _)
        have z1 : ∀ o, w1.frozen? ⟨w.heap.size + 1 + 1, o, none⟩ = false := fun o => (e1 o).trans (mz _ _ o)
        clear f0 f1 f3 e1 hown hgrow hat hlt
        refine hK.out _ _ (by first | exact hHeld | ((try dsimp only); go_keep)) (fun hHeld => ?_)
        clear hK
        try simp only [Act.put, List.getElem_toArray, List.getElem_cons_zero, List.getElem_cons_succ, List.setIfInBounds_toArray, List.set_cons_zero, List.set_cons_succ]
        refine wpAnyH_take (i := 12) (v := ?_) rfl (by kernel_rfl) (by kernel_rfl) (by kernel_rfl) (fun _ _ _ h => h) (Or.inl ⟨by rfl, ?_⟩) (by assumption) ?_
        rotate_left
        · intro w hSw; (try dsimp only at hSw); go_simp; try with_reducible rfl
        simp only [Act.put, List.getElem_toArray, List.getElem_cons_zero, List.getElem_cons_succ, List.setIfInBounds_toArray, List.set_cons_zero, List.set_cons_succ]
        refine wpAnyH_ready (rs := [13]) (by kernel_rfl) (by simp) ?_
        refine AllReadyH.cons rfl (fun K hK => ?_) AllReadyH.nil
        go_simp
        refine hK.out _ _ (by first | exact hHeld | ((try dsimp only); go_keep)) (fun hHeld => ?_)
        clear hK
        try simp only [Act.put, List.getElem_toArray, List.getElem_cons_zero, List.getElem_cons_succ, List.setIfInBounds_toArray, List.set_cons_zero, List.set_cons_succ]
        refine wpAnyH_done (by kernel_rfl) ?_ _
        go_wp2
        have kk : (w1.setCell ⟨w.heap.size + 1 + 1, 1, none⟩ (.slice (some ⟨g, 0, none⟩) (k + 1) cap)).heap[w.heap.size + 1]? = wr.heap[w.heap.size + 1]? := (Below.heap_setCell _ _ _ _ (by show w.heap.size + 1 ≠ w.heap.size + 1 + 1; omega)).trans HN.out.2.2.1
        exact ⟨⟨k + 1, some ⟨g, 0, none⟩, cap, by omega, by go_num, hide (HN.out.2.1.setCell (by show w.heap.size ≤ w.heap.size + 1 + 1; omega) _), by have := HN.out.2.2.2; simp only [size_setCell]; omega, hide (by rw [HNX.out]; exact HN.out.1), hide ⟨(cell_of kk).trans hrr.out.1, (cell_of kk).trans hrr.out.2.1, fun o => (World.frozen?_of_block kk).trans (hrr.out.2.2 o)⟩⟩, by simp [intOf]; omega⟩
      · skip
        go_simp
        refine hK.out _ _ (by first | exact hHeld | ((try dsimp only); go_keep)) (fun hHeld => ?_)
        clear hK
        try simp only [Act.put, List.getElem_toArray, List.getElem_cons_zero, List.getElem_cons_succ, List.setIfInBounds_toArray, List.set_cons_zero, List.set_cons_succ]
        refine wpAnyH_ready (rs := [1]) (by kernel_rfl) (by simp) ?_
        refine AllReadyH.cons rfl (fun K hK => ?_) AllReadyH.nil
        go_simp
        refine hK.out _ _ (by first | exact hHeld | ((try dsimp only); go_keep)) (fun hHeld => ?_)
        clear hK
        try simp only [Act.put, List.getElem_toArray, List.getElem_cons_zero, List.getElem_cons_succ, List.setIfInBounds_toArray, List.set_cons_zero, List.set_cons_succ]
        refine wpAnyH_ready (rs := [11]) (by kernel_rfl) (by simp) ?_
        refine AllReadyH.cons rfl (fun K hK => ?_) AllReadyH.nil
        refine step_append_lies _ rfl (.tmp 33) (.tmp 42) 196 rfl (w.heap.size + 1 + 1 + 1) 234 i0 (.agg #[.int .i64 0, .int .i64 0]) 2 16 Tryd.underlying196 hi0 hz0 hz1 hz2 rfl (by decide) (.slice ta k ct) k (takeVs TS) (by simp [Act.eval]) (HOW _ _) ⟨wr.heap.size + 1, 0, none⟩ 1 1 [.int .i64 dst, .int .i64 AQ] (by simp [Act.eval]) rfl ?_ (by intro u hu; simp at hu; rcases hu with rfl | rfl <;> rfl) (by decide) (by unfold maxLen; omega) (by omega) (by simp; omega) (wr.heap.size + 1 + 1) (by simp) ?_
        · intro j u hj
          match j, hj with
          | 0, hj => simp at hj; subst hj; simp [Addr.add, go_sem]
          | 1, hj => simp at hj; subst hj; simp [Addr.add, go_sem]
        intro g cap w1 hown hgrow hat hlt
        have HN := hide (HP _ _ g cap w1 hown hgrow)
        obtain ⟨f0, -⟩ := far10' hgrow (k := wr.heap.size) (by simp <;> omega) (hno _ (by omega))
        obtain ⟨f3, -⟩ := far10' hgrow (k := b3) (by simp <;> omega) (hno3 _ (by omega))
        obtain ⟨f1, e1⟩ := far10' hgrow (k := w.heap.size + 1 + 1) (by simp <;> omega) (hno3 _ (by omega))
        have kx : w1.cell? ⟨wr.heap.size, 0, none⟩ = some (.int .i64 dst) := (f0 0).trans (by simp [go_sem])
        have ky : w1.cell? ⟨wr.heap.size, 1, none⟩ = some (.slice (some ⟨b3, o3, none⟩) al cc) := (f0 1).trans (by simp [go_sem])
        have kz : w1.cell? ⟨b3, o3 + I, none⟩ = some (.int .i64 AQ) := (f3 _).trans (c3 _ _)
        have k1 : w1.cell? ⟨w.heap.size + 1 + 1, 1, none⟩ = some (.slice ta k ct) := (f1 1).trans (m1 _ _)
        have z1 : ∀ o, w1.frozen? ⟨w.heap.size + 1 + 1, o, none⟩ = false := fun o => (e1 o).trans (mz _ _ o)
        clear f0 f1 f3 e1 hown hgrow hat hlt
        refine hK.out _ _ (by first | exact hHeld | ((try dsimp only); go_keep)) (fun hHeld => ?_)
        clear hK
        try simp only [Act.put, List.getElem_toArray, List.getElem_cons_zero, List.getElem_cons_succ, List.setIfInBounds_toArray, List.set_cons_zero, List.set_cons_succ]
        refine wpAnyH_take (i := 12) (v := ?_) rfl (by kernel_rfl) (by kernel_rfl) (by kernel_rfl) (fun _ _ _ h => h) (Or.inl ⟨by rfl, ?_⟩) (by assumption) ?_
        rotate_left
        · intro w hSw; (try dsimp only at hSw); go_simp; try with_reducible rfl
        simp only [Act.put, List.getElem_toArray, List.getElem_cons_zero, List.getElem_cons_succ, List.setIfInBounds_toArray, List.set_cons_zero, List.set_cons_succ]
        refine wpAnyH_ready (rs := [13]) (by kernel_rfl) (by simp) ?_
        refine AllReadyH.cons rfl (fun K hK => ?_) AllReadyH.nil
        go_simp
        refine hK.out _ _ (by first | exact hHeld | ((try dsimp only); go_keep)) (fun hHeld => ?_)
        clear hK
        try simp only [Act.put, List.getElem_toArray, List.getElem_cons_zero, List.getElem_cons_succ, List.setIfInBounds_toArray, List.set_cons_zero, List.set_cons_succ]
        refine wpAnyH_done (by kernel_rfl) ?_ _
        go_wp2
        have kk : (w1.setCell ⟨w.heap.size + 1 + 1, 1, none⟩ (.slice (some ⟨g, 0, none⟩) (k + 1) cap)).heap[w.heap.size + 1]? = wr.heap[w.heap.size + 1]? := (Below.heap_setCell _ _ _ _ (by show w.heap.size + 1 ≠ w.heap.size + 1 + 1; omega)).trans HN.out.2.2.1
        exact ⟨⟨k + 1, some ⟨g, 0, none⟩, cap, by omega, by go_num, hide (HN.out.2.1.setCell (by show w.heap.size ≤ w.heap.size + 1 + 1; omega) _), by have := HN.out.2.2.2; simp only [size_setCell]; omega, hide (by rw [HNX.out]; exact HN.out.1), hide ⟨(cell_of kk).trans hrr.out.1, (cell_of kk).trans hrr.out.2.1, fun o => (World.frozen?_of_block kk).trans (hrr.out.2.2 o)⟩⟩, by simp [intOf]; omega⟩
    · have hke : k = X.phis.length := by omega
      subst hke
      obtain ⟨m0, m1, mz, mo⟩ := hem.out
      obtain ⟨r0, r1, rz⟩ := hrr.out
      have HO := fun x y => own_keep2 (w1 := (wr.setCell ⟨w.heap.size + 1, 0, none⟩ x).setCell ⟨w.heap.size + 1, 1, none⟩ y) mo (fun b e => by have := (mo.lt b e).1; rw [Below.heap_setCell _ _ _ _ (by dsimp only; omega), Below.heap_setCell _ _ _ _ (by dsimp only; omega)])
      have HOH := hide HO
      clear HO mo
      go_wp2
      refine bodyPost_ret (v := .agg #[.int .i64 t, .slice ta X.phis.length ct]) (by simp [results, Tryd.results149, go_sem, r0, r1]) rfl ⟨ta, ct, rfl, (hw.out.setCell (by show w.heap.size ≤ w.heap.size + 1; omega) _).setCell (by show w.heap.size ≤ w.heap.size + 1; omega) _, ?_⟩
      have h := takes_owned (HOH.out (.int .i64 t) (.slice ta X.phis.length ct))
      rw [List.take_length] at h
      rw [hIe]
      exact h.mono (by omega) (Nat.le_refl _)
end Go.Proofs.YtdcdgopblbmgoaaDoor
