import Derived.Test.YtjfcbjomfbfoiaaGreatDoorMQ3
import Derived.Test.YtjfcbjomfbfoiaaGreatDoorW18b
import Derived.Test.YtjfcbjomfbfoiaaGreatDoorZM1
import Derived.Test.YtjfcbjomfbfoiaaGreatDoorMem
import Derived.Test.YtjfcbjomfbfoiaaGreatDoorIw
import Derived.Test.YtjfcbjomfbfoiaaGreatDoorW2
import Derived.Deep.RegionHeld3
import Derived.Test.YtjfcbjomfbfoiaaGreatDoorMH2
import Derived.Test.YtjfcbjomfbfoiaaGreatDoorFV1
import Derived.Test.YtjfcbjomfbfoiaaGreatDoorOC2
import Derived.Test.YtjfcbjomfbfoiaaGreatDoorW17
import Derived.Deep.MidRow
import Derived.Deep.CutRange
import Derived.Test.YtjfcbjomfbfoiaaGreatDoorML3
namespace Go.Proofs.YtjfcbjomfbfoiaaGreatDoor
open Go.RowKit
theorem ptQ_some {xs : List Blk} {b : Nat} (hb : b < xs.length) (V i : Nat) : ptQ xs V b i = natI (ptP xs xs[b] V b i) := by
  unfold ptQ
  rw [List.getElem?_eq_getElem hb]
theorem dfL_some {xs : List Blk} {b : Nat} (hb : b < xs.length) : (dfL xs b).length = xs[b].instrs.length := by
  unfold dfL
  rw [List.getElem?_eq_getElem hb]
  simp [dfsM]
theorem foldl_max_le (l : List Nat) : ∀ (a M : Nat), l.foldl max a ≤ M ↔ a ≤ M ∧ ∀ x ∈ l, x ≤ M := by
  induction l with
  | nil => intro a M; simp
  | cons y l ih =>
    intro a M
    rw [List.foldl_cons, ih]
    simp only [List.mem_cons, forall_eq_or_imp]
    rw [Nat.max_le, and_assoc]
theorem mxL_le {α : Type} (l : List (List α)) (M : Nat) : mxL l ≤ M ↔ ∀ x ∈ l, x.length ≤ M := by
  unfold mxL
  rw [foldl_max_le]
  simp
theorem mxL_eq {α β : Type} {l : List (List α)} {l' : List (List β)} (h1 : ∀ x ∈ l, ∃ y ∈ l', y.length = x.length) (h2 : ∀ y ∈ l', ∃ x ∈ l, x.length = y.length) : mxL l = mxL l' := by
  refine Nat.le_antisymm ((mxL_le _ _).2 (fun x hx => ?_)) ((mxL_le _ _).2 (fun y hy => ?_))
  · obtain ⟨y, hy, e⟩ := h1 x hx
    rw [← e]
    exact (mxL_le _ _).1 (Nat.le_refl _) y hy
  · obtain ⟨x, hx, e⟩ := h2 y hy
    rw [← e]
    exact (mxL_le _ _).1 (Nat.le_refl _) x hx
/-- All sets as the model lists them, of the first b blocks. -/
noncomputable def flQ (xs : List Blk) (V b : Nat) : List (List Int) := (List.range b).flatMap fun s => (List.range ((dfL xs s).length + 1)).map (ptQ xs V s)
theorem flQ_succ (xs : List Blk) (V b : Nat) : flQ xs V (b + 1) = flQ xs V b ++ (List.range ((dfL xs b).length + 1)).map (ptQ xs V b) := by
  unfold flQ
  rw [List.range_succ, List.flatMap_append]
  simp
theorem mem_side {xs : List Blk} {V b : Nat} (hb : b < xs.length) {l : List Nat} : l ∈ sideP xs V b ↔ ∃ i, i ≤ xs[b].instrs.length ∧ l = ptP xs xs[b] V b i := by
  unfold sideP
  rw [List.getElem?_eq_getElem hb]
  simp only [List.mem_append, List.mem_map, List.mem_singleton]
  constructor
  · rintro (⟨j, _, e⟩ | e)
    · exact ⟨(j : Nat) + 1, j.isLt, e.symm⟩
    · exact ⟨0, Nat.zero_le _, e⟩
  · rintro ⟨i, hi, e⟩
    cases i with
    | zero => exact Or.inr e
    | succ j =>
      refine Or.inl ⟨⟨j, hi⟩, ?_, e.symm⟩
      unfold bwF
      rw [List.take_of_length_le (by simp)]
      exact List.mem_reverse.2 (List.mem_finRange _)
theorem mxL_all (xs : List Blk) (V : Nat) : mxL (flQ xs V xs.length) = mxL (allP xs V xs.length) := by
  refine mxL_eq (fun x hx => ?_) (fun y hy => ?_)
  · obtain ⟨s, hs, h⟩ := List.mem_flatMap.1 hx
    obtain ⟨i, hi, rfl⟩ := List.mem_map.1 h
    have hs := List.mem_range.1 hs
    have hi := List.mem_range.1 hi
    rw [dfL_some hs] at hi
    refine ⟨ptP xs xs[s] V s i, List.mem_flatMap.2 ⟨s, List.mem_range.2 hs, (mem_side hs).2 ⟨i, by omega, rfl⟩⟩, ?_⟩
    rw [ptQ_some hs]
    simp [natI]
  · obtain ⟨s, hs, h⟩ := List.mem_flatMap.1 hy
    have hs := List.mem_range.1 hs
    obtain ⟨i, hi, rfl⟩ := (mem_side hs).1 h
    refine ⟨ptQ xs V s i, List.mem_flatMap.2 ⟨s, List.mem_range.2 hs, List.mem_map.2 ⟨i, List.mem_range.2 (by rw [dfL_some hs]; omega), rfl⟩⟩, ?_⟩
    rw [ptQ_some hs]
    simp [natI]
theorem take_mapR {α : Type} (f : Nat → α) (k : Nat) : (List.range (k + 1)).map f = (List.range k).map f ++ [f k] := by rw [List.range_succ, List.map_append]; rfl
set_option maxHeartbeats 4000000 in
set_option maxRecDepth 100000 in
theorem maxS_any (V : Nat) (a : Option Addr) (n c : Nat) (xs : List Blk) (L B : Nat) (w : World) (ha : Hid (BlksAt w L B a xs)) (hx : Hid (n = xs.length)) (hs : Hid (xs.length + blksTot xs ≤ 1048576)) (hB : B ≤ w.heap.size) (hv : Hid (validI ⟨(V : Int), xs⟩ = true)) (ho : Hid (OkL V xs)) :
    Calls Tryz.prog 21 #[.agg #[.int .i64 (V : Int), .slice a n c]] w fun e w' => e = .returned (.int .i64 (mxL (allP xs V xs.length) : Int)) ∧ Below w.heap.size w w' := by
  have hn : n ≤ 1000 := by have := hx.out; have := ho.out.okf.n2; omega
  have HVF := hide (fun W (hb : Below w.heap.size w W) => validFuncS_any (V : Int) a n c xs L B W (hide (ha.out.keep (hb.mono hB))) hx hs (by have := hb.size; omega))
  have HVS := hide (valid_same ⟨(V : Int), xs⟩)
  rw [← HVS.out, hv.out] at HVF
  clear HVS
  go_enter Tryz.func21, Tryz.ntmps21
  go_wp2_with fail
  refine (HVF.out _ (balloc (Below.refl _ _) _)).mono ?_
  rintro e w1 ⟨rfl, hb1⟩
  have g0 := (hb1.cell (p := ⟨w.heap.size, 0, none⟩) (by simp)).trans (show _ = some (.int .i64 (V : Int)) by simp)
  have g1 := (hb1.cell (p := ⟨w.heap.size, 1, none⟩) (by simp)).trans (show _ = some (.slice a n c) by simp)
  have HB1 := hide (bnext (balloc (Below.refl w.heap.size w) (.cells #[.int .i64 (V : Int), .slice a n c] 32)) hb1)
  clear hb1 HVF
  have HPT := hide (points_any V a n c xs L B w1 (hide (ha.out.keep (HB1.out.mono hB))) hx (by have := HB1.out.size; omega) ho)
  go_wp2_with fail
  refine HPT.out.mono ?_
  rintro e w2 ⟨gO, cO, G, rfl, hb2, hgO, hG⟩
  have HG := hide hG
  have HB2 := hide (bnext HB1.out hb2)
  have HDL := hide (df_len ho.out)
  clear hb2 hG g0 g1 HPT
  go_wp2_with fail
  go_loop [3, 5] (fun q i => ∃ b : Nat, b ≤ n ∧ i = .int .i64 b ∧ q = .int .i64 (mxL (flQ xs V b) : Int)) (fun _ i => n - (intOf i).toNat)
  case atStart => exact ⟨0, Nat.zero_le _, rfl, rfl⟩
  case round =>
    obtain ⟨b, hb, rfl, rfl⟩ := hrel
    by_cases hlt : b < n
    · obtain ⟨h1, h2, h3⟩ := HG.out b hlt
      have hdl := HDL.out b
      have HSU := hide (flQ_succ xs V b)
      obtain ⟨m, hm⟩ : ∃ m, m = (dfL xs b).length := ⟨_, rfl⟩
      rw [← hm] at h1 h3 hdl HSU
      have H3 := hide h3
      clear hm h3
      generalize flQ xs V b = fl at *
      go_wp2_with fail
      go_loop [3, 6] (fun q i => ∃ k : Nat, k ≤ m + 1 ∧ i = .int .i64 k ∧ q = .int .i64 (mxL (fl ++ (List.range k).map (ptQ xs V b)) : Int)) (fun _ i => m + 1 - (intOf i).toNat)
      case atStart => exact ⟨0, Nat.zero_le _, rfl, by simp⟩
      case round =>
        obtain ⟨k, hk, rfl, rfl⟩ := hrel
        by_cases hkl : k < m + 1
        · obtain ⟨b', o', e', hb', a', c', hc', _⟩ := H3.out k (by simpa using hkl)
          simp only [List.getElem_map, List.getElem_range] at hc'
          injection e' with e'
          injection e' with e1 e2
          subst e1 e2
          simp only [Nat.zero_add] at hc'
          have hkl1 : (k : Int) < (m : Int) + 1 := by omega
          have HTK := hide (take_mapR (ptQ xs V b) k)
          have HMX : Hid (mxL (fl ++ (List.range (k + 1)).map (ptQ xs V b)) = max (mxL (fl ++ (List.range k).map (ptQ xs V b))) (ptQ xs V b k).length) := hide (by rw [HTK.out, ← List.append_assoc, mxL_snoc])
          generalize mxL (fl ++ (List.range k).map (ptQ xs V b)) = M at *
          generalize (ptQ xs V b k).length = N at *
          by_cases hgt : (M : Int) < (N : Int)
          · go_wp2_with fail
            exact ⟨⟨k + 1, by omega, by go_num, by rw [HMX.out, Nat.max_eq_right (by omega)]⟩, by simp [intOf]; omega⟩
          · go_wp2_with fail
            exact ⟨⟨k + 1, by omega, by go_num, by rw [HMX.out, Nat.max_eq_left (by omega)]⟩, by simp [intOf]; omega⟩
        · have hke : k = m + 1 := by omega
          subst hke
          rw [← HSU.out]
          go_wp2_with fail
          exact ⟨⟨b + 1, by omega, by go_num, rfl⟩, by simp [intOf]; omega⟩
    · have hbn : b = n := by omega
      subst hbn
      go_wp2_with fail
      go_ret
      exact ⟨by rw [hx.out, mxL_all]; rfl, HB2.out⟩
end Go.Proofs.YtjfcbjomfbfoiaaGreatDoor

namespace Go.Proofs.YtjfcbjomfbfoiaaGreatDoor
open Go.RowKit
/-- The numbers that a marking from k on lays. -/
def marks (k : Int) (n : Nat) : List Int := (List.range n).map fun i => k + (i : Nat)
end Go.Proofs.YtjfcbjomfbfoiaaGreatDoor

namespace Go.Proofs.YtjfcbjomfbfoiaaGreatDoor
open Go.RowKit
/-- Of the blocks that were there those from L to below B may have turned. -/
structure Mod (L B : Nat) (w w' : World) : Prop where
  os : w'.os = w.os
  tape : w'.tape = w.tape
  output : w'.output = w.output
  size : w.heap.size ≤ w'.heap.size
  block : ∀ k, k < w.heap.size → ¬ (L ≤ k ∧ k < B) → w'.heap[k]? = w.heap[k]?
theorem Mod.of_below {L B : Nat} {w w' : World} (h : Below w.heap.size w w') : Mod L B w w' := ⟨h.os, h.tape, h.output, h.size, fun k hk _ => h.block k hk⟩
theorem Mod.trans {L B : Nat} {w w1 w2 : World} (h : Mod L B w w1) (k : Mod L B w1 w2) : Mod L B w w2 :=
  ⟨k.os.trans h.os, k.tape.trans h.tape, k.output.trans h.output, Nat.le_trans h.size k.size, fun i hi hj => (k.block i (Nat.lt_of_lt_of_le hi h.size) hj).trans (h.block i hi hj)⟩
theorem Mod.same {L B L' B' : Nat} {w w' : World} (h : Mod L B w w') (hB : B' ≤ w.heap.size) (hd : B' ≤ L ∨ B ≤ L') : Same L' B' w w' := fun k h1 h2 => h.block k (by omega) (by omega)
theorem Mod.below {L B : Nat} {w0 w w' : World} (h : Mod L B w w') (k : Below w0.heap.size w0 w) (hl : w0.heap.size ≤ L) : Below w0.heap.size w0 w' :=
  ⟨h.os.trans k.os, h.tape.trans k.tape, h.output.trans k.output, Nat.le_trans k.size h.size, fun i hi => (h.block i (Nat.lt_of_lt_of_le hi k.size) (by omega)).trans (k.block i hi)⟩
end Go.Proofs.YtjfcbjomfbfoiaaGreatDoor

namespace Go.Proofs.YtjfcbjomfbfoiaaGreatDoor
open Go.RowKit
def pc (Pr : Nat → List Int) : Nat → Nat
  | 0 => 0
  | i + 1 => pc Pr i + (Pr i).length
structure SetsSep (w : World) (g n : Nat) (a : Nat → Option Addr) (cp lo hi : Nat → Nat) (Pr : Nat → List Int) : Prop where
  cell : ∀ i, i < n → w.cell? ⟨g, i, none⟩ = some (.slice (a i) (Pr i).length (cp i))
  ints : ∀ i, i < n → IntsAt w (lo i) (hi i) (a i) (Pr i)
  thaw : ∀ i, i < n → ThawB (lo i) (hi i) w
  dj : ∀ i j, i < n → j < n → i ≠ j → hi i ≤ lo j ∨ hi j ≤ lo i
  out : ∀ i, i < n → ¬ (lo i ≤ g ∧ g < hi i)
/-- The first j sets are marked. -/
structure MkS (w wr : World) (n j : Nat) (k : Int) (a : Nat → Option Addr) (lo hi : Nat → Nat) (Pr : Nat → List Int) : Prop where
  os : wr.os = w.os
  tape : wr.tape = w.tape
  output : wr.output = w.output
  size : wr.heap.size = w.heap.size
  block : ∀ b, (∀ i, i < n → ¬ (lo i ≤ b ∧ b < hi i)) → wr.heap[b]? = w.heap[b]?
  done : ∀ i, i < j → IntsAt wr (lo i) (hi i) (a i) (marks (k + pc Pr i) (Pr i).length)
  rest : ∀ i, j ≤ i → i < n → Same (lo i) (hi i) w wr
theorem MkS.next {w wr w' : World} {n j : Nat} {k : Int} {a : Nat → Option Addr} {lo hi : Nat → Nat} {Pr : Nat → List Int} (h : MkS w wr n j k a lo hi Pr) (hj : j < n) (dj : ∀ i j, i < n → j < n → i ≠ j → hi i ≤ lo j ∨ hi j ≤ lo i) (k1 : IW (lo j) (hi j) wr w') (k2 : IntsAt w' (lo j) (hi j) (a j) (marks (k + pc Pr j) (Pr j).length)) : MkS w w' n (j + 1) k a lo hi Pr := by
  refine ⟨k1.os.trans h.os, k1.tape.trans h.tape, k1.output.trans h.output, k1.size.trans h.size, fun b hb => (k1.block b (hb j hj)).trans (h.block b hb), fun i hi' => ?_, fun i h1 h2 q q1 q2 => (k1.block q (fun e => by have := dj i j h2 hj (by omega); omega)).trans (h.rest i (by omega) h2 q q1 q2)⟩
  by_cases e : i = j
  · subst e; exact k2
  · exact (h.done i (by omega)).keepS (fun q q1 q2 => k1.block q (fun e2 => by have := dj i j (by omega) hj e; omega))
end Go.Proofs.YtjfcbjomfbfoiaaGreatDoor

namespace Go.Proofs.YtjfcbjomfbfoiaaGreatDoor
open Go.RowKit
def Lsb (xs : List Blk) (s : Bool) (v b : Nat) : Prop := if s = true then Lou xs v b else Lin xs v b
open Classical in
noncomputable def ipTo (xs : List Blk) (v : Nat) (s : Bool) (b : Nat) : List Int := natI ((List.range v).filter fun u => decide (Lsb xs s u b))
/-- While two rows of sets are filled. -/
structure LvS (w3 wr : World) (G : Bool → Nat) (n : Nat) (P : Bool → Nat → List Int) : Prop where
  os : wr.os = w3.os
  tape : wr.tape = w3.tape
  output : wr.output = w3.output
  size : w3.heap.size ≤ wr.heap.size
  fr : ∀ q, q < w3.heap.size → q ≠ G false → q ≠ G true → wr.heap[q]? = w3.heap[q]?
  db : ∃ U, DbS wr w3.heap.size G n P U
section
variable {w3 wr wr' w8 : World} {G : Bool → Nat} {n : Nat} {P P' : Bool → Nat → List Int}
theorem LvS.below (h : LvS w3 wr G n P) (k : Below wr.heap.size wr wr') : LvS w3 wr' G n P := by
  obtain ⟨U, hU⟩ := h.db
  have := h.size
  exact ⟨k.os.trans h.os, k.tape.trans h.tape, k.output.trans h.output, Nat.le_trans h.size k.size, fun q h1 h2 h3 => (k.block q (by omega)).trans (h.fr q h1 h2 h3), U, hU.below k⟩
theorem LvS.congr (h : LvS w3 wr G n P) (e : ∀ s i, i < n → P s i = P' s i) : LvS w3 wr G n P' := by
  obtain ⟨U, hU⟩ := h.db
  exact ⟨h.os, h.tape, h.output, h.size, h.fr, U, hU.congr e⟩
theorem LvS.cell (h : LvS w3 wr G n P) {b o : Nat} {v : Value} (h1 : b ≠ G false) (h2 : b ≠ G true) (hc : w3.cell? ⟨b, o, none⟩ = some v) : wr.cell? ⟨b, o, none⟩ = some v := (cell_of (h.fr b (World.block_lt_of_cell? w3 _ hc) h1 h2)).trans hc
theorem LvS.push {U : Bool → Nat → Value} {s : Bool} {t : Nat} {ob : Obj} {x : Int} {v' : Value} (h : LvS w3 wr G n P) (hU : DbS wr w3.heap.size G n P U) (ht : t < n) (hg : (wr.drew.alloc ob).grownBy w8 (U s t).ownBlock) (ho : w8.ownsRow w3.heap.size 2 1 v' ((P s t).length + 1) ((P s t).map (Value.int .i64) ++ [.int .i64 x])) (hat : v'.ownBlock = (U s t).ownBlock ∨ v'.ownBlock = some (wr.heap.size + 1)) :
    LvS w3 (w8.setCell ⟨G s, t, none⟩ v') G n (fun s' i => if (s', i) = (s, t) then P s t ++ [x] else P s' i) ∧ w8.cell? ⟨G s, t, none⟩ = some (U s t) ∧ w8.frozen? ⟨G s, t, none⟩ = false ∧ (∀ q, q < wr.heap.size → q ≠ G s → (U s t).ownBlock ≠ some q → w8.heap[q]? = wr.heap[q]? ∧ (w8.setCell ⟨G s, t, none⟩ v').heap[q]? = wr.heap[q]?) ∧ wr.heap.size ≤ (w8.setCell ⟨G s, t, none⟩ v').heap.size := by
  have hsz := h.size
  have hgs := hg.size
  have has : (wr.drew.alloc ob).heap.size = wr.heap.size + 1 := World.size_alloc _ _
  have hal : ∀ k, k < wr.heap.size → (wr.drew.alloc ob).heap[k]? = wr.heap[k]? := fun k hk => Below.heap_alloc wr.drew _ _ hk
  have hU' : DbS (wr.drew.alloc ob) w3.heap.size G n P U := hU.below ⟨rfl, rfl, rfl, by omega, hal⟩
  have hst := hU'.step ht x v' hg ho (by rw [has]; exact hat)
  have hnu : ∀ k, k < w3.heap.size → (U s t).ownBlock ≠ some k := fun k hk e => by have := ((hU.own s t ht).lt k e).1; omega
  have hbk : ∀ k, k < wr.heap.size → (U s t).ownBlock ≠ some k → w8.heap[k]? = wr.heap[k]? := fun k h1 h3 => (hg.block k (by omega) (fun e => h3 e.symm)).trans (hal k h1)
  have hG := hU.lt s
  have hGb := hbk (G s) (by omega) (hnu _ hG)
  refine ⟨⟨hg.os.trans h.os, hg.tape.trans h.tape, hg.output.trans h.output, by rw [size_setCell]; omega, fun q h1 h2 h3 => ?_, _, hst⟩, (cell_of hGb).trans ((hU.row s).cell ht), (World.frozen?_of_block hGb).trans ((hU.row s).frozen t), fun q h1 h2 h3 => ⟨hbk q h1 h3, (Below.heap_setCell _ _ _ _ h2).trans (hbk q h1 h3)⟩, by rw [size_setCell]; omega⟩
  refine (Below.heap_setCell _ _ _ _ ?_).trans ((hbk q (by omega) (hnu q h1)).trans (h.fr q h1 h2 h3))
  cases s
  · exact h2
  · exact h3
end
end Go.Proofs.YtjfcbjomfbfoiaaGreatDoor

namespace Go.Proofs.YtjfcbjomfbfoiaaGreatDoor
open Go.RowKit
/-- Two lists of sets, every row its own. -/
structure LvSep (w : World) (B T n : Nat) (g : Bool → Nat) (a : Bool → Nat → Option Addr) (cp lo hi : Bool → Nat → Nat) (Pr : Bool → Nat → List Int) : Prop where
  sep : ∀ s, SetsSep w (g s) n (a s) (cp s) (lo s) (hi s) (Pr s)
  dj : ∀ i j, i < n → j < n → hi false i ≤ lo true j ∨ hi true j ≤ lo false i
  out : ∀ s s' i, i < n → ¬ (lo s i ≤ g s' ∧ g s' < hi s i)
  low : ∀ s, g s < T
  top : T ≤ w.heap.size
  rng : ∀ s i q, i < n → lo s i ≤ q → q < hi s i → B ≤ q ∧ q < T
theorem SetsSep.of {w w' : World} {g n : Nat} {a : Nat → Option Addr} {cp lo hi : Nat → Nat} {Pr : Nat → List Int} (h : SetsSep w g n a cp lo hi Pr) (k : ∀ q, (q = g ∨ ∃ i, i < n ∧ lo i ≤ q ∧ q < hi i) → w'.heap[q]? = w.heap[q]?) : SetsSep w' g n a cp lo hi Pr :=
  ⟨fun i hi' => (cell_of (k g (Or.inl rfl))).trans (h.cell i hi'), fun i hi' => (h.ints i hi').keepS (fun q q1 q2 => k q (Or.inr ⟨i, hi', q1, q2⟩)), fun i hi' => (h.thaw i hi').keepS (fun q q1 q2 => k q (Or.inr ⟨i, hi', q1, q2⟩)), h.dj, h.out⟩
/-- Marked. -/
structure LvMk (w : World) (T n : Nat) (k : Int) (g : Bool → Nat) (a : Bool → Nat → Option Addr) (cp lo hi : Bool → Nat → Nat) (Pr : Bool → Nat → List Int) : Prop where
  cell : ∀ s i, i < n → w.cell? ⟨g s, i, none⟩ = some (.slice (a s i) (Pr s i).length (cp s i))
  ints : ∀ s i, i < n → IntsAt w (lo s i) (hi s i) (a s i) (marks (k + (if s = true then (pc (Pr false) n : Int) else 0) + pc (Pr s) i) (Pr s i).length)
  low : ∀ s, g s < T
  top : T ≤ w.heap.size
  rng : ∀ s i q, i < n → lo s i ≤ q → q < hi s i → q < T
theorem LvMk.below {w w' : World} {T n : Nat} {k : Int} {g : Bool → Nat} {a : Bool → Nat → Option Addr} {cp lo hi : Bool → Nat → Nat} {Pr : Bool → Nat → List Int} (h : LvMk w T n k g a cp lo hi Pr) (b : Below w.heap.size w w') : LvMk w' T n k g a cp lo hi Pr :=
  ⟨fun s i hi' => (b.cell (p := ⟨g s, i, none⟩) (Nat.lt_of_lt_of_le (h.low s) h.top)).trans (h.cell s i hi'), fun s i hi' => (h.ints s i hi').keepS (fun q q1 q2 => b.block q (Nat.lt_of_lt_of_le (h.rng s i q hi' q1 q2) h.top)), h.low, Nat.le_trans h.top b.size, h.rng⟩
end Go.Proofs.YtjfcbjomfbfoiaaGreatDoor

namespace Go.Proofs.YtjfcbjomfbfoiaaGreatDoor
open Go.RowKit
def off2 (s : Bool) : Nat := if s = true then 1 else 0
structure LiG (w0 wr : World) (Fo : Nat) (b : Bool → Nat) (U : Bool → Nat → Value) (P : Bool → Nat → List Int) (X : Bool → Value) : Prop where
  os : wr.os = w0.os
  tape : wr.tape = w0.tape
  output : wr.output = w0.output
  size : w0.heap.size ≤ wr.heap.size
  hF : Fo < w0.heap.size
  fr : ∀ q, q < w0.heap.size → q ≠ Fo → wr.heap[q]? = w0.heap[q]?
  box : wr.rowIs Fo 28 2 (fun i => X (decide (i = 1)))
  oo : ∀ s, wr.ownsRow w0.heap.size 56 1 (X s) (b s) ((List.range (b s)).map (U s))
  ne : ∀ g, (X false).ownBlock = some g → (X true).ownBlock ≠ some g
  own : ∀ s i, i < b s → wr.ownsRow w0.heap.size 2 1 (U s i) (P s i).length ((P s i).map (Value.int .i64))
  dj : ∀ s i s' j, i < b s → j < b s' → (s, i) ≠ (s', j) → (U s i).ownBlock = none ∨ (U s i).ownBlock ≠ (U s' j).ownBlock
section
variable {w0 wr wr' w5 w8 : World} {Fo : Nat} {b : Bool → Nat} {U : Bool → Nat → Value} {P : Bool → Nat → List Int} {X : Bool → Value}
theorem LiG.cell (h : LiG w0 wr Fo b U P X) {q o : Nat} {v : Value} (hq : q ≠ Fo) (hc : w0.cell? ⟨q, o, none⟩ = some v) : wr.cell? ⟨q, o, none⟩ = some v := (cell_of (h.fr q (World.block_lt_of_cell? w0 _ hc) hq)).trans hc
theorem LiG.xcell (h : LiG w0 wr Fo b U P X) (s : Bool) : wr.cell? ⟨Fo, off2 s, none⟩ = some (X s) := by
  cases s
  · exact h.box.cell (i := 0) (by decide)
  · exact h.box.cell (i := 1) (by decide)
/-- Rows of two types are two rows. -/
theorem own_types {W : World} {b1 b2 e1 e2 s1 s2 n1 n2 : Nat} {v1 v2 : Value} {c1 c2 : List Value} (h1 : W.ownsRow b1 e1 s1 v1 n1 c1) (h2 : W.ownsRow b2 e2 s2 v2 n2 c2) (he : e1 ≠ e2) : v1.ownBlock = none ∨ v1.ownBlock ≠ v2.ownBlock := by
  rcases h1.2 with ⟨q1, _⟩ | ⟨g1, k1, d1, q1, _, r1, _⟩
  · rw [q1]; exact Or.inl rfl
  · rcases h2.2 with ⟨q2, _⟩ | ⟨g2, k2, d2, q2, _, r2, _⟩
    · rw [q1, q2]; exact Or.inr (fun e => by cases e)
    · rw [q1, q2]
      refine Or.inr (fun e => ?_)
      injection e with e
      have e : g1 = g2 := e
      subst e
      rw [r1] at r2
      injection r2 with r2
      injection r2 with _ r3
      exact he r3
theorem own_below {W W' : World} {b1 e1 s1 n1 : Nat} {v1 : Value} {c1 : List Value} (h : W.ownsRow b1 e1 s1 v1 n1 c1) (k : Below W.heap.size W W') : W'.ownsRow b1 e1 s1 v1 n1 c1 := by
  refine h.kept (row := none) ⟨k.os, k.tape, k.output, k.size, fun q hq _ => k.block q hq⟩ ?_
  cases v1.ownBlock <;> simp
theorem own_fresh {W : World} {b1 e1 s1 n1 z : Nat} {v1 : Value} {c1 : List Value} (h : W.ownsRow b1 e1 s1 v1 n1 c1) (hz : W.heap.size ≤ z) : v1.ownBlock ≠ some z := fun e => by have := (h.lt z e).2; omega
theorem LiG.push (h : LiG w0 wr Fo b U P X) {s : Bool} {u x' : Value} {ob : Obj} (k : Below wr.heap.size wr w5) (hu : w5.ownsRow wr.heap.size 2 1 u (P s (b s)).length ((P s (b s)).map (Value.int .i64))) (hg : (w5.alloc ob).grownBy w8 (X s).ownBlock) (ho : w8.ownsRow w0.heap.size 56 1 x' (b s + 1) ((List.range (b s)).map (U s) ++ [u])) (hat : x'.ownBlock = (X s).ownBlock ∨ x'.ownBlock = some (w5.heap.size + 1)) :
    LiG w0 (w8.setCell ⟨Fo, off2 s, none⟩ x') Fo (fun s' => if s' = s then b s + 1 else b s') (fun s' i => if (s', i) = (s, b s) then u else U s' i) P (fun s' => if s' = s then x' else X s') ∧ w8.cell? ⟨Fo, off2 s, none⟩ = some (X s) ∧ w8.frozen? ⟨Fo, off2 s, none⟩ = false ∧ (∀ q, q < w0.heap.size → q ≠ Fo → w8.heap[q]? = wr.heap[q]? ∧ (w8.setCell ⟨Fo, off2 s, none⟩ x').heap[q]? = wr.heap[q]?) := by
  have hsz := h.size
  have hk := k.size
  have hgs := hg.size
  have has : (w5.alloc ob).heap.size = w5.heap.size + 1 := World.size_alloc _ _
  have hF := h.hF
  have hal : ∀ q, q < w5.heap.size → (w5.alloc ob).heap[q]? = w5.heap[q]? := fun q hq => Below.heap_alloc w5 _ _ hq
  have kA : Below wr.heap.size wr (w5.alloc ob) := ⟨k.os, k.tape, k.output, by omega, fun q hq => (hal q (by omega)).trans (k.block q hq)⟩
  have hnX : ∀ s' q, q < w0.heap.size → (X s').ownBlock ≠ some q := fun s' q hq e => by have := ((h.oo s').lt q e).1; omega
  have hbl : ∀ q, q < w0.heap.size → w8.heap[q]? = wr.heap[q]? := fun q hq => (hg.block q (by omega) (fun e => hnX s q hq e.symm)).trans (kA.block q (by omega))
  have hset : ∀ q, q ≠ Fo → (w8.setCell ⟨Fo, off2 s, none⟩ x').heap[q]? = w8.heap[q]? := fun q hq => Below.heap_setCell _ _ _ _ hq
  have hU : ∀ s' i, i < b s' → (w8.setCell ⟨Fo, off2 s, none⟩ x').ownsRow w0.heap.size 2 1 (U s' i) (P s' i).length ((P s' i).map (Value.int .i64)) := fun s' i hi =>
    ownsRow_setCell_below ((own_below (h.own s' i hi) kA).kept hg (own_types (h.own s' i hi) (h.oo s) (by decide))) hF _
  have huA : (w5.alloc ob).ownsRow wr.heap.size 2 1 u (P s (b s)).length ((P s (b s)).map (Value.int .i64)) := hu.alloc ob
  have hXA := own_below (h.oo s) kA
  have hu8 : (w8.setCell ⟨Fo, off2 s, none⟩ x').ownsRow w0.heap.size 2 1 u (P s (b s)).length ((P s (b s)).map (Value.int .i64)) :=
    ownsRow_setCell_below (own_base (huA.kept hg (own_types huA hXA (by decide))) (by omega)) hF _
  have huU : ∀ s' i, i < b s' → u.ownBlock = none ∨ u.ownBlock ≠ (U s' i).ownBlock := fun s' i hi => by
    cases e : u.ownBlock with
    | none => exact Or.inl rfl
    | some g =>
      refine Or.inr (fun e2 => ?_)
      have h1 := (hu.lt g e).1
      have h2 := ((h.own s' i hi).lt g e2.symm).2
      omega
  have hX' : ∀ s', s' ≠ s → (X s').ownBlock = none ∨ (X s').ownBlock ≠ (X s).ownBlock := fun s' hs' => by
    cases e : (X s').ownBlock with
    | none => exact Or.inl rfl
    | some g =>
      refine Or.inr (fun e2 => ?_)
      cases s' <;> cases s <;> first | exact hs' rfl | exact h.ne g e e2.symm | exact h.ne g e2.symm e
  refine ⟨⟨hg.os.trans (k.os.trans h.os), hg.tape.trans (k.tape.trans h.tape), hg.output.trans (k.output.trans h.output), by rw [size_setCell]; omega, hF, fun q h1 h2 => (hset q h2).trans ((hbl q h1).trans (h.fr q h1 h2)), ?_, fun s' => ?_, fun g e => ?_, fun s' i hi => ?_, fun s1 i s2 j hi hj hij => ?_⟩, (cell_of (hbl Fo hF)).trans (h.xcell s), (World.frozen?_of_block (hbl Fo hF)).trans (h.box.frozen _), fun q h1 h2 => ⟨hbl q h1, (hset q h2).trans (hbl q h1)⟩⟩
  · refine ((h.box.of_block (hbl Fo hF)).set (off2 s) x').congr (fun i hi => ?_)
    have h2 : i = 0 ∨ i = 1 := by omega
    rcases h2 with rfl | rfl <;> cases s <;> simp [off2]
  · by_cases e : s' = s
    · subst e
      simp only [if_true]
      refine ownsRow_setCell_below ?_ hF _
      rw [List.range_succ, List.map_append]
      have e1 : (List.range (b s')).map (fun i => if (s', i) = (s', b s') then u else U s' i) = (List.range (b s')).map (U s') := List.map_congr_left (fun i hi => by
        have := List.mem_range.1 hi
        rw [if_neg (by simp; omega)])
      rw [e1]
      simpa using ho
    · simp only [e, if_false]
      have e1 : (List.range (b s')).map (fun i => if (s', i) = (s, b s) then u else U s' i) = (List.range (b s')).map (U s') := List.map_congr_left (fun i _ => by rw [if_neg (by simp [e])])
      rw [e1]
      exact ownsRow_setCell_below ((own_below (h.oo s') kA).kept hg (hX' s' e)) hF _
  · have hfr : ∀ s', (X s').ownBlock ≠ some (w5.heap.size + 1) := fun s' => own_fresh (h.oo s') (by omega)
    cases s with
    | false =>
      simp only [if_true, Bool.true_eq_false, if_false] at e ⊢
      rcases hat with q | q
      · exact h.ne g (q ▸ e)
      · rw [q] at e
        injection e with e
        rw [← e]
        exact hfr true
    | true =>
      simp only [if_true, Bool.false_eq_true, if_false] at e ⊢
      rcases hat with q | q
      · rw [q]; exact h.ne g e
      · rw [q]
        intro e2
        injection e2 with e2
        rw [← e2] at e
        exact hfr false e
  · by_cases e : (s', i) = (s, b s)
    · have e1 : s' = s := congrArg Prod.fst e
      have e2 : i = b s := congrArg Prod.snd e
      subst e1 e2
      simp only [if_true]
      exact hu8
    · simp only [e, if_false]
      refine hU s' i ?_
      by_cases e1 : s' = s
      · subst e1
        simp only [if_true] at hi
        have : i ≠ b s' := fun e3 => e (by rw [e3])
        omega
      · simpa [e1] using hi
  · have low : ∀ s' i, i < (if s' = s then b s + 1 else b s') → (s', i) ≠ (s, b s) → i < b s' := fun s' i hi e => by
      by_cases e1 : s' = s
      · subst e1
        simp only [if_true] at hi
        have : i ≠ b s' := fun e3 => e (by rw [e3])
        omega
      · simpa [e1] using hi
    by_cases e1 : (s1, i) = (s, b s)
    · have e2 : (s2, j) ≠ (s, b s) := fun e => hij (e1.trans e.symm)
      simp only [e1, if_true, e2, if_false]
      exact huU s2 j (low s2 j hj e2)
    · simp only [e1, if_false]
      by_cases e2 : (s2, j) = (s, b s)
      · simp only [e2, if_true]
        rcases huU s1 i (low s1 i hi e1) with q | q
        · rw [q]
          cases (U s1 i).ownBlock <;> simp
        · exact Or.inr (fun e => q e.symm)
      · simp only [e2, if_false]
        exact h.dj s1 i s2 j (low s1 i hi e1) (low s2 j hj e2) hij
end
end Go.Proofs.YtjfcbjomfbfoiaaGreatDoor

namespace Go.Proofs.YtjfcbjomfbfoiaaGreatDoor
open Go.RowKit
noncomputable def lqL (v : Int) (xs : List Blk) (s : Bool) : List (List Int) := if validI ⟨v, xs⟩ = true then (List.range xs.length).map (ipTo xs v.toNat s) else []
def LiveA (w : World) (L B : Nat) (v : Int) (xs : List Blk) (G : Value) : Prop := ∃ n a1 c1 a2 c2, G = .agg #[.slice a1 n c1, .slice a2 n c2] ∧ IntssAt w L B a1 (lqL v xs false) ∧ IntssAt w L B a2 (lqL v xs true) ∧ n = (lqL v xs false).length ∧ n = (lqL v xs true).length ∧ n ≤ 1000
theorem LiveA.keepS {w w' : World} {L B : Nat} {v : Int} {xs : List Blk} {G : Value} (h : LiveA w L B v xs G) (k : Same L B w w') : LiveA w' L B v xs G := by
  obtain ⟨n, a1, c1, a2, c2, e, h1, h2, h3⟩ := h
  exact ⟨n, a1, c1, a2, c2, e, h1.keepS k, h2.keepS k, h3⟩
theorem valid_nat {v : Int} {xs : List Blk} (h : validI ⟨v, xs⟩ = true) : ∃ V : Nat, v = (V : Int) := by
  have h0 : 0 ≤ v := by
    simp only [validI, sizeOk, Bool.and_eq_true, decide_eq_true_eq] at h
    omega
  exact Int.eq_ofNat_of_zero_le h0
def aV : Value → Option Addr
  | .slice a _ _ => a
  | _ => none
def cV : Value → Nat
  | .slice _ _ c => c
  | _ => 0
def loV (v : Value) : Nat := v.ownBlock.getD 0
def hiV (v : Value) : Nat := match v.ownBlock with
  | some g => g + 1
  | none => 0
theorem lohiV {v : Value} {k : Nat} : (loV v ≤ k ∧ k < hiV v) ↔ v.ownBlock = some k := by
  unfold loV hiV
  cases e : v.ownBlock with
  | none => simp
  | some g => simp; omega
theorem row_sepV {w : World} {B n : Nat} {v : Value} {xs : List Int} (h : w.ownsRow B 2 1 v n (xs.map (Value.int .i64))) : v = .slice (aV v) xs.length (cV v) ∧ IntsAt w (loV v) (hiV v) (aV v) xs ∧ ThawB (loV v) (hiV v) w ∧ ∀ k, v.ownBlock = some k → B ≤ k ∧ k < w.heap.size := by
  have hl : xs.length = n := by have := h.1; simpa using this
  refine ⟨?_, fun i hi => ?_, fun b o hb => ?_, fun k e => h.lt k e⟩
  · rcases own_form h with ⟨e, h0, _⟩ | ⟨g, c, e, _, _⟩
    · rw [e]; simp [aV, cV]; omega
    · rw [e, hl]; rfl
  · rcases own_form h with ⟨e, h0, _⟩ | ⟨g, c, e, _, _⟩
    · omega
    · subst e
      refine ⟨g, 0, rfl, lohiV.2 rfl, ?_⟩
      rw [Nat.zero_add]
      exact own_cell h (by simp [hi])
  · rcases own_form h with ⟨e, h0, _⟩ | ⟨g, c, e, _, _⟩
    · subst e
      have := lohiV.1 hb
      cases this
    · subst e
      have hb' := lohiV.1 hb
      cases hb'
      exact own_thaw h o
theorem djV {u v : Value} (h : u.ownBlock = none ∨ u.ownBlock ≠ v.ownBlock) : hiV u ≤ loV v ∨ hiV v ≤ loV u := by
  unfold loV hiV
  cases e1 : u.ownBlock with
  | none => exact Or.inl (Nat.zero_le _)
  | some a =>
    cases e2 : v.ownBlock with
    | none => exact Or.inr (Nat.zero_le _)
    | some b =>
      rw [e1, e2] at h
      have : a ≠ b := fun e => by
        rcases h with q | q
        · cases q
        · exact q (by rw [e])
      simp
      omega
/-- The same rows in a world where all of their blocks lie still. -/
theorem LiG.move {w0 wr w' : World} {Fo n : Nat} {U : Bool → Nat → Value} {P : Bool → Nat → List Int} {X : Bool → Value} (h : LiG w0 wr Fo (fun _ => n) U P X) (hq : ∀ q, w0.heap.size ≤ q → w'.heap[q]? = wr.heap[q]?) : (∀ s, w'.ownsRow w0.heap.size 56 1 (X s) n ((List.range n).map (U s))) ∧ ∀ s i, i < n → w'.ownsRow w0.heap.size 2 1 (U s i) (P s i).length ((P s i).map (Value.int .i64)) :=
  ⟨fun s => own_block (h.oo s) (fun g e => hq g ((h.oo s).lt g e).1), fun s i hi => own_block (h.own s i hi) (fun g e => hq g ((h.own s i hi).lt g e).1)⟩
theorem LiG.sep {w0 wr w' : World} {Fo n : Nat} {U : Bool → Nat → Value} {P : Bool → Nat → List Int} {X : Bool → Value} {g c : Bool → Nat} (h : LiG w0 wr Fo (fun _ => n) U P X) (hq : ∀ q, w0.heap.size ≤ q → w'.heap[q]? = wr.heap[q]?) (hX : ∀ s, X s = .slice (some ⟨g s, 0, none⟩) n (c s)) : LvSep w' w0.heap.size w'.heap.size n g (fun s i => aV (U s i)) (fun s i => cV (U s i)) (fun s i => loV (U s i)) (fun s i => hiV (U s i)) P := by
  obtain ⟨h1, h2⟩ := h.move hq
  have hg : ∀ s, (X s).ownBlock = some (g s) := fun s => by rw [hX s]; rfl
  have hne : ∀ s s' i, i < n → ¬ (loV (U s i) ≤ g s' ∧ g s' < hiV (U s i)) := fun s s' i hi e => by
    have e1 := lohiV.1 e
    rcases own_types (h.own s i hi) (h.oo s') (by decide) with q | q
    · rw [e1] at q; cases q
    · exact q (by rw [e1, hg s'])
  refine ⟨fun s => ⟨fun i hi => ?_, fun i hi => (row_sepV (h2 s i hi)).2.1, fun i hi => (row_sepV (h2 s i hi)).2.2.1, fun i j hi hj hij => djV (h.dj s i s j hi hj (fun e => hij (congrArg Prod.snd e))), fun i hi => hne s s i hi⟩, fun i j hi hj => djV (h.dj false i true j hi hj (fun e => by cases congrArg Prod.fst e)), hne, fun s => ((h1 s).lt _ (hg s)).2, Nat.le_refl _, fun s i q hi q1 q2 => (row_sepV (h2 s i hi)).2.2.2 q (lohiV.1 ⟨q1, q2⟩)⟩
  rw [← (row_sepV (h2 s i hi)).1]
  have h3 := h1 s
  rw [hX s] at h3
  exact own_cell h3 (by simp [hi])
theorem LvSep.keepS {w W : World} {B n : Nat} {g : Bool → Nat} {a : Bool → Nat → Option Addr} {cp lo hi : Bool → Nat → Nat} {Pr : Bool → Nat → List Int} (h : LvSep w B w.heap.size n g a cp lo hi Pr) (hg : ∀ s, B ≤ g s) (k : Same B w.heap.size w W) (hz : w.heap.size ≤ W.heap.size) : LvSep W B w.heap.size n g a cp lo hi Pr :=
  ⟨fun s => (h.sep s).of (fun q hq => by
    rcases hq with rfl | ⟨i, hi', q1, q2⟩
    · exact k _ (hg s) (h.low s)
    · have := h.rng s i q hi' q1 q2
      exact k q this.1 this.2), h.dj, h.out, h.low, hz, h.rng⟩
end Go.Proofs.YtjfcbjomfbfoiaaGreatDoor

namespace Go.Proofs.YtjfcbjomfbfoiaaGreatDoor
open Go.RowKit
/-- What MaxLive answers. -/
noncomputable def mxV (v : Int) (xs : List Blk) : Int := if validI ⟨v, xs⟩ = true then (mxL (allP xs v.toNat xs.length) : Int) else -1
set_option maxHeartbeats 1000000 in
set_option maxRecDepth 100000 in
theorem maxS_bad (v : Int) (a : Option Addr) (n c : Nat) (xs : List Blk) (L B : Nat) (w : World) (ha : Hid (BlksAt w L B a xs)) (hx : Hid (n = xs.length)) (hs : Hid (xs.length + blksTot xs ≤ 1048576)) (hB : B ≤ w.heap.size) (hv : Hid (validI ⟨v, xs⟩ = false)) :
    Calls Tryz.prog 21 #[.agg #[.int .i64 v, .slice a n c]] w fun e w' => e = .returned (.int .i64 (-1)) ∧ Below w.heap.size w w' := by
  have HVF := hide (fun W (hb : Below w.heap.size w W) => validFuncS_any v a n c xs L B W (hide (ha.out.keep (hb.mono hB))) hx hs (by have := hb.size; omega))
  rw [← valid_same, hv.out] at HVF
  go_enter Tryz.func21, Tryz.ntmps21
  go_wp2_with fail
  refine (HVF.out _ (balloc (Below.refl _ _) _)).mono ?_
  rintro e w1 ⟨rfl, hb1⟩
  have HB1 := hide (bnext (balloc (Below.refl w.heap.size w) _) hb1)
  clear hb1 HVF
  go_wp2_with fail
  go_ret
  exact ⟨rfl, HB1.out⟩
set_option maxHeartbeats 1000000 in
set_option maxRecDepth 100000 in
theorem maxI_bad (v : Int) (a : Option Addr) (n c : Nat) (xs : List Blk) (L B : Nat) (w : World) (ha : Hid (BlksAt w L B a xs)) (hx : Hid (n = xs.length)) (hs : Hid (xs.length + blksTot xs ≤ 1048576)) (hB : B ≤ w.heap.size) (hO : Hid (OpTabW w)) (hT : Hid (TerTabW w)) (hv : Hid (validI ⟨v, xs⟩ = false)) :
    Calls Tryz.prog 22 #[.agg #[.int .i64 v, .slice a n c]] w fun e w' => e = .returned (.int .i64 (-1)) ∧ Below w.heap.size w w' := by
  have HVF := hide (fun W (hb : Below w.heap.size w W) => validFuncI_any v a n c xs L B W (hide (ha.out.keep (hb.mono hB))) hx hs (by have := hb.size; omega) (hide (hO.out.keep hb hO.out.1).old) (hide (hT.out.keep hb hT.out.1).old))
  rw [hv.out] at HVF
  go_enter Tryz.func22, Tryz.ntmps22
  go_wp2_with fail
  refine (HVF.out _ (balloc (Below.refl _ _) _)).mono ?_
  rintro e w1 ⟨rfl, hb1⟩
  have HB1 := hide (bnext (balloc (Below.refl w.heap.size w) _) hb1)
  clear hb1 HVF
  go_wp2_with fail
  go_ret
  exact ⟨rfl, HB1.out⟩
theorem maxS_ans (v : Int) (a : Option Addr) (n c : Nat) (xs : List Blk) (L B : Nat) (w : World) (ha : Hid (BlksAt w L B a xs)) (hx : Hid (n = xs.length)) (hs : Hid (xs.length + blksTot xs ≤ 1048576)) (hB : B ≤ w.heap.size) :
    Calls Tryz.prog 21 #[.agg #[.int .i64 v, .slice a n c]] w fun e w' => e = .returned (.int .i64 (mxV v xs)) ∧ Below w.heap.size w w' := by
  unfold mxV
  cases hv : validI ⟨v, xs⟩ with
  | false =>
    rw [if_neg (by simp)]
    exact maxS_bad v a n c xs L B w ha hx hs hB (hide hv)
  | true =>
    rw [if_pos rfl]
    obtain ⟨V, rfl⟩ := valid_nat hv
    exact maxS_any V a n c xs L B w ha hx hs hB (hide hv) (hide (okL_of_valid hv))
theorem maxI_ans (v : Int) (a : Option Addr) (n c : Nat) (xs : List Blk) (L B : Nat) (w : World) (ha : Hid (BlksAt w L B a xs)) (hx : Hid (n = xs.length)) (hs : Hid (xs.length + blksTot xs ≤ 1048576)) (hB : B ≤ w.heap.size) (hO : Hid (OpTabW w)) (hT : Hid (TerTabW w)) :
    Calls Tryz.prog 22 #[.agg #[.int .i64 v, .slice a n c]] w fun e w' => e = .returned (.int .i64 (mxV v xs)) ∧ Below w.heap.size w w' := by
  unfold mxV
  cases hv : validI ⟨v, xs⟩ with
  | false =>
    rw [if_neg (by simp)]
    exact maxI_bad v a n c xs L B w ha hx hs hB hO hT (hide hv)
  | true =>
    rw [if_pos rfl]
    obtain ⟨V, rfl⟩ := valid_nat hv
    exact maxI_any V a n c xs L B w ha hx hs hB hO hT (hide hv) (hide (okL_of_valid hv))
end Go.Proofs.YtjfcbjomfbfoiaaGreatDoor
