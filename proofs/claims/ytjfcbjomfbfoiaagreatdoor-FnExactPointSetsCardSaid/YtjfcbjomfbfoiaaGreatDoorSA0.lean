import Derived.Test.YtjfcbjomfbfoiaaGreatDoorW7
import Derived.Test.YtjfcbjomfbfoiaaGreatDoorMH1
import Derived.Test.YtjfcbjomfbfoiaaGreatDoorMark
namespace Go.Proofs.YtjfcbjomfbfoiaaGreatDoor
open Go.RowKit
theorem step_append_q {P : Program} {ops : Array Oper} {w : World} {o : Oper} {a : Act} {K : Act → World → Prop} {Q : Exit → Act → World → Prop} {E : Prop} (hgd : o.guard = none) (s x : Operand) (t : TypeId)
    (ho : o.op = .call { callee := .builtin .append, args := #[s, x], argTypes := #[t, t] })
    (base : Nat) (e : TypeId) (i : TypeInfo) (z : Value) (size bytes : Nat) (ht : P.underlying t = some (.slice e)) (hi : P.info? e = some i) (hz : i.zero = some z)
    (hsize : i.size = size) (hby : i.bytes = bytes) (hzs : z.cells.size = size) (hsz : 0 < size)
    (v : Value) (n : Nat) (xs : List Value) (hs : a.eval s = v) (hown : w.ownsRow base e size v n xs)
    (ad : Addr) (m c : Nat) (news : List Value) (hx : a.eval x = .slice (some ad) m c) (hl : news.length = m * size) (hnews : ∀ j u, news[j]? = some u → w.cell? (ad.add j) = some u) (h1 : ∀ u ∈ news, u.oneCell' = true)
    (h63 : n + m ≤ maxLen) (hbytes : (n + m) * bytes ≤ 140737488355328) (hbase : base ≤ w.heap.size)
    (h : ∀ v' w', w'.ownsRow base e size v' (n + m) (xs ++ news) → w.grownBy w' v.ownBlock → (v' = .slice none 0 0 ↔ v = .slice none 0 0 ∧ m = 0) → (v'.ownBlock = v.ownBlock ∨ v'.ownBlock = some w.heap.size) → K (a.put o.dst v') w') :
    if Region.wanted o (yielded ops a.tmps) = true then Oper.wp P o a w K Q else E := by
  have hw : Region.wanted o (yielded ops a.tmps) = true := by simp [Region.wanted, hgd]
  rw [if_pos hw]
  obtain ⟨v', w', hr, h2, h3, h4, h5⟩ := run_append_own_at (P := P) w base t o.type e i z size bytes ht hi hz hsize hby hzs hsz v n xs hown ad m c news hl hnews h1 h63 hbytes hbase
  unfold Oper.wp execOp
  simp only [ho, resolve, invoke, builtin, Sem.run_bind, Sem.run_pure, Result.andThen_ok, List.map_toArray, List.map_cons, List.map_nil, hs, hx, hr]
  exact h v' w' h2 h3 h4 h5
end Go.Proofs.YtjfcbjomfbfoiaaGreatDoor

namespace Go.Proofs.YtjfcbjomfbfoiaaGreatDoor
open Go.RowKit
def Lsb (xs : List Blk) (s : Bool) (v b : Nat) : Prop := if s = true then Lou xs v b else Lin xs v b
open Classical in
noncomputable def ipTo (xs : List Blk) (v : Nat) (s : Bool) (b : Nat) : List Int := natI ((List.range v).filter fun u => decide (Lsb xs s u b))
/-- While two rows of sets are filled. -/
structure LvS (w3 wr : World) (G : Bool → Nat) (n : Nat) (P : Bool → Nat → List Int) : Prop where
  os : wr.os = w3.os
  tape : wr.tape = w3.tape
  output : wr.output = w3.output
  size : w3.heap.size ≤ wr.heap.size
  fr : ∀ q, q < w3.heap.size → q ≠ G false → q ≠ G true → wr.heap[q]? = w3.heap[q]?
  db : ∃ U, DbS wr w3.heap.size G n P U
section
variable {w3 wr wr' w8 : World} {G : Bool → Nat} {n : Nat} {P P' : Bool → Nat → List Int}
theorem LvS.below (h : LvS w3 wr G n P) (k : Below wr.heap.size wr wr') : LvS w3 wr' G n P := by
  obtain ⟨U, hU⟩ := h.db
  have := h.size
  exact ⟨k.os.trans h.os, k.tape.trans h.tape, k.output.trans h.output, Nat.le_trans h.size k.size, fun q h1 h2 h3 => (k.block q (by omega)).trans (h.fr q h1 h2 h3), U, hU.below k⟩
theorem LvS.congr (h : LvS w3 wr G n P) (e : ∀ s i, i < n → P s i = P' s i) : LvS w3 wr G n P' := by
  obtain ⟨U, hU⟩ := h.db
  exact ⟨h.os, h.tape, h.output, h.size, h.fr, U, hU.congr e⟩
theorem LvS.cell (h : LvS w3 wr G n P) {b o : Nat} {v : Value} (h1 : b ≠ G false) (h2 : b ≠ G true) (hc : w3.cell? ⟨b, o, none⟩ = some v) : wr.cell? ⟨b, o, none⟩ = some v := (cell_of (h.fr b (World.block_lt_of_cell? w3 _ hc) h1 h2)).trans hc
theorem LvS.push {U : Bool → Nat → Value} {s : Bool} {t : Nat} {ob : Obj} {x : Int} {v' : Value} (h : LvS w3 wr G n P) (hU : DbS wr w3.heap.size G n P U) (ht : t < n) (hg : (wr.drew.alloc ob).grownBy w8 (U s t).ownBlock) (ho : w8.ownsRow w3.heap.size 2 1 v' ((P s t).length + 1) ((P s t).map (Value.int .i64) ++ [.int .i64 x])) (hat : v'.ownBlock = (U s t).ownBlock ∨ v'.ownBlock = some (wr.heap.size + 1)) :
    LvS w3 (w8.setCell ⟨G s, t, none⟩ v') G n (fun s' i => if (s', i) = (s, t) then P s t ++ [x] else P s' i) ∧ w8.cell? ⟨G s, t, none⟩ = some (U s t) ∧ w8.frozen? ⟨G s, t, none⟩ = false ∧ (∀ q, q < wr.heap.size → q ≠ G s → (U s t).ownBlock ≠ some q → w8.heap[q]? = wr.heap[q]? ∧ (w8.setCell ⟨G s, t, none⟩ v').heap[q]? = wr.heap[q]?) ∧ wr.heap.size ≤ (w8.setCell ⟨G s, t, none⟩ v').heap.size := by
  have hsz := h.size
  have hgs := hg.size
  have has : (wr.drew.alloc ob).heap.size = wr.heap.size + 1 := World.size_alloc _ _
  have hal : ∀ k, k < wr.heap.size → (wr.drew.alloc ob).heap[k]? = wr.heap[k]? := fun k hk => Below.heap_alloc wr.drew _ _ hk
  have hU' : DbS (wr.drew.alloc ob) w3.heap.size G n P U := hU.below ⟨rfl, rfl, rfl, by omega, hal⟩
  have hst := hU'.step ht x v' hg ho (by rw [has]; exact hat)
  have hnu : ∀ k, k < w3.heap.size → (U s t).ownBlock ≠ some k := fun k hk e => by have := ((hU.own s t ht).lt k e).1; omega
  have hbk : ∀ k, k < wr.heap.size → (U s t).ownBlock ≠ some k → w8.heap[k]? = wr.heap[k]? := fun k h1 h3 => (hg.block k (by omega) (fun e => h3 e.symm)).trans (hal k h1)
  have hG := hU.lt s
  have hGb := hbk (G s) (by omega) (hnu _ hG)
  refine ⟨⟨hg.os.trans h.os, hg.tape.trans h.tape, hg.output.trans h.output, by rw [size_setCell]; omega, fun q h1 h2 h3 => ?_, _, hst⟩, (cell_of hGb).trans ((hU.row s).cell ht), (World.frozen?_of_block hGb).trans ((hU.row s).frozen t), fun q h1 h2 h3 => ⟨hbk q h1 h3, (Below.heap_setCell _ _ _ _ h2).trans (hbk q h1 h3)⟩, by rw [size_setCell]; omega⟩
  refine (Below.heap_setCell _ _ _ _ ?_).trans ((hbk q (by omega) (hnu q h1)).trans (h.fr q h1 h2 h3))
  cases s
  · exact h2
  · exact h3
end
end Go.Proofs.YtjfcbjomfbfoiaaGreatDoor

namespace Go.Proofs.YtjfcbjomfbfoiaaGreatDoor
open Go.RowKit
/-- Two lists of sets, every row its own. -/
structure LvSep (w : World) (B T n : Nat) (g : Bool → Nat) (a : Bool → Nat → Option Addr) (cp lo hi : Bool → Nat → Nat) (Pr : Bool → Nat → List Int) : Prop where
  sep : ∀ s, SetsSep w (g s) n (a s) (cp s) (lo s) (hi s) (Pr s)
  dj : ∀ i j, i < n → j < n → hi false i ≤ lo true j ∨ hi true j ≤ lo false i
  out : ∀ s s' i, i < n → ¬ (lo s i ≤ g s' ∧ g s' < hi s i)
  low : ∀ s, g s < T
  top : T ≤ w.heap.size
  rng : ∀ s i q, i < n → lo s i ≤ q → q < hi s i → B ≤ q ∧ q < T
theorem SetsSep.of {w w' : World} {g n : Nat} {a : Nat → Option Addr} {cp lo hi : Nat → Nat} {Pr : Nat → List Int} (h : SetsSep w g n a cp lo hi Pr) (k : ∀ q, (q = g ∨ ∃ i, i < n ∧ lo i ≤ q ∧ q < hi i) → w'.heap[q]? = w.heap[q]?) : SetsSep w' g n a cp lo hi Pr :=
  ⟨fun i hi' => (cell_of (k g (Or.inl rfl))).trans (h.cell i hi'), fun i hi' => (h.ints i hi').keepS (fun q q1 q2 => k q (Or.inr ⟨i, hi', q1, q2⟩)), fun i hi' => (h.thaw i hi').keepS (fun q q1 q2 => k q (Or.inr ⟨i, hi', q1, q2⟩)), h.dj, h.out⟩
/-- Marked. -/
structure LvMk (w : World) (T n : Nat) (k : Int) (g : Bool → Nat) (a : Bool → Nat → Option Addr) (cp lo hi : Bool → Nat → Nat) (Pr : Bool → Nat → List Int) : Prop where
  cell : ∀ s i, i < n → w.cell? ⟨g s, i, none⟩ = some (.slice (a s i) (Pr s i).length (cp s i))
  ints : ∀ s i, i < n → IntsAt w (lo s i) (hi s i) (a s i) (marks (k + (if s = true then (pc (Pr false) n : Int) else 0) + pc (Pr s) i) (Pr s i).length)
  low : ∀ s, g s < T
  top : T ≤ w.heap.size
  rng : ∀ s i q, i < n → lo s i ≤ q → q < hi s i → q < T
theorem LvMk.below {w w' : World} {T n : Nat} {k : Int} {g : Bool → Nat} {a : Bool → Nat → Option Addr} {cp lo hi : Bool → Nat → Nat} {Pr : Bool → Nat → List Int} (h : LvMk w T n k g a cp lo hi Pr) (b : Below w.heap.size w w') : LvMk w' T n k g a cp lo hi Pr :=
  ⟨fun s i hi' => (b.cell (p := ⟨g s, i, none⟩) (Nat.lt_of_lt_of_le (h.low s) h.top)).trans (h.cell s i hi'), fun s i hi' => (h.ints s i hi').keepS (fun q q1 q2 => b.block q (Nat.lt_of_lt_of_le (h.rng s i q hi' q1 q2) h.top)), h.low, Nat.le_trans h.top b.size, h.rng⟩
end Go.Proofs.YtjfcbjomfbfoiaaGreatDoor

namespace Go.Proofs.YtjfcbjomfbfoiaaGreatDoor
open Go.RowKit
def off2 (s : Bool) : Nat := if s = true then 1 else 0
structure LiG (w0 wr : World) (Fo : Nat) (b : Bool → Nat) (U : Bool → Nat → Value) (P : Bool → Nat → List Int) (X : Bool → Value) : Prop where
  os : wr.os = w0.os
  tape : wr.tape = w0.tape
  output : wr.output = w0.output
  size : w0.heap.size ≤ wr.heap.size
  hF : Fo < w0.heap.size
  fr : ∀ q, q < w0.heap.size → q ≠ Fo → wr.heap[q]? = w0.heap[q]?
  box : wr.rowIs Fo 28 2 (fun i => X (decide (i = 1)))
  oo : ∀ s, wr.ownsRow w0.heap.size 56 1 (X s) (b s) ((List.range (b s)).map (U s))
  ne : ∀ g, (X false).ownBlock = some g → (X true).ownBlock ≠ some g
  own : ∀ s i, i < b s → wr.ownsRow w0.heap.size 2 1 (U s i) (P s i).length ((P s i).map (Value.int .i64))
  dj : ∀ s i s' j, i < b s → j < b s' → (s, i) ≠ (s', j) → (U s i).ownBlock = none ∨ (U s i).ownBlock ≠ (U s' j).ownBlock
section
variable {w0 wr wr' w5 w8 : World} {Fo : Nat} {b : Bool → Nat} {U : Bool → Nat → Value} {P : Bool → Nat → List Int} {X : Bool → Value}
theorem LiG.cell (h : LiG w0 wr Fo b U P X) {q o : Nat} {v : Value} (hq : q ≠ Fo) (hc : w0.cell? ⟨q, o, none⟩ = some v) : wr.cell? ⟨q, o, none⟩ = some v := (cell_of (h.fr q (World.block_lt_of_cell? w0 _ hc) hq)).trans hc
theorem LiG.xcell (h : LiG w0 wr Fo b U P X) (s : Bool) : wr.cell? ⟨Fo, off2 s, none⟩ = some (X s) := by
  cases s
  · exact h.box.cell (i := 0) (by decide)
  · exact h.box.cell (i := 1) (by decide)
/-- Rows of two types are two rows. -/
theorem own_types {W : World} {b1 b2 e1 e2 s1 s2 n1 n2 : Nat} {v1 v2 : Value} {c1 c2 : List Value} (h1 : W.ownsRow b1 e1 s1 v1 n1 c1) (h2 : W.ownsRow b2 e2 s2 v2 n2 c2) (he : e1 ≠ e2) : v1.ownBlock = none ∨ v1.ownBlock ≠ v2.ownBlock := by
  rcases h1.2 with ⟨q1, _⟩ | ⟨g1, k1, d1, q1, _, r1, _⟩
  · rw [q1]; exact Or.inl rfl
  · rcases h2.2 with ⟨q2, _⟩ | ⟨g2, k2, d2, q2, _, r2, _⟩
    · rw [q1, q2]; exact Or.inr (fun e => by cases e)
    · rw [q1, q2]
      refine Or.inr (fun e => ?_)
      injection e with e
      have e : g1 = g2 := e
      subst e
      rw [r1] at r2
      injection r2 with r2
      injection r2 with _ r3
      exact he r3
theorem own_below {W W' : World} {b1 e1 s1 n1 : Nat} {v1 : Value} {c1 : List Value} (h : W.ownsRow b1 e1 s1 v1 n1 c1) (k : Below W.heap.size W W') : W'.ownsRow b1 e1 s1 v1 n1 c1 := by
  refine h.kept (row := none) ⟨k.os, k.tape, k.output, k.size, fun q hq _ => k.block q hq⟩ ?_
  cases v1.ownBlock <;> simp
theorem own_fresh {W : World} {b1 e1 s1 n1 z : Nat} {v1 : Value} {c1 : List Value} (h : W.ownsRow b1 e1 s1 v1 n1 c1) (hz : W.heap.size ≤ z) : v1.ownBlock ≠ some z := fun e => by have := (h.lt z e).2; omega
theorem LiG.push (h : LiG w0 wr Fo b U P X) {s : Bool} {u x' : Value} {ob : Obj} (k : Below wr.heap.size wr w5) (hu : w5.ownsRow wr.heap.size 2 1 u (P s (b s)).length ((P s (b s)).map (Value.int .i64))) (hg : (w5.alloc ob).grownBy w8 (X s).ownBlock) (ho : w8.ownsRow w0.heap.size 56 1 x' (b s + 1) ((List.range (b s)).map (U s) ++ [u])) (hat : x'.ownBlock = (X s).ownBlock ∨ x'.ownBlock = some (w5.heap.size + 1)) :
    LiG w0 (w8.setCell ⟨Fo, off2 s, none⟩ x') Fo (fun s' => if s' = s then b s + 1 else b s') (fun s' i => if (s', i) = (s, b s) then u else U s' i) P (fun s' => if s' = s then x' else X s') ∧ w8.cell? ⟨Fo, off2 s, none⟩ = some (X s) ∧ w8.frozen? ⟨Fo, off2 s, none⟩ = false ∧ (∀ q, q < w0.heap.size → q ≠ Fo → w8.heap[q]? = wr.heap[q]? ∧ (w8.setCell ⟨Fo, off2 s, none⟩ x').heap[q]? = wr.heap[q]?) := by
  have hsz := h.size
  have hk := k.size
  have hgs := hg.size
  have has : (w5.alloc ob).heap.size = w5.heap.size + 1 := World.size_alloc _ _
  have hF := h.hF
  have hal : ∀ q, q < w5.heap.size → (w5.alloc ob).heap[q]? = w5.heap[q]? := fun q hq => Below.heap_alloc w5 _ _ hq
  have kA : Below wr.heap.size wr (w5.alloc ob) := ⟨k.os, k.tape, k.output, by omega, fun q hq => (hal q (by omega)).trans (k.block q hq)⟩
  have hnX : ∀ s' q, q < w0.heap.size → (X s').ownBlock ≠ some q := fun s' q hq e => by have := ((h.oo s').lt q e).1; omega
  have hbl : ∀ q, q < w0.heap.size → w8.heap[q]? = wr.heap[q]? := fun q hq => (hg.block q (by omega) (fun e => hnX s q hq e.symm)).trans (kA.block q (by omega))
  have hset : ∀ q, q ≠ Fo → (w8.setCell ⟨Fo, off2 s, none⟩ x').heap[q]? = w8.heap[q]? := fun q hq => Below.heap_setCell _ _ _ _ hq
  have hU : ∀ s' i, i < b s' → (w8.setCell ⟨Fo, off2 s, none⟩ x').ownsRow w0.heap.size 2 1 (U s' i) (P s' i).length ((P s' i).map (Value.int .i64)) := fun s' i hi =>
    ownsRow_setCell_below ((own_below (h.own s' i hi) kA).kept hg (own_types (h.own s' i hi) (h.oo s) (by decide))) hF _
  have huA : (w5.alloc ob).ownsRow wr.heap.size 2 1 u (P s (b s)).length ((P s (b s)).map (Value.int .i64)) := hu.alloc ob
  have hXA := own_below (h.oo s) kA
  have hu8 : (w8.setCell ⟨Fo, off2 s, none⟩ x').ownsRow w0.heap.size 2 1 u (P s (b s)).length ((P s (b s)).map (Value.int .i64)) :=
    ownsRow_setCell_below (own_base (huA.kept hg (own_types huA hXA (by decide))) (by omega)) hF _
  have huU : ∀ s' i, i < b s' → u.ownBlock = none ∨ u.ownBlock ≠ (U s' i).ownBlock := fun s' i hi => by
    cases e : u.ownBlock with
    | none => exact Or.inl rfl
    | some g =>
      refine Or.inr (fun e2 => ?_)
      have h1 := (hu.lt g e).1
      have h2 := ((h.own s' i hi).lt g e2.symm).2
      omega
  have hX' : ∀ s', s' ≠ s → (X s').ownBlock = none ∨ (X s').ownBlock ≠ (X s).ownBlock := fun s' hs' => by
    cases e : (X s').ownBlock with
    | none => exact Or.inl rfl
    | some g =>
      refine Or.inr (fun e2 => ?_)
      cases s' <;> cases s <;> first | exact hs' rfl | exact h.ne g e e2.symm | exact h.ne g e2.symm e
  refine ⟨⟨hg.os.trans (k.os.trans h.os), hg.tape.trans (k.tape.trans h.tape), hg.output.trans (k.output.trans h.output), by rw [size_setCell]; omega, hF, fun q h1 h2 => (hset q h2).trans ((hbl q h1).trans (h.fr q h1 h2)), ?_, fun s' => ?_, fun g e => ?_, fun s' i hi => ?_, fun s1 i s2 j hi hj hij => ?_⟩, (cell_of (hbl Fo hF)).trans (h.xcell s), (World.frozen?_of_block (hbl Fo hF)).trans (h.box.frozen _), fun q h1 h2 => ⟨hbl q h1, (hset q h2).trans (hbl q h1)⟩⟩
  · refine ((h.box.of_block (hbl Fo hF)).set (off2 s) x').congr (fun i hi => ?_)
    have h2 : i = 0 ∨ i = 1 := by omega
    rcases h2 with rfl | rfl <;> cases s <;> simp [off2]
  · by_cases e : s' = s
    · subst e
      simp only [if_true]
      refine ownsRow_setCell_below ?_ hF _
      rw [List.range_succ, List.map_append]
      have e1 : (List.range (b s')).map (fun i => if (s', i) = (s', b s') then u else U s' i) = (List.range (b s')).map (U s') := List.map_congr_left (fun i hi => by
        have := List.mem_range.1 hi
        rw [if_neg (by simp; omega)])
      rw [e1]
      simpa using ho
    · simp only [e, if_false]
      have e1 : (List.range (b s')).map (fun i => if (s', i) = (s, b s) then u else U s' i) = (List.range (b s')).map (U s') := List.map_congr_left (fun i _ => by rw [if_neg (by simp [e])])
      rw [e1]
      exact ownsRow_setCell_below ((own_below (h.oo s') kA).kept hg (hX' s' e)) hF _
  · have hfr : ∀ s', (X s').ownBlock ≠ some (w5.heap.size + 1) := fun s' => own_fresh (h.oo s') (by omega)
    cases s with
    | false =>
      simp only [if_true, Bool.true_eq_false, if_false] at e ⊢
      rcases hat with q | q
      · exact h.ne g (q ▸ e)
      · rw [q] at e
        injection e with e
        rw [← e]
        exact hfr true
    | true =>
      simp only [if_true, Bool.false_eq_true, if_false] at e ⊢
      rcases hat with q | q
      · rw [q]; exact h.ne g e
      · rw [q]
        intro e2
        injection e2 with e2
        rw [← e2] at e
        exact hfr false e
  · by_cases e : (s', i) = (s, b s)
    · have e1 : s' = s := congrArg Prod.fst e
      have e2 : i = b s := congrArg Prod.snd e
      subst e1 e2
      simp only [if_true]
      exact hu8
    · simp only [e, if_false]
      refine hU s' i ?_
      by_cases e1 : s' = s
      · subst e1
        simp only [if_true] at hi
        have : i ≠ b s' := fun e3 => e (by rw [e3])
        omega
      · simpa [e1] using hi
  · have low : ∀ s' i, i < (if s' = s then b s + 1 else b s') → (s', i) ≠ (s, b s) → i < b s' := fun s' i hi e => by
      by_cases e1 : s' = s
      · subst e1
        simp only [if_true] at hi
        have : i ≠ b s' := fun e3 => e (by rw [e3])
        omega
      · simpa [e1] using hi
    by_cases e1 : (s1, i) = (s, b s)
    · have e2 : (s2, j) ≠ (s, b s) := fun e => hij (e1.trans e.symm)
      simp only [e1, if_true, e2, if_false]
      exact huU s2 j (low s2 j hj e2)
    · simp only [e1, if_false]
      by_cases e2 : (s2, j) = (s, b s)
      · simp only [e2, if_true]
        rcases huU s1 i (low s1 i hi e1) with q | q
        · rw [q]
          cases (U s1 i).ownBlock <;> simp
        · exact Or.inr (fun e => q e.symm)
      · simp only [e2, if_false]
        exact h.dj s1 i s2 j (low s1 i hi e1) (low s2 j hj e2) hij
end
end Go.Proofs.YtjfcbjomfbfoiaaGreatDoor
