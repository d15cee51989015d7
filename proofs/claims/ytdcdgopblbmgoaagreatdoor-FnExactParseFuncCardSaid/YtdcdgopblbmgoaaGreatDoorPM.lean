import Derived.Test.YtdcdgopblbmgoaaGreatDoorPK
import Derived.Deep.AppendLies
/-
  A function that is being read, as it lies in memory: a row of blocks, the last of them open or none, each with rows of its own.
-/
namespace Go.Proofs.YtdcdgopblbmgoaaGreatDoor
open Go.RowKit

theorem addrAdd (g j : Nat) : (⟨g, 0, none⟩ : Addr).add j = ⟨g, j, none⟩ := by unfold Addr.add; split <;> simp_all
theorem ownKeep {w w1 : World} {B t s : Nat} {x : Value} {n : Nat} {xs : List Value} (h : w.ownsRow B t s x n xs) (k : ∀ b, x.ownBlock = some b → w1.heap[b]? = w.heap[b]?) : w1.ownsRow B t s x n xs := by
  obtain ⟨hl, h | ⟨g, cap, cur, rfl, hg, hh, hc⟩⟩ := h
  · exact ⟨hl, Or.inl h⟩
  · exact ⟨hl, Or.inr ⟨g, cap, cur, rfl, hg, (k g rfl).trans hh, hc⟩⟩
theorem rowCell {w : World} {base e s g n c : Nat} {cs : List Value} (h : w.ownsRow base e s (.slice (some ⟨g, 0, none⟩) n c) n cs) {j : Nat} (hj : j < cs.length) : w.cell? ⟨g, j, none⟩ = some cs[j] := by
  have := h.cells (g := g) rfl j cs[j] (by simp)
  rw [addrAdd] at this
  exact this
theorem rowThaw {w : World} {base e s g n c : Nat} {cs : List Value} (h : w.ownsRow base e s (.slice (some ⟨g, 0, none⟩) n c) n cs) (o : Nat) : w.frozen? ⟨g, o, none⟩ = false := by
  rcases h.2 with ⟨e2, _⟩ | ⟨g', cap, cur, e2, _, hh, _⟩
  · cases e2
  · injection e2 with e3
    injection e3 with e3
    injection e3 with e4
    subst e4
    simp [World.frozen?, hh]
/-- A row that has grown holds what it held. -/
theorem rowGrow {w1 w2 : World} {base e s g g' n n' c c' : Nat} {cs news : List Value} (h1 : w1.ownsRow base e s (.slice (some ⟨g, 0, none⟩) n c) n cs) (h2 : w2.ownsRow base e s (.slice (some ⟨g', 0, none⟩) n' c') n' (cs ++ news)) {j : Nat} (hj : j < n * s) : w2.cell? ⟨g', j, none⟩ = w1.cell? ⟨g, j, none⟩ := by
  have hl := h1.1
  rw [rowCell h1 (by omega), rowCell h2 (by rw [List.length_append]; omega), List.getElem_append_left (by omega)]
theorem rowNew {w2 : World} {base e s g' n n' c' : Nat} {cs news : List Value} (hl : cs.length = n * s) (h2 : w2.ownsRow base e s (.slice (some ⟨g', 0, none⟩) n' c') n' (cs ++ news)) {j : Nat} (hj : j < news.length) : w2.cell? ⟨g', n * s + j, none⟩ = some news[j] := by
  rw [rowCell h2 (by rw [List.length_append]; omega), List.getElem_append_right (by omega)]
  simp [hl]
/-- A cell of an owned row is written. -/
theorem rowSet {w : World} {base e s g n c : Nat} {cs : List Value} (h : w.ownsRow base e s (.slice (some ⟨g, 0, none⟩) n c) n cs) (k : Nat) (v : Value) : ∃ cs', (w.setCell ⟨g, k, none⟩ v).ownsRow base e s (.slice (some ⟨g, 0, none⟩) n c) n cs' := by
  rcases h.2 with ⟨e2, _⟩ | ⟨g', cap, cur, e2, hb, hh, h1, h2, h3, h4⟩
  · cases e2
  · injection e2 with e3 _ e5
    injection e3 with e3
    injection e3 with e4
    subst e4 e5
    have h5 : (w.setCell ⟨g, k, none⟩ v).heap[g]? = some (.cells (cur.setIfInBounds k v) e (0, 0)) := by
      simp only [World.setCell, Array.getElem?_modify, hh]
      simp
    refine ⟨(cur.setIfInBounds k v).toList.take (n * s), ?_, Or.inr ⟨g, c, _, rfl, hb, h5, h1, h2, by simpa using h3, rfl⟩⟩
    have : n * s ≤ cur.size := by rw [h3]; exact Nat.mul_le_mul_right _ h1
    simp
    omega

/-- The phis of a block that is being read. -/
structure PhsOwn (w : World) (H : Nat) (pa : Option Addr) (pc : Nat) (ps : List Ph) : Prop where
  own : ∃ cs, w.ownsRow H 49 2 (.slice pa ps.length pc) ps.length cs
  at_ : ∀ i (h : i < ps.length), ∃ g a c, pa = some ⟨g, 0, none⟩ ∧ w.cell? ⟨g, i * 2, none⟩ = some (.int .i64 ps[i].dst) ∧ w.cell? ⟨g, i * 2 + 1, none⟩ = some (.slice a ps[i].args.length c) ∧
    ∀ j (hj : j < ps[i].args.length), ∃ b o, a = some ⟨b, o, none⟩ ∧ (H ≤ b ∧ b < w.heap.size) ∧ b ≠ g ∧ w.cell? ⟨b, o + j, none⟩ = some (.int .i64 ps[i].args[j])
theorem PhsOwn.nil (w : World) (H : Nat) : PhsOwn w H none 0 [] := ⟨⟨[], World.ownsRow_nil _ _ _ _⟩, fun i h => absurd h (by simp)⟩
theorem PhsOwn.phs {w : World} {H : Nat} {pa : Option Addr} {pc : Nat} {ps : List Ph} (h : PhsOwn w H pa pc ps) : PhsAt w H w.heap.size pa ps := fun i hi => by
  obtain ⟨g, a, c, e, h1, h2, h3⟩ := h.at_ i hi
  obtain ⟨cs, hcs⟩ := h.own
  subst e
  refine ⟨g, 0, rfl, hcs.lt g rfl, a, c, by rw [Nat.zero_add]; exact h1, by rw [Nat.zero_add]; exact h2, fun j hj => ?_⟩
  obtain ⟨b, o, e, hb, _, hc⟩ := h3 j hj
  exact ⟨b, o, e, hb, hc⟩
theorem PhsOwn.keep {w w' : World} {H : Nat} {pa : Option Addr} {pc : Nat} {ps : List Ph} (h : PhsOwn w H pa pc ps) (k : Same H w.heap.size w w') (hs : w.heap.size ≤ w'.heap.size) : PhsOwn w' H pa pc ps := by
  obtain ⟨cs, hcs⟩ := h.own
  refine ⟨⟨cs, ownKeep hcs (fun b e => k b (hcs.lt b e).1 (hcs.lt b e).2)⟩, fun i hi => ?_⟩
  obtain ⟨g, a, c, e, h1, h2, h3⟩ := h.at_ i hi
  subst e
  have hg := hcs.lt g rfl
  have q := k g hg.1 hg.2
  refine ⟨g, a, c, rfl, (cell_of q).trans h1, (cell_of q).trans h2, fun j hj => ?_⟩
  obtain ⟨b, o, e, hb, hne, hc⟩ := h3 j hj
  exact ⟨b, o, e, by omega, hne, (cell_of (k b hb.1 hb.2)).trans hc⟩
theorem PhsOwn.push {w1 w2 : World} {H : Nat} {pa : Option Addr} {pc : Nat} {ps : List Ph} (h : PhsOwn w1 H pa pc ps) {cs : List Value} (hcs : w1.ownsRow H 49 2 (.slice pa ps.length pc) ps.length cs) (p : Ph) {a : Option Addr} {c : Nat} {g' cap : Nat}
    (ha : ∀ j (hj : j < p.args.length), ∃ b o, a = some ⟨b, o, none⟩ ∧ (H ≤ b ∧ b < w1.heap.size) ∧ some b ≠ (Value.slice pa ps.length pc).ownBlock ∧ w1.cell? ⟨b, o + j, none⟩ = some (.int .i64 p.args[j]))
    (h2 : w2.ownsRow H 49 2 (.slice (some ⟨g', 0, none⟩) (ps.length + 1) cap) (ps.length + 1) (cs ++ [.int .i64 p.dst, .slice a p.args.length c])) (hg : w1.grownBy w2 (Value.slice pa ps.length pc).ownBlock) (hat : (Value.slice pa ps.length pc).ownBlock = some g' ∨ g' = w1.heap.size) :
    PhsOwn w2 H (some ⟨g', 0, none⟩) cap (ps ++ [p]) := by
  have hgs := hg.size
  have hl := hcs.1
  have hlen : (ps ++ [p]).length = ps.length + 1 := by simp
  refine ⟨⟨_, by rw [hlen]; exact h2⟩, fun i hi => ?_⟩
  have rows : ∀ (vs : List Int) (a : Option Addr), (∀ j (hj : j < vs.length), ∃ b o, a = some ⟨b, o, none⟩ ∧ (H ≤ b ∧ b < w1.heap.size) ∧ some b ≠ (Value.slice pa ps.length pc).ownBlock ∧ w1.cell? ⟨b, o + j, none⟩ = some (.int .i64 vs[j])) → ∀ j (hj : j < vs.length), ∃ b o, a = some ⟨b, o, none⟩ ∧ (H ≤ b ∧ b < w2.heap.size) ∧ b ≠ g' ∧ w2.cell? ⟨b, o + j, none⟩ = some (.int .i64 vs[j]) := fun vs a q j hj => by
    obtain ⟨b, o, e, hb, hne, hc⟩ := q j hj
    refine ⟨b, o, e, by omega, ?_, (cell_of (hg.block b hb.2 hne)).trans hc⟩
    rcases hat with f | f
    · intro e2; rw [← e2] at f; exact hne f.symm
    · omega
  by_cases hik : i < ps.length
  · obtain ⟨g, a0, c0, e, h1, h3, h4⟩ := h.at_ i hik
    subst e
    rw [List.getElem_append_left hik]
    refine ⟨g', a0, c0, rfl, (rowGrow hcs h2 (by omega)).trans h1, (rowGrow hcs h2 (by omega)).trans h3, rows _ _ (fun j hj => ?_)⟩
    obtain ⟨b, o, e, hb, hne, hc⟩ := h4 j hj
    exact ⟨b, o, e, hb, fun e2 => hne (by injection e2), hc⟩
  · have hie : i = ps.length := by omega
    subst hie
    have e1 : (ps ++ [p])[ps.length] = p := by simp
    rw [e1]
    refine ⟨g', a, c, rfl, ?_, ?_, rows _ _ ha⟩
    · have := rowNew (n := ps.length) hl h2 (j := 0) (by simp)
      simpa using this
    · have := rowNew (n := ps.length) hl h2 (j := 1) (by simp)
      simpa using this

/-- The instructions of a block that is being read. -/
structure InsOwn (w : World) (H : Nat) (ia : Option Addr) (ic : Nat) (xs : List Ins) : Prop where
  own : ∃ cs, w.ownsRow H 53 5 (.slice ia xs.length ic) xs.length cs
  at_ : ∀ i (h : i < xs.length), ∃ g, ia = some ⟨g, 0, none⟩ ∧ InsAt w g (i * 5) xs[i]
theorem InsOwn.inss {w : World} {H : Nat} {ia : Option Addr} {ic : Nat} {xs : List Ins} (h : InsOwn w H ia ic xs) : InssAt w H w.heap.size ia xs := fun i hi => by
  obtain ⟨g, e, h1⟩ := h.at_ i hi
  obtain ⟨cs, hcs⟩ := h.own
  subst e
  exact ⟨g, 0, rfl, hcs.lt g rfl, by rw [Nat.zero_add]; exact h1⟩
theorem InsOwn.keep {w w' : World} {H : Nat} {ia : Option Addr} {ic : Nat} {xs : List Ins} (h : InsOwn w H ia ic xs) (k : Same H w.heap.size w w') : InsOwn w' H ia ic xs := by
  obtain ⟨cs, hcs⟩ := h.own
  refine ⟨⟨cs, ownKeep hcs (fun b e => k b (hcs.lt b e).1 (hcs.lt b e).2)⟩, fun i hi => ?_⟩
  obtain ⟨g, e, h1⟩ := h.at_ i hi
  subst e
  have hg := hcs.lt g rfl
  exact ⟨g, rfl, h1.keepS (k g hg.1 hg.2)⟩
theorem InsOwn.push {w1 w2 : World} {H : Nat} {ia : Option Addr} {ic : Nat} {xs : List Ins} (h : InsOwn w1 H ia ic xs) {cs : List Value} (hcs : w1.ownsRow H 53 5 (.slice ia xs.length ic) xs.length cs) (x : Ins) {g' cap : Nat}
    (h2 : w2.ownsRow H 53 5 (.slice (some ⟨g', 0, none⟩) (xs.length + 1) cap) (xs.length + 1) (cs ++ x.cells)) : InsOwn w2 H (some ⟨g', 0, none⟩) cap (xs ++ [x]) := by
  have hl := hcs.1
  refine ⟨⟨_, by rw [show (xs ++ [x]).length = xs.length + 1 by simp]; exact h2⟩, fun i hi => ⟨g', rfl, ?_⟩⟩
  by_cases hik : i < xs.length
  · obtain ⟨g, e, h0, h1, h3, h4, h5⟩ := h.at_ i hik
    subst e
    rw [List.getElem_append_left hik]
    exact ⟨(rowGrow hcs h2 (by omega)).trans h0, (rowGrow hcs h2 (by omega)).trans h1, (rowGrow hcs h2 (by omega)).trans h3, (rowGrow hcs h2 (by omega)).trans h4, (rowGrow hcs h2 (by omega)).trans h5⟩
  · have hie : i = xs.length := by rw [List.length_append, List.length_singleton] at hi; omega
    subst hie
    have e1 : (xs ++ [x])[xs.length] = x := by simp
    rw [e1]
    have q := fun (j : Nat) (hj : j < x.cells.length) => rowNew (n := xs.length) hl h2 (j := j) hj
    exact ⟨q 0 (by simp [Ins.cells]), q 1 (by simp [Ins.cells]), q 2 (by simp [Ins.cells]), q 3 (by simp [Ins.cells]), q 4 (by simp [Ins.cells])⟩

/-- The rows of the block that is open: its phis can grow as long as it has no instruction. -/
def LastRows (w : World) (H : Nat) (pa : Option Addr) (pc : Nat) (ia : Option Addr) (ic : Nat) (ps : List Ph) (is : List Ins) : Prop :=
  (is = [] ∧ ia = none ∧ ic = 0 ∧ PhsOwn w H pa pc ps) ∨ (is ≠ [] ∧ ∃ H2, H ≤ H2 ∧ H2 ≤ w.heap.size ∧ PhsAt w H H2 pa ps ∧ InsOwn w H2 ia ic is)
theorem LastRows.keep {w w' : World} {H : Nat} {pa : Option Addr} {pc : Nat} {ia : Option Addr} {ic : Nat} {ps : List Ph} {is : List Ins} (h : LastRows w H pa pc ia ic ps is) (k : Same H w.heap.size w w') (hs : w.heap.size ≤ w'.heap.size) : LastRows w' H pa pc ia ic ps is := by
  rcases h with ⟨h1, h2, h3, h4⟩ | ⟨h1, H2, h2, h3, h4, h5⟩
  · exact Or.inl ⟨h1, h2, h3, h4.keep k hs⟩
  · exact Or.inr ⟨h1, H2, h2, by omega, h4.keepS (k.mono (Nat.le_refl _) h3), h5.keep (k.mono h2 (Nat.le_refl _))⟩
theorem LastRows.rows {w : World} {H : Nat} {pa : Option Addr} {pc : Nat} {ia : Option Addr} {ic : Nat} {ps : List Ph} {is : List Ins} (h : LastRows w H pa pc ia ic ps is) : PhsAt w H w.heap.size pa ps ∧ InssAt w H w.heap.size ia is := by
  rcases h with ⟨h1, h2, h3, h4⟩ | ⟨h1, H2, h2, h3, h4, h5⟩
  · subst h1
    exact ⟨h4.phs, fun i hi => absurd hi (by simp)⟩
  · exact ⟨h4.mono (Nat.le_refl _) h3, h5.inss.mono h2 (Nat.le_refl _)⟩

/-- The blocks that have their end; their rows lie below U. -/
def Clo (w : World) (B0 U G : Nat) (pre : List Blk) : Prop := ∀ i (h : i < pre.length), (∃ L B, B0 ≤ L ∧ B ≤ U ∧ ¬ (L ≤ G ∧ G < B) ∧ BlkAt w L B G (i * 6) pre[i]) ∧ pre[i].term.kind ≠ 0
/-- No block is open. -/
structure BldC (w : World) (B0 : Nat) (va : Option Addr) (vc : Nat) (pre : List Blk) : Prop where
  own : ∃ cs, w.ownsRow B0 46 6 (.slice va pre.length vc) pre.length cs
  clo : ∀ G, va = some ⟨G, 0, none⟩ → Clo w B0 w.heap.size G pre
  base : B0 ≤ w.heap.size
/-- The last block is open. -/
structure BldO (w : World) (B0 H G vc : Nat) (pre : List Blk) (pa : Option Addr) (pc : Nat) (ia : Option Addr) (ic : Nat) (ps : List Ph) (is : List Ins) : Prop where
  own : ∃ cs, w.ownsRow B0 46 6 (.slice (some ⟨G, 0, none⟩) (pre.length + 1) vc) (pre.length + 1) cs
  clo : Clo w B0 H G pre
  lo : (B0 ≤ G ∧ G < H) ∧ B0 ≤ H ∧ H ≤ w.heap.size
  c0 : w.cell? ⟨G, pre.length * 6, none⟩ = some (.slice pa ps.length pc)
  c1 : w.cell? ⟨G, pre.length * 6 + 1, none⟩ = some (.slice ia is.length ic)
  ter : TerAt w G (pre.length * 6 + 2) ⟨0, 0, 0, 0⟩
  rows : LastRows w H pa pc ia ic ps is
theorem Clo.keep {w w' : World} {B0 U G : Nat} {pre : List Blk} (h : Clo w B0 U G pre) (k : ∀ b, B0 ≤ b → b < U → b ≠ G → w'.heap[b]? = w.heap[b]?) (hG : ∀ i, i < pre.length * 6 → w'.cell? ⟨G, i, none⟩ = w.cell? ⟨G, i, none⟩) {U' : Nat} (hs : U ≤ U') : Clo w' B0 U' G pre := fun i hi => by
  obtain ⟨⟨L, B, h1, h2, h3, pa, pc, ia, ic, q0, q1, ⟨t0, t1, t2, t3⟩, q2, q3⟩, h4⟩ := h i hi
  have sm : Same L B w w' := fun b b1 b2 => k b (by omega) (by omega) (fun e => h3 (by omega))
  exact ⟨⟨L, B, h1, by omega, h3, pa, pc, ia, ic, (hG _ (by omega)).trans q0, (hG _ (by omega)).trans q1, ⟨(hG _ (by omega)).trans t0, (hG _ (by omega)).trans t1, (hG _ (by omega)).trans t2, (hG _ (by omega)).trans t3⟩, q2.keepS sm, q3.keepS sm⟩, h4⟩
theorem BldC.keep {w w' : World} {B0 : Nat} {va : Option Addr} {vc : Nat} {pre : List Blk} (h : BldC w B0 va vc pre) (k : Same B0 w.heap.size w w') (hs : w.heap.size ≤ w'.heap.size) : BldC w' B0 va vc pre := by
  obtain ⟨cs, hcs⟩ := h.own
  have hb := h.base
  refine ⟨⟨cs, ownKeep hcs (fun b e => k b (hcs.lt b e).1 (hcs.lt b e).2)⟩, fun G e => ?_, by omega⟩
  subst e
  have hG := hcs.lt G rfl
  exact (h.clo G rfl).keep (fun b h1 h2 _ => k b h1 h2) (fun i _ => cell_of (k G hG.1 hG.2)) hs
theorem BldO.keep {w w' : World} {B0 H G vc : Nat} {pre : List Blk} {pa : Option Addr} {pc : Nat} {ia : Option Addr} {ic : Nat} {ps : List Ph} {is : List Ins} (h : BldO w B0 H G vc pre pa pc ia ic ps is) (k : Same B0 w.heap.size w w') (hs : w.heap.size ≤ w'.heap.size) : BldO w' B0 H G vc pre pa pc ia ic ps is := by
  obtain ⟨cs, hcs⟩ := h.own
  have hG := hcs.lt G rfl
  have q := k G hG.1 hG.2
  obtain ⟨l1, l2, l3⟩ := h.lo
  exact ⟨⟨cs, ownKeep hcs (fun b e => k b (hcs.lt b e).1 (hcs.lt b e).2)⟩, h.clo.keep (fun b h1 h2 _ => k b h1 (by omega)) (fun i _ => cell_of q) (Nat.le_refl _), ⟨l1, l2, by omega⟩, (cell_of q).trans h.c0, (cell_of q).trans h.c1, h.ter.keepS q, h.rows.keep (k.mono l2 (Nat.le_refl _)) hs⟩
theorem BldC.nil (w : World) (B0 : Nat) (h : B0 ≤ w.heap.size) : BldC w B0 none 0 [] := ⟨⟨[], World.ownsRow_nil _ _ _ _⟩, fun _ e => (nomatch e), h⟩
/-- A block is opened. -/
theorem BldC.open_ {w1 w2 : World} {B0 : Nat} {va : Option Addr} {vc : Nat} {pre : List Blk} (h : BldC w1 B0 va vc pre) {cs : List Value} (hcs : w1.ownsRow B0 46 6 (.slice va pre.length vc) pre.length cs) {G' cap : Nat}
    (h2 : w2.ownsRow B0 46 6 (.slice (some ⟨G', 0, none⟩) (pre.length + 1) cap) (pre.length + 1) (cs ++ [.slice none 0 0, .slice none 0 0, .int .i64 0, .int .i64 0, .int .i64 0, .int .i64 0])) (hg : w1.grownBy w2 (Value.slice va pre.length vc).ownBlock) (hat : (Value.slice va pre.length vc).ownBlock = some G' ∨ G' = w1.heap.size) :
    BldO w2 B0 w2.heap.size G' cap pre none 0 none 0 [] [] := by
  have hgs := hg.size
  have hG' := h2.lt G' rfl
  have hl := hcs.1
  have q := fun (j : Nat) (hj : j < 6) => rowNew (n := pre.length) hl h2 (j := j) hj
  refine ⟨⟨_, h2⟩, fun i hi => ?_, by omega, q 0 (by omega), q 1 (by omega), ⟨q 2 (by omega), q 3 (by omega), q 4 (by omega), q 5 (by omega)⟩, Or.inl ⟨rfl, rfl, rfl, PhsOwn.nil _ _⟩⟩
  obtain ⟨G, cap0, e, hG1, hG2⟩ := hcs.form (by omega)
  obtain ⟨rfl, -, rfl⟩ := Value.slice.inj e
  obtain ⟨⟨L, B, h1, h3, h4, pa, pc, ia, ic, q0, q1, ⟨t0, t1, t2, t3⟩, q2, q3⟩, h5⟩ := h.clo G rfl i hi
  have sm : Same L B w1 w2 := fun b b1 b2 => hg.block b (by omega) (fun e => h4 (by injection e with e; dsimp only at e; omega))
  have r := fun (j : Nat) (hj : j < pre.length * 6) => rowGrow hcs h2 hj
  refine ⟨⟨L, B, h1, by omega, ?_, pa, pc, ia, ic, (r _ (by omega)).trans q0, (r _ (by omega)).trans q1, ⟨(r _ (by omega)).trans t0, (r _ (by omega)).trans t1, (r _ (by omega)).trans t2, (r _ (by omega)).trans t3⟩, q2.keepS sm, q3.keepS sm⟩, h5⟩
  rcases hat with f | f
  · have : G = G' := by injection f
    omega
  · omega
section
variable {w1 w2 : World} {B0 H G vc : Nat} {pre : List Blk} {pa : Option Addr} {pc : Nat} {ia : Option Addr} {ic : Nat} {ps : List Ph} {is : List Ins}
/-- What an append to a row of the open block, and a store into the block, leave as it was. -/
theorem BldO.frame (h : BldO w1 B0 H G vc pre pa pc ia ic ps is) {row : Option Nat} (hg : w1.grownBy w2 row) (hr : ∀ b, row = some b → H ≤ b) (k : Nat) (hk : pre.length * 6 ≤ k) (v : Value) :
    (∃ cs, (w2.setCell ⟨G, k, none⟩ v).ownsRow B0 46 6 (.slice (some ⟨G, 0, none⟩) (pre.length + 1) vc) (pre.length + 1) cs) ∧ Clo (w2.setCell ⟨G, k, none⟩ v) B0 H G pre ∧ (∀ i, i ≠ k → (w2.setCell ⟨G, k, none⟩ v).cell? ⟨G, i, none⟩ = w1.cell? ⟨G, i, none⟩) ∧ (∀ u, w1.cell? ⟨G, k, none⟩ = some u → (w2.setCell ⟨G, k, none⟩ v).cell? ⟨G, k, none⟩ = some v) ∧ (∀ b, b ≠ G → (w2.setCell ⟨G, k, none⟩ v).heap[b]? = w2.heap[b]?) ∧ (w2.setCell ⟨G, k, none⟩ v).heap.size = w2.heap.size := by
  obtain ⟨cs, hcs⟩ := h.own
  obtain ⟨⟨l0, l1⟩, l2, l3⟩ := h.lo
  have hgs := hg.size
  have hG := hcs.lt G rfl
  have nG : some G ≠ row := fun e => by have := hr G e.symm; omega
  have qG := hg.block G hG.2 nG
  have f : ∀ b, b ≠ G → (w2.setCell ⟨G, k, none⟩ v).heap[b]? = w2.heap[b]? := fun b hb => Below.heap_setCell _ _ _ _ hb
  have oc : ∀ i, i ≠ k → (w2.setCell ⟨G, k, none⟩ v).cell? ⟨G, i, none⟩ = w1.cell? ⟨G, i, none⟩ := fun i hi => (World.cell?_setCell_other _ _ _ _ (by intro e; injection e with _ e; exact hi e.symm)).trans (cell_of qG)
  refine ⟨rowSet (ownKeep hcs (fun b e => by injection e with e; dsimp only at e; subst e; exact qG)) k v, h.clo.keep (fun b h1 h2 h3 => (f b h3).trans (hg.block b (by omega) (fun e => by have := hr b e.symm; omega))) (fun i hi => oc i (by omega)) (Nat.le_refl _), oc, fun u hu => ?_, f, size_setCell _ _ _⟩
  exact World.cell?_setCell_same _ _ _ ((cell_of qG).trans hu)
/-- A phi comes to the open block. -/
theorem BldO.phi (h : BldO w1 B0 H G vc pre pa pc ia ic ps []) {cs : List Value} (hcs : w1.ownsRow H 49 2 (.slice pa ps.length pc) ps.length cs) (p : Ph) {a : Option Addr} {c : Nat} {g' cap : Nat}
    (ha : ∀ j (hj : j < p.args.length), ∃ b o, a = some ⟨b, o, none⟩ ∧ (H ≤ b ∧ b < w1.heap.size) ∧ some b ≠ (Value.slice pa ps.length pc).ownBlock ∧ w1.cell? ⟨b, o + j, none⟩ = some (.int .i64 p.args[j]))
    (h2 : w2.ownsRow H 49 2 (.slice (some ⟨g', 0, none⟩) (ps.length + 1) cap) (ps.length + 1) (cs ++ [.int .i64 p.dst, .slice a p.args.length c])) (hg : w1.grownBy w2 (Value.slice pa ps.length pc).ownBlock) (hat : (Value.slice pa ps.length pc).ownBlock = some g' ∨ g' = w1.heap.size) :
    BldO (w2.setCell ⟨G, pre.length * 6, none⟩ (.slice (some ⟨g', 0, none⟩) (ps.length + 1) cap)) B0 H G vc pre (some ⟨g', 0, none⟩) cap ia ic (ps ++ [p]) [] := by
  obtain ⟨⟨l0, l1⟩, l2, l3⟩ := h.lo
  have hgs := hg.size
  obtain ⟨f1, f2, f3, f4, f5, f6⟩ := h.frame hg (fun b e => (hcs.lt b e).1) (pre.length * 6) (Nat.le_refl _) (.slice (some ⟨g', 0, none⟩) (ps.length + 1) cap)
  obtain ⟨t0, t1, t2, t3⟩ := h.ter
  rcases h.rows with ⟨_, rfl, rfl, hr⟩ | ⟨e, _⟩
  · refine ⟨f1, f2, ⟨⟨l0, l1⟩, l2, by omega⟩, by rw [show (ps ++ [p]).length = ps.length + 1 by simp]; exact f4 _ h.c0, (f3 _ (by omega)).trans h.c1, ⟨(f3 _ (by omega)).trans t0, (f3 _ (by omega)).trans t1, (f3 _ (by omega)).trans t2, (f3 _ (by omega)).trans t3⟩, Or.inl ⟨rfl, rfl, rfl, ?_⟩⟩
    exact (hr.push hcs p ha h2 hg hat).keep (fun b b1 b2 => f5 b (by omega)) (by omega)
  · exact absurd rfl e
/-- An instruction comes to the open block. -/
theorem BldO.ins (h : BldO w1 B0 H G vc pre pa pc ia ic ps is) {H2 : Nat} {cs : List Value} (hH : H ≤ H2 ∧ H2 ≤ w1.heap.size) (hph : PhsAt w1 H H2 pa ps) (hio : InsOwn w1 H2 ia ic is) (hcs : w1.ownsRow H2 53 5 (.slice ia is.length ic) is.length cs) (x : Ins) {g' cap : Nat}
    (h2 : w2.ownsRow H2 53 5 (.slice (some ⟨g', 0, none⟩) (is.length + 1) cap) (is.length + 1) (cs ++ x.cells)) (hg : w1.grownBy w2 (Value.slice ia is.length ic).ownBlock) :
    BldO (w2.setCell ⟨G, pre.length * 6 + 1, none⟩ (.slice (some ⟨g', 0, none⟩) (is.length + 1) cap)) B0 H G vc pre pa pc (some ⟨g', 0, none⟩) cap ps (is ++ [x]) := by
  obtain ⟨⟨l0, l1⟩, l2, l3⟩ := h.lo
  have hgs := hg.size
  have hrow := fun b e => hcs.lt b e
  obtain ⟨f1, f2, f3, f4, f5, f6⟩ := h.frame hg (fun b e => by have := (hrow b e).1; omega) (pre.length * 6 + 1) (by omega) (.slice (some ⟨g', 0, none⟩) (is.length + 1) cap)
  obtain ⟨t0, t1, t2, t3⟩ := h.ter
  refine ⟨f1, f2, ⟨⟨l0, l1⟩, l2, by omega⟩, (f3 _ (by omega)).trans h.c0, by rw [show (is ++ [x]).length = is.length + 1 by simp]; exact f4 _ h.c1, ⟨(f3 _ (by omega)).trans t0, (f3 _ (by omega)).trans t1, (f3 _ (by omega)).trans t2, (f3 _ (by omega)).trans t3⟩, Or.inr ⟨by simp, H2, hH.1, by omega, hph.keepS (fun b b1 b2 => (f5 b (by omega)).trans (hg.block b (by omega) (fun e => by have := (hrow b e.symm).1; omega))), ?_⟩⟩
  exact (hio.push hcs x h2).keep (fun b b1 b2 => f5 b (by omega))
/-- What the rows of the open block give for an append of an instruction. -/
theorem BldO.insRow (h : BldO w1 B0 H G vc pre pa pc ia ic ps is) : ∃ H2 cs, (H ≤ H2 ∧ H2 ≤ w1.heap.size) ∧ PhsAt w1 H H2 pa ps ∧ InsOwn w1 H2 ia ic is ∧ w1.ownsRow H2 53 5 (.slice ia is.length ic) is.length cs := by
  obtain ⟨_, l2, l3⟩ := h.lo
  rcases h.rows with ⟨rfl, rfl, rfl, hr⟩ | ⟨_, H2, h1, h2, h3, h4⟩
  · exact ⟨w1.heap.size, [], ⟨l3, Nat.le_refl _⟩, hr.phs, ⟨⟨[], World.ownsRow_nil _ _ _ _⟩, fun i hi => absurd hi (by simp)⟩, World.ownsRow_nil _ _ _ _⟩
  · obtain ⟨cs, hcs⟩ := h4.own
    exact ⟨H2, cs, ⟨h1, h2⟩, h3, h4, hcs⟩
/-- The open block gets its end. -/
theorem BldO.close (h : BldO w1 B0 H G vc pre pa pc ia ic ps is) (t : Ter) (ht : t.kind ≠ 0) : BldC ((((w1.setCell ⟨G, pre.length * 6 + 2, none⟩ (.int .i64 t.kind)).setCell ⟨G, pre.length * 6 + 2 + 1, none⟩ (.int .i64 t.a)).setCell ⟨G, pre.length * 6 + 2 + 2, none⟩ (.int .i64 t.to)).setCell ⟨G, pre.length * 6 + 2 + 3, none⟩ (.int .i64 t.els)) B0 (some ⟨G, 0, none⟩) vc (pre ++ [⟨ps, is, t⟩]) := by
  obtain ⟨⟨l0, l1⟩, l2, l3⟩ := h.lo
  obtain ⟨cs, hcs⟩ := h.own
  obtain ⟨cs1, h1⟩ := rowSet hcs (pre.length * 6 + 2) (.int .i64 t.kind)
  obtain ⟨cs2, h2⟩ := rowSet h1 (pre.length * 6 + 2 + 1) (.int .i64 t.a)
  obtain ⟨cs3, h3⟩ := rowSet h2 (pre.length * 6 + 2 + 2) (.int .i64 t.to)
  obtain ⟨cs4, h4⟩ := rowSet h3 (pre.length * 6 + 2 + 3) (.int .i64 t.els)
  obtain ⟨t0, t1, t2, t3⟩ := h.ter
  generalize hW : ((((w1.setCell ⟨G, pre.length * 6 + 2, none⟩ (.int .i64 t.kind)).setCell ⟨G, pre.length * 6 + 2 + 1, none⟩ (.int .i64 t.a)).setCell ⟨G, pre.length * 6 + 2 + 2, none⟩ (.int .i64 t.to)).setCell ⟨G, pre.length * 6 + 2 + 3, none⟩ (.int .i64 t.els)) = W at *
  have far : ∀ b, b ≠ G → W.heap[b]? = w1.heap[b]? := fun b hb => by rw [← hW, Below.heap_setCell _ _ _ _ hb, Below.heap_setCell _ _ _ _ hb, Below.heap_setCell _ _ _ _ hb, Below.heap_setCell _ _ _ _ hb]
  have hsz : W.heap.size = w1.heap.size := by rw [← hW]; simp
  have oc : ∀ i, i < pre.length * 6 + 2 → W.cell? ⟨G, i, none⟩ = w1.cell? ⟨G, i, none⟩ := fun i hi => by
    have ne : ∀ k, i ≠ k → ∀ (U : World) (v : Value), (U.setCell ⟨G, k, none⟩ v).cell? ⟨G, i, none⟩ = U.cell? ⟨G, i, none⟩ := fun k hk U v => World.cell?_setCell_other _ _ _ _ (by intro e; injection e with _ e; exact hk e.symm)
    rw [← hW, ne _ (by omega), ne _ (by omega), ne _ (by omega), ne _ (by omega)]
  have htr : TerAt W G (pre.length * 6 + 2) t := by
    rw [← hW]
    refine ⟨?_, ?_, ?_, ?_⟩ <;> simp [t0, t1, t2, t3, go_sem]
  have hlen : (pre ++ ([⟨ps, is, t⟩] : List Blk)).length = pre.length + 1 := by simp
  refine ⟨⟨cs4, by rw [hlen]; exact h4⟩, fun G' e => ?_, by omega⟩
  injection e with e
  injection e with e
  subst e
  intro i hi
  by_cases hik : i < pre.length
  · rw [List.getElem_append_left hik]
    exact (h.clo.keep (w' := W) (fun b b1 b2 b3 => far b b3) (fun i hi => oc i (by omega)) (U' := W.heap.size) (by omega)) i hik
  · have hie : i = pre.length := by omega
    subst hie
    have e1 : (pre ++ ([⟨ps, is, t⟩] : List Blk))[pre.length] = ⟨ps, is, t⟩ := by simp
    rw [e1]
    obtain ⟨r1, r2⟩ := h.rows.rows
    have sm : Same H w1.heap.size w1 W := fun b b1 b2 => far b (by omega)
    refine ⟨⟨H, w1.heap.size, l2, by omega, by omega, pa, pc, ia, ic, (oc _ (by omega)).trans h.c0, (oc _ (by omega)).trans h.c1, htr, r1.keepS sm, r2.keepS sm⟩, ht⟩
end
/-- What is read lies as functions lie. -/
theorem BldC.blks {w : World} {B0 : Nat} {va : Option Addr} {vc : Nat} {pre : List Blk} (h : BldC w B0 va vc pre) : BlksAt w B0 w.heap.size va pre := fun i hi => by
  obtain ⟨cs, hcs⟩ := h.own
  obtain ⟨G, cap, e, hG1, hG2⟩ := hcs.form (by omega)
  obtain ⟨rfl, -, rfl⟩ := Value.slice.inj e
  obtain ⟨⟨L, B, h1, h2, _, hb⟩, _⟩ := h.clo G rfl i hi
  exact ⟨G, 0, rfl, ⟨hG1, hG2⟩, by rw [Nat.zero_add]; exact hb.mono h1 h2⟩
end Go.Proofs.YtdcdgopblbmgoaaGreatDoor

/-
  The whole text, read over pure data.
-/
namespace Go.Proofs.YtdcdgopblbmgoaaGreatDoor
open Go.RowKit

/-- What has been read: the blocks with an end, and the open one, if there is one. -/
structure Pst where
  pre : List Blk
  cur : Option (List Ph × List Ins)
def readPhi (fs : List (List UInt8)) : Ph := ⟨idx (fs.getD 1 []), (fs.drop 2).map idx⟩
def stepW (s : Pst) (F : List UInt8) (fs : List (List UInt8)) : Option Pst :=
  if F = wBlock then (match s.cur with | some _ => none | none => some ⟨s.pre, some ([], [])⟩)
  else match s.cur with
    | none => none
    | some (ps, is) =>
      if F = wPhi then (if is = [] then some ⟨s.pre, some (ps ++ [readPhi fs], is)⟩ else none)
      else if isEnd F = true then some ⟨s.pre ++ [⟨ps, is, readTer fs⟩], none⟩
      else some ⟨s.pre, some (ps, is ++ [readIns fs])⟩
def stepL (s : Pst) (fs : List (List UInt8)) : Option Pst := stepW s (fs.headD []) fs
inductive Ln where
  | bad : Int → Ln
  | ok : Pst → Ln
def lineP (s : Pst) (line : List UInt8) : Ln :=
  if fieldsS line = [] then .bad 4 else if lineCode (fieldsS line) ≠ 0 then .bad (lineCode (fieldsS line)) else match stepL s (fieldsS line) with | none => .bad 8 | some s' => .ok s'
inductive Bd where
  | bad : Int → Nat → Bd
  | ok : Pst → Bd
/-- The lines from number i on (counted from 0). -/
def bodyP : List (List UInt8) → Nat → Pst → Bd
  | [], _, s => .ok s
  | l :: ls, i, s => match lineP s l with | .bad c => .bad c (i + 1) | .ok s' => bodyP ls (i + 1) s'
structure Pout where
  code : Int
  line : Nat
  fn : Fn
def badP (c : Int) (l : Nat) : Pout := ⟨c, l, ⟨0, []⟩⟩
def wFunc : List UInt8 := [102, 117, 110, 99]
def headI (line : List UInt8) : Option Int :=
  if (fieldsS line).length = 2 ∧ (fieldsS line).getD 0 [] = wFunc ∧ 0 ≤ idx ((fieldsS line).getD 1 []) then some (idx ((fieldsS line).getD 1 [])) else none
def endP (n : Nat) (V : Int) (b : Bd) : Pout := match b with
  | .bad c l => badP c l
  | .ok s => match s.cur with
    | some _ => badP 8 n
    | none => if validS ⟨V, s.pre⟩ = true then ⟨0, 0, ⟨V, s.pre⟩⟩ else badP 9 0
def linesOf (text : List UInt8) : List (List UInt8) := cutS text.dropLast 10
def restP (ls : List (List UInt8)) (o : Option Int) : Pout := match o with
  | none => badP 3 1
  | some V => endP ls.length V (bodyP ls.tail 1 ⟨[], none⟩)
def parseP (text : List UInt8) : Pout :=
  if 100000 < text.length then badP 1 0 else if text.getLast? ≠ some 10 then badP 2 0 else restP (linesOf text) (headI ((linesOf text).headD []))

/-- How much has been read. -/
def pstTot (s : Pst) : Nat := s.pre.length + blksTot s.pre + (match s.cur with | none => 0 | some (ps, is) => 1 + ps.length + phTot ps + is.length)
theorem fields_len (line : List UInt8) : (fieldsS line).length ≤ line.length := by
  unfold fieldsS
  split
  · rename_i h
    have key : ∀ (r cur : List UInt8), (cutF 32 cur r).all fieldOk = true → (cutF 32 cur r).length ≤ cur.length + r.length := by
      intro r
      induction r with
      | nil =>
        intro cur h
        simp only [cutF, List.all_cons, List.all_nil, Bool.and_true, fieldOk, Bool.and_eq_true, decide_eq_true_eq] at h
        simp only [cutF, List.length_cons, List.length_nil]
        omega
      | cons c r ih =>
        intro cur h
        rw [cutF] at h ⊢
        split at h
        · rename_i e
          rw [if_pos e]
          rw [List.all_cons, Bool.and_eq_true] at h
          have h1 := h.1
          simp only [fieldOk, Bool.and_eq_true, decide_eq_true_eq] at h1
          have := ih [] h.2
          simp only [List.length_cons, List.length_nil] at this ⊢
          omega
        · rename_i e
          rw [if_neg e]
          have := ih _ h
          simp only [List.length_append, List.length_cons, List.length_nil] at this ⊢
          omega
    have := key line [] h
    simpa [cutS] using this
  · simp
theorem fields_each (line : List UInt8) : ∀ f ∈ fieldsS line, f.length ≤ line.length := fun f hf => by
  unfold fieldsS at hf
  split at hf
  · have := cutF_sum 32 line [] f hf; simpa using this
  · cases hf
/-- What a good line looks like. -/
theorem line_cases {fs : List (List UInt8)} (h0 : 0 < fs.length) (hc : lineCode fs = 0) :
    (fs.headD [] = wBlock ∧ fs.length = 1) ∨ (fs.headD [] = wPhi ∧ 3 ≤ fs.length) ∨ (isEnd (fs.headD []) = true ∧ ((fs.headD [] = wJump ∧ fs.length = 2) ∨ (fs.headD [] = wRet ∧ fs.length = 2) ∨ (fs.headD [] = wBranch ∧ fs.length = 4)) ∧ fs.headD [] ≠ wBlock ∧ fs.headD [] ≠ wPhi) ∨
    ((1 ≤ opOf (fs.headD []) ∧ opOf (fs.headD []) ≤ 10) ∧ fs.length = 1 + (usesS (opOf (fs.headD []))).size ∧ isEnd (fs.headD []) = false ∧ fs.headD [] ≠ wBlock ∧ fs.headD [] ≠ wPhi ∧ (opOf (fs.headD []) = 1 → ∀ f, fs[2]? = some f → isC f = true)) := by
  have hl : fs.length = wantN (fs.headD []) fs.length ∧ numsOk fs (fs.length - 1) = true := by
    unfold lineCode at hc
    split at hc
    · cases hc
    · split at hc
      · cases hc
      · rename_i h1 h2
        split at hc
        · rename_i h3; exact ⟨by omega, h3⟩
        · cases hc
  obtain ⟨hl, hnum⟩ := hl
  by_cases hop : opOf (fs.headD []) = 0
  · unfold wantN at hl
    rw [if_neg (fun q => q hop)] at hl
    by_cases e1 : fs.headD [] = wBlock
    · rw [if_pos e1] at hl; exact Or.inl ⟨e1, hl⟩
    rw [if_neg e1] at hl
    by_cases e2 : fs.headD [] = wJump
    · rw [if_pos e2] at hl; exact Or.inr (Or.inr (Or.inl ⟨by rw [e2]; decide, Or.inl ⟨e2, hl⟩, e1, by rw [e2]; decide⟩))
    rw [if_neg e2] at hl
    by_cases e3 : fs.headD [] = wRet
    · rw [if_pos e3] at hl; exact Or.inr (Or.inr (Or.inl ⟨by rw [e3]; decide, Or.inr (Or.inl ⟨e3, hl⟩), e1, by rw [e3]; decide⟩))
    rw [if_neg e3] at hl
    by_cases e4 : fs.headD [] = wBranch
    · rw [if_pos e4] at hl; exact Or.inr (Or.inr (Or.inl ⟨by rw [e4]; decide, Or.inr (Or.inr ⟨e4, hl⟩), e1, by rw [e4]; decide⟩))
    rw [if_neg e4] at hl
    by_cases e5 : fs.headD [] = wPhi
    · rw [if_pos e5] at hl
      refine Or.inr (Or.inl ⟨e5, ?_⟩)
      split at hl <;> omega
    rw [if_neg e5] at hl
    omega
  · obtain ⟨h1, h2, h3, h4, h5, h6⟩ := op_other hop
    unfold wantN at hl
    rw [if_pos hop] at hl
    refine Or.inr (Or.inr (Or.inr ⟨h1, hl, ?_, h2, h6, fun ho f hf => ?_⟩))
    · have e : isEnd (fs.headD []) = (fs.headD [] == wJump || fs.headD [] == wBranch || fs.headD [] == wRet) := rfl
      rw [e]
      generalize fs.headD [] = F at *
      simp [h3, h4, h5]
    · have h2l : 2 < fs.length := by
        rcases Nat.lt_or_ge 2 fs.length with q | q
        · exact q
        · rw [List.getElem?_eq_none q] at hf; cases hf
      have hn : numOk fs 2 f = true := by
        unfold numsOk at hnum
        have := List.all_eq_true.1 hnum 1 (by simp; omega)
        rw [hf] at this
        exact this
      have hcw : fs.head? = some wConst := by
        cases fs with
        | nil => simp at h0
        | cons x r =>
          have e : opOf x = 1 := ho
          rcases opFrom_spec x 10 1 with q | ⟨j, _, _, q3, q4⟩
          · exact absurd q (by show opOf x ≠ 0; omega)
          · have q5 : opOf x = j := q3
            have : j = 1 := by omega
            subst this
            show some x = some wConst
            rw [← q4]
            rfl
      unfold numOk at hn
      rw [if_pos ⟨hcw, rfl⟩] at hn
      exact hn
theorem step_tot {s s' : Pst} {line : List UInt8} (h : lineP s line = .ok s') : pstTot s' ≤ pstTot s + line.length := by
  unfold lineP at h
  split at h
  · cases h
  split at h
  · cases h
  rename_i hne hc
  have hc : lineCode (fieldsS line) = 0 := by
    rcases Decidable.em (lineCode (fieldsS line) = 0) with q | q
    · exact q
    · exact absurd q hc
  have h0 : 0 < (fieldsS line).length := by
    cases hf : fieldsS line with
    | nil => exact absurd hf hne
    | cons x r => simp
  have hfl := fields_len line
  generalize fieldsS line = fs at *
  split at h
  · cases h
  rename_i s2 hs
  injection h with h
  subst h
  unfold stepL stepW at hs
  split at hs
  · split at hs
    · cases hs
    · rename_i hcur
      injection hs with hs
      subst hs
      simp only [pstTot, hcur]
      simp [phTot]
      omega
  · split at hs
    · cases hs
    · rename_i ps is hcur
      split at hs
      · split at hs
        · injection hs with hs
          subst hs
          simp only [pstTot, hcur, List.length_append, List.length_singleton, phTot_snoc, readPhi, List.length_map, List.length_drop]
          omega
        · cases hs
      · split at hs
        · injection hs with hs
          subst hs
          simp only [pstTot, hcur, List.length_append, List.length_singleton, blksTot_snoc, blkTot]
          omega
        · injection hs with hs
          subst hs
          simp only [pstTot, hcur, List.length_append, List.length_singleton]
          omega
def lensOf (ls : List (List UInt8)) : Nat := (ls.map fun l => l.length).sum
theorem cut_lens (sep : UInt8) : ∀ (r cur : List UInt8), lensOf (cutF sep cur r) ≤ cur.length + r.length
  | [], cur => by simp [cutF, lensOf]
  | c :: r, cur => by
    rw [cutF]
    split
    · have := cut_lens sep r []
      simp only [lensOf, List.map_cons, List.sum_cons, List.length_cons, List.length_nil] at this ⊢
      omega
    · have := cut_lens sep r (cur ++ [c])
      simp only [lensOf, List.length_append, List.length_cons, List.length_nil] at this ⊢
      omega
theorem readTer_kind {fs : List (List UInt8)} : (readTer fs).kind ≠ 0 := by
  unfold readTer
  split
  · simp
  · split <;> simp

/-- Where what has been read lies. -/
def StAt (w : World) (B0 : Nat) (va : Option Addr) (n vc : Nat) (s : Pst) : Prop :=
  match s.cur with
  | none => n = s.pre.length ∧ BldC w B0 va vc s.pre
  | some (ps, is) => ∃ H G pa pc ia ic, va = some ⟨G, 0, none⟩ ∧ n = s.pre.length + 1 ∧ BldO w B0 H G vc s.pre pa pc ia ic ps is
theorem StAt.keep {w w' : World} {B0 : Nat} {va : Option Addr} {n vc : Nat} {s : Pst} (h : StAt w B0 va n vc s) (k : Same B0 w.heap.size w w') (hs : w.heap.size ≤ w'.heap.size) : StAt w' B0 va n vc s := by
  unfold StAt at h ⊢
  split at h
  · exact ⟨h.1, h.2.keep k hs⟩
  · obtain ⟨H, G, pa, pc, ia, ic, h1, h2, h3⟩ := h
    exact ⟨H, G, pa, pc, ia, ic, h1, h2, h3.keep k hs⟩
theorem StAt.len {w : World} {B0 : Nat} {va : Option Addr} {n vc : Nat} {s : Pst} (h : StAt w B0 va n vc s) : n ≤ pstTot s := by
  obtain ⟨pre, cur⟩ := s
  match cur, h with
  | none, h => have := h.1; simp only [pstTot]; dsimp only at this; omega
  | some (ps, is), h =>
    obtain ⟨H, G, pa, pc, ia, ic, h1, h2, h3⟩ := h
    simp only [pstTot]
    dsimp only at h2
    omega
theorem StAt.start (w : World) (B0 : Nat) (h : B0 ≤ w.heap.size) : StAt w B0 none 0 0 ⟨[], none⟩ := ⟨rfl, BldC.nil w B0 h⟩
/-- An answer as it lies in memory. -/
def ParsAt (w : World) (L B : Nat) (val : Value) (o : Pout) : Prop := ∃ va vc, val = .agg #[.int .i64 o.code, .int .i64 o.line, .int .i64 o.fn.values, .slice va o.fn.blocks.length vc] ∧ BlksAt w L B va o.fn.blocks
end Go.Proofs.YtdcdgopblbmgoaaGreatDoor
