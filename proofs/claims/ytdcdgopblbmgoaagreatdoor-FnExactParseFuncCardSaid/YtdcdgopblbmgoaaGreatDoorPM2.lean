import Derived.Test.YtdcdgopblbmgoaaGreatDoorPM
import Derived.Test.YtdcdgopblbmgoaaGreatDoorW2
/-
  The memory of a function that is being read, once more: here no two rows are one (what the program gives owns its memory).
-/
namespace Go.Proofs.YtdcdgopblbmgoaaGreatDoor
open Go.RowKit

/-- No cell of this block is frozen. -/
def Fz (w : World) (b : Nat) : Prop := ∀ q, w.frozen? ⟨b, q, none⟩ = false
theorem Fz.keep {w w' : World} {b : Nat} (h : Fz w b) (k : w'.heap[b]? = w.heap[b]?) : Fz w' b := fun q => (World.frozen?_of_block (a := ⟨b, q, none⟩) k).trans (h q)
/-- The rows of arguments of the phis in the row g: a row for each, and each another. -/
def ArgsSep (w : World) (L B g : Nat) (lab : Nat → Nat) (i : Nat) (a : Option Addr) (vs : List Int) : Prop :=
  ∀ j (hj : j < vs.length), ∃ b o, a = some ⟨b, o, none⟩ ∧ (L ≤ b ∧ b < B) ∧ b ≠ g ∧ lab b = i ∧ Fz w b ∧ w.cell? ⟨b, o + j, none⟩ = some (.int .i64 vs[j])
def PhsSep (w : World) (L B : Nat) (pa : Option Addr) (ps : List Ph) : Prop := ∃ lab : Nat → Nat, ∀ i (h : i < ps.length), ∃ g a c, pa = some ⟨g, 0, none⟩ ∧ (L ≤ g ∧ g < B) ∧ Fz w g ∧ w.cell? ⟨g, i * 2, none⟩ = some (.int .i64 ps[i].dst) ∧ w.cell? ⟨g, i * 2 + 1, none⟩ = some (.slice a ps[i].args.length c) ∧ ArgsSep w L B g lab i a ps[i].args
theorem PhsSep.phs {w : World} {L B : Nat} {pa : Option Addr} {ps : List Ph} (h : PhsSep w L B pa ps) : PhsAt w L B pa ps := fun i hi => by
  obtain ⟨lab, h⟩ := h
  obtain ⟨g, a, c, e, hg, _, h1, h2, h3⟩ := h i hi
  refine ⟨g, 0, e, hg, a, c, by rw [Nat.zero_add]; exact h1, by rw [Nat.zero_add]; exact h2, fun j hj => ?_⟩
  obtain ⟨b, o, e, hb, _, _, _, hc⟩ := h3 j hj
  exact ⟨b, o, e, hb, hc⟩
theorem PhsSep.keepS {w w' : World} {L B : Nat} {pa : Option Addr} {ps : List Ph} (h : PhsSep w L B pa ps) (k : Same L B w w') : PhsSep w' L B pa ps := by
  obtain ⟨lab, h⟩ := h
  refine ⟨lab, fun i hi => ?_⟩
  obtain ⟨g, a, c, e, hg, hz, h1, h2, h3⟩ := h i hi
  have q := k g hg.1 hg.2
  refine ⟨g, a, c, e, hg, hz.keep q, (cell_of q).trans h1, (cell_of q).trans h2, fun j hj => ?_⟩
  obtain ⟨b, o, e, hb, hne, hl, hz, hc⟩ := h3 j hj
  have q := k b hb.1 hb.2
  exact ⟨b, o, e, hb, hne, hl, hz.keep q, (cell_of q).trans hc⟩
theorem PhsSep.mono {w : World} {L B L' B' : Nat} {pa : Option Addr} {ps : List Ph} (h : PhsSep w L B pa ps) (h1 : L' ≤ L) (h2 : B ≤ B') : PhsSep w L' B' pa ps := by
  obtain ⟨lab, h⟩ := h
  refine ⟨lab, fun i hi => ?_⟩
  obtain ⟨g, a, c, e, hg, hz, q1, q2, q3⟩ := h i hi
  refine ⟨g, a, c, e, by omega, hz, q1, q2, fun j hj => ?_⟩
  obtain ⟨b, o, e, hb, r⟩ := q3 j hj
  exact ⟨b, o, e, by omega, r⟩
def InsSep (w : World) (L B : Nat) (ia : Option Addr) (is : List Ins) : Prop := ∀ i (h : i < is.length), ∃ g, ia = some ⟨g, 0, none⟩ ∧ (L ≤ g ∧ g < B) ∧ Fz w g ∧ InsAt w g (i * 5) is[i]
theorem InsSep.inss {w : World} {L B : Nat} {ia : Option Addr} {is : List Ins} (h : InsSep w L B ia is) : InssAt w L B ia is := fun i hi => by
  obtain ⟨g, e, hg, _, h1⟩ := h i hi
  exact ⟨g, 0, e, hg, by rw [Nat.zero_add]; exact h1⟩
theorem InsSep.keepS {w w' : World} {L B : Nat} {ia : Option Addr} {is : List Ins} (h : InsSep w L B ia is) (k : Same L B w w') : InsSep w' L B ia is := fun i hi => by
  obtain ⟨g, e, hg, hz, h1⟩ := h i hi
  have q := k g hg.1 hg.2
  exact ⟨g, e, hg, hz.keep q, h1.keepS q⟩
theorem InsSep.mono {w : World} {L B L' B' : Nat} {ia : Option Addr} {is : List Ins} (h : InsSep w L B ia is) (h1 : L' ≤ L) (h2 : B ≤ B') : InsSep w L' B' ia is := fun i hi => by
  obtain ⟨g, e, hg, r⟩ := h i hi
  exact ⟨g, e, by omega, r⟩
theorem InsOwn.sep {w : World} {H : Nat} {ia : Option Addr} {ic : Nat} {xs : List Ins} (h : InsOwn w H ia ic xs) : InsSep w H w.heap.size ia xs := fun i hi => by
  obtain ⟨g, e, h1⟩ := h.at_ i hi
  obtain ⟨cs, hcs⟩ := h.own
  subst e
  exact ⟨g, rfl, hcs.lt g rfl, fun q => rowThaw hcs q, h1⟩
/-- The phis of a block that is being read. -/
structure PhsOwn2 (w : World) (H : Nat) (pa : Option Addr) (pc : Nat) (ps : List Ph) : Prop where
  own : ∃ cs, w.ownsRow H 49 2 (.slice pa ps.length pc) ps.length cs
  sep : PhsSep w H w.heap.size pa ps
theorem PhsOwn2.nil (w : World) (H : Nat) : PhsOwn2 w H none 0 [] := ⟨⟨[], World.ownsRow_nil _ _ _ _⟩, fun _ => 0, fun i h => absurd h (by simp)⟩
theorem PhsOwn2.keep {w w' : World} {H : Nat} {pa : Option Addr} {pc : Nat} {ps : List Ph} (h : PhsOwn2 w H pa pc ps) (k : Same H w.heap.size w w') (hs : w.heap.size ≤ w'.heap.size) : PhsOwn2 w' H pa pc ps := by
  obtain ⟨cs, hcs⟩ := h.own
  exact ⟨⟨cs, ownKeep hcs (fun b e => k b (hcs.lt b e).1 (hcs.lt b e).2)⟩, (h.sep.keepS k).mono (Nat.le_refl _) hs⟩
/-- What the rows of arguments lie below. -/
def ArgsLt (w : World) (pa : Option Addr) (ps : List Ph) (X : Nat) : Prop := ∀ i (h : i < ps.length) g, pa = some ⟨g, 0, none⟩ → ∀ b o n c, w.cell? ⟨g, i * 2 + 1, none⟩ = some (.slice (some ⟨b, o, none⟩) n c) → 0 < ps[i].args.length → b < X
theorem PhsOwn2.lt {w : World} {H : Nat} {pa : Option Addr} {pc : Nat} {ps : List Ph} (h : PhsOwn2 w H pa pc ps) : ArgsLt w pa ps w.heap.size := fun i hi g e b o n c hc h0 => by
  obtain ⟨lab, hs⟩ := h.sep
  obtain ⟨g', a, c', e', hg, _, h1, h2, h3⟩ := hs i hi
  rw [e] at e'
  cases e'
  obtain ⟨b', o', ea, hb, _⟩ := h3 0 h0
  rw [h2] at hc
  cases hc
  cases ea
  exact hb.2
theorem ArgsLt.keep {w w' : World} {pa : Option Addr} {ps : List Ph} {X : Nat} (h : ArgsLt w pa ps X) (k : ∀ g, pa = some ⟨g, 0, none⟩ → w'.heap[g]? = w.heap[g]?) : ArgsLt w' pa ps X := fun i hi g e b o n c hc h0 => h i hi g e b o n c ((cell_of (k g e)).symm.trans hc) h0
theorem PhsOwn2.push {w1 w2 : World} {H : Nat} {pa : Option Addr} {pc : Nat} {ps : List Ph} (h : PhsOwn2 w1 H pa pc ps) {cs : List Value} (hcs : w1.ownsRow H 49 2 (.slice pa ps.length pc) ps.length cs) (p : Ph) {a : Option Addr} {c : Nat} {g' cap : Nat} {X : Nat} (hlt : ArgsLt w1 pa ps X)
    (ha : ∀ j (hj : j < p.args.length), ∃ b o, a = some ⟨b, o, none⟩ ∧ (H ≤ b ∧ X ≤ b ∧ b < w1.heap.size) ∧ some b ≠ (Value.slice pa ps.length pc).ownBlock ∧ Fz w1 b ∧ w1.cell? ⟨b, o + j, none⟩ = some (.int .i64 p.args[j]))
    (h2 : w2.ownsRow H 49 2 (.slice (some ⟨g', 0, none⟩) (ps.length + 1) cap) (ps.length + 1) (cs ++ [.int .i64 p.dst, .slice a p.args.length c])) (hg : w1.grownBy w2 (Value.slice pa ps.length pc).ownBlock) (hat : (Value.slice pa ps.length pc).ownBlock = some g' ∨ g' = w1.heap.size) :
    PhsOwn2 w2 H (some ⟨g', 0, none⟩) cap (ps ++ [p]) := by
  have hgs := hg.size
  have hl := hcs.1
  have hlen : (ps ++ [p]).length = ps.length + 1 := by simp
  obtain ⟨lab, hs⟩ := h.sep
  have hg' := h2.lt g' rfl
  have hz' : Fz w2 g' := fun q => rowThaw h2 q
  refine ⟨⟨_, by rw [hlen]; exact h2⟩, fun b => if X ≤ b then ps.length else lab b, fun i hi => ?_⟩
  by_cases hik : i < ps.length
  · obtain ⟨g, a0, c0, e, hg1, hz, h1, h3, h4⟩ := hs i hik
    subst e
    rw [List.getElem_append_left hik]
    refine ⟨g', a0, c0, rfl, hg', hz', (rowGrow hcs h2 (by omega)).trans h1, (rowGrow hcs h2 (by omega)).trans h3, fun j hj => ?_⟩
    obtain ⟨b, o, e, hb, hne, hla, hzb, hc⟩ := h4 j hj
    subst e
    have hbX := hlt i hik g rfl b o _ _ h3 (by omega)
    have kb := hg.block b hb.2 (fun e2 => hne (by injection e2))
    refine ⟨b, o, rfl, by omega, ?_, (if_neg (by omega)).trans hla, hzb.keep kb, (cell_of kb).trans hc⟩
    rcases hat with f | f
    · have : g = g' := by injection f
      omega
    · omega
  · have hie : i = ps.length := by omega
    subst hie
    have e1 : (ps ++ [p])[ps.length] = p := by simp
    rw [e1]
    refine ⟨g', a, c, rfl, hg', hz', ?_, ?_, fun j hj => ?_⟩
    · have := rowNew (n := ps.length) hl h2 (j := 0) (by simp)
      simpa using this
    · have := rowNew (n := ps.length) hl h2 (j := 1) (by simp)
      simpa using this
    · obtain ⟨b, o, e, hb, hne, hzb, hc⟩ := ha j hj
      have kb := hg.block b hb.2.2 hne
      refine ⟨b, o, e, by omega, ?_, if_pos hb.2.1, hzb.keep kb, (cell_of kb).trans hc⟩
      rcases hat with f | f
      · intro e2; rw [← e2] at f; exact hne f.symm
      · omega

/-- The rows of the block that is open: its phis can grow as long as it has no instruction. -/
def LastRows2 (w : World) (H : Nat) (pa : Option Addr) (pc : Nat) (ia : Option Addr) (ic : Nat) (ps : List Ph) (is : List Ins) : Prop :=
  (is = [] ∧ ia = none ∧ ic = 0 ∧ PhsOwn2 w H pa pc ps) ∨ (is ≠ [] ∧ ∃ H2, H ≤ H2 ∧ H2 ≤ w.heap.size ∧ PhsSep w H H2 pa ps ∧ InsOwn w H2 ia ic is)
theorem LastRows2.keep {w w' : World} {H : Nat} {pa : Option Addr} {pc : Nat} {ia : Option Addr} {ic : Nat} {ps : List Ph} {is : List Ins} (h : LastRows2 w H pa pc ia ic ps is) (k : Same H w.heap.size w w') (hs : w.heap.size ≤ w'.heap.size) : LastRows2 w' H pa pc ia ic ps is := by
  rcases h with ⟨h1, h2, h3, h4⟩ | ⟨h1, H2, h2, h3, h4, h5⟩
  · exact Or.inl ⟨h1, h2, h3, h4.keep k hs⟩
  · exact Or.inr ⟨h1, H2, h2, by omega, h4.keepS (k.mono (Nat.le_refl _) h3), h5.keep (k.mono h2 (Nat.le_refl _))⟩
theorem LastRows2.rows {w : World} {H : Nat} {pa : Option Addr} {pc : Nat} {ia : Option Addr} {ic : Nat} {ps : List Ph} {is : List Ins} (h : LastRows2 w H pa pc ia ic ps is) (hH : H ≤ w.heap.size) : ∃ M, H ≤ M ∧ M ≤ w.heap.size ∧ PhsSep w H M pa ps ∧ InsSep w M w.heap.size ia is := by
  rcases h with ⟨h1, h2, h3, h4⟩ | ⟨h1, H2, h2, h3, h4, h5⟩
  · subst h1
    exact ⟨w.heap.size, hH, Nat.le_refl _, h4.sep, fun i hi => absurd hi (by simp)⟩
  · exact ⟨H2, h2, h3, h4, h5.sep⟩

def BlkSep (w : World) (L B G o : Nat) (x : Blk) : Prop := ∃ pa pc ia ic M, (L ≤ M ∧ M ≤ B) ∧ w.cell? ⟨G, o, none⟩ = some (.slice pa x.phis.length pc) ∧ w.cell? ⟨G, o + 1, none⟩ = some (.slice ia x.instrs.length ic) ∧ TerAt w G (o + 2) x.term ∧ PhsSep w L M pa x.phis ∧ InsSep w M B ia x.instrs
/-- A block lies as before, in a world that keeps its rows and its six cells. -/
theorem BlkSep.turn {w w' : World} {L B G G' o o' : Nat} {x : Blk} (h : BlkSep w L B G o x) (k : Same L B w w') (hc : ∀ i, i < 6 → w'.cell? ⟨G', o' + i, none⟩ = w.cell? ⟨G, o + i, none⟩) : BlkSep w' L B G' o' x := by
  obtain ⟨pa, pc, ia, ic, M, hM, q0, q1, ⟨t0, t1, t2, t3⟩, q2, q3⟩ := h
  exact ⟨pa, pc, ia, ic, M, hM, (hc 0 (by omega)).trans q0, (hc 1 (by omega)).trans q1, ⟨(hc 2 (by omega)).trans t0, (hc 3 (by omega)).trans t1, (hc 4 (by omega)).trans t2, (hc 5 (by omega)).trans t3⟩, q2.keepS (fun b b1 b2 => k b b1 (by omega)), q3.keepS (fun b b1 b2 => k b (by omega) b2)⟩
theorem BlkSep.blk {w : World} {L B G o : Nat} {x : Blk} (h : BlkSep w L B G o x) : BlkAt w L B G o x := by
  obtain ⟨pa, pc, ia, ic, M, hM, q0, q1, q2, q3, q4⟩ := h
  exact ⟨pa, pc, ia, ic, q0, q1, q2, q3.phs.mono (Nat.le_refl _) hM.2, q4.inss.mono hM.1 (Nat.le_refl _)⟩
/-- The blocks that have their end; their rows lie below U. -/
structure Clo2 (w : World) (B0 U G : Nat) (pre : List Blk) (Ls Bs : Nat → Nat) : Prop where
  at_ : ∀ i (h : i < pre.length), (B0 ≤ Ls i ∧ Ls i ≤ Bs i ∧ Bs i ≤ U) ∧ ¬ (Ls i ≤ G ∧ G < Bs i) ∧ BlkSep w (Ls i) (Bs i) G (i * 6) pre[i] ∧ pre[i].term.kind ≠ 0
  ord : ∀ i j, i < j → j < pre.length → Bs i ≤ Ls j
/-- No block is open. -/
structure BldC2 (w : World) (B0 : Nat) (va : Option Addr) (vc : Nat) (pre : List Blk) : Prop where
  own : ∃ cs, w.ownsRow B0 46 6 (.slice va pre.length vc) pre.length cs
  clo : ∀ G, va = some ⟨G, 0, none⟩ → ∃ Ls Bs, Clo2 w B0 w.heap.size G pre Ls Bs
  base : B0 ≤ w.heap.size
/-- The last block is open. -/
structure BldO2 (w : World) (B0 H G vc : Nat) (pre : List Blk) (pa : Option Addr) (pc : Nat) (ia : Option Addr) (ic : Nat) (ps : List Ph) (is : List Ins) : Prop where
  own : ∃ cs, w.ownsRow B0 46 6 (.slice (some ⟨G, 0, none⟩) (pre.length + 1) vc) (pre.length + 1) cs
  clo : ∃ Ls Bs, Clo2 w B0 H G pre Ls Bs
  lo : (B0 ≤ G ∧ G < H) ∧ B0 ≤ H ∧ H ≤ w.heap.size
  c0 : w.cell? ⟨G, pre.length * 6, none⟩ = some (.slice pa ps.length pc)
  c1 : w.cell? ⟨G, pre.length * 6 + 1, none⟩ = some (.slice ia is.length ic)
  ter : TerAt w G (pre.length * 6 + 2) ⟨0, 0, 0, 0⟩
  rows : LastRows2 w H pa pc ia ic ps is
theorem Clo2.keep {w w' : World} {B0 U G : Nat} {pre : List Blk} {Ls Bs : Nat → Nat} (h : Clo2 w B0 U G pre Ls Bs) (k : ∀ b, B0 ≤ b → b < U → b ≠ G → w'.heap[b]? = w.heap[b]?) (hG : ∀ i, i < pre.length * 6 → w'.cell? ⟨G, i, none⟩ = w.cell? ⟨G, i, none⟩) {U' : Nat} (hs : U ≤ U') : Clo2 w' B0 U' G pre Ls Bs := by
  refine ⟨fun i hi => ?_, h.ord⟩
  obtain ⟨h1, h3, h4, h5⟩ := h.at_ i hi
  exact ⟨by omega, h3, h4.turn (fun b b1 b2 => k b (by omega) (by omega) (fun e => h3 (by omega))) (fun j hj => hG _ (by omega)), h5⟩
theorem BldC2.keep {w w' : World} {B0 : Nat} {va : Option Addr} {vc : Nat} {pre : List Blk} (h : BldC2 w B0 va vc pre) (k : Same B0 w.heap.size w w') (hs : w.heap.size ≤ w'.heap.size) : BldC2 w' B0 va vc pre := by
  obtain ⟨cs, hcs⟩ := h.own
  have hb := h.base
  refine ⟨⟨cs, ownKeep hcs (fun b e => k b (hcs.lt b e).1 (hcs.lt b e).2)⟩, fun G e => ?_, by omega⟩
  subst e
  have hG := hcs.lt G rfl
  obtain ⟨Ls, Bs, hq⟩ := h.clo G rfl
  exact ⟨Ls, Bs, hq.keep (fun b h1 h2 _ => k b h1 h2) (fun i _ => cell_of (k G hG.1 hG.2)) hs⟩
theorem BldO2.keep {w w' : World} {B0 H G vc : Nat} {pre : List Blk} {pa : Option Addr} {pc : Nat} {ia : Option Addr} {ic : Nat} {ps : List Ph} {is : List Ins} (h : BldO2 w B0 H G vc pre pa pc ia ic ps is) (k : Same B0 w.heap.size w w') (hs : w.heap.size ≤ w'.heap.size) : BldO2 w' B0 H G vc pre pa pc ia ic ps is := by
  obtain ⟨cs, hcs⟩ := h.own
  have hG := hcs.lt G rfl
  have q := k G hG.1 hG.2
  obtain ⟨l1, l2, l3⟩ := h.lo
  obtain ⟨Ls, Bs, hq⟩ := h.clo
  exact ⟨⟨cs, ownKeep hcs (fun b e => k b (hcs.lt b e).1 (hcs.lt b e).2)⟩, ⟨Ls, Bs, hq.keep (fun b h1 h2 _ => k b h1 (by omega)) (fun i _ => cell_of q) (Nat.le_refl _)⟩, ⟨l1, l2, by omega⟩, (cell_of q).trans h.c0, (cell_of q).trans h.c1, h.ter.keepS q, h.rows.keep (k.mono l2 (Nat.le_refl _)) hs⟩
theorem BldC2.nil (w : World) (B0 : Nat) (h : B0 ≤ w.heap.size) : BldC2 w B0 none 0 [] := ⟨⟨[], World.ownsRow_nil _ _ _ _⟩, fun _ e => (nomatch e), h⟩
/-- A block is opened. -/
theorem BldC2.open_ {w1 w2 : World} {B0 : Nat} {va : Option Addr} {vc : Nat} {pre : List Blk} (h : BldC2 w1 B0 va vc pre) {cs : List Value} (hcs : w1.ownsRow B0 46 6 (.slice va pre.length vc) pre.length cs) {G' cap : Nat}
    (h2 : w2.ownsRow B0 46 6 (.slice (some ⟨G', 0, none⟩) (pre.length + 1) cap) (pre.length + 1) (cs ++ [.slice none 0 0, .slice none 0 0, .int .i64 0, .int .i64 0, .int .i64 0, .int .i64 0])) (hg : w1.grownBy w2 (Value.slice va pre.length vc).ownBlock) (hat : (Value.slice va pre.length vc).ownBlock = some G' ∨ G' = w1.heap.size) :
    BldO2 w2 B0 w2.heap.size G' cap pre none 0 none 0 [] [] := by
  have hgs := hg.size
  have hG' := h2.lt G' rfl
  have hl := hcs.1
  have q := fun (j : Nat) (hj : j < 6) => rowNew (n := pre.length) hl h2 (j := j) hj
  refine ⟨⟨_, h2⟩, ?_, by omega, q 0 (by omega), q 1 (by omega), ⟨q 2 (by omega), q 3 (by omega), q 4 (by omega), q 5 (by omega)⟩, Or.inl ⟨rfl, rfl, rfl, PhsOwn2.nil _ _⟩⟩
  by_cases hp : 0 < pre.length
  · obtain ⟨G, cap0, e, hG1, hG2⟩ := hcs.form hp
    obtain ⟨rfl, -, rfl⟩ := Value.slice.inj e
    obtain ⟨Ls, Bs, hq⟩ := h.clo G rfl
    refine ⟨Ls, Bs, fun i hi => ?_, hq.ord⟩
    obtain ⟨h1, h4, h5, h6⟩ := hq.at_ i hi
    have r := fun (j : Nat) (hj : j < pre.length * 6) => rowGrow hcs h2 hj
    refine ⟨by omega, ?_, h5.turn (fun b b1 b2 => hg.block b (by omega) (fun e => h4 (by injection e with e; dsimp only at e; omega))) (fun j hj => r _ (by omega)), h6⟩
    rcases hat with f | f
    · have : G = G' := by injection f
      omega
    · omega
  · exact ⟨fun _ => 0, fun _ => 0, fun i hi => absurd hi (by omega), fun i j _ hj => absurd hj (by omega)⟩
section
variable {w1 w2 : World} {B0 H G vc : Nat} {pre : List Blk} {pa : Option Addr} {pc : Nat} {ia : Option Addr} {ic : Nat} {ps : List Ph} {is : List Ins}
/-- What an append to a row of the open block, and a store into the block, leave as it was. -/
theorem BldO2.frame (h : BldO2 w1 B0 H G vc pre pa pc ia ic ps is) {row : Option Nat} (hg : w1.grownBy w2 row) (hr : ∀ b, row = some b → H ≤ b) (k : Nat) (hk : pre.length * 6 ≤ k) (v : Value) :
    (∃ cs, (w2.setCell ⟨G, k, none⟩ v).ownsRow B0 46 6 (.slice (some ⟨G, 0, none⟩) (pre.length + 1) vc) (pre.length + 1) cs) ∧ (∃ Ls Bs, Clo2 (w2.setCell ⟨G, k, none⟩ v) B0 H G pre Ls Bs) ∧ (∀ i, i ≠ k → (w2.setCell ⟨G, k, none⟩ v).cell? ⟨G, i, none⟩ = w1.cell? ⟨G, i, none⟩) ∧ (∀ u, w1.cell? ⟨G, k, none⟩ = some u → (w2.setCell ⟨G, k, none⟩ v).cell? ⟨G, k, none⟩ = some v) ∧ (∀ b, b ≠ G → (w2.setCell ⟨G, k, none⟩ v).heap[b]? = w2.heap[b]?) ∧ (w2.setCell ⟨G, k, none⟩ v).heap.size = w2.heap.size := by
  obtain ⟨cs, hcs⟩ := h.own
  obtain ⟨⟨l0, l1⟩, l2, l3⟩ := h.lo
  have hgs := hg.size
  have hG := hcs.lt G rfl
  have nG : some G ≠ row := fun e => by have := hr G e.symm; omega
  have qG := hg.block G hG.2 nG
  have f : ∀ b, b ≠ G → (w2.setCell ⟨G, k, none⟩ v).heap[b]? = w2.heap[b]? := fun b hb => Below.heap_setCell _ _ _ _ hb
  have oc : ∀ i, i ≠ k → (w2.setCell ⟨G, k, none⟩ v).cell? ⟨G, i, none⟩ = w1.cell? ⟨G, i, none⟩ := fun i hi => (World.cell?_setCell_other _ _ _ _ (by intro e; injection e with _ e; exact hi e.symm)).trans (cell_of qG)
  obtain ⟨Ls, Bs, hq⟩ := h.clo
  refine ⟨rowSet (ownKeep hcs (fun b e => by injection e with e; dsimp only at e; subst e; exact qG)) k v, ⟨Ls, Bs, hq.keep (fun b h1 h2 h3 => (f b h3).trans (hg.block b (by omega) (fun e => by have := hr b e.symm; omega))) (fun i hi => oc i (by omega)) (Nat.le_refl _)⟩, oc, fun u hu => ?_, f, size_setCell _ _ _⟩
  exact World.cell?_setCell_same _ _ _ ((cell_of qG).trans hu)
/-- A phi comes to the open block. -/
theorem BldO2.phi (h : BldO2 w1 B0 H G vc pre pa pc ia ic ps []) {cs : List Value} (hcs : w1.ownsRow H 49 2 (.slice pa ps.length pc) ps.length cs) (p : Ph) {a : Option Addr} {c : Nat} {g' cap : Nat} {X : Nat} (hlt : ArgsLt w1 pa ps X)
    (ha : ∀ j (hj : j < p.args.length), ∃ b o, a = some ⟨b, o, none⟩ ∧ (H ≤ b ∧ X ≤ b ∧ b < w1.heap.size) ∧ some b ≠ (Value.slice pa ps.length pc).ownBlock ∧ Fz w1 b ∧ w1.cell? ⟨b, o + j, none⟩ = some (.int .i64 p.args[j]))
    (h2 : w2.ownsRow H 49 2 (.slice (some ⟨g', 0, none⟩) (ps.length + 1) cap) (ps.length + 1) (cs ++ [.int .i64 p.dst, .slice a p.args.length c])) (hg : w1.grownBy w2 (Value.slice pa ps.length pc).ownBlock) (hat : (Value.slice pa ps.length pc).ownBlock = some g' ∨ g' = w1.heap.size) :
    BldO2 (w2.setCell ⟨G, pre.length * 6, none⟩ (.slice (some ⟨g', 0, none⟩) (ps.length + 1) cap)) B0 H G vc pre (some ⟨g', 0, none⟩) cap ia ic (ps ++ [p]) [] := by
  obtain ⟨⟨l0, l1⟩, l2, l3⟩ := h.lo
  have hgs := hg.size
  obtain ⟨f1, f2, f3, f4, f5, f6⟩ := h.frame hg (fun b e => (hcs.lt b e).1) (pre.length * 6) (Nat.le_refl _) (.slice (some ⟨g', 0, none⟩) (ps.length + 1) cap)
  obtain ⟨t0, t1, t2, t3⟩ := h.ter
  rcases h.rows with ⟨_, rfl, rfl, hr⟩ | ⟨e, _⟩
  · refine ⟨f1, f2, ⟨⟨l0, l1⟩, l2, by omega⟩, by rw [show (ps ++ [p]).length = ps.length + 1 by simp]; exact f4 _ h.c0, (f3 _ (by omega)).trans h.c1, ⟨(f3 _ (by omega)).trans t0, (f3 _ (by omega)).trans t1, (f3 _ (by omega)).trans t2, (f3 _ (by omega)).trans t3⟩, Or.inl ⟨rfl, rfl, rfl, ?_⟩⟩
    exact (hr.push hcs p hlt ha h2 hg hat).keep (fun b b1 b2 => f5 b (by omega)) (by omega)
  · exact absurd rfl e
/-- An instruction comes to the open block. -/
theorem BldO2.ins (h : BldO2 w1 B0 H G vc pre pa pc ia ic ps is) {H2 : Nat} {cs : List Value} (hH : H ≤ H2 ∧ H2 ≤ w1.heap.size) (hph : PhsSep w1 H H2 pa ps) (hio : InsOwn w1 H2 ia ic is) (hcs : w1.ownsRow H2 53 5 (.slice ia is.length ic) is.length cs) (x : Ins) {g' cap : Nat}
    (h2 : w2.ownsRow H2 53 5 (.slice (some ⟨g', 0, none⟩) (is.length + 1) cap) (is.length + 1) (cs ++ x.cells)) (hg : w1.grownBy w2 (Value.slice ia is.length ic).ownBlock) :
    BldO2 (w2.setCell ⟨G, pre.length * 6 + 1, none⟩ (.slice (some ⟨g', 0, none⟩) (is.length + 1) cap)) B0 H G vc pre pa pc (some ⟨g', 0, none⟩) cap ps (is ++ [x]) := by
  obtain ⟨⟨l0, l1⟩, l2, l3⟩ := h.lo
  have hgs := hg.size
  have hrow := fun b e => hcs.lt b e
  obtain ⟨f1, f2, f3, f4, f5, f6⟩ := h.frame hg (fun b e => by have := (hrow b e).1; omega) (pre.length * 6 + 1) (by omega) (.slice (some ⟨g', 0, none⟩) (is.length + 1) cap)
  obtain ⟨t0, t1, t2, t3⟩ := h.ter
  refine ⟨f1, f2, ⟨⟨l0, l1⟩, l2, by omega⟩, (f3 _ (by omega)).trans h.c0, by rw [show (is ++ [x]).length = is.length + 1 by simp]; exact f4 _ h.c1, ⟨(f3 _ (by omega)).trans t0, (f3 _ (by omega)).trans t1, (f3 _ (by omega)).trans t2, (f3 _ (by omega)).trans t3⟩, Or.inr ⟨by simp, H2, hH.1, by omega, hph.keepS (fun b b1 b2 => (f5 b (by omega)).trans (hg.block b (by omega) (fun e => by have := (hrow b e.symm).1; omega))), ?_⟩⟩
  exact (hio.push hcs x h2).keep (fun b b1 b2 => f5 b (by omega))
/-- What the rows of the open block give for an append of an instruction. -/
theorem BldO2.insRow (h : BldO2 w1 B0 H G vc pre pa pc ia ic ps is) : ∃ H2 cs, (H ≤ H2 ∧ H2 ≤ w1.heap.size) ∧ PhsSep w1 H H2 pa ps ∧ InsOwn w1 H2 ia ic is ∧ w1.ownsRow H2 53 5 (.slice ia is.length ic) is.length cs := by
  obtain ⟨_, l2, l3⟩ := h.lo
  rcases h.rows with ⟨rfl, rfl, rfl, hr⟩ | ⟨_, H2, h1, h2, h3, h4⟩
  · exact ⟨w1.heap.size, [], ⟨l3, Nat.le_refl _⟩, hr.sep, ⟨⟨[], World.ownsRow_nil _ _ _ _⟩, fun i hi => absurd hi (by simp)⟩, World.ownsRow_nil _ _ _ _⟩
  · obtain ⟨cs, hcs⟩ := h4.own
    exact ⟨H2, cs, ⟨h1, h2⟩, h3, h4, hcs⟩
/-- The open block gets its end. -/
theorem BldO2.close (h : BldO2 w1 B0 H G vc pre pa pc ia ic ps is) (t : Ter) (ht : t.kind ≠ 0) : BldC2 ((((w1.setCell ⟨G, pre.length * 6 + 2, none⟩ (.int .i64 t.kind)).setCell ⟨G, pre.length * 6 + 2 + 1, none⟩ (.int .i64 t.a)).setCell ⟨G, pre.length * 6 + 2 + 2, none⟩ (.int .i64 t.to)).setCell ⟨G, pre.length * 6 + 2 + 3, none⟩ (.int .i64 t.els)) B0 (some ⟨G, 0, none⟩) vc (pre ++ [⟨ps, is, t⟩]) := by
  obtain ⟨⟨l0, l1⟩, l2, l3⟩ := h.lo
  obtain ⟨cs, hcs⟩ := h.own
  obtain ⟨cs1, h1⟩ := rowSet hcs (pre.length * 6 + 2) (.int .i64 t.kind)
  obtain ⟨cs2, h2⟩ := rowSet h1 (pre.length * 6 + 2 + 1) (.int .i64 t.a)
  obtain ⟨cs3, h3⟩ := rowSet h2 (pre.length * 6 + 2 + 2) (.int .i64 t.to)
  obtain ⟨cs4, h4⟩ := rowSet h3 (pre.length * 6 + 2 + 3) (.int .i64 t.els)
  obtain ⟨t0, t1, t2, t3⟩ := h.ter
  generalize hW : ((((w1.setCell ⟨G, pre.length * 6 + 2, none⟩ (.int .i64 t.kind)).setCell ⟨G, pre.length * 6 + 2 + 1, none⟩ (.int .i64 t.a)).setCell ⟨G, pre.length * 6 + 2 + 2, none⟩ (.int .i64 t.to)).setCell ⟨G, pre.length * 6 + 2 + 3, none⟩ (.int .i64 t.els)) = W at *
  have far : ∀ b, b ≠ G → W.heap[b]? = w1.heap[b]? := fun b hb => by rw [← hW, Below.heap_setCell _ _ _ _ hb, Below.heap_setCell _ _ _ _ hb, Below.heap_setCell _ _ _ _ hb, Below.heap_setCell _ _ _ _ hb]
  have hsz : W.heap.size = w1.heap.size := by rw [← hW]; simp
  have oc : ∀ i, i < pre.length * 6 + 2 → W.cell? ⟨G, i, none⟩ = w1.cell? ⟨G, i, none⟩ := fun i hi => by
    have ne : ∀ k, i ≠ k → ∀ (U : World) (v : Value), (U.setCell ⟨G, k, none⟩ v).cell? ⟨G, i, none⟩ = U.cell? ⟨G, i, none⟩ := fun k hk U v => World.cell?_setCell_other _ _ _ _ (by intro e; injection e with _ e; exact hk e.symm)
    rw [← hW, ne _ (by omega), ne _ (by omega), ne _ (by omega), ne _ (by omega)]
  have htr : TerAt W G (pre.length * 6 + 2) t := by
    rw [← hW]
    refine ⟨?_, ?_, ?_, ?_⟩ <;> simp [t0, t1, t2, t3, go_sem]
  have hlen : (pre ++ ([⟨ps, is, t⟩] : List Blk)).length = pre.length + 1 := by simp
  refine ⟨⟨cs4, by rw [hlen]; exact h4⟩, fun G' e => ?_, by omega⟩
  injection e with e
  injection e with e
  subst e
  obtain ⟨Ls, Bs, hq⟩ := h.clo
  have hq2 := hq.keep (w' := W) (fun b b1 b2 b3 => far b b3) (fun i hi => oc i (by omega)) (U' := H) (Nat.le_refl _)
  refine ⟨fun i => if i < pre.length then Ls i else H, fun i => if i < pre.length then Bs i else w1.heap.size, fun i hi => ?_, fun i j hij hj => ?_⟩
  · by_cases hik : i < pre.length
    · rw [List.getElem_append_left hik]
      rw [if_pos hik, if_pos hik]
      obtain ⟨q1, q2, q3, q4⟩ := hq2.at_ i hik
      exact ⟨by omega, q2, q3, q4⟩
    · have hie : i = pre.length := by omega
      subst hie
      have e1 : (pre ++ ([⟨ps, is, t⟩] : List Blk))[pre.length] = ⟨ps, is, t⟩ := by simp
      rw [e1]
      dsimp only
      rw [if_neg hik, if_neg hik]
      obtain ⟨M, m1, m2, r1, r2⟩ := h.rows.rows l3
      have sm : Same H w1.heap.size w1 W := fun b b1 b2 => far b (by omega)
      exact ⟨by omega, by omega, ⟨pa, pc, ia, ic, M, ⟨m1, m2⟩, (oc _ (by omega)).trans h.c0, (oc _ (by omega)).trans h.c1, htr, r1.keepS (sm.mono (Nat.le_refl _) m2), r2.keepS (sm.mono m1 (Nat.le_refl _))⟩, ht⟩
  · have hi : i < pre.length := by omega
    rw [if_pos hi]
    by_cases hjk : j < pre.length
    · rw [if_pos hjk]; exact hq.ord i j hij hjk
    · rw [if_neg hjk]; exact (hq.at_ i hi).1.2.2
end
/-- A function's blocks, of which no two rows are one. -/
def BlksSep (w : World) (L B : Nat) (va : Option Addr) (pre : List Blk) : Prop := pre = [] ∨ ∃ G Ls Bs, va = some ⟨G, 0, none⟩ ∧ (L ≤ G ∧ G < B) ∧ Fz w G ∧ Clo2 w L B G pre Ls Bs
theorem BlksSep.blks {w : World} {L B : Nat} {va : Option Addr} {pre : List Blk} (h : BlksSep w L B va pre) : BlksAt w L B va pre := fun i hi => by
  rcases h with rfl | ⟨G, Ls, Bs, e, hG, _, hq⟩
  · exact absurd hi (by simp)
  · obtain ⟨h1, _, h3, _⟩ := hq.at_ i hi
    exact ⟨G, 0, e, hG, by rw [Nat.zero_add]; exact h3.blk.mono h1.1 h1.2.2⟩
theorem BlksSep.keepS {w w' : World} {L B : Nat} {va : Option Addr} {pre : List Blk} (h : BlksSep w L B va pre) (k : Same L B w w') : BlksSep w' L B va pre := by
  rcases h with rfl | ⟨G, Ls, Bs, e, hG, hz, hq⟩
  · exact Or.inl rfl
  · have q := k G hG.1 hG.2
    exact Or.inr ⟨G, Ls, Bs, e, hG, hz.keep q, hq.keep (fun b b1 b2 _ => k b b1 b2) (fun i _ => cell_of q) (Nat.le_refl _)⟩
theorem BlksSep.mono {w : World} {L B L' B' : Nat} {va : Option Addr} {pre : List Blk} (h : BlksSep w L B va pre) (h1 : L' ≤ L) (h2 : B ≤ B') : BlksSep w L' B' va pre := by
  rcases h with rfl | ⟨G, Ls, Bs, e, hG, hz, hq⟩
  · exact Or.inl rfl
  · refine Or.inr ⟨G, Ls, Bs, e, by omega, hz, fun i hi => ?_, hq.ord⟩
    obtain ⟨q1, q2⟩ := hq.at_ i hi
    exact ⟨by omega, q2⟩
theorem BldC2.sep {w : World} {B0 : Nat} {va : Option Addr} {vc : Nat} {pre : List Blk} (h : BldC2 w B0 va vc pre) : BlksSep w B0 w.heap.size va pre := by
  obtain ⟨cs, hcs⟩ := h.own
  by_cases hp : 0 < pre.length
  · obtain ⟨G, cap, e, hG1, hG2⟩ := hcs.form hp
    obtain ⟨rfl, -, rfl⟩ := Value.slice.inj e
    obtain ⟨Ls, Bs, hq⟩ := h.clo G rfl
    exact Or.inr ⟨G, Ls, Bs, rfl, ⟨hG1, hG2⟩, fun q => rowThaw hcs q, hq⟩
  · exact Or.inl (List.eq_nil_of_length_eq_zero (by omega))
theorem BldC2.blks {w : World} {B0 : Nat} {va : Option Addr} {vc : Nat} {pre : List Blk} (h : BldC2 w B0 va vc pre) : BlksAt w B0 w.heap.size va pre := h.sep.blks
def StAt2 (w : World) (B0 : Nat) (va : Option Addr) (n vc : Nat) (s : Pst) : Prop :=
  match s.cur with
  | none => n = s.pre.length ∧ BldC2 w B0 va vc s.pre
  | some (ps, is) => ∃ H G pa pc ia ic, va = some ⟨G, 0, none⟩ ∧ n = s.pre.length + 1 ∧ BldO2 w B0 H G vc s.pre pa pc ia ic ps is
theorem StAt2.keep {w w' : World} {B0 : Nat} {va : Option Addr} {n vc : Nat} {s : Pst} (h : StAt2 w B0 va n vc s) (k : Same B0 w.heap.size w w') (hs : w.heap.size ≤ w'.heap.size) : StAt2 w' B0 va n vc s := by
  unfold StAt2 at h ⊢
  split at h
  · exact ⟨h.1, h.2.keep k hs⟩
  · obtain ⟨H, G, pa, pc, ia, ic, h1, h2, h3⟩ := h
    exact ⟨H, G, pa, pc, ia, ic, h1, h2, h3.keep k hs⟩
theorem StAt2.len {w : World} {B0 : Nat} {va : Option Addr} {n vc : Nat} {s : Pst} (h : StAt2 w B0 va n vc s) : n ≤ pstTot s := by
  obtain ⟨pre, cur⟩ := s
  match cur, h with
  | none, h => have := h.1; simp only [pstTot]; dsimp only at this; omega
  | some (ps, is), h =>
    obtain ⟨H, G, pa, pc, ia, ic, h1, h2, h3⟩ := h
    simp only [pstTot]
    dsimp only at h2
    omega
theorem StAt2.start (w : World) (B0 : Nat) (h : B0 ≤ w.heap.size) : StAt2 w B0 none 0 0 ⟨[], none⟩ := ⟨rfl, BldC2.nil w B0 h⟩
end Go.Proofs.YtdcdgopblbmgoaaGreatDoor

/-
  The law's markings of what the program has read, and how they are found again: instructions and phis.
-/
namespace Go.Proofs.YtdcdgopblbmgoaaGreatDoor
open Go.RowKit

theorem IW.widen {bl bh L B : Nat} {w w' : World} (h : IW bl bh w w') (hs : ∀ b, bl ≤ b → b < bh → L ≤ b ∧ b < B) : IW L B w w' :=
  ⟨h.os, h.tape, h.output, h.size, fun k hk => h.block k (fun q => hk (hs k q.1 q.2)), h.cell, h.frozen⟩
/-- An instruction whose five numbers are marks. -/
def mkIns (k : Int) : Ins := ⟨k, k + 1, k + 2, k + 3, k + 4⟩
def InsMarked (w : World) (L B : Nat) (ia : Option Addr) (k : Int) (n : Nat) : Prop := ∀ i, i < n → ∃ g, ia = some ⟨g, 0, none⟩ ∧ (L ≤ g ∧ g < B) ∧ InsAt w g (i * 5) (mkIns (k + 5 * (i : Nat)))
theorem InsMarked.keepS {w w' : World} {L B : Nat} {ia : Option Addr} {k : Int} {n : Nat} (h : InsMarked w L B ia k n) (s : Same L B w w') : InsMarked w' L B ia k n := fun i hi => by
  obtain ⟨g, e, hg, h1⟩ := h i hi
  exact ⟨g, e, hg, h1.keepS (s g hg.1 hg.2)⟩
theorem InsMarked.mono {w : World} {L B L' B' : Nat} {ia : Option Addr} {k : Int} {n : Nat} (h : InsMarked w L B ia k n) (h1 : L' ≤ L) (h2 : B ≤ B') : InsMarked w L' B' ia k n := fun i hi => by
  obtain ⟨g, e, hg, h3⟩ := h i hi
  exact ⟨g, e, by omega, h3⟩
theorem set5_at {w : World} {g o : Nat} {x : Ins} (h : InsAt w g o x) (v0 v1 v2 v3 v4 : Int) : InsAt (((((w.setCell ⟨g, o, none⟩ (.int .i64 v0)).setCell ⟨g, o + 1, none⟩ (.int .i64 v1)).setCell ⟨g, o + 2, none⟩ (.int .i64 v2)).setCell ⟨g, o + 3, none⟩ (.int .i64 v3)).setCell ⟨g, o + 4, none⟩ (.int .i64 v4)) g o ⟨v0, v1, v2, v3, v4⟩ := by
  obtain ⟨e0, e1, e2, e3, e4⟩ := h
  refine ⟨?_, ?_, ?_, ?_, ?_⟩ <;> simp [e0, e1, e2, e3, e4, go_sem]
theorem set5_other {w : World} {g o o' : Nat} {x : Ins} (h : InsAt w g o' x) (hd : o' + 4 < o ∨ o + 4 < o') (v0 v1 v2 v3 v4 : Int) : InsAt (((((w.setCell ⟨g, o, none⟩ (.int .i64 v0)).setCell ⟨g, o + 1, none⟩ (.int .i64 v1)).setCell ⟨g, o + 2, none⟩ (.int .i64 v2)).setCell ⟨g, o + 3, none⟩ (.int .i64 v3)).setCell ⟨g, o + 4, none⟩ (.int .i64 v4)) g o' x := by
  obtain ⟨e0, e1, e2, e3, e4⟩ := h
  refine ⟨?_, ?_, ?_, ?_, ?_⟩ <;> (rw [oth _ _ (by omega), oth _ _ (by omega), oth _ _ (by omega), oth _ _ (by omega), oth _ _ (by omega)]; assumption)

set_option maxHeartbeats 1000000 in
theorem markInstrs_sep (a : Option Addr) (n c : Nat) (k : Int) (xs : List Ins) (L B : Nat) (w : World) (ha : Hid (InsSep w L B a xs)) (hx : Hid (n = xs.length)) (hn : n ≤ 1048576) (h0 : 0 ≤ k) (h1 : k ≤ 1000000000) :
    Calls Tryz.prog 68 #[.slice a n c, .int .i64 k] w fun e w' => e = .returned (.int .i64 (k + 5 * n)) ∧ IW L B w w' ∧ InsMarked w' L B a k n := by
  go_enter Tryz.func68, Tryz.ntmps68
  go_wp2
  go_loopw [1, 5] (fun u i wr => ∃ j : Nat, j ≤ n ∧ i = .int .i64 j ∧ u = .int .i64 (k + 5 * j) ∧ Hid (IW L B w wr) ∧ Hid (InsMarked wr L B a k j)) (fun _ i _ => n - (intOf i).toNat)
  case atStart => exact ⟨0, Nat.zero_le _, rfl, by simp, IW.refl _ _ _, fun q hq => absurd hq (by omega)⟩
  case round =>
    obtain ⟨j, hj, rfl, rfl, hw, hq⟩ := hrel
    by_cases hlt : j < n
    · have hjx : j < xs.length := by have := hx.out; omega
      obtain ⟨g, rfl, hbB, hz, hc⟩ := ha.out j hjx
      obtain ⟨⟨u0, u1, u2, u3, u4⟩, hia⟩ := hc.iw hw.out
      have HIA := hide hia
      obtain ⟨e0, e1, e2, e3, e4⟩ := hia
      dsimp only at e0 e1 e2 e3 e4
      have fz := fun q => (hw.out.frozen ⟨g, q, none⟩).trans (hz q)
      have f0 := fz (j * 5)
      have f1 := fz (j * 5 + 1)
      have f2 := fz (j * 5 + 2)
      have f3 := fz (j * 5 + 3)
      have f4 := fz (j * 5 + 4)
      clear hc hz fz
      go_wp2
      refine ⟨⟨j + 1, by omega, by go_num, by go_num, hw.out.set5 hbB e0 e1 e2 e3 e4 _ _ _ _ _, fun q hqj => ⟨g, rfl, hbB, ?_⟩⟩, by simp [intOf]; omega⟩
      by_cases e : q = j
      · subst e
        refine cast (congrArg (InsAt _ g (q * 5)) ?_) (set5_at HIA.out _ _ _ _ _)
        unfold mkIns
        congr 1 <;> omega
      · obtain ⟨g', e', _, hc'⟩ := hq.out q (by omega)
        cases e'
        exact set5_other hc' (by omega) _ _ _ _ _
    · have hjn : j = n := by omega
      subst hjn
      go_wp2
      go_ret
      exact ⟨rfl, hw.out, hq.out⟩

set_option maxHeartbeats 1000000 in
theorem heldInstrs_any (a : Option Addr) (n c : Nat) (k : Int) (L B : Nat) (w : World) (ha : Hid (InsMarked w L B a k n)) (hn : n ≤ 1048576) (h0 : 0 ≤ k) (h1 : k ≤ 1000000000) :
    Calls Tryz.prog 70 #[.slice a n c, .int .i64 k] w fun e w' => e = .returned (.int .i64 (k + 5 * n)) ∧ w' = w := by
  go_enter Tryz.func70, Tryz.ntmps70
  go_wp2
  go_loop [1, 5] (fun u i => ∃ j : Nat, j ≤ n ∧ i = .int .i64 j ∧ u = .int .i64 (k + 5 * j)) (fun _ i => n - (intOf i).toNat)
  case atStart => exact ⟨0, Nat.zero_le _, rfl, by simp⟩
  case round =>
    obtain ⟨j, hj, rfl, rfl⟩ := hrel
    by_cases hlt : j < n
    · obtain ⟨g, rfl, -, e0, e1, e2, e3, e4⟩ := ha.out j hlt
      dsimp only [mkIns] at e0 e1 e2 e3 e4
      go_wp2
      go_round
      case rel => exact ⟨j + 1, by omega, by go_num, by go_num⟩
      case measure => simp [intOf]; omega
    · have hjn : j = n := by omega
      subst hjn
      go_wp2
      go_ret
      exact ⟨rfl, rfl⟩
end Go.Proofs.YtdcdgopblbmgoaaGreatDoor
