import Derived.Test.YteifkldaoddpdaaDoorN3
import Derived.Deep.RegionHeld3
namespace Go.Proofs.YteifkldaoddpdaaDoor
open Go.RowKit

/-- The fields of a run (block R). -/
structure PBox (w : World) (R : Nat) (aa : Option Addr) (na ca gh ch : Nat) (ta : Option Addr) (nt ct : Nat) (fuel k value : Int) (gv nv cv G n cn : Nat) (b pc : Int) (ka : Option Addr) (kn kc : Nat) : Prop where
  c0 : w.cell? ⟨R, 0, none⟩ = some (.slice aa na ca)
  c1 : w.cell? ⟨R, 1, none⟩ = some (.slice (some ⟨gh, 0, none⟩) 32 ch)
  c2 : w.cell? ⟨R, 2, none⟩ = some (.slice ta nt ct)
  c3 : w.cell? ⟨R, 3, none⟩ = some (.int .i64 fuel)
  c4 : w.cell? ⟨R, 4, none⟩ = some (.int .i64 k)
  c5 : w.cell? ⟨R, 5, none⟩ = some (.int .i64 value)
  c6 : w.cell? ⟨R, 6, none⟩ = some (.slice (some ⟨gv, 0, none⟩) nv cv)
  c7 : w.cell? ⟨R, 7, none⟩ = some (.slice (some ⟨G, 0, none⟩) n cn)
  c8 : w.cell? ⟨R, 8, none⟩ = some (.int .i64 b)
  c9 : w.cell? ⟨R, 9, none⟩ = some (.int .i64 pc)
  c10 : w.cell? ⟨R, 10, none⟩ = some (.slice ka kn kc)
  fz : ∀ o, w.frozen? ⟨R, o, none⟩ = false
section
variable {w w1 : World} {R : Nat} {aa : Option Addr} {na ca gh ch : Nat} {ta : Option Addr} {nt ct : Nat} {fuel k value : Int} {gv nv cv G n cn : Nat} {b pc : Int} {ka : Option Addr} {kn kc : Nat}
theorem PBox.keep (h : PBox w R aa na ca gh ch ta nt ct fuel k value gv nv cv G n cn b pc ka kn kc) (q : w1.heap[R]? = w.heap[R]?) : PBox w1 R aa na ca gh ch ta nt ct fuel k value gv nv cv G n cn b pc ka kn kc :=
  ⟨(cell_of q).trans h.c0, (cell_of q).trans h.c1, (cell_of q).trans h.c2, (cell_of q).trans h.c3, (cell_of q).trans h.c4, (cell_of q).trans h.c5, (cell_of q).trans h.c6, (cell_of q).trans h.c7, (cell_of q).trans h.c8, (cell_of q).trans h.c9, (cell_of q).trans h.c10, fun o => (World.frozen?_of_block q).trans (h.fz o)⟩
theorem PBox.set10 (h : PBox w R aa na ca gh ch ta nt ct fuel k value gv nv cv G n cn b pc ka kn kc) (ka' : Option Addr) (kn' kc' : Nat) : PBox (w.setCell ⟨R, 10, none⟩ (.slice ka' kn' kc')) R aa na ca gh ch ta nt ct fuel k value gv nv cv G n cn b pc ka' kn' kc' := by
  obtain ⟨h0, h1, h2, h3, h4, h5, h6, h7, h8, h9, h10, hz⟩ := h
  constructor <;> simp [*, go_sem]
theorem PBox.set2 (h : PBox w R aa na ca gh ch ta nt ct fuel k value gv nv cv G n cn b pc ka kn kc) (ta' : Option Addr) (nt' ct' : Nat) : PBox (w.setCell ⟨R, 2, none⟩ (.slice ta' nt' ct')) R aa na ca gh ch ta' nt' ct' fuel k value gv nv cv G n cn b pc ka kn kc := by
  obtain ⟨h0, h1, h2, h3, h4, h5, h6, h7, h8, h9, h10, hz⟩ := h
  constructor <;> simp [*, go_sem]
theorem PBox.set4 (h : PBox w R aa na ca gh ch ta nt ct fuel k value gv nv cv G n cn b pc ka kn kc) (k' : Int) : PBox (w.setCell ⟨R, 4, none⟩ (.int .i64 k')) R aa na ca gh ch ta nt ct fuel k' value gv nv cv G n cn b pc ka kn kc := by
  obtain ⟨h0, h1, h2, h3, h4, h5, h6, h7, h8, h9, h10, hz⟩ := h
  constructor <;> simp [*, go_sem]
theorem PBox.set5 (h : PBox w R aa na ca gh ch ta nt ct fuel k value gv nv cv G n cn b pc ka kn kc) (v' : Int) : PBox (w.setCell ⟨R, 5, none⟩ (.int .i64 v')) R aa na ca gh ch ta nt ct fuel k v' gv nv cv G n cn b pc ka kn kc := by
  obtain ⟨h0, h1, h2, h3, h4, h5, h6, h7, h8, h9, h10, hz⟩ := h
  constructor <;> simp [*, go_sem]
theorem PBox.set8 (h : PBox w R aa na ca gh ch ta nt ct fuel k value gv nv cv G n cn b pc ka kn kc) (b' : Int) : PBox (w.setCell ⟨R, 8, none⟩ (.int .i64 b')) R aa na ca gh ch ta nt ct fuel k value gv nv cv G n cn b' pc ka kn kc := by
  obtain ⟨h0, h1, h2, h3, h4, h5, h6, h7, h8, h9, h10, hz⟩ := h
  constructor <;> simp [*, go_sem]
theorem PBox.set9 (h : PBox w R aa na ca gh ch ta nt ct fuel k value gv nv cv G n cn b pc ka kn kc) (pc' : Int) : PBox (w.setCell ⟨R, 9, none⟩ (.int .i64 pc')) R aa na ca gh ch ta nt ct fuel k value gv nv cv G n cn b pc' ka kn kc := by
  obtain ⟨h0, h1, h2, h3, h4, h5, h6, h7, h8, h9, h10, hz⟩ := h
  constructor <;> simp [*, go_sem]
end

/-- Below B nothing has turned but three blocks. -/
structure Kc (B r gv gh : Nat) (w w' : World) : Prop where
  os : w'.os = w.os
  tape : w'.tape = w.tape
  output : w'.output = w.output
  size : w.heap.size ≤ w'.heap.size
  block : ∀ k, k < B → k ≠ r → k ≠ gv → k ≠ gh → w'.heap[k]? = w.heap[k]?
section
variable {w w1 w2 : World} {B r gv gh : Nat}
theorem Kc.refl (B r gv gh : Nat) (w : World) : Kc B r gv gh w w := ⟨rfl, rfl, rfl, Nat.le_refl _, fun _ _ _ _ _ => rfl⟩
theorem Kc.trans (h : Kc B r gv gh w w1) (k : Kc B r gv gh w1 w2) : Kc B r gv gh w w2 := ⟨k.os.trans h.os, k.tape.trans h.tape, k.output.trans h.output, Nat.le_trans h.size k.size, fun i a b c d => (k.block i a b c d).trans (h.block i a b c d)⟩
theorem Kc.of_below (h : Below B w w1) : Kc B r gv gh w w1 := ⟨h.os, h.tape, h.output, h.size, fun i a _ _ _ => h.block i a⟩
theorem Kc.drew (h : Kc B r gv gh w w1) : Kc B r gv gh w w1.drew := ⟨h.os, h.tape, h.output, h.size, h.block⟩
theorem Kc.alloc (h : Kc B r gv gh w w1) (hB : B ≤ w1.heap.size) (o : Obj) : Kc B r gv gh w (w1.alloc o) := h.trans (Kc.of_below ((balloc (Below.refl w1.heap.size w1) o).mono hB))
theorem Kc.set (h : Kc B r gv gh w w1) {b o : Nat} (hb : b = r ∨ b = gv ∨ b = gh ∨ B ≤ b) (v : Value) : Kc B r gv gh w (w1.setCell ⟨b, o, none⟩ v) :=
  h.trans ⟨rfl, rfl, rfl, by simp [World.setCell], fun k hk h1 h2 h3 => Below.heap_setCell _ _ _ _ (by dsimp only; omega)⟩
theorem Kc.grown {row : Option Nat} (h : Kc B r gv gh w w1) (hg : w1.grownBy w2 row) (hB : B ≤ w1.heap.size) (hr : ∀ k, row = some k → B ≤ k) : Kc B r gv gh w w2 :=
  h.trans ⟨hg.os, hg.tape, hg.output, hg.size, fun k hk _ _ _ => hg.block k (by omega) (fun e => by have := hr k e.symm; omega)⟩
end

/-- The rows of a run, and the room for what phis take. -/
structure PMem (w : World) (Bt gv gh : Nat) (ta : Option Addr) (nt ct : Nat) (ka : Option Addr) (kn kc : Nat) (vals hp tr K : List Int) : Prop where
  mem : RunMem w Bt gv gh 2 (.slice ta nt ct) vals hp tr
  own : w.ownsRow Bt 2 1 (.slice ka kn kc) kn (K.map (Value.int .i64))
  tk : (Value.slice ka kn kc).ownBlock = none ∨ (Value.slice ka kn kc).ownBlock ≠ (Value.slice ta nt ct).ownBlock
theorem PMem.keep {w w1 : World} {Bt gv gh : Nat} {ta : Option Addr} {nt ct : Nat} {ka : Option Addr} {kn kc : Nat} {vals hp tr K : List Int} (h : PMem w Bt gv gh ta nt ct ka kn kc vals hp tr K) (q : ∀ b, b < w.heap.size → (b = gv ∨ b = gh ∨ Bt ≤ b) → w1.heap[b]? = w.heap[b]?) : PMem w1 Bt gv gh ta nt ct ka kn kc vals hp tr K :=
  ⟨⟨h.mem.vals.keep (q _ h.mem.vals.lt (Or.inl rfl)), h.mem.heap.keep (q _ h.mem.heap.lt (Or.inr (Or.inl rfl))), own_keep h.mem.own (fun b e => q b (h.mem.own.lt b e).2 (Or.inr (Or.inr (h.mem.own.lt b e).1))), h.mem.ne, h.mem.tvals, h.mem.theap⟩, own_keep h.own (fun b e => q b (h.own.lt b e).2 (Or.inr (Or.inr (h.own.lt b e).1))), h.tk⟩

theorem cut_own {w : World} {B t : Nat} {ka : Option Addr} {kn kc n : Nat} {xs : List Value} (h : w.ownsRow B t 1 (.slice ka kn kc) n xs) : w.ownsRow B t 1 (.slice ka 0 kc) 0 [] := by
  obtain ⟨hl, ⟨e, _⟩ | ⟨g, cap, cur, e, hg, hh, hc, hm, hs, _⟩⟩ := h
  · injection e with e1 e2 e3
    subst e1 e3
    exact ⟨rfl, Or.inl ⟨rfl, rfl⟩⟩
  · injection e with e1 e2 e3
    subst e1 e3
    exact ⟨rfl, Or.inr ⟨g, _, cur, rfl, hg, hh, Nat.zero_le _, hm, hs, by simp⟩⟩

/-- What holds while a way is followed; E is the variable of the edge. -/
structure FInv (w : World) (R : Nat) (aa : Option Addr) (na ca gh ch : Nat) (ta : Option Addr) (nt ct : Nat) (fuel k0 value : Int) (gv nv cv G n cn : Nat) (b pc : Int) (Bt : Nat) (to : Int) (ea : Option Addr) (ne ce : Nat) (ka : Option Addr) (kn kc : Nat) (vals hp tr K : List Int) (wr : World) : Prop where
  kept : Kc Bt R gv gh w wr
  box : PBox wr R aa na ca gh ch ta nt ct fuel k0 value gv nv cv G n cn b pc ka kn kc
  mem : PMem wr Bt gv gh ta nt ct ka kn kc vals hp tr K
  e0 : wr.cell? ⟨w.heap.size, 0, none⟩ = some (.int .i64 to)
  e1 : wr.cell? ⟨w.heap.size, 1, none⟩ = some (.slice ea ne ce)
  es : w.heap.size < wr.heap.size
  ke : (Value.slice ka kn kc).ownBlock ≠ some w.heap.size
theorem FInv.push {w : World} {R : Nat} {aa : Option Addr} {na ca gh ch : Nat} {ta : Option Addr} {nt ct : Nat} {fuel k0 value : Int} {gv nv cv G n cn : Nat} {b pc : Int} {Bt : Nat} {to : Int} {ea : Option Addr} {ne ce : Nat} {ka : Option Addr} {kn kc : Nat} {vals hp tr K : List Int} {wr W w1 : World} (h : FInv w R aa na ca gh ch ta nt ct fuel k0 value gv nv cv G n cn b pc Bt to ea ne ce ka kn kc vals hp tr K wr) (hR : R < Bt) (hv : gv < Bt) (hh : gh < Bt) (hRv : R ≠ gv) (hRh : R ≠ gh) (hB : Bt ≤ w.heap.size) (hb : Below wr.heap.size wr W) {g cap : Nat} {x : Int}
    (ho : w1.ownsRow Bt 2 1 (.slice (some ⟨g, 0, none⟩) (kn + 1) cap) (kn + 1) (K.map (Value.int .i64) ++ [.int .i64 x])) (hg : W.grownBy w1 (Value.slice ka kn kc).ownBlock) (hat : (Value.slice ka kn kc).ownBlock = some g ∨ wr.heap.size ≤ g) :
    FInv w R aa na ca gh ch ta nt ct fuel k0 value gv nv cv G n cn b pc Bt to ea ne ce (some ⟨g, 0, none⟩) (kn + 1) cap vals hp tr (K ++ [x]) (w1.setCell ⟨R, 10, none⟩ (.slice (some ⟨g, 0, none⟩) (kn + 1) cap)) := by
  have hks := h.kept.size
  have hbs := hb.size
  have hgs := hg.size
  have hes := h.es
  have far : ∀ q, q < wr.heap.size → some q ≠ (Value.slice ka kn kc).ownBlock → w1.heap[q]? = wr.heap[q]? := fun q h1 h2 => (hg.block q (by omega) h2).trans (hb.block q h1)
  have low : ∀ q, q < Bt → some q ≠ (Value.slice ka kn kc).ownBlock := fun q hq e => by have := (h.mem.own.lt q e.symm).1; omega
  have set : ∀ q, q ≠ R → (w1.setCell ⟨R, 10, none⟩ (.slice (some ⟨g, 0, none⟩) (kn + 1) cap)).heap[q]? = w1.heap[q]? := fun q hq => Below.heap_setCell _ _ _ _ hq
  have hgb := (ho.lt g rfl).1
  have tr1 : ∀ q, (Value.slice ta nt ct).ownBlock = some q → (w1.setCell ⟨R, 10, none⟩ (.slice (some ⟨g, 0, none⟩) (kn + 1) cap)).heap[q]? = wr.heap[q]? := fun q e => by
    have hq := h.mem.mem.own.lt q e
    refine (set q (by omega)).trans (far q hq.2 (fun e2 => ?_))
    rcases h.mem.tk with f | f
    · rw [f] at e2; cases e2
    · exact f (e2.symm.trans e.symm)
  have hE : some w.heap.size ≠ (Value.slice ka kn kc).ownBlock := fun e => h.ke e.symm
  have vl := h.mem.mem.vals.lt
  have hl := h.mem.mem.heap.lt
  refine ⟨h.kept.trans (((Kc.of_below (hb.mono (by omega))).grown hg (by omega) (fun q e => (h.mem.own.lt q e).1)).set (Or.inl rfl) _), (h.box.keep (far R (by omega) (low R hR))).set10 _ _ _, ⟨⟨h.mem.mem.vals.keep ((set _ (fun e => hRv e.symm)).trans (far _ vl (low _ hv))), h.mem.mem.heap.keep ((set _ (fun e => hRh e.symm)).trans (far _ hl (low _ hh))), own_keep h.mem.mem.own tr1, h.mem.mem.ne, h.mem.mem.tvals, h.mem.mem.theap⟩, ?_, ?_⟩,
    (cell_of ((set _ (by omega)).trans (far _ hes hE))).trans h.e0, (cell_of ((set _ (by omega)).trans (far _ hes hE))).trans h.e1, by rw [size_setCell]; omega, ?_⟩
  · rw [ints_snoc]
    exact own_keep ho (fun q e => set q (fun e2 => by injection e with e; dsimp only at e; omega))
  · rcases hat with e | e
    · rcases h.mem.tk with f | f
      · rw [e] at f; cases f
      · right; rw [show (Value.slice (some ⟨g, 0, none⟩) (kn + 1) cap).ownBlock = some g from rfl, ← e]; exact f
    · right
      intro f
      have := (h.mem.mem.own.lt g f.symm).2
      omega
  · rcases hat with e | e
    · rw [show (Value.slice (some ⟨g, 0, none⟩) (kn + 1) cap).ownBlock = some g from rfl, ← e]; exact h.ke
    · intro f; injection f with f; dsimp only at f; omega
theorem FInv.put {w : World} {R : Nat} {aa : Option Addr} {na ca gh ch : Nat} {ta : Option Addr} {nt ct : Nat} {fuel k0 value : Int} {gv nv cv G n cn : Nat} {b pc : Int} {Bt : Nat} {to : Int} {ea : Option Addr} {ne ce : Nat} {ka : Option Addr} {kn kc : Nat} {vals hp tr K : List Int} {wr W : World} (h : FInv w R aa na ca gh ch ta nt ct fuel k0 value gv nv cv G n cn b pc Bt to ea ne ce ka kn kc vals hp tr K wr) (hv : gv < Bt) (hRv : R ≠ gv) (hR : R < Bt) (hB : Bt ≤ w.heap.size) (hb : Below wr.heap.size wr W) {i : Nat} (hi : i < vals.length) (x : Int) :
    FInv w R aa na ca gh ch ta nt ct fuel k0 value gv nv cv G n cn b pc Bt to ea ne ce ka kn kc (vals.set i x) hp tr K (W.setCell ⟨gv, i, none⟩ (.int .i64 x)) := by
  have hks := h.kept.size
  have hbs := hb.size
  have hes := h.es
  have m1 := h.mem.keep (w1 := W) (fun q h1 _ => hb.block q h1)
  have set : ∀ q, q ≠ gv → (W.setCell ⟨gv, i, none⟩ (.int .i64 x)).heap[q]? = W.heap[q]? := fun q hq => Below.heap_setCell _ _ _ _ hq
  refine ⟨h.kept.trans ((Kc.of_below (hb.mono (by omega))).set (Or.inr (Or.inl rfl)) _), h.box.keep ((set R hRv).trans (hb.block R (by omega))), ⟨m1.mem.setV hi x, own_keep m1.own (fun q e => set q (fun e2 => by have := (m1.own.lt q e).1; omega)), m1.tk⟩, (cell_of ((set _ (by omega)).trans (hb.block _ hes))).trans h.e0, (cell_of ((set _ (by omega)).trans (hb.block _ hes))).trans h.e1, by rw [size_setCell]; omega, h.ke⟩
theorem FInv.drew {w : World} {R : Nat} {aa : Option Addr} {na ca gh ch : Nat} {ta : Option Addr} {nt ct : Nat} {fuel k0 value : Int} {gv nv cv G n cn : Nat} {b pc : Int} {Bt : Nat} {to : Int} {ea : Option Addr} {ne ce : Nat} {ka : Option Addr} {kn kc : Nat} {vals hp tr K : List Int} {wr : World} (h : FInv w R aa na ca gh ch ta nt ct fuel k0 value gv nv cv G n cn b pc Bt to ea ne ce ka kn kc vals hp tr K wr) : FInv w R aa na ca gh ch ta nt ct fuel k0 value gv nv cv G n cn b pc Bt to ea ne ce ka kn kc vals hp tr K wr.drew :=
  ⟨h.kept.drew, h.box.keep rfl, h.mem.keep (fun _ _ _ => rfl), h.e0, h.e1, h.es, h.ke⟩

set_option maxHeartbeats 2000000 in
set_option maxRecDepth 100000 in
theorem follow_any (R : Nat) (aa : Option Addr) (na ca gh ch : Nat) (ta : Option Addr) (nt ct : Nat) (fuel k0 value : Int) (gv nv cv G n cn : Nat) (b pc : Int) (ka : Option Addr) (kn kc : Nat) (to : Int) (ea : Option Addr) (ne ce : Nat) (ts : List (Int × Int)) (vals hp tr K : List Int) (L Bt : Nat) (w : World)
    (hbox : Hid (PBox w R aa na ca gh ch ta nt ct fuel k0 value gv nv cv G n cn b pc ka kn kc)) (hmem : Hid (PMem w Bt gv gh ta nt ct ka kn kc vals hp tr K)) (hts : Hid (TakesAt w L Bt ea ts)) (hne : Hid (ne = ts.length)) (hnl : ts.length ≤ 1048576) (hok : Hid (∀ t ∈ ts, (0 ≤ t.1 ∧ t.1 < nv) ∧ 0 ≤ t.2 ∧ t.2 < nv)) (hnv : Hid (nv = vals.length))
    (hR : R < L) (hgv : gv < L) (hgh : gh < L) (hRv : R ≠ gv) (hRh : R ≠ gh) (hLB : L ≤ Bt) (hB : Bt ≤ w.heap.size) :
    Calls Tryd.prog 112 #[.pointer (some ⟨R, 0, none⟩), .agg #[.int .i64 to, .slice ea ne ce]] w
      fun e w' => e = .returned (.tuple #[]) ∧ ∃ ka' kn' kc' K', Kc Bt R gv gh w w' ∧ PBox w' R aa na ca gh ch ta nt ct fuel k0 value gv nv cv G n cn to 0 ka' kn' kc' ∧ PMem w' Bt gv gh ta nt ct ka' kn' kc' (takeTo vals ts vals) hp tr K' := by
  have ba := fun o => balloc (Below.refl w.heap.size w) o
  have C10 := fun o => ((ba o).cell (p := ⟨R, 10, none⟩) (by show R < _; omega)).trans hbox.out.c10
  have CZ := fun o => ((ba o).frozen (p := ⟨R, 10, none⟩) (by show R < _; omega)).trans (hbox.out.fz 10)
  obtain ⟨i0, hi0, hz0, hz1, hz2⟩ := info_parts Tryd.info2'
  go_enter Tryd.func112, Tryd.ntmps112
  go_wp2
  have HST : ∀ t, FInv w R aa na ca gh ch ta nt ct fuel k0 value gv nv cv G n cn b pc Bt to ea ne ce ka 0 kc vals hp tr [] ((w.alloc (.cells #[.int .i64 to, .slice ea ne ce] t)).setCell ⟨R, 10, none⟩ (.slice ka 0 kc)) := fun t => by
    have far : ∀ q, q < w.heap.size → q ≠ R → ((w.alloc (.cells #[.int .i64 to, .slice ea ne ce] t)).setCell ⟨R, 10, none⟩ (.slice ka 0 kc)).heap[q]? = w.heap[q]? := fun q h1 h2 => (Below.heap_setCell _ _ _ _ h2).trans ((ba _).block q h1)
    have own0 := cut_own hmem.out.own
    have hob : (Value.slice ka 0 kc).ownBlock = (Value.slice ka kn kc).ownBlock := by cases ka <;> rfl
    refine ⟨((Kc.of_below ((ba _).mono hB)).set (Or.inl rfl) _), (hbox.out.keep ((ba _).block R (by omega))).set10 _ _ _, ⟨⟨hmem.out.mem.vals.keep (far _ hmem.out.mem.vals.lt (fun e => hRv e.symm)), hmem.out.mem.heap.keep (far _ hmem.out.mem.heap.lt (fun e => hRh e.symm)), own_keep hmem.out.mem.own (fun q e => far q (hmem.out.mem.own.lt q e).2 (by have := (hmem.out.mem.own.lt q e).1; omega)), hmem.out.mem.ne, hmem.out.mem.tvals, hmem.out.mem.theap⟩, own_keep own0 (fun q e => far q (own0.lt q e).2 (by have := (own0.lt q e).1; omega)), by rw [hob]; exact hmem.out.tk⟩, ?_, ?_, by simp, fun e => by have := (own0.lt w.heap.size e).2; omega⟩
    · exact (World.cell?_setCell_other _ _ _ _ (by intro e; injection e with e; omega)).trans (by simp [go_sem])
    · exact (World.cell?_setCell_other _ _ _ _ (by intro e; injection e with e; omega)).trans (by simp [go_sem])
  have hst := HST 122
  have HSTH := hide hst
  clear HST hst C10 CZ
  go_loopw [19] (fun i wr => ∃ (k : Nat) (ka1 : Option Addr) (kc1 : Nat), k ≤ ts.length ∧ i = .int .i64 k ∧ Hid (FInv w R aa na ca gh ch ta nt ct fuel k0 value gv nv cv G n cn b pc Bt to ea ne ce ka1 k kc1 vals hp tr ((ts.take k).map fun t => getN vals t.2) wr)) (fun i _ => ts.length - (intOf i).toNat)
  case atStart => exact ⟨0, ka, kc, Nat.zero_le _, rfl, HSTH⟩
  case round =>
    clear HSTH hbox hmem
    obtain ⟨k, ka1, kc1, hk, rfl, hinv⟩ := hrel
    have hes := hinv.out.es
    have hks := hinv.out.kept.size
    by_cases hkl : k < ts.length
    · obtain ⟨b3, o3, rfl, ⟨hb3L, hb3⟩, h31, h32⟩ := hts.out k hkl
      obtain ⟨⟨d0, d1⟩, q0, q1⟩ := hok.out _ (List.getElem_mem hkl)
      have kb3 := hinv.out.kept.block b3 hb3 (by omega) (by omega) (by omega)
      have G1 := (cell_of kb3).trans h31
      have G2 := (cell_of kb3).trans h32
      obtain ⟨q, hq⟩ := Int.eq_ofNat_of_zero_le q0
      have hqx : q < vals.length := by have := hnv.out; omega
      have hnx : ((ts.take (k + 1)).map fun t => getN vals t.2) = ((ts.take k).map fun t => getN vals t.2) ++ [vals[q]] := by rw [take_next _ _ hkl, List.map_append]; simp only [List.map_cons, List.map_nil]; rw [hq, getN_of _ _ hqx]
      rw [hq] at G2
      have HNX := hide hnx
      have VQ0 := hinv.out.mem.mem.vals.2 q hqx
      clear hnx h31 h32 q0 q1 hq
      generalize ts[k].1 = D at *
      generalize vals[q] = VQ at *
      generalize ((ts.take k).map fun t => getN vals t.2) = KS at *
      have bw := fun x y => balloc (balloc (Below.refl wr.heap.size wr) x).drew y
      have c6 : ∀ x y, (((wr.alloc x).drew).alloc y).cell? ⟨R, 6, none⟩ = some (.slice (some ⟨gv, 0, none⟩) nv cv) := fun x y => ((bw x y).cell (p := ⟨R, 6, none⟩) (by show R < _; omega)).trans hinv.out.box.c6
      have c10 : ∀ x y, (((wr.alloc x).drew).alloc y).cell? ⟨R, 10, none⟩ = some (.slice ka1 k kc1) := fun x y => ((bw x y).cell (p := ⟨R, 10, none⟩) (by show R < _; omega)).trans hinv.out.box.c10
      have cz : ∀ x y, (((wr.alloc x).drew).alloc y).frozen? ⟨R, 10, none⟩ = false := fun x y => ((bw x y).frozen (p := ⟨R, 10, none⟩) (by show R < _; omega)).trans (hinv.out.box.fz 10)
      have cq : ∀ x y, (((wr.alloc x).drew).alloc y).cell? ⟨gv, q, none⟩ = some (.int .i64 VQ) := fun x y => ((bw x y).cell (p := ⟨gv, q, none⟩) (by show gv < _; omega)).trans VQ0
      have c6' : ∀ x, (wr.alloc x).cell? ⟨R, 6, none⟩ = some (.slice (some ⟨gv, 0, none⟩) nv cv) := fun x => ((balloc (Below.refl wr.heap.size wr) x).cell (p := ⟨R, 6, none⟩) (by show R < _; omega)).trans hinv.out.box.c6
      have c10' : ∀ x, (wr.alloc x).cell? ⟨R, 10, none⟩ = some (.slice ka1 k kc1) := fun x => ((balloc (Below.refl wr.heap.size wr) x).cell (p := ⟨R, 10, none⟩) (by show R < _; omega)).trans hinv.out.box.c10
      have cq' : ∀ x, (wr.alloc x).cell? ⟨gv, q, none⟩ = some (.int .i64 VQ) := fun x => ((balloc (Below.refl wr.heap.size wr) x).cell (p := ⟨gv, q, none⟩) (by show gv < _; omega)).trans VQ0
      have c6'' : ∀ x y, ((wr.alloc x).alloc y).cell? ⟨R, 6, none⟩ = some (.slice (some ⟨gv, 0, none⟩) nv cv) := c6
      have c10'' : ∀ x y, ((wr.alloc x).alloc y).cell? ⟨R, 10, none⟩ = some (.slice ka1 k kc1) := c10
      have cq'' : ∀ x y, ((wr.alloc x).alloc y).cell? ⟨gv, q, none⟩ = some (.int .i64 VQ) := cq
      have HOW : ∀ x y, (((wr.alloc x).drew).alloc y).ownsRow Bt 2 1 (.slice ka1 k kc1) k (KS.map (Value.int .i64)) := fun x y => own_keep hinv.out.mem.own (fun q e => (bw x y).block q (hinv.out.mem.own.lt q e).2)
      have hno : ∀ q, wr.heap.size ≤ q → some q ≠ (Value.slice ka1 k kc1).ownBlock := fun q hq e => by have := (hinv.out.mem.own.lt q e.symm).2; omega
      have hlow : ∀ q, q < Bt → some q ≠ (Value.slice ka1 k kc1).ownBlock := fun q hq e => by have := (hinv.out.mem.own.lt q e.symm).1; omega
      have HP : ∀ (x y : Obj) (g cap : Nat) (w1 : World), w1.ownsRow Bt 2 1 (.slice (some ⟨g, 0, none⟩) (k + 1) cap) (k + 1) (KS.map (Value.int .i64) ++ [.int .i64 VQ]) → (((wr.alloc x).drew).alloc y).grownBy w1 (Value.slice ka1 k kc1).ownBlock → ((Value.slice ka1 k kc1).ownBlock = some g ∨ g = wr.heap.size + 1 + 1) →
          FInv w R aa na ca gh ch ta nt ct fuel k0 value gv nv cv G n cn b pc Bt to (some ⟨b3, o3, none⟩) ne ce (some ⟨g, 0, none⟩) (k + 1) cap vals hp tr (KS ++ [VQ]) (w1.setCell ⟨R, 10, none⟩ (.slice (some ⟨g, 0, none⟩) (k + 1) cap)) := fun x y g cap w1 ho hg hat =>
        hinv.out.push (by omega) (by omega) (by omega) hRv hRh hB (bw x y) ho hg (hat.imp id (fun e => by omega))
      have n1 : wr.heap.size ≠ R := by omega
      have n2 : wr.heap.size ≠ gv := by omega
      have n3 : R ≠ wr.heap.size := by omega
      have n4 : gv ≠ wr.heap.size := by omega
      have n5 : gv ≠ R := fun e => hRv e.symm
      have hq3 : q < nv := by have := hnv.out; omega
      have hnel : k < ne := by have := hne.out; omega
      go_wp2
      refine wp_region_held_drew (S := (fun w' => w'.cell? ⟨R, 6, none⟩ = some (.slice (some ⟨gv, 0, none⟩) nv cv) ∧ w'.cell? ⟨wr.heap.size, 1, none⟩ = some (.int .i64 q) ∧ w'.cell? ⟨gv, q, none⟩ = some (.int .i64 VQ))) (by kernel_rfl) (by (try dsimp only); go_keep) (fun hHeld => ?_)
      refine wpAnyH_take (i := 0) (v := ?_) rfl (by kernel_rfl) (by kernel_rfl) (by kernel_rfl) (fun _ _ _ h => h) (Or.inl ⟨by rfl, ?_⟩) (by assumption) ?_
      rotate_left
      · intro w hSw; (try dsimp only at hSw); go_simp; try with_reducible rfl
      simp only [Act.put, List.getElem_toArray, List.getElem_cons_zero, List.setIfInBounds_toArray, List.set_cons_zero, List.set_cons_succ]
      refine wpAnyH_take (i := 1) (v := ?_) rfl (by kernel_rfl) (by kernel_rfl) (by kernel_rfl) (fun _ _ _ h => h) (Or.inl ⟨by rfl, ?_⟩) (by assumption) ?_
      rotate_left
      · intro w hSw; (try dsimp only at hSw); go_simp; try with_reducible rfl
      simp only [Act.put, List.getElem_toArray, List.getElem_cons_zero, List.getElem_cons_succ, List.setIfInBounds_toArray, List.set_cons_zero, List.set_cons_succ]
      refine wpAnyH_take (i := 2) (v := ?_) rfl (by kernel_rfl) (by kernel_rfl) (by kernel_rfl) (fun _ _ _ h => h) (Or.inl ⟨by rfl, ?_⟩) (by assumption) ?_
      rotate_left
      · intro w hSw; (try dsimp only at hSw); go_simp; try with_reducible rfl
      simp only [Act.put, List.getElem_toArray, List.getElem_cons_zero, List.getElem_cons_succ, List.setIfInBounds_toArray, List.set_cons_zero, List.set_cons_succ]
      refine wpAnyH_take (i := 3) (v := ?_) rfl (by kernel_rfl) (by kernel_rfl) (by kernel_rfl) (fun _ _ _ h => h) (Or.inl ⟨by rfl, ?_⟩) (by assumption) ?_
      rotate_left
      · intro w hSw; (try dsimp only at hSw); go_simp; try with_reducible rfl
      simp only [Act.put, List.getElem_toArray, List.getElem_cons_zero, List.getElem_cons_succ, List.setIfInBounds_toArray, List.set_cons_zero, List.set_cons_succ]
      refine wpAnyH_take (i := 5) (v := ?_) rfl (by kernel_rfl) (by kernel_rfl) (by kernel_rfl) (fun _ _ _ h => h) (Or.inl ⟨by rfl, ?_⟩) (by assumption) ?_
      rotate_left
      · intro w hSw; (try dsimp only at hSw); go_simp; try with_reducible rfl
      simp only [Act.put, List.getElem_toArray, List.getElem_cons_zero, List.getElem_cons_succ, List.setIfInBounds_toArray, List.set_cons_zero, List.set_cons_succ]
      refine wpAnyH_take (i := 6) (v := ?_) rfl (by kernel_rfl) (by kernel_rfl) (by kernel_rfl) (fun _ _ _ h => h) (Or.inl ⟨by rfl, ?_⟩) (by assumption) ?_
      rotate_left
      · intro w hSw; (try dsimp only at hSw); go_simp; try with_reducible rfl
      simp only [Act.put, List.getElem_toArray, List.getElem_cons_zero, List.getElem_cons_succ, List.setIfInBounds_toArray, List.set_cons_zero, List.set_cons_succ]
      refine wpAnyH_take (i := 7) (v := ?_) rfl (by kernel_rfl) (by kernel_rfl) (by kernel_rfl) (fun _ _ _ h => h) (Or.inl ⟨by rfl, ?_⟩) (by assumption) ?_
      rotate_left
      · intro w hSw; (try dsimp only at hSw); go_simp; try with_reducible rfl
      simp only [Act.put, List.getElem_toArray, List.getElem_cons_zero, List.getElem_cons_succ, List.setIfInBounds_toArray, List.set_cons_zero, List.set_cons_succ]
      refine wpAnyH_take (i := 8) (v := ?_) rfl (by kernel_rfl) (by kernel_rfl) (by kernel_rfl) (fun _ _ _ h => h) (Or.inl ⟨by rfl, ?_⟩) (by assumption) ?_
      rotate_left
      · intro w hSw; (try dsimp only at hSw); go_simp; try with_reducible rfl
      simp only [Act.put, List.getElem_toArray, List.getElem_cons_zero, List.getElem_cons_succ, List.setIfInBounds_toArray, List.set_cons_zero, List.set_cons_succ]
      refine wpAnyH_take (i := 9) (v := ?_) rfl (by kernel_rfl) (by kernel_rfl) (by kernel_rfl) (fun _ _ _ h => h) (Or.inl ⟨by rfl, ?_⟩) (by assumption) ?_
      rotate_left
      · intro w hSw; (try dsimp only at hSw); go_simp; try with_reducible rfl
      simp only [Act.put, List.getElem_toArray, List.getElem_cons_zero, List.getElem_cons_succ, List.setIfInBounds_toArray, List.set_cons_zero, List.set_cons_succ]
      refine wpAnyH_take (i := 10) (v := ?_) rfl (by kernel_rfl) (by kernel_rfl) (by kernel_rfl) (fun _ _ _ h => h) (Or.inl ⟨by rfl, ?_⟩) (by assumption) ?_
      rotate_left
      · intro w hSw; (try dsimp only at hSw); go_simp; try with_reducible rfl
      simp only [Act.put, List.getElem_toArray, List.getElem_cons_zero, List.getElem_cons_succ, List.setIfInBounds_toArray, List.set_cons_zero, List.set_cons_succ]
      refine wpAnyH_take (i := 11) (v := ?_) rfl (by kernel_rfl) (by kernel_rfl) (by kernel_rfl) (fun _ _ _ h => h) (Or.inl ⟨by rfl, ?_⟩) (by assumption) ?_
      rotate_left
      · intro w hSw; (try dsimp only at hSw); go_simp; try with_reducible rfl
      simp only [Act.put, List.getElem_toArray, List.getElem_cons_zero, List.getElem_cons_succ, List.setIfInBounds_toArray, List.set_cons_zero, List.set_cons_succ]
      refine wpAnyH_take (i := 12) (v := ?_) rfl (by kernel_rfl) (by kernel_rfl) (by kernel_rfl) (fun _ _ _ h => h) (Or.inl ⟨by rfl, ?_⟩) (by assumption) ?_
      rotate_left
      · intro w hSw; (try dsimp only at hSw); go_simp; try with_reducible rfl
      simp only [Act.put, List.getElem_toArray, List.getElem_cons_zero, List.getElem_cons_succ, List.setIfInBounds_toArray, List.set_cons_zero, List.set_cons_succ]
      refine wpAnyH_ready (rs := [4, 13]) (by kernel_rfl) (by simp) ?_
      refine (AllReadyH.cons rfl (fun K hK => ?_) (AllReadyH.cons rfl (fun K hK => ?_) AllReadyH.nil))
      · skip
        go_simp
        refine hK.out _ _ (by first | exact hHeld | ((try dsimp only); go_keep)) (fun hHeld => ?_)
        clear hK
        try simp only [Act.put, List.getElem_toArray, List.getElem_cons_zero, List.getElem_cons_succ, List.setIfInBounds_toArray, List.set_cons_zero, List.set_cons_succ]
        refine wpAnyH_ready (rs := [13]) (by kernel_rfl) (by simp) ?_
        refine AllReadyH.cons rfl (fun K hK => ?_) AllReadyH.nil
        go_simp
        refine hK.out _ _ (by first | exact hHeld | ((try dsimp only); go_keep)) (fun hHeld => ?_)
        clear hK
        try simp only [Act.put, List.getElem_toArray, List.getElem_cons_zero, List.getElem_cons_succ, List.setIfInBounds_toArray, List.set_cons_zero, List.set_cons_succ]
        refine wpAnyH_ready (rs := [14]) (by kernel_rfl) (by simp) ?_
        refine AllReadyH.cons rfl (fun K hK => ?_) AllReadyH.nil
        refine step_append_lies _ rfl (.tmp 27) (.tmp 36) 38 rfl Bt 2 i0 (.int .i64 0) 1 8 Tryd.underlying38 hi0 hz0 hz1 hz2 rfl (by decide) (.slice ka1 k kc1) k (KS.map (Value.int .i64)) (by simp [Act.eval]) (HOW _ _) ⟨wr.heap.size + 1, 0, none⟩ 1 1 [.int .i64 VQ] (by simp [Act.eval]) rfl ?_ (by intro u hu; simp at hu; subst hu; rfl) (by decide) (by unfold maxLen; omega) (by omega) (by simp; omega) (wr.heap.size + 1 + 1) (by simp) ?_
        · intro j u hj
          match j, hj with
          | 0, hj => simp at hj; subst hj; simp [Addr.add, go_sem]
        intro g cap w1 hown hgrow hat hlt
        have HN := hide (HP _ _ g cap w1 hown hgrow hat)
        obtain ⟨f0, -⟩ := far10' hgrow (k := wr.heap.size) (by simp <;> omega) (hno _ (by omega))
        obtain ⟨f1, -⟩ := far10' hgrow (k := gv) (by simp <;> omega) (hlow _ (by omega))
        obtain ⟨f2, e2⟩ := far10' hgrow (k := R) (by simp <;> omega) (hlow _ (by omega))
        have kx : w1.cell? ⟨R, 6, none⟩ = some (.slice (some ⟨gv, 0, none⟩) nv cv) := (f2 6).trans (c6 _ _)
        have ky : w1.cell? ⟨wr.heap.size, 1, none⟩ = some (.int .i64 q) := (f0 1).trans (by simp [go_sem])
        have kz : w1.cell? ⟨gv, q, none⟩ = some (.int .i64 VQ) := (f1 q).trans (cq _ _)
        have kx' : ∀ v, (w1.setCell ⟨R, 10, none⟩ v).cell? ⟨R, 6, none⟩ = some (.slice (some ⟨gv, 0, none⟩) nv cv) := fun v => (World.cell?_setCell_other _ _ _ _ (by intro e; injection e with _ e; omega)).trans kx
        have k1 : w1.cell? ⟨R, 10, none⟩ = some (.slice ka1 k kc1) := (f2 10).trans (c10 _ _)
        have z1 : w1.frozen? ⟨R, 10, none⟩ = false := (e2 10).trans (cz _ _)
        clear f0 f1 f2 e2 hown hgrow hat hlt
        refine hK.out _ _ (by first | exact hHeld | ((try dsimp only); go_keep)) (fun hHeld => ?_)
        clear hK
        try simp only [Act.put, List.getElem_toArray, List.getElem_cons_zero, List.getElem_cons_succ, List.setIfInBounds_toArray, List.set_cons_zero, List.set_cons_succ]
        refine wpAnyH_take (i := 15) (v := ?_) rfl (by kernel_rfl) (by kernel_rfl) (by kernel_rfl) (fun _ _ _ h => h) (Or.inl ⟨by rfl, ?_⟩) (by assumption) ?_
        rotate_left
        · intro w hSw; (try dsimp only at hSw); go_simp; try with_reducible rfl
        simp only [Act.put, List.getElem_toArray, List.getElem_cons_zero, List.getElem_cons_succ, List.setIfInBounds_toArray, List.set_cons_zero, List.set_cons_succ]
        refine wpAnyH_take (i := 16) (v := ?_) rfl (by kernel_rfl) (by kernel_rfl) (by kernel_rfl) (fun _ _ _ h => h) (Or.inl ⟨by rfl, ?_⟩) (by assumption) ?_
        rotate_left
        · intro w hSw; (try dsimp only at hSw); go_simp; try with_reducible rfl
        simp only [Act.put, List.getElem_toArray, List.getElem_cons_zero, List.getElem_cons_succ, List.setIfInBounds_toArray, List.set_cons_zero, List.set_cons_succ]
        refine wpAnyH_ready (rs := [17]) (by kernel_rfl) (by simp) ?_
        refine AllReadyH.cons rfl (fun K hK => ?_) AllReadyH.nil
        go_simp
        refine hK.out _ _ (by first | exact hHeld | ((try dsimp only); go_keep)) (fun hHeld => ?_)
        clear hK
        try simp only [Act.put, List.getElem_toArray, List.getElem_cons_zero, List.getElem_cons_succ, List.setIfInBounds_toArray, List.set_cons_zero, List.set_cons_succ]
        refine wpAnyH_done (by kernel_rfl) ?_ _
        go_wp2
        exact ⟨⟨k + 1, some ⟨g, 0, none⟩, cap, by omega, by go_num, hide (by rw [HNX.out]; exact HN.out)⟩, by simp [intOf]; omega⟩
      · skip
        go_simp
        refine hK.out _ _ (by first | exact hHeld | ((try dsimp only); go_keep)) (fun hHeld => ?_)
        clear hK
        try simp only [Act.put, List.getElem_toArray, List.getElem_cons_zero, List.getElem_cons_succ, List.setIfInBounds_toArray, List.set_cons_zero, List.set_cons_succ]
        refine wpAnyH_ready (rs := [4]) (by kernel_rfl) (by simp) ?_
        refine AllReadyH.cons rfl (fun K hK => ?_) AllReadyH.nil
        go_simp
        refine hK.out _ _ (by first | exact hHeld | ((try dsimp only); go_keep)) (fun hHeld => ?_)
        clear hK
        try simp only [Act.put, List.getElem_toArray, List.getElem_cons_zero, List.getElem_cons_succ, List.setIfInBounds_toArray, List.set_cons_zero, List.set_cons_succ]
        refine wpAnyH_ready (rs := [14]) (by kernel_rfl) (by simp) ?_
        refine AllReadyH.cons rfl (fun K hK => ?_) AllReadyH.nil
        refine step_append_lies _ rfl (.tmp 27) (.tmp 36) 38 rfl Bt 2 i0 (.int .i64 0) 1 8 Tryd.underlying38 hi0 hz0 hz1 hz2 rfl (by decide) (.slice ka1 k kc1) k (KS.map (Value.int .i64)) (by simp [Act.eval]) (HOW _ _) ⟨wr.heap.size + 1, 0, none⟩ 1 1 [.int .i64 VQ] (by simp [Act.eval]) rfl ?_ (by intro u hu; simp at hu; subst hu; rfl) (by decide) (by unfold maxLen; omega) (by omega) (by simp; omega) (wr.heap.size + 1 + 1) (by simp) ?_
        · intro j u hj
          match j, hj with
          | 0, hj => simp at hj; subst hj; simp [Addr.add, go_sem]
        intro g cap w1 hown hgrow hat hlt
        have HN := hide (HP _ _ g cap w1 hown hgrow hat)
        obtain ⟨f0, -⟩ := far10' hgrow (k := wr.heap.size) (by simp <;> omega) (hno _ (by omega))
        obtain ⟨f1, -⟩ := far10' hgrow (k := gv) (by simp <;> omega) (hlow _ (by omega))
        obtain ⟨f2, e2⟩ := far10' hgrow (k := R) (by simp <;> omega) (hlow _ (by omega))
        have kx : w1.cell? ⟨R, 6, none⟩ = some (.slice (some ⟨gv, 0, none⟩) nv cv) := (f2 6).trans (c6 _ _)
        have ky : w1.cell? ⟨wr.heap.size, 1, none⟩ = some (.int .i64 q) := (f0 1).trans (by simp [go_sem])
        have kz : w1.cell? ⟨gv, q, none⟩ = some (.int .i64 VQ) := (f1 q).trans (cq _ _)
        have kx' : ∀ v, (w1.setCell ⟨R, 10, none⟩ v).cell? ⟨R, 6, none⟩ = some (.slice (some ⟨gv, 0, none⟩) nv cv) := fun v => (World.cell?_setCell_other _ _ _ _ (by intro e; injection e with _ e; omega)).trans kx
        have k1 : w1.cell? ⟨R, 10, none⟩ = some (.slice ka1 k kc1) := (f2 10).trans (c10 _ _)
        have z1 : w1.frozen? ⟨R, 10, none⟩ = false := (e2 10).trans (cz _ _)
        clear f0 f1 f2 e2 hown hgrow hat hlt
        refine hK.out _ _ (by first | exact hHeld | ((try dsimp only); go_keep)) (fun hHeld => ?_)
        clear hK
        try simp only [Act.put, List.getElem_toArray, List.getElem_cons_zero, List.getElem_cons_succ, List.setIfInBounds_toArray, List.set_cons_zero, List.set_cons_succ]
        refine wpAnyH_take (i := 15) (v := ?_) rfl (by kernel_rfl) (by kernel_rfl) (by kernel_rfl) (fun _ _ _ h => h) (Or.inl ⟨by rfl, ?_⟩) (by assumption) ?_
        rotate_left
        · intro w hSw; (try dsimp only at hSw); go_simp; try with_reducible rfl
        simp only [Act.put, List.getElem_toArray, List.getElem_cons_zero, List.getElem_cons_succ, List.setIfInBounds_toArray, List.set_cons_zero, List.set_cons_succ]
        refine wpAnyH_take (i := 16) (v := ?_) rfl (by kernel_rfl) (by kernel_rfl) (by kernel_rfl) (fun _ _ _ h => h) (Or.inl ⟨by rfl, ?_⟩) (by assumption) ?_
        rotate_left
        · intro w hSw; (try dsimp only at hSw); go_simp; try with_reducible rfl
        simp only [Act.put, List.getElem_toArray, List.getElem_cons_zero, List.getElem_cons_succ, List.setIfInBounds_toArray, List.set_cons_zero, List.set_cons_succ]
        refine wpAnyH_ready (rs := [17]) (by kernel_rfl) (by simp) ?_
        refine AllReadyH.cons rfl (fun K hK => ?_) AllReadyH.nil
        go_simp
        refine hK.out _ _ (by first | exact hHeld | ((try dsimp only); go_keep)) (fun hHeld => ?_)
        clear hK
        try simp only [Act.put, List.getElem_toArray, List.getElem_cons_zero, List.getElem_cons_succ, List.setIfInBounds_toArray, List.set_cons_zero, List.set_cons_succ]
        refine wpAnyH_done (by kernel_rfl) ?_ _
        go_wp2
        exact ⟨⟨k + 1, some ⟨g, 0, none⟩, cap, by omega, by go_num, hide (by rw [HNX.out]; exact HN.out)⟩, by simp [intOf]; omega⟩
    · have hke : k = ts.length := by omega
      subst hke
      have e1 := hinv.out.e1
      rw [List.take_length] at hinv
      have hKl : (ts.map fun t => getN vals t.2).length = ts.length := by simp
      have hKa : ∀ i (h : i < ts.length) (h2 : i < (ts.map fun t => getN vals t.2).length), (ts.map fun t => getN vals t.2)[i] = getN vals ts[i].2 := fun i h h2 => by simp
      generalize (ts.map fun t => getN vals t.2) = KS at *
      have hnl1 : ¬ ts.length < ne := by have := hne.out; omega
      go_wp2
      have HI0 := hinv
      go_loopw [44] (fun i wr => ∃ k : Nat, k ≤ ts.length ∧ i = .int .i64 k ∧ Hid (FInv w R aa na ca gh ch ta nt ct fuel k0 value gv nv cv G n cn b pc Bt to ea ne ce ka1 ts.length kc1 (takeTo vals (ts.take k) vals) hp tr KS wr)) (fun i _ => ts.length - (intOf i).toNat)
      case atStart => exact ⟨0, Nat.zero_le _, rfl, hinv⟩
      case round =>
        clear hinv HI0 hes hks e1 hk hkl
        obtain ⟨k, hk, rfl, hinv⟩ := hrel
        have hes := hinv.out.es
        have hks := hinv.out.kept.size
        by_cases hkl : k < ts.length
        · obtain ⟨b3, o3, rfl, ⟨hb3L, hb3⟩, h31, h32⟩ := hts.out k hkl
          obtain ⟨⟨d0, d1⟩, q0, q1⟩ := hok.out _ (List.getElem_mem hkl)
          have kb3 := hinv.out.kept.block b3 hb3 (by omega) (by omega) (by omega)
          have G1 := (cell_of kb3).trans h31
          have G2 := (cell_of kb3).trans h32
          obtain ⟨_, _, e4, hi4⟩ := ints_owned hinv.out.mem.own
          obtain ⟨e4, -, -⟩ := Value.slice.inj e4
          subst e4
          obtain ⟨b4, o4, rfl, ⟨hb4, hb4'⟩, h4⟩ := hi4 k (by rw [hKl]; exact hkl)
          obtain ⟨D, hD⟩ := Int.eq_ofNat_of_zero_le d0
          have hlen : (takeTo vals (ts.take k) vals).length = nv := by rw [takeTo_len]; exact hnv.out.symm
          have hDn : D < nv := by omega
          have hnx : takeTo vals (ts.take (k + 1)) vals = (takeTo vals (ts.take k) vals).set D (KS[k]'(by rw [hKl]; exact hkl)) := by rw [take_next _ _ hkl, takeTo_snoc, hKa k hkl (by rw [hKl]; exact hkl), hD]; simp [setN]
          rw [hD] at G1
          have HNX := hide hnx
          have hDl : D < (takeTo vals (ts.take k) vals).length := by omega
          have VD0 := hinv.out.mem.mem.vals.2 D hDl
          have VDz := hinv.out.mem.mem.vals.frozen D
          have c6 := hinv.out.box.c6
          have c10 := hinv.out.box.c10
          have hnel : k < ne := by have := hne.out; omega
          have HF := hide (fun x => (hinv.out.put (by omega) hRv (by omega) hB (balloc (Below.refl wr.heap.size wr) x) (i := D) hDl (KS[k]'(by rw [hKl]; exact hkl))).drew)
          clear hnx h31 h32 q0 q1 hD hi4
          generalize ts[k].2 = Q at *
          generalize (KS[k]'(by rw [hKl]; exact hkl)) = VQ at *
          generalize takeTo vals (ts.take k) vals = VV at *
          have VD1 := fun x => ((balloc (Below.refl wr.heap.size wr) x).cell (p := ⟨gv, D, none⟩) (by show gv < _; omega)).trans VD0
          have VZ1 := fun x => ((balloc (Below.refl wr.heap.size wr) x).frozen (p := ⟨gv, D, none⟩) (by show gv < _; omega)).trans VDz
          generalize VV[D] = VD at *
          have n1 : wr.heap.size ≠ R := by omega
          have n2 : wr.heap.size ≠ gv := by omega
          have n3 : R ≠ wr.heap.size := by omega
          have n4 : gv ≠ wr.heap.size := by omega
          have n5 : gv ≠ R := fun e => hRv e.symm
          have n6 : gv ≠ b4 := by omega
          have n7 : wr.heap.size ≠ b4 := by omega
          go_wp2
          go_region_held3 (fun w' => w'.cell? ⟨R, 6, none⟩ = some (.slice (some ⟨gv, 0, none⟩) nv cv) ∧ w'.cell? ⟨wr.heap.size, 0, none⟩ = some (.int .i64 D) ∧ w'.cell? ⟨R, 10, none⟩ = some (.slice (some ⟨b4, o4, none⟩) ts.length kc1) ∧ w'.cell? ⟨b4, o4 + k, none⟩ = some (.int .i64 VQ)) (go_keep) (fail)
          go_wp2
          exact ⟨⟨k + 1, by omega, by go_num, hide (by rw [HNX.out]; exact HF.out _)⟩, by simp [intOf]; omega⟩
        · have hke : k = ts.length := by omega
          subst hke
          have e0 := hinv.out.e0
          have z8 := hinv.out.box.c8
          have z9 := hinv.out.box.c9
          have zz := hinv.out.box.fz
          have hnl1 : ¬ ts.length < ne := by have := hne.out; omega
          go_wp2
          have hm := hinv.out.mem
          rw [List.take_length] at hm
          exact bodyPost_end (v := .tuple #[]) (by simp [results, Tryd.results112, go_sem]) rfl ⟨rfl, ka1, ts.length, kc1, KS, (hinv.out.kept.set (Or.inl rfl) _).set (Or.inl rfl) _, (hinv.out.box.set8 to).set9 0, hm.keep (fun q h1 h2 => (Below.heap_setCell _ _ _ _ (by show q ≠ R; omega)).trans (Below.heap_setCell _ _ _ _ (by show q ≠ R; omega)))⟩
end Go.Proofs.YteifkldaoddpdaaDoor

namespace Go.Proofs.YteifkldaoddpdaaDoor
open Go.RowKit

theorem Kc.below {B B' r gv gh : Nat} {w w1 : World} (h : Kc B r gv gh w w1) (hb : B' ≤ B) (h0 : B' ≤ r) (h1 : B' ≤ gv) (h2 : B' ≤ gh) : Below B' w w1 := ⟨h.os, h.tape, h.output, h.size, fun i a => h.block i (by omega) (by omega) (by omega) (by omega)⟩

set_option maxHeartbeats 1000000 in
theorem end_ret (R : Nat) (aa : Option Addr) (na ca gh ch : Nat) (ta : Option Addr) (nt ct : Nat) (fuel k0 value : Int) (gv nv cv G n cn : Nat) (b pc : Int) (ka : Option Addr) (kn kc : Nat) (xa : Nat) (t1 t2 : Int) (ea oa : Option Addr) (ne ce no co : Nat) (vals hp tr K : List Int) (Bt : Nat) (w : World)
    (hbox : Hid (PBox w R aa na ca gh ch ta nt ct fuel k0 value gv nv cv G n cn b pc ka kn kc)) (hmem : Hid (PMem w Bt gv gh ta nt ct ka kn kc vals hp tr K)) (hnv : Hid (nv = vals.length)) (hxa : xa < nv) (hR : R < Bt) (hgv : gv < Bt) (hRv : R ≠ gv) (hRh : R ≠ gh) (hB : Bt ≤ w.heap.size) :
    Calls Tryd.prog 103 #[.pointer (some ⟨R, 0, none⟩), .agg #[.int .i64 3, .int .i64 xa, .int .i64 t1, .slice ea ne ce, .int .i64 t2, .slice oa no co]] w
      fun e w' => e = .returned (.int .i64 1) ∧ Kc Bt R gv gh w w' ∧ PBox w' R aa na ca gh ch ta nt ct fuel k0 (getN vals xa) gv nv cv G n cn b pc ka kn kc ∧ PMem w' Bt gv gh ta nt ct ka kn kc vals hp tr K := by
  have hax : xa < vals.length := by have := hnv.out; omega
  have VA0 := hmem.out.mem.vals.2 xa hax
  rw [getN_of _ _ hax]
  have ba := fun o => balloc (Below.refl w.heap.size w) o
  have HF := fun x => hide (show Kc Bt R gv gh w (((w.alloc x).setCell ⟨R, 5, none⟩ (.int .i64 vals[xa])).drew) ∧ PBox (((w.alloc x).setCell ⟨R, 5, none⟩ (.int .i64 vals[xa])).drew) R aa na ca gh ch ta nt ct fuel k0 vals[xa] gv nv cv G n cn b pc ka kn kc ∧ PMem (((w.alloc x).setCell ⟨R, 5, none⟩ (.int .i64 vals[xa])).drew) Bt gv gh ta nt ct ka kn kc vals hp tr K from
    ⟨((Kc.of_below ((ba x).mono hB)).set (Or.inl rfl) _).drew, ((hbox.out.keep ((ba x).block R (by omega))).set5 _).keep rfl, hmem.out.keep (fun q h1 h2 => (Below.heap_setCell _ _ _ _ (by show q ≠ R; omega)).trans ((ba x).block q h1))⟩)
  generalize vals[xa] = VA at *
  have c6 := fun x => ((ba x).cell (p := ⟨R, 6, none⟩) (by show R < _; omega)).trans hbox.out.c6
  have c5 := fun x => ((ba x).cell (p := ⟨R, 5, none⟩) (by show R < _; omega)).trans hbox.out.c5
  have cz := fun x => ((ba x).frozen (p := ⟨R, 5, none⟩) (by show R < _; omega)).trans (hbox.out.fz 5)
  have cv1 := fun x => ((ba x).cell (p := ⟨gv, xa, none⟩) (by show gv < _; omega)).trans VA0
  have c6' : ∀ x v, ((w.alloc x).setCell ⟨R, 5, none⟩ v).cell? ⟨R, 6, none⟩ = some (.slice (some ⟨gv, 0, none⟩) nv cv) := fun x v => (World.cell?_setCell_other _ _ _ _ (by intro e; injection e with _ e; omega)).trans (c6 x)
  have n1 : w.heap.size ≠ R := by omega
  have n2 : w.heap.size ≠ gv := by omega
  have n3 : R ≠ w.heap.size := by omega
  have n4 : gv ≠ w.heap.size := by omega
  go_enter Tryd.func103, Tryd.ntmps103
  go_wp2
  go_region_held3 (fun w' => w'.cell? ⟨R, 6, none⟩ = some (.slice (some ⟨gv, 0, none⟩) nv cv) ∧ w'.cell? ⟨w.heap.size, 1, none⟩ = some (.int .i64 xa) ∧ w'.cell? ⟨gv, xa, none⟩ = some (.int .i64 VA)) (go_keep) (fail)
  go_wp2
  go_ret
  exact ⟨rfl, (HF _).out⟩

set_option maxHeartbeats 1000000 in
theorem end_jump (R : Nat) (aa : Option Addr) (na ca gh ch : Nat) (ta : Option Addr) (nt ct : Nat) (fuel k0 value : Int) (gv nv cv G n cn : Nat) (b pc : Int) (ka : Option Addr) (kn kc : Nat) (xa : Int) (t1 t2 : Int) (ea oa : Option Addr) (ne ce no co : Nat) (ts : List (Int × Int)) (vals hp tr K : List Int) (L Bt : Nat) (w : World)
    (hbox : Hid (PBox w R aa na ca gh ch ta nt ct fuel k0 value gv nv cv G n cn b pc ka kn kc)) (hmem : Hid (PMem w Bt gv gh ta nt ct ka kn kc vals hp tr K)) (hts : Hid (TakesAt w L Bt ea ts)) (hne : Hid (ne = ts.length)) (hnl : ts.length ≤ 1048576) (hok : Hid (∀ t ∈ ts, (0 ≤ t.1 ∧ t.1 < nv) ∧ 0 ≤ t.2 ∧ t.2 < nv)) (hnv : Hid (nv = vals.length)) 
    (hR : R < L) (hgv : gv < L) (hgh : gh < L) (hRv : R ≠ gv) (hRh : R ≠ gh) (hLB : L ≤ Bt) (hB : Bt ≤ w.heap.size) :
    Calls Tryd.prog 103 #[.pointer (some ⟨R, 0, none⟩), .agg #[.int .i64 1, .int .i64 xa, .int .i64 t1, .slice ea ne ce, .int .i64 t2, .slice oa no co]] w
      fun e w' => e = .returned (.int .i64 0) ∧ ∃ ka' kn' kc' K', Kc Bt R gv gh w w' ∧ PBox w' R aa na ca gh ch ta nt ct fuel k0 value gv nv cv G n cn t1 0 ka' kn' kc' ∧ PMem w' Bt gv gh ta nt ct ka' kn' kc' (takeTo vals ts vals) hp tr K' := by
  have ba := fun o => balloc (Below.refl w.heap.size w) o
  have HFO := fun x => hide (follow_any R aa na ca gh ch ta nt ct fuel k0 value gv nv cv G n cn b pc ka kn kc t1 ea ne ce ts vals hp tr K L Bt ((w.alloc x).drew) (hide (hbox.out.keep ((ba x).block R (by omega)))) (hide (hmem.out.keep (fun q h1 _ => (ba x).block q h1))) (hide (hts.out.keep ((ba x).drew.mono hB))) hne hnl hok hnv hR hgv hgh hRv hRh hLB (by simp; omega))
  have HKC := fun x => hide (Kc.of_below (r := R) (gv := gv) (gh := gh) ((ba x).drew.mono hB))
  go_enter Tryd.func103, Tryd.ntmps103
  go_wp2
  refine wp_region_held_drew (S := (fun w' => w'.cell? ⟨w.heap.size, 0, none⟩ = some (.int .i64 1))) (by kernel_rfl) (by (try dsimp only); go_keep) (fun hHeld => ?_)
  refine wpAnyH_take (i := 0) (v := ?_) rfl (by kernel_rfl) (by kernel_rfl) (by kernel_rfl) (fun _ _ _ h => h) (Or.inl ⟨by rfl, ?_⟩) (by assumption) ?_
  rotate_left
  · intro w hSw; (try dsimp only at hSw); go_simp; try with_reducible rfl
  simp only [Act.put, List.getElem_toArray, List.getElem_cons_zero, List.setIfInBounds_toArray, List.set_cons_zero, List.set_cons_succ]
  refine wpAnyH_take (i := 1) (v := ?_) rfl (by kernel_rfl) (by kernel_rfl) (by kernel_rfl) (fun _ _ _ h => h) (Or.inl ⟨by rfl, ?_⟩) (by assumption) ?_
  rotate_left
  · intro w hSw; (try dsimp only at hSw); go_simp; try with_reducible rfl
  simp only [Act.put, List.getElem_toArray, List.getElem_cons_zero, List.getElem_cons_succ, List.setIfInBounds_toArray, List.set_cons_zero, List.set_cons_succ]
  refine wpAnyH_take (i := 2) (v := ?_) rfl (by kernel_rfl) (by kernel_rfl) (by kernel_rfl) (fun _ _ _ h => h) (Or.inl ⟨by rfl, ?_⟩) (by assumption) ?_
  rotate_left
  · intro w hSw; (try dsimp only at hSw); go_simp; try with_reducible rfl
  simp only [Act.put, List.getElem_toArray, List.getElem_cons_zero, List.getElem_cons_succ, List.setIfInBounds_toArray, List.set_cons_zero, List.set_cons_succ]
  refine wpAnyH_take (i := 3) (v := ?_) rfl (by kernel_rfl) (by kernel_rfl) (by kernel_rfl) (fun _ _ _ h => h) (Or.inl ⟨by rfl, ?_⟩) (by assumption) ?_
  rotate_left
  · intro w hSw; (try dsimp only at hSw); go_simp; try with_reducible rfl
  simp only [Act.put, List.getElem_toArray, List.getElem_cons_zero, List.getElem_cons_succ, List.setIfInBounds_toArray, List.set_cons_zero, List.set_cons_succ]
  refine wpAnyH_take (i := 4) (v := undef) rfl (by kernel_rfl) (by kernel_rfl) (by kernel_rfl) (fun _ _ _ h => h) (Or.inr ⟨by rfl, rfl⟩) (by assumption) ?_
  simp only [Act.put, List.getElem_toArray, List.getElem_cons_zero, List.getElem_cons_succ, List.setIfInBounds_toArray, List.set_cons_zero, List.set_cons_succ]
  refine wpAnyH_take (i := 5) (v := undef) rfl (by kernel_rfl) (by kernel_rfl) (by kernel_rfl) (fun _ _ _ h => h) (Or.inr ⟨by rfl, rfl⟩) (by assumption) ?_
  simp only [Act.put, List.getElem_toArray, List.getElem_cons_zero, List.getElem_cons_succ, List.setIfInBounds_toArray, List.set_cons_zero, List.set_cons_succ]
  refine wpAnyH_take (i := 6) (v := undef) rfl (by kernel_rfl) (by kernel_rfl) (by kernel_rfl) (fun _ _ _ h => h) (Or.inr ⟨by rfl, rfl⟩) (by assumption) ?_
  simp only [Act.put, List.getElem_toArray, List.getElem_cons_zero, List.getElem_cons_succ, List.setIfInBounds_toArray, List.set_cons_zero, List.set_cons_succ]
  refine wpAnyH_take (i := 7) (v := undef) rfl (by kernel_rfl) (by kernel_rfl) (by kernel_rfl) (fun _ _ _ h => h) (Or.inr ⟨by rfl, rfl⟩) (by assumption) ?_
  simp only [Act.put, List.getElem_toArray, List.getElem_cons_zero, List.getElem_cons_succ, List.setIfInBounds_toArray, List.set_cons_zero, List.set_cons_succ]
  refine wpAnyH_take (i := 8) (v := undef) rfl (by kernel_rfl) (by kernel_rfl) (by kernel_rfl) (fun _ _ _ h => h) (Or.inr ⟨by rfl, rfl⟩) (by assumption) ?_
  simp only [Act.put, List.getElem_toArray, List.getElem_cons_zero, List.getElem_cons_succ, List.setIfInBounds_toArray, List.set_cons_zero, List.set_cons_succ]
  refine wpAnyH_take (i := 9) (v := undef) rfl (by kernel_rfl) (by kernel_rfl) (by kernel_rfl) (fun _ _ _ h => h) (Or.inr ⟨by rfl, rfl⟩) (by assumption) ?_
  simp only [Act.put, List.getElem_toArray, List.getElem_cons_zero, List.getElem_cons_succ, List.setIfInBounds_toArray, List.set_cons_zero, List.set_cons_succ]
  refine wpAnyH_take (i := 10) (v := undef) rfl (by kernel_rfl) (by kernel_rfl) (by kernel_rfl) (fun _ _ _ h => h) (Or.inr ⟨by rfl, rfl⟩) (by assumption) ?_
  simp only [Act.put, List.getElem_toArray, List.getElem_cons_zero, List.getElem_cons_succ, List.setIfInBounds_toArray, List.set_cons_zero, List.set_cons_succ]
  refine wpAnyH_take (i := 11) (v := undef) rfl (by kernel_rfl) (by kernel_rfl) (by kernel_rfl) (fun _ _ _ h => h) (Or.inr ⟨by rfl, rfl⟩) (by assumption) ?_
  simp only [Act.put, List.getElem_toArray, List.getElem_cons_zero, List.getElem_cons_succ, List.setIfInBounds_toArray, List.set_cons_zero, List.set_cons_succ]
  refine wpAnyH_take (i := 12) (v := undef) rfl (by kernel_rfl) (by kernel_rfl) (by kernel_rfl) (fun _ _ _ h => h) (Or.inr ⟨by rfl, rfl⟩) (by assumption) ?_
  simp only [Act.put, List.getElem_toArray, List.getElem_cons_zero, List.getElem_cons_succ, List.setIfInBounds_toArray, List.set_cons_zero, List.set_cons_succ]
  refine wpAnyH_take (i := 13) (v := ?_) rfl (by kernel_rfl) (by kernel_rfl) (by kernel_rfl) (fun _ _ _ h => h) (Or.inl ⟨by rfl, ?_⟩) (by assumption) ?_
  rotate_left
  · intro w hSw; (try dsimp only at hSw); go_simp; try with_reducible rfl
  simp only [Act.put, List.getElem_toArray, List.getElem_cons_zero, List.getElem_cons_succ, List.setIfInBounds_toArray, List.set_cons_zero, List.set_cons_succ]
  refine wpAnyH_ready (rs := [14]) (by kernel_rfl) (by simp) ?_
  refine AllReadyH.cons rfl (fun K hK => ?_) AllReadyH.nil
  go_simp
  refine hK.out _ _ (by first | exact hHeld | ((try dsimp only); go_keep)) (fun hHeld => ?_)
  clear hK
  try simp only [Act.put, List.getElem_toArray, List.getElem_cons_zero, List.getElem_cons_succ, List.setIfInBounds_toArray, List.set_cons_zero, List.set_cons_succ]
  refine wpAnyH_done (by kernel_rfl) ?_ _
  go_wp2_with (go_at_call 112; refine (HFO _).out.mono ?_; rintro e w1 ⟨rfl, ka', kn', kc', K', hkc, hbx, hmm⟩; have H1 := hide ((HKC _).out.trans hkc); have H2 := hide hbx; have H3 := hide hmm; clear hkc hbx hmm)
  go_wp2
  go_ret
  exact ⟨rfl, ka', kn', kc', K', H1.out, H2.out, H3.out⟩

set_option maxHeartbeats 1000000 in
theorem end_else (R : Nat) (aa : Option Addr) (na ca gh ch : Nat) (ta : Option Addr) (nt ct : Nat) (fuel k0 value : Int) (gv nv cv G n cn : Nat) (b pc : Int) (ka : Option Addr) (kn kc : Nat) (xa : Nat) (t1 t2 : Int) (ea oa : Option Addr) (ne ce no co : Nat) (ts : List (Int × Int)) (vals hp tr K : List Int) (L Bt : Nat) (w : World)
    (hbox : Hid (PBox w R aa na ca gh ch ta nt ct fuel k0 value gv nv cv G n cn b pc ka kn kc)) (hmem : Hid (PMem w Bt gv gh ta nt ct ka kn kc vals hp tr K)) (hts : Hid (TakesAt w L Bt oa ts)) (hne : Hid (no = ts.length)) (hnl : ts.length ≤ 1048576) (hok : Hid (∀ t ∈ ts, (0 ≤ t.1 ∧ t.1 < nv) ∧ 0 ≤ t.2 ∧ t.2 < nv)) (hnv : Hid (nv = vals.length)) (hxa : xa < nv) (hz : getN vals (xa : Int) = 0)
    (hR : R < L) (hgv : gv < L) (hgh : gh < L) (hRv : R ≠ gv) (hRh : R ≠ gh) (hLB : L ≤ Bt) (hB : Bt ≤ w.heap.size) :
    Calls Tryd.prog 103 #[.pointer (some ⟨R, 0, none⟩), .agg #[.int .i64 2, .int .i64 xa, .int .i64 t1, .slice ea ne ce, .int .i64 t2, .slice oa no co]] w
      fun e w' => e = .returned (.int .i64 0) ∧ ∃ ka' kn' kc' K', Kc Bt R gv gh w w' ∧ PBox w' R aa na ca gh ch ta nt ct fuel k0 value gv nv cv G n cn t2 0 ka' kn' kc' ∧ PMem w' Bt gv gh ta nt ct ka' kn' kc' (takeTo vals ts vals) hp tr K' := by
  have ba := fun o => balloc (Below.refl w.heap.size w) o
  have hax : xa < vals.length := by have := hnv.out; omega
  have VA0 := hmem.out.mem.vals.2 xa hax
  rw [getN_of _ _ hax] at hz
  rw [hz] at VA0
  have c6 := fun x => ((ba x).cell (p := ⟨R, 6, none⟩) (by show R < _; omega)).trans hbox.out.c6
  have cv1 := fun x => ((ba x).cell (p := ⟨gv, xa, none⟩) (by show gv < _; omega)).trans VA0
  have HFO := fun x => hide (follow_any R aa na ca gh ch ta nt ct fuel k0 value gv nv cv G n cn b pc ka kn kc t2 oa no co ts vals hp tr K L Bt ((w.alloc x).drew) (hide (hbox.out.keep ((ba x).block R (by omega)))) (hide (hmem.out.keep (fun q h1 _ => (ba x).block q h1))) (hide (hts.out.keep ((ba x).drew.mono hB))) hne hnl hok hnv hR hgv hgh hRv hRh hLB (by simp; omega))
  have HKC := fun x => hide (Kc.of_below (r := R) (gv := gv) (gh := gh) ((ba x).drew.mono hB))
  go_enter Tryd.func103, Tryd.ntmps103
  go_wp2
  go_region_held3 (fun w' => w'.cell? ⟨w.heap.size, 0, none⟩ = some (.int .i64 2) ∧ w'.cell? ⟨R, 6, none⟩ = some (.slice (some ⟨gv, 0, none⟩) nv cv) ∧ w'.cell? ⟨w.heap.size, 1, none⟩ = some (.int .i64 xa) ∧ w'.cell? ⟨gv, xa, none⟩ = some (.int .i64 0)) (go_keep) (fail)
  go_wp2_with (go_at_call 112; refine (HFO _).out.mono ?_; rintro e w1 ⟨rfl, ka', kn', kc', K', hkc, hbx, hmm⟩; have H1 := hide ((HKC _).out.trans hkc); have H2 := hide hbx; have H3 := hide hmm; clear hkc hbx hmm)
  go_wp2
  go_ret
  exact ⟨rfl, ka', kn', kc', K', H1.out, H2.out, H3.out⟩

set_option maxHeartbeats 1000000 in
theorem end_then (R : Nat) (aa : Option Addr) (na ca gh ch : Nat) (ta : Option Addr) (nt ct : Nat) (fuel k0 value : Int) (gv nv cv G n cn : Nat) (b pc : Int) (ka : Option Addr) (kn kc : Nat) (xa : Nat) (t1 t2 : Int) (ea oa : Option Addr) (ne ce no co : Nat) (ts : List (Int × Int)) (vals hp tr K : List Int) (L Bt : Nat) (w : World)
    (hbox : Hid (PBox w R aa na ca gh ch ta nt ct fuel k0 value gv nv cv G n cn b pc ka kn kc)) (hmem : Hid (PMem w Bt gv gh ta nt ct ka kn kc vals hp tr K)) (hts : Hid (TakesAt w L Bt ea ts)) (hne : Hid (ne = ts.length)) (hnl : ts.length ≤ 1048576) (hok : Hid (∀ t ∈ ts, (0 ≤ t.1 ∧ t.1 < nv) ∧ 0 ≤ t.2 ∧ t.2 < nv)) (hnv : Hid (nv = vals.length)) (hxa : xa < nv) (hz : getN vals (xa : Int) ≠ 0)
    (hR : R < L) (hgv : gv < L) (hgh : gh < L) (hRv : R ≠ gv) (hRh : R ≠ gh) (hLB : L ≤ Bt) (hB : Bt ≤ w.heap.size) :
    Calls Tryd.prog 103 #[.pointer (some ⟨R, 0, none⟩), .agg #[.int .i64 2, .int .i64 xa, .int .i64 t1, .slice ea ne ce, .int .i64 t2, .slice oa no co]] w
      fun e w' => e = .returned (.int .i64 0) ∧ ∃ ka' kn' kc' K', Kc Bt R gv gh w w' ∧ PBox w' R aa na ca gh ch ta nt ct fuel k0 value gv nv cv G n cn t1 0 ka' kn' kc' ∧ PMem w' Bt gv gh ta nt ct ka' kn' kc' (takeTo vals ts vals) hp tr K' := by
  have ba := fun o => balloc (Below.refl w.heap.size w) o
  have hax : xa < vals.length := by have := hnv.out; omega
  have VA0 := hmem.out.mem.vals.2 xa hax
  rw [getN_of _ _ hax] at hz
  have hzb : (vals[xa] == 0) = false := by simp [hz]
  have c6 := fun x => ((ba x).cell (p := ⟨R, 6, none⟩) (by show R < _; omega)).trans hbox.out.c6
  have cv1 := fun x => ((ba x).cell (p := ⟨gv, xa, none⟩) (by show gv < _; omega)).trans VA0
  generalize vals[xa] = VA at *
  have HFO := fun x => hide (follow_any R aa na ca gh ch ta nt ct fuel k0 value gv nv cv G n cn b pc ka kn kc t1 ea ne ce ts vals hp tr K L Bt ((w.alloc x).drew) (hide (hbox.out.keep ((ba x).block R (by omega)))) (hide (hmem.out.keep (fun q h1 _ => (ba x).block q h1))) (hide (hts.out.keep ((ba x).drew.mono hB))) hne hnl hok hnv hR hgv hgh hRv hRh hLB (by simp; omega))
  have HKC := fun x => hide (Kc.of_below (r := R) (gv := gv) (gh := gh) ((ba x).drew.mono hB))
  go_enter Tryd.func103, Tryd.ntmps103
  go_wp2
  go_region_held3 (fun w' => w'.cell? ⟨w.heap.size, 0, none⟩ = some (.int .i64 2) ∧ w'.cell? ⟨R, 6, none⟩ = some (.slice (some ⟨gv, 0, none⟩) nv cv) ∧ w'.cell? ⟨w.heap.size, 1, none⟩ = some (.int .i64 xa) ∧ w'.cell? ⟨gv, xa, none⟩ = some (.int .i64 VA)) (go_keep) (fail)
  go_wp2_with (go_at_call 112; refine (HFO _).out.mono ?_; rintro e w1 ⟨rfl, ka', kn', kc', K', hkc, hbx, hmm⟩; have H1 := hide ((HKC _).out.trans hkc); have H2 := hide hbx; have H3 := hide hmm; clear hkc hbx hmm)
  go_wp2
  go_ret
  exact ⟨rfl, ka', kn', kc', K', H1.out, H2.out, H3.out⟩
end Go.Proofs.YteifkldaoddpdaaDoor
