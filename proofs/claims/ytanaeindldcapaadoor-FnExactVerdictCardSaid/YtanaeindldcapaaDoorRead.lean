import Derived.Test.YtanaeindldcapaaDoorW5
import Derived.ProofKit
import Derived.Deep.Slices
import Derived.Lib.SmallJoins
namespace Go.Proofs.YtanaeindldcapaaDoor
open Go.RowKit Go.Deep
section
variable {H : Type} {enc : TypeId × Value → H} {P : Program} {w : World} {base : Nat} {spare : Nat → Bool} {held : Bool}
theorem block_of_cell {a : Addr} {v : Value} (h : w.cell? a = some v) : a.block < w.heap.size := by
  unfold World.cell? at h
  split at h
  · rename_i c _ _ hb
    exact (Array.getElem?_eq_some_iff.1 hb).1
  · cases h
theorem read_slice {α : Type} [Inhabited α] {t e : TypeId} {fuel s : Nat} {cs : List Value} {x : DataW H × List MemPlace} (ht : P.underlying t = some (.slice e)) (hs : P.cellsOf e = s) (hs0 : 0 < s) (Q : Nat → Nat → α → Prop)
    (hQ : ∀ b o cs' n d, (∀ j, j < s → w.cell? ⟨b, o + j, none⟩ = cs'[j]?) → cs'.length = s → DataW.trod enc P w base spare held n e cs' = some d → ∃ x, Q b o x)
    (h : DataW.trod enc P w base spare held fuel t cs = some x) :
    ∃ (a : Option Addr) (xs : List α) (c : Nat), cs = [.slice a xs.length c] ∧ xs.length ≤ maxLen ∧ ∀ i (hi : i < xs.length), ∃ b o, a = some ⟨b, o, none⟩ ∧ b < w.heap.size ∧ Q b (o + i * s) xs[i] := by
  rcases open_slice ht h with ⟨rfl, _⟩ | ⟨a, len, cap, m, n, D, Pl, rfl, _, hl, hm, hmm, _, hx⟩
  · exact ⟨none, [], 0, rfl, Nat.zero_le _, fun i hi => absurd hi (by simp)⟩
  rw [hs] at hx
  have hlm : len ≤ m := by rw [hmm]; split <;> omega
  have cellsOf : ∀ i, i < len → ∃ cs', cs'.length = s ∧ (∀ j, j < s → w.cell? ((a.add (i * s)).add j) = cs'[j]?) ∧ DataW.trod enc P w base spare held n e cs' = some (D i, Pl i) := fun i hi => by
    obtain ⟨cs', h1, h2⟩ := hx i (by omega)
    obtain ⟨_, h3, h4⟩ := World.cells?_some h1
    exact ⟨cs', h3, h4, h2⟩
  obtain ⟨b, o, spot⟩ := a
  by_cases hlen : len = 0
  · subst hlen
    exact ⟨some ⟨b, o, spot⟩, [], cap, rfl, Nat.zero_le _, fun i hi => absurd hi (by simp)⟩
  have hspot : spot = none := by
    obtain ⟨cs', h1, h2, _⟩ := cellsOf 0 (by omega)
    have h3 := h2 0 hs0
    rw [List.getElem?_eq_getElem (by omega)] at h3
    simpa [Addr.add] using World.cell?_spot h3
  subst hspot
  obtain ⟨f, hf⟩ := choose_lt (α := α) (n := len) (p := fun i x => b < w.heap.size ∧ Q b (o + i * s) x) (fun i hi => by
    obtain ⟨cs', h1, h2, h3⟩ := cellsOf i hi
    have h4 : ∀ j, j < s → w.cell? ⟨b, o + i * s + j, none⟩ = cs'[j]? := fun j hj => by
      have := h2 j hj
      rw [Addr.add_mid, Addr.add_mid] at this
      exact this
    obtain ⟨x, hx⟩ := hQ b (o + i * s) cs' n _ h4 h1 h3
    have h5 := h4 0 hs0
    rw [List.getElem?_eq_getElem (by omega)] at h5
    exact ⟨x, block_of_cell h5, hx⟩)
  refine ⟨some ⟨b, o, none⟩, (List.range len).map f, cap, by simp, by simp; omega, fun i hi => ?_⟩
  simp only [List.length_map, List.length_range] at hi
  obtain ⟨h1, h2⟩ := hf i hi
  exact ⟨b, o, rfl, h1, by simpa using h2⟩
end
section
variable {H : Type} {enc : TypeId × Value → H} {w : World} {base : Nat} {spare : Nat → Bool} {held : Bool}
theorem take1 {cs : List Value} {k : Nat} {v : Value} (h : (cs.drop k).take 1 = [v]) : cs[k]? = some v := by
  have h1 : ((cs.drop k).take 1)[0]? = some v := by rw [h]; rfl
  rw [List.getElem?_take_of_lt (by omega), List.getElem?_drop] at h1
  simpa using h1
theorem fld_at {P : Program} {fs : Array Field} {xs : List (DataW H × List MemPlace)} {n : Nat} {cs : List Value}
    (hf : ∀ (i : Nat) (f : Field), fs[i]? = some f → DataW.trod enc P w base spare held n f.type ((cs.drop f.offset).take (P.cellsOf f.type)) = xs[i]?) (hlen : xs.length = fs.size) {i : Nat} {f : Field} (hi : fs[i]? = some f) :
    ∃ y, DataW.trod enc P w base spare held n f.type ((cs.drop f.offset).take (P.cellsOf f.type)) = some y := by
  have h1 := hf i f hi
  have h2 : i < xs.length := by rw [hlen]; exact (Array.getElem?_eq_some_iff.1 hi).1
  rw [List.getElem?_eq_getElem h2] at h1
  exact ⟨_, h1⟩
theorem cells_int : Tryd.prog.cellsOf 2 = 1 := by kernel_rfl
theorem int_at {n k : Nat} {cs : List Value} (h : ∃ y, DataW.trod enc Tryd.prog w base spare held n 2 ((cs.drop k).take (Tryd.prog.cellsOf 2)) = some y) : ∃ z, cs[k]? = some (.int .i64 z) := by
  obtain ⟨y, h⟩ := h
  rw [cells_int] at h
  obtain ⟨z, h1, _⟩ := DataW.trod_int Tryd.underlying2 h
  exact ⟨z, take1 h1⟩
theorem read_instr {n : Nat} {cs : List Value} {d : DataW H × List MemPlace} (h : DataW.trod enc Tryd.prog w base spare held n 141 cs = some d) :
    ∃ x : Ins, cs[0]? = some (.int .i64 x.op) ∧ cs[1]? = some (.int .i64 x.dst) ∧ cs[2]? = some (.int .i64 x.a) ∧ cs[3]? = some (.int .i64 x.b) ∧ cs[4]? = some (.int .i64 x.imm) := by
  obtain ⟨xs, m, _, _, _, hlen, hf⟩ := DataW.trod_struct Tryd.underlying141 h
  obtain ⟨z0, h0⟩ := int_at (k := 0) (fld_at hf hlen (i := 0) rfl)
  obtain ⟨z1, h1⟩ := int_at (k := 1) (fld_at hf hlen (i := 1) rfl)
  obtain ⟨z2, h2⟩ := int_at (k := 2) (fld_at hf hlen (i := 2) rfl)
  obtain ⟨z3, h3⟩ := int_at (k := 3) (fld_at hf hlen (i := 3) rfl)
  obtain ⟨z4, h4⟩ := int_at (k := 4) (fld_at hf hlen (i := 4) rfl)
  exact ⟨⟨z0, z1, z2, z3, z4⟩, h0, h1, h2, h3, h4⟩
theorem read_term {n : Nat} {cs : List Value} {d : DataW H × List MemPlace} (h : DataW.trod enc Tryd.prog w base spare held n 58 cs = some d) :
    ∃ x : Ter, cs[0]? = some (.int .i64 x.kind) ∧ cs[1]? = some (.int .i64 x.a) ∧ cs[2]? = some (.int .i64 x.to) ∧ cs[3]? = some (.int .i64 x.els) := by
  obtain ⟨xs, m, _, _, _, hlen, hf⟩ := DataW.trod_struct Tryd.underlying58 h
  obtain ⟨z0, h0⟩ := int_at (k := 0) (fld_at hf hlen (i := 0) rfl)
  obtain ⟨z1, h1⟩ := int_at (k := 1) (fld_at hf hlen (i := 1) rfl)
  obtain ⟨z2, h2⟩ := int_at (k := 2) (fld_at hf hlen (i := 2) rfl)
  obtain ⟨z3, h3⟩ := int_at (k := 3) (fld_at hf hlen (i := 3) rfl)
  exact ⟨⟨z0, z1, z2, z3⟩, h0, h1, h2, h3⟩
theorem read_ints {n : Nat} {cs : List Value} {d : DataW H × List MemPlace} (h : DataW.trod enc Tryd.prog w base spare held n 35 cs = some d) :
    ∃ (a : Option Addr) (xs : List Int) (c : Nat), cs = [.slice a xs.length c] ∧ xs.length ≤ maxLen ∧ IntsAt w 0 w.heap.size a xs := by
  obtain ⟨a, xs, c, h1, h2, h3⟩ := read_slice (α := Int) (s := 1) Tryd.underlying35 cells_int (by decide) (fun b o x => w.cell? ⟨b, o, none⟩ = some (.int .i64 x)) (fun b o cs' n d hc hl hd => by
    obtain ⟨z, hz, _⟩ := DataW.trod_int Tryd.underlying2 hd
    refine ⟨z, ?_⟩
    have := hc 0 (by decide)
    rw [hz] at this
    simpa using this) h
  refine ⟨a, xs, c, h1, h2, fun i hi => ?_⟩
  obtain ⟨b, o, e, hb, hq⟩ := h3 i hi
  exact ⟨b, o, e, ⟨Nat.zero_le _, hb⟩, by simpa using hq⟩
theorem cells_instr : Tryd.prog.cellsOf 141 = 5 := by kernel_rfl
theorem read_instrs {n : Nat} {cs : List Value} {d : DataW H × List MemPlace} (h : DataW.trod enc Tryd.prog w base spare held n 56 cs = some d) :
    ∃ (a : Option Addr) (xs : List Ins) (c : Nat), cs = [.slice a xs.length c] ∧ xs.length ≤ maxLen ∧ InssAt w 0 w.heap.size a xs := by
  haveI : Inhabited Ins := ⟨⟨0, 0, 0, 0, 0⟩⟩
  obtain ⟨a, xs, c, h1, h2, h3⟩ := read_slice (α := Ins) (s := 5) Tryd.underlying56 cells_instr (by decide) (fun b o x => InsAt w b o x) (fun b o cs' n d hc hl hd => by
    obtain ⟨x, g0, g1, g2, g3, g4⟩ := read_instr hd
    exact ⟨x, (hc 0 (by decide)).trans g0, (hc 1 (by decide)).trans g1, (hc 2 (by decide)).trans g2, (hc 3 (by decide)).trans g3, (hc 4 (by decide)).trans g4⟩) h
  refine ⟨a, xs, c, h1, h2, fun i hi => ?_⟩
  obtain ⟨b, o, e, hb, hq⟩ := h3 i hi
  exact ⟨b, o, e, ⟨Nat.zero_le _, hb⟩, hq⟩
theorem cells_ints : Tryd.prog.cellsOf 35 = 1 := by kernel_rfl
theorem cells_phi : Tryd.prog.cellsOf 137 = 2 := by kernel_rfl
theorem read_phis {n : Nat} {cs : List Value} {d : DataW H × List MemPlace} (h : DataW.trod enc Tryd.prog w base spare held n 55 cs = some d) :
    ∃ (a : Option Addr) (xs : List Ph) (c : Nat), cs = [.slice a xs.length c] ∧ xs.length ≤ maxLen ∧ PhsAt w 0 w.heap.size a xs ∧ ∀ p ∈ xs, p.args.length ≤ maxLen := by
  haveI : Inhabited Ph := ⟨⟨0, []⟩⟩
  obtain ⟨a, xs, c, h1, h2, h3⟩ := read_slice (α := Ph) (s := 2) Tryd.underlying55 cells_phi (by decide) (fun b o x => PhAt w 0 w.heap.size b o x ∧ x.args.length ≤ maxLen) (fun b o cs' n d hc hl hd => by
    obtain ⟨ys, m, _, _, _, hlen, hf⟩ := DataW.trod_struct Tryd.underlying137 hd
    obtain ⟨z0, g0⟩ := int_at (k := 0) (fld_at hf hlen (i := 0) rfl)
    obtain ⟨y1, g1⟩ := fld_at hf hlen (i := 1) rfl
    obtain ⟨a', az, c', e1, e2, e3⟩ := read_ints g1
    have e1' : (cs'.drop 1).take (Tryd.prog.cellsOf 35) = [.slice a' az.length c'] := e1
    rw [cells_ints] at e1'
    have e4 := take1 e1'
    exact ⟨⟨z0, az⟩, ⟨a', c', (hc 0 (by decide)).trans g0, (hc 1 (by decide)).trans e4, e3⟩, e2⟩) h
  refine ⟨a, xs, c, h1, h2, fun i hi => ?_, fun p hp => ?_⟩
  · obtain ⟨b, o, e, hb, hq⟩ := h3 i hi
    exact ⟨b, o, e, ⟨Nat.zero_le _, hb⟩, hq.1⟩
  · obtain ⟨i, hi, rfl⟩ := List.getElem_of_mem hp
    obtain ⟨b, o, e, hb, hq⟩ := h3 i hi
    exact hq.2
theorem cells_phis : Tryd.prog.cellsOf 55 = 1 := by kernel_rfl
theorem cells_instrs : Tryd.prog.cellsOf 56 = 1 := by kernel_rfl
theorem cells_term : Tryd.prog.cellsOf 58 = 4 := by kernel_rfl
theorem cells_block : Tryd.prog.cellsOf 60 = 6 := by kernel_rfl
theorem drop_take {cs : List Value} {k m j : Nat} {v : Value} (h : ((cs.drop k).take m)[j]? = some v) (hj : j < m) : cs[k + j]? = some v := by
  rw [List.getElem?_take_of_lt hj, List.getElem?_drop] at h
  exact h
theorem read_blocks {n : Nat} {cs : List Value} {d : DataW H × List MemPlace} (h : DataW.trod enc Tryd.prog w base spare held n 22 cs = some d) :
    ∃ (a : Option Addr) (xs : List Blk) (c : Nat), cs = [.slice a xs.length c] ∧ xs.length ≤ maxLen ∧ BlksAt w 0 w.heap.size a xs ∧ ∀ x ∈ xs, x.phis.length ≤ maxLen ∧ x.instrs.length ≤ maxLen ∧ ∀ p ∈ x.phis, p.args.length ≤ maxLen := by
  haveI : Inhabited Blk := ⟨⟨[], [], ⟨0, 0, 0, 0⟩⟩⟩
  obtain ⟨a, xs, c, h1, h2, h3⟩ := read_slice (α := Blk) (s := 6) Tryd.underlying22 cells_block (by decide) (fun b o x => BlkAt w 0 w.heap.size b o x ∧ (x.phis.length ≤ maxLen ∧ x.instrs.length ≤ maxLen ∧ ∀ p ∈ x.phis, p.args.length ≤ maxLen)) (fun b o cs' n d hc hl hd => by
    obtain ⟨ys, m, _, _, _, hlen, hf⟩ := DataW.trod_struct Tryd.underlying60 hd
    obtain ⟨y0, g0⟩ := fld_at hf hlen (i := 0) rfl
    obtain ⟨y1, g1⟩ := fld_at hf hlen (i := 1) rfl
    obtain ⟨y2, g2⟩ := fld_at hf hlen (i := 2) rfl
    obtain ⟨pa, ps, pc, e1, e2, e3, e3'⟩ := read_phis g0
    obtain ⟨ia, is, ic, f1, f2, f3⟩ := read_instrs g1
    obtain ⟨t, t0, t1, t2, t3⟩ := read_term g2
    have e1' : (cs'.drop 0).take (Tryd.prog.cellsOf 55) = [.slice pa ps.length pc] := e1
    rw [cells_phis] at e1'
    have e4 := take1 e1'
    have f1' : (cs'.drop 1).take (Tryd.prog.cellsOf 56) = [.slice ia is.length ic] := f1
    rw [cells_instrs] at f1'
    have f4 := take1 f1'
    have hd2 : ∀ j v, j < 4 → (((cs'.drop 2).take (Tryd.prog.cellsOf 58)))[j]? = some v → cs'[2 + j]? = some v := fun j v hj hv => by
      rw [cells_term] at hv
      exact drop_take hv hj
    exact ⟨⟨ps, is, t⟩, ⟨pa, pc, ia, ic, (hc 0 (by decide)).trans e4, (hc 1 (by decide)).trans f4, ⟨(hc 2 (by decide)).trans (hd2 0 _ (by decide) t0), (hc 3 (by decide)).trans (hd2 1 _ (by decide) t1), (hc 4 (by decide)).trans (hd2 2 _ (by decide) t2), (hc 5 (by decide)).trans (hd2 3 _ (by decide) t3)⟩, e3, f3⟩, e2, f2, e3'⟩) h
  refine ⟨a, xs, c, h1, h2, fun i hi => ?_, fun p hp => ?_⟩
  · obtain ⟨b, o, e, hb, hq⟩ := h3 i hi
    exact ⟨b, o, e, ⟨Nat.zero_le _, hb⟩, hq.1⟩
  · obtain ⟨i, hi, rfl⟩ := List.getElem_of_mem hp
    obtain ⟨b, o, e, hb, hq⟩ := h3 i hi
    exact hq.2
end
end Go.Proofs.YtanaeindldcapaaDoor
