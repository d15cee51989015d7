import Derived.Test.YteifkldaoddpdaaDoorN5
namespace Go.Proofs.YteifkldaoddpdaaDoor
open Go.RowKit

theorem assert_yes {P : Program} {t : TypeId} {fs : Array Field} (hu : P.underlying t = some (.struct fs)) (xT : TypeId) (v : Value) (w : World) : (Instr.typeAssert (.iface t v) xT t true).run P w = .ok (.tuple #[v, .bool true]) w := by
  simp [Instr.typeAssert, run_underlying hu]
theorem assert_no {P : Program} {t u : TypeId} {fs : Array Field} {z : Value} (hu : P.underlying u = some (.struct fs)) (hz : (P.info? u).map (·.zero) = some (some z)) (hne : t ≠ u) (xT : TypeId) (v : Value) (w : World) : (Instr.typeAssert (.iface t v) xT u true).run P w = .ok (.tuple #[z, .bool false]) w := by
  obtain ⟨j, hj, hz'⟩ := Option.map_eq_some_iff.1 hz
  simp [Instr.typeAssert, run_underlying hu, zeroValue, typeInfo, hj, hz', hne]
theorem Tryd.zeroC : (Tryd.prog.info? 145).map (·.zero) = some (some (.agg #[.int .i64 0, .int .i64 0])) := by kernel_rfl
theorem Tryd.zeroA : (Tryd.prog.info? 150).map (·.zero) = some (some (.agg #[.int .i64 0, .int .i64 0, .int .i64 0, .int .i64 0])) := by kernel_rfl
theorem Tryd.zeroH : (Tryd.prog.info? 147).map (·.zero) = some (some (.agg #[.int .i64 0, .int .i64 0, .int .i64 0, .int .i64 0])) := by kernel_rfl
theorem Tryd.zeroO : (Tryd.prog.info? 149).map (·.zero) = some (some (.agg #[.int .i64 0])) := by kernel_rfl

theorem RunMem.len {w : World} {B gv gh t : Nat} {ta : Option Addr} {nt ct : Nat} {vals hp tr : List Int} (h : RunMem w B gv gh t (.slice ta nt ct) vals hp tr) : nt = tr.length := by
  obtain ⟨_, ⟨h1, h2⟩ | ⟨_, _, _, h1, _⟩⟩ := h.own
  · have := (Value.slice.inj h1).2.1; omega
  · exact (Value.slice.inj h1).2.1
/-- A run's state in w', which came of w. -/
def PSt (w w' : World) (R : Nat) (aa : Option Addr) (na ca gh ch : Nat) (ta : Option Addr) (nt ct : Nat) (fuel k0 value : Int) (gv nv cv G n cn : Nat) (b pc : Int) (ka : Option Addr) (kn kc Bt : Nat) (vals hp tr K : List Int) : Prop :=
  Kc Bt R gv gh w w' ∧ PBox w' R aa na ca gh ch ta nt ct fuel k0 value gv nv cv G n cn b pc ka kn kc ∧ PMem w' Bt gv gh ta nt ct ka kn kc vals hp tr K
section
variable {w W W1 : World} {R : Nat} {aa : Option Addr} {na ca gh ch : Nat} {ta : Option Addr} {nt ct : Nat} {fuel k0 value : Int} {gv nv cv G n cn : Nat} {b pc : Int} {ka : Option Addr} {kn kc Bt : Nat} {vals hp tr K : List Int}
theorem PSt.drew (h : PSt w W R aa na ca gh ch ta nt ct fuel k0 value gv nv cv G n cn b pc ka kn kc Bt vals hp tr K) : PSt w W.drew R aa na ca gh ch ta nt ct fuel k0 value gv nv cv G n cn b pc ka kn kc Bt vals hp tr K :=
  ⟨h.1.drew, h.2.1.keep rfl, h.2.2.keep (fun _ _ _ => rfl)⟩
theorem PSt.next (h : PSt w W R aa na ca gh ch ta nt ct fuel k0 value gv nv cv G n cn b pc ka kn kc Bt vals hp tr K) (hB : Bt ≤ W.heap.size) (hR : R < Bt) (k : Below W.heap.size W W1) : PSt w W1 R aa na ca gh ch ta nt ct fuel k0 value gv nv cv G n cn b pc ka kn kc Bt vals hp tr K :=
  ⟨h.1.trans (Kc.of_below (k.mono hB)), h.2.1.keep (k.block R (by omega)), h.2.2.keep (fun q h1 _ => k.block q h1)⟩
theorem PSt.setV (h : PSt w W R aa na ca gh ch ta nt ct fuel k0 value gv nv cv G n cn b pc ka kn kc Bt vals hp tr K) (hgv : gv < Bt) (hRv : R ≠ gv) {D : Nat} (hD : D < vals.length) (v : Int) : PSt w (W.setCell ⟨gv, D, none⟩ (.int .i64 v)) R aa na ca gh ch ta nt ct fuel k0 value gv nv cv G n cn b pc ka kn kc Bt (vals.set D v) hp tr K :=
  ⟨h.1.set (Or.inr (Or.inl rfl)) _, h.2.1.keep (Below.heap_setCell _ _ _ _ hRv), h.2.2.mem.setV hD v, own_keep h.2.2.own (fun q e => Below.heap_setCell _ _ _ _ (by have := (h.2.2.own.lt q e).1; show q ≠ gv; omega)), h.2.2.tk⟩
theorem PSt.setH (h : PSt w W R aa na ca gh ch ta nt ct fuel k0 value gv nv cv G n cn b pc ka kn kc Bt vals hp tr K) (hgh : gh < Bt) (hRh : R ≠ gh) {D : Nat} (hD : D < hp.length) (v : Int) : PSt w (W.setCell ⟨gh, D, none⟩ (.int .i64 v)) R aa na ca gh ch ta nt ct fuel k0 value gv nv cv G n cn b pc ka kn kc Bt vals (hp.set D v) tr K :=
  ⟨h.1.set (Or.inr (Or.inr (Or.inl rfl))) _, h.2.1.keep (Below.heap_setCell _ _ _ _ hRh), h.2.2.mem.setH hD v, own_keep h.2.2.own (fun q e => Below.heap_setCell _ _ _ _ (by have := (h.2.2.own.lt q e).1; show q ≠ gh; omega)), h.2.2.tk⟩
theorem PSt.push {w1 : World} (h : PSt w W R aa na ca gh ch ta nt ct fuel k0 value gv nv cv G n cn b pc ka kn kc Bt vals hp tr K) (hR : R < Bt) (hgv : gv < Bt) (hgh : gh < Bt) (hRv : R ≠ gv) (hRh : R ≠ gh) (hB : Bt ≤ W.heap.size) {g cap : Nat} {x : Int}
    (ho : w1.ownsRow Bt 2 1 (.slice (some ⟨g, 0, none⟩) (nt + 1) cap) (nt + 1) (tr.map (Value.int .i64) ++ [.int .i64 x])) (hg : W.grownBy w1 (Value.slice ta nt ct).ownBlock) (hat : (Value.slice ta nt ct).ownBlock = some g ∨ W.heap.size ≤ g) :
    PSt w (w1.setCell ⟨R, 2, none⟩ (.slice (some ⟨g, 0, none⟩) (nt + 1) cap)) R aa na ca gh ch (some ⟨g, 0, none⟩) (nt + 1) cap fuel k0 value gv nv cv G n cn b pc ka kn kc Bt vals hp (tr ++ [x]) K := by
  have hgs := hg.size
  have low : ∀ q, q < Bt → some q ≠ (Value.slice ta nt ct).ownBlock := fun q hq e => by have := (h.2.2.mem.own.lt q e.symm).1; omega
  have set : ∀ q, q ≠ R → (w1.setCell ⟨R, 2, none⟩ (.slice (some ⟨g, 0, none⟩) (nt + 1) cap)).heap[q]? = w1.heap[q]? := fun q hq => Below.heap_setCell _ _ _ _ hq
  have hgb := (ho.lt g rfl).1
  have vl := h.2.2.mem.vals.lt
  have hl := h.2.2.mem.heap.lt
  have hnt := h.2.2.mem.own.1
  have kt : ∀ q, (Value.slice ka kn kc).ownBlock = some q → (w1.setCell ⟨R, 2, none⟩ (.slice (some ⟨g, 0, none⟩) (nt + 1) cap)).heap[q]? = W.heap[q]? := fun q e => by
    have hq := h.2.2.own.lt q e
    refine (set q (by omega)).trans (hg.block q hq.2 (fun e2 => ?_))
    rcases h.2.2.tk with f | f
    · rw [f] at e; cases e
    · exact f (e.trans e2)
  refine ⟨(h.1.grown hg hB (fun q e => (h.2.2.mem.own.lt q e).1)).set (Or.inl rfl) _, (h.2.1.keep (hg.block R (by omega) (low R hR))).set2 _ _ _, ⟨h.2.2.mem.vals.keep ((set _ (fun e => hRv e.symm)).trans (hg.block _ vl (low _ hgv))), h.2.2.mem.heap.keep ((set _ (fun e => hRh e.symm)).trans (hg.block _ hl (low _ hgh))), ?_, h.2.2.mem.ne, ?_, ?_⟩, own_keep h.2.2.own kt, ?_⟩
  · have e1 : (tr ++ [x]).length = nt + 1 := by
      have := ho.1
      simp only [List.length_append, List.length_map, List.length_cons, List.length_nil, Nat.mul_one] at this ⊢
      omega
    rw [ints_snoc, e1]
    exact own_keep ho (fun q e => set q (fun e2 => by injection e with e; dsimp only at e; omega))
  · intro e; injection e with e; dsimp only at e; omega
  · intro e; injection e with e; dsimp only at e; omega
  · rcases h.2.2.tk with f | f
    · exact Or.inl f
    · right
      rcases hat with e | e
      · intro e2; apply f; rw [e, e2]; rfl
      · intro e2
        have := (h.2.2.own.lt g e2).2
        omega
end
end Go.Proofs.YteifkldaoddpdaaDoor

namespace Go.Proofs.YteifkldaoddpdaaDoor
open Go.RowKit

set_option maxHeartbeats 4000000 in
set_option maxRecDepth 100000 in
theorem step_const (R : Nat) (aa : Option Addr) (na ca gh ch : Nat) (ta : Option Addr) (nt ct : Nat) (fuel k0 value : Int) (gv nv cv G n cn : Nat) (b pc : Int) (ka : Option Addr) (kn kc : Nat) (D : Nat) (v : Int) (vals hp tr K : List Int) (Bt : Nat) (w : World)
    (hst : Hid (PSt w w R aa na ca gh ch ta nt ct fuel k0 value gv nv cv G n cn b pc ka kn kc Bt vals hp tr K)) (hnv : Hid (nv = vals.length)) (hD : D < nv) (hR : R < Bt) (hgv : gv < Bt) (hgh : gh < Bt) (hRv : R ≠ gv) (hRh : R ≠ gh) (hB : Bt ≤ w.heap.size) :
    Calls Tryd.prog 81 #[.pointer (some ⟨R, 0, none⟩), .iface 145 (.agg #[.int .i64 D, .int .i64 v])] w
      fun e w' => e = .returned (.int .i64 0) ∧ PSt w w' R aa na ca gh ch ta nt ct fuel k0 value gv nv cv G n cn b pc ka kn kc Bt (vals.set D v) hp tr K := by
  have ba := fun o => balloc (Below.refl w.heap.size w) o
  have c6 := fun x => ((ba x).cell (p := ⟨R, 6, none⟩) (by show R < _; omega)).trans hst.out.2.1.c6
  have n1 : w.heap.size ≠ R := by omega
  have n2 : w.heap.size ≠ gv := by omega
  have n3 : R ≠ w.heap.size := by omega
  have n4 : gv ≠ w.heap.size := by omega
  have n5 : gv ≠ R := fun e => hRv e.symm
  have n6 : gh ≠ R := fun e => hRh e.symm
  have n7 : gh ≠ w.heap.size := by omega
  have hvh := hst.out.2.2.mem.ne
  have hhv : gh ≠ gv := fun e => hvh e.symm
  have hax : D < vals.length := by have := hnv.out; omega
  have VA0 := hst.out.2.2.mem.vals.2 D hax
  have VZ0 := hst.out.2.2.mem.vals.frozen D
  have HF := fun x => hide ((((hst.out.next hB hR (ba x)).setV hgv hRv hax v)).drew)
  generalize vals[D] = VD at *
  have cv1 := fun x => ((ba x).cell (p := ⟨gv, D, none⟩) (by show gv < _; omega)).trans VA0
  have cz1 := fun x => ((ba x).frozen (p := ⟨gv, D, none⟩) (by show gv < _; omega)).trans VZ0
  have Y := fun xT v w => assert_yes Tryd.underlying145 xT v w
  go_enter Tryd.func81, Tryd.ntmps81
  go_wp2
  go_region_held3 (fun w' => w'.cell? ⟨R, 6, none⟩ = some (.slice (some ⟨gv, 0, none⟩) nv cv) ∧ w'.cell? ⟨w.heap.size, 0, none⟩ = some (.int .i64 D) ∧ w'.cell? ⟨w.heap.size, 1, none⟩ = some (.int .i64 v)) (go_keep) (fail)
  go_wp2
  go_ret
  exact ⟨rfl, (HF _).out⟩
end Go.Proofs.YteifkldaoddpdaaDoor
