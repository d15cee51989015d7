import Derived.Test.YtopdhphbpabgaaaDoorReadF
import Derived.Test.YtopdhphbpabgaaaDoorM0
namespace Go.Proofs.YtopdhphbpabgaaaDoor
open Go.RowKit Go.Deep

variable {H : Type} {enc : TypeId × Value → H} {w : World} {base : Nat} {spare : Nat → Bool} {held : Bool}
theorem cells_mblock : Tryd.prog.cellsOf 150 = 5 := by kernel_rfl
theorem read_mblocks {n : Nat} {cs : List Value} {d : DataW H × List MemPlace} (h : DataW.trod enc Tryd.prog w base spare held n 48 cs = some d) :
    ∃ (a : Option Addr) (xs : List MBlk) (c : Nat), cs = [.slice a xs.length c] ∧ xs.length ≤ maxLen ∧ MBlksAt w 0 w.heap.size a xs ∧ ∀ x ∈ xs, x.instrs.length ≤ maxLen := by
  haveI : Inhabited MBlk := ⟨⟨[], ⟨0, 0, 0, 0⟩⟩⟩
  obtain ⟨a, xs, c, h1, h2, h3⟩ := read_slice (α := MBlk) (s := 5) Tryd.underlying48 cells_mblock (by decide) (fun b o x => MBlkAt w 0 w.heap.size b o x ∧ x.instrs.length ≤ maxLen) (fun b o cs' n d hc hl hd => by
    obtain ⟨ys, m, _, _, _, hlen, hf⟩ := DataW.trod_struct Tryd.underlying150 hd
    obtain ⟨y1, g1⟩ := fld_at hf hlen (i := 0) rfl
    obtain ⟨y2, g2⟩ := fld_at hf hlen (i := 1) rfl
    obtain ⟨ia, is, ic, f1, f2, f3⟩ := read_instrs g1
    obtain ⟨t, t0, t1, t2, t3⟩ := read_term g2
    have f1' : (cs'.drop 0).take (Tryd.prog.cellsOf 114) = [.slice ia is.length ic] := f1
    rw [cells_instrs] at f1'
    have f4 := take1 f1'
    have hd2 : ∀ j v, j < 4 → (((cs'.drop 1).take (Tryd.prog.cellsOf 115)))[j]? = some v → cs'[1 + j]? = some v := fun j v hj hv => by
      rw [cells_term] at hv
      exact drop_take hv hj
    exact ⟨⟨is, t⟩, ⟨ia, ic, (hc 0 (by decide)).trans f4, ⟨(hc 1 (by decide)).trans (hd2 0 _ (by decide) t0), (hc 2 (by decide)).trans (hd2 1 _ (by decide) t1), (hc 3 (by decide)).trans (hd2 2 _ (by decide) t2), (hc 4 (by decide)).trans (hd2 3 _ (by decide) t3)⟩, f3⟩, f2⟩) h
  refine ⟨a, xs, c, h1, h2, fun i hi => ?_, fun p hp => ?_⟩
  · obtain ⟨b, o, e, hb, hq⟩ := h3 i hi
    exact ⟨b, o, e, ⟨Nat.zero_le _, hb⟩, hq.1⟩
  · obtain ⟨i, hi, rfl⟩ := List.getElem_of_mem hp
    obtain ⟨b, o, e, hb, hq⟩ := h3 i hi
    exact hq.2
end Go.Proofs.YtopdhphbpabgaaaDoor
