import Derived.Test.YtdcdgopblbmgoaaGreatDoorQC
import Derived.Shelf.Bytes.SlSplit
import Derived.Ground.SlbSplitProg
import Derived.Lib.SplitLaws
import Derived.WalkSmall
/-
  splitFields of the program.
-/
namespace Go.Proofs.YtdcdgopblbmgoaaGreatDoor
open Go.RowKit Go.Shelf

shelf_lay SlLaysP.n7 Slp 7 at Tryz as Tryz.laysSP

/-- What bytes.Split asks of a variable of the library. -/
def MaxL (w : World) : Prop := 3 < w.heap.size ∧ ∃ m, w.cell? ⟨3, 0, none⟩ = some (.int .i64 m)
/-- The pieces of a text, in a row of their own at block g. -/
def PiecesAt (w : World) (b g : Nat) (fs : List (List UInt8)) : Prop := g < w.heap.size ∧ ∀ i (h : i < fs.length), ∃ v, w.cell? ⟨g, i, none⟩ = some v ∧ PieceAt w b v fs[i]

theorem cutF_count (s : UInt8) : ∀ (l cur : List UInt8), (cutF s cur l).length = l.count s + 1
  | [], cur => by simp [cutF]
  | c :: r, cur => by
    rw [cutF]
    split
    · rename_i h; subst h; rw [List.length_cons, cutF_count c r, List.count_cons_self]
    · rename_i h; rw [cutF_count s r, List.count_cons_of_ne h]
theorem PieceAt.keep {w w' : World} {b : Nat} {v : Value} {f : List UInt8} (h : PieceAt w b v f) (k : w'.heap[b]? = w.heap[b]?) : PieceAt w' b v f := by
  obtain ⟨o, c, e, h1, h2⟩ := h
  exact ⟨o, c, e, h1, fun j hj => (cell_of k).trans (h2 j hj)⟩
theorem split_any (s : UInt8) (b o n c b2 : Nat) (line : List UInt8) (w : World) (hx : n = line.length) (hnc : n ≤ c) (hc : c ≤ 9223372036854775807) (hn : n ≤ 1000000) (ha : ∀ i (h : i < line.length), w.cell? ⟨b, o + i, none⟩ = some (.int .u8 (line[i].toNat : Int))) (h2 : w.cell? ⟨b2, 0, none⟩ = some (.int .u8 (s.toNat : Int))) (hm : MaxL w) (hb : b < w.heap.size) :
    Calls Tryz.prog 54 #[.slice (some ⟨b, o, none⟩) n c, .slice (some ⟨b2, 0, none⟩) 1 1] w fun e w' => ∃ k, k = (cutS line s).length ∧ e = .returned (.slice (some ⟨w.heap.size, 0, none⟩) k k) ∧ Below w.heap.size w w' ∧ PiecesAt w' b w.heap.size (cutS line s) := by
  obtain ⟨_, m, hm⟩ := hm
  have hq : ∀ (l : List UInt8), ∀ x ∈ l.map (fun x => (x.toNat : Int)), 0 ≤ x ∧ x < 256 := fun l x hx => by
    obtain ⟨y, -, rfl⟩ := List.mem_map.1 hx
    have := y.toNat_lt
    omega
  have h := Any.bytes_Split Tryz.laysSP ⟨b, o, none⟩ ⟨b2, 0, none⟩ n c 1 1 (line.map fun x => (x.toNat : Int)) [(s.toNat : Int)] m w (by simp [hx]) rfl (hq line) (hq [s]) (fun i hi => by
    have hi2 : i < line.length := by omega
    rw [Addr.add_lit, ha i hi2]; simp [List.getD, hi2]) (fun i hi => by
    have : i = 0 := by omega
    subst this; exact h2) hnc (by omega) (by decide) hc (Nat.le_refl _) hm
  have e1 : Lib.bytesOf [(s.toNat : Int)] = [s] := bytesOf_nat [s]
  rw [bytesOf_nat, e1] at h
  obtain ⟨q1, q2⟩ := split_pieces w b s (Lib.count line [s]) o c line rfl ⟨by omega, by omega⟩ ha
  have hcl : Lib.count line [s] + 1 = (cutS line s).length := by
    unfold cutS; rw [cutF_count, Lib.count_one]
  refine h.mono ?_
  rintro e w' ⟨rfl, q, rfl⟩
  refine ⟨_, hcl, rfl, ?_, ?_, fun i hi => ?_⟩
  · exact below_drewN (balloc (Below.refl _ _) _) q
  · show w.heap.size < (w.heap.push _).size
    simp
  · have hi2 : i < (Lib.splitV [s] 0 (Lib.count line [s]) ⟨b, o, none⟩ c line).length := by rw [q1]; exact hi
    refine ⟨_, ?_, (q2 i hi hi2).keep (Below.heap_alloc w _ b hb)⟩
    show (w.alloc _).cell? ⟨w.heap.size, i, none⟩ = _
    rw [cell_of_row _ w.heap.size i _ _ _ (heap_alloc_new w _)]
    simp [hi2]
end Go.Proofs.YtdcdgopblbmgoaaGreatDoor

/-
  splitFields of the program.
-/
namespace Go.Proofs.YtdcdgopblbmgoaaGreatDoor
open Go.RowKit Go.Shelf

/-- What splitFields answers. -/
def SplitAns (H : Nat) (w' : World) (b : Nat) (fs : List (List UInt8)) (e : Ending) : Prop := (fs.all fieldOk = true → ∃ g k, H ≤ g ∧ k = fs.length ∧ e = .returned (.tuple #[.slice (some ⟨g, 0, none⟩) k k, .bool true]) ∧ PiecesAt w' b g fs) ∧ (fs.all fieldOk = false → e = .returned (.tuple #[.slice none 0 0, .bool false]))
theorem splitAns_no {H : Nat} {w' : World} {b : Nat} {fs : List (List UInt8)} (h : fs.all fieldOk = false) : SplitAns H w' b fs (.returned (.tuple #[.slice none 0 0, .bool false])) := ⟨fun q => absurd (h.symm.trans q) (by decide), fun _ => rfl⟩
theorem splitAns_yes {H : Nat} {w' : World} {b g k : Nat} {fs : List (List UInt8)} (h : fs.all fieldOk = true) (hg : H ≤ g) (hk : k = fs.length) (hp : PiecesAt w' b g fs) : SplitAns H w' b fs (.returned (.tuple #[.slice (some ⟨g, 0, none⟩) k k, .bool true])) := ⟨fun _ => ⟨g, k, hg, hk, rfl, hp⟩, fun q => absurd (h.symm.trans q) (by decide)⟩

theorem alloc_size (w : World) (o : Obj) : (w.alloc o).heap.size = w.heap.size + 1 := Array.size_push ..

set_option maxHeartbeats 1000000 in
set_option maxRecDepth 100000 in
theorem splitFields_any (b o n c : Nat) (line : List UInt8) (w : World) (hx : Hid (n = line.length)) (hnc : n ≤ c) (hc : c ≤ 9223372036854775807) (hn : n ≤ 1000000) (ha : Hid (∀ i (h : i < line.length), w.cell? ⟨b, o + i, none⟩ = some (.int .u8 (line[i].toNat : Int)))) (hm : Hid (MaxL w)) (hb : b < w.heap.size) :
    Calls Tryz.prog 55 #[.slice (some ⟨b, o, none⟩) n c] w fun e w' => Below w.heap.size w w' ∧ SplitAns w.heap.size w' b (cutS line 32) e := by
  have HSP : Hid (∀ (w1 : World) (b2 : Nat), Below w.heap.size w w1 → w1.cell? ⟨b2, 0, none⟩ = some (.int .u8 ((32 : UInt8).toNat : Int)) → Calls Tryz.prog 54 #[.slice (some ⟨b, o, none⟩) n c, .slice (some ⟨b2, 0, none⟩) 1 1] w1 fun e w' => ∃ k, k = (cutS line 32).length ∧ e = .returned (.slice (some ⟨w1.heap.size, 0, none⟩) k k) ∧ Below w1.heap.size w1 w' ∧ PiecesAt w' b w1.heap.size (cutS line 32)) := hide (fun w1 b2 hb1 h2 =>
    split_any 32 b o n c b2 line w1 hx.out hnc hc hn (fun i h => (hb1.cell (p := ⟨b, o + i, none⟩) hb).trans (ha.out i h)) h2 ⟨Nat.lt_of_lt_of_le hm.out.1 hb1.size, by
      obtain ⟨m, h⟩ := hm.out.2
      exact ⟨m, (hb1.cell (p := ⟨3, 0, none⟩) hm.out.1).trans h⟩⟩ (Nat.lt_of_lt_of_le hb hb1.size))
  have HFL : Hid ((cutS line 32).length ≤ 1000001) := hide (by have := cutF_len 32 line []; have := hx.out; unfold cutS; omega)
  have HFS : Hid (∀ f ∈ cutS line 32, f.length ≤ 1000000) := hide (fun f hf => by have := cutF_sum 32 line [] f hf; simp only [List.length_nil] at this; have := hx.out; omega)
  generalize cutS line 32 = fs at *
  go_enter Tryz.func55, Tryz.ntmps55
  go_wp2_with (go_at_call 54; refine (HSP.out _ _ (balloc (Below.refl _ _) _) (by rw [cell_of_row _ w.heap.size 0 _ _ _ (heap_alloc_new w _)]; rfl)).mono ?_; rintro e w2 ⟨K, hK, rfl, hb2, hp2⟩; have HK := hide hK; have HP := hide hp2; have HB2 := hide ((balloc (Below.refl w.heap.size w) _).trans (hb2.mono (balloc (Below.refl _ _) _).size)); clear hK hp2 hb2)
  have hgs : (w.alloc (Obj.cells #[Value.int IntKind.u8 32] 5)).heap.size = w.heap.size + 1 := alloc_size w _
  rw [hgs] at HP
  clear hgs
  have hg : w.heap.size ≤ w.heap.size + 1 := Nat.le_succ _
  have hKn : K ≤ 1000001 := by have := HK.out; have := HFL.out; omega
  have hw2 := HB2.out.size
  clear HSP
  generalize w.heap.size + 1 = g at *
  go_loopw [12] (fun i wr => ∃ k : Nat, k ≤ K ∧ i = .int .i64 k ∧ Hid (Below w2.heap.size w2 wr) ∧ Hid ((fs.take k).all fieldOk = true)) (fun i _ => K - (intOf i).toNat)
  case atStart => exact ⟨0, Nat.zero_le _, rfl, hide (Below.refl _ _), hide rfl⟩
  case round =>
    obtain ⟨k, hk, rfl, HB, HA⟩ := hrel
    have HBw : Hid (Below w.heap.size w wr) := hide (HB2.out.trans (HB.out.mono hw2))
    by_cases hlt : k < K
    · have hkf : k < fs.length := by have := HK.out; omega
      obtain ⟨v, hv, o2, c2, rfl, hl2, hcc⟩ := HP.out.2 k hkf
      have hc1 : wr.cell? ⟨g, k, none⟩ = some (.slice (some ⟨b, o2, none⟩) fs[k].length c2) := (HB.out.cell (p := ⟨g, k, none⟩) HP.out.1).trans hv
      have HFk := HFS.out fs[k] (List.getElem_mem hkf)
      have HNO : Hid (fieldOk fs[k] = false → fs.all fieldOk = false) := hide (fun h => by
        rw [List.all_eq_false]
        exact ⟨fs[k], List.getElem_mem hkf, by rw [h]; simp⟩)
      have HTk : Hid ((fs.take (k + 1)).all fieldOk = ((fs.take k).all fieldOk && fieldOk fs[k])) := hide (by rw [List.take_succ_eq_append_getElem hkf, List.all_append]; simp)
      have HCO := hide (containsOutside_any b o2 fs[k].length c2 fs[k] wr (hide rfl) HFk (hide (fun j h => (HB.out.cell (p := ⟨b, o2 + j, none⟩) (Nat.lt_of_lt_of_le hb hw2)).trans (hcc j h))) (Nat.lt_of_lt_of_le hb HBw.out.size))
      clear hv hcc
      generalize fs[k] = f at *
      by_cases hf0 : f.length = 0
      · have HE := hide (HNO.out (by rw [fieldOk_eq, hf0]; rfl))
        rw [hf0] at hc1
        go_wp2
        refine bodyPost_ret (v := .tuple #[.slice none 0 0, .bool false]) (by simp [results, Tryz.results55, go_sem]) rfl ⟨HBw.out, splitAns_no HE.out⟩
      · have hfp : 0 < f.length := by omega
        cases hq : f.all chOk with
        | false =>
          have HE := hide (HNO.out (by rw [fieldOk_eq, hq, Bool.and_false]))
          go_wp2_with (go_at_call 73; refine HCO.out.mono ?_; rintro e w3 ⟨rfl, hb3⟩; rw [hq]; have HB3 := hide (HBw.out.trans (hb3.mono HBw.out.size)); clear hb3)
          refine bodyPost_ret (v := .tuple #[.slice none 0 0, .bool false]) (by simp [results, Tryz.results55, go_sem]) rfl ⟨HB3.out, splitAns_no HE.out⟩
        | true =>
          have HA2 : Hid ((fs.take (k + 1)).all fieldOk = true) := hide (by rw [HTk.out, HA.out, fieldOk_eq, hq, decide_eq_true hfp]; rfl)
          go_wp2_with (go_at_call 73; refine HCO.out.mono ?_; rintro e w3 ⟨rfl, hb3⟩; rw [hq]; have HB3 := hide (HB.out.trans (hb3.mono HB.out.size)); clear hb3)
          exact ⟨⟨k + 1, by omega, by go_num, HB3, HA2⟩, by simp [intOf]; omega⟩
    · have HE : Hid (fs.all fieldOk = true) := hide (by have := HA.out; rwa [List.take_of_length_le (by have := HK.out; omega)] at this)
      have HPW : Hid (PiecesAt wr b g fs) := hide ⟨Nat.lt_of_lt_of_le HP.out.1 HB.out.size, fun i h => by
        obtain ⟨v, hv, hp⟩ := HP.out.2 i h
        exact ⟨v, (HB.out.cell (p := ⟨g, i, none⟩) HP.out.1).trans hv, hp.keep (HB.out.block b (Nat.lt_of_lt_of_le hb hw2))⟩⟩
      go_wp2
      refine bodyPost_ret (v := .tuple #[.slice (some ⟨g, 0, none⟩) K K, .bool true]) (by simp [results, Tryz.results55, go_sem]) rfl ⟨HBw.out, splitAns_yes HE.out hg HK.out HPW.out⟩
end Go.Proofs.YtdcdgopblbmgoaaGreatDoor
