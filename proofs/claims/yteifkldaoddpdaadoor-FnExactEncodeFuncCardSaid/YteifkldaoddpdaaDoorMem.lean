import Derived.WalkKit
import Derived.Test.YteifkldaoddpdaaDoorChecked
import Derived.OwnWalk
import Derived.Lib.ItoaMem
import Derived.Lib.UnsafeStr
import Derived.Deep.RegionHeld3
/-
  How a function lies in memory: pure data and the cells that hold it. Imports nothing of the program.
-/
namespace Go.Proofs.YteifkldaoddpdaaDoor
open Go.RowKit

structure Ins where
  op : Int
  dst : Int
  a : Int
  b : Int
  imm : Int
structure Ter where
  kind : Int
  a : Int
  to : Int
  els : Int
structure Ph where
  dst : Int
  args : List Int
structure Blk where
  phis : List Ph
  instrs : List Ins
  term : Ter
structure Fn where
  values : Int
  blocks : List Blk

/-- The values that the cells of an instruction hold. -/
def Ins.cells (x : Ins) : List Value := [.int .i64 x.op, .int .i64 x.dst, .int .i64 x.a, .int .i64 x.b, .int .i64 x.imm]
def Ter.cells (x : Ter) : List Value := [.int .i64 x.kind, .int .i64 x.a, .int .i64 x.to, .int .i64 x.els]

/-- A slice of numbers: where it has an element it has a block, below B, and the cells hold the numbers. -/
def IntsAt (w : World) (L B : Nat) (a : Option Addr) (xs : List Int) : Prop :=
  ∀ i (h : i < xs.length), ∃ b o, a = some ⟨b, o, none⟩ ∧ (L ≤ b ∧ b < B) ∧ w.cell? ⟨b, o + i, none⟩ = some (.int .i64 xs[i])

def InsAt (w : World) (b o : Nat) (x : Ins) : Prop :=
  w.cell? ⟨b, o, none⟩ = some (.int .i64 x.op) ∧ w.cell? ⟨b, o + 1, none⟩ = some (.int .i64 x.dst) ∧ w.cell? ⟨b, o + 2, none⟩ = some (.int .i64 x.a) ∧
  w.cell? ⟨b, o + 3, none⟩ = some (.int .i64 x.b) ∧ w.cell? ⟨b, o + 4, none⟩ = some (.int .i64 x.imm)

def InssAt (w : World) (L B : Nat) (a : Option Addr) (xs : List Ins) : Prop :=
  ∀ i (h : i < xs.length), ∃ b o, a = some ⟨b, o, none⟩ ∧ (L ≤ b ∧ b < B) ∧ InsAt w b (o + i * 5) xs[i]

def TerAt (w : World) (b o : Nat) (x : Ter) : Prop :=
  w.cell? ⟨b, o, none⟩ = some (.int .i64 x.kind) ∧ w.cell? ⟨b, o + 1, none⟩ = some (.int .i64 x.a) ∧ w.cell? ⟨b, o + 2, none⟩ = some (.int .i64 x.to) ∧
  w.cell? ⟨b, o + 3, none⟩ = some (.int .i64 x.els)

def PhAt (w : World) (L B b o : Nat) (x : Ph) : Prop :=
  ∃ a c, w.cell? ⟨b, o, none⟩ = some (.int .i64 x.dst) ∧ w.cell? ⟨b, o + 1, none⟩ = some (.slice a x.args.length c) ∧ IntsAt w L B a x.args

def PhsAt (w : World) (L B : Nat) (a : Option Addr) (xs : List Ph) : Prop :=
  ∀ i (h : i < xs.length), ∃ b o, a = some ⟨b, o, none⟩ ∧ (L ≤ b ∧ b < B) ∧ PhAt w L B b (o + i * 2) xs[i]

def BlkAt (w : World) (L B b o : Nat) (x : Blk) : Prop :=
  ∃ pa pc ia ic, w.cell? ⟨b, o, none⟩ = some (.slice pa x.phis.length pc) ∧ w.cell? ⟨b, o + 1, none⟩ = some (.slice ia x.instrs.length ic) ∧
    TerAt w b (o + 2) x.term ∧ PhsAt w L B pa x.phis ∧ InssAt w L B ia x.instrs

def BlksAt (w : World) (L B : Nat) (a : Option Addr) (xs : List Blk) : Prop :=
  ∀ i (h : i < xs.length), ∃ b o, a = some ⟨b, o, none⟩ ∧ (L ≤ b ∧ b < B) ∧ BlkAt w L B b (o + i * 6) xs[i]

theorem hide {p : Prop} (h : p) : Hid p := h
theorem unhide {p : Prop} (h : Hid p) : p := h
theorem bnext {w w1 w2 : World} (h : Below w.heap.size w w1) (k : Below w1.heap.size w1 w2) : Below w.heap.size w w2 := h.trans (k.mono h.size)
theorem bcell {W w1 : World} (hb : Below W.heap.size W w1) : (∀ b o, b < W.heap.size → w1.cell? ⟨b, o, none⟩ = W.cell? ⟨b, o, none⟩) ∧ (∀ b o, b < W.heap.size → w1.frozen? ⟨b, o, none⟩ = W.frozen? ⟨b, o, none⟩) :=
  ⟨fun b o h => hb.cell (p := ⟨b, o, none⟩) h, fun b o h => hb.frozen (p := ⟨b, o, none⟩) h⟩
theorem balloc {w w1 : World} (h : Below w.heap.size w w1) (o : Obj) : Below w.heap.size w (w1.alloc o) := h.alloc h.size o

/-- From block L on nothing is frozen. -/
def Thaw (L : Nat) (w : World) : Prop := ∀ b o, L ≤ b → w.frozen? ⟨b, o, none⟩ = false
theorem Thaw.start (w : World) : Thaw w.heap.size w := fun b o h => by
  unfold World.frozen?
  rw [Array.getElem?_eq_none (by exact h)]
theorem Thaw.alloc {L : Nat} {w : World} (h : Thaw L w) (c : Array Value) (t : TypeId) : Thaw L (w.alloc (.cells c t)) := fun b o hb => by
  by_cases e : b < w.heap.size
  · rw [World.frozen?_of_block (w := w) (a := ⟨b, o, none⟩) (Below.heap_alloc _ _ _ e)]; exact h b o hb
  · unfold World.frozen?
    show (match (w.heap.push (.cells c t))[b]? with | some (.cells _ _ (lo, hi)) => decide (lo ≤ o) && decide (o < hi) | _ => false) = false
    rw [Array.getElem?_push]
    split
    · rename_i _ _ _ hh
      split at hh
      · cases hh; simp
      · rw [Array.getElem?_eq_none (by omega)] at hh; cases hh
    · rfl
theorem Thaw.setCell {L : Nat} {w : World} (h : Thaw L w) (p : Addr) (v : Value) : Thaw L (w.setCell p v) := fun b o hb => by rw [World.frozen?_setCell]; exact h b o hb
theorem Thaw.drew {L : Nat} {w : World} (h : Thaw L w) : Thaw L w.drew := h
theorem Thaw.trans {L : Nat} {w w1 : World} (h : Thaw L w) (k : Below w.heap.size w w1) (t : Thaw w.heap.size w1) : Thaw L w1 := fun b o hb => by
  by_cases e : b < w.heap.size
  · rw [k.frozen (p := ⟨b, o, none⟩) e]; exact h b o hb
  · exact t b o (by omega)
theorem Thaw.mono {L L' : Nat} {w : World} (h : Thaw L w) (l : L ≤ L') : Thaw L' w := fun b o hb => h b o (by omega)

variable {w w' : World} {L B : Nat}

/-- The blocks from L to below B are as they were. -/
def Same (L B : Nat) (w w' : World) : Prop := ∀ k, L ≤ k → k < B → w'.heap[k]? = w.heap[k]?
theorem Same.of_below (k : Below B w w') : Same L B w w' := fun i _ h => k.block i h
theorem Same.mono {L' B' : Nat} (h : Same L B w w') (l : L ≤ L') (k : B' ≤ B) : Same L' B' w w' := fun i hi hj => h i (by omega) (by omega)
theorem Same.trans {w2 : World} (h : Same L B w w') (k : Same L B w' w2) : Same L B w w2 := fun i hi hj => (k i hi hj).trans (h i hi hj)
theorem cell_of {b o : Nat} (h : w'.heap[b]? = w.heap[b]?) : w'.cell? ⟨b, o, none⟩ = w.cell? ⟨b, o, none⟩ := World.cell?_of_block (w := w) h

theorem IntsAt.keepS {a : Option Addr} {xs : List Int} (h : IntsAt w L B a xs) (k : Same L B w w') : IntsAt w' L B a xs := fun i hi => by
  obtain ⟨b, o, e, hb, hc⟩ := h i hi
  exact ⟨b, o, e, hb, by rw [cell_of (k b hb.1 hb.2)]; exact hc⟩
theorem InsAt.keepS {b o : Nat} {x : Ins} (h : InsAt w b o x) (k : w'.heap[b]? = w.heap[b]?) : InsAt w' b o x := by
  obtain ⟨h0, h1, h2, h3, h4⟩ := h
  exact ⟨(cell_of k).trans h0, (cell_of k).trans h1, (cell_of k).trans h2, (cell_of k).trans h3, (cell_of k).trans h4⟩
theorem TerAt.keepS {b o : Nat} {x : Ter} (h : TerAt w b o x) (k : w'.heap[b]? = w.heap[b]?) : TerAt w' b o x := by
  obtain ⟨h0, h1, h2, h3⟩ := h
  exact ⟨(cell_of k).trans h0, (cell_of k).trans h1, (cell_of k).trans h2, (cell_of k).trans h3⟩
theorem InssAt.keepS {a : Option Addr} {xs : List Ins} (h : InssAt w L B a xs) (k : Same L B w w') : InssAt w' L B a xs := fun i hi => by
  obtain ⟨b, o, e, hb, hc⟩ := h i hi
  exact ⟨b, o, e, hb, hc.keepS (k b hb.1 hb.2)⟩
theorem PhAt.keepS {b o : Nat} {x : Ph} (h : PhAt w L B b o x) (k : Same L B w w') (e : w'.heap[b]? = w.heap[b]?) : PhAt w' L B b o x := by
  obtain ⟨a, c, h0, h1, h2⟩ := h
  exact ⟨a, c, (cell_of e).trans h0, (cell_of e).trans h1, h2.keepS k⟩
theorem PhsAt.keepS {a : Option Addr} {xs : List Ph} (h : PhsAt w L B a xs) (k : Same L B w w') : PhsAt w' L B a xs := fun i hi => by
  obtain ⟨b, o, e, hb, hc⟩ := h i hi
  exact ⟨b, o, e, hb, hc.keepS k (k b hb.1 hb.2)⟩
theorem BlkAt.keepS {b o : Nat} {x : Blk} (h : BlkAt w L B b o x) (k : Same L B w w') (e : w'.heap[b]? = w.heap[b]?) : BlkAt w' L B b o x := by
  obtain ⟨pa, pc, ia, ic, h0, h1, h2, h3, h4⟩ := h
  exact ⟨pa, pc, ia, ic, (cell_of e).trans h0, (cell_of e).trans h1, h2.keepS e, h3.keepS k, h4.keepS k⟩
theorem BlksAt.keepS {a : Option Addr} {xs : List Blk} (h : BlksAt w L B a xs) (k : Same L B w w') : BlksAt w' L B a xs := fun i hi => by
  obtain ⟨b, o, e, hb, hc⟩ := h i hi
  exact ⟨b, o, e, hb, hc.keepS k (k b hb.1 hb.2)⟩

theorem IntsAt.keep {a : Option Addr} {xs : List Int} (h : IntsAt w L B a xs) (k : Below B w w') : IntsAt w' L B a xs := h.keepS (Same.of_below k)
theorem InsAt.keep {b o : Nat} {x : Ins} (h : InsAt w b o x) (k : Below B w w') (hb : b < B) : InsAt w' b o x := h.keepS (k.block b hb)
theorem TerAt.keep {b o : Nat} {x : Ter} (h : TerAt w b o x) (k : Below B w w') (hb : b < B) : TerAt w' b o x := h.keepS (k.block b hb)
theorem InssAt.keep {a : Option Addr} {xs : List Ins} (h : InssAt w L B a xs) (k : Below B w w') : InssAt w' L B a xs := h.keepS (Same.of_below k)
theorem PhAt.keep {b o : Nat} {x : Ph} (h : PhAt w L B b o x) (k : Below B w w') (hb : b < B) : PhAt w' L B b o x := h.keepS (Same.of_below k) (k.block b hb)
theorem PhsAt.keep {a : Option Addr} {xs : List Ph} (h : PhsAt w L B a xs) (k : Below B w w') : PhsAt w' L B a xs := h.keepS (Same.of_below k)
theorem BlkAt.keep {b o : Nat} {x : Blk} (h : BlkAt w L B b o x) (k : Below B w w') (hb : b < B) : BlkAt w' L B b o x := h.keepS (Same.of_below k) (k.block b hb)
theorem BlksAt.keep {a : Option Addr} {xs : List Blk} (h : BlksAt w L B a xs) (k : Below B w w') : BlksAt w' L B a xs := h.keepS (Same.of_below k)

/-- A greater bound. -/
theorem IntsAt.mono {L' B' : Nat} {a : Option Addr} {xs : List Int} (h : IntsAt w L B a xs) (l : L' ≤ L) (k : B ≤ B') : IntsAt w L' B' a xs := fun i hi => by
  obtain ⟨b, o, e, hb, hc⟩ := h i hi
  exact ⟨b, o, e, by omega, hc⟩
theorem InssAt.mono {L' B' : Nat} {a : Option Addr} {xs : List Ins} (h : InssAt w L B a xs) (l : L' ≤ L) (k : B ≤ B') : InssAt w L' B' a xs := fun i hi => by
  obtain ⟨b, o, e, hb, hc⟩ := h i hi
  exact ⟨b, o, e, by omega, hc⟩
theorem PhAt.mono {L' B' : Nat} {b o : Nat} {x : Ph} (h : PhAt w L B b o x) (l : L' ≤ L) (k : B ≤ B') : PhAt w L' B' b o x := by
  obtain ⟨a, c, h0, h1, h2⟩ := h
  exact ⟨a, c, h0, h1, h2.mono l k⟩
theorem PhsAt.mono {L' B' : Nat} {a : Option Addr} {xs : List Ph} (h : PhsAt w L B a xs) (l : L' ≤ L) (k : B ≤ B') : PhsAt w L' B' a xs := fun i hi => by
  obtain ⟨b, o, e, hb, hc⟩ := h i hi
  exact ⟨b, o, e, by omega, hc.mono l k⟩
theorem BlkAt.mono {L' B' : Nat} {b o : Nat} {x : Blk} (h : BlkAt w L B b o x) (l : L' ≤ L) (k : B ≤ B') : BlkAt w L' B' b o x := by
  obtain ⟨pa, pc, ia, ic, h0, h1, h2, h3, h4⟩ := h
  exact ⟨pa, pc, ia, ic, h0, h1, h2, h3.mono l k, h4.mono l k⟩
theorem BlksAt.mono {L' B' : Nat} {a : Option Addr} {xs : List Blk} (h : BlksAt w L B a xs) (l : L' ≤ L) (k : B ≤ B') : BlksAt w L' B' a xs := fun i hi => by
  obtain ⟨b, o, e, hb, hc⟩ := h i hi
  exact ⟨b, o, e, by omega, hc.mono l k⟩

end Go.Proofs.YteifkldaoddpdaaDoor

/-
  Numbers and words as text: the model's side (l1Dec, l1Put).
-/
namespace Go.Proofs.YteifkldaoddpdaaDoor
open Go.RowKit

/-- A text as a string. -/
def strOf (l : List UInt8) : ByteArray := ⟨l.toArray⟩
theorem dec_ten {u : Nat} (h : ¬ u < 10) : Lib.decDigits u = Lib.decDigits (u / 10) ++ [UInt8.ofNat (48 + u % 10)] := by
  rw [Lib.decDigits, dif_neg h]

theorem conv1 (w : World) (b : UInt8) (W : World) (hW : W.cell? ⟨w.heap.size, 0, none⟩ = some (.int .u8 b.toNat)) : Sem.run Tryd.prog (convert 33 9 (.slice (some ⟨w.heap.size, 0, none⟩) 1 1)) W = .ok (.string (strOf [b])) W := by
  have h := run_convert_bytes_back (P := Tryd.prog) W 33 9 5 ⟨w.heap.size, 0, none⟩ 1 [b] Tryd.underlying33 Tryd.underlying5 Tryd.underlying9 ?_
  · exact h
  · intro j hj
    have e : j = 0 := by simpa using hj
    subst e
    simpa [Addr.add] using hW
theorem dec_len (u : Nat) : (Lib.decDigits u).length ≤ u / 2 + 1 := by
  induction u using Nat.strongRecOn with
  | ind u ih =>
    by_cases h : u < 10
    · rw [Lib.decDigits_one h]; simp
    · rw [dec_ten h, List.length_append]
      have := ih (u / 10) (by omega)
      simp only [List.length_cons, List.length_nil]; omega
theorem strOf_size (l : List UInt8) : (strOf l).size = l.length := by simp [strOf, ByteArray.size]
theorem strOf_append (a b : List UInt8) : strOf a ++ strOf b = strOf (a ++ b) := by
  apply ByteArray.ext; simp [strOf, ByteArray.data_append]
theorem byte_of (u : Nat) (h : u < 10) : ∃ b : UInt8, b = UInt8.ofNat (48 + u) ∧ ((b.toNat : Nat) : Int) = 48 + (u : Int) := by
  refine ⟨_, rfl, ?_⟩
  have : (UInt8.ofNat (48 + u)).toNat = 48 + u := by rw [UInt8.toNat_ofNat']; omega
  rw [this]; omega

set_option maxHeartbeats 1000000 in
set_option maxRecDepth 100000 in
theorem dec_small (u : Nat) (h : u < 10) (w : World) :
    Calls Tryd.prog 94 #[.int .i64 u] w fun e w' => e = .returned (.string (strOf (Lib.decDigits u))) ∧ Below w.heap.size w w' := by
  have h' : (u : Int) < 10 := by omega
  have h0 : ¬ (u : Int) < 0 := by omega
  obtain ⟨b, hb1, hb2⟩ := byte_of u h
  have hcv := conv1 w b
  rw [hb2] at hcv
  have hcw := hcv (w.alloc (.cells #[.int .u8 (48 + (u : Int))] 5)) (by simp [go_sem])
  have HE : Hid (Lib.decDigits u = [b]) := hide (by rw [Lib.decDigits_one h, hb1])
  clear hb1 hb2 hcv
  go_enter Tryd.func94, Tryd.ntmps94
  go_wp2_with fail
  go_ret
  exact ⟨by rw [HE.out]; rfl, (Below.refl _ _).alloc (Nat.le_refl _) _⟩

set_option maxHeartbeats 1000000 in
set_option maxRecDepth 100000 in
theorem dec_nat (u : Nat) (hu : u ≤ 9223372036854775807) (w : World) :
    Calls Tryd.prog 94 #[.int .i64 u] w fun e w' => e = .returned (.string (strOf (Lib.decDigits u))) ∧ Below w.heap.size w w' := by
  induction u using Nat.strongRecOn generalizing w with
  | ind u ih =>
    by_cases h : u < 10
    · exact dec_small u h w
    · have IH := hide (fun W => ih (u / 10) (by omega) (by omega) W)
      have h' : ¬ (u : Int) < 10 := by omega
      have h0 : ¬ (u : Int) < 0 := by omega
      have hq : ((u : Int).tdiv 10) = ((u / 10 : Nat) : Int) := by rw [Int.tdiv_eq_ediv_of_nonneg (by omega)]; omega
      have hr : ((u : Int).tmod 10) = ((u % 10 : Nat) : Int) := by rw [Int.tmod_eq_emod_of_nonneg (by omega)]; omega
      have hr10 : u % 10 < 10 := Nat.mod_lt _ (by decide)
      have hqb : u / 10 ≤ 922337203685477580 := by omega
      have HE := hide (dec_ten h)
      generalize u % 10 = r at *
      generalize u / 10 = q at *
      obtain ⟨b, hb1, hb2⟩ := byte_of r hr10
      have hw1 : IntKind.i64.wrap ((q : Nat) : Int) = (q : Int) := by have hq0 : (0 : Int) ≤ q := by omega
                                                                      have hq1 : (q : Int) ≤ 922337203685477580 := by omega
                                                                      generalize (q : Int) = z at *; simp [IntKind.wrap, IntKind.signed, IntKind.bits]; omega
      have hw2 : IntKind.i64.wrap (48 + (r : Int)) = 48 + (r : Int) := by simp [IntKind.wrap, IntKind.signed, IntKind.bits]; omega
      have hw3 : IntKind.u8.wrap (48 + (r : Int)) = 48 + (r : Int) := by simp [IntKind.wrap, IntKind.signed, IntKind.bits]; omega
      have HE2 : Hid (strOf (Lib.decDigits q) ++ strOf [b] = strOf (Lib.decDigits u)) := hide (by rw [HE.out, strOf_append, hb1])
      have hnl : ¬ 9223372036854775807 < (strOf (Lib.decDigits q)).size + (strOf [b]).size := by
        rw [strOf_size, strOf_size]; have := dec_len q; simp only [List.length_cons, List.length_nil]; omega
      clear ih hb1 HE
      go_enter Tryd.func94, Tryd.ntmps94
      go_wp2_with fail
      refine wp_region_held_drew (S := (fun _ => True)) (by kernel_rfl) trivial (fun hHeld => ?_)
      refine wpAnyH_take (i := 0) (v := ?_) rfl (by kernel_rfl) (by kernel_rfl) (by kernel_rfl) (fun _ _ _ h => h) (Or.inl ⟨by rfl, ?_⟩) (by assumption) ?_
      rotate_left
      · intro w hSw; (try dsimp only at hSw); go_simp; try with_reducible rfl
      simp only [Act.put, List.getElem_toArray, List.getElem_cons_zero, List.setIfInBounds_toArray, List.set_cons_zero, List.set_cons_succ]
      refine wpAnyH_take (i := 1) (v := ?_) rfl (by kernel_rfl) (by kernel_rfl) (by kernel_rfl) (fun _ _ _ h => h) (Or.inl ⟨by rfl, ?_⟩) (by assumption) ?_
      rotate_left
      · intro w hSw; (try dsimp only at hSw); go_simp; try with_reducible rfl
      simp only [Act.put, List.getElem_toArray, List.getElem_cons_zero, List.getElem_cons_succ, List.setIfInBounds_toArray, List.set_cons_zero, List.set_cons_succ]
      refine wpAnyH_take (i := 3) (v := ?_) rfl (by kernel_rfl) (by kernel_rfl) (by kernel_rfl) (fun _ _ _ h => h) (Or.inl ⟨by rfl, ?_⟩) (by assumption) ?_
      rotate_left
      · intro w hSw; (try dsimp only at hSw); go_simp; try with_reducible rfl
      simp only [Act.put, List.getElem_toArray, List.getElem_cons_zero, List.getElem_cons_succ, List.setIfInBounds_toArray, List.set_cons_zero, List.set_cons_succ]
      refine wpAnyH_take (i := 4) (v := ?_) rfl (by kernel_rfl) (by kernel_rfl) (by kernel_rfl) (fun _ _ _ h => h) (Or.inl ⟨by rfl, ?_⟩) (by assumption) ?_
      rotate_left
      · intro w hSw; (try dsimp only at hSw); go_simp; try with_reducible rfl
      simp only [Act.put, List.getElem_toArray, List.getElem_cons_zero, List.getElem_cons_succ, List.setIfInBounds_toArray, List.set_cons_zero, List.set_cons_succ]
      refine wpAnyH_take (i := 5) (v := ?_) rfl (by kernel_rfl) (by kernel_rfl) (by kernel_rfl) (fun _ _ _ h => h) (Or.inl ⟨by rfl, ?_⟩) (by assumption) ?_
      rotate_left
      · intro w hSw; (try dsimp only at hSw); go_simp; try with_reducible rfl
      simp only [Act.put, List.getElem_toArray, List.getElem_cons_zero, List.getElem_cons_succ, List.setIfInBounds_toArray, List.set_cons_zero, List.set_cons_succ]
      refine wpAnyH_take (i := 6) (v := ?_) rfl (by kernel_rfl) (by kernel_rfl) (by kernel_rfl) (fun _ _ _ h => h) (Or.inl ⟨by rfl, ?_⟩) (by assumption) ?_
      rotate_left
      · intro w hSw; (try dsimp only at hSw); go_simp; try with_reducible rfl
      simp only [Act.put, List.getElem_toArray, List.getElem_cons_zero, List.getElem_cons_succ, List.setIfInBounds_toArray, List.set_cons_zero, List.set_cons_succ]
      refine wpAnyH_ready (rs := [2, 7]) (by kernel_rfl) (by simp) ?_
      refine (AllReadyH.cons rfl (fun K hK => ?_) (AllReadyH.cons rfl (fun K hK => ?_) AllReadyH.nil))
      · skip
        go_simp
        refine (IH.out _).mono ?_
        rintro e w1 ⟨rfl, hb1⟩
        have HB1 := hide hb1
        have s1 := hb1.size
        obtain ⟨k1, -⟩ := bcell hb1
        clear hb1
        go_simp
        refine hK.out _ _ trivial (fun hHeld => ?_)
        clear hK
        try simp only [Act.put, List.getElem_toArray, List.getElem_cons_zero, List.getElem_cons_succ, List.setIfInBounds_toArray, List.set_cons_zero, List.set_cons_succ]
        refine wpAnyH_ready (rs := [7]) (by kernel_rfl) (by simp) ?_
        refine AllReadyH.cons rfl (fun K hK => ?_) AllReadyH.nil
        go_simp
        refine hK.out _ _ trivial (fun hHeld => ?_)
        clear hK
        try simp only [Act.put, List.getElem_toArray, List.getElem_cons_zero, List.getElem_cons_succ, List.setIfInBounds_toArray, List.set_cons_zero, List.set_cons_succ]
        refine wpAnyH_ready (rs := [8]) (by kernel_rfl) (by simp) ?_
        refine AllReadyH.cons rfl (fun K hK => ?_) AllReadyH.nil
        have hcw := conv1 w1 b (w1.alloc (.cells #[.int .u8 (48 + (r : Int))] 5)) (by rw [hb2]; simp [go_sem])
        go_simp
        refine hK.out _ _ trivial (fun hHeld => ?_)
        clear hK
        try simp only [Act.put, List.getElem_toArray, List.getElem_cons_zero, List.getElem_cons_succ, List.setIfInBounds_toArray, List.set_cons_zero, List.set_cons_succ]
        refine wpAnyH_ready (rs := [9]) (by kernel_rfl) (by simp) ?_
        refine AllReadyH.cons rfl (fun K hK => ?_) AllReadyH.nil
        go_simp
        refine hK.out _ _ trivial (fun hHeld => ?_)
        clear hK
        try simp only [Act.put, List.getElem_toArray, List.getElem_cons_zero, List.getElem_cons_succ, List.setIfInBounds_toArray, List.set_cons_zero, List.set_cons_succ]
        refine wpAnyH_ready (rs := [10]) (by kernel_rfl) (by simp) ?_
        refine AllReadyH.cons rfl (fun K hK => ?_) AllReadyH.nil
        go_simp
        refine hK.out _ _ trivial (fun hHeld => ?_)
        clear hK
        try simp only [Act.put, List.getElem_toArray, List.getElem_cons_zero, List.getElem_cons_succ, List.setIfInBounds_toArray, List.set_cons_zero, List.set_cons_succ]
        refine wpAnyH_done (by kernel_rfl) ?_ _
        go_wp2_with fail
        go_ret
        exact ⟨by rw [← HE2.out]; rfl, balloc ((Below.refl w.heap.size w).drew.trans HB1.out) _⟩
      · skip
        go_simp
        refine hK.out _ _ trivial (fun hHeld => ?_)
        clear hK
        try simp only [Act.put, List.getElem_toArray, List.getElem_cons_zero, List.getElem_cons_succ, List.setIfInBounds_toArray, List.set_cons_zero, List.set_cons_succ]
        refine wpAnyH_ready (rs := [2, 8]) (by kernel_rfl) (by simp) ?_
        refine (AllReadyH.cons rfl (fun K hK => ?_) (AllReadyH.cons rfl (fun K hK => ?_) AllReadyH.nil))
        · skip
          go_simp
          refine (IH.out _).mono ?_
          rintro e w1 ⟨rfl, hb1⟩
          have HB1 := hide hb1
          have s1 := hb1.size
          obtain ⟨k1, -⟩ := bcell hb1
          clear hb1
          have hcw := conv1 w b w1 (by rw [hb2]; exact (k1 w.heap.size 0 (by simp [go_sem])).trans (by simp [go_sem]))
          go_simp
          refine hK.out _ _ trivial (fun hHeld => ?_)
          clear hK
          try simp only [Act.put, List.getElem_toArray, List.getElem_cons_zero, List.getElem_cons_succ, List.setIfInBounds_toArray, List.set_cons_zero, List.set_cons_succ]
          refine wpAnyH_ready (rs := [8]) (by kernel_rfl) (by simp) ?_
          refine AllReadyH.cons rfl (fun K hK => ?_) AllReadyH.nil
          go_simp
          refine hK.out _ _ trivial (fun hHeld => ?_)
          clear hK
          try simp only [Act.put, List.getElem_toArray, List.getElem_cons_zero, List.getElem_cons_succ, List.setIfInBounds_toArray, List.set_cons_zero, List.set_cons_succ]
          refine wpAnyH_ready (rs := [9]) (by kernel_rfl) (by simp) ?_
          refine AllReadyH.cons rfl (fun K hK => ?_) AllReadyH.nil
          go_simp
          refine hK.out _ _ trivial (fun hHeld => ?_)
          clear hK
          try simp only [Act.put, List.getElem_toArray, List.getElem_cons_zero, List.getElem_cons_succ, List.setIfInBounds_toArray, List.set_cons_zero, List.set_cons_succ]
          refine wpAnyH_ready (rs := [10]) (by kernel_rfl) (by simp) ?_
          refine AllReadyH.cons rfl (fun K hK => ?_) AllReadyH.nil
          go_simp
          refine hK.out _ _ trivial (fun hHeld => ?_)
          clear hK
          try simp only [Act.put, List.getElem_toArray, List.getElem_cons_zero, List.getElem_cons_succ, List.setIfInBounds_toArray, List.set_cons_zero, List.set_cons_succ]
          refine wpAnyH_done (by kernel_rfl) ?_ _
          go_wp2_with fail
          go_ret
          exact ⟨by rw [← HE2.out]; rfl, (balloc (Below.refl w.heap.size w) _).drew.trans (HB1.out.mono (by simp [go_sem]))⟩
        · skip
          have hcw := conv1 w b (w.alloc (.cells #[.int .u8 (48 + (r : Int))] 5)).drew (by rw [hb2]; simp [go_sem])
          go_simp
          refine hK.out _ _ trivial (fun hHeld => ?_)
          clear hK
          try simp only [Act.put, List.getElem_toArray, List.getElem_cons_zero, List.getElem_cons_succ, List.setIfInBounds_toArray, List.set_cons_zero, List.set_cons_succ]
          refine wpAnyH_ready (rs := [2]) (by kernel_rfl) (by simp) ?_
          refine AllReadyH.cons rfl (fun K hK => ?_) AllReadyH.nil
          go_simp
          refine (IH.out _).mono ?_
          rintro e w1 ⟨rfl, hb1⟩
          have HB1 := hide hb1
          have s1 := hb1.size
          obtain ⟨k1, -⟩ := bcell hb1
          clear hb1
          go_simp
          refine hK.out _ _ trivial (fun hHeld => ?_)
          clear hK
          try simp only [Act.put, List.getElem_toArray, List.getElem_cons_zero, List.getElem_cons_succ, List.setIfInBounds_toArray, List.set_cons_zero, List.set_cons_succ]
          refine wpAnyH_ready (rs := [9]) (by kernel_rfl) (by simp) ?_
          refine AllReadyH.cons rfl (fun K hK => ?_) AllReadyH.nil
          go_simp
          refine hK.out _ _ trivial (fun hHeld => ?_)
          clear hK
          try simp only [Act.put, List.getElem_toArray, List.getElem_cons_zero, List.getElem_cons_succ, List.setIfInBounds_toArray, List.set_cons_zero, List.set_cons_succ]
          refine wpAnyH_ready (rs := [10]) (by kernel_rfl) (by simp) ?_
          refine AllReadyH.cons rfl (fun K hK => ?_) AllReadyH.nil
          go_simp
          refine hK.out _ _ trivial (fun hHeld => ?_)
          clear hK
          try simp only [Act.put, List.getElem_toArray, List.getElem_cons_zero, List.getElem_cons_succ, List.setIfInBounds_toArray, List.set_cons_zero, List.set_cons_succ]
          refine wpAnyH_done (by kernel_rfl) ?_ _
          go_wp2_with fail
          go_ret
          exact ⟨by rw [← HE2.out]; rfl, (balloc (Below.refl w.heap.size w) _).drew.trans (HB1.out.mono (by simp [go_sem]))⟩

set_option maxHeartbeats 1000000 in
set_option maxRecDepth 100000 in
theorem dec_neg (u : Nat) (h1 : 0 < u) (hu : u ≤ 9223372036854775807) (w : World) :
    Calls Tryd.prog 94 #[.int .i64 (-(u : Int))] w fun e w' => e = .returned (.string (strOf (45 :: Lib.decDigits u))) ∧ Below w.heap.size w w' := by
  have IH := hide (fun W => dec_nat u hu W)
  have h0 : -(u : Int) < 0 := by omega
  have hw1 : IntKind.i64.wrap (u : Int) = (u : Int) := by
    have hq0 : (0 : Int) ≤ u := by omega
    have hq1 : (u : Int) ≤ 9223372036854775807 := by omega
    generalize (u : Int) = z at *; simp [IntKind.wrap, IntKind.signed, IntKind.bits]; omega
  go_enter Tryd.func94, Tryd.ntmps94
  have hnl : ¬ 9223372036854775807 < 1 + (strOf (Lib.decDigits u)).size := by
    rw [strOf_size]; have := dec_len u; omega
  have HE : Hid ((⟨#[45]⟩ : ByteArray) ++ strOf (Lib.decDigits u) = strOf (45 :: Lib.decDigits u)) := hide (by exact strOf_append [45] _)
  go_wp2_with fail
  refine (IH.out _).mono ?_
  rintro e w1 ⟨rfl, hb1⟩
  have HB1 := hide hb1
  clear hb1
  go_wp2_with fail
  go_ret
  exact ⟨by rw [← HE.out]; rfl, HB1.out⟩

theorem dec_int (v : Int) (h1 : -9223372036854775807 ≤ v) (h2 : v ≤ 9223372036854775807) (w : World) :
    Calls Tryd.prog 94 #[.int .i64 v] w fun e w' => e = .returned (.string (strOf (Lib.itoa v))) ∧ Below w.heap.size w w' := by
  unfold Lib.itoa
  by_cases h : v < 0
  · rw [if_pos h]
    have := dec_neg v.natAbs (by omega) (by omega) w
    rwa [show -(v.natAbs : Int) = v by omega] at this
  · rw [if_neg h]
    have := dec_nat v.toNat (by omega) w
    rwa [show (v.toNat : Int) = v by omega] at this
end Go.Proofs.YteifkldaoddpdaaDoor
