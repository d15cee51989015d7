import Derived.Test.YtdcdgopblbmgoaaGreatDoorPJ
import Derived.Deep.RegionHeld3
/-
  l1ReadInstr, l1ReadTerm, l1Refuse of the model.
-/
namespace Go.Proofs.YtdcdgopblbmgoaaGreatDoor
open Go.RowKit

def lettersP (op : Int) : List UInt8 := (usesS op).data.toList
def setF (x : Ins) (c : UInt8) (v : Int) : Ins := if c = 100 then ⟨x.op, v, x.a, x.b, x.imm⟩ else if c = 97 then ⟨x.op, x.dst, v, x.b, x.imm⟩ else if c = 98 then ⟨x.op, x.dst, x.a, v, x.imm⟩ else if c = 105 then ⟨x.op, x.dst, x.a, x.b, v⟩ else x
def valF (op : Int) (c : UInt8) (f : List UInt8) : Int := if op = 1 ∧ c = 105 then constV f else idx f
/-- The first k letters read. -/
def readK (fs : List (List UInt8)) (op : Int) : Nat → Ins
  | 0 => ⟨op, 0, 0, 0, 0⟩
  | k + 1 => setF (readK fs op k) ((lettersP op).getD k 0) (valF op ((lettersP op).getD k 0) (fs.getD (k + 1) []))
def readIns (fs : List (List UInt8)) : Ins := readK fs (opOf (fs.headD [])) (lettersP (opOf (fs.headD []))).length
def readTer (fs : List (List UInt8)) : Ter :=
  if fs.headD [] = wJump then ⟨1, 0, idx (fs.getD 1 []), 0⟩ else if fs.headD [] = wRet then ⟨3, idx (fs.getD 1 []), 0, 0⟩ else ⟨2, idx (fs.getD 1 []), idx (fs.getD 2 []), idx (fs.getD 3 [])⟩

set_option maxHeartbeats 1000000 in
theorem l1Refuse_any (code line : Int) (w : World) :
    Calls Tryz.prog 12 #[.int .i64 code, .int .i64 line] w fun e w' => e = .returned (.agg #[.int .i64 code, .int .i64 line, .int .i64 0, .slice none 0 0]) ∧ Below w.heap.size w w' := by
  go_enter Tryz.func12, Tryz.ntmps12
  go_wp2
  refine bodyPost_ret (v := .agg #[.int .i64 code, .int .i64 line, .int .i64 0, .slice none 0 0]) (by simp [results, Tryz.results12, go_sem]) rfl ⟨rfl, balloc (Below.refl _ _) _⟩

set_option maxHeartbeats 1000000 in
set_option maxRecDepth 100000 in
theorem readTerm_two (f0 f1 : List UInt8) (hf : f0 = wJump ∨ f0 = wRet) (a : Option Addr) (c : Nat) (L B : Nat) (w : World) (ha : Hid (ValsAt w L B a (strsV [f0, f1]))) (hB : B ≤ w.heap.size) :
    Calls Tryz.prog 18 #[.slice a 2 c] w fun e w' => e = .returned (.agg #[.int .i64 (readTer [f0, f1]).kind, .int .i64 (readTer [f0, f1]).a, .int .i64 (readTer [f0, f1]).to, .int .i64 (readTer [f0, f1]).els]) ∧ Below w.heap.size w w' := by
  obtain ⟨b, o, rfl, hb, c0⟩ := ha.out 0 (by simp [strsV])
  obtain ⟨b', o', e', _, c1⟩ := ha.out 1 (by simp [strsV])
  cases e'
  have c0 : w.cell? ⟨b, o, none⟩ = some (.string (strOf f0)) := c0
  have c1 : w.cell? ⟨b, o + 1, none⟩ = some (.string (strOf f1)) := c1
  have hbw : b < w.heap.size := by omega
  have HI1 := fun w => hide (l1Index_any f1 w)
  have hts := strOf_toList f0
  rcases hf with rfl | rfl
  · have fj : (wJump == [106, 117, 109, 112]) = true := rfl
    go_enter Tryz.func18, Tryz.ntmps18
    go_wp2_with fail
    refine (HI1 _).out.mono ?_
    rintro e w1 ⟨rfl, hb1⟩
    have hs1 := hb1.size
    simp at hs1
    have k0 : w1.cell? ⟨b, o, none⟩ = some (.string (strOf wJump)) := (hb1.cell (p := ⟨b, o, none⟩) (by simp; omega)).trans (((balloc (Below.refl w.heap.size w) _).cell (p := ⟨b, o, none⟩) hbw).trans c0)
    have HB1 := hide (bnext (balloc (Below.refl w.heap.size w) _) hb1)
    have r0 : w1.cell? ⟨w.heap.size, 0, none⟩ = some (.int .i64 0) := (hb1.cell (p := ⟨w.heap.size, 0, none⟩) (by simp)).trans (by simp)
    have r1 : w1.cell? ⟨w.heap.size, 1, none⟩ = some (.int .i64 0) := (hb1.cell (p := ⟨w.heap.size, 1, none⟩) (by simp)).trans (by simp)
    have r2 : w1.cell? ⟨w.heap.size, 2, none⟩ = some (.int .i64 0) := (hb1.cell (p := ⟨w.heap.size, 2, none⟩) (by simp)).trans (by simp)
    have r3 : w1.cell? ⟨w.heap.size, 3, none⟩ = some (.int .i64 0) := (hb1.cell (p := ⟨w.heap.size, 3, none⟩) (by simp)).trans (by simp)
    have fz : ∀ q, w1.frozen? ⟨w.heap.size, q, none⟩ = false := fun q => (hb1.frozen (p := ⟨w.heap.size, q, none⟩) (by simp)).trans (by simp)
    have hlw : w.heap.size < w1.heap.size := by omega
    clear hb1 c0 c1
    go_wp2
    refine bodyPost_ret (v := .agg #[.int .i64 1, .int .i64 0, .int .i64 (idx f1), .int .i64 0]) (by simp [results, Tryz.results18, go_sem, r0, r1, r2, r3]) rfl ⟨rfl, ?_⟩
    first | exact HB1.out | exact ((((HB1.out.setCell (p := ⟨w.heap.size, 0, none⟩) (Nat.le_refl _) _).setCell (p := ⟨w.heap.size, 1, none⟩) (Nat.le_refl _) _).setCell (p := ⟨w.heap.size, 2, none⟩) (Nat.le_refl _) _).setCell (p := ⟨w.heap.size, 3, none⟩) (Nat.le_refl _) _)
  · have fj : (wRet == [106, 117, 109, 112]) = false := rfl
    have fr : (wRet == [114, 101, 116]) = true := rfl
    go_enter Tryz.func18, Tryz.ntmps18
    go_wp2_with fail
    refine (HI1 _).out.mono ?_
    rintro e w1 ⟨rfl, hb1⟩
    have hs1 := hb1.size
    simp at hs1
    have k0 : w1.cell? ⟨b, o, none⟩ = some (.string (strOf wRet)) := (hb1.cell (p := ⟨b, o, none⟩) (by simp; omega)).trans (((balloc (Below.refl w.heap.size w) _).cell (p := ⟨b, o, none⟩) hbw).trans c0)
    have HB1 := hide (bnext (balloc (Below.refl w.heap.size w) _) hb1)
    have r0 : w1.cell? ⟨w.heap.size, 0, none⟩ = some (.int .i64 0) := (hb1.cell (p := ⟨w.heap.size, 0, none⟩) (by simp)).trans (by simp)
    have r1 : w1.cell? ⟨w.heap.size, 1, none⟩ = some (.int .i64 0) := (hb1.cell (p := ⟨w.heap.size, 1, none⟩) (by simp)).trans (by simp)
    have r2 : w1.cell? ⟨w.heap.size, 2, none⟩ = some (.int .i64 0) := (hb1.cell (p := ⟨w.heap.size, 2, none⟩) (by simp)).trans (by simp)
    have r3 : w1.cell? ⟨w.heap.size, 3, none⟩ = some (.int .i64 0) := (hb1.cell (p := ⟨w.heap.size, 3, none⟩) (by simp)).trans (by simp)
    have fz : ∀ q, w1.frozen? ⟨w.heap.size, q, none⟩ = false := fun q => (hb1.frozen (p := ⟨w.heap.size, q, none⟩) (by simp)).trans (by simp)
    have hlw : w.heap.size < w1.heap.size := by omega
    clear hb1 c0 c1
    go_wp2
    refine bodyPost_ret (v := .agg #[.int .i64 3, .int .i64 (idx f1), .int .i64 0, .int .i64 0]) (by simp [results, Tryz.results18, go_sem, r0, r1, r2, r3]) rfl ⟨rfl, ?_⟩
    first | exact HB1.out | exact ((((HB1.out.setCell (p := ⟨w.heap.size, 0, none⟩) (Nat.le_refl _) _).setCell (p := ⟨w.heap.size, 1, none⟩) (Nat.le_refl _) _).setCell (p := ⟨w.heap.size, 2, none⟩) (Nat.le_refl _) _).setCell (p := ⟨w.heap.size, 3, none⟩) (Nat.le_refl _) _)

set_option maxHeartbeats 1000000 in
set_option maxRecDepth 100000 in
theorem readTerm_br (f1 f2 f3 : List UInt8) (a : Option Addr) (c : Nat) (L B : Nat) (w : World) (ha : Hid (ValsAt w L B a (strsV [wBranch, f1, f2, f3]))) (hB : B ≤ w.heap.size) :
    Calls Tryz.prog 18 #[.slice a 4 c] w fun e w' => e = .returned (.agg #[.int .i64 2, .int .i64 (idx f1), .int .i64 (idx f2), .int .i64 (idx f3)]) ∧ Below w.heap.size w w' := by
  obtain ⟨b, o, rfl, hb, c0⟩ := ha.out 0 (by simp [strsV])
  obtain ⟨b', o', e', _, c1⟩ := ha.out 1 (by simp [strsV])
  cases e'
  obtain ⟨b', o', e', _, c2⟩ := ha.out 2 (by simp [strsV])
  cases e'
  obtain ⟨b', o', e', _, c3⟩ := ha.out 3 (by simp [strsV])
  cases e'
  have c0 : w.cell? ⟨b, o, none⟩ = some (.string (strOf wBranch)) := c0
  have c1 : w.cell? ⟨b, o + 1, none⟩ = some (.string (strOf f1)) := c1
  have HC2 : Hid (w.cell? ⟨b, o + 2, none⟩ = some (.string (strOf f2))) := hide c2
  have HC3 : Hid (w.cell? ⟨b, o + 3, none⟩ = some (.string (strOf f3))) := hide c3
  clear c2 c3
  have hbw : b < w.heap.size := by omega
  have HI1 := fun w => hide (l1Index_any f1 w)
  have HI2 := fun w => hide (l1Index_any f2 w)
  have HI3 := fun w => hide (l1Index_any f3 w)
  have hts := strOf_toList wBranch
  have fj : (wBranch == [106, 117, 109, 112]) = false := rfl
  have fr : (wBranch == [114, 101, 116]) = false := rfl
  go_enter Tryz.func18, Tryz.ntmps18
  go_wp2_with fail
  refine (HI1 _).out.mono ?_
  rintro e w1 ⟨rfl, hb1⟩
  have hs1 := hb1.size
  simp at hs1
  have kk : ∀ q, w1.cell? ⟨b, q, none⟩ = w.cell? ⟨b, q, none⟩ := fun q => (hb1.cell (p := ⟨b, q, none⟩) (by simp; omega)).trans ((balloc (Below.refl w.heap.size w) _).cell (p := ⟨b, q, none⟩) hbw)
  have k0 := (kk _).trans c0
  have k2 := (kk _).trans HC2.out
  have k3 := (kk _).trans HC3.out
  have HB1 := hide (bnext (balloc (Below.refl w.heap.size w) _) hb1)
  have R1 : Hid (∀ q, q < 4 → w1.cell? ⟨w.heap.size, q, none⟩ = some (.int .i64 0)) := hide (fun q hq => (hb1.cell (p := ⟨w.heap.size, q, none⟩) (by simp)).trans (by
    have : q = 0 ∨ q = 1 ∨ q = 2 ∨ q = 3 := by omega
    rcases this with rfl | rfl | rfl | rfl <;> simp))
  have FZ : Hid (∀ q, w1.frozen? ⟨w.heap.size, q, none⟩ = false) := hide (fun q => (hb1.frozen (p := ⟨w.heap.size, q, none⟩) (by simp)).trans (by simp))
  have hlw : w.heap.size < w1.heap.size := by omega
  have hbw1 : b < w1.heap.size := by omega
  clear hb1 c0 c1 kk
  have hbne : ∀ (W : World) (i j : Nat) (v : Value), (W.setCell ⟨w.heap.size, i, none⟩ v).cell? ⟨b, j, none⟩ = W.cell? ⟨b, j, none⟩ := fun W i j v => World.cell?_setCell_other _ _ _ _ (by intro h; injection h with h1; omega)
  have HKEEP : Hid (∀ W, Below w1.heap.size w1 W → Hid (Below w1.heap.size w1 W) ∧ W.cell? ⟨b, o + 2, none⟩ = some (.string (strOf f2)) ∧ W.cell? ⟨b, o + 3, none⟩ = some (.string (strOf f3)) ∧ (W.cell? ⟨w.heap.size, 0, none⟩ = some (.int .i64 0) ∧ W.cell? ⟨w.heap.size, 1, none⟩ = some (.int .i64 0) ∧ W.cell? ⟨w.heap.size, 2, none⟩ = some (.int .i64 0) ∧ W.cell? ⟨w.heap.size, 3, none⟩ = some (.int .i64 0)) ∧ (∀ q, W.frozen? ⟨w.heap.size, q, none⟩ = false) ∧ w.heap.size < W.heap.size) := hide (fun W hW =>
    ⟨hide hW, (hW.cell (p := ⟨b, o + 2, none⟩) hbw1).trans k2, (hW.cell (p := ⟨b, o + 3, none⟩) hbw1).trans k3, ⟨(hW.cell (p := ⟨w.heap.size, 0, none⟩) hlw).trans (R1.out 0 (by decide)), (hW.cell (p := ⟨w.heap.size, 1, none⟩) hlw).trans (R1.out 1 (by decide)), (hW.cell (p := ⟨w.heap.size, 2, none⟩) hlw).trans (R1.out 2 (by decide)), (hW.cell (p := ⟨w.heap.size, 3, none⟩) hlw).trans (R1.out 3 (by decide))⟩, fun q => (hW.frozen (p := ⟨w.heap.size, q, none⟩) hlw).trans (FZ.out q), Nat.lt_of_lt_of_le hlw hW.size⟩)
  have HJ2 : Hid (∀ W, Below w1.heap.size w1 W → Calls Tryz.prog 15 #[.string (strOf f2)] W (fun e w' => e = .returned (.int .i64 (idx f2)) ∧ Below w1.heap.size w1 w')) := hide (fun W hW => (HI2 W).out.mono (by rintro e w' ⟨rfl, h⟩; exact ⟨rfl, hW.trans (h.mono hW.size)⟩))
  have HJ3 : Hid (∀ W, Below w1.heap.size w1 W → Calls Tryz.prog 15 #[.string (strOf f3)] W (fun e w' => e = .returned (.int .i64 (idx f3)) ∧ Below w1.heap.size w1 w')) := hide (fun W hW => (HI3 W).out.mono (by rintro e w' ⟨rfl, h⟩; exact ⟨rfl, hW.trans (h.mono hW.size)⟩))
  have HB00 : Hid (Below w1.heap.size w1 w1) := hide (Below.refl _ _)
  have HB01 : Hid (Below w1.heap.size w1 w1.drew) := hide (Below.refl _ _).drew
  go_wp2_with fail
  go_region_held3 (fun w' => w'.cell? ⟨b, o + 2, none⟩ = some (.string (strOf f2)) ∧ w'.cell? ⟨b, o + 3, none⟩ = some (.string (strOf f3))) (go_keep)
    (first
      | (go_at_call 15; with_reducible refine (HJ2.out w1 HB00.out).mono ?_; rintro e w2 ⟨rfl, hb2⟩; obtain ⟨HB2, s1, s2, s3, s4, s5⟩ := HKEEP.out _ hb2; clear hb2)
      | (go_at_call 15; with_reducible refine (HJ2.out w1.drew HB01.out).mono ?_; rintro e w2 ⟨rfl, hb2⟩; obtain ⟨HB2, s1, s2, s3, s4, s5⟩ := HKEEP.out _ hb2; clear hb2)
      | (go_at_call 15; with_reducible refine (HJ3.out w2 HB2.out).mono ?_; rintro e w3 ⟨rfl, hb3⟩; obtain ⟨HB3, v1, v2, ⟨v30, v31, v32, v33⟩, v4, v5⟩ := HKEEP.out _ hb3; clear hb3))
  all_goals
    go_wp2
    refine bodyPost_ret (v := .agg #[.int .i64 2, .int .i64 (idx f1), .int .i64 (idx f2), .int .i64 (idx f3)]) (by simp [results, Tryz.results18, go_sem, v30, v31, v32, v33]) rfl ⟨rfl, ?_⟩
    exact (((((HB1.out.trans (HB3.out.mono (by omega))).setCell (p := ⟨w.heap.size, 0, none⟩) (Nat.le_refl _) _).setCell (p := ⟨w.heap.size, 1, none⟩) (Nat.le_refl _) _).setCell (p := ⟨w.heap.size, 2, none⟩) (Nat.le_refl _) _).setCell (p := ⟨w.heap.size, 3, none⟩) (Nat.le_refl _) _)

theorem l1ReadTerm_any (fs : List (List UInt8)) (a : Option Addr) (c : Nat) (L B : Nat) (w : World) (ha : Hid (ValsAt w L B a (strsV fs))) (hB : B ≤ w.heap.size) (he : (fs.headD [] = wJump ∧ fs.length = 2) ∨ (fs.headD [] = wRet ∧ fs.length = 2) ∨ (fs.headD [] = wBranch ∧ fs.length = 4)) :
    Calls Tryz.prog 18 #[.slice a fs.length c] w fun e w' => e = .returned (.agg #[.int .i64 (readTer fs).kind, .int .i64 (readTer fs).a, .int .i64 (readTer fs).to, .int .i64 (readTer fs).els]) ∧ Below w.heap.size w w' := by
  rcases he with ⟨h1, h2⟩ | ⟨h1, h2⟩ | ⟨h1, h2⟩
  · obtain ⟨f0, f1, rfl⟩ : ∃ f0 f1, fs = [f0, f1] := by
      match fs, h2 with
      | [f0, f1], _ => exact ⟨f0, f1, rfl⟩
    exact readTerm_two f0 f1 (Or.inl h1) a c L B w ha hB
  · obtain ⟨f0, f1, rfl⟩ : ∃ f0 f1, fs = [f0, f1] := by
      match fs, h2 with
      | [f0, f1], _ => exact ⟨f0, f1, rfl⟩
    exact readTerm_two f0 f1 (Or.inr h1) a c L B w ha hB
  · obtain ⟨f0, f1, f2, f3, rfl⟩ : ∃ f0 f1 f2 f3, fs = [f0, f1, f2, f3] := by
      match fs, h2 with
      | [f0, f1, f2, f3], _ => exact ⟨f0, f1, f2, f3, rfl⟩
    have h1 : f0 = wBranch := h1
    subst h1
    exact readTerm_br f1 f2 f3 a c L B w ha hB
end Go.Proofs.YtdcdgopblbmgoaaGreatDoor

/-
  l1ReadInstr of the model.
-/
namespace Go.Proofs.YtdcdgopblbmgoaaGreatDoor
open Go.RowKit

theorem letters_mem {op : Int} (h : 1 ≤ op ∧ op ≤ 10) : ∀ c ∈ lettersP op, c = 100 ∨ c = 97 ∨ c = 98 ∨ c = 105 := by
  have hc : op = 1 ∨ op = 2 ∨ op = 3 ∨ op = 4 ∨ op = 5 ∨ op = 6 ∨ op = 7 ∨ op = 8 ∨ op = 9 ∨ op = 10 := by omega
  rcases hc with rfl | rfl | rfl | rfl | rfl | rfl | rfl | rfl | rfl | rfl <;> decide
theorem const_at {k : Nat} (h : (lettersP 1).getD k 0 = 105) : k = 1 := by
  match k, h with
  | 0, h => exact absurd h (by decide)
  | 1, _ => rfl
  | k + 2, h => exact absurd h (by simp [lettersP, usesS])
theorem readK_op (fs : List (List UInt8)) (op : Int) : ∀ k, (readK fs op k).op = op
  | 0 => rfl
  | k + 1 => by
    rw [readK]
    have := readK_op fs op k
    unfold setF
    repeat' split
    all_goals exact this
/-- What holds at the loop's head. -/
structure RdI (w : World) (X : Nat) (x : Ins) (W : World) : Prop where
  below : Below w.heap.size w W
  ins : InsAt W X 0 x
  fx : ∀ q, W.frozen? ⟨X, q, none⟩ = false
  res : ∀ q, q < 5 → W.cell? ⟨w.heap.size, q, none⟩ = some (.int .i64 0)
  fr : ∀ q, W.frozen? ⟨w.heap.size, q, none⟩ = false
  lt : X < W.heap.size
  wx : w.heap.size < X
theorem RdI.next {w W W' : World} {X : Nat} {x : Ins} (h : RdI w X x W) (k : Below W.heap.size W W') : RdI w X x W' := by
  have h1 := h.lt
  have h2 := h.wx
  exact ⟨bnext h.below k, h.ins.keepS (k.block X h1), fun q => (k.frozen (p := ⟨X, q, none⟩) h1).trans (h.fx q), fun q hq => (k.cell (p := ⟨w.heap.size, q, none⟩) (by show w.heap.size < _; omega)).trans (h.res q hq), fun q => (k.frozen (p := ⟨w.heap.size, q, none⟩) (by show w.heap.size < _; omega)).trans (h.fr q), Nat.lt_of_lt_of_le h1 k.size, h2⟩
theorem RdI.put {w W : World} {X : Nat} {x y : Ins} {i : Nat} {v : Value} (h : RdI w X x W) (hy : InsAt (W.setCell ⟨X, i, none⟩ v) X 0 y) : RdI w X y (W.setCell ⟨X, i, none⟩ v) := by
  have h2 := h.wx
  exact ⟨h.below.setCell (p := ⟨X, i, none⟩) (by show w.heap.size ≤ X; omega) _, hy, fun q => by rw [World.frozen?_setCell]; exact h.fx q, fun q hq => by rw [World.cell?_setCell_other _ _ _ _ (by intro e; injection e with e1; omega)]; exact h.res q hq, fun q => by rw [World.frozen?_setCell]; exact h.fr q, by rw [size_setCell]; exact h.lt, h2⟩

set_option maxHeartbeats 8000000 in
set_option maxRecDepth 100000 in
theorem l1ReadInstr_any (fs : List (List UInt8)) (b o c : Nat) (L B : Nat) (w : World) (F : List UInt8) (ha : Hid (ValsAt w L B (some ⟨b, o, none⟩) (strsV fs))) (hbB : b < B) (hB : B ≤ w.heap.size) (h0 : 0 < fs.length) (HF : Hid (fs.headD [] = F)) (hop : 1 ≤ opOf F ∧ opOf F ≤ 10) (hl : Hid (fs.length = 1 + (usesS (opOf F)).size))
    (hcn : Hid (opOf F = 1 → ∀ f, fs[2]? = some f → isC f = true)) :
    Calls Tryz.prog 19 #[.slice (some ⟨b, o, none⟩) fs.length c] w fun e w' => e = .returned (.agg #[.int .i64 (readIns fs).op, .int .i64 (readIns fs).dst, .int .i64 (readIns fs).a, .int .i64 (readIns fs).b, .int .i64 (readIns fs).imm]) ∧ Below w.heap.size w w' := by
  have hcell : ∀ i (h : i < fs.length), w.cell? ⟨b, o + i, none⟩ = some (.string (strOf fs[i])) := fun i h => by
    obtain ⟨b', o', e, hb, hc⟩ := ha.out i (by simpa [strsV] using h)
    cases e
    exact hc.trans (by simp [strsV])
  have c0 : w.cell? ⟨b, o, none⟩ = some (.string (strOf F)) := (hcell 0 h0).trans (by rw [← HF.out]; cases fs with | nil => simp at h0 | cons x r => rfl)
  have HCELL := hide hcell
  have HOP := fun w => hide (l1OpOf_any F w)
  have HUS := fun w => hide (l1Uses_any (opOf F) w)
  have hbw : b < w.heap.size := by omega
  clear hcell
  go_enter Tryz.func19, Tryz.ntmps19
  go_wp2_with fail
  refine (HOP _).out.mono ?_
  rintro e w1 ⟨rfl, hb1⟩
  have hs1 := hb1.size
  simp at hs1
  have hlw : w.heap.size < w1.heap.size := by omega
  have HB1 := hide (bnext (balloc (Below.refl w.heap.size w) _) hb1)
  have HR1 : Hid (∀ q, q < 5 → w1.cell? ⟨w.heap.size, q, none⟩ = some (.int .i64 0)) := hide (fun q hq => (hb1.cell (p := ⟨w.heap.size, q, none⟩) (by simp)).trans (by
    have : q = 0 ∨ q = 1 ∨ q = 2 ∨ q = 3 ∨ q = 4 := by omega
    rcases this with rfl | rfl | rfl | rfl | rfl <;> simp))
  have HFZ : Hid (∀ q, w1.frozen? ⟨w.heap.size, q, none⟩ = false) := hide (fun q => (hb1.frozen (p := ⟨w.heap.size, q, none⟩) (by simp)).trans (by simp))
  clear hb1
  have HSZ := hide (usesS_size (opOf F))
  generalize hopq : opOf F = op at *
  go_wp2_with (go_at_call 29; refine (HUS _).out.mono ?_; rintro e w2 ⟨rfl, hw2⟩; rw [hw2]; clear hw2 w2)
  have hst : RdI w w1.heap.size (readK fs op 0) (w1.alloc (.cells #[.int .i64 op, .int .i64 0, .int .i64 0, .int .i64 0, .int .i64 0] 53)) := by
    have b1 := balloc (Below.refl w1.heap.size w1) (.cells #[.int .i64 op, .int .i64 0, .int .i64 0, .int .i64 0, .int .i64 0] 53)
    refine ⟨bnext HB1.out b1, ?_, fun q => by simp, fun q hq => (b1.cell (p := ⟨w.heap.size, q, none⟩) hlw).trans (HR1.out q hq), fun q => (b1.frozen (p := ⟨w.heap.size, q, none⟩) hlw).trans (HFZ.out q), by simp, hlw⟩
    refine ⟨?_, ?_, ?_, ?_, ?_⟩ <;> simp [readK]
  have HST := hide hst
  have hu3 : (usesS op).size ≤ 3 := HSZ.out
  have HRI : Hid (readIns fs = readK fs op (usesS op).size) := hide (by unfold readIns; rw [HF.out, hopq]; rfl)
  have HLM := hide (letters_mem hop)
  clear hst HB1 HR1 HFZ c0 hopq
  generalize w1.heap.size = X at *
  generalize w1.alloc (.cells #[.int .i64 op, .int .i64 0, .int .i64 0, .int .i64 0, .int .i64 0] 53) = W2 at *
  go_wp2
  go_loopw [5] (fun i wr => ∃ k : Nat, k ≤ (usesS op).size ∧ i = .int .i64 k ∧ Hid (RdI w X (readK fs op k) wr)) (fun i _ => (usesS op).size - (intOf i).toNat)
  case atStart => exact ⟨0, Nat.zero_le _, rfl, HST⟩
  case round =>
    obtain ⟨k, hk, rfl, HD⟩ := hrel
    obtain ⟨i0, i1, i2, i3, i4⟩ := HD.out.ins
    have lt := HD.out.lt
    have wx := HD.out.wx
    by_cases hlt : k < (usesS op).size
    · have hfl : k + 1 < fs.length := by have := hl.out; omega
      have hkI : (k : Int) < ((usesS op).size : Int) := by omega
      have cg : wr.cell? ⟨b, o + (k + 1), none⟩ = some (.string (strOf fs[k + 1])) := (HD.out.below.cell (p := ⟨b, o + (k + 1), none⟩) hbw).trans (HCELL.out (k + 1) hfl)
      have hgd : fs.getD (k + 1) [] = fs[k + 1] := by simp [List.getD, hfl]
      have hlp : k < (lettersP op).length := by unfold lettersP; rw [Array.length_toList]; exact hlt
      have HLET : Hid (∀ (h : k < (usesS op).size), ((((usesS op)[k]'h).toNat : Int)) = (((lettersP op).getD k 0).toNat : Int)) := hide (fun h => by simp [List.getD, hlp]; rfl)
      have HNX : Hid (readK fs op (k + 1) = setF (readK fs op k) ((lettersP op).getD k 0) (valF op ((lettersP op).getD k 0) fs[k + 1])) := hide (by rw [readK, hgd])
      have HCN : Hid (op = 1 → (lettersP op).getD k 0 = 105 → isC fs[k + 1] = true) := hide (fun e1 e2 => by
        subst e1
        have := const_at e2
        subst this
        exact hcn.out rfl _ (List.getElem?_eq_getElem hfl))
      have hm := HLM.out ((lettersP op).getD k 0) (by simp [List.getD, hlp])
      have hxo := readK_op fs op k
      clear hgd
      generalize fs[k + 1] = G at *
      generalize (lettersP op).getD k 0 = cl at *
      generalize hxx : readK fs op k = x at *
      have HXX := hide hxx
      clear hxx
      by_cases h1 : op = 1
      · have hx1 : (x.op == 1) = true := by rw [hxo, h1]; rfl
        have H1 := hide h1
        clear h1 hxo
        rcases hm with hcl | hcl | hcl | hcl
        · have hb1 : ((((usesS op)[k]'hlt).toNat : Int)) = 100 := (HLET.out hlt).trans (by rw [hcl]; rfl)
          have HNX2 : Hid (readK fs op (k + 1) = ⟨x.op, idx G, x.a, x.b, x.imm⟩) := hide (by rw [HNX.out, hcl]; simp [setF, valF, H1.out])
          have HCALL := fun w => hide (l1Index_any G w)
          clear hcl
          go_wp2_with (go_at_call 15; refine (HCALL _).out.mono ?_; rintro e w2 ⟨rfl, hb2⟩; have D2 := HD.out.next hb2; obtain ⟨j0, j1, j2, j3, j4⟩ := D2.ins; have jf := D2.fx; have jl := D2.lt; have HD2 := hide D2; clear D2 hb2)
          have HD3 : Hid (RdI w X (readK fs op (k + 1)) (w2.setCell ⟨X, 1, none⟩ (.int .i64 (idx G)))) := hide (by
            rw [HNX2.out]
            refine HD2.out.put ?_
            exact ⟨(World.cell?_setCell_other _ _ _ _ (by intro e; injection e with _ e2; omega)).trans j0, World.cell?_setCell_same _ _ _ j1, (World.cell?_setCell_other _ _ _ _ (by intro e; injection e with _ e2; omega)).trans j2, (World.cell?_setCell_other _ _ _ _ (by intro e; injection e with _ e2; omega)).trans j3, (World.cell?_setCell_other _ _ _ _ (by intro e; injection e with _ e2; omega)).trans j4⟩)
          go_wp2
          exact ⟨⟨k + 1, by omega, by go_num, HD3⟩, by simp [intOf]; omega⟩
        · have hb1 : ((((usesS op)[k]'hlt).toNat : Int)) = 97 := (HLET.out hlt).trans (by rw [hcl]; rfl)
          have HNX2 : Hid (readK fs op (k + 1) = ⟨x.op, x.dst, idx G, x.b, x.imm⟩) := hide (by rw [HNX.out, hcl]; simp [setF, valF, H1.out])
          have HCALL := fun w => hide (l1Index_any G w)
          clear hcl
          go_wp2_with (go_at_call 15; refine (HCALL _).out.mono ?_; rintro e w2 ⟨rfl, hb2⟩; have D2 := HD.out.next hb2; obtain ⟨j0, j1, j2, j3, j4⟩ := D2.ins; have jf := D2.fx; have jl := D2.lt; have HD2 := hide D2; clear D2 hb2)
          have HD3 : Hid (RdI w X (readK fs op (k + 1)) (w2.setCell ⟨X, 2, none⟩ (.int .i64 (idx G)))) := hide (by
            rw [HNX2.out]
            refine HD2.out.put ?_
            exact ⟨(World.cell?_setCell_other _ _ _ _ (by intro e; injection e with _ e2; omega)).trans j0, (World.cell?_setCell_other _ _ _ _ (by intro e; injection e with _ e2; omega)).trans j1, World.cell?_setCell_same _ _ _ j2, (World.cell?_setCell_other _ _ _ _ (by intro e; injection e with _ e2; omega)).trans j3, (World.cell?_setCell_other _ _ _ _ (by intro e; injection e with _ e2; omega)).trans j4⟩)
          go_wp2
          exact ⟨⟨k + 1, by omega, by go_num, HD3⟩, by simp [intOf]; omega⟩
        · have hb1 : ((((usesS op)[k]'hlt).toNat : Int)) = 98 := (HLET.out hlt).trans (by rw [hcl]; rfl)
          have HNX2 : Hid (readK fs op (k + 1) = ⟨x.op, x.dst, x.a, idx G, x.imm⟩) := hide (by rw [HNX.out, hcl]; simp [setF, valF, H1.out])
          have HCALL := fun w => hide (l1Index_any G w)
          clear hcl
          go_wp2_with (go_at_call 15; refine (HCALL _).out.mono ?_; rintro e w2 ⟨rfl, hb2⟩; have D2 := HD.out.next hb2; obtain ⟨j0, j1, j2, j3, j4⟩ := D2.ins; have jf := D2.fx; have jl := D2.lt; have HD2 := hide D2; clear D2 hb2)
          have HD3 : Hid (RdI w X (readK fs op (k + 1)) (w2.setCell ⟨X, 3, none⟩ (.int .i64 (idx G)))) := hide (by
            rw [HNX2.out]
            refine HD2.out.put ?_
            exact ⟨(World.cell?_setCell_other _ _ _ _ (by intro e; injection e with _ e2; omega)).trans j0, (World.cell?_setCell_other _ _ _ _ (by intro e; injection e with _ e2; omega)).trans j1, (World.cell?_setCell_other _ _ _ _ (by intro e; injection e with _ e2; omega)).trans j2, World.cell?_setCell_same _ _ _ j3, (World.cell?_setCell_other _ _ _ _ (by intro e; injection e with _ e2; omega)).trans j4⟩)
          go_wp2
          exact ⟨⟨k + 1, by omega, by go_num, HD3⟩, by simp [intOf]; omega⟩
        · have hb1 : ((((usesS op)[k]'hlt).toNat : Int)) = 105 := (HLET.out hlt).trans (by rw [hcl]; rfl)
          have HNX2 : Hid (readK fs op (k + 1) = ⟨x.op, x.dst, x.a, x.b, constV G⟩) := hide (by rw [HNX.out, hcl]; simp [setF, valF, H1.out])
          have HCALL := fun w => hide (l1Constant_any G (HCN.out H1.out hcl) w)
          clear hcl
          go_wp2_with (go_at_call 31; refine (HCALL _).out.mono ?_; rintro e w2 ⟨rfl, hb2⟩; have D2 := HD.out.next hb2; obtain ⟨j0, j1, j2, j3, j4⟩ := D2.ins; have jf := D2.fx; have jl := D2.lt; have HD2 := hide D2; clear D2 hb2)
          have HD3 : Hid (RdI w X (readK fs op (k + 1)) (w2.setCell ⟨X, 4, none⟩ (.int .i64 (constV G)))) := hide (by
            rw [HNX2.out]
            refine HD2.out.put ?_
            exact ⟨(World.cell?_setCell_other _ _ _ _ (by intro e; injection e with _ e2; omega)).trans j0, (World.cell?_setCell_other _ _ _ _ (by intro e; injection e with _ e2; omega)).trans j1, (World.cell?_setCell_other _ _ _ _ (by intro e; injection e with _ e2; omega)).trans j2, (World.cell?_setCell_other _ _ _ _ (by intro e; injection e with _ e2; omega)).trans j3, World.cell?_setCell_same _ _ _ j4⟩)
          go_wp2
          exact ⟨⟨k + 1, by omega, by go_num, HD3⟩, by simp [intOf]; omega⟩
      · have hx1 : (x.op == 1) = false := by rw [beq_eq_false_iff_ne, hxo]; exact h1
        have H1 := hide h1
        clear h1 hxo
        rcases hm with hcl | hcl | hcl | hcl
        · have hb1 : ((((usesS op)[k]'hlt).toNat : Int)) = 100 := (HLET.out hlt).trans (by rw [hcl]; rfl)
          have HNX2 : Hid (readK fs op (k + 1) = ⟨x.op, idx G, x.a, x.b, x.imm⟩) := hide (by rw [HNX.out, hcl]; simp [setF, valF, H1.out])
          have HCALL := fun w => hide (l1Index_any G w)
          clear hcl
          go_wp2_with (go_at_call 15; refine (HCALL _).out.mono ?_; rintro e w2 ⟨rfl, hb2⟩; have D2 := HD.out.next hb2; obtain ⟨j0, j1, j2, j3, j4⟩ := D2.ins; have jf := D2.fx; have jl := D2.lt; have HD2 := hide D2; clear D2 hb2)
          have HD3 : Hid (RdI w X (readK fs op (k + 1)) (w2.setCell ⟨X, 1, none⟩ (.int .i64 (idx G)))) := hide (by
            rw [HNX2.out]
            refine HD2.out.put ?_
            exact ⟨(World.cell?_setCell_other _ _ _ _ (by intro e; injection e with _ e2; omega)).trans j0, World.cell?_setCell_same _ _ _ j1, (World.cell?_setCell_other _ _ _ _ (by intro e; injection e with _ e2; omega)).trans j2, (World.cell?_setCell_other _ _ _ _ (by intro e; injection e with _ e2; omega)).trans j3, (World.cell?_setCell_other _ _ _ _ (by intro e; injection e with _ e2; omega)).trans j4⟩)
          go_wp2
          exact ⟨⟨k + 1, by omega, by go_num, HD3⟩, by simp [intOf]; omega⟩
        · have hb1 : ((((usesS op)[k]'hlt).toNat : Int)) = 97 := (HLET.out hlt).trans (by rw [hcl]; rfl)
          have HNX2 : Hid (readK fs op (k + 1) = ⟨x.op, x.dst, idx G, x.b, x.imm⟩) := hide (by rw [HNX.out, hcl]; simp [setF, valF, H1.out])
          have HCALL := fun w => hide (l1Index_any G w)
          clear hcl
          go_wp2_with (go_at_call 15; refine (HCALL _).out.mono ?_; rintro e w2 ⟨rfl, hb2⟩; have D2 := HD.out.next hb2; obtain ⟨j0, j1, j2, j3, j4⟩ := D2.ins; have jf := D2.fx; have jl := D2.lt; have HD2 := hide D2; clear D2 hb2)
          have HD3 : Hid (RdI w X (readK fs op (k + 1)) (w2.setCell ⟨X, 2, none⟩ (.int .i64 (idx G)))) := hide (by
            rw [HNX2.out]
            refine HD2.out.put ?_
            exact ⟨(World.cell?_setCell_other _ _ _ _ (by intro e; injection e with _ e2; omega)).trans j0, (World.cell?_setCell_other _ _ _ _ (by intro e; injection e with _ e2; omega)).trans j1, World.cell?_setCell_same _ _ _ j2, (World.cell?_setCell_other _ _ _ _ (by intro e; injection e with _ e2; omega)).trans j3, (World.cell?_setCell_other _ _ _ _ (by intro e; injection e with _ e2; omega)).trans j4⟩)
          go_wp2
          exact ⟨⟨k + 1, by omega, by go_num, HD3⟩, by simp [intOf]; omega⟩
        · have hb1 : ((((usesS op)[k]'hlt).toNat : Int)) = 98 := (HLET.out hlt).trans (by rw [hcl]; rfl)
          have HNX2 : Hid (readK fs op (k + 1) = ⟨x.op, x.dst, x.a, idx G, x.imm⟩) := hide (by rw [HNX.out, hcl]; simp [setF, valF, H1.out])
          have HCALL := fun w => hide (l1Index_any G w)
          clear hcl
          go_wp2_with (go_at_call 15; refine (HCALL _).out.mono ?_; rintro e w2 ⟨rfl, hb2⟩; have D2 := HD.out.next hb2; obtain ⟨j0, j1, j2, j3, j4⟩ := D2.ins; have jf := D2.fx; have jl := D2.lt; have HD2 := hide D2; clear D2 hb2)
          have HD3 : Hid (RdI w X (readK fs op (k + 1)) (w2.setCell ⟨X, 3, none⟩ (.int .i64 (idx G)))) := hide (by
            rw [HNX2.out]
            refine HD2.out.put ?_
            exact ⟨(World.cell?_setCell_other _ _ _ _ (by intro e; injection e with _ e2; omega)).trans j0, (World.cell?_setCell_other _ _ _ _ (by intro e; injection e with _ e2; omega)).trans j1, (World.cell?_setCell_other _ _ _ _ (by intro e; injection e with _ e2; omega)).trans j2, World.cell?_setCell_same _ _ _ j3, (World.cell?_setCell_other _ _ _ _ (by intro e; injection e with _ e2; omega)).trans j4⟩)
          go_wp2
          exact ⟨⟨k + 1, by omega, by go_num, HD3⟩, by simp [intOf]; omega⟩
        · have hb1 : ((((usesS op)[k]'hlt).toNat : Int)) = 105 := (HLET.out hlt).trans (by rw [hcl]; rfl)
          have HNX2 : Hid (readK fs op (k + 1) = ⟨x.op, x.dst, x.a, x.b, idx G⟩) := hide (by rw [HNX.out, hcl]; simp [setF, valF, H1.out])
          have HCALL := fun w => hide (l1Index_any G w)
          clear hcl
          go_wp2_with (go_at_call 15; refine (HCALL _).out.mono ?_; rintro e w2 ⟨rfl, hb2⟩; have D2 := HD.out.next hb2; obtain ⟨j0, j1, j2, j3, j4⟩ := D2.ins; have jf := D2.fx; have jl := D2.lt; have HD2 := hide D2; clear D2 hb2)
          have HD3 : Hid (RdI w X (readK fs op (k + 1)) (w2.setCell ⟨X, 4, none⟩ (.int .i64 (idx G)))) := hide (by
            rw [HNX2.out]
            refine HD2.out.put ?_
            exact ⟨(World.cell?_setCell_other _ _ _ _ (by intro e; injection e with _ e2; omega)).trans j0, (World.cell?_setCell_other _ _ _ _ (by intro e; injection e with _ e2; omega)).trans j1, (World.cell?_setCell_other _ _ _ _ (by intro e; injection e with _ e2; omega)).trans j2, (World.cell?_setCell_other _ _ _ _ (by intro e; injection e with _ e2; omega)).trans j3, World.cell?_setCell_same _ _ _ j4⟩)
          go_wp2
          exact ⟨⟨k + 1, by omega, by go_num, HD3⟩, by simp [intOf]; omega⟩
    · have hke : k = (usesS op).size := by omega
      have HRX : Hid (readIns fs = readK fs op k) := hide (by rw [HRI.out, hke])
      have r0 := HD.out.res 0 (by decide)
      have r1 := HD.out.res 1 (by decide)
      have r2 := HD.out.res 2 (by decide)
      have r3 := HD.out.res 3 (by decide)
      have r4 := HD.out.res 4 (by decide)
      have fr := HD.out.fr
      have HBL := hide HD.out.below
      have hkI : ¬ ((k : Int) < ((usesS op).size : Int)) := by omega
      clear hke
      generalize readK fs op k = x at *
      have hwl : w.heap.size < wr.heap.size := by omega
      go_wp2
      rw [HRX.out]
      refine bodyPost_ret (v := .agg #[.int .i64 x.op, .int .i64 x.dst, .int .i64 x.a, .int .i64 x.b, .int .i64 x.imm]) (by simp [results, Tryz.results19, go_sem, r0, r1, r2, r3, r4]) rfl ⟨rfl, ?_⟩
      exact (((((HBL.out.setCell (p := ⟨w.heap.size, 0, none⟩) (Nat.le_refl _) _).setCell (p := ⟨w.heap.size, 1, none⟩) (Nat.le_refl _) _).setCell (p := ⟨w.heap.size, 2, none⟩) (Nat.le_refl _) _).setCell (p := ⟨w.heap.size, 3, none⟩) (Nat.le_refl _) _).setCell (p := ⟨w.heap.size, 4, none⟩) (Nat.le_refl _) _)
end Go.Proofs.YtdcdgopblbmgoaaGreatDoor
