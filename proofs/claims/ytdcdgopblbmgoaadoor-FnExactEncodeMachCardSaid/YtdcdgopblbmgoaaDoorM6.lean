import Derived.Test.YtdcdgopblbmgoaaDoorW2
import Derived.Test.YtdcdgopblbmgoaaDoorMark
import Derived.Test.YtdcdgopblbmgoaaDoorMem
/-
  The law's markings of a machine program.
-/
namespace Go.Proofs.YtdcdgopblbmgoaaDoor
open Go.RowKit

theorem MBlkAt.iw {w w' : World} {L B L' B' : Nat} {b o : Nat} {x : MBlk} (h : MBlkAt w L B b o x) (k : IW L' B' w w') : ∃ y : MBlk, y.instrs.length = x.instrs.length ∧ MBlkAt w' L B b o y := by
  obtain ⟨ia, ic, h1, h2, h4⟩ := h
  obtain ⟨t, ht⟩ := h2.iw k
  obtain ⟨is, hi1, hi2⟩ := h4.iw k
  exact ⟨⟨is, t⟩, hi1, ia, ic, by rw [hi1]; exact k.slice h1, ht, hi2⟩
/-- How many numbers a marking lays. -/
def mCnt (xs : List MBlk) : Nat := (xs.map fun x => 5 * x.instrs.length + 4).sum
theorem mCnt_snoc (ps : List MBlk) (p : MBlk) : mCnt (ps ++ [p]) = mCnt ps + (5 * p.instrs.length + 4) := by simp [mCnt]
theorem mCnt_take (ps : List MBlk) (k : Nat) : mCnt (ps.take k) ≤ mCnt ps := sum_take_le _ _ _
theorem mCnt_le (xs : List MBlk) : mCnt xs ≤ 5 * (xs.length + mTot xs) := by
  induction xs with
  | nil => simp [mCnt]
  | cons x xs ih =>
    simp only [mCnt, mTot, List.map_cons, List.sum_cons, List.length_cons] at ih ⊢
    omega

set_option maxHeartbeats 1000000 in
theorem markMBlocks_any (a : Option Addr) (n c : Nat) (k : Int) (xs : List MBlk) (L B : Nat) (w : World) (ha : Hid (MBlksAt w L B a xs)) (hx : Hid (n = xs.length)) (ht : Hid (ThawB L B w)) (hl : Hid (MLen xs)) (hn : n ≤ 1048576) (h0 : 0 ≤ k) (h1 : k ≤ 10000000) (h2 : mCnt xs ≤ 10000000) :
    Calls Tryd.prog 96 #[.slice a n c, .int .i64 k] w fun e w' => e = .returned (.int .i64 (k + mCnt xs)) ∧ IW L B w w' := by
  go_enter Tryd.func96, Tryd.ntmps96
  go_wp2
  go_loopw [1, 5] (fun u i wr => ∃ j : Nat, j ≤ n ∧ i = .int .i64 j ∧ u = .int .i64 (k + (mCnt (xs.take j) : Nat)) ∧ Hid (IW L B w wr)) (fun _ i _ => n - (intOf i).toNat)
  case atStart => exact ⟨0, Nat.zero_le _, rfl, by simp [mCnt], IW.refl _ _ _⟩
  case round =>
    obtain ⟨j, hj, rfl, rfl, hw⟩ := hrel
    by_cases hlt : j < n
    · have hjx : j < xs.length := by have := hx.out; omega
      obtain ⟨b, o, rfl, hbB, hc⟩ := ha.out j hjx
      have hS : Hid (mCnt (xs.take (j + 1)) = mCnt (xs.take j) + (5 * xs[j].instrs.length + 4)) := by show _ = _; rw [take_next _ _ hjx, mCnt_snoc]
      have hb2 : mCnt (xs.take j) + (5 * xs[j].instrs.length + 4) ≤ 10000000 := by
        have h3 := hS.out
        have h4 := mCnt_take xs (j + 1)
        omega
      have hl1 := hl.out _ (List.getElem_mem hjx)
      obtain ⟨Y, hsh, ia, ic, e1, _, hi⟩ := hc.iw hw.out
      have HC := hide hc
      have ft := hide (hw.out.thawB ht.out)
      have HI := hide hi
      have HS2 := hide hsh
      have hYi : Y.instrs.length ≤ 1048576 := by omega
      have hpb : 5 * Y.instrs.length + 4 ≤ 10000000 := by omega
      rw [← hsh] at hb2
      clear hc hi hsh
      generalize hQ : mCnt (xs.take j) = Q at *
      have HQ := hide hQ
      clear hQ
      go_wp2_with fail
      refine (markInstrs_any _ _ _ _ Y.instrs L B _ HI rfl ft (by omega) (by omega) (by omega)).mono ?_
      rintro e w3 ⟨rfl, hiw3⟩
      obtain ⟨Y3, _, _, _, _, ⟨t0, t1, t2, t3⟩, _⟩ := HC.out.iw (hw.out.trans hiw3)
      have ft3 := hiw3.thawB ft.out
      have f0 := ft3 b (o + j * 5 + 1) hbB
      have f1 := ft3 b (o + j * 5 + 1 + 1) hbB
      have f2 := ft3 b (o + j * 5 + 1 + 2) hbB
      have f3 := ft3 b (o + j * 5 + 1 + 3) hbB
      have HIW3 := hide hiw3
      clear hiw3 ft3 e1
      go_wp2
      exact ⟨⟨j + 1, by omega, by go_num, by rw [hS.out, ← HS2.out]; go_num, (hw.out.trans HIW3.out).set4 hbB t0 t1 t2 t3 _ _ _ _⟩, by simp [intOf]; omega⟩
    · have hjn : j = n := by omega
      subst hjn
      have E := hide (List.take_of_length_le (l := xs) (i := j) (by have := hx.out; omega))
      go_wp2
      go_ret
      exact ⟨ret_int (by rw [E.out]), hw.out⟩

set_option maxHeartbeats 400000 in
theorem markMach_any (v : Int) (a : Option Addr) (n c : Nat) (k : Int) (xs : List MBlk) (L B : Nat) (w : World) (ha : Hid (MBlksAt w L B a xs)) (hx : Hid (n = xs.length)) (ht : Hid (ThawB L B w)) (hl : Hid (MLen xs)) (hB : B ≤ w.heap.size) (hn : n ≤ 1048576) (h0 : 0 ≤ k) (h1 : k ≤ 10000000) (h2 : mCnt xs ≤ 10000000) :
    Calls Tryd.prog 45 #[.agg #[.int .i64 v, .slice a n c], .int .i64 k] w fun e w' => e = .returned (.int .i64 (k + mCnt xs)) ∧ Mod L B w w' := by
  go_enter Tryd.func45, Tryd.ntmps45
  go_wp2_with fail
  refine (markMBlocks_any _ _ _ _ xs L B _ ?q1 hx ?q2 hl hn h0 h1 h2).mono ?_
  case q1 => exact ha.out.keep ((balloc (Below.refl _ _) _).mono hB)
  case q2 => exact ht.out.keepS (Same.of_below ((balloc (Below.refl _ _) _).mono hB))
  rintro e w1 ⟨rfl, hiw⟩
  go_wp2
  go_ret
  exact ⟨rfl, (Mod.of_below (balloc (Below.refl _ _) _)).trans (Mod.of_iw hiw)⟩
end Go.Proofs.YtdcdgopblbmgoaaDoor

/-
  Texts as strings. Imports nothing of the program.
-/
namespace Go.Proofs.YtdcdgopblbmgoaaDoor
open Go.RowKit

/-- A text as a string. -/
def strOf (l : List UInt8) : ByteArray := ⟨l.toArray⟩
theorem strOf_size (l : List UInt8) : (strOf l).size = l.length := by simp [strOf, ByteArray.size]
theorem strOf_append (a b : List UInt8) : strOf a ++ strOf b = strOf (a ++ b) := by
  apply ByteArray.ext; simp [strOf, ByteArray.data_append]
end Go.Proofs.YtdcdgopblbmgoaaDoor
