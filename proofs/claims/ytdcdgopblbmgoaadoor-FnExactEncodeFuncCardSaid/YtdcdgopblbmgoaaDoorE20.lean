import Derived.Test.YtdcdgopblbmgoaaDoorW4
import Derived.Deep.DrawnRows
import Derived.Test.YtdcdgopblbmgoaaDoorPure2
import Derived.Test.YtdcdgopblbmgoaaDoorW5
import Derived.ProofKit
import Derived.Deep.Slices
import Derived.Lib.SmallJoins
/-
  The law on EncodeFunc.
-/
namespace Go.Proofs.YtdcdgopblbmgoaaDoor
open Go.RowKit
attribute [local go_sem ↓] Go.wp_at_zero Go.wp_at_succ

set_option maxRecDepth 100000 in
set_option maxHeartbeats 4000000 in
theorem lawEnc_any (v : Int) (a : Option Addr) (n c : Nat) (xs : List Blk) (w : World) (ha : Hid (BlksAt w 0 w.heap.size a xs)) (hx : Hid (n = xs.length)) (hn : n ≤ 9223372036854775807) (hs : Hid (LenOk xs)) (hO : Hid (OpTabW w)) (hT : Hid (TerTabW w)) (hP : Hid (TabOk w.heap.size w)) :
    Calls Tryd.prog 4 #[.agg #[.int .i64 v, .slice a n c]] w fun e w' => e = .returned (.bool true) ∧ Below w.heap.size w w' := by
  by_cases hbig : (1048576 : Int) < (n + blksTot xs : Nat)
  · have hz := szR_neg hbig
    go_enter Tryd.func4, Tryd.ntmps4
    go_wp2_with (go_at_call 10; refine (szFunc_any _ _ _ _ _ xs 0 w.heap.size _ (ha.out.keep (balloc (Below.refl _ _) _)) hx hn hs (by omega) (by omega) (by simp)).mono ?_; rintro e w1 ⟨rfl, hb1⟩)
    go_ret
    exact ⟨rfl, bnext (balloc (Below.refl _ _) _) hb1⟩
  · have hz : szR 1048576 (n + blksTot xs) = 1048576 - (n + blksTot xs : Nat) := szR_pos (by omega)
    have hnn : n ≤ 1048576 := by omega
    have htot : Hid (xs.length + blksTot xs ≤ 1048576) := by have := hx.out; show _ ≤ _; omega
    have hlen := hide (len_of_tot htot.out)
    have hnon : (0 : Int) ≤ 1048576 - (n + blksTot xs : Nat) := by omega
    have hzt : 0 < w.heap.size ∧ 1 < w.heap.size := ⟨hO.out.1, hT.out.1⟩
    generalize hN : n + blksTot xs = N at *
    have HN := hide hN
    clear hN hbig
    go_enter Tryd.func4, Tryd.ntmps4
    go_wp2_with fail
    refine (szFunc_any _ _ _ _ _ xs 0 w.heap.size _ ?q1 hx hn hs (by omega) (by omega) (by simp)).mono ?_
    case q1 => exact ha.out.keep (balloc (Below.refl _ _) _)
    rintro e w1 ⟨rfl, hb1⟩
    rw [unhide HN, hz]
    have F1 : FV w1 w.heap.size v a n c := (FV.new w v a n c 24).keep (hb1.block _ (by simp))
    have HB1 := hide (bnext (balloc (Below.refl w.heap.size w) _) hb1)
    have hz1 := hb1.size
    simp at hz1
    clear hb1 hz
    have k0 := F1.1
    have k1 := F1.2
    go_wp2_with fail
    refine (toFunc_any v a n c xs 0 w.heap.size _ (hide (ha.out.keep HB1.out)) hx hlen hnn (by omega)).mono ?_
    rintro e w2 ⟨a2, c2, rfl, hb2, hi2, -⟩
    have F2 := F1.keep (hb2.block _ (by omega))
    have s2 := hb2.size
    have HB2 := hide (bnext HB1.out hb2)
    have HI2 := hide hi2
    clear k0 k1 F1 hb2 hi2
    have k0 := F2.1
    have k1 := F2.2
    go_wp2_with fail
    refine (encS_any v a2 n c2 xs w1.heap.size w2.heap.size _ HI2 hx htot (Nat.le_refl _)).mono ?_
    have hbl := encS_le ⟨v, xs⟩ htot.out
    generalize hES : encS ⟨v, xs⟩ = bs at *
    have HES := hide hES
    clear hES
    rintro e w3 ⟨v3, rfl, hb3, -, ho3⟩
    obtain ⟨a0, c0, L0, M0, rfl, hy0, -, hr0⟩ := bytes_owned ho3
    have F3 := F2.keep (hb3.block _ (by omega))
    have s3 := hb3.size
    have HB3 := hide (bnext HB2.out hb3)
    have HY0 := hide hy0
    clear k0 k1 F2 hb3 hy0 ho3 HI2
    have k0 := F3.1
    have k1 := F3.2
    go_wp2_with fail
    refine (toFunc_any v a n c xs 0 w.heap.size _ (hide (ha.out.keep HB3.out)) hx hlen hnn (by omega)).mono ?_
    rintro e w4 ⟨a4, c4, rfl, hb4, hi4, ht4⟩
    have F4 := F3.keep (hb4.block _ (by omega))
    have s4 := hb4.size
    have HB4 := hide (bnext HB3.out hb4)
    have HY4 := hide (HY0.out.keepS (w' := w4) (fun q q1 q2 => hb4.block q (by omega)))
    have HI4 := hide hi4
    have HT4 := hide ht4
    clear k0 k1 F3 hb4 hi4 ht4 HY0
    go_wp2_with fail
    have b4 := fun x => balloc (Below.refl w4.heap.size w4) x
    refine (encI_any v a4 n c4 xs w3.heap.size w4.heap.size _ (hide (HI4.out.keep (b4 _))) hx htot (by simp) (hide (hO.out.keep (balloc HB4.out _) (by omega))) (hide (hT.out.keep (balloc HB4.out _) (by omega))) (hide (hP.out.next (balloc HB4.out _)))).mono ?_
    rw [HES.out]
    rintro e w5 ⟨v5, rfl, hb5, ho5⟩
    obtain ⟨a5, c5, L5, M5, rfl, hy5, ht5, hr5⟩ := bytes_owned ho5
    have s5 := hb5.size
    simp at s5 hr5
    have h45 : Below w4.heap.size w4 w5 := bnext (b4 _) hb5
    have HL5 : Hid (LSE w v a n c a4 c4 a0 a5 bs w3.heap.size w4.heap.size L0 M0 L5 M5 xs w5) := hide (by
      refine ⟨bnext HB4.out h45, F4.keep (h45.block _ (by omega)), (FV.new w4 v a4 n c4 29).keep (hb5.block _ (by simp)), HY4.out.keepS (fun q _ q2 => h45.block q (by omega)), hy5, ht5, HI4.out.keep h45, (ThawB.of HT4.out).keepS (Same.of_below h45), by omega, by omega, by omega, by omega⟩)
    clear h45 hb5 ho5 hy5 ht5 b4 F4 HY4 HI4 HT4
    have r0 := HL5.out.r0
    have r5 := HL5.out.r5
    have hbz : M0 ≤ w5.heap.size ∧ M5 ≤ w5.heap.size := by omega
    go_wp2_with fail
    refine (eqBytes_yes a5 a0 bs.length c5 c0 bs L5 M5 L0 M0 _ (hide HL5.out.q) (hide HL5.out.p) (hide rfl) hbl (by omega) (by omega)).mono ?_
    rintro e w6 ⟨rfl, hb6⟩
    have h6 := HL5.out.next hb6
    have s6 := hb6.size
    have g0 := h6.x.1
    have g1 := h6.x.2
    have f0 := h6.f.1
    have f1 := h6.f.2
    have HL6 := hide h6
    clear hb6 h6 HL5
    have hz6 := HL6.out.z
    go_wp2_with fail
    go_region_held3 (fun w' => w'.cell? ⟨w.heap.size, 0, none⟩ = some (.int .i64 v) ∧ w'.cell? ⟨w.heap.size, 1, none⟩ = some (.slice a n c) ∧ w'.cell? ⟨w4.heap.size, 0, none⟩ = some (.int .i64 v) ∧ w'.cell? ⟨w4.heap.size, 1, none⟩ = some (.slice a4 n c4)) (go_keep)
      (first
        | (go_at_call 12; refine (toFunc_any v a n c xs 0 w.heap.size _ (hide (ha.out.keep HL6.out.below.drew)) hx hlen hnn (by show w.heap.size ≤ w6.heap.size; omega)).mono ?_; rintro e w7 ⟨a7, c7, rfl, hb7, hi7, -⟩; have v7 := (Below.refl w6.heap.size w6).drew.trans hb7; have h7 := HL6.out.next v7; have p0 := h7.x.1; have p1 := h7.x.2; have q0 := h7.f.1; have q1 := h7.f.2; have HL7 := hide h7; have HI7 := hide hi7; have s7 := v7.size; clear hb7 hi7 h7 v7)
        | (go_at_call 14; refine (eqFunc_yes v a4 a7 n c4 c7 xs w3.heap.size w4.heap.size w6.heap.size w7.heap.size _ (hide HL7.out.b) (hide HI7.out) hx hlen hnn (by have := HL7.out.z; omega) (Nat.le_refl _)).mono ?_; rintro e w8 ⟨rfl, hb8⟩; have h8 := HL7.out.next hb8; have x0 := h8.x.1; have x1 := h8.x.2; have y0 := h8.f.1; have y1 := h8.f.2; have HL8 := hide h8; have s8 := hb8.size; clear hb8 h8))
    clear p0 p1 q0 q1 g0 g1 f0 f1 HI7 HL6 HL7
    have hsc : shsCnt (xs.map Blk.sh) ≤ 10000000 := by have := shsCnt_le' xs; have := htot.out; omega
    have hz8 := HL8.out.z
    go_wp2_with fail
    refine (markFunc_any v a4 n c4 1 xs w3.heap.size w4.heap.size _ (hide HL8.out.b) hx (hide HL8.out.y) hlen (by omega) hnn (by omega) (by omega) hsc).mono ?_
    generalize shsCnt (xs.map Blk.sh) = SC at *
    rintro e w9 ⟨rfl, hm9⟩
    have s9 := hm9.size
    have HB9 := hide (hm9.below HL8.out.below (by omega))
    have F9 := HL8.out.f.keep (hm9.block _ (by omega) (by omega))
    have HP9 := hide (HL8.out.p.keepS (w' := w9) (fun q q1 q2 => hm9.block q (by omega) (by omega)))
    have HQ9 := hide (HL8.out.q.keepS (w' := w9) (fun q q1 q2 => hm9.block q (by omega) (by omega)))
    have HT9 := hide (HL8.out.t.keepS (w' := w9) (fun q q1 q2 => hm9.block q (by omega) (by omega)))
    clear hm9 HL8 x0 x1 y0 y1
    have hkp : ¬ (1 + (SC : Int) < 0) := by omega
    go_wp2_with fail
    refine (eqBytes_yes a5 a0 bs.length c5 c0 bs L5 M5 L0 M0 _ HQ9 HP9 (hide rfl) hbl (by omega) (by omega)).mono ?_
    rintro e w10 ⟨rfl, hb10⟩
    have s10 := hb10.size
    have HB10 := hide (bnext HB9.out hb10)
    have F10 := F9.keep (hb10.block _ (by omega))
    have HP10 := hide (HP9.out.keepS (w' := w10) (fun q q1 q2 => hb10.block q (by omega)))
    have HQ10 := hide (HQ9.out.keepS (w' := w10) (fun q q1 q2 => hb10.block q (by omega)))
    have HT10 := hide (HT9.out.keepS (w' := w10) (fun q q1 q2 => hb10.block q (by omega)))
    clear hb10 F9 HP9 HQ9 HT9 HB9
    go_wp2_with fail
    refine (markBytes_any a5 bs.length c5 1 bs L5 M5 _ HQ10 (hide rfl) HT10 hbl (by omega) (by omega)).mono ?_
    rintro e w11 ⟨rfl, hm11, hq11⟩
    have s11 := hm11.size
    have HB11 := hide (show Below w.heap.size w w11 from ⟨hm11.os.trans HB10.out.os, hm11.tape.trans HB10.out.tape, hm11.output.trans HB10.out.output, Nat.le_trans HB10.out.size hm11.size, fun i hi => (hm11.block i (by omega) (by omega)).trans (HB10.out.block i hi)⟩)
    have F11 := F10.keep (hm11.block _ (by omega) (by omega))
    have HP11 := hide (HP10.out.keepS (w' := w11) (fun q q1 q2 => hm11.block q (by omega) (by omega)))
    have HQ11 := hide hq11
    clear hm11 hq11 F10 HP10 HQ10 HT10 HB10
    go_wp2_with fail
    refine (heldBytes_any a5 bs.length c5 1 L5 M5 _ HQ11 hbl (by omega) (by omega)).mono ?_
    rintro e w12 ⟨rfl, hw12⟩
    rw [hw12]
    clear hw12 w12 HQ11
    have hqp : ¬ (1 + (bs.length : Int) < 0) := by omega
    have hqe : (1 + (bs.length : Int) != 1 + (bs.length : Int)) = false := by simp
    have f0 := F11.1
    have f1 := F11.2
    go_wp2_with fail
    refine (toFunc_any v a n c xs 0 w.heap.size _ (hide (ha.out.keep HB11.out)) hx hlen hnn (by omega)).mono ?_
    rintro e w13 ⟨a13, c13, rfl, hb13, hi13, -⟩
    have s13 := hb13.size
    have HB13 := hide (bnext HB11.out hb13)
    have HP13 := hide (HP11.out.keepS (w' := w13) (fun q q1 q2 => hb13.block q (by omega)))
    have HI13 := hide hi13
    clear hb13 hi13 f0 f1 F11 HP11 HB11
    go_wp2_with fail
    refine (encI_any v a13 n c13 xs w11.heap.size w13.heap.size _ HI13 hx htot (Nat.le_refl _) (hide (hO.out.keep HB13.out (by omega))) (hide (hT.out.keep HB13.out (by omega))) (hide (hP.out.next HB13.out))).mono ?_
    rw [HES.out]
    rintro e w14 ⟨v14, rfl, hb14, ho14⟩
    obtain ⟨a14, c14, L14, M14, rfl, hy14, -, hr14⟩ := bytes_owned ho14
    have s14 := hb14.size
    have HB14 := hide (bnext HB13.out hb14)
    have HP14 := hide (HP13.out.keepS (w' := w14) (fun q q1 q2 => hb14.block q (by omega)))
    have HY14 := hide hy14
    clear hb14 ho14 hy14 HP13 HB13 HI13
    go_wp2_with fail
    refine (eqBytes_yes a14 a0 bs.length c14 c0 bs L14 M14 L0 M0 _ HY14 HP14 (hide rfl) hbl (by omega) (by omega)).mono ?_
    rintro e w15 ⟨rfl, hb15⟩
    go_wp2
    go_ret
    exact ⟨rfl, bnext HB14.out hb15⟩
end Go.Proofs.YtdcdgopblbmgoaaDoor

/-
  From what a reading of the argument says to how the function lies in memory.
-/
namespace Go.Proofs.YtdcdgopblbmgoaaDoor
open Go.RowKit Go.Deep

variable {H : Type} {enc : TypeId × Value → H} {P : Program} {w : World} {base : Nat} {spare : Nat → Bool} {held : Bool}

theorem block_of_cell {a : Addr} {v : Value} (h : w.cell? a = some v) : a.block < w.heap.size := by
  unfold World.cell? at h
  split at h
  · rename_i c _ _ hb
    exact (Array.getElem?_eq_some_iff.1 hb).1
  · cases h

theorem read_slice {α : Type} [Inhabited α] {t e : TypeId} {fuel s : Nat} {cs : List Value} {x : DataW H × List MemPlace} (ht : P.underlying t = some (.slice e)) (hs : P.cellsOf e = s) (hs0 : 0 < s) (Q : Nat → Nat → α → Prop)
    (hQ : ∀ b o cs' n d, (∀ j, j < s → w.cell? ⟨b, o + j, none⟩ = cs'[j]?) → cs'.length = s → DataW.trod enc P w base spare held n e cs' = some d → ∃ x, Q b o x)
    (h : DataW.trod enc P w base spare held fuel t cs = some x) :
    ∃ (a : Option Addr) (xs : List α) (c : Nat), cs = [.slice a xs.length c] ∧ xs.length ≤ maxLen ∧ ∀ i (hi : i < xs.length), ∃ b o, a = some ⟨b, o, none⟩ ∧ b < w.heap.size ∧ Q b (o + i * s) xs[i] := by
  rcases open_slice ht h with ⟨rfl, _⟩ | ⟨a, len, cap, m, n, D, Pl, rfl, _, hl, hm, hmm, _, hx⟩
  · exact ⟨none, [], 0, rfl, Nat.zero_le _, fun i hi => absurd hi (by simp)⟩
  rw [hs] at hx
  have hlm : len ≤ m := by rw [hmm]; split <;> omega
  have cellsOf : ∀ i, i < len → ∃ cs', cs'.length = s ∧ (∀ j, j < s → w.cell? ((a.add (i * s)).add j) = cs'[j]?) ∧ DataW.trod enc P w base spare held n e cs' = some (D i, Pl i) := fun i hi => by
    obtain ⟨cs', h1, h2⟩ := hx i (by omega)
    obtain ⟨_, h3, h4⟩ := World.cells?_some h1
    exact ⟨cs', h3, h4, h2⟩
  obtain ⟨b, o, spot⟩ := a
  by_cases hlen : len = 0
  · subst hlen
    exact ⟨some ⟨b, o, spot⟩, [], cap, rfl, Nat.zero_le _, fun i hi => absurd hi (by simp)⟩
  have hspot : spot = none := by
    obtain ⟨cs', h1, h2, _⟩ := cellsOf 0 (by omega)
    have h3 := h2 0 hs0
    rw [List.getElem?_eq_getElem (by omega)] at h3
    simpa [Addr.add] using World.cell?_spot h3
  subst hspot
  obtain ⟨f, hf⟩ := choose_lt (α := α) (n := len) (p := fun i x => b < w.heap.size ∧ Q b (o + i * s) x) (fun i hi => by
    obtain ⟨cs', h1, h2, h3⟩ := cellsOf i hi
    have h4 : ∀ j, j < s → w.cell? ⟨b, o + i * s + j, none⟩ = cs'[j]? := fun j hj => by
      have := h2 j hj
      rw [Addr.add_mid, Addr.add_mid] at this
      exact this
    obtain ⟨x, hx⟩ := hQ b (o + i * s) cs' n _ h4 h1 h3
    have h5 := h4 0 hs0
    rw [List.getElem?_eq_getElem (by omega)] at h5
    exact ⟨x, block_of_cell h5, hx⟩)
  refine ⟨some ⟨b, o, none⟩, (List.range len).map f, cap, by simp, by simp; omega, fun i hi => ?_⟩
  simp only [List.length_map, List.length_range] at hi
  obtain ⟨h1, h2⟩ := hf i hi
  exact ⟨b, o, rfl, h1, by simpa using h2⟩
end Go.Proofs.YtdcdgopblbmgoaaDoor
