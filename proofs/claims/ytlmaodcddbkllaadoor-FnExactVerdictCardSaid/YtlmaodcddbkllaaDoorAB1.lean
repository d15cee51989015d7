import Derived.Test.YtlmaodcddbkllaaDoorSP1
import Derived.Test.YtlmaodcddbkllaaDoorDFP
/-
  avoidedBlocks of the program.
-/
namespace Go.Proofs.YtlmaodcddbkllaaDoor
open Go.RowKit

def avL (b : Nat) : List Nat := (List.range b).filter fun x => x != 0
def Iav (b : Nat) : Nat → Nat → Nat := fun i => if i = 0 then addsN (fun _ => 0) (avL b) else fun _ => 0
def Tse (b : Nat) : Nat → Nat → Nat := fun i => if i < b then addN (fun _ => 0) i else fun _ => 0
theorem zero_wd : WdOk (fun _ => 0) := fun _ => (by decide : 0 < 18446744073709551616)
theorem avL_zero : avL 1 = [] := rfl
theorem avL_succ {b : Nat} (h : b ≠ 0) : avL (b + 1) = avL b ++ [b] := by
  unfold avL
  rw [List.range_succ, List.filter_append]
  simp [h]
theorem avL_mem {b x : Nat} : x ∈ avL b ↔ x < b ∧ x ≠ 0 := by simp [avL]
theorem iav_wd (b : Nat) : AllWd (Iav b) := fun i => by
  unfold Iav
  split
  · exact adds_wd _ zero_wd
  · exact zero_wd
theorem tse_wd (b : Nat) : AllWd (Tse b) := fun i => by
  unfold Tse
  split
  · exact add_wd zero_wd i
  · exact zero_wd
theorem iav_has {n b x : Nat} (hx : x < n) : hasN (Iav n b) x = true ↔ b = 0 ∧ x ≠ 0 := by
  unfold Iav
  by_cases e : b = 0
  · rw [if_pos e, has_adds, has_none, Bool.or_false, decide_eq_true_eq, avL_mem]
    exact ⟨fun h => ⟨e, h.2⟩, fun h => ⟨hx, h.2⟩⟩
  · rw [if_neg e, has_none]
    exact ⟨fun h => (by cases h), fun h => absurd h.1 e⟩
theorem tse_has {n b x : Nat} (hb : b < n) : hasN (Tse n b) x = true ↔ x = b := by
  unfold Tse
  rw [if_pos hb, has_add, has_none, Bool.or_false, decide_eq_true_eq]
theorem iav_next0 : Iav 1 = fun i => Iav 0 i := by funext i; unfold Iav; rw [avL_zero]; rfl
theorem iav_next {b : Nat} (h : b ≠ 0) : (fun i => if i = 0 then addsN (Iav b 0) [b] else Iav b i) = Iav (b + 1) := by
  funext i
  unfold Iav
  by_cases e : i = 0
  · subst e
    simp only [if_true]
    rw [avL_succ h]
    unfold addsN
    rw [List.foldl_append]
  · simp only [if_neg e]
theorem tse_next (b : Nat) : (fun i => if i = b then addsN (Tse b b) [b] else Tse b i) = Tse (b + 1) := by
  funext i
  unfold Tse
  by_cases e : i = b
  · subst e
    simp only [if_true, Nat.lt_irrefl, if_false]
    rw [if_pos (Nat.lt_succ_self _)]
    rfl
  · simp only [if_neg e]
    by_cases h : i < b
    · rw [if_pos h, if_pos (by omega)]
    · rw [if_neg h, if_neg (by omega)]
theorem SetsAt.grown {w w' : World} {G n K b : Nat} {gs : Nat → Nat} {Ws : Nat → Nat → Nat} (h : SetsAt w G n K gs Ws) (k : w.grownBy w' (some b)) (h1 : G ≠ b) (h2 : ∀ i, i < n → gs i ≠ b) : SetsAt w' G n K gs Ws :=
  ⟨h.row.of_block (k.block _ h.row.lt (fun e => h1 (by injection e))), fun i hi => (h.set i hi).of_block (k.block _ (h.set i hi).lt (fun e => h2 i hi (by injection e))), h.inj, h.out⟩
set_option maxHeartbeats 2000000 in
set_option maxRecDepth 100000 in
theorem avoided_any (pa : Option Addr) (n pc b0 o0 n0 c0 : Nat) (src : List (List Nat)) (ord : List Nat) (L1 B1 L2 B2 : Nat) (w : World) (hsrc : Hid (IntssAt w L2 B2 pa (src.map natI))) (hs : Hid (n = src.length)) (hord : Hid (IntsAt w L1 B1 (some ⟨b0, o0, none⟩) (natI ord))) (h0 : Hid (n0 = ord.length)) (hn : n ≤ 1000) (hn1 : 0 < n) (hn0 : n0 ≤ 1000) (hn0' : 0 < n0) (hB1 : B1 ≤ w.heap.size) (hB2 : B2 ≤ w.heap.size) (ho : Hid (∀ b ∈ ord, b < n)) (hsr : Hid (∀ l ∈ src, l.length ≤ 2000 ∧ ∀ t ∈ l, t < n)) :
    Calls Tryd.prog 124 #[.slice pa n pc, .slice (some ⟨b0, o0, none⟩) n0 c0] w fun e w' => ∃ G gs Ws, e = .returned (.slice (some ⟨G, 0, none⟩) n n) ∧ Below w.heap.size w w' ∧ SetsAt w' G n ((n + 63) / 64) gs Ws ∧ AllWd Ws ∧ ∀ b, b < n → ∀ x, x < n → (hasN (Ws b) x = true ↔ Sp (Iav n) (Tse n) (· ∈ ord) (fun b => src.getD b []) b x) := by
  have hKb : (n + 63) / 64 ≤ 16 := by omega
  have hKn : n ≤ 64 * ((n + 63) / 64) := by omega
  have HN1 := hide (newSets_blockNo n n w hn (by omega))
  have HN2 := hide (fun W => newSets_blockNo n n W hn (by omega))
  generalize (n + 63) / 64 = K at *
  go_enter Tryd.func124, Tryd.ntmps124
  go_wp2_with fail
  refine HN1.out.mono ?_
  rintro e w1 ⟨G, gs, rfl, hG, hb1, hs1, hu1⟩
  have HB1 := hide hb1
  have HS1 := hide hs1
  clear hb1 hs1 HN1
  go_wp2_with fail
  refine (HN2.out w1).mono ?_
  rintro e w2 ⟨G2, gs2, rfl, hG2, hb2, hs2, hu2⟩
  have HB2 := hide (bnext HB1.out hb2)
  have HS2 := hide (HS1.out.keep hb2)
  have HT2 := hide hs2
  have hGl : G < w1.heap.size := HS1.out.row.lt
  have HGL : Hid (∀ i, i < n → gs i < w1.heap.size) := hide (fun i hi => (HS1.out.set i hi).lt)
  have HU1 := hide hu1
  have HG1 := hide HB1.out.size
  have HU2 := hide hu2
  clear hb2 hs2 HN2 HB1 HS1 hu1 hu2
  go_wp2_with fail
  have HD1 : Hid (∀ i j, i < n → j < n → gs2 i ≠ gs j) := hide (fun i j hi hj e => by have := HGL.out j hj; have := HU2.out i hi; omega)
  have HD2 : Hid (∀ i, i < n → G ≠ gs2 i) := hide (fun i hi e => by have := HU2.out i hi; omega)
  have HD3 : Hid (∀ i, i < n → G2 ≠ gs i) := hide (fun i hi e => by have := HGL.out i hi; omega)
  have HI0 : Hid (SetsAt w2 G n K gs (Iav 0)) := hide (by
    have e : (fun _ _ => 0 : Nat → Nat → Nat) = Iav 0 := by funext i; unfold Iav; split <;> rfl
    rw [← e]; exact HS2.out)
  have HT0 : Hid (SetsAt w2 G2 n K gs2 (Tse 0)) := hide (by
    have e : (fun _ _ => 0 : Nat → Nat → Nat) = Tse 0 := by funext i; unfold Tse; rw [if_neg (by omega)]
    rw [← e]; exact HT2.out)
  clear HS2 HT2
  go_loopw [18] (fun u wr => ∃ b : Nat, b ≤ n ∧ u = .int .i64 b ∧ Hid (Below w.heap.size w wr) ∧ Hid (w2.heap.size ≤ wr.heap.size) ∧ Hid (SetsAt wr G n K gs (Iav b)) ∧ Hid (SetsAt wr G2 n K gs2 (Tse b))) (fun u _ => n - (intOf u).toNat)
  case atStart => exact ⟨0, Nat.zero_le _, rfl, HB2, hide (Nat.le_refl _), HI0, HT0⟩
  case round =>
    obtain ⟨b, hb, rfl, HB, HZ, HI, HT⟩ := hrel
    clear HI0 HT0 HB2
    by_cases hlt : b < n
    · have k1 := HT.out.row.cell hlt
      have k0 := HI.out.row.cell hn1
      go_wp2_with fail
      have HIA : Hid (IntsAt (wr.alloc (.cells #[.int .i64 (b : Int)] 116)) wr.heap.size (wr.heap.size + 1) (some ⟨wr.heap.size, 0, none⟩) ([b].map Int.ofNat)) := hide (ints_one wr b _)
      have HRB : Hid (∀ t ∈ [b], t < 64 * K) := hide (fun t ht => by
        have : t = b := by simpa using ht
        omega)
      have HTA := hide (HT.out.keep (balloc (Below.refl _ _) (.cells #[.int .i64 (b : Int)] 116)))
      have HIA2 := hide (HI.out.keep (balloc (Below.refl _ _) (.cells #[.int .i64 (b : Int)] 116)))
      have HBA := hide (balloc HB.out (.cells #[.int .i64 (b : Int)] 116))
      have hzA : wr.heap.size + 1 ≤ (wr.alloc (.cells #[.int .i64 (b : Int)] 116)).heap.size := by simp
      have hlg : gs2 b < wr.heap.size := (HT.out.set b hlt).lt
      have hl0 : gs 0 < wr.heap.size := (HI.out.set 0 hn1).lt
      clear HB HI HT k1 k0
      generalize wr.alloc (.cells #[.int .i64 (b : Int)] 116) = wa at *
      refine (add_blockNo (gs2 b) K 1 1 (Tse b b) _ [b] wr.heap.size (wr.heap.size + 1) wa HIA (hide rfl) (by omega) HRB (by omega) (hide (tse_wd b b)) (hide (HTA.out.set b hlt)) hzA (by omega)).mono ?_
      rintro e w5 ⟨rfl, hg5, hr5⟩
      have HT5 : Hid (SetsAt w5 G2 n K gs2 (Tse (b + 1))) := hide (by rw [← tse_next]; exact HTA.out.wrote hlt hg5 hr5)
      have HI5 := hide (HIA2.out.grown hg5 (HD2.out b hlt) (fun i hi e => HD1.out b i hlt hi e.symm))
      have HB5 : Hid (Below w.heap.size w w5) := hide (HBA.out.grown hg5 HBA.out.size (fun k e => by cases e; have := HU2.out b hlt; have := HG1.out; omega))
      have HZ5 : Hid (w2.heap.size ≤ w5.heap.size) := hide (by have := hg5.size; have := HZ.out; omega)
      clear hg5 hr5 HTA HIA2 HBA HIA
      by_cases hb0 : b = 0
      · have HI6 : Hid (SetsAt w5 G n K gs (Iav (b + 1))) := hide (by subst hb0; rw [iav_next0]; exact HI5.out)
        have hbb : ((b : Int) == 0) = true := by simp [hb0]
        have hbc : ((b : Int) != 0) = false := by simp [hb0]
        clear hb0
        go_wp2_with fail
        exact ⟨⟨b + 1, by omega, by go_num, HB5, HZ5, HI6, HT5⟩, by simp [intOf]; omega⟩
      · have hbb : ((b : Int) == 0) = false := by simp [hb0]
        have hbc : ((b : Int) != 0) = true := by simp [hb0]
        have k0 := HI5.out.row.cell hn1
        go_wp2_with fail
        have HIA : Hid (IntsAt (w5.alloc (.cells #[.int .i64 (b : Int)] 116)) w5.heap.size (w5.heap.size + 1) (some ⟨w5.heap.size, 0, none⟩) ([b].map Int.ofNat)) := hide (ints_one w5 b _)
        have HTA := hide (HT5.out.keep (balloc (Below.refl _ _) (.cells #[.int .i64 (b : Int)] 116)))
        have HIA2 := hide (HI5.out.keep (balloc (Below.refl _ _) (.cells #[.int .i64 (b : Int)] 116)))
        have HBA := hide (balloc HB5.out (.cells #[.int .i64 (b : Int)] 116))
        have hzB : w5.heap.size + 1 ≤ (w5.alloc (.cells #[.int .i64 (b : Int)] 116)).heap.size := by simp
        have hl5 : gs 0 < w5.heap.size := (HI5.out.set 0 hn1).lt
        clear HB5 HI5 HT5 k0
        generalize w5.alloc (.cells #[.int .i64 (b : Int)] 116) = wb at *
        refine (add_blockNo (gs 0) K 1 1 (Iav b 0) _ [b] w5.heap.size (w5.heap.size + 1) wb HIA (hide rfl) (by omega) HRB (by omega) (hide (iav_wd b 0)) (hide (HIA2.out.set 0 hn1)) hzB (by omega)).mono ?_
        rintro e w6 ⟨rfl, hg6, hr6⟩
        have HI6 : Hid (SetsAt w6 G n K gs (Iav (b + 1))) := hide (by rw [← iav_next hb0]; exact HIA2.out.wrote hn1 hg6 hr6)
        have HT6 := hide (HTA.out.grown hg6 (HD3.out 0 hn1) (fun i hi => HD1.out i 0 hi hn1))
        have HB6 : Hid (Below w.heap.size w w6) := hide (HBA.out.grown hg6 HBA.out.size (fun k e => by cases e; exact HU1.out 0 hn1))
        have HZ6 : Hid (w2.heap.size ≤ w6.heap.size) := hide (by have := hg6.size; have := HZ5.out; omega)
        clear hg6 hr6 HTA HIA2 HBA HIA
        go_wp2_with fail
        exact ⟨⟨b + 1, by omega, by go_num, HB6, HZ6, HI6, HT6⟩, by simp [intOf]; omega⟩
    · have hbn : b = n := by omega
      subst hbn
      go_wp2_with fail
      refine (spread_blockNo b0 o0 n0 c0 ord L1 B1 pa b pc src L2 B2 G G2 b K gs gs2 (Iav b) (Tse b) wr (hide (hord.out.keep (HB.out.mono hB1))) h0 hn0 hn0' (hide (hsrc.out.keepS (fun k _ h2 => (HB.out.mono hB2).block k h2))) hs (hide hs.out.symm) (by omega) (by have := HB.out.size; omega) (by have := HB.out.size; omega) HI HT (hide (iav_wd b)) (hide (tse_wd b)) (hide (fun i hi h => by have := HU1.out i hi; omega)) HD3 HD1 ho hsr).mono ?_
      rintro e w7 ⟨rfl, hf7, Ws, hw7, hs7, hh7⟩
      have HB7 : Hid (Below w.heap.size w w7) := hide ⟨hf7.os.trans HB.out.os, hf7.tape.trans HB.out.tape, hf7.output.trans HB.out.output, Nat.le_trans HB.out.size hf7.size, fun k hk => (hf7.block k (by have := HB.out.size; omega) (fun i hi e => by have := HU1.out i hi; omega)).trans (HB.out.block k hk)⟩
      have HS7 := hide hs7
      have HW7 := hide hw7
      have HH7 := hide hh7
      clear hf7 hw7 hs7 hh7
      go_wp2_with fail
      go_ret
      exact ⟨G, gs, Ws, rfl, HB7.out, HS7.out, HW7.out, fun c hc x hx => HH7.out c hc x (by omega)⟩
end Go.Proofs.YtlmaodcddbkllaaDoor
