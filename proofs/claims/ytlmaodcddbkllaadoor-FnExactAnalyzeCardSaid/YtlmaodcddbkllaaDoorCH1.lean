import Derived.Test.YtlmaodcddbkllaaDoorW3
import Derived.Test.YtlmaodcddbkllaaDoorID1
import Derived.Test.YtlmaodcddbkllaaDoorSP1
import Derived.Test.YtlmaodcddbkllaaDoorDF1
/-
  childrenOf of the program.
-/
namespace Go.Proofs.YtlmaodcddbkllaaDoor
open Go.RowKit

def chTo (P : List Int) (k : Nat) (c : Nat) : List Nat := (List.range k).filter fun b => P.getD b 0 == (c : Int)
theorem chTo_all (P : List Int) (c : Nat) : chTo P P.length c = chP P c := rfl
theorem chTo_len (P : List Int) (k c : Nat) : (chTo P k c).length ≤ k := Nat.le_trans (List.length_filter_le _ _) (by simp)
theorem chTo_hit {P : List Int} {k t : Nat} (h : P.getD k 0 = (t : Int)) (i : Nat) : natI (chTo P (k + 1) i) = if i = t then natI (chTo P k t) ++ [(k : Int)] else natI (chTo P k i) := by
  unfold chTo
  rw [List.range_succ, List.filter_append, List.filter_cons, List.filter_nil, h]
  by_cases e : i = t
  · subst e
    rw [if_pos (by simp), if_pos rfl]
    simp [natI]
  · rw [if_neg (by simp; omega), if_neg e]
    simp [natI]
theorem chTo_miss {P : List Int} {k : Nat} (h : P.getD k 0 < 0) (i : Nat) : chTo P (k + 1) i = chTo P k i := by
  unfold chTo
  rw [List.range_succ, List.filter_append, List.filter_cons, List.filter_nil, if_neg (by rw [beq_iff_eq]; omega), List.append_nil]
theorem natI_len (l : List Nat) : (natI l).length = l.length := by simp [natI]
set_option maxHeartbeats 2000000 in
set_option maxRecDepth 100000 in
theorem childrenOf_any (a : Option Addr) (n c : Nat) (P : List Int) (L B : Nat) (w : World) (ha : Hid (IntsAt w L B a P)) (hx : Hid (n = P.length)) (hn : n ≤ 1000) (hB : B ≤ w.heap.size) (hP : Hid (∀ p ∈ P, p < n)) :
    Calls Tryd.prog 70 #[.slice a n c] w fun e w' => ∃ a' c', e = .returned (.slice a' n c') ∧ Below w.heap.size w w' ∧ IntssAt w' w.heap.size w'.heap.size a' ((List.range n).map fun i : Nat => natI (chP P i)) := by
  obtain ⟨i0, hi0, hz0, hz1, hz2⟩ := info_parts Tryd.info2'
  have hmk := run_make_row' (P := Tryd.prog) 105 40 (.slice none 0 0) 24 Tryd.underlying105 Tryd.info45 rfl .i64 .i64 n (by omega) (by omega)
  go_enter Tryd.func70, Tryd.ntmps70
  go_wp2
  go_loopw [11] (fun i wr => ∃ k : Nat, k ≤ n ∧ i = .int .i64 k ∧ Below w.heap.size w wr ∧ Hid (∃ U, Rows2 wr w.heap.size n (fun i => natI (chTo P k i)) U)) (fun i _ => n - (intOf i).toNat)
  case atStart => exact ⟨0, Nat.zero_le _, rfl, balloc (Below.refl _ _) _, ⟨_, Rows2.born w n⟩⟩
  case round =>
    obtain ⟨k, hk, rfl, hw, hrw⟩ := hrel
    by_cases hlt : k < n
    · have hkx : k < P.length := by have := hx.out; omega
      obtain ⟨b, o, rfl, ⟨_, hbB⟩, hc⟩ := ha.out k hkx
      have hcw := (hw.cell (p := ⟨b, o + k, none⟩) (by show b < _; omega)).trans hc
      have hpl : P[k] < n := hP.out _ (List.getElem_mem hkx)
      have hpg : P.getD k 0 = P[k] := by simp [hkx]
      have HPG := hide hpg
      clear hc hpg
      generalize P[k] = p at *
      by_cases hp : 0 ≤ p
      · obtain ⟨t, rfl⟩ := Int.eq_ofNat_of_zero_le hp
        have htn : t < n := by omega
        obtain ⟨U, hU⟩ := hrw.out
        have hcU := hU.1.cell htn
        have hfU := hU.1.frozen t
        have hpl2 : (natI (chTo P k t)).length ≤ k := by rw [natI_len]; exact chTo_len P k t
        have HU := hide hU
        clear hU hrw
        go_wp2_with (at_builtin; refine wpList_append_own_at _ rfl _ _ 40 rfl (w.heap.size + 1) 2 i0 (.int .i64 0) 1 8 Tryd.underlying40 hi0 hz0 hz1 hz2 rfl (by decide) _ _ _ rfl ((HU.out.alloc _).2.1 t htn) ⟨wr.heap.size, 0, none⟩ 1 1 [.int .i64 k] rfl rfl ?c1 ?c2 ?c3 ?c4 ?c5 ?_)
        case c1 =>
          intro j u hj
          match j, hj with
          | 0, hj => simp at hj; subst hj; simp [Addr.add]
        case c2 => intro u hu; simp at hu; subst hu; rfl
        case c3 => unfold maxLen; omega
        case c4 => omega
        case c5 => have := HU.out.1.lt; simp; omega
        intro v1 w1 hown1 hgrow1 _ hat1
        obtain ⟨av, cv, hv, _⟩ := ints_owned (xs := natI (chTo P k t) ++ [(k : Int)]) (by rw [ints_snoc]; exact hown1)
        have hst := hide ((HU.out.alloc (.cells #[.int .i64 k] 2)).step htn k v1 hgrow1 hown1 (by rw [World.size_alloc]; exact hat1))
        have hbG : w1.heap[w.heap.size]? = (wr.alloc (.cells #[.int .i64 k] 2)).heap[w.heap.size]? := grown_block hgrow1 ((HU.out.alloc (.cells #[.int .i64 k] 2)).2.1 t htn) (by omega) (by have := HU.out.1.lt; simp; omega)
        have hbel := hide (grown_below (balloc hw (.cells #[.int .i64 k] 2)) hgrow1 ((HU.out.alloc (.cells #[.int .i64 k] 2)).2.1 t htn) (by omega) (by have := hw.size; simp; omega))
        have hcG : w1.cell? ⟨w.heap.size, t, none⟩ = some (U t) := by rw [cell_of hbG]; exact ((HU.out.alloc (.cells #[.int .i64 k] 2)).1).cell htn
        have hfG : w1.frozen? ⟨w.heap.size, t, none⟩ = false := by rw [World.frozen?_of_block (w := wr.alloc (.cells #[.int .i64 k] 2)) (a := ⟨w.heap.size, t, none⟩) hbG]; exact ((HU.out.alloc (.cells #[.int .i64 k] 2)).1).frozen t
        have HV := hide hv
        clear hown1 hgrow1 hat1 hbG hcU hfU
        rw [hv]
        clear hv
        go_wp2
        have hv2 := HV.out
        rw [List.length_append, List.length_cons, List.length_nil, Nat.zero_add] at hv2
        rw [← hv2]
        refine ⟨⟨k + 1, by omega, by go_num, hbel.out.setCell (by dsimp only; omega) _, ⟨_, (hst.out).congr (fun i _ => ?_)⟩⟩, by simp [intOf]; omega⟩
        exact (chTo_hit HPG.out i).symm
      · have hp' : p < 0 := by omega
        have HM := hide (fun i => chTo_miss (P := P) (k := k) (by rw [HPG.out]; exact hp') i)
        go_wp2
        refine ⟨⟨k + 1, by omega, by go_num, hw, ?_⟩, by simp [intOf]; omega⟩
        obtain ⟨U, hU⟩ := hrw.out
        exact ⟨U, hU.congr (fun i _ => by rw [HM.out])⟩
    · go_wp2
      go_ret
      obtain ⟨U, hU⟩ := hrw.out
      have e : k = P.length := by have := hx.out; omega
      refine ⟨_, _, rfl, hw, ?_⟩
      have h := (hU.congr (P' := fun i : Nat => natI (chP P i)) (fun i _ => by rw [e, chTo_all])).ints
      exact h.mono (by omega) (Nat.le_refl _)
end Go.Proofs.YtlmaodcddbkllaaDoor

/-
  preorder of the program.
-/
namespace Go.Proofs.YtlmaodcddbkllaaDoor
open Go.RowKit

/-- What appending to a list may turn. -/
structure FrO (w w' : World) (v v' : Value) : Prop where
  os : w'.os = w.os
  tape : w'.tape = w.tape
  output : w'.output = w.output
  size : w.heap.size ≤ w'.heap.size
  block : ∀ k, k < w.heap.size → some k ≠ v.ownBlock → w'.heap[k]? = w.heap[k]?
  own : v'.ownBlock = v.ownBlock ∨ ∀ k, v'.ownBlock = some k → w.heap.size ≤ k
theorem FrO.refl (w : World) (v : Value) : FrO w w v v := ⟨rfl, rfl, rfl, Nat.le_refl _, fun _ _ _ => rfl, Or.inl rfl⟩
theorem FrO.trans {w w1 w2 : World} {v v1 v2 : Value} (h : FrO w w1 v v1) (k : FrO w1 w2 v1 v2) : FrO w w2 v v2 := by
  refine ⟨k.os.trans h.os, k.tape.trans h.tape, k.output.trans h.output, Nat.le_trans h.size k.size, fun j h1 h4 => ?_, ?_⟩
  · refine (k.block j (Nat.lt_of_lt_of_le h1 h.size) (fun e => ?_)).trans (h.block j h1 h4)
    rcases h.own with ho | ho
    · exact h4 (by rw [e, ho])
    · have := ho j e.symm; omega
  · rcases k.own with ko | ko
    · rcases h.own with ho | ho
      · exact Or.inl (ko.trans ho)
      · exact Or.inr (fun j e => ho j (by rw [← ko]; exact e))
    · exact Or.inr (fun j e => Nat.le_trans h.size (ko j e))
/-- What lies below the list's own rows stays. -/
theorem FrO.below {w w' : World} {v v' : Value} {BL t s n : Nat} {cs : List Value} (h : FrO w w' v v') (ho : w.ownsRow BL t s v n cs) (hz : BL ≤ w.heap.size) : Below BL w w' := ⟨h.os, h.tape, h.output, h.size, fun k hk => h.block k (by omega) (fun e => by have := (ho.lt k e.symm).1; omega)⟩
theorem FrO.push {w w8 : World} {v v8 : Value} {ob : Obj} (hg : (w.alloc ob).grownBy w8 v.ownBlock) (hat : v8.ownBlock = v.ownBlock ∨ v8.ownBlock = some (w.heap.size + 1)) : FrO w w8 v v8 := by
  have hsz : (w.alloc ob).heap.size = w.heap.size + 1 := World.size_alloc _ _
  have hgs := hg.size
  refine ⟨hg.os, hg.tape, hg.output, by omega, fun k h1 h4 => (hg.block k (by omega) h4).trans (Below.heap_alloc _ _ _ h1), ?_⟩
  rcases hat with e | e
  · exact Or.inl e
  · exact Or.inr (fun k ek => by rw [e] at ek; injection ek with ek; omega)
theorem pre_eq {P : List Int} {R : Nat → Nat} {n : Nat} (hR : ∀ b c, c ∈ chP P b → R b < R c) (hRn : ∀ b, R b ≤ n) {m b : Nat} (h : n ≤ R b + m) : preP P m b = b :: (chP P b).flatMap (preP P (m - 1)) := by
  cases m with
  | zero =>
    have : chP P b = [] := by
      cases e : chP P b with
      | nil => rfl
      | cons c l =>
        have h1 := hR b c (by rw [e]; exact List.mem_cons_self)
        have h2 := hRn c
        omega
    rw [this]
    rfl
  | succ m => rfl
set_option maxHeartbeats 2000000 in
set_option maxRecDepth 100000 in
theorem preorder_any (ca : Option Addr) (n cc : Nat) (P : List Int) (L2 B2 BL : Nat) (hx : Hid (n = P.length)) (hn : n ≤ 1000) (hBL : B2 ≤ BL) (R : Nat → Nat) (hR : Hid (∀ b c, c ∈ chP P b → R b < R c)) (hRn : Hid (∀ b, R b ≤ n)) :
    ∀ (m b : Nat) (v : Value) (L : List Nat) (w : World), Hid (IntssAt w L2 B2 ca ((List.range n).map fun i : Nat => natI (chP P i))) → Hid (w.ownsRow BL 2 1 v L.length (natV L)) → BL ≤ w.heap.size → b < n → Hid (n ≤ R b + m) → L.length + (preP P m b).length ≤ 4000 →
    Calls Tryd.prog 69 #[v, .slice ca n cc, .int .i64 b] w fun e w' => ∃ v', e = .returned v' ∧ FrO w w' v v' ∧ w'.ownsRow BL 2 1 v' (L ++ preP P m b).length (natV (L ++ preP P m b)) := by
  obtain ⟨i0, hi0, hz0, hz1, hz2⟩ := info_three Tryd.info2'
  intro m
  induction m using Nat.strongRecOn with
  | _ m ih =>
    intro b v L w HC HO hz hb HU hL
    have IH := hide ih
    clear ih
    obtain ⟨bc, oc, rfl, hbc, a1, c1, hc1, hi1⟩ := HC.out b (by simpa using hb)
    simp only [List.getElem_map, List.getElem_range, natI_len] at hc1 hi1
    have HE := hide (pre_eq hR.out hRn.out HU.out)
    rw [HE.out] at hL ⊢
    have HCM : Hid (∀ c ∈ chP P b, c < n ∧ n ≤ R c + (m - 1) ∧ 0 < m) := hide (fun c hc => by
      have h1 := hR.out b c hc
      have h2 := hRn.out c
      have h3 := (chP_mem.1 hc).1
      have := HU.out
      have := hx.out
      omega)
    have hql : (chP P b).length ≤ n := Nat.le_trans ch_len (by have := hx.out; omega)
    have HI1 := hide hi1
    generalize chP P b = cs at *
    obtain ⟨q, hq⟩ : ∃ q, q = cs.length := ⟨_, rfl⟩
    rw [← hq] at hc1 hql
    have HQ := hide hq
    have hLL : L.length + 1 + (cs.flatMap (preP P (m - 1))).length ≤ 4000 := by simp only [List.length_cons] at hL; omega
    clear hq hi1 HE hL
    go_enter Tryd.func69, Tryd.ntmps69
    go_wp2_with (at_builtin; refine wpList_append_own_at _ rfl _ _ 40 rfl BL 2 i0 (.int .i64 0) 1 8 Tryd.underlying40 hi0 hz0 hz1 hz2 rfl (by decide) _ _ _ rfl (HO.out.alloc _) ⟨w.heap.size, 0, none⟩ 1 1 [.int .i64 (b : Int)] rfl rfl ?c1 ?c2 ?c3 ?c4 ?c5 ?_)
    case c1 => exact one_news _ _ _
    case c2 => intro u hu; simp at hu; subst hu; rfl
    case c3 => unfold maxLen; omega
    case c4 => omega
    case c5 => simp; omega
    intro v8 w8 hown8 hg8 _ hat8
    have HF8 : Hid (FrO w w8 v v8) := hide (FrO.push hg8 (by simpa using hat8))
    have HO8 : Hid (w8.ownsRow BL 2 1 v8 (L ++ [b]).length (natV (L ++ [b]))) := hide (by rw [natV_snoc, List.length_append]; exact hown8)
    have HB8 := hide (HF8.out.below HO.out hz)
    have hz8 := HF8.out.size
    have hc8 : w8.cell? ⟨bc, oc + b, none⟩ = some (.slice a1 q c1) := (HB8.out.cell (p := ⟨bc, oc + b, none⟩) (by show bc < _; omega)).trans hc1
    have HC8 := hide (HC.out.keep (HB8.out.mono hBL))
    have HI8 := hide (HI1.out.keep (HB8.out.mono hBL))
    clear hown8 hg8 hat8 hc1 HI1
    go_wp2_with fail
    go_loopw [0, 18] (fun vo u wr => ∃ j : Nat, j ≤ q ∧ u = .int .i64 j ∧ Hid (FrO w8 wr v8 vo) ∧ Hid (wr.ownsRow BL 2 1 vo (L ++ [b] ++ (cs.take j).flatMap (preP P (m - 1))).length (natV (L ++ [b] ++ (cs.take j).flatMap (preP P (m - 1)))))) (fun _ u _ => q - (intOf u).toNat)
    case atStart => exact ⟨0, Nat.zero_le _, rfl, hide (FrO.refl _ _), hide (by simpa using HO8.out)⟩
    case round =>
      obtain ⟨j, hj, rfl, HFj, HOj⟩ := hrel
      clear hc8
      have HBj := hide (HFj.out.below HO8.out (by omega))
      by_cases hlt : j < q
      · have hjl : j < cs.length := by have := HQ.out; omega
        obtain ⟨b5, o5, rfl, hb5, e5⟩ := HI8.out j (by rw [natI_len]; exact hjl)
        have hnj : (natI cs)[j]'(by rw [natI_len]; exact hjl) = ((cs[j] : Nat) : Int) := by simp [natI]
        rw [hnj] at e5
        have e5r := (HBj.out.cell (p := ⟨b5, o5 + j, none⟩) (by show b5 < _; omega)).trans e5
        obtain ⟨hcn, hcr, hm⟩ := HCM.out cs[j] (List.getElem_mem hjl)
        have HTK : Hid ((cs.take (j + 1)).flatMap (preP P (m - 1)) = (cs.take j).flatMap (preP P (m - 1)) ++ preP P (m - 1) cs[j]) := hide (by rw [List.take_succ_eq_append_getElem hjl, List.flatMap_append]; simp)
        have HLE : Hid ((L ++ [b] ++ (cs.take j).flatMap (preP P (m - 1))).length + (preP P (m - 1) cs[j]).length ≤ 4000) := hide (by
          have h1 : (cs.flatMap (preP P (m - 1))).length = ((cs.take (j + 1)).flatMap (preP P (m - 1))).length + ((cs.drop (j + 1)).flatMap (preP P (m - 1))).length := by
            rw [← List.length_append, ← List.flatMap_append, List.take_append_drop]
          rw [HTK.out, List.length_append] at h1
          simp only [List.length_append, List.length_cons, List.length_nil]
          omega)
        have HCC := hide (IH.out (m - 1) (by omega) cs[j] u0 _ wr (hide (HC8.out.keep (HBj.out.mono hBL))) HOj (by have := HFj.out.size; omega) hcn (hide hcr) HLE.out)
        have HHH := hide (show (L ++ [b] ++ (cs.take j).flatMap (preP P (m - 1))) ++ preP P (m - 1) cs[j] = L ++ [b] ++ (cs.take (j + 1)).flatMap (preP P (m - 1)) by rw [HTK.out]; simp)
        rw [HHH.out] at HCC
        clear e5 hnj HTK HLE HHH
        generalize cs[j] = cj at *
        go_wp2_with fail
        refine HCC.out.mono ?_
        rintro e w5 ⟨v5, rfl, hf5, ho5⟩
        have HF5 := hide (HFj.out.trans hf5)
        have HO5 := hide ho5
        clear hf5 ho5 HCC HOj
        go_wp2_with fail
        exact ⟨⟨j + 1, by omega, by go_num, HF5, HO5⟩, by simp [intOf]; omega⟩
      · have hje : j = q := by omega
        have HTE : Hid (cs.take j = cs) := hide (List.take_of_length_le (by have := HQ.out; omega))
        rw [HTE.out] at HOj
        clear HTE
        go_wp2_with fail
        go_ret
        refine ⟨u0, rfl, HF8.out.trans HFj.out, ?_⟩
        have e : L ++ b :: cs.flatMap (preP P (m - 1)) = L ++ [b] ++ cs.flatMap (preP P (m - 1)) := by simp
        rw [e]
        exact HOj.out
end Go.Proofs.YtlmaodcddbkllaaDoor
