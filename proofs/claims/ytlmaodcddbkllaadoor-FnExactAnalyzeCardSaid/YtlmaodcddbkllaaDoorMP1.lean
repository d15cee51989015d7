import Derived.Test.YtlmaodcddbkllaaDoorAN0
import Derived.Deep.RegionHeld3
/-
  l2Preorder of the model.
-/
namespace Go.Proofs.YtlmaodcddbkllaaDoor
open Go.RowKit

theorem pre_take {P : List Int} {c b : Nat} (g : Nat → List Nat) : (chTo P (c + 1) b).flatMap g = (chTo P c b).flatMap g ++ (if P.getD c 0 = (b : Int) then g c else []) := by
  unfold chTo
  rw [List.range_succ, List.filter_append, List.filter_cons, List.filter_nil, List.flatMap_append]
  by_cases e : P.getD c 0 = (b : Int)
  · rw [if_pos (by rw [beq_iff_eq]; exact e), if_pos e]; simp
  · rw [if_neg (by rw [beq_iff_eq]; exact e), if_neg e]; simp
theorem pre_part {P : List Int} {b : Nat} (g : Nat → List Nat) : ∀ (m c : Nat), c + m = P.length → ∃ r, (chP P b).flatMap g = (chTo P c b).flatMap g ++ r
  | 0, c, h => ⟨[], by rw [show c = P.length by omega, chTo_all]; simp⟩
  | m + 1, c, h => by
    obtain ⟨r, hr⟩ := pre_part (P := P) (b := b) g m (c + 1) (by omega)
    exact ⟨_, by rw [hr, pre_take, List.append_assoc]⟩
theorem own_one (w : World) (b : Nat) : (w.alloc (.cells #[.int .i64 (b : Int)] 2)).ownsRow w.heap.size 2 1 (.slice (some ⟨w.heap.size, 0, none⟩) 1 1) [b].length (natV [b]) := by
  have := World.ownsRow_lit (base := w.heap.size) (e := 2) (size := 1) w #[.int .i64 (b : Int)] 1 (by simp) (by decide) rfl
  simpa [natV] using this
set_option maxHeartbeats 2000000 in
set_option maxRecDepth 100000 in
theorem preS_any (ia : Option Addr) (n ic : Nat) (P : List Int) (L B : Nat) (hx : Hid (n = P.length)) (hn : n ≤ 1000) (G : Nat → Prop) (hG : Hid (∀ b c, G b → c ∈ chP P b → G c)) (hL : Hid (∀ m b, G b → (preP P m b).length ≤ 1000)) :
    ∀ (m b : Nat) (w : World), Hid (IntsAt w L B ia P) → B ≤ w.heap.size → Hid (G b) → m ≤ 1000 →
    Calls Tryd.prog 62 #[.slice ia n ic, .int .i64 b, .int .i64 m] w fun e w' => ∃ v, e = .returned v ∧ Below w.heap.size w w' ∧ w'.ownsRow w.heap.size 2 1 v (preP P m b).length (natV (preP P m b)) := by
  obtain ⟨i0, hi0, hz0, hz1, hz2⟩ := info_three Tryd.info2'
  intro m
  induction m with
  | zero =>
    intro b w HI hB HG hm
    have hm0 : ((0 : Nat) : Int) = 0 := rfl
    go_enter Tryd.func62, Tryd.ntmps62
    go_wp2_with fail
    go_ret
    exact ⟨_, rfl, balloc (Below.refl _ _) _, own_one w b⟩
  | succ m ih =>
    intro b w HI hB HG hm
    have IH := hide ih
    clear ih
    have HW1 : Hid (Below w.heap.size w (w.alloc (.cells #[.int .i64 (b : Int)] 2))) := hide (balloc (Below.refl _ _) _)
    have HO1 : Hid ((w.alloc (.cells #[.int .i64 (b : Int)] 2)).ownsRow w.heap.size 2 1 (.slice (some ⟨w.heap.size, 0, none⟩) 1 1) [b].length (natV [b])) := hide (own_one w b)
    have HPE : Hid (preP P (m + 1) b = b :: (chP P b).flatMap (preP P m)) := hide rfl
    have HLP : Hid ((b :: (chP P b).flatMap (preP P m)).length ≤ 1000) := hide (by rw [← HPE.out]; exact hL.out _ _ HG.out)
    rw [HPE.out]
    obtain ⟨D, hD⟩ : ∃ D : Int, D = ((m + 1 : Nat) : Int) := ⟨_, rfl⟩
    rw [← hD]
    have hsub : D - 1 = (m : Int) := by omega
    have hdz : (D == 0) = false := by simp; omega
    have hD1 : 1 ≤ D := by omega
    have hD2 : D ≤ 1000 := by omega
    clear hD
    go_enter Tryd.func62, Tryd.ntmps62
    go_wp2_with fail
    go_loopw [7, 8] (fun vo u wr => ∃ (c : Nat) (ao : Option Addr) (no co : Nat), c ≤ n ∧ u = .int .i64 c ∧ vo = .slice ao no co ∧ Hid (no = (b :: (chTo P c b).flatMap (preP P m)).length) ∧ Hid (Below w.heap.size w wr) ∧ Hid (wr.ownsRow w.heap.size 2 1 (.slice ao no co) no (natV (b :: (chTo P c b).flatMap (preP P m))))) (fun _ u _ => n - (intOf u).toNat)
    case atStart => exact ⟨0, _, _, _, Nat.zero_le _, rfl, rfl, hide (by simp [chTo]), HW1, hide (by simpa [chTo] using HO1.out)⟩
    case round =>
      obtain ⟨c, ao, no, co, hc, rfl, rfl, HNO, HBw, HOw⟩ := hrel
      clear HW1 HO1
      by_cases hlt : c < n
      · have hcx : c < P.length := by have := hx.out; omega
        obtain ⟨b5, o5, rfl, hb5, e5⟩ := HI.out c hcx
        have e5w := (HBw.out.cell (p := ⟨b5, o5 + c, none⟩) (by show b5 < _; omega)).trans e5
        have hgd : P.getD c 0 = P[c] := by simp [hcx]
        have HPT := hide (pre_take (P := P) (c := c) (b := b) (preP P m))
        rw [hgd] at HPT
        obtain ⟨r, hr⟩ := pre_part (P := P) (b := b) (preP P m) (n - (c + 1)) (c + 1) (by have := hx.out; omega)
        have HCM : Hid (P[c] = (b : Int) → c ∈ chP P b) := hide (fun e => chP_mem.2 ⟨hcx, by rw [hgd]; exact e⟩)
        have HLC : Hid ((b :: (chTo P (c + 1) b).flatMap (preP P m)).length ≤ 1000) := hide (by
          have := HLP.out
          rw [hr] at this
          simp only [List.length_cons, List.length_append] at this ⊢
          omega)
        clear e5 hgd hr
        generalize P[c] = pc at *
        by_cases hpc : pc = (b : Int)
        · subst hpc
          rw [if_pos rfl] at HPT
          rw [HPT.out] at HLC
          have q1 : ((b : Int) == (b : Int)) = true := by simp
          have HCC := hide (IH.out c wr (hide (HI.out.keep (HBw.out.mono hB))) (by have := HBw.out.size; omega) (hide (hG.out b c HG.out (HCM.out rfl))) (by omega))
          have hpp : 0 < (preP P m c).length := by cases m <;> simp [preP]
          have HLN : Hid (no + (preP P m c).length = (b :: ((chTo P c b).flatMap (preP P m) ++ preP P m c)).length) := hide (by rw [HNO.out]; simp; omega)
          have hnl : no + (preP P m c).length ≤ 1000 := by rw [HLN.out]; exact HLC.out
          have HAP : Hid (natV (b :: (chTo P c b).flatMap (preP P m)) ++ natV (preP P m c) = natV (b :: (chTo P (c + 1) b).flatMap (preP P m))) := hide (by rw [HPT.out]; simp [natV])
          have HLT : Hid (no + (preP P m c).length = (b :: (chTo P (c + 1) b).flatMap (preP P m)).length) := hide (by rw [HLN.out, HPT.out])
          go_wp2_with fail
          refine HCC.out.mono ?_
          rintro e w5 ⟨v5, rfl, hb5', ho5⟩
          obtain ⟨g5, c5, rfl, hg5, _⟩ := own_some' ho5 hpp
          have HO5 : Hid (w5.ownsRow w.heap.size 2 1 (.slice ao no co) no (natV (b :: (chTo P c b).flatMap (preP P m)))) := hide (own_mv HOw.out (Nat.le_refl _) (fun k e => hb5'.block k (HOw.out.lt k e).2))
          have HB5 := hide (bnext HBw.out hb5')
          have HC5 : Hid (∀ j u, (natV (preP P m c))[j]? = some u → w5.cell? ((⟨g5, 0, none⟩ : Addr).add j) = some u) := hide (fun j u hu => by rw [Addr.add_lit, Nat.zero_add]; exact own_cell ho5 hu)
          have hz5 := hb5'.size
          have hz6 := HBw.out.size
          have HNV : Hid ((natV (preP P m c)).length = (preP P m c).length * 1) := hide (by simp [natV])
          clear hb5' ho5 HCC
          generalize (preP P m c).length = lp at *
          go_wp2_with (at_builtin; refine wpList_append_own_at _ rfl _ _ 40 rfl w.heap.size 2 i0 (.int .i64 0) 1 8 Tryd.underlying40 hi0 hz0 hz1 hz2 rfl (by decide) _ _ _ rfl HO5.out ⟨g5, 0, none⟩ lp c5 (natV (preP P m c)) rfl HNV.out ?c1 ?c2 ?c3 ?c4 ?c5 ?_)
          case c1 => exact HC5.out
          case c2 => intro u hu; obtain ⟨z, _, rfl⟩ := List.mem_map.1 hu; rfl
          case c3 => unfold maxLen; omega
          case c4 => omega
          case c5 => omega
          intro v8 w8 hown8 hg8 _ hat8
          obtain ⟨g8, c8, rfl, hg8r, _⟩ := own_some' hown8 (by omega)
          have HB8 : Hid (Below w.heap.size w w8) := hide (HB5.out.grown hg8 (by omega) (fun k e => (HO5.out.lt k e).1))
          have HO8 := hide hown8
          rw [HAP.out] at HO8
          clear hown8 hg8 hat8
          go_wp2_with fail
          exact ⟨⟨c + 1, _, _, _, by omega, by go_num, rfl, HLT, HB8, HO8⟩, by simp [intOf]; omega⟩
        · rw [if_neg hpc, List.append_nil] at HPT
          have q1 : (pc == (b : Int)) = false := by simp [hpc]
          go_wp2_with fail
          exact ⟨⟨c + 1, ao, no, co, by omega, by go_num, rfl, hide (by rw [HPT.out]; exact HNO.out), HBw, hide (by rw [HPT.out]; exact HOw.out)⟩, by simp [intOf]; omega⟩
      · have hce : c = n := by omega
        have HTE : Hid (chTo P c b = chP P b) := hide (by rw [hce, hx.out]; rfl)
        rw [HTE.out] at HOw HNO
        have h1 := HNO.out
        go_wp2_with fail
        go_ret
        refine ⟨_, rfl, HBw.out, ?_⟩
        have := HOw.out
        rw [HNO.out] at this ⊢
        exact this
end Go.Proofs.YtlmaodcddbkllaaDoor
