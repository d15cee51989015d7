import Derived.Test.YtlmaodcddbkllaaDoorSQ14
/-
  Sequence: the program's Sequence.
-/
namespace Go.Proofs.YtlmaodcddbkllaaDoor
open Go.RowKit Go.Maps Go.Sort Go.Shelf

def lenV : Value → Nat
  | .slice _ n _ => n
  | _ => 0
theorem own_len {w : World} {base e s n : Nat} {v : Value} {cs : List Value} (h : w.ownsRow base e s v n cs) : lenV v = n := by
  rcases own_form h with ⟨rfl, h0, _⟩ | ⟨g, c, rfl, _, _⟩
  · rw [h0]; rfl
  · rfl
theorem in_news (w : World) (k t a b i : Int) (ty : Nat) : ∀ j u, ([.int .i64 k, .int .i64 t, .int .i64 a, .int .i64 b, .int .i64 i] : List Value)[j]? = some u → (w.alloc (.cells #[.int .i64 k, .int .i64 t, .int .i64 a, .int .i64 b, .int .i64 i] ty)).cell? ((⟨w.heap.size, 0, none⟩ : Addr).add j) = some u := fun j u hj => by
  rw [addrAdd0]
  match j, hj with
  | 0, hj => simpa using hj
  | 1, hj => simpa using hj
  | 2, hj => simpa using hj
  | 3, hj => simpa using hj
  | 4, hj => simpa using hj
theorem own_ne {w : World} {b e s n : Nat} {v : Value} {cs : List Value} (h : w.ownsRow (b + 1) e s v n cs) : some b ≠ v.ownBlock := fun e => by
  have := (h.lt b e.symm).1
  omega
theorem in_one (k t a b i : Int) : ∀ u ∈ ([.int .i64 k, .int .i64 t, .int .i64 a, .int .i64 b, .int .i64 i] : List Value), u.oneCell' = true := fun u hu => by
  simp at hu
  rcases hu with rfl | rfl | rfl | rfl | rfl <;> rfl
/-- What a round leaves behind its append. -/
structure Grew (w W w' : World) (v v' : Value) (D : DataW Unit) (out : List Ins) (x : Ins) : Prop where
  row : w'.ownsRow (w.heap.size + 1) 44 5 v' (out ++ [x]).length (inV (out ++ [x]))
  ne : v' ≠ .slice none 0 0
  map : w'.ownsMap Tryd.prog 2 insR w.heap.size 64 D
  below : Below w.heap.size w w'
theorem grew {w wr w3 w4 : World} {v v1 : Value} {D : DataW Unit} {out : List Ins} {k t a b i : Int} {o : Obj} (HB : Below w.heap.size w wr) (HM3 : w3.ownsMap Tryd.prog 2 insR w.heap.size 64 D) (HO3 : w3.ownsRow (w.heap.size + 1) 44 5 v out.length (inV out)) (hb3 : Below wr.heap.size wr w3) (hv : v ≠ .slice none 0 0)
    (hown : w4.ownsRow (w.heap.size + 1) 44 5 v1 (out.length + 1) (inV out ++ [.int .i64 k, .int .i64 t, .int .i64 a, .int .i64 b, .int .i64 i])) (hg : (w3.alloc o).grownBy w4 v.ownBlock) (hne : v1 = .slice none 0 0 ↔ v = .slice none 0 0 ∧ 1 = 0) : Grew w wr w4 v v1 D out ⟨k, t, a, b, i⟩ := by
  have h1 := HB.size
  have h2 := hb3.size
  have hwl := HM3.lt
  refine ⟨?_, fun e => hv (hne.1 e).1, (HM3.alloc o).kept hg (own_ne HO3), ?_⟩
  · rw [inV_app, List.length_append]; exact hown
  · exact grown_below ((HB.trans (hb3.mono h1)).alloc (by omega) o) hg (HO3.alloc o) (Nat.le_succ _) (by simp; omega)
theorem step_free1 {L : List Mv} (h : MvOk L) {m : Mv} (hm : m ∈ L) (hl : lowI (freeT L) = some m.to) : stepM L = (cpI m, without L m.to) := by
  unfold stepM
  rw [hl]
  obtain ⟨i, hi, rfl⟩ := List.getElem_of_mem hm
  show (cpI ⟨_, fromOf L _⟩, _) = _
  rw [from_at h hi]
theorem step_none1 {L : List Mv} {t : Int} (h1 : lowI (freeT L) = none) (h2 : lowI (tosM L) = some t) : stepM L = (⟨12, 0, t, 0, 0⟩, scratch L t) := by
  unfold stepM
  rw [h1]
  dsimp only
  rw [h2]
/-- smallestFree, told by what the step takes. -/
theorem free_yes (b : Nat) (D : DataW Unit) (L : List Mv) (w : World) (t : Int) (hown : Hid (w.ownsMap Tryd.prog 2 insR b 64 D)) (hm : Hid (MapL D L)) (hg : Hid (MvOk L)) (hne : Hid (L ≠ [])) (ht : Hid (OpTabW w)) (hl : lowI (freeT L) = some t) :
    Calls Tryd.prog 73 #[.map (some b)] w fun e w' => e = .returned (.tuple #[.int .i64 t, .bool true]) ∧ Below w.heap.size w w' := by
  refine (smallestFree_any b 64 D L w hown (Nat.le_refl _) hm hg hne ht).mono ?_
  rintro e w' ⟨hb, t', f, rfl, ⟨rfl, h⟩ | ⟨rfl, h, _⟩⟩
  · rw [hl] at h; cases h; exact ⟨rfl, hb⟩
  · rw [hl] at h; cases h
theorem free_no (b : Nat) (D : DataW Unit) (L : List Mv) (w : World) (t : Int) (hown : Hid (w.ownsMap Tryd.prog 2 insR b 64 D)) (hm : Hid (MapL D L)) (hg : Hid (MvOk L)) (hne : Hid (L ≠ [])) (ht : Hid (OpTabW w)) (hl : lowI (freeT L) = none) (hl2 : lowI (tosM L) = some t) :
    Calls Tryd.prog 73 #[.map (some b)] w fun e w' => e = .returned (.tuple #[.int .i64 t, .bool false]) ∧ Below w.heap.size w w' := by
  refine (smallestFree_any b 64 D L w hown (Nat.le_refl _) hm hg hne ht).mono ?_
  rintro e w' ⟨hb, t', f, rfl, ⟨rfl, h⟩ | ⟨rfl, _, h⟩⟩
  · rw [hl] at h; cases h
  · rw [hl2] at h; cases h; exact ⟨rfl, hb⟩
set_option maxHeartbeats 4000000 in
set_option maxRecDepth 100000 in
theorem seqI_any (a : Option Addr) (n c : Nat) (xs : List Mv) (L B : Nat) (w : World) (ha : Hid (MvsAt w L B a xs)) (hx : Hid (n = xs.length)) (hn : n ≤ 1048576) (hB : B ≤ w.heap.size) (hr : Hid (∀ m ∈ xs, -9223372036854775808 ≤ m.to ∧ m.to ≤ 9223372036854775807)) (ht : Hid (OpTabW w)) :
    Calls Tryd.prog 23 #[.slice a n c] w fun e w' => ∃ v, e = .returned v ∧ v ≠ .slice none 0 0 ∧ Below w.heap.size w w' ∧ w'.ownsRow w.heap.size 44 5 v (seqM xs).length (inV (seqM xs)) := by
  have HML := hide (movesLeft_any a n c xs L B w ha hx hn hB hr)
  cases hgm : goodM xs with
  | false =>
    have HS : Hid (seqM xs = []) := hide (by unfold seqM; rw [hgm]; rfl)
    rw [hgm] at HML
    clear hgm
    go_enter Tryd.func23, Tryd.ntmps23
    go_wp2_with (go_at_call 72; with_reducible refine HML.out.mono ?_; rintro e w1 ⟨hb1, rfl, _⟩)
    have HB2 : Hid (Below w.heap.size w (w1.alloc (.cells #[] 44))) := hide (hb1.alloc hb1.size _)
    have HO2 := hide (own_base (own_in0 w1) hb1.size)
    generalize w1.alloc (.cells #[] 44) = W2 at *
    generalize w1.heap.size = g at *
    clear hb1
    go_loopw [5] (fun v wr => v = .slice (some ⟨g, 0, none⟩) 0 0 ∧ wr = W2) (fun _ _ => 0)
    case atStart => exact ⟨rfl, rfl⟩
    case round =>
      obtain ⟨rfl, rfl⟩ := hrel
      go_wp2
      go_ret
      exact ⟨_, rfl, by simp, HB2.out, by rw [HS.out]; exact HO2.out⟩
  | true =>
    obtain ⟨h64, hgood⟩ := goodM_good hgm
    obtain ⟨hok, hms⟩ := hgood.start
    have HS : Hid (seqM xs = emitM (meas (startM xs)) (startM xs)) := hide (by unfold seqM; rw [if_pos hgm, hms])
    have HSL : Hid ((seqM xs).length ≤ 128) := hide (by
      rw [HS.out]
      refine Nat.le_trans (emitM_len _ _) ?_
      rw [hms]
      have : (startM xs).length ≤ xs.length := List.length_filter_le _ _
      omega)
    have HOK := hide hok
    rw [hgm] at HML
    clear hgm hgood hok hms h64
    obtain ⟨i0, hi0, hz0, hz1, hz2⟩ := info_parts Tryd.infoIn
    go_enter Tryd.func23, Tryd.ntmps23
    go_wp2_with (go_at_call 72; with_reducible refine HML.out.mono ?_; rintro e w1 ⟨hb1, rfl, h1⟩)
    obtain ⟨D0, ho1, hm1⟩ := h1 trivial
    have hlt1 := ho1.lt
    have HB2 : Hid (Below w.heap.size w (w1.alloc (.cells #[] 44))) := hide (hb1.alloc hb1.size _)
    have HO2 : Hid ((w1.alloc (.cells #[] 44)).ownsRow (w.heap.size + 1) 44 5 (.slice (some ⟨w1.heap.size, 0, none⟩) 0 0) 0 (inV [])) := hide (own_base (own_in0 w1) hlt1)
    have HM2 := hide (ho1.alloc (.cells #[] 44))
    have HM1 := hide hm1
    generalize w1.alloc (.cells #[] 44) = W2 at *
    generalize w1.heap.size = g at *
    clear hb1 ho1 h1 hm1
    go_loopw [5] (fun v wr => ∃ (D : DataW Unit) (K : List Mv) (out : List Ins), Hid (wr.ownsMap Tryd.prog 2 insR w.heap.size 64 D) ∧ Hid (MapL D K) ∧ Hid (MvOk K) ∧ Hid (Below w.heap.size w wr) ∧ Hid (wr.ownsRow (w.heap.size + 1) 44 5 v out.length (inV out)) ∧ Hid (v ≠ .slice none 0 0) ∧ Hid (seqM xs = out ++ emitM (meas K) K)) (fun v _ => 200 - lenV v)
    case atStart => exact ⟨D0, startM xs, [], HM2, HM1, HOK, HB2, HO2, hide (by simp), hide (by rw [HS.out]; rfl)⟩
    case round =>
      clear HB2 HO2 HM2 HM1 HOK
      obtain ⟨D, K, out, HM, HK, HOK, HB, HO, HNE, HE⟩ := hrel
      have hlen := HM.out.len Tryd.tMap 3
      rw [HK.out.size] at hlen
      have hwz := HB.out.size
      have hwl := HM.out.lt
      have HT : Hid (OpTabW wr) := hide (ht.out.keep HB.out ht.out.1)
      by_cases hK : K = []
      · subst hK
        have HE2 : Hid (seqM xs = out) := hide (by rw [HE.out, emitM_nil, List.append_nil])
        rw [List.length_nil] at hlen
        go_wp2
        go_ret
        exact ⟨_, rfl, HNE.out, HB.out, by rw [HE2.out]; exact own_base HO.out (by omega)⟩
      · have hKl : 0 < K.length := List.length_pos_iff.2 hK
        have HRUN := hide (emit_run HOK.out hK)
        have HLN := hide (own_len HO.out)
        have HOL : Hid (out.length + 1 ≤ 128) := hide (by
          have h1 := HSL.out
          rw [HE.out, HRUN.out] at h1
          simp at h1
          omega)
        have HKN : Hid (K ≠ []) := hide hK
        clear hK
        generalize K.length = nk at *
        cases hlo : lowI (freeT K) with
        | some t =>
          have htm := (List.mem_filter.1 (lowI_some hlo).1).1
          obtain ⟨m, hmK, rfl⟩ := List.mem_map.1 htm
          have HST := hide (step_free1 HOK.out hmK hlo)
          have HF := hide (free_yes w.heap.size D K wr m.to HM HK HOK HKN HT hlo)
          have hto := HOK.out.to m hmK
          have HKT := hide (key_of m.to (by omega))
          obtain ⟨k, x, hk, hk1, hk2⟩ := cp_form m
          have HLK : Hid (∀ W, W.ownsMap Tryd.prog 2 insR w.heap.size 64 D → (Instr.lookup 122 (.map (some w.heap.size)) (.int .i64 m.to) false).run Tryd.prog W = .ok (.agg #[.int .i64 k, .int .i64 m.to, .int .i64 x, .int .i64 0, .int .i64 0]) W) := hide (fun W hW => by
            have := look_one hW HK.out hmK (by omega)
            rw [hk] at this
            exact this)
          rw [hk] at HST
          have HDEL := hide (HK.out.del HOK.out.nd m.to)
          have HOK2 := hide (HOK.out.without m.to)
          clear hlo htm hto hk
          go_wp2_with (first
            | (go_at_call 73; with_reducible refine HF.out.mono ?_; rintro e w3 ⟨rfl, hb3⟩; have HM3 := hide (HM.out.kept (calm hb3) (by simp)); have hlk := HLK.out w3 HM3.out; have HO3 := hide (HO.out.kept (calm hb3) (Classical.em _)); have hs3 := hb3.size; have HB3 := hide hb3; clear hb3)
            | (at_delete; refine wpList_delete_own _ rfl _ _ 122 2 rfl 44 Tryd.keyI Tryd.tMap insR w.heap.size 64 D rfl HGR.out.map _ _ rfl HKT.out ?_; intro w5 hown5 hturn5)
            | (at_builtin; refine wpList_append_own_at _ rfl _ _ 35 rfl (w.heap.size + 1) 44 i0 (.agg #[.int .i64 0, .int .i64 0, .int .i64 0, .int .i64 0, .int .i64 0]) 5 40 Tryd.underlying35 hi0 hz0 hz1 hz2 rfl (by decide) _ _ _ rfl (HO3.out.alloc _) ⟨w3.heap.size, 0, none⟩ 1 1 [.int .i64 k, .int .i64 m.to, .int .i64 x, .int .i64 0, .int .i64 0] rfl rfl (in_news _ _ _ _ _ _ _) (in_one _ _ _ _ _) (by have := HOL.out; unfold maxLen; omega) (by have := HOL.out; omega) (by simp; omega) ?_; intro v1 w4 hown4 hg4 hne4 hat4; have HGR := hide (grew HB.out HM3.out HO3.out HB3.out HNE.out hown4 hg4 hne4); clear hown4 hg4 hne4 hat4 hlk)
            | go_in)
          have HLN1 := hide (own_len HGR.out.row)
          have HGT := hide hturn5.grown
          refine ⟨?_, ?measure⟩
          (repeat apply Exists.intro)
          refine ⟨?rel, rfl⟩
          refine ⟨_, without K m.to, out ++ [⟨k, m.to, x, 0, 0⟩], hide hown5, HDEL, HOK2, hide (HGR.out.below.grown HGT.out (Nat.le_trans (Nat.le_of_lt HGR.out.map.lt) (Nat.le_refl _)) (fun j hj => by cases hj; exact Nat.le_refl _)), hide (HGR.out.row.kept HGT.out (Or.inr (fun e => own_ne HGR.out.row e.symm))), hide HGR.out.ne, hide ?_⟩
          · rw [HE.out, HRUN.out, HST.out, List.append_assoc]; rfl
          case measure => have h1 := HLN.out; have h2 := HLN1.out; have h3 := HOL.out; rw [List.length_append] at h2; simp only [List.length_cons, List.length_nil] at h2; show 200 - lenV v1 < 200 - lenV u5; omega
        | none =>
          have htn : tosM K ≠ [] := fun e => HKN.out (by simpa [tosM] using e)
          obtain ⟨t, hlt⟩ : ∃ t, lowI (tosM K) = some t := by
            cases h : lowI (tosM K) with
            | none => exact absurd (lowI_none.1 h) htn
            | some t => exact ⟨t, rfl⟩
          obtain ⟨m, hmK, rfl⟩ := List.mem_map.1 (lowI_some hlt).1
          have HST := hide (step_none1 hlo hlt)
          have HF := hide (free_no w.heap.size D K wr m.to HM HK HOK HKN HT hlo hlt)
          have hto := HOK.out.to m hmK
          have HOK2 := hide (HOK.out.scratch m.to)
          have hto0 := hto.1
          clear hlo htn hto hlt
          go_wp2_with (first
            | (go_at_call 73; with_reducible refine HF.out.mono ?_; rintro e w3 ⟨rfl, hb3⟩; have HM3 := hide (HM.out.kept (calm hb3) (by simp)); have HO3 := hide (HO.out.kept (calm hb3) (Classical.em _)); have hs3 := hb3.size; have HB3 := hide hb3; clear hb3)
            | (go_at_call 74; refine (readScratch_any w.heap.size D K m.to _ (hide HGR.out.map) HK HOK hto0).mono ?_; rintro e w5 ⟨rfl, hg5, D5, ho5, hm5⟩)
            | (at_builtin; refine wpList_append_own_at _ rfl _ _ 35 rfl (w.heap.size + 1) 44 i0 (.agg #[.int .i64 0, .int .i64 0, .int .i64 0, .int .i64 0, .int .i64 0]) 5 40 Tryd.underlying35 hi0 hz0 hz1 hz2 rfl (by decide) _ _ _ rfl (HO3.out.alloc _) ⟨w3.heap.size, 0, none⟩ 1 1 [.int .i64 12, .int .i64 0, .int .i64 m.to, .int .i64 0, .int .i64 0] rfl rfl (in_news _ _ _ _ _ _ _) (in_one _ _ _ _ _) (by have := HOL.out; unfold maxLen; omega) (by have := HOL.out; omega) (by simp; omega) ?_; intro v1 w4 hown4 hg4 hne4 hat4; have HGR := hide (grew HB.out HM3.out HO3.out HB3.out HNE.out hown4 hg4 hne4); clear hown4 hg4 hne4 hat4)
            | go_in)
          have HLN1 := hide (own_len HGR.out.row)
          have HGT := hide hg5
          refine ⟨⟨_, scratch K m.to, out ++ [⟨12, 0, m.to, 0, 0⟩], hide ho5, hide hm5, HOK2, hide (HGR.out.below.grown HGT.out (Nat.le_of_lt HGR.out.map.lt) (fun j hj => by cases hj; exact Nat.le_refl _)), hide (HGR.out.row.kept HGT.out (Or.inr (fun e => own_ne HGR.out.row e.symm))), hide HGR.out.ne, hide ?_⟩, ?_⟩
          · rw [HE.out, HRUN.out, HST.out, List.append_assoc]; rfl
          · have h1 := HLN.out; have h2 := HLN1.out; have h3 := HOL.out; rw [List.length_append] at h2; simp only [List.length_cons, List.length_nil] at h2; omega
end Go.Proofs.YtlmaodcddbkllaaDoor
