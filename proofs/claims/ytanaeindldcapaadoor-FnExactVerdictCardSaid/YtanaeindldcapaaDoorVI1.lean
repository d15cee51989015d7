import Derived.Test.YtanaeindldcapaaDoorVP1
import Derived.Test.YtanaeindldcapaaDoorFV1
import Derived.Test.YtanaeindldcapaaDoorOC0
namespace Go.Proofs.YtanaeindldcapaaDoor
open Go.RowKit
theorem cnt_pos (W : Nat → Nat) (K : Nat) : 0 < cntN W K ↔ ∃ x, x < 64 * K ∧ hasN W x = true := by
  unfold cntN
  rw [List.countP_pos_iff]
  constructor
  · rintro ⟨x, h1, h2⟩; exact ⟨x, List.mem_range.1 h1, h2⟩
  · rintro ⟨x, h1, h2⟩; exact ⟨x, List.mem_range.2 h1, h2⟩
theorem field_in (x y : Value) (W : World) : (Instr.field 49 (.agg #[x, y]) 0).run Tryd.prog W = .ok x W := by kernel_rfl
set_option maxHeartbeats 4000000 in
set_option maxRecDepth 100000 in
theorem verdictI_any (v : Int) (a : Option Addr) (n c : Nat) (xs : List Blk) (L B : Nat) (w : World) (ha : Hid (BlksAt w L B a xs)) (hx : Hid (n = xs.length)) (hs : Hid (xs.length + blksTot xs ≤ 1048576)) (hB : B ≤ w.heap.size) (hO : Hid (OpTabW w)) (hT : Hid (TerTabW w)) :
    Calls Tryd.prog 7 #[.agg #[.int .i64 v, .slice a n c]] w fun e w' => e = .returned (.int .i64 (verdP v xs)) ∧ Below w.heap.size w w' := by
  have HVF := hide (fun W (hb : Below w.heap.size w W) => validFuncI_any v a n c xs L B W (hide (ha.out.keep (hb.mono hB))) hx hs (by have := hb.size; omega) (hide (hO.out.keep hb hO.out.1).old) (hide (hT.out.keep hb hT.out.1).old))
  cases hv : validI ⟨v, xs⟩ with
  | false =>
    rw [hv] at HVF
    rw [verdP_bad hv]
    clear hv
    go_enter Tryd.func7, Tryd.ntmps7
    go_wp2_with fail
    refine (HVF.out _ (balloc (Below.refl _ _) _)).mono ?_
    rintro e w1 ⟨rfl, hb1⟩
    have HB1 := hide (bnext (balloc (Below.refl w.heap.size w) _) hb1)
    clear hb1 HVF
    go_wp2_with fail
    go_ret
    exact ⟨rfl, HB1.out⟩
  | true =>
    rw [hv] at HVF
    have HV := hide hv
    have hv0 : 0 ≤ v := by
      simp only [validI, sizeOk, Bool.and_eq_true, decide_eq_true_eq] at hv
      omega
    obtain ⟨V, rfl⟩ := Int.eq_ofNat_of_zero_le hv0
    have HOK : Hid (OkL V xs) := hide (okL_of_valid hv)
    have hn : n ≤ 1000 := by have := hx.out; have := HOK.out.okf.n2; omega
    have hn0 : 0 < n := by have := hx.out; have := HOK.out.okf.n1; omega
    have hK2 : n ≤ 64 * ((n + 63) / 64) := by omega
    have hK3 : (n + 63) / 64 ≤ 100 := by omega
    generalize hvr : verdP (V : Int) xs = vr
    have HVR := hide hvr
    clear hv hv0 hvr
    go_enter Tryd.func7, Tryd.ntmps7
    go_wp2_with fail
    have hW0 : Below w.heap.size w (w.alloc (.cells #[.int .i64 (V : Int), .slice a n c] 29)) := balloc (Below.refl _ _) _
    have hf0 : (w.alloc (.cells #[.int .i64 (V : Int), .slice a n c] 29)).cell? ⟨w.heap.size, 0, none⟩ = some (.int .i64 (V : Int)) := by simp
    have hf1 : (w.alloc (.cells #[.int .i64 (V : Int), .slice a n c] 29)).cell? ⟨w.heap.size, 1, none⟩ = some (.slice a n c) := by simp
    have hz0 : w.heap.size < (w.alloc (.cells #[.int .i64 (V : Int), .slice a n c] 29)).heap.size := by simp
    refine (HVF.out _ hW0).mono ?_
    rintro e w1 ⟨rfl, hb1⟩
    have HB1 := hide (bnext hW0 hb1)
    have g0 := (hb1.cell (p := ⟨w.heap.size, 0, none⟩) hz0).trans hf0
    have g1 := (hb1.cell (p := ⟨w.heap.size, 1, none⟩) hz0).trans hf1
    have hz1 : w.heap.size < w1.heap.size := Nat.lt_of_lt_of_le hz0 hb1.size
    clear hb1 hW0 hf0 hf1 hz0 HVF
    go_wp2_with fail
    refine (newSearch_any (V : Int) a n c w1 hn).mono ?_
    rintro e w2 ⟨bS, gS, rfl, hbS, hgS, hb2, hsea⟩
    have HB2 := hide (bnext HB1.out hb2)
    have HSEA := hide hsea
    have k0 := (hb2.cell (p := ⟨w.heap.size, 0, none⟩) hz1).trans g0
    have k1 := (hb2.cell (p := ⟨w.heap.size, 1, none⟩) hz1).trans g1
    have hz2 := hb2.size
    have HTN : Hid (∀ x ∈ xs, ∀ t ∈ x.term.targets, 0 ≤ t ∧ t < (n : Int)) := hide (by rw [hx.out]; exact HOK.out.okf.tgt)
    have HVI := hide (visit_any bS gS w2.heap.size ((n + 63) / 64) n c a xs L B hx hn hK2 hK3 (by omega) (by omega) (by omega) HTN n 0 (fun _ => 0) (.slice none 0 0) [] w2 HSEA (hide (ha.out.keep (HB2.out.mono hB))) hn0 (hide (unseen_le _ _)) (hide wd_zero) (by simpa using unseen_le (fun _ => 0) n))
    clear hb2 hsea g0 g1
    go_wp2_with fail
    refine HVI.out.mono ?_
    rintro e w3 ⟨rfl, v', hf, hse⟩
    have hlow : Below w.heap.size w w3 := ⟨hf.os.trans HB2.out.os, hf.tape.trans HB2.out.tape, hf.output.trans HB2.out.output, Nat.le_trans HB2.out.size hf.size, fun q hq => (hf.block q (by omega) (by omega) (by omega) (fun e => by cases e)).trans (HB2.out.block q hq)⟩
    have hbf := hf.block w.heap.size (by omega) (by omega) (by omega) (fun e => by cases e)
    have m0 := (cell_of hbf).trans k0
    have m1 := (cell_of hbf).trans k1
    have hse2 : SeaAt w3 bS gS w2.heap.size ((n + 63) / 64) a n c (seaP xs).1 v' (seaP xs).2 := by
      unfold seaP
      rw [← hx.out]
      exact hse
    obtain ⟨q1, q2, q3, q4⟩ := HOK.out.okf.top
    have HFU := hide (full_iff HOK.out.okf (F := ordP xs) q3 q1)
    have hlen : (ordP xs).length = (seaP xs).2.length := by unfold ordP; rw [List.length_reverse]
    have hown := hse2.own
    rw [show natV (seaP xs).2 = (natI (seaP xs).2).map (Value.int .i64) by simp [natV, natI]] at hown
    obtain ⟨aL, cL, eL, _⟩ := ints_owned hown
    have s2 : w3.cell? ⟨bS, 2, none⟩ = some (.slice aL (ordP xs).length cL) := by
      have h := hse2.c2
      rw [eL, show (natI (seaP xs).2).length = (ordP xs).length by rw [hlen]; simp [natI]] at h
      exact h
    have HLOW := hide hlow
    obtain ⟨nl, hnl⟩ : ∃ m, m = (ordP xs).length := ⟨_, rfl⟩
    rw [← hnl] at s2
    have HNL := hide hnl
    have hnl2 : nl ≤ n := by rw [hnl, hx.out]; exact HFU.out.1
    have HAR : Hid (nl = n ↔ AllRe xs) := hide (by rw [hnl, hx.out]; exact HFU.out.2)
    have HFL := hide (findLive_any V a n c xs L B w3.drew (hide (ha.out.keep (hlow.drew.mono hB))) hx (by have := hlow.drew.size; omega) HOK (hide (hO.out.keep hlow.drew hO.out.1)) (hide (hT.out.keep hlow.drew hT.out.1)))
    have hz3 : w.heap.size < w3.heap.size := World.block_lt_of_cell? w3 _ m0
    clear hf hse hse2 hlow hbf hown eL hlen hnl q1 q2 q3 q4 k0 k1 HVI HSEA HFU
    by_cases hlt : nl < n
    · have HR : Hid (vr = 10) := hide (by rw [← HVR.out]; exact verdP_un HV.out (fun h => by have := HAR.out.2 h; omega))
      go_wp2_with fail
      go_region
      go_wp2_with fail
      go_ret
      exact ⟨by rw [HR.out]; rfl, HLOW.out.drew⟩
    · have HAL : Hid (AllRe xs) := hide (HAR.out.1 (by omega))
      have hfi := fun x y W => field_in x y W
      go_wp2_with fail
      go_region
      go_wp2_with fail
      refine HFL.out.mono ?_
      rintro e w4 ⟨Gi, Go, gi, go, ci, WI, WX, rfl, hR⟩
      have HR4 := hide hR
      have x0 : w4.cell? ⟨Gi, 0, none⟩ = some (.slice (some ⟨gi 0, 0, none⟩) ((V + 63) / 64) (ci 0)) := hR.si.row.cell hn0
      have hV := HOK.out.vle
      have HCN := hide (count_valueNo (gi 0) ((V + 63) / 64) (ci 0) (WI 0) w4 (hide (hR.wi 0)) (hide (hR.si.set 0 hn0)) (by omega))
      have hcn := cnt_le (WI 0) ((V + 63) / 64)
      have HL4 : Hid (Below w.heap.size w w4) := hide (HLOW.out.drew.trans (hR.low.mono HLOW.out.drew.size))
      have HBA : Hid (0 < cntN (WI 0) ((V + 63) / 64) ↔ ∃ x, Bad xs x) := hide (by
        obtain ⟨I, T, W0, ord, h1, h2, h3, h4, h5, _⟩ := hR.inn
        have hbi : ∀ {x : Nat}, Sp I T (· ∈ ord) (tgN xs) 0 x ↔ Bad xs x := fun {x} => bad_iff HOK.out h1 h2 h3 (ord := (· ∈ ord)) h4 (src := tgN xs) (fun _ _ => rfl)
        rw [cnt_pos]
        constructor
        · rintro ⟨x, hx1, hx2⟩
          exact ⟨x, hbi.1 ((h5 0 hn0 x hx1).1 hx2)⟩
        · rintro ⟨x, hx1⟩
          have hlt := bad_lt HOK.out hx1
          have hx2 : x < 64 * ((V + 63) / 64) := by omega
          exact ⟨x, hx2, (h5 0 hn0 x hx2).2 (hbi.2 hx1)⟩)
      clear hR HFL
      generalize hcc : cntN (WI 0) ((V + 63) / 64) = cc at *
      clear hcc
      generalize (V + 63) / 64 = K4 at *
      go_wp2_with fail
      refine HCN.out.mono ?_
      rintro e w5 ⟨rfl, hb5⟩
      have HB5 := hide (bnext HL4.out hb5)
      clear hb5 HCN x0
      by_cases hc0 : 0 < cc
      · have HRR : Hid (vr = 11) := hide (by rw [← HVR.out]; exact verdP_ns HV.out HAL.out (HBA.out.1 hc0))
        go_wp2_with fail
        go_ret
        exact ⟨by rw [HRR.out]; rfl, HB5.out⟩
      · have HRR : Hid (vr = 0) := hide (by rw [← HVR.out]; exact verdP_ok HV.out HAL.out (fun h => hc0 (HBA.out.2 h)))
        go_wp2_with fail
        go_ret
        exact ⟨by rw [HRR.out]; rfl, HB5.out⟩
section
structure Gro (W1 : World) (G : Nat) (wr : World) (u : Value) (l : List Int) : Prop where
  os : wr.os = W1.os
  tape : wr.tape = W1.tape
  output : wr.output = W1.output
  size : W1.heap.size ≤ wr.heap.size
  fr : ∀ q, q < W1.heap.size → q ≠ G → wr.heap[q]? = W1.heap[q]?
  own : wr.ownsRow G 2 1 u l.length (l.map (Value.int .i64))
  here : ∀ g, u.ownBlock = some g → g = G ∨ W1.heap.size ≤ g
section
variable {W1 wr w2 : World} {G : Nat} {u u' : Value} {l : List Int}
theorem Gro.start (h : W1.ownsRow G 2 1 u 0 []) (hu : ∀ g, u.ownBlock = some g → g = G) : Gro W1 G W1 u [] := ⟨rfl, rfl, rfl, Nat.le_refl _, fun _ _ _ => rfl, h, fun g e => Or.inl (hu g e)⟩
theorem Gro.push {x : Int} (h : Gro W1 G wr u l) (hg : wr.grownBy w2 u.ownBlock) (ho : w2.ownsRow G 2 1 u' (l.length + 1) (l.map (Value.int .i64) ++ [.int .i64 x])) (hat : u'.ownBlock = u.ownBlock ∨ u'.ownBlock = some wr.heap.size) : Gro W1 G w2 u' (l ++ [x]) := by
  have hz := h.size
  refine ⟨hg.os.trans h.os, hg.tape.trans h.tape, hg.output.trans h.output, Nat.le_trans hz hg.size, fun q h1 h2 => (hg.block q (by omega) (fun e => ?_)).trans (h.fr q h1 h2), ?_, fun g e => ?_⟩
  · rcases h.here q e.symm with k | k
    · exact h2 k
    · omega
  · rw [ints_snoc, List.length_append]
    exact ho
  · rcases hat with k | k
    · exact h.here g (by rw [← k]; exact e)
    · rw [k] at e
      injection e with e
      exact Or.inr (by omega)
theorem Gro.below (h : Gro W1 G wr u l) (k : Below wr.heap.size wr w2) : Gro W1 G w2 u l :=
  ⟨k.os.trans h.os, k.tape.trans h.tape, k.output.trans h.output, Nat.le_trans h.size k.size, fun q h1 h2 => (k.block q (Nat.lt_of_lt_of_le h1 h.size)).trans (h.fr q h1 h2), own_block h.own (fun g e => k.block g (h.own.lt g e).2), h.here⟩
theorem Gro.alloc (h : Gro W1 G wr u l) (o : Obj) : Gro W1 G (wr.alloc o) u l := h.below (balloc (Below.refl _ _) o)
theorem Gro.cell (h : Gro W1 G wr u l) {b o : Nat} {v : Value} (hb : b ≠ G) (hc : W1.cell? ⟨b, o, none⟩ = some v) : wr.cell? ⟨b, o, none⟩ = some v := (cell_of (h.fr b (World.block_lt_of_cell? W1 _ hc) hb)).trans hc
theorem Gro.ints (h : Gro W1 G wr u l) {L B : Nat} {a : Option Addr} {xs : List Int} (hB : B ≤ W1.heap.size) (hG : ¬ (L ≤ G ∧ G < B)) (hi : IntsAt W1 L B a xs) : IntsAt wr L B a xs := hi.keepS (fun k h1 h2 => h.fr k (by omega) (fun e => hG (by omega)))
end
end
end Go.Proofs.YtanaeindldcapaaDoor
