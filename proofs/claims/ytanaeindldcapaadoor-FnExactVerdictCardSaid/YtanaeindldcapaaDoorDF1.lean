import Derived.Test.YtanaeindldcapaaDoorNSb
import Derived.Test.YtanaeindldcapaaDoorW10
import Derived.Test.YtanaeindldcapaaDoorDR1
import Derived.Test.YtanaeindldcapaaDoorSPP
namespace Go.Proofs.YtanaeindldcapaaDoor
open Go.RowKit
def natV (L : List Nat) : List Value := L.map fun (x : Nat) => Value.int .i64 (x : Int)
theorem natV_snoc (L : List Nat) (x : Nat) : natV (L ++ [x]) = natV L ++ [.int .i64 (x : Int)] := by simp [natV]
theorem ints_one (w : World) (b ty : Nat) : IntsAt (w.alloc (.cells #[.int .i64 (b : Int)] ty)) w.heap.size (w.heap.size + 1) (some ⟨w.heap.size, 0, none⟩) ([b].map Int.ofNat) := fun i hi => by
  have : i = 0 := by simpa using hi
  subst this
  exact ⟨_, 0, rfl, ⟨Nat.le_refl _, Nat.lt_succ_self _⟩, by simp⟩
theorem tg_two (t : Ter) : t.targets.length ≤ 2 := by
  unfold Ter.targets
  split
  · simp
  · split <;> simp
/-- The search in memory. -/
structure SeaAt (w : World) (bS gS BL K : Nat) (ab : Option Addr) (nb cb : Nat) (W : Nat → Nat) (v : Value) (L : List Nat) : Prop where
  c0 : w.cell? ⟨bS, 0, none⟩ = some (.slice ab nb cb)
  c1 : w.cell? ⟨bS, 1, none⟩ = some (.slice (some ⟨gS, 0, none⟩) K K)
  c2 : w.cell? ⟨bS, 2, none⟩ = some v
  thaw : ∀ q, w.frozen? ⟨bS, q, none⟩ = false
  row : w.rowIs gS 102 K (fun i => .int .u64 (W i))
  own : w.ownsRow BL 2 1 v L.length (natV L)
  lb : bS < BL
  lg : gS < BL
  ne : bS ≠ gS
  sz : BL ≤ w.heap.size
/-- What a visit may turn. -/
structure FrV (w w' : World) (bS gS : Nat) (v v' : Value) : Prop where
  os : w'.os = w.os
  tape : w'.tape = w.tape
  output : w'.output = w.output
  size : w.heap.size ≤ w'.heap.size
  block : ∀ k, k < w.heap.size → k ≠ bS → k ≠ gS → some k ≠ v.ownBlock → w'.heap[k]? = w.heap[k]?
  own : v'.ownBlock = v.ownBlock ∨ ∀ k, v'.ownBlock = some k → w.heap.size ≤ k
theorem FrV.refl (w : World) (bS gS : Nat) (v : Value) : FrV w w bS gS v v := ⟨rfl, rfl, rfl, Nat.le_refl _, fun _ _ _ _ _ => rfl, Or.inl rfl⟩
theorem FrV.trans {w w1 w2 : World} {bS gS : Nat} {v v1 v2 : Value} (h : FrV w w1 bS gS v v1) (k : FrV w1 w2 bS gS v1 v2) : FrV w w2 bS gS v v2 := by
  refine ⟨k.os.trans h.os, k.tape.trans h.tape, k.output.trans h.output, Nat.le_trans h.size k.size, fun j h1 h2 h3 h4 => ?_, ?_⟩
  · refine (k.block j (Nat.lt_of_lt_of_le h1 h.size) h2 h3 (fun e => ?_)).trans (h.block j h1 h2 h3 h4)
    rcases h.own with ho | ho
    · exact h4 (by rw [e, ho])
    · have := ho j e.symm; omega
  · rcases k.own with ko | ko
    · rcases h.own with ho | ho
      · exact Or.inl (ko.trans ho)
      · exact Or.inr (fun j e => ho j (by rw [← ko]; exact e))
    · exact Or.inr (fun j e => Nat.le_trans h.size (ko j e))
theorem FrV.of_below {w w' : World} {bS gS : Nat} {v : Value} (h : Below w.heap.size w w') : FrV w w' bS gS v v := ⟨h.os, h.tape, h.output, h.size, fun k h1 _ _ _ => h.block k h1, Or.inl rfl⟩
theorem FrV.of_grown {w w' : World} {bS gS : Nat} {v : Value} (h : w.grownBy w' (some gS)) : FrV w w' bS gS v v := ⟨h.os, h.tape, h.output, h.size, fun k h1 _ h3 _ => h.block k h1 (fun e => h3 (by injection e)), Or.inl rfl⟩
theorem SeaAt.below {w w' : World} {bS gS BL K : Nat} {ab : Option Addr} {nb cb : Nat} {W : Nat → Nat} {v : Value} {L : List Nat} (h : SeaAt w bS gS BL K ab nb cb W v L) (k : Below w.heap.size w w') : SeaAt w' bS gS BL K ab nb cb W v L := by
  have hz := h.sz
  have hb : w'.heap[bS]? = w.heap[bS]? := k.block bS (by have := h.lb; omega)
  have ce : ∀ q, w'.cell? ⟨bS, q, none⟩ = w.cell? ⟨bS, q, none⟩ := fun q => World.cell?_of_block hb
  refine ⟨(ce 0).trans h.c0, (ce 1).trans h.c1, (ce 2).trans h.c2, fun q => (World.frozen?_of_block hb).trans (h.thaw q), h.row.of_block (k.block gS (by have := h.lg; omega)), ?_, h.lb, h.lg, h.ne, Nat.le_trans hz k.size⟩
  refine h.own.kept (row := none) ⟨k.os, k.tape, k.output, k.size, fun j hj _ => k.block j hj⟩ ?_
  cases v.ownBlock with
  | none => exact Or.inl rfl
  | some j => exact Or.inr (by simp)
/-- The set of what is seen has grown. -/
theorem SeaAt.seen {w w' : World} {bS gS BL K : Nat} {ab : Option Addr} {nb cb : Nat} {W W' : Nat → Nat} {v : Value} {L : List Nat} (h : SeaAt w bS gS BL K ab nb cb W v L) (k : w.grownBy w' (some gS)) (hr : w'.rowIs gS 102 K (fun i => .int .u64 (W' i))) : SeaAt w' bS gS BL K ab nb cb W' v L := by
  have hz := h.sz
  have hb : w'.heap[bS]? = w.heap[bS]? := k.block bS (by have := h.lb; omega) (fun e => h.ne (by injection e))
  have ce : ∀ q, w'.cell? ⟨bS, q, none⟩ = w.cell? ⟨bS, q, none⟩ := fun q => World.cell?_of_block hb
  exact ⟨(ce 0).trans h.c0, (ce 1).trans h.c1, (ce 2).trans h.c2, fun q => (World.frozen?_of_block hb).trans (h.thaw q), hr, own_grown h.own k h.lg, h.lb, h.lg, h.ne, Nat.le_trans hz k.size⟩
theorem SeaAt.push {w w8 : World} {bS gS BL K : Nat} {ab : Option Addr} {nb cb : Nat} {W : Nat → Nat} {v v8 : Value} {L : List Nat} {b : Nat} {ob : Obj} (h : SeaAt w bS gS BL K ab nb cb W v L) (hg : (w.alloc ob).grownBy w8 v.ownBlock) (ho : w8.ownsRow BL 2 1 v8 (L.length + 1) (natV L ++ [.int .i64 (b : Int)])) (hat : v8.ownBlock = v.ownBlock ∨ v8.ownBlock = some (w.heap.size + 1)) :
    SeaAt (w8.setCell ⟨bS, 2, none⟩ v8) bS gS BL K ab nb cb W v8 (L ++ [b]) ∧ FrV w (w8.setCell ⟨bS, 2, none⟩ v8) bS gS v v8 ∧ w8.cell? ⟨bS, 2, none⟩ = some v ∧ w8.frozen? ⟨bS, 2, none⟩ = false := by
  have hz := h.sz
  have hlb := h.lb
  have hlg := h.lg
  have hsz : (w.alloc ob).heap.size = w.heap.size + 1 := World.size_alloc _ _
  have hgs := hg.size
  have hnv : ∀ k, k < BL → some k ≠ v.ownBlock := fun k hk e => by have := (h.own.lt k e.symm).1; omega
  have ha : ∀ k, k < w.heap.size → (w.alloc ob).heap[k]? = w.heap[k]? := fun k hk => Below.heap_alloc _ _ _ hk
  have hb : w8.heap[bS]? = w.heap[bS]? := (hg.block bS (by omega) (hnv _ hlb)).trans (ha _ (by omega))
  have hgr : w8.heap[gS]? = w.heap[gS]? := (hg.block gS (by omega) (hnv _ hlg)).trans (ha _ (by omega))
  have ce : ∀ q, w8.cell? ⟨bS, q, none⟩ = w.cell? ⟨bS, q, none⟩ := fun q => World.cell?_of_block hb
  have fe : ∀ q, w8.frozen? ⟨bS, q, none⟩ = false := fun q => (World.frozen?_of_block hb).trans (h.thaw q)
  refine ⟨⟨(set_other _ _ (by omega) _).trans ((ce 0).trans h.c0), (set_other _ _ (by omega) _).trans ((ce 1).trans h.c1), World.cell?_setCell_same _ _ _ ((ce 2).trans h.c2), fun q => by rw [World.frozen?_setCell]; exact fe q, (h.row.of_block hgr).setOther (fun e => h.ne e.symm) _, ?_, hlb, hlg, h.ne, by rw [size_setCell]; omega⟩, ⟨?_, ?_, ?_, by rw [size_setCell]; omega, fun k h1 h2 h3 h4 => ?_, ?_⟩, (ce 2).trans h.c2, fe 2⟩
  · rw [natV_snoc, List.length_append]
    exact ownsRow_setCell_below ho hlb _
  · exact hg.os
  · exact hg.tape
  · exact hg.output
  · rw [Below.heap_setCell _ _ _ _ h2]
    exact (hg.block k (by omega) h4).trans (ha k h1)
  · rcases hat with e | e
    · exact Or.inl e
    · exact Or.inr (fun k ek => by rw [e] at ek; injection ek with ek; omega)
theorem FrV.blks {w w' : World} {bS gS BL K : Nat} {ab : Option Addr} {nb cb : Nat} {W : Nat → Nat} {v v' : Value} {L : List Nat} {xs : List Blk} {L0 B0 : Nat} (f : FrV w w' bS gS v v') (h : SeaAt w bS gS BL K ab nb cb W v L) (hb : BlksAt w L0 B0 ab xs) (h1 : ¬ (L0 ≤ bS ∧ bS < B0)) (h2 : ¬ (L0 ≤ gS ∧ gS < B0)) (h3 : B0 ≤ BL) : BlksAt w' L0 B0 ab xs := by
  have hz := h.sz
  exact hb.keepS (fun k k1 k2 => f.block k (by omega) (fun e => h1 (by omega)) (fun e => h2 (by omega)) (fun e => by have := (h.own.lt k e.symm).1; omega))
set_option maxHeartbeats 2000000 in
set_option maxRecDepth 100000 in
theorem visit_any (bS gS BL K nb cb : Nat) (ab : Option Addr) (xs : List Blk) (L0 B0 : Nat) (hxb : Hid (nb = xs.length)) (hn : nb ≤ 1000) (hK : nb ≤ 64 * K) (hK2 : K ≤ 100) (h1 : ¬ (L0 ≤ bS ∧ bS < B0)) (h2 : ¬ (L0 ≤ gS ∧ gS < B0)) (h3 : B0 ≤ BL) (hT : Hid (∀ x ∈ xs, ∀ t ∈ x.term.targets, 0 ≤ t ∧ t < nb)) :
    ∀ (m b : Nat) (W : Nat → Nat) (v : Value) (L : List Nat) (w : World), Hid (SeaAt w bS gS BL K ab nb cb W v L) → Hid (BlksAt w L0 B0 ab xs) → b < nb → Hid (unseen W nb ≤ m) → Hid (WdOk W) → L.length + unseen W nb ≤ nb →
    Calls Tryd.prog 16 #[.pointer (some ⟨bS, 0, none⟩), .int .i64 b] w fun e w' => e = .returned (.tuple #[]) ∧ ∃ v', FrV w w' bS gS v v' ∧ SeaAt w' bS gS BL K ab nb cb (dfsV (tgN xs) m b (W, L)).1 v' (dfsV (tgN xs) m b (W, L)).2 := by
  obtain ⟨i0, hi0, hz0, hz1, hz2⟩ := info_three Tryd.info2'
  intro m
  induction m with
  | zero =>
    intro b W v L w HS HB hb HU HW hL
    have HH : Hid (hasN W b = true) := hide (unseen_zero (by have := HU.out; omega) hb)
    have HAS := hide (has_blockNo gS K b W w HW (hide HS.out.row) (by omega) (by omega))
    rw [HH.out] at HAS
    have c1 := HS.out.c1
    go_enter Tryd.func16, Tryd.ntmps16
    go_wp2_with fail
    refine HAS.out.mono ?_
    rintro e w1 ⟨rfl, hb1⟩
    have HS1 := hide (HS.out.below hb1)
    have HF1 : Hid (FrV w w1 bS gS v v) := hide (FrV.of_below hb1)
    clear hb1 HAS c1
    go_wp2_with fail
    refine bodyPost_ret (v := .tuple #[]) (by simp [results, Tryd.results16, go_sem]) rfl ?_
    exact ⟨rfl, v, HF1.out, HS1.out⟩
  | succ m ih =>
    intro b W v L w HS HB hb HU HW hL
    have IH := hide ih
    clear ih
    cases hh : hasN W b with
    | true =>
      have HHT := hide hh
      clear hh
      have HAS := hide (has_blockNo gS K b W w HW (hide HS.out.row) (by omega) (by omega))
      rw [HHT.out] at HAS
      have c1 := HS.out.c1
      go_enter Tryd.func16, Tryd.ntmps16
      go_wp2_with fail
      refine HAS.out.mono ?_
      rintro e w1 ⟨rfl, hb1⟩
      have HS1 := hide (HS.out.below hb1)
      have HF1 : Hid (FrV w w1 bS gS v v) := hide (FrV.of_below hb1)
      clear hb1 HAS c1
      go_wp2_with fail
      refine bodyPost_ret (v := .tuple #[]) (by simp [results, Tryd.results16, go_sem]) rfl ?_
      rw [dfs_stop (s := (W, L)) HHT.out]
      exact ⟨rfl, v, HF1.out, HS1.out⟩
    | false =>
      have HHF := hide hh
      clear hh
      have c0 := HS.out.c0
      have c1 := HS.out.c1
      have c2 := HS.out.c2
      have HAS := hide (has_blockNo gS K b W w HW (hide HS.out.row) (by omega) (by omega))
      rw [HHF.out] at HAS
      go_enter Tryd.func16, Tryd.ntmps16
      go_wp2_with fail
      refine HAS.out.mono ?_
      rintro e w1 ⟨rfl, hb1⟩
      have HS1 := hide (HS.out.below hb1)
      have HF1 : Hid (FrV w w1 bS gS v v) := hide (FrV.of_below hb1)
      clear hb1 HAS c0 c1 c2
      have c0 := HS1.out.c0
      have c1 := HS1.out.c1
      go_wp2_with fail
      have HSA := hide (HS1.out.below (balloc (Below.refl _ _) (.cells #[.int .i64 (b : Int)] 85)))
      have HFA : Hid (FrV w1 (w1.alloc (.cells #[.int .i64 (b : Int)] 85)) bS gS v v) := hide (FrV.of_below (balloc (Below.refl _ _) _))
      have HIA : Hid (IntsAt (w1.alloc (.cells #[.int .i64 (b : Int)] 85)) w1.heap.size (w1.heap.size + 1) (some ⟨w1.heap.size, 0, none⟩) ([b].map Int.ofNat)) := hide (ints_one w1 b _)
      have hza : w1.heap.size + 1 ≤ (w1.alloc (.cells #[.int .i64 (b : Int)] 85)).heap.size := by simp
      have hgz : gS < w1.heap.size := by have := HS1.out.lg; have := HS1.out.sz; omega
      generalize w1.alloc (.cells #[.int .i64 (b : Int)] 85) = wa at *
      have HRB : Hid (∀ t ∈ [b], t < 64 * K) := hide (fun t ht => by
        have : t = b := by simpa using ht
        omega)
      refine (add_blockNo gS K 1 1 W _ [b] w1.heap.size (w1.heap.size + 1) wa HIA (hide rfl) (by omega) HRB (by omega) HW (hide HSA.out.row) hza (by omega)).mono ?_
      rintro e w2 ⟨rfl, hg2, hr2⟩
      have HS2 : Hid (SeaAt w2 bS gS BL K ab nb cb (addN W b) v L) := hide (HSA.out.seen hg2 hr2)
      have HF2 : Hid (FrV w w2 bS gS v v) := hide ((HF1.out.trans HFA.out).trans (FrV.of_grown hg2))
      have HB2 : Hid (BlksAt w2 L0 B0 ab xs) := hide (HF2.out.blks HS.out HB.out h1 h2 h3)
      have HU2 := hide (unseen_add (W := W) (n := nb) hb HHF.out)
      have HD : Hid (dfsV (tgN xs) (m + 1) b (W, L) = _) := hide (dfs_go (tg := tgN xs) (m := m) (s := (W, L)) HHF.out)
      clear hg2 hr2 HSA HFA HIA HF1 HS1 hza hgz c0 c1
      have hbx : b < xs.length := by have := hxb.out; omega
      obtain ⟨bb, o, rfl, hbb, pa, pc, ia, ic, -, -, ⟨t0, t1, t2, t3⟩, -, -⟩ := HB2.out b hbx
      have c0 := HS2.out.c0
      have HTT : Hid (∀ t ∈ xs[b].term.targets, 0 ≤ t ∧ t < nb) := hide (hT.out _ (List.getElem_mem hbx))
      rw [tgN_at hbx] at HD
      dsimp only at HD
      generalize xs[b].term = tm at *
      go_wp2_with fail
      refine (targetsI_any tm w2).mono ?_
      rintro e w3 ⟨at3, ct3, rfl, hb3, hi3⟩
      have HS3 := hide (HS2.out.below hb3)
      have HF3 : Hid (FrV w w3 bS gS v v) := hide (HF2.out.trans (FrV.of_below hb3))
      have HI3 := hide hi3
      have HB3 : Hid (BlksAt w3 L0 B0 (some ⟨bb, o, none⟩) xs) := hide (HF3.out.blks HS.out HB.out h1 h2 h3)
      have HZ3 := hide hb3.size
      have HOW : Hid (∀ k, v.ownBlock = some k → k < w2.heap.size) := hide (fun k e => (HS2.out.own.lt k e).2)
      have HG2 : Hid (gS < w2.heap.size ∧ bS < w2.heap.size) := hide ⟨by have := HS2.out.lg; have := HS2.out.sz; omega, by have := HS2.out.lb; have := HS2.out.sz; omega⟩
      clear hb3 hi3 t0 t1 t2 t3 c0 HB2 HS2 HF2
      have hts2 : tm.targets.length ≤ 2 := tg_two tm
      generalize hts : tm.targets = ts at *
      clear hts
      have HTL : Hid (∀ t ∈ ts.map Int.toNat, t < nb) := hide (fun t ht => by
        obtain ⟨z, hz, rfl⟩ := List.mem_map.1 ht
        have := HTT.out z hz
        omega)
      have HTG : Hid (∀ b, b < nb → ∀ t ∈ tgN xs b, t < nb) := hide (fun b hb t ht => by
        have hbx : b < xs.length := by have := hxb.out; omega
        rw [tgN_at hbx] at ht
        obtain ⟨z, hz, rfl⟩ := List.mem_map.1 ht
        have := hT.out _ (List.getElem_mem hbx) z hz
        omega)
      have HWA := hide (add_wd HW.out b)
      have hU3 : unseen (addN W b) nb ≤ m := by have := HU.out; have := HU2.out; omega
      have hL3 : L.length + unseen (addN W b) nb + 1 ≤ nb := by have := HU2.out; omega
      go_wp2_with fail
      go_loopw [29] (fun u wr => ∃ q : Nat, q ≤ ts.length ∧ u = .int .i64 q ∧ ∃ v', Hid (FrV w3 wr bS gS v v') ∧ Hid (SeaAt wr bS gS BL K (some ⟨bb, o, none⟩) nb cb (((ts.map Int.toNat).take q).foldl (fun s t => dfsV (tgN xs) m t s) (addN W b, L)).1 v' (((ts.map Int.toNat).take q).foldl (fun s t => dfsV (tgN xs) m t s) (addN W b, L)).2)) (fun u _ => ts.length - (intOf u).toNat)
      case atStart => exact ⟨0, Nat.zero_le _, rfl, v, hide (FrV.refl _ _ _ _), HS3⟩
      case round =>
        obtain ⟨q, hq, rfl, v', HFq, HSq⟩ := hrel
        have HFL : Hid ((((ts.map Int.toNat).take q).foldl (fun s t => dfsV (tgN xs) m t s) (addN W b, L)).2.length + unseen (((ts.map Int.toNat).take q).foldl (fun s t => dfsV (tgN xs) m t s) (addN W b, L)).1 nb ≤ L.length + unseen (addN W b) nb) := hide (fold_len (tgN xs) nb HTG.out m _ _ (fun t ht => HTL.out t (List.mem_of_mem_take ht)))
        by_cases hlt : q < ts.length
        · obtain ⟨bt, ot, rfl, hbt, et3⟩ := HI3.out q hlt
          have et := (cell_of (HFq.out.block bt hbt.2 (by have := HG2.out; omega) (by have := HG2.out; omega) (fun e => by have := HOW.out bt e.symm; omega))).trans et3
          have htr := HTT.out ts[q] (List.getElem_mem hlt)
          have HTK : Hid ((ts.map Int.toNat).take (q + 1) = (ts.map Int.toNat).take q ++ [ts[q].toNat]) := hide (by rw [List.take_succ_eq_append_getElem (by simpa using hlt), List.getElem_map])
          have HWQ := hide (fold_wd (tgN xs) m ((ts.map Int.toNat).take q) (addN W b, L) HWA.out)
          have HBq := hide (HFq.out.blks HS3.out HB3.out h1 h2 h3)
          have HUQ : Hid (unseen (((ts.map Int.toNat).take q).foldl (fun s t => dfsV (tgN xs) m t s) (addN W b, L)).1 nb ≤ m) := hide (Nat.le_trans (unseen_mono nb (fun x hx => fold_mono (tgN xs) m _ (addN W b, L) x hx)) hU3)
          have HFO : Hid (((ts.map Int.toNat).take (q + 1)).foldl (fun s t => dfsV (tgN xs) m t s) (addN W b, L) = dfsV (tgN xs) m ts[q].toNat (((ts.map Int.toNat).take q).foldl (fun s t => dfsV (tgN xs) m t s) (addN W b, L))) := hide (by rw [HTK.out, List.foldl_append]; rfl)
          clear et3 HTK
          generalize ts[q] = tq at *
          obtain ⟨tn, rfl⟩ := nat_of htr.1
          rw [Int.toNat_natCast] at HFO
          have HC := hide (IH.out tn _ v' _ wr HSq HBq (by omega) HUQ HWQ (by have := HFL.out; omega))
          generalize ((ts.map Int.toNat).take q).foldl (fun s t => dfsV (tgN xs) m t s) (addN W b, L) = sq at *
          obtain ⟨Wq, Lq⟩ := sq
          dsimp only at *
          go_wp2_with fail
          refine HC.out.mono ?_
          rintro e w5 ⟨rfl, v5, hf5, hs5⟩
          have HF5 := hide (HFq.out.trans hf5)
          have HS5 := hide hs5
          clear hf5 hs5 HC
          go_wp2_with fail
          exact ⟨⟨q + 1, by omega, by go_num, v5, HF5, hide (by rw [HFO.out]; exact HS5.out)⟩, by simp [intOf]; omega⟩
        · have hqe : q = ts.length := by omega
          have HTE : Hid ((ts.map Int.toNat).take q = ts.map Int.toNat) := hide (List.take_of_length_le (by simp; omega))
          rw [HTE.out] at HSq HFL
          generalize (ts.map Int.toNat).foldl (fun s t => dfsV (tgN xs) m t s) (addN W b, L) = sq at *
          obtain ⟨Wq, Lq⟩ := sq
          dsimp only at *
          clear HTE
          have c2 := HSq.out.c2
          have zz := HSq.out.thaw 2
          have hlq : Lq.length ≤ 1000 := by have := HFL.out; omega
          have hwz := HSq.out.sz
          go_wp2_with (at_builtin; refine wpList_append_own_at _ rfl _ _ 35 rfl BL 2 i0 (.int .i64 0) 1 8 Tryd.underlying35 hi0 hz0 hz1 hz2 rfl (by decide) _ _ _ rfl (HSq.out.own.alloc _) ⟨wr.heap.size, 0, none⟩ 1 1 [.int .i64 (b : Int)] rfl rfl ?c1 ?c2 ?c3 ?c4 ?c5 ?_)
          case c1 => exact one_news _ _ _
          case c2 => intro u hu; simp at hu; subst hu; rfl
          case c3 => unfold maxLen; omega
          case c4 => omega
          case c5 => simp; omega
          intro v8 w8 hown8 hg8 hne8 hat8
          obtain ⟨hp1, hp2, hp3, hp4⟩ := HSq.out.push hg8 hown8 hat8
          obtain ⟨g8, k8, rfl, -, -⟩ := own_some' hown8 (by omega)
          have HP1 := hide hp1
          have HP2 := hide hp2
          clear hp1 hp2 hown8 hg8 hne8 hat8
          go_wp2_with fail
          go_end0
          exact ⟨rfl, _, (HF3.out.trans HFq.out).trans HP2.out, by rw [HD.out]; exact HP1.out⟩
inductive AvZ (tg : Nat → List Nat) (z : Int) : Nat → Prop
  | root : z ≠ 0 → AvZ tg z 0
  | step {b t : Nat} : AvZ tg z b → t ∈ tg b → (t : Int) ≠ z → AvZ tg z t
theorem avz_neg {tg : Nat → List Nat} {z : Int} (hz : z < 0) {b : Nat} : AvZ tg z b ↔ Re tg b := by
  constructor
  · intro h
    induction h with
    | root _ => exact Re.root
    | step _ ht _ ih => exact Re.step ih ht
  · intro h
    induction h with
    | root => exact AvZ.root (by omega)
    | step _ ht ih => exact AvZ.step ih ht (by omega)
/-- What the search has found: F, of which the first i have been looked through. -/
structure RcI (tg : Nat → List Nat) (n : Nat) (z : Int) (F : List Nat) (i : Nat) : Prop where
  nd : F.Nodup
  av : ∀ x ∈ F, AvZ tg z x
  lt : ∀ x ∈ F, x < n
  root : z ≠ 0 → 0 ∈ F
  nil : z = 0 → F = []
  cl : ∀ k (h : k < F.length), k < i → ∀ t ∈ tg F[k], (t : Int) ≠ z → t = 0 ∨ t ∈ F
theorem nodup_le {F : List Nat} {n : Nat} (h : F.Nodup) (hl : ∀ x ∈ F, x < n) : F.length ≤ n := by
  have := List.Nodup.length_le_of_subset h (l₂ := List.range n) (fun x hx => List.mem_range.2 (hl x hx))
  simpa using this
theorem rc_done {tg : Nat → List Nat} {n : Nat} {z : Int} {F : List Nat} {i : Nat} (h : RcI tg n z F i) (hi : F.length ≤ i) (x : Nat) : x ∈ F ↔ AvZ tg z x := by
  refine ⟨h.av x, fun hx => ?_⟩
  induction hx with
  | root hz => exact h.root hz
  | @step b t hb ht hne ih =>
    obtain ⟨k, hk, e⟩ := List.getElem_of_mem ih
    rcases h.cl k hk (by omega) t (by rw [e]; exact ht) hne with h0 | h1
    · rw [h0]
      refine h.root (fun hz => ?_)
      rw [h.nil hz] at hk
      exact absurd hk (by simp)
    · exact h1
/-- A row whose cells are told by a function. -/
theorem row_set {T : Type} {C : T → Value} {w : World} {g t n : Nat} {f : Nat → T} (h : w.rowIs g t n (fun z => C (f z))) (r : Nat) (v : T) : (w.setCell ⟨g, r, none⟩ (C v)).rowIs g t n (fun z => C (if z = r then v else f z)) :=
  (h.set r (C v)).congr (fun z _ => by by_cases e : z = r <;> simp [e])
theorem row_as {T : Type} {C : T → Value} {w : World} {g t n : Nat} {f f' : Nat → T} (h : w.rowIs g t n (fun z => C (f z))) (e : ∀ z, z < n → f z = f' z) : w.rowIs g t n (fun z => C (f' z)) := h.congr (fun z hz => by rw [e z hz])
theorem Tryd.infoBo : (Tryd.prog.info? 4).map (fun i => (i.zero, i.size, i.bytes)) = some (some (.bool false), 1, 1) := by kernel_rfl
end Go.Proofs.YtanaeindldcapaaDoor
