import Derived.Test.YtdcdgopblbmgoaaDoorE14b
import Derived.Test.YtdcdgopblbmgoaaDoorRunS
import Derived.Test.YtdcdgopblbmgoaaDoorW15
/-
  slices.Insert(slices.Clone(args), 0, dst): both ways together.
-/
namespace Go.Proofs.YtdcdgopblbmgoaaDoor
open Go.RowKit

theorem heap_setCells_shape (b : Nat) : ∀ (vs : List Value) (o : Nat) (w : World) (t : TypeId), (∃ c fz, w.heap[b]? = some (.cells c t fz)) → ∃ c fz, (w.setCells b o vs).heap[b]? = some (.cells c t fz)
  | [], _, _, _, h => h
  | v :: r, o, w, t, h => by
    rw [World.setCells]
    refine heap_setCells_shape b r _ _ t ?_
    obtain ⟨c, fz, hc⟩ := h
    exact ⟨c.setIfInBounds o v, fz, by simp [World.setCell, Array.getElem?_modify, hc]⟩

theorem ints_row {w' : World} {B B0 g : Nat} {qs : List Int} (hh : ∃ c fz, w'.heap[g]? = some (.cells c 2 fz)) (hg : B0 ≤ g) (hc : ∀ i (h : i < qs.length), w'.cell? ⟨g, 0 + i, none⟩ = some (.int .i64 qs[i])) :
    ∀ w'', Kp B w' w'' → IntsAt w'' B0 w'.heap.size (some ⟨g, 0, none⟩) qs := by
  intro w'' hk i hi
  obtain ⟨c, fz, hh⟩ := hh
  have hlt : g < w'.heap.size := (Array.getElem?_eq_some_iff.1 hh).1
  refine ⟨g, 0, rfl, ⟨hg, hlt⟩, ?_⟩
  have := hk.kept g _ hh (by simp) (fun c' fz' e' => by cases e')
  rw [cell_of (this.trans hh.symm)]
  exact hc i hi
/-- What two stores leave: d at the head, cs behind it. -/
theorem two_sets (w : World) (g : Nat) (d : Value) (cs : List Value) (h : ∀ j, j < cs.length + 1 → (w.cell? ⟨g, j, none⟩).isSome = true) :
    (∀ j v, (d :: cs)[j]? = some v → ((w.setCells g 1 cs).setCells g 0 [d]).cell? ⟨g, j, none⟩ = some v) ∧ (∀ j v, (d :: cs)[j]? = some v → ((w.setCells g 0 [d]).setCells g 1 cs).cell? ⟨g, j, none⟩ = some v) := by
  have h1 : ∀ j, j < cs.length + 1 → ((w.setCells g 1 cs).cell? ⟨g, j, none⟩).isSome = true := fun j hj => isSome_setCells g _ _ _ (fun t ht => h _ (by omega)) _ (h j hj)
  have h2 : ∀ j, j < cs.length + 1 → ((w.setCells g 0 [d]).cell? ⟨g, j, none⟩).isSome = true := fun j hj => isSome_setCells g _ _ _ (fun t ht => by
    have : t = 0 := by simpa using ht
    subst this
    exact h 0 (by omega)) _ (h j hj)
  constructor
  · intro j v hj
    cases j with
    | zero =>
      have := World.cell?_setCells_in g [d] 0 (w.setCells g 1 cs) (fun t ht => by
        have : t = 0 := by simpa using ht
        subst this
        exact h1 0 (by omega)) 0 (by simp)
      rw [this]; simpa using hj
    | succ j =>
      rw [World.cell?_setCells_out g _ _ _ _ (fun _ _ => Or.inr (by show 0 + 1 ≤ j + 1; omega))]
      have hjl : j < cs.length := by
        rcases Nat.lt_or_ge j cs.length with q | q
        · exact q
        · rw [List.getElem?_eq_none (by simp; omega)] at hj; cases hj
      have := World.cell?_setCells_in g cs 1 w (fun t ht => h _ (by omega)) j hjl
      rw [Nat.add_comm 1 j] at this
      have e : cs[j]? = some v := by simpa using hj
      rw [this, ← e, List.getElem?_eq_getElem hjl]
  · intro j v hj
    cases j with
    | zero =>
      rw [World.cell?_setCells_out g _ _ _ _ (fun _ _ => Or.inl (by show 0 < 1; omega))]
      have := World.cell?_setCells_in g [d] 0 w (fun t ht => by
        have : t = 0 := by simpa using ht
        subst this
        exact h 0 (by omega)) 0 (by simp)
      rw [this]; simpa using hj
    | succ j =>
      have hjl : j < cs.length := by
        rcases Nat.lt_or_ge j cs.length with q | q
        · exact q
        · rw [List.getElem?_eq_none (by simp; omega)] at hj; cases hj
      have := World.cell?_setCells_in g cs 1 (w.setCells g 0 [d]) (fun t ht => h2 _ (by omega)) j hjl
      rw [Nat.add_comm 1 j] at this
      have e : cs[j]? = some v := by simpa using hj
      rw [this, ← e, List.getElem?_eq_getElem hjl]

/-- The numbers d :: vs lie at a row's head and stay. -/
theorem insert_any (B g n c vb B0 : Nat) (d : Int) (vs : List Int) (w : World) (hn : 0 < n) (hx : n = vs.length) (hn9 : n ≤ 1000000000) (ho : w.ownsRow B0 2 1 (.slice (some ⟨g, 0, none⟩) n c) n (vs.map (Value.int .i64)))
    (hvb : vb ≠ g) (hvh : w.heap[vb]? = some (.cells #[.int .i64 d] 2 (0, 0))) :
    Calls Tryd.prog 64 #[.slice (some ⟨g, 0, none⟩) n c, .int .i64 0, .slice (some ⟨vb, 0, none⟩) 1 1] w fun e w' =>
      ∃ qa qc, e = .returned (.slice qa (n + 1) qc) ∧ Below B0 w w' ∧ (∀ w'', Kp B w' w'' → IntsAt w'' B0 w'.heap.size qa (d :: vs)) := by
  have hho := ho
  obtain ⟨hl, h0 | ⟨g', cap, cur, e, hb, hh, hnc, hcm, hcs, htake⟩⟩ := ho
  · exact absurd h0.1 (by simp)
  cases e
  have hB0 : B0 ≤ w.heap.size := Nat.le_trans hb (Nat.le_of_lt (Array.getElem?_eq_some_iff.1 hh).1)
  have hcc : ∀ j v, (vs.map (Value.int .i64))[j]? = some v → w.cell? ⟨g, 0 + j, none⟩ = some v := fun j v hj => by
    have := hho.cells (g := g) rfl j v hj
    rwa [Addr.add_lit] at this
  have h1c : ∀ v ∈ vs.map (Value.int .i64), v.oneCell' = true := by intro u hu; obtain ⟨z, -, rfl⟩ := List.mem_map.1 hu; rfl
  have hcl : (vs.map (Value.int .i64)).length = n := by simp [hx]
  have hvc : w.cell? ⟨vb, 0, none⟩ = some (.int .i64 d) := by rw [cell_of_row w vb 0 _ _ _ hvh]; rfl
  have hget : ∀ i (h : i < (d :: vs).length), ((Value.int .i64 d) :: vs.map (Value.int .i64))[i]? = some (.int .i64 (d :: vs)[i]) := fun i h => by
    rw [show (Value.int .i64 d) :: vs.map (Value.int .i64) = (d :: vs).map (Value.int .i64) from rfl, List.getElem?_map, List.getElem?_eq_getElem h]; rfl
  by_cases hroom : n + 1 ≤ c
  · have hsp : ∀ j, j < n + 1 → (w.cell? ⟨g, 0 + j, none⟩).isSome = true := fun j hj => by
      rw [Nat.zero_add, cell_of_row w g j _ _ _ hh, Array.getElem?_eq_getElem (by omega)]; rfl
    refine (insert_room g n c vb (.int .i64 d) (vs.map (Value.int .i64)) w hn hroom (by unfold maxLen at hcm; omega) hvb hcl hcc hsp (fun j _ => by unfold World.frozen?; rw [hh]; simp) hvc h1c rfl 2 2 1 cur.size (by unfold World.shape?; rw [hvh]; rfl) (by unfold World.shape?; rw [hh]) (by omega) (by unfold World.frozen?; rw [hvh]; simp) (by unfold World.frozen?; rw [hvh]; simp)).mono ?_
    rintro e w' ⟨rfl, rfl⟩
    refine ⟨_, _, rfl, below_setCells g _ _ _ _ (below_setCells g _ _ _ _ (Below.refl _ _).drew hb) hb, ints_row ?_ hb ?_⟩
    · exact heap_setCells_shape g _ _ _ _ (heap_setCells_shape g _ _ _ _ ⟨_, _, hh⟩)
    · intro i hi
      rw [Nat.zero_add]
      exact (two_sets w.drew g (.int .i64 d) _ (fun j hj => by have := hsp j (by simpa [hx] using hj); rwa [Nat.zero_add] at this)).1 i _ (hget i hi)
  · refine (insert_grow g n c vb (.int .i64 d) (vs.map (Value.int .i64)) w hn hnc (by omega) (by omega) hcl hcc hvc h1c rfl).mono ?_
    rintro e w' ⟨G, ROW, hR, rfl, rfl⟩
    have hnew : ∃ c fz, ((w.alloc (.cells ROW 2)).drew).heap[w.heap.size]? = some (.cells c 2 fz) := ⟨_, _, heap_alloc_new w _⟩
    refine ⟨_, _, rfl, below_setCells _ _ _ _ _ (below_setCells _ _ _ _ _ ((Below.refl _ _).alloc hB0 _).drew hB0).drew hB0, ints_row ?_ hB0 ?_⟩
    · exact heap_setCells_shape w.heap.size _ _ _ _ (heap_setCells_shape w.heap.size _ _ _ _ hnew)
    · intro i hi
      rw [Nat.zero_add, ← drew_setCells]
      exact (two_sets ((w.alloc (.cells ROW 2)).drew) w.heap.size (.int .i64 d) _ (fun j hj => by
        show ((w.alloc (.cells ROW 2)).cell? _).isSome = true
        rw [World.cell?_alloc_at (w := w) ROW _ w.heap.size j rfl, Array.getElem?_eq_getElem (by have : j < n + 1 := by simpa [hx] using hj
                                                                                                 omega)]; rfl)).2 i _ (hget i hi)
end Go.Proofs.YtdcdgopblbmgoaaDoor

/-
  impl.EncodeFunc.
-/
namespace Go.Proofs.YtdcdgopblbmgoaaDoor
open Go.RowKit

/-- A line of numbers that were laid down last. -/
theorem litI_any (B : Nat) (u : Value) (xs word : List UInt8) (vs : List Int) (s : Nat) (W : World) (hs : s = W.heap.size) (hB : B ≤ W.heap.size)
    (ho : Hid (W.ownsRow B 5 1 u xs.length (bytesV xs))) (hlen : Hid (xs.length + (lineS word vs).length ≤ 1000000000000))
    (hin : Hid (∀ v ∈ vs, InB v)) (htab : Hid (TabOk B W)) :
    Calls Tryd.prog 63 #[u, .string (strOf word), .slice (some ⟨s, 0, none⟩) vs.length vs.length] (W.alloc (.cells (vs.map (Value.int .i64)).toArray 2)) fun e w' =>
      ∃ v, e = .returned v ∧ Kp B W w' ∧ w'.ownsRow B 5 1 v (xs ++ lineS word vs).length (bytesV (xs ++ lineS word vs)) := by
  subst hs
  have hst := ints_row (B := B) (B0 := B) (g := W.heap.size) (w' := W.alloc (.cells (vs.map (Value.int .i64)).toArray 2)) (qs := vs) ⟨_, _, heap_alloc_new W _⟩ hB (fun i hi => by
    obtain ⟨b, o, e, _, h⟩ := ints_lit W vs i hi
    cases e
    exact h)
  refine (appendLine_any B u xs word _ vs.length vs.length vs B _ _ (by simp; omega) (hide (ho.out.alloc _)) hlen (hide hst) (hide rfl) hin (hide (htab.out.on ((Below.refl _ _).alloc hB _)))).mono ?_
  rintro e w' ⟨v, rfl, h1, h2⟩
  exact ⟨v, rfl, ((Kp.refl B W).alloc hB _).trans h1, h2⟩
/-- A line without numbers. -/
theorem nilI_any (B : Nat) (u : Value) (xs word : List UInt8) (W : World) (hB : B ≤ W.heap.size)
    (ho : Hid (W.ownsRow B 5 1 u xs.length (bytesV xs))) (hlen : Hid (xs.length + (lineS word []).length ≤ 1000000000000)) (htab : Hid (TabOk B W)) :
    Calls Tryd.prog 63 #[u, .string (strOf word), .slice none 0 0] W fun e w' =>
      ∃ v, e = .returned v ∧ Kp B W w' ∧ w'.ownsRow B 5 1 v (xs ++ lineS word []).length (bytesV (xs ++ lineS word [])) :=
  appendLine_any B u xs word none 0 0 [] 0 0 W hB ho hlen (hide (fun _ _ i hi => absurd hi (by simp))) (hide rfl) (hide (fun v hv => by cases hv)) htab

theorem args_of_valid (F : Fn) (h : validS F = true) : ∀ x ∈ F.blocks, ∀ p ∈ x.phis, 1 ≤ p.args.length := by
  intro x hx p hp
  obtain ⟨b, hb, rfl⟩ := List.getElem_of_mem hx
  have H := blkOk_of F h b hb
  have e := blk_at F b hb
  have hP := H.phi
  obtain ⟨i, hi, rfl⟩ := List.getElem_of_mem hp
  have h1 := hP i (by rw [e]; exact hi)
  simp only [e] at h1
  simp only [phOkI, phOkS, Bool.and_eq_true, decide_eq_true_eq] at h1
  exact h1.2.1.1
theorem phi_clone (Wp W : World) (b o cap : Nat) (vs : List Int) (L B : Nat) (hv : IntsAt Wp L B (some ⟨b, o, none⟩) vs) (hB : B ≤ Wp.heap.size) (hn9 : vs.length ≤ 1000000000) (hW : Below Wp.heap.size Wp W) :
    Calls Tryd.prog 65 #[.slice (some ⟨b, o, none⟩) vs.length cap] W fun e w' => ∃ g cc, e = .returned (.slice (some ⟨g, 0, none⟩) vs.length cc) ∧ Below W.heap.size W w' ∧ W.heap.size ≤ g ∧ g < w'.heap.size ∧ w'.ownsRow W.heap.size 2 1 (.slice (some ⟨g, 0, none⟩) vs.length cc) vs.length (vs.map (Value.int .i64)) := by
  refine (clone_any b o vs.length cap vs L B W (hide (hv.keep (hW.mono hB))) (hide rfl) hn9 (Nat.le_trans hB hW.size)).mono ?_
  rintro e w' ⟨v, rfl, hb, hne, hown⟩
  have ho := hown
  obtain ⟨hl, h0 | ⟨g, cc, cur, rfl, hg, hh, r⟩⟩ := hown
  · exact absurd h0.1 hne
  · exact ⟨g, cc, rfl, hb, hg, (Array.getElem?_eq_some_iff.1 hh).1, ho⟩
/-- What the three calls of a phi's line do, one behind the other. -/
theorem phi_insert (B : Nat) (Wp W : World) (g cc vb : Nat) (d : Int) (vs : List Int) (hn : 1 ≤ vs.length) (hn9 : vs.length ≤ 1000000000) (hW : Below Wp.heap.size Wp W) (ho : W.ownsRow Wp.heap.size 2 1 (.slice (some ⟨g, 0, none⟩) vs.length cc) vs.length (vs.map (Value.int .i64)))
    (hvb : vb ≠ g) (hvh : W.heap[vb]? = some (.cells #[.int .i64 d] 2 (0, 0))) :
    Calls Tryd.prog 64 #[.slice (some ⟨g, 0, none⟩) vs.length cc, .int .i64 0, .slice (some ⟨vb, 0, none⟩) 1 1] W fun e w' =>
      ∃ qa qc, e = .returned (.slice qa (vs.length + 1) qc) ∧ Below Wp.heap.size Wp w' ∧ (∀ w'', Kp B w' w'' → IntsAt w'' Wp.heap.size w'.heap.size qa (d :: vs)) := by
  refine (insert_any B g vs.length cc vb Wp.heap.size d vs W hn rfl hn9 ho hvb hvh).mono ?_
  rintro e w' ⟨qa, qc, rfl, hb, hst⟩
  exact ⟨qa, qc, rfl, hW.trans hb, hst⟩
theorem phi_line (B : Nat) (u : Value) (xs : List UInt8) (P : Ph) (Wp W : World) (qa : Option Addr) (qc L M : Nat) (hB : B ≤ Wp.heap.size) (hW : Below Wp.heap.size Wp W) (ho : Wp.ownsRow B 5 1 u xs.length (bytesV xs))
    (hlen : xs.length + (phiS P).length ≤ 1000000000000) (hin : ∀ v ∈ P.dst :: P.args, InB v) (htab : TabOk B Wp) (hst : ∀ w'', Kp B W w'' → IntsAt w'' L M qa (P.dst :: P.args)) :
    Calls Tryd.prog 63 #[u, .string (strOf [112, 104, 105]), .slice qa (P.args.length + 1) qc] W fun e w' =>
      ∃ v, e = .returned v ∧ Kp B Wp w' ∧ w'.ownsRow B 5 1 v (xs ++ phiS P).length (bytesV (xs ++ phiS P)) := by
  have hs := hW.size
  refine (appendLine_any B u xs [112, 104, 105] qa (P.args.length + 1) qc (P.dst :: P.args) L M W (by omega) (hide (own_calm ho hW)) (hide hlen) (hide hst) (hide rfl) (hide hin) (hide (htab.on (hW.mono hB)))).mono ?_
  rintro e w' ⟨v, rfl, h1, h2⟩
  exact ⟨v, rfl, (Kp.calm hW hB).trans h1, h2⟩
set_option maxHeartbeats 2000000 in
set_option maxRecDepth 100000 in
theorem encI_yes (V : Int) (a : Option Addr) (n c : Nat) (xs : List Blk) (L B : Nat) (w : World) (ha : Hid (BlksAt w L B a xs)) (hx : Hid (n = xs.length)) (hs : Hid (xs.length + blksTot xs ≤ 1048576)) (hB : B ≤ w.heap.size) (hO : Hid (OpTabW w)) (hT : Hid (TerTabW w)) (hP : Hid (TabOk w.heap.size w))
    (HV : Hid (validS ⟨V, xs⟩ = true)) :
    Calls Tryd.prog 16 #[.agg #[.int .i64 V, .slice a n c]] w fun e w' => ∃ v, e = .returned v ∧ Below w.heap.size w w' ∧ w'.ownsRow w.heap.size 5 1 v (rawS ⟨V, xs⟩).length (bytesV (rawS ⟨V, xs⟩)) := by
  obtain ⟨o1, o2, o3⟩ := ops_of_valid _ HV.out
  have O1 := hide o1
  have O2 := hide o2
  have O3 := hide o3
  have hn : n ≤ 1048576 := by have := hx.out; have := hs.out; omega
  have HLEN : Hid ((rawS ⟨V, xs⟩).length ≤ 1000000000000) := hide (by have := rawS_le ⟨V, xs⟩ o1 o2; have h2 := hs.out; simp only at this; omega)
  have hB1 : 0 < w.heap.size ∧ 1 < w.heap.size := ⟨hO.out.1, hT.out.1⟩
  clear o1 o2 o3
  have HF : Hid (∀ w1, Below (w.alloc (.cells #[.int .i64 V, .slice a n c] 29)).heap.size (w.alloc (.cells #[.int .i64 V, .slice a n c] 29)) w1 → w.heap.size + 1 ≤ w1.heap.size ∧ w1.cell? ⟨w.heap.size, 0, none⟩ = some (.int .i64 V) ∧ w1.cell? ⟨w.heap.size, 1, none⟩ = some (.slice a n c) ∧ Hid (Below w.heap.size w w1)) := hide (fun w1 hb1 => by
      refine ⟨by have := hb1.size; simpa using this, (hb1.cell (p := ⟨w.heap.size, 0, none⟩) (by simp)).trans (by simp), (hb1.cell (p := ⟨w.heap.size, 1, none⟩) (by simp)).trans (by simp), hide ((balloc (Below.refl w.heap.size w) _).trans (hb1.mono (by simp)))⟩)
  have HVS : Hid (validI ⟨V, xs⟩ = true) := hide (by rw [valid_same]; exact HV.out)
  go_enter Tryd.func16, Tryd.ntmps16
  go_wp2_with fail
  refine (validFuncI_any V a n c xs L B _ (hide (ha.out.keep ((balloc (Below.refl w.heap.size w) _).mono hB))) hx hs (by simp; omega) (hide (hO.out.keep (balloc (Below.refl w.heap.size w) _) (by omega)).old) (hide (hT.out.keep (balloc (Below.refl w.heap.size w) _) (by omega)).old)).mono ?_
  rintro e w1 ⟨rfl, hb1⟩
  rw [HVS.out]
  obtain ⟨hz, k0, k1, HB1⟩ := HF.out _ hb1
  have HH1 : Hid (∃ c fz, w1.heap[w.heap.size]? = some (.cells c 29 fz)) := hide ⟨_, _, (hb1.block w.heap.size (by simp)).trans (heap_alloc_new w _)⟩
  clear hb1
  have hz' : w.heap.size < w1.heap.size := by omega
  have HK1 : Hid (Kp w.heap.size w w1) := hide (Kp.calm HB1.out (Nat.le_refl _))
  have HL1 : Hid (([] : List UInt8).length + (lineS [102, 117, 110, 99] [V]).length ≤ 1000000000000) := hide (by have := HLEN.out; unfold rawS at this; simp only [List.length_append, List.length_nil] at this ⊢; omega)
  have HKF : Hid (∀ w2, Kp w.heap.size (w1.alloc (.cells #[] 5)) w2 → Kp w.heap.size w w2 ∧ w2.cell? ⟨w.heap.size, 1, none⟩ = some (.slice a n c)) := hide (fun w2 hk => by
    obtain ⟨c0, fz, hh⟩ := HH1.out
    have h1 : Kp w.heap.size w1 w2 := ((Kp.refl _ w1).alloc (by omega) _).trans hk
    have h2 := h1.kept w.heap.size _ hh (by simp) (fun c' fz' e' => by cases e')
    exact ⟨HK1.out.trans h1, (cell_of (h2.trans hh.symm)).trans k1⟩)
  go_wp2_with (go_at_call 63; refine (litI_any w.heap.size _ [] [102, 117, 110, 99] [V] _ (w1.alloc (.cells #[] 5)) (by simp) (by simp; omega) (hide (own_base (own_nilB w1) (by omega))) HL1 (hide (fun v h => by simp at h; exact h ▸ O1.out)) (hide (hP.out.on ((HB1.out.alloc (by omega) _))))).mono ?_; rintro e w2 ⟨x2, rfl, hk2, ho2⟩; obtain ⟨hk3, k2⟩ := HKF.out _ hk2; have HK2 := hide hk3; have HO2 := hide ho2; clear hk2 hk3 ho2)
  have HARG := hide (args_of_valid _ HV.out)
  go_loopw [3, 20] (fun x i wr => ∃ k : Nat, k ≤ n ∧ i = .int .i64 k ∧ Hid (Kp w.heap.size w wr) ∧ Hid (wr.ownsRow w.heap.size 5 1 x (lineS [102, 117, 110, 99] [V] ++ (xs.take k).flatMap blkS).length (bytesV (lineS [102, 117, 110, 99] [V] ++ (xs.take k).flatMap blkS)))) (fun _ i _ => n - (intOf i).toNat)
  case atStart => exact ⟨0, Nat.zero_le _, rfl, HK2, hide (by simpa using HO2.out)⟩
  case round =>
    clear HK2 HO2 HK1 HB1 HH1 HKF HF k0 k1 k2 hz hz'
    obtain ⟨k, hk, rfl, HK, HO⟩ := hrel
    have hwz := HK.out.below.size
    by_cases hlt : k < n
    · have hkx : k < xs.length := by have := hx.out; omega
      have HKX := hide (O2.out xs[k] (List.getElem_mem hkx))
      have hop := hide (O3.out xs[k] (List.getElem_mem hkx)).1
      have hkd := hide (O3.out xs[k] (List.getElem_mem hkx)).2
      have HAR := hide (HARG.out xs[k] (List.getElem_mem hkx))
      obtain ⟨b, o, rfl, ⟨hbL, hbB⟩, hc⟩ := ha.out k hkx
      have hc2 := hc.keepS (Same.of_below (HK.out.below.mono hB)) (HK.out.below.block b (by omega))
      obtain ⟨pa, pc, ia, ic, e0, e1, ⟨t0, t1, t2, t3⟩, hp, hi⟩ := hc2
      have HP := hide hp
      have HI := hide hi
      clear hp hi hc
      have HT : Hid (lineS [102, 117, 110, 99] [V] ++ (xs.take (k + 1)).flatMap blkS = (lineS [102, 117, 110, 99] [V] ++ (xs.take k).flatMap blkS) ++ blkS xs[k]) := hide (by rw [take_next _ _ hkx, List.flatMap_append]; simp)
      have HL : Hid ((lineS [102, 117, 110, 99] [V] ++ (xs.take k).flatMap blkS).length + (blkS xs[k]).length ≤ 1000000000000) := hide (by have h1 := HLEN.out; have h2 := flat_split blkS xs k hkx; unfold rawS at h1; simp only at h1; rw [h2] at h1; simp only [List.length_append] at h1 ⊢; omega)
      have HPT : Hid (∀ p ∈ xs[k].phis, p.args.length ≤ 1000000000) := hide (fun p hp => by have h1 := tot_le (List.getElem_mem hkx); have h2 := ph_le hp; have h3 := hs.out; omega)
      have HIN : Hid (xs[k].instrs.length ≤ 1048576) := hide (by have h1 := tot_le (List.getElem_mem hkx); have h3 := hs.out; omega)
      generalize xs[k] = X at *
      generalize lineS [102, 117, 110, 99] [V] ++ (xs.take k).flatMap blkS = T at *
      have HLB : Hid (T.length + (lineS [98, 108, 111, 99, 107] []).length ≤ 1000000000000) := hide (by have := HL.out; unfold blkS at this; simp only [List.length_append] at this; omega)
      have HOX : Hid ((wr.alloc (.cells #[.slice pa X.phis.length pc, .slice ia X.instrs.length ic, .int .i64 X.term.kind, .int .i64 X.term.a, .int .i64 X.term.to, .int .i64 X.term.els] 80)).ownsRow w.heap.size 5 1 u3 T.length (bytesV T)) := hide (HO.out.alloc _)
      have HKW : Hid (Kp w.heap.size w (wr.alloc (.cells #[.slice pa X.phis.length pc, .slice ia X.instrs.length ic, .int .i64 X.term.kind, .int .i64 X.term.a, .int .i64 X.term.to, .int .i64 X.term.els] 80))) := hide (HK.out.alloc (by omega) _)
      have hq : (wr.alloc (.cells #[.slice pa X.phis.length pc, .slice ia X.instrs.length ic, .int .i64 X.term.kind, .int .i64 X.term.a, .int .i64 X.term.to, .int .i64 X.term.els] 80)).cell? ⟨wr.heap.size, 0, none⟩ = some (.slice pa X.phis.length pc) ∧ (wr.alloc (.cells #[.slice pa X.phis.length pc, .slice ia X.instrs.length ic, .int .i64 X.term.kind, .int .i64 X.term.a, .int .i64 X.term.to, .int .i64 X.term.els] 80)).cell? ⟨wr.heap.size, 1, none⟩ = some (.slice ia X.instrs.length ic) ∧ (wr.alloc (.cells #[.slice pa X.phis.length pc, .slice ia X.instrs.length ic, .int .i64 X.term.kind, .int .i64 X.term.a, .int .i64 X.term.to, .int .i64 X.term.els] 80)).cell? ⟨wr.heap.size, 2, none⟩ = some (.int .i64 X.term.kind) ∧ (wr.alloc (.cells #[.slice pa X.phis.length pc, .slice ia X.instrs.length ic, .int .i64 X.term.kind, .int .i64 X.term.a, .int .i64 X.term.to, .int .i64 X.term.els] 80)).cell? ⟨wr.heap.size, 3, none⟩ = some (.int .i64 X.term.a) ∧ (wr.alloc (.cells #[.slice pa X.phis.length pc, .slice ia X.instrs.length ic, .int .i64 X.term.kind, .int .i64 X.term.a, .int .i64 X.term.to, .int .i64 X.term.els] 80)).cell? ⟨wr.heap.size, 4, none⟩ = some (.int .i64 X.term.to) ∧ (wr.alloc (.cells #[.slice pa X.phis.length pc, .slice ia X.instrs.length ic, .int .i64 X.term.kind, .int .i64 X.term.a, .int .i64 X.term.to, .int .i64 X.term.els] 80)).cell? ⟨wr.heap.size, 5, none⟩ = some (.int .i64 X.term.els) := by
        refine ⟨?_, ?_, ?_, ?_, ?_, ?_⟩ <;> simp
      have HQ := hide hq
      have HHX : Hid (∃ c fz, (wr.alloc (.cells #[.slice pa X.phis.length pc, .slice ia X.instrs.length ic, .int .i64 X.term.kind, .int .i64 X.term.a, .int .i64 X.term.to, .int .i64 X.term.els] 80)).heap[wr.heap.size]? = some (.cells c 80 fz)) := hide ⟨_, _, heap_alloc_new wr _⟩
      have hsx : wr.heap.size < (wr.alloc (.cells #[.slice pa X.phis.length pc, .slice ia X.instrs.length ic, .int .i64 X.term.kind, .int .i64 X.term.a, .int .i64 X.term.to, .int .i64 X.term.els] 80)).heap.size := by simp
      have HPX : Hid (PhsAt (wr.alloc (.cells #[.slice pa X.phis.length pc, .slice ia X.instrs.length ic, .int .i64 X.term.kind, .int .i64 X.term.a, .int .i64 X.term.to, .int .i64 X.term.els] 80)) L B pa X.phis) := hide (HP.out.keep ((balloc (Below.refl wr.heap.size wr) _).mono (by omega)))
      have HIX : Hid (InssAt (wr.alloc (.cells #[.slice pa X.phis.length pc, .slice ia X.instrs.length ic, .int .i64 X.term.kind, .int .i64 X.term.a, .int .i64 X.term.to, .int .i64 X.term.els] 80)) L B ia X.instrs) := hide (HI.out.keep ((balloc (Below.refl wr.heap.size wr) _).mono (by omega)))
      clear hq
      go_wp2_with fail
      generalize wr.alloc (.cells #[.slice pa X.phis.length pc, .slice ia X.instrs.length ic, .int .i64 X.term.kind, .int .i64 X.term.a, .int .i64 X.term.to, .int .i64 X.term.els] 80) = WX at *
      have HSX := hide hsx
      clear hsx e0 e1 t0 t1 t2 t3 HP HI HO HK
      have hwx := HKW.out.below.size
      refine (nilI_any w.heap.size u3 T [98, 108, 111, 99, 107] WX hwx HOX HLB (hide (hP.out.on HKW.out.below))).mono ?_
      rintro e w2 ⟨x2, rfl, hk2, ho2⟩
      have HG2 := hide hk2
      have HO2 := hide ho2
      generalize wr = wo at *
      have HST : Hid (∀ wi, Kp w.heap.size WX wi → wi.heap[wo.heap.size]? = WX.heap[wo.heap.size]? ∧ w.heap.size ≤ wi.heap.size ∧ wo.heap.size < wi.heap.size ∧ Kp w.heap.size w wi) := hide (fun wi hg => by
        have h1 := HSX.out
        have h2 := hg.below.size
        exact ⟨hg.block HHX.out (by decide), by omega, by omega, HKW.out.trans hg⟩)
      obtain ⟨s1, _, _, _⟩ := HST.out _ hk2
      have c0 : w2.cell? ⟨wo.heap.size, 0, none⟩ = some (.slice pa X.phis.length pc) := (cell_of s1).trans HQ.out.1
      clear hk2 ho2 s1
      have HLP : Hid (∀ j, ∀ (h : j < X.phis.length), (T ++ (lineS [98, 108, 111, 99, 107] [] ++ (X.phis.take j).flatMap phiS)).length + (phiS X.phis[j]).length ≤ 1000000000000) := hide (fun j h => by
        have h1 := HL.out
        have h2 := flat_split phiS X.phis j h
        unfold blkS at h1
        rw [h2] at h1
        simp only [List.length_append] at h1 ⊢; omega)
      have hpl : X.phis.length ≤ 1000000000000 := by
        have h1 := HL.out; have h2 := flat_len phiS (fun x => lineS_pos _ _) X.phis; unfold blkS at h1; simp only [List.length_append] at h1; omega
      have hil : X.instrs.length ≤ 1000000000000 := by
        have h1 := HL.out; have h2 := flat_len insS (fun x => lineS_pos _ _) X.instrs; unfold blkS at h1; simp only [List.length_append] at h1; omega
      generalize u3 = u3o at *
      go_wp2
      go_loopw [3, 29] (fun v i wi => ∃ j : Nat, j ≤ X.phis.length ∧ i = .int .i64 j ∧ Hid (Kp w.heap.size WX wi) ∧ Hid (wi.ownsRow w.heap.size 5 1 v (T ++ (lineS [98, 108, 111, 99, 107] [] ++ (X.phis.take j).flatMap phiS)).length (bytesV (T ++ (lineS [98, 108, 111, 99, 107] [] ++ (X.phis.take j).flatMap phiS))))) (fun _ i _ => X.phis.length - (intOf i).toNat)
      case atStart => exact ⟨0, Nat.zero_le _, rfl, HG2, hide (by simpa using HO2.out)⟩
      case round =>
        clear HG2 HO2 c0
        obtain ⟨j, hj, rfl, HGi, HOi⟩ := hrel
        obtain ⟨hsa, hsb, hsc, hsd⟩ := HST.out _ HGi.out
        have HSD := hide hsd
        by_cases hlj : j < X.phis.length
        · clear hsa hsd
          obtain ⟨b, o, rfl, ⟨hbL, hbB⟩, hpp⟩ := (HPX.out.keepS (Same.of_below (HGi.out.below.mono hB))) j hlj
          obtain ⟨aa, ac, d0, d1, hA⟩ := hpp
          have HLj := hide (HLP.out j hlj)
          have HKj := hide (HKX.out.phis X.phis[j] (List.getElem_mem hlj))
          have HTj := hide (flat_next phiS X.phis j hlj)
          have HN1 := hide (HAR.out X.phis[j] (List.getElem_mem hlj))
          have HN9 := hide (HPT.out X.phis[j] (List.getElem_mem hlj))
          obtain ⟨pb, po, rfl, ⟨_, hpB⟩, _⟩ := hA 0 HN1.out
          have HA := hide hA
          clear hA
          generalize X.phis[j] = P at *
          have HX : Hid (T ++ (lineS [98, 108, 111, 99, 107] [] ++ (X.phis.take (j + 1)).flatMap phiS) = (T ++ (lineS [98, 108, 111, 99, 107] [] ++ (X.phis.take j).flatMap phiS)) ++ phiS P) := hide (by rw [HTj.out]; simp)
          generalize T ++ (lineS [98, 108, 111, 99, 107] [] ++ (X.phis.take j).flatMap phiS) = TT at *
          go_wp2_with fail
          have HHP : Hid (∃ c fz, (wr.alloc (.cells #[.int .i64 P.dst, .slice (some ⟨pb, po, none⟩) P.args.length ac] 87)).heap[wr.heap.size]? = some (.cells c 87 fz)) := hide ⟨_, _, heap_alloc_new wr _⟩
          have p0 : (wr.alloc (.cells #[.int .i64 P.dst, .slice (some ⟨pb, po, none⟩) P.args.length ac] 87)).cell? ⟨wr.heap.size, 0, none⟩ = some (.int .i64 P.dst) := by simp
          have p1 : (wr.alloc (.cells #[.int .i64 P.dst, .slice (some ⟨pb, po, none⟩) P.args.length ac] 87)).cell? ⟨wr.heap.size, 1, none⟩ = some (.slice (some ⟨pb, po, none⟩) P.args.length ac) := by simp
          have hwp : wr.heap.size < (wr.alloc (.cells #[.int .i64 P.dst, .slice (some ⟨pb, po, none⟩) P.args.length ac] 87)).heap.size := by simp
          have HKP : Hid (Kp w.heap.size WX (wr.alloc (.cells #[.int .i64 P.dst, .slice (some ⟨pb, po, none⟩) P.args.length ac] 87))) := hide (HGi.out.alloc (by omega) _)
          have HOP : Hid ((wr.alloc (.cells #[.int .i64 P.dst, .slice (some ⟨pb, po, none⟩) P.args.length ac] 87)).ownsRow w.heap.size 5 1 u3 TT.length (bytesV TT)) := hide (HOi.out.alloc _)
          have HAP : Hid (IntsAt (wr.alloc (.cells #[.int .i64 P.dst, .slice (some ⟨pb, po, none⟩) P.args.length ac] 87)) L B (some ⟨pb, po, none⟩) P.args) := hide (HA.out.keep ((balloc (Below.refl wr.heap.size wr) _).mono (by omega)))
          have HTP : Hid (TabOk w.heap.size (wr.alloc (.cells #[.int .i64 P.dst, .slice (some ⟨pb, po, none⟩) P.args.length ac] 87))) := hide (hP.out.on (HKW.out.trans HKP.out).below)
          generalize wr.alloc (.cells #[.int .i64 P.dst, .slice (some ⟨pb, po, none⟩) P.args.length ac] 87) = Wp at *
          clear d0 d1
          have hws : w.heap.size ≤ Wp.heap.size := by omega
          have HKEEP : Hid (∀ w', Below Wp.heap.size Wp w' → w'.cell? ⟨wr.heap.size, 0, none⟩ = some (.int .i64 P.dst) ∧ w'.cell? ⟨wr.heap.size, 1, none⟩ = some (.slice (some ⟨pb, po, none⟩) P.args.length ac)) := hide (fun w' h => ⟨(h.cell (p := ⟨wr.heap.size, 0, none⟩) hwp).trans p0, (h.cell (p := ⟨wr.heap.size, 1, none⟩) hwp).trans p1⟩)
          have HCL : Hid (∀ W, Below Wp.heap.size Wp W → Calls Tryd.prog 65 #[.slice (some ⟨pb, po, none⟩) P.args.length ac] W (fun e w' => ∃ g cc, e = .returned (.slice (some ⟨g, 0, none⟩) P.args.length cc) ∧ Hid (Below Wp.heap.size Wp w') ∧ Hid (W.heap.size ≤ g ∧ g < w'.heap.size) ∧ Hid (Below W.heap.size W w') ∧ Hid (w'.ownsRow Wp.heap.size 2 1 (.slice (some ⟨g, 0, none⟩) P.args.length cc) P.args.length (P.args.map (Value.int .i64))) ∧ w'.cell? ⟨wr.heap.size, 0, none⟩ = some (.int .i64 P.dst) ∧ w'.cell? ⟨wr.heap.size, 1, none⟩ = some (.slice (some ⟨pb, po, none⟩) P.args.length ac))) := hide (fun W hW => by
            refine (phi_clone Wp W pb po ac P.args L B HAP.out (by omega) HN9.out hW).mono ?_
            rintro e w' ⟨g, cc, rfl, hb, hg1, hg2, hown⟩
            have hb3 : Below Wp.heap.size Wp w' := hW.trans (hb.mono hW.size)
            exact ⟨g, cc, rfl, hide hb3, hide ⟨hg1, hg2⟩, hide hb, hide (own_base hown hW.size), HKEEP.out _ hb3⟩)
          have HIN : Hid (∀ W g cc vb, Below Wp.heap.size Wp W → W.ownsRow Wp.heap.size 2 1 (.slice (some ⟨g, 0, none⟩) P.args.length cc) P.args.length (P.args.map (Value.int .i64)) → vb ≠ g → W.heap[vb]? = some (.cells #[.int .i64 P.dst] 2 (0, 0)) → Calls Tryd.prog 64 #[.slice (some ⟨g, 0, none⟩) P.args.length cc, .int .i64 0, .slice (some ⟨vb, 0, none⟩) 1 1] W (fun e w' => ∃ qa qc, e = .returned (.slice qa (P.args.length + 1) qc) ∧ Hid (Below Wp.heap.size Wp w') ∧ Hid (∀ w'', Kp w.heap.size w' w'' → IntsAt w'' Wp.heap.size w'.heap.size qa (P.dst :: P.args)) ∧ w'.cell? ⟨wr.heap.size, 0, none⟩ = some (.int .i64 P.dst) ∧ w'.cell? ⟨wr.heap.size, 1, none⟩ = some (.slice (some ⟨pb, po, none⟩) P.args.length ac))) := hide (fun W g cc vb hW hown hne hvh => by
            refine (phi_insert w.heap.size Wp W g cc vb P.dst P.args HN1.out HN9.out hW hown hne hvh).mono ?_
            rintro e w' ⟨qa, qc, rfl, hb, hst⟩
            exact ⟨qa, qc, rfl, hide hb, hide hst, HKEEP.out _ hb⟩)
          have HINa : Hid (∀ w3 g cc, Below Wp.heap.size Wp w3 → w3.ownsRow Wp.heap.size 2 1 (.slice (some ⟨g, 0, none⟩) P.args.length cc) P.args.length (P.args.map (Value.int .i64)) → g < w3.heap.size → Calls Tryd.prog 64 #[.slice (some ⟨g, 0, none⟩) P.args.length cc, .int .i64 0, .slice (some ⟨w3.heap.size, 0, none⟩) 1 1] (w3.alloc (.cells #[.int .i64 P.dst] 2)) (fun e w' => ∃ qa qc, e = .returned (.slice qa (P.args.length + 1) qc) ∧ Hid (Below Wp.heap.size Wp w') ∧ Hid (∀ w'', Kp w.heap.size w' w'' → IntsAt w'' Wp.heap.size w'.heap.size qa (P.dst :: P.args)) ∧ w'.cell? ⟨wr.heap.size, 0, none⟩ = some (.int .i64 P.dst) ∧ w'.cell? ⟨wr.heap.size, 1, none⟩ = some (.slice (some ⟨pb, po, none⟩) P.args.length ac))) := hide (fun w3 g cc hb hown hg =>
            HIN.out (w3.alloc (.cells #[.int .i64 P.dst] 2)) g cc w3.heap.size (hb.alloc hb.size _) (hown.alloc _) (by omega) (heap_alloc_new w3 _))
          have HINb : Hid (∀ w3 g cc, Below (Wp.alloc (.cells #[.int .i64 P.dst] 2)).drew.heap.size (Wp.alloc (.cells #[.int .i64 P.dst] 2)).drew w3 → Below Wp.heap.size Wp w3 → w3.ownsRow Wp.heap.size 2 1 (.slice (some ⟨g, 0, none⟩) P.args.length cc) P.args.length (P.args.map (Value.int .i64)) → (Wp.alloc (.cells #[.int .i64 P.dst] 2)).drew.heap.size ≤ g → Calls Tryd.prog 64 #[.slice (some ⟨g, 0, none⟩) P.args.length cc, .int .i64 0, .slice (some ⟨Wp.heap.size, 0, none⟩) 1 1] w3 (fun e w' => ∃ qa qc, e = .returned (.slice qa (P.args.length + 1) qc) ∧ Hid (Below Wp.heap.size Wp w') ∧ Hid (∀ w'', Kp w.heap.size w' w'' → IntsAt w'' Wp.heap.size w'.heap.size qa (P.dst :: P.args)) ∧ w'.cell? ⟨wr.heap.size, 0, none⟩ = some (.int .i64 P.dst) ∧ w'.cell? ⟨wr.heap.size, 1, none⟩ = some (.slice (some ⟨pb, po, none⟩) P.args.length ac))) := hide (fun w3 g cc hb hb2 hown hg => by
            have hs1 : (Wp.alloc (.cells #[.int .i64 P.dst] 2)).drew.heap.size = Wp.heap.size + 1 := by show (Wp.alloc (.cells #[.int .i64 P.dst] 2)).heap.size = _; simp
            exact HIN.out w3 g cc Wp.heap.size hb2 hown (by omega) ((hb.block Wp.heap.size (by omega)).trans (heap_alloc_new Wp _)))
          have HAL : Hid (∀ W qa qc M, Below Wp.heap.size Wp W → (∀ w'', Kp w.heap.size W w'' → IntsAt w'' Wp.heap.size M qa (P.dst :: P.args)) → Calls Tryd.prog 63 #[u3, .string ⟨#[112, 104, 105]⟩, .slice qa (P.args.length + 1) qc] W (fun e w' => ∃ v, e = .returned v ∧ Hid (Kp w.heap.size WX w') ∧ Hid (w'.ownsRow w.heap.size 5 1 v (T ++ (lineS [98, 108, 111, 99, 107] [] ++ (X.phis.take (j + 1)).flatMap phiS)).length (bytesV (T ++ (lineS [98, 108, 111, 99, 107] [] ++ (X.phis.take (j + 1)).flatMap phiS)))) ∧ w'.cell? ⟨wr.heap.size, 0, none⟩ = some (.int .i64 P.dst) ∧ w'.cell? ⟨wr.heap.size, 1, none⟩ = some (.slice (some ⟨pb, po, none⟩) P.args.length ac))) := hide (fun W qa qc M hW hst => by
            refine (phi_line w.heap.size u3 TT P Wp W qa qc _ M hws hW HOP.out HLj.out HKj.out HTP.out hst).mono ?_
            rintro e w' ⟨v, rfl, hk, hown⟩
            rw [HX.out]
            have hbl := hk.block HHP.out (by decide)
            exact ⟨v, rfl, hide (HKP.out.trans hk), hide hown, (cell_of hbl).trans p0, (cell_of hbl).trans p1⟩)
          have HB00 : Hid (Below Wp.heap.size Wp Wp) := hide (Below.refl _ _)
          have HB01 : Hid (Below Wp.heap.size Wp Wp.drew) := hide (Below.refl _ _).drew
          have HB02 : Hid (Below Wp.heap.size Wp (Wp.alloc (.cells #[.int .i64 P.dst] 2)).drew) := hide (balloc (Below.refl _ _) _).drew
          go_region_held3 (fun w' => w'.cell? ⟨wr.heap.size, 0, none⟩ = some (.int .i64 P.dst) ∧ w'.cell? ⟨wr.heap.size, 1, none⟩ = some (.slice (some ⟨pb, po, none⟩) P.args.length ac)) (go_keep)
            (first
              | (go_at_call 65; with_reducible refine (HCL.out Wp HB00.out).mono ?_; rintro e w5 ⟨g5, cc5, rfl, HB5, HG5, HBW5, HO5, f1, f2⟩)
              | (go_at_call 65; with_reducible refine (HCL.out Wp.drew HB01.out).mono ?_; rintro e w5 ⟨g5, cc5, rfl, HB5, HG5, HBW5, HO5, f1, f2⟩)
              | (go_at_call 65; with_reducible refine (HCL.out (Wp.alloc (.cells #[.int .i64 P.dst] 2)).drew HB02.out).mono ?_; rintro e w5 ⟨g5, cc5, rfl, HB5, HG5, HBW5, HO5, f1, f2⟩)
              | (go_at_call 64; with_reducible refine (HINa.out _ _ _ HB5.out HO5.out HG5.out.2).mono ?_; rintro e w6 ⟨qa, qc, rfl, HB6, HS6, f3, f4⟩)
              | (go_at_call 64; with_reducible refine (HINb.out _ _ _ HBW5.out HB5.out HO5.out HG5.out.1).mono ?_; rintro e w6 ⟨qa, qc, rfl, HB6, HS6, f3, f4⟩)
              | (go_at_call 63; with_reducible refine (HAL.out _ _ _ _ HB6.out HS6.out).mono ?_; rintro e w7 ⟨v7, rfl, HK7, HO7, f5, f6⟩))
          all_goals
            go_wp2
            exact ⟨⟨j + 1, by omega, by go_num, HK7, HO7⟩, by simp [intOf]; omega⟩
        · have c1 : wr.cell? ⟨wo.heap.size, 1, none⟩ = some (.slice ia X.instrs.length ic) := (cell_of hsa).trans HQ.out.2.1
          have c2 : wr.cell? ⟨wo.heap.size, 2, none⟩ = some (.int .i64 X.term.kind) := (cell_of hsa).trans HQ.out.2.2.1
          have c3 : wr.cell? ⟨wo.heap.size, 3, none⟩ = some (.int .i64 X.term.a) := (cell_of hsa).trans HQ.out.2.2.2.1
          have c4 : wr.cell? ⟨wo.heap.size, 4, none⟩ = some (.int .i64 X.term.to) := (cell_of hsa).trans HQ.out.2.2.2.2.1
          have c5 : wr.cell? ⟨wo.heap.size, 5, none⟩ = some (.int .i64 X.term.els) := (cell_of hsa).trans HQ.out.2.2.2.2.2
          clear hsa hsd
          have HO5 : Hid (wr.ownsRow w.heap.size 5 1 u3 (T ++ (lineS [98, 108, 111, 99, 107] [] ++ X.phis.flatMap phiS)).length (bytesV (T ++ (lineS [98, 108, 111, 99, 107] [] ++ X.phis.flatMap phiS)))) := hide (by have := HOi.out; rwa [List.take_of_length_le (by omega)] at this)
          clear HOi
          have HX : Hid (lineS [102, 117, 110, 99] [V] ++ (xs.take (k + 1)).flatMap blkS = (T ++ (lineS [98, 108, 111, 99, 107] [] ++ X.phis.flatMap phiS)) ++ codeS X.instrs X.term) := hide (by rw [HT.out]; simp [blkS, codeS])
          have HLC : Hid ((T ++ (lineS [98, 108, 111, 99, 107] [] ++ X.phis.flatMap phiS)).length + (codeS X.instrs X.term).length ≤ 1000000000000) := hide (by
            have h1 := HL.out
            unfold blkS at h1
            unfold codeS
            simp only [List.length_append] at h1 ⊢; omega)
          generalize T ++ (lineS [98, 108, 111, 99, 107] [] ++ X.phis.flatMap phiS) = TT at *
          have HIi : Hid (InssAt wr L B ia X.instrs) := hide (HIX.out.keepS (Same.of_below (HGi.out.below.mono hB)))
          have HKI := hide HKX.out.instrs
          have HKT := hide HKX.out.term
          generalize X.term = Z at *
          obtain ⟨kind, za, zto, zels⟩ := Z
          obtain ⟨m, hm⟩ := Int.eq_ofNat_of_zero_le (show 0 ≤ kind by have := hkd.out; simp only at this; omega)
          subst hm
          simp only at c2 c3 c4 c5
          go_wp2_with (go_at_call 66; refine (appendCode_any w.heap.size u3 TT ia X.instrs.length ic X.instrs m za zto zels L B wr hsb hB HIi (hide rfl) HIN.out hop (by have := hkd.out; simp only at this; omega) (by have := hkd.out; simp only at this; omega) hB1 HO5 HLC HKI HKT (hide (hP.out.on HSD.out.below)) (hide (hO.out.keep HSD.out.below (by omega))) (hide (hT.out.keep HSD.out.below (by omega)))).mono ?_; rintro e w5 ⟨x5, rfl, hg5, ho5⟩)
          have HG5 : Hid (Kp w.heap.size w w5) := hide (HSD.out.trans hg5)
          have HO6 : Hid (w5.ownsRow w.heap.size 5 1 x5 (lineS [102, 117, 110, 99] [V] ++ (xs.take (k + 1)).flatMap blkS).length (bytesV (lineS [102, 117, 110, 99] [V] ++ (xs.take (k + 1)).flatMap blkS))) := hide (by rw [HX.out]; exact ho5)
          clear hg5 ho5
          go_wp2
          exact ⟨⟨k + 1, by omega, by go_num, HG5, HO6⟩, by simp [intOf]; omega⟩
    · have HO5 : Hid (wr.ownsRow w.heap.size 5 1 u3 (rawS ⟨V, xs⟩).length (bytesV (rawS ⟨V, xs⟩))) := hide (by have := HO.out; rwa [List.take_of_length_le (by have := hx.out; omega)] at this)
      go_wp2
      go_ret
      exact ⟨_, rfl, HK.out.below, HO5.out⟩
end Go.Proofs.YtdcdgopblbmgoaaDoor
