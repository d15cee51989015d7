import Derived.Test.YtanaeindldcapaaDoorFK0
namespace Go.Proofs.YtanaeindldcapaaDoor
open Go.RowKit Go.Shelf
theorem flK_start {w Y w3 W0 : World} {V : Nat} {a : Option Addr} {n c Kw : Nat} {xs : List Blk} {Gi LB Go : Nat} {go : Nat → Nat} {WO : Nat → Nat → Nat} (h : FlA w Y V a n c Kw xs Gi LB Go go WO) {Gd : Nat} {gd : Nat → Nat} (hGd : Y.heap.size ≤ Gd) (hb3 : Below Y.heap.size Y w3) (hs3 : SetsAv w3 Gd n Kw gd (fun _ => Kw) (fun _ _ => 0)) (hgd : ∀ i, i < n → Y.heap.size ≤ gd i)
    {bS gS : Nat} (hbS : w3.heap.size + 2 ≤ bS) (hgS : w3.heap.size + 2 ≤ gS) (hb6 : Below (w3.heap.size + 2) ((w3.alloc (.cells #[.slice (some ⟨Gd, 0, none⟩) n n] 47)).alloc (.cells (madeCells #[.slice none 0 0] n) 35)) W0) (hsea : SeaAt W0 bS gS W0.heap.size ((n + 63) / 64) a n c (fun _ => 0) (.slice none 0 0) []) :
    FlS ⟨w, V, n, c, Kw, (n + 63) / 64, a, xs, Gi, LB, Go, w3.heap.size, Gd, w3.heap.size + 1, bS, gS, Y.heap.size, w3.heap.size, W0.heap.size, go, gd, WO⟩ ∧ FlK ⟨w, V, n, c, Kw, (n + 63) / 64, a, xs, Gi, LB, Go, w3.heap.size, Gd, w3.heap.size + 1, bS, gS, Y.heap.size, w3.heap.size, W0.heap.size, go, gd, WO⟩ W0 0 ⟨fun _ => 0, fun _ => 0, fun _ _ => 0, fun _ _ => 0, fun _ => .slice none 0 0, fun _ => 0, .slice none 0 0, []⟩ := by
  have hz3 := hb3.size
  have hw5 : ((w3.alloc (.cells #[.slice (some ⟨Gd, 0, none⟩) n n] 47)).alloc (.cells (madeCells #[.slice none 0 0] n) 35)).heap.size = w3.heap.size + 2 := by simp
  have h35 : Below w3.heap.size w3 ((w3.alloc (.cells #[.slice (some ⟨Gd, 0, none⟩) n n] 47)).alloc (.cells (madeCells #[.slice none 0 0] n) 35)) := balloc (balloc (Below.refl _ _) _) _
  have hz6 : w3.heap.size + 2 ≤ W0.heap.size := by have := hb6.size; omega
  have hB36 : Below w3.heap.size w3 W0 := h35.trans (hb6.mono (by omega))
  have hBY : Below Y.heap.size Y W0 := bnext hb3 hB36
  have hwY := h.low.size
  have gi := h.gi.lt
  have gl := World.block_lt_of_cell? Y _ h.l0
  have gg := h.out.row.lt
  have b1 := h.b1
  have b2 := h.b2
  have b3 := h.b3
  have hnr : ((w3.alloc (.cells #[.slice (some ⟨Gd, 0, none⟩) n n] 47)).alloc (.cells (madeCells #[.slice none 0 0] n) 35)).rowIs (w3.heap.size + 1) 35 n (fun _ => .slice none 0 0) := by
    have := World.rowIs_made (w3.alloc (.cells #[.slice (some ⟨Gd, 0, none⟩) n n] 47)) (.slice none 0 0) n 35
    rwa [World.size_alloc] at this
  have cY : ∀ p : Addr, p.block < Y.heap.size → W0.cell? p = Y.cell? p := fun p hp => hBY.cell hp
  have gl' : LB < Y.heap.size := gl
  refine ⟨⟨⟨b1, gi⟩, ⟨b2, gl⟩, ⟨b3, gg⟩, fun i hi => ⟨h.b4 i hi, (h.out.set i hi).lt⟩, h.d1, h.d2, h.d3, h.d4, ⟨hGd, hs3.row.lt⟩, fun i hi => ⟨hgd i hi, (hs3.set i hi).lt⟩, rfl, rfl, ⟨hbS, hsea.lb⟩, ⟨hgS, hsea.lg⟩, hsea.ne⟩, ?_⟩
  refine ⟨bnext h.low hBY, Nat.le_refl _, (cY _ (by show w.heap.size < _; omega)).trans h.f0, (cY _ (by show w.heap.size < _; omega)).trans h.f1, (cY _ (by show w.heap.size + 1 < _; omega)).trans h.r0, (cY _ (by show w.heap.size + 1 < _; omega)).trans h.r1, fun q => (hBY.frozen (p := ⟨w.heap.size + 1, q, none⟩) (by show w.heap.size + 1 < _; omega)).trans (h.rz q), (cY _ gl').trans h.l0, (cY _ gl').trans h.l1, (hb6.cell (p := ⟨w3.heap.size, 0, none⟩) (by show w3.heap.size < _; omega)).trans (by simp [go_sem]), h.out.keep hBY, (h.gi.of_block (hBY.block _ gi)).congr (fun i _ => by simp), fun i hi => absurd hi (by omega), fun i j hi => absurd hi (by omega), fun i hi => absurd hi (by omega), hs3.keep hB36, (hnr.of_block (hb6.block _ (by omega))).congr (fun i _ => by simp), fun i hi => absurd hi (by omega), hsea, fun i hi => absurd hi (by omega)⟩
structure FlI (w4 : World) (gB gD Kw CB : Nat) (W0 : Nat → Nat) (pre : List Pl) (V : World) : Prop where
  os : V.os = w4.os
  tape : V.tape = w4.tape
  output : V.output = w4.output
  size : w4.heap.size ≤ V.heap.size
  fr : ∀ q, q < w4.heap.size → q ≠ gB → q ≠ gD → V.heap[q]? = w4.heap[q]?
  ws : WsAt V gB Kw CB ((pre.map Pl.dat).foldl stepI W0)
  wd : WsAt V gD Kw Kw ((pre.map Pl.dat).foldl stepD (fun _ => 0))
theorem FlI.own {w4 : World} {gB gD Kw CB : Nat} {W0 : Nat → Nat} (hB : gB < w4.heap.size) (hD : gD < w4.heap.size) : OwnFrom w4.heap.size (FlI w4 gB gD Kw CB W0) := fun pre A V row h k q => by
  have hz := h.size
  have hbl : ∀ b, b < w4.heap.size → V.heap[b]? = A.heap[b]? := fun b hb => k.block b (by omega) (fun e => by have := (q b e.symm).1; omega)
  exact ⟨k.os.trans h.os, k.tape.trans h.tape, k.output.trans h.output, Nat.le_trans hz k.size, fun b h1 h2 h3 => (hbl b h1).trans (h.fr b h1 h2 h3), h.ws.of_block (hbl gB hB), h.wd.of_block (hbl gD hD)⟩
theorem FlI.below {w4 : World} {gB gD Kw CB : Nat} {W0 : Nat → Nat} (hB : gB < w4.heap.size) (hD : gD < w4.heap.size) {pre : List Pl} {V V' : World} (h : FlI w4 gB gD Kw CB W0 pre V) (k : Below V.heap.size V V') : FlI w4 gB gD Kw CB W0 pre V' := ownFrom_none (FlI.own hB hD) h k
theorem foldI_wd (l : List (Nat × List Int × List Int)) {W : Nat → Nat} (h : WdOk W) : WdOk (l.foldl stepI W) := by
  induction l generalizing W with
  | nil => exact h
  | cons q l ih => exact ih (adds_wd _ (dels_wd _ h))
/-- Behind the three calls of a round. -/
theorem FlI.next {w4 : World} {gB gD Kw CB : Nat} {W0 : Nat → Nat} {pre : List Pl} {V V1 V2 V3 : World} (h : FlI w4 gB gD Kw CB W0 pre V) (hB : gB < w4.heap.size) (hne : gB ≠ gD) {p : Pl}
    (k1 : V.grownBy V1 (some gB)) (k2 : V1.grownBy V2 (some gB)) (k3 : V2.grownBy V3 (some gD)) (hw : WsAt V2 gB Kw CB (stepI ((pre.map Pl.dat).foldl stepI W0) p.dat)) (hd : WsAt V3 gD Kw Kw (stepD ((pre.map Pl.dat).foldl stepD (fun _ => 0)) p.dat)) : FlI w4 gB gD Kw CB W0 (pre ++ [p]) V3 := by
  have hz := h.size
  have z1 := k1.size
  have z2 := k2.size
  have z3 := k3.size
  refine ⟨k3.os.trans (k2.os.trans (k1.os.trans h.os)), k3.tape.trans (k2.tape.trans (k1.tape.trans h.tape)), k3.output.trans (k2.output.trans (k1.output.trans h.output)), by omega, fun q q1 q2 q3 => ?_, ?_, ?_⟩
  · exact (k3.block q (by omega) (fun e => q3 (by injection e))).trans ((k2.block q (by omega) (fun e => q2 (by injection e))).trans ((k1.block q (by omega) (fun e => q2 (by injection e))).trans (h.fr q q1 q2 q3)))
  · rw [List.map_append, List.foldl_append]
    exact hw.of_block (k3.block gB (by omega) (fun e => hne (by injection e)))
  · rw [List.map_append, List.foldl_append]
    exact hd
theorem intsAt_own {A V : World} {row : Option Nat} {n₀ B : Nat} {a : Option Addr} {xs : List Int} (h : IntsAt A n₀ A.heap.size a xs) (k : A.grownBy V row) (q : ∀ r, row = some r → B ≤ r ∧ ∃ o : Obj, A.heap[r]? = some o ∧ o.isCells = false) : IntsAt V n₀ V.heap.size a xs := fun i hi => by
  obtain ⟨b, o, e, hb, hc⟩ := h i hi
  refine ⟨b, o, e, ⟨hb.1, Nat.lt_of_lt_of_le hb.2 k.size⟩, (cell_of (k.block b hb.2 (fun e2 => ?_))).trans hc⟩
  obtain ⟨ob, h1, h2⟩ := cells_of_cell hc
  obtain ⟨_, o2, h3, h4⟩ := q b e2.symm
  rw [show A.heap[b]? = some ob from h1] at h3
  injection h3 with h3
  subst h3
  rw [h2] at h4
  cases h4
theorem plPx_own (n n₀ : Nat) (Pd : Nat × List Int × List Int → Prop) : OwnFrom n (plPx n₀ Pd) := fun _ _ _ _ h k q => ⟨h.1, intsAt_own h.2.1 k q, intsAt_own h.2.2 k q⟩
theorem plPx_below {n₀ : Nat} {Pd : Nat × List Int × List Int → Prop} {p : Pl} {V V' : World} (h : plPx n₀ Pd p V) (k : Below V.heap.size V V') : plPx n₀ Pd p V' := ownFrom_none (plPx_own 0 n₀ Pd) h k
theorem intsAt_grown {A V : World} {g n₀ : Nat} {a : Option Addr} {xs : List Int} (h : IntsAt A n₀ A.heap.size a xs) (k : A.grownBy V (some g)) (hg : g < n₀) : IntsAt V n₀ V.heap.size a xs := fun i hi => by
  obtain ⟨b, o, e, hb, hc⟩ := h i hi
  exact ⟨b, o, e, ⟨hb.1, Nat.lt_of_lt_of_le hb.2 k.size⟩, (cell_of (k.block b hb.2 (fun e2 => by injection e2 with e2; omega))).trans hc⟩
/-- Where the variable p lies. -/
structure PBx (n₀ bp : Nat) (p : Pl) (V : World) : Prop where
  ge : n₀ ≤ bp
  c0 : V.cell? ⟨bp, 0, none⟩ = some (.slice p.ua p.us.length p.uc)
  c1 : V.cell? ⟨bp, 1, none⟩ = some (.slice p.da p.ds.length p.dc)
theorem PBx.own {n n₀ bp : Nat} {p : Pl} : OwnFrom n (fun (_ : Unit) V => PBx n₀ bp p V) := fun _ A V row h k q => by
  have hbl : V.heap[bp]? = A.heap[bp]? := by
    obtain ⟨o, h1, h2⟩ := cells_of_cell h.c0
    refine k.block bp (Array.getElem?_eq_some_iff.1 h1).1 (fun e => ?_)
    obtain ⟨_, o2, h3, h4⟩ := q bp e.symm
    rw [show A.heap[bp]? = some o from h1] at h3
    injection h3 with h3
    subst h3
    rw [h2] at h4
    cases h4
  exact ⟨h.ge, (cell_of hbl).trans h.c0, (cell_of hbl).trans h.c1⟩
theorem kpB_grown {n₀ : Nat} {Ms : Nat → Prop} {V V' : World} {g : Nat} (k : V.grownBy V' (some g)) (hg : Ms g) (hn : n₀ ≤ V.heap.size) : KpB n₀ Ms V V' :=
  ⟨k.size, fun i hi hm => k.block i (by omega) (fun e => hm (by injection e with e; rw [e]; exact hg)), fun i o hm h1 _ => (k.block i (Array.getElem?_eq_some_iff.1 h1).1 (fun e => hm (by injection e with e; rw [e]; exact hg))).trans h1⟩
theorem keeps_row {V V' : World} {g : Nat} (k : V.grownBy V' (some g)) (hg : ∃ o : Obj, V.heap[g]? = some o ∧ o.isCells = true) : KeepsOthers V V' :=
  KeepsOthers.of_grownBy k (fun j o e h => by
    obtain ⟨o2, h1, h2⟩ := hg
    injection e with e
    subst e
    rw [h1] at h
    injection h with h
    rw [← h]; exact h2)
theorem WsAt.obj {w : World} {g K C : Nat} {W : Nat → Nat} (h : WsAt w g K C W) : ∃ o : Obj, w.heap[g]? = some o ∧ o.isCells = true := by
  obtain ⟨_, T, c, h1, _⟩ := h
  exact ⟨_, h1, rfl⟩
theorem mks_next' {wr W : World} {B D : Nat} {ds : List Nat} (h : MksAt wr B ds) (hB : B ≤ wr.heap.size) (hD : wr.heap.size ≤ D) (hK : W.heap[D]? = some (.deferred (some []))) (hb : ∀ k, B ≤ k → wr.heap[k]? = some (.deferred (some [])) → W.heap[k]? = wr.heap[k]?) : MksAt W B (D :: ds) := by
  have hl : ∀ k ∈ ds, k < wr.heap.size := fun k hk => (Array.getElem?_eq_some_iff.1 (h.obj k hk)).1
  refine ⟨List.nodup_cons.2 ⟨fun k => by have := hl D k; omega, h.nd⟩, fun k hk => ?_, fun k hk => ?_⟩
  · rcases List.mem_cons.1 hk with rfl | hk
    · omega
    · exact h.ge k hk
  · rcases List.mem_cons.1 hk with rfl | hk
    · exact hK
    · exact (hb k (h.ge k hk) (h.obj k hk)).trans (h.obj k hk)
/-- What holds of every place of a block. -/
def PdV (V : Nat) (q : Nat × List Int × List Int) : Prop := (∀ v ∈ q.2.1, 0 ≤ v ∧ v < V) ∧ (∀ v ∈ q.2.2, 0 ≤ v ∧ v < V) ∧ q.2.1.length ≤ 4000 ∧ q.2.2.length ≤ 4000
theorem pdV_all {V : Nat} {xs : List Blk} (ho : OkL V xs) {x : Blk} (hx : x ∈ xs) : ∀ q ∈ plL x, PdV V q := fun q hq => by
  unfold plL at hq
  have hT : (rdT x.term).length ≤ 1 := by unfold rdT; split <;> simp
  rcases List.mem_cons.1 hq with rfl | hq
  · exact ⟨ho.rdt x hx, fun v hv => absurd hv List.not_mem_nil, by show (rdT x.term).length ≤ _; omega, by simp⟩
  · rcases List.mem_append.1 hq with hq | hq
    · obtain ⟨j, _, rfl⟩ := List.mem_map.1 hq
      have h1 := rdI_le x.instrs[j]
      have h2 : (writesI x.instrs[j]).length ≤ 1 := by unfold writesI; split <;> simp
      exact ⟨ho.rdi x hx _ (List.getElem_mem _), ho.wri x hx _ (List.getElem_mem _), by show (rdI x.instrs[j]).length ≤ _; omega, by show (writesI x.instrs[j]).length ≤ _; omega⟩
    · rw [List.mem_singleton.1 hq]
      refine ⟨fun v hv => absurd hv List.not_mem_nil, fun v hv => ?_, by simp, ?_⟩
      · obtain ⟨p, hp, rfl⟩ := List.mem_map.1 hv
        exact ho.phd x hx p hp
      · show (x.phis.map Ph.dst).length ≤ _
        rw [List.length_map]
        exact (ho.lens x hx).2
/-- What findLive leaves. -/
structure FlR (w w' : World) (n Kw : Nat) (xs : List Blk) (Gi Go : Nat) (gi go ci : Nat → Nat) (WI WX : Nat → Nat → Nat) : Prop where
  low : Below w.heap.size w w'
  si : SetsAv w' Gi n Kw gi ci WI
  so : SetsAv w' Go n Kw go (fun _ => Kw) WX
  wi : AllWd WI
  wx : AllWd WX
  b1 : w.heap.size ≤ Gi ∧ w.heap.size ≤ Go
  b2 : ∀ i, i < n → w.heap.size ≤ gi i ∧ w.heap.size ≤ go i
  inn : ∃ (I T W0 : Nat → Nat → Nat) (ord : List Nat), (∀ i (h : i < xs.length), I i = inW xs[i] (W0 i)) ∧ (∀ i (h : i < xs.length), T i = dfW xs[i]) ∧ (∀ b, b < xs.length → ∀ v, hasN (W0 b) v = true ↔ (b, v) ∈ phE xs xs.length) ∧ (∀ b, b < xs.length → b ∈ ord) ∧ (∀ b, b < n → ∀ x, x < 64 * Kw → (hasN (WI b) x = true ↔ Sp I T (· ∈ ord) (tgN xs) b x)) ∧ ∀ b, b < n → ∀ x, (hasN (WX b) x = true ↔ hasN (W0 b) x = true ∨ ∃ t ∈ tgN xs b, hasN (WI t) x = true)
section
theorem own_block {w w' : World} {base e s : Nat} {v : Value} {n : Nat} {xs : List Value} (h : w.ownsRow base e s v n xs) (hb : ∀ g, v.ownBlock = some g → w'.heap[g]? = w.heap[g]?) : w'.ownsRow base e s v n xs := by
  obtain ⟨hl, h | ⟨g, cap, cur, rfl, hg, hh, hc, h1, hs, ht⟩⟩ := h
  · exact ⟨hl, Or.inl h⟩
  · exact ⟨hl, Or.inr ⟨g, cap, cur, rfl, hg, (hb g rfl).trans hh, hc, h1, hs, ht⟩⟩
theorem own_cells {w : World} {base e s : Nat} {v : Value} {n : Nat} {xs : List Value} (h : w.ownsRow base e s v n xs) {g : Nat} (hv : v.ownBlock = some g) : ∃ o : Obj, w.heap[g]? = some o ∧ o.isCells = true := by
  obtain ⟨_, h | ⟨g2, cap, cur, rfl, _, hh, _⟩⟩ := h
  · rw [h.1] at hv; cases hv
  · have e : g2 = g := by simpa [Value.ownBlock] using hv
    subst e
    exact ⟨_, hh, rfl⟩
theorem SeaAt.same {w w' : World} {bS gS BL K : Nat} {ab : Option Addr} {nb cb : Nat} {W : Nat → Nat} {v : Value} {L : List Nat} (h : SeaAt w bS gS BL K ab nb cb W v L) (hb : w'.heap[bS]? = w.heap[bS]?) (hg : w'.heap[gS]? = w.heap[gS]?) (ho : ∀ g, v.ownBlock = some g → w'.heap[g]? = w.heap[g]?) (hz : w.heap.size ≤ w'.heap.size) : SeaAt w' bS gS BL K ab nb cb W v L := by
  have ce : ∀ q, w'.cell? ⟨bS, q, none⟩ = w.cell? ⟨bS, q, none⟩ := fun q => World.cell?_of_block hb
  exact ⟨(ce 0).trans h.c0, (ce 1).trans h.c1, (ce 2).trans h.c2, fun q => (World.frozen?_of_block hb).trans (h.thaw q), h.row.of_block hg, own_block h.own ho, h.lb, h.lg, h.ne, Nat.le_trans h.sz hz⟩
section
variable {p : FlP} {wr w4 W w5 : World} {k : Nat} {d : FlD} {gB CB : Nat} {ps : List Pl} {u5 : Value}
theorem round_fr (hF4 : ∀ q, q < wr.heap.size → q ≠ p.Gi → w4.heap[q]? = wr.heap[q]?) (hz4 : wr.heap.size ≤ w4.heap.size) (hgB : wr.heap.size ≤ gB) (hI : FlI w4 gB (p.gd k) p.Kw CB (p.WO k) ps W) (hb5 : Below W.heap.size W w5) :
    ∀ q, q < wr.heap.size → q ≠ p.Gi → q ≠ p.gd k → q ≠ p.Gn → (w5.setCell ⟨p.Gn, k, none⟩ u5).heap[q]? = wr.heap[q]? := fun q h1 h2 h3 h4 => by
  have := hI.size
  exact (Below.heap_setCell _ _ _ _ h4).trans ((hb5.block q (by omega)).trans ((hI.fr q (by omega) (by omega) h3).trans (hF4 q h1 h2)))
theorem round_sea (h : FlK p wr k d) (s : FlS p) (hk : k < p.n) (hF4 : ∀ q, q < wr.heap.size → q ≠ p.Gi → w4.heap[q]? = wr.heap[q]?) (hz4 : wr.heap.size ≤ w4.heap.size) (hgB : wr.heap.size ≤ gB) (hI : FlI w4 gB (p.gd k) p.Kw CB (p.WO k) ps W) (hb5 : Below W.heap.size W w5) :
    SeaAt (w5.setCell ⟨p.Gn, k, none⟩ u5) p.bS p.gS p.M p.K2 p.a p.n p.c d.Ws d.vS d.Lf := by
  have hz := h.sz
  have fr := round_fr (u5 := u5) hF4 hz4 hgB hI hb5
  have a1 := s.a1
  have a5 := s.a5
  have a6 := s.a6 k hk
  have a8 := s.a8
  have a9 := s.a9
  have a10 := s.a10
  have hz1 := hI.size
  have hz5 := hb5.size
  refine h.sea.same (fr _ (by omega) (by omega) (by omega) (by omega)) (fr _ (by omega) (by omega) (by omega) (by omega)) (fun g e => ?_) (by rw [size_setCell]; omega)
  have := h.sea.own.lt g e
  exact fr g (by omega) (by omega) (by omega) (by omega)
theorem FlK.round {w7 : World} {X : Blk} {D : Nat} {ds : List Nat} {a5 : Option Addr} {c5 : Nat} {v' : Value} (h : FlK p wr k d) (s : FlS p) (hq : FlQ p k d) (hm : MksAt wr p.M ds) (hk : k < p.n) (hkx : k < p.xs.length) (ht : ∀ b, b < p.n → ∀ t ∈ tgN p.xs b, t < p.n)
    (hF4 : ∀ q, q < wr.heap.size → q ≠ p.Gi → w4.heap[q]? = wr.heap[q]?) (hE4 : w4.os = wr.os ∧ w4.tape = wr.tape ∧ w4.output = wr.output) (hz4 : wr.heap.size ≤ w4.heap.size) (hgB : wr.heap.size ≤ gB) (hgB4 : gB < w4.heap.size)
    (hGi : w4.rowIs p.Gi 46 p.n (fun i => if i = k then .slice (some ⟨gB, 0, none⟩) p.Kw CB else if i < k then .slice (some ⟨d.gi i, 0, none⟩) p.Kw (d.ci i) else .slice none 0 0))
    (hI : FlI w4 gB (p.gd k) p.Kw CB (p.WO k) ps W) (hS : ps.map Pl.dat = plL X) (hX : X = p.xs[k]) (hD : w4.heap.size ≤ D) (hKD : W.heap[D]? = some (.deferred (some [])))
    (hb5 : Below W.heap.size W w5) (hi5 : IntsAt w5 W.heap.size w5.heap.size a5 X.term.targets)
    (hf : FrV (w5.setCell ⟨p.Gn, k, none⟩ (.slice a5 X.term.targets.length c5)) w7 p.bS p.gS d.vS v') (hs : SeaAt w7 p.bS p.gS p.M p.K2 p.a p.n p.c (dfsV (tgN p.xs) p.n k (d.Ws, d.Lf)).1 v' (dfsV (tgN p.xs) p.n k (d.Ws, d.Lf)).2) :
    ∃ d', FlK p w7 (k + 1) d' ∧ FlQ p (k + 1) d' ∧ MksAt w7 p.M (D :: ds) := by
  have hz := h.sz
  have fr := round_fr (u5 := .slice a5 X.term.targets.length c5) hF4 hz4 hgB hI hb5
  have a1 := s.a1
  have a5' := s.a5
  have a6 := s.a6 k hk
  have a8 := s.a8
  have a9 := s.a9
  have a10 := s.a10
  have hz1 := hI.size
  have hz5 := hb5.size
  have hz6 := hf.size
  rw [size_setCell] at hz6
  have hvl : ∀ g, d.vS.ownBlock = some g → p.M ≤ g ∧ g < wr.heap.size := fun g e => h.sea.own.lt g e
  have hvo : ∀ g, v'.ownBlock = some g → d.vS.ownBlock = some g ∨ w5.heap.size ≤ g := fun g e => by
    rcases hf.own with q | q
    · exact Or.inl (by rw [← q]; exact e)
    · have := q g e; rw [size_setCell] at this; exact Or.inr this
  have hDl : D < W.heap.size := (Array.getElem?_eq_some_iff.1 hKD).1
  -- blocks that are new, or were there and were not touched
  have up : ∀ q, wr.heap.size ≤ q → q < w5.heap.size → w7.heap[q]? = w5.heap[q]? := fun q h1 h2 => (hf.block q (by rw [size_setCell]; exact h2) (by omega) (by omega) (fun e => by have := hvl q e.symm; omega)).trans (Below.heap_setCell _ _ _ _ (by show q ≠ p.Gn; omega))
  have lo : ∀ q, q < wr.heap.size → q ≠ p.Gn → q ≠ p.bS → q ≠ p.gS → some q ≠ d.vS.ownBlock → w7.heap[q]? = W.heap[q]? := fun q h1 h2 h3 h4 h5 => (hf.block q (by rw [size_setCell]; omega) h3 h4 h5).trans ((Below.heap_setCell _ _ _ _ h2).trans (hb5.block q (by omega)))
  have hown : ∀ q, q < p.M → some q ≠ d.vS.ownBlock := fun q hq e => by have := hvl q e.symm; omega
  have hfr : ∀ q, q < wr.heap.size → q ≠ p.Gi → q ≠ p.gd k → q ≠ p.Gn → q ≠ p.bS → q ≠ p.gS → some q ≠ d.vS.ownBlock → w7.heap[q]? = wr.heap[q]? := fun q h1 h2 h3 h4 h5 h6 h7 => (hf.block q (by rw [size_setCell]; omega) h5 h6 h7).trans (fr q h1 h2 h3 h4)
  have hwI : (ps.map Pl.dat).foldl stepI (p.WO k) = inW p.xs[k] (p.WO k) := by rw [hS, ← hX]; rfl
  have hwD : (ps.map Pl.dat).foldl stepD (fun _ => 0) = dfW p.xs[k] := by rw [hS, ← hX]; rfl
  have hIw : WsAt w7 gB p.Kw CB (inW p.xs[k] (p.WO k)) := by
    rw [← hwI]
    exact hI.ws.of_block ((up gB hgB (by omega)).trans (hb5.block gB (by omega)))
  have hDw : WsAt w7 (p.gd k) p.Kw p.Kw (dfW p.xs[k]) := by
    rw [← hwD]
    exact hI.wd.of_block (lo _ (by omega) (by omega) (by omega) (by omega) (hown _ (by omega)))
  have hGi7 := (hGi.of_block (hI.fr p.Gi (by omega) (by omega) (by omega))).of_block (lo p.Gi (by omega) (by omega) (by omega) (by omega) (hown _ (by omega)))
  have hGn5 : w5.rowIs p.Gn 35 p.n (fun i => if i < k then d.nx i else .slice none 0 0) := by
    refine ((h.nxr.of_block (hF4 p.Gn (by omega) (by omega))).of_block (hI.fr p.Gn (by omega) (by omega) (by omega))).of_block (hb5.block p.Gn (by omega))
  have hGn7 := (hGn5.set k (.slice a5 X.term.targets.length c5)).of_block (hf.block p.Gn (by rw [size_setCell]; omega) (by omega) (by omega) (hown _ (by omega)))
  have htg : tgI p.xs k = X.term.targets := by rw [tgI_at hkx, hX]
  refine ⟨_, h.next s hk (gB := gB) (CB := CB) (I' := inW p.xs[k] (p.WO k)) (D' := dfW p.xs[k]) (nk := .slice a5 X.term.targets.length c5) (v' := v') (Ws' := (dfsV (tgN p.xs) p.n k (d.Ws, d.Lf)).1) (Lf' := (dfsV (tgN p.xs) p.n k (d.Ws, d.Lf)).2) (hf.os.trans (hb5.os.trans (hI.os.trans hE4.1))) (hf.tape.trans (hb5.tape.trans (hI.tape.trans hE4.2.1))) (hf.output.trans (hb5.output.trans (hI.output.trans hE4.2.2))) (by omega) hfr hgB hIw hGi7 hDw hGn7 ⟨a5, c5, by rw [htg], ?_⟩ hs ?_ ?_, hq.next hk ht _ _ _ _ hkx rfl rfl, mks_next' hm hz (by omega) ?_ ?_⟩
  · rw [htg]
    intro i hi
    obtain ⟨b, o, e, hb, hc⟩ := hi5 i hi
    refine ⟨b, o, e, ⟨⟨by omega, by omega, fun e2 => ?_⟩, by omega⟩, (cell_of (up b (by omega) hb.2)).trans hc⟩
    rcases hvo b e2.symm with q | q
    · have := hvl b q; omega
    · omega
  · rcases hf.own with q | q
    · exact Or.inl q
    · exact Or.inr (fun g e => by have := q g e; rw [size_setCell] at this; omega)
  · intro e
    rcases hvo gB e.symm with q | q
    · have := hvl gB q; omega
    · omega
  · exact (up D (by omega) (by omega)).trans ((hb5.block D hDl).trans hKD)
  · intro q h1 h2
    have hql : q < wr.heap.size := (Array.getElem?_eq_some_iff.1 h2).1
    refine hfr q hql (by omega) (by omega) (by omega) (by omega) (by omega) (fun e => ?_)
    obtain ⟨o, h3, h4⟩ := own_cells h.sea.own e.symm
    rw [h2] at h3
    injection h3 with h3
    rw [← h3] at h4
    cases h4
end
end
end Go.Proofs.YtanaeindldcapaaDoor
