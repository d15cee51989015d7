import Derived.Test.YtanaeindldcapaaDoorFK1
namespace Go.Proofs.YtanaeindldcapaaDoor
open Go.RowKit Go.Shelf
def I0 (xs : List Blk) (WO : Nat → Nat → Nat) (i : Nat) : Nat → Nat := (xs[i]?).elim (fun _ => 0) fun x => inW x (WO i)
def T0 (xs : List Blk) (i : Nat) : Nat → Nat := (xs[i]?).elim (fun _ => 0) dfW
theorem I0_at {xs : List Blk} {WO : Nat → Nat → Nat} {i : Nat} (h : i < xs.length) : I0 xs WO i = inW xs[i] (WO i) := by simp [I0, h]
theorem T0_at {xs : List Blk} {i : Nat} (h : i < xs.length) : T0 xs i = dfW xs[i] := by simp [T0, h]
theorem I0_wd {xs : List Blk} {WO : Nat → Nat → Nat} (h : AllWd WO) : AllWd (I0 xs WO) := fun i => by
  unfold I0
  cases xs[i]? with
  | none => exact wd_zero
  | some x => exact inW_wd x (h i)
theorem T0_wd {xs : List Blk} : AllWd (T0 xs) := fun i => by
  unfold T0
  cases xs[i]? with
  | none => exact wd_zero
  | some x => exact dfW_wd x
theorem SetsAv.congr {w : World} {G n K : Nat} {gs cp : Nat → Nat} {Ws Ws' : Nat → Nat → Nat} (h : SetsAv w G n K gs cp Ws) (e : ∀ i, i < n → Ws i = Ws' i) : SetsAv w G n K gs cp Ws' :=
  ⟨h.row, fun i hi => by rw [← e i hi]; exact h.set i hi, h.inj, h.out⟩
def srcT (xs : List Blk) : List (List Nat) := (List.range xs.length).map (tgN xs)
theorem srcT_get (xs : List Blk) : (fun b => (srcT xs).getD b []) = tgN xs := by
  funext b
  unfold srcT
  by_cases h : b < xs.length
  · simp [h]
  · simp only [List.getD_eq_getElem?_getD, List.getElem?_map]
    rw [List.getElem?_eq_none (by simp; omega)]
    unfold tgN
    rw [List.getElem?_eq_none (by omega)]
    rfl
theorem natI_tg {xs : List Blk} (ho : OkF xs) {i : Nat} (h : i < xs.length) : natI (tgN xs i) = tgI xs i := by
  rw [tgN_at h, tgI_at h]
  exact natI_natL (fun v hv => (ho.tgt _ (List.getElem_mem h) v hv).1)
/-- What holds behind spread. -/
structure Fl2 (p : FlP) (gi ci : Nat → Nat) (nx : Nat → Value) (ds : List Nat) (W : World) (WI : Nat → Nat → Nat) : Prop where
  low : Below p.w.heap.size p.w W
  sz : p.M ≤ W.heap.size
  f0 : W.cell? ⟨p.w.heap.size, 0, none⟩ = some (.int .i64 (p.V : Int))
  r0 : W.cell? ⟨p.w.heap.size + 1, 0, none⟩ = some (.slice none 0 0)
  r1 : W.cell? ⟨p.w.heap.size + 1, 1, none⟩ = some (.slice none 0 0)
  rz : ∀ q, W.frozen? ⟨p.w.heap.size + 1, q, none⟩ = false
  l0 : W.cell? ⟨p.LB, 0, none⟩ = some (.slice (some ⟨p.Gi, 0, none⟩) p.n p.n)
  l1 : W.cell? ⟨p.LB, 1, none⟩ = some (.slice (some ⟨p.Go, 0, none⟩) p.n p.n)
  out : SetsAv W p.Go p.n p.Kw p.go (fun _ => p.Kw) p.WO
  inn : SetsAv W p.Gi p.n p.Kw gi ci WI
  igM : ∀ i, i < p.n → p.M ≤ gi i
  nxr : W.rowIs p.Gn 35 p.n nx
  nxs : ∀ i, i < p.n → ∃ a' c', nx i = .slice a' (tgI p.xs i).length c' ∧ IntsP W (fun b => p.M ≤ b) a' (tgI p.xs i)
  mks : MksAt W p.M ds
  wi : AllWd WI
  ord : ∃ ord : List Nat, (∀ b, b < p.n → b ∈ ord) ∧ ∀ b, b < p.n → ∀ x, x < 64 * p.Kw → (hasN (WI b) x = true ↔ Sp (I0 p.xs p.WO) (T0 p.xs) (· ∈ ord) (tgN p.xs) b x)
theorem FlK.spread {p : FlP} {W : World} {d : FlD} {ds : List Nat} (h : FlK p W p.n d) (s : FlS p) (q : FlQ p p.n d) (hm : MksAt W p.M ds) (ho : OkL p.V p.xs) (hn : p.n = p.xs.length) (hwo : AllWd p.WO) (hKw : p.Kw ≤ 100) :
    ∃ g C, d.vS = .slice (some ⟨g, 0, none⟩) d.Lf.length C ∧ Calls Tryd.prog 46 #[.slice (some ⟨g, 0, none⟩) d.Lf.length C, .slice (some ⟨p.Gn, 0, none⟩) p.n p.n, .slice (some ⟨p.Gi, 0, none⟩) p.n p.n, .slice (some ⟨p.Gd, 0, none⟩) p.n p.n] W.drew fun e w' => e = .returned (.tuple #[]) ∧ (∃ WI, Fl2 p d.gi d.ci d.nx ds w' WI) ∧ (∀ b, b < W.heap.size → b < p.M → w'.heap[b]? = W.heap[b]?) := by
  have hz := h.sz
  have hn1 : 1 ≤ p.n := by have := ho.okf.n1; omega
  have hn2 : p.n ≤ 1000 := by have := ho.okf.n2; omega
  have hL0 : 0 < d.Lf.length := List.length_pos_of_mem (q.mem 0 (q.sn 0 (by omega)))
  have hLn : d.Lf.length ≤ 1000 := by have := q.len; omega
  obtain ⟨g, C, hv, hg, _⟩ := own_some' h.sea.own hL0
  refine ⟨g, C, hv, ?_⟩
  have hown := h.sea.own
  rw [hv, show natV d.Lf = (natI d.Lf).map (Value.int .i64) by simp [natV, natI]] at hown
  obtain ⟨a1, c1, e1, hi1⟩ := ints_owned hown
  injection e1 with e1 e2 e3
  subst e1
  have a1' := s.a1
  have a5' := s.a5
  have a8' := s.a8
  have a9' := s.a9
  have HI : SetsAv W p.Gi p.n p.Kw d.gi d.ci (I0 p.xs p.WO) := ⟨h.inr.congr (fun i hi => by rw [if_pos hi]), fun i hi => by rw [I0_at (by omega), ← q.wi i (by omega) hi]; exact h.ins i hi, h.inj, fun i hi e => by have := h.igM i hi; omega⟩
  have HT : SetsAv W p.Gd p.n p.Kw p.gd (fun _ => p.Kw) (T0 p.xs) := h.defs.congr (fun i hi => by rw [T0_at (by omega), q.wd i (by omega), if_pos hi])
  have hrow : ∀ i, i < p.n → W.cell? ⟨p.Gn, 0 + i, none⟩ = some (d.nx i) := fun i hi => by
    rw [Nat.zero_add]
    exact (h.nxr.cell hi).trans (by rw [if_pos hi])
  have hsrc : RowsP W (fun k => ∀ i, i < p.n → k ≠ d.gi i) (some ⟨p.Gn, 0, none⟩) ((srcT p.xs).map natI) := fun i hi => by
    have hi' : i < p.xs.length := by simpa [srcT] using hi
    have hin : i < p.n := by omega
    obtain ⟨a', c', e, hp⟩ := h.nxs i hin
    have eg : ((srcT p.xs).map natI)[i] = tgI p.xs i := by
      simp only [List.getElem_map, srcT, List.getElem_range]
      exact natI_tg ho.okf hi'
    refine ⟨p.Gn, 0, rfl, ⟨fun j hj e => by have := h.igM j hj; omega, h.nxr.lt⟩, a', c', ?_, ?_⟩
    · rw [eg, hrow i hin, e]
    · rw [eg]
      intro j hj
      obtain ⟨b, o, e2, hb, hc⟩ := hp j hj
      exact ⟨b, o, e2, ⟨hb.1.2.1, hb.2⟩, hc⟩
  refine (spread_valueNo g 0 d.Lf.length C d.Lf p.M W.heap.size (some ⟨p.Gn, 0, none⟩) p.n p.n (srcT p.xs) p.Gi p.Gd p.n p.Kw d.gi p.gd d.ci (fun _ => p.Kw) (I0 p.xs p.WO) (T0 p.xs) W.drew (hide hi1) (hide rfl) hLn hL0 (hide hsrc) (hide (by simp [srcT]; exact hn)) (hide (by simp [srcT]; exact hn.symm)) hKw (Nat.le_refl _) (hide ⟨HI.row, fun i hi => (HI.set i hi).drew, HI.inj, HI.out⟩) (hide ⟨HT.row, fun i hi => (HT.set i hi).drew, HT.inj, HT.out⟩) (hide (I0_wd hwo)) (hide T0_wd) (hide (fun i hi => by have := h.igM i hi; omega)) (hide (fun i j hi hj => by have := h.igM j hj; have := s.a6 i hi; omega)) (hide q.lt) (hide (fun l hl => ?_))).mono ?_
  · obtain ⟨i, hi, rfl⟩ := List.mem_map.1 hl
    have hi' := List.mem_range.1 hi
    refine ⟨?_, fun t ht => by have := ho.okf.tg i hi' t ht; omega⟩
    rw [tgN_at hi', List.length_map]
    have := tg_two p.xs[i].term
    omega
  · rintro e w' ⟨rfl, hf, Ws, hwd, hset, hiff⟩
    have hf' : FrS W w' p.n d.gi := ⟨hf.os, hf.tape, hf.output, hf.size, hf.block⟩
    have lo : ∀ b, b < p.M → w'.heap[b]? = W.heap[b]? := fun b hb => hf'.block b (by omega) (fun i hi e => by have := h.igM i hi; omega)
    have hw := h.low.size
    have a2' := s.a2
    have a3' := s.a3
    refine ⟨rfl, ⟨Ws, ⟨⟨hf'.os.trans h.low.os, hf'.tape.trans h.low.tape, hf'.output.trans h.low.output, Nat.le_trans hw hf'.size, fun b hb => (lo b (by omega)).trans (h.low.block b hb)⟩, Nat.le_trans hz hf'.size, (cell_of (lo _ (by omega))).trans h.f0, (cell_of (lo _ (by omega))).trans h.r0, (cell_of (lo _ (by omega))).trans h.r1, fun o => by rw [World.frozen?_of_block (a := ⟨p.w.heap.size + 1, o, none⟩) (lo (p.w.heap.size + 1) (by omega))]; exact h.rz o, (cell_of (lo _ (by omega))).trans h.l0, (cell_of (lo _ (by omega))).trans h.l1, ⟨h.out.row.of_block (lo _ (by omega)), fun i hi => (h.out.set i hi).of_block (lo _ (by have := s.a4 i hi; omega)), h.out.inj, h.out.out⟩, hset, h.igM, (h.nxr.of_block (lo _ (by omega))).congr (fun i hi => by rw [if_pos hi]), fun i hi => ?_, ⟨hm.nd, hm.ge, fun D hD => ?_⟩, hwd, d.Lf, fun b hb => q.mem b (q.sn b hb), fun b hb x hx => ?_⟩⟩, fun b h1 h2 => lo b h2⟩
    · obtain ⟨a', c', e, hp⟩ := h.nxs i hi
      refine ⟨a', c', e, fun j hj => ?_⟩
      obtain ⟨b, o, e2, hb, hc⟩ := hp j hj
      exact ⟨b, o, e2, ⟨hb.1.1, Nat.lt_of_lt_of_le hb.2 hf'.size⟩, (cell_of (hf'.block b hb.2 hb.1.2.1)).trans hc⟩
    · have hD' := hm.obj D hD
      refine (hf'.block D (Array.getElem?_eq_some_iff.1 hD').1 (fun i hi e => ?_)).trans hD'
      obtain ⟨o, h3, h4⟩ := (h.ins i hi).obj
      rw [← e, hD'] at h3
      injection h3 with h3
      rw [← h3] at h4
      cases h4
    · rw [← srcT_get]
      exact hiff b hb x hx
/-- The sets at the blocks' ends, as they are filled. -/
def outW (WI : Nat → Nat → Nat) (l : List Nat) (W : Nat → Nat) : Nat → Nat := l.foldl (fun W t => butN W (WI t) (fun _ => 0)) W
theorem outW_wd {WI : Nat → Nat → Nat} (h : AllWd WI) : ∀ (l : List Nat) {W : Nat → Nat}, WdOk W → WdOk (outW WI l W)
  | [], _, hW => hW
  | t :: l, _, hW => outW_wd h l (but_wd hW (h t))
theorem outW_has {WI : Nat → Nat → Nat} (h : AllWd WI) (x : Nat) : ∀ (l : List Nat) {W : Nat → Nat}, WdOk W → (hasN (outW WI l W) x = true ↔ hasN W x = true ∨ ∃ t ∈ l, hasN (WI t) x = true)
  | [], W, _ => by simp [outW]
  | t :: l, W, hW => by
    show hasN (outW WI l (butN W (WI t) (fun _ => 0))) x = true ↔ _
    rw [outW_has h x l (but_wd hW (h t)), has_but hW wd_zero, has_none]
    simp only [Bool.not_false, Bool.and_true, Bool.or_eq_true, List.mem_cons, exists_eq_or_imp, or_assoc]
theorem outW_take {WI : Nat → Nat → Nat} {l : List Nat} {j : Nat} (h : j < l.length) (W : Nat → Nat) : outW WI (l.take (j + 1)) W = butN (outW WI (l.take j) W) (WI l[j]) (fun _ => 0) := by
  unfold outW
  rw [List.take_succ_eq_append_getElem h, List.foldl_append]
  rfl
def outX (xs : List Blk) (WI WO : Nat → Nat → Nat) (b j : Nat) : Nat → Nat → Nat := fun i => if i < b then outW WI (tgN xs i) (WO i) else if i = b then outW WI ((tgN xs i).take j) (WO i) else WO i
theorem outX_wd {xs : List Blk} {WI WO : Nat → Nat → Nat} (h : AllWd WI) (hO : AllWd WO) (b j : Nat) : AllWd (outX xs WI WO b j) := fun i => by
  unfold outX
  split
  · exact outW_wd h _ (hO i)
  · split
    · exact outW_wd h _ (hO i)
    · exact hO i
/-- Behind the set that is empty. -/
structure Fl3 (p : FlP) (gi ci : Nat → Nat) (ds : List Nat) (WI : Nat → Nat → Nat) (W2 : World) (gN : Nat) (wr : World) (b j : Nat) : Prop where
  os : wr.os = W2.os
  tape : wr.tape = W2.tape
  output : wr.output = W2.output
  size : W2.heap.size ≤ wr.heap.size
  fr : ∀ q, q < W2.heap.size → (∀ i, i < p.n → q ≠ p.go i) → wr.heap[q]? = W2.heap[q]?
  out : SetsAv wr p.Go p.n p.Kw p.go (fun _ => p.Kw) (outX p.xs WI p.WO b j)
theorem Fl3.start {p : FlP} {gi ci : Nat → Nat} {nx : Nat → Value} {ds : List Nat} {WI : Nat → Nat → Nat} {W W2 : World} {gN : Nat} (h : Fl2 p gi ci nx ds W WI) (k : Below W.heap.size W W2) : Fl3 p gi ci ds WI W2 gN W2 0 0 :=
  ⟨rfl, rfl, rfl, Nat.le_refl _, fun _ _ _ => rfl, (h.out.keep k).congr (fun i _ => by unfold outX; by_cases e : i = 0 <;> simp [e, outW])⟩
theorem Fl3.row {p : FlP} {gi ci : Nat → Nat} {ds : List Nat} {WI : Nat → Nat → Nat} {W2 wr : World} {gN b j : Nat} (h : Fl3 p gi ci ds WI W2 gN wr b j) (hj : (tgN p.xs b).length ≤ j) : Fl3 p gi ci ds WI W2 gN wr (b + 1) 0 :=
  ⟨h.os, h.tape, h.output, h.size, h.fr, h.out.congr (fun i _ => by
    unfold outX
    by_cases e1 : i < b
    · rw [if_pos e1, if_pos (by omega)]
    · by_cases e2 : i = b
      · rw [if_neg e1, if_pos e2, if_pos (by omega), e2, List.take_of_length_le hj]
      · rw [if_neg e1, if_neg e2, if_neg (by omega)]
        by_cases e3 : i = b + 1
        · rw [if_pos e3]; simp [outW]
        · rw [if_neg e3])⟩
theorem Fl3.next {p : FlP} {gi ci : Nat → Nat} {ds : List Nat} {WI : Nat → Nat → Nat} {W2 wr w1 : World} {gN b j : Nat} (h : Fl3 p gi ci ds WI W2 gN wr b j) (hb : b < p.n) (hj : j < (tgN p.xs b).length) (k : wr.grownBy w1 (some (p.go b))) (hw : WsAt w1 (p.go b) p.Kw p.Kw (butN (outX p.xs WI p.WO b j b) (WI (tgN p.xs b)[j]) (fun _ => 0))) : Fl3 p gi ci ds WI W2 gN w1 b (j + 1) := by
  refine ⟨k.os.trans h.os, k.tape.trans h.tape, k.output.trans h.output, Nat.le_trans h.size k.size, fun q h1 h2 => (k.block q (Nat.lt_of_lt_of_le h1 h.size) (fun e => h2 b hb (by injection e))).trans (h.fr q h1 h2), (h.out.wrote hb k hw).congr (fun i _ => ?_)⟩
  by_cases e : i = b
  · subst e
    simp only [outX, Nat.lt_irrefl, if_false, if_true]
    rw [outW_take hj]
  · unfold outX
    rw [if_neg e]
    by_cases e1 : i < b
    · rw [if_pos e1, if_pos e1]
    · rw [if_neg e1, if_neg e1, if_neg e, if_neg e]
theorem Fl3.below {p : FlP} {gi ci : Nat → Nat} {ds : List Nat} {WI : Nat → Nat → Nat} {W2 wr w1 : World} {gN b j : Nat} (h : Fl3 p gi ci ds WI W2 gN wr b j) (k : Below wr.heap.size wr w1) : Fl3 p gi ci ds WI W2 gN w1 b j :=
  ⟨k.os.trans h.os, k.tape.trans h.tape, k.output.trans h.output, Nat.le_trans h.size k.size, fun q h1 h2 => (k.block q (Nat.lt_of_lt_of_le h1 h.size)).trans (h.fr q h1 h2), h.out.keep k⟩
/-- The end. -/
theorem Fl3.res {p : FlP} {gi ci : Nat → Nat} {nx : Nat → Value} {ds : List Nat} {WI : Nat → Nat → Nat} {W W2 wr w' : World} {gN : Nat} (h : Fl3 p gi ci ds WI W2 gN wr p.n 0) (h2 : Fl2 p gi ci nx ds W WI) (s : FlS p) (k2 : Below W.heap.size W W2) (hn : p.n = p.xs.length) (hwo : AllWd p.WO) (hhas : ∀ b, b < p.n → ∀ v, hasN (p.WO b) v = true ↔ (b, v) ∈ phE p.xs p.n)
    (hk : ∀ q, q < wr.heap.size → q ≠ p.w.heap.size + 1 → q < p.M ∨ (∃ i, i < p.n ∧ q = gi i) → w'.heap[q]? = wr.heap[q]?) (ho : w'.os = wr.os) (htp : w'.tape = wr.tape) (hou : w'.output = wr.output) (hz : wr.heap.size ≤ w'.heap.size) : FlR p.w w' p.n p.Kw p.xs p.Gi p.Go gi p.go ci WI (outX p.xs WI p.WO p.n 0) := by
  have hzw := h2.low.size
  have a1 := s.a1
  have a3 := s.a3
  have a5 := s.a5
  have a9 := s.a9
  have hM := h2.sz
  have hz2 := k2.size
  have hz3 := h.size
  have lo : ∀ q, q < p.M → q ≠ p.w.heap.size + 1 → (∀ i, i < p.n → q ≠ p.go i) → w'.heap[q]? = W.heap[q]? := fun q h1 h3 h4 => (hk q (by omega) h3 (Or.inl h1)).trans ((h.fr q (by omega) h4).trans (k2.block q (by omega)))
  refine ⟨⟨ho.trans (h.os.trans (k2.os.trans h2.low.os)), htp.trans (h.tape.trans (k2.tape.trans h2.low.tape)), hou.trans (h.output.trans (k2.output.trans h2.low.output)), by omega, fun q hq => (lo q (by omega) (by omega) (fun i hi e => by have := s.a4 i hi; omega)).trans (h2.low.block q hq)⟩, ⟨h2.inn.row.of_block (lo p.Gi (by omega) (by omega) (fun i hi e => (s.d4 i hi).1 e.symm)), fun i hi => ?_, h2.inn.inj, h2.inn.out⟩, ⟨h.out.row.of_block (hk p.Go (by omega) (by omega) (Or.inl (by omega))), fun i hi => (h.out.set i hi).of_block (hk _ (by have := s.a4 i hi; omega) (by have := s.a4 i hi; omega) (Or.inl (by have := s.a4 i hi; omega))), h.out.inj, h.out.out⟩, h2.wi, outX_wd h2.wi hwo _ _, ⟨by omega, by omega⟩, fun i hi => ⟨by have := h2.igM i hi; omega, by have := s.a4 i hi; omega⟩, ?_⟩
  · have hg := h2.igM i hi
    have hl := (h2.inn.set i hi).lt
    refine (h2.inn.set i hi).of_block ((hk (gi i) (by omega) (by omega) (Or.inr ⟨i, hi, rfl⟩)).trans ((h.fr (gi i) (by omega) (fun j hj e => by have := s.a4 j hj; omega)).trans (k2.block _ hl)))
  · obtain ⟨ord, h3, h4⟩ := h2.ord
    refine ⟨I0 p.xs p.WO, T0 p.xs, p.WO, ord, fun i hi => I0_at hi, fun i hi => T0_at hi, fun b hb v => by rw [← hn]; exact hhas b (by omega) v, fun b hb => h3 b (by omega), h4, fun b hb x => ?_⟩
    unfold outX
    rw [if_pos hb]
    exact outW_has h2.wi x _ (hwo b)
theorem leaves_mks' {F : Fence} {n : Nat} {P : Program} {fn : Func} {tmps : Array Value} {R : Ending → World → Prop} {B : Nat} : ∀ (ds : List Nat) (W : World), MksAt W B ds → (∀ W' : World, W'.os = W.os → W'.tape = W.tape → W'.output = W.output → W.heap.size ≤ W'.heap.size → (∀ k, k ∉ ds → W'.heap[k]? = W.heap[k]?) → ∃ v, (results fn tmps).run P W' = .ok v W' ∧ R (.returned v) W') → LeavesInM F n P fn tmps R (mks ds) .returning W
  | [], W, _, h => h W rfl rfl rfl (Nat.le_refl _) (fun _ _ => rfl)
  | D :: ds, W, hm, h => by
    refine ⟨by simp, Or.inl ⟨D, _, rfl, run_takeDeferred (hm.obj D List.mem_cons_self), ?_⟩⟩
    have hg := grownBy_putObj' W D (.deferred none)
    refine leaves_mks' (B := B) ds _ ⟨(List.nodup_cons.1 hm.nd).2, fun k hk => hm.ge k (List.mem_cons_of_mem _ hk), fun k hk => ?_⟩ (fun W' k1 k2 k3 k4 k5 => h W' (k1.trans hg.os) (k2.trans hg.tape) (k3.trans hg.output) (Nat.le_trans hg.size k4) (fun q hq => ?_))
    · exact (World.putObj_heap_other (fun e => (List.nodup_cons.1 hm.nd).1 (by rw [← e]; exact hk))).trans (hm.obj k (List.mem_cons_of_mem _ hk))
    · have h1 : q ≠ D ∧ q ∉ ds := by simpa using hq
      exact (k5 q h1.2).trans (World.putObj_heap_other h1.1)
end Go.Proofs.YtanaeindldcapaaDoor
