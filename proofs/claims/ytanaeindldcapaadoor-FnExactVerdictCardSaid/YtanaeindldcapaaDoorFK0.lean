import Derived.Test.YtanaeindldcapaaDoorNW1
namespace Go.Proofs.YtanaeindldcapaaDoor
open Go.RowKit
/-- What stays as it is. -/
structure FlP where
  w : World
  V : Nat
  n : Nat
  c : Nat
  Kw : Nat
  K2 : Nat
  a : Option Addr
  xs : List Blk
  Gi : Nat
  LB : Nat
  Go : Nat
  DB : Nat
  Gd : Nat
  Gn : Nat
  bS : Nat
  gS : Nat
  sA : Nat
  s3 : Nat
  M : Nat
  go : Nat → Nat
  gd : Nat → Nat
  WO : Nat → Nat → Nat
structure FlD where
  gi : Nat → Nat
  ci : Nat → Nat
  WI : Nat → Nat → Nat
  WD : Nat → Nat → Nat
  nx : Nat → Value
  Ws : Nat → Nat
  vS : Value
  Lf : List Nat
structure FlS (p : FlP) : Prop where
  a1 : p.w.heap.size + 2 ≤ p.Gi ∧ p.Gi < p.sA
  a2 : p.w.heap.size + 2 ≤ p.LB ∧ p.LB < p.sA
  a3 : p.w.heap.size + 2 ≤ p.Go ∧ p.Go < p.sA
  a4 : ∀ i, i < p.n → p.w.heap.size + 2 ≤ p.go i ∧ p.go i < p.sA
  d1 : p.Gi ≠ p.LB
  d2 : p.Gi ≠ p.Go
  d3 : p.LB ≠ p.Go
  d4 : ∀ i, i < p.n → p.go i ≠ p.Gi ∧ p.go i ≠ p.LB
  a5 : p.sA ≤ p.Gd ∧ p.Gd < p.s3
  a6 : ∀ i, i < p.n → p.sA ≤ p.gd i ∧ p.gd i < p.s3
  a7 : p.DB = p.s3
  a8 : p.Gn = p.s3 + 1
  a9 : p.s3 + 2 ≤ p.bS ∧ p.bS < p.M
  a10 : p.s3 + 2 ≤ p.gS ∧ p.gS < p.M
  a11 : p.bS ≠ p.gS
def tgI (xs : List Blk) (i : Nat) : List Int := (xs[i]?).elim [] fun x => x.term.targets
theorem tgI_at {xs : List Blk} {i : Nat} (h : i < xs.length) : tgI xs i = xs[i].term.targets := by simp [tgI, h]
structure FlK (p : FlP) (W : World) (k : Nat) (d : FlD) : Prop where
  low : Below p.w.heap.size p.w W
  sz : p.M ≤ W.heap.size
  f0 : W.cell? ⟨p.w.heap.size, 0, none⟩ = some (.int .i64 (p.V : Int))
  f1 : W.cell? ⟨p.w.heap.size, 1, none⟩ = some (.slice p.a p.n p.c)
  r0 : W.cell? ⟨p.w.heap.size + 1, 0, none⟩ = some (.slice none 0 0)
  r1 : W.cell? ⟨p.w.heap.size + 1, 1, none⟩ = some (.slice none 0 0)
  rz : ∀ q, W.frozen? ⟨p.w.heap.size + 1, q, none⟩ = false
  l0 : W.cell? ⟨p.LB, 0, none⟩ = some (.slice (some ⟨p.Gi, 0, none⟩) p.n p.n)
  l1 : W.cell? ⟨p.LB, 1, none⟩ = some (.slice (some ⟨p.Go, 0, none⟩) p.n p.n)
  d0 : W.cell? ⟨p.DB, 0, none⟩ = some (.slice (some ⟨p.Gd, 0, none⟩) p.n p.n)
  out : SetsAv W p.Go p.n p.Kw p.go (fun _ => p.Kw) p.WO
  inr : W.rowIs p.Gi 46 p.n (fun i => if i < k then .slice (some ⟨d.gi i, 0, none⟩) p.Kw (d.ci i) else .slice none 0 0)
  ins : ∀ i, i < k → WsAt W (d.gi i) p.Kw (d.ci i) (d.WI i)
  inj : ∀ i j, i < k → j < k → d.gi i = d.gi j → i = j
  igM : ∀ i, i < k → p.M ≤ d.gi i
  defs : SetsAv W p.Gd p.n p.Kw p.gd (fun _ => p.Kw) d.WD
  nxr : W.rowIs p.Gn 35 p.n (fun i => if i < k then d.nx i else .slice none 0 0)
  nxs : ∀ i, i < k → ∃ a' c', d.nx i = .slice a' (tgI p.xs i).length c' ∧ IntsP W (fun b => p.M ≤ b ∧ (∀ j, j < k → b ≠ d.gi j) ∧ some b ≠ d.vS.ownBlock) a' (tgI p.xs i)
  sea : SeaAt W p.bS p.gS p.M p.K2 p.a p.n p.c d.Ws d.vS d.Lf
  giv : ∀ i, i < k → some (d.gi i) ≠ d.vS.ownBlock
def updN {α : Type} (f : Nat → α) (k : Nat) (v : α) : Nat → α := fun i => if i = k then v else f i
theorem updN_at {α : Type} (f : Nat → α) (k : Nat) (v : α) : updN f k v k = v := by simp [updN]
theorem updN_ne {α : Type} (f : Nat → α) (k : Nat) (v : α) {i : Nat} (h : i ≠ k) : updN f k v i = f i := by simp [updN, h]
theorem FlK.next {p : FlP} {W W' : World} {k : Nat} {d : FlD} (h : FlK p W k d) (s : FlS p) (hk : k < p.n) {gB CB : Nat} {I' D' : Nat → Nat} {nk v' : Value} {Ws' : Nat → Nat} {Lf' : List Nat}
    (hos : W'.os = W.os) (htp : W'.tape = W.tape) (hop : W'.output = W.output) (hsz : W.heap.size ≤ W'.heap.size)
    (fr : ∀ q, q < W.heap.size → q ≠ p.Gi → q ≠ p.gd k → q ≠ p.Gn → q ≠ p.bS → q ≠ p.gS → some q ≠ d.vS.ownBlock → W'.heap[q]? = W.heap[q]?)
    (hgB : W.heap.size ≤ gB) (hI : WsAt W' gB p.Kw CB I') (hGi : W'.rowIs p.Gi 46 p.n (fun i => if i = k then .slice (some ⟨gB, 0, none⟩) p.Kw CB else if i < k then .slice (some ⟨d.gi i, 0, none⟩) p.Kw (d.ci i) else .slice none 0 0))
    (hD : WsAt W' (p.gd k) p.Kw p.Kw D') (hGn : W'.rowIs p.Gn 35 p.n (fun i => if i = k then nk else if i < k then d.nx i else .slice none 0 0))
    (hnk : ∃ a' c', nk = .slice a' (tgI p.xs k).length c' ∧ IntsP W' (fun b => W.heap.size ≤ b ∧ b ≠ gB ∧ some b ≠ v'.ownBlock) a' (tgI p.xs k))
    (hs : SeaAt W' p.bS p.gS p.M p.K2 p.a p.n p.c Ws' v' Lf') (hv : v'.ownBlock = d.vS.ownBlock ∨ ∀ q, v'.ownBlock = some q → W.heap.size ≤ q) (hvB : some gB ≠ v'.ownBlock) :
    FlK p W' (k + 1) ⟨updN d.gi k gB, updN d.ci k CB, updN d.WI k I', updN d.WD k D', updN d.nx k nk, Ws', v', Lf'⟩ := by
  have hvM : ∀ q, d.vS.ownBlock = some q → p.M ≤ q := fun q e => (h.sea.own.lt q e).1
  have hM := s.a9
  have hM2 := s.a10
  have hG := s.a5
  have hz := h.sz
  have hw := h.low.size
  have h7 := s.a7
  have h8 := s.a8
  have hgk := s.a6 k hk
  have lowb : ∀ q, q < p.M → q ≠ p.Gi → q ≠ p.gd k → q ≠ p.Gn → q ≠ p.bS → q ≠ p.gS → W'.heap[q]? = W.heap[q]? := fun q h1 h2 h3 h4 h5 h6 => fr q (by omega) h2 h3 h4 h5 h6 (fun e => by have := hvM q e.symm; omega)
  have a1 := s.a1
  have a2 := s.a2
  have a3 := s.a3
  have cA : ∀ q o v, q < p.sA → q ≠ p.Gi → W.cell? ⟨q, o, none⟩ = some v → W'.cell? ⟨q, o, none⟩ = some v := fun q o v h1 h2 hc => (cell_of (lowb q (by omega) h2 (by omega) (by omega) (by omega) (by omega))).trans hc
  have up : ∀ q, p.M ≤ q → q < W.heap.size → some q ≠ d.vS.ownBlock → W'.heap[q]? = W.heap[q]? := fun q h1 h2 h3 => fr q h2 (by omega) (by omega) (by omega) (by omega) (by omega) h3
  refine ⟨⟨hos.trans h.low.os, htp.trans h.low.tape, hop.trans h.low.output, Nat.le_trans hw hsz, fun q hq => (lowb q (by omega) (by omega) (by omega) (by omega) (by omega) (by omega)).trans (h.low.block q hq)⟩, Nat.le_trans hz hsz, cA _ _ _ (by omega) (by omega) h.f0, cA _ _ _ (by omega) (by omega) h.f1, cA _ _ _ (by omega) (by omega) h.r0, cA _ _ _ (by omega) (by omega) h.r1, fun q => ?rz, cA _ _ _ a2.2 (fun e => s.d1 e.symm) h.l0, cA _ _ _ a2.2 (fun e => s.d1 e.symm) h.l1, (cell_of (lowb p.DB (by omega) (by omega) (by omega) (by omega) (by omega) (by omega))).trans h.d0, ?out, ?inr, ?ins, ?inj, ?igM, ?defs, ?nxr, ?nxs, hs, ?giv⟩
  case rz => rw [World.frozen?_of_block (a := ⟨p.w.heap.size + 1, q, none⟩) (lowb (p.w.heap.size + 1) (by omega) (by omega) (by omega) (by omega) (by omega) (by omega))]; exact h.rz q
  case out =>
    refine ⟨h.out.row.of_block (lowb p.Go (by omega) (fun e => s.d2 e.symm) (by omega) (by omega) (by omega) (by omega)), fun i hi => ?_, h.out.inj, h.out.out⟩
    have := s.a4 i hi
    exact (h.out.set i hi).of_block (lowb _ (by omega) (s.d4 i hi).1 (by omega) (by omega) (by omega) (by omega))
  case inr =>
    refine hGi.congr (fun i _ => ?_)
    by_cases e : i = k
    · rw [if_pos e, if_pos (by omega), e]; simp only [updN_at]
    · rw [if_neg e]
      by_cases e2 : i < k
      · rw [if_pos e2, if_pos (by omega)]; simp only [updN_ne _ _ _ e]
      · rw [if_neg e2, if_neg (by omega)]
  case ins =>
    intro i hi
    by_cases e : i = k
    · subst e; simp only [updN_at]; exact hI
    · have hi2 : i < k := by omega
      simp only [updN_ne _ _ _ e]
      exact (h.ins i hi2).of_block (up _ (h.igM i hi2) (h.ins i hi2).lt (h.giv i hi2))
  case inj =>
    intro i j hi hj e
    by_cases e1 : i = k
    · by_cases e2 : j = k
      · omega
      · simp only [e1, updN_at, updN_ne _ _ _ e2] at e
        have := (h.ins j (by omega)).lt
        omega
    · by_cases e2 : j = k
      · simp only [e2, updN_at, updN_ne _ _ _ e1] at e
        have := (h.ins i (by omega)).lt
        omega
      · simp only [updN_ne _ _ _ e1, updN_ne _ _ _ e2] at e
        exact h.inj i j (by omega) (by omega) e
  case igM =>
    intro i hi
    by_cases e : i = k
    · subst e; simp only [updN_at]; omega
    · simp only [updN_ne _ _ _ e]; exact h.igM i (by omega)
  case defs =>
    refine ⟨h.defs.row.of_block (lowb p.Gd (by omega) (by omega) (fun e => h.defs.out k hk e.symm) (by omega) (by omega) (by omega)), fun i hi => ?_, h.defs.inj, h.defs.out⟩
    by_cases e : i = k
    · subst e; simp only [updN_at]; exact hD
    · simp only [updN_ne _ _ _ e]
      have := s.a6 i hi
      exact (h.defs.set i hi).of_block (lowb _ (by omega) (by omega) (fun e2 => e (h.defs.inj i k hi hk e2)) (by omega) (by omega) (by omega))
  case nxr =>
    refine hGn.congr (fun i _ => ?_)
    by_cases e : i = k
    · rw [if_pos e, if_pos (by omega), e]; simp only [updN_at]
    · rw [if_neg e]
      by_cases e2 : i < k
      · rw [if_pos e2, if_pos (by omega)]; simp only [updN_ne _ _ _ e]
      · rw [if_neg e2, if_neg (by omega)]
  case nxs =>
    intro i hi
    by_cases e : i = k
    · subst e
      simp only [updN_at]
      obtain ⟨a', c', e1, h1⟩ := hnk
      refine ⟨a', c', e1, fun q hq => ?_⟩
      obtain ⟨b, o, e2, hb, hc⟩ := h1 q hq
      refine ⟨b, o, e2, ⟨⟨by omega, fun j hj => ?_, hb.1.2.2⟩, hb.2⟩, hc⟩
      by_cases ej : j = i
      · rw [ej]; simp only [updN_at]; exact hb.1.2.1
      · simp only [updN_ne _ _ _ ej]
        have := (h.ins j (by omega)).lt
        omega
    · have hi2 : i < k := by omega
      simp only [updN_ne _ _ _ e]
      obtain ⟨a', c', e1, h1⟩ := h.nxs i hi2
      refine ⟨a', c', e1, fun q hq => ?_⟩
      obtain ⟨b, o, e2, hb, hc⟩ := h1 q hq
      refine ⟨b, o, e2, ⟨⟨hb.1.1, fun j hj => ?_, fun ev => ?_⟩, by omega⟩, (cell_of (up b hb.1.1 hb.2 hb.1.2.2)).trans hc⟩
      · by_cases ej : j = k
        · rw [ej]; simp only [updN_at]; omega
        · simp only [updN_ne _ _ _ ej]
          exact hb.1.2.1 j (by omega)
      · rcases hv with hv | hv
        · rw [hv] at ev; exact hb.1.2.2 ev
        · have := hv b ev.symm; omega
  case giv =>
    intro i hi
    by_cases e : i = k
    · subst e; simp only [updN_at]; exact hvB
    · have hi2 : i < k := by omega
      simp only [updN_ne _ _ _ e]
      intro ev
      rcases hv with hv | hv
      · rw [hv] at ev; exact h.giv i hi2 ev
      · have := hv _ ev.symm; have := (h.ins i hi2).lt; omega
/-- What the search has left when it has come back. -/
theorem left_of (tg : Nat → List Nat) : ∀ (m b : Nat) (s : (Nat → Nat) × List Nat) (P : List Nat), (∀ x, hasN s.1 x = true → x ∈ s.2 ∨ x ∈ P) → ∀ x, hasN (dfsV tg m b s).1 x = true → x ∈ (dfsV tg m b s).2 ∨ x ∈ P
  | 0, _, _, _, h => h
  | m + 1, b, s, P, h => by
    by_cases hs : hasN s.1 b = true
    · rw [dfs_stop hs]; exact h
    · have hs' : hasN s.1 b = false := by simpa using hs
      have hf : ∀ (l : List Nat) (s' : (Nat → Nat) × List Nat), (∀ x, hasN s'.1 x = true → x ∈ s'.2 ∨ x ∈ b :: P) → ∀ x, hasN (l.foldl (fun s t => dfsV tg m t s) s').1 x = true → x ∈ (l.foldl (fun s t => dfsV tg m t s) s').2 ∨ x ∈ b :: P := by
        intro l
        induction l with
        | nil => exact fun _ h => h
        | cons t l ih => exact fun s' h' => ih _ (left_of tg m t s' (b :: P) h')
      rw [dfs_go hs']
      intro x hx
      rcases hf (tg b) (addN s.1 b, s.2) (fun y hy => by
        rw [has_add, Bool.or_eq_true, decide_eq_true_eq] at hy
        rcases hy with rfl | hy
        · exact Or.inr (by simp)
        · rcases h y hy with h1 | h1
          · exact Or.inl h1
          · exact Or.inr (by simp [h1])) x hx with h1 | h1
      · exact Or.inl (by simp [h1])
      · rcases List.mem_cons.1 h1 with rfl | h1
        · exact Or.inl (by simp)
        · exact Or.inr h1
theorem left_lt (tg : Nat → List Nat) {n : Nat} (ht : ∀ b, b < n → ∀ t ∈ tg b, t < n) : ∀ (m b : Nat) (s : (Nat → Nat) × List Nat), b < n → (∀ x ∈ s.2, x < n) → ∀ x ∈ (dfsV tg m b s).2, x < n
  | 0, _, _, _, h => h
  | m + 1, b, s, hb, h => by
    by_cases hs : hasN s.1 b = true
    · rw [dfs_stop hs]; exact h
    · have hs' : hasN s.1 b = false := by simpa using hs
      have hf : ∀ (l : List Nat) (s' : (Nat → Nat) × List Nat), (∀ t ∈ l, t < n) → (∀ x ∈ s'.2, x < n) → ∀ x ∈ (l.foldl (fun s t => dfsV tg m t s) s').2, x < n := by
        intro l
        induction l with
        | nil => exact fun _ _ h => h
        | cons t l ih => exact fun s' hl h' => ih _ (fun q hq => hl q (by simp [hq])) (left_lt tg ht m t s' (hl t (by simp)) h')
      rw [dfs_go hs']
      intro x hx
      rcases List.mem_append.1 hx with hx | hx
      · exact hf (tg b) (addN s.1 b, s.2) (ht b hb) h x hx
      · have : x = b := by simpa using hx
        omega
theorem seen_after (tg : Nat → List Nat) {n m b : Nat} {s : (Nat → Nat) × List Nat} (hb : b < n) (hm : unseen s.1 n ≤ m) : hasN (dfsV tg m b s).1 b = true := by
  cases m with
  | zero => exact dfs_mono tg 0 b s b (unseen_zero (by omega) hb)
  | succ m =>
    by_cases hs : hasN s.1 b = true
    · exact dfs_mono tg _ b s b hs
    · have hs' : hasN s.1 b = false := by simpa using hs
      rw [dfs_go hs']
      exact fold_mono tg m _ _ b (by rw [has_add]; simp)
/-- A block alone, from its end on. -/
def stepI (W : Nat → Nat) (q : Nat × List Int × List Int) : Nat → Nat := addsN (delsN W (natL q.2.2)) (natL q.2.1)
def stepD (W : Nat → Nat) (q : Nat × List Int × List Int) : Nat → Nat := addsN W (natL q.2.2)
def inW (x : Blk) (W : Nat → Nat) : Nat → Nat := (plL x).foldl stepI W
def dfW (x : Blk) : Nat → Nat := (plL x).foldl stepD (fun _ => 0)
theorem inW_wd (x : Blk) {W : Nat → Nat} (h : WdOk W) : WdOk (inW x W) := by
  unfold inW
  generalize plL x = l
  induction l generalizing W with
  | nil => exact h
  | cons q l ih => exact ih (adds_wd _ (dels_wd _ h))
theorem wd_zero : WdOk (fun _ => 0) := fun _ => by show 0 < _; decide
theorem foldD_wd (l : List (Nat × List Int × List Int)) {W : Nat → Nat} (h : WdOk W) : WdOk (l.foldl stepD W) := by
  induction l generalizing W with
  | nil => exact h
  | cons q l ih => exact ih (adds_wd _ h)
theorem dfW_wd (x : Blk) : WdOk (dfW x) := foldD_wd _ wd_zero
structure FlQ (p : FlP) (k : Nat) (d : FlD) : Prop where
  wi : ∀ i (h : i < p.xs.length), i < k → d.WI i = inW p.xs[i] (p.WO i)
  wd : ∀ i (h : i < p.xs.length), d.WD i = if i < k then dfW p.xs[i] else fun _ => 0
  mem : ∀ x, hasN d.Ws x = true → x ∈ d.Lf
  sn : ∀ i, i < k → hasN d.Ws i = true
  lt : ∀ x ∈ d.Lf, x < p.n
  wok : WdOk d.Ws
  len : d.Lf.length + unseen d.Ws p.n ≤ p.n
theorem flQ_start (p : FlP) : FlQ p 0 ⟨fun _ => 0, fun _ => 0, fun _ _ => 0, fun _ _ => 0, fun _ => .slice none 0 0, fun _ => 0, .slice none 0 0, []⟩ :=
  ⟨fun i _ h => absurd h (by omega), fun i _ => by simp, fun x h => by simp [has_none] at h, fun i h => absurd h (by omega), fun x h => absurd h List.not_mem_nil, wd_zero, by simpa using unseen_le (fun _ => 0) p.n⟩
theorem FlQ.next {p : FlP} {k : Nat} {d : FlD} (h : FlQ p k d) (hk : k < p.n) (ht : ∀ b, b < p.n → ∀ t ∈ tgN p.xs b, t < p.n) (gi ci : Nat → Nat) (nx : Nat → Value) (v : Value) {I' D' : Nat → Nat} (hkx : k < p.xs.length) (hI : I' = inW p.xs[k] (p.WO k)) (hD : D' = dfW p.xs[k]) :
    FlQ p (k + 1) ⟨gi, ci, updN d.WI k I', updN d.WD k D', nx, (dfsV (tgN p.xs) p.n k (d.Ws, d.Lf)).1, v, (dfsV (tgN p.xs) p.n k (d.Ws, d.Lf)).2⟩ := by
  refine ⟨fun i hi hik => ?_, fun i hi => ?_, fun x hx => ?_, fun i hi => ?_, ?_, dfs_wd _ _ _ _ h.wok, Nat.le_trans (dfs_len _ _ ht _ _ _ hk) h.len⟩
  · by_cases e : i = k
    · subst e; simp only [updN_at]; exact hI
    · simp only [updN_ne _ _ _ e]; exact h.wi i hi (by omega)
  · by_cases e : i = k
    · subst e; simp only [updN_at]; rw [if_pos (by omega)]; exact hD
    · simp only [updN_ne _ _ _ e]
      rw [h.wd i hi]
      by_cases e2 : i < k
      · rw [if_pos e2, if_pos (by omega)]
      · rw [if_neg e2, if_neg (by omega)]
  · rcases left_of (tgN p.xs) p.n k (d.Ws, d.Lf) [] (fun y hy => Or.inl (h.mem y hy)) x hx with h1 | h1
    · exact h1
    · cases h1
  · by_cases e : i = k
    · subst e; exact seen_after _ hk (unseen_le _ _)
    · exact dfs_mono _ _ _ _ _ (h.sn i (by omega))
  · exact left_lt _ ht _ _ _ hk h.lt
end Go.Proofs.YtanaeindldcapaaDoor
