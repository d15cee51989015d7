import Derived.Test.YtjfcbjomfbfoiaaGreatDoorNV1
namespace Go.Proofs.YtjfcbjomfbfoiaaGreatDoor
open Go.RowKit
/-- What stays as it is. -/
structure FlP where
  w : World
  V : Nat
  n : Nat
  c : Nat
  Kw : Nat
  K2 : Nat
  a : Option Addr
  xs : List Blk
  Gi : Nat
  LB : Nat
  Go : Nat
  DB : Nat
  Gd : Nat
  Gn : Nat
  bS : Nat
  gS : Nat
  sA : Nat
  s3 : Nat
  M : Nat
  go : Nat → Nat
  gd : Nat → Nat
  WO : Nat → Nat → Nat
structure FlD where
  gi : Nat → Nat
  ci : Nat → Nat
  WI : Nat → Nat → Nat
  WD : Nat → Nat → Nat
  nx : Nat → Value
  Ws : Nat → Nat
  vS : Value
  Lf : List Nat
structure FlS (p : FlP) : Prop where
  a1 : p.w.heap.size + 2 ≤ p.Gi ∧ p.Gi < p.sA
  a2 : p.w.heap.size + 2 ≤ p.LB ∧ p.LB < p.sA
  a3 : p.w.heap.size + 2 ≤ p.Go ∧ p.Go < p.sA
  a4 : ∀ i, i < p.n → p.w.heap.size + 2 ≤ p.go i ∧ p.go i < p.sA
  d1 : p.Gi ≠ p.LB
  d2 : p.Gi ≠ p.Go
  d3 : p.LB ≠ p.Go
  d4 : ∀ i, i < p.n → p.go i ≠ p.Gi ∧ p.go i ≠ p.LB
  a5 : p.sA ≤ p.Gd ∧ p.Gd < p.s3
  a6 : ∀ i, i < p.n → p.sA ≤ p.gd i ∧ p.gd i < p.s3
  a7 : p.DB = p.s3
  a8 : p.Gn = p.s3 + 1
  a9 : p.s3 + 2 ≤ p.bS ∧ p.bS < p.M
  a10 : p.s3 + 2 ≤ p.gS ∧ p.gS < p.M
  a11 : p.bS ≠ p.gS
def tgI (xs : List Blk) (i : Nat) : List Int := (xs[i]?).elim [] fun x => x.term.targets
theorem tgI_at {xs : List Blk} {i : Nat} (h : i < xs.length) : tgI xs i = xs[i].term.targets := by simp [tgI, h]
structure FlK (p : FlP) (W : World) (k : Nat) (d : FlD) : Prop where
  low : Below p.w.heap.size p.w W
  sz : p.M ≤ W.heap.size
  f0 : W.cell? ⟨p.w.heap.size, 0, none⟩ = some (.int .i64 (p.V : Int))
  f1 : W.cell? ⟨p.w.heap.size, 1, none⟩ = some (.slice p.a p.n p.c)
  r0 : W.cell? ⟨p.w.heap.size + 1, 0, none⟩ = some (.slice none 0 0)
  r1 : W.cell? ⟨p.w.heap.size + 1, 1, none⟩ = some (.slice none 0 0)
  rz : ∀ q, W.frozen? ⟨p.w.heap.size + 1, q, none⟩ = false
  l0 : W.cell? ⟨p.LB, 0, none⟩ = some (.slice (some ⟨p.Gi, 0, none⟩) p.n p.n)
  l1 : W.cell? ⟨p.LB, 1, none⟩ = some (.slice (some ⟨p.Go, 0, none⟩) p.n p.n)
  d0 : W.cell? ⟨p.DB, 0, none⟩ = some (.slice (some ⟨p.Gd, 0, none⟩) p.n p.n)
  out : SetsAv W p.Go p.n p.Kw p.go (fun _ => p.Kw) p.WO
  inr : W.rowIs p.Gi 65 p.n (fun i => if i < k then .slice (some ⟨d.gi i, 0, none⟩) p.Kw (d.ci i) else .slice none 0 0)
  ins : ∀ i, i < k → WsAt W (d.gi i) p.Kw (d.ci i) (d.WI i)
  inj : ∀ i j, i < k → j < k → d.gi i = d.gi j → i = j
  igM : ∀ i, i < k → p.M ≤ d.gi i
  defs : SetsAv W p.Gd p.n p.Kw p.gd (fun _ => p.Kw) d.WD
  nxr : W.rowIs p.Gn 52 p.n (fun i => if i < k then d.nx i else .slice none 0 0)
  nxs : ∀ i, i < k → ∃ a' c', d.nx i = .slice a' (tgI p.xs i).length c' ∧ IntsP W (fun b => p.M ≤ b ∧ (∀ j, j < k → b ≠ d.gi j) ∧ some b ≠ d.vS.ownBlock) a' (tgI p.xs i)
  sea : SeaAt W p.bS p.gS p.M p.K2 p.a p.n p.c d.Ws d.vS d.Lf
  giv : ∀ i, i < k → some (d.gi i) ≠ d.vS.ownBlock
def updN {α : Type} (f : Nat → α) (k : Nat) (v : α) : Nat → α := fun i => if i = k then v else f i
theorem updN_at {α : Type} (f : Nat → α) (k : Nat) (v : α) : updN f k v k = v := by simp [updN]
theorem updN_ne {α : Type} (f : Nat → α) (k : Nat) (v : α) {i : Nat} (h : i ≠ k) : updN f k v i = f i := by simp [updN, h]
theorem FlK.next {p : FlP} {W W' : World} {k : Nat} {d : FlD} (h : FlK p W k d) (s : FlS p) (hk : k < p.n) {gB CB : Nat} {I' D' : Nat → Nat} {nk v' : Value} {Ws' : Nat → Nat} {Lf' : List Nat}
    (hos : W'.os = W.os) (htp : W'.tape = W.tape) (hop : W'.output = W.output) (hsz : W.heap.size ≤ W'.heap.size)
    (fr : ∀ q, q < W.heap.size → q ≠ p.Gi → q ≠ p.gd k → q ≠ p.Gn → q ≠ p.bS → q ≠ p.gS → some q ≠ d.vS.ownBlock → W'.heap[q]? = W.heap[q]?)
    (hgB : W.heap.size ≤ gB) (hI : WsAt W' gB p.Kw CB I') (hGi : W'.rowIs p.Gi 65 p.n (fun i => if i = k then .slice (some ⟨gB, 0, none⟩) p.Kw CB else if i < k then .slice (some ⟨d.gi i, 0, none⟩) p.Kw (d.ci i) else .slice none 0 0))
    (hD : WsAt W' (p.gd k) p.Kw p.Kw D') (hGn : W'.rowIs p.Gn 52 p.n (fun i => if i = k then nk else if i < k then d.nx i else .slice none 0 0))
    (hnk : ∃ a' c', nk = .slice a' (tgI p.xs k).length c' ∧ IntsP W' (fun b => W.heap.size ≤ b ∧ b ≠ gB ∧ some b ≠ v'.ownBlock) a' (tgI p.xs k))
    (hs : SeaAt W' p.bS p.gS p.M p.K2 p.a p.n p.c Ws' v' Lf') (hv : v'.ownBlock = d.vS.ownBlock ∨ ∀ q, v'.ownBlock = some q → W.heap.size ≤ q) (hvB : some gB ≠ v'.ownBlock) :
    FlK p W' (k + 1) ⟨updN d.gi k gB, updN d.ci k CB, updN d.WI k I', updN d.WD k D', updN d.nx k nk, Ws', v', Lf'⟩ := by
  have hvM : ∀ q, d.vS.ownBlock = some q → p.M ≤ q := fun q e => (h.sea.own.lt q e).1
  have hM := s.a9
  have hM2 := s.a10
  have hG := s.a5
  have hz := h.sz
  have hw := h.low.size
  have h7 := s.a7
  have h8 := s.a8
  have hgk := s.a6 k hk
  have lowb : ∀ q, q < p.M → q ≠ p.Gi → q ≠ p.gd k → q ≠ p.Gn → q ≠ p.bS → q ≠ p.gS → W'.heap[q]? = W.heap[q]? := fun q h1 h2 h3 h4 h5 h6 => fr q (by omega) h2 h3 h4 h5 h6 (fun e => by have := hvM q e.symm; omega)
  have a1 := s.a1
  have a2 := s.a2
  have a3 := s.a3
  have cA : ∀ q o v, q < p.sA → q ≠ p.Gi → W.cell? ⟨q, o, none⟩ = some v → W'.cell? ⟨q, o, none⟩ = some v := fun q o v h1 h2 hc => (cell_of (lowb q (by omega) h2 (by omega) (by omega) (by omega) (by omega))).trans hc
  have up : ∀ q, p.M ≤ q → q < W.heap.size → some q ≠ d.vS.ownBlock → W'.heap[q]? = W.heap[q]? := fun q h1 h2 h3 => fr q h2 (by omega) (by omega) (by omega) (by omega) (by omega) h3
  refine ⟨⟨hos.trans h.low.os, htp.trans h.low.tape, hop.trans h.low.output, Nat.le_trans hw hsz, fun q hq => (lowb q (by omega) (by omega) (by omega) (by omega) (by omega) (by omega)).trans (h.low.block q hq)⟩, Nat.le_trans hz hsz, cA _ _ _ (by omega) (by omega) h.f0, cA _ _ _ (by omega) (by omega) h.f1, cA _ _ _ (by omega) (by omega) h.r0, cA _ _ _ (by omega) (by omega) h.r1, fun q => ?rz, cA _ _ _ a2.2 (fun e => s.d1 e.symm) h.l0, cA _ _ _ a2.2 (fun e => s.d1 e.symm) h.l1, (cell_of (lowb p.DB (by omega) (by omega) (by omega) (by omega) (by omega) (by omega))).trans h.d0, ?out, ?inr, ?ins, ?inj, ?igM, ?defs, ?nxr, ?nxs, hs, ?giv⟩
  case rz => rw [World.frozen?_of_block (a := ⟨p.w.heap.size + 1, q, none⟩) (lowb (p.w.heap.size + 1) (by omega) (by omega) (by omega) (by omega) (by omega) (by omega))]; exact h.rz q
  case out =>
    refine ⟨h.out.row.of_block (lowb p.Go (by omega) (fun e => s.d2 e.symm) (by omega) (by omega) (by omega) (by omega)), fun i hi => ?_, h.out.inj, h.out.out⟩
    have := s.a4 i hi
    exact (h.out.set i hi).of_block (lowb _ (by omega) (s.d4 i hi).1 (by omega) (by omega) (by omega) (by omega))
  case inr =>
    refine hGi.congr (fun i _ => ?_)
    by_cases e : i = k
    · rw [if_pos e, if_pos (by omega), e]; simp only [updN_at]
    · rw [if_neg e]
      by_cases e2 : i < k
      · rw [if_pos e2, if_pos (by omega)]; simp only [updN_ne _ _ _ e]
      · rw [if_neg e2, if_neg (by omega)]
  case ins =>
    intro i hi
    by_cases e : i = k
    · subst e; simp only [updN_at]; exact hI
    · have hi2 : i < k := by omega
      simp only [updN_ne _ _ _ e]
      exact (h.ins i hi2).of_block (up _ (h.igM i hi2) (h.ins i hi2).lt (h.giv i hi2))
  case inj =>
    intro i j hi hj e
    by_cases e1 : i = k
    · by_cases e2 : j = k
      · omega
      · simp only [e1, updN_at, updN_ne _ _ _ e2] at e
        have := (h.ins j (by omega)).lt
        omega
    · by_cases e2 : j = k
      · simp only [e2, updN_at, updN_ne _ _ _ e1] at e
        have := (h.ins i (by omega)).lt
        omega
      · simp only [updN_ne _ _ _ e1, updN_ne _ _ _ e2] at e
        exact h.inj i j (by omega) (by omega) e
  case igM =>
    intro i hi
    by_cases e : i = k
    · subst e; simp only [updN_at]; omega
    · simp only [updN_ne _ _ _ e]; exact h.igM i (by omega)
  case defs =>
    refine ⟨h.defs.row.of_block (lowb p.Gd (by omega) (by omega) (fun e => h.defs.out k hk e.symm) (by omega) (by omega) (by omega)), fun i hi => ?_, h.defs.inj, h.defs.out⟩
    by_cases e : i = k
    · subst e; simp only [updN_at]; exact hD
    · simp only [updN_ne _ _ _ e]
      have := s.a6 i hi
      exact (h.defs.set i hi).of_block (lowb _ (by omega) (by omega) (fun e2 => e (h.defs.inj i k hi hk e2)) (by omega) (by omega) (by omega))
  case nxr =>
    refine hGn.congr (fun i _ => ?_)
    by_cases e : i = k
    · rw [if_pos e, if_pos (by omega), e]; simp only [updN_at]
    · rw [if_neg e]
      by_cases e2 : i < k
      · rw [if_pos e2, if_pos (by omega)]; simp only [updN_ne _ _ _ e]
      · rw [if_neg e2, if_neg (by omega)]
  case nxs =>
    intro i hi
    by_cases e : i = k
    · subst e
      simp only [updN_at]
      obtain ⟨a', c', e1, h1⟩ := hnk
      refine ⟨a', c', e1, fun q hq => ?_⟩
      obtain ⟨b, o, e2, hb, hc⟩ := h1 q hq
      refine ⟨b, o, e2, ⟨⟨by omega, fun j hj => ?_, hb.1.2.2⟩, hb.2⟩, hc⟩
      by_cases ej : j = i
      · rw [ej]; simp only [updN_at]; exact hb.1.2.1
      · simp only [updN_ne _ _ _ ej]
        have := (h.ins j (by omega)).lt
        omega
    · have hi2 : i < k := by omega
      simp only [updN_ne _ _ _ e]
      obtain ⟨a', c', e1, h1⟩ := h.nxs i hi2
      refine ⟨a', c', e1, fun q hq => ?_⟩
      obtain ⟨b, o, e2, hb, hc⟩ := h1 q hq
      refine ⟨b, o, e2, ⟨⟨hb.1.1, fun j hj => ?_, fun ev => ?_⟩, by omega⟩, (cell_of (up b hb.1.1 hb.2 hb.1.2.2)).trans hc⟩
      · by_cases ej : j = k
        · rw [ej]; simp only [updN_at]; omega
        · simp only [updN_ne _ _ _ ej]
          exact hb.1.2.1 j (by omega)
      · rcases hv with hv | hv
        · rw [hv] at ev; exact hb.1.2.2 ev
        · have := hv b ev.symm; omega
  case giv =>
    intro i hi
    by_cases e : i = k
    · subst e; simp only [updN_at]; exact hvB
    · have hi2 : i < k := by omega
      simp only [updN_ne _ _ _ e]
      intro ev
      rcases hv with hv | hv
      · rw [hv] at ev; exact h.giv i hi2 ev
      · have := hv _ ev.symm; have := (h.ins i hi2).lt; omega
end Go.Proofs.YtjfcbjomfbfoiaaGreatDoor

namespace Go.Proofs.YtjfcbjomfbfoiaaGreatDoor
open Go.RowKit
/-- What the search has left when it has come back. -/
theorem left_of (tg : Nat → List Nat) : ∀ (m b : Nat) (s : (Nat → Nat) × List Nat) (P : List Nat), (∀ x, hasN s.1 x = true → x ∈ s.2 ∨ x ∈ P) → ∀ x, hasN (dfsV tg m b s).1 x = true → x ∈ (dfsV tg m b s).2 ∨ x ∈ P
  | 0, _, _, _, h => h
  | m + 1, b, s, P, h => by
    by_cases hs : hasN s.1 b = true
    · rw [dfs_stop hs]; exact h
    · have hs' : hasN s.1 b = false := by simpa using hs
      have hf : ∀ (l : List Nat) (s' : (Nat → Nat) × List Nat), (∀ x, hasN s'.1 x = true → x ∈ s'.2 ∨ x ∈ b :: P) → ∀ x, hasN (l.foldl (fun s t => dfsV tg m t s) s').1 x = true → x ∈ (l.foldl (fun s t => dfsV tg m t s) s').2 ∨ x ∈ b :: P := by
        intro l
        induction l with
        | nil => exact fun _ h => h
        | cons t l ih => exact fun s' h' => ih _ (left_of tg m t s' (b :: P) h')
      rw [dfs_go hs']
      intro x hx
      rcases hf (tg b) (addN s.1 b, s.2) (fun y hy => by
        rw [has_add, Bool.or_eq_true, decide_eq_true_eq] at hy
        rcases hy with rfl | hy
        · exact Or.inr (by simp)
        · rcases h y hy with h1 | h1
          · exact Or.inl h1
          · exact Or.inr (by simp [h1])) x hx with h1 | h1
      · exact Or.inl (by simp [h1])
      · rcases List.mem_cons.1 h1 with rfl | h1
        · exact Or.inl (by simp)
        · exact Or.inr h1
theorem left_lt (tg : Nat → List Nat) {n : Nat} (ht : ∀ b, b < n → ∀ t ∈ tg b, t < n) : ∀ (m b : Nat) (s : (Nat → Nat) × List Nat), b < n → (∀ x ∈ s.2, x < n) → ∀ x ∈ (dfsV tg m b s).2, x < n
  | 0, _, _, _, h => h
  | m + 1, b, s, hb, h => by
    by_cases hs : hasN s.1 b = true
    · rw [dfs_stop hs]; exact h
    · have hs' : hasN s.1 b = false := by simpa using hs
      have hf : ∀ (l : List Nat) (s' : (Nat → Nat) × List Nat), (∀ t ∈ l, t < n) → (∀ x ∈ s'.2, x < n) → ∀ x ∈ (l.foldl (fun s t => dfsV tg m t s) s').2, x < n := by
        intro l
        induction l with
        | nil => exact fun _ _ h => h
        | cons t l ih => exact fun s' hl h' => ih _ (fun q hq => hl q (by simp [hq])) (left_lt tg ht m t s' (hl t (by simp)) h')
      rw [dfs_go hs']
      intro x hx
      rcases List.mem_append.1 hx with hx | hx
      · exact hf (tg b) (addN s.1 b, s.2) (ht b hb) h x hx
      · have : x = b := by simpa using hx
        omega
theorem seen_after (tg : Nat → List Nat) {n m b : Nat} {s : (Nat → Nat) × List Nat} (hb : b < n) (hm : unseen s.1 n ≤ m) : hasN (dfsV tg m b s).1 b = true := by
  cases m with
  | zero => exact dfs_mono tg 0 b s b (unseen_zero (by omega) hb)
  | succ m =>
    by_cases hs : hasN s.1 b = true
    · exact dfs_mono tg _ b s b hs
    · have hs' : hasN s.1 b = false := by simpa using hs
      rw [dfs_go hs']
      exact fold_mono tg m _ _ b (by rw [has_add]; simp)
/-- A block alone, from its end on. -/
def stepI (W : Nat → Nat) (q : Nat × List Int × List Int) : Nat → Nat := addsN (delsN W (natL q.2.2)) (natL q.2.1)
def stepD (W : Nat → Nat) (q : Nat × List Int × List Int) : Nat → Nat := addsN W (natL q.2.2)
def inW (x : Blk) (W : Nat → Nat) : Nat → Nat := (plL x).foldl stepI W
def dfW (x : Blk) : Nat → Nat := (plL x).foldl stepD (fun _ => 0)
theorem inW_wd (x : Blk) {W : Nat → Nat} (h : WdOk W) : WdOk (inW x W) := by
  unfold inW
  generalize plL x = l
  induction l generalizing W with
  | nil => exact h
  | cons q l ih => exact ih (adds_wd _ (dels_wd _ h))
theorem wd_zero : WdOk (fun _ => 0) := fun _ => by show 0 < _; decide
theorem foldD_wd (l : List (Nat × List Int × List Int)) {W : Nat → Nat} (h : WdOk W) : WdOk (l.foldl stepD W) := by
  induction l generalizing W with
  | nil => exact h
  | cons q l ih => exact ih (adds_wd _ h)
theorem dfW_wd (x : Blk) : WdOk (dfW x) := foldD_wd _ wd_zero
structure FlQ (p : FlP) (k : Nat) (d : FlD) : Prop where
  wi : ∀ i (h : i < p.xs.length), i < k → d.WI i = inW p.xs[i] (p.WO i)
  wd : ∀ i (h : i < p.xs.length), d.WD i = if i < k then dfW p.xs[i] else fun _ => 0
  mem : ∀ x, hasN d.Ws x = true → x ∈ d.Lf
  sn : ∀ i, i < k → hasN d.Ws i = true
  lt : ∀ x ∈ d.Lf, x < p.n
  wok : WdOk d.Ws
  len : d.Lf.length + unseen d.Ws p.n ≤ p.n
theorem flQ_start (p : FlP) : FlQ p 0 ⟨fun _ => 0, fun _ => 0, fun _ _ => 0, fun _ _ => 0, fun _ => .slice none 0 0, fun _ => 0, .slice none 0 0, []⟩ :=
  ⟨fun i _ h => absurd h (by omega), fun i _ => by simp, fun x h => by simp [has_none] at h, fun i h => absurd h (by omega), fun x h => absurd h List.not_mem_nil, wd_zero, by simpa using unseen_le (fun _ => 0) p.n⟩
theorem FlQ.next {p : FlP} {k : Nat} {d : FlD} (h : FlQ p k d) (hk : k < p.n) (ht : ∀ b, b < p.n → ∀ t ∈ tgN p.xs b, t < p.n) (gi ci : Nat → Nat) (nx : Nat → Value) (v : Value) {I' D' : Nat → Nat} (hkx : k < p.xs.length) (hI : I' = inW p.xs[k] (p.WO k)) (hD : D' = dfW p.xs[k]) :
    FlQ p (k + 1) ⟨gi, ci, updN d.WI k I', updN d.WD k D', nx, (dfsV (tgN p.xs) p.n k (d.Ws, d.Lf)).1, v, (dfsV (tgN p.xs) p.n k (d.Ws, d.Lf)).2⟩ := by
  refine ⟨fun i hi hik => ?_, fun i hi => ?_, fun x hx => ?_, fun i hi => ?_, ?_, dfs_wd _ _ _ _ h.wok, Nat.le_trans (dfs_len _ _ ht _ _ _ hk) h.len⟩
  · by_cases e : i = k
    · subst e; simp only [updN_at]; exact hI
    · simp only [updN_ne _ _ _ e]; exact h.wi i hi (by omega)
  · by_cases e : i = k
    · subst e; simp only [updN_at]; rw [if_pos (by omega)]; exact hD
    · simp only [updN_ne _ _ _ e]
      rw [h.wd i hi]
      by_cases e2 : i < k
      · rw [if_pos e2, if_pos (by omega)]
      · rw [if_neg e2, if_neg (by omega)]
  · rcases left_of (tgN p.xs) p.n k (d.Ws, d.Lf) [] (fun y hy => Or.inl (h.mem y hy)) x hx with h1 | h1
    · exact h1
    · cases h1
  · by_cases e : i = k
    · subst e; exact seen_after _ hk (unseen_le _ _)
    · exact dfs_mono _ _ _ _ _ (h.sn i (by omega))
  · exact left_lt _ ht _ _ _ hk h.lt
end Go.Proofs.YtjfcbjomfbfoiaaGreatDoor

namespace Go.Proofs.YtjfcbjomfbfoiaaGreatDoor
def defI (y : Ins) : Int := if dB y.op then y.dst else -1
/-- What is met of v along instructions, at the end fin: 1 a read, 2 a definition, 0 neither. -/
def bareF (v : Int) (fin : Bool) : List Ins → Nat
  | [] => if fin then 1 else 0
  | y :: ys => if hasI (rdI y) v then 1 else if defI y = v then 2 else bareF v fin ys
def bareM (x : Blk) (E : List Int) (v : Int) : Nat := bareF v (hasI (rdT x.term) v || hasI E v) x.instrs
def stepY (W : Nat → Nat) (y : Ins) : Nat → Nat := addsN (delsN W (natL (writesI y))) (natL (rdI y))
theorem hasI_iff {l : List Int} {v : Int} : hasI l v = true ↔ v ∈ l := by unfold hasI; exact List.contains_iff_mem
theorem has_stepY {W : Nat → Nat} {y : Ins} (h1 : ∀ v ∈ rdI y, 0 ≤ v) (h2 : ∀ v ∈ writesI y, 0 ≤ v) (v : Nat) : hasN (stepY W y) v = true ↔ (v : Int) ∈ rdI y ∨ ((v : Int) ∉ writesI y ∧ hasN W v = true) := by
  unfold stepY
  rw [has_adds, has_dels, Bool.or_eq_true, decide_eq_true_eq, mem_natL h1, Bool.and_eq_true, decide_eq_true_eq, mem_natL h2]
theorem def_writes {y : Ins} {v : Nat} : defI y = (v : Int) ↔ (v : Int) ∈ writesI y := by
  unfold defI writesI
  by_cases e : dB y.op = true
  · rw [if_pos e, if_pos e]; simp [eq_comm]
  · rw [if_neg e, if_neg e]; simp
theorem foldY {v : Nat} {W : Nat → Nat} : ∀ (ys : List Ins), (∀ y ∈ ys, (∀ v ∈ rdI y, 0 ≤ v) ∧ ∀ v ∈ writesI y, 0 ≤ v) → (hasN (ys.foldr (fun y acc => stepY acc y) W) v = true ↔ bareF (v : Int) (hasN W v) ys = 1)
  | [], _ => by
    unfold bareF
    cases h : hasN W v <;> simp [h]
  | y :: ys, hy => by
    have ih := foldY (v := v) (W := W) ys (fun z hz => hy z (List.mem_cons_of_mem _ hz))
    have h0 := hy y List.mem_cons_self
    rw [List.foldr_cons, has_stepY h0.1 h0.2, ih]
    show _ ↔ (if hasI (rdI y) (v : Int) then 1 else if defI y = (v : Int) then 2 else bareF (v : Int) (hasN W v) ys) = 1
    by_cases e1 : (v : Int) ∈ rdI y
    · rw [if_pos (hasI_iff.2 e1)]; simp [e1]
    · rw [if_neg (fun h => e1 (hasI_iff.1 h))]
      by_cases e2 : (v : Int) ∈ writesI y
      · rw [if_pos (def_writes.2 e2)]; simp [e1, e2]
      · rw [if_neg (fun h => e2 (def_writes.1 h))]; simp [e1, e2]
theorem bwF_map {α β : Type} (l : List α) (g : Fin l.length → β) : (bwF l.length 0).map g = ((List.finRange l.length).map g).reverse := by
  unfold bwF
  rw [List.take_of_length_le (by simp), List.map_reverse]
theorem fin_map {α : Type} (l : List α) : (List.finRange l.length).map (fun j => l[j]) = l := by
  apply List.ext_getElem
  · simp
  · intro i h1 h2
    simp
theorem bw_fold (x : Blk) (W : Nat → Nat) : ((bwF x.instrs.length 0).map (plI x)).foldl stepI W = x.instrs.foldr (fun y acc => stepY acc y) W := by
  rw [bwF_map, List.foldl_reverse]
  conv => rhs; rw [← fin_map x.instrs]
  rw [List.foldr_map, List.foldr_map]
  rfl
theorem inW_iff {x : Blk} {W : Nat → Nat} {v : Nat} (hy : ∀ y ∈ x.instrs, (∀ v ∈ rdI y, 0 ≤ v) ∧ ∀ v ∈ writesI y, 0 ≤ v) (ht : ∀ v ∈ rdT x.term, 0 ≤ v) (hp : ∀ p ∈ x.phis, 0 ≤ p.dst) :
    hasN (inW x W) v = true ↔ (v : Int) ∉ x.phis.map Ph.dst ∧ bareF (v : Int) (hasI (rdT x.term) (v : Int) || hasN W v) x.instrs = 1 := by
  unfold inW plL
  rw [List.foldl_cons, List.foldl_append, List.foldl_cons, List.foldl_nil, bw_fold]
  have hd : ∀ v ∈ x.phis.map Ph.dst, 0 ≤ v := fun v hv => by obtain ⟨p, h1, rfl⟩ := List.mem_map.1 hv; exact hp p h1
  show hasN (addsN (delsN _ (natL (x.phis.map Ph.dst))) (natL [])) v = true ↔ _
  rw [has_adds, has_dels, Bool.or_eq_true, decide_eq_true_eq, Bool.and_eq_true, decide_eq_true_eq, mem_natL hd]
  rw [foldY x.instrs hy]
  have e : hasN (stepI W (x.instrs.length + 1, rdT x.term, [])) v = (hasI (rdT x.term) (v : Int) || hasN W v) := by
    show hasN (addsN (delsN W (natL [])) (natL (rdT x.term))) v = _
    rw [has_adds, has_dels, Bool.eq_iff_iff, Bool.or_eq_true, Bool.or_eq_true, decide_eq_true_eq, mem_natL ht, hasI_iff]
    simp [natL]
  rw [e]
  simp [natL]
theorem dfW_iff {x : Blk} {v : Nat} (hy : ∀ y ∈ x.instrs, ∀ v ∈ writesI y, 0 ≤ v) (hp : ∀ p ∈ x.phis, 0 ≤ p.dst) : hasN (dfW x) v = true ↔ (v : Int) ∈ x.phis.map Ph.dst ∨ ∃ y ∈ x.instrs, (v : Int) ∈ writesI y := by
  have hf : ∀ (l : List (Nat × List Int × List Int)) (W : Nat → Nat), hasN (l.foldl stepD W) v = true ↔ hasN W v = true ∨ ∃ q ∈ l, v ∈ natL q.2.2 := by
    intro l
    induction l with
    | nil => intro W; simp
    | cons q l ih =>
      intro W
      rw [List.foldl_cons, ih]
      unfold stepD
      rw [has_adds, Bool.or_eq_true, decide_eq_true_eq]
      simp only [List.mem_cons, exists_eq_or_imp]
      constructor
      · rintro ((h | h) | h)
        · exact Or.inr (Or.inl h)
        · exact Or.inl h
        · exact Or.inr (Or.inr h)
      · rintro (h | h | h)
        · exact Or.inl (Or.inr h)
        · exact Or.inl (Or.inl h)
        · exact Or.inr h
  have hd : ∀ v ∈ x.phis.map Ph.dst, 0 ≤ v := fun v hv => by obtain ⟨p, h1, rfl⟩ := List.mem_map.1 hv; exact hp p h1
  unfold dfW
  rw [hf, has_none]
  unfold plL
  constructor
  · rintro (h | ⟨q, hq, hv⟩)
    · cases h
    · rcases List.mem_cons.1 hq with rfl | hq
      · simp [natL] at hv
      · rcases List.mem_append.1 hq with hq | hq
        · obtain ⟨j, _, rfl⟩ := List.mem_map.1 hq
          exact Or.inr ⟨x.instrs[j], List.getElem_mem _, (mem_natL (hy _ (List.getElem_mem _))).1 hv⟩
        · rw [List.mem_singleton.1 hq] at hv
          exact Or.inl ((mem_natL hd).1 hv)
  · rintro (h | ⟨y, hy', hv⟩)
    · exact Or.inr ⟨_, plL_last x, (mem_natL hd).2 h⟩
    · obtain ⟨j, hj, rfl⟩ := List.getElem_of_mem hy'
      exact Or.inr ⟨_, plI_mem x ⟨j, hj⟩, (mem_natL (hy _ (List.getElem_mem _))).2 hv⟩
theorem bareF_zero {v : Nat} {fin : Bool} : ∀ (ys : List Ins), bareF (v : Int) fin ys = 0 → ∀ y ∈ ys, (v : Int) ∉ writesI y
  | [], _, _, h => by cases h
  | z :: zs, h, y, hy => by
    have h' : (if hasI (rdI z) (v : Int) then 1 else if defI z = (v : Int) then 2 else bareF (v : Int) fin zs) = 0 := h
    by_cases e1 : hasI (rdI z) (v : Int) = true
    · rw [if_pos e1] at h'; cases h'
    · rw [if_neg e1] at h'
      by_cases e2 : defI z = (v : Int)
      · rw [if_pos e2] at h'; cases h'
      · rw [if_neg e2] at h'
        rcases List.mem_cons.1 hy with rfl | hy
        · exact fun h3 => e2 (def_writes.2 h3)
        · exact bareF_zero zs h' y hy
theorem bareF_two {v : Nat} {fin : Bool} : ∀ (ys : List Ins), (∀ y ∈ ys, (v : Int) ∉ writesI y) → bareF (v : Int) fin ys ≠ 2
  | [], _ => by unfold bareF; split <;> simp
  | z :: zs, h => by
    show (if hasI (rdI z) (v : Int) then 1 else if defI z = (v : Int) then 2 else bareF (v : Int) fin zs) ≠ 2
    by_cases e1 : hasI (rdI z) (v : Int) = true
    · rw [if_pos e1]; simp
    · rw [if_neg e1, if_neg (fun e2 => h z List.mem_cons_self (def_writes.1 e2))]
      exact bareF_two zs (fun y hy => h y (List.mem_cons_of_mem _ hy))
theorem bareF_le {v : Int} {fin : Bool} : ∀ (ys : List Ins), bareF v fin ys ≤ 2
  | [] => by unfold bareF; split <;> simp
  | z :: zs => by
    show (if hasI (rdI z) v then 1 else if defI z = v then 2 else bareF v fin zs) ≤ 2
    split
    · decide
    · split
      · decide
      · exact bareF_le zs
theorem bareF_one {v : Int} {fin : Bool} : ∀ (ys : List Ins), bareF v fin ys = 1 → fin = true ∨ ∃ y ∈ ys, v ∈ rdI y
  | [], h => by
    have h' : (if fin then 1 else 0) = 1 := h
    cases fin <;> simp_all
  | z :: zs, h => by
    have h' : (if hasI (rdI z) v then 1 else if defI z = v then 2 else bareF v fin zs) = 1 := h
    by_cases e1 : hasI (rdI z) v = true
    · exact Or.inr ⟨z, List.mem_cons_self, hasI_iff.1 e1⟩
    · rw [if_neg e1] at h'
      by_cases e2 : defI z = v
      · rw [if_pos e2] at h'; cases h'
      · rw [if_neg e2] at h'
        rcases bareF_one zs h' with h3 | ⟨y, hy, h3⟩
        · exact Or.inl h3
        · exact Or.inr ⟨y, List.mem_cons_of_mem _ hy, h3⟩
/-- What the phis of block t read from block p, in the model's order. -/
def edgeU (xs : List Blk) (p t : Int) : List Int := match xs[t.toNat]? with
  | none => []
  | some x => if x.phis = [] then [] else (List.range (predsFrom xs 0 t).length).flatMap fun i => if (predsFrom xs 0 t).getD i 0 = p then x.phis.map (fun h => h.args.getD i 0) else []
def edgesM (xs : List Blk) (b : Nat) : List Int := match xs[b]? with
  | none => []
  | some x => x.term.targets.flatMap (edgeU xs (b : Int))
theorem edges_iff {V : Nat} {xs : List Blk} (ho : OkL V xs) {b : Nat} (hb : b < xs.length) {v : Nat} : (v : Int) ∈ edgesM xs b ↔ (b, v) ∈ phE xs xs.length := by
  have hT0 : ∀ x ∈ xs, ∀ t ∈ x.term.targets, 0 ≤ t := fun x hx t ht => (ho.okf.tgt x hx t ht).1
  have hE : (v : Int) ∈ edgesM xs b ↔ ∃ t : Nat, ∃ ht : t < xs.length, ∃ i, i < (predN xs xs.length t).length ∧ (predN xs xs.length t).getD i 0 = b ∧ ∃ p ∈ xs[t].phis, p.args.getD i 0 = (v : Int) := by
    unfold edgesM
    rw [List.getElem?_eq_getElem hb]
    simp only [List.mem_flatMap]
    constructor
    · rintro ⟨t, ht, hv⟩
      have h0 := ho.okf.tgt _ (List.getElem_mem hb) t ht
      obtain ⟨k, rfl⟩ := Int.eq_ofNat_of_zero_le h0.1
      have hk : k < xs.length := by have := h0.2; omega
      refine ⟨k, hk, ?_⟩
      unfold edgeU at hv
      rw [Int.toNat_natCast, List.getElem?_eq_getElem hk] at hv
      simp only at hv
      by_cases e : xs[k].phis = []
      · rw [if_pos e] at hv; cases hv
      · rw [if_neg e] at hv
        obtain ⟨i, hi, h2⟩ := List.mem_flatMap.1 hv
        rw [preds_all hT0] at hi h2
        have hi' : i < (predN xs xs.length k).length := by simpa [natI] using hi
        by_cases e2 : (natI (predN xs xs.length k)).getD i 0 = (b : Int)
        · rw [if_pos e2] at h2
          obtain ⟨p, h3, h4⟩ := List.mem_map.1 h2
          refine ⟨i, hi', ?_, p, h3, h4⟩
          simp only [natI, List.getD_eq_getElem?_getD, List.getElem?_map, List.getElem?_eq_getElem hi', Option.map_some, Option.getD_some] at e2 ⊢
          have : ((predN xs xs.length k)[i] : Int) = (b : Int) := e2
          omega
        · rw [if_neg e2] at h2; cases h2
    · rintro ⟨t, ht, i, hi, h1, p, h2, h3⟩
      have hm : b ∈ predN xs xs.length t := by
        rw [← h1, List.getD_eq_getElem?_getD, List.getElem?_eq_getElem hi]
        exact List.getElem_mem hi
      have htg : (t : Int) ∈ xs[b].term.targets := by
        have := (predN_mem.1 hm).2
        rw [tgN_at hb] at this
        obtain ⟨z, hz, e⟩ := List.mem_map.1 this
        have := hT0 _ (List.getElem_mem hb) z hz
        rw [show (t : Int) = z by omega]
        exact hz
      refine ⟨(t : Int), htg, ?_⟩
      unfold edgeU
      rw [Int.toNat_natCast, List.getElem?_eq_getElem ht]
      simp only
      rw [if_neg (fun e => by rw [e] at h2; cases h2), preds_all hT0]
      refine List.mem_flatMap.2 ⟨i, by simpa [natI] using hi, ?_⟩
      rw [if_pos (by
        simp only [natI, List.getD_eq_getElem?_getD, List.getElem?_map, List.getElem?_eq_getElem hi, Option.map_some, Option.getD_some] at h1 ⊢
        show ((predN xs xs.length t)[i] : Int) = (b : Int)
        rw [h1])]
      exact List.mem_map.2 ⟨p, h2, h3⟩
  rw [hE]
  unfold phE phB phT
  rw [List.mem_flatMap]
  constructor
  · rintro ⟨t, ht, i, hi, h1, p, h2, h3⟩
    refine ⟨t, List.mem_range.2 ht, ?_⟩
    rw [List.getElem?_eq_getElem ht]
    refine List.mem_flatMap.2 ⟨p, h2, ?_⟩
    have hl := (ho.pha t ht p h2).1
    rw [preds_all hT0] at hl
    have hl' : p.args.length = (predN xs xs.length t).length := by simpa [natI] using hl
    have hi2 : i < p.args.length := by omega
    rw [List.getD_eq_getElem?_getD, List.getElem?_eq_getElem hi2] at h3
    rw [List.getD_eq_getElem?_getD, List.getElem?_eq_getElem hi] at h1
    have hz : i < ((predN xs xs.length t).zip (natL p.args)).length := by simp [natL]; omega
    have e : ((predN xs xs.length t).zip (natL p.args))[i] = (b, v) := by
      rw [List.getElem_zip]
      simp only [natL, List.getElem_map]
      have h1' : (predN xs xs.length t)[i] = b := h1
      have h3' : p.args[i] = (v : Int) := h3
      rw [h1', h3']
      rfl
    rw [← e]
    exact List.getElem_mem hz
  · rintro ⟨t, ht, hv⟩
    have ht := List.mem_range.1 ht
    rw [List.getElem?_eq_getElem ht] at hv
    obtain ⟨p, h2, h3⟩ := List.mem_flatMap.1 (show _ ∈ List.flatMap _ xs[t].phis from hv)
    obtain ⟨i, hi, e⟩ := List.getElem_of_mem h3
    rw [List.getElem_zip] at e
    have hi1 : i < (predN xs xs.length t).length := by simp at hi; omega
    have hi2 : i < p.args.length := by simp [natL] at hi; omega
    refine ⟨t, ht, i, hi1, ?_, p, h2, ?_⟩
    · rw [List.getD_eq_getElem?_getD, List.getElem?_eq_getElem hi1]
      exact congrArg Prod.fst e
    · rw [List.getD_eq_getElem?_getD, List.getElem?_eq_getElem hi2]
      have h4 : (natL p.args)[i]'(by simp [natL]; omega) = v := congrArg Prod.snd e
      simp only [natL, List.getElem_map] at h4
      have := (ho.pha t ht p h2).2 p.args[i] (List.getElem_mem hi2)
      show p.args[i] = (v : Int)
      omega
/-- The model's walk for v. -/
def barB (xs : List Blk) (b v : Nat) : Nat := match xs[b]? with
  | none => 0
  | some x => bareM x (edgesM xs b) (v : Int)
def phiB (xs : List Blk) (b v : Nat) : Bool := match xs[b]? with
  | none => false
  | some x => hasI (x.phis.map Ph.dst) (v : Int)
inductive Opn (xs : List Blk) (v : Nat) : Nat → Prop
  | root : Opn xs v 0
  | step {b t : Nat} : Opn xs v b → phiB xs b v = false → barB xs b v = 0 → t ∈ tgN xs b → Opn xs v t
def Bad (xs : List Blk) (v : Nat) : Prop := ∃ b, Opn xs v b ∧ phiB xs b v = false ∧ barB xs b v = 1
theorem Opn.lt {xs : List Blk} (h : OkF xs) {v b : Nat} (ho : Opn xs v b) : b < xs.length := by
  induction ho with
  | root => exact h.n1
  | step _ _ _ ht ih => exact h.tg _ ih _ ht
end Go.Proofs.YtjfcbjomfbfoiaaGreatDoor
