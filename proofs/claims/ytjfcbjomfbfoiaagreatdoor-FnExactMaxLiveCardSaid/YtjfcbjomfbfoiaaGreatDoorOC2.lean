import Derived.Test.YtjfcbjomfbfoiaaGreatDoorOC1
import Derived.Test.YtjfcbjomfbfoiaaGreatDoorAL1
import Derived.Test.YtjfcbjomfbfoiaaGreatDoorSP0
import Derived.Test.YtjfcbjomfbfoiaaGreatDoorWR1
import Derived.Test.YtjfcbjomfbfoiaaGreatDoorW7
import Derived.Test.YtjfcbjomfbfoiaaGreatDoorFV1
import Derived.Test.YtjfcbjomfbfoiaaGreatDoorPL2
import Derived.Test.YtjfcbjomfbfoiaaGreatDoorWS0
import Derived.Test.YtjfcbjomfbfoiaaGreatDoorNV1
import Derived.Test.YtjfcbjomfbfoiaaGreatDoorW17
namespace Go.Proofs.YtjfcbjomfbfoiaaGreatDoor
open Go.RowKit
/-- How many are in a set. -/
def cntN (W : Nat → Nat) (K : Nat) : Nat := (List.range (64 * K)).countP fun x => hasN W x
theorem cnt_step (W : Nat → Nat) (K : Nat) : cntN W (K + 1) = cntN W K + onesN 8 (W K) := by
  unfold cntN onesN
  have e : 64 * (K + 1) = 64 * K + 8 * 8 := by omega
  rw [e, List.range_add, List.countP_append, List.countP_map]
  congr 1
  apply List.countP_congr
  intro i hi
  have : i < 64 := List.mem_range.1 hi
  have e1 : (64 * K + i) / 64 = K := by omega
  have e2 : (64 * K + i) % 64 = i := by omega
  simp only [Function.comp, hasN, e1, e2]
theorem cnt_le (W : Nat → Nat) (K : Nat) : cntN W K ≤ 64 * K := Nat.le_trans (List.countP_le_length) (by simp)
set_option maxHeartbeats 1000000 in
set_option maxRecDepth 100000 in
theorem count_valueNo (g K C : Nat) (W : Nat → Nat) (w : World) (hW : Hid (WdOk W)) (hr : Hid (WsAt w g K C W)) (hK : K ≤ 1000) :
    Calls Tryz.prog 43 #[.agg #[.slice (some ⟨g, 0, none⟩) K C]] w fun e w' => e = .returned (.int .i64 (cntN W K : Nat)) ∧ Below w.heap.size w w' := by
  have hg := hr.out.lt
  go_enter Tryz.func43, Tryz.ntmps43
  go_wp2
  go_loopw [3, 9] (fun u i wr => ∃ k : Nat, k ≤ K ∧ i = .int .i64 k ∧ u = .int .i64 (cntN W k : Nat) ∧ Hid (Below w.heap.size w wr)) (fun _ i _ => K - (intOf i).toNat)
  case atStart => exact ⟨0, Nat.zero_le _, rfl, rfl, hide (balloc (Below.refl _ _) _)⟩
  case round =>
    obtain ⟨k, hk, rfl, rfl, HB⟩ := hrel
    by_cases hlt : k < K
    · have hc := (HB.out.cell (p := ⟨g, k, none⟩) hg).trans (hr.out.cell hlt)
      have hwk := hW.out k
      have HS := hide (cnt_step W k)
      have hle := cnt_le W k
      have hle2 := cnt_le W (k + 1)
      rw [HS.out] at hle2
      generalize cntN W k = c0 at *
      generalize W k = Wk at *
      have HO := hide (ones_any Wk wr hwk)
      generalize onesN 8 Wk = o at *
      go_wp2_with (go_at_call 83; refine HO.out.mono ?_; rintro e w2 ⟨rfl, hw2⟩; rw [hw2]; clear hw2 w2)
      exact ⟨⟨k + 1, by omega, by go_num, by rw [HS.out]; go_num, HB⟩, by simp [intOf]; omega⟩
    · have e : k = K := by omega
      subst e
      go_wp2
      go_ret
      exact ⟨rfl, HB.out⟩
end Go.Proofs.YtjfcbjomfbfoiaaGreatDoor

namespace Go.Proofs.YtjfcbjomfbfoiaaGreatDoor
open Go.RowKit Go.Shelf
attribute [local go_sem] Oper.semAt_some
theorem ls_cnt (W : Nat → Nat) (K : Nat) : cntN W K = (lsN W (64 * K)).length := by
  unfold cntN lsN
  rw [List.countP_eq_length_filter]
/-- While the numbers are appended. -/
structure LiI (w : World) (n₀ Bo Bs : Nat) (sv : Value) (pre : List Nat) (V : World) : Prop where
  low : Below w.heap.size w V
  ge : w.heap.size ≤ Bo ∧ Bo ≠ Bs
  sz : n₀ ≤ V.heap.size
  bs : V.heap[Bs]? = some (.cells #[sv] 65)
  own : ∃ v, V.heap[Bo]? = some (.cells #[v] 52) ∧ V.ownsRow w.heap.size 2 1 v pre.length ((natI pre).map (Value.int .i64))
theorem box_set {V : World} {Bo T : Nat} {v v' : Value} (h : V.heap[Bo]? = some (.cells #[v] T)) : (V.setCell ⟨Bo, 0, none⟩ v').heap[Bo]? = some (.cells #[v'] T) := by
  simp [World.setCell, Array.getElem?_modify, h]
theorem own_not {V : World} {Bo T base e n : Nat} {u v : Value} {xs : List Value} (h : V.heap[Bo]? = some (.cells #[u] T)) (ho : V.ownsRow base e 1 v n xs) (hT : T ≠ e) : v.ownBlock ≠ some Bo := fun hb => by
  rcases ho.2 with ⟨rfl, _⟩ | ⟨g, cap, cur, rfl, _, h1, _⟩
  · cases hb
  · injection hb with hb
    subst hb
    rw [show V.heap[g]? = some (.cells #[u] T) from h] at h1
    injection h1 with h1
    injection h1 with _ h2
    exact hT h2
theorem LiI.next {w U u1 : World} {n₀ Bo Bs x : Nat} {sv v v1 : Value} {pre : List Nat} {ob : Obj} (h : LiI w n₀ Bo Bs sv pre U) (hbx : U.heap[Bo]? = some (.cells #[v] 52)) (hown : U.ownsRow w.heap.size 2 1 v pre.length ((natI pre).map (Value.int .i64))) (hg : (U.alloc ob).grownBy u1 v.ownBlock) (ho : u1.ownsRow w.heap.size 2 1 v1 (pre ++ [x]).length ((natI (pre ++ [x])).map (Value.int .i64))) :
    KeepsOthers U (u1.setCell ⟨Bo, 0, none⟩ v1) ∧ KpB n₀ (fun q => w.heap.size ≤ q ∧ q ≠ Bs) U (u1.setCell ⟨Bo, 0, none⟩ v1) ∧ LiI w n₀ Bo Bs sv (pre ++ [x]) (u1.setCell ⟨Bo, 0, none⟩ v1) := by
  have hz : U.heap.size ≤ u1.heap.size := Nat.le_trans (by simp) hg.size
  have hzs : (u1.setCell ⟨Bo, 0, none⟩ v1).heap.size = u1.heap.size := by simp [World.setCell]
  have hbl : ∀ b, b < U.heap.size → b ≠ Bo → v.ownBlock ≠ some b → (u1.setCell ⟨Bo, 0, none⟩ v1).heap[b]? = U.heap[b]? := fun b h1 h2 h3 => (Below.heap_setCell _ _ _ _ (fun e => h2 e)).trans ((hg.block b (by simp; omega) (fun e => h3 e.symm)).trans (Below.heap_alloc _ _ _ h1))
  have hn1 : ∀ b, b < w.heap.size → v.ownBlock ≠ some b := fun b hb e => by have := (hown.lt b e).1; omega
  have hn2 : v.ownBlock ≠ some Bs := own_not h.bs hown (by decide)
  have hge := h.ge
  have hlw := h.low.size
  have hkk : ∀ b, b < U.heap.size → ¬ (w.heap.size ≤ b ∧ b ≠ Bs) → (u1.setCell ⟨Bo, 0, none⟩ v1).heap[b]? = U.heap[b]? := fun b h1 h2 => by
    by_cases e : b = Bs
    · exact hbl b h1 (by omega) (by rw [e]; exact hn2)
    · have : b < w.heap.size := Nat.lt_of_not_le (fun h3 => h2 ⟨h3, e⟩)
      exact hbl b h1 (by omega) (hn1 b this)
  have hb1 : u1.heap[Bo]? = some (.cells #[v] 52) := (hg.block Bo (by have := (Array.getElem?_eq_some_iff.1 hbx).1; simp; omega) (fun e => own_not hbx hown (by decide) e.symm)).trans ((Below.heap_alloc _ _ _ (Array.getElem?_eq_some_iff.1 hbx).1).trans hbx)
  refine ⟨⟨by omega, fun k o h1 h2 => ?_⟩, ⟨by omega, fun k h1 h2 => hkk k (Nat.lt_of_lt_of_le h1 h.sz) h2, fun k o h1 h2 _ => (hkk k (Array.getElem?_eq_some_iff.1 h2).1 h1).trans h2⟩, ⟨⟨hg.os.trans h.low.os, hg.tape.trans h.low.tape, hg.output.trans h.low.output, by omega, fun b hb => (hbl b (by omega) (by omega) (hn1 b hb)).trans (h.low.block b hb)⟩, h.ge, by have := h.sz; omega, (hbl Bs (Array.getElem?_eq_some_iff.1 h.bs).1 (fun e => hge.2 e.symm) hn2).trans h.bs, v1, box_set hb1, ?_⟩⟩
  · refine (hbl k (Array.getElem?_eq_some_iff.1 h1).1 (fun e => ?_) (fun e => ?_)).trans h1
    · subst e
      rw [hbx] at h1
      injection h1 with h1
      subst h1
      cases h2
    · rcases hown.2 with ⟨rfl, _⟩ | ⟨g, cap, cur, rfl, _, h3, _⟩
      · cases e
      · injection e with e
        have e : g = k := e
        subst e
        rw [h3] at h1
        injection h1 with h1
        subst h1
        cases h2
  · exact ho.kept (row := some Bo) ⟨rfl, rfl, rfl, by omega, fun k _ hk => Below.heap_setCell _ _ _ _ (fun e => hk (by rw [e]))⟩ (Or.inr (own_not hb1 ho (by decide)))
end Go.Proofs.YtjfcbjomfbfoiaaGreatDoor

namespace Go.Proofs.YtjfcbjomfbfoiaaGreatDoor
open Go.RowKit
variable {F : Fence} {n : Nat} {P : Program} {α : Type}
theorem RecAt.keepsF {W V : World} {D : Nat} {r : Loop} (h : RecAt W D r) (k : KeepsFrom D W V) : RecAt V D r := ⟨k.same _ _ (by omega) h.1 rfl, k.same _ _ (Nat.le_refl _) h.2 rfl⟩
theorem keepsFrom_mono {A V : World} {B B' : Nat} (h : KeepsFrom B A V) (hB : B ≤ B') : KeepsFrom B' A V := ⟨h.size, fun k o h1 h2 h3 => h.same k o (by omega) h2 h3⟩
end Go.Proofs.YtjfcbjomfbfoiaaGreatDoor

namespace Go.Proofs.YtjfcbjomfbfoiaaGreatDoor
open Go.RowKit Go.Shelf
attribute [local go_sem] Oper.semAt_some
set_option maxHeartbeats 1000000 in
theorem side_in (n : Nat) (v0 v1 v2 v3 v4 v5 : Value) (g Kw C : Nat) (w : World) :
    CallsIn Fence.wide n Tryz.prog 38 #[.agg #[v0, v1, v2, v3, v4, v5], .agg #[.slice (some ⟨g, 0, none⟩) Kw C]] w fun e w' => e = .returned (.func (.func 80) #[] #[.pointer (some ⟨w.heap.size + 1, 0, none⟩), .pointer (some ⟨w.heap.size, 0, none⟩)]) ∧ w' = (w.alloc (.cells #[v0, v1, v2, v3, v4, v5] 79)).alloc (.cells #[.slice (some ⟨g, 0, none⟩) Kw C] 65) := by
  refine callsIn_of_wp Tryz.func38 rfl trivial ?_ rfl
  simp only [Tryz.ntmps38, List.size_toArray, List.length_cons, List.length_nil, Nat.reduceAdd, Nat.reduceSub, Array.replicate_succ, Array.replicate_zero, List.push_toArray, List.append_toArray, List.nil_append, List.cons_append]
  gi_wp2
  go_ret
  exact ⟨rfl, rfl⟩
end Go.Proofs.YtjfcbjomfbfoiaaGreatDoor

namespace Go.Proofs.YtjfcbjomfbfoiaaGreatDoor
open Go.RowKit
variable {F : Fence} {n : Nat} {P : Program} {α : Type}
/-- The iterator's promise. J: between two rounds, z the walker's own row; Jx: where a round has said no more; Sp: what can be said of a part that has come. turn: the row z may be turned; vary: z may be another at each round. -/
def SeqS (F : Fence) (n : Nat) (P : Program) (g : Nat) (lb : Array Value) (encs : Nat → α → Array Value) (Px : Nat → α → World → Prop) (Kp : World → World → Prop) (S Sp : List α → Prop) (N : Nat) (turn vary : Prop) (w : World) : Prop :=
  ∀ (l : Nat) (J : Nat → List α → World → Prop) (Jx : List α → World → Prop) (W : World), Below w.heap.size w W → l < W.heap.size → (∀ z, OwnFrom W.heap.size (J z)) → OwnFrom W.heap.size Jx → (turn → ∀ z s V V', W.heap.size ≤ z → J z s V → V.grownBy V' (some z) → J z s V') →
    (vary → (∀ z z' s V V', W.heap.size ≤ z' → J z s V → Below W.heap.size V V' → J z' s V') ∧ ∀ s V V', Jx s V → Below W.heap.size V V' → Jx s V') →
    (∀ z pre x V, W.heap.size ≤ z → J z pre V → Px z x V → pre.length < N → YieldAt F (n - 1) P l (encs z x) V fun e V' => (e = .returned (.bool true) ∧ J z (pre ++ [x]) V' ∧ Kp V V' ∧ KeepsFrom W.heap.size V V') ∨ (e = .returned (.bool false) ∧ Jx (pre ++ [x]) V' ∧ Kp V V' ∧ KeepsFrom W.heap.size V V')) →
    (∀ z V, W.heap.size ≤ z → z < V.heap.size → Below W.heap.size W V → J z [] V) → CallsIn F n P g (#[.func (.yield l) #[] #[]] ++ lb) W fun e V => (∃ v, e = .returned v) ∧ ((∃ z xs, W.heap.size ≤ z ∧ S xs ∧ J z xs V) ∨ ∃ pre, Sp pre ∧ Jx pre V)
/-- How the body of a round may be left. -/
def ownPostS {α : Type} (B : Nat) (Kp : World → World → Prop) (I : List α → World → Prop) (Ix : Code → List α → World → Prop) (xs : List α) (W : World) : Exit → Act → World → Prop
  | .normal, _, W' => KeepsFrom B W W' ∧ Kp W W' ∧ I xs W'
  | .ret, _, W' => KeepsFrom B W W' ∧ Kp W W' ∧ Ix .ret xs W'
  | .exit id, _, W' => KeepsFrom B W W' ∧ Kp W W' ∧ Ix (.exit id) xs W'
  | .goto t, _, W' => KeepsFrom B W W' ∧ Kp W W' ∧ Ix (.goto t) xs W'
  | .panic _, _, _ => False
  | .outgrown, _, _ => False
theorem rangeS {g : Operand} {ps : Array Tmp} {asg bo : Code} {Q : Exit → Act → World → Prop} {a : Act} {w : World} (hro : F.round = none) (h1 : 1 ≤ n) {gf : Nat} {lb : Array Value} (hg : a.eval g = .func (.func gf) #[] lb) (hFg : F.fn gf) (eg : ∀ args w, (callFunc gf args).run P w = .ok (.enter gf args) w)
    {encs : Nat → α → Array Value} {Px : Nat → α → World → Prop} {Kp : World → World → Prop} {S Sp : List α → Prop} {N : Nat} {turn vary : Prop} {w0 : World} (hseq : SeqS F (n - 1) P gf lb encs Px Kp S Sp N turn vary w0) (hPx : ∀ z, OwnFrom w.heap.size (Px z)) (hKt : ∀ {A B C : World}, Kp A B → Kp B C → Kp A C) (hKb : ∀ (W : World) (l : Nat) (o o' : Obj), w.heap.size ≤ l → W.heap[l]? = some o → o.isCells = false → Kp W (W.putObj l o')) (hb0 : Below w0.heap.size w0 w) (hps : ∀ z x, (encs z x).size = ps.size)
    (I : Nat → List α → World → Prop) (Ix : Code → List α → World → Prop) (hI : ∀ z, OwnFrom w.heap.size (I z)) (hIx : ∀ c, OwnFrom w.heap.size (Ix c)) (hIz : turn → ∀ z s V V', w.heap.size ≤ z → I z s V → V.grownBy V' (some z) → I z s V') (hvar : vary → (∀ z z' s V V', w.heap.size ≤ z' → I z s V → Below (w.heap.size + 2) V V' → I z' s V') ∧ ∀ c s V V', Ix c s V → Below (w.heap.size + 2) V V' → Ix c s V') (h0 : ∀ z V, w.heap.size ≤ z → z < V.heap.size → Below w.heap.size w V → I z [] V) (Ax : Nat → α → Act → World → Prop) (hAx : ∀ z x a', OwnFrom w.heap.size (fun (_ : Unit) W => Ax z x a' W))
    (hassign : ∀ (l z : Nat) (pre : List α) (x : α) (W : World) (K : Act → World → Prop), w.heap.size ≤ z → I z pre W → Px z x W → (∀ a' W', KeepsOthers W W' → Kp W W' → I z pre W' → Px z x W' → Ax z x a' W' → K a' W') → asg.wpIn (F.inRound l) (n - 1 - 1) P (Exit.then K (fun _ _ _ => False)) { tmps := (ps.zip (encs z x)).foldl (fun t (p, v) => t.setIfInBounds p v) a.tmps, defers := [] } W)
    (hbody : ∀ (l z : Nat) (pre : List α) (x : α) (a' : Act) (W : World), w.heap.size ≤ z → w.heap.size ≤ l → (∃ r, W.heap[l]? = some (.loop r)) → I z pre W → Px z x W → Ax z x a' W → pre.length < N → bo.wpIn (F.inRound l) (n - 1 - 1) P (ownPostS w.heap.size Kp (I z) Ix (pre ++ [x]) W) a' W)
    (hdone : ∀ (D z : Nat) (xs : List α) (W : World), w.heap.size ≤ D → w.heap.size ≤ z → S xs → I z xs W → W.heap[D]? = some (.deferred (some [])) → Q .normal { a with defers := { target := .collected D, args := #[] } :: a.defers } W)
    (hstop : ∀ (D : Nat) (c : Code) (pre : List α) (W : World), w.heap.size ≤ D → Sp pre → Ix c pre W → W.heap[D]? = some (.deferred (some [])) → c.wpIn F n P Q { a with defers := { target := .collected D, args := #[] } :: a.defers } W) :
    (Code.rangeFunc g ps asg bo).wpIn F n P Q a w := by
  refine wpIn_rangeFunc (fun fn hfn => ?_)
  rw [hro]
  have hrun := run_enterLoop_outer (P := P) (w := w) fn a.tmps ps asg bo
  generalize hW : (w.alloc (.deferred (some []))).alloc (.loop { state := .ready, pending := none, fn, tmps := a.tmps, params := ps, assign := asg, body := bo, defers := w.heap.size }) = W1 at hrun
  have hR1 : RecAt W1 w.heap.size (recO fn a.tmps ps asg bo w.heap.size .ready none) := by
    subst hW
    refine ⟨?_, ?_⟩
    · have := World.alloc_heap_new (w.alloc (.deferred (some []))) (.loop (recO fn a.tmps ps asg bo w.heap.size .ready none))
      rwa [World.size_alloc] at this
    · exact (Below.heap_alloc _ _ _ (by simp)).trans (World.alloc_heap_new w _)
  have hz1 : W1.heap.size = w.heap.size + 2 := by subst hW; simp
  have hBw : Below w.heap.size w W1 := by subst hW; exact balloc (balloc (Below.refl w.heap.size w) _) _
  have hB1 : Below w0.heap.size w0 W1 := hb0.trans (hBw.mono hb0.size)
  clear hW
  refine ⟨_, _, W1, { target := .fn (.func gf) lb, args := #[.func (.yield (w.heap.size + 1)) #[] #[]] }, W1, gf, #[.func (.yield (w.heap.size + 1)) #[] #[]] ++ lb, W1, hrun, ?_, ?_, ?_, fun _ => h1, ?_⟩
  · simp only [resolve, hg]
    simp [go_sem]
  · intro f' hf'
    simp [Target.leads] at hf'
    subst hf'
    exact hFg
  · simp [invoke, go_sem, eg]
  · have ow : ∀ {r : Loop} {A V : World} {row : Option Nat}, RecAt A w.heap.size r → A.grownBy V row → (∀ k, row = some k → W1.heap.size ≤ k ∧ ∃ o : Obj, A.heap[k]? = some o ∧ o.isCells = false) → RecAt V w.heap.size r := fun h k q => h.own k (fun z e => by have := (q z e).1; omega)
    have fr : ∀ {A : World} {row : Option Nat}, (∀ k, row = some k → W1.heap.size ≤ k ∧ ∃ o : Obj, A.heap[k]? = some o ∧ o.isCells = false) → ∀ k, row = some k → w.heap.size ≤ k ∧ ∃ o : Obj, A.heap[k]? = some o ∧ o.isCells = false := fun q k e => ⟨by have := (q k e).1; omega, (q k e).2⟩
    refine (hseq (w.heap.size + 1) (fun z pre W => I z pre W ∧ RecAt W w.heap.size (recO fn a.tmps ps asg bo w.heap.size .ready none)) (fun pre W => ∃ c, Ix c pre W ∧ RecAt W w.heap.size (recO fn a.tmps ps asg bo w.heap.size .done (some c))) W1 hB1 (by omega)
      (fun z s A V row hs k q => ⟨hI z s A V row hs.1 k (fr q), ow hs.2 k q⟩) (fun s A V row hs k q => by obtain ⟨c, hc, hr⟩ := hs; exact ⟨c, hIx c s A V row hc k (fr q), ow hr k q⟩) (fun ht z s V V' hz hs k => ⟨hIz ht z s V V' (by omega) hs.1 k, hs.2.own k (fun q e => by injection e with e; omega)⟩)
      (fun hv => ⟨fun z z' s V V' hz hs k => ⟨(hvar hv).1 z z' s V V' (by omega) hs.1 (k.mono (by omega)), ⟨(k.block _ (by omega)).trans hs.2.1, (k.block _ (by omega)).trans hs.2.2⟩⟩, fun s V V' hs k => by obtain ⟨c, hc, hr⟩ := hs; exact ⟨c, (hvar hv).2 c s V V' hc (k.mono (by omega)), ⟨(k.block _ (by omega)).trans hr.1, (k.block _ (by omega)).trans hr.2⟩⟩⟩) ?_ (fun z V hz hzV hV => ⟨h0 z V (by omega) hzV (hBw.trans (hV.mono (by omega))), ⟨(hV.block _ (by omega)).trans hR1.1, (hV.block _ (by omega)).trans hR1.2⟩⟩)).mono ?_
    · rintro z pre x W hz ⟨hi, hr⟩ hpx hlen
      have hy : (Instr.yield (w.heap.size + 1) (encs z x)).run P W = _ := run_yield (P := P) hr.1 (hps z x)
      refine ⟨_, _, _, _, hy, roundIn_of_wpIn hfn (hassign _ z pre x W _ (by omega) hi hpx (fun a' W' hko hkp hi' hpx' hax => ?_))⟩
      have hr' := hr.keeps hko
      refine ⟨_, run_beginRound hr'.1 rfl, ?_⟩
      have hrb : RecAt (W'.putObj (w.heap.size + 1) (.loop (recO fn a.tmps ps asg bo w.heap.size .busy none))) w.heap.size (recO fn a.tmps ps asg bo w.heap.size .busy none) := hr'.put _
      have hkb : Kp W (W'.putObj (w.heap.size + 1) (.loop (recO fn a.tmps ps asg bo w.heap.size .busy none))) := hKt hkp (hKb _ _ _ _ (by omega) hr'.1 rfl)
      refine wpIn_mono (hbody _ z pre x a' _ (by omega) (by omega) ⟨_, hrb.1⟩ ((hI z).putObj _ hi' (by omega) hr'.1 rfl) ((hPx z).putObj _ hpx' (by omega) hr'.1 rfl) ((hAx z x a').putObj (s := ()) _ hax (by omega) hr'.1 rfl) hlen) ?_
      have kf : ∀ {V : World} (o : Obj), KeepsFrom w.heap.size (W'.putObj (w.heap.size + 1) (.loop (recO fn a.tmps ps asg bo w.heap.size .busy none))) V → KeepsFrom W1.heap.size W (V.putObj (w.heap.size + 1) o) := fun {V} o h => (((hko.from _).trans (KeepsFrom.of_grownBy (grownBy_putObj' W' _ _) (fun j e => by cases e; omega))).trans (keepsFrom_mono h (by omega))).trans (KeepsFrom.of_grownBy (grownBy_putObj' V _ _) (fun j e => by cases e; omega))
      rintro e a3 V hp
      cases e with
      | normal =>
        have hv := hrb.keepsF hp.1
        exact ⟨_, _, hv.fin none, .inl ⟨rfl, ⟨(hI z).putObj _ hp.2.2 (by omega) hv.1 rfl, hv.put _⟩, hKt (hKt hkb hp.2.1) (hKb _ _ _ _ (by omega) hv.1 rfl), kf _ hp.1⟩⟩
      | ret =>
        have hv := hrb.keepsF hp.1
        exact ⟨_, _, hv.fin (some .ret), .inr ⟨rfl, ⟨.ret, (hIx _).putObj _ hp.2.2 (by omega) hv.1 rfl, hv.put _⟩, hKt (hKt hkb hp.2.1) (hKb _ _ _ _ (by omega) hv.1 rfl), kf _ hp.1⟩⟩
      | exit id =>
        have hv := hrb.keepsF hp.1
        exact ⟨_, _, hv.fin (some (.exit id)), .inr ⟨rfl, ⟨.exit id, (hIx _).putObj _ hp.2.2 (by omega) hv.1 rfl, hv.put _⟩, hKt (hKt hkb hp.2.1) (hKb _ _ _ _ (by omega) hv.1 rfl), kf _ hp.1⟩⟩
      | goto t =>
        have hv := hrb.keepsF hp.1
        exact ⟨_, _, hv.fin (some (.goto t)), .inr ⟨rfl, ⟨.goto t, (hIx _).putObj _ hp.2.2 (by omega) hv.1 rfl, hv.put _⟩, hKt (hKt hkb hp.2.1) (hKb _ _ _ _ (by omega) hv.1 rfl), kf _ hp.1⟩⟩
      | panic ch => exact hp.elim
      | outgrown => exact hp.elim
    · rintro e V ⟨⟨v, rfl⟩, (⟨z, xs, hz, hS, hi, hr⟩ | ⟨pre, hSp, c, hi, hr⟩)⟩
      · exact ⟨none, _, run_endLoop hr.1 (by simp [recO]), hdone _ z xs _ (Nat.le_refl _) (by omega) hS ((hI z).putObj _ hi (by omega) hr.1 rfl) (hr.put _).2⟩
      · exact ⟨some c, _, run_endLoop hr.1 (by simp [recO]), hstop _ c pre _ (Nat.le_refl _) hSp ((hIx c).putObj _ hi (by omega) hr.1 rfl) (hr.put _).2⟩
end Go.Proofs.YtjfcbjomfbfoiaaGreatDoor
