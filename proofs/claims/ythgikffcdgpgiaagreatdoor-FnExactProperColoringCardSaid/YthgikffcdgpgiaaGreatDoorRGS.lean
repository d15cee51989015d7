import Derived.Test.YthgikffcdgpgiaaGreatDoorVP0
import Derived.Test.YthgikffcdgpgiaaGreatDoorRFN
namespace Go.Proofs.YthgikffcdgpgiaaGreatDoor
open Go.RowKit
variable {F : Fence} {n : Nat} {P : Program} {α : Type}
/-- The iterator's promise. J: between two rounds, z the walker's own row; Jx: where a round has said no more; Sp: what can be said of a part that has come. turn: the row z may be turned; vary: z may be another at each round. -/
def SeqS (F : Fence) (n : Nat) (P : Program) (g : Nat) (lb : Array Value) (encs : Nat → α → Array Value) (Px : Nat → α → World → Prop) (Kp : World → World → Prop) (S Sp : List α → Prop) (N : Nat) (turn vary : Prop) (w : World) : Prop :=
  ∀ (l : Nat) (J : Nat → List α → World → Prop) (Jx : List α → World → Prop) (W : World), Below w.heap.size w W → l < W.heap.size → (∀ z, OwnFrom W.heap.size (J z)) → OwnFrom W.heap.size Jx → (turn → ∀ z s V V', W.heap.size ≤ z → J z s V → V.grownBy V' (some z) → J z s V') →
    (vary → (∀ z z' s V V', W.heap.size ≤ z' → J z s V → Below W.heap.size V V' → J z' s V') ∧ ∀ s V V', Jx s V → Below W.heap.size V V' → Jx s V') →
    (∀ z pre x V, W.heap.size ≤ z → J z pre V → Px z x V → pre.length < N → YieldAt F (n - 1) P l (encs z x) V fun e V' => (e = .returned (.bool true) ∧ J z (pre ++ [x]) V' ∧ Kp V V' ∧ KeepsFrom W.heap.size V V') ∨ (e = .returned (.bool false) ∧ Jx (pre ++ [x]) V' ∧ Kp V V' ∧ KeepsFrom W.heap.size V V')) →
    (∀ z V, W.heap.size ≤ z → z < V.heap.size → Below W.heap.size W V → J z [] V) → CallsIn F n P g (#[.func (.yield l) #[] #[]] ++ lb) W fun e V => (∃ v, e = .returned v) ∧ ((∃ z xs, W.heap.size ≤ z ∧ S xs ∧ J z xs V) ∨ ∃ pre, Sp pre ∧ Jx pre V)
/-- How the body of a round may be left. -/
def ownPostS {α : Type} (B : Nat) (Kp : World → World → Prop) (I : List α → World → Prop) (Ix : Code → List α → World → Prop) (xs : List α) (W : World) : Exit → Act → World → Prop
  | .normal, _, W' => KeepsFrom B W W' ∧ Kp W W' ∧ I xs W'
  | .ret, _, W' => KeepsFrom B W W' ∧ Kp W W' ∧ Ix .ret xs W'
  | .exit id, _, W' => KeepsFrom B W W' ∧ Kp W W' ∧ Ix (.exit id) xs W'
  | .goto t, _, W' => KeepsFrom B W W' ∧ Kp W W' ∧ Ix (.goto t) xs W'
  | .panic _, _, _ => False
  | .outgrown, _, _ => False
theorem rangeS {g : Operand} {ps : Array Tmp} {asg bo : Code} {Q : Exit → Act → World → Prop} {a : Act} {w : World} (hro : F.round = none) (h1 : 1 ≤ n) {gf : Nat} {lb : Array Value} (hg : a.eval g = .func (.func gf) #[] lb) (hFg : F.fn gf) (eg : ∀ args w, (callFunc gf args).run P w = .ok (.enter gf args) w)
    {encs : Nat → α → Array Value} {Px : Nat → α → World → Prop} {Kp : World → World → Prop} {S Sp : List α → Prop} {N : Nat} {turn vary : Prop} {w0 : World} (hseq : SeqS F (n - 1) P gf lb encs Px Kp S Sp N turn vary w0) (hPx : ∀ z, OwnFrom w.heap.size (Px z)) (hKt : ∀ {A B C : World}, Kp A B → Kp B C → Kp A C) (hKb : ∀ (W : World) (l : Nat) (o o' : Obj), w.heap.size ≤ l → W.heap[l]? = some o → o.isCells = false → Kp W (W.putObj l o')) (hb0 : Below w0.heap.size w0 w) (hps : ∀ z x, (encs z x).size = ps.size)
    (I : Nat → List α → World → Prop) (Ix : Code → List α → World → Prop) (hI : ∀ z, OwnFrom w.heap.size (I z)) (hIx : ∀ c, OwnFrom w.heap.size (Ix c)) (hIz : turn → ∀ z s V V', w.heap.size ≤ z → I z s V → V.grownBy V' (some z) → I z s V') (hvar : vary → (∀ z z' s V V', w.heap.size ≤ z' → I z s V → Below (w.heap.size + 2) V V' → I z' s V') ∧ ∀ c s V V', Ix c s V → Below (w.heap.size + 2) V V' → Ix c s V') (h0 : ∀ z V, w.heap.size ≤ z → z < V.heap.size → Below w.heap.size w V → I z [] V) (Ax : Nat → α → Act → World → Prop) (hAx : ∀ z x a', OwnFrom w.heap.size (fun (_ : Unit) W => Ax z x a' W))
    (hassign : ∀ (l z : Nat) (pre : List α) (x : α) (W : World) (K : Act → World → Prop), w.heap.size ≤ z → I z pre W → Px z x W → (∀ a' W', KeepsOthers W W' → Kp W W' → I z pre W' → Px z x W' → Ax z x a' W' → K a' W') → asg.wpIn (F.inRound l) (n - 1 - 1) P (Exit.then K (fun _ _ _ => False)) { tmps := (ps.zip (encs z x)).foldl (fun t (p, v) => t.setIfInBounds p v) a.tmps, defers := [] } W)
    (hbody : ∀ (l z : Nat) (pre : List α) (x : α) (a' : Act) (W : World), w.heap.size ≤ z → w.heap.size ≤ l → (∃ r, W.heap[l]? = some (.loop r)) → I z pre W → Px z x W → Ax z x a' W → pre.length < N → bo.wpIn (F.inRound l) (n - 1 - 1) P (ownPostS w.heap.size Kp (I z) Ix (pre ++ [x]) W) a' W)
    (hdone : ∀ (D z : Nat) (xs : List α) (W : World), w.heap.size ≤ D → w.heap.size ≤ z → S xs → I z xs W → W.heap[D]? = some (.deferred (some [])) → Q .normal { a with defers := { target := .collected D, args := #[] } :: a.defers } W)
    (hstop : ∀ (D : Nat) (c : Code) (pre : List α) (W : World), w.heap.size ≤ D → Sp pre → Ix c pre W → W.heap[D]? = some (.deferred (some [])) → c.wpIn F n P Q { a with defers := { target := .collected D, args := #[] } :: a.defers } W) :
    (Code.rangeFunc g ps asg bo).wpIn F n P Q a w := by
  refine wpIn_rangeFunc (fun fn hfn => ?_)
  rw [hro]
  have hrun := run_enterLoop_outer (P := P) (w := w) fn a.tmps ps asg bo
  generalize hW : (w.alloc (.deferred (some []))).alloc (.loop { state := .ready, pending := none, fn, tmps := a.tmps, params := ps, assign := asg, body := bo, defers := w.heap.size }) = W1 at hrun
  have hR1 : RecAt W1 w.heap.size (recO fn a.tmps ps asg bo w.heap.size .ready none) := by
    subst hW
    refine ⟨?_, ?_⟩
    · have := World.alloc_heap_new (w.alloc (.deferred (some []))) (.loop (recO fn a.tmps ps asg bo w.heap.size .ready none))
      rwa [World.size_alloc] at this
    · exact (Below.heap_alloc _ _ _ (by simp)).trans (World.alloc_heap_new w _)
  have hz1 : W1.heap.size = w.heap.size + 2 := by subst hW; simp
  have hBw : Below w.heap.size w W1 := by subst hW; exact balloc (balloc (Below.refl w.heap.size w) _) _
  have hB1 : Below w0.heap.size w0 W1 := hb0.trans (hBw.mono hb0.size)
  clear hW
  refine ⟨_, _, W1, { target := .fn (.func gf) lb, args := #[.func (.yield (w.heap.size + 1)) #[] #[]] }, W1, gf, #[.func (.yield (w.heap.size + 1)) #[] #[]] ++ lb, W1, hrun, ?_, ?_, ?_, fun _ => h1, ?_⟩
  · simp only [resolve, hg]
    simp [go_sem]
  · intro f' hf'
    simp [Target.leads] at hf'
    subst hf'
    exact hFg
  · simp [invoke, go_sem, eg]
  · have ow : ∀ {r : Loop} {A V : World} {row : Option Nat}, RecAt A w.heap.size r → A.grownBy V row → (∀ k, row = some k → W1.heap.size ≤ k ∧ ∃ o : Obj, A.heap[k]? = some o ∧ o.isCells = false) → RecAt V w.heap.size r := fun h k q => h.own k (fun z e => by have := (q z e).1; omega)
    have fr : ∀ {A : World} {row : Option Nat}, (∀ k, row = some k → W1.heap.size ≤ k ∧ ∃ o : Obj, A.heap[k]? = some o ∧ o.isCells = false) → ∀ k, row = some k → w.heap.size ≤ k ∧ ∃ o : Obj, A.heap[k]? = some o ∧ o.isCells = false := fun q k e => ⟨by have := (q k e).1; omega, (q k e).2⟩
    refine (hseq (w.heap.size + 1) (fun z pre W => I z pre W ∧ RecAt W w.heap.size (recO fn a.tmps ps asg bo w.heap.size .ready none)) (fun pre W => ∃ c, Ix c pre W ∧ RecAt W w.heap.size (recO fn a.tmps ps asg bo w.heap.size .done (some c))) W1 hB1 (by omega)
      (fun z s A V row hs k q => ⟨hI z s A V row hs.1 k (fr q), ow hs.2 k q⟩) (fun s A V row hs k q => by obtain ⟨c, hc, hr⟩ := hs; exact ⟨c, hIx c s A V row hc k (fr q), ow hr k q⟩) (fun ht z s V V' hz hs k => ⟨hIz ht z s V V' (by omega) hs.1 k, hs.2.own k (fun q e => by injection e with e; omega)⟩)
      (fun hv => ⟨fun z z' s V V' hz hs k => ⟨(hvar hv).1 z z' s V V' (by omega) hs.1 (k.mono (by omega)), ⟨(k.block _ (by omega)).trans hs.2.1, (k.block _ (by omega)).trans hs.2.2⟩⟩, fun s V V' hs k => by obtain ⟨c, hc, hr⟩ := hs; exact ⟨c, (hvar hv).2 c s V V' hc (k.mono (by omega)), ⟨(k.block _ (by omega)).trans hr.1, (k.block _ (by omega)).trans hr.2⟩⟩⟩) ?_ (fun z V hz hzV hV => ⟨h0 z V (by omega) hzV (hBw.trans (hV.mono (by omega))), ⟨(hV.block _ (by omega)).trans hR1.1, (hV.block _ (by omega)).trans hR1.2⟩⟩)).mono ?_
    · rintro z pre x W hz ⟨hi, hr⟩ hpx hlen
      have hy : (Instr.yield (w.heap.size + 1) (encs z x)).run P W = _ := run_yield (P := P) hr.1 (hps z x)
      refine ⟨_, _, _, _, hy, roundIn_of_wpIn hfn (hassign _ z pre x W _ (by omega) hi hpx (fun a' W' hko hkp hi' hpx' hax => ?_))⟩
      have hr' := hr.keeps hko
      refine ⟨_, run_beginRound hr'.1 rfl, ?_⟩
      have hrb : RecAt (W'.putObj (w.heap.size + 1) (.loop (recO fn a.tmps ps asg bo w.heap.size .busy none))) w.heap.size (recO fn a.tmps ps asg bo w.heap.size .busy none) := hr'.put _
      have hkb : Kp W (W'.putObj (w.heap.size + 1) (.loop (recO fn a.tmps ps asg bo w.heap.size .busy none))) := hKt hkp (hKb _ _ _ _ (by omega) hr'.1 rfl)
      refine wpIn_mono (hbody _ z pre x a' _ (by omega) (by omega) ⟨_, hrb.1⟩ ((hI z).putObj _ hi' (by omega) hr'.1 rfl) ((hPx z).putObj _ hpx' (by omega) hr'.1 rfl) ((hAx z x a').putObj (s := ()) _ hax (by omega) hr'.1 rfl) hlen) ?_
      have kf : ∀ {V : World} (o : Obj), KeepsFrom w.heap.size (W'.putObj (w.heap.size + 1) (.loop (recO fn a.tmps ps asg bo w.heap.size .busy none))) V → KeepsFrom W1.heap.size W (V.putObj (w.heap.size + 1) o) := fun {V} o h => (((hko.from _).trans (KeepsFrom.of_grownBy (grownBy_putObj' W' _ _) (fun j e => by cases e; omega))).trans (keepsFrom_mono h (by omega))).trans (KeepsFrom.of_grownBy (grownBy_putObj' V _ _) (fun j e => by cases e; omega))
      rintro e a3 V hp
      cases e with
      | normal =>
        have hv := hrb.keepsF hp.1
        exact ⟨_, _, hv.fin none, .inl ⟨rfl, ⟨(hI z).putObj _ hp.2.2 (by omega) hv.1 rfl, hv.put _⟩, hKt (hKt hkb hp.2.1) (hKb _ _ _ _ (by omega) hv.1 rfl), kf _ hp.1⟩⟩
      | ret =>
        have hv := hrb.keepsF hp.1
        exact ⟨_, _, hv.fin (some .ret), .inr ⟨rfl, ⟨.ret, (hIx _).putObj _ hp.2.2 (by omega) hv.1 rfl, hv.put _⟩, hKt (hKt hkb hp.2.1) (hKb _ _ _ _ (by omega) hv.1 rfl), kf _ hp.1⟩⟩
      | exit id =>
        have hv := hrb.keepsF hp.1
        exact ⟨_, _, hv.fin (some (.exit id)), .inr ⟨rfl, ⟨.exit id, (hIx _).putObj _ hp.2.2 (by omega) hv.1 rfl, hv.put _⟩, hKt (hKt hkb hp.2.1) (hKb _ _ _ _ (by omega) hv.1 rfl), kf _ hp.1⟩⟩
      | goto t =>
        have hv := hrb.keepsF hp.1
        exact ⟨_, _, hv.fin (some (.goto t)), .inr ⟨rfl, ⟨.goto t, (hIx _).putObj _ hp.2.2 (by omega) hv.1 rfl, hv.put _⟩, hKt (hKt hkb hp.2.1) (hKb _ _ _ _ (by omega) hv.1 rfl), kf _ hp.1⟩⟩
      | panic ch => exact hp.elim
      | outgrown => exact hp.elim
    · rintro e V ⟨⟨v, rfl⟩, (⟨z, xs, hz, hS, hi, hr⟩ | ⟨pre, hSp, c, hi, hr⟩)⟩
      · exact ⟨none, _, run_endLoop hr.1 (by simp [recO]), hdone _ z xs _ (Nat.le_refl _) (by omega) hS ((hI z).putObj _ hi (by omega) hr.1 rfl) (hr.put _).2⟩
      · exact ⟨some c, _, run_endLoop hr.1 (by simp [recO]), hstop _ c pre _ (Nat.le_refl _) hSp ((hIx c).putObj _ hi (by omega) hr.1 rfl) (hr.put _).2⟩
end Go.Proofs.YthgikffcdgpgiaaGreatDoor

namespace Go.Proofs.YthgikffcdgpgiaaGreatDoor
open Go.RowKit
theorem bwF_prefix (n k : Nat) : bwF n k <+: bwF n 0 := by
  unfold bwF
  rw [show n - 0 = n by omega, List.take_of_length_le (by simp : (List.finRange n).reverse.length ≤ n)]
  exact List.take_prefix _ _
set_option maxRecDepth 100000 in
set_option maxHeartbeats 2000000 in
theorem bwi_in2 (F : Fence) (n : Nat) (h8 : F.fn 140) (hro : F.round = none) (hn : 1 ≤ n) (l Bs n₀ cap : Nat) (Ms : Nat → Prop) (a : Option Addr) (xs : List Ins) (L B : Nat) (hreach : xs.length ≤ 1000000) (hM : ∀ k, L ≤ k → k < B → ¬ Ms k) (hMs : ¬ Ms Bs) (J Jx : List (Fin xs.length) → World → Prop)
    (hY : ∀ (pre : List (Fin xs.length)) (x : Fin xs.length) (W : World), J pre W → pre.length < xs.length → YieldAt F (n - 1) Tryz.prog l #[.int .i64 ((x : Nat) : Int), insV xs[x]] W fun e W' =>
      (e = .returned (.bool true) ∧ J (pre ++ [x]) W' ∧ KpB n₀ Ms W W') ∨ (e = .returned (.bool false) ∧ Jx (pre ++ [x]) W'))
    (W : World) (hBs : W.cell? ⟨Bs, 0, none⟩ = some (.slice a xs.length cap)) (hc : Hid (InssAt W L B a xs)) (h0 : J [] W) :
    CallsIn F n Tryz.prog 140 #[.func (.yield l) #[] #[], .pointer (some ⟨Bs, 0, none⟩)] W fun e W' => (∃ v, e = .returned v) ∧
      ((∃ ys, ys = bwF xs.length 0 ∧ J ys W') ∨ (∃ pre, (∃ q, pre = bwF xs.length q) ∧ Jx pre W')) := by
  refine callsIn_of_wp Tryz.func140 rfl h8 ?_ hro
  simp only [Tryz.ntmps140, List.size_toArray, List.length_cons, List.length_nil, Nat.reduceAdd, Nat.reduceSub, Array.replicate_succ, Array.replicate_zero, List.push_toArray, List.append_toArray, List.nil_append, List.cons_append]
  gi_wp2
  gi_loopw [3] (fun i wr => ∃ (k : Nat) (z : Int), k ≤ xs.length ∧ i = .int .i64 z ∧ z + 1 = (k : Int) ∧ J (bwF xs.length k) wr ∧ KpB n₀ Ms W wr)
    (fun i _ => (intOf i + 1).toNat)
  case atStart => exact ⟨xs.length, _, Nat.le_refl _, rfl, by omega, by rw [bwF_start]; exact h0, KpB.refl _⟩
  case round =>
    obtain ⟨k, z, hk, rfl, hzk, hJs, hnx⟩ := hrel
    have hBs' := hnx.cell hBs hMs
    cases k with
    | zero =>
      have hz1 : z = -1 := by omega
      subst hz1
      gi_wp2
      go_end0
      exact ⟨⟨_, rfl⟩, .inl ⟨_, rfl, hJs⟩⟩
    | succ q =>
      have hz1 : z = (q : Int) := by omega
      subst hz1
      have hq : q < xs.length := hk
      obtain ⟨b, o, ea, hbB, hcx⟩ := hc.out q hq
      subst ea
      have hMb := hM b hbB.1 hbB.2
      obtain ⟨q0, q1, q2, q3, q4⟩ := hcx
      have r0 := hnx.cell q0 hMb
      have r1 := hnx.cell q1 hMb
      have r2 := hnx.cell q2 hMb
      have r3 := hnx.cell q3 hMb
      have r4 := hnx.cell q4 hMb
      clear q0 q1 q2 q3 q4
      obtain ⟨fn, tmps, assign, body, hy, hR⟩ := hY _ ⟨q, hq⟩ wr hJs (by rw [bwF_len]; omega)
      have hyy : (Instr.yield l #[.int .i64 ((q : Nat) : Int), .agg #[.int .i64 xs[q].op, .int .i64 xs[q].dst, .int .i64 xs[q].a, .int .i64 xs[q].b, .int .i64 xs[q].imm]]).run Tryz.prog wr = _ := hy
      clear hy
      gi_wp2
      refine hR.mono ?_
      rintro e W3 (⟨rfl, hJ3, hk3⟩ | ⟨rfl, hJx3⟩)
      · gi_wp2
        go_roundw
        case rel => exact ⟨q, _, by omega, rfl, by omega, by rw [bwF_step hq]; exact hJ3, hnx.trans hk3⟩
        case measure => simp [intOf]
      · gi_wp2
        refine bodyPost_ret (results_none rfl _ _ _) rfl ?_
        exact ⟨⟨_, rfl⟩, .inr ⟨_, ⟨q, (bwF_step hq).symm⟩, hJx3⟩⟩
theorem backwardI_stops2 (F : Fence) (n : Nat) (h8 : F.fn 140) (hro : F.round = none) (hn : 1 ≤ n) (Bs n₀ cap : Nat) (Ms : Nat → Prop) (a : Option Addr) (xs : List Ins) (L B : Nat) (hreach : xs.length ≤ 1000000) (hB : B ≤ n₀) (hM : ∀ k, L ≤ k → k < B → ¬ Ms k) (hMs : ¬ Ms Bs) (w : World) (hn0 : n₀ ≤ w.heap.size) (hBs : Bs < w.heap.size)
    (hc : w.cell? ⟨Bs, 0, none⟩ = some (.slice a xs.length cap)) (hI : Hid (InssAt w L B a xs)) :
    SeqStopsK F n Tryz.prog 140 #[.pointer (some ⟨Bs, 0, none⟩)] (fun x : Fin xs.length => #[Value.int .i64 ((x : Nat) : Int), insV xs[x]]) (KpB n₀ Ms) (fun ys => ys = bwF xs.length 0) (fun pre => ∃ q, pre = bwF xs.length q) xs.length w := fun l J Jx W hW _ _ hY h0 =>
  bwi_in2 F n h8 hro hn l Bs n₀ cap Ms a xs L B hreach hM hMs J Jx hY W ((hW.cell (p := ⟨Bs, 0, none⟩) hBs).trans hc) (hide (hI.out.keepS (fun k _ h2 => hW.block k (by omega)))) h0
end Go.Proofs.YthgikffcdgpgiaaGreatDoor
