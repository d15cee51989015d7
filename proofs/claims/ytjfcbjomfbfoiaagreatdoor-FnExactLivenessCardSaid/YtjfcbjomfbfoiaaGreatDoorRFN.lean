import Derived.RangeFuncNested
import Derived.RangeFuncBound
import Derived.RangeFuncCalls
import Derived.RangeFuncLeaves
import Derived.Test.YtjfcbjomfbfoiaaGreatDoorW6b
namespace Go.Proofs.YtjfcbjomfbfoiaaGreatDoor
open Go.RowKit
variable {F : Fence} {n : Nat} {P : Program} {α : Type}
/-- The iterator's promise to a caller that never leaves the loop early, where it may itself lay and turn blocks that are no cells, behind all that lay when it was called. -/
def SeqN (F : Fence) (n : Nat) (P : Program) (g : Nat) (lb : Array Value) (encs : α → Array Value) (Px : α → World → Prop) (Kp : World → World → Prop) (S : List α → Prop) (N : Nat) (w : World) : Prop :=
  ∀ (l : Nat) (J : List α → World → Prop) (W : World), Below w.heap.size w W → l < W.heap.size → OwnFrom W.heap.size J →
    (∀ pre x V, J pre V → Px x V → pre.length < N → YieldAt F (n - 1) P l (encs x) V fun e V' => e = .returned (.bool true) ∧ J (pre ++ [x]) V' ∧ Kp V V' ∧ KeepsFrom W.heap.size V V') →
    J [] W → CallsIn F n P g (#[.func (.yield l) #[] #[]] ++ lb) W fun e V => (∃ v, e = .returned v) ∧ ∃ xs, S xs ∧ J xs V
/-- The loop's record. -/
def recO (fn : FuncId) (tm : Array Value) (ps : Array Tmp) (asg bo : Code) (D : Nat) (st : LoopState) (pe : Option Code) : Loop := { state := st, pending := pe, fn, tmps := tm, params := ps, assign := asg, body := bo, defers := D }
/-- Record and block of deferred calls lie. -/
def RecAt (W : World) (D : Nat) (r : Loop) : Prop := W.heap[D + 1]? = some (.loop r) ∧ W.heap[D]? = some (.deferred (some []))
theorem RecAt.put {W : World} {D : Nat} {r : Loop} (h : RecAt W D r) (r' : Loop) : RecAt (W.putObj (D + 1) (.loop r')) D r' :=
  ⟨World.putObj_heap_same (Array.getElem?_eq_some_iff.1 h.1).1, (World.putObj_heap_other (by omega)).trans h.2⟩
theorem RecAt.own {W V : World} {D : Nat} {r : Loop} {row : Option Nat} (h : RecAt W D r) (g : W.grownBy V row) (hr : ∀ k, row = some k → D + 2 ≤ k) : RecAt V D r :=
  ⟨(g.block _ (Array.getElem?_eq_some_iff.1 h.1).1 (fun e => by have := hr _ e.symm; omega)).trans h.1, (g.block _ (Array.getElem?_eq_some_iff.1 h.2).1 (fun e => by have := hr _ e.symm; omega)).trans h.2⟩
theorem RecAt.keeps {W V : World} {D : Nat} {r : Loop} (h : RecAt W D r) (k : KeepsOthers W V) : RecAt V D r := ⟨k.same _ _ h.1 rfl, k.same _ _ h.2 rfl⟩
/-- How a round ends. -/
theorem RecAt.fin {W : World} {D : Nat} {fn : FuncId} {tm : Array Value} {ps : Array Tmp} {asg bo : Code} (h : RecAt W D (recO fn tm ps asg bo D .busy none)) (j : Option Code) : (Instr.endRound (D + 1) j).run P W = .ok (.bool j.isNone) (W.putObj (D + 1) (.loop (recO fn tm ps asg bo D (if j.isNone then .ready else .done) j))) := run_endRound j h.1
theorem rangeN {g : Operand} {ps : Array Tmp} {asg bo : Code} {Q : Exit → Act → World → Prop} {a : Act} {w : World} (hro : F.round = none) (h1 : 1 ≤ n) {gf : Nat} {lb : Array Value} (hg : a.eval g = .func (.func gf) #[] lb) (hFg : F.fn gf) (eg : ∀ args w, (callFunc gf args).run P w = .ok (.enter gf args) w)
    {encs : α → Array Value} {Px : α → World → Prop} {Kp : World → World → Prop} {S : List α → Prop} {N : Nat} {w0 : World} (hseq : SeqN F (n - 1) P gf lb encs Px Kp S N w0) (hPx : OwnFrom w.heap.size Px) (hKt : ∀ {A B C : World}, Kp A B → Kp B C → Kp A C) (hKb : ∀ (W : World) (l : Nat) (o o' : Obj), w.heap.size ≤ l → W.heap[l]? = some o → o.isCells = false → Kp W (W.putObj l o')) (hb0 : Below w0.heap.size w0 w) (hps : ∀ x, (encs x).size = ps.size)
    (I : List α → World → Prop) (hI : OwnFrom w.heap.size I) (h0 : I [] w) (Ax : α → Act → World → Prop) (hAx : ∀ x a', OwnFrom w.heap.size (fun (_ : Unit) W => Ax x a' W))
    (hassign : ∀ (l : Nat) (pre : List α) (x : α) (W : World) (K : Act → World → Prop), I pre W → Px x W → (∀ a' W', KeepsOthers W W' → Kp W W' → I pre W' → Px x W' → Ax x a' W' → K a' W') → asg.wpIn (F.inRound l) (n - 1 - 1) P (Exit.then K (fun _ _ _ => False)) { tmps := (ps.zip (encs x)).foldl (fun t (p, v) => t.setIfInBounds p v) a.tmps, defers := [] } W)
    (hbody : ∀ (l : Nat) (pre : List α) (x : α) (a' : Act) (W : World), I pre W → Px x W → Ax x a' W → pre.length < N → bo.wpIn (F.inRound l) (n - 1 - 1) P (ownPostK Kp I (fun _ _ _ => False) (pre ++ [x]) W) a' W)
    (hdone : ∀ (D : Nat) (xs : List α) (W : World), w.heap.size ≤ D → S xs → I xs W → W.heap[D]? = some (.deferred (some [])) → Q .normal { a with defers := { target := .collected D, args := #[] } :: a.defers } W) :
    (Code.rangeFunc g ps asg bo).wpIn F n P Q a w := by
  refine wpIn_rangeFunc (fun fn hfn => ?_)
  rw [hro]
  have hrun := run_enterLoop_outer (P := P) (w := w) fn a.tmps ps asg bo
  generalize hW : (w.alloc (.deferred (some []))).alloc (.loop { state := .ready, pending := none, fn, tmps := a.tmps, params := ps, assign := asg, body := bo, defers := w.heap.size }) = W1 at hrun
  have hR1 : RecAt W1 w.heap.size (recO fn a.tmps ps asg bo w.heap.size .ready none) := by
    subst hW
    refine ⟨?_, ?_⟩
    · have := World.alloc_heap_new (w.alloc (.deferred (some []))) (.loop (recO fn a.tmps ps asg bo w.heap.size .ready none))
      rwa [World.size_alloc] at this
    · exact (Below.heap_alloc _ _ _ (by simp)).trans (World.alloc_heap_new w _)
  have hz1 : W1.heap.size = w.heap.size + 2 := by subst hW; simp
  have hI1 : I [] W1 := by subst hW; exact hI.alloc _ (hI.alloc _ h0)
  have hB1 : Below w0.heap.size w0 W1 := by
    subst hW
    exact hb0.trans ((balloc (balloc (Below.refl w.heap.size w) _) _).mono hb0.size)
  clear hW
  refine ⟨_, _, W1, { target := .fn (.func gf) lb, args := #[.func (.yield (w.heap.size + 1)) #[] #[]] }, W1, gf, #[.func (.yield (w.heap.size + 1)) #[] #[]] ++ lb, W1, hrun, ?_, ?_, ?_, fun _ => h1, ?_⟩
  · simp only [resolve, hg]
    simp [go_sem]
  · intro f' hf'
    simp [Target.leads] at hf'
    subst hf'
    exact hFg
  · simp [invoke, go_sem, eg]
  · have ow : ∀ {r : Loop} {A V : World} {row : Option Nat}, RecAt A w.heap.size r → A.grownBy V row → (∀ k, row = some k → W1.heap.size ≤ k ∧ ∃ o : Obj, A.heap[k]? = some o ∧ o.isCells = false) → RecAt V w.heap.size r := fun h k q => h.own k (fun z e => by have := (q z e).1; omega)
    have fr : ∀ {A : World} {row : Option Nat}, (∀ k, row = some k → W1.heap.size ≤ k ∧ ∃ o : Obj, A.heap[k]? = some o ∧ o.isCells = false) → ∀ k, row = some k → w.heap.size ≤ k ∧ ∃ o : Obj, A.heap[k]? = some o ∧ o.isCells = false := fun q k e => ⟨by have := (q k e).1; omega, (q k e).2⟩
    refine (hseq (w.heap.size + 1) (fun pre W => I pre W ∧ RecAt W w.heap.size (recO fn a.tmps ps asg bo w.heap.size .ready none)) W1 hB1 (by omega)
      (fun s A V row hs k q => ⟨hI s A V row hs.1 k (fr q), ow hs.2 k q⟩) ?_ ⟨hI1, hR1⟩).mono ?_
    · rintro pre x W ⟨hi, hr⟩ hpx hlen
      have hy : (Instr.yield (w.heap.size + 1) (encs x)).run P W = _ := run_yield (P := P) hr.1 (hps x)
      refine ⟨_, _, _, _, hy, roundIn_of_wpIn hfn (hassign _ pre x W _ hi hpx (fun a' W' hko hkp hi' hpx' hax => ?_))⟩
      have hr' := hr.keeps hko
      refine ⟨_, run_beginRound hr'.1 rfl, ?_⟩
      have hrb : RecAt (W'.putObj (w.heap.size + 1) (.loop (recO fn a.tmps ps asg bo w.heap.size .busy none))) w.heap.size (recO fn a.tmps ps asg bo w.heap.size .busy none) := hr'.put _
      have hkb : Kp W (W'.putObj (w.heap.size + 1) (.loop (recO fn a.tmps ps asg bo w.heap.size .busy none))) := hKt hkp (hKb _ _ _ _ (by omega) hr'.1 rfl)
      refine wpIn_mono (hbody _ pre x a' _ (hI.putObj _ hi' (by omega) hr'.1 rfl) (hPx.putObj _ hpx' (by omega) hr'.1 rfl) ((hAx x a').putObj (s := ()) _ hax (by omega) hr'.1 rfl) hlen) ?_
      rintro e a3 V hp
      cases e with
      | normal =>
        have hv := hrb.keeps hp.1
        exact ⟨_, _, hv.fin none, ⟨rfl, ⟨hI.putObj _ hp.2.2 (by omega) hv.1 rfl, hv.put _⟩, hKt (hKt hkb hp.2.1) (hKb _ _ _ _ (by omega) hv.1 rfl), (((hko.from _).trans (KeepsFrom.of_grownBy (grownBy_putObj' W' _ _) (fun j e => by cases e; omega))).trans (hp.1.from _)).trans (KeepsFrom.of_grownBy (grownBy_putObj' V _ _) (fun j e => by cases e; omega))⟩⟩
      | ret => exact hp.2.elim
      | exit id => exact hp.2.elim
      | goto t => exact hp.2.elim
      | panic ch => exact hp.elim
      | outgrown => exact hp.elim
    · rintro e V ⟨⟨v, rfl⟩, xs, hS, hi, hr⟩
      exact ⟨none, _, run_endLoop hr.1 (by simp [recO]), hdone _ xs _ (Nat.le_refl _) hS (hI.putObj _ hi (by omega) hr.1 rfl) (hr.put _).2⟩
end Go.Proofs.YtjfcbjomfbfoiaaGreatDoor
