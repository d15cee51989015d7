import Derived.Test.YtdcdgopblbmgoaaDoorNR
import Derived.Test.YtdcdgopblbmgoaaDoorN9
/-
  A run's variable as it is made, whatever is run; what is left of a run.
-/
namespace Go.Proofs.YtdcdgopblbmgoaaDoor
open Go.RowKit

/-- Cells i, i + 1, .. of block R are written. -/
def setL (W : World) (R : Nat) : Nat → List Value → World
  | _, [] => W
  | i, v :: vs => setL (W.setCell ⟨R, i, none⟩ v) R (i + 1) vs
theorem setL_far {R b : Nat} (hb : b ≠ R) : ∀ (vs : List Value) (W : World) (i : Nat), (setL W R i vs).heap[b]? = W.heap[b]?
  | [], _, _ => rfl
  | v :: vs, W, i => (setL_far hb vs (W.setCell ⟨R, i, none⟩ v) (i + 1)).trans (Below.heap_setCell _ _ _ _ hb)
theorem setL_size {R : Nat} : ∀ (vs : List Value) (W : World) (i : Nat), (setL W R i vs).heap.size = W.heap.size
  | [], _, _ => rfl
  | v :: vs, W, i => (setL_size vs (W.setCell ⟨R, i, none⟩ v) (i + 1)).trans (size_setCell _ _ _)
theorem setL_below {B : Nat} {w : World} {R : Nat} (hR : B ≤ R) : ∀ (vs : List Value) (W : World) (i : Nat), Below B w W → Below B w (setL W R i vs)
  | [], _, _, h => h
  | v :: vs, W, i, h => setL_below hR vs (W.setCell ⟨R, i, none⟩ v) (i + 1) (h.setCell hR _)
theorem setL_at {R t : Nat} : ∀ (vs zs pre : List Value) (W : World), W.heap[R]? = some (.cells (pre ++ zs).toArray t (0, 0)) → zs.length = vs.length → (setL W R pre.length vs).heap[R]? = some (.cells (pre ++ vs).toArray t (0, 0))
  | [], zs, pre, W, h, hl => by
    have : zs = [] := List.eq_nil_of_length_eq_zero hl
    subst this
    exact h
  | v :: vs, [], pre, W, h, hl => by simp at hl
  | v :: vs, z :: zs, pre, W, h, hl => by
    have h1 := set_at _ pre.length v h
    have e : (pre ++ z :: zs).toArray.setIfInBounds pre.length v = ((pre ++ [v]) ++ zs).toArray := by simp
    rw [e] at h1
    have h2 := setL_at vs zs (pre ++ [v]) (W.setCell ⟨R, pre.length, none⟩ v) h1 (by simpa using hl)
    rw [List.length_append, List.length_singleton] at h2
    show (setL (W.setCell ⟨R, pre.length, none⟩ v) R (pre.length + 1) vs).heap[R]? = _
    rw [h2]
    simp
def L11 (aa : Option Addr) (na ca gh : Nat) (fuel : Int) (gv m : Nat) : List Value := [.slice aa na ca, .slice (some ⟨gh, 0, none⟩) 32 32, .slice none 0 0, .int .i64 fuel, .int .i64 0, .int .i64 0, .slice (some ⟨gv, 0, none⟩) m m, .slice none 0 0, .int .i64 0, .int .i64 0, .slice none 0 0]
/-- What is there when a run's variable is made. -/
structure InitR (w W : World) (m : Nat) (aa : Option Addr) (na ca : Nat) (fuel : Int) (R gv gh : Nat) (heap : List Int) (tl : List Value) : Prop where
  below : Below w.heap.size w W
  rb : RB W (w.heap.size + 1)
  box : ∃ t, W.heap[R]? = some (.cells (L11 aa na ca gh fuel gv m ++ tl).toArray t (0, 0))
  vals : IntsW W gv (List.replicate m 0)
  heap : IntsW W gh (heapR heap)
  lo : w.heap.size + 1 < R ∧ w.heap.size + 1 < gv ∧ w.heap.size + 1 < gh
  ne : R ≠ gv ∧ R ≠ gh ∧ gv ≠ gh
section
variable {w W w4 w5 : World} {m : Nat} {aa : Option Addr} {na ca : Nat} {fuel : Int} {R gv gh : Nat} {heap : List Int} {tl : List Value}
theorem InitR.lt (h : InitR w W m aa na ca fuel R gv gh heap tl) : R < W.heap.size := by
  obtain ⟨t, ht⟩ := h.box
  exact (Array.getElem?_eq_some_iff.1 ht).1
theorem InitR.cell (h : InitR w W m aa na ca fuel R gv gh heap tl) (i : Nat) (v : Value) (hv : (L11 aa na ca gh fuel gv m ++ tl)[i]? = some v) : W.cell? ⟨R, i, none⟩ = some v := by
  obtain ⟨t, ht⟩ := h.box
  simp only [World.cell?, ht]
  simpa using hv
theorem InitR.fz (h : InitR w W m aa na ca fuel R gv gh heap tl) (o : Nat) : W.frozen? ⟨R, o, none⟩ = false := by
  obtain ⟨t, ht⟩ := h.box
  simp [World.frozen?, ht]
theorem InitR.runBox (h : InitR w W m aa na ca fuel R gv gh heap tl) : RunBox W R aa na ca (.slice none 0 0) (fun o => W.cell? ⟨R, o, none⟩) := ⟨h.cell 0 _ rfl, h.cell 7 _ rfl, h.fz, fun _ _ => rfl⟩
theorem after_nodes (hi : InitR w W m aa na ca fuel R gv gh heap tl) (hk : Kb W.heap.size R R W w4) {G n c4 : Nat} (hb : RunBox w4 R aa na ca (.slice (some ⟨G, 0, none⟩) n c4) (fun o => W.cell? ⟨R, o, none⟩)) :
    PBox w4 R aa na ca gh 32 none 0 0 fuel 0 0 gv m m G n c4 0 0 none 0 0 ∧ IntsW w4 gv (List.replicate m 0) ∧ IntsW w4 gh (heapR heap) := by
  obtain ⟨b0, b7, bz, bo⟩ := hb
  obtain ⟨n1, n2, n3⟩ := hi.ne
  have l2 := hi.vals.lt
  have l3 := hi.heap.lt
  exact ⟨⟨b0, (bo 1 (by decide)).trans (hi.cell 1 _ rfl), (bo 2 (by decide)).trans (hi.cell 2 _ rfl), (bo 3 (by decide)).trans (hi.cell 3 _ rfl), (bo 4 (by decide)).trans (hi.cell 4 _ rfl), (bo 5 (by decide)).trans (hi.cell 5 _ rfl), (bo 6 (by decide)).trans (hi.cell 6 _ rfl), b7, (bo 8 (by decide)).trans (hi.cell 8 _ rfl), (bo 9 (by decide)).trans (hi.cell 9 _ rfl), (bo 10 (by decide)).trans (hi.cell 10 _ rfl), bz⟩,
    hi.vals.keep (hk.block gv l2 (fun e => n1 e.symm) (fun e => n1 e.symm)), hi.heap.keep (hk.block gh l3 (fun e => n2 e.symm) (fun e => n2 e.symm))⟩
end

/-- An outcome as it lies in memory; its rows are apart and can be written. -/
def OutAtF (w : World) (L B : Nat) (val : Value) (o : Out) : Prop :=
  ∃ ta nt ct ha nh ch, val = .agg #[.int .i64 o.code, .int .i64 o.value, .int .i64 o.steps, .slice ta nt ct, .slice ha nh ch] ∧ nt = o.tr.length ∧ nh = o.hp.length ∧ IntsAt w L B ta o.tr ∧ IntsAt w L B ha o.hp ∧
    (∀ b o', ta = some ⟨b, o', none⟩ → ∀ i, w.frozen? ⟨b, i, none⟩ = false) ∧ (∀ b o', ha = some ⟨b, o', none⟩ → ∀ i, w.frozen? ⟨b, i, none⟩ = false) ∧ ∀ b o' b' o'', ta = some ⟨b, o', none⟩ → ha = some ⟨b', o'', none⟩ → b ≠ b'
theorem own_thaw {w : World} {B t : Nat} {ta : Option Addr} {nt ct n : Nat} {xs : List Value} (h : w.ownsRow B t 1 (.slice ta nt ct) n xs) : ∀ b o, ta = some ⟨b, o, none⟩ → ∀ i, w.frozen? ⟨b, i, none⟩ = false := fun b o e i => by
  subst e
  rcases h.2 with ⟨e2, _⟩ | ⟨g, cap, cur, e2, _, hh, _⟩
  · injection e2 with e3; cases e3
  · injection e2 with e3 _ _
    injection e3 with e3
    injection e3 with e4 _ _
    subst e4
    simp [World.frozen?, hh]
section
variable {w W w4 w5 : World} {m : Nat} {aa : Option Addr} {na ca fuel : Nat} {R gv gh G n c4 : Nat} {heap : List Int} {tl : List Value} {R0 : Out}
theorem after_run (hi : InitR w W m aa na ca fuel R gv gh heap tl) (hk : Kb W.heap.size R R W w4) (hl : 32 = R0.hp.length) {ta : Option Addr} {nt ct : Nat} {ka : Option Addr} {kn kc : Nat} {b pc : Int} {vals K : List Int}
    (h5 : PSt w4 w5 R aa na ca gh 32 ta nt ct fuel R0.steps R0.value gv m m G n c4 b pc ka kn kc w4.heap.size vals R0.hp R0.tr K) :
    RB w5 (w.heap.size + 1) ∧ ∀ vs, Below w.heap.size w (setL w5 (w.heap.size + 1) 0 vs) ∧
      OutAtF (setL w5 (w.heap.size + 1) 0 vs) w.heap.size (setL w5 (w.heap.size + 1) 0 vs).heap.size (.agg #[.int .i64 R0.code, .int .i64 R0.value, .int .i64 R0.steps, .slice ta nt ct, .slice (some ⟨gh, 0, none⟩) 32 32]) R0 := by
  obtain ⟨l1, l2, l3⟩ := hi.lo
  obtain ⟨n1, n2, n3⟩ := hi.ne
  have hRl := hi.lt
  have hWs := hi.below.size
  have hks := hk.size
  have h5s := h5.1.size
  have far : ∀ q, q < W.heap.size → q ≠ R → q ≠ gv → q ≠ gh → w5.heap[q]? = W.heap[q]? := fun q h1 h2 h3 h4 => (h5.1.block q (by omega) h2 h3 h4).trans (hk.block q h1 h2 h2)
  have hb5 : Below w.heap.size w w5 := hi.below.trans ((hk.below (by omega) (by omega) (by omega)).trans (h5.1.below (by omega) (by omega) (by omega) (by omega)))
  refine ⟨hi.rb.keep (far _ (by omega) (by omega) (by omega) (by omega)), fun vs => ⟨setL_below (by omega) vs w5 0 hb5, ?_⟩⟩
  have f5 : ∀ q, q ≠ w.heap.size + 1 → (setL w5 (w.heap.size + 1) 0 vs).heap[q]? = w5.heap[q]? := fun q hq => setL_far hq vs w5 0
  have mm := h5.2.2.mem
  have hown := own_keep (w1 := setL w5 (w.heap.size + 1) 0 vs) mm.own (fun q e => f5 q (by have := (mm.own.lt q e).1; omega))
  obtain ⟨a1, c1, e1, hi1⟩ := ints_owned hown
  obtain ⟨e2, e3, e4⟩ := Value.slice.inj e1
  subst e2
  have hh := mm.heap.keep (w' := setL w5 (w.heap.size + 1) 0 vs) (f5 gh (by omega))
  have hfz := hh.frozen
  have hth := own_thaw hown
  have hdj : ∀ b o' b' o'', ta = some ⟨b, o', none⟩ → some (⟨gh, 0, none⟩ : Addr) = some ⟨b', o'', none⟩ → b ≠ b' := fun b o' b' o'' e f g => mm.theap (by rw [e, g]; cases f; rfl)
  have hfz2 : ∀ b o', some (⟨gh, 0, none⟩ : Addr) = some ⟨b, o', none⟩ → ∀ i, (setL w5 (w.heap.size + 1) 0 vs).frozen? ⟨b, i, none⟩ = false := fun b o' e i => by
    have e5 : b = gh := by cases e; rfl
    rw [e5]
    exact hfz i
  exact ⟨ta, nt, ct, _, 32, 32, rfl, e3, hl, hi1.mono (by omega) (Nat.le_refl _), hh.at ⟨by omega, hh.lt⟩, hth, hfz2, hdj⟩
end
end Go.Proofs.YtdcdgopblbmgoaaDoor

namespace Go.Proofs.YtdcdgopblbmgoaaDoor
open Go.RowKit

theorem stepR_hp {F : Fn} {args : List Int} {s s' : RS} (h : stepR F args s = .go s') : s'.hp.length = s.hp.length := by
  unfold stepR at h
  split at h
  · split at h
    · cases h
    · injection h with h; subst h; exact execH_len _ _ _
  · split at h
    · cases h
    · injection h with h; subst h; rfl
theorem runR_hp (F : Fn) (args : List Int) : ∀ (fuel k : Nat) (s : RS), (runR F args fuel k s).hp.length = s.hp.length
  | 0, _, _ => rfl
  | fuel + 1, k, s => by
    rw [runR]
    cases h : stepR F args s with
    | trap => rfl
    | ret v => rfl
    | go s' => exact (runR_hp F args fuel (k + 1) s').trans (stepR_hp h)
end Go.Proofs.YtdcdgopblbmgoaaDoor
