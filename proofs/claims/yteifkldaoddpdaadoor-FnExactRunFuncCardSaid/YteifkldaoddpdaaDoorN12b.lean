import Derived.Test.YteifkldaoddpdaaDoorN11
namespace Go.Proofs.YteifkldaoddpdaaDoor
open Go.RowKit

theorem stepR_hp {F : Fn} {args : List Int} {s s' : RS} (h : stepR F args s = .go s') : s'.hp.length = s.hp.length := by
  unfold stepR at h
  split at h
  · split at h
    · cases h
    · injection h with h; subst h; exact execH_len _ _ _
  · split at h
    · cases h
    · injection h with h; subst h; rfl
theorem runR_hp (F : Fn) (args : List Int) : ∀ (fuel k : Nat) (s : RS), (runR F args fuel k s).hp.length = s.hp.length
  | 0, _, _ => rfl
  | fuel + 1, k, s => by
    rw [runR]
    cases h : stepR F args s with
    | trap => rfl
    | ret v => rfl
    | go s' => exact (runR_hp F args fuel (k + 1) s').trans (stepR_hp h)

/-- An outcome as it lies in memory; its rows are apart and can be written. -/
def OutAtF (w : World) (L B : Nat) (val : Value) (o : Out) : Prop :=
  ∃ ta nt ct ha nh ch, val = .agg #[.int .i64 o.code, .int .i64 o.value, .int .i64 o.steps, .slice ta nt ct, .slice ha nh ch] ∧ nt = o.tr.length ∧ nh = o.hp.length ∧ IntsAt w L B ta o.tr ∧ IntsAt w L B ha o.hp ∧
    (∀ b o', ta = some ⟨b, o', none⟩ → ∀ i, w.frozen? ⟨b, i, none⟩ = false) ∧ (∀ b o', ha = some ⟨b, o', none⟩ → ∀ i, w.frozen? ⟨b, i, none⟩ = false) ∧ ∀ b o' b' o'', ta = some ⟨b, o', none⟩ → ha = some ⟨b', o'', none⟩ → b ≠ b'
theorem own_thaw {w : World} {B t : Nat} {ta : Option Addr} {nt ct n : Nat} {xs : List Value} (h : w.ownsRow B t 1 (.slice ta nt ct) n xs) : ∀ b o, ta = some ⟨b, o, none⟩ → ∀ i, w.frozen? ⟨b, i, none⟩ = false := fun b o e i => by
  subst e
  rcases h.2 with ⟨e2, _⟩ | ⟨g, cap, cur, e2, _, hh, _⟩
  · injection e2 with e3; cases e3
  · injection e2 with e3 _ _
    injection e3 with e3
    injection e3 with e4 _ _
    subst e4
    simp [World.frozen?, hh]

section
variable {w W w4 w5 w6 : World} {m : Nat} {a : Option Addr} {n c : Nat} {aa : Option Addr} {na ca fuel : Nat} {R gv gh ch G c4 : Nat} {heap args : List Int} {xs : List Blk} {R0 : Out}
theorem after_nodes (hi : Init w W m a n c aa na ca fuel R gv gh ch heap) (hk : Kb W.heap.size R R W w4) (hG : W.heap.size ≤ G) (hb : RunBox w4 R aa na ca (.slice (some ⟨G, 0, none⟩) n c4) (fun o => W.cell? ⟨R, o, none⟩)) (hn : NodesAt w4 w4.heap.size G ⟨m, xs⟩ args n) (hn1 : 1 ≤ n) (hR0 : runR ⟨m, xs⟩ args fuel 0 (startR ⟨m, xs⟩ heap) = R0) :
    PRun ⟨m, xs⟩ args fuel R0 w4 R aa na ca gh ch gv m m G n c4 w4.heap.size (startR ⟨m, xs⟩ heap) 0 none 0 0 none 0 0 [] w4 ∧ R < G ∧ gv < G ∧ gh < G ∧ G < w4.heap.size := by
  obtain ⟨b0, b7, bz, bo⟩ := hb
  obtain ⟨n1, n2, n3⟩ := hi.ne
  have l1 := hi.lt
  have l2 := hi.vals.lt
  have l3 := hi.heap.lt
  have hGl : G < w4.heap.size := by obtain ⟨U, hU, _⟩ := hn; exact hU.lt
  refine ⟨⟨⟨Kc.refl _ _ _ _ _, ⟨b0, (bo 1 (by decide)).trans hi.box.c1, (bo 2 (by decide)).trans hi.box.c2, (bo 3 (by decide)).trans hi.box.c3, (bo 4 (by decide)).trans hi.box.c4, (bo 5 (by decide)).trans hi.box.c5, (bo 6 (by decide)).trans hi.box.c6, b7, (bo 8 (by decide)).trans hi.box.c8, (bo 9 (by decide)).trans hi.box.c9, (bo 10 (by decide)).trans hi.box.c10, bz⟩,
    ⟨⟨?_, hi.heap.keep (hk.block gh l3 (fun e => n2 e.symm) (fun e => n2 e.symm)), World.ownsRow_nil _ _ _ _, n3, by simp [Value.ownBlock], by simp [Value.ownBlock]⟩, World.ownsRow_nil _ _ _ _, Or.inl rfl⟩⟩, hn, by show 0 < n; omega, Nat.zero_le _, by simp [startR], by simp [startR, heapR], Nat.le_refl _, Nat.zero_le _, hR0⟩, by omega, by omega, by omega, hGl⟩
  have hv := hi.vals.keep (hk.block gv l2 (fun e => n1 e.symm) (fun e => n1 e.symm))
  exact hv
theorem after_run (hi : Init w W m a n c aa na ca fuel R gv gh ch heap) (hk : Kb W.heap.size R R W w4) (hl : 32 = R0.hp.length) {ta : Option Addr} {nt ct : Nat} {ka : Option Addr} {kn kc : Nat} {b pc : Int} {vals K : List Int}
    (h5 : PSt w4 w5 R aa na ca gh ch ta nt ct fuel R0.steps R0.value gv m m G n c4 b pc ka kn kc w4.heap.size vals R0.hp R0.tr K) (h6 : Below w5.heap.size w5 w6) :
    RB w6 (w.heap.size + 1) ∧ ∀ v0 v1 v2 v3 v4, Below w.heap.size w (((((w6.setCell ⟨w.heap.size + 1, 0, none⟩ v0).setCell ⟨w.heap.size + 1, 1, none⟩ v1).setCell ⟨w.heap.size + 1, 2, none⟩ v2).setCell ⟨w.heap.size + 1, 3, none⟩ v3).setCell ⟨w.heap.size + 1, 4, none⟩ v4) ∧
      OutAtF (((((w6.setCell ⟨w.heap.size + 1, 0, none⟩ v0).setCell ⟨w.heap.size + 1, 1, none⟩ v1).setCell ⟨w.heap.size + 1, 2, none⟩ v2).setCell ⟨w.heap.size + 1, 3, none⟩ v3).setCell ⟨w.heap.size + 1, 4, none⟩ v4) w.heap.size (((((w6.setCell ⟨w.heap.size + 1, 0, none⟩ v0).setCell ⟨w.heap.size + 1, 1, none⟩ v1).setCell ⟨w.heap.size + 1, 2, none⟩ v2).setCell ⟨w.heap.size + 1, 3, none⟩ v3).setCell ⟨w.heap.size + 1, 4, none⟩ v4).heap.size (.agg #[.int .i64 R0.code, .int .i64 R0.value, .int .i64 R0.steps, .slice ta nt ct, .slice (some ⟨gh, 0, none⟩) 32 ch]) R0 := by
  obtain ⟨l1, l2, l3⟩ := hi.lo
  obtain ⟨n1, n2, n3⟩ := hi.ne
  have hRl := hi.lt
  have hWs := hi.below.size
  have hks := hk.size
  have h5s := h5.1.size
  have h6s := h6.size
  have far : ∀ q, q < W.heap.size → q ≠ R → q ≠ gv → q ≠ gh → w6.heap[q]? = W.heap[q]? := fun q h1 h2 h3 h4 => (h6.block q (by omega)).trans ((h5.1.block q (by omega) h2 h3 h4).trans (hk.block q h1 h2 h2))
  have hb6 : Below w.heap.size w w6 := hi.below.trans ((hk.below (by omega) (by omega) (by omega)).trans ((h5.1.below (by omega) (by omega) (by omega) (by omega)).trans (h6.mono (by omega))))
  refine ⟨hi.rb.keep (far _ (by omega) (by omega) (by omega) (by omega)), fun v0 v1 v2 v3 v4 => ⟨((((hb6.setCell (by show w.heap.size ≤ w.heap.size + 1; omega) _).setCell (by show w.heap.size ≤ w.heap.size + 1; omega) _).setCell (by show w.heap.size ≤ w.heap.size + 1; omega) _).setCell (by show w.heap.size ≤ w.heap.size + 1; omega) _).setCell (by show w.heap.size ≤ w.heap.size + 1; omega) _, ?_⟩⟩
  have f5 : ∀ q, q ≠ w.heap.size + 1 → (((((w6.setCell ⟨w.heap.size + 1, 0, none⟩ v0).setCell ⟨w.heap.size + 1, 1, none⟩ v1).setCell ⟨w.heap.size + 1, 2, none⟩ v2).setCell ⟨w.heap.size + 1, 3, none⟩ v3).setCell ⟨w.heap.size + 1, 4, none⟩ v4).heap[q]? = w6.heap[q]? := fun q hq => by
    rw [Below.heap_setCell _ _ _ _ hq, Below.heap_setCell _ _ _ _ hq, Below.heap_setCell _ _ _ _ hq, Below.heap_setCell _ _ _ _ hq, Below.heap_setCell _ _ _ _ hq]
  have mm := h5.2.2.mem
  have hown := own_keep (w1 := (((((w6.setCell ⟨w.heap.size + 1, 0, none⟩ v0).setCell ⟨w.heap.size + 1, 1, none⟩ v1).setCell ⟨w.heap.size + 1, 2, none⟩ v2).setCell ⟨w.heap.size + 1, 3, none⟩ v3).setCell ⟨w.heap.size + 1, 4, none⟩ v4)) mm.own (fun q e => (f5 q (by have := (mm.own.lt q e).1; omega)).trans (h6.block q (mm.own.lt q e).2))
  obtain ⟨a1, c1, e1, hi1⟩ := ints_owned hown
  obtain ⟨e2, e3, e4⟩ := Value.slice.inj e1
  subst e2
  have hh := mm.heap.keep (w' := (((((w6.setCell ⟨w.heap.size + 1, 0, none⟩ v0).setCell ⟨w.heap.size + 1, 1, none⟩ v1).setCell ⟨w.heap.size + 1, 2, none⟩ v2).setCell ⟨w.heap.size + 1, 3, none⟩ v3).setCell ⟨w.heap.size + 1, 4, none⟩ v4)) ((f5 gh (by omega)).trans (h6.block gh mm.heap.lt))
  have hfz := hh.frozen
  have hth := own_thaw hown
  have hdj : ∀ b o' b' o'', ta = some ⟨b, o', none⟩ → some (⟨gh, 0, none⟩ : Addr) = some ⟨b', o'', none⟩ → b ≠ b' := fun b o' b' o'' e f g => mm.theap (by rw [e, g]; cases f; rfl)
  have hfz2 : ∀ b o', some (⟨gh, 0, none⟩ : Addr) = some ⟨b, o', none⟩ → ∀ i, (((((w6.setCell ⟨w.heap.size + 1, 0, none⟩ v0).setCell ⟨w.heap.size + 1, 1, none⟩ v1).setCell ⟨w.heap.size + 1, 2, none⟩ v2).setCell ⟨w.heap.size + 1, 3, none⟩ v3).setCell ⟨w.heap.size + 1, 4, none⟩ v4).frozen? ⟨b, i, none⟩ = false := fun b o' e i => by
    have e5 : b = gh := by cases e; rfl
    rw [e5]
    exact hfz i
  exact ⟨ta, nt, ct, _, 32, ch, rfl, e3, hl, hi1.mono (by omega) (Nat.le_refl _), hh.at ⟨by omega, hh.lt⟩, hth, hfz2, hdj⟩
end
end Go.Proofs.YteifkldaoddpdaaDoor

namespace Go.Proofs.YteifkldaoddpdaaDoor
open Go.RowKit

set_option maxHeartbeats 1000000 in
set_option maxRecDepth 100000 in
theorem runI_bad (v : Int) (a : Option Addr) (n c : Nat) (aa : Option Addr) (na ca : Nat) (hA : Option Addr) (nh ch : Nat) (fuel : Int) (xs : List Blk) (L B : Nat) (w : World)
    (ha : Hid (BlksAt w L B a xs)) (hx : Hid (n = xs.length)) (hs : Hid (xs.length + blksTot xs ≤ 1048576)) (hB : B ≤ w.heap.size) (hO : Hid (OpTab w)) (hT : Hid (TerTab w)) (bad : validI ⟨v, xs⟩ = false ∨ runOk na nh fuel = false) :
    Calls Tryd.prog 19 #[.agg #[.int .i64 v, .slice a n c], .slice aa na ca, .slice hA nh ch, .int .i64 fuel] w
      fun e w' => ∃ val, e = .returned val ∧ Below w.heap.size w w' ∧ OutAtF w' w.heap.size w'.heap.size val ⟨4, 0, 0, [], []⟩ := by
  have HA := fun x y => hide (ha.out.keep ((balloc (balloc (Below.refl w.heap.size w) x) y).mono hB))
  have HO := fun x y => hide (hO.out.keep (balloc (balloc (Below.refl w.heap.size w) x) y))
  have HT := fun x y => hide (hT.out.keep (balloc (balloc (Below.refl w.heap.size w) x) y))
  cases hvd : validI ⟨v, xs⟩
  · clear bad
    go_enter Tryd.func19, Tryd.ntmps19
    go_wp2_with (go_at_call 9; refine (validFuncI_any v a n c xs L B _ (HA _ _) hx hs (by simp; omega) (HO _ _) (HT _ _)).mono ?_; rintro e w1 ⟨rfl, hb1⟩; rw [hvd]; have HB1 := hide (bnext (balloc (balloc (Below.refl w.heap.size w) _) _) hb1); obtain ⟨-, ⟨r0, r1, r2, r3, r4⟩, rz⟩ := boxes (hb1.mono (by simp)); clear hb1)
    exact bodyPost_ret (v := .agg #[.int .i64 4, .int .i64 0, .int .i64 0, .slice none 0 0, .slice none 0 0]) (by simp [results, Tryd.results19, go_sem, r0, r1, r2, r3, r4]) rfl ⟨_, rfl, (((((HB1.out.setCell (by show w.heap.size ≤ w.heap.size + 1; omega) _).setCell (by show w.heap.size ≤ w.heap.size + 1; omega) _).setCell (by show w.heap.size ≤ w.heap.size + 1; omega) _).setCell (by show w.heap.size ≤ w.heap.size + 1; omega) _).setCell (by show w.heap.size ≤ w.heap.size + 1; omega) _), none, 0, 0, none, 0, 0, rfl, rfl, rfl, IntsAt.nil _ _ _ _, IntsAt.nil _ _ _ _, fun _ _ e => (nomatch e), fun _ _ e => (nomatch e), fun _ _ _ _ e => (nomatch e)⟩
  · rw [hvd] at bad
    have hro : runOk na nh fuel = false := by simpa using bad
    clear bad
    go_enter Tryd.func19, Tryd.ntmps19
    go_wp2_with (first | (go_at_call 9; refine (validFuncI_any v a n c xs L B _ (HA _ _) hx hs (by simp; omega) (HO _ _) (HT _ _)).mono ?_; rintro e w1 ⟨rfl, hb1⟩; rw [hvd]; have HB1 := hide (bnext (balloc (balloc (Below.refl w.heap.size w) _) _) hb1); obtain ⟨-, ⟨r0, r1, r2, r3, r4⟩, rz⟩ := boxes (hb1.mono (by simp)); clear hb1) | (go_at_call 50; refine (validRun_any _ _ _ _ _ _ _ _).mono ?_; rintro e w2 ⟨rfl, rfl⟩; rw [hro]))
    exact bodyPost_ret (v := .agg #[.int .i64 4, .int .i64 0, .int .i64 0, .slice none 0 0, .slice none 0 0]) (by simp [results, Tryd.results19, go_sem, r0, r1, r2, r3, r4]) rfl ⟨_, rfl, (((((HB1.out.setCell (by show w.heap.size ≤ w.heap.size + 1; omega) _).setCell (by show w.heap.size ≤ w.heap.size + 1; omega) _).setCell (by show w.heap.size ≤ w.heap.size + 1; omega) _).setCell (by show w.heap.size ≤ w.heap.size + 1; omega) _).setCell (by show w.heap.size ≤ w.heap.size + 1; omega) _), none, 0, 0, none, 0, 0, rfl, rfl, rfl, IntsAt.nil _ _ _ _, IntsAt.nil _ _ _ _, fun _ _ e => (nomatch e), fun _ _ e => (nomatch e), fun _ _ _ _ e => (nomatch e)⟩

end Go.Proofs.YteifkldaoddpdaaDoor
