import Derived.Test.YtdcdgopblbmgoaaDoorRunS
import Derived.Test.YtdcdgopblbmgoaaDoorR5
import Derived.Test.YtdcdgopblbmgoaaDoorW18
namespace Go.Proofs.YtdcdgopblbmgoaaDoor
open Go.RowKit

set_option maxHeartbeats 1000000 in
set_option maxRecDepth 100000 in
theorem runS_bad (v : Int) (a : Option Addr) (n c : Nat) (aa : Option Addr) (na ca : Nat) (hA : Option Addr) (nh ch : Nat) (fuel : Int) (xs : List Blk) (L B : Nat) (w : World)
    (ha : Hid (BlksAt w L B a xs)) (hx : Hid (n = xs.length)) (hs : Hid (xs.length + blksTot xs ≤ 1048576)) (hB : B ≤ w.heap.size) (bad : validS ⟨v, xs⟩ = false ∨ runOk na nh fuel = false) :
    Calls Tryd.prog 21 #[.agg #[.int .i64 v, .slice a n c], .slice aa na ca, .slice hA nh ch, .int .i64 fuel] w
      fun e w' => ∃ val, e = .returned val ∧ Below w.heap.size w w' ∧ OutAt w' w.heap.size w'.heap.size val ⟨4, 0, 0, [], []⟩ := by
  have HA := fun x y => hide (ha.out.keep ((balloc (balloc (Below.refl w.heap.size w) x) y).mono hB))
  cases hvd : validS ⟨v, xs⟩
  · clear bad
    go_enter Tryd.func21, Tryd.ntmps21
    go_wp2_with (go_at_call 11; refine (validFuncS_any v a n c xs L B _ (HA _ _) hx hs (by simp; omega)).mono ?_; rintro e w1 ⟨rfl, hb1⟩; rw [hvd]; have HB1 := hide (bnext (balloc (balloc (Below.refl w.heap.size w) _) _) hb1); obtain ⟨-, ⟨r0, r1, r2, r3, r4⟩, rz⟩ := boxes (hb1.mono (by simp)); clear hb1)
    exact bodyPost_ret (v := .agg #[.int .i64 4, .int .i64 0, .int .i64 0, .slice none 0 0, .slice none 0 0]) (by simp [results, Tryd.results21, go_sem, r0, r1, r2, r3, r4]) rfl ⟨_, rfl, (((((HB1.out.setCell (by show w.heap.size ≤ w.heap.size + 1; omega) _).setCell (by show w.heap.size ≤ w.heap.size + 1; omega) _).setCell (by show w.heap.size ≤ w.heap.size + 1; omega) _).setCell (by show w.heap.size ≤ w.heap.size + 1; omega) _).setCell (by show w.heap.size ≤ w.heap.size + 1; omega) _), none, 0, 0, none, 0, 0, rfl, rfl, rfl, IntsAt.nil _ _ _ _, IntsAt.nil _ _ _ _⟩
  · rw [hvd] at bad
    have hro : runOk na nh fuel = false := by simpa using bad
    clear bad
    go_enter Tryd.func21, Tryd.ntmps21
    go_wp2_with (first | (go_at_call 11; refine (validFuncS_any v a n c xs L B _ (HA _ _) hx hs (by simp; omega)).mono ?_; rintro e w1 ⟨rfl, hb1⟩; rw [hvd]; have HB1 := hide (bnext (balloc (balloc (Below.refl w.heap.size w) _) _) hb1); obtain ⟨-, ⟨r0, r1, r2, r3, r4⟩, rz⟩ := boxes (hb1.mono (by simp)); clear hb1) | (go_at_call 68; refine (l1BadRun_any _ _ _ _ _ _ _ _).mono ?_; rintro e w2 ⟨rfl, rfl⟩; rw [hro]; simp only [Bool.not_false]))
    exact bodyPost_ret (v := .agg #[.int .i64 4, .int .i64 0, .int .i64 0, .slice none 0 0, .slice none 0 0]) (by simp [results, Tryd.results21, go_sem, r0, r1, r2, r3, r4]) rfl ⟨_, rfl, (((((HB1.out.setCell (by show w.heap.size ≤ w.heap.size + 1; omega) _).setCell (by show w.heap.size ≤ w.heap.size + 1; omega) _).setCell (by show w.heap.size ≤ w.heap.size + 1; omega) _).setCell (by show w.heap.size ≤ w.heap.size + 1; omega) _).setCell (by show w.heap.size ≤ w.heap.size + 1; omega) _), none, 0, 0, none, 0, 0, rfl, rfl, rfl, IntsAt.nil _ _ _ _, IntsAt.nil _ _ _ _⟩
end Go.Proofs.YtdcdgopblbmgoaaDoor

namespace Go.Proofs.YtdcdgopblbmgoaaDoor
open Go.RowKit

/-- What holds at the head of the loop of a run. -/
structure Inv (F : Fn) (args : List Int) (fuel : Nat) (R0 : Out) (w : World) (a : Option Addr) (n c m ob gh ch Bt : Nat) (s : RS) (k gv : Nat) (ta : Option Addr) (nt ct : Nat) (wr : World) : Prop where
  below : Below w.heap.size w wr
  fb : FB wr w.heap.size m a n c
  obl : w.heap.size + 1 < ob
  ghl : w.heap.size + 1 < gh
  gho : gh < ob
  obt : ob < Bt
  rb : RB wr (w.heap.size + 1)
  obx : OB wr ob 3 0 k ta nt ct gh ch
  mem : RunMem wr Bt gv gh 2 (.slice ta nt ct) s.vals s.hp s.tr
  bts : Bt ≤ wr.heap.size
  gvl : ob < gv
  sb : s.b < n
  vl : s.vals.length = m
  hl : s.hp.length = 32
  tl : nt ≤ k
  kf : k ≤ fuel
  run : runR F args (fuel - k) k s = R0

/-- An instruction has been carried out. -/
theorem Inv.next {F : Fn} {args : List Int} {fuel : Nat} {R0 : Out} {w : World} {a : Option Addr} {n c m ob gh ch Bt : Nat} {s : RS} {k gv : Nat} {ta : Option Addr} {nt ct : Nat} {wr W w3 : World} (h : Inv F args fuel R0 w a n c m ob gh ch Bt s k gv ta nt ct wr) (hk : k < fuel)
    (hW : Kb wr.heap.size ob ob wr W) (hK : Kb Bt gv gh W w3) {ta' : Option Addr} {nt' ct' pc : Nat} {vals hp tr : List Int} (hM : RunMem w3 Bt gv gh 2 (.slice ta' nt' ct') vals hp tr) (ho : OB W ob 3 0 (k + 1 : Nat) ta nt ct gh ch)
    (hv : vals.length = m) (hh : hp.length = 32) (ht : nt' ≤ k + 1) (hr : runR F args (fuel - (k + 1)) (k + 1) ⟨s.b, pc, vals, hp, tr⟩ = R0) :
    Inv F args fuel R0 w a n c m ob gh ch Bt ⟨s.b, pc, vals, hp, tr⟩ (k + 1) gv ta' nt' ct' (((((w3.setCell ⟨ob, 0, none⟩ (.int .i64 3)).setCell ⟨ob, 1, none⟩ (.int .i64 0)).setCell ⟨ob, 2, none⟩ (.int .i64 (k + 1 : Nat))).setCell ⟨ob, 3, none⟩ (.slice ta' nt' ct')).setCell ⟨ob, 4, none⟩ (.slice (some ⟨gh, 0, none⟩) 32 ch)) := by
  have hgl := h.gvl
  have h1 := h.obl
  have h2 := h.ghl
  have h3 := h.gho
  have h4 := h.obt
  have h5 := h.bts
  have hws := h.below.size
  have hWs := hW.size
  have hKs := hK.size
  have hb3 : Below w.heap.size w w3 := h.below.trans ((hW.below (by omega) (by omega) (by omega)).trans (hK.below (by omega) (by omega) (by omega)))
  have hrt : (Value.slice ta' nt' ct').ownBlock ≠ some ob := fun e => by have := (hM.own.lt _ e).1; omega
  have far : ∀ b, b < Bt → b ≠ gv → b ≠ gh → b ≠ ob → w3.heap[b]? = wr.heap[b]? := fun b q1 q2 q3 q4 => (hK.block b q1 q2 q3).trans (hW.far (by omega) q4)
  have fs : ∀ (i : Nat) (v : Value) (W' : World) (b : Nat), b ≠ ob → (W'.setCell ⟨ob, i, none⟩ v).heap[b]? = W'.heap[b]? := fun i v W' b q => Below.heap_setCell _ _ _ _ q
  have f5 : ∀ b, b ≠ ob → (((((w3.setCell ⟨ob, 0, none⟩ (.int .i64 3)).setCell ⟨ob, 1, none⟩ (.int .i64 0)).setCell ⟨ob, 2, none⟩ (.int .i64 (k + 1 : Nat))).setCell ⟨ob, 3, none⟩ (.slice ta' nt' ct')).setCell ⟨ob, 4, none⟩ (.slice (some ⟨gh, 0, none⟩) 32 ch)).heap[b]? = w3.heap[b]? := fun b q => by rw [fs _ _ _ _ q, fs _ _ _ _ q, fs _ _ _ _ q, fs _ _ _ _ q, fs _ _ _ _ q]
  refine ⟨?_, ?_, h1, h2, h3, h4, ?_, ?_, ⟨hM.vals.keep (f5 _ (by omega)), hM.heap.keep (f5 _ (by omega)), own_keep hM.own (fun b e => f5 b (fun e2 => hrt (by rw [e, e2]))), hM.ne, hM.tvals, hM.theap⟩, ?_, hgl, h.sb, hv, hh, ht, by omega, hr⟩
  · exact (((((hb3.setCell (by show w.heap.size ≤ ob; omega) _).setCell (by show w.heap.size ≤ ob; omega) _).setCell (by show w.heap.size ≤ ob; omega) _).setCell (by show w.heap.size ≤ ob; omega) _).setCell (by show w.heap.size ≤ ob; omega) _)
  · exact h.fb.keep ((f5 _ (by omega)).trans (far _ (by omega) (by omega) (by omega) (by omega)))
  · exact h.rb.keep ((f5 _ (by omega)).trans (far _ (by omega) (by omega) (by omega) (by omega)))
  · exact (ho.keep (hK.block ob h4 (by omega) (by omega))).five 3 0 (k + 1 : Nat) ta' nt' ct'
  · simp only [size_setCell]; omega
/-- A block has been entered. -/
theorem Inv.enter {F : Fn} {args : List Int} {fuel : Nat} {R0 : Out} {w : World} {a : Option Addr} {n c m ob gh ch Bt : Nat} {s : RS} {k gv : Nat} {ta : Option Addr} {nt ct : Nat} {wr W w3 : World} (h : Inv F args fuel R0 w a n c m ob gh ch Bt s k gv ta nt ct wr) (hk : k < fuel)
    (hW : Kb wr.heap.size ob ob wr W) (ho : OB W ob 3 0 (k + 1 : Nat) ta nt ct gh ch) (hb : Below W.heap.size W w3) {g to : Nat} (hg : W.heap.size ≤ g) {vals : List Int} (hi : IntsW w3 g vals) (hv : vals.length = m) (hto : to < n)
    (hr : runR F args (fuel - (k + 1)) (k + 1) ⟨to, 0, vals, s.hp, s.tr⟩ = R0) :
    Inv F args fuel R0 w a n c m ob gh ch Bt ⟨to, 0, vals, s.hp, s.tr⟩ (k + 1) g ta nt ct w3 := by
  have hgl := h.gvl
  have h1 := h.obl
  have h2 := h.ghl
  have h3 := h.gho
  have h4 := h.obt
  have h5 := h.bts
  have h6 := h.tl
  have hws := h.below.size
  have hWs := hW.size
  have hbs := hb.size
  have hghl := h.mem.heap.lt
  have far : ∀ b, b < wr.heap.size → b ≠ ob → w3.heap[b]? = wr.heap[b]? := fun b q1 q2 => (hb.block b (by omega)).trans (hW.far q1 q2)
  have hno : ∀ b, (Value.slice ta nt ct).ownBlock = some b → b ≠ ob := fun b e e2 => by have := (h.mem.own.lt _ e).1; omega
  refine ⟨h.below.trans ((hW.below (by omega) (by omega) (by omega)).trans (hb.mono (by omega))), h.fb.keep (far _ (by omega) (by omega)), h1, h2, h3, h4, h.rb.keep (far _ (by omega) (by omega)), ho.keep (hb.block ob (by omega)),
    ⟨hi, h.mem.heap.keep (far _ hghl (by omega)), own_keep h.mem.own (fun b e => far b (h.mem.own.lt _ e).2 (hno b e)), by omega, fun e => by have := (h.mem.own.lt _ e).2; omega, h.mem.theap⟩, by omega, by omega, hto, hv, h.hl, by omega, by omega, hr⟩

/-- The answer is given. -/
theorem Inv.give {F : Fn} {args : List Int} {fuel : Nat} {R0 : Out} {w : World} {a : Option Addr} {n c m ob gh ch Bt : Nat} {s : RS} {k gv : Nat} {ta : Option Addr} {nt ct : Nat} {wr W : World} (h : Inv F args fuel R0 w a n c m ob gh ch Bt s k gv ta nt ct wr)
    (hW : Kb wr.heap.size (w.heap.size + 1) ob wr W) (code value : Int) (steps : Nat) : Below w.heap.size w W ∧ OutAt W w.heap.size W.heap.size (.agg #[.int .i64 code, .int .i64 value, .int .i64 steps, .slice ta nt ct, .slice (some ⟨gh, 0, none⟩) 32 ch]) ⟨code, value, steps, s.tr, s.hp⟩ := by
  have h1 := h.obl
  have h2 := h.ghl
  have h3 := h.gho
  have h4 := h.obt
  have h5 := h.bts
  have hws := h.below.size
  have hWs := hW.size
  have hghl := h.mem.heap.lt
  have far : ∀ b, b < wr.heap.size → b ≠ w.heap.size + 1 → b ≠ ob → W.heap[b]? = wr.heap[b]? := fun b q1 q2 q3 => hW.block b q1 q2 q3
  have hno : ∀ b, (Value.slice ta nt ct).ownBlock = some b → Bt ≤ b ∧ b < wr.heap.size := fun b e => h.mem.own.lt _ e
  have ho := own_keep (w1 := W) h.mem.own (fun b e => far b (hno b e).2 (by have := hno b e; omega) (by have := hno b e; omega))
  obtain ⟨a1, c1, e1, hi1⟩ := ints_owned ho
  obtain ⟨e2, e3, e4⟩ := Value.slice.inj e1
  subst e2
  refine ⟨h.below.trans (hW.below (by omega) (by omega) (by omega)), ta, nt, ct, _, 32, ch, rfl, e3, h.hl.symm, hi1.mono (by omega) (Nat.le_refl _), ?_⟩
  exact (h.mem.heap.keep (far _ hghl (by omega) (by omega))).at ⟨by omega, by omega⟩
end Go.Proofs.YtdcdgopblbmgoaaDoor
