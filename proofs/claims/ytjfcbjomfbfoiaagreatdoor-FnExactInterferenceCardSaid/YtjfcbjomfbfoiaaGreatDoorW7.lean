import Derived.Test.YtjfcbjomfbfoiaaGreatDoorW5
import Derived.RangeFuncNested
import Derived.RangeFuncBound
import Derived.RangeFuncCalls
import Derived.RangeFuncLeaves
import Derived.Shelf.Abstract
import Derived.Shelf.RegionOpen
import Derived.WalkKit
import Derived.OwnWalkIn
import Derived.TacticsInMore
import Derived.LoopNIn
import Derived.LoopIn
import Derived.OrdersIn
import Derived.OrdersHeld
import Derived.Deep.RegionHeld
namespace Go.Proofs.YtjfcbjomfbfoiaaGreatDoor
open Go.RowKit
def hasI (xs : List Int) (x : Int) : Bool := xs.contains x
set_option maxHeartbeats 400000 in
theorem l1Has_any (a : Option Addr) (n c : Nat) (x : Int) (xs : List Int) (L B : Nat) (w : World) (ha : Hid (IntsAt w L B a xs)) (hx : Hid (n = xs.length)) (hn : n ≤ 1048576) :
    Calls Tryz.prog 29 #[.slice a n c, .int .i64 x] w fun e w' => e = .returned (.bool (hasI xs x)) ∧ w' = w := by
  go_enter Tryz.func29, Tryz.ntmps29
  go_wp2
  go_loop [5] (fun i => ∃ k : Nat, k ≤ n ∧ i = .int .i64 k ∧ Hid (∀ j (h : j < xs.length), j < k → xs[j] ≠ x)) (fun i => n - (intOf i).toNat)
  case atStart => exact ⟨0, Nat.zero_le _, rfl, fun j hj h => absurd h (by omega)⟩
  case round =>
    obtain ⟨k, hk, rfl, hno⟩ := hrel
    by_cases hlt : k < n
    · have hkx : k < xs.length := by have := hx.out; omega
      obtain ⟨b, o, rfl, _, hc⟩ := ha.out k hkx
      by_cases he : xs[k] = x
      · have hb : (xs[k] == x) = true := by simp [he]
        have HE := hide he
        clear he
        go_wp2
        go_ret
        exact ⟨ret_bool (by unfold hasI; rw [eq_comm, List.contains_iff_mem, ← HE.out]; exact List.getElem_mem hkx), rfl⟩
      · have hb : (xs[k] == x) = false := by simp [he]
        have HE := hide he
        clear he
        go_wp2
        go_round
        case rel => exact ⟨k + 1, by omega, by go_num, fun j hj h => if e : j = k then by subst e; exact HE.out else hno.out j hj (by omega)⟩
        case measure => simp [intOf]; omega
    · go_wp2
      go_ret
      exact ⟨ret_bool (by
        rw [eq_comm, Bool.eq_false_iff]
        intro hc
        obtain ⟨j, hj, e⟩ := List.getElem_of_mem (List.contains_iff_mem.1 (show xs.contains x = true from hc))
        exact hno.out j hj (by have := hx.out; omega) e), rfl⟩
theorem targets_has (t : Ter) (b : Int) : t.targets.contains b = true ↔ (t.kind = 1 ∧ t.to = b) ∨ (t.kind = 2 ∧ (t.to = b ∨ t.els = b)) := by
  unfold Ter.targets
  by_cases h1 : t.kind = 1
  · rw [if_pos h1]
    simp only [h1, true_and, List.contains_iff_mem, List.mem_singleton]
    constructor
    · intro h; exact Or.inl h.symm
    · rintro (h | ⟨h, _⟩)
      · exact h.symm
      · omega
  · rw [if_neg h1]
    by_cases h2 : t.kind = 2
    · rw [if_pos h2]
      simp only [h2, true_and, List.contains_iff_mem, List.mem_cons, List.not_mem_nil, or_false]
      constructor
      · rintro (h | h)
        · exact Or.inr (Or.inl h.symm)
        · exact Or.inr (Or.inr h.symm)
      · rintro (⟨h, _⟩ | h | h)
        · omega
        · exact Or.inl h.symm
        · exact Or.inr h.symm
    · rw [if_neg h2]
      simp [h1, h2]
theorem predsFrom_snoc (x : Blk) (b : Int) : ∀ (xs : List Blk) (i : Nat), predsFrom (xs ++ [x]) i b = predsFrom xs i b ++ (if x.term.targets.contains b then [((i + xs.length : Nat) : Int)] else [])
  | [], i => by simp [predsFrom]
  | y :: ys, i => by
    simp only [List.cons_append, predsFrom]
    have e : i + 1 + ys.length = i + (ys.length + 1) := by omega
    rw [predsFrom_snoc x b ys (i + 1), List.append_assoc, e, List.length_cons]
theorem predsFrom_len (b : Int) : ∀ (xs : List Blk) (i : Nat), (predsFrom xs i b).length ≤ xs.length
  | [], _ => Nat.le_refl _
  | y :: ys, i => by
    simp only [predsFrom, List.length_append, List.length_cons]
    have := predsFrom_len b ys (i + 1)
    split <;> simp <;> omega
/-- A row of numbers that the call owns, read as numbers. -/
theorem ints_owned {w : World} {base e : Nat} {v : Value} {n : Nat} {xs : List Int} (h : w.ownsRow base e 1 v n (xs.map (Value.int .i64))) : ∃ a c, v = .slice a xs.length c ∧ IntsAt w base w.heap.size a xs := by
  obtain ⟨hl, h | ⟨g, cap, cur, rfl, hg, hh, hc, _, hs, ht⟩⟩ := h
  · obtain ⟨rfl, rfl⟩ := h
    have : xs = [] := by simpa using hl
    subst this
    exact ⟨_, _, rfl, fun i hi => absurd hi (by simp)⟩
  · simp only [Nat.mul_one, List.length_map] at hl hs ht
    subst hl
    refine ⟨_, _, rfl, fun i hi => ⟨g, 0, rfl, ⟨hg, ?_⟩, ?_⟩⟩
    · exact (Array.getElem?_eq_some_iff.1 hh).1
    · have h1 : (cur.toList.take xs.length)[i]? = some (Value.int .i64 xs[i]) := by rw [ht]; simp [hi]
      rw [List.getElem?_take_of_lt hi] at h1
      simp only [World.cell?, hh, Nat.zero_add]
      simpa using h1
theorem Tryz.info2' : (Tryz.prog.info? 2).map (fun i => (i.zero, i.size, i.bytes)) = some (some (.int .i64 0), 1, 8) := by kernel_rfl
/-- Behind an append to a row of the call's own. -/
theorem grown_block {W w' : World} {base e s : Nat} {u : Value} {n : Nat} {xs : List Value} (hg : W.grownBy w' u.ownBlock) (ho : W.ownsRow base e s u n xs) {b : Nat} (hb : b < base) (hz : b < W.heap.size) : w'.heap[b]? = W.heap[b]? :=
  hg.block b hz (fun h => by have := (ho.lt b h.symm).1; omega)
theorem grown_below {w W w' : World} {B base e s : Nat} {u : Value} {n : Nat} {xs : List Value} (h : Below B w W) (hg : W.grownBy w' u.ownBlock) (ho : W.ownsRow base e s u n xs) (hb : B ≤ base) (hz : B ≤ W.heap.size) : Below B w w' :=
  h.grown hg hz (fun k hk => by have := (ho.lt k hk).1; omega)
theorem own_empty (w : World) (o : Obj) : ((w.alloc o).alloc (.cells #[] 2)).ownsRow (w.heap.size + 1) 2 1 (.slice (some ⟨w.heap.size + 1, 0, none⟩) 0 0) 0 [] := by
  have h := World.ownsRow_lit (base := w.heap.size + 1) (e := 2) (size := 1) (w.alloc o) #[] 0 (by simp) (by simp) rfl
  rw [World.size_alloc] at h
  exact h
theorem ints_snoc (xs : List Int) (x : Int) : (xs ++ [x]).map (Value.int .i64) = xs.map (Value.int .i64) ++ [.int .i64 x] := by simp
set_option maxHeartbeats 1000000 in
theorem l1Preds_any (v : Int) (a : Option Addr) (n c : Nat) (q : Int) (xs : List Blk) (L B : Nat) (w : World) (ha : Hid (BlksAt w L B a xs)) (hx : Hid (n = xs.length)) (hn : n ≤ 1048576) (hB : B ≤ w.heap.size) :
    Calls Tryz.prog 54 #[.agg #[.int .i64 v, .slice a n c], .int .i64 q] w fun e w' => ∃ a' c', e = .returned (.slice a' (predsFrom xs 0 q).length c') ∧ Below w.heap.size w w' ∧ IntsAt w' w.heap.size w'.heap.size a' (predsFrom xs 0 q) := by
  obtain ⟨i0, hi0, hz0, hz1, hz2⟩ := info_parts Tryz.info2'
  go_enter Tryz.func54, Tryz.ntmps54
  go_wp2
  go_loopw [5, 6] (fun u i wr => ∃ k : Nat, k ≤ n ∧ i = .int .i64 k ∧ Below w.heap.size w wr ∧ w.heap.size < wr.heap.size ∧ wr.cell? ⟨w.heap.size, 1, none⟩ = some (.slice a n c) ∧ wr.ownsRow (w.heap.size + 1) 2 1 u (predsFrom (xs.take k) 0 q).length ((predsFrom (xs.take k) 0 q).map (Value.int .i64))) (fun _ i _ => n - (intOf i).toNat)
  case atStart => exact ⟨0, Nat.zero_le _, rfl, balloc (balloc (Below.refl _ _) _) _, by simp; omega, by simp, own_empty _ _⟩
  case round =>
    obtain ⟨k, hk, rfl, hw, hsz, hcell, hown⟩ := hrel
    by_cases hlt : k < n
    · have hkx : k < xs.length := by have := hx.out; omega
      obtain ⟨b, o, rfl, ⟨_, hbB⟩, hc⟩ := ha.out k hkx
      obtain ⟨pa, pc, ia, ic, _, _, ⟨e2, e3, e4, e5⟩, _, _⟩ := hc.keep (hw.mono hB) (by omega)
      have hnx : Hid (predsFrom (xs.take (k + 1)) 0 q = predsFrom (xs.take k) 0 q ++ (if xs[k].term.targets.contains q then [(k : Int)] else [])) := by
        show _ = _
        rw [take_next _ _ hkx, predsFrom_snoc]
        simp [Nat.min_eq_left (Nat.le_of_lt hkx)]
      have hpl : (predsFrom (xs.take k) 0 q).length ≤ 1048576 := by have := predsFrom_len q (xs.take k) 0; simp at this; omega
      have HO := hide hown
      clear hown hc
      have hth := hide (targets_has xs[k].term q)
      generalize xs[k] = X at *
      by_cases hin : X.term.targets.contains q = true
      · have HN : Hid (predsFrom (xs.take (k + 1)) 0 q = predsFrom (xs.take k) 0 q ++ [(k : Int)]) := by have := hnx.out; rw [if_pos hin] at this; exact this
        have hcs := hth.out.1 hin
        clear hin hnx hth
        generalize predsFrom (xs.take k) 0 q = ps at *
        have hcs' : (X.term.kind = 1 ∧ X.term.to = q) ∨ (X.term.kind = 2 ∧ X.term.to = q) ∨ (X.term.kind = 2 ∧ X.term.to ≠ q ∧ X.term.els = q) := by omega
        clear hcs
        rcases hcs' with ⟨d1, d2⟩ | ⟨d1, d2⟩ | ⟨d1, d3, d2⟩
        all_goals
          go_wp2_with (at_builtin; refine wpList_append_own _ rfl _ _ 52 rfl (w.heap.size + 1) 2 i0 (.int .i64 0) 1 8 Tryz.underlying52 hi0 hz0 hz1 hz2 rfl (by decide) _ _ _ rfl ((HO.out.alloc _).alloc _) ⟨wr.heap.size + 1, 0, none⟩ 1 1 [.int .i64 k] rfl rfl ?c1 ?c2 ?c3 ?c4 ?c5 ?_)
          case c1 =>
            intro j u hj
            match j, hj with
            | 0, hj => simp at hj; subst hj; simp [Addr.add]
          case c2 => intro u hu; simp at hu; subst hu; rfl
          case c3 => unfold maxLen; omega
          case c4 => omega
          case c5 => simp; omega
          intro v1 w1 hown1 hgrow1 _
          have HO1 := hide hown1
          clear hown1
          go_wp2
          have hb2 : Below w.heap.size w w1 := grown_below (balloc (balloc hw _) _) hgrow1 ((HO.out.alloc _).alloc _) (by omega) (by simp; omega)
          have hbk := grown_block hgrow1 ((HO.out.alloc _).alloc _) (b := w.heap.size) (by omega) (by simp; omega)
          have hsz1 := hgrow1.size
          simp at hsz1
          exact ⟨⟨k + 1, by omega, by go_num, hb2, by omega, (cell_of hbk).trans (((balloc (balloc (Below.refl wr.heap.size wr) _) _).cell (p := ⟨w.heap.size, 1, none⟩) hsz).trans hcell), by rw [HN.out, ints_snoc]; simpa using HO1.out⟩, by simp [intOf]; omega⟩
      · have HN : Hid (predsFrom (xs.take (k + 1)) 0 q = predsFrom (xs.take k) 0 q) := by have := hnx.out; rw [if_neg hin, List.append_nil] at this; exact this
        have hcs : ¬ ((X.term.kind = 1 ∧ X.term.to = q) ∨ (X.term.kind = 2 ∧ (X.term.to = q ∨ X.term.els = q))) := fun h => hin (hth.out.2 h)
        clear hin hnx hth
        generalize predsFrom (xs.take k) 0 q = ps at *
        have hcs' : (X.term.kind = 1 ∧ (X.term.to == q) = false) ∨ (X.term.kind = 2 ∧ (X.term.to == q) = false ∧ (X.term.els == q) = false) ∨ ((X.term.kind == 1) = false ∧ (X.term.kind == 2) = false) := by
          simp only [beq_eq_false_iff_ne]; omega
        clear hcs
        rcases hcs' with ⟨d1, d2⟩ | ⟨d1, d2, d3⟩ | ⟨d1, d2⟩
        all_goals
          go_wp2
          exact ⟨⟨k + 1, by omega, by go_num, balloc hw _, by simp; omega, ((balloc (Below.refl wr.heap.size wr) _).cell (p := ⟨w.heap.size, 1, none⟩) hsz).trans hcell, by rw [HN.out]; exact HO.out.alloc _⟩, by simp [intOf]; omega⟩
    · go_wp2
      go_ret
      have e := List.take_of_length_le (l := xs) (i := k) (by have := hx.out; omega)
      rw [e] at hown
      obtain ⟨a1, c1, rfl, hi1⟩ := ints_owned hown
      exact ⟨_, _, rfl, hw, hi1.mono (by omega) (Nat.le_refl _)⟩
end Go.Proofs.YtjfcbjomfbfoiaaGreatDoor

namespace Go.Proofs.YtjfcbjomfbfoiaaGreatDoor
open Go.RowKit
variable {F : Fence} {n : Nat} {P : Program} {α : Type}
/-- The iterator's promise to a caller that never leaves the loop early, where it may itself lay and turn blocks that are no cells, behind all that lay when it was called. -/
def SeqN (F : Fence) (n : Nat) (P : Program) (g : Nat) (lb : Array Value) (encs : α → Array Value) (Px : α → World → Prop) (Kp : World → World → Prop) (S : List α → Prop) (N : Nat) (w : World) : Prop :=
  ∀ (l : Nat) (J : List α → World → Prop) (W : World), Below w.heap.size w W → l < W.heap.size → OwnFrom W.heap.size J →
    (∀ pre x V, J pre V → Px x V → pre.length < N → YieldAt F (n - 1) P l (encs x) V fun e V' => e = .returned (.bool true) ∧ J (pre ++ [x]) V' ∧ Kp V V' ∧ KeepsFrom W.heap.size V V') →
    J [] W → CallsIn F n P g (#[.func (.yield l) #[] #[]] ++ lb) W fun e V => (∃ v, e = .returned v) ∧ ∃ xs, S xs ∧ J xs V
/-- The loop's record. -/
def recO (fn : FuncId) (tm : Array Value) (ps : Array Tmp) (asg bo : Code) (D : Nat) (st : LoopState) (pe : Option Code) : Loop := { state := st, pending := pe, fn, tmps := tm, params := ps, assign := asg, body := bo, defers := D }
/-- Record and block of deferred calls lie. -/
def RecAt (W : World) (D : Nat) (r : Loop) : Prop := W.heap[D + 1]? = some (.loop r) ∧ W.heap[D]? = some (.deferred (some []))
theorem RecAt.put {W : World} {D : Nat} {r : Loop} (h : RecAt W D r) (r' : Loop) : RecAt (W.putObj (D + 1) (.loop r')) D r' :=
  ⟨World.putObj_heap_same (Array.getElem?_eq_some_iff.1 h.1).1, (World.putObj_heap_other (by omega)).trans h.2⟩
theorem RecAt.own {W V : World} {D : Nat} {r : Loop} {row : Option Nat} (h : RecAt W D r) (g : W.grownBy V row) (hr : ∀ k, row = some k → D + 2 ≤ k) : RecAt V D r :=
  ⟨(g.block _ (Array.getElem?_eq_some_iff.1 h.1).1 (fun e => by have := hr _ e.symm; omega)).trans h.1, (g.block _ (Array.getElem?_eq_some_iff.1 h.2).1 (fun e => by have := hr _ e.symm; omega)).trans h.2⟩
theorem RecAt.keeps {W V : World} {D : Nat} {r : Loop} (h : RecAt W D r) (k : KeepsOthers W V) : RecAt V D r := ⟨k.same _ _ h.1 rfl, k.same _ _ h.2 rfl⟩
/-- How a round ends. -/
theorem RecAt.fin {W : World} {D : Nat} {fn : FuncId} {tm : Array Value} {ps : Array Tmp} {asg bo : Code} (h : RecAt W D (recO fn tm ps asg bo D .busy none)) (j : Option Code) : (Instr.endRound (D + 1) j).run P W = .ok (.bool j.isNone) (W.putObj (D + 1) (.loop (recO fn tm ps asg bo D (if j.isNone then .ready else .done) j))) := run_endRound j h.1
theorem rangeN {g : Operand} {ps : Array Tmp} {asg bo : Code} {Q : Exit → Act → World → Prop} {a : Act} {w : World} (hro : F.round = none) (h1 : 1 ≤ n) {gf : Nat} {lb : Array Value} (hg : a.eval g = .func (.func gf) #[] lb) (hFg : F.fn gf) (eg : ∀ args w, (callFunc gf args).run P w = .ok (.enter gf args) w)
    {encs : α → Array Value} {Px : α → World → Prop} {Kp : World → World → Prop} {S : List α → Prop} {N : Nat} {w0 : World} (hseq : SeqN F (n - 1) P gf lb encs Px Kp S N w0) (hPx : OwnFrom w.heap.size Px) (hKt : ∀ {A B C : World}, Kp A B → Kp B C → Kp A C) (hKb : ∀ (W : World) (l : Nat) (o o' : Obj), w.heap.size ≤ l → W.heap[l]? = some o → o.isCells = false → Kp W (W.putObj l o')) (hb0 : Below w0.heap.size w0 w) (hps : ∀ x, (encs x).size = ps.size)
    (I : List α → World → Prop) (hI : OwnFrom w.heap.size I) (h0 : I [] w) (Ax : α → Act → World → Prop) (hAx : ∀ x a', OwnFrom w.heap.size (fun (_ : Unit) W => Ax x a' W))
    (hassign : ∀ (l : Nat) (pre : List α) (x : α) (W : World) (K : Act → World → Prop), I pre W → Px x W → (∀ a' W', KeepsOthers W W' → Kp W W' → I pre W' → Px x W' → Ax x a' W' → K a' W') → asg.wpIn (F.inRound l) (n - 1 - 1) P (Exit.then K (fun _ _ _ => False)) { tmps := (ps.zip (encs x)).foldl (fun t (p, v) => t.setIfInBounds p v) a.tmps, defers := [] } W)
    (hbody : ∀ (l : Nat) (pre : List α) (x : α) (a' : Act) (W : World), I pre W → Px x W → Ax x a' W → pre.length < N → bo.wpIn (F.inRound l) (n - 1 - 1) P (ownPostK Kp I (fun _ _ _ => False) (pre ++ [x]) W) a' W)
    (hdone : ∀ (D : Nat) (xs : List α) (W : World), w.heap.size ≤ D → S xs → I xs W → W.heap[D]? = some (.deferred (some [])) → Q .normal { a with defers := { target := .collected D, args := #[] } :: a.defers } W) :
    (Code.rangeFunc g ps asg bo).wpIn F n P Q a w := by
  refine wpIn_rangeFunc (fun fn hfn => ?_)
  rw [hro]
  have hrun := run_enterLoop_outer (P := P) (w := w) fn a.tmps ps asg bo
  generalize hW : (w.alloc (.deferred (some []))).alloc (.loop { state := .ready, pending := none, fn, tmps := a.tmps, params := ps, assign := asg, body := bo, defers := w.heap.size }) = W1 at hrun
  have hR1 : RecAt W1 w.heap.size (recO fn a.tmps ps asg bo w.heap.size .ready none) := by
    subst hW
    refine ⟨?_, ?_⟩
    · have := World.alloc_heap_new (w.alloc (.deferred (some []))) (.loop (recO fn a.tmps ps asg bo w.heap.size .ready none))
      rwa [World.size_alloc] at this
    · exact (Below.heap_alloc _ _ _ (by simp)).trans (World.alloc_heap_new w _)
  have hz1 : W1.heap.size = w.heap.size + 2 := by subst hW; simp
  have hI1 : I [] W1 := by subst hW; exact hI.alloc _ (hI.alloc _ h0)
  have hB1 : Below w0.heap.size w0 W1 := by
    subst hW
    exact hb0.trans ((balloc (balloc (Below.refl w.heap.size w) _) _).mono hb0.size)
  clear hW
  refine ⟨_, _, W1, { target := .fn (.func gf) lb, args := #[.func (.yield (w.heap.size + 1)) #[] #[]] }, W1, gf, #[.func (.yield (w.heap.size + 1)) #[] #[]] ++ lb, W1, hrun, ?_, ?_, ?_, fun _ => h1, ?_⟩
  · simp only [resolve, hg]
    simp [go_sem]
  · intro f' hf'
    simp [Target.leads] at hf'
    subst hf'
    exact hFg
  · simp [invoke, go_sem, eg]
  · have ow : ∀ {r : Loop} {A V : World} {row : Option Nat}, RecAt A w.heap.size r → A.grownBy V row → (∀ k, row = some k → W1.heap.size ≤ k ∧ ∃ o : Obj, A.heap[k]? = some o ∧ o.isCells = false) → RecAt V w.heap.size r := fun h k q => h.own k (fun z e => by have := (q z e).1; omega)
    have fr : ∀ {A : World} {row : Option Nat}, (∀ k, row = some k → W1.heap.size ≤ k ∧ ∃ o : Obj, A.heap[k]? = some o ∧ o.isCells = false) → ∀ k, row = some k → w.heap.size ≤ k ∧ ∃ o : Obj, A.heap[k]? = some o ∧ o.isCells = false := fun q k e => ⟨by have := (q k e).1; omega, (q k e).2⟩
    refine (hseq (w.heap.size + 1) (fun pre W => I pre W ∧ RecAt W w.heap.size (recO fn a.tmps ps asg bo w.heap.size .ready none)) W1 hB1 (by omega)
      (fun s A V row hs k q => ⟨hI s A V row hs.1 k (fr q), ow hs.2 k q⟩) ?_ ⟨hI1, hR1⟩).mono ?_
    · rintro pre x W ⟨hi, hr⟩ hpx hlen
      have hy : (Instr.yield (w.heap.size + 1) (encs x)).run P W = _ := run_yield (P := P) hr.1 (hps x)
      refine ⟨_, _, _, _, hy, roundIn_of_wpIn hfn (hassign _ pre x W _ hi hpx (fun a' W' hko hkp hi' hpx' hax => ?_))⟩
      have hr' := hr.keeps hko
      refine ⟨_, run_beginRound hr'.1 rfl, ?_⟩
      have hrb : RecAt (W'.putObj (w.heap.size + 1) (.loop (recO fn a.tmps ps asg bo w.heap.size .busy none))) w.heap.size (recO fn a.tmps ps asg bo w.heap.size .busy none) := hr'.put _
      have hkb : Kp W (W'.putObj (w.heap.size + 1) (.loop (recO fn a.tmps ps asg bo w.heap.size .busy none))) := hKt hkp (hKb _ _ _ _ (by omega) hr'.1 rfl)
      refine wpIn_mono (hbody _ pre x a' _ (hI.putObj _ hi' (by omega) hr'.1 rfl) (hPx.putObj _ hpx' (by omega) hr'.1 rfl) ((hAx x a').putObj (s := ()) _ hax (by omega) hr'.1 rfl) hlen) ?_
      rintro e a3 V hp
      cases e with
      | normal =>
        have hv := hrb.keeps hp.1
        exact ⟨_, _, hv.fin none, ⟨rfl, ⟨hI.putObj _ hp.2.2 (by omega) hv.1 rfl, hv.put _⟩, hKt (hKt hkb hp.2.1) (hKb _ _ _ _ (by omega) hv.1 rfl), (((hko.from _).trans (KeepsFrom.of_grownBy (grownBy_putObj' W' _ _) (fun j e => by cases e; omega))).trans (hp.1.from _)).trans (KeepsFrom.of_grownBy (grownBy_putObj' V _ _) (fun j e => by cases e; omega))⟩⟩
      | ret => exact hp.2.elim
      | exit id => exact hp.2.elim
      | goto t => exact hp.2.elim
      | panic ch => exact hp.elim
      | outgrown => exact hp.elim
    · rintro e V ⟨⟨v, rfl⟩, xs, hS, hi, hr⟩
      exact ⟨none, _, run_endLoop hr.1 (by simp [recO]), hdone _ xs _ (Nat.le_refl _) hS (hI.putObj _ hi (by omega) hr.1 rfl) (hr.put _).2⟩
end Go.Proofs.YtjfcbjomfbfoiaaGreatDoor

namespace Go.Proofs.YtjfcbjomfbfoiaaGreatDoor
open Go.RowKit Go.Shelf
attribute [local go_sem] Oper.semAt_some
/-- What a round keeps: below n₀ all but some rows, and all cells but those rows. -/
structure KpB (n₀ : Nat) (Ms : Nat → Prop) (V V' : World) : Prop where
  size : V.heap.size ≤ V'.heap.size
  low : ∀ k, k < n₀ → ¬ Ms k → V'.heap[k]? = V.heap[k]?
  cells : ∀ (k : Nat) (o : Obj), ¬ Ms k → V.heap[k]? = some o → o.isCells = true → V'.heap[k]? = some o
theorem KpB.refl {n₀ : Nat} {Ms : Nat → Prop} (V : World) : KpB n₀ Ms V V := ⟨Nat.le_refl _, fun _ _ _ => rfl, fun _ _ _ h _ => h⟩
theorem KpB.trans {n₀ : Nat} {Ms : Nat → Prop} {A B C : World} (h : KpB n₀ Ms A B) (k : KpB n₀ Ms B C) : KpB n₀ Ms A C :=
  ⟨Nat.le_trans h.size k.size, fun i hi hm => (k.low i hi hm).trans (h.low i hi hm), fun i o hm h1 h2 => k.cells i o hm (h.cells i o hm h1 h2) h2⟩
theorem KpB.putObj {n₀ : Nat} {Ms : Nat → Prop} (W : World) (l : Nat) (o o' : Obj) (hl : n₀ ≤ l) (h : W.heap[l]? = some o) (ho : o.isCells = false) : KpB n₀ Ms W (W.putObj l o') := by
  have hg := grownBy_putObj' W l o'
  refine ⟨hg.size, fun k hk _ => ?_, fun k o2 _ h1 h2 => ?_⟩
  · exact World.putObj_heap_other (by omega)
  · exact (World.putObj_heap_other (fun e => by subst e; rw [h] at h1; injection h1 with h1; subst h1; rw [ho] at h2; cases h2)).trans h1
theorem KpB.of_below {n₀ : Nat} {Ms : Nat → Prop} {V V' : World} (h : Below V.heap.size V V') (hn : n₀ ≤ V.heap.size) : KpB n₀ Ms V V' :=
  ⟨h.size, fun k hk _ => h.block k (by omega), fun k o _ h1 _ => (h.block k (Array.getElem?_eq_some_iff.1 h1).1).trans h1⟩
theorem cells_of_cell {V : World} {p : Addr} {v : Value} (h : V.cell? p = some v) : ∃ o : Obj, V.heap[p.block]? = some o ∧ o.isCells = true := by
  unfold World.cell? at h
  cases ho : V.heap[p.block]? with
  | none => simp [ho] at h
  | some o => exact ⟨o, rfl, by cases o <;> simp_all [Obj.isCells]⟩
theorem KpB.block {n₀ : Nat} {Ms : Nat → Prop} {V V' : World} (h : KpB n₀ Ms V V') {p : Addr} {v : Value} (hc : V.cell? p = some v) (hm : ¬ Ms p.block) : V'.heap[p.block]? = V.heap[p.block]? := by
  obtain ⟨o, h1, h2⟩ := cells_of_cell hc
  rw [h1]
  exact h.cells _ _ hm h1 h2
theorem KpB.cell {n₀ : Nat} {Ms : Nat → Prop} {V V' : World} (h : KpB n₀ Ms V V') {p : Addr} {v : Value} (hc : V.cell? p = some v) (hm : ¬ Ms p.block) : V'.cell? p = some v :=
  (World.cell?_of_block (h.block hc hm)).trans hc
def insV (x : Ins) : Value := .agg #[.int .i64 x.op, .int .i64 x.dst, .int .i64 x.a, .int .i64 x.b, .int .i64 x.imm]
/-- The places of a list, from the last on. -/
def bwF (n : Nat) (k : Nat) : List (Fin n) := ((List.finRange n).reverse).take (n - k)
theorem bwF_start (n : Nat) : bwF n n = [] := by simp [bwF]
theorem bwF_len (n k : Nat) : (bwF n k).length = n - k := by simp [bwF]
theorem bwF_step {n q : Nat} (h : q < n) : bwF n q = bwF n (q + 1) ++ [⟨q, h⟩] := by
  unfold bwF
  have e : n - q = (n - (q + 1)) + 1 := by omega
  rw [e, List.take_succ_eq_append_getElem (by simp; omega)]
  congr 1
  simp
  omega
set_option maxRecDepth 100000 in
set_option maxHeartbeats 2000000 in
theorem bwi_in (F : Fence) (n : Nat) (h8 : F.fn 118) (hro : F.round = none) (hn : 1 ≤ n) (l Bs n₀ cap : Nat) (Ms : Nat → Prop) (a : Option Addr) (xs : List Ins) (L B : Nat) (hreach : xs.length ≤ 1000000) (hM : ∀ k, L ≤ k → k < B → ¬ Ms k) (hMs : ¬ Ms Bs) (J Jx : List (Fin xs.length) → World → Prop)
    (hY : ∀ (pre : List (Fin xs.length)) (x : Fin xs.length) (W : World), J pre W → pre.length < xs.length → YieldAt F (n - 1) Tryz.prog l #[.int .i64 ((x : Nat) : Int), insV xs[x]] W fun e W' =>
      (e = .returned (.bool true) ∧ J (pre ++ [x]) W' ∧ KpB n₀ Ms W W') ∨ (e = .returned (.bool false) ∧ Jx (pre ++ [x]) W'))
    (W : World) (hBs : W.cell? ⟨Bs, 0, none⟩ = some (.slice a xs.length cap)) (hc : Hid (InssAt W L B a xs)) (h0 : J [] W) :
    CallsIn F n Tryz.prog 118 #[.func (.yield l) #[] #[], .pointer (some ⟨Bs, 0, none⟩)] W fun e W' => (∃ v, e = .returned v) ∧
      ((∃ ys, ys = bwF xs.length 0 ∧ J ys W') ∨ (∃ pre, True ∧ Jx pre W')) := by
  refine callsIn_of_wp Tryz.func118 rfl h8 ?_ hro
  simp only [Tryz.ntmps118, List.size_toArray, List.length_cons, List.length_nil, Nat.reduceAdd, Nat.reduceSub, Array.replicate_succ, Array.replicate_zero, List.push_toArray, List.append_toArray, List.nil_append, List.cons_append]
  gi_wp2
  gi_loopw [3] (fun i wr => ∃ (k : Nat) (z : Int), k ≤ xs.length ∧ i = .int .i64 z ∧ z + 1 = (k : Int) ∧ J (bwF xs.length k) wr ∧ KpB n₀ Ms W wr)
    (fun i _ => (intOf i + 1).toNat)
  case atStart => exact ⟨xs.length, _, Nat.le_refl _, rfl, by omega, by rw [bwF_start]; exact h0, KpB.refl _⟩
  case round =>
    obtain ⟨k, z, hk, rfl, hzk, hJs, hnx⟩ := hrel
    have hBs' := hnx.cell hBs hMs
    cases k with
    | zero =>
      have hz1 : z = -1 := by omega
      subst hz1
      gi_wp2
      go_end0
      exact ⟨⟨_, rfl⟩, .inl ⟨_, rfl, hJs⟩⟩
    | succ q =>
      have hz1 : z = (q : Int) := by omega
      subst hz1
      have hq : q < xs.length := hk
      obtain ⟨b, o, ea, hbB, hcx⟩ := hc.out q hq
      subst ea
      have hMb := hM b hbB.1 hbB.2
      obtain ⟨q0, q1, q2, q3, q4⟩ := hcx
      have r0 := hnx.cell q0 hMb
      have r1 := hnx.cell q1 hMb
      have r2 := hnx.cell q2 hMb
      have r3 := hnx.cell q3 hMb
      have r4 := hnx.cell q4 hMb
      clear q0 q1 q2 q3 q4
      obtain ⟨fn, tmps, assign, body, hy, hR⟩ := hY _ ⟨q, hq⟩ wr hJs (by rw [bwF_len]; omega)
      have hyy : (Instr.yield l #[.int .i64 ((q : Nat) : Int), .agg #[.int .i64 xs[q].op, .int .i64 xs[q].dst, .int .i64 xs[q].a, .int .i64 xs[q].b, .int .i64 xs[q].imm]]).run Tryz.prog wr = _ := hy
      clear hy
      gi_wp2
      refine hR.mono ?_
      rintro e W3 (⟨rfl, hJ3, hk3⟩ | ⟨rfl, hJx3⟩)
      · gi_wp2
        go_roundw
        case rel => exact ⟨q, _, by omega, rfl, by omega, by rw [bwF_step hq]; exact hJ3, hnx.trans hk3⟩
        case measure => simp [intOf]
      · gi_wp2
        refine bodyPost_ret (results_none rfl _ _ _) rfl ?_
        exact ⟨⟨_, rfl⟩, .inr ⟨_, trivial, hJx3⟩⟩
set_option maxHeartbeats 1000000 in
theorem backwardI_in (F : Fence) (n : Nat) (h6 : F.fn 101) (hro : F.round = none) (a : Option Addr) (len cap : Nat) (w : World) :
    CallsIn F n Tryz.prog 101 #[.slice a len cap] w fun e w' => e = .returned (.func (.func 118) #[] #[.pointer (some ⟨w.heap.size, 0, none⟩)]) ∧ w' = w.alloc (.cells #[.slice a len cap] 75) := by
  refine callsIn_of_wp Tryz.func101 rfl h6 ?_ hro
  simp only [Tryz.ntmps101, List.size_toArray, List.length_cons, List.length_nil, Nat.reduceAdd, Nat.reduceSub, Array.replicate_succ, Array.replicate_zero, List.push_toArray, List.append_toArray, List.nil_append, List.cons_append]
  gi_wp2
  go_ret
  exact ⟨rfl, rfl⟩
/-- What it hands back. -/
theorem backwardI_stops (F : Fence) (n : Nat) (h8 : F.fn 118) (hro : F.round = none) (hn : 1 ≤ n) (Bs n₀ cap : Nat) (Ms : Nat → Prop) (a : Option Addr) (xs : List Ins) (L B : Nat) (hreach : xs.length ≤ 1000000) (hB : B ≤ n₀) (hM : ∀ k, L ≤ k → k < B → ¬ Ms k) (hMs : ¬ Ms Bs) (w : World) (hn0 : n₀ ≤ w.heap.size) (hBs : Bs < w.heap.size)
    (hc : w.cell? ⟨Bs, 0, none⟩ = some (.slice a xs.length cap)) (hI : Hid (InssAt w L B a xs)) :
    SeqStopsK F n Tryz.prog 118 #[.pointer (some ⟨Bs, 0, none⟩)] (fun x : Fin xs.length => #[Value.int .i64 ((x : Nat) : Int), insV xs[x]]) (KpB n₀ Ms) (fun ys => ys = bwF xs.length 0) (fun _ => True) xs.length w := fun l J Jx W hW _ _ hY h0 =>
  bwi_in F n h8 hro hn l Bs n₀ cap Ms a xs L B hreach hM hMs J Jx hY W ((hW.cell (p := ⟨Bs, 0, none⟩) hBs).trans hc) (hide (hI.out.keepS (fun k _ h2 => hW.block k (by omega)))) h0
end Go.Proofs.YtjfcbjomfbfoiaaGreatDoor

namespace Go.Proofs.YtjfcbjomfbfoiaaGreatDoor
open Go.RowKit
section
variable {F : Fence} {n : Nat} {P : Program} {ops : Array Oper} {Q : Exit → Act → World → Prop} {md : Region.Mode} {S : World → Prop}
def noDefer (ops : Array Oper) : Bool := ops.toList.all fun o => match o.op with | .defer _ => false | _ => true
theorem noDefer_spec (h : noDefer ops = true) {j : Nat} {o : Oper} (hj : ops[j]? = some o) : ∀ c, o.op ≠ .defer c := fun c e => by
  have hm : o ∈ ops.toList := by
    obtain ⟨hlt, rfl⟩ := Array.getElem?_eq_some_iff.1 hj
    simp
  have := List.all_eq_true.1 h o hm
  rw [e] at this
  cases this
def YieldsIfI (P : Program) (ops : Array Oper) (S : World → Prop) (o : Oper) (v : Value) (a : Act) : Prop := YieldsIf P ops S o v a ∧ ∀ w, o.about P w a.eval = none
theorem YieldsIfI.wpOpIn {i : Nat} {o : Oper} {v : Value} {a : Act} (hd : ∀ c, o.op ≠ .defer c) (hi : ops[i]? = some o) (hy : YieldsIfI P ops S o v a)
    {K : Act → World → Prop} {w : World} (hS : S w) (h : K (a.put o.dst v) w) : wpOpIn F n P ops Q i K a w := by
  unfold Go.wpOpIn
  simp only [hi]
  have hab : ∀ f, o.about P w a.eval = some f → F.fn f := fun f hf => by rw [hy.2 w] at hf; cases hf
  rcases hy.1 with ⟨hw, hv⟩ | ⟨hw, rfl⟩
  · simp only [hw, if_true, Oper.wpIn, Oper.semAt_plain F a.eval o hd, hv w hS, Oper.uponIn]; exact ⟨hab, h⟩
  · simp only [hw, Bool.false_eq_true, if_false]; exact ⟨hab, h⟩
theorem YieldsIfI.of_same {o : Oper} {v : Value} {a a' : Act} (hy : YieldsIfI P ops S o v a) (he : execOp a'.eval o = execOp a.eval o)
    (hw : Region.wanted o (yielded ops a'.tmps) = Region.wanted o (yielded ops a.tmps)) (hb : ∀ w, o.about P w a'.eval = o.about P w a.eval) : YieldsIfI P ops S o v a' :=
  ⟨hy.1.of_same he hw, fun w => by rw [hb w]; exact hy.2 w⟩
theorem wpOpIn_putIf {j : Nat} {oi oj : Oper} {v : Value} (hdj : ∀ c, oj.op ≠ .defer c) (hj : ops[j]? = some oj) (hap : oi.apart ops oj = true)
    (hsi : ∀ cs b, oi.op ≠ .select cs b) (hsj : ∀ cs b, oj.op ≠ .select cs b)
    (hQ : ∀ c a w, Q (.panic c) (a.put oi.dst v) w → Q (.panic c) a w) {K : Act → World → Prop} {a : Act} {w : World}
    (hy : YieldsIfI P ops S oi v a) (h : wpOpIn F n P ops Q j K (a.put oi.dst v) w) :
    wpOpIn F n P ops Q j (fun a' w' => YieldsIfI P ops S oi v a' ∧ K (a'.put oi.dst v) w') a w := by
  obtain ⟨h1, h2, h3⟩ := Oper.apart_spec hap
  have keep : ∀ (a : Act), YieldsIfI P ops S oi v a → ∀ u, YieldsIfI P ops S oi v (a.put oj.dst u) := fun a hy u =>
    hy.of_same (execOp_put oi hsi a oj.dst u h3) (wanted_put oi a oj.dst u h3) (fun w => about_put oi w a oj.dst u h3)
  have keepD : ∀ d, YieldsIfI P ops S oi v { a with defers := d :: a.defers } := fun d => hy.of_same rfl rfl (fun _ => rfl)
  unfold wpOpIn at *
  simp only [hj] at *
  rw [wanted_put oj a oi.dst v h1, about_put oj w a oi.dst v h1] at h
  split
  · rename_i hw
    simp only [hw, if_true] at h
    unfold Oper.wpIn at *
    rw [about_put oj w a oi.dst v h1] at h
    refine ⟨h.1, ?_⟩
    have h := h.2
    rw [Oper.semAt_plain F _ oj hdj, execOp_put oj hsj a oi.dst v h1] at h
    rw [Oper.semAt_plain F _ oj hdj]
    generalize (execOp a.eval oj).run P w = r at *
    cases r with
    | ok x w' =>
      cases x <;> simp only [Oper.uponIn] at h ⊢
      case value u => exact ⟨keep a hy u, by rw [← Act.put_comm a v u h2]; exact h⟩
      case skip => exact ⟨keep a hy _, by rw [← Act.put_comm a v undef h2]; exact h⟩
      case defer d =>
        refine ⟨keep _ (keepD d) _, ?_⟩
        rw [← Act.put_comm _ v undef h2, ← Act.put_defers]
        exact h
      case enter f args =>
        refine ⟨h.1, CallsIn.mono h.2 fun e w'' he => ?_⟩
        cases e with
        | returned u => exact ⟨keep a hy u, by rw [← Act.put_comm a v u h2]; exact he⟩
        | panicked c => exact hQ _ _ _ he
        | outgrown => exact he
      case row row args => exact ⟨h.1, RowsIn.mono h.2 fun u w'' he => ⟨keep a hy u, by rw [← Act.put_comm a v u h2]; exact he⟩⟩
      case round l f tmps assign body =>
        refine ⟨h.1, RoundIn.mono h.2 fun e w'' he => ?_⟩
        cases e with
        | returned u => exact ⟨keep a hy u, by rw [← Act.put_comm a v u h2]; exact he⟩
        | panicked c => exact hQ _ _ _ he
        | outgrown => exact he
    | halt x w' =>
      cases x <;> simp only [Oper.uponIn] at h ⊢
      case panic u => exact hQ _ _ _ h
  · rename_i hw
    simp only [hw] at h
    exact ⟨h.1, keep a hy _, by rw [← Act.put_comm a v undef h2]; exact h.2⟩
def wpAnyHI (F : Fence) (n : Nat) (P : Program) (md : Region.Mode) (ops : Array Oper) (Q : Exit → Act → World → Prop) (S : World → Prop) : Nat → Array Bool → Act → World → Prop
  | 0, listed, a, w => Region.ready md ops listed = [] ∧ Q .normal a w
  | fuel + 1, listed, a, w =>
    (Region.ready md ops listed = [] → Q .normal a w) ∧
    ∀ i ∈ Region.ready md ops listed, wpOpIn F n P ops Q i (fun a' w' => S w' ∧ wpAnyHI F n P md ops Q S fuel (listed.setIfInBounds i true) a' w') a w
theorem wpAnyIn_of_heldI : ∀ (fuel : Nat) (listed : Array Bool) (a : Act) (w : World), wpAnyHI F n P md ops Q S fuel listed a w → wpAnyIn F n P md ops Q fuel listed a w
  | 0, _, _, _, h => h
  | fuel + 1, _, _, _, h => ⟨h.1, fun i hi => wpOpIn_mono (fun a' w' h' => wpAnyIn_of_heldI fuel _ a' w' h'.2) (h.2 i hi)⟩
theorem wpAnyHI_first {i : Nat} {oi : Oper} {v : Value} (hnd : noDefer ops = true) (hi : ops[i]? = some oi) (hsel : ∀ (j : Nat) (o : Oper) cs b, ops[j]? = some o → o.op ≠ .select cs b)
    (hQ : ∀ c a w, Q (.panic c) (a.put oi.dst v) w → Q (.panic c) a w) :
    ∀ (fuel : Nat) (listed : Array Bool) (a : Act) (w : World),
      (∀ j oj, ops[j]? = some oj → j ≠ i → listed.getD j true = false → (∀ e ∈ oj.after, Region.binds md e = true → e.on ≠ i) → oi.apart ops oj = true) →
      i ∈ Region.ready md ops listed → YieldsIfI P ops S oi v a → S w →
      wpAnyHI F n P md ops Q S fuel (listed.setIfInBounds i true) (a.put oi.dst v) w → wpAnyHI F n P md ops Q S (fuel + 1) listed a w := by
  intro fuel
  induction fuel with
  | zero =>
    intro listed a w _ hr hy hS H
    refine ⟨fun h => (by rw [h] at hr; cases hr), fun j hj => ?_⟩
    by_cases hji : j = i
    · subst hji; exact hy.wpOpIn (noDefer_spec hnd hi) hi hS ⟨hS, H⟩
    · have := ready_mono hj hji
      rw [H.1] at this
      cases this
  | succ fuel ih =>
    intro listed a w hfree hr hy hS H
    refine ⟨fun h => (by rw [h] at hr; cases hr), fun j hj => ?_⟩
    by_cases hji : j = i
    · subst hji; exact hy.wpOpIn (noDefer_spec hnd hi) hi hS ⟨hS, H⟩
    · have h1 := H.2 j (ready_mono hj hji)
      obtain ⟨hjun, oj, hoj, hall⟩ := mem_ready.1 hj
      have hnot : ∀ e ∈ oj.after, Region.binds md e = true → e.on ≠ i := fun e he hb heq => by
        have h1 := hall e he hb
        have h0 := (mem_ready.1 hr).1
        rw [heq] at h1
        rcases Nat.lt_or_ge i listed.size with h' | h'
        · simp [h'] at h0 h1; rw [h0] at h1; cases h1
        · simp [Array.getElem?_eq_none h'] at h1
      have h2 := wpOpIn_putIf (noDefer_spec hnd hoj) hoj (hfree j oj hoj hji hjun hnot) (fun cs b => hsel i oi cs b hi) (fun cs b => hsel j oj cs b hoj) hQ hy h1
      have hfree' : ∀ k ok, ops[k]? = some ok → k ≠ i → (listed.setIfInBounds j true).getD k true = false →
          (∀ e ∈ ok.after, Region.binds md e = true → e.on ≠ i) → oi.apart ops ok = true := fun k ok hk hki hun hno => by
        refine hfree k ok hk hki ?_ hno
        by_cases hjk : j = k
        · subst hjk; exact hjun
        · rw [getD_set_ne true hjk] at hun; exact hun
      refine wpOpIn_mono (fun a' w' h3 => ⟨h3.2.1, ih (listed.setIfInBounds j true) a' w' hfree' (ready_mono hr (Ne.symm hji)) h3.1 h3.2.1 ?_⟩) h2
      rw [Array.setIfInBounds_comm _ _ hji]
      exact h3.2.2
theorem wpAnyHI_take {i : Nat} {oi : Oper} {v : Value} {fuel : Nat} {listed : Array Bool} {a : Act} {w : World} (hi : ops[i]? = some oi) (hnd : noDefer ops = true)
    (hs : Region.noSelect ops = true) (hf : Region.free md ops listed i = true) (hr : (Region.ready md ops listed).contains i = true)
    (hQ : ∀ c a w, Q (.panic c) (a.put oi.dst v) w → Q (.panic c) a w) (hy : YieldsIfI P ops S oi v a) (hS : S w)
    (h : wpAnyHI F n P md ops Q S fuel (listed.setIfInBounds i true) (a.put oi.dst v) w) : wpAnyHI F n P md ops Q S (fuel + 1) listed a w :=
  wpAnyHI_first hnd hi (Region.noSelect_spec hs) hQ fuel listed a w (Region.free_spec hi hf) (by simpa using hr) hy hS h
theorem wpAnyHI_done {listed : Array Bool} {a : Act} {w : World} (hr : Region.ready md ops listed = []) (h : Q .normal a w) :
    ∀ fuel, wpAnyHI F n P md ops Q S fuel listed a w
  | 0 => ⟨hr, h⟩
  | _ + 1 => ⟨fun _ => h, by rw [hr]; simp⟩
def AllReadyHI (F : Fence) (n : Nat) (P : Program) (md : Region.Mode) (ops : Array Oper) (Q : Exit → Act → World → Prop) (S : World → Prop) (fuel : Nat) (listed : Array Bool) (a : Act) (w : World) (rs : List Nat) : Prop :=
  ∀ i ∈ rs, wpOpIn F n P ops Q i (fun a' w' => S w' ∧ wpAnyHI F n P md ops Q S fuel (listed.setIfInBounds i true) a' w') a w
theorem AllReadyHI.nil {fuel : Nat} {listed : Array Bool} {a : Act} {w : World} : AllReadyHI F n P md ops Q S fuel listed a w [] := fun _ h => by cases h
theorem AllReadyHI.cons {fuel : Nat} {listed : Array Bool} {a : Act} {w : World} {i : Nat} {o : Oper} {rs : List Nat} (ho : ops[i]? = some o)
    (h : ∀ K' : Act → World → Prop, Shut (∀ a w, S w → (S w → wpAnyHI F n P md ops Q S fuel (listed.setIfInBounds i true) a w) → K' a w) → if Region.wanted o (yielded ops a.tmps) = true then Oper.wpIn F n P o a w K' Q else (∀ f, o.about P w a.eval = some f → F.fn f) ∧ K' (a.put o.dst undef) w)
    (hs : AllReadyHI F n P md ops Q S fuel listed a w rs) : AllReadyHI F n P md ops Q S fuel listed a w (i :: rs) := fun j hj => by
  rcases List.mem_cons.1 hj with rfl | hj
  · exact wpOpIn_step ho (fun K' hK => h K' (fun a w hS hW => hK a w ⟨hS, hW hS⟩))
  · exact hs j hj
theorem wpAnyHI_ready {rs : List Nat} {fuel : Nat} {listed : Array Bool} {a : Act} {w : World} (hr : Region.ready md ops listed = rs) (hne : rs ≠ [])
    (h : AllReadyHI F n P md ops Q S fuel listed a w rs) : wpAnyHI F n P md ops Q S (fuel + 1) listed a w := ⟨fun h0 => absurd (hr ▸ h0) hne, hr ▸ h⟩
/-- The region ends, and ends nowhere else. -/
def onlyN (Q : Exit → Act → World → Prop) : Exit → Act → World → Prop
  | .normal, a, w => Q .normal a w
  | _, _, _ => False
theorem wpIn_region_held_drew {id : Nat} {a : Act} {w : World} (hm : P.follows .mixedOrders = true) (hS : S w.drew)
    (h : S w.drew → wpAnyHI F n P .any ops (onlyN Q) S ops.size (Array.replicate ops.size false) a w.drew) : (Code.region id ops true).wpIn F n P Q a w :=
  wpIn_mono (wpIn_region_any (Q := onlyN Q) hm (wpAnyIn_of_heldI _ _ _ _ (h hS))) (fun e _ _ h => by cases e <;> first | exact h | exact h.elim)
theorem wpAnyHI_doneN {listed : Array Bool} {a : Act} {w : World} (hr : Region.ready md ops listed = []) (h : Q .normal a w) (fuel : Nat) : wpAnyHI F n P md ops (onlyN Q) S fuel listed a w := wpAnyHI_done (Q := onlyN Q) hr (show onlyN Q .normal a w from h) fuel
end
end Go.Proofs.YtjfcbjomfbfoiaaGreatDoor
