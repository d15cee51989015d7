import Derived.Test.YtanaeindldcapaaDoorW6b
import Derived.RangeFuncNested
import Derived.RangeFuncBound
import Derived.RangeFuncCalls
import Derived.RangeFuncLeaves
namespace Go.Proofs.YtanaeindldcapaaDoor
open Go.RowKit
def hasI (xs : List Int) (x : Int) : Bool := xs.contains x
set_option maxHeartbeats 400000 in
theorem l1Has_big (a : Option Addr) (n c : Nat) (x : Int) (xs : List Int) (L B : Nat) (w : World) (ha : Hid (IntsAt w L B a xs)) (hx : Hid (n = xs.length)) (hn : n ≤ 100000000) :
    Calls Tryd.prog 26 #[.slice a n c, .int .i64 x] w fun e w' => e = .returned (.bool (hasI xs x)) ∧ w' = w := by
  go_enter Tryd.func26, Tryd.ntmps26
  go_wp2
  go_loop [5] (fun i => ∃ k : Nat, k ≤ n ∧ i = .int .i64 k ∧ Hid (∀ j (h : j < xs.length), j < k → xs[j] ≠ x)) (fun i => n - (intOf i).toNat)
  case atStart => exact ⟨0, Nat.zero_le _, rfl, fun j hj h => absurd h (by omega)⟩
  case round =>
    obtain ⟨k, hk, rfl, hno⟩ := hrel
    by_cases hlt : k < n
    · have hkx : k < xs.length := by have := hx.out; omega
      obtain ⟨b, o, rfl, _, hc⟩ := ha.out k hkx
      by_cases he : xs[k] = x
      · have hb : (xs[k] == x) = true := by simp [he]
        have HE := hide he
        clear he
        go_wp2
        go_ret
        exact ⟨ret_bool (by unfold hasI; rw [eq_comm, List.contains_iff_mem, ← HE.out]; exact List.getElem_mem hkx), rfl⟩
      · have hb : (xs[k] == x) = false := by simp [he]
        have HE := hide he
        clear he
        go_wp2
        go_round
        case rel => exact ⟨k + 1, by omega, by go_num, fun j hj h => if e : j = k then by subst e; exact HE.out else hno.out j hj (by omega)⟩
        case measure => simp [intOf]; omega
    · go_wp2
      go_ret
      exact ⟨ret_bool (by
        rw [eq_comm, Bool.eq_false_iff]
        intro hc
        obtain ⟨j, hj, e⟩ := List.getElem_of_mem (List.contains_iff_mem.1 (show xs.contains x = true from hc))
        exact hno.out j hj (by have := hx.out; omega) e), rfl⟩
theorem l1Has_any (a : Option Addr) (n c : Nat) (x : Int) (xs : List Int) (L B : Nat) (w : World) (ha : Hid (IntsAt w L B a xs)) (hx : Hid (n = xs.length)) (hn : n ≤ 1048576) :
    Calls Tryd.prog 26 #[.slice a n c, .int .i64 x] w fun e w' => e = .returned (.bool (hasI xs x)) ∧ w' = w :=
  l1Has_big a n c x xs L B w ha hx (by omega)
theorem targets_has (t : Ter) (b : Int) : t.targets.contains b = true ↔ (t.kind = 1 ∧ t.to = b) ∨ (t.kind = 2 ∧ (t.to = b ∨ t.els = b)) := by
  unfold Ter.targets
  by_cases h1 : t.kind = 1
  · rw [if_pos h1]
    simp only [h1, true_and, List.contains_iff_mem, List.mem_singleton]
    constructor
    · intro h; exact Or.inl h.symm
    · rintro (h | ⟨h, _⟩)
      · exact h.symm
      · omega
  · rw [if_neg h1]
    by_cases h2 : t.kind = 2
    · rw [if_pos h2]
      simp only [h2, true_and, List.contains_iff_mem, List.mem_cons, List.not_mem_nil, or_false]
      constructor
      · rintro (h | h)
        · exact Or.inr (Or.inl h.symm)
        · exact Or.inr (Or.inr h.symm)
      · rintro (⟨h, _⟩ | h | h)
        · omega
        · exact Or.inl h.symm
        · exact Or.inr h.symm
    · rw [if_neg h2]
      simp [h1, h2]
theorem predsFrom_snoc (x : Blk) (b : Int) : ∀ (xs : List Blk) (i : Nat), predsFrom (xs ++ [x]) i b = predsFrom xs i b ++ (if x.term.targets.contains b then [((i + xs.length : Nat) : Int)] else [])
  | [], i => by simp [predsFrom]
  | y :: ys, i => by
    simp only [List.cons_append, predsFrom]
    have e : i + 1 + ys.length = i + (ys.length + 1) := by omega
    rw [predsFrom_snoc x b ys (i + 1), List.append_assoc, e, List.length_cons]
theorem predsFrom_len (b : Int) : ∀ (xs : List Blk) (i : Nat), (predsFrom xs i b).length ≤ xs.length
  | [], _ => Nat.le_refl _
  | y :: ys, i => by
    simp only [predsFrom, List.length_append, List.length_cons]
    have := predsFrom_len b ys (i + 1)
    split <;> simp <;> omega
/-- A row of numbers that the call owns, read as numbers. -/
theorem ints_owned {w : World} {base e : Nat} {v : Value} {n : Nat} {xs : List Int} (h : w.ownsRow base e 1 v n (xs.map (Value.int .i64))) : ∃ a c, v = .slice a xs.length c ∧ IntsAt w base w.heap.size a xs := by
  obtain ⟨hl, h | ⟨g, cap, cur, rfl, hg, hh, hc, _, hs, ht⟩⟩ := h
  · obtain ⟨rfl, rfl⟩ := h
    have : xs = [] := by simpa using hl
    subst this
    exact ⟨_, _, rfl, fun i hi => absurd hi (by simp)⟩
  · simp only [Nat.mul_one, List.length_map] at hl hs ht
    subst hl
    refine ⟨_, _, rfl, fun i hi => ⟨g, 0, rfl, ⟨hg, ?_⟩, ?_⟩⟩
    · exact (Array.getElem?_eq_some_iff.1 hh).1
    · have h1 : (cur.toList.take xs.length)[i]? = some (Value.int .i64 xs[i]) := by rw [ht]; simp [hi]
      rw [List.getElem?_take_of_lt hi] at h1
      simp only [World.cell?, hh, Nat.zero_add]
      simpa using h1
theorem Tryd.info2' : (Tryd.prog.info? 2).map (fun i => (i.zero, i.size, i.bytes)) = some (some (.int .i64 0), 1, 8) := by kernel_rfl
/-- Behind an append to a row of the call's own. -/
theorem grown_block {W w' : World} {base e s : Nat} {u : Value} {n : Nat} {xs : List Value} (hg : W.grownBy w' u.ownBlock) (ho : W.ownsRow base e s u n xs) {b : Nat} (hb : b < base) (hz : b < W.heap.size) : w'.heap[b]? = W.heap[b]? :=
  hg.block b hz (fun h => by have := (ho.lt b h.symm).1; omega)
theorem grown_below {w W w' : World} {B base e s : Nat} {u : Value} {n : Nat} {xs : List Value} (h : Below B w W) (hg : W.grownBy w' u.ownBlock) (ho : W.ownsRow base e s u n xs) (hb : B ≤ base) (hz : B ≤ W.heap.size) : Below B w w' :=
  h.grown hg hz (fun k hk => by have := (ho.lt k hk).1; omega)
theorem own_empty (w : World) (o : Obj) : ((w.alloc o).alloc (.cells #[] 2)).ownsRow (w.heap.size + 1) 2 1 (.slice (some ⟨w.heap.size + 1, 0, none⟩) 0 0) 0 [] := by
  have h := World.ownsRow_lit (base := w.heap.size + 1) (e := 2) (size := 1) (w.alloc o) #[] 0 (by simp) (by simp) rfl
  rw [World.size_alloc] at h
  exact h
theorem ints_snoc (xs : List Int) (x : Int) : (xs ++ [x]).map (Value.int .i64) = xs.map (Value.int .i64) ++ [.int .i64 x] := by simp
set_option maxHeartbeats 1000000 in
theorem l1Preds_any (v : Int) (a : Option Addr) (n c : Nat) (q : Int) (xs : List Blk) (L B : Nat) (w : World) (ha : Hid (BlksAt w L B a xs)) (hx : Hid (n = xs.length)) (hn : n ≤ 1048576) (hB : B ≤ w.heap.size) :
    Calls Tryd.prog 24 #[.agg #[.int .i64 v, .slice a n c], .int .i64 q] w fun e w' => ∃ a' c', e = .returned (.slice a' (predsFrom xs 0 q).length c') ∧ Below w.heap.size w w' ∧ IntsAt w' w.heap.size w'.heap.size a' (predsFrom xs 0 q) := by
  obtain ⟨i0, hi0, hz0, hz1, hz2⟩ := info_parts Tryd.info2'
  go_enter Tryd.func24, Tryd.ntmps24
  go_wp2
  go_loopw [5, 6] (fun u i wr => ∃ k : Nat, k ≤ n ∧ i = .int .i64 k ∧ Below w.heap.size w wr ∧ w.heap.size < wr.heap.size ∧ wr.cell? ⟨w.heap.size, 1, none⟩ = some (.slice a n c) ∧ wr.ownsRow (w.heap.size + 1) 2 1 u (predsFrom (xs.take k) 0 q).length ((predsFrom (xs.take k) 0 q).map (Value.int .i64))) (fun _ i _ => n - (intOf i).toNat)
  case atStart => exact ⟨0, Nat.zero_le _, rfl, balloc (balloc (Below.refl _ _) _) _, by simp; omega, by simp, own_empty _ _⟩
  case round =>
    obtain ⟨k, hk, rfl, hw, hsz, hcell, hown⟩ := hrel
    by_cases hlt : k < n
    · have hkx : k < xs.length := by have := hx.out; omega
      obtain ⟨b, o, rfl, ⟨_, hbB⟩, hc⟩ := ha.out k hkx
      obtain ⟨pa, pc, ia, ic, _, _, ⟨e2, e3, e4, e5⟩, _, _⟩ := hc.keep (hw.mono hB) (by omega)
      have hnx : Hid (predsFrom (xs.take (k + 1)) 0 q = predsFrom (xs.take k) 0 q ++ (if xs[k].term.targets.contains q then [(k : Int)] else [])) := by
        show _ = _
        rw [take_next _ _ hkx, predsFrom_snoc]
        simp [Nat.min_eq_left (Nat.le_of_lt hkx)]
      have hpl : (predsFrom (xs.take k) 0 q).length ≤ 1048576 := by have := predsFrom_len q (xs.take k) 0; simp at this; omega
      have HO := hide hown
      clear hown hc
      have hth := hide (targets_has xs[k].term q)
      generalize xs[k] = X at *
      by_cases hin : X.term.targets.contains q = true
      · have HN : Hid (predsFrom (xs.take (k + 1)) 0 q = predsFrom (xs.take k) 0 q ++ [(k : Int)]) := by have := hnx.out; rw [if_pos hin] at this; exact this
        have hcs := hth.out.1 hin
        clear hin hnx hth
        generalize predsFrom (xs.take k) 0 q = ps at *
        have hcs' : (X.term.kind = 1 ∧ X.term.to = q) ∨ (X.term.kind = 2 ∧ X.term.to = q) ∨ (X.term.kind = 2 ∧ X.term.to ≠ q ∧ X.term.els = q) := by omega
        clear hcs
        rcases hcs' with ⟨d1, d2⟩ | ⟨d1, d2⟩ | ⟨d1, d3, d2⟩
        all_goals
          go_wp2_with (at_builtin; refine wpList_append_own _ rfl _ _ 35 rfl (w.heap.size + 1) 2 i0 (.int .i64 0) 1 8 Tryd.underlying35 hi0 hz0 hz1 hz2 rfl (by decide) _ _ _ rfl ((HO.out.alloc _).alloc _) ⟨wr.heap.size + 1, 0, none⟩ 1 1 [.int .i64 k] rfl rfl ?c1 ?c2 ?c3 ?c4 ?c5 ?_)
          case c1 =>
            intro j u hj
            match j, hj with
            | 0, hj => simp at hj; subst hj; simp [Addr.add]
          case c2 => intro u hu; simp at hu; subst hu; rfl
          case c3 => unfold maxLen; omega
          case c4 => omega
          case c5 => simp; omega
          intro v1 w1 hown1 hgrow1 _
          have HO1 := hide hown1
          clear hown1
          go_wp2
          have hb2 : Below w.heap.size w w1 := grown_below (balloc (balloc hw _) _) hgrow1 ((HO.out.alloc _).alloc _) (by omega) (by simp; omega)
          have hbk := grown_block hgrow1 ((HO.out.alloc _).alloc _) (b := w.heap.size) (by omega) (by simp; omega)
          have hsz1 := hgrow1.size
          simp at hsz1
          exact ⟨⟨k + 1, by omega, by go_num, hb2, by omega, (cell_of hbk).trans (((balloc (balloc (Below.refl wr.heap.size wr) _) _).cell (p := ⟨w.heap.size, 1, none⟩) hsz).trans hcell), by rw [HN.out, ints_snoc]; simpa using HO1.out⟩, by simp [intOf]; omega⟩
      · have HN : Hid (predsFrom (xs.take (k + 1)) 0 q = predsFrom (xs.take k) 0 q) := by have := hnx.out; rw [if_neg hin, List.append_nil] at this; exact this
        have hcs : ¬ ((X.term.kind = 1 ∧ X.term.to = q) ∨ (X.term.kind = 2 ∧ (X.term.to = q ∨ X.term.els = q))) := fun h => hin (hth.out.2 h)
        clear hin hnx hth
        generalize predsFrom (xs.take k) 0 q = ps at *
        have hcs' : (X.term.kind = 1 ∧ (X.term.to == q) = false) ∨ (X.term.kind = 2 ∧ (X.term.to == q) = false ∧ (X.term.els == q) = false) ∨ ((X.term.kind == 1) = false ∧ (X.term.kind == 2) = false) := by
          simp only [beq_eq_false_iff_ne]; omega
        clear hcs
        rcases hcs' with ⟨d1, d2⟩ | ⟨d1, d2, d3⟩ | ⟨d1, d2⟩
        all_goals
          go_wp2
          exact ⟨⟨k + 1, by omega, by go_num, balloc hw _, by simp; omega, ((balloc (Below.refl wr.heap.size wr) _).cell (p := ⟨w.heap.size, 1, none⟩) hsz).trans hcell, by rw [HN.out]; exact HO.out.alloc _⟩, by simp [intOf]; omega⟩
    · go_wp2
      go_ret
      have e := List.take_of_length_le (l := xs) (i := k) (by have := hx.out; omega)
      rw [e] at hown
      obtain ⟨a1, c1, rfl, hi1⟩ := ints_owned hown
      exact ⟨_, _, rfl, hw, hi1.mono (by omega) (Nat.le_refl _)⟩
section
variable {F : Fence} {n : Nat} {P : Program} {α : Type}
/-- The iterator's promise to a caller that never leaves the loop early, where it may itself lay and turn blocks that are no cells, behind all that lay when it was called. -/
def SeqN (F : Fence) (n : Nat) (P : Program) (g : Nat) (lb : Array Value) (encs : α → Array Value) (Px : α → World → Prop) (Kp : World → World → Prop) (S : List α → Prop) (N : Nat) (w : World) : Prop :=
  ∀ (l : Nat) (J : List α → World → Prop) (W : World), Below w.heap.size w W → l < W.heap.size → OwnFrom W.heap.size J →
    (∀ pre x V, J pre V → Px x V → pre.length < N → YieldAt F (n - 1) P l (encs x) V fun e V' => e = .returned (.bool true) ∧ J (pre ++ [x]) V' ∧ Kp V V' ∧ KeepsFrom W.heap.size V V') →
    J [] W → CallsIn F n P g (#[.func (.yield l) #[] #[]] ++ lb) W fun e V => (∃ v, e = .returned v) ∧ ∃ xs, S xs ∧ J xs V
/-- The loop's record. -/
def recO (fn : FuncId) (tm : Array Value) (ps : Array Tmp) (asg bo : Code) (D : Nat) (st : LoopState) (pe : Option Code) : Loop := { state := st, pending := pe, fn, tmps := tm, params := ps, assign := asg, body := bo, defers := D }
/-- Record and block of deferred calls lie. -/
def RecAt (W : World) (D : Nat) (r : Loop) : Prop := W.heap[D + 1]? = some (.loop r) ∧ W.heap[D]? = some (.deferred (some []))
theorem RecAt.put {W : World} {D : Nat} {r : Loop} (h : RecAt W D r) (r' : Loop) : RecAt (W.putObj (D + 1) (.loop r')) D r' :=
  ⟨World.putObj_heap_same (Array.getElem?_eq_some_iff.1 h.1).1, (World.putObj_heap_other (by omega)).trans h.2⟩
theorem RecAt.own {W V : World} {D : Nat} {r : Loop} {row : Option Nat} (h : RecAt W D r) (g : W.grownBy V row) (hr : ∀ k, row = some k → D + 2 ≤ k) : RecAt V D r :=
  ⟨(g.block _ (Array.getElem?_eq_some_iff.1 h.1).1 (fun e => by have := hr _ e.symm; omega)).trans h.1, (g.block _ (Array.getElem?_eq_some_iff.1 h.2).1 (fun e => by have := hr _ e.symm; omega)).trans h.2⟩
theorem RecAt.keeps {W V : World} {D : Nat} {r : Loop} (h : RecAt W D r) (k : KeepsOthers W V) : RecAt V D r := ⟨k.same _ _ h.1 rfl, k.same _ _ h.2 rfl⟩
/-- How a round ends. -/
theorem RecAt.fin {W : World} {D : Nat} {fn : FuncId} {tm : Array Value} {ps : Array Tmp} {asg bo : Code} (h : RecAt W D (recO fn tm ps asg bo D .busy none)) (j : Option Code) : (Instr.endRound (D + 1) j).run P W = .ok (.bool j.isNone) (W.putObj (D + 1) (.loop (recO fn tm ps asg bo D (if j.isNone then .ready else .done) j))) := run_endRound j h.1
theorem rangeN {g : Operand} {ps : Array Tmp} {asg bo : Code} {Q : Exit → Act → World → Prop} {a : Act} {w : World} (hro : F.round = none) (h1 : 1 ≤ n) {gf : Nat} {lb : Array Value} (hg : a.eval g = .func (.func gf) #[] lb) (hFg : F.fn gf) (eg : ∀ args w, (callFunc gf args).run P w = .ok (.enter gf args) w)
    {encs : α → Array Value} {Px : α → World → Prop} {Kp : World → World → Prop} {S : List α → Prop} {N : Nat} {w0 : World} (hseq : SeqN F (n - 1) P gf lb encs Px Kp S N w0) (hPx : OwnFrom w.heap.size Px) (hKt : ∀ {A B C : World}, Kp A B → Kp B C → Kp A C) (hKb : ∀ (W : World) (l : Nat) (o o' : Obj), w.heap.size ≤ l → W.heap[l]? = some o → o.isCells = false → Kp W (W.putObj l o')) (hb0 : Below w0.heap.size w0 w) (hps : ∀ x, (encs x).size = ps.size)
    (I : List α → World → Prop) (hI : OwnFrom w.heap.size I) (h0 : I [] w) (Ax : α → Act → World → Prop) (hAx : ∀ x a', OwnFrom w.heap.size (fun (_ : Unit) W => Ax x a' W))
    (hassign : ∀ (l : Nat) (pre : List α) (x : α) (W : World) (K : Act → World → Prop), I pre W → Px x W → (∀ a' W', KeepsOthers W W' → Kp W W' → I pre W' → Px x W' → Ax x a' W' → K a' W') → asg.wpIn (F.inRound l) (n - 1 - 1) P (Exit.then K (fun _ _ _ => False)) { tmps := (ps.zip (encs x)).foldl (fun t (p, v) => t.setIfInBounds p v) a.tmps, defers := [] } W)
    (hbody : ∀ (l : Nat) (pre : List α) (x : α) (a' : Act) (W : World), I pre W → Px x W → Ax x a' W → pre.length < N → bo.wpIn (F.inRound l) (n - 1 - 1) P (ownPostK Kp I (fun _ _ _ => False) (pre ++ [x]) W) a' W)
    (hdone : ∀ (D : Nat) (xs : List α) (W : World), w.heap.size ≤ D → S xs → I xs W → W.heap[D]? = some (.deferred (some [])) → Q .normal { a with defers := { target := .collected D, args := #[] } :: a.defers } W) :
    (Code.rangeFunc g ps asg bo).wpIn F n P Q a w := by
  refine wpIn_rangeFunc (fun fn hfn => ?_)
  rw [hro]
  have hrun := run_enterLoop_outer (P := P) (w := w) fn a.tmps ps asg bo
  generalize hW : (w.alloc (.deferred (some []))).alloc (.loop { state := .ready, pending := none, fn, tmps := a.tmps, params := ps, assign := asg, body := bo, defers := w.heap.size }) = W1 at hrun
  have hR1 : RecAt W1 w.heap.size (recO fn a.tmps ps asg bo w.heap.size .ready none) := by
    subst hW
    refine ⟨?_, ?_⟩
    · have := World.alloc_heap_new (w.alloc (.deferred (some []))) (.loop (recO fn a.tmps ps asg bo w.heap.size .ready none))
      rwa [World.size_alloc] at this
    · exact (Below.heap_alloc _ _ _ (by simp)).trans (World.alloc_heap_new w _)
  have hz1 : W1.heap.size = w.heap.size + 2 := by subst hW; simp
  have hI1 : I [] W1 := by subst hW; exact hI.alloc _ (hI.alloc _ h0)
  have hB1 : Below w0.heap.size w0 W1 := by
    subst hW
    exact hb0.trans ((balloc (balloc (Below.refl w.heap.size w) _) _).mono hb0.size)
  clear hW
  refine ⟨_, _, W1, { target := .fn (.func gf) lb, args := #[.func (.yield (w.heap.size + 1)) #[] #[]] }, W1, gf, #[.func (.yield (w.heap.size + 1)) #[] #[]] ++ lb, W1, hrun, ?_, ?_, ?_, fun _ => h1, ?_⟩
  · simp only [resolve, hg]
    simp [go_sem]
  · intro f' hf'
    simp [Target.leads] at hf'
    subst hf'
    exact hFg
  · simp [invoke, go_sem, eg]
  · have ow : ∀ {r : Loop} {A V : World} {row : Option Nat}, RecAt A w.heap.size r → A.grownBy V row → (∀ k, row = some k → W1.heap.size ≤ k ∧ ∃ o : Obj, A.heap[k]? = some o ∧ o.isCells = false) → RecAt V w.heap.size r := fun h k q => h.own k (fun z e => by have := (q z e).1; omega)
    have fr : ∀ {A : World} {row : Option Nat}, (∀ k, row = some k → W1.heap.size ≤ k ∧ ∃ o : Obj, A.heap[k]? = some o ∧ o.isCells = false) → ∀ k, row = some k → w.heap.size ≤ k ∧ ∃ o : Obj, A.heap[k]? = some o ∧ o.isCells = false := fun q k e => ⟨by have := (q k e).1; omega, (q k e).2⟩
    refine (hseq (w.heap.size + 1) (fun pre W => I pre W ∧ RecAt W w.heap.size (recO fn a.tmps ps asg bo w.heap.size .ready none)) W1 hB1 (by omega)
      (fun s A V row hs k q => ⟨hI s A V row hs.1 k (fr q), ow hs.2 k q⟩) ?_ ⟨hI1, hR1⟩).mono ?_
    · rintro pre x W ⟨hi, hr⟩ hpx hlen
      have hy : (Instr.yield (w.heap.size + 1) (encs x)).run P W = _ := run_yield (P := P) hr.1 (hps x)
      refine ⟨_, _, _, _, hy, roundIn_of_wpIn hfn (hassign _ pre x W _ hi hpx (fun a' W' hko hkp hi' hpx' hax => ?_))⟩
      have hr' := hr.keeps hko
      refine ⟨_, run_beginRound hr'.1 rfl, ?_⟩
      have hrb : RecAt (W'.putObj (w.heap.size + 1) (.loop (recO fn a.tmps ps asg bo w.heap.size .busy none))) w.heap.size (recO fn a.tmps ps asg bo w.heap.size .busy none) := hr'.put _
      have hkb : Kp W (W'.putObj (w.heap.size + 1) (.loop (recO fn a.tmps ps asg bo w.heap.size .busy none))) := hKt hkp (hKb _ _ _ _ (by omega) hr'.1 rfl)
      refine wpIn_mono (hbody _ pre x a' _ (hI.putObj _ hi' (by omega) hr'.1 rfl) (hPx.putObj _ hpx' (by omega) hr'.1 rfl) ((hAx x a').putObj (s := ()) _ hax (by omega) hr'.1 rfl) hlen) ?_
      rintro e a3 V hp
      cases e with
      | normal =>
        have hv := hrb.keeps hp.1
        exact ⟨_, _, hv.fin none, ⟨rfl, ⟨hI.putObj _ hp.2.2 (by omega) hv.1 rfl, hv.put _⟩, hKt (hKt hkb hp.2.1) (hKb _ _ _ _ (by omega) hv.1 rfl), (((hko.from _).trans (KeepsFrom.of_grownBy (grownBy_putObj' W' _ _) (fun j e => by cases e; omega))).trans (hp.1.from _)).trans (KeepsFrom.of_grownBy (grownBy_putObj' V _ _) (fun j e => by cases e; omega))⟩⟩
      | ret => exact hp.2.elim
      | exit id => exact hp.2.elim
      | goto t => exact hp.2.elim
      | panic ch => exact hp.elim
      | outgrown => exact hp.elim
    · rintro e V ⟨⟨v, rfl⟩, xs, hS, hi, hr⟩
      exact ⟨none, _, run_endLoop hr.1 (by simp [recO]), hdone _ xs _ (Nat.le_refl _) hS (hI.putObj _ hi (by omega) hr.1 rfl) (hr.put _).2⟩
end
end Go.Proofs.YtanaeindldcapaaDoor
