import Derived.Test.YtjfcbjomfbfoiaaGreatDoorAL1
import Derived.Test.YtjfcbjomfbfoiaaGreatDoorZM1
namespace Go.Proofs.YtjfcbjomfbfoiaaGreatDoor
open Go.RowKit Go.Shelf
attribute [local go_sem] Oper.semAt_some
theorem lsN_mem {W : Nat → Nat} {p x : Nat} : x ∈ lsN W p ↔ x < p ∧ hasN W x = true := by
  unfold lsN
  rw [List.mem_filter, List.mem_range]
theorem lsN_mono {W : Nat → Nat} {p q x : Nat} (h : p ≤ q) (hx : x ∈ lsN W p) : x ∈ lsN W q := by
  have := lsN_mem.1 hx
  exact lsN_mem.2 ⟨by omega, this.2⟩
set_option maxHeartbeats 2000000 in
set_option maxRecDepth 100000 in
theorem all_seqP (Bs g Kw C : Nat) (W : Nat → Nat) (Ms : Nat → Prop) (w : World) (hs : w.cell? ⟨Bs, 0, none⟩ = some (.slice (some ⟨g, 0, none⟩) Kw C)) (hg : Hid (WsAt w g Kw C W)) (hwd : Hid (WdOk W)) (hT : Hid (TzTab w)) (hK : Kw ≤ 100) (hM2 : Hid (¬ Ms g)) (hM3 : Hid (¬ Ms 1)) :
    SeqN Fence.wide 7 Tryz.prog 84 #[.pointer (some ⟨Bs, 0, none⟩)] (fun x : Nat => #[.int .i64 (x : Int)]) (fun x _ => x ∈ lsN W (64 * Kw)) (KpB w.heap.size Ms) (fun xs => xs = lsN W (64 * Kw)) (lsN W (64 * Kw)).length w := by
  intro l J W0 hW hl hJ hY h0
  have HY := hide hY
  have HJ := hide hJ
  have H0 := hide h0
  clear hY hJ h0
  have hBs : Bs < w.heap.size := World.block_lt_of_cell? w _ hs
  have hs0 := (hW.cell (p := ⟨Bs, 0, none⟩) hBs).trans hs
  have HG0 : Hid (WsAt W0 g Kw C W) := hide (hg.out.of_block (hW.block g hg.out.lt))
  have hgt : (1 : Nat) < w.heap.size := World.block_lt_of_cell? w _ (hT.out 0 (by decide))
  have HT0 : Hid (TzTab W0) := hide (hT.out.of_block (hW.block _ hgt))
  refine callsIn_of_wp Tryz.func84 rfl trivial ?_ rfl
  simp only [Tryz.ntmps84, List.size_toArray, List.length_cons, List.length_nil, Nat.reduceAdd, Nat.reduceSub, Array.replicate_succ, Array.replicate_zero, List.push_toArray, List.append_toArray, List.nil_append, List.cons_append]
  gi_wp2
  gi_loopw [8] (fun i wr => ∃ k : Nat, k ≤ Kw ∧ i = .int .i64 k ∧ Hid (J (lsN W (64 * k)) wr) ∧ KpB w.heap.size Ms W0 wr) (fun i _ => Kw - (intOf i).toNat)
  case atStart => exact ⟨0, Nat.zero_le _, rfl, hide (by rw [Nat.mul_zero]; exact H0.out), KpB.refl _⟩
  case round =>
    obtain ⟨k, hk, rfl, HJk, hkp⟩ := hrel
    by_cases hlt : k < Kw
    · have hcw := hkp.cell (HG0.out.cell hlt) hM2.out
      have HWO := hide (WoAt.start hwd.out k)
      have hwk := hwd.out k
      generalize hyk : W k = yk at hcw HWO hwk
      clear hyk
      generalize wr = wo at *
      have hmul : IntKind.i64.wrap ((k : Int) * 64) = (k : Int) * 64 := by rw [IntKind.wrap_i64]; omega
      have HKO := hide hkp
      clear hkp
      gi_wp2
      clear hcw
      gi_loopw [4] (fun y wr => ∃ yy p : Nat, y = .int .u64 yy ∧ Hid (WoAt W k p yy) ∧ Hid (J (lsN W (64 * k + p)) wr) ∧ Hid (KpB w.heap.size Ms W0 wr)) (fun y _ => (intOf y).toNat)
      case atStart => exact ⟨yk, 0, rfl, HWO, HJk, HKO⟩
      case round =>
        clear HWO HJk HKO
        obtain ⟨yy, p, rfl, HWO, HJk, HKO⟩ := hrel
        have hyl := HWO.out.lt
        by_cases h0 : yy = 0
        · subst h0
          gi_wp2
          exact ⟨⟨k + 1, by omega, by go_num, hide (by rw [HWO.out.done]; exact HJk.out), HKO.out⟩, by simp [intOf]; omega⟩
        · obtain ⟨n1, n2, n3, n4⟩ := HWO.out.next h0
          have HN1 := hide n1
          have HN2 := hide n2
          have hy0 : ((yy : Int) == 0) = false := by simp; omega
          have hs1 : IntKind.u64.wrap ((yy : Int) - 1) = ((yy - 1 : Nat) : Int) := by rw [IntKind.wrap_u64]; omega
          have hs2 := bits_and_u64_nat yy (yy - 1) hyl (by omega)
          have HTZ := hide (tz_any yy hyl h0 wr (hide (HT0.out.of_block (HKO.out.low _ (by omega) hM3.out))))
          have hlen : (lsN W (64 * k + p)).length < (lsN W (64 * Kw)).length := by
            have h1 := congrArg List.length n2
            have h2 := ls_pre (W := W) (p := 64 * k + (Lib.ctz 64 yy + 1)) (q := 64 * Kw) (by omega)
            rw [List.length_append] at h1
            simp at h1
            omega
          have hmem : 64 * k + Lib.ctz 64 yy ∈ lsN W (64 * Kw) := lsN_mono (q := 64 * Kw) (p := 64 * k + (Lib.ctz 64 yy + 1)) (by omega) (by rw [n2]; simp)
          obtain ⟨fn, tmps, asg, bo, hy, hR⟩ := HY.out _ (64 * k + Lib.ctz 64 yy) wr HJk.out hmem hlen
          generalize Lib.ctz 64 yy = cc at *
          generalize yy &&& (yy - 1) = yn at *
          have hadd : IntKind.i64.wrap ((k : Int) * 64 + (cc : Int)) = (k : Int) * 64 + (cc : Int) := by rw [IntKind.wrap_i64]; omega
          have he : (((64 * k + cc : Nat)) : Int) = (k : Int) * 64 + (cc : Int) := by omega
          rw [he] at hy
          clear n1 n2 he hlen hmem
          gi_wp2
          refine ⟨trivial, (callsIn_wide.2 HTZ.out).mono ?_⟩
          rintro e w1 ⟨rfl, hw1⟩
          subst hw1
          gi_wp2
          refine hR.mono ?_
          rintro e W3 ⟨rfl, hJ3, hk3, _⟩
          have HJ3 := hide hJ3
          have HK3 := hide (HKO.out.trans hk3)
          clear hJ3 hk3 hR hy HTZ HY
          gi_wp2
          exact ⟨⟨yn, cc + 1, rfl, HN1, hide (by rw [HN2.out]; exact HJ3.out), HK3⟩, by simp [intOf]; omega⟩
    · have hke : k = Kw := by omega
      gi_wp2
      go_end0
      exact ⟨⟨_, rfl⟩, _, rfl, by rw [← hke]; exact HJk.out⟩
/-- The record of a loop within a round. -/
def RecI (W : World) (D : Nat) (r : Loop) : Prop := W.heap[D]? = some (.loop r)
theorem RecI.put {W : World} {D : Nat} {r : Loop} (h : RecI W D r) (r' : Loop) : RecI (W.putObj D (.loop r')) D r' := World.putObj_heap_same (Array.getElem?_eq_some_iff.1 h).1
theorem RecI.own {W V : World} {D : Nat} {r : Loop} {row : Option Nat} (h : RecI W D r) (g : W.grownBy V row) (hr : ∀ k, row = some k → D + 1 ≤ k) : RecI V D r :=
  (g.block _ (Array.getElem?_eq_some_iff.1 h).1 (fun e => by have := hr _ e.symm; omega)).trans h
theorem RecI.keeps {W V : World} {D : Nat} {r : Loop} (h : RecI W D r) (k : KeepsOthers W V) : RecI V D r := k.same _ _ h rfl
theorem RecI.fin {P : Program} {W : World} {D q : Nat} {fn : FuncId} {tm : Array Value} {ps : Array Tmp} {asg bo : Code} (h : RecI W D (recO fn tm ps asg bo q .busy none)) (j : Option Code) : (Instr.endRound D j).run P W = .ok (.bool j.isNone) (W.putObj D (.loop (recO fn tm ps asg bo q (if j.isNone then .ready else .done) j))) := run_endRound j h
theorem rangeNI {F : Fence} {n : Nat} {P : Program} {α : Type} {g : Operand} {ps : Array Tmp} {asg bo : Code} {Q : Exit → Act → World → Prop} {a : Act} {w : World} {l₀ : Nat} {r₀ : Loop} (hro : F.round = some l₀) (hl₀ : w.heap[l₀]? = some (.loop r₀)) (h1 : 1 ≤ n) {gf : Nat} {lb : Array Value} (hg : a.eval g = .func (.func gf) #[] lb) (hFg : F.fn gf) (eg : ∀ args w, (callFunc gf args).run P w = .ok (.enter gf args) w)
    {encs : α → Array Value} {Px : α → World → Prop} {Kp : World → World → Prop} {S : List α → Prop} {N : Nat} {w0 : World} (hseq : SeqN F (n - 1) P gf lb encs Px Kp S N w0) (hPx : OwnFrom w.heap.size Px) (hKt : ∀ {A B C : World}, Kp A B → Kp B C → Kp A C) (hKb : ∀ (W : World) (l : Nat) (o o' : Obj), w.heap.size ≤ l → W.heap[l]? = some o → o.isCells = false → Kp W (W.putObj l o')) (hb0 : Below w0.heap.size w0 w) (hps : ∀ x, (encs x).size = ps.size)
    (I : List α → World → Prop) (hI : OwnFrom w.heap.size I) (h0 : I [] w) (Ax : α → Act → World → Prop) (hAx : ∀ x a', OwnFrom w.heap.size (fun (_ : Unit) W => Ax x a' W))
    (hassign : ∀ (l : Nat) (pre : List α) (x : α) (W : World) (K : Act → World → Prop), I pre W → Px x W → (∀ a' W', KeepsOthers W W' → Kp W W' → I pre W' → Px x W' → Ax x a' W' → K a' W') → asg.wpIn (F.inRound l) (n - 1 - 1) P (Exit.then K (fun _ _ _ => False)) { tmps := (ps.zip (encs x)).foldl (fun t (p, v) => t.setIfInBounds p v) a.tmps, defers := [] } W)
    (hbody : ∀ (l : Nat) (pre : List α) (x : α) (a' : Act) (W : World), I pre W → Px x W → Ax x a' W → pre.length < N → bo.wpIn (F.inRound l) (n - 1 - 1) P (ownPostK Kp I (fun _ _ _ => False) (pre ++ [x]) W) a' W)
    (hdone : ∀ (xs : List α) (W : World), S xs → I xs W → Q .normal a W) :
    (Code.rangeFunc g ps asg bo).wpIn F n P Q a w := by
  refine wpIn_rangeFunc (fun fn hfn => ?_)
  rw [hro]
  have hrun := run_enterLoop_inner (P := P) (w := w) hl₀ fn a.tmps ps asg bo
  generalize hW : w.alloc (.loop { state := .ready, pending := none, fn, tmps := a.tmps, params := ps, assign := asg, body := bo, defers := r₀.defers }) = W1 at hrun
  have hR1 : RecI W1 w.heap.size (recO fn a.tmps ps asg bo r₀.defers .ready none) := by
    subst hW
    exact World.alloc_heap_new w _
  have hz1 : W1.heap.size = w.heap.size + 1 := by subst hW; simp
  have hI1 : I [] W1 := by subst hW; exact hI.alloc _ h0
  have hB1 : Below w0.heap.size w0 W1 := by
    subst hW
    exact hb0.trans ((balloc (Below.refl w.heap.size w) _).mono hb0.size)
  clear hW
  refine ⟨_, _, W1, { target := .fn (.func gf) lb, args := #[.func (.yield w.heap.size) #[] #[]] }, W1, gf, #[.func (.yield w.heap.size) #[] #[]] ++ lb, W1, hrun, ?_, ?_, ?_, fun _ => h1, ?_⟩
  · simp only [resolve, hg]
    simp [go_sem]
  · intro f' hf'
    simp [Target.leads] at hf'
    subst hf'
    exact hFg
  · simp [invoke, go_sem, eg]
  · have ow : ∀ {r : Loop} {A V : World} {row : Option Nat}, RecI A w.heap.size r → A.grownBy V row → (∀ k, row = some k → W1.heap.size ≤ k ∧ ∃ o : Obj, A.heap[k]? = some o ∧ o.isCells = false) → RecI V w.heap.size r := fun h k q => h.own k (fun z e => by have := (q z e).1; omega)
    have fr : ∀ {A : World} {row : Option Nat}, (∀ k, row = some k → W1.heap.size ≤ k ∧ ∃ o : Obj, A.heap[k]? = some o ∧ o.isCells = false) → ∀ k, row = some k → w.heap.size ≤ k ∧ ∃ o : Obj, A.heap[k]? = some o ∧ o.isCells = false := fun q k e => ⟨by have := (q k e).1; omega, (q k e).2⟩
    refine (hseq w.heap.size (fun pre W => I pre W ∧ RecI W w.heap.size (recO fn a.tmps ps asg bo r₀.defers .ready none)) W1 hB1 (by omega)
      (fun s A V row hs k q => ⟨hI s A V row hs.1 k (fr q), ow hs.2 k q⟩) ?_ ⟨hI1, hR1⟩).mono ?_
    · rintro pre x W ⟨hi, hr⟩ hpx hlen
      have hy : (Instr.yield w.heap.size (encs x)).run P W = _ := run_yield (P := P) hr (hps x)
      refine ⟨_, _, _, _, hy, roundIn_of_wpIn hfn (hassign _ pre x W _ hi hpx (fun a' W' hko hkp hi' hpx' hax => ?_))⟩
      have hr' := hr.keeps hko
      refine ⟨_, run_beginRound hr' rfl, ?_⟩
      have hrb : RecI (W'.putObj w.heap.size (.loop (recO fn a.tmps ps asg bo r₀.defers .busy none))) w.heap.size (recO fn a.tmps ps asg bo r₀.defers .busy none) := hr'.put _
      have hkb : Kp W (W'.putObj w.heap.size (.loop (recO fn a.tmps ps asg bo r₀.defers .busy none))) := hKt hkp (hKb _ _ _ _ (by omega) hr' rfl)
      refine wpIn_mono (hbody _ pre x a' _ (hI.putObj _ hi' (by omega) hr' rfl) (hPx.putObj _ hpx' (by omega) hr' rfl) ((hAx x a').putObj (s := ()) _ hax (by omega) hr' rfl) hlen) ?_
      rintro e a3 V hp
      cases e with
      | normal =>
        have hv := hrb.keeps hp.1
        exact ⟨_, _, hv.fin none, ⟨rfl, ⟨hI.putObj _ hp.2.2 (by omega) hv rfl, hv.put _⟩, hKt (hKt hkb hp.2.1) (hKb _ _ _ _ (by omega) hv rfl), (((hko.from _).trans (KeepsFrom.of_grownBy (grownBy_putObj' W' _ _) (fun j e => by cases e; omega))).trans (hp.1.from _)).trans (KeepsFrom.of_grownBy (grownBy_putObj' V _ _) (fun j e => by cases e; omega))⟩⟩
      | ret => exact hp.2.elim
      | exit id => exact hp.2.elim
      | goto t => exact hp.2.elim
      | panic ch => exact hp.elim
      | outgrown => exact hp.elim
    · rintro e V ⟨⟨v, rfl⟩, xs, hS, hi, hr⟩
      exact ⟨none, _, run_endLoop hr (by simp [recO]), hdone xs _ hS (hI.putObj _ hi (Nat.le_refl _) hr rfl)⟩
end Go.Proofs.YtjfcbjomfbfoiaaGreatDoor

namespace Go.Proofs.YtjfcbjomfbfoiaaGreatDoor
open Go.RowKit
set_option maxHeartbeats 1000000 in
set_option maxRecDepth 100000 in
theorem newSets_more (n room : Nat) (w : World) (hn : n ≤ 3000) (hr : room ≤ 60000) :
    Calls Tryz.prog 45 #[.int .i64 n, .int .i64 room] w fun e w' => ∃ G gs, e = .returned (.slice (some ⟨G, 0, none⟩) n n) ∧ w.heap.size ≤ G ∧ Below w.heap.size w w' ∧ SetsAv w' G n ((room + 63) / 64) gs (fun _ => (room + 63) / 64) (fun _ _ => 0) ∧ (∀ i, i < n → w.heap.size ≤ gs i) := by
  have hmk := run_makeS (P := Tryz.prog) 59 65 (.agg #[.slice none 0 0]) 1 24 Tryz.underlying59 Tryz.infoSetV n (by omega) (by omega)
  have HNS := hide (fun W => newSet_valueNo room W hr)
  generalize (room + 63) / 64 = K at *
  go_enter Tryz.func45, Tryz.ntmps45
  go_wp2_with fail
  go_loopw [11] (fun u wr => ∃ q : Nat, q ≤ n ∧ u = .int .i64 q ∧ ∃ gs, Hid (SetsTv w wr w.heap.size n K q gs)) (fun u _ => n - (intOf u).toNat)
  case atStart => exact ⟨0, Nat.zero_le _, rfl, fun _ => 0, hide ⟨balloc (Below.refl _ _) _, Nat.le_refl _, by
    have h := World.rowIs_made w (.slice none 0 0) n 65
    simpa [Value.cells] using h, fun i hi => absurd hi (by omega), fun i j hi => absurd hi (by omega), fun i hi => absurd hi (by omega)⟩⟩
  case round =>
    obtain ⟨q, hq, rfl, gs, HS⟩ := hrel
    by_cases hlt : q < n
    · go_wp2_with fail
      refine (HNS.out wr).mono ?_
      rintro e w1 ⟨g, rfl, hg, hb1, hr1⟩
      have hS1 := HS.out.next hlt hb1 hg hr1
      obtain ⟨hS2, hc1, hz1⟩ := hS1
      have HS2 := hide hS2
      clear hS2 hb1 hr1
      go_wp2_with fail
      exact ⟨⟨q + 1, by omega, by go_num, _, HS2⟩, by simp [intOf]; omega⟩
    · have hqn : q = n := by omega
      subst hqn
      go_wp2_with fail
      go_ret
      refine ⟨_, gs, rfl, Nat.le_refl _, HS.out.low, ⟨HS.out.row.congr (fun i hi => by rw [if_pos hi]), fun i hi => WsAt.of_row (HS.out.set i hi), HS.out.inj, fun i hi e => by have := HS.out.up i hi; omega⟩, fun i hi => by have := HS.out.up i hi; omega⟩
/-- Two values stand side by side in one of the sets. -/
def meetP (l : List (List Nat)) (i u : Nat) : Prop := ∃ x ∈ l, i ∈ x ∧ u ∈ x
theorem meet_snoc {l : List (List Nat)} {x : List Nat} {i u : Nat} : meetP (l ++ [x]) i u ↔ meetP l i u ∨ (i ∈ x ∧ u ∈ x) := by
  unfold meetP
  constructor
  · rintro ⟨y, hy, h⟩
    rcases List.mem_append.1 hy with hy | hy
    · exact Or.inl ⟨y, hy, h⟩
    · rw [List.mem_singleton.1 hy] at h; exact Or.inr h
  · rintro (⟨y, hy, h⟩ | h)
    · exact ⟨y, List.mem_append_left _ hy, h⟩
    · exact ⟨x, List.mem_append_right _ (List.mem_singleton.2 rfl), h⟩
/-- Sets of values, one a value, each told by a relation. -/
structure OtI (w6 : World) (V Kw : Nat) (gs : Nat → Nat) (R : Nat → Nat → Prop) (U : World) : Prop where
  os : U.os = w6.os
  tape : U.tape = w6.tape
  output : U.output = w6.output
  size : w6.heap.size ≤ U.heap.size
  gl : ∀ i, i < V → gs i < w6.heap.size
  inj : ∀ i j, i < V → j < V → i ≠ j → gs i ≠ gs j
  fr : ∀ q, q < w6.heap.size → (∀ i, i < V → q ≠ gs i) → U.heap[q]? = w6.heap[q]?
  sets : ∃ Ws : Nat → Nat → Nat, ∀ i, i < V → WsAt U (gs i) Kw Kw (Ws i) ∧ WdOk (Ws i) ∧ ∀ u, u < 64 * Kw → (hasN (Ws i) u = true ↔ R i u)
section
variable {w6 U U' : World} {V Kw : Nat} {gs : Nat → Nat} {R R' : Nat → Nat → Prop}
theorem OtI.far (h : OtI w6 V Kw gs R U) (k : Below w6.heap.size U U') : OtI w6 V Kw gs R U' := by
  obtain ⟨Ws, hW⟩ := h.sets
  exact ⟨k.os.trans h.os, k.tape.trans h.tape, k.output.trans h.output, Nat.le_trans h.size k.size, h.gl, h.inj, fun q q1 q2 => (k.block q q1).trans (h.fr q q1 q2), Ws, fun i hi => ⟨(hW i hi).1.of_block (k.block _ (h.gl i hi)), (hW i hi).2⟩⟩
theorem OtI.congr (h : OtI w6 V Kw gs R U) (e : ∀ i u, i < V → u < 64 * Kw → (R i u ↔ R' i u)) : OtI w6 V Kw gs R' U := by
  obtain ⟨Ws, hW⟩ := h.sets
  exact ⟨h.os, h.tape, h.output, h.size, h.gl, h.inj, h.fr, Ws, fun i hi => ⟨(hW i hi).1, (hW i hi).2.1, fun u hu => ((hW i hi).2.2 u hu).trans (e i u hi hu)⟩⟩
theorem OtI.cell (h : OtI w6 V Kw gs R U) {b o : Nat} {v : Value} (hb : ∀ i, i < V → b ≠ gs i) (hc : w6.cell? ⟨b, o, none⟩ = some v) : U.cell? ⟨b, o, none⟩ = some v := (cell_of (h.fr b (World.block_lt_of_cell? w6 _ hc) hb)).trans hc
/-- One of the sets is turned. -/
theorem OtI.turn (h : OtI w6 V Kw gs R U) {v : Nat} (hv : v < V) {X : Nat → Nat} (k : U.grownBy U' (some (gs v))) (hX : WsAt U' (gs v) Kw Kw X) (hd : WdOk X) (hR : ∀ u, u < 64 * Kw → (hasN X u = true ↔ R' v u)) (hO : ∀ i u, i ≠ v → (R i u ↔ R' i u)) : OtI w6 V Kw gs R' U' := by
  obtain ⟨Ws, hW⟩ := h.sets
  have hg := h.gl v hv
  have hs := h.size
  refine ⟨k.os.trans h.os, k.tape.trans h.tape, k.output.trans h.output, Nat.le_trans h.size k.size, h.gl, h.inj, fun q q1 q2 => (k.block q (by omega) (fun e => q2 v hv (by injection e))).trans (h.fr q q1 q2), fun i => if i = v then X else Ws i, fun i hi => ?_⟩
  by_cases e : i = v
  · subst e
    simp only [if_true]
    exact ⟨hX, hd, hR⟩
  · simp only [e, if_false]
    exact ⟨(hW i hi).1.of_block (k.block _ (by have := h.gl i hi; omega) (fun e2 => h.inj i v hi hv e (by injection e2))), (hW i hi).2.1, fun u hu => ((hW i hi).2.2 u hu).trans (hO i u e)⟩
theorem OtI.kp (h : OtI w6 V Kw gs R U) {v : Nat} (hv : v < V) (k : U.grownBy U' (some (gs v))) : KpB w6.heap.size (fun q => ∃ i, i < V ∧ q = gs i) U U' := kpB_grown k ⟨v, hv, rfl⟩ h.size
theorem OtI.own (w6 : World) (V Kw : Nat) (gs : Nat → Nat) {α : Type} (R : α → Nat → Nat → Prop) : OwnFrom w6.heap.size (fun s U => OtI w6 V Kw gs (R s) U) := fun s A U row h k q => by
  have := h.size
  exact h.far ⟨k.os, k.tape, k.output, k.size, fun b hb => k.block b (by omega) (fun e => by have := (q b e.symm).1; omega)⟩
end
end Go.Proofs.YtjfcbjomfbfoiaaGreatDoor
