import Derived.Test.YtlmaodcddbkllaaDoorW10
import Derived.Test.YtlmaodcddbkllaaDoorProg
import Derived.WalkKit
import Derived.WalkSpells
import Derived.WalkLawsBesides
import Derived.Deep.RegionHeld3
import Derived.Test.YtlmaodcddbkllaaDoorMem
/-
  The draws: the source of numbers, pure and in memory; l2Next.
-/
namespace Go.Proofs.YtlmaodcddbkllaaDoor
open Go.RowKit

structure Sr where
  code : List UInt8
  pos : Nat
  mix : Int
  size : Int
def nextP (s : Sr) (n : Int) : Int × Sr :=
  if n ≤ 1 then (0, s)
  else if s.pos < s.code.length ∧ n ≤ 256 then (((s.code.getD s.pos 0).toNat : Int) % n, { s with pos := s.pos + 1 })
  else ((s.mix * 1103 + 12347) % 1000003 / 3 % n, { s with mix := (s.mix * 1103 + 12347) % 1000003 })
structure SrOk (s : Sr) : Prop where
  len : s.code.length ≤ 4000
  pos : s.pos ≤ s.code.length
  mix : 0 ≤ s.mix ∧ s.mix < 1000003
  size : 1 ≤ s.size ∧ s.size ≤ 7
theorem next_ok {s : Sr} (h : SrOk s) (n : Int) : SrOk (nextP s n).2 := by
  unfold nextP
  split
  · exact h
  · split
    · rename_i h1
      exact ⟨h.len, h1.1, h.mix, h.size⟩
    · refine ⟨h.len, h.pos, ?_, h.size⟩
      show 0 ≤ (s.mix * 1103 + 12347) % 1000003 ∧ (s.mix * 1103 + 12347) % 1000003 < 1000003
      omega
theorem next_code (s : Sr) (n : Int) : (nextP s n).2.code = s.code := by
  unfold nextP
  split
  · rfl
  · split <;> rfl
theorem next_size (s : Sr) (n : Int) : (nextP s n).2.size = s.size := by
  unfold nextP
  split
  · rfl
  · split <;> rfl
theorem next_lt (s : Sr) {n : Int} (h : 1 ≤ n) : 0 ≤ (nextP s n).1 ∧ (nextP s n).1 < n := by
  unfold nextP
  split
  · exact ⟨Int.le_refl _, by show (0 : Int) < n; omega⟩
  · split
    · exact ⟨Int.emod_nonneg _ (by omega), Int.emod_lt_of_pos _ (by omega)⟩
    · exact ⟨Int.emod_nonneg _ (by omega), Int.emod_lt_of_pos _ (by omega)⟩
theorem next_zero (s : Sr) {n : Int} (h : n ≤ 1) : nextP s n = (0, s) := by unfold nextP; rw [if_pos h]
/-- The source in memory. -/
structure SrAt (w : World) (b L B : Nat) (s : Sr) : Prop where
  c0 : ∃ a c, w.cell? ⟨b, 0, none⟩ = some (.slice a s.code.length c) ∧ BytesAt w L B a s.code
  c1 : w.cell? ⟨b, 1, none⟩ = some (.int .i64 s.pos)
  c2 : w.cell? ⟨b, 2, none⟩ = some (.int .i64 s.mix)
  c3 : w.cell? ⟨b, 3, none⟩ = some (.int .i64 s.size)
  thaw : ∀ q, w.frozen? ⟨b, q, none⟩ = false
  out : ¬ (L ≤ b ∧ b < B)
theorem bytes_set {w : World} {b q L B : Nat} {a : Option Addr} {bs : List UInt8} (v : Value) (hb : BytesAt w L B a bs) (ho : ¬ (L ≤ b ∧ b < B)) : BytesAt (w.setCell ⟨b, q, none⟩ v) L B a bs := hb.keepS (fun k h1 h2 => Below.heap_setCell _ _ _ _ (by show k ≠ b; intro e; exact ho (by omega)))
theorem set_other (w : World) (b : Nat) {o o' : Nat} (h : o ≠ o') (v : Value) : (w.setCell ⟨b, o, none⟩ v).cell? ⟨b, o', none⟩ = w.cell? ⟨b, o', none⟩ := World.cell?_setCell_other _ _ _ _ (by intro e; injection e with _ e2; exact h e2)
theorem SrAt.mix {w : World} {b L B : Nat} {s : Sr} (h : SrAt w b L B s) (m : Int) : SrAt (w.setCell ⟨b, 2, none⟩ (.int .i64 m)).drew b L B { s with mix := m } := by
  obtain ⟨a, c, e0, hb⟩ := h.c0
  exact ⟨⟨a, c, (set_other w b (by omega) _).trans e0, bytes_set _ hb h.out⟩, (set_other w b (by omega) _).trans h.c1, World.cell?_setCell_same w _ _ h.c2, (set_other w b (by omega) _).trans h.c3, fun q => by show (w.setCell _ _).frozen? _ = false; rw [World.frozen?_setCell]; exact h.thaw q, h.out⟩
theorem SrAt.pos {w : World} {b L B : Nat} {s : Sr} (h : SrAt w b L B s) (m : Nat) : SrAt (w.setCell ⟨b, 1, none⟩ (.int .i64 m)).drew b L B { s with pos := m } := by
  obtain ⟨a, c, e0, hb⟩ := h.c0
  exact ⟨⟨a, c, (set_other w b (by omega) _).trans e0, bytes_set _ hb h.out⟩, World.cell?_setCell_same w _ _ h.c1, (set_other w b (by omega) _).trans h.c2, (set_other w b (by omega) _).trans h.c3, fun q => by show (w.setCell _ _).frozen? _ = false; rw [World.frozen?_setCell]; exact h.thaw q, h.out⟩
theorem SrAt.drew {w : World} {b L B : Nat} {s : Sr} (h : SrAt w b L B s) : SrAt w.drew b L B s := ⟨h.c0, h.c1, h.c2, h.c3, h.thaw, h.out⟩
theorem grown_set (w : World) (b q : Nat) (v : Value) : w.grownBy (w.setCell ⟨b, q, none⟩ v).drew (some b) := ⟨rfl, rfl, rfl, by simp [World.setCell, World.drew], fun k _ hk => Below.heap_setCell _ _ _ _ (fun e => hk (by rw [e]))⟩
set_option maxHeartbeats 1000000 in
set_option maxRecDepth 100000 in
theorem next_any (b L B : Nat) (s : Sr) (n : Int) (w : World) (hs : Hid (SrAt w b L B s)) (hk : Hid (SrOk s)) (hn : n ≤ 1000000) (hn0 : -1000000 ≤ n) :
    Calls Tryd.prog 71 #[.pointer (some ⟨b, 0, none⟩), .int .i64 n] w fun e w' => e = .returned (.int .i64 (nextP s n).1) ∧ SrAt w' b L B (nextP s n).2 ∧ w.grownBy w' (some b) := by
  obtain ⟨a, c, e0, hb⟩ := hs.out.c0
  have e1 := hs.out.c1
  have e2 := hs.out.c2
  have z1 := hs.out.thaw 1
  have z2 := hs.out.thaw 2
  have HB := hide hb
  clear hb
  have hp := hk.out.pos
  have hl := hk.out.len
  have hm := hk.out.mix
  have HN : Hid (nextP s n = if n ≤ 1 then (0, s) else if s.pos < s.code.length ∧ n ≤ 256 then (((s.code.getD s.pos 0).toNat : Int) % n, { s with pos := s.pos + 1 }) else ((s.mix * 1103 + 12347) % 1000003 / 3 % n, { s with mix := (s.mix * 1103 + 12347) % 1000003 })) := hide rfl
  by_cases h1 : n ≤ 1
  · have HR : Hid (nextP s n = (0, s)) := hide (by rw [HN.out, if_pos h1])
    clear HN
    go_enter Tryd.func71, Tryd.ntmps71
    go_wp2
    go_ret
    rw [HR.out]
    exact ⟨rfl, hs.out, ⟨rfl, rfl, rfl, Nat.le_refl _, fun _ _ _ => rfl⟩⟩
  · by_cases h2 : s.pos < s.code.length ∧ n ≤ 256
    · have HR : Hid (nextP s n = (((s.code.getD s.pos 0).toNat : Int) % n, { s with pos := s.pos + 1 })) := hide (by rw [HN.out, if_neg h1, if_pos h2])
      obtain ⟨h3, h4⟩ := h2
      obtain ⟨b', o', rfl, hbb, hc⟩ := HB.out s.pos h3
      have HG : Hid (s.code.getD s.pos 0 = s.code[s.pos]) := hide (by simp [h3])
      have hby : s.code[s.pos].toNat < 256 := UInt8.toNat_lt _
      have HC0 := hide hs.out
      generalize s.code[s.pos] = by0 at *
      generalize hbn : by0.toNat = bn at *
      have hrem : ((bn : Nat) : Int).tmod n = (bn : Int) % n := Int.tmod_eq_emod_of_nonneg (by omega)
      clear HN hbb
      have hlt : (s.pos : Int) < (s.code.length : Int) := by omega
      generalize hcl : s.code.length = cl at *
      go_enter Tryd.func71, Tryd.ntmps71
      go_wp2
      go_region
      go_wp2
      go_region
      go_wp2
      go_ret
      rw [HR.out]
      have hsp := (hs.out.pos (s.pos + 1)).drew
      have hgs := (grown_set w b 1 (.int .i64 ((s.pos + 1 : Nat) : Int)))
      rw [Int.natCast_add] at hsp hgs
      refine ⟨?_, hsp, ⟨hgs.os, hgs.tape, hgs.output, hgs.size, hgs.block⟩⟩
      rw [HG.out, hbn]
      rfl
    · have HR : Hid (nextP s n = ((s.mix * 1103 + 12347) % 1000003 / 3 % n, { s with mix := (s.mix * 1103 + 12347) % 1000003 })) := hide (by rw [HN.out, if_neg h1, if_neg h2])
      have hrem : (s.mix * 1103 + 12347).tmod 1000003 = (s.mix * 1103 + 12347) % 1000003 := Int.tmod_eq_emod_of_nonneg (by omega)
      have hq : ((s.mix * 1103 + 12347) % 1000003).tdiv 3 = (s.mix * 1103 + 12347) % 1000003 / 3 := Int.tdiv_eq_ediv_of_nonneg (by omega)
      have hr2 : ((s.mix * 1103 + 12347) % 1000003 / 3).tmod n = (s.mix * 1103 + 12347) % 1000003 / 3 % n := Int.tmod_eq_emod_of_nonneg (by omega)
      clear HN
      by_cases h3 : s.pos < s.code.length
      · have h4 : ¬ n ≤ 256 := fun h4 => h2 ⟨h3, h4⟩
        clear h2
        have hlt : (s.pos : Int) < (s.code.length : Int) := by omega
        generalize hcl : s.code.length = cl at *
        go_enter Tryd.func71, Tryd.ntmps71
        go_wp2
        go_region
        go_wp2
        go_ret
        rw [HR.out]
        exact ⟨rfl, hs.out.mix _, grown_set _ _ _ _⟩
      · clear h2
        have hlt : ¬ (s.pos : Int) < (s.code.length : Int) := by omega
        generalize hcl : s.code.length = cl at *
        go_enter Tryd.func71, Tryd.ntmps71
        go_wp2
        go_region
        go_wp2
        go_ret
        rw [HR.out]
        exact ⟨rfl, hs.out.mix _, grown_set _ _ _ _⟩
end Go.Proofs.YtlmaodcddbkllaaDoor

/-
  Sequence, pure: moves, the step that both the model and the program make, what is emitted.
-/
namespace Go.Proofs.YtlmaodcddbkllaaDoor

structure Mv where
  to : Int
  frm : Int
def isRead (L : List Mv) (r : Int) : Bool := L.any fun m => m.frm == r
theorem isRead_iff {L : List Mv} {r : Int} : isRead L r = true ↔ ∃ m ∈ L, m.frm = r := by simp [isRead]
/-- The least of some numbers. -/
def lowI : List Int → Option Int
  | [] => none
  | x :: xs => match lowI xs with
    | none => some x
    | some y => some (if x < y then x else y)
theorem lowI_none {xs : List Int} : lowI xs = none ↔ xs = [] := by
  cases xs with
  | nil => simp [lowI]
  | cons x xs =>
    simp only [lowI]
    cases lowI xs <;> simp
theorem lowI_some : ∀ {xs : List Int} {y : Int}, lowI xs = some y → y ∈ xs ∧ ∀ x ∈ xs, y ≤ x
  | [], y, h => by cases h
  | x :: xs, y, h => by
    simp only [lowI] at h
    cases hl : lowI xs with
    | none =>
      rw [hl] at h
      have e : xs = [] := lowI_none.1 hl
      subst e
      cases h
      simp
    | some z =>
      rw [hl] at h
      obtain ⟨h1, h2⟩ := lowI_some hl
      simp only [Option.some.injEq] at h
      split at h
      · subst h
        rename_i hlt
        exact ⟨List.mem_cons_self, fun u hu => by
          rcases List.mem_cons.1 hu with rfl | hu
          · exact Int.le_refl _
          · have := h2 u hu; omega⟩
      · subst h
        rename_i hlt
        exact ⟨List.mem_cons_of_mem _ h1, fun u hu => by
          rcases List.mem_cons.1 hu with rfl | hu
          · omega
          · exact h2 u hu⟩
theorem lowI_of {xs : List Int} {y : Int} (h1 : y ∈ xs) (h2 : ∀ x ∈ xs, y ≤ x) : lowI xs = some y := by
  cases h : lowI xs with
  | none => rw [lowI_none.1 h] at h1; cases h1
  | some z =>
    obtain ⟨g1, g2⟩ := lowI_some h
    have a := h2 z g1
    have b := g2 y h1
    rw [show z = y by omega]
def tosM (L : List Mv) : List Int := L.map (·.to)
def freeT (L : List Mv) : List Int := (tosM L).filter fun t => !isRead L t
def cpI (m : Mv) : Ins := if m.frm < 0 then ⟨13, m.to, 0, 0, 0⟩ else ⟨11, m.to, m.frm, 0, 0⟩
def fromOf (L : List Mv) (t : Int) : Int := ((L.find? fun m => m.to == t).map (·.frm)).getD 0
def without (L : List Mv) (t : Int) : List Mv := L.filter fun m => m.to != t
def scratch (L : List Mv) (r : Int) : List Mv := L.map fun m => if m.frm = r then ⟨m.to, -1⟩ else m
def stepM (L : List Mv) : Ins × List Mv := match lowI (freeT L) with
  | some t => (cpI ⟨t, fromOf L t⟩, without L t)
  | none => match lowI (tosM L) with
    | some r => (⟨12, 0, r, 0, 0⟩, scratch L r)
    | none => (⟨0, 0, 0, 0, 0⟩, [])
def emitM : Nat → List Mv → List Ins
  | 0, _ => []
  | _ + 1, [] => []
  | k + 1, m :: L => (stepM (m :: L)).1 :: emitM k (stepM (m :: L)).2
theorem emitM_nil (k : Nat) : emitM k [] = [] := by cases k <;> rfl
theorem emitM_succ (k : Nat) {L : List Mv} (h : L ≠ []) : emitM (k + 1) L = (stepM L).1 :: emitM k (stepM L).2 := by
  cases L with
  | nil => exact absurd rfl h
  | cons m L => rfl
theorem emitM_len : ∀ (k : Nat) (L : List Mv), (emitM k L).length ≤ k
  | 0, _ => Nat.le_refl _
  | _ + 1, [] => Nat.zero_le _
  | k + 1, m :: L => by have := emitM_len k (stepM (m :: L)).2; simp only [emitM, List.length_cons]; omega
structure MvOk (L : List Mv) : Prop where
  nd : (tosM L).Nodup
  to : ∀ m ∈ L, 0 ≤ m.to ∧ m.to < 64
  frm : ∀ m ∈ L, m.frm = -1 ∨ (0 ≤ m.frm ∧ m.frm < 64)
  ne : ∀ m ∈ L, m.frm ≠ m.to
def meas (L : List Mv) : Nat := L.length + (L.filter fun m => decide (0 ≤ m.frm)).length
theorem MvOk.nil : MvOk [] := ⟨by simp [tosM], by simp, by simp, by simp⟩
theorem MvOk.without {L : List Mv} (h : MvOk L) (t : Int) : MvOk (without L t) := by
  refine ⟨?_, fun m hm => h.to m (List.mem_filter.1 hm).1, fun m hm => h.frm m (List.mem_filter.1 hm).1, fun m hm => h.ne m (List.mem_filter.1 hm).1⟩
  exact h.nd.sublist (List.filter_sublist.map _)
theorem tos_scratch (L : List Mv) (r : Int) : tosM (scratch L r) = tosM L := by
  unfold tosM scratch
  rw [List.map_map]
  refine List.map_congr_left (fun m _ => ?_)
  show (if m.frm = r then (⟨m.to, -1⟩ : Mv) else m).to = m.to
  split <;> rfl
theorem MvOk.scratch {L : List Mv} (h : MvOk L) (r : Int) : MvOk (scratch L r) := by
  have key : ∀ m ∈ Go.Proofs.YtlmaodcddbkllaaDoor.scratch L r, ∃ q ∈ L, m = (if q.frm = r then ⟨q.to, -1⟩ else q) := fun m hm => by
    obtain ⟨q, hq, e⟩ := List.mem_map.1 hm
    exact ⟨q, hq, e.symm⟩
  refine ⟨by rw [tos_scratch]; exact h.nd, fun m hm => ?_, fun m hm => ?_, fun m hm => ?_⟩ <;> obtain ⟨q, hq, rfl⟩ := key m hm
  · have := h.to q hq; split <;> exact this
  · split
    · exact Or.inl rfl
    · exact h.frm q hq
  · have h1 := h.to q hq
    have h2 := h.ne q hq
    split
    · show (-1 : Int) ≠ q.to; omega
    · exact h2
theorem MvOk.step {L : List Mv} (h : MvOk L) : MvOk (stepM L).2 := by
  unfold stepM
  split
  · exact h.without _
  · split
    · exact h.scratch _
    · exact MvOk.nil
theorem meas_without {L : List Mv} {t : Int} (ht : t ∈ tosM L) : meas (without L t) < meas L := by
  unfold meas without
  have h1 : (L.filter fun m => m.to != t).length < L.length := by
    refine List.length_filter_lt_length_iff_exists.2 ?_
    obtain ⟨m, hm, e⟩ := List.mem_map.1 ht
    exact ⟨m, hm, by simp [e]⟩
  have h2 : ((L.filter fun m => m.to != t).filter fun m => decide (0 ≤ m.frm)).length ≤ (L.filter fun m => decide (0 ≤ m.frm)).length := (List.filter_sublist.filter _).length_le
  omega
theorem meas_scratch {r : Int} (hr : 0 ≤ r) : ∀ {L : List Mv}, isRead L r = true → meas (scratch L r) < meas L := by
  have key : ∀ L : List Mv, ((scratch L r).filter fun m => decide (0 ≤ m.frm)).length ≤ (L.filter fun m => decide (0 ≤ m.frm)).length ∧ (isRead L r = true → ((scratch L r).filter fun m => decide (0 ≤ m.frm)).length < (L.filter fun m => decide (0 ≤ m.frm)).length) := fun L => by
    induction L with
    | nil => simp [scratch, isRead]
    | cons m L ih =>
      obtain ⟨i1, i2⟩ := ih
      have e : scratch (m :: L) r = (if m.frm = r then ⟨m.to, -1⟩ else m) :: scratch L r := rfl
      have er : isRead (m :: L) r = (m.frm == r || isRead L r) := rfl
      rw [e, er]
      by_cases hm : m.frm = r
      · rw [if_pos hm]
        have : (decide (0 ≤ m.frm)) = true := by simp; omega
        rw [List.filter_cons_of_neg (p := fun m : Mv => decide (0 ≤ m.frm)) (by simp), List.filter_cons_of_pos (p := fun m : Mv => decide (0 ≤ m.frm)) this]
        simp only [List.length_cons]
        exact ⟨by omega, fun _ => by omega⟩
      · rw [if_neg hm]
        have eb : (m.frm == r) = false := by simpa using hm
        rw [eb, Bool.false_or]
        by_cases h0 : decide (0 ≤ m.frm) = true
        · rw [List.filter_cons_of_pos (p := fun m : Mv => decide (0 ≤ m.frm)) h0, List.filter_cons_of_pos (p := fun m : Mv => decide (0 ≤ m.frm)) h0]
          simp only [List.length_cons]
          exact ⟨by omega, fun hi => by have := i2 hi; omega⟩
        · rw [List.filter_cons_of_neg (p := fun m : Mv => decide (0 ≤ m.frm)) h0, List.filter_cons_of_neg (p := fun m : Mv => decide (0 ≤ m.frm)) h0]
          exact ⟨i1, i2⟩
  intro L hi
  have h1 := (key L).2 hi
  unfold meas
  have h2 : (scratch L r).length = L.length := by simp [scratch]
  omega
theorem free_mem {L : List Mv} {t : Int} : t ∈ freeT L ↔ t ∈ tosM L ∧ isRead L t = false := by simp [freeT]
theorem meas_step {L : List Mv} (h : MvOk L) (hne : L ≠ []) : meas (stepM L).2 < meas L := by
  unfold stepM
  split
  · rename_i t ht
    exact meas_without (free_mem.1 (lowI_some ht).1).1
  · rename_i hf
    split
    · rename_i r hr
      obtain ⟨g1, _⟩ := lowI_some hr
      have hrd : isRead L r = true := by
        cases hb : isRead L r with
        | true => rfl
        | false =>
          have : r ∈ freeT L := free_mem.2 ⟨g1, hb⟩
          rw [lowI_none.1 hf] at this
          cases this
      obtain ⟨m, hm, e⟩ := List.mem_map.1 g1
      exact meas_scratch (by have := (h.to m hm).1; omega) hrd
    · rename_i hr
      have := lowI_none.1 hr
      exact absurd (List.map_eq_nil_iff.1 this) hne
theorem emit_more : ∀ (k : Nat) {L : List Mv}, MvOk L → meas L ≤ k → emitM k L = emitM (meas L) L
  | 0, L, _, hk => by rw [show meas L = 0 by omega]
  | k + 1, L, h, hk => by
    by_cases hne : L = []
    · subst hne; rw [emitM_nil, emitM_nil]
    · have h1 := meas_step h hne
      obtain ⟨j, hj⟩ : ∃ j, meas L = j + 1 := ⟨meas L - 1, by omega⟩
      rw [hj, emitM_succ k hne, emitM_succ j hne, emit_more k h.step (by omega)]
      by_cases hk2 : meas (stepM L).2 ≤ j
      · by_cases hjk : j ≤ k
        · have := emit_more j h.step hk2
          rw [this]
        · have e : j = k := by omega
          rw [e, emit_more k h.step (by omega)]
      · omega
theorem emit_run {L : List Mv} (h : MvOk L) (hne : L ≠ []) : emitM (meas L) L = (stepM L).1 :: emitM (meas (stepM L).2) (stepM L).2 := by
  have h1 := meas_step h hne
  obtain ⟨j, hj⟩ : ∃ j, meas L = j + 1 := ⟨meas L - 1, by omega⟩
  rw [hj, emitM_succ j hne, emit_more j h.step (by omega)]
/-- Is the move good behind those before it? -/
def goodAt (pre : List Mv) (m : Mv) : Bool := decide (0 ≤ m.to ∧ m.to < 64 ∧ 0 ≤ m.frm ∧ m.frm < 64) && !pre.any (fun q => q.to == m.to)
def goodF : List Mv → List Mv → Bool
  | _, [] => true
  | pre, m :: r => goodAt pre m && goodF (pre ++ [m]) r
def goodM (L : List Mv) : Bool := decide (L.length ≤ 64) && goodF [] L
def startM (L : List Mv) : List Mv := L.filter fun m => m.to != m.frm
def seqM (L : List Mv) : List Ins := if goodM L = true then emitM (2 * (startM L).length) (startM L) else []
structure GoodL (L : List Mv) : Prop where
  nd : (tosM L).Nodup
  rng : ∀ m ∈ L, 0 ≤ m.to ∧ m.to < 64 ∧ 0 ≤ m.frm ∧ m.frm < 64
theorem GoodL.snoc {L : List Mv} (h : GoodL L) {m : Mv} (hm : goodAt L m = true) : GoodL (L ++ [m]) := by
  simp only [goodAt, Bool.and_eq_true, decide_eq_true_eq, Bool.not_eq_true'] at hm
  obtain ⟨h1, h2⟩ := hm
  refine ⟨?_, fun q hq => ?_⟩
  · unfold tosM
    rw [List.map_append, List.nodup_append]
    refine ⟨h.nd, by simp, fun a ha b hb => ?_⟩
    simp only [List.map_cons, List.map_nil, List.mem_singleton] at hb
    subst hb
    intro e
    subst e
    obtain ⟨q, hq, e⟩ := List.mem_map.1 ha
    have := List.any_eq_false.1 h2 q hq
    simp [e] at this
  · rcases List.mem_append.1 hq with hq | hq
    · exact h.rng q hq
    · rw [List.mem_singleton.1 hq]; exact h1
theorem good_all : ∀ (r pre : List Mv), GoodL pre → goodF pre r = true → GoodL (pre ++ r)
  | [], pre, h, _ => by rw [List.append_nil]; exact h
  | m :: r, pre, h, hg => by
    simp only [goodF, Bool.and_eq_true] at hg
    have := good_all r (pre ++ [m]) (h.snoc hg.1) hg.2
    simpa using this
theorem GoodL.start {L : List Mv} (h : GoodL L) : MvOk (startM L) ∧ meas (startM L) = 2 * (startM L).length := by
  have sub : ∀ m ∈ startM L, m ∈ L ∧ m.to ≠ m.frm := fun m hm => by simpa [startM] using hm
  refine ⟨⟨h.nd.sublist (List.filter_sublist.map _), fun m hm => ?_, fun m hm => ?_, fun m hm => ?_⟩, ?_⟩
  · have := h.rng m (sub m hm).1; omega
  · have := h.rng m (sub m hm).1; omega
  · exact fun e => (sub m hm).2 e.symm
  · unfold meas
    rw [List.filter_eq_self.2 (fun m hm => by have := h.rng m (sub m hm).1; simp; omega)]
    omega
theorem goodM_good {L : List Mv} (h : goodM L = true) : L.length ≤ 64 ∧ GoodL L := by
  simp only [goodM, Bool.and_eq_true, decide_eq_true_eq] at h
  exact ⟨h.1, by simpa using good_all L [] ⟨by simp [tosM], by simp⟩ h.2⟩
end Go.Proofs.YtlmaodcddbkllaaDoor

/-
  The draw of moves, pure: the source of numbers, shuffles, moves.
-/
namespace Go.Proofs.YtlmaodcddbkllaaDoor

def mixP (c : List UInt8) (m : Int) : Int := c.foldl (fun m b => (m * 257 + (b.toNat : Int) + 1) % 1000003) m
def srcP (bs : List UInt8) : Sr := ⟨bs.take 4000, 0, mixP (bs.take 4000) (((bs.length % 1000 : Nat) : Int) + 29), if 1 + (((bs.take 4000).length : Nat) : Int) / 50 > 7 then 7 else 1 + (((bs.take 4000).length : Nat) : Int) / 50⟩
theorem mix_rng : ∀ (c : List UInt8) (m : Int), 0 ≤ m → m < 1000003 → 0 ≤ mixP c m ∧ mixP c m < 1000003
  | [], m, h0, h1 => ⟨h0, h1⟩
  | b :: c, m, h0, h1 => mix_rng c _ (Int.emod_nonneg _ (by decide)) (Int.emod_lt_of_pos _ (by decide))
theorem mix_take (c : List UInt8) (m : Int) (j : Nat) (h : j < c.length) : mixP (c.take (j + 1)) m = (mixP (c.take j) m * 257 + (c[j].toNat : Int) + 1) % 1000003 := by
  unfold mixP
  rw [List.take_succ_eq_append_getElem h, List.foldl_append]
  rfl
theorem srcP_ok (bs : List UInt8) : SrOk (srcP bs) := by
  refine ⟨?_, Nat.zero_le _, mix_rng _ _ (by omega) (by have := Nat.mod_lt bs.length (show 0 < 1000 by decide); omega), ?_⟩
  · show (bs.take 4000).length ≤ 4000
    rw [List.length_take]; omega
  · unfold srcP
    dsimp only
    split <;> omega

def swapL {T : Type} (xs : List T) (i j : Nat) : List T := match xs[i]?, xs[j]? with
  | some a, some b => (xs.set i b).set j a
  | _, _ => xs
theorem swap_at {T : Type} (xs : List T) {i j : Nat} (hi : i < xs.length) (hj : j < xs.length) : swapL xs i j = (xs.set i xs[j]).set j xs[i] := by
  unfold swapL
  rw [List.getElem?_eq_getElem hi, List.getElem?_eq_getElem hj]
theorem swap_len {T : Type} (xs : List T) (i j : Nat) : (swapL xs i j).length = xs.length := by
  unfold swapL
  split <;> simp
theorem swap_mem {T : Type} {xs : List T} {i j : Nat} {x : T} (h : x ∈ swapL xs i j) : x ∈ xs := by
  unfold swapL at h
  split at h
  · rename_i a b ha hb
    rcases List.mem_or_eq_of_mem_set h with h | h
    · rcases List.mem_or_eq_of_mem_set h with h | h
      · exact h
      · rw [h]; exact List.mem_of_getElem? hb
    · rw [h]; exact List.mem_of_getElem? ha
  · exact h
/-- The shuffle from place i down to place 1. -/
def shufP {T : Type} : Nat → Sr → List T → List T × Sr
  | 0, s, xs => (xs, s)
  | i + 1, s, xs => shufP i (nextP s ((i : Int) + 1 + 1)).2 (swapL xs (i + 1) (nextP s ((i : Int) + 1 + 1)).1.toNat)
theorem shuf_len {T : Type} : ∀ (i : Nat) (s : Sr) (xs : List T), (shufP i s xs).1.length = xs.length
  | 0, _, _ => rfl
  | i + 1, s, xs => by rw [shufP, shuf_len i, swap_len]
theorem shuf_mem {T : Type} : ∀ (i : Nat) (s : Sr) (xs : List T) (x : T), x ∈ (shufP i s xs).1 → x ∈ xs
  | 0, _, _, _, h => h
  | i + 1, _, _, x, h => swap_mem (shuf_mem i _ _ x h)
theorem shuf_ok {T : Type} : ∀ (i : Nat) (s : Sr) (xs : List T), SrOk s → SrOk (shufP i s xs).2
  | 0, _, _, h => h
  | i + 1, s, xs, h => by rw [shufP]; exact shuf_ok i _ _ (next_ok h _)

/-- The register that the i-th move reads. -/
def frP (loose wide : Int) (i : Nat) (s : Sr) : Int × Sr :=
  if loose = 0 then nextP s wide
  else if loose = 1 then (if (nextP s 6).1 = 0 then nextP (nextP s 6).2 wide else ((i : Int), (nextP s 6).2))
  else ((i : Int), s)
theorem fr_ok {loose wide : Int} {i : Nat} {s : Sr} (h : SrOk s) : SrOk (frP loose wide i s).2 := by
  unfold frP
  split
  · exact next_ok h _
  · split
    · split
      · exact next_ok (next_ok h _) _
      · exact next_ok h _
    · exact h
theorem fr_rng {loose wide : Int} {i : Nat} {s : Sr} (h : (i : Int) < wide) : 0 ≤ (frP loose wide i s).1 ∧ (frP loose wide i s).1 < wide := by
  have h1 : 1 ≤ wide := by omega
  unfold frP
  split
  · exact next_lt _ h1
  · split
    · split
      · exact next_lt _ h1
      · exact ⟨by show (0 : Int) ≤ (i : Int); omega, h⟩
    · exact ⟨by show (0 : Int) ≤ (i : Int); omega, h⟩
/-- The moves: k more of them behind the first i. -/
def mvsP (loose wide : Int) (ats : List Int) : Nat → Nat → Sr → List Mv → List Mv × Sr
  | 0, _, s, acc => (acc, s)
  | k + 1, i, s, acc => mvsP loose wide ats k (i + 1) (frP loose wide i s).2 (acc ++ [⟨ats.getD i 0, (frP loose wide i s).1⟩])
theorem mvs_len (loose wide : Int) (ats : List Int) : ∀ (k i : Nat) (s : Sr) (acc : List Mv), (mvsP loose wide ats k i s acc).1.length = acc.length + k
  | 0, _, _, _ => rfl
  | k + 1, i, s, acc => by rw [mvsP, mvs_len]; simp; omega
theorem mvs_ok {loose wide : Int} {ats : List Int} : ∀ (k i : Nat) (s : Sr) (acc : List Mv), SrOk s → SrOk (mvsP loose wide ats k i s acc).2
  | 0, _, _, _, h => h
  | k + 1, i, s, acc, h => by rw [mvsP]; exact mvs_ok k _ _ _ (fr_ok h)
/-- A move as it is drawn. -/
def MvR (m : Mv) : Prop := (-1 ≤ m.to ∧ m.to ≤ 64) ∧ (-1 ≤ m.frm ∧ m.frm ≤ 64)
theorem mvs_rng {loose wide : Int} {ats : List Int} (hw : wide ≤ 64) (ha : ∀ x ∈ ats, 0 ≤ x ∧ x < 64) : ∀ (k i : Nat) (s : Sr) (acc : List Mv), ((i + k : Nat) : Int) ≤ wide → (∀ m ∈ acc, MvR m) → ∀ m ∈ (mvsP loose wide ats k i s acc).1, MvR m
  | 0, _, _, _, _, h => h
  | k + 1, i, s, acc, hi, h => by
    rw [mvsP]
    refine mvs_rng hw ha k (i + 1) _ _ (by omega) (fun m hm => ?_)
    rcases List.mem_append.1 hm with hm | hm
    · exact h m hm
    · simp only [List.mem_cons, List.not_mem_nil, or_false] at hm
      subst hm
      have h1 := fr_rng (loose := loose) (wide := wide) (i := i) (s := s) (by omega)
      refine ⟨?_, by show -1 ≤ (frP loose wide i s).1 ∧ (frP loose wide i s).1 ≤ 64; omega⟩
      show -1 ≤ ats.getD i 0 ∧ ats.getD i 0 ≤ 64
      by_cases hl : i < ats.length
      · have h2 := ha ats[i] (List.getElem_mem hl)
        rw [show ats.getD i 0 = ats[i] by simp [hl]]
        omega
      · rw [show ats.getD i 0 = 0 by simp [hl]]
        omega
/-- The one change that is made in the end. -/
def lastP (k : Int) (i : Nat) (xs : List Mv) (s : Sr) : List Mv :=
  if k = 0 then xs.set i ⟨64 - (nextP s 2).1, (xs.getD i ⟨0, 0⟩).frm⟩
  else if k = 1 then xs.set i ⟨(xs.getD i ⟨0, 0⟩).to, 64 - (nextP s 2).1⟩
  else if k = 2 then xs.set i ⟨(xs.getD 0 ⟨0, 0⟩).to, (xs.getD i ⟨0, 0⟩).frm⟩
  else if k = 3 then xs.set i ⟨(xs.getD i ⟨0, 0⟩).to, -1⟩
  else if k = 4 then xs ++ [⟨63, 0⟩] else xs
theorem getD_mem {T : Type} (xs : List T) (d : T) {i : Nat} (h : i < xs.length) : xs.getD i d ∈ xs := by
  rw [show xs.getD i d = xs[i] by simp [h]]
  exact List.getElem_mem h
theorem last_rng {k : Int} {i : Nat} {xs : List Mv} {s : Sr} (hi : i < xs.length) (h : ∀ m ∈ xs, MvR m) : ∀ m ∈ lastP k i xs s, MvR m := by
  have g0 := h _ (getD_mem xs ⟨0, 0⟩ hi)
  have g1 := h _ (getD_mem xs ⟨0, 0⟩ (show 0 < xs.length by omega))
  have h2 := next_lt s (n := 2) (by decide)
  unfold lastP
  intro m hm
  split at hm
  · rcases List.mem_or_eq_of_mem_set hm with hm | rfl
    · exact h m hm
    · exact ⟨by show -1 ≤ 64 - (nextP s 2).1 ∧ 64 - (nextP s 2).1 ≤ 64; omega, g0.2⟩
  · split at hm
    · rcases List.mem_or_eq_of_mem_set hm with hm | rfl
      · exact h m hm
      · exact ⟨g0.1, by show -1 ≤ 64 - (nextP s 2).1 ∧ 64 - (nextP s 2).1 ≤ 64; omega⟩
    · split at hm
      · rcases List.mem_or_eq_of_mem_set hm with hm | rfl
        · exact h m hm
        · exact ⟨g1.1, g0.2⟩
      · split at hm
        · rcases List.mem_or_eq_of_mem_set hm with hm | rfl
          · exact h m hm
          · exact ⟨g0.1, by show (-1 : Int) ≤ -1 ∧ (-1 : Int) ≤ 64; decide⟩
        · split at hm
          · rcases List.mem_append.1 hm with hm | hm
            · exact h m hm
            · simp only [List.mem_cons, List.not_mem_nil, or_false] at hm
              subst hm
              exact ⟨⟨by decide, by decide⟩, by decide, by decide⟩
          · exact h m hm
theorem last_len {k : Int} {i : Nat} {xs : List Mv} {s : Sr} : (lastP k i xs s).length ≤ xs.length + 1 := by
  unfold lastP
  split
  · simp
  · split
    · simp
    · split
      · simp
      · split
        · simp
        · split <;> simp

def draw7 (p : List Mv × Sr) : List Mv := lastP (nextP p.2 20).1 (nextP (nextP p.2 20).2 (p.1.length : Int)).1.toNat p.1 (nextP (nextP p.2 20).2 (p.1.length : Int)).2
def draw5 (n wide : Nat) (p : List Int × Sr) : List Mv :=
  draw7 (shufP ((mvsP (nextP p.2 3).1 wide p.1 n 0 (nextP p.2 3).2 []).1.length - 1) (mvsP (nextP p.2 3).1 wide p.1 n 0 (nextP p.2 3).2 []).2 (mvsP (nextP p.2 3).1 wide p.1 n 0 (nextP p.2 3).2 []).1)
def iota (n : Nat) : List Int := (List.range n).map Int.ofNat
def draw3 (n wide : Nat) (s : Sr) : List Mv := draw5 n wide (shufP (wide - 1) s (iota wide))
def draw2 (n wide : Nat) (s : Sr) : List Mv := if (nextP s 10).1 = 0 then draw3 64 64 (nextP s 10).2 else draw3 n wide (nextP s 10).2
def draw1 (n : Nat) (s : Sr) : List Mv := if (nextP s 2).1 = 0 then draw2 n (n + (nextP (nextP s 2).2 8).1.toNat) (nextP (nextP s 2).2 8).2 else draw2 n n (nextP s 2).2
def drawP (s : Sr) : List Mv := draw1 (1 + (nextP s (3 + 3 * s.size)).1.toNat) (nextP s (3 + 3 * s.size)).2
theorem iota_len (n : Nat) : (iota n).length = n := by simp [iota]
theorem iota_mem {n : Nat} {x : Int} (h : x ∈ iota n) : 0 ≤ x ∧ x < n := by
  simp only [iota, List.mem_map, List.mem_range] at h
  obtain ⟨i, hi, rfl⟩ := h
  exact ⟨Int.natCast_nonneg i, by show (i : Int) < n; omega⟩
theorem iota_succ (n : Nat) : iota (n + 1) = iota n ++ [(n : Int)] := by simp [iota, List.range_succ]
/-- What is drawn: at least one move, at most sixty-five, every number in -1..64. -/
def DrOk (xs : List Mv) : Prop := xs.length ≤ 65 ∧ ∀ m ∈ xs, MvR m
theorem draw7_ok {p : List Mv × Sr} (h1 : 1 ≤ p.1.length) (h2 : p.1.length ≤ 64) (h : ∀ m ∈ p.1, MvR m) : DrOk (draw7 p) := by
  have h3 := next_lt (nextP p.2 20).2 (n := (p.1.length : Int)) (by omega)
  exact ⟨Nat.le_trans last_len (by omega), last_rng (by omega) h⟩
theorem draw5_ok {n wide : Nat} {p : List Int × Sr} (h1 : 1 ≤ n) (h2 : n ≤ wide) (h3 : wide ≤ 64) (ha : ∀ x ∈ p.1, 0 ≤ x ∧ x < 64) : DrOk (draw5 n wide p) := by
  unfold draw5
  have hl := mvs_len (nextP p.2 3).1 wide p.1 n 0 (nextP p.2 3).2 []
  simp only [List.length_nil, Nat.zero_add] at hl
  refine draw7_ok (by rw [shuf_len, hl]; exact h1) (by rw [shuf_len, hl]; omega) (fun m hm => ?_)
  exact mvs_rng (by omega) ha n 0 _ [] (by omega) (fun m hm => by cases hm) m (shuf_mem _ _ _ _ hm)
theorem draw3_ok {n wide : Nat} (s : Sr) (h1 : 1 ≤ n) (h2 : n ≤ wide) (h3 : wide ≤ 64) : DrOk (draw3 n wide s) :=
  draw5_ok h1 h2 h3 (fun x hx => by have := iota_mem (shuf_mem _ _ _ _ hx); omega)
theorem draw2_ok {n wide : Nat} (s : Sr) (h1 : 1 ≤ n) (h2 : n ≤ wide) (h3 : wide ≤ 64) : DrOk (draw2 n wide s) := by
  unfold draw2
  split
  · exact draw3_ok _ (by decide) (by decide) (by decide)
  · exact draw3_ok _ h1 h2 h3
theorem draw1_ok {n : Nat} (s : Sr) (h1 : 1 ≤ n) (h2 : n ≤ 24) : DrOk (draw1 n s) := by
  have h := next_lt (nextP s 2).2 (n := 8) (by decide)
  unfold draw1
  split
  · exact draw2_ok _ h1 (by omega) (by omega)
  · exact draw2_ok _ h1 (by omega) (by omega)
theorem drawP_ok {s : Sr} (h : SrOk s) : DrOk (drawP s) := by
  have h1 := h.size
  have h2 := next_lt s (n := 3 + 3 * s.size) (by omega)
  exact draw1_ok _ (by omega) (by omega)
end Go.Proofs.YtlmaodcddbkllaaDoor
