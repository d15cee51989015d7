import Derived.Test.YtdcdgopblbmgoaaDoorPure2
import Derived.Test.YtdcdgopblbmgoaaDoorW6b
import Derived.Deep.RegionWith
import Derived.Deep.DrawnRows
namespace Go.Proofs.YtdcdgopblbmgoaaDoor
open Go.RowKit

set_option maxHeartbeats 400000 in
theorem validImm_any (op dst a b imm : Int) (w : World) :
    Calls Tryd.prog 131 #[.agg #[.int .i64 op, .int .i64 dst, .int .i64 a, .int .i64 b, .int .i64 imm]] w fun e w' => e = .returned (.bool (immOk ⟨op, dst, a, b, imm⟩)) ∧ Below w.heap.size w w' := by
  go_enter Tryd.func131, Tryd.ntmps131
  go_wp2
  all_goals
    go_ret
    refine ⟨ret_bool ?_, balloc (Below.refl _ _) _⟩
    first | (simp [immOk, *]; done) | (simp [immOk, *]; omega)

/-- What the table of the instructions' forms (variable 0) holds. -/
def OpTab (w : World) : Prop := 0 < w.heap.size ∧ ∀ k : Nat, 1 ≤ k → k ≤ 13 → ∃ s, w.cell? ⟨0, k * 5, none⟩ = some (.string s) ∧ w.cell? ⟨0, k * 5 + 1, none⟩ = some (.bool (dB k)) ∧ w.cell? ⟨0, k * 5 + 2, none⟩ = some (.bool (aB k)) ∧
  w.cell? ⟨0, k * 5 + 3, none⟩ = some (.bool (bB k)) ∧ ∃ i, w.cell? ⟨0, k * 5 + 4, none⟩ = some (.bool i)
/-- What the table of the ends' forms (variable 1) holds. -/
def TerTab (w : World) : Prop := 1 < w.heap.size ∧ ∀ k : Nat, 1 ≤ k → k ≤ 3 → ∃ s, w.cell? ⟨1, k * 4, none⟩ = some (.string s) ∧ w.cell? ⟨1, k * 4 + 1, none⟩ = some (.bool ((k : Int) != 1)) ∧ w.cell? ⟨1, k * 4 + 2, none⟩ = some (.bool ((k : Int) != 3)) ∧
  w.cell? ⟨1, k * 4 + 3, none⟩ = some (.bool ((k : Int) == 2))
theorem OpTab.keep {w w' : World} (h : OpTab w) (k : Below w.heap.size w w') : OpTab w' := by
  refine ⟨Nat.lt_of_lt_of_le h.1 k.size, fun i h1 h2 => ?_⟩
  have e := fun o => cell_of (o := o) (k.block 0 h.1)
  obtain ⟨s, c0, c1, c2, c3, j, c4⟩ := h.2 i h1 h2
  exact ⟨s, (e _).trans c0, (e _).trans c1, (e _).trans c2, (e _).trans c3, j, (e _).trans c4⟩
theorem TerTab.keep {w w' : World} (h : TerTab w) (k : Below w.heap.size w w') : TerTab w' := by
  refine ⟨Nat.lt_of_lt_of_le h.1 k.size, fun i h1 h2 => ?_⟩
  have e := fun o => cell_of (o := o) (k.block 1 h.1)
  obtain ⟨s, c0, c1, c2, c3⟩ := h.2 i h1 h2
  exact ⟨s, (e _).trans c0, (e _).trans c1, (e _).trans c2, (e _).trans c3⟩

set_option maxHeartbeats 1000000 in
theorem validInstr_gen (op dst a b imm n most : Int) (w : World) (hm : most ≤ 13) (hT : Hid (OpTab w)) :
    Calls Tryd.prog 91 #[.agg #[.int .i64 op, .int .i64 dst, .int .i64 a, .int .i64 b, .int .i64 imm], .int .i64 most, .int .i64 n] w fun e w' => e = .returned (.bool (insOk n most ⟨op, dst, a, b, imm⟩)) ∧ Below w.heap.size w w' := by
  by_cases h : 1 ≤ op ∧ op ≤ most
  · obtain ⟨h1, h2⟩ := h
    obtain ⟨k, rfl⟩ := Int.eq_ofNat_of_zero_le (show 0 ≤ op by omega)
    have hz := hT.out.1
    obtain ⟨s, c0, c1, c2, c3, j, c4⟩ := hT.out.2 k (by omega) (by omega)
    have hR : Hid (insOk n most ⟨k, dst, a, b, imm⟩ = (fld (dB k) dst 0 n && fld (aB k) a 0 n && fld (bB k) b 0 n && immOk ⟨k, dst, a, b, imm⟩)) := by
      show _ = _
      unfold insOk
      rw [decide_eq_true h1, decide_eq_true h2]
      simp
    generalize dB (k : Int) = uD at *
    generalize aB (k : Int) = uA at *
    generalize bB (k : Int) = uB at *
    have hk13 : (k : Int) ≤ 13 := by omega
    go_enter Tryd.func91, Tryd.ntmps91
    go_wp2_with (first | (go_at_call 102; refine (validField_any _ _ _ _ _).mono ?_; rintro e w2 ⟨rfl, hw2⟩; rw [hw2]; clear hw2 w2) | (go_at_call 131; refine (validImm_any _ _ _ _ _ _).mono ?_; rintro e w2 ⟨rfl, hb2⟩))
    all_goals
      go_ret
      refine ⟨ret_bool ?_, ?_⟩
      · rw [hR.out]; simp [*]
      · first | exact bnext (balloc (balloc (Below.refl _ _) _) _) hb2 | exact balloc (balloc (Below.refl _ _) _) _
  · have hn : ∃ r, r = insOk n most ⟨op, dst, a, b, imm⟩ ∧ r = false := ⟨_, rfl, by
      unfold insOk
      by_cases h1 : 1 ≤ op
      · rw [decide_eq_false (p := op ≤ most) (by omega)]; simp
      · rw [decide_eq_false (p := 1 ≤ op) h1]; simp⟩
    obtain ⟨r, hr, rfl⟩ := hn
    rw [← hr]
    clear hr
    have h' : op < 1 ∨ (1 ≤ op ∧ most < op) := by omega
    clear h
    rcases h' with h' | ⟨h', h''⟩
    all_goals
      go_enter Tryd.func91, Tryd.ntmps91
      go_wp2
      all_goals
        go_ret
        exact ⟨rfl, balloc (Below.refl _ _) _⟩

theorem validInstr_any (op dst a b imm n : Int) (w : World) (hT : Hid (OpTab w)) :
    Calls Tryd.prog 91 #[.agg #[.int .i64 op, .int .i64 dst, .int .i64 a, .int .i64 b, .int .i64 imm], .int .i64 10, .int .i64 n] w fun e w' => e = .returned (.bool (insOk n 10 ⟨op, dst, a, b, imm⟩)) ∧ Below w.heap.size w w' :=
  validInstr_gen op dst a b imm n 10 w (by decide) hT

set_option maxHeartbeats 1000000 in
theorem validTerm_any (kind ta to els n low bl : Int) (w : World) (hT : Hid (TerTab w)) :
    Calls Tryd.prog 90 #[.agg #[.int .i64 kind, .int .i64 ta, .int .i64 to, .int .i64 els], .int .i64 n, .int .i64 low, .int .i64 bl] w fun e w' => e = .returned (.bool (terOk n low bl ⟨kind, ta, to, els⟩)) ∧ Below w.heap.size w w' := by
  by_cases h : 1 ≤ kind ∧ kind ≤ 3
  · obtain ⟨h1, h2⟩ := h
    obtain ⟨k, rfl⟩ := Int.eq_ofNat_of_zero_le (show 0 ≤ kind by omega)
    have hz := hT.out.1
    obtain ⟨s, c0, c1, c2, c3⟩ := hT.out.2 k (by omega) (by omega)
    have hR : Hid (terOk n low bl ⟨k, ta, to, els⟩ = (fld ((k : Int) != 1) ta 0 n && fld ((k : Int) != 3) to low bl && fld ((k : Int) == 2) els low bl)) := by
      show _ = _
      unfold terOk
      rw [decide_eq_true h1, decide_eq_true h2]
      simp
    generalize ((k : Int) != 1) = uA at *
    generalize ((k : Int) != 3) = uT at *
    generalize ((k : Int) == 2) = uE at *
    go_enter Tryd.func90, Tryd.ntmps90
    go_wp2_with (go_at_call 102; refine (validField_any _ _ _ _ _).mono ?_; rintro e w2 ⟨rfl, hw2⟩; rw [hw2]; clear hw2 w2)
    all_goals
      go_ret
      refine ⟨ret_bool ?_, ?_⟩
      · rw [hR.out]; simp [*]
      · exact balloc (balloc (Below.refl _ _) _) _
  · have hn : ∃ r, r = terOk n low bl ⟨kind, ta, to, els⟩ ∧ r = false := ⟨_, rfl, terOk_no h⟩
    obtain ⟨r, hr, rfl⟩ := hn
    rw [← hr]
    clear hr
    have h' : kind < 1 ∨ 3 < kind := by omega
    clear h
    go_enter Tryd.func90, Tryd.ntmps90
    go_wp2
    all_goals
      go_ret
      exact ⟨rfl, balloc (Below.refl _ _) _⟩

set_option maxHeartbeats 400000 in
theorem targetsI_any (t : Ter) (w : World) :
    Calls Tryd.prog 114 #[.agg #[.int .i64 t.kind, .int .i64 t.a, .int .i64 t.to, .int .i64 t.els]] w fun e w' => ∃ a c, e = .returned (.slice a t.targets.length c) ∧ Below w.heap.size w w' ∧ IntsAt w' w.heap.size w'.heap.size a t.targets := by
  obtain ⟨kind, ta, to, els⟩ := t
  by_cases h1 : kind = 1
  · subst h1
    go_enter Tryd.func114, Tryd.ntmps114
    go_wp2
    go_ret
    refine ⟨_, _, rfl, balloc (balloc (Below.refl _ _) _) _, fun i hi => ?_⟩
    simp [Ter.targets] at hi
    subst hi
    exact ⟨_, _, rfl, ⟨by simp, by simp⟩, by simp [Ter.targets]⟩
  · by_cases h2 : kind = 2
    · subst h2
      go_enter Tryd.func114, Tryd.ntmps114
      go_wp2
      go_ret
      refine ⟨_, _, rfl, balloc (balloc (Below.refl _ _) _) _, fun i hi => ?_⟩
      simp [Ter.targets] at hi
      match i, hi with
      | 0, _ => exact ⟨_, _, rfl, ⟨by simp, by simp⟩, by simp [Ter.targets]⟩
      | 1, _ => exact ⟨_, _, rfl, ⟨by simp, by simp⟩, by simp [Ter.targets]⟩
    · have e1 : (kind == 1) = false := by simp [h1]
      have e2 : (kind == 2) = false := by simp [h2]
      have hn : (Ter.targets ⟨kind, ta, to, els⟩) = [] := by simp [Ter.targets, h1, h2]
      rw [hn]
      clear h1 h2 hn
      go_enter Tryd.func114, Tryd.ntmps114
      go_wp2
      go_ret
      exact ⟨_, _, rfl, balloc (Below.refl _ _) _, fun i hi => absurd hi (by simp)⟩
end Go.Proofs.YtdcdgopblbmgoaaDoor

namespace Go.Proofs.YtdcdgopblbmgoaaDoor
open Go.RowKit
attribute [local go_sem ↓] Go.wp_at_zero Go.wp_at_succ

set_option maxHeartbeats 400000 in
theorem eqInts_yes (a a' : Option Addr) (n c c' : Nat) (xs : List Int) (L B L' B' : Nat) (w : World) (ha : Hid (IntsAt w L B a xs)) (hb : Hid (IntsAt w L' B' a' xs)) (hx : Hid (n = xs.length)) (hn : n ≤ 1048576) (hB : B ≤ w.heap.size) (hB' : B' ≤ w.heap.size) :
    Calls Tryd.prog 25 #[.slice a n c, .slice a' n c'] w fun e w' => e = .returned (.bool true) ∧ Below w.heap.size w w' := by
  go_enter Tryd.func25, Tryd.ntmps25
  go_wp2
  go_loopw [5] (fun i wr => ∃ k : Nat, k ≤ n ∧ i = .int .i64 k ∧ Below w.heap.size w wr) (fun i _ => n - (intOf i).toNat)
  case atStart => exact ⟨0, Nat.zero_le _, rfl, Below.refl _ _⟩
  case round =>
    obtain ⟨k, hk, rfl, hw⟩ := hrel
    by_cases hlt : k < n
    · have hkx : k < xs.length := by have := hx.out; omega
      obtain ⟨b, o, rfl, ⟨_, hbB⟩, hc⟩ := ha.out k hkx
      obtain ⟨b', o', rfl, ⟨_, hbB'⟩, hc'⟩ := hb.out k hkx
      have hk0 : (0 : Int) ≤ (k : Int) := by omega
      have hk1 : (k : Int) < (n : Int) := by omega
      have e1 := (hw.cell (p := ⟨b, o + k, none⟩) (by show b < _; omega)).trans hc
      have e2 := (hw.cell (p := ⟨b', o' + k, none⟩) (by show b' < _; omega)).trans hc'
      clear hc hc'
      go_wp2
      go_region
      go_wp2
      exact ⟨⟨k + 1, by omega, by go_num, hw.drew⟩, by simp [intOf]; omega⟩
    · go_wp2
      go_ret
      exact ⟨rfl, hw⟩

set_option maxHeartbeats 400000 in
theorem eqInstr_yes (a b c d f : Int) (w : World) :
    Calls Tryd.prog 84 #[.agg #[.int .i64 a, .int .i64 b, .int .i64 c, .int .i64 d, .int .i64 f], .agg #[.int .i64 a, .int .i64 b, .int .i64 c, .int .i64 d, .int .i64 f]] w fun e w' => e = .returned (.bool true) ∧ Below w.heap.size w w' := by
  go_enter Tryd.func84, Tryd.ntmps84
  go_wp2
  go_ret
  exact ⟨rfl, balloc (balloc (Below.refl _ _) _) _⟩

set_option maxHeartbeats 400000 in
theorem eqTerm_yes (a b c d : Int) (w : World) :
    Calls Tryd.prog 144 #[.agg #[.int .i64 a, .int .i64 b, .int .i64 c, .int .i64 d], .agg #[.int .i64 a, .int .i64 b, .int .i64 c, .int .i64 d]] w fun e w' => e = .returned (.bool true) ∧ Below w.heap.size w w' := by
  go_enter Tryd.func144, Tryd.ntmps144
  go_wp2
  go_ret
  exact ⟨rfl, balloc (balloc (Below.refl _ _) _) _⟩

set_option maxHeartbeats 400000 in
theorem eqPhi_yes (d : Int) (a a' : Option Addr) (n c c' : Nat) (xs : List Int) (L B L' B' : Nat) (w : World) (ha : Hid (IntsAt w L B a xs)) (hb : Hid (IntsAt w L' B' a' xs)) (hx : Hid (n = xs.length)) (hn : n ≤ 1048576) (hB : B ≤ w.heap.size) (hB' : B' ≤ w.heap.size) :
    Calls Tryd.prog 159 #[.agg #[.int .i64 d, .slice a n c], .agg #[.int .i64 d, .slice a' n c']] w fun e w' => e = .returned (.bool true) ∧ Below w.heap.size w w' := by
  go_enter Tryd.func159, Tryd.ntmps159
  go_wp2_with fail
  refine (eqInts_yes _ _ _ _ _ xs L B L' B' _ ?q1 ?q2 hx hn ?q3 ?q4).mono ?_
  case q1 => exact ha.out.keep (((Below.refl _ _).alloc (by omega) _).alloc (by simp; omega) _)
  case q2 => exact hb.out.keep (((Below.refl _ _).alloc (by omega) _).alloc (by simp; omega) _)
  case q3 => simp; omega
  case q4 => simp; omega
  rintro e w1 ⟨rfl, hb1⟩
  go_wp2
  go_ret
  exact ⟨rfl, bnext (balloc (balloc (Below.refl _ _) _) _) hb1⟩

set_option maxHeartbeats 1000000 in
theorem eqInstrs_yes (a a' : Option Addr) (n c c' : Nat) (xs : List Ins) (L B L' B' : Nat) (w : World) (ha : Hid (InssAt w L B a xs)) (hb : Hid (InssAt w L' B' a' xs)) (hx : Hid (n = xs.length)) (hn : n ≤ 1048576) (hB : B ≤ w.heap.size) (hB' : B' ≤ w.heap.size) :
    Calls Tryd.prog 33 #[.slice a n c, .slice a' n c'] w fun e w' => e = .returned (.bool true) ∧ Below w.heap.size w w' := by
  go_enter Tryd.func33, Tryd.ntmps33
  go_wp2
  go_loopw [5] (fun i wr => ∃ k : Nat, k ≤ n ∧ i = .int .i64 k ∧ Below w.heap.size w wr) (fun i _ => n - (intOf i).toNat)
  case atStart => exact ⟨0, Nat.zero_le _, rfl, Below.refl _ _⟩
  case round =>
    obtain ⟨k, hk, rfl, hw⟩ := hrel
    by_cases hlt : k < n
    · have hkx : k < xs.length := by have := hx.out; omega
      obtain ⟨b, o, rfl, ⟨_, hbB⟩, hc⟩ := ha.out k hkx
      obtain ⟨b', o', rfl, ⟨_, hbB'⟩, hc'⟩ := hb.out k hkx
      have hk0 : (0 : Int) ≤ (k : Int) := by omega
      have hk1 : (k : Int) < (n : Int) := by omega
      obtain ⟨e0, e1, e2, e3, e4⟩ := hc.keep hw (by omega)
      obtain ⟨f0, f1, f2, f3, f4⟩ := hc'.keep hw (by omega)
      clear hc hc'
      generalize xs[k] = X at *
      go_wp2
      go_region_with (go_at_call 84; refine (eqInstr_yes _ _ _ _ _ _).mono ?_; rintro e w1 ⟨rfl, hb1⟩)
      all_goals
        go_wp2
        exact ⟨⟨k + 1, by omega, by go_num, bnext hw.drew hb1⟩, by simp [intOf]; omega⟩
    · go_wp2
      go_ret
      exact ⟨rfl, hw⟩

def PhLen (xs : List Ph) : Prop := ∀ p ∈ xs, p.args.length ≤ 1048576

set_option maxHeartbeats 1000000 in
theorem eqPhis_yes (a a' : Option Addr) (n c c' : Nat) (xs : List Ph) (L B L' B' : Nat) (w : World) (ha : Hid (PhsAt w L B a xs)) (hb : Hid (PhsAt w L' B' a' xs)) (hx : Hid (n = xs.length)) (hs : Hid (PhLen xs)) (hn : n ≤ 1048576) (hB : B ≤ w.heap.size) (hB' : B' ≤ w.heap.size) :
    Calls Tryd.prog 143 #[.slice a n c, .slice a' n c'] w fun e w' => e = .returned (.bool true) ∧ Below w.heap.size w w' := by
  go_enter Tryd.func143, Tryd.ntmps143
  go_wp2
  go_loopw [5] (fun i wr => ∃ k : Nat, k ≤ n ∧ i = .int .i64 k ∧ Below w.heap.size w wr) (fun i _ => n - (intOf i).toNat)
  case atStart => exact ⟨0, Nat.zero_le _, rfl, Below.refl _ _⟩
  case round =>
    obtain ⟨k, hk, rfl, hw⟩ := hrel
    by_cases hlt : k < n
    · have hkx : k < xs.length := by have := hx.out; omega
      obtain ⟨b, o, rfl, ⟨_, hbB⟩, hc⟩ := ha.out k hkx
      obtain ⟨b', o', rfl, ⟨_, hbB'⟩, hc'⟩ := hb.out k hkx
      have hk0 : (0 : Int) ≤ (k : Int) := by omega
      have hk1 : (k : Int) < (n : Int) := by omega
      obtain ⟨aa, cc, e0, e1, hi⟩ := hc.keep (hw.mono hB) (by omega)
      obtain ⟨aa', cc', f0, f1, hi'⟩ := hc'.keep (hw.mono hB') (by omega)
      have HI := hide (hi.keep ((Below.refl B wr).drew))
      have HI' := hide (hi'.keep ((Below.refl B' wr).drew))
      have hq := hs.out _ (List.getElem_mem hkx)
      have hBr : B ≤ wr.heap.size := by have := hw.size; omega
      have hBr' : B' ≤ wr.heap.size := by have := hw.size; omega
      clear hc hc' hi hi'
      generalize xs[k] = X at *
      go_wp2
      go_region_with (go_at_call 159; refine (eqPhi_yes _ _ _ _ _ _ X.args L B L' B' _ HI HI' rfl hq hBr hBr').mono ?_; rintro e w1 ⟨rfl, hb1⟩)
      all_goals
        go_wp2
        exact ⟨⟨k + 1, by omega, by go_num, bnext hw.drew hb1⟩, by simp [intOf]; omega⟩
    · go_wp2
      go_ret
      exact ⟨rfl, hw⟩

set_option maxHeartbeats 1000000 in
theorem eqBlock_yes (p p' i i' : Option Addr) (n pc pc' m ic ic' : Nat) (t0 t1 t2 t3 : Int) (xs : List Ph) (ys : List Ins) (L B L' B' : Nat) (w : World) (ha : Hid (PhsAt w L B p xs)) (hb : Hid (PhsAt w L' B' p' xs)) (ga : Hid (InssAt w L B i ys)) (gb : Hid (InssAt w L' B' i' ys))
    (hx : Hid (n = xs.length)) (hy : Hid (m = ys.length)) (hs : Hid (PhLen xs)) (hn : n ≤ 1048576) (hm : m ≤ 1048576) (hB : B ≤ w.heap.size) (hB' : B' ≤ w.heap.size) :
    Calls Tryd.prog 103 #[.agg #[.slice p n pc, .slice i m ic, .int .i64 t0, .int .i64 t1, .int .i64 t2, .int .i64 t3], .agg #[.slice p' n pc', .slice i' m ic', .int .i64 t0, .int .i64 t1, .int .i64 t2, .int .i64 t3]] w fun e w' => e = .returned (.bool true) ∧ Below w.heap.size w w' := by
  go_enter Tryd.func103, Tryd.ntmps103
  go_wp2_with fail
  refine (eqPhis_yes _ _ _ _ _ xs L B L' B' _ ?q1 ?q2 hx hs hn ?q3 ?q4).mono ?_
  case q1 => exact ha.out.keep (((Below.refl _ _).alloc (by omega) _).alloc (by simp; omega) _)
  case q2 => exact hb.out.keep (((Below.refl _ _).alloc (by omega) _).alloc (by simp; omega) _)
  case q3 => simp; omega
  case q4 => simp; omega
  rintro e w1 ⟨rfl, hb1⟩
  have hz1 := hb1.size
  simp at hz1
  have hz2 : w.heap.size < w1.heap.size := by omega
  have hz3 : w.heap.size + 1 < w1.heap.size := by omega
  obtain ⟨hc1, hf1⟩ := bcell hb1
  have b1 := bnext (balloc (balloc (Below.refl _ _) _) _) hb1
  go_wp2_with fail
  refine (eqInstrs_yes _ _ _ _ _ ys L B L' B' _ ?q1 ?q2 hy hm ?q3 ?q4).mono ?_
  case q1 => exact ga.out.keep (b1.mono hB)
  case q2 => exact gb.out.keep (b1.mono hB')
  case q3 => omega
  case q4 => omega
  rintro e w2 ⟨rfl, hb2⟩
  obtain ⟨hc2, hf2⟩ := bcell hb2
  have b2 := bnext b1 hb2
  go_wp2_with fail
  refine (eqTerm_yes _ _ _ _ _).mono ?_
  rintro e w3 ⟨rfl, hb3⟩
  go_wp2
  go_ret
  exact ⟨rfl, bnext b2 hb3⟩

def BlkLen (xs : List Blk) : Prop := ∀ x ∈ xs, x.phis.length ≤ 1048576 ∧ x.instrs.length ≤ 1048576 ∧ PhLen x.phis

set_option maxHeartbeats 1000000 in
theorem eqBlocks_yes (a a' : Option Addr) (n c c' : Nat) (xs : List Blk) (L B L' B' : Nat) (w : World) (ha : Hid (BlksAt w L B a xs)) (hb : Hid (BlksAt w L' B' a' xs)) (hx : Hid (n = xs.length)) (hs : Hid (BlkLen xs)) (hn : n ≤ 1048576) (hB : B ≤ w.heap.size) (hB' : B' ≤ w.heap.size) :
    Calls Tryd.prog 61 #[.slice a n c, .slice a' n c'] w fun e w' => e = .returned (.bool true) ∧ Below w.heap.size w w' := by
  go_enter Tryd.func61, Tryd.ntmps61
  go_wp2
  go_loopw [5] (fun i wr => ∃ k : Nat, k ≤ n ∧ i = .int .i64 k ∧ Below w.heap.size w wr) (fun i _ => n - (intOf i).toNat)
  case atStart => exact ⟨0, Nat.zero_le _, rfl, Below.refl _ _⟩
  case round =>
    obtain ⟨k, hk, rfl, hw⟩ := hrel
    by_cases hlt : k < n
    · have hkx : k < xs.length := by have := hx.out; omega
      obtain ⟨b, o, rfl, ⟨_, hbB⟩, hc⟩ := ha.out k hkx
      obtain ⟨b', o', rfl, ⟨_, hbB'⟩, hc'⟩ := hb.out k hkx
      have hk0 : (0 : Int) ≤ (k : Int) := by omega
      have hk1 : (k : Int) < (n : Int) := by omega
      obtain ⟨pa, pc, ia, ic, e0, e1, ⟨e2, e3, e4, e5⟩, hp, hi⟩ := hc.keep (hw.mono hB) (by omega)
      obtain ⟨pa', pc', ia', ic', f0, f1, ⟨f2, f3, f4, f5⟩, hp', hi'⟩ := hc'.keep (hw.mono hB') (by omega)
      have HP := hide (hp.keep ((Below.refl B wr).drew))
      have HP' := hide (hp'.keep ((Below.refl B' wr).drew))
      have HI := hide (hi.keep ((Below.refl B wr).drew))
      have HI' := hide (hi'.keep ((Below.refl B' wr).drew))
      obtain ⟨hq1, hq2, hq3⟩ := hs.out _ (List.getElem_mem hkx)
      have HQ := hide hq3
      have hBr : B ≤ wr.heap.size := by have := hw.size; omega
      have hBr' : B' ≤ wr.heap.size := by have := hw.size; omega
      clear hc hc' hi hi' hp hp' hq3
      generalize xs[k] = X at *
      go_wp2
      go_region_with (go_at_call 103; refine (eqBlock_yes _ _ _ _ _ _ _ _ _ _ _ _ _ _ X.phis X.instrs L B L' B' _ HP HP' HI HI' rfl rfl HQ hq1 hq2 hBr hBr').mono ?_; rintro e w1 ⟨rfl, hb1⟩)
      all_goals
        go_wp2
        exact ⟨⟨k + 1, by omega, by go_num, bnext hw.drew hb1⟩, by simp [intOf]; omega⟩
    · go_wp2
      go_ret
      exact ⟨rfl, hw⟩

set_option maxHeartbeats 1000000 in
theorem eqFunc_yes (v : Int) (a a' : Option Addr) (n c c' : Nat) (xs : List Blk) (L B L' B' : Nat) (w : World) (ha : Hid (BlksAt w L B a xs)) (hb : Hid (BlksAt w L' B' a' xs)) (hx : Hid (n = xs.length)) (hs : Hid (BlkLen xs)) (hn : n ≤ 1048576) (hB : B ≤ w.heap.size) (hB' : B' ≤ w.heap.size) :
    Calls Tryd.prog 14 #[.agg #[.int .i64 v, .slice a n c], .agg #[.int .i64 v, .slice a' n c']] w fun e w' => e = .returned (.bool true) ∧ Below w.heap.size w w' := by
  go_enter Tryd.func14, Tryd.ntmps14
  go_wp2_with fail
  refine (eqBlocks_yes _ _ _ _ _ xs L B L' B' _ ?q1 ?q2 hx hs hn ?q3 ?q4).mono ?_
  case q1 => exact ha.out.keep (((Below.refl _ _).alloc (by omega) _).alloc (by simp; omega) _)
  case q2 => exact hb.out.keep (((Below.refl _ _).alloc (by omega) _).alloc (by simp; omega) _)
  case q3 => simp; omega
  case q4 => simp; omega
  rintro e w1 ⟨rfl, hb1⟩
  go_wp2
  go_ret
  exact ⟨rfl, bnext (balloc (balloc (Below.refl _ _) _) _) hb1⟩
end Go.Proofs.YtdcdgopblbmgoaaDoor
