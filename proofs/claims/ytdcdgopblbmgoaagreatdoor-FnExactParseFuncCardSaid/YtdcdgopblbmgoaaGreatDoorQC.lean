import Derived.Test.YtdcdgopblbmgoaaGreatDoorQA
import Derived.Lib.SlSplitV
import Derived.Lib.CountLaws
import Derived.Test.YtdcdgopblbmgoaaGreatDoorPG
/-
  bytes.Split with one byte: the pieces are those of cutS.
-/
namespace Go.Proofs.YtdcdgopblbmgoaaGreatDoor
open Go.RowKit

theorem index_one (s : UInt8) (l : List UInt8) : (Lib.index l [s] = -1 ∧ s ∉ l) ∨ ∃ i : Nat, Lib.index l [s] = i ∧ i < l.length ∧ l = l.take i ++ s :: l.drop (i + 1) ∧ s ∉ l.take i := by
  induction l with
  | nil => exact Or.inl ⟨rfl, by simp⟩
  | cons b l ih =>
    by_cases hb : b = s
    · subst hb
      exact Or.inr ⟨0, by simp [Lib.index], by simp, by simp, by simp⟩
    · have hp : (List.isPrefixOf [s] (b :: l)) = false := by
        show ((s == b) && List.isPrefixOf [] l) = false
        rw [show (s == b) = false from by rw [beq_eq_false_iff_ne]; exact fun q => hb q.symm]; rfl
      rcases ih with ⟨h1, h2⟩ | ⟨i, h1, h2, h3, h4⟩
      · exact Or.inl ⟨by rw [Lib.index, hp, h1]; rfl, by
          intro hm
          rcases List.mem_cons.1 hm with q | q
          · exact hb q.symm
          · exact h2 q⟩
      · refine Or.inr ⟨i + 1, ?_, by simp; omega, ?_, ?_⟩
        · rw [Lib.index, hp, h1]
          have : ((i : Int) == -1) = false := by rw [beq_eq_false_iff_ne]; omega
          simp [this]
        · simp only [List.take_succ_cons, List.drop_succ_cons, List.cons_append]
          rw [← h3]
        · rw [List.take_succ_cons]
          intro hm
          rcases List.mem_cons.1 hm with q | q
          · exact hb q.symm
          · exact h4 q
theorem cutF_miss (s : UInt8) : ∀ (l cur : List UInt8), s ∉ l → cutF s cur l = [cur ++ l]
  | [], cur, _ => by simp [cutF]
  | c :: r, cur, h => by
    rw [cutF, if_neg (fun e => h (by rw [e]; exact List.mem_cons_self ..)), cutF_miss s r _ (fun q => h (List.mem_cons_of_mem _ q))]
    simp
theorem cutF_hit (s : UInt8) : ∀ (pre cur post : List UInt8), s ∉ pre → cutF s cur (pre ++ s :: post) = (cur ++ pre) :: cutF s [] post
  | [], cur, post, _ => by simp [cutF]
  | c :: r, cur, post, h => by
    rw [List.cons_append, cutF, if_neg (fun e => h (by rw [e]; exact List.mem_cons_self ..)), cutF_hit s r _ _ (fun q => h (List.mem_cons_of_mem _ q))]
    simp
/-- One piece of a text in block b. -/
def PieceAt (w : World) (b : Nat) (v : Value) (f : List UInt8) : Prop := ∃ o c, v = .slice (some ⟨b, o, none⟩) f.length c ∧ (f.length ≤ c ∧ c ≤ 9223372036854775807) ∧ ∀ j (h : j < f.length), w.cell? ⟨b, o + j, none⟩ = some (.int .u8 (f[j].toNat : Int))
theorem split_pieces (w : World) (b : Nat) (s : UInt8) : ∀ (k o cap : Nat) (l : List UInt8), Lib.count l [s] = k → (l.length ≤ cap ∧ cap ≤ 9223372036854775807) → (∀ j (h : j < l.length), w.cell? ⟨b, o + j, none⟩ = some (.int .u8 (l[j].toNat : Int))) →
    (Lib.splitV [s] 0 k ⟨b, o, none⟩ cap l).length = (cutS l s).length ∧ ∀ i (h : i < (cutS l s).length) (h' : i < (Lib.splitV [s] 0 k ⟨b, o, none⟩ cap l).length), PieceAt w b (Lib.splitV [s] 0 k ⟨b, o, none⟩ cap l)[i] (cutS l s)[i] := by
  intro k
  induction k with
  | zero =>
    intro o cap l hk hc hl
    have hm : s ∉ l := by
      rcases index_one s l with ⟨_, h⟩ | ⟨i, h1, _⟩
      · exact h
      · rw [Lib.count_hit (by simp) h1] at hk; omega
    have e : cutS l s = [l] := by unfold cutS; rw [cutF_miss s l [] hm]; rfl
    rw [e]
    refine ⟨rfl, fun i h h' => ?_⟩
    have : i = 0 := by simpa using h
    subst this
    exact ⟨o, cap, rfl, hc, hl⟩
  | succ k ih =>
    intro o cap l hk hc hl
    rcases index_one s l with ⟨h1, _⟩ | ⟨p, h1, h2, h3, h4⟩
    · rw [Lib.count_miss h1] at hk; omega
    · have hk2 : Lib.count (l.drop (p + 1)) [s] = k := by
        have := Lib.count_hit (s := l) (sub := [s]) (by simp) h1
        simp only [List.length_singleton] at this
        omega
      have e : cutS l s = l.take p :: cutS (l.drop (p + 1)) s := by
        unfold cutS
        conv => lhs; rw [h3, cutF_hit s _ _ _ h4]
        rfl
      have ev : Lib.splitV [s] 0 (k + 1) ⟨b, o, none⟩ cap l = .slice (some ⟨b, o, none⟩) p p :: Lib.splitV [s] 0 k (Lib.tailAddr ⟨b, o, none⟩ cap (p + 1)) (cap - (p + 1)) (l.drop (p + 1)) := by
        rw [Lib.splitV, h1, if_neg (by simp)]
        simp
      have hpl : (l.take p).length = p := by rw [List.length_take]; omega
      obtain ⟨o2, ho2, hl2⟩ : ∃ o2, Lib.tailAddr ⟨b, o, none⟩ cap (p + 1) = ⟨b, o2, none⟩ ∧ ∀ j (h : j < (l.drop (p + 1)).length), w.cell? ⟨b, o2 + j, none⟩ = some (.int .u8 ((l.drop (p + 1))[j].toNat : Int)) := by
        by_cases hcp : cap = p + 1
        · refine ⟨o, by unfold Lib.tailAddr; rw [if_pos hcp], fun j h => ?_⟩
          rw [List.length_drop] at h; omega
        · refine ⟨o + (p + 1), by unfold Lib.tailAddr; rw [if_neg hcp, Addr.add_lit], fun j h => ?_⟩
          rw [List.length_drop] at h
          rw [Nat.add_assoc, hl (p + 1 + j) (by omega), List.getElem_drop]
      rw [ho2] at ev
      obtain ⟨q1, q2⟩ := ih o2 (cap - (p + 1)) (l.drop (p + 1)) hk2 ⟨by rw [List.length_drop]; omega, by omega⟩ hl2
      rw [ev, e]
      refine ⟨by rw [List.length_cons, List.length_cons, q1], fun i h h' => ?_⟩
      cases i with
      | zero =>
        refine ⟨o, p, by simp [hpl], ⟨by simp [hpl], by omega⟩, fun j hj => ?_⟩
        rw [List.getElem_cons_zero] at hj
        rw [hl j (by omega)]
        simp
      | succ i =>
        simp only [List.getElem_cons_succ]
        exact q2 i (by simpa using h) (by simpa using h')
end Go.Proofs.YtdcdgopblbmgoaaGreatDoor

/-
  outsideField, slices.IndexFunc and slices.ContainsFunc of the program.
-/
namespace Go.Proofs.YtdcdgopblbmgoaaGreatDoor
open Go.RowKit

set_option maxHeartbeats 400000 in
theorem outside_any (c : Int) (w : World) :
    Calls Tryz.prog 74 #[.int .u8 c] w fun e w' => e = .returned (.bool (decide (c < 33) || decide (126 < c))) ∧ w' = w := by
  by_cases h1 : c < 33
  · go_enter Tryz.func74, Tryz.ntmps74
    go_wp2
    go_ret
    exact ⟨ret_bool (by simp [h1]), rfl⟩
  · by_cases h2 : 126 < c
    · go_enter Tryz.func74, Tryz.ntmps74
      go_wp2
      go_ret
      exact ⟨ret_bool (by simp), rfl⟩
    · go_enter Tryz.func74, Tryz.ntmps74
      go_wp2
      go_ret
      exact ⟨ret_bool (by simp [h1, h2]), rfl⟩

set_option maxHeartbeats 1000000 in
theorem indexFunc_any (b o n c : Nat) (f : List UInt8) (w : World) (hx : Hid (n = f.length)) (hn : n ≤ 1000000) (ha : Hid (∀ j (h : j < f.length), w.cell? ⟨b, o + j, none⟩ = some (.int .u8 (f[j].toNat : Int)))) (hb : b < w.heap.size) :
    Calls Tryz.prog 93 #[.slice (some ⟨b, o, none⟩) n c, .func (.func 74) #[] #[]] w fun e w' => (∃ r : Int, e = .returned (.int .i64 r) ∧ (decide (0 ≤ r) = !(f.all chOk))) ∧ Below w.heap.size w w' := by
  go_enter Tryz.func93, Tryz.ntmps93
  go_wp2
  go_loopw [8] (fun i wr => ∃ k : Nat, k ≤ n ∧ i = .int .i64 k ∧ Hid (Below w.heap.size w wr) ∧ Hid ((f.take k).all chOk = true)) (fun i _ => n - (intOf i).toNat)
  case atStart => exact ⟨0, Nat.zero_le _, rfl, hide (Below.refl _ _), hide rfl⟩
  case round =>
    obtain ⟨k, hk, rfl, HB, HA⟩ := hrel
    by_cases hlt : k < n
    · have hkx : k < f.length := by have := hx.out; omega
      have ck : wr.cell? ⟨b, o + k, none⟩ = some (.int .u8 (f[k].toNat : Int)) := (HB.out.cell (p := ⟨b, o + k, none⟩) hb).trans (ha.out k hkx)
      have HT : Hid ((f.take (k + 1)).all chOk = ((f.take k).all chOk && chOk f[k])) := hide (by rw [List.take_succ_eq_append_getElem hkx, List.all_append]; simp)
      have HC : Hid ((decide ((f[k].toNat : Int) < 33) || decide (126 < (f[k].toNat : Int))) = !chOk f[k]) := hide (by
        unfold chOk
        by_cases q1 : 33 ≤ f[k].toNat <;> by_cases q2 : f[k].toNat ≤ 126 <;> simp [q1, q2] <;> omega)
      have HF : Hid (chOk f[k] = false → f.all chOk = false) := hide (fun h => by
        rw [List.all_eq_false]
        exact ⟨f[k], List.getElem_mem hkx, by rw [h]; simp⟩)
      have HOU := hide (outside_any (f[k].toNat : Int) wr)
      generalize (f[k].toNat : Int) = Z at *
      cases hq : chOk f[k] with
      | false =>
        have HV := hide (HF.out hq)
        have HR : Hid ((decide (Z < 33) || decide (126 < Z)) = true) := hide (by rw [HC.out, hq]; rfl)
        clear hq
        go_wp2_with (go_at_call 74; refine HOU.out.mono ?_; rintro e w1 ⟨rfl, hw1⟩; rw [hw1, HR.out]; clear hw1 w1)
        go_ret
        exact ⟨⟨_, rfl, by rw [HV.out]; simp⟩, HB.out⟩
      | true =>
        have HA2 : Hid ((f.take (k + 1)).all chOk = true) := hide (by rw [HT.out, HA.out, hq]; rfl)
        have HR : Hid ((decide (Z < 33) || decide (126 < Z)) = false) := hide (by rw [HC.out, hq]; rfl)
        clear hq
        go_wp2_with (go_at_call 74; refine HOU.out.mono ?_; rintro e w1 ⟨rfl, hw1⟩; rw [hw1, HR.out]; clear hw1 w1)
        exact ⟨⟨k + 1, by omega, by go_num, HB, HA2⟩, by simp [intOf]; omega⟩
    · have HV : Hid (f.all chOk = true) := hide (by have := HA.out; rwa [List.take_of_length_le (by have := hx.out; omega)] at this)
      go_wp2
      go_ret
      exact ⟨⟨_, rfl, by rw [HV.out]; rfl⟩, HB.out⟩

set_option maxHeartbeats 1000000 in
theorem containsOutside_any (b o n c : Nat) (f : List UInt8) (w : World) (hx : Hid (n = f.length)) (hn : n ≤ 1000000) (ha : Hid (∀ j (h : j < f.length), w.cell? ⟨b, o + j, none⟩ = some (.int .u8 (f[j].toNat : Int)))) (hb : b < w.heap.size) :
    Calls Tryz.prog 73 #[.slice (some ⟨b, o, none⟩) n c, .func (.func 74) #[] #[]] w fun e w' => e = .returned (.bool (!(f.all chOk))) ∧ Below w.heap.size w w' := by
  have HI := hide (indexFunc_any b o n c f w hx hn ha hb)
  go_enter Tryz.func73, Tryz.ntmps73
  go_wp2_with (go_at_call 93; refine HI.out.mono ?_; rintro e w1 ⟨⟨r, rfl, hr⟩, hb1⟩; have HR := hide hr; have HB1 := hide hb1; clear hr hb1)
  go_ret
  exact ⟨ret_bool HR.out, HB1.out⟩
end Go.Proofs.YtdcdgopblbmgoaaGreatDoor
