import Derived.Test.YtlmaodcddbkllaaDoorIw
import Derived.Test.YtlmaodcddbkllaaDoorProg
import Derived.WalkKit
import Derived.WalkSpells
import Derived.WalkLawsBesides
import Derived.Deep.RegionHeld3
/-
  The draws: the source of numbers, pure and in memory; l2Next.
-/
namespace Go.Proofs.YtlmaodcddbkllaaDoor
open Go.RowKit

structure Sr where
  code : List UInt8
  pos : Nat
  mix : Int
  size : Int
def nextP (s : Sr) (n : Int) : Int × Sr :=
  if n ≤ 1 then (0, s)
  else if s.pos < s.code.length ∧ n ≤ 256 then (((s.code.getD s.pos 0).toNat : Int) % n, { s with pos := s.pos + 1 })
  else ((s.mix * 1103 + 12347) % 1000003 / 3 % n, { s with mix := (s.mix * 1103 + 12347) % 1000003 })
structure SrOk (s : Sr) : Prop where
  len : s.code.length ≤ 4000
  pos : s.pos ≤ s.code.length
  mix : 0 ≤ s.mix ∧ s.mix < 1000003
  size : 1 ≤ s.size ∧ s.size ≤ 7
theorem next_ok {s : Sr} (h : SrOk s) (n : Int) : SrOk (nextP s n).2 := by
  unfold nextP
  split
  · exact h
  · split
    · rename_i h1
      exact ⟨h.len, h1.1, h.mix, h.size⟩
    · refine ⟨h.len, h.pos, ?_, h.size⟩
      show 0 ≤ (s.mix * 1103 + 12347) % 1000003 ∧ (s.mix * 1103 + 12347) % 1000003 < 1000003
      omega
theorem next_code (s : Sr) (n : Int) : (nextP s n).2.code = s.code := by
  unfold nextP
  split
  · rfl
  · split <;> rfl
theorem next_size (s : Sr) (n : Int) : (nextP s n).2.size = s.size := by
  unfold nextP
  split
  · rfl
  · split <;> rfl
theorem next_lt (s : Sr) {n : Int} (h : 1 ≤ n) : 0 ≤ (nextP s n).1 ∧ (nextP s n).1 < n := by
  unfold nextP
  split
  · exact ⟨Int.le_refl _, by show (0 : Int) < n; omega⟩
  · split
    · exact ⟨Int.emod_nonneg _ (by omega), Int.emod_lt_of_pos _ (by omega)⟩
    · exact ⟨Int.emod_nonneg _ (by omega), Int.emod_lt_of_pos _ (by omega)⟩
theorem next_zero (s : Sr) {n : Int} (h : n ≤ 1) : nextP s n = (0, s) := by unfold nextP; rw [if_pos h]
/-- The source in memory. -/
structure SrAt (w : World) (b L B : Nat) (s : Sr) : Prop where
  c0 : ∃ a c, w.cell? ⟨b, 0, none⟩ = some (.slice a s.code.length c) ∧ BytesAt w L B a s.code
  c1 : w.cell? ⟨b, 1, none⟩ = some (.int .i64 s.pos)
  c2 : w.cell? ⟨b, 2, none⟩ = some (.int .i64 s.mix)
  c3 : w.cell? ⟨b, 3, none⟩ = some (.int .i64 s.size)
  thaw : ∀ q, w.frozen? ⟨b, q, none⟩ = false
  out : ¬ (L ≤ b ∧ b < B)
theorem bytes_set {w : World} {b q L B : Nat} {a : Option Addr} {bs : List UInt8} (v : Value) (hb : BytesAt w L B a bs) (ho : ¬ (L ≤ b ∧ b < B)) : BytesAt (w.setCell ⟨b, q, none⟩ v) L B a bs := hb.keepS (fun k h1 h2 => Below.heap_setCell _ _ _ _ (by show k ≠ b; intro e; exact ho (by omega)))
theorem set_other (w : World) (b : Nat) {o o' : Nat} (h : o ≠ o') (v : Value) : (w.setCell ⟨b, o, none⟩ v).cell? ⟨b, o', none⟩ = w.cell? ⟨b, o', none⟩ := World.cell?_setCell_other _ _ _ _ (by intro e; injection e with _ e2; exact h e2)
theorem SrAt.mix {w : World} {b L B : Nat} {s : Sr} (h : SrAt w b L B s) (m : Int) : SrAt (w.setCell ⟨b, 2, none⟩ (.int .i64 m)).drew b L B { s with mix := m } := by
  obtain ⟨a, c, e0, hb⟩ := h.c0
  exact ⟨⟨a, c, (set_other w b (by omega) _).trans e0, bytes_set _ hb h.out⟩, (set_other w b (by omega) _).trans h.c1, World.cell?_setCell_same w _ _ h.c2, (set_other w b (by omega) _).trans h.c3, fun q => by show (w.setCell _ _).frozen? _ = false; rw [World.frozen?_setCell]; exact h.thaw q, h.out⟩
theorem SrAt.pos {w : World} {b L B : Nat} {s : Sr} (h : SrAt w b L B s) (m : Nat) : SrAt (w.setCell ⟨b, 1, none⟩ (.int .i64 m)).drew b L B { s with pos := m } := by
  obtain ⟨a, c, e0, hb⟩ := h.c0
  exact ⟨⟨a, c, (set_other w b (by omega) _).trans e0, bytes_set _ hb h.out⟩, World.cell?_setCell_same w _ _ h.c1, (set_other w b (by omega) _).trans h.c2, (set_other w b (by omega) _).trans h.c3, fun q => by show (w.setCell _ _).frozen? _ = false; rw [World.frozen?_setCell]; exact h.thaw q, h.out⟩
theorem SrAt.drew {w : World} {b L B : Nat} {s : Sr} (h : SrAt w b L B s) : SrAt w.drew b L B s := ⟨h.c0, h.c1, h.c2, h.c3, h.thaw, h.out⟩
theorem grown_set (w : World) (b q : Nat) (v : Value) : w.grownBy (w.setCell ⟨b, q, none⟩ v).drew (some b) := ⟨rfl, rfl, rfl, by simp [World.setCell, World.drew], fun k _ hk => Below.heap_setCell _ _ _ _ (fun e => hk (by rw [e]))⟩
set_option maxHeartbeats 1000000 in
set_option maxRecDepth 100000 in
theorem next_any (b L B : Nat) (s : Sr) (n : Int) (w : World) (hs : Hid (SrAt w b L B s)) (hk : Hid (SrOk s)) (hn : n ≤ 1000000) (hn0 : -1000000 ≤ n) :
    Calls Tryd.prog 71 #[.pointer (some ⟨b, 0, none⟩), .int .i64 n] w fun e w' => e = .returned (.int .i64 (nextP s n).1) ∧ SrAt w' b L B (nextP s n).2 ∧ w.grownBy w' (some b) := by
  obtain ⟨a, c, e0, hb⟩ := hs.out.c0
  have e1 := hs.out.c1
  have e2 := hs.out.c2
  have z1 := hs.out.thaw 1
  have z2 := hs.out.thaw 2
  have HB := hide hb
  clear hb
  have hp := hk.out.pos
  have hl := hk.out.len
  have hm := hk.out.mix
  have HN : Hid (nextP s n = if n ≤ 1 then (0, s) else if s.pos < s.code.length ∧ n ≤ 256 then (((s.code.getD s.pos 0).toNat : Int) % n, { s with pos := s.pos + 1 }) else ((s.mix * 1103 + 12347) % 1000003 / 3 % n, { s with mix := (s.mix * 1103 + 12347) % 1000003 })) := hide rfl
  by_cases h1 : n ≤ 1
  · have HR : Hid (nextP s n = (0, s)) := hide (by rw [HN.out, if_pos h1])
    clear HN
    go_enter Tryd.func71, Tryd.ntmps71
    go_wp2
    go_ret
    rw [HR.out]
    exact ⟨rfl, hs.out, ⟨rfl, rfl, rfl, Nat.le_refl _, fun _ _ _ => rfl⟩⟩
  · by_cases h2 : s.pos < s.code.length ∧ n ≤ 256
    · have HR : Hid (nextP s n = (((s.code.getD s.pos 0).toNat : Int) % n, { s with pos := s.pos + 1 })) := hide (by rw [HN.out, if_neg h1, if_pos h2])
      obtain ⟨h3, h4⟩ := h2
      obtain ⟨b', o', rfl, hbb, hc⟩ := HB.out s.pos h3
      have HG : Hid (s.code.getD s.pos 0 = s.code[s.pos]) := hide (by simp [h3])
      have hby : s.code[s.pos].toNat < 256 := UInt8.toNat_lt _
      have HC0 := hide hs.out
      generalize s.code[s.pos] = by0 at *
      generalize hbn : by0.toNat = bn at *
      have hrem : ((bn : Nat) : Int).tmod n = (bn : Int) % n := Int.tmod_eq_emod_of_nonneg (by omega)
      clear HN hbb
      have hlt : (s.pos : Int) < (s.code.length : Int) := by omega
      generalize hcl : s.code.length = cl at *
      go_enter Tryd.func71, Tryd.ntmps71
      go_wp2
      go_region
      go_wp2
      go_region
      go_wp2
      go_ret
      rw [HR.out]
      have hsp := (hs.out.pos (s.pos + 1)).drew
      have hgs := (grown_set w b 1 (.int .i64 ((s.pos + 1 : Nat) : Int)))
      rw [Int.natCast_add] at hsp hgs
      refine ⟨?_, hsp, ⟨hgs.os, hgs.tape, hgs.output, hgs.size, hgs.block⟩⟩
      rw [HG.out, hbn]
      rfl
    · have HR : Hid (nextP s n = ((s.mix * 1103 + 12347) % 1000003 / 3 % n, { s with mix := (s.mix * 1103 + 12347) % 1000003 })) := hide (by rw [HN.out, if_neg h1, if_neg h2])
      have hrem : (s.mix * 1103 + 12347).tmod 1000003 = (s.mix * 1103 + 12347) % 1000003 := Int.tmod_eq_emod_of_nonneg (by omega)
      have hq : ((s.mix * 1103 + 12347) % 1000003).tdiv 3 = (s.mix * 1103 + 12347) % 1000003 / 3 := Int.tdiv_eq_ediv_of_nonneg (by omega)
      have hr2 : ((s.mix * 1103 + 12347) % 1000003 / 3).tmod n = (s.mix * 1103 + 12347) % 1000003 / 3 % n := Int.tmod_eq_emod_of_nonneg (by omega)
      clear HN
      by_cases h3 : s.pos < s.code.length
      · have h4 : ¬ n ≤ 256 := fun h4 => h2 ⟨h3, h4⟩
        clear h2
        have hlt : (s.pos : Int) < (s.code.length : Int) := by omega
        generalize hcl : s.code.length = cl at *
        go_enter Tryd.func71, Tryd.ntmps71
        go_wp2
        go_region
        go_wp2
        go_ret
        rw [HR.out]
        exact ⟨rfl, hs.out.mix _, grown_set _ _ _ _⟩
      · clear h2
        have hlt : ¬ (s.pos : Int) < (s.code.length : Int) := by omega
        generalize hcl : s.code.length = cl at *
        go_enter Tryd.func71, Tryd.ntmps71
        go_wp2
        go_region
        go_wp2
        go_ret
        rw [HR.out]
        exact ⟨rfl, hs.out.mix _, grown_set _ _ _ _⟩
end Go.Proofs.YtlmaodcddbkllaaDoor
