import Derived.Test.YtlmaodcddbkllaaDoorDF1
import Derived.Test.YtlmaodcddbkllaaDoorMem
/-
  newSets of the program: a row of sets; newSearch.
-/
namespace Go.Proofs.YtlmaodcddbkllaaDoor
open Go.RowKit

/-- A row of sets, each in a block of its own. -/
structure SetsAt (w : World) (G n K : Nat) (gs : Nat → Nat) (Ws : Nat → Nat → Nat) : Prop where
  row : w.rowIs G 111 n (fun i => .slice (some ⟨gs i, 0, none⟩) K K)
  set : ∀ i, i < n → w.rowIs (gs i) 178 K (fun j => .int .u64 (Ws i j))
  inj : ∀ i j, i < n → j < n → gs i = gs j → i = j
  out : ∀ i, i < n → gs i ≠ G
theorem Tryd.infoSet : (Tryd.prog.info? 111).map (fun i => (i.zero, i.size, i.bytes)) = some (some (.agg #[.slice none 0 0]), 1, 24) := by kernel_rfl
theorem run_makeS {P : Program} (t e : TypeId) (z : Value) (size bytes : Nat) (ht : P.underlying t = some (.slice e)) (hinfo : (P.info? e).map (fun i => (i.zero, i.size, i.bytes)) = some (some z, size, bytes))
    (n : Nat) (hbytes : bytes * n ≤ 281474976710656) (h63 : n ≤ 9223372036854775807) (w : World) :
    (Instr.makeSlice t (.int .i64 (n : Int)) (.int .i64 (n : Int))).run P w = .ok (.slice (some ⟨w.heap.size, 0, none⟩) n n) (w.alloc (.cells (madeCells z.cells (n * size)) e)) := by
  obtain ⟨i, hi, hq⟩ := Option.map_eq_some_iff.1 hinfo
  simp only [Prod.mk.injEq] at hq
  obtain ⟨hz, hsz, hbt⟩ := hq
  have h := run_make (P := P) w t e i z ht hi hz .i64 .i64 (n : Int) (n : Int) (by omega) (Int.le_refl _) (by rw [hbt, ← Int.natCast_mul]; omega) (by omega)
  simp only [Int.toNat_natCast, hsz] at h
  exact h
/-- The first q sets of the row are made. -/
structure SetsTo (w wr : World) (G n K q : Nat) (gs : Nat → Nat) : Prop where
  low : Below w.heap.size w wr
  base : w.heap.size ≤ G
  row : wr.rowIs G 111 n (fun i => if i < q then .slice (some ⟨gs i, 0, none⟩) K K else .slice none 0 0)
  set : ∀ i, i < q → wr.rowIs (gs i) 178 K (fun _ => .int .u64 ((0 : Nat) : Int))
  inj : ∀ i j, i < q → j < q → gs i = gs j → i = j
  up : ∀ i, i < q → G < gs i
theorem SetsTo.next {w wr w1 : World} {G n K q g : Nat} {gs : Nat → Nat} (h : SetsTo w wr G n K q gs) (hq : q < n) (hb : Below wr.heap.size wr w1) (hg : wr.heap.size ≤ g) (hr : w1.rowIs g 178 K (fun _ => .int .u64 ((0 : Nat) : Int))) :
    SetsTo w (w1.setCell ⟨G, q, none⟩ (.slice (some ⟨g, 0, none⟩) K K)) G n K (q + 1) (fun i => if i = q then g else gs i) ∧ w1.cell? ⟨G, q, none⟩ = some (.slice none 0 0) ∧ w1.frozen? ⟨G, q, none⟩ = false := by
  have hGl : G < wr.heap.size := h.row.lt
  have hrow : w1.rowIs G 111 n (fun i => if i < q then .slice (some ⟨gs i, 0, none⟩) K K else .slice none 0 0) := h.row.of_block (hb.block G hGl)
  have hgl : ∀ i, i < q → gs i < wr.heap.size := fun i hi => (h.set i hi).lt
  refine ⟨⟨(h.low.trans (hb.mono h.low.size)).setCell h.base _, h.base, (hrow.set q _).congr (fun i _ => ?_), fun i hi => ?_, fun i j hi hj e => ?_, fun i hi => ?_⟩, (hrow.cell hq).trans (by simp), hrow.frozen q⟩
  · by_cases e : i = q
    · subst e; simp
    · rw [if_neg e]
      by_cases e2 : i < q
      · rw [if_pos e2, if_pos (by omega)]; simp [e]
      · rw [if_neg e2, if_neg (by omega)]
  · by_cases e : i = q
    · rw [if_pos e]; exact hr.setOther (by show g ≠ G; omega) _
    · rw [if_neg e]
      have := h.up i (by omega)
      exact ((h.set i (by omega)).of_block (hb.block _ (hgl i (by omega)))).setOther (by show gs i ≠ G; omega) _
  · by_cases e1 : i = q
    · by_cases e2 : j = q
      · rw [e1, e2]
      · rw [if_pos e1, if_neg e2] at e
        have := hgl j (by omega); omega
    · by_cases e2 : j = q
      · rw [if_neg e1, if_pos e2] at e
        have := hgl i (by omega); omega
      · rw [if_neg e1, if_neg e2] at e
        exact h.inj i j (by omega) (by omega) e
  · by_cases e : i = q
    · show G < if i = q then g else gs i
      rw [if_pos e]; omega
    · show G < if i = q then g else gs i
      rw [if_neg e]; exact h.up i (by omega)
set_option maxHeartbeats 1000000 in
set_option maxRecDepth 100000 in
theorem newSets_blockNo (n room : Nat) (w : World) (hn : n ≤ 1000) (hr : room ≤ 60000) :
    Calls Tryd.prog 172 #[.int .i64 n, .int .i64 room] w fun e w' => ∃ G gs, e = .returned (.slice (some ⟨G, 0, none⟩) n n) ∧ w.heap.size ≤ G ∧ Below w.heap.size w w' ∧ SetsAt w' G n ((room + 63) / 64) gs (fun _ _ => 0) ∧ (∀ i, i < n → w.heap.size ≤ gs i) := by
  have hmk := run_makeS (P := Tryd.prog) 172 111 (.agg #[.slice none 0 0]) 1 24 Tryd.underlying172 Tryd.infoSet n (by omega) (by omega)
  have HNS := hide (fun W => newSet_blockNo room W hr)
  generalize (room + 63) / 64 = K at *
  go_enter Tryd.func172, Tryd.ntmps172
  go_wp2_with fail
  go_loopw [11] (fun u wr => ∃ q : Nat, q ≤ n ∧ u = .int .i64 q ∧ ∃ gs, Hid (SetsTo w wr w.heap.size n K q gs)) (fun u _ => n - (intOf u).toNat)
  case atStart => exact ⟨0, Nat.zero_le _, rfl, fun _ => 0, hide ⟨balloc (Below.refl _ _) _, Nat.le_refl _, by
    have h := World.rowIs_made w (.slice none 0 0) n 111
    simpa [Value.cells] using h, fun i hi => absurd hi (by omega), fun i j hi => absurd hi (by omega), fun i hi => absurd hi (by omega)⟩⟩
  case round =>
    obtain ⟨q, hq, rfl, gs, HS⟩ := hrel
    by_cases hlt : q < n
    · go_wp2_with fail
      refine (HNS.out wr).mono ?_
      rintro e w1 ⟨g, rfl, hg, hb1, hr1⟩
      have hS1 := HS.out.next hlt hb1 hg hr1
      obtain ⟨hS2, hc1, hz1⟩ := hS1
      have HS2 := hide hS2
      clear hS2 hb1 hr1
      go_wp2_with fail
      exact ⟨⟨q + 1, by omega, by go_num, _, HS2⟩, by simp [intOf]; omega⟩
    · have hqn : q = n := by omega
      subst hqn
      go_wp2_with fail
      go_ret
      refine ⟨_, gs, rfl, Nat.le_refl _, HS.out.low, ⟨HS.out.row.congr (fun i hi => by rw [if_pos hi]), HS.out.set, HS.out.inj, fun i hi e => by have := HS.out.up i hi; omega⟩, fun i hi => by have := HS.out.up i hi; omega⟩
end Go.Proofs.YtlmaodcddbkllaaDoor

/-
  Texts as strings. Imports nothing of the program.
-/
namespace Go.Proofs.YtlmaodcddbkllaaDoor
open Go.RowKit

/-- A text as a string. -/
def strOf (l : List UInt8) : ByteArray := ⟨l.toArray⟩
theorem strOf_size (l : List UInt8) : (strOf l).size = l.length := by simp [strOf, ByteArray.size]
theorem strOf_append (a b : List UInt8) : strOf a ++ strOf b = strOf (a ++ b) := by
  apply ByteArray.ext; simp [strOf, ByteArray.data_append]
end Go.Proofs.YtlmaodcddbkllaaDoor
