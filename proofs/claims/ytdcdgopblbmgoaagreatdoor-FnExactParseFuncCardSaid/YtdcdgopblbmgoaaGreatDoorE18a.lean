import Derived.Test.YtdcdgopblbmgoaaGreatDoorPF
import Derived.Test.YtdcdgopblbmgoaaGreatDoorW2
import Derived.Test.YtdcdgopblbmgoaaGreatDoorMS4
import Derived.Test.YtdcdgopblbmgoaaGreatDoorQZ3
import Derived.Test.YtdcdgopblbmgoaaGreatDoorPS1
/-
  The law's own words on rows of bytes: equal, marked, held.
-/
namespace Go.Proofs.YtdcdgopblbmgoaaGreatDoor
open Go.RowKit

set_option maxHeartbeats 400000 in
theorem eqBytes_yes (a a' : Option Addr) (n c c' : Nat) (xs : List UInt8) (L B L' B' : Nat) (w : World) (ha : Hid (BytesAt w L B a xs)) (hb : Hid (BytesAt w L' B' a' xs)) (hx : Hid (n = xs.length)) (hn : n ≤ 1000000000) (hB : B ≤ w.heap.size) (hB' : B' ≤ w.heap.size) :
    Calls Tryz.prog 8 #[.slice a n c, .slice a' n c'] w fun e w' => e = .returned (.bool true) ∧ Below w.heap.size w w' := by
  go_enter Tryz.func8, Tryz.ntmps8
  go_wp2
  go_loopw [5] (fun i wr => ∃ k : Nat, k ≤ n ∧ i = .int .i64 k ∧ Below w.heap.size w wr) (fun i _ => n - (intOf i).toNat)
  case atStart => exact ⟨0, Nat.zero_le _, rfl, Below.refl _ _⟩
  case round =>
    obtain ⟨k, hk, rfl, hw⟩ := hrel
    by_cases hlt : k < n
    · have hkx : k < xs.length := by have := hx.out; omega
      obtain ⟨b, o, rfl, ⟨_, hbB⟩, hc⟩ := ha.out k hkx
      obtain ⟨b', o', rfl, ⟨_, hbB'⟩, hc'⟩ := hb.out k hkx
      have hk0 : (0 : Int) ≤ (k : Int) := by omega
      have hk1 : (k : Int) < (n : Int) := by omega
      have e1 := (hw.cell (p := ⟨b, o + k, none⟩) (by show b < _; omega)).trans hc
      have e2 := (hw.cell (p := ⟨b', o' + k, none⟩) (by show b' < _; omega)).trans hc'
      clear hc hc'
      generalize (xs[k].toNat : Int) = Z at *
      go_wp2
      go_region
      go_wp2
      exact ⟨⟨k + 1, by omega, by go_num, hw.drew⟩, by simp [intOf]; omega⟩
    · go_wp2
      go_ret
      exact ⟨rfl, hw⟩

/-- What a marking from k on lays. -/
def ByteMarks (w : World) (L B : Nat) (a : Option Addr) (k : Int) (n : Nat) : Prop := ∀ q, q < n → ∃ b o, a = some ⟨b, o, none⟩ ∧ (L ≤ b ∧ b < B) ∧ w.cell? ⟨b, o + q, none⟩ = some (.int .u8 ((k + (q : Nat)) % 256))

set_option maxHeartbeats 1000000 in
theorem markBytes_any (a : Option Addr) (n c : Nat) (k : Int) (xs : List UInt8) (L B : Nat) (w : World) (ha : Hid (BytesAt w L B a xs)) (hx : Hid (n = xs.length)) (ht : Hid (ThawB L B w)) (hn : n ≤ 1000000000) (h0 : 0 ≤ k) (h1 : k ≤ 1000000000) :
    Calls Tryz.prog 9 #[.slice a n c, .int .i64 k] w fun e w' => e = .returned (.int .i64 (k + n)) ∧ Mod L B w w' ∧ ByteMarks w' L B a k n := by
  go_enter Tryz.func9, Tryz.ntmps9
  go_wp2
  go_loopw [1, 5] (fun u i wr => ∃ j : Nat, j ≤ n ∧ i = .int .i64 j ∧ u = .int .i64 (k + j) ∧ Hid (Mod L B w wr) ∧ Hid (ThawB L B wr) ∧ Hid (∀ q, q < n → ∃ b o v, a = some ⟨b, o, none⟩ ∧ (L ≤ b ∧ b < B) ∧ wr.cell? ⟨b, o + q, none⟩ = some (.int .u8 v)) ∧ Hid (ByteMarks wr L B a k j)) (fun _ i _ => n - (intOf i).toNat)
  case atStart =>
    refine ⟨0, Nat.zero_le _, rfl, by simp, hide (Mod.of_below (Below.refl _ _)), ht, hide (fun q hq => ?_), hide (fun q hq => absurd hq (by omega))⟩
    obtain ⟨b, o, e, hb, hc⟩ := ha.out q (by have := hx.out; omega)
    exact ⟨b, o, _, e, hb, hc⟩
  case round =>
    obtain ⟨j, hj, rfl, rfl, HM, HT, HC, HQ⟩ := hrel
    by_cases hlt : j < n
    · obtain ⟨b, o, v, rfl, hbB, hc⟩ := HC.out j hlt
      have hf := HT.out b (o + j) hbB
      go_wp2
      refine ⟨⟨j + 1, by omega, by go_num, by go_num, hide (HM.out.trans ⟨rfl, rfl, rfl, by simp [World.setCell], fun q _ hq => Below.heap_setCell _ _ _ _ (by dsimp only; omega)⟩), hide (HT.out.setCell _ _), hide (fun q hq => ?_), hide (fun q hq => ?_)⟩, by simp [intOf]; omega⟩
      · by_cases e : q = j
        · subst e
          exact ⟨b, o, _, rfl, hbB, World.cell?_setCell_same _ _ _ hc⟩
        · obtain ⟨b', o', v', e', hb', hc'⟩ := HC.out q hq
          cases e'
          exact ⟨b, o, v', rfl, hbB, by rw [World.cell?_setCell_other _ _ _ _ (by intro h; injection h with _ h2; omega)]; exact hc'⟩
      · by_cases e : q = j
        · subst e
          exact ⟨b, o, rfl, hbB, World.cell?_setCell_same _ _ _ hc⟩
        · obtain ⟨b', o', e', hb', hc'⟩ := HQ.out q (by omega)
          cases e'
          exact ⟨b, o, rfl, hbB, by rw [World.cell?_setCell_other _ _ _ _ (by intro h; injection h with _ h2; omega)]; exact hc'⟩
    · have hjn : j = n := by omega
      subst hjn
      go_wp2
      go_ret
      exact ⟨rfl, HM.out, HQ.out⟩
end Go.Proofs.YtdcdgopblbmgoaaGreatDoor

/-
  The law on ParseFunc: what is read is small; copies of bytes.
-/
namespace Go.Proofs.YtdcdgopblbmgoaaGreatDoor
open Go.RowKit

theorem body_tot : ∀ (ls : List (List UInt8)) (i : Nat) (s s' : Pst), bodyP ls i s = .ok s' → pstTot s' ≤ pstTot s + lensOf ls
  | [], i, s, s', h => by
    simp only [bodyP, Bd.ok.injEq] at h
    subst h
    omega
  | l :: ls, i, s, s', h => by
    have e : lensOf (l :: ls) = l.length + lensOf ls := by simp [lensOf]
    cases hl : lineP s l with
    | bad c => simp only [bodyP, hl] at h; cases h
    | ok s1 =>
      simp only [bodyP, hl] at h
      have h1 := step_tot hl
      have h2 := body_tot ls (i + 1) s1 s' h
      omega
theorem parse_tot (text : List UInt8) : (parseP text).fn.blocks.length + blksTot (parseP text).fn.blocks ≤ 100000 := by
  unfold parseP
  split
  · simp [badP, blksTot]
  rename_i h1
  split
  · simp [badP, blksTot]
  unfold restP
  split
  · simp [badP, blksTot]
  unfold endP
  split
  · simp [badP, blksTot]
  rename_i s hs
  split
  · simp [badP, blksTot]
  rename_i hcur
  split
  · have h2 := body_tot _ _ _ _ hs
    have h3 := lines_lens text
    have h4 : lensOf (linesOf text).tail ≤ lensOf (linesOf text) := by
      cases linesOf text with
      | nil => simp [lensOf]
      | cons l r => simp [lensOf]
    simp only [pstTot, hcur] at h2
    simp only [blksTot, List.map_nil, List.sum_nil, List.length_nil] at h2
    show s.pre.length + blksTot s.pre ≤ 100000
    unfold blksTot
    omega
  · simp [badP, blksTot]
theorem shs_tot (xs : List Blk) : shsCnt (xs.map Blk.sh) ≤ 5 * (xs.length + blksTot xs) := by
  have ph : ∀ ps : List Ph, phCnt (ps.map fun p => p.args.length) = ps.length + phTot ps := fun ps => by
    induction ps with
    | nil => rfl
    | cons p ps ih =>
      have h1 : phCnt ((p :: ps).map fun p => p.args.length) = (p.args.length + 1) + phCnt (ps.map fun p => p.args.length) := by simp [phCnt]
      have h2 : phTot (p :: ps) = p.args.length + phTot ps := by simp [phTot]
      rw [h1, h2, ih, List.length_cons]
      omega
  induction xs with
  | nil => simp [shsCnt]
  | cons x xs ih =>
    have h1 : shsCnt ((x :: xs).map Blk.sh) = shCnt x.sh + shsCnt (xs.map Blk.sh) := by simp [shsCnt]
    have h2 : blksTot (x :: xs) = blkTot x + blksTot xs := by simp [blksTot]
    have h3 : shCnt x.sh = phCnt (x.phis.map fun p => p.args.length) + 5 * x.instrs.length + 4 := rfl
    rw [h1, h2, h3, ph, List.length_cons]
    simp only [blkTot]
    omega
theorem Tryz.infoU : (Tryz.prog.info? 5).map (fun i => (i.zero, i.size, i.bytes)) = some (some (.int .u8 0), 1, 1) := by kernel_rfl

set_option maxHeartbeats 400000 in
theorem toBytes_any (a : Option Addr) (n c : Nat) (xs : List UInt8) (L B : Nat) (w : World) (ha : Hid (BytesAt w L B a xs)) (hx : Hid (n = xs.length)) (hn : n ≤ 1048576) (hB : B ≤ w.heap.size) :
    Calls Tryz.prog 5 #[.slice a n c] w fun e w' => e = .returned (.slice (some ⟨w.heap.size, 0, none⟩) n n) ∧ Below w.heap.size w w' ∧ BytesAt w' w.heap.size w'.heap.size (some ⟨w.heap.size, 0, none⟩) xs ∧ Thaw w.heap.size w' := by
  have hmk := run_make_row' (P := Tryz.prog) 22 5 (.int .u8 0) 1 Tryz.underlying22 Tryz.infoU rfl .i64 .i64 n (by omega) (by omega)
  go_enter Tryz.func5, Tryz.ntmps5
  go_wp2
  go_loopw [4] (fun i wr => ∃ k : Nat, k ≤ n ∧ i = .int .i64 k ∧ Below w.heap.size w wr ∧ Hid (Thaw w.heap.size wr) ∧ Hid (∃ f, wr.rowIs w.heap.size 5 n f ∧ ∀ j (h : j < xs.length), j < k → f j = .int .u8 (xs[j].toNat : Int))) (fun i _ => n - (intOf i).toNat)
  case atStart => exact ⟨0, Nat.zero_le _, rfl, balloc (Below.refl _ _) _, (Thaw.start _).alloc _ _, ⟨_, World.rowIs_made _ _ _ _, fun j _ h => absurd h (by omega)⟩⟩
  case round =>
    obtain ⟨k, hk, rfl, hw, hth, hf⟩ := hrel
    by_cases hlt : k < n
    · have hkx : k < xs.length := by have := hx.out; omega
      obtain ⟨b, o, rfl, ⟨_, hbB⟩, hc⟩ := ha.out k hkx
      have e1 := (hw.cell (p := ⟨b, o + k, none⟩) (by show b < _; omega)).trans hc
      obtain ⟨f, hr, hff⟩ := hf.out
      have e2 := hr.cell hlt
      have e3 := hr.frozen k
      have HF := hide hff
      have HR := hide hr
      clear hc hf hff hr
      go_wp2
      refine ⟨⟨k + 1, by omega, by go_num, hw.setCell (Nat.le_refl _) _, hth.out.setCell _ _, ⟨_, HR.out.set k _, fun j hj hjk => ?_⟩⟩, by simp [intOf]; omega⟩
      by_cases e : j = k
      · subst e; simp
      · simp only [e, if_false]; exact HF.out j hj (by omega)
    · go_wp2
      go_ret
      obtain ⟨f, hr, hff⟩ := hf.out
      refine ⟨rfl, hw, fun j hj => ⟨w.heap.size, 0, rfl, ⟨Nat.le_refl _, hr.lt⟩, ?_⟩, hth.out⟩
      rw [Nat.zero_add, hr.cell (by have := hx.out; omega), hff j hj (by have := hx.out; omega)]
end Go.Proofs.YtdcdgopblbmgoaaGreatDoor
