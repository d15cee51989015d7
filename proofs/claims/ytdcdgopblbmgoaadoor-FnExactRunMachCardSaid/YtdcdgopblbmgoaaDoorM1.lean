import Derived.Test.YtdcdgopblbmgoaaDoorM0
import Derived.Test.YtdcdgopblbmgoaaDoorW2
import Derived.Test.YtdcdgopblbmgoaaDoorW3
namespace Go.Proofs.YtdcdgopblbmgoaaDoor
open Go.RowKit
attribute [local go_sem ↓] Go.wp_at_zero Go.wp_at_succ

set_option maxHeartbeats 400000 in
theorem szMBlock_any (i : Option Addr) (m ic : Nat) (t0 t1 t2 t3 l : Int) (w : World) (hm : m ≤ 9223372036854775807) (h0 : 0 ≤ l) (h1 : l ≤ 1048576) :
    Calls Tryd.prog 129 #[.agg #[.slice i m ic, .int .i64 t0, .int .i64 t1, .int .i64 t2, .int .i64 t3], .int .i64 l] w fun e w' => e = .returned (.int .i64 (szR l m)) ∧ Below w.heap.size w w' := by
  by_cases h : l < m
  · have hz := szR_neg h
    go_enter Tryd.func129, Tryd.ntmps129
    go_wp2_with (go_at_call 139; refine (szInstrs_any _ _ _ _ _ (by omega) (by omega) (by omega)).mono ?_; rintro e w' ⟨rfl, rfl⟩)
    go_ret
    exact ⟨ret_int hz.symm, (Below.refl _ _).alloc (Nat.le_refl _) _⟩
  · have hz : szR l m = l - m := szR_pos (by omega)
    go_enter Tryd.func129, Tryd.ntmps129
    go_wp2_with (go_at_call 139; refine (szInstrs_any _ _ _ _ _ (by omega) (by omega) (by omega)).mono ?_; rintro e w' ⟨rfl, rfl⟩)
    go_ret
    exact ⟨ret_int hz.symm, (Below.refl _ _).alloc (Nat.le_refl _) _⟩

set_option maxHeartbeats 400000 in
theorem szMBlocks_any (a : Option Addr) (n c : Nat) (l : Int) (xs : List MBlk) (L B : Nat) (w : World) (ha : Hid (MBlksAt w L B a xs)) (hx : Hid (n = xs.length)) (hn : n ≤ 9223372036854775807) (hs : Hid (MLenOk xs))
    (h0 : 0 ≤ l) (h1 : l ≤ 1048576) (hB : B ≤ w.heap.size) :
    Calls Tryd.prog 86 #[.slice a n c, .int .i64 l] w fun e w' => e = .returned (.int .i64 (szR l (n + mTot xs))) ∧ Below w.heap.size w w' := by
  by_cases h : l < n
  · go_enter Tryd.func86, Tryd.ntmps86
    go_wp2
    go_ret
    exact ⟨ret_int (szR_neg (by omega)).symm, Below.refl _ _⟩
  · go_enter Tryd.func86, Tryd.ntmps86
    go_wp2
    go_loopw [1, 5] (fun q i wr => ∃ k : Nat, k ≤ n ∧ i = .int .i64 k ∧ (∃ r : Int, q = .int .i64 r ∧ 0 ≤ r ∧ r ≤ 1048576 ∧ Hid (r = l - (n + mTot (xs.take k) : Nat))) ∧ Below w.heap.size w wr) (fun _ i _ => n - (intOf i).toNat)
    case atStart => exact ⟨0, Nat.zero_le _, rfl, ⟨_, rfl, by omega, by omega, by show _ = _; simp [mTot]⟩, Below.refl _ _⟩
    case round =>
      obtain ⟨k, hk, rfl, ⟨r, rfl, hr0, hr1, hr⟩, hw⟩ := hrel
      by_cases hlt : k < n
      · have hkx : k < xs.length := by have := hx.out; omega
        obtain ⟨b, o, rfl, ⟨_, hbB⟩, ia, ic, hc1, ⟨hc2, hc3, hc4, hc5⟩, _⟩ := ha.out k hkx
        have hq2 := hs.out _ (List.getElem_mem hkx)
        have e1 := (hw.cell (p := ⟨b, o + k * 5, none⟩) (by show b < _; omega)).trans hc1
        have e2 := (hw.cell (p := ⟨b, o + k * 5 + 1, none⟩) (by show b < _; omega)).trans hc2
        have e3 := (hw.cell (p := ⟨b, o + k * 5 + 1 + 1, none⟩) (by show b < _; omega)).trans hc3
        have e4 := (hw.cell (p := ⟨b, o + k * 5 + 1 + 2, none⟩) (by show b < _; omega)).trans hc4
        have e5 := (hw.cell (p := ⟨b, o + k * 5 + 1 + 3, none⟩) (by show b < _; omega)).trans hc5
        clear hc1 hc2 hc3 hc4 hc5
        have HT : Hid (mTot (xs.take (k + 1)) = mTot (xs.take k) + xs[k].instrs.length) := by show _ = _; rw [take_next _ _ hkx, mTot_snoc]
        have HL : Hid (mTot (xs.take (k + 1)) ≤ mTot xs) := mTot_take _ _
        have hBr : B ≤ wr.heap.size := by have := hw.size; omega
        generalize xs[k] = X at *
        by_cases hm : r < (X.instrs.length : Nat)
        · have hz := szR_neg hm
          go_wp2_with (go_at_call 129; refine (szMBlock_any _ _ _ _ _ _ _ _ _ (by omega) (by omega) (by omega)).mono ?_; rintro e w' ⟨rfl, hb1⟩)
          go_ret
          exact ⟨ret_int (szR_neg (by have := hr.out; have := HT.out; have := HL.out; omega)).symm, bnext hw hb1⟩
        · have hz : szR r X.instrs.length = r - (X.instrs.length : Nat) := szR_pos (by omega)
          go_wp2_with (go_at_call 129; refine (szMBlock_any _ _ _ _ _ _ _ _ _ (by omega) (by omega) (by omega)).mono ?_; rintro e w' ⟨rfl, hb1⟩)
          exact ⟨⟨k + 1, by omega, by go_num, ⟨_, rfl, by omega, by omega, by have := hr.out; have := HT.out; show _ = _; omega⟩, bnext hw hb1⟩, by simp [intOf]; omega⟩
      · go_wp2
        go_ret
        have : k = n := by omega
        have h2 := hr.out
        rw [List.take_of_length_le (by have := hx.out; omega)] at h2
        exact ⟨ret_int (by rw [szR_pos (by omega)]; exact h2), hw⟩

set_option maxHeartbeats 400000 in
theorem szMach_any (v : Int) (a : Option Addr) (n c : Nat) (l : Int) (xs : List MBlk) (L B : Nat) (w : World) (ha : Hid (MBlksAt w L B a xs)) (hx : Hid (n = xs.length)) (hn : n ≤ 9223372036854775807) (hs : Hid (MLenOk xs))
    (h0 : 0 ≤ l) (h1 : l ≤ 1048576) (hB : B ≤ w.heap.size) :
    Calls Tryd.prog 38 #[.agg #[.int .i64 v, .slice a n c], .int .i64 l] w fun e w' => e = .returned (.int .i64 (szR l (n + mTot xs))) ∧ Below w.heap.size w w' := by
  by_cases h : l < (n + mTot xs : Nat)
  · have hz := szR_neg h
    go_enter Tryd.func38, Tryd.ntmps38
    go_wp2_with (go_at_call 86; refine (szMBlocks_any _ _ _ _ xs L B _ (ha.out.keep ((Below.refl _ _).alloc hB _)) hx (by omega) hs (by omega) (by omega) (by simp; omega)).mono ?_; rintro e w' ⟨rfl, hb1⟩)
    go_ret
    exact ⟨ret_int hz.symm, bnext ((Below.refl _ _).alloc (Nat.le_refl _) _) hb1⟩
  · have hz : szR l (n + mTot xs) = l - (n + mTot xs : Nat) := szR_pos (by omega)
    go_enter Tryd.func38, Tryd.ntmps38
    go_wp2_with (go_at_call 86; refine (szMBlocks_any _ _ _ _ xs L B _ (ha.out.keep ((Below.refl _ _).alloc hB _)) hx (by omega) hs (by omega) (by omega) (by simp; omega)).mono ?_; rintro e w' ⟨rfl, hb1⟩)
    go_ret
    exact ⟨ret_int hz.symm, bnext ((Below.refl _ _).alloc (Nat.le_refl _) _) hb1⟩

set_option maxHeartbeats 1000000 in
theorem eqMBlock_yes (i i' : Option Addr) (m ic ic' : Nat) (t0 t1 t2 t3 : Int) (ys : List Ins) (L B L' B' : Nat) (w : World) (ga : Hid (InssAt w L B i ys)) (gb : Hid (InssAt w L' B' i' ys))
    (hy : Hid (m = ys.length)) (hm : m ≤ 1048576) (hB : B ≤ w.heap.size) (hB' : B' ≤ w.heap.size) :
    Calls Tryd.prog 132 #[.agg #[.slice i m ic, .int .i64 t0, .int .i64 t1, .int .i64 t2, .int .i64 t3], .agg #[.slice i' m ic', .int .i64 t0, .int .i64 t1, .int .i64 t2, .int .i64 t3]] w fun e w' => e = .returned (.bool true) ∧ Below w.heap.size w w' := by
  go_enter Tryd.func132, Tryd.ntmps132
  go_wp2_with fail
  refine (eqInstrs_yes _ _ _ _ _ ys L B L' B' _ ?q1 ?q2 hy hm ?q3 ?q4).mono ?_
  case q1 => exact ga.out.keep (((Below.refl _ _).alloc (by omega) _).alloc (by simp; omega) _)
  case q2 => exact gb.out.keep (((Below.refl _ _).alloc (by omega) _).alloc (by simp; omega) _)
  case q3 => simp; omega
  case q4 => simp; omega
  rintro e w1 ⟨rfl, hb1⟩
  have hz1 := hb1.size
  simp at hz1
  have hz2 : w.heap.size < w1.heap.size := by omega
  have hz3 : w.heap.size + 1 < w1.heap.size := by omega
  obtain ⟨hc1, hf1⟩ := bcell hb1
  have b1 := bnext (balloc (balloc (Below.refl _ _) _) _) hb1
  go_wp2_with fail
  refine (eqTerm_yes _ _ _ _ _).mono ?_
  rintro e w3 ⟨rfl, hb3⟩
  go_wp2
  go_ret
  exact ⟨rfl, bnext b1 hb3⟩

set_option maxHeartbeats 1000000 in
theorem eqMBlocks_yes (a a' : Option Addr) (n c c' : Nat) (xs : List MBlk) (L B L' B' : Nat) (w : World) (ha : Hid (MBlksAt w L B a xs)) (hb : Hid (MBlksAt w L' B' a' xs)) (hx : Hid (n = xs.length)) (hs : Hid (MLen xs)) (hn : n ≤ 1048576) (hB : B ≤ w.heap.size) (hB' : B' ≤ w.heap.size) :
    Calls Tryd.prog 92 #[.slice a n c, .slice a' n c'] w fun e w' => e = .returned (.bool true) ∧ Below w.heap.size w w' := by
  go_enter Tryd.func92, Tryd.ntmps92
  go_wp2
  go_loopw [5] (fun i wr => ∃ k : Nat, k ≤ n ∧ i = .int .i64 k ∧ Below w.heap.size w wr) (fun i _ => n - (intOf i).toNat)
  case atStart => exact ⟨0, Nat.zero_le _, rfl, Below.refl _ _⟩
  case round =>
    obtain ⟨k, hk, rfl, hw⟩ := hrel
    by_cases hlt : k < n
    · have hkx : k < xs.length := by have := hx.out; omega
      obtain ⟨b, o, rfl, ⟨_, hbB⟩, hc⟩ := ha.out k hkx
      obtain ⟨b', o', rfl, ⟨_, hbB'⟩, hc'⟩ := hb.out k hkx
      have hk0 : (0 : Int) ≤ (k : Int) := by omega
      have hk1 : (k : Int) < (n : Int) := by omega
      obtain ⟨ia, ic, e1, ⟨e2, e3, e4, e5⟩, hi⟩ := hc.keep (hw.mono hB) (by omega)
      obtain ⟨ia', ic', f1, ⟨f2, f3, f4, f5⟩, hi'⟩ := hc'.keep (hw.mono hB') (by omega)
      have HI := hide (hi.keep ((Below.refl B wr).drew))
      have HI' := hide (hi'.keep ((Below.refl B' wr).drew))
      have hq2 := hs.out _ (List.getElem_mem hkx)
      have hBr : B ≤ wr.heap.size := by have := hw.size; omega
      have hBr' : B' ≤ wr.heap.size := by have := hw.size; omega
      clear hc hc' hi hi'
      generalize xs[k] = X at *
      go_wp2
      go_region_with (go_at_call 132; refine (eqMBlock_yes _ _ _ _ _ _ _ _ _ X.instrs L B L' B' _ HI HI' rfl hq2 hBr hBr').mono ?_; rintro e w1 ⟨rfl, hb1⟩)
      all_goals
        go_wp2
        exact ⟨⟨k + 1, by omega, by go_num, bnext hw.drew hb1⟩, by simp [intOf]; omega⟩
    · go_wp2
      go_ret
      exact ⟨rfl, hw⟩

set_option maxHeartbeats 1000000 in
theorem eqMach_yes (v : Int) (a a' : Option Addr) (n c c' : Nat) (xs : List MBlk) (L B L' B' : Nat) (w : World) (ha : Hid (MBlksAt w L B a xs)) (hb : Hid (MBlksAt w L' B' a' xs)) (hx : Hid (n = xs.length)) (hs : Hid (MLen xs)) (hn : n ≤ 1048576) (hB : B ≤ w.heap.size) (hB' : B' ≤ w.heap.size) :
    Calls Tryd.prog 42 #[.agg #[.int .i64 v, .slice a n c], .agg #[.int .i64 v, .slice a' n c']] w fun e w' => e = .returned (.bool true) ∧ Below w.heap.size w w' := by
  go_enter Tryd.func42, Tryd.ntmps42
  go_wp2_with fail
  refine (eqMBlocks_yes _ _ _ _ _ xs L B L' B' _ ?q1 ?q2 hx hs hn ?q3 ?q4).mono ?_
  case q1 => exact ha.out.keep (((Below.refl _ _).alloc (by omega) _).alloc (by simp; omega) _)
  case q2 => exact hb.out.keep (((Below.refl _ _).alloc (by omega) _).alloc (by simp; omega) _)
  case q3 => simp; omega
  case q4 => simp; omega
  rintro e w1 ⟨rfl, hb1⟩
  go_wp2
  go_ret
  exact ⟨rfl, bnext (balloc (balloc (Below.refl _ _) _) _) hb1⟩
end Go.Proofs.YtdcdgopblbmgoaaDoor

namespace Go.Proofs.YtdcdgopblbmgoaaDoor
open Go.RowKit

theorem MBlkAt.apart {w : World} {L B b : Nat} {o o' : Nat} {x : MBlk} (h : MBlkAt w L B b o x) (hb : b < L) (vs : List Value) (hap : o + 5 ≤ o' ∨ o' + vs.length ≤ o) : MBlkAt (w.setCells b o' vs) L B b o x := by
  obtain ⟨ia, ic, h0, h2, h4⟩ := h
  exact ⟨ia, ic, (out_cell (by omega)).trans h0, h2.apart _ (by omega), h4.keepS (same_setCells (Same.refl _ _ _) _ _ (Or.inl hb))⟩

theorem mblk_step {w : World} {L B b t N : Nat} {f : Nat → Value} (hr : w.rowIs b t N f) (hb : b < L) (xs : List MBlk) (k : Nat) (hk : k < xs.length) (hN : xs.length * 5 ≤ N) (old : ∀ j (h : j < xs.length), j < k → MBlkAt w L B b (j * 5) xs[j])
    (ia : Option Addr) (ic : Nat) (hi : InssAt w L B ia xs[k].instrs) :
    ∀ j (h : j < xs.length), j < k + 1 → MBlkAt (w.setCells b (k * 5) [.slice ia xs[k].instrs.length ic, .int .i64 xs[k].term.kind, .int .i64 xs[k].term.a, .int .i64 xs[k].term.to, .int .i64 xs[k].term.els]) L B b (j * 5) xs[j] := fun j h hj => by
  by_cases e : j = k
  · subst e
    have hc := in_cell (w := w) hr (o := j * 5) (vs := [.slice ia xs[j].instrs.length ic, .int .i64 xs[j].term.kind, .int .i64 xs[j].term.a, .int .i64 xs[j].term.to, .int .i64 xs[j].term.els]) (by simp only [List.length_cons, List.length_nil]; omega)
    exact ⟨ia, ic, hc 0 _ rfl, ⟨hc 1 _ rfl, hc 2 _ rfl, hc 3 _ rfl, hc 4 _ rfl⟩, hi.keepS (same_setCells (Same.refl _ _ _) _ _ (Or.inl hb))⟩
  · exact (old j h (by omega)).apart hb _ (by simp only [List.length_cons, List.length_nil]; omega)

set_option maxHeartbeats 1000000 in
theorem toMBlock_any (i : Option Addr) (m ic : Nat) (t0 t1 t2 t3 : Int) (ys : List Ins) (L B : Nat) (w : World) (hb : Hid (InssAt w L B i ys)) (hy : Hid (m = ys.length)) (hm : m ≤ 1048576) (hB : B ≤ w.heap.size) :
    Calls Tryd.prog 130 #[.agg #[.slice i m ic, .int .i64 t0, .int .i64 t1, .int .i64 t2, .int .i64 t3]] w fun e w' => ∃ i' d', e = .returned (.agg #[.slice i' m d', .int .i64 t0, .int .i64 t1, .int .i64 t2, .int .i64 t3]) ∧ Below w.heap.size w w' ∧
      InssAt w' w.heap.size w'.heap.size i' ys ∧ Thaw w.heap.size w' := by
  go_enter Tryd.func130, Tryd.ntmps130
  go_wp2_with fail
  refine (toInstrs_any _ _ _ ys L B _ ?q1 hy hm ?q2).mono ?_
  case q1 => exact hb.out.keep ((((Below.refl _ _).alloc (by omega) _).alloc (by simp; omega) _).alloc (by simp; omega) _)
  case q2 => simp; omega
  rintro e w1 ⟨c', rfl, hb1, hi1, ht1⟩
  have HT1 := hide (((((Thaw.start w).alloc _ _).alloc _ _).alloc _ _).trans hb1 ht1)
  clear ht1
  have b1 := bnext (balloc (balloc (balloc (Below.refl w.heap.size w) _) _) _) hb1
  have hz1 := hb1.size
  simp at hz1
  have hz2 : w.heap.size < w1.heap.size := by omega
  have hz3 : w.heap.size + 1 < w1.heap.size := by omega
  have hz4 : w.heap.size + 1 + 1 < w1.heap.size := by omega
  obtain ⟨hc1, hf1⟩ := bcell hb1
  have HI := hide hi1
  clear hi1
  go_wp2_with fail
  refine (toTerm_any _ _ _ _ _).mono ?_
  rintro e w3 ⟨rfl, hb3, ht3⟩
  have HT3 := hide ((HT1.out.setCell _ _).trans hb3 ht3)
  clear ht3
  have hz9 := hb3.size
  simp only [size_setCell] at hz9
  obtain ⟨hc3, hf3⟩ := bcell hb3
  simp only [size_setCell] at hc3 hf3
  go_wp2
  refine bodyPost_ret (v := .agg #[.slice (some ⟨w.heap.size + 1 + 1 + 1, 0, none⟩) m c', .int .i64 t0, .int .i64 t1, .int .i64 t2, .int .i64 t3]) (by simp [results, Tryd.results130, go_sem, hc1, hc3, hz3]) rfl ⟨_, _, rfl, ?_, ?_, ?_⟩
  · repeat (refine Below.setCell ?_ (by dsimp only; omega) _)
    exact bnext (b1.setCell (p := ⟨w.heap.size + 1 + 1, 0, none⟩) (by dsimp only; omega) _) hb3
  · have h := HI.out
    simp only [World.size_alloc] at h
    refine (InssAt.keepS h (?_ : Same _ _ w1 _)).mono (by omega) (by simp only [size_setCell]; omega)
    repeat (refine Same.setCell ?_ (Or.inl (by dsimp only; omega)) _)
    exact ((Same.refl _ _ _).setCell (Or.inl (by dsimp only; omega)) _).trans (Same.of_below (hb3.mono (by simp only [size_setCell]; omega)))
  · repeat (refine Thaw.setCell ?_ _ _)
    exact HT3.out

theorem Tryd.infoMBlock : (Tryd.prog.info? 126).map (fun i => (i.zero, i.size, i.bytes)) = some (some (.agg #[.slice none 0 0, .int .i64 0, .int .i64 0, .int .i64 0, .int .i64 0]), 5, 56) := by kernel_rfl

set_option maxHeartbeats 1000000 in
theorem toMBlocks_any (a : Option Addr) (n c : Nat) (xs : List MBlk) (L B : Nat) (w : World) (ha : Hid (MBlksAt w L B a xs)) (hx : Hid (n = xs.length)) (hs : Hid (MLen xs)) (hn : n ≤ 1048576) (hB : B ≤ w.heap.size) :
    Calls Tryd.prog 88 #[.slice a n c] w fun e w' => ∃ c', e = .returned (.slice (some ⟨w.heap.size, 0, none⟩) n c') ∧ Below w.heap.size w w' ∧ MBlksAt w' w.heap.size w'.heap.size (some ⟨w.heap.size, 0, none⟩) xs ∧ Thaw w.heap.size w' := by
  have hmk := run_make_rows (P := Tryd.prog) 64 126 _ 5 56 Tryd.underlying64 Tryd.infoMBlock n (by omega) (by omega)
  go_enter Tryd.func88, Tryd.ntmps88
  go_wp2
  go_loopw [4] (fun i wr => ∃ k : Nat, k ≤ n ∧ i = .int .i64 k ∧ Below w.heap.size w wr ∧ w.heap.size < wr.heap.size ∧ Hid (Thaw w.heap.size wr) ∧ Hid (∃ f, wr.rowIs w.heap.size 126 (n * 5) f) ∧ Hid (∀ j (h : j < xs.length), j < k → MBlkAt wr (w.heap.size + 1) wr.heap.size w.heap.size (j * 5) xs[j])) (fun i _ => n - (intOf i).toNat)
  case atStart => exact ⟨0, Nat.zero_le _, rfl, balloc (Below.refl _ _) _, by simp, (Thaw.start _).alloc _ _, ⟨_, rowIs_born _ _ _ _⟩, fun j _ h => absurd h (by omega)⟩
  case round =>
    obtain ⟨k, hk, rfl, hw, hsz, hth, hf, hg⟩ := hrel
    by_cases hlt : k < n
    · have hkx : k < xs.length := by have := hx.out; omega
      obtain ⟨b, o, rfl, ⟨_, hbB⟩, hc⟩ := ha.out k hkx
      obtain ⟨ia, ic, e1, ⟨e2, e3, e4, e5⟩, hi⟩ := hc.keep (hw.mono hB) (by omega)
      have HI := hide hi
      have hq2 := hs.out _ (List.getElem_mem hkx)
      have hBr : B ≤ wr.heap.size := by have := hw.size; omega
      obtain ⟨f, hr⟩ := hf.out
      have HR := hide hr
      clear hc hf hr hi
      generalize hX : xs[k] = X at *
      have HX := hide hX
      clear hX
      go_wp2_with (go_at_call 130; refine (toMBlock_any _ _ _ _ _ _ _ X.instrs L B _ HI rfl hq2 hBr).mono ?_; rintro e w1 ⟨i1, d1, rfl, hb1, hi1, ht1⟩; have HT1 := hide ht1; clear ht1; have hr1 := HR.out.of_block (hb1.block _ HR.out.lt); have g0 := hr1.cell (i := k * 5) (by omega); have g1 := hr1.cell (i := k * 5 + 1) (by omega); have g2 := hr1.cell (i := k * 5 + 2) (by omega); have g3 := hr1.cell (i := k * 5 + 3) (by omega); have g4 := hr1.cell (i := k * 5 + 4) (by omega); have z0 := hr1.frozen (k * 5); have z1 := hr1.frozen (k * 5 + 1); have z2 := hr1.frozen (k * 5 + 2); have z3 := hr1.frozen (k * 5 + 3); have z4 := hr1.frozen (k * 5 + 4); have HR1 := hide hr1; clear hr1; have HI1 := hide hi1; clear hi1)
      have hX := unhide HX
      subst hX
      have hz1 := hb1.size
      have h1 : ∀ j (h : j < xs.length), j < k → MBlkAt w1 (w.heap.size + 1) w1.heap.size w.heap.size (j * 5) xs[j] := fun j h hj => ((hg.out j h hj).keepS (Same.of_below hb1) (hb1.block _ HR.out.lt)).mono (Nat.le_refl _) hz1
      have h2 := mblk_step HR1.out (Nat.lt_succ_self _) xs k hkx (by have := hx.out; omega) h1 i1 d1 (HI1.out.mono (by omega) (Nat.le_refl _))
      have h3 := size_setCells w.heap.size [.slice i1 xs[k].instrs.length d1, .int .i64 xs[k].term.kind, .int .i64 xs[k].term.a, .int .i64 xs[k].term.to, .int .i64 xs[k].term.els] (k * 5) w1
      have h4 := rowIs_setCells [.slice i1 xs[k].instrs.length d1, .int .i64 xs[k].term.kind, .int .i64 xs[k].term.a, .int .i64 xs[k].term.to, .int .i64 xs[k].term.els] (k * 5) _ _ HR1.out
      have h5 := below_setCells _ [.slice i1 xs[k].instrs.length d1, .int .i64 xs[k].term.kind, .int .i64 xs[k].term.a, .int .i64 xs[k].term.to, .int .i64 xs[k].term.els] (k * 5) _ _ (bnext hw hb1) (Nat.le_refl _)
      exact ⟨⟨k + 1, by omega, by go_num, h5, by simp only [size_setCell]; omega, (((((hth.out.trans hb1 HT1.out).setCell _ _).setCell _ _).setCell _ _).setCell _ _).setCell _ _, h4, fun j h hj => (h2 j h hj).mono (Nat.le_refl _) (Nat.le_of_eq h3.symm)⟩, by simp [intOf]; omega⟩
    · go_wp2
      go_ret
      obtain ⟨f, hr⟩ := hf.out
      refine ⟨_, rfl, hw, fun j hj => ⟨w.heap.size, 0, rfl, ⟨Nat.le_refl _, hr.lt⟩, ?_⟩, hth.out⟩
      rw [Nat.zero_add]
      exact (hg.out j hj (by have := hx.out; omega)).mono (by omega) (Nat.le_refl _)

set_option maxHeartbeats 400000 in
theorem toMach_any (v : Int) (a : Option Addr) (n c : Nat) (xs : List MBlk) (L B : Nat) (w : World) (ha : Hid (MBlksAt w L B a xs)) (hx : Hid (n = xs.length)) (hs : Hid (MLen xs)) (hn : n ≤ 1048576) (hB : B ≤ w.heap.size) :
    Calls Tryd.prog 40 #[.agg #[.int .i64 v, .slice a n c]] w fun e w' => ∃ a' c', e = .returned (.agg #[.int .i64 v, .slice a' n c']) ∧ Below w.heap.size w w' ∧ MBlksAt w' w.heap.size w'.heap.size a' xs ∧ Thaw w.heap.size w' := by
  go_enter Tryd.func40, Tryd.ntmps40
  go_wp2_with fail
  refine (toMBlocks_any _ _ _ xs L B _ ?q1 hx hs hn ?q2).mono ?_
  case q1 => exact ha.out.keep ((((Below.refl _ _).alloc (by omega) _).alloc (by simp; omega) _).alloc (by simp; omega) _)
  case q2 => simp; omega
  rintro e w1 ⟨c', rfl, hb1, hi1, ht1⟩
  have HT1 := hide (((((Thaw.start w).alloc _ _).alloc _ _).alloc _ _).trans hb1 ht1)
  clear ht1
  have b1 := bnext (balloc (balloc (balloc (Below.refl w.heap.size w) _) _) _) hb1
  have hz1 := hb1.size
  simp at hz1
  have hz2 : w.heap.size < w1.heap.size := by omega
  have hz3 : w.heap.size + 1 < w1.heap.size := by omega
  have hz4 : w.heap.size + 1 + 1 < w1.heap.size := by omega
  obtain ⟨hc1, hf1⟩ := bcell hb1
  have HI := hide hi1
  clear hi1
  go_wp2
  refine bodyPost_ret (v := .agg #[.int .i64 v, .slice (some ⟨w.heap.size + 1 + 1 + 1, 0, none⟩) n c']) (by simp [results, Tryd.results40, go_sem, hc1]) rfl ⟨_, _, rfl, ?_, ?_, ((HT1.out.setCell _ _).setCell _ _).setCell _ _⟩
  · exact ((b1.setCell (by simp; omega) _).setCell (by simp) _).setCell (by simp) _
  · have h := HI.out
    simp only [World.size_alloc] at h
    exact (h.keepS ((((Same.refl _ _ _).setCell (Or.inl (by simp)) _).setCell (Or.inl (by simp)) _).setCell (Or.inl (by simp)) _)).mono (by omega) (by simp only [size_setCell]; omega)
end Go.Proofs.YtdcdgopblbmgoaaDoor
