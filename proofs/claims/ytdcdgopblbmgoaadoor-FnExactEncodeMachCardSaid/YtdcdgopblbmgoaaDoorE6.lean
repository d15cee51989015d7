import Derived.Test.YtdcdgopblbmgoaaDoorE4
import Derived.Test.YtdcdgopblbmgoaaDoorW6b
/-
  The text of a function, pure, and how long it can be.
-/
namespace Go.Proofs.YtdcdgopblbmgoaaDoor
open Go.RowKit

/-- A number whose negation is a number too. -/
def InB (v : Int) : Prop := -9223372036854775807 ≤ v ∧ v ≤ 9223372036854775807

theorem dec_len_pow (k : Nat) : ∀ u, u < 10 ^ (k + 1) → (Lib.decDigits u).length ≤ k + 1 := by
  induction k with
  | zero => intro u h; rw [Lib.decDigits_one (by simpa using h)]; simp
  | succ k ih =>
    intro u h
    by_cases h10 : u < 10
    · rw [Lib.decDigits_one h10]; simp
    · rw [dec_ten h10, List.length_append, List.length_singleton]
      have := ih (u / 10) (by rw [Nat.pow_succ] at h; omega)
      omega
theorem itoa_len (v : Int) (h : InB v) : (Lib.itoa v).length ≤ 20 := by
  unfold InB at h
  unfold Lib.itoa
  by_cases h0 : v < 0
  · rw [if_pos h0, List.length_cons]
    have := dec_len_pow 18 v.natAbs (by omega)
    omega
  · rw [if_neg h0]
    have := dec_len_pow 18 v.toNat (by omega)
    omega
theorem numsS_le (vs : List Int) (h : ∀ v ∈ vs, InB v) : (numsS vs).length ≤ 21 * vs.length := by
  induction vs with
  | nil => simp [numsS]
  | cons x r ih =>
    have h1 := itoa_len x (h x (List.mem_cons_self ..))
    have h2 := ih (fun v hv => h v (List.mem_cons_of_mem _ hv))
    simp only [numsS, List.length_cons, List.length_append]; omega
theorem lineS_le (word : List UInt8) (vs : List Int) (h : ∀ v ∈ vs, InB v) : (lineS word vs).length ≤ word.length + 21 * vs.length + 1 := by
  have := numsS_le vs h
  simp only [lineS, List.length_append, List.length_singleton]; omega

def phiS (p : Ph) : List UInt8 := lineS [112, 104, 105] (p.dst :: p.args)
def blkS (x : Blk) : List UInt8 := lineS [98, 108, 111, 99, 107] [] ++ (x.phis.flatMap phiS ++ (x.instrs.flatMap insS ++ termS x.term))
def rawS (F : Fn) : List UInt8 := lineS [102, 117, 110, 99] [F.values] ++ F.blocks.flatMap blkS

/-- All numbers of a block are such. -/
structure BlkIn (x : Blk) : Prop where
  phis : ∀ p ∈ x.phis, ∀ v ∈ p.dst :: p.args, InB v
  instrs : ∀ i ∈ x.instrs, ∀ v ∈ [i.dst, i.a, i.b, i.imm], InB v
  term : ∀ v ∈ [x.term.a, x.term.to, x.term.els], InB v

theorem wordS_len (op : Int) : (wordS op).length ≤ 5 := by
  by_cases h : 1 ≤ op ∧ op ≤ 13
  · have hc : op = 1 ∨ op = 2 ∨ op = 3 ∨ op = 4 ∨ op = 5 ∨ op = 6 ∨ op = 7 ∨ op = 8 ∨ op = 9 ∨ op = 10 ∨ op = 11 ∨ op = 12 ∨ op = 13 := by omega
    rcases hc with rfl | rfl | rfl | rfl | rfl | rfl | rfl | rfl | rfl | rfl | rfl | rfl | rfl <;> decide
  · unfold wordS
    rw [if_neg (by omega), if_neg (by omega), if_neg (by omega), if_neg (by omega), if_neg (by omega), if_neg (by omega), if_neg (by omega), if_neg (by omega), if_neg (by omega), if_neg (by omega), if_neg (by omega), if_neg (by omega)]
    decide
theorem insS_le (x : Ins) (h : ∀ v ∈ [x.dst, x.a, x.b, x.imm], InB v) : (insS x).length ≤ 100 := by
  have h1 := lineS_le (wordS x.op) (picks x (lettersS x.op)) (fun v hv => h v (picks_in x _ v hv))
  have h2 := picks_len x (lettersS x.op)
  have h3 := letters_len x.op
  have h4 := usesS_size x.op
  have h5 := wordS_len x.op
  unfold insS; omega
theorem termS_le (t : Ter) (h : ∀ v ∈ [t.a, t.to, t.els], InB v) : (termS t).length ≤ 90 := by
  unfold termS
  have h1 := lineS_le [106, 117, 109, 112] [t.to] (fun v hv => h v (by simp at hv ⊢; omega))
  have h2 := lineS_le [114, 101, 116] [t.a] (fun v hv => h v (by simp at hv ⊢; omega))
  have h3 := lineS_le [98, 114, 97, 110, 99, 104] [t.a, t.to, t.els] h
  simp only [List.length_cons, List.length_nil] at h1 h2 h3
  repeat' split
  all_goals omega
theorem phisS_le (ps : List Ph) (h : ∀ p ∈ ps, ∀ v ∈ p.dst :: p.args, InB v) : (ps.flatMap phiS).length ≤ 100 * (ps.length + phTot ps) := by
  induction ps with
  | nil => simp
  | cons p r ih =>
    have h1 := lineS_le [112, 104, 105] (p.dst :: p.args) (h p (List.mem_cons_self ..))
    have h2 := ih (fun q hq => h q (List.mem_cons_of_mem _ hq))
    have h3 : phTot (p :: r) = p.args.length + phTot r := by simp [phTot]
    rw [h3, List.flatMap_cons, List.length_append]
    unfold phiS at h2 ⊢
    simp only [List.length_cons, List.length_nil] at h1 ⊢; omega
theorem inssS_le (is : List Ins) (h : ∀ i ∈ is, ∀ v ∈ [i.dst, i.a, i.b, i.imm], InB v) : (is.flatMap insS).length ≤ 100 * is.length := by
  induction is with
  | nil => simp
  | cons p r ih =>
    have h1 := insS_le p (h p (List.mem_cons_self ..))
    have h2 := ih (fun q hq => h q (List.mem_cons_of_mem _ hq))
    simp only [List.flatMap_cons, List.length_append, List.length_cons]; omega
theorem blkS_le (x : Blk) (h : BlkIn x) : (blkS x).length ≤ 100 * (blkTot x + 1) := by
  have h1 := phisS_le x.phis h.phis
  have h2 := inssS_le x.instrs h.instrs
  have h3 := termS_le x.term h.term
  have h4 : (lineS [98, 108, 111, 99, 107] []).length = 6 := rfl
  unfold blkS blkTot
  rw [List.length_append, List.length_append, List.length_append, h4]; omega
theorem blksS_le (xs : List Blk) (h : ∀ x ∈ xs, BlkIn x) : (xs.flatMap blkS).length ≤ 100 * (blksTot xs + xs.length) := by
  induction xs with
  | nil => simp
  | cons p r ih =>
    have h1 := blkS_le p (h p (List.mem_cons_self ..))
    have h2 := ih (fun q hq => h q (List.mem_cons_of_mem _ hq))
    have h3 : blksTot (p :: r) = blkTot p + blksTot r := by simp [blksTot]
    rw [h3, List.flatMap_cons, List.length_append, List.length_cons]; omega
theorem rawS_le (F : Fn) (hv : InB F.values) (h : ∀ x ∈ F.blocks, BlkIn x) : (rawS F).length ≤ 100 * (blksTot F.blocks + F.blocks.length + 1) := by
  have h1 := blksS_le F.blocks h
  have h2 := lineS_le [102, 117, 110, 99] [F.values] (fun v hv' => by simp at hv'; exact hv' ▸ hv)
  simp only [List.length_cons, List.length_nil] at h2
  unfold rawS
  rw [List.length_append]; omega
end Go.Proofs.YtdcdgopblbmgoaaDoor

namespace Go.Proofs.YtdcdgopblbmgoaaDoor
open Go.RowKit

theorem phDefs_snoc (ps : List Ph) (p : Ph) : phDefs (ps ++ [p]) = phDefs ps ++ [p.dst] := by simp [phDefs]
theorem insDefs_snoc (ps : List Ins) (p : Ins) : insDefs (ps ++ [p]) = insDefs ps ++ (if dB p.op then [p.dst] else []) := by
  simp only [insDefs, List.filter_append, List.map_append]
  congr 1
  cases h : dB p.op <;> simp [h]
theorem blksDefs_snoc (ps : List Blk) (p : Blk) : blksDefs (ps ++ [p]) = blksDefs ps ++ blkDefs p := by simp [blksDefs]
theorem insDefs_len (xs : List Ins) : (insDefs xs).length ≤ xs.length := by simp only [insDefs, List.length_map]; exact List.length_filter_le _ _
theorem blksDefs_len (xs : List Blk) : (blksDefs xs).length ≤ blksTot xs := by
  induction xs with
  | nil => simp [blksDefs]
  | cons x xs ih =>
    have h1 : blksDefs (x :: xs) = blkDefs x ++ blksDefs xs := by simp [blksDefs]
    have h2 : blksTot (x :: xs) = blkTot x + blksTot xs := by simp [blksTot]
    have h3 : (blkDefs x).length ≤ blkTot x := by
      simp only [blkDefs, phDefs, List.length_append, List.length_map, blkTot]
      have := insDefs_len x.instrs
      omega
    rw [h1, h2, List.length_append]
    omega

theorem own_step {w wr w1 : World} {u : Value} {n : Nat} {xs : List Value} {a : Option Addr} {N c : Nat} (hw : Below w.heap.size w wr) (hsz : w.heap.size < wr.heap.size) (hcell : wr.cell? ⟨w.heap.size, 1, none⟩ = some (.slice a N c))
    (o : Obj) (hown : wr.ownsRow (w.heap.size + 1) 2 1 u n xs) (hg : (wr.alloc o).grownBy w1 u.ownBlock) :
    Below w.heap.size w w1 ∧ w.heap.size < w1.heap.size ∧ w1.cell? ⟨w.heap.size, 1, none⟩ = some (.slice a N c) ∧ wr.heap.size ≤ w1.heap.size := by
  have hz := hg.size
  simp at hz
  refine ⟨grown_below (balloc hw _) hg (hown.alloc _) (by omega) (by simp; omega), by omega, ?_, by omega⟩
  exact (cell_of (grown_block hg (hown.alloc _) (b := w.heap.size) (by omega) (by simp; omega))).trans (((balloc (Below.refl wr.heap.size wr) _).cell (p := ⟨w.heap.size, 1, none⟩) hsz).trans hcell)

set_option maxHeartbeats 2000000 in
theorem l1Defs_any (v : Int) (a : Option Addr) (n c : Nat) (xs : List Blk) (L B : Nat) (w : World) (ha : Hid (BlksAt w L B a xs)) (hx : Hid (n = xs.length)) (hn : n ≤ 1048576) (hs : Hid (blksTot xs ≤ 1048576)) (hB : B ≤ w.heap.size) :
    Calls Tryd.prog 53 #[.agg #[.int .i64 v, .slice a n c]] w fun e w' => ∃ a' c', e = .returned (.slice a' (blksDefs xs).length c') ∧ Below w.heap.size w w' ∧ IntsAt w' w.heap.size w'.heap.size a' (blksDefs xs) := by
  obtain ⟨i0, hi0, hz0, hz1, hz2⟩ := info_parts Tryd.info2'
  go_enter Tryd.func53, Tryd.ntmps53
  go_wp2
  go_loopw [3, 4] (fun u i wr => ∃ k : Nat, k ≤ n ∧ i = .int .i64 k ∧ Below w.heap.size w wr ∧ w.heap.size < wr.heap.size ∧ wr.cell? ⟨w.heap.size, 1, none⟩ = some (.slice a n c) ∧ wr.ownsRow (w.heap.size + 1) 2 1 u (blksDefs (xs.take k)).length ((blksDefs (xs.take k)).map (Value.int .i64))) (fun _ i _ => n - (intOf i).toNat)
  case atStart => exact ⟨0, Nat.zero_le _, rfl, balloc (balloc (Below.refl _ _) _) _, by simp; omega, by simp, own_empty _ _⟩
  case round =>
    obtain ⟨k, hk, rfl, hw, hsz, hcell, hown⟩ := hrel
    by_cases hlt : k < n
    · have hkx : k < xs.length := by have := hx.out; omega
      obtain ⟨b, o, rfl, ⟨_, hbB⟩, hc⟩ := ha.out k hkx
      have HC := hide hc
      have hnx : Hid (blksDefs (xs.take (k + 1)) = blksDefs (xs.take k) ++ (phDefs xs[k].phis ++ insDefs xs[k].instrs)) := by
        show _ = _
        rw [take_next _ _ hkx, blksDefs_snoc]; rfl
      have hbd : (blksDefs (xs.take k)).length + (xs[k].phis.length + phTot xs[k].phis + xs[k].instrs.length) ≤ 1048576 := by
        have h1 := blksTot_take xs (k + 1)
        rw [take_next _ _ hkx, blksTot_snoc] at h1
        have h2 := blksDefs_len (xs.take k)
        have h3 := hs.out
        have h4 : blkTot xs[k] = xs[k].phis.length + phTot xs[k].phis + xs[k].instrs.length := rfl
        omega
      have hpl : xs[k].phis.length ≤ 1048576 := by omega
      have hil : xs[k].instrs.length ≤ 1048576 := by omega
      have HO := hide hown
      clear hown hc
      generalize hX : xs[k] = X at *
      clear hX
      generalize blksDefs (xs.take k) = D at *
      obtain ⟨pa, pc, ia, ic, e0, e1, _, hp, hi⟩ := HC.out
      have HP := hide hp
      have HI := hide hi
      have E0 := hide e0
      have E1 := hide e1
      clear e0 e1 hp hi HC
      go_wp2
      go_loopw [3, 5] (fun u i wi => ∃ j : Nat, j ≤ X.phis.length ∧ i = .int .i64 j ∧ Below w.heap.size w wi ∧ w.heap.size < wi.heap.size ∧ wi.cell? ⟨w.heap.size, 1, none⟩ = some (.slice (some ⟨b, o, none⟩) n c) ∧ wi.ownsRow (w.heap.size + 1) 2 1 u (D ++ phDefs (X.phis.take j)).length ((D ++ phDefs (X.phis.take j)).map (Value.int .i64))) (fun _ i _ => X.phis.length - (intOf i).toNat)
      case atStart => exact ⟨0, Nat.zero_le _, rfl, hw, hsz, hcell, by simpa [phDefs] using HO.out⟩
      case round =>
        obtain ⟨j, hj, rfl, hwi, hszi, hcelli, howni⟩ := hrel
        have f0 := (hwi.cell (p := ⟨b, o + k * 6, none⟩) (by show b < _; omega)).trans E0.out
        have f1 := (hwi.cell (p := ⟨b, o + k * 6 + 1, none⟩) (by show b < _; omega)).trans E1.out
        by_cases hjt : j < X.phis.length
        · obtain ⟨b', o', rfl, ⟨_, hbB'⟩, aa, cc, g0, g1, _⟩ := HP.out j hjt
          have e2 := (hwi.cell (p := ⟨b', o' + j * 2, none⟩) (by show b' < _; omega)).trans g0
          have h3 : Hid (D ++ phDefs (X.phis.take (j + 1)) = (D ++ phDefs (X.phis.take j)) ++ [X.phis[j].dst]) := by show _ = _; rw [take_next _ _ hjt, phDefs_snoc, List.append_assoc]
          have hl : (D ++ phDefs (X.phis.take j)).length ≤ 1048576 := by simp [phDefs]; omega
          clear g0 g1
          generalize X.phis[j] = P at *
          generalize D ++ phDefs (X.phis.take j) = D1 at *
          have HOi := hide howni
          clear howni f1
          go_wp2_with (at_builtin; refine wpList_append_own _ rfl _ _ 38 rfl (w.heap.size + 1) 2 i0 (.int .i64 0) 1 8 Tryd.underlying38 hi0 hz0 hz1 hz2 rfl (by decide) _ _ _ rfl (HOi.out.alloc _) ⟨wr.heap.size, 0, none⟩ 1 1 [.int .i64 P.dst] rfl rfl ?c1 ?c2 ?c3 ?c4 ?c5 ?_)
          case c1 =>
            intro j u hj
            match j, hj with
            | 0, hj => simp at hj; subst hj; simp [Addr.add]
          case c2 => intro u hu; simp at hu; subst hu; rfl
          case c3 => unfold maxLen; omega
          case c4 => omega
          case c5 => simp; omega
          intro v1 w1 hown1 hgrow1 _
          have HO1 := hide hown1
          clear hown1
          go_wp2
          obtain ⟨q1, q2, q3, _⟩ := own_step hwi hszi hcelli _ HOi.out hgrow1
          exact ⟨⟨j + 1, by omega, by go_num, q1, q2, q3, by rw [h3.out, ints_snoc]; simpa using HO1.out⟩, by simp [intOf]; omega⟩
        · have hE := hide (List.take_of_length_le (l := X.phis) (i := j) (by omega))
          have HOi := hide howni
          clear howni
          go_wp2
          go_loopw [3, 6] (fun u i wi => ∃ j : Nat, j ≤ X.instrs.length ∧ i = .int .i64 j ∧ Below w.heap.size w wi ∧ w.heap.size < wi.heap.size ∧ wi.cell? ⟨w.heap.size, 1, none⟩ = some (.slice (some ⟨b, o, none⟩) n c) ∧ wi.ownsRow (w.heap.size + 1) 2 1 u (D ++ phDefs X.phis ++ insDefs (X.instrs.take j)).length ((D ++ phDefs X.phis ++ insDefs (X.instrs.take j)).map (Value.int .i64))) (fun _ i _ => X.instrs.length - (intOf i).toNat)
          case atStart => exact ⟨0, Nat.zero_le _, rfl, hwi, hszi, hcelli, by have := HOi.out; rw [hE.out] at this; simpa [insDefs] using this⟩
          case round =>
            clear hwi hszi hcelli f0 f1 HOi hE
            obtain ⟨j, hj, rfl, hwi, hszi, hcelli, howni⟩ := hrel
            have f1 := (hwi.cell (p := ⟨b, o + k * 6 + 1, none⟩) (by show b < _; omega)).trans E1.out
            by_cases hjt : j < X.instrs.length
            · obtain ⟨b', o', rfl, ⟨_, hbB'⟩, g0, g1, _, _, _⟩ := HI.out j hjt
              have e2 := (hwi.cell (p := ⟨b', o' + j * 5, none⟩) (by show b' < _; omega)).trans g0
              have e3 := (hwi.cell (p := ⟨b', o' + j * 5 + 1, none⟩) (by show b' < _; omega)).trans g1
              have h3 : Hid (D ++ phDefs X.phis ++ insDefs (X.instrs.take (j + 1)) = (D ++ phDefs X.phis ++ insDefs (X.instrs.take j)) ++ (if dB X.instrs[j].op then [X.instrs[j].dst] else [])) := by show _ = _; rw [take_next _ _ hjt, insDefs_snoc, ← List.append_assoc]
              have hl : (D ++ phDefs X.phis ++ insDefs (X.instrs.take j)).length ≤ 1048576 := by have := insDefs_len (X.instrs.take j); simp [phDefs] at this ⊢; omega
              clear g0 g1
              generalize X.instrs[j] = P at *
              generalize D ++ phDefs X.phis ++ insDefs (X.instrs.take j) = D1 at *
              have HOi := hide howni
              clear howni
              cases hd : dB P.op
              · have HD := hide hd
                go_wp2_with (go_at_call 99; refine (usedD _ _).mono ?_; rintro e w2 ⟨rfl, hw2⟩; rw [hw2]; clear hw2 w2)
                exact ⟨⟨j + 1, by omega, by go_num, hwi, hszi, hcelli, by rw [h3.out, HD.out]; simpa using HOi.out⟩, by simp [intOf]; omega⟩
              · have HD := hide hd
                go_wp2_with (first | (go_at_call 99; refine (usedD _ _).mono ?_; rintro e w2 ⟨rfl, hw2⟩; rw [hw2]; clear hw2 w2) | (at_builtin; refine wpList_append_own _ rfl _ _ 38 rfl (w.heap.size + 1) 2 i0 (.int .i64 0) 1 8 Tryd.underlying38 hi0 hz0 hz1 hz2 rfl (by decide) _ _ _ rfl (HOi.out.alloc _) ⟨wr.heap.size, 0, none⟩ 1 1 [.int .i64 P.dst] rfl rfl ?c1 ?c2 ?c3 ?c4 ?c5 ?_))
                case c1 =>
                  intro j u hj
                  match j, hj with
                  | 0, hj => simp at hj; subst hj; simp [Addr.add]
                case c2 => intro u hu; simp at hu; subst hu; rfl
                case c3 => unfold maxLen; omega
                case c4 => omega
                case c5 => simp; omega
                intro v1 w1 hown1 hgrow1 _
                have HO1 := hide hown1
                clear hown1
                go_wp2
                obtain ⟨q1, q2, q3, _⟩ := own_step hwi hszi hcelli _ HOi.out hgrow1
                exact ⟨⟨j + 1, by omega, by go_num, q1, q2, q3, by rw [h3.out, HD.out, if_pos rfl, ints_snoc]; simpa using HO1.out⟩, by simp [intOf]; omega⟩
            · have hE := hide (List.take_of_length_le (l := X.instrs) (i := j) (by omega))
              have HOi := hide howni
              clear howni
              go_wp2
              exact ⟨⟨k + 1, by omega, by go_num, hwi, hszi, hcelli, by have := HOi.out; rw [hE.out] at this; rw [hnx.out, ← List.append_assoc]; exact this⟩, by simp [intOf]; omega⟩
    · go_wp2
      go_ret
      have e := List.take_of_length_le (l := xs) (i := k) (by have := hx.out; omega)
      rw [e] at hown
      obtain ⟨a1, c1, rfl, hi1⟩ := ints_owned hown
      exact ⟨_, _, rfl, hw, hi1.mono (by omega) (Nat.le_refl _)⟩
end Go.Proofs.YtdcdgopblbmgoaaDoor
