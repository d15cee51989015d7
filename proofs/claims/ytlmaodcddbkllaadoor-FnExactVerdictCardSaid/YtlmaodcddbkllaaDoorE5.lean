import Derived.Test.YtlmaodcddbkllaaDoorE2
import Derived.Test.YtlmaodcddbkllaaDoorW7
/-
  l1PutInstr of the model.
-/
namespace Go.Proofs.YtlmaodcddbkllaaDoor
open Go.RowKit

def pick (x : Ins) (c : UInt8) : List Int := if c = 100 then [x.dst] else if c = 97 then [x.a] else if c = 98 then [x.b] else if c = 105 then [x.imm] else []
def picks (x : Ins) (l : List UInt8) : List Int := l.flatMap (pick x)
theorem picks_snoc (x : Ins) (l : List UInt8) (c : UInt8) : picks x (l ++ [c]) = picks x l ++ pick x c := by simp [picks]
theorem picks_len (x : Ins) (l : List UInt8) : (picks x l).length ≤ l.length := by
  induction l with
  | nil => simp [picks]
  | cons c r ih =>
    have : (pick x c).length ≤ 1 := by
      unfold pick
      repeat' split
      all_goals simp
    simp only [picks, List.flatMap_cons, List.length_append, List.length_cons] at ih ⊢; omega
theorem picks_in (x : Ins) (l : List UInt8) : ∀ v ∈ picks x l, v ∈ [x.dst, x.a, x.b, x.imm] := by
  intro v hv
  obtain ⟨c, -, h⟩ := List.mem_flatMap.1 hv
  unfold pick at h
  repeat' split at h
  all_goals simp at h
  all_goals simp [h]
/-- The letters as a list. -/
def lettersS (op : Int) : List UInt8 := (usesS op).data.toList
theorem letters_len (op : Int) : (lettersS op).length = (usesS op).size := by unfold lettersS; rw [Array.length_toList]; rfl
def insS (x : Ins) : List UInt8 := lineS (wordS x.op) (picks x (lettersS x.op))
theorem ints_snoc' (l : List Int) (v : Int) : (l ++ [v]).map (Value.int .i64) = l.map (Value.int .i64) ++ [Value.int .i64 v] := by simp

set_option maxHeartbeats 1000000 in
set_option maxRecDepth 100000 in
theorem putInstr_any (B : Nat) (u : Value) (xs : List UInt8) (x : Ins) (w : World) (hB : B ≤ w.heap.size) (hop : 1 ≤ x.op ∧ x.op ≤ 13)
    (ho : Hid (w.ownsRow B 5 1 u xs.length (bytesV xs))) (hn : Hid (u ≠ .slice none 0 0)) (hlen : Hid (xs.length + (insS x).length ≤ 1000000000000))
    (hin : Hid (∀ v ∈ [x.dst, x.a, x.b, x.imm], -9223372036854775807 ≤ v ∧ v ≤ 9223372036854775807)) :
    Calls Tryd.prog 142 #[u, .agg #[.int .i64 x.op, .int .i64 x.dst, .int .i64 x.a, .int .i64 x.b, .int .i64 x.imm]] w fun e w' => ∃ v, e = .returned v ∧ Gr w w' u v ∧ v ≠ .slice none 0 0 ∧ w'.ownsRow B 5 1 v (xs ++ insS x).length (bytesV (xs ++ insS x)) := by
  obtain ⟨i0, hi0, hz0, hz1, hz2⟩ := info_parts Tryd.info2'
  have HOP := hide hop
  clear hop
  have HS := hide (usesS_size x.op)
  go_enter Tryd.func142, Tryd.ntmps142
  go_wp2_with (go_at_call 171; refine (l1Uses_any _ _).mono ?_; rintro e w2 ⟨rfl, hw2⟩; rw [hw2]; clear hw2 w2)
  go_loopw [5, 7] (fun v i wr => ∃ k : Nat, k ≤ (usesS x.op).size ∧ i = .int .i64 k ∧ Hid (Below (w.heap.size + 1) (w.alloc (.cells #[.int .i64 x.op, .int .i64 x.dst, .int .i64 x.a, .int .i64 x.b, .int .i64 x.imm] 44)) wr) ∧ Hid (v ≠ .slice none 0 0) ∧ Hid (wr.ownsRow (w.heap.size + 1) 2 1 v (picks x ((lettersS x.op).take k)).length ((picks x ((lettersS x.op).take k)).map (Value.int .i64)))) (fun _ i _ => (usesS x.op).size - (intOf i).toNat)
  case atStart => exact ⟨0, Nat.zero_le _, rfl, hide ((Below.refl _ _).alloc (by simp) _), hide (by simp), hide (own_empty w _)⟩
  case round =>
    obtain ⟨k, hk, rfl, HB, HN, HO⟩ := hrel
    have hwz := HB.out.size
    have hwz : w.heap.size + 1 ≤ wr.heap.size := by simpa using hwz
    have c0 : wr.cell? ⟨w.heap.size, 0, none⟩ = some (.int .i64 x.op) := (HB.out.cell (p := ⟨w.heap.size, 0, none⟩) (Nat.lt_succ_self _)).trans (by simp)
    have c1 : wr.cell? ⟨w.heap.size, 1, none⟩ = some (.int .i64 x.dst) := (HB.out.cell (p := ⟨w.heap.size, 1, none⟩) (Nat.lt_succ_self _)).trans (by simp)
    have c2 : wr.cell? ⟨w.heap.size, 2, none⟩ = some (.int .i64 x.a) := (HB.out.cell (p := ⟨w.heap.size, 2, none⟩) (Nat.lt_succ_self _)).trans (by simp)
    have c3 : wr.cell? ⟨w.heap.size, 3, none⟩ = some (.int .i64 x.b) := (HB.out.cell (p := ⟨w.heap.size, 3, none⟩) (Nat.lt_succ_self _)).trans (by simp)
    have c4 : wr.cell? ⟨w.heap.size, 4, none⟩ = some (.int .i64 x.imm) := (HB.out.cell (p := ⟨w.heap.size, 4, none⟩) (Nat.lt_succ_self _)).trans (by simp)
    by_cases hlt : k < (usesS x.op).size
    · have hk3 : k < (lettersS x.op).length := by rw [letters_len]; exact hlt
      have hs3 : (usesS x.op).size ≤ 3 := HS.out
      have HL : Hid ((picks x ((lettersS x.op).take k)).length + 1 ≤ 1000) := hide (by have := picks_len x ((lettersS x.op).take k); simp only [List.length_take] at this; omega)
      by_cases hd : (lettersS x.op)[k] = 100
      · have HT : Hid (picks x ((lettersS x.op).take (k + 1)) = picks x ((lettersS x.op).take k) ++ [x.dst]) := hide (by rw [List.take_succ_eq_append_getElem hk3, picks_snoc, show (lettersS x.op)[k] = 100 from hd]; rfl)
        have hV : (((usesS x.op)[k]).toNat : Int) = 100 := by
          have e : (usesS x.op)[k]'hlt = 100 := hd
          exact congrArg (fun c : UInt8 => (c.toNat : Int)) e
        clear hd
        go_wp2_with (at_builtin; refine wpList_append_own_at _ rfl _ _ 40 rfl (w.heap.size + 1) 2 i0 (.int .i64 0) 1 8 Tryd.underlying40 hi0 hz0 hz1 hz2 rfl (by decide) _ _ _ rfl (HO.out.alloc _) ⟨wr.heap.size, 0, none⟩ 1 1 [.int .i64 x.dst] rfl rfl ?c1 ?c2 ?c3 ?c4 ?c5 ?_)
        case c1 => exact cell_one_new _ _ _
        case c2 => intro u hu; simp at hu; subst hu; rfl
        case c3 => have := HL.out; unfold maxLen; omega
        case c4 => have := HL.out; omega
        case c5 => simp; omega
        intro v1 w1 hown1 hgrow1 hne1 hat1
        have HO1 : Hid (w1.ownsRow (w.heap.size + 1) 2 1 v1 (picks x ((lettersS x.op).take (k + 1))).length ((picks x ((lettersS x.op).take (k + 1))).map (Value.int .i64))) := hide (by rw [HT.out, ints_snoc', List.length_append]; exact hown1)
        have HN1 := hide hne1
        have HB1 : Hid (Below (w.heap.size + 1) (w.alloc (.cells #[.int .i64 x.op, .int .i64 x.dst, .int .i64 x.a, .int .i64 x.b, .int .i64 x.imm] 44)) w1) := hide (grown_below ((HB.out).alloc (by omega) _) hgrow1 (HO.out.alloc _) (Nat.le_refl _) (by simp; omega))
        clear hown1 hgrow1 hne1 hat1
        go_wp2
        exact ⟨⟨k + 1, by omega, by go_num, HB1, HN1, HO1⟩, by simp [intOf]; omega⟩
      · skip
        by_cases ha : (lettersS x.op)[k] = 97
        · have HT : Hid (picks x ((lettersS x.op).take (k + 1)) = picks x ((lettersS x.op).take k) ++ [x.a]) := hide (by rw [List.take_succ_eq_append_getElem hk3, picks_snoc, show (lettersS x.op)[k] = 97 from ha]; rfl)
          have hV : (((usesS x.op)[k]).toNat : Int) = 97 := by
            have e : (usesS x.op)[k]'hlt = 97 := ha
            exact congrArg (fun c : UInt8 => (c.toNat : Int)) e
          clear ha
          go_wp2_with (at_builtin; refine wpList_append_own_at _ rfl _ _ 40 rfl (w.heap.size + 1) 2 i0 (.int .i64 0) 1 8 Tryd.underlying40 hi0 hz0 hz1 hz2 rfl (by decide) _ _ _ rfl (HO.out.alloc _) ⟨wr.heap.size, 0, none⟩ 1 1 [.int .i64 x.a] rfl rfl ?c1 ?c2 ?c3 ?c4 ?c5 ?_)
          case c1 => exact cell_one_new _ _ _
          case c2 => intro u hu; simp at hu; subst hu; rfl
          case c3 => have := HL.out; unfold maxLen; omega
          case c4 => have := HL.out; omega
          case c5 => simp; omega
          intro v1 w1 hown1 hgrow1 hne1 hat1
          have HO1 : Hid (w1.ownsRow (w.heap.size + 1) 2 1 v1 (picks x ((lettersS x.op).take (k + 1))).length ((picks x ((lettersS x.op).take (k + 1))).map (Value.int .i64))) := hide (by rw [HT.out, ints_snoc', List.length_append]; exact hown1)
          have HN1 := hide hne1
          have HB1 : Hid (Below (w.heap.size + 1) (w.alloc (.cells #[.int .i64 x.op, .int .i64 x.dst, .int .i64 x.a, .int .i64 x.b, .int .i64 x.imm] 44)) w1) := hide (grown_below ((HB.out).alloc (by omega) _) hgrow1 (HO.out.alloc _) (Nat.le_refl _) (by simp; omega))
          clear hown1 hgrow1 hne1 hat1
          go_wp2
          exact ⟨⟨k + 1, by omega, by go_num, HB1, HN1, HO1⟩, by simp [intOf]; omega⟩
        · skip
          by_cases hb : (lettersS x.op)[k] = 98
          · have HT : Hid (picks x ((lettersS x.op).take (k + 1)) = picks x ((lettersS x.op).take k) ++ [x.b]) := hide (by rw [List.take_succ_eq_append_getElem hk3, picks_snoc, show (lettersS x.op)[k] = 98 from hb]; rfl)
            have hV : (((usesS x.op)[k]).toNat : Int) = 98 := by
              have e : (usesS x.op)[k]'hlt = 98 := hb
              exact congrArg (fun c : UInt8 => (c.toNat : Int)) e
            clear hb
            go_wp2_with (at_builtin; refine wpList_append_own_at _ rfl _ _ 40 rfl (w.heap.size + 1) 2 i0 (.int .i64 0) 1 8 Tryd.underlying40 hi0 hz0 hz1 hz2 rfl (by decide) _ _ _ rfl (HO.out.alloc _) ⟨wr.heap.size, 0, none⟩ 1 1 [.int .i64 x.b] rfl rfl ?c1 ?c2 ?c3 ?c4 ?c5 ?_)
            case c1 => exact cell_one_new _ _ _
            case c2 => intro u hu; simp at hu; subst hu; rfl
            case c3 => have := HL.out; unfold maxLen; omega
            case c4 => have := HL.out; omega
            case c5 => simp; omega
            intro v1 w1 hown1 hgrow1 hne1 hat1
            have HO1 : Hid (w1.ownsRow (w.heap.size + 1) 2 1 v1 (picks x ((lettersS x.op).take (k + 1))).length ((picks x ((lettersS x.op).take (k + 1))).map (Value.int .i64))) := hide (by rw [HT.out, ints_snoc', List.length_append]; exact hown1)
            have HN1 := hide hne1
            have HB1 : Hid (Below (w.heap.size + 1) (w.alloc (.cells #[.int .i64 x.op, .int .i64 x.dst, .int .i64 x.a, .int .i64 x.b, .int .i64 x.imm] 44)) w1) := hide (grown_below ((HB.out).alloc (by omega) _) hgrow1 (HO.out.alloc _) (Nat.le_refl _) (by simp; omega))
            clear hown1 hgrow1 hne1 hat1
            go_wp2
            exact ⟨⟨k + 1, by omega, by go_num, HB1, HN1, HO1⟩, by simp [intOf]; omega⟩
          · skip
            by_cases hi : (lettersS x.op)[k] = 105
            · have HT : Hid (picks x ((lettersS x.op).take (k + 1)) = picks x ((lettersS x.op).take k) ++ [x.imm]) := hide (by rw [List.take_succ_eq_append_getElem hk3, picks_snoc, show (lettersS x.op)[k] = 105 from hi]; rfl)
              have hV : (((usesS x.op)[k]).toNat : Int) = 105 := by
                have e : (usesS x.op)[k]'hlt = 105 := hi
                exact congrArg (fun c : UInt8 => (c.toNat : Int)) e
              clear hi
              go_wp2_with (at_builtin; refine wpList_append_own_at _ rfl _ _ 40 rfl (w.heap.size + 1) 2 i0 (.int .i64 0) 1 8 Tryd.underlying40 hi0 hz0 hz1 hz2 rfl (by decide) _ _ _ rfl (HO.out.alloc _) ⟨wr.heap.size, 0, none⟩ 1 1 [.int .i64 x.imm] rfl rfl ?c1 ?c2 ?c3 ?c4 ?c5 ?_)
              case c1 => exact cell_one_new _ _ _
              case c2 => intro u hu; simp at hu; subst hu; rfl
              case c3 => have := HL.out; unfold maxLen; omega
              case c4 => have := HL.out; omega
              case c5 => simp; omega
              intro v1 w1 hown1 hgrow1 hne1 hat1
              have HO1 : Hid (w1.ownsRow (w.heap.size + 1) 2 1 v1 (picks x ((lettersS x.op).take (k + 1))).length ((picks x ((lettersS x.op).take (k + 1))).map (Value.int .i64))) := hide (by rw [HT.out, ints_snoc', List.length_append]; exact hown1)
              have HN1 := hide hne1
              have HB1 : Hid (Below (w.heap.size + 1) (w.alloc (.cells #[.int .i64 x.op, .int .i64 x.dst, .int .i64 x.a, .int .i64 x.b, .int .i64 x.imm] 44)) w1) := hide (grown_below ((HB.out).alloc (by omega) _) hgrow1 (HO.out.alloc _) (Nat.le_refl _) (by simp; omega))
              clear hown1 hgrow1 hne1 hat1
              go_wp2
              exact ⟨⟨k + 1, by omega, by go_num, HB1, HN1, HO1⟩, by simp [intOf]; omega⟩
            · skip
              have HT : Hid (picks x ((lettersS x.op).take (k + 1)) = picks x ((lettersS x.op).take k)) := hide (by rw [List.take_succ_eq_append_getElem hk3, picks_snoc]; unfold pick; rw [if_neg hd, if_neg ha, if_neg hb, if_neg hi, List.append_nil])
              have gd : ((((usesS x.op)[k]).toNat : Int) == 100) = false := by
                rw [beq_eq_false_iff_ne]; intro e; exact hd (UInt8.toNat_inj.1 (by have : (((lettersS x.op)[k]).toNat : Int) = 100 := e; show _ = 100; omega))
              have ga : ((((usesS x.op)[k]).toNat : Int) == 97) = false := by
                rw [beq_eq_false_iff_ne]; intro e; exact ha (UInt8.toNat_inj.1 (by have : (((lettersS x.op)[k]).toNat : Int) = 97 := e; show _ = 97; omega))
              have gb : ((((usesS x.op)[k]).toNat : Int) == 98) = false := by
                rw [beq_eq_false_iff_ne]; intro e; exact hb (UInt8.toNat_inj.1 (by have : (((lettersS x.op)[k]).toNat : Int) = 98 := e; show _ = 98; omega))
              have gi : ((((usesS x.op)[k]).toNat : Int) == 105) = false := by
                rw [beq_eq_false_iff_ne]; intro e; exact hi (UInt8.toNat_inj.1 (by have : (((lettersS x.op)[k]).toNat : Int) = 105 := e; show _ = 105; omega))
              clear hd ha hb hi
              have HO1 : Hid (wr.ownsRow (w.heap.size + 1) 2 1 u5 (picks x ((lettersS x.op).take (k + 1))).length ((picks x ((lettersS x.op).take (k + 1))).map (Value.int .i64))) := hide (by rw [HT.out]; exact HO.out)
              go_wp2
              exact ⟨⟨k + 1, by omega, by go_num, HB, HN, HO1⟩, by simp [intOf]; omega⟩
    · have HO2 : Hid (wr.ownsRow (w.heap.size + 1) 2 1 u5 (picks x (lettersS x.op)).length ((picks x (lettersS x.op)).map (Value.int .i64))) := hide (by have := HO.out; rwa [List.take_of_length_le (by rw [letters_len]; omega)] at this)
      obtain ⟨a5, c5, rfl, hI⟩ := ints_owned HO2.out
      have HI := hide hI
      clear hI
      have HW : Hid (Below w.heap.size w wr) := hide ((balloc (Below.refl w.heap.size w) _).trans (HB.out.mono (Nat.le_succ _)))
      have HOW := hide (own_calm ho.out HW.out)
      have HAP : Hid (∀ g, u.ownBlock = some g → g < w.heap.size + 1 ∨ wr.heap.size ≤ g) := hide (fun g hg => Or.inl (by have := (ho.out.lt g hg).2; omega))
      have HIN : Hid (∀ v ∈ picks x (lettersS x.op), -9223372036854775807 ≤ v ∧ v ≤ 9223372036854775807) := hide (fun v h => hin.out v (picks_in x _ v h))
      go_wp2_with (first | (go_at_call 190; refine (l1Word_any _ HOP.out _).mono ?_; rintro e w2 ⟨rfl, hw2⟩; rw [hw2]; clear hw2 w2) | (go_at_call 141; refine (putLine_any B u xs (wordS x.op) a5 _ c5 _ (w.heap.size + 1) wr.heap.size wr (by omega) HOW hn hlen HI (Nat.le_refl _) HAP (hide rfl) HIN).mono ?_; rintro e w3 ⟨x3, rfl, hg3, hn3, ho3⟩))
      have HG3 : Hid (Gr w w3 u x3) := hide ((Gr.calm HW.out _).trans hg3)
      have HN3 := hide hn3
      have HO3 := hide ho3
      clear hg3 hn3 ho3
      go_wp2
      go_ret
      exact ⟨_, rfl, HG3.out, HN3.out, HO3.out⟩
end Go.Proofs.YtlmaodcddbkllaaDoor

/-
  The text of a function, pure, and how long it can be.
-/
namespace Go.Proofs.YtlmaodcddbkllaaDoor
open Go.RowKit

/-- A number whose negation is a number too. -/
def InB (v : Int) : Prop := -9223372036854775807 ≤ v ∧ v ≤ 9223372036854775807

theorem dec_len_pow (k : Nat) : ∀ u, u < 10 ^ (k + 1) → (Lib.decDigits u).length ≤ k + 1 := by
  induction k with
  | zero => intro u h; rw [Lib.decDigits_one (by simpa using h)]; simp
  | succ k ih =>
    intro u h
    by_cases h10 : u < 10
    · rw [Lib.decDigits_one h10]; simp
    · rw [dec_ten h10, List.length_append, List.length_singleton]
      have := ih (u / 10) (by rw [Nat.pow_succ] at h; omega)
      omega
theorem itoa_len (v : Int) (h : InB v) : (Lib.itoa v).length ≤ 20 := by
  unfold InB at h
  unfold Lib.itoa
  by_cases h0 : v < 0
  · rw [if_pos h0, List.length_cons]
    have := dec_len_pow 18 v.natAbs (by omega)
    omega
  · rw [if_neg h0]
    have := dec_len_pow 18 v.toNat (by omega)
    omega
theorem numsS_le (vs : List Int) (h : ∀ v ∈ vs, InB v) : (numsS vs).length ≤ 21 * vs.length := by
  induction vs with
  | nil => simp [numsS]
  | cons x r ih =>
    have h1 := itoa_len x (h x (List.mem_cons_self ..))
    have h2 := ih (fun v hv => h v (List.mem_cons_of_mem _ hv))
    simp only [numsS, List.length_cons, List.length_append]; omega
theorem lineS_le (word : List UInt8) (vs : List Int) (h : ∀ v ∈ vs, InB v) : (lineS word vs).length ≤ word.length + 21 * vs.length + 1 := by
  have := numsS_le vs h
  simp only [lineS, List.length_append, List.length_singleton]; omega

def phiS (p : Ph) : List UInt8 := lineS [112, 104, 105] (p.dst :: p.args)
def blkS (x : Blk) : List UInt8 := lineS [98, 108, 111, 99, 107] [] ++ (x.phis.flatMap phiS ++ (x.instrs.flatMap insS ++ termS x.term))
def rawS (F : Fn) : List UInt8 := lineS [102, 117, 110, 99] [F.values] ++ F.blocks.flatMap blkS

/-- All numbers of a block are such. -/
structure BlkIn (x : Blk) : Prop where
  phis : ∀ p ∈ x.phis, ∀ v ∈ p.dst :: p.args, InB v
  instrs : ∀ i ∈ x.instrs, ∀ v ∈ [i.dst, i.a, i.b, i.imm], InB v
  term : ∀ v ∈ [x.term.a, x.term.to, x.term.els], InB v

theorem wordS_len (op : Int) : (wordS op).length ≤ 5 := by
  by_cases h : 1 ≤ op ∧ op ≤ 13
  · have hc : op = 1 ∨ op = 2 ∨ op = 3 ∨ op = 4 ∨ op = 5 ∨ op = 6 ∨ op = 7 ∨ op = 8 ∨ op = 9 ∨ op = 10 ∨ op = 11 ∨ op = 12 ∨ op = 13 := by omega
    rcases hc with rfl | rfl | rfl | rfl | rfl | rfl | rfl | rfl | rfl | rfl | rfl | rfl | rfl <;> decide
  · unfold wordS
    rw [if_neg (by omega), if_neg (by omega), if_neg (by omega), if_neg (by omega), if_neg (by omega), if_neg (by omega), if_neg (by omega), if_neg (by omega), if_neg (by omega), if_neg (by omega), if_neg (by omega), if_neg (by omega)]
    decide
theorem insS_le (x : Ins) (h : ∀ v ∈ [x.dst, x.a, x.b, x.imm], InB v) : (insS x).length ≤ 100 := by
  have h1 := lineS_le (wordS x.op) (picks x (lettersS x.op)) (fun v hv => h v (picks_in x _ v hv))
  have h2 := picks_len x (lettersS x.op)
  have h3 := letters_len x.op
  have h4 := usesS_size x.op
  have h5 := wordS_len x.op
  unfold insS; omega
theorem termS_le (t : Ter) (h : ∀ v ∈ [t.a, t.to, t.els], InB v) : (termS t).length ≤ 90 := by
  unfold termS
  have h1 := lineS_le [106, 117, 109, 112] [t.to] (fun v hv => h v (by simp at hv ⊢; omega))
  have h2 := lineS_le [114, 101, 116] [t.a] (fun v hv => h v (by simp at hv ⊢; omega))
  have h3 := lineS_le [98, 114, 97, 110, 99, 104] [t.a, t.to, t.els] h
  simp only [List.length_cons, List.length_nil] at h1 h2 h3
  repeat' split
  all_goals omega
theorem phisS_le (ps : List Ph) (h : ∀ p ∈ ps, ∀ v ∈ p.dst :: p.args, InB v) : (ps.flatMap phiS).length ≤ 100 * (ps.length + phTot ps) := by
  induction ps with
  | nil => simp
  | cons p r ih =>
    have h1 := lineS_le [112, 104, 105] (p.dst :: p.args) (h p (List.mem_cons_self ..))
    have h2 := ih (fun q hq => h q (List.mem_cons_of_mem _ hq))
    have h3 : phTot (p :: r) = p.args.length + phTot r := by simp [phTot]
    rw [h3, List.flatMap_cons, List.length_append]
    unfold phiS at h2 ⊢
    simp only [List.length_cons, List.length_nil] at h1 ⊢; omega
theorem inssS_le (is : List Ins) (h : ∀ i ∈ is, ∀ v ∈ [i.dst, i.a, i.b, i.imm], InB v) : (is.flatMap insS).length ≤ 100 * is.length := by
  induction is with
  | nil => simp
  | cons p r ih =>
    have h1 := insS_le p (h p (List.mem_cons_self ..))
    have h2 := ih (fun q hq => h q (List.mem_cons_of_mem _ hq))
    simp only [List.flatMap_cons, List.length_append, List.length_cons]; omega
theorem blkS_le (x : Blk) (h : BlkIn x) : (blkS x).length ≤ 100 * (blkTot x + 1) := by
  have h1 := phisS_le x.phis h.phis
  have h2 := inssS_le x.instrs h.instrs
  have h3 := termS_le x.term h.term
  have h4 : (lineS [98, 108, 111, 99, 107] []).length = 6 := rfl
  unfold blkS blkTot
  rw [List.length_append, List.length_append, List.length_append, h4]; omega
theorem blksS_le (xs : List Blk) (h : ∀ x ∈ xs, BlkIn x) : (xs.flatMap blkS).length ≤ 100 * (blksTot xs + xs.length) := by
  induction xs with
  | nil => simp
  | cons p r ih =>
    have h1 := blkS_le p (h p (List.mem_cons_self ..))
    have h2 := ih (fun q hq => h q (List.mem_cons_of_mem _ hq))
    have h3 : blksTot (p :: r) = blkTot p + blksTot r := by simp [blksTot]
    rw [h3, List.flatMap_cons, List.length_append, List.length_cons]; omega
theorem rawS_le (F : Fn) (hv : InB F.values) (h : ∀ x ∈ F.blocks, BlkIn x) : (rawS F).length ≤ 100 * (blksTot F.blocks + F.blocks.length + 1) := by
  have h1 := blksS_le F.blocks h
  have h2 := lineS_le [102, 117, 110, 99] [F.values] (fun v hv' => by simp at hv'; exact hv' ▸ hv)
  simp only [List.length_cons, List.length_nil] at h2
  unfold rawS
  rw [List.length_append]; omega
end Go.Proofs.YtlmaodcddbkllaaDoor

namespace Go.Proofs.YtlmaodcddbkllaaDoor
open Go.RowKit

theorem phDefs_snoc (ps : List Ph) (p : Ph) : phDefs (ps ++ [p]) = phDefs ps ++ [p.dst] := by simp [phDefs]
theorem insDefs_snoc (ps : List Ins) (p : Ins) : insDefs (ps ++ [p]) = insDefs ps ++ (if dB p.op then [p.dst] else []) := by
  simp only [insDefs, List.filter_append, List.map_append]
  congr 1
  cases h : dB p.op <;> simp [h]
theorem blksDefs_snoc (ps : List Blk) (p : Blk) : blksDefs (ps ++ [p]) = blksDefs ps ++ blkDefs p := by simp [blksDefs]
theorem insDefs_len (xs : List Ins) : (insDefs xs).length ≤ xs.length := by simp only [insDefs, List.length_map]; exact List.length_filter_le _ _
theorem blksDefs_len (xs : List Blk) : (blksDefs xs).length ≤ blksTot xs := by
  induction xs with
  | nil => simp [blksDefs]
  | cons x xs ih =>
    have h1 : blksDefs (x :: xs) = blkDefs x ++ blksDefs xs := by simp [blksDefs]
    have h2 : blksTot (x :: xs) = blkTot x + blksTot xs := by simp [blksTot]
    have h3 : (blkDefs x).length ≤ blkTot x := by
      simp only [blkDefs, phDefs, List.length_append, List.length_map, blkTot]
      have := insDefs_len x.instrs
      omega
    rw [h1, h2, List.length_append]
    omega

theorem own_step {w wr w1 : World} {u : Value} {n : Nat} {xs : List Value} {a : Option Addr} {N c : Nat} (hw : Below w.heap.size w wr) (hsz : w.heap.size < wr.heap.size) (hcell : wr.cell? ⟨w.heap.size, 1, none⟩ = some (.slice a N c))
    (o : Obj) (hown : wr.ownsRow (w.heap.size + 1) 2 1 u n xs) (hg : (wr.alloc o).grownBy w1 u.ownBlock) :
    Below w.heap.size w w1 ∧ w.heap.size < w1.heap.size ∧ w1.cell? ⟨w.heap.size, 1, none⟩ = some (.slice a N c) ∧ wr.heap.size ≤ w1.heap.size := by
  have hz := hg.size
  simp at hz
  refine ⟨grown_below (balloc hw _) hg (hown.alloc _) (by omega) (by simp; omega), by omega, ?_, by omega⟩
  exact (cell_of (grown_block hg (hown.alloc _) (b := w.heap.size) (by omega) (by simp; omega))).trans (((balloc (Below.refl wr.heap.size wr) _).cell (p := ⟨w.heap.size, 1, none⟩) hsz).trans hcell)

set_option maxHeartbeats 2000000 in
theorem l1Defs_any (v : Int) (a : Option Addr) (n c : Nat) (xs : List Blk) (L B : Nat) (w : World) (ha : Hid (BlksAt w L B a xs)) (hx : Hid (n = xs.length)) (hn : n ≤ 1048576) (hs : Hid (blksTot xs ≤ 1048576)) (hB : B ≤ w.heap.size) :
    Calls Tryd.prog 56 #[.agg #[.int .i64 v, .slice a n c]] w fun e w' => ∃ a' c', e = .returned (.slice a' (blksDefs xs).length c') ∧ Below w.heap.size w w' ∧ IntsAt w' w.heap.size w'.heap.size a' (blksDefs xs) := by
  obtain ⟨i0, hi0, hz0, hz1, hz2⟩ := info_parts Tryd.info2'
  go_enter Tryd.func56, Tryd.ntmps56
  go_wp2
  go_loopw [3, 4] (fun u i wr => ∃ k : Nat, k ≤ n ∧ i = .int .i64 k ∧ Below w.heap.size w wr ∧ w.heap.size < wr.heap.size ∧ wr.cell? ⟨w.heap.size, 1, none⟩ = some (.slice a n c) ∧ wr.ownsRow (w.heap.size + 1) 2 1 u (blksDefs (xs.take k)).length ((blksDefs (xs.take k)).map (Value.int .i64))) (fun _ i _ => n - (intOf i).toNat)
  case atStart => exact ⟨0, Nat.zero_le _, rfl, balloc (balloc (Below.refl _ _) _) _, by simp; omega, by simp, own_empty _ _⟩
  case round =>
    obtain ⟨k, hk, rfl, hw, hsz, hcell, hown⟩ := hrel
    by_cases hlt : k < n
    · have hkx : k < xs.length := by have := hx.out; omega
      obtain ⟨b, o, rfl, ⟨_, hbB⟩, hc⟩ := ha.out k hkx
      have HC := hide hc
      have hnx : Hid (blksDefs (xs.take (k + 1)) = blksDefs (xs.take k) ++ (phDefs xs[k].phis ++ insDefs xs[k].instrs)) := by
        show _ = _
        rw [take_next _ _ hkx, blksDefs_snoc]; rfl
      have hbd : (blksDefs (xs.take k)).length + (xs[k].phis.length + phTot xs[k].phis + xs[k].instrs.length) ≤ 1048576 := by
        have h1 := blksTot_take xs (k + 1)
        rw [take_next _ _ hkx, blksTot_snoc] at h1
        have h2 := blksDefs_len (xs.take k)
        have h3 := hs.out
        have h4 : blkTot xs[k] = xs[k].phis.length + phTot xs[k].phis + xs[k].instrs.length := rfl
        omega
      have hpl : xs[k].phis.length ≤ 1048576 := by omega
      have hil : xs[k].instrs.length ≤ 1048576 := by omega
      have HO := hide hown
      clear hown hc
      generalize hX : xs[k] = X at *
      clear hX
      generalize blksDefs (xs.take k) = D at *
      obtain ⟨pa, pc, ia, ic, e0, e1, _, hp, hi⟩ := HC.out
      have HP := hide hp
      have HI := hide hi
      have E0 := hide e0
      have E1 := hide e1
      clear e0 e1 hp hi HC
      go_wp2
      go_loopw [3, 5] (fun u i wi => ∃ j : Nat, j ≤ X.phis.length ∧ i = .int .i64 j ∧ Below w.heap.size w wi ∧ w.heap.size < wi.heap.size ∧ wi.cell? ⟨w.heap.size, 1, none⟩ = some (.slice (some ⟨b, o, none⟩) n c) ∧ wi.ownsRow (w.heap.size + 1) 2 1 u (D ++ phDefs (X.phis.take j)).length ((D ++ phDefs (X.phis.take j)).map (Value.int .i64))) (fun _ i _ => X.phis.length - (intOf i).toNat)
      case atStart => exact ⟨0, Nat.zero_le _, rfl, hw, hsz, hcell, by simpa [phDefs] using HO.out⟩
      case round =>
        obtain ⟨j, hj, rfl, hwi, hszi, hcelli, howni⟩ := hrel
        have f0 := (hwi.cell (p := ⟨b, o + k * 6, none⟩) (by show b < _; omega)).trans E0.out
        have f1 := (hwi.cell (p := ⟨b, o + k * 6 + 1, none⟩) (by show b < _; omega)).trans E1.out
        by_cases hjt : j < X.phis.length
        · obtain ⟨b', o', rfl, ⟨_, hbB'⟩, aa, cc, g0, g1, _⟩ := HP.out j hjt
          have e2 := (hwi.cell (p := ⟨b', o' + j * 2, none⟩) (by show b' < _; omega)).trans g0
          have h3 : Hid (D ++ phDefs (X.phis.take (j + 1)) = (D ++ phDefs (X.phis.take j)) ++ [X.phis[j].dst]) := by show _ = _; rw [take_next _ _ hjt, phDefs_snoc, List.append_assoc]
          have hl : (D ++ phDefs (X.phis.take j)).length ≤ 1048576 := by simp [phDefs]; omega
          clear g0 g1
          generalize X.phis[j] = P at *
          generalize D ++ phDefs (X.phis.take j) = D1 at *
          have HOi := hide howni
          clear howni f1
          go_wp2_with (at_builtin; refine wpList_append_own _ rfl _ _ 40 rfl (w.heap.size + 1) 2 i0 (.int .i64 0) 1 8 Tryd.underlying40 hi0 hz0 hz1 hz2 rfl (by decide) _ _ _ rfl (HOi.out.alloc _) ⟨wr.heap.size, 0, none⟩ 1 1 [.int .i64 P.dst] rfl rfl ?c1 ?c2 ?c3 ?c4 ?c5 ?_)
          case c1 =>
            intro j u hj
            match j, hj with
            | 0, hj => simp at hj; subst hj; simp [Addr.add]
          case c2 => intro u hu; simp at hu; subst hu; rfl
          case c3 => unfold maxLen; omega
          case c4 => omega
          case c5 => simp; omega
          intro v1 w1 hown1 hgrow1 _
          have HO1 := hide hown1
          clear hown1
          go_wp2
          obtain ⟨q1, q2, q3, _⟩ := own_step hwi hszi hcelli _ HOi.out hgrow1
          exact ⟨⟨j + 1, by omega, by go_num, q1, q2, q3, by rw [h3.out, ints_snoc]; simpa using HO1.out⟩, by simp [intOf]; omega⟩
        · have hE := hide (List.take_of_length_le (l := X.phis) (i := j) (by omega))
          have HOi := hide howni
          clear howni
          go_wp2
          go_loopw [3, 6] (fun u i wi => ∃ j : Nat, j ≤ X.instrs.length ∧ i = .int .i64 j ∧ Below w.heap.size w wi ∧ w.heap.size < wi.heap.size ∧ wi.cell? ⟨w.heap.size, 1, none⟩ = some (.slice (some ⟨b, o, none⟩) n c) ∧ wi.ownsRow (w.heap.size + 1) 2 1 u (D ++ phDefs X.phis ++ insDefs (X.instrs.take j)).length ((D ++ phDefs X.phis ++ insDefs (X.instrs.take j)).map (Value.int .i64))) (fun _ i _ => X.instrs.length - (intOf i).toNat)
          case atStart => exact ⟨0, Nat.zero_le _, rfl, hwi, hszi, hcelli, by have := HOi.out; rw [hE.out] at this; simpa [insDefs] using this⟩
          case round =>
            clear hwi hszi hcelli f0 f1 HOi hE
            obtain ⟨j, hj, rfl, hwi, hszi, hcelli, howni⟩ := hrel
            have f1 := (hwi.cell (p := ⟨b, o + k * 6 + 1, none⟩) (by show b < _; omega)).trans E1.out
            by_cases hjt : j < X.instrs.length
            · obtain ⟨b', o', rfl, ⟨_, hbB'⟩, g0, g1, _, _, _⟩ := HI.out j hjt
              have e2 := (hwi.cell (p := ⟨b', o' + j * 5, none⟩) (by show b' < _; omega)).trans g0
              have e3 := (hwi.cell (p := ⟨b', o' + j * 5 + 1, none⟩) (by show b' < _; omega)).trans g1
              have h3 : Hid (D ++ phDefs X.phis ++ insDefs (X.instrs.take (j + 1)) = (D ++ phDefs X.phis ++ insDefs (X.instrs.take j)) ++ (if dB X.instrs[j].op then [X.instrs[j].dst] else [])) := by show _ = _; rw [take_next _ _ hjt, insDefs_snoc, ← List.append_assoc]
              have hl : (D ++ phDefs X.phis ++ insDefs (X.instrs.take j)).length ≤ 1048576 := by have := insDefs_len (X.instrs.take j); simp [phDefs] at this ⊢; omega
              clear g0 g1
              generalize X.instrs[j] = P at *
              generalize D ++ phDefs X.phis ++ insDefs (X.instrs.take j) = D1 at *
              have HOi := hide howni
              clear howni
              cases hd : dB P.op
              · have HD := hide hd
                go_wp2_with (go_at_call 119; refine (usedD _ _).mono ?_; rintro e w2 ⟨rfl, hw2⟩; rw [hw2]; clear hw2 w2)
                exact ⟨⟨j + 1, by omega, by go_num, hwi, hszi, hcelli, by rw [h3.out, HD.out]; simpa using HOi.out⟩, by simp [intOf]; omega⟩
              · have HD := hide hd
                go_wp2_with (first | (go_at_call 119; refine (usedD _ _).mono ?_; rintro e w2 ⟨rfl, hw2⟩; rw [hw2]; clear hw2 w2) | (at_builtin; refine wpList_append_own _ rfl _ _ 40 rfl (w.heap.size + 1) 2 i0 (.int .i64 0) 1 8 Tryd.underlying40 hi0 hz0 hz1 hz2 rfl (by decide) _ _ _ rfl (HOi.out.alloc _) ⟨wr.heap.size, 0, none⟩ 1 1 [.int .i64 P.dst] rfl rfl ?c1 ?c2 ?c3 ?c4 ?c5 ?_))
                case c1 =>
                  intro j u hj
                  match j, hj with
                  | 0, hj => simp at hj; subst hj; simp [Addr.add]
                case c2 => intro u hu; simp at hu; subst hu; rfl
                case c3 => unfold maxLen; omega
                case c4 => omega
                case c5 => simp; omega
                intro v1 w1 hown1 hgrow1 _
                have HO1 := hide hown1
                clear hown1
                go_wp2
                obtain ⟨q1, q2, q3, _⟩ := own_step hwi hszi hcelli _ HOi.out hgrow1
                exact ⟨⟨j + 1, by omega, by go_num, q1, q2, q3, by rw [h3.out, HD.out, if_pos rfl, ints_snoc]; simpa using HO1.out⟩, by simp [intOf]; omega⟩
            · have hE := hide (List.take_of_length_le (l := X.instrs) (i := j) (by omega))
              have HOi := hide howni
              clear howni
              go_wp2
              exact ⟨⟨k + 1, by omega, by go_num, hwi, hszi, hcelli, by have := HOi.out; rw [hE.out] at this; rw [hnx.out, ← List.append_assoc]; exact this⟩, by simp [intOf]; omega⟩
    · go_wp2
      go_ret
      have e := List.take_of_length_le (l := xs) (i := k) (by have := hx.out; omega)
      rw [e] at hown
      obtain ⟨a1, c1, rfl, hi1⟩ := ints_owned hown
      exact ⟨_, _, rfl, hw, hi1.mono (by omega) (Nat.le_refl _)⟩
end Go.Proofs.YtlmaodcddbkllaaDoor
