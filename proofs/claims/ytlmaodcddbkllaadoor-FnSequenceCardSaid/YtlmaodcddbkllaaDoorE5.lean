import Derived.Test.YtlmaodcddbkllaaDoorE4
/-
  l1PutInstr of the model.
-/
namespace Go.Proofs.YtlmaodcddbkllaaDoor
open Go.RowKit

def pick (x : Ins) (c : UInt8) : List Int := if c = 100 then [x.dst] else if c = 97 then [x.a] else if c = 98 then [x.b] else if c = 105 then [x.imm] else []
def picks (x : Ins) (l : List UInt8) : List Int := l.flatMap (pick x)
theorem picks_snoc (x : Ins) (l : List UInt8) (c : UInt8) : picks x (l ++ [c]) = picks x l ++ pick x c := by simp [picks]
theorem picks_len (x : Ins) (l : List UInt8) : (picks x l).length ≤ l.length := by
  induction l with
  | nil => simp [picks]
  | cons c r ih =>
    have : (pick x c).length ≤ 1 := by
      unfold pick
      repeat' split
      all_goals simp
    simp only [picks, List.flatMap_cons, List.length_append, List.length_cons] at ih ⊢; omega
theorem picks_in (x : Ins) (l : List UInt8) : ∀ v ∈ picks x l, v ∈ [x.dst, x.a, x.b, x.imm] := by
  intro v hv
  obtain ⟨c, -, h⟩ := List.mem_flatMap.1 hv
  unfold pick at h
  repeat' split at h
  all_goals simp at h
  all_goals simp [h]
/-- The letters as a list. -/
def lettersS (op : Int) : List UInt8 := (usesS op).data.toList
theorem letters_len (op : Int) : (lettersS op).length = (usesS op).size := by unfold lettersS; rw [Array.length_toList]; rfl
def insS (x : Ins) : List UInt8 := lineS (wordS x.op) (picks x (lettersS x.op))
theorem ints_snoc' (l : List Int) (v : Int) : (l ++ [v]).map (Value.int .i64) = l.map (Value.int .i64) ++ [Value.int .i64 v] := by simp

set_option maxHeartbeats 1000000 in
set_option maxRecDepth 100000 in
theorem putInstr_any (B : Nat) (u : Value) (xs : List UInt8) (x : Ins) (w : World) (hB : B ≤ w.heap.size) (hop : 1 ≤ x.op ∧ x.op ≤ 13)
    (ho : Hid (w.ownsRow B 5 1 u xs.length (bytesV xs))) (hn : Hid (u ≠ .slice none 0 0)) (hlen : Hid (xs.length + (insS x).length ≤ 1000000000000))
    (hin : Hid (∀ v ∈ [x.dst, x.a, x.b, x.imm], -9223372036854775807 ≤ v ∧ v ≤ 9223372036854775807)) :
    Calls Tryd.prog 142 #[u, .agg #[.int .i64 x.op, .int .i64 x.dst, .int .i64 x.a, .int .i64 x.b, .int .i64 x.imm]] w fun e w' => ∃ v, e = .returned v ∧ Gr w w' u v ∧ v ≠ .slice none 0 0 ∧ w'.ownsRow B 5 1 v (xs ++ insS x).length (bytesV (xs ++ insS x)) := by
  obtain ⟨i0, hi0, hz0, hz1, hz2⟩ := info_parts Tryd.info2'
  have HOP := hide hop
  clear hop
  have HS := hide (usesS_size x.op)
  go_enter Tryd.func142, Tryd.ntmps142
  go_wp2_with (go_at_call 171; refine (l1Uses_any _ _).mono ?_; rintro e w2 ⟨rfl, hw2⟩; rw [hw2]; clear hw2 w2)
  go_loopw [5, 7] (fun v i wr => ∃ k : Nat, k ≤ (usesS x.op).size ∧ i = .int .i64 k ∧ Hid (Below (w.heap.size + 1) (w.alloc (.cells #[.int .i64 x.op, .int .i64 x.dst, .int .i64 x.a, .int .i64 x.b, .int .i64 x.imm] 44)) wr) ∧ Hid (v ≠ .slice none 0 0) ∧ Hid (wr.ownsRow (w.heap.size + 1) 2 1 v (picks x ((lettersS x.op).take k)).length ((picks x ((lettersS x.op).take k)).map (Value.int .i64)))) (fun _ i _ => (usesS x.op).size - (intOf i).toNat)
  case atStart => exact ⟨0, Nat.zero_le _, rfl, hide ((Below.refl _ _).alloc (by simp) _), hide (by simp), hide (own_empty w _)⟩
  case round =>
    obtain ⟨k, hk, rfl, HB, HN, HO⟩ := hrel
    have hwz := HB.out.size
    have hwz : w.heap.size + 1 ≤ wr.heap.size := by simpa using hwz
    have c0 : wr.cell? ⟨w.heap.size, 0, none⟩ = some (.int .i64 x.op) := (HB.out.cell (p := ⟨w.heap.size, 0, none⟩) (Nat.lt_succ_self _)).trans (by simp)
    have c1 : wr.cell? ⟨w.heap.size, 1, none⟩ = some (.int .i64 x.dst) := (HB.out.cell (p := ⟨w.heap.size, 1, none⟩) (Nat.lt_succ_self _)).trans (by simp)
    have c2 : wr.cell? ⟨w.heap.size, 2, none⟩ = some (.int .i64 x.a) := (HB.out.cell (p := ⟨w.heap.size, 2, none⟩) (Nat.lt_succ_self _)).trans (by simp)
    have c3 : wr.cell? ⟨w.heap.size, 3, none⟩ = some (.int .i64 x.b) := (HB.out.cell (p := ⟨w.heap.size, 3, none⟩) (Nat.lt_succ_self _)).trans (by simp)
    have c4 : wr.cell? ⟨w.heap.size, 4, none⟩ = some (.int .i64 x.imm) := (HB.out.cell (p := ⟨w.heap.size, 4, none⟩) (Nat.lt_succ_self _)).trans (by simp)
    by_cases hlt : k < (usesS x.op).size
    · have hk3 : k < (lettersS x.op).length := by rw [letters_len]; exact hlt
      have hs3 : (usesS x.op).size ≤ 3 := HS.out
      have HL : Hid ((picks x ((lettersS x.op).take k)).length + 1 ≤ 1000) := hide (by have := picks_len x ((lettersS x.op).take k); simp only [List.length_take] at this; omega)
      by_cases hd : (lettersS x.op)[k] = 100
      · have HT : Hid (picks x ((lettersS x.op).take (k + 1)) = picks x ((lettersS x.op).take k) ++ [x.dst]) := hide (by rw [List.take_succ_eq_append_getElem hk3, picks_snoc, show (lettersS x.op)[k] = 100 from hd]; rfl)
        have hV : (((usesS x.op)[k]).toNat : Int) = 100 := by
          have e : (usesS x.op)[k]'hlt = 100 := hd
          exact congrArg (fun c : UInt8 => (c.toNat : Int)) e
        clear hd
        go_wp2_with (at_builtin; refine wpList_append_own_at _ rfl _ _ 40 rfl (w.heap.size + 1) 2 i0 (.int .i64 0) 1 8 Tryd.underlying40 hi0 hz0 hz1 hz2 rfl (by decide) _ _ _ rfl (HO.out.alloc _) ⟨wr.heap.size, 0, none⟩ 1 1 [.int .i64 x.dst] rfl rfl ?c1 ?c2 ?c3 ?c4 ?c5 ?_)
        case c1 => exact cell_one_new _ _ _
        case c2 => intro u hu; simp at hu; subst hu; rfl
        case c3 => have := HL.out; unfold maxLen; omega
        case c4 => have := HL.out; omega
        case c5 => simp; omega
        intro v1 w1 hown1 hgrow1 hne1 hat1
        have HO1 : Hid (w1.ownsRow (w.heap.size + 1) 2 1 v1 (picks x ((lettersS x.op).take (k + 1))).length ((picks x ((lettersS x.op).take (k + 1))).map (Value.int .i64))) := hide (by rw [HT.out, ints_snoc', List.length_append]; exact hown1)
        have HN1 := hide hne1
        have HB1 : Hid (Below (w.heap.size + 1) (w.alloc (.cells #[.int .i64 x.op, .int .i64 x.dst, .int .i64 x.a, .int .i64 x.b, .int .i64 x.imm] 44)) w1) := hide (grown_below ((HB.out).alloc (by omega) _) hgrow1 (HO.out.alloc _) (Nat.le_refl _) (by simp; omega))
        clear hown1 hgrow1 hne1 hat1
        go_wp2
        exact ⟨⟨k + 1, by omega, by go_num, HB1, HN1, HO1⟩, by simp [intOf]; omega⟩
      · skip
        by_cases ha : (lettersS x.op)[k] = 97
        · have HT : Hid (picks x ((lettersS x.op).take (k + 1)) = picks x ((lettersS x.op).take k) ++ [x.a]) := hide (by rw [List.take_succ_eq_append_getElem hk3, picks_snoc, show (lettersS x.op)[k] = 97 from ha]; rfl)
          have hV : (((usesS x.op)[k]).toNat : Int) = 97 := by
            have e : (usesS x.op)[k]'hlt = 97 := ha
            exact congrArg (fun c : UInt8 => (c.toNat : Int)) e
          clear ha
          go_wp2_with (at_builtin; refine wpList_append_own_at _ rfl _ _ 40 rfl (w.heap.size + 1) 2 i0 (.int .i64 0) 1 8 Tryd.underlying40 hi0 hz0 hz1 hz2 rfl (by decide) _ _ _ rfl (HO.out.alloc _) ⟨wr.heap.size, 0, none⟩ 1 1 [.int .i64 x.a] rfl rfl ?c1 ?c2 ?c3 ?c4 ?c5 ?_)
          case c1 => exact cell_one_new _ _ _
          case c2 => intro u hu; simp at hu; subst hu; rfl
          case c3 => have := HL.out; unfold maxLen; omega
          case c4 => have := HL.out; omega
          case c5 => simp; omega
          intro v1 w1 hown1 hgrow1 hne1 hat1
          have HO1 : Hid (w1.ownsRow (w.heap.size + 1) 2 1 v1 (picks x ((lettersS x.op).take (k + 1))).length ((picks x ((lettersS x.op).take (k + 1))).map (Value.int .i64))) := hide (by rw [HT.out, ints_snoc', List.length_append]; exact hown1)
          have HN1 := hide hne1
          have HB1 : Hid (Below (w.heap.size + 1) (w.alloc (.cells #[.int .i64 x.op, .int .i64 x.dst, .int .i64 x.a, .int .i64 x.b, .int .i64 x.imm] 44)) w1) := hide (grown_below ((HB.out).alloc (by omega) _) hgrow1 (HO.out.alloc _) (Nat.le_refl _) (by simp; omega))
          clear hown1 hgrow1 hne1 hat1
          go_wp2
          exact ⟨⟨k + 1, by omega, by go_num, HB1, HN1, HO1⟩, by simp [intOf]; omega⟩
        · skip
          by_cases hb : (lettersS x.op)[k] = 98
          · have HT : Hid (picks x ((lettersS x.op).take (k + 1)) = picks x ((lettersS x.op).take k) ++ [x.b]) := hide (by rw [List.take_succ_eq_append_getElem hk3, picks_snoc, show (lettersS x.op)[k] = 98 from hb]; rfl)
            have hV : (((usesS x.op)[k]).toNat : Int) = 98 := by
              have e : (usesS x.op)[k]'hlt = 98 := hb
              exact congrArg (fun c : UInt8 => (c.toNat : Int)) e
            clear hb
            go_wp2_with (at_builtin; refine wpList_append_own_at _ rfl _ _ 40 rfl (w.heap.size + 1) 2 i0 (.int .i64 0) 1 8 Tryd.underlying40 hi0 hz0 hz1 hz2 rfl (by decide) _ _ _ rfl (HO.out.alloc _) ⟨wr.heap.size, 0, none⟩ 1 1 [.int .i64 x.b] rfl rfl ?c1 ?c2 ?c3 ?c4 ?c5 ?_)
            case c1 => exact cell_one_new _ _ _
            case c2 => intro u hu; simp at hu; subst hu; rfl
            case c3 => have := HL.out; unfold maxLen; omega
            case c4 => have := HL.out; omega
            case c5 => simp; omega
            intro v1 w1 hown1 hgrow1 hne1 hat1
            have HO1 : Hid (w1.ownsRow (w.heap.size + 1) 2 1 v1 (picks x ((lettersS x.op).take (k + 1))).length ((picks x ((lettersS x.op).take (k + 1))).map (Value.int .i64))) := hide (by rw [HT.out, ints_snoc', List.length_append]; exact hown1)
            have HN1 := hide hne1
            have HB1 : Hid (Below (w.heap.size + 1) (w.alloc (.cells #[.int .i64 x.op, .int .i64 x.dst, .int .i64 x.a, .int .i64 x.b, .int .i64 x.imm] 44)) w1) := hide (grown_below ((HB.out).alloc (by omega) _) hgrow1 (HO.out.alloc _) (Nat.le_refl _) (by simp; omega))
            clear hown1 hgrow1 hne1 hat1
            go_wp2
            exact ⟨⟨k + 1, by omega, by go_num, HB1, HN1, HO1⟩, by simp [intOf]; omega⟩
          · skip
            by_cases hi : (lettersS x.op)[k] = 105
            · have HT : Hid (picks x ((lettersS x.op).take (k + 1)) = picks x ((lettersS x.op).take k) ++ [x.imm]) := hide (by rw [List.take_succ_eq_append_getElem hk3, picks_snoc, show (lettersS x.op)[k] = 105 from hi]; rfl)
              have hV : (((usesS x.op)[k]).toNat : Int) = 105 := by
                have e : (usesS x.op)[k]'hlt = 105 := hi
                exact congrArg (fun c : UInt8 => (c.toNat : Int)) e
              clear hi
              go_wp2_with (at_builtin; refine wpList_append_own_at _ rfl _ _ 40 rfl (w.heap.size + 1) 2 i0 (.int .i64 0) 1 8 Tryd.underlying40 hi0 hz0 hz1 hz2 rfl (by decide) _ _ _ rfl (HO.out.alloc _) ⟨wr.heap.size, 0, none⟩ 1 1 [.int .i64 x.imm] rfl rfl ?c1 ?c2 ?c3 ?c4 ?c5 ?_)
              case c1 => exact cell_one_new _ _ _
              case c2 => intro u hu; simp at hu; subst hu; rfl
              case c3 => have := HL.out; unfold maxLen; omega
              case c4 => have := HL.out; omega
              case c5 => simp; omega
              intro v1 w1 hown1 hgrow1 hne1 hat1
              have HO1 : Hid (w1.ownsRow (w.heap.size + 1) 2 1 v1 (picks x ((lettersS x.op).take (k + 1))).length ((picks x ((lettersS x.op).take (k + 1))).map (Value.int .i64))) := hide (by rw [HT.out, ints_snoc', List.length_append]; exact hown1)
              have HN1 := hide hne1
              have HB1 : Hid (Below (w.heap.size + 1) (w.alloc (.cells #[.int .i64 x.op, .int .i64 x.dst, .int .i64 x.a, .int .i64 x.b, .int .i64 x.imm] 44)) w1) := hide (grown_below ((HB.out).alloc (by omega) _) hgrow1 (HO.out.alloc _) (Nat.le_refl _) (by simp; omega))
              clear hown1 hgrow1 hne1 hat1
              go_wp2
              exact ⟨⟨k + 1, by omega, by go_num, HB1, HN1, HO1⟩, by simp [intOf]; omega⟩
            · skip
              have HT : Hid (picks x ((lettersS x.op).take (k + 1)) = picks x ((lettersS x.op).take k)) := hide (by rw [List.take_succ_eq_append_getElem hk3, picks_snoc]; unfold pick; rw [if_neg hd, if_neg ha, if_neg hb, if_neg hi, List.append_nil])
              have gd : ((((usesS x.op)[k]).toNat : Int) == 100) = false := by
                rw [beq_eq_false_iff_ne]; intro e; exact hd (UInt8.toNat_inj.1 (by have : (((lettersS x.op)[k]).toNat : Int) = 100 := e; show _ = 100; omega))
              have ga : ((((usesS x.op)[k]).toNat : Int) == 97) = false := by
                rw [beq_eq_false_iff_ne]; intro e; exact ha (UInt8.toNat_inj.1 (by have : (((lettersS x.op)[k]).toNat : Int) = 97 := e; show _ = 97; omega))
              have gb : ((((usesS x.op)[k]).toNat : Int) == 98) = false := by
                rw [beq_eq_false_iff_ne]; intro e; exact hb (UInt8.toNat_inj.1 (by have : (((lettersS x.op)[k]).toNat : Int) = 98 := e; show _ = 98; omega))
              have gi : ((((usesS x.op)[k]).toNat : Int) == 105) = false := by
                rw [beq_eq_false_iff_ne]; intro e; exact hi (UInt8.toNat_inj.1 (by have : (((lettersS x.op)[k]).toNat : Int) = 105 := e; show _ = 105; omega))
              clear hd ha hb hi
              have HO1 : Hid (wr.ownsRow (w.heap.size + 1) 2 1 u5 (picks x ((lettersS x.op).take (k + 1))).length ((picks x ((lettersS x.op).take (k + 1))).map (Value.int .i64))) := hide (by rw [HT.out]; exact HO.out)
              go_wp2
              exact ⟨⟨k + 1, by omega, by go_num, HB, HN, HO1⟩, by simp [intOf]; omega⟩
    · have HO2 : Hid (wr.ownsRow (w.heap.size + 1) 2 1 u5 (picks x (lettersS x.op)).length ((picks x (lettersS x.op)).map (Value.int .i64))) := hide (by have := HO.out; rwa [List.take_of_length_le (by rw [letters_len]; omega)] at this)
      obtain ⟨a5, c5, rfl, hI⟩ := ints_owned HO2.out
      have HI := hide hI
      clear hI
      have HW : Hid (Below w.heap.size w wr) := hide ((balloc (Below.refl w.heap.size w) _).trans (HB.out.mono (Nat.le_succ _)))
      have HOW := hide (own_calm ho.out HW.out)
      have HAP : Hid (∀ g, u.ownBlock = some g → g < w.heap.size + 1 ∨ wr.heap.size ≤ g) := hide (fun g hg => Or.inl (by have := (ho.out.lt g hg).2; omega))
      have HIN : Hid (∀ v ∈ picks x (lettersS x.op), -9223372036854775807 ≤ v ∧ v ≤ 9223372036854775807) := hide (fun v h => hin.out v (picks_in x _ v h))
      go_wp2_with (first | (go_at_call 190; refine (l1Word_any _ HOP.out _).mono ?_; rintro e w2 ⟨rfl, hw2⟩; rw [hw2]; clear hw2 w2) | (go_at_call 141; refine (putLine_any B u xs (wordS x.op) a5 _ c5 _ (w.heap.size + 1) wr.heap.size wr (by omega) HOW hn hlen HI (Nat.le_refl _) HAP (hide rfl) HIN).mono ?_; rintro e w3 ⟨x3, rfl, hg3, hn3, ho3⟩))
      have HG3 : Hid (Gr w w3 u x3) := hide ((Gr.calm HW.out _).trans hg3)
      have HN3 := hide hn3
      have HO3 := hide ho3
      clear hg3 hn3 ho3
      go_wp2
      go_ret
      exact ⟨_, rfl, HG3.out, HN3.out, HO3.out⟩
end Go.Proofs.YtlmaodcddbkllaaDoor
