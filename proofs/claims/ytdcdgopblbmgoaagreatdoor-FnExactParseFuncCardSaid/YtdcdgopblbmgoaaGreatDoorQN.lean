import Derived.Test.YtdcdgopblbmgoaaGreatDoorQL
import Derived.Test.YtdcdgopblbmgoaaGreatDoorQI
import Derived.Maps.AppendAt
/-
  The words looked up.
-/
namespace Go.Proofs.YtdcdgopblbmgoaaGreatDoor
open Go.RowKit Go.Shelf Go.Maps

/-- What a word stands for: its role and its code. -/
def wordOp (f : List UInt8) : Option (Nat × Nat) :=
  if opOf f ≠ 0 then some (2, (opOf f).toNat) else if f = wBlock then some (0, 0) else if f = wPhi then some (1, 0) else if f = wJump then some (3, 1) else if f = wBranch then some (3, 2) else if f = wRet then some (3, 3) else none
theorem at_put {D : DataW Unit} (h : IsMap D) (g f : List UInt8) (d z : DataW Unit) : (D.put (.string g) d).atKey (.string f) z = if g = f then d else D.atKey (.string f) z := by
  by_cases e : g = f
  · subst e; rw [if_pos rfl, atKey_put_same h (k := .string g) (by simp [WideAt.IsKeyLit])]
  · rw [if_neg e, atKey_put_other (fun q => e (by cases q; rfl))]
theorem wdI_map : ∀ k, IsMap (wdI k)
  | 0 => (isMap_empty.put _ _).put _ _
  | k + 1 => (wdI_map k).put _ _
theorem wdT_map : ∀ k, IsMap (wdT k)
  | 0 => wdI_map 10
  | k + 1 => (wdT_map k).put _ _
theorem wdI_at0 (f : List UInt8) (z : DataW Unit) : (wdI 0).atKey (.string f) z = if wPhi = f then opD 1 0 else if wBlock = f then opD 0 0 else z := by
  show (((DataW.map []).put (.string wBlock) (opD 0 0)).put (.string wPhi) (opD 1 0)).atKey _ _ = _
  rw [at_put (isMap_empty.put _ _), at_put isMap_empty]; rfl
theorem wdI_at (f : List UInt8) (z : DataW Unit) (k : Nat) : (wdI (k + 1)).atKey (.string f) z = if wordS ((k + 1 : Nat) : Int) = f then opD 2 ((k + 1 : Nat) : Int) else (wdI k).atKey (.string f) z := at_put (wdI_map k) _ _ _ _
theorem wdT_at (f : List UInt8) (z : DataW Unit) (k : Nat) : (wdT (k + 1)).atKey (.string f) z = if terW ((k + 1 : Nat) : Int) = f then opD 3 ((k + 1 : Nat) : Int) else (wdT k).atKey (.string f) z := at_put (wdT_map k) _ _ _ _
theorem wdI_op (f : List UInt8) (z : DataW Unit) : (wdI 10).atKey (.string f) z = if opOf f ≠ 0 then opD 2 (opOf f) else (wdI 0).atKey (.string f) z := by
  have hU : (wdI 10).atKey (.string f) z = _ := (wdI_at f z 9).trans (congrArg _ ((wdI_at f z 8).trans (congrArg _ ((wdI_at f z 7).trans (congrArg _ ((wdI_at f z 6).trans (congrArg _ ((wdI_at f z 5).trans (congrArg _ ((wdI_at f z 4).trans (congrArg _ ((wdI_at f z 3).trans (congrArg _ ((wdI_at f z 2).trans (congrArg _ ((wdI_at f z 1).trans (congrArg _ (wdI_at f z 0))))))))))))))))))
  by_cases h0 : opOf f = 0
  · have hno : ∀ j : Nat, j < 10 → wordS ((j + 1 : Nat) : Int) ≠ f := fun j hj e => by
      subst e
      have hc : j = 0 ∨ j = 1 ∨ j = 2 ∨ j = 3 ∨ j = 4 ∨ j = 5 ∨ j = 6 ∨ j = 7 ∨ j = 8 ∨ j = 9 := by omega
      rcases hc with rfl | rfl | rfl | rfl | rfl | rfl | rfl | rfl | rfl | rfl <;> exact absurd h0 (by decide)
    rw [hU, if_neg (hno 9 (by omega)), if_neg (hno 8 (by omega)), if_neg (hno 7 (by omega)), if_neg (hno 6 (by omega)), if_neg (hno 5 (by omega)), if_neg (hno 4 (by omega)), if_neg (hno 3 (by omega)), if_neg (hno 2 (by omega)), if_neg (hno 1 (by omega)), if_neg (hno 0 (by omega)), if_neg (fun q : opOf f ≠ 0 => q h0)]
  · rw [if_pos h0, hU]
    rcases opFrom_spec f 10 1 with q | ⟨j, h1, h2, h3, rfl⟩
    · exact absurd q h0
    · have e : opOf (wordS j) = j := h3
      rw [e]
      have hc : j = 1 ∨ j = 2 ∨ j = 3 ∨ j = 4 ∨ j = 5 ∨ j = 6 ∨ j = 7 ∨ j = 8 ∨ j = 9 ∨ j = 10 := by omega
      rcases hc with rfl | rfl | rfl | rfl | rfl | rfl | rfl | rfl | rfl | rfl <;> rfl
def opDo (o : Option (Nat × Nat)) (z : DataW Unit) : DataW Unit := match o with
  | some (r, c) => opD r c
  | none => z
theorem words_at (f : List UInt8) (z : DataW Unit) : (wdT 3).atKey (.string f) z = opDo (wordOp f) z := by
  rw [wdT_at f z 2, wdT_at f z 1, wdT_at f z 0]
  show (if wRet = f then opD 3 3 else if wBranch = f then opD 3 2 else if wJump = f then opD 3 1 else (wdI 10).atKey (.string f) z) = _
  rw [wdI_op, wdI_at0]
  unfold wordOp
  by_cases h0 : opOf f = 0
  · rw [if_neg (fun q : opOf f ≠ 0 => q h0), if_neg (fun q : opOf f ≠ 0 => q h0)]
    by_cases e1 : f = wRet
    · subst e1; rfl
    · by_cases e2 : f = wBranch
      · subst e2; rfl
      · by_cases e3 : f = wJump
        · subst e3; rfl
        · by_cases e4 : f = wPhi
          · subst e4; rfl
          · by_cases e5 : f = wBlock
            · subst e5; rfl
            · rw [if_neg (Ne.symm e1), if_neg (Ne.symm e2), if_neg (Ne.symm e3), if_neg (Ne.symm e4), if_neg (Ne.symm e5), if_neg e5, if_neg e4, if_neg e3, if_neg e2, if_neg e1]; rfl
  · obtain ⟨⟨h1, _⟩, e5, e3, e1, e2, e4⟩ := op_other h0
    rw [if_neg (Ne.symm e1), if_neg (Ne.symm e2), if_neg (Ne.symm e3), if_pos h0, if_pos h0]
    show opD 2 (opOf f) = opD ((2 : Nat) : Int) ((opOf f).toNat : Int)
    rw [Int.toNat_of_nonneg (by omega)]; rfl
theorem Tryz.zeroOp (w : World) : (zeroValue 111).run Tryz.prog w = .ok (opV 0 0) w := by kernel_rfl
theorem wordR_inv {v : Value} {r c : Int} {ps : List MemPlace} (h : wordR v = some (opD r c, ps)) : v = opV r c := by
  unfold wordR at h
  split at h
  · rename_i a
    split at h
    · rename_i r' c' ha
      have h1 := congrArg Prod.fst (Option.some.inj h)
      simp only [opD] at h1
      injection h1 with h2
      simp only [List.cons.injEq, DataW.lit.injEq, Lit.int.injEq, true_and, and_true] at h2
      obtain ⟨rfl, rfl⟩ := h2
      unfold opV
      congr 1
      apply Array.ext'
      rw [ha]
    · cases h
  · cases h
/-- The look-up of a word. -/
theorem words_look (w : World) (b : Nat) (h : w.ownsMap Tryz.prog 9 wordR b 15 (wdT 3)) (f : List UInt8) (hf : f.length ≤ 1000000) : (Instr.lookup 81 (.map (some b)) (.string (strOf f)) true).run Tryz.prog w = .ok (match wordOp f with | some (r, c) => .tuple #[opV r c, .bool true] | none => .tuple #[opV 0 0, .bool false]) w := by
  obtain ⟨es, clock, hb, F, _, hD⟩ := h
  have hkey : keyOf Tryz.prog 9 (.string (strOf f)) = some (.string f) := Go.WideMaps.keyOf_string_mk Tryz.underlying9 (s := strOf f) (by rw [strOf_size]; unfold maxLen; omega)
  have hat := fun z => words_at f z
  rcases Maps.fit_look true Tryz.keyS Tryz.underlying81 (Tryz.zeroOp w) hb F hkey with ⟨hrun, _, hz⟩ | ⟨e0, y, _, _, hrun, hR, hz, _⟩
  · have hn : wordOp f = none := by
      cases hw : wordOp f with
      | none => rfl
      | some rc =>
        have q := hat (.lit (.bool true))
        rw [hD, hz, hw] at q
        exact absurd q (by simp [opDo, opD])
    rw [hrun, hn]; rfl
  · cases hw : wordOp f with
    | none =>
      have q1 := hat (.lit (.bool true))
      have q2 := hat (.lit (.bool false))
      rw [hD, hz, hw] at q1 q2
      exact absurd (q1.symm.trans q2) (by simp [opDo])
    | some rc =>
      have q := hat (.lit (.bool true))
      rw [hD, hz, hw] at q
      obtain ⟨yd, yp⟩ := y
      have q' : yd = opD rc.1 rc.2 := q
      subst q'
      rw [hrun, wordR_inv hR]; rfl
end Go.Proofs.YtdcdgopblbmgoaaGreatDoor

/-
  operation.readNumbers of the program.
-/
namespace Go.Proofs.YtdcdgopblbmgoaaGreatDoor
open Go.RowKit Go.Shelf

/-- Pieces of a text, seen through a slice. -/
def PiecesV (w : World) (b B : Nat) (fa : Option Addr) (fs : List (List UInt8)) : Prop := ∀ i (h : i < fs.length), ∃ g o v, fa = some ⟨g, o, none⟩ ∧ g < B ∧ w.cell? ⟨g, o + i, none⟩ = some v ∧ PieceAt w b v fs[i]
theorem PiecesV.keep {w w' : World} {b B : Nat} {fa : Option Addr} {fs : List (List UInt8)} (h : PiecesV w b B fa fs) (k : Below B w w') (hb : b < B) : PiecesV w' b B fa fs := fun i hi => by
  obtain ⟨g, o, v, e, hg, hc, hp⟩ := h i hi
  exact ⟨g, o, v, e, hg, (k.cell (p := ⟨g, o + i, none⟩) hg).trans hc, hp.keep (k.block b hb)⟩
/-- Is it the place of a constant? -/
def conAt (role code n i : Nat) : Bool := decide (role = 2) && (decide (code = 1) && decide (i + 1 = n))
def okAt (c : Bool) (f : List UInt8) : Bool := if c then isC f else digitsOk f 4
def valAt (c : Bool) (f : List UInt8) : Int := if c then conV f else numV f 4
def oksF (q : Nat → Bool) : Nat → List (List UInt8) → Bool
  | _, [] => true
  | i, f :: r => okAt (q i) f && oksF q (i + 1) r
def valsF (q : Nat → Bool) : Nat → List (List UInt8) → List Int
  | _, [] => []
  | i, f :: r => valAt (q i) f :: valsF q (i + 1) r

theorem oksF_snoc (q : Nat → Bool) (f : List UInt8) : ∀ (l : List (List UInt8)) (i : Nat), oksF q i (l ++ [f]) = (oksF q i l && okAt (q (i + l.length)) f)
  | [], i => by simp [oksF]
  | x :: r, i => by
    rw [List.cons_append, oksF, oksF, oksF_snoc q f r (i + 1), Bool.and_assoc, List.length_cons, show i + 1 + r.length = i + (r.length + 1) by omega]
theorem valsF_snoc (q : Nat → Bool) (f : List UInt8) : ∀ (l : List (List UInt8)) (i : Nat), valsF q i (l ++ [f]) = valsF q i l ++ [valAt (q (i + l.length)) f]
  | [], i => by simp [valsF]
  | x :: r, i => by
    rw [List.cons_append, valsF, valsF, valsF_snoc q f r (i + 1), List.cons_append, List.length_cons, show i + 1 + r.length = i + (r.length + 1) by omega]
theorem valsF_len (q : Nat → Bool) : ∀ (l : List (List UInt8)) (i : Nat), (valsF q i l).length = l.length
  | [], _ => rfl
  | x :: r, i => by rw [valsF, List.length_cons, List.length_cons, valsF_len q r]
theorem oksF_no (q : Nat → Bool) : ∀ (l : List (List UInt8)) (i k : Nat) (h : k < l.length), okAt (q (i + k)) l[k] = false → oksF q i l = false
  | x :: r, i, 0, _, e => by rw [oksF]; simp only [Nat.add_zero, List.getElem_cons_zero] at e; rw [e]; rfl
  | x :: r, i, k + 1, h, e => by
    rw [oksF, oksF_no q r (i + 1) k (by simpa using h) (by rw [show i + 1 + k = i + (k + 1) by omega]; simpa using e), Bool.and_false]

theorem one_row (w3 : World) (x : Int) : ∀ (i : Nat) (v : Value), [Value.int .i64 x][i]? = some v → (w3.alloc (Obj.cells #[Value.int .i64 x] 2)).cell? ((⟨w3.heap.size, 0, none⟩ : Addr).add i) = some v := fun i v hv => by
  have : i = 0 := by
    cases i with
    | zero => rfl
    | succ j => simp at hv
  subst this
  simp at hv
  subst hv
  rw [Addr.add_lit, cell_of_row _ w3.heap.size _ _ _ _ (heap_alloc_new w3 _)]
  rfl
theorem one_cell (x : Int) : ∀ u ∈ [Value.int .i64 x], u.oneCell' = true := fun u hu => by
  rw [List.mem_singleton] at hu; subst hu; rfl

/-- What readNumbers answers. -/
def NumsAns (H : Nat) (w' : World) (q : Nat → Bool) (fs : List (List UInt8)) (e : Ending) : Prop :=
  (oksF q 0 fs = true → ∃ v, e = .returned (.tuple #[v, .bool true]) ∧ w'.ownsRow H 2 1 v fs.length ((valsF q 0 fs).map (Value.int .i64))) ∧ (oksF q 0 fs = false → e = .returned (.tuple #[.slice none 0 0, .bool false]))

set_option maxHeartbeats 2000000 in
set_option maxRecDepth 100000 in
theorem readNumbers_any (role code n fc b B : Nat) (fa : Option Addr) (fs : List (List UInt8)) (w : World) (hx : Hid (n = fs.length)) (hn : n ≤ 1000000) (hb : b < B) (hB : B ≤ w.heap.size) (ha : Hid (PiecesV w b B fa fs)) (hfs : Hid (∀ f ∈ fs, f.length ≤ 1000000)) :
    Calls Tryz.prog 77 #[opV role code, .slice fa n fc] w fun e w' => Below w.heap.size w w' ∧ NumsAns w.heap.size w' (conAt role code n) fs e := by
  obtain ⟨i0, hi0, hz0, hz1, hz2⟩ := info_parts Tryz.info2'
  have HQ : Hid (∀ i, conAt role code n i = (decide (role = 2) && (decide (code = 1) && decide (i + 1 = n)))) := hide (fun i => rfl)
  generalize conAt role code n = q at *
  unfold opV
  go_enter Tryz.func77, Tryz.ntmps77
  go_wp2
  go_loopw [6, 15] (fun u i wr => ∃ k : Nat, k ≤ n ∧ i = .int .i64 k ∧ Hid (Below w.heap.size w wr) ∧ w.heap.size < wr.heap.size ∧ wr.cell? ⟨w.heap.size, 0, none⟩ = some (.int .i64 role) ∧ wr.cell? ⟨w.heap.size, 1, none⟩ = some (.int .i64 code) ∧ Hid (oksF q 0 (fs.take k) = true) ∧ Hid (wr.ownsRow (w.heap.size + 1) 2 1 u k ((valsF q 0 (fs.take k)).map (Value.int .i64)))) (fun _ i _ => n - (intOf i).toNat)
  case atStart => exact ⟨0, Nat.zero_le _, rfl, hide (balloc (balloc (Below.refl _ _) _) _), by simp; omega, by simp, by simp, hide rfl, hide (own_empty _ _)⟩
  case round =>
    obtain ⟨k, hk, rfl, HBw, hsz, hcr, hcc, HA, HO⟩ := hrel
    have hwz := HBw.out.size
    by_cases hlt : k < n
    · have hkf : k < fs.length := by have := hx.out; omega
      obtain ⟨g, o, v, rfl, hg, hc1, o2, c2, rfl, hl2, hcp⟩ := (ha.out.keep (HBw.out.mono hB) hb) k hkf
      replace hl2 := hl2.1
      have HFk := hfs.out fs[k] (List.getElem_mem hkf)
      have HNO : Hid (okAt (q k) fs[k] = false → oksF q 0 fs = false) := hide (fun h => oksF_no q fs 0 k hkf (by rw [Nat.zero_add]; exact h))
      have HT1 : Hid (oksF q 0 (fs.take (k + 1)) = (oksF q 0 (fs.take k) && okAt (q k) fs[k])) := hide (by rw [List.take_succ_eq_append_getElem hkf, oksF_snoc, List.length_take, Nat.min_eq_left (by omega), Nat.zero_add])
      have HT2 : Hid (valsF q 0 (fs.take (k + 1)) = valsF q 0 (fs.take k) ++ [valAt (q k) fs[k]]) := hide (by rw [List.take_succ_eq_append_getElem hkf, valsF_snoc, List.length_take, Nat.min_eq_left (by omega), Nat.zero_add])
      have HRI := hide (readIndex_any (some ⟨b, o2, none⟩) fs[k].length c2 fs[k] b wr.heap.size wr (hide (piece_bytes hcp (by omega))) (hide rfl) HFk (Nat.le_refl _))
      have HRC := hide (readConstant_any b o2 fs[k].length c2 fs[k] b wr.heap.size wr (hide (piece_bytes hcp (by omega))) (hide rfl) hl2 HFk (Nat.le_refl _))
      clear hcp
      generalize fs[k] = f at *
      by_cases hr2 : role = 2
      · by_cases hc2 : code = 1
        · by_cases hkn : k + 1 = n
          · have HQk : Hid (q k = true) := hide (by rw [HQ.out]; simp [hr2, hc2, hkn])
            have hr3 : ((role : Int) == 2) = true := by rw [hr2]; rfl
            have hc3 : ((code : Int) == 1) = true := by rw [hc2]; rfl
            have hk3 : ((k : Int) == (n : Int) - 1) = true := by rw [beq_iff_eq]; omega
            clear hr2 hc2 hkn
            have HOK : Hid (okAt (q k) f = isC f) := hide (by rw [HQk.out]; rfl)
            have HVA : Hid (valAt (q k) f = conV f) := hide (by rw [HQk.out]; rfl)
            clear HQ
            cases hd : isC f with
            | false =>
              have HE := hide (HNO.out (by rw [HOK.out]; exact hd))
              have HD := hide hd
              clear hd
              go_wp2_with (go_at_call 96; refine HRC.out.mono ?_; rintro e w3 ⟨rfl, hb3⟩; rw [HD.out]; have HB3 := hide (HBw.out.trans (hb3.mono hwz)); clear hb3)
              refine bodyPost_ret (v := .tuple #[.slice none 0 0, .bool false]) (by simp [results, Tryz.results77, go_sem]) rfl ⟨HB3.out, fun h => absurd (HE.out.symm.trans h) (by decide), fun _ => rfl⟩
            | true =>
              have HA2 : Hid (oksF q 0 (fs.take (k + 1)) = true) := hide (by rw [HT1.out, HA.out, HOK.out, hd]; rfl)
              have HD := hide hd
              clear hd
              go_wp2_with first
                | (go_at_call 96; refine HRC.out.mono ?_; rintro e w3 ⟨rfl, hb3⟩; rw [HD.out]; have HB3 := hide (HBw.out.trans (hb3.mono hwz)); have HO3 := hide (own_calm2 HO.out hb3); have HX3 := hide (hb3.block w.heap.size hsz); have hsz3 : w.heap.size < w3.heap.size := Nat.lt_of_lt_of_le hsz hb3.size; clear hb3)
                | (at_builtin; refine wpList_append_own_at _ rfl _ _ 47 rfl (w.heap.size + 1) 2 i0 (.int .i64 0) 1 8 Tryz.underlying47 hi0 hz0 hz1 hz2 rfl (by decide) _ _ _ rfl (HO3.out.alloc _) ⟨w3.heap.size, 0, none⟩ 1 1 [.int .i64 (conV f)] rfl rfl ?c1a ?c2a ?c3a ?c4a ?c5a ?_)
              case c1a => exact one_row w3 _
              case c2a => exact one_cell _
              case c3a => unfold maxLen; omega
              case c4a => omega
              case c5a => first | omega | (simp; omega)
              intro v1 w1 hown1 hgrow1 hne1 hat1
              have HO1 : Hid (w1.ownsRow (w.heap.size + 1) 2 1 v1 (k + 1) ((valsF q 0 (fs.take (k + 1))).map (Value.int .i64))) := hide (by rw [HT2.out, HVA.out, ints_snoc]; exact hown1)
              have HB1 : Hid (Below w.heap.size w w1) := hide (grown_below (balloc HB3.out _) hgrow1 (HO3.out.alloc _) (by omega) (by rw [alloc_size]; omega))
              have hbk := (grown_block hgrow1 (HO3.out.alloc _) (Nat.lt_succ_self w.heap.size) (by rw [alloc_size]; omega)).trans ((Below.heap_alloc w3 _ w.heap.size hsz3).trans HX3.out)
              have c0 : w1.cell? ⟨w.heap.size, 0, none⟩ = _ := (cell_of hbk).trans hcr
              have c1 : w1.cell? ⟨w.heap.size, 1, none⟩ = _ := (cell_of hbk).trans hcc
              have hs1 : w.heap.size < w1.heap.size := Nat.lt_of_lt_of_le (by rw [alloc_size]; omega) hgrow1.size
              clear hown1 hgrow1 hne1 hat1 hbk
              go_wp2
              exact ⟨⟨k + 1, by omega, by go_num, HB1, hs1, c0, c1, HA2, HO1⟩, by simp [intOf]; omega⟩
          · have HQk : Hid (q k = false) := hide (by rw [HQ.out]; simp [hkn])
            have hkn3 : ¬ ((k : Int) = (n : Int) - 1) := by omega
            have hr3 : ((role : Int) == 2) = true := by rw [hr2]; rfl
            have hc3 : ((code : Int) == 1) = true := by rw [hc2]; rfl
            clear hr2 hc2
            have HOK : Hid (okAt (q k) f = digitsOk f 4) := hide (by rw [HQk.out]; rfl)
            have HVA : Hid (valAt (q k) f = numV f 4) := hide (by rw [HQk.out]; rfl)
            clear HQ
            cases hd : digitsOk f 4 with
            | false =>
              have HE := hide (HNO.out (by rw [HOK.out]; exact hd))
              have HD := hide hd
              clear hd
              go_wp2_with (go_at_call 56; refine HRI.out.mono ?_; rintro e w3 ⟨rfl, hb3⟩; rw [HD.out]; have HB3 := hide (HBw.out.trans (hb3.mono hwz)); clear hb3)
              refine bodyPost_ret (v := .tuple #[.slice none 0 0, .bool false]) (by simp [results, Tryz.results77, go_sem]) rfl ⟨HB3.out, fun h => absurd (HE.out.symm.trans h) (by decide), fun _ => rfl⟩
            | true =>
              have HA2 : Hid (oksF q 0 (fs.take (k + 1)) = true) := hide (by rw [HT1.out, HA.out, HOK.out, hd]; rfl)
              have HD := hide hd
              clear hd
              go_wp2_with first
                | (go_at_call 56; refine HRI.out.mono ?_; rintro e w3 ⟨rfl, hb3⟩; rw [HD.out]; have HB3 := hide (HBw.out.trans (hb3.mono hwz)); have HO3 := hide (own_calm2 HO.out hb3); have HX3 := hide (hb3.block w.heap.size hsz); have hsz3 : w.heap.size < w3.heap.size := Nat.lt_of_lt_of_le hsz hb3.size; clear hb3)
                | (at_builtin; refine wpList_append_own_at _ rfl _ _ 47 rfl (w.heap.size + 1) 2 i0 (.int .i64 0) 1 8 Tryz.underlying47 hi0 hz0 hz1 hz2 rfl (by decide) _ _ _ rfl (HO3.out.alloc _) ⟨w3.heap.size, 0, none⟩ 1 1 [.int .i64 (numV f 4)] rfl rfl ?c1b ?c2b ?c3b ?c4b ?c5b ?_)
              case c1b => exact one_row w3 _
              case c2b => exact one_cell _
              case c3b => unfold maxLen; omega
              case c4b => omega
              case c5b => first | omega | (simp; omega)
              intro v1 w1 hown1 hgrow1 hne1 hat1
              have HO1 : Hid (w1.ownsRow (w.heap.size + 1) 2 1 v1 (k + 1) ((valsF q 0 (fs.take (k + 1))).map (Value.int .i64))) := hide (by rw [HT2.out, HVA.out, ints_snoc]; exact hown1)
              have HB1 : Hid (Below w.heap.size w w1) := hide (grown_below (balloc HB3.out _) hgrow1 (HO3.out.alloc _) (by omega) (by rw [alloc_size]; omega))
              have hbk := (grown_block hgrow1 (HO3.out.alloc _) (Nat.lt_succ_self w.heap.size) (by rw [alloc_size]; omega)).trans ((Below.heap_alloc w3 _ w.heap.size hsz3).trans HX3.out)
              have c0 : w1.cell? ⟨w.heap.size, 0, none⟩ = _ := (cell_of hbk).trans hcr
              have c1 : w1.cell? ⟨w.heap.size, 1, none⟩ = _ := (cell_of hbk).trans hcc
              have hs1 : w.heap.size < w1.heap.size := Nat.lt_of_lt_of_le (by rw [alloc_size]; omega) hgrow1.size
              clear hown1 hgrow1 hne1 hat1 hbk
              go_wp2
              exact ⟨⟨k + 1, by omega, by go_num, HB1, hs1, c0, c1, HA2, HO1⟩, by simp [intOf]; omega⟩
        · have HQk : Hid (q k = false) := hide (by rw [HQ.out]; simp [hc2])
          have hc3 : ¬ ((code : Int) = 1) := by omega
          have hr3 : ((role : Int) == 2) = true := by rw [hr2]; rfl
          clear hr2
          have HOK : Hid (okAt (q k) f = digitsOk f 4) := hide (by rw [HQk.out]; rfl)
          have HVA : Hid (valAt (q k) f = numV f 4) := hide (by rw [HQk.out]; rfl)
          clear HQ
          cases hd : digitsOk f 4 with
          | false =>
            have HE := hide (HNO.out (by rw [HOK.out]; exact hd))
            have HD := hide hd
            clear hd
            go_wp2_with (go_at_call 56; refine HRI.out.mono ?_; rintro e w3 ⟨rfl, hb3⟩; rw [HD.out]; have HB3 := hide (HBw.out.trans (hb3.mono hwz)); clear hb3)
            refine bodyPost_ret (v := .tuple #[.slice none 0 0, .bool false]) (by simp [results, Tryz.results77, go_sem]) rfl ⟨HB3.out, fun h => absurd (HE.out.symm.trans h) (by decide), fun _ => rfl⟩
          | true =>
            have HA2 : Hid (oksF q 0 (fs.take (k + 1)) = true) := hide (by rw [HT1.out, HA.out, HOK.out, hd]; rfl)
            have HD := hide hd
            clear hd
            go_wp2_with first
              | (go_at_call 56; refine HRI.out.mono ?_; rintro e w3 ⟨rfl, hb3⟩; rw [HD.out]; have HB3 := hide (HBw.out.trans (hb3.mono hwz)); have HO3 := hide (own_calm2 HO.out hb3); have HX3 := hide (hb3.block w.heap.size hsz); have hsz3 : w.heap.size < w3.heap.size := Nat.lt_of_lt_of_le hsz hb3.size; clear hb3)
              | (at_builtin; refine wpList_append_own_at _ rfl _ _ 47 rfl (w.heap.size + 1) 2 i0 (.int .i64 0) 1 8 Tryz.underlying47 hi0 hz0 hz1 hz2 rfl (by decide) _ _ _ rfl (HO3.out.alloc _) ⟨w3.heap.size, 0, none⟩ 1 1 [.int .i64 (numV f 4)] rfl rfl ?c1c ?c2c ?c3c ?c4c ?c5c ?_)
            case c1c => exact one_row w3 _
            case c2c => exact one_cell _
            case c3c => unfold maxLen; omega
            case c4c => omega
            case c5c => first | omega | (simp; omega)
            intro v1 w1 hown1 hgrow1 hne1 hat1
            have HO1 : Hid (w1.ownsRow (w.heap.size + 1) 2 1 v1 (k + 1) ((valsF q 0 (fs.take (k + 1))).map (Value.int .i64))) := hide (by rw [HT2.out, HVA.out, ints_snoc]; exact hown1)
            have HB1 : Hid (Below w.heap.size w w1) := hide (grown_below (balloc HB3.out _) hgrow1 (HO3.out.alloc _) (by omega) (by rw [alloc_size]; omega))
            have hbk := (grown_block hgrow1 (HO3.out.alloc _) (Nat.lt_succ_self w.heap.size) (by rw [alloc_size]; omega)).trans ((Below.heap_alloc w3 _ w.heap.size hsz3).trans HX3.out)
            have c0 : w1.cell? ⟨w.heap.size, 0, none⟩ = _ := (cell_of hbk).trans hcr
            have c1 : w1.cell? ⟨w.heap.size, 1, none⟩ = _ := (cell_of hbk).trans hcc
            have hs1 : w.heap.size < w1.heap.size := Nat.lt_of_lt_of_le (by rw [alloc_size]; omega) hgrow1.size
            clear hown1 hgrow1 hne1 hat1 hbk
            go_wp2
            exact ⟨⟨k + 1, by omega, by go_num, HB1, hs1, c0, c1, HA2, HO1⟩, by simp [intOf]; omega⟩
      · have HQk : Hid (q k = false) := hide (by rw [HQ.out]; simp [hr2])
        have hr3 : ¬ ((role : Int) = 2) := by omega
        have HOK : Hid (okAt (q k) f = digitsOk f 4) := hide (by rw [HQk.out]; rfl)
        have HVA : Hid (valAt (q k) f = numV f 4) := hide (by rw [HQk.out]; rfl)
        clear HQ
        cases hd : digitsOk f 4 with
        | false =>
          have HE := hide (HNO.out (by rw [HOK.out]; exact hd))
          have HD := hide hd
          clear hd
          go_wp2_with (go_at_call 56; refine HRI.out.mono ?_; rintro e w3 ⟨rfl, hb3⟩; rw [HD.out]; have HB3 := hide (HBw.out.trans (hb3.mono hwz)); clear hb3)
          refine bodyPost_ret (v := .tuple #[.slice none 0 0, .bool false]) (by simp [results, Tryz.results77, go_sem]) rfl ⟨HB3.out, fun h => absurd (HE.out.symm.trans h) (by decide), fun _ => rfl⟩
        | true =>
          have HA2 : Hid (oksF q 0 (fs.take (k + 1)) = true) := hide (by rw [HT1.out, HA.out, HOK.out, hd]; rfl)
          have HD := hide hd
          clear hd
          go_wp2_with first
            | (go_at_call 56; refine HRI.out.mono ?_; rintro e w3 ⟨rfl, hb3⟩; rw [HD.out]; have HB3 := hide (HBw.out.trans (hb3.mono hwz)); have HO3 := hide (own_calm2 HO.out hb3); have HX3 := hide (hb3.block w.heap.size hsz); have hsz3 : w.heap.size < w3.heap.size := Nat.lt_of_lt_of_le hsz hb3.size; clear hb3)
            | (at_builtin; refine wpList_append_own_at _ rfl _ _ 47 rfl (w.heap.size + 1) 2 i0 (.int .i64 0) 1 8 Tryz.underlying47 hi0 hz0 hz1 hz2 rfl (by decide) _ _ _ rfl (HO3.out.alloc _) ⟨w3.heap.size, 0, none⟩ 1 1 [.int .i64 (numV f 4)] rfl rfl ?c1d ?c2d ?c3d ?c4d ?c5d ?_)
          case c1d => exact one_row w3 _
          case c2d => exact one_cell _
          case c3d => unfold maxLen; omega
          case c4d => omega
          case c5d => first | omega | (simp; omega)
          intro v1 w1 hown1 hgrow1 hne1 hat1
          have HO1 : Hid (w1.ownsRow (w.heap.size + 1) 2 1 v1 (k + 1) ((valsF q 0 (fs.take (k + 1))).map (Value.int .i64))) := hide (by rw [HT2.out, HVA.out, ints_snoc]; exact hown1)
          have HB1 : Hid (Below w.heap.size w w1) := hide (grown_below (balloc HB3.out _) hgrow1 (HO3.out.alloc _) (by omega) (by rw [alloc_size]; omega))
          have hbk := (grown_block hgrow1 (HO3.out.alloc _) (Nat.lt_succ_self w.heap.size) (by rw [alloc_size]; omega)).trans ((Below.heap_alloc w3 _ w.heap.size hsz3).trans HX3.out)
          have c0 : w1.cell? ⟨w.heap.size, 0, none⟩ = _ := (cell_of hbk).trans hcr
          have c1 : w1.cell? ⟨w.heap.size, 1, none⟩ = _ := (cell_of hbk).trans hcc
          have hs1 : w.heap.size < w1.heap.size := Nat.lt_of_lt_of_le (by rw [alloc_size]; omega) hgrow1.size
          clear hown1 hgrow1 hne1 hat1 hbk
          go_wp2
          exact ⟨⟨k + 1, by omega, by go_num, HB1, hs1, c0, c1, HA2, HO1⟩, by simp [intOf]; omega⟩
    · have hkl : fs.take k = fs := List.take_of_length_le (by have := hx.out; omega)
      have HANS : Hid (NumsAns w.heap.size wr q fs (.returned (.tuple #[u6, .bool true]))) := hide ⟨fun _ => ⟨u6, rfl, by have := HO.out; rw [hkl, show k = fs.length by have := hx.out; omega] at this; exact own_base this (Nat.le_succ _)⟩, fun h => by have := HA.out; rw [hkl, h] at this; exact absurd this (by decide)⟩
      go_wp2
      refine bodyPost_ret (v := .tuple #[u6, .bool true]) (by simp [results, Tryz.results77, go_sem]) rfl ⟨HBw.out, HANS.out⟩
end Go.Proofs.YtdcdgopblbmgoaaGreatDoor
