import Derived.Test.YtdcdgopblbmgoaaGreatDoorQI
import Derived.Test.YtdcdgopblbmgoaaGreatDoorPJ
import Derived.Maps.Views
import Derived.Maps.OwnOps
/-
  last and inPlace of the program's reader.
-/
namespace Go.Proofs.YtdcdgopblbmgoaaGreatDoor
open Go.RowKit Go.Shelf

/-- The reader's own cells: the words, the values, the blocks, whether a block is open. -/
structure RdAt (w : World) (R : Nat) (wd : Value) (vals : Int) (ga : Option Addr) (n c : Nat) (op : Bool) : Prop where
  words : w.cell? ⟨R, 0, none⟩ = some wd
  values : w.cell? ⟨R, 1, none⟩ = some (.int .i64 vals)
  blocks : w.cell? ⟨R, 2, none⟩ = some (.slice ga n c)
  opened : w.cell? ⟨R, 3, none⟩ = some (.bool op)

set_option maxHeartbeats 400000 in
theorem last_any (R : Nat) (wd : Value) (vals : Int) (g n c : Nat) (op : Bool) (w : World) (hr : RdAt w R wd vals (some ⟨g, 0, none⟩) (n + 1) c op) (hn : n ≤ 1000000) :
    Calls Tryz.prog 97 #[.pointer (some ⟨R, 0, none⟩)] w fun e w' => e = .returned (.pointer (some ⟨g, n * 6, none⟩)) ∧ w' = w.drew := by
  have c2 := hr.blocks
  go_enter Tryz.func97, Tryz.ntmps97
  go_wp2
  go_region
  go_wp2
  go_ret
  exact ⟨rfl, rfl⟩

def placeB (role : Nat) (op : Bool) (ni : Nat) : Bool := if role = 0 then !op else if role = 1 then op && ni == 0 else op
set_option maxHeartbeats 1000000 in
theorem inPlace_any (R : Nat) (wd : Value) (vals : Int) (va : Option Addr) (g n c : Nat) (op : Bool) (ia : Option Addr) (ni ic role code : Nat) (w : World) (hr : Hid (RdAt w R wd vals va n c op)) (hn : n ≤ 1000000) (hR : R < w.heap.size) (hro : role ≤ 3) (hop : Hid (op = true → va = some ⟨g, 0, none⟩ ∧ 1 ≤ n ∧ g < w.heap.size ∧ w.cell? ⟨g, (n - 1) * 6 + 1, none⟩ = some (.slice ia ni ic))) :
    Calls Tryz.prog 78 #[.pointer (some ⟨R, 0, none⟩), opV role code] w fun e w' => e = .returned (.bool (placeB role op ni)) ∧ Below w.heap.size w w' := by
  have c3 := hr.out.opened
  have hcase : role = 0 ∨ role = 1 ∨ role = 2 ∨ role = 3 := by omega
  unfold opV
  rcases hcase with rfl | rfl | rfl | rfl
  · go_enter Tryz.func78, Tryz.ntmps78
    go_wp2
    go_ret
    exact ⟨rfl, balloc (Below.refl _ _) _⟩
  · cases op with
    | false =>
      go_enter Tryz.func78, Tryz.ntmps78
      go_wp2
      go_ret
      exact ⟨rfl, balloc (Below.refl _ _) _⟩
    | true =>
      obtain ⟨rfl, h1, hg, hci⟩ := hop.out rfl
      obtain ⟨m, rfl⟩ : ∃ m, n = m + 1 := ⟨n - 1, by omega⟩
      have HV : Hid (placeB 1 true ni = ((ni : Int) == 0)) := hide (by
        show ((ni == 0) = _)
        by_cases h : ni = 0
        · subst h; rfl
        · rw [beq_eq_false_iff_ne.2 h, beq_eq_false_iff_ne.2 (by omega)])
      rw [Nat.add_sub_cancel] at hci
      have HLA : Hid (∀ W, Below w.heap.size w W → Calls Tryz.prog 97 #[.pointer (some ⟨R, 0, none⟩)] W fun e w' => e = .returned (.pointer (some ⟨g, m * 6, none⟩)) ∧ w' = W.drew) := hide (fun W hW => last_any R wd vals g m c true W ⟨(hW.cell (p := ⟨R, 0, none⟩) hR).trans hr.out.words, (hW.cell (p := ⟨R, 1, none⟩) hR).trans hr.out.values, (hW.cell (p := ⟨R, 2, none⟩) hR).trans hr.out.blocks, (hW.cell (p := ⟨R, 3, none⟩) hR).trans hr.out.opened⟩ (by omega))
      go_enter Tryz.func78, Tryz.ntmps78
      go_wp2_with (go_at_call 97; refine (HLA.out _ (balloc (Below.refl _ _) _)).mono ?_; rintro e w1 ⟨rfl, hw1⟩; rw [hw1]; clear hw1 w1)
      go_ret
      exact ⟨ret_bool HV.out.symm, (balloc (Below.refl _ _) _).drew⟩
  · go_enter Tryz.func78, Tryz.ntmps78
    go_wp2
    go_ret
    exact ⟨rfl, balloc (Below.refl _ _) _⟩
  · go_enter Tryz.func78, Tryz.ntmps78
    go_wp2
    go_ret
    exact ⟨rfl, balloc (Below.refl _ _) _⟩
end Go.Proofs.YtdcdgopblbmgoaaGreatDoor

/-
  makeWords of the program.
-/
namespace Go.Proofs.YtdcdgopblbmgoaaGreatDoor
open Go.RowKit Go.Shelf Go.Maps

/-- How a word's meaning reads. -/
def wordR (v : Value) : Option (DataW Unit × List MemPlace) := match v with
  | .agg a => match a.toList with
    | [.int .i64 r, .int .i64 c] => some (.agg [.lit (.int .i64 r), .lit (.int .i64 c)], [])
    | _ => none
  | _ => none
def opD (r c : Int) : DataW Unit := .agg [.lit (.int .i64 r), .lit (.int .i64 c)]
theorem wordR_op (r c : Int) : wordR (opV r c) = some (opD r c, []) := rfl
theorem Tryz.keyS : Keyed Tryz.prog 9 := string_keyed Tryz.underlying9
/-- The words as they are laid, one after another. -/
def wdI : Nat → DataW Unit
  | 0 => ((DataW.map []).put (.string wBlock) (opD 0 0)).put (.string wPhi) (opD 1 0)
  | k + 1 => (wdI k).put (.string (wordS ((k : Nat) + 1 : Nat))) (opD 2 ((k : Nat) + 1 : Nat))
def wdT : Nat → DataW Unit
  | 0 => wdI 10
  | k + 1 => (wdT k).put (.string (terW ((k : Nat) + 1 : Nat))) (opD 3 ((k : Nat) + 1 : Nat))
set_option maxHeartbeats 1000000 in
set_option maxRecDepth 100000 in
theorem makeWords_any (w : World) (ht : Hid (OpTabW w)) (ht2 : Hid (TerTabW w)) :
    Calls Tryz.prog 40 #[] w fun e w' => e = .returned (.map (some w.heap.size)) ∧ Below w.heap.size w w' ∧ w'.ownsMap Tryz.prog 9 wordR w.heap.size 15 (wdT 3) := by
  have hmm := @run_makeMap Tryz.prog
  obtain ⟨W1, hr1, ho1, hg1⟩ := (World.ownsMap_made w Tryz.prog 9 wordR).update Tryz.keyS Tryz.underlying81 (by decide) (Go.WideMaps.keyOf_string_mk Tryz.underlying9 (s := strOf wBlock) (by decide)) (wordR_op 0 0)
  obtain ⟨W2, hr2, ho2, hg2⟩ := ho1.update Tryz.keyS Tryz.underlying81 (by decide) (Go.WideMaps.keyOf_string_mk Tryz.underlying9 (s := strOf wPhi) (by decide)) (wordR_op 1 0)
  have hr1' : (Instr.mapUpdate 81 (.map (some w.heap.size)) (.string ⟨#[98, 108, 111, 99, 107]⟩) (.agg #[.int .i64 0, .int .i64 0])).run Tryz.prog (w.alloc (.map #[] 0)) = .ok () W1 := hr1
  have hr2' : (Instr.mapUpdate 81 (.map (some w.heap.size)) (.string ⟨#[112, 104, 105]⟩) (.agg #[.int .i64 1, .int .i64 0])).run Tryz.prog W1 = .ok () W2 := hr2
  have HO2 : Hid (W2.ownsMap Tryz.prog 9 wordR w.heap.size 2 (wdI 0)) := hide ho2
  have HB2 : Hid (Below w.heap.size w W2) := hide (((balloc (Below.refl _ _) _).grown hg1 (balloc (Below.refl _ _) _).size (fun k hk => by cases hk; exact Nat.le_refl _)).grown hg2 (Nat.le_trans (balloc (Below.refl _ _) _).size hg1.size) (fun k hk => by cases hk; exact Nat.le_refl _))
  clear hr1 hr2 ho1 ho2 hg1 hg2
  go_enter Tryz.func40, Tryz.ntmps40
  go_wp2
  go_loopw [2] (fun i wr => ∃ k : Nat, k ≤ 10 ∧ i = .int .i64 ((k : Int) + 1) ∧ Hid (Below w.heap.size w wr) ∧ Hid (wr.ownsMap Tryz.prog 9 wordR w.heap.size (k + 2) (wdI k))) (fun i _ => 11 - (intOf i).toNat)
  case atStart => exact ⟨0, by omega, rfl, HB2, HO2⟩
  case round =>
    clear hr1' hr2' HO2 HB2
    obtain ⟨k, hk, rfl, HB, HO⟩ := hrel
    by_cases hlt : k < 10
    · obtain ⟨q0, -⟩ := (ht.out.keep HB.out ht.out.1).2 (k + 1) (by omega) (by omega)
      have HKE : Hid (keyOf Tryz.prog 9 (.string (strOf (wordS ((k + 1 : Nat) : Int)))) = some (.string (wordS ((k + 1 : Nat) : Int)))) := hide (Go.WideMaps.keyOf_string_mk Tryz.underlying9 (s := strOf (wordS ((k + 1 : Nat) : Int))) (by
        have hc : k = 0 ∨ k = 1 ∨ k = 2 ∨ k = 3 ∨ k = 4 ∨ k = 5 ∨ k = 6 ∨ k = 7 ∨ k = 8 ∨ k = 9 := by omega
        rcases hc with rfl | rfl | rfl | rfl | rfl | rfl | rfl | rfl | rfl | rfl <;> decide))
      have HD : Hid (wdI (k + 1) = (wdI k).put (.string (wordS ((k + 1 : Nat) : Int))) (opD 2 ((k + 1 : Nat) : Int))) := hide rfl
      generalize hws : wordS ((k + 1 : Nat) : Int) = ws at *
      clear hws
      go_wp2_with (at_mapUpdate; refine wpList_mapUpdate_own _ rfl _ _ _ 81 rfl 9 111 Tryz.keyS Tryz.underlying81 wordR w.heap.size (k + 2) _ rfl HO.out (by unfold maxLen; omega) _ _ _ rfl rfl HKE.out (opD 2 ((k + 1 : Nat) : Int)) [] (wordR_op 2 _) ?_; intro w1 hown1 hgrow1)
      exact ⟨⟨k + 1, by omega, by simp, hide (HB.out.grown hgrow1 HB.out.size (fun k hk => by cases hk; exact Nat.le_refl _)), hide (by rw [HD.out]; exact hown1)⟩, by simp [intOf]; omega⟩
    · have hk10 : k = 10 := by omega
      have hge : ¬ ((k : Int) + 1 ≤ 10) := by omega
      have HO10 : Hid (wr.ownsMap Tryz.prog 9 wordR w.heap.size 12 (wdT 0)) := hide (by have := HO.out; rw [hk10] at this; exact this)
      clear hlt hk10 HO
      generalize wr = wo at *
      go_wp2
      go_loopw [3] (fun i wr => ∃ k : Nat, k ≤ 3 ∧ i = .int .i64 ((k : Int) + 1) ∧ Hid (Below w.heap.size w wr) ∧ Hid (wr.ownsMap Tryz.prog 9 wordR w.heap.size (k + 12) (wdT k))) (fun i _ => 4 - (intOf i).toNat)
      case atStart => exact ⟨0, by omega, rfl, HB, HO10⟩
      case round =>
        clear HB HO10
        obtain ⟨k2, hk2, rfl, HB, HO⟩ := hrel
        by_cases hlt : k2 < 3
        · obtain ⟨q0, -⟩ := (ht2.out.keep HB.out ht2.out.1).2 (k2 + 1) (by omega) (by omega)
          have HKE : Hid (keyOf Tryz.prog 9 (.string (strOf (terW ((k2 + 1 : Nat) : Int)))) = some (.string (terW ((k2 + 1 : Nat) : Int)))) := hide (Go.WideMaps.keyOf_string_mk Tryz.underlying9 (s := strOf (terW ((k2 + 1 : Nat) : Int))) (by
            have hc : k2 = 0 ∨ k2 = 1 ∨ k2 = 2 := by omega
            rcases hc with rfl | rfl | rfl <;> decide))
          have HD : Hid (wdT (k2 + 1) = (wdT k2).put (.string (terW ((k2 + 1 : Nat) : Int))) (opD 3 ((k2 + 1 : Nat) : Int))) := hide rfl
          generalize hws : terW ((k2 + 1 : Nat) : Int) = ws at *
          clear hws
          go_wp2_with (at_mapUpdate; refine wpList_mapUpdate_own _ rfl _ _ _ 81 rfl 9 111 Tryz.keyS Tryz.underlying81 wordR w.heap.size (k2 + 12) _ rfl HO.out (by unfold maxLen; omega) _ _ _ rfl rfl HKE.out (opD 3 ((k2 + 1 : Nat) : Int)) [] (wordR_op 3 _) ?_; intro w1 hown1 hgrow1)
          exact ⟨⟨k2 + 1, by omega, by simp, hide (HB.out.grown hgrow1 HB.out.size (fun j hj => by cases hj; exact Nat.le_refl _)), hide (by rw [HD.out]; exact hown1)⟩, by simp [intOf]; omega⟩
        · have hk3 : k2 = 3 := by omega
          have hge2 : ¬ ((k2 : Int) + 1 ≤ 3) := by omega
          have HO3 : Hid (wr.ownsMap Tryz.prog 9 wordR w.heap.size 15 (wdT 3)) := hide (by have := HO.out; rw [hk3] at this; exact this)
          clear hlt hk3 HO
          go_wp2
          go_ret
          exact ⟨rfl, HB.out, HO3.out⟩
end Go.Proofs.YtdcdgopblbmgoaaGreatDoor
