import Derived.Test.YtdcdgopblbmgoaaGreatDoorE11a
import Derived.Test.YtdcdgopblbmgoaaGreatDoorQG
/-
  operation.takes of the program.
-/
namespace Go.Proofs.YtdcdgopblbmgoaaGreatDoor
open Go.RowKit Go.Shelf

def cntI (k : Nat) : Nat := [dB k, aB k, bB k, iB k].count true
def cntT (k : Nat) : Nat := [(k : Int) != 1, (k : Int) != 3, (k : Int) == 2].count true
theorem keepP_count (ks : List Bool) (ps : List Addr) (h : ks.length = ps.length) : (keepP ks ps).length = ks.count true := by
  induction ks generalizing ps with
  | nil => rfl
  | cons x r ih => cases ps with
    | nil => simp at h
    | cons q s => cases x <;> simp [keepP, ih s (by simpa using h)]
def opV (role code : Int) : Value := .agg #[.int .i64 role, .int .i64 code]
def takesB (role code n : Nat) : Bool := if role = 0 then n == 0 else if role = 1 then decide (2 ≤ n) else if role = 2 then n == cntI code else n == cntT code
theorem own_shape {w : World} {base e n : Nat} {v : Value} {vs : List Value} (h : w.ownsRow base e 1 v n vs) : ∃ a c, v = .slice a n c := by
  obtain ⟨a, c, rfl, _⟩ := vals_owned h
  have := h.1
  rw [Nat.mul_one] at this
  exact ⟨a, c, by rw [this]⟩
theorem usedI_cnt (b : Nat) (k : Nat) (w : World) (hi : InsAt w b 0 ⟨k, 0, 0, 0, 0⟩) (h1 : 1 ≤ k) (h2 : k ≤ 10) (ht : OpTabW w) :
    Calls Tryz.prog 94 #[.pointer (some ⟨b, 0, none⟩)] w fun e w' => (∃ a c, e = .returned (.slice a (cntI k) c)) ∧ Below w.heap.size w w' := by
  refine (usedI_any b k 0 0 0 0 w (hide hi) h1 (by omega) (hide ht)).mono ?_
  rintro e w' ⟨v, rfl, hb, ho⟩
  obtain ⟨a, c, rfl⟩ : ∃ a c, v = .slice a (cntI k) c := by
    rw [keepP_count _ _ rfl] at ho
    exact own_shape ho
  exact ⟨⟨a, c, rfl⟩, hb⟩
theorem usedT_cnt (b : Nat) (k : Nat) (w : World) (hi : TerAt w b 0 ⟨k, 0, 0, 0⟩) (h1 : 1 ≤ k) (h2 : k ≤ 3) (ht : TerTabW w) :
    Calls Tryz.prog 95 #[.pointer (some ⟨b, 0, none⟩)] w fun e w' => (∃ a c, e = .returned (.slice a (cntT k) c)) ∧ Below w.heap.size w w' := by
  refine (usedT_any b k 0 0 0 w (hide hi) h1 h2 (hide ht)).mono ?_
  rintro e w' ⟨v, rfl, hb, ho⟩
  obtain ⟨a, c, rfl⟩ : ∃ a c, v = .slice a (cntT k) c := by
    rw [keepP_count _ _ rfl] at ho
    exact own_shape ho
  exact ⟨⟨a, c, rfl⟩, hb⟩
theorem ins_new (W : World) (k : Nat) (b : Nat) (hb : b = W.heap.size) : InsAt (W.alloc (.cells #[.int .i64 k, .int .i64 0, .int .i64 0, .int .i64 0, .int .i64 0] 53)) b 0 ⟨k, 0, 0, 0, 0⟩ := by
  subst hb
  refine ⟨?_, ?_, ?_, ?_, ?_⟩ <;> rw [cell_of_row _ W.heap.size _ _ _ _ (heap_alloc_new W _)] <;> rfl
theorem ter_new (W : World) (k : Nat) (b : Nat) (hb : b = W.heap.size) : TerAt (W.alloc (.cells #[.int .i64 k, .int .i64 0, .int .i64 0, .int .i64 0] 42)) b 0 ⟨k, 0, 0, 0⟩ := by
  subst hb
  refine ⟨?_, ?_, ?_, ?_⟩ <;> rw [cell_of_row _ W.heap.size _ _ _ _ (heap_alloc_new W _)] <;> rfl

set_option maxHeartbeats 1000000 in
set_option maxRecDepth 100000 in
theorem takes_any (role code n : Nat) (w : World) (hr : role ≤ 3) (hn : n ≤ 1000000) (hci : role = 2 → 1 ≤ code ∧ code ≤ 10) (hct : role = 3 → 1 ≤ code ∧ code ≤ 3) (ht : Hid (OpTabW w)) (ht2 : Hid (TerTabW w)) :
    Calls Tryz.prog 76 #[opV role code, .int .i64 n] w fun e w' => e = .returned (.bool (takesB role code n)) ∧ Below w.heap.size w w' := by
  have hcase : role = 0 ∨ role = 1 ∨ role = 2 ∨ role = 3 := by omega
  have HB : Hid (∀ o, Below w.heap.size w (w.alloc o)) := hide (fun o => balloc (Below.refl _ _) o)
  unfold opV
  rcases hcase with rfl | rfl | rfl | rfl
  · have HV : Hid (takesB 0 code n = ((n : Int) == 0)) := hide (by
      show ((n == 0) = _)
      by_cases h : n = 0
      · subst h; rfl
      · rw [beq_eq_false_iff_ne.2 h, beq_eq_false_iff_ne.2 (by omega)])
    go_enter Tryz.func76, Tryz.ntmps76
    go_wp2
    go_ret
    exact ⟨ret_bool HV.out.symm, HB.out _⟩
  · have HV : Hid (takesB 1 code n = decide ((2 : Int) ≤ n)) := hide (by
      show decide _ = decide _
      rw [decide_eq_decide]; omega)
    go_enter Tryz.func76, Tryz.ntmps76
    go_wp2
    go_ret
    exact ⟨ret_bool HV.out.symm, HB.out _⟩
  · have HV : Hid (takesB 2 code n = ((n : Int) == (cntI code : Int))) := hide (by
      show ((n == cntI code) = _)
      by_cases h : n = cntI code
      · rw [← h]; simp
      · rw [beq_eq_false_iff_ne.2 h, beq_eq_false_iff_ne.2 (by omega)])
    have HU := hide (fun W (h : Below w.heap.size w W) b (hb : b = W.heap.size) => usedI_cnt b code _ (ins_new W code b hb) (hci rfl).1 (hci rfl).2 ((ht.out.keep h ht.out.1).keep (balloc (Below.refl W.heap.size W) _) (Nat.lt_of_lt_of_le ht.out.1 h.size)))
    clear hci hct
    generalize cntI code = cn at *
    go_enter Tryz.func76, Tryz.ntmps76
    go_wp2_with (go_at_call 94; refine (HU.out _ (HB.out _) _ (alloc_size _ _).symm).mono ?_; rintro e w2 ⟨⟨ua, uc, rfl⟩, hb2⟩; have HB2 := hide (((HB.out _).trans ((balloc (Below.refl _ _) _).mono (HB.out _).size)).trans (hb2.mono (balloc (HB.out _) _).size)); clear hb2)
    go_ret
    exact ⟨ret_bool HV.out.symm, HB2.out⟩
  · have HV : Hid (takesB 3 code n = ((n : Int) == (cntT code : Int))) := hide (by
      show ((n == cntT code) = _)
      by_cases h : n = cntT code
      · rw [← h]; simp
      · rw [beq_eq_false_iff_ne.2 h, beq_eq_false_iff_ne.2 (by omega)])
    have HU := hide (fun W (h : Below w.heap.size w W) b (hb : b = W.heap.size) => usedT_cnt b code _ (ter_new W code b hb) (hct rfl).1 (hct rfl).2 ((ht2.out.keep h ht2.out.1).keep (balloc (Below.refl W.heap.size W) _) (Nat.lt_of_lt_of_le ht2.out.1 h.size)))
    clear hci hct
    generalize cntT code = cn at *
    go_enter Tryz.func76, Tryz.ntmps76
    go_wp2_with (go_at_call 95; refine (HU.out _ (HB.out _) _ (alloc_size _ _).symm).mono ?_; rintro e w2 ⟨⟨ua, uc, rfl⟩, hb2⟩; have HB2 := hide (((HB.out _).trans ((balloc (Below.refl _ _) _).mono (HB.out _).size)).trans (hb2.mono (balloc (HB.out _) _).size)); clear hb2)
    go_ret
    exact ⟨ret_bool HV.out.symm, HB2.out⟩
end Go.Proofs.YtdcdgopblbmgoaaGreatDoor

/-
  fill of the program.
-/
namespace Go.Proofs.YtdcdgopblbmgoaaGreatDoor
open Go.RowKit Go.Shelf

/-- Numbers laid into cells of block b. -/
def fillW (w : World) (b : Nat) : List (Nat × Int) → World
  | [] => w
  | (o, x) :: r => fillW (w.setCell ⟨b, o, none⟩ (.int .i64 x)) b r
theorem fillW_snoc (b o : Nat) (x : Int) : ∀ (l : List (Nat × Int)) (w : World), fillW w b (l ++ [(o, x)]) = (fillW w b l).setCell ⟨b, o, none⟩ (.int .i64 x)
  | [], _ => rfl
  | (p, y) :: r, w => by rw [List.cons_append, fillW, fillW, fillW_snoc b o x r]
theorem fillW_block (b k : Nat) (h : k ≠ b) : ∀ (l : List (Nat × Int)) (w : World), (fillW w b l).heap[k]? = w.heap[k]?
  | [], _ => rfl
  | (p, y) :: r, w => by rw [fillW, fillW_block b k h r, Below.heap_setCell _ _ _ _ h]
theorem fillW_size (b : Nat) : ∀ (l : List (Nat × Int)) (w : World), (fillW w b l).heap.size = w.heap.size
  | [], _ => rfl
  | (p, y) :: r, w => by rw [fillW, fillW_size b r, size_setCell]
theorem fillW_row {b t N : Nat} : ∀ (l : List (Nat × Int)) (w : World) (f : Nat → Value), w.rowIs b t N f → ∃ g, (fillW w b l).rowIs b t N g
  | [], _, f, h => ⟨f, h⟩
  | (p, y) :: r, w, _, h => by rw [fillW]; exact fillW_row r _ _ (h.set p _)

set_option maxHeartbeats 1000000 in
set_option maxRecDepth 100000 in
theorem fill_any (b t N : Nat) (f0 : Nat → Value) (fa na : Option Addr) (n m fc nc L B L2 B2 : Nat) (l : List (Nat × Int)) (w : World) (hx : Hid (n = l.length)) (hm : Hid (n ≤ m)) (hn : n ≤ 1000000) (hrow : Hid (w.rowIs b t N f0)) (hN : Hid (∀ q ∈ l, q.1 < N))
    (hp : Hid (ValsAt w L B fa (l.map fun q => ptrV ⟨b, q.1, none⟩))) (hi : Hid (IntsAt w L2 B2 na (l.map (·.2)))) (hb1 : b < L ∨ B ≤ b) (hb2 : b < L2 ∨ B2 ≤ b) :
    Calls Tryz.prog 98 #[.slice fa n fc, .slice na m nc] w fun e w' => e = .returned (.tuple #[]) ∧ w' = fillW w b l := by
  go_enter Tryz.func98, Tryz.ntmps98
  go_wp2
  go_loopw [8] (fun i wr => ∃ k : Nat, k ≤ n ∧ i = .int .i64 k ∧ Hid (wr = fillW w b (l.take k))) (fun i _ => n - (intOf i).toNat)
  case atStart => exact ⟨0, Nat.zero_le _, rfl, hide rfl⟩
  case round =>
    obtain ⟨k, hk, rfl, HW⟩ := hrel
    by_cases hlt : k < n
    · have hkl : k < l.length := by have := hx.out; omega
      obtain ⟨g, hg⟩ := fillW_row (l.take k) w f0 hrow.out
      have HG := hide hg
      clear hg
      have hS1 : Same L B w (fillW w b (l.take k)) := fun j h1 h2 => fillW_block b j (by omega) _ _
      have hS2 : Same L2 B2 w (fillW w b (l.take k)) := fun j h1 h2 => fillW_block b j (by omega) _ _
      obtain ⟨b3, o3, rfl, h3, hc3⟩ := (hp.out.keepS hS1) k (by simpa using hkl)
      obtain ⟨b4, o4, rfl, h4, hc4⟩ := (hi.out.keepS hS2) k (by simpa using hkl)
      rw [List.getElem_map] at hc3 hc4
      unfold ptrV at hc3
      have HT : Hid (fillW w b (l.take (k + 1)) = (fillW w b (l.take k)).setCell ⟨b, l[k].1, none⟩ (.int .i64 l[k].2)) := hide (by rw [List.take_succ_eq_append_getElem hkl, fillW_snoc])
      have hoN := hN.out l[k] (List.getElem_mem hkl)
      rw [← HW.out] at hc3 hc4 HG HT
      have hth := hide (there_of_row (m := 1) HG.out (o := l[k].1) (by omega))
      have hmk : (k : Int) < (m : Int) := by have := hm.out; omega
      clear hS1 hS2
      generalize l[k].1 = O at *
      generalize l[k].2 = X at *
      have hcell : wr.cell? ⟨b, O, none⟩ = some (g O) := HG.out.cell hoN
      have hfz := HG.out.frozen O
      go_wp2
      exact ⟨⟨k + 1, by omega, by go_num, hide HT.out.symm⟩, by simp [intOf]; omega⟩
    · have HF : Hid (wr = fillW w b l) := hide (by rw [HW.out, List.take_of_length_le (by have := hx.out; omega)])
      go_wp2
      exact bodyPost_end (v := .tuple #[]) (by simp [results, Tryz.results98, go_sem]) rfl ⟨rfl, HF.out⟩
end Go.Proofs.YtdcdgopblbmgoaaGreatDoor
