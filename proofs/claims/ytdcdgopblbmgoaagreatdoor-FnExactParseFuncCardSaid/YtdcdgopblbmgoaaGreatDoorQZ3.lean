import Derived.Test.YtdcdgopblbmgoaaGreatDoorQZ1
import Derived.Test.YtdcdgopblbmgoaaGreatDoorQY
import Derived.Test.YtdcdgopblbmgoaaGreatDoorPR
/-
  impl.ParseFunc at every text.
-/
namespace Go.Proofs.YtdcdgopblbmgoaaGreatDoor
open Go.RowKit

/-- What the variable of package errors holds. -/
def ErrT (w : World) : Prop := w.cell? ⟨0, 0, none⟩ = some (.iface 121 (.agg #[.pointer (some ⟨6, 57, none⟩)]))
theorem ErrT.keep {w w' : World} (h : ErrT w) (k : Below w.heap.size w w') : ErrT w' := (k.cell (World.block_lt_of_cell? w _ h)).trans h
/-- An answer as it lies in memory; no two rows are one. -/
def ParsSep (w : World) (L B : Nat) (val : Value) (o : Pout) : Prop := ∃ va vc, val = .agg #[.int .i64 o.code, .int .i64 o.line, .int .i64 o.fn.values, .slice va o.fn.blocks.length vc] ∧ BlksSep w L B va o.fn.blocks
theorem asW_below {w0 w : World} {T : Nat} {s : Value} {c l : Int} (h : Below w0.heap.size w0 w) (hT : w0.heap.size ≤ T) : Below w0.heap.size w0 (asW w T s c l) :=
  (((((((h.alloc h.size _).alloc (by have := h.size; simp only [World.size_alloc]; omega) _).alloc (by have := h.size; simp only [World.size_alloc]; omega) _).alloc (by have := h.size; simp only [World.size_alloc]; omega) _).alloc (by have := h.size; simp only [World.size_alloc]; omega) _).setCell hT _).setCell hT _)

theorem asW_facts {w w3 : World} {T : Nat} {s : Value} {c l : Int} {o1 o2 : Value} (h : w3 = asW w T s c l) (h0 : w.cell? ⟨T, 0, none⟩ = some o1) (h1 : w.cell? ⟨T, 1, none⟩ = some o2) :
    w3.cell? ⟨T, 0, none⟩ = some (.int .i64 c) ∧ w3.cell? ⟨T, 1, none⟩ = some (.int .i64 l) ∧ (∀ b, b < w.heap.size → b ≠ T → w3.heap[b]? = w.heap[b]?) ∧ w.heap.size ≤ w3.heap.size := by
  have hT := World.block_lt_of_cell? w _ h0
  subst h
  unfold asW
  generalize hW : ((((w.alloc (.cells #[.pointer (some ⟨T, 0, none⟩)] 63)).alloc (.cells #[.pointer (some ⟨6, 63, none⟩), .pointer (some ⟨w.heap.size, 0, none⟩), .int .u64 150] 89)).alloc (.cells #[.pointer (some ⟨6, 63, none⟩), .pointer (some ⟨w.heap.size, 0, none⟩), .int .u64 150] 89)).alloc (.cells #[s, .iface 61 (.agg #[.int .i64 c, .int .i64 l])] 78)).alloc (.cells #[.int .i64 c, .int .i64 l] 61) = W
  have k : Below w.heap.size w W := by rw [← hW]; exact balloc (balloc (balloc (balloc (balloc (Below.refl _ _) _) _) _) _) _
  have e0 := (k.cell (p := ⟨T, 0, none⟩) hT).trans h0
  have e1 := (k.cell (p := ⟨T, 1, none⟩) hT).trans h1
  have e2 : (W.setCell ⟨T, 0, none⟩ (.int .i64 c)).cell? ⟨T, 1, none⟩ = some o2 := (World.cell?_setCell_other _ _ _ _ (by simp)).trans e1
  refine ⟨?_, World.cell?_setCell_same _ _ _ e2, fun b hb hn => ?_, by rw [size_setCell, size_setCell]; exact k.size⟩
  · exact (World.cell?_setCell_other _ _ _ _ (by simp)).trans (World.cell?_setCell_same _ _ _ e0)
  · exact (Below.heap_setCell _ _ _ _ hn).trans ((Below.heap_setCell _ _ _ _ hn).trans (k.block b hb))

set_option maxHeartbeats 4000000 in
set_option maxRecDepth 100000 in
theorem parseI_any (a : Option Addr) (n c L B : Nat) (text : List UInt8) (w : World) (hx : Hid (n = text.length)) (hnc : n ≤ c) (hc : c ≤ 9223372036854775807) (ha : Hid (BytesAt w L B a text)) (hm : Hid (MaxL w)) (hB : B ≤ w.heap.size) (ht : Hid (OpTabW w)) (ht2 : Hid (TerTabW w)) (hE : Hid (ErrT w)) :
    Calls Tryz.prog 6 #[.slice a n c] w fun e w' => ∃ val, e = .returned val ∧ Below w.heap.size w w' ∧ ParsSep w' w.heap.size w'.heap.size val (parseP text) := by
  have b1 : Below w.heap.size w (w.alloc (.cells #[.int .i64 0, .int .i64 0, .int .i64 0, .slice none 0 0] 27)) := balloc (Below.refl w.heap.size w) (.cells #[.int .i64 0, .int .i64 0, .int .i64 0, .slice none 0 0] 27)
  have hs0 : (w.alloc (.cells #[.int .i64 0, .int .i64 0, .int .i64 0, .slice none 0 0] 27)).heap.size = w.heap.size + 1 := World.size_alloc _ _
  have HRT : Hid (Calls Tryz.prog 21 #[.slice a n c] (w.alloc (.cells #[.int .i64 0, .int .i64 0, .int .i64 0, .slice none 0 0] 27)) fun e w' => TextAns (w.alloc (.cells #[.int .i64 0, .int .i64 0, .int .i64 0, .slice none 0 0] 27)) w' (parseP text) e) := hide (readText_any a n c L B text (w.alloc (.cells #[.int .i64 0, .int .i64 0, .int .i64 0, .slice none 0 0] 27)) hx hnc hc (hide (ha.out.keep (b1.mono hB))) (hide (MaxL.keep hm.out b1)) (by omega) (hide (ht.out.keep b1 ht.out.1)) (hide (ht2.out.keep b1 ht2.out.1)))
  have HRV : Hid (∀ W, Below (w.alloc (.cells #[.int .i64 0, .int .i64 0, .int .i64 0, .slice none 0 0] 27)).heap.size (w.alloc (.cells #[.int .i64 0, .int .i64 0, .int .i64 0, .slice none 0 0] 27)) W → Below w.heap.size w W ∧ w.heap.size < W.heap.size ∧ W.cell? ⟨w.heap.size, 0, none⟩ = some (.int .i64 0) ∧ W.cell? ⟨w.heap.size, 1, none⟩ = some (.int .i64 0) ∧ W.cell? ⟨w.heap.size, 2, none⟩ = some (.int .i64 0) ∧ W.cell? ⟨w.heap.size, 3, none⟩ = some (.slice none 0 0) ∧ (∀ o, W.frozen? ⟨w.heap.size, o, none⟩ = false) ∧ ErrT W) := hide (fun W k => by
    have k2 := k.size
    have kb := k.block w.heap.size (by omega)
    have hb := b1.trans (k.mono (by omega))
    exact ⟨hb, by omega, (cell_of kb).trans (by simp), (cell_of kb).trans (by simp), (cell_of kb).trans (by simp), (cell_of kb).trans (by simp), fun o => (World.frozen?_of_block kb).trans (by simp), ErrT.keep hE.out hb⟩)
  clear hx ha hm ht ht2 hE b1
  generalize parseP text = o at *
  by_cases h0 : o.code = 0
  · have HR2 : Hid (Calls Tryz.prog 21 #[.slice a n c] (w.alloc (.cells #[.int .i64 0, .int .i64 0, .int .i64 0, .slice none 0 0] 27)) fun e w1 => ∃ va vc, e = .returned (.tuple #[.agg #[.int .i64 o.fn.values, .slice va o.fn.blocks.length vc], .nilIface]) ∧ Below (w.alloc (.cells #[.int .i64 0, .int .i64 0, .int .i64 0, .slice none 0 0] 27)).heap.size (w.alloc (.cells #[.int .i64 0, .int .i64 0, .int .i64 0, .slice none 0 0] 27)) w1 ∧ Hid (o.line = 0 ∧ BlksSep w1 (w.alloc (.cells #[.int .i64 0, .int .i64 0, .int .i64 0, .slice none 0 0] 27)).heap.size w1.heap.size va o.fn.blocks)) := hide (HRT.out.mono (fun e w1 h => by
      rcases h with ⟨hb, ⟨_, h2, va, vc, h3, h4⟩ | ⟨h1, _⟩⟩
      · exact ⟨va, vc, h3, hb, ⟨h2, h4⟩⟩
      · exact absurd h0 h1))
    clear HRT
    go_enter Tryz.func6, Tryz.ntmps6
    go_wp2_with (go_at_call 21; refine HR2.out.mono ?_; rintro e w1 ⟨va, vc, rfl, hb1, hsp⟩; obtain ⟨hb, hsz, r0, r1, r2, r3, rz, _⟩ := HRV.out w1 hb1; have HB1 := hide hb; clear hb1 hb)
    go_wp2_with (go_at_call 22; refine (as_nil _ _).mono ?_; rintro e w2 ⟨rfl, rfl⟩)
    go_wp2
    refine bodyPost_ret (v := .agg #[.int .i64 0, .int .i64 0, .int .i64 o.fn.values, .slice va o.fn.blocks.length vc]) (by simp [results, Tryz.results6, go_sem, *]) rfl ?_
    refine ⟨_, rfl, ?_, va, vc, ?_, ?_⟩
    · exact balloc (balloc (HB1.out.setCell (Nat.le_refl _) _ |>.setCell (Nat.le_refl _) _ |>.setCell (Nat.le_refl _) _ |>.setCell (Nat.le_refl _) _) _) _
    · rw [h0, hsp.out.1]
      rfl
    · refine (hsp.out.2.keepS (fun b h1 h2 => ?_)).mono (by omega) ?_
      · rw [Below.heap_alloc _ _ _ (by simp; omega), Below.heap_alloc _ _ _ (by simp; omega), Below.heap_setCell _ _ _ _ (by dsimp only; omega), Below.heap_setCell _ _ _ _ (by dsimp only; omega), Below.heap_setCell _ _ _ _ (by dsimp only; omega), Below.heap_setCell _ _ _ _ (by dsimp only; omega)]
      · simp
        omega
  · have HR2 : Hid (Calls Tryz.prog 21 #[.slice a n c] (w.alloc (.cells #[.int .i64 0, .int .i64 0, .int .i64 0, .slice none 0 0] 27)) fun e w1 => ∃ s, e = .returned (.tuple #[.agg #[.int .i64 0, .slice none 0 0], .iface 78 (.agg #[.string s, .iface 61 (.agg #[.int .i64 o.code, .int .i64 o.line])])]) ∧ Below (w.alloc (.cells #[.int .i64 0, .int .i64 0, .int .i64 0, .slice none 0 0] 27)).heap.size (w.alloc (.cells #[.int .i64 0, .int .i64 0, .int .i64 0, .slice none 0 0] 27)) w1 ∧ Hid (o = badP o.code o.line)) := hide (HRT.out.mono (fun e w1 h => by
      rcases h with ⟨hb, ⟨h1, _⟩ | ⟨_, h2, s, h3⟩⟩
      · exact absurd h1 h0
      · exact ⟨s, h3, hb, h2⟩))
    clear HRT
    have HAS : Hid (∀ (W : World) (T : Nat) (s : ByteArray), ErrT W → W.cell? ⟨T, 0, none⟩ = some (.int .i64 0) → W.cell? ⟨T, 1, none⟩ = some (.int .i64 0) → (∀ q, W.frozen? ⟨T, q, none⟩ = false) → Calls Tryz.prog 22 #[.iface 78 (.agg #[.string s, .iface 61 (.agg #[.int .i64 o.code, .int .i64 o.line])]), .iface 63 (.pointer (some ⟨T, 0, none⟩))] W fun ev w' => ev = .returned (.bool true) ∧ w' = asW W T (.string s) o.code o.line) := hide (fun W T s h1 h2 h3 h4 => as_hit T (.string s) o.code o.line _ _ W h1 h2 h3 h4)
    go_enter Tryz.func6, Tryz.ntmps6
    go_wp2_with (go_at_call 21; refine HR2.out.mono ?_; rintro e w1 ⟨s, rfl, hb1, HO⟩; obtain ⟨hb, hsz, r0, r1, r2, r3, rz, hE⟩ := HRV.out w1 hb1; have HB1 := hide hb; have HE := hide hE; clear hb1 hb hE)
    go_wp2_with (go_at_call 22; refine (HAS.out _ _ _ (ErrT.keep HE.out (balloc (balloc (Below.refl _ _) _) _)) (by simp) (by simp) (fun q => by simp)).mono ?_; rintro e w3 ⟨rfl, hw3⟩; obtain ⟨f0, f1, f2, f3⟩ := asW_facts (T := w1.heap.size + 1) (o1 := .int .i64 0) (o2 := .int .i64 0) hw3 (by simp) (by simp); have kb := (f2 w.heap.size (by simp; omega) (by omega)).trans ((Below.heap_alloc _ _ _ (by simp; omega)).trans (Below.heap_alloc _ _ _ hsz)); have s0 := (cell_of kb).trans r0; have s1 := (cell_of kb).trans r1; have s2 := (cell_of kb).trans r2; have s3 := (cell_of kb).trans r3; have sz := fun o => (World.frozen?_of_block (a := ⟨w.heap.size, o, none⟩) kb).trans (rz o); (have HB3 : Hid (Below w.heap.size w w3) := hide (by rw [hw3]; exact asW_below (balloc (balloc HB1.out _) _) (by omega))); have hsz3 : w.heap.size < w3.heap.size := (by simp at f3; omega); clear hw3 kb f2 f3 r0 r1 r2 r3 rz)
    refine bodyPost_ret (v := .agg #[.int .i64 o.code, .int .i64 o.line, .int .i64 0, .slice none 0 0]) (by simp [results, Tryz.results6, go_sem, *]) rfl ?_
    refine ⟨_, rfl, ?_, none, 0, ?_, ?_⟩
    · exact (HB3.out.setCell (Nat.le_refl _) _ |>.setCell (Nat.le_refl _) _ |>.setCell (Nat.le_refl _) _ |>.setCell (Nat.le_refl _) _)
    · rw [HO.out]
      rfl
    · rw [HO.out]
      exact Or.inl rfl
end Go.Proofs.YtdcdgopblbmgoaaGreatDoor

/-
  spec.ParseFunc of texts that are refused ahead of their lines.
-/
namespace Go.Proofs.YtdcdgopblbmgoaaGreatDoor
open Go.RowKit

set_option maxRecDepth 100000 in
set_option maxHeartbeats 2000000 in
theorem parseS_long (a : Option Addr) (n c : Nat) (text : List UInt8) (w : World) (hx : n = text.length) (hl : 100000 < n) (hl2 : n ≤ 9223372036854775807) :
    Calls Tryz.prog 4 #[.slice a n c] w fun e w' => ∃ val, e = .returned val ∧ Below w.heap.size w w' ∧ ParsAt w' w.heap.size w'.heap.size val (parseP text) := by
  have HP : Hid (parseP text = badP 1 0) := hide (by unfold parseP; rw [if_pos (by omega)])
  clear hx
  have HB := fun t => hide (balloc (Below.refl w.heap.size w) (.cells #[.int .i64 0, .int .i64 0, .int .i64 0, .slice none 0 0] t))
  have HR := fun t => hide (RZ.new w t)
  go_enter Tryz.func4, Tryz.ntmps4
  go_wp2_with (go_at_call 12; refine (l1Refuse_any _ _ _).mono ?_; rintro e w1 ⟨rfl, hb1⟩; obtain ⟨⟨r0, r1, r2, r3⟩, rz⟩ := (HR _).out.keep (hb1.block _ (by simp)); have HB1 := hide (bnext (HB _).out hb1); clear hb1)
  exact bodyPost_ret (v := .agg #[.int .i64 1, .int .i64 0, .int .i64 0, .slice none 0 0]) (by simp [results, Tryz.results4, go_sem, r0, r1, r2, r3]) rfl ⟨_, rfl, set4W_below HB1.out (Nat.le_refl _) _ _ _ _, by rw [HP.out]; exact pars_bad 1 0 0 rfl⟩

set_option maxRecDepth 100000 in
set_option maxHeartbeats 2000000 in
theorem parseS_noend (a : Option Addr) (n c : Nat) (text : List UInt8) (L B : Nat) (w : World) (ha : Hid (BytesAt w L B a text)) (hx : Hid (n = text.length)) (hl : n ≤ 100000) (hB : B ≤ w.heap.size) (he : Hid (text.getLast? ≠ some 10)) :
    Calls Tryz.prog 4 #[.slice a n c] w fun e w' => ∃ val, e = .returned val ∧ Below w.heap.size w w' ∧ ParsAt w' w.heap.size w'.heap.size val (parseP text) := by
  have HP : Hid (parseP text = badP 2 0) := hide (by have := hx.out; unfold parseP; rw [if_neg (by omega), if_pos he.out])
  have HB := fun t => hide (balloc (Below.refl w.heap.size w) (.cells #[.int .i64 0, .int .i64 0, .int .i64 0, .slice none 0 0] t))
  have HR := fun t => hide (RZ.new w t)
  by_cases h0 : n = 0
  · subst h0
    go_enter Tryz.func4, Tryz.ntmps4
    go_wp2_with (go_at_call 12; refine (l1Refuse_any _ _ _).mono ?_; rintro e w1 ⟨rfl, hb1⟩; obtain ⟨⟨r0, r1, r2, r3⟩, rz⟩ := (HR _).out.keep (hb1.block _ (by simp)); have HB1 := hide (bnext (HB _).out hb1); clear hb1)
    exact bodyPost_ret (v := .agg #[.int .i64 2, .int .i64 0, .int .i64 0, .slice none 0 0]) (by simp [results, Tryz.results4, go_sem, r0, r1, r2, r3]) rfl ⟨_, rfl, set4W_below HB1.out (Nat.le_refl _) _ _ _ _, by rw [HP.out]; exact pars_bad 2 0 0 rfl⟩
  · have hn1 : 1 ≤ n := by omega
    have hm : n - 1 < text.length := by have := hx.out; omega
    obtain ⟨b, o, rfl, ⟨_, hb⟩, hc⟩ := ha.out (n - 1) hm
    have hne : ((text[n - 1].toNat : Int) != 10) = true := by
      rw [bne_iff_ne]
      intro e
      apply he.out
      rw [List.getLast?_eq_getElem?, show text.length - 1 = n - 1 by have := hx.out; omega, List.getElem?_eq_getElem hm]
      congr 1
      exact UInt8.toNat_inj.1 (by show text[n - 1].toNat = 10; omega)
    have hcc := fun t => ((HB t).out.cell (p := ⟨b, o + (n - 1), none⟩) (by show b < _; omega)).trans hc
    generalize text[n - 1].toNat = T at *
    clear hm hc h0
    go_enter Tryz.func4, Tryz.ntmps4
    go_wp2_with (go_at_call 12; refine (l1Refuse_any _ _ _).mono ?_; rintro e w1 ⟨rfl, hb1⟩; obtain ⟨⟨r0, r1, r2, r3⟩, rz⟩ := (HR _).out.keep (hb1.block _ (by simp)); have HB1 := hide (bnext (HB _).out hb1); clear hb1)
    exact bodyPost_ret (v := .agg #[.int .i64 2, .int .i64 0, .int .i64 0, .slice none 0 0]) (by simp [results, Tryz.results4, go_sem, r0, r1, r2, r3]) rfl ⟨_, rfl, set4W_below HB1.out (Nat.le_refl _) _ _ _ _, by rw [HP.out]; exact pars_bad 2 0 0 rfl⟩
end Go.Proofs.YtdcdgopblbmgoaaGreatDoor
