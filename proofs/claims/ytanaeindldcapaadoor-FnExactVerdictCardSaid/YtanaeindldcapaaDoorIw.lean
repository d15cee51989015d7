import Derived.Deep.Slices
import Derived.Test.YtanaeindldcapaaDoorW7
import Derived.Maps.AppendAt
import Derived.OwnWalk
import Derived.Lib.ItoaMem
import Derived.Lib.UnsafeStr
import Derived.Deep.RegionHeld3
namespace Go.Proofs.YtanaeindldcapaaDoor
open Go.RowKit Go.Deep
section
/-- In the blocks from L to below B some numbers have turned into other numbers; nothing else has. -/
structure IW (L B : Nat) (w w' : World) : Prop where
  os : w'.os = w.os
  tape : w'.tape = w.tape
  output : w'.output = w.output
  size : w'.heap.size = w.heap.size
  block : ∀ k, ¬ (L ≤ k ∧ k < B) → w'.heap[k]? = w.heap[k]?
  cell : ∀ p, w'.cell? p = w.cell? p ∨ ∃ u v, w.cell? p = some (.int .i64 u) ∧ w'.cell? p = some (.int .i64 v)
  frozen : ∀ p, w'.frozen? p = w.frozen? p
variable {w w' w1 : World} {L B : Nat}
theorem IW.refl (L B : Nat) (w : World) : IW L B w w := ⟨rfl, rfl, rfl, rfl, fun _ _ => rfl, fun _ => Or.inl rfl, fun _ => rfl⟩
theorem IW.trans {w2 : World} (h : IW L B w w1) (k : IW L B w1 w2) : IW L B w w2 := by
  refine ⟨k.os.trans h.os, k.tape.trans h.tape, k.output.trans h.output, k.size.trans h.size, fun i hi => (k.block i hi).trans (h.block i hi), fun p => ?_, fun p => (k.frozen p).trans (h.frozen p)⟩
  rcases k.cell p with e | ⟨u, v, e1, e2⟩
  · rcases h.cell p with f | ⟨u, v, f1, f2⟩
    · exact Or.inl (e.trans f)
    · exact Or.inr ⟨u, v, f1, e.trans f2⟩
  · rcases h.cell p with f | ⟨u', v', f1, f2⟩
    · exact Or.inr ⟨u, v, f.symm.trans e1, e2⟩
    · exact Or.inr ⟨u', v, f1, e2⟩
theorem IW.set (h : IW L B w w1) {b o : Nat} (hp : L ≤ b ∧ b < B) {u : Int} (hc : w1.cell? ⟨b, o, none⟩ = some (.int .i64 u)) (v : Int) : IW L B w (w1.setCell ⟨b, o, none⟩ (.int .i64 v)) := by
  refine h.trans ⟨rfl, rfl, rfl, by simp [World.setCell], fun k hk => Below.heap_setCell _ _ _ _ (by dsimp only; omega), fun p => ?_, fun p => World.frozen?_setCell _ _ _ _⟩
  by_cases e : p = ⟨b, o, none⟩
  · subst e
    exact Or.inr ⟨u, v, hc, World.cell?_setCell_same _ _ _ hc⟩
  · exact Or.inl (World.cell?_setCell_other _ _ _ _ (fun h => e h.symm))
theorem IW.int (h : IW L B w w') {p : Addr} {u : Int} (hc : w.cell? p = some (.int .i64 u)) : ∃ v, w'.cell? p = some (.int .i64 v) := by
  rcases h.cell p with e | ⟨_, v, _, e⟩
  · exact ⟨u, e.trans hc⟩
  · exact ⟨v, e⟩
theorem IW.slice (h : IW L B w w') {p : Addr} {a : Option Addr} {n c : Nat} (hc : w.cell? p = some (.slice a n c)) : w'.cell? p = some (.slice a n c) := by
  rcases h.cell p with e | ⟨u, _, e, _⟩
  · exact e.trans hc
  · rw [hc] at e; cases e
/-- In the blocks from L to below B nothing is frozen. -/
def ThawB (L B : Nat) (w : World) : Prop := ∀ b o, L ≤ b ∧ b < B → w.frozen? ⟨b, o, none⟩ = false
theorem ThawB.of {L B : Nat} {w : World} (h : Thaw L w) : ThawB L B w := fun b o hb => h b o hb.1
theorem ThawB.keepS {L B : Nat} {w w' : World} (h : ThawB L B w) (k : Same L B w w') : ThawB L B w' := fun b o hb => (World.frozen?_of_block (k b hb.1 hb.2)).trans (h b o hb)
theorem ThawB.setCell {L B : Nat} {w : World} (h : ThawB L B w) (p : Addr) (v : Value) : ThawB L B (w.setCell p v) := fun b o hb => by rw [World.frozen?_setCell]; exact h b o hb
theorem IW.thaw (h : IW L B w w') {M : Nat} (t : Thaw M w) : Thaw M w' := fun b o hb => (h.frozen _).trans (t b o hb)
variable {L' B' : Nat} {a : Option Addr}
end
def bytesV (l : List UInt8) : List Value := l.map fun b => Value.int .u8 (b.toNat : Int)
theorem bytesV_snoc (l : List UInt8) (b : UInt8) : bytesV (l ++ [b]) = bytesV l ++ [Value.int .u8 (b.toNat : Int)] := by simp [bytesV]
/-- A slice of values that lie in one row. -/
def ValsAt (w : World) (L B : Nat) (a : Option Addr) (vs : List Value) : Prop := ∀ i (h : i < vs.length), ∃ b o, a = some ⟨b, o, none⟩ ∧ (L ≤ b ∧ b < B) ∧ w.cell? ⟨b, o + i, none⟩ = some vs[i]
theorem ValsAt.keepS {w w' : World} {L B : Nat} {a : Option Addr} {xs : List Value} (h : ValsAt w L B a xs) (k : Same L B w w') : ValsAt w' L B a xs := fun i hi => by
  obtain ⟨b, o, e, hb, hc⟩ := h i hi
  exact ⟨b, o, e, hb, by rw [cell_of (k b hb.1 hb.2)]; exact hc⟩
theorem vals_owned {w : World} {base e : Nat} {v : Value} {n : Nat} {xs : List Value} (h : w.ownsRow base e 1 v n xs) : ∃ a c, v = .slice a xs.length c ∧ ValsAt w base w.heap.size a xs := by
  obtain ⟨hl, h | ⟨g, cap, cur, rfl, hg, hh, hc, _, hs, ht⟩⟩ := h
  · obtain ⟨rfl, rfl⟩ := h
    have : xs = [] := by simpa using hl
    subst this
    exact ⟨_, _, rfl, fun i hi => absurd hi (by simp)⟩
  · simp only [Nat.mul_one] at hl hs ht
    subst hl
    refine ⟨_, _, rfl, fun i hi => ⟨g, 0, rfl, ⟨hg, ?_⟩, ?_⟩⟩
    · rcases Nat.lt_or_ge g w.heap.size with h1 | h1
      · exact h1
      · rw [Array.getElem?_eq_none h1] at hh; cases hh
    · rw [Nat.zero_add, cell_of_row w g i cur e (0, 0) hh, ← Array.getElem?_toList]
      have := congrArg (fun l : List Value => l[i]?) ht
      simp only [List.getElem?_take, hi, if_true] at this
      rw [this, List.getElem?_eq_getElem hi]
theorem vals_lit (w : World) (vs : List Value) (t : TypeId) : ValsAt (w.alloc (.cells vs.toArray t)) w.heap.size (w.heap.size + 1) (some ⟨w.heap.size, 0, none⟩) vs := fun i hi =>
  ⟨_, 0, rfl, ⟨Nat.le_refl _, Nat.lt_succ_self _⟩, by simp [hi]⟩
def BytesAt (w : World) (L B : Nat) (a : Option Addr) (bs : List UInt8) : Prop := ∀ i (h : i < bs.length), ∃ b o, a = some ⟨b, o, none⟩ ∧ (L ≤ b ∧ b < B) ∧ w.cell? ⟨b, o + i, none⟩ = some (.int .u8 (bs[i].toNat : Int))
theorem BytesAt.keepS {w w' : World} {L B : Nat} {a : Option Addr} {xs : List UInt8} (h : BytesAt w L B a xs) (k : Same L B w w') : BytesAt w' L B a xs := fun i hi => by
  obtain ⟨b, o, e, hb, hc⟩ := h i hi
  exact ⟨b, o, e, hb, by rw [cell_of (k b hb.1 hb.2)]; exact hc⟩
theorem BytesAt.keep {w w' : World} {L B : Nat} {a : Option Addr} {xs : List UInt8} (h : BytesAt w L B a xs) (k : Below B w w') : BytesAt w' L B a xs := h.keepS (Same.of_below k)
/-- A row of bytes that a call owns lies in one block, not frozen. -/
theorem bytes_owned {w : World} {base e n : Nat} {v : Value} {bs : List UInt8} (h : w.ownsRow base e 1 v n (bytesV bs)) : ∃ a c L B, v = .slice a bs.length c ∧ BytesAt w L B a bs ∧ ThawB L B w ∧ ((L = 0 ∧ B = 0) ∨ (B = L + 1 ∧ base ≤ L ∧ L < w.heap.size)) := by
  obtain ⟨hl, h0 | ⟨g, cap, cur, rfl, hg, hh, hc, _, hs, ht⟩⟩ := h
  · have : bs = [] := by
      have h2 := h0.2
      subst h2
      simpa [bytesV] using hl
    subst this
    exact ⟨none, 0, 0, 0, h0.1, fun i hi => absurd hi (by simp), fun b o hb => absurd hb (by omega), Or.inl ⟨rfl, rfl⟩⟩
  · have hgl : g < w.heap.size := (Array.getElem?_eq_some_iff.1 hh).1
    have hn : n = bs.length := by simpa [bytesV] using hl.symm
    subst hn
    refine ⟨_, _, g, g + 1, rfl, fun i hi => ⟨g, 0, rfl, ⟨Nat.le_refl _, Nat.lt_succ_self _⟩, ?_⟩, fun b o hb => ?_, Or.inr ⟨rfl, hg, hgl⟩⟩
    · rw [Nat.zero_add, cell_of_row w g i cur e (0, 0) hh, ← Array.getElem?_toList]
      have h3 := congrArg (fun l : List Value => l[i]?) ht
      simp only [List.getElem?_take, Nat.mul_one, hi, if_true] at h3
      rw [h3]
      simp [bytesV, hi]
    · have : b = g := by omega
      subst this
      unfold World.frozen?
      rw [hh]; simp
theorem own_base {w : World} {B B' e s n : Nat} {v : Value} {xs : List Value} (h : w.ownsRow B e s v n xs) (hb : B' ≤ B) : w.ownsRow B' e s v n xs := by
  obtain ⟨hl, h0 | ⟨g, cap, cur, hv, hg, r⟩⟩ := h
  · exact ⟨hl, .inl h0⟩
  · exact ⟨hl, .inr ⟨g, cap, cur, hv, Nat.le_trans hb hg, r⟩⟩
def ptrV (p : Addr) : Value := .pointer (some p)
/-- Those fields whose mark is set. -/
def keepP : List Bool → List Addr → List Addr
  | k :: ks, p :: ps => if k then p :: keepP ks ps else keepP ks ps
  | _, _ => []
theorem keepP_snoc (ks : List Bool) (ps : List Addr) (k : Bool) (p : Addr) (h : ks.length = ps.length) : keepP (ks ++ [k]) (ps ++ [p]) = keepP ks ps ++ (if k then [p] else []) := by
  induction ks generalizing ps with
  | nil => cases ps with
    | nil => cases k <;> rfl
    | cons q r => simp at h
  | cons x r ih => cases ps with
    | nil => simp at h
    | cons q s => cases x <;> simp [keepP, ih s (by simpa using h)]
theorem keepP_len (ks : List Bool) (ps : List Addr) : (keepP ks ps).length ≤ ps.length := by
  induction ks generalizing ps with
  | nil => simp [keepP]
  | cons x r ih => cases ps with
    | nil => simp [keepP]
    | cons q s => have := ih s; cases x <;> simp [keepP] <;> omega
theorem Tryd.infoPtr : (Tryd.prog.info? 153).map (fun i => (i.zero, i.size, i.bytes)) = some (some (.pointer none), 1, 8) := by kernel_rfl
theorem ptrs_snoc (l : List Addr) (v : Addr) : (l ++ [v]).map ptrV = l.map ptrV ++ [ptrV v] := by simp
theorem own_emptyP (w : World) : (w.alloc (.cells #[] 153)).ownsRow w.heap.size 153 1 (.slice (some ⟨w.heap.size, 0, none⟩) 0 0) 0 [] := by
  have := World.ownsRow_lit (base := w.heap.size) (e := 153) (size := 1) w #[] 0 (by simp) (by simp) rfl
  simpa using this
set_option maxHeartbeats 1000000 in
set_option maxRecDepth 100000 in
theorem chosen_any (ka fa : Option Addr) (kc fc : Nat) (ks : List Bool) (ps : List Addr) (L B : Nat) (w : World) (hB : B ≤ w.heap.size) (hk : Hid (ValsAt w L B ka (ks.map Value.bool))) (hp : Hid (ValsAt w L B fa (ps.map ptrV))) (hl : Hid (ks.length = ps.length)) (hs : ps.length ≤ 1000) :
    Calls Tryd.prog 86 #[.slice ka ks.length kc, .slice fa ps.length fc] w fun e w' => ∃ v, e = .returned v ∧ Below w.heap.size w w' ∧ w'.ownsRow w.heap.size 153 1 v (keepP ks ps).length ((keepP ks ps).map ptrV) := by
  obtain ⟨i0, hi0, hz0, hz1, hz2⟩ := info_parts Tryd.infoPtr
  go_enter Tryd.func86, Tryd.ntmps86
  go_wp2
  go_loopw [5, 11] (fun v i wr => ∃ k : Nat, k ≤ ps.length ∧ i = .int .i64 k ∧ Hid (Below w.heap.size w wr) ∧ Hid (wr.ownsRow w.heap.size 153 1 v (keepP (ks.take k) (ps.take k)).length ((keepP (ks.take k) (ps.take k)).map ptrV))) (fun _ i _ => ps.length - (intOf i).toNat)
  case atStart => exact ⟨0, Nat.zero_le _, rfl, hide (balloc (Below.refl _ _) _), hide (by simpa [keepP] using own_emptyP w)⟩
  case round =>
    obtain ⟨k, hk', rfl, HB, HO⟩ := hrel
    have hwz := HB.out.size
    by_cases hlt : k < ps.length
    · have hkk : k < ks.length := by have := hl.out; omega
      obtain ⟨b1, o1, rfl, ⟨_, hb1⟩, hc1⟩ := (hk.out.keepS (Same.of_below (HB.out.mono hB))) k (by simpa using hkk)
      obtain ⟨b2, o2, rfl, ⟨_, hb2⟩, hc2⟩ := (hp.out.keepS (Same.of_below (HB.out.mono hB))) k (by simpa using hlt)
      rw [List.getElem_map] at hc1 hc2
      unfold ptrV at hc2
      have HT : Hid (keepP (ks.take (k + 1)) (ps.take (k + 1)) = keepP (ks.take k) (ps.take k) ++ (if ks[k] then [ps[k]] else [])) := hide (by rw [List.take_succ_eq_append_getElem hkk, List.take_succ_eq_append_getElem hlt, keepP_snoc _ _ _ _ (by simp only [List.length_take]; omega)])
      have HL : Hid ((keepP (ks.take k) (ps.take k)).length + 1 ≤ 2000) := hide (by have := keepP_len (ks.take k) (ps.take k); simp only [List.length_take] at this; omega)
      generalize ks[k] = K at *
      generalize ps[k] = p at *
      cases K with
      | false =>
        have HO1 : Hid (wr.ownsRow w.heap.size 153 1 u5 (keepP (ks.take (k + 1)) (ps.take (k + 1))).length ((keepP (ks.take (k + 1)) (ps.take (k + 1))).map ptrV)) := hide (by rw [HT.out]; simpa using HO.out)
        go_wp2
        exact ⟨⟨k + 1, by omega, by go_num, HB, HO1⟩, by simp [intOf]; omega⟩
      | true =>
        have HT' : Hid (keepP (ks.take (k + 1)) (ps.take (k + 1)) = keepP (ks.take k) (ps.take k) ++ [p]) := hide (by have := HT.out; simpa using this)
        go_wp2_with (at_builtin; refine wpList_append_own_at _ rfl _ _ 148 rfl w.heap.size 153 i0 (.pointer none) 1 8 Tryd.underlying148 hi0 hz0 hz1 hz2 rfl (by decide) _ _ _ rfl (HO.out.alloc _) ⟨wr.heap.size, 0, none⟩ 1 1 [.pointer (some p)] rfl rfl ?c1 ?c2 ?c3 ?c4 ?c5 ?_)
        case c2 => first | rfl | simp | (intro u hu; simp at hu; subst hu; rfl)
        case c3 => have := HL.out; unfold maxLen; omega
        case c4 => have := HL.out; omega
        case c5 => first | omega | (simp; omega)
        intro v1 w1 hown1 hgrow1 hne1 hat1
        have HO1 : Hid (w1.ownsRow w.heap.size 153 1 v1 (keepP (ks.take (k + 1)) (ps.take (k + 1))).length ((keepP (ks.take (k + 1)) (ps.take (k + 1))).map ptrV)) := hide (by rw [HT'.out, ptrs_snoc, List.length_append]; exact hown1)
        have HB1 : Hid (Below w.heap.size w w1) := hide (grown_below ((HB.out).alloc (by omega) _) hgrow1 (HO.out.alloc _) (Nat.le_refl _) (by simp; omega))
        clear hown1 hgrow1 hne1 hat1
        go_wp2
        exact ⟨⟨k + 1, by omega, by go_num, HB1, HO1⟩, by simp [intOf]; omega⟩
    · have HO2 : Hid (wr.ownsRow w.heap.size 153 1 u5 (keepP ks ps).length ((keepP ks ps).map ptrV)) := hide (by have := HO.out; have e := hl.out; rwa [List.take_of_length_le (by omega), List.take_of_length_le (by omega)] at this)
      go_wp2
      go_ret
      exact ⟨_, rfl, HB.out, HO2.out⟩
/-- A text as a string. -/
def strOf (l : List UInt8) : ByteArray := ⟨l.toArray⟩
/-- What an append, or more of them, may do: the row's own block turns, or the row is a new one. -/
structure Gr (w w' : World) (u v : Value) : Prop where
  grown : w.grownBy w' u.ownBlock
  own : ∀ g, v.ownBlock = some g → w.heap.size ≤ g ∨ u.ownBlock = some g
theorem Gr.refl (w : World) (u : Value) : Gr w w u u := ⟨⟨rfl, rfl, rfl, Nat.le_refl _, fun _ _ _ => rfl⟩, fun _ h => Or.inr h⟩
theorem Gr.trans {a b c : World} {u v x : Value} (h : Gr a b u v) (k : Gr b c v x) : Gr a c u x :=
  ⟨⟨k.grown.os.trans h.grown.os, k.grown.tape.trans h.grown.tape, k.grown.output.trans h.grown.output, Nat.le_trans h.grown.size k.grown.size,
    fun i hi hne => (k.grown.block i (Nat.lt_of_lt_of_le hi h.grown.size) (fun e => by
      rcases h.own i e.symm with h1 | h1
      · omega
      · exact hne h1.symm)).trans (h.grown.block i hi hne)⟩,
   fun g hg => by
    rcases k.own g hg with h1 | h1
    · exact Or.inl (Nat.le_trans h.grown.size h1)
    · exact h.own g h1⟩
theorem Gr.below {w w' W : World} {u v : Value} {B e s n : Nat} {xs : List Value} (h : Gr w w' u v) (ho : w.ownsRow B e s u n xs) (hb : Below B W w) (hB : B ≤ w.heap.size) : Below B W w' :=
  hb.grown h.grown hB (fun k hk => (ho.lt k hk).1)
theorem Gr.alloc {w w' : World} {u v : Value} (h : Gr w w' u v) (o : Obj) : Gr w (w'.alloc o) u v :=
  ⟨⟨h.grown.os, h.grown.tape, h.grown.output, by have := h.grown.size; simp; omega, fun i hi hne => (Below.heap_alloc _ _ _ (Nat.lt_of_lt_of_le hi h.grown.size)).trans (h.grown.block i hi hne)⟩, h.own⟩
theorem Gr.same {w w' : World} {u v : Value} {L B : Nat} (h : Gr w w' u v) (hu : ∀ g, u.ownBlock = some g → g < L ∨ B ≤ g) (hB : B ≤ w.heap.size) : Same L B w w' := fun k h1 h2 =>
  h.grown.block k (by omega) (fun e => by have := hu k e.symm; omega)
def wordS (op : Int) : List UInt8 :=
  if op = 1 then [99, 111, 110, 115, 116] else if op = 2 then [97, 114, 103] else if op = 3 then [97, 100, 100] else if op = 4 then [115, 117, 98] else if op = 5 then [109, 117, 108]
  else if op = 6 then [100, 105, 118] else if op = 7 then [108, 101, 115, 115] else if op = 8 then [108, 111, 97, 100] else if op = 9 then [115, 116, 111, 114, 101] else if op = 11 then [109, 111, 118, 101] else if op = 12 then [112, 117, 116] else if op = 13 then [103, 101, 116] else [111, 117, 116]
theorem ints_snoc' (l : List Int) (v : Int) : (l ++ [v]).map (Value.int .i64) = l.map (Value.int .i64) ++ [Value.int .i64 v] := by simp
end Go.Proofs.YtanaeindldcapaaDoor
