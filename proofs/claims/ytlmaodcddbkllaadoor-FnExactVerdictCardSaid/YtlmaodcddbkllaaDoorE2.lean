import Derived.Test.YtlmaodcddbkllaaDoorE1
import Derived.Test.YtlmaodcddbkllaaDoorW7
import Derived.Test.YtlmaodcddbkllaaDoorW10
import Derived.Maps.AppendAt
import Derived.Test.YtlmaodcddbkllaaDoorSP0
import Derived.Test.YtlmaodcddbkllaaDoorPure2
import Derived.Test.YtlmaodcddbkllaaDoorW5
/-
  l1Put of the model: a text behind a row of bytes.
-/
namespace Go.Proofs.YtlmaodcddbkllaaDoor
open Go.RowKit

theorem Tryd.infoB : (Tryd.prog.info? 5).map (fun i => (i.zero, i.size, i.bytes)) = some (some (.int .u8 0), 1, 1) := by kernel_rfl


/-- What an append, or more of them, may do: the row's own block turns, or the row is a new one. -/
structure Gr (w w' : World) (u v : Value) : Prop where
  grown : w.grownBy w' u.ownBlock
  own : ∀ g, v.ownBlock = some g → w.heap.size ≤ g ∨ u.ownBlock = some g

theorem Gr.refl (w : World) (u : Value) : Gr w w u u := ⟨⟨rfl, rfl, rfl, Nat.le_refl _, fun _ _ _ => rfl⟩, fun _ h => Or.inr h⟩
theorem Gr.trans {a b c : World} {u v x : Value} (h : Gr a b u v) (k : Gr b c v x) : Gr a c u x :=
  ⟨⟨k.grown.os.trans h.grown.os, k.grown.tape.trans h.grown.tape, k.grown.output.trans h.grown.output, Nat.le_trans h.grown.size k.grown.size,
    fun i hi hne => (k.grown.block i (Nat.lt_of_lt_of_le hi h.grown.size) (fun e => by
      rcases h.own i e.symm with h1 | h1
      · omega
      · exact hne h1.symm)).trans (h.grown.block i hi hne)⟩,
   fun g hg => by
    rcases k.own g hg with h1 | h1
    · exact Or.inl (Nat.le_trans h.grown.size h1)
    · exact h.own g h1⟩
theorem Gr.below {w w' W : World} {u v : Value} {B e s n : Nat} {xs : List Value} (h : Gr w w' u v) (ho : w.ownsRow B e s u n xs) (hb : Below B W w) (hB : B ≤ w.heap.size) : Below B W w' :=
  hb.grown h.grown hB (fun k hk => (ho.lt k hk).1)
theorem Gr.alloc {w w' : World} {u v : Value} (h : Gr w w' u v) (o : Obj) : Gr w (w'.alloc o) u v :=
  ⟨⟨h.grown.os, h.grown.tape, h.grown.output, by have := h.grown.size; simp; omega, fun i hi hne => (Below.heap_alloc _ _ _ (Nat.lt_of_lt_of_le hi h.grown.size)).trans (h.grown.block i hi hne)⟩, h.own⟩

set_option maxHeartbeats 400000 in
set_option maxRecDepth 100000 in
theorem put_any (B : Nat) (u : Value) (xs : List UInt8) (s : List UInt8) (w : World) (hB : B ≤ w.heap.size)
    (ho : Hid (w.ownsRow B 5 1 u xs.length (bytesV xs))) (hn : Hid (u ≠ .slice none 0 0)) (hlen : Hid (xs.length + s.length ≤ 1000000000000)) :
    Calls Tryd.prog 188 #[u, .string (strOf s)] w fun e w' => ∃ v, e = .returned v ∧ Gr w w' u v ∧ v ≠ .slice none 0 0 ∧ w'.ownsRow B 5 1 v (xs ++ s).length (bytesV (xs ++ s)) := by
  go_enter Tryd.func188, Tryd.ntmps188
  obtain ⟨i0, hi0, hz0, hz1, hz2⟩ := info_parts Tryd.infoB
  have hsz : (strOf s).size = s.length := strOf_size s
  have hs62 : s.length ≤ 1000000000000 := by have := hlen.out; omega
  go_wp2
  go_loopw [0, 5] (fun x i wr => ∃ k : Nat, k ≤ s.length ∧ i = .int .i64 k ∧ Hid (Gr w wr u x) ∧ Hid (x ≠ .slice none 0 0) ∧ Hid (wr.ownsRow B 5 1 x (xs ++ s.take k).length (bytesV (xs ++ s.take k)))) (fun _ i _ => s.length - (intOf i).toNat)
  case atStart => exact ⟨0, Nat.zero_le _, rfl, hide (Gr.refl _ _), hn, hide (by simpa using ho.out)⟩
  case round =>
    obtain ⟨k, hk, rfl, HG, HN, HO⟩ := hrel
    have hwz := HG.out.grown.size
    by_cases hlt : k < s.length
    · have hk2 : k < (strOf s).size := by omega
      have HT : Hid (xs ++ s.take (k + 1) = (xs ++ s.take k) ++ [(strOf s)[k]]) := hide (by rw [List.take_succ_eq_append_getElem hlt, List.append_assoc]; rfl)
      have HL : Hid ((xs ++ s.take k).length + 1 ≤ 1000000000000) := hide (by have := hlen.out; simp only [List.length_append, List.length_take]; omega)
      go_wp2_with (at_builtin; refine wpList_append_own_at _ rfl _ _ 22 rfl B 5 i0 (.int .u8 0) 1 1 Tryd.underlying22 hi0 hz0 hz1 hz2 rfl (by decide) _ _ _ rfl (HO.out.alloc _) ⟨wr.heap.size, 0, none⟩ 1 1 [.int .u8 (((strOf s)[k]).toNat : Int)] rfl rfl ?c1 ?c2 ?c3 ?c4 ?c5 ?_)
      case c1 => exact cell_one_new _ _ _
      case c2 => intro u hu; simp at hu; subst hu; rfl
      case c3 => have := HL.out; unfold maxLen; omega
      case c4 => have := HL.out; omega
      case c5 => simp; omega
      intro v1 w1 hown1 hgrow1 hne1 hat1
      have HO1 : Hid (w1.ownsRow B 5 1 v1 (xs ++ s.take (k + 1)).length (bytesV (xs ++ s.take (k + 1)))) := hide (by rw [show (xs ++ s.take (k + 1)).length = xs.length + k + 1 by simp only [List.length_append, List.length_take]; omega, HT.out, bytesV_snoc]; exact hown1)
      have HN1 : Hid (v1 ≠ .slice none 0 0) := hide hne1
      have HG1 : Hid (Gr w w1 u v1) := hide (HG.out.trans (Gr.trans ((Gr.refl _ _).alloc _) ⟨hgrow1, fun g hg => by
        rcases hat1 with h | h
        · exact Or.inr (h ▸ hg)
        · rw [h] at hg; cases hg; exact Or.inl (by simp)⟩))
      clear hown1 hgrow1 hne1 hat1
      go_wp2
      exact ⟨⟨k + 1, by omega, by go_num, HG1, HN1, HO1⟩, by simp [intOf]; omega⟩
    · have hks : k = s.length := by omega
      have HO2 : Hid (wr.ownsRow B 5 1 u0 (xs ++ s).length (bytesV (xs ++ s))) := hide (by have := HO.out; rwa [List.take_of_length_le (by omega)] at this)
      go_wp2
      go_ret
      exact ⟨_, rfl, HG.out, HN.out, HO2.out⟩
end Go.Proofs.YtlmaodcddbkllaaDoor

/-
  l1PutLine of the model: a line behind a row of bytes.
-/
namespace Go.Proofs.YtlmaodcddbkllaaDoor
open Go.RowKit

/-- The numbers of a line, each behind a blank. -/
def numsS : List Int → List UInt8
  | [] => []
  | v :: r => 32 :: (Lib.itoa v ++ numsS r)
theorem numsS_snoc (a : List Int) (v : Int) : numsS (a ++ [v]) = numsS a ++ 32 :: Lib.itoa v := by
  induction a with
  | nil => simp [numsS]
  | cons x r ih => simp [numsS, ih]
theorem numsS_append (a b : List Int) : numsS (a ++ b) = numsS a ++ numsS b := by
  induction a with
  | nil => rfl
  | cons x r ih => simp [numsS, ih]
theorem numsS_len (a : List Int) : a.length ≤ (numsS a).length := by
  induction a with
  | nil => exact Nat.zero_le _
  | cons x r ih => simp only [numsS, List.length_cons, List.length_append]; omega
theorem numsS_take (a : List Int) (k : Nat) : (numsS (a.take k)).length ≤ (numsS a).length := by
  have := congrArg List.length (numsS_append (a.take k) (a.drop k))
  rw [List.take_append_drop, List.length_append] at this; omega
def lineS (word : List UInt8) (vs : List Int) : List UInt8 := word ++ (numsS vs ++ [10])

theorem Gr.same {w w' : World} {u v : Value} {L B : Nat} (h : Gr w w' u v) (hu : ∀ g, u.ownBlock = some g → g < L ∨ B ≤ g) (hB : B ≤ w.heap.size) : Same L B w w' := fun k h1 h2 =>
  h.grown.block k (by omega) (fun e => by have := hu k e.symm; omega)

theorem Gr.calm {w w' : World} (h : Below w.heap.size w w') (u : Value) : Gr w w' u u := ⟨⟨h.os, h.tape, h.output, h.size, fun k hk _ => h.block k hk⟩, fun _ e => Or.inr e⟩
theorem own_calm {w w' : World} {B e s n : Nat} {u : Value} {xs : List Value} (ho : w.ownsRow B e s u n xs) (h : Below w.heap.size w w') : w'.ownsRow B e s u n xs := by
  refine ho.kept (row := none) ⟨h.os, h.tape, h.output, h.size, fun k hk _ => h.block k hk⟩ ?_
  cases hu : u.ownBlock with
  | none => exact Or.inl rfl
  | some g => exact Or.inr (by simp)

set_option maxHeartbeats 400000 in
set_option maxRecDepth 100000 in
theorem putLine_any (B : Nat) (u : Value) (xs word : List UInt8) (a : Option Addr) (n c : Nat) (vs : List Int) (L M : Nat) (w : World) (hB : B ≤ w.heap.size)
    (ho : Hid (w.ownsRow B 5 1 u xs.length (bytesV xs))) (hn : Hid (u ≠ .slice none 0 0)) (hlen : Hid (xs.length + (lineS word vs).length ≤ 1000000000000))
    (hv : Hid (IntsAt w L M a vs)) (hm : M ≤ w.heap.size) (hap : Hid (∀ g, u.ownBlock = some g → g < L ∨ M ≤ g)) (hx : Hid (n = vs.length)) (hin : Hid (∀ v ∈ vs, -9223372036854775807 ≤ v ∧ v ≤ 9223372036854775807)) :
    Calls Tryd.prog 141 #[u, .string (strOf word), .slice a n c] w fun e w' => ∃ v, e = .returned v ∧ Gr w w' u v ∧ v ≠ .slice none 0 0 ∧ w'.ownsRow B 5 1 v (xs ++ lineS word vs).length (bytesV (xs ++ lineS word vs)) := by
  obtain ⟨i0, hi0, hz0, hz1, hz2⟩ := info_parts Tryd.infoB
  go_enter Tryd.func141, Tryd.ntmps141
  have HL0 : Hid (xs.length + word.length ≤ 1000000000000) := hide (by have := hlen.out; unfold lineS at this; simp only [List.length_append] at this; omega)
  go_wp2_with (go_at_call 188; refine (put_any B u xs word w hB ho hn HL0).mono ?_; rintro e w1 ⟨x1, rfl, hg1, hn1, ho1⟩)
  have HG1 := hide hg1
  have HN1 := hide hn1
  have HO1 := hide ho1
  have hz1' := hg1.grown.size
  clear hg1 hn1 ho1
  have hnl : n ≤ 1000000000000 := by
    have := hlen.out; have e := hx.out; have q := numsS_len vs; unfold lineS at this; simp only [List.length_append] at this; omega
  go_wp2
  go_loopw [0, 7] (fun x i wr => ∃ k : Nat, k ≤ n ∧ i = .int .i64 k ∧ Hid (Gr w wr u x) ∧ Hid (x ≠ .slice none 0 0) ∧ Hid (wr.ownsRow B 5 1 x (xs ++ (word ++ numsS (vs.take k))).length (bytesV (xs ++ (word ++ numsS (vs.take k)))))) (fun _ i _ => n - (intOf i).toNat)
  case atStart => exact ⟨0, Nat.zero_le _, rfl, HG1, HN1, hide (by simpa [numsS] using HO1.out)⟩
  case round =>
    clear HG1 HN1 HO1 hz1'
    obtain ⟨k, hk, rfl, HG, HN, HO⟩ := hrel
    have hwz := HG.out.grown.size
    by_cases hlt : k < n
    · have hkx : k < vs.length := by have := hx.out; omega
      obtain ⟨b, o, rfl, hbB, hc⟩ := (hv.out.keepS (HG.out.same hap.out hm)) k hkx
      have HI := hide (hin.out vs[k] (List.getElem_mem hkx))
      have HT : Hid (xs ++ (word ++ numsS (vs.take (k + 1))) = (xs ++ (word ++ numsS (vs.take k))) ++ 32 :: Lib.itoa vs[k]) := hide (by rw [List.take_succ_eq_append_getElem hkx, numsS_snoc]; simp)
      have HL : Hid ((xs ++ (word ++ numsS (vs.take k))).length + (32 :: Lib.itoa vs[k]).length ≤ 1000000000000) := hide (by
        have h1 := hlen.out; have h2 := congrArg List.length HT.out; have h3 := numsS_take vs (k + 1)
        unfold lineS at h1; simp only [List.length_append, List.length_cons] at h1 h2 h3 ⊢; omega)
      generalize vs[k] = V at *
      have hcl : ¬ 9223372036854775807 < 1 + (strOf (Lib.itoa V)).size := by
        rw [strOf_size]; have := HL.out; simp only [List.length_append, List.length_cons] at this; omega
      have HE : Hid ((⟨#[32]⟩ : ByteArray) ++ strOf (Lib.itoa V) = strOf (32 :: Lib.itoa V)) := hide (by exact strOf_append [32] _)
      go_wp2_with (go_at_call 189; refine (dec_int V HI.out.1 HI.out.2 _).mono ?_; rintro e w2 ⟨rfl, hb2⟩)
      have HB2 := hide hb2
      have s2 := hb2.size
      clear hb2
      have HO2 := hide (own_calm HO.out HB2.out)
      go_wp2_with (go_at_call 188; rw [HE.out]; refine (put_any B u0 _ _ w2 (by omega) HO2 HN HL).mono ?_; rintro e w3 ⟨x3, rfl, hg3, hn3, ho3⟩)
      have HG3 : Hid (Gr w w3 u x3) := hide (HG.out.trans ((Gr.calm HB2.out _).trans hg3))
      have HN3 := hide hn3
      have HO3 : Hid (w3.ownsRow B 5 1 x3 (xs ++ (word ++ numsS (vs.take (k + 1)))).length (bytesV (xs ++ (word ++ numsS (vs.take (k + 1)))))) := hide (by rw [HT.out]; exact ho3)
      clear hg3 hn3 ho3
      go_wp2
      exact ⟨⟨k + 1, by omega, by go_num, HG3, HN3, HO3⟩, by simp [intOf]; omega⟩
    · have hkn : k = n := by omega
      have HO2 : Hid (wr.ownsRow B 5 1 u0 (xs ++ (word ++ numsS vs)).length (bytesV (xs ++ (word ++ numsS vs)))) := hide (by have := HO.out; rwa [List.take_of_length_le (by have := hx.out; omega)] at this)
      have HL : Hid ((xs ++ (word ++ numsS vs)).length + 1 ≤ 1000000000000) := hide (by have := hlen.out; unfold lineS at this; simp only [List.length_append, List.length_cons, List.length_nil] at this ⊢; omega)
      go_wp2_with (at_builtin; refine wpList_append_own_at _ rfl _ _ 22 rfl B 5 i0 (.int .u8 0) 1 1 Tryd.underlying22 hi0 hz0 hz1 hz2 rfl (by decide) _ _ _ rfl (HO2.out.alloc _) ⟨wr.heap.size, 0, none⟩ 1 1 [.int .u8 10] rfl rfl ?c1 ?c2 ?c3 ?c4 ?c5 ?_)
      case c1 => exact cell_one_new _ _ _
      case c2 => intro u hu; simp at hu; subst hu; rfl
      case c3 => have := HL.out; unfold maxLen; omega
      case c4 => have := HL.out; omega
      case c5 => simp; omega
      intro v1 w1 hown1 hgrow1 hne1 hat1
      have HO3 : Hid (w1.ownsRow B 5 1 v1 (xs ++ lineS word vs).length (bytesV (xs ++ lineS word vs))) := hide (by
        have e : xs ++ lineS word vs = (xs ++ (word ++ numsS vs)) ++ [10] := by simp [lineS]
        rw [e, bytesV_snoc, show ((xs ++ (word ++ numsS vs)) ++ [(10 : UInt8)]).length = xs.length + (word.length + (numsS vs).length) + 1 by simp only [List.length_append, List.length_cons, List.length_nil]]; exact hown1)
      have HN3 := hide hne1
      have HG3 : Hid (Gr w w1 u v1) := hide (HG.out.trans (Gr.trans ((Gr.refl _ _).alloc _) ⟨hgrow1, fun g hg => by
        rcases hat1 with h | h
        · exact Or.inr (h ▸ hg)
        · rw [h] at hg; cases hg; exact Or.inl (by simp)⟩))
      clear hown1 hgrow1 hne1 hat1
      go_wp2
      go_ret
      exact ⟨_, rfl, HG3.out, HN3.out, HO3.out⟩
end Go.Proofs.YtlmaodcddbkllaaDoor

/-
  l1Word of the model.
-/
namespace Go.Proofs.YtlmaodcddbkllaaDoor
open Go.RowKit

def wordS (op : Int) : List UInt8 :=
  if op = 1 then [99, 111, 110, 115, 116] else if op = 2 then [97, 114, 103] else if op = 3 then [97, 100, 100] else if op = 4 then [115, 117, 98] else if op = 5 then [109, 117, 108]
  else if op = 6 then [100, 105, 118] else if op = 7 then [108, 101, 115, 115] else if op = 8 then [108, 111, 97, 100] else if op = 9 then [115, 116, 111, 114, 101] else if op = 11 then [109, 111, 118, 101] else if op = 12 then [112, 117, 116] else if op = 13 then [103, 101, 116] else [111, 117, 116]

set_option maxHeartbeats 1000000 in
theorem l1Word_any (op : Int) (h : 1 ≤ op ∧ op ≤ 13) (w : World) :
    Calls Tryd.prog 190 #[.int .i64 op] w fun e w' => e = .returned (.string (strOf (wordS op))) ∧ w' = w := by
  have hc : op = 1 ∨ op = 2 ∨ op = 3 ∨ op = 4 ∨ op = 5 ∨ op = 6 ∨ op = 7 ∨ op = 8 ∨ op = 9 ∨ op = 10 ∨ op = 11 ∨ op = 12 ∨ op = 13 := by omega
  rcases hc with rfl | rfl | rfl | rfl | rfl | rfl | rfl | rfl | rfl | rfl | rfl | rfl | rfl
  all_goals
    clear h
    go_enter Tryd.func190, Tryd.ntmps190
    go_wp2
    go_ret
    exact ⟨rfl, rfl⟩
end Go.Proofs.YtlmaodcddbkllaaDoor

/-
  l1Word and l1PutTerm of the model.
-/
namespace Go.Proofs.YtlmaodcddbkllaaDoor
open Go.RowKit

/-- The end of a block as a line. -/
def termS (t : Ter) : List UInt8 :=
  if t.kind = 1 then lineS [106, 117, 109, 112] [t.to] else if t.kind = 3 then lineS [114, 101, 116] [t.a] else lineS [98, 114, 97, 110, 99, 104] [t.a, t.to, t.els]

/-- Numbers that a call has just laid down. -/
theorem ints_lit (w : World) (vs : List Int) : IntsAt (w.alloc (.cells (vs.map (Value.int .i64)).toArray 2)) w.heap.size (w.heap.size + 1) (some ⟨w.heap.size, 0, none⟩) vs := fun i hi =>
  ⟨_, 0, rfl, ⟨Nat.le_refl _, Nat.lt_succ_self _⟩, by simp [hi]⟩
theorem lit_any (B : Nat) (u : Value) (xs word : List UInt8) (vs : List Int) (o : Obj) (w : World) (hB : B ≤ w.heap.size)
    (ho : Hid (w.ownsRow B 5 1 u xs.length (bytesV xs))) (hn : Hid (u ≠ .slice none 0 0)) (hlen : Hid (xs.length + (lineS word vs).length ≤ 1000000000000))
    (hin : ∀ v ∈ vs, -9223372036854775807 ≤ v ∧ v ≤ 9223372036854775807) :
    Calls Tryd.prog 141 #[u, .string (strOf word), .slice (some ⟨w.heap.size + 1, 0, none⟩) vs.length vs.length] ((w.alloc o).alloc (.cells (vs.map (Value.int .i64)).toArray 2)) fun e w' =>
      ∃ v, e = .returned v ∧ Gr w w' u v ∧ v ≠ .slice none 0 0 ∧ w'.ownsRow B 5 1 v (xs ++ lineS word vs).length (bytesV (xs ++ lineS word vs)) := by
  have hI := ints_lit (w.alloc o) vs
  have hz : (w.alloc o).heap.size = w.heap.size + 1 := by simp
  rw [hz] at hI
  refine (putLine_any B u xs word _ _ vs.length vs (w.heap.size + 1) (w.heap.size + 1 + 1) _ (by simp; omega) (hide ((ho.out.alloc _).alloc _)) hn hlen (hide hI) (by simp) (hide (fun g hg => Or.inl (by have := (ho.out.lt g hg).2; omega))) (hide rfl) (hide hin)).mono ?_
  rintro e w' ⟨v, rfl, h1, h2, h3⟩
  exact ⟨v, rfl, (((Gr.refl _ _).alloc _).alloc _).trans h1, h2, h3⟩

set_option maxHeartbeats 400000 in
set_option maxRecDepth 100000 in
theorem putTerm_any (B : Nat) (u : Value) (xs : List UInt8) (t : Ter) (w : World) (hB : B ≤ w.heap.size) (hk : t.kind = 1 ∨ t.kind = 2 ∨ t.kind = 3)
    (ho : Hid (w.ownsRow B 5 1 u xs.length (bytesV xs))) (hn : Hid (u ≠ .slice none 0 0)) (hlen : Hid (xs.length + (termS t).length ≤ 1000000000000))
    (hin : Hid (∀ v ∈ [t.a, t.to, t.els], -9223372036854775807 ≤ v ∧ v ≤ 9223372036854775807)) :
    Calls Tryd.prog 143 #[u, .agg #[.int .i64 t.kind, .int .i64 t.a, .int .i64 t.to, .int .i64 t.els]] w fun e w' => ∃ v, e = .returned v ∧ Gr w w' u v ∧ v ≠ .slice none 0 0 ∧ w'.ownsRow B 5 1 v (xs ++ termS t).length (bytesV (xs ++ termS t)) := by
  obtain ⟨kind, ta, to, els⟩ := t
  simp only at hk hin ⊢
  rcases hk with rfl | rfl | rfl
  · go_enter Tryd.func143, Tryd.ntmps143
    go_wp2_with (go_at_call 141; refine (lit_any B u xs [106, 117, 109, 112] [to] _ w hB ho hn hlen (fun v h => hin.out v (by simp at h ⊢; omega))).mono ?_; rintro e w1 ⟨x1, rfl, hg1, hn1, ho1⟩)
    have HG := hide hg1
    have HN := hide hn1
    have HO := hide ho1
    clear hg1 hn1 ho1
    go_wp2
    go_ret
    exact ⟨_, rfl, HG.out, HN.out, HO.out⟩
  · go_enter Tryd.func143, Tryd.ntmps143
    go_wp2_with (go_at_call 141; refine (lit_any B u xs [98, 114, 97, 110, 99, 104] [ta, to, els] _ w hB ho hn hlen (fun v h => hin.out v (by simp at h ⊢; omega))).mono ?_; rintro e w1 ⟨x1, rfl, hg1, hn1, ho1⟩)
    have HG := hide hg1
    have HN := hide hn1
    have HO := hide ho1
    clear hg1 hn1 ho1
    go_wp2
    go_ret
    exact ⟨_, rfl, HG.out, HN.out, HO.out⟩
  · go_enter Tryd.func143, Tryd.ntmps143
    go_wp2_with (go_at_call 141; refine (lit_any B u xs [114, 101, 116] [ta] _ w hB ho hn hlen (fun v h => hin.out v (by simp at h ⊢; omega))).mono ?_; rintro e w1 ⟨x1, rfl, hg1, hn1, ho1⟩)
    have HG := hide hg1
    have HN := hide hn1
    have HO := hide ho1
    clear hg1 hn1 ho1
    go_wp2
    go_ret
    exact ⟨_, rfl, HG.out, HN.out, HO.out⟩
end Go.Proofs.YtlmaodcddbkllaaDoor
