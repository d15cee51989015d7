import Derived.Test.YtdcdgopblbmgoaaDoorE12
import Derived.Shelf.Strconv.AppendIntPublic10
import Derived.Shelf.Lay
import Derived.Ground.NamesProg
import Derived.Lib.AppendStr
import Derived.Lib.OthersKept
import Derived.Test.YtdcdgopblbmgoaaDoorE9a
import Derived.Test.YtdcdgopblbmgoaaDoorE7
/-
  appendLine of the program: strconv.AppendInt from the shelf.
-/
namespace Go.Proofs.YtdcdgopblbmgoaaDoor
open Go.RowKit Go.Shelf

shelf_lay LaysM.n176 Nm 176 at Tryd as Tryd.laysAI

def TabOk (B : Nat) (w : World) : Prop := Lib.TabBelow Tryd.prog B w "internal/strconv.uint64pow10" .u64 Lib.pow10Tab
theorem appendInt_any (B n : Nat) (i : Int) (h0 : -9223372036854775808 ≤ i) (h1 : i ≤ 9223372036854775807) (sv : Value) (xs : List Value) (w : World) (hown : w.ownsRow B 5 1 sv n xs) (hBw : B ≤ w.heap.size) (hlim : n + 21 ≤ 140737488355328)
    (htab : TabOk B w) :
    Calls Tryd.prog 104 #[sv, .int .i64 i, .int .i64 10] w fun e w' => ∃ v', e = .returned v' ∧ w'.ownsRow B 5 1 v' (n + (Lib.itoa i).length) (xs ++ Lib.byteCells (Lib.itoa i)) ∧ RowKit.Below B w w' ∧ Lib.OthersKept 5 none w w' :=
  Any.strconv_AppendInt_10 Tryd.laysAI B n i h0 h1 sv xs w hown hBw hlim htab

/-- What writing a line may do: below B nothing turns, and above it no block but rows of bytes. -/
structure Kp (B : Nat) (w w' : World) : Prop where
  below : Below B w w'
  kept : Lib.OthersKept 5 none w w'
theorem Kp.refl (B : Nat) (w : World) : Kp B w w := ⟨Below.refl _ _, Lib.OthersKept.refl _ _ _⟩
theorem Kp.trans {B : Nat} {a b c : World} (h : Kp B a b) (k : Kp B b c) : Kp B a c := ⟨h.below.trans k.below, h.kept.trans k.kept⟩
theorem Kp.alloc {B : Nat} {w w' : World} (h : Kp B w w') (hB : B ≤ w'.heap.size) (o : Obj) : Kp B w (w'.alloc o) := ⟨h.below.alloc hB o, h.kept.alloc o⟩
theorem own_cells {w : World} {B e s n g : Nat} {v : Value} {xs : List Value} (h : w.ownsRow B e s v n xs) (hg : v.ownBlock = some g) : ∃ c fz, w.heap[g]? = some (.cells c e fz) := by
  obtain ⟨hl, h0 | ⟨g', cap, cur, rfl, hb, hh, r⟩⟩ := h
  · rw [h0.1] at hg; cases hg
  · cases hg; exact ⟨_, _, hh⟩
theorem Kp.grown {B n : Nat} {W w w' : World} {u : Value} {xs : List Value} (h : Kp B W w) (hg : w.grownBy w' u.ownBlock) (ho : w.ownsRow B 5 1 u n xs) (hB : B ≤ w.heap.size) : Kp B W w' :=
  ⟨h.below.grown hg hB (fun k hk => (ho.lt k hk).1), h.kept.grown hg (fun _ e => own_cells ho e)⟩
theorem Kp.calm {B : Nat} {w w' : World} (h : Below w.heap.size w w') (hB : B ≤ w.heap.size) : Kp B w w' := ⟨h.mono hB, fun k _ hk _ _ => (h.block k ((Array.getElem?_eq_some_iff.1 hk).1)).trans hk⟩
theorem strCells_of (s : List UInt8) : Lib.strCells (strOf s) = bytesV s := by simp [Lib.strCells, bytesV, strOf]

set_option maxHeartbeats 1000000 in
set_option maxRecDepth 100000 in
theorem appendLine_any (B : Nat) (u : Value) (xs word : List UInt8) (a : Option Addr) (n c : Nat) (vs : List Int) (L M : Nat) (w : World) (hB : B ≤ w.heap.size)
    (ho : Hid (w.ownsRow B 5 1 u xs.length (bytesV xs))) (hlen : Hid (xs.length + (lineS word vs).length ≤ 1000000000000))
    (hv : Hid (∀ w', Kp B w w' → IntsAt w' L M a vs)) (hx : Hid (n = vs.length)) (hin : Hid (∀ v ∈ vs, InB v)) (htab : Hid (TabOk B w)) :
    Calls Tryd.prog 63 #[u, .string (strOf word), .slice a n c] w fun e w' => ∃ v, e = .returned v ∧ Kp B w w' ∧ w'.ownsRow B 5 1 v (xs ++ lineS word vs).length (bytesV (xs ++ lineS word vs)) := by
  obtain ⟨i0, hi0, hz0, hz1, hz2⟩ := info_parts Tryd.infoB
  go_enter Tryd.func63, Tryd.ntmps63
  have hsz : (strOf word).size = word.length := strOf_size word
  have HL0 : Hid (xs.length + word.length ≤ 1000000000000) := hide (by have := hlen.out; unfold lineS at this; simp only [List.length_append] at this; omega)
  have hnl : n ≤ 1000000000000 := by
    have := hlen.out; have e := hx.out; have q := numsS_len vs; unfold lineS at this; simp only [List.length_append] at this; omega
  go_wp2_with (at_builtin; refine Lib.wpList_append_own_string _ rfl _ _ 33 9 rfl B 5 i0 Tryd.underlying33 Tryd.underlying9 hi0 hz0 hz1 hz2 _ _ _ rfl ho.out (strOf word) rfl ?c1 ?c2 hB ?_)
  case c1 => have := HL0.out; unfold maxLen; omega
  case c2 => have := HL0.out; omega
  intro v1 w1 hown1 hgrow1 hne1
  have HK1 : Hid (Kp B w w1) := hide ((Kp.refl B w).grown hgrow1 ho.out hB)
  have HO1 : Hid (w1.ownsRow B 5 1 v1 (xs ++ word).length (bytesV (xs ++ word))) := hide (by rw [List.length_append, bytesV_app, ← strCells_of word, ← hsz]; exact hown1)
  clear hown1 hgrow1 hne1
  go_wp2
  go_loopw [0, 14] (fun x i wr => ∃ k : Nat, k ≤ n ∧ i = .int .i64 k ∧ Hid (Kp B w wr) ∧ Hid (wr.ownsRow B 5 1 x (xs ++ (word ++ numsS (vs.take k))).length (bytesV (xs ++ (word ++ numsS (vs.take k)))))) (fun _ i _ => n - (intOf i).toNat)
  case atStart => exact ⟨0, Nat.zero_le _, rfl, HK1, hide (by simpa [numsS] using HO1.out)⟩
  case round =>
    clear HK1 HO1
    obtain ⟨k, hk, rfl, HK, HO⟩ := hrel
    have hwz := HK.out.below.size
    by_cases hlt : k < n
    · have hkx : k < vs.length := by have := hx.out; omega
      obtain ⟨b, o, rfl, hbB, hc⟩ := (hv.out wr HK.out) k hkx
      have HI := hide (hin.out vs[k] (List.getElem_mem hkx))
      have HT : Hid (xs ++ (word ++ numsS (vs.take (k + 1))) = (xs ++ (word ++ numsS (vs.take k)) ++ [32]) ++ Lib.itoa vs[k]) := hide (by rw [List.take_succ_eq_append_getElem hkx, numsS_snoc]; simp)
      have HL : Hid ((xs ++ (word ++ numsS (vs.take k))).length + 1 ≤ 1000000000000) := hide (by
        have h1 := hlen.out; have h3 := numsS_take vs k
        unfold lineS at h1; simp only [List.length_append, List.length_cons] at h1 h3 ⊢; omega)
      generalize vs[k] = V at *
      generalize xs ++ (word ++ numsS (vs.take k)) = T at *
      go_wp2_with (at_builtin; refine wpList_append_own_at _ rfl _ _ 33 rfl B 5 i0 (.int .u8 0) 1 1 Tryd.underlying33 hi0 hz0 hz1 hz2 rfl (by decide) _ _ _ rfl (HO.out.alloc _) ⟨wr.heap.size, 0, none⟩ 1 1 [.int .u8 32] rfl rfl ?c1 ?c2 ?c3 ?c4 ?c5 ?_)
      case c1 => exact cell_one_new _ _ _
      case c2 => intro u hu; simp at hu; subst hu; rfl
      case c3 => have := HL.out; unfold maxLen; omega
      case c4 => have := HL.out; omega
      case c5 => simp; omega
      intro v1 w1 hown1 hgrow1 hne1 hat1
      have HO1 : Hid (w1.ownsRow B 5 1 v1 (T ++ [32]).length (bytesV (T ++ [32]))) := hide (by rw [bytesV_snoc, List.length_append]; exact hown1)
      have HK1 : Hid (Kp B w w1) := hide ((HK.out.alloc (by omega) _).grown hgrow1 (HO.out.alloc _) (by simp; omega))
      have hz1w : w.heap.size ≤ w1.heap.size := HK1.out.below.size
      clear hown1 hgrow1 hne1 hat1
      have HTB := hide (htab.out.on HK1.out.below)
      have HLL : Hid ((T ++ [(32 : UInt8)]).length + 21 ≤ 140737488355328) := hide (by have := HL.out; simp only [List.length_append, List.length_cons, List.length_nil]; omega)
      go_wp2_with (go_at_call 104; refine (appendInt_any B _ V (by have := HI.out; unfold InB at this; omega) (by have := HI.out; unfold InB at this; omega) v1 _ w1 HO1.out (by omega) HLL.out HTB.out).mono ?_; rintro e w2 ⟨x2, rfl, ho2, hb2, hk2⟩)
      have HK2 : Hid (Kp B w w2) := hide (HK1.out.trans ⟨hb2, hk2⟩)
      have HO2 : Hid (w2.ownsRow B 5 1 x2 (xs ++ (word ++ numsS (vs.take (k + 1)))).length (bytesV (xs ++ (word ++ numsS (vs.take (k + 1)))))) := hide (by rw [HT.out, bytesV_app, List.length_append (bs := Lib.itoa V)]; exact ho2)
      clear ho2 hb2 hk2
      go_wp2
      exact ⟨⟨k + 1, by omega, by go_num, HK2, HO2⟩, by simp [intOf]; omega⟩
    · have hkn : k = n := by omega
      have HO2 : Hid (wr.ownsRow B 5 1 u0 (xs ++ (word ++ numsS vs)).length (bytesV (xs ++ (word ++ numsS vs)))) := hide (by have := HO.out; rwa [List.take_of_length_le (by have := hx.out; omega)] at this)
      have HL : Hid ((xs ++ (word ++ numsS vs)).length + 1 ≤ 1000000000000) := hide (by have := hlen.out; unfold lineS at this; simp only [List.length_append, List.length_cons, List.length_nil] at this ⊢; omega)
      have HE : Hid (xs ++ lineS word vs = (xs ++ (word ++ numsS vs)) ++ [10]) := hide (by simp [lineS])
      generalize xs ++ (word ++ numsS vs) = T at *
      go_wp2_with (at_builtin; refine wpList_append_own_at _ rfl _ _ 33 rfl B 5 i0 (.int .u8 0) 1 1 Tryd.underlying33 hi0 hz0 hz1 hz2 rfl (by decide) _ _ _ rfl (HO2.out.alloc _) ⟨wr.heap.size, 0, none⟩ 1 1 [.int .u8 10] rfl rfl ?c1 ?c2 ?c3 ?c4 ?c5 ?_)
      case c1 => exact cell_one_new _ _ _
      case c2 => intro u hu; simp at hu; subst hu; rfl
      case c3 => have := HL.out; unfold maxLen; omega
      case c4 => have := HL.out; omega
      case c5 => simp; omega
      intro v1 w1 hown1 hgrow1 hne1 hat1
      have HO3 : Hid (w1.ownsRow B 5 1 v1 (xs ++ lineS word vs).length (bytesV (xs ++ lineS word vs))) := hide (by
        rw [HE.out, bytesV_snoc, List.length_append]; exact hown1)
      have HK3 : Hid (Kp B w w1) := hide ((HK.out.alloc (by omega) _).grown hgrow1 (HO2.out.alloc _) (by simp; omega))
      clear hown1 hgrow1 hne1 hat1
      go_wp2
      go_ret
      exact ⟨_, rfl, HK3.out, HO3.out⟩
end Go.Proofs.YtdcdgopblbmgoaaDoor

/-
  The fields that are used, and what they hold.
-/
namespace Go.Proofs.YtdcdgopblbmgoaaDoor
open Go.RowKit

/-- The fields of an instruction that are used: where they lie, and what they hold. -/
theorem fields_ins (x : Ins) (h : 1 ≤ x.op ∧ x.op ≤ 13) (b o : Nat) : ∃ l : List (Addr × Int), keepP [dB x.op, aB x.op, bB x.op, iB x.op] [⟨b, o + 1, none⟩, ⟨b, o + 2, none⟩, ⟨b, o + 3, none⟩, ⟨b, o + 4, none⟩] = l.map (·.1) ∧ picks x (lettersS x.op) = l.map (·.2) ∧
    ∀ q ∈ l, q ∈ [((⟨b, o + 1, none⟩ : Addr), x.dst), (⟨b, o + 2, none⟩, x.a), (⟨b, o + 3, none⟩, x.b), (⟨b, o + 4, none⟩, x.imm)] := by
  obtain ⟨op, dst, a, bb, imm⟩ := x
  simp only at h ⊢
  have hc : op = 1 ∨ op = 2 ∨ op = 3 ∨ op = 4 ∨ op = 5 ∨ op = 6 ∨ op = 7 ∨ op = 8 ∨ op = 9 ∨ op = 10 ∨ op = 11 ∨ op = 12 ∨ op = 13 := by omega
  rcases hc with rfl | rfl | rfl | rfl | rfl | rfl | rfl | rfl | rfl | rfl | rfl | rfl | rfl
  · exact ⟨[(⟨b, o + 1, none⟩, dst), (⟨b, o + 4, none⟩, imm)], rfl, rfl, by simp⟩
  · exact ⟨[(⟨b, o + 1, none⟩, dst), (⟨b, o + 4, none⟩, imm)], rfl, rfl, by simp⟩
  · exact ⟨[(⟨b, o + 1, none⟩, dst), (⟨b, o + 2, none⟩, a), (⟨b, o + 3, none⟩, bb)], rfl, rfl, by simp⟩
  · exact ⟨[(⟨b, o + 1, none⟩, dst), (⟨b, o + 2, none⟩, a), (⟨b, o + 3, none⟩, bb)], rfl, rfl, by simp⟩
  · exact ⟨[(⟨b, o + 1, none⟩, dst), (⟨b, o + 2, none⟩, a), (⟨b, o + 3, none⟩, bb)], rfl, rfl, by simp⟩
  · exact ⟨[(⟨b, o + 1, none⟩, dst), (⟨b, o + 2, none⟩, a), (⟨b, o + 3, none⟩, bb)], rfl, rfl, by simp⟩
  · exact ⟨[(⟨b, o + 1, none⟩, dst), (⟨b, o + 2, none⟩, a), (⟨b, o + 3, none⟩, bb)], rfl, rfl, by simp⟩
  · exact ⟨[(⟨b, o + 1, none⟩, dst), (⟨b, o + 2, none⟩, a)], rfl, rfl, by simp⟩
  · exact ⟨[(⟨b, o + 2, none⟩, a), (⟨b, o + 3, none⟩, bb)], rfl, rfl, by simp⟩
  · exact ⟨[(⟨b, o + 2, none⟩, a)], rfl, rfl, by simp⟩
  · exact ⟨[(⟨b, o + 1, none⟩, dst), (⟨b, o + 2, none⟩, a)], rfl, rfl, by simp⟩
  · exact ⟨[(⟨b, o + 2, none⟩, a)], rfl, rfl, by simp⟩
  · exact ⟨[(⟨b, o + 1, none⟩, dst)], rfl, rfl, by simp⟩
def picksT (t : Ter) : List Int := if t.kind = 1 then [t.to] else if t.kind = 3 then [t.a] else [t.a, t.to, t.els]
theorem termS_eq (t : Ter) : termS t = lineS (terW t.kind) (picksT t) := by
  unfold termS terW picksT
  repeat' split
  all_goals rfl
theorem fields_ter (x : Ter) (h : 1 ≤ x.kind ∧ x.kind ≤ 3) (b o : Nat) : ∃ l : List (Addr × Int), keepP [x.kind != 1, x.kind != 3, x.kind == 2] [⟨b, o + 1, none⟩, ⟨b, o + 2, none⟩, ⟨b, o + 3, none⟩] = l.map (·.1) ∧ picksT x = l.map (·.2) ∧
    ∀ q ∈ l, q ∈ [((⟨b, o + 1, none⟩ : Addr), x.a), (⟨b, o + 2, none⟩, x.to), (⟨b, o + 3, none⟩, x.els)] := by
  obtain ⟨kind, a, to, els⟩ := x
  simp only at h ⊢
  have hc : kind = 1 ∨ kind = 2 ∨ kind = 3 := by omega
  rcases hc with rfl | rfl | rfl
  · exact ⟨[(⟨b, o + 2, none⟩, to)], rfl, rfl, by simp⟩
  · exact ⟨[(⟨b, o + 1, none⟩, a), (⟨b, o + 2, none⟩, to), (⟨b, o + 3, none⟩, els)], rfl, rfl, by simp⟩
  · exact ⟨[(⟨b, o + 1, none⟩, a)], rfl, rfl, by simp⟩
end Go.Proofs.YtdcdgopblbmgoaaDoor
