import Derived.Test.YtdcdgopblbmgoaaGreatDoorE18a
import Derived.Deep.DrawnRows
import Derived.Test.YtdcdgopblbmgoaaGreatDoorW1
import Derived.ProofKit
import Derived.Deep.Slices
import Derived.Lib.SmallJoins
/-
  The law on ParseFunc.
-/
namespace Go.Proofs.YtdcdgopblbmgoaaGreatDoor
open Go.RowKit
attribute [local go_sem ↓] Go.wp_at_zero Go.wp_at_succ

/-- A variable that holds an answer. -/
structure PV (w : World) (b : Nat) (co : Int) (li : Nat) (V : Int) (a : Option Addr) (n c : Nat) : Prop where
  c0 : w.cell? ⟨b, 0, none⟩ = some (.int .i64 co)
  c1 : w.cell? ⟨b, 1, none⟩ = some (.int .i64 li)
  c2 : w.cell? ⟨b, 2, none⟩ = some (.int .i64 V)
  c3 : w.cell? ⟨b, 3, none⟩ = some (.slice a n c)
theorem PV.keep {w w' : World} {b : Nat} {co : Int} {li : Nat} {V : Int} {a : Option Addr} {n c : Nat} (h : PV w b co li V a n c) (k : w'.heap[b]? = w.heap[b]?) : PV w' b co li V a n c := ⟨(cell_of k).trans h.c0, (cell_of k).trans h.c1, (cell_of k).trans h.c2, (cell_of k).trans h.c3⟩
theorem PV.new (w : World) (co : Int) (li : Nat) (V : Int) (a : Option Addr) (n c t : Nat) : PV (w.alloc (.cells #[.int .i64 co, .int .i64 li, .int .i64 V, .slice a n c] t)) w.heap.size co li V a n c := ⟨by simp, by simp, by simp, by simp⟩

/-- What the law keeps in its hands: the model's answer, the program's, the argument. -/
structure LSP (w : World) (b0 b4 L1 B1 X B3 L3 B4 : Nat) (co : Int) (li : Nat) (V : Int) (va0 va4 : Option Addr) (vc0 vc4 : Nat) (xs : List Blk) (text : List UInt8) (W : World) : Prop where
  below : Below w.heap.size w W
  f : PV W b0 co li V va0 xs.length vc0
  g : PV W b4 co li V va4 xs.length vc4
  p : BlksAt W L1 B1 va0 xs
  q : BlksSep W L3 B4 va4 xs
  b : BytesAt W X B3 (some ⟨X, 0, none⟩) text
  y : ThawB X B3 W
  z : w.heap.size ≤ L1 ∧ L1 ≤ B1 ∧ B1 ≤ b0 ∧ b0 < X ∧ X ≤ B3 ∧ B3 ≤ L3 ∧ L3 ≤ B4 ∧ B4 ≤ b4 ∧ b4 < W.heap.size
theorem LSP.next {w : World} {b0 b4 L1 B1 X B3 L3 B4 : Nat} {co : Int} {li : Nat} {V : Int} {va0 va4 : Option Addr} {vc0 vc4 : Nat} {xs : List Blk} {text : List UInt8} {W W' : World} (h : LSP w b0 b4 L1 B1 X B3 L3 B4 co li V va0 va4 vc0 vc4 xs text W) (k : Below W.heap.size W W') : LSP w b0 b4 L1 B1 X B3 L3 B4 co li V va0 va4 vc0 vc4 xs text W' := by
  have hz := h.z
  have hs := k.size
  exact ⟨bnext h.below k, h.f.keep (k.block _ (by omega)), h.g.keep (k.block _ (by omega)), h.p.keep (k.mono (by omega)), h.q.keepS (fun q _ q2 => k.block q (by omega)), h.b.keep (k.mono (by omega)), h.y.keepS (fun q _ q2 => k.block q (by omega)), by omega⟩

set_option maxRecDepth 100000 in
set_option maxHeartbeats 4000000 in
theorem lawParse_any (a : Option Addr) (n c : Nat) (text : List UInt8) (w : World) (ha : Hid (BytesAt w 0 w.heap.size a text)) (hx : Hid (n = text.length)) (hn : n ≤ 9223372036854775807) (hO : Hid (OpTabW w)) (hT : Hid (TerTabW w)) (hM : Hid (MaxL w)) (hE : Hid (ErrT w)) :
    Calls Tryz.prog 3 #[.slice a n c] w fun e w' => e = .returned (.bool true) ∧ Below w.heap.size w w' := by
  by_cases hbig : 1048576 < n
  · go_enter Tryz.func3, Tryz.ntmps3
    go_wp2
    go_ret
    exact ⟨rfl, Below.refl _ _⟩
  have hnn : n ≤ 1048576 := by omega
  have hpt := parse_tot text
  have hlen := hide (len_of_tot (Nat.le_trans hpt (by omega)))
  have hsc : shsCnt ((parseP text).fn.blocks.map Blk.sh) ≤ 10000000 := by have := shs_tot (parseP text).fn.blocks; omega
  have HI : Hid (∀ (W : World) (L : Nat), Below w.heap.size w W → BytesAt W L W.heap.size (some ⟨L, 0, none⟩) text → Calls Tryz.prog 6 #[.slice (some ⟨L, 0, none⟩) n n] W fun e w' => ∃ val, e = .returned val ∧ Below W.heap.size W w' ∧ ParsSep w' W.heap.size w'.heap.size val (parseP text)) := hide (fun W L k hb => parseI_any _ n n L W.heap.size text W hx (Nat.le_refl _) (by omega) (hide hb) (hide (MaxL.keep hM.out k)) (Nat.le_refl _) (hide (hO.out.keep k hO.out.1)) (hide (hT.out.keep k hT.out.1)) (hide (ErrT.keep hE.out k)))
  have HSP : Hid (∀ (W : World) (L : Nat), BytesAt W L W.heap.size (some ⟨L, 0, none⟩) text → Calls Tryz.prog 4 #[.slice (some ⟨L, 0, none⟩) n n] W fun e w' => ∃ val, e = .returned val ∧ Below W.heap.size W w' ∧ ParsAt w' W.heap.size w'.heap.size val (parseP text)) := hide (fun W L hb => parseS_any _ n n text L W.heap.size W (hide hb) hx (Nat.le_refl _) (by omega) (Nat.le_refl _))
  clear hO hT hM hE hbig
  generalize parseP text = OO at *
  obtain ⟨co, li, V, xs⟩ := OO
  dsimp only at *
  have hxl : xs.length ≤ 100000 := by omega
  go_enter Tryz.func3, Tryz.ntmps3
  go_wp2_with fail
  refine (toBytes_any a n c text 0 w.heap.size w ha hx hnn (Nat.le_refl _)).mono ?_
  rintro e w1 ⟨rfl, hb1, hi1, -⟩
  have s1 := hb1.size
  have HB1 := hide hb1
  have HI1 := hide hi1
  clear hb1 hi1
  go_wp2_with fail
  refine (HSP.out w1 w.heap.size HI1.out).mono ?_
  rintro e w2 ⟨val0, rfl, hb2, va0, vc0, rfl, hy2⟩
  have s2 := hb2.size
  have HB2 := hide (bnext HB1.out hb2)
  have HY2 := hide hy2
  clear hb2 hy2 HI1
  go_wp2_with fail
  refine (toBytes_any a n c text 0 w.heap.size _ (hide (ha.out.keep (balloc HB2.out _))) hx hnn (by simp; omega)).mono ?_
  rintro e w3 ⟨rfl, hb3, hi3, ht3⟩
  have s3 := hb3.size
  simp only [World.size_alloc] at s3 hi3 ht3
  have F3 := (PV.new w2 co li V va0 xs.length vc0 27).keep (hb3.block _ (by simp))
  have h23 : Below w2.heap.size w2 w3 := bnext (balloc (Below.refl _ _) _) hb3
  have HB3 := hide (bnext HB2.out h23)
  have HY3 := hide (HY2.out.keep h23)
  have HI3 := hide hi3
  have HT3 := hide ht3
  clear hb3 hi3 ht3 h23 HY2 HB2
  go_wp2_with fail
  refine (HI.out w3 (w2.heap.size + 1) HB3.out HI3.out).mono ?_
  rintro e w4 ⟨val4, rfl, hb4, va4, vc4, rfl, hy4⟩
  have s4 := hb4.size
  have F4 := F3.keep (hb4.block _ (by omega))
  have HB4 := hide (bnext HB3.out hb4)
  have HY4 := hide (HY3.out.keepS (w' := w4) (fun q q1 q2 => hb4.block q (by omega)))
  have HI4 := hide (HI3.out.keep (w' := w4) (hb4.mono (by omega)))
  have HT4 := hide ((ThawB.of (B := w3.heap.size) HT3.out).keepS (w' := w4) (fun q q1 q2 => hb4.block q (by omega)))
  have HS4 := hide hy4
  clear hb4 hy4 F3 HB3 HY3 HI3 HT3
  have F4a := fun x => F4.keep ((balloc (Below.refl w4.heap.size w4) x).block w2.heap.size (by omega))
  have f0 := fun x => (F4a x).c0
  have f1 := fun x => (F4a x).c1
  have f2 := fun x => (F4a x).c2
  have f3 := fun x => (F4a x).c3
  go_wp2_with fail
  have b4 := fun x => balloc (Below.refl w4.heap.size w4) x
  have HL4 : Hid (LSP w w2.heap.size w4.heap.size w1.heap.size w2.heap.size (w2.heap.size + 1) w3.heap.size w3.heap.size w4.heap.size co li V va0 va4 vc0 vc4 xs text (w4.alloc (.cells #[.int .i64 co, .int .i64 li, .int .i64 V, .slice va4 xs.length vc4] 27))) := hide ⟨balloc HB4.out _, F4a _, PV.new w4 co li V va4 xs.length vc4 27, HY4.out.keep ((b4 _).mono (by omega)), HS4.out.keepS (fun q _ q2 => (b4 _).block q q2), HI4.out.keep ((b4 _).mono (by omega)), HT4.out.keepS (fun q _ q2 => (b4 _).block q (by omega)), by simp; omega⟩
  clear f0 f1 f2 f3 F4a F4 b4 HB4 HY4 HI4 HT4 HS4
  refine (eqParsed_yes co li V va4 va0 xs.length vc4 vc0 xs w3.heap.size w4.heap.size w1.heap.size w2.heap.size _ (hide HL4.out.q.blks) (hide HL4.out.p) (hide rfl) hlen (by omega) (by simp) (by simp; omega)).mono ?_
  rintro e w5 ⟨rfl, hb5⟩
  have HL5 := hide (HL4.out.next hb5)
  have z5 := HL5.out.z
  clear hb5 HL4
  go_wp2_with fail
  refine (toBytes_any a n c text 0 w.heap.size _ (hide (ha.out.keep HL5.out.below)) hx hnn (by omega)).mono ?_
  rintro e w6 ⟨rfl, hb6, hi6, -⟩
  have HL6 := hide (HL5.out.next hb6)
  have z6 := HL6.out.z
  have s6 := hb6.size
  have HI6 := hide hi6
  clear hb6 hi6 HL5
  go_wp2_with fail
  refine (eqBytes_yes _ _ n n n text (w2.heap.size + 1) w3.heap.size w5.heap.size w6.heap.size _ (hide HL6.out.b) HI6 hx (by omega) (by omega) (Nat.le_refl _)).mono ?_
  rintro e w7 ⟨rfl, hb7⟩
  have HL7 := hide (HL6.out.next hb7)
  have z7 := HL7.out.z
  clear hb7 HL6 HI6
  go_wp2_with fail
  refine (markBytes_any _ n n 1 text (w2.heap.size + 1) w3.heap.size _ (hide HL7.out.b) hx (hide HL7.out.y) (by omega) (by omega) (by omega)).mono ?_
  rintro e w8 ⟨rfl, hm8, -⟩
  have s8 := hm8.size
  have HB8 := hide (hm8.below HL7.out.below (by omega))
  have F8 := HL7.out.f.keep (hm8.block _ (by omega) (by omega))
  have G8 := HL7.out.g.keep (hm8.block _ (by omega) (by omega))
  have HP8 := hide (HL7.out.p.keepS (w' := w8) (fun q q1 q2 => hm8.block q (by omega) (by omega)))
  have HQ8 := hide (HL7.out.q.keepS (w' := w8) (fun q q1 q2 => hm8.block q (by omega) (by omega)))
  clear hm8 HL7
  have hk8 : ¬ (1 + (n : Int) < 0) := by omega
  have f0 := F8.c0
  have f1 := F8.c1
  have f2 := F8.c2
  have f3 := F8.c3
  have g0 := G8.c0
  have g1 := G8.c1
  have g2 := G8.c2
  have g3 := G8.c3
  go_wp2_with fail
  refine (eqParsed_yes co li V va4 va0 xs.length vc4 vc0 xs w3.heap.size w4.heap.size w1.heap.size w2.heap.size _ (hide HQ8.out.blks) HP8 (hide rfl) hlen (by omega) (by omega) (by omega)).mono ?_
  rintro e w9 ⟨rfl, hb9⟩
  have s9 := hb9.size
  have HB9 := hide (bnext HB8.out hb9)
  have F9 := F8.keep (hb9.block _ (by omega))
  have G9 := G8.keep (hb9.block _ (by omega))
  have HP9 := hide (HP8.out.keep (w' := w9) (hb9.mono (by omega)))
  have HQ9 := hide (HQ8.out.keepS (w' := w9) (fun q q1 q2 => hb9.block q (by omega)))
  clear hb9 HB8 F8 G8 HP8 HQ8 f0 f1 f2 f3 g0 g1 g2 g3
  have g0 := G9.c0
  have g1 := G9.c1
  have g2 := G9.c2
  have g3 := G9.c3
  go_wp2_with fail
  refine (markParsed_sep co li V va4 xs.length vc4 1 xs w3.heap.size w4.heap.size _ HQ9 (hide rfl) hlen (by omega) (by omega) (by omega) (by omega) hsc).mono ?_
  rintro e w10 ⟨rfl, hm10, hq10⟩
  have s10 := hm10.size
  have HB10 := hide (hm10.below HB9.out (by omega))
  have F10 := F9.keep (hm10.block _ (by omega) (by omega))
  have G10 := G9.keep (hm10.block _ (by omega) (by omega))
  have HP10 := hide (HP9.out.keepS (w' := w10) (fun q q1 q2 => hm10.block q (by omega) (by omega)))
  have HQ10 := hide hq10
  clear hm10 hq10 HB9 F9 G9 HP9 HQ9 g0 g1 g2 g3
  have g0 := G10.c0
  have g1 := G10.c1
  have g2 := G10.c2
  have g3 := G10.c3
  go_wp2_with fail
  refine (heldParsed_any co li V va4 xs.length vc4 1 xs _ HQ10 (hide rfl) hlen (by omega) (by omega) (by omega) hsc).mono ?_
  generalize shsCnt (xs.map Blk.sh) = SC at *
  rintro e w11 ⟨rfl, hb11⟩
  have s11 := hb11.size
  have HB11 := hide (bnext HB10.out hb11)
  have F11 := F10.keep (hb11.block _ (by omega))
  have HP11 := hide (HP10.out.keep (w' := w11) (hb11.mono (by omega)))
  clear hb11 HB10 F10 G10 HP10 HQ10 g0 g1 g2 g3
  have hqp : ¬ (1 + (SC : Int) < 0) := by omega
  have hqe : (1 + (SC : Int) != 1 + (SC : Int)) = false := by simp
  go_wp2_with fail
  refine (toBytes_any a n c text 0 w.heap.size _ (hide (ha.out.keep HB11.out)) hx hnn (by omega)).mono ?_
  rintro e w12 ⟨rfl, hb12, hi12, -⟩
  have s12 := hb12.size
  have HB12 := hide (bnext HB11.out hb12)
  have F12 := F11.keep (hb12.block _ (by omega))
  have HP12 := hide (HP11.out.keep (w' := w12) (hb12.mono (by omega)))
  have HI12 := hide hi12
  clear hb12 hi12 HB11 F11 HP11
  go_wp2_with fail
  refine (HI.out w12 w11.heap.size HB12.out HI12.out).mono ?_
  rintro e w13 ⟨val13, rfl, hb13, va13, vc13, rfl, hy13⟩
  have s13 := hb13.size
  have HB13 := hide (bnext HB12.out hb13)
  have F13 := F12.keep (hb13.block _ (by omega))
  have HP13 := hide (HP12.out.keep (w' := w13) (hb13.mono (by omega)))
  have HY13 := hide hy13
  clear hb13 hy13 HB12 F12 HP12 HI12
  have b13 := fun x => balloc (Below.refl w13.heap.size w13) x
  have F13a := fun x => F13.keep ((b13 x).block w2.heap.size (by omega))
  have f0 := fun x => (F13a x).c0
  have f1 := fun x => (F13a x).c1
  have f2 := fun x => (F13a x).c2
  have f3 := fun x => (F13a x).c3
  have HB13a := fun x => hide (b13 x)
  clear F13a b13
  go_wp2_with fail
  refine (eqParsed_yes co li V va13 va0 xs.length vc13 vc0 xs w12.heap.size w13.heap.size w1.heap.size w2.heap.size _ (hide (HY13.out.blks.keep ((HB13a _).out.mono (by omega)))) (hide (HP13.out.keep ((HB13a _).out.mono (by omega)))) (hide rfl) hlen (by omega) (by simp) (by simp; omega)).mono ?_
  rintro e w14 ⟨rfl, hb14⟩
  have HB14 := hide (bnext (balloc HB13.out _) hb14)
  clear hb14
  go_wp2
  go_ret
  exact ⟨rfl, HB14.out⟩
end Go.Proofs.YtdcdgopblbmgoaaGreatDoor

/-
  From what a reading of the argument says to how the function lies in memory.
-/
namespace Go.Proofs.YtdcdgopblbmgoaaGreatDoor
open Go.RowKit Go.Deep

variable {H : Type} {enc : TypeId × Value → H} {P : Program} {w : World} {base : Nat} {spare : Nat → Bool} {held : Bool}

theorem block_of_cell {a : Addr} {v : Value} (h : w.cell? a = some v) : a.block < w.heap.size := by
  unfold World.cell? at h
  split at h
  · rename_i c _ _ hb
    exact (Array.getElem?_eq_some_iff.1 hb).1
  · cases h

theorem read_slice {α : Type} [Inhabited α] {t e : TypeId} {fuel s : Nat} {cs : List Value} {x : DataW H × List MemPlace} (ht : P.underlying t = some (.slice e)) (hs : P.cellsOf e = s) (hs0 : 0 < s) (Q : Nat → Nat → α → Prop)
    (hQ : ∀ b o cs' n d, (∀ j, j < s → w.cell? ⟨b, o + j, none⟩ = cs'[j]?) → cs'.length = s → DataW.trod enc P w base spare held n e cs' = some d → ∃ x, Q b o x)
    (h : DataW.trod enc P w base spare held fuel t cs = some x) :
    ∃ (a : Option Addr) (xs : List α) (c : Nat), cs = [.slice a xs.length c] ∧ xs.length ≤ maxLen ∧ ∀ i (hi : i < xs.length), ∃ b o, a = some ⟨b, o, none⟩ ∧ b < w.heap.size ∧ Q b (o + i * s) xs[i] := by
  rcases open_slice ht h with ⟨rfl, _⟩ | ⟨a, len, cap, m, n, D, Pl, rfl, _, hl, hm, hmm, _, hx⟩
  · exact ⟨none, [], 0, rfl, Nat.zero_le _, fun i hi => absurd hi (by simp)⟩
  rw [hs] at hx
  have hlm : len ≤ m := by rw [hmm]; split <;> omega
  have cellsOf : ∀ i, i < len → ∃ cs', cs'.length = s ∧ (∀ j, j < s → w.cell? ((a.add (i * s)).add j) = cs'[j]?) ∧ DataW.trod enc P w base spare held n e cs' = some (D i, Pl i) := fun i hi => by
    obtain ⟨cs', h1, h2⟩ := hx i (by omega)
    obtain ⟨_, h3, h4⟩ := World.cells?_some h1
    exact ⟨cs', h3, h4, h2⟩
  obtain ⟨b, o, spot⟩ := a
  by_cases hlen : len = 0
  · subst hlen
    exact ⟨some ⟨b, o, spot⟩, [], cap, rfl, Nat.zero_le _, fun i hi => absurd hi (by simp)⟩
  have hspot : spot = none := by
    obtain ⟨cs', h1, h2, _⟩ := cellsOf 0 (by omega)
    have h3 := h2 0 hs0
    rw [List.getElem?_eq_getElem (by omega)] at h3
    simpa [Addr.add] using World.cell?_spot h3
  subst hspot
  obtain ⟨f, hf⟩ := choose_lt (α := α) (n := len) (p := fun i x => b < w.heap.size ∧ Q b (o + i * s) x) (fun i hi => by
    obtain ⟨cs', h1, h2, h3⟩ := cellsOf i hi
    have h4 : ∀ j, j < s → w.cell? ⟨b, o + i * s + j, none⟩ = cs'[j]? := fun j hj => by
      have := h2 j hj
      rw [Addr.add_mid, Addr.add_mid] at this
      exact this
    obtain ⟨x, hx⟩ := hQ b (o + i * s) cs' n _ h4 h1 h3
    have h5 := h4 0 hs0
    rw [List.getElem?_eq_getElem (by omega)] at h5
    exact ⟨x, block_of_cell h5, hx⟩)
  refine ⟨some ⟨b, o, none⟩, (List.range len).map f, cap, by simp, by simp; omega, fun i hi => ?_⟩
  simp only [List.length_map, List.length_range] at hi
  obtain ⟨h1, h2⟩ := hf i hi
  exact ⟨b, o, rfl, h1, by simpa using h2⟩
end Go.Proofs.YtdcdgopblbmgoaaGreatDoor
