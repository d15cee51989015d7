import Derived.Test.YtdcdgopblbmgoaaGreatDoorPM
import Derived.Test.YtdcdgopblbmgoaaGreatDoorW18
import Derived.Deep.Cut
import Derived.Test.YtdcdgopblbmgoaaGreatDoorQV
/-
  spec.ParseFunc: what holds at its loop's head; texts that are refused ahead of their lines.
-/
namespace Go.Proofs.YtdcdgopblbmgoaaGreatDoor
open Go.RowKit

/-- The answer's variable, zero. -/
def RZ (w : World) (r : Nat) : Prop := (w.cell? ⟨r, 0, none⟩ = some (.int .i64 0) ∧ w.cell? ⟨r, 1, none⟩ = some (.int .i64 0) ∧ w.cell? ⟨r, 2, none⟩ = some (.int .i64 0) ∧ w.cell? ⟨r, 3, none⟩ = some (.slice none 0 0)) ∧ ∀ o, w.frozen? ⟨r, o, none⟩ = false
theorem RZ.keep {w w1 : World} {r : Nat} (h : RZ w r) (k : w1.heap[r]? = w.heap[r]?) : RZ w1 r :=
  ⟨⟨(cell_of k).trans h.1.1, (cell_of k).trans h.1.2.1, (cell_of k).trans h.1.2.2.1, (cell_of k).trans h.1.2.2.2⟩, fun o => (World.frozen?_of_block k).trans (h.2 o)⟩
theorem RZ.new (w : World) (t : Nat) : RZ (w.alloc (.cells #[.int .i64 0, .int .i64 0, .int .i64 0, .slice none 0 0] t)) w.heap.size := by
  refine ⟨⟨?_, ?_, ?_, ?_⟩, fun o => ?_⟩ <;> simp [go_sem]
theorem pars_bad {w : World} {L B : Nat} (c : Int) (l : Nat) (li : Int) (h : li = l) : ParsAt w L B (.agg #[.int .i64 c, .int .i64 li, .int .i64 0, .slice none 0 0]) (badP c l) := by
  subst h
  exact ⟨none, 0, rfl, fun i hi => absurd hi (by simp [badP])⟩
def set4W (w : World) (r : Nat) (v0 v1 v2 v3 : Value) : World := (((w.setCell ⟨r, 0, none⟩ v0).setCell ⟨r, 1, none⟩ v1).setCell ⟨r, 2, none⟩ v2).setCell ⟨r, 3, none⟩ v3
theorem set4W_below {B : Nat} {w W : World} (h : Below B w W) {r : Nat} (hr : B ≤ r) (v0 v1 v2 v3 : Value) : Below B w (set4W W r v0 v1 v2 v3) := (((h.setCell hr _).setCell hr _).setCell hr _).setCell hr _
theorem set4W_far {W : World} {r b : Nat} (hb : b ≠ r) (v0 v1 v2 v3 : Value) : (set4W W r v0 v1 v2 v3).heap[b]? = W.heap[b]? := by
  unfold set4W
  rw [Below.heap_setCell _ _ _ _ hb, Below.heap_setCell _ _ _ _ hb, Below.heap_setCell _ _ _ _ hb, Below.heap_setCell _ _ _ _ hb]
theorem set4W_size (W : World) (r : Nat) (v0 v1 v2 v3 : Value) : (set4W W r v0 v1 v2 v3).heap.size = W.heap.size := by unfold set4W; simp

theorem lens_snoc (ls : List (List UInt8)) (l : List UInt8) : lensOf (ls ++ [l]) = lensOf ls + l.length := by simp [lensOf]
/-- What holds at the head of the loop over the lines. -/
structure PInv (w : World) (F0 : Nat) (V : Int) (ls : List (List UInt8)) (la : Option Addr) (L3 B3 : Nat) (OUT : Pout) (k : Nat) (s : Pst) (va : Option Addr) (vn vc : Nat) (wr : World) : Prop where
  below : Below w.heap.size w wr
  rv : RZ wr w.heap.size
  f0 : wr.cell? ⟨F0, 0, none⟩ = some (.int .i64 V)
  f1 : wr.cell? ⟨F0, 1, none⟩ = some (.slice va vn vc)
  fz : ∀ o, wr.frozen? ⟨F0, o, none⟩ = false
  lines : ValsAt wr L3 B3 la (strsV ls)
  st : StAt wr (F0 + 1) va vn vc s
  lo : w.heap.size < F0 ∧ B3 ≤ F0 ∧ F0 < wr.heap.size
  tot : pstTot s ≤ lensOf (ls.take k)
  run : endP ls.length V (bodyP (ls.drop k) k s) = OUT
section
variable {w : World} {F0 : Nat} {V : Int} {ls : List (List UInt8)} {la : Option Addr} {L3 B3 : Nat} {OUT : Pout} {k : Nat} {s s' : Pst} {va va' : Option Addr} {vn vc vn' vc' : Nat} {wr wN : World}
theorem PInv.next (h : PInv w F0 V ls la L3 B3 OUT k s va vn vc wr) (hb : Below F0 wr wN) (hz : F0 < wN.heap.size) (f0 : wN.cell? ⟨F0, 0, none⟩ = some (.int .i64 V)) (f1 : wN.cell? ⟨F0, 1, none⟩ = some (.slice va' vn' vc')) (fz : ∀ o, wN.frozen? ⟨F0, o, none⟩ = false) (hst : StAt wN (F0 + 1) va' vn' vc' s') (hk : k < ls.length) (hs : lineP s ls[k] = .ok s') :
    PInv w F0 V ls la L3 B3 OUT (k + 1) s' va' vn' vc' wN := by
  obtain ⟨l1, l2, l3⟩ := h.lo
  have ht := step_tot hs
  have htt := h.tot
  refine ⟨h.below.trans (hb.mono (by omega)), h.rv.keep (hb.block _ l1), f0, f1, fz, h.lines.keepS (Same.of_below (hb.mono l2)), hst, ⟨l1, l2, hz⟩, ?_, ?_⟩
  · have : lensOf (ls.take (k + 1)) = lensOf (ls.take k) + ls[k].length := by rw [take_next _ _ hk, lens_snoc]
    omega
  · have hr := h.run
    rw [List.drop_eq_getElem_cons hk, bodyP, hs] at hr
    exact hr
theorem PInv.bad (h : PInv w F0 V ls la L3 B3 OUT k s va vn vc wr) (hk : k < ls.length) {c : Int} (hs : lineP s ls[k] = .bad c) : OUT = badP c (k + 1) := by
  have hr := h.run
  rw [List.drop_eq_getElem_cons hk, bodyP, hs] at hr
  exact hr.symm
theorem PInv.drew (h : PInv w F0 V ls la L3 B3 OUT k s va vn vc wr) : PInv w F0 V ls la L3 B3 OUT k s va vn vc wr.drew := ⟨h.below.drew, h.rv.keep rfl, h.f0, h.f1, h.fz, h.lines, h.st.keep (fun _ _ _ => rfl) (Nat.le_refl _), h.lo, h.tot, h.run⟩
/-- New memory alone. -/
theorem PInv.calm (h : PInv w F0 V ls la L3 B3 OUT k s va vn vc wr) (hb : Below wr.heap.size wr wN) : PInv w F0 V ls la L3 B3 OUT k s va vn vc wN := by
  obtain ⟨l1, l2, l3⟩ := h.lo
  have hs := hb.size
  have q := hb.block F0 l3
  exact ⟨h.below.trans (hb.mono (by omega)), h.rv.keep (hb.block _ (by omega)), (cell_of q).trans h.f0, (cell_of q).trans h.f1, fun o => (World.frozen?_of_block q).trans (h.fz o), h.lines.keepS (Same.of_below (hb.mono (by omega))), h.st.keep (fun b _ h2 => hb.block b h2) hs, ⟨l1, l2, by omega⟩, h.tot, h.run⟩
end
theorem lens_take (ls : List (List UInt8)) (k : Nat) : lensOf (ls.take k) ≤ lensOf ls := sum_take_le _ _ _
end Go.Proofs.YtdcdgopblbmgoaaGreatDoor

/-
  readBody of the program's reader.
-/
namespace Go.Proofs.YtdcdgopblbmgoaaGreatDoor
open Go.RowKit Go.Shelf

/-- What the reader needs, below its own variable. -/
structure RdEnv (w : World) (R M b : Nat) (la : Option Addr) (ls : List (List UInt8)) : Prop where
  map : M < R ∧ w.ownsMap Tryz.prog 9 wordR M 15 (wdT 3)
  op : 1 < R ∧ OpTabW w
  ter : 2 < R ∧ TerTabW w
  max : 3 < R ∧ MaxL w
  txt : b < R
  lines : PiecesV w b R la ls
theorem RdEnv.keep {w w' : World} {R M b : Nat} {la : Option Addr} {ls : List (List UInt8)} (h : RdEnv w R M b la ls) (k : Below R w w') : RdEnv w' R M b la ls := by
  refine ⟨⟨h.map.1, ?_⟩, ⟨h.op.1, h.op.2.keep k h.op.1⟩, ⟨h.ter.1, h.ter.2.keep k h.ter.1⟩, ⟨h.max.1, Nat.lt_of_lt_of_le h.max.2.1 k.size, ?_⟩, h.txt, h.lines.keep k h.txt⟩
  · obtain ⟨es, ck, hbk, rest⟩ := h.map.2
    exact ⟨es, ck, (k.block M h.map.1).trans hbk, rest⟩
  · obtain ⟨m, hm⟩ := h.max.2.2
    exact ⟨m, (k.cell (p := ⟨3, 0, none⟩) h.max.1).trans hm⟩
/-- What holds at the head of the loop over the lines. -/
structure BInv (w : World) (R M b : Nat) (la : Option Addr) (ls : List (List UInt8)) (V : Int) (B0 : Nat) (OUT : Bd) (k : Nat) (s : Pst) (va : Option Addr) (vn vc : Nat) (wr : World) : Prop where
  below : Below R w wr
  env : RdEnv wr R M b la ls
  st : RSt wr R (.map (some M)) V B0 s va vn vc
  tot : pstTot s ≤ lensOf (ls.take k)
  run : bodyP (ls.drop k) (k + 1) s = OUT
/-- What the body's reading leaves. -/
def BodyAns (w w' : World) (R M : Nat) (V : Int) (B0 n : Nat) (OUT : Bd) (e : Ending) : Prop :=
  Below R w w' ∧ match OUT with
    | .bad c l => e = .returned (faultV c l)
    | .ok s => match s.cur with
      | some _ => e = .returned (faultV 8 ((n + 1 : Nat) : Int))
      | none => e = .returned .nilIface ∧ pstTot s ≤ 100000 ∧ ∃ va vn vc, RSt w' R (.map (some M)) V B0 s va vn vc
theorem bodyAns_bad {w w' : World} {R M : Nat} {V : Int} {B0 n : Nat} {OUT : Bd} {c li : Int} {l : Nat} (k : Below R w w') (h : OUT = .bad c l) (hl : li = l) : BodyAns w w' R M V B0 n OUT (.returned (.iface 61 (.agg #[.int .i64 c, .int .i64 li]))) := by
  subst h hl
  exact ⟨k, rfl⟩

set_option maxHeartbeats 2000000 in
set_option maxRecDepth 100000 in
theorem readBody_any (R M b : Nat) (la : Option Addr) (ls : List (List UInt8)) (V : Int) (B0 : Nat) (va : Option Addr) (vn vc n lc : Nat) (OUT : Bd) (w : World) (hn : Hid (n = ls.length)) (hnl : n ≤ 100001) (hlen : Hid (lensOf ls ≤ 100000)) (h0 : Hid (BInv w R M b la ls V B0 OUT 0 ⟨[], none⟩ va vn vc w)) :
    Calls Tryz.prog 41 #[.pointer (some ⟨R, 0, none⟩), .slice la n lc] w fun e w' => BodyAns w w' R M V B0 n OUT e := by
  go_enter Tryz.func41, Tryz.ntmps41
  go_wp2
  go_loopw [10] (fun i wr => ∃ (k : Nat) (s : Pst) (va : Option Addr) (vn vc : Nat), k ≤ n ∧ i = .int .i64 k ∧ Hid (BInv w R M b la ls V B0 OUT k s va vn vc wr)) (fun i _ => n - (intOf i).toNat)
  case atStart => exact ⟨0, _, _, _, _, Nat.zero_le _, rfl, h0⟩
  case round =>
    obtain ⟨k, s, va, vn, vc, hk, rfl, HI⟩ := hrel
    by_cases hlt : k < n
    · have hkl : k < ls.length := by have := hn.out; omega
      obtain ⟨l1, l2⟩ := HI.out.st.lo
      have hsum : lensOf (ls.take k) + ls[k].length ≤ lensOf ls := by
        rw [← lens_snoc, ← take_next _ _ hkl]
        exact lens_take ls (k + 1)
      have hl0 := hlen.out
      have htt := HI.out.tot
      obtain ⟨g, o, v, rfl, hg, hc1, o2, c2, rfl, hl2, hcp⟩ := HI.out.env.lines k hkl
      have HRL := hide (readLine_any R M V B0 s va vn vc b o2 ls[k].length c2 ls[k] wr (hide HI.out.st) (hide ⟨by have := HI.out.env.map.1; omega, HI.out.env.map.2⟩) (hide HI.out.env.op.2) (hide HI.out.env.ter.2) (hide HI.out.env.max.2) (hide (by omega)) (hide rfl) hl2.1 hl2.2 (by omega) (hide hcp) (by have := HI.out.env.txt; omega))
      have HRUN : Hid (bodyP (ls.drop k) (k + 1) s = match lineP s ls[k] with | .bad c => .bad c (k + 1 + 1) | .ok s' => bodyP (ls.drop (k + 1)) (k + 1 + 1) s') := hide (by rw [List.drop_eq_getElem_cons hkl, bodyP]; cases lineP s ls[k] <;> rfl)
      have HTOT : Hid (∀ s', lineP s ls[k] = .ok s' → pstTot s' ≤ lensOf (ls.take (k + 1))) := hide (fun s' q => by
        have := step_tot q
        rw [take_next _ _ hkl, lens_snoc]
        omega)
      have hcn : ls[k].length ≤ 100000 := by omega
      clear hl2 hcp hsum hl0 htt l1 l2
      generalize ls[k] = line at *
      cases hlp : lineP s line with
      | bad c =>
        have HO : Hid (OUT = .bad c (k + 1 + 1)) := hide (by rw [← HI.out.run, HRUN.out, hlp])
        generalize line.length = nl at *
        go_wp2_with (go_at_call 57; refine HRL.out.mono ?_; rintro e w1 ⟨hkb, hor⟩; obtain ⟨rfl, hc0⟩ : e = .returned (.int .i64 c) ∧ c ≠ 0 := (by
          rcases hor with ⟨c', q1, q2, q3⟩ | ⟨s', q1, _⟩
          · rw [hlp] at q1; cases q1; exact ⟨q3, q2⟩
          · rw [hlp] at q1; cases q1); have HKB := hide hkb; have hc1 : ((c != 0) = true) := (bne_iff_ne.2 hc0); clear hkb hor hc0)
        go_ret
        exact bodyAns_bad (HI.out.below.trans (HKB.out.below (Nat.le_of_lt HI.out.st.lo.1) (Nat.le_refl _) (Nat.le_refl _))) HO.out (by push_cast; omega)
      | ok s' =>
        have HO : Hid (bodyP (ls.drop (k + 1)) (k + 1 + 1) s' = OUT) := hide (by rw [← HI.out.run, HRUN.out, hlp])
        have HT' := hide (HTOT.out s' hlp)
        generalize line.length = nl at *
        go_wp2_with (go_at_call 57; refine HRL.out.mono ?_; rintro e w1 ⟨hkb, hor⟩; obtain ⟨rfl, hex⟩ : e = .returned (.int .i64 0) ∧ ∃ va vn vc, RSt w1 R (.map (some M)) V B0 s' va vn vc := (by
          rcases hor with ⟨c', q1, q2, q3⟩ | ⟨s2, q1, q2, q3⟩
          · rw [hlp] at q1; cases q1
          · rw [hlp] at q1; cases q1; exact ⟨q2, q3⟩); obtain ⟨va1, vn1, vc1, hst⟩ := hex; have HN : Hid (BInv w R M b (some ⟨g, o, none⟩) ls V B0 OUT (k + 1) s' va1 vn1 vc1 w1) := hide (by
            have kb := hkb.below (Nat.le_of_lt HI.out.st.lo.1) (Nat.le_refl _) (Nat.le_refl _)
            exact ⟨HI.out.below.trans kb, HI.out.env.keep kb, hst, HT'.out, HO.out⟩); clear hkb hor hst)
        exact ⟨⟨k + 1, _, _, _, _, by omega, by go_num, HN⟩, by simp [intOf]; omega⟩
    · have hke : k = ls.length := by have := hn.out; omega
      have hrun := HI.out.run
      rw [hke, List.drop_length, bodyP] at hrun
      have HO : Hid (OUT = .ok s) := hide hrun.symm
      have c3 := HI.out.st.rd.opened
      clear hrun hke
      obtain ⟨pre, cur⟩ := s
      cases cur with
      | some pi =>
        go_wp2
        go_ret
        exact ⟨HI.out.below, by rw [HO.out]; show _ = Ending.returned (faultV 8 _); unfold faultV; push_cast; rfl⟩
      | none =>
        go_wp2
        go_ret
        exact ⟨HI.out.below, by rw [HO.out]; exact ⟨rfl, Nat.le_trans (Nat.le_trans HI.out.tot (lens_take _ _)) hlen.out, _, _, _, HI.out.st⟩⟩
end Go.Proofs.YtdcdgopblbmgoaaGreatDoor
