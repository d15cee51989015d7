import Derived.Test.YtdcdgopblbmgoaaDoorM4
import Derived.Test.YtdcdgopblbmgoaaDoorE14
import Derived.Test.YtdcdgopblbmgoaaDoorE15
import Derived.Test.YtdcdgopblbmgoaaDoorVals
import Derived.Test.YtdcdgopblbmgoaaDoorMark
/-
  impl.EncodeMach.
-/
namespace Go.Proofs.YtdcdgopblbmgoaaDoor
open Go.RowKit

theorem own_nilN (w : World) : (w.alloc (.cells #[] 5)).ownsRow w.heap.size 5 1 (.slice (some ⟨w.heap.size, 0, none⟩) 0 0) 0 [] := by
  have := World.ownsRow_lit (base := w.heap.size) (e := 5) (size := 1) w #[] 0 (by simp) (by simp) rfl
  simpa using this
/-- A line of numbers that were laid down last. -/
theorem litM_any (B : Nat) (u : Value) (xs word : List UInt8) (vs : List Int) (s : Nat) (W : World) (hs : s = W.heap.size) (hB : B ≤ W.heap.size)
    (ho : Hid (W.ownsRow B 5 1 u xs.length (bytesV xs))) (hlen : Hid (xs.length + (lineS word vs).length ≤ 1000000000000))
    (hin : Hid (∀ v ∈ vs, InB v)) (htab : Hid (TabOk B W)) :
    Calls Tryd.prog 63 #[u, .string (strOf word), .slice (some ⟨s, 0, none⟩) vs.length vs.length] (W.alloc (.cells (vs.map (Value.int .i64)).toArray 2)) fun e w' =>
      ∃ v, e = .returned v ∧ Kp B W w' ∧ w'.ownsRow B 5 1 v (xs ++ lineS word vs).length (bytesV (xs ++ lineS word vs)) := by
  subst hs
  have hst := ints_row (B := B) (B0 := B) (g := W.heap.size) (w' := W.alloc (.cells (vs.map (Value.int .i64)).toArray 2)) (qs := vs) ⟨_, _, heap_alloc_new W _⟩ hB (fun i hi => by
    obtain ⟨b, o, e, _, h⟩ := ints_lit W vs i hi
    cases e
    exact h)
  refine (appendLine_any B u xs word _ vs.length vs.length vs B _ _ (by simp; omega) (hide (ho.out.alloc _)) hlen (hide hst) (hide rfl) hin (hide (htab.out.on ((Below.refl _ _).alloc hB _)))).mono ?_
  rintro e w' ⟨v, rfl, h1, h2⟩
  exact ⟨v, rfl, ((Kp.refl B W).alloc hB _).trans h1, h2⟩

set_option maxHeartbeats 2000000 in
set_option maxRecDepth 100000 in
theorem encMI_any (V : Int) (a : Option Addr) (n c : Nat) (xs : List MBlk) (L B : Nat) (w : World) (ha : Hid (MBlksAt w L B a xs)) (hx : Hid (n = xs.length)) (hs : Hid (xs.length + mTot xs ≤ 1048576)) (hB : B ≤ w.heap.size) (hO : Hid (OpTabW w)) (hT : Hid (TerTabW w)) (hP : Hid (TabOk w.heap.size w)) :
    Calls Tryd.prog 44 #[.agg #[.int .i64 V, .slice a n c]] w fun e w' => ∃ v, e = .returned v ∧ Below w.heap.size w w' ∧ w'.ownsRow w.heap.size 5 1 v (encM V xs).length (bytesV (encM V xs)) := by
  have hB1 : 0 < w.heap.size ∧ 1 < w.heap.size := ⟨hO.out.1, hT.out.1⟩
  cases hv : validM V xs with
  | false =>
    have HV := hide hv
    have HE : Hid (encM V xs = []) := hide (by unfold encM; rw [hv]; rfl)
    clear hv
    go_enter Tryd.func44, Tryd.ntmps44
    go_wp2_with fail
    refine (validMachI_any V a n c xs L B _ (hide (ha.out.keep ((balloc (Below.refl w.heap.size w) _).mono hB))) hx hs (by simp; omega) (hide (hO.out.keep (balloc (Below.refl w.heap.size w) _) (by omega)).old) (hide (hT.out.keep (balloc (Below.refl w.heap.size w) _) (by omega)).old)).mono ?_
    rintro e w1 ⟨rfl, hb1⟩
    rw [HV.out]
    go_wp2
    go_ret
    have hz : w.heap.size + 1 ≤ w1.heap.size := by have := hb1.size; simpa using this
    refine ⟨_, rfl, balloc (((balloc (Below.refl w.heap.size w) _)).trans (hb1.mono (by simp))) _, ?_⟩
    rw [HE.out]
    exact own_base (own_nilN _) (by omega)
  | true =>
    have HV := hide hv
    have HE : Hid (encM V xs = rawM V xs) := hide (by unfold encM; rw [hv]; rfl)
    obtain ⟨o1, o2⟩ := in_of_validM hv
    have O1 := hide o1
    have O2 := hide o2
    have hn : n ≤ 1048576 := by have := hx.out; have := hs.out; omega
    have HLEN : Hid ((rawM V xs).length ≤ 1000000000000) := hide (by have := rawM_le V xs o1 o2; have h2 := hs.out; omega)
    clear hv o1 o2
    have HF : Hid (∀ w1, Below (w.alloc (.cells #[.int .i64 V, .slice a n c] 66)).heap.size (w.alloc (.cells #[.int .i64 V, .slice a n c] 66)) w1 → w.heap.size + 1 ≤ w1.heap.size ∧ w1.cell? ⟨w.heap.size, 0, none⟩ = some (.int .i64 V) ∧ w1.cell? ⟨w.heap.size, 1, none⟩ = some (.slice a n c) ∧ Hid (Below w.heap.size w w1)) := hide (fun w1 hb1 => by
      refine ⟨by have := hb1.size; simpa using this, (hb1.cell (p := ⟨w.heap.size, 0, none⟩) (by simp)).trans (by simp), (hb1.cell (p := ⟨w.heap.size, 1, none⟩) (by simp)).trans (by simp), hide ((balloc (Below.refl w.heap.size w) _).trans (hb1.mono (by simp)))⟩)
    go_enter Tryd.func44, Tryd.ntmps44
    go_wp2_with fail
    refine (validMachI_any V a n c xs L B _ (hide (ha.out.keep ((balloc (Below.refl w.heap.size w) _).mono hB))) hx hs (by simp; omega) (hide (hO.out.keep (balloc (Below.refl w.heap.size w) _) (by omega)).old) (hide (hT.out.keep (balloc (Below.refl w.heap.size w) _) (by omega)).old)).mono ?_
    rintro e w1 ⟨rfl, hb1⟩
    rw [HV.out]
    obtain ⟨hz, k0, k1, HB1⟩ := HF.out _ hb1
    have HH1 : Hid (∃ c fz, w1.heap[w.heap.size]? = some (.cells c 66 fz)) := hide ⟨_, _, (hb1.block w.heap.size (by simp)).trans (heap_alloc_new w _)⟩
    clear hb1
    have hz' : w.heap.size < w1.heap.size := by omega
    have HK1 : Hid (Kp w.heap.size w w1) := hide (Kp.calm HB1.out (Nat.le_refl _))
    have HL1 : Hid (([] : List UInt8).length + (lineS [109, 97, 99, 104] [V]).length ≤ 1000000000000) := hide (by have := HLEN.out; unfold rawM at this; simp only [List.length_append, List.length_nil] at this ⊢; omega)
    have HKF : Hid (∀ w2, Kp w.heap.size (w1.alloc (.cells #[] 5)) w2 → Kp w.heap.size w w2 ∧ w2.cell? ⟨w.heap.size, 1, none⟩ = some (.slice a n c)) := hide (fun w2 hk => by
      obtain ⟨c0, fz, hh⟩ := HH1.out
      have h1 : Kp w.heap.size w1 w2 := ((Kp.refl _ w1).alloc (by omega) _).trans hk
      have h2 := h1.kept w.heap.size _ hh (by simp) (fun c' fz' e' => by cases e')
      exact ⟨HK1.out.trans h1, (cell_of (h2.trans hh.symm)).trans k1⟩)
    go_wp2_with (go_at_call 63; refine (litM_any w.heap.size _ [] [109, 97, 99, 104] [V] _ (w1.alloc (.cells #[] 5)) (by simp) (by simp; omega) (hide (own_base (own_nilN w1) (by omega))) HL1 (hide (fun v h => by simp at h; exact h ▸ O1.out)) (hide (hP.out.on ((HB1.out.alloc (by omega) _))))).mono ?_; rintro e w2 ⟨x2, rfl, hk2, ho2⟩; obtain ⟨hk3, k2⟩ := HKF.out _ hk2; have HK2 := hide hk3; have HO2 := hide ho2; clear hk2 hk3 ho2)
    go_loopw [3, 18] (fun x i wr => ∃ k : Nat, k ≤ n ∧ i = .int .i64 k ∧ Hid (Kp w.heap.size w wr) ∧ Hid (wr.ownsRow w.heap.size 5 1 x (lineS [109, 97, 99, 104] [V] ++ (xs.take k).flatMap mblkS).length (bytesV (lineS [109, 97, 99, 104] [V] ++ (xs.take k).flatMap mblkS)))) (fun _ i _ => n - (intOf i).toNat)
    case atStart => exact ⟨0, Nat.zero_le _, rfl, HK2, hide (by simpa using HO2.out)⟩
    case round =>
      clear HK2 HO2 HK1 HB1 HH1 HKF HF k0 k1 k2 hz hz'
      obtain ⟨k, hk, rfl, HK, HO⟩ := hrel
      have hwz := HK.out.below.size
      by_cases hlt : k < n
      · have hkx : k < xs.length := by have := hx.out; omega
        have HKX := hide (O2.out xs[k] (List.getElem_mem hkx))
        obtain ⟨b, o, rfl, ⟨hbL, hbB⟩, hc⟩ := ha.out k hkx
        have hc2 := hc.keepS (Same.of_below (HK.out.below.mono hB)) (HK.out.below.block b (by omega))
        obtain ⟨ia, ic, e1, ⟨t0, t1, t2, t3⟩, hi⟩ := hc2
        have HI := hide hi
        clear hi hc
        have HT : Hid (lineS [109, 97, 99, 104] [V] ++ (xs.take (k + 1)).flatMap mblkS = (lineS [109, 97, 99, 104] [V] ++ (xs.take k).flatMap mblkS) ++ mblkS xs[k]) := hide (by rw [take_next _ _ hkx, List.flatMap_append]; simp)
        have HL : Hid ((lineS [109, 97, 99, 104] [V] ++ (xs.take k).flatMap mblkS).length + (mblkS xs[k]).length ≤ 1000000000000) := hide (by have h1 := HLEN.out; have h2 := flat_split mblkS xs k hkx; unfold rawM at h1; rw [h2] at h1; simp only [List.length_append] at h1 ⊢; omega)
        have HIN : Hid (xs[k].instrs.length ≤ 1048576) := hide (by have h1 := mTot_le (List.getElem_mem hkx); have h3 := hs.out; omega)
        generalize xs[k] = X at *
        generalize lineS [109, 97, 99, 104] [V] ++ (xs.take k).flatMap mblkS = T at *
        have HLB : Hid (T.length + (lineS [98, 108, 111, 99, 107] []).length ≤ 1000000000000) := hide (by have := HL.out; unfold mblkS at this; simp only [List.length_append] at this; omega)
        have HOX : Hid ((wr.alloc (.cells #[.slice ia X.instrs.length ic, .int .i64 X.term.kind, .int .i64 X.term.a, .int .i64 X.term.to, .int .i64 X.term.els] 126)).ownsRow w.heap.size 5 1 u3 T.length (bytesV T)) := hide (HO.out.alloc _)
        have HKW : Hid (Kp w.heap.size w (wr.alloc (.cells #[.slice ia X.instrs.length ic, .int .i64 X.term.kind, .int .i64 X.term.a, .int .i64 X.term.to, .int .i64 X.term.els] 126))) := hide (HK.out.alloc (by omega) _)
        have hq : (wr.alloc (.cells #[.slice ia X.instrs.length ic, .int .i64 X.term.kind, .int .i64 X.term.a, .int .i64 X.term.to, .int .i64 X.term.els] 126)).cell? ⟨wr.heap.size, 0, none⟩ = some (.slice ia X.instrs.length ic) ∧ (wr.alloc (.cells #[.slice ia X.instrs.length ic, .int .i64 X.term.kind, .int .i64 X.term.a, .int .i64 X.term.to, .int .i64 X.term.els] 126)).cell? ⟨wr.heap.size, 1, none⟩ = some (.int .i64 X.term.kind) ∧ (wr.alloc (.cells #[.slice ia X.instrs.length ic, .int .i64 X.term.kind, .int .i64 X.term.a, .int .i64 X.term.to, .int .i64 X.term.els] 126)).cell? ⟨wr.heap.size, 2, none⟩ = some (.int .i64 X.term.a) ∧ (wr.alloc (.cells #[.slice ia X.instrs.length ic, .int .i64 X.term.kind, .int .i64 X.term.a, .int .i64 X.term.to, .int .i64 X.term.els] 126)).cell? ⟨wr.heap.size, 3, none⟩ = some (.int .i64 X.term.to) ∧ (wr.alloc (.cells #[.slice ia X.instrs.length ic, .int .i64 X.term.kind, .int .i64 X.term.a, .int .i64 X.term.to, .int .i64 X.term.els] 126)).cell? ⟨wr.heap.size, 4, none⟩ = some (.int .i64 X.term.els) := by
          refine ⟨?_, ?_, ?_, ?_, ?_⟩ <;> simp
        have HQ := hide hq
        have HHX : Hid (∃ c fz, (wr.alloc (.cells #[.slice ia X.instrs.length ic, .int .i64 X.term.kind, .int .i64 X.term.a, .int .i64 X.term.to, .int .i64 X.term.els] 126)).heap[wr.heap.size]? = some (.cells c 126 fz)) := hide ⟨_, _, heap_alloc_new wr _⟩
        have hsx : wr.heap.size < (wr.alloc (.cells #[.slice ia X.instrs.length ic, .int .i64 X.term.kind, .int .i64 X.term.a, .int .i64 X.term.to, .int .i64 X.term.els] 126)).heap.size := by simp
        have HIX : Hid (InssAt (wr.alloc (.cells #[.slice ia X.instrs.length ic, .int .i64 X.term.kind, .int .i64 X.term.a, .int .i64 X.term.to, .int .i64 X.term.els] 126)) L B ia X.instrs) := hide (HI.out.keep ((balloc (Below.refl wr.heap.size wr) _).mono (by omega)))
        clear hq
        go_wp2_with fail
        generalize wr.alloc (.cells #[.slice ia X.instrs.length ic, .int .i64 X.term.kind, .int .i64 X.term.a, .int .i64 X.term.to, .int .i64 X.term.els] 126) = WX at *
        have HSX := hide hsx
        clear hsx e1 t0 t1 t2 t3 HI HO HK
        have hwx := HKW.out.below.size
        refine (appendLine_any w.heap.size u3 T [98, 108, 111, 99, 107] none 0 0 [] 0 0 WX hwx HOX HLB (hide (fun _ _ i hi => absurd hi (by simp))) (hide rfl) (hide (fun v hv => by cases hv)) (hide (hP.out.on HKW.out.below))).mono ?_
        rintro e w2 ⟨x2, rfl, hk2, ho2⟩
        have hs1 := hk2.block HHX.out (by decide)
        have c1 : w2.cell? ⟨wr.heap.size, 0, none⟩ = some (.slice ia X.instrs.length ic) := (cell_of hs1).trans HQ.out.1
        have c2 : w2.cell? ⟨wr.heap.size, 1, none⟩ = some (.int .i64 X.term.kind) := (cell_of hs1).trans HQ.out.2.1
        have c3 : w2.cell? ⟨wr.heap.size, 2, none⟩ = some (.int .i64 X.term.a) := (cell_of hs1).trans HQ.out.2.2.1
        have c4 : w2.cell? ⟨wr.heap.size, 3, none⟩ = some (.int .i64 X.term.to) := (cell_of hs1).trans HQ.out.2.2.2.1
        have c5 : w2.cell? ⟨wr.heap.size, 4, none⟩ = some (.int .i64 X.term.els) := (cell_of hs1).trans HQ.out.2.2.2.2
        have HSD : Hid (Kp w.heap.size w w2) := hide (HKW.out.trans hk2)
        have hz2 := hk2.below.size
        have hsb : w.heap.size ≤ w2.heap.size := HSD.out.below.size
        have HO5 := hide ho2
        have HIi : Hid (InssAt w2 L B ia X.instrs) := hide (HIX.out.keepS (Same.of_below (hk2.below.mono hB)))
        have hwo : wr.heap.size < w2.heap.size := by have := HSX.out; omega
        clear hk2 ho2 hs1
        have HX : Hid (lineS [109, 97, 99, 104] [V] ++ (xs.take (k + 1)).flatMap mblkS = (T ++ lineS [98, 108, 111, 99, 107] []) ++ codeS X.instrs X.term) := hide (by rw [HT.out]; simp [mblkS])
        have HLC : Hid ((T ++ lineS [98, 108, 111, 99, 107] []).length + (codeS X.instrs X.term).length ≤ 1000000000000) := hide (by
          have h1 := HL.out
          unfold mblkS at h1
          simp only [List.length_append] at h1 ⊢; omega)
        generalize T ++ lineS [98, 108, 111, 99, 107] [] = TT at *
        have HKI := hide HKX.out.instrs
        have HKT := hide HKX.out.term
        have HOPS := hide HKX.out.ops
        have hkd := hide HKX.out.kind
        generalize X.term = Z at *
        obtain ⟨kind, za, zto, zels⟩ := Z
        obtain ⟨m, hm⟩ := Int.eq_ofNat_of_zero_le (show 0 ≤ kind by have := hkd.out; (try simp only at this); omega)
        subst hm
        have hm1 : 1 ≤ m := by have := hkd.out; (try simp only at this); omega
        have hm3 : m ≤ 3 := by have := hkd.out; (try simp only at this); omega
        (try simp only at c2 c3 c4 c5)
        go_wp2_with (go_at_call 66; refine (appendCode_any w.heap.size x2 TT ia X.instrs.length ic X.instrs m za zto zels L B w2 hsb hB HIi (hide rfl) HIN.out HOPS hm1 hm3 hB1 HO5 HLC HKI HKT (hide (hP.out.on HSD.out.below)) (hide (hO.out.keep HSD.out.below (by omega))) (hide (hT.out.keep HSD.out.below (by omega)))).mono ?_; rintro e w5 ⟨x5, rfl, hg5, ho5⟩)
        have HG5 : Hid (Kp w.heap.size w w5) := hide (HSD.out.trans hg5)
        have HO6 : Hid (w5.ownsRow w.heap.size 5 1 x5 (lineS [109, 97, 99, 104] [V] ++ (xs.take (k + 1)).flatMap mblkS).length (bytesV (lineS [109, 97, 99, 104] [V] ++ (xs.take (k + 1)).flatMap mblkS))) := hide (by rw [HX.out]; exact ho5)
        clear hg5 ho5
        go_wp2
        exact ⟨⟨k + 1, by omega, by go_num, HG5, HO6⟩, by simp [intOf]; omega⟩
      · have HO5 : Hid (wr.ownsRow w.heap.size 5 1 u3 (rawM V xs).length (bytesV (rawM V xs))) := hide (by have := HO.out; rwa [List.take_of_length_le (by have := hx.out; omega)] at this)
        go_wp2
        go_ret
        refine ⟨_, rfl, HK.out.below, ?_⟩
        rw [HE.out]
        exact HO5.out
end Go.Proofs.YtdcdgopblbmgoaaDoor

/-
  The law's own words on rows of bytes: equal, marked, held.
-/
namespace Go.Proofs.YtdcdgopblbmgoaaDoor
open Go.RowKit

set_option maxHeartbeats 400000 in
theorem eqBytes_yes (a a' : Option Addr) (n c c' : Nat) (xs : List UInt8) (L B L' B' : Nat) (w : World) (ha : Hid (BytesAt w L B a xs)) (hb : Hid (BytesAt w L' B' a' xs)) (hx : Hid (n = xs.length)) (hn : n ≤ 1000000000) (hB : B ≤ w.heap.size) (hB' : B' ≤ w.heap.size) :
    Calls Tryd.prog 17 #[.slice a n c, .slice a' n c'] w fun e w' => e = .returned (.bool true) ∧ Below w.heap.size w w' := by
  go_enter Tryd.func17, Tryd.ntmps17
  go_wp2
  go_loopw [5] (fun i wr => ∃ k : Nat, k ≤ n ∧ i = .int .i64 k ∧ Below w.heap.size w wr) (fun i _ => n - (intOf i).toNat)
  case atStart => exact ⟨0, Nat.zero_le _, rfl, Below.refl _ _⟩
  case round =>
    obtain ⟨k, hk, rfl, hw⟩ := hrel
    by_cases hlt : k < n
    · have hkx : k < xs.length := by have := hx.out; omega
      obtain ⟨b, o, rfl, ⟨_, hbB⟩, hc⟩ := ha.out k hkx
      obtain ⟨b', o', rfl, ⟨_, hbB'⟩, hc'⟩ := hb.out k hkx
      have hk0 : (0 : Int) ≤ (k : Int) := by omega
      have hk1 : (k : Int) < (n : Int) := by omega
      have e1 := (hw.cell (p := ⟨b, o + k, none⟩) (by show b < _; omega)).trans hc
      have e2 := (hw.cell (p := ⟨b', o' + k, none⟩) (by show b' < _; omega)).trans hc'
      clear hc hc'
      generalize (xs[k].toNat : Int) = Z at *
      go_wp2
      go_region
      go_wp2
      exact ⟨⟨k + 1, by omega, by go_num, hw.drew⟩, by simp [intOf]; omega⟩
    · go_wp2
      go_ret
      exact ⟨rfl, hw⟩

/-- What a marking from k on lays. -/
def ByteMarks (w : World) (L B : Nat) (a : Option Addr) (k : Int) (n : Nat) : Prop := ∀ q, q < n → ∃ b o, a = some ⟨b, o, none⟩ ∧ (L ≤ b ∧ b < B) ∧ w.cell? ⟨b, o + q, none⟩ = some (.int .u8 ((k + (q : Nat)) % 256))

set_option maxHeartbeats 1000000 in
theorem markBytes_any (a : Option Addr) (n c : Nat) (k : Int) (xs : List UInt8) (L B : Nat) (w : World) (ha : Hid (BytesAt w L B a xs)) (hx : Hid (n = xs.length)) (ht : Hid (ThawB L B w)) (hn : n ≤ 1000000000) (h0 : 0 ≤ k) (h1 : k ≤ 1000000000) :
    Calls Tryd.prog 19 #[.slice a n c, .int .i64 k] w fun e w' => e = .returned (.int .i64 (k + n)) ∧ Mod L B w w' ∧ ByteMarks w' L B a k n := by
  go_enter Tryd.func19, Tryd.ntmps19
  go_wp2
  go_loopw [1, 5] (fun u i wr => ∃ j : Nat, j ≤ n ∧ i = .int .i64 j ∧ u = .int .i64 (k + j) ∧ Hid (Mod L B w wr) ∧ Hid (ThawB L B wr) ∧ Hid (∀ q, q < n → ∃ b o v, a = some ⟨b, o, none⟩ ∧ (L ≤ b ∧ b < B) ∧ wr.cell? ⟨b, o + q, none⟩ = some (.int .u8 v)) ∧ Hid (ByteMarks wr L B a k j)) (fun _ i _ => n - (intOf i).toNat)
  case atStart =>
    refine ⟨0, Nat.zero_le _, rfl, by simp, hide (Mod.of_below (Below.refl _ _)), ht, hide (fun q hq => ?_), hide (fun q hq => absurd hq (by omega))⟩
    obtain ⟨b, o, e, hb, hc⟩ := ha.out q (by have := hx.out; omega)
    exact ⟨b, o, _, e, hb, hc⟩
  case round =>
    obtain ⟨j, hj, rfl, rfl, HM, HT, HC, HQ⟩ := hrel
    by_cases hlt : j < n
    · obtain ⟨b, o, v, rfl, hbB, hc⟩ := HC.out j hlt
      have hf := HT.out b (o + j) hbB
      go_wp2
      refine ⟨⟨j + 1, by omega, by go_num, by go_num, hide (HM.out.trans ⟨rfl, rfl, rfl, by simp [World.setCell], fun q _ hq => Below.heap_setCell _ _ _ _ (by dsimp only; omega)⟩), hide (HT.out.setCell _ _), hide (fun q hq => ?_), hide (fun q hq => ?_)⟩, by simp [intOf]; omega⟩
      · by_cases e : q = j
        · subst e
          exact ⟨b, o, _, rfl, hbB, World.cell?_setCell_same _ _ _ hc⟩
        · obtain ⟨b', o', v', e', hb', hc'⟩ := HC.out q hq
          cases e'
          exact ⟨b, o, v', rfl, hbB, by rw [World.cell?_setCell_other _ _ _ _ (by intro h; injection h with _ h2; omega)]; exact hc'⟩
      · by_cases e : q = j
        · subst e
          exact ⟨b, o, rfl, hbB, World.cell?_setCell_same _ _ _ hc⟩
        · obtain ⟨b', o', e', hb', hc'⟩ := HQ.out q (by omega)
          cases e'
          exact ⟨b, o, rfl, hbB, by rw [World.cell?_setCell_other _ _ _ _ (by intro h; injection h with _ h2; omega)]; exact hc'⟩
    · have hjn : j = n := by omega
      subst hjn
      go_wp2
      go_ret
      exact ⟨rfl, HM.out, HQ.out⟩
end Go.Proofs.YtdcdgopblbmgoaaDoor
