import Derived.Test.YtanaeindldcapaaDoorE11a
import Derived.Test.YtanaeindldcapaaDoorBI1
import Derived.Test.YtanaeindldcapaaDoorOHI
namespace Go.Proofs.YtanaeindldcapaaDoor
open Go.RowKit Go.Shelf
def writesI (x : Ins) : List Int := if dB x.op then [x.dst] else []
set_option maxHeartbeats 2000000 in
set_option maxRecDepth 100000 in
theorem writes_any (b k : Nat) (dst a bb imm : Int) (w : World) (hi : Hid (InsAt w b 0 ⟨k, dst, a, bb, imm⟩)) (h1 : 1 ≤ k) (h2 : k ≤ 13) (ht : Hid (OpTabW w)) :
    Calls Tryd.prog 71 #[.pointer (some ⟨b, 0, none⟩)] w fun e w' => ∃ v, e = .returned v ∧ Below w.heap.size w w' ∧ w'.ownsRow w.heap.size 2 1 v (writesI ⟨k, dst, a, bb, imm⟩).length ((writesI ⟨k, dst, a, bb, imm⟩).map (Value.int .i64)) := by
  obtain ⟨q0, q1, q2, q3, q4⟩ := hi.out
  simp only at q0 q1 q2 q3 q4
  obtain ⟨c0, c1, c2, c3, c4⟩ := ht.out.2 k h1 h2
  have hz := ht.out.1
  have hbl : b < w.heap.size := World.block_lt_of_cell? w _ q2
  have HRI : Hid (writesI ⟨k, dst, a, bb, imm⟩ = if dB (k : Int) then [dst] else []) := hide rfl
  generalize writesI ⟨k, dst, a, bb, imm⟩ = vs at *
  generalize dB (k : Int) = uD at *
  have HQ1 := hide q1
  have KEY : Hid (∀ (ka fa : Option Addr) (W : World), Below w.heap.size w W → ValsAt W w.heap.size W.heap.size ka ([uD].map Value.bool) → ValsAt W w.heap.size W.heap.size fa ([⟨b, 1, none⟩].map ptrV) → Calls Tryd.prog 86 #[.slice ka 1 1, .slice fa 1 1] W fun e w5 => ∃ a5 c5 m5, e = .returned (.slice a5 m5 c5) ∧ Below w.heap.size w w5 ∧
      Hid (Calls Tryd.prog 83 #[.slice a5 m5 c5] w5 fun e w' => ∃ v, e = .returned v ∧ Below w.heap.size w w' ∧ Hid (w'.ownsRow w.heap.size 2 1 v vs.length (vs.map (Value.int .i64))))) := hide (fun ka fa W hW hk hp => by
    have hsz := hW.size
    refine (chosen_any ka fa 1 1 [uD] [⟨b, 1, none⟩] w.heap.size W.heap.size W (Nat.le_refl _) (hide hk) (hide hp) (hide rfl) (by simp)).mono ?_
    rintro e w5 ⟨v5, rfl, hb5, ho5⟩
    have s5 := hb5.size
    have k5 : Below w.heap.size w w5 := bnext hW hb5
    obtain ⟨a5, c5, rfl, hv5⟩ := vals_owned ho5
    rw [List.length_map]
    refine ⟨a5, c5, _, rfl, k5, hide ?_⟩
    have r1 := (k5.cell (p := ⟨b, 1, none⟩) hbl).trans HQ1.out
    have hb5l : b < w5.heap.size := by omega
    refine (contents_any a5 c5 (keepP [uD] [⟨b, 1, none⟩]) vs W.heap.size w5.heap.size w5 (Nat.le_refl _) (hide hv5) (hide ?_) (hide ?_) ?_).mono ?_
    · rw [HRI.out]; cases uD <;> rfl
    · intro i h h'
      have hvs := HRI.out
      subst hvs
      cases uD
      · exact absurd h (by simp [keepP])
      · match i, h with
        | 0, _ => exact ⟨hb5l, r1⟩
    · cases uD <;> simp [keepP]
    · rintro e w7 ⟨v7, rfl, hb7, ho7⟩
      exact ⟨v7, rfl, bnext k5 hb7, hide (own_base ho7 (by omega))⟩)
  have e2 : ∀ x y, ((w.alloc x).alloc y).drew.heap.size = w.heap.size + 2 := fun x y => by show ((w.alloc x).alloc y).heap.size = _; simp
  have HCH1 := hide (KEY.out (some ⟨w.heap.size, 0, none⟩) (some ⟨w.heap.size + 1, 0, none⟩) ((w.alloc (.cells #[.bool uD] 4)).alloc (.cells #[.pointer (some ⟨b, 1, none⟩)] 153)).drew (balloc (balloc (Below.refl w.heap.size w) _) _).drew (by rw [e2]; exact vals_two1 w [.bool uD] 4 [.pointer (some ⟨b, 1, none⟩)] 153) (by rw [e2]; exact vals_two2 w [.pointer (some ⟨b, 1, none⟩)] 153 [.bool uD] 4))
  have HCH2 := hide (KEY.out (some ⟨w.heap.size + 1, 0, none⟩) (some ⟨w.heap.size, 0, none⟩) ((w.alloc (.cells #[.pointer (some ⟨b, 1, none⟩)] 153)).alloc (.cells #[.bool uD] 4)).drew (balloc (balloc (Below.refl w.heap.size w) _) _).drew (by rw [e2]; exact vals_two2 w [.bool uD] 4 [.pointer (some ⟨b, 1, none⟩)] 153) (by rw [e2]; exact vals_two1 w [.pointer (some ⟨b, 1, none⟩)] 153 [.bool uD] 4))
  clear e2 KEY q1 q2 q3 q4 c0 c2 c3 c4 HQ1 HRI
  have hk0 : (0 : Int) ≤ (k : Int) := by omega
  have hk13 : (k : Int) < 14 := by omega
  go_enter Tryd.func71, Tryd.ntmps71
  go_wp2_with fail
  go_region_held3 (fun w' => w'.cell? ⟨b, 0, none⟩ = some (.int .i64 (k : Int)) ∧ w'.cell? ⟨0, k * 5 + 1, none⟩ = some (.bool uD)) (go_keep)
    (first
      | (go_at_call 86; with_reducible refine HCH1.out.mono ?_; rintro e w5 ⟨a5, c5, m5, rfl, hb5, HC5⟩; have f2 := (hb5.cell (p := ⟨b, 0, none⟩) hbl).trans q0; have f3 := (hb5.cell (p := ⟨0, k * 5 + 1, none⟩) hz).trans c1; clear hb5)
      | (go_at_call 86; with_reducible refine HCH2.out.mono ?_; rintro e w5 ⟨a5, c5, m5, rfl, hb5, HC5⟩; have f2 := (hb5.cell (p := ⟨b, 0, none⟩) hbl).trans q0; have f3 := (hb5.cell (p := ⟨0, k * 5 + 1, none⟩) hz).trans c1; clear hb5)
      | (go_at_call 83; with_reducible refine HC5.out.mono ?_; rintro e w7 ⟨v7, rfl, hb7, HO7⟩; have h2' := (hb7.cell (p := ⟨b, 0, none⟩) hbl).trans q0; have h3' := (hb7.cell (p := ⟨0, k * 5 + 1, none⟩) hz).trans c1; have HB7 := hide hb7; clear hb7))
  all_goals
    go_wp2
    go_ret
    exact ⟨v7, rfl, HB7.out, HO7.out⟩
set_option maxHeartbeats 1000000 in
theorem Tryd.infoVn : (Tryd.prog.info? 52).map (fun i => (i.zero, i.size, i.bytes)) = some (some (.int .i64 0), 1, 8) := by kernel_rfl
set_option maxHeartbeats 1000000 in
set_option maxRecDepth 100000 in
theorem valueNumbers_any (a : Option Addr) (n c : Nat) (vs : List Int) (L B : Nat) (w : World) (ha : Hid (IntsAt w L B a vs)) (hx : Hid (n = vs.length)) (hn : n ≤ 100000) (hB : B ≤ w.heap.size) :
    Calls Tryd.prog 67 #[.slice a n c] w fun e w' => ∃ a' c', e = .returned (.slice a' vs.length c') ∧ Below w.heap.size w w' ∧ IntsAt w' w.heap.size w'.heap.size a' vs := by
  obtain ⟨i0, hi0, hz0, hz1, hz2⟩ := info_parts Tryd.infoVn
  have HO0 : Hid ((w.alloc (.cells #[] 52)).ownsRow w.heap.size 52 1 (.slice (some ⟨w.heap.size, 0, none⟩) 0 0) 0 []) := hide (World.ownsRow_lit (base := w.heap.size) (e := 52) (size := 1) w #[] 0 (by simp) (by simp) rfl)
  go_enter Tryd.func67, Tryd.ntmps67
  go_wp2
  go_loopw [3, 9] (fun u i wr => ∃ k : Nat, k ≤ n ∧ i = .int .i64 k ∧ Below w.heap.size w wr ∧ Hid (wr.ownsRow w.heap.size 52 1 u k ((vs.take k).map (Value.int .i64)))) (fun _ i _ => n - (intOf i).toNat)
  case atStart => exact ⟨0, Nat.zero_le _, rfl, balloc (Below.refl _ _) _, HO0⟩
  case round =>
    obtain ⟨k, hk, rfl, hw, HO⟩ := hrel
    by_cases hlt : k < n
    · have hkx : k < vs.length := by have := hx.out; omega
      obtain ⟨b, o, rfl, ⟨_, hbB⟩, hc⟩ := ha.out k hkx
      have hcw := (hw.cell (p := ⟨b, o + k, none⟩) (by show b < _; omega)).trans hc
      have HN : Hid (vs.take (k + 1) = vs.take k ++ [vs[k]]) := hide (take_next _ _ hkx)
      clear hc
      generalize vs[k] = x at *
      have hsz := hw.size
      go_wp2_with (at_builtin; refine wpList_append_own _ rfl _ _ 95 rfl w.heap.size 52 i0 (.int .i64 0) 1 8 Tryd.underlying95 hi0 hz0 hz1 hz2 rfl (by decide) _ _ _ rfl (HO.out.alloc _) ⟨wr.heap.size, 0, none⟩ 1 1 [.int .i64 x] rfl rfl ?c1 ?c2 ?c3 ?c4 ?c5 ?_)
      case c1 =>
        intro j u hj
        match j, hj with
        | 0, hj => simp at hj; subst hj; simp [Addr.add]
      case c2 => intro u hu; simp at hu; subst hu; rfl
      case c3 => unfold maxLen; omega
      case c4 => omega
      case c5 => simp; omega
      intro v1 w1 hown1 hgrow1 _
      have HO1 := hide hown1
      have HB1 := hide (grown_below (balloc hw _) hgrow1 (HO.out.alloc _) (Nat.le_refl _) (by simp; omega))
      clear hown1 hgrow1
      go_wp2
      exact ⟨⟨k + 1, by omega, by go_num, HB1.out, hide (by rw [HN.out, ints_snoc, List.map_take]; exact HO1.out)⟩, by simp [intOf]; omega⟩
    · go_wp2
      go_ret
      have hown := HO.out
      rw [List.take_of_length_le (l := vs) (i := k) (by have := hx.out; omega)] at hown
      obtain ⟨a1, c1, rfl, hi1⟩ := ints_owned hown
      exact ⟨_, _, rfl, hw, hi1⟩
theorem yield_wide {m m' l l' : Nat} {P : Program} {args : Array Value} {W : World} {R : Ending → World → Prop} (h : YieldAt Fence.wide m P l args W R) : YieldAt (Fence.wide.inRound l') m' P l args W R := by
  obtain ⟨fn, tmps, asg, bo, h1, h2⟩ := h
  exact ⟨fn, tmps, asg, bo, h1, h2.1, fun c cs _ => h2.2 c cs (room_wide _)⟩
/-- A place with its two lists as they lie. -/
structure Pl where
  i : Nat
  ua : Option Addr
  uc : Nat
  us : List Int
  da : Option Addr
  dc : Nat
  ds : List Int
def Pl.dat (p : Pl) : Nat × List Int × List Int := (p.i, p.us, p.ds)
def plEnc (p : Pl) : Array Value := #[.int .i64 (p.i : Int), .agg #[.slice p.ua p.us.length p.uc, .slice p.da p.ds.length p.dc]]
def plPx (n₀ : Nat) (Pd : Nat × List Int × List Int → Prop) (p : Pl) (V : World) : Prop := Pd p.dat ∧ IntsAt V n₀ V.heap.size p.ua p.us ∧ IntsAt V n₀ V.heap.size p.da p.ds
def plI (x : Blk) (j : Fin x.instrs.length) : Nat × List Int × List Int := ((j : Nat) + 1, rdI (x.instrs[j]), writesI (x.instrs[j]))
/-- The places of a block. -/
def plL (x : Blk) : List (Nat × List Int × List Int) := (x.instrs.length + 1, rdT x.term, []) :: ((bwF x.instrs.length 0).map (plI x) ++ [(0, [], x.phis.map Ph.dst)])
theorem plI_mem (x : Blk) (j : Fin x.instrs.length) : plI x j ∈ plL x := by
  refine List.mem_cons_of_mem _ (List.mem_append_left _ (List.mem_map_of_mem ?_))
  unfold bwF
  rw [List.take_of_length_le (by simp)]
  exact List.mem_reverse.2 (List.mem_finRange j)
theorem plL_last (x : Blk) : ((0 : Nat), ([] : List Int), x.phis.map Ph.dst) ∈ plL x := List.mem_cons_of_mem _ (List.mem_append_right _ (List.mem_singleton.2 rfl))
theorem OpTabW.of_block {V V' : World} (h : OpTabW V) (e : V'.heap[(0 : Nat)]? = V.heap[(0 : Nat)]?) (hs : V.heap.size ≤ V'.heap.size) : OpTabW V' := by
  refine ⟨Nat.lt_of_lt_of_le h.1 hs, fun i h1 h2 => ?_⟩
  have e := fun o => cell_of (o := o) e
  simp only [e]
  exact h.2 i h1 h2
theorem TerTabW.of_block {V V' : World} (h : TerTabW V) (e : V'.heap[(1 : Nat)]? = V.heap[(1 : Nat)]?) (hs : V.heap.size ≤ V'.heap.size) : TerTabW V' := by
  refine ⟨Nat.lt_of_lt_of_le h.1 hs, fun i h1 h2 => ?_⟩
  have e := fun o => cell_of (o := o) e
  simp only [e]
  exact h.2 i h1 h2
/-- What lies still. -/
structure Stc (x : Blk) (L B Bx n₀ : Nat) (V : World) : Prop where
  op : OpTabW V
  ter : TerTabW V
  blk : BlkAt V L B Bx 0 x
  lt : Bx < n₀
  le : B ≤ n₀
  g1 : 0 < n₀
  g2 : 1 < n₀
theorem Stc.same {x : Blk} {L B Bx n₀ : Nat} {V V' : World} (h : Stc x L B Bx n₀ V) (e : ∀ k, k < n₀ → V'.heap[k]? = V.heap[k]?) (hs : V.heap.size ≤ V'.heap.size) : Stc x L B Bx n₀ V' :=
  ⟨h.op.of_block (e _ h.g1) hs, h.ter.of_block (e _ h.g2) hs, h.blk.keepS (fun k _ h2 => e k (Nat.lt_of_lt_of_le h2 h.le)) (e _ h.lt), h.lt, h.le, h.g1, h.g2⟩
theorem Stc.below {x : Blk} {L B Bx n₀ : Nat} {V V' : World} (h : Stc x L B Bx n₀ V) (k : Below V.heap.size V V') (hn : n₀ ≤ V.heap.size) : Stc x L B Bx n₀ V' := h.same (fun i hi => k.block i (by omega)) k.size
theorem Stc.kp {x : Blk} {L B Bx n₀ : Nat} {Ms : Nat → Prop} {V V' : World} (h : Stc x L B Bx n₀ V) (k : KpB n₀ Ms V V') (hM : ∀ k, L ≤ k → k < B → ¬ Ms k) (hMx : ¬ Ms Bx) (hM1 : ¬ Ms 0) (hM2 : ¬ Ms 1) : Stc x L B Bx n₀ V' :=
  ⟨h.op.of_block (k.low _ h.g1 hM1) k.size, h.ter.of_block (k.low _ h.g2 hM2) k.size, h.blk.keepS (fun i h1 h2 => k.low i (Nat.lt_of_lt_of_le h2 h.le) (hM i h1 h2)) (k.low _ h.lt hMx), h.lt, h.le, h.g1, h.g2⟩
theorem ownFrom_none {β : Type} {B : Nat} {J : β → World → Prop} (hJ : OwnFrom B J) {s : β} {V V' : World} (h : J s V) (k : Below V.heap.size V V') : J s V' :=
  hJ s V V' none h ⟨k.os, k.tape, k.output, k.size, fun i hi _ => k.block i hi⟩ (fun r e => by cases e)
theorem leaves_one {F : Fence} {n : Nat} {P : Program} {fn : Func} {tmps : Array Value} {R : Ending → World → Prop} {D : Nat} {W : World} (hD : W.heap[D]? = some (.deferred (some []))) (h : ∃ v, (results fn tmps).run P (W.putObj D (.deferred none)) = .ok v (W.putObj D (.deferred none)) ∧ R (.returned v) (W.putObj D (.deferred none))) : LeavesInM F n P fn tmps R [{ target := .collected D, args := #[] }] .returning W :=
  ⟨by simp, Or.inl ⟨D, _, rfl, run_takeDeferred hD, h⟩⟩
theorem rdI_le (y : Ins) : (rdI y).length ≤ 2 := by unfold rdI; split <;> split <;> simp
end Go.Proofs.YtanaeindldcapaaDoor
