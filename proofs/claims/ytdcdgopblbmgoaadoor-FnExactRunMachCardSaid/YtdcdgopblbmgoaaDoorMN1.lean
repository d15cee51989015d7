import Derived.Test.YtdcdgopblbmgoaaDoorN1
import Derived.Test.YtdcdgopblbmgoaaDoorN3
import Derived.Test.YtdcdgopblbmgoaaDoorM0
/-
  The node of an instruction of a machine program.
-/
namespace Go.Proofs.YtdcdgopblbmgoaaDoor
open Go.RowKit

def nodeM (args : List Int) (sc : Int) (x : Ins) : Value :=
  if x.op = 11 then .iface 222 (.agg #[.int .i64 x.dst, .int .i64 x.a]) else if x.op = 12 then .iface 222 (.agg #[.int .i64 sc, .int .i64 x.a])
  else if x.op = 13 then .iface 222 (.agg #[.int .i64 x.dst, .int .i64 sc]) else nodeV args x
theorem nodeM_iface (args : List Int) (sc : Int) (x : Ins) : ∃ T V, nodeM args sc x = .iface T V := by
  unfold nodeM
  split
  · exact ⟨_, _, rfl⟩
  split
  · exact ⟨_, _, rfl⟩
  split
  · exact ⟨_, _, rfl⟩
  · exact nodeV_iface args x

set_option maxHeartbeats 1000000 in
theorem machNode_any (x : Ins) (args : List Int) (R : Nat) (a : Option Addr) (n c : Nat) (nv sc : Int) (L B : Nat) (w : World) (hc : w.cell? ⟨R, 0, none⟩ = some (.slice a n c)) (h11 : w.cell? ⟨R, 11, none⟩ = some (.int .i64 sc)) (hr : R < w.heap.size) (ha : Hid (IntsAt w L B a args)) (hx : Hid (n = args.length)) (hB : B ≤ w.heap.size) (ok : insOk nv 13 x = true) :
    Calls Tryd.prog 137 #[.pointer (some ⟨R, 0, none⟩), .agg #[.int .i64 x.op, .int .i64 x.dst, .int .i64 x.a, .int .i64 x.b, .int .i64 x.imm]] w fun e w' => e = .returned (nodeM args sc x) ∧ Below w.heap.size w w' := by
  have HA := fun o => hide (ha.out.keep ((balloc (Below.refl w.heap.size w) o).drew.mono hB))
  have HC := fun o => ((balloc (Below.refl w.heap.size w) o).drew.cell (p := ⟨R, 0, none⟩) hr).trans hc
  have H11 := fun o => ((balloc (Below.refl w.heap.size w) o).cell (p := ⟨R, 11, none⟩) hr).trans h11
  obtain ⟨⟨o1, o2⟩, -, -, -⟩ := insM_facts ok
  by_cases k11 : x.op = 11
  · obtain ⟨op, dst, xa, xb, imm⟩ := x
    dsimp only at *
    subst k11
    go_enter Tryd.func137, Tryd.ntmps137
    go_wp2
    go_ret
    exact ⟨ret_val (by simp [nodeM]), balloc (Below.refl _ _) _⟩
  by_cases k12 : x.op = 12
  · obtain ⟨op, dst, xa, xb, imm⟩ := x
    dsimp only at *
    subst k12
    clear k11
    go_enter Tryd.func137, Tryd.ntmps137
    go_wp2
    go_region_held3 (fun w' => w'.cell? ⟨R, 11, none⟩ = some (.int .i64 sc) ∧ w'.cell? ⟨w.heap.size, 2, none⟩ = some (.int .i64 xa)) (go_keep) (fail)
    go_wp2
    go_ret
    exact ⟨ret_val (by simp [nodeM]), (balloc (Below.refl _ _) _).drew⟩
  by_cases k13 : x.op = 13
  · obtain ⟨op, dst, xa, xb, imm⟩ := x
    dsimp only at *
    subst k13
    clear k11 k12
    go_enter Tryd.func137, Tryd.ntmps137
    go_wp2
    go_region_held3 (fun w' => w'.cell? ⟨R, 11, none⟩ = some (.int .i64 sc) ∧ w'.cell? ⟨w.heap.size, 1, none⟩ = some (.int .i64 dst)) (go_keep) (fail)
    go_wp2
    go_ret
    exact ⟨ret_val (by simp [nodeM]), (balloc (Below.refl _ _) _).drew⟩
  have ok' := insOk_low ok k11 k12 k13
  have HIN := fun o => hide (instrNode_any x args R a n c nv L B ((w.alloc o).drew) (HC o) (by simp; omega) (HA o) hx (by simp; omega) ok')
  have hv : Hid (nodeM args sc x = nodeV args x) := hide (by unfold nodeM; rw [if_neg k11, if_neg k12, if_neg k13])
  have e1 : (x.op == 11) = false := by simp; omega
  have e2 : (x.op == 12) = false := by simp; omega
  have e3 : (x.op == 13) = false := by simp; omega
  rw [hv.out]
  generalize nodeV args x = NV at *
  obtain ⟨op, dst, xa, xb, imm⟩ := x
  dsimp only at *
  clear ok ok' HA HC H11 k11 k12 k13 hv
  go_enter Tryd.func137, Tryd.ntmps137
  go_wp2
  go_region_held3 (fun w' => w'.cell? ⟨w.heap.size, 0, none⟩ = some (.int .i64 op) ∧ w'.cell? ⟨w.heap.size, 1, none⟩ = some (.int .i64 dst) ∧ w'.cell? ⟨w.heap.size, 2, none⟩ = some (.int .i64 xa) ∧ w'.cell? ⟨w.heap.size, 3, none⟩ = some (.int .i64 xb) ∧ w'.cell? ⟨w.heap.size, 4, none⟩ = some (.int .i64 imm)) (go_keep) ((go_at_call 115; refine (HIN _).out.mono ?_; rintro e w1 ⟨rfl, hb1⟩; obtain ⟨f0, f1, f2, f3, f4⟩ := five_keep (hb1.mono (B' := w.heap.size + 1) (by simp)); have HB1 := hide (bnext (balloc (Below.refl w.heap.size w) _).drew hb1); clear hb1))
  go_wp2
  go_ret
  exact ⟨rfl, HB1.out⟩
end Go.Proofs.YtdcdgopblbmgoaaDoor

namespace Go.Proofs.YtdcdgopblbmgoaaDoor
open Go.RowKit

def nvM (xs : List MBlk) (args : List Int) (sc : Int) (i : Nat) : List Value := (mblk xs i).instrs.map (nodeM args sc)
def endM (x : Ter) : Value := .agg #[.int .i64 x.kind, .int .i64 x.a, .int .i64 x.to, .slice none 0 0, .int .i64 x.els, .slice none 0 0]
def eM (xs : List MBlk) (i : Nat) (_ : World) (_ _ : Nat) (v : Value) : Prop := v = endM (mblk xs i).term
theorem eM_keep (xs : List MBlk) (i : Nat) : EKeep (eM xs i) := ⟨fun h _ => h, fun h _ _ => h⟩

set_option maxHeartbeats 2000000 in
set_option maxRecDepth 100000 in
theorem makeNodesM_any (m : Nat) (sc : Int) (a : Option Addr) (n c : Nat) (xs : List MBlk) (R : Nat) (aa : Option Addr) (na ca : Nat) (args : List Int) (C : Nat → Option Value) (L B La Ba : Nat) (w : World)
    (ha : Hid (MBlksAt w L B a xs)) (hx : Hid (n = xs.length)) (hs : Hid (xs.length + mTot xs ≤ 1048576)) (hB : B ≤ R) (hR : R < w.heap.size) (hBa : Ba ≤ R) (hargs : Hid (IntsAt w La Ba aa args)) (hna : Hid (na = args.length))
    (good : Hid (validM m xs = true)) (hbox : Hid (RunBox w R aa na ca (.slice none 0 0) C)) (g1 : Hid (C 11 = some (.int .i64 sc))) (hn1 : 1 ≤ n) :
    Calls Tryd.prog 97 #[.pointer (some ⟨R, 0, none⟩), .agg #[.int .i64 m, .slice a n c]] w
      fun e w' => e = .returned (.tuple #[]) ∧ ∃ G c' gs cs vs, Kb w.heap.size R R w w' ∧ (w.heap.size ≤ G ∧ G < w'.heap.size) ∧ RunBox w' R aa na ca (.slice (some ⟨G, 0, none⟩) n c') C ∧ NTab w' w.heap.size w'.heap.size G n (nvM xs args sc) (eM xs) gs cs vs := by
  have hnn : n ≤ 1048576 := by have := hx.out; have := hs.out; omega
  obtain ⟨i0, hi0, hz0, hz1, hz2⟩ := info_parts Tryd.info118
  obtain ⟨j0, hj0, hy0, hy1, hy2⟩ := info_parts Tryd.info116
  have HST0 : Hid (∀ x, NInvG (w.alloc x) R aa na ca C (nvM xs args sc) (eM xs) 0 [] none 0 (w.alloc x)) := hide (fun x => NInvG.start (hbox.out.keep ((balloc (Below.refl w.heap.size w) x).block R hR)))
  have HBA : Hid (∀ x, Below w.heap.size w (w.alloc x)) := hide (fun x => balloc (Below.refl w.heap.size w) x)
  have HSA : Hid (∀ x, (w.alloc x).heap.size = w.heap.size + 1) := hide (fun x => by simp)
  go_enter Tryd.func97, Tryd.ntmps97
  go_wp2
  have HST1 := hide (HST0.out (.cells #[.int .i64 m, .slice a n c] 66))
  have HBA1 := hide (HBA.out (.cells #[.int .i64 m, .slice a n c] 66))
  have HSA1 := hide (HSA.out (.cells #[.int .i64 m, .slice a n c] 66))
  generalize (w.alloc (.cells #[.int .i64 m, .slice a n c] 66)) = wB at *
  clear HST0 HBA HSA
  have hsB := HSA1.out
  go_loopw [13] (fun i wr => ∃ (k : Nat) (Us : List Value) (va : Option Addr) (vc : Nat), k ≤ n ∧ i = .int .i64 k ∧ Hid (NInvG wB R aa na ca C (nvM xs args sc) (eM xs) k Us va vc wr)) (fun i _ => n - (intOf i).toNat)
  case atStart => exact ⟨0, [], none, 0, Nat.zero_le _, rfl, HST1⟩
  case round =>
    clear HST1
    obtain ⟨k, Us, va, vc, hk, rfl, hinv⟩ := hrel
    have hks := hinv.out.kb.size
    by_cases hlt : k < n
    · have hkx : k < xs.length := by have := hx.out; omega
      have BO := mOk_of good.out k hkx
      obtain ⟨b, o, rfl, ⟨_, hbB⟩, hc⟩ := ha.out k hkx
      rw [show xs[k] = mblk xs k from (mblk_at xs k hkx).symm] at hc
      have hil : (mblk xs k).instrs.length ≤ 1048576 := by rw [mblk_at xs k hkx]; have := mTot_le (List.getElem_mem hkx); have := hs.out; omega
      obtain ⟨ia, ic, e0, ⟨e2, e3, e4, e5⟩, hin⟩ := (hc.keep (HBA1.out.mono (B' := B) (by omega)) hbB).keep (hinv.out.kb.below (B' := B) (by omega) hB hB) hbB
      have HIN0 := hide hin
      have hok := hide BO.ins
      obtain ⟨s0, s7, sz, so⟩ := hinv.out.box
      have s11 := (so 11 (by decide)).trans g1.out
      clear hc BO hin so
      generalize hX : mblk xs k = X at *
      have HX := hide hX
      clear hX
      have HOW0 := fun o => own_born wr o 165
      generalize hK : X.term.kind = kd at *
      generalize hXA : X.term.a = xta at *
      generalize hXT : X.term.to = xto at *
      generalize hXE : X.term.els = xel at *
      have HEM : Hid (endM X.term = .agg #[.int .i64 kd, .int .i64 xta, .int .i64 xto, .slice none 0 0, .int .i64 xel, .slice none 0 0]) := hide (by unfold endM; rw [hK, hXA, hXT, hXE])
      clear hK hXA hXT hXE
      have HBK : Hid (∀ x y w', Below (wr.heap.size + 1) ((wr.alloc (.cells #[.slice ia X.instrs.length ic, .int .i64 kd, .int .i64 xta, .int .i64 xto, .int .i64 xel] x)).alloc y) w' → w'.cell? ⟨wr.heap.size, 1, none⟩ = some (.int .i64 kd) ∧ w'.cell? ⟨wr.heap.size, 2, none⟩ = some (.int .i64 xta) ∧ w'.cell? ⟨wr.heap.size, 3, none⟩ = some (.int .i64 xto) ∧ w'.cell? ⟨wr.heap.size, 4, none⟩ = some (.int .i64 xel)) := hide (fun x y w' h => by
        have q := h.block wr.heap.size (by omega)
        refine ⟨(cell_of q).trans ?_, (cell_of q).trans ?_, (cell_of q).trans ?_, (cell_of q).trans ?_⟩ <;> simp [go_sem])
      go_wp2
      have HBK1 := hide (HBK.out 126 (.cells #[] 165))
      clear HBK
      generalize hWL : ((wr.alloc (.cells #[.slice ia X.instrs.length ic, .int .i64 kd, .int .i64 xta, .int .i64 xto, .int .i64 xel] 126)).alloc (.cells #[] 165)) = wl at *
      have hbl : Below wr.heap.size wr wl := by rw [← hWL]; exact balloc (balloc (Below.refl _ _) _) _
      have hsl : wl.heap.size = wr.heap.size + 1 + 1 := by rw [← hWL]; simp
      have HOW1 : Hid (wl.ownsRow (wr.heap.size + 1) 165 1 (.slice (some ⟨wr.heap.size + 1, 0, none⟩) 0 0) 0 []) := hide (by rw [← hWL]; exact HOW0 _)
      have HBL := hide hbl
      clear hWL HOW0 hbl
      generalize wr = wo at *
      generalize hM : wo.heap.size = M at *
      go_loopw [6, 21] (fun u i wi => ∃ j : Nat, j ≤ X.instrs.length ∧ i = .int .i64 j ∧ Below (M + 1) wl wi ∧ M + 1 < wi.heap.size ∧ Hid (wi.ownsRow (M + 1) 165 1 u j ((X.instrs.take j).map (nodeM args sc)))) (fun _ i _ => X.instrs.length - (intOf i).toNat)
      case atStart => exact ⟨0, Nat.zero_le _, rfl, Below.refl _ _, by omega, by simpa using HOW1⟩
      case round =>
        obtain ⟨j, hj, rfl, hwl, hwsz, HOW⟩ := hrel
        generalize wr = wi at *
        have hwi0 : Below M wo wi := HBL.out.trans (hwl.mono (by omega))
        obtain ⟨y1, y2, y3, y4⟩ := HBK1.out wi hwl
        have hwi := hide hwi0
        have HWL := hide hwl
        clear HOW1 e0 e2 e3 e4 e5 hwl
        by_cases hjl : j < X.instrs.length
        · obtain ⟨b3, o3, rfl, ⟨_, hb3⟩, hcc⟩ := HIN0.out j hjl
          obtain ⟨i0', i1, i2, i3, i4⟩ := hcc.keep (hwi0.mono (B' := B) (by omega)) hb3
          have hokj := hok.out j hjl
          obtain ⟨xi, hxi⟩ : ∃ xi, X.instrs[j] = xi := ⟨_, rfl⟩
          rw [hxi] at hokj i0' i1 i2 i3 i4
          obtain ⟨op, dst, xa, xb, imm⟩ := xi
          dsimp only at i0' i1 i2 i3 i4
          obtain ⟨T, V, htv⟩ := nodeM_iface args sc ⟨op, dst, xa, xb, imm⟩
          have HTV := hide htv
          have HXI := hide hxi
          have HAR := fun x => hide (((hargs.out.keep (HBA1.out.mono (by omega))).keep (hinv.out.kb.below (by omega) hBa hBa)).keep ((hwi0.mono (B' := Ba) (by omega)).trans ((balloc (Below.refl wi.heap.size wi) x).mono (by omega))))
          have HIN := fun x => hide (by
            have h := machNode_any ⟨op, dst, xa, xb, imm⟩ args R aa na ca m sc La Ba (wi.alloc x) (((balloc (Below.refl wi.heap.size wi) x).cell (p := ⟨R, 0, none⟩) (by show R < _; omega)).trans ((hwi0.cell (p := ⟨R, 0, none⟩) (by show R < _; omega)).trans s0)) (((balloc (Below.refl wi.heap.size wi) x).cell (p := ⟨R, 11, none⟩) (by show R < _; omega)).trans ((hwi0.cell (p := ⟨R, 11, none⟩) (by show R < _; omega)).trans s11)) (by simp; omega) (HAR x) hna (by simp; omega) hokj
            dsimp only at h
            exact h)
          clear htv hxi hokj HAR hcc hwi0 s0 s7 sz s11 y1 y2 y3 y4
          go_wp2_with fail
          refine (HIN _).out.mono ?_
          rintro e w2 ⟨rfl, hb2⟩
          rw [HTV.out]
          have hs2 := hb2.size
          simp at hs2
          have HB2 := hide (bnext (balloc (Below.refl wi.heap.size wi) _) hb2)
          clear hb2
          go_wp2_with (at_builtin; refine wpList_append_lies _ rfl _ _ 163 rfl (M + 1) 165 i0 .nilIface 1 16 Tryd.underlying163 hi0 hz0 hz1 hz2 rfl (by decide) u6 j (((X.instrs.take j).map (nodeM args sc))) (by simp [Act.eval]) (own_keep2 HOW.out (fun b e => ((balloc HB2.out _).block b (HOW.out.lt b e).2))) ⟨w2.heap.size, 0, none⟩ 1 1 [.iface T V] (by simp [Act.eval]) rfl (World.news_of_block (heap_new _ _)) (by intro u hu; simp at hu; subst hu; rfl) (by decide) (by unfold maxLen; omega) (by omega) (by simp; omega) (w2.heap.size + 1) (by simp) ?_; intro g cap w3 hown hgrow hat hlt; have hgs := hgrow.size; simp at hgs; have HB3 := hide (grown_below ((HWL.out.trans (HB2.out.mono (by omega))).alloc (by have := HB2.out.size; omega) _) hgrow (own_keep2 HOW.out (fun b e => ((balloc HB2.out _).block b (HOW.out.lt b e).2))) (by omega) (by simp; omega)); have HOW3 := hide hown; clear hown hgrow hat hlt)
          exact ⟨⟨j + 1, by omega, by go_num, HB3.out, by omega, hide (by rw [take_next _ _ hjl, List.map_append]; show w3.ownsRow _ _ _ _ _ (_ ++ [nodeM args sc X.instrs[j]]); rw [HXI.out, HTV.out]; exact HOW3.out)⟩, by simp [intOf]; omega⟩
        · have hje : j = X.instrs.length := by omega
          subst hje
          have c7 := fun x => ((balloc (Below.refl wi.heap.size wi) x).cell (p := ⟨R, 7, none⟩) (by show R < _; omega)).trans ((hwi0.cell (p := ⟨R, 7, none⟩) (by show R < _; omega)).trans s7)
          have c7b := fun x y => ((balloc (balloc (Below.refl wi.heap.size wi) x) y).cell (p := ⟨R, 7, none⟩) (by show R < _; omega)).trans ((hwi0.cell (p := ⟨R, 7, none⟩) (by show R < _; omega)).trans s7)
          rw [List.take_length] at HOW
          clear s0 sz HIN0 hok hwi0 s11
          go_wp2
          refine wp_region_held_drew (S := (fun w' => w'.cell? ⟨wi.heap.size, 0, none⟩ = some (.int .i64 kd) ∧ w'.cell? ⟨wi.heap.size, 1, none⟩ = some (.int .i64 xta) ∧ w'.cell? ⟨wi.heap.size, 2, none⟩ = some (.int .i64 xto) ∧ w'.cell? ⟨wi.heap.size, 3, none⟩ = some (.slice none 0 0) ∧ w'.cell? ⟨wi.heap.size, 4, none⟩ = some (.int .i64 xel) ∧ w'.cell? ⟨wi.heap.size, 5, none⟩ = some (.slice none 0 0))) (by kernel_rfl) (by (try dsimp only); go_keep) (fun hHeld => ?_)
          refine wpAnyH_take (i := 0) (v := ?_) rfl (by kernel_rfl) (by kernel_rfl) (by kernel_rfl) (fun _ _ _ h => h) (Or.inl ⟨by rfl, ?_⟩) (by assumption) ?_
          rotate_left
          · intro w hSw; (try dsimp only at hSw); go_simp; try with_reducible rfl
          simp only [Act.put, List.getElem_toArray, List.getElem_cons_zero, List.setIfInBounds_toArray, List.set_cons_zero, List.set_cons_succ]
          refine wpAnyH_take (i := 1) (v := ?_) rfl (by kernel_rfl) (by kernel_rfl) (by kernel_rfl) (fun _ _ _ h => h) (Or.inl ⟨by rfl, ?_⟩) (by assumption) ?_
          rotate_left
          · intro w hSw; (try dsimp only at hSw); go_simp; try with_reducible rfl
          simp only [Act.put, List.getElem_toArray, List.getElem_cons_zero, List.getElem_cons_succ, List.setIfInBounds_toArray, List.set_cons_zero, List.set_cons_succ]
          refine wpAnyH_take (i := 2) (v := ?_) rfl (by kernel_rfl) (by kernel_rfl) (by kernel_rfl) (fun _ _ _ h => h) (Or.inl ⟨by rfl, ?_⟩) (by assumption) ?_
          rotate_left
          · intro w hSw; (try dsimp only at hSw); go_simp; try with_reducible rfl
          simp only [Act.put, List.getElem_toArray, List.getElem_cons_zero, List.getElem_cons_succ, List.setIfInBounds_toArray, List.set_cons_zero, List.set_cons_succ]
          refine wpAnyH_take (i := 3) (v := ?_) rfl (by kernel_rfl) (by kernel_rfl) (by kernel_rfl) (fun _ _ _ h => h) (Or.inl ⟨by rfl, ?_⟩) (by assumption) ?_
          rotate_left
          · intro w hSw; (try dsimp only at hSw); go_simp; try with_reducible rfl
          simp only [Act.put, List.getElem_toArray, List.getElem_cons_zero, List.getElem_cons_succ, List.setIfInBounds_toArray, List.set_cons_zero, List.set_cons_succ]
          refine wpAnyH_take (i := 4) (v := ?_) rfl (by kernel_rfl) (by kernel_rfl) (by kernel_rfl) (fun _ _ _ h => h) (Or.inl ⟨by rfl, ?_⟩) (by assumption) ?_
          rotate_left
          · intro w hSw; (try dsimp only at hSw); go_simp; try with_reducible rfl
          simp only [Act.put, List.getElem_toArray, List.getElem_cons_zero, List.getElem_cons_succ, List.setIfInBounds_toArray, List.set_cons_zero, List.set_cons_succ]
          refine wpAnyH_take (i := 6) (v := ?_) rfl (by kernel_rfl) (by kernel_rfl) (by kernel_rfl) (fun _ _ _ h => h) (Or.inl ⟨by rfl, ?_⟩) (by assumption) ?_
          rotate_left
          · intro w hSw; (try dsimp only at hSw); go_simp; try with_reducible rfl
          simp only [Act.put, List.getElem_toArray, List.getElem_cons_zero, List.getElem_cons_succ, List.setIfInBounds_toArray, List.set_cons_zero, List.set_cons_succ]
          refine wpAnyH_take (i := 7) (v := ?_) rfl (by kernel_rfl) (by kernel_rfl) (by kernel_rfl) (fun _ _ _ h => h) (Or.inl ⟨by rfl, ?_⟩) (by assumption) ?_
          rotate_left
          · intro w hSw; (try dsimp only at hSw); go_simp; try with_reducible rfl
          simp only [Act.put, List.getElem_toArray, List.getElem_cons_zero, List.getElem_cons_succ, List.setIfInBounds_toArray, List.set_cons_zero, List.set_cons_succ]
          refine wpAnyH_take (i := 8) (v := ?_) rfl (by kernel_rfl) (by kernel_rfl) (by kernel_rfl) (fun _ _ _ h => h) (Or.inl ⟨by rfl, ?_⟩) (by assumption) ?_
          rotate_left
          · intro w hSw; (try dsimp only at hSw); go_simp; try with_reducible rfl
          simp only [Act.put, List.getElem_toArray, List.getElem_cons_zero, List.getElem_cons_succ, List.setIfInBounds_toArray, List.set_cons_zero, List.set_cons_succ]
          refine wpAnyH_ready (rs := [5, 9]) (by kernel_rfl) (by simp) ?_
          refine (AllReadyH.cons rfl (fun K hK => ?_) (AllReadyH.cons rfl (fun K hK => ?_) AllReadyH.nil))
          · skip
            go_simp
            refine hK.out _ _ (by first | with_reducible exact hHeld | ((try dsimp only); go_keep)) (fun hHeld => ?_)
            clear hK
            try simp only [Act.put, List.getElem_toArray, List.getElem_cons_zero, List.getElem_cons_succ, List.setIfInBounds_toArray, List.set_cons_zero, List.set_cons_succ]
            refine wpAnyH_ready (rs := [9]) (by kernel_rfl) (by simp) ?_
            refine AllReadyH.cons rfl (fun K hK => ?_) AllReadyH.nil
            go_simp
            refine hK.out _ _ (by first | with_reducible exact hHeld | ((try dsimp only); go_keep)) (fun hHeld => ?_)
            clear hK
            try simp only [Act.put, List.getElem_toArray, List.getElem_cons_zero, List.getElem_cons_succ, List.setIfInBounds_toArray, List.set_cons_zero, List.set_cons_succ]
            refine wpAnyH_ready (rs := [10]) (by kernel_rfl) (by simp) ?_
            refine AllReadyH.cons rfl (fun K hK => ?_) AllReadyH.nil
            refine step_append_lies _ rfl (.tmp 53) (.tmp 56) 163 rfl (M + 1) 165 i0 .nilIface 1 16 Tryd.underlying163 hi0 hz0 hz1 hz2 rfl (by decide) u6 X.instrs.length (X.instrs.map (nodeM args sc)) (by simp [Act.eval]) (own_keep2 HOW.out (fun b e => ((balloc (balloc (Below.refl wi.heap.size wi) _) _).block b (HOW.out.lt b e).2))) ⟨wi.heap.size + 1, 0, none⟩ 1 1 [.iface 200 (.agg #[.int .i64 kd, .int .i64 xta, .int .i64 xto, .slice none 0 0, .int .i64 xel, .slice none 0 0])] (by simp [Act.eval]) rfl ?_ (by intro u hu; simp at hu; subst hu; rfl) (by decide) (by unfold maxLen; omega) (by omega) (by simp; omega) (wi.heap.size + 1 + 1) (by simp) ?_
            · exact World.news_of_block (by have h := heap_new (wi.alloc (.cells #[.int .i64 kd, .int .i64 xta, .int .i64 xto, .slice none 0 0, .int .i64 xel, .slice none 0 0] 200)) (.cells #[.iface 200 (.agg #[.int .i64 kd, .int .i64 xta, .int .i64 xto, .slice none 0 0, .int .i64 xel, .slice none 0 0])] 165); rw [World.size_alloc] at h; exact h)
            intro g cap w3 hown hgrow hat hlt
            have hgs := hgrow.size
            simp at hgs
            have HB3 := hide (grown_below (((hwi.out.alloc (by omega) _).drew).alloc (by simp; omega) _) hgrow (own_keep2 HOW.out (fun b e => ((balloc (balloc (Below.refl wi.heap.size wi) _) _).block b (HOW.out.lt b e).2))) (by omega) (by simp; omega))
            have HOW3 := hide hown
            have p7 := (HB3.out.cell (p := ⟨R, 7, none⟩) (by show R < _; omega)).trans s7
            have p7a := fun x => ((balloc (Below.refl w3.heap.size w3) x).cell (p := ⟨R, 7, none⟩) (by show R < _; omega)).trans p7
            have p7z := (HB3.out.frozen (p := ⟨R, 7, none⟩) (by show R < _; omega)).trans (hinv.out.box.2.2.1 7)
            have hfr : some wi.heap.size ≠ u6.ownBlock := fun e => by have := (HOW.out.lt _ e.symm).2; omega
            obtain ⟨q, -⟩ := far10' hgrow (k := wi.heap.size) (by simp; omega) hfr
            have q0 := (q 0).trans (show _ = some (Value.int .i64 kd) by simp [go_sem])
            have q1 := (q 1).trans (show _ = some (Value.int .i64 xta) by simp [go_sem])
            have q2 := (q 2).trans (show _ = some (Value.int .i64 xto) by simp [go_sem])
            have q3 := (q 3).trans (show _ = some (Value.slice none 0 0) by simp [go_sem])
            have q4 := (q 4).trans (show _ = some (Value.int .i64 xel) by simp [go_sem])
            have q5 := (q 5).trans (show _ = some (Value.slice none 0 0) by simp [go_sem])
            have hMw : M < w3.heap.size := by omega
            have hw3 : wi.heap.size < w3.heap.size := by omega
            clear q hown hgrow hat hlt hfr
            refine hK.out _ _ (by first | with_reducible exact hHeld | ((try dsimp only); go_keep)) (fun hHeld => ?_)
            clear hK
            try simp only [Act.put, List.getElem_toArray, List.getElem_cons_zero, List.getElem_cons_succ, List.setIfInBounds_toArray, List.set_cons_zero, List.set_cons_succ]
            refine wpAnyH_ready (rs := [11]) (by kernel_rfl) (by simp) ?_
            refine AllReadyH.cons rfl (fun K hK => ?_) AllReadyH.nil
            go_simp
            refine hK.out _ _ (by first | with_reducible exact hHeld | ((try dsimp only); go_keep)) (fun hHeld => ?_)
            clear hK
            try simp only [Act.put, List.getElem_toArray, List.getElem_cons_zero, List.getElem_cons_succ, List.setIfInBounds_toArray, List.set_cons_zero, List.set_cons_succ]
            refine wpAnyH_ready (rs := [12]) (by kernel_rfl) (by simp) ?_
            refine AllReadyH.cons rfl (fun K hK => ?_) AllReadyH.nil
            refine step_append_lies _ rfl (.tmp 52) (.tmp 58) 100 rfl wB.heap.size 163 j0 (.slice none 0 0) 1 24 Tryd.underlying100 hj0 hy0 hy1 hy2 rfl (by decide) (.slice va k vc) k Us (by simp [Act.eval]) (own_keep2 hinv.out.own (fun b e => ((HB3.out.alloc (by omega) _).block b (by have := (hinv.out.own.lt b e).2; omega)))) ⟨w3.heap.size, 0, none⟩ 1 1 [.slice (some ⟨g, 0, none⟩) (X.instrs.length + 1) cap] (by simp [Act.eval]) rfl ?_ (by intro u hu; simp at hu; subst hu; rfl) (by decide) (by unfold maxLen; omega) (by omega) (by simp; omega) (w3.heap.size + 1) (by simp) ?_
            · exact World.news_of_block (heap_new _ _)
            intro G cap4 w4 hown hgrow hat hlt
            have HST := hide (hinv.out.step (eM_keep _) (by omega) (by rw [hM]; exact HB3.out) (NodeRowG.of_own (base := M + 1) (L := wo.heap.size) (nv := nvM xs args sc k) (E := eM xs k) (by unfold nvM; rw [List.length_map, HX.out]) (by omega) (by unfold nvM; rw [HX.out]; exact HOW3.out) (by unfold eM; rw [HX.out, HEM.out])) hown hgrow hat)
            have nR : some R ≠ (Value.slice va k vc).ownBlock := fun e => by have := (hinv.out.own.lt _ e.symm).1; omega
            have nW : some wi.heap.size ≠ (Value.slice va k vc).ownBlock := fun e => by have := (hinv.out.own.lt _ e.symm).2; have := hwi.out.size; omega
            obtain ⟨q, qz⟩ := far10' hgrow (k := R) (by simp; omega) nR
            obtain ⟨x, -⟩ := far10' hgrow (k := wi.heap.size) (by simp; omega) nW
            have r7 := (q 7).trans (((balloc (Below.refl w3.heap.size w3) _).cell (p := ⟨R, 7, none⟩) (by show R < _; omega)).trans p7)
            have r7z := (qz 7).trans (((balloc (Below.refl w3.heap.size w3) _).frozen (p := ⟨R, 7, none⟩) (by show R < _; omega)).trans p7z)
            have x0 := (x 0).trans (((balloc (Below.refl w3.heap.size w3) _).cell (p := ⟨wi.heap.size, 0, none⟩) hw3).trans q0)
            have x1 := (x 1).trans (((balloc (Below.refl w3.heap.size w3) _).cell (p := ⟨wi.heap.size, 1, none⟩) hw3).trans q1)
            have x2 := (x 2).trans (((balloc (Below.refl w3.heap.size w3) _).cell (p := ⟨wi.heap.size, 2, none⟩) hw3).trans q2)
            have x3 := (x 3).trans (((balloc (Below.refl w3.heap.size w3) _).cell (p := ⟨wi.heap.size, 3, none⟩) hw3).trans q3)
            have x4 := (x 4).trans (((balloc (Below.refl w3.heap.size w3) _).cell (p := ⟨wi.heap.size, 4, none⟩) hw3).trans q4)
            have x5 := (x 5).trans (((balloc (Below.refl w3.heap.size w3) _).cell (p := ⟨wi.heap.size, 5, none⟩) hw3).trans q5)
            have nRW : R ≠ wi.heap.size := by omega
            clear q qz x hown hgrow hat hlt nR nW
            refine hK.out _ _ (by first | with_reducible exact hHeld | ((try dsimp only); go_keep)) (fun hHeld => ?_)
            clear hK
            try simp only [Act.put, List.getElem_toArray, List.getElem_cons_zero, List.getElem_cons_succ, List.setIfInBounds_toArray, List.set_cons_zero, List.set_cons_succ]
            refine wpAnyH_take (i := 13) (v := ?_) rfl (by kernel_rfl) (by kernel_rfl) (by kernel_rfl) (fun _ _ _ h => h) (Or.inl ⟨by rfl, ?_⟩) (by assumption) ?_
            rotate_left
            · intro w hSw; (try dsimp only at hSw); go_simp; try with_reducible rfl
            simp only [Act.put, List.getElem_toArray, List.getElem_cons_zero, List.getElem_cons_succ, List.setIfInBounds_toArray, List.set_cons_zero, List.set_cons_succ]
            refine wpAnyH_take (i := 14) (v := ?_) rfl (by kernel_rfl) (by kernel_rfl) (by kernel_rfl) (fun _ _ _ h => h) (Or.inl ⟨by rfl, ?_⟩) (by assumption) ?_
            rotate_left
            · intro w hSw; (try dsimp only at hSw); go_simp; try with_reducible rfl
            simp only [Act.put, List.getElem_toArray, List.getElem_cons_zero, List.getElem_cons_succ, List.setIfInBounds_toArray, List.set_cons_zero, List.set_cons_succ]
            refine wpAnyH_take (i := 15) (v := ?_) rfl (by kernel_rfl) (by kernel_rfl) (by kernel_rfl) (fun _ _ _ h => h) (Or.inl ⟨by rfl, ?_⟩) (by assumption) ?_
            rotate_left
            · intro w hSw; (try dsimp only at hSw); go_simp; try with_reducible rfl
            simp only [Act.put, List.getElem_toArray, List.getElem_cons_zero, List.getElem_cons_succ, List.setIfInBounds_toArray, List.set_cons_zero, List.set_cons_succ]
            refine wpAnyH_ready (rs := [16]) (by kernel_rfl) (by simp) ?_
            refine AllReadyH.cons rfl (fun K hK => ?_) AllReadyH.nil
            go_simp
            refine hK.out _ _ (by first | with_reducible exact hHeld | ((try dsimp only); go_keep)) (fun hHeld => ?_)
            clear hK
            try simp only [Act.put, List.getElem_toArray, List.getElem_cons_zero, List.getElem_cons_succ, List.setIfInBounds_toArray, List.set_cons_zero, List.set_cons_succ]
            refine wpAnyH_done (by kernel_rfl) ?_ _
            go_wp2
            exact ⟨⟨k + 1, Us ++ [.slice (some ⟨g, 0, none⟩) (X.instrs.length + 1) cap], some ⟨G, 0, none⟩, cap4, by omega, by go_num, HST⟩, by simp [intOf]; omega⟩
          · skip
            go_simp
            refine hK.out _ _ (by first | with_reducible exact hHeld | ((try dsimp only); go_keep)) (fun hHeld => ?_)
            clear hK
            try simp only [Act.put, List.getElem_toArray, List.getElem_cons_zero, List.getElem_cons_succ, List.setIfInBounds_toArray, List.set_cons_zero, List.set_cons_succ]
            refine wpAnyH_ready (rs := [5, 10]) (by kernel_rfl) (by simp) ?_
            refine (AllReadyH.cons rfl (fun K hK => ?_) (AllReadyH.cons rfl (fun K hK => ?_) AllReadyH.nil))
            · skip
              go_simp
              refine hK.out _ _ (by first | with_reducible exact hHeld | ((try dsimp only); go_keep)) (fun hHeld => ?_)
              clear hK
              try simp only [Act.put, List.getElem_toArray, List.getElem_cons_zero, List.getElem_cons_succ, List.setIfInBounds_toArray, List.set_cons_zero, List.set_cons_succ]
              refine wpAnyH_ready (rs := [10]) (by kernel_rfl) (by simp) ?_
              refine AllReadyH.cons rfl (fun K hK => ?_) AllReadyH.nil
              refine step_append_lies _ rfl (.tmp 53) (.tmp 56) 163 rfl (M + 1) 165 i0 .nilIface 1 16 Tryd.underlying163 hi0 hz0 hz1 hz2 rfl (by decide) u6 X.instrs.length (X.instrs.map (nodeM args sc)) (by simp [Act.eval]) (own_keep2 HOW.out (fun b e => ((balloc (balloc (Below.refl wi.heap.size wi) _) _).block b (HOW.out.lt b e).2))) ⟨wi.heap.size + 1, 0, none⟩ 1 1 [.iface 200 (.agg #[.int .i64 kd, .int .i64 xta, .int .i64 xto, .slice none 0 0, .int .i64 xel, .slice none 0 0])] (by simp [Act.eval]) rfl ?_ (by intro u hu; simp at hu; subst hu; rfl) (by decide) (by unfold maxLen; omega) (by omega) (by simp; omega) (wi.heap.size + 1 + 1) (by simp) ?_
              · exact World.news_of_block (by have h := heap_new (wi.alloc (.cells #[.int .i64 kd, .int .i64 xta, .int .i64 xto, .slice none 0 0, .int .i64 xel, .slice none 0 0] 200)) (.cells #[.iface 200 (.agg #[.int .i64 kd, .int .i64 xta, .int .i64 xto, .slice none 0 0, .int .i64 xel, .slice none 0 0])] 165); rw [World.size_alloc] at h; exact h)
              intro g cap w3 hown hgrow hat hlt
              have hgs := hgrow.size
              simp at hgs
              have HB3 := hide (grown_below (((hwi.out.alloc (by omega) _).drew).alloc (by simp; omega) _) hgrow (own_keep2 HOW.out (fun b e => ((balloc (balloc (Below.refl wi.heap.size wi) _) _).block b (HOW.out.lt b e).2))) (by omega) (by simp; omega))
              have HOW3 := hide hown
              have p7 := (HB3.out.cell (p := ⟨R, 7, none⟩) (by show R < _; omega)).trans s7
              have p7a := fun x => ((balloc (Below.refl w3.heap.size w3) x).cell (p := ⟨R, 7, none⟩) (by show R < _; omega)).trans p7
              have p7z := (HB3.out.frozen (p := ⟨R, 7, none⟩) (by show R < _; omega)).trans (hinv.out.box.2.2.1 7)
              have hfr : some wi.heap.size ≠ u6.ownBlock := fun e => by have := (HOW.out.lt _ e.symm).2; omega
              obtain ⟨q, -⟩ := far10' hgrow (k := wi.heap.size) (by simp; omega) hfr
              have q0 := (q 0).trans (show _ = some (Value.int .i64 kd) by simp [go_sem])
              have q1 := (q 1).trans (show _ = some (Value.int .i64 xta) by simp [go_sem])
              have q2 := (q 2).trans (show _ = some (Value.int .i64 xto) by simp [go_sem])
              have q3 := (q 3).trans (show _ = some (Value.slice none 0 0) by simp [go_sem])
              have q4 := (q 4).trans (show _ = some (Value.int .i64 xel) by simp [go_sem])
              have q5 := (q 5).trans (show _ = some (Value.slice none 0 0) by simp [go_sem])
              have hMw : M < w3.heap.size := by omega
              have hw3 : wi.heap.size < w3.heap.size := by omega
              clear q hown hgrow hat hlt hfr
              refine hK.out _ _ (by first | with_reducible exact hHeld | ((try dsimp only); go_keep)) (fun hHeld => ?_)
              clear hK
              try simp only [Act.put, List.getElem_toArray, List.getElem_cons_zero, List.getElem_cons_succ, List.setIfInBounds_toArray, List.set_cons_zero, List.set_cons_succ]
              refine wpAnyH_ready (rs := [11]) (by kernel_rfl) (by simp) ?_
              refine AllReadyH.cons rfl (fun K hK => ?_) AllReadyH.nil
              go_simp
              refine hK.out _ _ (by first | with_reducible exact hHeld | ((try dsimp only); go_keep)) (fun hHeld => ?_)
              clear hK
              try simp only [Act.put, List.getElem_toArray, List.getElem_cons_zero, List.getElem_cons_succ, List.setIfInBounds_toArray, List.set_cons_zero, List.set_cons_succ]
              refine wpAnyH_ready (rs := [12]) (by kernel_rfl) (by simp) ?_
              refine AllReadyH.cons rfl (fun K hK => ?_) AllReadyH.nil
              refine step_append_lies _ rfl (.tmp 52) (.tmp 58) 100 rfl wB.heap.size 163 j0 (.slice none 0 0) 1 24 Tryd.underlying100 hj0 hy0 hy1 hy2 rfl (by decide) (.slice va k vc) k Us (by simp [Act.eval]) (own_keep2 hinv.out.own (fun b e => ((HB3.out.alloc (by omega) _).block b (by have := (hinv.out.own.lt b e).2; omega)))) ⟨w3.heap.size, 0, none⟩ 1 1 [.slice (some ⟨g, 0, none⟩) (X.instrs.length + 1) cap] (by simp [Act.eval]) rfl ?_ (by intro u hu; simp at hu; subst hu; rfl) (by decide) (by unfold maxLen; omega) (by omega) (by simp; omega) (w3.heap.size + 1) (by simp) ?_
              · exact World.news_of_block (heap_new _ _)
              intro G cap4 w4 hown hgrow hat hlt
              have HST := hide (hinv.out.step (eM_keep _) (by omega) (by rw [hM]; exact HB3.out) (NodeRowG.of_own (base := M + 1) (L := wo.heap.size) (nv := nvM xs args sc k) (E := eM xs k) (by unfold nvM; rw [List.length_map, HX.out]) (by omega) (by unfold nvM; rw [HX.out]; exact HOW3.out) (by unfold eM; rw [HX.out, HEM.out])) hown hgrow hat)
              have nR : some R ≠ (Value.slice va k vc).ownBlock := fun e => by have := (hinv.out.own.lt _ e.symm).1; omega
              have nW : some wi.heap.size ≠ (Value.slice va k vc).ownBlock := fun e => by have := (hinv.out.own.lt _ e.symm).2; have := hwi.out.size; omega
              obtain ⟨q, qz⟩ := far10' hgrow (k := R) (by simp; omega) nR
              obtain ⟨x, -⟩ := far10' hgrow (k := wi.heap.size) (by simp; omega) nW
              have r7 := (q 7).trans (((balloc (Below.refl w3.heap.size w3) _).cell (p := ⟨R, 7, none⟩) (by show R < _; omega)).trans p7)
              have r7z := (qz 7).trans (((balloc (Below.refl w3.heap.size w3) _).frozen (p := ⟨R, 7, none⟩) (by show R < _; omega)).trans p7z)
              have x0 := (x 0).trans (((balloc (Below.refl w3.heap.size w3) _).cell (p := ⟨wi.heap.size, 0, none⟩) hw3).trans q0)
              have x1 := (x 1).trans (((balloc (Below.refl w3.heap.size w3) _).cell (p := ⟨wi.heap.size, 1, none⟩) hw3).trans q1)
              have x2 := (x 2).trans (((balloc (Below.refl w3.heap.size w3) _).cell (p := ⟨wi.heap.size, 2, none⟩) hw3).trans q2)
              have x3 := (x 3).trans (((balloc (Below.refl w3.heap.size w3) _).cell (p := ⟨wi.heap.size, 3, none⟩) hw3).trans q3)
              have x4 := (x 4).trans (((balloc (Below.refl w3.heap.size w3) _).cell (p := ⟨wi.heap.size, 4, none⟩) hw3).trans q4)
              have x5 := (x 5).trans (((balloc (Below.refl w3.heap.size w3) _).cell (p := ⟨wi.heap.size, 5, none⟩) hw3).trans q5)
              have nRW : R ≠ wi.heap.size := by omega
              clear q qz x hown hgrow hat hlt nR nW
              refine hK.out _ _ (by first | with_reducible exact hHeld | ((try dsimp only); go_keep)) (fun hHeld => ?_)
              clear hK
              try simp only [Act.put, List.getElem_toArray, List.getElem_cons_zero, List.getElem_cons_succ, List.setIfInBounds_toArray, List.set_cons_zero, List.set_cons_succ]
              refine wpAnyH_take (i := 13) (v := ?_) rfl (by kernel_rfl) (by kernel_rfl) (by kernel_rfl) (fun _ _ _ h => h) (Or.inl ⟨by rfl, ?_⟩) (by assumption) ?_
              rotate_left
              · intro w hSw; (try dsimp only at hSw); go_simp; try with_reducible rfl
              simp only [Act.put, List.getElem_toArray, List.getElem_cons_zero, List.getElem_cons_succ, List.setIfInBounds_toArray, List.set_cons_zero, List.set_cons_succ]
              refine wpAnyH_take (i := 14) (v := ?_) rfl (by kernel_rfl) (by kernel_rfl) (by kernel_rfl) (fun _ _ _ h => h) (Or.inl ⟨by rfl, ?_⟩) (by assumption) ?_
              rotate_left
              · intro w hSw; (try dsimp only at hSw); go_simp; try with_reducible rfl
              simp only [Act.put, List.getElem_toArray, List.getElem_cons_zero, List.getElem_cons_succ, List.setIfInBounds_toArray, List.set_cons_zero, List.set_cons_succ]
              refine wpAnyH_take (i := 15) (v := ?_) rfl (by kernel_rfl) (by kernel_rfl) (by kernel_rfl) (fun _ _ _ h => h) (Or.inl ⟨by rfl, ?_⟩) (by assumption) ?_
              rotate_left
              · intro w hSw; (try dsimp only at hSw); go_simp; try with_reducible rfl
              simp only [Act.put, List.getElem_toArray, List.getElem_cons_zero, List.getElem_cons_succ, List.setIfInBounds_toArray, List.set_cons_zero, List.set_cons_succ]
              refine wpAnyH_ready (rs := [16]) (by kernel_rfl) (by simp) ?_
              refine AllReadyH.cons rfl (fun K hK => ?_) AllReadyH.nil
              go_simp
              refine hK.out _ _ (by first | with_reducible exact hHeld | ((try dsimp only); go_keep)) (fun hHeld => ?_)
              clear hK
              try simp only [Act.put, List.getElem_toArray, List.getElem_cons_zero, List.getElem_cons_succ, List.setIfInBounds_toArray, List.set_cons_zero, List.set_cons_succ]
              refine wpAnyH_done (by kernel_rfl) ?_ _
              go_wp2
              exact ⟨⟨k + 1, Us ++ [.slice (some ⟨g, 0, none⟩) (X.instrs.length + 1) cap], some ⟨G, 0, none⟩, cap4, by omega, by go_num, HST⟩, by simp [intOf]; omega⟩
            · skip
              refine step_append_lies _ rfl (.tmp 53) (.tmp 56) 163 rfl (M + 1) 165 i0 .nilIface 1 16 Tryd.underlying163 hi0 hz0 hz1 hz2 rfl (by decide) u6 X.instrs.length (X.instrs.map (nodeM args sc)) (by simp [Act.eval]) (own_keep2 HOW.out (fun b e => ((balloc (balloc (Below.refl wi.heap.size wi) _) _).block b (HOW.out.lt b e).2))) ⟨wi.heap.size + 1, 0, none⟩ 1 1 [.iface 200 (.agg #[.int .i64 kd, .int .i64 xta, .int .i64 xto, .slice none 0 0, .int .i64 xel, .slice none 0 0])] (by simp [Act.eval]) rfl ?_ (by intro u hu; simp at hu; subst hu; rfl) (by decide) (by unfold maxLen; omega) (by omega) (by simp; omega) (wi.heap.size + 1 + 1) (by simp) ?_
              · exact World.news_of_block (by have h := heap_new (wi.alloc (.cells #[.int .i64 kd, .int .i64 xta, .int .i64 xto, .slice none 0 0, .int .i64 xel, .slice none 0 0] 200)) (.cells #[.iface 200 (.agg #[.int .i64 kd, .int .i64 xta, .int .i64 xto, .slice none 0 0, .int .i64 xel, .slice none 0 0])] 165); rw [World.size_alloc] at h; exact h)
              intro g cap w3 hown hgrow hat hlt
              have hgs := hgrow.size
              simp at hgs
              have HB3 := hide (grown_below (((hwi.out.alloc (by omega) _).drew).alloc (by simp; omega) _) hgrow (own_keep2 HOW.out (fun b e => ((balloc (balloc (Below.refl wi.heap.size wi) _) _).block b (HOW.out.lt b e).2))) (by omega) (by simp; omega))
              have HOW3 := hide hown
              have p7 := (HB3.out.cell (p := ⟨R, 7, none⟩) (by show R < _; omega)).trans s7
              have p7a := fun x => ((balloc (Below.refl w3.heap.size w3) x).cell (p := ⟨R, 7, none⟩) (by show R < _; omega)).trans p7
              have p7z := (HB3.out.frozen (p := ⟨R, 7, none⟩) (by show R < _; omega)).trans (hinv.out.box.2.2.1 7)
              have hfr : some wi.heap.size ≠ u6.ownBlock := fun e => by have := (HOW.out.lt _ e.symm).2; omega
              obtain ⟨q, -⟩ := far10' hgrow (k := wi.heap.size) (by simp; omega) hfr
              have q0 := (q 0).trans (show _ = some (Value.int .i64 kd) by simp [go_sem])
              have q1 := (q 1).trans (show _ = some (Value.int .i64 xta) by simp [go_sem])
              have q2 := (q 2).trans (show _ = some (Value.int .i64 xto) by simp [go_sem])
              have q3 := (q 3).trans (show _ = some (Value.slice none 0 0) by simp [go_sem])
              have q4 := (q 4).trans (show _ = some (Value.int .i64 xel) by simp [go_sem])
              have q5 := (q 5).trans (show _ = some (Value.slice none 0 0) by simp [go_sem])
              have hMw : M < w3.heap.size := by omega
              have hw3 : wi.heap.size < w3.heap.size := by omega
              clear q hown hgrow hat hlt hfr
              refine hK.out _ _ (by first | with_reducible exact hHeld | ((try dsimp only); go_keep)) (fun hHeld => ?_)
              clear hK
              try simp only [Act.put, List.getElem_toArray, List.getElem_cons_zero, List.getElem_cons_succ, List.setIfInBounds_toArray, List.set_cons_zero, List.set_cons_succ]
              refine wpAnyH_ready (rs := [5, 11]) (by kernel_rfl) (by simp) ?_
              refine (AllReadyH.cons rfl (fun K hK => ?_) (AllReadyH.cons rfl (fun K hK => ?_) AllReadyH.nil))
              · skip
                go_simp
                refine hK.out _ _ (by first | with_reducible exact hHeld | ((try dsimp only); go_keep)) (fun hHeld => ?_)
                clear hK
                try simp only [Act.put, List.getElem_toArray, List.getElem_cons_zero, List.getElem_cons_succ, List.setIfInBounds_toArray, List.set_cons_zero, List.set_cons_succ]
                refine wpAnyH_ready (rs := [11]) (by kernel_rfl) (by simp) ?_
                refine AllReadyH.cons rfl (fun K hK => ?_) AllReadyH.nil
                go_simp
                refine hK.out _ _ (by first | with_reducible exact hHeld | ((try dsimp only); go_keep)) (fun hHeld => ?_)
                clear hK
                try simp only [Act.put, List.getElem_toArray, List.getElem_cons_zero, List.getElem_cons_succ, List.setIfInBounds_toArray, List.set_cons_zero, List.set_cons_succ]
                refine wpAnyH_ready (rs := [12]) (by kernel_rfl) (by simp) ?_
                refine AllReadyH.cons rfl (fun K hK => ?_) AllReadyH.nil
                refine step_append_lies _ rfl (.tmp 52) (.tmp 58) 100 rfl wB.heap.size 163 j0 (.slice none 0 0) 1 24 Tryd.underlying100 hj0 hy0 hy1 hy2 rfl (by decide) (.slice va k vc) k Us (by simp [Act.eval]) (own_keep2 hinv.out.own (fun b e => ((HB3.out.alloc (by omega) _).block b (by have := (hinv.out.own.lt b e).2; omega)))) ⟨w3.heap.size, 0, none⟩ 1 1 [.slice (some ⟨g, 0, none⟩) (X.instrs.length + 1) cap] (by simp [Act.eval]) rfl ?_ (by intro u hu; simp at hu; subst hu; rfl) (by decide) (by unfold maxLen; omega) (by omega) (by simp; omega) (w3.heap.size + 1) (by simp) ?_
                · exact World.news_of_block (heap_new _ _)
                intro G cap4 w4 hown hgrow hat hlt
                have HST := hide (hinv.out.step (eM_keep _) (by omega) (by rw [hM]; exact HB3.out) (NodeRowG.of_own (base := M + 1) (L := wo.heap.size) (nv := nvM xs args sc k) (E := eM xs k) (by unfold nvM; rw [List.length_map, HX.out]) (by omega) (by unfold nvM; rw [HX.out]; exact HOW3.out) (by unfold eM; rw [HX.out, HEM.out])) hown hgrow hat)
                have nR : some R ≠ (Value.slice va k vc).ownBlock := fun e => by have := (hinv.out.own.lt _ e.symm).1; omega
                have nW : some wi.heap.size ≠ (Value.slice va k vc).ownBlock := fun e => by have := (hinv.out.own.lt _ e.symm).2; have := hwi.out.size; omega
                obtain ⟨q, qz⟩ := far10' hgrow (k := R) (by simp; omega) nR
                obtain ⟨x, -⟩ := far10' hgrow (k := wi.heap.size) (by simp; omega) nW
                have r7 := (q 7).trans (((balloc (Below.refl w3.heap.size w3) _).cell (p := ⟨R, 7, none⟩) (by show R < _; omega)).trans p7)
                have r7z := (qz 7).trans (((balloc (Below.refl w3.heap.size w3) _).frozen (p := ⟨R, 7, none⟩) (by show R < _; omega)).trans p7z)
                have x0 := (x 0).trans (((balloc (Below.refl w3.heap.size w3) _).cell (p := ⟨wi.heap.size, 0, none⟩) hw3).trans q0)
                have x1 := (x 1).trans (((balloc (Below.refl w3.heap.size w3) _).cell (p := ⟨wi.heap.size, 1, none⟩) hw3).trans q1)
                have x2 := (x 2).trans (((balloc (Below.refl w3.heap.size w3) _).cell (p := ⟨wi.heap.size, 2, none⟩) hw3).trans q2)
                have x3 := (x 3).trans (((balloc (Below.refl w3.heap.size w3) _).cell (p := ⟨wi.heap.size, 3, none⟩) hw3).trans q3)
                have x4 := (x 4).trans (((balloc (Below.refl w3.heap.size w3) _).cell (p := ⟨wi.heap.size, 4, none⟩) hw3).trans q4)
                have x5 := (x 5).trans (((balloc (Below.refl w3.heap.size w3) _).cell (p := ⟨wi.heap.size, 5, none⟩) hw3).trans q5)
                have nRW : R ≠ wi.heap.size := by omega
                clear q qz x hown hgrow hat hlt nR nW
                refine hK.out _ _ (by first | with_reducible exact hHeld | ((try dsimp only); go_keep)) (fun hHeld => ?_)
                clear hK
                try simp only [Act.put, List.getElem_toArray, List.getElem_cons_zero, List.getElem_cons_succ, List.setIfInBounds_toArray, List.set_cons_zero, List.set_cons_succ]
                refine wpAnyH_take (i := 13) (v := ?_) rfl (by kernel_rfl) (by kernel_rfl) (by kernel_rfl) (fun _ _ _ h => h) (Or.inl ⟨by rfl, ?_⟩) (by assumption) ?_
                rotate_left
                · intro w hSw; (try dsimp only at hSw); go_simp; try with_reducible rfl
                simp only [Act.put, List.getElem_toArray, List.getElem_cons_zero, List.getElem_cons_succ, List.setIfInBounds_toArray, List.set_cons_zero, List.set_cons_succ]
                refine wpAnyH_take (i := 14) (v := ?_) rfl (by kernel_rfl) (by kernel_rfl) (by kernel_rfl) (fun _ _ _ h => h) (Or.inl ⟨by rfl, ?_⟩) (by assumption) ?_
                rotate_left
                · intro w hSw; (try dsimp only at hSw); go_simp; try with_reducible rfl
                simp only [Act.put, List.getElem_toArray, List.getElem_cons_zero, List.getElem_cons_succ, List.setIfInBounds_toArray, List.set_cons_zero, List.set_cons_succ]
                refine wpAnyH_take (i := 15) (v := ?_) rfl (by kernel_rfl) (by kernel_rfl) (by kernel_rfl) (fun _ _ _ h => h) (Or.inl ⟨by rfl, ?_⟩) (by assumption) ?_
                rotate_left
                · intro w hSw; (try dsimp only at hSw); go_simp; try with_reducible rfl
                simp only [Act.put, List.getElem_toArray, List.getElem_cons_zero, List.getElem_cons_succ, List.setIfInBounds_toArray, List.set_cons_zero, List.set_cons_succ]
                refine wpAnyH_ready (rs := [16]) (by kernel_rfl) (by simp) ?_
                refine AllReadyH.cons rfl (fun K hK => ?_) AllReadyH.nil
                go_simp
                refine hK.out _ _ (by first | with_reducible exact hHeld | ((try dsimp only); go_keep)) (fun hHeld => ?_)
                clear hK
                try simp only [Act.put, List.getElem_toArray, List.getElem_cons_zero, List.getElem_cons_succ, List.setIfInBounds_toArray, List.set_cons_zero, List.set_cons_succ]
                refine wpAnyH_done (by kernel_rfl) ?_ _
                go_wp2
                exact ⟨⟨k + 1, Us ++ [.slice (some ⟨g, 0, none⟩) (X.instrs.length + 1) cap], some ⟨G, 0, none⟩, cap4, by omega, by go_num, HST⟩, by simp [intOf]; omega⟩
              · skip
                go_simp
                refine hK.out _ _ (by first | with_reducible exact hHeld | ((try dsimp only); go_keep)) (fun hHeld => ?_)
                clear hK
                try simp only [Act.put, List.getElem_toArray, List.getElem_cons_zero, List.getElem_cons_succ, List.setIfInBounds_toArray, List.set_cons_zero, List.set_cons_succ]
                refine wpAnyH_ready (rs := [5]) (by kernel_rfl) (by simp) ?_
                refine AllReadyH.cons rfl (fun K hK => ?_) AllReadyH.nil
                go_simp
                refine hK.out _ _ (by first | with_reducible exact hHeld | ((try dsimp only); go_keep)) (fun hHeld => ?_)
                clear hK
                try simp only [Act.put, List.getElem_toArray, List.getElem_cons_zero, List.getElem_cons_succ, List.setIfInBounds_toArray, List.set_cons_zero, List.set_cons_succ]
                refine wpAnyH_ready (rs := [12]) (by kernel_rfl) (by simp) ?_
                refine AllReadyH.cons rfl (fun K hK => ?_) AllReadyH.nil
                refine step_append_lies _ rfl (.tmp 52) (.tmp 58) 100 rfl wB.heap.size 163 j0 (.slice none 0 0) 1 24 Tryd.underlying100 hj0 hy0 hy1 hy2 rfl (by decide) (.slice va k vc) k Us (by simp [Act.eval]) (own_keep2 hinv.out.own (fun b e => ((HB3.out.alloc (by omega) _).block b (by have := (hinv.out.own.lt b e).2; omega)))) ⟨w3.heap.size, 0, none⟩ 1 1 [.slice (some ⟨g, 0, none⟩) (X.instrs.length + 1) cap] (by simp [Act.eval]) rfl ?_ (by intro u hu; simp at hu; subst hu; rfl) (by decide) (by unfold maxLen; omega) (by omega) (by simp; omega) (w3.heap.size + 1) (by simp) ?_
                · exact World.news_of_block (heap_new _ _)
                intro G cap4 w4 hown hgrow hat hlt
                have HST := hide (hinv.out.step (eM_keep _) (by omega) (by rw [hM]; exact HB3.out) (NodeRowG.of_own (base := M + 1) (L := wo.heap.size) (nv := nvM xs args sc k) (E := eM xs k) (by unfold nvM; rw [List.length_map, HX.out]) (by omega) (by unfold nvM; rw [HX.out]; exact HOW3.out) (by unfold eM; rw [HX.out, HEM.out])) hown hgrow hat)
                have nR : some R ≠ (Value.slice va k vc).ownBlock := fun e => by have := (hinv.out.own.lt _ e.symm).1; omega
                have nW : some wi.heap.size ≠ (Value.slice va k vc).ownBlock := fun e => by have := (hinv.out.own.lt _ e.symm).2; have := hwi.out.size; omega
                obtain ⟨q, qz⟩ := far10' hgrow (k := R) (by simp; omega) nR
                obtain ⟨x, -⟩ := far10' hgrow (k := wi.heap.size) (by simp; omega) nW
                have r7 := (q 7).trans (((balloc (Below.refl w3.heap.size w3) _).cell (p := ⟨R, 7, none⟩) (by show R < _; omega)).trans p7)
                have r7z := (qz 7).trans (((balloc (Below.refl w3.heap.size w3) _).frozen (p := ⟨R, 7, none⟩) (by show R < _; omega)).trans p7z)
                have x0 := (x 0).trans (((balloc (Below.refl w3.heap.size w3) _).cell (p := ⟨wi.heap.size, 0, none⟩) hw3).trans q0)
                have x1 := (x 1).trans (((balloc (Below.refl w3.heap.size w3) _).cell (p := ⟨wi.heap.size, 1, none⟩) hw3).trans q1)
                have x2 := (x 2).trans (((balloc (Below.refl w3.heap.size w3) _).cell (p := ⟨wi.heap.size, 2, none⟩) hw3).trans q2)
                have x3 := (x 3).trans (((balloc (Below.refl w3.heap.size w3) _).cell (p := ⟨wi.heap.size, 3, none⟩) hw3).trans q3)
                have x4 := (x 4).trans (((balloc (Below.refl w3.heap.size w3) _).cell (p := ⟨wi.heap.size, 4, none⟩) hw3).trans q4)
                have x5 := (x 5).trans (((balloc (Below.refl w3.heap.size w3) _).cell (p := ⟨wi.heap.size, 5, none⟩) hw3).trans q5)
                have nRW : R ≠ wi.heap.size := by omega
                clear q qz x hown hgrow hat hlt nR nW
                refine hK.out _ _ (by first | with_reducible exact hHeld | ((try dsimp only); go_keep)) (fun hHeld => ?_)
                clear hK
                try simp only [Act.put, List.getElem_toArray, List.getElem_cons_zero, List.getElem_cons_succ, List.setIfInBounds_toArray, List.set_cons_zero, List.set_cons_succ]
                refine wpAnyH_take (i := 13) (v := ?_) rfl (by kernel_rfl) (by kernel_rfl) (by kernel_rfl) (fun _ _ _ h => h) (Or.inl ⟨by rfl, ?_⟩) (by assumption) ?_
                rotate_left
                · intro w hSw; (try dsimp only at hSw); go_simp; try with_reducible rfl
                simp only [Act.put, List.getElem_toArray, List.getElem_cons_zero, List.getElem_cons_succ, List.setIfInBounds_toArray, List.set_cons_zero, List.set_cons_succ]
                refine wpAnyH_take (i := 14) (v := ?_) rfl (by kernel_rfl) (by kernel_rfl) (by kernel_rfl) (fun _ _ _ h => h) (Or.inl ⟨by rfl, ?_⟩) (by assumption) ?_
                rotate_left
                · intro w hSw; (try dsimp only at hSw); go_simp; try with_reducible rfl
                simp only [Act.put, List.getElem_toArray, List.getElem_cons_zero, List.getElem_cons_succ, List.setIfInBounds_toArray, List.set_cons_zero, List.set_cons_succ]
                refine wpAnyH_take (i := 15) (v := ?_) rfl (by kernel_rfl) (by kernel_rfl) (by kernel_rfl) (fun _ _ _ h => h) (Or.inl ⟨by rfl, ?_⟩) (by assumption) ?_
                rotate_left
                · intro w hSw; (try dsimp only at hSw); go_simp; try with_reducible rfl
                simp only [Act.put, List.getElem_toArray, List.getElem_cons_zero, List.getElem_cons_succ, List.setIfInBounds_toArray, List.set_cons_zero, List.set_cons_succ]
                refine wpAnyH_ready (rs := [16]) (by kernel_rfl) (by simp) ?_
                refine AllReadyH.cons rfl (fun K hK => ?_) AllReadyH.nil
                go_simp
                refine hK.out _ _ (by first | with_reducible exact hHeld | ((try dsimp only); go_keep)) (fun hHeld => ?_)
                clear hK
                try simp only [Act.put, List.getElem_toArray, List.getElem_cons_zero, List.getElem_cons_succ, List.setIfInBounds_toArray, List.set_cons_zero, List.set_cons_succ]
                refine wpAnyH_done (by kernel_rfl) ?_ _
                go_wp2
                exact ⟨⟨k + 1, Us ++ [.slice (some ⟨g, 0, none⟩) (X.instrs.length + 1) cap], some ⟨G, 0, none⟩, cap4, by omega, by go_num, HST⟩, by simp [intOf]; omega⟩
    · have hke : k = n := by omega
      subst hke
      obtain ⟨G, gs, cs, vs, rfl, hG, htab⟩ := hinv.out.table (eM_keep _) (by omega)
      have HTB := hide (htab.mono (lo' := w.heap.size) (eM_keep xs) (by omega) (Nat.le_refl _))
      clear htab
      have HKB : Hid (Kb w.heap.size R R w wr) := hide ((Kb.of_below HBA1.out).trans (hinv.out.kb.mono (by omega)))
      go_wp2
      exact bodyPost_end (v := .tuple #[]) (by simp [results, Tryd.results97, go_sem]) rfl ⟨rfl, G, vc, gs, cs, vs, HKB.out, by omega, hinv.out.box, HTB.out⟩
end Go.Proofs.YtdcdgopblbmgoaaDoor
