import Derived.Test.YthgikffcdgpgiaaGreatDoorZP0
namespace Go.Proofs.YthgikffcdgpgiaaGreatDoor
open Go.RowKit
/-- The sets of a block's places, in the order in which they are handed over. -/
noncomputable def sideP (xs : List Blk) (V b : Nat) : List (List Nat) := match xs[b]? with
  | none => []
  | some x => ((bwF x.instrs.length 0).map fun j : Fin x.instrs.length => ptP xs x V b ((j : Nat) + 1)) ++ [ptP xs x V b 0]
noncomputable def allP (xs : List Blk) (V k : Nat) : List (List Nat) := (List.range k).flatMap (sideP xs V)
theorem allP_succ (xs : List Blk) (V k : Nat) : allP xs V (k + 1) = allP xs V k ++ sideP xs V k := by
  unfold allP
  rw [List.range_succ, List.flatMap_append]
  simp
theorem allP_prefix (xs : List Blk) (V : Nat) {k n : Nat} (h : k ≤ n) : allP xs V k <+: allP xs V n := by
  induction n with
  | zero => rw [show k = 0 by omega]; exact List.prefix_refl _
  | succ n ih =>
    by_cases e : k = n + 1
    · rw [e]; exact List.prefix_refl _
    · rw [allP_succ]
      exact (ih (by omega)).trans (List.prefix_append _ _)
theorem sdL_side {V : Nat} {xs : List Blk} (ho : OkL V xs) {b : Nat} (hb : b < xs.length) {W0 : Nat → Nat} {p : Nat} (hV : V ≤ p) (hq : ∀ v, v < p → (hasN W0 v = true ↔ Lou xs v b)) : (sdL xs[b].instrs.length W0 (plL xs[b])).map (fun q => lsN q.2 p) = sideP xs V b := by
  rw [List.map_congr_left (g := fun q => ptP xs xs[b] V b q.1) (fun q h => ls_pt ho hb hV hq (i := q.1) (W := q.2) h), sdL_all]
  unfold sideP
  rw [List.getElem?_eq_getElem hb]
  simp
def sdW (p : Nat) (s : Sd) : List Nat := lsN s.W p
theorem sdW_map (p : Nat) (ss : List Sd) : ss.map (sdW p) = (ss.map Sd.dat).map (fun q => lsN q.2 p) := by
  rw [List.map_map]
  rfl
/-- What is told of a set of some block. -/
def sdPv (V Kw z : Nat) (p : Sd) (U : World) : Prop := LtV V Kw p.W ∧ sdPx Kw z p U
def asEnc (Kw z : Nat) (s : Sd) : Array Value := #[.agg #[.slice (some ⟨z, 0, none⟩) Kw s.C]]
theorem KpB.far {n₀ : Nat} {Ms : Nat → Prop} {u A V : World} (h : KpB n₀ Ms u A) (hn : n₀ ≤ u.heap.size) (k : ∀ q, q < u.heap.size → V.heap[q]? = A.heap[q]?) (hs : A.heap.size ≤ V.heap.size) : KpB n₀ Ms u V :=
  ⟨Nat.le_trans h.size hs, fun q h1 h2 => (k q (by omega)).trans (h.low q h1 h2), fun q o h1 h2 h3 => (k q (Array.getElem?_eq_some_iff.1 h2).1).trans (h.cells q o h1 h2 h3)⟩
theorem keepsFrom_far {B : Nat} {u A V : World} (h : KeepsFrom B u A) (k : ∀ q, q < u.heap.size → V.heap[q]? = A.heap[q]?) (hs : A.heap.size ≤ V.heap.size) : KeepsFrom B u V :=
  ⟨Nat.le_trans h.size hs, fun q o h1 h2 h3 => (k q (Array.getElem?_eq_some_iff.1 h2).1).trans (h.same q o h1 h2 h3)⟩
/-- While the sets of one block are handed on. -/
structure AsI (W u : World) (n₀ : Nat) (Ms : Nat → Prop) (J : Nat → List Sd → World → Prop) (s0 : List Sd) (z : Nat) (ss : List Sd) (V : World) : Prop where
  j : J z (s0 ++ ss) V
  kp : KpB n₀ Ms u V
  kf : KeepsFrom W.heap.size u V
structure AsX (W u : World) (Jx : List Sd → World → Prop) (s0 ss : List Sd) (V : World) : Prop where
  j : Jx (s0 ++ ss) V
  kf : KeepsFrom W.heap.size u V
section
variable {W u : World} {n₀ : Nat} {Ms : Nat → Prop} {J : Nat → List Sd → World → Prop} {Jx : List Sd → World → Prop} {s0 : List Sd}
theorem AsI.own (hJ : ∀ z, OwnFrom W.heap.size (J z)) (hW : W.heap.size ≤ u.heap.size) (hn : n₀ ≤ u.heap.size) (z : Nat) : OwnFrom u.heap.size (AsI W u n₀ Ms J s0 z) := fun ss A V row h k q => by
  have hu := h.kp.size
  have hb : ∀ i, i < u.heap.size → V.heap[i]? = A.heap[i]? := fun i hi => k.block i (by omega) (fun e => by have := (q i e.symm).1; omega)
  exact ⟨hJ z _ A V row h.j k (fun r e => ⟨by have := (q r e).1; omega, (q r e).2⟩), h.kp.far hn hb k.size, keepsFrom_far h.kf hb k.size⟩
theorem AsX.own (hJ : OwnFrom W.heap.size Jx) (hW : W.heap.size ≤ u.heap.size) : OwnFrom u.heap.size (AsX W u Jx s0) := fun ss A V row h k q => by
  have hu := h.kf.size
  have hb : ∀ i, i < u.heap.size → V.heap[i]? = A.heap[i]? := fun i hi => k.block i (by omega) (fun e => by have := (q i e.symm).1; omega)
  exact ⟨hJ _ A V row h.j k (fun r e => ⟨by have := (q r e).1; omega, (q r e).2⟩), keepsFrom_far h.kf hb k.size⟩
theorem AsI.turn (hJz : ∀ z s V V', W.heap.size ≤ z → J z s V → V.grownBy V' (some z) → J z s V') (hW : W.heap.size ≤ u.heap.size) (hn : n₀ ≤ u.heap.size) {z : Nat} (hz : u.heap.size ≤ z) {ss : List Sd} {A V : World} (h : AsI W u n₀ Ms J s0 z ss A) (k : A.grownBy V (some z)) : AsI W u n₀ Ms J s0 z ss V := by
  have hu := h.kp.size
  have hb : ∀ i, i < u.heap.size → V.heap[i]? = A.heap[i]? := fun i hi => k.block i (by omega) (fun e => by injection e with e; omega)
  exact ⟨hJz z _ A V (by omega) h.j k, h.kp.far hn hb k.size, keepsFrom_far h.kf hb k.size⟩
end
end Go.Proofs.YthgikffcdgpgiaaGreatDoor

namespace Go.Proofs.YthgikffcdgpgiaaGreatDoor
open Go.RowKit Go.Shelf
attribute [local go_sem] Oper.semAt_some
set_option maxHeartbeats 4000000 in
set_option maxRecDepth 100000 in
theorem all_seqS (n₀ Bf L B V n c Kw : Nat) (a : Option Addr) (Ms : Nat → Prop) (xs : List Blk) (w : World) (hf0 : w.cell? ⟨Bf, 0, none⟩ = some (.int .i64 (V : Int))) (hf1 : w.cell? ⟨Bf, 1, none⟩ = some (.slice a n c)) (ha : Hid (BlksAt w L B a xs)) (hx : Hid (n = xs.length)) (hB : B ≤ n₀) (hnn : n₀ ≤ w.heap.size) (hO : Hid (OpTabW w)) (hT : Hid (TerTabW w)) (hg1 : (0 : Nat) < n₀) (hg2 : (2 : Nat) < n₀) (ho : Hid (OkL V xs)) (hkw : Hid (Kw = (V + 63) / 64)) (hM : Hid (∀ k, L ≤ k → k < B → ¬ Ms k)) (hMn : Hid (∀ k, w.heap.size ≤ k → ¬ Ms k)) (hM1 : Hid (¬ Ms 0)) (hM2 : Hid (¬ Ms 2)) :
    SeqS Fence.wide 9 Tryz.prog 66 #[.pointer (some ⟨Bf, 0, none⟩)] (asEnc Kw) (sdPv V Kw) (KpB n₀ Ms) (fun ss => ss.map (sdW (64 * Kw)) = allP xs V n) (fun ss => ss.map (sdW (64 * Kw)) <+: allP xs V n) (n * 4002) True True w := by
  intro l J Jx W hW hl hJ hJx hJz hJv hY h0
  have HY := hide hY
  have HJ := hide hJ
  have HJX := hide hJx
  have HJZ := hide (hJz trivial)
  have HJV := hide (hJv trivial)
  have H0 := hide h0
  clear hY hJ hJz h0 hJx hJv
  have hzW := hW.size
  have hn : n ≤ 1000 := by have := hx.out; have := ho.out.okf.n2; omega
  have hV := ho.out.vle
  have hKW : Kw ≤ 100 := by have := hkw.out; omega
  have hVK : V ≤ 64 * Kw := by have := hkw.out; omega
  have hBfw : Bf < w.heap.size := World.block_lt_of_cell? w _ hf0
  have k0 := (hW.cell (p := ⟨Bf, 0, none⟩) hBfw).trans hf0
  have k1 := (hW.cell (p := ⟨Bf, 1, none⟩) hBfw).trans hf1
  refine callsIn_of_wp_marks Tryz.func66 rfl trivial ?_ rfl
  simp only [Tryz.ntmps66, List.size_toArray, List.length_cons, List.length_nil, Nat.reduceAdd, Nat.reduceSub, Array.replicate_succ, Array.replicate_zero, List.push_toArray, List.append_toArray, List.nil_append, List.cons_append]
  have k0a : ∀ ob, (W.alloc ob).cell? ⟨Bf, 0, none⟩ = some (.int .i64 (V : Int)) := fun ob => (World.cell?_alloc_lt W ob ⟨Bf, 0, none⟩ (by show Bf < _; omega)).trans k0
  have k1a : ∀ ob, (W.alloc ob).cell? ⟨Bf, 1, none⟩ = some (.slice a n c) := fun ob => (World.cell?_alloc_lt W ob ⟨Bf, 1, none⟩ (by show Bf < _; omega)).trans k1
  gi_wp2
  have HBa : Hid (Below W.heap.size W (W.alloc (.cells #[.func (.yield l) #[] #[]] 127))) := hide (balloc (Below.refl _ _) _)
  have hya : (W.alloc (.cells #[.func (.yield l) #[] #[]] 127)).cell? ⟨W.heap.size, 0, none⟩ = some (.func (.yield l) #[] #[]) := by simp [go_sem]
  have hza : (W.alloc (.cells #[.func (.yield l) #[] #[]] 127)).heap.size = W.heap.size + 1 := by simp
  have a0 := k0a (.cells #[.func (.yield l) #[] #[]] 127)
  have a1 := k1a (.cells #[.func (.yield l) #[] #[]] 127)
  generalize W.alloc (.cells #[.func (.yield l) #[] #[]] 127) = wa at *
  clear k0a k1a k0 k1
  have HBwa : Hid (Below w.heap.size w wa) := hide (hW.trans (HBa.out.mono hzW))
  have HFL := hide (findLive_any V a n c xs L B wa (hide (ha.out.keep (HBwa.out.mono (by omega)))) hx (by omega) ho (hide (hO.out.keep HBwa.out hO.out.1)) (hide (hT.out.keep HBwa.out hT.out.1)))
  rw [← hkw.out] at HFL
  refine ⟨trivial, (callsIn_wide.2 HFL.out).mono ?_⟩
  rintro e w1 ⟨Gi, Go, gi, go, ci, WI, WX, rfl, hR⟩
  have HLO := hide (hR.lou ho.out hx.out)
  have HB1 := hide hR.low
  have hz1 := hR.low.size
  have hGo : wa.heap.size ≤ Go ∧ Go < w1.heap.size := ⟨hR.b1.2, hR.so.row.lt⟩
  have HSO := hide hR.so
  have HGO : Hid (∀ i, i < n → wa.heap.size ≤ go i) := hide (fun i hi => (hR.b2 i hi).2)
  have HWD : Hid (∀ b, WdOk (WX b)) := hide hR.wx
  have b0 := (hR.low.cell (p := ⟨Bf, 0, none⟩) (by show Bf < _; omega)).trans a0
  have b1 := (hR.low.cell (p := ⟨Bf, 1, none⟩) (by show Bf < _; omega)).trans a1
  have y1 := (hR.low.cell (p := ⟨W.heap.size, 0, none⟩) (by show W.heap.size < _; omega)).trans hya
  have b1a : ∀ ob, (w1.alloc ob).cell? ⟨Bf, 1, none⟩ = some (.slice a n c) := fun ob => (World.cell?_alloc_lt w1 ob ⟨Bf, 1, none⟩ (by show Bf < _; omega)).trans b1
  clear hR HFL a0 a1 hya
  gi_wp2
  have HB2 : Hid (Below w1.heap.size w1 (w1.alloc (.cells #[.slice (some ⟨Gi, 0, none⟩) n n, .slice (some ⟨Go, 0, none⟩) n n] 115))) := hide (balloc (Below.refl _ _) _)
  have hlv : (w1.alloc (.cells #[.slice (some ⟨Gi, 0, none⟩) n n, .slice (some ⟨Go, 0, none⟩) n n] 115)).cell? ⟨w1.heap.size, 1, none⟩ = some (.slice (some ⟨Go, 0, none⟩) n n) := by simp [go_sem]
  have hz2 : (w1.alloc (.cells #[.slice (some ⟨Gi, 0, none⟩) n n, .slice (some ⟨Go, 0, none⟩) n n] 115)).heap.size = w1.heap.size + 1 := by simp
  generalize w1.alloc (.cells #[.slice (some ⟨Gi, 0, none⟩) n n, .slice (some ⟨Go, 0, none⟩) n n] 115) = w2 at *
  have HWw2 : Hid (Below W.heap.size W w2) := hide (bnext (bnext HBa.out HB1.out) HB2.out)
  have Hw2 : Hid (Below w.heap.size w w2) := hide (hW.trans (HWw2.out.mono hzW))
  have HY2 : Hid (w2.cell? ⟨W.heap.size, 0, none⟩ = some (.func (.yield l) #[] #[])) := hide ((HB2.out.cell (p := ⟨W.heap.size, 0, none⟩) (by show W.heap.size < _; omega)).trans y1)
  have HLV := hide hlv
  have HS2 : Hid (SetsAv w2 Go n Kw go (fun _ => Kw) WX) := hide (HSO.out.keep HB2.out)
  have HJ2 : Hid (J W.heap.size [] w2) := hide (H0.out W.heap.size w2 (Nat.le_refl _) (by omega) HWw2.out)
  clear hlv y1 b0 b1 b1a HB2 HB1 HSO HBa
  refine wpIn_loop (fun aa wr => ∃ (k z : Nat) (ds : List Nat) (ss : List Sd) (u4 u5 u14 u15 u16 u17 u18 u19 u20 u21 u22 u23 u24 u31 : Value), k ≤ n ∧ aa = ⟨#[.func (.yield l) #[] #[], .pointer (some ⟨Bf, 0, none⟩), .pointer (some ⟨W.heap.size, 0, none⟩), .pointer (some ⟨w1.heap.size, 0, none⟩), u4, u5, undef, undef, .agg #[.int .i64 (V : Int), .slice a n c], .agg #[.slice (some ⟨Gi, 0, none⟩) n n, .slice (some ⟨Go, 0, none⟩) n n], .pointer (some ⟨Bf, 1, none⟩), .slice a n c, .int .i64 (n : Int), .int .i64 (k : Int), u14, u15, u16, u17, u18, u19, u20, u21, u22, u23, u24, undef, undef, undef, undef, undef, undef, u31], mks ds⟩ ∧ Hid (KpB n₀ Ms w2 wr) ∧ Hid (KeepsFrom W.heap.size w2 wr) ∧ Hid (MksAt wr w2.heap.size ds) ∧ W.heap.size ≤ z ∧ Hid (J z ss wr) ∧ Hid (ss.map (sdW (64 * Kw)) = allP xs V k) ∧ Hid (ss.length ≤ k * 4002)) (fun aa _ => n - (intOf (aa.tmps.getD 13 undef)).toNat) ?_ ?_
  · exact ⟨0, W.heap.size, [], [], _, _, _, _, _, _, _, _, _, _, _, _, _, _, Nat.zero_le _, rfl, hide (KpB.refl _), hide (KeepsFrom.refl _ _), hide ⟨List.nodup_nil, fun _ h => absurd h List.not_mem_nil, fun _ h => absurd h List.not_mem_nil⟩, Nat.le_refl _, HJ2, hide rfl, hide (Nat.zero_le _)⟩
  · rintro aa wr ⟨k, z, ds, ss, u4, u5, u14, u15, u16, u17, u18, u19, u20, u21, u22, u23, u24, u31, hk, rfl, HKP, HKF, HM, hz, HJs, HSS, HLEN⟩
    clear HJ2
    have hzr : w2.heap.size ≤ wr.heap.size := HKP.out.size
    by_cases hlt : k < n
    · have hkx : k < xs.length := by have := hx.out; omega
      obtain ⟨b, o, ea, hbB, hc⟩ := ha.out k hkx
      subst ea
      obtain ⟨pa, pc, ia, ic, e0, e1, ⟨e2, e3, e4, e5⟩, hph, hin⟩ := hc
      have hbw : b < w.heap.size := by omega
      have hcw : ∀ (q : Nat) (v : Value), w.cell? ⟨b, q, none⟩ = some v → wr.cell? ⟨b, q, none⟩ = some v := fun q v h => HKP.out.cell ((Hw2.out.cell (p := ⟨b, q, none⟩) hbw).trans h) (hM.out b hbB.1 hbB.2)
      have f0 := hcw _ _ e0
      have f1 := hcw _ _ e1
      have f2 := hcw _ _ e2
      have f3 := hcw _ _ e3
      have f4 := hcw _ _ e4
      have f5 := hcw _ _ e5
      have HPH := hide hph
      have HIN := hide hin
      have HLN := hide (ho.out.lens xs[k] (List.getElem_mem hkx))
      have HPD := hide (pdV_all ho.out (List.getElem_mem hkx))
      have HOP := hide (ho.out.ops xs[k] (List.getElem_mem hkx))
      have HTK := hide (ho.out.kind xs[k] (List.getElem_mem hkx))
      have HSD := hide (sdL_side ho.out hkx hVK (HLO.out k hlt))
      obtain ⟨X, hX⟩ : ∃ X, X = xs[k] := ⟨_, rfl⟩
      rw [← hX] at f0 f1 f2 f3 f4 f5 HPH HIN HLN HPD HOP HTK HSD
      clear hX hph hin e0 e1 e2 e3 e4 e5 hcw
      gi_wp2
      have hbq : Below wr.heap.size wr (wr.alloc (.cells #[.slice pa X.phis.length pc, .slice ia X.instrs.length ic, .int .i64 X.term.kind, .int .i64 X.term.a, .int .i64 X.term.to, .int .i64 X.term.els] 57)) := balloc (Below.refl _ _) _
      have hzq : wr.heap.size + 1 ≤ (wr.alloc (.cells #[.slice pa X.phis.length pc, .slice ia X.instrs.length ic, .int .i64 X.term.kind, .int .i64 X.term.a, .int .i64 X.term.to, .int .i64 X.term.els] 57)).heap.size := by simp
      have hqx : ∀ q v, #[Value.slice pa X.phis.length pc, .slice ia X.instrs.length ic, .int .i64 X.term.kind, .int .i64 X.term.a, .int .i64 X.term.to, .int .i64 X.term.els][q]? = some v → (wr.alloc (.cells #[.slice pa X.phis.length pc, .slice ia X.instrs.length ic, .int .i64 X.term.kind, .int .i64 X.term.a, .int .i64 X.term.to, .int .i64 X.term.els] 57)).cell? ⟨wr.heap.size, q, none⟩ = some v := fun q v h => by
        rw [World.cell?_alloc_new]
        exact h
      generalize wr.alloc (.cells #[.slice pa X.phis.length pc, .slice ia X.instrs.length ic, .int .i64 X.term.kind, .int .i64 X.term.a, .int .i64 X.term.to, .int .i64 X.term.els] 57) = wq at *
      have x0 := hqx 0 _ rfl
      have x1 := hqx 1 _ rfl
      have x2 := hqx 2 _ rfl
      have x3 := hqx 3 _ rfl
      have x4 := hqx 4 _ rfl
      have x5 := hqx 5 _ rfl
      have s1 : wq.cell? ⟨w1.heap.size, 1, none⟩ = some (.slice (some ⟨Go, 0, none⟩) n n) := (hbq.cell (p := ⟨w1.heap.size, 1, none⟩) (by show w1.heap.size < _; omega)).trans (HKP.out.cell HLV.out (hMn.out _ (by show w.heap.size ≤ w1.heap.size; omega)))
      have s2 : wq.cell? ⟨Go, k, none⟩ = some (.slice (some ⟨go k, 0, none⟩) Kw Kw) := (hbq.cell (p := ⟨Go, k, none⟩) (by show Go < _; omega)).trans (HKP.out.cell (HS2.out.row.cell hlt) (hMn.out _ (by show w.heap.size ≤ Go; omega)))
      have HBQ := hide hbq
      clear hbq hqx f0 f1 f2 f3 f4 f5
      refine wpIn_region_held_drew (S := (fun w' => w'.cell? ⟨wr.heap.size, 0, none⟩ = some (.slice pa X.phis.length pc) ∧ w'.cell? ⟨wr.heap.size, 1, none⟩ = some (.slice ia X.instrs.length ic) ∧ w'.cell? ⟨wr.heap.size, 2, none⟩ = some (.int .i64 X.term.kind) ∧ w'.cell? ⟨wr.heap.size, 3, none⟩ = some (.int .i64 X.term.a) ∧ w'.cell? ⟨wr.heap.size, 4, none⟩ = some (.int .i64 X.term.to) ∧ w'.cell? ⟨wr.heap.size, 5, none⟩ = some (.int .i64 X.term.els) ∧ w'.cell? ⟨w1.heap.size, 1, none⟩ = some (.slice (some ⟨Go, 0, none⟩) n n) ∧ w'.cell? ⟨Go, k, none⟩ = some (.slice (some ⟨go k, 0, none⟩) Kw Kw))) (by kernel_rfl) (by (try dsimp only); go_keep) (fun hHeld => ?_)
      refine wpAnyHI_take (i := 0) (v := ?_) rfl (by kernel_rfl) (by kernel_rfl) (by kernel_rfl) (by kernel_rfl) (fun _ _ _ h => h) ⟨Or.inl ⟨by rfl, ?_⟩, fun _ => rfl⟩ (by assumption) ?_
      rotate_left
      · intro w hSw; (try dsimp only at hSw); go_simp; try with_reducible rfl
      simp only [Act.put, List.getElem_toArray, List.getElem_cons_zero, List.setIfInBounds_toArray, List.set_cons_zero, List.set_cons_succ]
      refine wpAnyHI_take (i := 1) (v := ?_) rfl (by kernel_rfl) (by kernel_rfl) (by kernel_rfl) (by kernel_rfl) (fun _ _ _ h => h) ⟨Or.inl ⟨by rfl, ?_⟩, fun _ => rfl⟩ (by assumption) ?_
      rotate_left
      · intro w hSw; (try dsimp only at hSw); go_simp; try with_reducible rfl
      simp only [Act.put, List.getElem_toArray, List.getElem_cons_zero, List.getElem_cons_succ, List.setIfInBounds_toArray, List.set_cons_zero, List.set_cons_succ]
      refine wpAnyHI_take (i := 2) (v := ?_) rfl (by kernel_rfl) (by kernel_rfl) (by kernel_rfl) (by kernel_rfl) (fun _ _ _ h => h) ⟨Or.inl ⟨by rfl, ?_⟩, fun _ => rfl⟩ (by assumption) ?_
      rotate_left
      · intro w hSw; (try dsimp only at hSw); go_simp; try with_reducible rfl
      simp only [Act.put, List.getElem_toArray, List.getElem_cons_zero, List.getElem_cons_succ, List.setIfInBounds_toArray, List.set_cons_zero, List.set_cons_succ]
      refine wpAnyHI_take (i := 3) (v := ?_) rfl (by kernel_rfl) (by kernel_rfl) (by kernel_rfl) (by kernel_rfl) (fun _ _ _ h => h) ⟨Or.inl ⟨by rfl, ?_⟩, fun _ => rfl⟩ (by assumption) ?_
      rotate_left
      · intro w hSw; (try dsimp only at hSw); go_simp; try with_reducible rfl
      simp only [Act.put, List.getElem_toArray, List.getElem_cons_zero, List.getElem_cons_succ, List.setIfInBounds_toArray, List.set_cons_zero, List.set_cons_succ]
      refine wpAnyHI_take (i := 4) (v := ?_) rfl (by kernel_rfl) (by kernel_rfl) (by kernel_rfl) (by kernel_rfl) (fun _ _ _ h => h) ⟨Or.inl ⟨by rfl, ?_⟩, fun _ => rfl⟩ (by assumption) ?_
      rotate_left
      · intro w hSw; (try dsimp only at hSw); go_simp; try with_reducible rfl
      simp only [Act.put, List.getElem_toArray, List.getElem_cons_zero, List.getElem_cons_succ, List.setIfInBounds_toArray, List.set_cons_zero, List.set_cons_succ]
      refine wpAnyHI_take (i := 5) (v := ?_) rfl (by kernel_rfl) (by kernel_rfl) (by kernel_rfl) (by kernel_rfl) (fun _ _ _ h => h) ⟨Or.inl ⟨by rfl, ?_⟩, fun _ => rfl⟩ (by assumption) ?_
      rotate_left
      · intro w hSw; (try dsimp only at hSw); go_simp; try with_reducible rfl
      simp only [Act.put, List.getElem_toArray, List.getElem_cons_zero, List.getElem_cons_succ, List.setIfInBounds_toArray, List.set_cons_zero, List.set_cons_succ]
      refine wpAnyHI_ready (rs := [6]) (by kernel_rfl) (by simp) ?_
      refine AllReadyHI.cons rfl (fun K hK => ?_) AllReadyHI.nil
      go_simp
      refine ⟨trivial, (side_in 8 _ _ _ _ _ _ (go k) Kw Kw wq.drew).mono ?_⟩
      rintro e w4 ⟨rfl, hw4⟩
      have hb4 : Below wq.heap.size wq w4 := by rw [hw4]; exact balloc (balloc (Below.refl wq.heap.size wq).drew _) _
      have hz4 : wq.heap.size + 2 ≤ w4.heap.size := by rw [hw4, World.size_alloc, World.size_alloc]; exact Nat.le_refl _
      have hc4 : ∀ q v, #[Value.slice pa X.phis.length pc, .slice ia X.instrs.length ic, .int .i64 X.term.kind, .int .i64 X.term.a, .int .i64 X.term.to, .int .i64 X.term.els][q]? = some v → w4.cell? ⟨wq.heap.size, q, none⟩ = some v := fun q v h => by
        rw [hw4, World.cell?_alloc_lt _ _ ⟨wq.heap.size, q, none⟩ (by rw [World.size_alloc]; show wq.heap.size < wq.heap.size + 1; omega)]
        exact (World.cell?_alloc_new wq.drew _ _ q).trans h
      have hso : w4.cell? ⟨wq.heap.size + 1, 0, none⟩ = some (.slice (some ⟨go k, 0, none⟩) Kw Kw) := by
        rw [hw4]
        have := World.cell?_alloc_new (wq.drew.alloc (.cells #[.slice pa X.phis.length pc, .slice ia X.instrs.length ic, .int .i64 X.term.kind, .int .i64 X.term.a, .int .i64 X.term.to, .int .i64 X.term.els] 57)) #[.slice (some ⟨go k, 0, none⟩) Kw Kw] 75 0
        rw [World.size_alloc] at this
        exact this
      have hcl := fun (bb q : Nat) (hb : bb < wq.heap.size) => hb4.cell (p := ⟨bb, q, none⟩) hb
      have z0 := (hcl wr.heap.size 0 (by omega)).trans x0
      have z1 := (hcl wr.heap.size 1 (by omega)).trans x1
      have z2 := (hcl wr.heap.size 2 (by omega)).trans x2
      have z3 := (hcl wr.heap.size 3 (by omega)).trans x3
      have z4 := (hcl wr.heap.size 4 (by omega)).trans x4
      have z5 := (hcl wr.heap.size 5 (by omega)).trans x5
      have t1 := (hcl w1.heap.size 1 (by omega)).trans s1
      have t2 := (hcl Go k (by omega)).trans s2
      have HBr : Hid (Below wr.heap.size wr w4) := hide (bnext HBQ.out hb4)
      have HK4 : Hid (KpB n₀ Ms w2 w4) := hide (HKP.out.trans (KpB.of_below HBr.out (by omega)))
      have HF4 : Hid (KeepsFrom W.heap.size w2 w4) := hide (HKF.out.trans ⟨HBr.out.size, fun q ob _ h2 _ => (HBr.out.block q (Array.getElem?_eq_some_iff.1 h2).1).trans h2⟩)
      have hlow : ∀ q, q < n₀ → ¬ Ms q → w4.heap[q]? = w.heap[q]? := fun q h1 h2 => (HK4.out.low q h1 h2).trans (Hw2.out.block q (by omega))
      have HST : Hid (Stc2 X L B wq.heap.size n₀ w4.heap.size w4) := hide ⟨hO.out.of_block (hlow _ hg1 hM1.out) (by omega), hT.out.of_block (hlow _ hg2 hM2.out) (by omega), ⟨pa, pc, ia, ic, hc4 0 _ rfl, hc4 1 _ rfl, ⟨hc4 2 _ rfl, hc4 3 _ rfl, hc4 4 _ rfl, hc4 5 _ rfl⟩, HPH.out.keepS (fun q h1 h2 => hlow q (by omega) (hM.out q h1 h2)), HIN.out.keepS (fun q h1 h2 => hlow q (by omega) (hM.out q h1 h2))⟩, by omega, by omega, hg1, hg2, by omega⟩
      have hgk : wa.heap.size ≤ go k := HGO.out k hlt
      have HW4 : Hid (WsAt w4 (go k) Kw Kw (WX k)) := hide ((HS2.out.set k hlt).of_block (by
        obtain ⟨ob, h1, h2⟩ := (HS2.out.set k hlt).obj
        rw [h1]
        exact HK4.out.cells _ ob (hMn.out _ (by omega)) h1 h2))
      have HSOc := hide hso
      have HJ4 : Hid (∀ z' V', w4.heap.size ≤ z' → Below w4.heap.size w4 V' → J z' ss V') := hide (fun z' V' h1 h2 => HJV.out.1 z z' ss wr V' (by omega) HJs.out ((HBr.out.mono (by omega)).trans (h2.mono (by omega))))
      refine hK.out _ _ ⟨z0, z1, z2, z3, z4, z5, t1, t2⟩ (fun hHeld => ?_)
      clear hK
      try simp only [Act.put, List.getElem_toArray, List.getElem_cons_zero, List.getElem_cons_succ, List.setIfInBounds_toArray, List.set_cons_zero, List.set_cons_succ]
      refine wpAnyHI_doneN (by kernel_rfl) ?_ _
      have HMK : Hid (∀ (D : Nat) (U : World), w4.heap.size ≤ D → KeepsFrom W.heap.size w4 U → U.heap[D]? = some (.deferred (some [])) → MksAt U w2.heap.size (D :: ds)) := hide (fun D U h1 h2 h3 => by
        have hl : ∀ q ∈ ds, q < wr.heap.size := fun q hq => (Array.getElem?_eq_some_iff.1 (HM.out.obj q hq)).1
        refine ⟨List.nodup_cons.2 ⟨fun hq => by have := hl D hq; omega, HM.out.nd⟩, fun q hq => ?_, fun q hq => ?_⟩
        · rcases List.mem_cons.1 hq with rfl | hq
          · omega
          · exact HM.out.ge q hq
        · rcases List.mem_cons.1 hq with rfl | hq
          · exact h3
          · have h5 := HM.out.ge q hq
            exact h2.same q _ (by omega) ((HBr.out.block q (hl q hq)).trans (HM.out.obj q hq)) rfl)
      clear hHeld z0 z1 z2 z3 z4 z5 t1 t2 x0 x1 x2 x3 x4 x5 s1 s2 hso hcl hb4 hc4 hw4 hlow
      gi_wp2
      refine rangeS (F := Fence.wide) (n := 9) rfl (by decide) (gf := 109) (lb := #[.pointer (some ⟨wq.heap.size + 1, 0, none⟩), .pointer (some ⟨wq.heap.size, 0, none⟩)]) rfl trivial (enters_of Tryz.func109 (by kernel_rfl) rfl) (side_seqS n₀ (wq.heap.size + 1) wq.heap.size L B (go k) Kw Kw V Ms X (WX k) w4 HST HSOc.out HW4 (hide (HWD.out k)) hKW hVK hM (hide (hMn.out _ (by omega))) (hide (fun q hq => hMn.out q (by omega))) hM1 hM2 HOP HTK.out HLN.out.1 HLN.out.2 HPD (hide (fun x h1 h2 => ((HLO.out k hlt x h1).1 h2).val ho.out hkx))) (fun z => sdPy_own _ _ _ _ z) (fun h k => h.trans k) (fun W l o o' h1 h2 h3 => KpB.putObj W l o o' (by omega) h2 h3) (Below.refl _ _) (fun _ _ => rfl)
        (fun z' => AsI W w4 n₀ Ms J ss z') (fun cc pre U => cc = .ret ∧ AsX W w4 Jx ss pre U) (fun z' => AsI.own HJ.out (by omega) (by omega) z') ?ownX (fun _ z' s A A' hz' h g => h.turn HJZ.out (by omega) (by omega) hz' g) (fun h => h.elim) ?start
        (fun z' p a' U => ∃ bp : Nat, a' = ⟨#[.func (.yield l) #[] #[], .pointer (some ⟨Bf, 0, none⟩), .pointer (some ⟨W.heap.size, 0, none⟩), .pointer (some ⟨w1.heap.size, 0, none⟩), .int .i64 (k : Int), .pointer (some ⟨wr.heap.size, 0, none⟩), undef, .pointer (some ⟨bp, 0, none⟩), .agg #[.int .i64 (V : Int), .slice (some ⟨b, o, none⟩) n c], .agg #[.slice (some ⟨Gi, 0, none⟩) n n, .slice (some ⟨Go, 0, none⟩) n n], .pointer (some ⟨Bf, 1, none⟩), .slice (some ⟨b, o, none⟩) n c, .int .i64 (n : Int), .int .i64 (k : Int), .bool true, .int .i64 (k : Int), .pointer (some ⟨b, o + k * 6, none⟩), .agg #[.slice pa X.phis.length pc, .slice ia X.instrs.length ic, .int .i64 X.term.kind, .int .i64 X.term.a, .int .i64 X.term.to, .int .i64 X.term.els], .agg #[.slice pa X.phis.length pc, .slice ia X.instrs.length ic, .int .i64 X.term.kind, .int .i64 X.term.a, .int .i64 X.term.to, .int .i64 X.term.els], .pointer (some ⟨w1.heap.size, 1, none⟩), .slice (some ⟨Go, 0, none⟩) n n, .int .i64 (k : Int), .pointer (some ⟨Go, k, none⟩), .agg #[.slice (some ⟨go k, 0, none⟩) Kw Kw], .func (.func 109) #[] #[.pointer (some ⟨wq.drew.heap.size + 1, 0, none⟩), .pointer (some ⟨wq.drew.heap.size, 0, none⟩)], .int .i64 (p.i : Int), .agg #[.slice (some ⟨z', 0, none⟩) Kw p.C], undef, undef, undef, undef, u31], []⟩ ∧ w4.heap.size ≤ bp ∧ U.cell? ⟨bp, 0, none⟩ = some (.slice (some ⟨z', 0, none⟩) Kw p.C)) ?ownA ?assign ?body ?done ?stop
      case ownX =>
        rintro cc pre A U row ⟨rfl, h⟩ g q
        exact ⟨rfl, AsX.own HJX.out (by omega) pre A U row h g q⟩
      case start =>
        intro z' U h1 h2 h3
        exact ⟨by rw [List.append_nil]; exact HJ4.out z' U h1 h3, KpB.of_below h3 (by omega), ⟨h3.size, fun q ob _ q2 _ => (h3.block q (Array.getElem?_eq_some_iff.1 q2).1).trans q2⟩⟩
      case ownA =>
        rintro z' p a' _ A U row ⟨bp, e, h1, h2⟩ g q
        refine ⟨bp, e, h1, (cell_of (g.block bp (World.block_lt_of_cell? A _ h2) (fun e2 => ?_))).trans h2⟩
        obtain ⟨ob, h3, h4⟩ := cells_of_cell h2
        obtain ⟨_, o2, h5, h6⟩ := q bp e2.symm
        rw [show A.heap[bp]? = some ob from h3] at h5
        injection h5 with h5
        subst h5
        rw [h4] at h6
        cases h6
      case assign =>
        intro l' z' pre p U KK hz' hI hP hKK
        have HII := hide hI
        have HPP := hide hP
        have HKK := hide hKK
        clear hI hP hKK
        unfold sdEnc
        gi_wp2
        have hbA : Below U.heap.size U (U.alloc (.cells #[.slice (some ⟨z', 0, none⟩) Kw p.C] 75)) := balloc (Below.refl _ _) _
        exact HKK.out _ _ ⟨hbA.size, fun k o h1 _ => (hbA.block k (Array.getElem?_eq_some_iff.1 h1).1).trans h1⟩ (KpB.of_below hbA (by have := HII.out.kp.size; omega)) (ownFrom_none (AsI.own HJ.out (by omega) (by omega) z') HII.out hbA) (sdPy_below HPP.out hbA) ⟨U.heap.size, rfl, HII.out.kp.size, by simp [go_sem]⟩
      case body =>
        rintro l' z' pre p a' U hz' hl' _ hI hP ⟨bp, rfl, hbp, hcp⟩ hlen
        have HII := hide hI
        have HPP := hide hP
        have HL : Hid ((ss ++ pre).length < n * 4002) := hide (by
          have h1 := HLEN.out
          have h2 := HLN.out.1
          rw [List.length_append]
          have h3 : (k + 1) * 4002 ≤ n * 4002 := Nat.mul_le_mul_right _ hlt
          omega)
        have yb : U.cell? ⟨W.heap.size, 0, none⟩ = some (.func (.yield l) #[] #[]) := hI.kp.cell (HK4.out.cell HY2.out (hMn.out _ (by show w.heap.size ≤ W.heap.size; omega))) (hMn.out _ (by show w.heap.size ≤ W.heap.size; omega))
        clear hI hP
        obtain ⟨fn, tmps, asg, bo, hy, hR⟩ := yield_wide (l' := l') (m' := 6) (HY.out z' (ss ++ pre) p U (by omega) HII.out.j ⟨HPP.out.1.2, HPP.out.2⟩ HL.out)
        have hy' : (Instr.yield l #[.agg #[.slice (some ⟨z', 0, none⟩) Kw p.C]]).run Tryz.prog U = _ := hy
        clear hy
        gi_wp2
        refine hR.mono ?_
        rintro e U2 (⟨rfl, hJ2, hk2, hf2⟩ | ⟨rfl, hJ2, hk2, hf2⟩)
        · have HJ2 := hide hJ2
          have HK2 := hide hk2
          have HF2 := hide hf2
          clear hJ2 hk2 hf2 hR hy'
          gi_wp2
          exact ⟨keepsFrom_mono HF2.out (by omega), HK2.out, by rw [← List.append_assoc]; exact HJ2.out, HII.out.kp.trans HK2.out, HII.out.kf.trans HF2.out⟩
        · have HJ2 := hide hJ2
          have HK2 := hide hk2
          have HF2 := hide hf2
          clear hJ2 hk2 hf2 hR hy'
          gi_wp2
          exact ⟨keepsFrom_mono HF2.out (by omega), HK2.out, rfl, by rw [← List.append_assoc]; exact HJ2.out, HII.out.kf.trans HF2.out⟩
      case done =>
        rintro D z' s' U hD hz' hS' hI hKD
        have HII := hide hI
        have HKD := hide hKD
        have HS' := hide hS'
        clear hI hKD hS'
        gi_wp2
        refine ⟨⟨k + 1, z', D :: ds, ss ++ s', _, _, _, _, _, _, _, _, _, _, _, _, _, _, by omega, rfl, hide (HK4.out.trans HII.out.kp), hide (HF4.out.trans HII.out.kf), hide ?mk, by omega, hide HII.out.j, hide ?ls, hide ?ln⟩, ?ms⟩
        case mk => exact HMK.out D U hD HII.out.kf HKD.out
        case ls =>
          rw [List.map_append, HSS.out, allP_succ, ← HSD.out, ← HS'.out, ← sdW_map]
        case ln =>
          have h1 := congrArg List.length HS'.out
          rw [List.length_map] at h1
          have h2 := sdL_len X.instrs.length (plL X) (WX k)
          have h3 : (plL X).length = X.instrs.length + 2 := by simp [plL, bwF_len]
          have h4 := HLEN.out
          have h5 := HLN.out.1
          rw [List.length_append]
          omega
        case ms => simp [intOf]; omega
      case stop =>
        rintro D cc pre U hD hSp ⟨rfl, hI⟩ hKD
        have HII := hide hI
        have HKD := hide hKD
        have HSp := hide hSp
        clear hI hKD hSp
        gi_wp2
        have hmk := HMK.out D U hD HII.out.kf HKD.out
        refine leaves_mks' (D :: ds) U hmk (fun W' q1 q2 q3 q4 q5 => ⟨.tuple #[], results_none rfl _ _ _, ⟨_, rfl⟩, .inr ⟨ss ++ pre, ?_, HJV.out.2 _ U W' HII.out.j ⟨q1, q2, q3, q4, fun q hq => q5 q (fun hm => by have := hmk.ge q hm; omega)⟩⟩⟩)
        rw [List.map_append, HSS.out, sdW_map]
        refine List.IsPrefix.trans ?_ (allP_prefix xs V (show k + 1 ≤ n from hlt))
        rw [allP_succ, ← HSD.out]
        exact (List.prefix_append_right_inj _).2 (HSp.out.map _)
    · have hkn : k = n := by omega
      subst hkn
      gi_wp2
      refine leaves_mks' ds wr HM.out (fun W' q1 q2 q3 q4 q5 => ⟨.tuple #[], results_none rfl _ _ _, ⟨_, rfl⟩, .inl ⟨z, ss, hz, HSS.out, HJV.out.1 z z ss wr W' hz HJs.out ⟨q1, q2, q3, q4, fun q hq => q5 q (fun hm => by have := HM.out.ge q hm; omega)⟩⟩⟩)
end Go.Proofs.YthgikffcdgpgiaaGreatDoor
