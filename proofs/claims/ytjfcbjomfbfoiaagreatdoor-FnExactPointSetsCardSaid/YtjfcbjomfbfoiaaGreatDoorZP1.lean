import Derived.Test.YtjfcbjomfbfoiaaGreatDoorLB0
import Derived.Test.YtjfcbjomfbfoiaaGreatDoorZP0
namespace Go.Proofs.YtjfcbjomfbfoiaaGreatDoor
open Go.RowKit Go.Shelf
attribute [local go_sem] Oper.semAt_some
theorem Tryz.infoSetP : (Tryz.prog.info? 56).map (fun i => (i.zero, i.size, i.bytes)) = some (some (.agg #[.slice none 0 0]), 1, 24) := by kernel_rfl
/-- What findLive leaves at the ends of blocks is what is live there. -/
theorem FlR.lou {V : Nat} {w w' : World} {n Kw : Nat} {xs : List Blk} {Gi Go : Nat} {gi go ci : Nat → Nat} {WI WX : Nat → Nat → Nat} (h : FlR w w' n Kw xs Gi Go gi go ci WI WX) (ho : OkL V xs) (hx : n = xs.length) : ∀ b, b < n → ∀ x, x < 64 * Kw → (hasN (WX b) x = true ↔ Lou xs x b) := fun b hb x hx' => by
  obtain ⟨I, T, W0, ord, q1, q2, q3, q4, q5, q6⟩ := h.inn
  have hLI : ∀ b, b < n → ∀ x, x < 64 * Kw → (hasN (WI b) x = true ↔ Lin xs x b) := fun b hb x hx' => (q5 b hb x hx').trans (sp_lin ho q1 q2 q3 (ord := (· ∈ ord)) q4 (by omega))
  have hbx : b < xs.length := by omega
  rw [q6 b hb x, q3 b hbx, ← edges_iff ho hbx]
  constructor
  · rintro (h | ⟨t, ht, h⟩)
    · exact Or.inl h
    · exact Or.inr ⟨t, ht, (hLI t (by have := ho.okf.tg _ hbx _ ht; omega) x hx').1 h⟩
  · rintro (h | ⟨t, ht, h⟩)
    · exact Or.inl h
    · exact Or.inr ⟨t, ht, (hLI t (by have := ho.okf.tg _ hbx _ ht; omega) x hx').2 h⟩
/-- Each place has its set. -/
theorem sd_ex (x : Blk) (W0 : Nat → Nat) {i : Nat} (hi : i ≤ x.instrs.length) : ∃ W, (i, W) ∈ sdL x.instrs.length W0 (plL x) := by
  rw [sdL_all]
  cases i with
  | zero => exact ⟨_, List.mem_append_right _ (List.mem_singleton.2 rfl)⟩
  | succ j =>
    refine ⟨_, List.mem_append_left _ (List.mem_map.2 ⟨⟨j, hi⟩, ?_, rfl⟩)⟩
    unfold bwF
    rw [List.take_of_length_le (by simp)]
    exact List.mem_reverse.2 (List.mem_finRange _)
/-- What PointSets leaves. -/
def PoA (w w' : World) (m : Nat) (P : Nat → List Int) (e : Ending) : Prop := ∃ base G U, e = .returned (.slice (some ⟨G, 0, none⟩) m m) ∧ w.heap.size ≤ G ∧ Below w.heap.size w w' ∧ RoS w' base G m P U
theorem PtI.done {w6 V' : World} {G p z Vn k : Nat} {xs : List Blk} (ho : OkL Vn xs) (hk : k < xs.length) {W0 : Nat → Nat} (hV : Vn ≤ p) (hq : ∀ v, v < p → (hasN W0 v = true ↔ Lou xs v k)) {ss : List Sd} (hs : ss.map Sd.dat = sdL xs[k].instrs.length W0 (plL xs[k])) (h : PtI w6 G (xs[k].instrs.length + 1) p z ss V') :
    ∃ U, RoS V' w6.heap.size G (xs[k].instrs.length + 1) (fun i => natI (ptP xs xs[k] Vn k i)) U := by
  obtain ⟨P, U, h1, _, h3⟩ := h.db
  refine ⟨U, h1.congr (fun i hi => ?_)⟩
  rcases h3 i hi with ⟨_, e⟩ | ⟨q, q1, q2, q3⟩
  · obtain ⟨W, hW⟩ := sd_ex xs[k] W0 (i := i) (by omega)
    rw [← hs] at hW
    obtain ⟨q, q1, q2⟩ := List.mem_map.1 hW
    exact absurd (congrArg Prod.fst q2) (e q q1)
  · rw [q3]
    have hm : (i, q.W) ∈ sdL xs[k].instrs.length W0 (plL xs[k]) := by
      rw [← hs, ← q2]
      exact List.mem_map.2 ⟨q, q1, rfl⟩
    rw [ls_pt ho hk hV hq hm]
set_option maxHeartbeats 4000000 in
set_option maxRecDepth 100000 in
theorem pointI_any (V : Nat) (a : Option Addr) (n c k : Nat) (xs : List Blk) (L B : Nat) (w : World) (ha : Hid (BlksAt w L B a xs)) (hx : Hid (n = xs.length)) (hs : Hid (xs.length + blksTot xs ≤ 1048576)) (hB : B ≤ w.heap.size) (hO : Hid (OpTabW w)) (hT : Hid (TerTabW w)) (hTz : Hid (TzTab w)) (hv : Hid (validI ⟨(V : Int), xs⟩ = true)) (ho : Hid (OkL V xs)) (hk : k < n) (hkx : k < xs.length) :
    Calls Tryz.prog 17 #[.agg #[.int .i64 (V : Int), .slice a n c], .int .i64 (k : Int)] w fun e w' => PoA w w' (xs[k].instrs.length + 1) (fun i => natI (ptP xs xs[k] V k i)) e := by
  have HVF := hide (fun W (hb : Below w.heap.size w W) => validFuncI_any (V : Int) a n c xs L B W (hide (ha.out.keep (hb.mono hB))) hx hs (by have := hb.size; omega) (hide (hO.out.keep hb hO.out.1).old) (hide (hT.out.keep hb hT.out.1).old))
  rw [hv.out] at HVF
  have hn : n ≤ 1000 := by have := hx.out; have := ho.out.okf.n2; omega
  refine (callsIn_wide (n := 9)).1 ?_
  refine callsIn_of_wp_marks Tryz.func17 rfl trivial ?_ rfl
  simp only [Tryz.ntmps17, List.size_toArray, List.length_cons, List.length_nil, Nat.reduceAdd, Nat.reduceSub, Array.replicate_succ, Array.replicate_zero, List.push_toArray, List.append_toArray, List.nil_append, List.cons_append]
  gi_wp2
  refine ⟨trivial, (callsIn_wide.2 (HVF.out _ (balloc (Below.refl _ _) _))).mono ?_⟩
  rintro e w1 ⟨rfl, hb1⟩
  have g0 := (hb1.cell (p := ⟨w.heap.size, 0, none⟩) (by simp)).trans (show _ = some (.int .i64 (V : Int)) by simp)
  have g1 := (hb1.cell (p := ⟨w.heap.size, 1, none⟩) (by simp)).trans (show _ = some (.slice a n c) by simp)
  have HB1 := hide (bnext (balloc (Below.refl w.heap.size w) (.cells #[.int .i64 (V : Int), .slice a n c] 32)) hb1)
  have hzw1 : w.heap.size < w1.heap.size := World.block_lt_of_cell? w1 _ g0
  clear hb1 HVF
  have HA := ha
  obtain ⟨b, o, eb, hbB, hc⟩ := ha.out k hkx
  subst eb
  obtain ⟨pa, pc, ia, ic, e0, e1, ⟨e2, e3, e4, e5⟩, hph, hin⟩ := hc
  have hbw : b < w.heap.size := by omega
  have c1 := fun q => HB1.out.cell (p := ⟨b, q, none⟩) hbw
  have f0 := (c1 _).trans e0
  have f1 := (c1 _).trans e1
  have f2 := (c1 _).trans e2
  have f3 := (c1 _).trans e3
  have f4 := (c1 _).trans e4
  have f5 := (c1 _).trans e5
  have HPH := hide hph
  have HIN := hide hin
  have HLN := hide (ho.out.lens xs[k] (List.getElem_mem hkx))
  have HDN := hide (fun (w6 V' : World) (G p z : Nat) (W0 : Nat → Nat) (hV : V ≤ p) (hq : ∀ v, v < p → (hasN W0 v = true ↔ Lou xs v k)) (ss : List Sd) (hs : ss.map Sd.dat = sdL xs[k].instrs.length W0 (plL xs[k])) (h : PtI w6 G (xs[k].instrs.length + 1) p z ss V') => h.done ho.out hkx hV hq hs)
  have HPD := hide (pdV_all ho.out (List.getElem_mem hkx))
  have HOP := hide (ho.out.ops xs[k] (List.getElem_mem hkx))
  have HTK := hide (ho.out.kind xs[k] (List.getElem_mem hkx))
  obtain ⟨Pr, hPr⟩ : ∃ Pr : Nat → List Int, Pr = fun i => natI (ptP xs xs[k] V k i) := ⟨_, rfl⟩
  obtain ⟨X, hX⟩ : ∃ X, X = xs[k] := ⟨_, rfl⟩
  rw [← hPr] at HDN
  rw [← hX] at f0 f1 f2 f3 f4 f5 HPH HIN HLN HDN HPD HOP HTK
  have HX := hide hX
  have HPR := hide hPr
  clear hX hPr
  clear hph hin e0 e1 e2 e3 e4 e5 c1
  have hwl : IntKind.i64.wrap ((X.instrs.length : Int) + 1) = (X.instrs.length : Int) + 1 := by have := HLN.out.1; rw [IntKind.wrap_i64]; omega
  have hmk := run_makeS (P := Tryz.prog) 26 56 (.agg #[.slice none 0 0]) 1 24 Tryz.underlying26 Tryz.infoSetP (X.instrs.length + 1) (by have := HLN.out.1; omega) (by have := HLN.out.1; omega)
  rw [show ((X.instrs.length + 1 : Nat) : Int) = (X.instrs.length : Int) + 1 by omega] at hmk
  have hk1 : ¬ ((k : Int) < 0) := by omega
  have hk2 : ¬ ((n : Int) ≤ (k : Int)) := by omega
  gi_wp2
  rename_i K1 HK1 K0 HK0
  have hb2 : Below w1.heap.size w1 (((w1.alloc (.cells #[.slice pa X.phis.length pc, .slice ia X.instrs.length ic, .int .i64 X.term.kind, .int .i64 X.term.a, .int .i64 X.term.to, .int .i64 X.term.els] 79)).alloc (.cells (madeCells #[.slice none 0 0] (X.instrs.length + 1)) 56)).alloc (.cells #[.slice (some ⟨w1.heap.size + 1, 0, none⟩) (X.instrs.length + 1) (X.instrs.length + 1)] 26)) := balloc (balloc (balloc (Below.refl _ _) _) _) _
  have hz2 : (((w1.alloc (.cells #[.slice pa X.phis.length pc, .slice ia X.instrs.length ic, .int .i64 X.term.kind, .int .i64 X.term.a, .int .i64 X.term.to, .int .i64 X.term.els] 79)).alloc (.cells (madeCells #[.slice none 0 0] (X.instrs.length + 1)) 56)).alloc (.cells #[.slice (some ⟨w1.heap.size + 1, 0, none⟩) (X.instrs.length + 1) (X.instrs.length + 1)] 26)).heap.size = w1.heap.size + 3 := by simp
  have hbx : ∀ q v, #[Value.slice pa X.phis.length pc, .slice ia X.instrs.length ic, .int .i64 X.term.kind, .int .i64 X.term.a, .int .i64 X.term.to, .int .i64 X.term.els][q]? = some v → (((w1.alloc (.cells #[.slice pa X.phis.length pc, .slice ia X.instrs.length ic, .int .i64 X.term.kind, .int .i64 X.term.a, .int .i64 X.term.to, .int .i64 X.term.els] 79)).alloc (.cells (madeCells #[.slice none 0 0] (X.instrs.length + 1)) 56)).alloc (.cells #[.slice (some ⟨w1.heap.size + 1, 0, none⟩) (X.instrs.length + 1) (X.instrs.length + 1)] 26)).cell? ⟨w1.heap.size, q, none⟩ = some v := fun q v h => by
    rw [World.cell?_alloc_lt _ _ ⟨w1.heap.size, q, none⟩ (by rw [World.size_alloc, World.size_alloc]; show w1.heap.size < _; omega), World.cell?_alloc_lt _ _ ⟨w1.heap.size, q, none⟩ (by rw [World.size_alloc]; show w1.heap.size < _; omega), World.cell?_alloc_new]
    exact h
  have hrw : (((w1.alloc (.cells #[.slice pa X.phis.length pc, .slice ia X.instrs.length ic, .int .i64 X.term.kind, .int .i64 X.term.a, .int .i64 X.term.to, .int .i64 X.term.els] 79)).alloc (.cells (madeCells #[.slice none 0 0] (X.instrs.length + 1)) 56)).alloc (.cells #[.slice (some ⟨w1.heap.size + 1, 0, none⟩) (X.instrs.length + 1) (X.instrs.length + 1)] 26)).rowIs (w1.heap.size + 1) 56 (X.instrs.length + 1) (fun _ => .slice none 0 0) := by
    have h := World.rowIs_made (w1.alloc (.cells #[.slice pa X.phis.length pc, .slice ia X.instrs.length ic, .int .i64 X.term.kind, .int .i64 X.term.a, .int .i64 X.term.to, .int .i64 X.term.els] 79)) (.slice none 0 0) (X.instrs.length + 1) 56
    rw [World.size_alloc] at h
    exact h.of_block (Below.heap_alloc _ _ _ (by simp))
  have hsb : (((w1.alloc (.cells #[.slice pa X.phis.length pc, .slice ia X.instrs.length ic, .int .i64 X.term.kind, .int .i64 X.term.a, .int .i64 X.term.to, .int .i64 X.term.els] 79)).alloc (.cells (madeCells #[.slice none 0 0] (X.instrs.length + 1)) 56)).alloc (.cells #[.slice (some ⟨w1.heap.size + 1, 0, none⟩) (X.instrs.length + 1) (X.instrs.length + 1)] 26)).cell? ⟨w1.heap.size + 1 + 1, 0, none⟩ = some (.slice (some ⟨w1.heap.size + 1, 0, none⟩) (X.instrs.length + 1) (X.instrs.length + 1)) := by simp [go_sem]
  generalize ((w1.alloc (.cells #[.slice pa X.phis.length pc, .slice ia X.instrs.length ic, .int .i64 X.term.kind, .int .i64 X.term.a, .int .i64 X.term.to, .int .i64 X.term.els] 79)).alloc (.cells (madeCells #[.slice none 0 0] (X.instrs.length + 1)) 56)).alloc (.cells #[.slice (some ⟨w1.heap.size + 1, 0, none⟩) (X.instrs.length + 1) (X.instrs.length + 1)] 26) = w2 at *
  generalize decide ((k : Int) < 0) = b1
  generalize decide (n ≤ k) = b2
  generalize (b1 || b2) = b3
  have HB2 := hide (bnext HB1.out hb2)
  have HBX := hide hbx
  have HRW := hide hrw
  have hfw : w.heap.size < w2.heap.size := by omega
  have u0 := (hb2.cell (p := ⟨w.heap.size, 0, none⟩) hzw1).trans g0
  have u1 := (hb2.cell (p := ⟨w.heap.size, 1, none⟩) hzw1).trans g1
  have x0 := hbx 0 _ rfl
  have x1 := hbx 1 _ rfl
  have x2 := hbx 2 _ rfl
  have x3 := hbx 3 _ rfl
  have x4 := hbx 4 _ rfl
  have x5 := hbx 5 _ rfl
  clear hb2 hbx hrw g0 g1 f0 f1 f2 f3 f4 f5 hmk
  have HFL := hide (findLive_any V (some ⟨b, o, none⟩) n c xs L B w2.drew (hide (HA.out.keep (HB2.out.drew.mono hB))) hx (by have := HB2.out.drew.size; omega) ho (hide (hO.out.keep HB2.out.drew hO.out.1)) (hide (hT.out.keep HB2.out.drew hT.out.1)))
  refine wpIn_region_held_drew (S := (fun w' => w'.cell? ⟨w1.heap.size, 0, none⟩ = some (.slice pa X.phis.length pc) ∧ w'.cell? ⟨w1.heap.size, 1, none⟩ = some (.slice ia X.instrs.length ic) ∧ w'.cell? ⟨w1.heap.size, 2, none⟩ = some (.int .i64 X.term.kind) ∧ w'.cell? ⟨w1.heap.size, 3, none⟩ = some (.int .i64 X.term.a) ∧ w'.cell? ⟨w1.heap.size, 4, none⟩ = some (.int .i64 X.term.to) ∧ w'.cell? ⟨w1.heap.size, 5, none⟩ = some (.int .i64 X.term.els) ∧ w'.cell? ⟨w.heap.size, 0, none⟩ = some (.int .i64 (V : Int)) ∧ w'.cell? ⟨w.heap.size, 1, none⟩ = some (.slice (some ⟨b, o, none⟩) n c))) (by kernel_rfl) (by (try dsimp only); go_keep) (fun hHeld => ?_)
  refine wpAnyHI_take (i := 0) (v := ?_) rfl (by kernel_rfl) (by kernel_rfl) (by kernel_rfl) (by kernel_rfl) (fun _ _ _ h => h) ⟨Or.inl ⟨by rfl, ?_⟩, fun _ => rfl⟩ (by assumption) ?_
  rotate_left
  · intro w hSw; (try dsimp only at hSw); go_simp; try with_reducible rfl
  simp only [Act.put, List.getElem_toArray, List.getElem_cons_zero, List.setIfInBounds_toArray, List.set_cons_zero, List.set_cons_succ]
  refine wpAnyHI_take (i := 1) (v := ?_) rfl (by kernel_rfl) (by kernel_rfl) (by kernel_rfl) (by kernel_rfl) (fun _ _ _ h => h) ⟨Or.inl ⟨by rfl, ?_⟩, fun _ => rfl⟩ (by assumption) ?_
  rotate_left
  · intro w hSw; (try dsimp only at hSw); go_simp; try with_reducible rfl
  simp only [Act.put, List.getElem_toArray, List.getElem_cons_zero, List.getElem_cons_succ, List.setIfInBounds_toArray, List.set_cons_zero, List.set_cons_succ]
  refine wpAnyHI_take (i := 4) (v := ?_) rfl (by kernel_rfl) (by kernel_rfl) (by kernel_rfl) (by kernel_rfl) (fun _ _ _ h => h) ⟨Or.inl ⟨by rfl, ?_⟩, fun _ => rfl⟩ (by assumption) ?_
  rotate_left
  · intro w hSw; (try dsimp only at hSw); go_simp; try with_reducible rfl
  simp only [Act.put, List.getElem_toArray, List.getElem_cons_zero, List.getElem_cons_succ, List.setIfInBounds_toArray, List.set_cons_zero, List.set_cons_succ]
  refine wpAnyHI_ready (rs := [2]) (by kernel_rfl) (by simp) ?_
  refine AllReadyHI.cons rfl (fun K hK => ?_) AllReadyHI.nil
  go_simp
  refine ⟨trivial, (callsIn_wide.2 HFL.out).mono ?_⟩
  rintro e w3 ⟨Gi, Go, gi, go, ci, WI, WX, rfl, hR⟩
  have hR' : Below w2.heap.size w2 w3 := ⟨hR.low.os, hR.low.tape, hR.low.output, hR.low.size, hR.low.block⟩
  obtain ⟨Kw, hkw⟩ : ∃ q, q = (V + 63) / 64 := ⟨_, rfl⟩
  rw [← hkw] at hR
  have HR := hide hR
  have hV := ho.out.vle
  have hKW : Kw ≤ 100 := by omega
  have hVK : V ≤ 64 * Kw := by omega
  have HLO := hide (hR.lou ho.out hx.out k hk)
  have HB3 := hide hR'
  have hz3 := hR'.size
  have hGo : w.heap.size < Go ∧ Go < w3.heap.size := by have h1 : w2.heap.size ≤ Go := hR.b1.2; have h2 := hR.so.row.lt; exact ⟨by omega, h2⟩
  have rgo := hR.so.row.cell hk
  have HWG := hide (hR.so.set k hk)
  have HWD : Hid (WdOk (WX k)) := hide (hR.wx k)
  have hcl := fun (bb q : Nat) (hb : bb < w2.heap.size) => hR'.cell (p := ⟨bb, q, none⟩) hb
  have y0 := (hcl w1.heap.size 0 (by omega)).trans x0
  have y1 := (hcl w1.heap.size 1 (by omega)).trans x1
  have y2 := (hcl w1.heap.size 2 (by omega)).trans x2
  have y3 := (hcl w1.heap.size 3 (by omega)).trans x3
  have y4 := (hcl w1.heap.size 4 (by omega)).trans x4
  have y5 := (hcl w1.heap.size 5 (by omega)).trans x5
  have v0 := (hcl w.heap.size 0 hfw).trans u0
  have v1 := (hcl w.heap.size 1 hfw).trans u1
  have hs3 := (hcl (w1.heap.size + 1 + 1) 0 (by omega)).trans hsb
  have HRW3 := hide (HRW.out.of_block (hR'.block _ (by show w1.heap.size + 1 < _; omega)))
  clear hkw hR hR' hcl x0 x1 x2 x3 x4 x5 u0 u1 hsb HFL hV
  refine hK.out _ _ ⟨y0, y1, y2, y3, y4, y5, v0, v1⟩ (fun hHeld => ?_)
  clear hK
  try simp only [Act.put, List.getElem_toArray, List.getElem_cons_zero, List.getElem_cons_succ, List.setIfInBounds_toArray, List.set_cons_zero, List.set_cons_succ]
  have hfd : ∀ (A1 A2 : Value) (W : World), (Instr.field 61 (.agg #[A1, A2]) 1).run Tryz.prog W = .ok A2 W := fun A1 A2 W => by kernel_rfl
  refine wpAnyHI_take (i := 3) (v := ?_) rfl (by kernel_rfl) (by kernel_rfl) (by kernel_rfl) (by kernel_rfl) (fun _ _ _ h => h) ⟨Or.inl ⟨by rfl, ?_⟩, fun _ => rfl⟩ (by assumption) ?_
  rotate_left
  · intro w hSw; (try dsimp only at hSw); go_simp; try with_reducible rfl
  simp only [Act.put, List.getElem_toArray, List.getElem_cons_zero, List.getElem_cons_succ, List.setIfInBounds_toArray, List.set_cons_zero, List.set_cons_succ]
  refine wpAnyHI_take (i := 5) (v := ?_) rfl (by kernel_rfl) (by kernel_rfl) (by kernel_rfl) (by kernel_rfl) (fun _ _ _ h => h) ⟨Or.inl ⟨by rfl, ?_⟩, fun _ => rfl⟩ (by assumption) ?_
  rotate_left
  · intro w hSw; (try dsimp only at hSw); go_simp; try with_reducible rfl
  simp only [Act.put, List.getElem_toArray, List.getElem_cons_zero, List.getElem_cons_succ, List.setIfInBounds_toArray, List.set_cons_zero, List.set_cons_succ]
  clear hfd
  refine wpAnyHI_ready (rs := [6]) (by kernel_rfl) (by simp) ?_
  refine AllReadyHI.cons rfl (fun K hK => ?_) AllReadyHI.nil
  go_simp
  refine hK.out _ _ (by first | with_reducible exact hHeld | ((try dsimp only); go_keep)) (fun hHeld => ?_)
  clear hK
  try simp only [Act.put, List.getElem_toArray, List.getElem_cons_zero, List.getElem_cons_succ, List.setIfInBounds_toArray, List.set_cons_zero, List.set_cons_succ]
  refine wpAnyHI_ready (rs := [7]) (by kernel_rfl) (by simp) ?_
  refine AllReadyHI.cons rfl (fun K hK => ?_) AllReadyHI.nil
  go_simp
  refine ⟨trivial, (side_in 8 _ _ _ _ _ _ (go k) Kw Kw w3).mono ?_⟩
  rintro e w4 ⟨rfl, hw4⟩
  have hb4 : Below w3.heap.size w3 w4 := by rw [hw4]; exact balloc (balloc (Below.refl _ _) _) _
  have hz4 : w4.heap.size = w3.heap.size + 2 := by rw [hw4]; simp
  have hc4 : ∀ q v, #[Value.slice pa X.phis.length pc, .slice ia X.instrs.length ic, .int .i64 X.term.kind, .int .i64 X.term.a, .int .i64 X.term.to, .int .i64 X.term.els][q]? = some v → w4.cell? ⟨w3.heap.size, q, none⟩ = some v := fun q v h => by
    rw [hw4, World.cell?_alloc_lt _ _ ⟨w3.heap.size, q, none⟩ (by rw [World.size_alloc]; show w3.heap.size < _; omega), World.cell?_alloc_new]
    exact h
  have hso : w4.cell? ⟨w3.heap.size + 1, 0, none⟩ = some (.slice (some ⟨go k, 0, none⟩) Kw Kw) := by rw [hw4]; simp [go_sem]
  have hcl := fun (bb q : Nat) (hb : bb < w3.heap.size) => hb4.cell (p := ⟨bb, q, none⟩) hb
  have z0 := (hcl w1.heap.size 0 (by omega)).trans y0
  have z1 := (hcl w1.heap.size 1 (by omega)).trans y1
  have z2 := (hcl w1.heap.size 2 (by omega)).trans y2
  have z3 := (hcl w1.heap.size 3 (by omega)).trans y3
  have z4 := (hcl w1.heap.size 4 (by omega)).trans y4
  have z5 := (hcl w1.heap.size 5 (by omega)).trans y5
  have t0 := (hcl w.heap.size 0 (by omega)).trans v0
  have t1 := (hcl w.heap.size 1 (by omega)).trans v1
  have hs4 := (hcl (w1.heap.size + 1 + 1) 0 (by omega)).trans hs3
  have HRW4 := hide (HRW3.out.of_block (hb4.block _ HRW3.out.lt))
  have HW4 := hide (HWG.out.of_block (hb4.block _ HWG.out.lt))
  have HB4 : Hid (Below w.heap.size w w4) := hide (bnext (bnext HB2.out HB3.out) hb4)
  have HST : Hid (Stc2 X L B w3.heap.size w4.heap.size w4.heap.size w4) := hide ⟨hO.out.keep HB4.out hO.out.1, hT.out.keep HB4.out hT.out.1, ⟨pa, pc, ia, ic, hc4 0 _ rfl, hc4 1 _ rfl, ⟨hc4 2 _ rfl, hc4 3 _ rfl, hc4 4 _ rfl, hc4 5 _ rfl⟩, HPH.out.keepS (fun q _ h2 => HB4.out.block q (by omega)), HIN.out.keepS (fun q _ h2 => HB4.out.block q (by omega))⟩, by omega, by omega, by have := hO.out.1; omega, by have := hT.out.1; omega, Nat.le_refl _⟩
  have HSO := hide hso
  have HS4 := hide hs4
  have hgt : (1 : Nat) < w.heap.size := World.block_lt_of_cell? w _ (hTz.out 0 (by decide))
  have HTZ : Hid (TzTab w4) := hide (hTz.out.of_block (HB4.out.block _ hgt))
  refine hK.out _ _ ⟨z0, z1, z2, z3, z4, z5, t0, t1⟩ (fun hHeld => ?_)
  clear hK
  try simp only [Act.put, List.getElem_toArray, List.getElem_cons_zero, List.getElem_cons_succ, List.setIfInBounds_toArray, List.set_cons_zero, List.set_cons_succ]
  refine wpAnyHI_doneN (by kernel_rfl) ?_ _
  clear hHeld z0 z1 z2 z3 z4 z5 t0 t1 y0 y1 y2 y3 y4 y5 v0 v1 hs3 hs4 rgo hso hcl hb4 hc4 hw4
  apply HK0
  clear HK0
  gi_wp2
  refine rangeS (F := Fence.wide) (n := 9) rfl (by decide) (gf := 80) (lb := #[.pointer (some ⟨w3.heap.size + 1, 0, none⟩), .pointer (some ⟨w3.heap.size, 0, none⟩)]) rfl trivial (enters_of Tryz.func80 (by kernel_rfl) rfl) (side_seqS w4.heap.size (w3.heap.size + 1) w3.heap.size L B (go k) Kw Kw V (fun q => q = w1.heap.size + 1) X (WX k) w4 HST HSO.out HW4 HWD hKW hVK (hide ?m1) (hide ?m2) (hide ?m3) (hide ?m4) (hide ?m5) HOP HTK.out HLN.out.1 HLN.out.2 HPD) (fun z => sdPy_own _ _ _ z) (fun h k => h.trans k) (fun W l o o' h1 h2 h3 => KpB.putObj W l o o' (by omega) h2 h3) (Below.refl _ _) (fun _ _ => rfl)
    (fun z => PtI w4 (w1.heap.size + 1) (X.instrs.length + 1) (64 * Kw) z) (fun _ _ _ => False) (fun z => PtI.own w4 _ _ _ z) (fun _ _ _ _ _ h _ _ => h) (fun _ z s A A' _ h g => h.turn g) (fun h => h.elim) ?start
    (fun z p a' U => ∃ bp : Nat, a' = ⟨#[.agg #[.int .i64 (V : Int), .slice (some ⟨b, o, none⟩) n c], .int .i64 (k : Int), .pointer (some ⟨w.heap.size, 0, none⟩), undef, .slice none 0 0, .pointer (some ⟨w1.heap.size, 0, none⟩), .pointer (some ⟨w1.heap.size + 1 + 1, 0, none⟩), .int .i64 (p.i : Int), .pointer (some ⟨bp, 0, none⟩), .agg #[.int .i64 (V : Int), .slice (some ⟨b, o, none⟩) n c], .bool true, .bool false, .bool false, .int .i64 (k : Int), .bool b1, .bool b1, .bool b1, .int .i64 (k : Int), .pointer (some ⟨w.heap.size, 1, none⟩), .slice (some ⟨b, o, none⟩) n c, .int .i64 (n : Int), .bool b2, .bool b3, undef, .pointer (some ⟨w.heap.size, 1, none⟩), .slice (some ⟨b, o, none⟩) n c, .int .i64 (k : Int), .pointer (some ⟨b, o + k * 6, none⟩), .agg #[.slice pa X.phis.length pc, .slice ia X.instrs.length ic, .int .i64 X.term.kind, .int .i64 X.term.a, .int .i64 X.term.to, .int .i64 X.term.els], .pointer (some ⟨w1.heap.size, 1, none⟩), .slice ia X.instrs.length ic, .int .i64 (X.instrs.length : Int), .int .i64 ((X.instrs.length : Int) + 1), .slice (some ⟨w1.heap.size + 1, 0, none⟩) (X.instrs.length + 1) (X.instrs.length + 1), .agg #[.slice pa X.phis.length pc, .slice ia X.instrs.length ic, .int .i64 X.term.kind, .int .i64 X.term.a, .int .i64 X.term.to, .int .i64 X.term.els], .agg #[.int .i64 (V : Int), .slice (some ⟨b, o, none⟩) n c], .agg #[.slice (some ⟨Gi, 0, none⟩) n n, .slice (some ⟨Go, 0, none⟩) n n], .slice (some ⟨Go, 0, none⟩) n n, .int .i64 (k : Int), .pointer (some ⟨Go, k, none⟩), .agg #[.slice (some ⟨go k, 0, none⟩) Kw Kw], .func (.func 80) #[] #[.pointer (some ⟨w3.heap.size + 1, 0, none⟩), .pointer (some ⟨w3.heap.size, 0, none⟩)], .int .i64 (p.i : Int), .agg #[.slice (some ⟨z, 0, none⟩) Kw p.C], undef, undef, undef, undef, undef, undef, undef], []⟩ ∧ w4.heap.size ≤ bp ∧ U.cell? ⟨bp, 0, none⟩ = some (.slice (some ⟨z, 0, none⟩) Kw p.C)) ?ownA ?assign ?body ?done (fun _ _ _ _ _ _ h _ => h.elim)
  case m1 => intro q h1 h2 e; omega
  case m2 => intro e; omega
  case m3 => intro q h1 e; omega
  case m4 => intro e; have := hO.out.1; omega
  case m5 => intro e; have := hT.out.1; omega
  case start =>
    intro z U hz1 hz2 hU
    exact ⟨hU.os, hU.tape, hU.output, hU.size, fun q h1 _ => hU.block q h1, ⟨hz1, hz2⟩, fun _ => [], fun _ => .slice none 0 0, ⟨by omega, HRW4.out.of_block (hU.block _ (by omega)), fun i hi => World.ownsRow_nil _ _ _ _, fun i j _ _ _ => Or.inl rfl⟩, fun i _ e => (by cases e), fun i _ => Or.inl ⟨rfl, fun q hq => absurd hq List.not_mem_nil⟩⟩
  case ownA =>
    rintro z p a' _ A U row ⟨bp, e, h1, h2⟩ g q
    refine ⟨bp, e, h1, (cell_of (g.block bp (World.block_lt_of_cell? A _ h2) (fun e2 => ?_))).trans h2⟩
    obtain ⟨ob, h3, h4⟩ := cells_of_cell h2
    obtain ⟨_, o2, h5, h6⟩ := q bp e2.symm
    rw [show A.heap[bp]? = some ob from h3] at h5
    injection h5 with h5
    subst h5
    rw [h4] at h6
    cases h6
  case assign =>
    intro l' z pre p U KK hz hI hP hKK
    have HII := hide hI
    have HPP := hide hP
    have HKK := hide hKK
    clear hI hP hKK
    unfold sdEnc
    gi_wp2
    have hbA : Below U.heap.size U (U.alloc (.cells #[.slice (some ⟨z, 0, none⟩) Kw p.C] 65)) := balloc (Below.refl _ _) _
    exact HKK.out _ _ ⟨hbA.size, fun k o h1 _ => (hbA.block k (Array.getElem?_eq_some_iff.1 h1).1).trans h1⟩ (KpB.of_below hbA HII.out.size) (HII.out.below hbA) (sdPy_below HPP.out hbA) ⟨U.heap.size, rfl, HII.out.size, by simp [go_sem]⟩
  case body =>
    rintro l' z pre p a' U hz hl' _ hI hP ⟨bp, rfl, hbp, hcp⟩ hlen
    have HII := hide hI
    have HPP := hide hP
    have sb := hI.cell (b := w1.heap.size + 1 + 1) (by omega) HS4.out
    have hpi : p.i < X.instrs.length + 1 := by have := hP.1; omega
    have hpi' : (p.i : Int) < (X.instrs.length : Int) + 1 := by omega
    have hzU := hI.size
    have HLS := hide (list_valueNo z Kw p.C p.W U.drew (hide hP.2.2) (hide hP.2.1.drew) (hide (HTZ.out.of_block (hI.fr _ (by omega) (by omega)))) hKW)
    clear hI hP
    gi_wp2
    refine wpIn_region_held_drew (S := (fun w' => w'.cell? ⟨w1.heap.size + 1 + 1, 0, none⟩ = some (.slice (some ⟨w1.heap.size + 1, 0, none⟩) (X.instrs.length + 1) (X.instrs.length + 1)) ∧ w'.cell? ⟨bp, 0, none⟩ = some (.slice (some ⟨z, 0, none⟩) Kw p.C))) (by kernel_rfl) (by (try dsimp only); go_keep) (fun hHeld => ?_)
    refine wpAnyHI_take (i := 0) (v := ?_) rfl (by kernel_rfl) (by kernel_rfl) (by kernel_rfl) (by kernel_rfl) (fun _ _ _ h => h) ⟨Or.inl ⟨by rfl, ?_⟩, fun _ => rfl⟩ (by assumption) ?_
    rotate_left
    · intro w hSw; (try dsimp only at hSw); go_simp; try with_reducible rfl
    simp only [Act.put, List.getElem_toArray, List.getElem_cons_zero, List.setIfInBounds_toArray, List.set_cons_zero, List.set_cons_succ]
    refine wpAnyHI_take (i := 1) (v := ?_) rfl (by kernel_rfl) (by kernel_rfl) (by kernel_rfl) (by kernel_rfl) (fun _ _ _ h => h) ⟨Or.inl ⟨by rfl, ?_⟩, fun _ => rfl⟩ (by assumption) ?_
    rotate_left
    · intro w hSw; (try dsimp only at hSw); go_simp; try with_reducible rfl
    simp only [Act.put, List.getElem_toArray, List.getElem_cons_zero, List.getElem_cons_succ, List.setIfInBounds_toArray, List.set_cons_zero, List.set_cons_succ]
    refine wpAnyHI_take (i := 2) (v := ?_) rfl (by kernel_rfl) (by kernel_rfl) (by kernel_rfl) (by kernel_rfl) (fun _ _ _ h => h) ⟨Or.inl ⟨by rfl, ?_⟩, fun _ => rfl⟩ (by assumption) ?_
    rotate_left
    · intro w hSw; (try dsimp only at hSw); go_simp; try with_reducible rfl
    simp only [Act.put, List.getElem_toArray, List.getElem_cons_zero, List.getElem_cons_succ, List.setIfInBounds_toArray, List.set_cons_zero, List.set_cons_succ]
    refine wpAnyHI_ready (rs := [3]) (by kernel_rfl) (by simp) ?_
    refine AllReadyHI.cons rfl (fun K hK => ?_) AllReadyHI.nil
    go_simp
    refine ⟨trivial, (CallsIn.inRound l' (callsIn_wide.2 HLS.out)).mono ?_⟩
    rintro e U5 ⟨u, rfl, hb5', hu⟩
    have hb5 : Below U.heap.size U U5 := ⟨hb5'.os, hb5'.tape, hb5'.output, hb5'.size, hb5'.block⟩
    have HPU := hide (HII.out.push (s := p) hb5 hu)
    obtain ⟨au, cu, eu, _⟩ := ints_owned (show U5.ownsRow U.heap.size 2 1 u (natI (lsN p.W (64 * Kw))).length ((natI (lsN p.W (64 * Kw))).map (Value.int .i64)) by rw [show (natI (lsN p.W (64 * Kw))).length = (lsN p.W (64 * Kw)).length by simp [natI]]; exact hu)
    generalize (natI (lsN p.W (64 * Kw))).length = lu at eu
    subst eu
    have HB5 := hide hb5
    have sb5 := (hb5.cell (p := ⟨w1.heap.size + 1 + 1, 0, none⟩) (World.block_lt_of_cell? U _ sb)).trans sb
    have cp5 := (hb5.cell (p := ⟨bp, 0, none⟩) (World.block_lt_of_cell? U _ hcp)).trans hcp
    have HI5 := hide (HII.out.below hb5)
    obtain ⟨P5, U5', hro5, _, _⟩ := HI5.out.db
    have ce5 := hro5.row.cell hpi
    have fe5 := hro5.row.frozen p.i
    clear hb5 hb5' hu HLS hro5
    refine hK.out _ _ ⟨sb5, cp5⟩ (fun hHeld => ?_)
    clear hK
    try simp only [Act.put, List.getElem_toArray, List.getElem_cons_zero, List.getElem_cons_succ, List.setIfInBounds_toArray, List.set_cons_zero, List.set_cons_succ]
    refine wpAnyHI_take (i := 4) (v := ?_) rfl (by kernel_rfl) (by kernel_rfl) (by kernel_rfl) (by kernel_rfl) (fun _ _ _ h => h) ⟨Or.inl ⟨by rfl, ?_⟩, fun _ => rfl⟩ (by assumption) ?_
    rotate_left
    · intro w hSw; (try dsimp only at hSw); go_simp; try with_reducible rfl
    simp only [Act.put, List.getElem_toArray, List.getElem_cons_zero, List.getElem_cons_succ, List.setIfInBounds_toArray, List.set_cons_zero, List.set_cons_succ]
    refine wpAnyHI_take (i := 5) (v := ?_) rfl (by kernel_rfl) (by kernel_rfl) (by kernel_rfl) (by kernel_rfl) (fun _ _ _ h => h) ⟨Or.inl ⟨by rfl, ?_⟩, fun _ => rfl⟩ (by assumption) ?_
    rotate_left
    · intro w hSw; (try dsimp only at hSw); go_simp; try with_reducible rfl
    simp only [Act.put, List.getElem_toArray, List.getElem_cons_zero, List.getElem_cons_succ, List.setIfInBounds_toArray, List.set_cons_zero, List.set_cons_succ]
    refine wpAnyHI_ready (rs := [6]) (by kernel_rfl) (by simp) ?_
    refine AllReadyHI.cons rfl (fun K hK => ?_) AllReadyHI.nil
    go_simp
    refine hK.out _ _ ⟨(World.cell?_setCell_far U5 ⟨w1.heap.size + 1, p.i, none⟩ ⟨w1.heap.size + 1 + 1, 0, none⟩ (.slice au lu cu) (by simp)).trans sb5, (World.cell?_setCell_far U5 ⟨w1.heap.size + 1, p.i, none⟩ ⟨bp, 0, none⟩ (.slice au lu cu) (by show w1.heap.size + 1 ≠ bp; omega)).trans cp5⟩ (fun hHeld => ?_)
    clear hK
    try simp only [Act.put, List.getElem_toArray, List.getElem_cons_zero, List.getElem_cons_succ, List.setIfInBounds_toArray, List.set_cons_zero, List.set_cons_succ]
    refine wpAnyHI_doneN (by kernel_rfl) ?_ _
    clear hHeld
    gi_wp2
    have hkk : KpB w4.heap.size (fun q => q = w1.heap.size + 1) U (U5.setCell ⟨w1.heap.size + 1, p.i, none⟩ (.slice au lu cu)) := (KpB.of_below HB5.out hzU).trans (kpB_grown ⟨rfl, rfl, rfl, by simp [World.setCell], fun k _ hk => Below.heap_setCell _ _ _ _ (fun e => hk (by rw [e]))⟩ rfl HI5.out.size)
    refine ⟨⟨hkk.size, fun q ob h1 h2 h3 => ?_⟩, hkk, HPU.out⟩
    exact (Below.heap_setCell _ _ _ _ (by show q ≠ w1.heap.size + 1; omega)).trans ((HB5.out.block q (Array.getElem?_eq_some_iff.1 h2).1).trans h2)
  case done =>
    rintro D z ss U hD hz hS' hI hKD
    have HII := hide hI
    have HKD := hide hKD
    have HS' := hide hS'
    have sb := hI.cell (b := w1.heap.size + 1 + 1) (by omega) HS4.out
    clear hI hKD hS'
    gi_wp2
    have hI2 : PtI w4 (w1.heap.size + 1) (X.instrs.length + 1) (64 * Kw) z ss (U.putObj D (.deferred none)) := (PtI.own w4 _ _ _ z).putObj _ HII.out (by omega) HKD.out rfl
    obtain ⟨U9, hU9⟩ := HDN.out _ _ _ _ _ (WX k) hVK HLO.out ss HS'.out hI2
    refine leaves_one HKD.out ⟨.slice (some ⟨w1.heap.size + 1, 0, none⟩) (X.instrs.length + 1) (X.instrs.length + 1), by simp [results, Tryz.results17, go_sem], ?_⟩
    rw [← HPR.out, ← HX.out]
    exact ⟨w4.heap.size, w1.heap.size + 1, U9, rfl, by omega, ⟨hI2.os.trans HB4.out.os, hI2.tape.trans HB4.out.tape, hI2.output.trans HB4.out.output, Nat.le_trans HB4.out.size hI2.size, fun q hq => (hI2.fr q (by omega) (by omega)).trans (HB4.out.block q hq)⟩, hU9⟩
end Go.Proofs.YtjfcbjomfbfoiaaGreatDoor
