import Derived.Test.YtanaeindldcapaaDoorML2
namespace Go.Proofs.YtanaeindldcapaaDoor
open Go.RowKit
theorem Tryd.infoFa : (Tryd.prog.info? 81).map (fun i => (i.zero, i.size, i.bytes)) = some (some (.agg #[.slice none 0 0, .slice none 0 0, .slice none 0 0, .slice none 0 0, .slice none 0 0, .slice none 0 0]), 6, 144) := by kernel_rfl
theorem Tryd.infoSetI' : (Tryd.prog.info? 112).map (fun i => (i.zero, i.size, i.bytes)) = some (some (.agg #[.slice none 0 0]), 1, 24) := by kernel_rfl
def fndR (k : Nat) : Code → Option Code
  | .region j ops d => if j = k then some (.region j ops d) else none
  | .seq x y => match fndR k x with
    | some c => some c
    | none => fndR k y
  | .block _ c => fndR k c
  | .scope c => fndR k c
  | .loop c => fndR k c
  | .cond _ x y => match fndR k x with
    | some c => some c
    | none => fndR k y
  | _ => none
noncomputable def ls5 : Code := (Tryd.f28.body.bind (fndR 5)).getD .skip
/-- A walk whose post is made a letter: what is told of it is how it is reached and that a panic passes. -/
theorem wp_abs {P : Program} {C : Code} {Q0 : Exit → Act → World → Prop} {a : Act} {w : World} (hp : ∀ c (a : Act) t v w, Q0 (.panic c) (a.put (some t) v) w → Q0 (.panic c) a w) (h : ∀ Q : Exit → Act → World → Prop, Hid (∀ a w, Q0 .normal a w → Q .normal a w) → Hid (∀ c (a : Act) t v w, Q (.panic c) (a.put (some t) v) w → Q (.panic c) a w) → C.wp P Q a w) : C.wp P Q0 a w := h Q0 (hide (fun _ _ h => h)) (hide hp)
set_option maxHeartbeats 8000000 in
set_option maxRecDepth 1000000 in
theorem lsReg (V n c b o k L B : Nat) (pa ia : Option Addr) (pc ic : Nat) (X : Blk) (w wr : World) (Q : Exit → Act → World → Prop) (u3 u5 u6 u7 u8 u15 u16 u17 u18 u19 u20 u21 u22 u23 u24 u25 u26 u27 u28 u29 u30 u31 u32 u33 u34 u35 u36 u37 u38 u39 u40 u41 u42 u43 u44 u45 u46 u47 u48 u49 u50 u51 u52 u53 u54 u55 u56 u57 u58 u59 u60 u61 u62 u63 u64 u65 u66 u67 u68 u69 u70 u71 u72 u73 u74 u75 u76 u77 u78 u79 u80 u81 u82 u83 u84 u85 u86 u87 u88 u89 u90 u91 u92 u93 u94 u95 u96 u97 u98 u99 u100 u101 u102 u103 : Value) (hQ : Hid (∀ c (a : Act) t v w, Q (.panic c) (a.put (some t) v) w → Q (.panic c) a w)) (hB : B ≤ w.heap.size) (hwz : w.heap.size + 2 ≤ wr.heap.size) (hlt : k < n)
    (hf1 : wr.cell? ⟨w.heap.size, 1, none⟩ = some (.slice (some ⟨b, o, none⟩) n c)) (e0 : wr.cell? ⟨b, o + k * 6, none⟩ = some (.slice pa X.phis.length pc)) (e1 : wr.cell? ⟨b, o + k * 6 + 1, none⟩ = some (.slice ia X.instrs.length ic)) (e2 : wr.cell? ⟨b, o + k * 6 + 2, none⟩ = some (.int .i64 X.term.kind)) (e3 : wr.cell? ⟨b, o + k * 6 + 3, none⟩ = some (.int .i64 X.term.a)) (e4 : wr.cell? ⟨b, o + k * 6 + 4, none⟩ = some (.int .i64 X.term.to)) (e5 : wr.cell? ⟨b, o + k * 6 + 5, none⟩ = some (.int .i64 X.term.els))
    (HPHS : Hid (PhsAt wr L B pa X.phis)) (HLN : Hid (X.instrs.length ≤ 4000 ∧ X.phis.length ≤ 4000))
    (KEY : Hid (∀ (bx : Nat) (f0 : Nat → Value) (t17 t18 t19 t20 t21 t22 t23 t24 t25 t26 t27 t28 t29 t30 t31 t32 t33 t34 t35 t36 t37 : Value) (Y : World), FcA wr Y bx X f0 → Q .normal ⟨#[.agg #[.int .i64 (V : Int), .slice (some ⟨b, o, none⟩) n c], .pointer (some ⟨w.heap.size, 0, none⟩), .slice none 0 0, u3, .int .i64 (k : Int), .pointer (some ⟨bx, 0, none⟩), u6, u7, u8, .slice (some ⟨w.heap.size + 1, 0, none⟩) 0 0, .int .i64 (k : Int), .pointer (some ⟨w.heap.size, 1, none⟩), .slice (some ⟨b, o, none⟩) n c, .int .i64 (n : Int), .bool true, u15, u16, t17, t18, t19, t20, t21, t22, t23, t24, t25, t26, t27, t28, t29, t30, t31, t32, t33, t34, t35, t36, t37, u38, u39, u40, u41, u42, u43, u44, u45, u46, u47, u48, u49, u50, u51, u52, u53, u54, u55, u56, u57, u58, u59, u60, u61, u62, u63, u64, u65, u66, u67, u68, u69, u70, u71, u72, u73, u74, u75, u76, u77, u78, u79, u80, u81, u82, u83, u84, u85, u86, u87, u88, u89, u90, u91, u92, u93, u94, u95, u96, u97, u98, u99, u100, u101, u102, u103, undef], []⟩ Y)) :
    Code.wp Tryd.prog ls5 Q ⟨#[.agg #[.int .i64 (V : Int), .slice (some ⟨b, o, none⟩) n c], .pointer (some ⟨w.heap.size, 0, none⟩), .slice none 0 0, u3, .int .i64 (k : Int), u5, u6, u7, u8, .slice (some ⟨w.heap.size + 1, 0, none⟩) 0 0, .int .i64 (k : Int), .pointer (some ⟨w.heap.size, 1, none⟩), .slice (some ⟨b, o, none⟩) n c, .int .i64 (n : Int), .bool true, u15, u16, u17, u18, u19, u20, u21, u22, u23, u24, u25, u26, u27, u28, u29, u30, u31, u32, u33, u34, u35, u36, u37, u38, u39, u40, u41, u42, u43, u44, u45, u46, u47, u48, u49, u50, u51, u52, u53, u54, u55, u56, u57, u58, u59, u60, u61, u62, u63, u64, u65, u66, u67, u68, u69, u70, u71, u72, u73, u74, u75, u76, u77, u78, u79, u80, u81, u82, u83, u84, u85, u86, u87, u88, u89, u90, u91, u92, u93, u94, u95, u96, u97, u98, u99, u100, u101, u102, u103, undef], []⟩ wr := by
  conv => arg 2; whnf
  have hbw : b < wr.heap.size := World.block_lt_of_cell? wr _ e0
  have HSX := hide (fun W (hW : Below wr.heap.size wr W) =>
    have q : ∀ {b' o' : Nat} {v : Value}, wr.cell? ⟨b', o', none⟩ = some v → W.cell? ⟨b', o', none⟩ = some v := fun {b' o' _} h => (hW.cell (p := ⟨b', o', none⟩) (World.block_lt_of_cell? wr _ h)).trans h
    And.intro (q hf1) (And.intro (q e0) (And.intro (q e1) (And.intro (q e2) (And.intro (q e3) (And.intro (q e4) (q e5)))))))
  have HT : Hid (FcD wr wr.drew none []) := hide ⟨(Below.refl _ _).drew, fun _ h => (by cases h), fun _ h => (by cases h)⟩
  refine wp_region_held_drew (S := (fun w' => w'.cell? ⟨w.heap.size, 1, none⟩ = some (.slice (some ⟨b, o, none⟩) n c) ∧ w'.cell? ⟨b, o + k * 6, none⟩ = some (.slice pa X.phis.length pc) ∧ w'.cell? ⟨b, o + k * 6 + 1, none⟩ = some (.slice ia X.instrs.length ic) ∧ w'.cell? ⟨b, o + k * 6 + 2, none⟩ = some (.int .i64 X.term.kind) ∧ w'.cell? ⟨b, o + k * 6 + 3, none⟩ = some (.int .i64 X.term.a) ∧ w'.cell? ⟨b, o + k * 6 + 4, none⟩ = some (.int .i64 X.term.to) ∧ w'.cell? ⟨b, o + k * 6 + 5, none⟩ = some (.int .i64 X.term.els))) (by kernel_rfl) (by (try dsimp only); go_keep) (fun hHeld => ?_)
  generalize wr.drew = wd at *
  refine wpAnyH_take (i := 0) (v := ?_) rfl (by kernel_rfl) (by kernel_rfl) (by kernel_rfl) (fun _ _ _ h => hQ.out _ _ _ _ _ h) (Or.inl ⟨by rfl, ?_⟩) (by assumption) ?_
  rotate_left
  · intro w hSw; (try dsimp only at hSw); go_simp; try with_reducible rfl
  simp only [Act.put, List.getElem_toArray, List.getElem_cons_zero, List.setIfInBounds_toArray, List.set_cons_zero, List.set_cons_succ]
  refine wpAnyH_take (i := 1) (v := ?_) rfl (by kernel_rfl) (by kernel_rfl) (by kernel_rfl) (fun _ _ _ h => hQ.out _ _ _ _ _ h) (Or.inl ⟨by rfl, ?_⟩) (by assumption) ?_
  rotate_left
  · intro w hSw; (try dsimp only at hSw); go_simp; try with_reducible rfl
  simp only [Act.put, List.getElem_toArray, List.getElem_cons_zero, List.getElem_cons_succ, List.setIfInBounds_toArray, List.set_cons_zero, List.set_cons_succ]
  refine wpAnyH_take (i := 2) (v := ?_) rfl (by kernel_rfl) (by kernel_rfl) (by kernel_rfl) (fun _ _ _ h => hQ.out _ _ _ _ _ h) (Or.inl ⟨by rfl, ?_⟩) (by assumption) ?_
  rotate_left
  · intro w hSw; (try dsimp only at hSw); go_simp; try with_reducible rfl
  simp only [Act.put, List.getElem_toArray, List.getElem_cons_zero, List.getElem_cons_succ, List.setIfInBounds_toArray, List.set_cons_zero, List.set_cons_succ]
  refine wpAnyH_take (i := 3) (v := ?_) rfl (by kernel_rfl) (by kernel_rfl) (by kernel_rfl) (fun _ _ _ h => hQ.out _ _ _ _ _ h) (Or.inl ⟨by rfl, ?_⟩) (by assumption) ?_
  rotate_left
  · intro w hSw; (try dsimp only at hSw); go_simp; try with_reducible rfl
  simp only [Act.put, List.getElem_toArray, List.getElem_cons_zero, List.getElem_cons_succ, List.setIfInBounds_toArray, List.set_cons_zero, List.set_cons_succ]
  refine wpAnyH_take (i := 4) (v := ?_) rfl (by kernel_rfl) (by kernel_rfl) (by kernel_rfl) (fun _ _ _ h => hQ.out _ _ _ _ _ h) (Or.inl ⟨by rfl, ?_⟩) (by assumption) ?_
  rotate_left
  · intro w hSw; (try dsimp only at hSw); go_simp; try with_reducible rfl
  simp only [Act.put, List.getElem_toArray, List.getElem_cons_zero, List.getElem_cons_succ, List.setIfInBounds_toArray, List.set_cons_zero, List.set_cons_succ]
  refine wpAnyH_take (i := 5) (v := ?_) rfl (by kernel_rfl) (by kernel_rfl) (by kernel_rfl) (fun _ _ _ h => hQ.out _ _ _ _ _ h) (Or.inl ⟨by rfl, ?_⟩) (by assumption) ?_
  rotate_left
  · intro w hSw; (try dsimp only at hSw); go_simp; try with_reducible rfl
  simp only [Act.put, List.getElem_toArray, List.getElem_cons_zero, List.getElem_cons_succ, List.setIfInBounds_toArray, List.set_cons_zero, List.set_cons_succ]
  refine wpAnyH_take (i := 7) (v := ?_) rfl (by kernel_rfl) (by kernel_rfl) (by kernel_rfl) (fun _ _ _ h => hQ.out _ _ _ _ _ h) (Or.inl ⟨by rfl, ?_⟩) (by assumption) ?_
  rotate_left
  · intro w hSw; (try dsimp only at hSw); go_simp; try with_reducible rfl
  simp only [Act.put, List.getElem_toArray, List.getElem_cons_zero, List.getElem_cons_succ, List.setIfInBounds_toArray, List.set_cons_zero, List.set_cons_succ]
  refine wpAnyH_take (i := 8) (v := ?_) rfl (by kernel_rfl) (by kernel_rfl) (by kernel_rfl) (fun _ _ _ h => hQ.out _ _ _ _ _ h) (Or.inl ⟨by rfl, ?_⟩) (by assumption) ?_
  rotate_left
  · intro w hSw; (try dsimp only at hSw); go_simp; try with_reducible rfl
  simp only [Act.put, List.getElem_toArray, List.getElem_cons_zero, List.getElem_cons_succ, List.setIfInBounds_toArray, List.set_cons_zero, List.set_cons_succ]
  refine wpAnyH_take (i := 9) (v := ?_) rfl (by kernel_rfl) (by kernel_rfl) (by kernel_rfl) (fun _ _ _ h => hQ.out _ _ _ _ _ h) (Or.inl ⟨by rfl, ?_⟩) (by assumption) ?_
  rotate_left
  · intro w hSw; (try dsimp only at hSw); go_simp; try with_reducible rfl
  simp only [Act.put, List.getElem_toArray, List.getElem_cons_zero, List.getElem_cons_succ, List.setIfInBounds_toArray, List.set_cons_zero, List.set_cons_succ]
  refine wpAnyH_take (i := 10) (v := ?_) rfl (by kernel_rfl) (by kernel_rfl) (by kernel_rfl) (fun _ _ _ h => hQ.out _ _ _ _ _ h) (Or.inl ⟨by rfl, ?_⟩) (by assumption) ?_
  rotate_left
  · intro w hSw; (try dsimp only at hSw); go_simp; try with_reducible rfl
  simp only [Act.put, List.getElem_toArray, List.getElem_cons_zero, List.getElem_cons_succ, List.setIfInBounds_toArray, List.set_cons_zero, List.set_cons_succ]
  refine wpAnyH_take (i := 11) (v := ?_) rfl (by kernel_rfl) (by kernel_rfl) (by kernel_rfl) (fun _ _ _ h => hQ.out _ _ _ _ _ h) (Or.inl ⟨by rfl, ?_⟩) (by assumption) ?_
  rotate_left
  · intro w hSw; (try dsimp only at hSw); go_simp; try with_reducible rfl
  simp only [Act.put, List.getElem_toArray, List.getElem_cons_zero, List.getElem_cons_succ, List.setIfInBounds_toArray, List.set_cons_zero, List.set_cons_succ]
  refine wpAnyH_take (i := 13) (v := ?_) rfl (by kernel_rfl) (by kernel_rfl) (by kernel_rfl) (fun _ _ _ h => hQ.out _ _ _ _ _ h) (Or.inl ⟨by rfl, ?_⟩) (by assumption) ?_
  rotate_left
  · intro w hSw; (try dsimp only at hSw); go_simp; try with_reducible rfl
  simp only [Act.put, List.getElem_toArray, List.getElem_cons_zero, List.getElem_cons_succ, List.setIfInBounds_toArray, List.set_cons_zero, List.set_cons_succ]
  refine wpAnyH_take (i := 14) (v := ?_) rfl (by kernel_rfl) (by kernel_rfl) (by kernel_rfl) (fun _ _ _ h => hQ.out _ _ _ _ _ h) (Or.inl ⟨by rfl, ?_⟩) (by assumption) ?_
  rotate_left
  · intro w hSw; (try dsimp only at hSw); go_simp; try with_reducible rfl
  simp only [Act.put, List.getElem_toArray, List.getElem_cons_zero, List.getElem_cons_succ, List.setIfInBounds_toArray, List.set_cons_zero, List.set_cons_succ]
  refine wpAnyH_take (i := 15) (v := ?_) rfl (by kernel_rfl) (by kernel_rfl) (by kernel_rfl) (fun _ _ _ h => hQ.out _ _ _ _ _ h) (Or.inl ⟨by rfl, ?_⟩) (by assumption) ?_
  rotate_left
  · intro w hSw; (try dsimp only at hSw); go_simp; try with_reducible rfl
  simp only [Act.put, List.getElem_toArray, List.getElem_cons_zero, List.getElem_cons_succ, List.setIfInBounds_toArray, List.set_cons_zero, List.set_cons_succ]
  refine wpAnyH_take (i := 16) (v := ?_) rfl (by kernel_rfl) (by kernel_rfl) (by kernel_rfl) (fun _ _ _ h => hQ.out _ _ _ _ _ h) (Or.inl ⟨by rfl, ?_⟩) (by assumption) ?_
  rotate_left
  · intro w hSw; (try dsimp only at hSw); go_simp; try with_reducible rfl
  simp only [Act.put, List.getElem_toArray, List.getElem_cons_zero, List.getElem_cons_succ, List.setIfInBounds_toArray, List.set_cons_zero, List.set_cons_succ]
  refine wpAnyH_take (i := 17) (v := ?_) rfl (by kernel_rfl) (by kernel_rfl) (by kernel_rfl) (fun _ _ _ h => hQ.out _ _ _ _ _ h) (Or.inl ⟨by rfl, ?_⟩) (by assumption) ?_
  rotate_left
  · intro w hSw; (try dsimp only at hSw); go_simp; try with_reducible rfl
  simp only [Act.put, List.getElem_toArray, List.getElem_cons_zero, List.getElem_cons_succ, List.setIfInBounds_toArray, List.set_cons_zero, List.set_cons_succ]
  refine wpAnyH_take (i := 18) (v := ?_) rfl (by kernel_rfl) (by kernel_rfl) (by kernel_rfl) (fun _ _ _ h => hQ.out _ _ _ _ _ h) (Or.inl ⟨by rfl, ?_⟩) (by assumption) ?_
  rotate_left
  · intro w hSw; (try dsimp only at hSw); go_simp; try with_reducible rfl
  simp only [Act.put, List.getElem_toArray, List.getElem_cons_zero, List.getElem_cons_succ, List.setIfInBounds_toArray, List.set_cons_zero, List.set_cons_succ]
  refine wpAnyH_ready (rs := [6, 21]) (by kernel_rfl) (by simp) ?_
  refine (AllReadyH.cons rfl (fun K hK => ?_) (AllReadyH.cons rfl (fun K hK => ?_) AllReadyH.nil))
  rotate_left
  go_simp
  obtain ⟨mb, hmb, hbx⟩ := HT.out.box
  rw [← hmb]
  replace HT := hide hbx
  clear hmb hbx
  refine hK.out _ _ (HSX.out _ HT.out.s) (fun hHeld => ?_)
  clear hK
  try simp only [Act.put, List.getElem_toArray, List.getElem_cons_zero, List.getElem_cons_succ, List.setIfInBounds_toArray, List.set_cons_zero, List.set_cons_succ]
  refine wpAnyH_ready (rs := [6]) (by kernel_rfl) (by simp) ?_
  refine AllReadyH.cons rfl (fun K hK => ?_) AllReadyH.nil
  rotate_left
  all_goals (
    go_simp
    refine (targetsS_any X.term _).mono ?_
    rintro e yT ⟨aT, cT, rfl, hb, hi⟩
    replace HT := hide (HT.out.add hb hi)
    clear hb hi
    refine hK.out _ _ (HSX.out _ HT.out.s) (fun hHeld => ?_)
    clear hK
    try simp only [Act.put, List.getElem_toArray, List.getElem_cons_zero, List.getElem_cons_succ, List.setIfInBounds_toArray, List.set_cons_zero, List.set_cons_succ])
  rotate_left
  refine wpAnyH_ready (rs := [12]) (by kernel_rfl) (by simp) ?_
  refine AllReadyH.cons rfl (fun K hK => ?_) AllReadyH.nil
  rotate_left
  refine wpAnyH_ready (rs := [12, 21]) (by kernel_rfl) (by simp) ?_
  refine (AllReadyH.cons rfl (fun K hK => ?_) (AllReadyH.cons rfl (fun K hK => ?_) AllReadyH.nil))
  rotate_left
  go_simp
  obtain ⟨mb, hmb, hbx⟩ := HT.out.box
  rw [← hmb]
  replace HT := hide hbx
  clear hmb hbx
  refine hK.out _ _ (HSX.out _ HT.out.s) (fun hHeld => ?_)
  clear hK
  try simp only [Act.put, List.getElem_toArray, List.getElem_cons_zero, List.getElem_cons_succ, List.setIfInBounds_toArray, List.set_cons_zero, List.set_cons_succ]
  refine wpAnyH_ready (rs := [12]) (by kernel_rfl) (by simp) ?_
  refine AllReadyH.cons rfl (fun K hK => ?_) AllReadyH.nil
  all_goals (
    go_simp
    refine (phiDefs_any pa X.phis.length pc X.phis (.slice ia X.instrs.length ic) (.int .i64 X.term.kind) (.int .i64 X.term.a) (.int .i64 X.term.to) (.int .i64 X.term.els) L B _ (hide (HPHS.out.keepS (fun q _ h2 => HT.out.s.block q (show q < wr.heap.size by omega)))) (hide rfl) HLN.out.2 (by have := HT.out.s.size; omega)).mono ?_
    rintro e yP ⟨aP, cP, rfl, hb, hi⟩
    replace HT := hide (HT.out.add hb hi)
    clear hb hi
    refine hK.out _ _ (HSX.out _ HT.out.s) (fun hHeld => ?_)
    clear hK
    try simp only [Act.put, List.getElem_toArray, List.getElem_cons_zero, List.getElem_cons_succ, List.setIfInBounds_toArray, List.set_cons_zero, List.set_cons_succ])
  refine wpAnyH_ready (rs := [19]) (by kernel_rfl) (by simp) ?_
  refine AllReadyH.cons rfl (fun K hK => ?_) AllReadyH.nil
  rotate_left
  refine wpAnyH_ready (rs := [19]) (by kernel_rfl) (by simp) ?_
  refine AllReadyH.cons rfl (fun K hK => ?_) AllReadyH.nil
  rotate_left
  refine wpAnyH_ready (rs := [19, 21]) (by kernel_rfl) (by simp) ?_
  refine (AllReadyH.cons rfl (fun K hK => ?_) (AllReadyH.cons rfl (fun K hK => ?_) AllReadyH.nil))
  rotate_left
  go_simp
  obtain ⟨mb, hmb, hbx⟩ := HT.out.box
  rw [← hmb]
  replace HT := hide hbx
  clear hmb hbx
  refine hK.out _ _ (HSX.out _ HT.out.s) (fun hHeld => ?_)
  clear hK
  try simp only [Act.put, List.getElem_toArray, List.getElem_cons_zero, List.getElem_cons_succ, List.setIfInBounds_toArray, List.set_cons_zero, List.set_cons_succ]
  refine wpAnyH_ready (rs := [19]) (by kernel_rfl) (by simp) ?_
  refine AllReadyH.cons rfl (fun K hK => ?_) AllReadyH.nil
  all_goals (
    go_simp
    refine (termReads_any X.term _).mono ?_
    rintro e yR ⟨aR, cR, rfl, hb, hi⟩
    replace HT := hide (HT.out.add hb hi)
    clear hb hi
    refine hK.out _ _ (HSX.out _ HT.out.s) (fun hHeld => ?_)
    clear hK
    try simp only [Act.put, List.getElem_toArray, List.getElem_cons_zero, List.getElem_cons_succ, List.setIfInBounds_toArray, List.set_cons_zero, List.set_cons_succ]
    refine wpAnyH_take (i := 20) (v := ?_) rfl (by kernel_rfl) (by kernel_rfl) (by kernel_rfl) (fun _ _ _ h => hQ.out _ _ _ _ _ h) (Or.inl ⟨by rfl, ?_⟩) (by assumption) ?_
    rotate_left
    · intro w hSw; (try dsimp only at hSw); go_simp; try with_reducible rfl
    simp only [Act.put, List.getElem_toArray, List.getElem_cons_zero, List.getElem_cons_succ, List.setIfInBounds_toArray, List.set_cons_zero, List.set_cons_succ]
    skip)
  refine wpAnyH_ready (rs := [22]) (by kernel_rfl) (by simp) ?_
  refine AllReadyH.cons rfl (fun K hK => ?_) AllReadyH.nil
  rotate_left
  refine wpAnyH_ready (rs := [22]) (by kernel_rfl) (by simp) ?_
  refine AllReadyH.cons rfl (fun K hK => ?_) AllReadyH.nil
  rotate_left
  refine wpAnyH_ready (rs := [22]) (by kernel_rfl) (by simp) ?_
  refine AllReadyH.cons rfl (fun K hK => ?_) AllReadyH.nil
  rotate_left
  refine wpAnyH_ready (rs := [21]) (by kernel_rfl) (by simp) ?_
  refine AllReadyH.cons rfl (fun K hK => ?_) AllReadyH.nil
  go_simp
  obtain ⟨mb, hmb, hbx⟩ := HT.out.box
  rw [← hmb]
  replace HT := hide hbx
  clear hmb hbx
  refine hK.out _ _ (HSX.out _ HT.out.s) (fun hHeld => ?_)
  clear hK
  try simp only [Act.put, List.getElem_toArray, List.getElem_cons_zero, List.getElem_cons_succ, List.setIfInBounds_toArray, List.set_cons_zero, List.set_cons_succ]
  refine wpAnyH_ready (rs := [22]) (by kernel_rfl) (by simp) ?_
  refine AllReadyH.cons rfl (fun K hK => ?_) AllReadyH.nil
  all_goals (
    obtain ⟨BX, -⟩ := HT.out.bx mb rfl
    have lc0 := BX.cell (i := 0) (by decide)
    have lc1 := BX.cell (i := 1) (by decide)
    have lc2 := BX.cell (i := 2) (by decide)
    have lc3 := BX.cell (i := 3) (by decide)
    have lc4 := BX.cell (i := 4) (by decide)
    have lc5 := BX.cell (i := 5) (by decide)
    have lz := BX.frozen
    have hsc : ∀ (W : World) (i j : Nat) (u : Value), i ≠ j → (W.setCell ⟨mb, i, none⟩ u).cell? ⟨mb, j, none⟩ = W.cell? ⟨mb, j, none⟩ := fun W i j u h => World.cell?_setCell_other _ _ _ _ (fun e => h (congrArg Addr.off e))
    clear BX
    go_simp
    clear lc0 lc1 lc2 lc3 lc4 lc5 lz hsc
    have hF : FcA wr _ mb X _ := fcA_of (cT := cT) (cP := cP) (cR := cR) HT.out
    refine hK.out _ _ (HSX.out _ hF.low) (fun hHeld => ?_)
    clear hK
    try simp only [Act.put, List.getElem_toArray, List.getElem_cons_zero, List.getElem_cons_succ, List.setIfInBounds_toArray, List.set_cons_zero, List.set_cons_succ]
    refine wpAnyH_done (by kernel_rfl) ?_ _
    exact KEY.out _ _ _ _ _ _ _ _ _ _ _ _ _ _ _ _ _ _ _ _ _ _ _ _ hF)
end Go.Proofs.YtanaeindldcapaaDoor
