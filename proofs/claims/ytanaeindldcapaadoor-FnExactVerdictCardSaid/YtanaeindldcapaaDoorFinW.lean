import Derived.Test.YtanaeindldcapaaDoorCards
import Derived.Test.YtanaeindldcapaaDoorTie
import Derived.Test.YtanaeindldcapaaDoorW4
import Derived.Test.YtanaeindldcapaaDoorRead
import Derived.OpenShut
import Derived.OpenVars
import Derived.LaidMore
import Derived.Deep.DeepHandedRow
import Derived.Lib.LaidTab
namespace Go.Proofs.YtanaeindldcapaaDoor
open Go.ChangeShapes Go.WideShapes Go.ChangeAt Go.RowKit Go.Joins
section
theorem own : ownKnob Tryd.prog.godebug = none := by kernel_rfl
theorem gOps : Tryd.prog.globalNamed "loop.example/s0031/impl.opForms" = some 0 := by kernel_rfl
theorem gTers : Tryd.prog.globalNamed "loop.example/s0031/impl.termForms" = some 1 := by kernel_rfl
theorem tOps : (Tryd.prog.globals[0]?).map (·.type) = some 120 := by kernel_rfl
theorem tTers : (Tryd.prog.globals[1]?).map (·.type) = some 144 := by kernel_rfl
theorem cells_op : Tryd.prog.cellsOf 119 = 5 := by kernel_rfl
theorem cells_ter : Tryd.prog.cellsOf 143 = 4 := by kernel_rfl
theorem cells_bool : Tryd.prog.cellsOf 4 = 1 := by kernel_rfl
theorem cells_str : Tryd.prog.cellsOf 9 = 1 := by kernel_rfl
variable {H : Type} {enc : TypeId × Value → H} {w : World} {base : Nat} {spare : Nat → Bool} {held : Bool}
theorem bool_at {n k : Nat} {cs : List Value} {y : DataW H × List MemPlace} {b : Bool} (h : DataW.trod enc Tryd.prog w base spare held n 4 ((cs.drop k).take (Tryd.prog.cellsOf 4)) = some y) (e : y.1 = .lit (.bool b)) : cs[k]? = some (.bool b) := by
  rw [cells_bool] at h
  obtain ⟨z, h1, h2⟩ := DataW.trod_bool Tryd.underlying4 h
  rw [h2] at e
  cases e
  exact take1 h1
theorem str_at {n k : Nat} {cs : List Value} {y : DataW H × List MemPlace} {s : List UInt8} (h : DataW.trod enc Tryd.prog w base spare held n 9 ((cs.drop k).take (Tryd.prog.cellsOf 9)) = some y) (e : y.1 = .lit (.string s)) : cs[k]? = some (.string (strOf s)) := by
  rw [cells_str] at h
  obtain ⟨z, h1, h2, _⟩ := DataW.trod_string Tryd.underlying9 h
  rw [h2] at e
  have e1 : z.data.toList = s := by simpa using e
  have e2 : strOf s = z := by rw [← e1]; cases z; rfl
  rw [e2]
  exact take1 h1
/-- A field's reading, with its datum. -/
theorem fld_is {P : Program} {fs : Array Field} {xs : List (DataW H × List MemPlace)} {n : Nat} {cs : List Value}
    (hf : ∀ (i : Nat) (f : Field), fs[i]? = some f → DataW.trod enc P w base spare held n f.type ((cs.drop f.offset).take (P.cellsOf f.type)) = xs[i]?) (hlen : xs.length = fs.size) (i : Nat) {f : Field} (hi : fs[i]? = some f) {ds : List (DataW H)} (hd : xs.map (·.1) = ds) {d : DataW H} (he : ds[i]? = some d) :
    ∃ y, DataW.trod enc P w base spare held n f.type ((cs.drop f.offset).take (P.cellsOf f.type)) = some y ∧ y.1 = d := by
  have h1 := hf i f hi
  have h2 : i < xs.length := by rw [hlen]; exact (Array.getElem?_eq_some_iff.1 hi).1
  rw [List.getElem?_eq_getElem h2] at h1
  refine ⟨_, h1, ?_⟩
  have h3 : (xs.map (·.1))[i]? = some d := by rw [hd]; exact he
  rw [List.getElem?_map, List.getElem?_eq_getElem h2] at h3
  simpa using h3
theorem dt {cs : List Value} {k m j : Nat} {v : Value} (h : ((cs.drop k).take m)[j]? = some v) (hj : j < m) : cs[k + j]? = some v := drop_take h hj
theorem op_row {n : Nat} {cs : List Value} {rows : List (DataW H)} {p : List MemPlace} (h : DataW.trod enc Tryd.prog w base spare held n 120 cs = some (.agg rows, p)) (i : Nat) (hi : i < 14) (s : List UInt8) (d a b m : Bool)
    (hr : rows[i]? = some (.agg [.lit (.string s), .lit (.bool d), .lit (.bool a), .lit (.bool b), .lit (.bool m)])) :
    cs[i * 5]? = some (.string (strOf s)) ∧ cs[i * 5 + 1]? = some (.bool d) ∧ cs[i * 5 + 2]? = some (.bool a) ∧ cs[i * 5 + 3]? = some (.bool b) ∧ cs[i * 5 + 4]? = some (.bool m) := by
  obtain ⟨xs, k, _, hx, _, hlen, hel⟩ := DataW.trod_array Tryd.underlying120 h
  have h1 := hel i hi
  rw [List.getElem?_eq_getElem (by omega), cells_op] at h1
  simp only [Prod.mk.injEq, DataW.agg.injEq] at hx
  have h2 : (xs[i]'(by omega)).1 = .agg [.lit (.string s), .lit (.bool d), .lit (.bool a), .lit (.bool b), .lit (.bool m)] := by
    have : (xs.map (·.1))[i]? = some (.agg [.lit (.string s), .lit (.bool d), .lit (.bool a), .lit (.bool b), .lit (.bool m)]) := by rw [← hx.1]; exact hr
    rw [List.getElem?_map, List.getElem?_eq_getElem (by omega)] at this
    simpa using this
  obtain ⟨ys, k2, _, hy, _, hlen2, hf⟩ := DataW.trod_struct Tryd.underlying119 h1
  rw [hy] at h2
  simp only [DataW.agg.injEq] at h2
  obtain ⟨y0, g0, e0⟩ := fld_is hf hlen2 0 rfl h2 rfl
  obtain ⟨y1, g1, e1⟩ := fld_is hf hlen2 1 rfl h2 rfl
  obtain ⟨y2, g2, e2⟩ := fld_is hf hlen2 2 rfl h2 rfl
  obtain ⟨y3, g3, e3⟩ := fld_is hf hlen2 3 rfl h2 rfl
  obtain ⟨y4, g4, e4⟩ := fld_is hf hlen2 4 rfl h2 rfl
  exact ⟨dt (j := 0) (str_at (k := 0) g0 e0) (by decide), dt (bool_at (k := 1) g1 e1) (by decide), dt (bool_at (k := 2) g2 e2) (by decide), dt (bool_at (k := 3) g3 e3) (by decide), dt (bool_at (k := 4) g4 e4) (by decide)⟩
theorem ter_row {n : Nat} {cs : List Value} {rows : List (DataW H)} {p : List MemPlace} (h : DataW.trod enc Tryd.prog w base spare held n 144 cs = some (.agg rows, p)) (i : Nat) (hi : i < 4) (s : List UInt8) (a t o : Bool)
    (hr : rows[i]? = some (.agg [.lit (.string s), .lit (.bool a), .lit (.bool t), .lit (.bool o)])) :
    cs[i * 4]? = some (.string (strOf s)) ∧ cs[i * 4 + 1]? = some (.bool a) ∧ cs[i * 4 + 2]? = some (.bool t) ∧ cs[i * 4 + 3]? = some (.bool o) := by
  obtain ⟨xs, k, _, hx, _, hlen, hel⟩ := DataW.trod_array Tryd.underlying144 h
  have h1 := hel i hi
  rw [List.getElem?_eq_getElem (by omega), cells_ter] at h1
  simp only [Prod.mk.injEq, DataW.agg.injEq] at hx
  have h2 : (xs[i]'(by omega)).1 = .agg [.lit (.string s), .lit (.bool a), .lit (.bool t), .lit (.bool o)] := by
    have : (xs.map (·.1))[i]? = some (.agg [.lit (.string s), .lit (.bool a), .lit (.bool t), .lit (.bool o)]) := by rw [← hx.1]; exact hr
    rw [List.getElem?_map, List.getElem?_eq_getElem (by omega)] at this
    simpa using this
  obtain ⟨ys, k2, _, hy, _, hlen2, hf⟩ := DataW.trod_struct Tryd.underlying143 h1
  rw [hy] at h2
  simp only [DataW.agg.injEq] at h2
  obtain ⟨y0, g0, e0⟩ := fld_is hf hlen2 0 rfl h2 rfl
  obtain ⟨y1, g1, e1⟩ := fld_is hf hlen2 1 rfl h2 rfl
  obtain ⟨y2, g2, e2⟩ := fld_is hf hlen2 2 rfl h2 rfl
  obtain ⟨y3, g3, e3⟩ := fld_is hf hlen2 3 rfl h2 rfl
  exact ⟨dt (j := 0) (str_at (k := 0) g0 e0) (by decide), dt (bool_at (k := 1) g1 e1) (by decide), dt (bool_at (k := 2) g2 e2) (by decide), dt (bool_at (k := 3) g3 e3) (by decide)⟩
/-- WHAT THE ROW's LIST GIVES: the three tables. -/
theorem tables {W : World} (h : laidMetH Tryd.prog Rows.fnExactVerdictRow.laid W) : OpTabW W ∧ TerTabW W := by
  rw [MakeChecks.laidMetH_plain _ _ _ (by kernel_rfl)] at h
  obtain ⟨ps, ⟨g0, t0, cs0, f0, p0, q0, hg0, ht0, hv0, hd0, ⟨g1, t1, cs1, f1, p1, q1, hg1, ht1, hv1, hd1, _, _⟩, _⟩, _, _⟩ := h
  obtain rfl := Option.some.inj (gOps.symm.trans hg0)
  obtain rfl := Option.some.inj (gTers.symm.trans hg1)
  obtain rfl := Option.some.inj (tOps.symm.trans ht0)
  obtain rfl := Option.some.inj (tTers.symm.trans ht1)
  have c0 : ∀ j v, cs0.toList[j]? = some v → W.cell? ⟨0, j, none⟩ = some v := fun j v hv => by
    have := World.var?_cell hg0 hv0 j
    rw [this]
    simpa using hv
  have c1 : ∀ j v, cs1.toList[j]? = some v → W.cell? ⟨1, j, none⟩ = some v := fun j v hv => by
    have := World.var?_cell hg1 hv1 j
    rw [this]
    simpa using hv
  refine ⟨?_, ?_⟩
  · have row : ∀ i s d a b m, i < 14 → ((match Rows.laid_loop_example_s0031_impl_opForms (H := Unit) with | .agg l => l | _ => []) : List (DataW Unit))[i]? = some (.agg [.lit (.string s), .lit (.bool d), .lit (.bool a), .lit (.bool b), .lit (.bool m)]) →
        W.cell? ⟨0, i * 5, none⟩ = some (.string (strOf s)) ∧ W.cell? ⟨0, i * 5 + 1, none⟩ = some (.bool d) ∧ W.cell? ⟨0, i * 5 + 2, none⟩ = some (.bool a) ∧ W.cell? ⟨0, i * 5 + 3, none⟩ = some (.bool b) ∧ W.cell? ⟨0, i * 5 + 4, none⟩ = some (.bool m) := fun i s d a b m hi hr => by
      obtain ⟨e0, e1, e2, e3, e4⟩ := op_row hd0 i hi s d a b m hr
      exact ⟨c0 _ _ e0, c0 _ _ e1, c0 _ _ e2, c0 _ _ e3, c0 _ _ e4⟩
    have r1 := row 1 _ _ _ _ _ (by decide) rfl
    refine ⟨block_of_cell r1.1, fun k h1 h2 => ?_⟩
    have hk : k = 1 ∨ k = 2 ∨ k = 3 ∨ k = 4 ∨ k = 5 ∨ k = 6 ∨ k = 7 ∨ k = 8 ∨ k = 9 ∨ k = 10 ∨ k = 11 ∨ k = 12 ∨ k = 13 := by omega
    rcases hk with rfl | rfl | rfl | rfl | rfl | rfl | rfl | rfl | rfl | rfl | rfl | rfl | rfl
    · exact r1
    · exact row 2 _ _ _ _ _ (by decide) rfl
    · exact row 3 _ _ _ _ _ (by decide) rfl
    · exact row 4 _ _ _ _ _ (by decide) rfl
    · exact row 5 _ _ _ _ _ (by decide) rfl
    · exact row 6 _ _ _ _ _ (by decide) rfl
    · exact row 7 _ _ _ _ _ (by decide) rfl
    · exact row 8 _ _ _ _ _ (by decide) rfl
    · exact row 9 _ _ _ _ _ (by decide) rfl
    · exact row 10 _ _ _ _ _ (by decide) rfl
    · exact row 11 _ _ _ _ _ (by decide) rfl
    · exact row 12 _ _ _ _ _ (by decide) rfl
    · exact row 13 _ _ _ _ _ (by decide) rfl
  · have row : ∀ i s a t o, i < 4 → ((match Rows.laid_loop_example_s0031_impl_termForms (H := Unit) with | .agg l => l | _ => []) : List (DataW Unit))[i]? = some (.agg [.lit (.string s), .lit (.bool a), .lit (.bool t), .lit (.bool o)]) →
        W.cell? ⟨1, i * 4, none⟩ = some (.string (strOf s)) ∧ W.cell? ⟨1, i * 4 + 1, none⟩ = some (.bool a) ∧ W.cell? ⟨1, i * 4 + 2, none⟩ = some (.bool t) ∧ W.cell? ⟨1, i * 4 + 3, none⟩ = some (.bool o) := fun i s a t o hi hr => by
      obtain ⟨e0, e1, e2, e3⟩ := ter_row hd1 i hi s a t o hr
      exact ⟨c1 _ _ e0, c1 _ _ e1, c1 _ _ e2, c1 _ _ e3⟩
    have r1 := row 1 _ _ _ _ (by decide) rfl
    refine ⟨block_of_cell r1.1, fun k h1 h2 => ?_⟩
    have hk : k = 1 ∨ k = 2 ∨ k = 3 := by omega
    rcases hk with rfl | rfl | rfl
    · exact r1
    · exact row 2 _ _ _ _ (by decide) rfl
    · exact row 3 _ _ _ _ (by decide) rfl
set_option maxRecDepth 100000 in
theorem contract (H : Type) (enc : TypeId × Value → H) (W : World) (base : Nat) (args : Array Value) (ds gs : List (DataW H)) (before : List MemPlace)
    (hval : ∀ (j : Nat) t v, Tryd.f3.params[j]? = some t → args[j]? = some v → Value.okWide Tryd.prog W .any base t v)
    (hW : DataW.Whole enc Tryd.prog Tryd.f3.params.toList Rows.fnExactVerdictSpec.vars false W args.toList ds gs before) (hL : laidMetH Tryd.prog Rows.fnExactVerdictRow.laid W) :
    Calls Tryd.prog 3 args W fun e W' => ∃ v, e = .returned v ∧ Rows.fnExactVerdictSpec.post enc Tryd.prog Tryd.f3 false true false false W args v W' := by
  have hW' := hW
  obtain ⟨p, q, hA0, hV, rfl, hfz, hnd⟩ := hW
  have hA : DataW.TrodAll enc Tryd.prog W 0 (fun _ => true) true Tryd.f3.params.toList args.toList ds p := hA0
  rw [Tryd.params3] at hA hval
  obtain ⟨v0, vs0, d0, ds0, p0, q0, hargs, rfl, rfl, h0, r0⟩ := trodAll_cons hA
  obtain ⟨rfl, rfl, rfl⟩ := trodAll_nil r0
  obtain rfl : args = #[v0] := by cases args; simp_all
  clear hA0
  have h0' := h0
  obtain ⟨c0, c1, y0, y1, m, rfl, rfl, rfl, hy0, hy1⟩ := open_agg2 Tryd.underlying24 (by kernel_rfl) (show Tryd.prog.cellsOf 24 = 2 by kernel_rfl) (hval 0 24 v0 rfl rfl) h0
  obtain ⟨val, e0, _, _⟩ := DataW.trod_int Tryd.underlying2 hy0
  obtain ⟨a, xs, c, e1, hlen, hb, hls⟩ := read_blocks hy1
  simp only [List.cons.injEq, and_true] at e0 e1
  subst e0
  subst e1
  obtain ⟨hO, hT⟩ := tables hL
  have hmax : maxLen = 9223372036854775807 := by unfold maxLen; decide
  rw [hmax] at hlen hls
  refine (lawV_any val a xs.length c xs W hb rfl hlen hls hO hT).mono fun e W' ⟨he, hbel⟩ => ?_
  subst he
  obtain ⟨g1, g2, rfl⟩ : ∃ g1 g2, gs = [g1, g2] := by
    match gs, hV with
    | [g1, g2], _ => exact ⟨g1, g2, rfl⟩
    | [], hV => exact hV.elim
    | [_], hV => obtain ⟨_, _, _, _, _, _, _, _, _, _, hV, _⟩ := hV; exact hV.elim
    | _ :: _ :: _ :: _, hV => obtain ⟨_, _, _, _, _, _, _, _, _, _, ⟨_, _, _, _, _, _, _, _, _, _, hV, _⟩, _⟩ := hV; exact hV.elim
  have hlt := hW'.lt
  refine ⟨_, rfl, _, _, _, [], (y0.2 ++ y1.2) ++ [], q, hW', trodAll_cons_mk (shut_bool Tryd.underlying4 _) trodAll_mk0, ?_, ?_, hbel.frame _, fun h => by cases h⟩
  · exact trodAll_cons_mk (Below.trod (by kernel_rfl) (by kernel_rfl) (of_decide_eq_true (by kernel_rfl)) h0' hbel (fun x hx => hlt x (List.mem_append_left _ (List.mem_append_left _ hx)))) trodAll_mk0
  · exact Below.trodVars (by kernel_rfl) hbel (by kernel_rfl) hV
/-- A WORLD FOR THE WITNESS: the heap that the door's own run leaves. -/
theorem laid_met (os : Os) : laidMet Tryd.prog Rows.fnExactVerdictRow.laid ((World.doorLaid Tryd.prog 64 os).forCall (fun _ _ => 0) ⟨#[], #[.agg #[.int .i64 0, .slice none 0 0]], []⟩).memory :=
  laidMet_of_run' 8 (by kernel_rfl) (by kernel_rfl)
theorem reads (os : Os) {H : Type} (enc : TypeId × Value → H) : ∃ gs places, DataW.whole enc Tryd.prog ((World.doorLaid Tryd.prog 64 os).forCall (fun _ _ => 0) ⟨#[], #[.agg #[.int .i64 0, .slice none 0 0]], []⟩).memory Tryd.f3.params.toList Rows.fnExactVerdictSpec.vars false #[Value.agg #[.int .i64 0, .slice none 0 0]].toList 8 = some ([.agg [.lit (.int .i64 0), .nil]], gs, places) :=
  ⟨[Rows.laid_loop_example_s0031_impl_termForms, Rows.laid_loop_example_s0031_impl_opForms], [] ++ (MemPlace.row ⟨1, 0, none⟩ 16 ++ [] ++ (MemPlace.row ⟨0, 0, none⟩ 70 ++ [] ++ [])), by kernel_rfl⟩
set_option maxRecDepth 100000 in
theorem lifted (os : Os) (started : os.Started) (H : Type) (enc : TypeId × Value → H) (F : Stop.Interp) :
    ReturnsInHanded {} Tryd.checked os 3 .any ((OpenSpec.ofChange Rows.fnExactVerdictSpec).preRow enc Tryd.prog Tryd.f3 Rows.fnExactVerdictRow.domain false Rows.fnExactVerdictRow.laid) (((OpenSpec.ofChange Rows.fnExactVerdictSpec).at F).post enc Tryd.prog Tryd.f3 false true false false) := by
  obtain ⟨gs, places, hx⟩ := reads os enc
  refine returnsInHanded_of_row (C := Tryd.checked) (s := OpenSpec.ofChange Rows.fnExactVerdictSpec) own started (by kernel_rfl) Tryd.func3
    (witness_row_at (enc := enc) (C := Tryd.checked) false (World.doorLaid Tryd.prog 64 os) #[.agg #[.int .i64 0, .slice none 0 0]] rfl (by kernel_rfl) (by kernel_rfl) (by kernel_rfl)
      (OpenSpec.preRow_of_cond 8 hx (by kernel_rfl) (fun k hk => by cases hk) (by kernel_rfl) (laid_met os))) ?_
  intro W base args ds gs before hval hW _ _ _ hL _ _
  exact contract H enc W base args ds gs before hval hW hL
theorem said : Rows.FnExactVerdictSaid :=
  OpenClaim.holds_of_cond 3 Tryd.f3 rfl rfl rfl rfl rfl rfl rfl ⟨rfl, rfl, rfl, rfl, rfl⟩ rfl rfl rfl rfl rfl (by kernel_rfl) Tryd.func3 (by kernel_rfl)
    (of_decide_eq_true (by kernel_rfl)) (by unfold Func.isWrapper; first | (rw [if_pos (by decide +kernel)]; kernel_rfl) | (rw [if_neg (by decide +kernel)]; exact ⟨rfl, rfl⟩))
    (fun os started H enc _ F => by rw [OpenClaim.pre_eq_preRow]; exact lifted os started H enc F)
theorem plain (f : FuncId) (fn : Func) (hf : Tryd.pinned.checked.prog.funcNamed "loop.example/s0031/laws.FnExactVerdict" = some f) (hfn : Tryd.pinned.checked.prog.funcs[f]? = some fn) :
    false = Tryd.pinned.checked.prog.looks [] ∧ ∀ (j : Nat) t, fn.params[j]? = some t → Tryd.pinned.checked.prog.wantsStandIn t = false := by
  obtain rfl : f = 3 := Option.some.inj ((show Tryd.prog.funcNamed "loop.example/s0031/laws.FnExactVerdict" = some 3 by kernel_rfl).symm.trans hf) |>.symm
  obtain rfl : fn = Tryd.f3 := (Option.some.inj (Tryd.func3.symm.trans hfn)).symm
  refine ⟨by kernel_rfl, fun j t ht => ?_⟩
  rw [Tryd.params3] at ht
  obtain rfl : t = 24 := by simpa using Array.mem_of_getElem? ht
  exact (show Tryd.prog.wantsStandIn 24 = false by kernel_rfl)
theorem verdict_card : Rows.FnExactVerdictCardSaid :=
  Claim7.holds_tied_plain_at .later [] _ _ _ _ said (fun _ h => by cases h) (by kernel_rfl) (fun _ h => by cases h) fnExactVerdict_row_tie rfl ⟨rfl, rfl⟩ (by kernel_rfl) rfl plain (by kernel_rfl)
#print axioms verdict_card
end
end Go.Proofs.YtanaeindldcapaaDoor
