import Derived.Test.YtdcdgopblbmgoaaGreatDoorCards
import Derived.Test.YtdcdgopblbmgoaaGreatDoorTie
import Derived.Test.YtdcdgopblbmgoaaGreatDoorLP2
import Derived.ProofKit
import Derived.OpenShut
import Derived.OpenVars
import Derived.LaidMore
import Derived.LaidHandle
import Derived.Lay
import Derived.Deep.DeepHandedRow
import Derived.Lib.LaidTab
namespace Go.Proofs.YtdcdgopblbmgoaaGreatDoor
open Go.ChangeShapes Go.WideShapes Go.ChangeAt Go.RowKit Go.Joins

theorem own : ownKnob Tryz.prog.godebug = none := by kernel_rfl
theorem gOps : Tryz.prog.globalNamed "loop.example/s0031/impl.opForms" = some 1 := by kernel_rfl
theorem gTers : Tryz.prog.globalNamed "loop.example/s0031/impl.termForms" = some 2 := by kernel_rfl
theorem tOps : (Tryz.prog.globals[1]?).map (·.type) = some 114 := by kernel_rfl
theorem tTers : (Tryz.prog.globals[2]?).map (·.type) = some 117 := by kernel_rfl
theorem cells_op : Tryz.prog.cellsOf 113 = 5 := by kernel_rfl
theorem cells_ter : Tryz.prog.cellsOf 116 = 4 := by kernel_rfl
theorem cells_bool : Tryz.prog.cellsOf 4 = 1 := by kernel_rfl
theorem cells_str : Tryz.prog.cellsOf 9 = 1 := by kernel_rfl

theorem take1 {cs : List Value} {k : Nat} {v : Value} (h : (cs.drop k).take 1 = [v]) : cs[k]? = some v := by
  have h1 : ((cs.drop k).take 1)[0]? = some v := by rw [h]; rfl
  rw [List.getElem?_take_of_lt (by omega), List.getElem?_drop] at h1
  simpa using h1
theorem drop_take {cs : List Value} {k m j : Nat} {v : Value} (h : ((cs.drop k).take m)[j]? = some v) (hj : j < m) : cs[k + j]? = some v := by
  rw [List.getElem?_take_of_lt hj, List.getElem?_drop] at h
  exact h

variable {H : Type} {enc : TypeId × Value → H} {w : World} {base : Nat} {spare : Nat → Bool} {held : Bool}

theorem bool_at {n k : Nat} {cs : List Value} {y : DataW H × List MemPlace} {b : Bool} (h : DataW.trod enc Tryz.prog w base spare held n 4 ((cs.drop k).take (Tryz.prog.cellsOf 4)) = some y) (e : y.1 = .lit (.bool b)) : cs[k]? = some (.bool b) := by
  rw [cells_bool] at h
  obtain ⟨z, h1, h2⟩ := DataW.trod_bool Tryz.underlying4 h
  rw [h2] at e
  cases e
  exact take1 h1
theorem str_at {n k : Nat} {cs : List Value} {y : DataW H × List MemPlace} {s : List UInt8} (h : DataW.trod enc Tryz.prog w base spare held n 9 ((cs.drop k).take (Tryz.prog.cellsOf 9)) = some y) (e : y.1 = .lit (.string s)) : cs[k]? = some (.string (strOf s)) := by
  rw [cells_str] at h
  obtain ⟨z, h1, h2, _⟩ := DataW.trod_string Tryz.underlying9 h
  rw [h2] at e
  have e1 : z.data.toList = s := by simpa using e
  have e2 : strOf s = z := by rw [← e1]; cases z; rfl
  rw [e2]
  exact take1 h1
/-- A field's reading, with its datum. -/
theorem fld_is {P : Program} {fs : Array Field} {xs : List (DataW H × List MemPlace)} {n : Nat} {cs : List Value}
    (hf : ∀ (i : Nat) (f : Field), fs[i]? = some f → DataW.trod enc P w base spare held n f.type ((cs.drop f.offset).take (P.cellsOf f.type)) = xs[i]?) (hlen : xs.length = fs.size) (i : Nat) {f : Field} (hi : fs[i]? = some f) {ds : List (DataW H)} (hd : xs.map (·.1) = ds) {d : DataW H} (he : ds[i]? = some d) :
    ∃ y, DataW.trod enc P w base spare held n f.type ((cs.drop f.offset).take (P.cellsOf f.type)) = some y ∧ y.1 = d := by
  have h1 := hf i f hi
  have h2 : i < xs.length := by rw [hlen]; exact (Array.getElem?_eq_some_iff.1 hi).1
  rw [List.getElem?_eq_getElem h2] at h1
  refine ⟨_, h1, ?_⟩
  have h3 : (xs.map (·.1))[i]? = some d := by rw [hd]; exact he
  rw [List.getElem?_map, List.getElem?_eq_getElem h2] at h3
  simpa using h3
theorem dt {cs : List Value} {k m j : Nat} {v : Value} (h : ((cs.drop k).take m)[j]? = some v) (hj : j < m) : cs[k + j]? = some v := drop_take h hj

theorem op_row {n : Nat} {cs : List Value} {rows : List (DataW H)} {p : List MemPlace} (h : DataW.trod enc Tryz.prog w base spare held n 114 cs = some (.agg rows, p)) (i : Nat) (hi : i < 14) (s : List UInt8) (d a b m : Bool)
    (hr : rows[i]? = some (.agg [.lit (.string s), .lit (.bool d), .lit (.bool a), .lit (.bool b), .lit (.bool m)])) :
    cs[i * 5]? = some (.string (strOf s)) ∧ cs[i * 5 + 1]? = some (.bool d) ∧ cs[i * 5 + 2]? = some (.bool a) ∧ cs[i * 5 + 3]? = some (.bool b) ∧ cs[i * 5 + 4]? = some (.bool m) := by
  obtain ⟨xs, k, _, hx, _, hlen, hel⟩ := DataW.trod_array Tryz.underlying114 h
  have h1 := hel i hi
  rw [List.getElem?_eq_getElem (by omega), cells_op] at h1
  simp only [Prod.mk.injEq, DataW.agg.injEq] at hx
  have h2 : (xs[i]'(by omega)).1 = .agg [.lit (.string s), .lit (.bool d), .lit (.bool a), .lit (.bool b), .lit (.bool m)] := by
    have : (xs.map (·.1))[i]? = some (.agg [.lit (.string s), .lit (.bool d), .lit (.bool a), .lit (.bool b), .lit (.bool m)]) := by rw [← hx.1]; exact hr
    rw [List.getElem?_map, List.getElem?_eq_getElem (by omega)] at this
    simpa using this
  obtain ⟨ys, k2, _, hy, _, hlen2, hf⟩ := DataW.trod_struct Tryz.underlying113 h1
  rw [hy] at h2
  simp only [DataW.agg.injEq] at h2
  obtain ⟨y0, g0, e0⟩ := fld_is hf hlen2 0 rfl h2 rfl
  obtain ⟨y1, g1, e1⟩ := fld_is hf hlen2 1 rfl h2 rfl
  obtain ⟨y2, g2, e2⟩ := fld_is hf hlen2 2 rfl h2 rfl
  obtain ⟨y3, g3, e3⟩ := fld_is hf hlen2 3 rfl h2 rfl
  obtain ⟨y4, g4, e4⟩ := fld_is hf hlen2 4 rfl h2 rfl
  exact ⟨dt (j := 0) (str_at (k := 0) g0 e0) (by decide), dt (bool_at (k := 1) g1 e1) (by decide), dt (bool_at (k := 2) g2 e2) (by decide), dt (bool_at (k := 3) g3 e3) (by decide), dt (bool_at (k := 4) g4 e4) (by decide)⟩

theorem ter_row {n : Nat} {cs : List Value} {rows : List (DataW H)} {p : List MemPlace} (h : DataW.trod enc Tryz.prog w base spare held n 117 cs = some (.agg rows, p)) (i : Nat) (hi : i < 4) (s : List UInt8) (a t o : Bool)
    (hr : rows[i]? = some (.agg [.lit (.string s), .lit (.bool a), .lit (.bool t), .lit (.bool o)])) :
    cs[i * 4]? = some (.string (strOf s)) ∧ cs[i * 4 + 1]? = some (.bool a) ∧ cs[i * 4 + 2]? = some (.bool t) ∧ cs[i * 4 + 3]? = some (.bool o) := by
  obtain ⟨xs, k, _, hx, _, hlen, hel⟩ := DataW.trod_array Tryz.underlying117 h
  have h1 := hel i hi
  rw [List.getElem?_eq_getElem (by omega), cells_ter] at h1
  simp only [Prod.mk.injEq, DataW.agg.injEq] at hx
  have h2 : (xs[i]'(by omega)).1 = .agg [.lit (.string s), .lit (.bool a), .lit (.bool t), .lit (.bool o)] := by
    have : (xs.map (·.1))[i]? = some (.agg [.lit (.string s), .lit (.bool a), .lit (.bool t), .lit (.bool o)]) := by rw [← hx.1]; exact hr
    rw [List.getElem?_map, List.getElem?_eq_getElem (by omega)] at this
    simpa using this
  obtain ⟨ys, k2, _, hy, _, hlen2, hf⟩ := DataW.trod_struct Tryz.underlying116 h1
  rw [hy] at h2
  simp only [DataW.agg.injEq] at h2
  obtain ⟨y0, g0, e0⟩ := fld_is hf hlen2 0 rfl h2 rfl
  obtain ⟨y1, g1, e1⟩ := fld_is hf hlen2 1 rfl h2 rfl
  obtain ⟨y2, g2, e2⟩ := fld_is hf hlen2 2 rfl h2 rfl
  obtain ⟨y3, g3, e3⟩ := fld_is hf hlen2 3 rfl h2 rfl
  exact ⟨dt (j := 0) (str_at (k := 0) g0 e0) (by decide), dt (bool_at (k := 1) g1 e1) (by decide), dt (bool_at (k := 2) g2 e2) (by decide), dt (bool_at (k := 3) g3 e3) (by decide)⟩

theorem gErr : Tryz.prog.globalNamed "errors.errorType" = some 0 := by kernel_rfl
theorem rtRow : (Tryz.prog.cutTypes.find? (·.1 == "internal/reflectlite.rtype")).map (·.2) = some 121 := by kernel_rfl
theorem oneRow : ((List.range (314 - 100)).filter fun t => Tryz.prog.rowNamed t [101, 114, 114, 111, 114]) = [57] := by kernel_rfl
theorem typesSize : Tryz.prog.types.size = 314 - 100 := by kernel_rfl
theorem errT {W : World} (h : handlesMet Tryz.prog [("errors.errorType", Rows.laid_errors_errorType)] W) : ErrT W := by
  obtain ⟨name, u, ty, e1, e2, e3, e4, e5⟩ := h _ (List.mem_singleton.2 rfl)
  have en : name = [101, 114, 114, 111, 114] := (Option.some.inj e1).symm
  subst en
  obtain rfl := Option.some.inj (rtRow.symm.trans e2)
  have hm : ty ∈ (List.range (314 - 100)).filter fun t => Tryz.prog.rowNamed t [101, 114, 114, 111, 114] := List.mem_filter.2 ⟨List.mem_range.2 (by rw [← typesSize]; exact e3), e4⟩
  rw [oneRow] at hm
  obtain rfl := List.mem_singleton.1 hm
  have hh : typeHandle Tryz.prog 57 = .pointer (some ⟨6, 57, none⟩) := by kernel_rfl
  rw [hh] at e5
  have q := World.var?_cell gErr e5 0
  unfold ErrT
  rw [q]
  rfl
/-- WHAT THE ROW's LIST GIVES: the two tables, and the type error. -/
theorem tables {W : World} (h : laidMetH Tryz.prog Rows.fnExactParseFuncRow.laid W) : OpTabW W ∧ TerTabW W ∧ ErrT W := by
  have h' : laidMet Tryz.prog [("unicode/utf8.acceptRanges", Rows.laid_unicode_utf8_acceptRanges), ("loop.example/s0031/impl.opForms", Rows.laid_loop_example_s0031_impl_opForms), ("loop.example/s0031/impl.termForms", Rows.laid_loop_example_s0031_impl_termForms), ("unicode/utf8.first", Rows.laid_unicode_utf8_first)] W ∧ handlesMet Tryz.prog [("errors.errorType", Rows.laid_errors_errorType)] W := h
  obtain ⟨ps, ⟨_, _, _, _, _, _, _, _, _, _, ⟨g0, t0, cs0, f0, p0, q0, hg0, ht0, hv0, hd0, ⟨g1, t1, cs1, f1, p1, q1, hg1, ht1, hv1, hd1, _, _⟩, _⟩, _⟩, _, _⟩ := h'.1
  obtain rfl := Option.some.inj (gOps.symm.trans hg0)
  obtain rfl := Option.some.inj (gTers.symm.trans hg1)
  obtain rfl := Option.some.inj (tOps.symm.trans ht0)
  obtain rfl := Option.some.inj (tTers.symm.trans ht1)
  have c0 : ∀ j v, cs0.toList[j]? = some v → W.cell? ⟨1, j, none⟩ = some v := fun j v hv => by
    have := World.var?_cell hg0 hv0 j
    rw [this]
    simpa using hv
  have c1 : ∀ j v, cs1.toList[j]? = some v → W.cell? ⟨2, j, none⟩ = some v := fun j v hv => by
    have := World.var?_cell hg1 hv1 j
    rw [this]
    simpa using hv
  refine ⟨?_, ?_, errT h'.2⟩
  · have row : ∀ i s d a b m, i < 14 → ((match Rows.laid_loop_example_s0031_impl_opForms (H := Unit) with | .agg l => l | _ => []) : List (DataW Unit))[i]? = some (.agg [.lit (.string s), .lit (.bool d), .lit (.bool a), .lit (.bool b), .lit (.bool m)]) →
        W.cell? ⟨1, i * 5, none⟩ = some (.string (strOf s)) ∧ W.cell? ⟨1, i * 5 + 1, none⟩ = some (.bool d) ∧ W.cell? ⟨1, i * 5 + 2, none⟩ = some (.bool a) ∧ W.cell? ⟨1, i * 5 + 3, none⟩ = some (.bool b) ∧ W.cell? ⟨1, i * 5 + 4, none⟩ = some (.bool m) := fun i s d a b m hi hr => by
      obtain ⟨e0, e1, e2, e3, e4⟩ := op_row hd0 i hi s d a b m hr
      exact ⟨c0 _ _ e0, c0 _ _ e1, c0 _ _ e2, c0 _ _ e3, c0 _ _ e4⟩
    have r1 := row 1 _ _ _ _ _ (by decide) rfl
    refine ⟨block_of_cell r1.1, fun k h1 h2 => ?_⟩
    have hk : k = 1 ∨ k = 2 ∨ k = 3 ∨ k = 4 ∨ k = 5 ∨ k = 6 ∨ k = 7 ∨ k = 8 ∨ k = 9 ∨ k = 10 ∨ k = 11 ∨ k = 12 ∨ k = 13 := by omega
    rcases hk with rfl | rfl | rfl | rfl | rfl | rfl | rfl | rfl | rfl | rfl | rfl | rfl | rfl
    · exact r1
    · exact row 2 _ _ _ _ _ (by decide) rfl
    · exact row 3 _ _ _ _ _ (by decide) rfl
    · exact row 4 _ _ _ _ _ (by decide) rfl
    · exact row 5 _ _ _ _ _ (by decide) rfl
    · exact row 6 _ _ _ _ _ (by decide) rfl
    · exact row 7 _ _ _ _ _ (by decide) rfl
    · exact row 8 _ _ _ _ _ (by decide) rfl
    · exact row 9 _ _ _ _ _ (by decide) rfl
    · exact row 10 _ _ _ _ _ (by decide) rfl
    · exact row 11 _ _ _ _ _ (by decide) rfl
    · exact row 12 _ _ _ _ _ (by decide) rfl
    · exact row 13 _ _ _ _ _ (by decide) rfl
  · have row : ∀ i s a t o, i < 4 → ((match Rows.laid_loop_example_s0031_impl_termForms (H := Unit) with | .agg l => l | _ => []) : List (DataW Unit))[i]? = some (.agg [.lit (.string s), .lit (.bool a), .lit (.bool t), .lit (.bool o)]) →
        W.cell? ⟨2, i * 4, none⟩ = some (.string (strOf s)) ∧ W.cell? ⟨2, i * 4 + 1, none⟩ = some (.bool a) ∧ W.cell? ⟨2, i * 4 + 2, none⟩ = some (.bool t) ∧ W.cell? ⟨2, i * 4 + 3, none⟩ = some (.bool o) := fun i s a t o hi hr => by
      obtain ⟨e0, e1, e2, e3⟩ := ter_row hd1 i hi s a t o hr
      exact ⟨c1 _ _ e0, c1 _ _ e1, c1 _ _ e2, c1 _ _ e3⟩
    have r1 := row 1 _ _ _ _ (by decide) rfl
    refine ⟨block_of_cell r1.1, fun k h1 h2 => ?_⟩
    have hk : k = 1 ∨ k = 2 ∨ k = 3 := by omega
    rcases hk with rfl | rfl | rfl
    · exact r1
    · exact row 2 _ _ _ _ (by decide) rfl
    · exact row 3 _ _ _ _ (by decide) rfl

theorem int_of_ok {P : Program} {W : World} {r : Reach} {base : Nat} {t : TypeId} {v : Value} (ht : P.underlying t = some (.int .i64)) (ho : Cell.ok P W r base t v) : ∃ n, v = .int .i64 n := by
  unfold Cell.ok at ho
  rw [ht] at ho
  cases v with
  | int k n =>
    obtain ⟨rfl, _⟩ := ho
    exact ⟨n, rfl⟩
  | _ => exact ho.elim
set_option maxRecDepth 100000 in
/-- The variable of internal/bytealg holds some number. -/
theorem maxL {W : World} (h : W.ShapedOpen Tryz.prog) : MaxL W := by
  obtain ⟨cs, hh, hs, hb⟩ := h.1 3 #[.int .i64 0] 3 (by decide +kernel) (by kernel_rfl)
  obtain ⟨ts, hts, _, hc⟩ := hb (by kernel_rfl)
  have e : ts = [3] := Option.some.inj (hts.symm.trans (by kernel_rfl))
  subst e
  have h1 : 0 < cs.size := by rw [hs]; decide
  obtain ⟨u, hu, ho⟩ := hc 0 cs[0] (by simp [h1])
  have eu : 3 = u := by simpa using hu
  subst eu
  obtain ⟨n, hn⟩ := int_of_ok (P := Tryz.prog) (t := 3) Tryz.underlying3 ho
  have hcell : W.cell? ⟨3, 0, none⟩ = some cs[0] := by simp [World.cell?, hh, h1]
  exact ⟨World.block_lt_of_cell? W _ hcell, n, by rw [hcell, hn]⟩

theorem cells_byte : Tryz.prog.cellsOf 5 = 1 := by kernel_rfl
theorem read_bytes {n : Nat} {cs : List Value} {d : DataW H × List MemPlace} (h : DataW.trod enc Tryz.prog w base spare held n 22 cs = some d) :
    ∃ (a : Option Addr) (xs : List UInt8) (c : Nat), cs = [.slice a xs.length c] ∧ xs.length ≤ maxLen ∧ BytesAt w 0 w.heap.size a xs := by
  obtain ⟨a, xs, c, h1, h2, h3⟩ := read_slice (α := UInt8) (s := 1) Tryz.underlying22 cells_byte (by decide) (fun b o x => w.cell? ⟨b, o, none⟩ = some (.int .u8 (x.toNat : Int))) (fun b o cs' n d hc hl hd => by
    obtain ⟨z, hz, _, hwf⟩ := DataW.trod_int Tryz.underlying5 hd
    have hr : 0 ≤ z ∧ z < 256 := by
      simp [Lit.wf, IntKind.min, IntKind.max, IntKind.signed, IntKind.bits] at hwf
      omega
    refine ⟨UInt8.ofNat z.toNat, ?_⟩
    have := hc 0 (by decide)
    rw [hz] at this
    have e2 : ((UInt8.ofNat z.toNat).toNat : Int) = z := by
      rw [UInt8.toNat_ofNat']
      omega
    rw [e2]
    simpa using this) h
  refine ⟨a, xs, c, h1, h2, fun i hi => ?_⟩
  obtain ⟨b, o, e, hb, hq⟩ := h3 i hi
  exact ⟨b, o, e, ⟨Nat.zero_le _, hb⟩, by simpa using hq⟩

set_option maxRecDepth 100000 in
theorem contract (H : Type) (enc : TypeId × Value → H) (W : World) (base : Nat) (args : Array Value) (ds gs : List (DataW H)) (before : List MemPlace)
    (hval : ∀ (j : Nat) t v, Tryz.f3.params[j]? = some t → args[j]? = some v → Value.okWide Tryz.prog W .any base t v)
    (hW : DataW.Whole enc Tryz.prog Tryz.f3.params.toList Rows.fnExactParseFuncSpec.vars false W args.toList ds gs before) (hL : laidMetH Tryz.prog Rows.fnExactParseFuncRow.laid W) (hS : W.ShapedOpen Tryz.prog) :
    Calls Tryz.prog 3 args W fun e W' => ∃ v, e = .returned v ∧ Rows.fnExactParseFuncSpec.post enc Tryz.prog Tryz.f3 false true false false W args v W' := by
  have hW' := hW
  obtain ⟨p, q, hA0, hV, rfl, hfz, hnd⟩ := hW
  have hA : DataW.TrodAll enc Tryz.prog W 0 (fun _ => true) true Tryz.f3.params.toList args.toList ds p := hA0
  rw [Tryz.params3] at hA hval
  obtain ⟨v0, vs0, d0, ds0, p0, q0, hargs, rfl, rfl, h0, r0⟩ := trodAll_cons hA
  obtain ⟨rfl, rfl, rfl⟩ := trodAll_nil r0
  obtain rfl : args = #[v0] := by cases args; simp_all
  clear hA0
  have h0' := h0
  obtain ⟨a1, l1, k1, rfl⟩ := okWide_slice Tryz.underlying22 (hval 0 22 v0 rfl rfl)
  obtain ⟨f1, t1⟩ := h0
  obtain ⟨b1, ys1, m1, e1, hlen1, hi1⟩ := read_bytes t1
  have q1 : Value.slice a1 l1 k1 = .slice b1 ys1.length m1 := by simpa [Value.cells] using e1
  injection q1 with q11 q12 q13
  subst q11 q12 q13
  obtain ⟨hO, hT, hE⟩ := tables hL
  have hM := maxL hS
  have hmax : maxLen = 9223372036854775807 := by unfold maxLen; decide
  rw [hmax] at hlen1
  refine (lawParse_any a1 ys1.length k1 ys1 W hi1 rfl hlen1 hO hT hM hE).mono fun e W' ⟨he, hbel⟩ => ?_
  subst he
  obtain ⟨g1, g2, rfl⟩ : ∃ g1 g2, gs = [g1, g2] := by
    match gs, hV with
    | [g1, g2], _ => exact ⟨g1, g2, rfl⟩
    | [], hV => exact hV.elim
    | [_], hV => obtain ⟨_, _, _, _, _, _, _, _, _, _, hV, _⟩ := hV; exact hV.elim
    | _ :: _ :: _ :: _, hV => obtain ⟨_, _, _, _, _, _, _, _, _, _, ⟨_, _, _, _, _, _, _, _, _, _, hV, _⟩, _⟩ := hV; exact hV.elim
  have hlt := hW'.lt
  refine ⟨_, rfl, _, _, _, [], p0 ++ [], q, hW', trodAll_cons_mk (shut_bool Tryz.underlying4 _) trodAll_mk0, ?_, ?_, hbel.frame _, fun h => by cases h⟩
  · exact trodAll_cons_mk (Below.trod (by kernel_rfl) (by kernel_rfl) (of_decide_eq_true (by kernel_rfl)) h0' hbel (fun x hx => hlt x (List.mem_append_left _ (List.mem_append_left _ hx)))) trodAll_mk0
  · exact Below.trodVars (by kernel_rfl) hbel (by kernel_rfl) hV
end Go.Proofs.YtdcdgopblbmgoaaGreatDoor

namespace Go.Proofs.YtdcdgopblbmgoaaGreatDoor
open Go.ChangeShapes Go.WideShapes Go.ChangeAt Go.RowKit Go.Joins

/-- What is laid by the function: all but the handle. -/
def plainLaid : List (String × DataW Unit) := [("unicode/utf8.acceptRanges", Rows.laid_unicode_utf8_acceptRanges), ("loop.example/s0031/impl.opForms", Rows.laid_loop_example_s0031_impl_opForms), ("loop.example/s0031/impl.termForms", Rows.laid_loop_example_s0031_impl_termForms), ("unicode/utf8.first", Rows.laid_unicode_utf8_first)]
/-- The handle of the type error, laid into a world. -/
def withErr (w : World) : World := { w with heap := w.heap.modify 0 fun
  | .cells _ t frozen => .cells #[.iface 121 (.agg #[.pointer (some ⟨6, 57, none⟩)])] t frozen
  | o => o }
theorem wit_os (os : Os) : ((withErr (World.holding Tryz.prog os ⟨#[], #[], []⟩)).layVars Tryz.prog plainLaid).os = os := World.layVars_os _ _ _
theorem wit_laid (os : Os) : laidMetH Tryz.prog Rows.fnExactParseFuncRow.laid (((withErr (World.holding Tryz.prog os ⟨#[], #[], []⟩)).layVars Tryz.prog plainLaid).forCall (fun _ _ => 0) ⟨#[], #[.slice none 0 0], []⟩).memory := by
  refine laidMetH_of_parts ?_ (by kernel_rfl)
  have e1 : (plainLaid.filter fun x => (plainLaid.map (·.1)).contains x.1) = plainLaid := List.filter_eq_self.2 fun x hx => List.contains_iff_mem.2 (List.mem_map.2 ⟨x, hx, rfl⟩)
  have e2 : (plainLaid.filter fun x => !(plainLaid.map (·.1)).contains x.1) = [] := List.filter_eq_nil_iff.2 fun x hx => by rw [List.contains_iff_mem.2 (List.mem_map.2 ⟨x, hx, rfl⟩)]; simp
  have h : laidMet Tryz.prog plainLaid ((withErr (World.holding Tryz.prog os ⟨#[], #[], []⟩)).layVars Tryz.prog plainLaid) := laidMet_layVars (w0 := withErr (World.holding Tryz.prog os ⟨#[], #[], []⟩)) (plainLaid.map (·.1)) [] (by rw [e1]) (by rw [e1]; kernel_rfl) (by rw [e1]; kernel_rfl) (by rw [e2]; exact LaidIn.none)
  exact h.of_heap (by simp [World.memory, World.forCall, Input.heap])
theorem wit_reads (os : Os) {H : Type} (enc : TypeId × Value → H) : ∃ gs places, DataW.whole enc Tryz.prog (((withErr (World.holding Tryz.prog os ⟨#[], #[], []⟩)).layVars Tryz.prog plainLaid).forCall (fun _ _ => 0) ⟨#[], #[.slice none 0 0], []⟩).memory Tryz.f3.params.toList Rows.fnExactParseFuncSpec.vars false #[Value.slice none 0 0].toList 8 = some ([.nil], gs, places) :=
  ⟨[Rows.laid_loop_example_s0031_impl_opForms, Rows.laid_loop_example_s0031_impl_termForms], [] ++ (MemPlace.row ⟨1, 0, none⟩ 70 ++ [] ++ (MemPlace.row ⟨2, 0, none⟩ 16 ++ [] ++ [])), by kernel_rfl⟩

set_option maxRecDepth 100000 in
theorem lifted (os : Os) (started : os.Started) (H : Type) (enc : TypeId × Value → H) (F : Stop.Interp) :
    ReturnsInHanded {} Tryz.checked os 3 .any ((OpenSpec.ofChange Rows.fnExactParseFuncSpec).preRow enc Tryz.prog Tryz.f3 Rows.fnExactParseFuncRow.domain false Rows.fnExactParseFuncRow.laid) (((OpenSpec.ofChange Rows.fnExactParseFuncSpec).at F).post enc Tryz.prog Tryz.f3 false true false false) := by
  obtain ⟨gs, places, hx⟩ := wit_reads os enc
  have hok : Input.okWideB Tryz.prog (((withErr (World.holding Tryz.prog os ⟨#[], #[], []⟩)).layVars Tryz.prog plainLaid).forCall (fun _ _ => 0) ⟨#[], #[.slice none 0 0], []⟩) 3 ⟨#[], #[.slice none 0 0], []⟩ = true := by kernel_rfl
  refine returnsInHanded_of_row (C := Tryz.checked) (s := OpenSpec.ofChange Rows.fnExactParseFuncSpec) own started (by kernel_rfl) Tryz.func3
    ⟨(withErr (World.holding Tryz.prog os ⟨#[], #[], []⟩)).layVars Tryz.prog plainLaid, fun _ _ => 0, ⟨#[], #[.slice none 0 0], []⟩, wit_os os, World.shaped_of_ZipB (by kernel_rfl) (by kernel_rfl), (Input.okWide_of_okWideB (base := 0) hok).1, (Input.okWide_of_okWideB hok).2,
      OpenSpec.preRow_of_cond 8 hx (by kernel_rfl) (fun k hk => by cases hk) (by kernel_rfl) (wit_laid os), by simp [Assume.holds]⟩ ?_
  intro W base args ds gs before hval hW _ _ _ hL hS _
  exact contract H enc W base args ds gs before hval hW hL hS

theorem said : Rows.FnExactParseFuncSaid :=
  OpenClaim.holds_of_cond 3 Tryz.f3 rfl rfl rfl rfl rfl rfl rfl ⟨rfl, rfl, rfl, rfl, rfl⟩ rfl rfl rfl rfl rfl (by kernel_rfl) Tryz.func3 (by kernel_rfl)
    (of_decide_eq_true (by kernel_rfl)) (by unfold Func.isWrapper; first | (rw [if_pos (by decide +kernel)]; kernel_rfl) | (rw [if_neg (by decide +kernel)]; exact ⟨rfl, rfl⟩))
    (fun os started H enc _ F => by rw [OpenClaim.pre_eq_preRow]; exact lifted os started H enc F)

theorem plain (f : FuncId) (fn : Func) (hf : Tryz.pinned.checked.prog.funcNamed "loop.example/s0031/laws.FnExactParseFunc" = some f) (hfn : Tryz.pinned.checked.prog.funcs[f]? = some fn) :
    true = Tryz.pinned.checked.prog.looks [] ∧ ∀ (j : Nat) t, fn.params[j]? = some t → Tryz.pinned.checked.prog.wantsStandIn t = false := by
  obtain rfl : f = 3 := Option.some.inj ((show Tryz.prog.funcNamed "loop.example/s0031/laws.FnExactParseFunc" = some 3 by kernel_rfl).symm.trans hf) |>.symm
  obtain rfl : fn = Tryz.f3 := (Option.some.inj (Tryz.func3.symm.trans hfn)).symm
  refine ⟨by kernel_rfl, fun j t ht => ?_⟩
  rw [Tryz.params3] at ht
  obtain rfl : t = 22 := by simpa using Array.mem_of_getElem? ht
  exact (show Tryz.prog.wantsStandIn 22 = false by kernel_rfl)

theorem parseFunc_card : Rows.FnExactParseFuncCardSaid :=
  Claim7.holds_tied_plain_at .later [] _ _ _ _ said (fun _ h => by cases h) (by kernel_rfl) (fun _ h => by cases h) fnExactParseFunc_row_tie rfl ⟨rfl, rfl⟩ (by kernel_rfl) rfl plain (by kernel_rfl)
#print axioms parseFunc_card
end Go.Proofs.YtdcdgopblbmgoaaGreatDoor
