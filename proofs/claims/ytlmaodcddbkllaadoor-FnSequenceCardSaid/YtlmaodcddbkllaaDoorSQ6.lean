import Derived.Test.YtlmaodcddbkllaaDoorSQ5
import Derived.Maps.Views
import Derived.Maps.OwnOps
import Derived.Maps.RangeWalk
import Derived.Lib.SlKeysI
/-
  Sequence: the program's map of copies, held against a list of moves.
-/
namespace Go.Proofs.YtlmaodcddbkllaaDoor
open Go.RowKit Go.Maps

/-- How a copy reads. -/
def insR (v : Value) : Option (DataW Unit × List MemPlace) := match v with
  | .agg a => match a.toList with
    | [.int .i64 o, .int .i64 d, .int .i64 x, .int .i64 y, .int .i64 i] => some (.agg [.lit (.int .i64 o), .lit (.int .i64 d), .lit (.int .i64 x), .lit (.int .i64 y), .lit (.int .i64 i)], [])
    | _ => none
  | _ => none
def insD (x : Ins) : DataW Unit := .agg [.lit (.int .i64 x.op), .lit (.int .i64 x.dst), .lit (.int .i64 x.a), .lit (.int .i64 x.b), .lit (.int .i64 x.imm)]
def insA (x : Ins) : Value := .agg #[.int .i64 x.op, .int .i64 x.dst, .int .i64 x.a, .int .i64 x.b, .int .i64 x.imm]
theorem insR_mk (x : Ins) : insR (insA x) = some (insD x, []) := rfl
theorem insR_inv {v : Value} {y : DataW Unit × List MemPlace} (h : insR v = some y) : ∃ x, v = insA x ∧ y = (insD x, []) := by
  unfold insR at h
  split at h
  · rename_i a
    split at h
    · rename_i o d p q i he
      cases h
      refine ⟨⟨o, d, p, q, i⟩, ?_, rfl⟩
      cases a
      simp only at he
      subst he
      rfl
    · cases h
  · cases h
theorem insD_inj {x y : Ins} (h : insD x = insD y) : x = y := by
  obtain ⟨a, b, c, d, e⟩ := x
  obtain ⟨a', b', c', d', e'⟩ := y
  simp only [insD, DataW.agg.injEq, List.cons.injEq, DataW.lit.injEq, Lit.int.injEq, true_and, and_true] at h
  obtain ⟨rfl, rfl, rfl, rfl, rfl⟩ := h
  rfl
theorem Tryd.keyI : Keyed Tryd.prog 2 := int_keyed Tryd.underlying2
theorem key_of (t : Int) (h : -9223372036854775808 ≤ t ∧ t ≤ 9223372036854775807) : keyOf Tryd.prog 2 (.int .i64 t) = some (.int .i64 t) := keyOf_int_mk Tryd.underlying2 (WalkArith.wf_i64 h)
theorem keyLit (t : Int) : WideAt.IsKeyLit (.int .i64 t) := by simp [WideAt.IsKeyLit]
/-- The map holds the copies of these moves. -/
structure MapL (D : DataW Unit) (L : List Mv) : Prop where
  tidy : Tidy D
  keys : ∀ k, has D k = true ↔ ∃ m ∈ L, k = .int .i64 m.to
  at_ : ∀ m ∈ L, ∀ z, D.atKey (.int .i64 m.to) z = insD (cpI m)
  size : size D = L.length
theorem MapL.nil : MapL (.map []) [] := ⟨tidy_empty, fun k => by simp [has], (fun m hm => by cases hm), rfl⟩
theorem MapL.has_iff {D : DataW Unit} {L : List Mv} (h : MapL D L) (t : Int) : has D (.int .i64 t) = L.any (fun m => m.to == t) := by
  cases hb : L.any (fun m => m.to == t) with
  | true =>
    obtain ⟨m, hm, e⟩ := List.any_eq_true.1 hb
    exact (h.keys _).2 ⟨m, hm, by rw [show m.to = t by simpa using e]⟩
  | false =>
    cases hh : has D (.int .i64 t) with
    | false => rfl
    | true =>
      obtain ⟨m, hm, e⟩ := (h.keys _).1 hh
      have := List.any_eq_false.1 hb m hm
      simp only [Lit.int.injEq, true_and] at e
      simp [e] at this
theorem MapL.put_new {D : DataW Unit} {L : List Mv} (h : MapL D L) {m : Mv} (hn : L.any (fun q => q.to == m.to) = false) : MapL (D.put (.int .i64 m.to) (insD (cpI m))) (L ++ [m]) := by
  have hne : ∀ q ∈ L, q.to ≠ m.to := fun q hq e => by have := List.any_eq_false.1 hn q hq; simp [e] at this
  refine ⟨h.tidy.put (keyLit _) _, fun k => ?_, fun q hq z => ?_, ?_⟩
  · by_cases e : k = .int .i64 m.to
    · subst e
      exact ⟨fun _ => ⟨m, by simp, rfl⟩, fun _ => has_put_same h.tidy.isMap (keyLit _) _⟩
    · rw [has_put_other e, h.keys k]
      constructor
      · rintro ⟨q, hq, e2⟩; exact ⟨q, List.mem_append_left _ hq, e2⟩
      · rintro ⟨q, hq, e2⟩
        rcases List.mem_append.1 hq with hq | hq
        · exact ⟨q, hq, e2⟩
        · rw [List.mem_singleton.1 hq] at e2; exact absurd e2 e
  · rcases List.mem_append.1 hq with hq | hq
    · rw [atKey_put_other (fun e => hne q hq (by simpa using e))]
      exact h.at_ q hq z
    · rw [List.mem_singleton.1 hq]
      exact atKey_put_same h.tidy.isMap (keyLit _) _ _
  · rw [size_put h.tidy, h.has_iff, hn, h.size]
    simp
theorem MapL.del {D : DataW Unit} {L : List Mv} (h : MapL D L) (hnd : (tosM L).Nodup) (t : Int) : MapL (D.del (.int .i64 t)) (without L t) := by
  have hmem : ∀ q, q ∈ without L t ↔ q ∈ L ∧ q.to ≠ t := fun q => by simp [without]
  refine ⟨h.tidy.del _, fun k => ?_, fun q hq z => ?_, ?_⟩
  · by_cases e : k = .int .i64 t
    · subst e
      rw [has_del_same]
      constructor
      · intro h; cases h
      · rintro ⟨q, hq, e2⟩; exact absurd (by simpa using e2.symm) ((hmem q).1 hq).2
    · rw [has_del_other e, h.keys k]
      constructor
      · rintro ⟨q, hq, e2⟩; exact ⟨q, (hmem q).2 ⟨hq, fun e3 => e (by rw [e2, e3])⟩, e2⟩
      · rintro ⟨q, hq, e2⟩; exact ⟨q, ((hmem q).1 hq).1, e2⟩
  · obtain ⟨h1, h2⟩ := (hmem q).1 hq
    rw [atKey_del_other (fun e => h2 (by simpa using e))]
    exact h.at_ q h1 z
  · have hs := size_del (k := .int .i64 t) h.tidy
    rw [h.has_iff, h.size] at hs
    have key : ∀ (ys : List Mv), (tosM ys).Nodup → (without ys t).length + (if ys.any (fun m => m.to == t) then 1 else 0) = ys.length := by
      intro ys
      induction ys with
      | nil => intro _; rfl
      | cons m ys ih =>
        intro hn
        obtain ⟨h1, h2⟩ := List.nodup_cons.1 hn
        have := ih h2
        unfold without at *
        by_cases e : m.to = t
        · have hno : ys.any (fun m => m.to == t) = false := List.any_eq_false.2 (fun q hq => by
            have : q.to ≠ t := fun e2 => h1 (by show m.to ∈ tosM ys; rw [e, ← e2]; exact List.mem_map.2 ⟨q, hq, rfl⟩)
            simpa using this)
          rw [List.filter_cons_of_neg (by simp [e]), List.any_cons, show (m.to == t) = true by simpa using e, Bool.true_or, if_pos rfl, List.length_cons]
          rw [hno] at this
          simpa using this
        · rw [List.filter_cons_of_pos (by simpa using e), List.any_cons, show (m.to == t) = false by simpa using e, Bool.false_or, List.length_cons, List.length_cons]
          omega
    have := key L hnd
    omega
/-- A copy that is there takes the scratch in its place. -/
def toScratch (L : List Mv) (t : Int) : List Mv := L.map fun m => if m.to = t then ⟨m.to, -1⟩ else m
theorem MapL.put_old {D : DataW Unit} {L : List Mv} (h : MapL D L) {t : Int} (hin : L.any (fun m => m.to == t) = true) : MapL (D.put (.int .i64 t) (insD ⟨13, t, 0, 0, 0⟩)) (toScratch L t) := by
  have hto : ∀ m : Mv, (if m.to = t then (⟨m.to, -1⟩ : Mv) else m).to = m.to := fun m => by split <;> rfl
  refine ⟨h.tidy.put (keyLit _) _, fun k => ?_, fun q hq z => ?_, ?_⟩
  · have hk : (∃ m ∈ toScratch L t, k = .int .i64 m.to) ↔ ∃ m ∈ L, k = .int .i64 m.to := by
      constructor
      · rintro ⟨m, hm, e⟩
        obtain ⟨q, hq, rfl⟩ := List.mem_map.1 hm
        exact ⟨q, hq, by rw [e, hto]⟩
      · rintro ⟨m, hm, e⟩
        exact ⟨_, List.mem_map.2 ⟨m, hm, rfl⟩, by rw [hto]; exact e⟩
    rw [hk]
    by_cases e : k = .int .i64 t
    · subst e
      rw [has_put_same h.tidy.isMap (keyLit _), ← h.keys, h.has_iff, hin]
    · rw [has_put_other e, h.keys]
  · obtain ⟨m, hm, rfl⟩ := List.mem_map.1 hq
    by_cases e : m.to = t
    · rw [if_pos e]
      show (D.put (.int .i64 t) _).atKey (.int .i64 m.to) z = _
      rw [e, atKey_put_same h.tidy.isMap (keyLit _)]
      rfl
    · rw [if_neg e, atKey_put_other (fun e2 => e (by simpa using e2))]
      exact h.at_ m hm z
  · rw [size_put h.tidy, h.has_iff, hin, if_pos rfl, h.size]
    simp [toScratch]
/-- The keys of the map. -/
theorem MapL.perm {D : DataW Unit} {L : List Mv} (h : MapL D L) (hnd : (tosM L).Nodup) (hkl : ∀ es, D = .map es → ∀ p ∈ es, WideAt.IsKeyLit p.1) : (intKeys D).Perm (tosM L) := by
  obtain ⟨es, rfl, hp⟩ := h.tidy
  have hk : ∀ p ∈ es, ∃ m ∈ L, p.1 = .int .i64 m.to := fun p hp' => (h.keys p.1).1 (by
    rw [has_eq]
    exact List.any_eq_true.2 ⟨p, hp', WideAt.sameKey_self (hkl es rfl p hp')⟩)
  have hnd2 : (es.map fun p => intOf p.1).Nodup := by
    unfold List.Nodup
    rw [List.pairwise_map]
    refine hp.imp_of_mem (fun {a b} ha hb hne e => ?_)
    obtain ⟨m1, _, e1⟩ := hk a ha
    obtain ⟨m2, _, e2⟩ := hk b hb
    rw [e1, e2] at e
    exact hne (by rw [e1, e2]; exact congrArg (Lit.int .i64) e)
  refine (List.perm_ext_iff_of_nodup hnd2 hnd).2 (fun t => ?_)
  constructor
  · intro ht
    obtain ⟨p, hp', rfl⟩ := List.mem_map.1 ht
    obtain ⟨m, hm, e⟩ := hk p hp'
    rw [e]
    exact List.mem_map.2 ⟨m, hm, rfl⟩
  · intro ht
    obtain ⟨m, hm, rfl⟩ := List.mem_map.1 ht
    have := (h.keys (.int .i64 m.to)).2 ⟨m, hm, rfl⟩
    rw [has_eq] at this
    obtain ⟨p, hp', e⟩ := List.any_eq_true.1 this
    refine List.mem_map.2 ⟨p, hp', ?_⟩
    rw [WideAt.sameKey_eq e]
    rfl
end Go.Proofs.YtlmaodcddbkllaaDoor
