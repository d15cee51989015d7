import Derived.Test.YtlmaodcddbkllaaDoorSL1
import Derived.Maps.Views
import Derived.Maps.OwnOps
import Derived.Maps.RangeWalk
import Derived.Lib.SlKeysI
/-
  Sequence: the model's Sequence.
-/
namespace Go.Proofs.YtlmaodcddbkllaaDoor
open Go.RowKit

set_option maxHeartbeats 2000000 in
set_option maxRecDepth 100000 in
theorem seqS_any (a : Option Addr) (n c : Nat) (xs : List Mv) (L B : Nat) (w : World) (ha : Hid (MvsAt w L B a xs)) (hx : Hid (n = xs.length)) (hn : n ≤ 1048576) (hB : B ≤ w.heap.size) :
    Calls Tryd.prog 41 #[.slice a n c] w fun e w' => ∃ v, e = .returned v ∧ v ≠ .slice none 0 0 ∧ Below w.heap.size w w' ∧ w'.ownsRow w.heap.size 44 5 v (seqM xs).length (inV (seqM xs)) := by
  have HG : Hid (Calls Tryd.prog 100 #[.slice a n c] w fun e w' => e = .returned (.bool (goodM xs)) ∧ Below w.heap.size w w') := hide (goodMoves_any a n c xs L B w ha hx hn hB)
  cases hg : goodM xs with
  | false =>
    have HS : Hid (seqM xs = []) := hide (by unfold seqM; rw [hg]; rfl)
    rw [hg] at HG
    clear hg
    go_enter Tryd.func41, Tryd.ntmps41
    go_wp2_with (go_at_call 100; refine HG.out.mono ?_; rintro e w1 ⟨rfl, hb1⟩)
    go_ret
    refine ⟨_, rfl, by simp, bnext hb1 (balloc (Below.refl _ _) _), ?_⟩
    rw [HS.out]
    exact own_base (own_in0 w1) hb1.size
  | true =>
    obtain ⟨h64, hgood⟩ := goodM_good hg
    have HS : Hid (seqM xs = emitM (2 * (startM xs).length) (startM xs)) := hide (by unfold seqM; rw [if_pos hg])
    have HOK := hide hgood.start.1
    have hn64 : n ≤ 64 := by have := hx.out; omega
    rw [hg] at HG
    clear hg hgood h64
    obtain ⟨j0, hj0, hjz0, hjz1, hjz2⟩ := info_parts Tryd.infoMv
    go_enter Tryd.func41, Tryd.ntmps41
    go_wp2_with (go_at_call 100; refine HG.out.mono ?_; rintro e w1 ⟨rfl, hb1⟩; have HB1 := hide hb1; have s1 := hb1.size; clear hb1)
    go_loopw [3, 4] (fun v u wr => ∃ q : Nat, q ≤ n ∧ u = .int .i64 q ∧ Hid (Below w.heap.size w wr) ∧ Hid (wr.ownsRow w.heap.size 58 2 v (startM (xs.take q)).length (mvV (startM (xs.take q))))) (fun _ u _ => n - (intOf u).toNat)
    case atStart => exact ⟨0, Nat.zero_le _, rfl, hide (HB1.out.alloc s1 _), hide (by rw [List.take_zero]; exact own_base (own_mv0 w1) s1)⟩
    case round =>
      obtain ⟨q, hq, rfl, HB2, HO⟩ := hrel
      have hwz := HB2.out.size
      by_cases hlt : q < n
      · have hqx : q < xs.length := by have := hx.out; omega
        obtain ⟨b, o, rfl, hbB, e0w, e1w⟩ := ha.out q hqx
        have e0 := (HB2.out.cell (p := ⟨b, o + q * 2, none⟩) (by show b < _; omega)).trans e0w
        have e1 := (HB2.out.cell (p := ⟨b, o + q * 2 + 1, none⟩) (by show b < _; omega)).trans e1w
        have HT : Hid (startM (xs.take (q + 1)) = startM (xs.take q) ++ (if xs[q].to = xs[q].frm then [] else [xs[q]])) := hide (by
          unfold startM
          rw [List.take_succ_eq_append_getElem hqx, List.filter_append]
          congr 1
          by_cases h : xs[q].to = xs[q].frm
          · rw [if_pos h, List.filter_cons_of_neg (by simp [h])]; rfl
          · rw [if_neg h, List.filter_cons_of_pos (by simpa using h)]; rfl)
        have HL : Hid ((startM (xs.take q)).length ≤ 64) := hide (Nat.le_trans (List.length_filter_le _ _) (by simp; omega))
        clear e0w e1w
        generalize hm : xs[q] = m at *
        obtain ⟨t, f⟩ := m
        dsimp only at *
        clear hm
        generalize startM (xs.take q) = ys at *
        by_cases hf : t = f
        · rw [if_pos hf, List.append_nil] at HT
          subst hf
          go_wp2
          go_region
          go_wp2
          exact ⟨⟨q + 1, by omega, by go_num, hide HB2.out.drew, hide (by rw [HT.out]; exact HO.out)⟩, by simp [intOf]; omega⟩
        · rw [if_neg hf] at HT
          have hfb : (t == f) = false := by simpa using hf
          go_wp2
          go_region
          go_wp2_with (at_builtin; refine wpList_append_own_at _ rfl _ _ 54 rfl w.heap.size 58 j0 (.agg #[.int .i64 0, .int .i64 0]) 2 16 Tryd.underlying54 hj0 hjz0 hjz1 hjz2 rfl (by decide) _ _ _ rfl (World.ownsRow.alloc (w := wr.drew) HO.out _) ⟨wr.heap.size, 0, none⟩ 1 1 [.int .i64 t, .int .i64 f] rfl rfl ?c1 ?c2 ?c3 ?c4 ?c5 ?_)
          case c1 => exact mv_news wr.drew _ _ _
          case c2 => intro u hu; simp at hu; rcases hu with rfl | rfl <;> rfl
          case c3 => have := HL.out; unfold maxLen; omega
          case c4 => have := HL.out; omega
          case c5 => simp; omega
          intro v1 w2 hown1 hgrow1 hne1 hat1
          have HO1 : Hid (w2.ownsRow w.heap.size 58 2 v1 (startM (xs.take (q + 1))).length (mvV (startM (xs.take (q + 1))))) := hide (by
            rw [HT.out, mvV_app, List.length_append]; exact hown1)
          have HB3 : Hid (Below w.heap.size w w2) := hide (grown_below ((HB2.out.drew).alloc (by show w.heap.size ≤ wr.heap.size; omega) _) hgrow1 (World.ownsRow.alloc (w := wr.drew) HO.out _) (Nat.le_refl _) (by simp; omega))
          clear hown1 hgrow1 hne1 hat1 HO HB2 HT
          go_wp2
          exact ⟨⟨q + 1, by omega, by go_num, HB3, HO1⟩, by simp [intOf]; omega⟩
      · have hqn : q = n := by omega
        have HO2 : Hid (wr.ownsRow w.heap.size 58 2 u3 (startM xs).length (mvV (startM xs))) := hide (by have := HO.out; rwa [List.take_of_length_le (by have := hx.out; omega)] at this)
        have hyl : (startM xs).length ≤ 64 := Nat.le_trans (List.length_filter_le _ _) (by have := hx.out; omega)
        clear HO
        generalize startM xs = ys at *
        obtain ⟨a4, k4, hu3, -, hk4, hm4⟩ := mvs_owned HO2.out
        have HM4 := hide hm4
        subst hu3
        clear hm4 HO2
        go_wp2_with fail
        have C7 := l4Emit_any (2 * ys.length) a4 ys.length k4 ys _ _ wr HM4 (hide rfl) HOK hyl (by omega) (Nat.le_refl _)
        rw [show ((2 * ys.length : Nat) : Int) = 2 * (ys.length : Int) by omega] at C7
        refine C7.mono ?_
        rintro e w7 ⟨v7, rfl, hn7, hb7, ho7⟩
        have HO7 := hide ho7
        have HB7 := hide (bnext HB2.out hb7)
        have HN7 := hide hn7
        clear ho7 hb7 hn7 C7
        go_wp2
        go_ret
        refine ⟨_, rfl, HN7.out, HB7.out, ?_⟩
        rw [HS.out]
        exact own_base HO7.out (by omega)
end Go.Proofs.YtlmaodcddbkllaaDoor

/-
  Sequence: the program's map of copies, held against a list of moves.
-/
namespace Go.Proofs.YtlmaodcddbkllaaDoor
open Go.RowKit Go.Maps

/-- How a copy reads. -/
def insR (v : Value) : Option (DataW Unit × List MemPlace) := match v with
  | .agg a => match a.toList with
    | [.int .i64 o, .int .i64 d, .int .i64 x, .int .i64 y, .int .i64 i] => some (.agg [.lit (.int .i64 o), .lit (.int .i64 d), .lit (.int .i64 x), .lit (.int .i64 y), .lit (.int .i64 i)], [])
    | _ => none
  | _ => none
def insD (x : Ins) : DataW Unit := .agg [.lit (.int .i64 x.op), .lit (.int .i64 x.dst), .lit (.int .i64 x.a), .lit (.int .i64 x.b), .lit (.int .i64 x.imm)]
def insA (x : Ins) : Value := .agg #[.int .i64 x.op, .int .i64 x.dst, .int .i64 x.a, .int .i64 x.b, .int .i64 x.imm]
theorem insR_mk (x : Ins) : insR (insA x) = some (insD x, []) := rfl
theorem insR_inv {v : Value} {y : DataW Unit × List MemPlace} (h : insR v = some y) : ∃ x, v = insA x ∧ y = (insD x, []) := by
  unfold insR at h
  split at h
  · rename_i a
    split at h
    · rename_i o d p q i he
      cases h
      refine ⟨⟨o, d, p, q, i⟩, ?_, rfl⟩
      cases a
      simp only at he
      subst he
      rfl
    · cases h
  · cases h
theorem insD_inj {x y : Ins} (h : insD x = insD y) : x = y := by
  obtain ⟨a, b, c, d, e⟩ := x
  obtain ⟨a', b', c', d', e'⟩ := y
  simp only [insD, DataW.agg.injEq, List.cons.injEq, DataW.lit.injEq, Lit.int.injEq, true_and, and_true] at h
  obtain ⟨rfl, rfl, rfl, rfl, rfl⟩ := h
  rfl
theorem Tryd.keyI : Keyed Tryd.prog 2 := int_keyed Tryd.underlying2
theorem key_of (t : Int) (h : -9223372036854775808 ≤ t ∧ t ≤ 9223372036854775807) : keyOf Tryd.prog 2 (.int .i64 t) = some (.int .i64 t) := keyOf_int_mk Tryd.underlying2 (WalkArith.wf_i64 h)
theorem keyLit (t : Int) : WideAt.IsKeyLit (.int .i64 t) := by simp [WideAt.IsKeyLit]
/-- The map holds the copies of these moves. -/
structure MapL (D : DataW Unit) (L : List Mv) : Prop where
  tidy : Tidy D
  keys : ∀ k, has D k = true ↔ ∃ m ∈ L, k = .int .i64 m.to
  at_ : ∀ m ∈ L, ∀ z, D.atKey (.int .i64 m.to) z = insD (cpI m)
  size : size D = L.length
theorem MapL.nil : MapL (.map []) [] := ⟨tidy_empty, fun k => by simp [has], (fun m hm => by cases hm), rfl⟩
theorem MapL.has_iff {D : DataW Unit} {L : List Mv} (h : MapL D L) (t : Int) : has D (.int .i64 t) = L.any (fun m => m.to == t) := by
  cases hb : L.any (fun m => m.to == t) with
  | true =>
    obtain ⟨m, hm, e⟩ := List.any_eq_true.1 hb
    exact (h.keys _).2 ⟨m, hm, by rw [show m.to = t by simpa using e]⟩
  | false =>
    cases hh : has D (.int .i64 t) with
    | false => rfl
    | true =>
      obtain ⟨m, hm, e⟩ := (h.keys _).1 hh
      have := List.any_eq_false.1 hb m hm
      simp only [Lit.int.injEq, true_and] at e
      simp [e] at this
theorem MapL.put_new {D : DataW Unit} {L : List Mv} (h : MapL D L) {m : Mv} (hn : L.any (fun q => q.to == m.to) = false) : MapL (D.put (.int .i64 m.to) (insD (cpI m))) (L ++ [m]) := by
  have hne : ∀ q ∈ L, q.to ≠ m.to := fun q hq e => by have := List.any_eq_false.1 hn q hq; simp [e] at this
  refine ⟨h.tidy.put (keyLit _) _, fun k => ?_, fun q hq z => ?_, ?_⟩
  · by_cases e : k = .int .i64 m.to
    · subst e
      exact ⟨fun _ => ⟨m, by simp, rfl⟩, fun _ => has_put_same h.tidy.isMap (keyLit _) _⟩
    · rw [has_put_other e, h.keys k]
      constructor
      · rintro ⟨q, hq, e2⟩; exact ⟨q, List.mem_append_left _ hq, e2⟩
      · rintro ⟨q, hq, e2⟩
        rcases List.mem_append.1 hq with hq | hq
        · exact ⟨q, hq, e2⟩
        · rw [List.mem_singleton.1 hq] at e2; exact absurd e2 e
  · rcases List.mem_append.1 hq with hq | hq
    · rw [atKey_put_other (fun e => hne q hq (by simpa using e))]
      exact h.at_ q hq z
    · rw [List.mem_singleton.1 hq]
      exact atKey_put_same h.tidy.isMap (keyLit _) _ _
  · rw [size_put h.tidy, h.has_iff, hn, h.size]
    simp
theorem MapL.del {D : DataW Unit} {L : List Mv} (h : MapL D L) (hnd : (tosM L).Nodup) (t : Int) : MapL (D.del (.int .i64 t)) (without L t) := by
  have hmem : ∀ q, q ∈ without L t ↔ q ∈ L ∧ q.to ≠ t := fun q => by simp [without]
  refine ⟨h.tidy.del _, fun k => ?_, fun q hq z => ?_, ?_⟩
  · by_cases e : k = .int .i64 t
    · subst e
      rw [has_del_same]
      constructor
      · intro h; cases h
      · rintro ⟨q, hq, e2⟩; exact absurd (by simpa using e2.symm) ((hmem q).1 hq).2
    · rw [has_del_other e, h.keys k]
      constructor
      · rintro ⟨q, hq, e2⟩; exact ⟨q, (hmem q).2 ⟨hq, fun e3 => e (by rw [e2, e3])⟩, e2⟩
      · rintro ⟨q, hq, e2⟩; exact ⟨q, ((hmem q).1 hq).1, e2⟩
  · obtain ⟨h1, h2⟩ := (hmem q).1 hq
    rw [atKey_del_other (fun e => h2 (by simpa using e))]
    exact h.at_ q h1 z
  · have hs := size_del (k := .int .i64 t) h.tidy
    rw [h.has_iff, h.size] at hs
    have key : ∀ (ys : List Mv), (tosM ys).Nodup → (without ys t).length + (if ys.any (fun m => m.to == t) then 1 else 0) = ys.length := by
      intro ys
      induction ys with
      | nil => intro _; rfl
      | cons m ys ih =>
        intro hn
        obtain ⟨h1, h2⟩ := List.nodup_cons.1 hn
        have := ih h2
        unfold without at *
        by_cases e : m.to = t
        · have hno : ys.any (fun m => m.to == t) = false := List.any_eq_false.2 (fun q hq => by
            have : q.to ≠ t := fun e2 => h1 (by show m.to ∈ tosM ys; rw [e, ← e2]; exact List.mem_map.2 ⟨q, hq, rfl⟩)
            simpa using this)
          rw [List.filter_cons_of_neg (by simp [e]), List.any_cons, show (m.to == t) = true by simpa using e, Bool.true_or, if_pos rfl, List.length_cons]
          rw [hno] at this
          simpa using this
        · rw [List.filter_cons_of_pos (by simpa using e), List.any_cons, show (m.to == t) = false by simpa using e, Bool.false_or, List.length_cons, List.length_cons]
          omega
    have := key L hnd
    omega
/-- A copy that is there takes the scratch in its place. -/
def toScratch (L : List Mv) (t : Int) : List Mv := L.map fun m => if m.to = t then ⟨m.to, -1⟩ else m
theorem MapL.put_old {D : DataW Unit} {L : List Mv} (h : MapL D L) {t : Int} (hin : L.any (fun m => m.to == t) = true) : MapL (D.put (.int .i64 t) (insD ⟨13, t, 0, 0, 0⟩)) (toScratch L t) := by
  have hto : ∀ m : Mv, (if m.to = t then (⟨m.to, -1⟩ : Mv) else m).to = m.to := fun m => by split <;> rfl
  refine ⟨h.tidy.put (keyLit _) _, fun k => ?_, fun q hq z => ?_, ?_⟩
  · have hk : (∃ m ∈ toScratch L t, k = .int .i64 m.to) ↔ ∃ m ∈ L, k = .int .i64 m.to := by
      constructor
      · rintro ⟨m, hm, e⟩
        obtain ⟨q, hq, rfl⟩ := List.mem_map.1 hm
        exact ⟨q, hq, by rw [e, hto]⟩
      · rintro ⟨m, hm, e⟩
        exact ⟨_, List.mem_map.2 ⟨m, hm, rfl⟩, by rw [hto]; exact e⟩
    rw [hk]
    by_cases e : k = .int .i64 t
    · subst e
      rw [has_put_same h.tidy.isMap (keyLit _), ← h.keys, h.has_iff, hin]
    · rw [has_put_other e, h.keys]
  · obtain ⟨m, hm, rfl⟩ := List.mem_map.1 hq
    by_cases e : m.to = t
    · rw [if_pos e]
      show (D.put (.int .i64 t) _).atKey (.int .i64 m.to) z = _
      rw [e, atKey_put_same h.tidy.isMap (keyLit _)]
      rfl
    · rw [if_neg e, atKey_put_other (fun e2 => e (by simpa using e2))]
      exact h.at_ m hm z
  · rw [size_put h.tidy, h.has_iff, hin, if_pos rfl, h.size]
    simp [toScratch]
/-- The keys of the map. -/
theorem MapL.perm {D : DataW Unit} {L : List Mv} (h : MapL D L) (hnd : (tosM L).Nodup) (hkl : ∀ es, D = .map es → ∀ p ∈ es, WideAt.IsKeyLit p.1) : (intKeys D).Perm (tosM L) := by
  obtain ⟨es, rfl, hp⟩ := h.tidy
  have hk : ∀ p ∈ es, ∃ m ∈ L, p.1 = .int .i64 m.to := fun p hp' => (h.keys p.1).1 (by
    rw [has_eq]
    exact List.any_eq_true.2 ⟨p, hp', WideAt.sameKey_self (hkl es rfl p hp')⟩)
  have hnd2 : (es.map fun p => intOf p.1).Nodup := by
    unfold List.Nodup
    rw [List.pairwise_map]
    refine hp.imp_of_mem (fun {a b} ha hb hne e => ?_)
    obtain ⟨m1, _, e1⟩ := hk a ha
    obtain ⟨m2, _, e2⟩ := hk b hb
    rw [e1, e2] at e
    exact hne (by rw [e1, e2]; exact congrArg (Lit.int .i64) e)
  refine (List.perm_ext_iff_of_nodup hnd2 hnd).2 (fun t => ?_)
  constructor
  · intro ht
    obtain ⟨p, hp', rfl⟩ := List.mem_map.1 ht
    obtain ⟨m, hm, e⟩ := hk p hp'
    rw [e]
    exact List.mem_map.2 ⟨m, hm, rfl⟩
  · intro ht
    obtain ⟨m, hm, rfl⟩ := List.mem_map.1 ht
    have := (h.keys (.int .i64 m.to)).2 ⟨m, hm, rfl⟩
    rw [has_eq] at this
    obtain ⟨p, hp', e⟩ := List.any_eq_true.1 this
    refine List.mem_map.2 ⟨p, hp', ?_⟩
    rw [WideAt.sameKey_eq e]
    rfl
end Go.Proofs.YtlmaodcddbkllaaDoor
