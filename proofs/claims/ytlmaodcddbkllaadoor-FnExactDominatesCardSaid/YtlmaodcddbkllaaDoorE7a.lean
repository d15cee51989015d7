import Derived.Test.YtlmaodcddbkllaaDoorE5
import Derived.Laws.OwnMore
/-
  l1Raw of the model.
-/
namespace Go.Proofs.YtlmaodcddbkllaaDoor
open Go.RowKit

/-- A line of numbers that were laid down last. -/
theorem lit0_any (B : Nat) (u : Value) (xs word : List UInt8) (vs : List Int) (s : Nat) (W : World) (hs : s = W.heap.size) (hB : B ≤ W.heap.size)
    (ho : Hid (W.ownsRow B 5 1 u xs.length (bytesV xs))) (hn : Hid (u ≠ .slice none 0 0)) (hlen : Hid (xs.length + (lineS word vs).length ≤ 1000000000000))
    (hin : ∀ v ∈ vs, -9223372036854775807 ≤ v ∧ v ≤ 9223372036854775807) :
    Calls Tryd.prog 141 #[u, .string (strOf word), .slice (some ⟨s, 0, none⟩) vs.length vs.length] (W.alloc (.cells (vs.map (Value.int .i64)).toArray 2)) fun e w' =>
      ∃ v, e = .returned v ∧ Gr W w' u v ∧ v ≠ .slice none 0 0 ∧ w'.ownsRow B 5 1 v (xs ++ lineS word vs).length (bytesV (xs ++ lineS word vs)) := by
  subst hs
  refine (putLine_any B u xs word _ _ vs.length vs W.heap.size (W.heap.size + 1) _ (by simp; omega) (hide (ho.out.alloc _)) hn hlen (hide (ints_lit W vs)) (by simp) (hide (fun g hg => Or.inl (by have := (ho.out.lt g hg).2; omega))) (hide rfl) (hide hin)).mono ?_
  rintro e w' ⟨v, rfl, h1, h2, h3⟩
  exact ⟨v, rfl, ((Gr.refl _ _).alloc _).trans h1, h2, h3⟩
theorem own_emptyB (w : World) (o : Obj) : ((w.alloc o).alloc (.cells #[] 5)).ownsRow (w.heap.size + 1) 5 1 (.slice (some ⟨w.heap.size + 1, 0, none⟩) 0 0) 0 [] := by
  have := World.ownsRow_lit (base := w.heap.size + 1) (e := 5) (size := 1) (w.alloc o) #[] 0 (by simp) (by simp) rfl
  simpa using this
end Go.Proofs.YtlmaodcddbkllaaDoor

/-
  append(own row of numbers, a slice of numbers), the slice nil or not.
-/
namespace Go.Proofs.YtlmaodcddbkllaaDoor
open Go.RowKit

theorem run_append_own_nilC {P : Program} {w : World} (base : Nat) (t ty e : TypeId) (i : TypeInfo) (size : Nat) (ht : P.underlying t = some (.slice e)) (hi : P.info? e = some i)
    (v : Value) (n c : Nat) (xs : List Value) (hown : w.ownsRow base e size v n xs) :
    (Builtin.append_ #[t, t] ty #[v, .slice none 0 c]).run P w = .ok v w := by
  rcases hown.2 with ⟨rfl, rfl⟩ | ⟨g, cap, cur, rfl, _, _, hnc, _⟩
  · simp [Builtin.append_, run_underlying ht, sizeOf, typeInfo, hi, Builtin.lenOf, Builtin.firstCells]
  · simp [Builtin.append_, run_underlying ht, sizeOf, typeInfo, hi, Builtin.lenOf, Builtin.firstCells, hnc, storeCells]

theorem ints_news {w : World} {L B : Nat} {ad : Addr} {qs : List Int} (hv : IntsAt w L B (some ad) qs) : ∀ j u, (qs.map (Value.int .i64))[j]? = some u → w.cell? (ad.add j) = some u := by
  intro j u hj
  have hl : j < qs.length := by
    rcases Nat.lt_or_ge j qs.length with h | h
    · exact h
    · rw [List.getElem?_eq_none (by simpa using h)] at hj; cases hj
  obtain ⟨b, o, e, -, hc⟩ := hv j hl
  cases e
  rw [List.getElem?_map, List.getElem?_eq_getElem hl] at hj
  cases hj
  rw [Addr.add_lit]
  exact hc

theorem wp_append_ints {P : Program} {w : World} {o : Oper} {a : Act} {K : Act → World → Prop} {Q : Exit → Act → World → Prop} (s x : Operand) (t : TypeId)
    (ho : o.op = .call { callee := .builtin .append, args := #[s, x], argTypes := #[t, t] })
    (base : Nat) (e : TypeId) (i : TypeInfo) (ht : P.underlying t = some (.slice e)) (hi : P.info? e = some i) (hz : i.zero = some (.int .i64 0))
    (hsize : i.size = 1) (hby : i.bytes = 8)
    (v : Value) (xs : List Int) (hs : a.eval s = v) (hown : w.ownsRow base e 1 v xs.length (xs.map (Value.int .i64))) (hn : v ≠ .slice none 0 0)
    (ad : Option Addr) (m c : Nat) (qs : List Int) (L B : Nat) (hx : a.eval x = .slice ad m c) (hm : m = qs.length) (hv : IntsAt w L B ad qs)
    (hbytes : xs.length + m ≤ 1000000000000) (hbase : base ≤ w.heap.size)
    (h : ∀ v' w', w'.ownsRow base e 1 v' (xs ++ qs).length ((xs ++ qs).map (Value.int .i64)) → Gr w w' v v' → v' ≠ .slice none 0 0 → K (a.put o.dst v') w') :
    o.wp P a w K Q := by
  cases ad with
  | none =>
    have has : qs = [] := by
      cases qs with
      | nil => rfl
      | cons x r => obtain ⟨_, _, e, _⟩ := hv 0 (by simp); cases e
    subst has
    subst hm
    have hrun := run_append_own_nilC (P := P) (w := w) base t o.type e i 1 ht hi v xs.length c _ hown
    unfold Oper.wp execOp
    simp only [ho, resolve, invoke, builtin, Sem.run_bind, Sem.run_pure, Result.andThen_ok, List.map_toArray, List.map_cons, List.map_nil, hs, hx, List.length_nil, hrun]
    exact h v w (by simpa using hown) (Gr.refl _ _) hn
  | some ad =>
    obtain ⟨v', w', hr, h1, h2, h3, h4⟩ := run_append_own_at (P := P) w base t o.type e i (.int .i64 0) 1 8 ht hi hz hsize hby rfl (by decide) v xs.length _ hown ad m c (qs.map (Value.int .i64)) (by simp [hm]) (ints_news hv) (by intro u hu; obtain ⟨z, -, rfl⟩ := List.mem_map.1 hu; rfl) (by unfold maxLen; omega) (by omega) hbase
    unfold Oper.wp execOp
    simp only [ho, resolve, invoke, builtin, Sem.run_bind, Sem.run_pure, Result.andThen_ok, List.map_toArray, List.map_cons, List.map_nil, hs, hx, hr]
    refine h v' w' (by rw [List.length_append, List.map_append, ← hm]; exact h1) ⟨h2, fun g hg => ?_⟩ (fun e => hn (h3.1 e).1)
    rcases h4 with h4 | h4
    · exact Or.inr (h4 ▸ hg)
    · rw [h4] at hg; cases hg; exact Or.inl (Nat.le_refl _)
/-- The same as one step of a region that draws. -/
theorem step_append_ints {P : Program} {ops : Array Oper} {w : World} {o : Oper} {a : Act} {K : Act → World → Prop} {Q : Exit → Act → World → Prop} {E : Prop} (hgd : o.guard = none) (s x : Operand) (t : TypeId)
    (ho : o.op = .call { callee := .builtin .append, args := #[s, x], argTypes := #[t, t] })
    (base : Nat) (e : TypeId) (i : TypeInfo) (ht : P.underlying t = some (.slice e)) (hi : P.info? e = some i) (hz : i.zero = some (.int .i64 0))
    (hsize : i.size = 1) (hby : i.bytes = 8)
    (v : Value) (xs : List Int) (hs : a.eval s = v) (hown : w.ownsRow base e 1 v xs.length (xs.map (Value.int .i64))) (hn : v ≠ .slice none 0 0)
    (ad : Option Addr) (m c : Nat) (qs : List Int) (L B : Nat) (hx : a.eval x = .slice ad m c) (hm : m = qs.length) (hv : IntsAt w L B ad qs)
    (hbytes : xs.length + m ≤ 1000000000000) (hbase : base ≤ w.heap.size)
    (h : ∀ v' w', w'.ownsRow base e 1 v' (xs ++ qs).length ((xs ++ qs).map (Value.int .i64)) → Gr w w' v v' → v' ≠ .slice none 0 0 → K (a.put o.dst v') w') :
    if Region.wanted o (yielded ops a.tmps) = true then Oper.wp P o a w K Q else E := by
  have hw : Region.wanted o (yielded ops a.tmps) = true := by simp [Region.wanted, hgd]
  rw [if_pos hw]
  exact wp_append_ints s x t ho base e i ht hi hz hsize hby v xs hs hown hn ad m c qs L B hx hm hv hbytes hbase h
end Go.Proofs.YtlmaodcddbkllaaDoor
