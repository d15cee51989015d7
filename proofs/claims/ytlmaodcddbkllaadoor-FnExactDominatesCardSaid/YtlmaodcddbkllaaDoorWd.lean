import Derived.Test.YtlmaodcddbkllaaDoorSP0
import Derived.Test.YtlmaodcddbkllaaDoorPure2
import Derived.Test.YtlmaodcddbkllaaDoorE2
import Derived.Test.YtlmaodcddbkllaaDoorW5
/-
  l1Word of the model.
-/
namespace Go.Proofs.YtlmaodcddbkllaaDoor
open Go.RowKit

def wordS (op : Int) : List UInt8 :=
  if op = 1 then [99, 111, 110, 115, 116] else if op = 2 then [97, 114, 103] else if op = 3 then [97, 100, 100] else if op = 4 then [115, 117, 98] else if op = 5 then [109, 117, 108]
  else if op = 6 then [100, 105, 118] else if op = 7 then [108, 101, 115, 115] else if op = 8 then [108, 111, 97, 100] else if op = 9 then [115, 116, 111, 114, 101] else if op = 11 then [109, 111, 118, 101] else if op = 12 then [112, 117, 116] else if op = 13 then [103, 101, 116] else [111, 117, 116]

set_option maxHeartbeats 1000000 in
theorem l1Word_any (op : Int) (h : 1 ≤ op ∧ op ≤ 13) (w : World) :
    Calls Tryd.prog 190 #[.int .i64 op] w fun e w' => e = .returned (.string (strOf (wordS op))) ∧ w' = w := by
  have hc : op = 1 ∨ op = 2 ∨ op = 3 ∨ op = 4 ∨ op = 5 ∨ op = 6 ∨ op = 7 ∨ op = 8 ∨ op = 9 ∨ op = 10 ∨ op = 11 ∨ op = 12 ∨ op = 13 := by omega
  rcases hc with rfl | rfl | rfl | rfl | rfl | rfl | rfl | rfl | rfl | rfl | rfl | rfl | rfl
  all_goals
    clear h
    go_enter Tryd.func190, Tryd.ntmps190
    go_wp2
    go_ret
    exact ⟨rfl, rfl⟩
end Go.Proofs.YtlmaodcddbkllaaDoor

/-
  l1Word and l1PutTerm of the model.
-/
namespace Go.Proofs.YtlmaodcddbkllaaDoor
open Go.RowKit

/-- The end of a block as a line. -/
def termS (t : Ter) : List UInt8 :=
  if t.kind = 1 then lineS [106, 117, 109, 112] [t.to] else if t.kind = 3 then lineS [114, 101, 116] [t.a] else lineS [98, 114, 97, 110, 99, 104] [t.a, t.to, t.els]

/-- Numbers that a call has just laid down. -/
theorem ints_lit (w : World) (vs : List Int) : IntsAt (w.alloc (.cells (vs.map (Value.int .i64)).toArray 2)) w.heap.size (w.heap.size + 1) (some ⟨w.heap.size, 0, none⟩) vs := fun i hi =>
  ⟨_, 0, rfl, ⟨Nat.le_refl _, Nat.lt_succ_self _⟩, by simp [hi]⟩
theorem lit_any (B : Nat) (u : Value) (xs word : List UInt8) (vs : List Int) (o : Obj) (w : World) (hB : B ≤ w.heap.size)
    (ho : Hid (w.ownsRow B 5 1 u xs.length (bytesV xs))) (hn : Hid (u ≠ .slice none 0 0)) (hlen : Hid (xs.length + (lineS word vs).length ≤ 1000000000000))
    (hin : ∀ v ∈ vs, -9223372036854775807 ≤ v ∧ v ≤ 9223372036854775807) :
    Calls Tryd.prog 141 #[u, .string (strOf word), .slice (some ⟨w.heap.size + 1, 0, none⟩) vs.length vs.length] ((w.alloc o).alloc (.cells (vs.map (Value.int .i64)).toArray 2)) fun e w' =>
      ∃ v, e = .returned v ∧ Gr w w' u v ∧ v ≠ .slice none 0 0 ∧ w'.ownsRow B 5 1 v (xs ++ lineS word vs).length (bytesV (xs ++ lineS word vs)) := by
  have hI := ints_lit (w.alloc o) vs
  have hz : (w.alloc o).heap.size = w.heap.size + 1 := by simp
  rw [hz] at hI
  refine (putLine_any B u xs word _ _ vs.length vs (w.heap.size + 1) (w.heap.size + 1 + 1) _ (by simp; omega) (hide ((ho.out.alloc _).alloc _)) hn hlen (hide hI) (by simp) (hide (fun g hg => Or.inl (by have := (ho.out.lt g hg).2; omega))) (hide rfl) (hide hin)).mono ?_
  rintro e w' ⟨v, rfl, h1, h2, h3⟩
  exact ⟨v, rfl, (((Gr.refl _ _).alloc _).alloc _).trans h1, h2, h3⟩

set_option maxHeartbeats 400000 in
set_option maxRecDepth 100000 in
theorem putTerm_any (B : Nat) (u : Value) (xs : List UInt8) (t : Ter) (w : World) (hB : B ≤ w.heap.size) (hk : t.kind = 1 ∨ t.kind = 2 ∨ t.kind = 3)
    (ho : Hid (w.ownsRow B 5 1 u xs.length (bytesV xs))) (hn : Hid (u ≠ .slice none 0 0)) (hlen : Hid (xs.length + (termS t).length ≤ 1000000000000))
    (hin : Hid (∀ v ∈ [t.a, t.to, t.els], -9223372036854775807 ≤ v ∧ v ≤ 9223372036854775807)) :
    Calls Tryd.prog 143 #[u, .agg #[.int .i64 t.kind, .int .i64 t.a, .int .i64 t.to, .int .i64 t.els]] w fun e w' => ∃ v, e = .returned v ∧ Gr w w' u v ∧ v ≠ .slice none 0 0 ∧ w'.ownsRow B 5 1 v (xs ++ termS t).length (bytesV (xs ++ termS t)) := by
  obtain ⟨kind, ta, to, els⟩ := t
  simp only at hk hin ⊢
  rcases hk with rfl | rfl | rfl
  · go_enter Tryd.func143, Tryd.ntmps143
    go_wp2_with (go_at_call 141; refine (lit_any B u xs [106, 117, 109, 112] [to] _ w hB ho hn hlen (fun v h => hin.out v (by simp at h ⊢; omega))).mono ?_; rintro e w1 ⟨x1, rfl, hg1, hn1, ho1⟩)
    have HG := hide hg1
    have HN := hide hn1
    have HO := hide ho1
    clear hg1 hn1 ho1
    go_wp2
    go_ret
    exact ⟨_, rfl, HG.out, HN.out, HO.out⟩
  · go_enter Tryd.func143, Tryd.ntmps143
    go_wp2_with (go_at_call 141; refine (lit_any B u xs [98, 114, 97, 110, 99, 104] [ta, to, els] _ w hB ho hn hlen (fun v h => hin.out v (by simp at h ⊢; omega))).mono ?_; rintro e w1 ⟨x1, rfl, hg1, hn1, ho1⟩)
    have HG := hide hg1
    have HN := hide hn1
    have HO := hide ho1
    clear hg1 hn1 ho1
    go_wp2
    go_ret
    exact ⟨_, rfl, HG.out, HN.out, HO.out⟩
  · go_enter Tryd.func143, Tryd.ntmps143
    go_wp2_with (go_at_call 141; refine (lit_any B u xs [114, 101, 116] [ta] _ w hB ho hn hlen (fun v h => hin.out v (by simp at h ⊢; omega))).mono ?_; rintro e w1 ⟨x1, rfl, hg1, hn1, ho1⟩)
    have HG := hide hg1
    have HN := hide hn1
    have HO := hide ho1
    clear hg1 hn1 ho1
    go_wp2
    go_ret
    exact ⟨_, rfl, HG.out, HN.out, HO.out⟩
end Go.Proofs.YtlmaodcddbkllaaDoor
