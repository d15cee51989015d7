import Derived.Test.YtlmaodcddbkllaaDoorW6b
namespace Go.Proofs.YtlmaodcddbkllaaDoor
open Go.RowKit

def hasI (xs : List Int) (x : Int) : Bool := xs.contains x

set_option maxHeartbeats 400000 in
theorem l1Has_any (a : Option Addr) (n c : Nat) (x : Int) (xs : List Int) (L B : Nat) (w : World) (ha : Hid (IntsAt w L B a xs)) (hx : Hid (n = xs.length)) (hn : n ≤ 1048576) :
    Calls Tryd.prog 57 #[.slice a n c, .int .i64 x] w fun e w' => e = .returned (.bool (hasI xs x)) ∧ w' = w := by
  go_enter Tryd.func57, Tryd.ntmps57
  go_wp2
  go_loop [5] (fun i => ∃ k : Nat, k ≤ n ∧ i = .int .i64 k ∧ Hid (∀ j (h : j < xs.length), j < k → xs[j] ≠ x)) (fun i => n - (intOf i).toNat)
  case atStart => exact ⟨0, Nat.zero_le _, rfl, fun j hj h => absurd h (by omega)⟩
  case round =>
    obtain ⟨k, hk, rfl, hno⟩ := hrel
    by_cases hlt : k < n
    · have hkx : k < xs.length := by have := hx.out; omega
      obtain ⟨b, o, rfl, _, hc⟩ := ha.out k hkx
      by_cases he : xs[k] = x
      · have hb : (xs[k] == x) = true := by simp [he]
        have HE := hide he
        clear he
        go_wp2
        go_ret
        exact ⟨ret_bool (by unfold hasI; rw [eq_comm, List.contains_iff_mem, ← HE.out]; exact List.getElem_mem hkx), rfl⟩
      · have hb : (xs[k] == x) = false := by simp [he]
        have HE := hide he
        clear he
        go_wp2
        go_round
        case rel => exact ⟨k + 1, by omega, by go_num, fun j hj h => if e : j = k then by subst e; exact HE.out else hno.out j hj (by omega)⟩
        case measure => simp [intOf]; omega
    · go_wp2
      go_ret
      exact ⟨ret_bool (by
        rw [eq_comm, Bool.eq_false_iff]
        intro hc
        obtain ⟨j, hj, e⟩ := List.getElem_of_mem (List.contains_iff_mem.1 (show xs.contains x = true from hc))
        exact hno.out j hj (by have := hx.out; omega) e), rfl⟩

theorem targets_has (t : Ter) (b : Int) : t.targets.contains b = true ↔ (t.kind = 1 ∧ t.to = b) ∨ (t.kind = 2 ∧ (t.to = b ∨ t.els = b)) := by
  unfold Ter.targets
  by_cases h1 : t.kind = 1
  · rw [if_pos h1]
    simp only [h1, true_and, List.contains_iff_mem, List.mem_singleton]
    constructor
    · intro h; exact Or.inl h.symm
    · rintro (h | ⟨h, _⟩)
      · exact h.symm
      · omega
  · rw [if_neg h1]
    by_cases h2 : t.kind = 2
    · rw [if_pos h2]
      simp only [h2, true_and, List.contains_iff_mem, List.mem_cons, List.not_mem_nil, or_false]
      constructor
      · rintro (h | h)
        · exact Or.inr (Or.inl h.symm)
        · exact Or.inr (Or.inr h.symm)
      · rintro (⟨h, _⟩ | h | h)
        · omega
        · exact Or.inl h.symm
        · exact Or.inr h.symm
    · rw [if_neg h2]
      simp [h1, h2]

theorem predsFrom_snoc (x : Blk) (b : Int) : ∀ (xs : List Blk) (i : Nat), predsFrom (xs ++ [x]) i b = predsFrom xs i b ++ (if x.term.targets.contains b then [((i + xs.length : Nat) : Int)] else [])
  | [], i => by simp [predsFrom]
  | y :: ys, i => by
    simp only [List.cons_append, predsFrom]
    have e : i + 1 + ys.length = i + (ys.length + 1) := by omega
    rw [predsFrom_snoc x b ys (i + 1), List.append_assoc, e, List.length_cons]
theorem predsFrom_len (b : Int) : ∀ (xs : List Blk) (i : Nat), (predsFrom xs i b).length ≤ xs.length
  | [], _ => Nat.le_refl _
  | y :: ys, i => by
    simp only [predsFrom, List.length_append, List.length_cons]
    have := predsFrom_len b ys (i + 1)
    split <;> simp <;> omega

/-- A row of numbers that the call owns, read as numbers. -/
theorem ints_owned {w : World} {base e : Nat} {v : Value} {n : Nat} {xs : List Int} (h : w.ownsRow base e 1 v n (xs.map (Value.int .i64))) : ∃ a c, v = .slice a xs.length c ∧ IntsAt w base w.heap.size a xs := by
  obtain ⟨hl, h | ⟨g, cap, cur, rfl, hg, hh, hc, _, hs, ht⟩⟩ := h
  · obtain ⟨rfl, rfl⟩ := h
    have : xs = [] := by simpa using hl
    subst this
    exact ⟨_, _, rfl, fun i hi => absurd hi (by simp)⟩
  · simp only [Nat.mul_one, List.length_map] at hl hs ht
    subst hl
    refine ⟨_, _, rfl, fun i hi => ⟨g, 0, rfl, ⟨hg, ?_⟩, ?_⟩⟩
    · exact (Array.getElem?_eq_some_iff.1 hh).1
    · have h1 : (cur.toList.take xs.length)[i]? = some (Value.int .i64 xs[i]) := by rw [ht]; simp [hi]
      rw [List.getElem?_take_of_lt hi] at h1
      simp only [World.cell?, hh, Nat.zero_add]
      simpa using h1

theorem Tryd.info2' : (Tryd.prog.info? 2).map (fun i => (i.zero, i.size, i.bytes)) = some (some (.int .i64 0), 1, 8) := by kernel_rfl

/-- Behind an append to a row of the call's own. -/
theorem grown_block {W w' : World} {base e s : Nat} {u : Value} {n : Nat} {xs : List Value} (hg : W.grownBy w' u.ownBlock) (ho : W.ownsRow base e s u n xs) {b : Nat} (hb : b < base) (hz : b < W.heap.size) : w'.heap[b]? = W.heap[b]? :=
  hg.block b hz (fun h => by have := (ho.lt b h.symm).1; omega)
theorem grown_below {w W w' : World} {B base e s : Nat} {u : Value} {n : Nat} {xs : List Value} (h : Below B w W) (hg : W.grownBy w' u.ownBlock) (ho : W.ownsRow base e s u n xs) (hb : B ≤ base) (hz : B ≤ W.heap.size) : Below B w w' :=
  h.grown hg hz (fun k hk => by have := (ho.lt k hk).1; omega)
theorem own_empty (w : World) (o : Obj) : ((w.alloc o).alloc (.cells #[] 2)).ownsRow (w.heap.size + 1) 2 1 (.slice (some ⟨w.heap.size + 1, 0, none⟩) 0 0) 0 [] := by
  have h := World.ownsRow_lit (base := w.heap.size + 1) (e := 2) (size := 1) (w.alloc o) #[] 0 (by simp) (by simp) rfl
  rw [World.size_alloc] at h
  exact h
theorem ints_snoc (xs : List Int) (x : Int) : (xs ++ [x]).map (Value.int .i64) = xs.map (Value.int .i64) ++ [.int .i64 x] := by simp

set_option maxHeartbeats 1000000 in
theorem l1Preds_any (v : Int) (a : Option Addr) (n c : Nat) (q : Int) (xs : List Blk) (L B : Nat) (w : World) (ha : Hid (BlksAt w L B a xs)) (hx : Hid (n = xs.length)) (hn : n ≤ 1048576) (hB : B ≤ w.heap.size) :
    Calls Tryd.prog 55 #[.agg #[.int .i64 v, .slice a n c], .int .i64 q] w fun e w' => ∃ a' c', e = .returned (.slice a' (predsFrom xs 0 q).length c') ∧ Below w.heap.size w w' ∧ IntsAt w' w.heap.size w'.heap.size a' (predsFrom xs 0 q) := by
  obtain ⟨i0, hi0, hz0, hz1, hz2⟩ := info_parts Tryd.info2'
  go_enter Tryd.func55, Tryd.ntmps55
  go_wp2
  go_loopw [5, 6] (fun u i wr => ∃ k : Nat, k ≤ n ∧ i = .int .i64 k ∧ Below w.heap.size w wr ∧ w.heap.size < wr.heap.size ∧ wr.cell? ⟨w.heap.size, 1, none⟩ = some (.slice a n c) ∧ wr.ownsRow (w.heap.size + 1) 2 1 u (predsFrom (xs.take k) 0 q).length ((predsFrom (xs.take k) 0 q).map (Value.int .i64))) (fun _ i _ => n - (intOf i).toNat)
  case atStart => exact ⟨0, Nat.zero_le _, rfl, balloc (balloc (Below.refl _ _) _) _, by simp; omega, by simp, own_empty _ _⟩
  case round =>
    obtain ⟨k, hk, rfl, hw, hsz, hcell, hown⟩ := hrel
    by_cases hlt : k < n
    · have hkx : k < xs.length := by have := hx.out; omega
      obtain ⟨b, o, rfl, ⟨_, hbB⟩, hc⟩ := ha.out k hkx
      obtain ⟨pa, pc, ia, ic, _, _, ⟨e2, e3, e4, e5⟩, _, _⟩ := hc.keep (hw.mono hB) (by omega)
      have hnx : Hid (predsFrom (xs.take (k + 1)) 0 q = predsFrom (xs.take k) 0 q ++ (if xs[k].term.targets.contains q then [(k : Int)] else [])) := by
        show _ = _
        rw [take_next _ _ hkx, predsFrom_snoc]
        simp [Nat.min_eq_left (Nat.le_of_lt hkx)]
      have hpl : (predsFrom (xs.take k) 0 q).length ≤ 1048576 := by have := predsFrom_len q (xs.take k) 0; simp at this; omega
      have HO := hide hown
      clear hown hc
      have hth := hide (targets_has xs[k].term q)
      generalize xs[k] = X at *
      by_cases hin : X.term.targets.contains q = true
      · have HN : Hid (predsFrom (xs.take (k + 1)) 0 q = predsFrom (xs.take k) 0 q ++ [(k : Int)]) := by have := hnx.out; rw [if_pos hin] at this; exact this
        have hcs := hth.out.1 hin
        clear hin hnx hth
        generalize predsFrom (xs.take k) 0 q = ps at *
        have hcs' : (X.term.kind = 1 ∧ X.term.to = q) ∨ (X.term.kind = 2 ∧ X.term.to = q) ∨ (X.term.kind = 2 ∧ X.term.to ≠ q ∧ X.term.els = q) := by omega
        clear hcs
        rcases hcs' with ⟨d1, d2⟩ | ⟨d1, d2⟩ | ⟨d1, d3, d2⟩
        all_goals
          go_wp2_with (at_builtin; refine wpList_append_own _ rfl _ _ 40 rfl (w.heap.size + 1) 2 i0 (.int .i64 0) 1 8 Tryd.underlying40 hi0 hz0 hz1 hz2 rfl (by decide) _ _ _ rfl ((HO.out.alloc _).alloc _) ⟨wr.heap.size + 1, 0, none⟩ 1 1 [.int .i64 k] rfl rfl ?c1 ?c2 ?c3 ?c4 ?c5 ?_)
          case c1 =>
            intro j u hj
            match j, hj with
            | 0, hj => simp at hj; subst hj; simp [Addr.add]
          case c2 => intro u hu; simp at hu; subst hu; rfl
          case c3 => unfold maxLen; omega
          case c4 => omega
          case c5 => simp; omega
          intro v1 w1 hown1 hgrow1 _
          have HO1 := hide hown1
          clear hown1
          go_wp2
          have hb2 : Below w.heap.size w w1 := grown_below (balloc (balloc hw _) _) hgrow1 ((HO.out.alloc _).alloc _) (by omega) (by simp; omega)
          have hbk := grown_block hgrow1 ((HO.out.alloc _).alloc _) (b := w.heap.size) (by omega) (by simp; omega)
          have hsz1 := hgrow1.size
          simp at hsz1
          exact ⟨⟨k + 1, by omega, by go_num, hb2, by omega, (cell_of hbk).trans (((balloc (balloc (Below.refl wr.heap.size wr) _) _).cell (p := ⟨w.heap.size, 1, none⟩) hsz).trans hcell), by rw [HN.out, ints_snoc]; simpa using HO1.out⟩, by simp [intOf]; omega⟩
      · have HN : Hid (predsFrom (xs.take (k + 1)) 0 q = predsFrom (xs.take k) 0 q) := by have := hnx.out; rw [if_neg hin, List.append_nil] at this; exact this
        have hcs : ¬ ((X.term.kind = 1 ∧ X.term.to = q) ∨ (X.term.kind = 2 ∧ (X.term.to = q ∨ X.term.els = q))) := fun h => hin (hth.out.2 h)
        clear hin hnx hth
        generalize predsFrom (xs.take k) 0 q = ps at *
        have hcs' : (X.term.kind = 1 ∧ (X.term.to == q) = false) ∨ (X.term.kind = 2 ∧ (X.term.to == q) = false ∧ (X.term.els == q) = false) ∨ ((X.term.kind == 1) = false ∧ (X.term.kind == 2) = false) := by
          simp only [beq_eq_false_iff_ne]; omega
        clear hcs
        rcases hcs' with ⟨d1, d2⟩ | ⟨d1, d2, d3⟩ | ⟨d1, d2⟩
        all_goals
          go_wp2
          exact ⟨⟨k + 1, by omega, by go_num, balloc hw _, by simp; omega, ((balloc (Below.refl wr.heap.size wr) _).cell (p := ⟨w.heap.size, 1, none⟩) hsz).trans hcell, by rw [HN.out]; exact HO.out.alloc _⟩, by simp [intOf]; omega⟩
    · go_wp2
      go_ret
      have e := List.take_of_length_le (l := xs) (i := k) (by have := hx.out; omega)
      rw [e] at hown
      obtain ⟨a1, c1, rfl, hi1⟩ := ints_owned hown
      exact ⟨_, _, rfl, hw, hi1.mono (by omega) (Nat.le_refl _)⟩
end Go.Proofs.YtlmaodcddbkllaaDoor
