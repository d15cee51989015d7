import Derived.Test.YtlmaodcddbkllaaDoorDR1
import Derived.Test.YtlmaodcddbkllaaDoorW5
import Derived.Test.YtlmaodcddbkllaaDoorPure2
/-
  Sequence: moves in memory; the model's l4GoodMoves, l4IsRead.
-/
namespace Go.Proofs.YtlmaodcddbkllaaDoor
open Go.RowKit

def MvsAt (w : World) (L B : Nat) (a : Option Addr) (xs : List Mv) : Prop := ∀ i (h : i < xs.length), ∃ b o, a = some ⟨b, o, none⟩ ∧ (L ≤ b ∧ b < B) ∧ w.cell? ⟨b, o + i * 2, none⟩ = some (.int .i64 xs[i].to) ∧ w.cell? ⟨b, o + i * 2 + 1, none⟩ = some (.int .i64 xs[i].frm)
theorem MvsAt.keepS {w w' : World} {L B : Nat} {a : Option Addr} {xs : List Mv} (h : MvsAt w L B a xs) (k : Same L B w w') : MvsAt w' L B a xs := fun i hi => by
  obtain ⟨b, o, e, hb, h1, h2⟩ := h i hi
  have q := k b hb.1 hb.2
  exact ⟨b, o, e, hb, (cell_of q).trans h1, (cell_of q).trans h2⟩
theorem MvsAt.keep {w w' : World} {L B : Nat} {a : Option Addr} {xs : List Mv} (h : MvsAt w L B a xs) (k : Below B w w') : MvsAt w' L B a xs := h.keepS (Same.of_below k)
theorem MvsAt.mono {w : World} {L B L' B' : Nat} {a : Option Addr} {xs : List Mv} (h : MvsAt w L B a xs) (h1 : L' ≤ L) (h2 : B ≤ B') : MvsAt w L' B' a xs := fun i hi => by
  obtain ⟨b, o, e, hb, r⟩ := h i hi
  exact ⟨b, o, e, by omega, r⟩
theorem goodF_step {xs : List Mv} {i : Nat} (h : i < xs.length) : goodF (xs.take i) (xs.drop i) = (goodAt (xs.take i) xs[i] && goodF (xs.take (i + 1)) (xs.drop (i + 1))) := by
  rw [List.drop_eq_getElem_cons h, goodF, List.take_add_one, List.getElem?_eq_getElem h]
  rfl

set_option maxHeartbeats 2000000 in
theorem goodMoves_any (a : Option Addr) (n c : Nat) (xs : List Mv) (L B : Nat) (w : World) (ha : Hid (MvsAt w L B a xs)) (hx : Hid (n = xs.length)) (hn : n ≤ 1048576) (hB : B ≤ w.heap.size) :
    Calls Tryd.prog 100 #[.slice a n c] w fun e w' => e = .returned (.bool (goodM xs)) ∧ Below w.heap.size w w' := by
  by_cases hbig : 64 < n
  · have HG : Hid (goodM xs = false) := hide (by unfold goodM; have := hx.out; simp; intro h; omega)
    go_enter Tryd.func100, Tryd.ntmps100
    go_wp2
    go_ret
    exact ⟨by rw [HG.out]; rfl, Below.refl _ _⟩
  have HG : Hid (goodM xs = goodF [] xs) := hide (by unfold goodM; have := hx.out; simp; omega)
  go_enter Tryd.func100, Tryd.ntmps100
  go_wp2
  go_loopw [3] (fun i wr => ∃ j : Nat, j ≤ n ∧ i = .int .i64 j ∧ Hid (Below w.heap.size w wr) ∧ Hid (goodM xs = goodF (xs.take j) (xs.drop j))) (fun i _ => n - (intOf i).toNat)
  case atStart => exact ⟨0, Nat.zero_le _, rfl, hide (Below.refl _ _), hide (by rw [HG.out]; rfl)⟩
  case round =>
    obtain ⟨j, hj, rfl, HB, HJ⟩ := hrel
    by_cases hlt : j < n
    · have hjx : j < xs.length := by have := hx.out; omega
      obtain ⟨b, o, rfl, hbB, e0w, e1w⟩ := ha.out j hjx
      have e0 := (HB.out.cell (p := ⟨b, o + j * 2, none⟩) (by show b < _; omega)).trans e0w
      have e1 := (HB.out.cell (p := ⟨b, o + j * 2 + 1, none⟩) (by show b < _; omega)).trans e1w
      have HST := hide (goodF_step hjx)
      have HAT : Hid (goodAt (xs.take j) xs[j] = (decide (0 ≤ xs[j].to ∧ xs[j].to < 64 ∧ 0 ≤ xs[j].frm ∧ xs[j].frm < 64) && !(xs.take j).any (fun q => q.to == xs[j].to))) := hide rfl
      have HALL : Hid (∀ q, q < j → ∃ hq : q < xs.length, w.cell? ⟨b, o + q * 2, none⟩ = some (.int .i64 xs[q].to)) := hide (fun q hq => by
        have hq' : q < xs.length := by omega
        obtain ⟨b', o', e, _, h1, _⟩ := ha.out q hq'
        cases e
        exact ⟨hq', h1⟩)
      have HW0 := hide e0w
      clear e0w e1w
      generalize hm : xs[j] = m at *
      obtain ⟨t, f⟩ := m
      dsimp only at *
      clear hm
      by_cases hr : 0 ≤ t ∧ t < 64 ∧ 0 ≤ f ∧ f < 64
      · obtain ⟨r1, r2, r3, r4⟩ := hr
        go_wp2
        go_loopw [4] (fun u wr' => ∃ q : Nat, q ≤ j ∧ u = .int .i64 q ∧ Hid (Below w.heap.size w wr') ∧ Hid (∀ p (_ : p < xs.length), p < q → xs[p].to ≠ t)) (fun u _ => j - (intOf u).toNat)
        case atStart => exact ⟨0, Nat.zero_le _, rfl, HB, hide (fun p _ hp => absurd hp (by omega))⟩
        case round =>
          obtain ⟨q, hq, rfl, HB2, HQ⟩ := hrel
          have f0 := (HB2.out.cell (p := ⟨b, o + j * 2, none⟩) (by show b < _; omega)).trans HW0.out
          by_cases hqj : q < j
          · obtain ⟨hqx, eqw⟩ := HALL.out q hqj
            have eq := (HB2.out.cell (p := ⟨b, o + q * 2, none⟩) (by show b < _; omega)).trans eqw
            clear eqw
            by_cases he : xs[q].to = t
            · have HF : Hid (goodM xs = false) := hide (by
                rw [HJ.out, HST.out, HAT.out]
                have : (xs.take j).any (fun z => z.to == t) = true := List.any_eq_true.2 ⟨xs[q], List.mem_take_iff_getElem.2 ⟨q, by omega, rfl⟩, by simp [he]⟩
                rw [this]
                simp)
              rw [he] at eq
              go_wp2
              go_region
              go_wp2
              go_ret
              exact ⟨by rw [HF.out]; rfl, HB2.out.drew⟩
            · have HNQ := hide he
              generalize hu : xs[q].to = u at *
              have HU := hide hu
              clear hu
              go_wp2
              go_region
              go_wp2
              exact ⟨⟨q + 1, by omega, by go_num, hide HB2.out.drew, hide (fun p hp hpq => by
                by_cases e : p = q
                · subst e; rw [HU.out]; exact HNQ.out
                · exact HQ.out p hp (by omega))⟩, by simp [intOf]; omega⟩
          · have hqe : q = j := by omega
            subst hqe
            have HN : Hid (goodM xs = goodF (xs.take (q + 1)) (xs.drop (q + 1))) := hide (by
              rw [HJ.out, HST.out, HAT.out]
              have h1 : (xs.take q).any (fun z => z.to == t) = false := List.any_eq_false.2 (fun z hz => by
                obtain ⟨p, hp, rfl⟩ := List.mem_take_iff_getElem.1 hz
                have := HQ.out p (by omega) (by omega)
                simpa using this)
              rw [h1]
              simp [r1, r2, r3, r4])
            go_wp2
            exact ⟨⟨q + 1, by omega, by go_num, HB2, HN⟩, by simp [intOf]; omega⟩
      · have HF : Hid (goodM xs = false) := hide (by
          rw [HJ.out, HST.out, HAT.out]
          simp [hr])
        have hc : t < 0 ∨ (0 ≤ t ∧ 64 ≤ t) ∨ (0 ≤ t ∧ t < 64 ∧ f < 0) ∨ (0 ≤ t ∧ t < 64 ∧ 0 ≤ f ∧ 64 ≤ f) := by omega
        clear hr
        rcases hc with h | ⟨h, hA⟩ | ⟨h, hA, hC⟩ | ⟨h, hA, hC, hD⟩ <;>
          (go_wp2; go_ret; exact ⟨by rw [HF.out]; rfl, HB.out⟩)
    · have hjn : j = n := by omega
      subst hjn
      have HF : Hid (goodM xs = true) := hide (by
        rw [HJ.out, List.drop_eq_nil_of_le (by have := hx.out; omega)]
        rfl)
      go_wp2
      go_ret
      exact ⟨by rw [HF.out]; rfl, HB.out⟩

set_option maxHeartbeats 1000000 in
theorem l4IsRead_any (a : Option Addr) (n c i : Nat) (r : Int) (xs : List Mv) (L B : Nat) (w : World) (ha : Hid (MvsAt w L B a xs)) (hx : Hid (n = xs.length)) (hn : n ≤ 1048576) (hi : i < n) (hne : Hid (∀ q (_ : q < xs.length), q = i → xs[q].frm ≠ r)) :
    Calls Tryd.prog 155 #[.slice a n c, .int .i64 i, .int .i64 r] w fun e w' => e = .returned (.bool (isRead xs r)) ∧ w' = w := by
  go_enter Tryd.func155, Tryd.ntmps155
  go_wp2
  go_loopw [7] (fun u wr => ∃ j : Nat, j ≤ n ∧ u = .int .i64 j ∧ wr = w ∧ Hid (∀ p (_ : p < xs.length), p < j → xs[p].frm ≠ r)) (fun u _ => n - (intOf u).toNat)
  case atStart => exact ⟨0, Nat.zero_le _, rfl, rfl, hide (fun p _ hp => absurd hp (by omega))⟩
  case round =>
    obtain ⟨j, hj, rfl, rfl, HJ⟩ := hrel
    by_cases hlt : j < n
    · have hjx : j < xs.length := by have := hx.out; omega
      obtain ⟨b, o, rfl, hbB, e0, e1⟩ := ha.out j hjx
      have HNX : Hid (xs[j].frm ≠ r → ∀ p (_ : p < xs.length), p < j + 1 → xs[p].frm ≠ r) := hide (fun h p hp hpj => by
        by_cases e : p = j
        · subst e; exact h
        · exact HJ.out p hp (by omega))
      have HYES : Hid (xs[j].frm = r → isRead xs r = true) := hide (fun h => isRead_iff.2 ⟨xs[j], List.getElem_mem hjx, h⟩)
      have HNE := hide (hne.out j hjx)
      generalize xs[j].frm = f at *
      by_cases hji : j = i
      · have hf := HNE.out hji
        subst hji
        go_wp2
        exact ⟨⟨j + 1, by omega, by go_num, (by first | rfl | trivial), hide (HNX.out hf)⟩, by simp [intOf]; omega⟩
      · have hji' : ¬ ((j : Int) = (i : Int)) := by omega
        by_cases hf : f = r
        · have HR := hide (HYES.out hf)
          subst hf
          go_wp2
          go_ret
          exact ⟨by rw [HR.out]; rfl, rfl⟩
        · have hfb : (f == r) = false := by simpa using hf
          have HF2 := hide (HNX.out hf)
          clear hf
          go_wp2
          exact ⟨⟨j + 1, by omega, by go_num, (by first | rfl | trivial), HF2⟩, by simp [intOf]; omega⟩
    · have hjn : j = n := by omega
      subst hjn
      have HF : Hid (isRead xs r = false) := hide (by
        cases hb : isRead xs r with
        | false => rfl
        | true =>
          obtain ⟨m, hm, e⟩ := isRead_iff.1 hb
          obtain ⟨p, hp, rfl⟩ := List.getElem_of_mem hm
          exact absurd e (HJ.out p hp (by have := hx.out; omega)))
      go_wp2
      go_ret
      exact ⟨by rw [HF.out]; rfl, rfl⟩
end Go.Proofs.YtlmaodcddbkllaaDoor
