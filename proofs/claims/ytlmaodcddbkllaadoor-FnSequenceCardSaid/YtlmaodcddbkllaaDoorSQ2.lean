import Derived.Test.YtlmaodcddbkllaaDoorDR1
import Derived.Test.YtlmaodcddbkllaaDoorMem
import Derived.Test.YtlmaodcddbkllaaDoorPure
/-
  Sequence: moves in memory; the model's l4GoodMoves, l4IsRead.
-/
namespace Go.Proofs.YtlmaodcddbkllaaDoor
open Go.RowKit

def MvsAt (w : World) (L B : Nat) (a : Option Addr) (xs : List Mv) : Prop := ∀ i (h : i < xs.length), ∃ b o, a = some ⟨b, o, none⟩ ∧ (L ≤ b ∧ b < B) ∧ w.cell? ⟨b, o + i * 2, none⟩ = some (.int .i64 xs[i].to) ∧ w.cell? ⟨b, o + i * 2 + 1, none⟩ = some (.int .i64 xs[i].frm)
theorem MvsAt.keepS {w w' : World} {L B : Nat} {a : Option Addr} {xs : List Mv} (h : MvsAt w L B a xs) (k : Same L B w w') : MvsAt w' L B a xs := fun i hi => by
  obtain ⟨b, o, e, hb, h1, h2⟩ := h i hi
  have q := k b hb.1 hb.2
  exact ⟨b, o, e, hb, (cell_of q).trans h1, (cell_of q).trans h2⟩
theorem MvsAt.keep {w w' : World} {L B : Nat} {a : Option Addr} {xs : List Mv} (h : MvsAt w L B a xs) (k : Below B w w') : MvsAt w' L B a xs := h.keepS (Same.of_below k)
theorem MvsAt.mono {w : World} {L B L' B' : Nat} {a : Option Addr} {xs : List Mv} (h : MvsAt w L B a xs) (h1 : L' ≤ L) (h2 : B ≤ B') : MvsAt w L' B' a xs := fun i hi => by
  obtain ⟨b, o, e, hb, r⟩ := h i hi
  exact ⟨b, o, e, by omega, r⟩
theorem goodF_step {xs : List Mv} {i : Nat} (h : i < xs.length) : goodF (xs.take i) (xs.drop i) = (goodAt (xs.take i) xs[i] && goodF (xs.take (i + 1)) (xs.drop (i + 1))) := by
  rw [List.drop_eq_getElem_cons h, goodF, List.take_add_one, List.getElem?_eq_getElem h]
  rfl

set_option maxHeartbeats 2000000 in
theorem goodMoves_any (a : Option Addr) (n c : Nat) (xs : List Mv) (L B : Nat) (w : World) (ha : Hid (MvsAt w L B a xs)) (hx : Hid (n = xs.length)) (hn : n ≤ 1048576) (hB : B ≤ w.heap.size) :
    Calls Tryd.prog 100 #[.slice a n c] w fun e w' => e = .returned (.bool (goodM xs)) ∧ Below w.heap.size w w' := by
  by_cases hbig : 64 < n
  · have HG : Hid (goodM xs = false) := hide (by unfold goodM; have := hx.out; simp; intro h; omega)
    go_enter Tryd.func100, Tryd.ntmps100
    go_wp2
    go_ret
    exact ⟨by rw [HG.out]; rfl, Below.refl _ _⟩
  have HG : Hid (goodM xs = goodF [] xs) := hide (by unfold goodM; have := hx.out; simp; omega)
  go_enter Tryd.func100, Tryd.ntmps100
  go_wp2
  go_loopw [3] (fun i wr => ∃ j : Nat, j ≤ n ∧ i = .int .i64 j ∧ Hid (Below w.heap.size w wr) ∧ Hid (goodM xs = goodF (xs.take j) (xs.drop j))) (fun i _ => n - (intOf i).toNat)
  case atStart => exact ⟨0, Nat.zero_le _, rfl, hide (Below.refl _ _), hide (by rw [HG.out]; rfl)⟩
  case round =>
    obtain ⟨j, hj, rfl, HB, HJ⟩ := hrel
    by_cases hlt : j < n
    · have hjx : j < xs.length := by have := hx.out; omega
      obtain ⟨b, o, rfl, hbB, e0w, e1w⟩ := ha.out j hjx
      have e0 := (HB.out.cell (p := ⟨b, o + j * 2, none⟩) (by show b < _; omega)).trans e0w
      have e1 := (HB.out.cell (p := ⟨b, o + j * 2 + 1, none⟩) (by show b < _; omega)).trans e1w
      have HST := hide (goodF_step hjx)
      have HAT : Hid (goodAt (xs.take j) xs[j] = (decide (0 ≤ xs[j].to ∧ xs[j].to < 64 ∧ 0 ≤ xs[j].frm ∧ xs[j].frm < 64) && !(xs.take j).any (fun q => q.to == xs[j].to))) := hide rfl
      have HALL : Hid (∀ q, q < j → ∃ hq : q < xs.length, w.cell? ⟨b, o + q * 2, none⟩ = some (.int .i64 xs[q].to)) := hide (fun q hq => by
        have hq' : q < xs.length := by omega
        obtain ⟨b', o', e, _, h1, _⟩ := ha.out q hq'
        cases e
        exact ⟨hq', h1⟩)
      have HW0 := hide e0w
      clear e0w e1w
      generalize hm : xs[j] = m at *
      obtain ⟨t, f⟩ := m
      dsimp only at *
      clear hm
      by_cases hr : 0 ≤ t ∧ t < 64 ∧ 0 ≤ f ∧ f < 64
      · obtain ⟨r1, r2, r3, r4⟩ := hr
        go_wp2
        go_loopw [4] (fun u wr' => ∃ q : Nat, q ≤ j ∧ u = .int .i64 q ∧ Hid (Below w.heap.size w wr') ∧ Hid (∀ p (_ : p < xs.length), p < q → xs[p].to ≠ t)) (fun u _ => j - (intOf u).toNat)
        case atStart => exact ⟨0, Nat.zero_le _, rfl, HB, hide (fun p _ hp => absurd hp (by omega))⟩
        case round =>
          obtain ⟨q, hq, rfl, HB2, HQ⟩ := hrel
          have f0 := (HB2.out.cell (p := ⟨b, o + j * 2, none⟩) (by show b < _; omega)).trans HW0.out
          by_cases hqj : q < j
          · obtain ⟨hqx, eqw⟩ := HALL.out q hqj
            have eq := (HB2.out.cell (p := ⟨b, o + q * 2, none⟩) (by show b < _; omega)).trans eqw
            clear eqw
            by_cases he : xs[q].to = t
            · have HF : Hid (goodM xs = false) := hide (by
                rw [HJ.out, HST.out, HAT.out]
                have : (xs.take j).any (fun z => z.to == t) = true := List.any_eq_true.2 ⟨xs[q], List.mem_take_iff_getElem.2 ⟨q, by omega, rfl⟩, by simp [he]⟩
                rw [this]
                simp)
              rw [he] at eq
              go_wp2
              go_region
              go_wp2
              go_ret
              exact ⟨by rw [HF.out]; rfl, HB2.out.drew⟩
            · have HNQ := hide he
              generalize hu : xs[q].to = u at *
              have HU := hide hu
              clear hu
              go_wp2
              go_region
              go_wp2
              exact ⟨⟨q + 1, by omega, by go_num, hide HB2.out.drew, hide (fun p hp hpq => by
                by_cases e : p = q
                · subst e; rw [HU.out]; exact HNQ.out
                · exact HQ.out p hp (by omega))⟩, by simp [intOf]; omega⟩
          · have hqe : q = j := by omega
            subst hqe
            have HN : Hid (goodM xs = goodF (xs.take (q + 1)) (xs.drop (q + 1))) := hide (by
              rw [HJ.out, HST.out, HAT.out]
              have h1 : (xs.take q).any (fun z => z.to == t) = false := List.any_eq_false.2 (fun z hz => by
                obtain ⟨p, hp, rfl⟩ := List.mem_take_iff_getElem.1 hz
                have := HQ.out p (by omega) (by omega)
                simpa using this)
              rw [h1]
              simp [r1, r2, r3, r4])
            go_wp2
            exact ⟨⟨q + 1, by omega, by go_num, HB2, HN⟩, by simp [intOf]; omega⟩
      · have HF : Hid (goodM xs = false) := hide (by
          rw [HJ.out, HST.out, HAT.out]
          simp [hr])
        have hc : t < 0 ∨ (0 ≤ t ∧ 64 ≤ t) ∨ (0 ≤ t ∧ t < 64 ∧ f < 0) ∨ (0 ≤ t ∧ t < 64 ∧ 0 ≤ f ∧ 64 ≤ f) := by omega
        clear hr
        rcases hc with h | ⟨h, hA⟩ | ⟨h, hA, hC⟩ | ⟨h, hA, hC, hD⟩ <;>
          (go_wp2; go_ret; exact ⟨by rw [HF.out]; rfl, HB.out⟩)
    · have hjn : j = n := by omega
      subst hjn
      have HF : Hid (goodM xs = true) := hide (by
        rw [HJ.out, List.drop_eq_nil_of_le (by have := hx.out; omega)]
        rfl)
      go_wp2
      go_ret
      exact ⟨by rw [HF.out]; rfl, HB.out⟩

set_option maxHeartbeats 1000000 in
theorem l4IsRead_any (a : Option Addr) (n c i : Nat) (r : Int) (xs : List Mv) (L B : Nat) (w : World) (ha : Hid (MvsAt w L B a xs)) (hx : Hid (n = xs.length)) (hn : n ≤ 1048576) (hi : i < n) (hne : Hid (∀ q (_ : q < xs.length), q = i → xs[q].frm ≠ r)) :
    Calls Tryd.prog 155 #[.slice a n c, .int .i64 i, .int .i64 r] w fun e w' => e = .returned (.bool (isRead xs r)) ∧ w' = w := by
  go_enter Tryd.func155, Tryd.ntmps155
  go_wp2
  go_loopw [7] (fun u wr => ∃ j : Nat, j ≤ n ∧ u = .int .i64 j ∧ wr = w ∧ Hid (∀ p (_ : p < xs.length), p < j → xs[p].frm ≠ r)) (fun u _ => n - (intOf u).toNat)
  case atStart => exact ⟨0, Nat.zero_le _, rfl, rfl, hide (fun p _ hp => absurd hp (by omega))⟩
  case round =>
    obtain ⟨j, hj, rfl, rfl, HJ⟩ := hrel
    by_cases hlt : j < n
    · have hjx : j < xs.length := by have := hx.out; omega
      obtain ⟨b, o, rfl, hbB, e0, e1⟩ := ha.out j hjx
      have HNX : Hid (xs[j].frm ≠ r → ∀ p (_ : p < xs.length), p < j + 1 → xs[p].frm ≠ r) := hide (fun h p hp hpj => by
        by_cases e : p = j
        · subst e; exact h
        · exact HJ.out p hp (by omega))
      have HYES : Hid (xs[j].frm = r → isRead xs r = true) := hide (fun h => isRead_iff.2 ⟨xs[j], List.getElem_mem hjx, h⟩)
      have HNE := hide (hne.out j hjx)
      generalize xs[j].frm = f at *
      by_cases hji : j = i
      · have hf := HNE.out hji
        subst hji
        go_wp2
        exact ⟨⟨j + 1, by omega, by go_num, (by first | rfl | trivial), hide (HNX.out hf)⟩, by simp [intOf]; omega⟩
      · have hji' : ¬ ((j : Int) = (i : Int)) := by omega
        by_cases hf : f = r
        · have HR := hide (HYES.out hf)
          subst hf
          go_wp2
          go_ret
          exact ⟨by rw [HR.out]; rfl, rfl⟩
        · have hfb : (f == r) = false := by simpa using hf
          have HF2 := hide (HNX.out hf)
          clear hf
          go_wp2
          exact ⟨⟨j + 1, by omega, by go_num, (by first | rfl | trivial), HF2⟩, by simp [intOf]; omega⟩
    · have hjn : j = n := by omega
      subst hjn
      have HF : Hid (isRead xs r = false) := hide (by
        cases hb : isRead xs r with
        | false => rfl
        | true =>
          obtain ⟨m, hm, e⟩ := isRead_iff.1 hb
          obtain ⟨p, hp, rfl⟩ := List.getElem_of_mem hm
          exact absurd e (HJ.out p hp (by have := hx.out; omega)))
      go_wp2
      go_ret
      exact ⟨by rw [HF.out]; rfl, rfl⟩
end Go.Proofs.YtlmaodcddbkllaaDoor

namespace Go.Proofs.YtlmaodcddbkllaaDoor

theorem countEq_count (l : List Int) (v : Int) : countEq l v = l.count v := by
  unfold countEq
  rw [List.count, List.countP_eq_length_filter]

theorem cover_to (n : Nat) : ∀ l : List Int, l.length = n → (∀ v : Nat, v < n → (v : Int) ∈ l) → (∀ d ∈ l, 0 ≤ d ∧ d < n) ∧ ∀ v : Nat, v < n → l.count (v : Int) = 1 := by
  induction n with
  | zero =>
    intro l hl _
    have : l = [] := List.eq_nil_of_length_eq_zero hl
    subst this
    exact ⟨fun d hd => (List.not_mem_nil hd).elim, fun v hv => absurd hv (by omega)⟩
  | succ n ih =>
    intro l hl hv
    have hm := hv n (by omega)
    have hlen : (l.erase (n : Int)).length = n := by rw [List.length_erase_of_mem hm]; omega
    have hmem : ∀ v : Nat, v < n → (v : Int) ∈ l.erase (n : Int) := fun v h => (List.mem_erase_of_ne (by omega)).2 (hv v (by omega))
    obtain ⟨h1, h2⟩ := ih _ hlen hmem
    have hp := List.perm_cons_erase hm
    refine ⟨fun d hd => ?_, fun v h => ?_⟩
    · rcases List.mem_cons.1 (hp.mem_iff.1 hd) with rfl | hd
      · omega
      · have := h1 d hd; omega
    · rw [hp.count_eq, List.count_cons]
      by_cases e : v = n
      · subst e
        have : (l.erase (v : Int)).count (v : Int) = 0 := List.count_eq_zero.2 (fun hh => by have := h1 _ hh; omega)
        simp [this]
      · rw [h2 v (by omega)]
        have : ((n : Int) == (v : Int)) = false := by simp; omega
        simp [this]

theorem cover_from (n : Nat) : ∀ l : List Int, (∀ d ∈ l, 0 ≤ d ∧ d < n) → (∀ v : Nat, v < n → l.count (v : Int) = 1) → l.length = n ∧ ∀ v : Nat, v < n → (v : Int) ∈ l := by
  induction n with
  | zero =>
    intro l hl _
    have : l = [] := List.eq_nil_iff_forall_not_mem.2 (fun d hd => by have := hl d hd; omega)
    subst this
    exact ⟨rfl, fun v hv => absurd hv (by omega)⟩
  | succ n ih =>
    intro l hl hc
    have hm : (n : Int) ∈ l := List.count_pos_iff.1 (by rw [hc n (by omega)]; omega)
    have hp := List.perm_cons_erase hm
    have hc0 : (l.erase (n : Int)).count (n : Int) = 0 := by rw [List.count_erase_self, hc n (by omega)]
    have h1 : ∀ d ∈ l.erase (n : Int), 0 ≤ d ∧ d < n := fun d hd => by
      have h := hl d (List.mem_of_mem_erase hd)
      have hne : d ≠ n := fun e => by subst e; exact absurd hd (List.count_eq_zero.1 hc0)
      omega
    have h2 : ∀ v : Nat, v < n → (l.erase (n : Int)).count (v : Int) = 1 := fun v h => by
      rw [List.count_erase_of_ne (by omega)]; exact hc v (by omega)
    obtain ⟨k1, k2⟩ := ih _ h1 h2
    refine ⟨by have := List.length_erase_of_mem hm; have : 0 < l.length := List.length_pos_of_mem hm; omega, fun v h => ?_⟩
    exact List.count_pos_iff.1 (by rw [hc v h]; omega)

/-- All values that the phis of the blocks define. -/
def dstsOk (n : Int) (xs : List Blk) : Bool := xs.all fun x => x.phis.all fun p => fld true p.dst 0 n

theorem all_and {α : Type} (p q : α → Bool) (l : List α) : l.all (fun x => p x && q x) = (l.all p && l.all q) := by
  induction l with
  | nil => rfl
  | cons x l ih => simp only [List.all_cons, ih]; cases p x <;> cases q x <;> cases l.all p <;> simp

theorem phisFrom_split (F : Fn) : ∀ (xs : List Blk) (i : Nat), phisFrom phOkI F xs i = (dstsOk F.values xs && phisFrom phOkS F xs i) := by
  intro xs
  induction xs with
  | nil => intro i; rfl
  | cons x xs ih =>
    intro i
    simp only [phisFrom, dstsOk, List.all_cons, ih]
    have : x.phis.all (phOkI F.values (F.preds ↑i).length) = (x.phis.all (fun p => fld true p.dst 0 F.values) && x.phis.all (phOkS F.values (F.preds ↑i).length)) := all_and _ _ _
    rw [this]
    cases x.phis.all (fun p => fld true p.dst 0 F.values) <;> cases x.phis.all (phOkS F.values (F.preds ↑i).length) <;> simp

theorem defs_range (F : Fn) (hi : instrsOk F = true) : (dstsOk F.values F.blocks = true ↔ ∀ d ∈ blksDefs F.blocks, 0 ≤ d ∧ d < F.values) := by
  unfold dstsOk blksDefs
  simp only [List.all_eq_true, List.mem_flatMap, blkDefs, phDefs, insDefs, List.mem_append, List.mem_map, List.mem_filter, fld, if_true, Bool.and_eq_true, decide_eq_true_eq]
  constructor
  · rintro h d ⟨x, hx, ⟨p, hp, rfl⟩ | ⟨y, ⟨hy, hd⟩, rfl⟩⟩
    · exact h x hx p hp
    · have := List.all_eq_true.1 (List.all_eq_true.1 hi x hx) y hy
      simp only [insOk, hd, fld, if_true, Bool.and_eq_true, decide_eq_true_eq] at this
      omega
  · intro h x hx p hp
    exact h _ ⟨x, hx, Or.inl ⟨p, hp, rfl⟩⟩

theorem once_cover (F : Fn) (h0 : 0 ≤ F.values) (hi : instrsOk F = true) : (dstsOk F.values F.blocks && onceOk F) = coverOk F := by
  rw [Bool.eq_iff_iff]
  obtain ⟨n, hn⟩ := Int.eq_ofNat_of_zero_le h0
  rw [Bool.and_eq_true, defs_range F hi]
  unfold onceOk coverOk
  rw [hn]
  simp only [List.all_eq_true, List.mem_range, Int.toNat_natCast, beq_iff_eq, Bool.and_eq_true, decide_eq_true_eq, List.contains_iff_mem, countEq_count]
  constructor
  · rintro ⟨h1, h2⟩
    obtain ⟨k1, k2⟩ := cover_from n _ h1 h2
    exact ⟨by omega, k2⟩
  · rintro ⟨h1, h2⟩
    exact cover_to n _ (by omega) h2

theorem valid_same (F : Fn) : validI F = validS F := by
  unfold validI validS phisOkI phisOkS
  rw [phisFrom_split]
  cases hs : sizeOk F
  · simp
  cases hi : instrsOk F
  · simp
  cases ht : termsOk F
  · simp
  have h0 : 0 ≤ F.values := by
    simp only [sizeOk, Bool.and_eq_true, decide_eq_true_eq] at hs
    omega
  have := once_cover F h0 hi
  rw [← this]
  cases dstsOk F.values F.blocks <;> cases phisFrom phOkS F F.blocks 0 <;> simp

end Go.Proofs.YtlmaodcddbkllaaDoor
