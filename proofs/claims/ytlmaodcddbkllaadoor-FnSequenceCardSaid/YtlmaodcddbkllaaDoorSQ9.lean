import Derived.Test.YtlmaodcddbkllaaDoorSQ7
import Derived.Laws.BitsAllLaws
import Derived.Test.YtlmaodcddbkllaaDoorIw
import Derived.Test.YtlmaodcddbkllaaDoorW6b
import Derived.Maps.AppendAt
/-
  Sequence: the program's set of registers: one word.
-/
namespace Go.Proofs.YtlmaodcddbkllaaDoor
open Go.RowKit Go.Maps

theorem Tryd.infoU64 : (Tryd.prog.info? 178).map (fun i => (i.zero, i.size, i.bytes)) = some (some (.int .u64 0), 1, 8) := by kernel_rfl
theorem quo64 {t : Nat} (h : t < 64) : (t : Int).tdiv 64 = 0 := by rw [Int.tdiv_eq_ediv_of_nonneg (by omega)]; omega
theorem rem64 {t : Nat} (h : t < 64) : (t : Int).tmod 64 = t := by rw [Int.tmod_eq_emod_of_nonneg (by omega)]; omega
theorem bit_has {W t : Nat} (hW : W < 18446744073709551616) : (bits .and .u64 ((W : Int) / 2 ^ t) 1 == 1) = W.testBit t := by
  have hq : W / 2 ^ t < 18446744073709551616 := Nat.lt_of_le_of_lt (Nat.div_le_self _ _) hW
  have e : ((W : Int) / 2 ^ t) = ((W / 2 ^ t : Nat) : Int) := by simp
  rw [e, show (1 : Int) = ((1 : Nat) : Int) from rfl, u64_and_nat _ _ hq (by decide), Nat.and_one_is_mod, Nat.testBit_eq_decide_div_mod_eq]
  by_cases h : W / 2 ^ t % 2 = 1
  · simp [h]
  · have h0 : W / 2 ^ t % 2 = 0 := by omega
    simp [h0]
theorem bit_add {W t : Nat} (ht : t < 64) (hW : W < 18446744073709551616) : bits .or .u64 (W : Int) (IntKind.u64.wrap (2 ^ t)) = ((W ||| 2 ^ t : Nat) : Int) := by
  have h2 : 2 ^ t < 18446744073709551616 := Nat.lt_of_lt_of_le (Nat.pow_lt_pow_right (by decide) ht) (by decide)
  have e : IntKind.u64.wrap (2 ^ t) = ((2 ^ t : Nat) : Int) := by
    rw [IntKind.wrap_u64]
    have : ((2 ^ t : Nat) : Int) = (2 : Int) ^ t := by simp
    rw [← this]
    exact Int.emod_eq_of_lt (Int.natCast_nonneg _) (Int.ofNat_lt.2 h2)
  rw [e, u64_or_nat _ _ hW h2]
theorem bit_lt {W t : Nat} (ht : t < 64) (hW : W < 18446744073709551616) : W ||| 2 ^ t < 18446744073709551616 := by
  have h2 : 2 ^ t < 2 ^ 64 := Nat.pow_lt_pow_right (by decide) ht
  exact Nat.or_lt_two_pow (n := 64) (by simpa using hW) h2
set_option maxHeartbeats 1000000 in
set_option maxRecDepth 100000 in
theorem newSet_any (w : World) : Calls Tryd.prog 130 #[.int .i64 64] w fun e w' => ∃ g, e = .returned (.agg #[.slice (some ⟨g, 0, none⟩) 1 1]) ∧ w.heap.size ≤ g ∧ Below w.heap.size w w' ∧ w'.cell? ⟨g, 0, none⟩ = some (.int .u64 ((0 : Nat) : Int)) ∧ ∀ q, w'.frozen? ⟨g, q, none⟩ = false := by
  have hmk := run_make_row' (P := Tryd.prog) 89 178 (.int .u64 0) 8 Tryd.underlying89 Tryd.infoU64 rfl .i64 .i64 1 (by omega) (by omega)
  rw [show ((1 : Nat) : Int) = 1 from rfl] at hmk
  go_enter Tryd.func130, Tryd.ntmps130
  go_wp2
  refine bodyPost_ret (v := .agg #[.slice (some ⟨w.heap.size + 1, 0, none⟩) 1 1]) (by simp [results, Tryd.results130, go_sem]) rfl ?_
  exact ⟨w.heap.size + 1, rfl, by omega, balloc (balloc (Below.refl _ _) _) _, by simp [madeCells], fun q => by simp⟩
set_option maxHeartbeats 1000000 in
set_option maxRecDepth 100000 in
theorem has_any (g W t : Nat) (w : World) (ht : t < 64) (hW : W < 18446744073709551616) (hc : w.cell? ⟨g, 0, none⟩ = some (.int .u64 W)) : Calls Tryd.prog 135 #[.agg #[.slice (some ⟨g, 0, none⟩) 1 1], .int .i64 t] w fun e w' => e = .returned (.bool (W.testBit t)) ∧ Below w.heap.size w w' := by
  have h2 := quo64 ht
  have h3 := rem64 ht
  have hg : g < w.heap.size := World.block_lt_of_cell? w _ hc
  have hc2 := fun x => ((balloc (Below.refl w.heap.size w) x).cell (p := ⟨g, 0, none⟩) hg).trans hc
  clear hc
  go_enter Tryd.func135, Tryd.ntmps135
  go_wp2
  go_ret
  exact ⟨ret_bool (bit_has hW), balloc (Below.refl _ _) _⟩
/-- The numbers come into the word. -/
def addW (W : Nat) (ts : List Nat) : Nat := ts.foldl (fun a t => a ||| 2 ^ t) W
set_option maxHeartbeats 1000000 in
set_option maxRecDepth 100000 in
theorem add_any (g W n c : Nat) (a : Option Addr) (ts : List Nat) (L B : Nat) (w : World) (ha : Hid (IntsAt w L B a (ts.map Int.ofNat))) (hx : Hid (n = ts.length)) (hn : n ≤ 64) (ht : Hid (∀ t ∈ ts, t < 64)) (hW : W < 18446744073709551616) (hc : w.cell? ⟨g, 0, none⟩ = some (.int .u64 W)) (hz : ∀ q, w.frozen? ⟨g, q, none⟩ = false) (hB : B ≤ w.heap.size) (hgL : ¬ (L ≤ g ∧ g < B)) :
    Calls Tryd.prog 131 #[.agg #[.slice (some ⟨g, 0, none⟩) 1 1], .slice a n c] w fun e w' => e = .returned (.tuple #[]) ∧ w.grownBy w' (some g) ∧ addW W ts < 18446744073709551616 ∧ w'.cell? ⟨g, 0, none⟩ = some (.int .u64 (addW W ts)) ∧ ∀ q, w'.frozen? ⟨g, q, none⟩ = false := by
  go_enter Tryd.func131, Tryd.ntmps131
  go_wp2
  have HW0 : Hid (IntsAt w L B a (ts.map Int.ofNat)) := ha
  have hg : g < w.heap.size := World.block_lt_of_cell? w _ hc
  go_loopw [8] (fun u wr => ∃ q : Nat, q ≤ n ∧ u = .int .i64 q ∧ Hid (w.grownBy wr (some g)) ∧ wr.cell? ⟨w.heap.size, 0, none⟩ = some (.slice (some ⟨g, 0, none⟩) 1 1) ∧ Hid (addW W (ts.take q) < 18446744073709551616) ∧ wr.cell? ⟨g, 0, none⟩ = some (.int .u64 (addW W (ts.take q))) ∧ Hid (∀ k, wr.frozen? ⟨g, k, none⟩ = false)) (fun u _ => n - (RowKit.intOf u).toNat)
  case atStart => exact ⟨0, Nat.zero_le _, rfl, hide (World.grownBy_alloc _ _ _), by simp, hide (by simpa [addW] using hW), by rw [World.cell?_alloc_lt _ _ _ hg]; simpa [addW] using hc, hide (fun k => by rw [World.frozen?_alloc_old _ _ _ (by show g ≠ _; omega)]; exact hz k)⟩
  case round =>
    clear hc
    obtain ⟨q, hq, rfl, HG, hs, HA, hc, HZ⟩ := hrel
    by_cases hlt : q < n
    · have hqx : q < ts.length := by have := hx.out; omega
      obtain ⟨b, o, rfl, hbB, e0w⟩ := ha.out q (by simpa using hqx)
      have e0 := (cell_of (HG.out.block b (by omega) (fun e => by injection e with e; omega))).trans e0w
      rw [List.getElem_map] at e0
      have htq := ht.out _ (List.getElem_mem hqx)
      have HT : Hid (addW W (ts.take (q + 1)) = addW W (ts.take q) ||| 2 ^ ts[q]) := hide (by
        unfold addW
        rw [List.take_succ_eq_append_getElem hqx, List.foldl_append]
        rfl)
      have hz0 := HZ.out 0
      clear e0w
      generalize ts[q] = t at *
      have h2 := quo64 htq
      have h3 := rem64 htq
      generalize hWW : addW W (ts.take q) = W1 at *
      have e0' : wr.cell? ⟨b, o + q, none⟩ = some (.int .i64 (t : Int)) := e0
      clear e0 hWW
      go_wp2
      go_region
      go_wp2
      rw [bit_add htq HA.out]
      have hgl := HG.out.size
      have kk : wr.grownBy (wr.setCell ⟨g, 0, none⟩ (.int .u64 ((W1 ||| 2 ^ t : Nat) : Int))).drew (some g) := ⟨rfl, rfl, rfl, by simp [World.setCell, World.drew], fun k _ hk => Below.heap_setCell _ _ _ _ (fun e => hk (by rw [e]))⟩
      refine ⟨⟨q + 1, by omega, by go_num, hide (HG.out.andThen kk (fun j hj => by cases hj; exact Or.inr rfl)), ?_, hide ?_, ?_, hide ?_⟩, by simp [RowKit.intOf]; omega⟩
      · exact (World.cell?_setCell_far wr ⟨g, 0, none⟩ ⟨w.heap.size, 0, none⟩ _ (by show g ≠ w.heap.size; omega)).trans hs
      · rw [HT.out]; exact bit_lt htq HA.out
      · rw [HT.out]; exact World.cell?_setCell_same _ _ _ hc
      · intro k; show (wr.setCell _ _).frozen? _ = false; rw [World.frozen?_setCell]; exact HZ.out k
    · have hqn : q = n := by omega
      have HX : Hid (ts.take q = ts) := hide (List.take_of_length_le (by have := hx.out; omega))
      rw [HX.out] at hc HA
      go_wp2
      go_end0
      exact ⟨rfl, HG.out, HA.out, hc, HZ.out⟩
end Go.Proofs.YtlmaodcddbkllaaDoor

/-
  chosen of the program: pointers to fields.
-/
namespace Go.Proofs.YtlmaodcddbkllaaDoor
open Go.RowKit

def ptrV (p : Addr) : Value := .pointer (some p)
/-- Those fields whose mark is set. -/
def keepP : List Bool → List Addr → List Addr
  | k :: ks, p :: ps => if k then p :: keepP ks ps else keepP ks ps
  | _, _ => []
theorem keepP_snoc (ks : List Bool) (ps : List Addr) (k : Bool) (p : Addr) (h : ks.length = ps.length) : keepP (ks ++ [k]) (ps ++ [p]) = keepP ks ps ++ (if k then [p] else []) := by
  induction ks generalizing ps with
  | nil => cases ps with
    | nil => cases k <;> rfl
    | cons q r => simp at h
  | cons x r ih => cases ps with
    | nil => simp at h
    | cons q s => cases x <;> simp [keepP, ih s (by simpa using h)]
theorem keepP_len (ks : List Bool) (ps : List Addr) : (keepP ks ps).length ≤ ps.length := by
  induction ks generalizing ps with
  | nil => simp [keepP]
  | cons x r ih => cases ps with
    | nil => simp [keepP]
    | cons q s => have := ih s; cases x <;> simp [keepP] <;> omega
theorem Tryd.infoPtr : (Tryd.prog.info? 245).map (fun i => (i.zero, i.size, i.bytes)) = some (some (.pointer none), 1, 8) := by kernel_rfl
theorem ptrs_snoc (l : List Addr) (v : Addr) : (l ++ [v]).map ptrV = l.map ptrV ++ [ptrV v] := by simp
theorem own_emptyP (w : World) : (w.alloc (.cells #[] 245)).ownsRow w.heap.size 245 1 (.slice (some ⟨w.heap.size, 0, none⟩) 0 0) 0 [] := by
  have := World.ownsRow_lit (base := w.heap.size) (e := 245) (size := 1) w #[] 0 (by simp) (by simp) rfl
  simpa using this

set_option maxHeartbeats 1000000 in
set_option maxRecDepth 100000 in
theorem chosen_any (ka fa : Option Addr) (kc fc : Nat) (ks : List Bool) (ps : List Addr) (L B : Nat) (w : World) (hB : B ≤ w.heap.size) (hk : Hid (ValsAt w L B ka (ks.map Value.bool))) (hp : Hid (ValsAt w L B fa (ps.map ptrV))) (hl : Hid (ks.length = ps.length)) (hs : ps.length ≤ 1000) :
    Calls Tryd.prog 176 #[.slice ka ks.length kc, .slice fa ps.length fc] w fun e w' => ∃ v, e = .returned v ∧ Below w.heap.size w w' ∧ w'.ownsRow w.heap.size 245 1 v (keepP ks ps).length ((keepP ks ps).map ptrV) := by
  obtain ⟨i0, hi0, hz0, hz1, hz2⟩ := info_parts Tryd.infoPtr
  go_enter Tryd.func176, Tryd.ntmps176
  go_wp2
  go_loopw [5, 11] (fun v i wr => ∃ k : Nat, k ≤ ps.length ∧ i = .int .i64 k ∧ Hid (Below w.heap.size w wr) ∧ Hid (wr.ownsRow w.heap.size 245 1 v (keepP (ks.take k) (ps.take k)).length ((keepP (ks.take k) (ps.take k)).map ptrV))) (fun _ i _ => ps.length - (intOf i).toNat)
  case atStart => exact ⟨0, Nat.zero_le _, rfl, hide (balloc (Below.refl _ _) _), hide (by simpa [keepP] using own_emptyP w)⟩
  case round =>
    obtain ⟨k, hk', rfl, HB, HO⟩ := hrel
    have hwz := HB.out.size
    by_cases hlt : k < ps.length
    · have hkk : k < ks.length := by have := hl.out; omega
      obtain ⟨b1, o1, rfl, ⟨_, hb1⟩, hc1⟩ := (hk.out.keepS (Same.of_below (HB.out.mono hB))) k (by simpa using hkk)
      obtain ⟨b2, o2, rfl, ⟨_, hb2⟩, hc2⟩ := (hp.out.keepS (Same.of_below (HB.out.mono hB))) k (by simpa using hlt)
      rw [List.getElem_map] at hc1 hc2
      unfold ptrV at hc2
      have HT : Hid (keepP (ks.take (k + 1)) (ps.take (k + 1)) = keepP (ks.take k) (ps.take k) ++ (if ks[k] then [ps[k]] else [])) := hide (by rw [List.take_succ_eq_append_getElem hkk, List.take_succ_eq_append_getElem hlt, keepP_snoc _ _ _ _ (by simp only [List.length_take]; omega)])
      have HL : Hid ((keepP (ks.take k) (ps.take k)).length + 1 ≤ 2000) := hide (by have := keepP_len (ks.take k) (ps.take k); simp only [List.length_take] at this; omega)
      generalize ks[k] = K at *
      generalize ps[k] = p at *
      cases K with
      | false =>
        have HO1 : Hid (wr.ownsRow w.heap.size 245 1 u5 (keepP (ks.take (k + 1)) (ps.take (k + 1))).length ((keepP (ks.take (k + 1)) (ps.take (k + 1))).map ptrV)) := hide (by rw [HT.out]; simpa using HO.out)
        go_wp2
        exact ⟨⟨k + 1, by omega, by go_num, HB, HO1⟩, by simp [intOf]; omega⟩
      | true =>
        have HT' : Hid (keepP (ks.take (k + 1)) (ps.take (k + 1)) = keepP (ks.take k) (ps.take k) ++ [p]) := hide (by have := HT.out; simpa using this)
        go_wp2_with (at_builtin; refine wpList_append_own_at _ rfl _ _ 208 rfl w.heap.size 245 i0 (.pointer none) 1 8 Tryd.underlying208 hi0 hz0 hz1 hz2 rfl (by decide) _ _ _ rfl (HO.out.alloc _) ⟨wr.heap.size, 0, none⟩ 1 1 [.pointer (some p)] rfl rfl ?c1 ?c2 ?c3 ?c4 ?c5 ?_)
        case c2 => first | rfl | simp | (intro u hu; simp at hu; subst hu; rfl)
        case c3 => have := HL.out; unfold maxLen; omega
        case c4 => have := HL.out; omega
        case c5 => first | omega | (simp; omega)
        intro v1 w1 hown1 hgrow1 hne1 hat1
        have HO1 : Hid (w1.ownsRow w.heap.size 245 1 v1 (keepP (ks.take (k + 1)) (ps.take (k + 1))).length ((keepP (ks.take (k + 1)) (ps.take (k + 1))).map ptrV)) := hide (by rw [HT'.out, ptrs_snoc, List.length_append]; exact hown1)
        have HB1 : Hid (Below w.heap.size w w1) := hide (grown_below ((HB.out).alloc (by omega) _) hgrow1 (HO.out.alloc _) (Nat.le_refl _) (by simp; omega))
        clear hown1 hgrow1 hne1 hat1
        go_wp2
        exact ⟨⟨k + 1, by omega, by go_num, HB1, HO1⟩, by simp [intOf]; omega⟩
    · have HO2 : Hid (wr.ownsRow w.heap.size 245 1 u5 (keepP ks ps).length ((keepP ks ps).map ptrV)) := hide (by have := HO.out; have e := hl.out; rwa [List.take_of_length_le (by omega), List.take_of_length_le (by omega)] at this)
      go_wp2
      go_ret
      exact ⟨_, rfl, HB.out, HO2.out⟩
end Go.Proofs.YtlmaodcddbkllaaDoor
