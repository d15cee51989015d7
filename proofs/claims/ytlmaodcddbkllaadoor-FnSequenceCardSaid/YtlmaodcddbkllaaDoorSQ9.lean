import Derived.Test.YtlmaodcddbkllaaDoorSQ8
import Derived.Laws.BitsAllLaws
/-
  Sequence: the program's set of registers: one word.
-/
namespace Go.Proofs.YtlmaodcddbkllaaDoor
open Go.RowKit Go.Maps

theorem Tryd.infoU64 : (Tryd.prog.info? 178).map (fun i => (i.zero, i.size, i.bytes)) = some (some (.int .u64 0), 1, 8) := by kernel_rfl
theorem quo64 {t : Nat} (h : t < 64) : (t : Int).tdiv 64 = 0 := by rw [Int.tdiv_eq_ediv_of_nonneg (by omega)]; omega
theorem rem64 {t : Nat} (h : t < 64) : (t : Int).tmod 64 = t := by rw [Int.tmod_eq_emod_of_nonneg (by omega)]; omega
theorem bit_has {W t : Nat} (hW : W < 18446744073709551616) : (bits .and .u64 ((W : Int) / 2 ^ t) 1 == 1) = W.testBit t := by
  have hq : W / 2 ^ t < 18446744073709551616 := Nat.lt_of_le_of_lt (Nat.div_le_self _ _) hW
  have e : ((W : Int) / 2 ^ t) = ((W / 2 ^ t : Nat) : Int) := by simp
  rw [e, show (1 : Int) = ((1 : Nat) : Int) from rfl, u64_and_nat _ _ hq (by decide), Nat.and_one_is_mod, Nat.testBit_eq_decide_div_mod_eq]
  by_cases h : W / 2 ^ t % 2 = 1
  · simp [h]
  · have h0 : W / 2 ^ t % 2 = 0 := by omega
    simp [h0]
theorem bit_add {W t : Nat} (ht : t < 64) (hW : W < 18446744073709551616) : bits .or .u64 (W : Int) (IntKind.u64.wrap (2 ^ t)) = ((W ||| 2 ^ t : Nat) : Int) := by
  have h2 : 2 ^ t < 18446744073709551616 := Nat.lt_of_lt_of_le (Nat.pow_lt_pow_right (by decide) ht) (by decide)
  have e : IntKind.u64.wrap (2 ^ t) = ((2 ^ t : Nat) : Int) := by
    rw [IntKind.wrap_u64]
    have : ((2 ^ t : Nat) : Int) = (2 : Int) ^ t := by simp
    rw [← this]
    exact Int.emod_eq_of_lt (Int.natCast_nonneg _) (Int.ofNat_lt.2 h2)
  rw [e, u64_or_nat _ _ hW h2]
theorem bit_lt {W t : Nat} (ht : t < 64) (hW : W < 18446744073709551616) : W ||| 2 ^ t < 18446744073709551616 := by
  have h2 : 2 ^ t < 2 ^ 64 := Nat.pow_lt_pow_right (by decide) ht
  exact Nat.or_lt_two_pow (n := 64) (by simpa using hW) h2
set_option maxHeartbeats 1000000 in
set_option maxRecDepth 100000 in
theorem newSet_any (w : World) : Calls Tryd.prog 130 #[.int .i64 64] w fun e w' => ∃ g, e = .returned (.agg #[.slice (some ⟨g, 0, none⟩) 1 1]) ∧ w.heap.size ≤ g ∧ Below w.heap.size w w' ∧ w'.cell? ⟨g, 0, none⟩ = some (.int .u64 ((0 : Nat) : Int)) ∧ ∀ q, w'.frozen? ⟨g, q, none⟩ = false := by
  have hmk := run_make_row' (P := Tryd.prog) 89 178 (.int .u64 0) 8 Tryd.underlying89 Tryd.infoU64 rfl .i64 .i64 1 (by omega) (by omega)
  rw [show ((1 : Nat) : Int) = 1 from rfl] at hmk
  go_enter Tryd.func130, Tryd.ntmps130
  go_wp2
  refine bodyPost_ret (v := .agg #[.slice (some ⟨w.heap.size + 1, 0, none⟩) 1 1]) (by simp [results, Tryd.results130, go_sem]) rfl ?_
  exact ⟨w.heap.size + 1, rfl, by omega, balloc (balloc (Below.refl _ _) _) _, by simp [madeCells], fun q => by simp⟩
set_option maxHeartbeats 1000000 in
set_option maxRecDepth 100000 in
theorem has_any (g W t : Nat) (w : World) (ht : t < 64) (hW : W < 18446744073709551616) (hc : w.cell? ⟨g, 0, none⟩ = some (.int .u64 W)) : Calls Tryd.prog 135 #[.agg #[.slice (some ⟨g, 0, none⟩) 1 1], .int .i64 t] w fun e w' => e = .returned (.bool (W.testBit t)) ∧ Below w.heap.size w w' := by
  have h2 := quo64 ht
  have h3 := rem64 ht
  have hg : g < w.heap.size := World.block_lt_of_cell? w _ hc
  have hc2 := fun x => ((balloc (Below.refl w.heap.size w) x).cell (p := ⟨g, 0, none⟩) hg).trans hc
  clear hc
  go_enter Tryd.func135, Tryd.ntmps135
  go_wp2
  go_ret
  exact ⟨ret_bool (bit_has hW), balloc (Below.refl _ _) _⟩
/-- The numbers come into the word. -/
def addW (W : Nat) (ts : List Nat) : Nat := ts.foldl (fun a t => a ||| 2 ^ t) W
set_option maxHeartbeats 1000000 in
set_option maxRecDepth 100000 in
theorem add_any (g W n c : Nat) (a : Option Addr) (ts : List Nat) (L B : Nat) (w : World) (ha : Hid (IntsAt w L B a (ts.map Int.ofNat))) (hx : Hid (n = ts.length)) (hn : n ≤ 64) (ht : Hid (∀ t ∈ ts, t < 64)) (hW : W < 18446744073709551616) (hc : w.cell? ⟨g, 0, none⟩ = some (.int .u64 W)) (hz : ∀ q, w.frozen? ⟨g, q, none⟩ = false) (hB : B ≤ w.heap.size) (hgL : ¬ (L ≤ g ∧ g < B)) :
    Calls Tryd.prog 131 #[.agg #[.slice (some ⟨g, 0, none⟩) 1 1], .slice a n c] w fun e w' => e = .returned (.tuple #[]) ∧ w.grownBy w' (some g) ∧ addW W ts < 18446744073709551616 ∧ w'.cell? ⟨g, 0, none⟩ = some (.int .u64 (addW W ts)) ∧ ∀ q, w'.frozen? ⟨g, q, none⟩ = false := by
  go_enter Tryd.func131, Tryd.ntmps131
  go_wp2
  have HW0 : Hid (IntsAt w L B a (ts.map Int.ofNat)) := ha
  have hg : g < w.heap.size := World.block_lt_of_cell? w _ hc
  go_loopw [8] (fun u wr => ∃ q : Nat, q ≤ n ∧ u = .int .i64 q ∧ Hid (w.grownBy wr (some g)) ∧ wr.cell? ⟨w.heap.size, 0, none⟩ = some (.slice (some ⟨g, 0, none⟩) 1 1) ∧ Hid (addW W (ts.take q) < 18446744073709551616) ∧ wr.cell? ⟨g, 0, none⟩ = some (.int .u64 (addW W (ts.take q))) ∧ Hid (∀ k, wr.frozen? ⟨g, k, none⟩ = false)) (fun u _ => n - (RowKit.intOf u).toNat)
  case atStart => exact ⟨0, Nat.zero_le _, rfl, hide (World.grownBy_alloc _ _ _), by simp, hide (by simpa [addW] using hW), by rw [World.cell?_alloc_lt _ _ _ hg]; simpa [addW] using hc, hide (fun k => by rw [World.frozen?_alloc_old _ _ _ (by show g ≠ _; omega)]; exact hz k)⟩
  case round =>
    clear hc
    obtain ⟨q, hq, rfl, HG, hs, HA, hc, HZ⟩ := hrel
    by_cases hlt : q < n
    · have hqx : q < ts.length := by have := hx.out; omega
      obtain ⟨b, o, rfl, hbB, e0w⟩ := ha.out q (by simpa using hqx)
      have e0 := (cell_of (HG.out.block b (by omega) (fun e => by injection e with e; omega))).trans e0w
      rw [List.getElem_map] at e0
      have htq := ht.out _ (List.getElem_mem hqx)
      have HT : Hid (addW W (ts.take (q + 1)) = addW W (ts.take q) ||| 2 ^ ts[q]) := hide (by
        unfold addW
        rw [List.take_succ_eq_append_getElem hqx, List.foldl_append]
        rfl)
      have hz0 := HZ.out 0
      clear e0w
      generalize ts[q] = t at *
      have h2 := quo64 htq
      have h3 := rem64 htq
      generalize hWW : addW W (ts.take q) = W1 at *
      have e0' : wr.cell? ⟨b, o + q, none⟩ = some (.int .i64 (t : Int)) := e0
      clear e0 hWW
      go_wp2
      go_region
      go_wp2
      rw [bit_add htq HA.out]
      have hgl := HG.out.size
      have kk : wr.grownBy (wr.setCell ⟨g, 0, none⟩ (.int .u64 ((W1 ||| 2 ^ t : Nat) : Int))).drew (some g) := ⟨rfl, rfl, rfl, by simp [World.setCell, World.drew], fun k _ hk => Below.heap_setCell _ _ _ _ (fun e => hk (by rw [e]))⟩
      refine ⟨⟨q + 1, by omega, by go_num, hide (HG.out.andThen kk (fun j hj => by cases hj; exact Or.inr rfl)), ?_, hide ?_, ?_, hide ?_⟩, by simp [RowKit.intOf]; omega⟩
      · exact (World.cell?_setCell_far wr ⟨g, 0, none⟩ ⟨w.heap.size, 0, none⟩ _ (by show g ≠ w.heap.size; omega)).trans hs
      · rw [HT.out]; exact bit_lt htq HA.out
      · rw [HT.out]; exact World.cell?_setCell_same _ _ _ hc
      · intro k; show (wr.setCell _ _).frozen? _ = false; rw [World.frozen?_setCell]; exact HZ.out k
    · have hqn : q = n := by omega
      have HX : Hid (ts.take q = ts) := hide (List.take_of_length_le (by have := hx.out; omega))
      rw [HX.out] at hc HA
      go_wp2
      go_end0
      exact ⟨rfl, HG.out, HA.out, hc, HZ.out⟩
end Go.Proofs.YtlmaodcddbkllaaDoor
