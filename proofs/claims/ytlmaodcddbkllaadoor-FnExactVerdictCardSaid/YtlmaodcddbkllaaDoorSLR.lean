import Derived.Test.YtlmaodcddbkllaaDoorRC1
import Derived.Test.YtlmaodcddbkllaaDoorW7
import Derived.Laws.CopyOwn
/-
  slices.Repeat of the list with one number.
-/
namespace Go.Proofs.YtlmaodcddbkllaaDoor
open Go.RowKit

/-- The builtin copy of cells that are all one value. -/
theorem copy_const (g k n dC b o s sC m : Nat) (v : Value) (f : Nat → Value) (W : World) (hr : W.rowIs g 2 n f) (hk : k ≤ n) (hv : v.oneCell' = true) (hm : m = Nat.min s (n - k)) (hs : ∀ j, j < m → W.cell? ⟨b, o + j, none⟩ = some v) :
    ∃ W', Sem.run Tryd.prog (Builtin.copy_ #[40, 40] 3 #[.slice (some ⟨g, k, none⟩) (n - k) dC, .slice (some ⟨b, o, none⟩) s sC]) W = .ok (goInt m) W' ∧ W.grownBy W' (some g) ∧ W'.rowIs g 2 n (fun i => if k ≤ i ∧ i < k + m then v else f i) := by
  obtain ⟨c, h1, h2, h3⟩ := hr
  have hmn : m ≤ n - k := by rw [hm]; exact Nat.min_le_right _ _
  have h := run_copy_row (P := Tryd.prog) W 40 40 3 2 g k (n - k) dC ⟨b, o, none⟩ s sC c 2 (List.replicate m v) Tryd.underlying40 (by kernel_rfl) h1 (by rw [List.length_replicate]; exact hm) (fun j u hj => by
    rw [List.getElem?_replicate] at hj
    split at hj
    · rename_i hlt
      injection hj with hj
      rw [← hj]
      rw [Addr.add_lit]
      exact hs j hlt
    · cases hj) (by rw [List.length_replicate]; omega) (fun u hu => by rw [List.eq_of_mem_replicate hu]; exact hv)
  rw [List.length_replicate] at h
  refine ⟨_, h, ⟨rfl, rfl, rfl, by simp, fun j _ hj => setRow_other _ _ _ _ (fun e => hj (by rw [e]))⟩, ⟨_, setRow_heap _ _ _ _ _ _ h1, ?_, fun i hi => ?_⟩⟩
  · simp [h2]; omega
  · have hi' : c[i]? = some (f i) := h3 i hi
    simp only [List.getElem?_toArray]
    by_cases a1 : i < k
    · rw [if_neg (by omega), List.getElem?_append_left (by simp; omega), List.getElem?_append_left (by simp; omega), List.getElem?_take_of_lt a1]
      simpa using hi'
    · by_cases a2 : i < k + m
      · rw [if_pos ⟨by omega, a2⟩, List.getElem?_append_left (by simp; omega), List.getElem?_append_right (by simp; omega)]
        simp [List.getElem?_replicate]
        omega
      · rw [if_neg (by omega), List.getElem?_append_right (by simp; omega), List.getElem?_drop]
        have : k + m + (i - (List.take k c.toList ++ List.replicate m v).length) = i := by simp; omega
        rw [this]
        simpa using hi'
theorem and_mask {n : Nat} (hn : n ≤ 1000) : bits .and .u64 (n : Int) 4294967295 = (n : Int) := by
  have h : n &&& 4294967295 = n := by
    have := Nat.and_two_pow_sub_one_eq_mod n 32
    rw [show (2 ^ 32 - 1 : Nat) = 4294967295 from rfl] at this
    rw [this]
    omega
  rw [show (4294967295 : Int) = ((4294967295 : Nat) : Int) from rfl, u64_and_nat _ _ (by omega) (by decide), h]
set_option maxHeartbeats 1000000 in
set_option maxRecDepth 100000 in
theorem mul64_any (n : Nat) (w : World) (hn : n ≤ 1000) :
    Calls Tryd.prog 204 #[.int .u64 1, .int .u64 n] w fun e w' => e = .returned (.tuple #[.int .u64 0, .int .u64 n]) ∧ w' = w := by
  have b1 : bits .and .u64 1 4294967295 = 1 := by decide
  have b0 : bits .and .u64 0 4294967295 = 0 := by decide
  have bn := and_mask hn
  have d0 : (n : Int) / 4294967296 = 0 := by omega
  have wn : IntKind.u64.wrap (n : Int) = n := by simp [IntKind.wrap, IntKind.bits, IntKind.signed]; omega
  have w0 : IntKind.u64.wrap 0 = 0 := by decide
  go_enter Tryd.func204, Tryd.ntmps204
  go_wp2_with fail
  refine bodyPost_ret (v := .tuple #[.int .u64 0, .int .u64 n]) (by simp [results, Tryd.results204, go_sem]) rfl ⟨rfl, rfl⟩
set_option maxHeartbeats 1000000 in
set_option maxRecDepth 100000 in
theorem mul_any (n : Nat) (w : World) (hn : n ≤ 1000) :
    Calls Tryd.prog 174 #[.int .u64 1, .int .u64 n] w fun e w' => e = .returned (.tuple #[.int .u64 0, .int .u64 n]) ∧ w' = w := by
  have HM := hide (fun W => mul64_any n W hn)
  go_enter Tryd.func174, Tryd.ntmps174
  go_wp2_with fail
  refine (HM.out _).mono ?_
  rintro e w1 ⟨rfl, rfl⟩
  go_wp2_with fail
  refine bodyPost_ret (v := .tuple #[.int .u64 0, .int .u64 n]) (by simp [results, Tryd.results174, go_sem]) rfl ⟨rfl, rfl⟩
set_option maxHeartbeats 1000000 in
set_option maxRecDepth 100000 in
theorem repeat_any (b n : Nat) (w : World) (hn : n ≤ 1000) (h0 : 0 < n) (hc : w.cell? ⟨b, 0, none⟩ = some (.int .i64 (-1))) (hb : b < w.heap.size) :
    Calls Tryd.prog 125 #[.slice (some ⟨b, 0, none⟩) 1 1, .int .i64 n] w fun e w' => ∃ g, e = .returned (.slice (some ⟨g, 0, none⟩) n n) ∧ w.heap.size ≤ g ∧ Below w.heap.size w w' ∧ w'.rowIs g 2 n (fun _ => .int .i64 (-1)) := by
  have HM := hide (fun W => mul_any n W hn)
  have hmk := run_make_row' (P := Tryd.prog) 40 2 (.int .i64 0) 8 Tryd.underlying40 Tryd.info2' rfl .i64 .i64 n (by omega) (by omega)
  have hmin : Nat.min 1 (n - 0) = 1 := Nat.min_eq_left (by omega)
  obtain ⟨W1, hcp, hg1, hr1⟩ := copy_const w.heap.size 0 n n b 0 1 1 1 (.int .i64 (-1)) _ (w.alloc (.cells (madeCells #[.int .i64 0] n) 2)) (World.rowIs_made w (.int .i64 0) n 2) (Nat.zero_le _) rfl hmin.symm (fun j hj => by
    have : j = 0 := by omega
    subst this
    exact (World.cell?_alloc_lt _ _ _ hb).trans hc)
  rw [Nat.sub_zero] at hcp
  have HR1 := hide hr1
  have HG1 := hide hg1
  clear hr1 hg1
  go_enter Tryd.func125, Tryd.ntmps125
  go_wp2_with fail
  refine (HM.out _).mono ?_
  rintro e w1 ⟨rfl, hw⟩
  rw [hw]
  clear hw w1
  go_wp2_with fail
  generalize decide ((n : Int) < 0) = br1
  generalize decide (9223372036854775807 < (n : Int)) = br2
  have HR0 : Hid (W1.rowIs w.heap.size 2 n (fun i => .int .i64 (if i < 1 then -1 else 0))) := hide (HR1.out.congr (fun i _ => by by_cases h : i < 1 <;> simp [h]))
  have HB0 : Hid (Below w.heap.size w W1) := hide ((balloc (Below.refl _ w) _).grown HG1.out (by simp) (fun k e => by cases e; exact Nat.le_refl _))
  clear HR1 HG1 hcp hc hmin
  go_loopw [8] (fun u wr => ∃ k : Nat, 1 ≤ k ∧ k ≤ n ∧ u = .int .i64 k ∧ Hid (Below w.heap.size w wr) ∧ Hid (wr.rowIs w.heap.size 2 n (fun i => .int .i64 (if i < k then -1 else 0)))) (fun u _ => n - (intOf u).toNat)
  case atStart => exact ⟨1, Nat.le_refl _, h0, rfl, HB0, HR0⟩
  case round =>
    clear HB0 HR0
    obtain ⟨k, hk1, hkn, rfl, HB, HR⟩ := hrel
    by_cases hlt : k < n
    · obtain ⟨m, hm⟩ : ∃ m, m = Nat.min k (n - k) := ⟨_, rfl⟩
      have hm1 : m ≤ k := by rw [hm]; exact Nat.min_le_left _ _
      have hm2 : m ≤ n - k := by rw [hm]; exact Nat.min_le_right _ _
      have hm3 : 0 < m := by rw [hm]; exact Nat.lt_min.2 ⟨hk1, by omega⟩
      obtain ⟨W2, hcp, hg2, hr2⟩ := copy_const w.heap.size k n (n - k) w.heap.size 0 k n m (.int .i64 (-1)) (fun i => .int .i64 (if i < k then -1 else 0)) wr.drew HR.out hkn rfl hm (fun j hj => by
        rw [Nat.zero_add]
        have := HR.out.cell (i := j) (by omega)
        rw [if_pos (by omega)] at this
        exact this)
      have HR2 : Hid (W2.rowIs w.heap.size 2 n (fun i => .int .i64 (if i < k + m then -1 else 0))) := hide (hr2.congr (fun i _ => by
        by_cases h1 : i < k
        · simp [h1]
          omega
        · by_cases h2 : i < k + m
          · simp [h1, h2]
          · simp [h1, h2]))
      have HB2 : Hid (Below w.heap.size w W2) := hide (HB.out.drew.grown hg2 HB.out.size (fun k e => by cases e; exact Nat.le_refl _))
      clear HB HR hr2 hg2 hm
      go_wp2
      go_region
      go_wp2
      exact ⟨⟨k + m, by omega, by omega, by go_num, HB2, HR2⟩, by simp [intOf]; omega⟩
    · have : k = n := by omega
      subst this
      have HE : Hid (wr.rowIs w.heap.size 2 k (fun _ => .int .i64 (-1))) := hide (HR.out.congr (fun i hi => by simp [hi]))
      clear HR
      go_wp2_with fail
      go_ret
      exact ⟨_, rfl, Nat.le_refl _, HB.out, HE.out⟩
end Go.Proofs.YtlmaodcddbkllaaDoor
