import Derived.Test.YtanaeindldcapaaDoorNSP
import Derived.Test.YtanaeindldcapaaDoorW7
import Derived.Deep.RegionHeld3
namespace Go.Proofs.YtanaeindldcapaaDoor
open Go.RowKit
theorem Tryd.infoU64blockNo : (Tryd.prog.info? 102).map (fun i => (i.zero, i.size, i.bytes)) = some (some (.int .u64 0), 1, 8) := by kernel_rfl
set_option maxHeartbeats 1000000 in
set_option maxRecDepth 100000 in
theorem has_blockNo (g K x : Nat) (W : Nat → Nat) (w : World) (hW : Hid (WdOk W)) (hr : Hid (w.rowIs g 102 K (fun i => .int .u64 (W i)))) (hx : x < 64 * K) (hK : K ≤ 1000) : Calls Tryd.prog 37 #[.agg #[.slice (some ⟨g, 0, none⟩) K K], .int .i64 x] w fun e w' => e = .returned (.bool (hasN W x)) ∧ Below w.heap.size w w' := by
  have h2 := quoN x
  have h3 := remN x
  have hq : x / 64 < K := by omega
  have hm : x % 64 < 64 := Nat.mod_lt _ (by decide)
  have hc := hr.out.cell hq
  have hg := hr.out.lt
  have hc2 := fun o => ((balloc (Below.refl w.heap.size w) o).cell (p := ⟨g, x / 64, none⟩) hg).trans hc
  have HH : Hid ((bits .and .u64 ((W (x / 64) : Int) / 2 ^ (x % 64)) 1 == 1) = hasN W x) := hide (hasN_bit (hW.out _))
  clear hc
  generalize hd : x / 64 = xd at *
  generalize hm2 : x % 64 = xm at *
  generalize W xd = Wd at *
  go_enter Tryd.func37, Tryd.ntmps37
  go_wp2
  go_ret
  exact ⟨ret_boolN HH.out, balloc (Below.refl _ _) _⟩
set_option maxHeartbeats 1000000 in
set_option maxRecDepth 100000 in
theorem newSet_blockNo (room : Nat) (w : World) (hr : room ≤ 60000) : Calls Tryd.prog 36 #[.int .i64 room] w fun e w' => ∃ g, e = .returned (.agg #[.slice (some ⟨g, 0, none⟩) ((room + 63) / 64) ((room + 63) / 64)]) ∧ w.heap.size ≤ g ∧ Below w.heap.size w w' ∧ w'.rowIs g 102 ((room + 63) / 64) (fun _ => .int .u64 ((0 : Nat) : Int)) := by
  have hmk := run_make_row' (P := Tryd.prog) 41 102 (.int .u64 0) 8 Tryd.underlying41 Tryd.infoU64blockNo rfl .i64 .i64 ((room + 63) / 64) (by omega) (by omega)
  have hq : ((room : Int) + 63).tdiv 64 = (((room + 63) / 64 : Nat) : Int) := by rw [Int.tdiv_eq_ediv_of_nonneg (by omega)]; omega
  have hq2 : ((room : Int) + 64 - 1) = (room : Int) + 63 := by omega
  have hK : (room + 63) / 64 ≤ 1000 := by omega
  generalize (room + 63) / 64 = K at *
  go_enter Tryd.func36, Tryd.ntmps36
  go_wp2
  refine bodyPost_ret (v := .agg #[.slice (some ⟨w.heap.size + 1, 0, none⟩) K K]) (by simp [results, Tryd.results36, go_sem]) rfl ?_
  refine ⟨w.heap.size + 1, rfl, by omega, balloc (balloc (Below.refl _ _) _) _, ?_⟩
  have hrow : ∀ ob, ((w.alloc ob).alloc (.cells (madeCells #[.int .u64 0] K) 102)).rowIs (w.heap.size + 1) 102 K (fun _ => .int .u64 0) := fun ob => by
    have := World.rowIs_made (w.alloc ob) (.int .u64 0) K 102
    rwa [World.size_alloc] at this
  exact hrow _
set_option maxHeartbeats 1000000 in
set_option maxRecDepth 100000 in
theorem add_blockNo (g K n c : Nat) (W : Nat → Nat) (a : Option Addr) (ts : List Nat) (L B : Nat) (w : World) (ha : Hid (IntsAt w L B a (ts.map Int.ofNat))) (hx : Hid (n = ts.length)) (hn : n ≤ 4000) (ht : Hid (∀ t ∈ ts, t < 64 * K)) (hK : K ≤ 1000) (hW : Hid (WdOk W)) (hr : Hid (w.rowIs g 102 K (fun i => .int .u64 (W i)))) (hB : B ≤ w.heap.size) (hgL : ¬ (L ≤ g ∧ g < B)) :
    Calls Tryd.prog 38 #[.agg #[.slice (some ⟨g, 0, none⟩) K K], .slice a n c] w fun e w' => e = .returned (.tuple #[]) ∧ w.grownBy w' (some g) ∧ w'.rowIs g 102 K (fun i => .int .u64 (addsN W ts i)) := by
  go_enter Tryd.func38, Tryd.ntmps38
  go_wp2
  have hg : g < w.heap.size := hr.out.lt
  go_loopw [8] (fun u wr => ∃ q : Nat, q ≤ n ∧ u = .int .i64 q ∧ Hid (w.grownBy wr (some g)) ∧ wr.cell? ⟨w.heap.size, 0, none⟩ = some (.slice (some ⟨g, 0, none⟩) K K) ∧ Hid (wr.rowIs g 102 K (fun i => .int .u64 (addsN W (ts.take q) i)))) (fun u _ => n - (intOf u).toNat)
  case atStart => exact ⟨0, Nat.zero_le _, rfl, hide (World.grownBy_alloc _ _ _), by simp, hide (hr.out.alloc _)⟩
  case round =>
    obtain ⟨q, hq, rfl, HG, hs, HR⟩ := hrel
    by_cases hlt : q < n
    · have hqx : q < ts.length := by have := hx.out; omega
      obtain ⟨b, o, rfl, hbB, e0w⟩ := ha.out q (by simpa using hqx)
      have e0 := (cell_of (HG.out.block b (by omega) (fun e => by injection e with e; omega))).trans e0w
      rw [List.getElem_map] at e0
      have htq := ht.out _ (List.getElem_mem hqx)
      have HT := hide (adds_take (W := W) hqx)
      have HWA := hide (adds_wd (ts.take q) hW.out)
      clear e0w
      generalize ts[q] = t at *
      have h2 := quoN t
      have h3 := remN t
      have e0' : wr.cell? ⟨b, o + q, none⟩ = some (.int .i64 (t : Int)) := e0
      clear e0
      generalize addsN W (ts.take q) = W1 at *
      have hd : t / 64 < K := by omega
      have hm : t % 64 < 64 := Nat.mod_lt _ (by decide)
      have ec := HR.out.cell hd
      have ez := HR.out.frozen
      have HOR := hide (orN_bit hm (HWA.out (t / 64)))
      have HAD : Hid (∀ i, (if i = t / 64 then W1 (t / 64) ||| 2 ^ (t % 64) else W1 i) = addsN W (ts.take (q + 1)) i) := hide (fun i => by
        rw [HT.out]
        unfold addN
        by_cases e : i = t / 64
        · rw [if_pos e, if_pos e, e]
        · rw [if_neg e, if_neg e])
      generalize hd2 : t / 64 = td at *
      generalize hm2 : t % 64 = tm at *
      go_wp2
      go_region
      go_wp2
      rw [HOR.out]
      have kk : wr.grownBy (wr.setCell ⟨g, td, none⟩ (.int .u64 ((W1 td ||| 2 ^ tm : Nat) : Int))).drew (some g) := ⟨rfl, rfl, rfl, by simp [World.setCell, World.drew], fun k _ hk => Below.heap_setCell _ _ _ _ (fun e => hk (by rw [e]))⟩
      refine ⟨⟨q + 1, by omega, by go_num, hide (HG.out.andThen kk (fun j hj => by cases hj; exact Or.inr rfl)), ?_, hide ?_⟩, by simp [intOf]; omega⟩
      · exact (World.cell?_setCell_far wr ⟨g, td, none⟩ ⟨w.heap.size, 0, none⟩ _ (by show g ≠ w.heap.size; omega)).trans hs
      · refine World.rowIs.drew ((HR.out.set td _).congr (fun i _ => ?_))
        rw [← HAD.out i]
        by_cases e : i = td <;> simp [e]
    · have hqn : q = n := by omega
      have HX : Hid (ts.take q = ts) := hide (List.take_of_length_le (by have := hx.out; omega))
      rw [HX.out] at HR
      go_wp2
      go_end0
      exact ⟨rfl, HG.out, HR.out⟩
end Go.Proofs.YtanaeindldcapaaDoor
