import Derived.Test.YtjfcbjomfbfoiaaGreatDoorOC1
import Derived.Test.YtjfcbjomfbfoiaaGreatDoorAL1
import Derived.Test.YtjfcbjomfbfoiaaGreatDoorSP0
import Derived.Test.YtjfcbjomfbfoiaaGreatDoorW10
import Derived.Test.YtjfcbjomfbfoiaaGreatDoorW7
import Derived.Test.YtjfcbjomfbfoiaaGreatDoorFV1
import Derived.Test.YtjfcbjomfbfoiaaGreatDoorPL2
import Derived.Test.YtjfcbjomfbfoiaaGreatDoorWS0
import Derived.Test.YtjfcbjomfbfoiaaGreatDoorNV1
import Derived.Test.YtjfcbjomfbfoiaaGreatDoorW14b
namespace Go.Proofs.YtjfcbjomfbfoiaaGreatDoor
open Go.RowKit
/-- How many are in a set. -/
def cntN (W : Nat → Nat) (K : Nat) : Nat := (List.range (64 * K)).countP fun x => hasN W x
theorem cnt_step (W : Nat → Nat) (K : Nat) : cntN W (K + 1) = cntN W K + onesN 8 (W K) := by
  unfold cntN onesN
  have e : 64 * (K + 1) = 64 * K + 8 * 8 := by omega
  rw [e, List.range_add, List.countP_append, List.countP_map]
  congr 1
  apply List.countP_congr
  intro i hi
  have : i < 64 := List.mem_range.1 hi
  have e1 : (64 * K + i) / 64 = K := by omega
  have e2 : (64 * K + i) % 64 = i := by omega
  simp only [Function.comp, hasN, e1, e2]
theorem cnt_le (W : Nat → Nat) (K : Nat) : cntN W K ≤ 64 * K := Nat.le_trans (List.countP_le_length) (by simp)
set_option maxHeartbeats 1000000 in
set_option maxRecDepth 100000 in
theorem count_valueNo (g K C : Nat) (W : Nat → Nat) (w : World) (hW : Hid (WdOk W)) (hr : Hid (WsAt w g K C W)) (hK : K ≤ 1000) :
    Calls Tryz.prog 43 #[.agg #[.slice (some ⟨g, 0, none⟩) K C]] w fun e w' => e = .returned (.int .i64 (cntN W K : Nat)) ∧ Below w.heap.size w w' := by
  have hg := hr.out.lt
  go_enter Tryz.func43, Tryz.ntmps43
  go_wp2
  go_loopw [3, 9] (fun u i wr => ∃ k : Nat, k ≤ K ∧ i = .int .i64 k ∧ u = .int .i64 (cntN W k : Nat) ∧ Hid (Below w.heap.size w wr)) (fun _ i _ => K - (intOf i).toNat)
  case atStart => exact ⟨0, Nat.zero_le _, rfl, rfl, hide (balloc (Below.refl _ _) _)⟩
  case round =>
    obtain ⟨k, hk, rfl, rfl, HB⟩ := hrel
    by_cases hlt : k < K
    · have hc := (HB.out.cell (p := ⟨g, k, none⟩) hg).trans (hr.out.cell hlt)
      have hwk := hW.out k
      have HS := hide (cnt_step W k)
      have hle := cnt_le W k
      have hle2 := cnt_le W (k + 1)
      rw [HS.out] at hle2
      generalize cntN W k = c0 at *
      generalize W k = Wk at *
      have HO := hide (ones_any Wk wr hwk)
      generalize onesN 8 Wk = o at *
      go_wp2_with (go_at_call 83; refine HO.out.mono ?_; rintro e w2 ⟨rfl, hw2⟩; rw [hw2]; clear hw2 w2)
      exact ⟨⟨k + 1, by omega, by go_num, by rw [HS.out]; go_num, HB⟩, by simp [intOf]; omega⟩
    · have e : k = K := by omega
      subst e
      go_wp2
      go_ret
      exact ⟨rfl, HB.out⟩
end Go.Proofs.YtjfcbjomfbfoiaaGreatDoor

namespace Go.Proofs.YtjfcbjomfbfoiaaGreatDoor
open Go.RowKit Go.Shelf
attribute [local go_sem] Oper.semAt_some
theorem Tryz.infoI64 : (Tryz.prog.info? 2).map (fun i => (i.zero, i.size, i.bytes)) = some (some (.int .i64 0), 1, 8) := by kernel_rfl
theorem ls_cnt (W : Nat → Nat) (K : Nat) : cntN W K = (lsN W (64 * K)).length := by
  unfold cntN lsN
  rw [List.countP_eq_length_filter]
/-- While the numbers are appended. -/
structure LiI (w : World) (n₀ Bo Bs : Nat) (sv : Value) (pre : List Nat) (V : World) : Prop where
  low : Below w.heap.size w V
  ge : w.heap.size ≤ Bo ∧ Bo ≠ Bs
  sz : n₀ ≤ V.heap.size
  bs : V.heap[Bs]? = some (.cells #[sv] 65)
  own : ∃ v, V.heap[Bo]? = some (.cells #[v] 52) ∧ V.ownsRow w.heap.size 2 1 v pre.length ((natI pre).map (Value.int .i64))
theorem box_set {V : World} {Bo T : Nat} {v v' : Value} (h : V.heap[Bo]? = some (.cells #[v] T)) : (V.setCell ⟨Bo, 0, none⟩ v').heap[Bo]? = some (.cells #[v'] T) := by
  simp [World.setCell, Array.getElem?_modify, h]
theorem box_cell {V : World} {Bo T : Nat} {v : Value} (h : V.heap[Bo]? = some (.cells #[v] T)) : V.cell? ⟨Bo, 0, none⟩ = some v := by simp [World.cell?, h]
theorem box_thaw {V : World} {Bo T : Nat} {v : Value} (h : V.heap[Bo]? = some (.cells #[v] T)) : V.frozen? ⟨Bo, 0, none⟩ = false := by simp [World.frozen?, h]
theorem own_not {V : World} {Bo T base e n : Nat} {u v : Value} {xs : List Value} (h : V.heap[Bo]? = some (.cells #[u] T)) (ho : V.ownsRow base e 1 v n xs) (hT : T ≠ e) : v.ownBlock ≠ some Bo := fun hb => by
  rcases ho.2 with ⟨rfl, _⟩ | ⟨g, cap, cur, rfl, _, h1, _⟩
  · cases hb
  · injection hb with hb
    subst hb
    rw [show V.heap[g]? = some (.cells #[u] T) from h] at h1
    injection h1 with h1
    injection h1 with _ h2
    exact hT h2
theorem LiI.ofGrown {w A V : World} {n₀ Bo Bs : Nat} {sv : Value} {pre : List Nat} {row : Option Nat} (h : LiI w n₀ Bo Bs sv pre A) (k : A.grownBy V row) (q : ∀ r, row = some r → w.heap.size ≤ r ∧ ∃ o : Obj, A.heap[r]? = some o ∧ o.isCells = false) : LiI w n₀ Bo Bs sv pre V := by
  obtain ⟨v, h1, h2⟩ := h.own
  have hq : ∀ {b : Nat} {c : Array Value} {T : Nat}, A.heap[b]? = some (.cells c T) → V.heap[b]? = some (.cells c T) := fun {b c T} hb => by
    refine (k.block b (Array.getElem?_eq_some_iff.1 hb).1 (fun e => ?_)).trans hb
    obtain ⟨_, o, h3, h4⟩ := q b e.symm
    rw [hb] at h3
    injection h3 with h3
    subst h3
    cases h4
  refine ⟨⟨k.os.trans h.low.os, k.tape.trans h.low.tape, k.output.trans h.low.output, Nat.le_trans h.low.size k.size, fun b hb => (k.block b (Nat.lt_of_lt_of_le hb h.low.size) (fun e => by have := (q b e.symm).1; omega)).trans (h.low.block b hb)⟩, h.ge, Nat.le_trans h.sz k.size, hq h.bs, v, hq h1, h2.kept k ?_⟩
  rcases h2.2 with ⟨rfl, _⟩ | ⟨g, cap, cur, rfl, _, h3, _⟩
  · exact Or.inl rfl
  · refine Or.inr (fun e => ?_)
    obtain ⟨_, o, h4, h5⟩ := q g e.symm
    rw [h3] at h4
    injection h4 with h4
    subst h4
    cases h5
theorem LiI.own' {w : World} {n₀ Bo Bs n : Nat} {sv : Value} (hn : w.heap.size ≤ n) : OwnFrom n (LiI w n₀ Bo Bs sv) := fun _ _ _ _ h k q => h.ofGrown k (fun r e => ⟨Nat.le_trans hn (q r e).1, (q r e).2⟩)
theorem LiI.next {w U u1 : World} {n₀ Bo Bs x : Nat} {sv v v1 : Value} {pre : List Nat} {ob : Obj} (h : LiI w n₀ Bo Bs sv pre U) (hbx : U.heap[Bo]? = some (.cells #[v] 52)) (hown : U.ownsRow w.heap.size 2 1 v pre.length ((natI pre).map (Value.int .i64))) (hg : (U.alloc ob).grownBy u1 v.ownBlock) (ho : u1.ownsRow w.heap.size 2 1 v1 (pre ++ [x]).length ((natI (pre ++ [x])).map (Value.int .i64))) :
    KeepsOthers U (u1.setCell ⟨Bo, 0, none⟩ v1) ∧ KpB n₀ (fun q => w.heap.size ≤ q ∧ q ≠ Bs) U (u1.setCell ⟨Bo, 0, none⟩ v1) ∧ LiI w n₀ Bo Bs sv (pre ++ [x]) (u1.setCell ⟨Bo, 0, none⟩ v1) := by
  have hz : U.heap.size ≤ u1.heap.size := Nat.le_trans (by simp) hg.size
  have hzs : (u1.setCell ⟨Bo, 0, none⟩ v1).heap.size = u1.heap.size := by simp [World.setCell]
  have hbl : ∀ b, b < U.heap.size → b ≠ Bo → v.ownBlock ≠ some b → (u1.setCell ⟨Bo, 0, none⟩ v1).heap[b]? = U.heap[b]? := fun b h1 h2 h3 => (Below.heap_setCell _ _ _ _ (fun e => h2 e)).trans ((hg.block b (by simp; omega) (fun e => h3 e.symm)).trans (Below.heap_alloc _ _ _ h1))
  have hn1 : ∀ b, b < w.heap.size → v.ownBlock ≠ some b := fun b hb e => by have := (hown.lt b e).1; omega
  have hn2 : v.ownBlock ≠ some Bs := own_not h.bs hown (by decide)
  have hge := h.ge
  have hlw := h.low.size
  have hkk : ∀ b, b < U.heap.size → ¬ (w.heap.size ≤ b ∧ b ≠ Bs) → (u1.setCell ⟨Bo, 0, none⟩ v1).heap[b]? = U.heap[b]? := fun b h1 h2 => by
    by_cases e : b = Bs
    · exact hbl b h1 (by omega) (by rw [e]; exact hn2)
    · have : b < w.heap.size := Nat.lt_of_not_le (fun h3 => h2 ⟨h3, e⟩)
      exact hbl b h1 (by omega) (hn1 b this)
  have hb1 : u1.heap[Bo]? = some (.cells #[v] 52) := (hg.block Bo (by have := (Array.getElem?_eq_some_iff.1 hbx).1; simp; omega) (fun e => own_not hbx hown (by decide) e.symm)).trans ((Below.heap_alloc _ _ _ (Array.getElem?_eq_some_iff.1 hbx).1).trans hbx)
  refine ⟨⟨by omega, fun k o h1 h2 => ?_⟩, ⟨by omega, fun k h1 h2 => hkk k (Nat.lt_of_lt_of_le h1 h.sz) h2, fun k o h1 h2 _ => (hkk k (Array.getElem?_eq_some_iff.1 h2).1 h1).trans h2⟩, ⟨⟨hg.os.trans h.low.os, hg.tape.trans h.low.tape, hg.output.trans h.low.output, by omega, fun b hb => (hbl b (by omega) (by omega) (hn1 b hb)).trans (h.low.block b hb)⟩, h.ge, by have := h.sz; omega, (hbl Bs (Array.getElem?_eq_some_iff.1 h.bs).1 (fun e => hge.2 e.symm) hn2).trans h.bs, v1, box_set hb1, ?_⟩⟩
  · refine (hbl k (Array.getElem?_eq_some_iff.1 h1).1 (fun e => ?_) (fun e => ?_)).trans h1
    · subst e
      rw [hbx] at h1
      injection h1 with h1
      subst h1
      cases h2
    · rcases hown.2 with ⟨rfl, _⟩ | ⟨g, cap, cur, rfl, _, h3, _⟩
      · cases e
      · injection e with e
        have e : g = k := e
        subst e
        rw [h3] at h1
        injection h1 with h1
        subst h1
        cases h2
  · exact ho.kept (row := some Bo) ⟨rfl, rfl, rfl, by omega, fun k _ hk => Below.heap_setCell _ _ _ _ (fun e => hk (by rw [e]))⟩ (Or.inr (own_not hb1 ho (by decide)))
set_option maxHeartbeats 2000000 in
set_option maxRecDepth 100000 in
theorem list_valueNo (g Kw C : Nat) (W : Nat → Nat) (w : World) (hwd : Hid (WdOk W)) (hg : Hid (WsAt w g Kw C W)) (hT : Hid (TzTab w)) (hK : Kw ≤ 100) :
    Calls Tryz.prog 34 #[.agg #[.slice (some ⟨g, 0, none⟩) Kw C]] w fun e w' => ∃ v, e = .returned v ∧ Below w.heap.size w w' ∧ w'.ownsRow w.heap.size 2 1 v (lsN W (64 * Kw)).length ((natI (lsN W (64 * Kw))).map (Value.int .i64)) := by
  obtain ⟨i0, hi0, hq0, hq1, hq2⟩ := info_parts Tryz.infoI64
  have hcn := cnt_le W Kw
  have HLS := hide (ls_cnt W Kw)
  generalize hcc : cntN W Kw = cc at *
  have hmk : ∀ w, (Instr.makeSlice 52 (.int .i64 0) (.int .i64 (cc : Int))).run Tryz.prog w = .ok (.slice (some ⟨w.heap.size, 0, none⟩) 0 cc) (w.alloc (.cells (madeCells #[.int .i64 0] cc) 2)) := fun w => by
    have hr := run_make (P := Tryz.prog) w 52 2 i0 (.int .i64 0) Tryz.underlying52 hi0 hq0 .i64 .i64 0 cc (by omega) (by omega) (by rw [hq2]; omega) (by omega)
    simp only [Int.toNat_natCast, hq1, Nat.mul_one] at hr
    exact hr
  refine (callsIn_wide (n := 8)).1 ?_
  refine callsIn_of_wp_marks Tryz.func34 rfl trivial ?_ rfl
  simp only [Tryz.ntmps34, List.size_toArray, List.length_cons, List.length_nil, Nat.reduceAdd, Nat.reduceSub, Array.replicate_succ, Array.replicate_zero, List.push_toArray, List.append_toArray, List.nil_append, List.cons_append]
  gi_wp2
  have HB0 : Hid (Below w.heap.size w (w.alloc (.cells #[.slice (some ⟨g, 0, none⟩) Kw C] 65))) := hide (balloc (Below.refl _ _) _)
  have hc0 : (w.alloc (.cells #[.slice (some ⟨g, 0, none⟩) Kw C] 65)).cell? ⟨w.heap.size, 0, none⟩ = some (.slice (some ⟨g, 0, none⟩) Kw C) := by simp [go_sem]
  generalize w.alloc (.cells #[.slice (some ⟨g, 0, none⟩) Kw C] 65) = w0 at *
  have hgl := hg.out.lt
  have HC := hide (count_valueNo g Kw C W w0 hwd (hide (hg.out.of_block (HB0.out.block g hgl))) (by omega))
  rw [hcc] at HC
  refine ⟨trivial, (callsIn_wide.2 HC.out).mono ?_⟩
  rintro e w1 ⟨rfl, hb1⟩
  have HB1 := hide (bnext HB0.out hb1)
  have hc1 := (hb1.cell (p := ⟨w.heap.size, 0, none⟩) (World.block_lt_of_cell? w0 _ hc0)).trans hc0
  have hl1 : w.heap.size < w1.heap.size := World.block_lt_of_cell? w1 _ hc1
  have hc2 : ∀ o1 o2, ((w1.alloc o1).alloc o2).cell? ⟨w.heap.size, 0, none⟩ = some (.slice (some ⟨g, 0, none⟩) Kw C) := fun o1 o2 => (World.cell?_alloc_lt _ o2 ⟨w.heap.size, 0, none⟩ (by simp; omega)).trans ((World.cell?_alloc_lt _ o1 ⟨w.heap.size, 0, none⟩ hl1).trans hc1)
  clear hb1 HC hc0 HB0 hc1
  gi_wp2
  have HB2 : Hid (Below w.heap.size w ((w1.alloc (.cells (madeCells #[.int .i64 0] cc) 2)).alloc (.cells #[.slice (some ⟨w1.heap.size, 0, none⟩) 0 cc] 52))) := hide (balloc (balloc HB1.out _) _)
  have hz2 : ((w1.alloc (.cells (madeCells #[.int .i64 0] cc) 2)).alloc (.cells #[.slice (some ⟨w1.heap.size, 0, none⟩) 0 cc] 52)).heap.size = w1.heap.size + 2 := by simp
  have hbx : ((w1.alloc (.cells (madeCells #[.int .i64 0] cc) 2)).alloc (.cells #[.slice (some ⟨w1.heap.size, 0, none⟩) 0 cc] 52)).heap[w1.heap.size + 1]? = some (.cells #[.slice (some ⟨w1.heap.size, 0, none⟩) 0 cc] 52) := by
    have := World.alloc_heap_new (w1.alloc (.cells (madeCells #[.int .i64 0] cc) 2)) (.cells #[.slice (some ⟨w1.heap.size, 0, none⟩) 0 cc] 52)
    rwa [World.size_alloc] at this
  have how : ((w1.alloc (.cells (madeCells #[.int .i64 0] cc) 2)).alloc (.cells #[.slice (some ⟨w1.heap.size, 0, none⟩) 0 cc] 52)).ownsRow w.heap.size 2 1 (.slice (some ⟨w1.heap.size, 0, none⟩) 0 cc) 0 [] := (World.ownsRow_made (base := w.heap.size) (e := 2) (size := 1) w1 (madeCells #[.int .i64 0] cc) cc (by omega) (by unfold maxLen; omega) (by simp [size_madeCells])).alloc _
  have hs2 := hc2 (.cells (madeCells #[.int .i64 0] cc) 2) (.cells #[.slice (some ⟨w1.heap.size, 0, none⟩) 0 cc] 52)
  generalize (w1.alloc (.cells (madeCells #[.int .i64 0] cc) 2)).alloc (.cells #[.slice (some ⟨w1.heap.size, 0, none⟩) 0 cc] 52) = w2 at *
  have HOW2 := hide how
  have HBX2 := hide hbx
  clear hbx how hc2 hmk
  refine ⟨trivial, (all_in 7 (some ⟨g, 0, none⟩) Kw C w2).mono ?_⟩
  rintro e w3 ⟨rfl, hw3⟩
  have hb3 : Below w2.heap.size w2 w3 := by rw [hw3]; exact balloc (Below.refl _ _) _
  have hz3 : w3.heap.size = w2.heap.size + 1 := by rw [hw3]; simp
  have hs3 : w3.cell? ⟨w2.heap.size, 0, none⟩ = some (.slice (some ⟨g, 0, none⟩) Kw C) := by rw [hw3]; simp [go_sem]
  have HI3 : Hid (LiI w w3.heap.size (w1.heap.size + 1) (w1.heap.size + 2) (.slice (some ⟨g, 0, none⟩) Kw C) [] w3) := hide ⟨bnext HB2.out hb3, by omega, Nat.le_refl _, by rw [hw3, ← hz2]; exact World.alloc_heap_new w2 _, _, (hb3.block _ (by omega)).trans HBX2.out, HOW2.out.kept (row := none) ⟨hb3.os, hb3.tape, hb3.output, hb3.size, fun k hk _ => hb3.block k hk⟩ (Or.inr (fun e => by cases e))⟩
  have hgt : (1 : Nat) < w.heap.size := World.block_lt_of_cell? w _ (hT.out 0 (by decide))
  have HG3 : Hid (WsAt w3 g Kw C W) := hide (hg.out.of_block (HI3.out.low.block g hgl))
  have HT3 : Hid (TzTab w3) := hide (hT.out.of_block (HI3.out.low.block _ hgt))
  rw [hz2] at hs3
  have hlen : cc ≤ 6400 := by omega
  have hz3' : w1.heap.size + 3 = w3.heap.size := by omega
  have HZ3 := hide hz3'
  clear hw3 hb3 HOW2 HBX2 HB2 HB1 hz3 hz3'
  gi_wp2
  refine rangeN (F := Fence.wide) (n := 8) rfl (by decide) (gf := 84) (lb := #[.pointer (some ⟨w1.heap.size + 2, 0, none⟩)]) rfl trivial (enters_of Tryz.func84 (by kernel_rfl) rfl) (all_seq (w1.heap.size + 2) g Kw C W (fun q => w.heap.size ≤ q ∧ q ≠ w1.heap.size + 2) w3 hs3 HG3 hwd HT3 hK (hide ?m2) (hide ?m3)) (fun _ _ _ _ h _ _ => h) (fun h k => h.trans k) (fun W l o o' h1 h2 h3 => KpB.putObj W l o o' h1 h2 h3) (Below.refl _ _) (fun _ => rfl)
    (LiI w w3.heap.size (w1.heap.size + 1) (w1.heap.size + 2) (.slice (some ⟨g, 0, none⟩) Kw C)) (LiI.own' HI3.out.low.size) HI3.out
    (fun x a' U => a' = ⟨#[.agg #[.slice (some ⟨g, 0, none⟩) Kw C], .pointer (some ⟨w.heap.size, 0, none⟩), .slice none 0 0, .pointer (some ⟨w1.heap.size + 1, 0, none⟩), .int .i64 (x : Int), .agg #[.slice (some ⟨g, 0, none⟩) Kw C], .int .i64 (cc : Int), .slice (some ⟨w1.heap.size, 0, none⟩) 0 cc, .agg #[.slice (some ⟨g, 0, none⟩) Kw C], .func (.func 84) #[] #[.pointer (some ⟨w1.heap.size + 2, 0, none⟩)], .int .i64 (x : Int), undef, undef, undef, undef, undef], []⟩) (fun _ _ _ _ _ _ h _ _ => h) ?assign ?body ?done
  case m2 => intro h; omega
  case m3 => intro h; have := h.1; omega
  case assign =>
    intro l pre x U K hI hP hKK
    have HII := hide hI
    have HKK := hide hKK
    clear hI hKK
    gi_wp2
    exact HKK.out _ _ (KeepsOthers.refl _) (KpB.refl _) HII.out trivial rfl
  case body =>
    rintro l pre x a' U hI _ rfl hlt
    obtain ⟨v, hbx, hown⟩ := hI.own
    have hc := box_cell hbx
    have ht := box_thaw hbx
    have HBX := hide hbx
    have HOW := hide hown
    have HII := hide hI
    have HNB := hide (own_not hbx hown (by decide))
    have hlb : w1.heap.size + 1 < U.heap.size := (Array.getElem?_eq_some_iff.1 hbx).1
    rw [← HLS.out] at hlt
    have hca := fun o => (World.cell?_alloc_lt U o ⟨w1.heap.size + 1, 0, none⟩ hlb).trans hc
    have hzU := HII.out.low.size
    clear hI hbx hown
    gi_wp2_with (gi_at_builtin; refine wpListIn_append_own _ rfl _ _ 52 rfl w.heap.size 2 i0 (.int .i64 0) 1 8 Tryz.underlying52 hi0 hq0 hq1 hq2 rfl (by decide) _ _ _ rfl (HOW.out.alloc _) ⟨U.heap.size, 0, none⟩ 1 1 [.int .i64 (x : Int)] rfl rfl ?c1 ?c2 ?c3 ?c4 ?c5 ?_)
    case c1 =>
      intro j u hj
      match j, hj with
      | 0, hj => simp at hj; subst hj; simp [Addr.add, go_sem]
    case c2 => intro u hu; simp at hu; subst hu; rfl
    case c3 => unfold maxLen; omega
    case c4 => omega
    case c5 => simp; omega
    intro v1 u1 hown1 hgrow1 _
    rw [show (natI pre).map (Value.int .i64) ++ [Value.int .i64 (x : Int)] = (natI (pre ++ [x])).map (Value.int .i64) by simp [natI]] at hown1
    obtain ⟨av, cv, hv, _⟩ := ints_owned hown1
    have HO1 := hide hown1
    have HV := hide hv
    have hbx1 : u1.heap[w1.heap.size + 1]? = some (.cells #[v] 52) := (hgrow1.block _ (by simp; omega) (fun e => HNB.out e.symm)).trans ((Below.heap_alloc _ _ _ hlb).trans HBX.out)
    have hc1 := box_cell hbx1
    have ht1 := box_thaw hbx1
    have HBX1 := hide hbx1
    have HG1 := hide hgrow1
    clear hbx1 hgrow1 hca hc ht hown1
    rw [hv]
    clear hv
    gi_wp2
    rw [← HV.out]
    exact HII.out.next HBX.out HOW.out HG1.out (by rw [List.length_append]; exact HO1.out)
  case done =>
    rintro D xs U hD rfl hI hKD
    have HII := hide hI
    obtain ⟨v, hbx, _⟩ := hI.own
    have hc := box_cell hbx
    clear hI hbx
    have HKD := hide hKD
    clear hKD
    gi_wp2
    refine leaves_one HKD.out ⟨v, by simp [results, Tryz.results34, go_sem], v, rfl, ?_⟩
    have hI2 := HII.out.ofGrown (grownBy_putObj' U D (.deferred none)) (fun r e => by cases e; exact ⟨Nat.le_trans HI3.out.low.size hD, _, HKD.out, rfl⟩)
    obtain ⟨v2, hb2, ho2⟩ := hI2.own
    have he : v2 = v := by
      have h1 := box_cell hb2
      rw [World.cell?_of_block (a := ⟨w1.heap.size + 1, 0, none⟩) (World.putObj_heap_other (show w1.heap.size + 1 ≠ D by have := HZ3.out; omega)), hc] at h1
      injection h1 with h1
      exact h1.symm
    subst he
    exact ⟨hI2.low, ho2⟩
end Go.Proofs.YtjfcbjomfbfoiaaGreatDoor

namespace Go.Proofs.YtjfcbjomfbfoiaaGreatDoor
open Go.RowKit
variable {F : Fence} {n : Nat} {P : Program} {α : Type}
theorem RecAt.keepsF {W V : World} {D : Nat} {r : Loop} (h : RecAt W D r) (k : KeepsFrom D W V) : RecAt V D r := ⟨k.same _ _ (by omega) h.1 rfl, k.same _ _ (Nat.le_refl _) h.2 rfl⟩
theorem keepsFrom_mono {A V : World} {B B' : Nat} (h : KeepsFrom B A V) (hB : B ≤ B') : KeepsFrom B' A V := ⟨h.size, fun k o h1 h2 h3 => h.same k o (by omega) h2 h3⟩
end Go.Proofs.YtjfcbjomfbfoiaaGreatDoor

namespace Go.Proofs.YtjfcbjomfbfoiaaGreatDoor
open Go.RowKit Go.Shelf
attribute [local go_sem] Oper.semAt_some
set_option maxHeartbeats 1000000 in
theorem side_in (n : Nat) (v0 v1 v2 v3 v4 v5 : Value) (g Kw C : Nat) (w : World) :
    CallsIn Fence.wide n Tryz.prog 38 #[.agg #[v0, v1, v2, v3, v4, v5], .agg #[.slice (some ⟨g, 0, none⟩) Kw C]] w fun e w' => e = .returned (.func (.func 80) #[] #[.pointer (some ⟨w.heap.size + 1, 0, none⟩), .pointer (some ⟨w.heap.size, 0, none⟩)]) ∧ w' = (w.alloc (.cells #[v0, v1, v2, v3, v4, v5] 79)).alloc (.cells #[.slice (some ⟨g, 0, none⟩) Kw C] 65) := by
  refine callsIn_of_wp Tryz.func38 rfl trivial ?_ rfl
  simp only [Tryz.ntmps38, List.size_toArray, List.length_cons, List.length_nil, Nat.reduceAdd, Nat.reduceSub, Array.replicate_succ, Array.replicate_zero, List.push_toArray, List.append_toArray, List.nil_append, List.cons_append]
  gi_wp2
  go_ret
  exact ⟨rfl, rfl⟩
end Go.Proofs.YtjfcbjomfbfoiaaGreatDoor

namespace Go.Proofs.YtjfcbjomfbfoiaaGreatDoor
open Go.RowKit
variable {F : Fence} {n : Nat} {P : Program} {α : Type}
/-- The iterator's promise. J: between two rounds, z the walker's own row; Jx: where a round has said no more; Sp: what can be said of a part that has come. turn: the row z may be turned; vary: z may be another at each round. -/
def SeqS (F : Fence) (n : Nat) (P : Program) (g : Nat) (lb : Array Value) (encs : Nat → α → Array Value) (Px : Nat → α → World → Prop) (Kp : World → World → Prop) (S Sp : List α → Prop) (N : Nat) (turn vary : Prop) (w : World) : Prop :=
  ∀ (l : Nat) (J : Nat → List α → World → Prop) (Jx : List α → World → Prop) (W : World), Below w.heap.size w W → l < W.heap.size → (∀ z, OwnFrom W.heap.size (J z)) → OwnFrom W.heap.size Jx → (turn → ∀ z s V V', W.heap.size ≤ z → J z s V → V.grownBy V' (some z) → J z s V') →
    (vary → (∀ z z' s V V', W.heap.size ≤ z' → J z s V → Below W.heap.size V V' → J z' s V') ∧ ∀ s V V', Jx s V → Below W.heap.size V V' → Jx s V') →
    (∀ z pre x V, W.heap.size ≤ z → J z pre V → Px z x V → pre.length < N → YieldAt F (n - 1) P l (encs z x) V fun e V' => (e = .returned (.bool true) ∧ J z (pre ++ [x]) V' ∧ Kp V V' ∧ KeepsFrom W.heap.size V V') ∨ (e = .returned (.bool false) ∧ Jx (pre ++ [x]) V' ∧ Kp V V' ∧ KeepsFrom W.heap.size V V')) →
    (∀ z V, W.heap.size ≤ z → z < V.heap.size → Below W.heap.size W V → J z [] V) → CallsIn F n P g (#[.func (.yield l) #[] #[]] ++ lb) W fun e V => (∃ v, e = .returned v) ∧ ((∃ z xs, W.heap.size ≤ z ∧ S xs ∧ J z xs V) ∨ ∃ pre, Sp pre ∧ Jx pre V)
/-- How the body of a round may be left. -/
def ownPostS {α : Type} (B : Nat) (Kp : World → World → Prop) (I : List α → World → Prop) (Ix : Code → List α → World → Prop) (xs : List α) (W : World) : Exit → Act → World → Prop
  | .normal, _, W' => KeepsFrom B W W' ∧ Kp W W' ∧ I xs W'
  | .ret, _, W' => KeepsFrom B W W' ∧ Kp W W' ∧ Ix .ret xs W'
  | .exit id, _, W' => KeepsFrom B W W' ∧ Kp W W' ∧ Ix (.exit id) xs W'
  | .goto t, _, W' => KeepsFrom B W W' ∧ Kp W W' ∧ Ix (.goto t) xs W'
  | .panic _, _, _ => False
  | .outgrown, _, _ => False
theorem rangeS {g : Operand} {ps : Array Tmp} {asg bo : Code} {Q : Exit → Act → World → Prop} {a : Act} {w : World} (hro : F.round = none) (h1 : 1 ≤ n) {gf : Nat} {lb : Array Value} (hg : a.eval g = .func (.func gf) #[] lb) (hFg : F.fn gf) (eg : ∀ args w, (callFunc gf args).run P w = .ok (.enter gf args) w)
    {encs : Nat → α → Array Value} {Px : Nat → α → World → Prop} {Kp : World → World → Prop} {S Sp : List α → Prop} {N : Nat} {turn vary : Prop} {w0 : World} (hseq : SeqS F (n - 1) P gf lb encs Px Kp S Sp N turn vary w0) (hPx : ∀ z, OwnFrom w.heap.size (Px z)) (hKt : ∀ {A B C : World}, Kp A B → Kp B C → Kp A C) (hKb : ∀ (W : World) (l : Nat) (o o' : Obj), w.heap.size ≤ l → W.heap[l]? = some o → o.isCells = false → Kp W (W.putObj l o')) (hb0 : Below w0.heap.size w0 w) (hps : ∀ z x, (encs z x).size = ps.size)
    (I : Nat → List α → World → Prop) (Ix : Code → List α → World → Prop) (hI : ∀ z, OwnFrom w.heap.size (I z)) (hIx : ∀ c, OwnFrom w.heap.size (Ix c)) (hIz : turn → ∀ z s V V', w.heap.size ≤ z → I z s V → V.grownBy V' (some z) → I z s V') (hvar : vary → (∀ z z' s V V', w.heap.size ≤ z' → I z s V → Below (w.heap.size + 2) V V' → I z' s V') ∧ ∀ c s V V', Ix c s V → Below (w.heap.size + 2) V V' → Ix c s V') (h0 : ∀ z V, w.heap.size ≤ z → z < V.heap.size → Below w.heap.size w V → I z [] V) (Ax : Nat → α → Act → World → Prop) (hAx : ∀ z x a', OwnFrom w.heap.size (fun (_ : Unit) W => Ax z x a' W))
    (hassign : ∀ (l z : Nat) (pre : List α) (x : α) (W : World) (K : Act → World → Prop), w.heap.size ≤ z → I z pre W → Px z x W → (∀ a' W', KeepsOthers W W' → Kp W W' → I z pre W' → Px z x W' → Ax z x a' W' → K a' W') → asg.wpIn (F.inRound l) (n - 1 - 1) P (Exit.then K (fun _ _ _ => False)) { tmps := (ps.zip (encs z x)).foldl (fun t (p, v) => t.setIfInBounds p v) a.tmps, defers := [] } W)
    (hbody : ∀ (l z : Nat) (pre : List α) (x : α) (a' : Act) (W : World), w.heap.size ≤ z → w.heap.size ≤ l → (∃ r, W.heap[l]? = some (.loop r)) → I z pre W → Px z x W → Ax z x a' W → pre.length < N → bo.wpIn (F.inRound l) (n - 1 - 1) P (ownPostS w.heap.size Kp (I z) Ix (pre ++ [x]) W) a' W)
    (hdone : ∀ (D z : Nat) (xs : List α) (W : World), w.heap.size ≤ D → w.heap.size ≤ z → S xs → I z xs W → W.heap[D]? = some (.deferred (some [])) → Q .normal { a with defers := { target := .collected D, args := #[] } :: a.defers } W)
    (hstop : ∀ (D : Nat) (c : Code) (pre : List α) (W : World), w.heap.size ≤ D → Sp pre → Ix c pre W → W.heap[D]? = some (.deferred (some [])) → c.wpIn F n P Q { a with defers := { target := .collected D, args := #[] } :: a.defers } W) :
    (Code.rangeFunc g ps asg bo).wpIn F n P Q a w := by
  refine wpIn_rangeFunc (fun fn hfn => ?_)
  rw [hro]
  have hrun := run_enterLoop_outer (P := P) (w := w) fn a.tmps ps asg bo
  generalize hW : (w.alloc (.deferred (some []))).alloc (.loop { state := .ready, pending := none, fn, tmps := a.tmps, params := ps, assign := asg, body := bo, defers := w.heap.size }) = W1 at hrun
  have hR1 : RecAt W1 w.heap.size (recO fn a.tmps ps asg bo w.heap.size .ready none) := by
    subst hW
    refine ⟨?_, ?_⟩
    · have := World.alloc_heap_new (w.alloc (.deferred (some []))) (.loop (recO fn a.tmps ps asg bo w.heap.size .ready none))
      rwa [World.size_alloc] at this
    · exact (Below.heap_alloc _ _ _ (by simp)).trans (World.alloc_heap_new w _)
  have hz1 : W1.heap.size = w.heap.size + 2 := by subst hW; simp
  have hBw : Below w.heap.size w W1 := by subst hW; exact balloc (balloc (Below.refl w.heap.size w) _) _
  have hB1 : Below w0.heap.size w0 W1 := hb0.trans (hBw.mono hb0.size)
  clear hW
  refine ⟨_, _, W1, { target := .fn (.func gf) lb, args := #[.func (.yield (w.heap.size + 1)) #[] #[]] }, W1, gf, #[.func (.yield (w.heap.size + 1)) #[] #[]] ++ lb, W1, hrun, ?_, ?_, ?_, fun _ => h1, ?_⟩
  · simp only [resolve, hg]
    simp [go_sem]
  · intro f' hf'
    simp [Target.leads] at hf'
    subst hf'
    exact hFg
  · simp [invoke, go_sem, eg]
  · have ow : ∀ {r : Loop} {A V : World} {row : Option Nat}, RecAt A w.heap.size r → A.grownBy V row → (∀ k, row = some k → W1.heap.size ≤ k ∧ ∃ o : Obj, A.heap[k]? = some o ∧ o.isCells = false) → RecAt V w.heap.size r := fun h k q => h.own k (fun z e => by have := (q z e).1; omega)
    have fr : ∀ {A : World} {row : Option Nat}, (∀ k, row = some k → W1.heap.size ≤ k ∧ ∃ o : Obj, A.heap[k]? = some o ∧ o.isCells = false) → ∀ k, row = some k → w.heap.size ≤ k ∧ ∃ o : Obj, A.heap[k]? = some o ∧ o.isCells = false := fun q k e => ⟨by have := (q k e).1; omega, (q k e).2⟩
    refine (hseq (w.heap.size + 1) (fun z pre W => I z pre W ∧ RecAt W w.heap.size (recO fn a.tmps ps asg bo w.heap.size .ready none)) (fun pre W => ∃ c, Ix c pre W ∧ RecAt W w.heap.size (recO fn a.tmps ps asg bo w.heap.size .done (some c))) W1 hB1 (by omega)
      (fun z s A V row hs k q => ⟨hI z s A V row hs.1 k (fr q), ow hs.2 k q⟩) (fun s A V row hs k q => by obtain ⟨c, hc, hr⟩ := hs; exact ⟨c, hIx c s A V row hc k (fr q), ow hr k q⟩) (fun ht z s V V' hz hs k => ⟨hIz ht z s V V' (by omega) hs.1 k, hs.2.own k (fun q e => by injection e with e; omega)⟩)
      (fun hv => ⟨fun z z' s V V' hz hs k => ⟨(hvar hv).1 z z' s V V' (by omega) hs.1 (k.mono (by omega)), ⟨(k.block _ (by omega)).trans hs.2.1, (k.block _ (by omega)).trans hs.2.2⟩⟩, fun s V V' hs k => by obtain ⟨c, hc, hr⟩ := hs; exact ⟨c, (hvar hv).2 c s V V' hc (k.mono (by omega)), ⟨(k.block _ (by omega)).trans hr.1, (k.block _ (by omega)).trans hr.2⟩⟩⟩) ?_ (fun z V hz hzV hV => ⟨h0 z V (by omega) hzV (hBw.trans (hV.mono (by omega))), ⟨(hV.block _ (by omega)).trans hR1.1, (hV.block _ (by omega)).trans hR1.2⟩⟩)).mono ?_
    · rintro z pre x W hz ⟨hi, hr⟩ hpx hlen
      have hy : (Instr.yield (w.heap.size + 1) (encs z x)).run P W = _ := run_yield (P := P) hr.1 (hps z x)
      refine ⟨_, _, _, _, hy, roundIn_of_wpIn hfn (hassign _ z pre x W _ (by omega) hi hpx (fun a' W' hko hkp hi' hpx' hax => ?_))⟩
      have hr' := hr.keeps hko
      refine ⟨_, run_beginRound hr'.1 rfl, ?_⟩
      have hrb : RecAt (W'.putObj (w.heap.size + 1) (.loop (recO fn a.tmps ps asg bo w.heap.size .busy none))) w.heap.size (recO fn a.tmps ps asg bo w.heap.size .busy none) := hr'.put _
      have hkb : Kp W (W'.putObj (w.heap.size + 1) (.loop (recO fn a.tmps ps asg bo w.heap.size .busy none))) := hKt hkp (hKb _ _ _ _ (by omega) hr'.1 rfl)
      refine wpIn_mono (hbody _ z pre x a' _ (by omega) (by omega) ⟨_, hrb.1⟩ ((hI z).putObj _ hi' (by omega) hr'.1 rfl) ((hPx z).putObj _ hpx' (by omega) hr'.1 rfl) ((hAx z x a').putObj (s := ()) _ hax (by omega) hr'.1 rfl) hlen) ?_
      have kf : ∀ {V : World} (o : Obj), KeepsFrom w.heap.size (W'.putObj (w.heap.size + 1) (.loop (recO fn a.tmps ps asg bo w.heap.size .busy none))) V → KeepsFrom W1.heap.size W (V.putObj (w.heap.size + 1) o) := fun {V} o h => (((hko.from _).trans (KeepsFrom.of_grownBy (grownBy_putObj' W' _ _) (fun j e => by cases e; omega))).trans (keepsFrom_mono h (by omega))).trans (KeepsFrom.of_grownBy (grownBy_putObj' V _ _) (fun j e => by cases e; omega))
      rintro e a3 V hp
      cases e with
      | normal =>
        have hv := hrb.keepsF hp.1
        exact ⟨_, _, hv.fin none, .inl ⟨rfl, ⟨(hI z).putObj _ hp.2.2 (by omega) hv.1 rfl, hv.put _⟩, hKt (hKt hkb hp.2.1) (hKb _ _ _ _ (by omega) hv.1 rfl), kf _ hp.1⟩⟩
      | ret =>
        have hv := hrb.keepsF hp.1
        exact ⟨_, _, hv.fin (some .ret), .inr ⟨rfl, ⟨.ret, (hIx _).putObj _ hp.2.2 (by omega) hv.1 rfl, hv.put _⟩, hKt (hKt hkb hp.2.1) (hKb _ _ _ _ (by omega) hv.1 rfl), kf _ hp.1⟩⟩
      | exit id =>
        have hv := hrb.keepsF hp.1
        exact ⟨_, _, hv.fin (some (.exit id)), .inr ⟨rfl, ⟨.exit id, (hIx _).putObj _ hp.2.2 (by omega) hv.1 rfl, hv.put _⟩, hKt (hKt hkb hp.2.1) (hKb _ _ _ _ (by omega) hv.1 rfl), kf _ hp.1⟩⟩
      | goto t =>
        have hv := hrb.keepsF hp.1
        exact ⟨_, _, hv.fin (some (.goto t)), .inr ⟨rfl, ⟨.goto t, (hIx _).putObj _ hp.2.2 (by omega) hv.1 rfl, hv.put _⟩, hKt (hKt hkb hp.2.1) (hKb _ _ _ _ (by omega) hv.1 rfl), kf _ hp.1⟩⟩
      | panic ch => exact hp.elim
      | outgrown => exact hp.elim
    · rintro e V ⟨⟨v, rfl⟩, (⟨z, xs, hz, hS, hi, hr⟩ | ⟨pre, hSp, c, hi, hr⟩)⟩
      · exact ⟨none, _, run_endLoop hr.1 (by simp [recO]), hdone _ z xs _ (Nat.le_refl _) (by omega) hS ((hI z).putObj _ hi (by omega) hr.1 rfl) (hr.put _).2⟩
      · exact ⟨some c, _, run_endLoop hr.1 (by simp [recO]), hstop _ c pre _ (Nat.le_refl _) hSp ((hIx c).putObj _ hi (by omega) hr.1 rfl) (hr.put _).2⟩
end Go.Proofs.YtjfcbjomfbfoiaaGreatDoor
