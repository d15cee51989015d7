import Derived.Test.YtlmaodcddbkllaaDoorAN1
/-
  Dominates of the program.
-/
namespace Go.Proofs.YtlmaodcddbkllaaDoor
open Go.RowKit

open Classical in
/-- a dominates b in a valid function. -/
noncomputable def domB (v : Int) (xs : List Blk) (a b : Int) : Bool := validI ⟨v, xs⟩ && decide (0 ≤ a ∧ 0 ≤ b ∧ Dom (tgN xs) a.toNat b.toNat)
open Classical in
theorem domB_false {v : Int} {xs : List Blk} {a b : Int} (h : ¬ (0 ≤ a ∧ 0 ≤ b ∧ Dom (tgN xs) a.toNat b.toNat)) : domB v xs a b = false := by
  unfold domB
  rw [decide_eq_false h, Bool.and_false]
theorem domB_bad {v : Int} {xs : List Blk} {a b : Int} (h : validI ⟨v, xs⟩ = false) : domB v xs a b = false := by
  unfold domB
  rw [h, Bool.false_and]
open Classical in
theorem domB_true {v : Int} {xs : List Blk} {a b : Int} (h : validI ⟨v, xs⟩ = true) (k : 0 ≤ a ∧ 0 ≤ b ∧ Dom (tgN xs) a.toNat b.toNat) : domB v xs a b = true := by
  unfold domB
  rw [h, decide_eq_true k, Bool.and_self]
set_option maxHeartbeats 1000000 in
set_option maxRecDepth 100000 in
theorem analyzeI_bad (v : Int) (a : Option Addr) (n c : Nat) (xs : List Blk) (L B : Nat) (w : World) (ha : Hid (BlksAt w L B a xs)) (hx : Hid (n = xs.length)) (hs : Hid (xs.length + blksTot xs ≤ 1048576)) (hB : B ≤ w.heap.size) (hO : Hid (OpTab w)) (hT : Hid (TerTab w)) (hv : Hid (validI ⟨v, xs⟩ = false)) :
    Calls Tryd.prog 20 #[.agg #[.int .i64 v, .slice a n c]] w fun e w' => e = .returned (.agg #[.slice none 0 0, .slice none 0 0, .slice none 0 0, .slice none 0 0]) ∧ Below w.heap.size w w' := by
  have HVF := hide (fun W (hb : Below w.heap.size w W) => validFuncI_any v a n c xs L B W (hide (ha.out.keep (hb.mono hB))) hx hs (by have := hb.size; omega) (hide (hO.out.keep hb)) (hide (hT.out.keep hb)))
  rw [hv.out] at HVF
  go_enter Tryd.func20, Tryd.ntmps20
  go_wp2_with fail
  refine (HVF.out _ (balloc (balloc (Below.refl _ _) _) _)).mono ?_
  rintro e w1 ⟨rfl, hb1⟩
  have HB1 := hide (bnext (balloc (balloc (Below.refl w.heap.size w) _) _) hb1)
  have hR1 : w1.rowIs (w.heap.size + 1) 50 4 (fun _ => .slice none 0 0) := by
    have h := World.rowIs_alloc (w.alloc (.cells #[.int .i64 v, .slice a n c] 25)) #[.slice none 0 0, .slice none 0 0, .slice none 0 0, .slice none 0 0] 50 (fun _ => .slice none 0 0) (fun i hi => by
      match i, hi with
      | 0, _ => rfl
      | 1, _ => rfl
      | 2, _ => rfl
      | 3, _ => rfl)
    rw [World.size_alloc] at h
    exact h.of_block (hb1.block _ (by simp))
  have y0 := hR1.cell (i := 0) (by decide)
  have y1 := hR1.cell (i := 1) (by decide)
  have y2 := hR1.cell (i := 2) (by decide)
  have y3 := hR1.cell (i := 3) (by decide)
  have yf := hR1.frozen
  have HR1 := hide hR1
  clear hb1 hR1 HVF
  go_wp2_with fail
  have h4 := (((HR1.out.set 0 (.slice none 0 0)).set 1 (.slice none 0 0)).set 2 (.slice none 0 0)).set 3 (.slice none 0 0)
  have z0 := h4.cell (i := 0) (by decide)
  have z1 := h4.cell (i := 1) (by decide)
  have z2 := h4.cell (i := 2) (by decide)
  have z3 := h4.cell (i := 3) (by decide)
  have hB4 : Below w.heap.size w ((((w1.setCell ⟨w.heap.size + 1, 0, none⟩ (.slice none 0 0)).setCell ⟨w.heap.size + 1, 1, none⟩ (.slice none 0 0)).setCell ⟨w.heap.size + 1, 2, none⟩ (.slice none 0 0)).setCell ⟨w.heap.size + 1, 3, none⟩ (.slice none 0 0)) := (((HB1.out.setCell (p := ⟨w.heap.size + 1, 0, none⟩) (by dsimp only; omega) _).setCell (p := ⟨w.heap.size + 1, 1, none⟩) (by dsimp only; omega) _).setCell (p := ⟨w.heap.size + 1, 2, none⟩) (by dsimp only; omega) _).setCell (p := ⟨w.heap.size + 1, 3, none⟩) (by dsimp only; omega) _
  generalize (((w1.setCell ⟨w.heap.size + 1, 0, none⟩ (.slice none 0 0)).setCell ⟨w.heap.size + 1, 1, none⟩ (.slice none 0 0)).setCell ⟨w.heap.size + 1, 2, none⟩ (.slice none 0 0)).setCell ⟨w.heap.size + 1, 3, none⟩ (.slice none 0 0) = wE at *
  simp only [reduceIte, Nat.reduceEqDiff] at z0 z1 z2 z3
  refine bodyPost_ret (v := .agg #[.slice none 0 0, .slice none 0 0, .slice none 0 0, .slice none 0 0]) (by simp [results, Tryd.results20, go_sem, z0, z1, z2, z3]) rfl ⟨rfl, hB4⟩
set_option maxHeartbeats 2000000 in
set_option maxRecDepth 100000 in
theorem dominatesI_any (v : Int) (a : Option Addr) (n c : Nat) (xs : List Blk) (L B : Nat) (x y : Int) (w : World) (ha : Hid (BlksAt w L B a xs)) (hx : Hid (n = xs.length)) (hs : Hid (xs.length + blksTot xs ≤ 1048576)) (hB : B ≤ w.heap.size) (hO : Hid (OpTab w)) (hT : Hid (TerTab w)) :
    Calls Tryd.prog 21 #[.agg #[.int .i64 v, .slice a n c], .int .i64 x, .int .i64 y] w fun e w' => e = .returned (.bool (domB v xs x y)) ∧ Below w.heap.size w w' := by
  cases hv : validI ⟨v, xs⟩ with
  | false =>
    have HV := hide hv
    have HAN := hide (fun W (hb : Below w.heap.size w W) => analyzeI_bad v a n c xs L B W (hide (ha.out.keep (hb.mono hB))) hx hs (by have := hb.size; omega) (hide (hO.out.keep hb)) (hide (hT.out.keep hb)) HV)
    have HD := hide (domB_bad (a := x) (b := y) hv)
    rw [HD.out]
    clear hv
    go_enter Tryd.func21, Tryd.ntmps21
    go_wp2_with fail
    refine (HAN.out _ (balloc (Below.refl _ _) _)).mono ?_
    rintro e w1 ⟨rfl, hb1⟩
    have HB1 := hide (bnext (balloc (Below.refl w.heap.size w) _) hb1)
    clear hb1 HAN
    by_cases hy0 : y < 0
    · go_wp2_with fail
      go_ret
      exact ⟨rfl, balloc HB1.out _⟩
    · have hy1 : 0 ≤ y := by omega
      go_wp2_with fail
      go_ret
      exact ⟨rfl, balloc HB1.out _⟩
  | true =>
    have HV := hide hv
    have HOK := hide (ok_of_valid hv)
    have HAN := hide (fun W (hb : Below w.heap.size w W) => analyzeI_any v a n c xs L B W (hide (ha.out.keep (hb.mono hB))) hx hs (by have := hb.size; omega) (hide (hO.out.keep hb)) (hide (hT.out.keep hb)) HV)
    clear hv
    go_enter Tryd.func21, Tryd.ntmps21
    go_wp2_with fail
    refine (HAN.out _ (balloc (Below.refl _ _) _)).mono ?_
    rintro e w1 ⟨U, P, g1, c1, g2, c2, g3, g4, c4, rfl, hb1, hid, hfl⟩
    have HB1 := hide (bnext (balloc (Below.refl w.heap.size w) _) hb1)
    have HID := hide hid
    have HFL := hide hfl
    clear hb1 HAN hid hfl
    generalize (preP P n 0).length = ql
    have hn2 : n ≤ 1000 := by have := HOK.out.n2; have := hx.out; omega
    have HRE : Hid (∀ x, Re (tgN xs) x → x < n) := hide (by rw [hx.out]; exact HOK.out.re)
    by_cases hy0 : y < 0
    · have HD := hide (domB_false (v := v) (xs := xs) (a := x) (b := y) (fun h => by omega))
      go_wp2_with fail
      go_ret
      exact ⟨ret_bool HD.out.symm, balloc HB1.out _⟩
    · obtain ⟨z, rfl⟩ := Int.eq_ofNat_of_zero_le (show 0 ≤ y by omega)
      by_cases hyn : n ≤ z
      · have HD := hide (domB_false (v := v) (xs := xs) (a := x) (b := (z : Int)) (fun h => by have := HRE.out _ h.2.2.rb; omega))
        go_wp2_with fail
        go_ret
        exact ⟨ret_bool HD.out.symm, balloc HB1.out _⟩
      · have hzn : z < n := by omega
        have k2 : w1.cell? ⟨g2, z, none⟩ = some (.bool (hasN (seaP xs).1 z)) := own_cell HFL.out.o2 (by simp [hzn])
        have hg2 := (HFL.out.o2.lt g2 rfl).2
        cases hr : hasN (seaP xs).1 z with
        | false =>
          have HD := hide (domB_false (v := v) (xs := xs) (a := x) (b := (z : Int)) (fun h => by
            have := (HOK.out.top.2.1 z).2 h.2.2.rb
            rw [hr] at this; cases this))
          rw [hr] at k2
          clear hr
          go_wp2_with fail
          go_ret
          exact ⟨ret_bool HD.out.symm, balloc HB1.out _⟩
        | true =>
          have HZ : Hid (Re (tgN xs) z) := hide ((HOK.out.top.2.1 z).1 hr)
          rw [hr] at k2
          clear hr
          go_wp2_with fail
          generalize decide ((z : Int) < 0) = bz
          have hg3 : g3 < w1.heap.size := HFL.out.o3.lt
          have HB2 := hide (balloc HB1.out (.cells #[.slice (some ⟨g1, 0, none⟩) n c1, .slice (some ⟨g2, 0, none⟩) n c2, .slice (some ⟨g3, 0, none⟩) n n, .slice (some ⟨g4, 0, none⟩) ql c4] 50))
          have HR2 := hide (HFL.out.o3.alloc (.cells #[.slice (some ⟨g1, 0, none⟩) n c1, .slice (some ⟨g2, 0, none⟩) n c2, .slice (some ⟨g3, 0, none⟩) n n, .slice (some ⟨g4, 0, none⟩) ql c4] 50))
          have HC2 : Hid ((w1.alloc (.cells #[.slice (some ⟨g1, 0, none⟩) n c1, .slice (some ⟨g2, 0, none⟩) n c2, .slice (some ⟨g3, 0, none⟩) n n, .slice (some ⟨g4, 0, none⟩) ql c4] 50)).cell? ⟨w1.heap.size, 2, none⟩ = some (.slice (some ⟨g3, 0, none⟩) n n)) := hide (by simp [go_sem])
          generalize w1.alloc (.cells #[.slice (some ⟨g1, 0, none⟩) n c1, .slice (some ⟨g2, 0, none⟩) n c2, .slice (some ⟨g3, 0, none⟩) n n, .slice (some ⟨g4, 0, none⟩) ql c4] 50) = w2 at *
          go_loopw [2] (fun u wr => ∃ d : Nat, u = .int .i64 d ∧ d < n ∧ Hid (Re (tgN xs) d) ∧ Hid (∀ a' : Nat, (a' : Int) = x → (Dom (tgN xs) a' z ↔ Dom (tgN xs) a' d)) ∧ Hid (Below w.heap.size w wr) ∧ Hid (wr.rowIs g3 2 n (fun z => .int .i64 (P.getD z 0))) ∧ Hid (wr.cell? ⟨w1.heap.size, 2, none⟩ = some (.slice (some ⟨g3, 0, none⟩) n n))) (fun u _ => (domL (tgN xs) n (intOf u).toNat).length)
          case atStart => exact ⟨z, rfl, hzn, HZ, hide (fun _ _ => Iff.rfl), HB2, HR2, HC2⟩
          case round =>
            obtain ⟨d, rfl, hdn, HD, HI, HB, HR, HC⟩ := hrel
            clear HB2 HR2 HC2
            by_cases hdx : (d : Int) = x
            · have HA : Hid (domB v xs x (z : Int) = true) := hide (domB_true HV.out ⟨by omega, by omega, by
                have h := (HI.out d hdx).2 (dom_self HD.out)
                rw [← hdx]; exact h⟩)
              subst hdx
              have q1 : ((d : Int) == (d : Int)) = true := by simp
              have q2 : ((d : Int) != (d : Int)) = false := by simp
              go_wp2_with fail
              go_ret
              exact ⟨ret_bool (by rw [HA.out]), HB.out⟩
            · have q1 : ((d : Int) == x) = false := by simp [hdx]
              have q2 : ((d : Int) != x) = true := by simp [hdx]
              by_cases hd0 : d = 0
              · have HA : Hid (domB v xs x (z : Int) = false) := hide (domB_false (fun h => by
                  have h1 := (HI.out x.toNat (by omega)).1 h.2.2
                  rw [hd0] at h1
                  have := dom_zero h1
                  omega))
                have q3 : ((d : Int) == 0) = true := by simp [hd0]
                have q4 : ((d : Int) != 0) = false := by simp [hd0]
                clear hd0
                go_wp2_with fail
                go_ret
                exact ⟨ret_bool (by rw [HA.out]), HB.out⟩
              · have q3 : ((d : Int) == 0) = false := by simp [hd0]
                have q4 : ((d : Int) != 0) = true := by simp [hd0]
                obtain ⟨e, he, hen, here, hel, heq⟩ := up_some HID.out HRE.out HD.out hd0
                have cc := HC.out
                have cd := HR.out.cell hdn
                rw [he] at cd
                have HEL := hide hel
                have HEQ := hide heq
                have HER := hide here
                clear he hel heq here
                go_wp2_with fail
                exact ⟨⟨e, rfl, hen, HER, hide (fun a' ha' => (HI.out a' ha').trans (HEQ.out a' (fun h => hdx (by rw [← h]; exact ha')))), HB, HR, HC⟩, by simpa [intOf] using HEL.out⟩
end Go.Proofs.YtlmaodcddbkllaaDoor
