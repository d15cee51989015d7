import Derived.Test.YtjfcbjomfbfoiaaGreatDoorMH2
import Derived.Test.YtjfcbjomfbfoiaaGreatDoorML3
import Derived.Test.YtjfcbjomfbfoiaaGreatDoorW18b
import Derived.Deep.CutRange
import Derived.Deep.RegionHeld3
import Derived.Deep.MidRow
namespace Go.Proofs.YtjfcbjomfbfoiaaGreatDoor
open Go.RowKit
set_option maxHeartbeats 4000000 in
set_option maxRecDepth 100000 in
theorem liveS_any (V : Nat) (a : Option Addr) (n c : Nat) (xs : List Blk) (L B : Nat) (w : World) (ha : Hid (BlksAt w L B a xs)) (hx : Hid (n = xs.length)) (hs : Hid (xs.length + blksTot xs ≤ 1048576)) (hB : B ≤ w.heap.size) (hv : Hid (validI ⟨(V : Int), xs⟩ = true)) (ho : Hid (OkL V xs)) :
    Calls Tryz.prog 8 #[.agg #[.int .i64 (V : Int), .slice a n c]] w fun e w' => ∃ g1 g2, e = .returned (.agg #[.slice (some ⟨g1, 0, none⟩) n n, .slice (some ⟨g2, 0, none⟩) n n]) ∧ Below w.heap.size w w' ∧ IntssAt w' w.heap.size w'.heap.size (some ⟨g1, 0, none⟩) ((List.range n).map fun b => natI (inP xs V b)) ∧ IntssAt w' w.heap.size w'.heap.size (some ⟨g2, 0, none⟩) ((List.range n).map fun b => natI (ouP xs V b)) := by
  have hn : n ≤ 1000 := by have := hx.out; have := ho.out.okf.n2; omega
  have hV := ho.out.vle
  have HVF := hide (fun W (hb : Below w.heap.size w W) => validFuncS_any (V : Int) a n c xs L B W (hide (ha.out.keep (hb.mono hB))) hx hs (by have := hb.size; omega))
  have HVS := hide (valid_same ⟨(V : Int), xs⟩)
  rw [← HVS.out, hv.out] at HVF
  clear HVS
  have hmk := run_makeS (P := Tryz.prog) 26 56 (.agg #[.slice none 0 0]) 1 24 Tryz.underlying26 Tryz.infoSetI' n (by omega) (by omega)
  have hW0 : Below w.heap.size w (((w.alloc (.cells #[.int .i64 (V : Int), .slice a n c] 32)).alloc (.cells #[.slice none 0 0, .slice none 0 0] 28)).alloc (.cells #[.slice none 0 0, .slice none 0 0] 28)) := balloc (balloc (balloc (Below.refl _ _) _) _) _
  have hz0 : (((w.alloc (.cells #[.int .i64 (V : Int), .slice a n c] 32)).alloc (.cells #[.slice none 0 0, .slice none 0 0] 28)).alloc (.cells #[.slice none 0 0, .slice none 0 0] 28)).heap.size = w.heap.size + 3 := by simp
  have hf0 : (((w.alloc (.cells #[.int .i64 (V : Int), .slice a n c] 32)).alloc (.cells #[.slice none 0 0, .slice none 0 0] 28)).alloc (.cells #[.slice none 0 0, .slice none 0 0] 28)).cell? ⟨w.heap.size, 0, none⟩ = some (.int .i64 (V : Int)) := by simp [go_sem]
  have hf1 : (((w.alloc (.cells #[.int .i64 (V : Int), .slice a n c] 32)).alloc (.cells #[.slice none 0 0, .slice none 0 0] 28)).alloc (.cells #[.slice none 0 0, .slice none 0 0] 28)).cell? ⟨w.heap.size, 1, none⟩ = some (.slice a n c) := by simp [go_sem]
  have hr1 : (((w.alloc (.cells #[.int .i64 (V : Int), .slice a n c] 32)).alloc (.cells #[.slice none 0 0, .slice none 0 0] 28)).alloc (.cells #[.slice none 0 0, .slice none 0 0] 28)).rowIs (w.heap.size + 1) 28 2 (fun _ => .slice none 0 0) := by
    have h := World.rowIs_alloc (w.alloc (.cells #[.int .i64 (V : Int), .slice a n c] 32)) #[.slice none 0 0, .slice none 0 0] 28 (fun _ => .slice none 0 0) (fun i hi => by match i, hi with | 0, _ => rfl | 1, _ => rfl)
    rw [World.size_alloc] at h
    exact h.alloc _
  have hr2 : (((w.alloc (.cells #[.int .i64 (V : Int), .slice a n c] 32)).alloc (.cells #[.slice none 0 0, .slice none 0 0] 28)).alloc (.cells #[.slice none 0 0, .slice none 0 0] 28)).rowIs (w.heap.size + 1 + 1) 28 2 (fun _ => .slice none 0 0) := by
    have h := World.rowIs_alloc ((w.alloc (.cells #[.int .i64 (V : Int), .slice a n c] 32)).alloc (.cells #[.slice none 0 0, .slice none 0 0] 28)) #[.slice none 0 0, .slice none 0 0] 28 (fun _ => .slice none 0 0) (fun i hi => by match i, hi with | 0, _ => rfl | 1, _ => rfl)
    rw [World.size_alloc, World.size_alloc] at h
    exact h
  go_enter Tryz.func8, Tryz.ntmps8
  go_wp2_with fail
  generalize ((w.alloc (.cells #[.int .i64 (V : Int), .slice a n c] 32)).alloc (.cells #[.slice none 0 0, .slice none 0 0] 28)).alloc (.cells #[.slice none 0 0, .slice none 0 0] 28) = w0 at *
  refine (HVF.out _ hW0).mono ?_
  rintro e w1 ⟨rfl, hb1⟩
  have HB1 := hide (bnext hW0 hb1)
  have g0 := (hb1.cell (p := ⟨w.heap.size, 0, none⟩) (by show w.heap.size < _; omega)).trans hf0
  have g1 := (hb1.cell (p := ⟨w.heap.size, 1, none⟩) (by show w.heap.size < _; omega)).trans hf1
  have HR1 := hide (hr1.of_block (hb1.block _ hr1.lt))
  have HR2 := hide (hr2.of_block (hb1.block _ hr2.lt))
  have hz1 : w.heap.size + 3 ≤ w1.heap.size := by have := hb1.size; omega
  clear hb1 hW0 hf0 hf1 hr1 hr2 hz0 HVF
  have HLA := hide (list_any V a n c xs L B w1 (hide (ha.out.keep (HB1.out.mono hB))) hx (by have := HB1.out.size; omega) ho)
  go_wp2_with fail
  refine HLA.out.mono ?_
  rintro e w2 ⟨af, cf, rfl, hb2, hFr⟩
  have HB2 := hide (bnext HB1.out hb2)
  have k0 := (hb2.cell (p := ⟨w.heap.size, 0, none⟩) (by show w.heap.size < _; omega)).trans g0
  have HR1 := hide (HR1.out.of_block (hb2.block _ HR1.out.lt))
  have HR2 := hide (HR2.out.of_block (hb2.block _ HR2.out.lt))
  have HFR := hide hFr
  have hz2 := hb2.size
  have hz2' : w.heap.size + 3 ≤ w2.heap.size := by omega
  clear hb2 HLA hFr g0 g1
  have hO : w.heap.size + 1 + 1 < w2.heap.size := by omega
  have o0 := HR2.out.cell (i := 0) (by decide)
  have o1 := HR2.out.cell (i := 1) (by decide)
  have oz := HR2.out.frozen
  have o1' : ∀ u X Y, (((w2.setCell ⟨w.heap.size + 1 + 1, 0, none⟩ u).alloc X).alloc Y).cell? ⟨w.heap.size + 1 + 1, 1, none⟩ = some (.slice none 0 0) := fun u X Y => (((HR2.out.set 0 u).alloc X).alloc Y).cell (i := 1) (by decide)
  have oz' : ∀ u X Y q, (((w2.setCell ⟨w.heap.size + 1 + 1, 0, none⟩ u).alloc X).alloc Y).frozen? ⟨w.heap.size + 1 + 1, q, none⟩ = false := fun u X Y => (((HR2.out.set 0 u).alloc X).alloc Y).frozen
  obtain ⟨m0, hm0, hm1, hm2, hm3⟩ := info_three Tryz.info2'
  go_wp2_with fail
  have hr3 := ((((HR2.out.set 0 (.slice (some ⟨w2.heap.size, 0, none⟩) n n)).alloc (.cells (madeCells #[.slice none 0 0] n) 56)).alloc (.cells (madeCells #[.slice none 0 0] n) 56)).set 1 (.slice (some ⟨w2.heap.size + 1, 0, none⟩) n n))
  have hA : World.rowIs ((w2.setCell ⟨w.heap.size + 1 + 1, 0, none⟩ (.slice (some ⟨w2.heap.size, 0, none⟩) n n)).alloc (.cells (madeCells #[.slice none 0 0] n) 56)) w2.heap.size 56 n (fun _ => .slice none 0 0) := by
    have h := World.rowIs_made (w2.setCell ⟨w.heap.size + 1 + 1, 0, none⟩ (.slice (some ⟨w2.heap.size, 0, none⟩) n n)) (.slice none 0 0) n 56
    rw [size_setCell] at h
    exact h
  have hBb : World.rowIs (((w2.setCell ⟨w.heap.size + 1 + 1, 0, none⟩ (.slice (some ⟨w2.heap.size, 0, none⟩) n n)).alloc (.cells (madeCells #[.slice none 0 0] n) 56)).alloc (.cells (madeCells #[.slice none 0 0] n) 56)) (w2.heap.size + 1) 56 n (fun _ => .slice none 0 0) := by
    have h := World.rowIs_made ((w2.setCell ⟨w.heap.size + 1 + 1, 0, none⟩ (.slice (some ⟨w2.heap.size, 0, none⟩) n n)).alloc (.cells (madeCells #[.slice none 0 0] n) 56)) (.slice none 0 0) n 56
    rw [World.size_alloc, size_setCell] at h
    exact h
  have hA3 := (hA.alloc (.cells (madeCells #[.slice none 0 0] n) 56)).setOther (a := ⟨w.heap.size + 1 + 1, 1, none⟩) (by show w2.heap.size ≠ w.heap.size + 1 + 1; omega) (.slice (some ⟨w2.heap.size + 1, 0, none⟩) n n)
  have hB3 := hBb.setOther (a := ⟨w.heap.size + 1 + 1, 1, none⟩) (by show w2.heap.size + 1 ≠ w.heap.size + 1 + 1; omega) (.slice (some ⟨w2.heap.size + 1, 0, none⟩) n n)
  have hz3 : ((((w2.setCell ⟨w.heap.size + 1 + 1, 0, none⟩ (.slice (some ⟨w2.heap.size, 0, none⟩) n n)).alloc (.cells (madeCells #[.slice none 0 0] n) 56)).alloc (.cells (madeCells #[.slice none 0 0] n) 56)).setCell ⟨w.heap.size + 1 + 1, 1, none⟩ (.slice (some ⟨w2.heap.size + 1, 0, none⟩) n n)).heap.size = w2.heap.size + 2 := by rw [size_setCell, World.size_alloc, World.size_alloc, size_setCell]
  have hq3 : ∀ q, q < w2.heap.size → q ≠ w.heap.size + 1 + 1 → ((((w2.setCell ⟨w.heap.size + 1 + 1, 0, none⟩ (.slice (some ⟨w2.heap.size, 0, none⟩) n n)).alloc (.cells (madeCells #[.slice none 0 0] n) 56)).alloc (.cells (madeCells #[.slice none 0 0] n) 56)).setCell ⟨w.heap.size + 1 + 1, 1, none⟩ (.slice (some ⟨w2.heap.size + 1, 0, none⟩) n n)).heap[q]? = w2.heap[q]? := fun q h1 h2 =>
    (Below.heap_setCell _ _ _ _ h2).trans ((Below.heap_alloc _ _ _ (by rw [World.size_alloc, size_setCell]; omega)).trans ((Below.heap_alloc _ _ _ (by rw [size_setCell]; omega)).trans (Below.heap_setCell _ _ _ _ h2)))
  have hL3 : Below w.heap.size w ((((w2.setCell ⟨w.heap.size + 1 + 1, 0, none⟩ (.slice (some ⟨w2.heap.size, 0, none⟩) n n)).alloc (.cells (madeCells #[.slice none 0 0] n) 56)).alloc (.cells (madeCells #[.slice none 0 0] n) 56)).setCell ⟨w.heap.size + 1 + 1, 1, none⟩ (.slice (some ⟨w2.heap.size + 1, 0, none⟩) n n)) := (balloc (balloc (HB2.out.setCell (by show w.heap.size ≤ w.heap.size + 1 + 1; omega) _) _) _).setCell (by show w.heap.size ≤ w.heap.size + 1 + 1; omega) _
  have hk3 := (cell_of (o := 0) (hq3 w.heap.size (by omega) (by omega))).trans k0
  have hr1 := HR1.out.of_block (hq3 (w.heap.size + 1) (by omega) (by omega))
  generalize (((w2.setCell ⟨w.heap.size + 1 + 1, 0, none⟩ (.slice (some ⟨w2.heap.size, 0, none⟩) n n)).alloc (.cells (madeCells #[.slice none 0 0] n) 56)).alloc (.cells (madeCells #[.slice none 0 0] n) 56)).setCell ⟨w.heap.size + 1 + 1, 1, none⟩ (.slice (some ⟨w2.heap.size + 1, 0, none⟩) n n) = w3 at *
  have HO0 : Hid (w3.cell? ⟨w.heap.size + 1 + 1, 0, none⟩ = some (.slice (some ⟨w2.heap.size, 0, none⟩) n n)) := hide (hr3.cell (i := 0) (by decide))
  have HO1 : Hid (w3.cell? ⟨w.heap.size + 1 + 1, 1, none⟩ = some (.slice (some ⟨w2.heap.size + 1, 0, none⟩) n n)) := hide (hr3.cell (i := 1) (by decide))
  obtain ⟨G, hG⟩ : ∃ G : Bool → Nat, G = fun s => if s = true then w2.heap.size + 1 else w2.heap.size := ⟨_, rfl⟩
  have HGf : Hid (G false = w2.heap.size) := hide (by rw [hG]; rfl)
  have HGt : Hid (G true = w2.heap.size + 1) := hide (by rw [hG]; rfl)
  have HOn : Hid (w.heap.size + 1 + 1 ≠ G false ∧ w.heap.size + 1 + 1 ≠ G true) := hide (by rw [HGf.out, HGt.out]; omega)
  have HOl : Hid (w.heap.size + 1 + 1 < w2.heap.size ∧ w3.heap.size = w2.heap.size + 2) := hide (by omega)
  have HL0 : Hid (LvS w3 w3 G n (ipTo xs 0)) := hide ⟨rfl, rfl, rfl, Nat.le_refl _, fun _ _ _ _ => rfl, fun _ _ => .slice none 0 0, ⟨by rw [HGf.out, HGt.out, hz3]; omega, fun s => (by cases s; (· rw [HGf.out]; exact hA3); (· rw [HGt.out]; exact hB3)), fun _ _ _ => World.ownsRow_nil _ _ _ _, fun _ _ _ _ _ _ _ => Or.inl rfl⟩⟩
  have HK3 := hide hk3
  have HR13 := hide hr1
  have HL3 := hide hL3
  obtain ⟨bf, of, eaf⟩ : ∃ bf of, af = some ⟨bf, of, none⟩ := by
    obtain ⟨b, o, _, e, _⟩ := HFR.out 0 (by have := hx.out; have := ho.out.okf.n1; omega)
    exact ⟨b, o, e⟩
  subst eaf
  have HFW : Hid (∀ wr P, LvS w3 wr G n P → FactsAt wr (some ⟨bf, of, none⟩) xs) := hide (fun wr P h => (HFR.out.keep (fun q h1 h2 => (h.fr q (by omega) (by rw [HGf.out]; omega) (by rw [HGt.out]; omega)).trans (hq3 q h2 (by omega))) (by have := h.size; omega)).at_)
  clear hr3 hA hBb hA3 hB3 hq3 hL3 hk3 hr1 hG o0 o1 oz o1' oz' hmk k0 HR1 HR2 HFR HB1 HB2
  have hzz : w2.heap.size + 2 ≤ w3.heap.size := by omega
  clear hz3
  go_loopw [5] (fun i wr => ∃ v : Nat, v ≤ V ∧ i = .int .i64 v ∧ Hid (LvS w3 wr G n (ipTo xs v))) (fun i _ => V - (intOf i).toNat)
  case atStart => exact ⟨0, Nat.zero_le _, rfl, HL0⟩
  case round =>
    clear HL0
    obtain ⟨v, hv', rfl, HL⟩ := hrel
    have k0 := HL.out.cell (by rw [HGf.out]; omega) (by rw [HGt.out]; omega) HK3.out
    by_cases hlv : v < V
    · have HBH := hide (behind_any V v n cf bf of xs wr (hide (HFW.out _ _ HL.out)) hx ho)
      go_wp2_with fail
      refine HBH.out.mono ?_
      rintro e w4 ⟨gl, rfl, hb4, hgl, lv, hrl, hlb⟩
      have HL4 : Hid (LvS w3 w4 G n (pM xs v 0 0)) := hide ((HL.out.below hb4).congr (fun s i _ => (pM_zero xs v s i).symm))
      have HGL := hide hrl
      have HLB := hide hlb
      have HGll : Hid (w3.heap.size ≤ gl) := hide (Nat.le_trans HL.out.size hgl)
      clear hb4 hgl hrl hlb HL HBH k0
      go_wp2_with fail
      generalize wr = wo at *
      go_loopw [7] (fun i wr => ∃ b : Nat, b ≤ n ∧ i = .int .i64 b ∧ Hid (LvS w3 wr G n (pM xs v b b)) ∧ Hid (wr.rowIs gl 4 n (fun z => .bool (lv z)))) (fun i _ => n - (intOf i).toNat)
      case atStart => exact ⟨0, Nat.zero_le _, rfl, HL4, HGL⟩
      case round =>
        clear HL4 HGL
        obtain ⟨b, hb, rfl, HLb, HGL⟩ := hrel
        by_cases hlt : b < n
        · have hbx : b < xs.length := by have := hx.out; omega
          have HFB := hide (HFW.out _ _ HLb.out)
          obtain ⟨a0, n0, a1, n1, a2, n2, a3, n3, a4, n4, a5, n5, c0, c1, c2, c3, c4, c5, hbf, _, x1, _, _, _, _, _, hn1', _, _, _, hfc⟩ := FactsAt.row ho.out HFB.out (Below.refl wr.heap.size wr) hbx
          have HHP := hide (l1Has_any a1 n1 c1 (v : Int) (phL xs b) 0 wr.heap.size wr (hide hfc.p.2) (hide hfc.p.1) (by omega))
          have HPB : Hid (phiB xs b v = hasI (phL xs b) (v : Int)) := hide (phiB_eq xs b v)
          have kl := HGL.out.cell hlt
          clear hfc
          obtain ⟨q1, hq1⟩ : ∃ q : Bool, (q = true ↔ Lin xs v b) := by
            by_cases h : Lin xs v b
            · exact ⟨true, ⟨fun _ => h, fun _ => rfl⟩⟩
            · exact ⟨false, ⟨fun e => (by cases e), fun e => absurd e h⟩⟩
          have HQ1 := hide hq1
          have HLvb := hide (HLB.out b hlt)
          clear hq1
          go_upto_region 14 with fail
          go_cut [51] from 32 to 84 (fun c wx => c = .bool q1 ∧ wx = wr)
          case first =>
            cases hl : lv b with
            | false =>
              rw [hl] at kl
              have eq1 : q1 = false := by
                cases h : q1 with
                | false => rfl
                | true => have := HLvb.out.2 (HQ1.out.1 h).2; rw [hl] at this; cases this
              subst eq1
              clear hl
              go_wp2_with fail
              go_meet
              exact ⟨rfl, rfl⟩
            | true =>
              rw [hl] at kl
              have eq1 : q1 = !(hasI (phL xs b) (v : Int)) := by
                have h1 : Lbe xs v b := HLvb.out.1 hl
                cases h : hasI (phL xs b) (v : Int) with
                | true =>
                  cases h2 : q1 with
                  | false => rfl
                  | true => have := (HQ1.out.1 h2).1; rw [HPB.out, h] at this; cases this
                | false => exact HQ1.out.2 ⟨by rw [HPB.out]; exact h, h1⟩
              have HE1 := hide eq1
              clear hl eq1
              go_wp2_with fail
              refine HHP.out.mono ?_
              rintro e w8 ⟨rfl, hw8⟩
              have e8 := hw8.symm
              subst e8
              have eq1 := HE1.out
              subst eq1
              go_wp2_with fail
              go_meet
              exact ⟨rfl, rfl⟩
          case rest =>
            obtain ⟨rfl, hwc⟩ := hcut
            have ewc := hwc.symm
            subst ewc
            clear kl x1 HHP HPB HLvb
            go_upto_if 51 with fail
            go_cut [] from 32 to 84 (fun wx => Hid (LvS w3 wx G n (pM xs v (b + 1) b)) ∧ Hid (wx.rowIs gl 4 n (fun z => .bool (lv z))))
            case first =>
              cases hq : q1 with
              | false =>
                have HLI : Hid (¬ Lin xs v b) := hide (fun h => by rw [HQ1.out.2 h] at hq; cases hq)
                subst hq
                go_wp2_with fail
                go_meet
                exact ⟨hide (HLb.out.congr (fun s i _ => pM_no1 HLI.out s i)), HGL⟩
              | true =>
                have HLI : Hid (Lin xs v b) := hide (HQ1.out.1 hq)
                subst hq
                obtain ⟨U, hU⟩ := HLb.out.db
                obtain ⟨ua, uc, hux, _⟩ := ints_owned (hU.own false b hlt)
                have HU := hide hU
                have HUX := hide hux
                obtain ⟨ul, hul⟩ : ∃ m, m = (pM xs v b b false b).length := ⟨_, rfl⟩
                have hul2 : ul ≤ 2001 := by have := pM_len xs v b b false b; omega
                have HUL := hide hul
                have HOX : Hid (wr.ownsRow w3.heap.size 2 1 (.slice ua ul uc) ul ((pM xs v b b false b).map (Value.int .i64))) := hide (by have h := hU.own false b hlt; rw [hux, ← hul] at h; exact h)
                have eG : wr.cell? ⟨G false, b, none⟩ = some (.slice ua ul uc) := by rw [(hU.row false).cell hlt, hux, hul]
                rw [HGf.out] at eG
                have eO := HLb.out.cell HOn.out.1 HOn.out.2 HO0.out
                have hzb := HLb.out.size
                have hGl : w2.heap.size < wr.heap.size := by omega
                have HNL : Hid ((U false b).ownBlock ≠ some gl) := hide (HU.out.other HGL.out (by decide) hlt)
                have HNO : Hid ((U false b).ownBlock ≠ some (w.heap.size + 1 + 1)) := hide (fun e => by have := ((HU.out.own false b hlt).lt _ e).1; have := HOn.out.1; have := HOl.out; omega)
                clear hU hux hul
                go_wp2_with fail
                refine wp_region_held_drew (S := (fun w' => w'.cell? ⟨w.heap.size + 1 + 1, 0, none⟩ = some (.slice (some ⟨w2.heap.size, 0, none⟩) n n))) (by kernel_rfl) (by (try dsimp only); go_keep) (fun hHeld => ?_)
                refine wpAnyH_take (i := 0) (v := ?_) rfl (by kernel_rfl) (by kernel_rfl) (by kernel_rfl) (fun _ _ _ h => h) (Or.inl ⟨by rfl, ?_⟩) (by assumption) ?_
                rotate_left
                · intro w hSw; (try dsimp only at hSw); go_simp; try with_reducible rfl
                simp only [Act.put, List.getElem_toArray, List.getElem_cons_zero, List.setIfInBounds_toArray, List.set_cons_zero, List.set_cons_succ]
                refine wpAnyH_take (i := 1) (v := ?_) rfl (by kernel_rfl) (by kernel_rfl) (by kernel_rfl) (fun _ _ _ h => h) (Or.inl ⟨by rfl, ?_⟩) (by assumption) ?_
                rotate_left
                · intro w hSw; (try dsimp only at hSw); go_simp; try with_reducible rfl
                simp only [Act.put, List.getElem_toArray, List.getElem_cons_zero, List.getElem_cons_succ, List.setIfInBounds_toArray, List.set_cons_zero, List.set_cons_succ]
                refine wpAnyH_take (i := 2) (v := ?_) rfl (by kernel_rfl) (by kernel_rfl) (by kernel_rfl) (fun _ _ _ h => h) (Or.inl ⟨by rfl, ?_⟩) (by assumption) ?_
                rotate_left
                · intro w hSw; (try dsimp only at hSw); go_simp; try with_reducible rfl
                simp only [Act.put, List.getElem_toArray, List.getElem_cons_zero, List.getElem_cons_succ, List.setIfInBounds_toArray, List.set_cons_zero, List.set_cons_succ]
                refine wpAnyH_take (i := 3) (v := ?_) rfl (by kernel_rfl) (by kernel_rfl) (by kernel_rfl) (fun _ _ _ h => h) (Or.inl ⟨by rfl, ?_⟩) (by assumption) ?_
                rotate_left
                · intro w hSw; (try dsimp only at hSw); go_simp; try with_reducible rfl
                simp only [Act.put, List.getElem_toArray, List.getElem_cons_zero, List.getElem_cons_succ, List.setIfInBounds_toArray, List.set_cons_zero, List.set_cons_succ]
                refine wpAnyH_take (i := 4) (v := ?_) rfl (by kernel_rfl) (by kernel_rfl) (by kernel_rfl) (fun _ _ _ h => h) (Or.inl ⟨by rfl, ?_⟩) (by assumption) ?_
                rotate_left
                · intro w hSw; (try dsimp only at hSw); go_simp; try with_reducible rfl
                simp only [Act.put, List.getElem_toArray, List.getElem_cons_zero, List.getElem_cons_succ, List.setIfInBounds_toArray, List.set_cons_zero, List.set_cons_succ]
                refine wpAnyH_take (i := 5) (v := ?_) rfl (by kernel_rfl) (by kernel_rfl) (by kernel_rfl) (fun _ _ _ h => h) (Or.inl ⟨by rfl, ?_⟩) (by assumption) ?_
                rotate_left
                · intro w hSw; (try dsimp only at hSw); go_simp; try with_reducible rfl
                simp only [Act.put, List.getElem_toArray, List.getElem_cons_zero, List.getElem_cons_succ, List.setIfInBounds_toArray, List.set_cons_zero, List.set_cons_succ]
                refine wpAnyH_take (i := 6) (v := ?_) rfl (by kernel_rfl) (by kernel_rfl) (by kernel_rfl) (fun _ _ _ h => h) (Or.inl ⟨by rfl, ?_⟩) (by assumption) ?_
                rotate_left
                · intro w hSw; (try dsimp only at hSw); go_simp; try with_reducible rfl
                simp only [Act.put, List.getElem_toArray, List.getElem_cons_zero, List.getElem_cons_succ, List.setIfInBounds_toArray, List.set_cons_zero, List.set_cons_succ]
                refine wpAnyH_take (i := 7) (v := ?_) rfl (by kernel_rfl) (by kernel_rfl) (by kernel_rfl) (fun _ _ _ h => h) (Or.inl ⟨by rfl, ?_⟩) (by assumption) ?_
                rotate_left
                · intro w hSw; (try dsimp only at hSw); go_simp; try with_reducible rfl
                simp only [Act.put, List.getElem_toArray, List.getElem_cons_zero, List.getElem_cons_succ, List.setIfInBounds_toArray, List.set_cons_zero, List.set_cons_succ]
                refine wpAnyH_take (i := 9) (v := ?_) rfl (by kernel_rfl) (by kernel_rfl) (by kernel_rfl) (fun _ _ _ h => h) (Or.inl ⟨by rfl, ?_⟩) (by assumption) ?_
                rotate_left
                · intro w hSw; (try dsimp only at hSw); go_simp; try with_reducible rfl
                simp only [Act.put, List.getElem_toArray, List.getElem_cons_zero, List.getElem_cons_succ, List.setIfInBounds_toArray, List.set_cons_zero, List.set_cons_succ]
                refine wpAnyH_ready (rs := [8, 10]) (by kernel_rfl) (by simp) ?_
                refine (AllReadyH.cons rfl (fun K hK => ?_) (AllReadyH.cons rfl (fun K hK => ?_) AllReadyH.nil))
                go_simp
                refine hK.out _ _ (by first | with_reducible exact hHeld | ((try dsimp only); go_keep)) (fun hHeld => ?_)
                clear hK
                try simp only [Act.put, List.getElem_toArray, List.getElem_cons_zero, List.getElem_cons_succ, List.setIfInBounds_toArray, List.set_cons_zero, List.set_cons_succ]
                refine wpAnyH_ready (rs := [10]) (by kernel_rfl) (by simp) ?_
                refine AllReadyH.cons rfl (fun K hK => ?_) AllReadyH.nil
                go_simp
                refine hK.out _ _ (by first | with_reducible exact hHeld | ((try dsimp only); go_keep)) (fun hHeld => ?_)
                clear hK
                try simp only [Act.put, List.getElem_toArray, List.getElem_cons_zero, List.getElem_cons_succ, List.setIfInBounds_toArray, List.set_cons_zero, List.set_cons_succ]
                rotate_left
                go_simp
                refine hK.out _ _ (by first | with_reducible exact hHeld | ((try dsimp only); go_keep)) (fun hHeld => ?_)
                clear hK
                try simp only [Act.put, List.getElem_toArray, List.getElem_cons_zero, List.getElem_cons_succ, List.setIfInBounds_toArray, List.set_cons_zero, List.set_cons_succ]
                refine wpAnyH_ready (rs := [8]) (by kernel_rfl) (by simp) ?_
                refine AllReadyH.cons rfl (fun K hK => ?_) AllReadyH.nil
                go_simp
                refine hK.out _ _ (by first | with_reducible exact hHeld | ((try dsimp only); go_keep)) (fun hHeld => ?_)
                clear hK
                try simp only [Act.put, List.getElem_toArray, List.getElem_cons_zero, List.getElem_cons_succ, List.setIfInBounds_toArray, List.set_cons_zero, List.set_cons_succ]
                all_goals (
                  refine wpAnyH_ready (rs := [11]) (by kernel_rfl) (by simp) ?_
                  refine AllReadyH.cons rfl (fun K hK => ?_) AllReadyH.nil
                  refine step_append_q rfl _ _ 52 rfl w3.heap.size 2 m0 (.int .i64 0) 1 8 Tryz.underlying52 hm0 hm1 hm2 hm3 rfl (by decide) (.slice ua ul uc) ul ((pM xs v b b false b).map (Value.int .i64)) rfl ?s1 ⟨wr.heap.size, 0, none⟩ 1 1 [.int .i64 (v : Int)] rfl rfl ?s2 ?s3 ?s4 ?s5 ?s6 ?_
                  case s1 => exact (HOX.out.drew).alloc _
                  case s2 => exact one_news _ _ _
                  case s3 => intro u hu; simp at hu; subst hu; rfl
                  case s4 => unfold maxLen; omega
                  case s5 => omega
                  case s6 => simp; omega
                  intro v8 w8 hown8 hg8 _ hat8
                  obtain ⟨g8, c8, rfl, _, _⟩ := own_some' hown8 (by omega)
                  obtain ⟨hD8, ce8, fe8, hq8, hz8⟩ := HLb.out.push (x := (v : Int)) (s := false) (t := b) HU.out hlt (by rw [HUX.out, ← HUL.out]; exact hg8) (by rw [← HUL.out]; exact hown8) (by rw [HUX.out, ← HUL.out]; simpa using hat8)
                  rw [HUX.out, ← HUL.out] at ce8
                  rw [HGf.out] at ce8 fe8 hD8 hq8 hz8
                  have q1 := hq8 (w.heap.size + 1 + 1) (World.block_lt_of_cell? wr _ eO) (by have := HOl.out; omega) HNO.out
                  have q2 := hq8 gl HGL.out.lt (by have := HGll.out; omega) HNL.out
                  have z6 := (cell_of (o := 0) q1.1).trans eO
                  have z7 := (cell_of (o := 0) q1.2).trans eO
                  have HD8 := hide (hD8.congr (fun s i _ => pM_yes1 HLI.out s i))
                  have HGL8 := hide (HGL.out.of_block q2.2)
                  clear hown8 hg8 hat8 hD8 hq8 hz8 q1 q2
                  refine hK.out _ _ z6 (fun hHeld => ?_)
                  clear hK
                  try simp only [Act.put, List.getElem_toArray, List.getElem_cons_zero, List.getElem_cons_succ, List.setIfInBounds_toArray, List.set_cons_zero, List.set_cons_succ]
                  refine wpAnyH_take (i := 12) (v := ?_) rfl (by kernel_rfl) (by kernel_rfl) (by kernel_rfl) (fun _ _ _ h => h) (Or.inl ⟨by rfl, ?_⟩) (by assumption) ?_
                  rotate_left
                  · intro w hSw; (try dsimp only at hSw); go_simp; try with_reducible rfl
                  simp only [Act.put, List.getElem_toArray, List.getElem_cons_zero, List.getElem_cons_succ, List.setIfInBounds_toArray, List.set_cons_zero, List.set_cons_succ]
                  refine wpAnyH_take (i := 13) (v := ?_) rfl (by kernel_rfl) (by kernel_rfl) (by kernel_rfl) (fun _ _ _ h => h) (Or.inl ⟨by rfl, ?_⟩) (by assumption) ?_
                  rotate_left
                  · intro w hSw; (try dsimp only at hSw); go_simp; try with_reducible rfl
                  simp only [Act.put, List.getElem_toArray, List.getElem_cons_zero, List.getElem_cons_succ, List.setIfInBounds_toArray, List.set_cons_zero, List.set_cons_succ]
                  refine wpAnyH_ready (rs := [14]) (by kernel_rfl) (by simp) ?_
                  refine AllReadyH.cons rfl (fun K hK => ?_) AllReadyH.nil
                  go_simp
                  refine hK.out _ _ z7 (fun hHeld => ?_)
                  clear hK
                  try simp only [Act.put, List.getElem_toArray, List.getElem_cons_zero, List.getElem_cons_succ, List.setIfInBounds_toArray, List.set_cons_zero, List.set_cons_succ]
                  refine wpAnyH_done (by kernel_rfl) ?_ _
                  clear hHeld ce8 fe8 z6 z7
                  generalize w8.setCell ⟨w2.heap.size, b, none⟩ (.slice (some ⟨g8, 0, none⟩) (ul + 1) c8) = w9 at *
                  go_wp2_with fail
                  go_meet
                  exact ⟨HD8, HGL8⟩)
            case rest =>
              obtain ⟨HLb2, HGL2⟩ := hcut
              clear HLb HGL HFB
              generalize wc = wr at *
              have HLb := HLb2
              have HGL := HGL2
              clear HLb2 HGL2
              have HLO := hide (liveOut_any V v n cf bf of gl b xs lv wr (hide (HFW.out _ _ HLb.out)) hx ho hlt HGL HLB)
              go_wp2_with fail
              refine HLO.out.mono ?_
              rintro e w8 ⟨s, rfl, hs', hb8⟩
              have HS := hide hs'
              have HL8 := hide (HLb.out.below hb8)
              have HG8 := hide (HGL.out.of_block (hb8.block _ HGL.out.lt))
              clear hs' hb8 HLb HGL HLO
              generalize wr = wq at *
              generalize w8 = wr at *
              have HLb := HL8
              have HGL := HG8
              clear HL8 HG8
              cases s with
              | false =>
                have HLI : Hid (¬ Lou xs v b) := hide (fun h => by have := HS.out.2 h; cases this)
                go_wp2_with fail
                exact ⟨⟨b + 1, by omega, by go_num, hide (HLb.out.congr (fun s i _ => pM_no2 HLI.out s i)), HGL⟩, by simp [intOf]; omega⟩
              | true =>
                have HLI : Hid (Lou xs v b) := hide (HS.out.1 rfl)
                obtain ⟨U, hU⟩ := HLb.out.db
                obtain ⟨ua, uc, hux, _⟩ := ints_owned (hU.own true b hlt)
                have HU := hide hU
                have HUX := hide hux
                obtain ⟨ul, hul⟩ : ∃ m, m = (pM xs v (b + 1) b true b).length := ⟨_, rfl⟩
                have hul2 : ul ≤ 2001 := by have := pM_len xs v (b + 1) b true b; omega
                have HUL := hide hul
                have HOX : Hid (wr.ownsRow w3.heap.size 2 1 (.slice ua ul uc) ul ((pM xs v (b + 1) b true b).map (Value.int .i64))) := hide (by have h := hU.own true b hlt; rw [hux, ← hul] at h; exact h)
                have eG : wr.cell? ⟨G true, b, none⟩ = some (.slice ua ul uc) := by rw [(hU.row true).cell hlt, hux, hul]
                rw [HGt.out] at eG
                have eO := HLb.out.cell HOn.out.1 HOn.out.2 HO1.out
                have hzb := HLb.out.size
                have hGl : w2.heap.size + 1 < wr.heap.size := by omega
                have HNL : Hid ((U true b).ownBlock ≠ some gl) := hide (HU.out.other HGL.out (by decide) hlt)
                have HNO : Hid ((U true b).ownBlock ≠ some (w.heap.size + 1 + 1)) := hide (fun e => by have := ((HU.out.own true b hlt).lt _ e).1; have := HOn.out.1; have := HOl.out; omega)
                clear hU hux hul
                go_wp2_with fail
                refine wp_region_held_drew (S := (fun w' => w'.cell? ⟨w.heap.size + 1 + 1, 1, none⟩ = some (.slice (some ⟨w2.heap.size + 1, 0, none⟩) n n))) (by kernel_rfl) (by (try dsimp only); go_keep) (fun hHeld => ?_)
                refine wpAnyH_take (i := 0) (v := ?_) rfl (by kernel_rfl) (by kernel_rfl) (by kernel_rfl) (fun _ _ _ h => h) (Or.inl ⟨by rfl, ?_⟩) (by assumption) ?_
                rotate_left
                · intro w hSw; (try dsimp only at hSw); go_simp; try with_reducible rfl
                simp only [Act.put, List.getElem_toArray, List.getElem_cons_zero, List.setIfInBounds_toArray, List.set_cons_zero, List.set_cons_succ]
                refine wpAnyH_take (i := 1) (v := ?_) rfl (by kernel_rfl) (by kernel_rfl) (by kernel_rfl) (fun _ _ _ h => h) (Or.inl ⟨by rfl, ?_⟩) (by assumption) ?_
                rotate_left
                · intro w hSw; (try dsimp only at hSw); go_simp; try with_reducible rfl
                simp only [Act.put, List.getElem_toArray, List.getElem_cons_zero, List.getElem_cons_succ, List.setIfInBounds_toArray, List.set_cons_zero, List.set_cons_succ]
                refine wpAnyH_take (i := 2) (v := ?_) rfl (by kernel_rfl) (by kernel_rfl) (by kernel_rfl) (fun _ _ _ h => h) (Or.inl ⟨by rfl, ?_⟩) (by assumption) ?_
                rotate_left
                · intro w hSw; (try dsimp only at hSw); go_simp; try with_reducible rfl
                simp only [Act.put, List.getElem_toArray, List.getElem_cons_zero, List.getElem_cons_succ, List.setIfInBounds_toArray, List.set_cons_zero, List.set_cons_succ]
                refine wpAnyH_take (i := 3) (v := ?_) rfl (by kernel_rfl) (by kernel_rfl) (by kernel_rfl) (fun _ _ _ h => h) (Or.inl ⟨by rfl, ?_⟩) (by assumption) ?_
                rotate_left
                · intro w hSw; (try dsimp only at hSw); go_simp; try with_reducible rfl
                simp only [Act.put, List.getElem_toArray, List.getElem_cons_zero, List.getElem_cons_succ, List.setIfInBounds_toArray, List.set_cons_zero, List.set_cons_succ]
                refine wpAnyH_take (i := 4) (v := ?_) rfl (by kernel_rfl) (by kernel_rfl) (by kernel_rfl) (fun _ _ _ h => h) (Or.inl ⟨by rfl, ?_⟩) (by assumption) ?_
                rotate_left
                · intro w hSw; (try dsimp only at hSw); go_simp; try with_reducible rfl
                simp only [Act.put, List.getElem_toArray, List.getElem_cons_zero, List.getElem_cons_succ, List.setIfInBounds_toArray, List.set_cons_zero, List.set_cons_succ]
                refine wpAnyH_take (i := 5) (v := ?_) rfl (by kernel_rfl) (by kernel_rfl) (by kernel_rfl) (fun _ _ _ h => h) (Or.inl ⟨by rfl, ?_⟩) (by assumption) ?_
                rotate_left
                · intro w hSw; (try dsimp only at hSw); go_simp; try with_reducible rfl
                simp only [Act.put, List.getElem_toArray, List.getElem_cons_zero, List.getElem_cons_succ, List.setIfInBounds_toArray, List.set_cons_zero, List.set_cons_succ]
                refine wpAnyH_take (i := 6) (v := ?_) rfl (by kernel_rfl) (by kernel_rfl) (by kernel_rfl) (fun _ _ _ h => h) (Or.inl ⟨by rfl, ?_⟩) (by assumption) ?_
                rotate_left
                · intro w hSw; (try dsimp only at hSw); go_simp; try with_reducible rfl
                simp only [Act.put, List.getElem_toArray, List.getElem_cons_zero, List.getElem_cons_succ, List.setIfInBounds_toArray, List.set_cons_zero, List.set_cons_succ]
                refine wpAnyH_take (i := 7) (v := ?_) rfl (by kernel_rfl) (by kernel_rfl) (by kernel_rfl) (fun _ _ _ h => h) (Or.inl ⟨by rfl, ?_⟩) (by assumption) ?_
                rotate_left
                · intro w hSw; (try dsimp only at hSw); go_simp; try with_reducible rfl
                simp only [Act.put, List.getElem_toArray, List.getElem_cons_zero, List.getElem_cons_succ, List.setIfInBounds_toArray, List.set_cons_zero, List.set_cons_succ]
                refine wpAnyH_take (i := 9) (v := ?_) rfl (by kernel_rfl) (by kernel_rfl) (by kernel_rfl) (fun _ _ _ h => h) (Or.inl ⟨by rfl, ?_⟩) (by assumption) ?_
                rotate_left
                · intro w hSw; (try dsimp only at hSw); go_simp; try with_reducible rfl
                simp only [Act.put, List.getElem_toArray, List.getElem_cons_zero, List.getElem_cons_succ, List.setIfInBounds_toArray, List.set_cons_zero, List.set_cons_succ]
                refine wpAnyH_ready (rs := [8, 10]) (by kernel_rfl) (by simp) ?_
                refine (AllReadyH.cons rfl (fun K hK => ?_) (AllReadyH.cons rfl (fun K hK => ?_) AllReadyH.nil))
                go_simp
                refine hK.out _ _ (by first | with_reducible exact hHeld | ((try dsimp only); go_keep)) (fun hHeld => ?_)
                clear hK
                try simp only [Act.put, List.getElem_toArray, List.getElem_cons_zero, List.getElem_cons_succ, List.setIfInBounds_toArray, List.set_cons_zero, List.set_cons_succ]
                refine wpAnyH_ready (rs := [10]) (by kernel_rfl) (by simp) ?_
                refine AllReadyH.cons rfl (fun K hK => ?_) AllReadyH.nil
                go_simp
                refine hK.out _ _ (by first | with_reducible exact hHeld | ((try dsimp only); go_keep)) (fun hHeld => ?_)
                clear hK
                try simp only [Act.put, List.getElem_toArray, List.getElem_cons_zero, List.getElem_cons_succ, List.setIfInBounds_toArray, List.set_cons_zero, List.set_cons_succ]
                rotate_left
                go_simp
                refine hK.out _ _ (by first | with_reducible exact hHeld | ((try dsimp only); go_keep)) (fun hHeld => ?_)
                clear hK
                try simp only [Act.put, List.getElem_toArray, List.getElem_cons_zero, List.getElem_cons_succ, List.setIfInBounds_toArray, List.set_cons_zero, List.set_cons_succ]
                refine wpAnyH_ready (rs := [8]) (by kernel_rfl) (by simp) ?_
                refine AllReadyH.cons rfl (fun K hK => ?_) AllReadyH.nil
                go_simp
                refine hK.out _ _ (by first | with_reducible exact hHeld | ((try dsimp only); go_keep)) (fun hHeld => ?_)
                clear hK
                try simp only [Act.put, List.getElem_toArray, List.getElem_cons_zero, List.getElem_cons_succ, List.setIfInBounds_toArray, List.set_cons_zero, List.set_cons_succ]
                all_goals (
                  refine wpAnyH_ready (rs := [11]) (by kernel_rfl) (by simp) ?_
                  refine AllReadyH.cons rfl (fun K hK => ?_) AllReadyH.nil
                  refine step_append_q rfl _ _ 52 rfl w3.heap.size 2 m0 (.int .i64 0) 1 8 Tryz.underlying52 hm0 hm1 hm2 hm3 rfl (by decide) (.slice ua ul uc) ul ((pM xs v (b + 1) b true b).map (Value.int .i64)) rfl ?s1 ⟨wr.heap.size, 0, none⟩ 1 1 [.int .i64 (v : Int)] rfl rfl ?s2 ?s3 ?s4 ?s5 ?s6 ?_
                  case s1 => exact (HOX.out.drew).alloc _
                  case s2 => exact one_news _ _ _
                  case s3 => intro u hu; simp at hu; subst hu; rfl
                  case s4 => unfold maxLen; omega
                  case s5 => omega
                  case s6 => simp; omega
                  intro v8 w8 hown8 hg8 _ hat8
                  obtain ⟨g8, c8, rfl, _, _⟩ := own_some' hown8 (by omega)
                  obtain ⟨hD8, ce8, fe8, hq8, hz8⟩ := HLb.out.push (x := (v : Int)) (s := true) (t := b) HU.out hlt (by rw [HUX.out, ← HUL.out]; exact hg8) (by rw [← HUL.out]; exact hown8) (by rw [HUX.out, ← HUL.out]; simpa using hat8)
                  rw [HUX.out, ← HUL.out] at ce8
                  rw [HGt.out] at ce8 fe8 hD8 hq8 hz8
                  have q1 := hq8 (w.heap.size + 1 + 1) (World.block_lt_of_cell? wr _ eO) (by have := HOl.out; omega) HNO.out
                  have q2 := hq8 gl HGL.out.lt (by have := HGll.out; omega) HNL.out
                  have z6 := (cell_of (o := 1) q1.1).trans eO
                  have z7 := (cell_of (o := 1) q1.2).trans eO
                  have HD8 := hide (hD8.congr (fun s i _ => pM_yes2 HLI.out s i))
                  have HGL8 := hide (HGL.out.of_block q2.2)
                  clear hown8 hg8 hat8 hD8 hq8 hz8 q1 q2
                  refine hK.out _ _ z6 (fun hHeld => ?_)
                  clear hK
                  try simp only [Act.put, List.getElem_toArray, List.getElem_cons_zero, List.getElem_cons_succ, List.setIfInBounds_toArray, List.set_cons_zero, List.set_cons_succ]
                  refine wpAnyH_take (i := 12) (v := ?_) rfl (by kernel_rfl) (by kernel_rfl) (by kernel_rfl) (fun _ _ _ h => h) (Or.inl ⟨by rfl, ?_⟩) (by assumption) ?_
                  rotate_left
                  · intro w hSw; (try dsimp only at hSw); go_simp; try with_reducible rfl
                  simp only [Act.put, List.getElem_toArray, List.getElem_cons_zero, List.getElem_cons_succ, List.setIfInBounds_toArray, List.set_cons_zero, List.set_cons_succ]
                  refine wpAnyH_take (i := 13) (v := ?_) rfl (by kernel_rfl) (by kernel_rfl) (by kernel_rfl) (fun _ _ _ h => h) (Or.inl ⟨by rfl, ?_⟩) (by assumption) ?_
                  rotate_left
                  · intro w hSw; (try dsimp only at hSw); go_simp; try with_reducible rfl
                  simp only [Act.put, List.getElem_toArray, List.getElem_cons_zero, List.getElem_cons_succ, List.setIfInBounds_toArray, List.set_cons_zero, List.set_cons_succ]
                  refine wpAnyH_ready (rs := [14]) (by kernel_rfl) (by simp) ?_
                  refine AllReadyH.cons rfl (fun K hK => ?_) AllReadyH.nil
                  go_simp
                  refine hK.out _ _ z7 (fun hHeld => ?_)
                  clear hK
                  try simp only [Act.put, List.getElem_toArray, List.getElem_cons_zero, List.getElem_cons_succ, List.setIfInBounds_toArray, List.set_cons_zero, List.set_cons_succ]
                  refine wpAnyH_done (by kernel_rfl) ?_ _
                  clear hHeld ce8 fe8 z6 z7
                  generalize w8.setCell ⟨w2.heap.size + 1, b, none⟩ (.slice (some ⟨g8, 0, none⟩) (ul + 1) c8) = w9 at *
                  go_wp2_with fail
                  exact ⟨⟨b + 1, by omega, by go_num, HD8, HGL8⟩, by simp [intOf]; omega⟩)
        · have HLV : Hid (LvS w3 wr G n (ipTo xs (v + 1))) := hide (HLb.out.congr (fun s i hi => by rw [show b = n by omega]; exact pM_full xs v n s hi))
          go_wp2_with fail
          exact ⟨⟨v + 1, by omega, by go_num, HLV⟩, by simp [intOf]; omega⟩
    · have hve : v = V := by omega
      subst hve
      have eO0 := HL.out.cell HOn.out.1 HOn.out.2 HO0.out
      have eO1 := HL.out.cell HOn.out.1 HOn.out.2 HO1.out
      have hRb := HL.out.fr (w.heap.size + 1) (by omega) (by rw [HGf.out]; omega) (by rw [HGt.out]; omega)
      have HRR := hide (HR13.out.of_block hRb)
      have r0 := HRR.out.cell (i := 0) (by decide)
      have r1 := HRR.out.cell (i := 1) (by decide)
      have rz := HRR.out.frozen
      have r1' : ∀ u, (wr.setCell ⟨w.heap.size + 1, 0, none⟩ u).cell? ⟨w.heap.size + 1, 1, none⟩ = some (.slice none 0 0) := fun u => (HRR.out.set 0 u).cell (i := 1) (by decide)
      go_wp2_with fail
      obtain ⟨U, hU⟩ := HL.out.db
      have hRE := ((HRR.out.set 0 (.slice (some ⟨w2.heap.size, 0, none⟩) n n)).set 1 (.slice (some ⟨w2.heap.size + 1, 0, none⟩) n n))
      have z0 := hRE.cell (i := 0) (by decide)
      have z1 := hRE.cell (i := 1) (by decide)
      simp only [if_true, if_false, Nat.zero_ne_one, Nat.one_ne_zero] at z0 z1
      have hzE : ((wr.setCell ⟨w.heap.size + 1, 0, none⟩ (.slice (some ⟨w2.heap.size, 0, none⟩) n n)).setCell ⟨w.heap.size + 1, 1, none⟩ (.slice (some ⟨w2.heap.size + 1, 0, none⟩) n n)).heap.size = wr.heap.size := by rw [size_setCell, size_setCell]
      have hbE : ∀ q, q ≠ w.heap.size + 1 → ((wr.setCell ⟨w.heap.size + 1, 0, none⟩ (.slice (some ⟨w2.heap.size, 0, none⟩) n n)).setCell ⟨w.heap.size + 1, 1, none⟩ (.slice (some ⟨w2.heap.size + 1, 0, none⟩) n n)).heap[q]? = wr.heap[q]? := fun q h => (Below.heap_setCell _ _ _ _ h).trans (Below.heap_setCell _ _ _ _ h)
      have h1 := hU.ints false (L := w2.heap.size) (by rw [HGf.out]; omega)
      have h2 := hU.ints true (L := w2.heap.size) (by rw [HGt.out]; omega)
      rw [HGf.out] at h1
      rw [HGt.out] at h2
      have hzs := HL.out.size
      have hLow : Below w.heap.size w wr := ⟨HL.out.os.trans HL3.out.os, HL.out.tape.trans HL3.out.tape, HL.out.output.trans HL3.out.output, by have := HL3.out.size; omega, fun q hq => (HL.out.fr q (by omega) (by rw [HGf.out]; omega) (by rw [HGt.out]; omega)).trans (HL3.out.block q hq)⟩
      refine bodyPost_ret (v := .agg #[.slice (some ⟨w2.heap.size, 0, none⟩) n n, .slice (some ⟨w2.heap.size + 1, 0, none⟩) n n]) (by simp [results, Tryz.results8, go_sem, z0, z1]) rfl ⟨_, _, rfl, (hLow.setCell (by show w.heap.size ≤ w.heap.size + 1; omega) _).setCell (by show w.heap.size ≤ w.heap.size + 1; omega) _, ?_, ?_⟩
      · exact (h1.keepS (fun q q1 _ => hbE q (by omega))).mono (by omega) (by omega)
      · exact (h2.keepS (fun q q1 _ => hbE q (by omega))).mono (by omega) (by omega)
end Go.Proofs.YtjfcbjomfbfoiaaGreatDoor
