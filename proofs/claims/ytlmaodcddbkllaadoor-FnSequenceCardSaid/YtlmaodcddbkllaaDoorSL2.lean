import Derived.Test.YtlmaodcddbkllaaDoorSL0
namespace Go.Proofs.YtlmaodcddbkllaaDoor
open Go.RowKit
set_option maxHeartbeats 4000000 in
set_option maxRecDepth 100000 in
theorem lawQ_any (a : Option Addr) (n c : Nat) (bs : List UInt8) (w : World) (ha : Hid (BytesAt w 0 w.heap.size a bs)) (hx : Hid (n = bs.length)) (hn : n ≤ 9223372036854775807) (hO : Hid (OpTabW w)) :
    Calls Tryd.prog 5 #[.slice a n c] w fun e w' => e = .returned (.bool true) ∧ Below w.heap.size w w' := by
  have hmk := run_make_row' (P := Tryd.prog) 40 2 (.int .i64 0) 8 Tryd.underlying40 Tryd.info2' rfl .i64 .i64 64 (by omega) (by omega)
  have hmb := run_make_row' (P := Tryd.prog) 48 4 (.bool false) 1 Tryd.underlying48 Tryd.infoBo rfl .i64 .i64 64 (by omega) (by omega)
  rw [show ((64 : Nat) : Int) = 64 from rfl] at hmk hmb
  by_cases hbig : 1048576 < n
  · go_enter Tryd.func5, Tryd.ntmps5
    go_wp2_with fail
    go_ret
    exact ⟨rfl, Below.refl _ _⟩
  have hnn : n ≤ 1048576 := by omega
  have HDR := hide (drawP_ok (srcP_ok bs))
  have HD1 := hide (drawSeq_any a n c bs 0 w.heap.size w ha hx hnn (Nat.le_refl _))
  have HD2 : Hid (∀ W, Below w.heap.size w W → Calls Tryd.prog 22 #[.slice a n c] W fun e w' => ∃ v, e = .returned v ∧ Below W.heap.size W w' ∧ w'.ownsRow W.heap.size 58 2 v (drawP (srcP bs)).length (mvV (drawP (srcP bs)))) := hide (fun W hW => drawSeq_any a n c bs 0 w.heap.size W (hide (ha.out.keep hW)) hx hnn hW.size)
  generalize drawP (srcP bs) = xs at *
  go_enter Tryd.func5, Tryd.ntmps5
  go_wp2_with fail
  refine HD1.out.mono ?_
  rintro e w1 ⟨v1, rfl, hb1, ho1⟩
  obtain ⟨a1, c1, rfl, -, hc1, hm1⟩ := mvs_owned ho1
  have HB1 := hide hb1
  have HM1 := hide hm1
  clear ho1 hb1 hm1
  go_wp2_with fail
  refine (HD2.out w1 HB1.out).mono ?_
  rintro e w2 ⟨v2, rfl, hb2, ho2⟩
  obtain ⟨a2, c2, rfl, -, hc2, hm2⟩ := mvs_owned ho2
  have HB2 := hide hb2
  have HM2 := hide hm2
  clear ho2 hb2 hm2
  go_wp2_with fail
  refine (seqI_any a2 xs.length c2 xs _ _ w2 HM2 (hide rfl) (by have := HDR.out.1; omega) (Nat.le_refl _) (hide (fun m hm => by have := (HDR.out.2 m hm).1; omega)) (hide (hO.out.keep (bnext HB1.out HB2.out) hO.out.1))).mono ?_
  rintro e w3 ⟨v3, rfl, -, hb3, ho3⟩
  obtain ⟨a3, c3, rfl, hi3⟩ := inss_own ho3
  have HC3 := hide hi3
  have HM3 : Hid (MvsAt w3 w.heap.size w1.heap.size a1 xs) := hide (HM1.out.keepS (fun k _ h2 => ((bnext (Below.refl w1.heap.size w1 |>.trans (HB2.out)) hb3).block k h2)))
  have HB3 : Hid (Below w.heap.size w w3) := hide (bnext (bnext HB1.out HB2.out) hb3)
  have HZ1 : Hid (w1.heap.size ≤ w3.heap.size) := hide (Nat.le_trans HB2.out.size hb3.size)
  have hl3 := copies_le xs
  have hl65 := HDR.out.1
  clear hi3 ho3 hb3 HM2 HM1 HB1 HB2 HD1 HD2 hO ha hx hbig
  generalize w1.heap.size = Z1 at *
  generalize w2.heap.size = Z2 at *
  go_wp2_with fail
  go_loopw [6] (fun u wr => ∃ r : Nat, r ≤ 64 ∧ u = .int .i64 r ∧ Hid (Below w3.heap.size w3 wr) ∧ Hid (w3.heap.size < wr.heap.size) ∧ Hid (∃ f : Nat → Int, wr.rowIs w3.heap.size 2 64 (fun z => .int .i64 (f z)) ∧ ∀ z, z < r → f z = z)) (fun u _ => 64 - (intOf u).toNat)
  case atStart => exact ⟨0, by omega, rfl, hide (balloc (Below.refl _ _) _), hide (by simp), hide ⟨fun _ => 0, World.rowIs_made _ _ _ _, fun z hz => by omega⟩⟩
  case round =>
    obtain ⟨r, hr, rfl, HB, HZ, HF⟩ := hrel
    by_cases hlt : r < 64
    · obtain ⟨f, hf, hfe⟩ := HF.out
      have ec := hf.cell hlt
      have ez := hf.frozen
      have HFF := hide hf
      have HFE := hide hfe
      clear hf hfe
      go_wp2
      exact ⟨⟨r + 1, by omega, by go_num, hide (HB.out.setCell (Nat.le_refl _) _), hide (by rw [size_setCell]; exact HZ.out), hide ⟨fun z => if z = r then (r : Int) else f z, row_set HFF.out r (r : Int), fun z hz => by
        dsimp only
        by_cases e : z = r
        · rw [if_pos e, e]
        · rw [if_neg e]; exact HFE.out z (by omega)⟩⟩, by simp [intOf]; omega⟩
    · have hre : r = 64 := by omega
      subst hre
      have HS0 : Hid (wr.rowIs w3.heap.size 2 64 (fun z => .int .i64 (srcM [] z))) := hide (by
        obtain ⟨f, hf, hfe⟩ := HF.out
        exact hf.congr (fun z hz => by rw [hfe z hz]; rfl))
      clear HF
      rw [show ((64 : Nat) : Int) = 64 from rfl]
      have hg13 : w3.heap.size < wr.heap.size := HZ.out
      go_wp2
      have HG0 := hide (World.rowIs_made wr (.bool false) 64 4)
      have HS1 := hide (HS0.out.alloc (.cells (madeCells #[.bool false] 64) 4))
      have HB4 := hide (balloc HB.out (.cells (madeCells #[.bool false] 64) 4))
      clear HS0 HB hg13
      have HZ2 : Hid (wr.heap.size < (wr.alloc (.cells (madeCells #[.bool false] 64) 4)).heap.size) := hide (by simp)
      generalize wr.alloc (.cells (madeCells #[.bool false] 64) 4) = w4 at *
      generalize hg2 : wr.heap.size = g2 at *
      clear hg2
      generalize wr = wo at *
      generalize hb64 : decide ((xs.length : Int) ≤ 64) = b64
      generalize decide (1048576 < (n : Int)) = bbig
      go_loopw [8, 9, 10] (fun gd wt u wr => ∃ i : Nat, u = .int .i64 i ∧ Hid (Below w3.heap.size w3 wr) ∧ Hid (g2 < wr.heap.size) ∧ ((gd = .bool true ∧ i ≤ xs.length ∧ xs.length ≤ 64 ∧ wt = .int .i64 ((startM (xs.take i)).length : Int) ∧ Hid (goodF [] (xs.take i) = true) ∧ Hid (wr.rowIs w3.heap.size 2 64 (fun z => .int .i64 (srcM (xs.take i) z))) ∧ Hid (wr.rowIs g2 4 64 (fun z => .bool (decide ((z : Int) ∈ tosM (xs.take i)))))) ∨ (gd = .bool false ∧ Hid (goodM xs = false)))) (fun _ _ u _ => xs.length - (intOf u).toNat)
      case atStart =>
        refine ⟨0, rfl, HB4, HZ2, ?_⟩
        by_cases h64 : xs.length ≤ 64
        · refine Or.inl ⟨by rw [← hb64, decide_eq_true (by omega)], Nat.zero_le _, h64, rfl, hide rfl, HS1, hide (row_as (C := Value.bool) HG0.out (fun z _ => by simp [tosM]))⟩
        · exact Or.inr ⟨by rw [← hb64, decide_eq_false (by omega)], hide (good_long (by omega))⟩
      case round =>
        obtain ⟨i, rfl, HBr, HZr, hst⟩ := hrel
        clear hb64
        rcases hst with ⟨rfl, hi, h64, rfl, HGF, HSr, HGr⟩ | ⟨rfl, HGM⟩
        · by_cases hlt : i < xs.length
          · obtain ⟨b, o, rfl, hbB, em0, em1⟩ := HM3.out i hlt
            have hb3 : b < w3.heap.size := by have := HZ1.out; omega
            have e0 := (HBr.out.cell (p := ⟨b, o + i * 2, none⟩) hb3).trans em0
            have e1 := (HBr.out.cell (p := ⟨b, o + i * 2 + 1, none⟩) hb3).trans em1
            clear em0 em1 HB4 HS1 HG0
            have HDR1 := hide (HDR.out.2 xs[i] (List.getElem_mem hlt))
            have HT : Hid (xs.take (i + 1) = xs.take i ++ [xs[i]]) := hide (List.take_succ_eq_append_getElem hlt)
            have HFS := hide (fun h => good_step hlt HGF.out h)
            have HFF := hide (good_fail (xs := xs) hlt)
            by_cases hga : goodAt (xs.take i) xs[i] = true
            · obtain ⟨hrg, hnt⟩ := goodAt_yes.1 hga
              have HF1 := hide (HFS.out hga)
              have HSN : Hid (∀ z : Int, srcM (xs.take (i + 1)) z = if z = xs[i].to then xs[i].frm else srcM (xs.take i) z) := hide (fun z => by rw [HT.out]; exact src_snoc hnt z)
              have HTN : Hid (∀ z : Int, z ∈ tosM (xs.take (i + 1)) ↔ z ∈ tosM (xs.take i) ∨ z = xs[i].to) := hide (fun z => by rw [HT.out]; exact tos_snoc _ _ z)
              have HWN : Hid ((startM (xs.take (i + 1))).length = (startM (xs.take i)).length + if xs[i].to = xs[i].frm then 0 else 1) := hide (by rw [HT.out]; exact start_snoc _ _)
              have hwl : (startM (xs.take i)).length ≤ 64 := Nat.le_trans (start_le _) (by rw [List.length_take]; omega)
              clear HFS HFF HT HDR1 HGF hga
              generalize xs[i] = mv at *
              obtain ⟨t, f⟩ := mv
              dsimp only at *
              obtain ⟨tn, rfl⟩ := nat_of hrg.1
              have htn : tn < 64 := by omega
              have eg : wr.cell? ⟨g2, tn, none⟩ = some (.bool false) := (HGr.out.cell htn).trans (by rw [decide_eq_false hnt])
              have es := HSr.out.cell htn
              have zs := HSr.out.frozen
              have zg := HGr.out.frozen
              have l1 : w3.heap.size < g2 := HZ.out
              have l2 : g2 < wr.heap.size := HZr.out
              have l3 : w3.heap.size < wr.heap.size := by omega
              have n1 : w3.heap.size ≠ g2 := by omega
              have n2 : g2 ≠ w3.heap.size := by omega
              clear hnt
              generalize hst : (startM (xs.take i)).length = st at *
              have HSO : Hid (∀ z, z < 64 → (if z = tn then f else srcM (xs.take i) z) = srcM (xs.take (i + 1)) z) := hide (fun z _ => by
                rw [HSN.out]
                by_cases e : z = tn
                · rw [if_pos e, if_pos (by omega)]
                · rw [if_neg e, if_neg (by omega)])
              have HGO : Hid (∀ z, z < 64 → (if z = tn then true else decide ((z : Int) ∈ tosM (xs.take i))) = decide ((z : Int) ∈ tosM (xs.take (i + 1)))) := hide (fun z _ => by
                by_cases e : z = tn
                · rw [if_pos e]
                  exact (decide_eq_true ((HTN.out _).2 (Or.inr (by omega)))).symm
                · rw [if_neg e]
                  by_cases e2 : (z : Int) ∈ tosM (xs.take i)
                  · rw [decide_eq_true e2, decide_eq_true ((HTN.out _).2 (Or.inl e2))]
                  · rw [decide_eq_false e2, decide_eq_false (fun h => by rcases (HTN.out _).1 h with h | h; exact e2 h; omega)])
              by_cases htf : (tn : Int) = f
              · subst htf
                go_wp2
                exact ⟨⟨i + 1, by go_num, hide (Below.alloc ((HBr.out.setCell (Nat.le_of_lt l1) _).setCell (Nat.le_refl _) _) (by simp only [size_setCell]; omega) _), hide (by rw [World.size_alloc]; simp only [size_setCell]; omega), Or.inl ⟨rfl, by omega, h64, by rw [HWN.out, if_pos rfl, Nat.add_zero], HF1, hide (row_as (C := Value.int .i64) ((row_set (C := Value.int .i64) (HSr.out.setOther n1 _) tn (tn : Int)).alloc _) HSO.out), hide (row_as (C := Value.bool) (((row_set (C := Value.bool) HGr.out tn true).setOther n2 _).alloc _) HGO.out)⟩⟩, by simp [intOf]; omega⟩
              · have hbf : ((tn : Int) == f) = false := by simpa using htf
                go_wp2
                exact ⟨⟨i + 1, by go_num, hide (Below.alloc ((HBr.out.setCell (Nat.le_of_lt l1) _).setCell (Nat.le_refl _) _) (by simp only [size_setCell]; omega) _), hide (by rw [World.size_alloc]; simp only [size_setCell]; omega), Or.inl ⟨rfl, by omega, h64, by rw [HWN.out, if_neg htf]; go_num, HF1, hide (row_as (C := Value.int .i64) ((row_set (C := Value.int .i64) (HSr.out.setOther n1 _) tn f).alloc _) HSO.out), hide (row_as (C := Value.bool) (((row_set (C := Value.bool) HGr.out tn true).setOther n2 _).alloc _) HGO.out)⟩⟩, by simp [intOf]; omega⟩
            · have HGM : Hid (goodM xs = false) := hide (HFF.out (by simpa using hga))
              clear HFS HFF HT HGF
              have hcs := hide (fun h1 h2 => hga (goodAt_yes.2 ⟨h1, h2⟩))
              have l1 : w3.heap.size < g2 := HZ.out
              have l2 : g2 < wr.heap.size := HZr.out
              have l3 : w3.heap.size < wr.heap.size := by omega
              have zg := HGr.out
              have HGr2 := hide zg
              clear zg hga
              have hDR := HDR1.out
              unfold MvR at hDR
              generalize xs[i] = mv at *
              obtain ⟨t, f⟩ := mv
              dsimp only at *
              by_cases t0 : t < 0
              · go_wp2
                exact ⟨⟨i + 1, by go_num, hide (Below.alloc HBr.out (Nat.le_of_lt l3) _), hide (by rw [World.size_alloc]; omega), Or.inr ⟨rfl, HGM⟩⟩, by simp [intOf]; omega⟩
              · by_cases t1 : t ≥ 64
                · go_wp2
                  exact ⟨⟨i + 1, by go_num, hide (Below.alloc HBr.out (Nat.le_of_lt l3) _), hide (by rw [World.size_alloc]; omega), Or.inr ⟨rfl, HGM⟩⟩, by simp [intOf]; omega⟩
                · by_cases f0 : f < 0
                  · go_wp2
                    exact ⟨⟨i + 1, by go_num, hide (Below.alloc HBr.out (Nat.le_of_lt l3) _), hide (by rw [World.size_alloc]; omega), Or.inr ⟨rfl, HGM⟩⟩, by simp [intOf]; omega⟩
                  · by_cases f1 : f ≥ 64
                    · go_wp2
                      exact ⟨⟨i + 1, by go_num, hide (Below.alloc HBr.out (Nat.le_of_lt l3) _), hide (by rw [World.size_alloc]; omega), Or.inr ⟨rfl, HGM⟩⟩, by simp [intOf]; omega⟩
                    · obtain ⟨tn, rfl⟩ := nat_of (show 0 ≤ t by omega)
                      have hin : (tn : Int) ∈ tosM (xs.take i) := Classical.byContradiction (fun h => hcs.out ⟨by omega, by omega, by omega, by omega⟩ h)
                      have eg : wr.cell? ⟨g2, tn, none⟩ = some (.bool true) := (HGr2.out.cell (show tn < 64 by omega)).trans (by rw [decide_eq_true hin])
                      clear hin hcs
                      go_wp2
                      exact ⟨⟨i + 1, by go_num, hide (Below.alloc HBr.out (Nat.le_of_lt l3) _), hide (by rw [World.size_alloc]; omega), Or.inr ⟨rfl, HGM⟩⟩, by simp [intOf]; omega⟩
          · have hie : i = xs.length := by omega
            subst hie
            have HGD : Hid (goodM xs = true) := hide (good_done h64 (by have := HGF.out; rwa [List.take_of_length_le (by omega)] at this))
            clear HB4 HS1 HG0 HGF HGr
            have HSr2 : Hid (wr.rowIs w3.heap.size 2 64 (fun z => .int .i64 (srcM xs z))) := hide (by have := HSr.out; rwa [List.take_of_length_le (by omega)] at this)
            clear HSr
            obtain ⟨hsg1, hsg2, hsg3⟩ := seq_good HGD.out
            have HK1 := hide hsg1
            have HK2 : Hid (∀ z, (cps rg0 (seqM xs)).reg z = 1000 + srcM xs z) := hide (fun z => hsg2 rg0 z)
            have HK3 : Hid ((seqM xs).length = (startM (xs.take xs.length)).length + cntC (srcM xs) 64) := hide (by rw [List.take_of_length_le (by omega)]; exact hsg3)
            have HSG : Hid (∀ z : Int, 0 ≤ z → z < 64 → 0 ≤ srcM xs z ∧ srcM xs z < 64) := hide (fun z h0 h1 => src_rng (goodM_good HGD.out).2 h0 h1)
            have hst64 : (startM (xs.take xs.length)).length ≤ 64 := Nat.le_trans (start_le _) (by rw [List.length_take]; omega)
            clear hsg1 hsg2 hsg3 HGD
            generalize (startM (xs.take xs.length)).length = st at *
            generalize srcM xs = src at *
            generalize seqM xs = is at *
            go_wp2
            generalize wr = wo2 at *
            go_loopw [9, 12] (fun wt u wq => ∃ r : Nat, r ≤ 64 ∧ u = .int .i64 r ∧ wt = .int .i64 ((st + cntC src r : Nat) : Int) ∧ wq = wo2) (fun _ u _ => 64 - (intOf u).toNat)
            case atStart => exact ⟨0, by omega, rfl, by rw [cnt_zero, Nat.add_zero], rfl⟩
            case round =>
              obtain ⟨r, hr, rfl, rfl, rfl⟩ := hrel
              have hcl := cnt_le src r
              obtain ⟨wt, hwt⟩ : ∃ wt, st + cntC src r = wt := ⟨_, rfl⟩
              have HWT := hide hwt
              have hwl : wt ≤ 128 := by omega
              rw [hwt]
              clear hwt
              by_cases hlr : r < 64
              · have er := HSr2.out.cell hlr
                have hsr := HSG.out r (by omega) (by omega)
                have HLC : Hid (lawCyc src r = (decide ((loopC src r 64 (src r) true).1 = r) && (loopC src r 64 (src r) true).2 && decide (src r ≠ r))) := hide rfl
                have HCS := hide (cnt_succ src r)
                generalize hcr : cntC src r = cr at *
                clear hcr
                generalize hsv : src (r : Int) = sr at *
                have HSV := hide hsv
                clear hsv
                go_wp2
                generalize decide ((r : Int) < 64) = br
                go_loopw [13, 14, 15] (fun av sv u wq => ∃ (k i : Nat) (z : Int), i + k = 64 ∧ u = .int .i64 i ∧ av = .int .i64 z ∧ (0 ≤ z ∧ z < 64) ∧ LoopIs src r k z sr sv ∧ SameW wq wr) (fun _ _ u _ => 64 - (intOf u).toNat)
                case atStart => exact ⟨64, 0, sr, by omega, rfl, rfl, hsr, ⟨true, rfl, rfl⟩, rfl⟩
                case round =>
                  obtain ⟨k, i2, z, hik, rfl, rfl, hz, HLb, HWE⟩ := hrel
                  unfold SameW at HWE
                  subst HWE
                  obtain ⟨b, rfl, hL⟩ := HLb
                  have HL := hide hL
                  clear hL
                  by_cases hzr : z = (r : Int)
                  · have HLR : Hid (loopC src r 64 sr true = ((r : Int), b)) := hide (by rw [← HL.out, hzr]; exact loopC_stop _ _ _ _)
                    subst hzr
                    rw [HLR.out] at HLC
                    dsimp only at HLC
                    cases b with
                    | true =>
                      by_cases hsn : sr = (r : Int)
                      · have HC1 : Hid (cntC src (r + 1) = cr) := hide (by rw [HCS.out, HLC.out]; simp [hsn])
                        have hsb : (sr == (r : Int)) = true := by simpa using hsn
                        go_wp2
                        all_goals first | exact ⟨⟨r + 1, by omega, by go_num, by have h1 := HWT.out; have h2 := HC1.out; first | omega | (congr 1; omega)⟩, by simp [intOf]; omega⟩ | exact ⟨⟨r + 1, by omega, by go_num, by have h1 := HWT.out; have h2 := HC1.out; first | omega | (congr 1; omega), by trivial⟩, by simp [intOf]; omega⟩
                      · have HC1 : Hid (cntC src (r + 1) = cr + 1) := hide (by rw [HCS.out, HLC.out]; simp [hsn])
                        have hsb : (sr == (r : Int)) = false := by simpa using hsn
                        go_wp2
                        all_goals first | exact ⟨⟨r + 1, by omega, by go_num, by have h1 := HWT.out; have h2 := HC1.out; first | omega | (congr 1; omega)⟩, by simp [intOf]; omega⟩ | exact ⟨⟨r + 1, by omega, by go_num, by have h1 := HWT.out; have h2 := HC1.out; first | omega | (congr 1; omega), by trivial⟩, by simp [intOf]; omega⟩
                    | false =>
                      have HC1 : Hid (cntC src (r + 1) = cr) := hide (by rw [HCS.out, HLC.out]; simp)
                      go_wp2
                      all_goals first | exact ⟨⟨r + 1, by omega, by go_num, by have h1 := HWT.out; have h2 := HC1.out; first | omega | (congr 1; omega)⟩, by simp [intOf]; omega⟩ | exact ⟨⟨r + 1, by omega, by go_num, by have h1 := HWT.out; have h2 := HC1.out; first | omega | (congr 1; omega), by trivial⟩, by simp [intOf]; omega⟩
                  · have hzb : (z == (r : Int)) = false := by simpa using hzr
                    cases k with
                    | succ k =>
                      obtain ⟨zn, rfl⟩ := nat_of hz.1
                      have hzn : zn < 64 := by omega
                      have ezn := HSr2.out.cell hzn
                      have hsz := HSG.out zn (by omega) (by omega)
                      have HLG := hide (HL.out.symm.trans (loopC_go src r k zn b hzr))
                      have hi64 : i2 < 64 := by omega
                      generalize src (zn : Int) = sz at *
                      by_cases hzl : (zn : Int) < (r : Int)
                      · have HLG2 : Hid (loopC src r k sz false = loopC src r 64 sr true) := hide (by rw [HLG.out, decide_eq_true hzl]; simp)
                        go_wp2
                        refine ⟨?_, by simp [intOf]; omega⟩
                        first
                          | exact ⟨k, i2 + 1, sz, by omega, by go_num, rfl, hsz, ⟨false, rfl, HLG2.out⟩, rfl⟩
                          | ((repeat apply Exists.intro); (first | refine ⟨?_, rfl, rfl, rfl⟩ | refine ⟨?_, rfl⟩); (first | exact ⟨k, i2 + 1, sz, by omega, by go_num, rfl, hsz, ⟨false, rfl, HLG2.out⟩, rfl⟩ | exact ⟨k, i2 + 1, by omega, by go_num, sz, rfl, hsz, ⟨false, rfl, HLG2.out⟩, rfl⟩))
                      · have HLG2 : Hid (loopC src r k sz b = loopC src r 64 sr true) := hide (by rw [HLG.out, decide_eq_false hzl]; simp)
                        go_wp2
                        refine ⟨?_, by simp [intOf]; omega⟩
                        first
                          | exact ⟨k, i2 + 1, sz, by omega, by go_num, rfl, hsz, ⟨b, rfl, HLG2.out⟩, rfl⟩
                          | ((repeat apply Exists.intro); (first | refine ⟨?_, rfl, rfl, rfl⟩ | refine ⟨?_, rfl⟩); (first | exact ⟨k, i2 + 1, sz, by omega, by go_num, rfl, hsz, ⟨b, rfl, HLG2.out⟩, rfl⟩ | exact ⟨k, i2 + 1, by omega, by go_num, sz, rfl, hsz, ⟨b, rfl, HLG2.out⟩, rfl⟩))
                    | zero =>
                      have hi64 : i2 = 64 := by omega
                      subst hi64
                      have HLR : Hid (loopC src r 64 sr true = (z, b)) := hide HL.out.symm
                      rw [HLR.out] at HLC
                      dsimp only at HLC
                      have HC1 : Hid (cntC src (r + 1) = cr) := hide (by rw [HCS.out, HLC.out]; simp [hzr])
                      go_wp2
                      all_goals first | exact ⟨⟨r + 1, by omega, by go_num, by have h1 := HWT.out; have h2 := HC1.out; first | omega | (congr 1; omega)⟩, by simp [intOf]; omega⟩ | exact ⟨⟨r + 1, by omega, by go_num, by have h1 := HWT.out; have h2 := HC1.out; first | omega | (congr 1; omega), by trivial⟩, by simp [intOf]; omega⟩
              · have hre : r = 64 := by omega
                subst hre
                rw [show ((64 : Nat) : Int) = 64 from rfl]
                have hwt : wt = is.length := HWT.out.symm.trans HK3.out.symm
                subst hwt
                clear HWT HK3 hcl
                generalize wr = wo2 at *
                go_wp2
                have HSr3 := hide (HSr2.out.alloc (.cells (madeCells #[.int .i64 0] 64) 2))
                have HB5 : Hid (Below w3.heap.size w3 (wo2.alloc (.cells (madeCells #[.int .i64 0] 64) 2))) := hide (Below.alloc HBr.out (Nat.le_of_lt (Nat.lt_trans HZ.out HZr.out)) _)
                have HR0 := hide (World.rowIs_made wo2 (.int .i64 0) 64 2)
                have HZ5 : Hid (wo2.heap.size < (wo2.alloc (.cells (madeCells #[.int .i64 0] 64) 2)).heap.size) := hide (by simp)
                have HZ6 : Hid (w3.heap.size < wo2.heap.size) := hide (Nat.lt_trans HZ.out HZr.out)
                clear HSr2 HBr HZ HZr
                generalize wo2.alloc (.cells (madeCells #[.int .i64 0] 64) 2) = w5 at *
                generalize wo2.heap.size = g3 at *
                go_loopw [17] (fun u wq => ∃ r : Nat, r ≤ 64 ∧ u = .int .i64 r ∧ Hid (Below w3.heap.size w3 wq) ∧ Hid (g3 < wq.heap.size) ∧ Hid (wq.rowIs w3.heap.size 2 64 (fun z => .int .i64 (src z))) ∧ Hid (∃ f : Nat → Int, wq.rowIs g3 2 64 (fun z => .int .i64 (f z)) ∧ ∀ z, z < r → f z = 1000 + z)) (fun u _ => 64 - (intOf u).toNat)
                case atStart => exact ⟨0, by omega, rfl, HB5, HZ5, HSr3, hide ⟨fun _ => 0, HR0.out, fun z hz => by omega⟩⟩
                case round =>
                  obtain ⟨r, hr, rfl, HBq, HZq, HSq, HRq⟩ := hrel
                  clear HB5 HZ5 HSr3 HR0
                  by_cases hlr : r < 64
                  · obtain ⟨f, hf, hfe⟩ := HRq.out
                    have ec := hf.cell hlr
                    have ez := hf.frozen
                    have HFF := hide hf
                    have HFE := hide hfe
                    clear hf hfe
                    go_wp2
                    exact ⟨⟨r + 1, by omega, by go_num, hide (HBq.out.setCell (Nat.le_of_lt HZ6.out) _), hide (by rw [size_setCell]; exact HZq.out), hide (HSq.out.setOther (by have := HZ6.out; show w3.heap.size ≠ g3; omega) _), hide ⟨fun z => if z = r then 1000 + (r : Int) else f z, row_set (C := Value.int .i64) HFF.out r (1000 + (r : Int)), fun z hz => by
                      dsimp only
                      by_cases e : z = r
                      · rw [if_pos e, e]
                      · rw [if_neg e]; exact HFE.out z (by omega)⟩⟩, by simp [intOf]; omega⟩
                  · have hre : r = 64 := by omega
                    subst hre
                    rw [show ((64 : Nat) : Int) = 64 from rfl]
                    have HR1 : Hid (wr.rowIs g3 2 64 (fun z => .int .i64 ((cps rg0 (is.take 0)).reg z))) := hide (by
                      obtain ⟨f, hf, hfe⟩ := HRq.out
                      exact row_as (C := Value.int .i64) hf (fun z hz => hfe z hz))
                    clear HRq
                    go_wp2
                    generalize wr = wo5 at *
                    go_loopw [18, 19] (fun sc u wq => ∃ i : Nat, i ≤ is.length ∧ u = .int .i64 i ∧ sc = .int .i64 (cps rg0 (is.take i)).scr ∧ Hid (Below w3.heap.size w3 wq) ∧ Hid (g3 < wq.heap.size) ∧ Hid (wq.rowIs w3.heap.size 2 64 (fun z => .int .i64 (src z))) ∧ Hid (wq.rowIs g3 2 64 (fun z => .int .i64 ((cps rg0 (is.take i)).reg z)))) (fun _ u _ => is.length - (intOf u).toNat)
                    case atStart => exact ⟨0, Nat.zero_le _, rfl, rfl, HBq, HZq, HSq, HR1⟩
                    case round =>
                      obtain ⟨i6, hi6, rfl, rfl, HB7, HZ7, HS7, HR7⟩ := hrel
                      clear HBq HZq HSq HR1
                      by_cases hl6 : i6 < is.length
                      · obtain ⟨b7, o7, rfl, hb7, q0, q1, q2, q3, q4⟩ := HC3.out i6 hl6
                        have p0 := (HB7.out.cell (p := ⟨b7, o7 + i6 * 5, none⟩) hb7.2).trans q0
                        have p1 := (HB7.out.cell (p := ⟨b7, o7 + i6 * 5 + 1, none⟩) hb7.2).trans q1
                        have p2 := (HB7.out.cell (p := ⟨b7, o7 + i6 * 5 + 2, none⟩) hb7.2).trans q2
                        have p3 := (HB7.out.cell (p := ⟨b7, o7 + i6 * 5 + 3, none⟩) hb7.2).trans q3
                        have p4 := (HB7.out.cell (p := ⟨b7, o7 + i6 * 5 + 4, none⟩) hb7.2).trans q4
                        clear q0 q1 q2 q3 q4
                        obtain ⟨k0, k1, k2⟩ := HK1.out is[i6] (List.getElem_mem hl6)
                        have HCT := hide (cps_take rg0 is hl6)
                        generalize is[i6] = xc at *
                        obtain ⟨op, dst, aa, bb, im⟩ := xc
                        dsimp only at *
                        obtain ⟨dn, rfl⟩ := nat_of k1.1
                        obtain ⟨an, rfl⟩ := nat_of k2.1
                        have hdn : dn < 64 := by omega
                        have han : an < 64 := by omega
                        generalize cps rg0 (is.take i6) = S at *
                        have ea := HR7.out.cell han
                        have ed := HR7.out.cell hdn
                        have zr := HR7.out.frozen
                        have l6 : w3.heap.size < g3 := HZ6.out
                        have l7 : g3 < wr.heap.size := HZ7.out
                        have n7 : w3.heap.size ≠ g3 := by omega
                        have l8 : b7 < wr.heap.size := by omega
                        rcases k0 with rfl | rfl | rfl
                        · go_wp2
                          go_region
                          go_wp2
                          exact ⟨⟨i6 + 1, by omega, by go_num, by rw [HCT.out]; rfl, hide (Below.alloc (HB7.out.setCell (Nat.le_of_lt l6) _) (by simp only [size_setCell]; omega) _).drew, hide (by show g3 < ((wr.setCell _ _).alloc _).heap.size; rw [World.size_alloc]; simp only [size_setCell]; omega), hide ((HS7.out.setOther n7 _).alloc _).drew, hide (row_as (C := Value.int .i64) ((row_set (C := Value.int .i64) HR7.out dn (S.reg an)).alloc _).drew (fun z _ => by
                            rw [HCT.out]
                            show (if z = dn then (S.reg an) else S.reg z) = (if (z : Int) = (dn : Int) then (S.reg an) else S.reg z)
                            by_cases e : z = dn
                            · rw [if_pos e, if_pos (by omega)]
                            · rw [if_neg e, if_neg (by omega)]))⟩, by simp [intOf]; omega⟩
                        · go_wp2
                          exact ⟨⟨i6 + 1, by omega, by go_num, by rw [HCT.out]; rfl, hide (Below.alloc HB7.out (by omega) _), hide (by rw [World.size_alloc]; omega), hide (HS7.out.alloc _), hide (row_as (C := Value.int .i64) (HR7.out.alloc _) (fun z _ => by rw [HCT.out]; rfl))⟩, by simp [intOf]; omega⟩
                        · go_wp2
                          exact ⟨⟨i6 + 1, by omega, by go_num, by rw [HCT.out]; rfl, hide (Below.alloc (HB7.out.setCell (Nat.le_of_lt l6) _) (by simp only [size_setCell]; omega) _), hide (by rw [World.size_alloc]; simp only [size_setCell]; omega), hide ((HS7.out.setOther n7 _).alloc _), hide (row_as (C := Value.int .i64) ((row_set (C := Value.int .i64) HR7.out dn S.scr).alloc _) (fun z _ => by
                            rw [HCT.out]
                            show (if z = dn then S.scr else S.reg z) = (if (z : Int) = (dn : Int) then S.scr else S.reg z)
                            by_cases e : z = dn
                            · rw [if_pos e, if_pos (by omega)]
                            · rw [if_neg e, if_neg (by omega)]))⟩, by simp [intOf]; omega⟩
                      · have hie6 : i6 = is.length := by omega
                        subst hie6
                        have HR8 : Hid (wr.rowIs g3 2 64 (fun z => .int .i64 (1000 + src z))) := hide (row_as (C := Value.int .i64) HR7.out (fun z _ => by rw [List.take_length]; exact HK2.out z))
                        clear HR7
                        generalize (cps rg0 (is.take is.length)).scr = sc at *
                        go_wp2
                        generalize wr = wo7 at *
                        go_loopw [21] (fun u wq => ∃ r : Nat, r ≤ 64 ∧ u = .int .i64 r ∧ Hid (Below w3.heap.size w3 wq) ∧ Hid (wq.rowIs w3.heap.size 2 64 (fun z => .int .i64 (src z))) ∧ Hid (wq.rowIs g3 2 64 (fun z => .int .i64 (1000 + src z)))) (fun u _ => 64 - (intOf u).toNat)
                        case atStart => exact ⟨0, by omega, rfl, HB7, HS7, HR8⟩
                        case round =>
                          obtain ⟨r, hr, rfl, HB9, HS9, HR9⟩ := hrel
                          clear HB7 HS7 HR8
                          by_cases hlr : r < 64
                          · have er := HS9.out.cell hlr
                            have eg := HR9.out.cell hlr
                            have hsr := HSG.out r (by omega) (by omega)
                            generalize src (r : Int) = sr at *
                            go_wp2
                            go_region
                            go_wp2
                            exact ⟨⟨r + 1, by omega, by go_num, hide HB9.out.drew, hide HS9.out.drew, hide HR9.out.drew⟩, by simp [intOf]; omega⟩
                          · go_wp2
                            go_ret
                            exact ⟨by simp, bnext HB3.out HB9.out⟩
        · have HSB : Hid ((seqM xs).length = 0) := hide (by rw [seq_bad HGM.out]; rfl)
          clear HB4 HS1 HG0 HC3
          generalize (seqM xs).length = sl at *
          have hsl : sl = 0 := HSB.out
          subst hsl
          go_wp2
          go_ret
          exact ⟨rfl, bnext HB3.out HBr.out⟩
end Go.Proofs.YtlmaodcddbkllaaDoor
