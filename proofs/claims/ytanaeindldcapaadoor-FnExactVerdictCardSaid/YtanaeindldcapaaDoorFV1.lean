import Derived.Test.YtanaeindldcapaaDoorFV0
namespace Go.Proofs.YtanaeindldcapaaDoor
open Go.RowKit Go.Shelf
section
attribute [local go_sem] Oper.semAt_some
set_option maxHeartbeats 8000000 in
set_option maxRecDepth 100000 in
theorem findLive_any (V : Nat) (a : Option Addr) (n c : Nat) (xs : List Blk) (L B : Nat) (w : World) (ha : Hid (BlksAt w L B a xs)) (hx : Hid (n = xs.length)) (hB : B ≤ w.heap.size) (ho : Hid (OkL V xs)) (hOT : Hid (OpTabW w)) (hTT : Hid (TerTabW w)) :
    Calls Tryd.prog 17 #[.agg #[.int .i64 (V : Int), .slice a n c]] w fun e w' => ∃ (Gi Go : Nat) (gi go ci : Nat → Nat) (WI WX : Nat → Nat → Nat), e = .returned (.agg #[.slice (some ⟨Gi, 0, none⟩) n n, .slice (some ⟨Go, 0, none⟩) n n]) ∧ FlR w w' n ((V + 63) / 64) xs Gi Go gi go ci WI WX := by
  have hn : n ≤ 1000 := by have := hx.out; have := ho.out.okf.n2; omega
  have hV := ho.out.vle
  have hmk := run_makeS (P := Tryd.prog) 47 46 (.agg #[.slice none 0 0]) 1 24 Tryd.underlying47 Tryd.infoSetV n (by omega) (by omega)
  have HPW : Hid (∀ X, Below w.heap.size w X → _) := hide (fun X (hX : Below w.heap.size w X) => phiUses_any V a n c xs L B X (hide (ha.out.keep (hX.mono hB))) hx (by have := hX.size; omega) ho)
  have hKw : (V + 63) / 64 ≤ 32 := by omega
  have hVK : V ≤ 64 * ((V + 63) / 64) := by omega
  obtain ⟨Kw, hkw⟩ : ∃ q, q = (V + 63) / 64 := ⟨_, rfl⟩
  rw [← hkw] at hKw hVK
  simp only [← hkw] at HPW
  have HKW : Hid ((V + 63) / 64 = Kw) := hide hkw.symm
  clear hkw
  refine (callsIn_wide (n := 8)).1 ?_
  refine callsIn_of_wp_marks Tryd.func17 rfl trivial ?_ rfl
  simp only [Tryd.ntmps17, List.size_toArray, List.length_cons, List.length_nil, Nat.reduceAdd, Nat.reduceSub, Array.replicate_succ, Array.replicate_zero, List.push_toArray, List.append_toArray, List.nil_append, List.cons_append]
  gi_wp2
  rename_i Kc HKc
  have hL9 : (fun x9 : World => Below w.heap.size w x9 ∧ x9.heap.size = w.heap.size + 2 ∧ x9.cell? ⟨w.heap.size, 0, none⟩ = some (.int .i64 (V : Int)) ∧ x9.cell? ⟨w.heap.size, 1, none⟩ = some (.slice a n c) ∧ x9.cell? ⟨w.heap.size + 1, 0, none⟩ = some (.slice none 0 0) ∧ x9.cell? ⟨w.heap.size + 1, 1, none⟩ = some (.slice none 0 0) ∧ (∀ q, x9.frozen? ⟨w.heap.size + 1, q, none⟩ = false)) ((w.alloc (.cells #[.int .i64 (V : Int), .slice a n c] 29)).alloc (.cells #[.slice none 0 0, .slice none 0 0] 49)) := ⟨balloc (balloc (Below.refl _ _) _) _, (by simp), (by simp [go_sem]), (by simp [go_sem]), (by simp [go_sem]), (by simp [go_sem]), (fun q => by simp [go_sem])⟩
  generalize (w.alloc (.cells #[.int .i64 (V : Int), .slice a n c] 29)).alloc (.cells #[.slice none 0 0, .slice none 0 0] 49) = w1 at *
  obtain ⟨hw1, hz, hf0, hf1, hr0, hr1, hrz⟩ := hL9
  have HW1 := hide hw1
  have HZ0 := hide hz
  have hlt0 : w.heap.size + 1 < w1.heap.size := by omega
  have HR0 := hide hr0
  have HR1 := hide hr1
  have HRZ := hide hrz
  have HPH : Hid (∀ X, Below w1.heap.size w1 X → _) := hide (fun X (hX : Below w1.heap.size w1 X) => HPW.out X (bnext HW1.out hX))
  clear hw1 hr0 hr1 hrz HPW hz
  have KEY : Hid (∀ (Gi LB Go : Nat) (go : Nat → Nat) (WO : Nat → Nat → Nat) (Y : World), FlA w Y V a n c Kw xs Gi LB Go go WO → Kc ⟨#[.agg #[.int .i64 (V : Int), .slice a n c], .pointer (some ⟨w.heap.size, 0, none⟩), .pointer (some ⟨w.heap.size + 1, 0, none⟩), .int .i64 (n : Int), .pointer (some ⟨LB, 0, none⟩), undef, undef, undef, undef, undef, undef, undef, undef, undef, undef, undef, .pointer (some ⟨w.heap.size, 1, none⟩), .slice a n c, .int .i64 (n : Int), .int .i64 (n : Int), .slice (some ⟨Gi, 0, none⟩) n n, .agg #[.int .i64 (V : Int), .slice a n c], .slice (some ⟨Go, 0, none⟩) n n, .agg #[.slice (some ⟨Gi, 0, none⟩) n n, .slice (some ⟨Go, 0, none⟩) n n], undef, undef, undef, undef, undef, undef, undef, undef, undef, undef, undef, undef, undef, undef, undef, undef, undef, undef, undef, undef, undef, undef, undef, undef, undef, undef, undef, undef, undef, undef, undef, undef, undef, undef, undef, undef, undef, undef, undef, undef, undef, undef, undef, undef, undef, undef, undef, undef, undef, undef, undef, undef, undef, undef, undef, undef, undef, undef, undef, undef, undef, undef, undef, undef, undef, undef, undef, undef, undef, undef, undef, undef, undef, undef, undef, undef, undef, undef, undef, undef, undef, undef, undef, undef, undef, undef, undef, undef, undef, undef, undef, undef, undef, undef, undef, undef, undef, undef, undef, undef, undef, undef, undef], []⟩ Y) := hide (by as_aux_lemma =>
    intro Gi LB Go go WO Y hA
    apply HKc
    have HA := hide hA
    have HWO : Hid (AllWd WO) := hide hA.wd
    have HWH : Hid (∀ b, b < n → ∀ v, hasN (WO b) v = true ↔ (b, v) ∈ phE xs n) := hide hA.has
    have g0 := hA.f0
    have g1 := hA.f1
    have hzY := hA.low.size
    have hF1 : w.heap.size < Y.heap.size := World.block_lt_of_cell? Y _ g0
    have hmk2 := run_make_row' (P := Tryd.prog) 90 35 (.slice none 0 0) 24 Tryd.underlying90 Tryd.info45 rfl .i64 .i64 n (by omega) (by omega)
    clear hA HKc HPH hf0 hf1 HR0 HR1 HRZ HZ0 HW1 hmk hlt0
    gi_wp2
    refine ⟨trivial, (callsIn_wide.2 (newSets_valueNo n V Y hn (by omega))).mono ?_⟩
    rw [HKW.out]
    rintro e w3 ⟨Gd, gd, rfl, hGd, hb3, hs3, hgd⟩
    have HB3 := hide hb3
    have HS3 := hide hs3
    have HGD := hide hgd
    have g0' := (hb3.cell (p := ⟨w.heap.size, 0, none⟩) hF1).trans g0
    have g1' := (hb3.cell (p := ⟨w.heap.size, 1, none⟩) hF1).trans g1
    have hz3 := hb3.size
    have hF3 : w.heap.size < w3.heap.size := by omega
    have g0a := fun o => (World.cell?_alloc_lt w3 o ⟨w.heap.size, 0, none⟩ hF3).trans g0'
    have g1a := fun o => (World.cell?_alloc_lt w3 o ⟨w.heap.size, 1, none⟩ hF3).trans g1'
    have g0b := fun o o' => (World.cell?_alloc_lt (w3.alloc o) o' ⟨w.heap.size, 0, none⟩ (by rw [World.size_alloc]; show w.heap.size < _; omega)).trans (g0a o)
    have g1b := fun o o' => (World.cell?_alloc_lt (w3.alloc o) o' ⟨w.heap.size, 1, none⟩ (by rw [World.size_alloc]; show w.heap.size < _; omega)).trans (g1a o)
    clear hb3 hs3 hgd g0 g1
    gi_wp2
    have hw5z : ((w3.alloc (.cells #[.slice (some ⟨Gd, 0, none⟩) n n] 47)).alloc (.cells (madeCells #[.slice none 0 0] n) 35)).heap.size = w3.heap.size + 2 := by simp
    refine ⟨trivial, (callsIn_wide.2 (newSearch_any (V : Int) a n c _ hn)).mono ?_⟩
    rw [hw5z]
    rintro e W0 ⟨bS, gS, rfl, hbS, hgS, hb6, hsea⟩
    have HST := hide (flK_start HA.out hGd HB3.out HS3.out HGD.out hbS hgS hb6 hsea)
    have hz30 : w3.heap.size + 2 ≤ W0.heap.size := by have := hb6.size; rw [hw5z] at this; exact this
    clear hw5z hbS hgS hb6 hsea HB3 HS3 HGD HA g0a g1a g0b g1b g0' g1' hGd
    have hK2 : (n + 63) / 64 ≤ 16 := by omega
    have hnK2 : n ≤ 64 * ((n + 63) / 64) := by omega
    generalize (n + 63) / 64 = K2 at *
    have HS : Hid (FlS (⟨w, V, n, c, Kw, K2, a, xs, Gi, LB, Go, w3.heap.size, Gd, w3.heap.size + 1, bS, gS, Y.heap.size, w3.heap.size, W0.heap.size, go, gd, WO⟩ : FlP)) := hide HST.out.1
    have HK0 : Hid (FlK (⟨w, V, n, c, Kw, K2, a, xs, Gi, LB, Go, w3.heap.size, Gd, w3.heap.size + 1, bS, gS, Y.heap.size, w3.heap.size, W0.heap.size, go, gd, WO⟩ : FlP) W0 0 ⟨fun _ => 0, fun _ => 0, fun _ _ => 0, fun _ _ => 0, fun _ => .slice none 0 0, fun _ => 0, .slice none 0 0, []⟩) := hide HST.out.2
    have g1 : W0.cell? ⟨w.heap.size, 1, none⟩ = some (.slice a n c) := HK0.out.f1
    clear HST
    gi_wp2
    clear g1
    refine wpIn_loop (fun aa wr => ∃ (k : Nat) (ds : List Nat) (d : FlD) (u8 u9 u36 u37 u38 u39 u40 u41 u42 u43 u44 u45 u46 u47 u48 u49 u50 u51 u77 u78 u79 u80 u81 u82 u83 u84 u85 u86 : Value), k ≤ n ∧ aa = ⟨#[.agg #[.int .i64 (V : Int), .slice a n c], .pointer (some ⟨w.heap.size, 0, none⟩), .pointer (some ⟨w.heap.size + 1, 0, none⟩), .int .i64 (n : Int), .pointer (some ⟨LB, 0, none⟩), .pointer (some ⟨w3.heap.size, 0, none⟩), .slice (some ⟨w3.heap.size + 1, 0, none⟩) n n, .pointer (some ⟨bS, 0, none⟩), u8, u9, undef, undef, undef, undef, undef, undef, .pointer (some ⟨w.heap.size, 1, none⟩), .slice a n c, .int .i64 (n : Int), .int .i64 (n : Int), .slice (some ⟨Gi, 0, none⟩) n n, .agg #[.int .i64 (V : Int), .slice a n c], .slice (some ⟨Go, 0, none⟩) n n, .agg #[.slice (some ⟨Gi, 0, none⟩) n n, .slice (some ⟨Go, 0, none⟩) n n], .int .i64 (n : Int), .pointer (some ⟨w.heap.size, 0, none⟩), .int .i64 (V : Int), .slice (some ⟨Gd, 0, none⟩) n n, .int .i64 (n : Int), .slice (some ⟨w3.heap.size + 1, 0, none⟩) n n, .agg #[.int .i64 (V : Int), .slice a n c], .pointer (some ⟨bS, 0, none⟩), .pointer (some ⟨w.heap.size, 1, none⟩), .slice a n c, .int .i64 (n : Int), .int .i64 (k : Int), u36, u37, u38, u39, u40, u41, u42, u43, u44, u45, u46, u47, u48, u49, u50, u51, undef, undef, undef, undef, undef, undef, undef, undef, undef, undef, undef, undef, undef, undef, undef, undef, undef, undef, undef, undef, undef, undef, undef, undef, undef, u77, u78, u79, u80, u81, u82, u83, u84, u85, u86, undef, undef, undef, undef, undef, undef, undef, undef, undef, undef, undef, undef, undef, undef, undef, undef, undef, undef, undef, undef, undef, undef, undef, undef, undef, undef, undef, undef, undef, undef, undef, undef, undef, undef, undef, undef, undef, undef, undef, undef], mks ds⟩ ∧ Hid (FlK (⟨w, V, n, c, Kw, K2, a, xs, Gi, LB, Go, w3.heap.size, Gd, w3.heap.size + 1, bS, gS, Y.heap.size, w3.heap.size, W0.heap.size, go, gd, WO⟩ : FlP) wr k d) ∧ Hid (FlQ (⟨w, V, n, c, Kw, K2, a, xs, Gi, LB, Go, w3.heap.size, Gd, w3.heap.size + 1, bS, gS, Y.heap.size, w3.heap.size, W0.heap.size, go, gd, WO⟩ : FlP) k d) ∧ Hid (MksAt wr W0.heap.size ds)) (fun aa _ => n - (intOf (aa.tmps.getD 35 undef)).toNat) ?_ ?_
    · exact ⟨0, [], _, _, _, _, _, _, _, _, _, _, _, _, _, _, _, _, _, _, _, _, _, _, _, _, _, _, _, _, _, Nat.zero_le _, rfl, HK0, hide (flQ_start _), hide ⟨List.nodup_nil, fun _ h => absurd h List.not_mem_nil, fun _ h => absurd h List.not_mem_nil⟩⟩
    · rintro aa wr ⟨k, ds, d, u8, u9, u36, u37, u38, u39, u40, u41, u42, u43, u44, u45, u46, u47, u48, u49, u50, u51, u77, u78, u79, u80, u81, u82, u83, u84, u85, u86, hk, rfl, HK, HQ, HM⟩
      clear HK0
      by_cases hlt : k < n
      · have hkx : k < xs.length := by have := hx.out; omega
        have hlow : Below w.heap.size w wr := HK.out.low
        obtain ⟨b, o, ea, hbB, hc⟩ := (ha.out.keep (hlow.mono hB)) k hkx
        subst ea
        obtain ⟨pa, pc, ia, ic, e0, e1, ⟨e2, e3, e4, e5⟩, hph, hin⟩ := hc
        have HPHS := hide hph
        have HINS := hide hin
        clear hph hin
        have hopk := ho.out.kind xs[k] (List.getElem_mem hkx)
        have HLN := hide (ho.out.lens xs[k] (List.getElem_mem hkx))
        have HOP := hide (ho.out.ops xs[k] (List.getElem_mem hkx))
        obtain ⟨X, hX⟩ : ∃ X, X = xs[k] := ⟨_, rfl⟩
        rw [← hX] at e0 e1 e2 e3 e4 e5 HPHS HINS hopk HLN HOP
        have HX := hide hX
        clear hX
        gi_wp2
        have hL9 : (fun x9 : World => Below wr.heap.size wr x9 ∧ x9.heap.size = wr.heap.size + 2 ∧ x9.cell? ⟨wr.heap.size, 0, none⟩ = some (.int .i64 (k : Int)) ∧ (∀ q v, #[Value.slice pa X.phis.length pc, .slice ia X.instrs.length ic, .int .i64 X.term.kind, .int .i64 X.term.a, .int .i64 X.term.to, .int .i64 X.term.els][q]? = some v → x9.cell? ⟨wr.heap.size + 1, q, none⟩ = some v)) ((wr.alloc (.cells #[.int .i64 (k : Int)] 3)).alloc (.cells #[.slice pa X.phis.length pc, .slice ia X.instrs.length ic, .int .i64 X.term.kind, .int .i64 X.term.a, .int .i64 X.term.to, .int .i64 X.term.els] 66)) := ⟨balloc (balloc (Below.refl _ _) _) _, (by simp), (by simp [go_sem]), (fun q v h => by
          have := World.cell?_alloc_new (wr.alloc (.cells #[.int .i64 (k : Int)] 3)) #[.slice pa X.phis.length pc, .slice ia X.instrs.length ic, .int .i64 X.term.kind, .int .i64 X.term.a, .int .i64 X.term.to, .int .i64 X.term.els] 66 q
          rw [World.size_alloc] at this
          rw [this]
          exact h)⟩
        generalize (wr.alloc (.cells #[.int .i64 (k : Int)] 3)).alloc (.cells #[.slice pa X.phis.length pc, .slice ia X.instrs.length ic, .int .i64 X.term.kind, .int .i64 X.term.a, .int .i64 X.term.to, .int .i64 X.term.els] 66) = wq at *
        obtain ⟨hbq, hzq, hqb, hqx⟩ := hL9
        have HBQ := hide hbq
        have HQX := hide hqx
        have HZQ := hide hzq
        have hMz : W0.heap.size ≤ wr.heap.size := HK.out.sz
        have hzq2 : wr.heap.size + 1 < wq.heap.size := by omega
        have sL : w.heap.size + 2 ≤ LB ∧ LB < Y.heap.size := HS.out.a2
        have sG : w.heap.size + 2 ≤ Gi ∧ Gi < Y.heap.size := HS.out.a1
        have sO : w.heap.size + 2 ≤ Go ∧ Go < Y.heap.size := HS.out.a3
        have sD : Y.heap.size ≤ Gd ∧ Gd < w3.heap.size := HS.out.a5
        have sl0 : wr.cell? ⟨LB, 0, none⟩ = some (.slice (some ⟨Gi, 0, none⟩) n n) := HK.out.l0
        have sl1 : wr.cell? ⟨LB, 1, none⟩ = some (.slice (some ⟨Go, 0, none⟩) n n) := HK.out.l1
        have sgo : wr.cell? ⟨Go, k, none⟩ = some (.slice (some ⟨go k, 0, none⟩) Kw Kw) := HK.out.out.row.cell hlt
        have m0 := (hbq.cell (p := ⟨LB, 0, none⟩) (by show LB < _; omega)).trans sl0
        have m1 := (hbq.cell (p := ⟨LB, 1, none⟩) (by show LB < _; omega)).trans sl1
        have m2 := (hbq.cell (p := ⟨Go, k, none⟩) (by show Go < _; omega)).trans sgo
        have HCL := hide (clone_valueNo (go k) Kw Kw (WO k) wq.drew (hide ((HK.out.out.set k hlt).of_block (hbq.block _ (HK.out.out.set k hlt).lt)).drew) (by omega))
        clear hbq hqx hzq e0 e1 e2 e3 e4 e5 sl0 sl1 sgo
        refine wpIn_region_held_drew (S := (fun w' => w'.cell? ⟨LB, 0, none⟩ = some (.slice (some ⟨Gi, 0, none⟩) n n) ∧ w'.cell? ⟨LB, 1, none⟩ = some (.slice (some ⟨Go, 0, none⟩) n n) ∧ w'.cell? ⟨wr.heap.size, 0, none⟩ = some (.int .i64 (k : Int)) ∧ w'.cell? ⟨Go, k, none⟩ = some (.slice (some ⟨go k, 0, none⟩) Kw Kw))) (by kernel_rfl) (by (try dsimp only); go_keep) (fun hHeld => ?_)
        refine wpAnyHI_take (i := 0) (v := ?_) rfl (by kernel_rfl) (by kernel_rfl) (by kernel_rfl) (by kernel_rfl) (fun _ _ _ h => h) ⟨Or.inl ⟨by rfl, ?_⟩, fun _ => rfl⟩ (by assumption) ?_
        rotate_left
        · intro w hSw; (try dsimp only at hSw); go_simp; try with_reducible rfl
        simp only [Act.put, List.getElem_toArray, List.getElem_cons_zero, List.setIfInBounds_toArray, List.set_cons_zero, List.set_cons_succ]
        refine wpAnyHI_take (i := 1) (v := ?_) rfl (by kernel_rfl) (by kernel_rfl) (by kernel_rfl) (by kernel_rfl) (fun _ _ _ h => h) ⟨Or.inl ⟨by rfl, ?_⟩, fun _ => rfl⟩ (by assumption) ?_
        rotate_left
        · intro w hSw; (try dsimp only at hSw); go_simp; try with_reducible rfl
        simp only [Act.put, List.getElem_toArray, List.getElem_cons_zero, List.getElem_cons_succ, List.setIfInBounds_toArray, List.set_cons_zero, List.set_cons_succ]
        refine wpAnyHI_take (i := 2) (v := ?_) rfl (by kernel_rfl) (by kernel_rfl) (by kernel_rfl) (by kernel_rfl) (fun _ _ _ h => h) ⟨Or.inl ⟨by rfl, ?_⟩, fun _ => rfl⟩ (by assumption) ?_
        rotate_left
        · intro w hSw; (try dsimp only at hSw); go_simp; try with_reducible rfl
        simp only [Act.put, List.getElem_toArray, List.getElem_cons_zero, List.getElem_cons_succ, List.setIfInBounds_toArray, List.set_cons_zero, List.set_cons_succ]
        refine wpAnyHI_take (i := 3) (v := ?_) rfl (by kernel_rfl) (by kernel_rfl) (by kernel_rfl) (by kernel_rfl) (fun _ _ _ h => h) ⟨Or.inl ⟨by rfl, ?_⟩, fun _ => rfl⟩ (by assumption) ?_
        rotate_left
        · intro w hSw; (try dsimp only at hSw); go_simp; try with_reducible rfl
        simp only [Act.put, List.getElem_toArray, List.getElem_cons_zero, List.getElem_cons_succ, List.setIfInBounds_toArray, List.set_cons_zero, List.set_cons_succ]
        refine wpAnyHI_take (i := 4) (v := ?_) rfl (by kernel_rfl) (by kernel_rfl) (by kernel_rfl) (by kernel_rfl) (fun _ _ _ h => h) ⟨Or.inl ⟨by rfl, ?_⟩, fun _ => rfl⟩ (by assumption) ?_
        rotate_left
        · intro w hSw; (try dsimp only at hSw); go_simp; try with_reducible rfl
        simp only [Act.put, List.getElem_toArray, List.getElem_cons_zero, List.getElem_cons_succ, List.setIfInBounds_toArray, List.set_cons_zero, List.set_cons_succ]
        refine wpAnyHI_take (i := 5) (v := ?_) rfl (by kernel_rfl) (by kernel_rfl) (by kernel_rfl) (by kernel_rfl) (fun _ _ _ h => h) ⟨Or.inl ⟨by rfl, ?_⟩, fun _ => rfl⟩ (by assumption) ?_
        rotate_left
        · intro w hSw; (try dsimp only at hSw); go_simp; try with_reducible rfl
        simp only [Act.put, List.getElem_toArray, List.getElem_cons_zero, List.getElem_cons_succ, List.setIfInBounds_toArray, List.set_cons_zero, List.set_cons_succ]
        refine wpAnyHI_take (i := 6) (v := ?_) rfl (by kernel_rfl) (by kernel_rfl) (by kernel_rfl) (by kernel_rfl) (fun _ _ _ h => h) ⟨Or.inl ⟨by rfl, ?_⟩, fun _ => rfl⟩ (by assumption) ?_
        rotate_left
        · intro w hSw; (try dsimp only at hSw); go_simp; try with_reducible rfl
        simp only [Act.put, List.getElem_toArray, List.getElem_cons_zero, List.getElem_cons_succ, List.setIfInBounds_toArray, List.set_cons_zero, List.set_cons_succ]
        refine wpAnyHI_take (i := 7) (v := ?_) rfl (by kernel_rfl) (by kernel_rfl) (by kernel_rfl) (by kernel_rfl) (fun _ _ _ h => h) ⟨Or.inl ⟨by rfl, ?_⟩, fun _ => rfl⟩ (by assumption) ?_
        rotate_left
        · intro w hSw; (try dsimp only at hSw); go_simp; try with_reducible rfl
        simp only [Act.put, List.getElem_toArray, List.getElem_cons_zero, List.getElem_cons_succ, List.setIfInBounds_toArray, List.set_cons_zero, List.set_cons_succ]
        refine wpAnyHI_ready (rs := [8]) (by kernel_rfl) (by simp) ?_
        refine AllReadyHI.cons rfl (fun K hK => ?_) AllReadyHI.nil
        go_simp
        refine ⟨trivial, (callsIn_wide.2 HCL.out).mono ?_⟩
        rintro e wc ⟨gB, CB, rfl, hgB, hbc0, hwc⟩
        have hbc : Below wq.heap.size wq wc := ⟨hbc0.os, hbc0.tape, hbc0.output, hbc0.size, hbc0.block⟩
        have hgBq : wq.heap.size ≤ gB := hgB
        have HWB := hide hwc
        have HBC := hide hbc
        have n0 := (hbc.cell (p := ⟨LB, 0, none⟩) (by show LB < _; omega)).trans m0
        have n1 := (hbc.cell (p := ⟨LB, 1, none⟩) (by show LB < _; omega)).trans m1
        have n2 := (hbc.cell (p := ⟨Go, k, none⟩) (by show Go < _; omega)).trans m2
        have nb := (hbc.cell (p := ⟨wr.heap.size, 0, none⟩) (by show wr.heap.size < _; omega)).trans hqb
        have hzc := hbc.size
        have HGI : Hid (wc.rowIs Gi 46 n (fun i => if i < k then .slice (some ⟨d.gi i, 0, none⟩) Kw (d.ci i) else .slice none 0 0)) := hide ((HK.out.inr.of_block (HBQ.out.block _ HK.out.inr.lt)).of_block (hbc.block _ (by show Gi < _; omega)))
        clear hbc hbc0 hwc hgB m0 m1 m2 HCL
        refine hK.out _ _ ⟨n0, n1, nb, n2⟩ (fun hHeld => ?_)
        clear hK
        try simp only [Act.put, List.getElem_toArray, List.getElem_cons_zero, List.getElem_cons_succ, List.setIfInBounds_toArray, List.set_cons_zero, List.set_cons_succ]
        refine wpAnyHI_take (i := 9) (v := ?_) rfl (by kernel_rfl) (by kernel_rfl) (by kernel_rfl) (by kernel_rfl) (fun _ _ _ h => h) ⟨Or.inl ⟨by rfl, ?_⟩, fun _ => rfl⟩ (by assumption) ?_
        rotate_left
        · intro w hSw; (try dsimp only at hSw); go_simp; try with_reducible rfl
        simp only [Act.put, List.getElem_toArray, List.getElem_cons_zero, List.getElem_cons_succ, List.setIfInBounds_toArray, List.set_cons_zero, List.set_cons_succ]
        have gk : wc.cell? ⟨Gi, k, none⟩ = some (.slice none 0 0) := (HGI.out.cell hlt).trans (by simp)
        have gz := HGI.out.frozen k
        refine wpAnyHI_ready (rs := [10]) (by kernel_rfl) (by simp) ?_
        refine AllReadyHI.cons rfl (fun K hK => ?_) AllReadyHI.nil
        go_simp
        have hdL : Gi ≠ LB := HS.out.d1
        have hdO : Gi ≠ Go := HS.out.d2
        have o0 := (World.cell?_setCell_far wc ⟨Gi, k, none⟩ ⟨LB, 0, none⟩ (.slice (some ⟨gB, 0, none⟩) Kw CB) hdL).trans n0
        have o1 := (World.cell?_setCell_far wc ⟨Gi, k, none⟩ ⟨LB, 1, none⟩ (.slice (some ⟨gB, 0, none⟩) Kw CB) hdL).trans n1
        have o2 := (World.cell?_setCell_far wc ⟨Gi, k, none⟩ ⟨Go, k, none⟩ (.slice (some ⟨gB, 0, none⟩) Kw CB) hdO).trans n2
        have ob := (World.cell?_setCell_far wc ⟨Gi, k, none⟩ ⟨wr.heap.size, 0, none⟩ (.slice (some ⟨gB, 0, none⟩) Kw CB) (by show Gi ≠ wr.heap.size; omega)).trans nb
        refine hK.out _ _ ⟨o0, o1, ob, o2⟩ (fun hHeld => ?_)
        clear hK gk gz hHeld
        try simp only [Act.put, List.getElem_toArray, List.getElem_cons_zero, List.getElem_cons_succ, List.setIfInBounds_toArray, List.set_cons_zero, List.set_cons_succ]
        refine wpAnyHI_doneN (by kernel_rfl) ?_ _
        have hxs : ∀ q v, #[Value.slice pa X.phis.length pc, .slice ia X.instrs.length ic, .int .i64 X.term.kind, .int .i64 X.term.a, .int .i64 X.term.to, .int .i64 X.term.els][q]? = some v → (wc.setCell ⟨Gi, k, none⟩ (.slice (some ⟨gB, 0, none⟩) Kw CB)).cell? ⟨wr.heap.size + 1, q, none⟩ = some v := fun q v h => (World.cell?_setCell_far wc ⟨Gi, k, none⟩ ⟨wr.heap.size + 1, q, none⟩ _ (by show Gi ≠ wr.heap.size + 1; omega)).trans ((HBC.out.cell (p := ⟨wr.heap.size + 1, q, none⟩) (by show wr.heap.size + 1 < _; omega)).trans (HQX.out q v h))
        have HGS : Hid ((wc.setCell ⟨Gi, k, none⟩ (.slice (some ⟨gB, 0, none⟩) Kw CB)).rowIs Gi 46 n (fun i => if i = k then .slice (some ⟨gB, 0, none⟩) Kw CB else if i < k then .slice (some ⟨d.gi i, 0, none⟩) Kw (d.ci i) else .slice none 0 0)) := hide (HGI.out.set k _)
        have HWS : Hid (WsAt (wc.setCell ⟨Gi, k, none⟩ (.slice (some ⟨gB, 0, none⟩) Kw CB)) gB Kw CB (WO k)) := hide (HWB.out.setOther (by show gB ≠ Gi; omega) _)
        have HFS : Hid (∀ q, q < wr.heap.size → q ≠ Gi → (wc.setCell ⟨Gi, k, none⟩ (.slice (some ⟨gB, 0, none⟩) Kw CB)).heap[q]? = wr.heap[q]?) := hide (fun q h1 h2 => (Below.heap_setCell _ _ _ _ h2).trans ((HBC.out.block q (by omega)).trans (HBQ.out.block q h1)))
        have HES : Hid ((wc.setCell ⟨Gi, k, none⟩ (.slice (some ⟨gB, 0, none⟩) Kw CB)).os = wr.os ∧ (wc.setCell ⟨Gi, k, none⟩ (.slice (some ⟨gB, 0, none⟩) Kw CB)).tape = wr.tape ∧ (wc.setCell ⟨Gi, k, none⟩ (.slice (some ⟨gB, 0, none⟩) Kw CB)).output = wr.output) := hide ⟨HBC.out.os.trans HBQ.out.os, HBC.out.tape.trans HBQ.out.tape, HBC.out.output.trans HBQ.out.output⟩
        have hzs : wq.heap.size ≤ (wc.setCell ⟨Gi, k, none⟩ (.slice (some ⟨gB, 0, none⟩) Kw CB)).heap.size := by rw [size_setCell]; exact hzc
        clear n0 n1 n2 nb HWB HGI HBC HBQ hqb HQX hzc
        generalize wc.setCell ⟨Gi, k, none⟩ (.slice (some ⟨gB, 0, none⟩) Kw CB) = ws at *
        have x0 := hxs 0 _ rfl
        have x1 := hxs 1 _ rfl
        have x2 := hxs 2 _ rfl
        have x3 := hxs 3 _ rfl
        have x4 := hxs 4 _ rfl
        have x5 := hxs 5 _ rfl
        clear hxs
        gi_wp2
        have HGBs : Hid (gB < ws.heap.size) := hide HWS.out.lt
        have sDk : Y.heap.size ≤ gd k ∧ gd k < w3.heap.size := HS.out.a6 k hlt
        refine ⟨trivial, (places_in Fence.wide 7 trivial rfl _ _ _ _ _ _ ws).mono ?_⟩
        rintro e w4 ⟨rfl, hw4⟩
        have hb4 : Below ws.heap.size ws w4 := by rw [hw4]; exact balloc (Below.refl _ _) _
        have hz4 : w4.heap.size = ws.heap.size + 1 := by rw [hw4]; simp
        have hc4 : ∀ q v, #[Value.slice pa X.phis.length pc, .slice ia X.instrs.length ic, .int .i64 X.term.kind, .int .i64 X.term.a, .int .i64 X.term.to, .int .i64 X.term.els][q]? = some v → w4.cell? ⟨ws.heap.size, q, none⟩ = some v := fun q v h => by
          rw [hw4, World.cell?_alloc_new]
          exact h
        have HB4 := hide hb4
        have HZ4 := hide hz4
        have hzs4 : ws.heap.size < w4.heap.size := by omega
        have HL4 : Hid (∀ q, q < w.heap.size → w4.heap[q]? = w.heap[q]?) := hide (fun q hq => (hb4.block q (by omega)).trans ((HFS.out q (by omega) (by omega)).trans (hlow.block q hq)))
        have HF4 : Hid (∀ q, q < wr.heap.size → q ≠ Gi → w4.heap[q]? = wr.heap[q]?) := hide (fun q h1 h2 => (hb4.block q (by omega)).trans (HFS.out q h1 h2))
        have HST4 : Hid (Stc X L B ws.heap.size w4.heap.size w4) := hide ⟨hOT.out.of_block (HL4.out _ hOT.out.1) (by omega), hTT.out.of_block (HL4.out _ hTT.out.1) (by omega), ⟨pa, pc, ia, ic, hc4 0 _ rfl, hc4 1 _ rfl, ⟨hc4 2 _ rfl, hc4 3 _ rfl, hc4 4 _ rfl, hc4 5 _ rfl⟩, HPHS.out.keepS (fun q _ h2 => (HF4.out q (by omega) (by omega))), HINS.out.keepS (fun q _ h2 => (HF4.out q (by omega) (by omega)))⟩, hzs4, by omega, by have := hOT.out.1; omega, by have := hTT.out.1; omega⟩
        have HI0 : Hid (FlI w4 gB (gd k) Kw CB (WO k) [] w4) := hide ⟨rfl, rfl, rfl, Nat.le_refl _, fun _ _ _ _ => rfl, HWS.out.of_block (hb4.block _ HGBs.out), by
          have h1 := HK.out.defs.set k hlt
          have h2 := HQ.out.wd k hkx
          rw [if_neg (by omega)] at h2
          rw [h2] at h1
          exact h1.of_block (HF4.out _ (by show gd k < _; omega) (by show gd k ≠ _; omega))⟩
        have HWOk : Hid (AllWd WO) := HWO
        have HGk : Hid (Gd ≠ gd k) := hide (HK.out.defs.out k hlt).symm
        have hgB4 : gB < w4.heap.size := by have := HGBs.out; omega
        have hgD4 : gd k < w4.heap.size := by omega
        have y0 := (hb4.cell (p := ⟨LB, 0, none⟩) (by show LB < _; omega)).trans o0
        have y1 := (hb4.cell (p := ⟨LB, 1, none⟩) (by show LB < _; omega)).trans o1
        have yb := (hb4.cell (p := ⟨wr.heap.size, 0, none⟩) (by show wr.heap.size < _; omega)).trans ob
        have yg : w4.cell? ⟨Gi, k, none⟩ = some (.slice (some ⟨gB, 0, none⟩) Kw CB) := (hb4.cell (p := ⟨Gi, k, none⟩) (by show Gi < _; omega)).trans ((HGS.out.cell hlt).trans (by simp))
        have yd : w4.cell? ⟨w3.heap.size, 0, none⟩ = some (.slice (some ⟨Gd, 0, none⟩) n n) := (cell_of (HF4.out _ (by omega) (by omega))).trans HK.out.d0
        have ydk : w4.cell? ⟨Gd, k, none⟩ = some (.slice (some ⟨gd k, 0, none⟩) Kw Kw) := (cell_of (HF4.out Gd (by omega) (by omega))).trans (HK.out.defs.row.cell hlt)
        clear hw4 hc4 hz4 hb4 o0 o1 o2 ob
        gi_wp2
        refine rangeN (F := Fence.wide) (n := 8) rfl (by decide) (gf := 66) (lb := #[.pointer (some ⟨ws.heap.size, 0, none⟩)]) rfl trivial (enters_of Tryd.func66 (by kernel_rfl) rfl) (places_seq ws.heap.size L B (fun q => q = gB ∨ q = gd k) (PdV V) X w4 HST4 (hide ?m1) (hide ?m2) (hide ?m3) (hide ?m4) (hide ?m5) HOP hopk HLN.out.1 HLN.out.2 (hide (by rw [HX.out]; exact pdV_all ho.out (List.getElem_mem hkx)))) (plPx_own _ _ _) (fun h k => h.trans k) (fun W l o o' h1 h2 h3 => KpB.putObj W l o o' h1 h2 h3) (Below.refl _ _) (fun _ => rfl)
          (FlI w4 gB (gd k) Kw CB (WO k)) (FlI.own hgB4 hgD4) HI0.out
          (fun p a' U => ∃ (bp : Nat) (v36 v37 v38 v39 v40 v41 v42 v43 v44 v45 v46 v47 v48 v49 v50 v51 v52 v53 : Value), a' = ⟨#[.agg #[.int .i64 (V : Int), .slice (some ⟨b, o, none⟩) n c], .pointer (some ⟨w.heap.size, 0, none⟩), .pointer (some ⟨w.heap.size + 1, 0, none⟩), .int .i64 (n : Int), .pointer (some ⟨LB, 0, none⟩), .pointer (some ⟨w3.heap.size, 0, none⟩), .slice (some ⟨w3.heap.size + 1, 0, none⟩) n n, .pointer (some ⟨bS, 0, none⟩), .pointer (some ⟨wr.heap.size, 0, none⟩), .pointer (some ⟨wr.heap.size + 1, 0, none⟩), undef, .pointer (some ⟨bp, 0, none⟩), undef, undef, undef, undef, .pointer (some ⟨w.heap.size, 1, none⟩), .slice (some ⟨b, o, none⟩) n c, .int .i64 (n : Int), .int .i64 (n : Int), .slice (some ⟨Gi, 0, none⟩) n n, .agg #[.int .i64 (V : Int), .slice (some ⟨b, o, none⟩) n c], .slice (some ⟨Go, 0, none⟩) n n, .agg #[.slice (some ⟨Gi, 0, none⟩) n n, .slice (some ⟨Go, 0, none⟩) n n], .int .i64 (n : Int), .pointer (some ⟨w.heap.size, 0, none⟩), .int .i64 (V : Int), .slice (some ⟨Gd, 0, none⟩) n n, .int .i64 (n : Int), .slice (some ⟨w3.heap.size + 1, 0, none⟩) n n, .agg #[.int .i64 (V : Int), .slice (some ⟨b, o, none⟩) n c], .pointer (some ⟨bS, 0, none⟩), .pointer (some ⟨w.heap.size, 1, none⟩), .slice (some ⟨b, o, none⟩) n c, .int .i64 (n : Int), .int .i64 (k : Int), v36, v37, v38, v39, v40, v41, v42, v43, v44, v45, v46, v47, v48, v49, v50, v51, v52, v53, undef, undef, undef, undef, undef, undef, undef, undef, undef, undef, undef, undef, undef, undef, undef, undef, undef, undef, undef, undef, undef, undef, undef, u77, u78, u79, u80, u81, u82, u83, u84, u85, u86, undef, undef, undef, undef, undef, undef, undef, undef, undef, undef, undef, undef, undef, undef, undef, undef, undef, undef, undef, undef, undef, undef, undef, undef, undef, undef, undef, undef, undef, undef, undef, undef, undef, undef, undef, undef, undef, undef, undef, undef], []⟩ ∧ PBx w4.heap.size bp p U) ?ownA ?assign ?body ?done
        case m1 => intro q h1 h2 h3; omega
        case m2 => intro h3; have := HGBs.out; omega
        case m3 => intro q h1 h3; omega
        case m4 => intro h3; have := hOT.out.1; omega
        case m5 => intro h3; have := hTT.out.1; omega
        case ownA =>
          rintro p a' _ A V row ⟨bp, v36, v37, v38, v39, v40, v41, v42, v43, v44, v45, v46, v47, v48, v49, v50, v51, v52, v53, e, hp⟩ g q
          exact ⟨bp, v36, v37, v38, v39, v40, v41, v42, v43, v44, v45, v46, v47, v48, v49, v50, v51, v52, v53, e, PBx.own (n := w4.heap.size) () A V row hp g q⟩
        case assign =>
          intro l pre p W K hI hP hKK
          have HII := hide hI
          have HPP := hide hP
          have HKK := hide hKK
          clear hI hP hKK
          unfold plEnc
          gi_wp2
          have hbA : Below W.heap.size W (W.alloc (.cells #[.slice p.ua p.us.length p.uc, .slice p.da p.ds.length p.dc] 97)) := balloc (Below.refl _ _) _
          refine HKK.out _ _ ⟨hbA.size, fun k o h1 _ => (hbA.block k (Array.getElem?_eq_some_iff.1 h1).1).trans h1⟩ (KpB.of_below hbA HII.out.size) (FlI.below hgB4 hgD4 HII.out hbA) (plPx_below HPP.out hbA) ⟨W.heap.size, _, _, _, _, _, _, _, _, _, _, _, _, _, _, _, _, _, _, rfl, HII.out.size, ?_, ?_⟩
          · simp [go_sem]
          · simp [go_sem]
        case body =>
          rintro l pre p a' W hI hP ⟨bp, v36, v37, v38, v39, v40, v41, v42, v43, v44, v45, v46, v47, v48, v49, v50, v51, v52, v53, rfl, hpb⟩ _
          have HII := hide hI
          have HPP := hide hP
          have hzW := hI.size
          have hgq : wr.heap.size + 1 < gB := by omega
          have z0 := (cell_of (hI.fr LB (by omega) (by omega) (by omega))).trans y0
          have zb := (cell_of (hI.fr wr.heap.size (by omega) (by omega) (by omega))).trans yb
          have zg := (cell_of (hI.fr Gi (by omega) (by omega) (by omega))).trans yg
          have zd := (cell_of (hI.fr w3.heap.size (by omega) (by omega) (by omega))).trans yd
          have zk := (cell_of (hI.fr Gd (by omega) (by omega) HGk.out)).trans ydk
          have p0 := hpb.c0
          have p1 := hpb.c1
          have hbp := hpb.ge
          have hbpW : bp < W.heap.size := World.block_lt_of_cell? W _ p0
          have HPd : Hid (PdV V p.dat) := hide HPP.out.1
          have HNd : Hid ((natL p.ds).map Int.ofNat = p.ds) := hide (natI_natL (fun v hv => (HPd.out.2.1 v hv).1))
          have HNu : Hid ((natL p.us).map Int.ofNat = p.us) := hide (natI_natL (fun v hv => (HPd.out.1 v hv).1))
          have HLd : Hid (∀ t ∈ natL p.ds, t < 64 * Kw) := hide (fun t ht => by
            obtain ⟨z, hz, rfl⟩ := List.mem_map.1 ht
            have := HPd.out.2.1 z hz
            omega)
          have HLu : Hid (∀ t ∈ natL p.us, t < 64 * Kw) := hide (fun t ht => by
            obtain ⟨z, hz, rfl⟩ := List.mem_map.1 ht
            have := HPd.out.1 z hz
            omega)
          have hld : p.ds.length ≤ 4000 := HPd.out.2.2.2
          have hlu : p.us.length ≤ 4000 := HPd.out.2.2.1
          have HWd1 : Hid (WdOk ((pre.map Pl.dat).foldl stepI (WO k))) := hide (foldI_wd _ (HWOk.out k))
          have HWd2 : Hid (WdOk ((pre.map Pl.dat).foldl stepD (fun _ => 0))) := hide (foldD_wd _ wd_zero)
          obtain ⟨F1, hF1⟩ : ∃ F, F = (pre.map Pl.dat).foldl stepI (WO k) := ⟨_, rfl⟩
          obtain ⟨F2, hF2⟩ : ∃ F, F = (pre.map Pl.dat).foldl stepD (fun _ => 0) := ⟨_, rfl⟩
          rw [← hF1] at HWd1
          rw [← hF2] at HWd2
          have HF1 := hide hF1
          have HF2 := hide hF2
          have HW1 : Hid (WsAt W gB Kw CB F1) := hide (by rw [hF1]; exact HII.out.ws)
          have HW2 : Hid (WsAt W (gd k) Kw Kw F2) := hide (by rw [hF2]; exact HII.out.wd)
          clear hI hP hpb hF1 hF2
          have HC1 := hide (remove_valueNo gB Kw CB p.ds.length p.dc F1 p.da (natL p.ds) w4.heap.size W.heap.size W.drew (hide (by rw [HNd.out]; exact HPP.out.2.2)) (hide (by simp [natL])) hld HLd (by omega) HWd1 (hide HW1.out.drew) (Nat.le_refl _) (by omega))
          gi_wp2
          refine wpIn_region_held_drew (S := (fun w' => w'.cell? ⟨LB, 0, none⟩ = some (.slice (some ⟨Gi, 0, none⟩) n n) ∧ w'.cell? ⟨wr.heap.size, 0, none⟩ = some (.int .i64 (k : Int)) ∧ w'.cell? ⟨Gi, k, none⟩ = some (.slice (some ⟨gB, 0, none⟩) Kw CB) ∧ w'.cell? ⟨bp, 1, none⟩ = some (.slice p.da p.ds.length p.dc))) (by kernel_rfl) (by (try dsimp only); go_keep) (fun hHeld => ?_)
          refine wpAnyHI_take (i := 0) (v := ?_) rfl (by kernel_rfl) (by kernel_rfl) (by kernel_rfl) (by kernel_rfl) (fun _ _ _ h => h) ⟨Or.inl ⟨by rfl, ?_⟩, fun _ => rfl⟩ (by assumption) ?_
          rotate_left
          · intro w hSw; (try dsimp only at hSw); go_simp; try with_reducible rfl
          simp only [Act.put, List.getElem_toArray, List.getElem_cons_zero, List.setIfInBounds_toArray, List.set_cons_zero, List.set_cons_succ]
          refine wpAnyHI_take (i := 1) (v := ?_) rfl (by kernel_rfl) (by kernel_rfl) (by kernel_rfl) (by kernel_rfl) (fun _ _ _ h => h) ⟨Or.inl ⟨by rfl, ?_⟩, fun _ => rfl⟩ (by assumption) ?_
          rotate_left
          · intro w hSw; (try dsimp only at hSw); go_simp; try with_reducible rfl
          simp only [Act.put, List.getElem_toArray, List.getElem_cons_zero, List.getElem_cons_succ, List.setIfInBounds_toArray, List.set_cons_zero, List.set_cons_succ]
          refine wpAnyHI_take (i := 2) (v := ?_) rfl (by kernel_rfl) (by kernel_rfl) (by kernel_rfl) (by kernel_rfl) (fun _ _ _ h => h) ⟨Or.inl ⟨by rfl, ?_⟩, fun _ => rfl⟩ (by assumption) ?_
          rotate_left
          · intro w hSw; (try dsimp only at hSw); go_simp; try with_reducible rfl
          simp only [Act.put, List.getElem_toArray, List.getElem_cons_zero, List.getElem_cons_succ, List.setIfInBounds_toArray, List.set_cons_zero, List.set_cons_succ]
          refine wpAnyHI_take (i := 3) (v := ?_) rfl (by kernel_rfl) (by kernel_rfl) (by kernel_rfl) (by kernel_rfl) (fun _ _ _ h => h) ⟨Or.inl ⟨by rfl, ?_⟩, fun _ => rfl⟩ (by assumption) ?_
          rotate_left
          · intro w hSw; (try dsimp only at hSw); go_simp; try with_reducible rfl
          simp only [Act.put, List.getElem_toArray, List.getElem_cons_zero, List.getElem_cons_succ, List.setIfInBounds_toArray, List.set_cons_zero, List.set_cons_succ]
          refine wpAnyHI_take (i := 4) (v := ?_) rfl (by kernel_rfl) (by kernel_rfl) (by kernel_rfl) (by kernel_rfl) (fun _ _ _ h => h) ⟨Or.inl ⟨by rfl, ?_⟩, fun _ => rfl⟩ (by assumption) ?_
          rotate_left
          · intro w hSw; (try dsimp only at hSw); go_simp; try with_reducible rfl
          simp only [Act.put, List.getElem_toArray, List.getElem_cons_zero, List.getElem_cons_succ, List.setIfInBounds_toArray, List.set_cons_zero, List.set_cons_succ]
          refine wpAnyHI_take (i := 5) (v := ?_) rfl (by kernel_rfl) (by kernel_rfl) (by kernel_rfl) (by kernel_rfl) (fun _ _ _ h => h) ⟨Or.inl ⟨by rfl, ?_⟩, fun _ => rfl⟩ (by assumption) ?_
          rotate_left
          · intro w hSw; (try dsimp only at hSw); go_simp; try with_reducible rfl
          simp only [Act.put, List.getElem_toArray, List.getElem_cons_zero, List.getElem_cons_succ, List.setIfInBounds_toArray, List.set_cons_zero, List.set_cons_succ]
          refine wpAnyHI_take (i := 6) (v := ?_) rfl (by kernel_rfl) (by kernel_rfl) (by kernel_rfl) (by kernel_rfl) (fun _ _ _ h => h) ⟨Or.inl ⟨by rfl, ?_⟩, fun _ => rfl⟩ (by assumption) ?_
          rotate_left
          · intro w hSw; (try dsimp only at hSw); go_simp; try with_reducible rfl
          simp only [Act.put, List.getElem_toArray, List.getElem_cons_zero, List.getElem_cons_succ, List.setIfInBounds_toArray, List.set_cons_zero, List.set_cons_succ]
          refine wpAnyHI_ready (rs := [7]) (by kernel_rfl) (by simp) ?_
          refine AllReadyHI.cons rfl (fun K hK => ?_) AllReadyHI.nil
          go_simp
          refine ⟨trivial, (CallsIn.inRound l (callsIn_wide.2 HC1.out)).mono ?_⟩
          rintro e V1 ⟨rfl, k1', hw1⟩
          have k1 : W.grownBy V1 (some gB) := ⟨k1'.os, k1'.tape, k1'.output, k1'.size, k1'.block⟩
          have HK1 := hide k1
          have HWS1 := hide hw1
          have q1 : ∀ (b' o' : Nat) (v : Value), b' ≠ gB → W.cell? ⟨b', o', none⟩ = some v → V1.cell? ⟨b', o', none⟩ = some v := fun b' o' v h1 h2 => (cell_of (k1.block b' (World.block_lt_of_cell? W _ h2) (fun e => h1 (by injection e)))).trans h2
          have z0' := q1 _ _ _ (by omega) z0
          have zb' := q1 _ _ _ (by omega) zb
          have zg' := q1 _ _ _ (by omega) zg
          have zd' := q1 _ _ _ (by omega) zd
          have zk' := q1 _ _ _ (by omega) zk
          have p0' := q1 _ _ _ (by omega) p0
          have p1' := q1 _ _ _ (by omega) p1
          have hzV1 := k1.size
          clear k1 k1' hw1 q1 HC1 z0 zb zg zd zk p0 p1
          refine hK.out _ _ ⟨z0', zb', zg', p1'⟩ (fun hHeld => ?_)
          clear hK hHeld
          try simp only [Act.put, List.getElem_toArray, List.getElem_cons_zero, List.getElem_cons_succ, List.setIfInBounds_toArray, List.set_cons_zero, List.set_cons_succ]
          refine wpAnyHI_doneN (by kernel_rfl) ?_ _
          have HIu : Hid (IntsAt V1 w4.heap.size V1.heap.size p.ua p.us) := hide (intsAt_grown HPP.out.2.1 HK1.out hgB4)
          have HC2 := hide (add_valueNo gB Kw CB p.us.length p.uc (delsN F1 (natL p.ds)) p.ua (natL p.us) w4.heap.size V1.heap.size V1.drew (hide (by rw [HNu.out]; exact HIu.out)) (hide (by simp [natL])) hlu HLu (by omega) (hide (dels_wd _ HWd1.out)) (hide HWS1.out.drew) (Nat.le_refl _) (by omega))
          gi_wp2
          refine wpIn_region_held_drew (S := (fun w' => w'.cell? ⟨LB, 0, none⟩ = some (.slice (some ⟨Gi, 0, none⟩) n n) ∧ w'.cell? ⟨wr.heap.size, 0, none⟩ = some (.int .i64 (k : Int)) ∧ w'.cell? ⟨Gi, k, none⟩ = some (.slice (some ⟨gB, 0, none⟩) Kw CB) ∧ w'.cell? ⟨bp, 0, none⟩ = some (.slice p.ua p.us.length p.uc))) (by kernel_rfl) (by (try dsimp only); go_keep) (fun hHeld => ?_)
          refine wpAnyHI_take (i := 0) (v := ?_) rfl (by kernel_rfl) (by kernel_rfl) (by kernel_rfl) (by kernel_rfl) (fun _ _ _ h => h) ⟨Or.inl ⟨by rfl, ?_⟩, fun _ => rfl⟩ (by assumption) ?_
          rotate_left
          · intro w hSw; (try dsimp only at hSw); go_simp; try with_reducible rfl
          simp only [Act.put, List.getElem_toArray, List.getElem_cons_zero, List.setIfInBounds_toArray, List.set_cons_zero, List.set_cons_succ]
          refine wpAnyHI_take (i := 1) (v := ?_) rfl (by kernel_rfl) (by kernel_rfl) (by kernel_rfl) (by kernel_rfl) (fun _ _ _ h => h) ⟨Or.inl ⟨by rfl, ?_⟩, fun _ => rfl⟩ (by assumption) ?_
          rotate_left
          · intro w hSw; (try dsimp only at hSw); go_simp; try with_reducible rfl
          simp only [Act.put, List.getElem_toArray, List.getElem_cons_zero, List.getElem_cons_succ, List.setIfInBounds_toArray, List.set_cons_zero, List.set_cons_succ]
          refine wpAnyHI_take (i := 2) (v := ?_) rfl (by kernel_rfl) (by kernel_rfl) (by kernel_rfl) (by kernel_rfl) (fun _ _ _ h => h) ⟨Or.inl ⟨by rfl, ?_⟩, fun _ => rfl⟩ (by assumption) ?_
          rotate_left
          · intro w hSw; (try dsimp only at hSw); go_simp; try with_reducible rfl
          simp only [Act.put, List.getElem_toArray, List.getElem_cons_zero, List.getElem_cons_succ, List.setIfInBounds_toArray, List.set_cons_zero, List.set_cons_succ]
          refine wpAnyHI_take (i := 3) (v := ?_) rfl (by kernel_rfl) (by kernel_rfl) (by kernel_rfl) (by kernel_rfl) (fun _ _ _ h => h) ⟨Or.inl ⟨by rfl, ?_⟩, fun _ => rfl⟩ (by assumption) ?_
          rotate_left
          · intro w hSw; (try dsimp only at hSw); go_simp; try with_reducible rfl
          simp only [Act.put, List.getElem_toArray, List.getElem_cons_zero, List.getElem_cons_succ, List.setIfInBounds_toArray, List.set_cons_zero, List.set_cons_succ]
          refine wpAnyHI_take (i := 4) (v := ?_) rfl (by kernel_rfl) (by kernel_rfl) (by kernel_rfl) (by kernel_rfl) (fun _ _ _ h => h) ⟨Or.inl ⟨by rfl, ?_⟩, fun _ => rfl⟩ (by assumption) ?_
          rotate_left
          · intro w hSw; (try dsimp only at hSw); go_simp; try with_reducible rfl
          simp only [Act.put, List.getElem_toArray, List.getElem_cons_zero, List.getElem_cons_succ, List.setIfInBounds_toArray, List.set_cons_zero, List.set_cons_succ]
          refine wpAnyHI_take (i := 5) (v := ?_) rfl (by kernel_rfl) (by kernel_rfl) (by kernel_rfl) (by kernel_rfl) (fun _ _ _ h => h) ⟨Or.inl ⟨by rfl, ?_⟩, fun _ => rfl⟩ (by assumption) ?_
          rotate_left
          · intro w hSw; (try dsimp only at hSw); go_simp; try with_reducible rfl
          simp only [Act.put, List.getElem_toArray, List.getElem_cons_zero, List.getElem_cons_succ, List.setIfInBounds_toArray, List.set_cons_zero, List.set_cons_succ]
          refine wpAnyHI_take (i := 6) (v := ?_) rfl (by kernel_rfl) (by kernel_rfl) (by kernel_rfl) (by kernel_rfl) (fun _ _ _ h => h) ⟨Or.inl ⟨by rfl, ?_⟩, fun _ => rfl⟩ (by assumption) ?_
          rotate_left
          · intro w hSw; (try dsimp only at hSw); go_simp; try with_reducible rfl
          simp only [Act.put, List.getElem_toArray, List.getElem_cons_zero, List.getElem_cons_succ, List.setIfInBounds_toArray, List.set_cons_zero, List.set_cons_succ]
          refine wpAnyHI_ready (rs := [7]) (by kernel_rfl) (by simp) ?_
          refine AllReadyHI.cons rfl (fun K hK => ?_) AllReadyHI.nil
          go_simp
          refine ⟨trivial, (CallsIn.inRound l (callsIn_wide.2 HC2.out)).mono ?_⟩
          rintro e V2 ⟨rfl, k2', hw2⟩
          have k2 : V1.grownBy V2 (some gB) := ⟨k2'.os, k2'.tape, k2'.output, k2'.size, k2'.block⟩
          have HK2 := hide k2
          have HWS2 := hide hw2
          have q1 : ∀ (b' o' : Nat) (v : Value), b' ≠ gB → V1.cell? ⟨b', o', none⟩ = some v → V2.cell? ⟨b', o', none⟩ = some v := fun b' o' v h1 h2 => (cell_of (k2.block b' (World.block_lt_of_cell? V1 _ h2) (fun e => h1 (by injection e)))).trans h2
          have z0 := q1 _ _ _ (by omega) z0'
          have zb := q1 _ _ _ (by omega) zb'
          have zg := q1 _ _ _ (by omega) zg'
          have zd := q1 _ _ _ (by omega) zd'
          have zk := q1 _ _ _ (by omega) zk'
          have p0 := q1 _ _ _ (by omega) p0'
          have p1 := q1 _ _ _ (by omega) p1'
          have hzV2 := k2.size
          clear k2 k2' hw2 q1 HC2 z0' zb' zg' zd' zk' p0' p1'
          refine hK.out _ _ ⟨z0, zb, zg, p0⟩ (fun hHeld => ?_)
          clear hK hHeld
          try simp only [Act.put, List.getElem_toArray, List.getElem_cons_zero, List.getElem_cons_succ, List.setIfInBounds_toArray, List.set_cons_zero, List.set_cons_succ]
          refine wpAnyHI_doneN (by kernel_rfl) ?_ _
          have HI2 : Hid (IntsAt V2 w4.heap.size V2.heap.size p.da p.ds) := hide (intsAt_grown (intsAt_grown HPP.out.2.2 HK1.out hgB4) HK2.out hgB4)
          have HWD2 : Hid (WsAt V2 (gd k) Kw Kw F2) := hide ((HW2.out.of_block (HK1.out.block _ HW2.out.lt (fun e => by injection e with e; omega))).of_block (HK2.out.block _ (by have := HW2.out.lt; omega) (fun e => by injection e with e; omega)))
          have HC3 := hide (add_valueNo (gd k) Kw Kw p.ds.length p.dc F2 p.da (natL p.ds) w4.heap.size V2.heap.size V2.drew (hide (by rw [HNd.out]; exact HI2.out)) (hide (by simp [natL])) hld HLd (by omega) HWd2 (hide HWD2.out.drew) (Nat.le_refl _) (by omega))
          gi_wp2
          refine wpIn_region_held_drew (S := (fun w' => w'.cell? ⟨w3.heap.size, 0, none⟩ = some (.slice (some ⟨Gd, 0, none⟩) n n) ∧ w'.cell? ⟨wr.heap.size, 0, none⟩ = some (.int .i64 (k : Int)) ∧ w'.cell? ⟨Gd, k, none⟩ = some (.slice (some ⟨gd k, 0, none⟩) Kw Kw) ∧ w'.cell? ⟨bp, 1, none⟩ = some (.slice p.da p.ds.length p.dc))) (by kernel_rfl) (by (try dsimp only); go_keep) (fun hHeld => ?_)
          refine wpAnyHI_take (i := 0) (v := ?_) rfl (by kernel_rfl) (by kernel_rfl) (by kernel_rfl) (by kernel_rfl) (fun _ _ _ h => h) ⟨Or.inl ⟨by rfl, ?_⟩, fun _ => rfl⟩ (by assumption) ?_
          rotate_left
          · intro w hSw; (try dsimp only at hSw); go_simp; try with_reducible rfl
          simp only [Act.put, List.getElem_toArray, List.getElem_cons_zero, List.setIfInBounds_toArray, List.set_cons_zero, List.set_cons_succ]
          refine wpAnyHI_take (i := 1) (v := ?_) rfl (by kernel_rfl) (by kernel_rfl) (by kernel_rfl) (by kernel_rfl) (fun _ _ _ h => h) ⟨Or.inl ⟨by rfl, ?_⟩, fun _ => rfl⟩ (by assumption) ?_
          rotate_left
          · intro w hSw; (try dsimp only at hSw); go_simp; try with_reducible rfl
          simp only [Act.put, List.getElem_toArray, List.getElem_cons_zero, List.getElem_cons_succ, List.setIfInBounds_toArray, List.set_cons_zero, List.set_cons_succ]
          refine wpAnyHI_take (i := 2) (v := ?_) rfl (by kernel_rfl) (by kernel_rfl) (by kernel_rfl) (by kernel_rfl) (fun _ _ _ h => h) ⟨Or.inl ⟨by rfl, ?_⟩, fun _ => rfl⟩ (by assumption) ?_
          rotate_left
          · intro w hSw; (try dsimp only at hSw); go_simp; try with_reducible rfl
          simp only [Act.put, List.getElem_toArray, List.getElem_cons_zero, List.getElem_cons_succ, List.setIfInBounds_toArray, List.set_cons_zero, List.set_cons_succ]
          refine wpAnyHI_take (i := 3) (v := ?_) rfl (by kernel_rfl) (by kernel_rfl) (by kernel_rfl) (by kernel_rfl) (fun _ _ _ h => h) ⟨Or.inl ⟨by rfl, ?_⟩, fun _ => rfl⟩ (by assumption) ?_
          rotate_left
          · intro w hSw; (try dsimp only at hSw); go_simp; try with_reducible rfl
          simp only [Act.put, List.getElem_toArray, List.getElem_cons_zero, List.getElem_cons_succ, List.setIfInBounds_toArray, List.set_cons_zero, List.set_cons_succ]
          refine wpAnyHI_take (i := 4) (v := ?_) rfl (by kernel_rfl) (by kernel_rfl) (by kernel_rfl) (by kernel_rfl) (fun _ _ _ h => h) ⟨Or.inl ⟨by rfl, ?_⟩, fun _ => rfl⟩ (by assumption) ?_
          rotate_left
          · intro w hSw; (try dsimp only at hSw); go_simp; try with_reducible rfl
          simp only [Act.put, List.getElem_toArray, List.getElem_cons_zero, List.getElem_cons_succ, List.setIfInBounds_toArray, List.set_cons_zero, List.set_cons_succ]
          refine wpAnyHI_take (i := 5) (v := ?_) rfl (by kernel_rfl) (by kernel_rfl) (by kernel_rfl) (by kernel_rfl) (fun _ _ _ h => h) ⟨Or.inl ⟨by rfl, ?_⟩, fun _ => rfl⟩ (by assumption) ?_
          rotate_left
          · intro w hSw; (try dsimp only at hSw); go_simp; try with_reducible rfl
          simp only [Act.put, List.getElem_toArray, List.getElem_cons_zero, List.getElem_cons_succ, List.setIfInBounds_toArray, List.set_cons_zero, List.set_cons_succ]
          refine wpAnyHI_ready (rs := [6]) (by kernel_rfl) (by simp) ?_
          refine AllReadyHI.cons rfl (fun K hK => ?_) AllReadyHI.nil
          go_simp
          refine ⟨trivial, (CallsIn.inRound l (callsIn_wide.2 HC3.out)).mono ?_⟩
          rintro e V3 ⟨rfl, k3', hw3⟩
          have k3 : V2.grownBy V3 (some (gd k)) := ⟨k3'.os, k3'.tape, k3'.output, k3'.size, k3'.block⟩
          have HK3 := hide k3
          have HWS3 := hide hw3
          have q1 : ∀ (b' o' : Nat) (v : Value), b' ≠ gd k → V2.cell? ⟨b', o', none⟩ = some v → V3.cell? ⟨b', o', none⟩ = some v := fun b' o' v h1 h2 => (cell_of (k3.block b' (World.block_lt_of_cell? V2 _ h2) (fun e => h1 (by injection e)))).trans h2
          have hGk := HGk.out
          have zb' := q1 _ _ _ (by omega) zb
          have zd' := q1 _ _ _ (by omega) zd
          have zk' := q1 _ _ _ hGk zk
          have p1' := q1 _ _ _ (by omega) p1
          have hzV3 := k3.size
          clear k3 k3' hw3 q1 HC3 z0 zb zg zd zk p0 p1 hGk
          refine hK.out _ _ ⟨zd', zb', zk', p1'⟩ (fun hHeld => ?_)
          clear hK hHeld
          try simp only [Act.put, List.getElem_toArray, List.getElem_cons_zero, List.getElem_cons_succ, List.setIfInBounds_toArray, List.set_cons_zero, List.set_cons_succ]
          refine wpAnyHI_doneN (by kernel_rfl) ?_ _
          clear zd' zb' zk' p1'
          gi_wp2
          refine ⟨((keeps_row HK1.out HW1.out.obj).trans (keeps_row HK2.out HWS1.out.obj)).trans (keeps_row HK3.out HWD2.out.obj), ((kpB_grown HK1.out (Or.inl rfl) hzW).trans (kpB_grown HK2.out (Or.inl rfl) (by omega))).trans (kpB_grown HK3.out (Or.inr rfl) (by omega)), HII.out.next hgB4 (by omega) HK1.out HK2.out HK3.out ?_ ?_⟩
          · rw [← HF1.out]; exact HWS2.out
          · rw [← HF2.out]; exact HWS3.out
        case done =>
          rintro D ps W hD hS hI hKD
          have HSS := hide hS
          have HII := hide hI
          have HKD := hide hKD
          have HDD := hide hD
          have hzW := hI.size
          have hgq : wr.heap.size + 1 < gB := by omega
          have hGn3 : w3.heap.size + 1 < wr.heap.size := by omega
          have zb := (cell_of (hI.fr wr.heap.size (by omega) (by omega) (by omega))).trans yb
          have hxW : ∀ q v, ws.cell? ⟨wr.heap.size + 1, q, none⟩ = some v → W.cell? ⟨wr.heap.size + 1, q, none⟩ = some v := fun q v h => (cell_of (hI.fr (wr.heap.size + 1) (by omega) (by omega) (by omega))).trans ((HB4.out.cell (p := ⟨wr.heap.size + 1, q, none⟩) (by show wr.heap.size + 1 < _; omega)).trans h)
          have t2 := hxW 2 _ x2
          have t3 := hxW 3 _ x3
          have t4 := hxW 4 _ x4
          have t5 := hxW 5 _ x5
          have HGN : Hid (W.rowIs (w3.heap.size + 1) 35 n (fun i => if i < k then d.nx i else .slice none 0 0)) := hide ((HK.out.nxr.of_block (HF4.out (w3.heap.size + 1) (by omega) (by omega))).of_block (hI.fr (w3.heap.size + 1) (by omega) (by omega) (by omega)))
          have HTG := hide (targetsI_any X.term W.drew)
          clear hI hS hKD y0 y1 yb yg yd ydk x0 x1 x2 x3 x4 x5 hxW
          gi_wp2
          refine wpIn_region_held_drew (S := (fun w' => w'.cell? ⟨wr.heap.size, 0, none⟩ = some (.int .i64 (k : Int)) ∧ w'.cell? ⟨wr.heap.size + 1, 2, none⟩ = some (.int .i64 X.term.kind) ∧ w'.cell? ⟨wr.heap.size + 1, 3, none⟩ = some (.int .i64 X.term.a) ∧ w'.cell? ⟨wr.heap.size + 1, 4, none⟩ = some (.int .i64 X.term.to) ∧ w'.cell? ⟨wr.heap.size + 1, 5, none⟩ = some (.int .i64 X.term.els))) (by kernel_rfl) (by (try dsimp only); go_keep) (fun hHeld => ?_)
          refine wpAnyHI_take (i := 0) (v := ?_) rfl (by kernel_rfl) (by kernel_rfl) (by kernel_rfl) (by kernel_rfl) (fun _ _ _ h => h) ⟨Or.inl ⟨by rfl, ?_⟩, fun _ => rfl⟩ (by assumption) ?_
          rotate_left
          · intro w hSw; (try dsimp only at hSw); go_simp; try with_reducible rfl
          simp only [Act.put, List.getElem_toArray, List.getElem_cons_zero, List.setIfInBounds_toArray, List.set_cons_zero, List.set_cons_succ]
          refine wpAnyHI_take (i := 1) (v := ?_) rfl (by kernel_rfl) (by kernel_rfl) (by kernel_rfl) (by kernel_rfl) (fun _ _ _ h => h) ⟨Or.inl ⟨by rfl, ?_⟩, fun _ => rfl⟩ (by assumption) ?_
          rotate_left
          · intro w hSw; (try dsimp only at hSw); go_simp; try with_reducible rfl
          simp only [Act.put, List.getElem_toArray, List.getElem_cons_zero, List.getElem_cons_succ, List.setIfInBounds_toArray, List.set_cons_zero, List.set_cons_succ]
          refine wpAnyHI_take (i := 2) (v := ?_) rfl (by kernel_rfl) (by kernel_rfl) (by kernel_rfl) (by kernel_rfl) (fun _ _ _ h => h) ⟨Or.inl ⟨by rfl, ?_⟩, fun _ => rfl⟩ (by assumption) ?_
          rotate_left
          · intro w hSw; (try dsimp only at hSw); go_simp; try with_reducible rfl
          simp only [Act.put, List.getElem_toArray, List.getElem_cons_zero, List.getElem_cons_succ, List.setIfInBounds_toArray, List.set_cons_zero, List.set_cons_succ]
          refine wpAnyHI_take (i := 3) (v := ?_) rfl (by kernel_rfl) (by kernel_rfl) (by kernel_rfl) (by kernel_rfl) (fun _ _ _ h => h) ⟨Or.inl ⟨by rfl, ?_⟩, fun _ => rfl⟩ (by assumption) ?_
          rotate_left
          · intro w hSw; (try dsimp only at hSw); go_simp; try with_reducible rfl
          simp only [Act.put, List.getElem_toArray, List.getElem_cons_zero, List.getElem_cons_succ, List.setIfInBounds_toArray, List.set_cons_zero, List.set_cons_succ]
          refine wpAnyHI_ready (rs := [4]) (by kernel_rfl) (by simp) ?_
          refine AllReadyHI.cons rfl (fun K hK => ?_) AllReadyHI.nil
          go_simp
          refine ⟨trivial, (callsIn_wide.2 HTG.out).mono ?_⟩
          rintro e w5 ⟨a5, c5, rfl, hb5', hi5⟩
          have hb5 : Below W.heap.size W w5 := ⟨hb5'.os, hb5'.tape, hb5'.output, hb5'.size, hb5'.block⟩
          have HB5 := hide hb5
          have HI5 : Hid (IntsAt w5 W.heap.size w5.heap.size a5 X.term.targets) := hide hi5
          have zb5 := (hb5.cell (p := ⟨wr.heap.size, 0, none⟩) (by show wr.heap.size < _; omega)).trans zb
          have t2' := (hb5.cell (p := ⟨wr.heap.size + 1, 2, none⟩) (by show wr.heap.size + 1 < _; omega)).trans t2
          have t3' := (hb5.cell (p := ⟨wr.heap.size + 1, 3, none⟩) (by show wr.heap.size + 1 < _; omega)).trans t3
          have t4' := (hb5.cell (p := ⟨wr.heap.size + 1, 4, none⟩) (by show wr.heap.size + 1 < _; omega)).trans t4
          have t5' := (hb5.cell (p := ⟨wr.heap.size + 1, 5, none⟩) (by show wr.heap.size + 1 < _; omega)).trans t5
          have hgn := HGN.out.of_block (hb5.block _ HGN.out.lt)
          have gk : w5.cell? ⟨w3.heap.size + 1, k, none⟩ = some (.slice none 0 0) := (hgn.cell hlt).trans (by simp)
          have gz := hgn.frozen k
          have hz5 := hb5.size
          clear hb5 hb5' hi5 hgn HTG zb t2 t3 t4 t5
          refine hK.out _ _ ⟨zb5, t2', t3', t4', t5'⟩ (fun hHeld => ?_)
          clear hK
          try simp only [Act.put, List.getElem_toArray, List.getElem_cons_zero, List.getElem_cons_succ, List.setIfInBounds_toArray, List.set_cons_zero, List.set_cons_succ]
          refine wpAnyHI_take (i := 5) (v := ?_) rfl (by kernel_rfl) (by kernel_rfl) (by kernel_rfl) (by kernel_rfl) (fun _ _ _ h => h) ⟨Or.inl ⟨by rfl, ?_⟩, fun _ => rfl⟩ (by assumption) ?_
          rotate_left
          · intro w hSw; (try dsimp only at hSw); go_simp; try with_reducible rfl
          simp only [Act.put, List.getElem_toArray, List.getElem_cons_zero, List.getElem_cons_succ, List.setIfInBounds_toArray, List.set_cons_zero, List.set_cons_succ]
          have hsf : ∀ (b' o' : Nat) (v : Value), b' ≠ w3.heap.size + 1 → w5.cell? ⟨b', o', none⟩ = some v → (w5.setCell ⟨w3.heap.size + 1, k, none⟩ (.slice a5 X.term.targets.length c5)).cell? ⟨b', o', none⟩ = some v := fun b' o' v h1 h2 => (World.cell?_setCell_far w5 ⟨w3.heap.size + 1, k, none⟩ ⟨b', o', none⟩ _ (fun e => h1 e.symm)).trans h2
          refine wpAnyHI_ready (rs := [6]) (by kernel_rfl) (by simp) ?_
          refine AllReadyHI.cons rfl (fun K hK => ?_) AllReadyHI.nil
          go_simp
          refine hK.out _ _ ⟨hsf _ _ _ (by omega) zb5, hsf _ _ _ (by omega) t2', hsf _ _ _ (by omega) t3', hsf _ _ _ (by omega) t4', hsf _ _ _ (by omega) t5'⟩ (fun hHeld => ?_)
          clear hK gk gz hHeld
          try simp only [Act.put, List.getElem_toArray, List.getElem_cons_zero, List.getElem_cons_succ, List.setIfInBounds_toArray, List.set_cons_zero, List.set_cons_succ]
          refine wpAnyHI_doneN (by kernel_rfl) ?_ _
          have zb6 := hsf _ _ _ (by omega) zb5
          clear zb5 t2' t3' t4' t5' hsf
          have HSE : Hid (SeaAt (w5.setCell ⟨w3.heap.size + 1, k, none⟩ (.slice a5 X.term.targets.length c5)) bS gS W0.heap.size K2 (some ⟨b, o, none⟩) n c d.Ws d.vS d.Lf) := hide (round_sea (p := (⟨w, V, n, c, Kw, K2, some ⟨b, o, none⟩, xs, Gi, LB, Go, w3.heap.size, Gd, w3.heap.size + 1, bS, gS, Y.heap.size, w3.heap.size, W0.heap.size, go, gd, WO⟩ : FlP)) (u5 := .slice a5 X.term.targets.length c5) HK.out HS.out hlt HF4.out (by omega) (by omega) HII.out HB5.out)
          have HBL : Hid (BlksAt (w5.setCell ⟨w3.heap.size + 1, k, none⟩ (.slice a5 X.term.targets.length c5)) L B (some ⟨b, o, none⟩) xs) := hide (ha.out.keepS (fun q _ h2 => (Below.heap_setCell _ _ _ _ (by show q ≠ w3.heap.size + 1; omega)).trans ((HB5.out.block q (by omega)).trans ((HII.out.fr q (by omega) (by omega) (by omega)).trans (HL4.out q (by omega))))))
          have HTN : Hid (∀ x ∈ xs, ∀ t ∈ x.term.targets, 0 ≤ t ∧ t < (n : Int)) := hide (by rw [hx.out]; exact ho.out.okf.tgt)
          have HVI := hide (visit_any bS gS W0.heap.size K2 n c (some ⟨b, o, none⟩) xs L B hx hn hnK2 (by omega) (by have : w3.heap.size + 2 ≤ bS ∧ bS < W0.heap.size := HS.out.a9; omega) (by have : w3.heap.size + 2 ≤ gS ∧ gS < W0.heap.size := HS.out.a10; omega) (by omega) HTN n k d.Ws d.vS d.Lf _ HSE HBL hlt (hide (unseen_le _ _)) (hide HQ.out.wok) HQ.out.len)
          gi_wp2
          refine ⟨trivial, (callsIn_wide.2 HVI.out).mono ?_⟩
          rintro e w7 ⟨rfl, v', hfv, hse⟩
          obtain ⟨d', hK', hQ', hM'⟩ := FlK.round (p := (⟨w, V, n, c, Kw, K2, some ⟨b, o, none⟩, xs, Gi, LB, Go, w3.heap.size, Gd, w3.heap.size + 1, bS, gS, Y.heap.size, w3.heap.size, W0.heap.size, go, gd, WO⟩ : FlP)) (c5 := c5) HK.out HS.out HQ.out HM.out hlt hkx (by show ∀ b, b < n → ∀ t ∈ tgN xs b, t < n; rw [hx.out]; exact ho.out.okf.tg) HF4.out ⟨HB4.out.os.trans HES.out.1, HB4.out.tape.trans HES.out.2.1, HB4.out.output.trans HES.out.2.2⟩ (by omega) (by omega) hgB4 (HGS.out.of_block (HB4.out.block _ HGS.out.lt)) HII.out HSS.out HX.out HDD.out HKD.out HB5.out HI5.out hfv hse
          have HK' := hide hK'
          have HQ' := hide hQ'
          have HM' := hide hM'
          clear hfv hse hK' hQ' hM' zb6 HVI HSE HBL
          gi_wp2
          exact ⟨⟨k + 1, D :: ds, d', _, _, _, _, _, _, _, _, _, _, _, _, _, _, _, _, _, _, _, _, _, _, _, _, _, _, _, _, by omega, rfl, HK', HQ', HM'⟩, by simp [intOf]; omega⟩
      · have hkn : k = n := by omega
        clear hlt
        have HKn : Hid (FlK (⟨w, V, n, c, Kw, K2, a, xs, Gi, LB, Go, w3.heap.size, Gd, w3.heap.size + 1, bS, gS, Y.heap.size, w3.heap.size, W0.heap.size, go, gd, WO⟩ : FlP) wr n d) := hide (by have h := HK.out; rw [hkn] at h; exact h)
        have HQn : Hid (FlQ (⟨w, V, n, c, Kw, K2, a, xs, Gi, LB, Go, w3.heap.size, Gd, w3.heap.size + 1, bS, gS, Y.heap.size, w3.heap.size, W0.heap.size, go, gd, WO⟩ : FlP) n d) := hide (by have h := HQ.out; rw [hkn] at h; exact h)
        clear HK HQ
        have hMz : W0.heap.size ≤ wr.heap.size := HKn.out.sz
        obtain ⟨gL, cL, hvS, hspr⟩ := FlK.spread (p := (⟨w, V, n, c, Kw, K2, a, xs, Gi, LB, Go, w3.heap.size, Gd, w3.heap.size + 1, bS, gS, Y.heap.size, w3.heap.size, W0.heap.size, go, gd, WO⟩ : FlP)) HKn.out HS.out HQn.out HM.out ho.out hx.out HWO.out (by show Kw ≤ 100; omega)
        have HSP := hide hspr
        have s2 : wr.cell? ⟨bS, 2, none⟩ = some (.slice (some ⟨gL, 0, none⟩) d.Lf.length cL) := by rw [← hvS]; exact HKn.out.sea.c2
        have s0 : wr.cell? ⟨LB, 0, none⟩ = some (.slice (some ⟨Gi, 0, none⟩) n n) := HKn.out.l0
        have s3 : wr.cell? ⟨w3.heap.size, 0, none⟩ = some (.slice (some ⟨Gd, 0, none⟩) n n) := HKn.out.d0
        have sB : w3.heap.size + 2 ≤ bS ∧ bS < W0.heap.size := HS.out.a9
        have sL : w.heap.size + 2 ≤ LB ∧ LB < Y.heap.size := HS.out.a2
        have sG : w.heap.size + 2 ≤ Gi ∧ Gi < Y.heap.size := HS.out.a1
        have sO : w.heap.size + 2 ≤ Go ∧ Go < Y.heap.size := HS.out.a3
        have sD : Y.heap.size ≤ Gd ∧ Gd < w3.heap.size := HS.out.a5
        clear hspr hvS
        gi_wp2
        refine wpIn_region_held_drew (S := (fun w' => w'.cell? ⟨bS, 2, none⟩ = some (.slice (some ⟨gL, 0, none⟩) d.Lf.length cL) ∧ w'.cell? ⟨LB, 0, none⟩ = some (.slice (some ⟨Gi, 0, none⟩) n n) ∧ w'.cell? ⟨w3.heap.size, 0, none⟩ = some (.slice (some ⟨Gd, 0, none⟩) n n))) (by kernel_rfl) (by (try dsimp only); go_keep) (fun hHeld => ?_)
        refine wpAnyHI_take (i := 0) (v := ?_) rfl (by kernel_rfl) (by kernel_rfl) (by kernel_rfl) (by kernel_rfl) (fun _ _ _ h => h) ⟨Or.inl ⟨by rfl, ?_⟩, fun _ => rfl⟩ (by assumption) ?_
        rotate_left
        · intro w hSw; (try dsimp only at hSw); go_simp; try with_reducible rfl
        simp only [Act.put, List.getElem_toArray, List.getElem_cons_zero, List.setIfInBounds_toArray, List.set_cons_zero, List.set_cons_succ]
        refine wpAnyHI_take (i := 1) (v := ?_) rfl (by kernel_rfl) (by kernel_rfl) (by kernel_rfl) (by kernel_rfl) (fun _ _ _ h => h) ⟨Or.inl ⟨by rfl, ?_⟩, fun _ => rfl⟩ (by assumption) ?_
        rotate_left
        · intro w hSw; (try dsimp only at hSw); go_simp; try with_reducible rfl
        simp only [Act.put, List.getElem_toArray, List.getElem_cons_zero, List.getElem_cons_succ, List.setIfInBounds_toArray, List.set_cons_zero, List.set_cons_succ]
        refine wpAnyHI_take (i := 2) (v := ?_) rfl (by kernel_rfl) (by kernel_rfl) (by kernel_rfl) (by kernel_rfl) (fun _ _ _ h => h) ⟨Or.inl ⟨by rfl, ?_⟩, fun _ => rfl⟩ (by assumption) ?_
        rotate_left
        · intro w hSw; (try dsimp only at hSw); go_simp; try with_reducible rfl
        simp only [Act.put, List.getElem_toArray, List.getElem_cons_zero, List.getElem_cons_succ, List.setIfInBounds_toArray, List.set_cons_zero, List.set_cons_succ]
        refine wpAnyHI_take (i := 3) (v := ?_) rfl (by kernel_rfl) (by kernel_rfl) (by kernel_rfl) (by kernel_rfl) (fun _ _ _ h => h) ⟨Or.inl ⟨by rfl, ?_⟩, fun _ => rfl⟩ (by assumption) ?_
        rotate_left
        · intro w hSw; (try dsimp only at hSw); go_simp; try with_reducible rfl
        simp only [Act.put, List.getElem_toArray, List.getElem_cons_zero, List.getElem_cons_succ, List.setIfInBounds_toArray, List.set_cons_zero, List.set_cons_succ]
        refine wpAnyHI_take (i := 4) (v := ?_) rfl (by kernel_rfl) (by kernel_rfl) (by kernel_rfl) (by kernel_rfl) (fun _ _ _ h => h) ⟨Or.inl ⟨by rfl, ?_⟩, fun _ => rfl⟩ (by assumption) ?_
        rotate_left
        · intro w hSw; (try dsimp only at hSw); go_simp; try with_reducible rfl
        simp only [Act.put, List.getElem_toArray, List.getElem_cons_zero, List.getElem_cons_succ, List.setIfInBounds_toArray, List.set_cons_zero, List.set_cons_succ]
        refine wpAnyHI_take (i := 5) (v := ?_) rfl (by kernel_rfl) (by kernel_rfl) (by kernel_rfl) (by kernel_rfl) (fun _ _ _ h => h) ⟨Or.inl ⟨by rfl, ?_⟩, fun _ => rfl⟩ (by assumption) ?_
        rotate_left
        · intro w hSw; (try dsimp only at hSw); go_simp; try with_reducible rfl
        simp only [Act.put, List.getElem_toArray, List.getElem_cons_zero, List.getElem_cons_succ, List.setIfInBounds_toArray, List.set_cons_zero, List.set_cons_succ]
        refine wpAnyHI_take (i := 6) (v := ?_) rfl (by kernel_rfl) (by kernel_rfl) (by kernel_rfl) (by kernel_rfl) (fun _ _ _ h => h) ⟨Or.inl ⟨by rfl, ?_⟩, fun _ => rfl⟩ (by assumption) ?_
        rotate_left
        · intro w hSw; (try dsimp only at hSw); go_simp; try with_reducible rfl
        simp only [Act.put, List.getElem_toArray, List.getElem_cons_zero, List.getElem_cons_succ, List.setIfInBounds_toArray, List.set_cons_zero, List.set_cons_succ]
        refine wpAnyHI_take (i := 7) (v := ?_) rfl (by kernel_rfl) (by kernel_rfl) (by kernel_rfl) (by kernel_rfl) (fun _ _ _ h => h) ⟨Or.inl ⟨by rfl, ?_⟩, fun _ => rfl⟩ (by assumption) ?_
        rotate_left
        · intro w hSw; (try dsimp only at hSw); go_simp; try with_reducible rfl
        simp only [Act.put, List.getElem_toArray, List.getElem_cons_zero, List.getElem_cons_succ, List.setIfInBounds_toArray, List.set_cons_zero, List.set_cons_succ]
        refine wpAnyHI_ready (rs := [8]) (by kernel_rfl) (by simp) ?_
        refine AllReadyHI.cons rfl (fun K hK => ?_) AllReadyHI.nil
        go_simp
        refine ⟨trivial, (callsIn_wide.2 HSP.out).mono ?_⟩
        rintro e w8 ⟨rfl, ⟨WI, hf2⟩, hlo8⟩
        have HF2 := hide hf2
        have hlo : ∀ q, q < W0.heap.size → w8.heap[q]? = wr.heap[q]? := fun q hq => hlo8 q (by omega) hq
        have u2 := (cell_of (hlo bS sB.2)).trans s2
        have u0 := (cell_of (hlo LB (by omega))).trans s0
        have u3 := (cell_of (hlo w3.heap.size (by omega))).trans s3
        clear hf2 hlo8 hlo HSP s0 s2 s3
        refine hK.out _ _ ⟨u2, u0, u3⟩ (fun hHeld => ?_)
        clear hK hHeld
        try simp only [Act.put, List.getElem_toArray, List.getElem_cons_zero, List.getElem_cons_succ, List.setIfInBounds_toArray, List.set_cons_zero, List.set_cons_succ]
        refine wpAnyHI_doneN (by kernel_rfl) ?_ _
        have v0 : w8.cell? ⟨w.heap.size, 0, none⟩ = some (.int .i64 (V : Int)) := HF2.out.f0
        clear u2 u0 u3
        gi_wp2
        refine ⟨trivial, (callsIn_wide.2 (newSet_valueNo V w8 (by omega))).mono ?_⟩
        rw [HKW.out]
        rintro e w9 ⟨gN, rfl, hgN, hb9, hr9⟩
        have HB9 := hide hb9
        have HR9 : Hid (WsAt w9 gN Kw Kw (fun _ => 0)) := hide (WsAt.of_row hr9)
        have hz89 := hb9.size
        have hz8 : W0.heap.size ≤ w8.heap.size := HF2.out.sz
        clear hb9 hr9 v0
        gi_wp2
        have hL9 : (fun x9 : World => Below w8.heap.size w8 x9 ∧ w9.heap.size < x9.heap.size ∧ x9.cell? ⟨w9.heap.size, 0, none⟩ = some (.slice (some ⟨gN, 0, none⟩) Kw Kw) ∧ Hid (WsAt x9 gN Kw Kw (fun _ => 0))) (w9.alloc (.cells #[.slice (some ⟨gN, 0, none⟩) Kw Kw] 46)) := ⟨bnext HB9.out (balloc (Below.refl _ _) _), (by simp), (by simp [go_sem]), hide (HR9.out.alloc _)⟩
        generalize w9.alloc (.cells #[.slice (some ⟨gN, 0, none⟩) Kw Kw] 46) = W2 at *
        obtain ⟨hbX, hzX, hcX, HRX⟩ := hL9
        have HBX2 := hide hbX
        have HCX := hide hcX
        have HGO : Hid (∀ i, i < n → w.heap.size + 2 ≤ go i ∧ go i < Y.heap.size) := hide (fun i hi => HS.out.a4 i hi)
        have HD4 : Hid (∀ i, i < n → go i ≠ Gi ∧ go i ≠ LB) := hide (fun i hi => HS.out.d4 i hi)
        have hzX8 := hbX.size
        clear hbX hcX
        generalize wr = wo at *
        gi_loopw [100] (fun i wr => ∃ q : Nat, q ≤ n ∧ i = .int .i64 q ∧ Hid (Fl3 (⟨w, V, n, c, Kw, K2, a, xs, Gi, LB, Go, w3.heap.size, Gd, w3.heap.size + 1, bS, gS, Y.heap.size, w3.heap.size, W0.heap.size, go, gd, WO⟩ : FlP) d.gi d.ci ds WI W2 gN wr q 0)) (fun i _ => n - (intOf i).toNat)
        case atStart => exact ⟨0, Nat.zero_le _, rfl, hide (Fl3.start HF2.out HBX2.out)⟩
        case round =>
          obtain ⟨q, hq, rfl, H3⟩ := hrel
          have hzx := H3.out.size
          by_cases hlt : q < n
          · have hqx : q < xs.length := by have := hx.out; omega
            obtain ⟨a', c', hnx, hints⟩ := HF2.out.nxs q hlt
            have kn : wr.cell? ⟨w3.heap.size + 1, q, none⟩ = some (.slice a' (tgI xs q).length c') := by
              rw [← hnx]
              exact (cell_of (H3.out.fr (w3.heap.size + 1) (by omega) (fun i hi e => by have := HGO.out i hi; have e' : w3.heap.size + 1 = go i := e; omega))).trans ((HBX2.out.cell (p := ⟨w3.heap.size + 1, q, none⟩) (by show w3.heap.size + 1 < _; omega)).trans (HF2.out.nxr.cell hlt))
            have HIN : Hid (IntsP w8 (fun b => W0.heap.size ≤ b) a' (tgI xs q)) := hide hints
            have HTL : Hid ((tgI xs q).length = (tgN xs q).length) := hide (by rw [tgI_at hqx, tgN_at hqx, List.length_map])
            have hl2 : (tgI xs q).length ≤ 2 := by rw [tgI_at hqx]; exact tg_two _
            have HTV : Hid (∀ r (h : r < (tgI xs q).length), (tgI xs q)[r] = (((tgN xs q)[r]'(by rw [← HTL.out]; exact h) : Nat) : Int) ∧ (tgN xs q)[r]'(by rw [← HTL.out]; exact h) < n) := hide (fun r h => by
              have h1 := natI_tg ho.out.okf hqx
              have h3 : r < (tgN xs q).length := by rw [← HTL.out]; exact h
              refine ⟨?_, by rw [hx.out]; exact ho.out.okf.tg q hqx _ (List.getElem_mem h3)⟩
              simp only [← h1, natI, List.getElem_map]
              rfl)
            clear hnx hints
            obtain ⟨nt, hnt⟩ : ∃ m, m = (tgI xs q).length := ⟨_, rfl⟩
            rw [← hnt] at kn hl2
            have HNT := hide hnt
            clear hnt
            gi_wp2
            clear kn
            generalize wr = wy at *
            gi_loopw [108] (fun i wr => ∃ r : Nat, r ≤ nt ∧ i = .int .i64 r ∧ Hid (Fl3 (⟨w, V, n, c, Kw, K2, a, xs, Gi, LB, Go, w3.heap.size, Gd, w3.heap.size + 1, bS, gS, Y.heap.size, w3.heap.size, W0.heap.size, go, gd, WO⟩ : FlP) d.gi d.ci ds WI W2 gN wr q r)) (fun i _ => nt - (intOf i).toNat)
            case atStart => exact ⟨0, Nat.zero_le _, rfl, H3⟩
            case round =>
              obtain ⟨r, hr, rfl, H4⟩ := hrel
              have hzx4 := H4.out.size
              by_cases hlt2 : r < nt
              · have hrl : r < (tgI xs q).length := by rw [← HNT.out]; exact hlt2
                have hrn : r < (tgN xs q).length := by rw [← HTL.out]; exact hrl
                obtain ⟨bt, ot, rfl, hbt, hct⟩ := HIN.out r hrl
                have hv := HTV.out r hrl
                rw [hv.1] at hct
                have HTE : Hid ((tgN xs q)[r] = (tgN xs q)[r]) := hide rfl
                obtain ⟨tt, htt⟩ : ∃ t, t = (tgN xs q)[r] := ⟨_, rfl⟩
                have htn : tt < n := by rw [htt]; exact hv.2
                rw [← htt] at hct
                have HTT := hide htt
                clear hv htt HTE
                have fr : ∀ (b' o' : Nat) (v : Value), b' < W2.heap.size → (∀ i, i < n → b' ≠ go i) → W2.cell? ⟨b', o', none⟩ = some v → wr.cell? ⟨b', o', none⟩ = some v := fun b' o' v h1 h2 h3 => (cell_of (H4.out.fr b' h1 h2)).trans h3
                have k1 := fr bt (ot + r) _ (by omega) (fun i hi e => by have := HGO.out i hi; omega) ((HBX2.out.cell (p := ⟨bt, ot + r, none⟩) hbt.2).trans hct)
                have kl1 : wr.cell? ⟨LB, 1, none⟩ = some (.slice (some ⟨Go, 0, none⟩) n n) := fr LB 1 _ (by omega) (fun i hi e => (HD4.out i hi).2 e.symm) ((HBX2.out.cell (p := ⟨LB, 1, none⟩) (by show LB < _; omega)).trans HF2.out.l1)
                have kl0 : wr.cell? ⟨LB, 0, none⟩ = some (.slice (some ⟨Gi, 0, none⟩) n n) := fr LB 0 _ (by omega) (fun i hi e => (HD4.out i hi).2 e.symm) ((HBX2.out.cell (p := ⟨LB, 0, none⟩) (by show LB < _; omega)).trans HF2.out.l0)
                have kgo : wr.cell? ⟨Go, q, none⟩ = some (.slice (some ⟨go q, 0, none⟩) Kw Kw) := H4.out.out.row.cell hlt
                have kgi : wr.cell? ⟨Gi, tt, none⟩ = some (.slice (some ⟨d.gi tt, 0, none⟩) Kw (d.ci tt)) := fr Gi tt _ (by omega) (fun i hi e => (HD4.out i hi).1 e.symm) ((HBX2.out.cell (p := ⟨Gi, tt, none⟩) (by show Gi < _; omega)).trans (HF2.out.inn.row.cell htn))
                have kx : wr.cell? ⟨w9.heap.size, 0, none⟩ = some (.slice (some ⟨gN, 0, none⟩) Kw Kw) := fr w9.heap.size 0 _ (by omega) (fun i hi e => by have := HGO.out i hi; omega) HCX.out
                have hgM : W0.heap.size ≤ d.gi tt := HF2.out.igM tt htn
                have hgl : d.gi tt < w8.heap.size := (HF2.out.inn.set tt htn).lt
                have HGI4 : Hid (WsAt wr (d.gi tt) Kw (d.ci tt) (WI tt)) := hide ((HF2.out.inn.set tt htn).of_block ((H4.out.fr (d.gi tt) (by omega) (fun i hi e => by have := HGO.out i hi; have e' : d.gi tt = go i := e; omega)).trans (HBX2.out.block _ hgl)))
                have HGN4 : Hid (WsAt wr gN Kw Kw (fun _ => 0)) := hide (HRX.out.of_block (H4.out.fr gN (by have := HRX.out.lt; omega) (fun i hi e => by have := HGO.out i hi; have e' : gN = go i := e; omega)))
                have HGO4 : Hid (WsAt wr (go q) Kw Kw (outX xs WI WO q r q)) := hide (H4.out.out.set q hlt)
                have hgq := HGO.out q hlt
                have HAB := hide (addBut_valueNo (go q) (d.gi tt) gN Kw Kw (d.ci tt) Kw (outX xs WI WO q r q) (WI tt) (fun _ => 0) wr.drew (hide (outX_wd HF2.out.wi HWO.out q r q)) (hide (HF2.out.wi tt)) (hide wd_zero) (by omega) (hide HGO4.out.drew) (hide HGI4.out.drew) (hide HGN4.out.drew) (by omega) (hide (fun e => by omega)))
                clear fr hct
                gi_wp2
                refine wpIn_region_held_drew (S := (fun w' => w'.cell? ⟨LB, 1, none⟩ = some (.slice (some ⟨Go, 0, none⟩) n n) ∧ w'.cell? ⟨Go, q, none⟩ = some (.slice (some ⟨go q, 0, none⟩) Kw Kw) ∧ w'.cell? ⟨LB, 0, none⟩ = some (.slice (some ⟨Gi, 0, none⟩) n n) ∧ w'.cell? ⟨Gi, tt, none⟩ = some (.slice (some ⟨d.gi tt, 0, none⟩) Kw (d.ci tt)) ∧ w'.cell? ⟨w9.heap.size, 0, none⟩ = some (.slice (some ⟨gN, 0, none⟩) Kw Kw))) (by kernel_rfl) (by (try dsimp only); go_keep) (fun hHeld => ?_)
                refine wpAnyHI_take (i := 0) (v := ?_) rfl (by kernel_rfl) (by kernel_rfl) (by kernel_rfl) (by kernel_rfl) (fun _ _ _ h => h) ⟨Or.inl ⟨by rfl, ?_⟩, fun _ => rfl⟩ (by assumption) ?_
                rotate_left
                · intro w hSw; (try dsimp only at hSw); go_simp; try with_reducible rfl
                simp only [Act.put, List.getElem_toArray, List.getElem_cons_zero, List.setIfInBounds_toArray, List.set_cons_zero, List.set_cons_succ]
                refine wpAnyHI_take (i := 1) (v := ?_) rfl (by kernel_rfl) (by kernel_rfl) (by kernel_rfl) (by kernel_rfl) (fun _ _ _ h => h) ⟨Or.inl ⟨by rfl, ?_⟩, fun _ => rfl⟩ (by assumption) ?_
                rotate_left
                · intro w hSw; (try dsimp only at hSw); go_simp; try with_reducible rfl
                simp only [Act.put, List.getElem_toArray, List.getElem_cons_zero, List.getElem_cons_succ, List.setIfInBounds_toArray, List.set_cons_zero, List.set_cons_succ]
                refine wpAnyHI_take (i := 2) (v := ?_) rfl (by kernel_rfl) (by kernel_rfl) (by kernel_rfl) (by kernel_rfl) (fun _ _ _ h => h) ⟨Or.inl ⟨by rfl, ?_⟩, fun _ => rfl⟩ (by assumption) ?_
                rotate_left
                · intro w hSw; (try dsimp only at hSw); go_simp; try with_reducible rfl
                simp only [Act.put, List.getElem_toArray, List.getElem_cons_zero, List.getElem_cons_succ, List.setIfInBounds_toArray, List.set_cons_zero, List.set_cons_succ]
                refine wpAnyHI_take (i := 3) (v := ?_) rfl (by kernel_rfl) (by kernel_rfl) (by kernel_rfl) (by kernel_rfl) (fun _ _ _ h => h) ⟨Or.inl ⟨by rfl, ?_⟩, fun _ => rfl⟩ (by assumption) ?_
                rotate_left
                · intro w hSw; (try dsimp only at hSw); go_simp; try with_reducible rfl
                simp only [Act.put, List.getElem_toArray, List.getElem_cons_zero, List.getElem_cons_succ, List.setIfInBounds_toArray, List.set_cons_zero, List.set_cons_succ]
                refine wpAnyHI_take (i := 4) (v := ?_) rfl (by kernel_rfl) (by kernel_rfl) (by kernel_rfl) (by kernel_rfl) (fun _ _ _ h => h) ⟨Or.inl ⟨by rfl, ?_⟩, fun _ => rfl⟩ (by assumption) ?_
                rotate_left
                · intro w hSw; (try dsimp only at hSw); go_simp; try with_reducible rfl
                simp only [Act.put, List.getElem_toArray, List.getElem_cons_zero, List.getElem_cons_succ, List.setIfInBounds_toArray, List.set_cons_zero, List.set_cons_succ]
                refine wpAnyHI_take (i := 5) (v := ?_) rfl (by kernel_rfl) (by kernel_rfl) (by kernel_rfl) (by kernel_rfl) (fun _ _ _ h => h) ⟨Or.inl ⟨by rfl, ?_⟩, fun _ => rfl⟩ (by assumption) ?_
                rotate_left
                · intro w hSw; (try dsimp only at hSw); go_simp; try with_reducible rfl
                simp only [Act.put, List.getElem_toArray, List.getElem_cons_zero, List.getElem_cons_succ, List.setIfInBounds_toArray, List.set_cons_zero, List.set_cons_succ]
                refine wpAnyHI_take (i := 6) (v := ?_) rfl (by kernel_rfl) (by kernel_rfl) (by kernel_rfl) (by kernel_rfl) (fun _ _ _ h => h) ⟨Or.inl ⟨by rfl, ?_⟩, fun _ => rfl⟩ (by assumption) ?_
                rotate_left
                · intro w hSw; (try dsimp only at hSw); go_simp; try with_reducible rfl
                simp only [Act.put, List.getElem_toArray, List.getElem_cons_zero, List.getElem_cons_succ, List.setIfInBounds_toArray, List.set_cons_zero, List.set_cons_succ]
                refine wpAnyHI_take (i := 7) (v := ?_) rfl (by kernel_rfl) (by kernel_rfl) (by kernel_rfl) (by kernel_rfl) (fun _ _ _ h => h) ⟨Or.inl ⟨by rfl, ?_⟩, fun _ => rfl⟩ (by assumption) ?_
                rotate_left
                · intro w hSw; (try dsimp only at hSw); go_simp; try with_reducible rfl
                simp only [Act.put, List.getElem_toArray, List.getElem_cons_zero, List.getElem_cons_succ, List.setIfInBounds_toArray, List.set_cons_zero, List.set_cons_succ]
                refine wpAnyHI_take (i := 8) (v := ?_) rfl (by kernel_rfl) (by kernel_rfl) (by kernel_rfl) (by kernel_rfl) (fun _ _ _ h => h) ⟨Or.inl ⟨by rfl, ?_⟩, fun _ => rfl⟩ (by assumption) ?_
                rotate_left
                · intro w hSw; (try dsimp only at hSw); go_simp; try with_reducible rfl
                simp only [Act.put, List.getElem_toArray, List.getElem_cons_zero, List.getElem_cons_succ, List.setIfInBounds_toArray, List.set_cons_zero, List.set_cons_succ]
                refine wpAnyHI_take (i := 9) (v := ?_) rfl (by kernel_rfl) (by kernel_rfl) (by kernel_rfl) (by kernel_rfl) (fun _ _ _ h => h) ⟨Or.inl ⟨by rfl, ?_⟩, fun _ => rfl⟩ (by assumption) ?_
                rotate_left
                · intro w hSw; (try dsimp only at hSw); go_simp; try with_reducible rfl
                simp only [Act.put, List.getElem_toArray, List.getElem_cons_zero, List.getElem_cons_succ, List.setIfInBounds_toArray, List.set_cons_zero, List.set_cons_succ]
                refine wpAnyHI_take (i := 10) (v := ?_) rfl (by kernel_rfl) (by kernel_rfl) (by kernel_rfl) (by kernel_rfl) (fun _ _ _ h => h) ⟨Or.inl ⟨by rfl, ?_⟩, fun _ => rfl⟩ (by assumption) ?_
                rotate_left
                · intro w hSw; (try dsimp only at hSw); go_simp; try with_reducible rfl
                simp only [Act.put, List.getElem_toArray, List.getElem_cons_zero, List.getElem_cons_succ, List.setIfInBounds_toArray, List.set_cons_zero, List.set_cons_succ]
                refine wpAnyHI_ready (rs := [11]) (by kernel_rfl) (by simp) ?_
                refine AllReadyHI.cons rfl (fun K hK => ?_) AllReadyHI.nil
                go_simp
                refine ⟨trivial, (callsIn_wide.2 HAB.out).mono ?_⟩
                rintro e wz ⟨rfl, kz', hwz⟩
                have kz : wr.grownBy wz (some (go q)) := ⟨kz'.os, kz'.tape, kz'.output, kz'.size, kz'.block⟩
                have H5 : Hid (Fl3 (⟨w, V, n, c, Kw, K2, a, xs, Gi, LB, Go, w3.heap.size, Gd, w3.heap.size + 1, bS, gS, Y.heap.size, w3.heap.size, W0.heap.size, go, gd, WO⟩ : FlP) d.gi d.ci ds WI W2 gN wz q (r + 1)) := hide (H4.out.next hlt hrn kz (by show WsAt wz (go q) Kw Kw (butN (outX xs WI WO q r q) (WI (tgN xs q)[r]) (fun _ => 0)); rw [← HTT.out]; exact hwz))
                have q1 : ∀ (b' o' : Nat) (v : Value), b' ≠ go q → wr.cell? ⟨b', o', none⟩ = some v → wz.cell? ⟨b', o', none⟩ = some v := fun b' o' v h1 h2 => (cell_of (kz.block b' (World.block_lt_of_cell? wr _ h2) (fun e => h1 (by injection e)))).trans h2
                have l1 := q1 _ _ _ (fun e => (HD4.out q hlt).2 e.symm) kl1
                have l0 := q1 _ _ _ (fun e => (HD4.out q hlt).2 e.symm) kl0
                have lgo := q1 _ _ _ (fun e => H4.out.out.out q hlt e.symm) kgo
                have lgi := q1 _ _ _ (fun e => (HD4.out q hlt).1 e.symm) kgi
                have lx := q1 _ _ _ (by omega) kx
                clear kz kz' hwz q1 HAB k1 kl1 kl0 kgo kgi kx
                refine hK.out _ _ ⟨l1, lgo, l0, lgi, lx⟩ (fun hHeld => ?_)
                clear hK hHeld
                try simp only [Act.put, List.getElem_toArray, List.getElem_cons_zero, List.getElem_cons_succ, List.setIfInBounds_toArray, List.set_cons_zero, List.set_cons_succ]
                refine wpAnyHI_doneN (by kernel_rfl) ?_ _
                clear l1 lgo l0 lgi lx
                gi_wp2
                exact ⟨⟨r + 1, by omega, by go_num, H5⟩, by simp [intOf]; omega⟩
              · have hre : r = nt := by omega
                gi_wp2
                exact ⟨⟨q + 1, by omega, by go_num, hide (H4.out.row (by show (tgN xs q).length ≤ r; rw [hre, HNT.out, HTL.out]; exact Nat.le_refl _))⟩, by simp [intOf]; omega⟩
          · have hqe : q = n := by omega
            have H6 : Hid (Fl3 (⟨w, V, n, c, Kw, K2, a, xs, Gi, LB, Go, w3.heap.size, Gd, w3.heap.size + 1, bS, gS, Y.heap.size, w3.heap.size, W0.heap.size, go, gd, WO⟩ : FlP) d.gi d.ci ds WI W2 gN wr n 0) := hide (by have h := H3.out; rw [hqe] at h; exact h)
            have fr : ∀ (b' : Nat), b' < W2.heap.size → (∀ i, i < n → b' ≠ go i) → wr.heap[b']? = W2.heap[b']? := fun b' h1 h2 => H6.out.fr b' h1 h2
            have frL := (fr LB (by omega) (fun i hi e => (HD4.out i hi).2 e.symm)).trans (HBX2.out.block LB (by omega))
            have frR := (fr (w.heap.size + 1) (by omega) (fun i hi e => by have := HGO.out i hi; omega)).trans (HBX2.out.block (w.heap.size + 1) (by omega))
            have kl0 : wr.cell? ⟨LB, 0, none⟩ = some (.slice (some ⟨Gi, 0, none⟩) n n) := (cell_of frL).trans HF2.out.l0
            have kl1 : wr.cell? ⟨LB, 1, none⟩ = some (.slice (some ⟨Go, 0, none⟩) n n) := (cell_of frL).trans HF2.out.l1
            have kr0 : wr.cell? ⟨w.heap.size + 1, 0, none⟩ = some (.slice none 0 0) := (cell_of frR).trans HF2.out.r0
            have kr1 : wr.cell? ⟨w.heap.size + 1, 1, none⟩ = some (.slice none 0 0) := (cell_of frR).trans HF2.out.r1
            have krz : ∀ o', wr.frozen? ⟨w.heap.size + 1, o', none⟩ = false := fun o' => by rw [World.frozen?_of_block (a := ⟨w.heap.size + 1, o', none⟩) frR]; exact HF2.out.rz o'
            have kr1' : ∀ u, (wr.setCell ⟨w.heap.size + 1, 0, none⟩ u).cell? ⟨w.heap.size + 1, 1, none⟩ = some (.slice none 0 0) := fun u => (World.cell?_setCell_other _ _ _ _ (by simp)).trans kr1
            have HMX : Hid (∀ D ∈ ds, wr.heap[D]? = some (.deferred (some []))) := hide (fun D hD => by
              have h1 := HF2.out.mks.obj D hD
              have h2 : W0.heap.size ≤ D := HF2.out.mks.ge D hD
              have h3 : D < w8.heap.size := (Array.getElem?_eq_some_iff.1 h1).1
              exact (fr D (by omega) (fun i hi e => by have := HGO.out i hi; omega)).trans ((HBX2.out.block D h3).trans h1))
            have hzr6 := H6.out.size
            have hlr : w.heap.size + 1 < wr.heap.size := by omega
            clear fr frL frR
            gi_wp2
            have hL9 : (fun x9 : World => x9.cell? ⟨w.heap.size + 1, 0, none⟩ = some (.slice (some ⟨Gi, 0, none⟩) n n) ∧ x9.cell? ⟨w.heap.size + 1, 1, none⟩ = some (.slice (some ⟨Go, 0, none⟩) n n) ∧ (∀ q', q' ≠ w.heap.size + 1 → x9.heap[q']? = wr.heap[q']?) ∧ x9.heap.size = wr.heap.size ∧ (x9.os = wr.os ∧ x9.tape = wr.tape ∧ x9.output = wr.output)) ((wr.setCell ⟨w.heap.size + 1, 0, none⟩ (.slice (some ⟨Gi, 0, none⟩) n n)).setCell ⟨w.heap.size + 1, 1, none⟩ (.slice (some ⟨Go, 0, none⟩) n n)) := ⟨((World.cell?_setCell_other _ _ _ _ (by simp)).trans (World.cell?_setCell_same' wr _ _ (by rw [kr0]; rfl))), (World.cell?_setCell_same' _ _ _ (by rw [kr1']; rfl)), (fun q' h1 => (Below.heap_setCell _ _ _ _ h1).trans (Below.heap_setCell _ _ _ _ h1)), (by rw [size_setCell, size_setCell]), ⟨rfl, rfl, rfl⟩⟩
            generalize (wr.setCell ⟨w.heap.size + 1, 0, none⟩ (.slice (some ⟨Gi, 0, none⟩) n n)).setCell ⟨w.heap.size + 1, 1, none⟩ (.slice (some ⟨Go, 0, none⟩) n n) = wE at *
            obtain ⟨ec0, ec1, eb, ez, ee⟩ := hL9
            have HEZ := hide ez
            have hMge : ∀ D ∈ ds, W0.heap.size ≤ D := fun D hD => HF2.out.mks.ge D hD
            have HMG := hide hMge
            clear kl0 kl1 kr0 kr1 krz kr1' ez hMge
            refine leaves_mks' (B := W0.heap.size) ds wE ⟨HF2.out.mks.nd, HMG.out, fun D hD => (eb D (by have := HMG.out D hD; omega)).trans (HMX.out D hD)⟩ (fun W' h1 h2 h3 h4 h5 => ?_)
            have hnd : w.heap.size + 1 ∉ ds := fun h => by have := HMG.out _ h; omega
            have c0' : W'.cell? ⟨w.heap.size + 1, 0, none⟩ = some (.slice (some ⟨Gi, 0, none⟩) n n) := (cell_of (h5 _ hnd)).trans ec0
            have c1' : W'.cell? ⟨w.heap.size + 1, 1, none⟩ = some (.slice (some ⟨Go, 0, none⟩) n n) := (cell_of (h5 _ hnd)).trans ec1
            refine ⟨.agg #[.slice (some ⟨Gi, 0, none⟩) n n, .slice (some ⟨Go, 0, none⟩) n n], ?_, Gi, Go, d.gi, go, d.ci, WI, outX xs WI WO n 0, rfl, ?_⟩
            · simp [results, Tryd.results17, go_sem, c0', c1']
            · have hr := Fl3.res (p := (⟨w, V, n, c, Kw, K2, a, xs, Gi, LB, Go, w3.heap.size, Gd, w3.heap.size + 1, bS, gS, Y.heap.size, w3.heap.size, W0.heap.size, go, gd, WO⟩ : FlP)) (w' := W') H6.out HF2.out HS.out HBX2.out hx.out HWO.out HWH.out (fun q' q1 q2 q3 => (h5 q' (fun h => ?_)).trans (eb q' q2)) (h1.trans ee.1) (h2.trans ee.2.1) (h3.trans ee.2.2) (by have := HEZ.out; omega)
              · rw [HKW.out]; exact hr
              · rcases q3 with q3 | ⟨i, hi, e⟩
                · have h6 := HMG.out q' h
                  have q3' : q' < W0.heap.size := q3
                  omega
                · have h6 := HF2.out.mks.obj q' h
                  obtain ⟨ob, h7, h8⟩ := (HF2.out.inn.set i hi).obj
                  rw [← e, h6] at h7
                  injection h7 with h7
                  rw [← h7] at h8
                  cases h8
)
  clear HKc
  have F : FvS w w1 w1.drew V a n c Kw xs none none none := ⟨(Below.refl _ _).drew, hf0, hf1, by omega, nofun, nofun, nofun, nofun, nofun, nofun⟩
  refine wpIn_region_held_drew (S := (fun w' => w'.cell? ⟨w.heap.size, 0, none⟩ = some (.int .i64 (V : Int)) ∧ w'.cell? ⟨w.heap.size, 1, none⟩ = some (.slice a n c))) (by kernel_rfl) (by (try dsimp only); go_keep) (fun hHeld => ?_)
  generalize w1.drew = wd at *
  refine wpAnyHI_take (i := 0) (v := ?_) rfl (by kernel_rfl) (by kernel_rfl) (by kernel_rfl) (by kernel_rfl) (fun _ _ _ h => h) ⟨Or.inl ⟨by rfl, ?_⟩, fun _ => rfl⟩ (by assumption) ?_
  rotate_left
  · intro w hSw; (try dsimp only at hSw); go_simp; try with_reducible rfl
  simp only [Act.put, List.getElem_toArray, List.getElem_cons_zero, List.setIfInBounds_toArray, List.set_cons_zero, List.set_cons_succ]
  refine wpAnyHI_take (i := 2) (v := ?_) rfl (by kernel_rfl) (by kernel_rfl) (by kernel_rfl) (by kernel_rfl) (fun _ _ _ h => h) ⟨Or.inl ⟨by rfl, ?_⟩, fun _ => rfl⟩ (by assumption) ?_
  rotate_left
  · intro w hSw; (try dsimp only at hSw); go_simp; try with_reducible rfl
  simp only [Act.put, List.getElem_toArray, List.getElem_cons_zero, List.getElem_cons_succ, List.setIfInBounds_toArray, List.set_cons_zero, List.set_cons_succ]
  refine wpAnyHI_ready (rs := [1, 3, 5]) (by kernel_rfl) (by simp) (AllReadyHI.cons rfl (fun K hK => ?_) (AllReadyHI.cons rfl (fun K hK => ?_) (AllReadyHI.cons rfl (fun K hK => ?_) AllReadyHI.nil)))
  all_goals
    go_simp
    first
      | refine F.mkS (K := K) fun Y F => ?_
      | refine F.lbS (K := K) fun Y F => ?_
      | (refine ⟨trivial, (callsIn_wide.2 (F.caS (HPH.out _ F.low))).mono ?_⟩; rintro e Y ⟨Go, go, WO, rfl, F⟩)
    refine hK.out _ _ F.kp (fun hHeld => ?_)
    clear hK
    try simp only [Act.put, List.getElem_toArray, List.getElem_cons_zero, List.getElem_cons_succ, List.setIfInBounds_toArray, List.set_cons_zero, List.set_cons_succ]
  refine wpAnyHI_ready (rs := [3, 5]) (by kernel_rfl) (by simp) (AllReadyHI.cons rfl (fun K hK => ?_) (AllReadyHI.cons rfl (fun K hK => ?_) AllReadyHI.nil))
  rotate_left 2
  refine wpAnyHI_ready (rs := [1, 5]) (by kernel_rfl) (by simp) (AllReadyHI.cons rfl (fun K hK => ?_) (AllReadyHI.cons rfl (fun K hK => ?_) AllReadyHI.nil))
  rotate_left 2
  refine wpAnyHI_ready (rs := [1, 3]) (by kernel_rfl) (by simp) (AllReadyHI.cons rfl (fun K hK => ?_) (AllReadyHI.cons rfl (fun K hK => ?_) AllReadyHI.nil))
  all_goals
    go_simp
    first
      | refine F.mkS (K := K) fun Y F => ?_
      | refine F.lbS (K := K) fun Y F => ?_
      | (refine ⟨trivial, (callsIn_wide.2 (F.caS (HPH.out _ F.low))).mono ?_⟩; rintro e Y ⟨Go, go, WO, rfl, F⟩)
    refine hK.out _ _ F.kp (fun hHeld => ?_)
    clear hK
    try simp only [Act.put, List.getElem_toArray, List.getElem_cons_zero, List.getElem_cons_succ, List.setIfInBounds_toArray, List.set_cons_zero, List.set_cons_succ]
  refine wpAnyHI_ready (rs := [3]) (by kernel_rfl) (by simp) (AllReadyHI.cons rfl (fun K hK => ?_) AllReadyHI.nil)
  rotate_left
  refine wpAnyHI_ready (rs := [1]) (by kernel_rfl) (by simp) (AllReadyHI.cons rfl (fun K hK => ?_) AllReadyHI.nil)
  rotate_left
  refine wpAnyHI_take (i := 4) (v := ?_) rfl (by kernel_rfl) (by kernel_rfl) (by kernel_rfl) (by kernel_rfl) (fun _ _ _ h => h) ⟨Or.inl ⟨by rfl, ?_⟩, fun _ => rfl⟩ (by assumption) ?_
  rotate_left
  · intro w hSw; (try dsimp only at hSw); go_simp; try with_reducible rfl
  simp only [Act.put, List.getElem_toArray, List.getElem_cons_zero, List.getElem_cons_succ, List.setIfInBounds_toArray, List.set_cons_zero, List.set_cons_succ]
  refine wpAnyHI_ready (rs := [5]) (by kernel_rfl) (by simp) (AllReadyHI.cons rfl (fun K hK => ?_) AllReadyHI.nil)
  rotate_left
  refine wpAnyHI_ready (rs := [3]) (by kernel_rfl) (by simp) (AllReadyHI.cons rfl (fun K hK => ?_) AllReadyHI.nil)
  rotate_left
  refine wpAnyHI_take (i := 4) (v := ?_) rfl (by kernel_rfl) (by kernel_rfl) (by kernel_rfl) (by kernel_rfl) (fun _ _ _ h => h) ⟨Or.inl ⟨by rfl, ?_⟩, fun _ => rfl⟩ (by assumption) ?_
  rotate_left
  · intro w hSw; (try dsimp only at hSw); go_simp; try with_reducible rfl
  simp only [Act.put, List.getElem_toArray, List.getElem_cons_zero, List.getElem_cons_succ, List.setIfInBounds_toArray, List.set_cons_zero, List.set_cons_succ]
  refine wpAnyHI_ready (rs := [5]) (by kernel_rfl) (by simp) (AllReadyHI.cons rfl (fun K hK => ?_) AllReadyHI.nil)
  rotate_left
  refine wpAnyHI_ready (rs := [1]) (by kernel_rfl) (by simp) (AllReadyHI.cons rfl (fun K hK => ?_) AllReadyHI.nil)
  rotate_left
  all_goals
    go_simp
    first
      | refine F.mkS (K := K) fun Y F => ?_
      | refine F.lbS (K := K) fun Y F => ?_
      | (refine ⟨trivial, (callsIn_wide.2 (F.caS (HPH.out _ F.low))).mono ?_⟩; rintro e Y ⟨Go, go, WO, rfl, F⟩)
    refine hK.out _ _ F.kp (fun hHeld => ?_)
    clear hK
    try simp only [Act.put, List.getElem_toArray, List.getElem_cons_zero, List.getElem_cons_succ, List.setIfInBounds_toArray, List.set_cons_zero, List.set_cons_succ]
  refine wpAnyHI_take (i := 4) (v := ?_) rfl (by kernel_rfl) (by kernel_rfl) (by kernel_rfl) (by kernel_rfl) (fun _ _ _ h => h) ⟨Or.inl ⟨by rfl, ?_⟩, fun _ => rfl⟩ (by assumption) ?_
  rotate_left
  · intro w hSw; (try dsimp only at hSw); go_simp; try with_reducible rfl
  simp only [Act.put, List.getElem_toArray, List.getElem_cons_zero, List.getElem_cons_succ, List.setIfInBounds_toArray, List.set_cons_zero, List.set_cons_succ]
  rotate_left
  refine wpAnyHI_take (i := 4) (v := ?_) rfl (by kernel_rfl) (by kernel_rfl) (by kernel_rfl) (by kernel_rfl) (fun _ _ _ h => h) ⟨Or.inl ⟨by rfl, ?_⟩, fun _ => rfl⟩ (by assumption) ?_
  rotate_left
  · intro w hSw; (try dsimp only at hSw); go_simp; try with_reducible rfl
  simp only [Act.put, List.getElem_toArray, List.getElem_cons_zero, List.getElem_cons_succ, List.setIfInBounds_toArray, List.set_cons_zero, List.set_cons_succ]
  rotate_left
  rotate_left
  refine wpAnyHI_take (i := 4) (v := ?_) rfl (by kernel_rfl) (by kernel_rfl) (by kernel_rfl) (by kernel_rfl) (fun _ _ _ h => h) ⟨Or.inl ⟨by rfl, ?_⟩, fun _ => rfl⟩ (by assumption) ?_
  rotate_left
  · intro w hSw; (try dsimp only at hSw); go_simp; try with_reducible rfl
  simp only [Act.put, List.getElem_toArray, List.getElem_cons_zero, List.getElem_cons_succ, List.setIfInBounds_toArray, List.set_cons_zero, List.set_cons_succ]
  rotate_left
  rotate_left
  refine wpAnyHI_take (i := 4) (v := ?_) rfl (by kernel_rfl) (by kernel_rfl) (by kernel_rfl) (by kernel_rfl) (fun _ _ _ h => h) ⟨Or.inl ⟨by rfl, ?_⟩, fun _ => rfl⟩ (by assumption) ?_
  rotate_left
  · intro w hSw; (try dsimp only at hSw); go_simp; try with_reducible rfl
  simp only [Act.put, List.getElem_toArray, List.getElem_cons_zero, List.getElem_cons_succ, List.setIfInBounds_toArray, List.set_cons_zero, List.set_cons_succ]
  rotate_left
  all_goals
    refine wpAnyHI_ready (rs := [6]) (by kernel_rfl) (by simp) ?_
    refine AllReadyHI.cons rfl (fun K hK => ?_) AllReadyHI.nil
    obtain ⟨l0, l1, lz, l2⟩ := F.lbc
    go_simp
    clear l0 l1 lz l2
    have A := F.fin HW1.out HZ0.out HR0.out HR1.out HRZ.out
    refine hK.out _ _ ⟨A.f0, A.f1⟩ (fun hHeld => ?_)
    clear hK
    refine wpAnyHI_doneN (by kernel_rfl) ?_ _
    exact KEY.out _ _ _ _ _ _ A
end
end Go.Proofs.YtanaeindldcapaaDoor
