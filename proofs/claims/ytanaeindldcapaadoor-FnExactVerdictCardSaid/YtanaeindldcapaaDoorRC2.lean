import Derived.Test.YtanaeindldcapaaDoorDF1
namespace Go.Proofs.YtanaeindldcapaaDoor
open Go.RowKit
theorem own_e (w : World) (o : Obj) : ((w.alloc o).alloc (.cells #[] 2)).ownsRow (w.heap.size + 1) 2 1 (.slice (some ⟨w.heap.size + 1, 0, none⟩) 0 0) 0 [] := by
  have h := World.ownsRow_lit (base := w.heap.size + 1) (e := 2) (size := 1) (w.alloc o) #[] 0 (by simp) (by simp) rfl
  rw [World.size_alloc] at h
  exact h
/-- One block of F is being looked through: F' has grown out of F, the first q of its targets have been met. -/
structure RcJ (tg : Nat → List Nat) (n : Nat) (z : Int) (F F' : List Nat) (i q : Nat) (ts : List Int) : Prop where
  pre : ∃ E, F' = F ++ E
  nd : F'.Nodup
  av : ∀ x ∈ F', AvZ tg z x
  lt : ∀ x ∈ F', x < n
  now : ∀ k (h : k < ts.length), k < q → ts[k] ≠ z → ts[k] = 0 ∨ ts[k].toNat ∈ F'
theorem rcj_start {tg : Nat → List Nat} {n : Nat} {z : Int} {F : List Nat} {i : Nat} {ts : List Int} (h : RcI tg n z F i) : RcJ tg n z F F i 0 ts := ⟨⟨[], by simp⟩, h.nd, h.av, h.lt, fun k _ hk => absurd hk (by omega)⟩
theorem rcj_skip {tg : Nat → List Nat} {n : Nat} {z : Int} {F F' : List Nat} {i q : Nat} {ts : List Int} (h : RcJ tg n z F F' i q ts) (hq : q < ts.length) (hs : ts[q] = z ∨ ts[q] = 0 ∨ ts[q].toNat ∈ F') : RcJ tg n z F F' i (q + 1) ts := ⟨h.pre, h.nd, h.av, h.lt, fun k hk hkq hne => by
  by_cases e : k = q
  · subst e
    rcases hs with h1 | h1 | h1
    · exact absurd h1 hne
    · exact Or.inl h1
    · exact Or.inr h1
  · exact h.now k hk (by omega) hne⟩
theorem rcj_take {tg : Nat → List Nat} {n : Nat} {z : Int} {F F' : List Nat} {i q t : Nat} {ts : List Int} (h : RcJ tg n z F F' i q ts) (hq : q < ts.length) (ht : ts[q] = t) (htn : t < n) (hz : (t : Int) ≠ z) (hn : t ∉ F') (hi : i < F.length) (htg : t ∈ tg F[i]) : RcJ tg n z F (F' ++ [t]) i (q + 1) ts := by
  obtain ⟨E, e⟩ := h.pre
  refine ⟨⟨E ++ [t], by rw [e, List.append_assoc]⟩, ?_, fun x hx => ?_, fun x hx => ?_, fun k hk hkq hne => ?_⟩
  · rw [List.nodup_append]
    exact ⟨h.nd, by simp, fun x hx y hy e2 => hn (by
      have : y = t := by simpa using hy
      rw [← this, ← e2]
      exact hx)⟩
  · rcases List.mem_append.1 hx with h1 | h1
    · exact h.av x h1
    · have : x = t := by simpa using h1
      rw [this]
      exact AvZ.step (h.av F[i] (by rw [e]; exact List.mem_append_left _ (List.getElem_mem hi))) htg hz
  · rcases List.mem_append.1 hx with h1 | h1
    · exact h.lt x h1
    · have : x = t := by simpa using h1
      omega
  · by_cases e2 : k = q
    · subst e2
      exact Or.inr (by rw [ht]; simp)
    · rcases h.now k hk (by omega) hne with h1 | h1
      · exact Or.inl h1
      · exact Or.inr (List.mem_append_left _ h1)
theorem rcj_done {tg : Nat → List Nat} {n : Nat} {z : Int} {F F' : List Nat} {i q : Nat} {ts : List Int} (h : RcJ tg n z F F' i q ts) (hI : RcI tg n z F i) (hz : z ≠ 0) (hi : i < F.length) (hq : ts.length ≤ q) (htg : tg F[i] = ts.map Int.toNat) (h0 : ∀ t ∈ ts, 0 ≤ t) : RcI tg n z F' (i + 1) := by
  obtain ⟨E, e⟩ := h.pre
  have hmem : ∀ x ∈ F, x ∈ F' := fun x hx => by rw [e]; exact List.mem_append_left _ hx
  refine ⟨h.nd, h.av, h.lt, fun hz' => hmem 0 (hI.root hz'), fun hz' => absurd hz' hz, fun k hk hki t ht hne => ?_⟩
  have hkF : k < F.length := by omega
  have ek : F'[k] = F[k] := by
    have h3 : F'[k]? = (F ++ E)[k]? := by rw [e]
    rw [List.getElem?_eq_getElem hk, List.getElem?_append_left hkF, List.getElem?_eq_getElem hkF] at h3
    injection h3
  rw [ek] at ht
  by_cases e2 : k = i
  · subst e2
    rw [htg] at ht
    obtain ⟨y, hy, rfl⟩ := List.mem_map.1 ht
    obtain ⟨j, hj, rfl⟩ := List.getElem_of_mem hy
    have hy0 := h0 _ hy
    rcases h.now j hj (by omega) (fun e3 => hne (by omega)) with h1 | h1
    · exact Or.inl (by rw [h1]; rfl)
    · exact Or.inr h1
  · rcases hI.cl k hkF (by omega) t ht hne with h1 | h1
    · exact Or.inl h1
    · exact Or.inr (hmem t h1)
theorem row_seen0 (w : World) (n : Nat) (hn : 0 < n) : (w.alloc (.cells ((madeCells #[.bool false] n).setIfInBounds 0 (.bool true)) 4)).rowIs w.heap.size 4 n (fun x => .bool (decide (x = 0 ∨ x ∈ [0]))) := by
  have h := World.rowIs_alloc w ((madeCells #[.bool false] n).setIfInBounds 0 (.bool true)) 4 (fun x => .bool (decide (x = 0 ∨ x ∈ [0]))) (fun i hi => by
    rw [Array.size_setIfInBounds, size_madeCells] at hi
    rw [Array.getElem?_setIfInBounds]
    by_cases e : 0 = i
    · subst e; simp [hn, size_madeCells]
    · have e' : ¬ i = 0 := fun h => e h.symm
      have e1 : i % 1 = 0 := Nat.mod_one i
      simp [e, e', madeCells, hi, e1])
  rw [Array.size_setIfInBounds, size_madeCells] at h
  exact h
set_option maxHeartbeats 2000000 in
set_option maxRecDepth 100000 in
theorem reach_any (vl : Int) (a : Option Addr) (n c : Nat) (z : Int) (xs : List Blk) (L B : Nat) (w : World) (ha : Hid (BlksAt w L B a xs)) (hx : Hid (n = xs.length)) (hn : n ≤ 1000) (hn0 : 0 < n) (hB : B ≤ w.heap.size) (hT : Hid (∀ x ∈ xs, ∀ t ∈ x.term.targets, 0 ≤ t ∧ t < n)) :
    Calls Tryd.prog 11 #[.agg #[.int .i64 vl, .slice a n c], .int .i64 z] w fun e w' => ∃ v F, e = .returned v ∧ Below w.heap.size w w' ∧ w'.ownsRow w.heap.size 2 1 v F.length (natV F) ∧ F.Nodup ∧ ∀ x, x ∈ F ↔ AvZ (tgN xs) z x := by
  obtain ⟨i0, hi0, hz0, hz1, hz2⟩ := info_three Tryd.info2'
  have hmb := run_make_row' (P := Tryd.prog) 75 4 (.bool false) 1 Tryd.underlying75 Tryd.infoBo rfl .i64 .i64 n (by omega) (by omega)
  have hcm : ∀ W : World, (W.alloc (.cells (madeCells #[.bool false] n) 4)).cell? ⟨W.heap.size, 0, none⟩ = some (.bool false) := fun W => (World.rowIs_made W (.bool false) n 4).cell hn0
  by_cases hz : z = 0
  · subst hz
    have hc3 := fun o1 o2 => hcm ((w.alloc o1).alloc o2)
    simp only [World.size_alloc] at hc3
    clear hcm
    go_enter Tryd.func11, Tryd.ntmps11
    go_wp2_with fail
    go_loopw [5, 7] (fun v u wr => v = .slice (some ⟨w.heap.size + 1, 0, none⟩) 0 0 ∧ u = .int .i64 0 ∧ Hid (Below w.heap.size w wr) ∧ Hid (w.heap.size + 1 < wr.heap.size) ∧ Hid (wr.ownsRow w.heap.size 2 1 (.slice (some ⟨w.heap.size + 1, 0, none⟩) 0 0) 0 [])) (fun _ _ _ => 0)
    case atStart => exact ⟨rfl, rfl, hide (balloc (balloc (balloc (Below.refl _ _) _) _) _), hide (by simp), hide (World.ownsRow.alloc (by
      have h := World.ownsRow_lit (base := w.heap.size) (e := 2) (size := 1) (w.alloc (.cells #[.int .i64 vl, .slice a n c] 29)) #[] 0 (by simp) (by simp) rfl
      rw [World.size_alloc] at h
      exact h) _)⟩
    case round =>
      obtain ⟨rfl, rfl, HB, HZ, HO⟩ := hrel
      go_wp2_with fail
      go_ret
      refine ⟨_, [], rfl, HB.out, HO.out, List.nodup_nil, fun x => ⟨fun h => (by cases h), fun h => ?_⟩⟩
      exfalso
      have : ∀ {c}, AvZ (tgN xs) 0 c → False := fun hc => by
        induction hc with
        | root h => exact h rfl
        | step _ _ _ ih => exact ih
      exact this h
  · have hzb : (z == 0) = false := by simpa using hz
    go_enter Tryd.func11, Tryd.ntmps11
    go_wp2_with (at_builtin; refine wpList_append_own_at _ rfl _ _ 35 rfl (w.heap.size + 1) 2 i0 (.int .i64 0) 1 8 Tryd.underlying35 hi0 hz0 hz1 hz2 rfl (by decide) _ _ _ rfl (World.ownsRow.alloc (own_e w _) _) ⟨w.heap.size + 2, 0, none⟩ 1 1 [.int .i64 0] rfl rfl ?c1 ?c2 ?c3 ?c4 ?c5 ?_)
    case c1 =>
      have h := one_news ((w.alloc (.cells #[.int .i64 vl, .slice a n c] 29)).alloc (.cells #[] 2)) (.int .i64 0) 2
      simpa using h
    case c2 => intro u hu; simp at hu; subst hu; rfl
    case c3 => unfold maxLen; omega
    case c4 => omega
    case c5 => simp
    intro v1 w1 hown1 hg1 hne1 hat1
    have hcf : w1.cell? ⟨w.heap.size, 1, none⟩ = some (.slice a n c) := (cell_of (hg1.block w.heap.size (by simp; omega) (by simp [Value.ownBlock]))).trans (by simp [go_sem])
    have HB1 : Hid (Below w.heap.size w w1) := hide ((balloc (balloc (balloc (Below.refl _ _) _) _) _).grown hg1 (by simp; omega) (fun k e => by simp [Value.ownBlock] at e; omega))
    have HZ1 : Hid (w.heap.size + 2 < w1.heap.size) := hide (by have := hg1.size; simp only [World.size_alloc] at this; omega)
    obtain ⟨g1, k1, rfl, hgb, hk1⟩ := own_some' hown1 (by omega)
    have HO1 : Hid (w1.ownsRow (w.heap.size + 1) 2 1 (.slice (some ⟨g1, 0, none⟩) (0 + 1) k1) [0].length (natV [0])) := hide hown1
    have hg1l : g1 < w1.heap.size := hgb.2
    clear hown1 hg1 hne1 hat1 hgb
    have hc3 := hcm w1
    clear hcm
    go_wp2_with fail
    have HSE := hide (row_seen0 w1 n hn0)
    have HO2 := hide (HO1.out.alloc (.cells ((madeCells #[.bool false] n).setIfInBounds 0 (.bool true)) 4))
    have HB2 : Hid (Below w.heap.size w (w1.alloc (.cells ((madeCells #[.bool false] n).setIfInBounds 0 (.bool true)) 4))) := hide (balloc HB1.out _)
    have HCF : Hid ((w1.alloc (.cells ((madeCells #[.bool false] n).setIfInBounds 0 (.bool true)) 4)).cell? ⟨w.heap.size, 1, none⟩ = some (.slice a n c)) := hide ((World.cell?_alloc_lt _ _ _ (by have := HZ1.out; show w.heap.size < _; omega)).trans hcf)
    have HG12 : Hid (g1 ≠ w1.heap.size) := hide (by omega)
    have HGZ : Hid (w.heap.size + 1 < w1.heap.size) := hide (by have := HZ1.out; omega)
    clear hc3 hcf hg1l HO1 HB1 HZ1
    generalize w1.alloc (.cells ((madeCells #[.bool false] n).setIfInBounds 0 (.bool true)) 4) = w2 at *
    generalize w1.heap.size = g2 at *
    go_loopw [5, 7] (fun v u wr => ∃ (F : List Nat) (i : Nat), u = .int .i64 i ∧ i ≤ F.length ∧ Hid (RcI (tgN xs) n z F i) ∧ Hid (Below w.heap.size w wr) ∧ Hid (wr.cell? ⟨w.heap.size, 1, none⟩ = some (.slice a n c)) ∧ Hid (wr.rowIs g2 4 n (fun x => .bool (decide (x = 0 ∨ x ∈ F)))) ∧ Hid (v.ownBlock ≠ some g2) ∧ Hid (wr.ownsRow (w.heap.size + 1) 2 1 v F.length (natV F))) (fun _ u _ => n + 1 - (intOf u).toNat)
    case atStart => exact ⟨[0], 0, rfl, Nat.zero_le _, hide ⟨by simp, fun x hx => by
      have : x = 0 := by simpa using hx
      subst this
      exact AvZ.root hz, fun x hx => by
      have : x = 0 := by simpa using hx
      omega, fun _ => by simp, fun h => absurd h hz, fun k _ hk => absurd hk (by omega)⟩, HB2, HCF, HSE, hide (by simp [Value.ownBlock]; exact HG12.out), HO2⟩
    case round =>
      obtain ⟨F, i, rfl, hi, HR, HB, HC, HS, HN, HO⟩ := hrel
      have hFn := nodup_le HR.out.nd HR.out.lt
      by_cases hlt : i < F.length
      · obtain ⟨gv, kv, rfl, hgv, hkv⟩ := own_some' HO.out (by omega)
        have hFi := HR.out.lt F[i] (List.getElem_mem hlt)
        have hFx : F[i] < xs.length := by have := hx.out; omega
        have ef := own_cell HO.out (j := i) (u := .int .i64 (F[i] : Int)) (by simp [natV, hlt])
        have hBw : B ≤ w.heap.size := hB
        obtain ⟨bb, ob, rfl, hbb, pa, pc, ia, ic, -, -, ⟨t0, t1, t2, t3⟩, -, -⟩ := (ha.out.keep (HB.out.mono hB)) F[i] hFx
        have ecf := HC.out
        have HTT : Hid (∀ t ∈ xs[F[i]].term.targets, 0 ≤ t ∧ t < n) := hide (hT.out _ (List.getElem_mem hFx))
        have HTG : Hid (tgN xs F[i] = xs[F[i]].term.targets.map Int.toNat) := hide (tgN_at hFx)
        have hvz := HO.out.lt gv rfl
        generalize hFF : F[i] = fi at *
        have HFF := hide hFF
        clear hFF
        generalize xs[fi].term = tm at *
        have HWZ : Hid (w.heap.size + 1 ≤ wr.heap.size ∧ g2 < wr.heap.size) := hide ⟨by omega, HS.out.lt⟩
        go_wp2_with fail
        refine wp_region_held_drew (S := (fun w' => w'.cell? ⟨w.heap.size, 1, none⟩ = some (.slice (some ⟨bb, ob, none⟩) n c) ∧ w'.cell? ⟨gv, i, none⟩ = some (.int .i64 (fi : Int)) ∧ w'.cell? ⟨bb, ob + fi * 6 + 2, none⟩ = some (.int .i64 tm.kind) ∧ w'.cell? ⟨bb, ob + fi * 6 + 2 + 1, none⟩ = some (.int .i64 tm.a) ∧ w'.cell? ⟨bb, ob + fi * 6 + 2 + 2, none⟩ = some (.int .i64 tm.to) ∧ w'.cell? ⟨bb, ob + fi * 6 + 2 + 3, none⟩ = some (.int .i64 tm.els))) (by kernel_rfl) (by (try dsimp only); go_keep) (fun hHeld => ?_)
        refine wpAnyH_take (i := 0) (v := ?_) rfl (by kernel_rfl) (by kernel_rfl) (by kernel_rfl) (fun _ _ _ h => h) (Or.inl ⟨by rfl, ?_⟩) (by assumption) ?_
        rotate_left
        · intro w hSw; (try dsimp only at hSw); go_simp; try with_reducible rfl
        simp only [Act.put, List.getElem_toArray, List.getElem_cons_zero, List.setIfInBounds_toArray, List.set_cons_zero, List.set_cons_succ]
        refine wpAnyH_take (i := 1) (v := ?_) rfl (by kernel_rfl) (by kernel_rfl) (by kernel_rfl) (fun _ _ _ h => h) (Or.inl ⟨by rfl, ?_⟩) (by assumption) ?_
        rotate_left
        · intro w hSw; (try dsimp only at hSw); go_simp; try with_reducible rfl
        simp only [Act.put, List.getElem_toArray, List.getElem_cons_zero, List.getElem_cons_succ, List.setIfInBounds_toArray, List.set_cons_zero, List.set_cons_succ]
        refine wpAnyH_take (i := 2) (v := ?_) rfl (by kernel_rfl) (by kernel_rfl) (by kernel_rfl) (fun _ _ _ h => h) (Or.inl ⟨by rfl, ?_⟩) (by assumption) ?_
        rotate_left
        · intro w hSw; (try dsimp only at hSw); go_simp; try with_reducible rfl
        simp only [Act.put, List.getElem_toArray, List.getElem_cons_zero, List.getElem_cons_succ, List.setIfInBounds_toArray, List.set_cons_zero, List.set_cons_succ]
        refine wpAnyH_take (i := 3) (v := ?_) rfl (by kernel_rfl) (by kernel_rfl) (by kernel_rfl) (fun _ _ _ h => h) (Or.inl ⟨by rfl, ?_⟩) (by assumption) ?_
        rotate_left
        · intro w hSw; (try dsimp only at hSw); go_simp; try with_reducible rfl
        simp only [Act.put, List.getElem_toArray, List.getElem_cons_zero, List.getElem_cons_succ, List.setIfInBounds_toArray, List.set_cons_zero, List.set_cons_succ]
        refine wpAnyH_take (i := 4) (v := ?_) rfl (by kernel_rfl) (by kernel_rfl) (by kernel_rfl) (fun _ _ _ h => h) (Or.inl ⟨by rfl, ?_⟩) (by assumption) ?_
        rotate_left
        · intro w hSw; (try dsimp only at hSw); go_simp; try with_reducible rfl
        simp only [Act.put, List.getElem_toArray, List.getElem_cons_zero, List.getElem_cons_succ, List.setIfInBounds_toArray, List.set_cons_zero, List.set_cons_succ]
        refine wpAnyH_take (i := 5) (v := ?_) rfl (by kernel_rfl) (by kernel_rfl) (by kernel_rfl) (fun _ _ _ h => h) (Or.inl ⟨by rfl, ?_⟩) (by assumption) ?_
        rotate_left
        · intro w hSw; (try dsimp only at hSw); go_simp; try with_reducible rfl
        simp only [Act.put, List.getElem_toArray, List.getElem_cons_zero, List.getElem_cons_succ, List.setIfInBounds_toArray, List.set_cons_zero, List.set_cons_succ]
        refine wpAnyH_take (i := 6) (v := ?_) rfl (by kernel_rfl) (by kernel_rfl) (by kernel_rfl) (fun _ _ _ h => h) (Or.inl ⟨by rfl, ?_⟩) (by assumption) ?_
        rotate_left
        · intro w hSw; (try dsimp only at hSw); go_simp; try with_reducible rfl
        simp only [Act.put, List.getElem_toArray, List.getElem_cons_zero, List.getElem_cons_succ, List.setIfInBounds_toArray, List.set_cons_zero, List.set_cons_succ]
        refine wpAnyH_take (i := 7) (v := ?_) rfl (by kernel_rfl) (by kernel_rfl) (by kernel_rfl) (fun _ _ _ h => h) (Or.inl ⟨by rfl, ?_⟩) (by assumption) ?_
        rotate_left
        · intro w hSw; (try dsimp only at hSw); go_simp; try with_reducible rfl
        simp only [Act.put, List.getElem_toArray, List.getElem_cons_zero, List.getElem_cons_succ, List.setIfInBounds_toArray, List.set_cons_zero, List.set_cons_succ]
        refine wpAnyH_take (i := 8) (v := ?_) rfl (by kernel_rfl) (by kernel_rfl) (by kernel_rfl) (fun _ _ _ h => h) (Or.inl ⟨by rfl, ?_⟩) (by assumption) ?_
        rotate_left
        · intro w hSw; (try dsimp only at hSw); go_simp; try with_reducible rfl
        simp only [Act.put, List.getElem_toArray, List.getElem_cons_zero, List.getElem_cons_succ, List.setIfInBounds_toArray, List.set_cons_zero, List.set_cons_succ]
        refine wpAnyH_ready (rs := [9]) (by kernel_rfl) (by simp) ?_
        refine AllReadyH.cons rfl (fun K hK => ?_) AllReadyH.nil
        go_simp
        go_at_call 27
        refine (targetsS_any tm _).mono ?_
        rintro e w3 ⟨at3, ct3, rfl, hb3, hi3⟩
        have hb3' : Below wr.heap.size wr w3 := ⟨hb3.os, hb3.tape, hb3.output, hb3.size, hb3.block⟩
        have hbz : bb < wr.heap.size := by have := HWZ.out; omega
        have kc : ∀ q, w3.cell? ⟨bb, q, none⟩ = wr.cell? ⟨bb, q, none⟩ := fun q => hb3'.cell (p := ⟨bb, q, none⟩) hbz
        refine hK.out _ _ ⟨(hb3'.cell (p := ⟨w.heap.size, 1, none⟩) (by have := HWZ.out; show w.heap.size < _; omega)).trans ecf, (hb3'.cell (p := ⟨gv, i, none⟩) hvz.2).trans ef, (kc _).trans t0, (kc _).trans t1, (kc _).trans t2, (kc _).trans t3⟩ (fun hHeld => ?_)
        clear hK kc hbz
        try simp only [Act.put, List.getElem_toArray, List.getElem_cons_zero, List.getElem_cons_succ, List.setIfInBounds_toArray, List.set_cons_zero, List.set_cons_succ]
        refine wpAnyH_take (i := 10) (v := ?_) rfl (by kernel_rfl) (by kernel_rfl) (by kernel_rfl) (fun _ _ _ h => h) (Or.inl ⟨by rfl, ?_⟩) (by assumption) ?_
        rotate_left
        · intro w hSw; (try dsimp only at hSw); go_simp; try with_reducible rfl
        simp only [Act.put, List.getElem_toArray, List.getElem_cons_zero, List.getElem_cons_succ, List.setIfInBounds_toArray, List.set_cons_zero, List.set_cons_succ]
        refine wpAnyH_done (by kernel_rfl) ?_ _
        have hi3' : IntsAt w3 wr.heap.size w3.heap.size at3 tm.targets := hi3
        have HB3 : Hid (Below w.heap.size w w3) := hide (bnext HB.out hb3')
        have HC3 : Hid (w3.cell? ⟨w.heap.size, 1, none⟩ = some (.slice (some ⟨bb, ob, none⟩) n c)) := hide ((hb3'.cell (p := ⟨w.heap.size, 1, none⟩) (by have := HWZ.out; show w.heap.size < _; omega)).trans HC.out)
        have HS3 := hide (HS.out.of_block (hb3'.block g2 HWZ.out.2))
        have HO3 := hide (own_blk HO.out (hb3'.block gv hvz.2))
        have HI3 := hide hi3'
        have HZ3 := hide hb3'.size
        clear hb3 hi3 hb3' hi3' t0 t1 t2 t3 ef ecf hHeld
        generalize hts : tm.targets = ts at *
        have hts2 : ts.length ≤ 2 := by rw [← hts]; exact tg_two tm
        clear hts
        go_wp2_with fail
        generalize wr = wo at *
        go_loopw [5, 9] (fun v u wq => ∃ (F' : List Nat) (q : Nat), u = .int .i64 q ∧ q ≤ ts.length ∧ Hid (RcJ (tgN xs) n z F F' i q ts) ∧ Hid (Below w.heap.size w wq) ∧ Hid (wq.cell? ⟨w.heap.size, 1, none⟩ = some (.slice (some ⟨bb, ob, none⟩) n c)) ∧ Hid (wq.rowIs g2 4 n (fun x => .bool (decide (x = 0 ∨ x ∈ F')))) ∧ Hid (v.ownBlock ≠ some g2) ∧ Hid (IntsAt wq wo.heap.size w3.heap.size at3 ts) ∧ Hid (∀ k, v.ownBlock = some k → k < wo.heap.size ∨ w3.heap.size ≤ k) ∧ Hid (w3.heap.size ≤ wq.heap.size) ∧ Hid (wq.ownsRow (w.heap.size + 1) 2 1 v F'.length (natV F'))) (fun _ u _ => ts.length - (intOf u).toNat)
        case atStart => exact ⟨F, 0, rfl, Nat.zero_le _, hide (rcj_start HR.out), HB3, HC3, HS3, HN, HI3, hide (fun k e => by
          simp only [Value.ownBlock, Option.some.injEq] at e
          exact Or.inl (by omega)), hide (Nat.le_refl _), HO3⟩
        case round =>
          obtain ⟨F', q, rfl, hq, HJ, HBq, HCq, HSq, HNq, HIq, HKq, HZq, HOq⟩ := hrel
          have hFn' := nodup_le HJ.out.nd HJ.out.lt
          clear HB3 HC3 HS3 HO3 HI3
          by_cases hlq : q < ts.length
          · obtain ⟨bt, ot, rfl, hbt, et⟩ := HIq.out q hlq
            have htr := HTT.out ts[q] (List.getElem_mem hlq)
            have HSK := hide (rcj_skip HJ.out hlq)
            have HTM : Hid (∀ t : Nat, ts[q] = (t : Int) → t ∈ tgN xs fi) := hide (fun t e => by rw [HTG.out]; exact List.mem_map.2 ⟨ts[q], List.getElem_mem hlq, by rw [e]; rfl⟩)
            have HTAK : Hid (∀ t : Nat, ts[q] = (t : Int) → t < n → (t : Int) ≠ z → t ∉ F' → t ∈ tgN xs F[i] → RcJ (tgN xs) n z F (F' ++ [t]) i (q + 1) ts) := hide (fun t e1 e2 e3 e4 e5 => rcj_take HJ.out hlq e1 e2 e3 e4 hlt e5)
            generalize ts[q] = tq at *
            obtain ⟨tn, rfl⟩ := nat_of htr.1
            have htn : tn < n := by omega
            have esn := HSq.out.cell htn
            have ezn := HSq.out.frozen
            by_cases hez : (tn : Int) = z
            · have hb : ((tn : Int) == z) = true := by simpa using hez
              have hb' : ((tn : Int) != z) = false := by simp [hez]
              have HJ2 := hide (HSK.out (Or.inl hez))
              clear hez esn
              go_wp2_with fail
              exact ⟨⟨F', q + 1, by go_num, by omega, HJ2, HBq, HCq, HSq, HNq, HIq, HKq, HZq, HOq⟩, by simp [intOf]; omega⟩
            · have hb : ((tn : Int) == z) = false := by simpa using hez
              have hb' : ((tn : Int) != z) = true := by simp [hez]
              by_cases hin : tn = 0 ∨ tn ∈ F'
              · rw [decide_eq_true hin] at esn
                have HJ2 := hide (HSK.out (Or.inr (by rcases hin with h | h; exact Or.inl (by omega); exact Or.inr (by simpa using h))))
                clear hin hez
                go_wp2_with fail
                exact ⟨⟨F', q + 1, by go_num, by omega, HJ2, HBq, HCq, HSq, HNq, HIq, HKq, HZq, HOq⟩, by simp [intOf]; omega⟩
              · rw [decide_eq_false hin] at esn
                have HJ2 := hide (HTAK.out tn rfl htn hez (fun h => hin (Or.inr h)) (by rw [HFF.out]; exact HTM.out tn rfl))
                have HSN : Hid (∀ x, x < n → (if x = tn then true else decide (x = 0 ∨ x ∈ F')) = decide (x = 0 ∨ x ∈ F' ++ [tn])) := hide (fun x _ => by
                  by_cases e : x = tn
                  · subst e; simp
                  · simp [e])
                clear hin hez
                have hwz := HZq.out
                have nbg : bt ≠ g2 := by have := HWZ.out.2; omega
                have nbg' : g2 ≠ bt := fun e => nbg e.symm
                have hbz : bt < wr.heap.size := by omega
                have HGz : Hid (g2 < wr.heap.size) := hide HSq.out.lt
                have hww : w.heap.size + 1 ≤ wr.heap.size := by have := HWZ.out; have := HZ3.out; omega
                go_wp2_with (at_builtin; refine wpList_append_own_at _ rfl _ _ 35 rfl (w.heap.size + 1) 2 i0 (.int .i64 0) 1 8 Tryd.underlying35 hi0 hz0 hz1 hz2 rfl (by decide) _ _ _ rfl ((ownsRow_setCell_other HOq.out (a := ⟨g2, tn, none⟩) HNq.out (.bool true)).alloc _) ⟨wr.heap.size, 0, none⟩ 1 1 [.int .i64 (tn : Int)] rfl rfl ?c1 ?c2 ?c3 ?c4 ?c5 ?_)
                case c1 =>
                  have h := one_news (wr.setCell ⟨g2, tn, none⟩ (.bool true)) (.int .i64 (tn : Int)) 2
                  rw [size_setCell] at h
                  exact h
                case c2 => intro u hu; simp at hu; subst hu; rfl
                case c3 => unfold maxLen; omega
                case c4 => omega
                case c5 => rw [World.size_alloc, size_setCell]; omega
                intro v8 w8 hown8 hg8 hne8 hat8
                have hs8 := hg8.size
                rw [World.size_alloc, size_setCell] at hs8
                have blk : ∀ k, k < wr.heap.size → k ≠ g2 → (∀ j, u5.ownBlock = some j → k ≠ j) → w8.heap[k]? = wr.heap[k]? := fun k h1 h2 h3 => by
                  refine (hg8.block k (by rw [World.size_alloc, size_setCell]; omega) (fun e => h3 k e.symm rfl)).trans ?_
                  rw [Below.heap_alloc _ _ _ (by rw [size_setCell]; exact h1)]
                  exact Below.heap_setCell _ _ _ _ h2
                have hown' : ∀ j, u5.ownBlock = some j → w.heap.size + 1 ≤ j := fun j e => (HOq.out.lt j e).1
                have hg2w := HGZ.out
                have HB8 : Hid (Below w.heap.size w w8) := hide (((Below.alloc (HBq.out.setCell (by show w.heap.size ≤ g2; omega) _) (by rw [size_setCell]; omega) _).grown hg8 (by rw [World.size_alloc, size_setCell]; omega) (fun k e => by have := hown' k e; omega)))
                have HC8 : Hid (w8.cell? ⟨w.heap.size, 1, none⟩ = some (.slice (some ⟨bb, ob, none⟩) n c)) := hide ((cell_of (blk w.heap.size (by omega) (by omega) (fun j e => by have := hown' j e; omega))).trans HCq.out)
                have HS8 : Hid (w8.rowIs g2 4 n (fun x => .bool (decide (x = 0 ∨ x ∈ F' ++ [tn])))) := hide (row_as (C := Value.bool) (((row_set (C := Value.bool) HSq.out tn true).alloc _).of_block (hg8.block g2 (by rw [World.size_alloc, size_setCell]; have := HGz.out; omega) (fun e => HNq.out e.symm))) HSN.out)
                have HN8 : Hid (v8.ownBlock ≠ some g2) := hide (fun e => by
                  rcases hat8 with h | h
                  · exact HNq.out (h.symm.trans e)
                  · rw [e] at h; injection h with h; have := HGz.out; omega)
                have HI8 : Hid (IntsAt w8 wo.heap.size w3.heap.size (some ⟨bt, ot, none⟩) ts) := hide (HIq.out.keepS (fun k h1 h2 => blk k (by omega) (by have := HWZ.out.2; omega) (fun j e => by rcases HKq.out j e with h | h <;> omega)))
                have HK8 : Hid (∀ k, v8.ownBlock = some k → k < wo.heap.size ∨ w3.heap.size ≤ k) := hide (fun k e => by
                  rcases hat8 with h | h
                  · exact HKq.out k (h.symm.trans e)
                  · rw [e] at h; injection h with h; exact Or.inr (by omega))
                have HZ8 : Hid (w3.heap.size ≤ w8.heap.size) := hide (by omega)
                have HO8 : Hid (w8.ownsRow (w.heap.size + 1) 2 1 v8 (F' ++ [tn]).length (natV (F' ++ [tn]))) := hide (by rw [natV_snoc, List.length_append]; exact hown8)
                clear hown8 hg8 hne8 hat8 blk hown' HOq HSq HCq HBq HIq
                go_wp2_with fail
                exact ⟨⟨F' ++ [tn], q + 1, by go_num, by omega, HJ2, HB8, HC8, HS8, HN8, HI8, HK8, HZ8, HO8⟩, by simp [intOf]; omega⟩
          · have HRD : Hid (RcI (tgN xs) n z F' (i + 1)) := hide (rcj_done HJ.out HR.out hz hlt (by omega) (by rw [HFF.out]; exact HTG.out) (fun t ht => (HTT.out t ht).1))
            have hil : i + 1 ≤ F'.length := by obtain ⟨E, e⟩ := HJ.out.pre; rw [e, List.length_append]; omega
            go_wp2_with fail
            exact ⟨⟨F', i + 1, by go_num, hil, HRD, HBq, HCq, HSq, HNq, HOq⟩, by simp [intOf]; omega⟩
      · have hie : i = F.length := by omega
        subst hie
        have hF0 : 0 < F.length := List.length_pos_of_mem (HR.out.root hz)
        obtain ⟨gv, kv, rfl, hgv, hkv⟩ := own_some' HO.out hF0
        go_wp2_with fail
        go_ret
        exact ⟨_, F, rfl, HB.out, own_base HO.out (by omega), HR.out.nd, rc_done HR.out (Nat.le_refl _)⟩
end Go.Proofs.YtanaeindldcapaaDoor
