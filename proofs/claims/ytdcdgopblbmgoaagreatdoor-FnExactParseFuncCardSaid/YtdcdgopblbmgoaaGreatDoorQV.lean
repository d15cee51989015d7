import Derived.Test.YtdcdgopblbmgoaaGreatDoorQT
import Derived.Test.YtdcdgopblbmgoaaGreatDoorQE
/-
  put of the program's reader, whatever the line's role.
-/
namespace Go.Proofs.YtdcdgopblbmgoaaGreatDoor
open Go.RowKit Go.Shelf

theorem place_link (ro co : Nat) (nums : List Int) (s : Pst) (hr : ro ≤ 3) : (stepO ro co nums s).isSome = placeB ro s.cur.isSome (match s.cur with | none => 0 | some (_, is) => is.length) := by
  obtain ⟨pre, cur⟩ := s
  have hc : ro = 0 ∨ ro = 1 ∨ ro = 2 ∨ ro = 3 := by omega
  cases cur with
  | none => rcases hc with rfl | rfl | rfl | rfl <;> rfl
  | some pi =>
    obtain ⟨ps, is⟩ := pi
    rcases hc with rfl | rfl | rfl | rfl
    · rfl
    · cases is with
      | nil => rfl
      | cons x r => rfl
    · rfl
    · rfl
theorem own_cap {w : World} {base e n : Nat} {v : Value} {xs : List Value} (h : w.ownsRow base e 1 v n xs) (hn : 0 < n) : ∃ g c, v = .slice (some ⟨g, 0, none⟩) n c ∧ n ≤ c := by
  obtain ⟨_, h | ⟨g, cap, cur, rfl, _, _, hc, _⟩⟩ := h
  · omega
  · exact ⟨g, cap, rfl, hc⟩
theorem put_any (R : Nat) (wd : Value) (V : Int) (B0 : Nat) (s s' : Pst) (va : Option Addr) (vn vc ro co n : Nat) (v : Value) (nums : List Int) (w0 w : World) (h : RSt w0 R wd V B0 s va vn vc) (hb : Below w0.heap.size w0 w) (htot : pstTot s ≤ 100000) (ht : OpTabW w) (ht2 : TerTabW w) (hro : ro ≤ 3) (hci : ro = 2 → 1 ≤ co ∧ co ≤ 10) (hct : ro = 3 → 1 ≤ co ∧ co ≤ 3)
    (hv : w.ownsRow w0.heap.size 2 1 v n (nums.map (Value.int .i64))) (hnn : n = nums.length) (hnl : n ≤ 1000000) (htk : takesB ro co n = true) (hs : stepO ro co nums s = some s') :
    Calls Tryz.prog 79 #[.pointer (some ⟨R, 0, none⟩), opV ro co, v] w fun e w' => e = .returned (.tuple #[]) ∧ ∃ va' vn' vc', RSt w' R wd V B0 s' va' vn' vc' ∧ Kb B0 R R w w' := by
  have hvb : vn ≤ 100000 := Nat.le_trans h.st.len htot
  obtain ⟨pre, cur⟩ := s
  have hc : ro = 0 ∨ ro = 1 ∨ ro = 2 ∨ ro = 3 := by omega
  obtain ⟨a, c, rfl, hna⟩ := ints_owned hv
  rw [← hnn] at hv ⊢
  rcases hc with rfl | rfl | rfl | rfl
  · cases cur with
    | some pi => exact absurd hs (by simp [stepO])
    | none =>
      have e : s' = ⟨pre, some ([], [])⟩ := by simpa [stepO] using hs.symm
      subst e
      exact (put_block R wd V B0 pre va vn vc co a n c w (hide (h.keep hb)) hvb).mono (fun e w' h => h)
  · cases cur with
    | none => exact absurd hs (by simp [stepO])
    | some pi =>
      obtain ⟨ps, is⟩ := pi
      cases is with
      | cons x r => exact absurd hs (by simp [stepO])
      | nil =>
        have e : s' = ⟨pre, some (ps ++ [⟨nums.getD 0 0, nums.tail⟩], [])⟩ := by simpa [stepO] using hs.symm
        subst e
        have hn2 : 2 ≤ n := by simpa [takesB] using htk
        obtain ⟨g, c', ev, hcap⟩ := own_cap hv (by omega)
        obtain ⟨rfl, -, rfl⟩ := Value.slice.inj ev
        exact (put_phi R wd V B0 pre ps va vn vc co g 0 n c nums w0 w (hide h) (hide hb) hvb (by simp only [pstTot] at htot; omega) (hide hnn) hn2 hnl hcap (hide hna) (hide (fun q => rowThaw hv q))).mono (fun e w' h => h)
  · cases cur with
    | none => exact absurd hs (by simp [stepO])
    | some pi =>
      obtain ⟨ps, is⟩ := pi
      have e : s' = ⟨pre, some (ps, is ++ [insN co nums])⟩ := by simpa [stepO] using hs.symm
      subst e
      have hk := hci rfl
      exact put_ins R wd V B0 pre ps is va vn vc co a n c nums w0 w (hide h) (hide hb) hvb (by simp only [pstTot] at htot; omega) hk.1 (by omega) (hide ht) (hide hnn) (hide (by simpa [takesB] using htk)) hnl (hide hna)
  · cases cur with
    | none => exact absurd hs (by simp [stepO])
    | some pi =>
      obtain ⟨ps, is⟩ := pi
      have e : s' = ⟨pre ++ [⟨ps, is, terN co nums⟩], none⟩ := by simpa [stepO] using hs.symm
      subst e
      have hk := hct rfl
      exact put_ter R wd V B0 pre ps is va vn vc co a n c nums w0 w (hide h) (hide hb) hvb hk.1 hk.2 (hide ht2) (hide hnn) (hide (by simpa [takesB] using htk)) hnl (hide hna)
end Go.Proofs.YtdcdgopblbmgoaaGreatDoor

/-
  readLine of the program's reader.
-/
namespace Go.Proofs.YtdcdgopblbmgoaaGreatDoor
open Go.RowKit Go.Shelf

/-- What a line's reading leaves. -/
def LineAns (w w' : World) (R : Nat) (wd : Value) (V : Int) (B0 : Nat) (s : Pst) (line : List UInt8) (e : Ending) : Prop :=
  Kb B0 R R w w' ∧ ((∃ c, lineP s line = .bad c ∧ c ≠ 0 ∧ e = .returned (.int .i64 c)) ∨ (∃ s', lineP s line = .ok s' ∧ e = .returned (.int .i64 0) ∧ ∃ va vn vc, RSt w' R wd V B0 s' va vn vc))
theorem lineAns_bad {w w' : World} {R : Nat} {wd : Value} {V : Int} {B0 : Nat} {s : Pst} {line : List UInt8} {c : Int} (k : Below w.heap.size w w') (hB : B0 ≤ w.heap.size) (h : lineP s line = .bad c) (hc : c ≠ 0) : LineAns w w' R wd V B0 s line (.returned (.int .i64 c)) := ⟨Kb.of_below (k.mono hB), Or.inl ⟨c, h, hc, rfl⟩⟩
theorem inPlace_st (R : Nat) (wd : Value) (V : Int) (B0 : Nat) (s : Pst) (va : Option Addr) (vn vc ro co : Nat) (w : World) (h : RSt w R wd V B0 s va vn vc) (hro : ro ≤ 3) (htot : pstTot s ≤ 100000) (nums : List Int) :
    Calls Tryz.prog 78 #[.pointer (some ⟨R, 0, none⟩), opV ro co] w fun e w' => e = .returned (.bool (stepO ro co nums s).isSome) ∧ Below w.heap.size w w' := by
  have hvb : vn ≤ 100000 := Nat.le_trans h.st.len htot
  obtain ⟨l1, l2⟩ := h.lo
  rw [place_link ro co nums s hro]
  obtain ⟨pre, cur⟩ := s
  cases cur with
  | none => exact inPlace_any R wd V va 0 vn vc false none 0 0 ro co w (hide h.rd) (by omega) (by omega) hro (hide (fun q => absurd q (by decide)))
  | some pi =>
    obtain ⟨ps, is⟩ := pi
    obtain ⟨H, G, pa, pc, ia, ic, e1, e2, hbo⟩ := h.st
    obtain ⟨⟨_, lG⟩, _, lH⟩ := hbo.lo
    dsimp only at e2
    exact inPlace_any R wd V va G vn vc true ia is.length ic ro co w (hide h.rd) (by omega) (by omega) hro (hide (fun _ => ⟨e1, by omega, by omega, by rw [e2, Nat.add_sub_cancel]; exact hbo.c1⟩))
theorem fa_side (nr g : Nat) : nr = 0 ∨ (if nr = 0 then some (⟨g, 0, none⟩ : Addr) else some ⟨g, 1, none⟩) = some ⟨g, 1, none⟩ := by
  by_cases h : nr = 0
  · exact Or.inl h
  · exact Or.inr (if_neg h)
theorem cut_pos (line : List UInt8) : 0 < (cutS line 32).length := by unfold cutS; rw [cutF_count]; omega

set_option maxHeartbeats 4000000 in
set_option maxRecDepth 100000 in
theorem readLine_any (R M : Nat) (V : Int) (B0 : Nat) (s : Pst) (va : Option Addr) (vn vc b o n c : Nat) (line : List UInt8) (w : World) (h : Hid (RSt w R (.map (some M)) V B0 s va vn vc)) (hM : Hid (M < w.heap.size ∧ w.ownsMap Tryz.prog 9 wordR M 15 (wdT 3))) (ht : Hid (OpTabW w)) (ht2 : Hid (TerTabW w)) (hm : Hid (MaxL w)) (htot : Hid (pstTot s ≤ 100000))
    (hx : Hid (n = line.length)) (hnc : n ≤ c) (hc : c ≤ 9223372036854775807) (hn : n ≤ 100000) (ha : Hid (∀ i (h : i < line.length), w.cell? ⟨b, o + i, none⟩ = some (.int .u8 (line[i].toNat : Int)))) (hb : b < w.heap.size) :
    Calls Tryz.prog 57 #[.pointer (some ⟨R, 0, none⟩), .slice (some ⟨b, o, none⟩) n c] w fun e w' => LineAns w w' R (.map (some M)) V B0 s line e := by
  obtain ⟨lo1, lo2⟩ := h.out.lo
  have HSF := hide (splitFields_any b o n c line w hx hnc hc (by omega) ha hm hb)
  have HFS : Hid (∀ f ∈ cutS line 32, f.length ≤ 1000000) := hide (fun f hf => by have := cutF_sum 32 line [] f hf; simp only [List.length_nil] at this; have := hx.out; omega)
  have HLEN : Hid ((cutS line 32).length ≤ 100001) := hide (by unfold cutS; rw [cutF_count]; have := List.count_le_length (a := (32 : UInt8)) (l := line); have := hx.out; omega)
  cases hall : (cutS line 32).all fieldOk with
  | false =>
    have HP : Hid (lineP s line = .bad 4) := hide (by unfold lineP fieldsS; rw [hall]; rfl)
    clear h hM ht ht2 hm htot hx ha HFS HLEN
    go_enter Tryz.func57, Tryz.ntmps57
    go_wp2_with (go_at_call 55; refine HSF.out.mono ?_; rintro e w3 ⟨hb3, _, hno⟩; rw [hno hall]; have HB3 := hide hb3; clear hno hb3)
    go_ret
    exact lineAns_bad HB3.out lo2 HP.out (by decide)
  | true =>
    have HFF : Hid (fieldsS line = cutS line 32) := hide (by unfold fieldsS; rw [if_pos hall])
    obtain ⟨F, r, hFr⟩ : ∃ F r, cutS line 32 = F :: r := by
      have := cut_pos line
      match hcs : cutS line 32, this with
      | F :: r, _ => exact ⟨F, r, rfl⟩
    rw [hFr] at HSF HFS HLEN HFF hall
    have HFL : Hid (F.length ≤ 1000000) := hide (HFS.out F (List.mem_cons_self ..))
    obtain ⟨nr, hnr⟩ : ∃ nr, r.length = nr := ⟨_, rfl⟩
    have HNR := hide hnr
    have hnrl : nr ≤ 100000 := by have := HLEN.out; rw [List.length_cons] at this; omega
    have HLC := hide (line_link F r)
    have HST := hide (fun ro co => step_link s F r ro co)
    have HWL := hide (want_link F nr)
    rw [hnr] at HLC HST
    have HLP0 : Hid (lineCode (F :: r) ≠ 0 → lineP s line = .bad (lineCode (F :: r))) := hide (fun q => by unfold lineP; rw [HFF.out, if_neg (by simp), if_pos q])
    have HLP1 : Hid (∀ o, lineCode (F :: r) = 0 → stepL s (F :: r) = o → lineP s line = (match o with | none => .bad 8 | some s' => .ok s')) := hide (fun o q e => by unfold lineP; rw [HFF.out, if_neg (by simp), if_neg (fun h => h q), e]; cases o <;> rfl)
    have hRl : R < w.heap.size := by omega
    clear hnr hFr HLEN
    have HLK : Hid (∀ w3 g v, Below w.heap.size w w3 → w3.cell? ⟨g, 0, none⟩ = some v → PieceAt w3 b v F → g < w3.heap.size → ∃ o1 c1, v = .slice (some ⟨b, o1, none⟩) F.length c1 ∧ ∀ W, Below w3.heap.size w3 W → W.cell? ⟨R, 0, none⟩ = some (.map (some M)) ∧ W.cell? ⟨g, 0, none⟩ = some (.slice (some ⟨b, o1, none⟩) F.length c1) ∧ (convert 22 9 (.slice (some ⟨b, o1, none⟩) F.length c1)).run Tryz.prog W = .ok (.string (strOf F)) W ∧ (Instr.lookup 81 (.map (some M)) (.string (strOf F)) true).run Tryz.prog W = .ok (match wordOp F with | some (r, c) => .tuple #[opV r c, .bool true] | none => .tuple #[opV 0 0, .bool false]) W) := hide (fun w3 g v k3 hcv hpv hg => by
      have hs3 := k3.size
      obtain ⟨o1, c1, rfl, hle, hcells⟩ := hpv
      refine ⟨o1, c1, rfl, fun W hW => ⟨?_, (hW.cell (p := ⟨g, 0, none⟩) hg).trans hcv, string_of W b o1 c1 F (fun j hj => (hW.cell (p := ⟨b, o1 + j, none⟩) (by show b < _; omega)).trans (hcells j hj)), words_look W M ?_ F HFL.out⟩⟩
      · exact (hW.cell (p := ⟨R, 0, none⟩) (by show R < _; omega)).trans ((k3.cell (p := ⟨R, 0, none⟩) hRl).trans h.out.rd.words)
      · obtain ⟨es, ck, hbk, rest⟩ := hM.out.2
        exact ⟨es, ck, ((hW.block M (by have := hM.out.1; omega)).trans (k3.block M hM.out.1)).trans hbk, rest⟩)
    have hp1 : (1 : Int) ≤ (nr : Int) + 1 := by omega
    have hp2 : (0 : Int) < (nr : Int) + 1 := by omega
    cases hwo : wordOp F with
    | none =>
      have e5 : lineCode (F :: r) = 5 := by have := HLC.out; rw [hwo] at this; exact this
      have HP : Hid (lineP s line = .bad 5) := hide (by rw [HLP0.out (by rw [e5]; decide), e5])
      rw [hwo] at HLK
      dsimp only at HLK
      unfold opV at HLK
      clear h hM ht ht2 hm htot hx ha HFS HLC HST HWL HLP0 HLP1 e5 hwo
      go_enter Tryz.func57, Tryz.ntmps57
      go_wp2_with (go_at_call 55; refine HSF.out.mono ?_; rintro e w3 ⟨hb3, hyes, _⟩; obtain ⟨g, k, hg, hk, rfl, hpc⟩ := hyes hall; have hk' : k = nr + 1 := (by rw [hk, List.length_cons, HNR.out]); subst hk'; obtain ⟨v0, hv0, hp0⟩ := hpc.2 0 (by simp); obtain ⟨o1, c1, rfl, hlw⟩ := HLK.out w3 g v0 hb3 hv0 hp0 hpc.1; have HLW := hide hlw; have HB3 := hide hb3; have HPC := hide hpc; have hs3 := hb3.size; have hgl := hpc.1; clear hyes hb3 hpc hv0 hp0 hlw hk)
      refine wp_region_held_drew (S := (fun w' => Hid (Below w3.heap.size w3 w'))) (by kernel_rfl) (hide (by first | exact (Below.refl _ _).drew | exact Below.refl _ _)) (fun hHeld => ?_)
      refine wpAnyH_take (i := 0) (v := ?_) rfl (by kernel_rfl) (by kernel_rfl) (by kernel_rfl) (fun _ _ _ h => h) (Or.inl ⟨by rfl, ?_⟩) (by assumption) ?_
      rotate_left
      · intro w hSw; (try dsimp only at hSw); obtain ⟨c0, cg, hcv, hlk⟩ := HLW.out w hSw.out; go_simp; try with_reducible rfl
      simp only [Act.put, List.getElem_toArray, List.getElem_cons_zero, List.setIfInBounds_toArray, List.set_cons_zero, List.set_cons_succ]
      refine wpAnyH_take (i := 1) (v := ?_) rfl (by kernel_rfl) (by kernel_rfl) (by kernel_rfl) (fun _ _ _ h => h) (Or.inl ⟨by rfl, ?_⟩) (by assumption) ?_
      rotate_left
      · intro w hSw; (try dsimp only at hSw); obtain ⟨c0, cg, hcv, hlk⟩ := HLW.out w hSw.out; go_simp; try with_reducible rfl
      simp only [Act.put, List.getElem_toArray, List.getElem_cons_zero, List.getElem_cons_succ, List.setIfInBounds_toArray, List.set_cons_zero, List.set_cons_succ]
      refine wpAnyH_take (i := 2) (v := ?_) rfl (by kernel_rfl) (by kernel_rfl) (by kernel_rfl) (fun _ _ _ h => h) (Or.inl ⟨by rfl, ?_⟩) (by assumption) ?_
      rotate_left
      · intro w hSw; (try dsimp only at hSw); obtain ⟨c0, cg, hcv, hlk⟩ := HLW.out w hSw.out; go_simp; try with_reducible rfl
      simp only [Act.put, List.getElem_toArray, List.getElem_cons_zero, List.getElem_cons_succ, List.setIfInBounds_toArray, List.set_cons_zero, List.set_cons_succ]
      refine wpAnyH_take (i := 3) (v := ?_) rfl (by kernel_rfl) (by kernel_rfl) (by kernel_rfl) (fun _ _ _ h => h) (Or.inl ⟨by rfl, ?_⟩) (by assumption) ?_
      rotate_left
      · intro w hSw; (try dsimp only at hSw); obtain ⟨c0, cg, hcv, hlk⟩ := HLW.out w hSw.out; go_simp; try with_reducible rfl
      simp only [Act.put, List.getElem_toArray, List.getElem_cons_zero, List.getElem_cons_succ, List.setIfInBounds_toArray, List.set_cons_zero, List.set_cons_succ]
      refine wpAnyH_take (i := 4) (v := ?_) rfl (by kernel_rfl) (by kernel_rfl) (by kernel_rfl) (fun _ _ _ h => h) (Or.inl ⟨by rfl, ?_⟩) (by assumption) ?_
      rotate_left
      · intro w hSw; (try dsimp only at hSw); obtain ⟨c0, cg, hcv, hlk⟩ := HLW.out w hSw.out; go_simp; try with_reducible rfl
      simp only [Act.put, List.getElem_toArray, List.getElem_cons_zero, List.getElem_cons_succ, List.setIfInBounds_toArray, List.set_cons_zero, List.set_cons_succ]
      refine wpAnyH_take (i := 5) (v := ?_) rfl (by kernel_rfl) (by kernel_rfl) (by kernel_rfl) (fun _ _ _ h => h) (Or.inl ⟨by rfl, ?_⟩) (by assumption) ?_
      rotate_left
      · intro w hSw; (try dsimp only at hSw); obtain ⟨c0, cg, hcv, hlk⟩ := HLW.out w hSw.out; go_simp; try with_reducible rfl
      simp only [Act.put, List.getElem_toArray, List.getElem_cons_zero, List.getElem_cons_succ, List.setIfInBounds_toArray, List.set_cons_zero, List.set_cons_succ]
      refine wpAnyH_take (i := 6) (v := ?_) rfl (by kernel_rfl) (by kernel_rfl) (by kernel_rfl) (fun _ _ _ h => h) (Or.inl ⟨by rfl, ?_⟩) (by assumption) ?_
      rotate_left
      · intro w hSw; (try dsimp only at hSw); obtain ⟨c0, cg, hcv, hlk⟩ := HLW.out w hSw.out; go_simp; try with_reducible rfl
      simp only [Act.put, List.getElem_toArray, List.getElem_cons_zero, List.getElem_cons_succ, List.setIfInBounds_toArray, List.set_cons_zero, List.set_cons_succ]
      refine wpAnyH_take (i := 7) (v := ?_) rfl (by kernel_rfl) (by kernel_rfl) (by kernel_rfl) (fun _ _ _ h => h) (Or.inl ⟨by rfl, ?_⟩) (by assumption) ?_
      rotate_left
      · intro w hSw; (try dsimp only at hSw); obtain ⟨c0, cg, hcv, hlk⟩ := HLW.out w hSw.out; go_simp; try with_reducible rfl
      simp only [Act.put, List.getElem_toArray, List.getElem_cons_zero, List.getElem_cons_succ, List.setIfInBounds_toArray, List.set_cons_zero, List.set_cons_succ]
      refine wpAnyH_take (i := 8) (v := ?_) rfl (by kernel_rfl) (by kernel_rfl) (by kernel_rfl) (fun _ _ _ h => h) (Or.inl ⟨by rfl, ?_⟩) (by assumption) ?_
      rotate_left
      · intro w hSw; (try dsimp only at hSw); obtain ⟨c0, cg, hcv, hlk⟩ := HLW.out w hSw.out; go_simp; try with_reducible rfl
      simp only [Act.put, List.getElem_toArray, List.getElem_cons_zero, List.getElem_cons_succ, List.setIfInBounds_toArray, List.set_cons_zero, List.set_cons_succ]
      refine wpAnyH_take (i := 9) (v := ?_) rfl (by kernel_rfl) (by kernel_rfl) (by kernel_rfl) (fun _ _ _ h => h) (Or.inl ⟨by rfl, ?_⟩) (by assumption) ?_
      rotate_left
      · intro w hSw; (try dsimp only at hSw); obtain ⟨c0, cg, hcv, hlk⟩ := HLW.out w hSw.out; go_simp; try with_reducible rfl
      simp only [Act.put, List.getElem_toArray, List.getElem_cons_zero, List.getElem_cons_succ, List.setIfInBounds_toArray, List.set_cons_zero, List.set_cons_succ]
      refine wpAnyH_take (i := 10) (v := ?_) rfl (by kernel_rfl) (by kernel_rfl) (by kernel_rfl) (fun _ _ _ h => h) (Or.inl ⟨by rfl, ?_⟩) (by assumption) ?_
      rotate_left
      · intro w hSw; (try dsimp only at hSw); obtain ⟨c0, cg, hcv, hlk⟩ := HLW.out w hSw.out; go_simp; try with_reducible rfl
      simp only [Act.put, List.getElem_toArray, List.getElem_cons_zero, List.getElem_cons_succ, List.setIfInBounds_toArray, List.set_cons_zero, List.set_cons_succ]
      refine wpAnyH_take (i := 11) (v := ?_) rfl (by kernel_rfl) (by kernel_rfl) (by kernel_rfl) (fun _ _ _ h => h) (Or.inl ⟨by rfl, ?_⟩) (by assumption) ?_
      rotate_left
      · intro w hSw; (try dsimp only at hSw); obtain ⟨c0, cg, hcv, hlk⟩ := HLW.out w hSw.out; go_simp; try with_reducible rfl
      simp only [Act.put, List.getElem_toArray, List.getElem_cons_zero, List.getElem_cons_succ, List.setIfInBounds_toArray, List.set_cons_zero, List.set_cons_succ]
      refine wpAnyH_ready (rs := [12]) (by kernel_rfl) (by simp) ?_
      refine AllReadyH.cons rfl (fun K hK => ?_) AllReadyH.nil
      go_simp
      refine hK.out _ _ (by first | exact hide (balloc (Below.refl _ _) _).drew | exact hide ((balloc (Below.refl _ _) _).setCell (Nat.le_refl _) _).drew | exact hide (balloc (Below.refl _ _) _)) (fun hHeld => ?_)
      clear hK
      try simp only [Act.put, List.getElem_toArray, List.getElem_cons_zero, List.getElem_cons_succ, List.setIfInBounds_toArray, List.set_cons_zero, List.set_cons_succ]
      refine wpAnyH_ready (rs := [13]) (by kernel_rfl) (by simp) ?_
      refine AllReadyH.cons rfl (fun K hK => ?_) AllReadyH.nil
      go_simp
      refine hK.out _ _ (by first | exact hide (balloc (Below.refl _ _) _).drew | exact hide ((balloc (Below.refl _ _) _).setCell (Nat.le_refl _) _).drew | exact hide (balloc (Below.refl _ _) _)) (fun hHeld => ?_)
      clear hK
      try simp only [Act.put, List.getElem_toArray, List.getElem_cons_zero, List.getElem_cons_succ, List.setIfInBounds_toArray, List.set_cons_zero, List.set_cons_succ]
      refine wpAnyH_take (i := 14) (v := ?_) rfl (by kernel_rfl) (by kernel_rfl) (by kernel_rfl) (fun _ _ _ h => h) (Or.inl ⟨by rfl, ?_⟩) (by assumption) ?_
      rotate_left
      · intro w hSw; (try dsimp only at hSw); obtain ⟨c0, cg, hcv, hlk⟩ := HLW.out w hSw.out; go_simp; try with_reducible rfl
      simp only [Act.put, List.getElem_toArray, List.getElem_cons_zero, List.getElem_cons_succ, List.setIfInBounds_toArray, List.set_cons_zero, List.set_cons_succ]
      refine wpAnyH_done (by kernel_rfl) ?_ _
      go_wp2
      go_ret
      exact lineAns_bad (HB3.out.trans ((balloc (Below.refl _ _) _).drew.mono hs3)) lo2 HP.out (by decide)
    | some rc =>
      obtain ⟨ro, co⟩ := rc
      have hwl := HWL.out
      have hlc := HLC.out
      rw [hwo] at hwl hlc
      dsimp only at hwl hlc
      obtain ⟨_, _, _, hro, hci, hct⟩ := hwl
      have HLC2 := hide hlc
      have HST2 := hide (HST.out ro co hwo)
      have HCI := hide hci
      have HCT := hide hct
      clear hlc hci hct HWL HLC HST
      rw [hwo] at HLK
      dsimp only at HLK
      unfold opV at HLK
      have HTK : Hid (∀ W, Below w.heap.size w W → Calls Tryz.prog 76 #[.agg #[.int .i64 ro, .int .i64 co], .int .i64 nr] W fun e w' => e = .returned (.bool (takesB ro co nr)) ∧ Below W.heap.size W w') := hide (fun W hW => takes_any ro co nr W hro (by omega) HCI.out HCT.out (hide (ht.out.keep hW ht.out.1)) (hide (ht2.out.keep hW ht2.out.1)))
      cases htk : takesB ro co nr with
      | false =>
        have e6 : lineCode (F :: r) = 6 := by have := HLC2.out; rw [htk] at this; exact this
        have HP : Hid (lineP s line = .bad 6) := hide (by rw [HLP0.out (by rw [e6]; decide), e6])
        rw [htk] at HTK
        clear h hM ht ht2 hm htot hx ha HFS HLP0 HLP1 e6 hwo HLC2 HST2 HCI HCT
        go_enter Tryz.func57, Tryz.ntmps57
        go_wp2_with (go_at_call 55; refine HSF.out.mono ?_; rintro e w3 ⟨hb3, hyes, _⟩; obtain ⟨g, k, hg, hk, rfl, hpc⟩ := hyes hall; have hk' : k = nr + 1 := (by rw [hk, List.length_cons, HNR.out]); subst hk'; obtain ⟨v0, hv0, hp0⟩ := hpc.2 0 (by simp); obtain ⟨o1, c1, rfl, hlw⟩ := HLK.out w3 g v0 hb3 hv0 hp0 hpc.1; have HLW := hide hlw; have HB3 := hide hb3; have HPC := hide hpc; have hs3 := hb3.size; have hgl := hpc.1; clear hyes hb3 hpc hv0 hp0 hlw hk)
        refine wp_region_held_drew (S := (fun w' => Hid (Below w3.heap.size w3 w'))) (by kernel_rfl) (hide (by first | exact (Below.refl _ _).drew | exact Below.refl _ _)) (fun hHeld => ?_)
        refine wpAnyH_take (i := 0) (v := ?_) rfl (by kernel_rfl) (by kernel_rfl) (by kernel_rfl) (fun _ _ _ h => h) (Or.inl ⟨by rfl, ?_⟩) (by assumption) ?_
        rotate_left
        · intro w hSw; (try dsimp only at hSw); obtain ⟨c0, cg, hcv, hlk⟩ := HLW.out w hSw.out; go_simp; try with_reducible rfl
        simp only [Act.put, List.getElem_toArray, List.getElem_cons_zero, List.setIfInBounds_toArray, List.set_cons_zero, List.set_cons_succ]
        refine wpAnyH_take (i := 1) (v := ?_) rfl (by kernel_rfl) (by kernel_rfl) (by kernel_rfl) (fun _ _ _ h => h) (Or.inl ⟨by rfl, ?_⟩) (by assumption) ?_
        rotate_left
        · intro w hSw; (try dsimp only at hSw); obtain ⟨c0, cg, hcv, hlk⟩ := HLW.out w hSw.out; go_simp; try with_reducible rfl
        simp only [Act.put, List.getElem_toArray, List.getElem_cons_zero, List.getElem_cons_succ, List.setIfInBounds_toArray, List.set_cons_zero, List.set_cons_succ]
        refine wpAnyH_take (i := 2) (v := ?_) rfl (by kernel_rfl) (by kernel_rfl) (by kernel_rfl) (fun _ _ _ h => h) (Or.inl ⟨by rfl, ?_⟩) (by assumption) ?_
        rotate_left
        · intro w hSw; (try dsimp only at hSw); obtain ⟨c0, cg, hcv, hlk⟩ := HLW.out w hSw.out; go_simp; try with_reducible rfl
        simp only [Act.put, List.getElem_toArray, List.getElem_cons_zero, List.getElem_cons_succ, List.setIfInBounds_toArray, List.set_cons_zero, List.set_cons_succ]
        refine wpAnyH_take (i := 3) (v := ?_) rfl (by kernel_rfl) (by kernel_rfl) (by kernel_rfl) (fun _ _ _ h => h) (Or.inl ⟨by rfl, ?_⟩) (by assumption) ?_
        rotate_left
        · intro w hSw; (try dsimp only at hSw); obtain ⟨c0, cg, hcv, hlk⟩ := HLW.out w hSw.out; go_simp; try with_reducible rfl
        simp only [Act.put, List.getElem_toArray, List.getElem_cons_zero, List.getElem_cons_succ, List.setIfInBounds_toArray, List.set_cons_zero, List.set_cons_succ]
        refine wpAnyH_take (i := 4) (v := ?_) rfl (by kernel_rfl) (by kernel_rfl) (by kernel_rfl) (fun _ _ _ h => h) (Or.inl ⟨by rfl, ?_⟩) (by assumption) ?_
        rotate_left
        · intro w hSw; (try dsimp only at hSw); obtain ⟨c0, cg, hcv, hlk⟩ := HLW.out w hSw.out; go_simp; try with_reducible rfl
        simp only [Act.put, List.getElem_toArray, List.getElem_cons_zero, List.getElem_cons_succ, List.setIfInBounds_toArray, List.set_cons_zero, List.set_cons_succ]
        refine wpAnyH_take (i := 5) (v := ?_) rfl (by kernel_rfl) (by kernel_rfl) (by kernel_rfl) (fun _ _ _ h => h) (Or.inl ⟨by rfl, ?_⟩) (by assumption) ?_
        rotate_left
        · intro w hSw; (try dsimp only at hSw); obtain ⟨c0, cg, hcv, hlk⟩ := HLW.out w hSw.out; go_simp; try with_reducible rfl
        simp only [Act.put, List.getElem_toArray, List.getElem_cons_zero, List.getElem_cons_succ, List.setIfInBounds_toArray, List.set_cons_zero, List.set_cons_succ]
        refine wpAnyH_take (i := 6) (v := ?_) rfl (by kernel_rfl) (by kernel_rfl) (by kernel_rfl) (fun _ _ _ h => h) (Or.inl ⟨by rfl, ?_⟩) (by assumption) ?_
        rotate_left
        · intro w hSw; (try dsimp only at hSw); obtain ⟨c0, cg, hcv, hlk⟩ := HLW.out w hSw.out; go_simp; try with_reducible rfl
        simp only [Act.put, List.getElem_toArray, List.getElem_cons_zero, List.getElem_cons_succ, List.setIfInBounds_toArray, List.set_cons_zero, List.set_cons_succ]
        refine wpAnyH_take (i := 7) (v := ?_) rfl (by kernel_rfl) (by kernel_rfl) (by kernel_rfl) (fun _ _ _ h => h) (Or.inl ⟨by rfl, ?_⟩) (by assumption) ?_
        rotate_left
        · intro w hSw; (try dsimp only at hSw); obtain ⟨c0, cg, hcv, hlk⟩ := HLW.out w hSw.out; go_simp; try with_reducible rfl
        simp only [Act.put, List.getElem_toArray, List.getElem_cons_zero, List.getElem_cons_succ, List.setIfInBounds_toArray, List.set_cons_zero, List.set_cons_succ]
        refine wpAnyH_take (i := 8) (v := ?_) rfl (by kernel_rfl) (by kernel_rfl) (by kernel_rfl) (fun _ _ _ h => h) (Or.inl ⟨by rfl, ?_⟩) (by assumption) ?_
        rotate_left
        · intro w hSw; (try dsimp only at hSw); obtain ⟨c0, cg, hcv, hlk⟩ := HLW.out w hSw.out; go_simp; try with_reducible rfl
        simp only [Act.put, List.getElem_toArray, List.getElem_cons_zero, List.getElem_cons_succ, List.setIfInBounds_toArray, List.set_cons_zero, List.set_cons_succ]
        refine wpAnyH_take (i := 9) (v := ?_) rfl (by kernel_rfl) (by kernel_rfl) (by kernel_rfl) (fun _ _ _ h => h) (Or.inl ⟨by rfl, ?_⟩) (by assumption) ?_
        rotate_left
        · intro w hSw; (try dsimp only at hSw); obtain ⟨c0, cg, hcv, hlk⟩ := HLW.out w hSw.out; go_simp; try with_reducible rfl
        simp only [Act.put, List.getElem_toArray, List.getElem_cons_zero, List.getElem_cons_succ, List.setIfInBounds_toArray, List.set_cons_zero, List.set_cons_succ]
        refine wpAnyH_take (i := 10) (v := ?_) rfl (by kernel_rfl) (by kernel_rfl) (by kernel_rfl) (fun _ _ _ h => h) (Or.inl ⟨by rfl, ?_⟩) (by assumption) ?_
        rotate_left
        · intro w hSw; (try dsimp only at hSw); obtain ⟨c0, cg, hcv, hlk⟩ := HLW.out w hSw.out; go_simp; try with_reducible rfl
        simp only [Act.put, List.getElem_toArray, List.getElem_cons_zero, List.getElem_cons_succ, List.setIfInBounds_toArray, List.set_cons_zero, List.set_cons_succ]
        refine wpAnyH_take (i := 11) (v := ?_) rfl (by kernel_rfl) (by kernel_rfl) (by kernel_rfl) (fun _ _ _ h => h) (Or.inl ⟨by rfl, ?_⟩) (by assumption) ?_
        rotate_left
        · intro w hSw; (try dsimp only at hSw); obtain ⟨c0, cg, hcv, hlk⟩ := HLW.out w hSw.out; go_simp; try with_reducible rfl
        simp only [Act.put, List.getElem_toArray, List.getElem_cons_zero, List.getElem_cons_succ, List.setIfInBounds_toArray, List.set_cons_zero, List.set_cons_succ]
        refine wpAnyH_ready (rs := [12]) (by kernel_rfl) (by simp) ?_
        refine AllReadyH.cons rfl (fun K hK => ?_) AllReadyH.nil
        go_simp
        refine hK.out _ _ (by first | exact hide (balloc (Below.refl _ _) _).drew | exact hide ((balloc (Below.refl _ _) _).setCell (Nat.le_refl _) _).drew | exact hide (balloc (Below.refl _ _) _)) (fun hHeld => ?_)
        clear hK
        try simp only [Act.put, List.getElem_toArray, List.getElem_cons_zero, List.getElem_cons_succ, List.setIfInBounds_toArray, List.set_cons_zero, List.set_cons_succ]
        refine wpAnyH_ready (rs := [13]) (by kernel_rfl) (by simp) ?_
        refine AllReadyH.cons rfl (fun K hK => ?_) AllReadyH.nil
        go_simp
        refine hK.out _ _ (by first | exact hide (balloc (Below.refl _ _) _).drew | exact hide ((balloc (Below.refl _ _) _).setCell (Nat.le_refl _) _).drew | exact hide (balloc (Below.refl _ _) _)) (fun hHeld => ?_)
        clear hK
        try simp only [Act.put, List.getElem_toArray, List.getElem_cons_zero, List.getElem_cons_succ, List.setIfInBounds_toArray, List.set_cons_zero, List.set_cons_succ]
        refine wpAnyH_take (i := 14) (v := ?_) rfl (by kernel_rfl) (by kernel_rfl) (by kernel_rfl) (fun _ _ _ h => h) (Or.inl ⟨by rfl, ?_⟩) (by assumption) ?_
        rotate_left
        · intro w hSw; (try dsimp only at hSw); obtain ⟨c0, cg, hcv, hlk⟩ := HLW.out w hSw.out; go_simp; try with_reducible rfl
        simp only [Act.put, List.getElem_toArray, List.getElem_cons_zero, List.getElem_cons_succ, List.setIfInBounds_toArray, List.set_cons_zero, List.set_cons_succ]
        refine wpAnyH_done (by kernel_rfl) ?_ _
        go_wp2_with (go_at_call 76; refine (HTK.out _ (HB3.out.trans ((balloc (Below.refl _ _) _).drew.mono hs3))).mono ?_; rintro e w5 ⟨rfl, hb5⟩; have HB5 := hide hb5; clear hb5)
        go_ret
        exact lineAns_bad (bnext (HB3.out.trans ((balloc (Below.refl _ _) _).drew.mono hs3)) HB5.out) lo2 HP.out (by decide)
      | true =>
        have HRN : Hid (∀ w3 g W fa, Below w.heap.size w w3 → PiecesAt w3 b g (F :: r) → Below w3.heap.size w3 W → (nr = 0 ∨ fa = some ⟨g, 1, none⟩) → Calls Tryz.prog 77 #[.agg #[.int .i64 ro, .int .i64 co], .slice fa nr nr] W fun e w' => Below W.heap.size W w' ∧ NumsAns W.heap.size w' (conAt ro co nr) r e) := hide (fun w3 g W fa k3 hp kW hfa => readNumbers_any ro co nr nr b W.heap.size fa r W (hide HNR.out.symm) (by omega) (by have := k3.size; have := kW.size; omega) (Nat.le_refl _) (hide (fun i hi => by
          have := k3.size; have := kW.size
          have hg := hp.1
          have hr0 := HNR.out
          rcases hfa with h0 | rfl
          · omega
          · obtain ⟨v, hv, hpv⟩ := hp.2 (i + 1) (by rw [List.length_cons]; omega)
            rw [List.getElem_cons_succ] at hpv
            exact ⟨g, 1, v, rfl, by omega, by rw [Nat.add_comm 1 i]; exact (kW.cell (p := ⟨g, i + 1, none⟩) hg).trans hv, hpv.keep (kW.block b (by omega))⟩)) (hide (fun f hf => HFS.out f (List.mem_cons_of_mem _ hf))))
        have HQ : Hid (∀ w3 W, Below (w3.alloc (.cells #[.int .i64 ro, .int .i64 co] 111)).drew.heap.size (w3.alloc (.cells #[.int .i64 ro, .int .i64 co] 111)).drew W → Below w3.heap.size w3 W ∧ W.cell? ⟨w3.heap.size, 0, none⟩ = some (.int .i64 ro) ∧ W.cell? ⟨w3.heap.size, 1, none⟩ = some (.int .i64 co)) := hide (fun w3 W k => by
          have hs : w3.heap.size < (w3.alloc (.cells #[.int .i64 ro, .int .i64 co] 111)).drew.heap.size := by show _ < (w3.alloc _).heap.size; rw [World.size_alloc]; omega
          exact ⟨bnext (balloc (Below.refl _ _) _).drew k, (k.cell (p := ⟨w3.heap.size, 0, none⟩) hs).trans (by simp), (k.cell (p := ⟨w3.heap.size, 1, none⟩) hs).trans (by simp)⟩)
        rw [htk] at HTK
        cases hok : oksF (conAt ro co nr) 0 r with
        | false =>
          have e7 : lineCode (F :: r) = 7 := by have := HLC2.out; rw [htk, hok] at this; exact this
          have HP : Hid (lineP s line = .bad 7) := hide (by rw [HLP0.out (by rw [e7]; decide), e7])
          clear h hM ht ht2 hm htot hx ha HFS HLP0 HLP1 e7 hwo HLC2 HST2 HCI HCT
          go_enter Tryz.func57, Tryz.ntmps57
          go_wp2_with (go_at_call 55; refine HSF.out.mono ?_; rintro e w3 ⟨hb3, hyes, _⟩; obtain ⟨g, k, hg, hk, rfl, hpc⟩ := hyes hall; have hk' : k = nr + 1 := (by rw [hk, List.length_cons, HNR.out]); subst hk'; obtain ⟨v0, hv0, hp0⟩ := hpc.2 0 (by simp); obtain ⟨o1, c1, rfl, hlw⟩ := HLK.out w3 g v0 hb3 hv0 hp0 hpc.1; have HLW := hide hlw; have HB3 := hide hb3; have HPC := hide hpc; have hs3 := hb3.size; have hgl := hpc.1; clear hyes hb3 hpc hv0 hp0 hlw hk)
          refine wp_region_held_drew (S := (fun w' => Hid (Below w3.heap.size w3 w'))) (by kernel_rfl) (hide (by first | exact (Below.refl _ _).drew | exact Below.refl _ _)) (fun hHeld => ?_)
          refine wpAnyH_take (i := 0) (v := ?_) rfl (by kernel_rfl) (by kernel_rfl) (by kernel_rfl) (fun _ _ _ h => h) (Or.inl ⟨by rfl, ?_⟩) (by assumption) ?_
          rotate_left
          · intro w hSw; (try dsimp only at hSw); obtain ⟨c0, cg, hcv, hlk⟩ := HLW.out w hSw.out; go_simp; try with_reducible rfl
          simp only [Act.put, List.getElem_toArray, List.getElem_cons_zero, List.setIfInBounds_toArray, List.set_cons_zero, List.set_cons_succ]
          refine wpAnyH_take (i := 1) (v := ?_) rfl (by kernel_rfl) (by kernel_rfl) (by kernel_rfl) (fun _ _ _ h => h) (Or.inl ⟨by rfl, ?_⟩) (by assumption) ?_
          rotate_left
          · intro w hSw; (try dsimp only at hSw); obtain ⟨c0, cg, hcv, hlk⟩ := HLW.out w hSw.out; go_simp; try with_reducible rfl
          simp only [Act.put, List.getElem_toArray, List.getElem_cons_zero, List.getElem_cons_succ, List.setIfInBounds_toArray, List.set_cons_zero, List.set_cons_succ]
          refine wpAnyH_take (i := 2) (v := ?_) rfl (by kernel_rfl) (by kernel_rfl) (by kernel_rfl) (fun _ _ _ h => h) (Or.inl ⟨by rfl, ?_⟩) (by assumption) ?_
          rotate_left
          · intro w hSw; (try dsimp only at hSw); obtain ⟨c0, cg, hcv, hlk⟩ := HLW.out w hSw.out; go_simp; try with_reducible rfl
          simp only [Act.put, List.getElem_toArray, List.getElem_cons_zero, List.getElem_cons_succ, List.setIfInBounds_toArray, List.set_cons_zero, List.set_cons_succ]
          refine wpAnyH_take (i := 3) (v := ?_) rfl (by kernel_rfl) (by kernel_rfl) (by kernel_rfl) (fun _ _ _ h => h) (Or.inl ⟨by rfl, ?_⟩) (by assumption) ?_
          rotate_left
          · intro w hSw; (try dsimp only at hSw); obtain ⟨c0, cg, hcv, hlk⟩ := HLW.out w hSw.out; go_simp; try with_reducible rfl
          simp only [Act.put, List.getElem_toArray, List.getElem_cons_zero, List.getElem_cons_succ, List.setIfInBounds_toArray, List.set_cons_zero, List.set_cons_succ]
          refine wpAnyH_take (i := 4) (v := ?_) rfl (by kernel_rfl) (by kernel_rfl) (by kernel_rfl) (fun _ _ _ h => h) (Or.inl ⟨by rfl, ?_⟩) (by assumption) ?_
          rotate_left
          · intro w hSw; (try dsimp only at hSw); obtain ⟨c0, cg, hcv, hlk⟩ := HLW.out w hSw.out; go_simp; try with_reducible rfl
          simp only [Act.put, List.getElem_toArray, List.getElem_cons_zero, List.getElem_cons_succ, List.setIfInBounds_toArray, List.set_cons_zero, List.set_cons_succ]
          refine wpAnyH_take (i := 5) (v := ?_) rfl (by kernel_rfl) (by kernel_rfl) (by kernel_rfl) (fun _ _ _ h => h) (Or.inl ⟨by rfl, ?_⟩) (by assumption) ?_
          rotate_left
          · intro w hSw; (try dsimp only at hSw); obtain ⟨c0, cg, hcv, hlk⟩ := HLW.out w hSw.out; go_simp; try with_reducible rfl
          simp only [Act.put, List.getElem_toArray, List.getElem_cons_zero, List.getElem_cons_succ, List.setIfInBounds_toArray, List.set_cons_zero, List.set_cons_succ]
          refine wpAnyH_take (i := 6) (v := ?_) rfl (by kernel_rfl) (by kernel_rfl) (by kernel_rfl) (fun _ _ _ h => h) (Or.inl ⟨by rfl, ?_⟩) (by assumption) ?_
          rotate_left
          · intro w hSw; (try dsimp only at hSw); obtain ⟨c0, cg, hcv, hlk⟩ := HLW.out w hSw.out; go_simp; try with_reducible rfl
          simp only [Act.put, List.getElem_toArray, List.getElem_cons_zero, List.getElem_cons_succ, List.setIfInBounds_toArray, List.set_cons_zero, List.set_cons_succ]
          refine wpAnyH_take (i := 7) (v := ?_) rfl (by kernel_rfl) (by kernel_rfl) (by kernel_rfl) (fun _ _ _ h => h) (Or.inl ⟨by rfl, ?_⟩) (by assumption) ?_
          rotate_left
          · intro w hSw; (try dsimp only at hSw); obtain ⟨c0, cg, hcv, hlk⟩ := HLW.out w hSw.out; go_simp; try with_reducible rfl
          simp only [Act.put, List.getElem_toArray, List.getElem_cons_zero, List.getElem_cons_succ, List.setIfInBounds_toArray, List.set_cons_zero, List.set_cons_succ]
          refine wpAnyH_take (i := 8) (v := ?_) rfl (by kernel_rfl) (by kernel_rfl) (by kernel_rfl) (fun _ _ _ h => h) (Or.inl ⟨by rfl, ?_⟩) (by assumption) ?_
          rotate_left
          · intro w hSw; (try dsimp only at hSw); obtain ⟨c0, cg, hcv, hlk⟩ := HLW.out w hSw.out; go_simp; try with_reducible rfl
          simp only [Act.put, List.getElem_toArray, List.getElem_cons_zero, List.getElem_cons_succ, List.setIfInBounds_toArray, List.set_cons_zero, List.set_cons_succ]
          refine wpAnyH_take (i := 9) (v := ?_) rfl (by kernel_rfl) (by kernel_rfl) (by kernel_rfl) (fun _ _ _ h => h) (Or.inl ⟨by rfl, ?_⟩) (by assumption) ?_
          rotate_left
          · intro w hSw; (try dsimp only at hSw); obtain ⟨c0, cg, hcv, hlk⟩ := HLW.out w hSw.out; go_simp; try with_reducible rfl
          simp only [Act.put, List.getElem_toArray, List.getElem_cons_zero, List.getElem_cons_succ, List.setIfInBounds_toArray, List.set_cons_zero, List.set_cons_succ]
          refine wpAnyH_take (i := 10) (v := ?_) rfl (by kernel_rfl) (by kernel_rfl) (by kernel_rfl) (fun _ _ _ h => h) (Or.inl ⟨by rfl, ?_⟩) (by assumption) ?_
          rotate_left
          · intro w hSw; (try dsimp only at hSw); obtain ⟨c0, cg, hcv, hlk⟩ := HLW.out w hSw.out; go_simp; try with_reducible rfl
          simp only [Act.put, List.getElem_toArray, List.getElem_cons_zero, List.getElem_cons_succ, List.setIfInBounds_toArray, List.set_cons_zero, List.set_cons_succ]
          refine wpAnyH_take (i := 11) (v := ?_) rfl (by kernel_rfl) (by kernel_rfl) (by kernel_rfl) (fun _ _ _ h => h) (Or.inl ⟨by rfl, ?_⟩) (by assumption) ?_
          rotate_left
          · intro w hSw; (try dsimp only at hSw); obtain ⟨c0, cg, hcv, hlk⟩ := HLW.out w hSw.out; go_simp; try with_reducible rfl
          simp only [Act.put, List.getElem_toArray, List.getElem_cons_zero, List.getElem_cons_succ, List.setIfInBounds_toArray, List.set_cons_zero, List.set_cons_succ]
          refine wpAnyH_ready (rs := [12]) (by kernel_rfl) (by simp) ?_
          refine AllReadyH.cons rfl (fun K hK => ?_) AllReadyH.nil
          go_simp
          refine hK.out _ _ (by first | exact hide (balloc (Below.refl _ _) _).drew | exact hide ((balloc (Below.refl _ _) _).setCell (Nat.le_refl _) _).drew | exact hide (balloc (Below.refl _ _) _)) (fun hHeld => ?_)
          clear hK
          try simp only [Act.put, List.getElem_toArray, List.getElem_cons_zero, List.getElem_cons_succ, List.setIfInBounds_toArray, List.set_cons_zero, List.set_cons_succ]
          refine wpAnyH_ready (rs := [13]) (by kernel_rfl) (by simp) ?_
          refine AllReadyH.cons rfl (fun K hK => ?_) AllReadyH.nil
          go_simp
          refine hK.out _ _ (by first | exact hide (balloc (Below.refl _ _) _).drew | exact hide ((balloc (Below.refl _ _) _).setCell (Nat.le_refl _) _).drew | exact hide (balloc (Below.refl _ _) _)) (fun hHeld => ?_)
          clear hK
          try simp only [Act.put, List.getElem_toArray, List.getElem_cons_zero, List.getElem_cons_succ, List.setIfInBounds_toArray, List.set_cons_zero, List.set_cons_succ]
          refine wpAnyH_take (i := 14) (v := ?_) rfl (by kernel_rfl) (by kernel_rfl) (by kernel_rfl) (fun _ _ _ h => h) (Or.inl ⟨by rfl, ?_⟩) (by assumption) ?_
          rotate_left
          · intro w hSw; (try dsimp only at hSw); obtain ⟨c0, cg, hcv, hlk⟩ := HLW.out w hSw.out; go_simp; try with_reducible rfl
          simp only [Act.put, List.getElem_toArray, List.getElem_cons_zero, List.getElem_cons_succ, List.setIfInBounds_toArray, List.set_cons_zero, List.set_cons_succ]
          refine wpAnyH_done (by kernel_rfl) ?_ _
          go_wp2_with (go_at_call 76; refine (HTK.out _ (HB3.out.trans ((balloc (Below.refl _ _) _).drew.mono hs3))).mono ?_; rintro e w5 ⟨rfl, hb5⟩; have HB5 := hide hb5; obtain ⟨hc5, q0, q1⟩ := HQ.out w3 w5 hb5; have HC5 := hide hc5; have hs5 := hc5.size; clear hb5 hc5)
          refine wp_region_held_drew (S := (fun w' => w'.cell? ⟨w3.heap.size, 0, none⟩ = some (.int .i64 ro) ∧ w'.cell? ⟨w3.heap.size, 1, none⟩ = some (.int .i64 co))) (by kernel_rfl) (by (try dsimp only); go_keep) (fun hHeld => ?_)
          refine wpAnyH_take (i := 0) (v := ?_) rfl (by kernel_rfl) (by kernel_rfl) (by kernel_rfl) (fun _ _ _ h => h) (Or.inl ⟨by rfl, ?_⟩) (by assumption) ?_
          rotate_left
          · intro w hSw; (try dsimp only at hSw); go_simp; try with_reducible rfl
          simp only [Act.put, List.getElem_toArray, List.getElem_cons_zero, List.setIfInBounds_toArray, List.set_cons_zero, List.set_cons_succ]
          refine wpAnyH_take (i := 1) (v := ?_) rfl (by kernel_rfl) (by kernel_rfl) (by kernel_rfl) (fun _ _ _ h => h) (Or.inl ⟨by rfl, ?_⟩) (by assumption) ?_
          rotate_left
          · intro w hSw; (try dsimp only at hSw); go_simp; try with_reducible rfl
          simp only [Act.put, List.getElem_toArray, List.getElem_cons_zero, List.getElem_cons_succ, List.setIfInBounds_toArray, List.set_cons_zero, List.set_cons_succ]
          refine wpAnyH_take (i := 2) (v := ?_) rfl (by kernel_rfl) (by kernel_rfl) (by kernel_rfl) (fun _ _ _ h => h) (Or.inl ⟨by rfl, ?_⟩) (by assumption) ?_
          rotate_left
          · intro w hSw; (try dsimp only at hSw); go_simp; try with_reducible rfl
          simp only [Act.put, List.getElem_toArray, List.getElem_cons_zero, List.getElem_cons_succ, List.setIfInBounds_toArray, List.set_cons_zero, List.set_cons_succ]
          refine wpAnyH_ready (rs := [3]) (by kernel_rfl) (by simp) ?_
          refine AllReadyH.cons rfl (fun K hK => ?_) AllReadyH.nil
          go_simp
          refine (HRN.out w3 g _ _ HB3.out HPC.out HC5.out.drew (fa_side _ _)).mono ?_
          rintro e w6 ⟨hb6, hans⟩
          have HB6 := hide (bnext HB5.out.drew hb6)
          obtain ⟨hc6, p0, p1⟩ := HQ.out w3 w6 HB6.out
          have HC6 := hide hc6
          have hs6 := hc6.size
          have hle6 := hb6.size
          rw [hans.2 hok]
          clear hb6 hc6 hans
          refine hK.out _ _ (by first | with_reducible exact hHeld | ((try dsimp only); go_keep)) (fun hHeld => ?_)
          clear hK
          try simp only [Act.put, List.getElem_toArray, List.getElem_cons_zero, List.getElem_cons_succ, List.setIfInBounds_toArray, List.set_cons_zero, List.set_cons_succ]
          refine wpAnyH_take (i := 4) (v := ?_) rfl (by kernel_rfl) (by kernel_rfl) (by kernel_rfl) (fun _ _ _ h => h) (Or.inl ⟨by rfl, ?_⟩) (by assumption) ?_
          rotate_left
          · intro w hSw; (try dsimp only at hSw); go_simp; try with_reducible rfl
          simp only [Act.put, List.getElem_toArray, List.getElem_cons_zero, List.getElem_cons_succ, List.setIfInBounds_toArray, List.set_cons_zero, List.set_cons_succ]
          refine wpAnyH_take (i := 5) (v := ?_) rfl (by kernel_rfl) (by kernel_rfl) (by kernel_rfl) (fun _ _ _ h => h) (Or.inl ⟨by rfl, ?_⟩) (by assumption) ?_
          rotate_left
          · intro w hSw; (try dsimp only at hSw); go_simp; try with_reducible rfl
          simp only [Act.put, List.getElem_toArray, List.getElem_cons_zero, List.getElem_cons_succ, List.setIfInBounds_toArray, List.set_cons_zero, List.set_cons_succ]
          refine wpAnyH_take (i := 6) (v := ?_) rfl (by kernel_rfl) (by kernel_rfl) (by kernel_rfl) (fun _ _ _ h => h) (Or.inl ⟨by rfl, ?_⟩) (by assumption) ?_
          rotate_left
          · intro w hSw; (try dsimp only at hSw); go_simp; try with_reducible rfl
          simp only [Act.put, List.getElem_toArray, List.getElem_cons_zero, List.getElem_cons_succ, List.setIfInBounds_toArray, List.set_cons_zero, List.set_cons_succ]
          refine wpAnyH_take (i := 7) (v := ?_) rfl (by kernel_rfl) (by kernel_rfl) (by kernel_rfl) (fun _ _ _ h => h) (Or.inl ⟨by rfl, ?_⟩) (by assumption) ?_
          rotate_left
          · intro w hSw; (try dsimp only at hSw); go_simp; try with_reducible rfl
          simp only [Act.put, List.getElem_toArray, List.getElem_cons_zero, List.getElem_cons_succ, List.setIfInBounds_toArray, List.set_cons_zero, List.set_cons_succ]
          refine wpAnyH_take (i := 8) (v := ?_) rfl (by kernel_rfl) (by kernel_rfl) (by kernel_rfl) (fun _ _ _ h => h) (Or.inl ⟨by rfl, ?_⟩) (by assumption) ?_
          rotate_left
          · intro w hSw; (try dsimp only at hSw); go_simp; try with_reducible rfl
          simp only [Act.put, List.getElem_toArray, List.getElem_cons_zero, List.getElem_cons_succ, List.setIfInBounds_toArray, List.set_cons_zero, List.set_cons_succ]
          refine wpAnyH_done (by kernel_rfl) ?_ _
          go_wp2
          all_goals
            go_ret
            exact lineAns_bad (bnext HB3.out HC6.out) lo2 HP.out (by decide)
        | true =>
          have e0 : lineCode (F :: r) = 0 := by have := HLC2.out; rw [htk, hok] at this; exact this
          have HVL : Hid ((valsF (conAt ro co nr) 0 r).length = nr) := hide (by rw [valsF_len, HNR.out])
          have hst := HST2.out htk hok
          generalize hnums : valsF (conAt ro co nr) 0 r = nums at *
          have HNU := hide hnums
          have HIP : Hid (∀ W, Below w.heap.size w W → Calls Tryz.prog 78 #[.pointer (some ⟨R, 0, none⟩), .agg #[.int .i64 ro, .int .i64 co]] W fun e w' => e = .returned (.bool (stepO ro co nums s).isSome) ∧ Below W.heap.size W w') := hide (fun W hW => inPlace_st R _ V B0 s va vn vc ro co W (h.out.keep hW) hro htot.out nums)
          have hp' := HLP1.out _ e0 hst
          cases hso : stepO ro co nums s with
          | none =>
            rw [hso] at hp'
            have HP : Hid (lineP s line = .bad 8) := hide hp'
            rw [hso] at HIP
            dsimp only [Option.isSome] at HIP
            clear h hM ht ht2 hm htot hx ha HFS HLP0 HLP1 e0 hwo HLC2 HST2 HCI HCT hst hp' hso hnums
            go_enter Tryz.func57, Tryz.ntmps57
            go_wp2_with (go_at_call 55; refine HSF.out.mono ?_; rintro e w3 ⟨hb3, hyes, _⟩; obtain ⟨g, k, hg, hk, rfl, hpc⟩ := hyes hall; have hk' : k = nr + 1 := (by rw [hk, List.length_cons, HNR.out]); subst hk'; obtain ⟨v0, hv0, hp0⟩ := hpc.2 0 (by simp); obtain ⟨o1, c1, rfl, hlw⟩ := HLK.out w3 g v0 hb3 hv0 hp0 hpc.1; have HLW := hide hlw; have HB3 := hide hb3; have HPC := hide hpc; have hs3 := hb3.size; have hgl := hpc.1; clear hyes hb3 hpc hv0 hp0 hlw hk)
            refine wp_region_held_drew (S := (fun w' => Hid (Below w3.heap.size w3 w'))) (by kernel_rfl) (hide (by first | exact (Below.refl _ _).drew | exact Below.refl _ _)) (fun hHeld => ?_)
            refine wpAnyH_take (i := 0) (v := ?_) rfl (by kernel_rfl) (by kernel_rfl) (by kernel_rfl) (fun _ _ _ h => h) (Or.inl ⟨by rfl, ?_⟩) (by assumption) ?_
            rotate_left
            · intro w hSw; (try dsimp only at hSw); obtain ⟨c0, cg, hcv, hlk⟩ := HLW.out w hSw.out; go_simp; try with_reducible rfl
            simp only [Act.put, List.getElem_toArray, List.getElem_cons_zero, List.setIfInBounds_toArray, List.set_cons_zero, List.set_cons_succ]
            refine wpAnyH_take (i := 1) (v := ?_) rfl (by kernel_rfl) (by kernel_rfl) (by kernel_rfl) (fun _ _ _ h => h) (Or.inl ⟨by rfl, ?_⟩) (by assumption) ?_
            rotate_left
            · intro w hSw; (try dsimp only at hSw); obtain ⟨c0, cg, hcv, hlk⟩ := HLW.out w hSw.out; go_simp; try with_reducible rfl
            simp only [Act.put, List.getElem_toArray, List.getElem_cons_zero, List.getElem_cons_succ, List.setIfInBounds_toArray, List.set_cons_zero, List.set_cons_succ]
            refine wpAnyH_take (i := 2) (v := ?_) rfl (by kernel_rfl) (by kernel_rfl) (by kernel_rfl) (fun _ _ _ h => h) (Or.inl ⟨by rfl, ?_⟩) (by assumption) ?_
            rotate_left
            · intro w hSw; (try dsimp only at hSw); obtain ⟨c0, cg, hcv, hlk⟩ := HLW.out w hSw.out; go_simp; try with_reducible rfl
            simp only [Act.put, List.getElem_toArray, List.getElem_cons_zero, List.getElem_cons_succ, List.setIfInBounds_toArray, List.set_cons_zero, List.set_cons_succ]
            refine wpAnyH_take (i := 3) (v := ?_) rfl (by kernel_rfl) (by kernel_rfl) (by kernel_rfl) (fun _ _ _ h => h) (Or.inl ⟨by rfl, ?_⟩) (by assumption) ?_
            rotate_left
            · intro w hSw; (try dsimp only at hSw); obtain ⟨c0, cg, hcv, hlk⟩ := HLW.out w hSw.out; go_simp; try with_reducible rfl
            simp only [Act.put, List.getElem_toArray, List.getElem_cons_zero, List.getElem_cons_succ, List.setIfInBounds_toArray, List.set_cons_zero, List.set_cons_succ]
            refine wpAnyH_take (i := 4) (v := ?_) rfl (by kernel_rfl) (by kernel_rfl) (by kernel_rfl) (fun _ _ _ h => h) (Or.inl ⟨by rfl, ?_⟩) (by assumption) ?_
            rotate_left
            · intro w hSw; (try dsimp only at hSw); obtain ⟨c0, cg, hcv, hlk⟩ := HLW.out w hSw.out; go_simp; try with_reducible rfl
            simp only [Act.put, List.getElem_toArray, List.getElem_cons_zero, List.getElem_cons_succ, List.setIfInBounds_toArray, List.set_cons_zero, List.set_cons_succ]
            refine wpAnyH_take (i := 5) (v := ?_) rfl (by kernel_rfl) (by kernel_rfl) (by kernel_rfl) (fun _ _ _ h => h) (Or.inl ⟨by rfl, ?_⟩) (by assumption) ?_
            rotate_left
            · intro w hSw; (try dsimp only at hSw); obtain ⟨c0, cg, hcv, hlk⟩ := HLW.out w hSw.out; go_simp; try with_reducible rfl
            simp only [Act.put, List.getElem_toArray, List.getElem_cons_zero, List.getElem_cons_succ, List.setIfInBounds_toArray, List.set_cons_zero, List.set_cons_succ]
            refine wpAnyH_take (i := 6) (v := ?_) rfl (by kernel_rfl) (by kernel_rfl) (by kernel_rfl) (fun _ _ _ h => h) (Or.inl ⟨by rfl, ?_⟩) (by assumption) ?_
            rotate_left
            · intro w hSw; (try dsimp only at hSw); obtain ⟨c0, cg, hcv, hlk⟩ := HLW.out w hSw.out; go_simp; try with_reducible rfl
            simp only [Act.put, List.getElem_toArray, List.getElem_cons_zero, List.getElem_cons_succ, List.setIfInBounds_toArray, List.set_cons_zero, List.set_cons_succ]
            refine wpAnyH_take (i := 7) (v := ?_) rfl (by kernel_rfl) (by kernel_rfl) (by kernel_rfl) (fun _ _ _ h => h) (Or.inl ⟨by rfl, ?_⟩) (by assumption) ?_
            rotate_left
            · intro w hSw; (try dsimp only at hSw); obtain ⟨c0, cg, hcv, hlk⟩ := HLW.out w hSw.out; go_simp; try with_reducible rfl
            simp only [Act.put, List.getElem_toArray, List.getElem_cons_zero, List.getElem_cons_succ, List.setIfInBounds_toArray, List.set_cons_zero, List.set_cons_succ]
            refine wpAnyH_take (i := 8) (v := ?_) rfl (by kernel_rfl) (by kernel_rfl) (by kernel_rfl) (fun _ _ _ h => h) (Or.inl ⟨by rfl, ?_⟩) (by assumption) ?_
            rotate_left
            · intro w hSw; (try dsimp only at hSw); obtain ⟨c0, cg, hcv, hlk⟩ := HLW.out w hSw.out; go_simp; try with_reducible rfl
            simp only [Act.put, List.getElem_toArray, List.getElem_cons_zero, List.getElem_cons_succ, List.setIfInBounds_toArray, List.set_cons_zero, List.set_cons_succ]
            refine wpAnyH_take (i := 9) (v := ?_) rfl (by kernel_rfl) (by kernel_rfl) (by kernel_rfl) (fun _ _ _ h => h) (Or.inl ⟨by rfl, ?_⟩) (by assumption) ?_
            rotate_left
            · intro w hSw; (try dsimp only at hSw); obtain ⟨c0, cg, hcv, hlk⟩ := HLW.out w hSw.out; go_simp; try with_reducible rfl
            simp only [Act.put, List.getElem_toArray, List.getElem_cons_zero, List.getElem_cons_succ, List.setIfInBounds_toArray, List.set_cons_zero, List.set_cons_succ]
            refine wpAnyH_take (i := 10) (v := ?_) rfl (by kernel_rfl) (by kernel_rfl) (by kernel_rfl) (fun _ _ _ h => h) (Or.inl ⟨by rfl, ?_⟩) (by assumption) ?_
            rotate_left
            · intro w hSw; (try dsimp only at hSw); obtain ⟨c0, cg, hcv, hlk⟩ := HLW.out w hSw.out; go_simp; try with_reducible rfl
            simp only [Act.put, List.getElem_toArray, List.getElem_cons_zero, List.getElem_cons_succ, List.setIfInBounds_toArray, List.set_cons_zero, List.set_cons_succ]
            refine wpAnyH_take (i := 11) (v := ?_) rfl (by kernel_rfl) (by kernel_rfl) (by kernel_rfl) (fun _ _ _ h => h) (Or.inl ⟨by rfl, ?_⟩) (by assumption) ?_
            rotate_left
            · intro w hSw; (try dsimp only at hSw); obtain ⟨c0, cg, hcv, hlk⟩ := HLW.out w hSw.out; go_simp; try with_reducible rfl
            simp only [Act.put, List.getElem_toArray, List.getElem_cons_zero, List.getElem_cons_succ, List.setIfInBounds_toArray, List.set_cons_zero, List.set_cons_succ]
            refine wpAnyH_ready (rs := [12]) (by kernel_rfl) (by simp) ?_
            refine AllReadyH.cons rfl (fun K hK => ?_) AllReadyH.nil
            go_simp
            refine hK.out _ _ (by first | exact hide (balloc (Below.refl _ _) _).drew | exact hide ((balloc (Below.refl _ _) _).setCell (Nat.le_refl _) _).drew | exact hide (balloc (Below.refl _ _) _)) (fun hHeld => ?_)
            clear hK
            try simp only [Act.put, List.getElem_toArray, List.getElem_cons_zero, List.getElem_cons_succ, List.setIfInBounds_toArray, List.set_cons_zero, List.set_cons_succ]
            refine wpAnyH_ready (rs := [13]) (by kernel_rfl) (by simp) ?_
            refine AllReadyH.cons rfl (fun K hK => ?_) AllReadyH.nil
            go_simp
            refine hK.out _ _ (by first | exact hide (balloc (Below.refl _ _) _).drew | exact hide ((balloc (Below.refl _ _) _).setCell (Nat.le_refl _) _).drew | exact hide (balloc (Below.refl _ _) _)) (fun hHeld => ?_)
            clear hK
            try simp only [Act.put, List.getElem_toArray, List.getElem_cons_zero, List.getElem_cons_succ, List.setIfInBounds_toArray, List.set_cons_zero, List.set_cons_succ]
            refine wpAnyH_take (i := 14) (v := ?_) rfl (by kernel_rfl) (by kernel_rfl) (by kernel_rfl) (fun _ _ _ h => h) (Or.inl ⟨by rfl, ?_⟩) (by assumption) ?_
            rotate_left
            · intro w hSw; (try dsimp only at hSw); obtain ⟨c0, cg, hcv, hlk⟩ := HLW.out w hSw.out; go_simp; try with_reducible rfl
            simp only [Act.put, List.getElem_toArray, List.getElem_cons_zero, List.getElem_cons_succ, List.setIfInBounds_toArray, List.set_cons_zero, List.set_cons_succ]
            refine wpAnyH_done (by kernel_rfl) ?_ _
            go_wp2_with (go_at_call 76; refine (HTK.out _ (HB3.out.trans ((balloc (Below.refl _ _) _).drew.mono hs3))).mono ?_; rintro e w5 ⟨rfl, hb5⟩; have HB5 := hide hb5; obtain ⟨hc5, q0, q1⟩ := HQ.out w3 w5 hb5; have HC5 := hide hc5; have hs5 := hc5.size; clear hb5 hc5)
            refine wp_region_held_drew (S := (fun w' => w'.cell? ⟨w3.heap.size, 0, none⟩ = some (.int .i64 ro) ∧ w'.cell? ⟨w3.heap.size, 1, none⟩ = some (.int .i64 co))) (by kernel_rfl) (by (try dsimp only); go_keep) (fun hHeld => ?_)
            refine wpAnyH_take (i := 0) (v := ?_) rfl (by kernel_rfl) (by kernel_rfl) (by kernel_rfl) (fun _ _ _ h => h) (Or.inl ⟨by rfl, ?_⟩) (by assumption) ?_
            rotate_left
            · intro w hSw; (try dsimp only at hSw); go_simp; try with_reducible rfl
            simp only [Act.put, List.getElem_toArray, List.getElem_cons_zero, List.setIfInBounds_toArray, List.set_cons_zero, List.set_cons_succ]
            refine wpAnyH_take (i := 1) (v := ?_) rfl (by kernel_rfl) (by kernel_rfl) (by kernel_rfl) (fun _ _ _ h => h) (Or.inl ⟨by rfl, ?_⟩) (by assumption) ?_
            rotate_left
            · intro w hSw; (try dsimp only at hSw); go_simp; try with_reducible rfl
            simp only [Act.put, List.getElem_toArray, List.getElem_cons_zero, List.getElem_cons_succ, List.setIfInBounds_toArray, List.set_cons_zero, List.set_cons_succ]
            refine wpAnyH_take (i := 2) (v := ?_) rfl (by kernel_rfl) (by kernel_rfl) (by kernel_rfl) (fun _ _ _ h => h) (Or.inl ⟨by rfl, ?_⟩) (by assumption) ?_
            rotate_left
            · intro w hSw; (try dsimp only at hSw); go_simp; try with_reducible rfl
            simp only [Act.put, List.getElem_toArray, List.getElem_cons_zero, List.getElem_cons_succ, List.setIfInBounds_toArray, List.set_cons_zero, List.set_cons_succ]
            refine wpAnyH_ready (rs := [3]) (by kernel_rfl) (by simp) ?_
            refine AllReadyH.cons rfl (fun K hK => ?_) AllReadyH.nil
            go_simp
            refine (HRN.out w3 g _ _ HB3.out HPC.out HC5.out.drew (fa_side _ _)).mono ?_
            rintro e w6 ⟨hb6, hans⟩
            have HB6 := hide (bnext HB5.out.drew hb6)
            obtain ⟨hc6, p0, p1⟩ := HQ.out w3 w6 HB6.out
            have HC6 := hide hc6
            have hs6 := hc6.size
            have hle6 := hb6.size
            obtain ⟨v6, rfl, _⟩ := hans.1 hok
            clear hb6 hc6 hans
            refine hK.out _ _ (by first | with_reducible exact hHeld | ((try dsimp only); go_keep)) (fun hHeld => ?_)
            clear hK
            try simp only [Act.put, List.getElem_toArray, List.getElem_cons_zero, List.getElem_cons_succ, List.setIfInBounds_toArray, List.set_cons_zero, List.set_cons_succ]
            refine wpAnyH_take (i := 4) (v := ?_) rfl (by kernel_rfl) (by kernel_rfl) (by kernel_rfl) (fun _ _ _ h => h) (Or.inl ⟨by rfl, ?_⟩) (by assumption) ?_
            rotate_left
            · intro w hSw; (try dsimp only at hSw); go_simp; try with_reducible rfl
            simp only [Act.put, List.getElem_toArray, List.getElem_cons_zero, List.getElem_cons_succ, List.setIfInBounds_toArray, List.set_cons_zero, List.set_cons_succ]
            refine wpAnyH_take (i := 5) (v := ?_) rfl (by kernel_rfl) (by kernel_rfl) (by kernel_rfl) (fun _ _ _ h => h) (Or.inl ⟨by rfl, ?_⟩) (by assumption) ?_
            rotate_left
            · intro w hSw; (try dsimp only at hSw); go_simp; try with_reducible rfl
            simp only [Act.put, List.getElem_toArray, List.getElem_cons_zero, List.getElem_cons_succ, List.setIfInBounds_toArray, List.set_cons_zero, List.set_cons_succ]
            refine wpAnyH_take (i := 6) (v := ?_) rfl (by kernel_rfl) (by kernel_rfl) (by kernel_rfl) (fun _ _ _ h => h) (Or.inl ⟨by rfl, ?_⟩) (by assumption) ?_
            rotate_left
            · intro w hSw; (try dsimp only at hSw); go_simp; try with_reducible rfl
            simp only [Act.put, List.getElem_toArray, List.getElem_cons_zero, List.getElem_cons_succ, List.setIfInBounds_toArray, List.set_cons_zero, List.set_cons_succ]
            refine wpAnyH_take (i := 7) (v := ?_) rfl (by kernel_rfl) (by kernel_rfl) (by kernel_rfl) (fun _ _ _ h => h) (Or.inl ⟨by rfl, ?_⟩) (by assumption) ?_
            rotate_left
            · intro w hSw; (try dsimp only at hSw); go_simp; try with_reducible rfl
            simp only [Act.put, List.getElem_toArray, List.getElem_cons_zero, List.getElem_cons_succ, List.setIfInBounds_toArray, List.set_cons_zero, List.set_cons_succ]
            refine wpAnyH_take (i := 8) (v := ?_) rfl (by kernel_rfl) (by kernel_rfl) (by kernel_rfl) (fun _ _ _ h => h) (Or.inl ⟨by rfl, ?_⟩) (by assumption) ?_
            rotate_left
            · intro w hSw; (try dsimp only at hSw); go_simp; try with_reducible rfl
            simp only [Act.put, List.getElem_toArray, List.getElem_cons_zero, List.getElem_cons_succ, List.setIfInBounds_toArray, List.set_cons_zero, List.set_cons_succ]
            refine wpAnyH_done (by kernel_rfl) ?_ _
            go_wp2_with (go_at_call 78; refine (HIP.out _ (bnext HB3.out HC6.out)).mono ?_; rintro e w7 ⟨rfl, hb7⟩; have HB7 := hide (bnext (bnext HB3.out HC6.out) hb7); clear hb7)
            all_goals
              go_ret
              exact lineAns_bad HB7.out lo2 HP.out (by decide)
          | some s' =>
            rw [hso] at hp'
            have HP : Hid (lineP s line = .ok s') := hide hp'
            have HPU : Hid (∀ W v, Below w.heap.size w W → W.ownsRow w.heap.size 2 1 v nr (nums.map (Value.int .i64)) → Calls Tryz.prog 79 #[.pointer (some ⟨R, 0, none⟩), .agg #[.int .i64 ro, .int .i64 co], v] W fun e w' => e = .returned (.tuple #[]) ∧ Hid (∃ va' vn' vc', RSt w' R (.map (some M)) V B0 s' va' vn' vc' ∧ Kb B0 R R W w')) := hide (fun W v hW hv => (put_any R _ V B0 s s' va vn vc ro co nr v nums w W h.out hW htot.out (ht.out.keep hW ht.out.1) (ht2.out.keep hW ht2.out.1) hro HCI.out HCT.out hv HVL.out.symm (by omega) htk hso).mono (fun e w' q => ⟨q.1, hide q.2⟩))
            rw [hso] at HIP
            dsimp only [Option.isSome] at HIP
            clear h hM ht ht2 hm htot hx ha HFS HLP0 HLP1 e0 hwo HLC2 HST2 HCI HCT hst hp' hso hnums
            go_enter Tryz.func57, Tryz.ntmps57
            go_wp2_with (go_at_call 55; refine HSF.out.mono ?_; rintro e w3 ⟨hb3, hyes, _⟩; obtain ⟨g, k, hg, hk, rfl, hpc⟩ := hyes hall; have hk' : k = nr + 1 := (by rw [hk, List.length_cons, HNR.out]); subst hk'; obtain ⟨v0, hv0, hp0⟩ := hpc.2 0 (by simp); obtain ⟨o1, c1, rfl, hlw⟩ := HLK.out w3 g v0 hb3 hv0 hp0 hpc.1; have HLW := hide hlw; have HB3 := hide hb3; have HPC := hide hpc; have hs3 := hb3.size; have hgl := hpc.1; clear hyes hb3 hpc hv0 hp0 hlw hk)
            refine wp_region_held_drew (S := (fun w' => Hid (Below w3.heap.size w3 w'))) (by kernel_rfl) (hide (by first | exact (Below.refl _ _).drew | exact Below.refl _ _)) (fun hHeld => ?_)
            refine wpAnyH_take (i := 0) (v := ?_) rfl (by kernel_rfl) (by kernel_rfl) (by kernel_rfl) (fun _ _ _ h => h) (Or.inl ⟨by rfl, ?_⟩) (by assumption) ?_
            rotate_left
            · intro w hSw; (try dsimp only at hSw); obtain ⟨c0, cg, hcv, hlk⟩ := HLW.out w hSw.out; go_simp; try with_reducible rfl
            simp only [Act.put, List.getElem_toArray, List.getElem_cons_zero, List.setIfInBounds_toArray, List.set_cons_zero, List.set_cons_succ]
            refine wpAnyH_take (i := 1) (v := ?_) rfl (by kernel_rfl) (by kernel_rfl) (by kernel_rfl) (fun _ _ _ h => h) (Or.inl ⟨by rfl, ?_⟩) (by assumption) ?_
            rotate_left
            · intro w hSw; (try dsimp only at hSw); obtain ⟨c0, cg, hcv, hlk⟩ := HLW.out w hSw.out; go_simp; try with_reducible rfl
            simp only [Act.put, List.getElem_toArray, List.getElem_cons_zero, List.getElem_cons_succ, List.setIfInBounds_toArray, List.set_cons_zero, List.set_cons_succ]
            refine wpAnyH_take (i := 2) (v := ?_) rfl (by kernel_rfl) (by kernel_rfl) (by kernel_rfl) (fun _ _ _ h => h) (Or.inl ⟨by rfl, ?_⟩) (by assumption) ?_
            rotate_left
            · intro w hSw; (try dsimp only at hSw); obtain ⟨c0, cg, hcv, hlk⟩ := HLW.out w hSw.out; go_simp; try with_reducible rfl
            simp only [Act.put, List.getElem_toArray, List.getElem_cons_zero, List.getElem_cons_succ, List.setIfInBounds_toArray, List.set_cons_zero, List.set_cons_succ]
            refine wpAnyH_take (i := 3) (v := ?_) rfl (by kernel_rfl) (by kernel_rfl) (by kernel_rfl) (fun _ _ _ h => h) (Or.inl ⟨by rfl, ?_⟩) (by assumption) ?_
            rotate_left
            · intro w hSw; (try dsimp only at hSw); obtain ⟨c0, cg, hcv, hlk⟩ := HLW.out w hSw.out; go_simp; try with_reducible rfl
            simp only [Act.put, List.getElem_toArray, List.getElem_cons_zero, List.getElem_cons_succ, List.setIfInBounds_toArray, List.set_cons_zero, List.set_cons_succ]
            refine wpAnyH_take (i := 4) (v := ?_) rfl (by kernel_rfl) (by kernel_rfl) (by kernel_rfl) (fun _ _ _ h => h) (Or.inl ⟨by rfl, ?_⟩) (by assumption) ?_
            rotate_left
            · intro w hSw; (try dsimp only at hSw); obtain ⟨c0, cg, hcv, hlk⟩ := HLW.out w hSw.out; go_simp; try with_reducible rfl
            simp only [Act.put, List.getElem_toArray, List.getElem_cons_zero, List.getElem_cons_succ, List.setIfInBounds_toArray, List.set_cons_zero, List.set_cons_succ]
            refine wpAnyH_take (i := 5) (v := ?_) rfl (by kernel_rfl) (by kernel_rfl) (by kernel_rfl) (fun _ _ _ h => h) (Or.inl ⟨by rfl, ?_⟩) (by assumption) ?_
            rotate_left
            · intro w hSw; (try dsimp only at hSw); obtain ⟨c0, cg, hcv, hlk⟩ := HLW.out w hSw.out; go_simp; try with_reducible rfl
            simp only [Act.put, List.getElem_toArray, List.getElem_cons_zero, List.getElem_cons_succ, List.setIfInBounds_toArray, List.set_cons_zero, List.set_cons_succ]
            refine wpAnyH_take (i := 6) (v := ?_) rfl (by kernel_rfl) (by kernel_rfl) (by kernel_rfl) (fun _ _ _ h => h) (Or.inl ⟨by rfl, ?_⟩) (by assumption) ?_
            rotate_left
            · intro w hSw; (try dsimp only at hSw); obtain ⟨c0, cg, hcv, hlk⟩ := HLW.out w hSw.out; go_simp; try with_reducible rfl
            simp only [Act.put, List.getElem_toArray, List.getElem_cons_zero, List.getElem_cons_succ, List.setIfInBounds_toArray, List.set_cons_zero, List.set_cons_succ]
            refine wpAnyH_take (i := 7) (v := ?_) rfl (by kernel_rfl) (by kernel_rfl) (by kernel_rfl) (fun _ _ _ h => h) (Or.inl ⟨by rfl, ?_⟩) (by assumption) ?_
            rotate_left
            · intro w hSw; (try dsimp only at hSw); obtain ⟨c0, cg, hcv, hlk⟩ := HLW.out w hSw.out; go_simp; try with_reducible rfl
            simp only [Act.put, List.getElem_toArray, List.getElem_cons_zero, List.getElem_cons_succ, List.setIfInBounds_toArray, List.set_cons_zero, List.set_cons_succ]
            refine wpAnyH_take (i := 8) (v := ?_) rfl (by kernel_rfl) (by kernel_rfl) (by kernel_rfl) (fun _ _ _ h => h) (Or.inl ⟨by rfl, ?_⟩) (by assumption) ?_
            rotate_left
            · intro w hSw; (try dsimp only at hSw); obtain ⟨c0, cg, hcv, hlk⟩ := HLW.out w hSw.out; go_simp; try with_reducible rfl
            simp only [Act.put, List.getElem_toArray, List.getElem_cons_zero, List.getElem_cons_succ, List.setIfInBounds_toArray, List.set_cons_zero, List.set_cons_succ]
            refine wpAnyH_take (i := 9) (v := ?_) rfl (by kernel_rfl) (by kernel_rfl) (by kernel_rfl) (fun _ _ _ h => h) (Or.inl ⟨by rfl, ?_⟩) (by assumption) ?_
            rotate_left
            · intro w hSw; (try dsimp only at hSw); obtain ⟨c0, cg, hcv, hlk⟩ := HLW.out w hSw.out; go_simp; try with_reducible rfl
            simp only [Act.put, List.getElem_toArray, List.getElem_cons_zero, List.getElem_cons_succ, List.setIfInBounds_toArray, List.set_cons_zero, List.set_cons_succ]
            refine wpAnyH_take (i := 10) (v := ?_) rfl (by kernel_rfl) (by kernel_rfl) (by kernel_rfl) (fun _ _ _ h => h) (Or.inl ⟨by rfl, ?_⟩) (by assumption) ?_
            rotate_left
            · intro w hSw; (try dsimp only at hSw); obtain ⟨c0, cg, hcv, hlk⟩ := HLW.out w hSw.out; go_simp; try with_reducible rfl
            simp only [Act.put, List.getElem_toArray, List.getElem_cons_zero, List.getElem_cons_succ, List.setIfInBounds_toArray, List.set_cons_zero, List.set_cons_succ]
            refine wpAnyH_take (i := 11) (v := ?_) rfl (by kernel_rfl) (by kernel_rfl) (by kernel_rfl) (fun _ _ _ h => h) (Or.inl ⟨by rfl, ?_⟩) (by assumption) ?_
            rotate_left
            · intro w hSw; (try dsimp only at hSw); obtain ⟨c0, cg, hcv, hlk⟩ := HLW.out w hSw.out; go_simp; try with_reducible rfl
            simp only [Act.put, List.getElem_toArray, List.getElem_cons_zero, List.getElem_cons_succ, List.setIfInBounds_toArray, List.set_cons_zero, List.set_cons_succ]
            refine wpAnyH_ready (rs := [12]) (by kernel_rfl) (by simp) ?_
            refine AllReadyH.cons rfl (fun K hK => ?_) AllReadyH.nil
            go_simp
            refine hK.out _ _ (by first | exact hide (balloc (Below.refl _ _) _).drew | exact hide ((balloc (Below.refl _ _) _).setCell (Nat.le_refl _) _).drew | exact hide (balloc (Below.refl _ _) _)) (fun hHeld => ?_)
            clear hK
            try simp only [Act.put, List.getElem_toArray, List.getElem_cons_zero, List.getElem_cons_succ, List.setIfInBounds_toArray, List.set_cons_zero, List.set_cons_succ]
            refine wpAnyH_ready (rs := [13]) (by kernel_rfl) (by simp) ?_
            refine AllReadyH.cons rfl (fun K hK => ?_) AllReadyH.nil
            go_simp
            refine hK.out _ _ (by first | exact hide (balloc (Below.refl _ _) _).drew | exact hide ((balloc (Below.refl _ _) _).setCell (Nat.le_refl _) _).drew | exact hide (balloc (Below.refl _ _) _)) (fun hHeld => ?_)
            clear hK
            try simp only [Act.put, List.getElem_toArray, List.getElem_cons_zero, List.getElem_cons_succ, List.setIfInBounds_toArray, List.set_cons_zero, List.set_cons_succ]
            refine wpAnyH_take (i := 14) (v := ?_) rfl (by kernel_rfl) (by kernel_rfl) (by kernel_rfl) (fun _ _ _ h => h) (Or.inl ⟨by rfl, ?_⟩) (by assumption) ?_
            rotate_left
            · intro w hSw; (try dsimp only at hSw); obtain ⟨c0, cg, hcv, hlk⟩ := HLW.out w hSw.out; go_simp; try with_reducible rfl
            simp only [Act.put, List.getElem_toArray, List.getElem_cons_zero, List.getElem_cons_succ, List.setIfInBounds_toArray, List.set_cons_zero, List.set_cons_succ]
            refine wpAnyH_done (by kernel_rfl) ?_ _
            go_wp2_with (go_at_call 76; refine (HTK.out _ (HB3.out.trans ((balloc (Below.refl _ _) _).drew.mono hs3))).mono ?_; rintro e w5 ⟨rfl, hb5⟩; have HB5 := hide hb5; obtain ⟨hc5, q0, q1⟩ := HQ.out w3 w5 hb5; have HC5 := hide hc5; have hs5 := hc5.size; clear hb5 hc5)
            refine wp_region_held_drew (S := (fun w' => w'.cell? ⟨w3.heap.size, 0, none⟩ = some (.int .i64 ro) ∧ w'.cell? ⟨w3.heap.size, 1, none⟩ = some (.int .i64 co))) (by kernel_rfl) (by (try dsimp only); go_keep) (fun hHeld => ?_)
            refine wpAnyH_take (i := 0) (v := ?_) rfl (by kernel_rfl) (by kernel_rfl) (by kernel_rfl) (fun _ _ _ h => h) (Or.inl ⟨by rfl, ?_⟩) (by assumption) ?_
            rotate_left
            · intro w hSw; (try dsimp only at hSw); go_simp; try with_reducible rfl
            simp only [Act.put, List.getElem_toArray, List.getElem_cons_zero, List.setIfInBounds_toArray, List.set_cons_zero, List.set_cons_succ]
            refine wpAnyH_take (i := 1) (v := ?_) rfl (by kernel_rfl) (by kernel_rfl) (by kernel_rfl) (fun _ _ _ h => h) (Or.inl ⟨by rfl, ?_⟩) (by assumption) ?_
            rotate_left
            · intro w hSw; (try dsimp only at hSw); go_simp; try with_reducible rfl
            simp only [Act.put, List.getElem_toArray, List.getElem_cons_zero, List.getElem_cons_succ, List.setIfInBounds_toArray, List.set_cons_zero, List.set_cons_succ]
            refine wpAnyH_take (i := 2) (v := ?_) rfl (by kernel_rfl) (by kernel_rfl) (by kernel_rfl) (fun _ _ _ h => h) (Or.inl ⟨by rfl, ?_⟩) (by assumption) ?_
            rotate_left
            · intro w hSw; (try dsimp only at hSw); go_simp; try with_reducible rfl
            simp only [Act.put, List.getElem_toArray, List.getElem_cons_zero, List.getElem_cons_succ, List.setIfInBounds_toArray, List.set_cons_zero, List.set_cons_succ]
            refine wpAnyH_ready (rs := [3]) (by kernel_rfl) (by simp) ?_
            refine AllReadyH.cons rfl (fun K hK => ?_) AllReadyH.nil
            go_simp
            refine (HRN.out w3 g _ _ HB3.out HPC.out HC5.out.drew (fa_side _ _)).mono ?_
            rintro e w6 ⟨hb6, hans⟩
            have HB6 := hide (bnext HB5.out.drew hb6)
            obtain ⟨hc6, p0, p1⟩ := HQ.out w3 w6 HB6.out
            have HC6 := hide hc6
            have hs6 := hc6.size
            have hle6 := hb6.size
            obtain ⟨v6, rfl, ho6⟩ := hans.1 hok
            have HO6 : Hid (w6.ownsRow w.heap.size 2 1 v6 nr (nums.map (Value.int .i64))) := hide (by rw [HNU.out, HNR.out] at ho6; exact own_base ho6 (by show _ ≤ w5.heap.size; omega))
            clear ho6
            clear hb6 hc6 hans
            refine hK.out _ _ (by first | with_reducible exact hHeld | ((try dsimp only); go_keep)) (fun hHeld => ?_)
            clear hK
            try simp only [Act.put, List.getElem_toArray, List.getElem_cons_zero, List.getElem_cons_succ, List.setIfInBounds_toArray, List.set_cons_zero, List.set_cons_succ]
            refine wpAnyH_take (i := 4) (v := ?_) rfl (by kernel_rfl) (by kernel_rfl) (by kernel_rfl) (fun _ _ _ h => h) (Or.inl ⟨by rfl, ?_⟩) (by assumption) ?_
            rotate_left
            · intro w hSw; (try dsimp only at hSw); go_simp; try with_reducible rfl
            simp only [Act.put, List.getElem_toArray, List.getElem_cons_zero, List.getElem_cons_succ, List.setIfInBounds_toArray, List.set_cons_zero, List.set_cons_succ]
            refine wpAnyH_take (i := 5) (v := ?_) rfl (by kernel_rfl) (by kernel_rfl) (by kernel_rfl) (fun _ _ _ h => h) (Or.inl ⟨by rfl, ?_⟩) (by assumption) ?_
            rotate_left
            · intro w hSw; (try dsimp only at hSw); go_simp; try with_reducible rfl
            simp only [Act.put, List.getElem_toArray, List.getElem_cons_zero, List.getElem_cons_succ, List.setIfInBounds_toArray, List.set_cons_zero, List.set_cons_succ]
            refine wpAnyH_take (i := 6) (v := ?_) rfl (by kernel_rfl) (by kernel_rfl) (by kernel_rfl) (fun _ _ _ h => h) (Or.inl ⟨by rfl, ?_⟩) (by assumption) ?_
            rotate_left
            · intro w hSw; (try dsimp only at hSw); go_simp; try with_reducible rfl
            simp only [Act.put, List.getElem_toArray, List.getElem_cons_zero, List.getElem_cons_succ, List.setIfInBounds_toArray, List.set_cons_zero, List.set_cons_succ]
            refine wpAnyH_take (i := 7) (v := ?_) rfl (by kernel_rfl) (by kernel_rfl) (by kernel_rfl) (fun _ _ _ h => h) (Or.inl ⟨by rfl, ?_⟩) (by assumption) ?_
            rotate_left
            · intro w hSw; (try dsimp only at hSw); go_simp; try with_reducible rfl
            simp only [Act.put, List.getElem_toArray, List.getElem_cons_zero, List.getElem_cons_succ, List.setIfInBounds_toArray, List.set_cons_zero, List.set_cons_succ]
            refine wpAnyH_take (i := 8) (v := ?_) rfl (by kernel_rfl) (by kernel_rfl) (by kernel_rfl) (fun _ _ _ h => h) (Or.inl ⟨by rfl, ?_⟩) (by assumption) ?_
            rotate_left
            · intro w hSw; (try dsimp only at hSw); go_simp; try with_reducible rfl
            simp only [Act.put, List.getElem_toArray, List.getElem_cons_zero, List.getElem_cons_succ, List.setIfInBounds_toArray, List.set_cons_zero, List.set_cons_succ]
            refine wpAnyH_done (by kernel_rfl) ?_ _
            go_wp2_with (first
              | (go_at_call 78; refine (HIP.out _ (bnext HB3.out HC6.out)).mono ?_; rintro e w7 ⟨rfl, hb7⟩; have HB7 := hide (bnext (bnext HB3.out HC6.out) hb7); have HO7 := hide (ownKeep HO6.out (fun b e => hb7.block b (HO6.out.lt b e).2)); obtain ⟨_, r0, r1⟩ := HQ.out w3 w7 (bnext HB6.out hb7); clear hb7)
              | (go_at_call 79; refine (HPU.out _ _ HB7.out HO7.out).mono ?_; rintro e w8 ⟨rfl, HB8⟩))
            all_goals
              go_ret
              obtain ⟨va', vn', vc', h8, k8⟩ := HB8.out
              exact ⟨(Kb.of_below (HB7.out.mono lo2)).trans k8, Or.inr ⟨s', HP.out, rfl, va', vn', vc', h8⟩⟩
end Go.Proofs.YtdcdgopblbmgoaaGreatDoor
