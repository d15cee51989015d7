import Derived.Test.YtdcdgopblbmgoaaGreatDoorQR
/-
  put of the program's reader: an end.
-/
namespace Go.Proofs.YtdcdgopblbmgoaaGreatDoor
open Go.RowKit Go.Shelf

set_option maxHeartbeats 4000000 in
set_option maxRecDepth 100000 in
theorem put_ter (R : Nat) (wd : Value) (V : Int) (B0 : Nat) (pre : List Blk) (ps : List Ph) (is : List Ins) (va : Option Addr) (vn vc k : Nat) (na : Option Addr) (nn nc : Nat) (nums : List Int) (w0 w : World) (h : Hid (RSt w0 R wd V B0 ⟨pre, some (ps, is)⟩ va vn vc)) (hb : Hid (Below w0.heap.size w0 w)) (hvb : vn ≤ 100000) (hk1 : 1 ≤ k) (hk2 : k ≤ 3) (ht : Hid (TerTabW w))
    (hnn : Hid (nn = nums.length)) (hcnt : Hid (nn = cntT k)) (hnl : nn ≤ 1000000) (hna : Hid (IntsAt w w0.heap.size w.heap.size na nums)) :
    Calls Tryz.prog 79 #[.pointer (some ⟨R, 0, none⟩), opV 3 k, .slice na nn nc] w fun e w' => e = .returned (.tuple #[]) ∧ ∃ va' vn' vc', RSt w' R wd V B0 ⟨pre ++ [⟨ps, is, terN k nums⟩], none⟩ va' vn' vc' ∧ Kb B0 R R w w' := by
  obtain ⟨H, G, pa, pc, ia, ic, hva, hvn, hbo⟩ := h.out.st
  dsimp only at hvn hbo
  obtain ⟨lo1, lo2⟩ := h.out.lo
  have hbs := hb.out.size
  obtain ⟨⟨lG0, lG1⟩, lH1, lH2⟩ := hbo.lo
  have hw := h.out.keep hb.out
  have HBO := hide (hbo.keep (w' := w) (fun b _ h2 => hb.out.block b h2) hbs)
  have hRl : R < w.heap.size := by omega
  have hGl : G < w.heap.size := by omega
  have b1 := fun x => balloc (Below.refl w.heap.size w) x
  obtain ⟨m, hm⟩ : ∃ m, pre.length = m := ⟨_, rfl⟩
  have hvm : vn = m + 1 := by omega
  have HLA : Hid (∀ W, Below w.heap.size w W → Calls Tryz.prog 97 #[.pointer (some ⟨R, 0, none⟩)] W fun e w' => e = .returned (.pointer (some ⟨G, m * 6, none⟩)) ∧ w' = W.drew) := hide (fun W hW => last_any R wd V G m vc true W (by
    have q := (hw.rd.keep (hW.block R hRl))
    rw [hva, hvm] at q
    exact q) (by omega))
  have HUS : Hid (∀ x, Calls Tryz.prog 95 #[.pointer (some ⟨w.heap.size + 1, 0, none⟩)] ((w.alloc x).alloc (.cells #[.int .i64 k, .int .i64 0, .int .i64 0, .int .i64 0] 42)) fun e w5 => ∃ fa fc, e = .returned (.slice fa nn fc) ∧ Hid (Calls Tryz.prog 98 #[.slice fa nn fc, .slice na nn nc] w5 fun e w' => e = .returned (.tuple #[]) ∧ Hid (Below w.heap.size w w') ∧ w.heap.size + 1 < w'.heap.size ∧ Hid (TerAt w' (w.heap.size + 1) 0 (terN k nums)))) := hide (fun x => by
    have es : w.heap.size + 1 = (w.alloc x).heap.size := (World.size_alloc _ _).symm
    have hbb := balloc (b1 x) (.cells #[.int .i64 k, .int .i64 0, .int .i64 0, .int .i64 0] 42)
    have hr := row_lit (w.alloc x) #[.int .i64 k, .int .i64 0, .int .i64 0, .int .i64 0] 42
    rw [← es] at hr
    exact used_fillT w _ k (w.heap.size + 1) nn nc w0.heap.size w.heap.size na nums hbb (by omega) (by simp) (ter_new _ k _ es) hr hk1 hk2 (ht.out.keep hbb ht.out.1) hnn.out hcnt.out hnl (hna.out.keep hbb) (by omega))
  have HTK : Hid ((terN k nums).kind ≠ 0) := hide (by show (k : Int) ≠ 0; omega)
  generalize terN k nums = t at *
  have HCL : Hid (∀ W, Below w.heap.size w W → (W.cell? ⟨G, m * 6 + 2, none⟩ = some (.int .i64 0) ∧ W.cell? ⟨G, m * 6 + 2 + 1, none⟩ = some (.int .i64 0) ∧ W.cell? ⟨G, m * 6 + 2 + 2, none⟩ = some (.int .i64 0) ∧ W.cell? ⟨G, m * 6 + 2 + 3, none⟩ = some (.int .i64 0)) ∧ (∀ o, W.frozen? ⟨G, o, none⟩ = false) ∧ W.cell? ⟨R, 3, none⟩ = some (.bool true) ∧ (∀ o, W.frozen? ⟨R, o, none⟩ = false) ∧ RSt (((((W.setCell ⟨G, m * 6 + 2, none⟩ (.int .i64 t.kind)).setCell ⟨G, m * 6 + 2 + 1, none⟩ (.int .i64 t.a)).setCell ⟨G, m * 6 + 2 + 2, none⟩ (.int .i64 t.to)).setCell ⟨G, m * 6 + 2 + 3, none⟩ (.int .i64 t.els)).setCell ⟨R, 3, none⟩ (.bool false)) R wd V B0 ⟨pre ++ [⟨ps, is, t⟩], none⟩ (some ⟨G, 0, none⟩) (m + 1) vc ∧ Kb B0 R R w (((((W.setCell ⟨G, m * 6 + 2, none⟩ (.int .i64 t.kind)).setCell ⟨G, m * 6 + 2 + 1, none⟩ (.int .i64 t.a)).setCell ⟨G, m * 6 + 2 + 2, none⟩ (.int .i64 t.to)).setCell ⟨G, m * 6 + 2 + 3, none⟩ (.int .i64 t.els)).setCell ⟨R, 3, none⟩ (.bool false))) := hide (fun W hW => by
    have hWs := hW.size
    have kG := hW.block G hGl
    have kR := hW.block R hRl
    have hcl := (HBO.out.keep (w' := W) (fun b _ h2 => hW.block b h2) hWs).close t HTK.out
    obtain ⟨t0, t1, t2, t3⟩ := HBO.out.ter
    rw [hm] at hcl t0 t1 t2 t3
    have far0 : ∀ b, b ≠ G → ((((W.setCell ⟨G, m * 6 + 2, none⟩ (.int .i64 t.kind)).setCell ⟨G, m * 6 + 2 + 1, none⟩ (.int .i64 t.a)).setCell ⟨G, m * 6 + 2 + 2, none⟩ (.int .i64 t.to)).setCell ⟨G, m * 6 + 2 + 3, none⟩ (.int .i64 t.els)).heap[b]? = W.heap[b]? := fun b hb => by rw [Below.heap_setCell _ _ _ _ hb, Below.heap_setCell _ _ _ _ hb, Below.heap_setCell _ _ _ _ hb, Below.heap_setCell _ _ _ _ hb]
    have hsz : ((((W.setCell ⟨G, m * 6 + 2, none⟩ (.int .i64 t.kind)).setCell ⟨G, m * 6 + 2 + 1, none⟩ (.int .i64 t.a)).setCell ⟨G, m * 6 + 2 + 2, none⟩ (.int .i64 t.to)).setCell ⟨G, m * 6 + 2 + 3, none⟩ (.int .i64 t.els)).heap.size = W.heap.size := by simp
    have ho : ((((W.setCell ⟨G, m * 6 + 2, none⟩ (.int .i64 t.kind)).setCell ⟨G, m * 6 + 2 + 1, none⟩ (.int .i64 t.a)).setCell ⟨G, m * 6 + 2 + 2, none⟩ (.int .i64 t.to)).setCell ⟨G, m * 6 + 2 + 3, none⟩ (.int .i64 t.els)).os = W.os ∧ ((((W.setCell ⟨G, m * 6 + 2, none⟩ (.int .i64 t.kind)).setCell ⟨G, m * 6 + 2 + 1, none⟩ (.int .i64 t.a)).setCell ⟨G, m * 6 + 2 + 2, none⟩ (.int .i64 t.to)).setCell ⟨G, m * 6 + 2 + 3, none⟩ (.int .i64 t.els)).tape = W.tape ∧ ((((W.setCell ⟨G, m * 6 + 2, none⟩ (.int .i64 t.kind)).setCell ⟨G, m * 6 + 2 + 1, none⟩ (.int .i64 t.a)).setCell ⟨G, m * 6 + 2 + 2, none⟩ (.int .i64 t.to)).setCell ⟨G, m * 6 + 2 + 3, none⟩ (.int .i64 t.els)).output = W.output := ⟨rfl, rfl, rfl⟩
    generalize ((((W.setCell ⟨G, m * 6 + 2, none⟩ (.int .i64 t.kind)).setCell ⟨G, m * 6 + 2 + 1, none⟩ (.int .i64 t.a)).setCell ⟨G, m * 6 + 2 + 2, none⟩ (.int .i64 t.to)).setCell ⟨G, m * 6 + 2 + 3, none⟩ (.int .i64 t.els)) = U at *
    have kU := (far0 R (by omega)).trans kR
    have far : ∀ b, b ≠ R → (U.setCell ⟨R, 3, none⟩ (.bool false)).heap[b]? = U.heap[b]? := fun b hb => Below.heap_setCell _ _ _ _ hb
    have hrd := hw.rd
    have hrb := hrd.blocks
    rw [hva, hvm] at hrb
    have oth : ∀ (j : Nat) (v : Value), 3 ≠ j → (U.setCell ⟨R, 3, none⟩ v).cell? ⟨R, j, none⟩ = U.cell? ⟨R, j, none⟩ := fun j v hij => World.cell?_setCell_other _ _ _ _ (by intro e; injection e with _ e; exact hij e)
    have hth := fun o => rowThaw HBO.out.own.choose_spec o
    refine ⟨⟨(cell_of kG).trans t0, (cell_of kG).trans t1, (cell_of kG).trans t2, (cell_of kG).trans t3⟩, fun o => (World.frozen?_of_block kG).trans (hth o), (cell_of kR).trans hrd.opened, fun o => (World.frozen?_of_block kR).trans (hw.fz o), ⟨⟨?_, ?_, ?_, ?_⟩, ⟨by simp [hm], hcl.keep (fun b h1 h2 => far b (by omega)) (by simp)⟩, fun o => ?_, ⟨lo1, by rw [size_setCell]; omega⟩⟩, Kb.low' (ho.1.trans hW.os) (ho.2.1.trans hW.tape) (ho.2.2.trans hW.output) (by rw [size_setCell]; omega) (fun b h1 h2 => (far b h2).trans ((far0 b (by omega)).trans (hW.block b (by omega))))⟩
    · rw [oth _ _ (by decide)]; exact (cell_of kU).trans hrd.words
    · rw [oth _ _ (by decide)]; exact (cell_of kU).trans hrd.values
    · rw [oth _ _ (by decide)]; exact (cell_of kU).trans hrb
    · exact World.cell?_setCell_same _ _ _ ((cell_of kU).trans hrd.opened)
    · rw [World.frozen?_setCell]; exact (World.frozen?_of_block kU).trans (hw.fz o))
  have nGb : G ≠ w.heap.size + 1 := by omega
  have nbG : w.heap.size + 1 ≠ G := by omega
  have nGR : G ≠ R := by omega
  have nRG : R ≠ G := by omega
  clear h hb hbo hw HBO hna hnn hcnt hm hvm hva hvn ht b1 hk1 hk2 HTK
  unfold opV
  obtain ⟨xo, xa, xb, xi⟩ := t
  go_enter Tryz.func79, Tryz.ntmps79
  go_wp2_with (first
    | (go_at_call 95; refine (HUS.out _).mono ?_; rintro e w5 ⟨fa, fc, rfl, HF⟩)
    | (go_at_call 98; refine HF.out.mono ?_; rintro e w6 ⟨rfl, HB6, hb6, HI6⟩; have hs6 := HB6.out.size; obtain ⟨q0, q1, q2, q3⟩ := HI6.out; simp only [Nat.zero_add] at q0 q1 q2 q3; obtain ⟨⟨x0, x1, x2, x3⟩, xz, y3, yz, hrs, hkb⟩ := HCL.out _ HB6.out; have HRS := hide hrs; have HKB := hide hkb; clear hrs hkb))
  go_region_held3 (fun w' => w'.cell? ⟨w.heap.size + 1, 0, none⟩ = some (.int .i64 xo) ∧ w'.cell? ⟨w.heap.size + 1, 1, none⟩ = some (.int .i64 xa) ∧ w'.cell? ⟨w.heap.size + 1, 2, none⟩ = some (.int .i64 xb) ∧ w'.cell? ⟨w.heap.size + 1, 3, none⟩ = some (.int .i64 xi)) (go_keep) ((go_at_call 97; refine (HLA.out _ HB6.out.drew).mono ?_; rintro e w1 ⟨rfl, hw1⟩; rw [hw1]; clear hw1 w1))
  all_goals
    go_wp2
    exact bodyPost_end (v := .tuple #[]) (by simp [results, Tryz.results79, go_sem]) rfl ⟨rfl, _, _, _, HRS.out.keep (Below.refl _ _).drew.drew, HKB.out.drew.drew⟩
end Go.Proofs.YtdcdgopblbmgoaaGreatDoor

/-
  One line: the pure parser's step out of the program's role, code and numbers. Pure.
-/
namespace Go.Proofs.YtdcdgopblbmgoaaGreatDoor
open Go.RowKit Go.Shelf

theorem val_idx {f : List UInt8} (h : okAt false f = true) : valAt false f = idx f := by
  have h : digitsOk f 4 = true := h
  show numV f 4 = idx f
  unfold numV idx; rw [if_pos h, if_pos h]
theorem val_con {f : List UInt8} (h : okAt true f = true) : valAt true f = constV f := by
  have h : isC f = true := h
  show conV f = constV f
  unfold conV; rw [if_pos h]
theorem vals_idx {q : Nat → Bool} (hq : ∀ i, q i = false) : ∀ (r : List (List UInt8)) (i : Nat), oksF q i r = true → valsF q i r = r.map idx
  | [], _, _ => rfl
  | f :: r, i, h => by
    rw [oksF, hq i, Bool.and_eq_true] at h
    rw [valsF, hq i, val_idx h.1, vals_idx hq r (i + 1) h.2]; rfl
def stepO (ro : Nat) (co : Nat) (nums : List Int) (s : Pst) : Option Pst :=
  if ro = 0 then (match s.cur with | some _ => none | none => some ⟨s.pre, some ([], [])⟩)
  else match s.cur with
    | none => none
    | some (ps, is) =>
      if ro = 1 then (if is = [] then some ⟨s.pre, some (ps ++ [⟨nums.getD 0 0, nums.tail⟩], is)⟩ else none)
      else if ro = 3 then some ⟨s.pre ++ [⟨ps, is, terN co nums⟩], none⟩
      else some ⟨s.pre, some (ps, is ++ [insN co nums])⟩
theorem ins_link (F : List UInt8) (r : List (List UInt8)) (k : Nat) (hk : opOf F = k) (h1 : 1 ≤ k) (h2 : k ≤ 10) (hn : r.length = cntI k) (ho : oksF (conAt 2 k r.length) 0 r = true) : readIns (F :: r) = insN k (valsF (conAt 2 k r.length) 0 r) := by
  have e : readIns (F :: r) = readK (F :: r) k (lettersP k).length := by unfold readIns; rw [List.headD_cons, hk]
  rw [e]
  clear e hk
  have hc : k = 1 ∨ k = 2 ∨ k = 3 ∨ k = 4 ∨ k = 5 ∨ k = 6 ∨ k = 7 ∨ k = 8 ∨ k = 9 ∨ k = 10 := by omega
  by_cases hk1 : k = 1
  · subst hk1
    obtain ⟨x, y, rfl⟩ : ∃ x y, r = [x, y] := by
      rw [show cntI 1 = 2 by decide] at hn
      match r, hn with
      | [x, y], _ => exact ⟨x, y, rfl⟩
    simp only [oksF, conAt, List.length_cons, List.length_nil, Bool.and_true, Bool.and_eq_true] at ho
    simp only [valsF, conAt, List.length_cons, List.length_nil]
    obtain ⟨o1, o2⟩ := ho
    have v1 := val_idx (f := x) o1
    have v2 := val_con (f := y) o2
    show readK (F :: [x, y]) 1 2 = insN 1 [valAt false x, valAt true y]
    rw [v1, v2]
    rfl
  · have hq : ∀ i, conAt 2 k r.length i = false := fun i => by simp [conAt, hk1]
    rw [vals_idx hq r 0 ho]
    clear ho hq
    rcases hc with rfl | rfl | rfl | rfl | rfl | rfl | rfl | rfl | rfl | rfl
    · exact absurd rfl hk1
    all_goals
      rcases r with _ | ⟨x, _ | ⟨y, _ | ⟨z, _ | ⟨u, t⟩⟩⟩⟩
      all_goals first
        | (exfalso; revert hn; simp [cntI, dB, aB, bB, iB]; done)
        | rfl
theorem ter_link (F : List UInt8) (r : List (List UInt8)) (k : Nat) (hF : (F = wJump ∧ k = 1) ∨ (F = wBranch ∧ k = 2) ∨ (F = wRet ∧ k = 3)) (hn : r.length = cntT k) (ho : oksF (conAt 3 k r.length) 0 r = true) : readTer (F :: r) = terN k (valsF (conAt 3 k r.length) 0 r) := by
  have hq : ∀ i, conAt 3 k r.length i = false := fun i => by simp [conAt]
  rw [vals_idx hq r 0 ho]
  clear ho hq
  rcases hF with ⟨rfl, rfl⟩ | ⟨rfl, rfl⟩ | ⟨rfl, rfl⟩
  all_goals
    rcases r with _ | ⟨x, _ | ⟨y, _ | ⟨z, _ | ⟨u, t⟩⟩⟩⟩
    all_goals first
      | (exfalso; revert hn; simp [cntT]; done)
      | rfl
theorem phi_link (F : List UInt8) (r : List (List UInt8)) (co : Nat) (hn : 2 ≤ r.length) (ho : oksF (conAt 1 co r.length) 0 r = true) : readPhi (F :: r) = ⟨(valsF (conAt 1 co r.length) 0 r).getD 0 0, (valsF (conAt 1 co r.length) 0 r).tail⟩ := by
  have hq : ∀ i, conAt 1 co r.length i = false := fun i => by simp [conAt]
  rw [vals_idx hq r 0 ho]
  match r, hn with
  | x :: y :: t, _ => rfl
theorem step_link (s : Pst) (F : List UInt8) (r : List (List UInt8)) (ro co : Nat) (hw : wordOp F = some (ro, co)) (ht : takesB ro co r.length = true) (ho : oksF (conAt ro co r.length) 0 r = true) : stepL s (F :: r) = stepO ro co (valsF (conAt ro co r.length) 0 r) s := by
  unfold stepL
  rw [List.headD_cons]
  unfold wordOp at hw
  obtain ⟨pre, cur⟩ := s
  by_cases h0 : opOf F ≠ 0
  · rw [if_pos h0] at hw
    cases hw
    obtain ⟨⟨h1, h2⟩, n1, n2, n3, n4, n5⟩ := op_other h0
    have ek : opOf F = ((opOf F).toNat : Int) := by omega
    have hnl : r.length = cntI (opOf F).toNat := by simpa [takesB] using ht
    have hl := ins_link F r (opOf F).toNat ek (by omega) (by omega) hnl ho
    unfold stepW stepO
    rw [if_neg n1, if_neg (by decide)]
    cases cur with
    | none => rfl
    | some pi =>
      obtain ⟨ps, is⟩ := pi
      dsimp only
      have ne : isEnd F = false := by
        unfold isEnd
        have a1 : F ≠ [106, 117, 109, 112] := n2
        have a2 : F ≠ [114, 101, 116] := n3
        have a3 : F ≠ [98, 114, 97, 110, 99, 104] := n4
        simp [a1, a2, a3]
      rw [if_neg n5, if_neg (by rw [ne]; decide), if_neg (by decide), if_neg (by decide), hl]
  · rw [if_neg h0] at hw
    by_cases e1 : F = wBlock
    · rw [if_pos e1] at hw
      cases hw
      unfold stepW stepO
      rw [if_pos e1, if_pos rfl]
      cases cur <;> rfl
    · rw [if_neg e1] at hw
      by_cases e2 : F = wPhi
      · rw [if_pos e2] at hw
        cases hw
        unfold stepW stepO
        rw [if_neg e1, if_neg (by decide)]
        cases cur with
        | none => rfl
        | some pi =>
          obtain ⟨ps, is⟩ := pi
          dsimp only
          rw [if_pos e2, if_pos rfl, phi_link F r 0 (by simpa [takesB] using ht) ho]
      · rw [if_neg e2] at hw
        have fin : ∀ k : Nat, (F = wJump ∧ k = 1) ∨ (F = wBranch ∧ k = 2) ∨ (F = wRet ∧ k = 3) → some (3, k) = some (ro, co) → stepW ⟨pre, cur⟩ F (F :: r) = stepO ro co (valsF (conAt ro co r.length) 0 r) ⟨pre, cur⟩ := fun k hk e => by
          cases e
          have hnl : r.length = cntT co := by simpa [takesB] using ht
          have hl := ter_link F r co hk hnl ho
          have he : isEnd F = true := by rcases hk with ⟨rfl, _⟩ | ⟨rfl, _⟩ | ⟨rfl, _⟩ <;> rfl
          unfold stepW stepO
          rw [if_neg e1, if_neg (by decide)]
          cases cur with
          | none => rfl
          | some pi =>
            obtain ⟨ps, is⟩ := pi
            dsimp only
            rw [if_neg e2, if_pos he, if_neg (by decide), if_pos rfl, hl]
        by_cases e3 : F = wJump
        · rw [if_pos e3] at hw; exact fin 1 (Or.inl ⟨e3, rfl⟩) hw
        · rw [if_neg e3] at hw
          by_cases e4 : F = wBranch
          · rw [if_pos e4] at hw; exact fin 2 (Or.inr (Or.inl ⟨e4, rfl⟩)) hw
          · rw [if_neg e4] at hw
            by_cases e5 : F = wRet
            · rw [if_pos e5] at hw; exact fin 3 (Or.inr (Or.inr ⟨e5, rfl⟩)) hw
            · rw [if_neg e5] at hw; cases hw
end Go.Proofs.YtdcdgopblbmgoaaGreatDoor
