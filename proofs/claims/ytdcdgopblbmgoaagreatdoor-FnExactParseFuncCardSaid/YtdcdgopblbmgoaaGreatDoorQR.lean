import Derived.Test.YtdcdgopblbmgoaaGreatDoorRunQ
import Derived.Test.YtdcdgopblbmgoaaGreatDoorE11a
/-
  What used and fill make of a new instruction or end.
-/
namespace Go.Proofs.YtdcdgopblbmgoaaGreatDoor
open Go.RowKit Go.Shelf

def keepO : List Bool → List Nat → List Nat
  | k :: ks, p :: ps => if k then p :: keepO ks ps else keepO ks ps
  | _, _ => []
theorem keepO_P (b : Nat) : ∀ (ks : List Bool) (os : List Nat), keepP ks (os.map fun o => (⟨b, o, none⟩ : Addr)) = (keepO ks os).map fun o => (⟨b, o, none⟩ : Addr)
  | [], [] => rfl
  | [], _ :: _ => rfl
  | _ :: _, [] => rfl
  | k :: ks, o :: os => by cases k <;> simp [keepP, keepO, keepO_P b ks os]
def takeN : List Bool → List Int → List Int
  | [], _ => []
  | true :: ks, x :: xs => x :: takeN ks xs
  | true :: ks, [] => 0 :: takeN ks []
  | false :: ks, xs => 0 :: takeN ks xs
def insB (k : Int) (d a b i : Bool) (nums : List Int) : Ins := ⟨k, (takeN [d, a, b, i] nums).getD 0 0, (takeN [d, a, b, i] nums).getD 1 0, (takeN [d, a, b, i] nums).getD 2 0, (takeN [d, a, b, i] nums).getD 3 0⟩
def insN (k : Int) (nums : List Int) : Ins := insB k (dB k) (aB k) (bB k) (iB k) nums
def terB (k : Int) (a t e : Bool) (nums : List Int) : Ter := ⟨k, (takeN [a, t, e] nums).getD 0 0, (takeN [a, t, e] nums).getD 1 0, (takeN [a, t, e] nums).getD 2 0⟩
def terN (k : Int) (nums : List Int) : Ter := terB k (k != 1) (k != 3) (k == 2) nums
theorem fillW_below {H b : Nat} (h : H ≤ b) : ∀ (l : List (Nat × Int)) (w0 w : World), Below H w0 w → Below H w0 (fillW w b l)
  | [], _, _, k => k
  | (o, x) :: r, w0, w, k => by rw [fillW]; exact fillW_below h r w0 _ (k.setCell h _)

set_option maxHeartbeats 2000000 in
theorem fill_ins (w : World) (b : Nat) (k : Int) (d a bb i : Bool) (nums : List Int) (hl : nums.length = [d, a, bb, i].count true) (h : InsAt w b 0 ⟨k, 0, 0, 0, 0⟩) : InsAt (fillW w b ((keepO [d, a, bb, i] [1, 2, 3, 4]).zip nums)) b 0 (insB k d a bb i nums) := by
  obtain ⟨c0, c1, c2, c3, c4⟩ := h
  simp only [Nat.zero_add] at c0 c1 c2 c3 c4
  rcases nums with _ | ⟨x, _ | ⟨y, _ | ⟨z, _ | ⟨u, _ | ⟨v, r⟩⟩⟩⟩⟩ <;> cases d <;> cases a <;> cases bb <;> cases i <;> first
    | (exfalso; simp at hl; done)
    | (exfalso; simp at hl; omega)
    | (refine ⟨?_, ?_, ?_, ?_, ?_⟩ <;> simp [fillW, keepO, insB, takeN, c0, c1, c2, c3, c4, go_sem])
set_option maxHeartbeats 2000000 in
theorem fill_ter (w : World) (b : Nat) (k : Int) (a t e : Bool) (nums : List Int) (hl : nums.length = [a, t, e].count true) (h : TerAt w b 0 ⟨k, 0, 0, 0⟩) : TerAt (fillW w b ((keepO [a, t, e] [1, 2, 3]).zip nums)) b 0 (terB k a t e nums) := by
  obtain ⟨c0, c1, c2, c3⟩ := h
  simp only [Nat.zero_add] at c0 c1 c2 c3
  rcases nums with _ | ⟨x, _ | ⟨y, _ | ⟨z, _ | ⟨u, r⟩⟩⟩⟩ <;> cases a <;> cases t <;> cases e <;> first
    | (exfalso; simp at hl; done)
    | (exfalso; simp at hl; omega)
    | (refine ⟨?_, ?_, ?_, ?_⟩ <;> simp [fillW, keepO, terB, takeN, c0, c1, c2, c3, go_sem])
theorem zip_fst {α β : Type} : ∀ (l : List α) (r : List β), l.length = r.length → (l.zip r).map (·.1) = l
  | [], _, _ => by simp
  | _ :: _, [], h => by simp at h
  | a :: l, b :: r, h => by simp [zip_fst l r (by simpa using h)]
theorem zip_snd {α β : Type} : ∀ (l : List α) (r : List β), l.length = r.length → (l.zip r).map (·.2) = r
  | [], [], _ => rfl
  | [], _ :: _, h => by simp at h
  | _ :: _, [], h => by simp at h
  | a :: l, b :: r, h => by simp [zip_snd l r (by simpa using h)]
theorem keepO_count (ks : List Bool) (os : List Nat) (h : ks.length = os.length) : (keepO ks os).length = ks.count true := by
  induction ks generalizing os with
  | nil => rfl
  | cons x r ih => cases os with
    | nil => simp at h
    | cons q s => cases x <;> simp [keepO, ih s (by simpa using h)]
theorem keepO_mem {N : Nat} : ∀ (ks : List Bool) (os : List Nat), (∀ o ∈ os, o < N) → ∀ o ∈ keepO ks os, o < N
  | [], [], _, o, h => by simp [keepO] at h
  | [], _ :: _, _, o, h => by simp [keepO] at h
  | _ :: _, [], _, o, h => by simp [keepO] at h
  | k :: ks, p :: os, hN, o, h => by
    have ih := keepO_mem ks os (fun o ho => hN o (List.mem_cons_of_mem _ ho)) o
    cases k with
    | false => simp only [keepO] at h; exact ih (by simpa using h)
    | true =>
      simp only [keepO, if_true, List.mem_cons] at h
      rcases h with rfl | h
      · exact hN _ (List.mem_cons_self ..)
      · exact ih h

/-- fill into a block's cells that a row of pointers names. -/
theorem fill_row (b t N : Nat) (f : Nat → Value) (ks : List Bool) (os : List Nat) (nums : List Int) (v : Value) (base nc L2 B2 : Nat) (na : Option Addr) (nn : Nat) (w : World)
    (ho : w.ownsRow base 174 1 v (keepP ks (os.map fun o => (⟨b, o, none⟩ : Addr))).length ((keepP ks (os.map fun o => (⟨b, o, none⟩ : Addr))).map ptrV)) (hko : ks.length = os.length) (hcnt : nums.length = ks.count true) (hnn : nn = nums.length) (hn : nn ≤ 1000000)
    (hrow : w.rowIs b t N f) (hN : ∀ o ∈ os, o < N) (hi : IntsAt w L2 B2 na nums) (hb1 : b < base) (hb2 : B2 ≤ b) :
    ∃ fa fc, v = .slice fa nn fc ∧ Calls Tryz.prog 98 #[.slice fa nn fc, .slice na nn nc] w fun e w' => e = .returned (.tuple #[]) ∧ w' = fillW w b ((keepO ks os).zip nums) := by
  have hkl := keepO_count ks os hko
  obtain ⟨fa, fc, rfl, hv⟩ := vals_owned ho
  rw [keepO_P, List.map_map] at hv
  have hz : (keepO ks os).length = nums.length := by omega
  refine ⟨fa, fc, by rw [keepO_P, List.length_map, List.length_map, hz, hnn], ?_⟩
  exact fill_any b t N f fa na nn nn fc nc base w.heap.size L2 B2 ((keepO ks os).zip nums) w (hide (by simp [hz, hnn])) (hide (Nat.le_refl _)) hn (hide hrow) (hide (fun q hq => keepO_mem ks os hN q.1 (List.of_mem_zip hq).1)) (hide (by
    have e : ((keepO ks os).zip nums).map (fun q => ptrV ⟨b, q.1, none⟩) = (keepO ks os).map (ptrV ∘ fun o => (⟨b, o, none⟩ : Addr)) := by
      conv => rhs; rw [← zip_fst _ _ hz]
      rw [List.map_map]; rfl
    rw [e]; exact hv)) (hide (by rw [zip_snd _ _ hz]; exact hi)) (Or.inl hb1) (Or.inr hb2)
/-- used and then fill, of a new instruction. -/
theorem used_fillI (w0 w : World) (k : Nat) (b nn nc L2 B2 : Nat) (na : Option Addr) (nums : List Int) (hb : Below w0.heap.size w0 w) (hb0 : w0.heap.size ≤ b) (hbl : b < w.heap.size) (hi : InsAt w b 0 ⟨k, 0, 0, 0, 0⟩) {t : TypeId} {f : Nat → Value} (hrow : w.rowIs b t 5 f) (h1 : 1 ≤ k) (h2 : k ≤ 13) (ht : OpTabW w) (hnn : nn = nums.length) (hcnt : nn = cntI k) (hn : nn ≤ 1000000) (hna : IntsAt w L2 B2 na nums) (hB2 : B2 ≤ b) :
    Calls Tryz.prog 94 #[.pointer (some ⟨b, 0, none⟩)] w fun e w5 => ∃ fa fc, e = .returned (.slice fa nn fc) ∧ Hid (Calls Tryz.prog 98 #[.slice fa nn fc, .slice na nn nc] w5 fun e w' => e = .returned (.tuple #[]) ∧ Hid (Below w0.heap.size w0 w') ∧ b < w'.heap.size ∧ Hid (InsAt w' b 0 (insN k nums))) := by
  refine (usedI_any b k 0 0 0 0 w (hide hi) h1 h2 (hide ht)).mono ?_
  rintro e w5 ⟨v, rfl, h5, ho⟩
  have hs := h5.size
  have hc : nums.length = [dB k, aB k, bB k, iB k].count true := by rw [← hnn]; exact hcnt
  obtain ⟨fa, fc, rfl, hcall⟩ := fill_row b t 5 f [dB k, aB k, bB k, iB k] [1, 2, 3, 4] nums v w.heap.size nc L2 B2 na nn w5 ho rfl hc hnn hn (hrow.of_block (h5.block b hbl)) (by simp) (hna.keep (h5.mono (by omega))) hbl hB2
  refine ⟨fa, fc, rfl, hide (hcall.mono ?_)⟩
  rintro e w' ⟨rfl, rfl⟩
  exact ⟨rfl, hide (fillW_below hb0 _ _ _ (hb.trans (h5.mono hb.size))), by rw [fillW_size]; omega, hide (fill_ins w5 b k _ _ _ _ nums hc (hi.keepS (h5.block b hbl)))⟩
/-- The same of a new end. -/
theorem used_fillT (w0 w : World) (k : Nat) (b nn nc L2 B2 : Nat) (na : Option Addr) (nums : List Int) (hb : Below w0.heap.size w0 w) (hb0 : w0.heap.size ≤ b) (hbl : b < w.heap.size) (hi : TerAt w b 0 ⟨k, 0, 0, 0⟩) {t : TypeId} {f : Nat → Value} (hrow : w.rowIs b t 4 f) (h1 : 1 ≤ k) (h2 : k ≤ 3) (ht : TerTabW w) (hnn : nn = nums.length) (hcnt : nn = cntT k) (hn : nn ≤ 1000000) (hna : IntsAt w L2 B2 na nums) (hB2 : B2 ≤ b) :
    Calls Tryz.prog 95 #[.pointer (some ⟨b, 0, none⟩)] w fun e w5 => ∃ fa fc, e = .returned (.slice fa nn fc) ∧ Hid (Calls Tryz.prog 98 #[.slice fa nn fc, .slice na nn nc] w5 fun e w' => e = .returned (.tuple #[]) ∧ Hid (Below w0.heap.size w0 w') ∧ b < w'.heap.size ∧ Hid (TerAt w' b 0 (terN k nums))) := by
  refine (usedT_any b k 0 0 0 w (hide hi) h1 h2 (hide ht)).mono ?_
  rintro e w5 ⟨v, rfl, h5, ho⟩
  have hs := h5.size
  have hc : nums.length = [(k : Int) != 1, (k : Int) != 3, (k : Int) == 2].count true := by rw [← hnn]; exact hcnt
  obtain ⟨fa, fc, rfl, hcall⟩ := fill_row b t 4 f [(k : Int) != 1, (k : Int) != 3, (k : Int) == 2] [1, 2, 3] nums v w.heap.size nc L2 B2 na nn w5 ho rfl hc hnn hn (hrow.of_block (h5.block b hbl)) (by simp) (hna.keep (h5.mono (by omega))) hbl hB2
  refine ⟨fa, fc, rfl, hide (hcall.mono ?_)⟩
  rintro e w' ⟨rfl, rfl⟩
  exact ⟨rfl, hide (fillW_below hb0 _ _ _ (hb.trans (h5.mono hb.size))), by rw [fillW_size]; omega, hide (fill_ter w5 b k _ _ _ nums hc (hi.keepS (h5.block b hbl)))⟩
end Go.Proofs.YtdcdgopblbmgoaaGreatDoor

/-
  put of the program's reader: an instruction, an end.
-/
namespace Go.Proofs.YtdcdgopblbmgoaaGreatDoor
open Go.RowKit Go.Shelf
theorem row_lit (W : World) (c : Array Value) (t : TypeId) : (W.alloc (.cells c t)).rowIs W.heap.size t c.size (fun i => c[i]!) := World.rowIs_alloc W c t _ (fun i hi => by simp [hi])

set_option maxHeartbeats 4000000 in
set_option maxRecDepth 100000 in
theorem put_ins (R : Nat) (wd : Value) (V : Int) (B0 : Nat) (pre : List Blk) (ps : List Ph) (is : List Ins) (va : Option Addr) (vn vc k : Nat) (na : Option Addr) (nn nc : Nat) (nums : List Int) (w0 w : World) (h : Hid (RSt w0 R wd V B0 ⟨pre, some (ps, is)⟩ va vn vc)) (hb : Hid (Below w0.heap.size w0 w)) (hvb : vn ≤ 100000) (hil : is.length ≤ 100000) (hk1 : 1 ≤ k) (hk2 : k ≤ 13) (ht : Hid (OpTabW w))
    (hnn : Hid (nn = nums.length)) (hcnt : Hid (nn = cntI k)) (hnl : nn ≤ 1000000) (hna : Hid (IntsAt w w0.heap.size w.heap.size na nums)) :
    Calls Tryz.prog 79 #[.pointer (some ⟨R, 0, none⟩), opV 2 k, .slice na nn nc] w fun e w' => e = .returned (.tuple #[]) ∧ ∃ va' vn' vc', RSt w' R wd V B0 ⟨pre, some (ps, is ++ [insN k nums])⟩ va' vn' vc' ∧ Kb B0 R R w w' := by
  obtain ⟨H, G, pa, pc, ia, ic, hva, hvn, hbo⟩ := h.out.st
  dsimp only at hvn hbo
  obtain ⟨lo1, lo2⟩ := h.out.lo
  have hbs := hb.out.size
  obtain ⟨⟨lG0, lG1⟩, lH1, lH2⟩ := hbo.lo
  have hw := h.out.keep hb.out
  have HBO := hide (hbo.keep (w' := w) (fun b _ h2 => hb.out.block b h2) hbs)
  obtain ⟨H2, cs, ⟨hH1, hH2⟩, hph, hio, hcs⟩ := HBO.out.insRow
  have hRl : R < w.heap.size := by omega
  have hGl : G < w.heap.size := by omega
  have b1 := fun x => balloc (Below.refl w.heap.size w) x
  obtain ⟨m, hm⟩ : ∃ m, pre.length = m := ⟨_, rfl⟩
  have hvm : vn = m + 1 := by omega
  have HLA : Hid (∀ W, Below w.heap.size w W → Calls Tryz.prog 97 #[.pointer (some ⟨R, 0, none⟩)] W fun e w' => e = .returned (.pointer (some ⟨G, m * 6, none⟩)) ∧ w' = W.drew) := hide (fun W hW => last_any R wd V G m vc true W (by
    have q := (hw.rd.keep (hW.block R hRl))
    rw [hva, hvm] at q
    exact q) (by omega))
  have HUS : Hid (∀ x, Calls Tryz.prog 94 #[.pointer (some ⟨w.heap.size + 1, 0, none⟩)] ((w.alloc x).alloc (.cells #[.int .i64 k, .int .i64 0, .int .i64 0, .int .i64 0, .int .i64 0] 53)) fun e w5 => ∃ fa fc, e = .returned (.slice fa nn fc) ∧ Hid (Calls Tryz.prog 98 #[.slice fa nn fc, .slice na nn nc] w5 fun e w' => e = .returned (.tuple #[]) ∧ Hid (Below w.heap.size w w') ∧ w.heap.size + 1 < w'.heap.size ∧ Hid (InsAt w' (w.heap.size + 1) 0 (insN k nums)))) := hide (fun x => by
    have es : w.heap.size + 1 = (w.alloc x).heap.size := (World.size_alloc _ _).symm
    have hbb := balloc (b1 x) (.cells #[.int .i64 k, .int .i64 0, .int .i64 0, .int .i64 0, .int .i64 0] 53)
    have hr := row_lit (w.alloc x) #[.int .i64 k, .int .i64 0, .int .i64 0, .int .i64 0, .int .i64 0] 53
    rw [← es] at hr
    exact used_fillI w _ k (w.heap.size + 1) nn nc w0.heap.size w.heap.size na nums hbb (by omega) (by simp) (ins_new _ k _ es) hr hk1 hk2 (ht.out.keep hbb ht.out.1) hnn.out hcnt.out hnl (hna.out.keep hbb) (by omega))
  have HAP : Hid (∀ W, Below w.heap.size w W → W.ownsRow H2 53 5 (.slice ia is.length ic) is.length cs) := hide (fun W hW => ownKeep hcs (fun b e => hW.block b (hcs.lt b e).2))
  have HCL : Hid (∀ W, Below w.heap.size w W → W.cell? ⟨G, m * 6 + 1, none⟩ = some (.slice ia is.length ic)) := hide (fun W hW => (hW.cell (p := ⟨G, m * 6 + 1, none⟩) hGl).trans (by rw [← hm]; exact HBO.out.c1))
  generalize insN k nums = x at *
  have HGW : Hid (∀ W g' cap' wN, Below w.heap.size w W → wN.ownsRow H2 53 5 (.slice (some ⟨g', 0, none⟩) (is.length + 1) cap') (is.length + 1) (cs ++ x.cells) → W.grownBy wN (Value.slice ia is.length ic).ownBlock → wN.cell? ⟨G, m * 6 + 1, none⟩ = some (.slice ia is.length ic) ∧ (∀ o, wN.frozen? ⟨G, o, none⟩ = false) ∧ (∀ b o, w.heap.size ≤ b → b < W.heap.size → wN.cell? ⟨b, o, none⟩ = W.cell? ⟨b, o, none⟩) ∧ RSt (wN.setCell ⟨G, m * 6 + 1, none⟩ (.slice (some ⟨g', 0, none⟩) (is.length + 1) cap')) R wd V B0 ⟨pre, some (ps, is ++ [x])⟩ (some ⟨G, 0, none⟩) (m + 1) vc ∧ Kb B0 R R w (wN.setCell ⟨G, m * 6 + 1, none⟩ (.slice (some ⟨g', 0, none⟩) (is.length + 1) cap'))) := hide (fun W g' cap' wN hW ho hg => by
    have hWs := hW.size
    have hgs := hg.size
    have hcs' := HAP.out W hW
    have hbo' := HBO.out.keep (w' := W) (fun b _ h2 => hW.block b h2) hWs
    have hin := hbo'.ins (H2 := H2) ⟨hH1, by omega⟩ (hph.keepS (fun b _ h2 => hW.block b (by omega))) (hio.keep (fun b _ h2 => hW.block b h2)) hcs' x ho hg
    rw [hm] at hin
    have low : ∀ b, b < H2 → wN.heap[b]? = W.heap[b]? := fun b h1 => hg.block b (by omega) (fun e => by have := (hcs'.lt b e.symm).1; omega)
    have kG := (low G (by omega)).trans (hW.block G hGl)
    have far : ∀ b, b ≠ G → (wN.setCell ⟨G, m * 6 + 1, none⟩ (.slice (some ⟨g', 0, none⟩) (is.length + 1) cap')).heap[b]? = wN.heap[b]? := fun b hb => Below.heap_setCell _ _ _ _ hb
    have kR := (low R (by omega)).trans (hW.block R hRl)
    have kR2 := (far R (by omega)).trans kR
    have hrd := hw.rd.keep kR2
    rw [hva, hvm] at hrd
    have hth := fun o => rowThaw HBO.out.own.choose_spec o
    refine ⟨(cell_of kG).trans (by rw [← hm]; exact HBO.out.c1), fun o => (World.frozen?_of_block kG).trans (hth o), fun b o h1 h2 => cell_of (hg.block b h2 (fun e => by have := (hcs.lt b e.symm).2; omega)), ⟨hrd, ⟨_, _, _, _, _, _, rfl, by show m + 1 = pre.length + 1; rw [hm], hin⟩, fun o => (World.frozen?_of_block kR2).trans (hw.fz o), ⟨lo1, by rw [size_setCell]; omega⟩⟩, Kb.low' (hg.os.trans hW.os) (hg.tape.trans hW.tape) (hg.output.trans hW.output) (by rw [size_setCell]; omega) (fun b h1 h2 => (far b (by omega)).trans ((low b (by omega)).trans (hW.block b (by omega))))⟩)
  obtain ⟨i0, hi0, hz0, hz1, hz2⟩ := info_parts Tryz.infoIns2
  have nGb : G ≠ w.heap.size + 1 := by omega
  have nbG : w.heap.size + 1 ≠ G := by omega
  clear h hb hbo hw HBO hcs hna hnn hcnt hm hvm hva hvn hph hio ht b1 hk1 hk2
  unfold opV
  obtain ⟨xo, xd, xa, xb, xi⟩ := x
  generalize is.length = il at *
  go_enter Tryz.func79, Tryz.ntmps79
  go_wp2_with (first
    | (go_at_call 94; refine (HUS.out _).mono ?_; rintro e w5 ⟨fa, fc, rfl, HF⟩)
    | (go_at_call 98; refine HF.out.mono ?_; rintro e w6 ⟨rfl, HB6, hb6, HI6⟩; have hs6 := HB6.out.size; obtain ⟨q0, q1, q2, q3, q4⟩ := HI6.out; simp only [Nat.zero_add] at q0 q1 q2 q3 q4; have g6 := HCL.out _ HB6.out; have g6a := fun y => HCL.out _ (balloc HB6.out y))
    | (go_at_call 97; refine (HLA.out _ HB6.out).mono ?_; rintro e w1 ⟨rfl, hw1⟩; rw [hw1]; clear hw1 w1))
  refine wp_region_held_drew (S := (fun w' => w'.cell? ⟨w.heap.size + 1, 0, none⟩ = some (.int .i64 xo) ∧ w'.cell? ⟨w.heap.size + 1, 1, none⟩ = some (.int .i64 xd) ∧ w'.cell? ⟨w.heap.size + 1, 2, none⟩ = some (.int .i64 xa) ∧ w'.cell? ⟨w.heap.size + 1, 3, none⟩ = some (.int .i64 xb) ∧ w'.cell? ⟨w.heap.size + 1, 4, none⟩ = some (.int .i64 xi))) (by kernel_rfl) (by (try dsimp only); go_keep) (fun hHeld => ?_)
  refine wpAnyH_take (i := 0) (v := ?_) rfl (by kernel_rfl) (by kernel_rfl) (by kernel_rfl) (fun _ _ _ h => h) (Or.inl ⟨by rfl, ?_⟩) (by assumption) ?_
  rotate_left
  · intro w hSw; (try dsimp only at hSw); go_simp; try with_reducible rfl
  simp only [Act.put, List.getElem_toArray, List.getElem_cons_zero, List.setIfInBounds_toArray, List.set_cons_zero, List.set_cons_succ]
  refine wpAnyH_take (i := 1) (v := ?_) rfl (by kernel_rfl) (by kernel_rfl) (by kernel_rfl) (fun _ _ _ h => h) (Or.inl ⟨by rfl, ?_⟩) (by assumption) ?_
  rotate_left
  · intro w hSw; (try dsimp only at hSw); go_simp; try with_reducible rfl
  simp only [Act.put, List.getElem_toArray, List.getElem_cons_zero, List.getElem_cons_succ, List.setIfInBounds_toArray, List.set_cons_zero, List.set_cons_succ]
  refine wpAnyH_take (i := 2) (v := ?_) rfl (by kernel_rfl) (by kernel_rfl) (by kernel_rfl) (fun _ _ _ h => h) (Or.inl ⟨by rfl, ?_⟩) (by assumption) ?_
  rotate_left
  · intro w hSw; (try dsimp only at hSw); go_simp; try with_reducible rfl
  simp only [Act.put, List.getElem_toArray, List.getElem_cons_zero, List.getElem_cons_succ, List.setIfInBounds_toArray, List.set_cons_zero, List.set_cons_succ]
  refine wpAnyH_take (i := 3) (v := ?_) rfl (by kernel_rfl) (by kernel_rfl) (by kernel_rfl) (fun _ _ _ h => h) (Or.inl ⟨by rfl, ?_⟩) (by assumption) ?_
  rotate_left
  · intro w hSw; (try dsimp only at hSw); go_simp; try with_reducible rfl
  simp only [Act.put, List.getElem_toArray, List.getElem_cons_zero, List.getElem_cons_succ, List.setIfInBounds_toArray, List.set_cons_zero, List.set_cons_succ]
  refine wpAnyH_take (i := 5) (v := ?_) rfl (by kernel_rfl) (by kernel_rfl) (by kernel_rfl) (fun _ _ _ h => h) (Or.inl ⟨by rfl, ?_⟩) (by assumption) ?_
  rotate_left
  · intro w hSw; (try dsimp only at hSw); go_simp; try with_reducible rfl
  simp only [Act.put, List.getElem_toArray, List.getElem_cons_zero, List.getElem_cons_succ, List.setIfInBounds_toArray, List.set_cons_zero, List.set_cons_succ]
  refine wpAnyH_ready (rs := [4, 6]) (by kernel_rfl) (by simp) ?_
  refine (AllReadyH.cons rfl (fun K hK => ?_) (AllReadyH.cons rfl (fun K hK => ?_) AllReadyH.nil))
  · skip
    go_simp
    refine hK.out _ _ (by first | with_reducible exact hHeld | ((try dsimp only); go_keep)) (fun hHeld => ?_)
    clear hK
    try simp only [Act.put, List.getElem_toArray, List.getElem_cons_zero, List.getElem_cons_succ, List.setIfInBounds_toArray, List.set_cons_zero, List.set_cons_succ]
    refine wpAnyH_ready (rs := [6]) (by kernel_rfl) (by simp) ?_
    refine AllReadyH.cons rfl (fun K hK => ?_) AllReadyH.nil
    go_simp
    refine hK.out _ _ (by first | with_reducible exact hHeld | ((try dsimp only); go_keep)) (fun hHeld => ?_)
    clear hK
    try simp only [Act.put, List.getElem_toArray, List.getElem_cons_zero, List.getElem_cons_succ, List.setIfInBounds_toArray, List.set_cons_zero, List.set_cons_succ]
    refine wpAnyH_ready (rs := [7]) (by kernel_rfl) (by simp) ?_
    refine AllReadyH.cons rfl (fun K hK => ?_) AllReadyH.nil
    refine step_append_lies _ rfl (.tmp 62) (.tmp 64) 44 rfl H2 53 i0 (.agg #[.int .i64 0, .int .i64 0, .int .i64 0, .int .i64 0, .int .i64 0]) 5 40 Tryz.underlying44 hi0 hz0 hz1 hz2 rfl (by decide) (.slice ia il ic) il cs (by simp [Act.eval]) (HAP.out _ (balloc HB6.out _).drew.drew) ⟨w6.heap.size, 0, none⟩ 1 1 [.int .i64 xo, .int .i64 xd, .int .i64 xa, .int .i64 xb, .int .i64 xi] (by simp [Act.eval]) rfl (World.news_of_block (by have q := heapNew w6 (.cells #[.int .i64 xo, .int .i64 xd, .int .i64 xa, .int .i64 xb, .int .i64 xi] 53); exact q)) (by intro u hu; simp at hu; rcases hu with rfl | rfl | rfl | rfl | rfl <;> rfl) (by decide) (by unfold maxLen; omega) (by omega) (by simp; omega) (w6.heap.size + 1) (by simp) ?_
    intro g' cap' wN hown hgrow hat hlt2
    obtain ⟨d2, dz, dn, hrs, hkb⟩ := HGW.out _ _ _ _ (balloc HB6.out _).drew.drew hown hgrow
    have HRS := hide hrs
    have HKB := hide hkb
    have dz0 := dz (m * 6 + 1)
    obtain ⟨s0, s1, s2, s3, s4⟩ := hHeld
    have dn' := fun o => dn (w.heap.size + 1) o (by omega) (by show _ < (w6.alloc _).heap.size; rw [World.size_alloc]; omega)
    have r0 := (dn' 0).trans s0
    have r1 := (dn' 1).trans s1
    have r2 := (dn' 2).trans s2
    have r3 := (dn' 3).trans s3
    have r4 := (dn' 4).trans s4
    clear hown hgrow hat hlt2 hrs hkb dz dn dn' s0 s1 s2 s3 s4
    refine hK.out _ _ (by first | exact ⟨r0, r1, r2, r3, r4⟩ | ((try dsimp only); go_keep)) (fun hHeld => ?_)
    clear hK
    try simp only [Act.put, List.getElem_toArray, List.getElem_cons_zero, List.getElem_cons_succ, List.setIfInBounds_toArray, List.set_cons_zero, List.set_cons_succ]
    refine wpAnyH_take (i := 8) (v := ?_) rfl (by kernel_rfl) (by kernel_rfl) (by kernel_rfl) (fun _ _ _ h => h) (Or.inl ⟨by rfl, ?_⟩) (by assumption) ?_
    rotate_left
    · intro w hSw; (try dsimp only at hSw); go_simp; try with_reducible rfl
    simp only [Act.put, List.getElem_toArray, List.getElem_cons_zero, List.getElem_cons_succ, List.setIfInBounds_toArray, List.set_cons_zero, List.set_cons_succ]
    refine wpAnyH_take (i := 9) (v := ?_) rfl (by kernel_rfl) (by kernel_rfl) (by kernel_rfl) (fun _ _ _ h => h) (Or.inl ⟨by rfl, ?_⟩) (by assumption) ?_
    rotate_left
    · intro w hSw; (try dsimp only at hSw); go_simp; try with_reducible rfl
    simp only [Act.put, List.getElem_toArray, List.getElem_cons_zero, List.getElem_cons_succ, List.setIfInBounds_toArray, List.set_cons_zero, List.set_cons_succ]
    refine wpAnyH_ready (rs := [10]) (by kernel_rfl) (by simp) ?_
    refine AllReadyH.cons rfl (fun K hK => ?_) AllReadyH.nil
    go_simp
    refine hK.out _ _ (by first | with_reducible exact hHeld | ((try dsimp only); go_keep)) (fun hHeld => ?_)
    clear hK
    try simp only [Act.put, List.getElem_toArray, List.getElem_cons_zero, List.getElem_cons_succ, List.setIfInBounds_toArray, List.set_cons_zero, List.set_cons_succ]
    refine wpAnyH_done (by kernel_rfl) ?_ _
    go_wp2
    exact bodyPost_end (v := .tuple #[]) (by simp [results, Tryz.results79, go_sem]) rfl ⟨rfl, _, _, _, HRS.out, HKB.out⟩
  · skip
    go_simp
    refine hK.out _ _ (by first | with_reducible exact hHeld | ((try dsimp only); go_keep)) (fun hHeld => ?_)
    clear hK
    try simp only [Act.put, List.getElem_toArray, List.getElem_cons_zero, List.getElem_cons_succ, List.setIfInBounds_toArray, List.set_cons_zero, List.set_cons_succ]
    refine wpAnyH_ready (rs := [4]) (by kernel_rfl) (by simp) ?_
    refine AllReadyH.cons rfl (fun K hK => ?_) AllReadyH.nil
    go_simp
    refine hK.out _ _ (by first | with_reducible exact hHeld | ((try dsimp only); go_keep)) (fun hHeld => ?_)
    clear hK
    try simp only [Act.put, List.getElem_toArray, List.getElem_cons_zero, List.getElem_cons_succ, List.setIfInBounds_toArray, List.set_cons_zero, List.set_cons_succ]
    refine wpAnyH_ready (rs := [7]) (by kernel_rfl) (by simp) ?_
    refine AllReadyH.cons rfl (fun K hK => ?_) AllReadyH.nil
    refine step_append_lies _ rfl (.tmp 62) (.tmp 64) 44 rfl H2 53 i0 (.agg #[.int .i64 0, .int .i64 0, .int .i64 0, .int .i64 0, .int .i64 0]) 5 40 Tryz.underlying44 hi0 hz0 hz1 hz2 rfl (by decide) (.slice ia il ic) il cs (by simp [Act.eval]) (HAP.out _ (balloc HB6.out _).drew.drew) ⟨w6.heap.size, 0, none⟩ 1 1 [.int .i64 xo, .int .i64 xd, .int .i64 xa, .int .i64 xb, .int .i64 xi] (by simp [Act.eval]) rfl (World.news_of_block (by have q := heapNew w6 (.cells #[.int .i64 xo, .int .i64 xd, .int .i64 xa, .int .i64 xb, .int .i64 xi] 53); exact q)) (by intro u hu; simp at hu; rcases hu with rfl | rfl | rfl | rfl | rfl <;> rfl) (by decide) (by unfold maxLen; omega) (by omega) (by simp; omega) (w6.heap.size + 1) (by simp) ?_
    intro g' cap' wN hown hgrow hat hlt2
    obtain ⟨d2, dz, dn, hrs, hkb⟩ := HGW.out _ _ _ _ (balloc HB6.out _).drew.drew hown hgrow
    have HRS := hide hrs
    have HKB := hide hkb
    have dz0 := dz (m * 6 + 1)
    obtain ⟨s0, s1, s2, s3, s4⟩ := hHeld
    have dn' := fun o => dn (w.heap.size + 1) o (by omega) (by show _ < (w6.alloc _).heap.size; rw [World.size_alloc]; omega)
    have r0 := (dn' 0).trans s0
    have r1 := (dn' 1).trans s1
    have r2 := (dn' 2).trans s2
    have r3 := (dn' 3).trans s3
    have r4 := (dn' 4).trans s4
    clear hown hgrow hat hlt2 hrs hkb dz dn dn' s0 s1 s2 s3 s4
    refine hK.out _ _ (by first | exact ⟨r0, r1, r2, r3, r4⟩ | ((try dsimp only); go_keep)) (fun hHeld => ?_)
    clear hK
    try simp only [Act.put, List.getElem_toArray, List.getElem_cons_zero, List.getElem_cons_succ, List.setIfInBounds_toArray, List.set_cons_zero, List.set_cons_succ]
    refine wpAnyH_take (i := 8) (v := ?_) rfl (by kernel_rfl) (by kernel_rfl) (by kernel_rfl) (fun _ _ _ h => h) (Or.inl ⟨by rfl, ?_⟩) (by assumption) ?_
    rotate_left
    · intro w hSw; (try dsimp only at hSw); go_simp; try with_reducible rfl
    simp only [Act.put, List.getElem_toArray, List.getElem_cons_zero, List.getElem_cons_succ, List.setIfInBounds_toArray, List.set_cons_zero, List.set_cons_succ]
    refine wpAnyH_take (i := 9) (v := ?_) rfl (by kernel_rfl) (by kernel_rfl) (by kernel_rfl) (fun _ _ _ h => h) (Or.inl ⟨by rfl, ?_⟩) (by assumption) ?_
    rotate_left
    · intro w hSw; (try dsimp only at hSw); go_simp; try with_reducible rfl
    simp only [Act.put, List.getElem_toArray, List.getElem_cons_zero, List.getElem_cons_succ, List.setIfInBounds_toArray, List.set_cons_zero, List.set_cons_succ]
    refine wpAnyH_ready (rs := [10]) (by kernel_rfl) (by simp) ?_
    refine AllReadyH.cons rfl (fun K hK => ?_) AllReadyH.nil
    go_simp
    refine hK.out _ _ (by first | with_reducible exact hHeld | ((try dsimp only); go_keep)) (fun hHeld => ?_)
    clear hK
    try simp only [Act.put, List.getElem_toArray, List.getElem_cons_zero, List.getElem_cons_succ, List.setIfInBounds_toArray, List.set_cons_zero, List.set_cons_succ]
    refine wpAnyH_done (by kernel_rfl) ?_ _
    go_wp2
    exact bodyPost_end (v := .tuple #[]) (by simp [results, Tryz.results79, go_sem]) rfl ⟨rfl, _, _, _, HRS.out, HKB.out⟩
end Go.Proofs.YtdcdgopblbmgoaaGreatDoor
