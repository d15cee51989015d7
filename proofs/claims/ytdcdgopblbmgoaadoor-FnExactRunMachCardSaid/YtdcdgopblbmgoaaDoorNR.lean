import Derived.Test.YtdcdgopblbmgoaaDoorN4
import Derived.Test.YtdcdgopblbmgoaaDoorN10
import Derived.Test.YtdcdgopblbmgoaaDoorMN1
/-
  The program's run of a function: one step, and the whole run.
-/
namespace Go.Proofs.YtdcdgopblbmgoaaDoor
open Go.RowKit

def ifT : Value → TypeId
  | .iface T _ => T
  | _ => 0
def ifV : Value → Value
  | .iface _ V => V
  | v => v
def ndF (F : Fn) (args : List Int) (vs : Nat → Value) (s : RS) : Value := if h : s.pc < (F.blk s.b).instrs.length then nodeV args (F.blk s.b).instrs[s.pc] else .iface 200 (vs s.b)
theorem ndF_if (F : Fn) (args : List Int) (vs : Nat → Value) (s : RS) : Value.iface (ifT (ndF F args vs s)) (ifV (ndF F args vs s)) = ndF F args vs s := by
  unfold ndF
  split
  · obtain ⟨T, V, h⟩ := nodeV_iface args (F.blk s.b).instrs[s.pc]
    rw [h]; rfl
  · rfl
def okF (F : Fn) (n nv : Nat) (s : RS) : Prop := s.b < n ∧ s.pc ≤ (F.blk s.b).instrs.length ∧ s.vals.length = nv ∧ s.hp.length = 32
theorem takes_ok {F : Fn} {T b : Nat} (BT : BlkOk F T) (hm : (b : Int) ∈ F.preds T) : ∀ t ∈ takesR (idxR (F.preds T) b) (F.blk T).phis, (0 ≤ t.1 ∧ t.1 < F.values) ∧ 0 ≤ t.2 ∧ t.2 < F.values := fun t ht => by
  unfold takesR at ht
  obtain ⟨ph, hph, rfl⟩ := List.mem_map.1 ht
  obtain ⟨i, hi, rfl⟩ := List.getElem_of_mem hph
  obtain ⟨h1, h2, h3⟩ := phOk_facts (BT.phi i hi)
  have hx : idxR (F.preds T) b < (F.blk T).phis[i].args.length := by rw [h2]; exact idxR_lt hm
  refine ⟨h1, ?_⟩
  have e : (F.blk T).phis[i].args.getD (idxR (F.preds T) b) 0 = (F.blk T).phis[i].args[idxR (F.preds T) b] := by simp [hx]
  rw [e]
  exact h3 _ (List.getElem_mem hx)

/-- What is found in the table. -/
theorem cellF {F : Fn} {args : List Int} {lo Bt G n nv : Nat} {gs cs : Nat → Nat} {vs : Nat → Value} (hn : n = F.blocks.length) (hs : F.blocks.length + blksTot F.blocks ≤ 1048576) (s : RS) (W : World) (hok : okF F n nv s) (ht : NTab W lo Bt G n (nvF F args) (eF F) gs cs vs) :
    ∃ g ln cg, W.cell? ⟨G, s.b, none⟩ = some (.slice (some ⟨g, 0, none⟩) ln cg) ∧ s.b < n ∧ s.pc < ln ∧ s.pc ≤ 1048576 ∧ W.cell? ⟨g, s.pc, none⟩ = some (.iface (ifT (ndF F args vs s)) (ifV (ndF F args vs s))) := by
  obtain ⟨o1, o2, o3, o4⟩ := hok
  obtain ⟨t1, t2, t3, t4, t5⟩ := ht s.b o1
  have hl : (nvF F args s.b).length = (F.blk s.b).instrs.length := by unfold nvF; rw [List.length_map]
  have hsx : s.b < F.blocks.length := by omega
  have hil : (F.blk s.b).instrs.length ≤ 1048576 := by rw [blk_at F s.b hsx]; have := tot_le (List.getElem_mem hsx); omega
  refine ⟨gs s.b, _, cs s.b, t1, o1, by omega, by omega, ?_⟩
  rw [ndF_if]
  unfold ndF
  split
  · rename_i h
    have := t3 s.pc (by omega)
    rw [this]
    simp [nvF]
  · have : s.pc = (nvF F args s.b).length := by omega
    rw [this]
    exact t4

/-- One step of a function's run. -/
theorem stepF (F : Fn) (args : List Int) (fuel R : Nat) (aa : Option Addr) (na ca gh ch gv nv cv G n cn Bt lo : Nat) (gs cs : Nat → Nat) (vs : Nat → Value) (good : validS F = true) (hF : F.values = nv) (hn : n = F.blocks.length) (hs : F.blocks.length + blksTot F.blocks ≤ 1048576) (hf : fuel ≤ 60000)
    (hR : R < lo) (hgv : gv < lo) (hgh : gh < lo) (hRv : R ≠ gv) (hRh : R ≠ gh) (hlo : lo ≤ Bt) (s : RS) (k : Nat) (ta : Option Addr) (nt ct : Nat) (ka : Option Addr) (kn kc : Nat) (K : List Int) (W : World)
    (hok : okF F n nv s) (ht : NTab W lo Bt G n (nvF F args) (eF F) gs cs vs) (hBw : Bt ≤ W.heap.size) (hnt : nt ≤ k) (hk : k < fuel) (hst : PSt W W R aa na ca gh ch ta nt ct fuel ((k : Int) + 1) 0 gv nv cv G n cn s.b ((s.pc : Int) + 1) ka kn kc Bt s.vals s.hp s.tr K) :
    Calls Tryd.prog 117 #[.pointer (some ⟨R, 0, none⟩), .iface (ifT (ndF F args vs s)) (ifV (ndF F args vs s))] W fun e w' => ∃ c, e = .returned (.int .i64 c) ∧ ∃ ta' nt' ct' ka' kn' kc' K',
        ((c ≠ 0 ∧ ∃ value b' pc' vals' hp' tr', PSt W w' R aa na ca gh ch ta' nt' ct' fuel ((k : Int) + 1) value gv nv cv G n cn b' pc' ka' kn' kc' Bt vals' hp' tr' K' ∧ ∀ q, runR F args (q + 1) k s = ⟨c, value, k + 1, tr', hp'⟩) ∨
         (c = 0 ∧ ∃ s', okF F n nv s' ∧ nt' ≤ k + 1 ∧ PSt W w' R aa na ca gh ch ta' nt' ct' fuel ((k : Int) + 1) 0 gv nv cv G n cn s'.b s'.pc ka' kn' kc' Bt s'.vals s'.hp s'.tr K' ∧ ∀ q, runR F args (q + 1) k s = runR F args q (k + 1) s')) := by
  obtain ⟨o1, o2, o3, o4⟩ := hok
  obtain ⟨t1, t2, t3, t4, t5⟩ := ht s.b o1
  have hsx : s.b < F.blocks.length := by omega
  have BO := blkOk_of F good s.b hsx
  rw [ndF_if]
  unfold ndF
  by_cases hpc : s.pc < (F.blk s.b).instrs.length
  · rw [dif_pos hpc]
    have hok := BO.ins s.pc hpc
    rw [hF] at hok
    by_cases htr : (F.blk s.b).instrs[s.pc].op = 6 ∧ getN s.vals (F.blk s.b).instrs[s.pc].b = 0
    · refine (step_halt _ args R aa na ca gh ch ta nt ct fuel ((k : Int) + 1) 0 gv nv cv G n cn s.b ((s.pc : Int) + 1) ka kn kc s.vals s.hp s.tr K Bt _ (hide hst) (hide o3.symm) hok htr.1 htr.2 (by omega) (by omega) (by omega) hRv hRh hBw).mono ?_
      rintro e w' ⟨rfl, h⟩
      refine ⟨2, rfl, ta, nt, ct, ka, kn, kc, K, Or.inl ⟨by decide, 0, _, _, _, _, _, h, fun q => ?_⟩⟩
      rw [runR, stepR, dif_pos hpc, if_pos htr]
    · refine (step_ins _ args R aa na ca gh ch ta nt ct fuel ((k : Int) + 1) 0 gv nv cv G n cn s.b ((s.pc : Int) + 1) ka kn kc s.vals s.hp s.tr K Bt _ (hide hst) (hide o3.symm) (hide o4) (by omega) hok htr (by omega) (by omega) (by omega) hRv hRh hBw).mono ?_
      rintro e w' ⟨rfl, ta', nt', ct', h⟩
      have hl1 := h.2.2.mem.len
      have hl2 := hst.2.2.mem.len
      have hl3 := execT_len (F.blk s.b).instrs[s.pc] s.vals s.tr
      refine ⟨0, rfl, ta', nt', ct', ka, kn, kc, K, Or.inr ⟨rfl, ⟨s.b, s.pc + 1, execV (F.blk s.b).instrs[s.pc] args s.vals s.hp, execH (F.blk s.b).instrs[s.pc] s.vals s.hp, execT (F.blk s.b).instrs[s.pc] s.vals s.tr⟩, ⟨o1, by show s.pc + 1 ≤ (F.blk s.b).instrs.length; omega, by show (execV _ _ _ _).length = _; rw [execV_len]; exact o3, by show (execH _ _ _).length = _; rw [execH_len]; exact o4⟩, by omega, h, fun q => ?_⟩⟩
      rw [runR, stepR, dif_pos hpc, if_neg htr]
  · rw [dif_neg hpc]
    obtain ⟨u1, u2, wa, oa, nw, cw, no, co, hval, hw1, hw2⟩ := t5
    rw [hval]
    have hkd := term_kind BO
    have hta : (F.blk s.b).term.kind ≠ 1 → 0 ≤ (F.blk s.b).term.a ∧ (F.blk s.b).term.a < nv := fun h => by have := term_a BO h; rw [hF] at this; exact this
    refine step_end R _ _ u1 u2 wa oa nw cw no co _ W (hide (fun x => ?_))
    have hn1 := hst.next hBw (by omega) (balloc (Below.refl _ _) x)
    by_cases hk3 : (F.blk s.b).term.kind = 3
    · obtain ⟨a0, a1⟩ := hta (by omega)
      obtain ⟨xa, hxa⟩ := Int.eq_ofNat_of_zero_le a0
      rw [hk3, hxa]
      rw [hxa] at a1
      refine (end_ret R aa na ca gh ch ta nt ct fuel ((k : Int) + 1) 0 gv nv cv G n cn s.b ((s.pc : Int) + 1) ka kn kc xa u1 u2 wa oa nw cw no co s.vals s.hp s.tr K Bt _ (hide hn1.2.1) (hide hn1.2.2) (hide o3.symm) (by omega) (by omega) (by omega) hRv hRh (by rw [World.size_alloc]; omega)).mono ?_
      rintro e w' ⟨rfl, h1, h2, h3⟩
      refine ⟨1, rfl, ta, nt, ct, ka, kn, kc, K, Or.inl ⟨by decide, _, _, _, _, _, _, ⟨hn1.1.trans h1, h2, h3⟩, fun q => ?_⟩⟩
      rw [runR, stepR, dif_neg hpc, if_pos hk3, hxa]
    · obtain ⟨g0, g1⟩ := goTo_ok BO hk3 s.vals
      have hmem := goTo_mem (X := F.blk s.b) (by omega) s.vals
      have hgd : goTo (F.blk s.b) s.vals = if (F.blk s.b).term.kind = 2 ∧ getN s.vals (F.blk s.b).term.a = 0 then (F.blk s.b).term.els else (F.blk s.b).term.to := rfl
      have hrun : ∀ q, runR F args (q + 1) k s = runR F args q (k + 1) ⟨(goTo (F.blk s.b) s.vals).toNat, 0, entTo (F.preds (goTo (F.blk s.b) s.vals).toNat) s.b (F.blk (goTo (F.blk s.b) s.vals).toNat).phis s.vals, s.hp, s.tr⟩ := fun q => by rw [runR, stepR, dif_neg hpc, if_neg hk3]
      obtain ⟨T, hT⟩ := Int.eq_ofNat_of_zero_le (show 0 ≤ goTo (F.blk s.b) s.vals by omega)
      rw [hT] at hrun g1 hmem hgd
      rw [Int.toNat_natCast, enter_takes hsx hmem] at hrun
      have htx : T < F.blocks.length := by omega
      have BT := blkOk_of F good T htx
      have hto := takes_ok BT (pred_here hsx hmem)
      have hTSl : (takesR (idxR (F.preds T) s.b) (F.blk T).phis).length ≤ 1048576 := by unfold takesR; rw [List.length_map, blk_at F T htx]; have := tot_le (List.getElem_mem htx); omega
      rw [hF] at hto
      have hway : ∀ {ea : Option Addr} {ne : Nat} {to : Int}, to = T → WayAt W lo Bt F s.b to ea ne → ne = (takesR (idxR (F.preds T) s.b) (F.blk T).phis).length ∧ TakesAt (W.alloc x) lo Bt ea (takesR (idxR (F.preds T) s.b) (F.blk T).phis) := fun {ea ne to} e h => by
        subst e
        obtain ⟨h1, h2⟩ := h
        rw [Int.toNat_natCast] at h1 h2
        exact ⟨by rw [h1]; unfold takesR; rw [List.length_map], h2.keep ((balloc (Below.refl _ _) x).mono hBw)⟩
      have hfin : okF F n nv ⟨T, 0, takeTo s.vals (takesR (idxR (F.preds T) s.b) (F.blk T).phis) s.vals, s.hp, s.tr⟩ := ⟨by show T < n; omega, Nat.zero_le _, by show (takeTo _ _ _).length = _; rw [takeTo_len]; exact o3, o4⟩
      generalize takesR (idxR (F.preds T) s.b) (F.blk T).phis = TS at *
      have hkc : ((F.blk s.b).term.kind = 1 ∧ (F.blk s.b).term.to = T) ∨ ((F.blk s.b).term.kind = 2 ∧ getN s.vals (F.blk s.b).term.a = 0 ∧ (F.blk s.b).term.els = T) ∨ ((F.blk s.b).term.kind = 2 ∧ getN s.vals (F.blk s.b).term.a ≠ 0 ∧ (F.blk s.b).term.to = T) := by
        split at hgd
        · rename_i e; exact Or.inr (Or.inl ⟨e.1, e.2, hgd.symm⟩)
        · rename_i e
          by_cases e2 : (F.blk s.b).term.kind = 2
          · exact Or.inr (Or.inr ⟨e2, fun h => e ⟨e2, h⟩, hgd.symm⟩)
          · exact Or.inl ⟨by omega, hgd.symm⟩
      rcases hkc with ⟨kk, kt⟩ | ⟨kk, kz, kt⟩ | ⟨kk, kz, kt⟩
      · obtain ⟨e1, hwy⟩ := hw1 hk3
        obtain ⟨HTL, HTA⟩ := hway kt hwy
        rw [kt] at e1
        rw [kk, e1]
        refine (end_jump R aa na ca gh ch ta nt ct fuel ((k : Int) + 1) 0 gv nv cv G n cn s.b ((s.pc : Int) + 1) ka kn kc _ T u2 wa oa nw cw no co TS s.vals s.hp s.tr K lo Bt _ (hide hn1.2.1) (hide hn1.2.2) (hide HTA) (hide HTL) hTSl (hide hto) (hide o3.symm) hR hgv hgh hRv hRh hlo (by rw [World.size_alloc]; omega)).mono ?_
        rintro e w' ⟨rfl, ka', kn', kc', K', h1, h2, h3⟩
        exact ⟨0, rfl, ta, nt, ct, ka', kn', kc', K', Or.inr ⟨rfl, _, hfin, by omega, ⟨hn1.1.trans h1, h2, h3⟩, hrun⟩⟩
      · obtain ⟨e1, hwy⟩ := hw2 kk
        obtain ⟨HTL, HTA⟩ := hway kt hwy
        obtain ⟨a0, a1⟩ := hta (by omega)
        obtain ⟨xa, hxa⟩ := Int.eq_ofNat_of_zero_le a0
        rw [kt] at e1
        rw [hxa] at kz a1
        rw [kk, e1, hxa]
        refine (end_else R aa na ca gh ch ta nt ct fuel ((k : Int) + 1) 0 gv nv cv G n cn s.b ((s.pc : Int) + 1) ka kn kc xa u1 T wa oa nw cw no co TS s.vals s.hp s.tr K lo Bt _ (hide hn1.2.1) (hide hn1.2.2) (hide HTA) (hide HTL) hTSl (hide hto) (hide o3.symm) (by omega) kz hR hgv hgh hRv hRh hlo (by rw [World.size_alloc]; omega)).mono ?_
        rintro e w' ⟨rfl, ka', kn', kc', K', h1, h2, h3⟩
        exact ⟨0, rfl, ta, nt, ct, ka', kn', kc', K', Or.inr ⟨rfl, _, hfin, by omega, ⟨hn1.1.trans h1, h2, h3⟩, hrun⟩⟩
      · obtain ⟨e1, hwy⟩ := hw1 hk3
        obtain ⟨HTL, HTA⟩ := hway kt hwy
        obtain ⟨a0, a1⟩ := hta (by omega)
        obtain ⟨xa, hxa⟩ := Int.eq_ofNat_of_zero_le a0
        rw [kt] at e1
        rw [hxa] at kz a1
        rw [kk, e1, hxa]
        refine (end_then R aa na ca gh ch ta nt ct fuel ((k : Int) + 1) 0 gv nv cv G n cn s.b ((s.pc : Int) + 1) ka kn kc xa T u2 wa oa nw cw no co TS s.vals s.hp s.tr K lo Bt _ (hide hn1.2.1) (hide hn1.2.2) (hide HTA) (hide HTL) hTSl (hide hto) (hide o3.symm) (by omega) kz hR hgv hgh hRv hRh hlo (by rw [World.size_alloc]; omega)).mono ?_
        rintro e w' ⟨rfl, ka', kn', kc', K', h1, h2, h3⟩
        exact ⟨0, rfl, ta, nt, ct, ka', kn', kc', K', Or.inr ⟨rfl, _, hfin, by omega, ⟨hn1.1.trans h1, h2, h3⟩, hrun⟩⟩

/-- The whole run of a function, from its start. -/
theorem run_any (F : Fn) (args : List Int) (fuel : Nat) (R : Nat) (aa : Option Addr) (na ca gh ch gv nv cv G n cn lo : Nat) (gs cs : Nat → Nat) (vs : Nat → Value) (heap : List Int) (w : World)
    (hbox : PBox w R aa na ca gh ch none 0 0 fuel 0 0 gv nv cv G n cn 0 0 none 0 0) (hv : IntsW w gv (startR F heap).vals) (hh : IntsW w gh (startR F heap).hp) (htab : NTab w lo w.heap.size G n (nvF F args) (eF F) gs cs vs)
    (good : validS F = true) (hF : F.values = nv) (hn : n = F.blocks.length) (hn1 : 1 ≤ n) (hs : F.blocks.length + blksTot F.blocks ≤ 1048576) (hf : fuel ≤ 60000) (hR : R < lo) (hgv : gv < lo) (hgh : gh < lo) (hRv : R ≠ gv) (hRh : R ≠ gh) (hvh : gv ≠ gh) (hG : lo ≤ G ∧ G < w.heap.size) :
    Calls Tryd.prog 76 #[.pointer (some ⟨R, 0, none⟩)] w
      fun e w' => ∃ ta nt ct, e = .returned (.agg #[.int .i64 (runR F args fuel 0 (startR F heap)).code, .int .i64 (runR F args fuel 0 (startR F heap)).value, .int .i64 (runR F args fuel 0 (startR F heap)).steps, .slice ta nt ct, .slice (some ⟨gh, 0, none⟩) 32 ch]) ∧ ∃ ka kn kc b pc vals K, PSt w w' R aa na ca gh ch ta nt ct fuel (runR F args fuel 0 (startR F heap)).steps (runR F args fuel 0 (startR F heap)).value gv nv cv G n cn b pc ka kn kc w.heap.size vals (runR F args fuel 0 (startR F heap)).hp (runR F args fuel 0 (startR F heap)).tr K := by
  refine run_gen (fun s => s) (okF F n nv) (runR F args) (fun s => ifT (ndF F args vs s)) (fun s => ifV (ndF F args vs s)) (fun W => NTab W lo (w.heap.size + 1) G n (nvF F args) (eF F) gs cs vs) fuel (runR F args fuel 0 (startR F heap)) R aa na ca gh ch gv nv cv G n cn (w.heap.size + 1) (startR F heap) w
    (hide ⟨hbox, hv, hh, rfl⟩) (hide ⟨by show 0 < n; omega, Nat.zero_le _, by simp [startR, hF], by simp [startR, heapR]⟩) (hide rfl) hf (hide (fun k s => rfl))
    (hide (fun W W' hk ht => ht.keep (eF_keep F) (by omega) (fun q h1 h2 => hk.block q h2 (by omega) (by omega) (by omega)))) (hide (fun s W hok ht => cellF hn hs s W hok ht))
    (hide (fun s k ta nt ct ka kn kc K W hok ht hB hnt hk hst => stepF F args fuel R aa na ca gh ch gv nv cv G n cn (w.heap.size + 1) lo gs cs vs good hF hn hs hf hR hgv hgh hRv hRh (by omega) s k ta nt ct ka kn kc K W hok ht hB hnt hk hst))
    (by omega) (by omega) (by omega) hRv hRh hvh rfl (hide (fun x => ?_))
  exact (htab.keep (eF_keep F) hG (fun q h1 h2 => (balloc (Below.refl w.heap.size w) x).block q h2)).mono (eF_keep F) (Nat.le_refl _) (by omega)
end Go.Proofs.YtdcdgopblbmgoaaDoor

/-
  The program's run of a machine program: one step, and the whole run.
-/
namespace Go.Proofs.YtdcdgopblbmgoaaDoor
open Go.RowKit

/-- A machine's state as a run's: the scratch is one more cell. -/
def vwM (s : MS) : RS := ⟨s.b, s.pc, s.regs ++ [s.sc], s.hp, s.tr⟩
def ndM (xs : List MBlk) (args : List Int) (sc : Int) (s : MS) : Value := if h : s.pc < (mblk xs s.b).instrs.length then nodeM args sc (mblk xs s.b).instrs[s.pc] else .iface 200 (endM (mblk xs s.b).term)
theorem ndM_if (xs : List MBlk) (args : List Int) (sc : Int) (s : MS) : Value.iface (ifT (ndM xs args sc s)) (ifV (ndM xs args sc s)) = ndM xs args sc s := by
  unfold ndM
  split
  · obtain ⟨T, V, h⟩ := nodeM_iface args sc (mblk xs s.b).instrs[s.pc]
    rw [h]; rfl
  · rfl
def okM (xs : List MBlk) (n m : Nat) (s : MS) : Prop := s.b < n ∧ s.pc ≤ (mblk xs s.b).instrs.length ∧ s.regs.length = m ∧ s.hp.length = 32

/-- What is found in the table. -/
theorem cellM {xs : List MBlk} {args : List Int} {sc : Int} {lo Bt G n m : Nat} {gs cs : Nat → Nat} {vs : Nat → Value} (hn : n = xs.length) (hs : xs.length + mTot xs ≤ 1048576) (s : MS) (W : World) (hok : okM xs n m s) (ht : NTab W lo Bt G n (nvM xs args sc) (eM xs) gs cs vs) :
    ∃ g ln cg, W.cell? ⟨G, s.b, none⟩ = some (.slice (some ⟨g, 0, none⟩) ln cg) ∧ s.b < n ∧ s.pc < ln ∧ s.pc ≤ 1048576 ∧ W.cell? ⟨g, s.pc, none⟩ = some (.iface (ifT (ndM xs args sc s)) (ifV (ndM xs args sc s))) := by
  obtain ⟨o1, o2, o3, o4⟩ := hok
  obtain ⟨t1, t2, t3, t4, t5⟩ := ht s.b o1
  have hl : (nvM xs args sc s.b).length = (mblk xs s.b).instrs.length := by unfold nvM; rw [List.length_map]
  have hsx : s.b < xs.length := by omega
  have hil : (mblk xs s.b).instrs.length ≤ 1048576 := by rw [mblk_at xs s.b hsx]; have := mTot_le (List.getElem_mem hsx); omega
  refine ⟨gs s.b, _, cs s.b, t1, o1, by omega, by omega, ?_⟩
  rw [ndM_if]
  unfold ndM
  split
  · rename_i h
    have := t3 s.pc (by omega)
    rw [this]
    simp [nvM]
  · have : s.pc = (nvM xs args sc s.b).length := by omega
    rw [this, ← show vs s.b = endM (mblk xs s.b).term from t5]
    exact t4

theorem insM_arith {x : Ins} {args : List Int} {regs hp tr : List Int} {sc : Int} {nv : Int} (hnv : (regs.length : Int) = nv) (ok : insOk nv 10 x = true) :
    execV x args (regs ++ [sc]) hp = execV x args regs hp ++ [sc] ∧ execH x (regs ++ [sc]) hp = execH x regs hp ∧ execT x (regs ++ [sc]) tr = execT x regs tr ∧ (x.op = 6 → getN (regs ++ [sc]) x.b = getN regs x.b) := by
  obtain ⟨⟨o1, o2⟩, fd, fa, fb, fi⟩ := ins_facts ok
  have ga : aB x.op = true → getN (regs ++ [sc]) x.a = getN regs x.a := fun h => getN_app (fa h).1 (by rw [hnv]; exact (fa h).2)
  have gb : bB x.op = true → getN (regs ++ [sc]) x.b = getN regs x.b := fun h => getN_app (fb h).1 (by rw [hnv]; exact (fb h).2)
  have sd : dB x.op = true → ∀ v, setN (regs ++ [sc]) x.dst v = setN regs x.dst v ++ [sc] := fun h v => setN_app (fd h).1 (by rw [hnv]; exact (fd h).2)
  refine ⟨?_, ?_, ?_, fun h => gb (by simp [bB, h])⟩
  · unfold execV
    by_cases h1 : x.op = 1
    · rw [if_pos h1, if_pos h1]; exact sd (by simp [dB, h1]) _
    rw [if_neg h1, if_neg h1]
    by_cases h2 : x.op = 2
    · rw [if_pos h2, if_pos h2]; exact sd (by simp [dB, h2]) _
    rw [if_neg h2, if_neg h2]
    by_cases h3 : x.op = 8
    · rw [if_pos h3, if_pos h3, ga (by simp [aB, h3])]; exact sd (by simp [dB, h3]) _
    rw [if_neg h3, if_neg h3]
    by_cases h4 : x.op = 9
    · rw [if_pos h4, if_pos h4]
    rw [if_neg h4, if_neg h4]
    by_cases h5 : x.op = 10
    · rw [if_pos h5, if_pos h5]
    rw [if_neg h5, if_neg h5, ga (by simp [aB]; omega), gb (by simp [bB]; omega)]
    exact sd (by simp [dB]; omega) _
  · unfold execH
    by_cases h4 : x.op = 9
    · rw [if_pos h4, if_pos h4, ga (by simp [aB, h4]), gb (by simp [bB, h4])]
    · rw [if_neg h4, if_neg h4]
  · unfold execT
    by_cases h4 : x.op = 10
    · rw [if_pos h4, if_pos h4, ga (by simp [aB, h4])]
    · rw [if_neg h4, if_neg h4]
theorem insOk_up {n : Int} {x : Ins} (h : insOk n 10 x = true) : insOk (n + 1) 10 x = true := by
  simp only [insOk, Bool.and_eq_true, decide_eq_true_eq, fld] at h ⊢
  obtain ⟨⟨⟨⟨h1, h2⟩, h3⟩, h4⟩, h5⟩ := h
  refine ⟨⟨⟨⟨h1, ?_⟩, ?_⟩, ?_⟩, h5⟩
  · split at h2
    · rename_i e; rw [if_pos e]; simp only [Bool.and_eq_true, decide_eq_true_eq] at h2 ⊢; omega
    · rename_i e; rw [if_neg e]; exact h2
  · split at h3
    · rename_i e; rw [if_pos e]; simp only [Bool.and_eq_true, decide_eq_true_eq] at h3 ⊢; omega
    · rename_i e; rw [if_neg e]; exact h3
  · split at h4
    · rename_i e; rw [if_pos e]; simp only [Bool.and_eq_true, decide_eq_true_eq] at h4 ⊢; omega
    · rename_i e; rw [if_neg e]; exact h4

/-- One step of a machine program's run. -/
theorem stepMI (xs : List MBlk) (args : List Int) (fuel R : Nat) (aa : Option Addr) (na ca gh ch gv m cv G n cn Bt lo : Nat) (good : validM m xs = true) (hn : n = xs.length) (hf : fuel ≤ 60000)
    (hR : R < lo) (hgv : gv < lo) (hgh : gh < lo) (hRv : R ≠ gv) (hRh : R ≠ gh) (hlo : lo ≤ Bt) (s : MS) (k : Nat) (ta : Option Addr) (nt ct : Nat) (ka : Option Addr) (kn kc : Nat) (K : List Int) (W : World)
    (hok : okM xs n m s) (hBw : Bt ≤ W.heap.size) (hnt : nt ≤ k) (hk : k < fuel) (hst : PSt W W R aa na ca gh ch ta nt ct fuel ((k : Int) + 1) 0 gv (m + 1) cv G n cn s.b ((s.pc : Int) + 1) ka kn kc Bt (s.regs ++ [s.sc]) s.hp s.tr K) :
    Calls Tryd.prog 117 #[.pointer (some ⟨R, 0, none⟩), .iface (ifT (ndM xs args m s)) (ifV (ndM xs args m s))] W fun e w' => ∃ c, e = .returned (.int .i64 c) ∧ ∃ ta' nt' ct' ka' kn' kc' K',
        ((c ≠ 0 ∧ ∃ value b' pc' vals' hp' tr', PSt W w' R aa na ca gh ch ta' nt' ct' fuel ((k : Int) + 1) value gv (m + 1) cv G n cn b' pc' ka' kn' kc' Bt vals' hp' tr' K' ∧ ∀ q, runM xs args (q + 1) k s = ⟨c, value, k + 1, tr', hp'⟩) ∨
         (c = 0 ∧ ∃ s', okM xs n m s' ∧ nt' ≤ k + 1 ∧ PSt W w' R aa na ca gh ch ta' nt' ct' fuel ((k : Int) + 1) 0 gv (m + 1) cv G n cn s'.b s'.pc ka' kn' kc' Bt (s'.regs ++ [s'.sc]) s'.hp s'.tr K' ∧ ∀ q, runM xs args (q + 1) k s = runM xs args q (k + 1) s')) := by
  obtain ⟨o1, o2, o3, o4⟩ := hok
  have hsx : s.b < xs.length := by omega
  have BO := mOk_of good s.b hsx
  have hvl : m + 1 = (s.regs ++ [s.sc]).length := by rw [List.length_append, List.length_singleton, o3]
  rw [ndM_if]
  unfold ndM
  by_cases hpc : s.pc < (mblk xs s.b).instrs.length
  · rw [dif_pos hpc]
    have hok := BO.ins s.pc hpc
    obtain ⟨⟨p1, p2⟩, fd, fa, fb⟩ := insM_facts hok
    have hgo : ∀ s', insM (mblk xs s.b).instrs[s.pc] args s = .go s' → ∀ q, runM xs args (q + 1) k s = runM xs args q (k + 1) s' := fun s' h q => by rw [runM, stepM, dif_pos hpc, h]
    have htp : insM (mblk xs s.b).instrs[s.pc] args s = .trap → ∀ q, runM xs args (q + 1) k s = ⟨2, 0, k + 1, s.tr, s.hp⟩ := fun h q => by rw [runM, stepM, dif_pos hpc, h]
    generalize (mblk xs s.b).instrs[s.pc] = x at *
    by_cases k11 : x.op = 11
    · obtain ⟨d0, d1⟩ := fd (by simp [dB, k11])
      obtain ⟨a0, a1⟩ := fa (by simp [aB, k11])
      have e1 := setN_app (sc := s.sc) (v := getN (s.regs ++ [s.sc]) x.a) d0 (by rw [o3]; exact d1)
      rw [getN_app a0 (by rw [o3]; exact a1)] at e1
      have hng : insM x args s = .go ⟨s.b, s.pc + 1, setN s.regs x.dst (getN s.regs x.a), s.sc, s.hp, s.tr⟩ := by unfold insM; rw [if_pos k11]
      obtain ⟨D, hD⟩ := Int.eq_ofNat_of_zero_le d0
      obtain ⟨A, hA⟩ := Int.eq_ofNat_of_zero_le a0
      rw [show nodeM args m x = .iface 222 (.agg #[.int .i64 D, .int .i64 A]) by unfold nodeM; rw [if_pos k11, hD, hA]]
      refine (step_copy R aa na ca gh ch ta nt ct fuel ((k : Int) + 1) 0 gv (m + 1) cv G n cn s.b ((s.pc : Int) + 1) ka kn kc D A (s.regs ++ [s.sc]) s.hp s.tr K Bt _ (hide hst) (hide hvl) (by omega) (by omega) (by omega) (by omega) (by omega) hRv hRh hBw).mono ?_
      rintro e w' ⟨rfl, h⟩
      refine ⟨0, rfl, ta, nt, ct, ka, kn, kc, K, Or.inr ⟨rfl, ⟨s.b, s.pc + 1, setN s.regs x.dst (getN s.regs x.a), s.sc, s.hp, s.tr⟩, ⟨o1, by show s.pc + 1 ≤ (mblk xs s.b).instrs.length; omega, by show (setN _ _ _).length = m; rw [setN_len]; exact o3, o4⟩, by omega, ?_, hgo _ hng⟩⟩
      have e2 : (s.regs ++ [s.sc]).set D (getN (s.regs ++ [s.sc]) (A : Int)) = setN s.regs x.dst (getN s.regs x.a) ++ [s.sc] := by
        rw [← e1, hA, hD, getN_app (by omega) (by rw [o3]; omega)]; simp [setN]
      rw [e2] at h
      exact h
    by_cases k12 : x.op = 12
    · obtain ⟨a0, a1⟩ := fa (by simp [aB, k12])
      have hng : insM x args s = .go ⟨s.b, s.pc + 1, s.regs, getN s.regs x.a, s.hp, s.tr⟩ := by unfold insM; rw [if_neg k11, if_pos k12]
      obtain ⟨A, hA⟩ := Int.eq_ofNat_of_zero_le a0
      rw [show nodeM args m x = .iface 222 (.agg #[.int .i64 m, .int .i64 A]) by unfold nodeM; rw [if_neg k11, if_pos k12, hA]]
      refine (step_copy R aa na ca gh ch ta nt ct fuel ((k : Int) + 1) 0 gv (m + 1) cv G n cn s.b ((s.pc : Int) + 1) ka kn kc m A (s.regs ++ [s.sc]) s.hp s.tr K Bt _ (hide hst) (hide hvl) (by omega) (by omega) (by omega) (by omega) (by omega) hRv hRh hBw).mono ?_
      rintro e w' ⟨rfl, h⟩
      refine ⟨0, rfl, ta, nt, ct, ka, kn, kc, K, Or.inr ⟨rfl, ⟨s.b, s.pc + 1, s.regs, getN s.regs x.a, s.hp, s.tr⟩, ⟨o1, by show s.pc + 1 ≤ (mblk xs s.b).instrs.length; omega, o3, o4⟩, by omega, ?_, hgo _ hng⟩⟩
      have e2 : (s.regs ++ [s.sc]).set m (getN (s.regs ++ [s.sc]) (A : Int)) = s.regs ++ [getN s.regs x.a] := by
        have := setN_last s.regs s.sc (getN s.regs x.a)
        rw [o3] at this
        rw [← this, hA, getN_app (by omega) (by rw [o3]; omega)]; simp [setN]
      rw [e2] at h
      exact h
    by_cases k13 : x.op = 13
    · obtain ⟨d0, d1⟩ := fd (by simp [dB, k13])
      have hng : insM x args s = .go ⟨s.b, s.pc + 1, setN s.regs x.dst s.sc, s.sc, s.hp, s.tr⟩ := by unfold insM; rw [if_neg k11, if_neg k12, if_pos k13]
      obtain ⟨D, hD⟩ := Int.eq_ofNat_of_zero_le d0
      rw [show nodeM args m x = .iface 222 (.agg #[.int .i64 D, .int .i64 m]) by unfold nodeM; rw [if_neg k11, if_neg k12, if_pos k13, hD]]
      refine (step_copy R aa na ca gh ch ta nt ct fuel ((k : Int) + 1) 0 gv (m + 1) cv G n cn s.b ((s.pc : Int) + 1) ka kn kc D m (s.regs ++ [s.sc]) s.hp s.tr K Bt _ (hide hst) (hide hvl) (by omega) (by omega) (by omega) (by omega) (by omega) hRv hRh hBw).mono ?_
      rintro e w' ⟨rfl, h⟩
      refine ⟨0, rfl, ta, nt, ct, ka, kn, kc, K, Or.inr ⟨rfl, ⟨s.b, s.pc + 1, setN s.regs x.dst s.sc, s.sc, s.hp, s.tr⟩, ⟨o1, by show s.pc + 1 ≤ (mblk xs s.b).instrs.length; omega, by show (setN _ _ _).length = m; rw [setN_len]; exact o3, o4⟩, by omega, ?_, hgo _ hng⟩⟩
      have e2 : (s.regs ++ [s.sc]).set D (getN (s.regs ++ [s.sc]) (m : Int)) = setN s.regs x.dst s.sc ++ [s.sc] := by
        have := getN_last s.regs s.sc
        rw [o3] at this
        rw [this, ← setN_app d0 (by rw [o3]; exact d1), hD]; simp [setN]
      rw [e2] at h
      exact h
    have ok10 := insOk_low hok k11 k12 k13
    obtain ⟨x1, x2, x3, x4⟩ := insM_arith (args := args) (hp := s.hp) (tr := s.tr) (sc := s.sc) (show (s.regs.length : Int) = m by rw [o3]) ok10
    have okU : insOk ((m + 1 : Nat) : Int) 10 x = true := by have := insOk_up ok10; rw [Int.natCast_add]; exact this
    rw [show nodeM args m x = nodeV args x by unfold nodeM; rw [if_neg k11, if_neg k12, if_neg k13]]
    by_cases htr : x.op = 6 ∧ getN s.regs x.b = 0
    · refine (step_halt x args R aa na ca gh ch ta nt ct fuel ((k : Int) + 1) 0 gv (m + 1) cv G n cn s.b ((s.pc : Int) + 1) ka kn kc (s.regs ++ [s.sc]) s.hp s.tr K Bt _ (hide hst) (hide hvl) okU htr.1 (by rw [x4 htr.1]; exact htr.2) (by omega) (by omega) (by omega) hRv hRh hBw).mono ?_
      rintro e w' ⟨rfl, h⟩
      refine ⟨2, rfl, ta, nt, ct, ka, kn, kc, K, Or.inl ⟨by decide, 0, _, _, _, _, _, h, htp ?_⟩⟩
      unfold insM
      rw [if_neg k11, if_neg k12, if_neg k13, if_pos htr]
    · refine (step_ins x args R aa na ca gh ch ta nt ct fuel ((k : Int) + 1) 0 gv (m + 1) cv G n cn s.b ((s.pc : Int) + 1) ka kn kc (s.regs ++ [s.sc]) s.hp s.tr K Bt _ (hide hst) (hide hvl) (hide o4) (by omega) okU (fun h => htr ⟨h.1, by rw [← x4 h.1]; exact h.2⟩) (by omega) (by omega) (by omega) hRv hRh hBw).mono ?_
      rintro e w' ⟨rfl, ta', nt', ct', h⟩
      rw [x1, x2, x3] at h
      have hl1 := h.2.2.mem.len
      have hl2 := hst.2.2.mem.len
      have hl3 := execT_len x s.regs s.tr
      have hng : insM x args s = .go ⟨s.b, s.pc + 1, execV x args s.regs s.hp, s.sc, execH x s.regs s.hp, execT x s.regs s.tr⟩ := by unfold insM; rw [if_neg k11, if_neg k12, if_neg k13, if_neg htr]
      exact ⟨0, rfl, ta', nt', ct', ka, kn, kc, K, Or.inr ⟨rfl, ⟨s.b, s.pc + 1, execV x args s.regs s.hp, s.sc, execH x s.regs s.hp, execT x s.regs s.tr⟩, ⟨o1, by show s.pc + 1 ≤ (mblk xs s.b).instrs.length; omega, by show (execV _ _ _ _).length = _; rw [execV_len]; exact o3, by show (execH _ _ _).length = _; rw [execH_len]; exact o4⟩, by omega, h, hgo _ hng⟩⟩
  · rw [dif_neg hpc]
    unfold endM
    have hkd := termM_kind BO
    refine step_end R _ _ _ _ none none 0 0 0 0 _ W (hide (fun x => ?_))
    have hn1 := hst.next hBw (by omega) (balloc (Below.refl _ _) x)
    have hnil : ∀ W', TakesAt W' lo Bt none [] := fun W' i h => absurd h (by simp)
    by_cases hk3 : (mblk xs s.b).term.kind = 3
    · obtain ⟨a0, a1⟩ := termM_a BO (by omega)
      obtain ⟨xa, hxa⟩ := Int.eq_ofNat_of_zero_le a0
      have hga : getN (s.regs ++ [s.sc]) (mblk xs s.b).term.a = getN s.regs (mblk xs s.b).term.a := getN_app a0 (by rw [o3]; exact a1)
      rw [hxa] at a1 hga
      rw [hk3, hxa]
      refine (end_ret R aa na ca gh ch ta nt ct fuel ((k : Int) + 1) 0 gv (m + 1) cv G n cn s.b ((s.pc : Int) + 1) ka kn kc xa _ _ none none 0 0 0 0 (s.regs ++ [s.sc]) s.hp s.tr K Bt _ (hide hn1.2.1) (hide hn1.2.2) (hide hvl) (by omega) (by omega) (by omega) hRv hRh (by rw [World.size_alloc]; omega)).mono ?_
      rintro e w' ⟨rfl, h1, h2, h3⟩
      refine ⟨1, rfl, ta, nt, ct, ka, kn, kc, K, Or.inl ⟨by decide, _, _, _, _, _, _, ⟨hn1.1.trans h1, h2, h3⟩, fun q => ?_⟩⟩
      rw [runM, stepM, dif_neg hpc, if_pos hk3, hxa, hga]
    · obtain ⟨g0, g1⟩ := goM_ok BO hk3 s.regs
      have hgd : goM (mblk xs s.b) s.regs = if (mblk xs s.b).term.kind = 2 ∧ getN s.regs (mblk xs s.b).term.a = 0 then (mblk xs s.b).term.els else (mblk xs s.b).term.to := rfl
      have hrun : ∀ q, runM xs args (q + 1) k s = runM xs args q (k + 1) ⟨(goM (mblk xs s.b) s.regs).toNat, 0, s.regs, s.sc, s.hp, s.tr⟩ := fun q => by rw [runM, stepM, dif_neg hpc, if_neg hk3]
      obtain ⟨T, hT⟩ := Int.eq_ofNat_of_zero_le (show 0 ≤ goM (mblk xs s.b) s.regs by omega)
      rw [hT] at hrun g1 hgd
      rw [Int.toNat_natCast] at hrun
      have hfin : okM xs n m ⟨T, 0, s.regs, s.sc, s.hp, s.tr⟩ := ⟨by show T < n; omega, Nat.zero_le _, o3, o4⟩
      have hkc : ((mblk xs s.b).term.kind = 1 ∧ (mblk xs s.b).term.to = T) ∨ ((mblk xs s.b).term.kind = 2 ∧ getN s.regs (mblk xs s.b).term.a = 0 ∧ (mblk xs s.b).term.els = T) ∨ ((mblk xs s.b).term.kind = 2 ∧ getN s.regs (mblk xs s.b).term.a ≠ 0 ∧ (mblk xs s.b).term.to = T) := by
        split at hgd
        · rename_i e; exact Or.inr (Or.inl ⟨e.1, e.2, hgd.symm⟩)
        · rename_i e
          by_cases e2 : (mblk xs s.b).term.kind = 2
          · exact Or.inr (Or.inr ⟨e2, fun h => e ⟨e2, h⟩, hgd.symm⟩)
          · exact Or.inl ⟨by omega, hgd.symm⟩
      rcases hkc with ⟨kk, kt⟩ | ⟨kk, kz, kt⟩ | ⟨kk, kz, kt⟩
      · rw [kk, kt]
        refine (end_jump R aa na ca gh ch ta nt ct fuel ((k : Int) + 1) 0 gv (m + 1) cv G n cn s.b ((s.pc : Int) + 1) ka kn kc _ T _ none none 0 0 0 0 [] (s.regs ++ [s.sc]) s.hp s.tr K lo Bt _ (hide hn1.2.1) (hide hn1.2.2) (hide (hnil _)) (hide rfl) (by simp) (hide (fun t h => by cases h)) (hide hvl) hR hgv hgh hRv hRh hlo (by rw [World.size_alloc]; omega)).mono ?_
        rintro e w' ⟨rfl, ka', kn', kc', K', h1, h2, h3⟩
        exact ⟨0, rfl, ta, nt, ct, ka', kn', kc', K', Or.inr ⟨rfl, _, hfin, by omega, ⟨hn1.1.trans h1, h2, h3⟩, hrun⟩⟩
      · obtain ⟨a0, a1⟩ := termM_a BO (by omega)
        obtain ⟨xa, hxa⟩ := Int.eq_ofNat_of_zero_le a0
        have hga : getN (s.regs ++ [s.sc]) (mblk xs s.b).term.a = getN s.regs (mblk xs s.b).term.a := getN_app a0 (by rw [o3]; exact a1)
        rw [← hga, hxa] at kz
        rw [hxa] at a1
        rw [kk, kt, hxa]
        refine (end_else R aa na ca gh ch ta nt ct fuel ((k : Int) + 1) 0 gv (m + 1) cv G n cn s.b ((s.pc : Int) + 1) ka kn kc xa _ T none none 0 0 0 0 [] (s.regs ++ [s.sc]) s.hp s.tr K lo Bt _ (hide hn1.2.1) (hide hn1.2.2) (hide (hnil _)) (hide rfl) (by simp) (hide (fun t h => by cases h)) (hide hvl) (by omega) kz hR hgv hgh hRv hRh hlo (by rw [World.size_alloc]; omega)).mono ?_
        rintro e w' ⟨rfl, ka', kn', kc', K', h1, h2, h3⟩
        exact ⟨0, rfl, ta, nt, ct, ka', kn', kc', K', Or.inr ⟨rfl, _, hfin, by omega, ⟨hn1.1.trans h1, h2, h3⟩, hrun⟩⟩
      · obtain ⟨a0, a1⟩ := termM_a BO (by omega)
        obtain ⟨xa, hxa⟩ := Int.eq_ofNat_of_zero_le a0
        have hga : getN (s.regs ++ [s.sc]) (mblk xs s.b).term.a = getN s.regs (mblk xs s.b).term.a := getN_app a0 (by rw [o3]; exact a1)
        rw [← hga, hxa] at kz
        rw [hxa] at a1
        rw [kk, kt, hxa]
        refine (end_then R aa na ca gh ch ta nt ct fuel ((k : Int) + 1) 0 gv (m + 1) cv G n cn s.b ((s.pc : Int) + 1) ka kn kc xa T _ none none 0 0 0 0 [] (s.regs ++ [s.sc]) s.hp s.tr K lo Bt _ (hide hn1.2.1) (hide hn1.2.2) (hide (hnil _)) (hide rfl) (by simp) (hide (fun t h => by cases h)) (hide hvl) (by omega) kz hR hgv hgh hRv hRh hlo (by rw [World.size_alloc]; omega)).mono ?_
        rintro e w' ⟨rfl, ka', kn', kc', K', h1, h2, h3⟩
        exact ⟨0, rfl, ta, nt, ct, ka', kn', kc', K', Or.inr ⟨rfl, _, hfin, by omega, ⟨hn1.1.trans h1, h2, h3⟩, hrun⟩⟩

/-- The whole run of a machine program, from its start. -/
theorem runM_any (xs : List MBlk) (args : List Int) (fuel : Nat) (R : Nat) (aa : Option Addr) (na ca gh ch gv m cv G n cn lo : Nat) (gs cs : Nat → Nat) (vs : Nat → Value) (heap : List Int) (w : World)
    (hbox : PBox w R aa na ca gh ch none 0 0 fuel 0 0 gv (m + 1) cv G n cn 0 0 none 0 0) (hv : IntsW w gv (List.replicate (m + 1) 0)) (hh : IntsW w gh (heapR heap)) (htab : NTab w lo w.heap.size G n (nvM xs args m) (eM xs) gs cs vs)
    (good : validM m xs = true) (hn : n = xs.length) (hn1 : 1 ≤ n) (hs : xs.length + mTot xs ≤ 1048576) (hf : fuel ≤ 60000) (hR : R < lo) (hgv : gv < lo) (hgh : gh < lo) (hRv : R ≠ gv) (hRh : R ≠ gh) (hvh : gv ≠ gh) (hG : lo ≤ G ∧ G < w.heap.size) :
    Calls Tryd.prog 76 #[.pointer (some ⟨R, 0, none⟩)] w
      fun e w' => ∃ ta nt ct, e = .returned (.agg #[.int .i64 (runM xs args fuel 0 (startM m heap)).code, .int .i64 (runM xs args fuel 0 (startM m heap)).value, .int .i64 (runM xs args fuel 0 (startM m heap)).steps, .slice ta nt ct, .slice (some ⟨gh, 0, none⟩) 32 ch]) ∧ ∃ ka kn kc b pc vals K, PSt w w' R aa na ca gh ch ta nt ct fuel (runM xs args fuel 0 (startM m heap)).steps (runM xs args fuel 0 (startM m heap)).value gv (m + 1) cv G n cn b pc ka kn kc w.heap.size vals (runM xs args fuel 0 (startM m heap)).hp (runM xs args fuel 0 (startM m heap)).tr K := by
  refine run_gen vwM (okM xs n m) (runM xs args) (fun s => ifT (ndM xs args m s)) (fun s => ifV (ndM xs args m s)) (fun W => NTab W lo (w.heap.size + 1) G n (nvM xs args m) (eM xs) gs cs vs) fuel (runM xs args fuel 0 (startM m heap)) R aa na ca gh ch gv (m + 1) cv G n cn (w.heap.size + 1) (startM m heap) w
    (hide ⟨hbox, by have e : (vwM (startM m heap)).vals = List.replicate (m + 1) 0 := by show List.replicate m 0 ++ [0] = _; rw [List.replicate_succ']; 
                    rw [e]; exact hv, hh, rfl⟩) (hide ⟨by show 0 < n; omega, Nat.zero_le _, by simp [startM], by simp [startM, heapR]⟩) (hide rfl) hf (hide (fun k s => rfl))
    (hide (fun W W' hk ht => ht.keep (eM_keep xs) (by omega) (fun q h1 h2 => hk.block q h2 (by omega) (by omega) (by omega)))) (hide (fun s W hok ht => cellM hn hs s W hok ht))
    (hide (fun s k ta nt ct ka kn kc K W hok _ hB hnt hk hst => stepMI xs args fuel R aa na ca gh ch gv m cv G n cn (w.heap.size + 1) lo good hn hf hR hgv hgh hRv hRh (by omega) s k ta nt ct ka kn kc K W hok hB hnt hk hst))
    (by omega) (by omega) (by omega) hRv hRh hvh rfl (hide (fun x => ?_))
  exact (htab.keep (eM_keep xs) hG (fun q h1 h2 => (balloc (Below.refl w.heap.size w) x).block q h2)).mono (eM_keep xs) (Nat.le_refl _) (by omega)
end Go.Proofs.YtdcdgopblbmgoaaDoor
