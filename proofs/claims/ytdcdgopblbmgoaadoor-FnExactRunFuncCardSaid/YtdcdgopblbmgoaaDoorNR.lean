import Derived.Test.YtdcdgopblbmgoaaDoorN4
import Derived.Test.YtdcdgopblbmgoaaDoorN9
import Derived.Test.YtdcdgopblbmgoaaDoorN6
import Derived.Laws.CopyOwn
import Derived.Deep.Cut
/-
  The program's run of a function: one step, and the whole run.
-/
namespace Go.Proofs.YtdcdgopblbmgoaaDoor
open Go.RowKit

def ifT : Value → TypeId
  | .iface T _ => T
  | _ => 0
def ifV : Value → Value
  | .iface _ V => V
  | v => v
def ndF (F : Fn) (args : List Int) (vs : Nat → Value) (s : RS) : Value := if h : s.pc < (F.blk s.b).instrs.length then nodeV args (F.blk s.b).instrs[s.pc] else .iface 200 (vs s.b)
theorem ndF_if (F : Fn) (args : List Int) (vs : Nat → Value) (s : RS) : Value.iface (ifT (ndF F args vs s)) (ifV (ndF F args vs s)) = ndF F args vs s := by
  unfold ndF
  split
  · obtain ⟨T, V, h⟩ := nodeV_iface args (F.blk s.b).instrs[s.pc]
    rw [h]; rfl
  · rfl
def okF (F : Fn) (n nv : Nat) (s : RS) : Prop := s.b < n ∧ s.pc ≤ (F.blk s.b).instrs.length ∧ s.vals.length = nv ∧ s.hp.length = 32
theorem takes_ok {F : Fn} {T b : Nat} (BT : BlkOk F T) (hm : (b : Int) ∈ F.preds T) : ∀ t ∈ takesR (idxR (F.preds T) b) (F.blk T).phis, (0 ≤ t.1 ∧ t.1 < F.values) ∧ 0 ≤ t.2 ∧ t.2 < F.values := fun t ht => by
  unfold takesR at ht
  obtain ⟨ph, hph, rfl⟩ := List.mem_map.1 ht
  obtain ⟨i, hi, rfl⟩ := List.getElem_of_mem hph
  obtain ⟨h1, h2, h3⟩ := phOk_facts (BT.phi i hi)
  have hx : idxR (F.preds T) b < (F.blk T).phis[i].args.length := by rw [h2]; exact idxR_lt hm
  refine ⟨h1, ?_⟩
  have e : (F.blk T).phis[i].args.getD (idxR (F.preds T) b) 0 = (F.blk T).phis[i].args[idxR (F.preds T) b] := by simp [hx]
  rw [e]
  exact h3 _ (List.getElem_mem hx)

/-- What is found in the table. -/
theorem cellF {F : Fn} {args : List Int} {lo Bt G n nv : Nat} {gs cs : Nat → Nat} {vs : Nat → Value} (hn : n = F.blocks.length) (hs : F.blocks.length + blksTot F.blocks ≤ 1048576) (s : RS) (W : World) (hok : okF F n nv s) (ht : NTab W lo Bt G n (nvF F args) (eF F) gs cs vs) :
    ∃ g ln cg, W.cell? ⟨G, s.b, none⟩ = some (.slice (some ⟨g, 0, none⟩) ln cg) ∧ s.b < n ∧ s.pc < ln ∧ s.pc ≤ 1048576 ∧ W.cell? ⟨g, s.pc, none⟩ = some (.iface (ifT (ndF F args vs s)) (ifV (ndF F args vs s))) := by
  obtain ⟨o1, o2, o3, o4⟩ := hok
  obtain ⟨t1, t2, t3, t4, t5⟩ := ht s.b o1
  have hl : (nvF F args s.b).length = (F.blk s.b).instrs.length := by unfold nvF; rw [List.length_map]
  have hsx : s.b < F.blocks.length := by omega
  have hil : (F.blk s.b).instrs.length ≤ 1048576 := by rw [blk_at F s.b hsx]; have := tot_le (List.getElem_mem hsx); omega
  refine ⟨gs s.b, _, cs s.b, t1, o1, by omega, by omega, ?_⟩
  rw [ndF_if]
  unfold ndF
  split
  · rename_i h
    have := t3 s.pc (by omega)
    rw [this]
    simp [nvF]
  · have : s.pc = (nvF F args s.b).length := by omega
    rw [this]
    exact t4

/-- One step of a function's run. -/
theorem stepF (F : Fn) (args : List Int) (fuel R : Nat) (aa : Option Addr) (na ca gh ch gv nv cv G n cn Bt lo : Nat) (gs cs : Nat → Nat) (vs : Nat → Value) (good : validS F = true) (hF : F.values = nv) (hn : n = F.blocks.length) (hs : F.blocks.length + blksTot F.blocks ≤ 1048576) (hf : fuel ≤ 60000)
    (hR : R < lo) (hgv : gv < lo) (hgh : gh < lo) (hRv : R ≠ gv) (hRh : R ≠ gh) (hlo : lo ≤ Bt) (s : RS) (k : Nat) (ta : Option Addr) (nt ct : Nat) (ka : Option Addr) (kn kc : Nat) (K : List Int) (W : World)
    (hok : okF F n nv s) (ht : NTab W lo Bt G n (nvF F args) (eF F) gs cs vs) (hBw : Bt ≤ W.heap.size) (hnt : nt ≤ k) (hk : k < fuel) (hst : PSt W W R aa na ca gh ch ta nt ct fuel ((k : Int) + 1) 0 gv nv cv G n cn s.b ((s.pc : Int) + 1) ka kn kc Bt s.vals s.hp s.tr K) :
    Calls Tryd.prog 117 #[.pointer (some ⟨R, 0, none⟩), .iface (ifT (ndF F args vs s)) (ifV (ndF F args vs s))] W fun e w' => ∃ c, e = .returned (.int .i64 c) ∧ ∃ ta' nt' ct' ka' kn' kc' K',
        ((c ≠ 0 ∧ ∃ value b' pc' vals' hp' tr', PSt W w' R aa na ca gh ch ta' nt' ct' fuel ((k : Int) + 1) value gv nv cv G n cn b' pc' ka' kn' kc' Bt vals' hp' tr' K' ∧ ∀ q, runR F args (q + 1) k s = ⟨c, value, k + 1, tr', hp'⟩) ∨
         (c = 0 ∧ ∃ s', okF F n nv s' ∧ nt' ≤ k + 1 ∧ PSt W w' R aa na ca gh ch ta' nt' ct' fuel ((k : Int) + 1) 0 gv nv cv G n cn s'.b s'.pc ka' kn' kc' Bt s'.vals s'.hp s'.tr K' ∧ ∀ q, runR F args (q + 1) k s = runR F args q (k + 1) s')) := by
  obtain ⟨o1, o2, o3, o4⟩ := hok
  obtain ⟨t1, t2, t3, t4, t5⟩ := ht s.b o1
  have hsx : s.b < F.blocks.length := by omega
  have BO := blkOk_of F good s.b hsx
  rw [ndF_if]
  unfold ndF
  by_cases hpc : s.pc < (F.blk s.b).instrs.length
  · rw [dif_pos hpc]
    have hok := BO.ins s.pc hpc
    rw [hF] at hok
    by_cases htr : (F.blk s.b).instrs[s.pc].op = 6 ∧ getN s.vals (F.blk s.b).instrs[s.pc].b = 0
    · refine (step_halt _ args R aa na ca gh ch ta nt ct fuel ((k : Int) + 1) 0 gv nv cv G n cn s.b ((s.pc : Int) + 1) ka kn kc s.vals s.hp s.tr K Bt _ (hide hst) (hide o3.symm) hok htr.1 htr.2 (by omega) (by omega) (by omega) hRv hRh hBw).mono ?_
      rintro e w' ⟨rfl, h⟩
      refine ⟨2, rfl, ta, nt, ct, ka, kn, kc, K, Or.inl ⟨by decide, 0, _, _, _, _, _, h, fun q => ?_⟩⟩
      rw [runR, stepR, dif_pos hpc, if_pos htr]
    · refine (step_ins _ args R aa na ca gh ch ta nt ct fuel ((k : Int) + 1) 0 gv nv cv G n cn s.b ((s.pc : Int) + 1) ka kn kc s.vals s.hp s.tr K Bt _ (hide hst) (hide o3.symm) (hide o4) (by omega) hok htr (by omega) (by omega) (by omega) hRv hRh hBw).mono ?_
      rintro e w' ⟨rfl, ta', nt', ct', h⟩
      have hl1 := h.2.2.mem.len
      have hl2 := hst.2.2.mem.len
      have hl3 := execT_len (F.blk s.b).instrs[s.pc] s.vals s.tr
      refine ⟨0, rfl, ta', nt', ct', ka, kn, kc, K, Or.inr ⟨rfl, ⟨s.b, s.pc + 1, execV (F.blk s.b).instrs[s.pc] args s.vals s.hp, execH (F.blk s.b).instrs[s.pc] s.vals s.hp, execT (F.blk s.b).instrs[s.pc] s.vals s.tr⟩, ⟨o1, by show s.pc + 1 ≤ (F.blk s.b).instrs.length; omega, by show (execV _ _ _ _).length = _; rw [execV_len]; exact o3, by show (execH _ _ _).length = _; rw [execH_len]; exact o4⟩, by omega, h, fun q => ?_⟩⟩
      rw [runR, stepR, dif_pos hpc, if_neg htr]
  · rw [dif_neg hpc]
    obtain ⟨u1, u2, wa, oa, nw, cw, no, co, hval, hw1, hw2⟩ := t5
    rw [hval]
    have hkd := term_kind BO
    have hta : (F.blk s.b).term.kind ≠ 1 → 0 ≤ (F.blk s.b).term.a ∧ (F.blk s.b).term.a < nv := fun h => by have := term_a BO h; rw [hF] at this; exact this
    refine step_end R _ _ u1 u2 wa oa nw cw no co _ W (hide (fun x => ?_))
    have hn1 := hst.next hBw (by omega) (balloc (Below.refl _ _) x)
    by_cases hk3 : (F.blk s.b).term.kind = 3
    · obtain ⟨a0, a1⟩ := hta (by omega)
      obtain ⟨xa, hxa⟩ := Int.eq_ofNat_of_zero_le a0
      rw [hk3, hxa]
      rw [hxa] at a1
      refine (end_ret R aa na ca gh ch ta nt ct fuel ((k : Int) + 1) 0 gv nv cv G n cn s.b ((s.pc : Int) + 1) ka kn kc xa u1 u2 wa oa nw cw no co s.vals s.hp s.tr K Bt _ (hide hn1.2.1) (hide hn1.2.2) (hide o3.symm) (by omega) (by omega) (by omega) hRv hRh (by rw [World.size_alloc]; omega)).mono ?_
      rintro e w' ⟨rfl, h1, h2, h3⟩
      refine ⟨1, rfl, ta, nt, ct, ka, kn, kc, K, Or.inl ⟨by decide, _, _, _, _, _, _, ⟨hn1.1.trans h1, h2, h3⟩, fun q => ?_⟩⟩
      rw [runR, stepR, dif_neg hpc, if_pos hk3, hxa]
    · obtain ⟨g0, g1⟩ := goTo_ok BO hk3 s.vals
      have hmem := goTo_mem (X := F.blk s.b) (by omega) s.vals
      have hgd : goTo (F.blk s.b) s.vals = if (F.blk s.b).term.kind = 2 ∧ getN s.vals (F.blk s.b).term.a = 0 then (F.blk s.b).term.els else (F.blk s.b).term.to := rfl
      have hrun : ∀ q, runR F args (q + 1) k s = runR F args q (k + 1) ⟨(goTo (F.blk s.b) s.vals).toNat, 0, entTo (F.preds (goTo (F.blk s.b) s.vals).toNat) s.b (F.blk (goTo (F.blk s.b) s.vals).toNat).phis s.vals, s.hp, s.tr⟩ := fun q => by rw [runR, stepR, dif_neg hpc, if_neg hk3]
      obtain ⟨T, hT⟩ := Int.eq_ofNat_of_zero_le (show 0 ≤ goTo (F.blk s.b) s.vals by omega)
      rw [hT] at hrun g1 hmem hgd
      rw [Int.toNat_natCast, enter_takes hsx hmem] at hrun
      have htx : T < F.blocks.length := by omega
      have BT := blkOk_of F good T htx
      have hto := takes_ok BT (pred_here hsx hmem)
      have hTSl : (takesR (idxR (F.preds T) s.b) (F.blk T).phis).length ≤ 1048576 := by unfold takesR; rw [List.length_map, blk_at F T htx]; have := tot_le (List.getElem_mem htx); omega
      rw [hF] at hto
      have hway : ∀ {ea : Option Addr} {ne : Nat} {to : Int}, to = T → WayAt W lo Bt F s.b to ea ne → ne = (takesR (idxR (F.preds T) s.b) (F.blk T).phis).length ∧ TakesAt (W.alloc x) lo Bt ea (takesR (idxR (F.preds T) s.b) (F.blk T).phis) := fun {ea ne to} e h => by
        subst e
        obtain ⟨h1, h2⟩ := h
        rw [Int.toNat_natCast] at h1 h2
        exact ⟨by rw [h1]; unfold takesR; rw [List.length_map], h2.keep ((balloc (Below.refl _ _) x).mono hBw)⟩
      have hfin : okF F n nv ⟨T, 0, takeTo s.vals (takesR (idxR (F.preds T) s.b) (F.blk T).phis) s.vals, s.hp, s.tr⟩ := ⟨by show T < n; omega, Nat.zero_le _, by show (takeTo _ _ _).length = _; rw [takeTo_len]; exact o3, o4⟩
      generalize takesR (idxR (F.preds T) s.b) (F.blk T).phis = TS at *
      have hkc : ((F.blk s.b).term.kind = 1 ∧ (F.blk s.b).term.to = T) ∨ ((F.blk s.b).term.kind = 2 ∧ getN s.vals (F.blk s.b).term.a = 0 ∧ (F.blk s.b).term.els = T) ∨ ((F.blk s.b).term.kind = 2 ∧ getN s.vals (F.blk s.b).term.a ≠ 0 ∧ (F.blk s.b).term.to = T) := by
        split at hgd
        · rename_i e; exact Or.inr (Or.inl ⟨e.1, e.2, hgd.symm⟩)
        · rename_i e
          by_cases e2 : (F.blk s.b).term.kind = 2
          · exact Or.inr (Or.inr ⟨e2, fun h => e ⟨e2, h⟩, hgd.symm⟩)
          · exact Or.inl ⟨by omega, hgd.symm⟩
      rcases hkc with ⟨kk, kt⟩ | ⟨kk, kz, kt⟩ | ⟨kk, kz, kt⟩
      · obtain ⟨e1, hwy⟩ := hw1 hk3
        obtain ⟨HTL, HTA⟩ := hway kt hwy
        rw [kt] at e1
        rw [kk, e1]
        refine (end_jump R aa na ca gh ch ta nt ct fuel ((k : Int) + 1) 0 gv nv cv G n cn s.b ((s.pc : Int) + 1) ka kn kc _ T u2 wa oa nw cw no co TS s.vals s.hp s.tr K lo Bt _ (hide hn1.2.1) (hide hn1.2.2) (hide HTA) (hide HTL) hTSl (hide hto) (hide o3.symm) hR hgv hgh hRv hRh hlo (by rw [World.size_alloc]; omega)).mono ?_
        rintro e w' ⟨rfl, ka', kn', kc', K', h1, h2, h3⟩
        exact ⟨0, rfl, ta, nt, ct, ka', kn', kc', K', Or.inr ⟨rfl, _, hfin, by omega, ⟨hn1.1.trans h1, h2, h3⟩, hrun⟩⟩
      · obtain ⟨e1, hwy⟩ := hw2 kk
        obtain ⟨HTL, HTA⟩ := hway kt hwy
        obtain ⟨a0, a1⟩ := hta (by omega)
        obtain ⟨xa, hxa⟩ := Int.eq_ofNat_of_zero_le a0
        rw [kt] at e1
        rw [hxa] at kz a1
        rw [kk, e1, hxa]
        refine (end_else R aa na ca gh ch ta nt ct fuel ((k : Int) + 1) 0 gv nv cv G n cn s.b ((s.pc : Int) + 1) ka kn kc xa u1 T wa oa nw cw no co TS s.vals s.hp s.tr K lo Bt _ (hide hn1.2.1) (hide hn1.2.2) (hide HTA) (hide HTL) hTSl (hide hto) (hide o3.symm) (by omega) kz hR hgv hgh hRv hRh hlo (by rw [World.size_alloc]; omega)).mono ?_
        rintro e w' ⟨rfl, ka', kn', kc', K', h1, h2, h3⟩
        exact ⟨0, rfl, ta, nt, ct, ka', kn', kc', K', Or.inr ⟨rfl, _, hfin, by omega, ⟨hn1.1.trans h1, h2, h3⟩, hrun⟩⟩
      · obtain ⟨e1, hwy⟩ := hw1 hk3
        obtain ⟨HTL, HTA⟩ := hway kt hwy
        obtain ⟨a0, a1⟩ := hta (by omega)
        obtain ⟨xa, hxa⟩ := Int.eq_ofNat_of_zero_le a0
        rw [kt] at e1
        rw [hxa] at kz a1
        rw [kk, e1, hxa]
        refine (end_then R aa na ca gh ch ta nt ct fuel ((k : Int) + 1) 0 gv nv cv G n cn s.b ((s.pc : Int) + 1) ka kn kc xa T u2 wa oa nw cw no co TS s.vals s.hp s.tr K lo Bt _ (hide hn1.2.1) (hide hn1.2.2) (hide HTA) (hide HTL) hTSl (hide hto) (hide o3.symm) (by omega) kz hR hgv hgh hRv hRh hlo (by rw [World.size_alloc]; omega)).mono ?_
        rintro e w' ⟨rfl, ka', kn', kc', K', h1, h2, h3⟩
        exact ⟨0, rfl, ta, nt, ct, ka', kn', kc', K', Or.inr ⟨rfl, _, hfin, by omega, ⟨hn1.1.trans h1, h2, h3⟩, hrun⟩⟩

/-- The whole run of a function, from its start. -/
theorem run_any (F : Fn) (args : List Int) (fuel : Nat) (R : Nat) (aa : Option Addr) (na ca gh ch gv nv cv G n cn lo : Nat) (gs cs : Nat → Nat) (vs : Nat → Value) (heap : List Int) (w : World)
    (hbox : PBox w R aa na ca gh ch none 0 0 fuel 0 0 gv nv cv G n cn 0 0 none 0 0) (hv : IntsW w gv (startR F heap).vals) (hh : IntsW w gh (startR F heap).hp) (htab : NTab w lo w.heap.size G n (nvF F args) (eF F) gs cs vs)
    (good : validS F = true) (hF : F.values = nv) (hn : n = F.blocks.length) (hn1 : 1 ≤ n) (hs : F.blocks.length + blksTot F.blocks ≤ 1048576) (hf : fuel ≤ 60000) (hR : R < lo) (hgv : gv < lo) (hgh : gh < lo) (hRv : R ≠ gv) (hRh : R ≠ gh) (hvh : gv ≠ gh) (hG : lo ≤ G ∧ G < w.heap.size) :
    Calls Tryd.prog 76 #[.pointer (some ⟨R, 0, none⟩)] w
      fun e w' => ∃ ta nt ct, e = .returned (.agg #[.int .i64 (runR F args fuel 0 (startR F heap)).code, .int .i64 (runR F args fuel 0 (startR F heap)).value, .int .i64 (runR F args fuel 0 (startR F heap)).steps, .slice ta nt ct, .slice (some ⟨gh, 0, none⟩) 32 ch]) ∧ ∃ ka kn kc b pc vals K, PSt w w' R aa na ca gh ch ta nt ct fuel (runR F args fuel 0 (startR F heap)).steps (runR F args fuel 0 (startR F heap)).value gv nv cv G n cn b pc ka kn kc w.heap.size vals (runR F args fuel 0 (startR F heap)).hp (runR F args fuel 0 (startR F heap)).tr K := by
  refine run_gen (fun s => s) (okF F n nv) (runR F args) (fun s => ifT (ndF F args vs s)) (fun s => ifV (ndF F args vs s)) (fun W => NTab W lo (w.heap.size + 1) G n (nvF F args) (eF F) gs cs vs) fuel (runR F args fuel 0 (startR F heap)) R aa na ca gh ch gv nv cv G n cn (w.heap.size + 1) (startR F heap) w
    (hide ⟨hbox, hv, hh, rfl⟩) (hide ⟨by show 0 < n; omega, Nat.zero_le _, by simp [startR, hF], by simp [startR, heapR]⟩) (hide rfl) hf (hide (fun k s => rfl))
    (hide (fun W W' hk ht => ht.keep (eF_keep F) (by omega) (fun q h1 h2 => hk.block q h2 (by omega) (by omega) (by omega)))) (hide (fun s W hok ht => cellF hn hs s W hok ht))
    (hide (fun s k ta nt ct ka kn kc K W hok ht hB hnt hk hst => stepF F args fuel R aa na ca gh ch gv nv cv G n cn (w.heap.size + 1) lo gs cs vs good hF hn hs hf hR hgv hgh hRv hRh (by omega) s k ta nt ct ka kn kc K W hok ht hB hnt hk hst))
    (by omega) (by omega) (by omega) hRv hRh hvh rfl (hide (fun x => ?_))
  exact (htab.keep (eF_keep F) hG (fun q h1 h2 => (balloc (Below.refl w.heap.size w) x).block q h2)).mono (eF_keep F) (Nat.le_refl _) (by omega)
end Go.Proofs.YtdcdgopblbmgoaaDoor

namespace Go.Proofs.YtdcdgopblbmgoaaDoor
open Go.RowKit

theorem Tryd.size2 : (Tryd.prog.info? 2).map (·.size) = some 1 := by kernel_rfl

theorem heapN_row (heap : List Int) (n : Nat) (h : heap.length ≤ n) : ((List.range n).map fun i => heap.getD i 0).map (Value.int .i64) = heap.map (Value.int .i64) ++ (List.replicate n (Value.int .i64 0)).drop heap.length := by
  apply List.ext_getElem?
  intro i
  by_cases hi : i < n
  · by_cases h2 : i < heap.length
    · rw [List.getElem?_append_left (by simpa using h2)]
      simp [hi, h2]
    · rw [List.getElem?_append_right (by simp; omega), List.length_map, List.getElem?_drop, show heap.length + (i - heap.length) = i by omega]
      simp [hi, h2]
  · rw [List.getElem?_eq_none (by simp; omega), List.getElem?_eq_none (by simp; omega)]
theorem heapR_row (heap : List Int) (h : heap.length ≤ 32) : (heapR heap).map (Value.int .i64) = heap.map (Value.int .i64) ++ (List.replicate 32 (Value.int .i64 0)).drop heap.length := heapN_row heap 32 h
theorem made32 : (madeCells #[Value.int .i64 0] 32).toList = List.replicate 32 (Value.int .i64 0) := by kernel_rfl
theorem letterN {P : World → Prop} (W0 : World) (h : ∀ W, W = W0 → P W) : P W0 := h W0 rfl
theorem valsOf {W : World} {gv m t : Nat} (h : W.heap[gv]? = some (.cells (madeCells #[.int .i64 0] m) t (0, 0))) : IntsW W gv (List.replicate m 0) := by
  refine ⟨⟨_, _, h⟩, fun i hi => ?_⟩
  have hi' : i < m := by simpa using hi
  simp only [World.cell?, h]
  simp [madeCells, hi', Nat.mod_one]
def Z11 : Array Value := #[.slice none 0 0, .slice none 0 0, .slice none 0 0, .int .i64 0, .int .i64 0, .int .i64 0, .slice none 0 0, .slice none 0 0, .int .i64 0, .int .i64 0, .slice none 0 0]
def V11 (aa : Option Addr) (na ca gh : Nat) (fuel : Int) (gv m : Nat) : Array Value := #[.slice aa na ca, .slice (some ⟨gh, 0, none⟩) 32 32, .slice none 0 0, .int .i64 fuel, .int .i64 0, .int .i64 0, .slice (some ⟨gv, 0, none⟩) m m, .slice none 0 0, .int .i64 0, .int .i64 0, .slice none 0 0]
def set11 (W : World) (R : Nat) (v0 v1 v2 v3 v4 v5 v6 v7 v8 v9 v10 : Value) : World := ((((((((((W.setCell ⟨R, 0, none⟩ v0).setCell ⟨R, 1, none⟩ v1).setCell ⟨R, 2, none⟩ v2).setCell ⟨R, 3, none⟩ v3).setCell ⟨R, 4, none⟩ v4).setCell ⟨R, 5, none⟩ v5).setCell ⟨R, 6, none⟩ v6).setCell ⟨R, 7, none⟩ v7).setCell ⟨R, 8, none⟩ v8).setCell ⟨R, 9, none⟩ v9).setCell ⟨R, 10, none⟩ v10
theorem set_at {U : World} {R t : Nat} (cs : Array Value) (i : Nat) (v : Value) (hU : U.heap[R]? = some (.cells cs t (0, 0))) : (U.setCell ⟨R, i, none⟩ v).heap[R]? = some (.cells (cs.setIfInBounds i v) t (0, 0)) := by
  simp only [World.setCell, Array.getElem?_modify, hU]
  simp
theorem set11_at {W : World} {R t : Nat} (h : W.heap[R]? = some (.cells Z11 t (0, 0))) (v0 v1 v2 v3 v4 v5 v6 v7 v8 v9 v10 : Value) : (set11 W R v0 v1 v2 v3 v4 v5 v6 v7 v8 v9 v10).heap[R]? = some (.cells #[v0, v1, v2, v3, v4, v5, v6, v7, v8, v9, v10] t (0, 0)) := by
  unfold set11
  rw [set_at _ _ _ (set_at _ _ _ (set_at _ _ _ (set_at _ _ _ (set_at _ _ _ (set_at _ _ _ (set_at _ _ _ (set_at _ _ _ (set_at _ _ _ (set_at _ _ _ (set_at _ _ _ h))))))))))]
  simp [Z11]
theorem set11_far {W : World} {R b : Nat} (hb : b ≠ R) (v0 v1 v2 v3 v4 v5 v6 v7 v8 v9 v10 : Value) : (set11 W R v0 v1 v2 v3 v4 v5 v6 v7 v8 v9 v10).heap[b]? = W.heap[b]? := by
  unfold set11
  rw [Below.heap_setCell _ _ _ _ hb, Below.heap_setCell _ _ _ _ hb, Below.heap_setCell _ _ _ _ hb, Below.heap_setCell _ _ _ _ hb, Below.heap_setCell _ _ _ _ hb, Below.heap_setCell _ _ _ _ hb, Below.heap_setCell _ _ _ _ hb, Below.heap_setCell _ _ _ _ hb, Below.heap_setCell _ _ _ _ hb, Below.heap_setCell _ _ _ _ hb, Below.heap_setCell _ _ _ _ hb]
theorem set11_below {B : Nat} {w W : World} (h : Below B w W) {R : Nat} (hR : B ≤ R) (v0 v1 v2 v3 v4 v5 v6 v7 v8 v9 v10 : Value) : Below B w (set11 W R v0 v1 v2 v3 v4 v5 v6 v7 v8 v9 v10) := by
  unfold set11
  exact ((((((((((h.setCell hR _).setCell hR _).setCell hR _).setCell hR _).setCell hR _).setCell hR _).setCell hR _).setCell hR _).setCell hR _).setCell hR _).setCell hR _
theorem al4 (w : World) (a b c d : Obj) : ((((w.alloc a).alloc b).alloc c).alloc d).drew.heap[w.heap.size]? = some a ∧ ((((w.alloc a).alloc b).alloc c).alloc d).drew.heap[w.heap.size + 1]? = some b ∧ ((((w.alloc a).alloc b).alloc c).alloc d).drew.heap[w.heap.size + 1 + 1]? = some c ∧ ((((w.alloc a).alloc b).alloc c).alloc d).drew.heap[w.heap.size + 1 + 1 + 1]? = some d ∧ Below w.heap.size w ((((w.alloc a).alloc b).alloc c).alloc d).drew := by
  have h0 := heap_new w a
  have h1 := heap_new (w.alloc a) b
  have h2 := heap_new ((w.alloc a).alloc b) c
  have h3 := heap_new (((w.alloc a).alloc b).alloc c) d
  have k1 := (balloc (Below.refl _ (w.alloc a)) b).block w.heap.size (by simp)
  have k2 := (balloc (Below.refl _ ((w.alloc a).alloc b)) c)
  have k3 := (balloc (Below.refl _ (((w.alloc a).alloc b).alloc c)) d)
  have e1 : (w.alloc a).heap.size = w.heap.size + 1 := by simp
  have e2 : ((w.alloc a).alloc b).heap.size = w.heap.size + 1 + 1 := by simp
  have e3 : (((w.alloc a).alloc b).alloc c).heap.size = w.heap.size + 1 + 1 + 1 := by simp
  rw [e1] at h1
  rw [e2] at h2
  rw [e3] at h3
  exact ⟨(k3.block _ (by omega)).trans ((k2.block _ (by omega)).trans (k1.trans h0)), (k3.block _ (by omega)).trans ((k2.block _ (by omega)).trans h1), (k3.block _ (by omega)).trans h2, h3, (balloc (balloc (balloc (balloc (Below.refl _ _) _) _) _) _).drew⟩

/-- The builtin copy of the given heap into the run's. -/
theorem copy_heap (hA : Option Addr) (nh chh : Nat) (heap : List Int) (L B gh : Nat) (W : World) (hG : W.heap[gh]? = some (.cells (madeCells #[.int .i64 0] 32) 2 (0, 0))) (hheap : IntsAt W L B hA heap) (hnh : nh = heap.length) (h32 : nh ≤ 32) :
    ∃ W', Sem.run Tryd.prog (Builtin.copy_ #[38, 38] 3 #[.slice (some ⟨gh, 0, none⟩) 32 32, .slice hA nh chh]) W = .ok (goInt nh) W' ∧ (∀ b, b ≠ gh → W'.heap[b]? = W.heap[b]?) ∧ (∀ b w0, b ≤ gh → Below b w0 W → Below b w0 W') ∧ IntsW W' gh (heapR heap) := by
  by_cases h0 : nh = 0
  · subst h0
    have he : heap = [] := List.eq_nil_of_length_eq_zero hnh.symm
    subst he
    refine ⟨W, run_copy_none W _ _ _ _ _ _ _ _ _ _ Tryd.underlying38 Tryd.size2 rfl, fun _ _ => rfl, fun _ _ _ h => h, ?_⟩
    have h := valsOf hG
    have e : List.replicate 32 (0 : Int) = heapR [] := by decide
    rw [e] at h
    exact h
  · have hhl : 0 < heap.length := by omega
    obtain ⟨b, o, rfl, ⟨_, hb⟩, -⟩ := hheap 0 hhl
    have h := run_copy_row (P := Tryd.prog) W 38 38 3 2 gh 0 32 32 ⟨b, o, none⟩ nh chh (madeCells #[.int .i64 0] 32) 2 (heap.map (Value.int .i64)) Tryd.underlying38 Tryd.size2 hG (by rw [List.length_map, ← hnh]; exact (Nat.min_eq_left h32).symm) ?_ ?_ ?_
    · rw [List.length_map, ← hnh] at h
      refine ⟨_, h, fun q hq => setRow_other _ _ _ _ hq, fun q w0 hq hbl => below_setRow hbl hq _, ⟨_, _, setRow_heap _ _ _ _ _ _ hG⟩, fun i hi => ?_⟩
      rw [cell_setRow_same _ _ _ _ _ _ _ hG, made32]
      simp only [List.take_zero, List.nil_append, Nat.zero_add]
      rw [hnh, ← heapR_row heap (by omega)]
      simp [hi]
    · intro j v hj
      have hjl : j < heap.length := by have := (List.getElem?_eq_some_iff.1 hj).1; simpa using this
      rw [List.getElem?_map, List.getElem?_eq_getElem hjl] at hj
      injection hj with hj
      subst hj
      obtain ⟨b', o', e, ⟨_, hb'⟩, hc⟩ := hheap j hjl
      injection e with e
      injection e with e1 e2
      subst e1 e2
      rw [show (⟨b, o, none⟩ : Addr).add j = ⟨b, o + j, none⟩ from by unfold Addr.add; split <;> simp_all]
      exact hc
    · rw [List.length_map, size_madeCells]; simp; omega
    · intro v hv
      obtain ⟨y, _, rfl⟩ := List.mem_map.1 hv
      rfl

set_option maxHeartbeats 2000000 in
set_option maxRecDepth 100000 in
theorem newRun_any (aa : Option Addr) (na ca : Nat) (hA : Option Addr) (nh chh : Nat) (fuel : Int) (m : Nat) (heap : List Int) (L B : Nat) (w : World)
    (hheap : Hid (IntsAt w L B hA heap)) (hnh : Hid (nh = heap.length)) (h32 : nh ≤ 32) (hm : m ≤ 3000) (hB : B ≤ w.heap.size) :
    Calls Tryd.prog 73 #[.slice aa na ca, .slice hA nh chh, .int .i64 fuel, .int .i64 m] w
      fun e w' => ∃ gh gv, e = .returned (.agg #[.slice aa na ca, .slice (some ⟨gh, 0, none⟩) 32 32, .slice none 0 0, .int .i64 fuel, .int .i64 0, .int .i64 0, .slice (some ⟨gv, 0, none⟩) m m, .slice none 0 0, .int .i64 0, .int .i64 0, .slice none 0 0]) ∧ Below w.heap.size w w' ∧ w.heap.size ≤ gh ∧ w.heap.size ≤ gv ∧ gh ≠ gv ∧ IntsW w' gh (heapR heap) ∧ IntsW w' gv (List.replicate m 0) := by
  have hmk := run_make_row' (P := Tryd.prog) 38 2 (.int .i64 0) 8 Tryd.underlying38 Tryd.info2 rfl .i64 .i64 32 (by omega) (by omega)
  rw [show ((32 : Nat) : Int) = 32 from rfl] at hmk
  have hmk2 := run_make_row' (P := Tryd.prog) 38 2 (.int .i64 0) 8 Tryd.underlying38 Tryd.info2 rfl .i64 .i64 m (by omega) (by omega)
  go_enter Tryd.func73, Tryd.ntmps73
  go_wp2
  refine wp_region_held_drew (S := (fun _ => True)) (by kernel_rfl) trivial (fun hHeld => ?_)
  refine wpAnyH_take (i := 0) (v := ?_) rfl (by kernel_rfl) (by kernel_rfl) (by kernel_rfl) (fun _ _ _ h => h) (Or.inl ⟨by rfl, ?_⟩) (by assumption) ?_
  rotate_left
  · intro w hSw; (try dsimp only at hSw); go_simp; try with_reducible rfl
  simp only [Act.put, List.getElem_toArray, List.getElem_cons_zero, List.setIfInBounds_toArray, List.set_cons_zero, List.set_cons_succ]
  refine wpAnyH_take (i := 2) (v := ?_) rfl (by kernel_rfl) (by kernel_rfl) (by kernel_rfl) (fun _ _ _ h => h) (Or.inl ⟨by rfl, ?_⟩) (by assumption) ?_
  rotate_left
  · intro w hSw; (try dsimp only at hSw); go_simp; try with_reducible rfl
  simp only [Act.put, List.getElem_toArray, List.getElem_cons_zero, List.getElem_cons_succ, List.setIfInBounds_toArray, List.set_cons_zero, List.set_cons_succ]
  refine wpAnyH_take (i := 3) (v := ?_) rfl (by kernel_rfl) (by kernel_rfl) (by kernel_rfl) (fun _ _ _ h => h) (Or.inl ⟨by rfl, ?_⟩) (by assumption) ?_
  rotate_left
  · intro w hSw; (try dsimp only at hSw); go_simp; try with_reducible rfl
  simp only [Act.put, List.getElem_toArray, List.getElem_cons_zero, List.getElem_cons_succ, List.setIfInBounds_toArray, List.set_cons_zero, List.set_cons_succ]
  refine wpAnyH_ready (rs := [1, 4, 6]) (by kernel_rfl) (by simp) ?_
  refine (AllReadyH.cons rfl (fun K hK => ?_) (AllReadyH.cons rfl (fun K hK => ?_) (AllReadyH.cons rfl (fun K hK => ?_) AllReadyH.nil)))
  · skip
    go_simp
    refine hK.out _ _ (by first | with_reducible exact hHeld | ((try dsimp only); go_keep)) (fun hHeld => ?_)
    clear hK
    try simp only [Act.put, List.getElem_toArray, List.getElem_cons_zero, List.getElem_cons_succ, List.setIfInBounds_toArray, List.set_cons_zero, List.set_cons_succ]
    refine wpAnyH_ready (rs := [4, 6]) (by kernel_rfl) (by simp) ?_
    refine (AllReadyH.cons rfl (fun K hK => ?_) (AllReadyH.cons rfl (fun K hK => ?_) AllReadyH.nil))
    · skip
      go_simp
      refine hK.out _ _ (by first | with_reducible exact hHeld | ((try dsimp only); go_keep)) (fun hHeld => ?_)
      clear hK
      try simp only [Act.put, List.getElem_toArray, List.getElem_cons_zero, List.getElem_cons_succ, List.setIfInBounds_toArray, List.set_cons_zero, List.set_cons_succ]
      refine wpAnyH_take (i := 5) (v := ?_) rfl (by kernel_rfl) (by kernel_rfl) (by kernel_rfl) (fun _ _ _ h => h) (Or.inl ⟨by rfl, ?_⟩) (by assumption) ?_
      rotate_left
      · intro w hSw; (try dsimp only at hSw); go_simp; try with_reducible rfl
      simp only [Act.put, List.getElem_toArray, List.getElem_cons_zero, List.getElem_cons_succ, List.setIfInBounds_toArray, List.set_cons_zero, List.set_cons_succ]
      refine wpAnyH_ready (rs := [6]) (by kernel_rfl) (by simp) ?_
      refine AllReadyH.cons rfl (fun K hK => ?_) AllReadyH.nil
      go_simp
      refine hK.out _ _ (by first | with_reducible exact hHeld | ((try dsimp only); go_keep)) (fun hHeld => ?_)
      clear hK
      try simp only [Act.put, List.getElem_toArray, List.getElem_cons_zero, List.getElem_cons_succ, List.setIfInBounds_toArray, List.set_cons_zero, List.set_cons_succ]
      refine wpAnyH_ready (rs := [7]) (by kernel_rfl) (by simp) ?_
      refine AllReadyH.cons rfl (fun K hK => ?_) AllReadyH.nil
      go_simp
      refine hK.out _ _ (by first | with_reducible exact hHeld | ((try dsimp only); go_keep)) (fun hHeld => ?_)
      clear hK
      try simp only [Act.put, List.getElem_toArray, List.getElem_cons_zero, List.getElem_cons_succ, List.setIfInBounds_toArray, List.set_cons_zero, List.set_cons_succ]
      refine wpAnyH_done (by kernel_rfl) ?_ _
      go_upto_region 2 with fail
      refine letterN (P := Code.wp _ _ _ _) _ ?_
      intro W hW
      have k8 : W.heap[w.heap.size]? = some (.cells Z11 102 (0, 0)) := by rw [hW]; exact (al4 w _ _ _ _).1
      have kR : W.heap[w.heap.size + 1 + 1 + 1]? = some (.cells #[.slice aa na ca, .slice (some ⟨w.heap.size + 1, 0, none⟩) 32 32, .slice none 0 0, .int .i64 fuel, .int .i64 0, .int .i64 0, .slice (some ⟨w.heap.size + 1 + 1, 0, none⟩) m m, .slice none 0 0, .int .i64 0, .int .i64 0, .slice none 0 0] 102 (0, 0)) := by rw [hW]; exact (al4 w _ _ _ _).2.2.2.1
      have kh : W.heap[w.heap.size + 1]? = some (.cells (madeCells #[.int .i64 0] 32) 2 (0, 0)) := (by rw [hW]; exact (al4 w _ _ _ _).2.1)
      have kv : W.heap[w.heap.size + 1 + 1]? = some (.cells (madeCells #[.int .i64 0] m) 2 (0, 0)) := (by rw [hW]; exact (al4 w _ _ _ _).2.2.1)
      have hbw : Below w.heap.size w W := by rw [hW]; exact (al4 w _ _ _ _).2.2.2.2
      clear hW hHeld hmk hmk2
      obtain ⟨W', hcp, hfar, hbel, hiw⟩ := copy_heap hA nh chh heap L B (w.heap.size + 1) W kh (hheap.out.keep (hbw.mono hB)) hnh.out h32
      have HB := hide (hbel _ _ (by omega) hbw)
      have HI := hide hiw
      have HV := hide ((valsOf kv).keep (hfar _ (by omega)))
      have kR' := (hfar (w.heap.size + 1 + 1 + 1) (by omega)).trans kR
      have k8' := (hfar w.heap.size (by omega)).trans k8
      have q1 : W.cell? ⟨w.heap.size + 1 + 1 + 1, 1, none⟩ = some (.slice (some ⟨w.heap.size + 1, 0, none⟩) 32 32) := by simp [World.cell?, kR]
      have p0 : W'.cell? ⟨w.heap.size + 1 + 1 + 1, 0, none⟩ = some (.slice aa na ca) := by simp [World.cell?, kR']
      have r0 : W'.cell? ⟨w.heap.size, 0, none⟩ = some (.slice none 0 0) := by simp [World.cell?, k8', Z11]
      have p1 : W'.cell? ⟨w.heap.size + 1 + 1 + 1, 1, none⟩ = some (.slice (some ⟨w.heap.size + 1, 0, none⟩) 32 32) := by simp [World.cell?, kR']
      have r1 : W'.cell? ⟨w.heap.size, 1, none⟩ = some (.slice none 0 0) := by simp [World.cell?, k8', Z11]
      have p2 : W'.cell? ⟨w.heap.size + 1 + 1 + 1, 2, none⟩ = some (.slice none 0 0) := by simp [World.cell?, kR']
      have r2 : W'.cell? ⟨w.heap.size, 2, none⟩ = some (.slice none 0 0) := by simp [World.cell?, k8', Z11]
      have p3 : W'.cell? ⟨w.heap.size + 1 + 1 + 1, 3, none⟩ = some (.int .i64 fuel) := by simp [World.cell?, kR']
      have r3 : W'.cell? ⟨w.heap.size, 3, none⟩ = some (.int .i64 0) := by simp [World.cell?, k8', Z11]
      have p4 : W'.cell? ⟨w.heap.size + 1 + 1 + 1, 4, none⟩ = some (.int .i64 0) := by simp [World.cell?, kR']
      have r4 : W'.cell? ⟨w.heap.size, 4, none⟩ = some (.int .i64 0) := by simp [World.cell?, k8', Z11]
      have p5 : W'.cell? ⟨w.heap.size + 1 + 1 + 1, 5, none⟩ = some (.int .i64 0) := by simp [World.cell?, kR']
      have r5 : W'.cell? ⟨w.heap.size, 5, none⟩ = some (.int .i64 0) := by simp [World.cell?, k8', Z11]
      have p6 : W'.cell? ⟨w.heap.size + 1 + 1 + 1, 6, none⟩ = some (.slice (some ⟨w.heap.size + 1 + 1, 0, none⟩) m m) := by simp [World.cell?, kR']
      have r6 : W'.cell? ⟨w.heap.size, 6, none⟩ = some (.slice none 0 0) := by simp [World.cell?, k8', Z11]
      have p7 : W'.cell? ⟨w.heap.size + 1 + 1 + 1, 7, none⟩ = some (.slice none 0 0) := by simp [World.cell?, kR']
      have r7 : W'.cell? ⟨w.heap.size, 7, none⟩ = some (.slice none 0 0) := by simp [World.cell?, k8', Z11]
      have p8 : W'.cell? ⟨w.heap.size + 1 + 1 + 1, 8, none⟩ = some (.int .i64 0) := by simp [World.cell?, kR']
      have r8 : W'.cell? ⟨w.heap.size, 8, none⟩ = some (.int .i64 0) := by simp [World.cell?, k8', Z11]
      have p9 : W'.cell? ⟨w.heap.size + 1 + 1 + 1, 9, none⟩ = some (.int .i64 0) := by simp [World.cell?, kR']
      have r9 : W'.cell? ⟨w.heap.size, 9, none⟩ = some (.int .i64 0) := by simp [World.cell?, k8', Z11]
      have p10 : W'.cell? ⟨w.heap.size + 1 + 1 + 1, 10, none⟩ = some (.slice none 0 0) := by simp [World.cell?, kR']
      have r10 : W'.cell? ⟨w.heap.size, 10, none⟩ = some (.slice none 0 0) := by simp [World.cell?, k8', Z11]
      have rz : ∀ o, W'.frozen? ⟨w.heap.size, o, none⟩ = false := fun o => by simp [World.frozen?, k8']
      clear hfar hbel hiw kR kR' k8 k8' kh kv hbw
      go_wp2
      refine bodyPost_ret (v := .agg #[.slice aa na ca, .slice (some ⟨w.heap.size + 1, 0, none⟩) 32 32, .slice none 0 0, .int .i64 fuel, .int .i64 0, .int .i64 0, .slice (some ⟨w.heap.size + 1 + 1, 0, none⟩) m m, .slice none 0 0, .int .i64 0, .int .i64 0, .slice none 0 0]) (by simp [results, Tryd.results73, go_sem, r0, r1, r2, r3, r4, r5, r6, r7, r8, r9, r10]) rfl ⟨w.heap.size + 1, w.heap.size + 1 + 1, rfl, set11_below HB.out (Nat.le_refl _) _ _ _ _ _ _ _ _ _ _ _, by omega, by omega, by omega, HI.out.keep (set11_far (by omega) _ _ _ _ _ _ _ _ _ _ _), HV.out.keep (set11_far (by omega) _ _ _ _ _ _ _ _ _ _ _)⟩
    · skip
      go_simp
      refine hK.out _ _ (by first | with_reducible exact hHeld | ((try dsimp only); go_keep)) (fun hHeld => ?_)
      clear hK
      try simp only [Act.put, List.getElem_toArray, List.getElem_cons_zero, List.getElem_cons_succ, List.setIfInBounds_toArray, List.set_cons_zero, List.set_cons_succ]
      refine wpAnyH_ready (rs := [4]) (by kernel_rfl) (by simp) ?_
      refine AllReadyH.cons rfl (fun K hK => ?_) AllReadyH.nil
      go_simp
      refine hK.out _ _ (by first | with_reducible exact hHeld | ((try dsimp only); go_keep)) (fun hHeld => ?_)
      clear hK
      try simp only [Act.put, List.getElem_toArray, List.getElem_cons_zero, List.getElem_cons_succ, List.setIfInBounds_toArray, List.set_cons_zero, List.set_cons_succ]
      refine wpAnyH_take (i := 5) (v := ?_) rfl (by kernel_rfl) (by kernel_rfl) (by kernel_rfl) (fun _ _ _ h => h) (Or.inl ⟨by rfl, ?_⟩) (by assumption) ?_
      rotate_left
      · intro w hSw; (try dsimp only at hSw); go_simp; try with_reducible rfl
      simp only [Act.put, List.getElem_toArray, List.getElem_cons_zero, List.getElem_cons_succ, List.setIfInBounds_toArray, List.set_cons_zero, List.set_cons_succ]
      refine wpAnyH_ready (rs := [7]) (by kernel_rfl) (by simp) ?_
      refine AllReadyH.cons rfl (fun K hK => ?_) AllReadyH.nil
      go_simp
      refine hK.out _ _ (by first | with_reducible exact hHeld | ((try dsimp only); go_keep)) (fun hHeld => ?_)
      clear hK
      try simp only [Act.put, List.getElem_toArray, List.getElem_cons_zero, List.getElem_cons_succ, List.setIfInBounds_toArray, List.set_cons_zero, List.set_cons_succ]
      refine wpAnyH_done (by kernel_rfl) ?_ _
      go_upto_region 2 with fail
      refine letterN (P := Code.wp _ _ _ _) _ ?_
      intro W hW
      have k8 : W.heap[w.heap.size]? = some (.cells Z11 102 (0, 0)) := by rw [hW]; exact (al4 w _ _ _ _).1
      have kR : W.heap[w.heap.size + 1 + 1]? = some (.cells #[.slice aa na ca, .slice (some ⟨w.heap.size + 1, 0, none⟩) 32 32, .slice none 0 0, .int .i64 fuel, .int .i64 0, .int .i64 0, .slice (some ⟨w.heap.size + 1 + 1 + 1, 0, none⟩) m m, .slice none 0 0, .int .i64 0, .int .i64 0, .slice none 0 0] 102 (0, 0)) := by rw [hW]; exact (al4 w _ _ _ _).2.2.1
      have kh : W.heap[w.heap.size + 1]? = some (.cells (madeCells #[.int .i64 0] 32) 2 (0, 0)) := (by rw [hW]; exact (al4 w _ _ _ _).2.1)
      have kv : W.heap[w.heap.size + 1 + 1 + 1]? = some (.cells (madeCells #[.int .i64 0] m) 2 (0, 0)) := (by rw [hW]; exact (al4 w _ _ _ _).2.2.2.1)
      have hbw : Below w.heap.size w W := by rw [hW]; exact (al4 w _ _ _ _).2.2.2.2
      clear hW hHeld hmk hmk2
      obtain ⟨W', hcp, hfar, hbel, hiw⟩ := copy_heap hA nh chh heap L B (w.heap.size + 1) W kh (hheap.out.keep (hbw.mono hB)) hnh.out h32
      have HB := hide (hbel _ _ (by omega) hbw)
      have HI := hide hiw
      have HV := hide ((valsOf kv).keep (hfar _ (by omega)))
      have kR' := (hfar (w.heap.size + 1 + 1) (by omega)).trans kR
      have k8' := (hfar w.heap.size (by omega)).trans k8
      have q1 : W.cell? ⟨w.heap.size + 1 + 1, 1, none⟩ = some (.slice (some ⟨w.heap.size + 1, 0, none⟩) 32 32) := by simp [World.cell?, kR]
      have p0 : W'.cell? ⟨w.heap.size + 1 + 1, 0, none⟩ = some (.slice aa na ca) := by simp [World.cell?, kR']
      have r0 : W'.cell? ⟨w.heap.size, 0, none⟩ = some (.slice none 0 0) := by simp [World.cell?, k8', Z11]
      have p1 : W'.cell? ⟨w.heap.size + 1 + 1, 1, none⟩ = some (.slice (some ⟨w.heap.size + 1, 0, none⟩) 32 32) := by simp [World.cell?, kR']
      have r1 : W'.cell? ⟨w.heap.size, 1, none⟩ = some (.slice none 0 0) := by simp [World.cell?, k8', Z11]
      have p2 : W'.cell? ⟨w.heap.size + 1 + 1, 2, none⟩ = some (.slice none 0 0) := by simp [World.cell?, kR']
      have r2 : W'.cell? ⟨w.heap.size, 2, none⟩ = some (.slice none 0 0) := by simp [World.cell?, k8', Z11]
      have p3 : W'.cell? ⟨w.heap.size + 1 + 1, 3, none⟩ = some (.int .i64 fuel) := by simp [World.cell?, kR']
      have r3 : W'.cell? ⟨w.heap.size, 3, none⟩ = some (.int .i64 0) := by simp [World.cell?, k8', Z11]
      have p4 : W'.cell? ⟨w.heap.size + 1 + 1, 4, none⟩ = some (.int .i64 0) := by simp [World.cell?, kR']
      have r4 : W'.cell? ⟨w.heap.size, 4, none⟩ = some (.int .i64 0) := by simp [World.cell?, k8', Z11]
      have p5 : W'.cell? ⟨w.heap.size + 1 + 1, 5, none⟩ = some (.int .i64 0) := by simp [World.cell?, kR']
      have r5 : W'.cell? ⟨w.heap.size, 5, none⟩ = some (.int .i64 0) := by simp [World.cell?, k8', Z11]
      have p6 : W'.cell? ⟨w.heap.size + 1 + 1, 6, none⟩ = some (.slice (some ⟨w.heap.size + 1 + 1 + 1, 0, none⟩) m m) := by simp [World.cell?, kR']
      have r6 : W'.cell? ⟨w.heap.size, 6, none⟩ = some (.slice none 0 0) := by simp [World.cell?, k8', Z11]
      have p7 : W'.cell? ⟨w.heap.size + 1 + 1, 7, none⟩ = some (.slice none 0 0) := by simp [World.cell?, kR']
      have r7 : W'.cell? ⟨w.heap.size, 7, none⟩ = some (.slice none 0 0) := by simp [World.cell?, k8', Z11]
      have p8 : W'.cell? ⟨w.heap.size + 1 + 1, 8, none⟩ = some (.int .i64 0) := by simp [World.cell?, kR']
      have r8 : W'.cell? ⟨w.heap.size, 8, none⟩ = some (.int .i64 0) := by simp [World.cell?, k8', Z11]
      have p9 : W'.cell? ⟨w.heap.size + 1 + 1, 9, none⟩ = some (.int .i64 0) := by simp [World.cell?, kR']
      have r9 : W'.cell? ⟨w.heap.size, 9, none⟩ = some (.int .i64 0) := by simp [World.cell?, k8', Z11]
      have p10 : W'.cell? ⟨w.heap.size + 1 + 1, 10, none⟩ = some (.slice none 0 0) := by simp [World.cell?, kR']
      have r10 : W'.cell? ⟨w.heap.size, 10, none⟩ = some (.slice none 0 0) := by simp [World.cell?, k8', Z11]
      have rz : ∀ o, W'.frozen? ⟨w.heap.size, o, none⟩ = false := fun o => by simp [World.frozen?, k8']
      clear hfar hbel hiw kR kR' k8 k8' kh kv hbw
      go_wp2
      refine bodyPost_ret (v := .agg #[.slice aa na ca, .slice (some ⟨w.heap.size + 1, 0, none⟩) 32 32, .slice none 0 0, .int .i64 fuel, .int .i64 0, .int .i64 0, .slice (some ⟨w.heap.size + 1 + 1 + 1, 0, none⟩) m m, .slice none 0 0, .int .i64 0, .int .i64 0, .slice none 0 0]) (by simp [results, Tryd.results73, go_sem, r0, r1, r2, r3, r4, r5, r6, r7, r8, r9, r10]) rfl ⟨w.heap.size + 1, w.heap.size + 1 + 1 + 1, rfl, set11_below HB.out (Nat.le_refl _) _ _ _ _ _ _ _ _ _ _ _, by omega, by omega, by omega, HI.out.keep (set11_far (by omega) _ _ _ _ _ _ _ _ _ _ _), HV.out.keep (set11_far (by omega) _ _ _ _ _ _ _ _ _ _ _)⟩
  · skip
    go_simp
    refine hK.out _ _ (by first | with_reducible exact hHeld | ((try dsimp only); go_keep)) (fun hHeld => ?_)
    clear hK
    try simp only [Act.put, List.getElem_toArray, List.getElem_cons_zero, List.getElem_cons_succ, List.setIfInBounds_toArray, List.set_cons_zero, List.set_cons_succ]
    refine wpAnyH_ready (rs := [1, 6]) (by kernel_rfl) (by simp) ?_
    refine (AllReadyH.cons rfl (fun K hK => ?_) (AllReadyH.cons rfl (fun K hK => ?_) AllReadyH.nil))
    · skip
      go_simp
      refine hK.out _ _ (by first | with_reducible exact hHeld | ((try dsimp only); go_keep)) (fun hHeld => ?_)
      clear hK
      try simp only [Act.put, List.getElem_toArray, List.getElem_cons_zero, List.getElem_cons_succ, List.setIfInBounds_toArray, List.set_cons_zero, List.set_cons_succ]
      refine wpAnyH_take (i := 5) (v := ?_) rfl (by kernel_rfl) (by kernel_rfl) (by kernel_rfl) (fun _ _ _ h => h) (Or.inl ⟨by rfl, ?_⟩) (by assumption) ?_
      rotate_left
      · intro w hSw; (try dsimp only at hSw); go_simp; try with_reducible rfl
      simp only [Act.put, List.getElem_toArray, List.getElem_cons_zero, List.getElem_cons_succ, List.setIfInBounds_toArray, List.set_cons_zero, List.set_cons_succ]
      refine wpAnyH_ready (rs := [6]) (by kernel_rfl) (by simp) ?_
      refine AllReadyH.cons rfl (fun K hK => ?_) AllReadyH.nil
      go_simp
      refine hK.out _ _ (by first | with_reducible exact hHeld | ((try dsimp only); go_keep)) (fun hHeld => ?_)
      clear hK
      try simp only [Act.put, List.getElem_toArray, List.getElem_cons_zero, List.getElem_cons_succ, List.setIfInBounds_toArray, List.set_cons_zero, List.set_cons_succ]
      refine wpAnyH_ready (rs := [7]) (by kernel_rfl) (by simp) ?_
      refine AllReadyH.cons rfl (fun K hK => ?_) AllReadyH.nil
      go_simp
      refine hK.out _ _ (by first | with_reducible exact hHeld | ((try dsimp only); go_keep)) (fun hHeld => ?_)
      clear hK
      try simp only [Act.put, List.getElem_toArray, List.getElem_cons_zero, List.getElem_cons_succ, List.setIfInBounds_toArray, List.set_cons_zero, List.set_cons_succ]
      refine wpAnyH_done (by kernel_rfl) ?_ _
      go_upto_region 2 with fail
      refine letterN (P := Code.wp _ _ _ _) _ ?_
      intro W hW
      have k8 : W.heap[w.heap.size]? = some (.cells Z11 102 (0, 0)) := by rw [hW]; exact (al4 w _ _ _ _).1
      have kR : W.heap[w.heap.size + 1 + 1 + 1]? = some (.cells #[.slice aa na ca, .slice (some ⟨w.heap.size + 1 + 1, 0, none⟩) 32 32, .slice none 0 0, .int .i64 fuel, .int .i64 0, .int .i64 0, .slice (some ⟨w.heap.size + 1, 0, none⟩) m m, .slice none 0 0, .int .i64 0, .int .i64 0, .slice none 0 0] 102 (0, 0)) := by rw [hW]; exact (al4 w _ _ _ _).2.2.2.1
      have kh : W.heap[w.heap.size + 1 + 1]? = some (.cells (madeCells #[.int .i64 0] 32) 2 (0, 0)) := (by rw [hW]; exact (al4 w _ _ _ _).2.2.1)
      have kv : W.heap[w.heap.size + 1]? = some (.cells (madeCells #[.int .i64 0] m) 2 (0, 0)) := (by rw [hW]; exact (al4 w _ _ _ _).2.1)
      have hbw : Below w.heap.size w W := by rw [hW]; exact (al4 w _ _ _ _).2.2.2.2
      clear hW hHeld hmk hmk2
      obtain ⟨W', hcp, hfar, hbel, hiw⟩ := copy_heap hA nh chh heap L B (w.heap.size + 1 + 1) W kh (hheap.out.keep (hbw.mono hB)) hnh.out h32
      have HB := hide (hbel _ _ (by omega) hbw)
      have HI := hide hiw
      have HV := hide ((valsOf kv).keep (hfar _ (by omega)))
      have kR' := (hfar (w.heap.size + 1 + 1 + 1) (by omega)).trans kR
      have k8' := (hfar w.heap.size (by omega)).trans k8
      have q1 : W.cell? ⟨w.heap.size + 1 + 1 + 1, 1, none⟩ = some (.slice (some ⟨w.heap.size + 1 + 1, 0, none⟩) 32 32) := by simp [World.cell?, kR]
      have p0 : W'.cell? ⟨w.heap.size + 1 + 1 + 1, 0, none⟩ = some (.slice aa na ca) := by simp [World.cell?, kR']
      have r0 : W'.cell? ⟨w.heap.size, 0, none⟩ = some (.slice none 0 0) := by simp [World.cell?, k8', Z11]
      have p1 : W'.cell? ⟨w.heap.size + 1 + 1 + 1, 1, none⟩ = some (.slice (some ⟨w.heap.size + 1 + 1, 0, none⟩) 32 32) := by simp [World.cell?, kR']
      have r1 : W'.cell? ⟨w.heap.size, 1, none⟩ = some (.slice none 0 0) := by simp [World.cell?, k8', Z11]
      have p2 : W'.cell? ⟨w.heap.size + 1 + 1 + 1, 2, none⟩ = some (.slice none 0 0) := by simp [World.cell?, kR']
      have r2 : W'.cell? ⟨w.heap.size, 2, none⟩ = some (.slice none 0 0) := by simp [World.cell?, k8', Z11]
      have p3 : W'.cell? ⟨w.heap.size + 1 + 1 + 1, 3, none⟩ = some (.int .i64 fuel) := by simp [World.cell?, kR']
      have r3 : W'.cell? ⟨w.heap.size, 3, none⟩ = some (.int .i64 0) := by simp [World.cell?, k8', Z11]
      have p4 : W'.cell? ⟨w.heap.size + 1 + 1 + 1, 4, none⟩ = some (.int .i64 0) := by simp [World.cell?, kR']
      have r4 : W'.cell? ⟨w.heap.size, 4, none⟩ = some (.int .i64 0) := by simp [World.cell?, k8', Z11]
      have p5 : W'.cell? ⟨w.heap.size + 1 + 1 + 1, 5, none⟩ = some (.int .i64 0) := by simp [World.cell?, kR']
      have r5 : W'.cell? ⟨w.heap.size, 5, none⟩ = some (.int .i64 0) := by simp [World.cell?, k8', Z11]
      have p6 : W'.cell? ⟨w.heap.size + 1 + 1 + 1, 6, none⟩ = some (.slice (some ⟨w.heap.size + 1, 0, none⟩) m m) := by simp [World.cell?, kR']
      have r6 : W'.cell? ⟨w.heap.size, 6, none⟩ = some (.slice none 0 0) := by simp [World.cell?, k8', Z11]
      have p7 : W'.cell? ⟨w.heap.size + 1 + 1 + 1, 7, none⟩ = some (.slice none 0 0) := by simp [World.cell?, kR']
      have r7 : W'.cell? ⟨w.heap.size, 7, none⟩ = some (.slice none 0 0) := by simp [World.cell?, k8', Z11]
      have p8 : W'.cell? ⟨w.heap.size + 1 + 1 + 1, 8, none⟩ = some (.int .i64 0) := by simp [World.cell?, kR']
      have r8 : W'.cell? ⟨w.heap.size, 8, none⟩ = some (.int .i64 0) := by simp [World.cell?, k8', Z11]
      have p9 : W'.cell? ⟨w.heap.size + 1 + 1 + 1, 9, none⟩ = some (.int .i64 0) := by simp [World.cell?, kR']
      have r9 : W'.cell? ⟨w.heap.size, 9, none⟩ = some (.int .i64 0) := by simp [World.cell?, k8', Z11]
      have p10 : W'.cell? ⟨w.heap.size + 1 + 1 + 1, 10, none⟩ = some (.slice none 0 0) := by simp [World.cell?, kR']
      have r10 : W'.cell? ⟨w.heap.size, 10, none⟩ = some (.slice none 0 0) := by simp [World.cell?, k8', Z11]
      have rz : ∀ o, W'.frozen? ⟨w.heap.size, o, none⟩ = false := fun o => by simp [World.frozen?, k8']
      clear hfar hbel hiw kR kR' k8 k8' kh kv hbw
      go_wp2
      refine bodyPost_ret (v := .agg #[.slice aa na ca, .slice (some ⟨w.heap.size + 1 + 1, 0, none⟩) 32 32, .slice none 0 0, .int .i64 fuel, .int .i64 0, .int .i64 0, .slice (some ⟨w.heap.size + 1, 0, none⟩) m m, .slice none 0 0, .int .i64 0, .int .i64 0, .slice none 0 0]) (by simp [results, Tryd.results73, go_sem, r0, r1, r2, r3, r4, r5, r6, r7, r8, r9, r10]) rfl ⟨w.heap.size + 1 + 1, w.heap.size + 1, rfl, set11_below HB.out (Nat.le_refl _) _ _ _ _ _ _ _ _ _ _ _, by omega, by omega, by omega, HI.out.keep (set11_far (by omega) _ _ _ _ _ _ _ _ _ _ _), HV.out.keep (set11_far (by omega) _ _ _ _ _ _ _ _ _ _ _)⟩
    · skip
      go_simp
      refine hK.out _ _ (by first | with_reducible exact hHeld | ((try dsimp only); go_keep)) (fun hHeld => ?_)
      clear hK
      try simp only [Act.put, List.getElem_toArray, List.getElem_cons_zero, List.getElem_cons_succ, List.setIfInBounds_toArray, List.set_cons_zero, List.set_cons_succ]
      refine wpAnyH_ready (rs := [1]) (by kernel_rfl) (by simp) ?_
      refine AllReadyH.cons rfl (fun K hK => ?_) AllReadyH.nil
      go_simp
      refine hK.out _ _ (by first | with_reducible exact hHeld | ((try dsimp only); go_keep)) (fun hHeld => ?_)
      clear hK
      try simp only [Act.put, List.getElem_toArray, List.getElem_cons_zero, List.getElem_cons_succ, List.setIfInBounds_toArray, List.set_cons_zero, List.set_cons_succ]
      refine wpAnyH_take (i := 5) (v := ?_) rfl (by kernel_rfl) (by kernel_rfl) (by kernel_rfl) (fun _ _ _ h => h) (Or.inl ⟨by rfl, ?_⟩) (by assumption) ?_
      rotate_left
      · intro w hSw; (try dsimp only at hSw); go_simp; try with_reducible rfl
      simp only [Act.put, List.getElem_toArray, List.getElem_cons_zero, List.getElem_cons_succ, List.setIfInBounds_toArray, List.set_cons_zero, List.set_cons_succ]
      refine wpAnyH_ready (rs := [7]) (by kernel_rfl) (by simp) ?_
      refine AllReadyH.cons rfl (fun K hK => ?_) AllReadyH.nil
      go_simp
      refine hK.out _ _ (by first | with_reducible exact hHeld | ((try dsimp only); go_keep)) (fun hHeld => ?_)
      clear hK
      try simp only [Act.put, List.getElem_toArray, List.getElem_cons_zero, List.getElem_cons_succ, List.setIfInBounds_toArray, List.set_cons_zero, List.set_cons_succ]
      refine wpAnyH_done (by kernel_rfl) ?_ _
      go_upto_region 2 with fail
      refine letterN (P := Code.wp _ _ _ _) _ ?_
      intro W hW
      have k8 : W.heap[w.heap.size]? = some (.cells Z11 102 (0, 0)) := by rw [hW]; exact (al4 w _ _ _ _).1
      have kR : W.heap[w.heap.size + 1 + 1]? = some (.cells #[.slice aa na ca, .slice (some ⟨w.heap.size + 1 + 1 + 1, 0, none⟩) 32 32, .slice none 0 0, .int .i64 fuel, .int .i64 0, .int .i64 0, .slice (some ⟨w.heap.size + 1, 0, none⟩) m m, .slice none 0 0, .int .i64 0, .int .i64 0, .slice none 0 0] 102 (0, 0)) := by rw [hW]; exact (al4 w _ _ _ _).2.2.1
      have kh : W.heap[w.heap.size + 1 + 1 + 1]? = some (.cells (madeCells #[.int .i64 0] 32) 2 (0, 0)) := (by rw [hW]; exact (al4 w _ _ _ _).2.2.2.1)
      have kv : W.heap[w.heap.size + 1]? = some (.cells (madeCells #[.int .i64 0] m) 2 (0, 0)) := (by rw [hW]; exact (al4 w _ _ _ _).2.1)
      have hbw : Below w.heap.size w W := by rw [hW]; exact (al4 w _ _ _ _).2.2.2.2
      clear hW hHeld hmk hmk2
      obtain ⟨W', hcp, hfar, hbel, hiw⟩ := copy_heap hA nh chh heap L B (w.heap.size + 1 + 1 + 1) W kh (hheap.out.keep (hbw.mono hB)) hnh.out h32
      have HB := hide (hbel _ _ (by omega) hbw)
      have HI := hide hiw
      have HV := hide ((valsOf kv).keep (hfar _ (by omega)))
      have kR' := (hfar (w.heap.size + 1 + 1) (by omega)).trans kR
      have k8' := (hfar w.heap.size (by omega)).trans k8
      have q1 : W.cell? ⟨w.heap.size + 1 + 1, 1, none⟩ = some (.slice (some ⟨w.heap.size + 1 + 1 + 1, 0, none⟩) 32 32) := by simp [World.cell?, kR]
      have p0 : W'.cell? ⟨w.heap.size + 1 + 1, 0, none⟩ = some (.slice aa na ca) := by simp [World.cell?, kR']
      have r0 : W'.cell? ⟨w.heap.size, 0, none⟩ = some (.slice none 0 0) := by simp [World.cell?, k8', Z11]
      have p1 : W'.cell? ⟨w.heap.size + 1 + 1, 1, none⟩ = some (.slice (some ⟨w.heap.size + 1 + 1 + 1, 0, none⟩) 32 32) := by simp [World.cell?, kR']
      have r1 : W'.cell? ⟨w.heap.size, 1, none⟩ = some (.slice none 0 0) := by simp [World.cell?, k8', Z11]
      have p2 : W'.cell? ⟨w.heap.size + 1 + 1, 2, none⟩ = some (.slice none 0 0) := by simp [World.cell?, kR']
      have r2 : W'.cell? ⟨w.heap.size, 2, none⟩ = some (.slice none 0 0) := by simp [World.cell?, k8', Z11]
      have p3 : W'.cell? ⟨w.heap.size + 1 + 1, 3, none⟩ = some (.int .i64 fuel) := by simp [World.cell?, kR']
      have r3 : W'.cell? ⟨w.heap.size, 3, none⟩ = some (.int .i64 0) := by simp [World.cell?, k8', Z11]
      have p4 : W'.cell? ⟨w.heap.size + 1 + 1, 4, none⟩ = some (.int .i64 0) := by simp [World.cell?, kR']
      have r4 : W'.cell? ⟨w.heap.size, 4, none⟩ = some (.int .i64 0) := by simp [World.cell?, k8', Z11]
      have p5 : W'.cell? ⟨w.heap.size + 1 + 1, 5, none⟩ = some (.int .i64 0) := by simp [World.cell?, kR']
      have r5 : W'.cell? ⟨w.heap.size, 5, none⟩ = some (.int .i64 0) := by simp [World.cell?, k8', Z11]
      have p6 : W'.cell? ⟨w.heap.size + 1 + 1, 6, none⟩ = some (.slice (some ⟨w.heap.size + 1, 0, none⟩) m m) := by simp [World.cell?, kR']
      have r6 : W'.cell? ⟨w.heap.size, 6, none⟩ = some (.slice none 0 0) := by simp [World.cell?, k8', Z11]
      have p7 : W'.cell? ⟨w.heap.size + 1 + 1, 7, none⟩ = some (.slice none 0 0) := by simp [World.cell?, kR']
      have r7 : W'.cell? ⟨w.heap.size, 7, none⟩ = some (.slice none 0 0) := by simp [World.cell?, k8', Z11]
      have p8 : W'.cell? ⟨w.heap.size + 1 + 1, 8, none⟩ = some (.int .i64 0) := by simp [World.cell?, kR']
      have r8 : W'.cell? ⟨w.heap.size, 8, none⟩ = some (.int .i64 0) := by simp [World.cell?, k8', Z11]
      have p9 : W'.cell? ⟨w.heap.size + 1 + 1, 9, none⟩ = some (.int .i64 0) := by simp [World.cell?, kR']
      have r9 : W'.cell? ⟨w.heap.size, 9, none⟩ = some (.int .i64 0) := by simp [World.cell?, k8', Z11]
      have p10 : W'.cell? ⟨w.heap.size + 1 + 1, 10, none⟩ = some (.slice none 0 0) := by simp [World.cell?, kR']
      have r10 : W'.cell? ⟨w.heap.size, 10, none⟩ = some (.slice none 0 0) := by simp [World.cell?, k8', Z11]
      have rz : ∀ o, W'.frozen? ⟨w.heap.size, o, none⟩ = false := fun o => by simp [World.frozen?, k8']
      clear hfar hbel hiw kR kR' k8 k8' kh kv hbw
      go_wp2
      refine bodyPost_ret (v := .agg #[.slice aa na ca, .slice (some ⟨w.heap.size + 1 + 1 + 1, 0, none⟩) 32 32, .slice none 0 0, .int .i64 fuel, .int .i64 0, .int .i64 0, .slice (some ⟨w.heap.size + 1, 0, none⟩) m m, .slice none 0 0, .int .i64 0, .int .i64 0, .slice none 0 0]) (by simp [results, Tryd.results73, go_sem, r0, r1, r2, r3, r4, r5, r6, r7, r8, r9, r10]) rfl ⟨w.heap.size + 1 + 1 + 1, w.heap.size + 1, rfl, set11_below HB.out (Nat.le_refl _) _ _ _ _ _ _ _ _ _ _ _, by omega, by omega, by omega, HI.out.keep (set11_far (by omega) _ _ _ _ _ _ _ _ _ _ _), HV.out.keep (set11_far (by omega) _ _ _ _ _ _ _ _ _ _ _)⟩
  · skip
    go_simp
    refine hK.out _ _ (by first | with_reducible exact hHeld | ((try dsimp only); go_keep)) (fun hHeld => ?_)
    clear hK
    try simp only [Act.put, List.getElem_toArray, List.getElem_cons_zero, List.getElem_cons_succ, List.setIfInBounds_toArray, List.set_cons_zero, List.set_cons_succ]
    refine wpAnyH_ready (rs := [1, 4]) (by kernel_rfl) (by simp) ?_
    refine (AllReadyH.cons rfl (fun K hK => ?_) (AllReadyH.cons rfl (fun K hK => ?_) AllReadyH.nil))
    · skip
      go_simp
      refine hK.out _ _ (by first | with_reducible exact hHeld | ((try dsimp only); go_keep)) (fun hHeld => ?_)
      clear hK
      try simp only [Act.put, List.getElem_toArray, List.getElem_cons_zero, List.getElem_cons_succ, List.setIfInBounds_toArray, List.set_cons_zero, List.set_cons_succ]
      refine wpAnyH_ready (rs := [4]) (by kernel_rfl) (by simp) ?_
      refine AllReadyH.cons rfl (fun K hK => ?_) AllReadyH.nil
      go_simp
      refine hK.out _ _ (by first | with_reducible exact hHeld | ((try dsimp only); go_keep)) (fun hHeld => ?_)
      clear hK
      try simp only [Act.put, List.getElem_toArray, List.getElem_cons_zero, List.getElem_cons_succ, List.setIfInBounds_toArray, List.set_cons_zero, List.set_cons_succ]
      refine wpAnyH_take (i := 5) (v := ?_) rfl (by kernel_rfl) (by kernel_rfl) (by kernel_rfl) (fun _ _ _ h => h) (Or.inl ⟨by rfl, ?_⟩) (by assumption) ?_
      rotate_left
      · intro w hSw; (try dsimp only at hSw); go_simp; try with_reducible rfl
      simp only [Act.put, List.getElem_toArray, List.getElem_cons_zero, List.getElem_cons_succ, List.setIfInBounds_toArray, List.set_cons_zero, List.set_cons_succ]
      refine wpAnyH_ready (rs := [7]) (by kernel_rfl) (by simp) ?_
      refine AllReadyH.cons rfl (fun K hK => ?_) AllReadyH.nil
      go_simp
      refine hK.out _ _ (by first | with_reducible exact hHeld | ((try dsimp only); go_keep)) (fun hHeld => ?_)
      clear hK
      try simp only [Act.put, List.getElem_toArray, List.getElem_cons_zero, List.getElem_cons_succ, List.setIfInBounds_toArray, List.set_cons_zero, List.set_cons_succ]
      refine wpAnyH_done (by kernel_rfl) ?_ _
      go_upto_region 2 with fail
      refine letterN (P := Code.wp _ _ _ _) _ ?_
      intro W hW
      have k8 : W.heap[w.heap.size]? = some (.cells Z11 102 (0, 0)) := by rw [hW]; exact (al4 w _ _ _ _).1
      have kR : W.heap[w.heap.size + 1]? = some (.cells #[.slice aa na ca, .slice (some ⟨w.heap.size + 1 + 1, 0, none⟩) 32 32, .slice none 0 0, .int .i64 fuel, .int .i64 0, .int .i64 0, .slice (some ⟨w.heap.size + 1 + 1 + 1, 0, none⟩) m m, .slice none 0 0, .int .i64 0, .int .i64 0, .slice none 0 0] 102 (0, 0)) := by rw [hW]; exact (al4 w _ _ _ _).2.1
      have kh : W.heap[w.heap.size + 1 + 1]? = some (.cells (madeCells #[.int .i64 0] 32) 2 (0, 0)) := (by rw [hW]; exact (al4 w _ _ _ _).2.2.1)
      have kv : W.heap[w.heap.size + 1 + 1 + 1]? = some (.cells (madeCells #[.int .i64 0] m) 2 (0, 0)) := (by rw [hW]; exact (al4 w _ _ _ _).2.2.2.1)
      have hbw : Below w.heap.size w W := by rw [hW]; exact (al4 w _ _ _ _).2.2.2.2
      clear hW hHeld hmk hmk2
      obtain ⟨W', hcp, hfar, hbel, hiw⟩ := copy_heap hA nh chh heap L B (w.heap.size + 1 + 1) W kh (hheap.out.keep (hbw.mono hB)) hnh.out h32
      have HB := hide (hbel _ _ (by omega) hbw)
      have HI := hide hiw
      have HV := hide ((valsOf kv).keep (hfar _ (by omega)))
      have kR' := (hfar (w.heap.size + 1) (by omega)).trans kR
      have k8' := (hfar w.heap.size (by omega)).trans k8
      have q1 : W.cell? ⟨w.heap.size + 1, 1, none⟩ = some (.slice (some ⟨w.heap.size + 1 + 1, 0, none⟩) 32 32) := by simp [World.cell?, kR]
      have p0 : W'.cell? ⟨w.heap.size + 1, 0, none⟩ = some (.slice aa na ca) := by simp [World.cell?, kR']
      have r0 : W'.cell? ⟨w.heap.size, 0, none⟩ = some (.slice none 0 0) := by simp [World.cell?, k8', Z11]
      have p1 : W'.cell? ⟨w.heap.size + 1, 1, none⟩ = some (.slice (some ⟨w.heap.size + 1 + 1, 0, none⟩) 32 32) := by simp [World.cell?, kR']
      have r1 : W'.cell? ⟨w.heap.size, 1, none⟩ = some (.slice none 0 0) := by simp [World.cell?, k8', Z11]
      have p2 : W'.cell? ⟨w.heap.size + 1, 2, none⟩ = some (.slice none 0 0) := by simp [World.cell?, kR']
      have r2 : W'.cell? ⟨w.heap.size, 2, none⟩ = some (.slice none 0 0) := by simp [World.cell?, k8', Z11]
      have p3 : W'.cell? ⟨w.heap.size + 1, 3, none⟩ = some (.int .i64 fuel) := by simp [World.cell?, kR']
      have r3 : W'.cell? ⟨w.heap.size, 3, none⟩ = some (.int .i64 0) := by simp [World.cell?, k8', Z11]
      have p4 : W'.cell? ⟨w.heap.size + 1, 4, none⟩ = some (.int .i64 0) := by simp [World.cell?, kR']
      have r4 : W'.cell? ⟨w.heap.size, 4, none⟩ = some (.int .i64 0) := by simp [World.cell?, k8', Z11]
      have p5 : W'.cell? ⟨w.heap.size + 1, 5, none⟩ = some (.int .i64 0) := by simp [World.cell?, kR']
      have r5 : W'.cell? ⟨w.heap.size, 5, none⟩ = some (.int .i64 0) := by simp [World.cell?, k8', Z11]
      have p6 : W'.cell? ⟨w.heap.size + 1, 6, none⟩ = some (.slice (some ⟨w.heap.size + 1 + 1 + 1, 0, none⟩) m m) := by simp [World.cell?, kR']
      have r6 : W'.cell? ⟨w.heap.size, 6, none⟩ = some (.slice none 0 0) := by simp [World.cell?, k8', Z11]
      have p7 : W'.cell? ⟨w.heap.size + 1, 7, none⟩ = some (.slice none 0 0) := by simp [World.cell?, kR']
      have r7 : W'.cell? ⟨w.heap.size, 7, none⟩ = some (.slice none 0 0) := by simp [World.cell?, k8', Z11]
      have p8 : W'.cell? ⟨w.heap.size + 1, 8, none⟩ = some (.int .i64 0) := by simp [World.cell?, kR']
      have r8 : W'.cell? ⟨w.heap.size, 8, none⟩ = some (.int .i64 0) := by simp [World.cell?, k8', Z11]
      have p9 : W'.cell? ⟨w.heap.size + 1, 9, none⟩ = some (.int .i64 0) := by simp [World.cell?, kR']
      have r9 : W'.cell? ⟨w.heap.size, 9, none⟩ = some (.int .i64 0) := by simp [World.cell?, k8', Z11]
      have p10 : W'.cell? ⟨w.heap.size + 1, 10, none⟩ = some (.slice none 0 0) := by simp [World.cell?, kR']
      have r10 : W'.cell? ⟨w.heap.size, 10, none⟩ = some (.slice none 0 0) := by simp [World.cell?, k8', Z11]
      have rz : ∀ o, W'.frozen? ⟨w.heap.size, o, none⟩ = false := fun o => by simp [World.frozen?, k8']
      clear hfar hbel hiw kR kR' k8 k8' kh kv hbw
      go_wp2
      refine bodyPost_ret (v := .agg #[.slice aa na ca, .slice (some ⟨w.heap.size + 1 + 1, 0, none⟩) 32 32, .slice none 0 0, .int .i64 fuel, .int .i64 0, .int .i64 0, .slice (some ⟨w.heap.size + 1 + 1 + 1, 0, none⟩) m m, .slice none 0 0, .int .i64 0, .int .i64 0, .slice none 0 0]) (by simp [results, Tryd.results73, go_sem, r0, r1, r2, r3, r4, r5, r6, r7, r8, r9, r10]) rfl ⟨w.heap.size + 1 + 1, w.heap.size + 1 + 1 + 1, rfl, set11_below HB.out (Nat.le_refl _) _ _ _ _ _ _ _ _ _ _ _, by omega, by omega, by omega, HI.out.keep (set11_far (by omega) _ _ _ _ _ _ _ _ _ _ _), HV.out.keep (set11_far (by omega) _ _ _ _ _ _ _ _ _ _ _)⟩
    · skip
      go_simp
      refine hK.out _ _ (by first | with_reducible exact hHeld | ((try dsimp only); go_keep)) (fun hHeld => ?_)
      clear hK
      try simp only [Act.put, List.getElem_toArray, List.getElem_cons_zero, List.getElem_cons_succ, List.setIfInBounds_toArray, List.set_cons_zero, List.set_cons_succ]
      refine wpAnyH_ready (rs := [1]) (by kernel_rfl) (by simp) ?_
      refine AllReadyH.cons rfl (fun K hK => ?_) AllReadyH.nil
      go_simp
      refine hK.out _ _ (by first | with_reducible exact hHeld | ((try dsimp only); go_keep)) (fun hHeld => ?_)
      clear hK
      try simp only [Act.put, List.getElem_toArray, List.getElem_cons_zero, List.getElem_cons_succ, List.setIfInBounds_toArray, List.set_cons_zero, List.set_cons_succ]
      refine wpAnyH_take (i := 5) (v := ?_) rfl (by kernel_rfl) (by kernel_rfl) (by kernel_rfl) (fun _ _ _ h => h) (Or.inl ⟨by rfl, ?_⟩) (by assumption) ?_
      rotate_left
      · intro w hSw; (try dsimp only at hSw); go_simp; try with_reducible rfl
      simp only [Act.put, List.getElem_toArray, List.getElem_cons_zero, List.getElem_cons_succ, List.setIfInBounds_toArray, List.set_cons_zero, List.set_cons_succ]
      refine wpAnyH_ready (rs := [7]) (by kernel_rfl) (by simp) ?_
      refine AllReadyH.cons rfl (fun K hK => ?_) AllReadyH.nil
      go_simp
      refine hK.out _ _ (by first | with_reducible exact hHeld | ((try dsimp only); go_keep)) (fun hHeld => ?_)
      clear hK
      try simp only [Act.put, List.getElem_toArray, List.getElem_cons_zero, List.getElem_cons_succ, List.setIfInBounds_toArray, List.set_cons_zero, List.set_cons_succ]
      refine wpAnyH_done (by kernel_rfl) ?_ _
      go_upto_region 2 with fail
      refine letterN (P := Code.wp _ _ _ _) _ ?_
      intro W hW
      have k8 : W.heap[w.heap.size]? = some (.cells Z11 102 (0, 0)) := by rw [hW]; exact (al4 w _ _ _ _).1
      have kR : W.heap[w.heap.size + 1]? = some (.cells #[.slice aa na ca, .slice (some ⟨w.heap.size + 1 + 1 + 1, 0, none⟩) 32 32, .slice none 0 0, .int .i64 fuel, .int .i64 0, .int .i64 0, .slice (some ⟨w.heap.size + 1 + 1, 0, none⟩) m m, .slice none 0 0, .int .i64 0, .int .i64 0, .slice none 0 0] 102 (0, 0)) := by rw [hW]; exact (al4 w _ _ _ _).2.1
      have kh : W.heap[w.heap.size + 1 + 1 + 1]? = some (.cells (madeCells #[.int .i64 0] 32) 2 (0, 0)) := (by rw [hW]; exact (al4 w _ _ _ _).2.2.2.1)
      have kv : W.heap[w.heap.size + 1 + 1]? = some (.cells (madeCells #[.int .i64 0] m) 2 (0, 0)) := (by rw [hW]; exact (al4 w _ _ _ _).2.2.1)
      have hbw : Below w.heap.size w W := by rw [hW]; exact (al4 w _ _ _ _).2.2.2.2
      clear hW hHeld hmk hmk2
      obtain ⟨W', hcp, hfar, hbel, hiw⟩ := copy_heap hA nh chh heap L B (w.heap.size + 1 + 1 + 1) W kh (hheap.out.keep (hbw.mono hB)) hnh.out h32
      have HB := hide (hbel _ _ (by omega) hbw)
      have HI := hide hiw
      have HV := hide ((valsOf kv).keep (hfar _ (by omega)))
      have kR' := (hfar (w.heap.size + 1) (by omega)).trans kR
      have k8' := (hfar w.heap.size (by omega)).trans k8
      have q1 : W.cell? ⟨w.heap.size + 1, 1, none⟩ = some (.slice (some ⟨w.heap.size + 1 + 1 + 1, 0, none⟩) 32 32) := by simp [World.cell?, kR]
      have p0 : W'.cell? ⟨w.heap.size + 1, 0, none⟩ = some (.slice aa na ca) := by simp [World.cell?, kR']
      have r0 : W'.cell? ⟨w.heap.size, 0, none⟩ = some (.slice none 0 0) := by simp [World.cell?, k8', Z11]
      have p1 : W'.cell? ⟨w.heap.size + 1, 1, none⟩ = some (.slice (some ⟨w.heap.size + 1 + 1 + 1, 0, none⟩) 32 32) := by simp [World.cell?, kR']
      have r1 : W'.cell? ⟨w.heap.size, 1, none⟩ = some (.slice none 0 0) := by simp [World.cell?, k8', Z11]
      have p2 : W'.cell? ⟨w.heap.size + 1, 2, none⟩ = some (.slice none 0 0) := by simp [World.cell?, kR']
      have r2 : W'.cell? ⟨w.heap.size, 2, none⟩ = some (.slice none 0 0) := by simp [World.cell?, k8', Z11]
      have p3 : W'.cell? ⟨w.heap.size + 1, 3, none⟩ = some (.int .i64 fuel) := by simp [World.cell?, kR']
      have r3 : W'.cell? ⟨w.heap.size, 3, none⟩ = some (.int .i64 0) := by simp [World.cell?, k8', Z11]
      have p4 : W'.cell? ⟨w.heap.size + 1, 4, none⟩ = some (.int .i64 0) := by simp [World.cell?, kR']
      have r4 : W'.cell? ⟨w.heap.size, 4, none⟩ = some (.int .i64 0) := by simp [World.cell?, k8', Z11]
      have p5 : W'.cell? ⟨w.heap.size + 1, 5, none⟩ = some (.int .i64 0) := by simp [World.cell?, kR']
      have r5 : W'.cell? ⟨w.heap.size, 5, none⟩ = some (.int .i64 0) := by simp [World.cell?, k8', Z11]
      have p6 : W'.cell? ⟨w.heap.size + 1, 6, none⟩ = some (.slice (some ⟨w.heap.size + 1 + 1, 0, none⟩) m m) := by simp [World.cell?, kR']
      have r6 : W'.cell? ⟨w.heap.size, 6, none⟩ = some (.slice none 0 0) := by simp [World.cell?, k8', Z11]
      have p7 : W'.cell? ⟨w.heap.size + 1, 7, none⟩ = some (.slice none 0 0) := by simp [World.cell?, kR']
      have r7 : W'.cell? ⟨w.heap.size, 7, none⟩ = some (.slice none 0 0) := by simp [World.cell?, k8', Z11]
      have p8 : W'.cell? ⟨w.heap.size + 1, 8, none⟩ = some (.int .i64 0) := by simp [World.cell?, kR']
      have r8 : W'.cell? ⟨w.heap.size, 8, none⟩ = some (.int .i64 0) := by simp [World.cell?, k8', Z11]
      have p9 : W'.cell? ⟨w.heap.size + 1, 9, none⟩ = some (.int .i64 0) := by simp [World.cell?, kR']
      have r9 : W'.cell? ⟨w.heap.size, 9, none⟩ = some (.int .i64 0) := by simp [World.cell?, k8', Z11]
      have p10 : W'.cell? ⟨w.heap.size + 1, 10, none⟩ = some (.slice none 0 0) := by simp [World.cell?, kR']
      have r10 : W'.cell? ⟨w.heap.size, 10, none⟩ = some (.slice none 0 0) := by simp [World.cell?, k8', Z11]
      have rz : ∀ o, W'.frozen? ⟨w.heap.size, o, none⟩ = false := fun o => by simp [World.frozen?, k8']
      clear hfar hbel hiw kR kR' k8 k8' kh kv hbw
      go_wp2
      refine bodyPost_ret (v := .agg #[.slice aa na ca, .slice (some ⟨w.heap.size + 1 + 1 + 1, 0, none⟩) 32 32, .slice none 0 0, .int .i64 fuel, .int .i64 0, .int .i64 0, .slice (some ⟨w.heap.size + 1 + 1, 0, none⟩) m m, .slice none 0 0, .int .i64 0, .int .i64 0, .slice none 0 0]) (by simp [results, Tryd.results73, go_sem, r0, r1, r2, r3, r4, r5, r6, r7, r8, r9, r10]) rfl ⟨w.heap.size + 1 + 1 + 1, w.heap.size + 1 + 1, rfl, set11_below HB.out (Nat.le_refl _) _ _ _ _ _ _ _ _ _ _ _, by omega, by omega, by omega, HI.out.keep (set11_far (by omega) _ _ _ _ _ _ _ _ _ _ _), HV.out.keep (set11_far (by omega) _ _ _ _ _ _ _ _ _ _ _)⟩
end Go.Proofs.YtdcdgopblbmgoaaDoor
