import Derived.Test.YtdcdgopblbmgoaaDoorR1
import Derived.Deep.RegionWith
import Derived.Deep.RegionHeld3
import Derived.Test.YtdcdgopblbmgoaaDoorR10
import Derived.Test.YtdcdgopblbmgoaaDoorW14b
import Derived.Deep.AppendLies
namespace Go.Proofs.YtdcdgopblbmgoaaDoor
open Go.RowKit

/-- The node of an instruction. -/
def nodeV (args : List Int) (x : Ins) : Value :=
  if x.op = 1 then .iface 214 (.agg #[.int .i64 x.dst, .int .i64 x.imm]) else if x.op = 2 then .iface 214 (.agg #[.int .i64 x.dst, .int .i64 (argR args x.imm)])
  else if x.op = 8 ∨ x.op = 9 then .iface 216 (.agg #[.int .i64 x.op, .int .i64 x.dst, .int .i64 x.a, .int .i64 x.b]) else if x.op = 10 then .iface 218 (.agg #[.int .i64 x.a])
  else .iface 219 (.agg #[.int .i64 x.op, .int .i64 x.dst, .int .i64 x.a, .int .i64 x.b])

set_option maxHeartbeats 400000 in
theorem argument_any (r : Nat) (a : Option Addr) (n c : Nat) (i : Int) (xs : List Int) (L B : Nat) (w : World) (hc : w.cell? ⟨r, 0, none⟩ = some (.slice a n c)) (ha : Hid (IntsAt w L B a xs)) (hx : Hid (n = xs.length)) (h0 : 0 ≤ i) (h1 : i ≤ 1000) :
    Calls Tryd.prog 148 #[.pointer (some ⟨r, 0, none⟩), .int .i64 i] w fun e w' => e = .returned (.int .i64 (argR xs i)) ∧ w' = w := by
  obtain ⟨k, rfl⟩ := Int.eq_ofNat_of_zero_le h0
  by_cases hk : k < n
  · have hkx : k < xs.length := by have := hx.out; omega
    obtain ⟨b, o, rfl, ⟨_, hb⟩, hcc⟩ := ha.out k hkx
    have hv : argR xs (k : Int) = xs[k] := by simp [argR, hkx]
    generalize xs[k] = X at *
    go_enter Tryd.func148, Tryd.ntmps148
    go_wp2
    go_ret
    exact ⟨ret_int hv.symm, rfl⟩
  · have hkx : xs.length ≤ k := by have := hx.out; omega
    have hv : argR xs (k : Int) = 0 := by simp [argR, List.getElem?_eq_none hkx]
    go_enter Tryd.func148, Tryd.ntmps148
    go_wp2
    go_ret
    exact ⟨ret_int hv.symm, rfl⟩

theorem ret_val {u v : Value} (h : u = v) : Ending.returned u = Ending.returned v := by rw [h]

set_option maxHeartbeats 1000000 in
theorem instrNode_any (x : Ins) (args : List Int) (r : Nat) (a : Option Addr) (n c : Nat) (nv : Int) (L B : Nat) (w : World) (hc : w.cell? ⟨r, 0, none⟩ = some (.slice a n c)) (hr : r < w.heap.size) (ha : Hid (IntsAt w L B a args)) (hx : Hid (n = args.length)) (hB : B ≤ w.heap.size) (ok : insOk nv 10 x = true) :
    Calls Tryd.prog 115 #[.pointer (some ⟨r, 0, none⟩), .agg #[.int .i64 x.op, .int .i64 x.dst, .int .i64 x.a, .int .i64 x.b, .int .i64 x.imm]] w fun e w' => e = .returned (nodeV args x) ∧ Below w.heap.size w w' := by
  obtain ⟨⟨o1, o2⟩, _, _, _, fi⟩ := ins_facts ok
  clear ok
  have HA := fun o => hide (ha.out.keep ((balloc (Below.refl w.heap.size w) o).drew.mono hB))
  have HC := fun o => ((balloc (Below.refl w.heap.size w) o).drew.cell (p := ⟨r, 0, none⟩) hr).trans hc
  obtain ⟨op, dst, xa, xb, imm⟩ := x
  dsimp only at *
  have hk : op = 1 ∨ op = 2 ∨ op = 8 ∨ op = 9 ∨ op = 10 ∨ (3 ≤ op ∧ op ≤ 7) := by omega
  rcases hk with rfl | rfl | rfl | rfl | rfl | ⟨k1, k2⟩
  · go_enter Tryd.func115, Tryd.ntmps115
    go_wp2
    go_ret
    exact ⟨ret_val (by simp [nodeV]), balloc (Below.refl _ _) _⟩
  · obtain ⟨i0, i1⟩ := fi rfl
    have hv : Hid (nodeV args ⟨2, dst, xa, xb, imm⟩ = .iface 214 (.agg #[.int .i64 dst, .int .i64 (argR args imm)])) := hide (by simp [nodeV])
    go_enter Tryd.func115, Tryd.ntmps115
    go_wp2
    go_region_with (go_at_call 148; refine (argument_any r a n c imm args L B _ (HC _) (HA _) hx i0 (by omega)).mono ?_; rintro e w1 ⟨rfl, rfl⟩)
    all_goals
      go_wp2
      go_ret
      exact ⟨ret_val hv.out.symm, (balloc (Below.refl _ _) _).drew⟩
  · go_enter Tryd.func115, Tryd.ntmps115
    go_wp2
    go_ret
    exact ⟨ret_val (by simp [nodeV]), balloc (Below.refl _ _) _⟩
  · go_enter Tryd.func115, Tryd.ntmps115
    go_wp2
    go_ret
    exact ⟨ret_val (by simp [nodeV]), balloc (Below.refl _ _) _⟩
  · go_enter Tryd.func115, Tryd.ntmps115
    go_wp2
    go_ret
    exact ⟨ret_val (by simp [nodeV]), balloc (Below.refl _ _) _⟩
  · have e1 : (op == 1) = false := by simp; omega
    have e2 : (op == 2) = false := by simp; omega
    have e3 : (op == 8) = false := by simp; omega
    have e4 : (op == 9) = false := by simp; omega
    have e5 : (op == 10) = false := by simp; omega
    have hv : Hid (nodeV args ⟨op, dst, xa, xb, imm⟩ = .iface 219 (.agg #[.int .i64 op, .int .i64 dst, .int .i64 xa, .int .i64 xb])) := hide (by
      unfold nodeV
      rw [if_neg (by dsimp only; omega), if_neg (by dsimp only; omega), if_neg (by dsimp only; omega), if_neg (by dsimp only; omega)])
    go_enter Tryd.func115, Tryd.ntmps115
    go_wp2
    go_ret
    exact ⟨ret_val hv.out.symm, balloc (Below.refl _ _) _⟩

set_option maxHeartbeats 400000 in
theorem outcome_any (r : Nat) (code value steps : Int) (ta : Option Addr) (nt ct : Nat) (ha : Option Addr) (nh ch : Nat) (w : World)
    (h1 : w.cell? ⟨r, 1, none⟩ = some (.slice ha nh ch)) (h2 : w.cell? ⟨r, 2, none⟩ = some (.slice ta nt ct)) (h4 : w.cell? ⟨r, 4, none⟩ = some (.int .i64 steps)) (h5 : w.cell? ⟨r, 5, none⟩ = some (.int .i64 value)) (hr : r < w.heap.size) :
    Calls Tryd.prog 118 #[.pointer (some ⟨r, 0, none⟩), .int .i64 code] w fun e w' => e = .returned (.agg #[.int .i64 code, .int .i64 value, .int .i64 steps, .slice ta nt ct, .slice ha nh ch]) ∧ Below w.heap.size w w' := by
  have z1 := fun o => ((balloc (Below.refl w.heap.size w) o).cell (p := ⟨r, 1, none⟩) hr).trans h1
  have z2 := fun o => ((balloc (Below.refl w.heap.size w) o).cell (p := ⟨r, 2, none⟩) hr).trans h2
  have z4 := fun o => ((balloc (Below.refl w.heap.size w) o).cell (p := ⟨r, 4, none⟩) hr).trans h4
  have z5 := fun o => ((balloc (Below.refl w.heap.size w) o).cell (p := ⟨r, 5, none⟩) hr).trans h5
  go_enter Tryd.func118, Tryd.ntmps118
  go_wp2
  go_region_held3 (fun w' => w'.cell? ⟨r, 1, none⟩ = some (.slice ha nh ch) ∧ w'.cell? ⟨r, 2, none⟩ = some (.slice ta nt ct) ∧ w'.cell? ⟨r, 4, none⟩ = some (.int .i64 steps) ∧ w'.cell? ⟨r, 5, none⟩ = some (.int .i64 value)) (go_keep) (fail)
  go_wp2
  exact bodyPost_ret (v := .agg #[.int .i64 code, .int .i64 value, .int .i64 steps, .slice ta nt ct, .slice ha nh ch]) (by simp [results, Tryd.results118, go_sem]) rfl ⟨rfl, (balloc (Below.refl _ _) _).drew⟩
end Go.Proofs.YtdcdgopblbmgoaaDoor

namespace Go.Proofs.YtdcdgopblbmgoaaDoor
open Go.RowKit

set_option maxHeartbeats 400000 in
theorem index_any (a : Option Addr) (n c : Nat) (p : Int) (ps : List Int) (L B : Nat) (w : World) (ha : Hid (IntsAt w L B a ps)) (hx : Hid (n = ps.length)) (hn : n ≤ 1048576) (hm : Hid (p ∈ ps)) :
    Calls Tryd.prog 162 #[.slice a n c, .int .i64 p] w fun e w' => e = .returned (.int .i64 (idxR ps p)) ∧ w' = w := by
  have hl := idxR_lt hm.out
  have hat := idxR_at hl
  generalize hI : idxR ps p = I at *
  go_enter Tryd.func162, Tryd.ntmps162
  go_wp2
  go_loopw [8] (fun i wr => ∃ k : Nat, k ≤ I ∧ i = .int .i64 k ∧ wr = w) (fun i _ => n - (intOf i).toNat)
  case atStart => exact ⟨0, Nat.zero_le _, rfl, rfl⟩
  case round =>
    obtain ⟨k, hk, rfl, rfl⟩ := hrel
    have hkx : k < ps.length := by omega
    have hkn : k < n := by have := hx.out; omega
    obtain ⟨b, o, rfl, _, hc⟩ := ha.out k hkx
    by_cases e : k = I
    · subst e
      rw [hat] at hc
      go_wp2
      go_ret
      exact ⟨rfl, rfl⟩
    · have he : (p == ps[k]) = false := idxR_ne (by omega) hkx
      generalize ps[k] = X at *
      go_wp2
      exact ⟨⟨k + 1, by omega, by go_num, trivial⟩, by simp [intOf]; omega⟩

/-- Pairs of numbers that lie in a row. -/
def TakesAt (w : World) (L B : Nat) (a : Option Addr) (ts : List (Int × Int)) : Prop :=
  ∀ i (h : i < ts.length), ∃ b o, a = some ⟨b, o, none⟩ ∧ (L ≤ b ∧ b < B) ∧ w.cell? ⟨b, o + i * 2, none⟩ = some (.int .i64 ts[i].1) ∧ w.cell? ⟨b, o + i * 2 + 1, none⟩ = some (.int .i64 ts[i].2)
theorem TakesAt.keepS {w w' : World} {L B : Nat} {a : Option Addr} {ts : List (Int × Int)} (h : TakesAt w L B a ts) (k : Same L B w w') : TakesAt w' L B a ts := fun i hi => by
  obtain ⟨b, o, e, hb, h1, h2⟩ := h i hi
  exact ⟨b, o, e, hb, (cell_of (k b hb.1 hb.2)).trans h1, (cell_of (k b hb.1 hb.2)).trans h2⟩
theorem TakesAt.keep {w w' : World} {L B : Nat} {a : Option Addr} {ts : List (Int × Int)} (h : TakesAt w L B a ts) (k : Below B w w') : TakesAt w' L B a ts := h.keepS (Same.of_below k)
theorem TakesAt.mono {w : World} {L B L' B' : Nat} {a : Option Addr} {ts : List (Int × Int)} (h : TakesAt w L B a ts) (l : L' ≤ L) (k : B ≤ B') : TakesAt w L' B' a ts := fun i hi => by
  obtain ⟨b, o, e, hb, h1, h2⟩ := h i hi
  exact ⟨b, o, e, by omega, h1, h2⟩
theorem TakesAt.nil (w : World) (L B : Nat) (a : Option Addr) : TakesAt w L B a [] := fun i h => absurd h (by simp)
def takeVs : List (Int × Int) → List Value
  | [] => []
  | t :: ts => .int .i64 t.1 :: .int .i64 t.2 :: takeVs ts
theorem takeVs_snoc (ts : List (Int × Int)) (t : Int × Int) : takeVs (ts ++ [t]) = takeVs ts ++ [.int .i64 t.1, .int .i64 t.2] := by
  induction ts with
  | nil => rfl
  | cons x ts ih => simp [takeVs, ih]
theorem takeVs_at : ∀ (ts : List (Int × Int)) (i : Nat) (h : i < ts.length), (takeVs ts)[i * 2]? = some (.int .i64 ts[i].1) ∧ (takeVs ts)[i * 2 + 1]? = some (.int .i64 ts[i].2)
  | [], i, h => absurd h (by simp)
  | t :: ts, 0, _ => by simp [takeVs]
  | t :: ts, i + 1, h => by
    have := takeVs_at ts i (by simpa using h)
    rw [show (i + 1) * 2 = i * 2 + 1 + 1 by omega]
    simpa [takeVs] using this
theorem addr_add (b j : Nat) : (⟨b, 0, none⟩ : Addr).add j = ⟨b, 0 + j, none⟩ := by unfold Addr.add; split <;> simp_all
theorem takes_owned {w : World} {base e : Nat} {ta : Option Addr} {nt ct n : Nat} {ts : List (Int × Int)} (h : w.ownsRow base e 2 (.slice ta nt ct) n (takeVs ts)) : TakesAt w base w.heap.size ta ts := fun i hi => by
  obtain ⟨h1, h2⟩ := takeVs_at ts i hi
  cases ta with
  | none =>
    exfalso
    rcases h.2 with ⟨_, e2⟩ | ⟨_, _, _, e2, _⟩
    · have hl := h.1
      have : i * 2 < (takeVs ts).length := (List.getElem?_eq_some_iff.1 h1).1
      omega
    · injection e2 with e3; injection e3
  | some ad =>
    have hg : (Value.slice (some ad) nt ct).ownBlock = some ad.block := rfl
    have hb := h.lt _ hg
    have e2 : ad = ⟨ad.block, 0, none⟩ := by
      rcases h.2 with ⟨e3, _⟩ | ⟨_, _, _, e3, _⟩
      · injection e3 with e4; injection e4
      · injection e3 with e4; injection e4 with e4; rw [e4]
    have c1 := h.cells hg _ _ h1
    have c2 := h.cells hg _ _ h2
    rw [addr_add] at c1 c2
    exact ⟨ad.block, 0, congrArg some e2, hb, c1, c2⟩

theorem own_keep2 {w w1 : World} {B t s : Nat} {x : Value} {n : Nat} {xs : List Value} (h : w.ownsRow B t s x n xs) (k : ∀ b, x.ownBlock = some b → w1.heap[b]? = w.heap[b]?) : w1.ownsRow B t s x n xs := by
  obtain ⟨hl, h | ⟨g, cap, cur, rfl, hg, hh, hc⟩⟩ := h
  · exact ⟨hl, Or.inl h⟩
  · exact ⟨hl, Or.inr ⟨g, cap, cur, rfl, hg, (k g rfl).trans hh, hc⟩⟩

/-- An edge while it is made. -/
structure EdgeMem (w : World) (E : Nat) (t : Int) (ta : Option Addr) (nt ct : Nat) (ts : List (Int × Int)) : Prop where
  c0 : w.cell? ⟨E, 0, none⟩ = some (.int .i64 t)
  c1 : w.cell? ⟨E, 1, none⟩ = some (.slice ta nt ct)
  fz : ∀ o, w.frozen? ⟨E, o, none⟩ = false
  own : w.ownsRow (E + 1) 234 2 (.slice ta nt ct) nt (takeVs ts)
theorem EdgeMem.push {w W w1 : World} {E : Nat} {t : Int} {ta : Option Addr} {nt ct : Nat} {ts : List (Int × Int)} (h : EdgeMem w E t ta nt ct ts) (hW : Below w.heap.size w W) (hE : E < w.heap.size) {g cap : Nat} {x y : Int}
    (ho : w1.ownsRow (E + 1) 234 2 (.slice (some ⟨g, 0, none⟩) (nt + 1) cap) (nt + 1) (takeVs ts ++ [.int .i64 x, .int .i64 y])) (hg : W.grownBy w1 (Value.slice ta nt ct).ownBlock) :
    EdgeMem (w1.setCell ⟨E, 1, none⟩ (.slice (some ⟨g, 0, none⟩) (nt + 1) cap)) E t (some ⟨g, 0, none⟩) (nt + 1) cap (ts ++ [(x, y)]) := by
  have hws := hW.size
  have k : w1.heap[E]? = w.heap[E]? := (hg.block E (by omega) (fun e => by have := (h.own.lt _ e.symm).1; omega)).trans (hW.block E hE)
  have hgE := ho.lt g rfl
  refine ⟨?_, ?_, fun o => (World.frozen?_setCell _ _ _ _).trans ((World.frozen?_of_block k).trans (h.fz o)), ?_⟩
  · rw [World.cell?_setCell_other _ _ _ _ (by intro e; injection e with _ e; omega)]
    exact (cell_of k).trans h.c0
  · exact World.cell?_setCell_same _ _ _ ((cell_of k).trans h.c1)
  · rw [takeVs_snoc]
    exact own_keep2 ho (fun b e => Below.heap_setCell _ _ _ _ (fun e2 => by injection e with e; dsimp only at e e2; omega))

theorem Tryd.info165 : (Tryd.prog.info? 234).map (fun i => (i.zero, i.size, i.bytes)) = some (some (.agg #[.int .i64 0, .int .i64 0]), 2, 16) := by kernel_rfl

theorem far10' {W w1 : World} {row : Option Nat} (hg : W.grownBy w1 row) {k : Nat} (hk : k < W.heap.size) (hn : some k ≠ row) : (∀ o, w1.cell? ⟨k, o, none⟩ = W.cell? ⟨k, o, none⟩) ∧ (∀ o, w1.frozen? ⟨k, o, none⟩ = W.frozen? ⟨k, o, none⟩) :=
  ⟨fun o => hg.cell_far ⟨k, o, none⟩ hk hn, fun o => hg.frozen_far ⟨k, o, none⟩ hk hn⟩

set_option maxHeartbeats 2000000 in
theorem makeEdge_any (v : Int) (a : Option Addr) (n c : Nat) (pa : Option Addr) (pn pc : Nat) (p t : Nat) (xs : List Blk) (pss : List (List Int)) (X : Blk) (ps : List Int) (nv : Int) (L B L2 B2 : Nat) (w : World)
    (ha : Hid (BlksAt w L B a xs)) (hx : Hid (n = xs.length)) (hB : B ≤ w.heap.size) (hp : Hid (IntssAt w L2 B2 pa pss)) (hpn : Hid (pn = pss.length)) (hB2 : B2 ≤ w.heap.size) (ht : t < n) (htp : t < pn)
    (hX : Hid (∀ h : t < xs.length, xs[t] = X)) (hps : Hid (∀ h : t < pss.length, pss[t] = ps)) (hpl : ps.length ≤ 1048576) (hphl : X.phis.length ≤ 1048576) (hm : Hid ((p : Int) ∈ ps)) (hok : Hid (∀ i (h : i < X.phis.length), phOkI nv ps.length X.phis[i] = true)) :
    Calls Tryd.prog 149 #[.agg #[.int .i64 v, .slice a n c], .slice pa pn pc, .int .i64 p, .int .i64 t] w
      fun e w' => ∃ ta ct, e = .returned (.agg #[.int .i64 t, .slice ta X.phis.length ct]) ∧ Below w.heap.size w w' ∧ TakesAt w' w.heap.size w'.heap.size ta (takesR (idxR ps p) X.phis) := by
  have htx : t < xs.length := by have := hx.out; omega
  have htq : t < pss.length := by have := hpn.out; omega
  obtain ⟨i0, hi0, hz0, hz1, hz2⟩ := info_parts Tryd.info165
  obtain ⟨b, o, rfl, ⟨_, hbB⟩, hc⟩ := ha.out t htx
  rw [hX.out htx] at hc
  obtain ⟨fa, fc, ia, ic, e0, -, -, hph, -⟩ := hc
  obtain ⟨b2, o2, rfl, ⟨_, hb2⟩, qa, qc, q0, hq⟩ := hp.out t htq
  rw [hps.out htq] at q0 hq
  have bl := fun x y z => balloc (balloc (balloc (Below.refl w.heap.size w) x) y) z
  have E0 := fun x y z => ((bl x y z).cell (p := ⟨b, o + t * 6, none⟩) (by show b < _; omega)).trans e0
  have Q0 := fun x y z => ((bl x y z).cell (p := ⟨b2, o2 + t, none⟩) (by show b2 < _; omega)).trans q0
  have HQ := fun x y z => hide (hq.keep ((bl x y z).mono hB2))
  have hI := hide (idxR_lt hm.out)
  have HPH := hide hph
  have hs0 : w.heap.size + 1 + 1 + 1 ≤ w.heap.size + 1 + 1 + 1 := Nat.le_refl _
  clear hph hq
  have ST : ∀ x, EdgeMem (((w.alloc x).alloc (.cells #[.int .i64 0, .slice none 0 0] 198)).alloc (.cells #[.int .i64 t, .slice none 0 0] 198)) (w.heap.size + 1 + 1) t none 0 0 [] := fun x => ⟨by simp [go_sem], by simp [go_sem], fun o => by simp [go_sem], World.ownsRow_nil _ _ _ _⟩
  go_enter Tryd.func149, Tryd.ntmps149
  go_wp2_with (go_at_call 162; refine (index_any qa ps.length qc p ps L2 B2 _ (HQ _ _ _) rfl hpl hm).mono ?_; rintro e w1 ⟨rfl, rfl⟩)
  generalize hIe : idxR ps p = I at *
  have hbb := bl (.cells #[.int .i64 v, .slice (some ⟨b, o, none⟩) n c] 29) (.cells #[.int .i64 0, .slice none 0 0] 198) (.cells #[.int .i64 t, .slice none 0 0] 198)
  have hst := ST (.cells #[.int .i64 v, .slice (some ⟨b, o, none⟩) n c] 29)
  have r0 : ((w.alloc (.cells #[.int .i64 v, .slice (some ⟨b, o, none⟩) n c] 29)).alloc (.cells #[.int .i64 0, .slice none 0 0] 198)).alloc (.cells #[.int .i64 t, .slice none 0 0] 198) = ((w.alloc (.cells #[.int .i64 v, .slice (some ⟨b, o, none⟩) n c] 29)).alloc (.cells #[.int .i64 0, .slice none 0 0] 198)).alloc (.cells #[.int .i64 t, .slice none 0 0] 198) := rfl
  clear r0 ST bl HQ Q0 q0
  have hR0 : ∀ o, (((w.alloc (.cells #[.int .i64 v, .slice (some ⟨b, o, none⟩) n c] 29)).alloc (.cells #[.int .i64 0, .slice none 0 0] 198)).alloc (.cells #[.int .i64 t, .slice none 0 0] 198)).frozen? ⟨w.heap.size + 1, o, none⟩ = false := fun o => by simp [go_sem]
  go_loopw [28] (fun i wr => ∃ (k : Nat) (ta : Option Addr) (ct : Nat), k ≤ X.phis.length ∧ i = .int .i64 k ∧ Hid (Below w.heap.size w wr) ∧ w.heap.size + 1 + 1 + 1 ≤ wr.heap.size ∧ Hid (EdgeMem wr (w.heap.size + 1 + 1) t ta k ct (takesR I (X.phis.take k))) ∧ Hid (wr.cell? ⟨w.heap.size + 1, 0, none⟩ = some (.int .i64 0) ∧ wr.cell? ⟨w.heap.size + 1, 1, none⟩ = some (.slice none 0 0) ∧ ∀ o, wr.frozen? ⟨w.heap.size + 1, o, none⟩ = false)) (fun i _ => X.phis.length - (intOf i).toNat)
  case atStart => exact ⟨0, none, 0, Nat.zero_le _, rfl, hide hbb, by simp, hide (by simpa [takesR] using hst), hide ⟨by simp [go_sem], by simp [go_sem], fun o => by simp [go_sem]⟩⟩
  case round =>
    obtain ⟨k, ta, ct, hk, rfl, hw, hws, hem, hrr⟩ := hrel
    clear hbb hst hR0 E0 e0
    by_cases hkl : k < X.phis.length
    · obtain ⟨b', o', rfl, ⟨_, hb'⟩, aa, cc, g0, g1, har⟩ := HPH.out k hkl
      obtain ⟨⟨d0, d1⟩, hal, hav⟩ := phOk_facts (hok.out k hkl)
      have hnx : takesR I (X.phis.take (k + 1)) = takesR I (X.phis.take k) ++ [(X.phis[k].dst, X.phis[k].args.getD I 0)] := by unfold takesR; rw [take_next _ _ hkl, List.map_append]; rfl
      have hIa : I < X.phis[k].args.length := by have := hI.out; omega
      have hag : X.phis[k].args.getD I 0 = X.phis[k].args[I] := by simp [hIa]
      rw [hag] at hnx
      obtain ⟨b3, o3, rfl, ⟨_, hb3⟩, h3⟩ := har I hIa
      have G0 := (hw.out.cell (p := ⟨b', o' + k * 2, none⟩) (by show b' < _; omega)).trans g0
      have G1 := (hw.out.cell (p := ⟨b', o' + k * 2 + 1, none⟩) (by show b' < _; omega)).trans g1
      have G3 := (hw.out.cell (p := ⟨b3, o3 + I, none⟩) (by show b3 < _; omega)).trans h3
      have HNX := hide hnx
      have hal2 : X.phis[k].args.length ≤ 1048576 := by omega
      clear hnx hag har hav hal h3 g0 g1
      generalize X.phis[k].args[I] = AQ at *
      generalize X.phis[k].args.length = al at *
      generalize X.phis[k].dst = dst at *
      generalize takesR I (X.phis.take k) = TS at *
      have c3 : ∀ x y, (((wr.alloc x).drew).alloc y).cell? ⟨b3, o3 + I, none⟩ = some (.int .i64 AQ) := fun x y => ((balloc (balloc (Below.refl wr.heap.size wr) x).drew y).cell (p := ⟨b3, o3 + I, none⟩) (by show b3 < _; omega)).trans G3
      have m1 : ∀ x y, (((wr.alloc x).drew).alloc y).cell? ⟨w.heap.size + 1 + 1, 1, none⟩ = some (.slice ta k ct) := fun x y => ((balloc (balloc (Below.refl wr.heap.size wr) x).drew y).cell (p := ⟨w.heap.size + 1 + 1, 1, none⟩) (by show w.heap.size + 1 + 1 < _; omega)).trans hem.out.c1
      have mz : ∀ x y o, (((wr.alloc x).drew).alloc y).frozen? ⟨w.heap.size + 1 + 1, o, none⟩ = false := fun x y o => ((balloc (balloc (Below.refl wr.heap.size wr) x).drew y).frozen (p := ⟨w.heap.size + 1 + 1, o, none⟩) (by show w.heap.size + 1 + 1 < _; omega)).trans (hem.out.fz o)
      have m1' : ∀ x, ((wr.alloc x).drew).cell? ⟨w.heap.size + 1 + 1, 1, none⟩ = some (.slice ta k ct) := fun x => (((balloc (Below.refl wr.heap.size wr) x).drew).cell (p := ⟨w.heap.size + 1 + 1, 1, none⟩) (by show w.heap.size + 1 + 1 < _; omega)).trans hem.out.c1
      have m2 : ∀ x y, ((wr.alloc x).alloc y).cell? ⟨w.heap.size + 1 + 1, 1, none⟩ = some (.slice ta k ct) := m1
      have m3 : ∀ x, (wr.alloc x).cell? ⟨w.heap.size + 1 + 1, 1, none⟩ = some (.slice ta k ct) := m1'
      have HOW : ∀ x y, (((wr.alloc x).drew).alloc y).ownsRow (w.heap.size + 1 + 1 + 1) 234 2 (.slice ta k ct) k (takeVs TS) := fun x y => own_keep2 hem.out.own (fun b e => ((balloc (balloc (Below.refl wr.heap.size wr) x).drew y).block b (hem.out.own.lt b e).2))
      have hno : ∀ q, wr.heap.size ≤ q → some q ≠ (Value.slice ta k ct).ownBlock := fun q hq e => by have := (hem.out.own.lt q e.symm).2; omega
      have hno3 : ∀ q, q < w.heap.size + 1 + 1 + 1 → some q ≠ (Value.slice ta k ct).ownBlock := fun q hq e => by have := (hem.out.own.lt q e.symm).1; omega
      have HP : ∀ (x y : Obj) (g cap : Nat) (w1 : World), w1.ownsRow (w.heap.size + 1 + 1 + 1) 234 2 (.slice (some ⟨g, 0, none⟩) (k + 1) cap) (k + 1) (takeVs TS ++ [.int .i64 dst, .int .i64 AQ]) → (((wr.alloc x).drew).alloc y).grownBy w1 (Value.slice ta k ct).ownBlock →
          EdgeMem (w1.setCell ⟨w.heap.size + 1 + 1, 1, none⟩ (.slice (some ⟨g, 0, none⟩) (k + 1) cap)) (w.heap.size + 1 + 1) t (some ⟨g, 0, none⟩) (k + 1) cap (TS ++ [(dst, AQ)]) ∧ Below w.heap.size w w1 ∧ w1.heap[w.heap.size + 1]? = wr.heap[w.heap.size + 1]? ∧ wr.heap.size ≤ w1.heap.size := fun x y g cap w1 ho hg => by
        have hb := balloc (balloc (Below.refl wr.heap.size wr) x).drew y
        have hgs := hg.size
        have hbs := hb.size
        exact ⟨hem.out.push hb (by omega) ho hg, grown_below (hw.out.trans (hb.mono (by omega))) hg (HOW x y) (by omega) (by omega), (hg.block _ (by omega) (hno3 _ (by omega))).trans (hb.block _ (by omega)), by omega⟩
      have n1 : wr.heap.size ≠ b3 := by omega
      have n2 : b3 ≠ wr.heap.size := by omega
      have n3 : w.heap.size + 1 + 1 ≠ b3 := by omega
      have n4 : b3 ≠ w.heap.size + 1 + 1 := by omega
      have n5 : w.heap.size + 1 + 1 ≠ wr.heap.size := by omega
      have n6 : wr.heap.size ≠ w.heap.size + 1 + 1 := by omega
      have hIl := hI.out
      go_wp2
      refine wp_region_held_drew (S := (fun w' => w'.cell? ⟨wr.heap.size, 0, none⟩ = some (.int .i64 dst) ∧ w'.cell? ⟨wr.heap.size, 1, none⟩ = some (.slice (some ⟨b3, o3, none⟩) al cc) ∧ w'.cell? ⟨b3, o3 + I, none⟩ = some (.int .i64 AQ))) (by kernel_rfl) (by (try dsimp only); go_keep) (fun hHeld => ?_)
      refine wpAnyH_take (i := 0) (v := ?_) rfl (by kernel_rfl) (by kernel_rfl) (by kernel_rfl) (fun _ _ _ h => h) (Or.inl ⟨by rfl, ?_⟩) (by assumption) ?_
      rotate_left
      · intro w hSw; (try dsimp only at hSw); go_simp; try with_reducible rfl
      simp only [Act.put, List.getElem_toArray, List.getElem_cons_zero, List.setIfInBounds_toArray, List.set_cons_zero, List.set_cons_succ]
      refine wpAnyH_take (i := 2) (v := ?_) rfl (by kernel_rfl) (by kernel_rfl) (by kernel_rfl) (fun _ _ _ h => h) (Or.inl ⟨by rfl, ?_⟩) (by assumption) ?_
      rotate_left
      · intro w hSw; (try dsimp only at hSw); go_simp; try with_reducible rfl
      simp only [Act.put, List.getElem_toArray, List.getElem_cons_zero, List.getElem_cons_succ, List.setIfInBounds_toArray, List.set_cons_zero, List.set_cons_succ]
      refine wpAnyH_take (i := 3) (v := ?_) rfl (by kernel_rfl) (by kernel_rfl) (by kernel_rfl) (fun _ _ _ h => h) (Or.inl ⟨by rfl, ?_⟩) (by assumption) ?_
      rotate_left
      · intro w hSw; (try dsimp only at hSw); go_simp; try with_reducible rfl
      simp only [Act.put, List.getElem_toArray, List.getElem_cons_zero, List.getElem_cons_succ, List.setIfInBounds_toArray, List.set_cons_zero, List.set_cons_succ]
      refine wpAnyH_take (i := 4) (v := ?_) rfl (by kernel_rfl) (by kernel_rfl) (by kernel_rfl) (fun _ _ _ h => h) (Or.inl ⟨by rfl, ?_⟩) (by assumption) ?_
      rotate_left
      · intro w hSw; (try dsimp only at hSw); go_simp; try with_reducible rfl
      simp only [Act.put, List.getElem_toArray, List.getElem_cons_zero, List.getElem_cons_succ, List.setIfInBounds_toArray, List.set_cons_zero, List.set_cons_succ]
      refine wpAnyH_take (i := 5) (v := ?_) rfl (by kernel_rfl) (by kernel_rfl) (by kernel_rfl) (fun _ _ _ h => h) (Or.inl ⟨by rfl, ?_⟩) (by assumption) ?_
      rotate_left
      · intro w hSw; (try dsimp only at hSw); go_simp; try with_reducible rfl
      simp only [Act.put, List.getElem_toArray, List.getElem_cons_zero, List.getElem_cons_succ, List.setIfInBounds_toArray, List.set_cons_zero, List.set_cons_succ]
      refine wpAnyH_take (i := 6) (v := ?_) rfl (by kernel_rfl) (by kernel_rfl) (by kernel_rfl) (fun _ _ _ h => h) (Or.inl ⟨by rfl, ?_⟩) (by assumption) ?_
      rotate_left
      · intro w hSw; (try dsimp only at hSw); go_simp; try with_reducible rfl
      simp only [Act.put, List.getElem_toArray, List.getElem_cons_zero, List.getElem_cons_succ, List.setIfInBounds_toArray, List.set_cons_zero, List.set_cons_succ]
      refine wpAnyH_take (i := 7) (v := ?_) rfl (by kernel_rfl) (by kernel_rfl) (by kernel_rfl) (fun _ _ _ h => h) (Or.inl ⟨by rfl, ?_⟩) (by assumption) ?_
      rotate_left
      · intro w hSw; (try dsimp only at hSw); go_simp; try with_reducible rfl
      simp only [Act.put, List.getElem_toArray, List.getElem_cons_zero, List.getElem_cons_succ, List.setIfInBounds_toArray, List.set_cons_zero, List.set_cons_succ]
      refine wpAnyH_take (i := 8) (v := ?_) rfl (by kernel_rfl) (by kernel_rfl) (by kernel_rfl) (fun _ _ _ h => h) (Or.inl ⟨by rfl, ?_⟩) (by assumption) ?_
      rotate_left
      · intro w hSw; (try dsimp only at hSw); go_simp; try with_reducible rfl
      simp only [Act.put, List.getElem_toArray, List.getElem_cons_zero, List.getElem_cons_succ, List.setIfInBounds_toArray, List.set_cons_zero, List.set_cons_succ]
      refine wpAnyH_take (i := 9) (v := ?_) rfl (by kernel_rfl) (by kernel_rfl) (by kernel_rfl) (fun _ _ _ h => h) (Or.inl ⟨by rfl, ?_⟩) (by assumption) ?_
      rotate_left
      · intro w hSw; (try dsimp only at hSw); go_simp; try with_reducible rfl
      simp only [Act.put, List.getElem_toArray, List.getElem_cons_zero, List.getElem_cons_succ, List.setIfInBounds_toArray, List.set_cons_zero, List.set_cons_succ]
      refine wpAnyH_ready (rs := [1, 10]) (by kernel_rfl) (by simp) ?_
      refine (AllReadyH.cons rfl (fun K hK => ?_) (AllReadyH.cons rfl (fun K hK => ?_) AllReadyH.nil))
      · skip
        go_simp
        refine hK.out _ _ (by first | exact hHeld | ((try dsimp only); go_keep)) (fun hHeld => ?_)
        clear hK
        try simp only [Act.put, List.getElem_toArray, List.getElem_cons_zero, List.getElem_cons_succ, List.setIfInBounds_toArray, List.set_cons_zero, List.set_cons_succ]
        refine wpAnyH_ready (rs := [10]) (by kernel_rfl) (by simp) ?_
        refine AllReadyH.cons rfl (fun K hK => ?_) AllReadyH.nil
        go_simp
        refine hK.out _ _ (by first | exact hHeld | ((try dsimp only); go_keep)) (fun hHeld => ?_)
        clear hK
        try simp only [Act.put, List.getElem_toArray, List.getElem_cons_zero, List.getElem_cons_succ, List.setIfInBounds_toArray, List.set_cons_zero, List.set_cons_succ]
        refine wpAnyH_ready (rs := [11]) (by kernel_rfl) (by simp) ?_
        refine AllReadyH.cons rfl (fun K hK => ?_) AllReadyH.nil
        refine step_append_lies _ rfl (.tmp 33) (.tmp 42) 196 rfl (w.heap.size + 1 + 1 + 1) 234 i0 (.agg #[.int .i64 0, .int .i64 0]) 2 16 Tryd.underlying196 hi0 hz0 hz1 hz2 rfl (by decide) (.slice ta k ct) k (takeVs TS) (by simp [Act.eval]) (HOW _ _) ⟨wr.heap.size + 1, 0, none⟩ 1 1 [.int .i64 dst, .int .i64 AQ] (by simp [Act.eval]) rfl ?_ (by intro u hu; simp at hu; rcases hu with rfl | rfl <;> rfl) (by decide) (by unfold maxLen; omega) (by omega) (by simp; omega) (wr.heap.size + 1 + 1) (by simp) ?_
        · intro j u hj
          match j, hj with
          | 0, hj => simp at hj; subst hj; simp [Addr.add, go_sem]
          | 1, hj => simp at hj; subst hj; simp [Addr.add, go_sem]
        intro g cap w1 hown hgrow hat hlt
        have HN := hide (HP _ _ g cap w1 hown hgrow)
        obtain ⟨f0, -⟩ := far10' hgrow (k := wr.heap.size) (by simp <;> omega) (hno _ (by omega))
        obtain ⟨f3, -⟩ := far10' hgrow (k := b3) (by simp <;> omega) (hno3 _ (by omega))
        obtain ⟨f1, e1⟩ := far10' hgrow (k := w.heap.size + 1 + 1) (by simp <;> omega) (hno3 _ (by omega))
        have kx : w1.cell? ⟨wr.heap.size, 0, none⟩ = some (.int .i64 dst) := (f0 0).trans (by simp [go_sem])
        have ky : w1.cell? ⟨wr.heap.size, 1, none⟩ = some (.slice (some ⟨b3, o3, none⟩) al cc) := (f0 1).trans (by simp [go_sem])
        have kz : w1.cell? ⟨b3, o3 + I, none⟩ = some (.int .i64 AQ) := (f3 _).trans (c3 _ _)
        have k1 : w1.cell? ⟨w.heap.size + 1 + 1, 1, none⟩ = some (.slice ta k ct) := (f1 1).trans (m1 _ _)
        have z1 : ∀ o, w1.frozen? ⟨w.heap.size + 1 + 1, o, none⟩ = false := fun o => (e1 o).trans (mz _ _ o)
        clear f0 f1 f3 e1 hown hgrow hat hlt
        refine hK.out _ _ (by first | exact hHeld | ((try dsimp only); go_keep)) (fun hHeld => ?_)
        clear hK
        try simp only [Act.put, List.getElem_toArray, List.getElem_cons_zero, List.getElem_cons_succ, List.setIfInBounds_toArray, List.set_cons_zero, List.set_cons_succ]
        refine wpAnyH_take (i := 12) (v := ?_) rfl (by kernel_rfl) (by kernel_rfl) (by kernel_rfl) (fun _ _ _ h => h) (Or.inl ⟨by rfl, ?_⟩) (by assumption) ?_
        rotate_left
        · intro w hSw; (try dsimp only at hSw); go_simp; try with_reducible rfl
        simp only [Act.put, List.getElem_toArray, List.getElem_cons_zero, List.getElem_cons_succ, List.setIfInBounds_toArray, List.set_cons_zero, List.set_cons_succ]
        refine wpAnyH_ready (rs := [13]) (by kernel_rfl) (by simp) ?_
        refine AllReadyH.cons rfl (fun K hK => ?_) AllReadyH.nil
        go_simp
        refine hK.out _ _ (by first | exact hHeld | ((try dsimp only); go_keep)) (fun hHeld => ?_)
        clear hK
        try simp only [Act.put, List.getElem_toArray, List.getElem_cons_zero, List.getElem_cons_succ, List.setIfInBounds_toArray, List.set_cons_zero, List.set_cons_succ]
        refine wpAnyH_done (by kernel_rfl) ?_ _
        go_wp2
        have kk : (w1.setCell ⟨w.heap.size + 1 + 1, 1, none⟩ (.slice (some ⟨g, 0, none⟩) (k + 1) cap)).heap[w.heap.size + 1]? = wr.heap[w.heap.size + 1]? := (Below.heap_setCell _ _ _ _ (by show w.heap.size + 1 ≠ w.heap.size + 1 + 1; omega)).trans HN.out.2.2.1
        exact ⟨⟨k + 1, some ⟨g, 0, none⟩, cap, by omega, by go_num, hide (HN.out.2.1.setCell (by show w.heap.size ≤ w.heap.size + 1 + 1; omega) _), by have := HN.out.2.2.2; simp only [size_setCell]; omega, hide (by rw [HNX.out]; exact HN.out.1), hide ⟨(cell_of kk).trans hrr.out.1, (cell_of kk).trans hrr.out.2.1, fun o => (World.frozen?_of_block kk).trans (hrr.out.2.2 o)⟩⟩, by simp [intOf]; omega⟩
      · skip
        go_simp
        refine hK.out _ _ (by first | exact hHeld | ((try dsimp only); go_keep)) (fun hHeld => ?_)
        clear hK
        try simp only [Act.put, List.getElem_toArray, List.getElem_cons_zero, List.getElem_cons_succ, List.setIfInBounds_toArray, List.set_cons_zero, List.set_cons_succ]
        refine wpAnyH_ready (rs := [1]) (by kernel_rfl) (by simp) ?_
        refine AllReadyH.cons rfl (fun K hK => ?_) AllReadyH.nil
        go_simp
        refine hK.out _ _ (by first | exact hHeld | ((try dsimp only); go_keep)) (fun hHeld => ?_)
        clear hK
        try simp only [Act.put, List.getElem_toArray, List.getElem_cons_zero, List.getElem_cons_succ, List.setIfInBounds_toArray, List.set_cons_zero, List.set_cons_succ]
        refine wpAnyH_ready (rs := [11]) (by kernel_rfl) (by simp) ?_
        refine AllReadyH.cons rfl (fun K hK => ?_) AllReadyH.nil
        refine step_append_lies _ rfl (.tmp 33) (.tmp 42) 196 rfl (w.heap.size + 1 + 1 + 1) 234 i0 (.agg #[.int .i64 0, .int .i64 0]) 2 16 Tryd.underlying196 hi0 hz0 hz1 hz2 rfl (by decide) (.slice ta k ct) k (takeVs TS) (by simp [Act.eval]) (HOW _ _) ⟨wr.heap.size + 1, 0, none⟩ 1 1 [.int .i64 dst, .int .i64 AQ] (by simp [Act.eval]) rfl ?_ (by intro u hu; simp at hu; rcases hu with rfl | rfl <;> rfl) (by decide) (by unfold maxLen; omega) (by omega) (by simp; omega) (wr.heap.size + 1 + 1) (by simp) ?_
        · intro j u hj
          match j, hj with
          | 0, hj => simp at hj; subst hj; simp [Addr.add, go_sem]
          | 1, hj => simp at hj; subst hj; simp [Addr.add, go_sem]
        intro g cap w1 hown hgrow hat hlt
        have HN := hide (HP _ _ g cap w1 hown hgrow)
        obtain ⟨f0, -⟩ := far10' hgrow (k := wr.heap.size) (by simp <;> omega) (hno _ (by omega))
        obtain ⟨f3, -⟩ := far10' hgrow (k := b3) (by simp <;> omega) (hno3 _ (by omega))
        obtain ⟨f1, e1⟩ := far10' hgrow (k := w.heap.size + 1 + 1) (by simp <;> omega) (hno3 _ (by omega))
        have kx : w1.cell? ⟨wr.heap.size, 0, none⟩ = some (.int .i64 dst) := (f0 0).trans (by simp [go_sem])
        have ky : w1.cell? ⟨wr.heap.size, 1, none⟩ = some (.slice (some ⟨b3, o3, none⟩) al cc) := (f0 1).trans (by simp [go_sem])
        have kz : w1.cell? ⟨b3, o3 + I, none⟩ = some (.int .i64 AQ) := (f3 _).trans (c3 _ _)
        have k1 : w1.cell? ⟨w.heap.size + 1 + 1, 1, none⟩ = some (.slice ta k ct) := (f1 1).trans (m1 _ _)
        have z1 : ∀ o, w1.frozen? ⟨w.heap.size + 1 + 1, o, none⟩ = false := fun o => (e1 o).trans (mz _ _ o)
        clear f0 f1 f3 e1 hown hgrow hat hlt
        refine hK.out _ _ (by first | exact hHeld | ((try dsimp only); go_keep)) (fun hHeld => ?_)
        clear hK
        try simp only [Act.put, List.getElem_toArray, List.getElem_cons_zero, List.getElem_cons_succ, List.setIfInBounds_toArray, List.set_cons_zero, List.set_cons_succ]
        refine wpAnyH_take (i := 12) (v := ?_) rfl (by kernel_rfl) (by kernel_rfl) (by kernel_rfl) (fun _ _ _ h => h) (Or.inl ⟨by rfl, ?_⟩) (by assumption) ?_
        rotate_left
        · intro w hSw; (try dsimp only at hSw); go_simp; try with_reducible rfl
        simp only [Act.put, List.getElem_toArray, List.getElem_cons_zero, List.getElem_cons_succ, List.setIfInBounds_toArray, List.set_cons_zero, List.set_cons_succ]
        refine wpAnyH_ready (rs := [13]) (by kernel_rfl) (by simp) ?_
        refine AllReadyH.cons rfl (fun K hK => ?_) AllReadyH.nil
        go_simp
        refine hK.out _ _ (by first | exact hHeld | ((try dsimp only); go_keep)) (fun hHeld => ?_)
        clear hK
        try simp only [Act.put, List.getElem_toArray, List.getElem_cons_zero, List.getElem_cons_succ, List.setIfInBounds_toArray, List.set_cons_zero, List.set_cons_succ]
        refine wpAnyH_done (by kernel_rfl) ?_ _
        go_wp2
        have kk : (w1.setCell ⟨w.heap.size + 1 + 1, 1, none⟩ (.slice (some ⟨g, 0, none⟩) (k + 1) cap)).heap[w.heap.size + 1]? = wr.heap[w.heap.size + 1]? := (Below.heap_setCell _ _ _ _ (by show w.heap.size + 1 ≠ w.heap.size + 1 + 1; omega)).trans HN.out.2.2.1
        exact ⟨⟨k + 1, some ⟨g, 0, none⟩, cap, by omega, by go_num, hide (HN.out.2.1.setCell (by show w.heap.size ≤ w.heap.size + 1 + 1; omega) _), by have := HN.out.2.2.2; simp only [size_setCell]; omega, hide (by rw [HNX.out]; exact HN.out.1), hide ⟨(cell_of kk).trans hrr.out.1, (cell_of kk).trans hrr.out.2.1, fun o => (World.frozen?_of_block kk).trans (hrr.out.2.2 o)⟩⟩, by simp [intOf]; omega⟩
    · have hke : k = X.phis.length := by omega
      subst hke
      obtain ⟨m0, m1, mz, mo⟩ := hem.out
      obtain ⟨r0, r1, rz⟩ := hrr.out
      have HO := fun x y => own_keep2 (w1 := (wr.setCell ⟨w.heap.size + 1, 0, none⟩ x).setCell ⟨w.heap.size + 1, 1, none⟩ y) mo (fun b e => by have := (mo.lt b e).1; rw [Below.heap_setCell _ _ _ _ (by dsimp only; omega), Below.heap_setCell _ _ _ _ (by dsimp only; omega)])
      have HOH := hide HO
      clear HO mo
      go_wp2
      refine bodyPost_ret (v := .agg #[.int .i64 t, .slice ta X.phis.length ct]) (by simp [results, Tryd.results149, go_sem, r0, r1]) rfl ⟨ta, ct, rfl, (hw.out.setCell (by show w.heap.size ≤ w.heap.size + 1; omega) _).setCell (by show w.heap.size ≤ w.heap.size + 1; omega) _, ?_⟩
      have h := takes_owned (HOH.out (.int .i64 t) (.slice ta X.phis.length ct))
      rw [List.take_length] at h
      rw [hIe]
      exact h.mono (by omega) (Nat.le_refl _)
end Go.Proofs.YtdcdgopblbmgoaaDoor
