import Derived.Test.YthgikffcdgpgiaaGreatDoorMB1
import Derived.Test.YthgikffcdgpgiaaGreatDoorW5
import Derived.Test.YthgikffcdgpgiaaGreatDoorVP0
import Derived.Test.YthgikffcdgpgiaaGreatDoorW10
namespace Go.Proofs.YthgikffcdgpgiaaGreatDoor
open Go.RowKit
def SmX (a b : World) : Prop := a = b
def LoS (xs : List Blk) (v b : Nat) (w : World) (e : Ending) (w' : World) : Prop := ∃ s : Bool, e = .returned (.bool s) ∧ (s = true ↔ Lou xs v b) ∧ Below w.heap.size w w'
set_option maxHeartbeats 4000000 in
set_option maxRecDepth 100000 in
theorem liveOut_any (V v n c bf of g b : Nat) (xs : List Blk) (lv : Nat → Bool) (w : World) (hF : Hid (FactsAt w (some ⟨bf, of, none⟩) xs)) (hx : Hid (n = xs.length)) (ho : Hid (OkL V xs)) (hb : b < n) (hr : Hid (w.rowIs g 4 n (fun z => .bool (lv z)))) (hlv : Hid (∀ z, z < n → (lv z = true ↔ Lbe xs v z))) :
    Calls Tryz.prog 49 #[.slice (some ⟨bf, of, none⟩) n c, .slice (some ⟨g, 0, none⟩) n n, .int .i64 (v : Int), .int .i64 (b : Int)] w fun e w' => LoS xs v b w e w' := by
  have hn : n ≤ 1000 := by have := hx.out; have := ho.out.okf.n2; omega
  have hbx : b < xs.length := by have := hx.out; omega
  obtain ⟨a0, n0, a1, n1, a2, n2, a3, n3, a4, n4, a5, n5, c0, c1, c2, c3, c4, c5, hbf, x0, _, x2, _, _, _, hn0', _, hn2', _, _, hfc⟩ := FactsAt.row ho.out hF.out (Below.refl w.heap.size w) hbx
  have HT := hide hfc.t
  have HE := hide (l1Has_big a2 n2 c2 (v : Int) (edgesM xs b) 0 w.heap.size w (hide hfc.e.2) (hide hfc.e.1) (by omega))
  clear hfc
  cases hed : hasI (edgesM xs b) (v : Int) with
  | true =>
    have HLO : Hid (Lou xs v b) := hide (Or.inl (hasI_iff.1 hed))
    rw [hed] at HE
    clear hed
    go_enter Tryz.func49, Tryz.ntmps49
    go_wp2_with fail
    refine HE.out.mono ?_
    rintro e w3 ⟨rfl, hw3⟩
    have e3 := hw3.symm
    subst e3
    go_wp2_with fail
    go_ret
    exact ⟨true, rfl, ⟨fun _ => HLO.out, fun _ => rfl⟩, Below.refl _ _⟩
  | false =>
    have HNE : Hid (¬ (v : Int) ∈ edgesM xs b) := hide (fun h => by rw [hasI_iff.2 h] at hed; cases hed)
    rw [hed] at HE
    clear hed
    go_enter Tryz.func49, Tryz.ntmps49
    go_wp2_with fail
    refine HE.out.mono ?_
    rintro e w3 ⟨rfl, hw3⟩
    have e3 := hw3.symm
    subst e3
    clear HE
    go_wp2_with fail
    go_loopw [9] (fun i wr => ∃ j : Nat, j ≤ n0 ∧ i = .int .i64 j ∧ Hid (SmX wr w) ∧ Hid (∀ r, r < j → ∀ t, (tgN xs b)[r]? = some t → ¬ Lin xs v t)) (fun i _ => n0 - (intOf i).toNat)
    case atStart => exact ⟨0, Nat.zero_le _, rfl, hide rfl, hide (fun r hr => absurd hr (by omega))⟩
    case round =>
      obtain ⟨j, hj, rfl, HSW, HNO⟩ := hrel
      have esw : w = wr := Eq.symm HSW.out
      clear HSW
      subst esw
      by_cases hjn : j < n0
      · have hjt : j < (tgN xs b).length := by rw [← HT.out.1]; exact hjn
        have hjI : j < (natI (tgN xs b)).length := by simp [natI]; exact hjt
        obtain ⟨bt, ot, rfl, ⟨_, hbt⟩, hct⟩ := HT.out.2 j hjI
        have ect : (natI (tgN xs b))[j] = (((tgN xs b)[j] : Nat) : Int) := by simp [natI]
        rw [ect] at hct
        have htg := List.getElem_mem hjt
        have htx := ho.out.okf.tg _ hbx _ htg
        have HGE : Hid ((tgN xs b)[j]? = some (tgN xs b)[j]) := hide (List.getElem?_eq_getElem hjt)
        obtain ⟨t, ht⟩ : ∃ t, t = (tgN xs b)[j] := ⟨_, rfl⟩
        rw [← ht] at hct htg htx HGE
        have HTG := hide htg
        have htn : t < n := by have := hx.out; omega
        have kl := hr.out.cell htn
        have HLV := hide (hlv.out t htn)
        obtain ⟨d0, m0, d1, m1, d2, m2, d3, m3, d4, m4, d5, m5, f0, f1, f2, f3, f4, f5, _, _, t1, _, _, _, _, _, hm1, _, _, _, hft⟩ := FactsAt.row ho.out hF.out (Below.refl w.heap.size w) htx
        have HHP := hide (l1Has_any d1 m1 f1 (v : Int) (phL xs t) 0 w.heap.size w (hide hft.p.2) (hide hft.p.1) (by omega))
        have HPB : Hid (phiB xs t v = hasI (phL xs t) (v : Int)) := hide (phiB_eq xs t v)
        clear htg ht ect hft
        have HNN : Hid (¬ Lin xs v t → ∀ r, r < j + 1 → ∀ t, (tgN xs b)[r]? = some t → ¬ Lin xs v t) := hide (fun h r hr z hz => by
          by_cases e : r = j
          · subst e
            rw [HGE.out] at hz
            injection hz with hz
            subst hz
            exact h
          · exact HNO.out r (by omega) z hz)
        cases hlt' : lv t with
        | false =>
          rw [hlt'] at kl
          have HNX : Hid (∀ r, r < j + 1 → ∀ t, (tgN xs b)[r]? = some t → ¬ Lin xs v t) := hide (HNN.out (fun h => by rw [HLV.out.2 h.2] at hlt'; cases hlt'))
          clear hlt'
          go_wp2_with fail
          exact ⟨⟨j + 1, by omega, by go_num, hide rfl, HNX⟩, by simp [intOf]; omega⟩
        | true =>
          rw [hlt'] at kl
          have HLB : Hid (Lbe xs v t) := hide (HLV.out.1 hlt')
          clear hlt'
          go_wp2_with fail
          refine HHP.out.mono ?_
          rintro e w8 ⟨rfl, hw8⟩
          have e8 := hw8.symm
          subst e8
          cases hph : hasI (phL xs t) (v : Int) with
          | true =>
            have HNX : Hid (∀ r, r < j + 1 → ∀ t, (tgN xs b)[r]? = some t → ¬ Lin xs v t) := hide (HNN.out (fun h => by have := h.1; rw [HPB.out, hph] at this; cases this))
            clear hph
            go_wp2_with fail
            refine ⟨?_, by simp [intOf]; omega⟩
            first
              | exact ⟨j + 1, by omega, by go_num, hide rfl, HNX⟩
              | ((repeat apply Exists.intro); refine ⟨?_, rfl⟩; exact ⟨j + 1, by omega, by go_num, hide rfl, HNX⟩)
          | false =>
            have HLO : Hid (Lou xs v b) := hide (Or.inr ⟨t, HTG.out, by rw [HPB.out]; exact hph, HLB.out⟩)
            clear hph
            go_wp2_with fail
            go_ret
            exact ⟨true, rfl, ⟨fun _ => HLO.out, fun _ => rfl⟩, Below.refl _ _⟩
      · have HNX : Hid (¬ Lou xs v b) := hide (by
          rintro (h | ⟨t, ht, h⟩)
          · exact HNE.out h
          · obtain ⟨r, hr, e⟩ := List.getElem_of_mem ht
            exact HNO.out r (by have := HT.out.1; omega) t (by rw [List.getElem?_eq_getElem hr, e]) h)
        go_wp2_with fail
        go_ret
        exact ⟨false, rfl, ⟨fun h => (by cases h), fun h => absurd h HNX.out⟩, Below.refl _ _⟩
end Go.Proofs.YthgikffcdgpgiaaGreatDoor

namespace Go.Proofs.YthgikffcdgpgiaaGreatDoor
open Go.RowKit
structure DbS (w : World) (base : Nat) (G : Bool → Nat) (n : Nat) (P : Bool → Nat → List Int) (U : Bool → Nat → Value) : Prop where
  g : G false < base ∧ G true < base ∧ G false ≠ G true
  row : ∀ s, w.rowIs (G s) 62 n (U s)
  own : ∀ s i, i < n → w.ownsRow base 2 1 (U s i) (P s i).length ((P s i).map (Value.int .i64))
  dj : ∀ s i s' j, i < n → j < n → (s, i) ≠ (s', j) → (U s i).ownBlock = none ∨ (U s i).ownBlock ≠ (U s' j).ownBlock
section
variable {w w' w1 : World} {base n : Nat} {G : Bool → Nat} {P P' : Bool → Nat → List Int} {U : Bool → Nat → Value}
theorem DbS.lt (h : DbS w base G n P U) (s : Bool) : G s < base := by
  cases s
  · exact h.g.1
  · exact h.g.2.1
theorem DbS.below (h : DbS w base G n P U) (k : Below w.heap.size w w') : DbS w' base G n P U := by
  refine ⟨h.g, fun s => (h.row s).of_block (k.block _ (h.row s).lt), fun s i hi => ?_, h.dj⟩
  refine (h.own s i hi).kept (row := none) ⟨k.os, k.tape, k.output, k.size, fun b hb _ => k.block b hb⟩ ?_
  cases (U s i).ownBlock <;> simp
theorem DbS.congr (h : DbS w base G n P U) (e : ∀ s i, i < n → P s i = P' s i) : DbS w base G n P' U :=
  ⟨h.g, h.row, fun s i hi => by rw [← e s i hi]; exact h.own s i hi, h.dj⟩
theorem DbS.step (h : DbS w base G n P U) {s : Bool} {t : Nat} (ht : t < n) (x : Int) (v' : Value) (hg : w.grownBy w1 (U s t).ownBlock)
    (ho : w1.ownsRow base 2 1 v' ((P s t).length + 1) ((P s t).map (Value.int .i64) ++ [.int .i64 x])) (hat : v'.ownBlock = (U s t).ownBlock ∨ v'.ownBlock = some w.heap.size) :
    DbS (w1.setCell ⟨G s, t, none⟩ v') base G n (fun s' i => if (s', i) = (s, t) then P s t ++ [x] else P s' i) (fun s' i => if (s', i) = (s, t) then v' else U s' i) := by
  have hr : ∀ s', w1.rowIs (G s') 62 n (U s') := fun s' => (h.row s').of_block (hg.block _ (h.row s').lt (fun e => by have := ((h.own s t ht).lt _ e.symm).1; have := h.lt s'; omega))
  have fresh : ∀ s' m, m < n → (U s' m).ownBlock = none ∨ (U s' m).ownBlock ≠ some w.heap.size := fun s' m hm => by
    by_cases e : (U s' m).ownBlock = some w.heap.size
    · have := ((h.own s' m hm).lt _ e).2; omega
    · exact Or.inr e
  refine ⟨h.g, fun s' => ?_, fun s' i hi => ?_, fun s1 i s2 j hi hj hij => ?_⟩
  · by_cases e : s' = s
    · subst e
      exact ((hr s').set t v').congr (fun i _ => by by_cases e2 : i = t <;> simp [e2])
    · refine ((hr s').setOther (a := ⟨G s, t, none⟩) (fun e2 => ?_) v').congr (fun i _ => by simp [e])
      have e2 : G s' = G s := e2
      cases s' <;> cases s <;> first | exact e rfl | exact h.g.2.2 e2 | exact h.g.2.2 e2.symm
  · refine ownsRow_setCell_below ?_ (h.lt s) _
    by_cases e : (s', i) = (s, t)
    · simp only [e, if_true, List.length_append, List.length_cons, List.length_nil, List.map_append, List.map_cons, List.map_nil]
      exact ho
    · simp only [e, if_false]
      exact (h.own s' i hi).kept hg (h.dj s' i s t hi ht e)
  · by_cases e1 : (s1, i) = (s, t)
    · have e2 : ¬ (s2, j) = (s, t) := fun e => hij (e1.trans e.symm)
      simp only [e1, if_true, e2, if_false]
      rcases hat with q | q
      · rw [q]
        exact h.dj s t s2 j ht hj (fun e => e2 e.symm)
      · right
        rw [q]
        intro hh
        rcases fresh s2 j hj with f | f
        · rw [f] at hh; cases hh
        · exact f hh.symm
    · simp only [e1, if_false]
      by_cases e2 : (s2, j) = (s, t)
      · simp only [e2, if_true]
        rcases hat with q | q
        · rw [q]; exact h.dj s1 i s t hi ht e1
        · rw [q]; exact fresh s1 i hi
      · simp only [e2, if_false]
        exact h.dj s1 i s2 j hi hj hij
/-- A row of another type is none of them. -/
theorem DbS.other (h : DbS w base G n P U) {b T m : Nat} {f : Nat → Value} (hb : w.rowIs b T m f) (hT : T ≠ 2) {s : Bool} {i : Nat} (hi : i < n) : (U s i).ownBlock ≠ some b := fun e => by
  obtain ⟨c, h1, _⟩ := hb
  rcases (h.own s i hi).2 with ⟨e1, _⟩ | ⟨g, cap, cur, e1, _, h2, _⟩
  · rw [e1] at e; cases e
  · rw [e1] at e
    injection e with e
    have e : g = b := e
    subst e
    rw [show w.heap[g]? = _ from h1] at h2
    injection h2 with h2
    injection h2 with _ h3
    exact hT h3
theorem DbS.ints (h : DbS w base G n P U) (s : Bool) {L : Nat} (hL : L ≤ G s) : IntssAt w L w.heap.size (some ⟨G s, 0, none⟩) ((List.range n).map (P s)) := fun i hi => by
  simp only [List.length_map, List.length_range] at hi
  obtain ⟨a, c, hv, ha⟩ := ints_owned (h.own s i hi)
  refine ⟨G s, 0, rfl, ⟨hL, (h.row s).lt⟩, a, c, ?_, ?_⟩
  · simp only [List.getElem_map, List.getElem_range, Nat.zero_add]
    rw [(h.row s).cell hi, hv]
  · simp only [List.getElem_map, List.getElem_range]
    exact ha.mono (by have := h.lt s; omega) (Nat.le_refl _)
end
end Go.Proofs.YthgikffcdgpgiaaGreatDoor

namespace Go.Proofs.YthgikffcdgpgiaaGreatDoor
open Go.RowKit
theorem step_append_q {P : Program} {ops : Array Oper} {w : World} {o : Oper} {a : Act} {K : Act → World → Prop} {Q : Exit → Act → World → Prop} {E : Prop} (hgd : o.guard = none) (s x : Operand) (t : TypeId)
    (ho : o.op = .call { callee := .builtin .append, args := #[s, x], argTypes := #[t, t] })
    (base : Nat) (e : TypeId) (i : TypeInfo) (z : Value) (size bytes : Nat) (ht : P.underlying t = some (.slice e)) (hi : P.info? e = some i) (hz : i.zero = some z)
    (hsize : i.size = size) (hby : i.bytes = bytes) (hzs : z.cells.size = size) (hsz : 0 < size)
    (v : Value) (n : Nat) (xs : List Value) (hs : a.eval s = v) (hown : w.ownsRow base e size v n xs)
    (ad : Addr) (m c : Nat) (news : List Value) (hx : a.eval x = .slice (some ad) m c) (hl : news.length = m * size) (hnews : ∀ j u, news[j]? = some u → w.cell? (ad.add j) = some u) (h1 : ∀ u ∈ news, u.oneCell' = true)
    (h63 : n + m ≤ maxLen) (hbytes : (n + m) * bytes ≤ 140737488355328) (hbase : base ≤ w.heap.size)
    (h : ∀ v' w', w'.ownsRow base e size v' (n + m) (xs ++ news) → w.grownBy w' v.ownBlock → (v' = .slice none 0 0 ↔ v = .slice none 0 0 ∧ m = 0) → (v'.ownBlock = v.ownBlock ∨ v'.ownBlock = some w.heap.size) → K (a.put o.dst v') w') :
    if Region.wanted o (yielded ops a.tmps) = true then Oper.wp P o a w K Q else E := by
  have hw : Region.wanted o (yielded ops a.tmps) = true := by simp [Region.wanted, hgd]
  rw [if_pos hw]
  obtain ⟨v', w', hr, h2, h3, h4, h5⟩ := run_append_own_at (P := P) w base t o.type e i z size bytes ht hi hz hsize hby hzs hsz v n xs hown ad m c news hl hnews h1 h63 hbytes hbase
  unfold Oper.wp execOp
  simp only [ho, resolve, invoke, builtin, Sem.run_bind, Sem.run_pure, Result.andThen_ok, List.map_toArray, List.map_cons, List.map_nil, hs, hx, hr]
  exact h v' w' h2 h3 h4 h5
end Go.Proofs.YthgikffcdgpgiaaGreatDoor

namespace Go.Proofs.YthgikffcdgpgiaaGreatDoor
open Go.RowKit
structure MbS (w : World) (base ns : Nat) (G m : Nat → Nat) (P : Nat → Nat → List Int) (U : Nat → Nat → Value) : Prop where
  lt : ∀ s, s < ns → G s < base
  ne : ∀ s s', s < ns → s' < ns → s ≠ s' → G s ≠ G s'
  row : ∀ s, s < ns → w.rowIs (G s) 62 (m s) (U s)
  own : ∀ s i, s < ns → i < m s → w.ownsRow base 2 1 (U s i) (P s i).length ((P s i).map (Value.int .i64))
  dj : ∀ s i s' j, s < ns → s' < ns → i < m s → j < m s' → (s, i) ≠ (s', j) → (U s i).ownBlock = none ∨ (U s i).ownBlock ≠ (U s' j).ownBlock
section
variable {w w' w1 : World} {base ns : Nat} {G m : Nat → Nat} {P P' : Nat → Nat → List Int} {U : Nat → Nat → Value}
theorem MbS.below (h : MbS w base ns G m P U) (k : Below w.heap.size w w') : MbS w' base ns G m P U := by
  refine ⟨h.lt, h.ne, fun s hs => (h.row s hs).of_block (k.block _ (h.row s hs).lt), fun s i hs hi => ?_, h.dj⟩
  refine (h.own s i hs hi).kept (row := none) ⟨k.os, k.tape, k.output, k.size, fun b hb _ => k.block b hb⟩ ?_
  cases (U s i).ownBlock <;> simp
theorem MbS.congr (h : MbS w base ns G m P U) (e : ∀ s i, s < ns → i < m s → P s i = P' s i) : MbS w base ns G m P' U :=
  ⟨h.lt, h.ne, h.row, fun s i hs hi => by rw [← e s i hs hi]; exact h.own s i hs hi, h.dj⟩
theorem MbS.step (h : MbS w base ns G m P U) {s t : Nat} (hs : s < ns) (ht : t < m s) (x : Int) (v' : Value) (hg : w.grownBy w1 (U s t).ownBlock)
    (ho : w1.ownsRow base 2 1 v' ((P s t).length + 1) ((P s t).map (Value.int .i64) ++ [.int .i64 x])) (hat : v'.ownBlock = (U s t).ownBlock ∨ v'.ownBlock = some w.heap.size) :
    MbS (w1.setCell ⟨G s, t, none⟩ v') base ns G m (fun s' i => if (s', i) = (s, t) then P s t ++ [x] else P s' i) (fun s' i => if (s', i) = (s, t) then v' else U s' i) := by
  have hr : ∀ s', s' < ns → w1.rowIs (G s') 62 (m s') (U s') := fun s' hs' => (h.row s' hs').of_block (hg.block _ (h.row s' hs').lt (fun e => by have := ((h.own s t hs ht).lt _ e.symm).1; have := h.lt s' hs'; omega))
  have fresh : ∀ s' q, s' < ns → q < m s' → (U s' q).ownBlock = none ∨ (U s' q).ownBlock ≠ some w.heap.size := fun s' q hs' hq => by
    by_cases e : (U s' q).ownBlock = some w.heap.size
    · have := ((h.own s' q hs' hq).lt _ e).2; omega
    · exact Or.inr e
  refine ⟨h.lt, h.ne, fun s' hs' => ?_, fun s' i hs' hi => ?_, fun s1 i s2 j h1 h2 hi hj hij => ?_⟩
  · by_cases e : s' = s
    · subst e
      exact ((hr s' hs').set t v').congr (fun i _ => by by_cases e2 : i = t <;> simp [e2])
    · exact ((hr s' hs').setOther (a := ⟨G s, t, none⟩) (fun e2 => h.ne s' s hs' hs e e2) v').congr (fun i _ => by simp [e])
  · refine ownsRow_setCell_below ?_ (h.lt s hs) _
    by_cases e : (s', i) = (s, t)
    · simp only [e, if_true, List.length_append, List.length_cons, List.length_nil, List.map_append, List.map_cons, List.map_nil]
      exact ho
    · simp only [e, if_false]
      exact (h.own s' i hs' hi).kept hg (h.dj s' i s t hs' hs hi ht e)
  · by_cases e1 : (s1, i) = (s, t)
    · have e2 : ¬ (s2, j) = (s, t) := fun e => hij (e1.trans e.symm)
      simp only [e1, if_true, e2, if_false]
      rcases hat with q | q
      · rw [q]
        exact h.dj s t s2 j hs h2 ht hj (fun e => e2 e.symm)
      · right
        rw [q]
        intro hh
        rcases fresh s2 j h2 hj with f | f
        · rw [f] at hh; cases hh
        · exact f hh.symm
    · simp only [e1, if_false]
      by_cases e2 : (s2, j) = (s, t)
      · simp only [e2, if_true]
        rcases hat with q | q
        · rw [q]; exact h.dj s1 i s t h1 hs hi ht e1
        · rw [q]; exact fresh s1 i h1 hi
      · simp only [e2, if_false]
        exact h.dj s1 i s2 j h1 h2 hi hj hij
/-- A row of another type is none of them. -/
theorem MbS.other (h : MbS w base ns G m P U) {b T q : Nat} {f : Nat → Value} (hb : w.rowIs b T q f) (hT : T ≠ 2) {s i : Nat} (hs : s < ns) (hi : i < m s) : (U s i).ownBlock ≠ some b := fun e => by
  obtain ⟨c, h1, _⟩ := hb
  rcases (h.own s i hs hi).2 with ⟨e1, _⟩ | ⟨g, cap, cur, e1, _, h2, _⟩
  · rw [e1] at e; cases e
  · rw [e1] at e
    injection e with e
    have e : g = b := e
    subst e
    rw [show w.heap[g]? = _ from h1] at h2
    injection h2 with h2
    injection h2 with _ h3
    exact hT h3
theorem MbS.ints (h : MbS w base ns G m P U) {s : Nat} (hs : s < ns) {L : Nat} (hL : L ≤ G s) : IntssAt w L w.heap.size (some ⟨G s, 0, none⟩) ((List.range (m s)).map (P s)) := fun i hi => by
  simp only [List.length_map, List.length_range] at hi
  obtain ⟨a, c, hv, ha⟩ := ints_owned (h.own s i hs hi)
  refine ⟨G s, 0, rfl, ⟨hL, (h.row s hs).lt⟩, a, c, ?_, ?_⟩
  · simp only [List.getElem_map, List.getElem_range, Nat.zero_add]
    rw [(h.row s hs).cell hi, hv]
  · simp only [List.getElem_map, List.getElem_range]
    exact ha.mono (by have := h.lt s hs; omega) (Nat.le_refl _)
end
/-- While many rows of sets are filled. -/
structure LvM (w3 wr : World) (ns : Nat) (G m : Nat → Nat) (P : Nat → Nat → List Int) : Prop where
  os : wr.os = w3.os
  tape : wr.tape = w3.tape
  output : wr.output = w3.output
  size : w3.heap.size ≤ wr.heap.size
  fr : ∀ q, q < w3.heap.size → (∀ s, s < ns → q ≠ G s) → wr.heap[q]? = w3.heap[q]?
  db : ∃ U, MbS wr w3.heap.size ns G m P U
section
variable {w3 wr wr' w8 : World} {ns : Nat} {G m : Nat → Nat} {P P' : Nat → Nat → List Int}
theorem LvM.below (h : LvM w3 wr ns G m P) (k : Below wr.heap.size wr wr') : LvM w3 wr' ns G m P := by
  obtain ⟨U, hU⟩ := h.db
  have := h.size
  exact ⟨k.os.trans h.os, k.tape.trans h.tape, k.output.trans h.output, Nat.le_trans h.size k.size, fun q h1 h2 => (k.block q (by omega)).trans (h.fr q h1 h2), U, hU.below k⟩
theorem LvM.congr (h : LvM w3 wr ns G m P) (e : ∀ s i, s < ns → i < m s → P s i = P' s i) : LvM w3 wr ns G m P' := by
  obtain ⟨U, hU⟩ := h.db
  exact ⟨h.os, h.tape, h.output, h.size, h.fr, U, hU.congr e⟩
theorem LvM.cell (h : LvM w3 wr ns G m P) {b o : Nat} {v : Value} (h1 : ∀ s, s < ns → b ≠ G s) (hc : w3.cell? ⟨b, o, none⟩ = some v) : wr.cell? ⟨b, o, none⟩ = some v := (cell_of (h.fr b (World.block_lt_of_cell? w3 _ hc) h1)).trans hc
theorem LvM.push {U : Nat → Nat → Value} {s t : Nat} {ob : Obj} {x : Int} {v' : Value} (h : LvM w3 wr ns G m P) (hU : MbS wr w3.heap.size ns G m P U) (hs : s < ns) (ht : t < m s) (hg : (wr.drew.alloc ob).grownBy w8 (U s t).ownBlock) (ho : w8.ownsRow w3.heap.size 2 1 v' ((P s t).length + 1) ((P s t).map (Value.int .i64) ++ [.int .i64 x])) (hat : v'.ownBlock = (U s t).ownBlock ∨ v'.ownBlock = some (wr.heap.size + 1)) :
    LvM w3 (w8.setCell ⟨G s, t, none⟩ v') ns G m (fun s' i => if (s', i) = (s, t) then P s t ++ [x] else P s' i) ∧ w8.cell? ⟨G s, t, none⟩ = some (U s t) ∧ w8.frozen? ⟨G s, t, none⟩ = false ∧ (∀ q, q < wr.heap.size → q ≠ G s → (U s t).ownBlock ≠ some q → w8.heap[q]? = wr.heap[q]? ∧ (w8.setCell ⟨G s, t, none⟩ v').heap[q]? = wr.heap[q]?) ∧ wr.heap.size ≤ (w8.setCell ⟨G s, t, none⟩ v').heap.size := by
  have hsz := h.size
  have hgs := hg.size
  have has : (wr.drew.alloc ob).heap.size = wr.heap.size + 1 := World.size_alloc _ _
  have hal : ∀ k, k < wr.heap.size → (wr.drew.alloc ob).heap[k]? = wr.heap[k]? := fun k hk => Below.heap_alloc wr.drew _ _ hk
  have hU' : MbS (wr.drew.alloc ob) w3.heap.size ns G m P U := hU.below ⟨rfl, rfl, rfl, by omega, hal⟩
  have hst := hU'.step hs ht x v' hg ho (by rw [has]; exact hat)
  have hnu : ∀ k, k < w3.heap.size → (U s t).ownBlock ≠ some k := fun k hk e => by have := ((hU.own s t hs ht).lt k e).1; omega
  have hbk : ∀ k, k < wr.heap.size → (U s t).ownBlock ≠ some k → w8.heap[k]? = wr.heap[k]? := fun k h1 h3 => (hg.block k (by omega) (fun e => h3 e.symm)).trans (hal k h1)
  have hG := hU.lt s hs
  have hGb := hbk (G s) (by omega) (hnu _ hG)
  refine ⟨⟨hg.os.trans h.os, hg.tape.trans h.tape, hg.output.trans h.output, by rw [size_setCell]; omega, fun q h1 h2 => ?_, _, hst⟩, (cell_of hGb).trans ((hU.row s hs).cell ht), (World.frozen?_of_block hGb).trans ((hU.row s hs).frozen t), fun q h1 h2 h3 => ⟨hbk q h1 h3, (Below.heap_setCell _ _ _ _ h2).trans (hbk q h1 h3)⟩, by rw [size_setCell]; omega⟩
  exact (Below.heap_setCell _ _ _ _ (h2 s hs)).trans ((hbk q (by omega) (hnu q h1)).trans (h.fr q h1 h2))
end
end Go.Proofs.YthgikffcdgpgiaaGreatDoor

namespace Go.Proofs.YthgikffcdgpgiaaGreatDoor
open Go.RowKit
/-- What stands at place i of block b among the first v values. -/
noncomputable def ptQ (xs : List Blk) (v b i : Nat) : List Int := match xs[b]? with
  | none => []
  | some x => natI (ptP xs x v b i)
open Classical in
/-- Whether v stands at place i of block b. -/
noncomputable def psB (xs : List Blk) (b i v : Nat) : Bool := match xs[b]? with
  | none => false
  | some x => PsP xs x b i v (decide (Lou xs v b))
theorem ptQ_zero (xs : List Blk) (b i : Nat) : ptQ xs 0 b i = [] := by
  unfold ptQ
  cases xs[b]? <;> rfl
theorem ptQ_succ (xs : List Blk) (v b i : Nat) : ptQ xs (v + 1) b i = if psB xs b i v = true then ptQ xs v b i ++ [(v : Int)] else ptQ xs v b i := by
  unfold ptQ psB
  cases xs[b]? with
  | none => simp
  | some x =>
    simp only
    unfold ptP
    rw [List.range_succ, List.filter_append]
    by_cases h : PsP xs x b i v (@decide (Lou xs v b) (Classical.propDecidable _)) = true
    · rw [if_pos h]
      simp [h, natI]
    · rw [if_neg h]
      simp [h]
theorem ptQ_len (xs : List Blk) (v b i : Nat) : (ptQ xs v b i).length ≤ v := by
  unfold ptQ
  cases xs[b]? with
  | none => exact Nat.zero_le _
  | some x =>
    simp only [natI, List.length_map]
    unfold ptP
    exact Nat.le_trans (List.length_filter_le _ _) (by simp)
/-- While value v is laid into the sets: all blocks ahead of b are done, of b the first i places. -/
noncomputable def pQ (xs : List Blk) (v b i : Nat) (s j : Nat) : List Int := if s < b ∨ s = b ∧ j < i then ptQ xs (v + 1) s j else ptQ xs v s j
theorem pQ_zero (xs : List Blk) (v : Nat) (s j : Nat) : pQ xs v 0 0 s j = ptQ xs v s j := by
  unfold pQ
  rw [if_neg (by omega)]
theorem pQ_all (xs : List Blk) (v n : Nat) {s : Nat} (j : Nat) (hs : s < n) : pQ xs v n 0 s j = ptQ xs (v + 1) s j := by
  unfold pQ
  rw [if_pos (Or.inl hs)]
theorem pQ_next {xs : List Blk} {v b m : Nat} {s j : Nat} (hj : s = b → j < m) : pQ xs v b m s j = pQ xs v (b + 1) 0 s j := by
  unfold pQ
  by_cases h : s < b + 1
  · rw [if_pos (by by_cases e : s = b; (· exact Or.inr ⟨e, hj e⟩); (· exact Or.inl (by omega))), if_pos (Or.inl h)]
  · rw [if_neg (by omega), if_neg (by omega)]
theorem pQ_no {xs : List Blk} {v b i : Nat} (h : psB xs b i v = false) (s j : Nat) : pQ xs v b i s j = pQ xs v b (i + 1) s j := by
  unfold pQ
  by_cases e : s = b ∧ j = i
  · obtain ⟨rfl, rfl⟩ := e
    rw [if_neg (by omega), if_pos (by omega), ptQ_succ, h]
    simp
  · by_cases h1 : s < b ∨ s = b ∧ j < i
    · rw [if_pos h1, if_pos (by omega)]
    · rw [if_neg h1, if_neg (by omega)]
theorem pQ_yes {xs : List Blk} {v b i : Nat} (h : psB xs b i v = true) (s j : Nat) : (if (s, j) = (b, i) then pQ xs v b i b i ++ [(v : Int)] else pQ xs v b i s j) = pQ xs v b (i + 1) s j := by
  by_cases e : (s, j) = (b, i)
  · rw [if_pos e]
    injection e with e1 e2
    subst e1 e2
    unfold pQ
    rw [if_neg (by omega), if_pos (by omega), ptQ_succ, if_pos h]
  · rw [if_neg e]
    have e' : ¬ (s = b ∧ j = i) := fun h => e (by rw [h.1, h.2])
    unfold pQ
    by_cases h1 : s < b ∨ s = b ∧ j < i
    · rw [if_pos h1, if_pos (by omega)]
    · rw [if_neg h1, if_neg (by omega)]
theorem pQ_len (xs : List Blk) (v b i s j : Nat) : (pQ xs v b i s j).length ≤ v + 1 := by
  unfold pQ
  split
  · exact ptQ_len _ _ _ _
  · have := ptQ_len xs v s j; omega
/-- While the rows of the blocks are made. -/
structure RwS (w2 wr : World) (u : Value) (b : Nat) (m : Nat → Nat) (G : Nat → Nat) : Prop where
  low : Below w2.heap.size w2 wr
  own : wr.ownsRow w2.heap.size 59 1 u b ((List.range b).map fun s => .slice (some ⟨G s, 0, none⟩) (m s) (m s))
  row : ∀ s, s < b → w2.heap.size ≤ G s ∧ wr.rowIs (G s) 62 (m s) (fun _ => .slice none 0 0)
  ne : ∀ s s', s < b → s' < b → s ≠ s' → G s ≠ G s'
theorem RwS.start (w2 : World) (m : Nat → Nat) : RwS w2 (w2.alloc (.cells #[] 59)) (.slice (some ⟨w2.heap.size, 0, none⟩) 0 0) 0 m (fun _ => 0) := ⟨balloc (Below.refl _ _) _, World.ownsRow_lit (base := w2.heap.size) (e := 59) (size := 1) w2 #[] 0 (by simp) (by simp) rfl, fun s h => absurd h (by omega), fun s s' h => absurd h (by omega)⟩
theorem RwS.push {w2 wr w8 : World} {u u' : Value} {b : Nat} {m : Nat → Nat} {G : Nat → Nat} {ob : Obj} (h : RwS w2 wr u b m G) (hg : ((wr.alloc (.cells (madeCells #[.slice none 0 0] (m b)) 62)).alloc ob).grownBy w8 u.ownBlock) (ho : w8.ownsRow w2.heap.size 59 1 u' (b + 1) ((List.range b).map (fun s => Value.slice (some ⟨G s, 0, none⟩) (m s) (m s)) ++ [.slice (some ⟨wr.heap.size, 0, none⟩) (m b) (m b)])) :
    RwS w2 w8 u' (b + 1) m (fun s => if s = b then wr.heap.size else G s) := by
  have hz := h.low.size
  have hgs := hg.size
  rw [World.size_alloc, World.size_alloc] at hgs
  have hnu : ∀ q T k f, wr.rowIs q T k f → T ≠ 59 → u.ownBlock ≠ some q := fun q T k f hr hT e => by
    obtain ⟨c, h1, _⟩ := hr
    rcases h.own.2 with ⟨e1, _⟩ | ⟨g, cap, cur, e1, _, h2, _⟩
    · rw [e1] at e; cases e
    · rw [e1] at e
      injection e with e
      have e : g = q := e
      subst e
      rw [show wr.heap[g]? = _ from h1] at h2
      injection h2 with h2
      injection h2 with _ h3
      exact hT h3
  have hul : ∀ q, u.ownBlock = some q → q < wr.heap.size := fun q e => (h.own.lt q e).2
  have hold : ∀ q, q < wr.heap.size → u.ownBlock ≠ some q → w8.heap[q]? = wr.heap[q]? := fun q h1 h2 => (hg.block q (by rw [World.size_alloc, World.size_alloc]; omega) (fun e => h2 e.symm)).trans ((Below.heap_alloc _ _ _ (by rw [World.size_alloc]; omega)).trans (Below.heap_alloc _ _ _ h1))
  have hnew : w8.heap[wr.heap.size]? = (wr.alloc (.cells (madeCells #[.slice none 0 0] (m b)) 62)).heap[wr.heap.size]? := (hg.block _ (by rw [World.size_alloc, World.size_alloc]; omega) (fun e => by have := hul _ e.symm; omega)).trans (Below.heap_alloc _ _ _ (by rw [World.size_alloc]; omega))
  refine ⟨⟨hg.os.trans h.low.os, hg.tape.trans h.low.tape, hg.output.trans h.low.output, by omega, fun q hq => (hold q (by omega) (fun e => by have := (h.own.lt q e).1; omega)).trans (h.low.block q hq)⟩, ?_, fun s hs => ?_, fun s s' h1 h2 h3 => ?_⟩
  · rw [List.range_succ, List.map_append, List.map_cons, List.map_nil, if_pos rfl, List.map_congr_left (g := fun s => Value.slice (some ⟨G s, 0, none⟩) (m s) (m s)) (fun s hs => by rw [if_neg (by have := List.mem_range.1 hs; omega)])]
    exact ho
  · by_cases e : s = b
    · subst e
      rw [if_pos rfl]
      exact ⟨hz, (World.rowIs_made wr (.slice none 0 0) (m s) 62).of_block hnew⟩
    · rw [if_neg e]
      have hr := h.row s (by omega)
      exact ⟨hr.1, hr.2.of_block (hold _ hr.2.lt (hnu _ _ _ _ hr.2 (by decide)))⟩
  · have hlt : ∀ s, s < b → G s < wr.heap.size := fun s hs => (h.row s hs).2.lt
    by_cases e1 : s = b
    · have := hlt s' (by omega)
      rw [if_pos e1, if_neg (by omega)]
      omega
    · by_cases e2 : s' = b
      · have := hlt s (by omega)
        rw [if_neg e1, if_pos e2]
        omega
      · rw [if_neg e1, if_neg e2]
        exact h.ne s s' (by omega) (by omega) h3
end Go.Proofs.YthgikffcdgpgiaaGreatDoor

namespace Go.Proofs.YthgikffcdgpgiaaGreatDoor
open Go.RowKit
open Classical in
/-- Is v live ahead of instruction k of block b? -/
noncomputable def nwB (xs : List Blk) (b v k : Nat) : Bool := match xs[b]? with
  | none => false
  | some x => nowP x v (decide (Lou xs v b)) k
section
variable {xs : List Blk} {b v : Nat}
theorem psB_zero : psB xs b 0 v = (nwB xs b v 0 || phiB xs b v) := by
  unfold psB nwB phiB
  cases h : xs[b]? with
  | none => rfl
  | some x => simp only [PsP, phiB, h]
theorem psB_succ {j : Nat} (hj : j < (dfL xs b).length) : psB xs b (j + 1) v = (nwB xs b v (j + 1) || decide ((dfL xs b)[j] = (v : Int))) := by
  have hj' := hj
  revert hj
  unfold psB nwB dfL at *
  cases h : xs[b]? with
  | none => intro hj; exact absurd hj (by simp)
  | some x =>
    intro hj
    simp only [dfsM, List.length_map] at hj
    simp only [PsP, dfsM, List.getElem_map]
    rw [List.getElem?_eq_getElem hj]
open Classical in
theorem nwB_top (hb : b < xs.length) {q : Bool} (hq : q = true ↔ Lou xs v b) : nwB xs b v (dfL xs b).length = (q || hasI (rtL xs b) (v : Int)) := by
  have e : (@decide (Lou xs v b) (Classical.propDecidable _)) = q := by rw [Bool.eq_iff_iff, hq, decide_eq_true_eq]
  unfold nwB dfL rtL
  rw [List.getElem?_eq_getElem hb]
  simp only [dfsM, List.length_map]
  rw [now_end _ _ _ (Nat.le_refl _), e, Bool.or_comm]
theorem nwB_step {j : Nat} (hj : j < (dfL xs b).length) (hr : j < (rdL xs b).length) : nwB xs b v j = (hasI (rdL xs b)[j] (v : Int) || (nwB xs b v (j + 1) && !decide ((dfL xs b)[j] = (v : Int)))) := by
  revert hj hr
  unfold nwB dfL rdL
  cases h : xs[b]? with
  | none => intro hj; exact absurd hj (by simp)
  | some x =>
    intro hj hr
    simp only [dfsM, List.length_map] at hj
    simp only [dfsM, rdsM, List.getElem_map]
    exact now_step _ _ _ hj
open Classical in
theorem nwB_lbe (hb : b < xs.length) : nwB xs b v 0 = true ↔ Lbe xs v b := by
  unfold nwB
  rw [List.getElem?_eq_getElem hb]
  exact now_lbe hb (by rw [decide_eq_true_eq])
theorem rd_len : (rdL xs b).length = (dfL xs b).length := by
  unfold rdL dfL
  cases xs[b]? with
  | none => rfl
  | some x => simp [rdsM, dfsM]
end
theorem rd_small (xs : List Blk) (b : Nat) : ∀ l ∈ rdL xs b, l.length ≤ 2 := fun l hl => by
  unfold rdL at hl
  cases h : xs[b]? with
  | none => rw [h] at hl; exact absurd hl List.not_mem_nil
  | some x =>
    rw [h] at hl
    obtain ⟨y, _, hy⟩ := List.mem_map.1 hl
    rw [← hy]
    exact rdI_le y
/-- What holds in the round of one block: the world has grown behind wb; the row of truth values. -/
structure InX (wb wr : World) (gl n : Nat) (lv : Nat → Bool) (gi m : Nat) (f : Nat → Bool) : Prop where
  low : Below wb.heap.size wb wr
  gll : gl < wb.heap.size
  lr : wr.rowIs gl 4 n (fun z => .bool (lv z))
  ge : wb.heap.size ≤ gi
  ir : wr.rowIs gi 4 m (fun z => .bool (f z))
section
variable {wb wr w' : World} {gl n gi m : Nat} {lv f f' : Nat → Bool}
theorem InX.below (h : InX wb wr gl n lv gi m f) (k : Below wr.heap.size wr w') : InX wb w' gl n lv gi m f := ⟨bnext h.low k, h.gll, h.lr.of_block (k.block _ h.lr.lt), h.ge, h.ir.of_block (k.block _ h.ir.lt)⟩
theorem InX.congr (h : InX wb wr gl n lv gi m f) (e : ∀ z, z < m → f z = f' z) : InX wb wr gl n lv gi m f' := ⟨h.low, h.gll, h.lr, h.ge, row_as (C := Value.bool) h.ir e⟩
theorem InX.set (h : InX wb wr gl n lv gi m f) (k : Nat) (q : Bool) : InX wb (wr.setCell ⟨gi, k, none⟩ (.bool q)) gl n lv gi m (fun z => if z = k then q else f z) := by
  have := h.ge
  have := h.gll
  exact ⟨h.low.setCell (by show wb.heap.size ≤ gi; omega) _, h.gll, h.lr.setOther (by show gl ≠ gi; omega) _, h.ge, row_set (C := Value.bool) h.ir k q⟩
end
/-- While the places of a block are gone through from the last to the first. -/
noncomputable def inF (xs : List Blk) (b v k z : Nat) : Bool := decide (k < z) && psB xs b z v
theorem inF_top {xs : List Blk} {b v k : Nat} {z : Nat} (hz : z < k + 1) : inF xs b v k z = false := by unfold inF; simp; omega
theorem inF_next {xs : List Blk} {b v j : Nat} {q : Bool} (hq : q = psB xs b (j + 1) v) (z : Nat) : (if z = j + 1 then q else inF xs b v (j + 1) z) = inF xs b v j z := by
  unfold inF
  by_cases e : z = j + 1
  · subst e
    rw [if_pos rfl, hq]
    simp
  · rw [if_neg e]
    by_cases h : j < z
    · rw [decide_eq_true h, decide_eq_true (show j + 1 < z by omega)]
    · rw [decide_eq_false h, decide_eq_false (show ¬ j + 1 < z by omega)]
theorem inF_all {xs : List Blk} {b v : Nat} {q : Bool} (hq : q = psB xs b 0 v) (z : Nat) : (if z = 0 then q else inF xs b v 0 z) = psB xs b z v := by
  by_cases e : z = 0
  · subst e; rw [if_pos rfl, hq]
  · rw [if_neg e]
    unfold inF
    rw [decide_eq_true (show 0 < z by omega), Bool.true_and]
/-- What l2Points leaves. -/
def PtsA (w w' : World) (n V : Nat) (xs : List Blk) (e : Ending) : Prop := ∃ (gO cO : Nat) (G : Nat → Nat), e = .returned (.slice (some ⟨gO, 0, none⟩) n cO) ∧ Below w.heap.size w w' ∧ w.heap.size ≤ gO ∧ ∀ s, s < n → w'.cell? ⟨gO, s, none⟩ = some (.slice (some ⟨G s, 0, none⟩) ((dfL xs s).length + 1) ((dfL xs s).length + 1)) ∧ w.heap.size ≤ G s ∧ IntssAt w' w.heap.size w'.heap.size (some ⟨G s, 0, none⟩) ((List.range ((dfL xs s).length + 1)).map (ptQ xs V s))
end Go.Proofs.YthgikffcdgpgiaaGreatDoor
