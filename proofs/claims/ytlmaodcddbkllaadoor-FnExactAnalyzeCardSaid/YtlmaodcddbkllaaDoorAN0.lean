import Derived.Test.YtlmaodcddbkllaaDoorAP1
import Derived.Test.YtlmaodcddbkllaaDoorND1
import Derived.Test.YtlmaodcddbkllaaDoorCH1
import Derived.Test.YtlmaodcddbkllaaDoorW14c
import Derived.Test.YtlmaodcddbkllaaDoorE7a
/-
  Analyze of the program: the lists that its loop fills.
-/
namespace Go.Proofs.YtlmaodcddbkllaaDoor
open Go.RowKit

/-- An append in a region that draws its order. -/
theorem step_append_r {P : Program} {ops : Array Oper} {w : World} {o : Oper} {a : Act} {K : Act → World → Prop} {Q : Exit → Act → World → Prop} {E : Prop} (hgd : o.guard = none) (s x : Operand) (t : TypeId)
    (ho : o.op = .call { callee := .builtin .append, args := #[s, x], argTypes := #[t, t] })
    (base : Nat) (e : TypeId) (i : TypeInfo) (z : Value) (size bytes : Nat) (ht : P.underlying t = some (.slice e)) (hi : P.info? e = some i) (hz : i.zero = some z)
    (hsize : i.size = size) (hby : i.bytes = bytes) (hzs : z.cells.size = size) (hsz : 0 < size)
    (v : Value) (n : Nat) (xs : List Value) (hs : a.eval s = v) (hown : w.ownsRow base e size v n xs)
    (ad : Addr) (m c : Nat) (news : List Value) (hx : a.eval x = .slice (some ad) m c) (hl : news.length = m * size) (hnews : ∀ j u, news[j]? = some u → w.cell? (ad.add j) = some u) (h1 : ∀ u ∈ news, u.oneCell' = true)
    (h63 : n + m ≤ maxLen) (hbytes : (n + m) * bytes ≤ 140737488355328) (hbase : base ≤ w.heap.size)
    (h : ∀ v' w', w'.ownsRow base e size v' (n + m) (xs ++ news) → w.grownBy w' v.ownBlock → (v' = .slice none 0 0 ↔ v = .slice none 0 0 ∧ m = 0) → (v'.ownBlock = v.ownBlock ∨ v'.ownBlock = some w.heap.size) → K (a.put o.dst v') w') :
    if Region.wanted o (yielded ops a.tmps) = true then Oper.wp P o a w K Q else E := by
  have hw : Region.wanted o (yielded ops a.tmps) = true := by simp [Region.wanted, hgd]
  rw [if_pos hw]
  obtain ⟨v', w', hr, h2, h3, h4, h5⟩ := run_append_own_at (P := P) w base t o.type e i z size bytes ht hi hz hsize hby hzs hsz v n xs hown ad m c news hl hnews h1 h63 hbytes hbase
  unfold Oper.wp execOp
  simp only [ho, resolve, invoke, builtin, Sem.run_bind, Sem.run_pure, Result.andThen_ok, List.map_toArray, List.map_cons, List.map_nil, hs, hx, hr]
  exact h v' w' h2 h3 h4 h5
theorem Tryd.infoSetI : (Tryd.prog.info? 47).map (fun i => (i.zero, i.size, i.bytes)) = some (some (.agg #[.slice none 0 0]), 1, 24) := by kernel_rfl
/-- The flow while it is filled: block F; both lists in rows behind it. -/
structure FlI (w6 wr : World) (F : Nat) (x2 x3 : Value) (U V : Nat → Value) (b1 : Nat) (p1 : Option Addr) (c1 b2 : Nat) (p2 : Option Addr) (c2 : Nat) : Prop where
  e0 : wr.cell? ⟨F, 0, none⟩ = some (.slice p1 b1 c1)
  e1 : wr.cell? ⟨F, 1, none⟩ = some (.slice p2 b2 c2)
  e2 : wr.cell? ⟨F, 2, none⟩ = some x2
  e3 : wr.cell? ⟨F, 3, none⟩ = some x3
  thaw : ∀ q, wr.frozen? ⟨F, q, none⟩ = false
  bel : Below F w6 wr
  lt : F < wr.heap.size
  le : F = w6.heap.size
  o1 : wr.ownsRow (F + 1) 47 1 (.slice p1 b1 c1) b1 ((List.range b1).map U)
  o2 : wr.ownsRow (F + 1) 4 1 (.slice p2 b2 c2) b2 ((List.range b2).map V)
  dj : (Value.slice p1 b1 c1).ownBlock = none ∨ (Value.slice p1 b1 c1).ownBlock ≠ (Value.slice p2 b2 c2).ownBlock
/-- The flow as the program leaves it: every list in a row of its own. -/
structure FlowOwn (w : World) (B n : Nat) (U : Nat → Value) (Pr : Nat → List Int) (V : Nat → Bool) (P : List Int) (Od : List Nat) (g1 c1 g2 c2 g3 g4 c4 : Nat) : Prop where
  len : P.length = n
  o1 : w.ownsRow B 47 1 (.slice (some ⟨g1, 0, none⟩) n c1) n ((List.range n).map U)
  o2 : w.ownsRow B 4 1 (.slice (some ⟨g2, 0, none⟩) n c2) n ((List.range n).map fun z => .bool (V z))
  o3 : w.rowIs g3 2 n (fun z => .int .i64 (P.getD z 0))
  o4 : w.ownsRow B 2 1 (.slice (some ⟨g4, 0, none⟩) Od.length c4) Od.length (natV Od)
  rows : ∀ i, i < n → w.ownsRow B 2 1 (U i) (Pr i).length ((Pr i).map (Value.int .i64))
  rdj : ∀ i j, i < n → j < n → i ≠ j → (U i).ownBlock = none ∨ (U i).ownBlock ≠ (U j).ownBlock
  gs : B ≤ g3 ∧ g1 ≠ g2 ∧ g1 ≠ g3 ∧ g1 ≠ g4 ∧ g2 ≠ g3 ∧ g2 ≠ g4 ∧ g3 ≠ g4
  out : ∀ i, i < n → ∀ k, (U i).ownBlock = some k → k ≠ g1 ∧ k ≠ g2 ∧ k ≠ g3 ∧ k ≠ g4
theorem own_mv {w w' : World} {B B' t s n : Nat} {v : Value} {cs : List Value} (h : w.ownsRow B t s v n cs) (hB : B' ≤ B) (hk : ∀ k, v.ownBlock = some k → w'.heap[k]? = w.heap[k]?) : w'.ownsRow B' t s v n cs := by
  obtain ⟨h1, h2 | ⟨g, cap, cur, e, hg, hh, hr⟩⟩ := h
  · exact ⟨h1, Or.inl h2⟩
  · exact ⟨h1, Or.inr ⟨g, cap, cur, e, Nat.le_trans hB hg, (hk g (by rw [e]; rfl)).trans hh, hr⟩⟩
/-- The answer's box is filled. -/
theorem box4 {w : World} {R F t : Nat} {f : Nat → Value} (hR : w.rowIs R t 4 f) (hne : R ≠ F) (x z0 z1 z2 z3 : Value) (wE : World) (e : wE = ((((w.setCell ⟨F, 3, none⟩ x).setCell ⟨R, 0, none⟩ z0).setCell ⟨R, 1, none⟩ z1).setCell ⟨R, 2, none⟩ z2).setCell ⟨R, 3, none⟩ z3) :
    wE.cell? ⟨R, 0, none⟩ = some z0 ∧ wE.cell? ⟨R, 1, none⟩ = some z1 ∧ wE.cell? ⟨R, 2, none⟩ = some z2 ∧ wE.cell? ⟨R, 3, none⟩ = some z3 ∧ (∀ k, k ≠ F → k ≠ R → wE.heap[k]? = w.heap[k]?) ∧ wE.heap.size = w.heap.size ∧ wE.os = w.os ∧ wE.tape = w.tape ∧ wE.output = w.output := by
  have h := ((((hR.setOther (a := ⟨F, 3, none⟩) hne x).set 0 z0).set 1 z1).set 2 z2).set 3 z3
  rw [← e] at h
  refine ⟨?_, ?_, ?_, ?_, fun k h1 h2 => ?_, ?_, ?_, ?_, ?_⟩
  · rw [h.cell (by decide)]; simp
  · rw [h.cell (by decide)]; simp
  · rw [h.cell (by decide)]; simp
  · rw [h.cell (by decide)]; simp
  · rw [e, Below.heap_setCell _ _ _ _ h2, Below.heap_setCell _ _ _ _ h2, Below.heap_setCell _ _ _ _ h2, Below.heap_setCell _ _ _ _ h2, Below.heap_setCell _ _ _ _ h1]
  · rw [e]; simp [World.setCell]
  · rw [e]; simp [World.setCell]
  · rw [e]; simp [World.setCell]
  · rw [e]; simp [World.setCell]
section
variable {w6 wr wr' : World} {F : Nat} {x2 x3 : Value} {U V : Nat → Value} {b1 : Nat} {p1 : Option Addr} {c1 b2 : Nat} {p2 : Option Addr} {c2 : Nat}
theorem FlI.below (h : FlI w6 wr F x2 x3 U V b1 p1 c1 b2 p2 c2) (k : Below wr.heap.size wr wr') : FlI w6 wr' F x2 x3 U V b1 p1 c1 b2 p2 c2 := by
  have hb := k.block F h.lt
  have ce : ∀ q, wr'.cell? ⟨F, q, none⟩ = wr.cell? ⟨F, q, none⟩ := fun q => World.cell?_of_block hb
  have own : ∀ {t v n cs}, wr.ownsRow (F + 1) t 1 v n cs → wr'.ownsRow (F + 1) t 1 v n cs := fun {t v n cs} ho => by
    refine ho.kept (row := none) ⟨k.os, k.tape, k.output, k.size, fun j hj _ => k.block j hj⟩ ?_
    cases v.ownBlock with
    | none => exact Or.inl rfl
    | some j => exact Or.inr (by simp)
  exact ⟨(ce 0).trans h.e0, (ce 1).trans h.e1, (ce 2).trans h.e2, (ce 3).trans h.e3, fun q => (World.frozen?_of_block hb).trans (h.thaw q), h.bel.trans (k.mono (Nat.le_of_lt h.lt)), Nat.lt_of_lt_of_le h.lt k.size, h.le, own h.o1, own h.o2, h.dj⟩
theorem fresh_own {w : World} {B t s n : Nat} {v : Value} {cs : List Value} (h : w.ownsRow B t s v n cs) {k : Nat} (hk : w.heap.size ≤ k) : v.ownBlock = none ∨ v.ownBlock ≠ some k := by
  by_cases e : v.ownBlock = some k
  · have := (h.lt k e).2; omega
  · exact Or.inr e
theorem dj_symm {a b : Option Nat} (h : a = none ∨ a ≠ b) : b = none ∨ b ≠ a := by
  rcases h with h | h
  · subst h
    cases b with
    | none => exact Or.inl rfl
    | some k => exact Or.inr (by simp)
  · exact Or.inr (fun e => h e.symm)
theorem own_drew {w : World} {B t s n : Nat} {v : Value} {cs : List Value} (h : w.ownsRow B t s v n cs) : w.drew.ownsRow B t s v n cs := h
theorem range_snoc {α : Type} (f : Nat → α) (b : Nat) : (List.range (b + 1)).map f = (List.range b).map f ++ [f b] := by rw [List.range_succ, List.map_append]; rfl
theorem FlI.app1 {w8 : World} {ob : Obj} {p1' : Option Addr} {c1' : Nat} (h : FlI w6 wr F x2 x3 U V b1 p1 c1 b2 p2 c2) (hg : (wr.alloc ob).grownBy w8 (Value.slice p1 b1 c1).ownBlock) (ho : w8.ownsRow (F + 1) 47 1 (.slice p1' (b1 + 1) c1') (b1 + 1) ((List.range b1).map U ++ [U b1])) (hat : (Value.slice p1' (b1 + 1) c1').ownBlock = (Value.slice p1 b1 c1).ownBlock ∨ (Value.slice p1' (b1 + 1) c1').ownBlock = some (wr.heap.size + 1)) :
    FlI w6 (w8.setCell ⟨F, 0, none⟩ (.slice p1' (b1 + 1) c1')) F x2 x3 U V (b1 + 1) p1' c1' b2 p2 c2 ∧ (∀ q, w8.cell? ⟨F, q, none⟩ = wr.cell? ⟨F, q, none⟩) ∧ (∀ q, w8.frozen? ⟨F, q, none⟩ = false) ∧ Below F wr w8 := by
  have hlt := h.lt
  have ha : ∀ k, k < wr.heap.size → (wr.alloc ob).heap[k]? = wr.heap[k]? := fun k hk => Below.heap_alloc _ _ _ hk
  have hsz : (wr.alloc ob).heap.size = wr.heap.size + 1 := World.size_alloc _ _
  have hgs := hg.size
  have hnv : ∀ k, k ≤ F → some k ≠ (Value.slice p1 b1 c1).ownBlock := fun k hk e => by have := (h.o1.lt k e.symm).1; omega
  have hb : w8.heap[F]? = wr.heap[F]? := (hg.block F (by omega) (hnv _ (Nat.le_refl _))).trans (ha _ hlt)
  have ce : ∀ q, w8.cell? ⟨F, q, none⟩ = wr.cell? ⟨F, q, none⟩ := fun q => World.cell?_of_block hb
  have fe : ∀ q, w8.frozen? ⟨F, q, none⟩ = false := fun q => (World.frozen?_of_block hb).trans (h.thaw q)
  have hbl : Below F wr w8 := ⟨hg.os, hg.tape, hg.output, by omega, fun k hk => (hg.block k (by omega) (hnv k (by omega))).trans (ha k (by omega))⟩
  refine ⟨⟨World.cell?_setCell_same _ _ _ ((ce 0).trans h.e0), (set_other _ _ (by omega) _).trans ((ce 1).trans h.e1), (set_other _ _ (by omega) _).trans ((ce 2).trans h.e2), (set_other _ _ (by omega) _).trans ((ce 3).trans h.e3), fun q => by rw [World.frozen?_setCell]; exact fe q, (h.bel.trans hbl).setCell (p := ⟨F, 0, none⟩) (Nat.le_refl _) _, by rw [size_setCell]; omega, h.le, ?_, ?_, ?_⟩, ce, fe, hbl⟩
  · rw [range_snoc]
    exact ownsRow_setCell_below ho (by show F < F + 1; omega) _
  · exact ownsRow_setCell_below ((h.o2.alloc ob).kept hg (dj_symm h.dj)) (by show F < F + 1; omega) _
  · rcases hat with e | e
    · rw [e]; exact h.dj
    · rcases fresh_own h.o2 (k := wr.heap.size + 1) (by omega) with f | f
      · exact Or.inr (by rw [e, f]; simp)
      · exact Or.inr (by rw [e]; exact fun k => f k.symm)
theorem FlI.app2 {w8 : World} {ob : Obj} {p2' : Option Addr} {c2' : Nat} (h : FlI w6 wr F x2 x3 U V b1 p1 c1 b2 p2 c2) (hg : (wr.alloc ob).grownBy w8 (Value.slice p2 b2 c2).ownBlock) (ho : w8.ownsRow (F + 1) 4 1 (.slice p2' (b2 + 1) c2') (b2 + 1) ((List.range b2).map V ++ [V b2])) (hat : (Value.slice p2' (b2 + 1) c2').ownBlock = (Value.slice p2 b2 c2).ownBlock ∨ (Value.slice p2' (b2 + 1) c2').ownBlock = some (wr.heap.size + 1)) :
    FlI w6 (w8.setCell ⟨F, 1, none⟩ (.slice p2' (b2 + 1) c2')) F x2 x3 U V b1 p1 c1 (b2 + 1) p2' c2' ∧ (∀ q, w8.cell? ⟨F, q, none⟩ = wr.cell? ⟨F, q, none⟩) ∧ (∀ q, w8.frozen? ⟨F, q, none⟩ = false) ∧ Below F wr w8 := by
  have hlt := h.lt
  have ha : ∀ k, k < wr.heap.size → (wr.alloc ob).heap[k]? = wr.heap[k]? := fun k hk => Below.heap_alloc _ _ _ hk
  have hsz : (wr.alloc ob).heap.size = wr.heap.size + 1 := World.size_alloc _ _
  have hgs := hg.size
  have hnv : ∀ k, k ≤ F → some k ≠ (Value.slice p2 b2 c2).ownBlock := fun k hk e => by have := (h.o2.lt k e.symm).1; omega
  have hb : w8.heap[F]? = wr.heap[F]? := (hg.block F (by omega) (hnv _ (Nat.le_refl _))).trans (ha _ hlt)
  have ce : ∀ q, w8.cell? ⟨F, q, none⟩ = wr.cell? ⟨F, q, none⟩ := fun q => World.cell?_of_block hb
  have fe : ∀ q, w8.frozen? ⟨F, q, none⟩ = false := fun q => (World.frozen?_of_block hb).trans (h.thaw q)
  have hbl : Below F wr w8 := ⟨hg.os, hg.tape, hg.output, by omega, fun k hk => (hg.block k (by omega) (hnv k (by omega))).trans (ha k (by omega))⟩
  refine ⟨⟨(set_other _ _ (by omega) _).trans ((ce 0).trans h.e0), World.cell?_setCell_same _ _ _ ((ce 1).trans h.e1), (set_other _ _ (by omega) _).trans ((ce 2).trans h.e2), (set_other _ _ (by omega) _).trans ((ce 3).trans h.e3), fun q => by rw [World.frozen?_setCell]; exact fe q, (h.bel.trans hbl).setCell (p := ⟨F, 1, none⟩) (Nat.le_refl _) _, by rw [size_setCell]; omega, h.le, ?_, ?_, ?_⟩, ce, fe, hbl⟩
  · exact ownsRow_setCell_below ((h.o1.alloc ob).kept hg h.dj) (by show F < F + 1; omega) _
  · rw [range_snoc]
    exact ownsRow_setCell_below ho (by show F < F + 1; omega) _
  · rcases hat with e | e
    · rw [e]; exact h.dj
    · rcases fresh_own h.o1 (k := wr.heap.size + 1) (by omega) with f | f
      · exact Or.inl f
      · exact Or.inr (by rw [e]; exact f)
end
end Go.Proofs.YtlmaodcddbkllaaDoor

/-
  Analyze of the model: what holds while its lists are filled.
-/
namespace Go.Proofs.YtlmaodcddbkllaaDoor
open Go.RowKit

def Ak (v1 v2 : Value) (k : Nat) : Prop := v1.ownBlock = some k ∨ v2.ownBlock = some k
def PrI (wr : World) (b F : Nat) (U : Nat → Value) (Pr : Nat → List Int) (A : Nat → Prop) : Prop := ∀ i, i < b → ∃ lo hi a' c', U i = .slice a' (Pr i).length c' ∧ F < lo ∧ hi ≤ wr.heap.size ∧ IntsAt wr lo hi a' (Pr i) ∧ ∀ k, A k → ¬ (lo ≤ k ∧ k < hi)
theorem PrI.keep {wr wr' : World} {b F : Nat} {U : Nat → Value} {Pr : Nat → List Int} {A A' : Nat → Prop} (h : PrI wr b F U Pr A) (hz : wr.heap.size ≤ wr'.heap.size) (hb : ∀ k, k < wr.heap.size → F < k → ¬ A k → wr'.heap[k]? = wr.heap[k]?) (hA : ∀ k, A' k → A k ∨ wr.heap.size ≤ k) : PrI wr' b F U Pr A' := fun i hi => by
  obtain ⟨lo, hi', a', c', e, h1, h2, h3, h4⟩ := h i hi
  refine ⟨lo, hi', a', c', e, h1, Nat.le_trans h2 hz, h3.keepS (fun k k1 k2 => hb k (by omega) (by omega) (fun q => h4 k q ⟨k1, k2⟩)), fun k hk q => ?_⟩
  rcases hA k hk with r | r
  · exact h4 k r q
  · omega
structure MaI (w1 w2 wr : World) (U V : Nat → Value) (Pr : Nat → List Int) (bp b1 : Nat) (p1 : Option Addr) (c1 b2 : Nat) (p2 : Option Addr) (c2 : Nat) : Prop where
  fl : FlI w1 wr w1.heap.size (.slice none 0 0) (.slice none 0 0) U V b1 p1 c1 b2 p2 c2
  pr : PrI wr bp w1.heap.size U Pr (Ak (.slice p1 b1 c1) (.slice p2 b2 c2))
  sa : Same (w1.heap.size + 1) w2.heap.size w2 wr
  hk : ∀ k, Ak (.slice p1 b1 c1) (.slice p2 b2 c2) k → w2.heap.size ≤ k
  sz : w2.heap.size ≤ wr.heap.size
section
variable {w1 w2 wr wr' : World} {U V : Nat → Value} {Pr : Nat → List Int} {bp b1 : Nat} {p1 : Option Addr} {c1 b2 : Nat} {p2 : Option Addr} {c2 : Nat}
theorem FlI.ak {x2 x3 : Value} {F : Nat} (h : FlI w1 wr F x2 x3 U V b1 p1 c1 b2 p2 c2) {k : Nat} (hk : Ak (.slice p1 b1 c1) (.slice p2 b2 c2) k) : F < k ∧ k < wr.heap.size := by
  rcases hk with e | e
  · have := h.o1.lt k e; omega
  · have := h.o2.lt k e; omega
theorem MaI.below (h : MaI w1 w2 wr U V Pr bp b1 p1 c1 b2 p2 c2) (k : Below wr.heap.size wr wr') : MaI w1 w2 wr' U V Pr bp b1 p1 c1 b2 p2 c2 := by
  have := h.sz
  exact ⟨h.fl.below k, h.pr.keep k.size (fun q h1 _ _ => k.block q h1) (fun _ hk => Or.inl hk), fun q q1 q2 => (k.block q (by omega)).trans (h.sa q q1 q2), h.hk, Nat.le_trans h.sz k.size⟩
theorem FlI.congrU {w6 : World} {x2 x3 : Value} {F : Nat} {U' : Nat → Value} (h : FlI w6 wr F x2 x3 U V b1 p1 c1 b2 p2 c2) (e : ∀ i, i < b1 → U' i = U i) : FlI w6 wr F x2 x3 U' V b1 p1 c1 b2 p2 c2 := by
  refine ⟨h.e0, h.e1, h.e2, h.e3, h.thaw, h.bel, h.lt, h.le, ?_, h.o2, h.dj⟩
  have : (List.range b1).map U' = (List.range b1).map U := List.map_congr_left (fun i hi => e i (List.mem_range.1 hi))
  rw [this]; exact h.o1
/-- The next block's predecessors are there. -/
theorem MaI.newU {u : Value} {ua : Option Addr} {uc : Nat} (h : MaI w1 w2 wr U V Pr b1 b1 p1 c1 b2 p2 c2) (k : Below wr.heap.size wr wr') (hu : u = .slice ua (Pr b1).length uc) (hi : IntsAt wr' wr.heap.size wr'.heap.size ua (Pr b1)) : MaI w1 w2 wr' (fun i => if i = b1 then u else U i) V Pr (b1 + 1) b1 p1 c1 b2 p2 c2 := by
  have hb := h.below k
  have hlt := h.fl.lt
  refine ⟨hb.fl.congrU (fun i hi => if_neg (by omega)), fun i hi' => ?_, hb.sa, hb.hk, hb.sz⟩
  by_cases e : i = b1
  · subst e
    refine ⟨wr.heap.size, wr'.heap.size, ua, uc, by rw [if_pos rfl]; exact hu, hlt, Nat.le_refl _, hi, fun k hk q => ?_⟩
    have := (h.fl.ak hk).2
    omega
  · obtain ⟨lo, hi2, a', c', q1, q2⟩ := hb.pr i (by omega)
    exact ⟨lo, hi2, a', c', by rw [if_neg e]; exact q1, q2⟩
theorem MaI.app1 {w8 : World} {ob : Obj} {p1' : Option Addr} {c1' : Nat} (h : MaI w1 w2 wr U V Pr bp b1 p1 c1 b2 p2 c2) (hg : (wr.alloc ob).grownBy w8 (Value.slice p1 b1 c1).ownBlock) (ho : w8.ownsRow (w1.heap.size + 1) 47 1 (.slice p1' (b1 + 1) c1') (b1 + 1) ((List.range b1).map U ++ [U b1])) (hat : (Value.slice p1' (b1 + 1) c1').ownBlock = (Value.slice p1 b1 c1).ownBlock ∨ (Value.slice p1' (b1 + 1) c1').ownBlock = some (wr.heap.size + 1)) :
    MaI w1 w2 (w8.setCell ⟨w1.heap.size, 0, none⟩ (.slice p1' (b1 + 1) c1')) U V Pr bp (b1 + 1) p1' c1' b2 p2 c2 ∧ (∀ q, w8.cell? ⟨w1.heap.size, q, none⟩ = wr.cell? ⟨w1.heap.size, q, none⟩) ∧ (∀ q, w8.frozen? ⟨w1.heap.size, q, none⟩ = false) ∧ Below w1.heap.size wr w8 := by
  obtain ⟨h1, h2, h3, h4⟩ := h.fl.app1 hg ho hat
  have hsz := h.sz
  have hgs := hg.size
  have has : (wr.alloc ob).heap.size = wr.heap.size + 1 := World.size_alloc _ _
  have hbk : ∀ k, k < wr.heap.size → w1.heap.size < k → ¬ Ak (.slice p1 b1 c1) (.slice p2 b2 c2) k → (w8.setCell ⟨w1.heap.size, 0, none⟩ (.slice p1' (b1 + 1) c1')).heap[k]? = wr.heap[k]? := fun k q1 q2 q3 => (Below.heap_setCell _ _ _ _ (by dsimp only; omega)).trans ((hg.block k (by omega) (fun e => q3 (Or.inl e.symm))).trans (Below.heap_alloc _ _ _ q1))
  have hA : ∀ k, Ak (.slice p1' (b1 + 1) c1') (.slice p2 b2 c2) k → Ak (.slice p1 b1 c1) (.slice p2 b2 c2) k ∨ wr.heap.size ≤ k := fun k hk => by
    rcases hk with e | e
    · rcases hat with q | q
      · exact Or.inl (Or.inl (q ▸ e))
      · rw [q] at e; have := Option.some.inj e; omega
    · exact Or.inl (Or.inr e)
  refine ⟨⟨h1, h.pr.keep (by rw [size_setCell]; omega) hbk hA, fun q q1 q2 => (hbk q (by omega) (by omega) (fun e => by have := h.hk q e; omega)).trans (h.sa q q1 q2), fun k hk => ?_, by rw [size_setCell]; omega⟩, h2, h3, h4⟩
  rcases hA k hk with e | e
  · exact h.hk k e
  · omega
theorem MaI.app2 {w8 : World} {ob : Obj} {p2' : Option Addr} {c2' : Nat} (h : MaI w1 w2 wr U V Pr bp b1 p1 c1 b2 p2 c2) (hg : (wr.alloc ob).grownBy w8 (Value.slice p2 b2 c2).ownBlock) (ho : w8.ownsRow (w1.heap.size + 1) 4 1 (.slice p2' (b2 + 1) c2') (b2 + 1) ((List.range b2).map V ++ [V b2])) (hat : (Value.slice p2' (b2 + 1) c2').ownBlock = (Value.slice p2 b2 c2).ownBlock ∨ (Value.slice p2' (b2 + 1) c2').ownBlock = some (wr.heap.size + 1)) :
    MaI w1 w2 (w8.setCell ⟨w1.heap.size, 1, none⟩ (.slice p2' (b2 + 1) c2')) U V Pr bp b1 p1 c1 (b2 + 1) p2' c2' ∧ (∀ q, w8.cell? ⟨w1.heap.size, q, none⟩ = wr.cell? ⟨w1.heap.size, q, none⟩) ∧ (∀ q, w8.frozen? ⟨w1.heap.size, q, none⟩ = false) ∧ Below w1.heap.size wr w8 := by
  obtain ⟨h1, h2, h3, h4⟩ := h.fl.app2 hg ho hat
  have hsz := h.sz
  have hgs := hg.size
  have has : (wr.alloc ob).heap.size = wr.heap.size + 1 := World.size_alloc _ _
  have hbk : ∀ k, k < wr.heap.size → w1.heap.size < k → ¬ Ak (.slice p1 b1 c1) (.slice p2 b2 c2) k → (w8.setCell ⟨w1.heap.size, 1, none⟩ (.slice p2' (b2 + 1) c2')).heap[k]? = wr.heap[k]? := fun k q1 q2 q3 => (Below.heap_setCell _ _ _ _ (by dsimp only; omega)).trans ((hg.block k (by omega) (fun e => q3 (Or.inr e.symm))).trans (Below.heap_alloc _ _ _ q1))
  have hA : ∀ k, Ak (.slice p1 b1 c1) (.slice p2' (b2 + 1) c2') k → Ak (.slice p1 b1 c1) (.slice p2 b2 c2) k ∨ wr.heap.size ≤ k := fun k hk => by
    rcases hk with e | e
    · exact Or.inl (Or.inl e)
    · rcases hat with q | q
      · exact Or.inl (Or.inr (q ▸ e))
      · rw [q] at e; have := Option.some.inj e; omega
  refine ⟨⟨h1, h.pr.keep (by rw [size_setCell]; omega) hbk hA, fun q q1 q2 => (hbk q (by omega) (by omega) (fun e => by have := h.hk q e; omega)).trans (h.sa q q1 q2), fun k hk => ?_, by rw [size_setCell]; omega⟩, h2, h3, h4⟩
  rcases hA k hk with e | e
  · exact h.hk k e
  · omega
end
/-- A list of truth values. -/
def BoolsAt (w : World) (L B : Nat) (a : Option Addr) (xs : List Bool) : Prop :=
  ∀ i (h : i < xs.length), ∃ b o, a = some ⟨b, o, none⟩ ∧ (L ≤ b ∧ b < B) ∧ w.cell? ⟨b, o + i, none⟩ = some (.bool xs[i])
theorem BoolsAt.keepS {w w' : World} {L B : Nat} {a : Option Addr} {xs : List Bool} (h : BoolsAt w L B a xs) (k : Same L B w w') : BoolsAt w' L B a xs := fun i hi => by
  obtain ⟨b, o, e, hb, h1⟩ := h i hi
  exact ⟨b, o, e, hb, (cell_of (k b hb.1 hb.2)).trans h1⟩
theorem BoolsAt.keep {w w' : World} {L B : Nat} {a : Option Addr} {xs : List Bool} (h : BoolsAt w L B a xs) (k : Below B w w') : BoolsAt w' L B a xs := h.keepS (Same.of_below k)
/-- A flow, to be read. -/
structure FlowAt (w : World) (L B : Nat) (Pr : List (List Int)) (Rc : List Bool) (P Od : List Int) (a1 a2 a3 a4 : Option Addr) : Prop where
  p : IntssAt w L B a1 Pr
  r : BoolsAt w L B a2 Rc
  i : IntsAt w L B a3 P
  o : IntsAt w L B a4 Od
theorem FlowAt.keepS {w w' : World} {L B : Nat} {Pr : List (List Int)} {Rc : List Bool} {P Od : List Int} {a1 a2 a3 a4 : Option Addr} (h : FlowAt w L B Pr Rc P Od a1 a2 a3 a4) (k : Same L B w w') : FlowAt w' L B Pr Rc P Od a1 a2 a3 a4 := ⟨h.p.keepS k, h.r.keepS k, h.i.keepS k, h.o.keepS k⟩
theorem FlowAt.keep {w w' : World} {L B : Nat} {Pr : List (List Int)} {Rc : List Bool} {P Od : List Int} {a1 a2 a3 a4 : Option Addr} (h : FlowAt w L B Pr Rc P Od a1 a2 a3 a4) (k : Below B w w') : FlowAt w' L B Pr Rc P Od a1 a2 a3 a4 := h.keepS (Same.of_below k)
def prL (xs : List Blk) : List (List Int) := (List.range xs.length).map fun i : Nat => predsFrom xs 0 (i : Int)
def rcL (xs : List Blk) : List Bool := (List.range xs.length).map fun z => hasN (seaP xs).1 z
/-- The list of the nearest of a valid function is one. -/
theorem OkF.ex {xs : List Blk} (h : OkF xs) : ∀ b, b < xs.length → (∃ a, Idm (tgN xs) a b) ∨ ∀ c, Dom (tgN xs) c b → c = b := fun b hb => by
  classical
  have hw : ∀ b, b < xs.length → ∀ x, x < xs.length → (hasN (addsN (fun _ => 0) ((List.range xs.length).filter fun x => decide (Av (tgN xs) x b))) x = true ↔ Av (tgN xs) x b) := fun b _ x hx => by
    rw [has_adds, has_none, Bool.or_false, decide_eq_true_eq, List.mem_filter, List.mem_range, decide_eq_true_eq]
    exact ⟨fun q => q.2, fun q => ⟨hx, q⟩⟩
  have := near_isIdm h.top.2.2.1 h.top.1 h.re h.top.2.2.2 (Ws := fun b => addsN (fun _ => 0) ((List.range xs.length).filter fun x => decide (Av (tgN xs) x b))) hw
  rcases this.get b hb with ⟨a, ha, _⟩ | ⟨q, _⟩
  · exact Or.inl ⟨a, ha⟩
  · exact Or.inr q
theorem OkF.model {xs : List Blk} (h : OkF xs) : IsIdm (tgN xs) xs.length ((List.range xs.length).map (idomP ((List.range xs.length).map (domL (tgN xs) xs.length)))) := isIdm_model h.re h.ex
end Go.Proofs.YtlmaodcddbkllaaDoor
