import Derived.Test.YtanaeindldcapaaDoorIw
import Derived.Deep.DrawnRows
namespace Go.Proofs.YtanaeindldcapaaDoor
open Go.RowKit
structure Sr where
  code : List UInt8
  pos : Nat
  mix : Int
  size : Int
structure SrOk (s : Sr) : Prop where
  len : s.code.length ≤ 4000
  pos : s.pos ≤ s.code.length
  mix : 0 ≤ s.mix ∧ s.mix < 1000003
  size : 1 ≤ s.size ∧ s.size ≤ 7
/-- The source in memory. -/
structure SrAt (w : World) (b L B : Nat) (s : Sr) : Prop where
  c0 : ∃ a c, w.cell? ⟨b, 0, none⟩ = some (.slice a s.code.length c) ∧ BytesAt w L B a s.code
  c1 : w.cell? ⟨b, 1, none⟩ = some (.int .i64 s.pos)
  c2 : w.cell? ⟨b, 2, none⟩ = some (.int .i64 s.mix)
  c3 : w.cell? ⟨b, 3, none⟩ = some (.int .i64 s.size)
  thaw : ∀ q, w.frozen? ⟨b, q, none⟩ = false
  out : ¬ (L ≤ b ∧ b < B)
theorem bytes_set {w : World} {b q L B : Nat} {a : Option Addr} {bs : List UInt8} (v : Value) (hb : BytesAt w L B a bs) (ho : ¬ (L ≤ b ∧ b < B)) : BytesAt (w.setCell ⟨b, q, none⟩ v) L B a bs := hb.keepS (fun k h1 h2 => Below.heap_setCell _ _ _ _ (by show k ≠ b; intro e; exact ho (by omega)))
theorem set_other (w : World) (b : Nat) {o o' : Nat} (h : o ≠ o') (v : Value) : (w.setCell ⟨b, o, none⟩ v).cell? ⟨b, o', none⟩ = w.cell? ⟨b, o', none⟩ := World.cell?_setCell_other _ _ _ _ (by intro e; injection e with _ e2; exact h e2)
theorem SrAt.mix {w : World} {b L B : Nat} {s : Sr} (h : SrAt w b L B s) (m : Int) : SrAt (w.setCell ⟨b, 2, none⟩ (.int .i64 m)).drew b L B { s with mix := m } := by
  obtain ⟨a, c, e0, hb⟩ := h.c0
  exact ⟨⟨a, c, (set_other w b (by omega) _).trans e0, bytes_set _ hb h.out⟩, (set_other w b (by omega) _).trans h.c1, World.cell?_setCell_same w _ _ h.c2, (set_other w b (by omega) _).trans h.c3, fun q => by show (w.setCell _ _).frozen? _ = false; rw [World.frozen?_setCell]; exact h.thaw q, h.out⟩
theorem SrAt.pos {w : World} {b L B : Nat} {s : Sr} (h : SrAt w b L B s) (m : Nat) : SrAt (w.setCell ⟨b, 1, none⟩ (.int .i64 m)).drew b L B { s with pos := m } := by
  obtain ⟨a, c, e0, hb⟩ := h.c0
  exact ⟨⟨a, c, (set_other w b (by omega) _).trans e0, bytes_set _ hb h.out⟩, World.cell?_setCell_same w _ _ h.c1, (set_other w b (by omega) _).trans h.c2, (set_other w b (by omega) _).trans h.c3, fun q => by show (w.setCell _ _).frozen? _ = false; rw [World.frozen?_setCell]; exact h.thaw q, h.out⟩
theorem SrAt.drew {w : World} {b L B : Nat} {s : Sr} (h : SrAt w b L B s) : SrAt w.drew b L B s := ⟨h.c0, h.c1, h.c2, h.c3, h.thaw, h.out⟩
theorem step_append_q {P : Program} {ops : Array Oper} {w : World} {o : Oper} {a : Act} {K : Act → World → Prop} {Q : Exit → Act → World → Prop} {E : Prop} (hgd : o.guard = none) (s x : Operand) (t : TypeId)
    (ho : o.op = .call { callee := .builtin .append, args := #[s, x], argTypes := #[t, t] })
    (base : Nat) (e : TypeId) (i : TypeInfo) (z : Value) (size bytes : Nat) (ht : P.underlying t = some (.slice e)) (hi : P.info? e = some i) (hz : i.zero = some z)
    (hsize : i.size = size) (hby : i.bytes = bytes) (hzs : z.cells.size = size) (hsz : 0 < size)
    (v : Value) (n : Nat) (xs : List Value) (hs : a.eval s = v) (hown : w.ownsRow base e size v n xs)
    (ad : Addr) (m c : Nat) (news : List Value) (hx : a.eval x = .slice (some ad) m c) (hl : news.length = m * size) (hnews : ∀ j u, news[j]? = some u → w.cell? (ad.add j) = some u) (h1 : ∀ u ∈ news, u.oneCell' = true)
    (h63 : n + m ≤ maxLen) (hbytes : (n + m) * bytes ≤ 140737488355328) (hbase : base ≤ w.heap.size)
    (h : ∀ v' w', w'.ownsRow base e size v' (n + m) (xs ++ news) → w.grownBy w' v.ownBlock → (v' = .slice none 0 0 ↔ v = .slice none 0 0 ∧ m = 0) → (v'.ownBlock = v.ownBlock ∨ v'.ownBlock = some w.heap.size) → K (a.put o.dst v') w') :
    if Region.wanted o (yielded ops a.tmps) = true then Oper.wp P o a w K Q else E := by
  have hw : Region.wanted o (yielded ops a.tmps) = true := by simp [Region.wanted, hgd]
  rw [if_pos hw]
  obtain ⟨v', w', hr, h2, h3, h4, h5⟩ := run_append_own_at (P := P) w base t o.type e i z size bytes ht hi hz hsize hby hzs hsz v n xs hown ad m c news hl hnews h1 h63 hbytes hbase
  unfold Oper.wp execOp
  simp only [ho, resolve, invoke, builtin, Sem.run_bind, Sem.run_pure, Result.andThen_ok, List.map_toArray, List.map_cons, List.map_nil, hs, hx, hr]
  exact h v' w' h2 h3 h4 h5
structure Mv where
  to : Int
  frm : Int
def isRead (L : List Mv) (r : Int) : Bool := L.any fun m => m.frm == r
/-- The least of some numbers. -/
def lowI : List Int → Option Int
  | [] => none
  | x :: xs => match lowI xs with
    | none => some x
    | some y => some (if x < y then x else y)
def tosM (L : List Mv) : List Int := L.map (·.to)
def freeT (L : List Mv) : List Int := (tosM L).filter fun t => !isRead L t
def cpI (m : Mv) : Ins := if m.frm < 0 then ⟨13, m.to, 0, 0, 0⟩ else ⟨11, m.to, m.frm, 0, 0⟩
def fromOf (L : List Mv) (t : Int) : Int := ((L.find? fun m => m.to == t).map (·.frm)).getD 0
def without (L : List Mv) (t : Int) : List Mv := L.filter fun m => m.to != t
def scratch (L : List Mv) (r : Int) : List Mv := L.map fun m => if m.frm = r then ⟨m.to, -1⟩ else m
def stepM (L : List Mv) : Ins × List Mv := match lowI (freeT L) with
  | some t => (cpI ⟨t, fromOf L t⟩, without L t)
  | none => match lowI (tosM L) with
    | some r => (⟨12, 0, r, 0, 0⟩, scratch L r)
    | none => (⟨0, 0, 0, 0, 0⟩, [])
structure MvOk (L : List Mv) : Prop where
  nd : (tosM L).Nodup
  to : ∀ m ∈ L, 0 ≤ m.to ∧ m.to < 64
  frm : ∀ m ∈ L, m.frm = -1 ∨ (0 ≤ m.frm ∧ m.frm < 64)
  ne : ∀ m ∈ L, m.frm ≠ m.to
def meas (L : List Mv) : Nat := L.length + (L.filter fun m => decide (0 ≤ m.frm)).length
theorem MvOk.nil : MvOk [] := ⟨by simp [tosM], by simp, by simp, by simp⟩
theorem MvOk.without {L : List Mv} (h : MvOk L) (t : Int) : MvOk (without L t) := by
  refine ⟨?_, fun m hm => h.to m (List.mem_filter.1 hm).1, fun m hm => h.frm m (List.mem_filter.1 hm).1, fun m hm => h.ne m (List.mem_filter.1 hm).1⟩
  exact h.nd.sublist (List.filter_sublist.map _)
theorem tos_scratch (L : List Mv) (r : Int) : tosM (scratch L r) = tosM L := by
  unfold tosM scratch
  rw [List.map_map]
  refine List.map_congr_left (fun m _ => ?_)
  show (if m.frm = r then (⟨m.to, -1⟩ : Mv) else m).to = m.to
  split <;> rfl
theorem MvOk.scratch {L : List Mv} (h : MvOk L) (r : Int) : MvOk (scratch L r) := by
  have key : ∀ m ∈ Go.Proofs.YtanaeindldcapaaDoor.scratch L r, ∃ q ∈ L, m = (if q.frm = r then ⟨q.to, -1⟩ else q) := fun m hm => by
    obtain ⟨q, hq, e⟩ := List.mem_map.1 hm
    exact ⟨q, hq, e.symm⟩
  refine ⟨by rw [tos_scratch]; exact h.nd, fun m hm => ?_, fun m hm => ?_, fun m hm => ?_⟩ <;> obtain ⟨q, hq, rfl⟩ := key m hm
  · have := h.to q hq; split <;> exact this
  · split
    · exact Or.inl rfl
    · exact h.frm q hq
  · have h1 := h.to q hq
    have h2 := h.ne q hq
    split
    · show (-1 : Int) ≠ q.to; omega
    · exact h2
theorem MvOk.step {L : List Mv} (h : MvOk L) : MvOk (stepM L).2 := by
  unfold stepM
  split
  · exact h.without _
  · split
    · exact h.scratch _
    · exact MvOk.nil
def startM (L : List Mv) : List Mv := L.filter fun m => m.to != m.frm
structure GoodL (L : List Mv) : Prop where
  nd : (tosM L).Nodup
  rng : ∀ m ∈ L, 0 ≤ m.to ∧ m.to < 64 ∧ 0 ≤ m.frm ∧ m.frm < 64
theorem GoodL.start {L : List Mv} (h : GoodL L) : MvOk (startM L) ∧ meas (startM L) = 2 * (startM L).length := by
  have sub : ∀ m ∈ startM L, m ∈ L ∧ m.to ≠ m.frm := fun m hm => by simpa [startM] using hm
  refine ⟨⟨h.nd.sublist (List.filter_sublist.map _), fun m hm => ?_, fun m hm => ?_, fun m hm => ?_⟩, ?_⟩
  · have := h.rng m (sub m hm).1; omega
  · have := h.rng m (sub m hm).1; omega
  · exact fun e => (sub m hm).2 e.symm
  · unfold meas
    rw [List.filter_eq_self.2 (fun m hm => by have := h.rng m (sub m hm).1; simp; omega)]
    omega
theorem info_three {P : Program} {t : Nat} {z : Value} {s b : Nat} (h : (P.info? t).map (fun i => (i.zero, i.size, i.bytes)) = some (some z, s, b)) : ∃ i, P.info? t = some i ∧ i.zero = some z ∧ i.size = s ∧ i.bytes = b := by
  cases hi : P.info? t with
  | none => rw [hi] at h; cases h
  | some i =>
    rw [hi] at h
    simp only [Option.map_some, Option.some.injEq, Prod.mk.injEq] at h
    exact ⟨i, rfl, h.1, h.2.1, h.2.2⟩
/-- The source while its bytes are taken. -/
structure SrcL (w wr : World) (bs : List UInt8) (j : Nat) (v : Value) : Prop where
  low : Below w.heap.size w wr
  size : w.heap.size + 1 ≤ wr.heap.size
  c0 : wr.cell? ⟨w.heap.size, 0, none⟩ = some v
  c1 : wr.cell? ⟨w.heap.size, 1, none⟩ = some (.int .i64 0)
  c2 : wr.cell? ⟨w.heap.size, 2, none⟩ = some (.int .i64 0)
  c3 : wr.cell? ⟨w.heap.size, 3, none⟩ = some (.int .i64 0)
  thaw : ∀ q, wr.frozen? ⟨w.heap.size, q, none⟩ = false
  own : wr.ownsRow (w.heap.size + 1) 5 1 v j (bytesV (bs.take j))
theorem SrcL.drew {w wr : World} {bs : List UInt8} {j : Nat} {v : Value} (h : SrcL w wr bs j v) : SrcL w wr.drew bs j v := ⟨h.low.drew, h.size, h.c0, h.c1, h.c2, h.c3, h.thaw, h.own⟩
theorem SrcL.step {w wr W w8 : World} {bs : List UInt8} {j : Nat} {v v8 : Value} (h : SrcL w wr bs j v) (hj : j < bs.length) (hg : wr.grownBy W none) (hg8 : W.grownBy w8 v.ownBlock)
    (ho : w8.ownsRow (w.heap.size + 1) 5 1 v8 (j + 1) (bytesV (bs.take j) ++ [.int .u8 (bs[j].toNat : Int)])) : SrcL w (w8.setCell ⟨w.heap.size, 0, none⟩ v8) bs (j + 1) v8 ∧ Below w.heap.size w w8 ∧ (∀ q, w8.frozen? ⟨w.heap.size, q, none⟩ = false) ∧ w8.cell? ⟨w.heap.size, 0, none⟩ = some v ∧ ∃ g c, v8 = .slice (some ⟨g, 0, none⟩) (j + 1) c := by
  have hn : some w.heap.size ≠ v.ownBlock := fun e => by have := (h.own.lt _ e.symm).1; omega
  have hs := h.size
  have hb : w8.heap[w.heap.size]? = wr.heap[w.heap.size]? := (hg8.block _ (by have := hg.size; omega) hn).trans (hg.block _ (by omega) (by simp))
  have l8 : Below w.heap.size w w8 := ((h.low.grown hg (by omega) (fun k e => by cases e)).grown hg8 (by have := hg.size; omega) (fun k e => by have := (h.own.lt _ e).1; omega))
  have ce : ∀ q, w8.cell? ⟨w.heap.size, q, none⟩ = wr.cell? ⟨w.heap.size, q, none⟩ := fun q => World.cell?_of_block hb
  have fe : ∀ q, w8.frozen? ⟨w.heap.size, q, none⟩ = false := fun q => (World.frozen?_of_block hb).trans (h.thaw q)
  refine ⟨⟨l8.setCell (Nat.le_refl _) _, ?_, World.cell?_setCell_same _ _ _ ((ce 0).trans h.c0), (set_other _ _ (by omega) _).trans ((ce 1).trans h.c1), (set_other _ _ (by omega) _).trans ((ce 2).trans h.c2), (set_other _ _ (by omega) _).trans ((ce 3).trans h.c3), fun q => by rw [World.frozen?_setCell]; exact fe q, ?_⟩, l8, fe, (ce 0).trans h.c0, ?_⟩
  · rw [size_setCell]; have := hg.size; have := hg8.size; omega
  · refine ownsRow_setCell_below ?_ (by show w.heap.size < _; omega) _
    rw [List.take_succ_eq_append_getElem hj, bytesV_snoc]
    exact ho
  · rcases ho.2 with ⟨_, h0⟩ | ⟨g, cap, _, e, _⟩
    · omega
    · exact ⟨g, cap, e⟩
theorem BytesAt.wide {w : World} {L B L' B' : Nat} {a : Option Addr} {bs : List UInt8} (h : BytesAt w L B a bs) (h1 : L' ≤ L) (h2 : B ≤ B') : BytesAt w L' B' a bs := fun i hi => by
  obtain ⟨b, o, e, hb, hc⟩ := h i hi
  exact ⟨b, o, e, by omega, hc⟩
theorem SrcL.done {w wr : World} {bs : List UInt8} {j : Nat} {v : Value} (h : SrcL w wr bs j v) (hj : bs.take j = bs.take 4000) : ∃ a c, v = .slice a (bs.take 4000).length c ∧ SrAt wr w.heap.size (w.heap.size + 1) wr.heap.size ⟨bs.take 4000, 0, 0, 0⟩ := by
  have ho := h.own
  rw [hj] at ho
  obtain ⟨a, c, L, B, e, hb, -, hL⟩ := bytes_owned ho
  subst e
  refine ⟨a, c, rfl, ⟨⟨a, c, h.c0, ?_⟩, h.c1, h.c2, h.c3, h.thaw, by omega⟩⟩
  rcases hL with ⟨rfl, rfl⟩ | ⟨rfl, h1, h2⟩
  · exact fun i hi => by obtain ⟨b, o, _, h2, _⟩ := hb i hi; omega
  · exact hb.wide h1 h2
theorem one_news (w : World) (u : Value) (ty : Nat) : ∀ j x, ([u] : List Value)[j]? = some x → (w.alloc (.cells #[u] ty)).cell? ((⟨w.heap.size, 0, none⟩ : Addr).add j) = some x := fun j x hj => by
  have ha : (⟨w.heap.size, 0, none⟩ : Addr).add j = ⟨w.heap.size, j, none⟩ := by unfold Addr.add; split <;> simp_all
  rw [ha]
  match j, hj with
  | 0, hj => simpa using hj
  | j + 1, hj => cases hj
def MvsAt (w : World) (L B : Nat) (a : Option Addr) (xs : List Mv) : Prop := ∀ i (h : i < xs.length), ∃ b o, a = some ⟨b, o, none⟩ ∧ (L ≤ b ∧ b < B) ∧ w.cell? ⟨b, o + i * 2, none⟩ = some (.int .i64 xs[i].to) ∧ w.cell? ⟨b, o + i * 2 + 1, none⟩ = some (.int .i64 xs[i].frm)
theorem MvsAt.keepS {w w' : World} {L B : Nat} {a : Option Addr} {xs : List Mv} (h : MvsAt w L B a xs) (k : Same L B w w') : MvsAt w' L B a xs := fun i hi => by
  obtain ⟨b, o, e, hb, h1, h2⟩ := h i hi
  have q := k b hb.1 hb.2
  exact ⟨b, o, e, hb, (cell_of q).trans h1, (cell_of q).trans h2⟩
theorem MvsAt.keep {w w' : World} {L B : Nat} {a : Option Addr} {xs : List Mv} (h : MvsAt w L B a xs) (k : Below B w w') : MvsAt w' L B a xs := h.keepS (Same.of_below k)
theorem MvsAt.mono {w : World} {L B L' B' : Nat} {a : Option Addr} {xs : List Mv} (h : MvsAt w L B a xs) (h1 : L' ≤ L) (h2 : B ≤ B') : MvsAt w L' B' a xs := fun i hi => by
  obtain ⟨b, o, e, hb, r⟩ := h i hi
  exact ⟨b, o, e, by omega, r⟩
theorem addrAdd0 (g j : Nat) : (⟨g, 0, none⟩ : Addr).add j = ⟨g, j, none⟩ := by unfold Addr.add; split <;> simp_all
theorem own_cell {w : World} {base e s g n c : Nat} {cs : List Value} (h : w.ownsRow base e s (.slice (some ⟨g, 0, none⟩) n c) n cs) {j : Nat} {u : Value} (hj : cs[j]? = some u) : w.cell? ⟨g, j, none⟩ = some u := by
  have := h.cells (g := g) rfl j u hj
  rw [addrAdd0] at this
  exact this
theorem own_thaw {w : World} {base e s g n c : Nat} {cs : List Value} (h : w.ownsRow base e s (.slice (some ⟨g, 0, none⟩) n c) n cs) (o : Nat) : w.frozen? ⟨g, o, none⟩ = false := by
  rcases h.2 with ⟨e2, _⟩ | ⟨g', cap, cur, e2, _, hh, _⟩
  · cases e2
  · injection e2 with e3
    injection e3 with e3
    injection e3 with e4
    subst e4
    simp [World.frozen?, hh]
theorem own_form {w : World} {base e s n : Nat} {v : Value} {cs : List Value} (h : w.ownsRow base e s v n cs) : (v = .slice none 0 0 ∧ n = 0 ∧ cs = []) ∨ ∃ g c, v = .slice (some ⟨g, 0, none⟩) n c ∧ (base ≤ g ∧ g < w.heap.size) ∧ n ≤ c := by
  rcases h.2 with ⟨e1, e2⟩ | ⟨g, cap, cur, e1, hb, hh, hc, _⟩
  · refine Or.inl ⟨e1, e2, List.eq_nil_of_length_eq_zero ?_⟩
    rw [h.1, e2, Nat.zero_mul]
  · exact Or.inr ⟨g, cap, e1, ⟨hb, (Array.getElem?_eq_some_iff.1 hh).1⟩, hc⟩
/-- Numbers are being drawn: the source lies in the first block that was made. -/
structure DrW (w wr : World) (B : Nat) (s : Sr) : Prop where
  low : Below w.heap.size w wr
  src : SrAt wr w.heap.size (w.heap.size + 1) B s
  ok : SrOk s
  bB : w.heap.size + 1 ≤ B
  sB : B ≤ wr.heap.size
theorem DrW.drew {w wr : World} {B : Nat} {s : Sr} (h : DrW w wr B s) : DrW w wr.drew B s := ⟨h.low.drew, h.src.drew, h.ok, h.bB, h.sB⟩
theorem SrAt.block {w w' : World} {b L B : Nat} {s : Sr} (h : SrAt w b L B s) (hb : w'.heap[b]? = w.heap[b]?) (hk : ∀ k, L ≤ k → k < B → w'.heap[k]? = w.heap[k]?) : SrAt w' b L B s := by
  obtain ⟨a, c, e0, hbb⟩ := h.c0
  have ce : ∀ q, w'.cell? ⟨b, q, none⟩ = w.cell? ⟨b, q, none⟩ := fun q => World.cell?_of_block hb
  exact ⟨⟨a, c, (ce 0).trans e0, hbb.keepS hk⟩, (ce 1).trans h.c1, (ce 2).trans h.c2, (ce 3).trans h.c3, fun q => (World.frozen?_of_block hb).trans (h.thaw q), h.out⟩
/-- Whatever turns nothing below B keeps it. -/
theorem DrW.keep {w wr w' : World} {B : Nat} {s : Sr} (h : DrW w wr B s) (hk : Below B wr w') : DrW w w' B s := by
  have h1 := h.bB
  exact ⟨h.low.trans (hk.mono (by omega)), h.src.block (hk.block _ (by omega)) (fun k _ h2 => hk.block k h2), h.ok, h.bB, Nat.le_trans h.sB hk.size⟩
theorem own_grown {w w' : World} {B t sz b n : Nat} {v : Value} {cs : List Value} (h : w.ownsRow B t sz v n cs) (hg : w.grownBy w' (some b)) (hb : b < B) : w'.ownsRow B t sz v n cs :=
  h.kept hg (by
    cases e : v.ownBlock with
    | none => exact Or.inl rfl
    | some k => exact Or.inr (fun e2 => by cases e2; have := (h.lt _ e).1; omega))
theorem own_blk {w w1 : World} {B t s g : Nat} {n c : Nat} {xs : List Value} (h : w.ownsRow B t s (.slice (some ⟨g, 0, none⟩) n c) n xs) (k : w1.heap[g]? = w.heap[g]?) : w1.ownsRow B t s (.slice (some ⟨g, 0, none⟩) n c) n xs := by
  obtain ⟨hl, h | ⟨g', cap, cur, e, hg, hh, hc⟩⟩ := h
  · exact ⟨hl, Or.inl h⟩
  · cases e
    exact ⟨hl, Or.inr ⟨g, c, cur, rfl, hg, k.trans hh, hc⟩⟩
/-- A cell of an owned row is written. -/
theorem own_set {w : World} {B t sz g n c k : Nat} {cs : List Value} (h : w.ownsRow B t sz (.slice (some ⟨g, 0, none⟩) n c) n cs) (u : Value) : (w.setCell ⟨g, k, none⟩ u).ownsRow B t sz (.slice (some ⟨g, 0, none⟩) n c) n (cs.set k u) := by
  obtain ⟨hl, h0 | ⟨g', cap, cur, e, hg, hh, hc, hm, hs, ht⟩⟩ := h
  · cases h0.1
  · cases e
    refine ⟨by rw [List.length_set]; exact hl, Or.inr ⟨g, c, cur.setIfInBounds k u, rfl, hg, ?_, hc, hm, by rw [Array.size_setIfInBounds]; exact hs, ?_⟩⟩
    · exact heap_setCell_same w g k cur t u hh
    · rw [Array.toList_setIfInBounds, List.take_set, ht]
theorem own_some' {w : World} {base e s n : Nat} {v : Value} {cs : List Value} (h : w.ownsRow base e s v n cs) (hn : 0 < n) : ∃ g c, v = .slice (some ⟨g, 0, none⟩) n c ∧ (base ≤ g ∧ g < w.heap.size) ∧ n ≤ c := by
  rcases own_form h with ⟨_, e, _⟩ | h
  · omega
  · exact h
theorem nat_of {x : Int} (h : 0 ≤ x) : ∃ m : Nat, x = m := ⟨x.toNat, by omega⟩
end Go.Proofs.YtanaeindldcapaaDoor
