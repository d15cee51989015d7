import Derived.Test.YtjfcbjomfbfoiaaGreatDoorIw
import Derived.Test.YtjfcbjomfbfoiaaGreatDoorProg
import Derived.WalkKit
import Derived.WalkSpells
import Derived.WalkLawsBesides
import Derived.Deep.RegionHeld3
import Derived.Test.YtjfcbjomfbfoiaaGreatDoorMem
import Derived.Deep.DrawnRows
import Derived.Maps.AppendAt
import Derived.Test.YtjfcbjomfbfoiaaGreatDoorW5
import Derived.Test.YtjfcbjomfbfoiaaGreatDoorW7
import Derived.Test.YtjfcbjomfbfoiaaGreatDoorNSP
import Derived.Test.YtjfcbjomfbfoiaaGreatDoorNSb
import Derived.Test.YtjfcbjomfbfoiaaGreatDoorW10
namespace Go.Proofs.YtjfcbjomfbfoiaaGreatDoor
open Go.RowKit
structure Sr where
  code : List UInt8
  pos : Nat
  mix : Int
  size : Int
structure SrOk (s : Sr) : Prop where
  len : s.code.length ≤ 4000
  pos : s.pos ≤ s.code.length
  mix : 0 ≤ s.mix ∧ s.mix < 1000003
  size : 1 ≤ s.size ∧ s.size ≤ 7
/-- The source in memory. -/
structure SrAt (w : World) (b L B : Nat) (s : Sr) : Prop where
  c0 : ∃ a c, w.cell? ⟨b, 0, none⟩ = some (.slice a s.code.length c) ∧ BytesAt w L B a s.code
  c1 : w.cell? ⟨b, 1, none⟩ = some (.int .i64 s.pos)
  c2 : w.cell? ⟨b, 2, none⟩ = some (.int .i64 s.mix)
  c3 : w.cell? ⟨b, 3, none⟩ = some (.int .i64 s.size)
  thaw : ∀ q, w.frozen? ⟨b, q, none⟩ = false
  out : ¬ (L ≤ b ∧ b < B)
theorem bytes_set {w : World} {b q L B : Nat} {a : Option Addr} {bs : List UInt8} (v : Value) (hb : BytesAt w L B a bs) (ho : ¬ (L ≤ b ∧ b < B)) : BytesAt (w.setCell ⟨b, q, none⟩ v) L B a bs := hb.keepS (fun k h1 h2 => Below.heap_setCell _ _ _ _ (by show k ≠ b; intro e; exact ho (by omega)))
theorem set_other (w : World) (b : Nat) {o o' : Nat} (h : o ≠ o') (v : Value) : (w.setCell ⟨b, o, none⟩ v).cell? ⟨b, o', none⟩ = w.cell? ⟨b, o', none⟩ := World.cell?_setCell_other _ _ _ _ (by intro e; injection e with _ e2; exact h e2)
theorem SrAt.mix {w : World} {b L B : Nat} {s : Sr} (h : SrAt w b L B s) (m : Int) : SrAt (w.setCell ⟨b, 2, none⟩ (.int .i64 m)).drew b L B { s with mix := m } := by
  obtain ⟨a, c, e0, hb⟩ := h.c0
  exact ⟨⟨a, c, (set_other w b (by omega) _).trans e0, bytes_set _ hb h.out⟩, (set_other w b (by omega) _).trans h.c1, World.cell?_setCell_same w _ _ h.c2, (set_other w b (by omega) _).trans h.c3, fun q => by show (w.setCell _ _).frozen? _ = false; rw [World.frozen?_setCell]; exact h.thaw q, h.out⟩
theorem SrAt.pos {w : World} {b L B : Nat} {s : Sr} (h : SrAt w b L B s) (m : Nat) : SrAt (w.setCell ⟨b, 1, none⟩ (.int .i64 m)).drew b L B { s with pos := m } := by
  obtain ⟨a, c, e0, hb⟩ := h.c0
  exact ⟨⟨a, c, (set_other w b (by omega) _).trans e0, bytes_set _ hb h.out⟩, World.cell?_setCell_same w _ _ h.c1, (set_other w b (by omega) _).trans h.c2, (set_other w b (by omega) _).trans h.c3, fun q => by show (w.setCell _ _).frozen? _ = false; rw [World.frozen?_setCell]; exact h.thaw q, h.out⟩
theorem SrAt.drew {w : World} {b L B : Nat} {s : Sr} (h : SrAt w b L B s) : SrAt w.drew b L B s := ⟨h.c0, h.c1, h.c2, h.c3, h.thaw, h.out⟩
end Go.Proofs.YtjfcbjomfbfoiaaGreatDoor

namespace Go.Proofs.YtjfcbjomfbfoiaaGreatDoor
structure Mv where
  to : Int
  frm : Int
def isRead (L : List Mv) (r : Int) : Bool := L.any fun m => m.frm == r
/-- The least of some numbers. -/
def lowI : List Int → Option Int
  | [] => none
  | x :: xs => match lowI xs with
    | none => some x
    | some y => some (if x < y then x else y)
def tosM (L : List Mv) : List Int := L.map (·.to)
def freeT (L : List Mv) : List Int := (tosM L).filter fun t => !isRead L t
def cpI (m : Mv) : Ins := if m.frm < 0 then ⟨13, m.to, 0, 0, 0⟩ else ⟨11, m.to, m.frm, 0, 0⟩
def fromOf (L : List Mv) (t : Int) : Int := ((L.find? fun m => m.to == t).map (·.frm)).getD 0
def without (L : List Mv) (t : Int) : List Mv := L.filter fun m => m.to != t
def scratch (L : List Mv) (r : Int) : List Mv := L.map fun m => if m.frm = r then ⟨m.to, -1⟩ else m
def stepM (L : List Mv) : Ins × List Mv := match lowI (freeT L) with
  | some t => (cpI ⟨t, fromOf L t⟩, without L t)
  | none => match lowI (tosM L) with
    | some r => (⟨12, 0, r, 0, 0⟩, scratch L r)
    | none => (⟨0, 0, 0, 0, 0⟩, [])
structure MvOk (L : List Mv) : Prop where
  nd : (tosM L).Nodup
  to : ∀ m ∈ L, 0 ≤ m.to ∧ m.to < 64
  frm : ∀ m ∈ L, m.frm = -1 ∨ (0 ≤ m.frm ∧ m.frm < 64)
  ne : ∀ m ∈ L, m.frm ≠ m.to
def meas (L : List Mv) : Nat := L.length + (L.filter fun m => decide (0 ≤ m.frm)).length
theorem MvOk.nil : MvOk [] := ⟨by simp [tosM], by simp, by simp, by simp⟩
theorem MvOk.without {L : List Mv} (h : MvOk L) (t : Int) : MvOk (without L t) := by
  refine ⟨?_, fun m hm => h.to m (List.mem_filter.1 hm).1, fun m hm => h.frm m (List.mem_filter.1 hm).1, fun m hm => h.ne m (List.mem_filter.1 hm).1⟩
  exact h.nd.sublist (List.filter_sublist.map _)
theorem tos_scratch (L : List Mv) (r : Int) : tosM (scratch L r) = tosM L := by
  unfold tosM scratch
  rw [List.map_map]
  refine List.map_congr_left (fun m _ => ?_)
  show (if m.frm = r then (⟨m.to, -1⟩ : Mv) else m).to = m.to
  split <;> rfl
theorem MvOk.scratch {L : List Mv} (h : MvOk L) (r : Int) : MvOk (scratch L r) := by
  have key : ∀ m ∈ Go.Proofs.YtjfcbjomfbfoiaaGreatDoor.scratch L r, ∃ q ∈ L, m = (if q.frm = r then ⟨q.to, -1⟩ else q) := fun m hm => by
    obtain ⟨q, hq, e⟩ := List.mem_map.1 hm
    exact ⟨q, hq, e.symm⟩
  refine ⟨by rw [tos_scratch]; exact h.nd, fun m hm => ?_, fun m hm => ?_, fun m hm => ?_⟩ <;> obtain ⟨q, hq, rfl⟩ := key m hm
  · have := h.to q hq; split <;> exact this
  · split
    · exact Or.inl rfl
    · exact h.frm q hq
  · have h1 := h.to q hq
    have h2 := h.ne q hq
    split
    · show (-1 : Int) ≠ q.to; omega
    · exact h2
theorem MvOk.step {L : List Mv} (h : MvOk L) : MvOk (stepM L).2 := by
  unfold stepM
  split
  · exact h.without _
  · split
    · exact h.scratch _
    · exact MvOk.nil
def startM (L : List Mv) : List Mv := L.filter fun m => m.to != m.frm
structure GoodL (L : List Mv) : Prop where
  nd : (tosM L).Nodup
  rng : ∀ m ∈ L, 0 ≤ m.to ∧ m.to < 64 ∧ 0 ≤ m.frm ∧ m.frm < 64
theorem GoodL.start {L : List Mv} (h : GoodL L) : MvOk (startM L) ∧ meas (startM L) = 2 * (startM L).length := by
  have sub : ∀ m ∈ startM L, m ∈ L ∧ m.to ≠ m.frm := fun m hm => by simpa [startM] using hm
  refine ⟨⟨h.nd.sublist (List.filter_sublist.map _), fun m hm => ?_, fun m hm => ?_, fun m hm => ?_⟩, ?_⟩
  · have := h.rng m (sub m hm).1; omega
  · have := h.rng m (sub m hm).1; omega
  · exact fun e => (sub m hm).2 e.symm
  · unfold meas
    rw [List.filter_eq_self.2 (fun m hm => by have := h.rng m (sub m hm).1; simp; omega)]
    omega
end Go.Proofs.YtjfcbjomfbfoiaaGreatDoor

namespace Go.Proofs.YtjfcbjomfbfoiaaGreatDoor
open Go.RowKit
theorem info_three {P : Program} {t : Nat} {z : Value} {s b : Nat} (h : (P.info? t).map (fun i => (i.zero, i.size, i.bytes)) = some (some z, s, b)) : ∃ i, P.info? t = some i ∧ i.zero = some z ∧ i.size = s ∧ i.bytes = b := by
  cases hi : P.info? t with
  | none => rw [hi] at h; cases h
  | some i =>
    rw [hi] at h
    simp only [Option.map_some, Option.some.injEq, Prod.mk.injEq] at h
    exact ⟨i, rfl, h.1, h.2.1, h.2.2⟩
/-- append in a region that draws. -/
theorem step_append_one {P : Program} {ops : Array Oper} {w : World} {o : Oper} {a : Act} {K : Act → World → Prop} {Q : Exit → Act → World → Prop} {E : Prop} (hgd : o.guard = none) (s x : Operand) (t : TypeId)
    (ho : o.op = .call { callee := .builtin .append, args := #[s, x], argTypes := #[t, t] })
    (base : Nat) (e : TypeId) (i : TypeInfo) (z : Value) (size bytes : Nat) (ht : P.underlying t = some (.slice e)) (hi : P.info? e = some i) (hz : i.zero = some z)
    (hsize : i.size = size) (hby : i.bytes = bytes) (hzs : z.cells.size = size) (hsz : 0 < size)
    (v : Value) (n : Nat) (xs : List Value) (hs : a.eval s = v) (hown : w.ownsRow base e size v n xs)
    (ad : Addr) (m c : Nat) (news : List Value) (hx : a.eval x = .slice (some ad) m c) (hl : news.length = m * size) (hnews : ∀ j u, news[j]? = some u → w.cell? (ad.add j) = some u) (h1 : ∀ u ∈ news, u.oneCell' = true)
    (h63 : n + m ≤ maxLen) (hbytes : (n + m) * bytes ≤ 140737488355328) (hbase : base ≤ w.heap.size)
    (h : ∀ v' w', w'.ownsRow base e size v' (n + m) (xs ++ news) → w.grownBy w' v.ownBlock → (v' = .slice none 0 0 ↔ v = .slice none 0 0 ∧ m = 0) → (v'.ownBlock = v.ownBlock ∨ v'.ownBlock = some w.heap.size) → K (a.put o.dst v') w') :
    if Region.wanted o (yielded ops a.tmps) = true then Oper.wp P o a w K Q else E := by
  have hw : Region.wanted o (yielded ops a.tmps) = true := by simp [Region.wanted, hgd]
  rw [if_pos hw]
  obtain ⟨v', w', hr, h2, h3, h4, h5⟩ := run_append_own_at (P := P) w base t o.type e i z size bytes ht hi hz hsize hby hzs hsz v n xs hown ad m c news hl hnews h1 h63 hbytes hbase
  unfold Oper.wp execOp
  simp only [ho, resolve, invoke, builtin, Sem.run_bind, Sem.run_pure, Result.andThen_ok, List.map_toArray, List.map_cons, List.map_nil, hs, hx, hr]
  exact h v' w' h2 h3 h4 h5
/-- The source while its bytes are taken. -/
structure SrcL (w wr : World) (bs : List UInt8) (j : Nat) (v : Value) : Prop where
  low : Below w.heap.size w wr
  size : w.heap.size + 1 ≤ wr.heap.size
  c0 : wr.cell? ⟨w.heap.size, 0, none⟩ = some v
  c1 : wr.cell? ⟨w.heap.size, 1, none⟩ = some (.int .i64 0)
  c2 : wr.cell? ⟨w.heap.size, 2, none⟩ = some (.int .i64 0)
  c3 : wr.cell? ⟨w.heap.size, 3, none⟩ = some (.int .i64 0)
  thaw : ∀ q, wr.frozen? ⟨w.heap.size, q, none⟩ = false
  own : wr.ownsRow (w.heap.size + 1) 5 1 v j (bytesV (bs.take j))
theorem SrcL.drew {w wr : World} {bs : List UInt8} {j : Nat} {v : Value} (h : SrcL w wr bs j v) : SrcL w wr.drew bs j v := ⟨h.low.drew, h.size, h.c0, h.c1, h.c2, h.c3, h.thaw, h.own⟩
theorem SrcL.step {w wr W w8 : World} {bs : List UInt8} {j : Nat} {v v8 : Value} (h : SrcL w wr bs j v) (hj : j < bs.length) (hg : wr.grownBy W none) (hg8 : W.grownBy w8 v.ownBlock)
    (ho : w8.ownsRow (w.heap.size + 1) 5 1 v8 (j + 1) (bytesV (bs.take j) ++ [.int .u8 (bs[j].toNat : Int)])) : SrcL w (w8.setCell ⟨w.heap.size, 0, none⟩ v8) bs (j + 1) v8 ∧ Below w.heap.size w w8 ∧ (∀ q, w8.frozen? ⟨w.heap.size, q, none⟩ = false) ∧ w8.cell? ⟨w.heap.size, 0, none⟩ = some v ∧ ∃ g c, v8 = .slice (some ⟨g, 0, none⟩) (j + 1) c := by
  have hn : some w.heap.size ≠ v.ownBlock := fun e => by have := (h.own.lt _ e.symm).1; omega
  have hs := h.size
  have hb : w8.heap[w.heap.size]? = wr.heap[w.heap.size]? := (hg8.block _ (by have := hg.size; omega) hn).trans (hg.block _ (by omega) (by simp))
  have l8 : Below w.heap.size w w8 := ((h.low.grown hg (by omega) (fun k e => by cases e)).grown hg8 (by have := hg.size; omega) (fun k e => by have := (h.own.lt _ e).1; omega))
  have ce : ∀ q, w8.cell? ⟨w.heap.size, q, none⟩ = wr.cell? ⟨w.heap.size, q, none⟩ := fun q => World.cell?_of_block hb
  have fe : ∀ q, w8.frozen? ⟨w.heap.size, q, none⟩ = false := fun q => (World.frozen?_of_block hb).trans (h.thaw q)
  refine ⟨⟨l8.setCell (Nat.le_refl _) _, ?_, World.cell?_setCell_same _ _ _ ((ce 0).trans h.c0), (set_other _ _ (by omega) _).trans ((ce 1).trans h.c1), (set_other _ _ (by omega) _).trans ((ce 2).trans h.c2), (set_other _ _ (by omega) _).trans ((ce 3).trans h.c3), fun q => by rw [World.frozen?_setCell]; exact fe q, ?_⟩, l8, fe, (ce 0).trans h.c0, ?_⟩
  · rw [size_setCell]; have := hg.size; have := hg8.size; omega
  · refine ownsRow_setCell_below ?_ (by show w.heap.size < _; omega) _
    rw [List.take_succ_eq_append_getElem hj, bytesV_snoc]
    exact ho
  · rcases ho.2 with ⟨_, h0⟩ | ⟨g, cap, _, e, _⟩
    · omega
    · exact ⟨g, cap, e⟩
theorem BytesAt.wide {w : World} {L B L' B' : Nat} {a : Option Addr} {bs : List UInt8} (h : BytesAt w L B a bs) (h1 : L' ≤ L) (h2 : B ≤ B') : BytesAt w L' B' a bs := fun i hi => by
  obtain ⟨b, o, e, hb, hc⟩ := h i hi
  exact ⟨b, o, e, by omega, hc⟩
theorem SrcL.done {w wr : World} {bs : List UInt8} {j : Nat} {v : Value} (h : SrcL w wr bs j v) (hj : bs.take j = bs.take 4000) : ∃ a c, v = .slice a (bs.take 4000).length c ∧ SrAt wr w.heap.size (w.heap.size + 1) wr.heap.size ⟨bs.take 4000, 0, 0, 0⟩ := by
  have ho := h.own
  rw [hj] at ho
  obtain ⟨a, c, L, B, e, hb, -, hL⟩ := bytes_owned ho
  subst e
  refine ⟨a, c, rfl, ⟨⟨a, c, h.c0, ?_⟩, h.c1, h.c2, h.c3, h.thaw, by omega⟩⟩
  rcases hL with ⟨rfl, rfl⟩ | ⟨rfl, h1, h2⟩
  · exact fun i hi => by obtain ⟨b, o, _, h2, _⟩ := hb i hi; omega
  · exact hb.wide h1 h2
theorem one_news (w : World) (u : Value) (ty : Nat) : ∀ j x, ([u] : List Value)[j]? = some x → (w.alloc (.cells #[u] ty)).cell? ((⟨w.heap.size, 0, none⟩ : Addr).add j) = some x := fun j x hj => by
  have ha : (⟨w.heap.size, 0, none⟩ : Addr).add j = ⟨w.heap.size, j, none⟩ := by unfold Addr.add; split <;> simp_all
  rw [ha]
  match j, hj with
  | 0, hj => simpa using hj
  | j + 1, hj => cases hj
end Go.Proofs.YtjfcbjomfbfoiaaGreatDoor

namespace Go.Proofs.YtjfcbjomfbfoiaaGreatDoor
open Go.RowKit
def MvsAt (w : World) (L B : Nat) (a : Option Addr) (xs : List Mv) : Prop := ∀ i (h : i < xs.length), ∃ b o, a = some ⟨b, o, none⟩ ∧ (L ≤ b ∧ b < B) ∧ w.cell? ⟨b, o + i * 2, none⟩ = some (.int .i64 xs[i].to) ∧ w.cell? ⟨b, o + i * 2 + 1, none⟩ = some (.int .i64 xs[i].frm)
theorem MvsAt.keepS {w w' : World} {L B : Nat} {a : Option Addr} {xs : List Mv} (h : MvsAt w L B a xs) (k : Same L B w w') : MvsAt w' L B a xs := fun i hi => by
  obtain ⟨b, o, e, hb, h1, h2⟩ := h i hi
  have q := k b hb.1 hb.2
  exact ⟨b, o, e, hb, (cell_of q).trans h1, (cell_of q).trans h2⟩
theorem MvsAt.keep {w w' : World} {L B : Nat} {a : Option Addr} {xs : List Mv} (h : MvsAt w L B a xs) (k : Below B w w') : MvsAt w' L B a xs := h.keepS (Same.of_below k)
theorem MvsAt.mono {w : World} {L B L' B' : Nat} {a : Option Addr} {xs : List Mv} (h : MvsAt w L B a xs) (h1 : L' ≤ L) (h2 : B ≤ B') : MvsAt w L' B' a xs := fun i hi => by
  obtain ⟨b, o, e, hb, r⟩ := h i hi
  exact ⟨b, o, e, by omega, r⟩
end Go.Proofs.YtjfcbjomfbfoiaaGreatDoor

namespace Go.Proofs.YtjfcbjomfbfoiaaGreatDoor
open Go.RowKit
theorem addrAdd0 (g j : Nat) : (⟨g, 0, none⟩ : Addr).add j = ⟨g, j, none⟩ := by unfold Addr.add; split <;> simp_all
theorem own_cell {w : World} {base e s g n c : Nat} {cs : List Value} (h : w.ownsRow base e s (.slice (some ⟨g, 0, none⟩) n c) n cs) {j : Nat} {u : Value} (hj : cs[j]? = some u) : w.cell? ⟨g, j, none⟩ = some u := by
  have := h.cells (g := g) rfl j u hj
  rw [addrAdd0] at this
  exact this
theorem own_thaw {w : World} {base e s g n c : Nat} {cs : List Value} (h : w.ownsRow base e s (.slice (some ⟨g, 0, none⟩) n c) n cs) (o : Nat) : w.frozen? ⟨g, o, none⟩ = false := by
  rcases h.2 with ⟨e2, _⟩ | ⟨g', cap, cur, e2, _, hh, _⟩
  · cases e2
  · injection e2 with e3
    injection e3 with e3
    injection e3 with e4
    subst e4
    simp [World.frozen?, hh]
theorem own_form {w : World} {base e s n : Nat} {v : Value} {cs : List Value} (h : w.ownsRow base e s v n cs) : (v = .slice none 0 0 ∧ n = 0 ∧ cs = []) ∨ ∃ g c, v = .slice (some ⟨g, 0, none⟩) n c ∧ (base ≤ g ∧ g < w.heap.size) ∧ n ≤ c := by
  rcases h.2 with ⟨e1, e2⟩ | ⟨g, cap, cur, e1, hb, hh, hc, _⟩
  · refine Or.inl ⟨e1, e2, List.eq_nil_of_length_eq_zero ?_⟩
    rw [h.1, e2, Nat.zero_mul]
  · exact Or.inr ⟨g, cap, e1, ⟨hb, (Array.getElem?_eq_some_iff.1 hh).1⟩, hc⟩
end Go.Proofs.YtjfcbjomfbfoiaaGreatDoor

namespace Go.Proofs.YtjfcbjomfbfoiaaGreatDoor
open Go.RowKit
/-- Numbers are being drawn: the source lies in the first block that was made. -/
structure DrW (w wr : World) (B : Nat) (s : Sr) : Prop where
  low : Below w.heap.size w wr
  src : SrAt wr w.heap.size (w.heap.size + 1) B s
  ok : SrOk s
  bB : w.heap.size + 1 ≤ B
  sB : B ≤ wr.heap.size
theorem DrW.drew {w wr : World} {B : Nat} {s : Sr} (h : DrW w wr B s) : DrW w wr.drew B s := ⟨h.low.drew, h.src.drew, h.ok, h.bB, h.sB⟩
theorem SrAt.block {w w' : World} {b L B : Nat} {s : Sr} (h : SrAt w b L B s) (hb : w'.heap[b]? = w.heap[b]?) (hk : ∀ k, L ≤ k → k < B → w'.heap[k]? = w.heap[k]?) : SrAt w' b L B s := by
  obtain ⟨a, c, e0, hbb⟩ := h.c0
  have ce : ∀ q, w'.cell? ⟨b, q, none⟩ = w.cell? ⟨b, q, none⟩ := fun q => World.cell?_of_block hb
  exact ⟨⟨a, c, (ce 0).trans e0, hbb.keepS hk⟩, (ce 1).trans h.c1, (ce 2).trans h.c2, (ce 3).trans h.c3, fun q => (World.frozen?_of_block hb).trans (h.thaw q), h.out⟩
/-- Whatever turns nothing below B keeps it. -/
theorem DrW.keep {w wr w' : World} {B : Nat} {s : Sr} (h : DrW w wr B s) (hk : Below B wr w') : DrW w w' B s := by
  have h1 := h.bB
  exact ⟨h.low.trans (hk.mono (by omega)), h.src.block (hk.block _ (by omega)) (fun k _ h2 => hk.block k h2), h.ok, h.bB, Nat.le_trans h.sB hk.size⟩
theorem own_grown {w w' : World} {B t sz b n : Nat} {v : Value} {cs : List Value} (h : w.ownsRow B t sz v n cs) (hg : w.grownBy w' (some b)) (hb : b < B) : w'.ownsRow B t sz v n cs :=
  h.kept hg (by
    cases e : v.ownBlock with
    | none => exact Or.inl rfl
    | some k => exact Or.inr (fun e2 => by cases e2; have := (h.lt _ e).1; omega))
/-- A cell of an owned row is written. -/
theorem own_set {w : World} {B t sz g n c k : Nat} {cs : List Value} (h : w.ownsRow B t sz (.slice (some ⟨g, 0, none⟩) n c) n cs) (u : Value) : (w.setCell ⟨g, k, none⟩ u).ownsRow B t sz (.slice (some ⟨g, 0, none⟩) n c) n (cs.set k u) := by
  obtain ⟨hl, h0 | ⟨g', cap, cur, e, hg, hh, hc, hm, hs, ht⟩⟩ := h
  · cases h0.1
  · cases e
    refine ⟨by rw [List.length_set]; exact hl, Or.inr ⟨g, c, cur.setIfInBounds k u, rfl, hg, ?_, hc, hm, by rw [Array.size_setIfInBounds]; exact hs, ?_⟩⟩
    · exact heap_setCell_same w g k cur t u hh
    · rw [Array.toList_setIfInBounds, List.take_set, ht]
theorem own_some' {w : World} {base e s n : Nat} {v : Value} {cs : List Value} (h : w.ownsRow base e s v n cs) (hn : 0 < n) : ∃ g c, v = .slice (some ⟨g, 0, none⟩) n c ∧ (base ≤ g ∧ g < w.heap.size) ∧ n ≤ c := by
  rcases own_form h with ⟨_, e, _⟩ | h
  · omega
  · exact h
theorem nat_of {x : Int} (h : 0 ≤ x) : ∃ m : Nat, x = m := ⟨x.toNat, by omega⟩
end Go.Proofs.YtjfcbjomfbfoiaaGreatDoor

namespace Go.Proofs.YtjfcbjomfbfoiaaGreatDoor
open Go.RowKit
def natV (L : List Nat) : List Value := L.map fun (x : Nat) => Value.int .i64 (x : Int)
theorem natV_snoc (L : List Nat) (x : Nat) : natV (L ++ [x]) = natV L ++ [.int .i64 (x : Int)] := by simp [natV]
theorem ints_one (w : World) (b ty : Nat) : IntsAt (w.alloc (.cells #[.int .i64 (b : Int)] ty)) w.heap.size (w.heap.size + 1) (some ⟨w.heap.size, 0, none⟩) ([b].map Int.ofNat) := fun i hi => by
  have : i = 0 := by simpa using hi
  subst this
  exact ⟨_, 0, rfl, ⟨Nat.le_refl _, Nat.lt_succ_self _⟩, by simp⟩
theorem tg_two (t : Ter) : t.targets.length ≤ 2 := by
  unfold Ter.targets
  split
  · simp
  · split <;> simp
/-- The search in memory. -/
structure SeaAt (w : World) (bS gS BL K : Nat) (ab : Option Addr) (nb cb : Nat) (W : Nat → Nat) (v : Value) (L : List Nat) : Prop where
  c0 : w.cell? ⟨bS, 0, none⟩ = some (.slice ab nb cb)
  c1 : w.cell? ⟨bS, 1, none⟩ = some (.slice (some ⟨gS, 0, none⟩) K K)
  c2 : w.cell? ⟨bS, 2, none⟩ = some v
  thaw : ∀ q, w.frozen? ⟨bS, q, none⟩ = false
  row : w.rowIs gS 140 K (fun i => .int .u64 (W i))
  own : w.ownsRow BL 2 1 v L.length (natV L)
  lb : bS < BL
  lg : gS < BL
  ne : bS ≠ gS
  sz : BL ≤ w.heap.size
/-- What a visit may turn. -/
structure FrV (w w' : World) (bS gS : Nat) (v v' : Value) : Prop where
  os : w'.os = w.os
  tape : w'.tape = w.tape
  output : w'.output = w.output
  size : w.heap.size ≤ w'.heap.size
  block : ∀ k, k < w.heap.size → k ≠ bS → k ≠ gS → some k ≠ v.ownBlock → w'.heap[k]? = w.heap[k]?
  own : v'.ownBlock = v.ownBlock ∨ ∀ k, v'.ownBlock = some k → w.heap.size ≤ k
theorem FrV.refl (w : World) (bS gS : Nat) (v : Value) : FrV w w bS gS v v := ⟨rfl, rfl, rfl, Nat.le_refl _, fun _ _ _ _ _ => rfl, Or.inl rfl⟩
theorem FrV.trans {w w1 w2 : World} {bS gS : Nat} {v v1 v2 : Value} (h : FrV w w1 bS gS v v1) (k : FrV w1 w2 bS gS v1 v2) : FrV w w2 bS gS v v2 := by
  refine ⟨k.os.trans h.os, k.tape.trans h.tape, k.output.trans h.output, Nat.le_trans h.size k.size, fun j h1 h2 h3 h4 => ?_, ?_⟩
  · refine (k.block j (Nat.lt_of_lt_of_le h1 h.size) h2 h3 (fun e => ?_)).trans (h.block j h1 h2 h3 h4)
    rcases h.own with ho | ho
    · exact h4 (by rw [e, ho])
    · have := ho j e.symm; omega
  · rcases k.own with ko | ko
    · rcases h.own with ho | ho
      · exact Or.inl (ko.trans ho)
      · exact Or.inr (fun j e => ho j (by rw [← ko]; exact e))
    · exact Or.inr (fun j e => Nat.le_trans h.size (ko j e))
theorem FrV.of_below {w w' : World} {bS gS : Nat} {v : Value} (h : Below w.heap.size w w') : FrV w w' bS gS v v := ⟨h.os, h.tape, h.output, h.size, fun k h1 _ _ _ => h.block k h1, Or.inl rfl⟩
theorem FrV.of_grown {w w' : World} {bS gS : Nat} {v : Value} (h : w.grownBy w' (some gS)) : FrV w w' bS gS v v := ⟨h.os, h.tape, h.output, h.size, fun k h1 _ h3 _ => h.block k h1 (fun e => h3 (by injection e)), Or.inl rfl⟩
theorem SeaAt.below {w w' : World} {bS gS BL K : Nat} {ab : Option Addr} {nb cb : Nat} {W : Nat → Nat} {v : Value} {L : List Nat} (h : SeaAt w bS gS BL K ab nb cb W v L) (k : Below w.heap.size w w') : SeaAt w' bS gS BL K ab nb cb W v L := by
  have hz := h.sz
  have hb : w'.heap[bS]? = w.heap[bS]? := k.block bS (by have := h.lb; omega)
  have ce : ∀ q, w'.cell? ⟨bS, q, none⟩ = w.cell? ⟨bS, q, none⟩ := fun q => World.cell?_of_block hb
  refine ⟨(ce 0).trans h.c0, (ce 1).trans h.c1, (ce 2).trans h.c2, fun q => (World.frozen?_of_block hb).trans (h.thaw q), h.row.of_block (k.block gS (by have := h.lg; omega)), ?_, h.lb, h.lg, h.ne, Nat.le_trans hz k.size⟩
  refine h.own.kept (row := none) ⟨k.os, k.tape, k.output, k.size, fun j hj _ => k.block j hj⟩ ?_
  cases v.ownBlock with
  | none => exact Or.inl rfl
  | some j => exact Or.inr (by simp)
/-- The set of what is seen has grown. -/
theorem SeaAt.seen {w w' : World} {bS gS BL K : Nat} {ab : Option Addr} {nb cb : Nat} {W W' : Nat → Nat} {v : Value} {L : List Nat} (h : SeaAt w bS gS BL K ab nb cb W v L) (k : w.grownBy w' (some gS)) (hr : w'.rowIs gS 140 K (fun i => .int .u64 (W' i))) : SeaAt w' bS gS BL K ab nb cb W' v L := by
  have hz := h.sz
  have hb : w'.heap[bS]? = w.heap[bS]? := k.block bS (by have := h.lb; omega) (fun e => h.ne (by injection e))
  have ce : ∀ q, w'.cell? ⟨bS, q, none⟩ = w.cell? ⟨bS, q, none⟩ := fun q => World.cell?_of_block hb
  exact ⟨(ce 0).trans h.c0, (ce 1).trans h.c1, (ce 2).trans h.c2, fun q => (World.frozen?_of_block hb).trans (h.thaw q), hr, own_grown h.own k h.lg, h.lb, h.lg, h.ne, Nat.le_trans hz k.size⟩
theorem SeaAt.push {w w8 : World} {bS gS BL K : Nat} {ab : Option Addr} {nb cb : Nat} {W : Nat → Nat} {v v8 : Value} {L : List Nat} {b : Nat} {ob : Obj} (h : SeaAt w bS gS BL K ab nb cb W v L) (hg : (w.alloc ob).grownBy w8 v.ownBlock) (ho : w8.ownsRow BL 2 1 v8 (L.length + 1) (natV L ++ [.int .i64 (b : Int)])) (hat : v8.ownBlock = v.ownBlock ∨ v8.ownBlock = some (w.heap.size + 1)) :
    SeaAt (w8.setCell ⟨bS, 2, none⟩ v8) bS gS BL K ab nb cb W v8 (L ++ [b]) ∧ FrV w (w8.setCell ⟨bS, 2, none⟩ v8) bS gS v v8 ∧ w8.cell? ⟨bS, 2, none⟩ = some v ∧ w8.frozen? ⟨bS, 2, none⟩ = false := by
  have hz := h.sz
  have hlb := h.lb
  have hlg := h.lg
  have hsz : (w.alloc ob).heap.size = w.heap.size + 1 := World.size_alloc _ _
  have hgs := hg.size
  have hnv : ∀ k, k < BL → some k ≠ v.ownBlock := fun k hk e => by have := (h.own.lt k e.symm).1; omega
  have ha : ∀ k, k < w.heap.size → (w.alloc ob).heap[k]? = w.heap[k]? := fun k hk => Below.heap_alloc _ _ _ hk
  have hb : w8.heap[bS]? = w.heap[bS]? := (hg.block bS (by omega) (hnv _ hlb)).trans (ha _ (by omega))
  have hgr : w8.heap[gS]? = w.heap[gS]? := (hg.block gS (by omega) (hnv _ hlg)).trans (ha _ (by omega))
  have ce : ∀ q, w8.cell? ⟨bS, q, none⟩ = w.cell? ⟨bS, q, none⟩ := fun q => World.cell?_of_block hb
  have fe : ∀ q, w8.frozen? ⟨bS, q, none⟩ = false := fun q => (World.frozen?_of_block hb).trans (h.thaw q)
  refine ⟨⟨(set_other _ _ (by omega) _).trans ((ce 0).trans h.c0), (set_other _ _ (by omega) _).trans ((ce 1).trans h.c1), World.cell?_setCell_same _ _ _ ((ce 2).trans h.c2), fun q => by rw [World.frozen?_setCell]; exact fe q, (h.row.of_block hgr).setOther (fun e => h.ne e.symm) _, ?_, hlb, hlg, h.ne, by rw [size_setCell]; omega⟩, ⟨?_, ?_, ?_, by rw [size_setCell]; omega, fun k h1 h2 h3 h4 => ?_, ?_⟩, (ce 2).trans h.c2, fe 2⟩
  · rw [natV_snoc, List.length_append]
    exact ownsRow_setCell_below ho hlb _
  · exact hg.os
  · exact hg.tape
  · exact hg.output
  · rw [Below.heap_setCell _ _ _ _ h2]
    exact (hg.block k (by omega) h4).trans (ha k h1)
  · rcases hat with e | e
    · exact Or.inl e
    · exact Or.inr (fun k ek => by rw [e] at ek; injection ek with ek; omega)
theorem FrV.blks {w w' : World} {bS gS BL K : Nat} {ab : Option Addr} {nb cb : Nat} {W : Nat → Nat} {v v' : Value} {L : List Nat} {xs : List Blk} {L0 B0 : Nat} (f : FrV w w' bS gS v v') (h : SeaAt w bS gS BL K ab nb cb W v L) (hb : BlksAt w L0 B0 ab xs) (h1 : ¬ (L0 ≤ bS ∧ bS < B0)) (h2 : ¬ (L0 ≤ gS ∧ gS < B0)) (h3 : B0 ≤ BL) : BlksAt w' L0 B0 ab xs := by
  have hz := h.sz
  exact hb.keepS (fun k k1 k2 => f.block k (by omega) (fun e => h1 (by omega)) (fun e => h2 (by omega)) (fun e => by have := (h.own.lt k e.symm).1; omega))
set_option maxHeartbeats 2000000 in
set_option maxRecDepth 100000 in
theorem visit_any (bS gS BL K nb cb : Nat) (ab : Option Addr) (xs : List Blk) (L0 B0 : Nat) (hxb : Hid (nb = xs.length)) (hn : nb ≤ 1000) (hK : nb ≤ 64 * K) (hK2 : K ≤ 100) (h1 : ¬ (L0 ≤ bS ∧ bS < B0)) (h2 : ¬ (L0 ≤ gS ∧ gS < B0)) (h3 : B0 ≤ BL) (hT : Hid (∀ x ∈ xs, ∀ t ∈ x.term.targets, 0 ≤ t ∧ t < nb)) :
    ∀ (m b : Nat) (W : Nat → Nat) (v : Value) (L : List Nat) (w : World), Hid (SeaAt w bS gS BL K ab nb cb W v L) → Hid (BlksAt w L0 B0 ab xs) → b < nb → Hid (unseen W nb ≤ m) → Hid (WdOk W) → L.length + unseen W nb ≤ nb →
    Calls Tryz.prog 75 #[.pointer (some ⟨bS, 0, none⟩), .int .i64 b] w fun e w' => e = .returned (.tuple #[]) ∧ ∃ v', FrV w w' bS gS v v' ∧ SeaAt w' bS gS BL K ab nb cb (dfsV (tgN xs) m b (W, L)).1 v' (dfsV (tgN xs) m b (W, L)).2 := by
  obtain ⟨i0, hi0, hz0, hz1, hz2⟩ := info_three Tryz.info2'
  intro m
  induction m with
  | zero =>
    intro b W v L w HS HB hb HU HW hL
    have HH : Hid (hasN W b = true) := hide (unseen_zero (by have := HU.out; omega) hb)
    have HAS := hide (has_blockNo gS K b W w HW (hide HS.out.row) (by omega) (by omega))
    rw [HH.out] at HAS
    have c1 := HS.out.c1
    go_enter Tryz.func75, Tryz.ntmps75
    go_wp2_with fail
    refine HAS.out.mono ?_
    rintro e w1 ⟨rfl, hb1⟩
    have HS1 := hide (HS.out.below hb1)
    have HF1 : Hid (FrV w w1 bS gS v v) := hide (FrV.of_below hb1)
    clear hb1 HAS c1
    go_wp2_with fail
    refine bodyPost_ret (v := .tuple #[]) (by simp [results, Tryz.results75, go_sem]) rfl ?_
    exact ⟨rfl, v, HF1.out, HS1.out⟩
  | succ m ih =>
    intro b W v L w HS HB hb HU HW hL
    have IH := hide ih
    clear ih
    cases hh : hasN W b with
    | true =>
      have HHT := hide hh
      clear hh
      have HAS := hide (has_blockNo gS K b W w HW (hide HS.out.row) (by omega) (by omega))
      rw [HHT.out] at HAS
      have c1 := HS.out.c1
      go_enter Tryz.func75, Tryz.ntmps75
      go_wp2_with fail
      refine HAS.out.mono ?_
      rintro e w1 ⟨rfl, hb1⟩
      have HS1 := hide (HS.out.below hb1)
      have HF1 : Hid (FrV w w1 bS gS v v) := hide (FrV.of_below hb1)
      clear hb1 HAS c1
      go_wp2_with fail
      refine bodyPost_ret (v := .tuple #[]) (by simp [results, Tryz.results75, go_sem]) rfl ?_
      rw [dfs_stop (s := (W, L)) HHT.out]
      exact ⟨rfl, v, HF1.out, HS1.out⟩
    | false =>
      have HHF := hide hh
      clear hh
      have c0 := HS.out.c0
      have c1 := HS.out.c1
      have c2 := HS.out.c2
      have HAS := hide (has_blockNo gS K b W w HW (hide HS.out.row) (by omega) (by omega))
      rw [HHF.out] at HAS
      go_enter Tryz.func75, Tryz.ntmps75
      go_wp2_with fail
      refine HAS.out.mono ?_
      rintro e w1 ⟨rfl, hb1⟩
      have HS1 := hide (HS.out.below hb1)
      have HF1 : Hid (FrV w w1 bS gS v v) := hide (FrV.of_below hb1)
      clear hb1 HAS c0 c1 c2
      have c0 := HS1.out.c0
      have c1 := HS1.out.c1
      go_wp2_with fail
      have HSA := hide (HS1.out.below (balloc (Below.refl _ _) (.cells #[.int .i64 (b : Int)] 155)))
      have HFA : Hid (FrV w1 (w1.alloc (.cells #[.int .i64 (b : Int)] 155)) bS gS v v) := hide (FrV.of_below (balloc (Below.refl _ _) _))
      have HIA : Hid (IntsAt (w1.alloc (.cells #[.int .i64 (b : Int)] 155)) w1.heap.size (w1.heap.size + 1) (some ⟨w1.heap.size, 0, none⟩) ([b].map Int.ofNat)) := hide (ints_one w1 b _)
      have hza : w1.heap.size + 1 ≤ (w1.alloc (.cells #[.int .i64 (b : Int)] 155)).heap.size := by simp
      have hgz : gS < w1.heap.size := by have := HS1.out.lg; have := HS1.out.sz; omega
      generalize w1.alloc (.cells #[.int .i64 (b : Int)] 155) = wa at *
      have HRB : Hid (∀ t ∈ [b], t < 64 * K) := hide (fun t ht => by
        have : t = b := by simpa using ht
        omega)
      refine (add_blockNo gS K 1 1 W _ [b] w1.heap.size (w1.heap.size + 1) wa HIA (hide rfl) (by omega) HRB (by omega) HW (hide HSA.out.row) hza (by omega)).mono ?_
      rintro e w2 ⟨rfl, hg2, hr2⟩
      have HS2 : Hid (SeaAt w2 bS gS BL K ab nb cb (addN W b) v L) := hide (HSA.out.seen hg2 hr2)
      have HF2 : Hid (FrV w w2 bS gS v v) := hide ((HF1.out.trans HFA.out).trans (FrV.of_grown hg2))
      have HB2 : Hid (BlksAt w2 L0 B0 ab xs) := hide (HF2.out.blks HS.out HB.out h1 h2 h3)
      have HU2 := hide (unseen_add (W := W) (n := nb) hb HHF.out)
      have HD : Hid (dfsV (tgN xs) (m + 1) b (W, L) = _) := hide (dfs_go (tg := tgN xs) (m := m) (s := (W, L)) HHF.out)
      clear hg2 hr2 HSA HFA HIA HF1 HS1 hza hgz c0 c1
      have hbx : b < xs.length := by have := hxb.out; omega
      obtain ⟨bb, o, rfl, hbb, pa, pc, ia, ic, -, -, ⟨t0, t1, t2, t3⟩, -, -⟩ := HB2.out b hbx
      have c0 := HS2.out.c0
      have HTT : Hid (∀ t ∈ xs[b].term.targets, 0 ≤ t ∧ t < nb) := hide (hT.out _ (List.getElem_mem hbx))
      rw [tgN_at hbx] at HD
      dsimp only at HD
      generalize xs[b].term = tm at *
      go_wp2_with fail
      refine (targetsI_any tm w2).mono ?_
      rintro e w3 ⟨at3, ct3, rfl, hb3, hi3⟩
      have HS3 := hide (HS2.out.below hb3)
      have HF3 : Hid (FrV w w3 bS gS v v) := hide (HF2.out.trans (FrV.of_below hb3))
      have HI3 := hide hi3
      have HB3 : Hid (BlksAt w3 L0 B0 (some ⟨bb, o, none⟩) xs) := hide (HF3.out.blks HS.out HB.out h1 h2 h3)
      have HZ3 := hide hb3.size
      have HOW : Hid (∀ k, v.ownBlock = some k → k < w2.heap.size) := hide (fun k e => (HS2.out.own.lt k e).2)
      have HG2 : Hid (gS < w2.heap.size ∧ bS < w2.heap.size) := hide ⟨by have := HS2.out.lg; have := HS2.out.sz; omega, by have := HS2.out.lb; have := HS2.out.sz; omega⟩
      clear hb3 hi3 t0 t1 t2 t3 c0 HB2 HS2 HF2
      have hts2 : tm.targets.length ≤ 2 := tg_two tm
      generalize hts : tm.targets = ts at *
      clear hts
      have HTL : Hid (∀ t ∈ ts.map Int.toNat, t < nb) := hide (fun t ht => by
        obtain ⟨z, hz, rfl⟩ := List.mem_map.1 ht
        have := HTT.out z hz
        omega)
      have HTG : Hid (∀ b, b < nb → ∀ t ∈ tgN xs b, t < nb) := hide (fun b hb t ht => by
        have hbx : b < xs.length := by have := hxb.out; omega
        rw [tgN_at hbx] at ht
        obtain ⟨z, hz, rfl⟩ := List.mem_map.1 ht
        have := hT.out _ (List.getElem_mem hbx) z hz
        omega)
      have HWA := hide (add_wd HW.out b)
      have hU3 : unseen (addN W b) nb ≤ m := by have := HU.out; have := HU2.out; omega
      have hL3 : L.length + unseen (addN W b) nb + 1 ≤ nb := by have := HU2.out; omega
      go_wp2_with fail
      go_loopw [29] (fun u wr => ∃ q : Nat, q ≤ ts.length ∧ u = .int .i64 q ∧ ∃ v', Hid (FrV w3 wr bS gS v v') ∧ Hid (SeaAt wr bS gS BL K (some ⟨bb, o, none⟩) nb cb (((ts.map Int.toNat).take q).foldl (fun s t => dfsV (tgN xs) m t s) (addN W b, L)).1 v' (((ts.map Int.toNat).take q).foldl (fun s t => dfsV (tgN xs) m t s) (addN W b, L)).2)) (fun u _ => ts.length - (intOf u).toNat)
      case atStart => exact ⟨0, Nat.zero_le _, rfl, v, hide (FrV.refl _ _ _ _), HS3⟩
      case round =>
        obtain ⟨q, hq, rfl, v', HFq, HSq⟩ := hrel
        have HFL : Hid ((((ts.map Int.toNat).take q).foldl (fun s t => dfsV (tgN xs) m t s) (addN W b, L)).2.length + unseen (((ts.map Int.toNat).take q).foldl (fun s t => dfsV (tgN xs) m t s) (addN W b, L)).1 nb ≤ L.length + unseen (addN W b) nb) := hide (fold_len (tgN xs) nb HTG.out m _ _ (fun t ht => HTL.out t (List.mem_of_mem_take ht)))
        by_cases hlt : q < ts.length
        · obtain ⟨bt, ot, rfl, hbt, et3⟩ := HI3.out q hlt
          have et := (cell_of (HFq.out.block bt hbt.2 (by have := HG2.out; omega) (by have := HG2.out; omega) (fun e => by have := HOW.out bt e.symm; omega))).trans et3
          have htr := HTT.out ts[q] (List.getElem_mem hlt)
          have HTK : Hid ((ts.map Int.toNat).take (q + 1) = (ts.map Int.toNat).take q ++ [ts[q].toNat]) := hide (by rw [List.take_succ_eq_append_getElem (by simpa using hlt), List.getElem_map])
          have HWQ := hide (fold_wd (tgN xs) m ((ts.map Int.toNat).take q) (addN W b, L) HWA.out)
          have HBq := hide (HFq.out.blks HS3.out HB3.out h1 h2 h3)
          have HUQ : Hid (unseen (((ts.map Int.toNat).take q).foldl (fun s t => dfsV (tgN xs) m t s) (addN W b, L)).1 nb ≤ m) := hide (Nat.le_trans (unseen_mono nb (fun x hx => fold_mono (tgN xs) m _ (addN W b, L) x hx)) hU3)
          have HFO : Hid (((ts.map Int.toNat).take (q + 1)).foldl (fun s t => dfsV (tgN xs) m t s) (addN W b, L) = dfsV (tgN xs) m ts[q].toNat (((ts.map Int.toNat).take q).foldl (fun s t => dfsV (tgN xs) m t s) (addN W b, L))) := hide (by rw [HTK.out, List.foldl_append]; rfl)
          clear et3 HTK
          generalize ts[q] = tq at *
          obtain ⟨tn, rfl⟩ := nat_of htr.1
          rw [Int.toNat_natCast] at HFO
          have HC := hide (IH.out tn _ v' _ wr HSq HBq (by omega) HUQ HWQ (by have := HFL.out; omega))
          generalize ((ts.map Int.toNat).take q).foldl (fun s t => dfsV (tgN xs) m t s) (addN W b, L) = sq at *
          obtain ⟨Wq, Lq⟩ := sq
          dsimp only at *
          go_wp2_with fail
          refine HC.out.mono ?_
          rintro e w5 ⟨rfl, v5, hf5, hs5⟩
          have HF5 := hide (HFq.out.trans hf5)
          have HS5 := hide hs5
          clear hf5 hs5 HC
          go_wp2_with fail
          exact ⟨⟨q + 1, by omega, by go_num, v5, HF5, hide (by rw [HFO.out]; exact HS5.out)⟩, by simp [intOf]; omega⟩
        · have hqe : q = ts.length := by omega
          have HTE : Hid ((ts.map Int.toNat).take q = ts.map Int.toNat) := hide (List.take_of_length_le (by simp; omega))
          rw [HTE.out] at HSq HFL
          generalize (ts.map Int.toNat).foldl (fun s t => dfsV (tgN xs) m t s) (addN W b, L) = sq at *
          obtain ⟨Wq, Lq⟩ := sq
          dsimp only at *
          clear HTE
          have c2 := HSq.out.c2
          have zz := HSq.out.thaw 2
          have hlq : Lq.length ≤ 1000 := by have := HFL.out; omega
          have hwz := HSq.out.sz
          go_wp2_with (at_builtin; refine wpList_append_own_at _ rfl _ _ 52 rfl BL 2 i0 (.int .i64 0) 1 8 Tryz.underlying52 hi0 hz0 hz1 hz2 rfl (by decide) _ _ _ rfl (HSq.out.own.alloc _) ⟨wr.heap.size, 0, none⟩ 1 1 [.int .i64 (b : Int)] rfl rfl ?c1 ?c2 ?c3 ?c4 ?c5 ?_)
          case c1 => exact one_news _ _ _
          case c2 => intro u hu; simp at hu; subst hu; rfl
          case c3 => unfold maxLen; omega
          case c4 => omega
          case c5 => simp; omega
          intro v8 w8 hown8 hg8 hne8 hat8
          obtain ⟨hp1, hp2, hp3, hp4⟩ := HSq.out.push hg8 hown8 hat8
          obtain ⟨g8, k8, rfl, -, -⟩ := own_some' hown8 (by omega)
          have HP1 := hide hp1
          have HP2 := hide hp2
          clear hp1 hp2 hown8 hg8 hne8 hat8
          go_wp2_with fail
          go_end0
          exact ⟨rfl, _, (HF3.out.trans HFq.out).trans HP2.out, by rw [HD.out]; exact HP1.out⟩
end Go.Proofs.YtjfcbjomfbfoiaaGreatDoor
