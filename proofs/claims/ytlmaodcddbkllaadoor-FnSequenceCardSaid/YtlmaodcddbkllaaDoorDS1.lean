import Derived.Test.YtlmaodcddbkllaaDoorDR1
import Derived.Deep.DrawnRows
import Derived.Maps.AppendAt
/-
  The draw of moves, pure: the source of numbers, shuffles, moves.
-/
namespace Go.Proofs.YtlmaodcddbkllaaDoor

def mixP (c : List UInt8) (m : Int) : Int := c.foldl (fun m b => (m * 257 + (b.toNat : Int) + 1) % 1000003) m
def srcP (bs : List UInt8) : Sr := ⟨bs.take 4000, 0, mixP (bs.take 4000) (((bs.length % 1000 : Nat) : Int) + 29), if 1 + (((bs.take 4000).length : Nat) : Int) / 50 > 7 then 7 else 1 + (((bs.take 4000).length : Nat) : Int) / 50⟩
theorem mix_rng : ∀ (c : List UInt8) (m : Int), 0 ≤ m → m < 1000003 → 0 ≤ mixP c m ∧ mixP c m < 1000003
  | [], m, h0, h1 => ⟨h0, h1⟩
  | b :: c, m, h0, h1 => mix_rng c _ (Int.emod_nonneg _ (by decide)) (Int.emod_lt_of_pos _ (by decide))
theorem mix_take (c : List UInt8) (m : Int) (j : Nat) (h : j < c.length) : mixP (c.take (j + 1)) m = (mixP (c.take j) m * 257 + (c[j].toNat : Int) + 1) % 1000003 := by
  unfold mixP
  rw [List.take_succ_eq_append_getElem h, List.foldl_append]
  rfl
theorem srcP_ok (bs : List UInt8) : SrOk (srcP bs) := by
  refine ⟨?_, Nat.zero_le _, mix_rng _ _ (by omega) (by have := Nat.mod_lt bs.length (show 0 < 1000 by decide); omega), ?_⟩
  · show (bs.take 4000).length ≤ 4000
    rw [List.length_take]; omega
  · unfold srcP
    dsimp only
    split <;> omega

def swapL {T : Type} (xs : List T) (i j : Nat) : List T := match xs[i]?, xs[j]? with
  | some a, some b => (xs.set i b).set j a
  | _, _ => xs
theorem swap_at {T : Type} (xs : List T) {i j : Nat} (hi : i < xs.length) (hj : j < xs.length) : swapL xs i j = (xs.set i xs[j]).set j xs[i] := by
  unfold swapL
  rw [List.getElem?_eq_getElem hi, List.getElem?_eq_getElem hj]
theorem swap_len {T : Type} (xs : List T) (i j : Nat) : (swapL xs i j).length = xs.length := by
  unfold swapL
  split <;> simp
theorem swap_mem {T : Type} {xs : List T} {i j : Nat} {x : T} (h : x ∈ swapL xs i j) : x ∈ xs := by
  unfold swapL at h
  split at h
  · rename_i a b ha hb
    rcases List.mem_or_eq_of_mem_set h with h | h
    · rcases List.mem_or_eq_of_mem_set h with h | h
      · exact h
      · rw [h]; exact List.mem_of_getElem? hb
    · rw [h]; exact List.mem_of_getElem? ha
  · exact h
/-- The shuffle from place i down to place 1. -/
def shufP {T : Type} : Nat → Sr → List T → List T × Sr
  | 0, s, xs => (xs, s)
  | i + 1, s, xs => shufP i (nextP s ((i : Int) + 1 + 1)).2 (swapL xs (i + 1) (nextP s ((i : Int) + 1 + 1)).1.toNat)
theorem shuf_len {T : Type} : ∀ (i : Nat) (s : Sr) (xs : List T), (shufP i s xs).1.length = xs.length
  | 0, _, _ => rfl
  | i + 1, s, xs => by rw [shufP, shuf_len i, swap_len]
theorem shuf_mem {T : Type} : ∀ (i : Nat) (s : Sr) (xs : List T) (x : T), x ∈ (shufP i s xs).1 → x ∈ xs
  | 0, _, _, _, h => h
  | i + 1, _, _, x, h => swap_mem (shuf_mem i _ _ x h)
theorem shuf_ok {T : Type} : ∀ (i : Nat) (s : Sr) (xs : List T), SrOk s → SrOk (shufP i s xs).2
  | 0, _, _, h => h
  | i + 1, s, xs, h => by rw [shufP]; exact shuf_ok i _ _ (next_ok h _)

/-- The register that the i-th move reads. -/
def frP (loose wide : Int) (i : Nat) (s : Sr) : Int × Sr :=
  if loose = 0 then nextP s wide
  else if loose = 1 then (if (nextP s 6).1 = 0 then nextP (nextP s 6).2 wide else ((i : Int), (nextP s 6).2))
  else ((i : Int), s)
theorem fr_ok {loose wide : Int} {i : Nat} {s : Sr} (h : SrOk s) : SrOk (frP loose wide i s).2 := by
  unfold frP
  split
  · exact next_ok h _
  · split
    · split
      · exact next_ok (next_ok h _) _
      · exact next_ok h _
    · exact h
theorem fr_rng {loose wide : Int} {i : Nat} {s : Sr} (h : (i : Int) < wide) : 0 ≤ (frP loose wide i s).1 ∧ (frP loose wide i s).1 < wide := by
  have h1 : 1 ≤ wide := by omega
  unfold frP
  split
  · exact next_lt _ h1
  · split
    · split
      · exact next_lt _ h1
      · exact ⟨by show (0 : Int) ≤ (i : Int); omega, h⟩
    · exact ⟨by show (0 : Int) ≤ (i : Int); omega, h⟩
/-- The moves: k more of them behind the first i. -/
def mvsP (loose wide : Int) (ats : List Int) : Nat → Nat → Sr → List Mv → List Mv × Sr
  | 0, _, s, acc => (acc, s)
  | k + 1, i, s, acc => mvsP loose wide ats k (i + 1) (frP loose wide i s).2 (acc ++ [⟨ats.getD i 0, (frP loose wide i s).1⟩])
theorem mvs_len (loose wide : Int) (ats : List Int) : ∀ (k i : Nat) (s : Sr) (acc : List Mv), (mvsP loose wide ats k i s acc).1.length = acc.length + k
  | 0, _, _, _ => rfl
  | k + 1, i, s, acc => by rw [mvsP, mvs_len]; simp; omega
theorem mvs_ok {loose wide : Int} {ats : List Int} : ∀ (k i : Nat) (s : Sr) (acc : List Mv), SrOk s → SrOk (mvsP loose wide ats k i s acc).2
  | 0, _, _, _, h => h
  | k + 1, i, s, acc, h => by rw [mvsP]; exact mvs_ok k _ _ _ (fr_ok h)
/-- A move as it is drawn. -/
def MvR (m : Mv) : Prop := (-1 ≤ m.to ∧ m.to ≤ 64) ∧ (-1 ≤ m.frm ∧ m.frm ≤ 64)
theorem mvs_rng {loose wide : Int} {ats : List Int} (hw : wide ≤ 64) (ha : ∀ x ∈ ats, 0 ≤ x ∧ x < 64) : ∀ (k i : Nat) (s : Sr) (acc : List Mv), ((i + k : Nat) : Int) ≤ wide → (∀ m ∈ acc, MvR m) → ∀ m ∈ (mvsP loose wide ats k i s acc).1, MvR m
  | 0, _, _, _, _, h => h
  | k + 1, i, s, acc, hi, h => by
    rw [mvsP]
    refine mvs_rng hw ha k (i + 1) _ _ (by omega) (fun m hm => ?_)
    rcases List.mem_append.1 hm with hm | hm
    · exact h m hm
    · simp only [List.mem_cons, List.not_mem_nil, or_false] at hm
      subst hm
      have h1 := fr_rng (loose := loose) (wide := wide) (i := i) (s := s) (by omega)
      refine ⟨?_, by show -1 ≤ (frP loose wide i s).1 ∧ (frP loose wide i s).1 ≤ 64; omega⟩
      show -1 ≤ ats.getD i 0 ∧ ats.getD i 0 ≤ 64
      by_cases hl : i < ats.length
      · have h2 := ha ats[i] (List.getElem_mem hl)
        rw [show ats.getD i 0 = ats[i] by simp [hl]]
        omega
      · rw [show ats.getD i 0 = 0 by simp [hl]]
        omega
/-- The one change that is made in the end. -/
def lastP (k : Int) (i : Nat) (xs : List Mv) (s : Sr) : List Mv :=
  if k = 0 then xs.set i ⟨64 - (nextP s 2).1, (xs.getD i ⟨0, 0⟩).frm⟩
  else if k = 1 then xs.set i ⟨(xs.getD i ⟨0, 0⟩).to, 64 - (nextP s 2).1⟩
  else if k = 2 then xs.set i ⟨(xs.getD 0 ⟨0, 0⟩).to, (xs.getD i ⟨0, 0⟩).frm⟩
  else if k = 3 then xs.set i ⟨(xs.getD i ⟨0, 0⟩).to, -1⟩
  else if k = 4 then xs ++ [⟨63, 0⟩] else xs
theorem getD_mem {T : Type} (xs : List T) (d : T) {i : Nat} (h : i < xs.length) : xs.getD i d ∈ xs := by
  rw [show xs.getD i d = xs[i] by simp [h]]
  exact List.getElem_mem h
theorem last_rng {k : Int} {i : Nat} {xs : List Mv} {s : Sr} (hi : i < xs.length) (h : ∀ m ∈ xs, MvR m) : ∀ m ∈ lastP k i xs s, MvR m := by
  have g0 := h _ (getD_mem xs ⟨0, 0⟩ hi)
  have g1 := h _ (getD_mem xs ⟨0, 0⟩ (show 0 < xs.length by omega))
  have h2 := next_lt s (n := 2) (by decide)
  unfold lastP
  intro m hm
  split at hm
  · rcases List.mem_or_eq_of_mem_set hm with hm | rfl
    · exact h m hm
    · exact ⟨by show -1 ≤ 64 - (nextP s 2).1 ∧ 64 - (nextP s 2).1 ≤ 64; omega, g0.2⟩
  · split at hm
    · rcases List.mem_or_eq_of_mem_set hm with hm | rfl
      · exact h m hm
      · exact ⟨g0.1, by show -1 ≤ 64 - (nextP s 2).1 ∧ 64 - (nextP s 2).1 ≤ 64; omega⟩
    · split at hm
      · rcases List.mem_or_eq_of_mem_set hm with hm | rfl
        · exact h m hm
        · exact ⟨g1.1, g0.2⟩
      · split at hm
        · rcases List.mem_or_eq_of_mem_set hm with hm | rfl
          · exact h m hm
          · exact ⟨g0.1, by show (-1 : Int) ≤ -1 ∧ (-1 : Int) ≤ 64; decide⟩
        · split at hm
          · rcases List.mem_append.1 hm with hm | hm
            · exact h m hm
            · simp only [List.mem_cons, List.not_mem_nil, or_false] at hm
              subst hm
              exact ⟨⟨by decide, by decide⟩, by decide, by decide⟩
          · exact h m hm
theorem last_len {k : Int} {i : Nat} {xs : List Mv} {s : Sr} : (lastP k i xs s).length ≤ xs.length + 1 := by
  unfold lastP
  split
  · simp
  · split
    · simp
    · split
      · simp
      · split
        · simp
        · split <;> simp

def draw7 (p : List Mv × Sr) : List Mv := lastP (nextP p.2 20).1 (nextP (nextP p.2 20).2 (p.1.length : Int)).1.toNat p.1 (nextP (nextP p.2 20).2 (p.1.length : Int)).2
def draw5 (n wide : Nat) (p : List Int × Sr) : List Mv :=
  draw7 (shufP ((mvsP (nextP p.2 3).1 wide p.1 n 0 (nextP p.2 3).2 []).1.length - 1) (mvsP (nextP p.2 3).1 wide p.1 n 0 (nextP p.2 3).2 []).2 (mvsP (nextP p.2 3).1 wide p.1 n 0 (nextP p.2 3).2 []).1)
def iota (n : Nat) : List Int := (List.range n).map Int.ofNat
def draw3 (n wide : Nat) (s : Sr) : List Mv := draw5 n wide (shufP (wide - 1) s (iota wide))
def draw2 (n wide : Nat) (s : Sr) : List Mv := if (nextP s 10).1 = 0 then draw3 64 64 (nextP s 10).2 else draw3 n wide (nextP s 10).2
def draw1 (n : Nat) (s : Sr) : List Mv := if (nextP s 2).1 = 0 then draw2 n (n + (nextP (nextP s 2).2 8).1.toNat) (nextP (nextP s 2).2 8).2 else draw2 n n (nextP s 2).2
def drawP (s : Sr) : List Mv := draw1 (1 + (nextP s (3 + 3 * s.size)).1.toNat) (nextP s (3 + 3 * s.size)).2
theorem iota_len (n : Nat) : (iota n).length = n := by simp [iota]
theorem iota_mem {n : Nat} {x : Int} (h : x ∈ iota n) : 0 ≤ x ∧ x < n := by
  simp only [iota, List.mem_map, List.mem_range] at h
  obtain ⟨i, hi, rfl⟩ := h
  exact ⟨Int.natCast_nonneg i, by show (i : Int) < n; omega⟩
theorem iota_succ (n : Nat) : iota (n + 1) = iota n ++ [(n : Int)] := by simp [iota, List.range_succ]
/-- What is drawn: at least one move, at most sixty-five, every number in -1..64. -/
def DrOk (xs : List Mv) : Prop := xs.length ≤ 65 ∧ ∀ m ∈ xs, MvR m
theorem draw7_ok {p : List Mv × Sr} (h1 : 1 ≤ p.1.length) (h2 : p.1.length ≤ 64) (h : ∀ m ∈ p.1, MvR m) : DrOk (draw7 p) := by
  have h3 := next_lt (nextP p.2 20).2 (n := (p.1.length : Int)) (by omega)
  exact ⟨Nat.le_trans last_len (by omega), last_rng (by omega) h⟩
theorem draw5_ok {n wide : Nat} {p : List Int × Sr} (h1 : 1 ≤ n) (h2 : n ≤ wide) (h3 : wide ≤ 64) (ha : ∀ x ∈ p.1, 0 ≤ x ∧ x < 64) : DrOk (draw5 n wide p) := by
  unfold draw5
  have hl := mvs_len (nextP p.2 3).1 wide p.1 n 0 (nextP p.2 3).2 []
  simp only [List.length_nil, Nat.zero_add] at hl
  refine draw7_ok (by rw [shuf_len, hl]; exact h1) (by rw [shuf_len, hl]; omega) (fun m hm => ?_)
  exact mvs_rng (by omega) ha n 0 _ [] (by omega) (fun m hm => by cases hm) m (shuf_mem _ _ _ _ hm)
theorem draw3_ok {n wide : Nat} (s : Sr) (h1 : 1 ≤ n) (h2 : n ≤ wide) (h3 : wide ≤ 64) : DrOk (draw3 n wide s) :=
  draw5_ok h1 h2 h3 (fun x hx => by have := iota_mem (shuf_mem _ _ _ _ hx); omega)
theorem draw2_ok {n wide : Nat} (s : Sr) (h1 : 1 ≤ n) (h2 : n ≤ wide) (h3 : wide ≤ 64) : DrOk (draw2 n wide s) := by
  unfold draw2
  split
  · exact draw3_ok _ (by decide) (by decide) (by decide)
  · exact draw3_ok _ h1 h2 h3
theorem draw1_ok {n : Nat} (s : Sr) (h1 : 1 ≤ n) (h2 : n ≤ 24) : DrOk (draw1 n s) := by
  have h := next_lt (nextP s 2).2 (n := 8) (by decide)
  unfold draw1
  split
  · exact draw2_ok _ h1 (by omega) (by omega)
  · exact draw2_ok _ h1 (by omega) (by omega)
theorem drawP_ok {s : Sr} (h : SrOk s) : DrOk (drawP s) := by
  have h1 := h.size
  have h2 := next_lt s (n := 3 + 3 * s.size) (by omega)
  exact draw1_ok _ (by omega) (by omega)
end Go.Proofs.YtlmaodcddbkllaaDoor

/-
  The draws: l2Source.
-/
namespace Go.Proofs.YtlmaodcddbkllaaDoor
open Go.RowKit

theorem Tryd.infoBy : (Tryd.prog.info? 5).map (fun i => (i.zero, i.size, i.bytes)) = some (some (.int .u8 0), 1, 1) := by kernel_rfl
theorem info_three {P : Program} {t : Nat} {z : Value} {s b : Nat} (h : (P.info? t).map (fun i => (i.zero, i.size, i.bytes)) = some (some z, s, b)) : ∃ i, P.info? t = some i ∧ i.zero = some z ∧ i.size = s ∧ i.bytes = b := by
  cases hi : P.info? t with
  | none => rw [hi] at h; cases h
  | some i =>
    rw [hi] at h
    simp only [Option.map_some, Option.some.injEq, Prod.mk.injEq] at h
    exact ⟨i, rfl, h.1, h.2.1, h.2.2⟩
/-- append in a region that draws. -/
theorem step_append_one {P : Program} {ops : Array Oper} {w : World} {o : Oper} {a : Act} {K : Act → World → Prop} {Q : Exit → Act → World → Prop} {E : Prop} (hgd : o.guard = none) (s x : Operand) (t : TypeId)
    (ho : o.op = .call { callee := .builtin .append, args := #[s, x], argTypes := #[t, t] })
    (base : Nat) (e : TypeId) (i : TypeInfo) (z : Value) (size bytes : Nat) (ht : P.underlying t = some (.slice e)) (hi : P.info? e = some i) (hz : i.zero = some z)
    (hsize : i.size = size) (hby : i.bytes = bytes) (hzs : z.cells.size = size) (hsz : 0 < size)
    (v : Value) (n : Nat) (xs : List Value) (hs : a.eval s = v) (hown : w.ownsRow base e size v n xs)
    (ad : Addr) (m c : Nat) (news : List Value) (hx : a.eval x = .slice (some ad) m c) (hl : news.length = m * size) (hnews : ∀ j u, news[j]? = some u → w.cell? (ad.add j) = some u) (h1 : ∀ u ∈ news, u.oneCell' = true)
    (h63 : n + m ≤ maxLen) (hbytes : (n + m) * bytes ≤ 140737488355328) (hbase : base ≤ w.heap.size)
    (h : ∀ v' w', w'.ownsRow base e size v' (n + m) (xs ++ news) → w.grownBy w' v.ownBlock → (v' = .slice none 0 0 ↔ v = .slice none 0 0 ∧ m = 0) → (v'.ownBlock = v.ownBlock ∨ v'.ownBlock = some w.heap.size) → K (a.put o.dst v') w') :
    if Region.wanted o (yielded ops a.tmps) = true then Oper.wp P o a w K Q else E := by
  have hw : Region.wanted o (yielded ops a.tmps) = true := by simp [Region.wanted, hgd]
  rw [if_pos hw]
  obtain ⟨v', w', hr, h2, h3, h4, h5⟩ := run_append_own_at (P := P) w base t o.type e i z size bytes ht hi hz hsize hby hzs hsz v n xs hown ad m c news hl hnews h1 h63 hbytes hbase
  unfold Oper.wp execOp
  simp only [ho, resolve, invoke, builtin, Sem.run_bind, Sem.run_pure, Result.andThen_ok, List.map_toArray, List.map_cons, List.map_nil, hs, hx, hr]
  exact h v' w' h2 h3 h4 h5
/-- The source while its bytes are taken. -/
structure SrcL (w wr : World) (bs : List UInt8) (j : Nat) (v : Value) : Prop where
  low : Below w.heap.size w wr
  size : w.heap.size + 1 ≤ wr.heap.size
  c0 : wr.cell? ⟨w.heap.size, 0, none⟩ = some v
  c1 : wr.cell? ⟨w.heap.size, 1, none⟩ = some (.int .i64 0)
  c2 : wr.cell? ⟨w.heap.size, 2, none⟩ = some (.int .i64 0)
  c3 : wr.cell? ⟨w.heap.size, 3, none⟩ = some (.int .i64 0)
  thaw : ∀ q, wr.frozen? ⟨w.heap.size, q, none⟩ = false
  own : wr.ownsRow (w.heap.size + 1) 5 1 v j (bytesV (bs.take j))
theorem SrcL.drew {w wr : World} {bs : List UInt8} {j : Nat} {v : Value} (h : SrcL w wr bs j v) : SrcL w wr.drew bs j v := ⟨h.low.drew, h.size, h.c0, h.c1, h.c2, h.c3, h.thaw, h.own⟩
theorem SrcL.step {w wr W w8 : World} {bs : List UInt8} {j : Nat} {v v8 : Value} (h : SrcL w wr bs j v) (hj : j < bs.length) (hg : wr.grownBy W none) (hg8 : W.grownBy w8 v.ownBlock)
    (ho : w8.ownsRow (w.heap.size + 1) 5 1 v8 (j + 1) (bytesV (bs.take j) ++ [.int .u8 (bs[j].toNat : Int)])) : SrcL w (w8.setCell ⟨w.heap.size, 0, none⟩ v8) bs (j + 1) v8 ∧ Below w.heap.size w w8 ∧ (∀ q, w8.frozen? ⟨w.heap.size, q, none⟩ = false) ∧ w8.cell? ⟨w.heap.size, 0, none⟩ = some v ∧ ∃ g c, v8 = .slice (some ⟨g, 0, none⟩) (j + 1) c := by
  have hn : some w.heap.size ≠ v.ownBlock := fun e => by have := (h.own.lt _ e.symm).1; omega
  have hs := h.size
  have hb : w8.heap[w.heap.size]? = wr.heap[w.heap.size]? := (hg8.block _ (by have := hg.size; omega) hn).trans (hg.block _ (by omega) (by simp))
  have l8 : Below w.heap.size w w8 := ((h.low.grown hg (by omega) (fun k e => by cases e)).grown hg8 (by have := hg.size; omega) (fun k e => by have := (h.own.lt _ e).1; omega))
  have ce : ∀ q, w8.cell? ⟨w.heap.size, q, none⟩ = wr.cell? ⟨w.heap.size, q, none⟩ := fun q => World.cell?_of_block hb
  have fe : ∀ q, w8.frozen? ⟨w.heap.size, q, none⟩ = false := fun q => (World.frozen?_of_block hb).trans (h.thaw q)
  refine ⟨⟨l8.setCell (Nat.le_refl _) _, ?_, World.cell?_setCell_same _ _ _ ((ce 0).trans h.c0), (set_other _ _ (by omega) _).trans ((ce 1).trans h.c1), (set_other _ _ (by omega) _).trans ((ce 2).trans h.c2), (set_other _ _ (by omega) _).trans ((ce 3).trans h.c3), fun q => by rw [World.frozen?_setCell]; exact fe q, ?_⟩, l8, fe, (ce 0).trans h.c0, ?_⟩
  · rw [size_setCell]; have := hg.size; have := hg8.size; omega
  · refine ownsRow_setCell_below ?_ (by show w.heap.size < _; omega) _
    rw [List.take_succ_eq_append_getElem hj, bytesV_snoc]
    exact ho
  · rcases ho.2 with ⟨_, h0⟩ | ⟨g, cap, _, e, _⟩
    · omega
    · exact ⟨g, cap, e⟩
theorem BytesAt.wide {w : World} {L B L' B' : Nat} {a : Option Addr} {bs : List UInt8} (h : BytesAt w L B a bs) (h1 : L' ≤ L) (h2 : B ≤ B') : BytesAt w L' B' a bs := fun i hi => by
  obtain ⟨b, o, e, hb, hc⟩ := h i hi
  exact ⟨b, o, e, by omega, hc⟩
theorem SrcL.done {w wr : World} {bs : List UInt8} {j : Nat} {v : Value} (h : SrcL w wr bs j v) (hj : bs.take j = bs.take 4000) : ∃ a c, v = .slice a (bs.take 4000).length c ∧ SrAt wr w.heap.size (w.heap.size + 1) wr.heap.size ⟨bs.take 4000, 0, 0, 0⟩ := by
  have ho := h.own
  rw [hj] at ho
  obtain ⟨a, c, L, B, e, hb, -, hL⟩ := bytes_owned ho
  subst e
  refine ⟨a, c, rfl, ⟨⟨a, c, h.c0, ?_⟩, h.c1, h.c2, h.c3, h.thaw, by omega⟩⟩
  rcases hL with ⟨rfl, rfl⟩ | ⟨rfl, h1, h2⟩
  · exact fun i hi => by obtain ⟨b, o, _, h2, _⟩ := hb i hi; omega
  · exact hb.wide h1 h2
theorem SrAt.undrew {w : World} {b L B : Nat} {s : Sr} (h : SrAt w.drew b L B s) : SrAt w b L B s := ⟨h.c0, h.c1, h.c2, h.c3, h.thaw, h.out⟩
theorem SrAt.siz {w : World} {b L B : Nat} {s : Sr} (h : SrAt w b L B s) (m : Int) : SrAt (w.setCell ⟨b, 3, none⟩ (.int .i64 m)) b L B { s with size := m } := by
  obtain ⟨a, c, e0, hb⟩ := h.c0
  exact ⟨⟨a, c, (set_other w b (by omega) _).trans e0, bytes_set _ hb h.out⟩, (set_other w b (by omega) _).trans h.c1, (set_other w b (by omega) _).trans h.c2, World.cell?_setCell_same w _ _ h.c3, fun q => by show (w.setCell _ _).frozen? _ = false; rw [World.frozen?_setCell]; exact h.thaw q, h.out⟩
theorem grown_ad (w : World) (o : Obj) : w.grownBy (w.alloc o).drew none := ⟨rfl, rfl, rfl, (World.grownBy_alloc w o none).size, fun k h1 h2 => (World.grownBy_alloc w o none).block k h1 h2⟩
theorem one_news (w : World) (u : Value) (ty : Nat) : ∀ j x, ([u] : List Value)[j]? = some x → (w.alloc (.cells #[u] ty)).cell? ((⟨w.heap.size, 0, none⟩ : Addr).add j) = some x := fun j x hj => by
  have ha : (⟨w.heap.size, 0, none⟩ : Addr).add j = ⟨w.heap.size, j, none⟩ := by unfold Addr.add; split <;> simp_all
  rw [ha]
  match j, hj with
  | 0, hj => simpa using hj
  | j + 1, hj => cases hj
set_option maxHeartbeats 2000000 in
set_option maxRecDepth 100000 in
theorem source_any (a : Option Addr) (n c : Nat) (bs : List UInt8) (L B : Nat) (w : World) (ha : Hid (BytesAt w L B a bs)) (hx : Hid (n = bs.length)) (hn : n ≤ 1048576) (hB : B ≤ w.heap.size) :
    Calls Tryd.prog 49 #[.slice a n c] w fun e w' => e = .returned (.pointer (some ⟨w.heap.size, 0, none⟩)) ∧ Below w.heap.size w w' ∧ w.heap.size + 1 ≤ w'.heap.size ∧ SrAt w' w.heap.size (w.heap.size + 1) w'.heap.size (srcP bs) := by
  obtain ⟨i0, hi0, hz0, hz1, hz2⟩ := info_three Tryd.infoBy
  go_enter Tryd.func49, Tryd.ntmps49
  go_wp2
  go_loopw [4] (fun u wr => ∃ j : Nat, j ≤ n ∧ j ≤ 4000 ∧ u = .int .i64 j ∧ ∃ v, Hid (SrcL w wr bs j v)) (fun u _ => n - (intOf u).toNat)
  case atStart => exact ⟨0, Nat.zero_le _, Nat.zero_le _, rfl, .slice none 0 0, hide (by
    refine ⟨balloc (Below.refl _ _) _, by simp, by simp [go_sem], by simp [go_sem], by simp [go_sem], by simp [go_sem], fun q => by simp [go_sem], ?_⟩
    rw [List.take_zero]; exact World.ownsRow_nil _ _ _ _)⟩
  case round =>
    obtain ⟨j, hj, hj4, rfl, v, HS⟩ := hrel
    by_cases hlt : j < n ∧ j < 4000
    · obtain ⟨hlt, hlt4⟩ := hlt
      have hjx : j < bs.length := by have := hx.out; omega
      obtain ⟨b, o, rfl, hbB, ejw⟩ := ha.out j hjx
      have ej := (HS.out.low.cell (p := ⟨b, o + j, none⟩) (by show b < _; omega)).trans ejw
      have hsz := HS.out.size
      have e0 := HS.out.c0
      have e0a : ∀ ob, (wr.alloc ob).cell? ⟨w.heap.size, 0, none⟩ = some v := fun ob => (World.cell?_alloc_lt _ _ _ (by show w.heap.size < _; omega)).trans e0
      have hbn : b ≠ w.heap.size := by omega
      have HGr : Hid (∀ w8, Below w.heap.size w w8 → w8.cell? ⟨b, o + j, none⟩ = some (.int .u8 (bs[j].toNat : Int))) := hide (fun w8 h8 => (h8.cell (p := ⟨b, o + j, none⟩) (by show b < _; omega)).trans ejw)
      clear ejw
      go_wp2
      refine wp_region_held_drew (S := (fun w' => w'.cell? ⟨b, o + j, none⟩ = some (.int .u8 (bs[j].toNat : Int)))) (by kernel_rfl) (by (try dsimp only); go_keep) (fun hHeld => ?_)
      refine wpAnyH_take (i := 0) (v := ?_) rfl (by kernel_rfl) (by kernel_rfl) (by kernel_rfl) (fun _ _ _ h => h) (Or.inl ⟨by rfl, ?_⟩) (by assumption) ?_
      rotate_left
      · intro w hSw; (try dsimp only at hSw); go_simp; try with_reducible rfl
      simp only [Act.put, List.getElem_toArray, List.getElem_cons_zero, List.setIfInBounds_toArray, List.set_cons_zero, List.set_cons_succ]
      refine wpAnyH_take (i := 2) (v := ?_) rfl (by kernel_rfl) (by kernel_rfl) (by kernel_rfl) (fun _ _ _ h => h) (Or.inl ⟨by rfl, ?_⟩) (by assumption) ?_
      rotate_left
      · intro w hSw; (try dsimp only at hSw); go_simp; try with_reducible rfl
      simp only [Act.put, List.getElem_toArray, List.getElem_cons_zero, List.getElem_cons_succ, List.setIfInBounds_toArray, List.set_cons_zero, List.set_cons_succ]
      refine wpAnyH_take (i := 3) (v := ?_) rfl (by kernel_rfl) (by kernel_rfl) (by kernel_rfl) (fun _ _ _ h => h) (Or.inl ⟨by rfl, ?_⟩) (by assumption) ?_
      rotate_left
      · intro w hSw; (try dsimp only at hSw); go_simp; try with_reducible rfl
      simp only [Act.put, List.getElem_toArray, List.getElem_cons_zero, List.getElem_cons_succ, List.setIfInBounds_toArray, List.set_cons_zero, List.set_cons_succ]
      refine wpAnyH_take (i := 4) (v := ?_) rfl (by kernel_rfl) (by kernel_rfl) (by kernel_rfl) (fun _ _ _ h => h) (Or.inl ⟨by rfl, ?_⟩) (by assumption) ?_
      rotate_left
      · intro w hSw; (try dsimp only at hSw); go_simp; try with_reducible rfl
      simp only [Act.put, List.getElem_toArray, List.getElem_cons_zero, List.getElem_cons_succ, List.setIfInBounds_toArray, List.set_cons_zero, List.set_cons_succ]
      refine wpAnyH_take (i := 5) (v := ?_) rfl (by kernel_rfl) (by kernel_rfl) (by kernel_rfl) (fun _ _ _ h => h) (Or.inl ⟨by rfl, ?_⟩) (by assumption) ?_
      rotate_left
      · intro w hSw; (try dsimp only at hSw); go_simp; try with_reducible rfl
      simp only [Act.put, List.getElem_toArray, List.getElem_cons_zero, List.getElem_cons_succ, List.setIfInBounds_toArray, List.set_cons_zero, List.set_cons_succ]
      refine wpAnyH_ready (rs := [1, 6]) (by kernel_rfl) (by simp) ?_
      refine (AllReadyH.cons rfl (fun K hK => ?_) (AllReadyH.cons rfl (fun K hK => ?_) AllReadyH.nil))
      · skip
        go_simp
        refine hK.out _ _ (by first | with_reducible exact hHeld | ((try dsimp only); go_keep)) (fun hHeld => ?_)
        clear hK
        try simp only [Act.put, List.getElem_toArray, List.getElem_cons_zero, List.getElem_cons_succ, List.setIfInBounds_toArray, List.set_cons_zero, List.set_cons_succ]
        refine wpAnyH_ready (rs := [6]) (by kernel_rfl) (by simp) ?_
        refine AllReadyH.cons rfl (fun K hK => ?_) AllReadyH.nil
        go_simp
        refine hK.out _ _ (by first | with_reducible exact hHeld | ((try dsimp only); go_keep)) (fun hHeld => ?_)
        clear hK
        try simp only [Act.put, List.getElem_toArray, List.getElem_cons_zero, List.getElem_cons_succ, List.setIfInBounds_toArray, List.set_cons_zero, List.set_cons_succ]
        refine wpAnyH_ready (rs := [7]) (by kernel_rfl) (by simp) ?_
        refine AllReadyH.cons rfl (fun K hK => ?_) AllReadyH.nil
        refine step_append_one rfl (.tmp 18) (.tmp 23) 22 rfl (w.heap.size + 1) 5 i0 (.int .u8 0) 1 1 Tryd.underlying22 hi0 hz0 hz1 hz2 rfl (by decide) v j (bytesV (bs.take j)) (by simp [Act.eval]) (HS.out.drew.own.alloc _) ⟨wr.heap.size, 0, none⟩ 1 1 [.int .u8 (bs[j].toNat : Int)] (by simp [Act.eval]) rfl (one_news _ _ _) (by intro u hu; simp at hu; subst hu; rfl) (by unfold maxLen; omega) (by omega) (by (try simp); omega) ?_
        rintro v8 w8 hown8 hg8 - -
        have HS8 := HS.out.step hjx (grown_ad wr _) hg8 hown8
        obtain ⟨hs8, hl8, hf8, hc8, g8, c8, rfl⟩ := HS8
        have HS9 := hide hs8
        have ej8 := HGr.out _ hl8
        have hf80 := hf8 0
        clear hown8 hg8 hs8 hl8 hf8
        refine hK.out _ _ (by first | with_reducible exact hHeld | ((try dsimp only); go_keep)) (fun hHeld => ?_)
        clear hK
        try simp only [Act.put, List.getElem_toArray, List.getElem_cons_zero, List.getElem_cons_succ, List.setIfInBounds_toArray, List.set_cons_zero, List.set_cons_succ]
        refine wpAnyH_take (i := 8) (v := ?_) rfl (by kernel_rfl) (by kernel_rfl) (by kernel_rfl) (fun _ _ _ h => h) (Or.inl ⟨by rfl, ?_⟩) (by assumption) ?_
        rotate_left
        · intro w hSw; (try dsimp only at hSw); go_simp; try with_reducible rfl
        simp only [Act.put, List.getElem_toArray, List.getElem_cons_zero, List.getElem_cons_succ, List.setIfInBounds_toArray, List.set_cons_zero, List.set_cons_succ]
        refine wpAnyH_ready (rs := [9]) (by kernel_rfl) (by simp) ?_
        refine AllReadyH.cons rfl (fun K hK => ?_) AllReadyH.nil
        go_simp
        refine hK.out _ _ ((World.cell?_setCell_far _ _ _ _ (Ne.symm hbn)).trans ej8) (fun hHeld => ?_)
        clear hK
        try simp only [Act.put, List.getElem_toArray, List.getElem_cons_zero, List.getElem_cons_succ, List.setIfInBounds_toArray, List.set_cons_zero, List.set_cons_succ]
        refine wpAnyH_done (by kernel_rfl) ?_ _
        go_wp2
        exact ⟨⟨j + 1, by omega, by omega, by go_num, _, hide HS9.out⟩, by simp [intOf]; omega⟩
      · skip
        go_simp
        refine hK.out _ _ (by first | with_reducible exact hHeld | ((try dsimp only); go_keep)) (fun hHeld => ?_)
        clear hK
        try simp only [Act.put, List.getElem_toArray, List.getElem_cons_zero, List.getElem_cons_succ, List.setIfInBounds_toArray, List.set_cons_zero, List.set_cons_succ]
        refine wpAnyH_ready (rs := [1]) (by kernel_rfl) (by simp) ?_
        refine AllReadyH.cons rfl (fun K hK => ?_) AllReadyH.nil
        go_simp
        refine hK.out _ _ (by first | with_reducible exact hHeld | ((try dsimp only); go_keep)) (fun hHeld => ?_)
        clear hK
        try simp only [Act.put, List.getElem_toArray, List.getElem_cons_zero, List.getElem_cons_succ, List.setIfInBounds_toArray, List.set_cons_zero, List.set_cons_succ]
        refine wpAnyH_ready (rs := [7]) (by kernel_rfl) (by simp) ?_
        refine AllReadyH.cons rfl (fun K hK => ?_) AllReadyH.nil
        refine step_append_one rfl (.tmp 18) (.tmp 23) 22 rfl (w.heap.size + 1) 5 i0 (.int .u8 0) 1 1 Tryd.underlying22 hi0 hz0 hz1 hz2 rfl (by decide) v j (bytesV (bs.take j)) (by simp [Act.eval]) (HS.out.drew.own.alloc _) ⟨wr.heap.size, 0, none⟩ 1 1 [.int .u8 (bs[j].toNat : Int)] (by simp [Act.eval]) rfl (one_news _ _ _) (by intro u hu; simp at hu; subst hu; rfl) (by unfold maxLen; omega) (by omega) (by (try simp); omega) ?_
        rintro v8 w8 hown8 hg8 - -
        have HS8 := HS.out.step hjx (grown_ad wr _) hg8 hown8
        obtain ⟨hs8, hl8, hf8, hc8, g8, c8, rfl⟩ := HS8
        have HS9 := hide hs8
        have ej8 := HGr.out _ hl8
        have hf80 := hf8 0
        clear hown8 hg8 hs8 hl8 hf8
        refine hK.out _ _ (by first | with_reducible exact hHeld | ((try dsimp only); go_keep)) (fun hHeld => ?_)
        clear hK
        try simp only [Act.put, List.getElem_toArray, List.getElem_cons_zero, List.getElem_cons_succ, List.setIfInBounds_toArray, List.set_cons_zero, List.set_cons_succ]
        refine wpAnyH_take (i := 8) (v := ?_) rfl (by kernel_rfl) (by kernel_rfl) (by kernel_rfl) (fun _ _ _ h => h) (Or.inl ⟨by rfl, ?_⟩) (by assumption) ?_
        rotate_left
        · intro w hSw; (try dsimp only at hSw); go_simp; try with_reducible rfl
        simp only [Act.put, List.getElem_toArray, List.getElem_cons_zero, List.getElem_cons_succ, List.setIfInBounds_toArray, List.set_cons_zero, List.set_cons_succ]
        refine wpAnyH_ready (rs := [9]) (by kernel_rfl) (by simp) ?_
        refine AllReadyH.cons rfl (fun K hK => ?_) AllReadyH.nil
        go_simp
        refine hK.out _ _ ((World.cell?_setCell_far _ _ _ _ (Ne.symm hbn)).trans ej8) (fun hHeld => ?_)
        clear hK
        try simp only [Act.put, List.getElem_toArray, List.getElem_cons_zero, List.getElem_cons_succ, List.setIfInBounds_toArray, List.set_cons_zero, List.set_cons_succ]
        refine wpAnyH_done (by kernel_rfl) ?_ _
        go_wp2
        exact ⟨⟨j + 1, by omega, by omega, by go_num, _, hide HS9.out⟩, by simp [intOf]; omega⟩
    · have HE : Hid (bs.take j = bs.take 4000) := hide (by
        have := hx.out
        by_cases h4 : j = 4000
        · rw [h4]
        · rw [List.take_of_length_le (by omega), List.take_of_length_le (by omega)])
      obtain ⟨av, cv, rfl, hat⟩ := HS.out.done HE.out
      have HA := hide hat
      have HLO := hide HS.out.low
      have HSZ := hide HS.out.size
      have HX := hide (show (((n : Int) % 1000) + 29) = (((bs.length % 1000 : Nat) : Int) + 29) by have := hx.out; omega)
      clear hat HE HS
      have e0 := HA.out.c2
      have e2 := HA.out.c2
      have z2 := HA.out.thaw 2
      dsimp only at e2
      by_cases hlt1 : j < n
      · have hlt4 : ¬ j < 4000 := fun h => hlt ⟨hlt1, h⟩
        go_wp2
        clear e2 z2 e0
        generalize wr = wo at *
        go_loopw [5] (fun u wq => ∃ i : Nat, i ≤ (bs.take 4000).length ∧ u = .int .i64 i ∧ Hid (Below w.heap.size w wq) ∧ Hid (wq.heap.size = wo.heap.size) ∧ Hid (SrAt wq w.heap.size (w.heap.size + 1) wo.heap.size ⟨bs.take 4000, 0, mixP ((bs.take 4000).take i) (((bs.length % 1000 : Nat) : Int) + 29), 0⟩)) (fun u _ => (bs.take 4000).length - (intOf u).toNat)
        case atStart => exact ⟨0, Nat.zero_le _, rfl, hide (HLO.out.setCell (Nat.le_refl _) _), hide (size_setCell _ _ _), hide (by
          rw [List.take_zero, HX.out]
          exact (HA.out.mix (((bs.length % 1000 : Nat) : Int) + 29)).undrew)⟩
        case round =>
          obtain ⟨i, hi, rfl, HBq, HZ, HQ⟩ := hrel
          obtain ⟨aq, cq, e0, hbq⟩ := HQ.out.c0
          have e2 := HQ.out.c2
          have e3 := HQ.out.c3
          have z2 := HQ.out.thaw 2
          have z3 := HQ.out.thaw 3
          dsimp only at e0 e2 e3 hbq
          have hmr := mix_rng ((bs.take 4000).take i) (((bs.length % 1000 : Nat) : Int) + 29) (by omega) (by have := Nat.mod_lt bs.length (show 0 < 1000 by decide); omega)
          have HM1 : Hid (∀ h : i < (bs.take 4000).length, mixP ((bs.take 4000).take (i + 1)) (((bs.length % 1000 : Nat) : Int) + 29) = (mixP ((bs.take 4000).take i) (((bs.length % 1000 : Nat) : Int) + 29) * 257 + ((bs.take 4000)[i].toNat : Int) + 1) % 1000003) := hide (fun h => mix_take _ _ i h)
          have HE2 : Hid (i = (bs.take 4000).length → mixP ((bs.take 4000).take i) (((bs.length % 1000 : Nat) : Int) + 29) = mixP (bs.take 4000) (((bs.length % 1000 : Nat) : Int) + 29)) := hide (fun h => by rw [h, List.take_length])
          have HSR : Hid (srcP bs = ⟨bs.take 4000, 0, mixP (bs.take 4000) (((bs.length % 1000 : Nat) : Int) + 29), if 1 + (((bs.take 4000).length : Nat) : Int) / 50 > 7 then 7 else 1 + (((bs.take 4000).length : Nat) : Int) / 50⟩) := hide rfl
          have hlen : (bs.take 4000).length ≤ 4000 := by rw [List.length_take]; omega
          generalize (((bs.length % 1000 : Nat) : Int) + 29) = m0 at *
          generalize hmx : mixP ((bs.take 4000).take i) m0 = mx at *
          generalize bs.take 4000 = cd at *
          have HBB := hide hbq
          clear hbq hmx
          by_cases hlt2 : i < cd.length
          · obtain ⟨bq, oq, rfl, hbB, ec⟩ := HBB.out i hlt2
            have HM := hide (HM1.out hlt2)
            have hby : cd[i].toNat < 256 := UInt8.toNat_lt _
            generalize cd[i] = by0 at *
            generalize by0.toNat = bn at *
            have hrem : (mx * 257 + (bn : Int) + 1).tmod 1000003 = (mx * 257 + (bn : Int) + 1) % 1000003 := Int.tmod_eq_emod_of_nonneg (by omega)
            have hlt2' : (i : Int) < (cd.length : Int) := by omega
            clear HM1 HE2 HSR
            generalize hcl : cd.length = cl at *
            go_wp2
            go_region
            go_wp2
            exact ⟨⟨i + 1, by omega, by go_num, hide (HBq.out.setCell (Nat.le_refl _) _).drew, hide ((size_setCell _ _ _).trans HZ.out), hide (by rw [HM.out]; exact HQ.out.mix _)⟩, by simp [intOf]; omega⟩
          · have hie : i = cd.length := by omega
            have HF : Hid (SrAt wr w.heap.size (w.heap.size + 1) wo.heap.size ⟨cd, 0, mixP cd m0, 0⟩) := hide (by rw [← HE2.out hie]; exact HQ.out)
            have HSR2 := HSR
            clear HE2 HM1 HQ HBB HSR
            have HSR := HSR2
            clear HSR2
            generalize hcl : cd.length = cl at *
            have hsz := HLO.out.size
            by_cases h7 : 1 + (cl : Int) / 50 > 7
            · have HR := hide (HSR.out.trans (by rw [if_pos h7]))
              go_wp2
              go_ret
              refine ⟨rfl, (HBq.out.setCell (Nat.le_refl _) _).setCell (Nat.le_refl _) _, ?_, ?_⟩
              · rw [size_setCell, size_setCell, HZ.out]; exact HSZ.out
              · rw [size_setCell, size_setCell, HZ.out, HR.out]
                exact (HF.out.siz _).siz _
            · have HR := hide (HSR.out.trans (by rw [if_neg h7]))
              go_wp2
              go_ret
              refine ⟨rfl, HBq.out.setCell (Nat.le_refl _) _, ?_, ?_⟩
              · rw [size_setCell, HZ.out]; exact HSZ.out
              · rw [size_setCell, HZ.out, HR.out]
                exact HF.out.siz _
      · skip
        go_wp2
        clear e2 z2 e0
        generalize wr = wo at *
        go_loopw [5] (fun u wq => ∃ i : Nat, i ≤ (bs.take 4000).length ∧ u = .int .i64 i ∧ Hid (Below w.heap.size w wq) ∧ Hid (wq.heap.size = wo.heap.size) ∧ Hid (SrAt wq w.heap.size (w.heap.size + 1) wo.heap.size ⟨bs.take 4000, 0, mixP ((bs.take 4000).take i) (((bs.length % 1000 : Nat) : Int) + 29), 0⟩)) (fun u _ => (bs.take 4000).length - (intOf u).toNat)
        case atStart => exact ⟨0, Nat.zero_le _, rfl, hide (HLO.out.setCell (Nat.le_refl _) _), hide (size_setCell _ _ _), hide (by
          rw [List.take_zero, HX.out]
          exact (HA.out.mix (((bs.length % 1000 : Nat) : Int) + 29)).undrew)⟩
        case round =>
          obtain ⟨i, hi, rfl, HBq, HZ, HQ⟩ := hrel
          obtain ⟨aq, cq, e0, hbq⟩ := HQ.out.c0
          have e2 := HQ.out.c2
          have e3 := HQ.out.c3
          have z2 := HQ.out.thaw 2
          have z3 := HQ.out.thaw 3
          dsimp only at e0 e2 e3 hbq
          have hmr := mix_rng ((bs.take 4000).take i) (((bs.length % 1000 : Nat) : Int) + 29) (by omega) (by have := Nat.mod_lt bs.length (show 0 < 1000 by decide); omega)
          have HM1 : Hid (∀ h : i < (bs.take 4000).length, mixP ((bs.take 4000).take (i + 1)) (((bs.length % 1000 : Nat) : Int) + 29) = (mixP ((bs.take 4000).take i) (((bs.length % 1000 : Nat) : Int) + 29) * 257 + ((bs.take 4000)[i].toNat : Int) + 1) % 1000003) := hide (fun h => mix_take _ _ i h)
          have HE2 : Hid (i = (bs.take 4000).length → mixP ((bs.take 4000).take i) (((bs.length % 1000 : Nat) : Int) + 29) = mixP (bs.take 4000) (((bs.length % 1000 : Nat) : Int) + 29)) := hide (fun h => by rw [h, List.take_length])
          have HSR : Hid (srcP bs = ⟨bs.take 4000, 0, mixP (bs.take 4000) (((bs.length % 1000 : Nat) : Int) + 29), if 1 + (((bs.take 4000).length : Nat) : Int) / 50 > 7 then 7 else 1 + (((bs.take 4000).length : Nat) : Int) / 50⟩) := hide rfl
          have hlen : (bs.take 4000).length ≤ 4000 := by rw [List.length_take]; omega
          generalize (((bs.length % 1000 : Nat) : Int) + 29) = m0 at *
          generalize hmx : mixP ((bs.take 4000).take i) m0 = mx at *
          generalize bs.take 4000 = cd at *
          have HBB := hide hbq
          clear hbq hmx
          by_cases hlt2 : i < cd.length
          · obtain ⟨bq, oq, rfl, hbB, ec⟩ := HBB.out i hlt2
            have HM := hide (HM1.out hlt2)
            have hby : cd[i].toNat < 256 := UInt8.toNat_lt _
            generalize cd[i] = by0 at *
            generalize by0.toNat = bn at *
            have hrem : (mx * 257 + (bn : Int) + 1).tmod 1000003 = (mx * 257 + (bn : Int) + 1) % 1000003 := Int.tmod_eq_emod_of_nonneg (by omega)
            have hlt2' : (i : Int) < (cd.length : Int) := by omega
            clear HM1 HE2 HSR
            generalize hcl : cd.length = cl at *
            go_wp2
            go_region
            go_wp2
            exact ⟨⟨i + 1, by omega, by go_num, hide (HBq.out.setCell (Nat.le_refl _) _).drew, hide ((size_setCell _ _ _).trans HZ.out), hide (by rw [HM.out]; exact HQ.out.mix _)⟩, by simp [intOf]; omega⟩
          · have hie : i = cd.length := by omega
            have HF : Hid (SrAt wr w.heap.size (w.heap.size + 1) wo.heap.size ⟨cd, 0, mixP cd m0, 0⟩) := hide (by rw [← HE2.out hie]; exact HQ.out)
            have HSR2 := HSR
            clear HE2 HM1 HQ HBB HSR
            have HSR := HSR2
            clear HSR2
            generalize hcl : cd.length = cl at *
            have hsz := HLO.out.size
            by_cases h7 : 1 + (cl : Int) / 50 > 7
            · have HR := hide (HSR.out.trans (by rw [if_pos h7]))
              go_wp2
              go_ret
              refine ⟨rfl, (HBq.out.setCell (Nat.le_refl _) _).setCell (Nat.le_refl _) _, ?_, ?_⟩
              · rw [size_setCell, size_setCell, HZ.out]; exact HSZ.out
              · rw [size_setCell, size_setCell, HZ.out, HR.out]
                exact (HF.out.siz _).siz _
            · have HR := hide (HSR.out.trans (by rw [if_neg h7]))
              go_wp2
              go_ret
              refine ⟨rfl, HBq.out.setCell (Nat.le_refl _) _, ?_, ?_⟩
              · rw [size_setCell, HZ.out]; exact HSZ.out
              · rw [size_setCell, HZ.out, HR.out]
                exact HF.out.siz _
end Go.Proofs.YtlmaodcddbkllaaDoor
