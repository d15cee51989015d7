import Derived.Test.YtlmaodcddbkllaaDoorDS4
import Derived.Test.YtlmaodcddbkllaaDoorSQ20
import Derived.Test.YtlmaodcddbkllaaDoorSQ15
/-
  FnSequence: the copies in memory; how many there are.
-/
namespace Go.Proofs.YtlmaodcddbkllaaDoor
open Go.RowKit

theorem inV_get : ∀ (xs : List Ins) (i : Nat) (h : i < xs.length), (inV xs)[i * 5]? = some (.int .i64 xs[i].op) ∧ (inV xs)[i * 5 + 1]? = some (.int .i64 xs[i].dst) ∧ (inV xs)[i * 5 + 2]? = some (.int .i64 xs[i].a) ∧ (inV xs)[i * 5 + 3]? = some (.int .i64 xs[i].b) ∧ (inV xs)[i * 5 + 4]? = some (.int .i64 xs[i].imm)
  | [], i, h => absurd h (by simp)
  | m :: xs, 0, _ => ⟨rfl, rfl, rfl, rfl, rfl⟩
  | m :: xs, i + 1, h => by
    have := inV_get xs i (by simpa using h)
    rw [inV_cons]
    rw [show (i + 1) * 5 = i * 5 + 1 + 1 + 1 + 1 + 1 by omega]
    simpa using this
theorem inss_own {w : World} {base e : Nat} {v : Value} {n : Nat} {xs : List Ins} (h : w.ownsRow base e 5 v n (inV xs)) : ∃ a c, v = .slice a xs.length c ∧ InssAt w base w.heap.size a xs := by
  have hl := h.1
  rw [inV_len] at hl
  have hn : n = xs.length := by omega
  subst hn
  rcases own_form h with ⟨rfl, h0, _⟩ | ⟨g, c, rfl, hg, hc⟩
  · have : xs = [] := List.eq_nil_of_length_eq_zero h0
    subst this
    exact ⟨none, 0, rfl, fun i hi => absurd hi (by simp)⟩
  · refine ⟨_, c, rfl, fun i hi => ⟨g, 0, rfl, hg, ?_⟩⟩
    rw [Nat.zero_add]
    obtain ⟨h0, h1, h2, h3, h4⟩ := inV_get xs i hi
    exact ⟨own_cell h h0, own_cell h h1, own_cell h h2, own_cell h h3, own_cell h h4⟩
/-- A row whose cells are told by a function. -/
theorem row_set {T : Type} {C : T → Value} {w : World} {g t n : Nat} {f : Nat → T} (h : w.rowIs g t n (fun z => C (f z))) (r : Nat) (v : T) : (w.setCell ⟨g, r, none⟩ (C v)).rowIs g t n (fun z => C (if z = r then v else f z)) :=
  (h.set r (C v)).congr (fun z _ => by by_cases e : z = r <;> simp [e])
theorem row_as {T : Type} {C : T → Value} {w : World} {g t n : Nat} {f f' : Nat → T} (h : w.rowIs g t n (fun z => C (f z))) (e : ∀ z, z < n → f z = f' z) : w.rowIs g t n (fun z => C (f' z)) := h.congr (fun z hz => by rw [e z hz])
theorem Tryd.infoBo : (Tryd.prog.info? 4).map (fun i => (i.zero, i.size, i.bytes)) = some (some (.bool false), 1, 1) := by kernel_rfl
/-- What the law's inner loop has yet to do (kept shut: simp would take the two truth values apart). -/
def LoopIs (src : Int → Int) (r : Int) (k : Nat) (z sr : Int) (sv : Value) : Prop := ∃ b : Bool, sv = .bool b ∧ loopC src r k z b = loopC src r 64 sr true
def SameW (a b : World) : Prop := a = b
theorem copies_le (xs : List Mv) : (seqM xs).length ≤ 128 := by
  cases hg : goodM xs with
  | false => rw [seq_bad hg]; simp
  | true =>
    obtain ⟨h64, _⟩ := goodM_good hg
    rw [(seq_good hg).2.2]
    have h1 := start_le xs
    have h2 := cnt_le (srcM xs) 64
    unfold cntC at h2
    omega
end Go.Proofs.YtlmaodcddbkllaaDoor
