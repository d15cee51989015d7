import Derived.Test.YtlmaodcddbkllaaDoorDS3a
import Derived.Test.YtlmaodcddbkllaaDoorDS3c
import Derived.Test.YtlmaodcddbkllaaDoorDR1
/-
  The draw of moves.
-/
namespace Go.Proofs.YtlmaodcddbkllaaDoor
open Go.RowKit

theorem drawSeq_any (a : Option Addr) (n c : Nat) (bs : List UInt8) (L B : Nat) (w : World) (ha : Hid (BytesAt w L B a bs)) (hx : Hid (n = bs.length)) (hn : n ≤ 1048576) (hB : B ≤ w.heap.size) :
    Calls Tryd.prog 22 #[.slice a n c] w fun e w' => ∃ v, e = .returned v ∧ RowKit.Below w.heap.size w w' ∧ w'.ownsRow w.heap.size 58 2 v (drawP (srcP bs)).length (mvV (drawP (srcP bs))) := by
  obtain ⟨r1, s1, h1⟩ : ∃ r s', nextP (srcP bs) (3 + 3 * (srcP bs).size) = (r, s') := ⟨_, _, rfl⟩
  obtain ⟨r2, s2, h2⟩ : ∃ r s', nextP s1 2 = (r, s') := ⟨_, _, rfl⟩
  by_cases z2 : r2 = 0
  · obtain ⟨r3, s3, h3⟩ : ∃ r s', nextP s2 8 = (r, s') := ⟨_, _, rfl⟩
    obtain ⟨r4, s4, h4⟩ : ∃ r s', nextP s3 10 = (r, s') := ⟨_, _, rfl⟩
    by_cases z4 : r4 = 0
    · exact drawSeq_c a n c bs L B w ha hx hn hB _ s1 s2 s3 s4 r1 r2 r3 r4 (hide rfl) (hide h1) (hide h2) (hide h3) (hide h4) z2 z4
    · exact drawSeq_a a n c bs L B w ha hx hn hB _ s1 s2 s3 s4 r1 r2 r3 r4 (hide rfl) (hide h1) (hide h2) (hide h3) (hide h4) z2 z4
  · obtain ⟨r4, s4, h4⟩ : ∃ r s', nextP s2 10 = (r, s') := ⟨_, _, rfl⟩
    by_cases z4 : r4 = 0
    · exact drawSeq_d a n c bs L B w ha hx hn hB _ s1 s2 s4 r1 r2 r4 (hide rfl) (hide h1) (hide h2) (hide h4) z2 z4
    · exact drawSeq_b a n c bs L B w ha hx hn hB _ s1 s2 s4 r1 r2 r4 (hide rfl) (hide h1) (hide h2) (hide h4) z2 z4
end Go.Proofs.YtlmaodcddbkllaaDoor

/-
  Sequence, pure: what the copies do, made one after another.
-/
namespace Go.Proofs.YtlmaodcddbkllaaDoor

/-- Registers and the scratch. -/
structure Rg (V : Type) where
  reg : Int → V
  scr : V
def setR {V : Type} (f : Int → V) (d : Int) (v : V) : Int → V := fun r => if r = d then v else f r
/-- One copy. -/
def cp1 {V : Type} (s : Rg V) (x : Ins) : Rg V := if x.op = 11 then ⟨setR s.reg x.dst (s.reg x.a), s.scr⟩ else if x.op = 12 then ⟨s.reg, s.reg x.a⟩ else ⟨setR s.reg x.dst s.scr, s.scr⟩
def cps {V : Type} (s : Rg V) (xs : List Ins) : Rg V := xs.foldl cp1 s
/-- What a move reads. -/
def srcV {V : Type} (s : Rg V) (m : Mv) : V := if m.frm < 0 then s.scr else s.reg m.frm
/-- The registers behind all moves at once. -/
def atOnce {V : Type} (s : Rg V) (L : List Mv) (r : Int) : V := match L.find? fun m => m.to == r with
  | some m => srcV s m
  | none => s.reg r
theorem find_to {L : List Mv} (hn : (tosM L).Nodup) {m : Mv} (hm : m ∈ L) : (L.find? fun q => q.to == m.to) = some m := by
  cases h : L.find? fun q => q.to == m.to with
  | none =>
    have := List.find?_eq_none.1 h m hm
    simp at this
  | some q =>
    have h1 := List.find?_some h
    have h2 := List.mem_of_find?_eq_some h
    obtain ⟨i, hi, rfl⟩ := List.getElem_of_mem h2
    obtain ⟨j, hj, rfl⟩ := List.getElem_of_mem hm
    have key := List.pairwise_iff_getElem.1 (show (L.map (·.to)).Pairwise (· ≠ ·) from hn)
    have e : L[i].to = L[j].to := by simpa using h1
    rcases Nat.lt_trichotomy i j with hl | hl | hl
    · exact (key i j (by simpa using hi) (by simpa using hj) hl (by simp [e])).elim
    · subst hl; rfl
    · exact (key j i (by simpa using hj) (by simpa using hi) hl (by simp [e])).elim
theorem find_not {L : List Mv} {r : Int} (h : r ∉ tosM L) : (L.find? fun q => q.to == r) = none := List.find?_eq_none.2 (fun m hm => by
  have : m.to ≠ r := fun e => h (List.mem_map.2 ⟨m, hm, e⟩)
  simpa using this)
theorem once_in {V : Type} {s : Rg V} {L : List Mv} (hn : (tosM L).Nodup) {m : Mv} (hm : m ∈ L) : atOnce s L m.to = srcV s m := by
  unfold atOnce; rw [find_to hn hm]
theorem once_out {V : Type} {s : Rg V} {L : List Mv} {r : Int} (h : r ∉ tosM L) : atOnce s L r = s.reg r := by
  unfold atOnce; rw [find_not h]
theorem once_ext {V : Type} {s : Rg V} {L : List Mv} (hn : (tosM L).Nodup) {f : Int → V} (h1 : ∀ m ∈ L, f m.to = srcV s m) (h2 : ∀ r, r ∉ tosM L → f r = s.reg r) : f = atOnce s L := by
  funext r
  by_cases h : r ∈ tosM L
  · obtain ⟨m, hm, rfl⟩ := List.mem_map.1 h
    rw [h1 m hm, once_in hn hm]
  · rw [h2 r h, once_out h]
/-- Numbers that are all among others, and no two of them one, are no more than those. -/
theorem nodup_len : ∀ {xs ys : List Int}, xs.Nodup → (∀ x ∈ xs, x ∈ ys) → xs.length ≤ ys.length
  | [], _, _, _ => Nat.zero_le _
  | x :: xs, ys, hn, hs => by
    obtain ⟨h1, h2⟩ := List.nodup_cons.1 hn
    have hx := hs x List.mem_cons_self
    have := nodup_len (xs := xs) (ys := ys.erase x) h2 (fun z hz => (List.mem_erase_of_ne (fun e => h1 (by rw [← e]; exact hz))).2 (hs z (List.mem_cons_of_mem _ hz)))
    rw [List.length_erase_of_mem hx] at this
    have hp : 0 < ys.length := List.length_pos_of_mem hx
    simp only [List.length_cons]
    omega
/-- Where no register is free, none waits for the scratch. -/
theorem no_wait {L : List Mv} (h : MvOk L) (hl : lowI (freeT L) = none) : ∀ m ∈ L, 0 ≤ m.frm := by
  intro m hm
  by_cases hf : 0 ≤ m.frm
  · exact hf
  exfalso
  have hall : ∀ t ∈ tosM L, t ∈ (L.filter fun q => decide (0 ≤ q.frm)).map (·.frm) := fun t ht => by
    have h0 : freeT L = [] := lowI_none.1 hl
    have : isRead L t = true := by
      have := List.filter_eq_nil_iff.1 h0 t ht
      simpa using this
    obtain ⟨q, hq, e⟩ := isRead_iff.1 this
    obtain ⟨p, hp, e2⟩ := List.mem_map.1 ht
    have := h.to p hp
    exact List.mem_map.2 ⟨q, List.mem_filter.2 ⟨hq, by simp; omega⟩, e⟩
  have h1 := nodup_len h.nd hall
  rw [List.length_map] at h1
  have h2 : (L.filter fun q => decide (0 ≤ q.frm)).length < L.length := List.length_filter_lt_length_iff_exists.2 ⟨m, hm, by simpa using hf⟩
  unfold tosM at h1
  rw [List.length_map] at h1
  omega
theorem from_in {L : List Mv} (hn : (tosM L).Nodup) {m : Mv} (hm : m ∈ L) : fromOf L m.to = m.frm := by
  unfold fromOf; rw [find_to hn hm]; rfl
theorem step_do {V : Type} {L : List Mv} (h : MvOk L) (hne : L ≠ []) (s : Rg V) : atOnce (cp1 s (stepM L).1) (stepM L).2 = atOnce s L := by
  cases hl : lowI (freeT L) with
  | some t =>
    obtain ⟨h1, -⟩ := lowI_some hl
    obtain ⟨h2, h3⟩ := List.mem_filter.1 h1
    obtain ⟨m, hm, rfl⟩ := List.mem_map.1 h2
    have hst : stepM L = (cpI m, without L m.to) := by
      unfold stepM; rw [hl]
      show (cpI ⟨m.to, fromOf L m.to⟩, _) = _
      rw [from_in h.nd hm]
    rw [hst]
    have hcp : cp1 s (cpI m) = ⟨setR s.reg m.to (srcV s m), s.scr⟩ := by
      unfold cpI srcV
      by_cases hf : m.frm < 0
      · rw [if_pos hf, if_pos hf]; rfl
      · rw [if_neg hf, if_neg hf]; rfl
    rw [hcp]
    have hnr : ∀ q ∈ L, q.frm ≠ m.to := fun q hq e => by
      have : isRead L m.to = true := isRead_iff.2 ⟨q, hq, e⟩
      rw [this] at h3; cases h3
    have hsrc : ∀ q ∈ L, srcV (V := V) ⟨setR s.reg m.to (srcV s m), s.scr⟩ q = srcV s q := fun q hq => by
      unfold srcV setR
      split
      · rfl
      · dsimp only; rw [if_neg (hnr q hq)]
    refine once_ext h.nd (fun q hq => ?_) (fun r hr => ?_)
    · by_cases e : q.to = m.to
      · have hno : q.to ∉ tosM (without L m.to) := fun hin => by
          obtain ⟨p, hp, e2⟩ := List.mem_map.1 hin
          have := (List.mem_filter.1 hp).2
          simp [e2, e] at this
        rw [once_out hno]
        have hqm : q = m := by
          have := find_to h.nd hq
          rw [e, find_to h.nd hm] at this
          exact (Option.some.inj this).symm
        subst hqm
        show setR _ _ _ _ = _
        unfold setR
        rw [if_pos rfl]
      · have hin : q ∈ without L m.to := List.mem_filter.2 ⟨hq, by simpa using e⟩
        rw [once_in (h.without m.to).nd hin, hsrc q hq]
    · have hno : r ∉ tosM (without L m.to) := fun hin => by
        obtain ⟨p, hp, e2⟩ := List.mem_map.1 hin
        exact hr (List.mem_map.2 ⟨p, (List.mem_filter.1 hp).1, e2⟩)
      rw [once_out hno]
      show setR _ _ _ _ = _
      unfold setR
      rw [if_neg (fun e => hr (by rw [e]; exact List.mem_map.2 ⟨m, hm, rfl⟩))]
  | none =>
    have hw := no_wait h hl
    have htn : tosM L ≠ [] := fun e => hne (by simpa [tosM] using e)
    cases hlt : lowI (tosM L) with
    | none => exact absurd (lowI_none.1 hlt) htn
    | some r =>
      have hst : stepM L = (⟨12, 0, r, 0, 0⟩, scratch L r) := by
        unfold stepM; rw [hl]; dsimp only; rw [hlt]
      rw [hst]
      have hcp : cp1 s ⟨12, 0, r, 0, 0⟩ = ⟨s.reg, s.reg r⟩ := rfl
      rw [hcp]
      have hnd : (tosM (scratch L r)).Nodup := (h.scratch r).nd
      refine once_ext h.nd (fun q hq => ?_) (fun z hz => ?_)
      · have hin : (if q.frm = r then (⟨q.to, -1⟩ : Mv) else q) ∈ scratch L r := List.mem_map.2 ⟨q, hq, rfl⟩
        have hto : (if q.frm = r then (⟨q.to, -1⟩ : Mv) else q).to = q.to := by split <;> rfl
        have := once_in (s := (⟨s.reg, s.reg r⟩ : Rg V)) hnd hin
        rw [hto] at this
        rw [this]
        have h0 := hw q hq
        unfold srcV
        by_cases e : q.frm = r
        · rw [if_pos e, if_pos (show (-1 : Int) < 0 by decide), if_neg (by omega), e]
        · rw [if_neg e, if_neg (by omega), if_neg (by omega)]
      · rw [once_out (by rw [tos_scratch]; exact hz)]
/-- THE COPIES, MADE ONE AFTER ANOTHER, DO WHAT THE MOVES DO AT ONCE. -/
theorem emit_do {V : Type} : ∀ (n : Nat) (L : List Mv), meas L ≤ n → MvOk L → ∀ s : Rg V, (cps s (emitM (meas L) L)).reg = atOnce s L
  | n, L, hn, h, s => by
    by_cases hne : L = []
    · subst hne
      rw [emitM_nil]
      rfl
    · have h1 := meas_step h hne
      match n, hn with
      | 0, hn => omega
      | n + 1, hn =>
        rw [emit_run h hne]
        show (cps (cp1 s (stepM L).1) _).reg = _
        rw [emit_do n _ (by omega) h.step, step_do h hne]
end Go.Proofs.YtlmaodcddbkllaaDoor
