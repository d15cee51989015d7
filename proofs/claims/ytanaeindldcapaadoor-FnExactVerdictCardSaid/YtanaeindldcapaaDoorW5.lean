import Derived.Test.YtanaeindldcapaaDoorW1
import Derived.BigQuiet
import Derived.Deep.OwnRows
import Derived.Deep.MidRow
namespace Go.Proofs.YtanaeindldcapaaDoor
open Go.RowKit
/-- Which fields an instruction uses, in letters. -/
def usesS (op : Int) : ByteArray :=
  if op = 1 then ⟨#[100, 105]⟩ else if op = 2 then ⟨#[100, 105]⟩ else if 3 ≤ op ∧ op ≤ 7 then ⟨#[100, 97, 98]⟩ else if op = 8 then ⟨#[100, 97]⟩ else if op = 11 then ⟨#[100, 97]⟩
  else if op = 9 then ⟨#[97, 98]⟩ else if op = 10 then ⟨#[97]⟩ else if op = 12 then ⟨#[97]⟩ else if op = 13 then ⟨#[100]⟩ else ⟨#[]⟩
theorem ret_string {a b : ByteArray} (h : a = b) : Ending.returned (.string a) = .returned (.string b) := by rw [h]
set_option maxHeartbeats 1000000 in
theorem l1Uses_any (op : Int) (w : World) :
    Calls Tryd.prog 79 #[.int .i64 op] w fun e w' => e = .returned (.string (usesS op)) ∧ w' = w := by
  by_cases h : 1 ≤ op ∧ op ≤ 13
  · have hc : op = 1 ∨ op = 2 ∨ op = 3 ∨ op = 4 ∨ op = 5 ∨ op = 6 ∨ op = 7 ∨ op = 8 ∨ op = 9 ∨ op = 10 ∨ op = 11 ∨ op = 12 ∨ op = 13 := by omega
    rcases hc with rfl | rfl | rfl | rfl | rfl | rfl | rfl | rfl | rfl | rfl | rfl | rfl | rfl
    all_goals
      clear h
      go_enter Tryd.func79, Tryd.ntmps79
      go_wp2
      go_ret
      exact ⟨rfl, rfl⟩
  · have h1 : (op == 1) = false := by simp; omega
    have h2 : (op == 2) = false := by simp; omega
    have h3 : (op == 3) = false := by simp; omega
    have h4 : (op == 4) = false := by simp; omega
    have h5 : (op == 5) = false := by simp; omega
    have h6 : (op == 6) = false := by simp; omega
    have h7 : (op == 7) = false := by simp; omega
    have h8 : (op == 8) = false := by simp; omega
    have h9 : (op == 9) = false := by simp; omega
    have h10 : (op == 10) = false := by simp; omega
    have h11 : (op == 11) = false := by simp; omega
    have h12 : (op == 12) = false := by simp; omega
    have h13 : (op == 13) = false := by simp; omega
    have hu : Hid (usesS op = ⟨#[]⟩) := by
      show _ = _
      unfold usesS
      rw [if_neg (by omega), if_neg (by omega), if_neg (by omega), if_neg (by omega), if_neg (by omega), if_neg (by omega), if_neg (by omega), if_neg (by omega), if_neg (by omega)]
    clear h
    go_enter Tryd.func79, Tryd.ntmps79
    go_wp2
    go_ret
    exact ⟨ret_string hu.out.symm, rfl⟩
def hasB (s : ByteArray) (f : Int) : Bool := s.data.toList.any fun c => (c.toNat : Int) == f
theorem hasB_yes {s : ByteArray} {f : Int} {k : Nat} (hk : k < s.size) (h : (s[k].toNat : Int) = f) : hasB s f = true := by
  unfold hasB
  rw [List.any_eq_true]
  exact ⟨s[k], by rw [Array.mem_toList_iff]; exact Array.getElem_mem hk, by simp [h]⟩
theorem hasB_no {s : ByteArray} {f : Int} (h : ∀ j (hj : j < s.size), (s[j].toNat : Int) ≠ f) : hasB s f = false := by
  unfold hasB
  rw [List.any_eq_false]
  intro c hc
  obtain ⟨j, hj, rfl⟩ := Array.mem_iff_getElem.1 (Array.mem_toList_iff.1 hc)
  have := h j hj
  rw [beq_iff_eq]
  exact this
theorem usesS_size (op : Int) : (usesS op).size ≤ 3 := by
  unfold usesS
  repeat (split <;> try decide)
set_option maxHeartbeats 400000 in
theorem l1Used_any (op f : Int) (w : World) :
    Calls Tryd.prog 53 #[.int .i64 op, .int .u8 f] w fun e w' => e = .returned (.bool (hasB (usesS op) f)) ∧ w' = w := by
  go_enter Tryd.func53, Tryd.ntmps53
  go_wp2_with fail
  refine (l1Uses_any _ _).mono ?_
  rintro e w1 ⟨rfl, rfl⟩
  have hs := usesS_size op
  generalize hS : usesS op = s at *
  have HS := hide hS
  clear hS
  go_wp2
  go_loop [6] (fun i => ∃ k : Nat, k ≤ s.size ∧ i = .int .i64 k ∧ Hid (∀ j (hj : j < s.size), j < k → (s[j].toNat : Int) ≠ f)) (fun i => s.size - (intOf i).toNat)
  case atStart => exact ⟨0, Nat.zero_le _, rfl, fun j hj h => absurd h (by omega)⟩
  case round =>
    obtain ⟨k, hk, rfl, hno⟩ := hrel
    by_cases hlt : k < s.size
    · by_cases he : (s[k].toNat : Int) = f
      · have hb : ((s[k].toNat : Int) == f) = true := by simp [he]
        have HE := hide he
        clear he
        go_wp2
        go_ret
        exact ⟨ret_bool (by rw [unhide HS]; exact (hasB_yes hlt HE.out).symm), rfl⟩
      · have hb : ((s[k].toNat : Int) == f) = false := by simp [he]
        have HE := hide he
        clear he
        go_wp2
        go_round
        case rel => exact ⟨k + 1, by omega, by go_num, fun j hj h => if e : j = k then by subst e; exact HE.out else hno.out j hj (by omega)⟩
        case measure => simp [intOf]; omega
    · go_wp2
      go_ret
      exact ⟨ret_bool (by rw [unhide HS]; exact (hasB_no fun j hj => hno.out j hj (by omega)).symm), rfl⟩
theorem hasB_d (op : Int) : hasB (usesS op) 100 = dB op := by
  by_cases h : 1 ≤ op ∧ op ≤ 13
  · have hc : op = 1 ∨ op = 2 ∨ op = 3 ∨ op = 4 ∨ op = 5 ∨ op = 6 ∨ op = 7 ∨ op = 8 ∨ op = 9 ∨ op = 10 ∨ op = 11 ∨ op = 12 ∨ op = 13 := by omega
    rcases hc with rfl | rfl | rfl | rfl | rfl | rfl | rfl | rfl | rfl | rfl | rfl | rfl | rfl <;> rfl
  · unfold usesS
    rw [if_neg (by omega), if_neg (by omega), if_neg (by omega), if_neg (by omega), if_neg (by omega), if_neg (by omega), if_neg (by omega), if_neg (by omega), if_neg (by omega)]
    simp only [hasB, dB]
    rw [decide_eq_false (by omega), decide_eq_false (by omega), decide_eq_false (by omega)]
    rfl
theorem hasB_a (op : Int) : hasB (usesS op) 97 = aB op := by
  by_cases h : 1 ≤ op ∧ op ≤ 13
  · have hc : op = 1 ∨ op = 2 ∨ op = 3 ∨ op = 4 ∨ op = 5 ∨ op = 6 ∨ op = 7 ∨ op = 8 ∨ op = 9 ∨ op = 10 ∨ op = 11 ∨ op = 12 ∨ op = 13 := by omega
    rcases hc with rfl | rfl | rfl | rfl | rfl | rfl | rfl | rfl | rfl | rfl | rfl | rfl | rfl <;> rfl
  · unfold usesS
    rw [if_neg (by omega), if_neg (by omega), if_neg (by omega), if_neg (by omega), if_neg (by omega), if_neg (by omega), if_neg (by omega), if_neg (by omega), if_neg (by omega)]
    simp only [hasB, aB]
    rw [decide_eq_false (by omega)]
    rfl
theorem hasB_b (op : Int) : hasB (usesS op) 98 = bB op := by
  by_cases h : 1 ≤ op ∧ op ≤ 13
  · have hc : op = 1 ∨ op = 2 ∨ op = 3 ∨ op = 4 ∨ op = 5 ∨ op = 6 ∨ op = 7 ∨ op = 8 ∨ op = 9 ∨ op = 10 ∨ op = 11 ∨ op = 12 ∨ op = 13 := by omega
    rcases hc with rfl | rfl | rfl | rfl | rfl | rfl | rfl | rfl | rfl | rfl | rfl | rfl | rfl <;> rfl
  · unfold usesS
    rw [if_neg (by omega), if_neg (by omega), if_neg (by omega), if_neg (by omega), if_neg (by omega), if_neg (by omega), if_neg (by omega), if_neg (by omega), if_neg (by omega)]
    simp only [hasB, bB]
    rw [decide_eq_false (by omega), decide_eq_false (by omega)]
    rfl
theorem usedD (op : Int) (w : World) : Calls Tryd.prog 53 #[.int .i64 op, .int .u8 100] w fun e w' => e = .returned (.bool (dB op)) ∧ w' = w := by rw [← hasB_d]; exact l1Used_any op 100 w
theorem usedA (op : Int) (w : World) : Calls Tryd.prog 53 #[.int .i64 op, .int .u8 97] w fun e w' => e = .returned (.bool (aB op)) ∧ w' = w := by rw [← hasB_a]; exact l1Used_any op 97 w
theorem usedB (op : Int) (w : World) : Calls Tryd.prog 53 #[.int .i64 op, .int .u8 98] w fun e w' => e = .returned (.bool (bB op)) ∧ w' = w := by rw [← hasB_b]; exact l1Used_any op 98 w
section
variable {w w1 : World} {L B b t N : Nat} {f : Nat → Value}
theorem heap_setCells (b : Nat) : ∀ (vs : List Value) (o : Nat) (w : World) (k : Nat), k ≠ b → (w.setCells b o vs).heap[k]? = w.heap[k]?
  | [], _, _, _, _ => rfl
  | v :: r, o, w, k, h => by rw [World.setCells, heap_setCells b r _ _ _ h, Below.heap_setCell _ _ _ _ h]
theorem size_setCells (b : Nat) : ∀ (vs : List Value) (o : Nat) (w : World), (w.setCells b o vs).heap.size = w.heap.size
  | [], _, _ => rfl
  | v :: r, o, w => by rw [World.setCells, size_setCells b r]; simp [World.setCell]
theorem below_setCells (b : Nat) : ∀ (vs : List Value) (o : Nat) (w w1 : World), Below B w w1 → B ≤ b → Below B w (w1.setCells b o vs)
  | [], _, _, _, h, _ => h
  | v :: r, o, w, w1, h, hb => by rw [World.setCells]; exact below_setCells b r _ _ _ (h.setCell hb v) hb
theorem rowIs_setCells : ∀ (vs : List Value) (o : Nat) (w : World) (f : Nat → Value), w.rowIs b t N f → ∃ g, (w.setCells b o vs).rowIs b t N g
  | [], _, _, f, h => ⟨f, h⟩
  | v :: r, o, w, _, h => by rw [World.setCells]; exact rowIs_setCells r _ _ _ (h.set o v)
theorem there_of_row (hr : w.rowIs b t N f) {o m : Nat} (h : o + m ≤ N) : w.there b o m := fun j hj => ⟨by rw [hr.cell (by omega)]; rfl, hr.frozen _⟩
theorem same_setCells (h : Same L B w w1) (vs : List Value) (o : Nat) (hb : b < L ∨ B ≤ b) : Same L B w (w1.setCells b o vs) := fun k h1 h2 => by
  rw [heap_setCells _ _ _ _ _ (by omega)]; exact h k h1 h2
theorem Same.refl (L B : Nat) (w : World) : Same L B w w := fun _ _ _ => rfl
theorem Same.setCell (h : Same L B w w1) {p : Addr} (hp : p.block < L ∨ B ≤ p.block) (v : Value) : Same L B w (w1.setCell p v) := fun k h1 h2 => by
  rw [Below.heap_setCell _ _ _ _ (by omega)]; exact h k h1 h2
theorem size_setCell (w : World) (p : Addr) (v : Value) : (w.setCell p v).heap.size = w.heap.size := by simp [World.setCell]
theorem insAt_range {o : Nat} {x : Ins} : InsAt w b o x ↔ w.rangeAt b o x.cells := by
  constructor
  · rintro ⟨h0, h1, h2, h3, h4⟩ j v hv
    match j, hv with
    | 0, hv => simp [Ins.cells] at hv; subst hv; exact h0
    | 1, hv => simp [Ins.cells] at hv; subst hv; exact h1
    | 2, hv => simp [Ins.cells] at hv; subst hv; exact h2
    | 3, hv => simp [Ins.cells] at hv; subst hv; exact h3
    | 4, hv => simp [Ins.cells] at hv; subst hv; exact h4
    | n + 5, hv => simp [Ins.cells] at hv
  · intro h
    exact ⟨h 0 _ rfl, h 1 _ rfl, h 2 _ rfl, h 3 _ rfl, h 4 _ rfl⟩
theorem InsAt.apart {o o' : Nat} {x : Ins} (h : InsAt w b o x) (vs : List Value) (hap : o + 5 ≤ o' ∨ o' + vs.length ≤ o) : InsAt (w.setCells b o' vs) b o x :=
  insAt_range.2 (World.rangeAt_setCells_apart (insAt_range.1 h) b o' vs (by simp only [Ins.cells, List.length_cons, List.length_nil]; omega))
theorem out_cell {o o' : Nat} {vs : List Value} (hap : o < o' ∨ o' + vs.length ≤ o) : (w.setCells b o' vs).cell? ⟨b, o, none⟩ = w.cell? ⟨b, o, none⟩ :=
  World.cell?_setCells_out b vs o' w ⟨b, o, none⟩ (fun _ _ => hap)
theorem PhAt.apart {o o' : Nat} {x : Ph} (h : PhAt w L B b o x) (hb : b < L) (vs : List Value) (hap : o + 2 ≤ o' ∨ o' + vs.length ≤ o) : PhAt (w.setCells b o' vs) L B b o x := by
  obtain ⟨a, c, h0, h1, h2⟩ := h
  exact ⟨a, c, (out_cell (by omega)).trans h0, (out_cell (by omega)).trans h1, h2.keepS (same_setCells (Same.refl _ _ _) _ _ (Or.inl hb))⟩
theorem TerAt.apart {o o' : Nat} {x : Ter} (h : TerAt w b o x) (vs : List Value) (hap : o + 4 ≤ o' ∨ o' + vs.length ≤ o) : TerAt (w.setCells b o' vs) b o x := by
  obtain ⟨h0, h1, h2, h3⟩ := h
  exact ⟨(out_cell (by omega)).trans h0, (out_cell (by omega)).trans h1, (out_cell (by omega)).trans h2, (out_cell (by omega)).trans h3⟩
theorem BlkAt.apart {o o' : Nat} {x : Blk} (h : BlkAt w L B b o x) (hb : b < L) (vs : List Value) (hap : o + 6 ≤ o' ∨ o' + vs.length ≤ o) : BlkAt (w.setCells b o' vs) L B b o x := by
  obtain ⟨pa, pc, ia, ic, h0, h1, h2, h3, h4⟩ := h
  exact ⟨pa, pc, ia, ic, (out_cell (by omega)).trans h0, (out_cell (by omega)).trans h1, h2.apart _ (by omega), h3.keepS (same_setCells (Same.refl _ _ _) _ _ (Or.inl hb)), h4.keepS (same_setCells (Same.refl _ _ _) _ _ (Or.inl hb))⟩
theorem in_cell (hr : w.rowIs b t N f) {o : Nat} {vs : List Value} (h : o + vs.length ≤ N) (j : Nat) (v : Value) (hv : vs[j]? = some v) : (w.setCells b o vs).cell? ⟨b, o + j, none⟩ = some v :=
  World.rangeAt_setCells_same w b o vs (there_of_row hr h) j v hv
theorem ins_step (hr : w.rowIs b t N f) (xs : List Ins) (k : Nat) (hk : k < xs.length) (hN : xs.length * 5 ≤ N) (old : ∀ j (h : j < xs.length), j < k → InsAt w b (j * 5) xs[j]) :
    ∀ j (h : j < xs.length), j < k + 1 → InsAt (w.setCells b (k * 5) xs[k].cells) b (j * 5) xs[j] := fun j h hj => by
  by_cases e : j = k
  · subst e
    exact insAt_range.2 (World.rangeAt_setCells_same w b _ _ (there_of_row hr (by simp only [Ins.cells, List.length_cons, List.length_nil]; omega)))
  · exact (old j h (by omega)).apart _ (by omega)
theorem ph_step (hr : w.rowIs b t N f) (hb : b < L) (xs : List Ph) (k : Nat) (hk : k < xs.length) (hN : xs.length * 2 ≤ N) (old : ∀ j (h : j < xs.length), j < k → PhAt w L B b (j * 2) xs[j])
    (a : Option Addr) (c : Nat) (hi : IntsAt w L B a xs[k].args) :
    ∀ j (h : j < xs.length), j < k + 1 → PhAt (w.setCells b (k * 2) [.int .i64 xs[k].dst, .slice a xs[k].args.length c]) L B b (j * 2) xs[j] := fun j h hj => by
  by_cases e : j = k
  · subst e
    exact ⟨a, c, in_cell hr (by simp only [List.length_cons, List.length_nil]; omega) 0 _ rfl, in_cell hr (by simp only [List.length_cons, List.length_nil]; omega) 1 _ rfl, hi.keepS (same_setCells (Same.refl _ _ _) _ _ (Or.inl hb))⟩
  · exact (old j h (by omega)).apart hb _ (by simp only [List.length_cons, List.length_nil]; omega)
theorem blk_step (hr : w.rowIs b t N f) (hb : b < L) (xs : List Blk) (k : Nat) (hk : k < xs.length) (hN : xs.length * 6 ≤ N) (old : ∀ j (h : j < xs.length), j < k → BlkAt w L B b (j * 6) xs[j])
    (pa ia : Option Addr) (pc ic : Nat) (hp : PhsAt w L B pa xs[k].phis) (hi : InssAt w L B ia xs[k].instrs) :
    ∀ j (h : j < xs.length), j < k + 1 → BlkAt (w.setCells b (k * 6) [.slice pa xs[k].phis.length pc, .slice ia xs[k].instrs.length ic, .int .i64 xs[k].term.kind, .int .i64 xs[k].term.a, .int .i64 xs[k].term.to, .int .i64 xs[k].term.els]) L B b (j * 6) xs[j] := fun j h hj => by
  by_cases e : j = k
  · subst e
    have hc := in_cell (w := w) hr (o := j * 6) (vs := [.slice pa xs[j].phis.length pc, .slice ia xs[j].instrs.length ic, .int .i64 xs[j].term.kind, .int .i64 xs[j].term.a, .int .i64 xs[j].term.to, .int .i64 xs[j].term.els]) (by simp only [List.length_cons, List.length_nil]; omega)
    exact ⟨pa, pc, ia, ic, hc 0 _ rfl, hc 1 _ rfl, ⟨hc 2 _ rfl, hc 3 _ rfl, hc 4 _ rfl, hc 5 _ rfl⟩, hp.keepS (same_setCells (Same.refl _ _ _) _ _ (Or.inl hb)), hi.keepS (same_setCells (Same.refl _ _ _) _ _ (Or.inl hb))⟩
  · exact (old j h (by omega)).apart hb _ (by simp only [List.length_cons, List.length_nil]; omega)
end
set_option maxHeartbeats 400000 in
theorem targetsS_any (t : Ter) (w : World) :
    Calls Tryd.prog 27 #[.agg #[.int .i64 t.kind, .int .i64 t.a, .int .i64 t.to, .int .i64 t.els]] w fun e w' => ∃ a c, e = .returned (.slice a t.targets.length c) ∧ Below w.heap.size w w' ∧ IntsAt w' w.heap.size w'.heap.size a t.targets := by
  obtain ⟨kind, ta, to, els⟩ := t
  by_cases h1 : kind = 1
  · subst h1
    go_enter Tryd.func27, Tryd.ntmps27
    go_wp2
    go_ret
    refine ⟨_, _, rfl, balloc (balloc (Below.refl _ _) _) _, fun i hi => ?_⟩
    simp [Ter.targets] at hi
    subst hi
    exact ⟨_, _, rfl, ⟨by simp, by simp⟩, by simp [Ter.targets]⟩
  · by_cases h2 : kind = 2
    · subst h2
      go_enter Tryd.func27, Tryd.ntmps27
      go_wp2
      go_ret
      refine ⟨_, _, rfl, balloc (balloc (Below.refl _ _) _) _, fun i hi => ?_⟩
      simp [Ter.targets] at hi
      match i, hi with
      | 0, _ => exact ⟨_, _, rfl, ⟨by simp, by simp⟩, by simp [Ter.targets]⟩
      | 1, _ => exact ⟨_, _, rfl, ⟨by simp, by simp⟩, by simp [Ter.targets]⟩
    · have e1 : (kind == 1) = false := by simp [h1]
      have e2 : (kind == 2) = false := by simp [h2]
      have hn : (Ter.targets ⟨kind, ta, to, els⟩) = [] := by simp [Ter.targets, h1, h2]
      rw [hn]
      clear h1 h2 hn
      go_enter Tryd.func27, Tryd.ntmps27
      go_wp2
      go_ret
      exact ⟨_, _, rfl, balloc (balloc (Below.refl _ _) _) _, fun i hi => absurd hi (by simp)⟩
end Go.Proofs.YtanaeindldcapaaDoor
