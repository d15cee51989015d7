import Derived.Test.YtdcdgopblbmgoaaDoorE9
import Derived.Test.YtdcdgopblbmgoaaDoorE11a
import Derived.Test.YtdcdgopblbmgoaaDoorE7
/-
  The fields that are used, and what they hold.
-/
namespace Go.Proofs.YtdcdgopblbmgoaaDoor
open Go.RowKit

/-- The fields of an instruction that are used: where they lie, and what they hold. -/
theorem fields_ins (x : Ins) (h : 1 ≤ x.op ∧ x.op ≤ 13) (b o : Nat) : ∃ l : List (Addr × Int), keepP [dB x.op, aB x.op, bB x.op, iB x.op] [⟨b, o + 1, none⟩, ⟨b, o + 2, none⟩, ⟨b, o + 3, none⟩, ⟨b, o + 4, none⟩] = l.map (·.1) ∧ picks x (lettersS x.op) = l.map (·.2) ∧
    ∀ q ∈ l, q ∈ [((⟨b, o + 1, none⟩ : Addr), x.dst), (⟨b, o + 2, none⟩, x.a), (⟨b, o + 3, none⟩, x.b), (⟨b, o + 4, none⟩, x.imm)] := by
  obtain ⟨op, dst, a, bb, imm⟩ := x
  simp only at h ⊢
  have hc : op = 1 ∨ op = 2 ∨ op = 3 ∨ op = 4 ∨ op = 5 ∨ op = 6 ∨ op = 7 ∨ op = 8 ∨ op = 9 ∨ op = 10 ∨ op = 11 ∨ op = 12 ∨ op = 13 := by omega
  rcases hc with rfl | rfl | rfl | rfl | rfl | rfl | rfl | rfl | rfl | rfl | rfl | rfl | rfl
  · exact ⟨[(⟨b, o + 1, none⟩, dst), (⟨b, o + 4, none⟩, imm)], rfl, rfl, by simp⟩
  · exact ⟨[(⟨b, o + 1, none⟩, dst), (⟨b, o + 4, none⟩, imm)], rfl, rfl, by simp⟩
  · exact ⟨[(⟨b, o + 1, none⟩, dst), (⟨b, o + 2, none⟩, a), (⟨b, o + 3, none⟩, bb)], rfl, rfl, by simp⟩
  · exact ⟨[(⟨b, o + 1, none⟩, dst), (⟨b, o + 2, none⟩, a), (⟨b, o + 3, none⟩, bb)], rfl, rfl, by simp⟩
  · exact ⟨[(⟨b, o + 1, none⟩, dst), (⟨b, o + 2, none⟩, a), (⟨b, o + 3, none⟩, bb)], rfl, rfl, by simp⟩
  · exact ⟨[(⟨b, o + 1, none⟩, dst), (⟨b, o + 2, none⟩, a), (⟨b, o + 3, none⟩, bb)], rfl, rfl, by simp⟩
  · exact ⟨[(⟨b, o + 1, none⟩, dst), (⟨b, o + 2, none⟩, a), (⟨b, o + 3, none⟩, bb)], rfl, rfl, by simp⟩
  · exact ⟨[(⟨b, o + 1, none⟩, dst), (⟨b, o + 2, none⟩, a)], rfl, rfl, by simp⟩
  · exact ⟨[(⟨b, o + 2, none⟩, a), (⟨b, o + 3, none⟩, bb)], rfl, rfl, by simp⟩
  · exact ⟨[(⟨b, o + 2, none⟩, a)], rfl, rfl, by simp⟩
  · exact ⟨[(⟨b, o + 1, none⟩, dst), (⟨b, o + 2, none⟩, a)], rfl, rfl, by simp⟩
  · exact ⟨[(⟨b, o + 2, none⟩, a)], rfl, rfl, by simp⟩
  · exact ⟨[(⟨b, o + 1, none⟩, dst)], rfl, rfl, by simp⟩
def picksT (t : Ter) : List Int := if t.kind = 1 then [t.to] else if t.kind = 3 then [t.a] else [t.a, t.to, t.els]
theorem termS_eq (t : Ter) : termS t = lineS (terW t.kind) (picksT t) := by
  unfold termS terW picksT
  repeat' split
  all_goals rfl
theorem fields_ter (x : Ter) (h : 1 ≤ x.kind ∧ x.kind ≤ 3) (b o : Nat) : ∃ l : List (Addr × Int), keepP [x.kind != 1, x.kind != 3, x.kind == 2] [⟨b, o + 1, none⟩, ⟨b, o + 2, none⟩, ⟨b, o + 3, none⟩] = l.map (·.1) ∧ picksT x = l.map (·.2) ∧
    ∀ q ∈ l, q ∈ [((⟨b, o + 1, none⟩ : Addr), x.a), (⟨b, o + 2, none⟩, x.to), (⟨b, o + 3, none⟩, x.els)] := by
  obtain ⟨kind, a, to, els⟩ := x
  simp only at h ⊢
  have hc : kind = 1 ∨ kind = 2 ∨ kind = 3 := by omega
  rcases hc with rfl | rfl | rfl
  · exact ⟨[(⟨b, o + 2, none⟩, to)], rfl, rfl, by simp⟩
  · exact ⟨[(⟨b, o + 1, none⟩, a), (⟨b, o + 2, none⟩, to), (⟨b, o + 3, none⟩, els)], rfl, rfl, by simp⟩
  · exact ⟨[(⟨b, o + 1, none⟩, a)], rfl, rfl, by simp⟩
end Go.Proofs.YtdcdgopblbmgoaaDoor

/-
  The line of an instruction.
-/
namespace Go.Proofs.YtdcdgopblbmgoaaDoor
open Go.RowKit

/-- The row of numbers stays, whatever writing a line does. -/
theorem ints_stay {w : World} {base e n B : Nat} {v : Value} {vs : List Int} (ho : w.ownsRow base e 1 v n (vs.map (Value.int .i64))) (he : e ≠ 5) : ∃ a c, v = .slice a vs.length c ∧ ∀ w', Kp B w w' → IntsAt w' base w.heap.size a vs := by
  obtain ⟨a, c, rfl, hI⟩ := ints_owned ho
  refine ⟨a, c, rfl, fun w' hk i hi => ?_⟩
  obtain ⟨b, o, rfl, hb, hc⟩ := hI i hi
  refine ⟨b, o, rfl, hb, ?_⟩
  obtain ⟨cs, fz, hh⟩ := own_cells ho rfl
  have := hk.kept b _ hh (by simp) (fun c' fz' e' => by cases e'; exact he rfl)
  rw [cell_of (this.trans hh.symm)]
  exact hc

/-- contents of pointers to cells that are there. -/
theorem contentsL_any (B : Nat) (l : List (Addr × Int)) (hll : l.length ≤ 4) (w : World) (L : Nat) (fa : Option Addr) (fc : Nat) (hv : ValsAt w L w.heap.size fa ((l.map (·.1)).map ptrV)) (hc : ∀ q ∈ l, q.1.block < w.heap.size ∧ w.cell? q.1 = some (.int .i64 q.2)) :
    Calls Tryd.prog 107 #[.slice fa l.length fc] w (fun e w' => ∃ qa qc, e = .returned (.slice qa l.length qc) ∧ Below w.heap.size w w' ∧ (∀ w'', Kp B w' w'' → IntsAt w'' w.heap.size w'.heap.size qa (l.map (·.2)))) := by
  have e1 : (l.map (·.1)).length = l.length := by simp
  have e2 : (l.map (·.2)).length = l.length := by simp
  have h := contents_any fa fc (l.map (·.1)) (l.map (·.2)) L w.heap.size w (Nat.le_refl _) (hide hv) (hide (e2.trans e1.symm)) (hide (fun i h h' => by
    have hi : i < l.length := by omega
    have hm := hc l[i] (List.getElem_mem hi)
    rw [List.getElem_map, List.getElem_map]
    exact hm)) (by omega)
  rw [e1] at h
  refine h.mono ?_
  rintro e w' ⟨v, rfl, hb, hown⟩
  obtain ⟨qa, qc, rfl, hst⟩ := ints_stay (B := B) hown (by decide)
  rw [e2]
  exact ⟨qa, qc, rfl, hb, hst⟩

/-- What the three calls of an instruction's line do. -/
theorem ins_line (B : Nat) (u : Value) (xs : List UInt8) (k : Nat) (dst a bb imm : Int) (W1 : World) (g : Nat) (hB : B ≤ W1.heap.size) (h1 : 1 ≤ k) (h2 : k ≤ 13) (hB2 : 0 < B ∧ 1 < B) (hlt : g < W1.heap.size)
    (hI : InsAt W1 g 0 ⟨k, dst, a, bb, imm⟩) (hhp : ∃ c fz, W1.heap[g]? = some (.cells c 83 fz)) (ho : W1.ownsRow B 5 1 u xs.length (bytesV xs)) (hlen : xs.length + (insS ⟨k, dst, a, bb, imm⟩).length ≤ 1000000000000)
    (hin : ∀ v ∈ [dst, a, bb, imm], InB v) (htab : TabOk B W1) (ht : OpTabW W1) :
    ∃ l : List (Addr × Int), (∀ W, Below W1.heap.size W1 W → Calls Tryd.prog 108 #[.pointer (some ⟨g, 0, none⟩)] W (fun e w' => ∃ fa fc, e = .returned (.slice fa l.length fc) ∧ Hid (Below W1.heap.size W1 w') ∧ Hid (ValsAt w' W1.heap.size w'.heap.size fa ((l.map (·.1)).map ptrV)) ∧ w'.cell? ⟨g, 0, none⟩ = some (.int .i64 k) ∧ w'.cell? ⟨0, k * 5, none⟩ = some (.string (strOf (wordS k))))) ∧
      (∀ w2 fa fc, Below W1.heap.size W1 w2 → ValsAt w2 W1.heap.size w2.heap.size fa ((l.map (·.1)).map ptrV) → Calls Tryd.prog 107 #[.slice fa l.length fc] w2 (fun e w' => ∃ qa qc, e = .returned (.slice qa l.length qc) ∧ Hid (Below W1.heap.size W1 w') ∧ Hid (∀ w'', Kp B w' w'' → IntsAt w'' w2.heap.size w'.heap.size qa (l.map (·.2))) ∧ w'.cell? ⟨g, 0, none⟩ = some (.int .i64 k) ∧ w'.cell? ⟨0, k * 5, none⟩ = some (.string (strOf (wordS k))))) ∧
      (∀ w3 qa qc L M, Below W1.heap.size W1 w3 → (∀ w'', Kp B w3 w'' → IntsAt w'' L M qa (l.map (·.2))) → Calls Tryd.prog 63 #[u, .string (strOf (wordS k)), .slice qa l.length qc] w3 (fun e w' => ∃ v, e = .returned v ∧ Hid (Kp B W1 w') ∧ Hid (w'.ownsRow B 5 1 v (xs ++ insS ⟨k, dst, a, bb, imm⟩).length (bytesV (xs ++ insS ⟨k, dst, a, bb, imm⟩))) ∧ w'.cell? ⟨g, 0, none⟩ = some (.int .i64 k) ∧ w'.cell? ⟨0, k * 5, none⟩ = some (.string (strOf (wordS k))))) := by
  have hz := ht.1
  have g0 : W1.cell? ⟨g, 0, none⟩ = some (.int .i64 k) := hI.1
  have g1 : W1.cell? ⟨0, k * 5, none⟩ = some (.string (strOf (wordS k))) := (ht.2 k h1 h2).1
  obtain ⟨l, hl1, hl2, hl3⟩ := fields_ins ⟨k, dst, a, bb, imm⟩ ⟨by simp only; omega, by simp only; omega⟩ g 0
  simp only [Nat.zero_add] at hl1 hl2 hl3
  have HIS : insS ⟨k, dst, a, bb, imm⟩ = lineS (wordS k) (l.map (·.2)) := by unfold insS; simp only; rw [hl2]
  have hll : l.length ≤ 4 := by
    have := congrArg List.length hl1
    have h4 := keepP_len [dB k, aB k, bB k, iB k] [(⟨g, 1, none⟩ : Addr), ⟨g, 2, none⟩, ⟨g, 3, none⟩, ⟨g, 4, none⟩]
    simp only [List.length_map, List.length_cons, List.length_nil] at this h4; omega
  have HIV : ∀ v ∈ l.map (·.2), InB v := fun v hv => by
    obtain ⟨q, hq, rfl⟩ := List.mem_map.1 hv
    have := hl3 q hq
    simp only [List.mem_cons, List.not_mem_nil, or_false] at this
    exact hin _ (by rcases this with rfl | rfl | rfl | rfl <;> simp)
  have HKEEP : ∀ w', Below W1.heap.size W1 w' → w'.cell? ⟨g, 0, none⟩ = some (.int .i64 k) ∧ w'.cell? ⟨0, k * 5, none⟩ = some (.string (strOf (wordS k))) := fun w' h => ⟨(h.cell (p := ⟨g, 0, none⟩) hlt).trans g0, (h.cell (p := ⟨0, k * 5, none⟩) (by show 0 < _; omega)).trans g1⟩
  refine ⟨l, ?_, ?_, ?_⟩
  · intro W hW
    have hWs := hW.size
    refine (usedI_any g k dst a bb imm W (hide (hI.keepS (hW.block _ hlt))) h1 h2 (hide (ht.keep hW (by omega)))).mono ?_
    rintro e w' ⟨v, rfl, hb, hown⟩
    rw [hl1] at hown
    obtain ⟨fa, fc, rfl, hvals⟩ := vals_owned hown
    have hvals := ValsAt.lower hvals hWs
    have hb : Below W1.heap.size W1 w' := hW.trans (hb.mono hWs)
    obtain ⟨s1, s2⟩ := HKEEP _ hb
    exact ⟨fa, fc, by simp, hide hb, hide hvals, s1, s2⟩
  · intro w2 fa fc hb2 hv2
    have hsz := hb2.size
    obtain ⟨n0, n1, n2, n3, n4⟩ := hI
    have hcl : ∀ o, w2.cell? ⟨g, o, none⟩ = W1.cell? ⟨g, o, none⟩ := fun o => hb2.cell (p := ⟨g, o, none⟩) hlt
    have m1 := (hcl 1).trans n1
    have m2 := (hcl 2).trans n2
    have m3 := (hcl 3).trans n3
    have m4 := (hcl 4).trans n4
    have hlw : g < w2.heap.size := by omega
    refine (contentsL_any B l hll w2 W1.heap.size fa fc hv2 (fun q hq => ?_)).mono ?_
    · have hm := hl3 q hq
      simp only [List.mem_cons, List.not_mem_nil, or_false] at hm
      rcases hm with rfl | rfl | rfl | rfl
      · exact ⟨hlw, m1⟩
      · exact ⟨hlw, m2⟩
      · exact ⟨hlw, m3⟩
      · exact ⟨hlw, m4⟩
    · rintro e w' ⟨qa, qc, rfl, hb, hst⟩
      have hb3 : Below W1.heap.size W1 w' := hb2.trans (hb.mono hb2.size)
      obtain ⟨s1, s2⟩ := HKEEP _ hb3
      exact ⟨qa, qc, rfl, hide hb3, hide hst, s1, s2⟩
  · intro w3 qa qc L M hb3 hst
    have hK3 : Kp B W1 w3 := Kp.calm hb3 hB
    have hs3 := hb3.size
    refine (appendLine_any B u xs (wordS k) qa l.length qc (l.map (·.2)) L M w3 (by omega) (hide (own_calm ho hb3)) (hide (by rw [← HIS]; exact hlen)) (hide hst) (hide (by simp)) (hide HIV) (hide (htab.on hK3.below))).mono ?_
    rintro e w' ⟨v, rfl, hk, hown⟩
    rw [← HIS] at hown
    have hk1 : Kp B W1 w' := hK3.trans hk
    obtain ⟨cs, fz, hh⟩ := hhp
    have hh2 := hk1.kept g _ hh (by simp) (fun c' fz' e' => by cases e')
    exact ⟨v, rfl, hide hk1, hide hown, (cell_of (hh2.trans hh.symm)).trans g0, (hk1.below.cell (p := ⟨0, k * 5, none⟩) (by show 0 < _; omega)).trans g1⟩
end Go.Proofs.YtdcdgopblbmgoaaDoor
