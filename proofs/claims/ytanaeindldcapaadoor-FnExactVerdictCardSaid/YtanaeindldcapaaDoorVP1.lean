import Derived.Test.YtanaeindldcapaaDoorVP0
namespace Go.Proofs.YtanaeindldcapaaDoor
section
structure StI (xs : List Blk) (v : Nat) (td : List Nat) (i : Nat) : Prop where
  nd : td.Nodup
  op : ∀ x ∈ td, Opn xs v x
  z : 0 ∈ td
  dn : ∀ j (h : j < td.length), j < i → phiB xs td[j] v = true ∨ (barB xs td[j] v ≠ 1 ∧ (barB xs td[j] v = 0 → ∀ t ∈ tgN xs td[j], t ∈ td))
section
variable {xs : List Blk} {v : Nat} {td : List Nat} {i : Nat}
theorem stI_start : StI xs v [0] 0 := ⟨by simp, fun x hx => by rw [List.mem_singleton.1 hx]; exact Opn.root, by simp, fun j _ h => absurd h (by omega)⟩
theorem StI.go (h : StI xs v td i) (hi : i < td.length) (hd : phiB xs td[i] v = true ∨ (barB xs td[i] v ≠ 1 ∧ (barB xs td[i] v = 0 → ∀ t ∈ tgN xs td[i], t ∈ td))) : StI xs v td (i + 1) :=
  ⟨h.nd, h.op, h.z, fun j hj hji => if e : j = i then by subst e; exact hd else h.dn j hj (by omega)⟩
theorem StI.push (h : StI xs v td i) (hi : i < td.length) (hp : phiB xs td[i] v = false) (hb : barB xs td[i] v = 0) {t : Nat} (ht : t ∈ tgN xs td[i]) (hn : t ∉ td) : StI xs v (td ++ [t]) i := by
  refine ⟨?_, fun x hx => ?_, by simp [h.z], fun j hj hji => ?_⟩
  · rw [List.nodup_append]
    exact ⟨h.nd, by simp, fun a ha b hb' => by rw [List.mem_singleton.1 hb']; exact fun e => hn (by rw [← e]; exact ha)⟩
  · rcases List.mem_append.1 hx with hx | hx
    · exact h.op x hx
    · rw [List.mem_singleton.1 hx]
      exact Opn.step (h.op _ (List.getElem_mem hi)) hp hb ht
  · have hj' : j < td.length := by omega
    rw [List.getElem_append_left hj']
    rcases h.dn j hj' hji with q | ⟨q1, q2⟩
    · exact Or.inl q
    · exact Or.inr ⟨q1, fun e u hu => List.mem_append_left _ (q2 e u hu)⟩
theorem StI.none (h : StI xs v td i) (hi : td.length ≤ i) : ¬ Bad xs v := by
  rintro ⟨b, hop, h1, h2⟩
  have hin : ∀ b, Opn xs v b → b ∈ td := fun b hop => by
    induction hop with
    | root => exact h.z
    | step _ q1 q2 q3 ih =>
      obtain ⟨j, hj, rfl⟩ := List.getElem_of_mem ih
      rcases h.dn j hj (by omega) with q | q
      · rw [q] at q1; cases q1
      · exact q.2 q2 _ q3
  obtain ⟨j, hj, rfl⟩ := List.getElem_of_mem (hin b hop)
  rcases h.dn j hj (by omega) with q | q
  · rw [q] at h1; cases h1
  · exact q.1 h2
theorem StI.hit (h : StI xs v td i) (hi : i < td.length) (hp : phiB xs td[i] v = false) (hb : barB xs td[i] v = 1) : Bad xs v := ⟨_, h.op _ (List.getElem_mem hi), hp, hb⟩
theorem StI.lt (h : StI xs v td i) (ho : OkF xs) : ∀ x ∈ td, x < xs.length := fun x hx => (h.op x hx).lt ho
end
end
def AllRe (xs : List Blk) : Prop := ∀ b, b < xs.length → Re (tgN xs) b
open Classical in
noncomputable def verdP (v : Int) (xs : List Blk) : Int := if validI ⟨v, xs⟩ = false then 9 else if ¬ AllRe xs then 10 else if ∃ x, Bad xs x then 11 else 0
theorem sub_len : ∀ (n : Nat) (F : List Nat), (∀ b, b < n → b ∈ F) → n ≤ F.length
  | 0, _, _ => Nat.zero_le _
  | n + 1, F, h => by
    have h1 := sub_len n (F.erase n) (fun b hb => (List.mem_erase_of_ne (by omega)).2 (h b (by omega)))
    have h2 : n ∈ F := h n (by omega)
    rw [List.length_erase_of_mem h2] at h1
    have := List.length_pos_of_mem h2
    omega
theorem full_iff {xs : List Blk} (ho : OkF xs) {F : List Nat} (hn : F.Nodup) (hm : ∀ x, x ∈ F ↔ Re (tgN xs) x) : F.length ≤ xs.length ∧ (F.length = xs.length ↔ AllRe xs) := by
  have hl : F.length ≤ xs.length := nodup_le hn (fun x hx => ho.re x ((hm x).1 hx))
  refine ⟨hl, fun h b hb => ?_, fun h => ?_⟩
  · apply Classical.byContradiction
    intro hc
    have hnd : (b :: F).Nodup := List.nodup_cons.2 ⟨fun h2 => hc ((hm b).1 h2), hn⟩
    have := nodup_le (n := xs.length) hnd (fun x hx => by
      rcases List.mem_cons.1 hx with rfl | hx
      · exact hb
      · exact ho.re x ((hm x).1 hx))
    rw [List.length_cons] at this
    omega
  · have := sub_len xs.length F (fun b hb => (hm b).2 (h b hb))
    omega
open Classical in
theorem verdP_bad {v : Int} {xs : List Blk} (h : validI ⟨v, xs⟩ = false) : verdP v xs = 9 := by unfold verdP; rw [if_pos h]
open Classical in
theorem verdP_un {v : Int} {xs : List Blk} (h : validI ⟨v, xs⟩ = true) (k : ¬ AllRe xs) : verdP v xs = 10 := by unfold verdP; rw [if_neg (by rw [h]; decide), if_pos k]
open Classical in
theorem verdP_ns {v : Int} {xs : List Blk} (h : validI ⟨v, xs⟩ = true) (k : AllRe xs) (m : ∃ x, Bad xs x) : verdP v xs = 11 := by unfold verdP; rw [if_neg (by rw [h]; decide), if_neg (fun q => q k), if_pos m]
open Classical in
theorem verdP_ok {v : Int} {xs : List Blk} (h : validI ⟨v, xs⟩ = true) (k : AllRe xs) (m : ¬ ∃ x, Bad xs x) : verdP v xs = 0 := by unfold verdP; rw [if_neg (by rw [h]; decide), if_neg (fun q => q k), if_neg m]
end Go.Proofs.YtanaeindldcapaaDoor
