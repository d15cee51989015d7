import Derived.Test.YtlmaodcddbkllaaDoorID1
/-
  Dominators, pure: what the model lists and finds, against the nearest.
-/
namespace Go.Proofs.YtlmaodcddbkllaaDoor
variable {tg : Nat → List Nat}

open Classical in
/-- The blocks that dominate b, ascending. -/
noncomputable def domL (tg : Nat → List Nat) (n b : Nat) : List Nat := (List.range n).filter fun a => decide (Dom tg a b)
theorem domL_mem {n a b : Nat} : a ∈ domL tg n b ↔ a < n ∧ Dom tg a b := by
  unfold domL
  simp
theorem domL_nd (n b : Nat) : (domL tg n b).Nodup := List.nodup_range.sublist List.filter_sublist
/-- What is dominated by another has more that dominate it. -/
theorem domL_less {n a c : Nat} (ha : a < n) (h : Dom tg c a) (hne : c ≠ a) : (domL tg n c).length < (domL tg n a).length := by
  have h1 : a ∉ domL tg n c := fun k => hne (dom_anti h (domL_mem.1 k).2)
  have h2 : (a :: domL tg n c).Nodup := List.nodup_cons.2 ⟨h1, domL_nd n c⟩
  have h3 : (a :: domL tg n c) ⊆ domL tg n a := fun x hx => by
    rcases List.mem_cons.1 hx with rfl | hx
    · exact domL_mem.2 ⟨ha, dom_self h.rb⟩
    · obtain ⟨k1, k2⟩ := domL_mem.1 hx
      exact domL_mem.2 ⟨k1, dom_trans k2 h⟩
  have := List.Nodup.length_le_of_subset h2 h3
  simp only [List.length_cons] at this
  omega
theorem domss_get {n b : Nat} (hb : b < n) : ((List.range n).map (domL tg n)).getD b [] = domL tg n b := by simp [hb]
theorem model_some {n a b : Nat} (hn : ∀ x, Re tg x → x < n) (h : Idm tg a b) : idomP ((List.range n).map (domL tg n)) b = (a : Int) := by
  have hbn := hn b h.dom.rb
  have han := hn a h.dom.ra
  have key : bestP (fun a => (((List.range n).map (domL tg n)).getD a []).length) b (domL tg n b) = some a := by
    refine best_some (domL_mem.2 ⟨han, h.dom⟩) h.ne (fun c hc hcb hca => ?_)
    obtain ⟨k1, k2⟩ := domL_mem.1 hc
    rw [domss_get k1, domss_get han]
    exact domL_less han (h.near c k2 hcb) hca
  unfold idomP
  rw [domss_get hbn, key]
  rfl
theorem model_none {n b : Nat} (hb : b < n) (h : ∀ c, Dom tg c b → c = b) : idomP ((List.range n).map (domL tg n)) b = -1 := by
  unfold idomP
  rw [domss_get hb, best_none (fun a ha => h a (domL_mem.1 ha).2)]
  rfl
end Go.Proofs.YtlmaodcddbkllaaDoor

/-
  Dominators, pure: the list of the nearest, the tree turned round, its order; the way up.
-/
namespace Go.Proofs.YtlmaodcddbkllaaDoor
variable {tg : Nat → List Nat}

/-- The list of the nearest. -/
structure IsIdm (tg : Nat → List Nat) (n : Nat) (P : List Int) : Prop where
  len : P.length = n
  get : ∀ b, b < n → (∃ a : Nat, Idm tg a b ∧ P.getD b 0 = (a : Int)) ∨ ((∀ c, Dom tg c b → c = b) ∧ P.getD b 0 = -1)
theorem isIdm_one {n : Nat} {P Q : List Int} (h : IsIdm tg n P) (k : IsIdm tg n Q) : P = Q := by
  apply List.ext_getElem (h.len.trans k.len.symm)
  intro i h1 h2
  have e1 : P.getD i 0 = P[i] := by simp [h1]
  have e2 : Q.getD i 0 = Q[i] := by simp [h2]
  rw [← e1, ← e2]
  have hi : i < n := by rw [← h.len]; exact h1
  rcases h.get i hi with ⟨a, ha, ea⟩ | ⟨ha, ea⟩
  · rcases k.get i hi with ⟨c, hc, ec⟩ | ⟨hc, ec⟩
    · rw [ea, ec, idm_one ha hc]
    · exact absurd (hc a ha.dom) ha.ne
  · rcases k.get i hi with ⟨c, hc, ec⟩ | ⟨hc, ec⟩
    · exact absurd (ha c hc.dom) hc.ne
    · rw [ea, ec]
open Classical in
/-- There is such a list. -/
theorem isIdm_model {n : Nat} (hn : ∀ x, Re tg x → x < n) (hex : ∀ b, b < n → (∃ a, Idm tg a b) ∨ ∀ c, Dom tg c b → c = b) : IsIdm tg n ((List.range n).map (idomP ((List.range n).map (domL tg n)))) := by
  refine ⟨by simp, fun b hb => ?_⟩
  have e : ((List.range n).map (idomP ((List.range n).map (domL tg n)))).getD b 0 = idomP ((List.range n).map (domL tg n)) b := by simp [hb]
  rw [e]
  rcases hex b hb with ⟨a, ha⟩ | h
  · exact Or.inl ⟨a, ha, model_some hn ha⟩
  · exact Or.inr ⟨h, model_none hb h⟩
def chP (P : List Int) (b : Nat) : List Nat := (List.range P.length).filter fun c => P.getD c 0 == (b : Int)
def preP (P : List Int) : Nat → Nat → List Nat
  | 0, b => [b]
  | m + 1, b => b :: (chP P b).flatMap (preP P m)
theorem chP_mem {P : List Int} {b c : Nat} : c ∈ chP P b ↔ c < P.length ∧ P.getD c 0 = (b : Int) := by
  unfold chP
  rw [List.mem_filter, List.mem_range, beq_iff_eq]
theorem ch_idm {n : Nat} {P : List Int} (h : IsIdm tg n P) {b c : Nat} (hc : c ∈ chP P b) : Idm tg b c := by
  obtain ⟨h1, h2⟩ := chP_mem.1 hc
  rcases h.get c (by rw [← h.len]; exact h1) with ⟨a, ha, ea⟩ | ⟨_, ea⟩
  · rw [ea] at h2
    have : a = b := by omega
    rw [← this]; exact ha
  · rw [ea] at h2; omega
theorem ch_len {P : List Int} {b : Nat} : (chP P b).length ≤ P.length := Nat.le_trans (List.length_filter_le _ _) (by simp)
theorem pre_dom {n : Nat} {P : List Int} (h : IsIdm tg n P) : ∀ (m b x : Nat), Re tg b → x ∈ preP P m b → Dom tg b x
  | 0, b, x, hb, hx => by
    have : x = b := by simpa [preP] using hx
    rw [this]; exact dom_self hb
  | m + 1, b, x, hb, hx => by
    rw [preP, List.mem_cons] at hx
    rcases hx with rfl | hx
    · exact dom_self hb
    · obtain ⟨c, hc, hx⟩ := List.mem_flatMap.1 hx
      have hi := ch_idm h hc
      exact dom_trans hi.dom (pre_dom h m c x hi.dom.rb hx)
theorem pre_nd {n : Nat} {P : List Int} (h : IsIdm tg n P) : ∀ (m b : Nat), Re tg b → (preP P m b).Nodup
  | 0, b, _ => by simp [preP]
  | m + 1, b, hb => by
    rw [preP, List.nodup_cons]
    refine ⟨fun hx => ?_, ?_⟩
    · obtain ⟨c, hc, hx⟩ := List.mem_flatMap.1 hx
      have hi := ch_idm h hc
      exact hi.ne (dom_anti hi.dom (pre_dom h m c b hi.dom.rb hx))
    · unfold List.Nodup
      rw [List.pairwise_flatMap]
      refine ⟨fun c hc => pre_nd h m c (ch_idm h hc).dom.rb, ?_⟩
      have hnd : (chP P b).Nodup := List.nodup_range.sublist List.filter_sublist
      refine List.Pairwise.imp_of_mem (fun {c d} hc hd hne x hx y hy e => ?_) hnd
      subst e
      have ic := ch_idm h hc
      have id := ch_idm h hd
      have dc := pre_dom h m c x ic.dom.rb hx
      have dd := pre_dom h m d x id.dom.rb hy
      rcases dom_chain dc dd with k | k
      · exact ic.ne (dom_anti ic.dom (id.near c k hne))
      · exact id.ne (dom_anti id.dom (ic.near d k (fun e => hne e.symm)))
theorem pre_len {n : Nat} {P : List Int} (h : IsIdm tg n P) (hn : ∀ x, Re tg x → x < n) (m b : Nat) (hb : Re tg b) : (preP P m b).length ≤ n := nodup_le (pre_nd h m b hb) (fun x hx => hn x (pre_dom h m b x hb hx).rb)
theorem dn_less {n : Nat} {P : List Int} (h : IsIdm tg n P) (hn : ∀ x, Re tg x → x < n) {b c : Nat} (hc : c ∈ chP P b) : (domL tg n b).length < (domL tg n c).length := by
  have hi := ch_idm h hc
  exact domL_less (hn c hi.dom.rb) hi.dom hi.ne
theorem dn_le (n b : Nat) : (domL tg n b).length ≤ n := Nat.le_trans (List.length_filter_le _ _) (by simp)
/-- The way up. -/
theorem up_some {n : Nat} {P : List Int} (h : IsIdm tg n P) (hn : ∀ x, Re tg x → x < n) {b : Nat} (hb : Re tg b) (h0 : b ≠ 0) : ∃ c : Nat, P.getD b 0 = (c : Int) ∧ c < n ∧ Re tg c ∧ (domL tg n c).length < (domL tg n b).length ∧ ∀ a, a ≠ b → (Dom tg a b ↔ Dom tg a c) := by
  rcases h.get b (hn b hb) with ⟨c, hc, ec⟩ | ⟨hc, _⟩
  · exact ⟨c, ec, hn c hc.dom.ra, hc.dom.ra, domL_less (hn b hb) hc.dom hc.ne, fun a hne => ⟨fun k => hc.near a k hne, fun k => dom_trans k hc.dom⟩⟩
  · exact absurd (hc 0 (dom_root hb)) (fun e => h0 e.symm)
theorem dom_zero {a : Nat} (h : Dom tg a 0) : a = 0 := Classical.byContradiction (fun e => h.no (Av.root e))
end Go.Proofs.YtlmaodcddbkllaaDoor
