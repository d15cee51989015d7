import Derived.Test.YtlmaodcddbkllaaDoorSQ4
/-
  Sequence: the model's Sequence.
-/
namespace Go.Proofs.YtlmaodcddbkllaaDoor
open Go.RowKit

set_option maxHeartbeats 2000000 in
set_option maxRecDepth 100000 in
theorem seqS_any (a : Option Addr) (n c : Nat) (xs : List Mv) (L B : Nat) (w : World) (ha : Hid (MvsAt w L B a xs)) (hx : Hid (n = xs.length)) (hn : n ≤ 1048576) (hB : B ≤ w.heap.size) :
    Calls Tryd.prog 41 #[.slice a n c] w fun e w' => ∃ v, e = .returned v ∧ v ≠ .slice none 0 0 ∧ Below w.heap.size w w' ∧ w'.ownsRow w.heap.size 44 5 v (seqM xs).length (inV (seqM xs)) := by
  have HG : Hid (Calls Tryd.prog 100 #[.slice a n c] w fun e w' => e = .returned (.bool (goodM xs)) ∧ Below w.heap.size w w') := hide (goodMoves_any a n c xs L B w ha hx hn hB)
  cases hg : goodM xs with
  | false =>
    have HS : Hid (seqM xs = []) := hide (by unfold seqM; rw [hg]; rfl)
    rw [hg] at HG
    clear hg
    go_enter Tryd.func41, Tryd.ntmps41
    go_wp2_with (go_at_call 100; refine HG.out.mono ?_; rintro e w1 ⟨rfl, hb1⟩)
    go_ret
    refine ⟨_, rfl, by simp, bnext hb1 (balloc (Below.refl _ _) _), ?_⟩
    rw [HS.out]
    exact own_base (own_in0 w1) hb1.size
  | true =>
    obtain ⟨h64, hgood⟩ := goodM_good hg
    have HS : Hid (seqM xs = emitM (2 * (startM xs).length) (startM xs)) := hide (by unfold seqM; rw [if_pos hg])
    have HOK := hide hgood.start.1
    have hn64 : n ≤ 64 := by have := hx.out; omega
    rw [hg] at HG
    clear hg hgood h64
    obtain ⟨j0, hj0, hjz0, hjz1, hjz2⟩ := info_parts Tryd.infoMv
    go_enter Tryd.func41, Tryd.ntmps41
    go_wp2_with (go_at_call 100; refine HG.out.mono ?_; rintro e w1 ⟨rfl, hb1⟩; have HB1 := hide hb1; have s1 := hb1.size; clear hb1)
    go_loopw [3, 4] (fun v u wr => ∃ q : Nat, q ≤ n ∧ u = .int .i64 q ∧ Hid (Below w.heap.size w wr) ∧ Hid (wr.ownsRow w.heap.size 58 2 v (startM (xs.take q)).length (mvV (startM (xs.take q))))) (fun _ u _ => n - (intOf u).toNat)
    case atStart => exact ⟨0, Nat.zero_le _, rfl, hide (HB1.out.alloc s1 _), hide (by rw [List.take_zero]; exact own_base (own_mv0 w1) s1)⟩
    case round =>
      obtain ⟨q, hq, rfl, HB2, HO⟩ := hrel
      have hwz := HB2.out.size
      by_cases hlt : q < n
      · have hqx : q < xs.length := by have := hx.out; omega
        obtain ⟨b, o, rfl, hbB, e0w, e1w⟩ := ha.out q hqx
        have e0 := (HB2.out.cell (p := ⟨b, o + q * 2, none⟩) (by show b < _; omega)).trans e0w
        have e1 := (HB2.out.cell (p := ⟨b, o + q * 2 + 1, none⟩) (by show b < _; omega)).trans e1w
        have HT : Hid (startM (xs.take (q + 1)) = startM (xs.take q) ++ (if xs[q].to = xs[q].frm then [] else [xs[q]])) := hide (by
          unfold startM
          rw [List.take_succ_eq_append_getElem hqx, List.filter_append]
          congr 1
          by_cases h : xs[q].to = xs[q].frm
          · rw [if_pos h, List.filter_cons_of_neg (by simp [h])]; rfl
          · rw [if_neg h, List.filter_cons_of_pos (by simpa using h)]; rfl)
        have HL : Hid ((startM (xs.take q)).length ≤ 64) := hide (Nat.le_trans (List.length_filter_le _ _) (by simp; omega))
        clear e0w e1w
        generalize hm : xs[q] = m at *
        obtain ⟨t, f⟩ := m
        dsimp only at *
        clear hm
        generalize startM (xs.take q) = ys at *
        by_cases hf : t = f
        · rw [if_pos hf, List.append_nil] at HT
          subst hf
          go_wp2
          go_region
          go_wp2
          exact ⟨⟨q + 1, by omega, by go_num, hide HB2.out.drew, hide (by rw [HT.out]; exact HO.out)⟩, by simp [intOf]; omega⟩
        · rw [if_neg hf] at HT
          have hfb : (t == f) = false := by simpa using hf
          go_wp2
          go_region
          go_wp2_with (at_builtin; refine wpList_append_own_at _ rfl _ _ 54 rfl w.heap.size 58 j0 (.agg #[.int .i64 0, .int .i64 0]) 2 16 Tryd.underlying54 hj0 hjz0 hjz1 hjz2 rfl (by decide) _ _ _ rfl (World.ownsRow.alloc (w := wr.drew) HO.out _) ⟨wr.heap.size, 0, none⟩ 1 1 [.int .i64 t, .int .i64 f] rfl rfl ?c1 ?c2 ?c3 ?c4 ?c5 ?_)
          case c1 => exact mv_news wr.drew _ _ _
          case c2 => intro u hu; simp at hu; rcases hu with rfl | rfl <;> rfl
          case c3 => have := HL.out; unfold maxLen; omega
          case c4 => have := HL.out; omega
          case c5 => simp; omega
          intro v1 w2 hown1 hgrow1 hne1 hat1
          have HO1 : Hid (w2.ownsRow w.heap.size 58 2 v1 (startM (xs.take (q + 1))).length (mvV (startM (xs.take (q + 1))))) := hide (by
            rw [HT.out, mvV_app, List.length_append]; exact hown1)
          have HB3 : Hid (Below w.heap.size w w2) := hide (grown_below ((HB2.out.drew).alloc (by show w.heap.size ≤ wr.heap.size; omega) _) hgrow1 (World.ownsRow.alloc (w := wr.drew) HO.out _) (Nat.le_refl _) (by simp; omega))
          clear hown1 hgrow1 hne1 hat1 HO HB2 HT
          go_wp2
          exact ⟨⟨q + 1, by omega, by go_num, HB3, HO1⟩, by simp [intOf]; omega⟩
      · have hqn : q = n := by omega
        have HO2 : Hid (wr.ownsRow w.heap.size 58 2 u3 (startM xs).length (mvV (startM xs))) := hide (by have := HO.out; rwa [List.take_of_length_le (by have := hx.out; omega)] at this)
        have hyl : (startM xs).length ≤ 64 := Nat.le_trans (List.length_filter_le _ _) (by have := hx.out; omega)
        clear HO
        generalize startM xs = ys at *
        obtain ⟨a4, k4, hu3, -, hk4, hm4⟩ := mvs_owned HO2.out
        have HM4 := hide hm4
        subst hu3
        clear hm4 HO2
        go_wp2_with fail
        have C7 := l4Emit_any (2 * ys.length) a4 ys.length k4 ys _ _ wr HM4 (hide rfl) HOK hyl (by omega) (Nat.le_refl _)
        rw [show ((2 * ys.length : Nat) : Int) = 2 * (ys.length : Int) by omega] at C7
        refine C7.mono ?_
        rintro e w7 ⟨v7, rfl, hn7, hb7, ho7⟩
        have HO7 := hide ho7
        have HB7 := hide (bnext HB2.out hb7)
        have HN7 := hide hn7
        clear ho7 hb7 hn7 C7
        go_wp2
        go_ret
        refine ⟨_, rfl, HN7.out, HB7.out, ?_⟩
        rw [HS.out]
        exact own_base HO7.out (by omega)
end Go.Proofs.YtlmaodcddbkllaaDoor
