import Derived.Test.YtanaeindldcapaaDoorPL3
namespace Go.Proofs.YtanaeindldcapaaDoor
open Go.RowKit Go.Shelf
/-- A walker that neither turns a row of its own nor hands over other rows: the plain contract. -/
theorem SeqS.seqN {α : Type} {F : Fence} {n : Nat} {P : Program} {g : Nat} {lb : Array Value} {encs : α → Array Value} {Px : α → World → Prop} {Kp : World → World → Prop} {S Sp : List α → Prop} {N : Nat} {w : World} (h : SeqS F n P g lb (fun _ => encs) (fun _ => Px) Kp S Sp N False False w) : SeqN F n P g lb encs Px Kp S N w := by
  intro l J W hW hl hJ hY h0
  refine (h l (fun _ => J) (fun _ _ => False) W hW hl (fun _ => hJ) (fun _ _ _ _ h _ _ => h) (fun f => f.elim) (fun f => f.elim) (fun z pre x V _ hj hp hn => (hY pre x V hj hp hn).mono (fun e V' h => Or.inl h)) (fun z V _ _ hb => hJ [] W V none h0 ⟨hb.os, hb.tape, hb.output, hb.size, fun i hi _ => hb.block i hi⟩ (fun r e => by cases e))).mono ?_
  rintro e V ⟨hv, ⟨z, xs, _, hS, hj⟩ | ⟨pre, _, f⟩⟩
  · exact ⟨hv, xs, hS, hj⟩
  · exact f.elim
theorem places_seq (Bx L B : Nat) (Ms : Nat → Prop) (Pd : Nat × List Int × List Int → Prop) (x : Blk) (w : World) (hS : Hid (Stc x L B Bx w.heap.size w)) (hM : Hid (∀ k, L ≤ k → k < B → ¬ Ms k)) (hMx : Hid (¬ Ms Bx)) (hMn : Hid (∀ k, w.heap.size ≤ k → ¬ Ms k)) (hM1 : Hid (¬ Ms 0)) (hM2 : Hid (¬ Ms 1)) (hops : Hid (∀ y ∈ x.instrs, 1 ≤ y.op ∧ y.op ≤ 13)) (htk : 1 ≤ x.term.kind ∧ x.term.kind ≤ 3) (hln : x.instrs.length ≤ 4000) (hlp : x.phis.length ≤ 4000) (hPd : Hid (∀ q ∈ plL x, Pd q)) :
    SeqN Fence.wide 7 Tryd.prog 66 #[.pointer (some ⟨Bx, 0, none⟩)] plEnc (plPx w.heap.size Pd) (KpB w.heap.size Ms) (fun xs => xs.map Pl.dat = plL x) (x.instrs.length + 2) w :=
  SeqS.seqN (places_seqS w.heap.size Bx L B Ms Pd x w (hide ⟨hS.out.op, hS.out.ter, hS.out.blk, hS.out.lt, hS.out.le, hS.out.g1, hS.out.g2, Nat.le_refl _⟩) hM hMx hMn hM1 hM2 hops htk hln hlp hPd)
end Go.Proofs.YtanaeindldcapaaDoor
