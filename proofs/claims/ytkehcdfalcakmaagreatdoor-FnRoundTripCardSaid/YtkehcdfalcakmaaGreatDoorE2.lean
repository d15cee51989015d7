import Derived.Test.YtkehcdfalcakmaaGreatDoorW10
namespace Go.Proofs.YtkehcdfalcakmaaGreatDoor
open Go.RowKit
theorem Tryz.infoB:(Tryz.prog.info? 5).map (fun i=>(i.zero,i.size,i.bytes))=some (some (.int .u8 0),1,1):=by kernel_rfl
structure Gr(w w':World)(u v:Value):Prop where
 grown:w.grownBy w' u.ownBlock
 own:∀g,v.ownBlock=some g->w.heap.size<=g\/u.ownBlock=some g
theorem Gr.refl(w:World)(u:Value):Gr w w u u:=⟨⟨rfl,rfl,rfl,Nat.le_refl _,fun _ _ _=>rfl⟩,fun _ h=>Or.inr h⟩
theorem Gr.trans{a b c:World}{u v x:Value}(h:Gr a b u v)(k:Gr b c v x):Gr a c u x :=
 ⟨⟨k.grown.os.trans h.grown.os,k.grown.tape.trans h.grown.tape,k.grown.output.trans h.grown.output,Nat.le_trans h.grown.size k.grown.size,
  fun i hi hne=>(k.grown.block i (Nat.lt_of_lt_of_le hi h.grown.size) (fun e=>by
   rcases h.own i e.symm with h1 | h1
   ·omega
   ·exact hne h1.symm)).trans (h.grown.block i hi hne)⟩,
  fun g hg=>by
   rcases k.own g hg with h1 | h1
   ·exact Or.inl (Nat.le_trans h.grown.size h1)
   ·exact h.own g h1⟩
theorem Gr.below{w w' W:World}{u v:Value}{B e s n:Nat}{xs:List Value}(h:Gr w w' u v)(ho:w.ownsRow B e s u n xs)(hb:Below B W w)(hB:B<=w.heap.size):Below B W w' :=
 hb.grown h.grown hB (fun k hk=>(ho.lt k hk).1)
theorem Gr.alloc{w w':World}{u v:Value}(h:Gr w w' u v)(o:Obj):Gr w (w'.alloc o) u v :=
 ⟨⟨h.grown.os,h.grown.tape,h.grown.output,by have:=h.grown.size;simp;omega,fun i hi hne=>(Below.heap_alloc _ _ _ (Nat.lt_of_lt_of_le hi h.grown.size)).trans (h.grown.block i hi hne)⟩,h.own⟩
end Go.Proofs.YtkehcdfalcakmaaGreatDoor
