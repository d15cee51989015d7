import Derived.OwnWalk
import Derived.Lib.ItoaMem
import Derived.Lib.UnsafeStr
import Derived.Test.YtbofmlmdgkblkaaDoorW2
namespace Go.Proofs.YtbofmlmdgkblkaaDoor
open Go.RowKit
structure Gr(w w':World)(u v:Value):Prop where
 grown:w.grownBy w' u.ownBlock
 own:∀g,v.ownBlock=some g->w.heap.size<=g\/u.ownBlock=some g
theorem Gr.refl(w:World)(u:Value):Gr w w u u:=⟨⟨rfl,rfl,rfl,Nat.le_refl _,fun _ _ _=>rfl⟩,fun _ h=>Or.inr h⟩
theorem Gr.below{w w' W:World}{u v:Value}{B e s n:Nat}{xs:List Value}(h:Gr w w' u v)(ho:w.ownsRow B e s u n xs)(hb:Below B W w)(hB:B<=w.heap.size):Below B W w' :=
 hb.grown h.grown hB (fun k hk=>(ho.lt k hk).1)
end Go.Proofs.YtbofmlmdgkblkaaDoor
