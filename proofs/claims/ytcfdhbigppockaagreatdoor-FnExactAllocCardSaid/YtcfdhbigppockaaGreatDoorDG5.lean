import Derived.Test.YtcfdhbigppockaaGreatDoorID1
import Derived.Deep.AppendLies
import Derived.RangeFuncRecord
import Derived.Deep.CutRange
namespace Go.Proofs.YtcfdhbigppockaaGreatDoor
open Go.RowKit
variable{n m k B g i:Nat}{w v:Ub}{a:Uj}{y:Wo}{E:Zh}
def Bx(w:Ub)(b:Nat)(a:Zh)(t:Nat):Prop:=w.1[b]?=some (.cells a t)
theorem Bx.lt(h:Bx w n E m):n<w.1.size:=by
 by_cases e:n<w.1.size;·exact e
 unfold Bx at h;rw[iI oM]at h;cases h
theorem Bx.cell{b:Nat}(h:Bx w b E n)(hq:E[m]?=some a):w.cell? (Hk b m)=some a:=(cell_of_row w b m E n _ h).trans hq
theorem Bx.c(h:Bx w n E m)(q:Nat)(hq:E[q]?=some a:=by rfl):w.cell? (Hk n q)=some a:=h.cell hq
theorem Bx.thaw(h:Bx w n E m)(q:Nat):w.frozen? (Hk n q)=false:=by
 unfold World.frozen?;unfold Bx at h;show(match w.1[n]? with|some (.cells _ _ (lo,hi))=>decide (lo<=q)&&decide (q<hi)|_=>false)=false;rw[h];simp
theorem Bx.set(h:Bx w n E m)(q:Nat)(u:Uj):Bx (w.setCell ⟨n,q,none⟩ u) n (E.setIfInBounds q u) m:=heap_setCell_same w n q E m u h
theorem Bx.keep{w':Ub}(h:Bx w n E m)(k:w'.1[n]?=w.1[n]?):Bx w' n E m:=k.trans h
theorem Bx.new(w:Ub)(a:Zh)(t:Nat):Bx (w.alloc<|.cells a t) w.1.size a t:=World.alloc_heap_new _ _
theorem Bx.box(h:Bx w n E m)(o:Obj):Bx (w.alloc o) n E m:=h.keep<|Below.heap_alloc _ _ _ h.lt
theorem Bx.other(h:Bx w n E m)(b:n≠k):Bx (w.setCell ⟨k,B,none⟩ a) n E m:=h.keep<|Below.heap_setCell _ _ _ _ b
theorem Bx.grown{r:Zm}(h:Bx w n E m)(g:w.grownBy v r)(a:some n≠r):Bx v n E m:=h.keep<|g.5 n h.lt a
theorem rJ(h:Bx w n E m)(l:w.ownsRow B k g a i y)(j:m≠k):some n≠a.ownBlock:=by
 intro b;obtain⟨s,⟨d,_⟩|⟨c,o,p,e1,r,f,q⟩⟩:=l;·subst d;cases b
 subst e1;have:n=c:=by injection b
 subst this;unfold Bx at h;rw[f]at h;injection h with h;injection h with _ e;exact j e.symm
end Go.Proofs.YtcfdhbigppockaaGreatDoor
