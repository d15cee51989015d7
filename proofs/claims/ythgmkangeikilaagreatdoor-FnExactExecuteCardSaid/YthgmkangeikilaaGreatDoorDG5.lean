import Derived.Test.YthgmkangeikilaaGreatDoorM0
import Derived.Deep.CutRange
namespace Go.Proofs.YthgmkangeikilaaGreatDoor
open _root_ renaming Array.size->Z,Nat->N,Option.some->S,Option.none->U,Bool.false->Sn,Decidable.decide->Jd
open Go renaming World.cell?->E,World.alloc->D,World.setCell->Se,Obj.cells->Sc,World.ownsRow->Sx
open Go.RowKit
variable{n m k B g i:N}{w v:Ub}{a:Uj}{y:Wo}{E_:Zh}
def Bx(w:Ub)(b:N)(a:Zh)(t:N):Prop:=w.1[b]?=S (Sc a t)
theorem Bx.lt(h:Bx w n E_ m):n<Z w.1:=by
 by_cases e:n<Z w.1;·exact e
 unfold Bx at h;rw[iI O]at h;cases h
theorem Bx.cell{b}(h:Bx w b E_ n)(hq:E_[m]?=S a):E w (A b m)=S a:=G (uE w b m E_ n _ h) hq
abbrev ZY:=@Bx.cell
theorem Bx.c(h:Bx w n E_ m)(q:N)(hq:E_[q]?=S a:=by rfl):E w (A n q)=S a:=h.cell hq
theorem Bx.thaw(h:Bx w n E_ m)(q):w.frozen? (A n q)=Sn:=by unfold World.frozen?;unfold Bx at h;show(match w.1[n]? with|some (Sc _ _ (lo,hi))=>Jd (lo<=q)&&Jd (q<hi)|_=>Sn)=Sn;rw[h];simp
theorem Bx.set(h:Bx w n E_ m)(q)(u:Uj):Bx (Se w ⟨n,q,U⟩ u) n (E_.setIfInBounds q u) m:=heap_setCell_same w n q E_ m u h
theorem Bx.keep{w'}(h:Bx w n E_ m)(k:w'.1[n]?=w.1[n]?):Bx w' n E_ m:=G k h
theorem Bx.new(w:Ub)(a:Zh)(t:N):Bx (D w<|Sc a t) (Z w.1) a t:=World.alloc_heap_new _ _
theorem Bx.box(h:Bx w n E_ m)(o):Bx (D w o) n E_ m:=h.keep<|gF _ _ _ h.lt
theorem Bx.other(h:Bx w n E_ m)(b:n≠k):Bx (Se w ⟨k,B,U⟩ a) n E_ m:=h.keep<|cY b
theorem Bx.grown{r:Zm}(h:Bx w n E_ m)(g:w.grownBy v r)(a:S n≠r):Bx v n E_ m:=h.keep<|g.5 n h.lt a
theorem rJ(h:Bx w n E_ m)(l:Sx w B k g a i y)(j:m≠k):S n≠a.ownBlock:=by
 intro b;obtain⟨s,⟨d,_⟩|⟨c,o,p,e1,r,f,q⟩⟩:=l;·subst d;cases b
 subst e1;have:n=c:=by injection b
 subst this;unfold Bx at h;rw[f]at h;injection h with h;injection h with _ e;exact j e.symm
