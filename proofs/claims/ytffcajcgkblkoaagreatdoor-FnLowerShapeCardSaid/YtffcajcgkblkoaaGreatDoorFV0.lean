import Derived.Test.YtffcajcgkblkoaaGreatDoorML2
namespace Go.Proofs.YtffcajcgkblkoaaGreatDoor
open Go.RowKit Go.Shelf
variable{x:List Xe}{n m k B g i c:Nat}{f:Nat->Nat}{M:Nat->Nat->Nat}{p:Option Addr}{R:Program}{w v u W:World}
structure Ig(w w1 X:World)(V:Nat)(a:Option Addr)(n c Kw:Nat)(xs:List Xe)(m l:Option Nat)(q:Option (Nat×(Nat->Nat)×(Nat->Nat->Nat))):Prop where
 low:Below w1.heap.size w1 X
 f0:w1.cell? ⟨w.heap.size,0,none⟩=some (.int .i64 (V:Int))
 f1:w1.cell? ⟨w.heap.size,1,none⟩=some (.slice a n c)
 lt:w.heap.size<w1.heap.size
 mr:∀g,m=some g->X.rowIs g 59 n (λ_=>.slice none 0 0)/\w1.heap.size<=g
 lb:∀g,l=some g->X.rowIs g 89 2 (λ_=>.slice none 0 0)/\w1.heap.size<=g
 ca:∀r,q=some r->XK X r.1 n Kw r.2.1 (λ_=>Kw) r.2.2/\XQ r.2.2/\(∀b,b<n->∀v,Xh (r.2.2 b) v=true↔(b,v)∈IE xs n)/\w1.heap.size<=r.1/\∀i,i<n->w1.heap.size<=r.2.1 i
 d1:∀g h,m=some g->l=some h->g≠h
 d2:∀g r,m=some g->q=some r->g≠r.1/\∀i,i<n->r.2.1 i≠g
 d3:∀g r,l=some g->q=some r->g≠r.1/\∀i,i<n->r.2.1 i≠g
theorem Ig.next{b l:Option Nat}{q:Option (Nat×(Nat->Nat)×(Nat->Nat->Nat))}(h:Ig w v u n p m c k x b l q)(a:Below u.heap.size u W):Ig w v W n p m c k x b l q :=
 ⟨Xg h.low a,h.f0,h.f1,h.lt,λg e=>⟨(h.mr g e).1.of_block (a.block _ (h.mr g e).1.lt),(h.mr g e).2⟩,λg e=>⟨(h.lb g e).1.of_block (a.block _ (h.lb g e).1.lt),(h.lb g e).2⟩,λr e=>⟨(h.ca r e).1.keep a,(h.ca r e).2⟩,h.d1,h.d2,h.d3⟩
theorem Ig.mkS{l:Option Nat}{q:Option (Nat×(Nat->Nat)×(Nat->Nat->Nat))}{K:Act->World->Prop}{A:Act}(h:Ig w v u n p m c k x none l q)(d:∀Y,Ig w v Y n p m c k x (some u.heap.size) l q->K A Y):K A (u.alloc<|.cells (madeCells #[.slice none 0 0] m) 59):=by
 have a:=h.next<|Xb (Below.refl _ u) (.cells (madeCells #[Hq] m) 59);have z:=h.low.size;refine d _ ⟨a.low,h.f0,h.f1,h.lt,λg e=>?_,a.lb,a.ca,λg r e e2=>?_,λg r e e2=>?_,a.d3⟩;·cases e;exact⟨dG u _ m _,z⟩
 .cases e;have:=(h.lb r e2).1.lt;omega
 cases e;have:=(h.ca r e2).1.row.lt;exact⟨oM,λi b=>by have:=((h.ca r e2).1.set i b).lt;omega⟩
theorem Ig.lbS{d:Option Nat}{q:Option (Nat×(Nat->Nat)×(Nat->Nat->Nat))}{K:Act->World->Prop}{A:Act}(h:Ig w v u n p m c k x d none q)(f:∀Y,Ig w v Y n p m c k x d (some u.heap.size) q->K A Y):K A (u.alloc<|.cells #[.slice none 0 0,.slice none 0 0] 89):=by
 have a:=h.next<|Xb (Below.refl _ u) (.cells #[Hq,Hq] 89);have z:=h.low.size;refine f _ ⟨a.low,h.f0,h.f1,h.lt,a.mr,λg e=>?_,a.ca,λg r e e2=>?_,a.d2,λg r e e2=>?_⟩;·cases e;exact⟨eK u #[Hq,Hq] 89 (λ_=>Hq) (λi b=>by match i,b with|0,_=>rfl|1,_=>rfl),z⟩
 .cases e2;have:=(h.mr g e).1.lt;omega
 cases e;have:=(h.ca r e2).1.row.lt;exact⟨oM,λi b=>by have:=((h.ca r e2).1.set i b).lt;omega⟩
theorem Ig.caS{av:Array Value}{q o:Option Nat}(h:Ig w v u m p k c B x q o none)(A:Calls R n av u λe t=>∃G a d,e=.returned (Hl G k k)/\u.heap.size<=G/\Below u.heap.size u t/\XK t G k B a (λ_=>B) d/\(∀i,i<k->u.heap.size<=a i)/\XQ d/\∀b,b<k->∀s,Xh (d b) s=true↔(b,s)∈IE x k) :
 Calls R n av u λe Y=>∃G a d,e=.returned (Hl G k k)/\Ig w v Y m p k c B x q o (some (G,a,d)):=by
 refine A.mono ?_;rintro e Y⟨G,a,d,rfl,y,b,D,l,E,C⟩;have j:=h.next b;have z:=h.low.size;refine⟨G,a,d,rfl,j.low,h.f0,h.f1,h.lt,j.mr,j.lb,λr e=>?_,j.d1,λg r e e2=>?_,λg r e e2=>?_⟩;·cases e;exact⟨D,E,C,aJ z y,λi f=>aJ z<|l i f⟩
 .cases e2;have:=(h.mr g e).1.lt;exact⟨by show g≠G;omega,λi f=>by have:=l i f;show a i≠g;omega⟩
 cases e2;have:=(h.lb g e).1.lt;exact⟨by show g≠G;omega,λi f=>by have:=l i f;show a i≠g;omega⟩
theorem Ig.kp{a l:Option Nat}{q:Option (Nat×(Nat->Nat)×(Nat->Nat->Nat))}(h:Ig w v u n p m c k x a l q):u.cell? (Hk w.heap.size 0)=some (Hp n)/\u.cell? (Hk w.heap.size 1)=some (.slice p m c) :=
 ⟨oB h.low h.f0 h.lt,oB h.low h.f1 h.lt⟩
theorem Ig.lbc{d:Option Nat}{q:Option (Nat×(Nat->Nat)×(Nat->Nat->Nat))}(h:Ig w v u n p m c k x d (some B) q):u.cell? ⟨B,0,none⟩=some (.slice none 0 0)/\u.cell? ⟨B,1,none⟩=some (.slice none 0 0)/\(∀o,u.frozen? ⟨B,o,none⟩=false)/\∀b,(u.setCell ⟨B,0,none⟩ b).cell? ⟨B,1,none⟩=some (.slice none 0 0):=by
 have r:=(h.lb B rfl).1;have a:=r.cell (i:=1) vZ;exact⟨r.cell (i:=0) vZ,a,r.frozen,λb=>(cJ _ _ _ _ sP).trans a⟩
theorem Ig.fin(h:Ig w v u n p m c k x (some B) (some g) (some (i,f,M)))(s:Below w.heap.size w v)(a:v.heap.size=w.heap.size+2)(y:v.cell? ⟨w.heap.size+1,0,none⟩=some (.slice none 0 0))(z:v.cell? ⟨w.heap.size+1,1,none⟩=some (.slice none 0 0))(rz:∀t,v.frozen? ⟨w.heap.size+1,t,none⟩=false) :
 MT w ((u.setCell ⟨g,0,none⟩ (.slice (some ⟨B,0,none⟩) m m)).setCell ⟨g,1,none⟩ (.slice (some ⟨i,0,none⟩) m m)) n p m c k x B g i f M:=by
 let⟨A,C,r,l,o⟩:=h.ca _ rfl;have e:=h.d2 _ _ rfl rfl;have j:=h.d3 _ _ rfl rfl;exact VR s a h.low h.f0 h.f1 y z rz (h.mr B rfl).1 (h.lb g rfl).1 A C r (a▸(h.mr B rfl).2) (a▸(h.lb g rfl).2) (a▸l) (λd b=>a▸o d b) ⟨λq=>j.1 q.symm,h.d1 _ _ rfl rfl,e.1,λd b=>⟨e.2 d b,j.2 d b⟩⟩
end Go.Proofs.YtffcajcgkblkoaaGreatDoor
