import Derived.Test.YtghnlncgiihhgaaGreatDoorTZ1
namespace Go.Proofs.YtghnlncgiihhgaaGreatDoor
open Go.RowKit Go.Shelf
variable{x:List Xe}{n m k B g i j:Nat}{f:Nat->Nat}{M:Nat->Nat->Nat}{p:Option Addr}{R:Program}{w v u W:World}
structure FvS(w w1 X:World)(V:Nat)(a:Option Addr)(n c Kw:Nat)(xs:List Xe)(m l:Option Nat)(q:Option (Nat × (Nat->Nat) × (Nat->Nat->Nat))):Prop where
 low:Below w1.heap.size w1 X
 f0:w1.cell? ⟨w.heap.size,0,none⟩=some (.int .i64 (V:Int))
 f1:w1.cell? ⟨w.heap.size,1,none⟩=some (.slice a n c)
 lt:w.heap.size<w1.heap.size
 mr:∀g,m=some g->X.rowIs g 45 n (fun _=>.slice none 0 0)/\w1.heap.size<=g
 lb:∀g,l=some g->X.rowIs g 77 2 (fun _=>.slice none 0 0)/\w1.heap.size<=g
 ca:∀r,q=some r->XK X r.1 n Kw r.2.1 (fun _=>Kw) r.2.2/\XQ r.2.2/\(∀b,b<n->∀v,Xh (r.2.2 b) v=true↔(b,v)∈phE xs n)/\w1.heap.size<=r.1/\∀i,i<n->w1.heap.size<=r.2.1 i
 d1:∀g h,m=some g->l=some h->g≠h
 d2:∀g r,m=some g->q=some r->g≠r.1/\∀i,i<n->r.2.1 i≠g
 d3:∀g r,l=some g->q=some r->g≠r.1/\∀i,i<n->r.2.1 i≠g
theorem FvS.next{b l:Option Nat}{q:Option (Nat × (Nat->Nat) × (Nat->Nat->Nat))}(h:FvS w v u n p m k B x b l q)(a:Below u.heap.size u W):FvS w v W n p m k B x b l q :=
 ⟨Xg h.low a,h.f0,h.f1,h.lt,fun g e=>⟨(h.mr g e).1.of_block (a.block _ (h.mr g e).1.lt),(h.mr g e).2⟩,fun g e=>⟨(h.lb g e).1.of_block (a.block _ (h.lb g e).1.lt),(h.lb g e).2⟩,fun r e=>⟨(h.ca r e).1.keep a,(h.ca r e).2⟩,h.d1,h.d2,h.d3⟩
theorem FvS.mkS{l:Option Nat}{q:Option (Nat × (Nat->Nat) × (Nat->Nat->Nat))}{K:Act->World->Prop}{A:Act}(h:FvS w v u n p m k B x none l q)(c:∀Y,FvS w v Y n p m k B x (some u.heap.size) l q->K A Y):K A (u.alloc (.cells (madeCells #[.slice none 0 0] m) 45)):=by
 have a:=h.next (Xb (Below.refl _ u) (.cells (madeCells #[.slice none 0 0] m) 45));have z:=h.low.size;refine c _ ⟨a.low,h.f0,h.f1,h.lt,fun g e=>?_,a.lb,a.ca,fun g r e e2=>?_,fun g r e e2=>?_,a.d3⟩
 ·cases e;exact⟨dG u _ m _,z⟩
 ·cases e;have:=(h.lb r e2).1.lt;omega
 ·cases e;have:=(h.ca r e2).1.row.lt;exact⟨oM,fun i b=>by have:=((h.ca r e2).1.set i b).lt;omega⟩
theorem FvS.lbS{c:Option Nat}{q:Option (Nat × (Nat->Nat) × (Nat->Nat->Nat))}{K:Act->World->Prop}{A:Act}(h:FvS w v u n p m k B x c none q)(d:∀Y,FvS w v Y n p m k B x c (some u.heap.size) q->K A Y):K A (u.alloc (.cells #[.slice none 0 0,.slice none 0 0] 77)):=by
 have a:=h.next (Xb (Below.refl _ u) (.cells #[.slice none 0 0,.slice none 0 0] 77));have z:=h.low.size;refine d _ ⟨a.low,h.f0,h.f1,h.lt,a.mr,fun g e=>?_,a.ca,fun g r e e2=>?_,a.d2,fun g r e e2=>?_⟩
 ·cases e;exact⟨eK u #[.slice none 0 0,.slice none 0 0] 77 (fun _=>.slice none 0 0) (fun i b=>by match i,b with | 0,_=>rfl | 1,_=>rfl),z⟩
 ·cases e2;have:=(h.mr g e).1.lt;omega
 ·cases e;have:=(h.ca r e2).1.row.lt;exact⟨oM,fun i b=>by have:=((h.ca r e2).1.set i b).lt;omega⟩
theorem FvS.caS{av:Array Value}{q o:Option Nat}(h:FvS w v u m p k B g x q o none)(A:Calls R n av u fun e t=>∃G a c,e=.returned (.slice (some ⟨G,0,none⟩) k k)/\u.heap.size<=G/\Below u.heap.size u t/\XK t G k g a (fun _=>g) c/\(∀i,i<k->u.heap.size<=a i)/\XQ c/\∀b,b<k->∀s,Xh (c b) s=true↔(b,s)∈phE x k) :
 Calls R n av u fun e Y=>∃G a c,e=.returned (.slice (some ⟨G,0,none⟩) k k)/\FvS w v Y m p k B g x q o (some (G,a,c)):=by
 refine A.mono ?_;rintro e Y ⟨G,a,c,rfl,y,b,D,l,E,C⟩;have j:=h.next b;have z:=h.low.size;refine⟨G,a,c,rfl,j.low,h.f0,h.f1,h.lt,j.mr,j.lb,fun r e=>?_,j.d1,fun d r e e2=>?_,fun d r e e2=>?_⟩
 ·cases e;exact⟨D,E,C,aJ z y,fun i f=>aJ z (l i f)⟩
 ·cases e2;have:=(h.mr d e).1.lt;exact⟨by show d≠G;omega,fun i f=>by have:=l i f;show a i≠d;omega⟩
 ·cases e2;have:=(h.lb d e).1.lt;exact⟨by show d≠G;omega,fun i f=>by have:=l i f;show a i≠d;omega⟩
theorem FvS.kp{a l:Option Nat}{q:Option (Nat × (Nat->Nat) × (Nat->Nat->Nat))}(h:FvS w v u n p m k B x a l q):u.cell? ⟨w.heap.size,0,none⟩=some (.int .i64 (n:Int))/\u.cell? ⟨w.heap.size,1,none⟩=some (.slice p m k) :=
 ⟨oB h.low h.f0 h.lt,oB h.low h.f1 h.lt⟩
theorem FvS.lbc{c:Option Nat}{q:Option (Nat × (Nat->Nat) × (Nat->Nat->Nat))}(h:FvS w v u n p m k B x c (some g) q):u.cell? ⟨g,0,none⟩=some (.slice none 0 0)/\u.cell? ⟨g,1,none⟩=some (.slice none 0 0)/\(∀o,u.frozen? ⟨g,o,none⟩=false)/\∀b,(u.setCell ⟨g,0,none⟩ b).cell? ⟨g,1,none⟩=some (.slice none 0 0):=by
 have r:=(h.lb g rfl).1;have a:=r.cell (i:=1) vY;exact⟨r.cell (i:=0) vY,a,r.frozen,fun b=>(cJ _ _ _ _ sP).trans a⟩
theorem FvS.fin(h:FvS w v u n p m k B x (some g) (some i) (some (j,f,M)))(s:Below w.heap.size w v)(a:v.heap.size=w.heap.size+2)(y:v.cell? ⟨w.heap.size+1,0,none⟩=some (.slice none 0 0))(z:v.cell? ⟨w.heap.size+1,1,none⟩=some (.slice none 0 0))(rz:∀t,v.frozen? ⟨w.heap.size+1,t,none⟩=false) :
 FlA w ((u.setCell ⟨i,0,none⟩ (.slice (some ⟨g,0,none⟩) m m)).setCell ⟨i,1,none⟩ (.slice (some ⟨j,0,none⟩) m m)) n p m k B x g i j f M:=by
 obtain⟨A,C,r,l,o⟩:=h.ca _ rfl;have d:=h.d2 _ _ rfl rfl;have e:=h.d3 _ _ rfl rfl;exact VR s a h.low h.f0 h.f1 y z rz (h.mr g rfl).1 (h.lb i rfl).1 A C r (a ▸ (h.mr g rfl).2) (a ▸ (h.lb i rfl).2) (a ▸ l) (fun c b=>a ▸ o c b) ⟨fun q=>e.1 q.symm,h.d1 _ _ rfl rfl,d.1,fun c b=>⟨d.2 c b,e.2 c b⟩⟩
end Go.Proofs.YtghnlncgiihhgaaGreatDoor
