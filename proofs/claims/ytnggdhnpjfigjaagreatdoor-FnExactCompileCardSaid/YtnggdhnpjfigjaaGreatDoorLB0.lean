import Derived.Test.YtnggdhnpjfigjaaGreatDoorDM4
namespace Go.Proofs.YtnggdhnpjfigjaaGreatDoor
set_option maxHeartbeats 2000000
set_option maxRecDepth 100000
open _root_ renaming List.length->J,Nat->N,Int->I,Bool.true->So,Bool.false->Sn,Array.size->Z,rfl->R,Option.some->S,Option.none->U,List.range->Rg,absurd->Sz
open Go renaming World.cell?->E,IntKind.i64->S6,Ending.returned->Rt,RowKit.Below->Sw,Calls->Sk,World.alloc->D,World.setCell->Se,Obj.cells->Sc,World.ownsRow->Sx
open Value renaming slice->X,int->Si,tuple->St,agg->Sa,bool->Sb
open Go.RowKit Go.Shelf Go.Proofs.Tryz
variable{r:Bool}{n m k B g i j c:N}{w v u W:Ub}{a A_:Uj}{p:Uy}{M N_:Vp}{s:Wa}{l:Wc}{x:Wi}{f F:Wk}{y:Wo}{q:Xe}{R_:Yh}
inductive Wh (xs:List Xe) (v:N):N->Prop
 |here {b:N}:b<J xs->C7 xs b v=1->Wh xs v b
 |step {b t:N}:b<J xs->C7 xs b v=0->t∈X8 xs b->Yo xs t v=Sn->Wh xs v t->Wh xs v b
def Ol(a:Wi)(v b:N):Prop:=Yo a b v=Sn/\Wh a v b
def UV(a:Wi)(v b:N):Prop:=(v:I)∈XP a b\/∃t∈X8 a b,Ol a v t
theorem qD(a:Wi)(b v:N):C7 a b v<=2:=by
 unfold C7;split;·exact aN
 exact Vg _
theorem Wh.lt(h:Wh x n m):m<J x:=by
 cases h with
 |here h _=>exact h
 |step h _ _ _ _=>exact h
theorem vN(b:Jy n x)(g:∀i (l:i<J x),M i=OS x[i] (N_ i))(h:∀k,k<J x->∀m,Xh (N_ k) m=So↔(k,m)∈Nr x (J x))(a:k<J x):Xh (M k) m=So↔Yo x k m=Sn/\C7 x k m=1:=by
 have d:=aH a;rw[g k a,vB (λy e=>⟨λz c=>(b.5 _ d y e z c).1,λz c=>(b.6 _ d y e z c).1⟩) (λz c=>(b.7 _ d z c).1) λp j=>(b.8 _ d p j).1];unfold Yo C7 NA;rw[aC a];simp only;have f:Xh (N_ k) m=Cg (XP x k) (m:I):=by rw[eQ,h k a,XD,KE b a]
 rw[f,<-gU,XD]
theorem EC(f:Jy n x)(g:∀i (h:i<J x),M i=OU x[i])(c:k<J x)(a:Yo x k m=Sn)(b:C7 x k m=0):Xh (M k) m=Sn:=by
 have e:=aH c;rw[g k c,<-gU,WK (λy d z l=>(f.6 _ e y d z l).1) λp j=>(f.8 _ e p j).1];unfold Yo at a;unfold C7 NA at b;rw[aC c]at a b;simp only at a b;rintro(h|⟨y,d,h⟩);·rw[XD.2 h]at a;cases a
 exact UQ _ b y d h
theorem FF(e:Jy n x)(f:∀i (h:i<J x),M i=OU x[i])(b:k<J x)(h:Xh (M k) m=Sn):Yo x k m=Sn/\C7 x k m≠2:=by
 have d:=aH b;rw[f k b,<-gU,WK (λy c z j=>(e.6 _ d y c z j).1) λp g=>(e.8 _ d p g).1]at h;unfold Yo C7 NA;rw[aC b];simp only;refine⟨?_,Ud _ λy c a=>h<|aZ ⟨y,c,a⟩⟩;rw[<-gU,XD];exact λa=>h<|bC a
theorem Ff(e:Jy n x){l:Vp}(p:∀i (h:i<J x),M i=OS x[i] (l i))(r:∀i (h:i<J x),N_ i=OU x[i])(q:∀k,k<J x->∀m,Xh (l k) m=So↔(k,m)∈Nr x (J x)){ord:Vv}(v:∀k,k<J x->ord k)(d:k<J x):
 Sp M N_ ord (X8 x) k m↔Ol x m k:=by
 constructor
 .intro h
  induction h with
  |init f=>
   have a:=(vN e p q d).1 f;exact⟨a.1,Wh.here d a.2⟩
  |@take k z t f a b g j=>
   have c:=FF e r d g;have o:=qD x k t;have w:=e.1.tg _ d _ a;by_cases u:C7 x k t=1;·exact⟨c.1,Wh.here d u⟩
   have s:=j w;exact⟨c.1,Wh.step d (oN c.2) a s.1 s.2⟩
 rintro⟨f,a⟩
 induction a with
 |here b g=>exact Sp.init<|(vN e p q b).2 ⟨f,g⟩
 |@step k B b g c o y j=>exact Sp.take (v _ b) c (j (e.1.tg _ b _ c) o) (EC e r b f g)
theorem uN(c:Jy n x)(g:m<J x)(h:(k:I)∈XP x m):k<n:=by
 have b:=(KE c g).1 h;unfold Nr PW Og at b;let⟨t,a,d⟩:=bV.1 b;have a:=bE.1 a;rw[aC a]at d;let⟨p,i,e⟩:=bV.1 (show _∈List.flatMap _ x[t].1 from d);have f:=List.of_mem_zip e;let⟨z,j,l⟩:=aY.1 f.2;have:=(c.9 t a p i).2 z j;omega
theorem FK(e:Jy n x)(d:m<J x)(a:C7 x m k=1):k<n:=by
 have f:=aH d;unfold C7 NA at a;rw[aC d]at a;simp only at a;obtain b|⟨y,g,b⟩:=TV _ a
 .rcases dI _ _▸b with c|c;·have:=(e.7 _ f _<|XD.1 c).2;omega
  exact uN e d<|XD.1 c
 have:=(e.5 _ f y g _ b).2;omega
theorem Wh.val(c:Jy n x)(h:Wh x m k):m<n:=by
 induction h with
 |here a b=>exact FK c a b
 |step _ _ _ _ _ d=>exact d
theorem UV.val(a:Jy n x)(b:k<J x)(h:UV x m k):m<n:=by
 obtain h|⟨t,_,h⟩:=h;·exact uN a b h
 exact h.2.val a
theorem CO{a:Ys}(d:∀m,m<J x->a m=So->Wh x n m)(e:∀m,m<J x->C7 x m n=1->a m=So)(f:∀m,m<J x->C7 x m n=0->∀t∈X8 x m,a t=So->Yo x t n=Sn->a m=So)(k:m<J x):a m=So↔Wh x n m:=by
 refine⟨d m k,λh=>?_⟩
 induction h with
 |here b c=>exact e _ b c
 |@step m t b c g i j l=>exact f m b c t g (l j.lt) i
def I0(b:Wi)(a:Vp)(i:N):Wk:=(b[i]?).elim (λ_=>0) λx=>OS x<|a i
def T0(a:Wi)(i:N):Wk:=(a[i]?).elim (λ_=>0) OU
theorem wY(h:n<J x):I0 x M n=OS x[n] (M n):=by simp[I0,h]
theorem wT(h:n<J x):T0 x n=OU x[n]:=by simp[T0,h]
theorem Gc(h:XQ M):XQ (I0 x M):=λi=>by
 unfold I0;cases x[i]? with
 |none=>exact JW
 |some a=>exact FR<|h i
theorem FY:XQ (T0 x):=λi=>by
 unfold T0;cases x[i]? with
 |none=>exact JW
 |some a=>exact Fg
theorem cy.congr(h:cy n w m k B f F M)(e:∀i,i<k->M i=N_ i):cy n w m k B f F N_ :=
 ⟨h.1,λi a=>(e i a)▸h.2 i a,h.3,h.o⟩
def jh(a:Wi):List Wa:=(Rg (J a)).map (X8 a)
theorem DD:(λb=>(jh x).getD b [])=X8 x:=by
 funext b;unfold jh;by_cases h:b<J x
 .simp[h]
 simp only[bF,dX];rw[dK<|by simp;omega];unfold X8;rw[dK O];rfl
theorem WM(a:UF x)(h:n<J x):Xi (X8 x n)=N6 x n:=by
 rw[Km h,VS h];exact Kv λv b=>(a.3 _ (aH h) v b).1
structure Px(p:VD)(gi ci:Wk)(nx:Vu)(ds:Wa)(W:Ub)(WI:Vp):Prop where
 low:Sw (Z p.w.1) p.w W
 sz:p.M<=Z W.1
 f0:E W ⟨Z p.w.1,0,U⟩=S (Si S6 (p.V:I))
 r0:E W ⟨Z p.w.1+1,0,U⟩=S (X U 0 0)
 r1:E W ⟨Z p.w.1+1,1,U⟩=S (X U 0 0)
 rz:∀q,W.frozen? ⟨Z p.w.1+1,q,U⟩=Sn
 l0:E W ⟨p.LB,0,U⟩=S (X (S ⟨p.9,0,U⟩) p.n p.n)
 l1:E W ⟨p.LB,1,U⟩=S (X (S ⟨p.Go,0,U⟩) p.n p.n)
 o:XK W p.Go p.n p.5 p.go (λ_=>p.5) p.WO
 inn:XK W p.9 p.n p.5 gi ci WI
 igM:∀i,i<p.n->p.M<=gi i
 nxr:W.rowIs p.Gn 35 p.n nx
 nxs:∀i,i<p.n->∃a' c',nx i=X a' (J (N6 p.8 i)) c'/\Yv W (λb=>p.M<=b) a' (N6 p.8 i)
 O7:ZJ W p.M ds
 wi:XQ WI
 ord:∃ord:Wa,(∀b,b<p.n->b∈ord)/\∀b,b<p.n->∀x,x<64*p.5->(Xh (WI b) x=So↔Sp (I0 p.8 p.WO) (T0 p.8) (·∈ord) (X8 p.8) b x)
theorem Oi.spread{p:VD}{d:PE}(h:Oi p w p.n d)(j:PO p)(q:O2 p p.n d)(P:ZJ w p.M s)(y:Jy p.V p.8)(L:p.n=J p.8)(ab:XQ p.WO)(S_:p.5<=100):
 ∃m C,d.7=X (S ⟨m,0,U⟩) (J d.8) C/\Sk prog 121 #[X (S ⟨m,0,U⟩) (J d.8) C,X (S ⟨p.Gn,0,U⟩) p.n p.n,X (S ⟨p.9,0,U⟩) p.n p.n,X (S ⟨p.Gd,0,U⟩) p.n p.n] w.drew λe r=>e=Rt (St #[])/\(∃O_,Px p d.1 d.2 d.5 s r O_)/\(∀b,b<Z w.1->b<p.M->r.1[b]?=w.1[b]?):=by
 have hz:=h.2;have az:1<=p.n:=oN y.1.1;have a0:p.n<=1000:=oN y.1.2;have W:=eJ<|q.3 0 (q.4 0 O);have T_:J d.8<=1000:=oN q.7
 let⟨m,C,N_,hg,_⟩:=Xm h.19.6 W;refine⟨m,C,N_,?_⟩;have M:=h.19.6;rw[N_,show Je d.8=(Xi d.8).map (Si S6) by simp[Je,Xi]]at M;let⟨a1,c1,e1,U_⟩:=Xk M;injection e1 with e1 e2 e3;subst e1;have aj:=j.1;have ap:=j.9;have aq:=j.a8;have ar:=j.a9;have t:XK w p.9 p.n p.5 d.1 d.2 (I0 p.8 p.WO):=⟨h.12.congr λi a=>by rw[aU a],λi a=>by rw[wY O,<-q.1 i O a];exact h.13 i a,h.14,λi a e=>by have:=h.15 i a;omega⟩;have u:XK w p.Gd p.n p.5 p.gd (λ_=>p.5) (T0 p.8):=h.16.congr (λi a=>by rw[wT O,q.2 i O,aU a]);have X_:∀i,i<p.n->E w (A p.Gn<|0+i)=S (d.5 i):=λi a=>by
  rw[aV];exact G (h.17.cell a) (by rw[aU a])
 have Z_:TA w (λac=>∀i,i<p.n->ac≠d.1 i) (S ⟨p.Gn,0,U⟩) ((jh p.8).map Xi):=λi a=>by
  have x:i<J p.8:=by simpa [jh]using a
  have K:i<p.n:=O;let⟨z,T,e,F⟩:=h.18 i K;have H_:((jh p.8).map Xi)[i]=N6 p.8 i:=by
   simp only[cM,jh,dW];exact WM y.1 x
  refine⟨p.Gn,0,R,⟨λl k e=>by have:=h.15 l k;omega,h.17.lt⟩,z,T,?_,?_⟩;·rw[H_,X_ i K,e]
  rw[H_];intro l k;let⟨b,o,e2,c,V⟩:=F l k;exact⟨b,o,e2,⟨c.1.2.1,c.2⟩,V⟩
 refine(Az m 0 (J d.8) C d.8 p.M (Z w.1) (S ⟨p.Gn,0,U⟩) p.n p.n (jh p.8) p.9 p.Gd p.n p.5 d.1 p.gd d.2 (λ_=>p.5) (I0 p.8 p.WO) (T0 p.8) w.drew (Y U_) (Y R) T_ W (Y Z_) (Y<|by simp[jh];exact L) (Y<|by simp[jh];exact L.symm) S_ aA (Y ⟨t.1,λi a=>(t.2 i a).drew,t.3,t.o⟩) (Y ⟨u.1,λi a=>(u.2 i a).drew,u.3,u.o⟩) (Y<|Gc ab) (Y FY) (Y λi a=>by have:=h.15 i a;omega) (Y λi l a k=>by have:=h.15 l k;have:=j.a6 i a;omega) (Y q.5) (Y λa2 W_=>?_)).mono ?_
 .obtain⟨i,a,rfl⟩:=aY.1 W_;have x:=bE.1 a;refine⟨?_,λad ht=>by have:=y.1.tg i x ad ht;omega⟩;rw[Km x,bK];have:=KJ p.8[i].3;omega
 rintro e r⟨rfl,n,P_,aa,Y_,V_⟩;have g:U8 w r p.n d.1:=⟨n.1,n.2,n.3,n.4,n.5⟩;have f:∀b,b<p.M->r.1[b]?=w.1[b]?:=λb c=>g.5 b O (λi a e=>by have:=h.15 i a;omega);have hw:=h.1.4;have al:=j.2;have ao:=j.3;refine⟨R,⟨P_,⟨⟨G g.1 h.1.1,G g.2 h.1.2,G g.3 h.1.3,aJ hw g.4,λb c=>G (f b O) (h.1.5 b c)⟩,aJ hz g.4,G (Xc<|f _ O) h.3,G (Xc<|f _ O) h.5,G (Xc<|f _ O) h.6,λo=>by rw[bJ (a:=(A (Z p.w.1+1) o)) (f (Z p.w.1+1) O)];exact h.7 o,G (Xc<|f _ O) h.8,G (Xc<|f _ O) h.9,⟨h.o.1.of_block<|f _ O,λi a=>(h.o.2 i a).of_block (f _<|oN (j.4 i a)),h.o.3,h.o.o⟩,Y_,h.15,(h.17.of_block<|f _ O).congr λi a=>by rw[aU a],λi a=>?_,⟨P.1,P.2,λG_ R_=>?_⟩,aa,d.8,λb c=>q.3 b<|q.4 b c,λb c af hx=>?_⟩⟩,λb h1 Q_=>f b Q_⟩
 .let⟨z,T,e,F⟩:=h.18 i a;refine⟨z,T,e,λl k=>?_⟩;let⟨b,o,e2,c,V⟩:=F l k;exact⟨b,o,e2,⟨c.1.1,aX c.2 g.4⟩,G (Xc<|g.5 b c.2 c.1.2.1) V⟩
 .have B:=P.3 G_ R_;refine G (g.5 G_ (aS.1 B).1 λi a e=>?_) B;let⟨o,v,I_⟩:=(h.13 i a).obj;rw[<-e,B]at v;injection v with v;rw[<-v]at I_;cases I_
 rw[<-DD];exact V_ b c af hx
def it(a:Vp)(l:Wa)(W:Wk):Wk:=l.foldl (λW t=>NR W (a t) λ_=>0) W
theorem qM{a:Vp}(h:XQ a):∀(l:Wa){W:Wk},XA W->XA (it a l W)
 |[],_,hW=>hW
 |t::l,_,hW=>qM h l<|q8 hW (h t)
theorem uX{a:Vp}(h:XQ a)(x:N):∀(l:Wa){W:Wk},XA W->(Xh (it a l W) x=So↔Xh W x=So\/∃t∈l,Xh (a t) x=So)
 |[],W,_=>by simp[it]
 |t::l,W,hW=>by
  show Xh (it a l<|NR W (a t) λ_=>0) x=So↔_;rw[uX h x l<|q8 hW (h t),vD hW JW,Z3];simp only[Bool.not_false,Bool.and_true,dI,cH,exists_eq_or_imp,or_assoc]
theorem CU(h:n<J s)(W:Wk):it M (s.take<|n+1) W=NR (it M (s.take n) W) (M s[n]) (λ_=>0):=by
 unfold it;rw[bN h,dT];rfl
def Vq(d:Wi)(b a:Vp)(c j:N):Vp:=λi=>if i<c then it b (X8 d i) (a i)else if i=c then it b ((X8 d i).take j) (a i)else a i
theorem vm(h:XQ M)(a:XQ N_)(b j:N):XQ (Vq x M N_ b j):=λi=>by
 unfold Vq;split;·exact qM h _<|a i
 split;·exact qM h _<|a i
 exact a i
structure OY(p:VD)(gi ci:Wk)(ds:Wa)(WI:Vp)(W2:Ub)(gN:N)(wr:Ub)(b j:N):Prop where
 os:wr.4=W2.4
 tape:wr.2=W2.2
 output:wr.5=W2.5
 size:Z W2.1<=Z wr.1
 fr:∀q,q<Z W2.1->(∀i,i<p.n->q≠p.go i)->wr.1[q]?=W2.1[q]?
 o:XK wr p.Go p.n p.5 p.go (λ_=>p.5) (Vq p.8 WI p.WO b j)
theorem OY.start{p:VD}{nx:Vu}(h:Px p f F nx s w M)(k:Sw (Z w.1) w v):OY p f F s M v n v 0 0 :=
 ⟨R,R,R,aA,λ_ _ _=>R,(h.o.keep k).congr (λi _=>by unfold Vq;by_cases e:i=0<;>simp[e,it])⟩
theorem OY.row{p:VD}{wr:Ub}(h:OY p f F s M w n wr m k)(a:J (X8 p.8 m)<=k):OY p f F s M w n wr (m+1) 0 :=
 ⟨h.1,h.2,h.3,h.4,h.5,h.o.congr (λi _=>by
  unfold Vq;by_cases e1:i<m;·rw[aU e1,aU O]
  by_cases e2:i=m;·rw[aM e1,aU e2,aU O,e2,aW a]
  rw[aM e1,aM e2,aM O];by_cases e3:i=m+1;·rw[aU e3];simp[it]
  rw[aM e3])⟩
theorem OY.next{p:VD}{wr:Ub}(h:OY p f F s M w n wr m k)(d:m<p.n)(g:k<J (X8 p.8 m))(a:wr.grownBy v (S<|p.go m))(j:Cp v (p.go m) p.5 p.5 (NR (Vq p.8 M p.WO m k m) (M (X8 p.8 m)[k]) λ_=>0)):OY p f F s M w n v m (k+1):=by
 refine⟨G a.1 h.1,G a.2 h.2,G a.3 h.3,aJ h.4 a.4,λq b c=>G (a.5 q (aX b h.4) λe=>c m d<|by injection e) (h.5 q b c),(h.o.wrote d a j).congr λi _=>?_⟩;by_cases e:i=m
 .subst e;simp only[Vq,Nat.lt_irrefl,fD,gG];rw[CU g]
 unfold Vq;rw[aM e];by_cases e1:i<m;·rw[aU e1,aU e1]
 rw[aM e1,aM e1,aM e,aM e]
theorem OY.res{p:VD}{nx:Vu}{wr w':Ub}(h:OY p f F s M v n wr p.n 0)(b:Px p f F nx s w M)(c:PO p)(e:Sw (Z w.1) w v)(K:p.n=J p.8)(r:XQ p.WO)(x:∀d,d<p.n->∀j,Xh (p.WO d) j=So↔(d,j)∈Nr p.8 p.n)(g:∀q,q<Z wr.1->q≠Z p.w.1+1->q<p.M\/(∃i,i<p.n/\q=f i)->w'.1[q]?=wr.1[q]?)(B:w'.4=wr.4)(L:w'.2=wr.2)(C:w'.5=wr.5)(P:Z wr.1<=Z w'.1):Po p.w w' p.n p.5 p.8 p.9 p.Go f p.go F M (Vq p.8 M p.WO p.n 0):=by
 have S_:=b.1.4;have I_:=c.1;have J_:=c.3;have K_:=c.9;have L_:=c.a9;have N_:=b.2;have Q_:=e.4;have R_:=h.4;have t:=λq u l m=>G (g q O l<|bC u) (G (h.5 q O m) (e.5 q O));refine⟨⟨G B<|G h.1 (G e.1 b.1.1),G L<|G h.2 (G e.2 b.1.2),G C<|G h.3 (G e.3 b.1.3),O,λq hq=>G (t q O O λi a k=>by have:=c.4 i a;omega) (b.1.5 q hq)⟩,⟨b.10.1.of_block (t p.9 O O λi a k=>(c.8 i a).1 k.symm),λi a=>?_,b.10.3,b.10.o⟩,⟨h.o.1.of_block<|g p.Go O O (bC O),λi a=>(h.o.2 i a).of_block (g _ (oN<|c.4 i a) (oN<|c.4 i a) (bC<|oN (c.4 i a))),h.o.3,h.o.o⟩,b.wi,vm b.wi r _ _,⟨O,O⟩,λi a=>⟨oN<|b.11 i a,oN<|c.4 i a⟩,?_⟩
 .have O_:=b.11 i a;have z:=(b.10.2 i a).lt;refine(b.10.2 i a).of_block (G (g (f i) O O (aZ ⟨i,a,R⟩)) (G (h.5 (f i) O λT y k=>by have:=c.4 T y;omega) (e.5 _ z)))
 let⟨V,l,m⟩:=b.16;refine⟨I0 p.8 p.WO,T0 p.8,p.WO,V,λi a=>wY a,λi a=>wT a,λd o j=>K▸x d O j,λd o=>l d O,m,λd o W=>?_⟩;unfold Vq;rw[aU o];exact uX b.wi W _<|r d
theorem JZ{F:Fence}{o:N}{P:Yh}{e:Func}{tmps:Zh}{r:Ending->Vy}{B:N}:∀(b:Wa)(W:Ub),ZJ W B b->(∀a:Ub,a.4=W.4->a.2=W.2->a.5=W.5->Z W.1<=Z a.1->(∀k,k∉b->a.1[k]?=W.1[k]?)->∃v,(results e tmps).run P a=.ok v a/\r (Rt v) a)->LeavesInM F o P e tmps r (O7 b) .returning W
 |[],W,_,h=>h W R R R aA λ_ _=>R
 |p::b,W,hm,h=>by
  refine⟨sP,bC ⟨p,_,R,run_takeDeferred<|hm.3 p cI,?_⟩⟩;have c:=grownBy_putObj' W p<|.deferred U;refine JZ (B:=B) b _ ⟨(fL.1 hm.1).2,λk d=>hm.2 k<|cN _ d,λk d=>?_⟩ λa i j l m n=>h a (G i c.1) (G j c.2) (G l c.3) (aJ c.4 m) λq hq=>?_;·exact G (World.putObj_heap_other λg=>(fL.1 hm.1).1 (by rw[<-g];exact d)) (hm.3 k<|cN _ d)
  have f:q≠p/\q∉b:=by simpa using hq
  exact G (n q f.2) (World.putObj_heap_other f.1)
def JT(x:Xe)(v:N)(q:Bool)(j:N):Bool:=decide (Ya (v:I) (Cg (Id x.3) (v:I)||q) (x.2.drop j)=1)
theorem WT(v:N)(a:Bool)(b:J q.2<=n):JT q v a n=(Cg (Id q.3) (v:I)||a):=by
 unfold JT;rw[mP b];unfold Ya;cases (Cg (Id q.3) (v:I)||a)<;>simp
theorem qe(v:N)(a:Bool)(c:n<J q.2):JT q v a n=(Cg (Iw q.2[n]) (v:I)||(JT q v a (n+1)&&!decide (H7 q.2[n]=(v:I)))):=by
 unfold JT;rw[gZ c];generalize q.2.drop (n+1)=d;show decide ((if Cg (Iw q.2[n]) (v:I)then 1 else if H7 q.2[n]=(v:I)then 2 else Ya (v:I) _ d)=1)=_;by_cases e1:Cg (Iw q.2[n]) (v:I)=So;·rw[aU e1,e1];simp
 rw[aM e1];have b:Cg (Iw q.2[n]) (v:I)=Sn:=by simpa using e1
 rw[b];by_cases e2:H7 q.2[n]=(v:I);·rw[aU e2];simp[e2]
 rw[aM e2];simp[e2]
def Ox(a:List Xe)(x:Xe)(b i v:N)(q:Bool):Bool:=match i with
 |0=>JT x v q 0||Yo a b v
 |j+1=>JT x v q (j+1)||(match x.2[j]? with
  |none=>Sn
  |some y=>decide (H7 y=(v:I)))
theorem tf{v:I}{f d:Bool}(h:f=So->d=So):∀(a:Vr),Ya v f a=1->Ya v d a=1
 |[],b=>by
  unfold Ya at b |-;cases hf:f with
  |true=>rw[h hf];rfl
  |false=>rw[hf]at b;cases b
 |y::a,b=>by
  show(if Cg (Iw y) v then 1 else if H7 y=v then 2 else Ya v d a)=1;have c:(if Cg (Iw y) v then 1 else if H7 y=v then 2 else Ya v f a)=1:=b;by_cases e1:Cg (Iw y) v=So;·rw[aU e1]
  rw[aM e1]at c |-;by_cases e2:H7 y=v;·rw[aU e2]at c;cases c
  rw[aM e2]at c |-;exact tf h a c
theorem tu{v:I}{f f':Bool}:∀(a:Vr),Ya v f a=2->Ya v f' a=2
 |[],c=>by
  unfold Ya at c;cases f<;>cases c
 |y::a,c=>by
  show(if Cg (Iw y) v then 1 else if H7 y=v then 2 else Ya v f' a)=2;have b:(if Cg (Iw y) v then 1 else if H7 y=v then 2 else Ya v f a)=2:=c;by_cases e1:Cg (Iw y) v=So;·rw[aU e1]at b;cases b
  rw[aM e1]at b |-;by_cases e2:H7 y=v;·rw[aU e2]
  rw[aM e2]at b |-;exact tu a b
theorem tS{v:I}{f f':Bool}:∀(b:Vr),Ya v f b=0->f=Sn/\(Ya v f' b=1↔f'=So)
 |[],c=>by
  unfold Ya at c |-;cases f;·exact⟨R,by cases f'<;>simp⟩
  cases c
 |y::b,c=>by
  have a:(if Cg (Iw y) v then 1 else if H7 y=v then 2 else Ya v f b)=0:=c;by_cases e1:Cg (Iw y) v=So;·rw[aU e1]at a;cases a
  rw[aM e1]at a;by_cases e2:H7 y=v;·rw[aU e2]at a;cases a
  rw[aM e2]at a;have d:=tS (f':=f') b a;refine⟨d.1,?_⟩;show(if Cg (Iw y) v then 1 else if H7 y=v then 2 else Ya v f' b)=1↔_;rw[aM e1,aM e2];exact d.2
theorem vk(d:n<J x)(hq:r=So↔UV x m n):JT x[n] m r 0=So↔Wh x m n:=by
 unfold JT;rw[List.drop_zero,bD];have e:C7 x n m=Ya (m:I) (Cg (Id x[n].3) (m:I)||Cg (XP x n) (m:I)) x[n].2:=by unfold C7 NA;rw[aC d]
 have v:=qD x n m;have q:=λh=>hq.2<|bC (XD.1 h);have s:C7 x n m=0\/C7 x n m=1\/C7 x n m=2:=O;obtain b|i|c:=s
 .have g:=b;rw[e]at g;have l:=tS (f':=Cg (Id x[n].3) (m:I)||r) x[n].2 g;rw[l.2];have f:Cg (Id x[n].3) (m:I)=Sn/\Cg (XP x n) (m:I)=Sn:=by simpa using l.1
  rw[f.1,jV,hq];constructor
  .rintro(h|⟨t,u,h⟩);·rw[XD.2 h]at f;cases f.2
   exact Wh.step d b u h.1 h.2
  intro h;cases h with
  |here _ a=>rw[b]at a;cases a
  |@step _ t _ _ a o p=>exact aZ ⟨t,a,o,p⟩
 .have j:=i;rw[e]at j;refine⟨λ_=>Wh.here d i,λ_=>tf (λh=>?_) _ j⟩;obtain a|a:=dI _ _▸h;·rw[a];rfl
  rw[q a];simp
 have k:=c;rw[e]at k;rw[tu (f':=Cg (Id x[n].3) (m:I)||r) _ k];constructor;·intro h;cases h
 intro h;cases h with
 |here _ a=>rw[c]at a;cases a
 |step _ a _ _ _=>rw[c]at a;cases a
def VI(W:Wk)(q:N×Wc×Wc):Wk:=E2 (Js (Uo W q) (X9 q.2.2)) (X9 q.2.1)
def N9(m:N)(W:Wk)(q:N×Wc×Wc):List (N×Wk):=if q.1<=m then [(q.1,Uo W q)]else []
def TZ(m:N):(N->N)->List (N×List I×List I)->List (N×(N->N))
 |_,[]=>[]
 |W,q::l=>N9 m W q++TZ m (VI W q) l
theorem Ky(m:N)(q:N×Wc×Wc):∀(l:List (N×Wc×Wc))(W:Wk),TZ m W (l++[q])=TZ m W l++N9 m (l.foldl VI W) q
 |[],W=>by simp[TZ]
 |p::l,W=>by
  show N9 m W p++TZ m (VI W p) (l++[q])=(N9 m W p++TZ m (VI W p) l)++N9 m (l.foldl VI<|VI W p) q;rw[Ky m q l,cK]
theorem Fy(h:XA f)(q:N×Wc×Wc):XA (Uo f q)/\XA (VI f q):=by
 have a:XA (Uo f q):=Zs _ h;exact⟨a,Zs _<|JX _ a⟩
theorem Dk{l:List (N×Wc×Wc)}(h:XA f):XA (l.foldl VI f):=by
 induction l generalizing f with
 |nil=>exact h
 |cons q l a=>exact a (Fy h q).2
theorem qI(m:N):∀(l:List (N×Wc×Wc))(W:Wk),J (TZ m W l)<=J l
 |[],_=>aA
 |q::l,W=>by
  have:=qI m l<|VI W q;have h:J (N9 m W q)<=1:=by unfold N9;split<;>simp
  show J (N9 m W q++TZ m (VI W q) l)<=J l+1;rw[aQ];omega
structure Sd where
 i:N
 C:N
 W:Wk
def Sd.dat(p:Sd):N×Wk:=(p.i,p.W)
def rx(a z:N)(p:Sd):Zh:=#[Si S6 (p.i:I),Sa #[X (S ⟨z,0,U⟩) a p.C]]
def xn(a z:N)(p:Sd)(V:Ub):Prop:=Cp V z a p.C p.W/\XA p.W
structure PB(W:Ub)(n₁ l Bl Bx gl Kw C1 m:N)(ia:Uy)(ic:N)(W0:Wk)(J_:N->List Sd->Vy)(pre:List Pl)(V:Ub):Prop where
 js:∃ss:List Sd,ss.map Sd.dat=TZ m W0 (pre.map Pl.dat)/\J_ gl ss V
 y:E V ⟨Z W.1,0,U⟩=S (.func (.yield l) #[] #[])
 lv:E V ⟨Bl,0,U⟩=S (X (S ⟨gl,0,U⟩) Kw C1)
 ws:Cp V gl Kw C1 ((pre.map Pl.dat).foldl VI W0)
 bx:E V ⟨Bx,1,U⟩=S (X ia m ic)
 sz:n₁<=Z V.1
theorem PB.own{Bx:N}{F:N->List Sd->Vy}(t:∀C,OwnFrom (Z w.1)<|F C)(u:Z w.1<n)(x:k<n)(y:Bx<n)(v:B<n):OwnFrom n (PB w n m k Bx B g i j p c f F):=λL K V row h d q=>by
 have z:=h.6;have a:∀b,b<n->V.1[b]?=K.1[b]?:=λb M=>d.5 b O (λe=>by have:=(q b e.symm).1;omega);let⟨l,o,s⟩:=h.1;exact⟨⟨l,o,t B l K V row s d λr e=>⟨oN<|(q r e).1,(q r e).2⟩⟩,G (Xc<|a _ u) h.y,G (Xc<|a _ x) h.3,h.4.of_block<|a _ v,G (Xc<|a _ y) h.5,aJ z d.4⟩
structure OB(w w1 X_:Ub)(V:N)(a:Uy)(n c Kw:N)(xs:Wi)(m l:Zm)(q:Option (N×Wk×Vp)):Prop where
 low:Sw (Z w1.1) w1 X_
 f0:E w1 ⟨Z w.1,0,U⟩=S (Si S6 (V:I))
 f1:E w1 ⟨Z w.1,1,U⟩=S (X a n c)
 lt:Z w.1<Z w1.1
 mr:∀g,m=S g->X_.rowIs g 113 n (λ_=>X U 0 0)/\Z w1.1<=g
 lb:∀g,l=S g->X_.rowIs g 116 2 (λ_=>X U 0 0)/\Z w1.1<=g
 ca:∀r,q=S r->XK X_ r.1 n Kw r.2.1 (λ_=>Kw) r.2.2/\XQ r.2.2/\(∀b,b<n->∀v,Xh (r.2.2 b) v=So↔(b,v)∈Nr xs n)/\Z w1.1<=r.1/\∀i,i<n->Z w1.1<=r.2.1 i
 d1:∀g h,m=S g->l=S h->g≠h
 d2:∀g r,m=S g->q=S r->g≠r.1/\∀i,i<n->r.2.1 i≠g
 d3:∀g r,l=S g->q=S r->g≠r.1/\∀i,i<n->r.2.1 i≠g
theorem OB.next{b l:Zm}{q:Option (N×Wk×Vp)}(h:OB w v u n p m c k x b l q)(a:Sw (Z u.1) u W):OB w v W n p m c k x b l q :=
 ⟨Xg h.1 a,h.2,h.3,h.4,λg e=>⟨(h.5 g e).1.of_block (a.5 _ (h.5 g e).1.lt),(h.5 g e).2⟩,λg e=>⟨(h.6 g e).1.of_block (a.5 _ (h.6 g e).1.lt),(h.6 g e).2⟩,λr e=>⟨(h.7 r e).1.keep a,(h.7 r e).2⟩,h.8,h.9,h.d3⟩
theorem OB.mkS{l:Zm}{q:Option (N×Wk×Vp)}{K:Tf}{j:Act}(h:OB w v u n p m c k x U l q)(d:∀o,OB w v o n p m c k x (S (Z u.1)) l q->K j o):K j (D u<|.cells (madeCells #[X U 0 0] m) 113):=by
 have a:=h.next<|Xb (Below.refl _ u) (Sc (madeCells #[Hq] m) 113);have z:=h.1.4;refine d _ ⟨a.1,h.2,h.3,h.4,λg e=>?_,a.6,a.7,λg r e e2=>?_,λg r e e2=>?_,a.d3⟩;·cases e;exact⟨dG u _ m _,z⟩
 .cases e;have:=(h.6 r e2).1.lt;omega
 cases e;have:=(h.7 r e2).1.1.lt;exact⟨O,λi b=>by have:=((h.7 r e2).1.2 i b).lt;omega⟩
theorem OB.lbS{d:Zm}{q:Option (N×Wk×Vp)}{K:Tf}{j:Act}(h:OB w v u n p m c k x d U q)(f:∀l,OB w v l n p m c k x d (S (Z u.1)) q->K j l):K j (D u<|.cells #[X U 0 0,X U 0 0] 116):=by
 have a:=h.next<|Xb (Below.refl _ u) (Sc #[Hq,Hq] 116);have z:=h.1.4;refine f _ ⟨a.1,h.2,h.3,h.4,a.5,λg e=>?_,a.7,λg r e e2=>?_,a.9,λg r e e2=>?_⟩;·cases e;exact⟨eK u #[Hq,Hq] 116 (λ_=>Hq) (λi b=>by match i,b with|0,_=>rfl|1,_=>rfl),z⟩
 .cases e2;have:=(h.5 g e).1.lt;omega
 cases e;have:=(h.7 r e2).1.1.lt;exact⟨O,λi b=>by have:=((h.7 r e2).1.2 i b).lt;omega⟩
theorem OB.caS{av:Zh}{q o:Zm}(h:OB w v u m p k c B x q o U)(L:Sk R_ n av u λe t=>∃F a b,e=Rt (Hl F k k)/\Z u.1<=F/\Sw (Z u.1) u t/\XK t F k B a (λ_=>B) b/\(∀i,i<k->Z u.1<=a i)/\XQ b/\∀d,d<k->∀s,Xh (b d) s=So↔(d,s)∈Nr x k):
 Sk R_ n av u λe K=>∃F a b,e=Rt (Hl F k k)/\OB w v K m p k c B x q o (S (F,a,b)):=by
 refine L.mono ?_;rintro e K⟨F,a,b,rfl,y,d,P,l,T,C⟩;have j:=h.next d;have z:=h.1.4;refine⟨F,a,b,R,j.1,h.2,h.3,h.4,j.5,j.6,λr e=>?_,j.8,λg r e e2=>?_,λg r e e2=>?_⟩;·cases e;exact⟨P,T,C,aJ z y,λi f=>aJ z<|l i f⟩
 .cases e2;have:=(h.5 g e).1.lt;exact⟨by show g≠F;omega,λi f=>by have:=l i f;show a i≠g;omega⟩
 cases e2;have:=(h.6 g e).1.lt;exact⟨by show g≠F;omega,λi f=>by have:=l i f;show a i≠g;omega⟩
theorem OB.kp{a l:Zm}{q:Option (N×Wk×Vp)}(h:OB w v u n p m c k x a l q):E u (A (Z w.1) 0)=S (H n)/\E u (A (Z w.1) 1)=S (X p m c) :=
 ⟨oB h.1 h.2 h.4,oB h.1 h.3 h.4⟩
theorem OB.lbc{d:Zm}{q:Option (N×Wk×Vp)}(h:OB w v u n p m c k x d (S B) q):E u ⟨B,0,U⟩=S (X U 0 0)/\E u ⟨B,1,U⟩=S (X U 0 0)/\(∀o,u.frozen? ⟨B,o,U⟩=Sn)/\∀b,E (Se u ⟨B,0,U⟩ b) ⟨B,1,U⟩=S (X U 0 0):=by
 have r:=(h.6 B R).1;have a:=r.cell (i:=1) vY;exact⟨r.cell (i:=0) vY,a,r.frozen,λb=>G (cJ sP) a⟩
theorem OB.fin(h:OB w v u n p m c k x (S B) (S g) (S (i,f,M)))(q:Sw (Z w.1) w v)(a:Z v.1=Z w.1+2)(s:E v ⟨Z w.1+1,0,U⟩=S (X U 0 0))(t:E v ⟨Z w.1+1,1,U⟩=S (X U 0 0))(rz:∀r,v.frozen? ⟨Z w.1+1,r,U⟩=Sn):
 Pp w (Se (Se u ⟨g,0,U⟩ (X (S ⟨B,0,U⟩) m m)) ⟨g,1,U⟩ (X (S ⟨i,0,U⟩) m m)) n p m c k x B g i f M:=by
 let⟨y,z,o,e,j⟩:=h.7 _ R;have d2:=h.9 _ _ R R;have d3:=h.d3 _ _ R R;exact VR q a h.1 h.2 h.3 s t rz (h.5 B R).1 (h.6 g R).1 y z o (a▸(h.5 B R).2) (a▸(h.6 g R).2) (a▸e) (λd b=>a▸j d b) ⟨λl=>d3.1 l.symm,h.8 _ _ R R,d2.1,λd b=>⟨d2.2 d b,d3.2 d b⟩⟩
theorem K3{A_ B:Wa}(g:A_.Nodup)(h:∀x∈A_,x∈B):J A_<=J B:=by
 induction A_ generalizing B with
 |nil=>exact aN
 |cons a A_ i=>
  have b:=fL.1 g;have d:∀x∈A_,x∈B.erase a:=λx c=>(iF λe=>b.1<|by rw[<-e];exact c).2 (h x<|cN _ c);have f:=i b.2 d;have ha:=h a cI;rw[fP ha]at f;have:=eJ ha;simp only[bA];omega
theorem Cv(h:¬s.Nodup):∃a,a∈s/\a∈s.erase a:=by
 induction s with
 |nil=>exact Sz iU h
 |cons b s j=>
  by_cases d:b∈s;·exact⟨b,cI,by rw[List.erase_cons_head];exact d⟩
  have g:¬s.Nodup:=λc=>h<|fL.2 ⟨d,c⟩;let⟨a,e,c⟩:=j g;have i:¬b=a:=λf=>d (f▸e);refine⟨a,cN _ e,?_⟩;rw[List.erase_cons_tail<|by simpa using i];exact cN _ c
theorem D3(W:Wk)(p:N):(Mq W p).Nodup:=by
 unfold Mq;exact List.filter_sublist.nodup kS
theorem Eo(i:∀c,c<n->(Xh F c=So↔∃v∈s,f v=c))(k:∀v∈s,f v<n):J (Mq F n)<J s↔¬(s.map f).Nodup:=by
 have j:∀x,x∈Mq F n↔x∈s.map f:=λx=>by
  rw[om,aY];constructor;·rintro⟨a,b⟩;exact(i x a).1 b
  rintro⟨v,a,rfl⟩;exact⟨k v a,(i _<|k v a).2 ⟨v,a,R⟩⟩
 have o:J (s.map f)=J s:=sP;constructor
 .intro p d;have:=K3 d λx e=>(j x).2 e;omega
 intro d
 let⟨g,a,b⟩:=Cv d;have l:∀x∈Mq F n,x∈(s.map f).erase g:=λx e=>by
  by_cases h:x=g;·rw[h];exact b
  exact(iF h).2 ((j x).1 e)
 have m:=K3 (D3 F n) l;rw[fP a]at m;have:=eJ a;omega
def WC(P:Wc)(k:N)(c:N):Wa:=(Rg k).filter λb=>P.getD b 0==(c:I)
theorem vM:WC l (J l) c=Nj l c:=R
theorem Ea:J (WC l n c)<=n:=aJ (fJ _ _) sP
theorem Db(h:l.getD n 0=(m:I))(i:N):Xi (WC l (n+1) i)=if i=m then Xi (WC l n m)++[(n:I)]else Xi (WC l n i):=by
 unfold WC;rw[dN,eU,iW,jX,h];by_cases e:i=m
 .subst e;rw[aU sP,aU R];simp[Xi]
 rw[aM SB,aM e];simp[Xi]
theorem CI{P:Wc}(h:P.getD k 0<0)(i:N):WC P (k+1) i=WC P k i:=by
 unfold WC;rw[dN,eU,iW,jX,aM (by rw[iA];omega),fF]
theorem Y0:J (Xi s)=J s:=by simp[Xi]
theorem Au(c:N)(ha:Q (Xf w m k p l))(M:Q (n=J l))(hn:n<=1000)(hB:k<=Z w.1)(L:Q (∀o∈l,o<n)):
 Sk prog 176 #[X p n c] w λq x=>∃P W,q=Rt (X P n W)/\Sw (Z w.1) w x/\XR x (Z w.1) (Z x.1) P ((Rg n).map λi:N=>Xi<|Nj l i):=by
 obtain⟨X_,P_,T_,V_,W_⟩:=fX RH;have al:=fM (P:=prog) 123 35 Hq 24 underlying123 RG R S6 S6 n O O
 go_in
 go_wp2
 go_loopw [11] (λi wr=>∃a:N,a<=n/\i=H a/\Sw (Z w.1) w wr/\Q (∃K,YT wr (Z w.1) n (λi=>Xi<|WC l a i) K)) λi _=>n-(intOf i).toNat
 case atStart=>exact⟨0,aN,R,Xb Rf _,⟨_,YT.born w n⟩⟩
 obtain⟨a,hk,rfl,f,j⟩:=hrel;by_cases aj:a<n
 .have s:a<J l:=oN M.o;obtain⟨aa,aq,rfl,⟨_,ab⟩,C⟩:=ha a s;have ad:=G (XU f O) C;have ao:=L _<|aH s;have T:l.getD a 0=l[a]:=by simp[s]
  have z:=Y T;clear C T;generalize l[a]=o at*;by_cases Q_:0<=o
  .obtain⟨t,rfl⟩:=bX Q_;have e:t<n:=O;obtain⟨K,d⟩:=j.o;have N_:=d.1.cell e;have O_:=d.1.frozen t;have ap:J (Xi<|WC l a t)<=a:=Y0▸Ea;have b:=Y d;clear d j;go_wp2_with (at_builtin;refine bT _ R _ _ 35 R (Z w.1+1) 2 X_ (H 0) 1 8 underlying35 P_ T_ V_ W_ R vY _ _ _ R ((b.alloc _).2.1 t e) (A (Z wr.1) 0) 1 1 [H a] R R ?c1 ?c2 ?c3 ?c4 ?c5 ?_)
   case c1=>
    intro Y_ Z_ h
    match Y_,h with
    |0,h=>simp at h;subst h;simp[Addr.add]
   case c2=>intro Z_ V;simp at V;subst V;rfl
   case c3=>unfold maxLen;omega
   case c4=>omega
   case c5=>have:=b.1.lt;simp;omega
   intro v1 y u g _ B;obtain⟨av,cv,v,_⟩:=Xk (xs:=Xi (WC l a t)++[(a:I)]) (Yl▸u);have S_:=Y ((b.alloc<|.cells #[H a] 2).step e a v1 g u (by rw[aO];exact B));have r:y.1[Z w.1]?=(D wr<|.cells #[H a] 2).1[Z w.1]?:=YJ g ((b.alloc<|.cells #[H a] 2).2.1 t e) O (by have:=b.1.lt;simp;omega);have M_:=Y (Xy (Xb f<|.cells #[H a] 2) g ((b.alloc<|.cells #[H a] 2).2.1 t e) O (by have:=f.4;simp;omega));have ac:E y (A (Z w.1) t)=S (K t):=by rw[Xc r];exact((b.alloc<|.cells #[H a] 2).1).cell e
   have af:y.frozen? (A (Z w.1) t)=Sn:=by rw[bJ (w:=D wr<|.cells #[H a] 2) (a:=(A (Z w.1) t)) r];exact((b.alloc<|.cells #[H a] 2).1).frozen t
   have I_:=Y v;clear u g B r N_ O_;rw[v];clear v;go_wp2;have F:=I_.o;rw[aQ,bA,bO,aV]at F;rw[<-F];refine⟨⟨a+1,O,gM,M_.setCell SG _,⟨_,(S_).congr λi _=>?_⟩⟩,SA⟩;exact(Db z i).symm
  have R_:o<0:=O;have H_:=Y (λi=>CI (P:=l) (k:=a) (by rw[z.o];exact R_) i);go_wp2;refine⟨⟨a+1,O,gM,f,?_⟩,SA⟩;obtain⟨K,d⟩:=j.o;exact⟨K,d.congr λi _=>by rw[H_.o]⟩
 go_wp2;go_ret;obtain⟨K,d⟩:=j.o;have q:a=J l:=oN M.o;refine⟨_,_,R,f,?_⟩;have K_:=(d.congr (P':=λi:N=>Xi<|Nj l i) λi _=>by rw[q,vM]).ints;exact K_.mono O<|aA
structure Oc(w w':Ub)(v v':Uj):Prop where
 os:w'.4=w.4
 tape:w'.2=w.2
 output:w'.5=w.5
 size:Z w.1<=Z w'.1
 block:∀k,k<Z w.1->S k≠v.ownBlock->w'.1[k]?=w.1[k]?
 own:v'.ownBlock=v.ownBlock\/∀k,v'.ownBlock=S k->Z w.1<=k
theorem Oc.refl(w:Ub)(v:Uj):Oc w w v v:=⟨R,R,R,aA,λ_ _ _=>R,bC R⟩
theorem Oc.trans{v1 v2:Uj}(h:Oc w v a v1)(k:Oc v u v1 v2):Oc w u a v2:=by
 refine⟨G k.1 h.1,G k.2 h.2,G k.3 h.3,aJ h.4 k.4,λj d f=>?_,?_⟩
 .refine G (k.5 j (aX d h.4) λe=>?_) (h.5 j d f);obtain b|b:=h.6;·exact f<|by rw[e,b]
  have:=b j e.symm;omega
 obtain c|c:=k.6
 .rcases h.6 with b|b;·exact bC<|G c b
  exact aZ λj e=>b j (c▸e)
 exact aZ λj e=>aJ h.4<|c j e
theorem Oc.below(h:Oc w v a A_)(c:Sx w n m k a B y)(f:n<=Z w.1):Sw n w v:=⟨h.1,h.2,h.3,h.4,λb d=>h.5 b O λe=>by have:=(c.lt b e.symm).1;omega⟩
theorem Oc.push{d:Obj}(b:(D w d).grownBy v a.ownBlock)(h:A_.ownBlock=a.ownBlock\/A_.ownBlock=S (Z w.1+1)):Oc w v a A_:=by
 have j:Z (D w d).1=Z w.1+1:=aO _ _;have i:=b.4;refine⟨b.1,b.2,b.3,O,λk f g=>G (b.5 k O g) (Below.heap_alloc _ _ _ f),?_⟩;obtain e|e:=h;·exact bC e
 exact aZ λk c=>by rw[e]at c;injection c with c;omega
theorem Fo(a:∀k c,c∈Nj l k->f k<f c)(b:∀k,f k<=n)(h:n<=f k+m):XT l m k=k::(Nj l k).flatMap (XT l<|m-1):=by
 cases m with
 |zero=>
  have:Nj l k=[]:=by
   cases e:Nj l k with
   |nil=>rfl
   |cons c i=>
    have d:=a k c (e▸cI);have g:=b c;omega
  rw[this];rfl
 |succ m=>rfl
theorem AV(F:Uy)(cc:N)(L2:N)(hx:Q (n=J l))(hn:n<=1000)(x:m<=k)(i:Wk)(P:Q (∀b c,c∈Nj l b->i b<i c))(K:Q (∀b,i b<=n)):
 ∀(a b:N)(v:Uj)(L:Wa)(w:Ub),Q (XR w L2 m F ((Rg n).map λi_:N=>Xi<|Nj l i_))->Q (Sx w k 2 1 v (J L)<|Je L)->k<=Z w.1->b<n->Q (n<=i b+a)->J L+J (XT l a b)<=4000 ->
 Sk prog 175 #[v,X F n cc,H b] w λg w'=>∃A_,g=Rt A_/\Oc w w' v A_/\Sx w' k 2 1 A_ (J (L++XT l a b)) (Je<|L++XT l a b):=by
 let⟨i0,ap,ar,az,a0⟩:=Xq RH;intro a
 induction a using Nat.strongRecOn with
 |_ a ih=>
  intro b v L w C V hz hb M y;have IH:=Y ih;clear ih;obtain⟨bc,oc,rfl,a5,a1,c1,h,z⟩:=C b (by simpa using hb);simp only[cM,dW,Y0]at h z;have W:=Y<|Fo P K M;rw[W.o]at y |-;have ab:Q (∀c∈Nj l b,c<n/\n<=i c+(a-1)/\0<a):=Y (λc T=>by
   have O_:=P b c T;have h2:=K c;have h3:=(o8.1 T).1;have:=M.o;have:=hx.o;omega)
  have aq:J (Nj l b)<=n:=aJ Fi<|oN hx.o;have F_:=Y z;generalize Nj l b=d at*;let⟨q,hq⟩:∃q,q=J d:=⟨_,R⟩;rw[<-hq]at h aq;have J_:=Y hq;have a3:J L+1+J (d.flatMap<|XT l (a-1))<=4000:=by simp only[bA]at y;omega
  clear hq z W y
  go_in
  go_wp2_with (at_builtin;refine bT _ R _ _ 35 R k 2 i0 (H 0) 1 8 underlying35 ap ar az a0 R vY _ _ _ R (V.alloc _) (A (Z w.1) 0) 1 1 [H b] R R ?c1 ?c2 ?c3 ?c4 ?c5 ?_)
  case c1=>exact Yf _ _ _
  case c2=>intro u Z_;simp at Z_;subst Z_;rfl
  case c3=>unfold maxLen;omega
  case c4=>omega
  case c5=>simp;omega
  intro v8 w8 Y_ V_ _ S_;have s:=Y (Oc.push V_<|by simpa using S_);have I_:Q (Sx w8 k 2 1 v8 (J (L++[b])) (Je<|L++[b])):=Y (by rw[VP,aQ];exact Y_);have p:=Y<|s.below V hz;have a8:=s.4;have aj:=G (XU p O) h;have aa:=Y<|C.keep (p.mono x);have ad:=Y<|F_.keep (p.mono x);clear Y_ V_ S_ h F_;go_wp2
  go_loopw [0,18] (λvo u wr=>∃j:N,j<=q/\u=H j/\Q (Oc w8 wr v8 vo)/\Q (Sx wr k 2 1 vo (J (L++[b]++(d.take j).flatMap (XT l<|a-1))) (Je<|L++[b]++(d.take j).flatMap (XT l<|a-1)))) λ_ u _=>q-(intOf u).toNat
  case atStart=>exact⟨0,aN,R,Y<|Oc.refl _ _,Y<|by simpa using I_.o⟩
  obtain⟨j,hj,rfl,e,f⟩:=hrel;clear aj;have B:=Y<|e.below I_ O;by_cases a7:j<q
  .have o:j<J d:=oN J_.o;obtain⟨b5,o5,rfl,a4,e5⟩:=ad j (Y0▸o);have W_:(Xi d)[j]'(Y0▸o)=((d[j]:N):I):=by simp[Xi]
   rw[W_]at e5;have a2:=G (XU B O) e5;let⟨al,ao,hm⟩:=ab d[j] (aH o);have t:Q ((d.take<|j+1).flatMap (XT l<|a-1)=(d.take j).flatMap (XT l<|a-1)++XT l (a-1) d[j]):=Y (by rw[bN o,eZ];simp);have G_:Q (J (L++[b]++(d.take j).flatMap (XT l<|a-1))+J (XT l (a-1) d[j])<=4000):=Y (by
    have O_:J (d.flatMap<|XT l (a-1))=J ((d.take<|j+1).flatMap (XT l<|a-1))+J ((d.drop<|j+1).flatMap (XT l<|a-1)):=by
     rw[<-aQ,<-eZ,hH]
    rw[t.o,aQ]at O_;simp only[aQ,bA,bO];omega)
   have r:=Y<|IH.o (a-1) O d[j] u0 _ wr (Y<|aa.keep (B.mono x)) f (oN e.4) al (Y ao) G_;have E_:=Y (show(L++[b]++(d.take j).flatMap (XT l<|a-1))++XT l (a-1) d[j]=L++[b]++(d.take<|j+1).flatMap (XT l<|a-1) by rw[t.o];simp);rw[E_.o]at r;clear e5 W_ t G_ E_;generalize d[j]=cj at*;go_wp2_with fail
   refine r.mono ?_;rintro g w5⟨v5,rfl,U_,X_⟩;have ac:=Y<|e.trans U_;have af:=Y X_;clear U_ X_ r f;go_wp2;exact⟨⟨j+1,O,gM,ac,af⟩,SA⟩
  have a6:j=q:=O;have K_:Q (d.take j=d):=Y<|aW (oN J_.o);rw[K_.o]at f;clear K_;go_wp2;go_ret;refine⟨u0,R,s.trans e,?_⟩;have g:L++b::d.flatMap (XT l<|a-1)=L++[b]++d.flatMap (XT l<|a-1):=sP;rw[g];exact f
section
theorem QQ:(prog.info? 89).map (λi=>(i.8,i.3,i.4))=S (S<|.agg #[Hq],1,24):=vZ
structure OE(w6 wr:Ub)(F:N)(x2 x3:Uj)(U_ V:Vu)(b1:N)(p1:Uy)(c1 b2:N)(p2:Uy)(c2:N):Prop where
 e0:E wr ⟨F,0,U⟩=S (X p1 b1 c1)
 e1:E wr ⟨F,1,U⟩=S (X p2 b2 c2)
 e2:E wr ⟨F,2,U⟩=S x2
 e3:E wr ⟨F,3,U⟩=S x3
 thaw:∀q,wr.frozen? ⟨F,q,U⟩=Sn
 bel:Sw F w6 wr
 lt:F<Z wr.1
 le:F=Z w6.1
 o1:Sx wr (F+1) 89 1 (X p1 b1 c1) b1 ((Rg b1).map U_)
 o2:Sx wr (F+1) 4 1 (X p2 b2 c2) b2 ((Rg b2).map V)
 dj:(X p1 b1 c1).ownBlock=U\/(X p1 b1 c1).ownBlock≠(X p2 b2 c2).ownBlock
structure Ej(w:Ub)(B n:N)(U_:Vu)(Pr:Tj)(V:Ys)(P:Wc)(Od:Wa)(g1 c1 g2 c2 g3 g4 c4:N):Prop where
 len:J P=n
 o1:Sx w B 89 1 (X (S ⟨g1,0,U⟩) n c1) n ((Rg n).map U_)
 o2:Sx w B 4 1 (X (S ⟨g2,0,U⟩) n c2) n ((Rg n).map λz=>Sb (V z))
 o3:w.rowIs g3 2 n λz=>Si S6 (P.getD z 0)
 o4:Sx w B 2 1 (X (S ⟨g4,0,U⟩) (J Od) c4) (J Od) (Je Od)
 rows:∀i,i<n->Sx w B 2 1 (U_ i) (J (Pr i)) ((Pr i).map (Si S6))
 rdj:∀i j,i<n->j<n->i≠j->(U_ i).ownBlock=U\/(U_ i).ownBlock≠(U_ j).ownBlock
 gs:B<=g3/\g1≠g2/\g1≠g3/\g1≠g4/\g2≠g3/\g2≠g4/\g3≠g4
 o:∀i,i<n->∀k,(U_ i).ownBlock=S k->k≠g1/\k≠g2/\k≠g3/\k≠g4
theorem n9{w d:Ub}{B a t s n:N}{v:Uj}{b:Wo}(i:Sx w B t s v n b)(l:a<=B)(p:∀k,v.ownBlock=S k->d.1[k]?=w.1[k]?):Sx d a t s v n b:=by
 obtain⟨c,j|⟨g,f,h,e,m,o,q⟩⟩:=i;·exact⟨c,bC j⟩
 exact⟨c,aZ ⟨g,f,h,e,aJ l m,G (p g<|by rw[e];rfl) o,q⟩⟩
theorem xq{w:Ub}{R_ F t:N}{i:Vu}(l:w.rowIs R_ t 4 i)(m:R_≠F){x c d f g:Uj}{a:Ub}(e:a=Se (Se (Se (Se (Se w ⟨F,3,U⟩ x) ⟨R_,0,U⟩ c) ⟨R_,1,U⟩ d) ⟨R_,2,U⟩ f) ⟨R_,3,U⟩ g):
 E a ⟨R_,0,U⟩=S c/\E a ⟨R_,1,U⟩=S d/\E a ⟨R_,2,U⟩=S f/\E a ⟨R_,3,U⟩=S g/\(∀k,k≠F->k≠R_->a.1[k]?=w.1[k]?)/\Z a.1=Z w.1/\a.4=w.4/\a.2=w.2/\a.5=w.5:=by
 have h:=((((l.setOther (a:=(A F 3)) m x).set 0 c).set 1 d).set 2 f).set 3 g;rw[<-e]at h;refine⟨?_,?_,?_,?_,λk j b=>?_,?_,?_,?_,?_⟩;·rw[h.cell vY];simp
 .rw[h.cell vY];simp
 .rw[h.cell vY];simp
 .rw[h.cell vY];simp
 .rw[e,Below.heap_setCell _ _ _ _ b,Below.heap_setCell _ _ _ _ b,Below.heap_setCell _ _ _ _ b,Below.heap_setCell _ _ _ _ b,Below.heap_setCell _ _ _ _ j]
 .rw[e];simp[World.setCell]
 .rw[e];simp[World.setCell]
 .rw[e];simp[World.setCell]
 rw[e];simp[World.setCell]
section
variable {w6 wr wr': Ub} {F: N} {x2 x3: Uj} {U_ V: N -> Uj} {b1: N} {p1: Uy} {c1 b2: N} {p2: Uy} {c2: N}
theorem OE.below(h:OE w6 wr F x2 x3 U_ V b1 p1 c1 b2 p2 c2)(k:Sw (Z wr.1) wr wr'):OE w6 wr' F x2 x3 U_ V b1 p1 c1 b2 p2 c2:=by
 have c:=k.5 F h.7;have a:∀q,E wr' (A F q)=E wr (A F q):=λq=>bZ c
 have own:∀{t v n b},Sx wr (F+1) t 1 v n b->Sx wr' (F+1) t 1 v n b:=λ{t v n b} e=>by
  refine e.kept (row:=U) ⟨k.1,k.2,k.3,k.4,λj d _=>k.5 j d⟩ ?_;cases v.ownBlock with
  |none=>exact bC R
  |some j=>exact aZ sP
 exact⟨G (a 0) h.1,G (a 1) h.2,G (a 2) h.3,G (a 3) h.4,λq=>G (bJ c) (h.5 q),h.6.trans<|k.mono (dU h.7),aX h.7 k.4,h.8,own h.9,own h.o2,h.dj⟩
theorem tM{w:Ub}{B t s n:N}{v:Uj}{a:Wo}(h:Sx w B t s v n a){k:N}(b:Z w.1<=k):v.ownBlock=U\/v.ownBlock≠S k:=by
 by_cases e:v.ownBlock=S k;·have:=(h.lt k e).2;omega
 exact aZ e
theorem EQ{a b:Zm}(h:a=U\/a≠b):b=U\/b≠a:=by
 obtain h|h:=h
 .subst h;cases b with
  |none=>exact bC R
  |some k=>exact aZ sP
 exact aZ λe=>h e.symm
theorem ue{w:Ub}{B t s n:N}{v:Uj}{a:Wo}(h:Sx w B t s v n a):Sx w.drew B t s v n a:=h
theorem tJ{a:Type}(f:N->a){b}:(Rg<|b+1).map f=(Rg b).map f++[f b]:=by rw[dN,bG];rfl
theorem OE.app1{a:Ub}{g:Obj}{f:Uy}{c:N}(h:OE w6 wr F x2 x3 U_ V b1 p1 c1 b2 p2 c2)(b:(D wr g).grownBy a (X p1 b1 c1).ownBlock)(s:Sx a (F+1) 89 1 (X f (b1+1) c) (b1+1) ((Rg b1).map U_++[U_ b1]))(p:(X f (b1+1) c).ownBlock=(X p1 b1 c1).ownBlock\/(X f (b1+1) c).ownBlock=S (Z wr.1+1)):
 OE w6 (Se a ⟨F,0,U⟩ (X f (b1+1) c)) F x2 x3 U_ V (b1+1) f c b2 p2 c2/\(∀q,E a ⟨F,q,U⟩=E wr ⟨F,q,U⟩)/\(∀q,a.frozen? ⟨F,q,U⟩=Sn)/\Sw F wr a:=by
 have r:=h.7;have ha:∀k,k<Z wr.1->(D wr g).1[k]?=wr.1[k]?:=λk j=>Below.heap_alloc _ _ _ j;have u:Z (D wr g).1=Z wr.1+1:=aO _ _;have t:=b.4;have o:∀k,k<=F->S k≠(X p1 b1 c1).ownBlock:=λk j e=>by have:=(h.9.lt k e.symm).1;omega
 have m:=G (b.5 F O<|o _ aA) (ha _ r);have d:∀q,E a (A F q)=E wr (A F q):=λq=>bZ m;have l:=λq=>G (bJ m) (h.5 q);have n:Sw F wr a:=⟨b.1,b.2,b.3,O,λk j=>G (b.5 k O<|o k O) (ha k O)⟩;refine⟨⟨fQ _ _ _<|G (d 0) h.1,G (XL _ _ O _) (G (d 1) h.2),G (XL _ _ O _) (G (d 2) h.3),G (XL _ _ O _) (G (d 3) h.4),λq=>by rw[eX];exact l q,(h.6.trans n).setCell (p:=A F 0) aA _,SF,h.8,?_,?_,?_⟩,d,l,n⟩
 .rw[tJ];exact ownsRow_setCell_below s (by show F<F+1;omega) _
 .exact ownsRow_setCell_below ((h.o2.alloc g).kept b (EQ h.dj)) (by show F<F+1;omega) _
 obtain e|e:=p;·rw[e];exact h.dj
 obtain i|i:=tM h.o2 (k:=Z wr.1+1) O;·exact aZ<|by rw[e,i];simp
 exact aZ (e▸λk=>i k.symm)
theorem OE.app2{a:Ub}{g:Obj}{f:Uy}{c:N}(h:OE w6 wr F x2 x3 U_ V b1 p1 c1 b2 p2 c2)(b:(D wr g).grownBy a (X p2 b2 c2).ownBlock)(s:Sx a (F+1) 4 1 (X f (b2+1) c) (b2+1) ((Rg b2).map V++[V b2]))(p:(X f (b2+1) c).ownBlock=(X p2 b2 c2).ownBlock\/(X f (b2+1) c).ownBlock=S (Z wr.1+1)):
 OE w6 (Se a ⟨F,1,U⟩ (X f (b2+1) c)) F x2 x3 U_ V b1 p1 c1 (b2+1) f c/\(∀q,E a ⟨F,q,U⟩=E wr ⟨F,q,U⟩)/\(∀q,a.frozen? ⟨F,q,U⟩=Sn)/\Sw F wr a:=by
 have r:=h.7;have ha:∀k,k<Z wr.1->(D wr g).1[k]?=wr.1[k]?:=λk j=>Below.heap_alloc _ _ _ j;have u:Z (D wr g).1=Z wr.1+1:=aO _ _;have t:=b.4;have o:∀k,k<=F->S k≠(X p2 b2 c2).ownBlock:=λk j e=>by have:=(h.o2.lt k e.symm).1;omega
 have m:=G (b.5 F O<|o _ aA) (ha _ r);have d:∀q,E a (A F q)=E wr (A F q):=λq=>bZ m;have l:=λq=>G (bJ m) (h.5 q);have n:Sw F wr a:=⟨b.1,b.2,b.3,O,λk j=>G (b.5 k O<|o k O) (ha k O)⟩;refine⟨⟨G (XL _ _ O _) (G (d 0) h.1),fQ _ _ _<|G (d 1) h.2,G (XL _ _ O _) (G (d 2) h.3),G (XL _ _ O _) (G (d 3) h.4),λq=>by rw[eX];exact l q,(h.6.trans n).setCell (p:=A F 1) aA _,SF,h.8,?_,?_,?_⟩,d,l,n⟩;·exact ownsRow_setCell_below ((h.9.alloc g).kept b h.dj) (by show F<F+1;omega) _
 .rw[tJ];exact ownsRow_setCell_below s (by show F<F+1;omega) _
 obtain e|e:=p;·rw[e];exact h.dj
 obtain i|i:=tM h.9 (k:=Z wr.1+1) O;·exact bC i
 exact aZ (e▸i)
end
end
section
def Ak(v1 v2:Uj)(k:N):Prop:=v1.ownBlock=S k\/v2.ownBlock=S k
def Pi(wr:Ub)(d F:N)(U_:Vu)(Pr:Tj)(l:Vv):Prop:=∀i,i<d->∃b a c e,U_ i=X c (J (Pr i)) e/\F<b/\a<=Z wr.1/\Xf wr b a c (Pr i)/\∀k,l k->¬(b<=k/\k<a)
theorem Pi.keep{wr wr':Ub}{b F:N}{U_:Vu}{Pr:Tj}{x a:Vv}(h:Pi wr b F U_ Pr x)(s:Z wr.1<=Z wr'.1)(m:∀k,k<Z wr.1->F<k->¬x k->wr'.1[k]?=wr.1[k]?)(l:∀k,a k->x k\/Z wr.1<=k):Pi wr' b F U_ Pr a:=λt n=>by
 let⟨w,o,d,e,f,g,i,j,c⟩:=h t n;refine⟨w,o,d,e,f,g,aJ i s,j.keepS λk u v=>m k O O λq=>c k q ⟨u,v⟩,λk p q=>?_⟩;obtain r|r:=l k p;·exact c k r q
 omega
structure Oa(w1 w2 wr:Ub)(U_ V:Vu)(Pr:Tj)(bp b1:N)(p1:Uy)(c1 b2:N)(p2:Uy)(c2:N):Prop where
 fl:OE w1 wr (Z w1.1) (X U 0 0) (X U 0 0) U_ V b1 p1 c1 b2 p2 c2
 pr:Pi wr bp (Z w1.1) U_ Pr (Ak (X p1 b1 c1) (X p2 b2 c2))
 sa:YA (Z w1.1+1) (Z w2.1) w2 wr
 hk:∀k,Ak (X p1 b1 c1) (X p2 b2 c2) k->Z w2.1<=k
 sz:Z w2.1<=Z wr.1
section
variable {w1 w2 wr wr': Ub} {U_ V: N -> Uj} {Pr: N -> Wc} {bp b1: N} {p1: Uy} {c1 b2: N} {p2: Uy} {c2: N}
theorem OE.ak{b c:Uj}{F:N}(h:OE w1 wr F b c U_ V b1 p1 c1 b2 p2 c2){k:N}(a:Ak (X p1 b1 c1) (X p2 b2 c2) k):F<k/\k<Z wr.1:=by
 obtain e|e:=a;·have:=h.9.lt k e;omega
 have:=h.o2.lt k e;omega
theorem Oa.below(h:Oa w1 w2 wr U_ V Pr bp b1 p1 c1 b2 p2 c2)(k:Sw (Z wr.1) wr wr'):Oa w1 w2 wr' U_ V Pr bp b1 p1 c1 b2 p2 c2:=by
 have:=h.5;exact⟨h.1.below k,h.2.keep k.4 (λq a _ _=>k.5 q a) λ_ b=>bC b,λq q1 q2=>G (k.5 q O) (h.3 q q1 q2),h.4,aJ h.5 k.4⟩
theorem OE.congrU{b:Ub}{c d:Uj}{F:N}{a:Vu}(h:OE b wr F c d U_ V b1 p1 c1 b2 p2 c2)(e:∀i,i<b1->a i=U_ i):OE b wr F c d a V b1 p1 c1 b2 p2 c2:=by
 refine⟨h.1,h.2,h.3,h.4,h.5,h.6,h.7,h.8,?_,h.o2,h.dj⟩;have:(Rg b1).map a=(Rg b1).map U_:=gH λi f=>e i<|bE.1 f;rw[this];exact h.9
theorem Oa.newU{u:Uj}{b:Uy}{uc:N}(h:Oa w1 w2 wr U_ V Pr b1 b1 p1 c1 b2 p2 c2)(k:Sw (Z wr.1) wr wr')(m:u=X b (J (Pr b1)) uc)(c:Xf wr' (Z wr.1) (Z wr'.1) b (Pr b1)):Oa w1 w2 wr' (λi=>if i=b1 then u else U_ i) V Pr (b1+1) b1 p1 c1 b2 p2 c2:=by
 have a:=h.below k;have l:=h.1.7;refine⟨a.1.congrU λi c=>aM O,λi o=>?_,a.3,a.4,a.5⟩;by_cases e:i=b1
 .subst e;refine⟨Z wr.1,Z wr'.1,b,uc,(aU R)▸m,l,aA,c,λk j q=>?_⟩;have:=(h.1.ak j).2;omega
 let⟨n,g,d,f,q1,q2⟩:=a.2 i O;exact⟨n,g,d,f,(aM e)▸q1,q2⟩
theorem zMA00{p: Prop}(h: p := by
  refine⟨⟨m,h.2.keep SF j g,λq q1 q2=>(j q O O λe=>by have:=h.4 q e;omega).trans (h.3 q q1 q2),λk f=>?_,SF⟩,n,o,p⟩;obtain e|e:=g k f;·exact h.4 k e
  omega): p := h
theorem Oa.app1{c:Ub}{l:Obj}{b:Uy}{a:N}(h:Oa w1 w2 wr U_ V Pr bp b1 p1 c1 b2 p2 c2)(d:(D wr l).grownBy c (X p1 b1 c1).ownBlock)(r:Sx c (Z w1.1+1) 89 1 (X b (b1+1) a) (b1+1) ((Rg b1).map U_++[U_ b1]))(i:(X b (b1+1) a).ownBlock=(X p1 b1 c1).ownBlock\/(X b (b1+1) a).ownBlock=S (Z wr.1+1)):
 Oa w1 w2 (Se c ⟨Z w1.1,0,U⟩ (X b (b1+1) a)) U_ V Pr bp (b1+1) b a b2 p2 c2/\(∀q,E c ⟨Z w1.1,q,U⟩=E wr ⟨Z w1.1,q,U⟩)/\(∀q,c.frozen? ⟨Z w1.1,q,U⟩=Sn)/\Sw (Z w1.1) wr c:=by
 let⟨m,n,o,p⟩:=h.1.app1 d r i;have u:=h.5;have t:=d.4;have s:Z (D wr l).1=Z wr.1+1:=aO _ _;have j:∀k,k<Z wr.1->Z w1.1<k->¬Ak (X p1 b1 c1) (X p2 b2 c2) k->(Se c (A (Z w1.1) 0) (X b (b1+1) a)).1[k]?=wr.1[k]?:=λk q1 q2 q3=>G (Below.heap_setCell _ _ _ _<|by dsimp only;omega) (G (d.5 k O λe=>q3<|bC e.symm) (Below.heap_alloc _ _ _ q1))
 have g:∀k,Ak (X b (b1+1) a) (X p2 b2 c2) k->Ak (X p1 b1 c1) (X p2 b2 c2) k\/Z wr.1<=k:=λk f=>by
  obtain e|e:=f
  .rcases i with q|q;·exact bC<|bC (q▸e)
   rw[q]at e;have:=gQ e;omega
  exact bC<|aZ e
 exact zMA00
theorem Oa.app2{c:Ub}{l:Obj}{b:Uy}{a:N}(h:Oa w1 w2 wr U_ V Pr bp b1 p1 c1 b2 p2 c2)(d:(D wr l).grownBy c (X p2 b2 c2).ownBlock)(r:Sx c (Z w1.1+1) 4 1 (X b (b2+1) a) (b2+1) ((Rg b2).map V++[V b2]))(i:(X b (b2+1) a).ownBlock=(X p2 b2 c2).ownBlock\/(X b (b2+1) a).ownBlock=S (Z wr.1+1)):
 Oa w1 w2 (Se c ⟨Z w1.1,1,U⟩ (X b (b2+1) a)) U_ V Pr bp b1 p1 c1 (b2+1) b a/\(∀q,E c ⟨Z w1.1,q,U⟩=E wr ⟨Z w1.1,q,U⟩)/\(∀q,c.frozen? ⟨Z w1.1,q,U⟩=Sn)/\Sw (Z w1.1) wr c:=by
 let⟨m,n,o,p⟩:=h.1.app2 d r i;have u:=h.5;have t:=d.4;have s:Z (D wr l).1=Z wr.1+1:=aO _ _;have j:∀k,k<Z wr.1->Z w1.1<k->¬Ak (X p1 b1 c1) (X p2 b2 c2) k->(Se c (A (Z w1.1) 1) (X b (b2+1) a)).1[k]?=wr.1[k]?:=λk q1 q2 q3=>G (Below.heap_setCell _ _ _ _<|by dsimp only;omega) (G (d.5 k O λe=>q3<|aZ e.symm) (Below.heap_alloc _ _ _ q1))
 have g:∀k,Ak (X p1 b1 c1) (X b (b2+1) a) k->Ak (X p1 b1 c1) (X p2 b2 c2) k\/Z wr.1<=k:=λk f=>by
  obtain e|e:=f;·exact bC<|bC e
  obtain q|q:=i;·exact bC<|aZ (q▸e)
  rw[q]at e;have:=gQ e;omega
 exact zMA00
end
def ML(w:Ub)(L B:N)(c:Uy)(a:List Bool):Prop :=
 ∀i (h:i<J a),∃b o,c=S ⟨b,o,U⟩/\(L<=b/\b<B)/\E w ⟨b,o+i,U⟩=S (Sb a[i])
structure MX(w:Ub)(L B:N)(Pr:Tm)(Rc:List Bool)(P Od:Wc)(a1 a2 a3 a4:Uy):Prop where
 p:XR w L B a1 Pr
 r:ML w L B a2 Rc
 i:Xf w L B a3 P
 o:Xf w L B a4 Od
def Pq(a:Wi):Tm:=(Rg (J a)).map λi:N=>AQ a 0 (i:I)
def Pe(a:Wi):List Bool:=(Rg (J a)).map λz=>Xh (Zp a).1 z
theorem UF.ex{a:Wi}(h:UF a):∀b,b<J a->(∃d,O6 (X8 a) d b)\/∀c,JO (X8 a) c b->c=b:=λb e=>by
 classical
 have f:∀b,b<J a->∀x,x<J a->(Xh (E2 (λ_=>0) ((Rg (J a)).filter λx=>decide (Av (X8 a) x b))) x=So↔Av (X8 a) x b):=λb _ x g=>by
  rw[YR,Z3,jU,bD,fG,bE,bD];exact⟨λq=>q.2,λq=>⟨g,q⟩⟩
 have:=UR h.top.2.2.1 h.top.1 h.re h.top.2.2.2 (Ws:=λb=>E2 (λ_=>0) ((Rg (J a)).filter λx=>decide (Av (X8 a) x b))) f;obtain⟨d,ha,_⟩|⟨q,_⟩:=this.2 b e;·exact bC ⟨d,ha⟩
 exact aZ q
theorem UF.model{a:Wi}(h:UF a):YX (X8 a) (J a) ((Rg (J a)).map (L0<|(Rg (J a)).map (Zq (X8 a) (J a)))):=Wf h.re h.ex
end
section
structure HK(w:Ub)(g K C:N)(W:Ym):Prop where
 le:K<=C
 ex:∃T:Vu,w.rowIs g 2 C λi=>if i<K then Si S6 (W i)else T i
namespace HK
variable {w: Ub} {g K C: N} {W W': N -> I}
theorem lt(h:HK w g K C W):g<Z w.1:=by
 let⟨_,T,h⟩:=h;exact h.lt
theorem cell(h:HK w g K C W){i:N}(a:i<K):E w (A g i)=S (H<|W i):=by
 let⟨b,T,h⟩:=h;have:=h.cell (i:=i) O;rwa[aU a]at this
theorem frozen(h:HK w g K C W)(i:N):w.frozen? (A g i)=Sn:=by
 let⟨_,T,h⟩:=h;exact h.frozen i
theorem congr(h:HK w g K C W)(e:∀i,i<K->W i=W' i):HK w g K C W':=by
 let⟨b,T,h⟩:=h;refine⟨b,T,h.congr λi _=>?_⟩;by_cases a:i<K;·rw[aU a,aU a,e i a]
 rw[aM a,aM a]
theorem of_block{a:Ub}(h:HK w g K C W)(e:a.1[g]?=w.1[g]?):HK a g K C W:=by
 let⟨b,T,h⟩:=h;exact⟨b,T,h.of_block e⟩
theorem set(h:HK w g K C W)(i:N)(v:I)(b:i<K):HK (Se w ⟨g,i,U⟩ (Si S6 v)) g K C (λj=>if j=i then v else W j):=by
 let⟨a,T,h⟩:=h;refine⟨a,T,(h.set i _).congr λj _=>?_⟩;by_cases e:j=i;·rw[aU e,aU O,aU e]
 rw[aM e,aM e]
theorem setOther(h:HK w g K C W){a:Addr}(ha:g≠a.1)(v:Uj):HK (Se w a v) g K C W:=by
 let⟨b,T,h⟩:=h;exact⟨b,T,h.setOther ha v⟩
theorem alloc(h:HK w g K C W)(o:Obj):HK (D w o) g K C W:=by
 let⟨a,T,h⟩:=h;exact⟨a,T,h.alloc o⟩
theorem of_row(h:w.rowIs g 2 K λi=>H<|W i):HK w g K K W :=
 ⟨aA,λ_=>H 0,h.congr λi a=>by rw[aU a]⟩
theorem of_own{c:N}{v:Uj}{a:Wc}(h:Sx w c 2 1 v (J a) (a.map<|Value.int S6))(p:v≠X U 0 0):∃g C,v=X (S ⟨g,0,U⟩) (J a) C/\c<=g/\HK w g (J a) C (λi=>a.getD i 0):=by
 obtain⟨o,h|⟨g,k,b,rfl,m,n,l,_,f,j⟩⟩:=h;·exact Sz h.1 p
 simp only[iN]at o f j;refine⟨g,k,R,m,l,λi=>b[i]?.getD (H 0),b,n,f,λi q=>?_⟩;show b[i]?=S (if i<J a then H (a.getD i 0)else b[i]?.getD (H 0));by_cases e:i<J a
 .rw[aU e];have d:(b.1.take (J a))[i]?=S (H a[i]):=by rw[j];simp[e]
  rw[fH e]at d;have e2:a.getD i 0=a[i]:=by simp[e]
  rw[e2];simpa using d
 rw[aM e];have:i<Z b:=O;simp[this]
end HK
end
section
def ZN(w:Ub)(b n:N)(P:Tj)(a:Vu):Prop :=
 w.rowIs b 89 n a/\(∀i,i<n->Sx w (b+1) 2 1 (a i) (J (P i)) ((P i).map (Si S6)))/\(∀i j,i<n->j<n->i≠j->(a i).ownBlock=U\/(a i).ownBlock≠(a j).ownBlock)
theorem ZN.alloc{w:Ub}{b n:N}{P:Tj}{c:Vu}(h:ZN w b n P c)(o:Obj):ZN (D w o) b n P c:=⟨h.1.alloc o,λi a=>(h.2.1 i a).alloc o,h.2.2⟩
theorem ZN.below{w a:Ub}{f n:N}{P:Tj}{e:Vu}(h:ZN w f n P e)(k:Sw (Z w.1) w a):ZN a f n P e:=by
 refine⟨h.1.of_block<|k.5 _ h.1.lt,λi d=>?_,h.2.2⟩;refine(h.2.1 i d).kept (row:=U) ⟨k.1,k.2,k.3,k.4,λb c _=>k.5 b c⟩ ?_;cases (e i).ownBlock<;>simp
theorem ZN.congr{w:Ub}{b n:N}{P P':Tj}{c:Vu}(h:ZN w b n P c)(e:∀i,i<n->P i=P' i):ZN w b n P' c :=
 ⟨h.1,λi a=>(e i a)▸h.2.1 i a,h.2.2⟩
theorem ZN.step{w k:Ub}{y n:N}{P:Tj}{v:Vu}(h:ZN w y n P v){t:N}(p:t<n)(x:I)(b:Uj)(o:w.grownBy k (v t).ownBlock)(s:Sx k (y+1) 2 1 b (J (P t)+1) ((P t).map (Si S6)++[Si S6 x]))(l:b.ownBlock=(v t).ownBlock\/b.ownBlock=S (Z w.1)):
 ZN (Se k ⟨y,t,U⟩ b) y n (λi=>if i=t then P t++[x]else P i) (λi=>if i=t then b else v i):=by
 have u:=h.1.of_block (o.5 _ h.1.lt λe=>by have:=((h.2.1 t p).lt _ e.symm).1;omega);refine⟨u.set t b,λi a=>?_,λi j a d c=>?_⟩
 .refine ownsRow_setCell_below ?_ SG _;by_cases e:i=t
  .subst e;simp only[gG,aQ,bA,bO,bG,eH,fZ];exact s
  simp only[e,fD];exact(h.2.1 i a).kept o (h.2.2 i t a p e)
 have fresh:∀m,m<n->(v m).ownBlock=U\/(v m).ownBlock≠S (Z w.1):=λm r=>by
  by_cases e:(v m).ownBlock=S (Z w.1);·have:=((h.2.1 m r).lt _ e).2;omega
  exact aZ e
 by_cases e1:i=t
 .subst e1;have e2:¬j=i:=λe=>c e.symm;simp only[gG,e2,fD];obtain q|q:=l;·rw[q];exact h.2.2 i j a d c
  right
  rw[q];intro g;obtain f|f:=fresh j d;·rw[f]at g;cases g
  exact f g.symm
 simp only[e1,fD];by_cases e2:j=t
 .subst e2;simp only[gG];obtain q|q:=l;·rw[q];exact h.2.2 i j a d c
  rw[q];exact fresh i a
 simp only[e2,fD];exact h.2.2 i j a d c
theorem ZN.ints{w:Ub}{e n:N}{P:Tj}{f:Vu}(h:ZN w e n P f):XR w e (Z w.1) (S ⟨e,0,U⟩) ((Rg n).map P):=λi a=>by
 simp only[bK,gI]at a;let⟨b,c,d,ha⟩:=Xk<|h.2.1 i a;refine⟨e,0,R,⟨aA,h.1.lt⟩,b,c,?_,?_⟩
 .simp only[cM,dW,aV];rw[h.1.cell a,d]
 simp only[cM,dW];exact ha.mono O<|aA
theorem ZN.born(w:Ub)(n:N):ZN (D w<|.cells (madeCells #[X U 0 0] n) 89) (Z w.1) n (λ_=>[]) (λ_=>X U 0 0) :=
 ⟨dG _ _ _ _,λ_ _=>dA,λ_ _ _ _ _=>bC R⟩
variable {tg: N -> Wa}
open Classical in
noncomputable def UN(tg:Yr)(k b:N):Wc:=Xi<|(Rg k).filter λa=>decide (JO tg a b)
open Classical in
theorem tN{k b:N}:UN tg (k+1) b=UN tg k b++(if JO tg k b then [(k:I)]else []):=by
 unfold UN;rw[dN,eU,iW,jX];by_cases h:JO tg k b;·rw[aU SI,aU h];simp[Xi]
 rw[aM SI,aM h];simp[Xi]
theorem DZ(k b:N):J (UN tg k b)<=k:=by
 unfold UN;rw[Y0];exact aJ (fJ _ _) sP
theorem Cx{k:N}(h:¬Re tg k)(b:N):UN tg (k+1) b=UN tg k b:=by
 rw[tN,aM λd=>h d.1,fF]
noncomputable def Zy(tg:Yr)(F a:Wa)(k i b:N):Wc:=UN tg k b++(if b∈F.take i/\b∉a then [(k:I)]else [])
theorem BG(F a:Wa)(k b:N):Zy tg F a k 0 b=UN tg k b:=by
 unfold Zy;rw[aM sP,fF]
theorem Ca(F a:Wa)(k i b:N):J (Zy tg F a k i b)<=k+1:=by
 unfold Zy;have:=DZ (tg:=tg) k b;rw[aQ];split<;>simp<;>omega
theorem Kx{F:Wa}{i b:N}(a:i<J F):b∈F.take (i+1)↔b∈F.take i\/b=F[i]:=by
 rw[bN a,bU,cS]
theorem DN{F a:Wa}{k i:N}(c:i<J F)(h:F[i]∈a)(b:N):Zy tg F a k (i+1) b=Zy tg F a k i b:=by
 unfold Zy;by_cases e:b=F[i];·rw[aM λq=>q.2 (e▸h),aM λq=>q.2 (e▸h)]
 by_cases q:b∈F.take i/\b∉a;·rw[aU ⟨(Kx c).2 (bC q.1),q.2⟩,aU q]
 rw[aM λr=>q ⟨((Kx c).1 r.1).resolve_right e,r.2⟩,aM q]
theorem CD{F a:Wa}{k i:N}(d:F.Nodup)(c:i<J F)(h:F[i]∉a)(b:N):Zy tg F a k (i+1) b=if b=F[i]then Zy tg F a k i F[i]++[(k:I)]else Zy tg F a k i b:=by
 have g:F[i]∉F.take i:=λq=>by
  have e:=(hH i F).symm;have f:F[i]∈F.drop i:=(gZ c)▸cI;rw[e,gW]at d;exact d.2.2 _ q _ f R
 by_cases e:b=F[i]
 .rw[aU e,e];unfold Zy;rw[aU ⟨(Kx c).2 (aZ R),h⟩,aM λq=>g q.1,fF]
 rw[aM e];unfold Zy;by_cases q:b∈F.take i/\b∉a;·rw[aU ⟨(Kx c).2 (bC q.1),q.2⟩,aU q]
 rw[aM λr=>q ⟨((Kx c).1 r.1).resolve_right e,r.2⟩,aM q]
theorem Bt{F a:Wa}{k:N}(hF:∀x,x∈F↔Re tg x)(c:∀x,x∈a↔Av tg k x)(e:Re tg k){i:N}(d:J F<=i)(b:N):Zy tg F a k i b=UN tg (k+1) b:=by
 rw[tN];unfold Zy;rw[aW d];by_cases h:JO tg k b;·rw[aU ⟨(hF b).2 h.2,λq=>h.3<|(c b).1 q⟩,aU h]
 rw[aM λq=>h ⟨e,(hF b).1 q.1,λr=>q.2<|(c b).2 r⟩,aM h]
end
end Go.Proofs.YtnggdhnpjfigjaaGreatDoor
