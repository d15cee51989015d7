import Derived.Test.YthgmkangeikilaaGreatDoorRA1
import Derived.Test.YthgmkangeikilaaGreatDoorW5b
namespace Go.Proofs.YthgmkangeikilaaGreatDoor
set_option maxHeartbeats 8000000
set_option maxRecDepth 100000
open _root_ renaming List.length->J,Nat->N,Int->I,rfl->R,Bool.true->So,Bool.false->Sn,Decidable.decide->Jd,Array.size->Z,Option.some->S,Option.none->U,List.range->Rg,trivial->JV,absurd->Sz
open Go renaming World.cell?->E,IntKind.i64->S6,World.alloc->D,World.setCell->Se,Obj.cells->Sc,Ending.returned->Rt,RowKit.Below->Sw,Calls->Sk,undef->Su,World.ownsRow->Sx,RowKit.intOf->JB,results->JC
open Value renaming slice->X,int->Si,agg->Sa,tuple->St,bool->Sb
open Go.RowKit Go.Shelf Go.Proofs.Tryz
variable{r:Bool}{t T z:I}{n m k B g i j c:N}{w v u W:Ub}{a A_:Uj}{p P:Uy}{M:Vp}{s:Wa}{l L:Wc}{x:Wi}{f F:Wk}{q:Xe}{R_:Yh}
def JT(x:Xe)(v:N)(q:Bool)(j:N):Bool:=Jd (Ya (v:I) (Cg (Id x.3) (v:I)||q) (x.2.drop j)=1)
theorem WT(v a)(b:J q.2<=n):JT q v a n=(Cg (Id q.3) (v:I)||a):=by unfold JT;rw[mP b];unfold Ya;cases (Cg (Id q.3) (v:I)||a)<;>simp
theorem qe(v a)(c:n<J q.2):JT q v a n=(Cg (Iw q.2[n]) (v:I)||(JT q v a (n+1)&&! Jd (H7 q.2[n]=(v:I)))):=by
 unfold JT;rw[gZ c];generalize q.2.drop (n+1)=d;show Jd ((if Cg (Iw q.2[n]) (v:I)then 1 else if H7 q.2[n]=(v:I)then 2 else Ya v _ d)=1)=_;by_cases e1:Cg (Iw q.2[n]) v=So;·rw[aU e1,e1];simp
 rw[aM e1];have b:Cg (Iw q.2[n]) v=Sn:=by simpa using e1
 rw[b];by_cases e2:H7 q.2[n]=(v:I);·rw[aU e2];simp[e2]
 rw[aM e2];simp[e2]
def Ox(a:List Xe)(x:Xe)(b i v:N)(q:Bool):Bool:=match i with
 |0=>JT x v q 0||Yo a b v
 |j+1=>JT x v q (j+1)||(match x.2[j]? with
  |none=>Sn
  |some y=>Jd (H7 y=(v:I)))
theorem tf{v f d}(h:f=So->d=So):∀(a:Vr),Ya v f a=1->Ya v d a=1
 |[],b=>by
  unfold Ya at b |-;cases hf:f with
  |true=>rw[h hf];rfl
  |false=>rw[hf]at b;cases b
 |y::a,b=>by
  show(if Cg (Iw y) v then 1 else if H7 y=v then 2 else Ya v d a)=1;have c:(if Cg (Iw y) v then 1 else if H7 y=v then 2 else Ya v f a)=1:=b;by_cases e1:Cg (Iw y) v=So;·rw[aU e1]
  rw[aM e1]at c |-;by_cases e2:H7 y=v;·rw[aU e2]at c;cases c
  rw[aM e2]at c |-;exact tf h a c
theorem tu{v f f'}:∀(a:Vr),Ya v f a=2->Ya v f' a=2
 |[],c=>by unfold Ya at c;cases f<;>cases c
 |y::a,c=>by
  show(if Cg (Iw y) v then 1 else if H7 y=v then 2 else Ya v f' a)=2;have b:(if Cg (Iw y) v then 1 else if H7 y=v then 2 else Ya v f a)=2:=c;by_cases e1:Cg (Iw y) v=So;·rw[aU e1]at b;cases b
  rw[aM e1]at b |-;by_cases e2:H7 y=v;·rw[aU e2]
  rw[aM e2]at b |-;exact tu a b
theorem tS{v f f'}:∀(b:Vr),Ya v f b=0->f=Sn/\(Ya v f' b=1↔f'=So)
 |[],c=>by
  unfold Ya at c |-;cases f;·exact⟨R,by cases f'<;>simp⟩
  cases c
 |y::b,c=>by
  have a:(if Cg (Iw y) v then 1 else if H7 y=v then 2 else Ya v f b)=0:=c;by_cases e1:Cg (Iw y) v=So;·rw[aU e1]at a;cases a
  rw[aM e1]at a;by_cases e2:H7 y=v;·rw[aU e2]at a;cases a
  rw[aM e2]at a;have d:=tS (f':=f') b a;refine⟨d.1,?_⟩;show(if Cg (Iw y) v then 1 else if H7 y=v then 2 else Ya v f' b)=1↔_;rw[aM e1,aM e2];exact d.2
theorem vk(d:n<J x)(hq:r=So↔UV x m n):JT x[n] m r 0=So↔Wh x m n:=by
 unfold JT;rw[zC,bD];have e:C7 x n m=Ya m (Cg (Id x[n].3) (m:I)||Cg (XP x n) m) x[n].2:=by unfold C7 NA;rw[aC d]
 have v:=qD x n m;have q:=λh=>hq.2<|bC (XD.1 h);have s:C7 x n m=0\/C7 x n m=1\/C7 x n m=2:=O;obtain b|i|c:=s
 .have g:=b;rw[e]at g;have l:=tS (f':=Cg (Id x[n].3) (m:I)||r) x[n].2 g;rw[l.2];have f:Cg (Id x[n].3) m=Sn/\Cg (XP x n) m=Sn:=by simpa using l.1
  rw[f.1,jV,hq];constructor
  .rintro(h|⟨t,u,h⟩);·rw[XD.2 h]at f;cases f.2
   exact Wh.step d b u h.1 h.2
  intro h;cases h with
  |here _ a=>rw[b]at a;cases a
  |@step _ t _ _ a o p=>exact aZ ⟨t,a,o,p⟩
 .have j:=i;rw[e]at j;refine⟨λ_=>Wh.here d i,λ_=>tf (λh=>?_) _ j⟩;obtain a|a:=dI _ _▸h;·rw[a];rfl
  rw[q a];simp
 have k:=c;rw[e]at k;rw[tu (f':=Cg (Id x[n].3) (m:I)||r) _ k];constructor;·intro h;cases h
 intro h;cases h with
 |here _ a=>rw[c]at a;cases a
 |step _ a _ _ _=>rw[c]at a;cases a
def VI(W:Wk)(q:N×Wc×Wc):Wk:=E2 (Js (Uo W q) (X9 q.2.2)) (X9 q.2.1)
def N9(m:N)(W:Wk)(q:N×Wc×Wc):List (N×Wk):=if q.1<=m then [(q.1,Uo W q)]else []
def TZ(m:N):(N->N)->List (N×List I×List I)->List (N×(N->N))
 |_,[]=>[]
 |W,q::l=>N9 m W q++TZ m (VI W q) l
theorem Ky(m:N)(q:N×Wc×Wc):∀(l:List (N×Wc×Wc))(W:Wk),TZ m W (l++[q])=TZ m W l++N9 m (l.foldl VI W) q
 |[],W=>by simp[TZ]
 |p::l,W=>by show N9 m W p++TZ m (VI W p) (l++[q])=(N9 m W p++TZ m (VI W p) l)++N9 m (l.foldl VI<|VI W p) q;rw[Ky m q l,cK]
theorem Fy(h:XA f)(q:N×Wc×Wc):XA (Uo f q)/\XA (VI f q):=by have a:XA (Uo f q):=Zs _ h;exact⟨a,Zs _<|JX _ a⟩
theorem Dk{l:List (N×Wc×Wc)}(h:XA f):XA (l.foldl VI f):=by
 induction l generalizing f with
 |nil=>exact h
 |cons q l a=>exact a (Fy h q).2
theorem qI(m):∀(l:List (N×Wc×Wc))(W:Wk),J (TZ m W l)<=J l
 |[],_=>aA
 |q::l,W=>by
  have:=qI m l<|VI W q;have h:J (N9 m W q)<=1:=by unfold N9;split<;>simp
  show J (N9 m W q++TZ m (VI W q) l)<=J l+1;rw[aQ];omega
structure Sd where
 i:N
 C:N
 W:Wk
def Sd.dat(p:Sd):N×Wk:=(p.i,p.W)
def rx(a z:N)(p:Sd):Zh:=#[Si S6 (p.i:I),Sa #[X (S ⟨z,0,U⟩) a p.C]]
def xn(a z:N)(p:Sd)(V:Ub):Prop:=Cp V z a p.C p.W/\XA p.W
structure PB(W:Ub)(n₁ l Bl Bx gl Kw C1 m:N)(ia:Uy)(ic:N)(W0:Wk)(J_:N->List Sd->Vy)(pre:List Pl)(V:Ub):Prop where
 js:∃ss:List Sd,ss.map Sd.dat=TZ m W0 (pre.map Pl.dat)/\J_ gl ss V
 y:E V ⟨Z W.1,0,U⟩=S (.func (.yield l) #[] #[])
 lv:E V ⟨Bl,0,U⟩=S (X (S ⟨gl,0,U⟩) Kw C1)
 ws:Cp V gl Kw C1 ((pre.map Pl.dat).foldl VI W0)
 bx:E V ⟨Bx,1,U⟩=S (X ia m ic)
 sz:n₁<=Z V.1
theorem PB.own{Bx}{F:N->List Sd->Vy}(t:∀C,OwnFrom (Z w.1)<|F C)(u:Z w.1<n)(x:k<n)(y:Bx<n)(v:B<n):OwnFrom n (PB w n m k Bx B g i j p c f F):=λL K V row h d q=>by have z:=h.6;have a:∀b,b<n->V.1[b]?=K.1[b]?:=λb M=>d.5 b O (λe=>by have:=(q b e.symm).1;omega);let⟨l,o,s⟩:=h.1;exact⟨⟨l,o,t B l K V row s d λr e=>⟨oN<|(q r e).1,(q r e).2⟩⟩,G (Xc<|a _ u) h.y,G (Xc<|a _ x) h.3,h.4.of_block<|a _ v,G (Xc<|a _ y) h.5,aJ z d.4⟩
def Pc(x:Xe)(a:Wk):Wk:=VI a (J x.2+1,Id x.3,[])
def Ou(x:Xe)(a:Wk)(k:N):Wk:=((Us (J x.2) k).map (VH x)).foldl VI (Pc x a)
theorem qx(q:N×Wc×Wc):Xh (Uo f q) n=(Jd (n∈X9 q.2.2)||Xh f n):=by unfold Uo;rw[YR]
theorem vx(q:N×Wc×Wc):Xh (VI f q) n=(Jd (n∈X9 q.2.1)||(Jd (n∉X9 q.2.2)&&Xh f n)):=by unfold VI;rw[YR,Kt,qx];by_cases h:n∈X9 q.2.2<;>simp[h]
theorem Ds(a)(b:n<J q.2):Ou q a n=VI (Ou q a<|n+1) (VH q ⟨n,b⟩):=by unfold Ou;rw[TJ b,bG,dT];rfl
theorem qQ{x a v q}(hq:Xh a v=q)(g:∀y∈x.2,(∀v∈Iw y,0<=v)/\∀v∈BW y,0<=v)(f:∀v∈Id x.3,0<=v):∀d k,k+d=J x.2->Xh (Ou x a k) v=JT x v q k
 |0,k,b=>by have b:k=J x.2:=O;subst b;rw[WT v q<|aA];unfold Ou;rw[Ua];show Xh (VI a (J x.2+1,Id x.3,[])) v=_;rw[vx,hq,eQ,dI,dI,bD,YV f,XD];simp[X9]
 |d+1,k,b=>by
  have c:k<J x.2:=O;have h:=qQ hq g f d (k+1) O;have e:=g x.2[k] (aH c);rw[Ds a c,vx,h,qe v q c];show(Jd (v∈X9 (Iw x.2[k]))||(Jd (v∉X9 (BW x.2[k]))&&JT x v q (k+1)))=_;have e1:Jd (v∈X9 (Iw x.2[k]))=Cg (Iw x.2[k]) (v:I):=by rw[eQ,bD,YV e.1,XD]
  have e2:Jd (v∉X9 (BW x.2[k]))=! Jd (H7 x.2[k]=(v:I)):=by rw[eQ];simp only[bD,lV,fC,YV e.2,YN]
  rw[e1,e2,Bool.and_comm]
theorem vz(x a):∀d k,k+d=J x.2->TZ (J x.2) (Pc x a) ((Us (J x.2) k).map (VH x))=(Us (J x.2) k).map λj:Fin (J x.2)=>((j:N)+1,Uo (Ou x a<|(j:N)+1) (VH x j))
 |0,k,b=>by have b:k=J x.2:=O;subst b;rw[Ua];rfl
 |d+1,k,b=>by have c:k<J x.2:=O;have e:=vz x a d (k+1) O;rw[TJ c,bG,bG,eH,fZ,Ky,e];congr 1;unfold N9;rw[aU<|show(VH x ⟨k,c⟩).1<=J x.2 from c];rfl
theorem qw(x)(a:Wk):TZ (J x.2) a (NS x)=((Us (J x.2) 0).map λj:Fin (J x.2)=>((j:N)+1,Uo (Ou x a<|(j:N)+1) (VH x j)))++[(0,Uo (Ou x a 0) (0,[],x.1.map Ph.dst))]:=by
 unfold NS;show N9 (J x.2) a (J x.2+1,Id x.3,[])++TZ (J x.2) (Pc x a) ((Us (J x.2) 0).map (VH x)++[(0,[],x.1.map Ph.dst)])=_;rw[Ky,vz x a (J x.2) 0 O];have e1:N9 (J x.2) a (J x.2+1,Id x.3,[])=[]:=by unfold N9;rw[aM sP]
 have e2:N9 (J x.2) (((Us (J x.2) 0).map (VH x)).foldl VI (Pc x a)) (0,[],x.1.map Ph.dst)=[(0,Uo (Ou x a 0) (0,[],x.1.map Ph.dst))]:=by unfold N9;rw[aU<|aN];rfl
 rw[e1,e2];rfl
theorem FQ(d:Jy n x)(i:m<J x)(hq:Xh f k=r)(h:(B,F)∈TZ (J x[m].2) f (NS x[m])):B<=J x[m].2/\Xh F k=Ox x x[m] m B k r:=by
 have c:=aH i;have b:∀y∈x[m].2,(∀k∈Iw y,0<=k)/\∀k∈BW y,0<=k:=λy b=>⟨λz a=>(d.5 _ c y b z a).1,λz a=>(d.6 _ c y b z a).1⟩;have l:=λz a=>(d.7 _ c z a).1;rw[qw]at h;obtain h|h:=bU.1 h
 .let⟨j,_,e⟩:=aY.1 h
  have e1:(j:N)+1=B:=fI Prod.fst e;have e2:Uo (Ou x[m] f ((j:N)+1)) (VH x[m] j)=F:=fI Prod.snd e;subst e1 e2;have g:=j.2;refine⟨g,?_⟩;rw[qx,qQ hq b l (J x[m].2-(j+1)) (j+1) O];show _=(JT x[m] k r ((j:N)+1)||(match x[m].2[(j:N)]? with
   |none=>Sn
   |some y=>Jd (H7 y=(k:I))))
  rw[aC g,nF];congr 1;rw[eQ,bD,bD,YN];exact YV (b _<|aH g).2
 have e:=cS.1 h;have e1:B=0:=fI Prod.fst e;have e2:F=Uo (Ou x[m] f 0) (0,[],x[m].1.map Ph.dst):=fI Prod.snd e;subst e1 e2;refine⟨aN,?_⟩;rw[qx,qQ hq b l (J x[m].2) 0 O];show _=(JT x[m] k r 0||Yo x m k);rw[nF];congr 1;unfold Yo;rw[aC i,eQ,bD];show k∈X9 (x[m].1.map Ph.dst)↔Cg (x[m].1.map Ph.dst) (k:I)=So;rw[XD];exact YV λz a=>by obtain⟨p,o,rfl⟩:=aY.1 a;exact(d.8 _ c p o).1
theorem wm(d:Jy n x)(e:m<J x)(hq:r=So->k<n)(h:JT x[m] k r B=So):k<n:=by
 have c:=aH e;unfold JT at h;obtain a|⟨y,f,a⟩:=TV _ (fV h)
 .rcases dI _ _▸a with b|b;·have:=(d.7 _ c _<|XD.1 b).2;omega
  exact hq b
 have:=(d.5 _ c y (List.mem_of_mem_drop f) _ a).2;omega
theorem Gp(c:Jy n x)(b:m<J x)(hq:r=So->k<n)(h:Ox x x[m] m B k r=So):k<n:=by
 have d:=aH b;cases B with
 |zero=>
  obtain a|a:=dI _ _▸(show(JT x[m] k r 0||Yo x m k)=So from h);·exact wm c b hq a
  unfold Yo at a;rw[aC b]at a;let⟨p,g,i⟩:=aY.1<|XD.1 a;have:=(c.8 _ d p g).2;omega
 |succ j=>
  have e:(JT x[m] k r (j+1)||(match x[m].2[j]? with
   |none=>Sn
   |some y=>Jd (H7 y=(k:I))))=So:=h
  obtain a|a:=dI _ _▸e;·exact wm c b hq a
  cases hj:x[m].2[j]? with
  |none=>rw[hj]at a;cases a
  |some y=>
   rw[hj]at a;have f:=YN.1<|fV a;have:=(c.6 _ d y (eN hj) _ f).2;omega
open Classical in
noncomputable def Uq(a:Wi)(x:Xe)(V b i:N):Wa:=(Rg V).filter λv=>Ox a x b i v<|Jd (UV a v b)
open Classical in
theorem wW(b:Jy n x)(a:m<J x)(l:n<=k)(hq:∀v,v<k->(Xh f v=So↔UV x v m)){W:Wk}(h:(i,W)∈TZ (J x[m].2) f (NS x[m])):Mq W k=Uq x x[m] n m i:=by
 have d:∀v,v<k->Xh W v=Ox x x[m] m i v (Jd (UV x v m)):=λv c=>(FQ b a (by rw[eQ,hq v c,bD]) h).2
 rw[qB l (λv o e=>by rw[<-gU,d v e];intro g;have:=Gp b a (λj=>(fV j:UV x v m).val b a) g;omega)]
 unfold Mq Uq;apply lW;intro v c;have:=bE.1 c;exact d v O
structure OB(w w1 X_:Ub)(V:N)(a:Uy)(n c Kw:N)(xs:Wi)(m l:Zm)(q:Option (N×Wk×Vp)):Prop where
 low:Sw (Z w1.1) w1 X_
 f0:E w1 ⟨Z w.1,0,U⟩=S (Si S6 (V:I))
 f1:E w1 ⟨Z w.1,1,U⟩=S (X a n c)
 lt:Z w.1<Z w1.1
 mr:∀g,m=S g->X_.rowIs g 126 n (λ_=>X U 0 0)/\Z w1.1<=g
 lb:∀g,l=S g->X_.rowIs g 129 2 (λ_=>X U 0 0)/\Z w1.1<=g
 ca:∀r,q=S r->XK X_ r.1 n Kw r.2.1 (λ_=>Kw) r.2.2/\XQ r.2.2/\(∀b,b<n->∀v,Xh (r.2.2 b) v=So↔(b,v)∈Nr xs n)/\Z w1.1<=r.1/\∀i,i<n->Z w1.1<=r.2.1 i
 d1:∀g h,m=S g->l=S h->g≠h
 d2:∀g r,m=S g->q=S r->g≠r.1/\∀i,i<n->r.2.1 i≠g
 d3:∀g r,l=S g->q=S r->g≠r.1/\∀i,i<n->r.2.1 i≠g
theorem OB.next{b l}{q:Option (N×Wk×Vp)}(h:OB w v u n p m c k x b l q)(a:Sw (Z u.1) u W):OB w v W n p m c k x b l q :=
 ⟨Xg h.1 a,h.2,h.3,h.4,λg e=>⟨(h.5 g e).1.of_block (a.5 _ (h.5 g e).1.lt),(h.5 g e).2⟩,λg e=>⟨(h.6 g e).1.of_block (a.5 _ (h.6 g e).1.lt),(h.6 g e).2⟩,λr e=>⟨(h.7 r e).1.keep a,(h.7 r e).2⟩,h.8,h.9,h.d3⟩
theorem OB.mkS{l}{q:Option (N×Wk×Vp)}{K:Tf}{j}(h:OB w v u n p m c k x U l q)(d:∀o,OB w v o n p m c k x (S (Z u.1)) l q->K j o):K j (D u<|Sc (madeCells #[X U 0 0] m) 126):=by
 have a:=h.next<|Xb (dC _ u) (Sc (madeCells #[Hq] m) 126);have z:=h.1.4;refine d _ ⟨a.1,h.2,h.3,h.4,λg e=>?_,a.6,a.7,λg r e e2=>?_,λg r e e2=>?_,a.d3⟩;·cases e;exact⟨dG u _ m _,z⟩
 .cases e;have:=(h.6 r e2).1.lt;omega
 cases e;have:=(h.7 r e2).1.1.lt;exact⟨O,λi b=>by have:=((h.7 r e2).1.2 i b).lt;omega⟩
theorem OB.lbS{d}{q:Option (N×Wk×Vp)}{K:Tf}{j}(h:OB w v u n p m c k x d U q)(f:∀l,OB w v l n p m c k x d (S (Z u.1)) q->K j l):K j (D u<|Sc #[X U 0 0,X U 0 0] 129):=by
 have a:=h.next<|Xb (dC _ u) (Sc #[Hq,Hq] 129);have z:=h.1.4;refine f _ ⟨a.1,h.2,h.3,h.4,a.5,λg e=>?_,a.7,λg r e e2=>?_,a.9,λg r e e2=>?_⟩;·cases e;exact⟨eK u #[Hq,Hq] 129 (λ_=>Hq) (λi b=>by match i,b with|0,_=>rfl|1,_=>rfl),z⟩
 .cases e2;have:=(h.5 g e).1.lt;omega
 cases e;have:=(h.7 r e2).1.1.lt;exact⟨O,λi b=>by have:=((h.7 r e2).1.2 i b).lt;omega⟩
theorem OB.caS{av:Zh}{q o}(h:OB w v u m p k c B x q o U)(L:Sk R_ n av u λe t=>∃F a b,e=Rt (Hl F k k)/\Z u.1<=F/\Sw (Z u.1) u t/\XK t F k B a (λ_=>B) b/\(∀i,i<k->Z u.1<=a i)/\XQ b/\∀d,d<k->∀s,Xh (b d) s=So↔(d,s)∈Nr x k):
 Sk R_ n av u λe K=>∃F a b,e=Rt (Hl F k k)/\OB w v K m p k c B x q o (S (F,a,b)):=by
 refine L.mono ?_;rintro e K⟨F,a,b,rfl,y,d,P,l,T,C⟩;have j:=h.next d;have z:=h.1.4;refine⟨F,a,b,R,j.1,h.2,h.3,h.4,j.5,j.6,λr e=>?_,j.8,λg r e e2=>?_,λg r e e2=>?_⟩;·cases e;exact⟨P,T,C,aJ z y,λi f=>aJ z<|l i f⟩
 .cases e2;have:=(h.5 g e).1.lt;exact⟨by show g≠F;omega,λi f=>by have:=l i f;show a i≠g;omega⟩
 cases e2;have:=(h.6 g e).1.lt;exact⟨by show g≠F;omega,λi f=>by have:=l i f;show a i≠g;omega⟩
theorem OB.kp{a l}{q:Option (N×Wk×Vp)}(h:OB w v u n p m c k x a l q):E u (A (Z w.1) 0)=S (H n)/\E u (A (Z w.1) 1)=S (X p m c) :=
 ⟨oB h.1 h.2 h.4,oB h.1 h.3 h.4⟩
theorem OB.lbc{d}{q:Option (N×Wk×Vp)}(h:OB w v u n p m c k x d (S B) q):E u ⟨B,0,U⟩=S (X U 0 0)/\E u ⟨B,1,U⟩=S (X U 0 0)/\(∀o,u.frozen? ⟨B,o,U⟩=Sn)/\∀b,E (Se u ⟨B,0,U⟩ b) ⟨B,1,U⟩=S (X U 0 0):=by have r:=(h.6 B R).1;have a:=r.cell (i:=1) vY;exact⟨r.cell (i:=0) vY,a,r.frozen,λb=>G (cJ sP) a⟩
theorem OB.fin(h:OB w v u n p m c k x (S B) (S g) (S (i,f,M)))(q:Sw (Z w.1) w v)(a:Z v.1=Z w.1+2)(s:E v ⟨Z w.1+1,0,U⟩=S (X U 0 0))(t:E v ⟨Z w.1+1,1,U⟩=S (X U 0 0))(rz:∀r,v.frozen? ⟨Z w.1+1,r,U⟩=Sn):
 Pp w (Se (Se u ⟨g,0,U⟩ (X (S ⟨B,0,U⟩) m m)) ⟨g,1,U⟩ (X (S ⟨i,0,U⟩) m m)) n p m c k x B g i f M:=by
 let⟨y,z,o,e,j⟩:=h.7 _ R;have d2:=h.9 _ _ R R;have d3:=h.d3 _ _ R R;exact VR q a h.1 h.2 h.3 s t rz (h.5 B R).1 (h.6 g R).1 y z o (a▸(h.5 B R).2) (a▸(h.6 g R).2) (a▸e) (λd b=>a▸j d b) ⟨λl=>d3.1 l.symm,h.8 _ _ R R,d2.1,λd b=>⟨d2.2 d b,d3.2 d b⟩⟩
section
attribute [local go_sem] Oper.semAt_some
def N1(V a:N)(W:Wk):Prop:=∀x,x<64*a->Xh W x=So->x<V
theorem qi(h:N1 n m f)(a:∀t∈s,t<n):N1 n m (E2 f s):=λx b e=>by
 rw[YR]at e;obtain e|e:=dI _ _▸e;·exact a x<|fV e
 exact h x b e
theorem C4(h:N1 n m f):N1 n m (Js f s):=λx a e=>by rw[Kt]at e;exact h x a (bY _ _▸e).2
def pg(n m a z:N)(p:Sd)(V:Ub):Prop:=(p.i<=m/\N1 n a p.W)/\xn a z p V
theorem qj(n m d B z):OwnFrom B (pg n m d z):=λp r V row h k q=>by let⟨f,b,g⟩:=h;refine⟨f,b.of_block (k.5 z b.lt λe=>?_),g⟩;let⟨o,i,j⟩:=b.obj;let⟨_,l,a,c⟩:=q z e.symm;rw[i]at a;injection a with a;subst a;rw[j]at c;cases c
theorem tH{p}(h:pg n m k B p w)(a:Sw (Z w.1) w v):pg n m k B p v:=⟨h.1,h.2.1.of_block<|a.5 B h.2.1.lt,h.2.2⟩
theorem vh(m:N):∀(l a:List (N×Wc×Wc))(W:Wk),TZ m W (l++a)=TZ m W l++TZ m (l.foldl VI W) a
 |[],a,W=>by simp[TZ]
 |p::l,a,W=>by show N9 m W p++TZ m (VI W p) (l++a)=(N9 m W p++TZ m (VI W p) l)++TZ m (l.foldl VI<|VI W p) a;rw[vh m l,cK]
theorem BR{l a:List (N×Wc×Wc)}(h:l <+: a):TZ n f l <+: TZ n f a:=by obtain⟨t,rfl⟩:=h;rw[vh];exact⟨_,R⟩
theorem tU{Bx go}(O_)(u:Q (UI q k B Bx n (Z w.1) w))(hs:E w (A m 0)=S (Hl go g i))(hg:Q (Cp w go g i f))(f5:Q (XA f))(hK:g<=100)(gq:j<=64*g)(hM:Q (∀r,k<=r->r<B->¬O_ r))(fi:Q (¬O_ Bx))(X_:Q (∀r,Z w.1<=r->¬O_ r))(fc:Q (¬O_ 2))(fe:Q (¬O_ 1))(f0:Q (∀ej∈q.2,1<=ej.1/\ej.1<=13))(f4:1<=q.3.1/\q.3.1<=3)(fx:J q.2<=4000)(fz:J q.1<=4000)(fj:Q (∀e∈NS q,Pn j e))(fb:Q (N1 j g f)):
 lf Fence.wide 8 prog 176 #[Hn m,Hn Bx] (rx g) (pg j (J q.2) g) (Zf n O_) (λxs=>xs.map Sd.dat=TZ (J q.2) f (NS q)) (λxs=>xs.map Sd.dat <+: TZ (J q.2) f (NS q)) (J q.2+2) True False w:=by
 intro Y_ dl Jx W hW hl hJ dn ds _ hY h0;have HY:=Y hY;have HJ:=Y hJ;have c9:=Y dn;have a0:=Y<|ds JV;have H0:=Y h0;have g2:=u.8;clear hY hJ ds h0 dn;have eg:=hW.4;refine callsIn_of_wp_marks func176 R JV ?_ R;simp only[ntmps176,xY,Nat.reduceAdd,Nat.reduceSub];have s0:=oB hW hs<|aI w _ hs;have e8:m<Z W.1:=aI W _ s0;have hd:=λs=>G (bP W s (A m 0) e8) s0;gi_wp2;have fa:(λx9:Ub=>Q (Sw (Z W.1) W x9)/\E x9 (A (Z W.1) 0)=S (.func (.yield Y_) #[] #[])/\Z x9.1=Z W.1+1) (D W<|Sc #[.func (.yield Y_) #[] #[]] 301):=⟨Y<|Xb Rf _,SC,sP⟩;generalize D W _=wa at*;let⟨cv,ef,g9⟩:=fa;have gd:Z W.1<Z wa.1:=O;have cz:=Y<|(hg.of_block<|hW.5 go hg.lt).of_block (cv.5 go<|aX hg.lt eg);have cx:=Y<|Kk go g i f wa cz O;refine⟨JV,(bM.2 cx).mono ?_⟩;rintro o P⟨b,L,rfl,gt,b0,cl⟩;have en:=Y cl;have ct:=Y<|Xg cv b0;have g5:=b0.4;have y1:=oB b0 ef gd;have fl:=cl.lt;clear b0 cl ef;have br:Q (Sw (Z P.1) P<|D P (Sc #[Hl b g L] 126)):=Y<|Xb Rf _;have fq:E (D P<|Sc #[Hl b g L] 126) (A (Z P.1) 0)=S (Hl b g L):=SC
 have f6:Z (D P<|Sc #[Hl b g L] 126).1=Z P.1+1:=sP;have cj:=Y<|(Y<|u.below hW aA).below (Xg ct br) eg;let⟨pa,pc,ia,ic,x0,x1,⟨x2,x3,x4,x5⟩,ec,ea⟩:=cj.3;simp only[aV]at x1 x2 x3 x4 x5;have et:=Y ec;have ep:=Y ea;clear ec ea;gi_wp2;generalize D P _=V at*;have fr:Z P.1<Z V.1:=O;clear f6;refine⟨JV,(tT Fence.wide 7 JV R V).mono ?_⟩;rintro o t⟨rfl,b5⟩;have K_:Sw (Z V.1) V t:=b5▸Xb Rf _;have f7:Z t.1=Z V.1+1:=by rw[b5];simp
 have ad:∀e v,#[X pa (J q.1) pc,X ia (J q.2) ic,H q.3.1,H q.3.a,H q.3.3,H q.3.4][e]?=S v->E t (A (Z V.1) e)=S v:=λe v h=>by rw[b5,eC];exact h
 have ez:Q (UI q k B (Z V.1) n (Z t.1) t):=Y ⟨cj.1.of_block (K_.5 _<|oN u.6) K_.4,cj.2.of_block (K_.5 _<|oN u.7) K_.4,⟨pa,pc,ia,ic,ad 0 _ R,ad 1 _ R,⟨ad 2 _ R,ad 3 _ R,ad 4 _ R,ad 5 _ R⟩,et.keepS λe _ d=>K_.5 e<|oN u.5,ep.keepS λe _ d=>K_.5 e<|oN u.5⟩,O,u.5,u.6,u.7,O⟩;have eo:Q (PB W (Z t.1) Y_ (Z P.1) Bx b g L (J q.2) ia ic f dl [] t):=Y ⟨⟨[],R,H0 b t O O<|Y (Xg (Xg ct br) K_)⟩,oB K_ (G (XU br O) y1) O,oB K_ fq fr,(en.of_block<|br.5 _ fl).of_block (K_.5 _ O),oB K_ x1 (by have:=u.4;show Bx<_;omega),aA⟩;have gv:Z V.1<Z t.1:=O;clear b5 ad f7;have d0:∀e,e≠b->Z w.1<=e->¬(O_ e\/e=b):=λe a d y=>y.elim (λh=>X_ e d h) a;have ge:Z w.1<=b:=O;gi_wp2
 refine nX (F:=Fence.wide) (n:=8) R vY (gf:=168) (lb:=#[Hn (Z V.1)]) R JV (enters_of func168 vZ R) (uy n (Z V.1) k B (λe=>O_ e\/e=b) (Pn j) q t ez (Y ?m1) (Y ?m2) (Y ?m3) (Y ?m4) (Y ?m5) f0 f4 fx fz fj) (λ_=>qn _ _ _) (λh r=>h.trans r) (λW Y_ s x a d y=>Zf.putObj W Y_ s x O d y) Rf (λ_ _=>R)
  (λ_ C c=>PB W (Z t.1) Y_ (Z P.1) Bx b g L (J q.2) ia ic f dl C c/\N1 j g ((C.map Pl.dat).foldl VI f)) (λc_ C j=>c_=.ret/\∃T:List Sd,T.map Sd.dat=TZ (J q.2) f (C.map Pl.dat)/\Jx T j) (λ_ gf K c row h r e=>⟨PB.own HJ O O (oN u.4) O gf K c row h.1 r e,h.2⟩) ?ownX (λh=>h.elim) (λh=>h.elim) (λ_ j _ _ hV=>⟨XO (PB.own HJ O O (oN u.4) O) eo hV,fb⟩)
  (λ_ p a' c=>∃V_:N,a'=⟨#[.func (.yield Y_) #[] #[],Hn m,Hn Bx,Hn (Z W.1),Hn (Z P.1),H (p.i:I),Hn V_,Sa #[Hl go g i],Sa #[Hl b g L],Sa #[X pa (J q.1) pc,X ia (J q.2) ic,H q.3.1,H q.3.a,H q.3.3,H q.3.4],.func (.func 168) #[] #[Hn (Z V.1)],H (p.i:I),Sa #[X p.2 (J p.4) p.3,X p.5 (J p.7) p.6],Su,Su,Su,Su,Su,Su,Su,Su,Su,Su,Su,Su,Su,Su,Su,Su,Su,Su,Su,Su,Su,Su,Su,Su],[]⟩/\PM (Z t.1) V_ p c) ?ownA ?assign ?body ?done ?stop
 case m1=>intro e a d;exact λy=>y.elim (λh=>hM e a d h) λh=>by have:=u.5;omega
 case m2=>exact d0 _ O O
 case m3=>intro e a;exact d0 _ O O
 case m4=>exact λy=>y.elim (λh=>fc h) λh=>by have:=u.6;omega
 case m5=>exact λy=>y.elim (λh=>fe h) λh=>by have:=u.7;omega
 case ownX=>
  rintro c_ C K j row⟨rfl,T,s1,s2⟩ r e;exact⟨R,T,s1,c9 T K j row s2 r λei o=>⟨oN<|(e ei o).1,(e ei o).2⟩⟩
 case ownA=>
  rintro _ p a' _ K c row⟨V_,o,hp⟩ e7 e;exact⟨V_,o,PM.own (n:=Z t.1) () K c row hp e7 e⟩
 case assign=>
  intro l' _ C p c gh _ e9 hP du;let⟨I_,a9⟩:=e9;have cg:=Y a9;clear a9;have R_:=Y I_;have ao:=Y hP;have er:=Y du;clear I_ hP du;unfold pf;gi_wp2;have ba:Sw (Z c.1) c (D c<|Sc #[X p.2 (J p.4) p.3,X p.5 (J p.7) p.6] 216):=Xb Rf _;refine er _ _ ⟨ba.4,λr s a _=>G (ba.5 r (aS.1 a).1) a⟩ (Z4 ba<|oN R_.6) ⟨XO (PB.own HJ O O (oN u.4) O) R_ ba,cg⟩ (tA ao ba) ⟨Z c.1,R,R_.6,?_,?_⟩;·simp[go_sem]
  simp[go_sem]
 case body=>
  rintro l' _ C p a' c _ _ _⟨I_,a9⟩ hP ⟨V_,rfl,b3⟩ g0;have cg:=Y a9;clear a9;have R_:=Y I_;have ao:=Y hP;have zl:=I_.3;have zy:=I_.y;have zx:=I_.5;have p0:=b3.2;have p1:=b3.3;have gr:=b3.1;have gs:V_<Z c.1:=aI c _ p0;have S_:=Y ao.1;have ci:Q ((X9 p.7).map Int.ofNat=p.7):=Y (Kv λv hv=>(S_.2.1 v hv).1);have df:Q ((X9 p.4).map Int.ofNat=p.4):=Y (Kv λv hv=>(S_.1 v hv).1);have dc:Q (∀M_∈X9 p.7,M_<j):=Y (λM_ ht=>by obtain⟨al,hz,rfl⟩:=aY.1 ht;have:=S_.2.1 al hz;omega)
  have es:Q (∀M_∈X9 p.4,M_<j):=Y (λM_ ht=>by obtain⟨al,hz,rfl⟩:=aY.1 ht;have:=S_.1 al hz;omega)
  have ch:Q (∀M_∈X9 p.7,M_<64*g):=Y (λM_ ht=>by obtain⟨al,hz,rfl⟩:=aY.1 ht;have:=S_.2.1 al hz;omega)
  have dd:Q (∀M_∈X9 p.4,M_<64*g):=Y (λM_ ht=>by obtain⟨al,hz,rfl⟩:=aY.1 ht;have:=S_.1 al hz;omega)
  have cm:J p.7<=4000:=S_.2.2.2;have eb:J p.4<=4000:=S_.2.2.1;let⟨F,ap⟩:∃el,el=(C.map Pl.dat).foldl VI f:=⟨_,R⟩;have da:Q (N1 j g F):=Y (ap▸cg);have db:Q (N1 j g<|((C++[p]).map Pl.dat).foldl VI f):=Y (by rw[bG,dT,<-ap];exact qi (C4<|qi da dc) es)
  have dj:Q (XA F):=Y (ap▸Dk f5);have bv:Q (Cp c b g L F):=Y (ap▸R_.4);have a2:=Y ap;clear I_ hP b3 ap;have cw:=Y (ZG b g L (J p.7) p.6 F p.5 (X9 p.7) (Z t.1) (Z c.1) c (Y<|by rw[ci.o];exact ao.2.2) (Y<|by simp[X9]) cm ch O dj bv aA O);gi_wp2;refine⟨JV,(CallsIn.inRound l'<|bM.2 cw).mono ?_⟩;rintro o T_⟨rfl,k1,ed⟩;have q1:∀(l x:N)(v:Uj),l≠b->E c (A l x)=S v->E T_ (A l x)=S v:=λl x v a d=>G (Xc<|k1.5 l (aI c _ d) λo=>a<|by injection o) d
  have b8:=q1 _ _ _ O zl;have cb:=q1 _ _ _ O zy;have ca:=q1 _ _ _ (oN u.4) zx;have b6:=q1 _ _ _ O p0;have b7:=q1 _ _ _ O p1;have g7:=k1.4;have Z_:=Y k1;have a3:=Y ed;have a5:Q (XA<|E2 F (X9 p.7)):=Y<|Zs _ dj;have c6:=Y<|YZ ao.2.2 k1 O;have c7:=Y<|YZ ao.2.1 k1 O;clear k1 ed q1 zl zy zx p0 p1;let⟨T,b4,bx⟩:=R_.1;have bt:=Y b4;have c8:=Y<|a0.o b T c T_ O bx Z_;clear b4 bx;have g1:J T<=J C:=by have a:=fI List.length bt;rw[bK]at a;have d:=qI (J q.2) (C.map Pl.dat) f;rw[bK]at d;omega
  have gg:Q (p.dat=(p.i,p.4,p.7)):=Y R;by_cases b1:p.i<=J q.2
  .have dk:=Y<|HY.o b T ⟨p.i,L,E2 F<|X9 p.7⟩ T_ O c8 ⟨⟨b1,qi da dc⟩,a3,a5⟩ O;let⟨fn,tmps,gi,bo,hy,hR⟩:=KY (l':=l') (m':=5) dk;have ee:(Instr.yield Y_ #[H (p.i:I),Sa #[Hl b g L]]).run prog T_=_:=hy;have fs:(p.i:I)<=J q.2:=O;clear hy;gi_wp2;refine hR.mono ?_;rintro o P_ (⟨rfl,a7,M,bb⟩|⟨rfl,a7,M,bb⟩);rotate_left
   .have ce:=Y a7;have aa:=Y M;have az:=Y bb;clear a7 M bb hR ee;gi_wp2;refine⟨((Jc Z_ bv.obj).from _).trans ⟨az.1,λr s a d y=>az.2 r s O d y⟩,(Zg Z_ (aZ R) O).trans ⟨aa.1,λr a d=>aa.2 r a λh=>d<|bC h,λr s a d y=>aa.3 r s (λh=>a<|bC h) d y⟩,R,_,?_,ce⟩;rw[bG,bG,bt.o];show _=TZ (J q.2) f (C.map Pl.dat++[p.dat]);rw[Ky,<-a2.o];unfold N9;rw[aU<|show p.dat.1<=J q.2 from b1];rfl
   have ce:=Y a7;have aa:=Y M;have az:=Y bb;have g8:=M.1;have bh:=M.cell b8 (X_ _<|by show Z w.1<=Z P.1;omega);have bn:=M.cell cb (X_ _<|by show Z w.1<=Z W.1;omega);have bl:=M.cell ca fi;have be:=M.cell b6 (X_ _<|by show Z w.1<=V_;omega);have bf:=M.cell b7 (X_ _<|by show Z w.1<=V_;omega);have di:Q (Cp P_ b g L<|E2 F (X9 p.7)):=Y (a3.of_block (by let⟨s,a,d⟩:=a3.obj;rw[a];exact M.3 b s (X_ _ ge) a d))
   have eq:Q (Xf P_ (Z t.1) (Z P_.1) p.5 p.7):=Y (λcn hi=>by let⟨a6,s,o,hb,hc⟩:=c6 cn hi;exact⟨a6,s,o,⟨hb.1,O⟩,M.cell hc<|X_ _ (by show Z w.1<=a6;omega)⟩)
   have cc:Q (Xf P_ (Z t.1) (Z P_.1) p.2 p.4):=Y (λcn hi=>by let⟨a6,s,o,hb,hc⟩:=c7 cn hi;exact⟨a6,s,o,⟨hb.1,O⟩,M.cell hc<|X_ _ (by show Z w.1<=a6;omega)⟩)
   clear a7 M bb hR ee b8 cb ca b6 b7;have aq:=Y (JL p.6 p.5 (Z t.1) P_ (Y<|by rw[ci.o];exact eq) (Y<|by simp[X9]) cm ch O a5 di aA O);gi_wp2;refine⟨JV,(CallsIn.inRound l'<|bM.2 aq).mono ?_⟩;rintro o z⟨rfl,L_,bc⟩;have q3:∀(l x:N)(v:Uj),l≠b->E P_ (A l x)=S v->E z (A l x)=S v:=λl x v a d=>G (Xc<|L_.5 l (aI P_ _ d) λo=>a<|by injection o) d;have bi:=q3 _ _ _ O bh;have bq:=q3 _ _ _ O bn;have bm:=q3 _ _ _ (oN u.4) bl;have co:=q3 _ _ _ O be;have cp:=q3 _ _ _ O bf;have ga:=L_.4;have ab:=Y L_;have a4:=Y bc;have cd:=Y<|YZ cc L_ O;clear L_ bc q3 aq bh bn bl be bf;have ar:=Y (ZG b g L (J p.4) p.3 (Js (E2 F<|X9 p.7) (X9 p.7)) p.2 (X9 p.4) (Z t.1) (Z z.1) z (Y<|by rw[df.o];exact cd) (Y<|by simp[X9]) eb dd O (Y<|JX _ a5) a4 aA O);gi_wp2;refine⟨JV,(CallsIn.inRound l'<|bM.2 ar).mono ?_⟩;rintro o V4⟨rfl,Q_,bd⟩;have q4:∀(l x:N)(v:Uj),l≠b->E z (A l x)=S v->E V4 (A l x)=S v:=λl x v a d=>G (Xc<|Q_.5 l (aI z _ d) λo=>a<|by injection o) d;have cq:=q4 _ _ _ O bi;have cs:=q4 _ _ _ O bq;have cr:=q4 _ _ _ (oN u.4) bm;have gb:=Q_.4;have ac:=Y Q_;have ck:=Y bd;clear Q_ bd q4 ar bi bq bm co cp;gi_wp2;have af:∀{K J_:Ub},K.grownBy J_ (S b)->n<=Z K.1->Zf n (λe=>O_ e\/e=b) K J_:=λh a=>Zg h (aZ R) a;have aj:∀{K J_:Ub},K.grownBy J_ (S b)->(∃s:Obj,K.1[b]?=S s/\s.isCells=So)->KeepsFrom (Z t.1) K J_:=λh a=>(Jc h a).from _;have g4:E2 (Js (E2 F<|X9 p.7) (X9 p.7)) (X9 p.4)=VI F p.dat:=R;have g3:E2 F (X9 p.7)=Uo F p.dat:=R;have cf:=a0 b _ z V4 O (a0 b _ P_ z O ce ab) ac;refine⟨(((aj Z_ bv.obj).trans ⟨az.1,λr s a d y=>az.2 r s O d y⟩).trans (aj ab di.obj)).trans (aj ac a4.obj),(((af Z_ O).trans ⟨aa.1,λr a d=>aa.2 r a λh=>d<|bC h,λr s a d y=>aa.3 r s (λh=>a<|bC h) d y⟩).trans (af ab O)).trans (af ac O),⟨⟨⟨_,?_,cf⟩,cs,cq,?_,cr,O⟩,db⟩⟩
   .rw[bG,bG,bt.o];show _=TZ (J q.2) f (C.map Pl.dat++[p.dat]);rw[Ky,<-a2.o];unfold N9;rw[aU<|show p.dat.1<=J q.2 from b1];rfl
   rw[bG,dT,<-a2.o];exact ck
  have gz:(J q.2:I)<p.i:=O;have fs:Jd ((p.i:I)<=J q.2)=Sn:=SB
  have bh:=b8;have bn:=cb;have bl:=ca;have be:=b6;have bf:=b7;have cc:=c7;clear b8 cb ca b6 b7;have aq:=Y (JL p.6 p.5 (Z t.1) T_ (Y<|by rw[ci.o];exact c6) (Y<|by simp[X9]) cm ch O a5 a3 aA O);gi_wp2
  repeat (refine⟨λgp hf=>(by cases hf),?_⟩;gi_wp2)
  refine⟨JV,(CallsIn.inRound l'<|bM.2 aq).mono ?_⟩;rintro o z⟨rfl,L_,bc⟩;have q3:∀(l x:N)(v:Uj),l≠b->E T_ (A l x)=S v->E z (A l x)=S v:=λl x v a d=>G (Xc<|L_.5 l (aI T_ _ d) λo=>a<|by injection o) d;have bi:=q3 _ _ _ O bh;have bq:=q3 _ _ _ O bn;have bm:=q3 _ _ _ (oN u.4) bl;have co:=q3 _ _ _ O be;have cp:=q3 _ _ _ O bf;have ga:=L_.4;have ab:=Y L_;have a4:=Y bc;have cd:=Y<|YZ cc L_ O;clear L_ bc q3 aq bh bn bl be bf;have ar:=Y (ZG b g L (J p.4) p.3 (Js (E2 F<|X9 p.7) (X9 p.7)) p.2 (X9 p.4) (Z t.1) (Z z.1) z (Y<|by rw[df.o];exact cd) (Y<|by simp[X9]) eb dd O (Y<|JX _ a5) a4 aA O);gi_wp2;refine⟨JV,(CallsIn.inRound l'<|bM.2 ar).mono ?_⟩;rintro o V4⟨rfl,Q_,bd⟩;have q4:∀(l x:N)(v:Uj),l≠b->E z (A l x)=S v->E V4 (A l x)=S v:=λl x v a d=>G (Xc<|Q_.5 l (aI z _ d) λo=>a<|by injection o) d;have cq:=q4 _ _ _ O bi;have cs:=q4 _ _ _ O bq;have cr:=q4 _ _ _ (oN u.4) bm;have gb:=Q_.4;have ac:=Y Q_;have ck:=Y bd;clear Q_ bd q4 ar bi bq bm co cp;gi_wp2;have af:∀{K J_:Ub},K.grownBy J_ (S b)->n<=Z K.1->Zf n (λe=>O_ e\/e=b) K J_:=λh a=>Zg h (aZ R) a;have aj:∀{K J_:Ub},K.grownBy J_ (S b)->(∃s:Obj,K.1[b]?=S s/\s.isCells=So)->KeepsFrom (Z t.1) K J_:=λh a=>(Jc h a).from _;have cf:=a0 b _ z V4 O (a0 b _ T_ z O c8 ab) ac;refine⟨((aj Z_ bv.obj).trans (aj ab a3.obj)).trans (aj ac a4.obj),((af Z_ O).trans (af ab O)).trans (af ac O),⟨⟨⟨_,?_,cf⟩,cs,cq,?_,cr,O⟩,db⟩⟩
  .rw[bG,bt.o];show _=TZ (J q.2) f (C.map Pl.dat++[p.dat]);rw[Ky,<-a2.o];unfold N9;rw[aM (show ¬p.dat.1<=J q.2 from b1),fF]
  rw[bG,dT,<-a2.o];exact ck
 case done=>
  rintro ek _ xs c hD _ dw⟨I_,_⟩ a8;have R_:=Y I_;have a1:=Y a8;have eu:=Y dw;clear I_ a8 dw;gi_wp2;let⟨T,b4,bx⟩:=R_.1;refine YK a1 ⟨St #[],gV R _ _ _,⟨_,R⟩,.inl ⟨b,T,O,by rw[b4,eu.o],(HJ b).putObj _ bx O a1 R⟩⟩
 rintro ek c_ C c hD dz⟨rfl,T,s1,s2⟩ a8;have ev:=Y s1;have ey:=Y s2;have a1:=Y a8;have e6:=Y dz;clear s1 s2 a8 dz;gi_wp2;exact YK a1 ⟨St #[],gV R _ _ _,⟨_,R⟩,.inr ⟨T,by rw[ev.o];exact BR e6,c9.putObj _ ey O a1 R⟩⟩
end
theorem K3{A_ B:Wa}(g:A_.Nodup)(h:∀x∈A_,x∈B):J A_<=J B:=by
 induction A_ generalizing B with
 |nil=>exact aN
 |cons a A_ i=>
  have b:=fL.1 g;have d:∀x∈A_,x∈B.erase a:=λx c=>(iF λe=>b.1<|by rw[<-e];exact c).2 (h x<|cN _ c);have f:=i b.2 d;have ha:=h a cI;rw[fP ha]at f;have:=eJ ha;simp only[bA];omega
theorem Cv(h:¬s.Nodup):∃a,a∈s/\a∈s.erase a:=by
 induction s with
 |nil=>exact Sz iU h
 |cons b s j=>
  by_cases d:b∈s;·exact⟨b,cI,by rw[List.erase_cons_head];exact d⟩
  have g:¬s.Nodup:=λc=>h<|fL.2 ⟨d,c⟩;let⟨a,e,c⟩:=j g;have i:¬b=a:=λf=>d (f▸e);refine⟨a,cN _ e,?_⟩;rw[List.erase_cons_tail<|by simpa using i];exact cN _ c
theorem D3(W p):(Mq W p).Nodup:=by unfold Mq;exact List.filter_sublist.nodup kS
theorem Eo(i:∀c,c<n->(Xh F c=So↔∃v∈s,f v=c))(k:∀v∈s,f v<n):J (Mq F n)<J s↔¬(s.map f).Nodup:=by
 have j:∀x,x∈Mq F n↔x∈s.map f:=λx=>by
  rw[om,aY];constructor;·rintro⟨a,b⟩;exact(i x a).1 b
  rintro⟨v,a,rfl⟩;exact⟨k v a,(i _<|k v a).2 ⟨v,a,R⟩⟩
 have o:J (s.map f)=J s:=sP;constructor
 .intro p d;have:=K3 d λx e=>(j x).2 e;omega
 intro d
 let⟨g,a,b⟩:=Cv d;have l:∀x∈Mq F n,x∈(s.map f).erase g:=λx e=>by
  by_cases h:x=g;·rw[h];exact b
  exact(iF h).2 ((j x).1 e)
 have m:=K3 (D3 F n) l;rw[fP a]at m;have:=eJ a;omega
section
def Ak(v1 v2:Uj)(k:N):Prop:=v1.ownBlock=S k\/v2.ownBlock=S k
def Pi(wr:Ub)(d F:N)(U_:Vu)(Pr:Tj)(l:Vv):Prop:=∀i,i<d->∃b a c e,U_ i=X c (J (Pr i)) e/\F<b/\a<=Z wr.1/\Xf wr b a c (Pr i)/\∀k,l k->¬(b<=k/\k<a)
theorem Pi.keep{wr wr' b F U_ Pr x a}(h:Pi wr b F U_ Pr x)(s:Z wr.1<=Z wr'.1)(m:∀k,k<Z wr.1->F<k->¬x k->wr'.1[k]?=wr.1[k]?)(l:∀k,a k->x k\/Z wr.1<=k):Pi wr' b F U_ Pr a:=λt n=>by
 let⟨w,o,d,e,f,g,i,j,c⟩:=h t n;refine⟨w,o,d,e,f,g,aJ i s,j.keepS λk u v=>m k O O λq=>c k q ⟨u,v⟩,λk p q=>?_⟩;obtain r|r:=l k p;·exact c k r q
 omega
structure Oa(w1 w2 wr:Ub)(U_ V:Vu)(Pr:Tj)(bp b1:N)(p1:Uy)(c1 b2:N)(p2:Uy)(c2:N):Prop where
 fl:OE w1 wr (Z w1.1) (X U 0 0) (X U 0 0) U_ V b1 p1 c1 b2 p2 c2
 pr:Pi wr bp (Z w1.1) U_ Pr (Ak (X p1 b1 c1) (X p2 b2 c2))
 sa:YA (Z w1.1+1) (Z w2.1) w2 wr
 hk:∀k,Ak (X p1 b1 c1) (X p2 b2 c2) k->Z w2.1<=k
 sz:Z w2.1<=Z wr.1
section
variable{w1 w2 wr wr':Ub}{U_ V:N->Uj}{Pr:N->Wc}{bp b1:N}{p1:Uy}{c1 b2:N}{p2:Uy}{c2:N}
theorem OE.ak{b c F}(h:OE w1 wr F b c U_ V b1 p1 c1 b2 p2 c2){k}(a:Ak (X p1 b1 c1) (X p2 b2 c2) k):F<k/\k<Z wr.1:=by
 obtain e|e:=a;·have:=h.9.lt k e;omega
 have:=h.o2.lt k e;omega
theorem Oa.below(h:Oa w1 w2 wr U_ V Pr bp b1 p1 c1 b2 p2 c2)(k:Sw (Z wr.1) wr wr'):Oa w1 w2 wr' U_ V Pr bp b1 p1 c1 b2 p2 c2:=by have:=h.5;exact⟨h.1.below k,h.2.keep k.4 (λq a _ _=>k.5 q a) λ_ b=>bC b,λq q1 q2=>G (k.5 q O) (h.3 q q1 q2),h.4,aJ h.5 k.4⟩
theorem OE.congrU{b c d F}{a:Vu}(h:OE b wr F c d U_ V b1 p1 c1 b2 p2 c2)(e:∀i,i<b1->a i=U_ i):OE b wr F c d a V b1 p1 c1 b2 p2 c2:=by refine⟨h.1,h.2,h.3,h.4,h.5,h.6,h.7,h.8,?_,h.o2,h.dj⟩;have:(Rg b1).map a=(Rg b1).map U_:=gH λi f=>e i<|bE.1 f;rw[this];exact h.9
theorem Oa.newU{u:Uj}{b:Uy}{uc}(h:Oa w1 w2 wr U_ V Pr b1 b1 p1 c1 b2 p2 c2)(k:Sw (Z wr.1) wr wr')(m:u=X b (J (Pr b1)) uc)(c:Xf wr' (Z wr.1) (Z wr'.1) b (Pr b1)):Oa w1 w2 wr' (λi=>if i=b1 then u else U_ i) V Pr (b1+1) b1 p1 c1 b2 p2 c2:=by
 have a:=h.below k;have l:=h.1.7;refine⟨a.1.congrU λi c=>aM O,λi o=>?_,a.3,a.4,a.5⟩;by_cases e:i=b1
 .subst e;refine⟨Z wr.1,Z wr'.1,b,uc,(aU R)▸m,l,aA,c,λk j q=>?_⟩;have:=(h.1.ak j).2;omega
 let⟨n,g,d,f,q1,q2⟩:=a.2 i O;exact⟨n,g,d,f,(aM e)▸q1,q2⟩
theorem zMA00{p: Prop}(h: p := by
  refine⟨⟨m,h.2.keep SF j g,λq q1 q2=>(j q O O λe=>by have:=h.4 q e;omega).trans (h.3 q q1 q2),λk f=>?_,SF⟩,n,o,p⟩;obtain e|e:=g k f;·exact h.4 k e
  omega): p := h
theorem Oa.app1{c:Ub}{l}{b:Uy}{a}(h:Oa w1 w2 wr U_ V Pr bp b1 p1 c1 b2 p2 c2)(d:(D wr l).grownBy c (X p1 b1 c1).ownBlock)(r:Sx c (Z w1.1+1) 99 1 (X b (b1+1) a) (b1+1) ((Rg b1).map U_++[U_ b1]))(i:(X b (b1+1) a).ownBlock=(X p1 b1 c1).ownBlock\/(X b (b1+1) a).ownBlock=S (Z wr.1+1)):
 Oa w1 w2 (Se c ⟨Z w1.1,0,U⟩ (X b (b1+1) a)) U_ V Pr bp (b1+1) b a b2 p2 c2/\(∀q,E c ⟨Z w1.1,q,U⟩=E wr ⟨Z w1.1,q,U⟩)/\(∀q,c.frozen? ⟨Z w1.1,q,U⟩=Sn)/\Sw (Z w1.1) wr c:=by
 let⟨m,n,o,p⟩:=h.1.app1 d r i;have u:=h.5;have t:=d.4;have s:Z (D wr l).1=Z wr.1+1:=aO _ _;have j:∀k,k<Z wr.1->Z w1.1<k->¬Ak (X p1 b1 c1) (X p2 b2 c2) k->(Se c (A (Z w1.1) 0) (X b (b1+1) a)).1[k]?=wr.1[k]?:=λk q1 q2 q3=>G (cY<|by dsimp only;omega) (G (d.5 k O λe=>q3<|bC e.symm) (gF _ _ _ q1))
 have g:∀k,Ak (X b (b1+1) a) (X p2 b2 c2) k->Ak (X p1 b1 c1) (X p2 b2 c2) k\/Z wr.1<=k:=λk f=>by
  obtain e|e:=f
  .rcases i with q|q;·exact bC<|bC (q▸e)
   rw[q]at e;have:=gQ e;omega
  exact bC<|aZ e
 exact zMA00
theorem Oa.app2{c:Ub}{l}{b:Uy}{a}(h:Oa w1 w2 wr U_ V Pr bp b1 p1 c1 b2 p2 c2)(d:(D wr l).grownBy c (X p2 b2 c2).ownBlock)(r:Sx c (Z w1.1+1) 4 1 (X b (b2+1) a) (b2+1) ((Rg b2).map V++[V b2]))(i:(X b (b2+1) a).ownBlock=(X p2 b2 c2).ownBlock\/(X b (b2+1) a).ownBlock=S (Z wr.1+1)):
 Oa w1 w2 (Se c ⟨Z w1.1,1,U⟩ (X b (b2+1) a)) U_ V Pr bp b1 p1 c1 (b2+1) b a/\(∀q,E c ⟨Z w1.1,q,U⟩=E wr ⟨Z w1.1,q,U⟩)/\(∀q,c.frozen? ⟨Z w1.1,q,U⟩=Sn)/\Sw (Z w1.1) wr c:=by
 let⟨m,n,o,p⟩:=h.1.app2 d r i;have u:=h.5;have t:=d.4;have s:Z (D wr l).1=Z wr.1+1:=aO _ _;have j:∀k,k<Z wr.1->Z w1.1<k->¬Ak (X p1 b1 c1) (X p2 b2 c2) k->(Se c (A (Z w1.1) 1) (X b (b2+1) a)).1[k]?=wr.1[k]?:=λk q1 q2 q3=>G (cY<|by dsimp only;omega) (G (d.5 k O λe=>q3<|aZ e.symm) (gF _ _ _ q1))
 have g:∀k,Ak (X p1 b1 c1) (X b (b2+1) a) k->Ak (X p1 b1 c1) (X p2 b2 c2) k\/Z wr.1<=k:=λk f=>by
  obtain e|e:=f;·exact bC<|bC e
  obtain q|q:=i;·exact bC<|aZ (q▸e)
  rw[q]at e;have:=gQ e;omega
 exact zMA00
end
def ML(w:Ub)(L B:N)(c:Uy)(a:List Bool):Prop :=
 ∀i (h:i<J a),∃b o,c=S ⟨b,o,U⟩/\(L<=b/\b<B)/\E w ⟨b,o+i,U⟩=S (Sb a[i])
structure MX(w:Ub)(L B:N)(Pr:Tm)(Rc:List Bool)(P Od:Wc)(a1 a2 a3 a4:Uy):Prop where
 p:XR w L B a1 Pr
 r:ML w L B a2 Rc
 i:Xf w L B a3 P
 o:Xf w L B a4 Od
def Pq(a:Wi):Tm:=(Rg (J a)).map λi:N=>AQ a 0 (i:I)
def Pe(a:Wi):List Bool:=(Rg (J a)).map λz=>Xh (Zp a).1 z
theorem UF.ex{a}(h:UF a):∀b,b<J a->(∃d,O6 (X8 a) d b)\/∀c,JO (X8 a) c b->c=b:=λb e=>by
 classical
 have f:∀b,b<J a->∀x,x<J a->(Xh (E2 (λ_=>0) ((Rg (J a)).filter λx=>Jd (Av (X8 a) x b))) x=So↔Av (X8 a) x b):=λb _ x g=>by rw[YR,Z3,jU,bD,fG,bE,bD];exact⟨λq=>q.2,λq=>⟨g,q⟩⟩
 have:=UR h.top.2.2.1 h.top.1 h.re h.top.2.2.2 (Ws:=λb=>E2 (λ_=>0) ((Rg (J a)).filter λx=>Jd (Av (X8 a) x b))) f;obtain⟨d,ha,_⟩|⟨q,_⟩:=this.2 b e;·exact bC ⟨d,ha⟩
 exact aZ q
theorem UF.model{a}(h:UF a):YX (X8 a) (J a) ((Rg (J a)).map (L0<|(Rg (J a)).map (Zq (X8 a) (J a)))):=Wf h.re h.ex
end
def Kp(a:Wc)(v:I):I:=a.getD v.toNat 0
def ZR(a:Wc)(x:Yg):Yg:=⟨x.1,if dB x.1=So then Kp a x.2 else x.2,if aB x.1=So then Kp a x.a else x.a,if bB x.1=So then Kp a x.b else x.b,x.5⟩
def NN(a:Wc)(t:Yj):Yj:=⟨t.1,if t.1=1 then t.a else Kp a t.a,t.3,t.4⟩
def iT(a:Wi)(t:I):Za:=match a[t.toNat]? with|some x=>x.1|none=>[]
def NU(a:Wc)(b:Wi)(p:N)(t:I):Wy:=(E9 (de (AQ b 0 t) (p:I)) (iT b t)).map λq=>⟨Kp a q.1,Kp a q.2⟩
def NL(a:Wc)(b:Wi)(p:N)(t:I):Vr:=dp<|NU a b p t
def ah(a:Wc)(b:Wi)(p:N)(t:I)(m:N):I×List ag:=if NL a b p t=[]then (t,[])else ((m:I),[⟨NL a b p t,⟨1,0,t,0⟩⟩])
def Nk(a:Wc)(c:Wi)(b:N)(x:Xe)(m:N):ag×List ag :=
 if x.3.1=1 then (⟨x.2.map (ZR a)++NL a c b x.3.3,NN a x.3⟩,[])
 else if x.3.1=2 then (⟨x.2.map<|ZR a,⟨x.3.1,Kp a x.3.a,(ah a c b x.3.3 m).1,(ah a c b x.3.4<|m+J (ah a c b x.3.3 m).2).1⟩⟩,(ah a c b x.3.3 m).2++(ah a c b x.3.4<|m+J (ah a c b x.3.3 m).2).2)
 else (⟨x.2.map<|ZR a,NN a x.3⟩,[])
def ae(c:List I)(a:List Xe):N->List ag×List ag
 |0=>([],[])
 |b+1=>match a[b]? with
  |none=>ae c a b
  |some x=>((ae c a b).1++[(Nk c a b x<|J a+J (ae c a b).2).1],(ae c a b).2++(Nk c a b x<|J a+J (ae c a b).2).2)
def NK(b:Wc)(a:Wi):List ag:=(ae b a (J a)).1++(ae b a (J a)).2
theorem ou(c:Wc)(a:Wi)(b)(h:b<J a):ae c a (b+1)=((ae c a b).1++[(Nk c a b a[b] (J a+J (ae c a b).2)).1],(ae c a b).2++(Nk c a b a[b] (J a+J (ae c a b).2)).2):=by rw[ae,aC h]
theorem ll(c:Wc)(a:Wi):∀b,b<=J a->J (ae c a b).1=b
 |0,_=>R
 |b+1,h=>by rw[ou c a b O,aQ,ll c a b O];rfl
theorem m6(a b p t m):J (ah a b p t m).2<=1:=by unfold ah;split<;>simp
theorem Iu(a c b x m):J (Nk a c b x m).2<=2:=by
 unfold Nk;split;·simp
 split
 .have d:=m6 a c b x.3.3 m;have e:=m6 a c b x.3.4<|m+J (ah a c b x.3.3 m).2;rw[aQ];omega
 simp
theorem oz(c:Wc)(a:Wi):∀b,b<=J a->J (ae c a b).2<=2*b
 |0,_=>by simp[ae]
 |b+1,h=>by have d:=oz c a b O;have e:=Iu c a b a[b] (J a+J (ae c a b).2);rw[ou c a b O,aQ];omega
theorem pD(h:n<J x):iT x (n:I)=x[n].1:=by unfold iT;rw[dM,aC h]
theorem zT{c:Type}(f:N->List c):∀(n i:N),i<n->(∀j,j<n->j≠i->f j=[])->(Rg n).flatMap f=f i
 |0,i,h,_=>Sz h<|wA _
 |n+1,i,h,hf=>by
  rw[dN,eZ];by_cases e:i=n
  .subst e;have:(Rg i).flatMap f=[]:=List.flatMap_eq_nil_iff.2 λj a=>hf j (oN<|bE.1 a) (oN<|bE.1 a);rw[this];simp
  rw[zT f n i O λj d b=>hf j O b];have:f n=[]:=hf n O λq=>e q.symm;simp[this]
theorem Kh(e:m<J x)(i:(n:I)∈AQ x 0 (m:I)):G2 x (n:I) (m:I)=(E9 (de (AQ x 0 (m:I)) (n:I)) (iT x (m:I))).map (λq=>q.2):=by
 have c:=pC i;have d:=yq c;have g:=r5 m x 0;rw[pD e];unfold G2;rw[dM,aC e];dsimp only;by_cases b:x[m].1=[];·rw[aU b,b];rfl
 rw[aM b];generalize AQ x 0 m=a at*;rw[zT _ (J a) (de a n) c λj f h=>?_]
 .rw[aU<|by rw[bF,aC c,d];rfl];simp[E9]
 rw[aM λq=>h ?_];rw[bF,aC f]at q;exact(List.getElem_inj g).1 (show a[j]=a[de a n] by rw[d];exact q)
def Pf(w a:Ub)(e d b c i:I):Prop:=Sw (Z w.1) w a/\Bx a (Z w.1) #[Si S6 e,Si S6 d,Si S6 b,Si S6 c,Si S6 i] 62/\Bx a (Z w.1+1) #[Si S6 0,Si S6 0,Si S6 0,Si S6 0,Si S6 0] 62
theorem jq(h:Xf w n m p l){v:I}(f:0<=v)(g:v<J l):∃b o k,v=((k:N):I)/\k<J l/\p=S (A b o)/\(n<=b/\b<m)/\E w (A b<|o+k)=S (H<|Kp l v):=by obtain⟨k,rfl⟩:∃k:N,v=(k:I):=⟨v.toNat,O⟩;have a:k<J l:=O;let⟨b,o,e,c,d⟩:=h k a;refine⟨b,o,k,R,a,e,c,?_⟩;unfold Kp;rw[dM,bF,aC a];exact d
theorem yL{x:Yg}(v:Q (Xf w k B p l))(o:Q (n=J l))(u:B<=Z w.1)(t:Q (dB x.1=So->0<=x.2/\x.2<n))(ha:Q (aB x.1=So->0<=x.a/\x.a<n))(L:Q (bB x.1=So->0<=x.b/\x.b<n)):
 Sk prog 53 #[Sa #[H x.1,H x.2,H x.a,H x.b,H x.5],X p n m] w λt_ U_=>t_=Rt (Sa #[H (ZR l x).1,H (ZR l x).2,H (ZR l x).a,H (ZR l x).b,H (ZR l x).5])/\Sw (Z w.1) w U_:=by
 let⟨b,c,d,e,i⟩:=x;dsimp only at*
 go_in
 go_wp2_with fail
 have a:Q (Pf w (D (D w<|Sc #[H b,H c,H d,H e,H i] 62) (Sc #[H 0,H 0,H 0,H 0,H 0] 62)) b c d e i):=Y ⟨Xb (Xb Rf _) _,(Bx.new _ _ _).box _,by have:=Bx.new (D w<|Sc #[H b,H c,H d,H e,H i] 62) #[H 0,H 0,H 0,H 0,H 0] 62;rw[aO]at this;exact this⟩;generalize D (D w _) _=X_ at*;refine YU U9 λr q=>?_;subst q;rw[xj]
 go_upto_if 7 with fail
 go_cut []from 5 to 32 λs=>Q<|Pf w s b (if dB b=So then Kp l c else c) d e i
 case first=>
  cases hB0:dB b with
  |true=>
   obtain⟨z,M,h,g,F,rfl,C,P⟩:=jq (v.keep<|a.1.mono u) (t hB0).1 (oP ((t hB0).2) o.o);have T:(h:I)<n:=oN o.o;have V:(0:I)<=h:=O;have W:E r (A (Z w.1) 1)=S (H h):=by rw[<-g];exact ZY a.2.1 R
   have K:=Bx.thaw a.2.1;have f:=Y hB0;clear hB0;have y:=Y g;clear g;go_wp2;go_meet;rw[show(if dB b=So then Kp l c else c)=Kp l c from aU f.o];exact Y ⟨a.1.setCell (p:=A (Z w.1) 1) aA _,a.2.1.set 1 _,a.2.2.other O⟩
  |false=>
   have f:=Y hB0;clear hB0;go_wp2;go_meet;rw[show(if dB b=So then Kp l c else c)=c from aM (by rw[f.o];simp)];exact a
 have a:=hcut;clear hcut;generalize wc=V_ at*;have L_:Cl V_ (Z w.1) 0 (H b):=ZY a.2.1 R;go_wp2_with fail
 refine YU U9 λr q=>?_;subst q;rw[xh]
 go_upto_if 16 with fail
 go_cut []from 5 to 32 λs=>Q<|Pf w s b (if dB b=So then Kp l c else c) (if aB b=So then Kp l d else d) e i
 case first=>
  cases hB1:aB b with
  |true=>
   obtain⟨z,M,h,g,F,rfl,C,P⟩:=jq (v.keep<|a.1.mono u) (ha hB1).1 (oP ((ha hB1).2) o.o);have T:(h:I)<n:=oN o.o;have V:(0:I)<=h:=O;have W:E r (A (Z w.1) 2)=S (H h):=by rw[<-g];exact ZY a.2.1 R
   have K:=Bx.thaw a.2.1;have f:=Y hB1;clear hB1;have y:=Y g;clear g;go_wp2;go_meet;rw[show(if aB b=So then Kp l d else d)=Kp l d from aU f.o];exact Y ⟨a.1.setCell (p:=A (Z w.1) 2) aA _,a.2.1.set 2 _,a.2.2.other O⟩
  |false=>
   have f:=Y hB1;clear hB1;go_wp2;go_meet;rw[show(if aB b=So then Kp l d else d)=d from aM (by rw[f.o];simp)];exact a
 have a:=hcut;clear hcut;generalize wc=W_ at*;have L_:Cl W_ (Z w.1) 0 (H b):=ZY a.2.1 R;go_wp2_with fail
 refine YU U9 λr q=>?_;subst q;rw[xg]
 go_upto_if 25 with fail
 go_cut []from 5 to 32 λs=>Q<|Pf w s b (if dB b=So then Kp l c else c) (if aB b=So then Kp l d else d) (if bB b=So then Kp l e else e) i
 case first=>
  cases hB2:bB b with
  |true=>
   obtain⟨z,M,h,g,F,rfl,C,P⟩:=jq (v.keep<|a.1.mono u) (L hB2).1 (oP ((L hB2).2) o.o);have T:(h:I)<n:=oN o.o;have V:(0:I)<=h:=O;have W:E r (A (Z w.1) 3)=S (H h):=by rw[<-g];exact ZY a.2.1 R
   have K:=Bx.thaw a.2.1;have f:=Y hB2;clear hB2;have y:=Y g;clear g;go_wp2;go_meet;rw[show(if bB b=So then Kp l e else e)=Kp l e from aU f.o];exact Y ⟨a.1.setCell (p:=A (Z w.1) 3) aA _,a.2.1.set 3 _,a.2.2.other O⟩
  |false=>
   have f:=Y hB2;clear hB2;go_wp2;go_meet;rw[show(if bB b=So then Kp l e else e)=e from aM (by rw[f.o];simp)];exact a
 have a:=hcut;clear hcut;generalize wc=j at*;have L_:Cl j (Z w.1) 0 (H b):=ZY a.2.1 R;have Y_:Cl j (Z w.1) 1 (H<|if dB b=So then Kp l c else c):=ZY a.2.1 R;have Z_:Cl j (Z w.1) 2 (H<|if aB b=So then Kp l d else d):=ZY a.2.1 R;have z3:Cl j (Z w.1) 3 (H<|if bB b=So then Kp l e else e):=ZY a.2.1 R;have z4:Cl j (Z w.1) 4 (H i):=ZY a.2.1 R;have P_:Cl j (Z w.1+1) 0 (H 0):=ZY a.2.2 R;have Q_:Cl j (Z w.1+1) 1 (H 0):=ZY a.2.2 R;have R_:Cl j (Z w.1+1) 2 (H 0):=ZY a.2.2 R;have S_:Cl j (Z w.1+1) 3 (H 0):=ZY a.2.2 R;have T_:Cl j (Z w.1+1) 4 (H 0):=ZY a.2.2 R;have rz:=Bx.thaw a.2.2;have M_:Q (ZR l ⟨b,c,d,e,i⟩=⟨b,(if dB b=So then Kp l c else c),(if aB b=So then Kp l d else d),(if bB b=So then Kp l e else e),i⟩):=Y R;generalize (if dB b=So then Kp l c else c)=d1 at*;generalize (if aB b=So then Kp l d else d)=N_ at*;generalize (if bB b=So then Kp l e else e)=O_ at*;go_wp2;rw[M_.o];refine YL (v:=Sa #[H b,H d1,H N_,H O_,H i]) ⟨R,?_⟩;exact((((a.1.setCell (p:=A (Z w.1+1) 0) sP _).setCell (p:=A (Z w.1+1) 1) sP _).setCell (p:=A (Z w.1+1) 2) sP _).setCell (p:=A (Z w.1+1) 3) sP _).setCell (p:=A (Z w.1+1) 4) sP _
theorem Mh{a}(ha:Q (gj w m k p a))(h:Q (n=J a))(hn:n<=1048576)(X_:k<=Z w.1):
 Sk prog 102 #[X p n c] w λj M=>∃v,j=Rt v/\v≠Hq/\Sw (Z w.1) w M/\Sx M (Z w.1) 62 5 v (J (dp a)) (ZP<|dp a):=by
 have i:=Y<|I4 c ha h hn X_;cases hg:bw a with
 |false=>
  have s:Q (dp a=[]):=Y (by unfold dp;rw[hg];rfl);rw[hg]at i;clear hg
  go_in
  go_wp2_with (go_at_call 157;refine YU i λy e=>?_)
  go_ret;refine⟨_,R,sP,Xg e<|Xb Rf _,?_⟩;rw[s.o];exact Zk (m7 y) e.4
 |true=>
  let⟨W_,z⟩:=rK hg;have s:Q (dp a=ax (2*J (bu a)) (bu a)):=Y (by unfold dp;rw[aU hg]);have U_:=Y z.start.1;have a0:n<=64:=oN h.o;rw[hg]at i;clear hg z W_
  go_in
  go_wp2_with (go_at_call 157;refine YU i λy e=>?_;have N_:=Y e;have s1:=e.4;clear e)
  go_loopw [3,4] (λv u wr=>∃q:N,q<=n/\u=H q/\Q (Sw (Z w.1) w wr)/\Q (Sx wr (Z w.1) 176 2 v (J (bu<|a.take q)) (Ng<|bu (a.take q)))) λ_ u _=>n-(JB u).toNat
  .exact⟨0,aN,R,Y<|N_.alloc s1 _,Y<|by rw[lK];exact Zk (sJ y) s1⟩
  obtain⟨q,hq,rfl,b,d⟩:=hrel;have a2:=b.4;by_cases az:q<n
  .have K:q<J a:=oN h.o
   obtain⟨ao,a3,rfl,ap,B,C⟩:=ha q K;have e0:=G (XU b O) B;have e1:=G (XU b O) C;have g:Q (bu (a.take<|q+1)=bu (a.take q)++(if a[q].1=a[q].2 then []else [a[q]])):=Y (by
    unfold bu;rw[bN K,eU];congr 1;by_cases l:a[q].1=a[q].2;·rw[aU l,sk<|by simp[l]];rfl
    rw[aM l,sC<|by simpa using l];rfl)
   have z_:Q (J (bu<|a.take q)<=64):=Y (aJ (fJ _ _) SB);clear B C;generalize hm:a[q]=al at*;let⟨x,t⟩:=al;dsimp only at*;clear hm;generalize bu (a.take q)=f at*;by_cases o:x=t
   .rw[aU o,fF]at g;subst o;go_wp2;go_region;go_wp2;exact⟨⟨q+1,O,gM,Y b.drew,Y<|by rw[g.o];exact d⟩,SA⟩
   rw[aM o]at g;have aq:(x==t)=Sn:=by simpa using o
   go_wp2;go_region;go_wp2_with (at_builtin;refine YC (w:=wr.drew) RA d ?_ (oN z_.o))
   intro v1 w2 L F ad Y_;have S_:Q (Sx w2 (Z w.1) 176 2 v1 (J (bu<|a.take (q+1))) (Ng<|bu (a.take<|q+1))):=Y (by rw[g.o,nf,aQ];exact L)
   have O_:=Y (Xy ((b.drew).alloc (by show Z w.1<=Z wr.1;omega) _) F (World.ownsRow.alloc (w:=wr.drew) d _) aA SB);clear L F ad Y_ d b g;go_wp2;exact⟨⟨q+1,O,gM,O_,S_⟩,SA⟩
  have a1:q=n:=O;have P:=Y (by have:=d.o;rwa[aW<|oN h.o]at this);have aj:J (bu a)<=64:=aJ (fJ _ _) (oN h.o);clear d;generalize bu a=f at*;obtain⟨V_,k4,af,-,ar,T⟩:=m9 P;have Q_:=Y T;subst af;clear T P;go_wp2_with fail
  have r:=Lt (2*J f) V_ (J f) k4 f _ _ wr Q_ (Y R) U_ aj O aA;rw[show((2*J f:N):I)=2*(J f:I) by omega]at r;refine r.mono ?_;rintro j w7⟨v7,rfl,V,W,I_⟩;have T_:=Y I_;have P_:=Y<|Xg b W;have R_:=Y V;clear I_ W V r;go_wp2;go_ret;refine⟨_,R,R_,P_,?_⟩;rw[s.o];exact Zk T_ O
theorem ym(e:Jy n x)(a:k<J x)(g:(m:I)∈AQ x 0 (k:I)):∀q∈E9 (de (AQ x 0 (k:I)) (m:I)) (iT x (k:I)),(0<=q.1/\q.1<n)/\(0<=q.2/\q.2<n):=by
 intro q hq;rw[pD a]at hq;unfold E9 at hq;obtain⟨h,c,rfl⟩:=aY.1 hq;have b:=e.9 k a h c;have f:=pC g;refine⟨e.8 _ (aH a) h c,?_⟩;have d:de (AQ x 0 k) m<J h.2:=by rw[b.1];exact f
 rw[bF,aC d];exact b.2 _<|aH d
theorem sj(c cc){b t:N}(ha:Q (Xp w k B p x))(hx:Q (m=J x))(hB:B<=Z w.1)(ho:Q (Jy n x))(ck:Q (∀ct∈x,J ct.1<=1048576))(W:Q (Xf w i j P l))(L:Q (g=J l))(a5:Q (g=n))(a2:j<=Z w.1)(cn:t<m)(hp:Q ((b:I)∈AQ x 0 (t:I))):
 Sk prog 54 #[Sa #[H n,X p m c],X P g cc,H b,H t] w λe h=>∃y,e=Rt y/\y≠Hq/\Sw (Z w.1) w h/\Sx h (Z w.1) 62 5 y (J (NL l x b (t:I))) (ZP<|NL l x b (t:I)):=by
 obtain⟨i0,ch,cp,cr,cs⟩:=fX RA;have K:t<J x:=oN hx.o;have a0:=Y<|ym ho K hp;have S_:=Y<|Kh K hp;have V_:Q (NU l x b t=(E9 (de (AQ x 0 t) b) (iT x t)).map λr=>⟨Kp l r.1,Kp l r.2⟩):=Y R;have F:Q (E9 (de (AQ x 0 t) b) (iT x t)=E9 (de (AQ x 0 t) b) x[t].1):=Y (by rw[pD K]);have bp:Q (NL l x b t=dp (NU l x b t)):=Y R;have az:=Y<|ck.o _ (aH K)
 go_in
 go_wp2_with fail
 have HA:=Y<|ha.keep (vT (dC B w) hB (Sc #[H n,X p m c] 45));refine(tY c b HA hx SB ho cn).mono ?_;rintro e d⟨ad,c',rfl,I_,H_⟩;rw[aO]at I_ H_;have af:=Y (Xg (Xb Rf _) (by rw[aO];exact I_));have al:Q (Bx d (Z w.1) #[H n,X p m c] 45):=Y<|(Bx.new w _ _).keep (I_.5 _ O);obtain⟨T,hT⟩:∃T,T=E9 (de (AQ x 0 t) b) (iT x t):=⟨_,R⟩;rw[<-hT]at a0 S_ V_ F;rw[S_.o]at H_ |-;rw[bK]at |-;obtain⟨f,N_⟩:∃f,f=J T:=⟨_,R⟩;have ci:f<=1048576:=by rw[N_,F.o];have:=az.o;simpa [E9]using this
 rw[<-N_];have HM:=Y N_;have bn:=Y H_;have bh:=al.lt;clear H_ hT N_ I_;go_wp2
 go_loopw [10,11] (λy ac wr=>∃a:N,a<=f/\ac=H a/\Q (Sw (Z d.1) d wr)/\Q (Sx wr (Z d.1) 176 2 y (J ((NU l x b t).take a)) (Ng<|(NU l x b t).take a))/\Q (y≠Hq)) λ_ ac _=>f-(JB ac).toNat
 .exact⟨0,aN,R,Y<|Xb Rf _,Y (by have:=eI (base:=Z d.1) (e:=176) (size:=2) d #[] 0 aA sP R;exact this),Y sP⟩
 obtain⟨a,hj,rfl,o,M,HV⟩:=hrel;have z:Q (J (NU l x b t)=f):=Y (by rw[V_.o,bK];exact HM.symm);by_cases df:a<f
 .have M_:a<J T:=oN HM.o;have aa:=a0 _<|aH M_;have R_:=Y<|Xg af o;obtain⟨G_,q,rfl,⟨_,cx⟩,ce⟩:=ha.keep (R_.mono hB) t K;obtain⟨pa,pc,ia,ic,e0,_,_,bf,_⟩:=ce;have ba:a<J x[t].1:=by have:=F.o;rw[this]at M_;simpa [E9]using M_
  obtain⟨pb,po,rfl,⟨_,dj⟩,cf⟩:=bf a ba;obtain⟨pq,pr,X_,cl,cm⟩:=cf;clear cl cm;have a8:x[t].1[a].1=T[a].1:=by simp[F.o,E9]
  rw[a8]at X_;obtain⟨ab,ao,Y_,⟨_,b4⟩,K_⟩:=bn a (by simpa using M_);injection Y_ with Y_;subst Y_;rw[cM]at K_;have U_:Q ((NU l x b t).take (a+1)=(NU l x b t).take a++[⟨Kp l T[a].1,Kp l T[a].2⟩]):=Y (by rw[bN<|oN z.o];congr 1;simp[V_.o])
  have v:Q (J ((NU l x b t).take a)=a):=Y (by rw[dH,z.o];omega);obtain⟨W_,co,O_,bi,da,rfl,cz,a6⟩:=jq (W.keep<|R_.mono a2) aa.1.1 (oP L.o a5.o);obtain⟨cv,cw,Q_,bl,dc,Z_,c6,a7⟩:=jq (W.keep<|R_.mono a2) aa.2.1 (oP L.o a5.o);injection Z_ with Z_;injection Z_ with b8 cd;subst b8 cd;rw[bi]at X_ a6 U_;rw[bl]at K_ a7 U_;have db:(O_:I)<g:=oN L.o;have dd:(Q_:I)<g:=oN L.o
  have dk:(a:I)<((J x[t].1:N):I):=O;have c9:(a:I)<f:=O;have dl:(t:I)<m:=O;have ca:=G (XU o O) K_;have f1:Cl wr (Z w.1) 1 (Hm G_ q m c):=G (o.cell (p:=A (Z w.1) 1) bh) (ZY al R);have b7:=o.4;have dn:Z w.1<Z wr.1:=O;have b6:G_<Z d.1:=O;have cj:pb<Z d.1:=O;have a4:W_<Z d.1:=O;obtain⟨u,C,V⟩:∃u C,u10=X u (J ((NU l x b t).take a)) C:=by
   obtain⟨e,a1,_⟩|⟨u,C,e,_⟩:=Vc M;·exact Sz e HV
   exact⟨_,_,e⟩
  rw[v.o]at V;subst V;clear a8 ba bf K_;generalize J x[t].1=pl at*;generalize Kp l O_=z1 at*;generalize Kp l Q_=z2 at*;clear bi bl aa;go_wp2;refine Y7 (λh=>E h (A (Z w.1) 1)=S (Hm G_ q m c)/\E h (A G_<|q+t*6)=S (Hm pb po pl pc)/\E h (A pb<|po+a*2)=S (H O_)/\E h (A W_<|co+O_)=S (H z1)/\E h (A ab<|ao+a)=S (H Q_)/\E h (A W_<|co+Q_)=S (H z2)) λig=>?_;refine Xn 0 ?_;(iterate 21 refine Rm ?_);refine Xs 22 λb0 hK=>?_;go_simp;refine hK _ _ kP λig=>?_;clear hK;refine Xs 23 λb0 hK=>?_;refine d6 R _ _ 174 R (Z d.1) 176 i0 (Sa #[H 0,H 0]) 2 16 underlying174 ch cp cr cs R vY (X u a C) a (Ng<|(NU l x b t).take a) R ?s1 (A (Z wr.1) 0) 1 1 [H z1,H z2] R R ?s2 ?s3 ?s4 ?s5 ?s6 ?_
  case s1=>rw[<-v.o];exact(World.ownsRow.alloc (w:=wr.drew) (by rw[v.o];have:=M.o;rw[v.o]at this;exact this) _)
  case s2=>exact ng _
  case s3=>intro ds hu;simp at hu;obtain rfl|rfl:=hu<;>rfl
  case s4=>unfold maxLen;omega
  case s5=>omega
  case s6=>simp;omega
  intro v8 w8 be a9 bc b5;have ar:Q (Sx (D wr.drew<|Sc #[H z1,H z2] 176) (Z d.1) 176 2 (X u a C) a (Ng<|(NU l x b t).take a)):=Y (World.ownsRow.alloc (w:=wr.drew) (by have:=M.o;rw[v.o]at this;exact this) _);have aj:=Y (Xy (vT o.drew (show Z d.1<=Z wr.1 from b7) _) a9 ar aA SB);have bt:Q (Sx w8 (Z d.1) 176 2 v8 (J ((NU l x b t).take (a+1))) (Ng<|(NU l x b t).take (a+1))):=Y (by rw[U_.o,nf,aQ,v.o];exact be)
  have bx:Q (v8≠Hq):=Y (λe=>by have:=(bc.1 e).2;omega);have s:∀r q,r<Z d.1->E w8 (A r q)=E wr (A r q):=λr q hq=>oB aj (o.cell (p:=A r q) hq).symm hq;refine hK _ _ ⟨G (s _ _ bh) f1,G (s _ _ b6) e0,G (s _ _ cj) X_,G (s _ _ a4) a6,G (s _ _ b4) ca,G (s _ _ a4) a7⟩ λig=>?_;clear hK be a9 bc b5 s
  refine Xn 24 ?_;refine Yq ?_;clear ig;go_wp2;exact⟨⟨a+1,O,gM,aj,bt,bx⟩,SA⟩
 have HE:Q ((NU l x b t).take a=NU l x b t):=Y (aW<|by rw[z.o];omega);have ap:=M;rw[HE.o]at ap;obtain⟨aq,cq,V,_,_,bb⟩:=m9 ap;rw[z.o]at V;have di:a=f:=O;have bq:=Y bb;subst V;have c7:¬(a:I)<f:=O;clear bb M;go_wp2_with fail
 refine(Mh bq (Y z.symm) ci aA).mono ?_;rintro e w5⟨v5,rfl,bm,a3,bd⟩;have bo:=Y<|Xg (Xg af o) a3;have br:Q (Sx w5 (Z w.1) 62 5 v5 (J (NL l x b t)) (ZP<|NL l x b t)):=Y (by
  rw[bp.o];obtain⟨hl,a1|⟨u,b1,b3,e,hg,hh,W⟩⟩:=bd;·exact⟨hl,bC a1⟩
  have:=o.4
  exact⟨hl,aZ ⟨u,b1,b3,e,O,hh,W⟩⟩)
 have bv:=Y bm;clear a3 bd bm;go_wp2;go_ret;exact⟨_,R,bv,bo,br⟩
section
def Nf(i:Uj)(t:Yj):Wo:=[i,Si S6 t.1,Si S6 t.a,Si S6 t.3,Si S6 t.4]
def NH(iv:Vu)(xs:List ag):Wo:=Yu (λi x=>Nf (iv i) x.2) 0 xs
theorem Hx{iv}{xs:List ag}(x:ag):NH iv (xs++[x])=NH iv xs++Nf (iv (J xs)) x.2:=by unfold NH;rw[Zo,aV]
theorem rQ{iv jv}{xs:List ag}(h:∀i,i<J xs->iv i=jv i):NH iv xs=NH jv xs:=by
 unfold NH;have e:∀(a:List ag)(k:N),(∀i,i<J a->iv (k+i)=jv (k+i))->Yu (λi x=>Nf (iv i) x.2) k a=Yu (λi x=>Nf (jv i) x.2) k a:=by
  intro a
  induction a with
  |nil=>intro k _;rfl
  |cons y r d=>
   intro k c;show Nf (iv k) y.2++Yu _ (k+1) r=Nf (jv k) y.2++Yu _ (k+1) r;rw[show iv k=jv k from c 0 sP,d (k+1) λi b=>by have:=c (i+1) SJ;rwa[show k+(i+1)=k+1+i by omega]at this]
 exact e xs 0 λi b=>by rw[aV];exact h i b
theorem pE(iv)(xs:List ag):J (NH iv xs)=J xs*5:=Zn (sz:=5) (λ_ _=>R) _ _
variable{w w':Ub}{lab lab':N->N×N×N}{base:N}{ok:N->Prop}
theorem Xv.fresh{L:N×N×N}{t g n:N}{v:Uj}{d:Wo}(a:Sw (Z w.1) w w')(c:Sx w' (Z w.1) t g v n d)(s:base<=Z w.1)(p:∀b,Z w.1<=b->lab b=(0,0,0)):
 ∃lab',Xv w' lab' L base t g v n d/\XW w w' lab lab' base (λ_=>True):=by
 refine⟨λb=>if v.ownBlock=S b then L else lab b,⟨?_,λb e=>aU e⟩,a.4,λb r l _=>⟨a.5 b l,aM λe=>?_⟩,λ_ b m=>G (aM λe=>?_) (p b<|aJ a.4 m)⟩
 .obtain⟨f,k|⟨j,h,i,e,u,q,o⟩⟩:=c;·exact⟨f,bC k⟩
  exact⟨f,aZ ⟨j,h,i,e,O,q,o⟩⟩
 .have:=(c.lt b e).1;omega
 have:=(c.lt b e).2;omega
structure Nh(w:Ub)(lab:N->N×N×N)(base:N)(v:Uj)(K J_:N)(xs:List ag)(iv:Vu):Prop where
 blks:Xv w lab (K,0,0) base 60 5 v (J xs) (NH iv xs)
 ins:∀i (h:i<J xs),Xv w lab (J_,i,0) base 62 5 (iv i) (J xs[i].1) (ZP xs[i].1)
variable{v v':Uj}{K J_:N}{xs:List ag}{iv:N->Uj}
theorem Nh.nil:Nh w lab base Hq K J_ [] iv:=⟨⟨dA,λb e=>by cases e⟩,λi h=>Sz h<|wA _⟩
theorem Nh.sp(h:Nh w lab base v K J_ xs iv)(k:XW w w' lab lab' base ok)(d:∀b,lab b=(K,0,0)->ok b)(c:∀b i,i<J xs->lab b=(J_,i,0)->ok b):Nh w' lab' base v K J_ xs iv :=
 ⟨h.1.sp k d,λi a=>(h.2 i a).sp k λb e=>c b i a e⟩
theorem Nh.push(h:Nh w lab base v K J_ xs iv)(g:K≠J_)(x:ag){q}(hq:Xv w lab (J_,J xs,0) base 62 5 q (J x.1) (ZP x.1))(l:w.grownBy w' v.ownBlock)(m:Sx w' base 60 5 v' (J xs+1) (NH iv xs++Nf q x.2))(j:v'.ownBlock=v.ownBlock\/v'.ownBlock=S (Z w.1))(k:∀b,Z w.1<=b->lab b=(0,0,0)):
 ∃lab',Nh w' lab' base v' K J_ (xs++[x]) (λi=>if i=J xs then q else iv i)/\XW w w' lab lab' base (λb=>lab b≠(K,0,0)):=by
 let⟨lab',n,a⟩:=h.1.grow l m j k;have f:∀i b,lab b=(J_,i,0)->lab b≠(K,0,0):=λi b e q=>g (by rw[e]at q;injection q with q;exact q.symm);refine⟨lab',⟨?_,λi c=>?_⟩,a⟩
 .have e:NH (λi=>if i=J xs then q else iv i) (xs++[x])=NH iv xs++Nf q x.2:=by
   rw[Hx,aU R,rQ (jv:=iv) λi c=>aM O]
  rw[e,aQ,nR];exact n
 by_cases e:i=J xs
 .subst e;rw[aU R];have e2:(xs++[x])[J xs]=x:=sP;rw[e2];exact hq.sp a λb e=>f _ b e
 rw[aM e];have d:i<J xs:=by rw[aQ,nR]at c;omega
 rw[fA d];exact(h.2 i d).sp a λb e=>f _ b e
theorem lq{g n c i}(h:Xv w lab (K,0,0) base 60 5 (Hl g n c) n (NH iv xs))(a:i<J xs){q:N}{u:Uj}(hq:q<5)(b:(Nf (iv i) xs[i].2)[q]?=S u):E w (A g<|i*5+q)=S u:=h.cell (by unfold NH;rw[Xz (sz:=5) (λ_ _=>R) 0 xs i a q hq,aV];exact b)
theorem rH:∀(a:Vr)(k:N),ZP a=Yu (λ_ x=>[H x.1,H x.2,H x.a,H x.b,H x.5]) k a
 |[],_=>R
 |y::r,k=>by rw[rM,rH r<|k+1];rfl
theorem Xv.inss{L:N×N×N}{d:Uy}{n c}{a:Vr}(h:Xv w lab L base 62 5 (X d n c) (J a) (ZP a)):YY w base (Z w.1) d a:=λi f=>by
 let⟨g,k,e⟩:=h.got O;cases e;have b:∀q u,q<5->([H a[i].1,H a[i].2,H a[i].a,H a[i].b,H a[i].5]:Wo)[q]?=S u->E w (A g<|i*5+q)=S u:=λq u hq j=>h.cell (by rw[rH a 0,Xz (sz:=5) (λ_ _=>R) 0 a i f q hq];exact j)
 refine⟨g,0,R,h.blk.1,?_⟩;rw[aV];exact⟨b 0 _ O R,b 1 _ O R,b 2 _ O R,b 3 _ O R,b 4 _ O R⟩
theorem Nh.at_{d:Uy}{o c}(h:Nh w lab base (X d o c) K J_ xs iv):d7 w base (Z w.1) d xs:=λi b=>by
 let⟨k,p,j⟩:=h.1.got O;cases j;have f:=h.1;let⟨m,n,e⟩:=(h.2 i b).form;have g:=h.2 i b;rw[e]at g;have a:=λq u hq l=>lq (q:=q) (u:=u) f b hq l;refine⟨k,0,R,f.blk.1,m,n,?_,⟨?_,?_,?_,?_⟩,g.inss⟩;·rw[aV];exact a 0 _ O<|by rw[<-e];rfl
 .rw[aV];exact a 1 _ O R
 .rw[aV];exact a 2 _ O R
 .rw[aV];exact a 3 _ O R
 rw[aV];exact a 4 _ O R
end
section
theorem j8{w b d t e f g}(h:Bx w b f t)(k:Bx w d g e)(j:t≠e):b≠d:=λi=>by subst i;unfold Bx at h k;rw[h]at k;injection k with k;injection k with _ k;exact j k
theorem XW.below{w w':Ub}{lab:N->N×N×N}{d}(h:Sw (Z w.1) w w'):XW w w' lab lab d (λ_=>True) :=
 ⟨h.4,λb _ e _=>⟨h.5 b e,R⟩,λg b f=>g b<|aJ h.4 f⟩
structure Om(w wr:Ub)(lab:N->N×N×N)(V:I)(a:Uy)(n c:N)(k:I)(mb:N)(mv sv:Uj)(M S_:List ag)(iv jv:Vu):Prop where
 low:Sw (Z w.1) w wr
 fb:Bx wr (Z w.1) #[Si S6 V,X a n c] 45
 rb:Bx wr (Z w.1+1) #[Si S6 0,X U 0 0] 38
 mbx:Bx wr mb #[Si S6 k,mv] 38
 mw:Z w.1+1<mb
 m:Nh wr lab (Z w.1) mv 1 3 M iv
 s:Nh wr lab (Z w.1) sv 2 4 S_ jv
 fr:∀q,Z wr.1<=q->lab q=(0,0,0)
 l0:lab (Z w.1)=(0,0,0)/\lab (Z w.1+1)=(0,0,0)/\lab mb=(0,0,0)
variable{w wr w':Ub}{lab lab':N->N×N×N}{V:I}{a:Uy}{n c:N}{k:I}{mb:N}{mv sv:Uj}{M S_:List ag}{iv jv:N->Uj}{ok:N->Prop}
theorem Om.sp(h:Om w wr lab V a n c k mb mv sv M S_ iv jv)(m:Sw (Z w.1) wr w')(d:XW wr w' lab lab' (Z w.1) ok)(e:∀b,b=Z w.1\/b=Z w.1+1\/b=mb->ok b)(g:∀b,lab b=(1,0,0)\/lab b=(2,0,0)->ok b)(j:∀b i,i<J M->lab b=(3,i,0)->ok b)(l:∀b i,lab b=(4,i,0)->ok b):Om w w' lab' V a n c k mb mv sv M S_ iv jv:=by
 have o:=h.5;exact⟨h.1.trans m,h.2.sp d aA (e _<|bC R),h.3.sp d O<|e _ (aZ<|bC R),h.4.sp d O<|e _ (aZ<|aZ R),h.5,h.m.sp d (λb f=>g b<|bC f) j,h.s.sp d (λb f=>g b<|aZ f) λb i _ f=>l b i f,d.3 h.8,
  G (d.2 _ aA h.2.lt (e _<|bC R)).2 h.9.1,G (d.2 _ O h.3.lt<|e _ (aZ<|bC R)).2 h.9.2.1,G (d.2 _ O h.4.lt<|e _ (aZ<|aZ R)).2 h.9.2.2⟩
theorem Om.calm(h:Om w wr lab V a n c k mb mv sv M S_ iv jv)(b:Sw (Z wr.1) wr w'):Om w w' lab V a n c k mb mv sv M S_ iv jv :=
 h.sp (b.mono h.1.4) (XW.below b) (λ_ _=>JV) (λ_ _=>JV) (λ_ _ _ _=>JV) λ_ _ _=>JV
structure Ny(w wr:Ub)(lab:N->N×N×N)(V:I)(a:Uy)(n c:N)(k:I)(mb:N)(mv sv:Uj)(M S_:List ag)(iv jv:Vu)(xb:N)(xv:Uj)(is:Vr)(t:Yj):Prop where
 s:Om w wr lab V a n c k mb mv sv M S_ iv jv
 bx:Bx wr xb #[xv,Si S6 t.1,Si S6 t.a,Si S6 t.3,Si S6 t.4] 60
 xw:Z w.1<=xb
 lx:lab xb=(0,0,0)
 row:Xv wr lab (3,J M,0) (Z w.1) 62 5 xv (J is) (ZP is)
variable{xb:N}{xv v8:Uj}{is:Vr}{t:Yj}{w8:Ub}
theorem Ny.calm(h:Ny w wr lab V a n c k mb mv sv M S_ iv jv xb xv is t)(b:Sw (Z wr.1) wr w'):Ny w w' lab V a n c k mb mv sv M S_ iv jv xb xv is t :=
 ⟨h.s.calm b,h.2.keep<|b.5 _ h.2.lt,h.3,h.4,h.5.sp (XW.below b) λ_ _=>JV⟩
theorem Ny.spT(h:Ny w wr lab V a n c k mb mv sv M S_ iv jv xb xv is t)(d:Sw (Z wr.1) wr w')(b:XW wr w' lab lab' (Z w.1) λ_=>True):Ny w w' lab' V a n c k mb mv sv M S_ iv jv xb xv is t :=
 ⟨h.s.sp (d.mono h.s.1.4) b (λ_ _=>JV) (λ_ _=>JV) (λ_ _ _ _=>JV) λ_ _ _=>JV,h.2.keep<|d.5 _ h.2.lt,h.3,G (b.2 _ h.3 h.2.lt JV).2 h.4,h.5.sp b λ_ _=>JV⟩
theorem Ny.turn(h:Ny w wr lab V a n c k mb mv sv M S_ iv jv xb xv is t)(q u){i:Uj}{d}(m:#[xv,Si S6 t.1,Si S6 t.a,Si S6 t.3,Si S6 t.4].setIfInBounds q u=#[i,Si S6 d.1,Si S6 d.a,Si S6 d.3,Si S6 d.4]){f:Vr}(o:Xv (Se wr ⟨xb,q,U⟩ u) lab (3,J M,0) (Z w.1) 62 5 i (J f) (ZP f)):
 Ny w (Se wr ⟨xb,q,U⟩ u) lab V a n c k mb mv sv M S_ iv jv xb i f d:=by
 have j:=h.2.set q u;rw[m]at j;have r:=j8 h.2 h.s.2 vY;have s:=j8 h.2 h.s.3 vY;have v:=j8 h.2 h.s.4 vY;have g:∀b L,lab b=L->L≠(0,0,0)->b≠xb:=λb L e l q=>l (by rw[<-e,q];exact h.4);exact⟨h.s.sp ((Rf).setCell h.3 _) (XW.put xb q u) (λb e=>by obtain rfl|rfl|rfl:=e<;>exact λq=>by first|exact r q.symm|exact s q.symm|exact v q.symm) (λb e=>by rcases e with e|e<;>exact g b _ e sP) (λb p _ e=>g b _ e sP) λb p e=>g b _ e sP,j,h.3,h.4,o⟩
theorem Ny.te(h:Ny w wr lab V a n c k mb mv sv M S_ iv jv xb xv is t)(q z){t'}(b:#[xv,Si S6 t.1,Si S6 t.a,Si S6 t.3,Si S6 t.4].setIfInBounds q (Si S6 z)=#[xv,Si S6 t'.1,Si S6 t'.a,Si S6 t'.3,Si S6 t'.4]):
 Ny w (Se wr ⟨xb,q,U⟩ (Si S6 z)) lab V a n c k mb mv sv M S_ iv jv xb xv is t' :=
 h.turn q (H z) b (h.5.sp (XW.put xb q _) λd e q=>by rw[q,h.4]at e;simp at e)
theorem Ny.push(h:Ny w wr lab V a n c k mb mv sv M S_ iv jv xb xv is t)(d:Vr)(f:wr.grownBy w8 xv.ownBlock)(x:Sx w8 (Z w.1) 62 5 v8 (J is+J d) (ZP is++ZP d))(s:v8.ownBlock=xv.ownBlock\/v8.ownBlock=S (Z wr.1)):
 ∃lab',Ny w (Se w8 ⟨xb,0,U⟩ v8) lab' V a n c k mb mv sv M S_ iv jv xb v8 (is++d) t/\Bx w8 xb #[xv,Si S6 t.1,Si S6 t.a,Si S6 t.3,Si S6 t.4] 60/\Om w w8 lab' V a n c k mb mv sv M S_ iv jv:=by
 let⟨lab',y,m⟩:=h.5.grow f x s h.s.8;have i:∀b,lab b=(0,0,0)->lab b≠(3,J M,0):=λb e q=>by rw[e]at q;simp at q
 have v:Sw (Z w.1) wr w8:=⟨f.1,f.2,f.3,f.4,λq hq=>f.5 q (aX hq h.s.1.4) λe=>by have:=(h.5.1.lt q e.symm).1;omega⟩;have g:=h.s.sp v m (λb e=>by obtain rfl|rfl|rfl:=e;exact i _ h.s.9.1;exact i _ h.s.9.2.1;exact i _ h.s.9.2.2) (λb e q=>by obtain e|e:=e<;>(rw[e]at q;simp at q)) (λb o K e q=>by rw[e]at q;simp at q;omega) (λb o e q=>by rw[e]at q;simp at q);have j:=h.2.sp m h.3<|i _ h.4;have p:=G (m.2 _ h.3 h.2.lt<|i _ h.4).2 h.4;have e1:J (is++d)=J is+J d:=aQ;have z:Xv w8 lab' (3,J M,0) (Z w.1) 62 5 v8 (J (is++d)) (ZP<|is++d):=by rw[e1,j7];exact y
 refine⟨lab',?_,j,g⟩;have u:=j.set 0 v8;have F:=j8 j g.2 vY;have B:=j8 j g.3 vY;have C:=j8 j g.4 vY;have l:∀b L,lab' b=L->L≠(0,0,0)->b≠xb:=λb L e r q=>r (by rw[<-e,q];exact p);exact⟨g.sp ((Rf).setCell h.3 _) (XW.put xb 0 v8) (λb e=>by obtain rfl|rfl|rfl:=e<;>exact λq=>by first|exact F q.symm|exact B q.symm|exact C q.symm) (λb e=>by rcases e with e|e<;>exact l b _ e sP) (λb o _ e=>l b _ e sP) λb o e=>l b _ e sP,u,h.3,p,z.sp (XW.put xb 0 v8) λb e=>l b _ e sP⟩
theorem Ny.side(h:Ny w wr lab V a n c k mb mv sv M S_ iv jv xb xv is t)(x:ag){q o}(hq:Xv wr lab (4,J S_,0) (Z w.1) 62 5 q (J x.1) (ZP x.1))(i:(D wr o).grownBy w8 sv.ownBlock)(r:Sx w8 (Z w.1) 60 5 v8 (J S_+1) (NH jv S_++Nf q x.2))(m:v8.ownBlock=sv.ownBlock\/v8.ownBlock=S (Z (D wr o).1)):
 ∃lab',Ny w w8 lab' V a n c k mb mv v8 M (S_++[x]) iv (λj=>if j=J S_ then q else jv j) xb xv is t:=by
 have b:=h.calm<|Xb (dC (Z wr.1) wr) o;have s:=hq.sp (XW.below<|Xb (dC (Z wr.1) wr) o) λ_ _=>JV;let⟨lab',l,d⟩:=b.s.s.push vY x s i r m b.s.8;have f:∀g,lab g=(0,0,0)->lab g≠(2,0,0):=λg e q=>by rw[e]at q;simp at q
 have p:Sw (Z w.1) (D wr o) w8:=⟨i.1,i.2,i.3,i.4,λq hq=>i.5 q (aX hq b.s.1.4) λe=>by have:=(b.s.s.1.1.lt q e.symm).1;omega⟩;have u:=h.s.5;refine⟨lab',⟨b.s.1.trans p,b.s.2.sp d aA (f _ b.s.9.1),b.s.3.sp d O<|f _ b.s.9.2.1,b.s.4.sp d O<|f _ b.s.9.2.2,h.s.5,b.s.m.sp d (λg e q=>by rw[e]at q;simp at q) λg j _ e q=>by rw[e]at q;simp at q,l,d.3 b.s.8,G (d.2 _ aA b.s.2.lt (f _ b.s.9.1)).2 b.s.9.1,G (d.2 _ O b.s.3.lt<|f _ b.s.9.2.1).2 b.s.9.2.1,G (d.2 _ O b.s.4.lt<|f _ b.s.9.2.2).2 b.s.9.2.2⟩,b.2.sp d h.3<|f _ b.4,h.3,G (d.2 _ h.3 b.2.lt<|f _ b.4).2 b.4,b.5.sp d λg e q=>by rw[e]at q;simp at q⟩
theorem Ny.done(m:Ny w wr lab V a n c k mb mv sv M S_ iv jv xb xv is t){o}(g:(D wr o).grownBy w8 mv.ownBlock)(F:Sx w8 (Z w.1) 60 5 v8 (J M+1) (NH iv M++Nf xv t))(v:v8.ownBlock=mv.ownBlock\/v8.ownBlock=S (Z (D wr o).1)):
 ∃lab',Om w (Se w8 ⟨mb,1,U⟩ v8) lab' V a n c k mb v8 sv (M++[⟨is,t⟩]) S_ (λi=>if i=J M then xv else iv i) jv/\Bx w8 mb #[Si S6 k,mv] 38:=by
 have b:=m.calm<|Xb (dC (Z wr.1) wr) o;let⟨lab',u,f⟩:=b.s.m.push vY ⟨is,t⟩ b.5 g F v b.s.8;have h:∀d,lab d=(0,0,0)->lab d≠(1,0,0):=λd e q=>by rw[e]at q;simp at q
 have y:Sw (Z w.1) (D wr o) w8:=⟨g.1,g.2,g.3,g.4,λq hq=>g.5 q (aX hq b.s.1.4) λe=>by have:=(b.s.m.1.1.lt q e.symm).1;omega⟩;have z:=m.s.5;have K:=G (f.2 _ aA b.s.2.lt (h _ b.s.9.1)).2 b.s.9.1;have P:=G (f.2 _ O b.s.3.lt<|h _ b.s.9.2.1).2 b.s.9.2.1;have r:=G (f.2 _ O b.s.4.lt<|h _ b.s.9.2.2).2 b.s.9.2.2;have x:=b.s.2.sp f aA (h _ b.s.9.1);have B:=b.s.3.sp f O<|h _ b.s.9.2.1;have p:=b.s.4.sp f O<|h _ b.s.9.2.2;have C:=b.s.s.sp f (λd e q=>by rw[e]at q;simp at q) (λd i _ e q=>by rw[e]at q;simp at q);have j:∀d L,lab' d=L->L≠(0,0,0)->d≠mb:=λd L e s q=>s (by rw[<-e,q];exact r);have l:=XW.put (w:=w8) (lab:=lab') (base:=Z w.1) mb 1 v8;exact⟨lab',⟨(b.s.1.trans y).setCell (p:=A mb 1) (by show Z w.1<=mb;omega) _,x.other λe=>O,B.other λe=>O,p.set 1 v8,z,u.sp l (λd e=>j d _ e sP) λd i _ e=>j d _ e sP,C.sp l (λd e=>j d _ e sP) λd i _ e=>j d _ e sP,l.3<|f.3 b.s.8,K,P,r⟩,p⟩
def Oz(w wr:Ub)(V:I)(a:Uy)(n c:N)(k:I)(mb:N)(mv sv:Uj)(M S_:List ag)(iv jv:Vu)(xb:N)(is:Vr)(t:Yj):Prop:=∃lab xv,Ny w wr lab V a n c k mb mv sv M S_ iv jv xb xv is t
def O9(w wr:Ub)(V:I)(a:Uy)(n c:N)(k:I)(mb:N)(mv sv:Uj)(M:List ag)(iv:Vu)(xb:N)(S_:List ag)(is:Vr)(t:Yj):Prop:=∃lab xv jv,Ny w wr lab V a n c k mb mv sv M S_ iv jv xb xv is t
def PQ(w wr:Ub)(V:I)(a:Uy)(n c:N)(k:I)(mb:N)(sv:Uj)(M S_:List ag):Prop:=∃lab mv iv jv,Om w wr lab V a n c k mb mv sv M S_ iv jv/\sv≠X U 0 0
end
section
structure VaL(w:Ub)(R_:N)(aa:Uy)(na ca gh ch:N)(ta:Uy)(nt ct:N)(fuel k value:I)(gv nv cv G_ n cn:N)(b pc:I)(ka:Uy)(kn kc:N):Prop where
 c0:E w ⟨R_,0,U⟩=S (X aa na ca)
 c1:E w ⟨R_,1,U⟩=S (X (S ⟨gh,0,U⟩) 32 ch)
 c2:E w ⟨R_,2,U⟩=S (X ta nt ct)
 c3:E w ⟨R_,3,U⟩=S (Si S6 fuel)
 c4:E w ⟨R_,4,U⟩=S (Si S6 k)
 c5:E w ⟨R_,5,U⟩=S (Si S6 value)
 c6:E w ⟨R_,6,U⟩=S (X (S ⟨gv,0,U⟩) nv cv)
 c7:E w ⟨R_,7,U⟩=S (X (S ⟨G_,0,U⟩) n cn)
 c8:E w ⟨R_,8,U⟩=S (Si S6 b)
 c9:E w ⟨R_,9,U⟩=S (Si S6 pc)
 c10:E w ⟨R_,10,U⟩=S (X ka kn kc)
 fz:∀o,w.frozen? ⟨R_,o,U⟩=Sn
section
variable{w w1:Ub}{R_:N}{aa:Uy}{na ca gh ch:N}{ta:Uy}{nt ct:N}{fuel k value:I}{gv nv cv G_ n cn:N}{b pc:I}{ka:Uy}{kn kc:N}
theorem VaL.keep(h:VaL w R_ aa na ca gh ch ta nt ct fuel k value gv nv cv G_ n cn b pc ka kn kc)(q:w1.1[R_]?=w.1[R_]?):VaL w1 R_ aa na ca gh ch ta nt ct fuel k value gv nv cv G_ n cn b pc ka kn kc :=
 ⟨G (Xc q) h.1,G (Xc q) h.2,G (Xc q) h.3,G (Xc q) h.4,G (Xc q) h.5,G (Xc q) h.6,G (Xc q) h.7,G (Xc q) h.8,G (Xc q) h.9,G (Xc q) h.c9,G (Xc q) h.11,λo=>G (bJ q) (h.fz o)⟩
theorem VaL.set10(h:VaL w R_ aa na ca gh ch ta nt ct fuel k value gv nv cv G_ n cn b pc ka kn kc)(a:Uy)(d c:N):VaL (Se w ⟨R_,10,U⟩ (X a d c)) R_ aa na ca gh ch ta nt ct fuel k value gv nv cv G_ n cn b pc a d c:=by obtain⟨e,f,i,j,l,m,o,p,q,s,g,t⟩:=h;constructor<;>simp[*,go_sem]
theorem VaL.set2(h:VaL w R_ aa na ca gh ch ta nt ct fuel k value gv nv cv G_ n cn b pc ka kn kc)(d:Uy)(c a:N):VaL (Se w ⟨R_,2,U⟩ (X d c a)) R_ aa na ca gh ch d c a fuel k value gv nv cv G_ n cn b pc ka kn kc:=by obtain⟨e,f,i,j,l,m,o,p,q,s,g,t⟩:=h;constructor<;>simp[*,go_sem]
theorem VaL.set4(h:VaL w R_ aa na ca gh ch ta nt ct fuel k value gv nv cv G_ n cn b pc ka kn kc)(a:I):VaL (Se w ⟨R_,4,U⟩ (Si S6 a)) R_ aa na ca gh ch ta nt ct fuel a value gv nv cv G_ n cn b pc ka kn kc:=by obtain⟨c,d,f,g,i,j,l,m,o,p,e,q⟩:=h;constructor<;>simp[*,go_sem]
theorem VaL.set5(h:VaL w R_ aa na ca gh ch ta nt ct fuel k value gv nv cv G_ n cn b pc ka kn kc)(a:I):VaL (Se w ⟨R_,5,U⟩ (Si S6 a)) R_ aa na ca gh ch ta nt ct fuel k a gv nv cv G_ n cn b pc ka kn kc:=by obtain⟨c,d,f,g,i,j,l,m,o,p,e,q⟩:=h;constructor<;>simp[*,go_sem]
theorem VaL.set8(h:VaL w R_ aa na ca gh ch ta nt ct fuel k value gv nv cv G_ n cn b pc ka kn kc)(a:I):VaL (Se w ⟨R_,8,U⟩ (Si S6 a)) R_ aa na ca gh ch ta nt ct fuel k value gv nv cv G_ n cn a pc ka kn kc:=by obtain⟨c,d,f,g,i,j,l,m,o,p,e,q⟩:=h;constructor<;>simp[*,go_sem]
theorem VaL.set9(h:VaL w R_ aa na ca gh ch ta nt ct fuel k value gv nv cv G_ n cn b pc ka kn kc)(a:I):VaL (Se w ⟨R_,9,U⟩ (Si S6 a)) R_ aa na ca gh ch ta nt ct fuel k value gv nv cv G_ n cn b a ka kn kc:=by obtain⟨c,d,f,g,i,j,l,m,o,p,e,q⟩:=h;constructor<;>simp[*,go_sem]
end
structure Vab(B r gv gh:N)(w w':Ub):Prop where
 os:w'.4=w.4
 tape:w'.2=w.2
 output:w'.5=w.5
 size:Z w.1<=Z w'.1
 block:∀k,k<B->k≠r->k≠gv->k≠gh->w'.1[k]?=w.1[k]?
section
variable{w w1 w2:Ub}{B r gv gh:N}
theorem Vab.refl(B r gv gh:N)(w:Ub):Vab B r gv gh w w:=⟨R,R,R,aA,λ_ _ _ _ _=>R⟩
theorem Vab.trans(h:Vab B r gv gh w w1)(k:Vab B r gv gh w1 w2):Vab B r gv gh w w2:=⟨G k.1 h.1,G k.2 h.2,G k.3 h.3,aJ h.4 k.4,λi a b c d=>G (k.5 i a b c d) (h.5 i a b c d)⟩
theorem Vab.of_below(h:Sw B w w1):Vab B r gv gh w w1:=⟨h.1,h.2,h.3,h.4,λi a _ _ _=>h.5 i a⟩
theorem Vab.drew(h:Vab B r gv gh w w1):Vab B r gv gh w w1.drew:=⟨h.1,h.2,h.3,h.4,h.5⟩
theorem Vab.set(h:Vab B r gv gh w w1){b o:N}(e:b=r\/b=gv\/b=gh\/B<=b)(v:Uj):Vab B r gv gh w (Se w1 ⟨b,o,U⟩ v) :=
 h.trans ⟨R,R,R,SH,λk f a c d=>cY<|by dsimp only;omega⟩
theorem Vab.grown{row:Zm}(h:Vab B r gv gh w w1)(a:w1.grownBy w2 row)(d:B<=Z w1.1)(c:∀k,row=S k->B<=k):Vab B r gv gh w w2 :=
 h.trans ⟨a.1,a.2,a.3,a.4,λk f _ _ _=>a.5 k O λe=>by have:=c k e.symm;omega⟩
end
structure Vbs(w:Ub)(Bt gv gh:N)(ta:Uy)(nt ct:N)(ka:Uy)(kn kc:N)(vals hp tr K:Wc):Prop where
 mem:VaA w Bt gv gh 2 (X ta nt ct) vals hp tr
 own:Sx w Bt 2 1 (X ka kn kc) kn (K.map<|Si S6)
 tk:(X ka kn kc).ownBlock=U\/(X ka kn kc).ownBlock≠(X ta nt ct).ownBlock
theorem Vbs.keep{w w1:Ub}{Bt gv gh:N}{ta:Uy}{nt ct:N}{ka:Uy}{kn kc:N}{d a c K:Wc}(h:Vbs w Bt gv gh ta nt ct ka kn kc d a c K)(q:∀b,b<Z w.1->(b=gv\/b=gh\/Bt<=b)->w1.1[b]?=w.1[b]?):Vbs w1 Bt gv gh ta nt ct ka kn kc d a c K :=
 ⟨⟨h.1.1.keep<|q _ h.1.1.lt (bC R),h.1.2.keep<|q _ h.1.2.lt (aZ<|bC R),Vay h.1.3 λb e=>q b (h.1.3.lt b e).2 (aZ<|aZ (h.1.3.lt b e).1),h.1.4,h.1.5,h.1.6⟩,Vay h.2 λb e=>q b (h.2.lt b e).2 (aZ<|aZ (h.2.lt b e).1),h.3⟩
theorem VcD{w:Ub}{B t:N}{ka:Uy}{kn kc n:N}{j:Wo}(h:Sx w B t 1 (X ka kn kc) n j):Sx w B t 1 (X ka 0 kc) 0 []:=by
 obtain⟨o,⟨e,_⟩|⟨g,l,a,e,c,d,m,f,i,_⟩⟩:=h
 .injection e with e1 e2 e3;subst e1 e3;exact⟨R,bC ⟨R,R⟩⟩
 injection e with e1 e2 e3;subst e1 e3;exact⟨R,aZ ⟨g,_,a,R,c,d,aN,f,i,sP⟩⟩
theorem Vcs{R_:N}(aa:Uy)(na ca:N){gh:N}(ch:N)(ta:Uy)(nt ct:N)(fuel u value:I){gv:N}(nv cv G_ n cn:N)(b pc:I)(ka:Uy)(kn kc:N)(tg:I)(l h j K:Wc){Bt:N}(w:Ub)(f:Q (VaL w R_ aa na ca gh ch ta nt ct fuel u value gv nv cv G_ n cn b pc ka kn kc))(a:Q (Vbs w Bt gv gh ta nt ct ka kn kc l h j K))(V:R_<Bt)(M:R_≠gv)(P:R_≠gh)(C:Bt<=Z w.1):
 Sk prog 189 #[Hn R_,Sa #[H tg,Hq]] w
  λe m=>e=Rt (St #[])/\∃v y x T,Vab Bt R_ gv gh w m/\VaL m R_ aa na ca gh ch ta nt ct fuel u value gv nv cv G_ n cn tg 0 v y x/\Vbs m Bt gv gh ta nt ct v y x l h j T:=by
 have c:=λo=>Xb (dC (Z w.1) w) o;have z:=λo=>G ((c o).cell (p:=A R_ 10) (by show R_<_;omega)) f.11;have CZ:=λo=>G ((c o).frozen (p:=A R_ 10) (by show R_<_;omega)) (f.fz 10)
 go_in
 go_wp2;have far:∀q,q<Z w.1->q≠R_->(Se (D w (Sc #[H tg,Hq] 152)) (A R_ 10) (X ka 0 kc)).1[q]?=w.1[q]?:=λq p s=>G (cY s) ((c _).5 q p);have g:=VcD a.2;have t:(X ka 0 kc).ownBlock=(X ka kn kc).ownBlock:=by cases ka<;>rfl
 have L:=Y (And.intro ((Vab.of_below (r:=R_) (gv:=gv) (gh:=gh) ((c (Sc #[H tg,Hq] 152)).mono C)).set (bC R) (o:=10) (X ka 0 kc)) (And.intro ((f.keep<|(c (Sc #[H tg,Hq] 152)).5 R_ O).set10 ka 0 kc) (show Vbs (Se (D w (Sc #[H tg,Hq] 152)) (A R_ 10) (X ka 0 kc)) Bt gv gh ta nt ct ka 0 kc l h j []from⟨⟨a.1.1.keep (far _ a.1.1.lt λe=>M e.symm),a.1.2.keep (far _ a.1.2.lt λe=>P e.symm),Vay a.1.3 (λq e=>far q (a.1.3.lt q e).2 (by have:=(a.1.3.lt q e).1;omega)),a.1.4,a.1.5,a.1.6⟩,Vay g (λq e=>far q (g.lt q e).2 (by have:=(g.lt q e).1;omega)),by rw[t];exact a.3⟩)));have F:E (Se (D w (Sc #[H tg,Hq] 152)) (A R_ 10) (X ka 0 kc)) (A (Z w.1) 0)=S (H tg):=G (cJ<|by intro e;injection e with e;omega) SC;have e1:E (Se (D w (Sc #[H tg,Hq] 152)) (A R_ 10) (X ka 0 kc)) (A (Z w.1) 1)=S Hq:=G (cJ<|by intro e;injection e with e;omega) SC;clear far g t z CZ f a c;generalize Se (D w (Sc #[H tg,Hq] 152)) (A R_ 10) (X ka 0 kc)=W at*;have z8:=L.2.1.9;have z9:=L.2.1.c9;have J_:=L.2.1.fz
 go_loopw [19] (λi wr=>i=H 0/\wr=W) λ_ _=>0
 .exact⟨R,R⟩
 obtain⟨rfl,d⟩:=hrel;rw[d];clear d;go_wp2
 go_loopw [44] (λi wr=>i=H 0/\wr=W) λ_ _=>0
 .exact⟨R,R⟩
 obtain⟨rfl,d⟩:=hrel;rw[d];clear d;go_wp2;exact uT (v:=St #[]) (by simp[JC,results189,go_sem]) R ⟨R,ka,0,kc,[],(L.1.set (bC R) _).set (bC R) _,(L.2.1.set8 tg).set9 0,L.2.2.keep λq p s=>G (cY<|by show q≠R_;omega) (cY<|by show q≠R_;omega)⟩
end
theorem Vab.below(h:Vab n k B g w v)(e:m<=n)(b:m<=k)(c:m<=B)(d:m<=g):Sw m w v:=⟨h.1,h.2,h.3,h.4,λi a=>h.5 i O O O O⟩
theorem VcC{value:I}{d r o y v:N}{M:I}{f:Uy}{q h:N}{a:N}{X_ Y_:I}{Q_ oa:Uy}{V_ N_ W_ O_:N}{C K:Wc}{Bt:N}(u:Q (VaL w n p m k B g P i j t T value c d r o y v z M f q h))(V:Q (Vbs w Bt c B P i j f q h l L C K))(U_:Q (d=J l))(af:a<d)(hR:n<Bt)(ad:c<Bt)(ac:n≠c)(ab:n≠B)(S_:Bt<=Z w.1):
 Sk prog 151 #[Hn n,Sa #[H 3,H a,H X_,X Q_ V_ N_,H Y_,X oa W_ O_]] w
  λs e=>s=Rt (H 1)/\Vab Bt n c B w e/\VaL e n p m k B g P i j t T (Vc4 l a) c d r o y v z M f q h/\Vbs e Bt c B P i j f q h l L C K:=by
 have W:a<J l:=by have:=U_.o;omega
 have J_:=V.1.1.2 a W;rw[Vax W];have b:=λo_=>Xb (dC (Z w.1) w) o_
 have I_:=λx=>Y (show Vab Bt n c B w ((Se (D w x) (A n 5) (H l[a])).drew)/\VaL ((Se (D w x) (A n 5) (H l[a])).drew) n p m k B g P i j t T l[a] c d r o y v z M f q h/\Vbs ((Se (D w x) (A n 5) (H l[a])).drew) Bt c B P i j f q h l L C K from
  ⟨((Vab.of_below<|(b x).mono S_).set (bC R) _).drew,((u.keep<|(b x).5 n O).set5 _).keep R,V.keep λF R_ h2=>G (cY<|by show F≠n;omega) ((b x).5 F R_)⟩)
 generalize l[a]=VA at*;have M_:=λx=>G ((b x).cell (p:=A n 6) (by show n<_;omega)) u.7;have c5:=λx=>G ((b x).cell (p:=A n 5) (by show n<_;omega)) u.6;have cz:=λx=>G ((b x).frozen (p:=A n 5) (by show n<_;omega)) (u.fz 5);have aa:=λx=>G ((b x).cell (p:=A c a) (by show c<_;omega)) J_;have Z_:∀x H_,E (Se (D w x) (A n 5) H_) (A n 6)=S (Hl c d r):=λx H_=>G (cJ<|by intro s;injection s with _ s;omega) (M_ x);have n1:Z w.1≠n:=O;have n2:Z w.1≠c:=O;have n3:n≠Z w.1:=O;have n4:c≠Z w.1:=O
 go_in
 go_wp2
 go_region_held3 (λe=>E e (A n 6)=S (Hl c d r)/\E e (A (Z w.1) 1)=S (H a)/\E e (A c a)=S (H VA)) (go_keep) (fail)
 go_wp2;go_ret;exact⟨R,(I_ _).o⟩
theorem VcH{value:I}{b e o u v:N}{I_ U_:I}{y:Uy}{M V:N}{C W_ F V_:I}{W K:Wc}{Bt:N}(N_:Q (VaL w n p m k B g P i j t z value c b e o u v I_ U_ y M V))(R_:Q (Vbs w Bt c B P i j y M V l L W K))(aj:Q (b=J l))(hk:(C=1/\T=F)\/C=2/\∃x:N,W_=x/\x<b/\T=if Vc4 l (x:I)=0 then V_ else F)(hR:n<Bt)(ap:c<Bt)(af:n≠c)(ad:n≠B)(hB:Bt<=Z w.1):
 Sk prog 151 #[Hn n,Sa #[H C,H W_,H F,Hq,H V_,Hq]] w
  λJ_ a=>J_=Rt (H 0)/\∃q s r u_,Vab Bt n c B w a/\VaL a n p m k B g P i j t z value c b e o u v T 0 q s r/\Vbs a Bt c B P i j q s r l L W u_:=by
 have d:=λo_=>Xb (dC (Z w.1) w) o_;have aa:=λx=>Y (Vcs p m k g P i j t z value b e o u v I_ U_ y M V T l L W K ((D w x).drew) (Y<|N_.keep ((d x).5 n O)) (Y<|R_.keep λal h1 _=>(d x).5 al h1) hR af ad SB);have ab:=λx=>Y<|Vab.of_below (r:=n) (gv:=c) (gh:=B) ((d x).drew.mono hB);obtain⟨rfl,rfl⟩|⟨rfl,x,rfl,hx,f⟩:=hk
 focus
  go_in
  go_wp2;refine Y7 (λa=>E a (A (Z w.1) 0)=S (H 1)) λig=>?_;refine Xn 0 ?_;(iterate 3 refine Rm ?_);refine KH 4 ?_;refine KH 5 ?_;refine KH 6 ?_;refine KH 7 ?_;refine KH 8 ?_;refine KH 9 ?_;refine KH 10 ?_;refine KH 11 ?_;refine KH 12 ?_;refine Xn 13 ?_;refine Xs 14 λK hK=>?_;go_simp;refine hK _ _ kP λig=>?_;clear hK;refine Yq ?_
 rotate_left;have M_:x<J l:=by have:=aj.o;omega
 have ac:=R_.1.1.2 x M_;rw[Vax M_]at f;have c6:=λx=>G ((d x).cell (p:=A n 6) (by show n<_;omega)) N_.7;have ao:=λo_=>G ((d o_).cell (p:=A c x) (by show c<_;omega)) ac;generalize l[x]=VA at*;by_cases h:VA=0
 focus
  rw[aU h]at f;subst f h
  go_in
  go_wp2
  go_region_held3 (λa=>E a (A (Z w.1) 0)=S (H 2)/\E a (A n 6)=S (Hl c b e)/\E a (A (Z w.1) 1)=S (H x)/\E a (A c x)=S (H 0)) (go_keep) (fail)
 rotate_left
 focus
  rw[aM h]at f;subst f;have aq:(VA==0)=Sn:=by simp[h]
  go_in
  go_wp2
  go_region_held3 (λa=>E a (A (Z w.1) 0)=S (H 2)/\E a (A n 6)=S (Hl c b e)/\E a (A (Z w.1) 1)=S (H x)/\E a (A c x)=S (H VA)) (go_keep) (fail)
 all_goals
  go_wp2_with (go_at_call 189;refine YU (aa _) λw1⟨q,s,r,u_,Q_,O_,S_⟩=>?_;have X_:=Y<|(ab _).trans Q_;have Y_:=Y O_;have Z_:=Y S_;clear Q_ O_ S_)
  go_wp2;go_ret;exact⟨R,q,s,r,u_,X_.o,Y_.o,Z_.o⟩
section
theorem VaG{P:Yh}{t:TypeId}{a:Array Field}(c:P.underlying t=S (.struct a))(xT:TypeId)(v:Uj)(w:Ub):(Instr.typeAssert (.iface t v) xT t So).run P w=.ok (St #[v,Sb So]) w:=by simp[Instr.typeAssert,run_underlying c]
theorem Vaz{P:Yh}{t u:TypeId}{a:Array Field}{z:Uj}(e:P.underlying u=S (.struct a))(f:(P.info? u).map (·.8)=S (S z))(d:t≠u)(xT:TypeId)(v:Uj)(w:Ub):(Instr.typeAssert (.iface t v) xT u So).run P w=.ok (St #[z,Sb Sn]) w:=by obtain⟨j,c,g⟩:=Option.map_eq_some_iff.1 f;simp[Instr.typeAssert,run_underlying e,zeroValue,typeInfo,c,g,d]
theorem Vdv:(prog.info? 253).map (·.8)=S (S<|Sa #[H 0,H 0]):=vZ
theorem Vdu:(prog.info? 255).map (·.8)=S (S<|Sa #[H 0,H 0,H 0,H 0]):=vZ
theorem Vdw:(prog.info? 256).map (·.8)=S (S<|Sa #[H 0,H 0,H 0,H 0]):=vZ
theorem Vdx:(prog.info? 259).map (·.8)=S (S<|Sa #[H 0]):=vZ
theorem Vdy:(prog.info? 251).map (·.8)=S (S<|Sa #[H 0,H 0]):=vZ
theorem VaA.len{w:Ub}{B gv gh t:N}{ta:Uy}{nt ct:N}{vals hp tr:Wc}(h:VaA w B gv gh t (X ta nt ct) vals hp tr):nt=J tr:=by
 obtain⟨_,⟨a,c⟩|⟨_,_,_,a,_⟩⟩:=h.3;·have:=(Z5 a).2.1;omega
 exact(Z5 a).2.1
def Vai(w a:Ub)(R_:N)(aa:Uy)(na ca gh ch:N)(ta:Uy)(nt ct:N)(fuel k0 value:I)(gv nv cv G_ n cn:N)(b pc:I)(ka:Uy)(kn kc Bt:N)(vals hp tr K:Wc):Prop :=
 Vab Bt R_ gv gh w a/\VaL a R_ aa na ca gh ch ta nt ct fuel k0 value gv nv cv G_ n cn b pc ka kn kc/\Vbs a Bt gv gh ta nt ct ka kn kc vals hp tr K
section
variable{w W W1:Ub}{R_:N}{aa:Uy}{na ca gh ch:N}{ta:Uy}{nt ct:N}{fuel k0 value:I}{gv nv cv G_ n cn:N}{b pc:I}{ka:Uy}{kn kc Bt:N}{vals hp tr K:Wc}
theorem Vai.drew(h:Vai w W R_ aa na ca gh ch ta nt ct fuel k0 value gv nv cv G_ n cn b pc ka kn kc Bt vals hp tr K):Vai w W.drew R_ aa na ca gh ch ta nt ct fuel k0 value gv nv cv G_ n cn b pc ka kn kc Bt vals hp tr K :=
 ⟨h.1.drew,h.2.1.keep R,h.2.2.keep λ_ _ _=>R⟩
theorem Vai.next(h:Vai w W R_ aa na ca gh ch ta nt ct fuel k0 value gv nv cv G_ n cn b pc ka kn kc Bt vals hp tr K)(c:Bt<=Z W.1)(d:R_<Bt)(k:Sw (Z W.1) W W1):Vai w W1 R_ aa na ca gh ch ta nt ct fuel k0 value gv nv cv G_ n cn b pc ka kn kc Bt vals hp tr K :=
 ⟨h.1.trans<|Vab.of_below (k.mono c),h.2.1.keep<|k.5 R_ O,h.2.2.keep λq a _=>k.5 q a⟩
theorem Vai.setV(h:Vai w W R_ aa na ca gh ch ta nt ct fuel k0 value gv nv cv G_ n cn b pc ka kn kc Bt vals hp tr K)(d:gv<Bt)(c:R_≠gv){f:N}(a:f<J vals)(v:I):Vai w (Se W ⟨gv,f,U⟩ (Si S6 v)) R_ aa na ca gh ch ta nt ct fuel k0 value gv nv cv G_ n cn b pc ka kn kc Bt (vals.set f v) hp tr K :=
 ⟨h.1.set (aZ<|bC R) _,h.2.1.keep<|cY c,h.2.2.1.setV a v,Vay h.2.2.2 (λq e=>cY (by have:=(h.2.2.2.lt q e).1;show q≠gv;omega)),h.2.2.3⟩
theorem Vai.setH(h:Vai w W R_ aa na ca gh ch ta nt ct fuel k0 value gv nv cv G_ n cn b pc ka kn kc Bt vals hp tr K)(d:gh<Bt)(c:R_≠gh){f:N}(a:f<J hp)(v:I):Vai w (Se W ⟨gh,f,U⟩ (Si S6 v)) R_ aa na ca gh ch ta nt ct fuel k0 value gv nv cv G_ n cn b pc ka kn kc Bt vals (hp.set f v) tr K :=
 ⟨h.1.set (aZ<|aZ (bC R)) _,h.2.1.keep<|cY c,h.2.2.1.setH a v,Vay h.2.2.2 (λq e=>cY (by have:=(h.2.2.2.lt q e).1;show q≠gh;omega)),h.2.2.3⟩
theorem Vai.push{c:Ub}(h:Vai w W R_ aa na ca gh ch ta nt ct fuel k0 value gv nv cv G_ n cn b pc ka kn kc Bt vals hp tr K)(k:R_<Bt)(r:gv<Bt)(p:gh<Bt)(m:R_≠gv)(l:R_≠gh)(j:Bt<=Z W.1){g d:N}{x:I}(i:Sx c Bt 2 1 (X (S ⟨g,0,U⟩) (nt+1) d) (nt+1) (tr.map (Si S6)++[Si S6 x]))(a:W.grownBy c (X ta nt ct).ownBlock)(o:(X ta nt ct).ownBlock=S g\/Z W.1<=g):
 Vai w (Se c ⟨R_,2,U⟩ (X (S ⟨g,0,U⟩) (nt+1) d)) R_ aa na ca gh ch (S ⟨g,0,U⟩) (nt+1) d fuel k0 value gv nv cv G_ n cn b pc ka kn kc Bt vals hp (tr++[x]) K:=by
 have y:=a.4;have low:∀q,q<Bt->S q≠(X ta nt ct).ownBlock:=λq hq e=>by have:=(h.2.2.1.3.lt q e.symm).1;omega
 have set:∀q,q≠R_->(Se c (A R_ 2) (Hl g (nt+1) d)).1[q]?=c.1[q]?:=λq hq=>cY hq
 have v:=(i.lt g R).1;have u:=h.2.2.1.1.lt;have s:=h.2.2.1.2.lt;have z:=h.2.2.1.3.1;have t:∀q,(X ka kn kc).ownBlock=S q->(Se c (A R_ 2) (Hl g (nt+1) d)).1[q]?=W.1[q]?:=λq e=>by
  have hq:=h.2.2.2.lt q e;refine G (set q O) (a.5 q hq.2 λe2=>?_);obtain f|f:=h.2.2.3;·rw[f]at e;cases e
  exact f<|G e e2
 refine⟨(h.1.grown a j λq e=>(h.2.2.1.3.lt q e).1).set (bC R) _,(h.2.1.keep<|a.5 R_ O (low R_ k)).set2 _ _ _,⟨h.2.2.1.1.keep (G (set _ λe=>m e.symm) (a.5 _ u<|low _ r)),h.2.2.1.2.keep (G (set _ λe=>l e.symm) (a.5 _ s<|low _ p)),?_,h.2.2.1.4,?_,?_⟩,Vay h.2.2.2 t,?_⟩
 .have e1:J (tr++[x])=nt+1:=by
   have:=i.1;simp only[aQ,bK,bA,bO,iN]at this |-;omega
  rw[Yl,e1];exact Vay i λq e=>set q λe2=>by injection e with e;dsimp only at e;omega
 .intro e;injection e with e;dsimp only at e;omega
 .intro e;injection e with e;dsimp only at e;omega
 obtain f|f:=h.2.2.3;·exact bC f
 right
 obtain e|e:=o;·intro e2;apply f;rw[e,e2];rfl
 intro e2;have:=(h.2.2.2.lt g e2).2;omega
end
end
theorem VbD{value:I}{b h M C q:N}{V:I}{u:Uy}{W y:N}{o:N}{v:I}{F K:Wc}{Bt:N}(a:Q (Vai w w n p m k B g P i j t T value c b h M C q z V u W y Bt l L F K))(R_:Q (b=J l))(X_:o<b)(N_:n<Bt)(Q_:c<Bt)(Z_:B<Bt)(r:n≠c)(O_:n≠B)(M_:Bt<=Z w.1):
 Sk prog 80 #[Hn n,.iface 253 (Sa #[H o,H v])] w
  λe d=>e=Rt (H 0)/\Vai w d n p m k B g P i j t T value c b h M C q z V u W y Bt (l.set o v) L F K:=by
 have f:=λo_=>Xb (dC (Z w.1) w) o_;have U_:=λx=>G ((f x).cell (p:=A n 6) (by show n<_;omega)) a.2.1.7;have n1:Z w.1≠n:=O;have n2:Z w.1≠c:=O;have n3:n≠Z w.1:=O;have n4:c≠Z w.1:=O;have n5:c≠n:=λe=>r e.symm;have n6:B≠n:=λe=>O_ e.symm;have n7:B≠Z w.1:=O;have S_:=a.2.2.1.4;have aa:B≠c:=λe=>S_ e.symm;have s:o<J l:=by have:=R_.o;omega
 have I_:=a.2.2.1.1.2 o s;have J_:=a.2.2.1.1.frozen o;have H_:=λx=>Y<|(((a.next M_ N_<|f x).setV Q_ r s v)).drew;generalize l[o]=VD at*;have V_:=λx=>G ((f x).cell (p:=A c o) (by show c<_;omega)) I_;have W_:=λx=>G ((f x).frozen (p:=A c o) (by show c<_;omega)) J_;have Y_:=λxT v w=>VaG underlying253 xT v w
 go_in
 go_wp2
 go_region_held3 (λd=>E d (A n 6)=S (Hl c b h)/\E d (A (Z w.1) 0)=S (H o)/\E d (A (Z w.1) 1)=S (H v)) (go_keep) (fail)
 go_wp2;go_ret;exact⟨R,(H_ _).o⟩
theorem Vcv{value:I}{q s y F C:N}{V:I}{M:Uy}{W N_:N}{a:I}{o b d:N}{S_ K:Wc}{Bt:N}(h:Q (Vai w w n p m k B g P i j t T value c q s y F C z V M W N_ Bt l L S_ K))(u:Q (q=J l))(hD:o<q)(hA:b<q)(ao:d<q)(Z_:3<=a)(h7:a<=7)(E_:a≠6)(hR:n<Bt)(ab:c<Bt)(ap:B<Bt)(J_:n≠c)(aa:n≠B)(hB:Bt<=Z w.1):
 Sk prog 80 #[Hn n,.iface 255 (Sa #[H a,H o,H b,H d])] w
  λe f=>e=Rt (H 0)/\Vai w f n p m k B g P i j t T value c q s y F C z V M W N_ Bt (l.set o<|VcZ a (Vc4 l b) (Vc4 l d)) L S_ K:=by
 have r:=λo_=>Xb (dC (Z w.1) w) o_;have c6:=λx=>G ((r x).cell (p:=A n 6) (by show n<_;omega)) h.2.1.7;have n1:Z w.1≠n:=O;have n2:Z w.1≠c:=O;have n3:n≠Z w.1:=O;have n4:c≠Z w.1:=O;have n5:c≠n:=λe=>J_ e.symm;have n6:B≠n:=λe=>aa e.symm;have n7:B≠Z w.1:=O;have ac:=h.2.2.1.4;have aq:B≠c:=λe=>ac e.symm;have e6:(a==6)=Sn:=by simp[E_]
 have I_:o<J l:=by have:=u.o;omega
 have F_:b<J l:=by have:=u.o;omega
 have H_:d<J l:=by have:=u.o;omega
 rw[Vax F_,Vax H_];have W_:=h.2.2.1.1.2 o I_;have X_:=h.2.2.1.1.frozen o;have U_:=h.2.2.1.1.2 b F_;have V_:=h.2.2.1.1.2 d H_;have A_:=λx=>Y<|(((h.next hB hR<|r x).setV ab J_ I_ (VcZ a l[b] l[d]))).drew.drew;have y_:=Y λY_=>VbB a l[b] l[d] Y_ Z_ h7 λe=>Sz e E_;generalize VcZ a l[b] l[d]=ad at*;generalize l[o]=VD at*;generalize l[b]=VA at*;generalize l[d]=VB at*;have cd:=λx=>G ((r x).cell (p:=A c o) (by show c<_;omega)) W_;have cz:=λx=>G ((r x).frozen (p:=A c o) (by show c<_;omega)) X_;have aj:=λx=>G ((r x).cell (p:=A c b) (by show c<_;omega)) U_;have al:=λx=>G ((r x).cell (p:=A c d) (by show c<_;omega)) V_;have af:=λxT v w=>VaG underlying255 xT v w;have NC:=λxT v w=>Vaz (t:=255) underlying253 Vdv vY xT v w
 go_in
 go_wp2;refine Y7 (λf=>E f (A (Z w.1) 0)=S (H a)) λig=>?_;refine Xn 0 ?_;(iterate 3 refine Rm ?_);refine KH 4 ?_;refine KH 5 ?_;refine KH 6 ?_;refine KH 7 ?_;refine KH 8 ?_;refine KH 9 ?_;refine KH 10 ?_;refine KH 11 ?_;refine KH 12 ?_;refine Xn 13 ?_;refine Yq ?_;go_wp2;refine Y7 (λf=>E f (A n 6)=S (Hl c q s)/\E f (A (Z w.1) 0)=S (H a)/\E f (A (Z w.1) 1)=S (H o)/\E f (A (Z w.1) 2)=S (H b)/\E f (A (Z w.1) 3)=S (H d)) λig=>?_;refine Xn 0 ?_;(iterate 14 refine Rm ?_);refine Xn 16 ?_;(iterate 6 refine Rm ?_);refine eS (rs:=[15,23]) vZ sP ?_;refine(bQ R (λK hK=>?_) (bQ R (λK hK=>?_) dY))
 .skip
  go_simp;refine hK _ _ kP λig=>?_;clear hK
  try simp only[Act.put,xA,xB,xC,xD,xE,xF]
  refine Xs 23 λK hK=>?_;go_simp;refine hK _ _ kP λig=>?_;clear hK;refine Xs 24 λK hK=>?_;go_simp;refine YU (y_.o _) ?_;rintro w1 rfl;go_wp2_with fail
  refine hK _ _ kP λig=>?_;clear hK;refine Xn 25 ?_;refine Xs 26 λK hK=>?_;go_simp;refine hK _ _ kP λig=>?_;clear hK;refine Yq ?_;go_wp2;go_ret;exact⟨R,(A_ _).o⟩
 go_simp;refine hK _ _ kP λig=>?_;clear hK
 try simp only[Act.put,xA,xB,xC,xD,xE,xF]
 refine Xs 15 λK hK=>?_;go_simp;refine hK _ _ kP λig=>?_;clear hK;refine Xs 24 λK hK=>?_;go_simp;refine YU (y_.o _) ?_;rintro w1 rfl;go_wp2_with fail
 refine hK _ _ kP λig=>?_;clear hK;refine Xn 25 ?_;refine Xs 26 λK hK=>?_;go_simp;refine hK _ _ kP λig=>?_;clear hK;refine Yq ?_;go_wp2;go_ret;exact⟨R,(A_ _).o⟩
structure N8(L B:N)(w w':Ub):Prop where
 os:w'.4=w.4
 tape:w'.2=w.2
 output:w'.5=w.5
 size:Z w.1<=Z w'.1
 block:∀k,k<Z w.1->¬(L<=k/\k<B)->w'.1[k]?=w.1[k]?
theorem N8.of_below(h:Sw (Z w.1) w v):N8 n m w v:=⟨h.1,h.2,h.3,h.4,λk a _=>h.5 k a⟩
theorem N8.trans(h:N8 n m w v)(k:N8 n m v u):N8 n m w u :=
 ⟨G k.1 h.1,G k.2 h.2,G k.3 h.3,aJ h.4 k.4,λi a b=>G (k.5 i (aX a h.4) b) (h.5 i a b)⟩
theorem N8.below(h:N8 n m v u)(k:Sw (Z w.1) w v)(b:Z w.1<=n):Sw (Z w.1) w u :=
 ⟨G h.1 k.1,G h.2 k.2,G h.3 k.3,aJ k.4 h.4,λi a=>G (h.5 i (aX a k.4) O) (k.5 i a)⟩
structure Vak where
 b:N
 pc:N
 vals:Wc
 hp:Wc
 tr:Wc
theorem Vbj{value:I}{d q s u r:N}{y:I}{C:Uy}{F M:N}{o a:N}{V K:Wc}{Bt:N}(b:Q (Vai w w n p m k B g P i j t T value c d q s u r z y C F M Bt l L V K))(W:Q (d=J l))(hD:o<d)(hA:a<d)(V_:n<Bt)(X_:c<Bt)(aa:B<Bt)(y_:n≠c)(W_:n≠B)(U_:Bt<=Z w.1):
 Sk prog 80 #[Hn n,.iface 251 (Sa #[H o,H a])] w
  λe f=>e=Rt (H 0)/\Vai w f n p m k B g P i j t T value c d q s u r z y C F M Bt (l.set o<|Vc4 l a) L V K:=by
 have h:=λo_=>Xb (dC (Z w.1) w) o_;have c6:=λx=>G ((h x).cell (p:=A n 6) (by show n<_;omega)) b.2.1.7;have n1:Z w.1≠n:=O;have n2:Z w.1≠c:=O;have n3:n≠Z w.1:=O;have n4:c≠Z w.1:=O;have n5:c≠n:=λe=>y_ e.symm;have n6:B≠n:=λe=>W_ e.symm;have n7:B≠Z w.1:=O;have Y_:=b.2.2.1.4;have ab:B≠c:=λe=>Y_ e.symm;have u_:o<J l:=by have:=W.o;omega
 have s_:a<J l:=by have:=W.o;omega
 rw[Vax s_];have O_:=b.2.2.1.1.2 o u_;have Q_:=b.2.2.1.1.frozen o;have N_:=b.2.2.1.1.2 a s_;have M_:=λx=>Y<|(((b.next U_ V_<|h x).setV X_ y_ u_ l[a])).drew;have S_:=λx=>G ((h x).cell (p:=A c o) (by show c<_;omega)) O_;have cz:=λx=>G ((h x).frozen (p:=A c o) (by show c<_;omega)) Q_;have R_:=λx=>G ((h x).cell (p:=A c a) (by show c<_;omega)) N_
 have cs:∀x,E (Se (D w x) (A c o) (H l[a])) (A c a)=S (H l[a]):=λx=>by
  by_cases e:a=o
  .subst e;exact iL _ _ _<|by simp[S_ x]
  exact G (cJ<|by intro e2;injection e2 with _ e3;omega) (R_ x)
 generalize l[o]=VD at*;generalize l[a]=VA at*;have Z_:=λxT v w=>VaG underlying251 xT v w;have NC:=λxT v w=>Vaz (t:=251) underlying253 Vdv vY xT v w;have NA:=λxT v w=>Vaz (t:=251) underlying255 Vdu vY xT v w;have NH:=λxT v w=>Vaz (t:=251) underlying256 Vdw vY xT v w;have NO:=λxT v w=>Vaz (t:=251) underlying259 Vdx vY xT v w
 go_in
 go_wp2
 go_region_held3 (λf=>E f (A n 6)=S (Hl c d q)/\E f (A (Z w.1) 0)=S (H o)/\E f (A (Z w.1) 1)=S (H a)/\E f (A c a)=S (H VA)) (go_keep) (fail)
 go_wp2;go_ret;exact⟨R,(M_ _).o⟩
theorem Vao{W:I}{h value o:I}{e:N}{F:Wc}{r:N}(b:Q (VaA w r n c 2 (X P i j) l L F))(M_:r<=Z w.1)(v:Q (m=J l))(J_:0<=t)(d1:t<m)(H_:0<=T)(I_:T<m)(N_:Q (J L=32)):
 Sk prog 27 #[Sa #[H 8,H t,H T,H z,H W],Hl n m k,X p B g,Sa #[H h,H value,H o,X P i j,Hl c 32 e]] w
  (VaE n m k h value o c e r (VaF l t<|Vc4 L (Vc4 l T%32)) (L) (F) w):=by
 have s:=b.1.lt;have C:=b.2.lt;obtain⟨f,rfl,M,-⟩:=VaY v.o J_ d1;have c1:=Vc8 (b.1.2 f M) s;have c2:=Vc3 (b.1.frozen f) s;obtain⟨d,rfl,y,-⟩:=VaY v.o H_ I_;have c3:=Vc8 (b.1.2 d y) s;obtain⟨a,u⟩:∃a:N,l[d]%32=a:=bX<|mR l[d] (b:=32) vY;have W_:a<32:=O;have V:a<J L:=by have:=N_.o;omega
 have c5:=Vc8 (b.2.2 a V) C;have V_:=Vc3 (b.2.frozen a) C;have Z_:Z w.1≠n:=O;have aa:n≠Z w.1:=O;have X_:(0:I)<=a:=O;have Y_:(a:I)<32:=O;have x:VaF l f (Vc4 L<|Vc4 l d%32)=l.set f L[a]:=by rw[Vax y,u,Vax V];simp[VaF]
 rw[x];clear x;have R_:=λQ_ S_ U_=>((((Val.of (r:=Z w.1+1+1) b.o M_ (Vc0 w Q_ S_ U_) O).setV M L[a]).out5 (H h) (H value) (H o) (X P i j) (Hl c 32 e)).drew.drew);have ad:n≠c:=b.4;have af:c≠n:=λv_=>b.4 v_.symm;have ab:Z w.1+1≠n:=O;have ac:n≠Z w.1+1:=O;have G_:=Y u;clear u;generalize l[d]=VA at*;generalize L[a]=VH at*
 go_in
 go_wp2_with fail
 refine Y7 (λq=>E q (A (Z w.1) 1)=S (H f)/\E q (A (Z w.1) 2)=S (H d)/\E q (A (Z w.1+1) 4)=S (Hl c 32 e)/\E q (A c a)=S (H VH)) λig=>?_;refine Xn 0 ?_;(iterate 8 refine Rm ?_);refine Xs 9 λK hK=>?_;go_simp;refine hK _ _ kP λig=>?_;clear hK;refine Xs 10 λK hK=>?_;go_simp;refine YU VbA ?_;rintro w1 rfl;rw[Xw G_];go_wp2_with fail
 refine hK _ _ kP λig=>?_;clear hK;refine Xn 11 ?_;refine Xn 12 ?_;refine Xn 13 ?_;refine Xs 14 λK hK=>?_;go_simp;refine hK _ _ kP λig=>?_;clear hK;refine Yq ?_;go_wp2;go_region
 all_goals
  go_wp2;exact YL (v:=St #[Hl n m k,Sa #[H h,H value,H o,X P i j,Hl c 32 e]]) (VaE.mk<|R_ _ _ _)
theorem Var{V:I}{o value q:I}{f:N}{F:Wc}{r:N}(a:Q (VaA w r n c 2 (X P i j) l L F))(W:r<=Z w.1)(u:Q (m=J l))(H_:0<=T)(I_:T<m)(J_:0<=z)(M_:z<m)(O_:Q (J L=32)):
 Sk prog 27 #[Sa #[H 9,H t,H T,H z,H V],Hl n m k,X p B g,Sa #[H o,H value,H q,X P i j,Hl c 32 f]] w
  (VaE n m k o value q c f r (l) (VaF L (Vc4 l T%32) (Vc4 l z)) (F) w):=by
 have C:=a.1.lt;have K:=a.2.lt;obtain⟨d,rfl,x,-⟩:=VaY u.o H_ I_;have c3:=Vc8 (a.1.2 d x) C;obtain⟨e,rfl,y,-⟩:=VaY u.o J_ M_;have c4:=Vc8 (a.1.2 e y) C;obtain⟨b,s⟩:∃b:N,l[d]%32=b:=bX<|mR l[d] (b:=32) vY;have X_:b<32:=O;have M:b<J L:=by have:=O_.o;omega
 have c5:=Vc8 (a.2.2 b M) K;have W_:=Vc3 (a.2.frozen b) K;have aa:Z w.1≠c:=O;have ab:c≠Z w.1:=O;have ac:Z w.1+1≠c:=O;have ad:c≠Z w.1+1:=O;have Y_:(0:I)<=b:=O;have Z_:(b:I)<32:=O;have v:VaF L (Vc4 l d%32) (Vc4 l e)=L.set b l[e]:=by rw[Vax x,s,Vax y];simp[VaF]
 rw[v];clear v;have R_:=λS_ U_ V_=>((((Val.of (r:=Z w.1+1+1) a.o W (Vc0 w S_ U_ V_) O).setH M l[e]).out5 (H o) (H value) (H q) (X P i j) (Hl c 32 f)).drew.drew);have af:n≠c:=a.4;have aj:c≠n:=λu_=>a.4 u_.symm;have G_:=Y s;clear s;generalize l[d]=VA at*;generalize l[e]=VB at*
 go_in
 go_wp2_with fail
 refine Y7 (λh=>E h (A (Z w.1) 2)=S (H d)/\E h (A (Z w.1) 3)=S (H e)/\E h (A (Z w.1+1) 4)=S (Hl c 32 f)/\E h (A n d)=S (H VA)/\E h (A n e)=S (H VB)) λig=>?_;refine Xn 0 ?_;(iterate 6 refine Rm ?_);refine Xn 8 ?_;(iterate 4 refine Rm ?_);refine Xs 7 λK_ hK=>?_;go_simp;refine YU VbA ?_;rintro w1 rfl;rw[Xw G_];go_wp2_with fail
 refine hK _ _ kP λig=>?_;clear hK;refine Xn 13 ?_;refine Xs 14 λK_ hK=>?_;go_simp;refine hK _ _ kP λig=>?_;clear hK;refine Yq ?_;go_wp2;go_region
 all_goals
  go_wp2;exact YL (v:=St #[Hl n m k,Sa #[H o,H value,H q,X P i j,Hl c 32 f]]) (VaE.mk<|R_ _ _ _)
theorem VcJ{e U_:I}{h value q:I}{f:N}{F:Wc}{u:N}(b:Q (VaA w u n c 2 (X P i j) l L F))(S_:u<=Z w.1)(y:Q (m=J l))(M_:0<=T)(d1:T<m)(G_:0<=z)(H_:z<m)(I_:0<=e)(J_:e<m)(O_:3<=t)(Q_:t<=7)(v:t=6->Vc4 l e≠0):
 Sk prog 27 #[Sa #[H t,H T,H z,H e,H U_],Hl n m k,X p B g,Sa #[H h,H value,H q,X P i j,Hl c 32 f]] w
  (VaE n m k h value q c f u (VaF l T<|VcZ t (Vc4 l z) (Vc4 l e)) (L) (F) w):=by
 have r:=b.1.lt;have ab:=b.2.lt;obtain⟨o,rfl,M,-⟩:=VaY y.o M_ d1;have c1:=Vc8 (b.1.2 o M) r;have c2:=Vc3 (b.1.frozen o) r;obtain⟨a,rfl,V,-⟩:=VaY y.o G_ H_;have c3:=Vc8 (b.1.2 a V) r;obtain⟨d,rfl,x,-⟩:=VaY y.o I_ J_;have c4:=Vc8 (b.1.2 d x) r;have ac:Z w.1≠n:=O;have ad:n≠Z w.1:=O;have C:VaF l o (VcZ t (Vc4 l a) (Vc4 l d))=l.set o (VcZ t l[a] l[d]):=by rw[Vax V,Vax x];simp[VaF]
 rw[C];rw[Vax x]at v;clear C;have W:=λX_ Y_ Z_=>((((Val.of (r:=Z w.1+1+1) b.o S_ (Vc0 w X_ Y_ Z_) O).setV M (VcZ t l[a] l[d])).out5 (H h) (H value) (H q) (X P i j) (Hl c 32 f)).drew.drew);have A_:=Y λW_=>VbR l[a] W_ O_ Q_ v;clear v;generalize VcZ t l[a] l[d]=aa at*;generalize l[a]=VA at*;generalize l[d]=VB at*;have o1:(t==1)=Sn:=by simp only[iS];omega
 have o2:(t==2)=Sn:=by simp only[iS];omega
 have o8:(t==8)=Sn:=by simp only[iS];omega
 have o9:(t==9)=Sn:=by simp only[iS];omega
 have af:(t==10)=Sn:=by simp only[iS];omega
 go_in
 go_wp2_with fail
 refine Y7 (λs=>E s (A (Z w.1) 0)=S (H t)/\E s (A (Z w.1) 1)=S (H o)/\E s (A (Z w.1) 2)=S (H a)/\E s (A (Z w.1) 3)=S (H d)) λig=>?_;refine Xn 0 ?_;(iterate 8 refine Rm ?_);refine Xn 10 ?_;(iterate 3 refine Rm ?_);refine eS (rs:=[9,14]) vZ sP ?_;refine bQ R (λK hK=>?_) (bQ R (λK hK=>?_) dY)
 .skip
  go_simp;refine hK _ _ kP λig=>?_;clear hK
  try simp only[Act.put,xA,xB,xC,xD,xE,xF]
  refine Xs 14 λK hK=>?_;go_simp;refine hK _ _ kP λig=>?_;clear hK;refine Xs 15 λK hK=>?_;go_simp;refine YU (A_.o _) ?_;rintro V_ rfl;go_wp2_with fail
  refine hK _ _ kP λig=>?_;clear hK;refine Xn 16 ?_;refine Xs 17 λK hK=>?_;go_simp;refine hK _ _ kP λig=>?_;clear hK;refine Yq ?_;go_wp2;go_region
  all_goals
   go_wp2;exact YL (v:=St #[Hl n m k,Sa #[H h,H value,H q,X P i j,Hl c 32 f]]) (VaE.mk<|W _ _ _)
 go_simp;refine hK _ _ kP λig=>?_;clear hK
 try simp only[Act.put,xA,xB,xC,xD,xE,xF]
 refine Xs 9 λK hK=>?_;go_simp;refine hK _ _ kP λig=>?_;clear hK;refine Xs 15 λK hK=>?_;go_simp;refine YU (A_.o _) ?_;rintro V_ rfl;go_wp2_with fail
 refine hK _ _ kP λig=>?_;clear hK;refine Xn 16 ?_;refine Xs 17 λK hK=>?_;go_simp;refine hK _ _ kP λig=>?_;clear hK;refine Yq ?_;go_wp2;go_region
 all_goals
  go_wp2;exact YL (v:=St #[Hl n m k,Sa #[H h,H value,H q,X P i j,Hl c 32 f]]) (VaE.mk<|W _ _ _)
theorem VcF{ao:I}{v value C:I}{u:N}{r:Wc}{q:N}(y:Q (VaA w q n c 2 (X P i j) l L r))(hB:q<=Z w.1)(al:Q (m=J l))(a0:0<=T)(a1:T<m)(ar:i<=1000000):
 Sk prog 27 #[Sa #[H 10,H t,H T,H z,H ao],Hl n m k,X p B g,Sa #[H v,H value,H C,X P i j,Hl c 32 u]] w
  (VaE n m k v value C c u q (l) (L) (r++[Vc4 l T]) w):=by
 have aj:=y.1.lt;have aq:=y.2.lt;obtain⟨e,rfl,R_,-⟩:=VaY al.o a0 a1;have c3:=Vc8 (y.1.2 e R_) aj;obtain⟨i0,ab,ac,ad,af⟩:=fX RH;have hE:r++[Vc4 l e]=r++[l[e]]:=by rw[Vax R_]
 rw[hE];clear hE;have M_:i=J r:=by
  obtain⟨_,⟨Q_,h2⟩|⟨_,_,_,Q_,_⟩⟩:=y.3;·have:=(Z5 Q_).2.1;omega
  exact(Z5 Q_).2.1
 have Z_:∀K M F V:Obj,Sx ((D (D (D (D w K) M) F) V).drew) q 2 1 (X P i j) i (r.map<|Si S6):=λK M F V=>by have aa:=(y.keep (Xb (Vc0 w K M F) V).5).drew.3;rw[<-M_]at aa;exact aa
 have H_:∀O_,Z w.1<=O_->S O_≠(X P i j).ownBlock:=λO_ hk I_=>by have:=(y.3.lt O_ I_.symm).2;omega
 have RP:∀(K M F V:Obj)(b d:N)(a:Ub),Sx a q 2 1 (Hl b (i+1) d) (i+1) (r.map (Si S6)++[H l[e]])->((D (D (D (D w K) M) F) V).drew).grownBy a (X P i j).ownBlock->((X P i j).ownBlock=S b\/b=Z w.1+1+1+1+1) ->
  (Val w (Z w.1+1) q n c 2 (Hl b (i+1) d) l L (r++[l[e]]) a/\Val w (Z w.1+1+1) q n c 2 (Hl b (i+1) d) l L (r++[l[e]]) a)/\E a (A n e)=S (H l[e]):=λK M F V b d a W f x=>by
  have P1:=Val.push (r:=Z w.1+1) (Val.of y.o hB (Xb (Vc0 w K M F) V) O).drew (n:=i+1) (by simp[M_]) W f (x.imp id λI_=>by simp[I_]) sP;have P2:=Val.push (r:=Z w.1+1+1) (Val.of y.o hB (Xb (Vc0 w K M F) V) O).drew (n:=i+1) (by simp[M_]) W f (x.imp id λI_=>by simp[I_]) sP;exact⟨⟨P1,P2⟩,P1.2.1.2 e R_⟩
 have az:Z w.1+1≠n:=O;have a2:n≠Z w.1+1:=O;have ap:=Y M_;clear M_;generalize l[e]=VA at*
 go_in
 go_wp2_with fail
 refine Y7 (λw'=>E w' (A (Z w.1) 2)=S (H e)/\E w' (A n e)=S (H VA)) λig=>?_;refine Xn 0 ?_;refine Xn 2 ?_;(iterate 4 refine Rm ?_);refine eS (rs:=[1,7]) vZ sP ?_;refine bQ R (λK_ hK=>?_) (bQ R (λK_ hK=>?_) dY)
 .skip
  go_simp;refine hK _ _ kP λig=>?_;clear hK
  try simp only[Act.put,xA,xB,xC,xD,xE,xF]
  refine Xs 7 λK_ hK=>?_;go_simp;refine hK _ _ kP λig=>?_;clear hK;refine Xs 8 λK_ hK=>?_;refine XC _ R (.tmp 82) (.tmp 88) 23 R q 2 i0 (H 0) 1 8 underlying23 ab ac ad af R vY (X P i j) i (r.map<|Si S6) SE (Z_ _ _ _ _) (A (Z w.1+1+1+1) 0) 1 1 [H VA] SE R ?_ (by intro Y_ N_;simp at N_;subst N_;rfl) vY SD O SB (Z w.1+1+1+1+1) sP ?_
  .intro U_ Y_ s
   match U_,s with
   |0,s=>simp at s;subst s;simp[Addr.add,go_sem]
  intro b d a W f x S_;have RF:=RP _ _ _ _ b d a W f x;obtain⟨J_,-⟩:=rF f (k:=Z w.1) (by simp<;>omega) (H_ _ O);obtain⟨f1,e1⟩:=rF f (k:=Z w.1+1) (by simp<;>omega) (H_ _ O);obtain⟨f2,e2⟩:=rF f (k:=Z w.1+1+1) sP (H_ _ O);have kx:E a (A (Z w.1) 2)=S (H e):=G (J_ 2) SC;have kv:E a (A n e)=S (H VA):=RF.2;have k0:E a (A (Z w.1+1) 0)=S (H v):=G (f1 0) SC;have k1:E a (A (Z w.1+1) 1)=S (H value):=G (f1 1) SC;have k2:E a (A (Z w.1+1) 2)=S (H C):=G (f1 2) SC;have k3:E a (A (Z w.1+1) 3)=S (X P i j):=G (f1 3) SC;have k4:E a (A (Z w.1+1) 4)=S (Hl c 32 u):=G (f1 4) SC;have V_:E a (A (Z w.1+1+1) 0)=S (H 0):=G (f2 0) SC;have q1:E a (A (Z w.1+1+1) 1)=S (H 0):=G (f2 1) SC;have q2:E a (A (Z w.1+1+1) 2)=S (H 0):=G (f2 2) SC;have W_:E a (A (Z w.1+1+1) 3)=S Hq:=G (f2 3) SC;have X_:E a (A (Z w.1+1+1) 4)=S Hq:=G (f2 4) SC;have z1:∀o,a.frozen? (A (Z w.1+1) o)=Sn:=λo=>G (e1 o) SC;have z2:∀o,a.frozen? (A (Z w.1+1+1) o)=Sn:=λo=>G (e2 o) SC;have h:=Y RF.1;clear J_ f1 f2 e1 e2 RF W f x S_;refine hK _ _ kP λig=>?_;clear hK;refine Xn 9 ?_;refine Xs 10 λK_ hK=>?_;go_simp;refine hK _ _ kP λig=>?_;clear hK;refine Yq ?_;go_wp2;go_region
  all_goals
   go_wp2;have RF:=((⟨(h.1.o 3<|Hl b (i+1) d).1,(h.1.o 3<|Hl b (i+1) d).2,h.2.3,h.2.4,h.2.5,h.2.6⟩:Val w (Z w.1+1+1) q n c 2 _ l L _ _).out5 (H v) (H value) (H C) (Hl b (i+1) d) (Hl c 32 u));exact YL (v:=St #[Hl n m k,Sa #[H v,H value,H C,Hl b (i+1) d,Hl c 32 u]]) (VaE.mk RF.drew)
 go_simp;refine hK _ _ kP λig=>?_;clear hK
 try simp only[Act.put,xA,xB,xC,xD,xE,xF]
 refine Xs 1 λK_ hK=>?_;go_simp;refine hK _ _ kP λig=>?_;clear hK;refine Xs 8 λK_ hK=>?_;refine XC _ R (.tmp 82) (.tmp 88) 23 R q 2 i0 (H 0) 1 8 underlying23 ab ac ad af R vY (X P i j) i (r.map<|Si S6) SE (Z_ _ _ _ _) (A (Z w.1+1+1+1) 0) 1 1 [H VA] SE R ?_ (by intro Y_ N_;simp at N_;subst N_;rfl) vY SD O SB (Z w.1+1+1+1+1) sP ?_
 .intro U_ Y_ s
  match U_,s with
  |0,s=>simp at s;subst s;simp[Addr.add,go_sem]
 intro b d a W f x S_;have RF:=RP _ _ _ _ b d a W f x;obtain⟨J_,-⟩:=rF f (k:=Z w.1) (by simp<;>omega) (H_ _ O);obtain⟨f1,e1⟩:=rF f (k:=Z w.1+1) (by simp<;>omega) (H_ _ O);obtain⟨f2,e2⟩:=rF f (k:=Z w.1+1+1) sP (H_ _ O);have kx:E a (A (Z w.1) 2)=S (H e):=G (J_ 2) SC;have kv:E a (A n e)=S (H VA):=RF.2;have k0:E a (A (Z w.1+1) 0)=S (H v):=G (f1 0) SC;have k1:E a (A (Z w.1+1) 1)=S (H value):=G (f1 1) SC;have k2:E a (A (Z w.1+1) 2)=S (H C):=G (f1 2) SC;have k3:E a (A (Z w.1+1) 3)=S (X P i j):=G (f1 3) SC;have k4:E a (A (Z w.1+1) 4)=S (Hl c 32 u):=G (f1 4) SC;have V_:E a (A (Z w.1+1+1) 0)=S (H 0):=G (f2 0) SC;have q1:E a (A (Z w.1+1+1) 1)=S (H 0):=G (f2 1) SC;have q2:E a (A (Z w.1+1+1) 2)=S (H 0):=G (f2 2) SC;have W_:E a (A (Z w.1+1+1) 3)=S Hq:=G (f2 3) SC;have X_:E a (A (Z w.1+1+1) 4)=S Hq:=G (f2 4) SC;have z1:∀o,a.frozen? (A (Z w.1+1) o)=Sn:=λo=>G (e1 o) SC;have z2:∀o,a.frozen? (A (Z w.1+1+1) o)=Sn:=λo=>G (e2 o) SC;have h:=Y RF.1;clear J_ f1 f2 e1 e2 RF W f x S_;refine hK _ _ kP λig=>?_;clear hK;refine Xn 9 ?_;refine Xs 10 λK_ hK=>?_;go_simp;refine hK _ _ kP λig=>?_;clear hK;refine Yq ?_;go_wp2;go_region
 all_goals
  go_wp2;have RF:=((⟨(h.1.o 3<|Hl b (i+1) d).1,(h.1.o 3<|Hl b (i+1) d).2,h.2.3,h.2.4,h.2.5,h.2.6⟩:Val w (Z w.1+1+1) q n c 2 _ l L _ _).out5 (H v) (H value) (H C) (Hl b (i+1) d) (Hl c 32 u));exact YL (v:=St #[Hl n m k,Sa #[H v,H value,H C,Hl b (i+1) d,Hl c 32 u]]) (VaE.mk RF.drew)
theorem VcV{x:Yg}(K:N)(I_:N)(M value T:I)(C:N){args u:Wc}{V:N}(h:Q (VaA w j n i 2 (X P B g) l L u))(f:j<=Z w.1)(o:Q (m=J l))(W:Q (J L=32))(ha:Q (Xf w c V p args))(Q_:Q (k=J args))(K_:V<=Z w.1)(O_:B<=1000000)(S_:Yw m 10 x=So)(N_:x.1=6->Vc4 l x.b≠0):
 Sk prog 27 #[Sa #[H x.1,H x.2,H x.a,H x.b,H x.5],Hl n m K,X p k I_,Sa #[H M,H value,H T,X P B g,Hl i 32 C]] w
  (VaE n m K M value T i C j (VaH x args l L) (VaI x l L) (VaT x l u) w):=by
 obtain⟨⟨U_,V_⟩,fd,t,F,J_⟩:=VaU S_;obtain⟨a,s,q,r,z⟩:=x;dsimp only at*;have M_:a=1\/a=2\/(3<=a/\a<=7)\/a=8\/a=9\/a=10:=O;obtain rfl|rfl|⟨c1,c2⟩|rfl|rfl|rfl:=M_
 .obtain⟨e,d1⟩:=fd vY;exact Vaq h f o e d1
 .obtain⟨e,d1⟩:=fd vY;obtain⟨R_,T_⟩:=J_ R;exact Vap h f o e d1 ha Q_ K_ R_ O
 .obtain⟨e,d1⟩:=fd<|by simp[dB];omega
  obtain⟨b,d⟩:=t (by simp[aB];omega);obtain⟨v,y⟩:=F (by simp[bB];omega);have e1:VaH ⟨a,s,q,r,z⟩ args l L=VaF l s (VcZ a (Vc4 l q) (Vc4 l r)):=by unfold VaH;simp only;rw[aM O,aM O,aM O,aM O,aM O]
  have e2:VaI ⟨a,s,q,r,z⟩ l L=L:=aM SG;have e3:VaT ⟨a,s,q,r,z⟩ l u=u:=aM SG;rw[e1,e2,e3];exact VcJ h f o e d1 b d v y c1 c2 N_
 .obtain⟨e,d1⟩:=fd vY;obtain⟨b,d⟩:=t vY;exact Vao h f o e d1 b d W
 .obtain⟨b,d⟩:=t vY;obtain⟨v,y⟩:=F vY;exact Var h f o b d v y W
 obtain⟨b,d⟩:=t vY;exact VcF h f o b d O_
section
def Vb2(w:Ub)(L B:N)(val:Uj)(o:QO):Prop :=
 ∃d c g ha a e,val=Sa #[H o.1,H o.2,H o.3,X d c g,X ha a e]/\c=J o.4/\a=J o.5/\Xf w L B d o.4/\Xf w L B ha o.5
theorem Xf.nil(w:Ub)(L B:N)(a:Uy):Xf w L B a []:=λi h=>Sz h sP
def Vaj(w:Ub)(r:N):Prop:=(E w (A r 0)=S (H 0)/\E w (A r 1)=S (H 0)/\E w (A r 2)=S (H 0)/\E w (A r 3)=S Hq/\E w (A r 4)=S Hq)/\∀o,w.frozen? (A r o)=Sn
def Vaa(w:Ub)(r:N)(v:I)(a:Uy)(n c:N):Prop:=E w (A r 0)=S (H v)/\E w (A r 1)=S (X a n c)
theorem Vaj.keep{w w1:Ub}{r:N}(h:Vaj w r)(k:w1.1[r]?=w.1[r]?):Vaj w1 r :=
 ⟨⟨G (Xc k) h.1.1,G (Xc k) h.1.2.1,G (Xc k) h.1.2.2.1,G (Xc k) h.1.2.2.2.1,G (Xc k) h.1.2.2.2.2⟩,λo=>G (bJ k) (h.2 o)⟩
theorem Vaa.keep{w w1:Ub}{r:N}{v:I}{a:Uy}{n c:N}(h:Vaa w r v a n c)(k:w1.1[r]?=w.1[r]?):Vaa w1 r v a n c:=⟨G (Xc k) h.1,G (Xc k) h.2⟩
theorem VbI{w d:Ub}{v:I}{e:Uy}{n c t u:N}(g:Sw (Z w.1+1+1) (D (D w<|Sc #[Si S6 v,X e n c] t) (Sc #[Si S6 0,Si S6 0,Si S6 0,X U 0 0,X U 0 0] u)) d):Vaa d (Z w.1) v e n c/\Vaj d (Z w.1+1):=by have h:=g.5 (Z w.1) O;have a:=g.5 (Z w.1+1) O;refine⟨⟨G (Xc h) SC,G (Xc h) SC⟩,⟨G (Xc a) SC,G (Xc a) SC,G (Xc a) SC,G (Xc a) SC,G (Xc a) SC⟩,λo=>G (bJ a) SC⟩
def Vah(w:Ub)(r:N)(c value h:I)(i:Uy)(g d e a:N):Prop:=(E w (A r 0)=S (H c)/\E w (A r 1)=S (H value)/\E w (A r 2)=S (H h)/\E w (A r 3)=S (X i g d)/\E w (A r 4)=S (Hl e 32 a))/\∀o,w.frozen? (A r o)=Sn
theorem Vah.keep{w w1:Ub}{r:N}{c value i:I}{j:Uy}{g d e a:N}(h:Vah w r c value i j g d e a)(k:w1.1[r]?=w.1[r]?):Vah w1 r c value i j g d e a :=
 ⟨⟨G (Xc k) h.1.1,G (Xc k) h.1.2.1,G (Xc k) h.1.2.2.1,G (Xc k) h.1.2.2.2.1,G (Xc k) h.1.2.2.2.2⟩,λo=>G (bJ k) (h.2 o)⟩
theorem Vah.five{w:Ub}{r:N}{j value v:I}{x:Uy}{u k c a:N}(l:Vah w r j value v x u k c a)(d i steps':I)(h:Uy)(g e:N):
 Vah (Se (Se (Se (Se (Se w ⟨r,0,U⟩ (Si S6 d)) ⟨r,1,U⟩ (Si S6 i)) ⟨r,2,U⟩ (Si S6 steps')) ⟨r,3,U⟩ (X h g e)) ⟨r,4,U⟩ (X (S ⟨c,0,U⟩) 32 a)) r d i steps' h g e c a:=by
 obtain⟨⟨m,n,p,q,s⟩,t⟩:=l;refine⟨⟨?_,?_,?_,?_,?_⟩,λo=>by simp[t]⟩<;>simp[m,n,p,q,s,go_sem]
theorem Vah.steps'{w:Ub}{r:N}{c value s:I}{h:Uy}{g d e a:N}(i:Vah w r c value s h g d e a)(k:I):Vah (Se w ⟨r,2,U⟩ (Si S6 k)) r c value k h g d e a:=by obtain⟨⟨j,l,m,n,p⟩,q⟩:=i;refine⟨⟨?_,?_,?_,?_,?_⟩,λo=>by simp[q]⟩<;>simp[j,l,m,n,p,go_sem]
theorem Kb.far{B ob:N}{w W:Ub}(h:Kb B ob ob w W){b:N}(c:b<B)(a:b≠ob):W.1[b]?=w.1[b]?:=h.5 b c a a
section
variable{wr:Ub}{ob b o:N}{V:Uj}{f:Bool}
theorem Vdn(h:E wr ⟨b,o,U⟩=S V)(a:b≠ob):∀v,E (Se wr ⟨ob,2,U⟩ v) ⟨b,o,U⟩=S V:=λv=>G (cJ<|by intro e;injection e with e1;exact a e1.symm) h
theorem Vdr(v:Uj)(a:b<Z wr.1):b<Z (Se wr ⟨ob,2,U⟩ v).1:=by rw[Xd];exact a
theorem Vdo(h:E wr ⟨b,o,U⟩=S V)(c:b≠ob)(a:b<Z wr.1):∀v x,E (D (Se wr ⟨ob,2,U⟩ v) x) ⟨b,o,U⟩=S V:=λv x=>G ((Xb (dC _<|Se wr (A ob 2) v) x).cell (p:=A b o) (Vdr v a)) (Vdn h c v)
theorem Vdk{d value l:I}{i:Uy}{h e g c:N}(j:Vah wr ob d value l i h e g c)(k:ob<Z wr.1)(a:I)(x:Obj):Vah (D (Se wr ⟨ob,2,U⟩ (Si S6 a)) x) ob d value a i h e g c:=(j.steps' a).keep ((Xb (dC _<|Se wr (A ob 2) (H a)) x).5 ob (Vdr _ k))
theorem Vdl{d value l:I}{i:Uy}{h e g c:N}(j:Vah wr ob d value l i h e g c)(k:ob<Z wr.1)(a:I)(x y:Obj):Vah (D (D (Se wr ⟨ob,2,U⟩ (Si S6 a)) x) y) ob d value a i h e g c:=(j.steps' a).keep ((Xb (Xb (dC _<|Se wr (A ob 2) (H a)) x) y).5 ob (Vdr _ k))
theorem Vdb(v:Uj)(x:Obj):Kb (Z wr.1) ob ob wr (D (Se wr ⟨ob,2,U⟩ v) x):=((Kb.refl _ ob ob wr).set (bC R) v).trans (Kb.of_below<|(Xb (dC _<|Se wr (A ob 2) v) x).mono (by rw[Xd];exact aA))
theorem Vdc(v:Uj)(x y:Obj):Kb (Z wr.1) ob ob wr (D (D (Se wr ⟨ob,2,U⟩ v) x) y):=((Kb.refl _ ob ob wr).set (bC R) v).trans (Kb.of_below<|(Xb (Xb (dC _<|Se wr (A ob 2) v) x) y).mono (by rw[Xd];exact aA))
theorem Vdd(r:N)(v:Uj)(x:Obj):Kb (Z wr.1) r ob wr (D (Se wr ⟨ob,2,U⟩ v) x):=((Kb.refl _ r ob wr).set (aZ R) v).trans (Kb.of_below<|(Xb (dC _<|Se wr (A ob 2) v) x).mono (by rw[Xd];exact aA))
theorem Vde(r:N)(v:Uj)(x y:Obj):Kb (Z wr.1) r ob wr (D (D (Se wr ⟨ob,2,U⟩ v) x) y):=((Kb.refl _ r ob wr).set (aZ R) v).trans (Kb.of_below<|(Xb (Xb (dC _<|Se wr (A ob 2) v) x) y).mono (by rw[Xd];exact aA))
theorem Kb.five{B r ob:N}{w W:Ub}(h:Kb B r ob w W)(a v1 v2 v3 v4:Uj):Kb B r ob w (Se (Se (Se (Se (Se W ⟨r,0,U⟩ a) ⟨r,1,U⟩ v1) ⟨r,2,U⟩ v2) ⟨r,3,U⟩ v3) ⟨r,4,U⟩ v4):=((((h.set (bC R) _).set (bC R) _).set (bC R) _).set (bC R) _).set (bC R) _
end
end
structure Vae where
 b:N
 pc:N
 regs:Wc
 sc:I
 hp:Wc
 tr:Wc
inductive Vag where
 |trap:Vag
 |ret:I->Vag
 |go:Vae->Vag
def Vdg(a:List ag)(b:N):ag:=a.getD b ⟨[],⟨0,0,0,0⟩⟩
def Vc5(b:ag)(a:Wc):I:=if b.2.1=2/\Vc4 a b.2.a=0 then b.2.4 else b.2.3
def Va1(x:Yg)(args:Wc)(s:Vae):Vag :=
 if x.1=11 then .go ⟨s.b,s.2+1,VaF s.3 x.2<|Vc4 s.3 x.a,s.4,s.5,s.6⟩
 else if x.1=12 then .go ⟨s.b,s.2+1,s.3,Vc4 s.3 x.a,s.5,s.6⟩
 else if x.1=13 then .go ⟨s.b,s.2+1,VaF s.3 x.2 s.4,s.4,s.5,s.6⟩
 else if x.1=6/\Vc4 s.3 x.b=0 then .trap
 else .go ⟨s.b,s.2+1,VaH x args s.3 s.5,s.4,VaI x s.3 s.5,VaT x s.3 s.6⟩
def Vau(a:List ag)(args:Wc)(s:Vae):Vag :=
 if h:s.2<J (Vdg a s.b).1 then Va1 (Vdg a s.b).1[s.2] args s
 else if (Vdg a s.b).2.1=3 then .ret (Vc4 s.3 (Vdg a s.b).2.a)
 else .go ⟨(Vc5 (Vdg a s.b) s.3).toNat,0,s.3,s.4,s.5,s.6⟩
def VaM(a:List ag)(args:List I):N->N->Vae->QO
 |0,k,s=>⟨3,0,k,s.6,s.5⟩
 |fuel+1,k,s=>match Vau a args s with
  |.trap=>⟨2,0,k+1,s.6,s.5⟩
  |.ret v=>⟨1,v,k+1,s.6,s.5⟩
  |.go s'=>VaM a args fuel (k+1) s'
def Vav(V:I)(a:Wc):Vae:=⟨0,0,List.replicate V.toNat 0,0,Va5 a,[]⟩
def Vbl(V:I)(c:List ag)(args b:Wc)(a:I):QO :=
 if VaB V c&&VaX (J args) (J b) a then VaM c args a.toNat 0 (Vav V b)else ⟨4,0,0,[],[]⟩
theorem Vba{a:List ag}(h:n<J a):Vdg a n=a[n]:=by simp[Vdg,h]
theorem Vce{a:List ag}{args:Wc}{s:Vae}(h:m<n):VaM a args (n-m) m s=match Vau a args s with|.trap=>⟨2,0,m+1,s.6,s.5⟩|.ret v=>⟨1,v,m+1,s.6,s.5⟩|.go s'=>VaM a args (n-(m+1)) (m+1) s':=by obtain⟨q,hq⟩:∃q,n-m=q+1:=⟨n-m-1,O⟩;have b:n-(m+1)=q:=O;rw[hq,b,VaM]
structure Vad(V:I)(xs:List ag)(b:N):Prop where
 lt:b<J xs
 ins:∀i (h:i<J (Vdg xs b).1),Yw V 13 (Vdg xs b).1[i]=So
 ter:Zu V 0 (J xs) (Vdg xs b).2=So
theorem Vcw{c:List ag}(h:VaB t c=So)(b:n<J c):Vad t c n:=by
 unfold VaB at h;rw[bY,dV]at h;have a:=h.2 c[n] (aH b);unfold Vdf at a;rw[bY,dV]at a;refine⟨b,?_,?_⟩
 .rw[Vba b];intro i d;exact a.1 _<|aH d
 rw[Vba b];exact a.2
theorem Vbi{x:Yg}(h:Yw t 13 x=So)(a:x.1≠11)(b:x.1≠12)(c:x.1≠13):Yw t 10 x=So:=by simp only[Yw,bY,bD]at h |-;refine⟨⟨⟨⟨⟨h.1.1.1.1.1,?_⟩,h.1.1.1.2⟩,h.1.1.2⟩,h.1.2⟩,h.2⟩;have:=h.1.1.1.1.2;omega
theorem VaR{x:Yg}(h:Yw t 13 x=So):(1<=x.1/\x.1<=13)/\(dB x.1=So->0<=x.2/\x.2<t)/\(aB x.1=So->0<=x.a/\x.a<t)/\(bB x.1=So->0<=x.b/\x.b<t):=by simp only[Yw,bY,bD]at h;obtain⟨⟨⟨⟨⟨a,b⟩,c⟩,d⟩,e⟩,f⟩:=h;exact⟨⟨a,b⟩,Hz c,Hz d,Hz e⟩
theorem VcM{a:List ag}(h:Vad t a n)(d:(Vdg a n).2.1≠3)(c:Wc):0<=Vc5 (Vdg a n) c/\Vc5 (Vdg a n) c<J a:=by
 have b:=h.3;generalize Vdg a n=k at*;simp only[Zu,bY,bD]at b;obtain⟨⟨⟨⟨i,j⟩,_⟩,f⟩,g⟩:=b;unfold Vc5;split;·rename_i e;exact Hz g<|by simp[e.1]
 exact Hz f<|by simp[d]
theorem VbM{a:List ag}(h:Vad t a n)(c:(Vdg a n).2.1≠1):0<=(Vdg a n).2.a/\(Vdg a n).2.a<t:=by have b:=h.3;generalize Vdg a n=g at*;simp only[Zu,bY,bD]at b;obtain⟨⟨⟨⟨e,f⟩,d⟩,_⟩,_⟩:=b;exact Hz d<|by simp[c]
theorem VbT{a:List ag}(h:Vad t a n):1<=(Vdg a n).2.1/\(Vdg a n).2.1<=3:=by have b:=h.3;generalize Vdg a n=c at*;simp only[Zu,bY,bD]at b;exact⟨b.1.1.1.1,b.1.1.1.2⟩
theorem VcS{b:List ag}{args:Wc}{s a:Vae}(h:Vau b args s=.go a):J a.5=J s.5:=by
 unfold Vau at h;split at h
 .unfold Va1 at h
  repeat' split at h
  all_goals first|(cases h;done)|(injection h with h;subst h;first|rfl|exact Vbb)
 split at h;·cases h
 injection h with h;subst h;rfl
theorem Vbv(b:List ag)(args:Wc):∀(a k:N)(s:Vae),J (VaM b args a k s).5=J s.5
 |0,_,_=>R
 |a+1,k,s=>by
  rw[VaM];cases h:Vau b args s with
  |trap=>rfl
  |ret v=>rfl
  |go c=>exact G (Vbv b args a (k+1) c) (VcS h)
theorem VaO(b:0<=T)(c:T<J l):Vc4 (l++[t]) T=Vc4 l T:=by obtain⟨k,rfl⟩:=bX b;have a:k<J l:=O;rw[Vax SB,Vax a];simp[fA a]
theorem Vcj(a:Wc)(b:I):Vc4 (a++[b]) (J a)=b:=by rw[Vax sP];simp
theorem Vbz{sc v:I}(a:0<=t)(c:t<J l):VaF (l++[sc]) t v=VaF l t v++[sc]:=by obtain⟨k,rfl⟩:=bX a;have b:k<J l:=O;simp only[VaF,dM];rw[List.set_append_left _ _ b]
theorem Vb7(a:Wc)(b v:I):VaF (a++[b]) (J a) v=a++[v]:=by simp only[VaF,dM];rw[Hu _ _<|aA];simp
section
attribute [local go_sem ↓] Go.wp_at_zero Go.wp_at_succ
theorem Vby{a:List ag}(L B:N)(ha:Q (d7 w L B p a))(j:Q (n=J a))(C:n<=16777216)(K:VaD a<=16777216)(m:B<=Z w.1):
 Sk prog 55 #[Sa #[H t,X p n c]] w λe q=>e=Rt (H (VaD a))/\Sw (Z w.1) w q:=by
 go_in
 go_wp2;have f:=Xb (dC (Z w.1) w) (Sc #[H t,X p n c] 38);have y:E (D w (Sc #[H t,X p n c] 38)) (A (Z w.1) 1)=S (X p n c):=sP;generalize D w (Sc #[H t,X p n c] 38)=M at*
 go_loop [3,4] (λu i=>∃k:N,k<=n/\i=H k/\u=H (VaD (a.take k):N)) λ_ i=>n-(JB i).toNat
 .exact⟨0,aN,R,R⟩
 obtain⟨k,z,rfl,rfl⟩:=hrel;by_cases P:k<n
 .have h:k<J a:=by have:=j.o;omega
  obtain⟨s,o,rfl,⟨_,x⟩,g⟩:=ha.o k h;obtain⟨T,F,e1,_,_⟩:=g.keep (f.mono m) O;have b:Q (VaD (a.take<|k+1)=VaD (a.take k)+(1+J a[k].1)):=by show _=_;rw[X7 h,Vcp]
  have l:=Vct a<|k+1;have v:VaD (a.take k)+(1+J a[k].1)<=16777216:=by have:=b.o;omega
  clear g l;generalize a[k]=V at*;generalize d:VaD (a.take k)=W at*;have r:=Y d;clear d;go_wp2
  go_round
  .exact⟨k+1,O,gM,by rw[b.o];go_num⟩
  simp[JB];omega
 go_wp2;go_ret;have e:=aW (l:=a) (i:=k) (by have:=j.o;omega);rw[e];exact⟨R,f⟩
theorem Va4{a:List ag}(ha:Q (d7 w m k p a))(l:Q (n=J a))(K:Q (J a+VaJ a<=16777216))(C:k<=Z w.1):
 Sk prog 24 #[Sa #[H t,X p n c]] w λf w'=>f=Rt (Sb (VaB t a))/\Sw (Z w.1) w w':=by
 have R_:n<=16777216:=by have:=l.o;have:=K.o;omega
 have M_:Q (VaD a<=16777216):=by show _<=_;rw[Vbm];exact K.o
 by_cases O_:1<=t/\t<=64/\1<=n/\n<=3000;rotate_left
 .have g:Q (VaB t a=Sn):=Vbe (by have:=l.o;omega);have aa:t<1\/(1<=t/\64<t)\/(1<=t/\t<=64/\n<1)\/(1<=t/\t<=64/\1<=n/\3000<n):=O;clear O_;obtain z|⟨z,d1⟩|⟨z,d1,d2⟩|⟨z,d1,d2,d3⟩:=aa
  all_goals
   go_in
   go_wp2;go_ret;exact⟨Xl g.symm,Xb Rf _⟩
 obtain⟨W_,d1,d2,d3⟩:=O_;by_cases a5:20000<VaD a
 .have g:Q (VaB t a=Sn):=Vbe O
  go_in
  go_wp2_with fail
  refine(Vby m k ?q1 l R_ M_.o ?q2).mono ?_
  case q1=>exact ha.keep (Xb Rf _ |>.mono C)
  case q2=>simp;omega
  rintro f r⟨rfl,s⟩;go_wp2;go_ret;exact⟨Xl g.symm,Xg (Xb Rf _) s⟩
 have g:Q (VaB t a=a.all (Vdf t n)):=by show _=_;have f:=l.o;unfold VaB;rw[VbY W_ d1 O O O,<-f];rfl
 have ac:=Y<|VbF K.o
 go_in
 go_wp2_with fail
 refine(Vby m k ?q1 l R_ M_.o ?q2).mono ?_
 case q1=>exact ha.keep (Xb Rf _ |>.mono C)
 case q2=>simp;omega
 rintro f r⟨rfl,s⟩;obtain⟨L,ab⟩:=NC s;have M:E r (A (Z w.1) 0)=S (H t):=by rw[L _ _ sP];simp
 have T:E r (A (Z w.1) 1)=S (X p n c):=by rw[L _ _ sP];simp
 have x:=Xg (Xb (dC (Z w.1) w) _) s;have ao:=s.4;simp at ao;have y:=Y x;have T_:=Y<|ha.keep (x.mono C);clear L ab s x ha;go_wp2
 go_loopw [4] (λq wr=>∃d:N,d<=n/\q=H d/\Sw (Z r.1) r wr/\Q ((a.take d).all (Vdf t n)=So)) λq _=>n-(JB q).toNat
 .exact⟨0,aN,R,Rf,R⟩
 obtain⟨d,hk,rfl,v,K_⟩:=hrel;have af:=v.4;by_cases a4:d<n;rotate_left
 .have Y_:=Y (YE (p:=Vdf t n) (xs:=a) (k:=d) (by have:=l.o;omega) K_.o);go_wp2;go_ret;exact⟨Xl (by rw[g.o,Y_.o]),Xg y.o v⟩
 have u:d<J a:=by have:=l.o;omega
 obtain⟨ap,o_,rfl,⟨_,aq⟩,hc⟩:=T_.o d u;obtain⟨ia,ic,f1,⟨f2,f3,V,B⟩,Q_⟩:=hc;have az:=ac.o _<|aH u;have S_:=Y λh=>JN (p:=Vdf t n) (xs:=a) (k:=d) u h;have aj:=Y λh=>XY (p:=Vdf t n) u K_.o h;have U_:=Y Q_;clear Q_;generalize a[d]=o at*;have W:Q (Vdf t n o=(o.1.all (Yw t 13)&&Zu t 0 n ⟨o.2.1,o.2.a,o.2.3,o.2.4⟩)):=R;have a2:(0:I)<=d:=O;have a3:(d:I)<n:=O;go_wp2;have V_:=Y v;clear v
 go_loopw [5] (λq wi=>∃j:N,j<=J o.1/\q=H j/\Sw (Z r.1) r wi/\Q ((o.1.take j).all (Yw t 13)=So)) λq _=>J o.1-(JB q).toNat
 .exact⟨0,aN,R,V_.o,R⟩
 clear af;obtain⟨j,hj,rfl,b,L_⟩:=hrel;have e1:=G (XU b O) f1;have r0:=G (XU b O) M;have r1:=G (XU b O) T;have a6:=b.4;by_cases F:j<J o.1
 .obtain⟨b',o',rfl,⟨_,ar⟩,N_⟩:=U_.o j F;obtain⟨g0,g1,g2,g3,g4⟩:=N_.keep b O;have ad:=Y λh=>JN (p:=Yw t 13) (xs:=o.1) (k:=j) F h;have al:=Y λh=>XY (p:=Yw t 13) F L_.o h;have a0:(0:I)<=j:=O;have a1:(j:I)<J o.1:=O;clear N_ f1 f2 f3 V B M T;generalize o.1[j]=P at*;cases hr:Yw t 13 ⟨P.1,P.2,P.a,P.b,P.5⟩
  .have e:=Y hr;go_wp2
   go_region_with (go_at_call 56;refine YU Ur λJ_ i=>?_;rw[Xw e])
   all_goals
    go_wp2;go_ret;exact⟨Xl (by rw[g.o,Xw S_<|by rw[W.o,Xw ad e.o];rfl]),Xg y.o<|Xg b.drew i⟩
  have e:=Y hr;go_wp2
  go_region_with (go_at_call 56;refine YU Ur λJ_ i=>?_;rw[Xw e])
  all_goals
   go_wp2;exact⟨⟨j+1,O,gM,Xg b.drew i,Xw al e.o⟩,SA⟩
 have Z_:=Y<|YE (p:=Yw t 13) (xs:=o.1) (k:=j) O L_.o;have e2:=G (XU b O) f2;have e3:=G (XU b O) f3;have e4:=G (XU b O) V;have e5:=G (XU b O) B;clear f1 f2 f3 V B M T;cases hr:Zu t 0 n ⟨o.2.1,o.2.a,o.2.3,o.2.4⟩
 .have e:=Y hr;clear hr;go_wp2
  go_region_with (go_at_call 57;refine YU KS λJ_ i=>?_;rw[Xw e])
  all_goals
   go_wp2;go_ret;exact⟨Xl (by rw[g.o,Xw S_<|by rw[W.o,e.o];simp]),Xg y.o<|Xg b.drew i⟩
 have e:=Y hr;clear hr;go_wp2
 go_region_with (go_at_call 57;refine YU KS λJ_ i=>?_;rw[Xw e])
 all_goals
  go_wp2;exact⟨⟨d+1,O,gM,Xg b.drew i,Xw aj<|by rw[W.o,e.o,Z_.o];rfl⟩,SA⟩
end
section
def ZN(w:Ub)(b n:N)(P:Tj)(a:Vu):Prop :=
 w.rowIs b 99 n a/\(∀i,i<n->Sx w (b+1) 2 1 (a i) (J (P i)) ((P i).map (Si S6)))/\(∀i j,i<n->j<n->i≠j->(a i).ownBlock=U\/(a i).ownBlock≠(a j).ownBlock)
theorem ZN.alloc{w b n P c}(h:ZN w b n P c)(o):ZN (D w o) b n P c:=⟨h.1.alloc o,λi a=>(h.2.1 i a).alloc o,h.2.2⟩
theorem ZN.below{w a:Ub}{f n P e}(h:ZN w f n P e)(k:Sw (Z w.1) w a):ZN a f n P e:=by refine⟨h.1.of_block<|k.5 _ h.1.lt,λi d=>?_,h.2.2⟩;refine(h.2.1 i d).kept (row:=U) ⟨k.1,k.2,k.3,k.4,λb c _=>k.5 b c⟩ ?_;cases (e i).ownBlock<;>simp
theorem ZN.congr{w b n P P' c}(h:ZN w b n P c)(e:∀i,i<n->P i=P' i):ZN w b n P' c :=
 ⟨h.1,λi a=>(e i a)▸h.2.1 i a,h.2.2⟩
theorem ZN.step{w k:Ub}{y n P v}(h:ZN w y n P v){t}(p:t<n)(x)(b:Uj)(o:w.grownBy k (v t).ownBlock)(s:Sx k (y+1) 2 1 b (J (P t)+1) ((P t).map (Si S6)++[Si S6 x]))(l:b.ownBlock=(v t).ownBlock\/b.ownBlock=S (Z w.1)):
 ZN (Se k ⟨y,t,U⟩ b) y n (λi=>if i=t then P t++[x]else P i) (λi=>if i=t then b else v i):=by
 have u:=h.1.of_block (o.5 _ h.1.lt λe=>by have:=((h.2.1 t p).lt _ e.symm).1;omega);refine⟨u.set t b,λi a=>?_,λi j a d c=>?_⟩
 .refine ke ?_ SG _;by_cases e:i=t
  .subst e;simp only[gG,aQ,bA,bO,bG,eH,fZ];exact s
  simp only[e,fD];exact(h.2.1 i a).kept o (h.2.2 i t a p e)
 have fresh:∀m,m<n->(v m).ownBlock=U\/(v m).ownBlock≠S (Z w.1):=λm r=>by
  by_cases e:(v m).ownBlock=S (Z w.1);·have:=((h.2.1 m r).lt _ e).2;omega
  exact aZ e
 by_cases e1:i=t
 .subst e1;have e2:¬j=i:=λe=>c e.symm;simp only[gG,e2,fD];obtain q|q:=l;·rw[q];exact h.2.2 i j a d c
  right
  rw[q];intro g;obtain f|f:=fresh j d;·rw[f]at g;cases g
  exact f g.symm
 simp only[e1,fD];by_cases e2:j=t
 .subst e2;simp only[gG];obtain q|q:=l;·rw[q];exact h.2.2 i j a d c
  rw[q];exact fresh i a
 simp only[e2,fD];exact h.2.2 i j a d c
theorem ZN.ints{w e n P f}(h:ZN w e n P f):XR w e (Z w.1) (S ⟨e,0,U⟩) ((Rg n).map P):=λi a=>by
 simp only[bK,gI]at a;let⟨b,c,d,ha⟩:=Xk<|h.2.1 i a;refine⟨e,0,R,⟨aA,h.1.lt⟩,b,c,?_,?_⟩
 .simp only[cM,dW,aV];rw[h.1.cell a,d]
 simp only[cM,dW];exact ha.mono O<|aA
theorem ZN.born(w:Ub)(n):ZN (D w<|Sc (madeCells #[X U 0 0] n) 99) (Z w.1) n (λ_=>[]) (λ_=>X U 0 0) :=
 ⟨dG _ _ _ _,λ_ _=>dA,λ_ _ _ _ _=>bC R⟩
variable{tg:N->Wa}
open Classical in
noncomputable def UN(tg:Yr)(k b:N):Wc:=Xi<|(Rg k).filter λa=>Jd (JO tg a b)
open Classical in
theorem tN{k b:N}:UN tg (k+1) b=UN tg k b++(if JO tg k b then [(k:I)]else []):=by
 unfold UN;rw[dN,eU,iW,jX];by_cases h:JO tg k b;·rw[aU SI,aU h];simp[Xi]
 rw[aM SI,aM h];simp[Xi]
theorem DZ(k b):J (UN tg k b)<=k:=by unfold UN;rw[Y0];exact aJ (fJ _ _) sP
theorem Cx{k}(h:¬Re tg k)(b):UN tg (k+1) b=UN tg k b:=by rw[tN,aM λd=>h d.1,fF]
noncomputable def Zy(tg:Yr)(F a:Wa)(k i b:N):Wc:=UN tg k b++(if b∈F.take i/\b∉a then [(k:I)]else [])
theorem BG(F a k b):Zy tg F a k 0 b=UN tg k b:=by unfold Zy;rw[aM sP,fF]
theorem Ca(F a k i b):J (Zy tg F a k i b)<=k+1:=by unfold Zy;have:=DZ (tg:=tg) k b;rw[aQ];split<;>simp<;>omega
theorem Kx{F:Wa}{i b}(a:i<J F):b∈F.take (i+1)↔b∈F.take i\/b=F[i]:=by rw[bN a,bU,cS]
theorem DN{F a:Wa}{k i}(c:i<J F)(h:F[i]∈a)(b):Zy tg F a k (i+1) b=Zy tg F a k i b:=by
 unfold Zy;by_cases e:b=F[i];·rw[aM λq=>q.2 (e▸h),aM λq=>q.2 (e▸h)]
 by_cases q:b∈F.take i/\b∉a;·rw[aU ⟨(Kx c).2 (bC q.1),q.2⟩,aU q]
 rw[aM λr=>q ⟨((Kx c).1 r.1).resolve_right e,r.2⟩,aM q]
theorem CD{F a:Wa}{k i}(d:F.Nodup)(c:i<J F)(h:F[i]∉a)(b):Zy tg F a k (i+1) b=if b=F[i]then Zy tg F a k i F[i]++[(k:I)]else Zy tg F a k i b:=by
 have g:F[i]∉F.take i:=λq=>by have e:=(hH i F).symm;have f:F[i]∈F.drop i:=(gZ c)▸cI;rw[e,gW]at d;exact d.2.2 _ q _ f R
 by_cases e:b=F[i]
 .rw[aU e,e];unfold Zy;rw[aU ⟨(Kx c).2 (aZ R),h⟩,aM λq=>g q.1,fF]
 rw[aM e];unfold Zy;by_cases q:b∈F.take i/\b∉a;·rw[aU ⟨(Kx c).2 (bC q.1),q.2⟩,aU q]
 rw[aM λr=>q ⟨((Kx c).1 r.1).resolve_right e,r.2⟩,aM q]
theorem Bt{F a:Wa}{k}(hF:∀x,x∈F↔Re tg x)(c:∀x,x∈a↔Av tg k x)(e:Re tg k){i}(d:J F<=i)(b):Zy tg F a k i b=UN tg (k+1) b:=by
 rw[tN];unfold Zy;rw[aW d];by_cases h:JO tg k b;·rw[aU ⟨(hF b).2 h.2,λq=>h.3<|(c b).1 q⟩,aU h]
 rw[aM λq=>h ⟨e,(hF b).1 q.1,λr=>q.2<|(c b).2 r⟩,aM h]
end
theorem AO(c)(ha:Q (Xp w m k p x))(j:Q (n=J x))(hs:Q (J x+Xx x<=1048576))(hB:k<=Z w.1)(hO:Q (Uw w))(hT:Q (T7 w))(hv:Q (XJ ⟨t,x⟩=So)):
 Sk prog 144 #[Sa #[H t,X p n c]] w λe O_=>∃U_ P B c1 C c2 g3 M c4,e=Rt (Sa #[Hl B n c1,Hl C n c2,Hl g3 n n,Hl M (J (XT P n 0)) c4])/\Sw (Z w.1) w O_/\YX (X8 x) n P/\Ej O_ (Z w.1) n U_ (λi:N=>AQ x 0 (i:I)) (λz=>Xh (Zp x).1 z) P (XT P n 0) B c1 C c2 g3 M c4:=by
 have y:=Y<|Wz hv;have aa:n<=1000:=oP y.2 j.o;have Z_:1<=n:=oP y.1 j.o;have a4:=Y λW (T:Sw (Z w.1) w W)=>JK t p n c x m k W (Y<|ha.keep (T.mono hB)) j hs (oN T.4) (Y<|hO.keep T) (Y<|hT.keep T);rw[hv.o]at a4;have bx:=Y λW (T:Sw (Z w.1) w W)=>KF t c (Y<|ha.keep (T.mono hB)) j O (oN T.4) (Y<|by rw[j.o];exact y.4)
 go_in
 go_wp2_with fail
 refine YU (a4 _<|Xb (Xb Rf _) _) λl T_=>?_;obtain⟨a8,ei⟩:=NC T_;have k0:E l (A (Z w.1) 0)=S (H t):=by rw[a8 _ _<|by simp;omega];simp[go_sem]
 have k1:E l (A (Z w.1) 1)=S (X p n c):=by rw[a8 _ _<|by simp;omega];simp[go_sem]
 have bf:=Y<|Xg (Xb (Xb (dC (Z w.1) w) _) _) T_;have gl:Z w.1+2<=Z l.1:=by have:=T_.4;simp at this;omega
 have b1:Q (l.rowIs (Z w.1+1) 91 4 λ_=>Hq):=Y (by
  have u:=eK (D w<|Sc #[H t,X p n c] 45) #[Hq,Hq,Hq,Hq] 91 (λ_=>Hq) (λi q=>by
   match i,q with
   |0,_=>rfl
   |1,_=>rfl
   |2,_=>rfl
   |3,_=>rfl)
  rw[aO]at u;exact u.of_block<|T_.5 _ sP)
 clear a8 ei T_;go_wp2_with fail
 refine(bx l bf).mono ?_;rintro e w2⟨U_,rfl,J_,hU⟩;have K0:=Y k0;have K1:=Y k1;have Q_:=Y<|Xg bf J_;have L:=Y hU;have gp:=J_.4;have df:=Y<|b1.of_block (J_.5 _ b1.lt);have q0:=G (XU J_ O) k0;have q1:=G (XU J_ O) k1;clear k0 k1 hU;clear J_;go_wp2_with fail
 refine(Ki t p c aa).mono ?_;rintro e w3⟨s,F,rfl,fi,f6,a6,cv⟩;have H_:=Y a6;have b4:=Y cv;have gr:=a6.4;have ea:(n+63)/64<=100:=O;have eb:n<=64*((n+63)/64):=O;generalize (n+63)/64=KK at*;have HC:Q (E w2 (A (Z w.1) 0)=S (H t)/\E w2 (A (Z w.1) 1)=S (X p n c)):=Y ⟨q0,q1⟩;clear q0 q1 a6 cv;have b8:=Y<|ha.keep ((Xg Q_ H_).mono hB);have b7:=Y (VY s F (Z w3.1) c p m k j aa eb ea O O O (Y<|by rw[j.o];exact y.3) (J x) 0 (λ_=>0) Hq [] w3 b4 b8 Z_ (Y<|by rw[j.o];exact ZA _ _) (Y KW) (by simp only[bO,aV];exact ZA _ _));go_wp2_with fail
 refine YU b7 λw4⟨v4,L_,r⟩=>?_;have b5:Q (YW w4 s F (Z w3.1) KK p n c (Zp x).1 v4 (Zp x).2):=Y (by unfold Zp;exact r);clear r;have r:=b5.o;have cl:=λa Y_=>G (L_.5 a O O O λe=>by cases e) (H_.5 a Y_)
 have R_:Q (Sw (Z w2.1) w2 w4):=Y ⟨G L_.1 H_.1,G L_.2 H_.2,G L_.3 H_.3,oN L_.4,cl⟩;have bd:0<J (Zp x).2/\J (Zp x).2<=1000:=by
  have h1:=y.ord_len;have h2:J (Ja x)=J (Zp x).2:=by simp[Ja]
  have:=y.2;omega
 obtain⟨gL,cL,rfl,⟨fz,f4⟩,eg⟩:=Xm r.6 bd.1;have br:Q (Je (Zp x).2=(Xi (Zp x).2).map (Si S6)):=Y (by simp[Je,Xi]);have bt:Q ((Xi (Zp x).2).reverse=Xi (Ja x)):=Y (by simp[Ja,Xi]);have bq:Q (J (Zp x).2=J (Ja x)):=Y (by simp[Ja]);have bn:Q (Sx w4 (Z w3.1) 2 1 (Hl gL (J (Zp x).2) cL) (J (Zp x).2) ((Xi (Zp x).2).map (Si S6))):=Y (by rw[<-br.o];exact r.6);have b0:Q (J (Zp x).2=J (Xi (Zp x).2)):=Y (by simp[Xi]);have c2:=r.3;have c1:=r.2;have a0:=Y r.5;have gf:=r.9;have gd:=r.7;have ge:=r.8;generalize J (Zp x).2=ab at*;clear L_ r cl;go_wp2_with fail
 refine YU (TM O b0 bn) λw5⟨N_,a9⟩=>?_;rw[bt.o]at a9;have bo:=Y a9;have ad:=Y (R_.grown N_ R_.4 λa e=>by cases e;omega);have dn:=G (bZ (a:=(A s 2)) (N_.5 s (oN R_.4) λe=>by injection e with e;omega)) c2;have cb:=G (bZ (a:=(A s 1)) (N_.5 s (oN R_.4) λe=>by injection e with e;omega)) c1;have aj:=Y (a0.of_block<|N_.5 F (oN a0.lt) λe=>by injection e with e;omega);have gs:=N_.4;clear N_ a9 c1 c2;go_wp2_with fail
 have dj:Q (((Rg n).map λi:N=>AQ x 0 i)=((Rg n).map (XX x n)).map Xi):=Y (by rw[jO];apply gH;intro b _;rw[Function.comp,j.o];exact K9 (λar j cz ht=>(y.3 ar j cz ht).1) b)
 have b6:Q (XR w5 (Z l.1+1) (Z w2.1) (S ⟨Z l.1+1,0,U⟩) (((Rg n).map (XX x n)).map Xi)):=Y (by rw[<-dj.o];exact L.ints.keep ad);have bp:Q (Xf w5 (Z w3.1) (Z w5.1) (S ⟨gL,0,U⟩) (Xi<|Ja x)):=Y (by obtain⟨a',c',et,ej⟩:=Xk bo;injection et with e1;rw[e1];exact ej)
 have bm:=Y (Bk n b6 (Y sP) bp bq aa Z_ bd.2 bd.1 eg aA ad.4 (Y<|by rw[j.o];exact y.ord_len.2.2) (Y (λg0 hl=>by obtain⟨b,_,rfl⟩:=aY.1 hl;exact⟨aJ tR O,λcz ht=>(Uf.1 ht).1⟩)))
 refine bm.mono ?_;rintro e d⟨g,Ws,rfl,f5,X_,ct,cx⟩;have V:Q (YX (X8 x) n ((Rg n).map (VB Ws (Ja x) ab))):=Y (by have u:=y.idm (Ws:=Ws) (by rw[<-j.o];exact cx);rw[<-bq.o,<-j.o]at u;exact u)
 have a3:=Y ct;have o:=Y<|ad.trans (X_.mono ad.4);have gt:=X_.4;have d1:=oB X_ cb (by show s<_;have:=R_.4;omega);have c9:=Y<|aj.of_block (X_.5 F aj.lt);have f7:=aj.lt;have fj:s<Z w5.1:=O;have f0:=G (XU o O) HC.1;have f1:=G (XU o O) HC.2;have en:Z w.1<Z d.1:=O;have d0:=λe7=>G (bP d e7 (A (Z w.1) 1) en) f1;clear X_ ct cx cb dn;go_wp2_with fail
 have bl:Q (OE d (D d<|Sc #[Hq,Hq,Hl g n n,Hq] 91) (Z d.1) (Hl g n n) Hq U_ (λz=>Sb (Xh (Zp x).1 z)) 0 U 0 0 U 0):=Y
  ⟨SC,SC,SC,SC,λab=>(eK d #[Hq,Hq,Hl g n n,Hq] 91 (λi=>#[Hq,Hq,Hl g n n,Hq].getD i Su) λi q=>by simp[Array.getElem?_eq_getElem q]).frozen ab,Xb Rf _,sP,R,dA,dA,bC R⟩
 clear f0 f1 d0
 go_loopw [32] (λac wr=>∃(b:N)(p1:Uy)(c1:N)(p2:Uy)(c2:N),b<=n/\ac=H b/\Q (OE d wr (Z d.1) (Hl g n n) Hq U_ (λz=>Sb (Xh (Zp x).1 z)) b p1 c1 b p2 c2)) λac _=>n-(JB ac).toNat
 .exact⟨0,U,0,U,0,aN,R,bl⟩
 obtain⟨b,p1,c1,p2,c2,fl,rfl,h⟩:=hrel;by_cases cs:b<n
 .have gi:=h.7;have m0:=h.1;have mz:=h.5 0;have mU:=G ((h.6).cell (p:=A (Z l.1+1) b) (by show Z l.1+1<_;have:=L.1.lt;have:=o.4;omega)) (oB o (L.1.cell cs) (by show Z l.1+1<_;exact L.1.lt));obtain⟨ua,uc,a5,_⟩:=Xk<|L.2.1 b cs;have dk:=Y a5;rw[a5]at mU;generalize J (AQ x 0 b)=ul at*;clear a5;go_wp2_with fail
  have ec:Z l.1+1<Z d.1:=oP L.1.lt o.4;have ed:Z l.1+1≠Z d.1:=O;have ao:s<Z d.1:=O;have ee:s≠Z d.1:=O;have be:=Y λW (u:Sw (Z d.1) d W)=>Jm F KK b (Zp x).1 W (Y<|oW (X8 x) (J x) 0 _ KW) (Y<|c9.of_block (u.5 F O)) O O;refine Y7 (λO_=>E O_ (A (Z l.1+1) b)=S (X ua ul uc)) λig=>?_;refine Xn 0 ?_;refine Xn 2 ?_;(iterate 4 refine Rm ?_);refine eS (rs:=[1,7]) vZ sP ?_;refine(bQ R (λK hK=>?_) (bQ R (λK hK=>?_) dY));go_simp;refine hK _ _ kP λig=>?_;clear hK
  refine Xs 7 λK hK=>?_;go_simp;refine hK _ _ kP λig=>?_;clear hK;rotate_left;go_simp;refine hK _ _ kP λig=>?_;clear hK
  refine Xs 1 λK hK=>?_;go_simp;refine hK _ _ kP λig=>?_;clear hK
  all_goals (
   refine Xs 8 λK hK=>?_;refine YI QQ (ue h.9) ?_
   intro v8 w8 bc cq _ ck;obtain⟨g8,c8,rfl,fx,_⟩:=Xm bc O;obtain⟨ci,ce,cg,cn⟩:=(h.below (dC (Z wr.1) wr).drew).app1 cq (by rw[dk.o];exact bc) (by simpa using ck);have z0:=G (ce 0) h.1;have zf:=cg 0;have zU:=oB cn mU ec;have f:=Y ci;clear bc cq ck ci ce cg cn;refine hK _ _ zU λig=>?_;clear hK;refine Xn 9 ?_;refine Xs 10 λK hK=>?_;go_simp;refine hK _ _ (G (Xc<|cY ed) zU) λig=>?_;clear hK;refine Yq ?_;clear ig z0 zf zU;generalize Se w8 _ _=w9 at*;have af:=Y<|f.below (dC (Z w9.1) w9).drew;have x1:=f.2;have xl:=f.7;have xS:=oB f.6 d1 ao;clear m0 mz mU h;go_wp2_with fail
   refine Y7 (λO_=>E O_ (A s 1)=S (Hl F KK KK)) λig=>?_;refine Xn 0 ?_;refine Xn 2 ?_;(iterate 4 refine Rm ?_);refine eS (rs:=[1,7]) vZ sP ?_;refine(bQ R (λK hK=>?_) (bQ R (λK hK=>?_) dY));go_simp;refine hK _ _ kP λig=>?_;clear hK
   refine Xs 7 λK hK=>?_;go_simp
   go_at_call 118
   refine YU (be _ af.6) λc6 V_=>?_;have v:=Y<|af.below V_;have y1:=v.2;have yl:=v.7;have yS:=oB v.6 d1 ao;clear V_;refine hK _ _ yS λig=>?_;clear hK;refine Xs 8 λK hK=>?_;go_simp;refine hK _ _ kP λig=>?_;clear hK;rotate_left;go_simp
   go_at_call 118
   refine YU (be _ af.6) λc6 V_=>?_;have v:=Y<|af.below V_;have y1:=v.2;have yl:=v.7;have yS:=oB v.6 d1 ao;clear V_;refine hK _ _ yS λig=>?_;clear hK
   refine eS (rs:=[1,8]) vZ sP ?_;refine(bQ R (λK hK=>?_) (bQ R (λK hK=>?_) dY));go_simp;refine hK _ _ kP λig=>?_;clear hK
   refine Xs 8 λK hK=>?_;go_simp;refine hK _ _ kP λig=>?_;clear hK;rotate_left;go_simp;refine hK _ _ kP λig=>?_;clear hK
   refine Xs 1 λK hK=>?_;go_simp;refine hK _ _ kP λig=>?_;clear hK
   all_goals (
    refine Xs 9 λK hK=>?_;refine YI Q7 v.o2 ?_
    intro g5 e9 ba cp _ cj;obtain⟨fe,dl,rfl,fq,_⟩:=Xm ba O;obtain⟨ch,cd,cf,cm⟩:=v.app2 cp ba (by simpa using cj);have z0:=G (cd 1) v.2;have zf:=cf 1;have zS:=oB cm yS ao;have c7:=Y ch;clear ba cp cj ch cd cf cm;refine hK _ _ zS λig=>?_;clear hK;refine Xn 10 ?_;refine Xs 11 λK hK=>?_;go_simp;refine hK _ _ (G (Xc<|cY ee) zS) λig=>?_;clear hK;refine Yq ?_;clear ig z0 zf zS;generalize Se e9 _ _=g6 at*;go_wp2
    exact⟨⟨b+1,_,c8,_,dl,O,gM,c7⟩,SA⟩))
 have ef:n=b:=O
 subst ef;have m2:=h.3;have ml:=h.7;obtain⟨P,hP⟩:∃P,P=(Rg n).map (VB Ws (Ja x) ab):=⟨_,R⟩;rw[<-hP]at V;have a1:=Y V.1.symm;have dd:Q (∀z,z<n->P.getD z 0=VB Ws (Ja x) ab z):=Y (λz hz=>by rw[hP];simp[hz]);have b3:Q (wr.rowIs g 2 n λz=>H<|P.getD z 0):=Y ((a3.of_block<|h.6.5 g a3.lt).congr λz hz=>by rw[dd.o z hz]);have cr:=a3.lt;have da:Q (Xf wr g (g+1) (S ⟨g,0,U⟩) P):=Y (λi q=>by
  have em:i<n:=oN a1.o
  refine⟨g,0,R,⟨aA,iJ⟩,?_⟩;rw[aV,b3.cell em];simp[q])
 have a2:Q (∀ar,Re (X8 x) ar->ar<n):=Y (by rw[j.o];exact y.re);have dc:=Y λe8 hp=>(Dh V a2 e8 hp).2;have bi:=Y<|Au n da a1 aa O dc;clear hP;go_wp2_with fail
 refine bi.mono ?_;rintro e w7⟨ca,cc,rfl,al,co⟩;have bv:=Y (AV ca cc (Z wr.1) a1 aa aA (λb=>J (Zq (X8 x) n b)) (Y λb c hc=>qJ V a2 hc) (Y λb=>rr n b) n 0 Hq [] w7 (Y co) (Y<|dA) aA Z_ (Y O) (by have:=o9 V a2 n Re.root;simp only[bO];omega));have fa:=Y al;have az:=Y<|h.below al;have gv:=al.4;have m3:=az.4;have mz:=az.5 3;clear al co;go_wp2_with fail
 refine bv.mono ?_;rintro e w8⟨v8,rfl,M_,aq⟩;have bh:Q (Sw (Z w7.1) w7 w8):=Y ⟨M_.1,M_.2,M_.3,M_.4,λa Y_=>M_.5 a Y_ λe=>by cases e⟩;have er:0<J (XT P n 0):=by cases n<;>simp[XT]
 rw[dR]at aq;obtain⟨M,c4,rfl,fs,_⟩:=Xm aq er;have db:=Y aq;have f:=Y<|az.below bh;have t0:=f.1;have t1:=f.2;have t2:=f.3;have t3:=f.4;have tz:=f.5 3;have gz:=bh.4;have S_:=Y f.6;obtain⟨B,k1,e1,fn,_⟩:=Xm f.9 Z_;obtain⟨C,k2,e2,fr,_⟩:=Xm f.o2 Z_;injection e1 with ds fb du;injection e2 with dw fc dz;subst ds;subst dw;subst du;subst dz;have ga:=(h.9.lt B R).2;have gb:=(h.o2.lt C R).2;generalize hQ:J (XT P n 0)=ql at*;clear M_ aq m2 m3 mz;have I_:=df.of_block<|G (S_.5 _ O) (o.5 _ O);have y0:=I_.cell (i:=0) vY;have y1:=I_.cell (i:=1) vY;have y2:=I_.cell (i:=2) vY;have y3:=I_.cell (i:=3) vY;have yf:=I_.frozen;have gg:Z d.1≠Z w.1+1:=O;have eo:Z w.1+1≠Z d.1:=O;have di:=Y I_;go_wp2_with fail
 obtain⟨wE,hE⟩:∃wE,wE=Se (Se (Se (Se (Se w8 (A (Z d.1) 3) (Hl M ql c4)) (A (Z w.1+1) 0) (Hl B n c1)) (A (Z w.1+1) 1) (Hl C n c2)) (A (Z w.1+1) 2) (Hl g n n)) (A (Z w.1+1) 3) (Hl M ql c4):=⟨_,R⟩;rw[<-hE];obtain⟨z0,z1,z2,z3,ap,gh,ep,es,eq⟩:=xq di eo hE;clear hE;refine YL (v:=Sa #[Hl B n c1,Hl C n c2,Hl g n n,Hl M ql c4]) ?_;subst hQ;have a7:=λa h1 h2=>G (ap a O h2) (S_.5 a h1);have cw:=λi q a e=>(L.2.1 i q).lt a e;have gq:=o.4;refine⟨U_,P,B,c1,C,c2,g,M,c4,R,?_,V,V.1,?_,?_,?_,?_,?_,?_,?_,?_⟩;·exact⟨G ep<|G S_.1 (G o.1 Q_.1),G es<|G S_.2 (G o.2 Q_.2),G eq<|G S_.3 (G o.3 Q_.3),O,λa Y_=>G (a7 a O O) (G (o.5 a O) (Q_.5 a Y_))⟩
 .exact n9 f.9 O λa e=>by cases e;exact ap B O O
 .exact n9 f.o2 O λa e=>by cases e;exact ap C O O
 .exact b3.of_block<|G (a7 g cr O) (h.6.5 g cr).symm
 .exact n9 db O λa e=>by cases e;exact ap M O O
 .exact λi q=>n9 (L.2.1 i q) O λa e=>by have:=cw i q a e;exact G (a7 a O O) (o.5 a O)
 .exact L.2.2
 .refine⟨O,λe=>?_,O,O,O,O,O⟩;obtain u|u:=f.dj;·cases u
  exact u<|by rw[e];rfl
 exact λi q a e=>by have:=cw i q a e;omega
theorem zO{P b}(g:Yr):(WC P (c+1) b).flatMap g=(WC P c b).flatMap g++(if P.getD c 0=(b:I)then g c else []):=by
 unfold WC;rw[dN,eU,iW,jX,eZ];by_cases e:P.getD c 0=(b:I);·rw[aU (by rw[iA];exact e),aU e];simp
 rw[aM (by rw[iA];exact e),aM e];simp
theorem zR{P:Wc}{b}(g:Yr):∀(m c:N),c+m=J P->∃r,(Nj P b).flatMap g=(WC P c b).flatMap g++r
 |0,c,h=>⟨[],by rw[show c=J P by omega,vM];simp⟩
 |m+1,c,h=>by obtain⟨r,a⟩:=zR (P:=P) (b:=b) g m (c+1) O;exact⟨_,by rw[a,zO,cK]⟩
theorem zV(w:Ub)(b:N):Sx (D w<|Sc #[Si S6 (b:I)] 2) (Z w.1) 2 1 (X (S ⟨Z w.1,0,U⟩) 1 1) (J [b]) (Je [b]):=by have:=eI (base:=Z w.1) (e:=2) (size:=1) w #[H b] 1 sP vY R;simpa [Je]using this
theorem Me(L ic aj B)(z:Q (n=J l))(hn:n<=1000)(x:Vv)(hG:Q (∀b c,x b->c∈Nj l b->x c))(hL:Q (∀m b,x b->J (XT l m b)<=1000)):
 ∀(m b:N)(w:Ub),Q (Xf w aj B L l)->B<=Z w.1->Q (x b)->m<=1000 ->
 Sk prog 96 #[X L n ic,H b,H m] w λe V=>∃M,e=Rt M/\Sw (Z w.1) w V/\Sx V (Z w.1) 2 1 M (J (XT l m b)) (Je<|XT l m b):=by
 intro m
 induction m with
 |zero=>
  intro b w q P p hm;have ba:((0:N):I)=0:=R
  go_in
  go_wp2;go_ret;exact⟨_,R,Xb Rf _,zV w b⟩
 |succ m T=>
  intro b w q P p hm;have IH:=Y T;clear T;have L_:Q (Sw (Z w.1) w<|D w (Sc #[H b] 2)):=Y<|Xb Rf _;have H_:=Y<|zV w b;have K:Q (XT l (m+1) b=b::(Nj l b).flatMap (XT l m)):=Y R;have ab:Q (J (b::(Nj l b).flatMap (XT l m))<=1000):=Y (K.o▸hL _ _ p);rw[K.o];let⟨C,W⟩:∃C:I,C=((m+1:N):I):=⟨_,R⟩;rw[<-W];have bc:C-1=(m:I):=O;have a6:(C==0)=Sn:=SB
  clear W
  go_in
  go_wp2
  go_loopw [7,8] (λvo u wr=>∃(c:N)(i:Uy)(a j:N),c<=n/\u=H c/\vo=X i a j/\Q (a=J (b::(WC l c b).flatMap (XT l m)))/\Q (Sw (Z w.1) w wr)/\Q (Sx wr (Z w.1) 2 1 (X i a j) a (Je (b::(WC l c b).flatMap (XT l m))))) λ_ u _=>n-(JB u).toNat
  .exact⟨0,_,_,_,aN,R,R,Y (by simp[WC]),L_,Y<|by simpa [WC]using H_.o⟩
  obtain⟨c,i,a,j,hc,rfl,rfl,g,f,h⟩:=hrel;by_cases a9:c<n
  .have r:c<J l:=oN z.o;obtain⟨b5,o5,rfl,a5,e5⟩:=q c r;have a2:=G (XU f O) e5;have s:l.getD c 0=l[c]:=by simp[r]
   have d:=Y<|zO (P:=l) (c:=c) (b:=b) (XT l m);rw[s]at d;let⟨bf,Q_⟩:=zR (P:=l) (b:=b) (XT l m) (n-(c+1)) (c+1) (oN z.o);have aa:Q (l[c]=(b:I)->c∈Nj l b):=Y λe=>o8.2 ⟨r,s▸e⟩;have E_:Q (J (b::(WC l (c+1) b).flatMap (XT l m))<=1000):=Y (by have:=ab.o;rw[Q_]at this;simp only[bA,aQ]at this |-;omega)
   clear e5 s Q_;generalize l[c]=T_ at*;by_cases x_:T_=(b:I)
   .subst x_;rw[aU R]at d;rw[d.o]at E_;have q1:((b:I)==b)=So:=sP;have C_:=Y<|IH.o c wr (Y<|q.keep (f.mono P)) (oN f.4) (Y<|hG.o b c p (aa R)) O;have ar:0<J (XT l m c):=by cases m<;>simp[XT]
    have F_:Q (a+J (XT l m c)=J (b::((WC l c b).flatMap (XT l m)++XT l m c))):=Y (by rw[g.o];simp;omega);have bb:a+J (XT l m c)<=1000:=F_.o▸E_;have W_:Q (Je (b::(WC l c b).flatMap (XT l m))++Je (XT l m c)=Je (b::(WC l (c+1) b).flatMap (XT l m))):=Y (by rw[d.o];simp[Je]);have ac:Q (a+J (XT l m c)=J (b::(WC l (c+1) b).flatMap (XT l m))):=Y (by rw[F_.o,d.o]);go_wp2_with fail
    refine C_.mono ?_;rintro e w5⟨v5,rfl,k,t⟩;obtain⟨M_,c5,rfl,a7,_⟩:=Xm t ar;have I_:=Y (n9 h aA λo e=>k.5 o (h.lt o e).2);have X_:=Y<|Xg f k;have Z_:Q (∀F u,(Je<|XT l m c)[F]?=S u->E w5 (((A M_ 0):Addr).add F)=S u):=Y (λF u y=>by rw[mK,aV];exact Jj t y);have be:=f.4;have ad:Q (J (Je<|XT l m c)=J (XT l m c)*1):=Y (by simp[Je]);clear k t;generalize J (XT l m c)=lp at*;go_wp2_with (at_builtin;refine YB RH I_ Z_ (by intro u y;obtain⟨bh,_,rfl⟩:=aY.1 y;rfl) ?_ (hl:=ad))
    intro v8 w8 v P_ _ al;obtain⟨g8,c8,rfl,a8,_⟩:=Xm v O;have Y_:=Y (X_.grown P_ O λo e=>(I_.lt o e).1);have J_:=Y v;rw[W_.o]at J_;clear v P_ al;go_wp2;exact⟨⟨c+1,_,_,_,O,gM,R,ac,Y_,J_⟩,SA⟩
   rw[aM x_,fF]at d;go_wp2;exact⟨⟨c+1,i,a,j,O,gM,R,Y (d.o▸g),f,Y (d.o▸h)⟩,SA⟩
  have ap:c=n:=O;have af:Q (WC l c b=Nj l b):=Y (by rw[ap,z.o];rfl);rw[af.o]at h g;go_wp2;go_ret;refine⟨_,R,f,?_⟩;have:=h.o;rw[g.o]at this |-;exact this
def jr(a:List I):Option Value->Value
 |some (Si S6 z)=>Si S6 (Kp a z)
 |_=>Si S6 0
def recW(cs:Wc)(g:N)(a:Wa)(w:Ub):Ub:=a.foldl (λW o=>Se W.drew ⟨g,o,U⟩ (jr cs<|E W ⟨g,o,U⟩)) w
theorem G7:recW l n (s++[m]) w=Se (recW l n s w).drew ⟨n,m,U⟩ (jr l<|E (recW l n s w) ⟨n,m,U⟩):=by unfold recW;rw[dT];rfl
theorem ox(c:Wc)(g:N){b:N}(d:b≠g):∀(a:Wa)(w:Ub),(recW c g a w).1[b]?=w.1[b]?
 |[],_=>R
 |o::a,w=>by show(recW c g a _).1[b]?=_;rw[ox c g d a];exact Below.heap_setCell w.drew _ _ _ d
theorem pu(c:Wc){g:N}{B:N}(d:B<=g):∀(a:Wa){b w:Ub},Sw B b w->B<=Z b.1->Sw B b (recW c g a w)
 |[],_,_,h,_=>h
 |o::a,_,_,h,hB=>pu c d a (h.drew.setCell (p:=A g o) d _) hB
def lP(a:Wc)(b:Wa)(A_:Wo):Wo:=b.foldl (λA_ o=>A_.set o<|jr a A_[o]?) A_
theorem Xv.recW{d:N->N×N×N}{L:N×N×N}{b t e g n c:N}{cs:Wc}:∀(a:Wa){w:Ub}{A_:Wo},Xv w d L b t e (Hl g n c) n A_->(∀o∈a,o<J A_)->Xv (recW cs g a w) d L b t e (Hl g n c) n (lP cs a A_)
 |[],_,_,h,_=>h
 |o::a,w,A_,h,hl=>by
  have k:Xv w.drew d L b t e (Hl g n c) n A_:=h.keep λm _ _ i=>⟨R,i⟩;have f:=hl o sP;have j:E w (A g o)=A_[o]?:=by rw[aC f];exact h.cell<|aC f
  have l:=k.set o<|jr cs A_[o]?;have:=Xv.recW a l (cs:=cs) (λq hq=>by rw[bL];exact hl q<|by simp[hq]);show Xv (Go.Proofs.YthgmkangeikilaaGreatDoor.recW cs g a (Se w.drew (A g o) (jr cs<|E w (A g o)))) _ _ _ _ _ _ _ _;rw[j];exact this
theorem xu{f1 f3 F:Uj}{L t}(T:Q (Bx w n #[a,f1,X p k B,f3,A_,F] 139))(K:n≠m)(X_:Q (Xf w g i p l))(Y_:Q (k=J l))(W_:i<=m)(ap:m<L)(hB:t<=Z w.1)(hL:L<=t)(hp:Q (Zx w L t P<|s.map λo=>Tx<|A m o))(M:Q (j=J s))(a2:j<=1000)(hz:∀q,w.frozen? (A m q)=Sn)(hv:Q (∀b (h:b<J s),∃z:N,E (recW l m (s.take b) w) (A m<|s[b])=S (H z)/\z<J l)):
 Sk prog 136 #[Hn n,X P j c] w λv r=>v=Rt (St #[])/\r=recW l m s w:=by
 have a0:=T.lt;have T_:Q (∀b q,(recW l m (s.take b) w).frozen? (A m q)=Sn):=Y (λb q=>by
  have ac:∀(s:Wa)(w:Ub),(∀q,w.frozen? (A m q)=Sn)->(recW l m s w).frozen? (A m q)=Sn:=by
   intro s
   induction s with
   |nil=>intro w h;exact h q
   |cons o s ih=>intro w h;exact ih _ λq=>by rw[eX];exact h q
  exact ac _ w hz)
 go_in
 go_wp2
 go_loopw [8] (λy wr=>∃b:N,b<=j/\y=H b/\Q (wr=recW l m (s.take b) w)) λy _=>j-(JB y).toNat
 .exact⟨0,aN,R,Y R⟩
 obtain⟨b,hj,rfl,d⟩:=hrel;by_cases a1:b<j
 .have x:b<J s:=oN M.o;have V:Q (recW l m (s.take<|b+1) w=Se (recW l m (s.take b) w).drew (A m<|s[b]) (jr l<|E (recW l m (s.take b) w) (A m<|s[b]))):=Y (by rw[bN x,G7]);let⟨z,W,a5⟩:=hv b x;obtain⟨C,po,rfl,⟨a3,a4⟩,f⟩:=hp b (by simpa using x);rw[cM]at f;unfold Tx at f;have O_:=(fI (λ(o:Option Obj)=>o) (ox l m (b:=C) O (s.take b) w));have H_:Bx wr n #[a,f1,X p k B,f3,A_,F] 139:=T.keep (by rw[d.o];exact ox l m K _ _);have l2:Cl wr n 2 (X p k B):=ZY H_ R;have I_:Sw m w wr:=by rw[d.o];exact pu l aA _ Rf O
  have kp:E wr (A C<|po+b)=S (Ho m<|s[b]):=by rw[<-f];exact Xc<|by rw[d.o];exact O_
  obtain⟨u,F_,e,aa,ar,rfl,ad,af⟩:=jq (X_.keep<|I_.mono W_) (v:=(z:I)) O O;have ab:e=z:=O;subst ab;have R_:E wr (A m<|s[b])=S (H e):=by rw[d.o];exact W
  have D_:Q (recW l m (s.take<|b+1) w=Se wr.drew (A m<|s[b]) (H<|Kp l e)):=Y (by rw[V.o,<-d.o,R_];rfl);have az:(e:I)<k:=oN Y_.o;have V_:wr.frozen? (A m<|s[b])=Sn:=by rw[d.o];exact T_ b _
  have ao:m≠C:=O;have al:m≠u:=O;have aj:m≠n:=λv=>K v.symm;generalize Kp l e=z1 at*;let⟨S_,N_⟩:∃S_,S_=s[b]:=⟨_,R⟩;rw[<-N_]at kp R_ D_ V_;clear H_ I_ O_ f W V N_ aa;go_wp2;refine Y7 (λr=>E r (A n 2)=S (Hm u F_ k B)/\E r (A u<|F_+e)=S (H z1)) λig=>?_;refine Xn 0 ?_;(iterate 6 refine Rm ?_);refine Xs 7 λU_ hK=>?_;go_simp;refine hK _ _ kP λig=>?_;clear hK;refine Xn 8 ?_;refine Xn 9 ?_;refine Xn 10 ?_;refine Xs 11 λU_ hK=>?_;go_simp;refine hK _ _ kP λig=>?_;clear hK;refine Yq ?_;clear ig;go_wp2;exact⟨⟨b+1,O,gM,Y D_.symm⟩,SA⟩
 have Z_:b=J s:=oN M.o;have aq:¬(b:I)<j:=O;go_wp2_with fail
 refine uT (v:=St #[]) (by simp[JC,results136,go_sem]) R ⟨R,?_⟩;rw[d.o,Z_,gC]
