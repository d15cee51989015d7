import Derived.Test.YtcncjgijikoapaaGreatDoorMA0
namespace Go.Proofs.YtcncjgijikoapaaGreatDoor
set_option maxHeartbeats 4000000
set_option maxRecDepth 100000
open _root_ renaming List.length->J,Nat->N,Int->I,Bool.true->So,Bool.false->Sn,rfl->R,Decidable.decide->Jd,Array.size->Z,Option.some->S,Option.none->U,trivial->JV,absurd->Sz,List.range->Rg
open Go renaming World.cell?->E,IntKind.i64->S6,World.alloc->D,Obj.cells->Sc,undef->Su,RowKit.Below->Sw,World.ownsRow->Sx,World.setCell->Se,Ending.returned->Rt,Calls->Sk,RowKit.intOf->JB,results->JC
open Value renaming slice->X,int->Si,agg->Sa,tuple->St,bool->Sb,string->Sg
open Go.RowKit Go.Shelf Go.Proofs.Tryz
variable{r:Bool}{t T z:I}{n m k B g i j c:N}{w v:Ub}{a A_:Uj}{p P:Uy}{M N_:Vp}{s:Wa}{l:Wc}{x:Wi}{f:Wk}{q:Xe}
inductive Wh (xs:List Xe) (v:N):N->Prop
 |here {b:N}:b<J xs->C7 xs b v=1->Wh xs v b
 |step {b t:N}:b<J xs->C7 xs b v=0->t∈X8 xs b->Yo xs t v=Sn->Wh xs v t->Wh xs v b
def Ol(a:Wi)(v b:N):Prop:=Yo a b v=Sn/\Wh a v b
def UV(a:Wi)(v b:N):Prop:=(v:I)∈XP a b\/∃t∈X8 a b,Ol a v t
theorem qD(a:Wi)(b v):C7 a b v<=2:=by
 unfold C7;split;·exact aN
 exact Vg _
theorem Wh.lt(h:Wh x n m):m<J x:=by
 cases h with
 |here h _=>exact h
 |step h _ _ _ _=>exact h
theorem vN(b:Jy n x)(g:∀i (l:i<J x),M i=OS x[i] (N_ i))(h:∀k,k<J x->∀m,Xh (N_ k) m=So↔(k,m)∈Nr x (J x))(a:k<J x):Xh (M k) m=So↔Yo x k m=Sn/\C7 x k m=1:=by
 have d:=aH a;rw[g k a,vB (λy e=>⟨λz c=>(b.5 _ d y e z c).1,λz c=>(b.6 _ d y e z c).1⟩) (λz c=>(b.7 _ d z c).1) λp j=>(b.8 _ d p j).1];unfold Yo C7 NA;rw[aC a];simp only;have f:Xh (N_ k) m=Cg (XP x k) (m:I):=by rw[eQ,h k a,XD,KE b a]
 rw[f,<-gU,XD]
theorem EC(f:Jy n x)(g:∀i (h:i<J x),M i=OU x[i])(c:k<J x)(a:Yo x k m=Sn)(b:C7 x k m=0):Xh (M k) m=Sn:=by
 have e:=aH c;rw[g k c,<-gU,WK (λy d z l=>(f.6 _ e y d z l).1) λp j=>(f.8 _ e p j).1];unfold Yo at a;unfold C7 NA at b;rw[aC c]at a b;simp only at a b;rintro(h|⟨y,d,h⟩);·rw[XD.2 h]at a;cases a
 exact UQ _ b y d h
theorem FF(e:Jy n x)(f:∀i (h:i<J x),M i=OU x[i])(b:k<J x)(h:Xh (M k) m=Sn):Yo x k m=Sn/\C7 x k m≠2:=by have d:=aH b;rw[f k b,<-gU,WK (λy c z j=>(e.6 _ d y c z j).1) λp g=>(e.8 _ d p g).1]at h;unfold Yo C7 NA;rw[aC b];simp only;refine⟨?_,Ud _ λy c a=>h<|aZ ⟨y,c,a⟩⟩;rw[<-gU,XD];exact λa=>h<|bC a
theorem Ff(e:Jy n x){l:Vp}(p:∀i (h:i<J x),M i=OS x[i] (l i))(r:∀i (h:i<J x),N_ i=OU x[i])(q:∀k,k<J x->∀m,Xh (l k) m=So↔(k,m)∈Nr x (J x)){ord:Vv}(v:∀k,k<J x->ord k)(d:k<J x):
 Sp M N_ ord (X8 x) k m↔Ol x m k:=by
 constructor
 .intro h
  induction h with
  |init f=>
   have a:=(vN e p q d).1 f;exact⟨a.1,Wh.here d a.2⟩
  |@take k z t f a b g j=>
   have c:=FF e r d g;have o:=qD x k t;have w:=e.1.tg _ d _ a;by_cases u:C7 x k t=1;·exact⟨c.1,Wh.here d u⟩
   have s:=j w;exact⟨c.1,Wh.step d (oN c.2) a s.1 s.2⟩
 rintro⟨f,a⟩
 induction a with
 |here b g=>exact Sp.init<|(vN e p q b).2 ⟨f,g⟩
 |@step k B b g c o y j=>exact Sp.take (v _ b) c (j (e.1.tg _ b _ c) o) (EC e r b f g)
theorem uN(c:Jy n x)(g:m<J x)(h:(k:I)∈XP x m):k<n:=by have b:=(KE c g).1 h;unfold Nr PW Og at b;let⟨t,a,d⟩:=bV.1 b;have a:=bE.1 a;rw[aC a]at d;let⟨p,i,e⟩:=bV.1 (show _∈List.flatMap _ x[t].1 from d);have f:=List.of_mem_zip e;let⟨z,j,l⟩:=aY.1 f.2;have:=(c.9 t a p i).2 z j;omega
theorem FK(e:Jy n x)(d:m<J x)(a:C7 x m k=1):k<n:=by
 have f:=aH d;unfold C7 NA at a;rw[aC d]at a;simp only at a;obtain b|⟨y,g,b⟩:=TV _ a
 .rcases dI _ _▸b with c|c;·have:=(e.7 _ f _<|XD.1 c).2;omega
  exact uN e d<|XD.1 c
 have:=(e.5 _ f y g _ b).2;omega
theorem Wh.val(c:Jy n x)(h:Wh x m k):m<n:=by
 induction h with
 |here a b=>exact FK c a b
 |step _ _ _ _ _ d=>exact d
theorem UV.val(a:Jy n x)(b:k<J x)(h:UV x m k):m<n:=by
 obtain h|⟨t,_,h⟩:=h;·exact uN a b h
 exact h.2.val a
theorem CO{a:Ys}(d:∀m,m<J x->a m=So->Wh x n m)(e:∀m,m<J x->C7 x m n=1->a m=So)(f:∀m,m<J x->C7 x m n=0->∀t∈X8 x m,a t=So->Yo x t n=Sn->a m=So)(k:m<J x):a m=So↔Wh x n m:=by
 refine⟨d m k,λh=>?_⟩
 induction h with
 |here b c=>exact e _ b c
 |@step m t b c g i j l=>exact f m b c t g (l j.lt) i
def JT(x:Xe)(v:N)(q:Bool)(j:N):Bool:=Jd (Ya (v:I) (Cg (Id x.3) (v:I)||q) (x.2.drop j)=1)
theorem WT(v a)(b:J q.2<=n):JT q v a n=(Cg (Id q.3) (v:I)||a):=by unfold JT;rw[mP b];unfold Ya;cases (Cg (Id q.3) (v:I)||a)<;>simp
theorem qe(v a)(c:n<J q.2):JT q v a n=(Cg (Iw q.2[n]) (v:I)||(JT q v a (n+1)&&! Jd (H7 q.2[n]=(v:I)))):=by
 unfold JT;rw[gZ c];generalize q.2.drop (n+1)=d;show Jd ((if Cg (Iw q.2[n]) (v:I)then 1 else if H7 q.2[n]=(v:I)then 2 else Ya v _ d)=1)=_;by_cases e1:Cg (Iw q.2[n]) v=So;·rw[aU e1,e1];simp
 rw[aM e1];have b:Cg (Iw q.2[n]) v=Sn:=by simpa using e1
 rw[b];by_cases e2:H7 q.2[n]=(v:I);·rw[aU e2];simp[e2]
 rw[aM e2];simp[e2]
def Ox(a:List Xe)(x:Xe)(b i v:N)(q:Bool):Bool:=match i with
 |0=>JT x v q 0||Yo a b v
 |j+1=>JT x v q (j+1)||(match x.2[j]? with
  |none=>Sn
  |some y=>Jd (H7 y=(v:I)))
theorem tf{v f d}(h:f=So->d=So):∀(a:Vr),Ya v f a=1->Ya v d a=1
 |[],b=>by
  unfold Ya at b |-;cases hf:f with
  |true=>rw[h hf];rfl
  |false=>rw[hf]at b;cases b
 |y::a,b=>by
  show(if Cg (Iw y) v then 1 else if H7 y=v then 2 else Ya v d a)=1;have c:(if Cg (Iw y) v then 1 else if H7 y=v then 2 else Ya v f a)=1:=b;by_cases e1:Cg (Iw y) v=So;·rw[aU e1]
  rw[aM e1]at c |-;by_cases e2:H7 y=v;·rw[aU e2]at c;cases c
  rw[aM e2]at c |-;exact tf h a c
theorem tu{v f f'}:∀(a:Vr),Ya v f a=2->Ya v f' a=2
 |[],c=>by unfold Ya at c;cases f<;>cases c
 |y::a,c=>by
  show(if Cg (Iw y) v then 1 else if H7 y=v then 2 else Ya v f' a)=2;have b:(if Cg (Iw y) v then 1 else if H7 y=v then 2 else Ya v f a)=2:=c;by_cases e1:Cg (Iw y) v=So;·rw[aU e1]at b;cases b
  rw[aM e1]at b |-;by_cases e2:H7 y=v;·rw[aU e2]
  rw[aM e2]at b |-;exact tu a b
theorem tS{v f f'}:∀(b:Vr),Ya v f b=0->f=Sn/\(Ya v f' b=1↔f'=So)
 |[],c=>by
  unfold Ya at c |-;cases f;·exact⟨R,by cases f'<;>simp⟩
  cases c
 |y::b,c=>by
  have a:(if Cg (Iw y) v then 1 else if H7 y=v then 2 else Ya v f b)=0:=c;by_cases e1:Cg (Iw y) v=So;·rw[aU e1]at a;cases a
  rw[aM e1]at a;by_cases e2:H7 y=v;·rw[aU e2]at a;cases a
  rw[aM e2]at a;have d:=tS (f':=f') b a;refine⟨d.1,?_⟩;show(if Cg (Iw y) v then 1 else if H7 y=v then 2 else Ya v f' b)=1↔_;rw[aM e1,aM e2];exact d.2
theorem vk(d:n<J x)(hq:r=So↔UV x m n):JT x[n] m r 0=So↔Wh x m n:=by
 unfold JT;rw[zC,bD];have e:C7 x n m=Ya m (Cg (Id x[n].3) (m:I)||Cg (XP x n) m) x[n].2:=by unfold C7 NA;rw[aC d]
 have v:=qD x n m;have q:=λh=>hq.2<|bC (XD.1 h);have s:C7 x n m=0\/C7 x n m=1\/C7 x n m=2:=O;obtain b|i|c:=s
 .have g:=b;rw[e]at g;have l:=tS (f':=Cg (Id x[n].3) (m:I)||r) x[n].2 g;rw[l.2];have f:Cg (Id x[n].3) m=Sn/\Cg (XP x n) m=Sn:=by simpa using l.1
  rw[f.1,jV,hq];constructor
  .rintro(h|⟨t,u,h⟩);·rw[XD.2 h]at f;cases f.2
   exact Wh.step d b u h.1 h.2
  intro h;cases h with
  |here _ a=>rw[b]at a;cases a
  |@step _ t _ _ a o p=>exact aZ ⟨t,a,o,p⟩
 .have j:=i;rw[e]at j;refine⟨λ_=>Wh.here d i,λ_=>tf (λh=>?_) _ j⟩;obtain a|a:=dI _ _▸h;·rw[a];rfl
  rw[q a];simp
 have k:=c;rw[e]at k;rw[tu (f':=Cg (Id x[n].3) (m:I)||r) _ k];constructor;·intro h;cases h
 intro h;cases h with
 |here _ a=>rw[c]at a;cases a
 |step _ a _ _ _=>rw[c]at a;cases a
def VI(W:Wk)(q:N×Wc×Wc):Wk:=E2 (Js (Uo W q) (X9 q.2.2)) (X9 q.2.1)
def N9(m:N)(W:Wk)(q:N×Wc×Wc):List (N×Wk):=if q.1<=m then [(q.1,Uo W q)]else []
def TZ(m:N):(N->N)->List (N×List I×List I)->List (N×(N->N))
 |_,[]=>[]
 |W,q::l=>N9 m W q++TZ m (VI W q) l
theorem Ky(m:N)(q:N×Wc×Wc):∀(l:List (N×Wc×Wc))(W:Wk),TZ m W (l++[q])=TZ m W l++N9 m (l.foldl VI W) q
 |[],W=>by simp[TZ]
 |p::l,W=>by show N9 m W p++TZ m (VI W p) (l++[q])=(N9 m W p++TZ m (VI W p) l)++N9 m (l.foldl VI<|VI W p) q;rw[Ky m q l,cK]
theorem Fy(h:XA f)(q:N×Wc×Wc):XA (Uo f q)/\XA (VI f q):=by have a:XA (Uo f q):=Zs _ h;exact⟨a,Zs _<|JX _ a⟩
theorem Dk{l:List (N×Wc×Wc)}(h:XA f):XA (l.foldl VI f):=by
 induction l generalizing f with
 |nil=>exact h
 |cons q l a=>exact a (Fy h q).2
theorem qI(m):∀(l:List (N×Wc×Wc))(W:Wk),J (TZ m W l)<=J l
 |[],_=>aA
 |q::l,W=>by
  have:=qI m l<|VI W q;have h:J (N9 m W q)<=1:=by unfold N9;split<;>simp
  show J (N9 m W q++TZ m (VI W q) l)<=J l+1;rw[aQ];omega
structure Sd where
 i:N
 C:N
 W:Wk
def Sd.dat(p:Sd):N×Wk:=(p.i,p.W)
def rx(a z:N)(p:Sd):Zh:=#[Si S6 (p.i:I),Sa #[X (S ⟨z,0,U⟩) a p.C]]
def xn(a z:N)(p:Sd)(V:Ub):Prop:=Cp V z a p.C p.W/\XA p.W
structure PB(W:Ub)(n₁ l Bl Bx gl Kw C1 m:N)(ia:Uy)(ic:N)(W0:Wk)(J_:N->List Sd->Vy)(pre:List Pl)(V:Ub):Prop where
 js:∃ss:List Sd,ss.map Sd.dat=TZ m W0 (pre.map Pl.dat)/\J_ gl ss V
 y:E V ⟨Z W.1,0,U⟩=S (.func (.yield l) #[] #[])
 lv:E V ⟨Bl,0,U⟩=S (X (S ⟨gl,0,U⟩) Kw C1)
 ws:Cp V gl Kw C1 ((pre.map Pl.dat).foldl VI W0)
 bx:E V ⟨Bx,1,U⟩=S (X ia m ic)
 sz:n₁<=Z V.1
theorem PB.own{Bx}{F:N->List Sd->Vy}(t:∀C,OwnFrom (Z w.1)<|F C)(u:Z w.1<n)(x:k<n)(y:Bx<n)(v:B<n):OwnFrom n (PB w n m k Bx B g i j p c f F):=λL K V row h d q=>by have z:=h.6;have a:∀b,b<n->V.1[b]?=K.1[b]?:=λb M=>d.5 b O (λe=>by have:=(q b e.symm).1;omega);let⟨l,o,s⟩:=h.1;exact⟨⟨l,o,t B l K V row s d λr e=>⟨oN<|(q r e).1,(q r e).2⟩⟩,G (Xc<|a _ u) h.y,G (Xc<|a _ x) h.3,h.4.of_block<|a _ v,G (Xc<|a _ y) h.5,aJ z d.4⟩
section
attribute [local go_sem] Oper.semAt_some
def N1(V a:N)(W:Wk):Prop:=∀x,x<64*a->Xh W x=So->x<V
theorem qi(h:N1 n m f)(a:∀t∈s,t<n):N1 n m (E2 f s):=λx b e=>by
 rw[YR]at e;obtain e|e:=dI _ _▸e;·exact a x<|fV e
 exact h x b e
theorem C4(h:N1 n m f):N1 n m (Js f s):=λx a e=>by rw[Kt]at e;exact h x a (bY _ _▸e).2
def pg(n m a z:N)(p:Sd)(V:Ub):Prop:=(p.i<=m/\N1 n a p.W)/\xn a z p V
theorem qj(n m d B z):OwnFrom B (pg n m d z):=λp r V row h k q=>by let⟨f,b,g⟩:=h;refine⟨f,b.of_block (k.5 z b.lt λe=>?_),g⟩;let⟨o,i,j⟩:=b.obj;let⟨_,l,a,c⟩:=q z e.symm;rw[i]at a;injection a with a;subst a;rw[j]at c;cases c
theorem tH{p}(h:pg n m k B p w)(a:Sw (Z w.1) w v):pg n m k B p v:=⟨h.1,h.2.1.of_block<|a.5 B h.2.1.lt,h.2.2⟩
theorem vh(m:N):∀(l a:List (N×Wc×Wc))(W:Wk),TZ m W (l++a)=TZ m W l++TZ m (l.foldl VI W) a
 |[],a,W=>by simp[TZ]
 |p::l,a,W=>by show N9 m W p++TZ m (VI W p) (l++a)=(N9 m W p++TZ m (VI W p) l)++TZ m (l.foldl VI<|VI W p) a;rw[vh m l,cK]
theorem BR{l a:List (N×Wc×Wc)}(h:l <+: a):TZ n f l <+: TZ n f a:=by obtain⟨t,rfl⟩:=h;rw[vh];exact⟨_,R⟩
theorem tU{Bx go}(O_)(u:Q (UI q k B Bx n (Z w.1) w))(hs:E w (A m 0)=S (Hl go g i))(hg:Q (Cp w go g i f))(f5:Q (XA f))(hK:g<=100)(gq:j<=64*g)(hM:Q (∀r,k<=r->r<B->¬O_ r))(fi:Q (¬O_ Bx))(X_:Q (∀r,Z w.1<=r->¬O_ r))(fc:Q (¬O_ 1))(fe:Q (¬O_ 0))(f0:Q (∀ej∈q.2,1<=ej.1/\ej.1<=13))(f4:1<=q.3.1/\q.3.1<=3)(fx:J q.2<=4000)(fz:J q.1<=4000)(fj:Q (∀e∈NS q,Pn j e))(fb:Q (N1 j g f)):
 lf Fence.wide 8 prog 125 #[Hn m,Hn Bx] (rx g) (pg j (J q.2) g) (Zf n O_) (λxs=>xs.map Sd.dat=TZ (J q.2) f (NS q)) (λxs=>xs.map Sd.dat <+: TZ (J q.2) f (NS q)) (J q.2+2) True False w:=by
 intro Y_ dl Jx W hW hl hJ dn ds _ hY h0;have HY:=Y hY;have HJ:=Y hJ;have c9:=Y dn;have a0:=Y<|ds JV;have H0:=Y h0;have g2:=u.8;clear hY hJ ds h0 dn;have eg:=hW.4;refine callsIn_of_wp_marks func125 R JV ?_ R;simp only[ntmps125,xY,Nat.reduceAdd,Nat.reduceSub];have s0:=oB hW hs<|aI w _ hs;have e8:m<Z W.1:=aI W _ s0;have hd:=λs=>G (bP W s (A m 0) e8) s0;gi_wp2;have fa:(λx9:Ub=>Q (Sw (Z W.1) W x9)/\E x9 (A (Z W.1) 0)=S (.func (.yield Y_) #[] #[])/\Z x9.1=Z W.1+1) (D W<|Sc #[.func (.yield Y_) #[] #[]] 231):=⟨Y<|Xb Rf _,SC,sP⟩;generalize D W _=wa at*;let⟨cv,ef,g9⟩:=fa;have gd:Z W.1<Z wa.1:=O;have cz:=Y<|(hg.of_block<|hW.5 go hg.lt).of_block (cv.5 go<|aX hg.lt eg);have cx:=Y<|Kk go g i f wa cz O;refine⟨JV,(bM.2 cx).mono ?_⟩;rintro o P⟨b,L,rfl,gt,b0,cl⟩;have en:=Y cl;have ct:=Y<|Xg cv b0;have g5:=b0.4;have y1:=oB b0 ef gd;have fl:=cl.lt;clear b0 cl ef;have br:Q (Sw (Z P.1) P<|D P (Sc #[Hl b g L] 86)):=Y<|Xb Rf _;have fq:E (D P<|Sc #[Hl b g L] 86) (A (Z P.1) 0)=S (Hl b g L):=SC
 have f6:Z (D P<|Sc #[Hl b g L] 86).1=Z P.1+1:=sP;have cj:=Y<|(Y<|u.below hW aA).below (Xg ct br) eg;let⟨pa,pc,ia,ic,x0,x1,⟨x2,x3,x4,x5⟩,ec,ea⟩:=cj.3;simp only[aV]at x1 x2 x3 x4 x5;have et:=Y ec;have ep:=Y ea;clear ec ea;gi_wp2;generalize D P _=V at*;have fr:Z P.1<Z V.1:=O;clear f6;refine⟨JV,(tT Fence.wide 7 JV R V).mono ?_⟩;rintro o t⟨rfl,b5⟩;have K_:Sw (Z V.1) V t:=b5▸Xb Rf _;have f7:Z t.1=Z V.1+1:=by rw[b5];simp
 have ad:∀e v,#[X pa (J q.1) pc,X ia (J q.2) ic,H q.3.1,H q.3.a,H q.3.3,H q.3.4][e]?=S v->E t (A (Z V.1) e)=S v:=λe v h=>by rw[b5,eC];exact h
 have ez:Q (UI q k B (Z V.1) n (Z t.1) t):=Y ⟨cj.1.of_block (K_.5 _<|oN u.6) K_.4,cj.2.of_block (K_.5 _<|oN u.7) K_.4,⟨pa,pc,ia,ic,ad 0 _ R,ad 1 _ R,⟨ad 2 _ R,ad 3 _ R,ad 4 _ R,ad 5 _ R⟩,et.keepS λe _ d=>K_.5 e<|oN u.5,ep.keepS λe _ d=>K_.5 e<|oN u.5⟩,O,u.5,u.6,u.7,O⟩;have eo:Q (PB W (Z t.1) Y_ (Z P.1) Bx b g L (J q.2) ia ic f dl [] t):=Y ⟨⟨[],R,H0 b t O O<|Y (Xg (Xg ct br) K_)⟩,oB K_ (G (XU br O) y1) O,oB K_ fq fr,(en.of_block<|br.5 _ fl).of_block (K_.5 _ O),oB K_ x1 (by have:=u.4;show Bx<_;omega),aA⟩;have gv:Z V.1<Z t.1:=O;clear b5 ad f7;have d0:∀e,e≠b->Z w.1<=e->¬(O_ e\/e=b):=λe a d y=>y.elim (λh=>X_ e d h) a;have ge:Z w.1<=b:=O;gi_wp2
 refine nX (F:=Fence.wide) (n:=8) R vY (gf:=137) (lb:=#[Hn (Z V.1)]) R JV (enters_of func137 vZ R) (uy n (Z V.1) k B (λe=>O_ e\/e=b) (Pn j) q t ez (Y ?m1) (Y ?m2) (Y ?m3) (Y ?m4) (Y ?m5) f0 f4 fx fz fj) (λ_=>qn _ _ _) (λh r=>h.trans r) (λW Y_ s x a d y=>Zf.putObj W Y_ s x O d y) Rf (λ_ _=>R)
  (λ_ C c=>PB W (Z t.1) Y_ (Z P.1) Bx b g L (J q.2) ia ic f dl C c/\N1 j g ((C.map Pl.dat).foldl VI f)) (λc_ C j=>c_=.ret/\∃T:List Sd,T.map Sd.dat=TZ (J q.2) f (C.map Pl.dat)/\Jx T j) (λ_ gf K c row h r e=>⟨PB.own HJ O O (oN u.4) O gf K c row h.1 r e,h.2⟩) ?ownX (λh=>h.elim) (λh=>h.elim) (λ_ j _ _ hV=>⟨XO (PB.own HJ O O (oN u.4) O) eo hV,fb⟩)
  (λ_ p a' c=>∃V_:N,a'=⟨#[.func (.yield Y_) #[] #[],Hn m,Hn Bx,Hn (Z W.1),Hn (Z P.1),H (p.i:I),Hn V_,Sa #[Hl go g i],Sa #[Hl b g L],Sa #[X pa (J q.1) pc,X ia (J q.2) ic,H q.3.1,H q.3.a,H q.3.3,H q.3.4],.func (.func 137) #[] #[Hn (Z V.1)],H (p.i:I),Sa #[X p.2 (J p.4) p.3,X p.5 (J p.7) p.6],Su,Su,Su,Su,Su,Su,Su,Su,Su,Su,Su,Su,Su,Su,Su,Su,Su,Su,Su,Su,Su,Su,Su,Su],[]⟩/\PM (Z t.1) V_ p c) ?ownA ?assign ?body ?done ?stop
 case m1=>intro e a d;exact λy=>y.elim (λh=>hM e a d h) λh=>by have:=u.5;omega
 case m2=>exact d0 _ O O
 case m3=>intro e a;exact d0 _ O O
 case m4=>exact λy=>y.elim (λh=>fc h) λh=>by have:=u.6;omega
 case m5=>exact λy=>y.elim (λh=>fe h) λh=>by have:=u.7;omega
 case ownX=>
  rintro c_ C K j row⟨rfl,T,s1,s2⟩ r e;exact⟨R,T,s1,c9 T K j row s2 r λei o=>⟨oN<|(e ei o).1,(e ei o).2⟩⟩
 case ownA=>
  rintro _ p a' _ K c row⟨V_,o,hp⟩ e7 e;exact⟨V_,o,PM.own (n:=Z t.1) () K c row hp e7 e⟩
 case assign=>
  intro l' _ C p c gh _ e9 hP du;let⟨I_,a9⟩:=e9;have cg:=Y a9;clear a9;have R_:=Y I_;have ao:=Y hP;have er:=Y du;clear I_ hP du;unfold pf;gi_wp2;have ba:Sw (Z c.1) c (D c<|Sc #[X p.2 (J p.4) p.3,X p.5 (J p.7) p.6] 210):=Xb Rf _;refine er _ _ ⟨ba.4,λr s a _=>G (ba.5 r (aS.1 a).1) a⟩ (Z4 ba<|oN R_.6) ⟨XO (PB.own HJ O O (oN u.4) O) R_ ba,cg⟩ (tA ao ba) ⟨Z c.1,R,R_.6,?_,?_⟩;·simp[go_sem]
  simp[go_sem]
 case body=>
  rintro l' _ C p a' c _ _ _⟨I_,a9⟩ hP ⟨V_,rfl,b3⟩ g0;have cg:=Y a9;clear a9;have R_:=Y I_;have ao:=Y hP;have zl:=I_.3;have zy:=I_.y;have zx:=I_.5;have p0:=b3.2;have p1:=b3.3;have gr:=b3.1;have gs:V_<Z c.1:=aI c _ p0;have S_:=Y ao.1;have ci:Q ((X9 p.7).map Int.ofNat=p.7):=Y (Kv λv hv=>(S_.2.1 v hv).1);have df:Q ((X9 p.4).map Int.ofNat=p.4):=Y (Kv λv hv=>(S_.1 v hv).1);have dc:Q (∀M_∈X9 p.7,M_<j):=Y (λM_ ht=>by obtain⟨al,hz,rfl⟩:=aY.1 ht;have:=S_.2.1 al hz;omega)
  have es:Q (∀M_∈X9 p.4,M_<j):=Y (λM_ ht=>by obtain⟨al,hz,rfl⟩:=aY.1 ht;have:=S_.1 al hz;omega)
  have ch:Q (∀M_∈X9 p.7,M_<64*g):=Y (λM_ ht=>by obtain⟨al,hz,rfl⟩:=aY.1 ht;have:=S_.2.1 al hz;omega)
  have dd:Q (∀M_∈X9 p.4,M_<64*g):=Y (λM_ ht=>by obtain⟨al,hz,rfl⟩:=aY.1 ht;have:=S_.1 al hz;omega)
  have cm:J p.7<=4000:=S_.2.2.2;have eb:J p.4<=4000:=S_.2.2.1;let⟨F,ap⟩:∃el,el=(C.map Pl.dat).foldl VI f:=⟨_,R⟩;have da:Q (N1 j g F):=Y (ap▸cg);have db:Q (N1 j g<|((C++[p]).map Pl.dat).foldl VI f):=Y (by rw[bG,dT,<-ap];exact qi (C4<|qi da dc) es)
  have dj:Q (XA F):=Y (ap▸Dk f5);have bv:Q (Cp c b g L F):=Y (ap▸R_.4);have a2:=Y ap;clear I_ hP b3 ap;have cw:=Y (ZG b g L (J p.7) p.6 F p.5 (X9 p.7) (Z t.1) (Z c.1) c (Y<|by rw[ci.o];exact ao.2.2) (Y<|by simp[X9]) cm ch O dj bv aA O);gi_wp2;refine⟨JV,(CallsIn.inRound l'<|bM.2 cw).mono ?_⟩;rintro o T_⟨rfl,k1,ed⟩;have q1:∀(l x:N)(v:Uj),l≠b->E c (A l x)=S v->E T_ (A l x)=S v:=λl x v a d=>G (Xc<|k1.5 l (aI c _ d) λo=>a<|by injection o) d
  have b8:=q1 _ _ _ O zl;have cb:=q1 _ _ _ O zy;have ca:=q1 _ _ _ (oN u.4) zx;have b6:=q1 _ _ _ O p0;have b7:=q1 _ _ _ O p1;have g7:=k1.4;have Z_:=Y k1;have a3:=Y ed;have a5:Q (XA<|E2 F (X9 p.7)):=Y<|Zs _ dj;have c6:=Y<|YZ ao.2.2 k1 O;have c7:=Y<|YZ ao.2.1 k1 O;clear k1 ed q1 zl zy zx p0 p1;let⟨T,b4,bx⟩:=R_.1;have bt:=Y b4;have c8:=Y<|a0.o b T c T_ O bx Z_;clear b4 bx;have g1:J T<=J C:=by have a:=fI List.length bt;rw[bK]at a;have d:=qI (J q.2) (C.map Pl.dat) f;rw[bK]at d;omega
  have gg:Q (p.dat=(p.i,p.4,p.7)):=Y R;by_cases b1:p.i<=J q.2
  .have dk:=Y<|HY.o b T ⟨p.i,L,E2 F<|X9 p.7⟩ T_ O c8 ⟨⟨b1,qi da dc⟩,a3,a5⟩ O;let⟨fn,tmps,gi,bo,hy,hR⟩:=KY (l':=l') (m':=5) dk;have ee:(Instr.yield Y_ #[H (p.i:I),Sa #[Hl b g L]]).run prog T_=_:=hy;have fs:(p.i:I)<=J q.2:=O;clear hy;gi_wp2;refine hR.mono ?_;rintro o P_ (⟨rfl,a7,M,bb⟩|⟨rfl,a7,M,bb⟩);rotate_left
   .have ce:=Y a7;have aa:=Y M;have az:=Y bb;clear a7 M bb hR ee;gi_wp2;refine⟨((Jc Z_ bv.obj).from _).trans ⟨az.1,λr s a d y=>az.2 r s O d y⟩,(Zg Z_ (aZ R) O).trans ⟨aa.1,λr a d=>aa.2 r a λh=>d<|bC h,λr s a d y=>aa.3 r s (λh=>a<|bC h) d y⟩,R,_,?_,ce⟩;rw[bG,bG,bt.o];show _=TZ (J q.2) f (C.map Pl.dat++[p.dat]);rw[Ky,<-a2.o];unfold N9;rw[aU<|show p.dat.1<=J q.2 from b1];rfl
   have ce:=Y a7;have aa:=Y M;have az:=Y bb;have g8:=M.1;have bh:=M.cell b8 (X_ _<|by show Z w.1<=Z P.1;omega);have bn:=M.cell cb (X_ _<|by show Z w.1<=Z W.1;omega);have bl:=M.cell ca fi;have be:=M.cell b6 (X_ _<|by show Z w.1<=V_;omega);have bf:=M.cell b7 (X_ _<|by show Z w.1<=V_;omega);have di:Q (Cp P_ b g L<|E2 F (X9 p.7)):=Y (a3.of_block (by let⟨s,a,d⟩:=a3.obj;rw[a];exact M.3 b s (X_ _ ge) a d))
   have eq:Q (Xf P_ (Z t.1) (Z P_.1) p.5 p.7):=Y (λcn hi=>by let⟨a6,s,o,hb,hc⟩:=c6 cn hi;exact⟨a6,s,o,⟨hb.1,O⟩,M.cell hc<|X_ _ (by show Z w.1<=a6;omega)⟩)
   have cc:Q (Xf P_ (Z t.1) (Z P_.1) p.2 p.4):=Y (λcn hi=>by let⟨a6,s,o,hb,hc⟩:=c7 cn hi;exact⟨a6,s,o,⟨hb.1,O⟩,M.cell hc<|X_ _ (by show Z w.1<=a6;omega)⟩)
   clear a7 M bb hR ee b8 cb ca b6 b7;have aq:=Y (JL p.6 p.5 (Z t.1) P_ (Y<|by rw[ci.o];exact eq) (Y<|by simp[X9]) cm ch O a5 di aA O);gi_wp2;refine⟨JV,(CallsIn.inRound l'<|bM.2 aq).mono ?_⟩;rintro o z⟨rfl,L_,bc⟩;have q3:∀(l x:N)(v:Uj),l≠b->E P_ (A l x)=S v->E z (A l x)=S v:=λl x v a d=>G (Xc<|L_.5 l (aI P_ _ d) λo=>a<|by injection o) d;have bi:=q3 _ _ _ O bh;have bq:=q3 _ _ _ O bn;have bm:=q3 _ _ _ (oN u.4) bl;have co:=q3 _ _ _ O be;have cp:=q3 _ _ _ O bf;have ga:=L_.4;have ab:=Y L_;have a4:=Y bc;have cd:=Y<|YZ cc L_ O;clear L_ bc q3 aq bh bn bl be bf;have ar:=Y (ZG b g L (J p.4) p.3 (Js (E2 F<|X9 p.7) (X9 p.7)) p.2 (X9 p.4) (Z t.1) (Z z.1) z (Y<|by rw[df.o];exact cd) (Y<|by simp[X9]) eb dd O (Y<|JX _ a5) a4 aA O);gi_wp2;refine⟨JV,(CallsIn.inRound l'<|bM.2 ar).mono ?_⟩;rintro o V4⟨rfl,Q_,bd⟩;have q4:∀(l x:N)(v:Uj),l≠b->E z (A l x)=S v->E V4 (A l x)=S v:=λl x v a d=>G (Xc<|Q_.5 l (aI z _ d) λo=>a<|by injection o) d;have cq:=q4 _ _ _ O bi;have cs:=q4 _ _ _ O bq;have cr:=q4 _ _ _ (oN u.4) bm;have gb:=Q_.4;have ac:=Y Q_;have ck:=Y bd;clear Q_ bd q4 ar bi bq bm co cp;gi_wp2;have af:∀{K J_:Ub},K.grownBy J_ (S b)->n<=Z K.1->Zf n (λe=>O_ e\/e=b) K J_:=λh a=>Zg h (aZ R) a;have aj:∀{K J_:Ub},K.grownBy J_ (S b)->(∃s:Obj,K.1[b]?=S s/\s.isCells=So)->KeepsFrom (Z t.1) K J_:=λh a=>(Jc h a).from _;have g4:E2 (Js (E2 F<|X9 p.7) (X9 p.7)) (X9 p.4)=VI F p.dat:=R;have g3:E2 F (X9 p.7)=Uo F p.dat:=R;have cf:=a0 b _ z V4 O (a0 b _ P_ z O ce ab) ac;refine⟨(((aj Z_ bv.obj).trans ⟨az.1,λr s a d y=>az.2 r s O d y⟩).trans (aj ab di.obj)).trans (aj ac a4.obj),(((af Z_ O).trans ⟨aa.1,λr a d=>aa.2 r a λh=>d<|bC h,λr s a d y=>aa.3 r s (λh=>a<|bC h) d y⟩).trans (af ab O)).trans (af ac O),⟨⟨⟨_,?_,cf⟩,cs,cq,?_,cr,O⟩,db⟩⟩
   .rw[bG,bG,bt.o];show _=TZ (J q.2) f (C.map Pl.dat++[p.dat]);rw[Ky,<-a2.o];unfold N9;rw[aU<|show p.dat.1<=J q.2 from b1];rfl
   rw[bG,dT,<-a2.o];exact ck
  have gz:(J q.2:I)<p.i:=O;have fs:Jd ((p.i:I)<=J q.2)=Sn:=SB
  have bh:=b8;have bn:=cb;have bl:=ca;have be:=b6;have bf:=b7;have cc:=c7;clear b8 cb ca b6 b7;have aq:=Y (JL p.6 p.5 (Z t.1) T_ (Y<|by rw[ci.o];exact c6) (Y<|by simp[X9]) cm ch O a5 a3 aA O);gi_wp2
  repeat (refine⟨λgp hf=>(by cases hf),?_⟩;gi_wp2)
  refine⟨JV,(CallsIn.inRound l'<|bM.2 aq).mono ?_⟩;rintro o z⟨rfl,L_,bc⟩;have q3:∀(l x:N)(v:Uj),l≠b->E T_ (A l x)=S v->E z (A l x)=S v:=λl x v a d=>G (Xc<|L_.5 l (aI T_ _ d) λo=>a<|by injection o) d;have bi:=q3 _ _ _ O bh;have bq:=q3 _ _ _ O bn;have bm:=q3 _ _ _ (oN u.4) bl;have co:=q3 _ _ _ O be;have cp:=q3 _ _ _ O bf;have ga:=L_.4;have ab:=Y L_;have a4:=Y bc;have cd:=Y<|YZ cc L_ O;clear L_ bc q3 aq bh bn bl be bf;have ar:=Y (ZG b g L (J p.4) p.3 (Js (E2 F<|X9 p.7) (X9 p.7)) p.2 (X9 p.4) (Z t.1) (Z z.1) z (Y<|by rw[df.o];exact cd) (Y<|by simp[X9]) eb dd O (Y<|JX _ a5) a4 aA O);gi_wp2;refine⟨JV,(CallsIn.inRound l'<|bM.2 ar).mono ?_⟩;rintro o V4⟨rfl,Q_,bd⟩;have q4:∀(l x:N)(v:Uj),l≠b->E z (A l x)=S v->E V4 (A l x)=S v:=λl x v a d=>G (Xc<|Q_.5 l (aI z _ d) λo=>a<|by injection o) d;have cq:=q4 _ _ _ O bi;have cs:=q4 _ _ _ O bq;have cr:=q4 _ _ _ (oN u.4) bm;have gb:=Q_.4;have ac:=Y Q_;have ck:=Y bd;clear Q_ bd q4 ar bi bq bm co cp;gi_wp2;have af:∀{K J_:Ub},K.grownBy J_ (S b)->n<=Z K.1->Zf n (λe=>O_ e\/e=b) K J_:=λh a=>Zg h (aZ R) a;have aj:∀{K J_:Ub},K.grownBy J_ (S b)->(∃s:Obj,K.1[b]?=S s/\s.isCells=So)->KeepsFrom (Z t.1) K J_:=λh a=>(Jc h a).from _;have cf:=a0 b _ z V4 O (a0 b _ T_ z O c8 ab) ac;refine⟨((aj Z_ bv.obj).trans (aj ab a3.obj)).trans (aj ac a4.obj),((af Z_ O).trans (af ab O)).trans (af ac O),⟨⟨⟨_,?_,cf⟩,cs,cq,?_,cr,O⟩,db⟩⟩
  .rw[bG,bt.o];show _=TZ (J q.2) f (C.map Pl.dat++[p.dat]);rw[Ky,<-a2.o];unfold N9;rw[aM (show ¬p.dat.1<=J q.2 from b1),fF]
  rw[bG,dT,<-a2.o];exact ck
 case done=>
  rintro ek _ xs c hD _ dw⟨I_,_⟩ a8;have R_:=Y I_;have a1:=Y a8;have eu:=Y dw;clear I_ a8 dw;gi_wp2;let⟨T,b4,bx⟩:=R_.1;refine YK a1 ⟨St #[],gV R _ _ _,⟨_,R⟩,.inl ⟨b,T,O,by rw[b4,eu.o],(HJ b).putObj _ bx O a1 R⟩⟩
 rintro ek c_ C c hD dz⟨rfl,T,s1,s2⟩ a8;have ev:=Y s1;have ey:=Y s2;have a1:=Y a8;have e6:=Y dz;clear s1 s2 a8 dz;gi_wp2;exact YK a1 ⟨St #[],gV R _ _ _,⟨_,R⟩,.inr ⟨T,by rw[ev.o];exact BR e6,c9.putObj _ ey O a1 R⟩⟩
end
def Kp(a:Wc)(v:I):I:=a.getD v.toNat 0
def ZR(a:Wc)(x:Yg):Yg:=⟨x.1,if dB x.1=So then Kp a x.2 else x.2,if aB x.1=So then Kp a x.a else x.a,if bB x.1=So then Kp a x.b else x.b,x.5⟩
def NN(a:Wc)(t:Yj):Yj:=⟨t.1,if t.1=1 then t.a else Kp a t.a,t.3,t.4⟩
def iT(a:Wi)(t:I):Za:=match a[t.toNat]? with|some x=>x.1|none=>[]
def NU(a:Wc)(b:Wi)(p:N)(t:I):Wy:=(E9 (de (AQ b 0 t) (p:I)) (iT b t)).map λq=>⟨Kp a q.1,Kp a q.2⟩
def NL(a:Wc)(b:Wi)(p:N)(t:I):Vr:=dp<|NU a b p t
def ah(a:Wc)(b:Wi)(p:N)(t:I)(m:N):I×List ag:=if NL a b p t=[]then (t,[])else ((m:I),[⟨NL a b p t,⟨1,0,t,0⟩⟩])
def Nk(a:Wc)(c:Wi)(b:N)(x:Xe)(m:N):ag×List ag :=
 if x.3.1=1 then (⟨x.2.map (ZR a)++NL a c b x.3.3,NN a x.3⟩,[])
 else if x.3.1=2 then (⟨x.2.map<|ZR a,⟨x.3.1,Kp a x.3.a,(ah a c b x.3.3 m).1,(ah a c b x.3.4<|m+J (ah a c b x.3.3 m).2).1⟩⟩,(ah a c b x.3.3 m).2++(ah a c b x.3.4<|m+J (ah a c b x.3.3 m).2).2)
 else (⟨x.2.map<|ZR a,NN a x.3⟩,[])
def ae(c:List I)(a:List Xe):N->List ag×List ag
 |0=>([],[])
 |b+1=>match a[b]? with
  |none=>ae c a b
  |some x=>((ae c a b).1++[(Nk c a b x<|J a+J (ae c a b).2).1],(ae c a b).2++(Nk c a b x<|J a+J (ae c a b).2).2)
def NK(b:Wc)(a:Wi):List ag:=(ae b a (J a)).1++(ae b a (J a)).2
theorem ou(c:Wc)(a:Wi)(b)(h:b<J a):ae c a (b+1)=((ae c a b).1++[(Nk c a b a[b] (J a+J (ae c a b).2)).1],(ae c a b).2++(Nk c a b a[b] (J a+J (ae c a b).2)).2):=by rw[ae,aC h]
theorem ll(c:Wc)(a:Wi):∀b,b<=J a->J (ae c a b).1=b
 |0,_=>R
 |b+1,h=>by rw[ou c a b O,aQ,ll c a b O];rfl
theorem m6(a b p t m):J (ah a b p t m).2<=1:=by unfold ah;split<;>simp
theorem Iu(a c b x m):J (Nk a c b x m).2<=2:=by
 unfold Nk;split;·simp
 split
 .have d:=m6 a c b x.3.3 m;have e:=m6 a c b x.3.4<|m+J (ah a c b x.3.3 m).2;rw[aQ];omega
 simp
theorem oz(c:Wc)(a:Wi):∀b,b<=J a->J (ae c a b).2<=2*b
 |0,_=>by simp[ae]
 |b+1,h=>by have d:=oz c a b O;have e:=Iu c a b a[b] (J a+J (ae c a b).2);rw[ou c a b O,aQ];omega
theorem pD(h:n<J x):iT x (n:I)=x[n].1:=by unfold iT;rw[dM,aC h]
theorem zT{c:Type}(f:N->List c):∀(n i:N),i<n->(∀j,j<n->j≠i->f j=[])->(Rg n).flatMap f=f i
 |0,i,h,_=>Sz h<|wA _
 |n+1,i,h,hf=>by
  rw[dN,eZ];by_cases e:i=n
  .subst e;have:(Rg i).flatMap f=[]:=List.flatMap_eq_nil_iff.2 λj a=>hf j (oN<|bE.1 a) (oN<|bE.1 a);rw[this];simp
  rw[zT f n i O λj d b=>hf j O b];have:f n=[]:=hf n O λq=>e q.symm;simp[this]
theorem Kh(e:m<J x)(i:(n:I)∈AQ x 0 (m:I)):G2 x (n:I) (m:I)=(E9 (de (AQ x 0 (m:I)) (n:I)) (iT x (m:I))).map (λq=>q.2):=by
 have c:=pC i;have d:=yq c;have g:=r5 m x 0;rw[pD e];unfold G2;rw[dM,aC e];dsimp only;by_cases b:x[m].1=[];·rw[aU b,b];rfl
 rw[aM b];generalize AQ x 0 m=a at*;rw[zT _ (J a) (de a n) c λj f h=>?_]
 .rw[aU<|by rw[bF,aC c,d];rfl];simp[E9]
 rw[aM λq=>h ?_];rw[bF,aC f]at q;exact(List.getElem_inj g).1 (show a[j]=a[de a n] by rw[d];exact q)
theorem jq(h:Xf w n m p l){v:I}(f:0<=v)(g:v<J l):∃b o k,v=((k:N):I)/\k<J l/\p=S (A b o)/\(n<=b/\b<m)/\E w (A b<|o+k)=S (H<|Kp l v):=by obtain⟨k,rfl⟩:∃k:N,v=(k:I):=⟨v.toNat,O⟩;have a:k<J l:=O;let⟨b,o,e,c,d⟩:=h k a;refine⟨b,o,k,R,a,e,c,?_⟩;unfold Kp;rw[dM,bF,aC a];exact d
section
def Nf(i:Uj)(t:Yj):Wo:=[i,Si S6 t.1,Si S6 t.a,Si S6 t.3,Si S6 t.4]
def NH(iv:Vu)(xs:List ag):Wo:=Yu (λi x=>Nf (iv i) x.2) 0 xs
theorem Hx{iv}{xs:List ag}(x:ag):NH iv (xs++[x])=NH iv xs++Nf (iv (J xs)) x.2:=by unfold NH;rw[Zo,aV]
theorem rQ{iv jv}{xs:List ag}(h:∀i,i<J xs->iv i=jv i):NH iv xs=NH jv xs:=by
 unfold NH;have e:∀(a:List ag)(k:N),(∀i,i<J a->iv (k+i)=jv (k+i))->Yu (λi x=>Nf (iv i) x.2) k a=Yu (λi x=>Nf (jv i) x.2) k a:=by
  intro a
  induction a with
  |nil=>intro k _;rfl
  |cons y r d=>
   intro k c;show Nf (iv k) y.2++Yu _ (k+1) r=Nf (jv k) y.2++Yu _ (k+1) r;rw[show iv k=jv k from c 0 sP,d (k+1) λi b=>by have:=c (i+1) SJ;rwa[show k+(i+1)=k+1+i by omega]at this]
 exact e xs 0 λi b=>by rw[aV];exact h i b
theorem pE(iv)(xs:List ag):J (NH iv xs)=J xs*5:=Zn (sz:=5) (λ_ _=>R) _ _
variable {w w': Ub} {lab lab': N -> N×N×N} {base: N} {ok: N -> Prop}
theorem Xv.fresh{L:N×N×N}{t g n:N}{v:Uj}{d:Wo}(a:Sw (Z w.1) w w')(c:Sx w' (Z w.1) t g v n d)(s:base<=Z w.1)(p:∀b,Z w.1<=b->lab b=(0,0,0)):
 ∃lab',Xv w' lab' L base t g v n d/\XW w w' lab lab' base (λ_=>True):=by
 refine⟨λb=>if v.ownBlock=S b then L else lab b,⟨?_,λb e=>aU e⟩,a.4,λb r l _=>⟨a.5 b l,aM λe=>?_⟩,λ_ b m=>G (aM λe=>?_) (p b<|aJ a.4 m)⟩
 .obtain⟨f,k|⟨j,h,i,e,u,q,o⟩⟩:=c;·exact⟨f,bC k⟩
  exact⟨f,aZ ⟨j,h,i,e,O,q,o⟩⟩
 .have:=(c.lt b e).1;omega
 have:=(c.lt b e).2;omega
structure Nh(w:Ub)(lab:N->N×N×N)(base:N)(v:Uj)(K J_:N)(xs:List ag)(iv:Vu):Prop where
 blks:Xv w lab (K,0,0) base 54 5 v (J xs) (NH iv xs)
 ins:∀i (h:i<J xs),Xv w lab (J_,i,0) base 64 5 (iv i) (J xs[i].1) (ZP xs[i].1)
variable {v v': Uj} {K J_: N} {xs: List ag} {iv: N -> Uj}
theorem Nh.nil:Nh w lab base Hq K J_ [] iv:=⟨⟨dA,λb e=>by cases e⟩,λi h=>Sz h<|wA _⟩
theorem Nh.sp(h:Nh w lab base v K J_ xs iv)(k:XW w w' lab lab' base ok)(d:∀b,lab b=(K,0,0)->ok b)(c:∀b i,i<J xs->lab b=(J_,i,0)->ok b):Nh w' lab' base v K J_ xs iv :=
 ⟨h.1.sp k d,λi a=>(h.2 i a).sp k λb e=>c b i a e⟩
theorem Nh.push(h:Nh w lab base v K J_ xs iv)(g:K≠J_)(x:ag){q}(hq:Xv w lab (J_,J xs,0) base 64 5 q (J x.1) (ZP x.1))(l:w.grownBy w' v.ownBlock)(m:Sx w' base 54 5 v' (J xs+1) (NH iv xs++Nf q x.2))(j:v'.ownBlock=v.ownBlock\/v'.ownBlock=S (Z w.1))(k:∀b,Z w.1<=b->lab b=(0,0,0)):
 ∃lab',Nh w' lab' base v' K J_ (xs++[x]) (λi=>if i=J xs then q else iv i)/\XW w w' lab lab' base (λb=>lab b≠(K,0,0)):=by
 let⟨lab',n,a⟩:=h.1.grow l m j k;have f:∀i b,lab b=(J_,i,0)->lab b≠(K,0,0):=λi b e q=>g (by rw[e]at q;injection q with q;exact q.symm);refine⟨lab',⟨?_,λi c=>?_⟩,a⟩
 .have e:NH (λi=>if i=J xs then q else iv i) (xs++[x])=NH iv xs++Nf q x.2:=by
   rw[Hx,aU R,rQ (jv:=iv) λi c=>aM O]
  rw[e,aQ,nR];exact n
 by_cases e:i=J xs
 .subst e;rw[aU R];have e2:(xs++[x])[J xs]=x:=sP;rw[e2];exact hq.sp a λb e=>f _ b e
 rw[aM e];have d:i<J xs:=by rw[aQ,nR]at c;omega
 rw[fA d];exact(h.2 i d).sp a λb e=>f _ b e
theorem lq{g n c i}(h:Xv w lab (K,0,0) base 54 5 (Hl g n c) n (NH iv xs))(a:i<J xs){q:N}{u:Uj}(hq:q<5)(b:(Nf (iv i) xs[i].2)[q]?=S u):E w (A g<|i*5+q)=S u:=h.cell (by unfold NH;rw[Xz (sz:=5) (λ_ _=>R) 0 xs i a q hq,aV];exact b)
theorem rH:∀(a:Vr)(k:N),ZP a=Yu (λ_ x=>[H x.1,H x.2,H x.a,H x.b,H x.5]) k a
 |[],_=>R
 |y::r,k=>by rw[rM,rH r<|k+1];rfl
theorem Xv.inss{L:N×N×N}{d:Uy}{n c}{a:Vr}(h:Xv w lab L base 64 5 (X d n c) (J a) (ZP a)):YY w base (Z w.1) d a:=λi f=>by
 let⟨g,k,e⟩:=h.got O;cases e;have b:∀q u,q<5->([H a[i].1,H a[i].2,H a[i].a,H a[i].b,H a[i].5]:Wo)[q]?=S u->E w (A g<|i*5+q)=S u:=λq u hq j=>h.cell (by rw[rH a 0,Xz (sz:=5) (λ_ _=>R) 0 a i f q hq];exact j)
 refine⟨g,0,R,h.blk.1,?_⟩;rw[aV];exact⟨b 0 _ O R,b 1 _ O R,b 2 _ O R,b 3 _ O R,b 4 _ O R⟩
theorem Nh.at_{d:Uy}{o c}(h:Nh w lab base (X d o c) K J_ xs iv):d7 w base (Z w.1) d xs:=λi b=>by
 let⟨k,p,j⟩:=h.1.got O;cases j;have f:=h.1;let⟨m,n,e⟩:=(h.2 i b).form;have g:=h.2 i b;rw[e]at g;have a:=λq u hq l=>lq (q:=q) (u:=u) f b hq l;refine⟨k,0,R,f.blk.1,m,n,?_,⟨?_,?_,?_,?_⟩,g.inss⟩;·rw[aV];exact a 0 _ O<|by rw[<-e];rfl
 .rw[aV];exact a 1 _ O R
 .rw[aV];exact a 2 _ O R
 .rw[aV];exact a 3 _ O R
 rw[aV];exact a 4 _ O R
end
def jr(a:List I):Option Value->Value
 |some (Si S6 z)=>Si S6 (Kp a z)
 |_=>Si S6 0
def recW(cs:Wc)(g:N)(a:Wa)(w:Ub):Ub:=a.foldl (λW o=>Se W.drew ⟨g,o,U⟩ (jr cs<|E W ⟨g,o,U⟩)) w
theorem G7:recW l n (s++[m]) w=Se (recW l n s w).drew ⟨n,m,U⟩ (jr l<|E (recW l n s w) ⟨n,m,U⟩):=by unfold recW;rw[dT];rfl
theorem ox(c:Wc)(g:N){b:N}(d:b≠g):∀(a:Wa)(w:Ub),(recW c g a w).1[b]?=w.1[b]?
 |[],_=>R
 |o::a,w=>by show(recW c g a _).1[b]?=_;rw[ox c g d a];exact Below.heap_setCell w.drew _ _ _ d
theorem pu(c:Wc){g:N}{B:N}(d:B<=g):∀(a:Wa){b w:Ub},Sw B b w->B<=Z b.1->Sw B b (recW c g a w)
 |[],_,_,h,_=>h
 |o::a,_,_,h,hB=>pu c d a (h.drew.setCell (p:=A g o) d _) hB
def lP(a:Wc)(b:Wa)(A_:Wo):Wo:=b.foldl (λA_ o=>A_.set o<|jr a A_[o]?) A_
theorem Xv.recW{d:N->N×N×N}{L:N×N×N}{b t e g n c:N}{cs:Wc}:∀(a:Wa){w:Ub}{A_:Wo},Xv w d L b t e (Hl g n c) n A_->(∀o∈a,o<J A_)->Xv (recW cs g a w) d L b t e (Hl g n c) n (lP cs a A_)
 |[],_,_,h,_=>h
 |o::a,w,A_,h,hl=>by
  have k:Xv w.drew d L b t e (Hl g n c) n A_:=h.keep λm _ _ i=>⟨R,i⟩;have f:=hl o sP;have j:E w (A g o)=A_[o]?:=by rw[aC f];exact h.cell<|aC f
  have l:=k.set o<|jr cs A_[o]?;have:=Xv.recW a l (cs:=cs) (λq hq=>by rw[bL];exact hl q<|by simp[hq]);show Xv (Go.Proofs.YtcncjgijikoapaaGreatDoor.recW cs g a (Se w.drew (A g o) (jr cs<|E w (A g o)))) _ _ _ _ _ _ _ _;rw[j];exact this
theorem xu{f1 f3 F:Uj}{L t}(T:Q (Bx w n #[a,f1,X p k B,f3,A_,F] 46))(K:n≠m)(X_:Q (Xf w g i p l))(Y_:Q (k=J l))(W_:i<=m)(ap:m<L)(hB:t<=Z w.1)(hL:L<=t)(hp:Q (Zx w L t P<|s.map λo=>Tx<|A m o))(M:Q (j=J s))(a2:j<=1000)(hz:∀q,w.frozen? (A m q)=Sn)(hv:Q (∀b (h:b<J s),∃z:N,E (recW l m (s.take b) w) (A m<|s[b])=S (H z)/\z<J l)):
 Sk prog 38 #[Hn n,X P j c] w λv r=>v=Rt (St #[])/\r=recW l m s w:=by
 have a0:=T.lt;have T_:Q (∀b q,(recW l m (s.take b) w).frozen? (A m q)=Sn):=Y (λb q=>by
  have ac:∀(s:Wa)(w:Ub),(∀q,w.frozen? (A m q)=Sn)->(recW l m s w).frozen? (A m q)=Sn:=by
   intro s
   induction s with
   |nil=>intro w h;exact h q
   |cons o s ih=>intro w h;exact ih _ λq=>by rw[eX];exact h q
  exact ac _ w hz)
 go_in
 go_wp2
 go_loopw [8] (λy wr=>∃b:N,b<=j/\y=H b/\Q (wr=recW l m (s.take b) w)) λy _=>j-(JB y).toNat
 .exact⟨0,aN,R,Y R⟩
 obtain⟨b,hj,rfl,d⟩:=hrel;by_cases a1:b<j
 .have x:b<J s:=oN M.o;have V:Q (recW l m (s.take<|b+1) w=Se (recW l m (s.take b) w).drew (A m<|s[b]) (jr l<|E (recW l m (s.take b) w) (A m<|s[b]))):=Y (by rw[bN x,G7]);let⟨z,W,a5⟩:=hv b x;obtain⟨C,po,rfl,⟨a3,a4⟩,f⟩:=hp b (by simpa using x);rw[cM]at f;unfold Tx at f;have O_:=(fI (λ(o:Option Obj)=>o) (ox l m (b:=C) O (s.take b) w));have H_:Bx wr n #[a,f1,X p k B,f3,A_,F] 46:=T.keep (by rw[d.o];exact ox l m K _ _);have l2:Cl wr n 2 (X p k B):=ZY H_ R;have I_:Sw m w wr:=by rw[d.o];exact pu l aA _ Rf O
  have kp:E wr (A C<|po+b)=S (Ho m<|s[b]):=by rw[<-f];exact Xc<|by rw[d.o];exact O_
  obtain⟨u,F_,e,aa,ar,rfl,ad,af⟩:=jq (X_.keep<|I_.mono W_) (v:=(z:I)) O O;have ab:e=z:=O;subst ab;have R_:E wr (A m<|s[b])=S (H e):=by rw[d.o];exact W
  have D_:Q (recW l m (s.take<|b+1) w=Se wr.drew (A m<|s[b]) (H<|Kp l e)):=Y (by rw[V.o,<-d.o,R_];rfl);have az:(e:I)<k:=oN Y_.o;have V_:wr.frozen? (A m<|s[b])=Sn:=by rw[d.o];exact T_ b _
  have ao:m≠C:=O;have al:m≠u:=O;have aj:m≠n:=λv=>K v.symm;generalize Kp l e=z1 at*;let⟨S_,N_⟩:∃S_,S_=s[b]:=⟨_,R⟩;rw[<-N_]at kp R_ D_ V_;clear H_ I_ O_ f W V N_ aa;go_wp2;refine Y7 (λr=>E r (A n 2)=S (Hm u F_ k B)/\E r (A u<|F_+e)=S (H z1)) λig=>?_;refine Xn 0 ?_;(iterate 6 refine Rm ?_);refine Xs 7 λU_ hK=>?_;go_simp;refine hK _ _ kP λig=>?_;clear hK;refine Xn 8 ?_;refine Xn 9 ?_;refine Xn 10 ?_;refine Xs 11 λU_ hK=>?_;go_simp;refine hK _ _ kP λig=>?_;clear hK;refine Yq ?_;clear ig;go_wp2;exact⟨⟨b+1,O,gM,Y D_.symm⟩,SA⟩
 have Z_:b=J s:=oN M.o;have aq:¬(b:I)<j:=O;go_wp2_with fail
 refine uT (v:=St #[]) (by simp[JC,results38,go_sem]) R ⟨R,?_⟩;rw[d.o,Z_,gC]
section
open Go.Lib
theorem GA(z:E w (A n m)=S (H k))(C:1<=k)(K:k<=13)(v:Q (Yy w)):
 Sk prog 39 #[Ho n m] w λf g=>∃B,f=Rt B/\Sw (Z w.1) w g/\Sx g (Z w.1) 175 1 B (J (Yd [dB (k:I),aB (k:I),bB (k:I)] [(A n<|m+1),(A n<|m+2),(A n<|m+3)])) ((Yd [dB (k:I),aB (k:I),bB (k:I)] [(A n<|m+1),(A n<|m+2),(A n<|m+3)]).map Tx):=by
 obtain⟨c0,c1,c2,c3,c4⟩:=v.2 k C K;have Q_:=v.1;have O_:n<Z w.1:=aI w _ z;generalize dB k=d at*;generalize aB k=b at*;generalize bB k=c at*;generalize iB k=M at*
 go_in
 go_wp2_with fail
 have L:(λh:Ub=>Z h.1=Z w.1+1/\E h (A (Z w.1) 1)=S (Sb d)/\E h (A (Z w.1) 2)=S (Sb b)/\E h (A (Z w.1) 3)=S (Sb c)/\Q (Sw (Z w.1) w h)) (D w<|Sc #[Sg (K8<|bz k),Sb d,Sb b,Sb c,Sb M] 112):=⟨sP,sP,sP,sP,Y<|Xb Rf _⟩;generalize D w _=a at*;obtain⟨e1,P,T,F,r⟩:=L;clear z c0 c1 c2 c3 c4;have N_:=Y e1;have p:Z w.1<Z a.1:=O;clear e1;have o:Q (∀(l i:Uy)(W:Ub),Sw (Z a.1) a W->Zx W (Z a.1) (Z W.1) l ([d,b,c].map Sb)->Zx W (Z a.1) (Z W.1) i ([(A n<|m+1),(A n<|m+2),(A n<|m+3)].map Tx)->Sk prog 81 #[X l 3 3,X i 3 3] W λf e=>∃v5,f=Rt v5/\E e (A (Z w.1) 1)=S (Sb d)/\E e (A (Z w.1) 2)=S (Sb b)/\E e (A (Z w.1) 3)=S (Sb c) /\
  Q (Sw (Z w.1) w e)/\Q (Sx e (Z w.1) 175 1 v5 (J (Yd [d,b,c] [(A n<|m+1),(A n<|m+2),(A n<|m+3)])) ((Yd [d,b,c] [(A n<|m+1),(A n<|m+2),(A n<|m+3)]).map Tx))):=Y (λl i W t V L_=>by
  have P_:=t.4;refine(UA l i 3 3 [d,b,c] [(A n<|m+1),(A n<|m+2),(A n<|m+3)] (Z a.1) (Z W.1) W aA (Y V) (Y L_) (Y R) sP).mono ?_;rintro f e⟨v5,rfl,u,K_⟩;have s5:=u.4;have j:=Xg t u;exact⟨v5,R,oB j P p,oB j T p,oB j F p,Y<|r.trans (j.mono O),Y<|Zk K_ O⟩)
 have e2:∀x y,Z (D (D a x) y).drew.1=Z a.1+2:=λx y=>by show Z (D (D a x) y).1=_;simp
 have B_:=Y (o.o (S ⟨Z a.1,0,U⟩) (S ⟨Z a.1+1,0,U⟩) (D (D a<|Sc #[Sb d,Sb b,Sb c] 4) (Sc #[Ho n<|m+1,Ho n<|m+2,Ho n<|m+3] 175)).drew (Xb (Xb (dC (Z a.1) a) _) _).drew (by rw[e2];exact J7 a [Sb d,Sb b,Sb c] 4 [Ho n<|m+1,Ho n<|m+2,Ho n<|m+3] 175) (by rw[e2];exact J6 a [Ho n<|m+1,Ho n<|m+2,Ho n<|m+3] 175 [Sb d,Sb b,Sb c] 4));have C_:=Y (o.o (S ⟨Z a.1+1,0,U⟩) (S ⟨Z a.1,0,U⟩) (D (D a<|Sc #[Ho n<|m+1,Ho n<|m+2,Ho n<|m+3] 175) (Sc #[Sb d,Sb b,Sb c] 4)).drew (Xb (Xb (dC (Z a.1) a) _) _).drew (by rw[e2];exact J6 a [Sb d,Sb b,Sb c] 4 [Ho n<|m+1,Ho n<|m+2,Ho n<|m+3] 175) (by rw[e2];exact J7 a [Ho n<|m+1,Ho n<|m+2,Ho n<|m+3] 175 [Sb d,Sb b,Sb c] 4));clear o r e2
 go_region_held3 (λg=>E g (A (Z w.1) 1)=S (Sb d)/\E g (A (Z w.1) 2)=S (Sb b)/\E g (A (Z w.1) 3)=S (Sb c)) (go_keep)
  (first
   |(go_at_call 81;with_reducible refine B_.o.mono ?_;rintro f e⟨v5,rfl,f1,f2,f3,q,s⟩)
   |(go_at_call 81;with_reducible refine C_.o.mono ?_;rintro f e⟨v5,rfl,f1,f2,f3,q,s⟩))
 all_goals
  go_wp2;go_ret;exact⟨_,R,q,s⟩
theorem Ie{c a}(h:YY w n m (S c) a):∀(j:N)(u:Uj),(ZP a)[j]?=S u->E w (c.add j)=S u:=by
 intro j u b;have f:j<J (ZP a):=by
  obtain h|h:=mL j (J (ZP a));·exact h
  rw[dK h]at b;cases b
 have d:j/5<J a:=by rw[iR]at f;omega
 let⟨g,o,e,_,c0,c1,c2,c3,c4⟩:=h (j/5) d;cases e;have e2:=Xz (sz:=5) (f:=λ_ (x:Yg)=>[H x.1,H x.2,H x.a,H x.b,H x.5]) (λ_ _=>R) 0 a (j/5) d (j%5) (dS _ O);rw[<-rH a 0,show j/5*5+j%5=j by omega,b]at e2;have ha:((A g o):Addr).add j=(A g<|o+j):=by cases j<;>simp[Addr.add]
 rw[ha];have i:j%5=0\/j%5=1\/j%5=2\/j%5=3\/j%5=4:=O;obtain q|q|q|q|q:=i<;>rw[q]at e2<;>cases e2;·rw[show o+j=o+j/5*5 by omega];exact c0
 .rw[show o+j=o+j/5*5+1 by omega];exact c1
 .rw[show o+j=o+j/5*5+2 by omega];exact c2
 .rw[show o+j=o+j/5*5+3 by omega];exact c3
 rw[show o+j=o+j/5*5+4 by omega];exact c4
theorem GM(c){a}(i:Q (YY w m k p a))(j:Q (n=J a))(P:n<=1048576)(y:k<=Z w.1):
 Sk prog 37 #[X p n c] w λe l=>∃v,e=Rt v/\Sw (Z w.1) w l/\Sx l (Z w.1) 64 5 v (J a) (ZP a):=by
 have L:∀(w:Ub)(p:Uy)(n c d b:N),(binOp .eql 48 (X p n c) (X U d b)).run prog w=.ok (Sb p.isNone) w:=λw p n c d b=>Lib.run_eql_slice_nil w _ _ p n c d b underlying48;cases p with
 |none=>
  have x:a=[]:=by
   cases a with
   |nil=>rfl
   |cons T M=>let⟨V,K,e,_⟩:=i 0 sP;cases e
  subst x
  go_in
  go_wp2;go_ret;exact⟨_,R,Rf,dA⟩
 |some u=>
  have t:=Y<|l7 a;have q:=Y<|iR a;have f:Q (Sx (D w<|Sc #[] 64) (Z w.1) 64 5 (Hl (Z w.1) 0 0) 0 []):=Y (by have:=eI (base:=Z w.1) (e:=64) (size:=5) w #[] 0 sP sP R;simpa using this)
  have r:=Y<|Ie (i.keep<|vT (dC k w) y (Sc #[] 64))
  go_in
  go_wp2_with (at_builtin;refine YB (n:=0) (xs:=[]) RB f r t ?_ (hl:=by rw[q.o,j.o]))
  intro C F h g B z;have o:=Y<|Xy (vT Rf aA _) g f aA sP;have s:Q (Sx F (Z w.1) 64 5 C (J a)<|ZP a):=Y (by rw[<-j.o];simpa using h);go_wp2;go_ret;exact⟨_,R,o,s⟩
end
theorem IZ{b o:N}{i:I}(hi:Q (Jk w b o ⟨n,t,T,z,i⟩))(h1:1<=n)(L:n<=13)(M:Q (Yy w)):
 Sk prog 117 #[Ho b o] w λe f=>∃v,e=Rt v/\Sw (Z w.1) w f/\Sx f (Z w.1) 2 1 v (J (Iw ⟨n,t,T,z,i⟩)) ((Iw ⟨n,t,T,z,i⟩).map (Si S6)):=by
 obtain⟨P,q1,q2,C,V⟩:=hi.o;simp only at P q1 q2 C V;obtain⟨c0,c1,c2,c3,c4⟩:=M.2 n h1 L;have hz:=M.1;have M_:b<Z w.1:=aI w _ q2;have x:Q (Iw ⟨n,t,T,z,i⟩=(if aB (n:I)then [T]else [])++(if bB (n:I)then [z]else [])):=Y R;generalize Iw ⟨n,t,T,z,i⟩=F at*;generalize dB (n:I)=uD at*;generalize aB (n:I)=c at*;generalize bB (n:I)=d at*;generalize iB (n:I)=uI at*;have F_:=Y q2;have G_:=Y C
 go_in
 go_wp2_with fail
 have aa:(λs:Ub=>Z s.1=Z w.1+1/\E s (A (Z w.1) 2)=S (Sb c)/\E s (A (Z w.1) 3)=S (Sb d)/\Q (Sw (Z w.1) w s)) (D w (Sc #[Sg (K8<|bz n),Sb uD,Sb c,Sb d,Sb uI] 112)):=⟨sP,sP,sP,Y<|Xb Rf _⟩;generalize D w _=a at*;obtain⟨e1,H_,I_,u⟩:=aa;clear P q1 q2 C V c0 c1 c2 c3 c4;have al:=Y e1;have m:Z w.1<Z a.1:=O;clear e1;have y:Q (∀(q j:Uy)(W:Ub),Sw (Z a.1) a W->Zx W (Z a.1) (Z W.1) q ([c,d].map Sb)->Zx W (Z a.1) (Z W.1) j ([(A b (o+2)),(A b (o+3))].map Tx)->Sk prog 81 #[X q 2 2,X j 2 2] W λe g=>∃h c5 r,e=Rt (X h r c5)/\E g (A (Z w.1) 2)=S (Sb c)/\E g (A (Z w.1) 3)=S (Sb d) /\
  Q (Sk prog 144 #[X h r c5] g λe f=>∃v,e=Rt v/\E f (A (Z w.1) 2)=S (Sb c)/\E f (A (Z w.1) 3)=S (Sb d)/\Q (Sw (Z w.1) w f)/\Q (Sx f (Z w.1) 2 1 v (J F) (F.map<|Si S6)))):=Y (λq j W K_ hk hp=>by
  have am:=K_.4;refine(UA q j 2 2 [c,d] [(A b (o+2)),(A b (o+3))] (Z a.1) (Z W.1) W aA (Y hk) (Y hp) (Y R) sP).mono ?_;rintro e g⟨v5,rfl,L_,ac⟩;have s5:=L_.4;have p:Sw (Z a.1) a g:=Xg K_ L_;obtain⟨h,c5,rfl,af⟩:=UO ac;rw[bK];have N_:Sw (Z w.1) w g:=u.trans<|p.mono O;refine⟨h,c5,_,R,oB p H_ m,oB p I_ m,Y ?_⟩;have R_:=oB N_ F_.o M_;have S_:=oB N_ G_.o M_;have l:b<Z g.1:=O;refine(KZ c5 F aA (Y af) (Y ?_) (Y ?_) ?_).mono ?_;·rw[x.o];cases c<;>cases d<;>rfl
  .intro K k h';have aj:=x.o;subst aj;cases c<;>cases d;·exact Sz k<|by simp[Yd]
   .match K,k with
    |0,_=>exact⟨l,S_⟩
   .match K,k with
    |0,_=>exact⟨l,R_⟩
   match K,k with
   |0,_=>exact⟨l,R_⟩
   |1,_=>exact⟨l,S_⟩
  .cases c<;>cases d<;>simp[Yd]
  rintro e w7⟨U_,rfl,ab,ad⟩
  have B:=Xg p ab;exact⟨U_,R,oB B H_ m,oB B I_ m,Y<|u.trans (B.mono O),Y<|Zk ad O⟩)
 have X_:=Y (y.o (S ⟨Z a.1,0,U⟩) (S ⟨Z a.1+1,0,U⟩) (D (D a (Sc #[Sb c,Sb d] 4)) (Sc #[Ho b (o+2),Ho b (o+3)] 175)).drew (Xb (Xb (dC (Z a.1) a) _) _).drew (by rw[show Z (D (D a (Sc #[Sb c,Sb d] 4)) (Sc #[Ho b (o+2),Ho b (o+3)] 175)).drew.1=Z a.1+2 from by show Z (D (D a (Sc #[Sb c,Sb d] 4)) (Sc #[Ho b (o+2),Ho b (o+3)] 175)).1=_;simp];exact J7 a [Sb c,Sb d] 4 [Ho b (o+2),Ho b (o+3)] 175) (by rw[show Z (D (D a (Sc #[Sb c,Sb d] 4)) (Sc #[Ho b (o+2),Ho b (o+3)] 175)).drew.1=Z a.1+2 from by show Z (D (D a (Sc #[Sb c,Sb d] 4)) (Sc #[Ho b (o+2),Ho b (o+3)] 175)).1=_;simp];exact J6 a [Ho b (o+2),Ho b (o+3)] 175 [Sb c,Sb d] 4));have Y_:=Y (y.o (S ⟨Z a.1+1,0,U⟩) (S ⟨Z a.1,0,U⟩) (D (D a (Sc #[Ho b (o+2),Ho b (o+3)] 175)) (Sc #[Sb c,Sb d] 4)).drew (Xb (Xb (dC (Z a.1) a) _) _).drew (by rw[show Z (D (D a (Sc #[Ho b (o+2),Ho b (o+3)] 175)) (Sc #[Sb c,Sb d] 4)).drew.1=Z a.1+2 from by show Z (D (D a (Sc #[Ho b (o+2),Ho b (o+3)] 175)) (Sc #[Sb c,Sb d] 4)).1=_;simp];exact J6 a [Sb c,Sb d] 4 [Ho b (o+2),Ho b (o+3)] 175) (by rw[show Z (D (D a (Sc #[Ho b (o+2),Ho b (o+3)] 175)) (Sc #[Sb c,Sb d] 4)).drew.1=Z a.1+2 from by show Z (D (D a (Sc #[Ho b (o+2),Ho b (o+3)] 175)) (Sc #[Sb c,Sb d] 4)).1=_;simp];exact J7 a [Ho b (o+2),Ho b (o+3)] 175 [Sb c,Sb d] 4));clear y u F_ G_ x
 go_region_held3 (λf=>E f (A (Z w.1) 2)=S (Sb c)/\E f (A (Z w.1) 3)=S (Sb d)) (go_keep)
  (first
   |(go_at_call 81;with_reducible refine X_.o.mono ?_;rintro e g⟨h,c5,r,rfl,f2,f3,E_⟩)
   |(go_at_call 81;with_reducible refine Y_.o.mono ?_;rintro e g⟨h,c5,r,rfl,f2,f3,E_⟩)
   |(go_at_call 144;with_reducible refine E_.o.mono ?_;rintro e w7⟨U_,rfl,L,h3,V_,Z_⟩))
 all_goals
  go_wp2;go_ret;exact⟨_,R,V_.o,Z_.o⟩
theorem zN{b o:N}{i:I}(Q_:Q (Jk w b o ⟨n,t,T,z,i⟩))(N_:1<=n)(O_:n<=13)(K:Q (Yy w)):
 Sk prog 114 #[Ho b o] w λe d=>∃v,e=Rt v/\Sw (Z w.1) w d/\Sx d (Z w.1) 2 1 v (J (BW ⟨n,t,T,z,i⟩)) ((BW ⟨n,t,T,z,i⟩).map (Si S6)):=by
 obtain⟨p,q1,q2,L,M⟩:=Q_.o;simp only at p q1 q2 L M;obtain⟨c0,c1,c2,c3,c4⟩:=K.2 n N_ O_;have s:=K.1;have k:b<Z w.1:=aI w _ q2;have q:Q (BW ⟨n,t,T,z,i⟩=if dB (n:I)then [t]else []):=Y R;generalize BW ⟨n,t,T,z,i⟩=y at*;generalize dB (n:I)=a at*;have P:=Y q1;have r:Q (∀(l j:Uy)(W:Ub),Sw (Z w.1) w W->Zx W (Z w.1) (Z W.1) l ([a].map Sb)->Zx W (Z w.1) (Z W.1) j ([(A b (o+1))].map Tx)->Sk prog 81 #[X l 1 1,X j 1 1] W λe f=>∃g c5 m,e=Rt (X g m c5)/\Sw (Z w.1) w f /\
  Q (Sk prog 144 #[X g m c5] f λe d=>∃v,e=Rt v/\Sw (Z w.1) w d/\Q (Sx d (Z w.1) 2 1 v (J y) (y.map<|Si S6)))):=Y (λl j W F R_ V_=>by
  have af:=F.4;refine(UA l j 1 1 [a] [(A b (o+1))] (Z w.1) (Z W.1) W aA (Y R_) (Y V_) (Y R) sP).mono ?_;rintro e f⟨v5,rfl,c,S_⟩;have s5:=c.4;have u:Sw (Z w.1) w f:=Xg F c;obtain⟨g,c5,rfl,X_⟩:=UO S_;rw[bK];refine⟨g,c5,_,R,u,Y ?_⟩;have r1:=oB u P.o k;have P_:b<Z f.1:=O;refine(KZ c5 y aA (Y X_) (Y ?_) (Y ?_) ?_).mono ?_;·rw[q.o];cases a<;>rfl
  .intro Z_ V h';have Y_:=q.o;subst Y_;cases a;·exact Sz V<|by simp[Yd]
   match Z_,V with
   |0,_=>exact⟨P_,r1⟩
  .cases a<;>simp[Yd]
  rintro e w7⟨x,rfl,h,U_⟩
  exact⟨x,R,Xg u h,Y<|Zk U_ O⟩)
 have e2:∀C B,Z (D (D w C) B).drew.1=Z w.1+2:=λC B=>by show Z (D (D w C) B).1=_;simp
 have K_:=Y (r.o (S ⟨Z w.1,0,U⟩) (S ⟨Z w.1+1,0,U⟩) (D (D w (Sc #[Sb a] 4)) (Sc #[Ho b (o+1)] 175)).drew (Xb (Xb (dC (Z w.1) w) _) _).drew (by rw[e2];exact J7 w [Sb a] 4 [Ho b (o+1)] 175) (by rw[e2];exact J6 w [Ho b (o+1)] 175 [Sb a] 4));have L_:=Y (r.o (S ⟨Z w.1+1,0,U⟩) (S ⟨Z w.1,0,U⟩) (D (D w (Sc #[Ho b (o+1)] 175)) (Sc #[Sb a] 4)).drew (Xb (Xb (dC (Z w.1) w) _) _).drew (by rw[e2];exact J6 w [Sb a] 4 [Ho b (o+1)] 175) (by rw[e2];exact J7 w [Ho b (o+1)] 175 [Sb a] 4));clear e2 r q1 q2 L M c0 c2 c3 c4 P q;have ac:(0:I)<=(n:I):=O;have ad:(n:I)<14:=O
 go_in
 go_wp2_with fail
 go_region_held3 (λd=>E d (A b o)=S (H n)/\E d (A (1) (n*5+1))=S (Sb a)) (go_keep)
  (first
   |(go_at_call 81;with_reducible refine K_.o.mono ?_;rintro e f⟨g,c5,m,rfl,c,C_⟩;have f2:=oB c p k;have f3:=oB c c1 s;clear c)
   |(go_at_call 81;with_reducible refine L_.o.mono ?_;rintro e f⟨g,c5,m,rfl,c,C_⟩;have f2:=oB c p k;have f3:=oB c c1 s;clear c)
   |(go_at_call 144;with_reducible refine C_.o.mono ?_;rintro e w7⟨x,rfl,h,M_⟩;have aa:=oB h p k;have ab:=oB h c1 s;have J_:=Y h;clear h))
 all_goals
  go_wp2;go_ret;exact⟨x,R,J_.o,M_.o⟩
end Go.Proofs.YtcncjgijikoapaaGreatDoor
