import Derived.Test.YtnggdhnpjfigjaaGreatDoorPB0
import Derived.Test.YtnggdhnpjfigjaaGreatDoorLO7
import Derived.Test.YtnggdhnpjfigjaaGreatDoorMT1
namespace Go.Proofs.YtnggdhnpjfigjaaGreatDoor
set_option maxHeartbeats 8000000
set_option maxRecDepth 1000000
open _root_ renaming List.length->J,Nat->N,Int->I,rfl->R,Option.some->S,Bool.true->So,absurd->Sz,List.range->Rg,Bool.false->Sn,Array.size->Z,Option.none->U
open Go renaming World.cell?->E,World.alloc->D,World.setCell->Se,IntKind.i64->S6,Ending.returned->Rt,undef->Su,RowKit.Below->Sw,Calls->Sk,World.ownsRow->Sx,Obj.cells->Sc
open Value renaming slice->X,int->Si,pointer->Sj,agg->Sa,bool->Sb,tuple->St,string->Sg
open Go.RowKit Go.Proofs.Tryz Go.Shelf
variable{t T z:I}{n m k B g i j c:N}{w v u:Ub}{a A_:Uj}{p P:Uy}{d:Vv}{s:Wa}{l L:Wc}{x:Wi}{f:Wk}{y:Wo}
section
theorem uL{tg:Yr}{r:N}{P:Wc}(h:YX tg r P):∀(m b:N),Re tg b->(XT P m b).Pairwise λc e=>¬JO tg e c
 |0,b,_=>by simp[XT]
 |m+1,b,hb=>by
  rw[XT,List.pairwise_cons];refine⟨λx d i=>?_,?_⟩
  .obtain⟨c,a,d⟩:=bV.1 d;have j:=Kf h a;exact j.2<|Z1 j.1 (J8 (Ji h m c x j.1.2 d) i)
  rw[iK];refine⟨λc a=>uL h m c (Kf h a).1.2,?_⟩;have p:(Nj P b).Nodup:=List.nodup_range.sublist jR;refine jT (λ{c e} a i l x d y q g=>?_) p;have f:=Kf h a;have id:=Kf h i;have n:=Ji h m c x f.1.2 d;have o:=J8 (Ji h m e y id.1.2 q) g;obtain k|k:=TY n o;·exact f.2<|Z1 f.1 (id.3 c k l)
  exact id.2<|Z1 id.1 (f.3 e k λg=>l g.symm)
structure PP(V:N)(xs:Wi)(b k:N)(s:N×Wa):Prop where
 lt:s.1<V
 df:Wl xs s.1 b k
 bn:b<J xs
 kn:∀x,xs[b]?=S x->k<=J x.2
 st:∀x,xs[b]?=S x->s.2=Uq xs x V b k
theorem WL{V:N}{xs:Wi}(d:Jy V xs){b:N}{x:Xe}(e:xs[b]?=S x){s:N×Wa}(h:s∈Ni xs V b x (J x.1)):PP V xs b 0 s:=by
 unfold Ni at h;rw[gC]at h;obtain⟨p,c,rfl⟩:=aY.1 h;have f:=eN e;have g:=d.8 x f p c;refine⟨by show p.1.toNat<V;omega,?_,(cV.1 e).1,λ_ _=>aN,λz a=>by rw[e]at a;cases a;rfl⟩;show Yo xs b p.1.toNat=So;unfold Yo;rw[e];exact XD.2<|aY.2 ⟨p,c,O⟩
theorem UZ{V:N}{xs:Wi}(c:Jy V xs){b:N}{x:Xe}(e:xs[b]?=S x):∀(k:N){s:N×Wa},s∈VC xs V b x k->∃j,j<k/\PP V xs b (j+1) s
 |0,s,h=>by cases h
 |k+1,s,h=>by
  rw[VC]at h;obtain h|h:=bU.1 h
  .obtain⟨j,g,h⟩:=UZ c e k h;exact⟨j,O,h⟩
  cases ey:x.2[k]? with
  |none=>rw[ey]at h;cases h
  |some y=>
   rw[ey]at h;obtain⟨v,hv,rfl⟩:=aY.1 h;have d:=c.6 x (eN e) y (eN ey) v hv;have f:=(cV.1 ey).1;refine⟨k,iJ,by show v.toNat<V;omega,⟨x,y,e,ey,?_⟩,(cV.1 e).1,λz a=>by rw[e]at a;cases a;exact f,λz a=>by rw[e]at a;cases a;rfl⟩;show((v.toNat:N):I)∈BW y;rw[fR d.1];exact hv
theorem qR{V:N}{xs:Wi}(a:Jy V xs){b:N}{s:N×Wa}(h:s∈OV xs V b):∃k,PP V xs b k s:=by
 unfold OV at h;cases e:xs[b]? with
 |none=>rw[e]at h;cases h
 |some x=>
  rw[e]at h;obtain h|h:=bU.1 h;·exact⟨0,WL a e h⟩
  let⟨j,_,h⟩:=UZ a e _ h;exact⟨j+1,h⟩
def PX(xs:Wi)(s t:N×Wa):Prop:=∀b i,OD xs s.1 b i->OD xs t.1 b i->s.1∈t.2
section
variable {V: N} {xs: Wi} (hv: XJ ⟨(V: I), xs⟩ = So) (hr: Jq xs) (hns: ¬ ∃ x, N4 xs x)
include hv hr hns
theorem oY{d k e m:N}{s t:N×Wa}(c:PP V xs d k s)(a:PP V xs e m t)(j:∀b,JO (X8 xs) d b->JO (X8 xs) e b->JO (X8 xs) d e)(l:d=e->k<=m):PX xs s t:=λb o f g=>by
 have n:=XH hv;have i:=j b (WG hv hr hns c.2 f).1 (WG hv hr hns a.2 g).1;have h:=DP hv hr hns n.1 c.2 a.2 f g i l;rw[a.5 _<|aC a.3];exact OD.to_ c.1 a.3 h
theorem uH{b:N}{x:Xe}(e:xs[b]?=S x):∀k,(VC xs V b x k).Pairwise (PX xs)
 |0=>lU
 |k+1=>by
  have d:=XH hv;rw[VC,kY];refine⟨uH e k,?_,λs c t a=>?_⟩
  .cases ey:x.2[k]? with
   |none=>exact lU
   |some y=>
    show(List.map _<|BW y).Pairwise _;unfold BW;cases dB y.1<;>simp
  obtain⟨n,j,c⟩:=UZ d e k c
  obtain⟨i,l,f⟩:=UZ d e (k+1) (s:=t) (by rw[VC];exact fB _ a);have m:i=k:=by
   cases ey:x.2[k]? with
   |none=>rw[ey]at a;cases a
   |some y=>
    rw[ey]at a;obtain⟨v,g,rfl⟩:=aY.1 a;have h:=d.6 x (eN e) y (eN ey) v g;have:=(Wl.one hv f.2 (b':=b) (k':=k+1) ⟨x,y,e,ey,by show((v.toNat:N):I)∈_;rw[fR h.1];exact g⟩).2;omega
  exact oY hv hr hns c f (λ_ _ _=>Zd<|hr b c.3) λ_=>O
theorem DG(b:N):(OV xs V b).Pairwise (PX xs):=by
 have c:=XH hv;unfold OV;cases e:xs[b]? with
 |none=>exact lU
 |some x=>
  show(_++_:List _).Pairwise _;rw[kY];refine⟨?_,uH hv hr hns e _,λs h t i=>?_⟩
  .rw[gY];intro k j f g _;have a:=WL c e<|aH f;have d:=WL c e<|aH g;exact oY hv hr hns a d (λ_ _ _=>Zd<|hr b a.3) λ_=>aA
  have a:=WL c e h;let⟨j,_,d⟩:=UZ c e _ i;exact oY hv hr hns a d (λ_ _ _=>Zd<|hr b a.3) λ_=>aN
theorem D7{P:Wc}(k:YX (X8 xs) (J xs) P):(Ko xs V<|XT P (J xs) 0).Pairwise (PX xs):=by
 have f:=XH hv;unfold Ko;rw[iK];refine⟨λd _=>DG hv hr hns d,?_⟩;refine(uL k (J xs) 0 Re.root).imp λ{c l} e s a t b=>?_;let⟨m,a⟩:=qR f a;let⟨n,b⟩:=qR f b;refine oY hv hr hns a b (λd i j=>?_) λg=>?_
 .rcases TY i j with h|h;·exact h
  exact Sz h e
 subst g;exact Sz (Zd<|hr c a.3) e
end
theorem uu{V:N}{d:List (N×Wa)}(h:mn V d){b c:List (N×Wa)}{t:N×Wa}(e:d=b++t::c){s:N×Wa}(a:s∈b++[t]):∀r∈c,r.1≠s.1:=λr hr=>by
 obtain⟨f,g,rfl⟩:=kD hr;have:=h.2 (b++t::f) r g (by rw[e];simp) s (by
  obtain a|a:=bU.1 a;·exact dD _ a
  rw[cS.1 a];exact fB _ cI)
 exact λq=>this q.symm
theorem wS{V:N}{c:List (N×Wa)}(h:mn V c){a b:List (N×Wa)}{t:N×Wa}(e:c=a++t::b)(C:Ym):Kq C c t.1=(Nx (Kq C a) t.2:I)/\(∀s∈a,Kq C c s.1=Kq C a s.1)/\Kq C a t.1=C t.1:=by
 have e1:Kq C c=Kq (Nn (Kq C a) t) b:=by rw[e];unfold Kq;rw[dT];rfl
 refine⟨?_,λs d=>?_,TE a C λs d=>h.2 a t b e s d⟩
 .rw[e1,TE b _<|uu h e (fB _<|cS.2 R)];unfold Nn;rw[aU R]
 rw[e1,TE b _<|uu h e (dD _ d)];unfold Nn;rw[aM<|h.2 a t b e s d]
theorem F3{V:N}{xs:Wi}{b:List (N×Wa)}(h:mn V b)(k:b.Pairwise (PX xs))(C:Ym){u w d i:N}(o:u<V)(p:w<V)(m:u≠w)(g:OD xs u d i)(j:OD xs w d i):Kq C b u≠Kq C b w:=by
 have l:∀(s t:N×Wa)(c f:List (N×Wa)),b=c++t::f->s∈c->OD xs s.1 d i->OD xs t.1 d i->Kq C b s.1≠Kq C b t.1:=λs t c f e a q r=>by
  let⟨q1,q2,_⟩:=wS h e C;rw[q1,q2 s a];rw[e,kY]at k;exact(oa _ _).1 s.1 (k.2.2 s a t cI d i q r)
 obtain⟨s,a,rfl⟩:=h.3 u o;obtain⟨t,n,rfl⟩:=h.3 w p;let⟨c,f,e⟩:=kD n;rw[e]at a;obtain a|a:=bU.1 a;·exact l s t c f e a g j
 obtain a|a:=cH.1 a;·exact Sz (by rw[a]) m
 let⟨v,x,e2⟩:=kD a;exact λy=>l t s (c++t::v) x (by rw[e,e2];simp) (fB _ cI) j g y.symm
theorem Fk{V:N}{b:List (N×Wa)}(h:mn V b){t:N×Wa}(j:t∈b)(d:t.1∈t.2):Kq (λ_=>-1) b t.1+1<=J t.2:=by
 let⟨a,m,e⟩:=kD j;let⟨q1,_,q3⟩:=wS h e λ_=>-1;rw[q1];have g:=(oa (Kq (λ_=>-1) a) t.2).2;generalize Nx (Kq (λ_=>-1) a) t.2=c at*;have f:=K3 (A_:=Rg c) (B:=(t.2.erase t.1).map λu=>(Kq (λ_=>-1) a u).toNat) kS (λx l=>by
  let⟨u,k,e⟩:=g x<|bE.1 l;have i:u≠t.1:=λe2=>by rw[e2,q3]at e;omega
  exact aY.2 ⟨u,(iF i).2 k,by rw[e];rfl⟩)
 rw[bK,fP d,gI]at f;have:=eJ d;omega
theorem wh{C:Ym}{M:I}(a:0<=M):∀V,(∀u,u<V->C u+1<=M)->NE C V<=M
 |0,_=>a
 |V+1,h=>by
  rw[NE];have b:=wh a V λu d=>h u O;have c:=h V<|iJ;omega
theorem qZ{C:Ym}{u:N}:∀V,u<V->C u+1<=NE C V
 |V+1,h=>by
  rw[NE];by_cases e:u=V;·subst e;omega
  have:=qZ (C:=C) V (show u<V by omega);omega
theorem vu{xs:Wi}{V:N}{l:Wa}(h:l∈Zw xs V (J xs)):∃(b:N)(f:b<J xs)(i:N),i<=J xs[b].2/\l=Uq xs xs[b] V b i:=by
 let⟨s,a,c⟩:=bV.1 h;have a:=bE.1 a;let⟨i,d,e⟩:=(Jr a).1 c;exact⟨s,a,i,d,e⟩
theorem wO(xs:Wi)(x:Xe)(V b i:N):(Uq xs x V b i).Nodup:=by
 unfold Uq;exact List.nodup_range.sublist jR
theorem FD{xs:Wi}{V:N}{l:Wa}(h:l∈Zw xs V (J xs)):J l<=NW (Zw xs V (J xs)):=(TL).1 aA l h
theorem EM{V:N}{xs:Wi}{P:Wc}(hv:XJ ⟨(V:I),xs⟩=So)(hr:Jq xs)(hns:¬∃x,N4 xs x)(j:YX (X8 xs) (J xs) P):
 NE (Kq (λ_=>-1) (Ko xs V<|XT P (J xs) 0)) V=(NW (Zw xs V (J xs)):I)/\(∀l∈Zw xs V (J xs),(l.map λu=>(Kq (λ_=>-1) (Ko xs V<|XT P (J xs) 0) u).toNat).Nodup)/\∀u,u<V->0<=Kq (λ_=>-1) (Ko xs V<|XT P (J xs) 0) u:=by
 have C:=XH hv;have i:=vV hv hr j;have K:=D7 hv hr hns j;have g:∀u,u<V->0<=Kq (λ_=>-1) (Ko xs V<|XT P (J xs) 0) u:=λu c=>UP _ _<|aZ (i.3 u c)
 have L:∀v∈Ko xs V (XT P (J xs) 0),∃b k,PP V xs b k v:=λv a=>by
  let⟨b,_,a⟩:=bV.1 a;let⟨k,a⟩:=qR C a;exact⟨b,k,a⟩
 generalize K_:Ko xs V (XT P (J xs) 0)=e at*;have p:∀l∈Zw xs V (J xs),(l.map λu=>(Kq (λ_=>-1) e u).toNat).Nodup:=λl d=>by
  obtain⟨b,m,M,n,rfl⟩:=vu d;show List.Pairwise _ _;rw[List.pairwise_map];refine jT (λ{u T} c r B I_=>?_) (wO xs xs[b] V b M);have f:=JF d c;have s:=JF d r;have:=F3 i K (λ_=>-1) f s B (OD.of m n c) (OD.of m n r);have w:=g u f;have y:=g T s;omega
 refine⟨?_,p,g⟩;have w:NE (Kq (λ_=>-1) e) V<=(NW (Zw xs V (J xs)):I):=wh O V (λu c=>by
  obtain⟨t,q,rfl⟩:=i.3 u c;let⟨b,k,a⟩:=L t q;have e2:=a.5 _<|aC a.3;have o:=a.4 _<|aC a.3;have W:t.1∈t.2:=by
   rw[e2];exact OD.to_ a.1 a.3 ⟨xs[b]'a.3,aC a.3,o,bC a.2⟩
  have h:=Fk i q W;have z:=FD<|bV.2 ⟨b,bE.2 a.3,(Jr a.3).2 ⟨k,o,e2⟩⟩;omega)
 have y:NW (Zw xs V (J xs))<=(NE (Kq (λ_=>-1) e) V).toNat:=(TL).2 (λl d=>by
  have h:=YS (p l d) (n:=(NE (Kq (λ_=>-1) e) V).toNat) (λx F=>by
   obtain⟨u,c,rfl⟩:=aY.1 F;have f:=JF d c;have z:=qZ (C:=Kq (λ_=>-1) e) V f;have J_:=g u f;omega)
  rw[bK]at h;exact h)
 have h:=UJ (Kq (λ_=>-1) e) V;omega
theorem B7{xs:Wi}{V:N}:NW (Zw xs V (J xs))<=V:=(TL).2 (λl a=>by
 obtain⟨c,d,i,_,rfl⟩:=vu a;exact YS (wO _ _ _ _ _) λu b=>JF a b)
end
theorem xU:∀y∈(ah l x n t m).2,J y.1<=4128:=by
 unfold ah;split;·simp
 intro y a;simp only[cS]at a;subst a;have:=m8<|NU l x n t;show J (NL l x n t)<=4128;unfold NL;omega
theorem Il(a:Wc)(c:Wi)(b:N)(x:Xe)(m:N)(e:J x.2<=4000):J (Nk a c b x m).1.1<=4128/\∀y∈(Nk a c b x m).2,J y.1<=4128:=by
 unfold Nk;split
 .refine⟨?_,sP⟩;have:=m8<|NU a c b x.3.3;show J (x.2.map (ZR a)++NL a c b x.3.3)<=4128;rw[aQ,bK];unfold NL;omega
 split
 .refine⟨by show J (x.2.map<|ZR a)<=4128;rw[bK];omega,λy d=>?_⟩;obtain h|h:=bU.1 d;·exact xU y h
  exact xU y h
 exact⟨by show J (x.2.map<|ZR a)<=4128;rw[bK];omega,sP⟩
theorem xP(c:Wc)(a:Wi)(e:∀x∈a,J x.2<=4000):∀b,b<=J a->(∀y∈(ae c a b).1,J y.1<=4128)/\∀y∈(ae c a b).2,J y.1<=4128
 |0,_=>by simp[ae]
 |b+1,h=>by
  obtain⟨f,g⟩:=xP c a e b O;let⟨i,j⟩:=Il c a b a[b] (J a+J (ae c a b).2) (e _<|aH _);rw[ou c a b O];refine⟨λy d=>?_,λy d=>?_⟩
  .rcases bU.1 d with h|h;·exact f y h
   rw[cS.1 h];exact i
  obtain h|h:=bU.1 d;·exact g y h
  exact j y h
theorem yo(b:Wc)(a:Wi)(j:J a<=1000)(e:∀x∈a,J x.2<=4000):J (NK b a)<=3000/\∀y∈NK b a,J y.1<=4128:=by
 unfold NK;have g:=ll b a (J a)<|aA;have i:=oz b a (J a)<|aA;let⟨c,d⟩:=xP b a e (J a)<|aA;refine⟨by rw[aQ];omega,λy f=>?_⟩;obtain h|h:=bU.1 f;·exact c y h
 exact d y h
theorem pM(h:Ft t x=0):XJ ⟨t,x⟩=So:=by
 unfold Ft at h;by_cases a:XJ ⟨t,x⟩=Sn;·rw[aU a]at h;omega
 simpa using a
theorem HK.ints{b:Ym}(h:HK w n m k b):Xf w 0 (Z w.1) (S ⟨n,0,U⟩) ((Rg m).map b):=λi a=>by
 simp only[bK,gI]at a;refine⟨n,0,R,⟨aN,h.lt⟩,?_⟩;simp only[cM,dW,aV];exact h.cell a
noncomputable def PK(V:N)(a:Wi):Ym:=Kq (λ_=>-1) (Ko a V<|XT ((Rg (J a)).map (L0<|(Rg (J a)).map (Zq (X8 a) (J a)))) (J a) 0)
noncomputable def OJ(V:N)(a:Wi):Wc:=(Rg V).map (PK V a)
theorem wK(h:Ft (n:I) x=0){k:I}(v:(NW (Zw x n (J x)):I)<=k)(w:k<=64):Pm (n:I) x (OJ n x) k:=by
 let⟨d,e⟩:=TX h;have q:=XH d;have p:¬∃s,N4 x s:=λm=>by
  rw[qg d e m]at h;omega
 let⟨g,i,j⟩:=EM d e p q.1.model;have t:NE (PK n x) n=(NW (Zw x n (J x)):I):=g;refine⟨h,O,O,by simp[OJ],λc o=>?_,λl b=>?_⟩
 .obtain⟨u,a,rfl⟩:=aY.1 o;have a:=bE.1 a;have:=qZ (C:=PK n x) n a;exact⟨j u a,O⟩
 have f:l.map (US<|OJ n x)=l.map λu=>(PK n x u).toNat:=by
  apply gH;intro u a;have r:u<n:=JF b a;unfold US NG OJ;rw[bF,dX,iQ r];rfl
 rw[dM]at b;rw[f];exact i l b
structure Pg where
 co:I
 li:I
 ne:I
 k:I
 l:List ag
noncomputable def f8(o:jg)(k:I):Pg :=
 if o.1≠0 then ⟨o.1,o.2,0,0,[]⟩else if Ft o.3.1 o.3.2≠0 then ⟨Ft o.3.1 o.3.2,0,0,0,[]⟩else if k<1\/64<k then ⟨12,0,0,0,[]⟩
 else if k<NW (Zw o.3.2 o.3.1.toNat (J o.3.2))then ⟨13,0,NW<|Zw o.3.2 o.3.1.toNat (J o.3.2),0,[]⟩
 else ⟨0,0,NW<|Zw o.3.2 o.3.1.toNat (J o.3.2),k,NK (OJ o.3.1.toNat o.3.2) o.3.2⟩
def lh(f:N->Value):N->N->List Value
 |_,0=>[]
 |i,n+1=>f i::lh f (i+1) n
theorem rD(i:N):∀(n:N)(a:List Value),J a=n->∃f:N->Value,a=lh f i n:=λn a h=>by
 have d:∀(n:N)(a:List Value)(i:N)(f:N->Value),J a=n->(∀j,f (i+j)=a.getD j Su)->a=lh f i n:=λn=>by
  induction n with
  |zero=>intro a i f h _;cases a with
   |nil=>rfl
   |cons=>cases h
  |succ n c=>intro a i f h b;cases a with
   |nil=>cases h
   |cons e a=>
    rw[lh,<-c a (i+1) f SI λj=>by have:=b<|j+1;rw[show i+1+j=i+(j+1) by omega];simpa using this];have:=b 0;rw[fW]at this;rw[this];rfl
 exact⟨λk=>a.getD (k-i) Su,d n a i _ h λj=>by rw[Nat.add_sub_cancel_left]⟩
noncomputable def M8:Code:=(f17.9.bind<|Zj 14).getD .skip
noncomputable def M7:Code:=(f17.9.bind<|Zj 19).getD .skip
noncomputable def Na:Code:=(f17.9.bind<|Zj 24).getD .skip
theorem M5{b d C r s q o:N}{u v:I}{wr:World}{K:Exit->Act->World->Prop}{c0 c2 c3 c4 c5:Value}(U_:J y=120)(hQ:Q (∀c (O_:Act) t_ t w_,K (.panic c) (O_.put (S t_) t) w_->K (.panic c) O_ w_))(f4:E wr ⟨m,k+i,U⟩=S (Si S6 (j:I)))(h1:E wr ⟨n,1,U⟩=S (X (S ⟨b,d,U⟩) C c))(g0:E wr ⟨b,d+j*6,U⟩=S (X p r s))(g1:E wr ⟨b,d+j*6+1,U⟩=S (X P q o))(g2:E wr ⟨b,d+j*6+2,U⟩=S (Si S6 T))(g3:E wr ⟨b,d+j*6+3,U⟩=S (Si S6 z))(g4:E wr ⟨b,d+j*6+4,U⟩=S (Si S6 u))(g5:E wr ⟨b,d+j*6+5,U⟩=S (Si S6 v))(a8:i<B)(a6:j<C)(R_:Q (∀(aa ab ac ad af aj al ao:Value)(x:World),Sw (Z wr.1) wr x->x.rowIs (Z wr.1) 71 6 (jo (X p r s) (X P q o) (Si S6 T) (Si S6 z) (Si S6 u) (Si S6 v))->K .normal ⟨(c0::Sj (S ⟨n,0,U⟩)::c2::c3::c4::c5::X (S ⟨m,k,U⟩) B g::a::Si S6 (i:I)::Sj (S ⟨Z wr.1,0,U⟩)::(y.take 32++aa::ab::ac::ad::af::aj::al::ao::y.drop 40)).toArray,[]⟩ x)):
 Code.wp prog M8 K ⟨(c0::Sj (S ⟨n,0,U⟩)::c2::c3::c4::c5::X (S ⟨m,k,U⟩) B g::a::Si S6 (i:I)::A_::y).toArray,[]⟩ wr:=by
 conv=>arg 2;whnf
 obtain⟨a4,rfl⟩:=rD 10 120 y U_;clear U_;simp only[lh,Nat.reduceAdd]at R_ |-;have a7:(i:I)<(B:I):=O;have a5:(j:I)<(C:I):=O;refine Y7 (λh=>E h (A m<|k+i)=S (H j)/\E h (A n 1)=S (Hm b d C c)/\E h (A b<|d+j*6)=S (X p r s)/\E h (A b<|d+j*6+1)=S (X P q o)/\E h (A b<|d+j*6+2)=S (H T)/\E h (A b<|d+j*6+3)=S (H z)/\E h (A b<|d+j*6+4)=S (H u)/\E h (A b<|d+j*6+5)=S (H v)) λhHeld=>?_;refine X0 0 ?_;refine X0 1 ?_;refine X0 2 ?_;refine X0 3 ?_;refine X0 4 ?_;refine X0 5 ?_;refine X0 6 ?_;refine X0 7 ?_;refine Xs 8 λZ_ hK=>?_;go_simp;have V:(λw:World=>Sw (Z wr.1) wr w/\Q (w.rowIs (Z wr.1) 71 6<|jo Hq Hq (H 0) (H 0) (H 0) (H 0))) ((D wr<|.cells #[Hq,Hq,H 0,H 0,H 0,H 0] 71).drew):=⟨(Xb Rf _).drew,(Y<|World.rowIs.drew (eK wr #[Hq,Hq,H 0,H 0,H 0,H 0] 71 _ (λl L=>by match l,L with|0,_=>rfl|1,_=>rfl|2,_=>rfl|3,_=>rfl|4,_=>rfl|5,_=>rfl)))⟩
 generalize (D wr _).drew=H_ at*;let⟨K_,e⟩:=V;have Y_:=Y K_;have N_:Q (∀W,Sw (Z wr.1) wr W->E W (A m<|k+i)=S (H j)/\E W (A n 1)=S (Hm b d C c)/\E W (A b<|d+j*6)=S (X p r s)/\E W (A b<|d+j*6+1)=S (X P q o)/\E W (A b<|d+j*6+2)=S (H T)/\E W (A b<|d+j*6+3)=S (H z)/\E W (A b<|d+j*6+4)=S (H u)/\E W (A b<|d+j*6+5)=S (H v)):=Y (λW hW=>by
  have f:∀(I_ M_:N)(t:Value),E wr (A I_ M_)=S t->E W (A I_ M_)=S t:=λI_ M_ t F=>oB hW F<|aI wr _ F
  exact⟨f _ _ _ f4,f _ _ _ h1,f _ _ _ g0,f _ _ _ g1,f _ _ _ g2,f _ _ _ g3,f _ _ _ g4,f _ _ _ g5⟩)
 refine hK _ _ (N_ H_ K_) λhHeld=>?_;clear hK K_
 try simp only[xX]
 refine Xs 9 λZ_ hK=>?_;have ar:=e.cell (i:=0) vY;have az:=e.cell (i:=1) vY;have a0:=e.cell (i:=2) vY;have a1:=e.cell (i:=3) vY;have a2:=e.cell (i:=4) vY;have a3:=e.cell (i:=5) vY;have lz:=e.frozen;have aq:∀(W:World)(l M:N)(V_:Value),l≠M->E (Se W (A (Z wr.1) l) V_) (A (Z wr.1) M)=E W (A (Z wr.1) M):=λW l M V_ F=>cJ λap=>F<|fI Addr.off ap;go_simp;clear ar az a0 a1 a2 a3 lz aq;have V:(λw:World=>Sw (Z wr.1) wr w/\Q (w.rowIs (Z wr.1) 71 6<|jo (X p r s) (X P q o) (H T) (H z) (H u) (H v))) (Se (Se (Se (Se (Se (Se H_ (A (Z wr.1) 0) (X p r s)) (A (Z wr.1) 1) (X P q o)) (A (Z wr.1) 2) (H T)) (A (Z wr.1) 3) (H z)) (A (Z wr.1) 4) (H u)) (A (Z wr.1) 5) (H v)):=⟨((((((Y_.setCell aA _).setCell aA _).setCell aA _).setCell aA _).setCell aA _).setCell aA _),(Y<|((((((e.set 0 _).set 1 _).set 2 _).set 3 _).set 4 _).set 5 _).congr (λl L=>by match l,L with|0,_=>rfl|1,_=>rfl|2,_=>rfl|3,_=>rfl|4,_=>rfl|5,_=>rfl))⟩;generalize (Se (Se (Se (Se (Se (Se H_ _ _) _ _) _ _) _ _) _ _) _ _)=x at*;let⟨S_,X_⟩:=V;refine hK _ _ (N_ x S_) λhHeld=>?_;clear hK;refine Yq ?_;exact R_ _ _ _ _ _ _ _ _ _ S_ X_
theorem M4{e f r F d ln u x:N}{t:Exit->Act->World->Prop}{c0 c1 c2 c3 c5 C:Value}(W:J y=118)(hQ:Q (∀c (z:Act) t_ h w,t (.panic c) (z.put (S t_) h) w->t (.panic c) z w))(K:E v ⟨e,0,U⟩=S (X (S ⟨f,r,U⟩) i F))(L:E v ⟨f,r+g*2,U⟩=S (Si S6 (B:I)))(M:E v ⟨d,0,U⟩=S (X p ln u))(yg:E v ⟨k,B,U⟩=S (Si S6 T))(yf:v.frozen? ⟨k,B,U⟩=Sn)(ac:e≠k)(ad:f≠k)(ab:d≠k)(hj:g<i)(hd:B<n)(J_:Q (Sk prog 45 #[X (S ⟨k,0,U⟩) n m,X p ln u] v.drew λo l=>o=Rt (Si S6 (x:I))/\l=v.drew))(V:Q (∀(L_ M_ N_ O_ P R_ S_ U_ V_ W_ X_ Y_ Z_ aa:Value),t .normal ⟨(c0::c1::c2::c3::X (S ⟨k,0,U⟩) n m::c5::a::A_::C::Sj (S ⟨e,0,U⟩)::X (S ⟨d,0,U⟩) (j+1) (j+1)::Si S6 (g:I)::(y.take 53++L_::M_::N_::O_::P::R_::S_::U_::V_::W_::X_::Y_::Z_::aa::y.drop 67)).toArray,[]⟩ (Se v.drew ⟨k,B,U⟩ (Si S6 (x:I))))):
 Code.wp prog M7 t ⟨(c0::c1::c2::c3::X (S ⟨k,0,U⟩) n m::c5::a::A_::C::Sj (S ⟨e,0,U⟩)::X (S ⟨d,0,U⟩) (j+1) (j+1)::Si S6 (g:I)::y).toArray,[]⟩ v:=by
 conv=>arg 2;whnf
 obtain⟨aj,rfl⟩:=rD 12 118 y W;simp only[lh,Nat.reduceAdd]at V |-;have ao:(g:I)<(i:I):=O;have al:(B:I)<(n:I):=O;refine Y7 (λl=>E l (A e 0)=S (Hm f r i F)/\E l (A f<|r+g*2)=S (H B)/\E l (A d 0)=S (X p ln u)) λhHeld=>?_;refine X0 0 ?_;refine X0 1 ?_;refine X0 2 ?_;refine X0 3 ?_;refine X0 4 ?_;refine X0 5 ?_;refine X0 6 ?_;refine X0 7 ?_;refine X0 8 ?_;refine X0 9 ?_;refine X0 10 ?_;refine X0 11 ?_;refine Xs 12 λK_ hK=>?_;go_simp;refine J_.mono ?_;rintro o w6⟨rfl,af⟩;subst af;refine hK _ _ ⟨K,L,M⟩ λhHeld=>?_;refine X0 13 ?_;refine Xs 14 λK_ hK=>?_;go_simp;have q:∀(b s:N)(h:Value),b≠k->E v (A b s)=S h->E (Se v.drew (A k B) (H x)) (A b s)=S h:=λb s h h1 h2=>G (bH v.drew (A k B) (A b s) _ (by show k≠b;exact λo=>h1 o.symm)) h2;refine hK _ _ ⟨q _ _ _ ac K,q _ _ _ ad L,q _ _ _ ab M⟩ λhHeld=>?_
 try simp only[xX]
 refine Yq ?_;exact V _ _ _ _ _ _ _ _ _ _ _ _ _ _
theorem M6{e f r F d ln u x:N}{t:Exit->Act->World->Prop}{c0 c1 c2 c3 c5 K C:Value}(F_:J y=117)(hQ:Q (∀c (z:Act) t_ h w,t (.panic c) (z.put (S t_) h) w->t (.panic c) z w))(L:E v ⟨e,1,U⟩=S (X (S ⟨f,r,U⟩) i F))(M:E v ⟨f,r+g*5+1,U⟩=S (Si S6 (B:I)))(V:E v ⟨d,g+1,U⟩=S (X p ln u))(yg:E v ⟨k,B,U⟩=S (Si S6 T))(yf:v.frozen? ⟨k,B,U⟩=Sn)(aj:e≠k)(al:f≠k)(af:d≠k)(hj:g<i)(hd:B<n)(a2:j<=4000)(a1:g<j)(K_:Q (Sk prog 45 #[X (S ⟨k,0,U⟩) n m,X p ln u] v.drew λo l=>o=Rt (Si S6 (x:I))/\l=v.drew))(W:Q (∀(X_ Y_ Z_ aa ab ac ad M_ N_ O_ P R_ S_ U_ V_ W_:Value),t .normal ⟨(c0::c1::c2::c3::X (S ⟨k,0,U⟩) n m::c5::a::A_::K::Sj (S ⟨e,0,U⟩)::X (S ⟨d,0,U⟩) (j+1) (j+1)::C::Si S6 (g:I)::(y.take 80++X_::Y_::Z_::aa::ab::ac::ad::M_::N_::O_::P::R_::S_::U_::V_::W_::y.drop 96)).toArray,[]⟩ (Se v.drew ⟨k,B,U⟩ (Si S6 (x:I))))):
 Code.wp prog Na t ⟨(c0::c1::c2::c3::X (S ⟨k,0,U⟩) n m::c5::a::A_::K::Sj (S ⟨e,0,U⟩)::X (S ⟨d,0,U⟩) (j+1) (j+1)::C::Si S6 (g:I)::y).toArray,[]⟩ v:=by
 conv=>arg 2;whnf
 obtain⟨ap,rfl⟩:=rD 13 117 y F_;simp only[lh,Nat.reduceAdd]at W |-;have az:(g:I)<(i:I):=O;have aq:(B:I)<(n:I):=O;have a3:S6.wrap ((g:I)+1)=(g:I)+1:=by rw[dF];omega
 have ar:0<=(g:I)+1:=O;have a0:(g:I)+1<(j:I)+1:=O;refine Y7 (λl=>E l (A e 1)=S (Hm f r i F)/\E l (A f<|r+g*5+1)=S (H B)/\E l (A d<|g+1)=S (X p ln u)) λhHeld=>?_;refine X0 0 ?_;refine X0 1 ?_;refine X0 2 ?_;refine X0 3 ?_;refine X0 4 ?_;refine X0 5 ?_;refine X0 6 ?_;refine X0 7 ?_;refine X0 8 ?_;refine X0 9 ?_;refine X0 10 ?_;refine X0 11 ?_;refine X0 12 ?_;refine X0 13 ?_;refine Xs 14 λL_ hK=>?_;go_simp;refine K_.mono ?_;rintro o w6⟨rfl,ao⟩;subst ao;refine hK _ _ ⟨L,M,V⟩ λhHeld=>?_;refine X0 15 ?_;refine Xs 16 λL_ hK=>?_;go_simp;have q:∀(b s:N)(h:Value),b≠k->E v (A b s)=S h->E (Se v.drew (A k B) (H x)) (A b s)=S h:=λb s h h1 h2=>G (bH v.drew (A k B) (A b s) _ (by show k≠b;exact λo=>h1 o.symm)) h2;refine hK _ _ ⟨q _ _ _ aj L,q _ _ _ al M,q _ _ _ af V⟩ λhHeld=>?_
 try simp only[xX]
 refine Yq ?_;exact W _ _ _ _ _ _ _ _ _ _ _ _ _ _ _ _
section
structure OC(w4 wr:World)(g V cap:N)(C:N->I):Prop where
 os:wr.4=w4.4
 tape:wr.2=w4.2
 output:wr.5=w4.5
 size:Z w4.1<=Z wr.1
 gl:g<Z w4.1
 fr:∀q,q<Z w4.1->q≠g->wr.1[q]?=w4.1[q]?
 ia:HK wr g V cap C
section
variable {w4 wr wr': World} {g V cap: N} {C C': N -> I}
theorem OC.far(h:OC w4 wr g V cap C)(k:Sw (Z wr.1) wr wr'):OC w4 wr' g V cap C :=
 ⟨G k.1 h.1,G k.2 h.2,G k.3 h.3,aJ h.4 k.4,h.5,λq q1 q2=>G (k.5 q<|aX q1 h.4) (h.6 q q1 q2),h.7.of_block<|k.5 g (aX h.5 h.4)⟩
theorem OC.put(h:OC w4 wr g V cap C){v:N}(a:v<V)(x:I):OC w4 (Se wr ⟨g,v,U⟩ (Si S6 x)) g V cap (λu=>if u=v then x else C u) :=
 ⟨h.1,h.2,h.3,by rw[Xd];exact h.4,h.5,λq q1 q2=>G (Below.heap_setCell _ _ _ _ q2) (h.6 q q1 q2),h.7.set v x a⟩
theorem OC.cell(h:OC w4 wr g V cap C){b o:N}{v:Value}(c:b≠g)(a:E w4 ⟨b,o,U⟩=S v):E wr ⟨b,o,U⟩=S v:=G (Xc<|h.6 b (aI w4 _ a) c) a
end
theorem vW{xs:List Xe}{V b:N}{x:Xe}{i d:N}(c:i<J x.1)(a:x.1[i].1=(d:I)):Ni xs V b x (i+1)=Ni xs V b x i++[(d,Uq xs x V b 0)]:=by
 unfold Ni;rw[kJ,aC c,bG];simp[a]
theorem q9{xs:List Xe}{V b:N}{x:Xe}{i d:N}(c:i<J x.2)(e:dB x.2[i].1=So)(a:x.2[i].2=(d:I)):VC xs V b x (i+1)=VC xs V b x i++[(d,Uq xs x V b<|i+1)]:=by
 rw[VC,aC c];simp[BW,e,a]
theorem xk{xs:List Xe}{V b:N}{x:Xe}{i:N}(a:i<J x.2)(c:dB x.2[i].1=Sn):VC xs V b x (i+1)=VC xs V b x i:=by
 rw[VC,aC a];simp[BW,c]
def OX(a b c:Value):N->Value
 |0=>a
 |1=>b
 |_=>c
theorem Ah{V:N}:∀(a:List (N×List N))(C:N->I),(∀s∈a,J s.2<=V)->(∀u,-1<=C u/\C u<=(V:I))->∀u,-1<=Kq C a u/\Kq C a u<=(V:I)
 |[],_,_,h=>h
 |s::a,C,hs,h=>by
  refine Ah a (Nn C s) (λt b=>hs t<|cN _ b) λu=>?_;unfold Nn;by_cases e:u=s.1
  .rw[aU e];have c:=MW C s.2;have d:=hs s cI;omega
  rw[aM e];exact h u
theorem Aj{a:List Xe}{x:Xe}{V b i:N}:J (Uq a x V b i)<=V:=by unfold Uq;exact aJ (fJ _ _) sP
theorem Ai{a:List Xe}{V b:N}{x:Xe}:∀k,∀s∈VC a V b x k,J s.2<=V
 |0,s,h=>by cases h
 |k+1,s,h=>by
  rw[VC]at h;obtain h|h:=bU.1 h;·exact Ai k s h
  cases hk:x.2[k]? with
  |none=>rw[hk]at h;cases h
  |some y=>
   rw[hk]at h;obtain⟨v,_,rfl⟩:=aY.1 h;exact Aj
theorem MS{b:List Xe}{V:N}{c:List N}:∀u,-1<=Kq (λ_=>-1) (Ko b V c) u/\Kq (λ_=>-1) (Ko b V c) u<=(V:I):=by
 refine Ah _ _ (λs a=>?_) λu=>O;let⟨d,_,a⟩:=bV.1 a;unfold OV at a;cases hb:b[d]? with
 |none=>rw[hb]at a;cases a
 |some x=>
  rw[hb]at a;obtain a|a:=bU.1 a
  .obtain⟨p,_,rfl⟩:=aY.1 a;exact Aj
  exact Ai _ s a
structure Py(w1 wr:World)(u:Value)(k:N):Prop where
 low:Sw (Z w1.1) w1 wr
 ne:u≠X U 0 0
 own:Sx wr (Z w1.1) 2 1 u k ((List.replicate k (-1)).map (Si S6))
theorem Lj{V:N}{az:Option Addr}{n c:N}{a:List Xe}{em cp:N}{w:World}(ha:Q (Xp w em cp az a))(hx:Q (n=J a))(hs:Q (J a+Xx a<=1048576))(hB:cp<=Z w.1)(hv:Q (Ft (V:I) a=0))(fr:Q (XJ ⟨(V:I),a⟩=So))(K_:Q (Jy V a)):
 Sk prog 17 #[Sa #[Si S6 (V:I),X az n c]] w λs w'=>∃af g cap,YX (X8 a) n af/\s=Rt (Sa #[Si S6 0,X (S ⟨g,0,U⟩) V cap,Si S6 (NE (Kq (λ_=>-1) (Ko a V<|XT af n 0)) V)])/\Sw (Z w.1) w w'/\Z w.1<=g/\HK w' g V cap (Kq (λ_=>-1) (Ko a V<|XT af n 0)):=by
 have hn:n<=1000:=oP hx.o K_.1.2;have hV:=K_.2;have bv:=Y λW (B:Sw (Z w.1) w W)=>KT (V:I) c (Y<|ha.keep (B.mono hB)) hx hs (oN B.4);rw[hv.o]at bv;have cq:=Y λW (B:Sw (Z w.1) w W)=>I9 c (Y<|ha.keep (B.mono hB)) hx hs (oN B.4) fr;have c7:=Y λW (B:Sw (Z w.1) w W)=>qm c (Y<|ha.keep (B.mono hB)) hx (oN B.4) K_;obtain⟨i0,et,fc,fe,fi⟩:=Xq RH
 go_in
 go_wp2_with fail
 have ca:(λL_:World=>Sw (Z w.1) w L_/\Z w.1+2<=Z L_.1/\E L_ ⟨Z w.1,0,U⟩=S (Si S6 (V:I))/\E L_ ⟨Z w.1,1,U⟩=S (X az n c)/\Q (L_.1[Z w.1+1]?=S (Sc #[Si S6 0,X U 0 0,Si S6 0] 45))) (D (D w<|.cells #[Si S6 (V:I),X az n c] 40) (Sc #[Si S6 0,X U 0 0,Si S6 0] 45)):=⟨Xb (Xb Rf _) _,sP,SC,SC,(Y (by
  have:=World.alloc_heap_new (D w<|.cells #[Si S6 (V:I),X az n c] 40) (Sc #[Si S6 0,X U 0 0,Si S6 0] 45);rwa[aO]at this))⟩
 generalize D (D w _) _=w0 at*;obtain⟨cc,ka,c0,c1,c9⟩:=ca;refine(bv _ cc).mono ?_;rintro s z⟨rfl,aj⟩;have kb:=aj.4;have k0:=G (XU aj O) c0;have k1:=G (XU aj O) c1;have cr:=Y<|Xg cc aj;have ee:=Y<|G (aj.5 _ O) c9;clear cc aj c0 c1 bv c9;go_wp2_with fail
 have cx:Q (Py z (D z<|.cells #[] 2) (X (S ⟨Z z.1,0,U⟩) 0 0) 0):=Y ⟨Xb Rf _,sP,eI (base:=Z z.1) (e:=2) (size:=1) z #[] 0 sP sP R⟩;generalize D z _=w2 at*
 go_loopw [4,5] (λu i wr=>∃q:N,q<=V/\i=Si S6 q/\Q (Py z wr u q)) λ_ i _=>V-(intOf i).toNat
 case atStart=>exact⟨0,aN,R,cx⟩
 clear cx;obtain⟨q,hq,rfl,l⟩:=hrel;have cm:=G (XU l.1 O) k0;have cn:=G (XU l.1 O) k1;by_cases js:q<V
 .have j3:(q:I)<(V:I):=O;have e9:=l.1.4;go_wp2_with (at_builtin;refine bT _ R _ _ 35 R (Z z.1) 2 i0 (Si S6 0) 1 8 underlying35 et fc fe fi R vY _ _ _ R (l.3.alloc _) ⟨Z wr.1,0,U⟩ 1 1 [Si S6 (-1)] R R ?c1 ?c2 ?c3 ?c4 ?c5 ?_)
  case c1=>
   intro j u Y_
   match j,Y_ with
   |0,Y_=>simp at Y_;subst Y_;simp[Addr.add,go_sem]
  case c2=>intro u e;simp at e;subst e;rfl
  case c3=>unfold maxLen;omega
  case c4=>omega
  case c5=>simp;omega
  intro v1 u1 bd ao _ eo;have a7:Q (Py z u1 v1<|q+1):=Y (by
   refine⟨⟨G ao.1 l.1.1,G ao.2 l.1.2,G ao.3 l.1.3,aJ e9<|aJ sP ao.4,λb B=>?_⟩,λs=>?_,?_⟩;·exact G (ao.5 b SB λs=>by have:=(l.3.lt b s.symm).1;omega) (G (Below.heap_alloc _ _ _ O) (l.1.5 b B))
   .have:=bd.1;obtain⟨_,e2⟩|⟨g,cap,cur,e2,_⟩:=bd.2;·omega
    rw[s]at e2;cases e2
   simpa [List.replicate_succ']using bd)
  obtain⟨av,cv,fn⟩:∃av cv,v1=X av (q+1) cv:=by
   obtain⟨av,cv,K,_⟩:=Xk a7.3;rw[kN]at K;exact⟨av,cv,K⟩
  subst fn;clear bd ao eo cm cn;go_wp2;exact⟨⟨q+1,O,gM,a7⟩,SA⟩
 have fj:q=V:=O
 subst fj;have b0:=Y<|cr.trans (l.1.mono cr.4);have kn:=l.1.4;obtain⟨g,cap,rfl,i2,dd⟩:∃g cap,u4=X (S ⟨g,0,U⟩) q cap/\Z z.1<=g/\HK wr g q cap (λ_=>-1):=by
  have h1:=l.3;have h2:Sx wr (Z z.1) 2 1 u4 (J (List.replicate q (-1))) ((List.replicate q (-1:I)).map (Si S6)):=kN▸h1;obtain⟨g,cap,e1,e2,e3⟩:=HK.of_own h2 l.2;rw[kN]at e1 e3;exact⟨g,cap,e1,e2,e3.congr λi hi=>by rw[bF,mI,aU hi];rfl⟩
 have a6:=Y dd;have ef:=Y<|G (l.1.5 _ O) ee;clear dd l;go_wp2_with fail
 refine(cq _ b0).mono ?_;rintro s w3⟨af,a1,c1,a2,c2,a3,c3,a4,c4,rfl,S_,hP,dc⟩;have HP:=Y hP;have b1:=Y<|Xg b0 S_;have bq:=Y dc.o;have kc:=S_.4;have m0:=G (XU S_ O) cm;have m1:=G (XU S_ O) cn;have cw:=Y<|a6.of_block (S_.5 g a6.lt);have i3:=a6.lt;obtain⟨f,bc⟩:∃f,f=XT af n 0:=⟨_,R⟩;rw[<-bc]at bq;rw[<-bc];obtain⟨r,hm⟩:∃r,r=J f:=⟨_,R⟩;rw[<-hm];have br:=Y bc;have bn:=Y hm;have es:∀W,(Instr.field 81 (Sa #[X a1 n c1,X a2 n c2,X a3 n c3,X a4 r c4]) 3).run prog W=.ok (X a4 r c4) W:=λW=>vZ;have eg:=Y<|G (S_.5 _ O) ef;clear S_ hP dc cm cn a6 cq bc hm;go_wp2_with fail
 refine(c7 _ b1).mono ?_;rintro s w4⟨gO,cO,ga,rfl,L,i1,hG⟩;have O_:=Y<|Xg b1 L;have kd:=L.4;have n0:=G (XU L O) m0;have n1:=G (XU L O) m1;have ec:=Y<|bq.keep L;have dk:=Y<|ha.keep (O_.mono hB);have cs:Q (OC w4 w4 g q cap<|Kq (λ_=>-1) (Ko a q<|f.take 0)):=Y ⟨R,R,R,aA,O,λ_ _ _=>R,cw.of_block<|L.5 g O⟩;have eb:=Y n0;have a7:=Y n1;have dw:=Y hG;have ej:Q (∀ap∈f,ap<n):=Y (br.o▸λap fx=>(hx.o▸K_.1.re ap (Ji HP n 0 ap (Re.root) fx).2));have jv:r<=1000:=by
  have h1:=o9 HP (λap fs=>hx.o▸K_.1.re ap fs) n Re.root;rw[bn.o,br.o];omega
 have ei:=Y<|G (L.5 _ O) eg;clear L hG m0 m1 bq cw es n0 n1 c7 b1 b0;go_wp2
 go_loopw [8] (λi wx=>∃k:N,k<=r/\i=Si S6 k/\Q (OC w4 wx g q cap<|Kq (λ_=>-1) (Ko a q<|f.take k))) λi _=>r-(intOf i).toNat
 case atStart=>exact⟨0,aN,R,cs⟩
 clear cs;obtain⟨k,hk,rfl,h⟩:=hrel;by_cases dj:k<r
 .have ch:k<J f:=bn.o▸dj;have ez:k<J (Xi f):=by simpa [Xi]using ch
  obtain⟨b4,o4,rfl,L,e4⟩:=ec k ez;have cd:=ej _<|aH ch;have el:Q (f.take (k+1)=f.take k++[f[k]]):=Y (by rw[kJ,aC ch];rfl);rw[show(Xi f)[k]=((f[k]:N):I) by simp[Xi]]at e4;generalize f[k]=b at*;have J_:b<J a:=hx.o▸cd;obtain⟨bb,oo,rfl,ir,pa,pc,ia,ic,p0,p1,⟨t0,t1,t2,t3⟩,ck,cg⟩:=dk b J_;obtain⟨s0,_,s2⟩:=dw b cd;obtain⟨F,hX⟩:∃F,F=a[b]:=⟨_,R⟩;rw[<-hX]at p0 p1 t0 t1 t2 t3 ck cg;have P_:=Y hX;clear hX;rw[show J (Tu a b)=J F.2 by rw[Vt J_,P_.o]]at s0 s2;have f4:=h.cell O e4;have f0:=h.cell O p0;have f1:=h.cell O p1;have g0:=h.cell O t0;have g1:=h.cell O t1;have g2:=h.cell O t2;have g3:=h.cell O t3;have h0:=h.cell O eb;have h1:=h.cell O a7;have hS:=h.cell O s0;have ed:=Y ck;have ea:=Y cg;have da:=Y s2;have jl:(k:I)<(r:I):=O;have iv:(b:I)<(n:I):=O;clear e4 p0 p1 t0 t1 t2 t3 ck cg s0 s2;go_wp2_with fail
  refine M5 R (Y λ_ _ _ _ _ K=>K) f4 h1 f0 f1 g0 g1 g2 g3 dj cd (Y ?_);intro gq gr gs gt gv gz g4 g5 W6 al db;simp only[List.take_succ_cons,lK,List.drop_succ_cons,List.drop_zero,cW,dR];have a5:=Y db;clear db;have bf:=Y<|h.far al;have fz:=h.4;have i4:=oB al f4<|aI wr _ f4;have iS:=oB al hS<|aI wr _ hS;obtain⟨m,ce⟩:∃m,m=Z wr.1:=⟨_,R⟩;rw[<-ce]at a5 fz;rw[<-ce];have a9:m≠g:=O;clear al h f4 hS f0 f1 g0 g1 g2 g3 h0 h1 ce;obtain⟨M,b7⟩:∃M,M=Kq (λ_=>-1) (Ko a q<|f.take k):=⟨_,R⟩;rw[<-b7]at bf;have dn:=Y b7;clear b7;generalize wr=wv at*;go_wp2_with fail
  have c6:Q (OC w4 W6 g q cap<|Kq M (Ni a q b F 0)):=Y (by unfold Ni;simpa [Kq]using bf.o);obtain⟨P,cj⟩:∃r,r=J F.1:=⟨_,R⟩;obtain⟨t,ci⟩:∃r,r=J F.2:=⟨_,R⟩;rw[<-cj,<-ci]at a5;have cz:=Y cj;have bo:=Y ci;have e0:=K_.10 F (P_.o▸aH J_);have j1:P<=4000:=O;have j0:t<=4000:=O;clear cj ci e0 bf i4 iS
  go_loopw [11] (λi wx=>∃i':N,i'<=P/\i=Si S6 i'/\Q (OC w4 wx g q cap<|Kq M (Ni a q b F i'))/\Q (wx.rowIs m 71 6<|jo (X pa P pc) (X ia t ic) (Si S6 F.3.1) (Si S6 F.3.a) (Si S6 F.3.3) (Si S6 F.3.4))) λi _=>P-(intOf i).toNat
  case atStart=>exact⟨0,aN,R,c6,a5⟩
  clear c6 a5;obtain⟨i,hi,rfl,x,aa⟩:=hrel;have x0:Cl wr m 0 (X pa P pc):=aa.cell (i:=0) vY;have x1:Cl wr m 1 (X ia t ic):=aa.cell (i:=1) vY;by_cases df:i<P
  .have cf:i<J F.1:=cz.o▸df;obtain⟨pb,po,rfl,j2,ko,kq,d0,_,_⟩:=ed i cf;have cb:F∈a:=P_.o▸aH J_;have T_:=K_.8 F cb F.1[i] (aH cf);obtain⟨y,T⟩:=bX T_.1;have U_:y<q:=by have:=T_.2;rw[T]at this;omega
   have ac:=Y<|vW (xs:=a) (V:=q) (b:=b) cf T;rw[T]at d0;have y0:=x.cell O d0;obtain⟨b5,o5,e5,ep,a',c',s0,s1⟩:=da 0 sP;simp only[cM,dW]at s0 s1;injection e5 with e5;injection e5 with Q_ e7;subst Q_ e7;have a0:UU a q b 0=Xi (Uq a F q b 0):=P_.o▸TQ J_ q 0;rw[a0]at s0 s1;have bm:Q (∀u∈Uq a F q b 0,u<q):=Y (λu e=>by unfold Uq at e;exact bE.1 (fG.1 e).1);have en:J (Uq a F q b 0)<=q:=by unfold Uq;exact aJ (fJ _ _) sP
   generalize Uq a F q b 0=o at*;have y1:=x.cell O s0;obtain⟨ln,Z_⟩:∃ln,ln=J o:=⟨_,R⟩;rw[show J (Xi o)=J o by simp[Xi],<-Z_]at y1;have bl:=Y Z_;have e8:ln<=q:=O;clear Z_;obtain⟨C,R_⟩:∃C,C=Kq M (Ni a q b F i):=⟨_,R⟩;have bi:=Y R_;rw[<-R_]at x;have ar:=Y (λW (hW:Sw (Z wr.1) wr W)=>yH (S ⟨g,0,U⟩) cap C a' c' W (Y λu e=>⟨g,0,R,by rw[aV];exact oB hW (x.7.cell e) x.7.lt⟩) (Y (λj Y_=>by
    obtain⟨b6,o6,Q_,al,b3⟩:=s1 j (by simpa [Xi]using Y_);have h6:E w4 ⟨b6,o6+j,U⟩=S (Si S6 ((o[j]:N):I)):=by
     rw[b3];simp[Xi]
    have h7:=x.cell O h6;exact⟨b6,o6,Q_,oB hW h7<|aI wr _ h7⟩)) bl O bm)
   have yg:=x.7.cell U_;have yf:=x.7.frozen y;have jf:(i:I)<(P:I):=O;have er:(y:I)<(q:I):=O;have N_:Q (∀F_,Sw (Z wr.1) wr F_->OC w4 (Se F_ ⟨g,y,U⟩ (Si S6 (Nx C o:I))) g q cap (Kq M<|Ni a q b F (i+1))/\(Se F_ ⟨g,y,U⟩ (Si S6 (Nx C o:I))).rowIs m 71 6 (jo (X (S ⟨pb,po,U⟩) P pc) (X ia t ic) (Si S6 F.3.1) (Si S6 F.3.a) (Si S6 F.3.3) (Si S6 F.3.4))):=Y (λF_ h5=>by
    refine⟨?_,(aa.of_block<|h5.5 m aa.lt).setOther (by show m≠g;exact a9) _⟩;rw[ac.o,rl,<-bi.o];exact(x.far h5).put U_ _)
   clear d0 s0 s1 R_ T_ T a0;generalize Nx C o=sm at*;go_wp2_with fail
   refine M4 R (Y λ_ _ _ _ _ K=>K) x0 y0 y1 yg yf a9 O O df U_ (Y<|ar.o wr.drew (Rf).drew) (Y ?_);intro g6 g7 g8 g9 hc he hf hg hh hl hp ht hw hy;simp only[List.take_succ_cons,lK,List.drop_succ_cons,List.drop_zero,cW,dR];clear x0 x1 y0 y1 yg yf ar;go_wp2;exact⟨⟨i+1,O,gM,Y (N_.o wr.drew (Rf).drew).1,Y (N_.o wr.drew (Rf).drew).2⟩,SA⟩
  have eu:i=P:=O;subst eu;have bh:Q (OC w4 wr g q cap<|Kq M (Ni a q b F (J F.1))):=Y (by rw[<-cz.o];exact x);go_wp2_with fail
  clear x x0 x1;obtain⟨M_,b8⟩:∃M_,M_=Kq M (Ni a q b F (J F.1)):=⟨_,R⟩;rw[<-b8]at bh;have ds:=Y b8;clear b8;have c8:Q (OC w4 wr g q cap<|Kq M_ (VC a q b F 0)):=Y (by simpa [VC,Kq]using bh.o);generalize wr=wz at*
  go_loopw [12] (λj wx=>∃j':N,j'<=t/\j=Si S6 j'/\Q (OC w4 wx g q cap<|Kq M_ (VC a q b F j'))/\Q (wx.rowIs m 71 6<|jo (X pa i pc) (X ia t ic) (Si S6 F.3.1) (Si S6 F.3.a) (Si S6 F.3.3) (Si S6 F.3.4))) λj _=>t-(intOf j).toNat
  case atStart=>exact⟨0,aN,R,c8,aa⟩
  clear c8 aa bh;obtain⟨j,Y_,rfl,p,ab⟩:=hrel;have x0:Cl wr m 0 (X pa i pc):=ab.cell (i:=0) vY;have x1:Cl wr m 1 (X ia t ic):=ab.cell (i:=1) vY;by_cases di:j<t
  .have ba:j<J F.2:=by rw[<-bo.o];exact di
   obtain⟨ib,io,rfl,i6,o0,o1,_,_,_⟩:=ea j ba;have cb:F∈a:=by rw[P_.o];exact aH J_
   have y2:=p.cell O o0;have be:=p.cell O o1;have ad:=Y<|nZ F.2[j].1 wr;have jj:(j:I)<(t:I):=O;cases e:dB F.2[j].1 with
   |false=>
    rw[e]at ad;have ac:=Y<|xk (xs:=a) (V:=q) (b:=b) ba e;clear o0 o1 be;go_wp2_with fail
    refine ad.mono ?_;rintro s w5⟨rfl,cl⟩;subst cl;clear ad;go_wp2_with fail
    refine⟨?_,SA⟩
    first
     |exact⟨j+1,O,gM,Y (by rw[ac.o];exact p),ab⟩
     |((repeat apply gP);refine⟨?_,R⟩;exact⟨j+1,O,gM,Y (by rw[ac.o];exact p),ab⟩)
   |true=>
    rw[e]at ad;have T_:=K_.6 F cb F.2[j] (aH ba) F.2[j].2 (by unfold BW;rw[e];simp);obtain⟨y,T⟩:=bX T_.1;have U_:y<q:=by have:=T_.2;rw[T]at this;omega
    have ac:=Y<|q9 (xs:=a) (V:=q) (b:=b) ba e T;rw[T]at be;obtain⟨b5,o5,e5,ep,a',c',s0,s1⟩:=da (j+1) SB;simp only[cM,dW]at s0 s1;injection e5 with e5;injection e5 with Q_ e7;subst Q_ e7;rw[aV]at s0;have a0:UU a q b (j+1)=Xi (Uq a F q b<|j+1):=by rw[P_.o];exact TQ J_ q<|j+1
    rw[a0]at s0 s1;have bm:Q (∀u∈Uq a F q b (j+1),u<q):=Y (λu e=>by unfold Uq at e;exact bE.1 (fG.1 e).1);have en:J (Uq a F q b<|j+1)<=q:=by unfold Uq;exact aJ (fJ _ _) sP
    generalize Uq a F q b (j+1)=o at*;have y1:=p.cell O s0;obtain⟨ln,Z_⟩:∃ln,ln=J o:=⟨_,R⟩;rw[show J (Xi o)=J o by simp[Xi],<-Z_]at y1;have bl:=Y Z_;have e8:ln<=q:=O;clear Z_;obtain⟨C,R_⟩:∃C,C=Kq M_ (VC a q b F j):=⟨_,R⟩;have bi:=Y R_;rw[<-R_]at p;have ar:=Y (λW (hW:Sw (Z wr.1) wr W)=>yH (S ⟨g,0,U⟩) cap C a' c' W (Y λu e=>⟨g,0,R,by rw[aV];exact oB hW (p.7.cell e) p.7.lt⟩) (Y (λco hr=>by
     obtain⟨b6,o6,Q_,al,b3⟩:=s1 co (by simpa [Xi]using hr);have h6:E w4 ⟨b6,o6+co,U⟩=S (Si S6 ((o[co]:N):I)):=by
      rw[b3];simp[Xi]
     have h7:=p.cell O h6;exact⟨b6,o6,Q_,oB hW h7<|aI wr _ h7⟩)) bl O bm)
    have yg:=p.7.cell U_;have yf:=p.7.frozen y;have er:(y:I)<(q:I):=O;have N_:Q (∀F_,Sw (Z wr.1) wr F_->OC w4 (Se F_ ⟨g,y,U⟩ (Si S6 (Nx C o:I))) g q cap (Kq M_<|VC a q b F (j+1))/\(Se F_ ⟨g,y,U⟩ (Si S6 (Nx C o:I))).rowIs m 71 6 (jo (X pa i pc) (X (S ⟨ib,io,U⟩) t ic) (Si S6 F.3.1) (Si S6 F.3.a) (Si S6 F.3.3) (Si S6 F.3.4))):=Y (λF_ h5=>by
     refine⟨?_,(ab.of_block<|h5.5 m ab.lt).setOther (by show m≠g;exact a9) _⟩;rw[ac.o,rl,<-bi.o];exact(p.far h5).put U_ _)
    clear o0 o1 s0 s1 R_ T_ T a0 e;generalize Nx C o=sm at*;go_wp2_with fail
    refine ad.mono ?_;rintro s w5⟨rfl,cl⟩;subst cl;clear ad y2;go_wp2_with fail
    refine M6 R (Y λ_ _ _ _ _ K=>K) x1 be y1 yg yf a9 O O di U_ (oN bo.o) O (Y<|ar.o w5.drew (Rf).drew) (Y ?_);intro hz h3 h4 h8 h9 ih il gb gd ge gf gg gh gi gl gp;simp only[List.take_succ_cons,lK,List.drop_succ_cons,List.drop_zero,cW,dR];clear x0 x1 be y1 yg yf ar;go_wp2_with fail
    refine⟨?_,SA⟩
    first
     |exact⟨j+1,O,gM,Y (N_.o w5.drew (Rf).drew).1,Y (N_.o w5.drew (Rf).drew).2⟩
     |((repeat apply gP);refine⟨?_,R⟩;exact⟨j+1,O,gM,Y (N_.o w5.drew (Below.refl _ _).drew).1,Y (N_.o w5.drew (Below.refl _ _).drew).2⟩)
  have ev:j=t:=O
  subst ev;have ct:Q (Kq (λ_=>-1) (Ko a q<|f.take (k+1))=Kq M_ (VC a q b F j)):=Y (by
   rw[el.o,qT,zW,<-dn.o];unfold OV;rw[aC J_,<-P_.o];show Kq M (Ni a q b F (J F.1)++VC a q b F (J F.2))=_;rw[zW,<-ds.o,<-bo.o])
  clear x0;go_wp2_with fail
  refine⟨?_,SA⟩
  first
   |exact⟨k+1,O,gM,Y<|by rw[ct.o];exact p⟩
   |((repeat apply gP);refine⟨?_,R⟩;exact⟨k+1,O,gM,Y<|by rw[ct.o];exact p⟩)
 have ey:k=r:=O
 subst ey;have E_:Q (OC w4 wr g q cap<|Kq (λ_=>-1) (Ko a q f)):=Y (by
  have:=h.o;rw[bn.o,gC]at this;exact this)
 clear h;obtain⟨d,a8⟩:∃d,d=Kq (λ_=>-1) (Ko a q f):=⟨_,R⟩;rw[<-a8]at E_;have du:=Y a8;have ek:Q (∀u,-1<=d u/\d u<=(q:I)):=Y (by rw[a8];exact MS);clear a8;have aq:Q (wr.rowIs (Z w.1+1) 45 3 (OX (Si S6 0) (X U 0 0) (Si S6 0))):=Y ⟨_,G (E_.6 _ O O) ei,R,λi hi=>by match i,hi with|0,_=>rfl|1,_=>rfl|2,_=>rfl⟩;go_wp2
 go_loop [13,14] (λc i=>∃v:N,v<=q/\i=Si S6 v/\c=Si S6 (NE d v)) λ_ i=>q-(intOf i).toNat
 case atStart=>exact⟨0,aN,R,R⟩
 obtain⟨v,kk,rfl,rfl⟩:=hrel;have j4:=ek v;by_cases fa:v<q
 .have yv:=E_.7.cell fa;have kf:(v:I)<(q:I):=O;have kl:S6.wrap (d v+1)=d v+1:=by rw[dF];omega
  by_cases i5:NE d v<d v+1
  .have bp:Q (NE d (v+1)=d v+1):=Y (by rw[NE];omega);generalize NE d v=kv at*;generalize d v=cv at*;go_wp2;exact⟨⟨v+1,O,gM,by rw[bp.o]⟩,SA⟩
  have bp:Q (NE d (v+1)=NE d v):=Y (by rw[NE];omega);generalize NE d v=kv at*;generalize d v=cv at*;go_wp2;exact⟨⟨v+1,O,gM,by rw[bp.o]⟩,SA⟩
 have fq:v=q:=O;subst fq;have f5:=aq.cell (i:=0) vY;have f6:=aq.cell (i:=1) vY;have f7:=aq.cell (i:=2) vY;have lz:=aq.frozen;have fl:∀(W:World)(i j:N)(u:Value),i≠j->E (Se W ⟨Z w.1+1,i,U⟩ u) ⟨Z w.1+1,j,U⟩=E W ⟨Z w.1+1,j,U⟩:=λW i j u K=>cJ λs=>K<|fI Addr.off s;go_wp2_with fail
 clear f5 f6 f7 lz fl;have bt:Q ((Se (Se (Se wr ⟨Z w.1+1,0,U⟩ (Si S6 0)) ⟨Z w.1+1,1,U⟩ (X (S ⟨g,0,U⟩) v cap)) ⟨Z w.1+1,2,U⟩ (Si S6 (NE d v))).rowIs (Z w.1+1) 45 3 (OX (Si S6 0) (X (S ⟨g,0,U⟩) v cap) (Si S6 (NE d v)))):=Y ((((aq.set 0 _).set 1 _).set 2 _).congr (λi hi=>by match i,hi with|0,_=>rfl|1,_=>rfl|2,_=>rfl));have eq:Sw (Z w.1) w wr:=⟨G E_.1 O_.1,G E_.2 O_.2,G E_.3 O_.3,aJ O_.4 E_.4,λq' fb=>G (E_.6 q' (oN O_.4) O) (O_.5 q' fb)⟩;have ca:(λL_:World=>Q (Sw (Z w.1) w L_)/\Q (HK L_ g v cap d)) (Se (Se (Se wr ⟨Z w.1+1,0,U⟩ (Si S6 0)) ⟨Z w.1+1,1,U⟩ (X (S ⟨g,0,U⟩) v cap)) ⟨Z w.1+1,2,U⟩ (Si S6 (NE d v))):=⟨Y<|((eq.setCell gX _).setCell gX _).setCell gX _,(Y<|((E_.7.setOther (by show g≠Z w.1+1;omega) _).setOther (by show g≠Z w.1+1;omega) _).setOther (by show g≠Z w.1+1;omega) _)⟩;generalize (Se (Se (Se wr _ _) _ _) _ _)=w9 at*;obtain⟨dl,dz⟩:=ca;have r0:=bt.cell (i:=0) vY;have r1:=bt.cell (i:=1) vY;have r2:=bt.cell (i:=2) vY;simp only[OX]at r0 r1 r2;refine cC (v:=Sa #[Si S6 0,X (S ⟨g,0,U⟩) v cap,Si S6 (NE d v)]) (by simp[results,results17,go_sem,r0,r1,r2]) R ?_;refine⟨af,HP,g,cap,?_⟩;rw[<-br.o,<-du.o];exact⟨R,dl,O,dz⟩
theorem LT{v:I}{e:Option Addr}{n c:N}{a:List Xe}{L B:N}{w:World}(ha:Q (Xp w L B e a))(K:Q (n=J a))(F:Q (J a+Xx a<=1048576))(M:B<=Z w.1)(P:Ft v a≠0):
 Sk prog 17 #[Sa #[Si S6 v,X e n c]] w λf T=>f=Rt (Sa #[Si S6 (Ft v a),X U 0 0,Si S6 0])/\Sw (Z w.1) w T:=by
 have r:=Y λW (s:Sw (Z w.1) w W)=>KT v c (Y<|ha.keep (s.mono M)) K F (oN s.4);have P_:(Ft v a==0)=Sn:=by simpa using P
 generalize Ft v a=V at*
 go_in
 go_wp2_with fail
 have k:(λb:World=>Sw (Z w.1) w b/\Z w.1+2<=Z b.1/\Q (b.1[Z w.1+1]?=S (Sc #[H 0,Hq,H 0] 45))) (D (D w<|.cells #[H v,X e n c] 40) (Sc #[H 0,Hq,H 0] 45)):=⟨Xb (Xb Rf _) _,sP,(Y (by
  have:=World.alloc_heap_new (D w<|.cells #[H v,X e n c] 40) (Sc #[H 0,Hq,H 0] 45);rwa[aO]at this))⟩
 generalize D (D w _) _=R_ at*;let⟨l,Q_,q⟩:=k;refine(r _ l).mono ?_;rintro f p⟨rfl,m⟩;have z:=Y<|Xg l m;have d:Q (p.rowIs (Z w.1+1) 45 3 (OX (H 0) Hq (H 0))):=Y ⟨_,G (m.5 _ O) q,R,λi o=>by match i,o with|0,_=>rfl|1,_=>rfl|2,_=>rfl⟩;have J_:=d.cell (i:=0) vY;have K_:=d.cell (i:=1) vY;have M_:=d.cell (i:=2) vY;have N_:=d.frozen;have G_:∀(W:World)(i j:N)(y:Value),i≠j->E (Se W (A (Z w.1+1) i) y) (A (Z w.1+1) j)=E W (A (Z w.1+1) j):=λW i j y D_=>cJ λf=>D_<|fI Addr.off f;go_wp2_with fail
 have k:(λb:World=>Q (b.rowIs (Z w.1+1) 45 3 (OX (H V) Hq (H 0)))/\Q (Sw (Z w.1) w b)) (Se (Se (Se p (A (Z w.1+1) 0) (H V)) (A (Z w.1+1) 1) Hq) (A (Z w.1+1) 2) (H 0)):=⟨(Y<|(((d.set 0 _).set 1 _).set 2 _).congr (λi o=>by match i,o with|0,_=>rfl|1,_=>rfl|2,_=>rfl)),Y<|((z.setCell gX _).setCell gX _).setCell gX _⟩;generalize (Se (Se (Se p _ _) _ _) _ _)=S_ at*;let⟨h,A_⟩:=k;have t:=h.cell (i:=0) vY;have u:=h.cell (i:=1) vY;have x:=h.cell (i:=2) vY;simp only[OX]at t u x;exact cC (v:=Sa #[H V,Hq,H 0]) (by simp[results,results17,go_sem,t,u,x]) R ⟨R,A_⟩
end
structure TF(w:Ub)(L:N)(vals:Wo)(fl:Tm):Prop where
 len:J vals=J fl
 at_:∀(j:N)(h:j<J fl),∃a c,vals[j]?=S (X a (J fl[j]) c)/\Xf w L (Z w.1) a fl[j]
theorem TF.nil(w:Ub)(L:N):TF w L [] []:=⟨R,λj h=>Sz h sP⟩
theorem TF.app{v1 v2:Wo}{f1 f2:Tm}(a:TF w n v1 f1)(d:TF w n v2 f2):TF w n (v1++v2) (f1++f2):=by
 refine⟨by rw[aQ,aQ,a.1,d.1],λj f=>?_⟩;rw[aQ]at f;by_cases e:j<J f1
 .let⟨b,c,e1,e2⟩:=a.2 j e;refine⟨b,c,?_,?_⟩
  .rw[dL (by rw[a.1];exact e),fA e];exact e1
  rw[fA e];exact e2
 let⟨b,c,e1,e2⟩:=d.2 (j-J f1) O;refine⟨b,c,?_,?_⟩
 .rw[eV (by rw[a.1];omega),a.1,fN O];exact e1
 rw[fN O];exact e2
theorem Cc{f:Tj}(q:XR w n m (S ⟨k,0,U⟩) ((Rg B).map f))(s:m<=Z w.1):∃o:Wo,TF w n o ((Rg B).map f)/\(∀j u,o[j]?=S u->E w (A k j)=S u)/\∀u∈o,∃b t c,u=X b t c:=by
 have e:∀j,j<B->∃v:Uj,E w (A k j)=S v/\∃b c,v=X b (J (f j)) c/\Xf w n (Z w.1) b (f j):=λj a=>by
  let⟨x,C,g,z,b,c,i,p⟩:=q j (by simpa using a);simp only[cM,dW]at i p;injection g with g;injection g with e1 e2;subst e1 e2;rw[aV]at i;exact⟨_,i,b,c,R,p.mono aA s⟩
 refine⟨(Rg B).map λj=>if a:j<B then (e j a).choose else Hq,⟨sP,λj a=>?_⟩,λj u d=>?_,λu d=>?_⟩
 .have l:j<B:=by simpa using a
  let⟨y,b,c,h,r⟩:=(e j l).choose_spec;refine⟨b,c,?_,?_⟩
  .rw[dX,iQ l];simp only[jY,l,dif_pos,cM,dW];rw[h]
  simp only[cM,dW];exact r
 .by_cases a:j<B
  .rw[dX,iQ a]at d;simp only[jY,a,dif_pos]at d;injection d with d;rw[<-d];exact(e j a).choose_spec.1
  rw[dK<|by simp;omega]at d;cases d
 obtain⟨j,a,rfl⟩:=aY.1 d;have a:=bE.1 a;simp only[a,dif_pos];let⟨_,b,c,h,_⟩:=(e j a).choose_spec;exact⟨b,_,c,h⟩
structure PS(w2 wr:Ub)(b0 L:N)(u:Uj)(fl:Tm):Prop where
 os:wr.4=w2.4
 tape:wr.2=w2.2
 output:wr.5=w2.5
 size:Z w2.1<=Z wr.1
 fr:∀q,q<Z w2.1->q≠b0->wr.1[q]?=w2.1[q]?
 ob:∀q,u.ownBlock=S q->q=b0\/Z w2.1<=q
 own:∃vals:Wo,TF w2 L vals fl/\Sx wr b0 89 1 u (J fl) vals
theorem PS.push{wr:Ub}{u':Uj}{c f2:Tm}{v2:Wo}(h:PS w wr n m a c)(k:TF w m y c)(f:TF w m v2 f2)(b:wr.grownBy v a.ownBlock)(j:Sx v n 89 1 u' (J c+J f2) (y++v2))(i:u'.ownBlock=a.ownBlock\/u'.ownBlock=S (Z wr.1)):PS w v n m u' (c++f2):=by
 have l:=h.4;refine⟨G b.1 h.1,G b.2 h.2,G b.3 h.3,aJ h.4 b.4,λq d g=>G (b.5 q O λe=>by obtain e|e:=h.6 q e.symm<;>omega) (h.5 q d g),λq e=>?_,_,k.app f,by rw[aQ];exact j⟩;obtain e1|e1:=i;·exact h.6 q<|G e1.symm e
 rw[e1]at e;injection e with e;exact aZ O
theorem vg(a:Jy n x)(b:N):J (Ns x n b)<=b*4001:=by
 induction b with
 |zero=>simp[Ns]
 |succ b c=>
  rw[Ve,aQ];have:=oX a b;simp;omega
theorem A9(c:N)(ha:Q (Xp w k B p x))(L:Q (m=J x))(hB:B<=Z w.1)(o:Q (Jy n x)):
 Sk prog 94 #[Sa #[H n,X p m c]] w λf F=>∃V cc,f=Rt (Hl V (J (Ns x n m)) cc)/\Sw (Z w.1) w F/\XR F (Z w.1) (Z F.1) (S ⟨V,0,U⟩) (Ns x n m):=by
 have hn:m<=1000:=oP L.o o.1.2;have a9:0<m:=oP L.o o.1.1;let⟨i0,ar,a1,a2,a3⟩:=Xq Qd;have t:Sw (Z w.1) w (D (D w<|.cells #[H n,X p m c] 40) (Sc #[] 89)):=Xb (Xb Rf _) _;have ap:E (D (D w<|.cells #[H n,X p m c] 40) (Sc #[] 89)) (A (Z w.1) 0)=S (H n):=by simp[go_sem]
 have aq:E (D (D w<|.cells #[H n,X p m c] 40) (Sc #[] 89)) (A (Z w.1) 1)=S (X p m c):=by simp[go_sem]
 have C:Sx (D (D w<|.cells #[H n,X p m c] 40) (Sc #[] 89)) (Z w.1+1) 89 1 (Hl (Z w.1+1) 0 0) 0 []:=by
  have h:=eI (base:=Z w.1+1) (e:=89) (size:=1) (D w<|.cells #[H n,X p m c] 40) #[] 0 sP sP R;rw[aO]at h;exact h
 go_in
 go_wp2_with fail
 generalize D (D w _) _=y at*;have bb:Z w.1+1<Z y.1:=(C.lt _ R).2;have W:=Y<|qm c (Y<|ha.keep (t.mono hB)) L (oN t.4) o;refine W.mono ?_;rintro f i⟨gO,cO,K,rfl,v,a7,P⟩;have Y_:=Y P;have bc:=v.4;have l:=Y<|Xg t v;have H_:Q (PS i i (Z w.1+1) (Z y.1) (Hl (Z w.1+1) 0 0) (Ns x n 0)):=Y ⟨R,R,R,aA,λ_ _ _=>R,λq f=>bC (by injection f with f;exact f.symm),[],by
  have h:=TF.nil i (Z y.1);exact h,by
  have h:=rk C v;exact h⟩
 have X_:Q (∀b,b<=m->J (Ns x n b)<=4001000):=Y (λb R_=>by have:=vg o b;have:b*4001<=1000*4001:=jI _ O;omega);clear v P W C t ap aq;go_wp2
 go_loopw [3,5] (λu s wr=>∃b:N,b<=m/\s=H b/\Q (PS i wr (Z w.1+1) (Z y.1) u (Ns x n b))) λ_ s _=>m-(intOf s).toNat
 case atStart=>exact⟨0,aN,R,H_⟩
 clear H_;obtain⟨b,R_,rfl,a⟩:=hrel;by_cases az:b<m
 .let⟨M,h2,O_⟩:=Y_ b az;let⟨V_,v1,v2,v3⟩:=Cc O_<|aA;have L_:=Y v1;let⟨a4,r,d⟩:=a.7;have HV:=Y r;have ac:=Y d;have K_:=Y<|Ve x n b;have a5:=X_ b R_;have a6:=oX o b;have T_:J V_=J (Tu x b)+1:=by rw[v1.1];simp
  have eO:=G (Xc<|a.5 gO (aI i _ M) O) M;have W_:=Y λj u g=>G (Xc<|a.5 (K b) (aI i _<|v2 j u g) O) (v2 j u g);have ad:=Y v3;have ba:=a.4;let⟨e,T⟩:∃e,e=J (Tu x b)+1:=⟨_,R⟩;rw[<-T]at eO T_ K_;have a8:e<=4001:=O;have aa:Q (J ((Rg e).map (UU x n b))=e):=Y sP;rw[<-T]at L_;clear r d v1 v2 v3 M h2 O_ T;go_wp2_with (at_builtin;refine bT _ R _ _ 78 R (Z w.1+1) 89 i0 (Sa #[Hq]) 1 24 underlying78 ar a1 a2 a3 R vY _ _ _ R ac (A (K b) 0) e e V_ R (by rw[T_,iN]) ?c1 ?c2 ?c3 ?c4 ?c5 ?_)
  case c1=>
   intro j u g;have e2:((A (K b) 0):Addr).add j=(A (K b) j):=by rw[mK];simp
   rw[e2];exact W_ j u g
  case c2=>
   intro u hu;obtain⟨_,_,_,rfl⟩:=ad u hu;rfl
  case c3=>unfold maxLen;omega
  case c4=>omega
  case c5=>omega
  intro v8 w8 U_ S_ _ Q_;have I_:=Y (a.push HV L_ S_ (by rw[aa.o];exact U_) Q_);rw[<-K_.o]at I_;clear U_ S_ Q_;go_wp2;exact⟨⟨b+1,O,gM,I_⟩,SA⟩
 have al:m=b:=O
 subst al;let⟨a4,r,d⟩:=a.7;have a0:0<J (Ns x n m):=by
  obtain⟨q,rfl⟩:∃q,m=q+1:=⟨m-1,O⟩;rw[Ve];simp;omega
 obtain⟨z,c8,rfl,_,_⟩:=Xm d a0;have Z_:Q (XR wr (Z w.1) (Z wr.1) (S ⟨z,0,U⟩) (Ns x n m)):=Y (λj g=>by
  let⟨aj,cj,e1,e2⟩:=r.2 j g;refine⟨z,0,R,⟨oN<|(d.lt _ R).1,(d.lt _ R).2⟩,aj,cj,by rw[aV];exact Jj d e1,λs hi=>?_⟩;let⟨M_,o',e3,af,ao⟩:=e2 s hi;exact⟨M_,o',e3,⟨O,oN a.4⟩,G (Xc<|a.5 M_ af.2 O) ao⟩)
 have ab:=Y (show Sw (Z w.1) w wr from⟨G a.1 l.1,G a.2 l.2,G a.3 l.3,oP l.4 a.4,λq hq=>G (a.5 q O O) (l.5 q hq)⟩);clear r d;go_wp2;go_ret;exact⟨z,c8,R,ab,Z_⟩
theorem ut(h:n<J l):NG l n=l[n]:=by
 unfold NG;rw[bF,aC h];rfl
theorem DE(ha:n<J L)(e:L[n]=(m:I)):UM l L n=NG l m:=by
 unfold UM;rw[bF,aC ha,gR,e];rfl
theorem MF(X_:Uy)(s c:N)(bh aq:N)(d cc:N)(ha:Q (Xp w bh aq X_ x))(g:Q (s=J x))(hs:Q (J x+Xx x<=1048576))(hB:aq<=Z w.1)(hc:Q (Xf w n m p l))(ad:Q (d=J l))(b8:m<=Z w.1)(ck:d<=1048576)(hq:Q (Pm t x l T)):
 Sk prog 47 #[Sa #[H t,X X_ s c],X p d cc,H T] w λM w'=>M=Rt (Sb So)/\Sw (Z w.1) w w':=by
 have V_:=Y λW (K_:Sw (Z w.1) w W)=>KT t c (Y<|ha.keep (K_.mono hB)) g hs (oN K_.4);rw[hq.1]at V_
 go_in
 go_wp2_with fail
 refine(V_ _<|Xb Rf _).mono ?_;rintro M v⟨rfl,L⟩;let⟨ac,bn⟩:=NC L;have k0:E v (A (Z w.1) 0)=S (H t):=by rw[ac _ _ sP];simp
 have k1:E v (A (Z w.1) 1)=S (X X_ s c):=by rw[ac _ _ sP];simp
 have G_:=Y<|Xg (Xb (Below.refl (Z w.1) w) _) L;have co:Z w.1+1<=Z v.1:=by have:=L.4;simp at this;omega
 clear ac bn L V_;let⟨a8,ci,cj,a6,a3,bt⟩:=hq.o;obtain rfl:t=(d:I):=by rw[<-a6,ad.o]
 have I_:=Y<|XH (pM a8);have ba:=Y a3;clear a8 a6 a3 bt;have cn:((d:I) != (d:I))=Sn:=sP;have ce:=I_.2;have az:Q (∀W,Sw (Z v.1) v W->∀(q:N)(aa:q<d),∃b o,p=S (A b o)/\E W (A b<|o+q)=S (H<|NG l q)):=Y (λW hW q hq=>by
  have P:q<J l:=by rw[<-ad.o];exact hq
  let⟨b,o,M,K_,aa⟩:=hc q P;refine⟨b,o,M,?_⟩;rw[ut P];exact oB hW (G (XU G_ O) aa) O)
 have ar:=Y<|A9 c (Y<|ha.keep (G_.mono hB)) g (oN G_.4) I_;go_wp2
 go_loop [7] (λi=>∃q:N,q<=d/\i=H q) λi=>d-(intOf i).toNat
 case atStart=>exact⟨0,aN,R⟩
 obtain⟨q,cm,rfl⟩:=hrel;by_cases a4:q<d
 .obtain⟨b,o,rfl,e0⟩:=az v Rf q a4;have P:q<J l:=by rw[<-ad.o];exact a4
  have hC:=ba _<|aH P;rw[<-ut P]at hC;let⟨ca,cb⟩:=hC;generalize NG l q=b5 at*;have cl:(q:I)<(d:I):=O;go_wp2;exact⟨⟨q+1,O,gM⟩,SA⟩
 obtain rfl:q=d:=O;go_wp2_with fail
 refine ar.mono ?_;rintro M e⟨gA,cA,rfl,M_,ab⟩;have a9:=Y<|Xg G_ M_;have a0:Q (∀W,Sw (Z e.1) e W->∀(u:N)(aa:u<q),∃b o,p=S (A b o)/\E W (A b<|o+u)=S (H<|NG l u)):=Y λW hW=>az W<|M_.trans (hW.mono M_.4);let⟨a,f⟩:∃a,a=Ns x q s:=⟨_,R⟩;have bd:=Y f;rw[<-f]at ab;rw[<-f];let⟨K,k⟩:∃K,K=J a:=⟨_,R⟩;have b6:=Y k;rw[<-k];have cd:K<=4001000:=by
  have h1:=vg I_ s;have h2:=I_.1.2;have h3:=g.o;have h4:s*4001<=1000*4001:=jI _ O;rw[<-f]at h1;omega
 have be:Q (∀y,Sw (Z e.1) e y->∀i,i<K->∃h C,E y (A gA i)=S (X h (J (a.getD i [])) C)/\∀j,j<J (a.getD i [])->∃B F u,h=S (A B F)/\u<q/\E y (A B<|F+j)=S (H ((u:N):I))/\UM l (a.getD i []) j=NG l u):=Y (λy Q_ i O_=>by
  have r:i<J a:=by rw[<-k];exact O_
  let⟨Y_,o',Z_,bi,h,C,a1,bo⟩:=ab i r;injection Z_ with Z_;injection Z_ with e1 e2;subst e1 e2;rw[aV]at a1;have af:a.getD i []=a[i]:=by rw[bF,aC r];rfl
  rw[af];have bv:=tD (xs:=x) (V:=q) (l:=a[i]) (by rw[<-g.o,<-f];exact aH r);refine⟨h,C,oB Q_ a1 bi.2,λj P_=>?_⟩;let⟨B,F,e3,bl,a2⟩:=bo j P_;let⟨u,hu,eu⟩:=bv.2 _<|aH P_;rw[eu]at a2;exact⟨B,F,u,e3,hu,oB Q_ a2 bl.2,DE P_ eu⟩)
 have bf:Q (∀i,i<K->J (a.getD i [])<=q):=Y (λi O_=>by
  have r:i<J a:=by rw[<-k];exact O_
  have af:a.getD i []=a[i]:=by rw[bF,aC r];rfl
  rw[af];exact(tD (xs:=x) (V:=q) (l:=a[i]) (by rw[<-g.o,<-f];exact aH r)).1)
 have bb:Q (∀i j b,i<K->j<J (a.getD i [])->b<j->UM l (a.getD i []) j≠UM l (a.getD i []) b):=Y (λi j b h1 h2 h3 h4=>(Dm (i:=i) (a:=j) (b:=b) (l:=a.getD i []) (by rw[f,g.o];rfl) (by rw[show((q:I)).toNat=q from R,<-g.o,<-f,<-k];exact h1) h2 h3 h4) hq);clear M_ ab ar f k bd;go_wp2
 go_loopw [9] (λi wr=>∃i':N,i'<=K/\i=H i'/\Q (Sw (Z e.1) e wr)) λi _=>K-(intOf i).toNat
 case atStart=>exact⟨0,aN,R,Y<|Rf⟩
 obtain⟨i,O_,rfl,R_⟩:=hrel;by_cases ao:i<K
 .have J_:=Y λy Q_=>be y Q_ i ao;have S_:=Y λj b=>bb i j b ao;have a7:=bf i ao;let⟨b1,al⟩:∃ap,ap=a.getD i []:=⟨_,R⟩;rw[<-al]at S_ a7;simp only[<-al]at J_;let⟨ln,aj⟩:∃ap,ap=J b1:=⟨_,R⟩;rw[<-aj]at S_ a7;simp only[<-aj]at J_;clear al aj;have cg:(i:I)<(K:I):=O;go_wp2
  go_loopw [10] (λj wr=>∃j':N,j'<=ln/\j=H j'/\Q (Sw (Z e.1) e wr)) λj _=>ln-(intOf j).toNat
  case atStart=>exact⟨0,aN,R,R_⟩
  clear R_;obtain⟨j,P_,rfl,H_⟩:=hrel;let⟨h,C,x1,z⟩:=J_ wr H_;by_cases a5:j<ln
  .have ch:(j:I)<(ln:I):=O;clear z;go_wp2_with fail
   clear x1
   go_loopw [11] (λb wr=>∃Y_:N,Y_<=j/\b=H Y_/\Q (Sw (Z e.1) e wr)) λb _=>j-(intOf b).toNat
   case atStart=>exact⟨0,aN,R,H_⟩
   clear H_;obtain⟨b,K_,rfl,V⟩:=hrel;by_cases br:b<j
   .let⟨h,C,x1,z⟩:=J_ wr V;obtain⟨B,F,u1,rfl,bx,y1,q1⟩:=z j a5;let⟨b4,o4,u2,e4,b0,y2,q2⟩:=z b O;injection e4 with e4;injection e4 with e5 e6;subst e5 e6;obtain⟨bc,oc,rfl,z1⟩:=a0 wr V u1 bx;let⟨b7,cp,e7,z2⟩:=a0 wr V u2 b0;injection e7 with e7;injection e7 with e8 e9;subst e8 e9;have U_:=S_ j b a5 br;rw[q1,q2]at U_;clear q1 q2 z;generalize NG l u1=c1 at*;generalize NG l u2=c2 at*;have i1:(b:I)<(ln:I):=O;have i2:(u1:I)<(q:I):=O;have i3:(u2:I)<(q:I):=O;have i4:(b:I)<(j:I):=O;have cf:(c1==c2)=Sn:=by rw[iS];exact U_
    clear U_;go_wp2_with fail
    go_quiet (fail)
    go_wp2;exact⟨⟨b+1,O,gM,Y<|iX V _⟩,SA⟩
   have bm:b=j:=O;subst bm;go_wp2;exact⟨⟨b+1,O,gM,V⟩,SA⟩
  have bq:j=ln:=O;subst bq;clear z;go_wp2;exact⟨⟨i+1,O,gM,H_⟩,SA⟩
 have bp:i=K:=O;subst bp;go_wp2;go_ret;exact⟨R,Xg a9 R_⟩
theorem EH:0<NO f n↔∃x,x<64*n/\Xh f x=So:=by
 unfold NO;rw[nC];constructor;·rintro⟨x,a,b⟩;exact⟨x,bE.1 a,b⟩
 rintro⟨x,a,b⟩;exact⟨x,bE.2 a,b⟩
theorem Dq(x y:Uj)(W:Ub):(Instr.field 116 (Sa #[x,y]) 0).run prog W=.ok x W:=vZ
theorem Te(v:I)(a c:N)(ha:Q (Xp w n m p x))(f:Q (a=J x))(hs:Q (J x+Xx x<=1048576))(L:m<=Z w.1)(y:Q (Yy w))(z:Q (Yb w)):
 Sk prog 26 #[Sa #[H v,X p a c]] w λe w'=>e=Rt (H<|Ft v x)/\Sw (Z w.1) w w':=by
 have k:=Y λW (F:Sw (Z w.1) w W)=>JK v p a c x n m W (Y<|ha.keep (F.mono L)) f hs (oN F.4) (Y (y.keep F y.1).old) (Y (z.keep F z.1).old);cases hv:XJ ⟨v,x⟩with
 |false=>
  rw[hv]at k;rw[Uh hv];clear hv
  go_in
  go_wp2_with fail
  refine(k _<|Xb Rf _).mono ?_;rintro e w1⟨rfl,g⟩;have M:=Y<|Xg (Xb (Below.refl (Z w.1) w) _) g;clear g k;go_wp2;go_ret;exact⟨R,M⟩
 |true=>
  rw[hv]at k;have P:=Y hv;have az:0<=v:=by
   simp only[XJ,Y6,bY,bD]at hv;omega
  obtain⟨V,rfl⟩:=bX az;have d:=Y<|XH hv;have hn:a<=1000:=oP f.o d.1.2;have s:0<a:=oP f.o d.1.1;have a9:a<=64*((a+63)/64):=O;have ba:(a+63)/64<=100:=O;generalize a0:Ft (V:I) x=T;have J_:=Y a0;clear hv az a0
  go_in
  go_wp2_with fail
  have M_:Sw (Z w.1) w (D w<|.cells #[H V,X p a c] 40):=Xb Rf _;have al:E (D w<|.cells #[H V,X p a c] 40) (A (Z w.1) 0)=S (H V):=sP;have ao:E (D w<|.cells #[H V,X p a c] 40) (A (Z w.1) 1)=S (X p a c):=sP;have K:Z w.1<Z (D w<|.cells #[H V,X p a c] 40).1:=sP;refine(k _ M_).mono ?_;rintro e w1⟨rfl,g⟩;have M:=Y<|Xg M_ g;have g0:=oB g al K;have g1:=oB g ao K;have a1:=aX K g.4;clear g M_ al ao K k;go_wp2_with fail
  refine(Ki (V:I) p c hn).mono ?_;rintro e S_⟨K_,gS,rfl,bi,bn,r,ar⟩;have j:=Y<|Xg M r;have ab:=Y ar;have k0:=oB r g0 a1;have k1:=oB r g1 a1;have bp:=r.4;have a6:Q (∀b∈x,∀a4∈b.3.tg,0<=a4/\a4<(a:I)):=Y (by rw[f.o];exact d.1.3);have ac:=Y (VY K_ gS (Z S_.1) c p n m f hn a9 ba O O O a6 a 0 (λ_=>0) Hq [] S_ ab (Y<|ha.keep (j.mono L)) s (Y<|ZA _ _) (Y JW) (by simpa using ZA (λ_=>0) a));clear r ar g0 g1;go_wp2_with fail
  refine ac.mono ?_;rintro e q⟨rfl,v',i,aq⟩;have o:Sw (Z w.1) w q:=⟨G i.1 j.1,G i.2 j.2,G i.3 j.3,aJ j.4 i.4,λa3 hq=>G (i.5 a3 O O O λe=>by cases e) (j.5 a3 hq)⟩;have N_:=i.5 (Z w.1) O O O (λe=>by cases e);have m0:=G (Xc N_) k0;have m1:=G (Xc N_) k1;have P_:YW q K_ gS (Z S_.1) ((a+63)/64) p a c (Zp x).1 v' (Zp x).2:=by
   unfold Zp;rw[<-f.o];exact aq
  let⟨q1,q2,q3,q4⟩:=d.1.top;have F_:=Y<|uQ d.1 (F:=Ja x) q3 q1;have ap:J (Ja x)=J (Zp x).2:=by unfold Ja;rw[jQ]
  have O_:=P_.6;rw[show Je (Zp x).2=(Xi (Zp x).2).map (Si S6) by simp[Je,Xi]]at O_;let⟨aL,cL,eL,_⟩:=Xk O_;have s2:E q (A K_ 2)=S (X aL (J (Ja x)) cL):=by
   have l:=P_.3;rw[eL,show J (Xi (Zp x).2)=J (Ja x) by rw[ap];simp[Xi]]at l;exact l
  have G_:=Y o;let⟨Q_,t⟩:∃bd,bd=J (Ja x):=⟨_,R⟩;rw[<-t]at s2;have bf:=Y t;have bo:Q_<=a:=by rw[t,f.o];exact F_.1
  have U_:Q (Q_=a↔Jq x):=Y (by rw[t,f.o];exact F_.2);have aa:=Y<|KO V p a c x n m q.drew (Y<|ha.keep (o.drew.mono L)) f (oN o.drew.4) d (Y<|y.keep o.drew y.1) (Y<|z.keep o.drew z.1);have bq:Z w.1<Z q.1:=aI q _ m0;clear i aq P_ o N_ O_ eL ap t q1 q2 q3 q4 k0 k1 ac ab F_;by_cases bc:Q_<a
  .have HR:Q (T=10):=Y (by rw[<-J_.o];exact t9 P λl=>by have:=U_.2 l;omega);go_wp2_with fail
   go_region;go_wp2;go_ret;exact⟨by rw[HR.o];rfl,G_.drew⟩
  have T_:=Y<|U_.1 O;have bm:=λb be W=>Dq b be W;go_wp2_with fail
  go_region;go_wp2_with fail
  refine aa.mono ?_;rintro e w4⟨Gi,Go,gi,go,ci,u,WX,rfl,h⟩;have bh:=Y h;have x0:=h.2.1.cell s;have hV:=d.2;have Z_:=Y<|Kl (gi 0) ((V+63)/64) (ci 0) (u 0) w4 (Y<|h.4 0) (Y<|h.2.2 0 s) O;have bl:=TB (u 0) ((V+63)/64);have a5:=Y<|G_.drew.trans (h.1.mono G_.drew.4);have Y_:Q (0<NO (u 0) ((V+63)/64)↔∃b,N4 x b):=Y (by
   let⟨a7,a8,W0,a2,h1,h2,h3,h4,h5,_⟩:=h.8;have af:∀{b:N},Sp a7 a8 (·∈a2) (X8 x) 0 b↔N4 x b:=λ{b}=>EX d h1 h2 h3 (ord:=(·∈a2)) h4 (src:=X8 x) λ_ _=>R;rw[EH];constructor
   .rintro⟨b,B,C⟩;exact⟨b,af.1<|(h5 0 s b B).1 C⟩
   rintro⟨b,B⟩
   have bc:=wH d B;have C:b<64*((V+63)/64):=O;exact⟨b,C,(h5 0 s b C).2 (af.2 B)⟩)
  clear h aa;generalize bb:NO (u 0) ((V+63)/64)=cc at*;clear bb;generalize (V+63)/64=K4 at*;go_wp2_with fail
  refine Z_.mono ?_;rintro e w5⟨rfl,ad⟩;have X_:=Y<|Xg a5 ad;clear ad Z_ x0;by_cases aj:0<cc
  .have H_:Q (T=11):=Y (by rw[<-J_.o];exact qg P T_<|Y_.1 aj);go_wp2;go_ret;exact⟨by rw[H_.o];rfl,X_⟩
  have H_:Q (T=0):=Y (by rw[<-J_.o];exact uP P T_ λl=>aj<|Y_.2 l);go_wp2;go_ret;exact⟨by rw[H_.o];rfl,X_⟩
structure ZH(M:Vv)(U_ U':Ub):Prop where
 os:U'.4=U_.4
 tape:U'.2=U_.2
 output:U'.5=U_.5
 size:Z U_.1<=Z U'.1
 fr:∀q,q<Z U_.1->¬M q->U'.1[q]?=U_.1[q]?
theorem ZH.refl(M:Vv)(b:Ub):ZH M b b:=⟨R,R,R,aA,λ_ _ _=>R⟩
theorem ZH.trans(h:ZH d w v)(k:ZH d v u):ZH d w u :=
 ⟨G k.1 h.1,G k.2 h.2,G k.3 h.3,aJ h.4 k.4,λq a b=>G (k.5 q (aX a h.4) b) (h.5 q a b)⟩
theorem ZH.of_below{M:Vv}(h:Sw (Z w.1) w v):ZH M w v:=⟨h.1,h.2,h.3,h.4,λq a _=>h.5 q a⟩
theorem ZH.of_grown(h:w.grownBy v (S n))(c:d n):ZH d w v:=⟨h.1,h.2,h.3,h.4,λq a b=>h.5 q a λe=>b<|by injection e with e;rw[e];exact c⟩
theorem ZH.set{M:Vv}(h:Ub)(p:Addr)(v:Uj)(b:M p.1):ZH M h (Se h p v):=⟨R,R,R,SH,λq _ a=>Below.heap_setCell _ _ _ _ λe=>a<|by rw[e];exact b⟩
theorem ZH.cell(h:ZH d w v){p:Addr}(c:¬d p.1)(b:E w p=S a):E v p=S a:=G (bZ<|h.5 _ (aI w _ b) c) b
structure Oy(V cap gp go bo bp bc bv:N)(C:Ym)(U_:Ub):Prop where
 row:HK U_ gp V cap C
 o:HK U_ go V V λu=>if C u=-1 then 0 else C u
 box:U_.rowIs bo 45 3 (OX (Si S6 0) (X (S ⟨go,0,U⟩) V V) (Si S6 (NE C V)))
 Pz:E U_ ⟨bp,0,U⟩=S (.func (.func 136) #[] #[Sj (S ⟨bc,0,U⟩),Sj (S ⟨bv,0,U⟩)])
 cc:E U_ ⟨bc,0,U⟩=S (X (S ⟨gp,0,U⟩) V cap)
 cv:E U_ ⟨bv,0,U⟩=S (Si S6 (V:I))
 rng:∀u,u<V->C u=-1\/0<=C u/\C u<V
 n1:gp≠go
 n2:bo≠gp/\bo≠go
 n3:bp≠gp/\bp≠go/\bp≠bo
 n4:bc≠gp/\bc≠go/\bc≠bo
 n5:bv≠gp/\bv≠go/\bv≠bo
def PJ(b go a q:N):Prop:=q=b\/q=go\/q=a
theorem Oy.far{go:N}{C:Ym}(h:Oy n m k go B g i j C w)(a:Sw (Z w.1) w v):Oy n m k go B g i j C v :=
 ⟨h.1.of_block<|a.5 _ h.1.lt,h.o.of_block<|a.5 _ h.o.lt,h.3.of_block<|a.5 _ h.3.lt,oB a h.4<|aI w _ h.4,oB a h.5<|aI w _ h.5,oB a h.6<|aI w _ h.6,h.7,h.8,h.9,h.n3,h.n4,h.n5⟩
theorem El{go y P T:N}{C:Ym}(V:Q (Cp w k B g f))(aa:Q (XA f))(K:Q (Jn w))(hK:B<=100)(L:Q (N1 m B f))(X_:m<=2000)(a:Q (Oy m i j go c y P T C w))(q:n<m)(F:Q (C n=-1)):
 Sk prog 69 #[H n,Sa #[Hl k B g],Hn y,Hn c] w λe W=>e=Rt (St #[])/\ZH (PJ j go c) w W/\Oy m i j go c y P T (Nn C (n,Mq f<|64*B)) W:=by
 have G_:=Y λW_ (o:Sw (Z w.1) w W_)=>Dl (Y<|V.of_block (o.5 k V.lt)) aa (Y<|K.of_block (o.5 _<|aI w _ (K 0 vY))) hK L X_ (Y (a.far o).1) (Y a.7) q F (a.far o).5 (a.far o).6 a.n4.1;have eg:∀args w,(callFunc 136 args).run prog w=.ok (.enter 136 args) w:=enters_of func136 vZ R;have c1:=a.4;have l1:=aI w _ c1;have H_:=Y<|wI (oa C _).2 (wQ L) q F;have V_:Q (∀u,u<m->Nn C (n,Mq f<|64*B) u=-1\/0<=Nn C (n,Mq f<|64*B) u/\Nn C (n,Mq f<|64*B) u<m):=Y (λu Z_=>by
  unfold Nn;by_cases e:u=n
  .rw[aU e]
   right;have:=H_.o;show 0<=((Nx C (Mq f<|64*B):N):I)/\((Nx C (Mq f<|64*B):N):I)<m;omega
  rw[aM e];exact a.7 u Z_)
 have S_:Q (∀u,(λu=>if u=n then (Nx C (Mq f<|64*B):I)else (if C u=-1 then 0 else C u)) u=(λu=>if Nn C (n,Mq f<|64*B) u=-1 then 0 else Nn C (n,Mq f<|64*B) u) u):=Y (λu=>by
  unfold Nn;by_cases e:u=n
  .simp only[e,gG];rw[aM O]
  simp only[e,fD])
 have Q_:Q (NE (Nn C (n,Mq f<|64*B)) m=max (NE C m) ((Nx C (Mq f<|64*B):I)+1)):=Y<|vI (C:=C) (v:=n) F m q;generalize Nn C (n,Mq f<|64*B)=C' at*;generalize Nx C (Mq f<|64*B)=b at*;have aj:=H_.o;have ao:S6.wrap ((b:I)+1)=(b:I)+1:=by rw[dF];omega
 have p:=a.9;have ad:=a.1.lt;have af:=a.o.o.lt;have ac:=a.3.lt
 go_in
 go_wp2_with fail
 have t:Sw (Z w.1) w (D w<|.cells #[Hl k B g] 113):=Xb Rf _;have h:=Y<|a.far t;generalize D w _=w0 at*;refine(G_ _ t).mono ?_;rintro e r⟨rfl,v,M_⟩;have P_:Q (ZH (PJ j go c) w r):=Y<|(ZH.of_below t).trans (ZH.of_grown v<|bC R);have T_:=Y M_;have s:=Y (h.3.of_block<|v.5 c h.3.lt λe=>p.1<|by injection e);have x:=Y (h.o.o.of_block<|v.5 go h.o.o.lt λe=>a.8<|by injection e with e;exact e.symm);clear h t v M_ G_ c1 l1;have q1:=s.cell (i:=1) vY;have q2:=s.cell (i:=2) vY;have qf:=s.frozen 2;have y1:=x.cell q;have yf:=x.frozen n;simp only[OX]at q1 q2;have al:(n:I)<(m:I):=O;have s2:E (Se r (A go n) (H b)) (A c 2)=S (H<|NE C m):=G (bH r (A go n) (A c 2) _ (by show go≠c;exact λe=>p.2 e.symm)) q2;have E_:=Y (s.setOther (a:=(A go n)) (by show c≠go;exact p.2) (H b));have R_:=Y ((x.set n (b:I) q).congr λu _=>S_ u);have U_:=Y (T_.setOther (a:=(A go n)) (by show j≠go;exact a.8) (H b));have F_:Q (ZH (PJ j go c) w (Se r (A go n) (H b))):=Y<|P_.trans (ZH.set _ _ _<|aZ (bC R));have ap:=E_.frozen 2;generalize NE C m=kc at*;go_wp2
 go_end0
 refine⟨R,F_.trans<|ZH.set _ _ _ (aZ<|aZ R),?_⟩;have hF:=F_.trans<|ZH.set (M:=PJ j go c) (Se r (A go n) (H b)) (A c 2) (H<|max kc ((b:I)+1)) (aZ<|aZ R);have M:∀l,l≠j/\l≠go/\l≠c->¬PJ j go c l:=λl z d=>by
  obtain d|d|d:=d;·exact z.1 d
  .exact z.2.1 d
  exact z.2.2 d
 refine⟨U_.setOther (by show j≠c;exact λe=>p.1 e.symm) _,R_.setOther (by show go≠c;exact λe=>p.2 e.symm) _,(E_.set 2 _).congr λab Y_=>?_,hF.cell (M _ a.n3) a.4,hF.cell (M _ a.n4) a.5,hF.cell (M _ a.n5) a.6,V_,a.8,a.9,a.n3,a.n4,a.n5⟩;rw[Q_.o]
 match ab,Y_ with
 |0,_=>rfl
 |1,_=>rfl
 |2,_=>rfl
theorem Bw(o:n<=2000):
 Sk prog 67 #[H n] w λg e=>∃b c a,g=Rt (.func (.func 136) #[] #[Hn b,Hn c])/\Sw (Z w.1) w e/\Z w.1<=a/\Z w.1<=b/\Z w.1<=c/\b≠a/\c≠a/\HK e a n n (λ_=>-1)/\E e (A b 0)=S (Hl a n n)/\E e (A c 0)=S (H n):=by
 go_in
 go_wp2_with fail
 have h:Sw (Z w.1) w (D (D w<|.cells #[H n] 2) (Sc #[H (-1)] 2)):=Xb (Xb Rf _) _;have i:Z (D (D w<|.cells #[H n] 2) (Sc #[H (-1)] 2)).1=Z w.1+2:=sP;have c0:E (D (D w<|.cells #[H n] 2) (Sc #[H (-1)] 2)) (A (Z w.1) 0)=S (H n):=by simp[go_sem]
 have c1:E (D (D w<|.cells #[H n] 2) (Sc #[H (-1)] 2)) (A (Z w.1+1) 0)=S (H (-1)):=by simp[go_sem]
 refine(vb (Z w.1+1) n _ o c1 sP).mono ?_;rintro g j⟨m,rfl,p,d,f⟩;rw[i]at p;have k:=Y<|Xg h d;have l:=Y f;have q:=G (XU d O) c0;have s:Z w.1+2<=Z j.1:=oN d.4;have r:=f.lt;go_wp2;go_ret;exact⟨Z j.1,Z w.1,m,R,Xb k _,O,O,aA,O,O,HK.of_row<|l.alloc _,SC,G (bP _ _ _<|by show Z w.1<_;omega) q⟩
def J3(k:N):Code->Option Code
 |.seq x y=>match J3 k x with
  |some c=>S c
  |none=>J3 k y
 |.block i c=>if i=k then S c else J3 k c
 |.scope c=>J3 k c
 |.loop c=>J3 k c
 |.cond _ x y=>match J3 k x with
  |some c=>S c
  |none=>J3 k y
 |_=>U
noncomputable def QH:Code:=(f68.9.bind<|J3 4).getD .skip
noncomputable def QF:Code:=(f68.9.bind<|J3 6).getD .skip
theorem ZH.drew(h:ZH d w v):ZH d w v.drew:=h.trans<|ZH.of_below (Rf).drew
theorem F8(bs t p r C x u s b pc:N)(z:Uy)(f:Za)(L T:N)(M:Vv)(e:N->Vy)(c:Ub){F:Yt}{ds:List Deferred}{c0 c2 c3 c4 c5 c9 K V cw W P R_ S_ T_ V_ W_ X_ Y_ Z_ aa ab ac ad af aj al ao ap aq ar az a0 a1 a2 a3 a4 a5 a6 a7:Uj}(a8 a9 ba bb bc bd be bf bh cx c6 c7 c8 da db dc df di dj dk bi bl bm bn bq br bt bv bx b0 b1 b3 b4 b5 b6 b7 b8 ca cb cc cd ce cf cg ch:Uj)(hQ:Q (∀c_ (J_:Act) t_ v w,F (.panic c_) (J_.put (S t_) v) w->F (.panic c_) J_ w))(eo:Q (Jw c L T z f))(en:Q (b=J f))(es:b<=4000)(hM:Q (∀q,L<=q->q<T->¬M q))(ck:Q (¬M bs))(hG:Q (¬M t))(ek:Q (∀q,M q->q<Z c.1))(k:E c (A bs 0)=S (Hl t (p+1) (p+1)))(l:E c (A t 0)=S (Hl C r x))(hJ:Q (∀i d g,e i d->Sw (Z d.1) d g->e i g))(ep:Q (∀i (cj:i<J f) d,ZH M c d->e i d->Sk prog 69 #[H f[i].1,Sa #[Hl C r x],Hn u,Hn s] d λci g=>ci=Rt (St #[])/\ZH M d g/\e (i+1) g))(h0:Q (e 0 c))(hN:Q (∀(dn du dw dz ea eb ec ed ee ef ei ej:Uj)(d:Ub),ZH M c d->e b d->F (.exit 4) ⟨#[c0,.func (.func 69) #[] #[Hn u,Hn s],c2,c3,c4,c5,a,A_,Hn bs,c9,K,V,dn,W,P,R_,S_,T_,V_,W_,X_,Y_,Z_,aa,ab,ac,ad,af,aj,al,ao,ap,aq,ar,az,a0,a1,a2,a3,a4,a5,a6,a7,a8,a9,ba,bb,bc,bd,be,bf,bh,X z b pc,H b,H b,du,dw,dz,ea,eb,ec,ed,ee,ef,ei,ej,bi,bl,bm,bn,bq,br,bt,bv,bx,b0,b1,b3,b4,b5,b6,b7,b8,ca,cb,cc,cd,ce,cf,cg,ch],ds⟩ d)):
 Code.wp prog QH F ⟨#[c0,.func (.func 69) #[] #[Hn u,Hn s],c2,c3,c4,c5,a,A_,Hn bs,c9,K,V,cw,W,P,R_,S_,T_,V_,W_,X_,Y_,Z_,aa,ab,ac,ad,af,aj,al,ao,ap,aq,ar,az,a0,a1,a2,a3,a4,a5,a6,a7,a8,a9,ba,bb,bc,bd,be,bf,bh,X z b pc,H b,H 0,cx,c6,c7,c8,da,db,dc,df,di,dj,dk,bi,bl,bm,bn,bq,br,bt,bv,bx,b0,b1,b3,b4,b5,b6,b7,b8,ca,cb,cc,cd,ce,cf,cg,ch],ds⟩ c:=by
 conv=>arg 2;whnf
 dsimp only;have eg:∀args w,(callFunc 69 args).run prog w=.ok (.enter 69 args) w:=enters_of func69 vZ R;have cs:=Y k;have ct:=Y l
 go_loopw [54] (λi wx=>∃y:N,y<=b/\i=H y/\Q (ZH M c wx)/\Q (e y wx)) λi _=>b-(intOf i).toNat
 case atStart=>exact⟨0,aN,R,Y<|ZH.refl _ _,h0⟩
 obtain⟨i,hi,rfl,h,F_⟩:=hrel;by_cases em:i<b
 .have cl:i<J f:=by rw[<-en.o];exact em
  obtain⟨pb,po,rfl,o,cn,co,d0,d1,_⟩:=eo.o i cl;have e0:=h.cell (hM.o pb o.1 o.2) d0;have e1:=h.cell (hM.o pb o.1 o.2) d1;have I_:=Y<|ep.o i cl;generalize f[i].1=n at*;generalize J f[i].2=dl at*;have er:(i:I)<(b:I):=O;have E_:Q (Sw (Z wr.1) wr<|D wr (Sc #[H n,X cn dl co] 73)):=Y<|Xb Rf _;have m:=Y<|h.trans (ZH.of_below E_.o);have cr:=Y<|hJ.o _ _ _ F_.o E_.o;have x0:E (D wr<|.cells #[H n,X cn dl co] 73) (A (Z wr.1) 0)=S (H n):=by simp[go_sem]
  have cv:Q (¬M (Z wr.1)):=Y (λcj=>by have:=ek.o _ cj;have:=h.4;omega);go_wp2_with fail
  generalize D wr _=w5 at*;generalize Z wr.1=xb at*;have k:=m.cell ck.o cs.o;have l:=m.cell hG.o ct.o;have H_:=Y<|I_.o w5.drew m.drew (hJ.o _ _ _ cr.o (Rf).drew);refine Y7 (λB=>E B (A xb 0)=S (H n)/\E B (A bs 0)=S (Hl t (p+1) (p+1))/\E B (A t 0)=S (Hl C r x)) λhHeld=>?_;refine X0 0 ?_;refine X0 1 ?_;refine X0 2 ?_;refine X0 3 ?_;refine X0 4 ?_;refine X0 5 ?_;refine Xs 6 λeq hK=>?_;go_simp;refine H_.mono ?_;rintro ci w6⟨rfl,j,cm⟩;have cp:=Y<|m.drew.trans j;have cq:=Y cm;refine hK _ _ ⟨j.cell cv.o x0,j.cell ck.o k,j.cell hG.o l⟩ λhHeld=>?_;refine Yq ?_;go_wp2;exact⟨⟨i+1,O,gM,cp,cq⟩,SA⟩
 have el:i=b:=O;subst el;go_wp2_with fail
 exact hN.o _ _ _ _ _ _ _ _ _ _ _ _ _ h.o F_.o
theorem F6(bs T X_ V W c ic:N)(zs cw:Wk)(L:Uy)(f:Vr)(Y_ P_:N)(M:Vv)(d:N->Vy)(F:Ub){Z_:Yt}{ds:List Deferred}{c0 c2 c3 c4 c5 c9 aa ab ac c7 c8 ad dc af aj al ao ap aq ar az a0 a1 a2 a3 a4 a5 a6 a7 a8 a9 ba bb bc bd be bf bh bi bl:Uj}(bm bn bq br bt bv bx b0 b1 b3 b4 b5 b6 b7 b8 ca cb cc cd ce cf cg ch df dj dk dl dn du dw dz ea eb ec ed ee ef ei ej ek el em en ci:Uj)(f0:Q (YY F Y_ P_ L f))(f7:Q (c=J f))(gp:c<=4000)(hM:Q (∀N_,Y_<=N_->N_<P_->¬M N_))(fz:Q (¬M bs))(hG:Q (¬M T))(K:E F (A bs 0)=S (Hl T (c+1) (c+1)))(sg:Q (∀i,i<=c->E F (A T i)=S (Hl (zs i) X_ (cw i))))(gd:Q (∀P∈f,1<=P.1/\P.1<=13))(fx:Q (∀b,ZH M F b->Yy b))(hJ:Q (∀i b m,d i b->Sw (Z b.1) b m->d i m))(ge:Q (∀i (fs:i<J f),dB f[i].1=So->∀b,ZH M F b->d i b->Sk prog 69 #[H f[i].2,Sa #[Hl (zs<|i+1) X_ (cw<|i+1)],Hn V,Hn W] b λs m=>s=Rt (St #[])/\ZH M b m/\d (i+1) m))(ga:Q (∀i (fs:i<J f),dB f[i].1=Sn->∀b,d i b->d (i+1) b))(h0:Q (d 0 F))(hN:Q (∀(eo ep eq er es et eu ev ey ez e7 e8 e9 fa fb fc fe fi fj fl fn fq fr:Uj)(b:Ub),ZH M F b->d c b->Z_ (.exit 6) ⟨#[c0,.func (.func 69) #[] #[Hn V,Hn W],c2,c3,c4,c5,a,A_,Hn bs,c9,aa,ab,ac,eo,ep,ad,eq,af,aj,al,ao,ap,aq,ar,az,a0,a1,a2,a3,a4,a5,a6,a7,a8,a9,ba,bb,bc,bd,be,bf,bh,bi,bl,bm,bn,bq,br,bt,bv,bx,b0,b1,b3,b4,b5,b6,b7,b8,ca,cb,cc,cd,ce,cf,cg,ch,X L c ic,H c,H c,er,es,et,eu,ev,ey,ez,e7,e8,e9,fa,fb,fc,fe,fi,fj,fl,fn,fq,fr,ci],ds⟩ b)):
 Code.wp prog QF Z_ ⟨#[c0,.func (.func 69) #[] #[Hn V,Hn W],c2,c3,c4,c5,a,A_,Hn bs,c9,aa,ab,ac,c7,c8,ad,dc,af,aj,al,ao,ap,aq,ar,az,a0,a1,a2,a3,a4,a5,a6,a7,a8,a9,ba,bb,bc,bd,be,bf,bh,bi,bl,bm,bn,bq,br,bt,bv,bx,b0,b1,b3,b4,b5,b6,b7,b8,ca,cb,cc,cd,ce,cf,cg,ch,X L c ic,H c,H 0,df,dj,dk,dl,dn,du,dw,dz,ea,eb,ec,ed,ee,ef,ei,ej,ek,el,em,en,ci],ds⟩ F:=by
 conv=>arg 2;whnf
 dsimp only;have eg:∀args cn,(callFunc 69 args).run prog cn=.ok (.enter 69 args) cn:=enters_of func69 vZ R;have cz:=Y K;clear K
 go_loopw [69] (λi e=>∃K_:N,K_<=c/\i=H K_/\Q (ZH M F e)/\Q (d K_ e)) λi _=>c-(intOf i).toNat
 case atStart=>exact⟨0,aN,R,Y<|ZH.refl _ _,h0⟩
 obtain⟨i,hi,rfl,j,T_⟩:=hrel;by_cases f6:i<c
 .have B:i<J f:=by rw[<-f7.o];exact f6
  obtain⟨pb,po,rfl,cm,d0,d1,d2,d3,d4⟩:=f0.o i B;have u:=hM.o pb cm.1 cm.2;have e0:=j.cell u d0;have e1:=j.cell u d1;have e2:=j.cell u d2;have e3:=j.cell u d3;have e4:=j.cell u d4;have gb:=gd.o _<|aH B;have x:=Y<|ge.o i B;have w:=Y<|ga.o i B;generalize f[i]=P at*;let⟨op,h,p,q,r⟩:=P;simp only at e0 e1 e2 e3 e4 gb x w;let⟨v,f5⟩:=bX (show 0<=op by omega);subst f5;have gh:(i:I)<(c:I):=O;clear d0 d1 d2 d3 d4;have F_:Q (Sw (Z wr.1) wr<|D wr (Sc #[H v,H h,H p,H q,H r] 59)):=Y<|Xb Rf _;have R_:=Y<|j.trans (ZH.of_below F_.o);have cs:=Y<|hJ.o _ _ _ T_.o F_.o;have S_:Q (Jk (D wr<|.cells #[H v,H h,H p,H q,H r] 59) (Z wr.1) 0 ⟨v,h,p,q,r⟩):=Y ⟨by simp[go_sem],SC,SC,SC,SC⟩;go_wp2_with fail
  generalize (D wr _)=O_ at*;generalize Z wr.1=xb at*;have W_:=Y<|UH xb h p q r O_ S_ O O (Y<|fx.o _ R_.o);clear e0 e1 e2 e3 e4 S_ F_;refine W_.mono ?_;rintro s w6⟨v6,rfl,z,C⟩;have Q_:=Y<|R_.trans (ZH.of_below z);have V_:=Y<|hJ.o _ _ _ cs.o z;clear W_;cases hu:dB (v:I)with
  |false=>
   let⟨av,o,y,_⟩:=Xk C;rw[show J (BW ⟨(v:I),h,p,q,r⟩)=0 by unfold BW;rw[hu];rfl]at y;subst y;have ct:=Y<|w.o hu;clear hu z C x w;go_wp2_with fail
   generalize wr=wv at*
   go_loopw [76] (λl e=>l=H 0/\Q (ZH M F e)/\Q (d i e)) λ_ _=>0
   case atStart=>exact⟨R,Q_,V_⟩
   obtain⟨rfl,g,n⟩:=hrel;go_wp2;exact⟨⟨i+1,O,gM,g,Y<|ct.o _ n.o⟩,SA⟩
  |true=>
   have t:Sx w6 (Z O_.1) 2 1 v6 1 [H h]:=by
    have:=C;unfold BW at this;rw[hu]at this;exact this
   let⟨k,o,y,gg,cj⟩:∃k o,v6=Hl k 1 o/\Z O_.1<=k/\w6.cell? (A k 0)=S (H h):=by
    let⟨k,o,s,J_,_⟩:=Xm t O;subst s;exact⟨k,o,R,J_.1,Jj t R⟩
   subst y;have cp:=Y cj;have c6:=Y λb t J_=>x.o hu b t J_;clear hu z C t x w cj;go_wp2_with fail
   generalize wr=wv at*
   go_loopw [76] (λl e=>(l=H 0/\Q (ZH M F e)/\Q (d i e)/\Q (E e (A k 0)=S (H h)))\/(l=H 1/\Q (ZH M F e)/\Q (d (i+1) e))) λl _=>1-(intOf l).toNat
   case atStart=>exact bC ⟨R,Q_,V_,cp⟩
   obtain⟨rfl,g,n,HCx⟩|⟨rfl,g,n⟩:=hrel
   .have K:=g.cell fz.o cz.o;have gf:=g.cell hG.o<|sg.o (i+1) O;have cx:=HCx.o;have gq:S6.wrap ((i:I)+1)=(i:I)+1:=by rw[dF];omega
    have gi:0<=(i:I)+1:=O;have gl:(i:I)+1<(c:I)+1:=O;have co:=Y<|c6.o wr g.o n.o;go_wp2_with fail
    refine co.mono ?_;rintro s w7⟨rfl,ck,cl⟩;have cq:=Y<|g.trans ck;have cr:=Y cl;clear ck cl K gf cx;go_wp2_with fail
    exact⟨aZ ⟨gM,cq,cr⟩,SL⟩
   go_wp2;exact⟨⟨i+1,O,gM,g,n⟩,SA⟩
 have f4:i=c:=O;subst f4;go_wp2_with fail
 exact hN.o _ _ _ _ _ _ _ _ _ _ _ _ _ _ _ _ _ _ _ _ _ _ _ _ j.o T_.o
section
structure Nz(V:N)(w6:Ub)(G_ m Kw z:N)(pre:List Sd)(U_:Ub):Prop where
 os:U_.4=w6.4
 tape:U_.2=w6.2
 output:U_.5=w6.5
 size:Z w6.1<=Z U_.1
 fr:∀q,q<Z w6.1->q≠G_->U_.1[q]?=w6.1[q]?
 zl:Z w6.1<=z/\z<Z U_.1
 gl:G_<Z w6.1
 db:∃T:Vu,U_.rowIs G_ 113 m T/\∀i,i<m->(∀q∈pre,q.i≠i)\/∃q∈pre,q.i=i/\(XA q.W/\N1 V Kw q.W)/\∃zi ci,T i=X (S ⟨zi,0,U⟩) Kw ci/\(Z w6.1<=zi/\zi≠z)/\Cp U_ zi Kw ci q.W
section
variable {V: N} {w6 U_ U' U5: Ub} {G_ m Kw z: N} {pre: List Sd}
theorem Cp.cells{w:Ub}{g K C:N}{W:Wk}(h:Cp w g K C W):∃o,w.1[g]?=S o/\o.isCells=So:=by
 let⟨_,T,c,a,_⟩:=h;exact⟨_,a,R⟩
theorem Nz.row(h:Nz V w6 G_ m Kw z pre U_){r:N}(t:Z w6.1<=r)(k:U_.grownBy U' (S r))(b:r=z\/∃o:Obj,U_.1[r]?=S o/\o.isCells=Sn):Nz V w6 G_ m Kw z pre U':=by
 let⟨T,c,i⟩:=h.8;have j:=h.7;refine⟨G k.1 h.1,G k.2 h.2,G k.3 h.3,aJ h.4 k.4,λq q1 q2=>G (k.5 q (oN h.4) λe=>by injection e with e;omega) (h.5 q q1 q2),⟨h.6.1,aX h.6.2 k.4⟩,j,T,c.of_block (k.5 G_ c.lt λe=>by injection e with e;omega),λn l=>?_⟩;obtain e|⟨q,q1,q2,q3,f,g,e1,e2,e3⟩:=i n l;·exact bC e
 refine aZ ⟨q,q1,q2,q3,f,g,e1,e2,e3.of_block<|k.5 f e3.lt λe=>?_⟩;injection e with e;obtain b|⟨o,p,s⟩:=b;·exact e2.2 (e▸b)
 let⟨u,a,d⟩:=e3.cells;rw[e,p]at a;injection a with a;subst a;rw[s]at d;cases d
theorem Nz.below(h:Nz V w6 G_ m Kw z pre U_)(k:Sw (Z U_.1) U_ U'):Nz V w6 G_ m Kw z pre U':=by
 let⟨T,a,d⟩:=h.8;refine⟨G k.1 h.1,G k.2 h.2,G k.3 h.3,aJ h.4 k.4,λq q1 q2=>G (k.5 q<|oN h.4) (h.5 q q1 q2),⟨h.6.1,aX h.6.2 k.4⟩,h.7,T,a.of_block<|k.5 G_ a.lt,λi f=>?_⟩;obtain e|⟨q,q1,q2,q3,b,c,e1,e2,e3⟩:=d i f;·exact bC e
 exact aZ ⟨q,q1,q2,q3,b,c,e1,e2,e3.of_block<|k.5 b e3.lt⟩
theorem Nz.turn(h:Nz V w6 G_ m Kw z pre U_)(k:U_.grownBy U' (S z)):Nz V w6 G_ m Kw z pre U':=h.row h.6.1 k<|bC R
theorem Nz.own(V:N)(w6:Ub)(G_ m Kw z:N):OwnFrom (Z w6.1) (Nz V w6 G_ m Kw z):=λpre U_ U' row h k q=>by
 cases row with
 |none=>exact h.below ⟨k.1,k.2,k.3,k.4,λb f=>k.5 b f λe=>by cases e⟩
 |some r=>
  let⟨a,o,c,d⟩:=q r R;exact h.row a k<|aZ ⟨o,c,d⟩
theorem Nz.push(h:Nz V w6 G_ m Kw z pre U_){s:Sd}(n:XA s.W/\N1 V Kw s.W)(p:Sw (Z U_.1) U_ U5){b c:N}(t:Z U_.1<=b)(o:Cp U5 b Kw c s.W):Nz V w6 G_ m Kw z (pre++[s]) (Se U5 ⟨G_,s.i,U⟩ (X (S ⟨b,0,U⟩) Kw c)):=by
 have a:=h.below p;let⟨T,g,j⟩:=a.8;have k:=h.7;have r:=h.4;have u:=h.6;refine⟨a.1,a.2,a.3,by rw[Xd];exact a.4,λq q1 q2=>G (Below.heap_setCell _ _ _ _ q2) (a.5 q q1 q2),⟨a.6.1,by rw[Xd];exact a.6.2⟩,k,λi=>if i=s.i then Hl b Kw c else T i,(g.set s.i _).congr (λi _=>by by_cases e:i=s.i<;>simp[e]),λi l=>?_⟩;by_cases e:i=s.i;·refine aZ ⟨s,sP,e.symm,n,b,c,by simp only[e,gG],⟨O,O⟩,o.setOther (by show b≠G_;omega) _⟩
 obtain e1|⟨q,q1,q2,q3,d,f,e1,e2,e3⟩:=j i l
 .refine bC λq hq=>?_;obtain hq|hq:=bU.1 hq;·exact e1 q hq
  rw[cS.1 hq];exact λe3=>e e3.symm
 exact aZ ⟨q,dD _ q1,q2,q3,d,f,by simp only[e,fD];exact e1,e2,e3.setOther (by show d≠G_;omega) _⟩
theorem Nz.cell(h:Nz V w6 G_ m Kw z pre U_){b o:N}{v:Uj}(c:b≠G_)(a:E w6 (A b o)=S v):E U_ (A b o)=S v:=G (Xc<|h.5 b (aI w6 _ a) c) a
theorem Nz.done{a:Wi}(B:Jy V a){k:N}(x:k<J a){c:Wk}(w:V<=64*Kw)(hq:∀v,v<64*Kw->(Xh c v=So↔UV a v k)){r:List Sd}(p:r.map Sd.dat=TZ (J a[k].2) c (NS a[k]))(h:Nz V w6 G_ (J a[k].2+1) Kw z r U_):
 ∃(l n:Wk)(e:Vp),∀i,i<=J a[k].2->E U_ (A G_ i)=S (Hl (l i) Kw (n i))/\Z w6.1<=l i/\Cp U_ (l i) Kw (n i) (e i)/\XA (e i)/\N1 V Kw (e i)/\Mq (e i) (64*Kw)=Uq a a[k] V k i:=by
 let⟨T,t,u⟩:=h.8;have g:∀i,∃b f d,i<=J a[k].2->E U_ (A G_ i)=S (Hl b Kw f)/\Z w6.1<=b/\Cp U_ b Kw f d/\XA d/\N1 V Kw d/\Mq d (64*Kw)=Uq a a[k] V k i:=λi=>by
  by_cases j:i<=J a[k].2
  .rcases u i O with s|⟨q,q1,q2,q3,b,f,e1,e2,e3⟩
   .let⟨W,o⟩:=FW a[k] c (i:=i) O;rw[<-p]at o;let⟨q,q1,q2⟩:=aY.1 o;exact Sz (fI Prod.fst q2) (s q q1)
   refine⟨b,f,q.W,λ_=>⟨by rw[t.cell O,e1],e2.1,e3,q3.1,q3.2,?_⟩⟩
   have y:(i,q.W)∈TZ (J a[k].2) c (NS a[k]):=by
    rw[<-p,<-q2];exact aY.2 ⟨q,q1,R⟩
   rw[wW B x w hq y]
  exact⟨0,0,λ_=>0,λh=>Sz h j⟩
 refine⟨λi=>Classical.choose<|g i,λi=>Classical.choose<|gJ (g i),λi=>Classical.choose<|gJ (gJ<|g i),λi j=>gJ (gJ<|gJ (g i)) j⟩
end
theorem vO{b:Wi}{V:N}{a:Wa}{k:N}(g:k<J a)(d:a[k]<J b):∃f,Ko b V a=Ko b V (a.take k)++(Ni b V a[k] b[a[k]] (J b[a[k]].1)++VC b V a[k] b[a[k]] (J b[a[k]].2))++f:=by
 have e:a=a.take k++a[k]::a.drop (k+1):=by rw[mO,hH]
 refine⟨Ko b V<|a.drop (k+1),?_⟩;have c:OV b V a[k]=Ni b V a[k] b[a[k]] (J b[a[k]].1)++VC b V a[k] b[a[k]] (J b[a[k]].2):=by
  unfold OV;rw[aC d]
 rw[<-c];unfold Ko
 conv=>lhs;rw[e]
 rw[eZ,jF,List.append_assoc]
theorem Fm{xs:Wi}{V b:N}{x:Xe}{i:N}(a:i<J x.1):∃r,Ni xs V b x (J x.1)=Ni xs V b x i++(x.1[i].1.toNat,Uq xs x V b 0)::r:=by
 refine⟨(x.1.drop<|i+1).map λp=>(p.1.toNat,Uq xs x V b 0),?_⟩;have e:x.1=x.1.take i++x.1[i]::x.1.drop (i+1):=by rw[mO,hH]
 unfold Ni;rw[gC]
 conv=>lhs;rw[e]
 rw[bG,eH]
theorem we{xs:Wi}{V b:N}{x:Xe}:∀(m i:N),∃r,VC xs V b x (i+m)=VC xs V b x i++r
 |0,i=>⟨[],sP⟩
 |m+1,i=>by
  obtain⟨r,a⟩:=we (xs:=xs) (V:=V) (b:=b) (x:=x) m i;rw[<-Nat.add_assoc,VC,a];exact⟨_,List.append_assoc _ _ _⟩
theorem Gg{xs:Wi}{V:N}{a:Wa}{k:N}(d:k<J a)(b:a[k]<J xs){i:N}(c:i<J xs[a[k]].1):∃g,Ko xs V a=(Ko xs V (a.take k)++Ni xs V a[k] xs[a[k]] i)++(xs[a[k]].1[i].1.toNat,Uq xs xs[a[k]] V a[k] 0)::g:=by
 let⟨e,e1⟩:=vO (V:=V) d b;let⟨f,e2⟩:=Fm (xs:=xs) (V:=V) (b:=a[k]) c;rw[e1,e2];exact⟨f++VC xs V a[k] xs[a[k]] (J xs[a[k]].2)++e,by simp[List.append_assoc]⟩
theorem Gq{xs:Wi}{V:N}{a:Wa}{k:N}(f:k<J a)(b:a[k]<J xs){i d:N}(e:i<J xs[a[k]].2)(g:dB xs[a[k]].2[i].1=So)(c:xs[a[k]].2[i].2=(d:I)):∃l,Ko xs V a=(Ko xs V (a.take k)++Ni xs V a[k] xs[a[k]] (J xs[a[k]].1)++VC xs V a[k] xs[a[k]] i)++(d,Uq xs xs[a[k]] V a[k] (i+1))::l:=by
 let⟨h,e1⟩:=vO (V:=V) f b;let⟨j,e2⟩:=we (xs:=xs) (V:=V) (b:=a[k]) (x:=xs[a[k]]) (J xs[a[k]].2-(i+1)) (i+1);rw[show i+1+(J xs[a[k]].2-(i+1))=J xs[a[k]].2 by omega,q9 e g c]at e2;rw[e1,e2];exact⟨j++h,by simp[List.append_assoc]⟩
theorem EL{xs:Wi}{V:N}{a:Wa}{k:N}(c:k<J a)(b:a[k]<J xs):Ko xs V (a.take<|k+1)=Ko xs V (a.take k)++Ni xs V a[k] xs[a[k]] (J xs[a[k]].1)++VC xs V a[k] xs[a[k]] (J xs[a[k]].2):=by
 rw[kJ,aC c];show Ko xs V (a.take k++[a[k]])=_;rw[qT];unfold OV;rw[aC b,List.append_assoc]
end
section
attribute [local go_sem] Oper.semAt_some
structure QA(w3 wr:Ub)(M:Vv)(J_:List (N×Wa)->Vy)(ss:List (N×Wa))(ds:Wa):Prop where
 fr:ZH M w3 wr
 j:J_ ss wr
 O7:ZJ wr (Z w3.1) ds
theorem E6(h:ZJ w n s)(k:ZH d w v)(b:∀q,d q->q<n):ZJ v n s :=
 ⟨h.1,h.2,λc a=>G (k.5 c (aS.1<|h.3 c a).1 λe=>by have:=b c e;have:=h.2 c a;omega) (h.3 c a)⟩
theorem Dx(h:ZJ w n s)(b:n<=m)(c:m∉s)(d:w.1[m]?=S (.deferred (S []))):ZJ w n (m::s) :=
 ⟨fL.2 ⟨c,h.1⟩,λk a=>by
  obtain rfl|a:=cH.1 a;·exact b
  .exact h.2 k a,λk a=>by
  obtain rfl|a:=cH.1 a;·exact d
  exact h.3 k a⟩
theorem tF{F:Fence}{n:N}{P:Yh}{b:Func}{R_:Ending->Vy}{t t':Zh}(c:results b t=results b t'):∀a:List Deferred,LeavesInM F n P b t R_ a=LeavesInM F n P b t' R_ a
 |[]=>by
  funext u w;cases u<;>simp only[LeavesInM,LeavesIn,c]
 |d::a=>by
  have e:=tF (F:=F) (n:=n) (P:=P) (R_:=R_) c a;funext u w;unfold LeavesInM;rw[e]
theorem F7{g:Act}(b:N->Wa->Vu->Act)(h:N->Wa->Prop)(k:N)(a:Wa)(e:k<=n)(d:g=b k a λi=>g.1.getD i Su)(c:h k a):∃(k:N)(a:Wa)(f:Vu),k<=n/\g=b k a f/\h k a:=⟨k,a,_,e,d,c⟩
theorem Ef(c:N)(bp bo:N)(M:Vv)(Q_:List (N×Wa)->Vy)(ha:Q (Xp w k B p x))(hx:Q (m=J x))(hs:Q (J x+Xx x<=1048576))(hB:B<=Z w.1)(hO:Q (Yy w))(hT:Q (Yb w))(ej:Q (Jn w))(hv:Q (XJ ⟨(n:I),x⟩=So))(T:Q (Jy n x))(R_:Q (YX (X8 x) m l))(cg:Q (∀q,M q->q<Z w.1))(bf:Q (∀q,k<=q->q<B->¬M q))(ch:Q (¬M 0/\¬M 1/\¬M 4))(hJ:Q (∀ss L L_,Q_ ss L->(∀q,q<Z w.1->q<Z L.1->L_.1[q]?=L.1[q]?)->Q_ ss L_))(cp:Q (∀(b0:List (N×Wa))(v:N)(bv:Wa)(bx:List (N×Wa))(L:Ub)(z b Cz:N)(W:Wk),Ko x n (XT l m 0)=b0++(v,bv)::bx->Q_ b0 L->Cp L z b Cz W->XA W->N1 n b W->b<=100->Mq W (64*b)=bv->Jn L->Sk prog 69 #[H v,Sa #[Hl z b Cz],Hn bp,Hn bo] L λo L_=>o=Rt (St #[])/\ZH M L L_/\Q_ (b0++[(v,bv)]) L_))(h0:Q (Q_ [] w)):
 Sk prog 68 #[Sa #[H n,X p m c],.func (.func 69) #[] #[Hn bp,Hn bo]] w λo F=>o=Rt (St #[])/\ZH M w F/\Q_ (Ko x n<|XT l m 0) F:=by
 have hn:m<=1000:=oP hx.o T.1.2;have b7:=Y λW (y:Sw (Z w.1) w W)=>KO n p m c x k B W (Y<|ha.keep (y.mono hB)) hx (oN y.4) T (Y<|hO.keep y hO.1) (Y<|hT.keep y hT.1);have cs:=Y λW (y:Sw (Z w.1) w W)=>AO c (Y<|ha.keep (y.mono hB)) hx hs (oN y.4) (Y (hO.keep y hO.1).old) (Y (hT.keep y hT.1).old) hv;let⟨b,eq⟩:∃q,q=(n+63)/64:=⟨_,R⟩;simp only[<-eq]at b7;have hV:=T.2;have cf:b<=100:=O;have ek:n<=64*b:=O;clear eq;refine(bM (n:=9)).1 ?_;refine callsIn_of_wp_marks func68 R trivial ?_ R;simp only[ntmps68,xY,Nat.reduceAdd,Nat.reduceSub];gi_wp2;have be:(λV:Ub=>Sw (Z w.1) w V/\Z w.1<Z V.1/\E V (A (Z w.1) 0)=S (H n)/\E V (A (Z w.1) 1)=S (X p m c)) (D w<|.cells #[H n,X p m c] 40):=⟨Xb Rf _,sP,SC,SC⟩;generalize D w _=w0 at*;let⟨cj,et,k0,k1⟩:=be;refine⟨trivial,(bM.2<|b7 _ cj).mono ?_⟩;rintro o K_⟨Gi,O_,gi,go,ci,WI,WX,rfl,hR⟩;have HR:=Y hR;have bh:=hR.1;have e0:=bh.4;have g0:=oB bh k0 et;have g1:=oB bh k1 et;have ct:=Y<|Xg cj bh;have g9:Z w0.1<=O_/\O_<Z K_.1:=⟨hR.6.2,hR.3.1.lt⟩;have lr:Z w.1<Z K_.1:=O;clear cj hR bh b7 k0 k1;gi_wp2
 have be:(λV:Ub=>Sw (Z K_.1) K_ V/\Z V.1=Z K_.1+1/\E V (A (Z K_.1) 1)=S (Hl O_ m m)) (D K_<|.cells #[Hl Gi m m,Hl O_ m m] 116):=⟨Xb Rf _,sP,SC⟩;generalize D K_ _=w2 at*;let⟨V_,bt,q1⟩:=be;have u1:=G (XU V_ O) g1;have b6:=Y<|Xg ct V_;have cc:=Y λe (y:e<m)=>(HR.3.2 e y).of_block (V_.5 _ (HR.3.2 e y).lt);have cb:=Y<|HR.3.1.of_block (V_.5 _ g9.2);refine⟨trivial,(bM.2<|cs _ b6).mono ?_⟩;rintro o w3⟨U3,P3,a1,c1,a2,c2,a3,a4,c4,rfl,aj,eg,ea⟩;have he:=vK eg R_;subst he;have lu:=aj.4;have P_:=Y<|Xg b6 aj;have b3:=Y ea.5;let⟨d,ba⟩:∃d,d=XT P3 m 0:=⟨_,R⟩;rw[<-ba]at b3 cp;rw[<-ba];have gq:Q (∀aa∈d,aa<m):=Y (by rw[ba];exact λaa hy=>(by rw[hx.o];exact T.1.re aa (Ji R_ m 0 aa (Re.root) hy).2));have hp:J d<=1000:=by
  have r:=o9 R_ (λaa hw=>by rw[hx.o];exact T.1.re aa hw) m Re.root;rw[ba];omega
 have ge:=Y ba;let⟨J_,hm⟩:∃J_,J_=J d:=⟨_,R⟩;rw[<-hm]at hp;have HM:=Y hm;have gd:Q (∀a (h:a<J d),E w3 (A a4 a)=S (H ((d[a]:N):I))/\Z w2.1<=a4):=Y (λa h=>⟨Jj b3 (by simp[Je,h]),(b3.lt a4 R).1⟩);rw[<-hm];have v1:=G (XU aj O) u1;have q3:=G (XU aj O) q1;have dn:=Y λe (y:e<m)=>(cc e y).of_block (aj.5 _ (cc e y).lt);have gr:=Y<|cb.of_block (aj.5 _ cb.lt);have fc:=Y<|ha.keep (P_.mono hB);have dc:=Y (hJ.o _ _ _ h0 λq hq _=>P_.5 q hq);have lb:∀(A1 A2 A3 A4:Uj)(W:Ub),(Instr.field 81 (Sa #[A1,A2,A3,A4]) 3).run prog W=.ok A4 W:=λA1 A2 A3 A4 W=>vZ;clear V_ aj ea ba b3 u1 q1 g0 g1 cs cc cb hm eg ct b6 h0;gi_wp2;refine nH (λa' wr=>∃(a:N)(ds:Wa)(f:Vu),a<=J_/\a'=⟨#[Sa #[H n,X p m c],.func (.func 69) #[] #[Hn bp,Hn bo],Hn (Z w.1),Su,Hn (Z K_.1),Su,f 6,f 7,f 8,f 9,f 10,Su,f 12,f 13,f 14,Su,f 16,Sa #[H n,X p m c],Sa #[Hl Gi m m,Hl O_ m m],Sa #[H n,X p m c],Sa #[Hl a1 m c1,Hl a2 m c2,Hl a3 m m,Hl a4 J_ c4],Hl a4 J_ c4,H J_,H a,f 24,f 25,f 26,f 27,f 28,f 29,f 30,f 31,f 32,f 33,f 34,f 35,f 36,f 37,f 38,f 39,f 40,f 41,f 42,f 43,f 44,f 45,f 46,f 47,f 48,f 49,f 50,f 51,f 52,f 53,f 54,f 55,f 56,f 57,f 58,f 59,f 60,f 61,f 62,f 63,f 64,f 65,f 66,f 67,f 68,f 69,f 70,f 71,f 72,f 73,f 74,f 75,f 76,f 77,f 78,f 79,f 80,f 81,f 82,f 83,f 84,f 85,f 86,f 87,f 88,f 89,f 90],O7 ds⟩/\Q (QA w3 wr M Q_ (Ko x n<|d.take a) ds)) (λa' _=>J_-(intOf<|a'.1.getD 23 Su).toNat) ?_ ?_;·exact⟨0,[],λ_=>Su,aN,R,Y ⟨ZH.refl _ _,by simpa [Ko]using dc.o,⟨iU,λ_ h=>(by cases h),λ_ h=>(by cases h)⟩⟩⟩
 rintro a' wr⟨a,ds,f,hk,rfl,j⟩;clear dc;have lp:=j.1.4;by_cases hl:a<J_
 .have bm:a<J d:=by rw[<-HM.o];exact hl
  let⟨e4,h4⟩:=gd a bm;have al:=gq _<|aH bm;have I_:d[a]<J x:=by rw[<-hx.o];exact al
  have aq:∀q,Z w.1<=q->¬M q:=λq hq h=>by have:=cg q h;omega
  have S_:=Y aq;have f4:=j.1.cell (aq a4 O) e4;have f1:=j.1.cell (aq (Z w.1)<|aA) v1;have fq:=j.1.cell (aq (Z K_.1) O) q3;have gh:=Y λi g=>Gg (xs:=x) (V:=n) bm I_ (i:=i) g;have fs:=Y λi g8 g hu hd=>Gq (xs:=x) (V:=n) bm I_ (i:=i) (d:=g8) g hu hd;have gb:=Y<|EL (xs:=x) (V:=n) bm I_;have fi:=Y λ(w6 U':Ub)(fb z:N)(W0:Wk)(hq:∀v,v<64*b->(Xh W0 v=So↔UV x v d[a]))(ss:List Sd)(hs:ss.map Sd.dat=TZ (J x[d[a]].2) W0 (NS x[d[a]]))(h:Nz n w6 fb (J x[d[a]].2+1) b z ss U')=>h.done T I_ ek hq hs;have di:=Y<|HR.lou T hx d[a] al;have f7:Q (N1 n b<|WX d[a]):=Y λaa r t=>((di aa r).1 t).val T I_;have g3:=Y<|HR.5 d[a];have ir:=Y<|aH I_;have gf:=Y<|qF T (aH I_);have dj:=Y<|T.3 _ (aH I_);have gz:=Y<|T.4 _ (aH I_);have ac:=Y<|T.10 _ (aH I_);have fj:=Y λi (g:i<J x[d[a]].1)=>T.8 _ (aH I_) _ (aH g);have g4:=Y (λi (g:i<J x[d[a]].2) (hu:dB x[d[a]].2[i].1=So)=>T.6 _ (aH I_) _ (aH g) x[d[a]].2[i].2 (by unfold BW;rw[hu];simp));have cq:=j.1.cell (aq O_ O) (gr.cell al);have du:=Y<|(dn d[a] al).of_block (j.1.5 _ (dn d[a] al).lt (aq _<|oN (HR.7 d[a] al)));have ih:=Y (HR.7 d[a] al).2;let⟨bb,oo,eb,em,pa,pc,Z_,ic,p0,p1,⟨t0,t1,t2,t3⟩,es,eo⟩:=fc d[a] I_;have a9:=bf bb em.1 em.2;have c0:=j.1.cell a9 p0;have c5:=j.1.cell a9 p1;have c6:=j.1.cell a9 t0;have c7:=j.1.cell a9 t1;have c8:=j.1.cell a9 t2;have c9:=j.1.cell a9 t3;have cn:YA k B w3 wr:=λq q1 q2=>j.1.5 q (oN P_.4) (bf q q1 q2);have gg:=Y<|es.keepS cn;have fn:=Y<|eo.keepS cn;generalize hX:x[d[a]]=K at*;have iv:=Y hX;generalize k6:d[a]=e at*;clear p0 p1 t0 t1 t2 t3 es eo cn e4 aq hX;subst eb;have lc:(a:I)<(J_:I):=O;have k7:(e:I)<(m:I):=O;have ht:S6.wrap ((J K.2:I)+1)=(J K.2:I)+1:=by have:=ac.1;rw[dF];omega
  have er:=J9 (P:=prog) 114 113 (Sa #[Hq]) 1 24 underlying114 Q9 (J K.2+1) (oN ac.1) (oN ac.1);rw[show((J K.2+1:N):I)=(J K.2:I)+1 by omega]at er;gi_wp2
  rename_i K2 io K1 il K0 df;have be:(λV:Ub=>Sw (Z wr.1) wr V/\Z V.1=Z wr.1+3/\(∀q v,#[X pa (J K.1) pc,X Z_ (J K.2) ic,H K.3.1,H K.3.a,H K.3.3,H K.3.4][q]?=S v->E V (A (Z wr.1) q)=S v)/\V.rowIs (Z wr.1+1) 113 (J K.2+1) (λ_=>Hq)/\E V (A (Z wr.1+1+1) 0)=S (Hl (Z wr.1+1) (J K.2+1) (J K.2+1))) (D (D (D wr<|.cells #[X pa (J K.1) pc,X Z_ (J K.2) ic,H K.3.1,H K.3.a,H K.3.3,H K.3.4] 71) (Sc (madeCells #[Hq] (J K.2+1)) 113)) (Sc #[Hl (Z wr.1+1) (J K.2+1) (J K.2+1)] 114)):=⟨Xb (Xb (Xb Rf _) _) _,sP,(λq v h=>by
   rw[bP _ _ (A (Z wr.1) q) (by rw[aO,aO];show Z wr.1<_;omega),bP _ _ (A (Z wr.1) q) (by rw[aO];show Z wr.1<_;omega),eC];exact h),(by
   have h:=dG (D wr<|.cells #[X pa (J K.1) pc,X Z_ (J K.2) ic,H K.3.1,H K.3.a,H K.3.3,H K.3.4] 71) Hq (J K.2+1) 113;rw[aO]at h;exact h.of_block<|Below.heap_alloc _ _ _ sP),SC⟩
  generalize (D (D (D wr _) _) _)=wa at*;let⟨V_,bt,ao,cm,ev⟩:=be;have x0:=ao 0 _ R;have x1:=ao 1 _ R;have x2:=ao 2 _ R;have x3:=ao 3 _ R;have x4:=ao 4 _ R;have x5:=ao 5 _ R;have sq:=oB V_ fq<|aI wr _ fq;have fa:=oB V_ cq<|aI wr _ cq;have k8:(e:I)<(m:I):=O;clear er ht ao fq cq f4 f1 c0 c5 c6 c7 c8 c9;refine Tc (λF=>E F (A (Z wr.1) 0)=S (X pa (J K.1) pc)/\E F (A (Z wr.1) 1)=S (X Z_ (J K.2) ic)/\E F (A (Z wr.1) 2)=S (H K.3.1)/\E F (A (Z wr.1) 3)=S (H K.3.a)/\E F (A (Z wr.1) 4)=S (H K.3.3)/\E F (A (Z wr.1) 5)=S (H K.3.4)/\E F (A (Z K_.1) 1)=S (Hl O_ m m)/\E F (A O_ e)=S (Hl (go e) b b)) λhHeld=>?_;refine Yi 0 ?_;refine Yi 1 ?_;refine Yi 2 ?_;refine Yi 3 ?_;refine Yi 4 ?_;refine Yi 5 ?_;refine Yc 6 λdz hK=>?_;go_simp;have ck:Sw (Z wa.1) wa wa.drew:=(Rf).drew;have e6:Z wa.drew.1=Z wr.1+3:=bt;generalize wa.drew=G_ at*;refine⟨trivial,(vF 8 (go e) b b G_).mono ?_⟩;rintro o C⟨rfl,br⟩;have b5:=ck.trans ((show Sw (Z G_.1) G_ C by rw[br];exact Xb (Xb Rf _) _).mono ck.4);have h7:Z C.1=Z wr.1+5:=by rw[br];simp[e6]
  have ap:∀q v,#[X pa (J K.1) pc,X Z_ (J K.2) ic,H K.3.1,H K.3.a,H K.3.3,H K.3.4][q]?=S v->E C (A (Z G_.1) q)=S v:=λq v h=>by
   rw[br,bP _ _ (A (Z G_.1) q) (by rw[aO];show Z G_.1<_;omega),eC];exact h
  have ey:E C (A (Z G_.1+1) 0)=S (Hl (go e) b b):=by rw[br];simp[go_sem]
  have Y_:=λ(b' q:N)(v:Uj)(hc:E wa (A b' q)=S v)=>oB b5 hc<|aI wa _ hc;have z0:=Y_ _ _ _ x0;have z1:=Y_ _ _ _ x1;have z2:=Y_ _ _ _ x2;have z3:=Y_ _ _ _ x3;have z4:=Y_ _ _ _ x4;have z5:=Y_ _ _ _ x5;have zq:=Y_ _ _ _ sq;have zg:=Y_ _ _ _ fa;have eu:=Y_ _ _ _ ev;have gs:=Y<|cm.of_block (b5.5 _ cm.lt);have bl:=Xg V_ b5;have ar:=Y bl;have g2:=Y<|du.of_block (bl.5 _ du.lt);have a5:=(ZH.of_below P_).trans (j.1.trans<|ZH.of_below bl);have ib:=Y a5;have ad:=Y λ(L:Ub)(h:ZH M w L)=>(⟨hO.of_block (h.5 _ hO.1 ch.1) h.4,hT.of_block (h.5 _ hT.1 ch.2.1) h.4,ej.of_block<|h.5 _ (aI w _<|ej 0 vY) ch.2.2⟩:Yy L/\Yb L/\Jn L);have co:YA k B wr C:=λq q1 q2=>bl.5 q<|oN P_.4;have dk:=Y<|gg.keepS co;have db:=Y<|fn.keepS co;have gv:Q (UI K k B (Z G_.1) (Z C.1) (Z C.1) C):=Y ⟨(ad _ a5).1,(ad _ a5).2.1,⟨pa,pc,Z_,ic,ap 0 _ R,ap 1 _ R,⟨ap 2 _ R,ap 3 _ R,ap 4 _ R,ap 5 _ R⟩,dk,db⟩,O,oN P_.4,(ad _ a5).1.1,(ad _ a5).2.1.1,aA⟩;have gt:=Y ey;have dl:=Y eu;have lo:=P_.4;have lx:Z wr.1+3<=Z G_.1:=O;have lz:Z G_.1<=Z wr.1+3:=O;have lv:Z wr.1+5<=Z C.1:=O;have lw:Z C.1<=Z wr.1+5:=O;clear bt e6 h7;refine hK _ _ ⟨z0,z1,z2,z3,z4,z5,zq,zg⟩ λhHeld=>?_;clear hK;refine ZV ?_;have g6:=Y z0;have g7:=Y z1;clear hHeld z0 z1 z2 z3 z4 z5 zq zg x0 x1 x2 x3 x4 x5 sq fa ev eu ey Y_ b5 ap br cm V_ ck a5 co bl;apply df;clear df;gi_wp2
  refine nX (F:=Fence.wide) (n:=9) R vY (gf:=167) (lb:=#[Hn<|Z G_.1+1,Hn (Z G_.1)]) R trivial (enters_of func167 vZ R) (tU (λq=>q=Z wr.1+1) gv gt g2 g3 cf ek (Y ?m1) (Y ?m2) (Y ?m3) (Y ?m4) (Y ?m5) dj gz ac.1 ac.2 gf f7) (λz=>qj _ _ _ _ z) (λh a=>h.trans a) (λW bv e7 o' r t T_=>Zf.putObj W bv e7 o' O t T_) Rf (λ_ _=>R)
   (λz=>Nz n C (Z wr.1+1) (J K.2+1) b z) (λ_ _ _=>False) (λz=>Nz.own n C _ _ _ z) (λ_ _ _ _ _ h _ _=>h) (λ_ z l0 L L_ _ h af=>h.turn af) (λh=>h.elim) ?start
   (λz s a' P=>∃N_:N,a'=⟨#[Sa #[H n,Hm bb oo m c],.func (.func 69) #[] #[Hn bp,Hn bo],Hn (Z w.1),Su,Hn (Z K_.1),Su,H e,Hn (Z wr.1),Hn<|Z wr.1+1+1,H (s.i:I),Hn N_,Su,f 12,f 13,f 14,Su,f 16,Sa #[H n,Hm bb oo m c],Sa #[Hl Gi m m,Hl O_ m m],Sa #[H n,Hm bb oo m c],Sa #[Hl a1 m c1,Hl a2 m c2,Hl a3 m m,Hl a4 J_ c4],Hl a4 J_ c4,H J_,H a,Sb So,Ho a4 a,H e,Ho (Z w.1) 1,Hm bb oo m c,H e,Ho bb<|oo+e*6,Sa #[X pa (J K.1) pc,X Z_ (J K.2) ic,H K.3.1,H K.3.a,H K.3.3,H K.3.4],Ho (Z wr.1) 1,X Z_ (J K.2) ic,H (J K.2:I),H<|(J K.2:I)+1,Hl (Z wr.1+1) (J K.2+1) (J K.2+1),Sa #[X pa (J K.1) pc,X Z_ (J K.2) ic,H K.3.1,H K.3.a,H K.3.3,H K.3.4],Ho (Z K_.1) 1,Hl O_ m m,H e,Ho O_ e,Sa #[Hl (go e) b b],.func (.func 167) #[] #[Hn<|Z G_.1+1,Hn (Z G_.1)],H (s.i:I),Sa #[Hl z b s.C],f 46,f 47,f 48,f 49,f 50,f 51,f 52,f 53,f 54,f 55,f 56,f 57,f 58,f 59,f 60,f 61,f 62,f 63,f 64,f 65,f 66,f 67,f 68,f 69,f 70,f 71,f 72,f 73,f 74,f 75,f 76,f 77,f 78,f 79,f 80,f 81,f 82,f 83,f 84,f 85,f 86,f 87,f 88,f 89,f 90],[]⟩/\Z C.1<=N_/\E P (A N_ 0)=S (Hl z b s.C)) ?ownA ?assign ?body ?done λ_ _ _ _ _ _ h _=>h.elim
  case m1=>intro q r t o;omega
  case m2=>intro o;omega
  case m3=>intro q r o;omega
  case m4=>intro o;have:=hO.1;omega
  case m5=>intro o;have:=hT.1;omega
  case start=>
   intro z P e0 bt hU;exact⟨hU.1,hU.2,hU.3,hU.4,λq r _=>hU.5 q r,⟨e0,bt⟩,O,λ_=>Hq,gs.of_block<|hU.5 _ O,λi _=>bC λq hq=>Sz hq eA⟩
  case ownA=>
   rintro z s a' _ L P row⟨N_,o,r,t⟩ af q;refine⟨N_,o,r,G (Xc<|af.5 N_ (aI L _ t) λe2=>?_) t⟩;let⟨ob,T_,h4⟩:=Yn t;let⟨_,o2,h5,h6⟩:=q N_ e2.symm;rw[show L.1[N_]?=S ob from T_]at h5;injection h5 with h5;subst h5;rw[h4]at h6;cases h6
  case assign=>
   intro l' z b0 s P KK hz D_ R_ ef;have u:=Y D_;have b4:=Y R_;have f6:=Y ef;clear D_ R_ ef;unfold rx;gi_wp2;have bi:Sw (Z P.1) P (D P<|.cells #[Hl z b s.C] 113):=Xb Rf _;exact f6 _ _ ⟨bi.4,λa e7 r _=>G (bi.5 a (aS.1 r).1) r⟩ (Zf.of_below bi u.4) (u.below bi) (tH b4 bi) ⟨Z P.1,R,u.4,SC⟩
  case body=>
   rintro l' z b0 s a' P hz le _ D_ R_⟨N_,rfl,la,en⟩ lg;have u:=Y D_;have b4:=Y R_;have sb:=D_.cell (b:=Z wr.1+1+1) O dl;have hr:s.i<J K.2+1:=oN R_.1.1;have li:(s.i:I)<(J K.2:I)+1:=O;have h8:=D_.4;have cx:=Y<|Kk z b s.C s.W P.drew (Y R_.2.1.drew) O;clear D_ R_;gi_wp2;refine Tc (λF=>E F (A (Z wr.1+1+1) 0)=S (Hl (Z wr.1+1) (J K.2+1) (J K.2+1))/\E F (A N_ 0)=S (Hl z b s.C)) λhHeld=>?_;refine Yi 0 ?_;refine Yi 1 ?_;refine Yi 2 ?_;refine Yc 3 λdz hK=>?_;go_simp;refine⟨trivial,(CallsIn.inRound l'<|bM.2 cx).mono ?_⟩;rintro o U5⟨g5,C5,rfl,hf,a8,ez⟩;have a7:Sw (Z P.1) P U5:=⟨a8.1,a8.2,a8.3,a8.4,a8.5⟩;have gp:=Y<|u.push (s:=s) ⟨b4.2.2,b4.1.2⟩ a7 hf ez;have cv:=Y a7;have e9:=oB a7 sb<|aI P _ sb;have d0:=oB a7 en<|aI P _ en;have da:=Y<|u.below a7;let⟨T5,cl,_⟩:=da.8;have i0:=cl.cell hr;have k3:=cl.frozen s.i;clear a7 a8 ez cx cl;refine hK _ _ ⟨e9,d0⟩ λhHeld=>?_;clear hK;refine Yi 4 ?_;refine Yc 5 λdz hK=>?_;go_simp;refine hK _ _ ⟨G (bH U5 (A (Z wr.1+1) s.i) (A (Z wr.1+1+1) 0) (Hl g5 b C5) sP) e9,G (bH U5 (A (Z wr.1+1) s.i) (A N_ 0) (Hl g5 b C5) (by show Z wr.1+1≠N_;omega)) d0⟩ λhHeld=>?_;clear hK;refine ZV ?_;clear hHeld;gi_wp2;have ep:Zf (Z C.1) (λq=>q=Z wr.1+1) P (Se U5 (A (Z wr.1+1) s.i) (Hl g5 b C5)):=(Zf.of_below cv h8).trans (Zg ⟨R,R,R,SH,λa _ hk=>Below.heap_setCell _ _ _ _ λo=>hk<|by rw[o]⟩ R da.4);refine⟨⟨ep.1,λq ob r t T_=>?_⟩,ep,gp⟩;exact G (Below.heap_setCell _ _ _ _<|by show q≠Z wr.1+1;omega) (G (cv.5 q (aS.1 t).1) t)
  rintro b1 z ss P hD hz ei D_ ee;let⟨zs,cw,Ws,el⟩:=fi C P (Z wr.1+1) z (WX e) di ss ei D_;have ab:=Y el;have u:=Y D_;have ca:=Y ee;have y0:=D_.cell (b:=Z wr.1) O g6;have y1:=D_.cell (b:=Z wr.1) O g7;have sb:=D_.cell (b:=Z wr.1+1+1) O dl;have ce:ZH M wr P:=⟨G u.1 ar.1,G u.2 ar.2,G u.3 ar.3,aJ ar.4 u.4,λq q1 _=>G (u.5 q O O) (ar.5 q q1)⟩;have fl:=Y ce;have b8:=Y<|(ZH.of_below P_).trans (j.1.trans ce);have f5:=Y (hJ.o _ _ _ j.j λq q1 q2=>G (u.5 q O O) (ar.5 q q2));have gl:=Y (dk.keepS λq q1 q2=>u.5 q O O);have fx:=Y (db.keepS λq q1 q2=>u.5 q O O);have dw:=Y λ(L:Ub)(h:ZH M P L)(i:N)(g:i<=J K.2)=>(ab i g).2.2.1.of_block (h.5 _ (ab i g).2.2.1.lt (S_ _<|oN ((ab i g).2.1)));have k5:=u.4;have ga:=Y (show ∀q,M q->q<Z P.1 from λq h=>by have:=cg q h;omega);have dd:Q (∀(af:N->List (N×Wa)) i L L_,Q_ (af i) L->Sw (Z L.1) L L_->Q_ (af i) L_):=Y λaf i L L_ h t=>hJ _ _ _ h λq _ q2=>t.5 q q2;have hj:=ac.2;have hh:=ac.1;clear el D_ ee ei ce;gi_wp2;refine wpIn_wide.2<|F8 (Z wr.1+1+1) (Z wr.1+1) (J K.2) b (zs 0) (cw 0) bp bo (J K.1) pc pa K.1 k B M (λi L=>Q_ (Ko x n (d.take a)++Ni x n e K i) L) P _ _ _ _ _ _ _ _ _ _ _ _ _ _ _ _ _ _ _ _ _ _ _ _ _ _ _ _ _ _ _ _ _ _ _ _ _ _ _ _ _ _ _ _ _ (Y ?hq) gl (Y R) hj bf (Y<|S_.o _ O) (Y<|S_.o _ O) ga sb (ab 0<|aN).1 (Y<|dd.o _) (Y ?stp) (Y ?st0) (Y ?nx)
  case hq=>
   intro c p cr v w h;have r:LeavesInM Fence.wide 9 prog f68 (p.put (S cr) v).1 _ (p.put (S cr) v).2 (.panicking c) w:=h;rw[tF (t:=(p.put (S cr) v).1) (t':=p.1) (by simp[results,results68])]at r;exact r
  case stp=>
   intro i g L bc bd;let⟨bx,o⟩:=gh i g;have hd:=fj i g;let⟨_,_,_,h4,h5,h6⟩:=ab 0<|aN;have bn:=cp _ _ _ bx L (zs 0) b (cw 0) (Ws 0) o bd (dw L bc 0<|aN) h4 h5 cf h6 (ad L<|b8.trans bc).2.2;rw[fR hd.1]at bn;refine bn.mono ?_;rintro o L_⟨r,t,T_⟩;refine⟨r,t,?_⟩;rw[cK]at T_;rw[vW (d:=K.1[i].1.toNat) g (fR hd.1).symm];exact T_
  case st0=>
   have:Ni x n e K 0=[]:=by simp[Ni]
   rw[this,fF];exact f5
  case nx=>
   intro i1 i2 i3 i4 i5 i6 jf jj jl js jv j0 A1 a0 ec;have az:=Y a0;have fz:=Y ec;have h9:=a0.cell (S_ (Z wr.1) O) y1;have e8:=a0.cell (S_ (Z wr.1+1+1) O) sb;have fr:=Y (fx.keepS λq q1 q2=>a0.5 q O<|bf q q1 q2);have k4:=a0.4;clear a0 ec y0 y1 sb;gi_wp2;refine wpIn_wide.2<|F6 (Z wr.1+1+1) (Z wr.1+1) b bp bo (J K.2) ic zs cw Z_ K.2 k B M (λi L=>Q_ (Ko x n (d.take a)++Ni x n e K (J K.1)++VC x n e K i) L) A1 _ _ _ _ _ _ _ _ _ _ _ _ _ _ _ _ _ _ _ _ _ _ _ _ _ _ _ _ _ _ _ _ _ _ _ _ _ _ _ _ _ _ _ _ fr (Y R) hh bf (Y<|S_.o _ O) (Y<|S_.o _ O) e8 (Y λi g=>az.cell (S_ (Z wr.1+1) O) (ab i g).1) dj (Y λL h=>(ad L<|b8.trans (az.trans h)).1) (Y<|dd.o _) (Y ?stp) (Y ?stn) (Y ?st0) (Y ?nx)
   case stp=>
    intro i g hu L bc bd;have hd:=g4 i g hu;let⟨bx,o⟩:=fs i K.2[i].2.toNat g hu (fR hd.1).symm;let⟨_,_,_,h4,h5,h6⟩:=ab (i+1) g;have bn:=cp _ _ _ bx L (zs<|i+1) b (cw<|i+1) (Ws<|i+1) o bd (dw L (az.trans bc) (i+1) g) h4 h5 cf h6 (ad L<|b8.trans (az.trans bc)).2.2;rw[fR hd.1]at bn;refine bn.mono ?_;rintro o L_⟨r,t,T_⟩;refine⟨r,t,?_⟩;rw[cK]at T_;rw[q9 (d:=K.2[i].2.toNat) g hu (fR hd.1).symm];exact T_
   case stn=>
    intro i g hu L bd;rw[xk g hu];exact bd
   case st0=>
    have:VC x n e K 0=[]:=by simp[VC]
    rw[this,fF];exact fz
   intro j1 j2 j3 j4 ka kb kc kd kf kk kl kn ko kq ks kt ku kv kw kx ky kz k2 A2 cd ed;have f0:=Y ed;have cz:=Y<|fl.trans (az.trans cd);have fe:=Y<|G (cd.5 b1 (oN<|(aS.1 ca).1) (S_ _ O)) (G (az.5 b1 (aS.1 ca).1 (S_ _ O)) ca);clear cd ed h9 e8;gi_wp2;refine⟨F7 _ _ (a+1) (b1::ds) O R (Y ⟨j.1.trans cz,?_,?_⟩),?_⟩
   .rw[gb.o];exact f0
   .refine Dx (E6 j.3 cz λq h=>by have:=cg q h;omega) O (λh=>?_) fe;have:=(aS.1<|j.3.3 b1 h).1;omega
   simp[intOf];omega
 have hg:a=J_:=O;subst hg;gi_wp2;refine U4 ds wr j.3 j.1.4 λW' a6=>?_;refine⟨St #[],by simp[results,results68,go_sem],R,?_,?_⟩
 .have lk:=P_.4;have hF:=(ZH.of_below (M:=M) P_).trans j.1;exact⟨G a6.1 hF.1,G a6.2 hF.2,G a6.3 hF.3,aJ hF.4 a6.4,λq q1 q2=>G (a6.5 q O) (hF.5 q q1 q2)⟩
 have h:=j.j;rw[HM.o,gC]at h;rw[<-ge.o];exact hJ _ _ _ h λq q1 _=>a6.5 q<|oN P_.4
end
theorem Oy.same{go:N}{C:Ym}(h:Oy n m k go B g i j C w)(u:k<c/\go<c/\B<c/\g<c/\i<c/\j<c)(a:∀q,q<c->q<Z w.1->v.1[q]?=w.1[q]?):Oy n m k go B g i j C v:=by
 let⟨l,o,p,r,s,t⟩:=u;have d:∀{b:N}{f:Uj},b<c->E w (A b 0)=S f->E v (A b 0)=S f:=λx e=>G (bZ<|a _ x (aI w _ e)) e;exact⟨h.1.of_block<|a _ l h.1.lt,h.o.of_block<|a _ o h.o.lt,h.3.of_block<|a _ p h.3.lt,d r h.4,d s h.5,d t h.6,h.7,h.8,h.9,h.n3,h.n4,h.n5⟩
theorem By(c:N)(w:Ub)(ha:Q (Xp w k B p x))(P:Q (m=J x))(hs:Q (J x+Xx x<=1048576))(hB:B<=Z w.1)(C:Q (Yy w))(K:Q (Yb w))(V_:Q (Jn w))(hv:Q (Ft (n:I) x=0))(hP:Q (YX (X8 x) m l)):
 Sk prog 29 #[Sa #[H n,X p m c]] w λf w'=>∃Q_,f=Rt (Sa #[H 0,Hl Q_ n n,H<|NE (Kq (λ_=>-1) (Ko x n<|XT l m 0)) n])/\Sw (Z w.1) w w'/\Z w.1<=Q_/\HK w' Q_ n n (Kq (λ_=>-1) (Ko x n<|XT l m 0)):=by
 let⟨T,az⟩:=TX hv;have ho:=XH T;have O_:Q (mn n<|Ko x n (XT l m 0)):=Y (by
  have S_:=hP.o;rw[P.o]at S_;have:=vV T az S_;rw[P.o];exact this)
 have hV:=ho.2;have P_:=Y λW (F:Sw (Z w.1) w W)=>Te (n:I) m c (Y<|ha.keep (F.mono hB)) P hs (oN F.4) (Y<|C.keep F C.1) (Y<|K.keep F K.1);rw[hv.o]at P_;have bf:=fM (P:=prog) 35 2 (H 0) 8 underlying35 RH R S6 S6 n O O;have a8:=Y T;have a7:=Y ho;clear T ho az
 go_in
 go_wp2_with fail
 have L:(λd:Ub=>Sw (Z w.1) w d/\Z w.1+2<=Z d.1/\E d (A (Z w.1) 0)=S (H n)/\E d (A (Z w.1) 1)=S (X p m c)/\Q (d.1[Z w.1+1]?=S (Sc #[H 0,Hq,H 0] 45))) (D (D w<|.cells #[H n,X p m c] 40) (Sc #[H 0,Hq,H 0] 45)):=⟨Xb (Xb Rf _) _,sP,SC,SC,(Y (by
  have:=World.alloc_heap_new (D w<|.cells #[H n,X p m c] 40) (Sc #[H 0,Hq,H 0] 45);rwa[aO]at this))⟩
 generalize D (D w _) _=w0 at*;let⟨X_,ch,c0,c1,ao⟩:=L;refine(P_ _ X_).mono ?_;rintro f a⟨rfl,r⟩;have ci:=r.4;have cf:Z w.1<Z a.1:=O;have k0:=G (XU r O) c0;have k1:=G (XU r O) c1;have J_:=Y<|Xg X_ r;have ap:=Y<|G (r.5 _ O) ao;clear X_ r c0 c1 P_ ao;go_wp2_with fail
 have L:(λd:Ub=>Sw (Z a.1) a d/\Z a.1+2<=Z d.1/\Z d.1<=Z a.1+2/\Q (d.rowIs (Z a.1) 2 n λ_=>H 0)/\Q (d.rowIs (Z a.1+1) 45 3 (OX (H 0) (Hl (Z a.1) n n) (H 0)))) (D (D a<|.cells (madeCells #[H 0] n) 2) (Sc #[H 0,Hl (Z a.1) n n,H 0] 45)):=⟨Xb (Xb Rf _) _,sP,sP,Y<|(dG a (H 0) n 2).alloc _,(Y (by
  have h:=eK (D a<|.cells (madeCells #[H 0] n) 2) #[H 0,Hl (Z a.1) n n,H 0] 45 (OX (H 0) (Hl (Z a.1) n n) (H 0)) (λi t=>by match i,t with|0,_=>rfl|1,_=>rfl|2,_=>rfl)
  rw[aO]at h;exact h))⟩
 generalize (D (D a _) _)=w2 at*;let⟨s,br,bt,N_,M_⟩:=L;have ck:=J_.4;let⟨go,ab⟩:∃go,go=Z a.1:=⟨_,R⟩;rw[<-ab]at s br bt N_ M_;rw[<-ab];have cc:Z a.1<=go:=O;have cd:go<=Z a.1:=O;have m0:=G (XU s O) k0;have m1:=G (XU s O) k1;have aq:=Y<|G (s.5 _ O) ap;have af:=Y<|J_.trans (s.mono O);clear bf s k0 k1 ab J_ ap;refine(Bw hV).mono ?_;rintro f b⟨o,q,R_,rfl,g,ce,ca,cb,bh,bi,ac,Z_,aa⟩;have cj:=g.4;have aj:=Y<|Xg af g;have p0:=G (XU g O) m0;have p1:=G (XU g O) m1;have ar:=Y<|G (g.5 _ O) aq;have l1:=ac.lt;have l2:o<Z b.1:=aI b _ Z_;have l3:q<Z b.1:=aI b _ aa;have al:Q (Oy n n R_ go (go+1) (Z b.1) o q (λ_=>-1) (D b<|.cells #[.func (.func 136) #[] #[Hn o,Hn q]] 128)):=Y (by
  refine⟨ac.alloc _,?_,?_,SC,G (bP _ _ _ l2) Z_,G (bP _ _ _ l3) aa,λu _=>bC R,O,⟨O,O⟩,⟨O,O,O⟩,⟨bh,O,O⟩,⟨bi,O,O⟩⟩;·exact HK.of_row<|((N_.of_block<|g.5 _ O).alloc _).congr λi _=>sP
  exact((M_.of_block<|g.5 _ O).alloc _).congr λi t=>by rw[tV])
 have Y_:Sw (Z b.1) b (D b<|.cells #[.func (.func 136) #[] #[Hn o,Hn q]] 128):=Xb Rf _;have e:=Y<|Xg aj Y_;have cl:Z b.1<Z (D b<|.cells #[.func (.func 136) #[] #[Hn o,Hn q]] 128).1:=sP;have ba:=Y<|G (Y_.5 _ O) ar;have cg:Z w.1<Z b.1:=O;have bo:=λ(W:Ub)=>run_store prog W (A (Z b.1) 0) (.func (.func 136) #[] #[Hn o,Hn q]) .plain R;clear g ac Z_ aa N_ M_ m0 m1 aq ar af aj Y_;go_wp2_with fail
 generalize (D b _)=w4 at*;have K_:=Y (Ef c (Z b.1) (go+1) (PJ R_ go<|go+1) (λss bb=>Oy n n R_ go (go+1) (Z b.1) o q (Kq (λ_=>-1) ss) bb) (Y<|ha.keep (e.mono hB)) P hs (oN e.4) (Y<|C.keep e C.1) (Y<|K.keep e K.1) (Y<|V_.of_block (e.5 _<|aI w _ (V_ 0 vY))) a8 a7 hP
  (Y λb7 h=>by obtain h|h|h:=h<;>omega) (Y λb7 S_ h2 h=>by obtain h|h|h:=h<;>omega) (Y (by
   have t1:=C.1;have t2:=K.1;have t3:(4: N)<Z w.1:=aI w _<|V_ 0 vY;exact⟨λh=>by obtain h|h|h:=h<;>omega,λh=>by obtain h|h|h:=h<;>omega,λh=>by obtain h|h|h:=h<;>omega⟩))
  (Y λss a3 A' h bx=>h.same ⟨O,O,O,O,O,O⟩ bx)
  (Y (λa1 a2 a0 b6 a3 cm Kw Cz W f hC hz hd hl hk be bp=>by
   have bq:=O_.1 (a2,a0) (by rw[f];simp);have bl:=TE a1 (λ_=>-1) λb8 ht=>O_.2 a1 (a2,a0) b6 f b8 ht;refine(El (Y hz) (Y hd) (Y bp) hk (Y hl) hV (Y hC) bq (Y bl)).mono ?_;rintro e2 A'⟨q1,q2,q3⟩;refine⟨q1,q2,?_⟩;rw[rl,<-be];exact q3)) (Y<|by simpa [Kq]using al.o))
 have ad:Q (∀u,u<n->0<=Kq (λ_=>-1) (Ko x n<|XT l m 0) u):=Y λu hu=>UP _ _<|aZ (O_.3 u hu);let⟨j,T_⟩:∃j,j=Kq (λ_=>-1) (Ko x n<|XT l m 0):=⟨_,R⟩;simp only[<-T_]at K_ ad;have a6:=Y T_;clear T_;clear al bo;refine K_.mono ?_;rintro f M⟨rfl,U_,z⟩;have a5:=Y z;have v:=Y U_;have b0:=z.3.cell (i:=0) vY;have b1:=z.3.cell (i:=1) vY;have b2:=z.3.cell (i:=2) vY;simp only[OX]at b0 b1 b2;have y:Q (M.rowIs (Z w.1+1) 45 3 (OX (H 0) Hq (H 0))):=Y ⟨_,G (U_.5 _ O λh=>by obtain h|h|h:=h<;>omega) ba,R,λi t=>by match i,t with|0,_=>rfl|1,_=>rfl|2,_=>rfl⟩;clear z U_ K_ p0 p1;have b3:=y.cell (i:=0) vY;have b4:=y.cell (i:=1) vY;have b5:=y.cell (i:=2) vY;have lz:=y.frozen;have bn:∀(W:Ub)(i V:N)(u:Uj),i≠V->E (Se W (A (Z w.1+1) i) u) (A (Z w.1+1) V)=E W (A (Z w.1+1) V):=λW i V u h=>cJ λf=>h<|fI Addr.off f;go_wp2_with fail
 clear b3 b4 b5 lz bn b0 b1 b2;have L_:Q ((Se (Se (Se M (A (Z w.1+1) 0) (H 0)) (A (Z w.1+1) 1) (Hl go n n)) (A (Z w.1+1) 2) (H<|NE j n)).rowIs (Z w.1+1) 45 3 (OX (H 0) (Hl go n n) (H<|NE j n))):=Y<|(((y.set 0 _).set 1 _).set 2 _).congr (λi t=>by match i,t with|0,_=>rfl|1,_=>rfl|2,_=>rfl)
 have bd:Sw (Z w.1) w M:=⟨G v.1 e.1,G v.2 e.2,G v.3 e.3,aJ e.4 v.4,λq' bm=>G (v.5 q' (oN e.4) λh=>by obtain h|h|h:=h<;>omega) (e.5 q' bm)⟩;have L:(λd:Ub=>Q (Sw (Z w.1) w d)/\Q (HK d go n n j)) (Se (Se (Se M (A (Z w.1+1) 0) (H 0)) (A (Z w.1+1) 1) (Hl go n n)) (A (Z w.1+1) 2) (H<|NE j n)):=⟨Y<|((bd.setCell gX _).setCell gX _).setCell gX _,(Y ((((a5.o.o.setOther (by show go≠Z w.1+1;omega) _).setOther (by show go≠Z w.1+1;omega) _).setOther (by show go≠Z w.1+1;omega) _).congr (λu hu=>by
  have:=ad u hu;rw[aM O])))⟩
 generalize (Se (Se (Se M _ _) _ _) _ _)=w9 at*;let⟨a4,a9⟩:=L;have r0:=L_.cell (i:=0) vY;have r1:=L_.cell (i:=1) vY;have r2:=L_.cell (i:=2) vY;simp only[OX]at r0 r1 r2;refine cC (v:=Sa #[H 0,Hl go n n,H<|NE j n]) (by simp[results,results29,go_sem,r0,r1,r2]) R ?_;rw[<-a6.o];exact⟨go,R,a4,O,a9⟩
section
attribute [local go_sem] Oper.semAt_some
structure PG(w3 V:Ub):Prop where
 low:Sw (Z w3.1) w3 V
theorem PG.far(h:PG w v)(k:Sw (Z w.1) v u):PG w u:=⟨h.1.trans k⟩
theorem PG.own(a:Ub):OwnFrom (Z a.1) (λ(_:List Sd)=>PG a):=λf V c row h k q=>by
 have:=h.1.4;exact h.far ⟨k.1,k.2,k.3,k.4,λb d=>k.5 b O λe=>by have:=(q b e.symm).1;omega⟩
theorem Dd(h:∀c∈l,0<=c/\c<t)(d:∀u∈s,u<J l):jn l s c↔∃v∈s,US l v=c:=by
 unfold jn US NG;constructor
 .rintro⟨v,a,b⟩;refine⟨v,a,?_⟩;rw[bF,b];rfl
 rintro⟨v,a,b⟩;refine⟨v,a,?_⟩;rw[bF,aC<|d v a,gR]at b;rw[aC<|d v a];have:=(h _<|aH (d v a)).1;exact fI S O
theorem EG(h:∀c∈l,0<=c/\c<(n:I))(a:m<J l):US l m<n:=by
 unfold US NG;rw[bF,aC a,gR];have:=h _<|aH a;omega
theorem My(v:Uy)(r c:N)(c8 bh:N)(b y:N)(ha:Q (Xp w c8 bh v x))(hx:Q (r=J x))(hs:Q (J x+Xx x<=1048576))(hB:bh<=Z w.1)(hO:Q (Yy w))(hT:Q (Yb w))(hZ:Q (Jn w))(Y_:Q (Xf w n m p l))(a4:Q (b=J l))(c9:m<=Z w.1)(ep:b<=1048576)(hq:Q (Pm t x l T)):
 Sk prog 63 #[Sa #[H t,X v r c],X p b y,H T] w λe w'=>e=Rt (Sb So)/\Sw (Z w.1) w w':=by
 have a7:=Y λW (K:Sw (Z w.1) w W)=>Te t r c (Y<|ha.keep (K.mono hB)) hx hs (oN K.4) (Y<|hO.keep K hO.1) (Y<|hT.keep K hT.1);rw[hq.1]at a7;refine(bM (n:=10)).1 ?_;refine callsIn_of_wp_marks func63 R trivial ?_ R;simp only[ntmps63,xY,Nat.reduceAdd,Nat.reduceSub];gi_wp2
 have db:(λN_:Ub=>Sw (Z w.1) w N_/\Z w.1+4<=Z N_.1/\E N_ (A (Z w.1) 0)=S (H t)/\E N_ (A (Z w.1) 1)=S (X v r c)/\E N_ (A (Z w.1+1) 0)=S (X p b y)/\E N_ (A (Z w.1+2) 0)=S (H T)/\Q (N_.rowIs (Z w.1+3) 4 1 λ_=>Sb Sn)) (D (D (D (D w<|.cells #[H t,X v r c] 40) (Sc #[X p b y] 35)) (Sc #[H T] 2)) (Sc #[Sb Sn] 4)):=⟨Xb (Xb (Xb (Xb Rf _) _) _) _,sP,SC,SC,SC,SC,(Y (by
  have h:=eK (D (D (D w<|.cells #[H t,X v r c] 40) (Sc #[X p b y] 35)) (Sc #[H T] 2)) #[Sb Sn] 4 (λ_=>Sb Sn) (λap hi=>by match ap,hi with|0,_=>rfl)
  rw[aO,aO,aO]at h;exact h))⟩
 generalize D (D (D (D w _) _) _) _=w0 at*;let⟨bc,et,c0,c1,c2,c3,bv⟩:=db;refine⟨trivial,(bM.2<|a7 w0 bc).mono ?_⟩;rintro e C⟨rfl,F⟩;have eu:=F.4;have k0:=G (XU F O) c0;have k1:=G (XU F O) c1;have k2:=G (XU F O) c2;have k3:=G (XU F O) c3;have ar:=Y<|bv.of_block (F.5 _ O);have k4:=ar.cell (i:=0) vY;have k5:=ar.frozen 0;have bi:=Y<|Xg bc F;clear F bc c0 c1 c2 c3 a7 bv;let⟨ci,dj,dk,cf,b5,cg⟩:=hq.o;obtain rfl:t=(b:I):=by rw[<-cf,a4.o]
 have a6:=Y<|XH (pM ci);have aq:=Y b5;have cx:=Y cg;clear ci cf b5 cg;have du:((b:I) != (b:I))=Sn:=sP;have eg:=a6.2;have bm:Q (∀(q:N)(h:q<b),∃L_ L,p=S (A L_ L)/\E C (A L_<|L+q)=S (H<|NG l q)/\∃h:q<J l,NG l q=l[q]):=Y (λq hq=>by
  have al:q<J l:=by rw[<-a4.o];exact hq
  let⟨L_,L,e,K,h⟩:=Y_ q al;have e2:NG l q=l[q]:=by
   unfold NG;rw[bF,aC al];rfl
  refine⟨L_,L,e,?_,al,e2⟩;rw[e2];exact G (XU bi O) h)
 gi_wp2
 gi_loop [30] (λap=>∃q:N,q<=b/\ap=H q) λap=>b-(intOf ap).toNat
 case atStart=>exact⟨0,aN,R⟩
 obtain⟨q,es,rfl⟩:=hrel;by_cases dn:q<b
 .obtain⟨L_,L,rfl,e0,al,eq⟩:=bm q dn;have hC:=aq _<|aH al;rw[<-eq]at hC;let⟨ea,eb⟩:=hC;clear eq;generalize NG l q=d0 at*;have er:(q:I)<(b:I):=O;gi_wp2;exact⟨⟨q+1,O,gM⟩,SA⟩
 obtain rfl:q=b:=O;clear bm k4 k5;obtain⟨M,rfl⟩:=bX (show 0<=T by omega);gi_wp2;generalize decide ((M:I)<0)=d1;generalize decide (2000<(M:I))=d2;generalize (d1||d2)=d3;refine⟨trivial,(Wx 9 C).mono ?_⟩;rintro e P⟨rfl,ao⟩;have ab:Sw (Z C.1) C P:=by rw[ao];exact Xb Rf _
 have ev:Z C.1+1<=Z P.1:=by rw[ao,aO];exact aA
 have b8:E P (A (Z C.1) 0)=S (H q):=by rw[ao];simp[go_sem]
 have ca:E P (A (Z C.1) 1)=S (X v r c):=by rw[ao];simp[go_sem]
 have V:=Y<|Xg bi ab;have co:=Y<|G (XU ab O) k2;have cp:=Y<|G (XU ab O) k3;have bx:=Y<|ar.of_block (ab.5 _ O);let⟨i,ce⟩:∃be,be=(q+63)/64:=⟨_,R⟩;have cw:=Y ce;have da:i<=100:=O;let⟨s,cd⟩:∃be,be=(M+63)/64:=⟨_,R⟩;have cv:=Y cd;have ed:s<=100:=O;have dl:M<=64*s:=O;have ee:=hO.1;have ef:=hT.1;have di:(4: N)<Z w.1:=aI w _<|hZ 0 vY;have ck:=Y<|ha.keep (V.mono hB);have cz:=Y<|hO.keep V hO.1;have c7:=Y<|hT.keep V hT.1;have cm:=Y b8;have cn:=Y ca;have hn:r<=1000:=oP hx.o a6.1.2;clear ab ao ce cd b8 ca k0 k1 k2 k3 ar dj dk du;gi_wp2
 refine nX (F:=Fence.wide) (n:=10) R vY (gf:=125) (lb:=#[Hn (Z C.1)]) R trivial (enters_of func125 vZ R) (uF (λz=>z=Z w.1+3) cm cn ck hx O aA cz c7 O O a6 cw (Y λz d f e=>O) (Y λz d e=>O) (Y λe=>O) (Y λe=>O)) (λz=>un z) (λh T=>h.trans T) (λW dw L o' d f Z_=>Zf.putObj W dw L o' O f Z_) Rf (λ_ _=>R)
  (λ_ _=>PG P) (λ_ a5 _=>∃M_∈a5,¬((On (64*i) M_).map (US l)).Nodup) (λ_=>PG.own P) (λc M_ O_ dz row h T q=>h) (λ_ z M_ O_ A' hz h k=>h.far ⟨k.1,k.2,k.3,k.4,λL_ K=>k.5 L_ (oN h.1.4) λe=>by injection e with e;omega⟩) (λ_=>⟨λz z' M_ O_ A' _ h T=>h.far<|T.mono O,λc M_ O_ A' h T=>h⟩) (λz B _ _ hU=>⟨hU⟩)
  (λz a a' B=>∃u:N,a'=⟨#[Sa #[H q,X v r c],X p q y,H M,Hn (Z w.1),Hn<|Z w.1+1,Hn<|Z w.1+1+1,Hn<|Z w.1+1+1+1,Su,u8,Hn u,Sa #[H q,X v r c],H 0,Sb Sn,Sb Sn,H M,Sb d1,Sb d1,Sb d1,H M,Sb d2,Sb d3,Sb d3,X p q y,H q,Hn (Z w.1),H q,Sb Sn,Sb d3,X p q y,H q,H q,Sb Sn,u32,u33,u34,u35,u36,u37,u38,u39,u40,u41,Sa #[H q,X v r c],.func (.func 125) #[] #[Hn (Z C.1)],Sa #[Hl z i a.C],Su,Su,Su,Su,Su,Su,Su,Su],[]⟩/\Z P.1<=u/\E B (A u 0)=S (Hl z i a.C)) ?ownA ?assign ?body ?done ?stop
 case ownA=>
  rintro z a a' _ O_ B row⟨u,e,d,f⟩ k qq;refine⟨u,e,d,G (Xc<|k.5 u (aI O_ _ f) λe2=>?_) f⟩;let⟨ob,Z_,h4⟩:=Yn f;let⟨_,o2,h5,h6⟩:=qq u e2.symm;rw[show O_.1[u]?=S ob from Z_]at h5;injection h5 with h5;subst h5;rw[h4]at h6;cases h6
 case assign=>
  intro l' z a5 a B KK hz g o b4;have C_:=Y g;have c6:=Y o;have ct:=Y b4;clear g o b4;unfold ru;gi_wp2;have aj:Sw (Z B.1) B (D B<|.cells #[Hl z i a.C] 113):=Xb Rf _;exact ct _ _ ⟨aj.4,λT L d _=>G (aj.5 T (aS.1 d).1) d⟩ (Zf.of_below aj C_.1.4) (C_.far<|aj.mono C_.1.4) (th c6 aj) ⟨Z B.1,R,C_.1.4,SC⟩
 case body=>
  rintro l' z a5 a a' B hz em _ g o⟨u,rfl,ei,b6⟩ en;have C_:=Y g;have bd:=g.1.4;have e2:=G (XU g.1 O) co;have e3:=G (XU g.1 O) cp;have Q_:=Y<|bx.of_block (g.1.5 _ O);have az:=Y<|V.trans (g.1.mono V.4);have bq:=Y λW (R_:Sw (Z B.1) B W)=>VA y (Y<|o.2.1.of_block (R_.5 z o.2.1.lt)) (Y o.2.2) (Y<|Y_.keep ((az.trans<|R_.mono az.4).mono c9)) a4 (oN R_.4) (Y<|hZ.of_block ((az.trans<|R_.mono az.4).5 _ di)) da (Y o.1) O cv (Y λc Y_=>aZ<|aq c Y_);have bo:=Y λW k j (d:Cp W k s s j) (f:XA j)=>AF k s s j W (Y f) (Y d) O;have br:=Y λW (R_:Sw (Z B.1) B W)=>Kl z i a.C a.W W (Y o.2.2) (Y<|o.2.1.of_block (R_.5 z o.2.1.lt)) O;have bt:Q (∀j,(∀c,c<64*s->(Xh j c=So↔jn l (Mq a.W<|64*i) c))->(NO j s<NO a.W i↔¬((On (64*i) a).map (US l)).Nodup)):=Y (λj h=>by
   have hl:∀bf∈Mq a.W (64*i),bf<J l:=λbf hu=>by
    have d:=om.1 hu;rw[<-a4.o];exact o.1 bf d.1 d.2
   rw[qV,qV];exact Eo (λc Y_=>(h c Y_).trans (Dd aq hl)) λt hv=>aX (EG aq<|hl t hv) dl)
  clear g o;gi_wp2;refine Tc (λw'=>E w' (A u 0)=S (Hl z i a.C)/\E w' (A (Z w.1+1) 0)=S (X p q y)/\E w' (A (Z w.1+2) 0)=S (H M)) λhHeld=>?_;refine Yi 0 ?_;refine Yi 1 ?_;refine Yi 2 ?_;refine Yi 5 ?_;refine Yc 3 λa8 hK=>?_;go_simp;refine⟨trivial,(CallsIn.inRound l'<|bM.2 (bq B.drew (Below.refl (Z B.1) B).drew)).mono ?_⟩;rintro e J_⟨k,j,rfl,el,S_,cj,b7,ch⟩;have ac:Sw (Z B.1) B J_:=⟨S_.1,S_.2,S_.3,S_.4,S_.5⟩;have cl:=Y ac;have a1:=oB ac b6<|aI B _ b6;have a2:=oB ac e2<|aI B _ e2;have a3:=oB ac e3<|aI B _ e3;have bn:=Y<|bo.o J_ k j cj b7;have cq:=Y<|bt.o j ch;have b1:=Y<|br.o;have ej:=TB j s;have ek:=TB a.W i;clear ac S_ cj b7 ch bq bo bt br;refine hK _ _ ⟨a1,a2,a3⟩ λhHeld=>?_;clear hK;refine Yc 4 λa8 hK=>?_;go_simp;refine⟨trivial,(CallsIn.inRound l'<|bM.2 bn).mono ?_⟩;rintro e K_⟨rfl,V_⟩;have ad:Sw (Z J_.1) J_ K_:=⟨V_.1,V_.2,V_.3,V_.4,V_.5⟩;have bl:=Y<|Xg cl ad;have a9:=oB ad a1<|aI J_ _ a1;have ba:=oB ad a2<|aI J_ _ a2;have bb:=oB ad a3<|aI J_ _ a3;have b3:=Y<|b1.o K_ bl;generalize NO j s=nT at*;generalize NO a.W i=nV at*;clear ad V_ bn b1;refine hK _ _ ⟨a9,ba,bb⟩ λhHeld=>?_;clear hK;refine Yc 6 λa8 hK=>?_;go_simp;refine⟨trivial,(CallsIn.inRound l'<|bM.2 b3).mono ?_⟩;rintro e U7⟨rfl,X_⟩;have af:Sw (Z K_.1) K_ U7:=⟨X_.1,X_.2,X_.3,X_.4,X_.5⟩;have B_:=Y<|Xg bl af;have g1:=oB af a9<|aI K_ _ a9;have g2:=oB af ba<|aI K_ _ ba;have g3:=oB af bb<|aI K_ _ bb;clear af X_ b3;refine hK _ _ ⟨g1,g2,g3⟩ λhHeld=>?_;clear hK;refine Yc 7 λa8 hK=>?_;go_simp;refine hK _ _ kP λhHeld=>?_;clear hK;refine ZV ?_;clear hHeld;have b0:=Y<|Q_.of_block (B_.5 _ Q_.lt);have r7:=b0.cell (i:=0) vY;have f7:=b0.frozen 0;by_cases eo:(nT:I)<(nV:I)
  .gi_wp2;have cb:Zf (Z P.1) (λz=>z=Z w.1+3) B (Se U7 (A (Z w.1+3) 0) (Sb Sn)):=(Zf.of_below B_ bd).trans (Zg ⟨R,R,R,SH,λT _ hk=>Below.heap_setCell _ _ _ _ λe=>hk<|by rw[e]⟩ R (oN B_.4));refine⟨⟨cb.1,λz ob d f Z_=>G (Below.heap_setCell _ _ _ _<|by show z≠Z w.1+3;omega) (G (B_.5 z (aS.1 f).1) f)⟩,cb,a,fB _<|cS.2 R,cq.1 O⟩
  gi_wp2;exact⟨⟨B_.4,λz ob d f Z_=>G (B_.5 z (aS.1 f).1) f⟩,Zf.of_below B_ bd,⟨C_.1.trans<|B_.mono bd⟩⟩
 case done=>
  rintro P_ z ss B hD hz dc g a0;have C_:=Y g;have cr:=Y a0;have Q_:=Y<|bx.of_block (g.1.5 _ O);have r7:=Q_.cell (i:=0) vY;have f7:=Q_.frozen 0;have ec:=(aS.1 a0).1;clear g a0 dc;gi_wp2
  have cs:Q ((Se B (A (Z w.1+3) 0) (Sb So)).1[P_]?=S (.deferred (S []))):=Y (G (Below.heap_setCell _ _ _ _<|by show P_≠Z w.1+3;omega) cr);have ds:E ((Se B (A (Z w.1+3) 0) (Sb So)).putObj P_ (.deferred U)) (A (Z w.1+3) 0)=S (Sb So):=by
   refine G (bZ (a:=(A (Z w.1+3) 0)) (World.putObj_heap_other<|show Z w.1+3≠P_ by omega)) ?_;simpa using(Q_.set 0<|.bool So).cell (i:=0) vY
  refine YK cs ⟨Sb So,by simp[results,results63,go_sem,ds],?_⟩;have df:=V.trans<|C_.1.mono V.4;have aa:Sw (Z w.1) w (Se B (A (Z w.1+3) 0) (Sb So)):=df.setCell (by show Z w.1<=Z w.1+3;omega) _;have hg:=grownBy_putObj' (Se B (A (Z w.1+3) 0) (Sb So)) P_ (.deferred U);have ey:=V.4;exact⟨R,G hg.1 aa.1,G hg.2 aa.2,G hg.3 aa.3,aJ aa.4 hg.4,λz hz=>G (World.putObj_heap_other O) (aa.5 z hz)⟩
 rintro P_ c' a5 B hD dd⟨M_,hs,K⟩ a0;refine Sz (cx _ ?_) K;rw[show((q:I)).toNat=q from R,<-hx.o];exact dd.subset<|aY.2 ⟨M_,hs,R⟩
end
section
attribute [local go_sem ↓] Go.wp_at_zero Go.wp_at_succ
theorem Wcm_(w:Ub):Sx (D w (Sc #[] 5)) (Z w.1) 5 1 (X (S ⟨Z w.1,0,U⟩) 0 0) 0 []:=by
 have:=eI (base:=Z w.1) (e:=5) (size:=1) w #[] 0 sP sP R;simpa using this
theorem Wcn_(V:I)(h:Uy)(n c:N)(a:List ag)(ac F:N)(w:Ub)(ha:Q (d7 w ac F h a))(x:Q (n=J a))(K:Q (J a+Wae_ a<=16777216))(L:F<=Z w.1):
 Sk prog 12 #[Sa #[Si S6 V,X h n c]] w λf w'=>∃v,f=Rt v/\Sw (Z w.1) w w'/\v≠X U 0 0/\Sx w' (Z w.1) 5 1 v (J (Wcz_ V a)) (Wab_<|Wcz_ V a):=by
 cases hv:Wao_ V a with
 |false=>
  have W:=Y hv;have G_:Q (Wcz_ V a=[]):=Y (by unfold Wcz_;rw[hv];rfl);clear hv
  go_in
  go_wp2_with (go_at_call 22;refine(Wcj_ (Y<|ha.keep ((Xb (Below.refl (Z w.1) w) _).mono L)) x K SB).mono ?_;rintro f b⟨rfl,e⟩;rw[W.o])
  go_ret;have hz:=e.size;simp at hz;refine⟨_,R,Xb (((Xb (Below.refl (Z w.1) w) _)).trans (e.mono sP)) _,sP,?_⟩;rw[G_.o];exact Zk (Wcm_ _) O
 |true=>
  have W:=Y hv;have G_:Q (Wcz_ V a=Wcr_ V a):=Y (by unfold Wcz_;rw[hv];rfl);obtain⟨O_,P_⟩:=Wcy_ hv;have O1:=Y O_;have O2:=Y P_;have hn:n<=16777216:=by have:=x.o;have:=K.o;omega
  have Y_:Q (J (Wcr_ V a)<=1000000000000):=Y (by have:=Wcv_ O_ P_;have p:=K.o;omega);clear hv O_ P_;have HF:Q (∀b,Sw (Z (D w (Sc #[Si S6 V,X h n c] 30)).1) (D w (Sc #[Si S6 V,X h n c] 30)) b->Z w.1<Z b.1/\E b ⟨Z w.1,0,U⟩=S (Si S6 V)/\E b ⟨Z w.1,1,U⟩=S (X h n c)/\Q (Sw (Z w.1) w b)):=Y (λb e=>by
   refine⟨by have:=e.size;simp at this;omega,G (e.cell (p:=⟨Z w.1,0,U⟩) sP) sP,G (e.cell (p:=⟨Z w.1,1,U⟩) sP) sP,Y<|(Xb (Below.refl (Z w.1) w) _).trans (e.mono sP)⟩)
  have a9:Q (J ([]:Wn)+J (Wbg_ [109,97,99,104] [V])<=1000000000000):=Y (by have:=Y_.o;unfold Wcr_ at this;simp only[aQ,bO]at this |-;omega)
  go_in
  go_wp2_with (go_at_call 22;refine(Wcj_ (Y<|ha.keep ((Xb (Below.refl (Z w.1) w) _).mono L)) x K SB).mono ?_;rintro f b⟨rfl,e⟩;rw[W.o];obtain⟨M_,k0,N_,S_⟩:=HF.o _ e;clear e)
  go_wp2_with (go_at_call 11;refine(Wbw_ (D b (Sc #[] 5)) sP sP (Y<|Wcm_ b) (Y sP) a9 λv B=>by simp at B;exact B▸O1.o).mono ?_;rintro f Q_⟨x2,rfl,r,t,u⟩)
  have z:Q (Sw (Z b.1) b Q_):=Y<|r.below (Wcm_ b) ((Rf).alloc (aA) _) sP;have l:=Y t;have m:=Y u;have bq:=z.size;have q1:=G (z.cell (p:=⟨Z w.1,1,U⟩) M_) N_;have a2:Q (d7 b ac F h a):=Y<|ha.keep (S_.mono L);clear r t u k0;go_wp2
  go_loopw [3,4] (λR_ i wr=>∃k:N,k<=n/\i=Si S6 k/\Q (Sw (Z b.1) b wr)/\Q (R_≠X U 0 0)/\Q (Sx wr (Z b.1) 5 1 R_ (J (Wbg_ [109,97,99,104] [V]++(a.take k).flatMap Wcq_)) (Wab_<|Wbg_ [109,97,99,104] [V]++(a.take k).flatMap Wcq_))) λ_ i _=>n-(intOf i).toNat
  case atStart=>exact⟨0,aN,R,z,l,Y<|by simpa using m.o⟩
  clear z l m bq q1;obtain⟨k,hk,rfl,y,Z_,I_⟩:=hrel;have az:=y.size;have q1:=G (y.cell (p:=⟨Z w.1,1,U⟩) M_) N_;have ca:Z w.1<Z wr.1:=O;by_cases b7:k<n
  .have M:k<J a:=by have:=x.o;omega
   have HK:=Y<|O2.o a[k] (aH M);obtain⟨br,o_,rfl,⟨bx,bt⟩,hc⟩:=a2.o k M;obtain⟨ia,ic,e1,⟨t0,t1,t2,t3⟩,hi⟩:=hc;have HI:=Y hi;have a4:=Y e1;have bn:=Y<|And.intro t0 (And.intro t1<|And.intro t2 t3);clear hi e1 t0 t1 t2 t3;have HT:Q (Wbg_ [109,97,99,104] [V]++(a.take<|k+1).flatMap Wcq_=(Wbg_ [109,97,99,104] [V]++(a.take k).flatMap Wcq_)++Wcq_ a[k]):=Y (by rw[X7 M,eZ];simp);have P:Q (J (Wbg_ [109,97,99,104] [V]++(a.take k).flatMap Wcq_)+J (Wcq_ a[k])<=1000000000000):=Y (by have d:=Y_.o;have p:=Wbx_ Wcq_ M;unfold Wcr_ at d;rw[p]at d;simp only[aQ]at d |-;omega);generalize a[k]=o at*;generalize Wbg_ [109,97,99,104] [V]++(a.take k).flatMap Wcq_=T at*;have ba:Q (J T+J (Wbg_ [98,108,111,99,107] [])<=1000000000000):=Y (by have:=P.o;unfold Wcq_ at this;simp only[aQ]at this;omega);go_wp2_with (go_at_call 11;refine(Wbw_ wr R az I_ Z_ ba λv B=>by simp at B).mono ?_;rintro f Q_⟨x2,rfl,r,t,u⟩)
   have U_:Q (Gr wr Q_ u3 x2):=Y r;have l:=Y t;have m:=Y u;clear r t u;have W_:Q (∀g v,Gr wr g u3 v->Sw (Z b.1) b g/\Z b.1<=Z g.1):=Y (λg v hg=>by
    have d:=hg.below I_.o y.o az;exact⟨d,d.size⟩)
   have b1:J o.is<=1000000000000:=by
    have d:=P.o;have p:=Wby_ Wa1_ (λR_=>Wbz_) o.is;unfold Wcq_ Wco_ at d;simp only[aQ]at d;omega
   generalize u3=a1 at*;generalize wr=wo at*;go_wp2
   go_loopw [3,5] (λv i g=>∃q:N,q<=J o.is/\i=Si S6 q/\Q (Gr wo g a1 v)/\Q (v≠X U 0 0)/\Q (Sx g (Z b.1) 5 1 v (J (T++(Wbg_ [98,108,111,99,107] []++(o.is.take q).flatMap Wa1_))) (Wab_<|T++(Wbg_ [98,108,111,99,107] []++(o.is.take q).flatMap Wa1_)))) λ_ i _=>J o.is-(intOf i).toNat
   case atStart=>exact⟨0,aN,R,U_,l,Y<|by simpa using m.o⟩
   clear U_ l m q1;obtain⟨q,hq,rfl,H_,aa,ab⟩:=hrel;obtain⟨C,ar⟩:=W_.o _ _ H_.o;have r1:=G (C.cell (p:=⟨Z w.1,1,U⟩) M_) N_;have e1:=G (XU C O) a4.o;have j:=Y C;have b8:Z w.1<Z wr.1:=O;clear C;have b5:(0:I)<=(k:I):=O;have b6:(k:I)<(n:I):=O;by_cases s:q<J o.is
   .obtain⟨b',o',rfl,⟨b0,bv⟩,ad⟩:=HI.o q s
    obtain⟨d0,d1,d2,d3,d4⟩:=ad.keepS<|j.block b' O;have bc:Q (J (T++(Wbg_ [98,108,111,99,107] []++(o.is.take q).flatMap Wa1_))+J (Wa1_ o.is[q])<=1000000000000):=Y (by
     have d:=P.o;have p:=Wcp_ (t:=o.te) s;unfold Wcq_ at d;simp only[aQ]at d p |-;omega)
    have a8:=Y<|HK.is o.is[q] (aH s);have bl:=Y<|HK.ops o.is[q] (aH s);have bo:=Y<|Wb0_ Wa1_ s;generalize o.is[q]=bp at*;have K_:Q (T++(Wbg_ [98,108,111,99,107] []++(o.is.take<|q+1).flatMap Wa1_)=(T++(Wbg_ [98,108,111,99,107] []++(o.is.take q).flatMap Wa1_))++Wa1_ bp):=Y (by rw[bo.o];simp);generalize T++(Wbg_ [98,108,111,99,107] []++(o.is.take q).flatMap Wa1_)=TT at*;clear ad;have b3:(0:I)<=(q:I):=O;have b4:(q:I)<(J o.is:I):=O;go_wp2_with (go_at_call 23;refine(Wa2_ ar bl.o ab aa bc a8).mono ?_;rintro f w4⟨x4,rfl,af,al,ap⟩)
    have a5:Q (Gr wo w4 a1 x4):=Y<|H_.trans af;have bd:=Y al;have bf:Q (Sx w4 (Z b.1) 5 1 x4 (J (T++(Wbg_ [98,108,111,99,107] []++(o.is.take<|q+1).flatMap Wa1_))) (Wab_<|T++(Wbg_ [98,108,111,99,107] []++(o.is.take<|q+1).flatMap Wa1_))):=Y (by rw[K_.o];exact ap);clear af al ap;go_wp2;exact⟨⟨q+1,O,gM,a5,bd,bf⟩,SA⟩
   obtain⟨u0,u1,u2,a0⟩:=bn.o
   have e2:=G (XU j.o O) u0;have e3:=G (XU j.o O) u1;have e4:=G (XU j.o O) u2;have e5:=G (XU j.o O) a0;clear u0 u1 u2 a0;have bm:Q (Sx wr (Z b.1) 5 1 u3 (J (T++(Wbg_ [98,108,111,99,107] []++o.is.flatMap Wa1_))) (Wab_<|T++(Wbg_ [98,108,111,99,107] []++o.is.flatMap Wa1_))):=Y (by have:=ab.o;rwa[aW O]at this);have K_:Q (Wbg_ [109,97,99,104] [V]++(a.take<|k+1).flatMap Wcq_=(T++(Wbg_ [98,108,111,99,107] []++o.is.flatMap Wa1_))++Wbj_ o.te):=Y (by rw[HT.o];simp[Wcq_,Wco_]);have bb:Q (J (T++(Wbg_ [98,108,111,99,107] []++o.is.flatMap Wa1_))+J (Wbj_ o.te)<=1000000000000):=Y (by
    have d:=P.o;unfold Wcq_ Wco_ at d;simp only[aQ]at d |-;omega)
   generalize T++(Wbg_ [98,108,111,99,107] []++o.is.flatMap Wa1_)=TT at*;have a7:=Y HK.te;have a6:=Y HK.kind;go_wp2_with (go_at_call 24;refine(Wbm_ ar a6.o bm aa bb a7).mono ?_;rintro f w5⟨x5,rfl,aj,ao,aq⟩)
   have a3:Q (Sw (Z b.1) b w5):=Y (W_.o _ _<|H_.trans aj).1;have be:=Y ao;have bi:Q (Sx w5 (Z b.1) 5 1 x5 (J (Wbg_ [109,97,99,104] [V]++(a.take<|k+1).flatMap Wcq_)) (Wab_<|Wbg_ [109,97,99,104] [V]++(a.take<|k+1).flatMap Wcq_)):=Y (by rw[K_.o];exact aq);clear aj ao aq;go_wp2;exact⟨⟨k+1,O,gM,a3,be,bi⟩,SA⟩
  have bh:Q (Sx wr (Z b.1) 5 1 u3 (J (Wcr_ V a)) (Wab_<|Wcr_ V a)):=Y (by have:=I_.o;rwa[aW (by have:=x.o;omega)]at this);go_wp2;go_ret;refine⟨_,R,S_.trans<|y.mono O,Z_.o,?_⟩;rw[G_.o];exact Zk bh.o O
end
theorem Wb3_.block{t:TypeId}(h:Wb3_ n w v)(a:∃c b,w.1[m]?=S (Sc c t b))(e:t≠5):v.1[m]?=w.1[m]?:=by
 obtain⟨c,b,a⟩:=a;exact G (h.kept m _ a sP λf g d=>by cases d;exact e R) a.symm
theorem Wcf_{d:Wn}{b:Vr}{tg:I}(hB:n<=Z w.1)(hM:i<=n)(hi:Q (YY w g i p b))(hx:Q (m=J b))(hn:m<=16777216)(bh:Q (∀h∈b,1<=h.op/\h.op<=13))(x:1<=B)(N_:B<=3)(ap:0 < n/\1 < n)(ho:Q (Sx w n 5 1 a (J d) (Wab_ d)))(aq:Q (J d+J (Wco_ b ⟨B,t,tg,T⟩)<=1000000000000))(ba:Q (∀h∈b,∀v∈[h.dst,h.a,h.b,h.imm],Wbn_ v))(bb:Q (∀v∈[t,tg,T],Wbn_ v))(a0:Q (Wb1_ n w))(ht:Q (Yy w))(hT:Q (Yb w)):
 Sk prog 32 #[a,X p m k,Sa #[Si S6 B,Si S6 t,Si S6 tg,Si S6 T]] w λj r=>∃v,j=Rt v/\Wb3_ n w r/\Sx r n 5 1 v (J (d++Wco_ b ⟨B,t,tg,T⟩)) (Wab_<|d++Wco_ b ⟨B,t,tg,T⟩):=by
 go_in
 go_wp2;have l:∃c M,(D w (Sc #[Si S6 B,Si S6 t,Si S6 tg,Si S6 T] 54)).1[Z w.1]?=S (Sc c 54 M):=⟨_,_,heap_alloc_new w _⟩;have C:Va (D w (Sc #[Si S6 B,Si S6 t,Si S6 tg,Si S6 T] 54)) (Z w.1) 0 ⟨B,t,tg,T⟩:=by refine⟨?_,?_,?_,?_⟩<;>simp
 have O_:Z (D w (Sc #[Si S6 B,Si S6 t,Si S6 tg,Si S6 T] 54)).1=Z w.1+1:=sP;have a2:Q (Wb3_ n w<|D w (Sc #[Si S6 B,Si S6 t,Si S6 tg,Si S6 T] 54)):=Y<|(Wb3_.refl n w).alloc hB _;have al:Q (Sx (D w (Sc #[Si S6 B,Si S6 t,Si S6 tg,Si S6 T] 54)) n 5 1 a (J d) (Wab_ d)):=Y<|ho.alloc _;generalize (D w (Sc #[Si S6 B,Si S6 t,Si S6 tg,Si S6 T] 54))=W0 at*;have af:=Y l;have a1:=Y C;have a8:=Y O_;clear l C O_
 go_loopw [0,11] (λv h wr=>∃q:N,q<=m/\h=Si S6 q/\Q (Wb3_ n W0 wr)/\Q (Sx wr n 5 1 v (J (d++(b.take q).flatMap Wa1_)) (Wab_<|d++(b.take q).flatMap Wa1_))) λ_ h _=>m-(intOf h).toNat
 case atStart=>exact⟨0,aN,R,Y<|Wb3_.refl _ _,Y<|by simpa using al.o⟩
 clear al;obtain⟨q,hq,rfl,HK,HO⟩:=hrel;have bp:Z w.1+1<=Z wr.1:=by have x:=HK.below.size;have N_:=a8.o;omega
 have P:Q (Wb3_ n w wr):=Y<|a2.trans HK.o;by_cases bo:q<m
 .have L:q<J b:=by have:=hx.o;omega
  obtain⟨bl,o_,rfl,⟨bn,bm⟩,⟨d0,d1,d2,d3,d4⟩⟩:=(hi.keepS<|YA.of_below (P.below.mono hM)) q L;have a5:Q (J (d++(b.take q).flatMap Wa1_)+J (Wa1_ b[q])<=1000000000000):=Y (by have x:=aq.o;have N_:=Wcp_ (t:=⟨B,t,tg,T⟩) L;rw[aQ];omega);have a3:=Y<|ba.o b[q] (aH L);have Z_:=Y<|bh.o b[q] (aH L);have a9:=Y<|Wb0_ Wa1_ L;generalize b[q]=ao at*;have HX:Q (d++(b.take<|q+1).flatMap Wa1_=(d++(b.take q).flatMap Wa1_)++Wa1_ ao):=Y (by rw[a9.o];simp);generalize d++(b.take q).flatMap Wa1_=TT at*;obtain⟨op,u,y,z,o⟩:=ao;obtain⟨e,hm⟩:=bX (show 0<=op by have:=Z_.o;simp only at this;omega);subst hm;simp only at d0 d1 d2 d3 d4;have ar:1<=e:=by have:=Z_.o;simp only at this;omega
  have az:e<=13:=by have:=Z_.o;simp only at this;omega
  go_wp2_with fail
  have O_:Z (D wr (Sc #[Si S6 e,Si S6 u,Si S6 y,Si S6 z,Si S6 o] 59)).1=Z wr.1+1:=sP;have C:Jk (D wr (Sc #[Si S6 e,Si S6 u,Si S6 y,Si S6 z,Si S6 o] 59)) (Z wr.1) 0 ⟨e,u,y,z,o⟩:=by refine⟨?_,?_,?_,?_,?_⟩<;>simp
  have l:∃c M,(D wr (Sc #[Si S6 e,Si S6 u,Si S6 y,Si S6 z,Si S6 o] 59)).1[Z wr.1]?=S (Sc c 59 M):=⟨_,_,heap_alloc_new wr _⟩;have aj:Q (Wb3_ n wr<|D wr (Sc #[Si S6 e,Si S6 u,Si S6 y,Si S6 z,Si S6 o] 59)):=Y<|(Wb3_.refl n wr).alloc O _;have a7:Q (Sx (D wr (Sc #[Si S6 e,Si S6 u,Si S6 y,Si S6 z,Si S6 o] 59)) n 5 1 u0 (J TT) (Wab_ TT)):=Y<|HO.alloc _;generalize (D wr (Sc #[Si S6 e,Si S6 u,Si S6 y,Si S6 z,Si S6 o] 59))=f at*;have ad:Q (Wb3_ n w f):=Y<|P.trans aj.o;have g0:E f ⟨Z wr.1,0,U⟩=S (Si S6 e):=C.1;have s:Q (Yy f):=Y<|ht.keep ad.below O;have g1:E f ⟨0,e*5,U⟩=S (Sg (K8<|bz e)):=(s.2 e ar az).1;obtain⟨bi,K,V,W⟩:=Wcd_ O ar az ap O C l a7.o a5.o a3.o (a0.on ad.below) s.o;have F:=Y K;have U_:=Y V;have P_:=Y W;have bf:Z wr.1<Z f.1:=O;have hz:0 < Z f.1:=s.1;clear K V W C l O_ d0 d1 d2 d3 d4;have bc:(0:I)<=(e:I):=O;have bd:(e:I)<14:=O;have be:e<14:=O;have Q_:Q (Sw (Z f.1) f f):=Y<|Rf;have R_:Q (Sw (Z f.1) f f.drew):=Y (Rf).drew
  go_region_held3 (λr=>E r ⟨Z wr.1,0,U⟩=S (Si S6 e)/\E r ⟨0,e*5,U⟩=S (Sg (K8<|bz e))) (go_keep)
   (first
    |(go_at_call 75;with_reducible refine(F.o f Q_.o).mono ?_;rintro j w5⟨fa,fc,rfl,D_,G_,f1,f2⟩)
    |(go_at_call 75;with_reducible refine(F.o f.drew R_.o).mono ?_;rintro j w5⟨fa,fc,rfl,D_,G_,f1,f2⟩)
    |(go_at_call 74;with_reducible refine(U_.o _ _ _ D_.o G_.o).mono ?_;rintro j w6⟨qa,qc,rfl,S_,aa,f3,f4⟩)
    |(go_at_call 14;with_reducible refine(P_.o _ _ _ _ _ S_.o aa.o).mono ?_;rintro j M_⟨v7,rfl,V_,X_,f5,f6⟩))
  all_goals
   have W_:Q (Wb3_ n W0 M_):=Y<|(HK.trans aj.o).trans V_.o;have Y_:Q (Sx M_ n 5 1 v7 (J (d++(b.take<|q+1).flatMap Wa1_)) (Wab_<|d++(b.take<|q+1).flatMap Wa1_)):=Y (by rw[HX.o];exact X_.o);go_wp2;exact⟨⟨q+1,O,gM,W_,Y_⟩,SA⟩
 have a6:Q (Sx wr n 5 1 u0 (J (d++b.flatMap Wa1_)) (Wab_<|d++b.flatMap Wa1_)):=Y (by have:=HO.o;rwa[aW (by have:=hx.o;omega)]at this);have HX:Q (d++Wco_ b ⟨B,t,tg,T⟩=(d++b.flatMap Wa1_)++Wbj_ ⟨B,t,tg,T⟩):=Y (by unfold Wco_;simp);have a4:Q (J (d++b.flatMap Wa1_)+J (Wbj_ ⟨B,t,tg,T⟩)<=1000000000000):=Y (by have x:=aq.o;unfold Wco_ at x;rw[aQ]at x |-;omega);generalize d++b.flatMap Wa1_=TT at*;have ac:=HK.block af.o vY;have ab:Va wr (Z w.1) 0 ⟨B,t,tg,T⟩:=a1.keepS ac;have l:∃c M,wr.1[Z w.1]?=S (Sc c 54 M):=by rw[ac];exact af.o
 have g0:E wr ⟨Z w.1,0,U⟩=S (Si S6 B):=ab.1;have s:Q (Yb wr):=Y<|hT.keep P.below O;have g1:E wr ⟨1,B*4,U⟩=S (Sg (K8<|gx B)):=(s.2 B x N_).1;obtain⟨bi,K,V,W⟩:=Wce_ O x N_ ap O ab l a6.o a4.o bb.o (a0.on P.below) s.o;have F:=Y K;have U_:=Y V;have P_:=Y W;have bf:Z w.1<Z wr.1:=O;have hz:1 < Z wr.1:=s.1;clear K V W ab l ac;have bc:(0:I)<=(B:I):=O;have bd:(B:I)<4:=O;have be:B<4:=O;have Q_:Q (Sw (Z wr.1) wr wr):=Y<|Rf;have R_:Q (Sw (Z wr.1) wr wr.drew):=Y (Rf).drew;go_wp2_with fail
 go_region_held3 (λr=>E r ⟨Z w.1,0,U⟩=S (Si S6 B)/\E r ⟨1,B*4,U⟩=S (Sg (K8<|gx B))) (go_keep)
  (first
   |(go_at_call 76;with_reducible refine(F.o wr Q_.o).mono ?_;rintro j w5⟨fa,fc,rfl,D_,G_,f1,f2⟩)
   |(go_at_call 76;with_reducible refine(F.o wr.drew R_.o).mono ?_;rintro j w5⟨fa,fc,rfl,D_,G_,f1,f2⟩)
   |(go_at_call 74;with_reducible refine(U_.o _ _ _ D_.o G_.o).mono ?_;rintro j w6⟨qa,qc,rfl,S_,aa,f3,f4⟩)
   |(go_at_call 14;with_reducible refine(P_.o _ _ _ _ _ S_.o aa.o).mono ?_;rintro j M_⟨v7,rfl,V_,X_,f5,f6⟩))
 all_goals
  have W_:Q (Wb3_ n w M_):=Y<|P.trans V_.o;have Y_:Q (Sx M_ n 5 1 v7 (J (d++Wco_ b ⟨B,t,tg,T⟩)) (Wab_<|d++Wco_ b ⟨B,t,tg,T⟩)):=Y (by rw[HX.o];exact X_.o);go_wp2;go_ret;exact⟨_,R,W_.o,Y_.o⟩
end Go.Proofs.YtnggdhnpjfigjaaGreatDoor
