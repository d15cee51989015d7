import Derived.Test.YtcfdhbigppockaaGreatDoorLO7
import Derived.Test.YtcfdhbigppockaaGreatDoorPS1
import Derived.Test.YtcfdhbigppockaaGreatDoorMK2
import Derived.Test.YtcfdhbigppockaaGreatDoorQP
namespace Go.Proofs.YtcfdhbigppockaaGreatDoor
set_option maxHeartbeats 4000000
set_option maxRecDepth 100000
open Go.RowKit Go.Proofs.Tryz Go.Shelf
variable{t T z:Int}{n m k B c:Nat}{w v u:Ub}{a:Uj}{p:Uy}{s:Wa}{l L:Wc}{x:Wi}{y:Wo}
section
theorem uL{tg:Yr}{r:Nat}{P:Wc}(h:YX tg r P):∀(m b:Nat),Re tg b->(XT P m b).Pairwise λc e=>¬JO tg e c
 |0,b,_=>by simp[XT]
 |m+1,b,hb=>by
  rw[XT,List.pairwise_cons];refine⟨λx d i=>?_,?_⟩
  .obtain⟨c,a,d⟩:=bV.1 d;have j:=Kf h a;exact j.2<|Z1 j.1 (J8 (Ji h m c x j.1.2 d) i)
  rw[iK];refine⟨λc a=>uL h m c (Kf h a).1.2,?_⟩;have p:(Nj P b).Nodup:=List.nodup_range.sublist jR;refine jT (λ{c e} a i l x d y q g=>?_) p;have f:=Kf h a;have id:=Kf h i;have n:=Ji h m c x f.1.2 d;have o:=J8 (Ji h m e y id.1.2 q) g;obtain k|k:=TY n o;·exact f.2<|Z1 f.1 (id.3 c k l)
  exact id.2<|Z1 id.1 (f.3 e k λg=>l g.symm)
structure PP(V:Nat)(xs:Wi)(b k:Nat)(s:Nat×Wa):Prop where
 lt:s.1<V
 df:Wl xs s.1 b k
 bn:b<xs.length
 kn:∀x,xs[b]?=some x->k<=x.2.length
 st:∀x,xs[b]?=some x->s.2=Uq xs x V b k
theorem WL{V:Nat}{xs:Wi}(d:Jy V xs){b:Nat}{x:Xe}(e:xs[b]?=some x){s:Nat×Wa}(h:s∈Ni xs V b x x.1.length):PP V xs b 0 s:=by
 unfold Ni at h;rw[gC]at h;obtain⟨p,c,rfl⟩:=aY.1 h;have f:=eN e;have g:=d.8 x f p c;refine⟨by show p.1.toNat<V;omega,?_,(cV.1 e).1,λ_ _=>aN,λz a=>by rw[e]at a;cases a;rfl⟩;show Yo xs b p.1.toNat=true;unfold Yo;rw[e];exact XD.2<|aY.2 ⟨p,c,oM⟩
theorem UZ{V:Nat}{xs:Wi}(c:Jy V xs){b:Nat}{x:Xe}(e:xs[b]?=some x):∀(k:Nat){s:Nat×Wa},s∈VC xs V b x k->∃j,j<k/\PP V xs b (j+1) s
 |0,s,h=>by cases h
 |k+1,s,h=>by
  rw[VC]at h;obtain h|h:=bU.1 h
  .obtain⟨j,g,h⟩:=UZ c e k h;exact⟨j,oM,h⟩
  cases ey:x.2[k]? with
  |none=>rw[ey]at h;cases h
  |some y=>
   rw[ey]at h;obtain⟨v,hv,rfl⟩:=aY.1 h;have d:=c.6 x (eN e) y (eN ey) v hv;have f:=(cV.1 ey).1;refine⟨k,iJ,by show v.toNat<V;omega,⟨x,y,e,ey,?_⟩,(cV.1 e).1,λz a=>by rw[e]at a;cases a;exact f,λz a=>by rw[e]at a;cases a;rfl⟩;show((v.toNat:Nat):Int)∈BW y;rw[fR d.1];exact hv
theorem qR{V:Nat}{xs:Wi}(a:Jy V xs){b:Nat}{s:Nat×Wa}(h:s∈OV xs V b):∃k,PP V xs b k s:=by
 unfold OV at h;cases e:xs[b]? with
 |none=>rw[e]at h;cases h
 |some x=>
  rw[e]at h;obtain h|h:=bU.1 h;·exact⟨0,WL a e h⟩
  let⟨j,_,h⟩:=UZ a e _ h;exact⟨j+1,h⟩
def PX(xs:Wi)(s t:Nat×Wa):Prop:=∀b i,OD xs s.1 b i->OD xs t.1 b i->s.1∈t.2
section
variable {V: Nat} {xs: Wi} (hv: XJ ⟨(V: Int), xs⟩ = true) (hr: Jq xs) (hns: ¬ ∃ x, N4 xs x)
include hv hr hns
theorem oY{d k e m:Nat}{s t:Nat×Wa}(c:PP V xs d k s)(a:PP V xs e m t)(j:∀b,JO (X8 xs) d b->JO (X8 xs) e b->JO (X8 xs) d e)(l:d=e->k<=m):PX xs s t:=λb o f g=>by
 have n:=XH hv;have i:=j b (WG hv hr hns c.2 f).1 (WG hv hr hns a.2 g).1;have h:=DP hv hr hns n.1 c.2 a.2 f g i l;rw[a.5 _<|aC a.3];exact OD.to_ c.1 a.3 h
theorem uH{b:Nat}{x:Xe}(e:xs[b]?=some x):∀k,(VC xs V b x k).Pairwise (PX xs)
 |0=>lU
 |k+1=>by
  have d:=XH hv;rw[VC,kY];refine⟨uH e k,?_,λs c t a=>?_⟩
  .cases ey:x.2[k]? with
   |none=>exact lU
   |some y=>
    show(List.map _<|BW y).Pairwise _;unfold BW;cases dB y.1<;>simp
  obtain⟨n,j,c⟩:=UZ d e k c
  obtain⟨i,l,f⟩:=UZ d e (k+1) (s:=t) (by rw[VC];exact fB _ a);have m:i=k:=by
   cases ey:x.2[k]? with
   |none=>rw[ey]at a;cases a
   |some y=>
    rw[ey]at a;obtain⟨v,g,rfl⟩:=aY.1 a;have h:=d.6 x (eN e) y (eN ey) v g;have:=(Wl.one hv f.2 (b':=b) (k':=k+1) ⟨x,y,e,ey,by show((v.toNat:Nat):Int)∈_;rw[fR h.1];exact g⟩).2;omega
  exact oY hv hr hns c f (λ_ _ _=>Zd<|hr b c.3) λ_=>oM
theorem DG(b:Nat):(OV xs V b).Pairwise (PX xs):=by
 have c:=XH hv;unfold OV;cases e:xs[b]? with
 |none=>exact lU
 |some x=>
  show(_++_:List _).Pairwise _;rw[kY];refine⟨?_,uH hv hr hns e _,λs h t i=>?_⟩
  .rw[gY];intro k j f g _;have a:=WL c e<|aH f;have d:=WL c e<|aH g;exact oY hv hr hns a d (λ_ _ _=>Zd<|hr b a.3) λ_=>aA
  have a:=WL c e h;let⟨j,_,d⟩:=UZ c e _ i;exact oY hv hr hns a d (λ_ _ _=>Zd<|hr b a.3) λ_=>aN
theorem D7{P:Wc}(k:YX (X8 xs) xs.length P):(Ko xs V<|XT P xs.length 0).Pairwise (PX xs):=by
 have f:=XH hv;unfold Ko;rw[iK];refine⟨λd _=>DG hv hr hns d,?_⟩;refine(uL k xs.length 0 Re.root).imp λ{c l} e s a t b=>?_;let⟨m,a⟩:=qR f a;let⟨n,b⟩:=qR f b;refine oY hv hr hns a b (λd i j=>?_) λg=>?_
 .rcases TY i j with h|h;·exact h
  exact absurd h e
 subst g;exact absurd (Zd<|hr c a.3) e
end
theorem uu{V:Nat}{d:List (Nat×Wa)}(h:mn V d){b c:List (Nat×Wa)}{t:Nat×Wa}(e:d=b++t::c){s:Nat×Wa}(a:s∈b++[t]):∀r∈c,r.1≠s.1:=λr hr=>by
 obtain⟨f,g,rfl⟩:=kD hr;have:=h.2 (b++t::f) r g (by rw[e];simp) s (by
  obtain a|a:=bU.1 a;·exact dD _ a
  rw[cS.1 a];exact fB _ cI)
 exact λq=>this q.symm
theorem wS{V:Nat}{c:List (Nat×Wa)}(h:mn V c){a b:List (Nat×Wa)}{t:Nat×Wa}(e:c=a++t::b)(C:Ym):Kq C c t.1=(Nx (Kq C a) t.2:Int)/\(∀s∈a,Kq C c s.1=Kq C a s.1)/\Kq C a t.1=C t.1:=by
 have e1:Kq C c=Kq (Nn (Kq C a) t) b:=by rw[e];unfold Kq;rw[dT];rfl
 refine⟨?_,λs d=>?_,TE a C λs d=>h.2 a t b e s d⟩
 .rw[e1,TE b _<|uu h e (fB _<|cS.2 rfl)];unfold Nn;rw[aU rfl]
 rw[e1,TE b _<|uu h e (dD _ d)];unfold Nn;rw[aM<|h.2 a t b e s d]
theorem F3{V:Nat}{xs:Wi}{b:List (Nat×Wa)}(h:mn V b)(k:b.Pairwise (PX xs))(C:Ym){u w d i:Nat}(o:u<V)(p:w<V)(m:u≠w)(g:OD xs u d i)(j:OD xs w d i):Kq C b u≠Kq C b w:=by
 have l:∀(s t:Nat×Wa)(c f:List (Nat×Wa)),b=c++t::f->s∈c->OD xs s.1 d i->OD xs t.1 d i->Kq C b s.1≠Kq C b t.1:=λs t c f e a q r=>by
  let⟨q1,q2,_⟩:=wS h e C;rw[q1,q2 s a];rw[e,kY]at k;exact(oa _ _).1 s.1 (k.2.2 s a t cI d i q r)
 obtain⟨s,a,rfl⟩:=h.3 u o;obtain⟨t,n,rfl⟩:=h.3 w p;let⟨c,f,e⟩:=kD n;rw[e]at a;obtain a|a:=bU.1 a;·exact l s t c f e a g j
 obtain a|a:=cH.1 a;·exact absurd (by rw[a]) m
 let⟨v,x,e2⟩:=kD a;exact λy=>l t s (c++t::v) x (by rw[e,e2];simp) (fB _ cI) j g y.symm
theorem Fk{V:Nat}{b:List (Nat×Wa)}(h:mn V b){t:Nat×Wa}(j:t∈b)(d:t.1∈t.2):Kq (λ_=>-1) b t.1+1<=t.2.length:=by
 let⟨a,m,e⟩:=kD j;let⟨q1,_,q3⟩:=wS h e λ_=>-1;rw[q1];have g:=(oa (Kq (λ_=>-1) a) t.2).2;generalize Nx (Kq (λ_=>-1) a) t.2=c at*;have f:=K3 (A:=List.range c) (B:=(t.2.erase t.1).map λu=>(Kq (λ_=>-1) a u).toNat) kS (λx l=>by
  let⟨u,k,e⟩:=g x<|bE.1 l;have i:u≠t.1:=λe2=>by rw[e2,q3]at e;omega
  exact aY.2 ⟨u,(iF i).2 k,by rw[e];rfl⟩)
 rw[bK,fP d,gI]at f;have:=eJ d;omega
theorem wh{C:Ym}{M:Int}(a:0<=M):∀V,(∀u,u<V->C u+1<=M)->NE C V<=M
 |0,_=>a
 |V+1,h=>by
  rw[NE];have b:=wh a V λu d=>h u oM;have c:=h V<|iJ;omega
theorem qZ{C:Ym}{u:Nat}:∀V,u<V->C u+1<=NE C V
 |V+1,h=>by
  rw[NE];by_cases e:u=V;·subst e;omega
  have:=qZ (C:=C) V (show u<V by omega);omega
theorem vu{xs:Wi}{V:Nat}{l:Wa}(h:l∈Zw xs V xs.length):∃(b:Nat)(f:b<xs.length)(i:Nat),i<=xs[b].2.length/\l=Uq xs xs[b] V b i:=by
 let⟨s,a,c⟩:=bV.1 h;have a:=bE.1 a;let⟨i,d,e⟩:=(Jr a).1 c;exact⟨s,a,i,d,e⟩
theorem wO(xs:Wi)(x:Xe)(V b i:Nat):(Uq xs x V b i).Nodup:=by
 unfold Uq;exact List.nodup_range.sublist jR
theorem FD{xs:Wi}{V:Nat}{l:Wa}(h:l∈Zw xs V xs.length):l.length<=NW (Zw xs V xs.length):=(TL).1 aA l h
theorem EM{V:Nat}{xs:Wi}{P:Wc}(hv:XJ ⟨(V:Int),xs⟩=true)(hr:Jq xs)(hns:¬∃x,N4 xs x)(j:YX (X8 xs) xs.length P):
 NE (Kq (λ_=>-1) (Ko xs V<|XT P xs.length 0)) V=(NW (Zw xs V xs.length):Int)/\(∀l∈Zw xs V xs.length,(l.map λu=>(Kq (λ_=>-1) (Ko xs V<|XT P xs.length 0) u).toNat).Nodup)/\∀u,u<V->0<=Kq (λ_=>-1) (Ko xs V<|XT P xs.length 0) u:=by
 have C:=XH hv;have i:=vV hv hr j;have D:=D7 hv hr hns j;have g:∀u,u<V->0<=Kq (λ_=>-1) (Ko xs V<|XT P xs.length 0) u:=λu c=>UP _ _<|aZ (i.3 u c)
 have E:∀v∈Ko xs V (XT P xs.length 0),∃b k,PP V xs b k v:=λv a=>by
  let⟨b,_,a⟩:=bV.1 a;let⟨k,a⟩:=qR C a;exact⟨b,k,a⟩
 generalize K:Ko xs V (XT P xs.length 0)=e at*;have p:∀l∈Zw xs V xs.length,(l.map λu=>(Kq (λ_=>-1) e u).toNat).Nodup:=λl d=>by
  obtain⟨b,m,G,n,rfl⟩:=vu d;show List.Pairwise _ _;rw[List.pairwise_map];refine jT (λ{u H} c r B I=>?_) (wO xs xs[b] V b G);have f:=JF d c;have s:=JF d r;have:=F3 i D (λ_=>-1) f s B (OD.of m n c) (OD.of m n r);have w:=g u f;have y:=g H s;omega
 refine⟨?_,p,g⟩;have w:NE (Kq (λ_=>-1) e) V<=(NW (Zw xs V xs.length):Int):=wh oM V (λu c=>by
  obtain⟨t,q,rfl⟩:=i.3 u c;let⟨b,k,a⟩:=E t q;have e2:=a.5 _<|aC a.3;have o:=a.4 _<|aC a.3;have A:t.1∈t.2:=by
   rw[e2];exact OD.to_ a.1 a.3 ⟨xs[b]'a.3,aC a.3,o,bC a.2⟩
  have h:=Fk i q A;have z:=FD<|bV.2 ⟨b,bE.2 a.3,(Jr a.3).2 ⟨k,o,e2⟩⟩;omega)
 have y:NW (Zw xs V xs.length)<=(NE (Kq (λ_=>-1) e) V).toNat:=(TL).2 (λl d=>by
  have h:=YS (p l d) (n:=(NE (Kq (λ_=>-1) e) V).toNat) (λx F=>by
   obtain⟨u,c,rfl⟩:=aY.1 F;have f:=JF d c;have z:=qZ (C:=Kq (λ_=>-1) e) V f;have J:=g u f;omega)
  rw[bK]at h;exact h)
 have h:=UJ (Kq (λ_=>-1) e) V;omega
theorem B7{xs:Wi}{V:Nat}:NW (Zw xs V xs.length)<=V:=(TL).2 (λl a=>by
 obtain⟨c,d,i,_,rfl⟩:=vu a;exact YS (wO _ _ _ _ _) λu b=>JF a b)
end
theorem xU:∀y∈(ah l x n t m).2,y.1.length<=4128:=by
 unfold ah;split;·simp
 intro y a;simp only[cS]at a;subst a;have:=m8<|NU l x n t;show(NL l x n t).length<=4128;unfold NL;omega
theorem Il(a:Wc)(c:Wi)(b:Nat)(x:Xe)(m:Nat)(e:x.2.length<=4000):(Nk a c b x m).1.1.length<=4128/\∀y∈(Nk a c b x m).2,y.1.length<=4128:=by
 unfold Nk;split
 .refine⟨?_,sP⟩;have:=m8<|NU a c b x.3.3;show(x.2.map (ZR a)++NL a c b x.3.3).length<=4128;rw[aQ,bK];unfold NL;omega
 split
 .refine⟨by show(x.2.map<|ZR a).length<=4128;rw[bK];omega,λy d=>?_⟩;obtain h|h:=bU.1 d;·exact xU y h
  exact xU y h
 exact⟨by show(x.2.map<|ZR a).length<=4128;rw[bK];omega,sP⟩
theorem xP(c:Wc)(a:Wi)(e:∀x∈a,x.2.length<=4000):∀b,b<=a.length->(∀y∈(ae c a b).1,y.1.length<=4128)/\∀y∈(ae c a b).2,y.1.length<=4128
 |0,_=>by simp[ae]
 |b+1,h=>by
  obtain⟨f,g⟩:=xP c a e b oM;let⟨i,j⟩:=Il c a b a[b] (a.length+(ae c a b).2.length) (e _<|aH _);rw[ou c a b oM];refine⟨λy d=>?_,λy d=>?_⟩
  .rcases bU.1 d with h|h;·exact f y h
   rw[cS.1 h];exact i
  obtain h|h:=bU.1 d;·exact g y h
  exact j y h
theorem yo(b:Wc)(a:Wi)(j:a.length<=1000)(e:∀x∈a,x.2.length<=4000):(NK b a).length<=3000/\∀y∈NK b a,y.1.length<=4128:=by
 unfold NK;have g:=ll b a a.length<|aA;have i:=oz b a a.length<|aA;let⟨c,d⟩:=xP b a e a.length<|aA;refine⟨by rw[aQ];omega,λy f=>?_⟩;obtain h|h:=bU.1 f;·exact c y h
 exact d y h
theorem pM(h:Ft t x=0):XJ ⟨t,x⟩=true:=by
 unfold Ft at h;by_cases a:XJ ⟨t,x⟩=false;·rw[aU a]at h;omega
 simpa using a
theorem HK.ints{D:Ym}(h:HK w n m k D):Xf w 0 w.1.size (some ⟨n,0,none⟩) ((List.range m).map D):=λi a=>by
 simp only[bK,gI]at a;refine⟨n,0,rfl,⟨aN,h.lt⟩,?_⟩;simp only[cM,dW,aV];exact h.cell a
noncomputable def PK(V:Nat)(a:Wi):Ym:=Kq (λ_=>-1) (Ko a V<|XT ((List.range a.length).map (L0<|(List.range a.length).map (Zq (X8 a) a.length))) a.length 0)
noncomputable def OJ(V:Nat)(a:Wi):Wc:=(List.range V).map (PK V a)
theorem wK(h:Ft (n:Int) x=0){k:Int}(v:(NW (Zw x n x.length):Int)<=k)(w:k<=64):Pm (n:Int) x (OJ n x) k:=by
 let⟨d,e⟩:=TX h;have q:=XH d;have p:¬∃s,N4 x s:=λm=>by
  rw[qg d e m]at h;omega
 let⟨g,i,j⟩:=EM d e p q.1.model;have t:NE (PK n x) n=(NW (Zw x n x.length):Int):=g;refine⟨h,oM,oM,by simp[OJ],λc o=>?_,λl b=>?_⟩
 .obtain⟨u,a,rfl⟩:=aY.1 o;have a:=bE.1 a;have:=qZ (C:=PK n x) n a;exact⟨j u a,oM⟩
 have f:l.map (US<|OJ n x)=l.map λu=>(PK n x u).toNat:=by
  apply gH;intro u a;have r:u<n:=JF b a;unfold US NG OJ;rw[bF,dX,iQ r];rfl
 rw[dM]at b;rw[f];exact i l b
structure Pg where
 co:Int
 li:Int
 ne:Int
 k:Int
 l:List ag
noncomputable def f8(o:jg)(k:Int):Pg :=
 if o.1≠0 then ⟨o.1,o.2,0,0,[]⟩else if Ft o.3.1 o.3.2≠0 then ⟨Ft o.3.1 o.3.2,0,0,0,[]⟩else if k<1\/64<k then ⟨12,0,0,0,[]⟩
 else if k<NW (Zw o.3.2 o.3.1.toNat o.3.2.length)then ⟨13,0,NW<|Zw o.3.2 o.3.1.toNat o.3.2.length,0,[]⟩
 else ⟨0,0,NW<|Zw o.3.2 o.3.1.toNat o.3.2.length,k,NK (OJ o.3.1.toNat o.3.2) o.3.2⟩
theorem Lu{a:Wn}(ha:Hs (Yx w m k p a))(b:Hs (n=a.length))(o:n<=c)(l:n<=9223372036854775807)(f:k<=w.1.size):
 Calls prog 12 #[.slice p n c] w λg e=>∃val,g=.returned val/\Below w.1.size w e/\nN e w.1.size e.1.size val (C2 a):=by
 by_cases h:100000<n;·exact JU b h l
 by_cases d:a.getLast?=some 10
 .have i:0<a.length:=by
   cases a with
   |nil=>cases d
   |cons x s=>simp
  obtain⟨q,r,rfl,⟨_,j⟩,-⟩:=ha 0 i;exact KM ha b (oN b.o) oM o f j (Xa d)
 exact JH ha b oM f<|Xa d
structure TF(w:Ub)(L:Nat)(vals:Wo)(fl:Tm):Prop where
 len:vals.length=fl.length
 at_:∀(j:Nat)(h:j<fl.length),∃a c,vals[j]?=some (.slice a fl[j].length c)/\Xf w L w.1.size a fl[j]
theorem TF.nil(w:Ub)(L:Nat):TF w L [] []:=⟨rfl,λj h=>absurd h sP⟩
theorem TF.app{v1 v2:Wo}{f1 f2:Tm}(a:TF w n v1 f1)(d:TF w n v2 f2):TF w n (v1++v2) (f1++f2):=by
 refine⟨by rw[aQ,aQ,a.1,d.1],λj f=>?_⟩;rw[aQ]at f;by_cases e:j<f1.length
 .let⟨b,c,e1,e2⟩:=a.2 j e;refine⟨b,c,?_,?_⟩
  .rw[dL (by rw[a.1];exact e),fA e];exact e1
  rw[fA e];exact e2
 let⟨b,c,e1,e2⟩:=d.2 (j-f1.length) oM;refine⟨b,c,?_,?_⟩
 .rw[eV (by rw[a.1];omega),a.1,fN oM];exact e1
 rw[fN oM];exact e2
theorem Cc{f:Tj}(q:XR w n m (some ⟨k,0,none⟩) ((List.range B).map f))(s:m<=w.1.size):∃o:Wo,TF w n o ((List.range B).map f)/\(∀j u,o[j]?=some u->w.cell? (Hk k j)=some u)/\∀u∈o,∃b t c,u=.slice b t c:=by
 have e:∀j,j<B->∃v:Uj,w.cell? (Hk k j)=some v/\∃b c,v=.slice b (f j).length c/\Xf w n w.1.size b (f j):=λj a=>by
  let⟨x,A,g,z,b,c,i,p⟩:=q j (by simpa using a);simp only[cM,dW]at i p;injection g with g;injection g with e1 e2;subst e1 e2;rw[aV]at i;exact⟨_,i,b,c,rfl,p.mono aA s⟩
 refine⟨(List.range B).map λj=>if a:j<B then (e j a).choose else Hq,⟨sP,λj a=>?_⟩,λj u d=>?_,λu d=>?_⟩
 .have l:j<B:=by simpa using a
  let⟨y,b,c,h,r⟩:=(e j l).choose_spec;refine⟨b,c,?_,?_⟩
  .rw[dX,iQ l];simp only[jY,l,dif_pos,cM,dW];rw[h]
  simp only[cM,dW];exact r
 .by_cases a:j<B
  .rw[dX,iQ a]at d;simp only[jY,a,dif_pos]at d;injection d with d;rw[<-d];exact(e j a).choose_spec.1
  rw[dK<|by simp;omega]at d;cases d
 obtain⟨j,a,rfl⟩:=aY.1 d;have a:=bE.1 a;simp only[a,dif_pos];let⟨_,b,c,h,_⟩:=(e j a).choose_spec;exact⟨b,_,c,h⟩
structure PS(w2 wr:Ub)(b0 L:Nat)(u:Uj)(fl:Tm):Prop where
 os:wr.4=w2.4
 tape:wr.2=w2.2
 output:wr.5=w2.5
 size:w2.1.size<=wr.1.size
 fr:∀q,q<w2.1.size->q≠b0->wr.1[q]?=w2.1[q]?
 ob:∀q,u.ownBlock=some q->q=b0\/w2.1.size<=q
 own:∃vals:Wo,TF w2 L vals fl/\wr.ownsRow b0 80 1 u fl.length vals
theorem PS.push{wr:Ub}{u':Uj}{c f2:Tm}{v2:Wo}(h:PS w wr n m a c)(k:TF w m y c)(f:TF w m v2 f2)(b:wr.grownBy v a.ownBlock)(j:v.ownsRow n 80 1 u' (c.length+f2.length) (y++v2))(i:u'.ownBlock=a.ownBlock\/u'.ownBlock=some wr.1.size):PS w v n m u' (c++f2):=by
 have l:=h.4;refine⟨b.1.trans h.1,b.2.trans h.2,b.3.trans h.3,aJ h.4 b.4,λq d g=>(b.5 q oM λe=>by obtain e|e:=h.6 q e.symm<;>omega).trans (h.5 q d g),λq e=>?_,_,k.app f,by rw[aQ];exact j⟩;obtain e1|e1:=i;·exact h.6 q<|e1.symm.trans e
 rw[e1]at e;injection e with e;exact aZ oM
theorem vg(a:Jy n x)(b:Nat):(Ns x n b).length<=b*4001:=by
 induction b with
 |zero=>simp[Ns]
 |succ b c=>
  rw[Ve,aQ];have:=oX a b;simp;omega
theorem A9(c:Nat)(ha:Hs (Xp w k B p x))(E:Hs (m=x.length))(hB:B<=w.1.size)(o:Hs (Jy n x)):
 Calls prog 79 #[.agg #[Hp n,.slice p m c]] w λf F=>∃N cc,f=.returned (Hl N (Ns x n m).length cc)/\Below w.1.size w F/\XR F w.1.size F.1.size (some ⟨N,0,none⟩) (Ns x n m):=by
 have hn:m<=1000:=oP E.o o.1.2;have a9:0<m:=oP E.o o.1.1;let⟨i0,ar,a1,a2,a3⟩:=Xq Qd;have t:Below w.1.size w ((w.alloc<|.cells #[Hp n,.slice p m c] 37).alloc (.cells #[] 80)):=Xb (Xb (Below.refl _ _) _) _;have ap:((w.alloc<|.cells #[Hp n,.slice p m c] 37).alloc (.cells #[] 80)).cell? (Hk w.1.size 0)=some (Hp n):=by simp[go_sem]
 have aq:((w.alloc<|.cells #[Hp n,.slice p m c] 37).alloc (.cells #[] 80)).cell? (Hk w.1.size 1)=some (.slice p m c):=by simp[go_sem]
 have C:((w.alloc<|.cells #[Hp n,.slice p m c] 37).alloc (.cells #[] 80)).ownsRow (w.1.size+1) 80 1 (Hl (w.1.size+1) 0 0) 0 []:=by
  have h:=eI (base:=w.1.size+1) (e:=80) (size:=1) (w.alloc<|.cells #[Hp n,.slice p m c] 37) #[] 0 sP sP rfl;rw[aO]at h;exact h
 go_in
 go_wp2_with fail
 generalize (w.alloc _).alloc _=y at*;have bb:w.1.size+1<y.1.size:=(C.lt _ rfl).2;have J:=Xa<|qm c (Xa<|ha.keep (t.mono hB)) E (oN t.4) o;refine J.mono ?_;rintro f i⟨gO,cO,G,rfl,v,a7,P⟩;have Y:=Xa P;have bc:=v.4;have l:=Xa<|Xg t v;have H:Hs (PS i i (w.1.size+1) y.1.size (Hl (w.1.size+1) 0 0) (Ns x n 0)):=Xa ⟨rfl,rfl,rfl,aA,λ_ _ _=>rfl,λq f=>bC (by injection f with f;exact f.symm),[],by
  have h:=TF.nil i y.1.size;exact h,by
  have h:=rk C v;exact h⟩
 have X:Hs (∀b,b<=m->(Ns x n b).length<=4001000):=Xa (λb R=>by have:=vg o b;have:b*4001<=1000*4001:=jI _ oM;omega);clear v P J C t ap aq;go_wp2
 go_loopw [3,5] (λu s wr=>∃b:Nat,b<=m/\s=Hp b/\Hs (PS i wr (w.1.size+1) y.1.size u (Ns x n b))) λ_ s _=>m-(intOf s).toNat
 case atStart=>exact⟨0,aN,rfl,H⟩
 clear H;obtain⟨b,R,rfl,a⟩:=hrel;by_cases az:b<m
 .let⟨A,h2,O⟩:=Y b az;let⟨V,v1,v2,v3⟩:=Cc O<|aA;have L:=Xa v1;let⟨a4,r,d⟩:=a.7;have HV:=Xa r;have ac:=Xa d;have K:=Xa<|Ve x n b;have a5:=X b R;have a6:=oX o b;have T:V.length=(Tu x b).length+1:=by rw[v1.1];simp
  have eO:=(Xc<|a.5 gO (aI i _ A) oM).trans A;have W:=Xa λj u g=>(Xc<|a.5 (G b) (aI i _<|v2 j u g) oM).trans (v2 j u g);have ad:=Xa v3;have ba:=a.4;let⟨e,D⟩:∃e,e=(Tu x b).length+1:=⟨_,rfl⟩;rw[<-D]at eO T K;have a8:e<=4001:=oM;have aa:Hs (((List.range e).map (UU x n b)).length=e):=Xa sP;rw[<-D]at L;clear r d v1 v2 v3 A h2 O D;go_wp2_with (at_builtin;refine bT _ rfl _ _ 69 rfl (w.1.size+1) 80 i0 (.agg #[Hq]) 1 24 underlying69 ar a1 a2 a3 rfl vY _ _ _ rfl ac (Hk (G b) 0) e e V rfl (by rw[T,iN]) ?c1 ?c2 ?c3 ?c4 ?c5 ?_)
  case c1=>
   intro j u g;have e2:((Hk (G b) 0):Addr).add j=(Hk (G b) j):=by rw[mK];simp
   rw[e2];exact W j u g
  case c2=>
   intro u hu;obtain⟨_,_,_,rfl⟩:=ad u hu;rfl
  case c3=>unfold maxLen;omega
  case c4=>omega
  case c5=>omega
  intro v8 w8 U S _ Q;have I:=Xa (a.push HV L S (by rw[aa.o];exact U) Q);rw[<-K.o]at I;clear U S Q;go_wp2;exact⟨⟨b+1,oM,gM,I⟩,by simp[intOf];omega⟩
 have al:m=b:=oM
 subst al;let⟨a4,r,d⟩:=a.7;have a0:0<(Ns x n m).length:=by
  obtain⟨q,rfl⟩:∃q,m=q+1:=⟨m-1,oM⟩;rw[Ve];simp;omega
 obtain⟨z,c8,rfl,_,_⟩:=Xm d a0;have Z:Hs (XR wr w.1.size wr.1.size (some ⟨z,0,none⟩) (Ns x n m)):=Xa (λj g=>by
  let⟨aj,cj,e1,e2⟩:=r.2 j g;refine⟨z,0,rfl,⟨oN<|(d.lt _ rfl).1,(d.lt _ rfl).2⟩,aj,cj,by rw[aV];exact Jj d e1,λs hi=>?_⟩;let⟨M,o',e3,af,ao⟩:=e2 s hi;exact⟨M,o',e3,⟨oM,oN a.4⟩,(Xc<|a.5 M af.2 oM).trans ao⟩)
 have ab:=Xa (show Below w.1.size w wr from⟨a.1.trans l.1,a.2.trans l.2,a.3.trans l.3,oP l.4 a.4,λq hq=>(a.5 q oM oM).trans (l.5 q hq)⟩);clear r d;go_wp2;go_ret;exact⟨z,c8,rfl,ab,Z⟩
theorem ut(h:n<l.length):NG l n=l[n]:=by
 unfold NG;rw[bF,aC h];rfl
theorem DE(ha:n<L.length)(e:L[n]=(m:Int)):UM l L n=NG l m:=by
 unfold UM;rw[bF,aC ha,gR,e];rfl
theorem MF(X:Uy)(s c:Nat)(bh aq:Nat)(d cc:Nat)(ha:Hs (Xp w bh aq X x))(g:Hs (s=x.length))(hs:Hs (x.length+Xx x<=1048576))(hB:aq<=w.1.size)(hc:Hs (Xf w n m p l))(ad:Hs (d=l.length))(b8:m<=w.1.size)(ck:d<=1048576)(hq:Hs (Pm t x l T)):
 Calls prog 38 #[.agg #[Hp t,.slice X s c],.slice p d cc,Hp T] w λD w'=>D=.returned (.bool true)/\Below w.1.size w w':=by
 have V:=Xa λW (K:Below w.1.size w W)=>KT t c (Xa<|ha.keep (K.mono hB)) g hs (oN K.4);rw[hq.1]at V
 go_in
 go_wp2_with fail
 refine(V _<|Xb (Below.refl _ _) _).mono ?_;rintro D v⟨rfl,L⟩;let⟨ac,bn⟩:=NC L;have k0:v.cell? (Hk w.1.size 0)=some (Hp t):=by rw[ac _ _ sP];simp
 have k1:v.cell? (Hk w.1.size 1)=some (.slice X s c):=by rw[ac _ _ sP];simp
 have G:=Xa<|Xg (Xb (Below.refl w.1.size w) _) L;have co:w.1.size+1<=v.1.size:=by have:=L.4;simp at this;omega
 clear ac bn L V;let⟨a8,ci,cj,a6,a3,bt⟩:=hq.o;obtain rfl:t=(d:Int):=by rw[<-a6,ad.o]
 have I:=Xa<|XH (pM a8);have ba:=Xa a3;clear a8 a6 a3 bt;have cn:((d:Int) != (d:Int))=false:=sP;have ce:=I.2;have az:Hs (∀W,Below v.1.size v W->∀(q:Nat)(aa:q<d),∃b o,p=some (Hk b o)/\W.cell? (Hk b<|o+q)=some (Hp<|NG l q)):=Xa (λW hW q hq=>by
  have E:q<l.length:=by rw[<-ad.o];exact hq
  let⟨b,o,D,K,aa⟩:=hc q E;refine⟨b,o,D,?_⟩;rw[ut E];exact oB hW ((XU G oM).trans aa) oM)
 have ar:=Xa<|A9 c (Xa<|ha.keep (G.mono hB)) g (oN G.4) I;go_wp2
 go_loop [7] (λi=>∃q:Nat,q<=d/\i=Hp q) λi=>d-(intOf i).toNat
 case atStart=>exact⟨0,aN,rfl⟩
 obtain⟨q,cm,rfl⟩:=hrel;by_cases a4:q<d
 .obtain⟨b,o,rfl,e0⟩:=az v (Below.refl _ _) q a4;have E:q<l.length:=by rw[<-ad.o];exact a4
  have hC:=ba _<|aH E;rw[<-ut E]at hC;let⟨ca,cb⟩:=hC;generalize NG l q=b5 at*;have cl:(q:Int)<(d:Int):=oM;go_wp2;exact⟨⟨q+1,oM,gM⟩,by simp[intOf];omega⟩
 obtain rfl:q=d:=oM;go_wp2_with fail
 refine ar.mono ?_;rintro D e⟨gA,cA,rfl,M,ab⟩;have a9:=Xa<|Xg G M;have a0:Hs (∀W,Below e.1.size e W->∀(u:Nat)(aa:u<q),∃b o,p=some (Hk b o)/\W.cell? (Hk b<|o+u)=some (Hp<|NG l u)):=Xa λW hW=>az W<|M.trans (hW.mono M.4);let⟨a,f⟩:∃a,a=Ns x q s:=⟨_,rfl⟩;have bd:=Xa f;rw[<-f]at ab;rw[<-f];let⟨N,k⟩:∃N,N=a.length:=⟨_,rfl⟩;have b6:=Xa k;rw[<-k];have cd:N<=4001000:=by
  have h1:=vg I s;have h2:=I.1.2;have h3:=g.o;have h4:s*4001<=1000*4001:=jI _ oM;rw[<-f]at h1;omega
 have be:Hs (∀y,Below e.1.size e y->∀i,i<N->∃h C,y.cell? (Hk gA i)=some (.slice h (a.getD i []).length C)/\∀j,j<(a.getD i []).length->∃B F u,h=some (Hk B F)/\u<q/\y.cell? (Hk B<|F+j)=some (Hp ((u:Nat):Int))/\UM l (a.getD i []) j=NG l u):=Xa (λy Q i O=>by
  have r:i<a.length:=by rw[<-k];exact O
  let⟨Y,o',Z,bi,h,C,a1,bo⟩:=ab i r;injection Z with Z;injection Z with e1 e2;subst e1 e2;rw[aV]at a1;have af:a.getD i []=a[i]:=by rw[bF,aC r];rfl
  rw[af];have bv:=tD (xs:=x) (V:=q) (l:=a[i]) (by rw[<-g.o,<-f];exact aH r);refine⟨h,C,oB Q a1 bi.2,λj P=>?_⟩;let⟨B,F,e3,bl,a2⟩:=bo j P;let⟨u,hu,eu⟩:=bv.2 _<|aH P;rw[eu]at a2;exact⟨B,F,u,e3,hu,oB Q a2 bl.2,DE P eu⟩)
 have bf:Hs (∀i,i<N->(a.getD i []).length<=q):=Xa (λi O=>by
  have r:i<a.length:=by rw[<-k];exact O
  have af:a.getD i []=a[i]:=by rw[bF,aC r];rfl
  rw[af];exact(tD (xs:=x) (V:=q) (l:=a[i]) (by rw[<-g.o,<-f];exact aH r)).1)
 have bb:Hs (∀i j b,i<N->j<(a.getD i []).length->b<j->UM l (a.getD i []) j≠UM l (a.getD i []) b):=Xa (λi j b h1 h2 h3 h4=>(Dm (i:=i) (a:=j) (b:=b) (l:=a.getD i []) (by rw[f,g.o];rfl) (by rw[show((q:Int)).toNat=q from rfl,<-g.o,<-f,<-k];exact h1) h2 h3 h4) hq);clear M ab ar f k bd;go_wp2
 go_loopw [9] (λi wr=>∃i':Nat,i'<=N/\i=Hp i'/\Hs (Below e.1.size e wr)) λi _=>N-(intOf i).toNat
 case atStart=>exact⟨0,aN,rfl,Xa<|Below.refl _ _⟩
 obtain⟨i,O,rfl,R⟩:=hrel;by_cases ao:i<N
 .have J:=Xa λy Q=>be y Q i ao;have S:=Xa λj b=>bb i j b ao;have a7:=bf i ao;let⟨b1,al⟩:∃ap,ap=a.getD i []:=⟨_,rfl⟩;rw[<-al]at S a7;simp only[<-al]at J;let⟨ln,aj⟩:∃ap,ap=b1.length:=⟨_,rfl⟩;rw[<-aj]at S a7;simp only[<-aj]at J;clear al aj;have cg:(i:Int)<(N:Int):=oM;go_wp2
  go_loopw [10] (λj wr=>∃j':Nat,j'<=ln/\j=Hp j'/\Hs (Below e.1.size e wr)) λj _=>ln-(intOf j).toNat
  case atStart=>exact⟨0,aN,rfl,R⟩
  clear R;obtain⟨j,P,rfl,H⟩:=hrel;let⟨h,C,x1,z⟩:=J wr H;by_cases a5:j<ln
  .have ch:(j:Int)<(ln:Int):=oM;clear z;go_wp2_with fail
   clear x1
   go_loopw [11] (λb wr=>∃Y:Nat,Y<=j/\b=Hp Y/\Hs (Below e.1.size e wr)) λb _=>j-(intOf b).toNat
   case atStart=>exact⟨0,aN,rfl,H⟩
   clear H;obtain⟨b,K,rfl,A⟩:=hrel;by_cases br:b<j
   .let⟨h,C,x1,z⟩:=J wr A;obtain⟨B,F,u1,rfl,bx,y1,q1⟩:=z j a5;let⟨b4,o4,u2,e4,b0,y2,q2⟩:=z b oM;injection e4 with e4;injection e4 with e5 e6;subst e5 e6;obtain⟨bc,oc,rfl,z1⟩:=a0 wr A u1 bx;let⟨b7,cp,e7,z2⟩:=a0 wr A u2 b0;injection e7 with e7;injection e7 with e8 e9;subst e8 e9;have U:=S j b a5 br;rw[q1,q2]at U;clear q1 q2 z;generalize NG l u1=c1 at*;generalize NG l u2=c2 at*;have i1:(b:Int)<(ln:Int):=oM;have i2:(u1:Int)<(q:Int):=oM;have i3:(u2:Int)<(q:Int):=oM;have i4:(b:Int)<(j:Int):=oM;have cf:(c1==c2)=false:=by rw[iS];exact U
    clear U;go_wp2_with fail
    go_quiet (fail)
    go_wp2;exact⟨⟨b+1,oM,gM,Xa<|iX A _⟩,by simp[intOf];omega⟩
   have bm:b=j:=oM;subst bm;go_wp2;exact⟨⟨b+1,oM,gM,A⟩,by simp[intOf];omega⟩
  have bq:j=ln:=oM;subst bq;clear z;go_wp2;exact⟨⟨i+1,oM,gM,H⟩,by simp[intOf];omega⟩
 have bp:i=N:=oM;subst bp;go_wp2;go_ret;exact⟨rfl,Xg a9 R⟩
theorem wJ(h:XJ ⟨t,x⟩=true):∃n:Nat,t=(n:Int):=by
 simp only[XJ,bY]at h;let⟨⟨⟨⟨a,_⟩,_⟩,_⟩,_⟩:=h;simp only[Y6,bY,bD]at a;exact bX a.1.1.1.1
theorem nM:jy w n m t T z 0 [] (.agg #[Hp t,Hp T,Hp z,Hp 0,Hq]):=⟨none,0,0,rfl,none,0,0,rfl,λi h=>absurd h<|Nat.not_lt_zero _,rfl,vY,λy a=>absurd a sP⟩
theorem KX{C:Wn}(ha:Hs (Yx w m k p C))(B:Hs (n=C.length))(bx:n<=c)(bv:n<=9223372036854775807)(hB:k<=w.1.size)(s:Pg)(q:Hs (f8 (C2 C) t=s))(ht:Hs ((C2 C).3.2.length+Xx (C2 C).3.2<=100000)):
 Calls prog 4 #[.slice p n c,Hp t] w λy w'=>∃az,y=.returned az/\Below w.1.size w w'/\jy w' w.1.size w'.1.size s.1 s.2 s.3 s.k s.l az:=by
 let⟨f,i⟩:∃f,w.alloc (.cells #[Hp 0,Hp 0,Hp 0,Hp 0,Hq] 27)=f:=⟨_,rfl⟩;have x:Hs (∀W,Below f.1.size f W->Below w.1.size w W/\w.1.size<W.1.size/\(W.cell? (Hk w.1.size 0)=some (Hp 0)/\W.cell? (Hk w.1.size 1)=some (Hp 0)/\W.cell? (Hk w.1.size 2)=some (Hp 0)/\W.cell? (Hk w.1.size 3)=some (Hp 0)/\W.cell? (Hk w.1.size 4)=some Hq)/\∀U,W.frozen? (Hk w.1.size U)=false):=Xa (λW h=>by
  have hz:f.1.size=w.1.size+1:=by rw[<-i];exact aO _ _
  have g:=h.5 w.1.size oM;have hs:=h.4;exact⟨(show Below w.1.size w f by rw[<-i];exact Xb (Below.refl _ _) _).trans (h.mono oM),oM,⟨(Xc g).trans (by rw[<-i];simp),(Xc g).trans (by rw[<-i];simp),(Xc g).trans (by rw[<-i];simp),(Xc g).trans (by rw[<-i];simp),(Xc g).trans (by rw[<-i];simp)⟩,λU=>(bJ g).trans (by rw[<-i];simp)⟩)
 have h0:=(x f<|Below.refl _ _).1;have HP:=Xa<|Lu (Xa<|ha.keep (h0.mono hB)) B bx bv (oN h0.4);clear ha B h0;generalize C2 C=U at*;let⟨co,li,X,a⟩:=U;dsimp only at*
 go_in
 go_wp2_with fail
 clear i;refine HP.mono ?_;rintro y d⟨val,rfl,af,Y,Z,rfl,S⟩;let⟨b,cc,⟨H,I,J,K,L⟩,rz⟩:=x d af;have bi:=Xa b;have a0:=Xa af;have HY:=Xa S;clear b af S HP;dsimp only;by_cases al:co=0
 .subst al
  let⟨v,A⟩:∃v,d.alloc (.cells #[Hp 0,Hp li,Hp X,.slice Y a.length Z] 39)=v:=⟨_,rfl⟩;have E:Hs (∀W,Below v.1.size v W->Below f.1.size f W/\d.1.size<W.1.size/\(W.cell? (Hk d.1.size 0)=some (Hp 0)/\W.cell? (Hk d.1.size 2)=some (Hp X)/\W.cell? (Hk d.1.size 3)=some (.slice Y a.length Z))/\Xp W f.1.size d.1.size Y a):=Xa (λW h=>by
   have hz:v.1.size=d.1.size+1:=by rw[<-A];exact aO _ _
   have g:=h.5 d.1.size oM;have hs:=h.4;have k1:=(show Below d.1.size d v by rw[<-A];exact Xb (Below.refl _ _) _).trans (h.mono oM);exact⟨Xg a0 k1,oM,⟨(Xc g).trans (by rw[<-A];simp),(Xc g).trans (by rw[<-A];simp),(Xc g).trans (by rw[<-A];simp)⟩,HY.keep k1⟩)
  have O:Hs (a.length+Xx a<=1048576):=Xa<|oN ht.o;let⟨hA,ch,⟨p0,p1,p2⟩,bf⟩:=E v<|Below.refl _ _;have a8:=Xa bf;have bn:=Xa hA;clear bf hA a0;go_wp2_with fail
  clear A H I J K L rz;by_cases r:Ft X a=0
  .have R:=pM r;obtain⟨V,rfl⟩:=wJ R;have o:=Xa r;have a6:=Xa R;have l:=Xa<|XH R;have hV:=l.2;have ca:=@B7 a V;clear r R;refine(Lj a8 (Xa rfl) O oM o a6 l).mono ?_;rintro y e⟨b6,F,P,hP,rfl,z,b8,a9⟩;obtain rfl:=vK hP l.1.model;have a1:Hs (HK e F V P<|PK V a):=Xa a9;let⟨ac,b0,⟨p0,p1,p2⟩,bd⟩:=E e z;have b5:=Xa bd;have b4:=Xa ac;have aa:=Xa z;let⟨b,cd,⟨H,I,J,K,L⟩,rz⟩:=x e ac;have M:=Xa b;clear hP z a9 bd ac b;generalize NE _ V=ct;generalize bc:NW (Zw a V a.length)=T at*;have D:=Xa bc;clear bc;by_cases br:t<1
   .go_wp2;exact cC (v:=.agg #[Hp 12,Hp 0,Hp 0,Hp 0,Hq]) (by simp[results,results4,go_sem, *]) rfl ⟨_,rfl,by repeat' (first|with_reducible exact M.o|with_reducible refine Below.setCell ?_ ?_ _|with_reducible refine Xb ?_ _|exact aA),by rw[<-q.o];unfold f8;rw[aM λh=>h rfl,aM λh=>h o.o,aU<|bC br];exact nM⟩
   by_cases bt:64<t
   .go_wp2;exact cC (v:=.agg #[Hp 12,Hp 0,Hp 0,Hp 0,Hq]) (by simp[results,results4,go_sem, *]) rfl ⟨_,rfl,by repeat' (first|with_reducible exact M.o|with_reducible refine Below.setCell ?_ ?_ _|with_reducible refine Xb ?_ _|exact aA),by rw[<-q.o];unfold f8;rw[aM λh=>h rfl,aM λh=>h o.o,aU<|aZ bt];exact nM⟩
   let⟨j,G⟩:∃j,e.alloc (.cells #[Hp 0,Hl F V P,Hp ct] 43)=j:=⟨_,rfl⟩;have ci:j.1.size=e.1.size+1:=by rw[<-G];exact aO _ _
   have cq:j.cell? (Hk e.1.size 0)=some (Hp 0):=by rw[<-G];simp
   have N:Hs (Below e.1.size e j/\j.cell? (Hk e.1.size 1)=some (Hl F V P)):=Xa ⟨by rw[<-G];exact Xb (Below.refl _ _) _,by rw[<-G];simp⟩;have HS:=Xa λ(W:Ub)(h:Below j.1.size j W)=>C8 a.length Z (Xa (E.o W<|Xg aa (Xg N.1 h)).2.2.2) (Xa rfl) O (oN h.4) a6 l;rw[D.o]at HS;let⟨_,_,⟨cl,cm,cn⟩,_⟩:=E j<|Xg aa N.1;go_wp2_with fail
   clear G;refine(HS _<|Below.refl _ _).mono ?_;rintro y u⟨rfl,Q⟩;have ao:=Xg N.1 Q;let⟨ad,ce,⟨p0,p1,p2⟩,be⟩:=E u<|Xg aa ao;have q1:=(XU Q oM).trans N.2;let⟨b,cf,⟨H,I,J,K,L⟩,rz⟩:=x u ad;have bl:=Xa b;have a7:=Xa be;have bo:=Xa ao;have bh:=Xa ad;have cj:e.1.size<u.1.size:=oN Q.4;clear Q ao ad b be HS;by_cases bb:t<(T:Int)
   .go_wp2;exact cC (v:=.agg #[Hp 13,Hp 0,Hp T,Hp 0,Hq]) (by simp[results,results4,go_sem, *]) rfl ⟨_,rfl,by repeat' (first|with_reducible exact bl.o|with_reducible refine Below.setCell ?_ ?_ _|with_reducible refine Xb ?_ _|exact aA),by rw[<-q.o];unfold f8;rw[aM λh=>h rfl,aM λh=>h o.o,aM oM,aU<|by dsimp only;rw[dM,D.o];exact bb];dsimp only;rw[dM,D.o];exact nM⟩
   have a5:=Xa (wK o (k:=t) (by rw[D.o];omega) oM);have ab:Hs (Xf u 0 u.1.size (some ⟨F,0,none⟩) (OJ V a)):=Xa (a1.of_block<|bo.5 F a1.lt).ints;have a4:=Xa (λ(W:Ub)(h:Below u.1.size u W)=>MF Y a.length Z f.1.size d.1.size V P (Xa<|a7.keep (h.mono oM)) (Xa rfl) O (oN h.4) (Xa<|ab.keep h) (Xa<|by simp[OJ]) h.4 oM a5);have a2:=Xa (yo (OJ V a) a l.1.2 λar B=>(l.10 ar B).1);have a3:=Xa (Mx a7 (Xa rfl) oM l (Xa λar B=>by have:=l.10 ar B;omega) ab (Xa<|by simp[OJ]) (Xa rfl) aA ⟨oM,oM⟩ a4);have bq:Hs (s=⟨0,0,T,t,NK (OJ V a) a⟩):=Xa (by rw[<-q.o];unfold f8;rw[aM λh=>h rfl,aM λh=>h o,aM oM];dsimp only;rw[dM,D.o,aM bb]);clear a4 a5 ab q;generalize NK (OJ V a) a=b1 at*;go_wp2_with fail
   refine a3.mono ?_;rintro y w4⟨ap,aq,rfl,aj,ba⟩;let⟨b,cg,⟨H,I,J,K,L⟩,rz⟩:=x.o w4<|Xg bh.o aj;have bm:=Xa b;have bp:=Xa ba;have ck:=aj.4;clear b aj ba a3;go_wp2;refine cC (v:=.agg #[Hp 0,Hp 0,Hp T,Hp t,.slice ap b1.length aq]) (by simp[results,results4,go_sem, *]) rfl ⟨_,rfl,by repeat' (first|with_reducible exact bm.o|with_reducible refine Below.setCell ?_ ?_ _|with_reducible refine Xb ?_ _|exact aA),?_⟩;rw[bq.o];refine⟨ap,_,aq,rfl,ap,_,aq,rfl,(bp.keepS λcp q1 _=>?_).mono oM sP,rfl,a2.1,λb3 S=>by have:=a2.2 b3 S;omega⟩
   repeat rw[Below.heap_setCell _ _ _ _<|by dsimp only;omega]
  refine(LT a8 (Xa rfl) O oM r).mono ?_;rintro y e⟨rfl,z⟩;let⟨b,b0,⟨H,I,J,K,L⟩,rz⟩:=x.o e<|Xg bn.o z;have M:=Xa b;have cb:=jJ.2 r;clear b z;have o:=Xa r;clear r;go_wp2;exact cC (v:=.agg #[Hp<|Ft X a,Hp 0,Hp 0,Hp 0,Hq]) (by simp[results,results4,go_sem, *]) rfl ⟨_,rfl,by repeat' (first|with_reducible exact M.o|with_reducible refine Below.setCell ?_ ?_ _|with_reducible refine Xb ?_ _|exact aA),by rw[<-q.o];unfold f8;rw[aM λh=>h rfl,aU o.o];exact nM⟩
 have b7:=jJ.2 al;go_wp2;exact cC (v:=.agg #[Hp co,Hp li,Hp 0,Hp 0,Hq]) (by simp[results,results4,go_sem, *]) rfl ⟨_,rfl,by repeat' (first|with_reducible exact bi.o|with_reducible refine Below.setCell ?_ ?_ _|with_reducible refine Xb ?_ _|exact aA),by rw[<-q.o];unfold f8;rw[aU al];exact nM⟩
section
attribute [local go_sem] Oper.semAt_some
structure PG(w3 V:Ub):Prop where
 low:Below w3.1.size w3 V
theorem PG.far(h:PG w v)(k:Below w.1.size v u):PG w u:=⟨h.1.trans k⟩
theorem PG.own(a:Ub):OwnFrom a.1.size (λ(_:List Sd)=>PG a):=λf V c row h k q=>by
 have:=h.1.4;exact h.far ⟨k.1,k.2,k.3,k.4,λb d=>k.5 b oM λe=>by have:=(q b e.symm).1;omega⟩
theorem Dd(h:∀c∈l,0<=c/\c<t)(d:∀u∈s,u<l.length):jn l s c↔∃v∈s,US l v=c:=by
 unfold jn US NG;constructor
 .rintro⟨v,a,b⟩;refine⟨v,a,?_⟩;rw[bF,b];rfl
 rintro⟨v,a,b⟩;refine⟨v,a,?_⟩;rw[bF,aC<|d v a,gR]at b;rw[aC<|d v a];have:=(h _<|aH (d v a)).1;exact fI some oM
theorem EG(h:∀c∈l,0<=c/\c<(n:Int))(a:m<l.length):US l m<n:=by
 unfold US NG;rw[bF,aC a,gR];have:=h _<|aH a;omega
theorem My(v:Uy)(r c:Nat)(c8 bh:Nat)(b y:Nat)(ha:Hs (Xp w c8 bh v x))(hx:Hs (r=x.length))(hs:Hs (x.length+Xx x<=1048576))(hB:bh<=w.1.size)(hO:Hs (Yy w))(hT:Hs (Yb w))(hZ:Hs (Jn w))(Y:Hs (Xf w n m p l))(a4:Hs (b=l.length))(c9:m<=w.1.size)(ep:b<=1048576)(hq:Hs (Pm t x l T)):
 Calls prog 49 #[.agg #[Hp t,.slice v r c],.slice p b y,Hp T] w λe w'=>e=.returned (.bool true)/\Below w.1.size w w':=by
 have a7:=Xa λW (E:Below w.1.size w W)=>Te t r c (Xa<|ha.keep (E.mono hB)) hx hs (oN E.4) (Xa<|hO.keep E hO.1) (Xa<|hT.keep E hT.1);rw[hq.1]at a7;refine(bM (n:=10)).1 ?_;refine callsIn_of_wp_marks func49 rfl trivial ?_ rfl;simp only[ntmps49,xY,Nat.reduceAdd,Nat.reduceSub];gi_wp2
 have db:(λN:Ub=>Below w.1.size w N/\w.1.size+4<=N.1.size/\N.cell? (Hk w.1.size 0)=some (Hp t)/\N.cell? (Hk w.1.size 1)=some (.slice v r c)/\N.cell? (Hk (w.1.size+1) 0)=some (.slice p b y)/\N.cell? (Hk (w.1.size+2) 0)=some (Hp T)/\Hs (N.rowIs (w.1.size+3) 4 1 λ_=>.bool false)) ((((w.alloc<|.cells #[Hp t,.slice v r c] 37).alloc (.cells #[.slice p b y] 41)).alloc (.cells #[Hp T] 2)).alloc (.cells #[.bool false] 4)):=⟨Xb (Xb (Xb (Xb (Below.refl _ _) _) _) _) _,sP,(by simp[go_sem]),(by simp[go_sem]),(by simp[go_sem]),(by simp[go_sem]),(Xa (by
  have h:=eK (((w.alloc<|.cells #[Hp t,.slice v r c] 37).alloc (.cells #[.slice p b y] 41)).alloc (.cells #[Hp T] 2)) #[.bool false] 4 (λ_=>.bool false) (λap hi=>by match ap,hi with|0,_=>rfl)
  rw[aO,aO,aO]at h;exact h))⟩
 generalize (((w.alloc _).alloc _).alloc _).alloc _=w0 at*;let⟨bc,et,c0,c1,c2,c3,bv⟩:=db;refine⟨trivial,(bM.2<|a7 w0 bc).mono ?_⟩;rintro e A⟨rfl,F⟩;have eu:=F.4;have k0:=(XU F oM).trans c0;have k1:=(XU F oM).trans c1;have k2:=(XU F oM).trans c2;have k3:=(XU F oM).trans c3;have ar:=Xa<|bv.of_block (F.5 _ oM);have k4:=ar.cell (i:=0) vY;have k5:=ar.frozen 0;have bi:=Xa<|Xg bc F;clear F bc c0 c1 c2 c3 a7 bv;let⟨ci,dj,dk,cf,b5,cg⟩:=hq.o;obtain rfl:t=(b:Int):=by rw[<-cf,a4.o]
 have a6:=Xa<|XH (pM ci);have aq:=Xa b5;have cx:=Xa cg;clear ci cf b5 cg;have du:((b:Int) != (b:Int))=false:=sP;have eg:=a6.2;have bm:Hs (∀(q:Nat)(h:q<b),∃L H,p=some (Hk L H)/\A.cell? (Hk L<|H+q)=some (Hp<|NG l q)/\∃h:q<l.length,NG l q=l[q]):=Xa (λq hq=>by
  have al:q<l.length:=by rw[<-a4.o];exact hq
  let⟨L,H,e,E,h⟩:=Y q al;have e2:NG l q=l[q]:=by
   unfold NG;rw[bF,aC al];rfl
  refine⟨L,H,e,?_,al,e2⟩;rw[e2];exact(XU bi oM).trans h)
 gi_wp2
 gi_loop [30] (λap=>∃q:Nat,q<=b/\ap=Hp q) λap=>b-(intOf ap).toNat
 case atStart=>exact⟨0,aN,rfl⟩
 obtain⟨q,es,rfl⟩:=hrel;by_cases dn:q<b
 .obtain⟨L,H,rfl,e0,al,eq⟩:=bm q dn;have hC:=aq _<|aH al;rw[<-eq]at hC;let⟨ea,eb⟩:=hC;clear eq;generalize NG l q=d0 at*;have er:(q:Int)<(b:Int):=oM;gi_wp2;exact⟨⟨q+1,oM,gM⟩,by simp[intOf];omega⟩
 obtain rfl:q=b:=oM;clear bm k4 k5;obtain⟨G,rfl⟩:=bX (show 0<=T by omega);gi_wp2;generalize decide ((G:Int)<0)=d1;generalize decide (2000<(G:Int))=d2;generalize (d1||d2)=d3;refine⟨trivial,(Wx 9 A).mono ?_⟩;rintro e I⟨rfl,ao⟩;have ab:Below A.1.size A I:=by rw[ao];exact Xb (Below.refl _ _) _
 have ev:A.1.size+1<=I.1.size:=by rw[ao,aO];exact aA
 have b8:I.cell? (Hk A.1.size 0)=some (Hp q):=by rw[ao];simp[go_sem]
 have ca:I.cell? (Hk A.1.size 1)=some (.slice v r c):=by rw[ao];simp[go_sem]
 have D:=Xa<|Xg bi ab;have co:=Xa<|(XU ab oM).trans k2;have cp:=Xa<|(XU ab oM).trans k3;have bx:=Xa<|ar.of_block (ab.5 _ oM);let⟨i,ce⟩:∃be,be=(q+63)/64:=⟨_,rfl⟩;have cw:=Xa ce;have da:i<=100:=oM;let⟨s,cd⟩:∃be,be=(G+63)/64:=⟨_,rfl⟩;have cv:=Xa cd;have ed:s<=100:=oM;have dl:G<=64*s:=oM;have ee:=hO.1;have ef:=hT.1;have di:(3: Nat)<w.1.size:=aI w _<|hZ 0 vY;have ck:=Xa<|ha.keep (D.mono hB);have cz:=Xa<|hO.keep D hO.1;have c7:=Xa<|hT.keep D hT.1;have cm:=Xa b8;have cn:=Xa ca;have hn:r<=1000:=oP hx.o a6.1.2;clear ab ao ce cd b8 ca k0 k1 k2 k3 ar dj dk du;gi_wp2
 refine nX (F:=Fence.wide) (n:=10) rfl vY (gf:=109) (lb:=#[Hn A.1.size]) rfl trivial (enters_of func109 vZ rfl) (uF (λz=>z=w.1.size+3) cm cn ck hx oM aA cz c7 oM oM a6 cw (Xa λz d f e=>oM) (Xa λz d e=>oM) (Xa λe=>oM) (Xa λe=>oM)) (λz=>un z) (λh T=>h.trans T) (λW dw H o' d f Z=>Zf.putObj W dw H o' oM f Z) (Below.refl _ _) (λ_ _=>rfl)
  (λ_ _=>PG I) (λ_ a5 _=>∃M∈a5,¬((On (64*i) M).map (US l)).Nodup) (λ_=>PG.own I) (λc M O dz row h T q=>h) (λ_ z M O A' hz h k=>h.far ⟨k.1,k.2,k.3,k.4,λL E=>k.5 L (oN h.1.4) λe=>by injection e with e;omega⟩) (λ_=>⟨λz z' M O A' _ h T=>h.far<|T.mono oM,λc M O A' h T=>h⟩) (λz U _ _ hU=>⟨hU⟩)
  (λz a a' U=>∃u:Nat,a'=⟨#[.agg #[Hp q,.slice v r c],.slice p q y,Hp G,Hn w.1.size,Hn<|w.1.size+1,Hn<|w.1.size+1+1,Hn<|w.1.size+1+1+1,undef,u8,Hn u,.agg #[Hp q,.slice v r c],Hp 0,.bool false,.bool false,Hp G,.bool d1,.bool d1,.bool d1,Hp G,.bool d2,.bool d3,.bool d3,.slice p q y,Hp q,Hn w.1.size,Hp q,.bool false,.bool d3,.slice p q y,Hp q,Hp q,.bool false,u32,u33,u34,u35,u36,u37,u38,u39,u40,u41,.agg #[Hp q,.slice v r c],.func (.func 109) #[] #[Hn A.1.size],.agg #[Hl z i a.C],undef,undef,undef,undef,undef,undef,undef,undef],[]⟩/\I.1.size<=u/\U.cell? (Hk u 0)=some (Hl z i a.C)) ?ownA ?assign ?body ?done ?stop
 case ownA=>
  rintro z a a' _ O U row⟨u,e,d,f⟩ k qq;refine⟨u,e,d,(Xc<|k.5 u (aI O _ f) λe2=>?_).trans f⟩;let⟨ob,Z,h4⟩:=Yn f;let⟨_,o2,h5,h6⟩:=qq u e2.symm;rw[show O.1[u]?=some ob from Z]at h5;injection h5 with h5;subst h5;rw[h4]at h6;cases h6
 case assign=>
  intro l' z a5 a U KK hz g o b4;have C:=Xa g;have c6:=Xa o;have ct:=Xa b4;clear g o b4;unfold ru;gi_wp2;have aj:Below U.1.size U (U.alloc<|.cells #[Hl z i a.C] 103):=Xb (Below.refl _ _) _;exact ct _ _ ⟨aj.4,λT H d _=>(aj.5 T (aS.1 d).1).trans d⟩ (Zf.of_below aj C.1.4) (C.far<|aj.mono C.1.4) (th c6 aj) ⟨U.1.size,rfl,C.1.4,by simp[go_sem]⟩
 case body=>
  rintro l' z a5 a a' U hz em _ g o⟨u,rfl,ei,b6⟩ en;have C:=Xa g;have bd:=g.1.4;have e2:=(XU g.1 oM).trans co;have e3:=(XU g.1 oM).trans cp;have Q:=Xa<|bx.of_block (g.1.5 _ oM);have az:=Xa<|D.trans (g.1.mono D.4);have bq:=Xa λW (R:Below U.1.size U W)=>VA y (Xa<|o.2.1.of_block (R.5 z o.2.1.lt)) (Xa o.2.2) (Xa<|Y.keep ((az.trans<|R.mono az.4).mono c9)) a4 (oN R.4) (Xa<|hZ.of_block ((az.trans<|R.mono az.4).5 _ di)) da (Xa o.1) oM cv (Xa λc Y=>aZ<|aq c Y);have bo:=Xa λW k j (d:Cp W k s s j) (f:XA j)=>AF k s s j W (Xa f) (Xa d) oM;have br:=Xa λW (R:Below U.1.size U W)=>Kl z i a.C a.W W (Xa o.2.2) (Xa<|o.2.1.of_block (R.5 z o.2.1.lt)) oM;have bt:Hs (∀j,(∀c,c<64*s->(Xh j c=true↔jn l (Mq a.W<|64*i) c))->(NO j s<NO a.W i↔¬((On (64*i) a).map (US l)).Nodup)):=Xa (λj h=>by
   have hl:∀bf∈Mq a.W (64*i),bf<l.length:=λbf hu=>by
    have d:=om.1 hu;rw[<-a4.o];exact o.1 bf d.1 d.2
   rw[qV,qV];exact Eo (λc Y=>(h c Y).trans (Dd aq hl)) λt hv=>aX (EG aq<|hl t hv) dl)
  clear g o;gi_wp2;refine Tc (λw'=>w'.cell? (Hk u 0)=some (Hl z i a.C)/\w'.cell? (Hk (w.1.size+1) 0)=some (.slice p q y)/\w'.cell? (Hk (w.1.size+2) 0)=some (Hp G)) λhHeld=>?_;refine Yi 0 ?_;refine Yi 1 ?_;refine Yi 2 ?_;refine Yi 5 ?_;refine Yc 3 λa8 hK=>?_;go_simp;refine⟨trivial,(CallsIn.inRound l'<|bM.2 (bq U.drew (Below.refl U.1.size U).drew)).mono ?_⟩;rintro e J⟨k,j,rfl,el,S,cj,b7,ch⟩;have ac:Below U.1.size U J:=⟨S.1,S.2,S.3,S.4,S.5⟩;have cl:=Xa ac;have a1:=oB ac b6<|aI U _ b6;have a2:=oB ac e2<|aI U _ e2;have a3:=oB ac e3<|aI U _ e3;have bn:=Xa<|bo.o J k j cj b7;have cq:=Xa<|bt.o j ch;have b1:=Xa<|br.o;have ej:=TB j s;have ek:=TB a.W i;clear ac S cj b7 ch bq bo bt br;refine hK _ _ ⟨a1,a2,a3⟩ λhHeld=>?_;clear hK;refine Yc 4 λa8 hK=>?_;go_simp;refine⟨trivial,(CallsIn.inRound l'<|bM.2 bn).mono ?_⟩;rintro e K⟨rfl,V⟩;have ad:Below J.1.size J K:=⟨V.1,V.2,V.3,V.4,V.5⟩;have bl:=Xa<|Xg cl ad;have a9:=oB ad a1<|aI J _ a1;have ba:=oB ad a2<|aI J _ a2;have bb:=oB ad a3<|aI J _ a3;have b3:=Xa<|b1.o K bl;generalize NO j s=nT at*;generalize NO a.W i=nV at*;clear ad V bn b1;refine hK _ _ ⟨a9,ba,bb⟩ λhHeld=>?_;clear hK;refine Yc 6 λa8 hK=>?_;go_simp;refine⟨trivial,(CallsIn.inRound l'<|bM.2 b3).mono ?_⟩;rintro e U7⟨rfl,X⟩;have af:Below K.1.size K U7:=⟨X.1,X.2,X.3,X.4,X.5⟩;have B:=Xa<|Xg bl af;have g1:=oB af a9<|aI K _ a9;have g2:=oB af ba<|aI K _ ba;have g3:=oB af bb<|aI K _ bb;clear af X b3;refine hK _ _ ⟨g1,g2,g3⟩ λhHeld=>?_;clear hK;refine Yc 7 λa8 hK=>?_;go_simp;refine hK _ _ kP λhHeld=>?_;clear hK;refine ZV ?_;clear hHeld;have b0:=Xa<|Q.of_block (B.5 _ Q.lt);have r7:=b0.cell (i:=0) vY;have f7:=b0.frozen 0;by_cases eo:(nT:Int)<(nV:Int)
  .gi_wp2;have cb:Zf I.1.size (λz=>z=w.1.size+3) U (U7.setCell (Hk (w.1.size+3) 0) (.bool false)):=(Zf.of_below B bd).trans (Zg ⟨rfl,rfl,rfl,by simp[World.setCell],λT _ hk=>Below.heap_setCell _ _ _ _ λe=>hk<|by rw[e]⟩ rfl (oN B.4));refine⟨⟨cb.1,λz ob d f Z=>(Below.heap_setCell _ _ _ _<|by show z≠w.1.size+3;omega).trans ((B.5 z (aS.1 f).1).trans f)⟩,cb,a,fB _<|cS.2 rfl,cq.1 oM⟩
  gi_wp2;exact⟨⟨B.4,λz ob d f Z=>(B.5 z (aS.1 f).1).trans f⟩,Zf.of_below B bd,⟨C.1.trans<|B.mono bd⟩⟩
 case done=>
  rintro P z ss U hD hz dc g a0;have C:=Xa g;have cr:=Xa a0;have Q:=Xa<|bx.of_block (g.1.5 _ oM);have r7:=Q.cell (i:=0) vY;have f7:=Q.frozen 0;have ec:=(aS.1 a0).1;clear g a0 dc;gi_wp2
  have cs:Hs ((U.setCell (Hk (w.1.size+3) 0) (.bool true)).1[P]?=some (.deferred (some []))):=Xa ((Below.heap_setCell _ _ _ _<|by show P≠w.1.size+3;omega).trans cr);have ds:((U.setCell (Hk (w.1.size+3) 0) (.bool true)).putObj P (.deferred none)).cell? (Hk (w.1.size+3) 0)=some (.bool true):=by
   refine(bZ (a:=(Hk (w.1.size+3) 0)) (World.putObj_heap_other<|show w.1.size+3≠P by omega)).trans ?_;simpa using(Q.set 0<|.bool true).cell (i:=0) vY
  refine YK cs ⟨.bool true,by simp[results,results49,go_sem,ds],?_⟩;have df:=D.trans<|C.1.mono D.4;have aa:Below w.1.size w (U.setCell (Hk (w.1.size+3) 0) (.bool true)):=df.setCell (by show w.1.size<=w.1.size+3;omega) _;have hg:=grownBy_putObj' (U.setCell (Hk (w.1.size+3) 0) (.bool true)) P (.deferred none);have ey:=D.4;exact⟨rfl,hg.1.trans aa.1,hg.2.trans aa.2,hg.3.trans aa.3,aJ aa.4 hg.4,λz hz=>(World.putObj_heap_other oM).trans (aa.5 z hz)⟩
 rintro P c' a5 U hD dd⟨M,hs,E⟩ a0;refine absurd (cx _ ?_) E;rw[show((q:Int)).toNat=q from rfl,<-hx.o];exact dd.subset<|aY.2 ⟨M,hs,rfl⟩
end
theorem zL:∀(ls:Vw)(i:Nat)(s a:NX),dy ls i s=.ok a->TT a<=TT s+Tn ls
 |[],i,s,a,h=>by
  simp only[dy,Bd.ok.injEq]at h;subst h;omega
 |l::ls,i,s,a,h=>by
  have e:Tn (l::ls)=l.length+Tn ls:=by simp[Tn]
  cases hl:bk s l with
  |bad c=>simp only[dy,hl]at h;cases h
  |ok s1=>
   simp only[dy,hl]at h;have b:=sw hl;have d:=zL ls (i+1) s1 a h;omega
theorem LF(a:Wn):(C2 a).3.2.length+Xx (C2 a).3.2<=100000:=by
 unfold C2;split;·simp[au,Xx]
 rename_i e;split;·simp[au,Xx]
 unfold p8;split;·simp[au,Xx]
 unfold mi;split;·simp[au,Xx]
 rename_i s d;split;·simp[au,Xx]
 rename_i c;split
 .have b:=zL _ _ _ _ d
  have f:=yW a;have g:Tn (Fa a).tail<=Tn (Fa a):=by
   cases Fa a with
   |nil=>simp[Tn]
   |cons l r=>simp[Tn]
  simp only[TT,c]at b;simp only[Xx,fZ,List.sum_nil,bO]at b;show s.1.length+Xx s.1<=100000;unfold Xx;omega
 simp[au,Xx]
theorem Qb:(prog.info? 5).map (λi=>(i.8,i.3,i.4))=some (some<|.int .u8 0,1,1):=vZ
theorem pL{d:Wn}(ha:Hs (Yx w m k p d))(q:Hs (n=d.length))(G:n<=1048576)(B:k<=w.1.size):
 Calls prog 5 #[.slice p n c] w λe h=>e=.returned (Hl w.1.size n n)/\Below w.1.size w h/\Yx h w.1.size h.1.size (some ⟨w.1.size,0,none⟩) d/\ij w.1.size h:=by
 have F:=fM (P:=prog) 22 5 (.int .u8 0) 1 underlying22 Qb rfl .i64 .i64 n oM oM
 go_in
 go_wp2
 go_loopw [4] (λr wr=>∃a:Nat,a<=n/\r=.int .i64 a/\Below w.1.size w wr/\Hs (ij w.1.size wr)/\Hs (∃f,wr.rowIs w.1.size 5 n f/\∀j (s:j<d.length),j<a->f j=.int .u8 (d[j].toNat:Int))) λr _=>n-(intOf r).toNat
 case atStart=>exact⟨0,aN,rfl,Xb (Below.refl _ _) _,(ij.start _).alloc _ _,⟨_,dG _ _ _ _,λj _ s=>absurd s oM⟩⟩
 obtain⟨a,E,rfl,o,u,i⟩:=hrel;by_cases z:a<n
 .have y:a<d.length:=oN q.o;obtain⟨A,H,rfl,⟨_,C⟩,t⟩:=ha a y;have e1:=(XU o oM).trans t;obtain⟨f,b,g⟩:=i.o;have e2:=b.cell z;have e3:=b.frozen a;have v:=Xa g;have x:=Xa b;clear t i g b;go_wp2;refine⟨⟨a+1,oM,gM,o.setCell aA _,u.setCell _ _,⟨_,x.set a _,λj l D=>?_⟩⟩,by simp[intOf];omega⟩;by_cases e:j=a;·subst e;simp
  simp only[e,fD];exact v j l oM
 go_wp2;go_ret;obtain⟨f,b,g⟩:=i.o;refine⟨rfl,o,λj l=>⟨w.1.size,0,rfl,⟨aA,b.lt⟩,?_⟩,u⟩;rw[aV,b.cell<|oN q.o,g j l<|oN q.o]
end Go.Proofs.YtcfdhbigppockaaGreatDoor
