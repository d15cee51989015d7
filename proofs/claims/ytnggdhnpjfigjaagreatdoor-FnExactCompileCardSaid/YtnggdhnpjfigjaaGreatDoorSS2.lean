import Derived.Test.YtnggdhnpjfigjaaGreatDoorLB0
import Derived.Shelf.Bytes.Small
import Derived.Shelf.Lay
import Derived.Ground.NamesProg
import Derived.Lib.SlSplitV
import Derived.Lib.CountLaws
namespace Go.Proofs.YtnggdhnpjfigjaaGreatDoor
set_option maxHeartbeats 4000000
set_option maxRecDepth 100000
open _root_ renaming List.length->J,Nat->N,Int->I,Bool.true->So,Bool.false->Sn,List.range->Rg,Array.size->Z,rfl->R,Option.some->S,Option.none->U,absurd->Sz
open Go renaming RowKit.Below->Sw,World.cell?->E,World.alloc->D,World.setCell->Se,World.ownsRow->Sx,IntKind.i64->S6,Ending.returned->Rt,undef->Su,Calls->Sk,Obj.cells->Sc
open Value renaming slice->X,int->Si,bool->Sb,agg->Sa,tuple->St
open Go.RowKit Go.Proofs.Tryz Go.Shelf
variable{r:Bool}{t T:I}{n m k B g i j c:N}{w v u:Ub}{p P:Uy}{l:Wc}{x:Wi}{f F:Wk}{q:Xe}
def Pc(x:Xe)(a:Wk):Wk:=VI a (J x.2+1,Id x.3,[])
def Ou(x:Xe)(a:Wk)(k:N):Wk:=((Us (J x.2) k).map (VH x)).foldl VI (Pc x a)
theorem qx(q:N×Wc×Wc):Xh (Uo f q) n=(decide (n∈X9 q.2.2)||Xh f n):=by
 unfold Uo;rw[YR]
theorem vx(q:N×Wc×Wc):Xh (VI f q) n=(decide (n∈X9 q.2.1)||(decide (n∉X9 q.2.2)&&Xh f n)):=by
 unfold VI;rw[YR,Kt,qx];by_cases h:n∈X9 q.2.2<;>simp[h]
theorem Ds(a:Wk)(b:n<J q.2):Ou q a n=VI (Ou q a<|n+1) (VH q ⟨n,b⟩):=by
 unfold Ou;rw[TJ b,bG,dT];rfl
theorem qQ{x:Xe}{a:Wk}{v:N}{q:Bool}(hq:Xh a v=q)(g:∀y∈x.2,(∀v∈Iw y,0<=v)/\∀v∈BW y,0<=v)(f:∀v∈Id x.3,0<=v):∀d k,k+d=J x.2->Xh (Ou x a k) v=JT x v q k
 |0,k,b=>by
  have b:k=J x.2:=O;subst b;rw[WT v q<|aA];unfold Ou;rw[Ua];show Xh (VI a (J x.2+1,Id x.3,[])) v=_;rw[vx,hq,eQ,dI,dI,bD,YV f,XD];simp[X9]
 |d+1,k,b=>by
  have c:k<J x.2:=O;have h:=qQ hq g f d (k+1) O;have e:=g x.2[k] (aH c);rw[Ds a c,vx,h,qe v q c];show(decide (v∈X9 (Iw x.2[k]))||(decide (v∉X9 (BW x.2[k]))&&JT x v q (k+1)))=_;have e1:decide (v∈X9 (Iw x.2[k]))=Cg (Iw x.2[k]) (v:I):=by rw[eQ,bD,YV e.1,XD]
  have e2:decide (v∉X9 (BW x.2[k]))=!decide (H7 x.2[k]=(v:I)):=by
   rw[eQ];simp only[bD,lV,fC,YV e.2,YN]
  rw[e1,e2,Bool.and_comm]
theorem vz(x:Xe)(a:Wk):∀d k,k+d=J x.2->TZ (J x.2) (Pc x a) ((Us (J x.2) k).map (VH x))=(Us (J x.2) k).map λj:Fin (J x.2)=>((j:N)+1,Uo (Ou x a<|(j:N)+1) (VH x j))
 |0,k,b=>by
  have b:k=J x.2:=O;subst b;rw[Ua];rfl
 |d+1,k,b=>by
  have c:k<J x.2:=O;have e:=vz x a d (k+1) O;rw[TJ c,bG,bG,eH,fZ,Ky,e];congr 1;unfold N9;rw[aU<|show(VH x ⟨k,c⟩).1<=J x.2 from c];rfl
theorem qw(x:Xe)(a:Wk):TZ (J x.2) a (NS x)=((Us (J x.2) 0).map λj:Fin (J x.2)=>((j:N)+1,Uo (Ou x a<|(j:N)+1) (VH x j)))++[(0,Uo (Ou x a 0) (0,[],x.1.map Ph.dst))]:=by
 unfold NS;show N9 (J x.2) a (J x.2+1,Id x.3,[])++TZ (J x.2) (Pc x a) ((Us (J x.2) 0).map (VH x)++[(0,[],x.1.map Ph.dst)])=_;rw[Ky,vz x a (J x.2) 0 O];have e1:N9 (J x.2) a (J x.2+1,Id x.3,[])=[]:=by
  unfold N9;rw[aM sP]
 have e2:N9 (J x.2) (((Us (J x.2) 0).map (VH x)).foldl VI (Pc x a)) (0,[],x.1.map Ph.dst)=[(0,Uo (Ou x a 0) (0,[],x.1.map Ph.dst))]:=by
  unfold N9;rw[aU<|aN];rfl
 rw[e1,e2];rfl
theorem FQ(d:Jy n x)(i:m<J x)(hq:Xh f k=r)(h:(B,F)∈TZ (J x[m].2) f (NS x[m])):B<=J x[m].2/\Xh F k=Ox x x[m] m B k r:=by
 have c:=aH i;have b:∀y∈x[m].2,(∀k∈Iw y,0<=k)/\∀k∈BW y,0<=k:=λy b=>⟨λz a=>(d.5 _ c y b z a).1,λz a=>(d.6 _ c y b z a).1⟩;have l:=λz a=>(d.7 _ c z a).1;rw[qw]at h;obtain h|h:=bU.1 h
 .let⟨j,_,e⟩:=aY.1 h
  have e1:(j:N)+1=B:=fI Prod.fst e;have e2:Uo (Ou x[m] f ((j:N)+1)) (VH x[m] j)=F:=fI Prod.snd e;subst e1 e2;have g:=j.2;refine⟨g,?_⟩;rw[qx,qQ hq b l (J x[m].2-(j+1)) (j+1) O];show _=(JT x[m] k r ((j:N)+1)||(match x[m].2[(j:N)]? with
   |none=>Sn
   |some y=>decide (H7 y=(k:I))))
  rw[aC g,nF];congr 1;rw[eQ,bD,bD,YN];exact YV (b _<|aH g).2
 have e:=cS.1 h;have e1:B=0:=fI Prod.fst e;have e2:F=Uo (Ou x[m] f 0) (0,[],x[m].1.map Ph.dst):=fI Prod.snd e;subst e1 e2;refine⟨aN,?_⟩;rw[qx,qQ hq b l (J x[m].2) 0 O];show _=(JT x[m] k r 0||Yo x m k);rw[nF];congr 1;unfold Yo;rw[aC i,eQ,bD];show k∈X9 (x[m].1.map Ph.dst)↔Cg (x[m].1.map Ph.dst) (k:I)=So;rw[XD];exact YV λz a=>by obtain⟨p,o,rfl⟩:=aY.1 a;exact(d.8 _ c p o).1
theorem wm(d:Jy n x)(e:m<J x)(hq:r=So->k<n)(h:JT x[m] k r B=So):k<n:=by
 have c:=aH e;unfold JT at h;obtain a|⟨y,f,a⟩:=TV _ (fV h)
 .rcases dI _ _▸a with b|b;·have:=(d.7 _ c _<|XD.1 b).2;omega
  exact hq b
 have:=(d.5 _ c y (List.mem_of_mem_drop f) _ a).2;omega
theorem Gp(c:Jy n x)(b:m<J x)(hq:r=So->k<n)(h:Ox x x[m] m B k r=So):k<n:=by
 have d:=aH b;cases B with
 |zero=>
  obtain a|a:=dI _ _▸(show(JT x[m] k r 0||Yo x m k)=So from h);·exact wm c b hq a
  unfold Yo at a;rw[aC b]at a;let⟨p,g,i⟩:=aY.1<|XD.1 a;have:=(c.8 _ d p g).2;omega
 |succ j=>
  have e:(JT x[m] k r (j+1)||(match x[m].2[j]? with
   |none=>Sn
   |some y=>decide (H7 y=(k:I))))=So:=h
  obtain a|a:=dI _ _▸e;·exact wm c b hq a
  cases hj:x[m].2[j]? with
  |none=>rw[hj]at a;cases a
  |some y=>
   rw[hj]at a;have f:=YN.1<|fV a;have:=(c.6 _ d y (eN hj) _ f).2;omega
open Classical in
noncomputable def Uq(a:Wi)(x:Xe)(V b i:N):Wa:=(Rg V).filter λv=>Ox a x b i v<|decide (UV a v b)
open Classical in
theorem wW(b:Jy n x)(a:m<J x)(l:n<=k)(hq:∀v,v<k->(Xh f v=So↔UV x v m)){W:Wk}(h:(i,W)∈TZ (J x[m].2) f (NS x[m])):Mq W k=Uq x x[m] n m i:=by
 have d:∀v,v<k->Xh W v=Ox x x[m] m i v (decide (UV x v m)):=λv c=>(FQ b a (by rw[eQ,hq v c,bD]) h).2
 rw[qB l (λv o e=>by
  rw[<-gU,d v e];intro g;have:=Gp b a (λj=>(fV j:UV x v m).val b a) g;omega)]
 unfold Mq Uq;apply lW;intro v c;have:=bE.1 c;exact d v O
section
structure Kb(B gv gh:N)(w w':Ub):Prop where
 os:w'.4=w.4
 tape:w'.2=w.2
 output:w'.5=w.5
 size:Z w.1<=Z w'.1
 block:∀k,k<B->k≠gv->k≠gh->w'.1[k]?=w.1[k]?
variable {w w' w1 w2: Ub} {B gv gh: N}
theorem Kb.trans(h:Kb B gv gh w w1)(k:Kb B gv gh w1 w2):Kb B gv gh w w2:=⟨G k.1 h.1,G k.2 h.2,G k.3 h.3,aJ h.4 k.4,λi a b c=>G (k.5 i a b c) (h.5 i a b c)⟩
theorem Kb.of_below(h:Sw B w w1):Kb B gv gh w w1:=⟨h.1,h.2,h.3,h.4,λi a _ _=>h.5 i a⟩
theorem Kb.below{a}(h:Kb B gv gh w w1)(e:a<=B)(c:a<=gv)(d:a<=gh):Sw a w w1:=⟨h.1,h.2,h.3,h.4,λi b=>h.5 i O O O⟩
variable {t: N} {tv: Uj} {vals hp tr: Wc}
theorem Kb.drew(h:Kb B gv gh w w1):Kb B gv gh w w1.drew:=⟨h.1,h.2,h.3,h.4,h.5⟩
variable {r: N} {W: Ub}
theorem Hz{u x b a}(h:Tp u x b a=So)(c:u=So):b<=x/\x<a:=by
 subst c;simpa [Tp]using h
theorem GW{n k p}(h:ZX n k p=So):(0<=p.1/\p.1<n)/\J p.2=k/\∀a∈p.2,0<=a/\a<n:=by
 simp only[ZX,Jt,bY,bD,dV]at h;let⟨b,⟨e,c⟩,d⟩:=h;exact⟨Hz b R,c,d⟩
end
structure QO where
 code:I
 value:I
 steps:N
 tr:Wc
 hp:Wc
theorem yC(b:I):∀(a:Wi)(i:N),∀y∈AQ a i b,(i:I)<=y
 |[],_,y,h=>by simp[AQ]at h
 |x::a,i,y,h=>by
  rw[AQ,bU]at h;obtain h|h:=h
  .split at h;·simp at h;omega
   simp at h
  have:=yC b a (i+1) y h;omega
theorem r5(b:I):∀(a:Wi)(i:N),(AQ a i b).Nodup
 |[],_=>by simp[AQ]
 |x::a,i=>by
  rw[AQ];split
  .rw[List.singleton_append,fL];exact⟨λh=>by have:=yC b a (i+1) _ h;omega,r5 b a<|i+1⟩
  rw[dR];exact r5 b a<|i+1
def de(a:Wc)(p:I):N:=a.findIdx λy=>p==y
theorem pC(h:t∈l):de l t<J l:=by
 unfold de;rw[List.findIdx_lt_length];exact⟨t,h,sP⟩
theorem yq(h:de l t<J l):l[de l t]=t:=by
 have:=List.findIdx_getElem (p:=λy=>t==y) (xs:=l) (w:=h);simp only[iA]at this;exact this.symm
theorem Is(h:n<de l t)(a:n<J l):(t==l[n])=Sn:=by
 have:=List.not_of_lt_findIdx (p:=λy=>t==y) (xs:=l) (i:=n) h;simpa using this
def E9(q:N)(phs:Za):List (I×I):=phs.map λa=>(a.1,a.2.getD q 0)
theorem AO(c:N)(ha:Q (Xp w m k p x))(j:Q (n=J x))(hs:Q (J x+Xx x<=1048576))(hB:k<=Z w.1)(hO:Q (Uw w))(hT:Q (T7 w))(hv:Q (XJ ⟨t,x⟩=So)):
 Sk prog 138 #[Sa #[H t,X p n c]] w λe O_=>∃U_ P B c1 C c2 g3 M c4,e=Rt (Sa #[Hl B n c1,Hl C n c2,Hl g3 n n,Hl M (J (XT P n 0)) c4])/\Sw (Z w.1) w O_/\YX (X8 x) n P/\Ej O_ (Z w.1) n U_ (λi:N=>AQ x 0 (i:I)) (λz=>Xh (Zp x).1 z) P (XT P n 0) B c1 C c2 g3 M c4:=by
 have y:=Y<|Wz hv;have aa:n<=1000:=oP y.2 j.o;have Z_:1<=n:=oP y.1 j.o;have a4:=Y λW (T:Sw (Z w.1) w W)=>JK t p n c x m k W (Y<|ha.keep (T.mono hB)) j hs (oN T.4) (Y<|hO.keep T) (Y<|hT.keep T);rw[hv.o]at a4;have bx:=Y λW (T:Sw (Z w.1) w W)=>KF t c (Y<|ha.keep (T.mono hB)) j O (oN T.4) (Y<|by rw[j.o];exact y.4)
 go_in
 go_wp2_with fail
 refine(a4 _<|Xb (Xb Rf _) _).mono ?_;rintro e l⟨rfl,T_⟩;obtain⟨a8,ei⟩:=NC T_;have k0:E l (A (Z w.1) 0)=S (H t):=by rw[a8 _ _<|by simp;omega];simp[go_sem]
 have k1:E l (A (Z w.1) 1)=S (X p n c):=by rw[a8 _ _<|by simp;omega];simp[go_sem]
 have bf:=Y<|Xg (Xb (Xb (Below.refl (Z w.1) w) _) _) T_;have gl:Z w.1+2<=Z l.1:=by have:=T_.4;simp at this;omega
 have b1:Q (l.rowIs (Z w.1+1) 81 4 λ_=>Hq):=Y (by
  have u:=eK (D w<|.cells #[H t,X p n c] 40) #[Hq,Hq,Hq,Hq] 81 (λ_=>Hq) (λi q=>by
   match i,q with
   |0,_=>rfl
   |1,_=>rfl
   |2,_=>rfl
   |3,_=>rfl)
  rw[aO]at u;exact u.of_block<|T_.5 _ sP)
 clear a8 ei T_ a4;go_wp2_with fail
 refine(bx l bf).mono ?_;rintro e w2⟨U_,rfl,J_,hU⟩;have K0:=Y k0;have K1:=Y k1;have Q_:=Y<|Xg bf J_;have L:=Y hU;have gp:=J_.4;have df:=Y<|b1.of_block (J_.5 _ b1.lt);have q0:=G (XU J_ O) k0;have q1:=G (XU J_ O) k1;clear k0 k1 K0 K1 bx hU;clear J_;go_wp2_with fail
 refine(Ki t p c aa).mono ?_;rintro e w3⟨s,F,rfl,fi,f6,a6,cv⟩;have H_:=Y a6;have b4:=Y cv;have gr:=a6.4;have ea:(n+63)/64<=100:=O;have eb:n<=64*((n+63)/64):=O;generalize (n+63)/64=KK at*;have HC:Q (E w2 (A (Z w.1) 0)=S (H t)/\E w2 (A (Z w.1) 1)=S (X p n c)):=Y ⟨q0,q1⟩;clear q0 q1 a6 cv;have b8:=Y<|ha.keep ((Xg Q_ H_).mono hB);have b7:=Y (VY s F (Z w3.1) c p m k j aa eb ea O O O (Y<|by rw[j.o];exact y.3) (J x) 0 (λ_=>0) Hq [] w3 b4 b8 Z_ (Y<|by rw[j.o];exact ZA _ _) (Y KW) (by simp only[bO,aV];exact ZA _ _));go_wp2_with fail
 refine b7.mono ?_;rintro e w4⟨rfl,v4,L_,r⟩;have b5:Q (YW w4 s F (Z w3.1) KK p n c (Zp x).1 v4 (Zp x).2):=Y (by unfold Zp;exact r);clear r;have r:=b5.o;have cl:=λa Y_=>G (L_.5 a O O O λe=>by cases e) (H_.5 a Y_)
 have R_:Q (Sw (Z w2.1) w2 w4):=Y ⟨G L_.1 H_.1,G L_.2 H_.2,G L_.3 H_.3,oN L_.4,cl⟩;have bd:0<J (Zp x).2/\J (Zp x).2<=1000:=by
  have h1:=y.ord_len;have h2:J (Ja x)=J (Zp x).2:=by simp[Ja]
  have:=y.2;omega
 obtain⟨gL,cL,rfl,⟨fz,f4⟩,eg⟩:=Xm r.6 bd.1;have br:Q (Je (Zp x).2=(Xi (Zp x).2).map (Si S6)):=Y (by simp[Je,Xi]);have bt:Q ((Xi (Zp x).2).reverse=Xi (Ja x)):=Y (by simp[Ja,Xi]);have bq:Q (J (Zp x).2=J (Ja x)):=Y (by simp[Ja]);have bn:Q (Sx w4 (Z w3.1) 2 1 (Hl gL (J (Zp x).2) cL) (J (Zp x).2) ((Xi (Zp x).2).map (Si S6))):=Y (by rw[<-br.o];exact r.6);have b0:Q (J (Zp x).2=J (Xi (Zp x).2)):=Y (by simp[Xi]);have c2:=r.3;have c1:=r.2;have a0:=Y r.5;have gf:=r.9;have gd:=r.7;have ge:=r.8;generalize J (Zp x).2=ab at*;clear L_ r b5 b7 b4 b8 cl;go_wp2_with fail
 refine(TM O b0 bn).mono ?_;rintro e w5⟨rfl,N_,a9⟩;rw[bt.o]at a9;have bo:=Y a9;have ad:=Y (R_.grown N_ R_.4 λa e=>by cases e;omega);have dn:=G (bZ (a:=(A s 2)) (N_.5 s (oN R_.4) λe=>by injection e with e;omega)) c2;have cb:=G (bZ (a:=(A s 1)) (N_.5 s (oN R_.4) λe=>by injection e with e;omega)) c1;have aj:=Y (a0.of_block<|N_.5 F (oN a0.lt) λe=>by injection e with e;omega);have gs:=N_.4;clear N_ a9 c1 c2 a0 bn b0;go_wp2_with fail
 have dj:Q (((Rg n).map λi:N=>AQ x 0 (i:I))=((Rg n).map (XX x n)).map Xi):=Y (by
  rw[jO];apply gH;intro b _;rw[Function.comp,j.o];exact K9 (λar j cz ht=>(y.3 ar j cz ht).1) b)
 have b6:Q (XR w5 (Z l.1+1) (Z w2.1) (S ⟨Z l.1+1,0,U⟩) (((Rg n).map (XX x n)).map Xi)):=Y (by rw[<-dj.o];exact L.ints.keep ad);have bp:Q (Xf w5 (Z w3.1) (Z w5.1) (S ⟨gL,0,U⟩) (Xi<|Ja x)):=Y (by
  obtain⟨a',c',et,ej⟩:=Xk bo;injection et with e1;rw[e1];exact ej)
 have bm:=Y (Bk n b6 (Y sP) bp bq aa Z_ bd.2 bd.1 eg aA ad.4 (Y<|by rw[j.o];exact y.ord_len.2.2) (Y (λg0 hl=>by
  obtain⟨b,_,rfl⟩:=aY.1 hl;exact⟨aJ tR O,λcz ht=>(Uf.1 ht).1⟩)))
 refine bm.mono ?_;rintro e d⟨g,Ws,rfl,f5,X_,ct,cx⟩;have V:Q (YX (X8 x) n ((Rg n).map (VB Ws (Ja x) ab))):=Y (by
  have u:=y.idm (Ws:=Ws) (by rw[<-j.o];exact cx);rw[<-bq.o,<-j.o]at u;exact u)
 have a3:=Y ct;have o:=Y<|ad.trans (X_.mono ad.4);have gt:=X_.4;have d1:=oB X_ cb (by show s<_;have:=R_.4;omega);have c9:=Y<|aj.of_block (X_.5 F aj.lt);have f7:=aj.lt;have fj:s<Z w5.1:=O;have f0:=G (XU o O) HC.1;have f1:=G (XU o O) HC.2;have en:Z w.1<Z d.1:=O;have d0:=λe7=>G (bP d e7 (A (Z w.1) 1) en) f1;clear X_ ct cx cb dn aj bm bp b6 bo bt br H_;go_wp2_with fail
 have bl:Q (OE d (D d<|.cells #[Hq,Hq,Hl g n n,Hq] 81) (Z d.1) (Hl g n n) Hq U_ (λz=>Sb (Xh (Zp x).1 z)) 0 U 0 0 U 0):=Y
  ⟨by simp[go_sem],SC,SC,SC,λab=>(eK d #[Hq,Hq,Hl g n n,Hq] 81 (λi=>#[Hq,Hq,Hl g n n,Hq].getD i Su) λi q=>by simp[Array.getElem?_eq_getElem q]).frozen ab,Xb Rf _,sP,R,dA,dA,bC R⟩
 clear f0 f1 d0
 go_loopw [32] (λac wr=>∃(b:N)(p1:Uy)(c1:N)(p2:Uy)(c2:N),b<=n/\ac=H b/\Q (OE d wr (Z d.1) (Hl g n n) Hq U_ (λz=>Sb (Xh (Zp x).1 z)) b p1 c1 b p2 c2)) λac _=>n-(intOf ac).toNat
 case atStart=>exact⟨0,U,0,U,0,aN,R,bl⟩
 clear bl;obtain⟨b,p1,c1,p2,c2,fl,rfl,h⟩:=hrel;by_cases cs:b<n
 .have gi:=h.7;have m0:=h.1;have mz:=h.5 0;have mU:=G ((h.6).cell (p:=A (Z l.1+1) b) (by show Z l.1+1<_;have:=L.1.lt;have:=o.4;omega)) (oB o (L.1.cell cs) (by show Z l.1+1<_;exact L.1.lt));obtain⟨ua,uc,a5,_⟩:=Xk<|L.2.1 b cs;have dk:=Y a5;rw[a5]at mU;generalize J (AQ x 0 (b:I))=ul at*;clear a5;obtain⟨i1,ek,ez,e0,e6⟩:=Xq QQ;go_wp2_with fail
  have ec:Z l.1+1<Z d.1:=oP L.1.lt o.4;have ed:Z l.1+1≠Z d.1:=O;have ao:s<Z d.1:=O;have ee:s≠Z d.1:=O;have be:=Y λW (u:Sw (Z d.1) d W)=>Jm F KK b (Zp x).1 W (Y<|oW (X8 x) (J x) 0 _ KW) (Y<|c9.of_block (u.5 F O)) O O;refine Y7 (λO_=>E O_ (A (Z l.1+1) b)=S (X ua ul uc)) λhHeld=>?_;refine Xn 0 ?_;refine Xn 2 ?_;refine Xn 3 ?_;refine Xn 4 ?_;refine Xn 5 ?_;refine Xn 6 ?_;refine eS (rs:=[1,7]) vZ sP ?_;refine(bQ R (λK hK=>?_) (bQ R (λK hK=>?_) dY));go_simp;refine hK _ _ kP λhHeld=>?_;clear hK
  try simp only[xX]
  refine Xs 7 λK hK=>?_;go_simp;refine hK _ _ kP λhHeld=>?_;clear hK;rotate_left;go_simp;refine hK _ _ kP λhHeld=>?_;clear hK
  try simp only[xX]
  refine Xs 1 λK hK=>?_;go_simp;refine hK _ _ kP λhHeld=>?_;clear hK
  all_goals (
   refine Xs 8 λK hK=>?_;refine d6 R _ _ 78 R (Z d.1+1) 89 i1 (Sa #[Hq]) 1 24 underlying78 ek ez e0 e6 R vY (X p1 b c1) b ((Rg b).map U_) R ?s1 (A (Z wr.1) 0) 1 1 [X ua ul uc] R R ?s2 ?s3 ?s4 ?s5 ?s6 ?_
   case s1=>exact(ue h.9).alloc _
   case s2=>exact Yf _ _ _
   case s3=>intro ac hu;simp at hu;subst hu;rfl
   case s4=>unfold maxLen;omega
   case s5=>omega
   case s6=>simp;omega
   intro v8 w8 bc cq _ ck;obtain⟨g8,c8,rfl,fx,_⟩:=Xm bc O;obtain⟨ci,ce,cg,cn⟩:=(h.below (Below.refl (Z wr.1) wr).drew).app1 cq (by rw[dk.o];exact bc) (by simpa using ck);have z0:=G (ce 0) h.1;have zf:=cg 0;have zU:=oB cn mU ec;have f:=Y ci;clear bc cq ck ci ce cg cn;refine hK _ _ zU λhHeld=>?_;clear hK;refine Xn 9 ?_;refine Xs 10 λK hK=>?_;go_simp;refine hK _ _ (G (Xc<|Below.heap_setCell _ _ _ _ ed) zU) λhHeld=>?_;clear hK;refine Yq ?_;clear hHeld z0 zf zU;generalize Se w8 _ _=w9 at*;have af:=Y<|f.below (Below.refl (Z w9.1) w9).drew;have x1:=f.2;have xl:=f.7;have xS:=oB f.6 d1 ao;obtain⟨i2,el,eu,ev,ey⟩:=Xq Q7;clear m0 mz mU h;go_wp2_with fail
   refine Y7 (λO_=>E O_ (A s 1)=S (Hl F KK KK)) λhHeld=>?_;refine Xn 0 ?_;refine Xn 2 ?_;refine Xn 3 ?_;refine Xn 4 ?_;refine Xn 5 ?_;refine Xn 6 ?_;refine eS (rs:=[1,7]) vZ sP ?_;refine(bQ R (λK hK=>?_) (bQ R (λK hK=>?_) dY));go_simp;refine hK _ _ kP λhHeld=>?_;clear hK
   try simp only[xX]
   refine Xs 7 λK hK=>?_;go_simp
   go_at_call 112
   refine(be _ af.6).mono ?_;rintro e c6⟨rfl,V_⟩;have v:=Y<|af.below V_;have y1:=v.2;have yl:=v.7;have yS:=oB v.6 d1 ao;clear V_;refine hK _ _ yS λhHeld=>?_;clear hK;refine Xs 8 λK hK=>?_;go_simp;refine hK _ _ kP λhHeld=>?_;clear hK;rotate_left;go_simp
   go_at_call 112
   refine(be _ af.6).mono ?_;rintro e c6⟨rfl,V_⟩;have v:=Y<|af.below V_;have y1:=v.2;have yl:=v.7;have yS:=oB v.6 d1 ao;clear V_;refine hK _ _ yS λhHeld=>?_;clear hK
   try simp only[xX]
   refine eS (rs:=[1,8]) vZ sP ?_;refine(bQ R (λK hK=>?_) (bQ R (λK hK=>?_) dY));go_simp;refine hK _ _ kP λhHeld=>?_;clear hK
   try simp only[xX]
   refine Xs 8 λK hK=>?_;go_simp;refine hK _ _ kP λhHeld=>?_;clear hK;rotate_left;go_simp;refine hK _ _ kP λhHeld=>?_;clear hK
   try simp only[xX]
   refine Xs 1 λK hK=>?_;go_simp;refine hK _ _ kP λhHeld=>?_;clear hK
   all_goals (
    refine Xs 9 λK hK=>?_;refine d6 R _ _ 79 R (Z d.1+1) 4 i2 (Sb Sn) 1 1 underlying79 el eu ev ey R vY (X p2 b c2) b ((Rg b).map λz=>Sb (Xh (Zp x).1 z)) R ?s1 (A (Z c6.1) 0) 1 1 [Sb (Xh (Zp x).1 b)] R R ?s2 ?s3 ?s4 ?s5 ?s6 ?_
    case s1=>exact v.o2.alloc _
    case s2=>exact Yf _ _ _
    case s3=>intro ac hu;simp at hu;subst hu;rfl
    case s4=>unfold maxLen;omega
    case s5=>omega
    case s6=>simp;omega
    intro g5 e9 ba cp _ cj;obtain⟨fe,dl,rfl,fq,_⟩:=Xm ba O;obtain⟨ch,cd,cf,cm⟩:=v.app2 cp ba (by simpa using cj);have z0:=G (cd 1) v.2;have zf:=cf 1;have zS:=oB cm yS ao;have c7:=Y ch;clear ba cp cj ch cd cf cm;refine hK _ _ zS λhHeld=>?_;clear hK;refine Xn 10 ?_;refine Xs 11 λK hK=>?_;go_simp;refine hK _ _ (G (Xc<|Below.heap_setCell _ _ _ _ ee) zS) λhHeld=>?_;clear hK;refine Yq ?_;clear hHeld z0 zf zS;generalize Se e9 _ _=g6 at*;go_wp2
    exact⟨⟨b+1,_,c8,_,dl,O,gM,c7⟩,SA⟩))
 have ef:n=b:=O
 subst ef;have m2:=h.3;have ml:=h.7;obtain⟨P,hP⟩:∃P,P=(Rg n).map (VB Ws (Ja x) ab):=⟨_,R⟩;rw[<-hP]at V;have a1:=Y V.1.symm;have dd:Q (∀z,z<n->P.getD z 0=VB Ws (Ja x) ab z):=Y (λz hz=>by rw[hP];simp[hz]);have b3:Q (wr.rowIs g 2 n λz=>H<|P.getD z 0):=Y ((a3.of_block<|h.6.5 g a3.lt).congr λz hz=>by rw[dd.o z hz]);have cr:=a3.lt;have da:Q (Xf wr g (g+1) (S ⟨g,0,U⟩) P):=Y (λi q=>by
  have em:i<n:=oN a1.o
  refine⟨g,0,R,⟨aA,iJ⟩,?_⟩;rw[aV,b3.cell em];simp[q])
 have a2:Q (∀ar,Re (X8 x) ar->ar<n):=Y (by rw[j.o];exact y.re);have dc:=Y λe8 hp=>(Dh V a2 e8 hp).2;have bi:=Y<|Au n da a1 aa O dc;clear hP;go_wp2_with fail
 refine bi.mono ?_;rintro e w7⟨ca,cc,rfl,al,co⟩;have bv:=Y (AV ca cc (Z wr.1) a1 aa aA (λb=>J (Zq (X8 x) n b)) (Y λb c hc=>qJ V a2 hc) (Y λb=>rr n b) n 0 Hq [] w7 (Y co) (Y<|dA) aA Z_ (Y O) (by have:=o9 V a2 n Re.root;simp only[bO];omega));have fa:=Y al;have az:=Y<|h.below al;have gv:=al.4;have m3:=az.4;have mz:=az.5 3;clear al co bi;go_wp2_with fail
 refine bv.mono ?_;rintro e w8⟨v8,rfl,M_,aq⟩;have bh:Q (Sw (Z w7.1) w7 w8):=Y ⟨M_.1,M_.2,M_.3,M_.4,λa Y_=>M_.5 a Y_ λe=>by cases e⟩;have er:0<J (XT P n 0):=by cases n<;>simp[XT]
 rw[dR]at aq;obtain⟨M,c4,rfl,fs,_⟩:=Xm aq er;have db:=Y aq;have f:=Y<|az.below bh;have t0:=f.1;have t1:=f.2;have t2:=f.3;have t3:=f.4;have tz:=f.5 3;have gz:=bh.4;have S_:=Y f.6;obtain⟨B,k1,e1,fn,_⟩:=Xm f.9 Z_;obtain⟨C,k2,e2,fr,_⟩:=Xm f.o2 Z_;injection e1 with ds fb du;injection e2 with dw fc dz;subst ds;subst dw;subst du;subst dz;have ga:=(h.9.lt B R).2;have gb:=(h.o2.lt C R).2;generalize hQ:J (XT P n 0)=ql at*;clear bv M_ aq m2 m3 mz;have I_:=df.of_block<|G (S_.5 _ O) (o.5 _ O);have y0:=I_.cell (i:=0) vY;have y1:=I_.cell (i:=1) vY;have y2:=I_.cell (i:=2) vY;have y3:=I_.cell (i:=3) vY;have yf:=I_.frozen;have gg:Z d.1≠Z w.1+1:=O;have eo:Z w.1+1≠Z d.1:=O;have di:=Y I_;go_wp2_with fail
 obtain⟨wE,hE⟩:∃wE,wE=Se (Se (Se (Se (Se w8 (A (Z d.1) 3) (Hl M ql c4)) (A (Z w.1+1) 0) (Hl B n c1)) (A (Z w.1+1) 1) (Hl C n c2)) (A (Z w.1+1) 2) (Hl g n n)) (A (Z w.1+1) 3) (Hl M ql c4):=⟨_,R⟩;rw[<-hE];obtain⟨z0,z1,z2,z3,ap,gh,ep,es,eq⟩:=xq di eo hE;clear hE;refine cC (v:=Sa #[Hl B n c1,Hl C n c2,Hl g n n,Hl M ql c4]) (by simp[results,results138,go_sem,z0,z1,z2,z3]) R ?_;subst hQ;have a7:=λa h1 h2=>G (ap a O h2) (S_.5 a h1);have cw:=λi q a e=>(L.2.1 i q).lt a e;have gq:=o.4;refine⟨U_,P,B,c1,C,c2,g,M,c4,R,?_,V,V.1,?_,?_,?_,?_,?_,?_,?_,?_⟩;·exact⟨G ep<|G S_.1 (G o.1 Q_.1),G es<|G S_.2 (G o.2 Q_.2),G eq<|G S_.3 (G o.3 Q_.3),O,λa Y_=>G (a7 a O O) (G (o.5 a O) (Q_.5 a Y_))⟩
 .exact n9 f.9 O λa e=>by cases e;exact ap B O O
 .exact n9 f.o2 O λa e=>by cases e;exact ap C O O
 .exact b3.of_block<|G (a7 g cr O) (h.6.5 g cr).symm
 .exact n9 db O λa e=>by cases e;exact ap M O O
 .exact λi q=>n9 (L.2.1 i q) O λa e=>by have:=cw i q a e;exact G (a7 a O O) (o.5 a O)
 .exact L.2.2
 .refine⟨O,λe=>?_,O,O,O,O,O⟩;obtain u|u:=f.dj;·cases u
  exact u<|by rw[e];rfl
 exact λi q a e=>by have:=cw i q a e;omega
theorem zO{P:Wc}{b:N}(g:Yr):(WC P (c+1) b).flatMap g=(WC P c b).flatMap g++(if P.getD c 0=(b:I)then g c else []):=by
 unfold WC;rw[dN,eU,iW,jX,eZ];by_cases e:P.getD c 0=(b:I);·rw[aU (by rw[iA];exact e),aU e];simp
 rw[aM (by rw[iA];exact e),aM e];simp
theorem zR{P:Wc}{b:N}(g:Yr):∀(m c:N),c+m=J P->∃r,(Nj P b).flatMap g=(WC P c b).flatMap g++r
 |0,c,h=>⟨[],by rw[show c=J P by omega,vM];simp⟩
 |m+1,c,h=>by
  obtain⟨r,a⟩:=zR (P:=P) (b:=b) g m (c+1) O;exact⟨_,by rw[a,zO,cK]⟩
theorem zV(w:Ub)(b:N):Sx (D w<|.cells #[Si S6 (b:I)] 2) (Z w.1) 2 1 (X (S ⟨Z w.1,0,U⟩) 1 1) (J [b]) (Je [b]):=by
 have:=eI (base:=Z w.1) (e:=2) (size:=1) w #[H b] 1 sP vY R;simpa [Je]using this
theorem Me(K:Uy)(ic:N)(aj B:N)(z:Q (n=J l))(hn:n<=1000)(x:Vv)(hG:Q (∀b c,x b->c∈Nj l b->x c))(hL:Q (∀m b,x b->J (XT l m b)<=1000)):
 ∀(m b:N)(w:Ub),Q (Xf w aj B K l)->B<=Z w.1->Q (x b)->m<=1000 ->
 Sk prog 90 #[X K n ic,H b,H m] w λe V=>∃M,e=Rt M/\Sw (Z w.1) w V/\Sx V (Z w.1) 2 1 M (J (XT l m b)) (Je<|XT l m b):=by
 let⟨i0,aq,az,a0,a1⟩:=Xq RH;intro m
 induction m with
 |zero=>
  intro b w q P p hm;have ba:((0:N):I)=0:=R
  go_in
  go_wp2;go_ret;exact⟨_,R,Xb Rf _,zV w b⟩
 |succ m T=>
  intro b w q P p hm;have IH:=Y T;clear T;have L:Q (Sw (Z w.1) w<|D w (Sc #[H b] 2)):=Y<|Xb Rf _;have W:=Y<|zV w b;have K_:Q (XT l (m+1) b=b::(Nj l b).flatMap (XT l m)):=Y R;have ab:Q (J (b::(Nj l b).flatMap (XT l m))<=1000):=Y (K_.o▸hL _ _ p);rw[K_.o];let⟨C,O_⟩:∃C:I,C=((m+1:N):I):=⟨_,R⟩;rw[<-O_];have bc:C-1=(m:I):=O;have a6:(C==0)=Sn:=by simp;omega
  clear O_
  go_in
  go_wp2
  go_loopw [7,8] (λvo u wr=>∃(c:N)(i:Uy)(a j:N),c<=n/\u=H c/\vo=X i a j/\Q (a=J (b::(WC l c b).flatMap (XT l m)))/\Q (Sw (Z w.1) w wr)/\Q (Sx wr (Z w.1) 2 1 (X i a j) a (Je (b::(WC l c b).flatMap (XT l m))))) λ_ u _=>n-(intOf u).toNat
  case atStart=>exact⟨0,_,_,_,aN,R,R,Y (by simp[WC]),L,Y<|by simpa [WC]using W.o⟩
  obtain⟨c,i,a,j,hc,rfl,rfl,g,f,h⟩:=hrel;clear L W;by_cases a9:c<n
  .have r:c<J l:=oN z.o;obtain⟨b5,o5,rfl,a5,e5⟩:=q c r;have a2:=G (XU f O) e5;have s:l.getD c 0=l[c]:=by simp[r]
   have d:=Y<|zO (P:=l) (c:=c) (b:=b) (XT l m);rw[s]at d;let⟨bf,Q_⟩:=zR (P:=l) (b:=b) (XT l m) (n-(c+1)) (c+1) (oN z.o);have aa:Q (l[c]=(b:I)->c∈Nj l b):=Y λe=>o8.2 ⟨r,s▸e⟩;have E_:Q (J (b::(WC l (c+1) b).flatMap (XT l m))<=1000):=Y (by
    have:=ab.o;rw[Q_]at this;simp only[bA,aQ]at this |-;omega)
   clear e5 s Q_;generalize l[c]=T_ at*;by_cases x_:T_=(b:I)
   .subst x_;rw[aU R]at d;rw[d.o]at E_;have q1:((b:I)==(b:I))=So:=sP;have C_:=Y<|IH.o c wr (Y<|q.keep (f.mono P)) (oN f.4) (Y<|hG.o b c p (aa R)) O;have ar:0<J (XT l m c):=by cases m<;>simp[XT]
    have F_:Q (a+J (XT l m c)=J (b::((WC l c b).flatMap (XT l m)++XT l m c))):=Y (by rw[g.o];simp;omega);have bb:a+J (XT l m c)<=1000:=F_.o▸E_;have W_:Q (Je (b::(WC l c b).flatMap (XT l m))++Je (XT l m c)=Je (b::(WC l (c+1) b).flatMap (XT l m))):=Y (by rw[d.o];simp[Je]);have ac:Q (a+J (XT l m c)=J (b::(WC l (c+1) b).flatMap (XT l m))):=Y (by rw[F_.o,d.o]);go_wp2_with fail
    refine C_.mono ?_;rintro e w5⟨v5,rfl,k,t⟩;obtain⟨M_,c5,rfl,a7,_⟩:=Xm t ar;have I_:=Y (n9 h aA λo e=>k.5 o (h.lt o e).2);have X_:=Y<|Xg f k;have Z_:Q (∀F u,(Je<|XT l m c)[F]?=S u->E w5 (((A M_ 0):Addr).add F)=S u):=Y (λF u y=>by rw[mK,aV];exact Jj t y);have be:=f.4;have ad:Q (J (Je<|XT l m c)=J (XT l m c)*1):=Y (by simp[Je]);clear k t C_;generalize J (XT l m c)=lp at*;go_wp2_with (at_builtin;refine bT _ R _ _ 35 R (Z w.1) 2 i0 (H 0) 1 8 underlying35 aq az a0 a1 R vY _ _ _ R I_ (A M_ 0) lp c5 (Je<|XT l m c) R ad ?c1 ?c2 ?c3 ?c4 ?c5 ?_)
    case c1=>exact Z_
    case c2=>intro u y;obtain⟨bh,_,rfl⟩:=aY.1 y;rfl
    case c3=>unfold maxLen;omega
    case c4=>omega
    case c5=>omega
    intro v8 w8 v P_ _ al;obtain⟨g8,c8,rfl,a8,_⟩:=Xm v O;have Y_:=Y (X_.grown P_ O λo e=>(I_.lt o e).1);have J_:=Y v;rw[W_.o]at J_;clear v P_ al;go_wp2;exact⟨⟨c+1,_,_,_,O,gM,R,ac,Y_,J_⟩,SA⟩
   rw[aM x_,fF]at d;go_wp2;exact⟨⟨c+1,i,a,j,O,gM,R,Y (d.o▸g),f,Y (d.o▸h)⟩,SA⟩
  have ap:c=n:=O;have af:Q (WC l c b=Nj l b):=Y (by rw[ap,z.o];rfl);rw[af.o]at h g;go_wp2;go_ret;refine⟨_,R,f,?_⟩;have:=h.o;rw[g.o]at this |-;exact this
shelf_lay Lays.nb141 Nm 141 at Tryz as laysCP
theorem oG(bs:Wn):Lib.bytesOf (bs.map λx=>(x.toNat:I))=bs:=by
 unfold Lib.bytesOf;rw[jO];have:((λn:I=>UInt8.ofNat n.toNat) ∘ λx:UInt8=>(x.toNat:I))=id:=by
  funext x;simp
 rw[this,List.map_id]
theorem LX(f:Wn):∀a:N,a<=f.foldl (λa c=>a*10+(c.toNat-48)) a:=by
 induction f with
 |nil=>intro a;exact aA
 |cons c r b=>intro a;rw[iM];exact aJ O<|b _
theorem LS(r:Wn):NM (45::r)=(Ax r 10&&decide (Bo r<=1000000000)&&decide (Bo r≠0)):=by
 cases r with
 |nil=>rfl
 |cons c s=>
  rw[sI];cases hd:Ax (c::s) 10 with
  |false=>
   by_cases a:c=45;·subst a;simp
   rw[oQ (c::s) (λg r e=>a<|by cases e;rfl),hd];simp
  |true=>
   have hq:=sh hd;have d:T3 c=So:=by have:=hq.2.1;rw[List.all_cons,bY]at this;exact this.1
   simp only[T3,bY,bD]at d;have a:c≠45:=λe=>by subst e;simp at d
   rw[oQ (c::s) (λg r e=>a<|by cases e;rfl),hd];have h:(c != 45)=So:=by rw[jJ];exact a
   rw[h,Bool.and_true,Bool.true_and];by_cases b:c=48
   .have k:s=[]:=by
     unfold Ax at hd;simp only[bY,lV,Bool.or_eq_false_iff,jD]at hd;have:=hd.1.2;subst b;obtain q|q:=this;·simp at q
     simp at q;exact q
    subst k;subst b;rfl
   have i:(c != 48)=So:=by rw[jJ];exact b
   have j:Bo (c::s)≠0:=by
    have l:=LX s<|0*10+(c.toNat-48);have m:c.toNat≠48:=λe=>b<|UInt8.toNat_inj.1 e;have n:Bo (c::s)=s.foldl (λf c=>f*10+(c.toNat-48)) (0*10+(c.toNat-48)):=R;omega
   rw[i,eB j,Bool.true_and,Bool.and_true]
def fp(f:Wn):I:=if NM f=So then i9 f else 0
theorem yE(b o n c b2:N)(bs:Wn)(w:Ub)(m:n=J bs)(k:n<=c)(ha:∀i (h:i<J bs),E w (A b<|o+i)=S (Si .u8 (bs[i].toNat:I)))(g:E w (A b2 0)=S (Si .u8 45)):
 Sk prog 235 #[Hm b o n c,Hl b2 1 1] w λe d=>e=Rt (St #[if bs.head?=S 45 then X (if c=1 then S (A b o)else S (A b<|o+1)) (n-1) (c-1)else Hm b o n c,Sb (decide (bs.head?=S 45))])/\d=w:=by
 have h:=Any.bytes_CutPrefix laysCP b o n c b2 0 1 1 (bs.map λx=>(x.toNat:I)) [45] w (by simp[m]) R k (λi j=>by
  have a:i<J bs:=O;rw[ha i a];simp[List.getD,a]) (λi j=>by
  have:i=0:=O;subst this;exact g)
 have l:Lib.hasPrefix (Lib.bytesOf<|bs.map λx=>(x.toNat:I)) (Lib.bytesOf [45])=decide (bs.head?=S 45):=by
  rw[oG];cases bs with
  |nil=>rfl
  |cons x r=>
   show(List.isPrefixOf [45] (x::r))=_;by_cases e:x=45;·subst e;simp
   have f:((45:UInt8)==x)=Sn:=by rw[iS];exact λq=>e q.symm
   have e2:decide ((x::r).head?=S 45)=Sn:=by rw[fC];intro q;exact e<|gQ q
   rw[e2];show((45:UInt8)==x&&List.isPrefixOf [] r)=Sn;rw[f];rfl
 refine h.mono ?_;rintro e d⟨rfl,rfl⟩;refine⟨?_,R⟩;unfold Lib.bytesTrimPrefix;rw[l];by_cases q:bs.head?=S 45;·rw[aU (by simpa using q),aU q];rfl
 rw[aM (by simpa using q),aM q]
theorem zQB0{p: Prop}(h: p := by
  clear hd;go_wp2;refine cC (v:=St #[Si S6 0,Sb Sn]) (by simp[results,results214,go_sem]) R ⟨by rw[a.1,a.2],b⟩): p := h
theorem II{bs:Wn}(L:N)(ha:Q (Yx w L B (S ⟨n,m,U⟩) bs))(t:Q (k=J bs))(F:k<=c)(W:k<=1000000)(M:B<=Z w.1):
 Sk prog 214 #[Hm n m k c] w λe o=>e=Rt (St #[H<|fp bs,Sb (NM bs)])/\Sw (Z w.1) w o:=by
 have s:Q (∀x i (h:i<J bs),E (D w x) ⟨n,m+i,U⟩=S (Si .u8 (bs[i].toNat:I))):=Y (λx i h=>by
  obtain⟨H_,Q_,C,_,K_⟩:=(ha.keep<|(Xb (Below.refl (Z w.1) w) x).mono M) i h;cases C;exact K_)
 by_cases g:bs.head?=S 45
 .obtain⟨r,rfl⟩:∃r,bs=45::r:=by
   cases bs with
   |nil=>cases g
   |cons x r=>simp at g;exact⟨r,by rw[g]⟩
  have v:=Y<|yE n m k c (Z w.1) (45::r) (D w<|.cells #[Si .u8 45] 5) t F (s _) sP;have T:k-1=J r:=by have:=t.o;simp at this;omega
  have f:Sw (Z w.1) w (D w<|.cells #[Si .u8 45] 5):=Xb Rf _;have P:Q (Sk prog 187 #[X (if c=1 then S ⟨n,m,U⟩else S ⟨n,m+1,U⟩) (k-1) (c-1),Si S6 10] (D w<|.cells #[Si .u8 45] 5) λe o=>e=Rt (St #[Si S6 (NF r 10),Sb (Ax r 10)])/\Sw (Z (D w<|.cells #[Si .u8 45] 5).1) (D w<|.cells #[Si .u8 45] 5) o):=Y (by
   refine r6 (c-1) 10 L B (Y λi T_=>?_) (Y T) vY O SB;obtain⟨H_,Q_,C,I_,M_⟩:=(ha.keep<|f.mono M) (i+1) SB;cases C;have N_:¬(c=1):=O;rw[aM N_];exact⟨n,m+1,R,I_,by rw[Nat.add_assoc,Nat.add_comm 1 i];exact M_⟩)
  have d:=Y<|LS r;have y:Q (i9 (45::r)=-(Bo r:I)):=Y R;have z:Q (Ax r 10=So->NF r 10=(Bo r:I)):=Y (λh=>by unfold NF;rw[h];rfl);have u:=Y f;clear f T s;generalize (if c=1 then S (⟨n,m,U⟩:Addr)else S ⟨n,m+1,U⟩)=S_ at*
  go_in
  go_wp2_with (go_at_call 235;refine v.mono ?_;rintro e p⟨rfl,l⟩;rw[l];clear l p)
  refine P.mono ?_;rintro e p⟨rfl,j⟩;have b:=Y<|u.trans (j.mono sP);clear j;cases hd:Ax r 10 with
  |false=>
   have a:Q (NM (45::r)=Sn/\fp (45::r)=0):=Y (by
    have h:NM (45::r)=Sn:=by rw[d.o,hd];rfl
    exact⟨h,by unfold fp;rw[h];rfl⟩)
   exact zQB0
  |true=>
   rw[z.o hd];by_cases J_:(1000000000:I)<(Bo r:I)
   .have a:Q (NM (45::r)=Sn/\fp (45::r)=0):=Y (by
     have h:NM (45::r)=Sn:=by rw[d.o,hd,dJ O];rfl
     exact⟨h,by unfold fp;rw[h];rfl⟩)
    exact zQB0
   have a:Q (NM (45::r)=((Bo r:I) != 0)/\fp (45::r)=-(Bo r:I)):=Y (by
    have h:NM (45::r)=((Bo r:I) != 0):=by
     rw[d.o,hd,eB O,Bool.true_and,Bool.true_and];by_cases q:Bo r=0;·rw[q];rfl
     rw[eB q];symm;rw[jJ];omega
    refine⟨h,?_⟩;unfold fp;rw[h,y.o];by_cases q:(Bo r:I)=0;·rw[q];rfl
    rw[aU<|by rw[jJ];exact q])
   have P_:S6.wrap (-(Bo r:I))=-(Bo r:I):=by rw[dF];omega
   have R_:=Y P_;clear hd;generalize (Bo r:I)=K at*;go_wp2;refine cC (v:=St #[Si S6 (-K),Sb (K != 0)]) (by simp[results,results214,go_sem]) R ⟨by rw[a.1,a.2],b⟩
 have v:=Y<|yE n m k c (Z w.1) bs (D w<|.cells #[Si .u8 45] 5) t F (s _) sP
 have f:Sw (Z w.1) w (D w<|.cells #[Si .u8 45] 5):=Xb Rf _;have P:Q (Sk prog 187 #[X (S ⟨n,m,U⟩) k c,Si S6 10] (D w<|.cells #[Si .u8 45] 5) λe o=>e=Rt (St #[Si S6 (NF bs 10),Sb (Ax bs 10)])/\Sw (Z (D w<|.cells #[Si .u8 45] 5).1) (D w<|.cells #[Si .u8 45] 5) o):=Y
  (r6 c 10 L B (Y<|ha.keep (f.mono M)) t vY W SB)
 have d:=Y (oQ bs λx r e=>g<|by rw[e];rfl);have y:Q (i9 bs=(Bo bs:I)):=Y (by unfold i9;rw[aM g]);have z:Q (Ax bs 10=So->NF bs 10=(Bo bs:I)):=Y (λh=>by unfold NF;rw[h];rfl);have u:=Y f;have V:=Y g;clear f s g
 go_in
 go_wp2_with (go_at_call 235;refine v.mono ?_;rintro e p⟨rfl,l⟩;rw[l,aM V.o,dJ V.o];clear l p)
 refine P.mono ?_;rintro e p⟨rfl,j⟩;have b:=Y<|u.trans (j.mono sP);clear j;cases hd:Ax bs 10 with
 |false=>
  have a:Q (NM bs=Sn/\fp bs=0):=Y (by
   have h:NM bs=Sn:=by rw[d.o,hd];rfl
   exact⟨h,by unfold fp;rw[h];rfl⟩)
  exact zQB0
 |true=>
  rw[z.o hd];by_cases J_:(1000000000:I)<(Bo bs:I)
  .have a:Q (NM bs=Sn/\fp bs=0):=Y (by
    have h:NM bs=Sn:=by rw[d.o,hd,dJ O];rfl
    exact⟨h,by unfold fp;rw[h];rfl⟩)
   exact zQB0
  have a:Q (NM bs=So/\fp bs=(Bo bs:I)):=Y (by
   have h:NM bs=So:=by rw[d.o,hd,eB O];rfl
   exact⟨h,by unfold fp;rw[h,y.o];rfl⟩)
  clear hd;generalize (Bo bs:I)=K at*;go_wp2;refine cC (v:=St #[Si S6 K,Sb So]) (by simp[results,results214,go_sem]) R ⟨by rw[a.1,a.2],b⟩
theorem zH(s:UInt8)(l:Wn):(Lib.index l [s]=-1/\s∉l)\/∃i:N,Lib.index l [s]=i/\i<J l/\l=l.take i++s::l.drop (i+1)/\s∉l.take i:=by
 induction l with
 |nil=>exact bC ⟨R,sP⟩
 |cons b l e=>
  by_cases a:b=s
  .subst a;exact aZ ⟨0,by simp[Lib.index],sP,sP,sP⟩
  have d:(List.isPrefixOf [s] (b::l))=Sn:=by
   show((s==b)&&List.isPrefixOf [] l)=Sn;rw[show(s==b)=Sn from by rw[iS];exact λq=>a q.symm];rfl
  obtain⟨h1,h2⟩|⟨i,h1,h2,h3,h4⟩:=e
  .exact bC ⟨by rw[Lib.index,d,h1];rfl,by
    intro c;obtain q|q:=cH.1 c;·exact a q.symm
    exact h2 q⟩
  refine aZ ⟨i+1,?_,SB,?_,?_⟩
  .rw[Lib.index,d,h1];have:((i:I) == -1)=Sn:=by rw[iS];omega
   simp[this]
  .simp only[List.take_succ_cons,List.drop_succ_cons,cW];rw[<-h3]
  rw[List.take_succ_cons];intro c;obtain q|q:=cH.1 c;·exact a q.symm
  exact h4 q
theorem zu(s:UInt8):∀(l a:Wn),s∉l->am s a l=[a++l]
 |[],a,_=>by simp[am]
 |c::r,a,h=>by
  rw[am,aM (λe=>h<|by rw[e];exact cI ..),zu s r _ λq=>h<|cN _ q];simp
theorem zQ(s:UInt8):∀(d a b:Wn),s∉d->am s a (d++s::b)=(a++d)::am s [] b
 |[],a,b,_=>by simp[am]
 |c::r,a,b,h=>by
  rw[cW,am,aM (λe=>h<|by rw[e];exact cI ..),zQ s r _ _ λq=>h<|cN _ q];simp
def mf(w:Ub)(b:N)(v:Uj)(f:Wn):Prop:=∃o c,v=X (S ⟨b,o,U⟩) (J f) c/\(J f<=c/\c<=9223372036854775807)/\∀j (h:j<J f),E w ⟨b,o+j,U⟩=S (Si .u8 (f[j].toNat:I))
theorem Jg(w:Ub)(b:N)(s:UInt8):∀(k o a:N)(l:Wn),Lib.count l [s]=k->(J l<=a/\a<=9223372036854775807)->(∀j (h:j<J l),E w (A b<|o+j)=S (Si .u8 (l[j].toNat:I))) ->
 J (Lib.splitV [s] 0 k (A b o) a l)=J (C3 l s)/\∀i (h:i<J (C3 l s)) (f:i<J (Lib.splitV [s] 0 k (A b o) a l)),mf w b (Lib.splitV [s] 0 k (A b o) a l)[i] (C3 l s)[i]:=by
 intro k
 induction k with
 |zero=>
  intro o a l g n c;have x:s∉l:=by
   obtain⟨_,h⟩|⟨i,h1,_⟩:=zH s l;·exact h
   rw[Lib.count_hit sP h1]at g;omega
  have e:C3 l s=[l]:=by unfold C3;rw[zu s l [] x];rfl
  rw[e];refine⟨R,λi h f=>?_⟩;have:i=0:=by simpa using h
  subst this;exact⟨o,a,R,n,c⟩
 |succ k z=>
  intro o a l g n c;obtain⟨h1,_⟩|⟨p,h1,h2,h3,h4⟩:=zH s l;·rw[Lib.count_miss h1]at g;omega
  have u:Lib.count (l.drop<|p+1) [s]=k:=by
   have:=Lib.count_hit (s:=l) (sub:=[s]) sP h1;simp only[List.length_singleton]at this;omega
  have e:C3 l s=l.take p::C3 (l.drop<|p+1) s:=by
   unfold C3
   conv=>lhs;rw[h3,zQ s _ _ _ h4]
   rfl
  have m:Lib.splitV [s] 0 (k+1) (A b o) a l=Hm b o p p::Lib.splitV [s] 0 k (Lib.tailAddr (A b o) a (p+1)) (a-(p+1)) (l.drop<|p+1):=by
   rw[Lib.splitV,h1,aM sP];simp
  have r:J (l.take p)=p:=by rw[dH];omega
  let⟨d,y,v⟩:∃d,Lib.tailAddr (A b o) a (p+1)=(A b d)/\∀j (h:j<J (l.drop<|p+1)),w.cell? (A b<|d+j)=S (Si .u8 ((l.drop<|p+1)[j].toNat:I)):=by
   by_cases q:a=p+1
   .refine⟨o,by unfold Lib.tailAddr;rw[aU q],λj h=>?_⟩;rw[mF]at h;omega
   refine⟨o+(p+1),by unfold Lib.tailAddr;rw[aM q,mK],λj h=>?_⟩;rw[mF]at h;rw[Nat.add_assoc,c (p+1+j) O,List.getElem_drop]
  rw[y]at m;let⟨q1,q2⟩:=z d (a-(p+1)) (l.drop<|p+1) u ⟨by rw[mF];omega,O⟩ v;rw[m,e];refine⟨by rw[bA,bA,q1],λi h f=>?_⟩;cases i with
  |zero=>
   refine⟨o,p,by simp[r],⟨by simp[r],O⟩,λj t=>?_⟩;rw[eM]at t;rw[c j O];simp
  |succ i=>
   simp only[fO];exact q2 i SI (by simpa using f)
theorem GZ(ha:Q (Xf w m k p l))(j:Q (n=J l))(x:n<=1048576)(h:Q (t∈l)):
 Sk prog 196 #[X p n c,H t] w λe o=>e=Rt (H<|de l t)/\o=w:=by
 have g:=pC h;have d:=yq g;generalize r:de l t=z at*
 go_in
 go_wp2
 go_loopw [8] (λi wr=>∃a:N,a<=z/\i=H a/\wr=w) λi _=>n-(intOf i).toNat
 case atStart=>exact⟨0,aN,R,R⟩
 obtain⟨a,u,rfl,rfl⟩:=hrel;have b:a<J l:=O;have v:a<n:=oN j.o;obtain⟨q,y,rfl,_,f⟩:=ha a b;by_cases e:a=z
 .subst e;rw[d]at f;go_wp2;go_ret;exact⟨R,R⟩
 have s:(t==l[a])=Sn:=Is O b;generalize l[a]=C at*;go_wp2;exact⟨⟨a+1,O,gM,trivial⟩,SA⟩
def jb(w:Ub)(L B:N)(c:Uy)(a:List (I×I)):Prop :=
 ∀i (h:i<J a),∃b o,c=S ⟨b,o,U⟩/\(L<=b/\b<B)/\E w ⟨b,o+i*2,U⟩=S (Si S6 a[i].1)/\E w ⟨b,o+i*2+1,U⟩=S (Si S6 a[i].2)
theorem jb.keepS{w':Ub}{c:List (I×I)}(h:jb w n m p c)(k:YA n m w w'):jb w' n m p c:=λi g=>by
 let⟨b,o,e,a,d,f⟩:=h i g;exact⟨b,o,e,a,G (Xc<|k b a.1 a.2) d,G (Xc<|k b a.1 a.2) f⟩
theorem jb.mono{a:List (I×I)}(h:jb w n m p a)(l:k<=n)(j:m<=B):jb w k B p a:=λi f=>by
 let⟨b,o,e,g,c,d⟩:=h i f;exact⟨b,o,e,O,c,d⟩
def gc:List (I×I)->List Value
 |[]=>[]
 |t::ts=>Si S6 t.1::Si S6 t.2::gc ts
theorem GQ{a:List (I×I)}(t:I×I):gc (a++[t])=gc a++[H t.1,H t.2]:=by
 induction a with
 |nil=>rfl
 |cons x a b=>simp[gc,b]
theorem xy:∀(a:List (I×I))(i:N)(h:i<J a),(gc a)[i*2]?=S (H a[i].1)/\(gc a)[i*2+1]?=S (H a[i].2)
 |[],i,h=>Sz h sP
 |t::a,0,_=>by simp[gc]
 |t::a,i+1,h=>by
  have:=xy a i SI;rw[show(i+1)*2=i*2+1+1 by omega];simpa [gc]using this
theorem Hb:((A n 0):Addr).add m=(A n<|0+m):=by unfold Addr.add;split<;>simp_all
theorem GO{b:List (I×I)}(h:Sx w n m 2 (X p k B) g (gc b)):jb w n (Z w.1) p b:=λi j=>by
 let⟨d,e⟩:=xy b i j;cases p with
 |none=>
  exfalso;obtain⟨_,e2⟩|⟨_,_,_,e2,_⟩:=h.2
  .have l:=h.1;have:i*2<J (gc b):=(cV.1 d).1;omega
  injection e2 with e3;injection e3
 |some a=>
  have c:(X (S a) k B).ownBlock=S a.1:=R;have f:=h.lt _ c;have e2:a=(A a.1 0):=by
   obtain⟨e3,_⟩|⟨_,_,_,e3,_⟩:=h.2;·injection e3 with e4;injection e4
   injection e3 with e4;injection e4 with e4;rw[e4]
  have c1:=h.cells c _ _ d;have c2:=h.cells c _ _ e;rw[Hb]at c1 c2;exact⟨a.1,0,fI S e2,f,c1,c2⟩
structure my(w:Ub)(E_:N)(t:I)(ta:Uy)(nt ct:N)(ts:List (I×I)):Prop where
 c0:E w ⟨E_,0,U⟩=S (Si S6 t)
 c1:E w ⟨E_,1,U⟩=S (X ta nt ct)
 fz:∀o,w.frozen? ⟨E_,o,U⟩=Sn
 own:Sx w (E_+1) 280 2 (X ta nt ct) nt (gc ts)
theorem my.push{b:List (I×I)}(h:my w n t p m k b)(c:Sw (Z w.1) w v)(f:n<Z w.1){x:I}(d:Sx u (n+1) 280 2 (X (S ⟨B,0,U⟩) (m+1) g) (m+1) (gc b++[Si S6 x,Si S6 T]))(i:v.grownBy u (X p m k).ownBlock):
 my (Se u ⟨n,1,U⟩ (X (S ⟨B,0,U⟩) (m+1) g)) n t (S ⟨B,0,U⟩) (m+1) g (b++[(x,T)]):=by
 have q:=c.4;have a:=G (i.5 n O λe=>by have:=(h.4.lt _ e.symm).1;omega) (c.5 n f);have l:=d.lt B R;refine⟨?_,?_,λo=>G (eX _ _ _ _) (G (bJ a) (h.3 o)),?_⟩
 .rw[cJ<|by intro e;injection e with _ e;omega];exact G (Xc a) h.1
 .exact fQ _ _ _<|G (Xc a) h.2
 rw[GQ];exact Zl d λj e=>Below.heap_setCell _ _ _ _ λe2=>by injection e with e;dsimp only at e e2;omega
theorem Qf:(prog.info? 280).map (λi=>(i.8,i.3,i.4))=S (S<|.agg #[H 0,H 0],2,16):=vZ
theorem rF{row:Zm}(a:w.grownBy v row)(b:k<Z w.1)(c:S k≠row):(∀o,E v (A k o)=E w (A k o))/\(∀o,v.frozen? (A k o)=w.frozen? (A k o)) :=
 ⟨λo=>a.cell_far (A k o) b c,λo=>a.frozen_far (A k o) b c⟩
theorem GF(W:I)(c:N)(pc:N){N_:Tm}{B2:N}(ha:Q (Xp w g i p x))(hx:Q (n=J x))(hB:i<=Z w.1)(hp:Q (XR w j B2 P N_))(bf:Q (m=J N_))(a3:B2<=Z w.1)(ht:B<n)(b8:B<m)(hX:Q (∀K_:B<J x,x[B]=q))(bh:Q (∀K_:B<J N_,N_[B]=l))(be:J l<=1048576)(b6:J q.1<=1048576)(hm:Q ((k:I)∈l))(bd:Q (∀F (K_:F<J q.1),ZX t (J l) q.1[F]=So)):
 Sk prog 171 #[Sa #[H W,X p n c],X P m pc,H k,H B] w
  λr M=>∃d e,r=Rt (Sa #[H B,X d (J q.1) e])/\Sw (Z w.1) w M/\jb M (Z w.1) (Z M.1) d (E9 (de l k) q.1):=by
 have az:B<J x:=oN hx.o;have ar:B<J N_:=oN bf.o;let⟨i0,a9,bi,bm,bn⟩:=fX Qf;obtain⟨h,o,rfl,⟨_,b1⟩,hc⟩:=ha B az;rw[hX.o az]at hc;obtain⟨fa,fc,ia,ic,e0,-,-,ap,-⟩:=hc;obtain⟨b2,o2,rfl,⟨_,bx⟩,qa,qc,q0,hq⟩:=hp B ar;rw[bh.o ar]at q0 hq;have H_:=λb y V=>Xb (Xb (Xb (Below.refl (Z w.1) w) b) y) V;have E0:=λb y V=>oB (H_ b y V) e0 O;have Q0:=λb y V=>oB (H_ b y V) q0 O;have HQ:=λb y V=>Y<|hq.keep ((H_ b y V).mono a3);have hI:=Y<|pC hm;have a2:=Y ap;clear ap hq;have ST:∀b,my (D (D (D w b) (Sc #[H 0,Hq] 277)) (Sc #[H B,Hq] 277)) (Z w.1+1+1) B U 0 0 []:=λb=>⟨by simp[go_sem],SC,λo=>by simp[go_sem],dA⟩
 go_in
 go_wp2_with (go_at_call 196;refine(GZ (HQ _ _ _) R be hm).mono ?_;rintro r f⟨rfl,rfl⟩)
 generalize a4:de l k=K at*;have aj:=H_ (Sc #[H W,Hm h o n c] 40) (Sc #[H 0,Hq] 277) (Sc #[H B,Hq] 277);have aq:=ST<|.cells #[H W,Hm h o n c] 40;have r0:D (D (D w<|.cells #[H W,Hm h o n c] 40) (Sc #[H 0,Hq] 277)) (Sc #[H B,Hq] 277)=D (D (D w<|.cells #[H W,Hm h o n c] 40) (Sc #[H 0,Hq] 277)) (Sc #[H B,Hq] 277):=R;clear r0 ST H_ HQ Q0 q0;have a5:∀o,(D (D (D w<|.cells #[H W,Hm h o n c] 40) (Sc #[H 0,Hq] 277)) (Sc #[H B,Hq] 277)).frozen? (A (Z w.1+1) o)=Sn:=λo=>by simp[go_sem]
 go_loopw [28] (λF wr=>∃(a:N)(d:Uy)(e:N),a<=J q.1/\F=H a/\Q (Sw (Z w.1) w wr)/\Z w.1+1+1+1<=Z wr.1/\Q (my wr (Z w.1+1+1) B d a e (E9 K<|q.1.take a))/\Q (E wr (A (Z w.1+1) 0)=S (H 0)/\E wr (A (Z w.1+1) 1)=S Hq/\∀o,wr.frozen? (A (Z w.1+1) o)=Sn)) λF _=>J q.1-(intOf F).toNat
 case atStart=>exact⟨0,U,0,aN,R,Y aj,sP,Y (by simpa [E9]using aq),Y ⟨by simp[go_sem],SC,λo=>by simp[go_sem]⟩⟩
 obtain⟨a,d,e,hk,rfl,M_,ca,s,U_⟩:=hrel;clear aj aq a5 E0 e0;by_cases W_:a<J q.1
 .obtain⟨b',o',rfl,⟨_,bv⟩,aa,cc,g0,g1,af⟩:=a2 a W_;let⟨⟨d0,d1⟩,a6,a8⟩:=GW<|bd a W_;have Y_:E9 K (q.1.take<|a+1)=E9 K (q.1.take a)++[(q.1[a].1,q.1[a].2.getD K 0)]:=by unfold E9;rw[X7 W_,bG];rfl
  have ac:K<J q.1[a].2:=oN hI.o;have ad:q.1[a].2.getD K 0=q.1[a].2[K]:=by simp[ac]
  rw[ad]at Y_;obtain⟨v,o3,rfl,⟨_,b0⟩,h3⟩:=af K ac;have G0:=G (XU M_ O) g0;have G1:=G (XU M_ O) g1;have G3:=G (XU M_ O) h3;have a0:=Y Y_;have bt:J q.1[a].2<=1048576:=O;clear Y_ ad af a8 a6 h3 g0 g1;generalize q.1[a].2[K]=O_ at*;generalize J q.1[a].2=al at*;generalize q.1[a].1=J_ at*;generalize E9 K (q.1.take a)=TS at*;have c3:=λb y=>oB (Xb (Xb (Below.refl (Z wr.1) wr) b).drew y) G3 O;have m1:=λb y=>oB (Xb (Xb (Below.refl (Z wr.1) wr) b).drew y) s.2 O;have mz:=λb y o=>G ((Xb (Xb (Below.refl (Z wr.1) wr) b).drew y).frozen (p:=A (Z w.1+1+1) o) (by show Z w.1+1+1<_;omega)) (s.3 o);have bp:=λb=>oB ((Xb (Below.refl (Z wr.1) wr) b).drew) s.2 O;have m2:∀b y,E (D (D wr b) y) (A (Z w.1+1+1) 1)=S (X d a e):=m1;have ab:=λb y=>Zl s.4 λh r=>((Xb (Xb (Below.refl (Z wr.1) wr) b).drew y).5 h (s.4.lt h r).2);have bc:∀u,Z wr.1<=u->S u≠(X d a e).ownBlock:=λu hq r=>by have:=(s.4.lt u r.symm).2;omega
  have X_:∀u,u<Z w.1+1+1+1->S u≠(X d a e).ownBlock:=λu hq r=>by have:=(s.4.lt u r.symm).1;omega
  have HP:∀(b y:Obj)(L z:N)(f:Ub),Sx f (Z w.1+1+1+1) 280 2 (Hl L (a+1) z) (a+1) (gc TS++[H J_,H O_])->(D ((D wr b).drew) y).grownBy f (X d a e).ownBlock ->
   my (Se f (A (Z w.1+1+1) 1) (Hl L (a+1) z)) (Z w.1+1+1) B (S ⟨L,0,U⟩) (a+1) z (TS++[(J_,O_)])/\Sw (Z w.1) w f/\f.1[Z w.1+1]?=wr.1[Z w.1+1]?/\Z wr.1<=Z f.1:=λb y L z f ho T=>by
   have S_:=Xb (Xb (Below.refl (Z wr.1) wr) b).drew y;have b5:=T.4;have b4:=S_.4;exact⟨s.push S_ O ho T,Xy (M_.trans<|S_.mono O) T (ab b y) O O,G (T.5 _ O<|X_ _ O) (S_.5 _ O),O⟩
  have n3:Z w.1+1+1≠v:=O;have n5:Z w.1+1+1≠Z wr.1:=O;go_wp2;refine Y7 (λM=>E M (A (Z wr.1) 0)=S (H J_)/\E M (A (Z wr.1) 1)=S (Hm v o3 al cc)/\E M (A v<|o3+K)=S (H O_)) λhHeld=>?_;refine Xn 0 ?_;refine Xn 2 ?_;refine Xn 3 ?_;refine Xn 4 ?_;refine Xn 5 ?_;refine Xn 6 ?_;refine Xn 7 ?_;refine Xn 8 ?_;refine Xn 9 ?_;refine eS (rs:=[1,10]) vZ sP ?_;refine(bQ R (λR_ hK=>?_) (bQ R (λR_ hK=>?_) dY))
  focus
   go_simp;refine hK _ _ (by first|exact hHeld|((try dsimp only);go_keep)) λhHeld=>?_;clear hK
   try simp only[xX]
   refine eS (rs:=[10]) vZ sP ?_
  rotate_left
  focus
   go_simp;refine hK _ _ (by first|exact hHeld|((try dsimp only);go_keep)) λhHeld=>?_;clear hK
   try simp only[xX]
   refine eS (rs:=[1]) vZ sP ?_
  all_goals (
   refine bQ R (λR_ hK=>?_) dY;go_simp;refine hK _ _ (by first|exact hHeld|((try dsimp only);go_keep)) λhHeld=>?_;clear hK
   try simp only[xX]
   refine Xs 11 λR_ hK=>?_;refine step_append_lies _ R (.tmp 33) (.tmp 42) 275 R (Z w.1+1+1+1) 280 i0 (Sa #[H 0,H 0]) 2 16 underlying275 a9 bi bm bn R vY (X d a e) a (gc TS) SE (ab _ _) (A (Z wr.1+1) 0) 1 1 [H J_,H O_] SE R ?_ (by intro bq hu;simp at hu;obtain rfl|rfl:=hu<;>rfl) vY SD O SB (Z wr.1+1+1) sP ?_
   .intro bo bq C
    match bo,C with
    |0,C=>simp at C;subst C;simp[Addr.add,go_sem]
    |1,C=>simp at C;subst C;simp[Addr.add,go_sem]
   intro L z f ao L_ a7 bb;have Q_:=Y<|HP _ _ L z f ao L_;obtain⟨V_,-⟩:=rF L_ (k:=Z wr.1) (by simp<;>omega) (bc _ O);obtain⟨f3,-⟩:=rF L_ (k:=v) (by simp<;>omega) (X_ _ O);let⟨f1,e1⟩:=rF L_ (k:=Z w.1+1+1) (by simp<;>omega) (X_ _ O);have kx:Cl f (Z wr.1) 0 (H J_):=G (V_ 0) SC;have ky:Cl f (Z wr.1) 1 (Hm v o3 al cc):=G (V_ 1) SC;have kz:=G (f3 _) (c3 _ _);have k1:=G (f1 1) (m1 _ _);have z1:=λo=>G (e1 o) (mz _ _ o)
   clear V_ f1 f3 e1 ao L_ a7 bb;refine hK _ _ (by first|exact hHeld|((try dsimp only);go_keep)) λhHeld=>?_;clear hK;refine Xn 12 ?_;refine Xs 13 λR_ hK=>?_;go_simp;refine hK _ _ (by first|exact hHeld|((try dsimp only);go_keep)) λhHeld=>?_;clear hK;refine Yq ?_;go_wp2;have Z_:(Se f (A (Z w.1+1+1) 1) (Hl L (a+1) z)).1[Z w.1+1]?=wr.1[Z w.1+1]?:=G (Below.heap_setCell _ _ _ _<|by show Z w.1+1≠Z w.1+1+1;omega) Q_.2.2.1;exact⟨⟨a+1,S<|A L 0,z,O,gM,Y (Q_.2.1.setCell (by show Z w.1<=Z w.1+1+1;omega) _),by have:=Q_.2.2.2;simp only[Xd];omega,Y (a0.o▸Q_.1),Y ⟨G (Xc Z_) U_.1,G (Xc Z_) U_.2.1,λo=>G (bJ Z_) (U_.2.2 o)⟩⟩,SA⟩)
 have ba:a=J q.1:=O;subst ba;let⟨m0,m1,mz,mo⟩:=s.o;let⟨r0,r1,rz⟩:=U_.o;have HO:=λb y=>Zl (w':=Se (Se wr (A (Z w.1+1) 0) b) (A (Z w.1+1) 1) y) mo (λh r=>by have:=(mo.lt h r).1;rw[Below.heap_setCell _ _ _ _ SG,Below.heap_setCell _ _ _ _<|by dsimp only;omega]);have a1:=Y HO;clear HO mo;go_wp2;refine cC (v:=Sa #[H B,X d (J q.1) e]) (by simp[results,results171,go_sem,r0,r1]) R ⟨d,e,R,(M_.setCell (by show Z w.1<=Z w.1+1;omega) _).setCell (by show Z w.1<=Z w.1+1;omega) _,?_⟩;have K_:=GO<|a1 (H B) (X d (J q.1) e);rw[gC]at K_;rw[a4];exact K_.mono O<|aA
theorem Wck_{a:List ag}(L B:N)(ha:Q (d7 w L B p a))(f:Q (n=J a))(P:n<=16777216)(K:Waf_ a<=16777216)(u:B<=Z w.1):
 Sk prog 71 #[Sa #[Si S6 t,X p n c]] w λe C=>e=Rt (Sb (decide (1<=n)&&decide (n<=3000)&&decide (Waf_ a<=20000)))/\Sw (Z w.1) w C:=by
 by_cases m:1<=n/\n<=3000
 .obtain⟨d2,d3⟩:=m;have g:Q (Waf_ a=J a+Wae_ a):=Wak_ a
  go_in
  go_wp2
  go_loopw [3,18] (λz i wr=>∃k:N,k<=n/\i=Si S6 k/\z=Si S6 (n+Wae_ (a.take k):N)/\n+Wae_ (a.take k)<=20000/\Sw (Z w.1) w wr) λ_ i _=>n-(intOf i).toNat
  case atStart=>exact⟨0,aN,R,by simp[Wae_],by simp[Wae_];omega,Xb Rf _⟩
  obtain⟨k,T,rfl,rfl,y,d⟩:=hrel;by_cases V:k<n
  .have q:k<J a:=by have:=f.o;omega
   obtain⟨W,o,rfl,⟨_,F_⟩,l⟩:=ha.o k q;obtain⟨M_,N_,e1,⟨e2,e3,e4,e5⟩,_⟩:=l.keep (d.mono u) O;have b:Q (Wae_ (a.take<|k+1)=Wae_ (a.take k)+J a[k].is):=by show _=_;rw[X7 q,Wag_]
   have h:=Wai_ a<|k+1;have r:=Y h;have E_:Wae_ (a.take k)+J a[k].is<=16777216:=by have:=b.o;have:=g.o;omega
   clear l h;generalize a[k]=F at*;generalize j:Wae_ (a.take k)=M at*;have C_:=Y j;clear j;by_cases G_:20000<n+M+J F.is
   .go_wp2;go_ret;refine⟨Xl ?_,Xb d _⟩;have e:¬Waf_ a<=20000:=by have:=b.o;have:=r.o;have:=g.o;have:=f.o;omega
    rw[dJ e];simp
   go_wp2;exact⟨⟨k+1,O,gM,by rw[b.o];go_num,by rw[b.o];omega,Xb d _⟩,SA⟩
  go_wp2;go_ret;have e:=aW (l:=a) (i:=k) (by have:=f.o;omega);rw[e]at y;refine⟨Xl ?_,d⟩;rw[eB d2,eB d3,eB (show Waf_ a<=20000 by have:=g.o;have:=f.o;omega)];rfl
 have v:Q ((decide (1<=n)&&decide (n<=3000)&&decide (Waf_ a<=20000))=Sn):=by
  show _=_;by_cases b:1<=n;·rw[dJ<|show ¬n<=3000 by omega];simp
  rw[dJ b];simp
 have x:n<1\/(1<=n/\3000<n):=O;clear m;obtain s|⟨s,d1⟩:=x
 all_goals
  go_in
  go_wp2;go_ret;exact⟨Xl v.symm,Xb Rf _⟩
theorem Wcl_{a:List ag}(ha:Q (d7 w m k p a))(i:Q (n=J a))(L:Q (J a+Wae_ a<=16777216))(M:k<=Z w.1)(hO:Q (Uw w))(hT:Q (T7 w)):
 Sk prog 31 #[Sa #[Si S6 t,X p n c]] w λe w'=>e=Rt (Sb (Wao_ t a))/\Sw (Z w.1) w w':=by
 have U_:n<=16777216:=by have:=i.o;have:=L.o;omega
 have R_:Q (Waf_ a<=16777216):=by show _<=_;rw[Wak_];exact L.o
 have al:=Y<|Was_ L.o;by_cases W_:1<=t/\t<=64
 .obtain⟨v1,v2⟩:=W_;cases hq:(decide (1<=n)&&decide (n<=3000)&&decide (Waf_ a<=20000))
  .have T:=Y hq
   have f:Q (Wao_ t a=Sn):=War_ (λ⟨_,_,d1,d2,d3⟩=>by
    have e:=i.o;rw[eB (show 1<=n by omega),eB (show n<=3000 by omega),eB d3]at hq;cases hq)
   clear hq
   go_in
   go_wp2_with fail
   refine(Wck_ m k ?q1 i U_ R_.o ?q2).mono ?_
   case q1=>exact ha.keep (Xb Rf _ |>.mono M)
   case q2=>simp;omega
   rintro e x⟨rfl,q⟩;rw[Xw T];go_wp2;go_ret;exact⟨Xl f.symm,Xg (Xb Rf _) q⟩
  have T:=Y hq
  have f:Q (Wao_ t a=a.all (Wam_ t n)):=by
   show _=_;have e:=i.o;simp only[bY,bD]at hq;unfold Wao_;rw[Wap_ v1 v2 O O hq.2,<-e];rfl
  have d3:n<=3000:=by
   simp only[bY,bD]at hq;exact hq.1.2
  clear hq
  go_in
  go_wp2_with fail
  refine(Wck_ m k ?q1 i U_ R_.o ?q2).mono ?_
  case q1=>exact ha.keep (Xb Rf _ |>.mono M)
  case q2=>simp;omega
  rintro e x⟨rfl,q⟩;rw[Xw T];obtain⟨V,z⟩:=NC q;have Y_:E x ⟨Z w.1,0,U⟩=S (Si S6 t):=by rw[V _ _ sP];simp
  have k1:E x ⟨Z w.1,1,U⟩=S (X p n c):=by rw[V _ _ sP];simp
  have r:=Xg (Xb (Below.refl (Z w.1) w) _) q;have ar:=q.size;simp at ar;have C:=Y r;have HA:=Y<|ha.keep (r.mono M);have K_:=Y<|hO.keep r;have L_:=Y<|hT.keep r;clear V z q r ha;go_wp2
  go_loopw [23] (λl wr=>∃d:N,d<=n/\l=Si S6 d/\Sw (Z x.1) x wr/\Q ((a.take d).all (Wam_ t n)=So)) λl _=>n-(intOf l).toNat
  case atStart=>exact⟨0,aN,R,Rf,R⟩
  obtain⟨d,hk,rfl,b,O_⟩:=hrel;have a9:=b.size;have a6:Z w.1<Z wr.1:=O;have Z_:=G (XU b O) Y_;have a0:=G (XU b O) k1;by_cases a5:d<n
  .have K:d<J a:=by have:=i.o;omega
   obtain⟨a1,o_,rfl,⟨_,a2⟩,hc⟩:=HA.o d K;obtain⟨ia,ic,f1,⟨f2,f3,M_,N_⟩,T_⟩:=hc;have e1:=G (XU b O) f1;have e2:=G (XU b O) f2;have e3:=G (XU b O) f3;have e4:=G (XU b O) M_;have e5:=G (XU b O) N_;have a4:=al.o _<|aH K;have V_:=Y λh=>JN (p:=Wam_ t n) (xs:=a) (k:=d) K h;have ap:=Y λh=>XY (p:=Wam_ t n) K O_.o h;have HI:=Y T_;clear T_ f1 f2 f3 M_ N_ Y_ k1;generalize a[d]=o at*;have F:Q (Wam_ t n o=(o.is.all (Yw t 13)&&Zu t 0 n ⟨o.te.kind,o.te.a,o.te.to,o.te.els⟩)):=R;cases hr:Zu t 0 n ⟨o.te.kind,o.te.a,o.te.to,o.te.els⟩
   .have u:=Y hr;clear hr;go_wp2_with fail
    refine(Kn ?q1).mono ?_
    case q1=>exact T7.keep L_.o<|Xb b _
    rintro e y⟨rfl,g⟩;rw[Xw u];go_wp2;go_ret;exact⟨Xl (by rw[f.o,Xw V_<|by rw[F.o,u.o];simp]),Xg C.o<|Xg (Xb b _) g⟩
   have u:=Y hr;clear hr;go_wp2_with fail
   refine(Kn ?q1).mono ?_
   case q1=>exact T7.keep L_.o<|Xb b _
   rintro e y⟨rfl,g⟩;rw[Xw u];have bb:=Xg (Xb b _) g;obtain⟨z,aj⟩:=NC g;have m1:E y ⟨Z wr.1,0,U⟩=S (X ia (J o.is) ic):=by rw[z _ _ sP];simp
   have az:=g.size;simp at az;have ba:Z wr.1<Z y.1:=O;have x0:=G (g.cell (p:=⟨Z w.1,0,U⟩) (by show Z w.1<_;simp;omega)) (G ((Xb (Below.refl (Z wr.1) wr) _).cell (p:=⟨Z w.1,0,U⟩) (by show Z w.1<_;omega)) Z_);clear z aj g e1 e2 e3 e4 e5 Z_ a0;have aa:=Y bb;go_wp2
   go_loopw [39] (λl wi=>∃j:N,j<=J o.is/\l=Si S6 j/\Sw (Z y.1) y wi/\Q ((o.is.take j).all (Yw t 13)=So)) λl _=>J o.is-(intOf l).toNat
   case atStart=>exact⟨0,aN,R,Rf,R⟩
   obtain⟨j,hj,rfl,B,Q_⟩:=hrel;have v:=Xg aa.o B;have r0:=G (XU B O) x0;have a8:=B.size;have a7:Z w.1<Z wr.1:=O;clear m1;by_cases W:j<J o.is
   .obtain⟨b',o',rfl,⟨_,a3⟩,S_⟩:=HI.o j W;obtain⟨g0,g1,g2,g3,g4⟩:=S_.keep v O;have ao:=Y λh=>JN (p:=Yw t 13) (xs:=o.is) (k:=j) W h;have aq:=Y λh=>XY (p:=Yw t 13) W Q_.o h;clear S_;generalize o.is[j]=P at*;cases hr:Yw t 13 ⟨P.op,P.dst,P.a,P.b,P.imm⟩
    .have s:=Y hr;clear hr;go_wp2_with fail
     refine(AB _ _ _ _ _ _ _ vY ?q1).mono ?_
     case q1=>exact Uw.keep K_.o<|Xb v _
     rintro e w3⟨rfl,G_⟩;rw[Xw s];go_wp2;go_ret;exact⟨Xl (by rw[f.o,Xw V_<|by rw[F.o,Xw ao s.o];rfl]),Xg C.o<|Xg (Xb v _) G_⟩
    have s:=Y hr;clear hr;go_wp2_with fail
    refine(AB _ _ _ _ _ _ _ vY ?q1).mono ?_
    case q1=>exact Uw.keep K_.o<|Xb v _
    rintro e w3⟨rfl,G_⟩;rw[Xw s];go_wp2;exact⟨⟨j+1,O,gM,Xg (Xb B _) G_,Xw aq s.o⟩,SA⟩
   have ad:=Y<|YE (p:=Yw t 13) (xs:=o.is) (k:=j) O Q_.o;go_wp2;exact⟨⟨d+1,O,gM,v,Xw ap<|by rw[F.o,u.o,ad.o];rfl⟩,SA⟩
  have ac:=Y (YE (p:=Wam_ t n) (xs:=a) (k:=d) (by have:=i.o;omega) O_.o);go_wp2;go_ret;exact⟨Xl (by rw[f.o,ac.o]),Xg C.o b⟩
 have f:Q (Wao_ t a=Sn):=War_ O;have af:t<1\/(1<=t/\64<t):=O;clear W_;obtain ab|⟨ab,d1⟩:=af
 all_goals
  go_in
  go_wp2;go_ret;exact⟨Xl f.symm,Xb Rf _⟩
end Go.Proofs.YtnggdhnpjfigjaaGreatDoor
