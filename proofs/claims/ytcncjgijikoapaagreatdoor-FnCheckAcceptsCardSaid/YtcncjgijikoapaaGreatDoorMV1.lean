import Derived.Test.YtcncjgijikoapaaGreatDoorDG7
namespace Go.Proofs.YtcncjgijikoapaaGreatDoor
set_option maxHeartbeats 8000000
set_option maxRecDepth 1000000
open _root_ renaming Array.size->Z,List.length->J,Nat->N,Int->I,rfl->R,Option.some->S,Bool.true->So,Bool.false->Sn,absurd->Sz,List.range->Rg,Option.none->U,trivial->JV
open Go renaming World.cell?->E,World.alloc->D,World.ownsRow->Sx,IntKind.i64->S6,Obj.cells->Sc,Ending.returned->Rt,RowKit.Below->Sw,Calls->Sk,RowKit.intOf->JB,World.setCell->Se,undef->Su
open Value renaming slice->X,int->Si,agg->Sa,bool->Sb
open Go.RowKit Go.Proofs.Tryz
variable{t:I}{n m k B g c:N}{w:Ub}{a A_:Uj}{p:Uy}{l:Wc}{x:Wi}{R_:Yh}
theorem AI{t}:
 Sk prog 133 #[Sa #[H t.1,H t.a,H t.3,H t.4]] w λj e=>∃f c,j=Rt (X f (J (Id t)) c)/\Sw (Z w.1) w e/\Xf e (Z w.1) (Z e.1) f (Id t):=by
 let⟨d,h,tg,k⟩:=t;by_cases a:d=1
 .subst a
  go_in
  go_wp2;go_ret;exact⟨_,_,R,Xb (Xb Rf _) _,λi b=>Sz b<|by simp[Id]⟩
 have e1:(d==1)=Sn:=by simp[a]
 have g:Id ⟨d,h,tg,k⟩=[h]:=by simp[Id,a]
 rw[g]
 go_in
 go_wp2;go_ret;refine⟨_,_,R,Xb (Xb Rf _) _,λi b=>?_⟩
 match i,b with
 |0,_=>exact⟨_,_,R,⟨sP,sP⟩,sP⟩
theorem Wv(z)(w:Ub):
 Sk prog 135 #[mj z] w λt a=>∃K c_,t=Rt (X K (J (Iw z)) c_)/\Sw (Z w.1) w a/\Xf a (Z w.1) (Z a.1) K (Iw z):=by
 obtain⟨b,l,f,d,m⟩:=z;have V_:=Y λW=>vG b W;have P:=Y λW=>vU b W;have s:Q (Iw ⟨b,l,f,d,m⟩=(if aB b then [f]else [])++(if bB b then [d]else [])):=Y R;generalize Iw ⟨b,l,f,d,m⟩=rs at*;generalize aB b=Z_ at*;generalize bB b=T at*;unfold mj
 go_in
 go_wp2_with fail
 refine YU (V_ _) λr h=>?_;rw[h];clear h r;have c:Q (Sw (Z w.1) w<|D (D w<|Sc #[H b,H l,H f,H d,H m] 64) (Sc #[] 2)):=Y<|Xb (Xb Rf _) _;have k:=Y<|K5 w (Sc #[H b,H l,H f,H d,H m] 64);have Y_:(λV:Ub=>Z w.1<Z V.1/\(∀L M,#[H b,H l,H f,H d,H m][L]?=S M->E V (A (Z w.1) L)=S M)) (D (D w<|Sc #[H b,H l,H f,H d,H m] 64) (Sc #[] 2)):=⟨SB,(λL M X_=>by rw[bP _ _ _ sP];rw[eC];exact X_)⟩
 generalize D (D w _) _=W at*;obtain⟨q,v⟩:=Y_;have c0:=v 0 _ R;have c2:=v 2 _ R;have c3:=v 3 _ R;clear v;have aa:=Y q;cases Z_ with
 |false=>
  go_wp2_with fail
  refine YU (P _) λr h=>?_;rw[h];clear h r;cases T with
  |false=>
   go_wp2;go_ret;have e:=s.o;simp at e;subst e;obtain⟨i,c1,e1,j⟩:=Xk (xs:=([]:Wc)) (by simpa using k.o);exact⟨i,c1,fI Rt e1,c,j.mono O<|aA⟩
  |true=>
   go_wp2_with (at_builtin;refine YC RH k ?_)
   intro v1 w9 p o _ _;have n:=Xy (Xb c _) o (k.alloc _) O SB;have u:=Y n;have C:=Y p;clear p o n;go_wp2;go_ret;have e:=s.o;simp at e;subst e;obtain⟨i,c1,e1,j⟩:=Xk (xs:=([]:Wc)++[d]) (by simpa using C.o);exact⟨i,c1,fI Rt e1,u,j.mono O<|aA⟩
 |true=>
  go_wp2_with (at_builtin;refine YC RH k ?_)
  intro v0 y S_ x _ _;have R_:=Xy (Xb c _) x (k.alloc _) O SB;have F:=YJ x (k.alloc _) (b:=Z w.1) O SB;have d3:Cl y (Z w.1) 3 (H d):=G (Xc F) (G (bP W _ (A (Z w.1) 3) q) c3);have d0:Cl y (Z w.1) 0 (H b):=G (Xc F) (G (bP W _ (A (Z w.1) 0) q) c0);have P_:=Y R_;have B:=Y (by simpa using S_);have ab:Z w.1<Z y.1:=by have:=x.4;simp at this;omega
  clear S_ x F R_ c0 c2 c3;go_wp2_with fail
  refine YU (P _) λr h=>?_;rw[h];clear h r;cases T with
  |false=>
   go_wp2;go_ret;have e:=s.o;simp at e;subst e;obtain⟨i,c1,e1,j⟩:=Xk (xs:=[f]) (by simpa using B.o);exact⟨i,c1,fI Rt e1,P_,j.mono O<|aA⟩
  |true=>
   go_wp2_with (at_builtin;refine YC RH B ?_)
   intro v1 w9 p o _ _;have n:=Xy (Xb P_ _) o (B.alloc _) O SB;have u:=Y n;have C:=Y p;clear p o n;go_wp2;go_ret;have e:=s.o;simp at e;subst e;obtain⟨i,c1,e1,j⟩:=Xk (xs:=[f]++[d]) (by simpa using C.o);exact⟨i,c1,fI Rt e1,u,j.mono O<|aA⟩
theorem Bp{a}{v1 v2 v3 v4 v5:Uj}(L B)(d:Q (Jw w L B p a))(r:Q (n=J a))(W:n<=4000)(x:B<=Z w.1):
 Sk prog 132 #[Sa #[X p n m,v1,v2,v3,v4,v5]] w λv g=>∃h c,v=Rt (X h (J (a.map Ph.dst)) c)/\Sw (Z w.1) w g/\Xf g (Z w.1) (Z g.1) h (a.map Ph.dst):=by
 go_in
 go_wp2
 go_loopw [3,4] (λu i wr=>∃k:N,k<=n/\i=H k/\Q (Sw (Z w.1) w wr)/\Z w.1<Z wr.1/\E wr (A (Z w.1) 0)=S (X p n m)/\Q (Sx wr (Z w.1+1) 2 1 u k (((a.map Ph.dst).take k).map (Si S6)))) λ_ i _=>n-(JB i).toNat
 .exact⟨0,aN,R,Y<|Xb (Xb Rf _) _,SB,sP,Y<|K5 _ _⟩
 obtain⟨k,M,rfl,e,F,q,b⟩:=hrel;by_cases V:k<n
 .have j:k<J a:=oN r.o;obtain⟨P,T,rfl,⟨_,S_⟩,ha,T_,Q_,R_,_⟩:=(d.keep<|e.mono x) k j;have s:Q ((a.map Ph.dst).take (k+1)=(a.map Ph.dst).take k++[a[k].1]):=Y (by rw[X7<|by simpa using j];simp);generalize a[k]=X_ at*;generalize (a.map Ph.dst).take k=P_ at*;go_wp2_with (at_builtin;refine YC RH b ?_)
  intro Z_ w1 o f _ _;have t:=Y o;go_wp2;have y:=Xy (Xb e _) f (b.alloc _) O SB;have z:=YJ f (b.alloc _) (b:=Z w.1) O SB;have C:=f.4;simp at C;exact⟨⟨k+1,O,gM,Y y,O,G (Xc z) (G (bP wr _ (A (Z w.1) 0) F) q),Y<|by rw[s.o,Yl];exact t⟩,SA⟩
 go_wp2;go_ret;have l:=b.o;rw[aW (by have:=r.o;simp;omega)]at l;obtain⟨N_,c1,rfl,K⟩:=Xk l;exact⟨_,_,R,e,K.mono O<|aA⟩
def Oe(b:Wc)(a:Za)(p:I)(i:N):Wc:=(Rg i).flatMap λi=>if b.getD i 0=p then a.map (λh=>h.2.getD i 0)else []
theorem uW{a}:Oe l a t (n+1)=Oe l a t n++(if l.getD n 0=t then a.map (λh=>h.2.getD n 0)else []):=by unfold Oe;rw[dN,eZ];simp
theorem qL(b a p):∀i,J (Oe b a p i)<=i*J a
 |0=>by simp[Oe]
 |i+1=>by
  have:=qL b a p i;rw[uW,aQ,Nat.succ_mul];split;·rw[bK];omega
  simp;omega
theorem tY(c e)(ha:Q (Xp w B g p x))(M:Q (m=J x))(hB:g<=Z w.1)(ho:Q (Jy n x))(ct:k<m):
 Sk prog 134 #[Sa #[H n,X p m c],H e,H k] w λo w'=>∃s c',o=Rt (X (S s) (J (G2 x e (k:I))) c')/\Sw (Z w.1) w w'/\Xf w' (Z w.1) (Z w'.1) (S s) (G2 x e (k:I)):=by
 have hn:m<=1000:=oP M.o ho.1.2;have P:k<J x:=oN M.o;obtain⟨j,q,rfl,⟨cr,cq⟩,hc⟩:=ha k P;let⟨pa,pc,ia,ic,q0,_,_,bd,_⟩:=hc;have br:=Y bd;have bq:=Y<|ho.9 k P;have X_:=(ho.10 _<|aH P).2;have N_:Q (G2 x e k=if x[k].1=[]then []else Oe (AQ x 0 k) x[k].1 e (J (AQ x 0 k))):=Y (by unfold G2 Oe;rw[dM,aC P]);have a0:=Y λb4 (hW:Sw (Z w.1) w b4)=>ZE n c k (Y<|ha.keep (hW.mono hB)) M O (oN hW.4);have be:=YO k x 0;have bf:J (AQ x 0 k)<=1000:=oN M.o;generalize AQ x 0 k=f at*;generalize G2 x e k=ed at*;generalize x[k].1=b at*;clear bd;have U_:j<Z w.1:=O;have qa:=λo1 o2=>oB (Xb (Xb (dC (Z w.1) w) o1) o2) q0 U_;clear q0
 go_in
 by_cases T:J b=0
 .have V:=iE T;have he:ed=[]:=by rw[N_.o,aU V]
  have bi:Q (Sw (Z w.1) w<|D (D w<|Sc #[H n,Hm j q m c] 25) (Sc #[] 2)):=Y<|Xb (Xb Rf _) _;simp only[T]at qa;clear bf X_ be;go_wp2;go_ret;rw[he];exact⟨_,_,R,bi,λv V_=>Sz V_ sP⟩
 have b5:((J b:I)==0)=Sn:=by simp[T]
 have V:b≠[]:=λo=>T (by rw[o];rfl);have al:Q (ed=Oe f b e (J f)):=Y (by rw[N_.o,aM V]);clear V;have az:=Y<|K5 w (Sc #[H n,Hm j q m c] 25);have M_:Q (Sw (Z w.1) w<|D (D w<|Sc #[H n,Hm j q m c] 25) (Sc #[] 2)):=Y<|Xb (Xb Rf _) _;have af:Z (D (D w<|Sc #[H n,Hm j q m c] 25) (Sc #[] 2)).1=Z w.1+2:=sP;have a6:E (D (D w<|Sc #[H n,Hm j q m c] 25) (Sc #[] 2)) (A (Z w.1) 1)=S (Hm j q m c):=sP;go_wp2_with fail
 refine(a0 _ M_).mono ?_;rintro o L⟨a1,c1,rfl,t,W_⟩;rw[af]at t W_;have ch:=t.4;rw[af]at ch;have r:=Y<|M_.trans (t.mono O);have a7:=G (XU t O) a6;have bo:=Y W_;have ap:Q (TH L (Z w.1+1) L (Hl (Z w.1+1) 0 0) []):=Y (TH.start (Zl az (λC o=>by
  have S_:Z w.1+1=C:=by simpa [Value.ownBlock]using o
  subst S_;exact t.5 _ O)) (λC o=>by
  have S_:Z w.1+1=C:=by simpa [Value.ownBlock]using o
  exact S_.symm))
 have a2:=G (r.cell (p:=A j<|q+k*6) U_) (by have:=qa (Sc #[] 0) (Sc #[] 0);exact G ((Xb (Xb (dC (Z w.1) w) _) _).cell (p:=A j<|q+k*6) U_).symm this);have P_:=Y a2;have ao:=Y a7;have bt:=Y<|br.keep (r.mono hB);have bl:=al;let⟨np,F⟩:∃d,d=J f:=⟨_,R⟩;rw[<-F]at bf;have ar:=Y F;let⟨K,Z_⟩:∃d,d=J b:=⟨_,R⟩;rw[<-Z_]at P_ X_ b5;have O_:=Y Z_;clear t W_ a6 a7 af a2 qa be;rw[<-F];clear F Z_;go_wp2
 go_loopw [7,9] (λu v wr=>∃a:N,a<=np/\v=H a/\Q (TH L (Z w.1+1) wr u (Oe f b e a))/\Q (u≠Hq)) λ_ v _=>np-(JB v).toNat
 .exact⟨0,aN,R,ap,Y sP⟩
 obtain⟨a,hk,rfl,i,R_⟩:=hrel;by_cases cb:a<np
 .have ba:a<J f:=by rw[<-ar.o];exact cb
  obtain⟨b1,o1,rfl,⟨ck,cl⟩,a4⟩:=bo a ba;have k1:=i.cell O a4;have kf:=i.cell O ao;have kq:=i.cell O P_;have A_:Q (Oe f b e (a+1)=Oe f b e a++(if f[a]=e then b.map (λh=>h.2.getD a 0)else [])):=Y (by rw[uW];congr 1;rw[bF,aC ba];rfl);have bp:Q (J (Oe f b e a)<=4000000):=Y (aJ (qL f b e a) (aJ (lO (show a<=1000 by omega) (show J b<=4000 by rw[<-O_.o];exact X_)) vY));generalize f[a]=z at*;clear a4;by_cases W:z=e
  .subst W;have Q_:=Y (by have h:=A_.o;rw[aU R]at h;exact h);have b7:(z==z)=So:=sP;generalize Oe f b z a=T_ at*;go_wp2_with fail
   clear k1 kf kq;generalize wr=wo at*
   go_loopw [7,10] (λu aj wr=>∃d:N,d<=K/\aj=H d/\Q (TH L (Z w.1+1) wr u (T_++(b.map λh=>h.2.getD a 0).take d))/\Q (u≠Hq)) λ_ v _=>K-(JB v).toNat
   .exact⟨0,aN,R,Y (by simpa using i.o),R_⟩
   obtain⟨d,hm,rfl,l,bx⟩:=hrel;have kf:=l.cell O ao;have kq:=l.cell O P_;by_cases cd:d<K
   .have Y_:d<J b:=by rw[<-O_.o];exact cd
    obtain⟨b2,o2,rfl,⟨cm,cn⟩,aa,ac,g0,g1,gi⟩:=bt d Y_;have b6:=(bq b[d] (aH Y_)).1;have a9:a<J b[d].2:=O;obtain⟨b3,o3,rfl,⟨co,cp⟩,g3⟩:=gi a a9;have m1:=l.cell O g1;have m3:=l.cell O g3;have bv:Q ((b.map λh=>h.2.getD a 0).take (d+1)=(b.map λh=>h.2.getD a 0).take d++[b[d].2[a]]):=Y (by rw[X7<|by simpa using Y_];simp[a9]);have aq:Q (J (T_++(b.map λh=>h.2.getD a 0).take d)<=4004000):=Y (by have:=bp.o;rw[aQ,dH];omega);have cs:(a:I)<(J b[d].2:I):=O;generalize (b.map λh=>h.2.getD a 0).take d=tm at*;generalize b[d].2[a]=av at*;generalize J b[d].2=la at*;generalize a5:T_++tm=el at*;have bm:=Y a5;clear g0 g1 g3 gi b6 a5;go_wp2_with (at_builtin;refine YC RH l.6 ?_ (oN aq.o) (oN l.4))
    intro u1 w2 bc a8 bb a3;have bn:=Y ((l.alloc _).push (x:=av) a8 bc (by rw[aO];exact a3));have b0:Q (u1≠Hq):=Y bb;clear bc a8 a3 bb kf kq m1 m3;go_wp2;exact⟨⟨d+1,O,gM,Y (by rw[bv.o,<-cK,bm.o];exact bn),b0⟩,SA⟩
   have ce:K<=d:=O;go_wp2;exact⟨⟨a+1,O,gM,Y (by rw[Q_.o];have h:=l.o;rw[aW<|by rw[bK,<-O_.o];exact ce]at h;exact h),bx⟩,SA⟩
  have Q_:=Y (by have h:=A_.o;rw[aM W,fF]at h;exact h);have b7:(z==e)=Sn:=by simp[W]
  clear W;go_wp2;exact⟨⟨a+1,O,gM,Y (by rw[Q_.o];exact i),R_⟩,SA⟩
 have ca:a=J f:=oN ar.o;go_wp2;go_ret;have ab:=i.6;rw[ca,<-bl.o]at ab;let⟨s,cc,e2,V_⟩:=Xk ab;cases s with
 |none=>
  exfalso;obtain⟨y,_,_⟩|y:=Vc ab;·exact R_ y
  let⟨C,cj,y,_⟩:=y;rw[y]at e2;injection e2 with e2;cases e2
 |some s=>
  refine⟨s,cc,fI Rt e2,⟨G i.1 r.1,G i.2 r.2,G i.3 r.3,aJ r.4 i.4,λbh hq=>G (i.5 bh O O) (r.5 bh hq)⟩,V_.mono O<|aA⟩
section
def Jv(x:Xe):Tm:=x.2.map Iw
def Z2(x:Xe):Wc:=x.2.map H7
theorem Yv.mono{w P Q_ c d}(h:Yv w P c d)(k:∀b,b<Z w.1->P b->Q_ b):Yv w Q_ c d:=λi g=>by let⟨b,o,e,a,f⟩:=h i g;exact⟨b,o,e,⟨k b a.2 a.1,a.2⟩,f⟩
theorem Yv.keep{w w' P c d}(h:Yv w P c d)(k:∀b,b<Z w.1->P b->w'.1[b]?=w.1[b]?)(i:Z w.1<=Z w'.1):Yv w' P c d:=λj g=>by let⟨b,o,e,a,f⟩:=h j g;exact⟨b,o,e,⟨a.1,aX a.2 i⟩,G (Xc<|k b a.2 a.1) f⟩
theorem TA.mono{w P Q_ c d}(h:TA w P c d)(k:∀b,b<Z w.1->P b->Q_ b):TA w Q_ c d:=λn m=>by let⟨b,o,g,a,e,f,j,i⟩:=h n m;exact⟨b,o,g,⟨k b a.2 a.1,a.2⟩,e,f,j,i.mono k⟩
theorem TA.keep{w w' P c e}(i:TA w P c e)(k:∀b,b<Z w.1->P b->w'.1[b]?=w.1[b]?)(d:Z w.1<=Z w'.1):TA w' P c e:=λo n=>by let⟨b,p,h,a,f,g,m,j⟩:=i o n;exact⟨b,p,h,⟨a.1,aX a.2 d⟩,f,g,G (Xc<|k b a.2 a.1) m,j.keep k d⟩
theorem Yv.of_at{w L B P a d}(h:Xf w L B a d)(j:B<=Z w.1)(k:∀b,L<=b->b<B->P b):Yv w P a d:=λi g=>by let⟨b,o,e,c,f⟩:=h i g;exact⟨b,o,e,⟨k b c.1 c.2,O⟩,f⟩
theorem Yv.at_{w P a b}(h:Yv w P a b):Xf w 0 (Z w.1) a b:=λi g=>by let⟨c,o,e,d,f⟩:=h i g;exact⟨c,o,e,⟨aN,d.2⟩,f⟩
structure VO(w:Ub)(P:Vv)(us:Vu)(x:Xe)(E_:Wc):Prop where
 e0:∃a c,us 0=X a (J x.3.tg) c/\Yv w P a x.3.tg
 e1:∃a c,us 1=X a (J (x.1.map Ph.dst)) c/\Yv w P a (x.1.map Ph.dst)
 e2:∃a c,us 2=X a (J E_) c/\Yv w P a E_
 e3:∃a c,us 3=X a (J (Jv x)) c/\TA w P a (Jv x)
 e4:∃a c,us 4=X a (J (Z2 x)) c/\Yv w P a (Z2 x)
 e5:∃a c,us 5=X a (J (Id x.3)) c/\Yv w P a (Id x.3)
theorem VO.keep{w w' P c x t}(m:VO w P c x t)(k:∀b,b<Z w.1->P b->w'.1[b]?=w.1[b]?)(a:Z w.1<=Z w'.1):VO w' P c x t:=by let⟨⟨d,c0,j,n⟩,⟨e,c1,e1,o⟩,⟨f,c2,e2,p⟩,⟨g,c3,e3,q⟩,⟨h,c4,e4,r⟩,⟨i,c5,e5,s⟩⟩:=m;exact⟨⟨d,c0,j,n.keep k a⟩,⟨e,c1,e1,o.keep k a⟩,⟨f,c2,e2,p.keep k a⟩,⟨g,c3,e3,q.keep k a⟩,⟨h,c4,e4,r.keep k a⟩,⟨i,c5,e5,s.keep k a⟩⟩
theorem VO.mono{w P Q_ a x s}(j:VO w P a x s)(k:∀b,b<Z w.1->P b->Q_ b):VO w Q_ a x s:=by let⟨⟨c,c0,i,m⟩,⟨d,c1,e1,n⟩,⟨e,c2,e2,o⟩,⟨f,c3,e3,p⟩,⟨g,c4,e4,q⟩,⟨h,c5,e5,r⟩⟩:=j;exact⟨⟨c,c0,i,m.mono k⟩,⟨d,c1,e1,n.mono k⟩,⟨e,c2,e2,o.mono k⟩,⟨f,c3,e3,p.mono k⟩,⟨g,c4,e4,q.mono k⟩,⟨h,c5,e5,r.mono k⟩⟩
structure Ow(W1:Ub)(bx:N)(f0:Vu)(wr:Ub)(u:Uj)(l:Wc):Prop where
 os:wr.4=W1.4
 tape:wr.2=W1.2
 output:wr.5=W1.5
 size:Z W1.1<=Z wr.1
 fr:∀q,q<Z W1.1->q≠bx->wr.1[q]?=W1.1[q]?
 box:wr.rowIs bx 194 6 λi=>if i=2 then u else f0 i
 own:Sx wr (Z W1.1) 2 1 u (J l) (l.map<|Si S6)
section
variable {W1 wr w5 w6: Ub} {bx: N} {f0: N -> Uj} {u u': Uj} {l qs: Wc}
theorem Ow.start(b:W1.rowIs bx 194 6 f0)(a:f0 2=X U 0 0):Ow W1 bx f0 W1 (X U 0 0) [] :=
 ⟨R,R,R,aA,λ_ _ _=>R,b.congr (λi _=>by by_cases e:i=2<;>simp[e,a]),dA⟩
theorem Ow.push(h:Ow W1 bx f0 wr u l)(g:bx<Z W1.1)(b:Sw (Z wr.1) wr w5)(a:w5.grownBy w6 u.ownBlock)(i:Sx w6 (Z W1.1) 2 1 u' (J (l++qs)) ((l++qs).map (Si S6))):Ow W1 bx f0 (Se w6 ⟨bx,2,U⟩ u') u' (l++qs):=by have k:=h.4;have m:=b.4;have n:=a.4;have f:∀q,q<Z W1.1->w6.1[q]?=wr.1[q]?:=λq hq=>G (a.5 q O λe=>by have:=(h.7.lt q e.symm).1;omega) (b.5 q O);refine⟨G a.1<|G b.1 h.1,G a.2<|G b.2 h.2,G a.3<|G b.3 h.3,SF,λq c d=>G (cY d) (G (f q c) (h.5 q c d)),((h.6.of_block<|f bx g).set 2 u').congr (λj _=>by by_cases e:j=2<;>simp[e]),ke i g _⟩
theorem Ow.cell(h:Ow W1 bx f0 wr u l){b o}{v:Uj}(c:b≠bx)(a:E W1 (A b o)=S v):E wr (A b o)=S v:=G (Xc<|h.5 b (aI W1 _ a) c) a
end
structure OL(W2:Ub)(bx:N)(f0:Vu)(wr:Ub)(ur ud:Uj)(rs:Wo)(zs:Tm)(ds:Wc):Prop where
 os:wr.4=W2.4
 tape:wr.2=W2.2
 output:wr.5=W2.5
 size:Z W2.1<=Z wr.1
 fr:∀q,q<Z W2.1->q≠bx->wr.1[q]?=W2.1[q]?
 box:wr.rowIs bx 194 6 λi=>if i=3 then ur else if i=4 then ud else f0 i
 ownR:Sx wr (Z W2.1) 61 1 ur (J rs) rs
 len:J rs=J zs
 rows:∀i (h:i<J zs),∃a' c',rs[i]?=S (X a' (J zs[i]) c')/\Yv wr (λb=>Z W2.1<=b/\S b≠ur.ownBlock/\S b≠ud.ownBlock) a' zs[i]
 ownD:Sx wr (Z W2.1) 2 1 ud (J ds) (ds.map<|Si S6)
 ne:∀g,ur.ownBlock=S g->ud.ownBlock≠S g
section
variable {W2 wr w5 w6: Ub} {bx: N} {f0: N -> Uj} {ur ud ur' ud': Uj} {rs: Wo} {zs: Tm} {ds: Wc}
theorem OL.start(c:W2.rowIs bx 194 6 f0)(a:f0 3=X U 0 0)(b:f0 4=X U 0 0):OL W2 bx f0 W2 (X U 0 0) (X U 0 0) [] [] [] :=
 ⟨R,R,R,aA,λ_ _ _=>R,c.congr (λi _=>by by_cases e:i=3<;>by_cases e2:i=4<;>simp[e,e2,a,b]),dA,R,λi h=>Sz h sP,dA,λg e=>by cases e⟩
theorem OL.below(h:OL W2 bx f0 wr ur ud rs zs ds)(k:Sw (Z wr.1) wr w5):OL W2 bx f0 w5 ur ud rs zs ds:=by have n:=h.size;refine⟨G k.1 h.os,G k.2 h.tape,G k.3 h.output,aJ n k.4,λq d f=>G (k.5 q O) (h.fr q d f),h.box.of_block<|k.5 _ h.box.lt,Zl h.ownR λg e=>k.5 g (h.ownR.lt g e).2,h.len,λo j=>?_,Zl h.ownD λg e=>k.5 g (h.ownD.lt g e).2,h.ne⟩;let⟨a,c,e,m⟩:=h.rows o j;exact⟨a,c,e,m.keep (λb i _=>k.5 b i) k.4⟩
theorem OL.pushR{f:Uy}{c5:N}{ys:Wc}(h:OL W2 bx f0 wr ur ud rs zs ds)(s:bx<Z W2.1){B0:N}(K:Z W2.1<=B0)(n:∀g,ur.ownBlock=S g->g<B0)(y:∀g,ud.ownBlock=S g->g<B0)(C:Xf wr B0 (Z wr.1) f ys)(d:wr.grownBy w6 ur.ownBlock)(B:Sx w6 (Z W2.1) 61 1 ur' (J rs+1) (rs++[X f (J ys) c5]))(o:ur'.ownBlock=ur.ownBlock\/ur'.ownBlock=S (Z wr.1)):
 OL W2 bx f0 (Se w6 ⟨bx,3,U⟩ ur') ur' ud (rs++[X f (J ys) c5]) (zs++[ys]) ds:=by
 have L:=h.size;have F:=d.4;have p:∀q,q<Z W2.1->S q≠ur.ownBlock:=λq hq e=>by have:=(h.ownR.lt q e.symm).1;omega
 have r:∀b,b<Z wr.1->S b≠ur.ownBlock->S b≠ur'.ownBlock:=λb c a e=>by
  obtain k|k:=o;·exact a (k▸e)
  rw[k]at e;injection e with e;omega
 have keep:∀b,b<Z wr.1->b≠bx->S b≠ur.ownBlock->(Se w6 (A bx 3) ur').1[b]?=wr.1[b]?:=λb a j x=>G (cY j) (d.5 b a x);refine⟨G d.1 h.os,G d.2 h.tape,G d.3 h.output,SF,λq a j=>G (keep q O j<|p q a) (h.fr q a j),((h.box.of_block<|d.5 bx O (p _ s)).set 3 ur').congr (λi _=>by by_cases e:i=3<;>simp[e]),?_,by simp[h.len],λi z=>?_,?_,λg e=>?_⟩
 .rw[aQ];exact ke B s _
 .by_cases e:i<J zs
  .let⟨t,v,e1,m⟩:=h.rows i e;refine⟨t,v,?_,?_⟩;·rw[dL (h.len▸e),fA e];exact e1
   rw[fA e];refine(m.mono (Q_:=λb=>Z W2.1<=b/\S b≠ur.ownBlock/\S b≠ur'.ownBlock/\S b≠ud.ownBlock) λb c q=>⟨q.1,q.2.1,r b c q.2.1,q.2.2⟩).keep (λb c q=>keep b c O q.2.1) SF |>.mono λb _ q=>⟨q.1,q.2.2.1,q.2.2.2⟩
  have w:i=J zs:=by simp at z;omega
  subst w;refine⟨f,c5,?_,?_⟩;·rw[eV (h.len▸aA),h.len];simp
  rw[fN<|aA];simp only[kL,eM];have m:Yv wr (λb=>B0<=b) f ys:=Yv.of_at C aA λb a _=>a;exact((m.mono (Q_:=λb=>Z W2.1<=b/\S b≠ur'.ownBlock/\S b≠ud.ownBlock/\S b≠ur.ownBlock) λb c q=>⟨O,r b c (λe=>by have:=n b e.symm;omega),λe=>by have:=y b e.symm;omega,λe=>by have:=n b e.symm;omega⟩).keep (w':=Se w6 (A bx 3) ur') (λb c q=>keep b c O q.2.2.2) SF).mono λb _ q=>⟨q.1,q.2.1,q.2.2.1⟩
 .refine Zl h.ownD λg e=>keep g (h.ownD.lt g e).2 (oN<|(h.ownD.lt g e).1) λe2=>h.ne g e2.symm e
 obtain k|k:=o;·rw[k]at e;exact h.ne g e
 rw[k]at e;injection e with e;intro e2;have:=(h.ownD.lt g e2).2;omega
theorem OL.pushD{x}(h:OL W2 bx f0 wr ur ud rs zs ds)(n:bx<Z W2.1)(c:wr.grownBy w6 ud.ownBlock)(w:Sx w6 (Z W2.1) 2 1 ud' (J ds+1) (ds.map (Si S6)++[Si S6 x]))(s:ud'.ownBlock=ud.ownBlock\/ud'.ownBlock=S (Z wr.1)):
 OL W2 bx f0 (Se w6 ⟨bx,4,U⟩ ud') ur ud' rs zs (ds++[x]):=by
 have v:=h.size;have B:=c.4;have j:∀q,q<Z W2.1->S q≠ud.ownBlock:=λq hq e=>by have:=(h.ownD.lt q e.symm).1;omega
 have m:∀b,b<Z wr.1->S b≠ud.ownBlock->S b≠ud'.ownBlock:=λb f a e=>by
  obtain k|k:=s;·exact a (k▸e)
  rw[k]at e;injection e with e;omega
 have keep:∀b,b<Z wr.1->b≠bx->S b≠ud.ownBlock->(Se w6 (A bx 4) ud').1[b]?=wr.1[b]?:=λb a d r=>G (cY d) (c.5 b a r);refine⟨G c.1 h.os,G c.2 h.tape,G c.3 h.output,SF,λq a d=>G (keep q O d<|j q a) (h.fr q a d),((h.box.of_block<|c.5 bx O (j _ n)).set 4 ud').congr (λi _=>by by_cases e:i=4<;>simp[e]),Zl h.ownR λg e=>keep g (h.ownR.lt g e).2 (oN<|(h.ownR.lt g e).1) λe2=>h.ne g e e2.symm,h.len,λi t=>?_,?_,λg e e2=>?_⟩
 .let⟨o,p,e1,y⟩:=h.rows i t;refine⟨o,p,e1,?_⟩;exact((y.mono (Q_:=λb=>Z W2.1<=b/\S b≠ur.ownBlock/\S b≠ud'.ownBlock/\S b≠ud.ownBlock) λb f q=>⟨q.1,q.2.1,m b f q.2.2,q.2.2⟩).keep (w':=Se w6 (A bx 4) ud') (λb f q=>keep b f O q.2.2.2) SF).mono λb _ q=>⟨q.1,q.2.1,q.2.2.1⟩
 .rw[Yl,aQ];exact ke w n _
 exact m g (h.ownR.lt g e).2 (λe3=>h.ne g e e3.symm) e2.symm
theorem OL.fin(h:OL W2 bx f0 wr ur ud rs zs ds):(∃a c,ur=X a (J zs) c/\TA wr (λb=>Z W2.1<=b) a zs)/\∃a c,ud=X a (J ds) c/\Yv wr (λb=>Z W2.1<=b) a ds:=by
 refine⟨?_,?_⟩
 .rcases Vc h.ownR with⟨e1,e2,_⟩|⟨g,c,e1,hg,_⟩
  .have n:J zs=0:=h.len▸e2;exact⟨U,0,by rw[e1,n],λi d=>Sz d O⟩
  refine⟨_,c,by rw[e1,h.len],λi d=>?_⟩;let⟨e,f,e3,m⟩:=h.rows i d;refine⟨g,0,R,hg,e,f,?_,m.mono λb _ q=>q.1⟩;have:=h.ownR.cells (g:=g) (by rw[e1];rfl) i _ e3;rw[aV];by_cases e4:i=0;·subst e4;simpa [Addr.add]using this
  simpa [Addr.add,e4]using this
 let⟨a,c,j,d⟩:=Xk h.ownD;exact⟨a,c,j,Yv.of_at d aA λb k _=>k⟩
end
structure PL(w:Ub)(V:N)(a:Uy)(n c:N)(xs:Wi)(wr:Ub)(u:Uj)(k:N)(cs:Wo):Prop where
 low:Sw (Z w.1) w wr
 sz:Z w.1+2<=Z wr.1
 f0:E wr ⟨Z w.1,0,U⟩=S (Si S6 (V:I))
 f1:E wr ⟨Z w.1,1,U⟩=S (X a n c)
 own:Sx wr (Z w.1+1) 194 6 u k cs
 fa:∀i (h:i<J xs),i<k->VO wr (λb=>Z w.1+2<=b/\S b≠u.ownBlock) (λj=>cs.getD (i*6+j) (X U 0 0)) xs[i] (XP xs i)
theorem PL.next{w V K L c s}{wr i o:Ub}{u u':Uj}{k m f}(h:PL w V K L c s wr u k m)(T_:k<J s)(n:Sw (Z wr.1) wr i)(T:VO i (λb=>Z wr.1<=b) f s[k] (XP s k))(g:i.grownBy o u.ownBlock)(W:Sx o (Z w.1+1) 194 6 u' (k+1) (m++[f 0,f 1,f 2,f 3,f 4,f 5]))(M_:u'.ownBlock=u.ownBlock\/u'.ownBlock=S (Z i.1)):
 PL w V K L c s o u' (k+1) (m++[f 0,f 1,f 2,f 3,f 4,f 5]):=by
 have W_:=h.sz;have R_:=n.4;have M:=g.4;have U_:=h.low.4;have C:=λJ_ e=>h.own.lt J_ e;have N_:=h.own.1;have v:∀q,q<=Z w.1->o.1[q]?=wr.1[q]?:=λq hq=>G (g.5 q O λe=>by have:=C q e.symm;omega) (n.5 q O)
 refine⟨⟨G g.1<|G n.1 h.low.1,G g.2<|G n.2 h.low.2,G g.3<|G n.3 h.low.3,O,λq hq=>G (v q O) (h.low.5 q hq)⟩,O,G (Xc<|v _ aA) h.f0,G (Xc<|v _ aA) h.f1,W,λr P_ S_=>?_⟩;have P:∀b,b<Z i.1->S b≠u.ownBlock->S b≠u'.ownBlock:=λb d p e=>by
  obtain q|q:=M_;·exact p (q▸e)
  rw[q]at e;injection e with e;omega
 by_cases e:r=k
 .subst e
  have v_:=T.mono (Q_:=λb=>(Z w.1+2<=b/\S b≠u'.ownBlock)/\S b≠u.ownBlock) (λb d q=>⟨⟨O,P b d λe=>by have:=C b e.symm;omega⟩,λe=>by have:=C b e.symm;omega⟩);have y_:=(v_.keep (w':=o) (λb d q=>g.5 b d q.2) M).mono (Q_:=λb=>Z w.1+2<=b/\S b≠u'.ownBlock) λb _ q=>q.1;have a:∀j,j<6->(m++[f 0,f 1,f 2,f 3,f 4,f 5]).getD (r*6+j) Hq=f j:=λj F=>by
   rw[bF,eV O,N_,uB]
   match j,F with
   |0,_=>rfl
   |1,_=>rfl
   |2,_=>rfl
   |3,_=>rfl
   |4,_=>rfl
   |5,_=>rfl
  let⟨t,p,x,z,y,B⟩:=y_;exact⟨by rw[a 0 vY];exact t,by rw[a 1 vY];exact p,by rw[a 2 vY];exact x,by rw[a 3 vY];exact z,by rw[a 4 vY];exact y,by rw[a 5 vY];exact B⟩
 have a:∀j,j<6->(m++[f 0,f 1,f 2,f 3,f 4,f 5]).getD (r*6+j) Hq=m.getD (r*6+j) Hq:=λj F=>by rw[bF,bF,dL O]
 let⟨t,K_,x,z,y,B⟩:=((((h.fa r P_ O).keep (w':=i) (λb d _=>n.5 b d) R_).mono (Q_:=λb=>(Z w.1+2<=b/\S b≠u'.ownBlock)/\S b≠u.ownBlock) λb d q=>⟨⟨q.1,P b d q.2⟩,q.2⟩).keep (w':=o) (λb d q=>g.5 b d q.2) M).mono (Q_:=λb=>Z w.1+2<=b/\S b≠u'.ownBlock) λb _ q=>q.1;exact⟨(a 0 vY)▸t,(a 1 vY)▸K_,(a 2 vY)▸x,(a 3 vY)▸z,(a 4 vY)▸y,(a 5 vY)▸B⟩
theorem EZ{w L B b a}(h:Xf w L B (S b) a):∀(j:N)(u:Uj),(a.map<|Si S6)[j]?=S u->E w (b.add j)=S u:=λj u c=>by
 have d:j<J a:=by have:=(cV.1 c).1;simpa using this
 let⟨i,o,e,_,f⟩:=h j d;injection e with e;subst e;have g:H a[j]=u:=by simpa [d]using c
 rw[<-g,<-f];by_cases e:j=0<;>simp[Addr.add,e]
theorem tQ{V a}(b:Jy V a)(p t):J (G2 a p t)<=4000000:=by
 unfold G2;split;·simp
 rename_i x e;split;·simp
 have f:=YO t a 0;have g:=b.1.2;exact aJ (qL (AQ a 0 t) x.1 p (J (AQ a 0 t))) (aJ (lO (show J (AQ a 0 t)<=1000 by omega) (b.10 x<|eN e).2) vY)
theorem V8{V b}(a:Jy V b)(p):∀l:Wc,J (l.flatMap<|G2 b p)<=J l*4000000
 |[]=>sP
 |t::l=>by have c:=V8 a p l;have d:=tQ a p t;rw[jF,aQ,bA];omega
theorem CL{a:Wi}{p}{l:Wc}{j}(h:j<J l):(l.take<|j+1).flatMap (G2 a p)=(l.take j).flatMap (G2 a p)++G2 a p l[j]:=by rw[bN h,eZ];simp
structure Pv(wr Y_:Ub)(bx:N)(X_:Xe)(f0:Vu):Prop where
 low:Sw (Z wr.1) wr Y_
 b1:Z wr.1<=bx
 box:Y_.rowIs bx 194 6 f0
 n2:f0 2=X U 0 0
 n3:f0 3=X U 0 0
 n4:f0 4=X U 0 0
 e0:∃a c,f0 0=X a (J X_.3.tg) c/\Yv Y_ (λb=>Z wr.1<=b/\b≠bx) a X_.3.tg
 e1:∃a c,f0 1=X a (J X_.1) c/\Yv Y_ (λb=>Z wr.1<=b/\b≠bx) a (X_.1.map Ph.dst)
 e5:∃a c,f0 5=X a (J (Id X_.3)) c/\Yv Y_ (λb=>Z wr.1<=b/\b≠bx) a (Id X_.3)
def xp(c a b:Uj)(i:N):Uj:=if i=0 then c else if i=1 then a else if i=5 then b else X U 0 0
structure Ot(u W:Ub)(o:Zm)(I_:List (Uy×Wc)):Prop where
 s:Sw (Z u.1) u W
 bx:∀b,o=S b->W.rowIs b 194 6 (λ_=>X U 0 0)/\Z u.1<=b
 il:∀x∈I_,Yv W (λb=>Z u.1<=b/\o≠S b) x.1 x.2
theorem Ot.next{u W a:Ub}{o}{f:List (Uy×Wc)}(h:Ot u W o f)(k:Sw (Z W.1) W a):Ot u a o f :=
 ⟨Xg h.s k,λb e=>⟨(h.2 b e).1.of_block (k.5 _ (h.2 b e).1.lt),(h.2 b e).2⟩,λx d=>(h.3 x d).keep (λb c _=>k.5 b c) k.4⟩
theorem Ot.add{u W a:Ub}{o}{j:List (Uy×Wc)}{c d}(h:Ot u W o j)(k:Sw (Z W.1) W a)(i:Xf a (Z W.1) (Z a.1) c d):Ot u a o ((c,d)::j):=by
 refine⟨(h.next k).s,(h.next k).2,λx b=>?_⟩;obtain rfl|b:=cH.1 b;·exact Yv.of_at i aA λe g _=>⟨aJ h.s.4 g,λf=>by have:=(h.2 e f).1.lt;omega⟩
 exact(h.next k).3 x b
theorem Ot.box{u W}{k:List (Uy×Wc)}(h:Ot u W U k):∃a,a=Z W.1/\Ot u (D W<|Sc #[X U 0 0,X U 0 0,X U 0 0,X U 0 0,X U 0 0,X U 0 0] 194) (S a) k:=by refine⟨_,R,Xb h.s _,λb e=>?_,λx g=>((h.3 x g).mono λb j c=>⟨c.1,λe=>by cases e;omega⟩).keep (λb d _=>gF _ _ _ d) sP⟩;cases e;exact⟨eK _ _ _ _ (λi f=>by match i,f with|0,_=>rfl|1,_=>rfl|2,_=>rfl|3,_=>rfl|4,_=>rfl|5,_=>rfl),h.s.4⟩
theorem AU{wr w bx t f d e cT cP cR}(h:Ot wr w (S bx) [(e,Id t.3),(d,t.1.map Ph.dst),(f,t.3.tg)]):
 Pv wr (Se (Se (Se (Se (Se (Se w ⟨bx,0,U⟩ (X f (J t.3.tg) cT)) ⟨bx,1,U⟩ (X d (J t.1) cP)) ⟨bx,2,U⟩ (X U 0 0)) ⟨bx,3,U⟩ (X U 0 0)) ⟨bx,4,U⟩ (X U 0 0)) ⟨bx,5,U⟩ (X e (J (Id t.3)) cR)) bx t (xp (X f (J t.3.tg) cT) (X d (J t.1) cP) (X e (J (Id t.3)) cR)):=by
 let⟨m,a⟩:=h.bx bx R;have c:∀{W:Ub}{j:Uy}{k:Wc}(i:N)(v:Uj),Yv W (λb=>Z wr.1<=b/\b≠bx) j k->Yv (Se W (A bx i) v) (λb=>Z wr.1<=b/\b≠bx) j k:=λi v r=>r.keep (λb _ q=>cY q.2) sP;have g:=λx p s v1 v2 v3 v4 v5=>c 5 v5 (c 4 v4<|c 3 v3 (c 2 v2<|c 1 v1 (c 0 s<|(h.il x p).mono λb _ q=>⟨q.1,λn=>q.2<|by rw[n]⟩)));refine⟨((((((h.s.setCell a _).setCell a _).setCell a _).setCell a _).setCell a _).setCell a _),a,((((((m.set 0 _).set 1 _).set 2 _).set 3 _).set 4 _).set 5 _).congr λi o=>?_,R,R,R,⟨f,cT,R,g (f,t.3.tg) sP _ _ _ _ _ _⟩,⟨d,cP,R,g (d,t.1.map Ph.dst) sP _ _ _ _ _ _⟩,⟨e,cR,R,g (e,Id t.3) sP _ _ _ _ _ _⟩⟩;unfold xp
 match i,o with
 |0,_=>rfl
 |1,_=>rfl
 |2,_=>rfl
 |3,_=>rfl
 |4,_=>rfl
 |5,_=>rfl
def jo(a v1 v2 v3 v4 v5:Value):N->Value
 |0=>a
 |1=>v1
 |2=>v2
 |3=>v3
 |4=>v4
 |_=>v5
def YQ(w:Ub)(d:Uy)(a:Wi):Prop:=∀i (h:i<J a),∃b o c,d=S ⟨b,o,U⟩/\b<Z w.1/\(∀j,j<6->E w ⟨b,o+i*6+j,U⟩=S (c j))/\VO w (λ_=>True) c a[i] (XP a i)
theorem YQ.keep{w w':Ub}{a d}(h:YQ w a d)(k:Sw (Z w.1) w w'):YQ w' a d:=λm i=>by let⟨b,o,p,e,c,f,g⟩:=h m i;exact⟨b,o,p,e,aX c k.4,λn j=>G (Xc<|k.5 b c) (f n j),g.keep (λq hq _=>k.5 q hq) k.4⟩
def WJ(w:Ub)(c:N)(e:Uy)(a:Wi):Prop:=∀i (h:i<J a),∃b o d,e=S ⟨b,o,U⟩/\(c<=b/\b<Z w.1)/\(∀j,j<6->E w ⟨b,o+i*6+j,U⟩=S (d j))/\VO w (λq=>c<=q) d a[i] (XP a i)
theorem WJ.at_{w d a b}(h:WJ w d a b):YQ w a b:=λk j=>by let⟨c,o,m,e,f,g,i⟩:=h k j;exact⟨c,o,m,e,f.2,g,i.mono λ_ _ _=>JV⟩
theorem PL.fin{w V m n c d wr u a}(h:PL w V m n c d wr u (J d) a):∃f e,u=X f (J d) e/\WJ wr (Z w.1) f d:=by
 obtain⟨e1,e2,_⟩|⟨g,e,e1,hg,_⟩:=Vc h.own;·exact⟨U,0,by rw[e1,e2],λi b=>Sz b O⟩
 have o:=h.own.1;refine⟨_,e,e1,λi b=>⟨g,0,λj=>a.getD (i*6+j) Hq,R,⟨oN hg.1,hg.2⟩,λj p=>?_,(h.fa i b b).mono λq _ hq=>by have:=hq.1;omega⟩⟩;have k:i*6+j<J a:=O;have:=h.own.cells (g:=g) (by rw[e1];rfl) (i*6+j) (a[i*6+j]) (aC k);show E wr (A g<|0+i*6+j)=S (a.getD (i*6+j) Hq);rw[aV,bF,aC k];rw[ja]at this;exact this
end
theorem Qc:(prog.info? 194).map (λi=>(i.8,i.3,i.4))=S (S<|Sa #[Hq,Hq,Hq,Hq,Hq,Hq],6,144):=vZ
theorem Qd:(prog.info? 61).map (λi=>(i.8,i.3,i.4))=S (S<|Sa #[Hq],1,24):=vZ
def jz(k:N):Code->Option Code
 |.region j ops d=>if j=k then S (.region j ops d)else U
 |.seq x y=>match jz k x with
  |some c=>S c
  |none=>jz k y
 |.block _ c=>jz k c
 |.scope c=>jz k c
 |.loop c=>jz k c
 |.cond _ x y=>match jz k x with
  |some c=>S c
  |none=>jz k y
 |_=>U
noncomputable def QB:Code:=(f90.9.bind<|jz 5).getD .skip
theorem FU{C:Code}{b:Yt}{a}(d:∀c (a:Act) t v w,b (.panic c) (a.put (S t) v) w->b (.panic c) a w)(h:∀e:Yt,Q (∀a w,b .normal a w->e .normal a w)->Q (∀c (a:Act) t v w,e (.panic c) (a.put (S t) v) w->e (.panic c) a w)->C.wp R_ e a w):C.wp R_ b a w:=h b (Y λ_ _ h=>h) (Y d)
theorem Ga(L u)(C M:Uy)(P T t){wr:Ub}{F:Yt}{u6 u7 u8 R_ V du dw dz d0 u21 u22 ea eb ec ed ee ef eg ei u31 u32 ej ek el em en T_ U_ V_ u41 u42 Z_ aa ab ac ad af aj al u51 u52 ao:Uj}(ap aq ar az a0 a1 a2 a3 a4 a5 a6 a7 a8 a9 ba bb bc bd be bf bh bi bl bm bn bo bp bq br bt bv b0 b1 b3 b4 b5 b6 b7 b8 ca cb cc cd ce cf cg M_ N_ O_ P_:Uj)(hQ:Q (∀c (D_:Act) t_ v w,F (.panic c) (D_.put (S t_) v) w->F (.panic c) D_ w))(hB:u<=Z w.1)(eq:Z w.1+2<=Z wr.1)(ep:g<m)(ck:E wr (A (Z w.1) 1)=S (Hm k B m c))(F_:E wr (A k<|B+g*6)=S (X C (J t.1) P))(e1:E wr (A k<|B+g*6+1)=S (X M (J t.2) T))(e2:E wr (A k<|B+g*6+2)=S (H t.3.1))(e3:E wr (A k<|B+g*6+3)=S (H t.3.a))(e4:E wr (A k<|B+g*6+4)=S (H t.3.3))(e5:E wr (A k<|B+g*6+5)=S (H t.3.4))(ci:Q (Jw wr L u C t.1))(ch:Q (J t.2<=4000/\J t.1<=4000))(cj:Q (∀(E_:N)(f0:Vu)(cs ct cv cw cx cz c6 c7 c8 c9 da db dc dd df di dj dk dl dn ds:Uj)(Y_:Ub),Pv wr Y_ E_ t f0->F .normal ⟨#[Sa #[H n,Hm k B m c],Hn (Z w.1),Hq,a,H g,Hn E_,u6,u7,u8,Hl (Z w.1+1) 0 0,H g,Ho (Z w.1) 1,Hm k B m c,H m,Sb So,R_,V,cs,ct,cv,cw,cx,cz,c6,c7,c8,c9,da,db,dc,dd,df,di,dj,dk,dl,dn,ds,T_,U_,V_,u41,u42,Z_,aa,ab,ac,ad,af,aj,al,u51,u52,ao,ap,aq,ar,az,a0,a1,a2,a3,a4,a5,a6,a7,a8,a9,ba,bb,bc,bd,be,bf,bh,bi,bl,bm,bn,bo,bp,bq,br,bt,bv,b0,b1,b3,b4,b5,b6,b7,b8,ca,cb,cc,cd,ce,cf,cg,M_,N_,O_,P_,Su],[]⟩ Y_)):
 Code.wp prog QB F ⟨#[Sa #[H n,Hm k B m c],Hn (Z w.1),Hq,a,H g,A_,u6,u7,u8,Hl (Z w.1+1) 0 0,H g,Ho (Z w.1) 1,Hm k B m c,H m,Sb So,R_,V,du,dw,dz,d0,u21,u22,ea,eb,ec,ed,ee,ef,eg,ei,u31,u32,ej,ek,el,em,en,T_,U_,V_,u41,u42,Z_,aa,ab,ac,ad,af,aj,al,u51,u52,ao,ap,aq,ar,az,a0,a1,a2,a3,a4,a5,a6,a7,a8,a9,ba,bb,bc,bd,be,bf,bh,bi,bl,bm,bn,bo,bp,bq,br,bt,bv,b0,b1,b3,b4,b5,b6,b7,b8,ca,cb,cc,cd,ce,cf,cg,M_,N_,O_,P_,Su],[]⟩ wr:=by
 conv=>arg 2;whnf
 have eo:k<Z wr.1:=aI wr _ F_;have h:=Y (λW (hW:Sw (Z wr.1) wr W)=>
  have q:∀{x z:N}{v:Uj},E wr (A x z)=S v->E W (A x z)=S v:=λ{x z _} i=>oB hW i<|aI wr _ i
  And.intro (q ck) (And.intro (q F_) (And.intro (q e1) (And.intro (q e2) (And.intro (q e3) (And.intro (q e4) (q e5)))))))
 have b:Q (Ot wr wr.drew U []):=Y ⟨(Rf).drew,λ_ i=>(by cases i),λ_ i=>(by cases i)⟩;refine Y7 (λp=>E p (A (Z w.1) 1)=S (Hm k B m c)/\E p (A k<|B+g*6)=S (X C (J t.1) P)/\E p (A k<|B+g*6+1)=S (X M (J t.2) T)/\E p (A k<|B+g*6+2)=S (H t.3.1)/\E p (A k<|B+g*6+3)=S (H t.3.a)/\E p (A k<|B+g*6+4)=S (H t.3.3)/\E p (A k<|B+g*6+5)=S (H t.3.4)) λig=>?_;generalize wr.drew=wd at*;refine X0 0 ?_;refine X0 1 ?_;refine X0 2 ?_;refine X0 3 ?_;refine X0 4 ?_;refine X0 5 ?_;refine X0 7 ?_;refine X0 8 ?_;refine X0 9 ?_;refine X0 10 ?_;refine X0 11 ?_;refine X0 13 ?_;refine X0 14 ?_;refine X0 15 ?_;refine X0 16 ?_;refine X0 17 ?_;refine X0 18 ?_;refine eS (rs:=[6,21]) vZ sP ?_;refine(bQ R (λK hK=>?_) (bQ R (λK hK=>?_) dY));rotate_left;go_simp;let⟨o,e,d⟩:=b.box;rw[<-e];replace b:=Y d;clear e d;refine hK _ _ (h _ b.s) λig=>?_;clear hK
 refine Xs 6 λK hK=>?_;rotate_left
 all_goals (
  go_simp;refine(ZO t.3 _).mono ?_;rintro r yT⟨aT,cT,rfl,j,l⟩;replace b:=Y<|b.add j l;clear j l;refine hK _ _ (h _ b.s) λig=>?_;clear hK
  try simp only[xX])
 rotate_left;refine Xs 12 λK hK=>?_;rotate_left;refine eS (rs:=[12,21]) vZ sP ?_;refine(bQ R (λK hK=>?_) (bQ R (λK hK=>?_) dY));rotate_left;go_simp;let⟨o,e,d⟩:=b.box;rw[<-e];replace b:=Y d;clear e d;refine hK _ _ (h _ b.s) λig=>?_;clear hK
 refine Xs 12 λK hK=>?_
 all_goals (
  go_simp;refine(Bp L u (Y<|ci.keepS λq _ h2=>b.s.5 q<|show q<Z wr.1 by omega) (Y R) ch.2 (oN b.s.4)).mono ?_;rintro r yP⟨aP,cP,rfl,j,l⟩;replace b:=Y<|b.add j l;clear j l;refine hK _ _ (h _ b.s) λig=>?_;clear hK
  try simp only[xX])
 refine Xs 19 λK hK=>?_;rotate_left;refine Xs 19 λK hK=>?_;rotate_left;refine eS (rs:=[19,21]) vZ sP ?_;refine(bQ R (λK hK=>?_) (bQ R (λK hK=>?_) dY));rotate_left;go_simp;let⟨o,e,d⟩:=b.box;rw[<-e];replace b:=Y d;clear e d;refine hK _ _ (h _ b.s) λig=>?_;clear hK
 refine Xs 19 λK hK=>?_
 all_goals (
  go_simp;refine(AI).mono ?_;rintro r yR⟨aR,cR,rfl,j,l⟩;replace b:=Y<|b.add j l;clear j l;refine hK _ _ (h _ b.s) λig=>?_;clear hK;refine X0 20 ?_)
 refine Xs 22 λK hK=>?_;rotate_left;refine Xs 22 λK hK=>?_;rotate_left;refine Xs 22 λK hK=>?_;rotate_left;refine Xs 21 λK hK=>?_;go_simp;let⟨o,e,d⟩:=b.box;rw[<-e];replace b:=Y d;clear e d;refine hK _ _ (h _ b.s) λig=>?_;clear hK;refine Xs 22 λK hK=>?_
 all_goals (
  obtain⟨f,-⟩:=b.2 o R;have cm:=f.cell (i:=0) vY;have cn:=f.cell (i:=1) vY;have co:=f.cell (i:=2) vY;have cp:=f.cell (i:=3) vY;have cq:=f.cell (i:=4) vY;have cr:=f.cell (i:=5) vY;have lz:=f.frozen;have cl:∀(W:Ub)(y s:N)(J_:Uj),y≠s->E (Se W (A o y) J_) (A o s)=E W (A o s):=λW y s J_ i=>cJ λr=>i<|fI Addr.off r
  clear f;go_simp;clear cm cn co cp cq cr lz cl;have hF:=AU (cT:=cT) (cP:=cP) (cR:=cR) b;refine hK _ _ (h _ hF.1) λig=>?_;clear hK;refine Yq ?_;exact cj _ _ _ _ _ _ _ _ _ _ _ _ _ _ _ _ _ _ _ _ _ _ _ _ hF)
end Go.Proofs.YtcncjgijikoapaaGreatDoor
