import Derived.Test.YtnggdhnpjfigjaaGreatDoorLB0
import Derived.Laws.IdiomStrings
import Derived.Laws.Strings2
namespace Go.Proofs.YtnggdhnpjfigjaaGreatDoor
set_option maxHeartbeats 8000000
set_option maxRecDepth 100000
open _root_ renaming Array.size->Z,List.length->J,Nat->N,Int->I,rfl->R,Option.some->S,Bool.true->So,Bool.false->Sn,absurd->Sz,List.range->Rg,Option.none->U
open Go renaming World.cell?->E,World.alloc->D,World.ownsRow->Sx,IntKind.i64->S6,RowKit.Below->Sw,Obj.cells->Sc,Ending.returned->Rt,Calls->Sk,World.setCell->Se
open Value renaming int->Si,slice->X,agg->Sa,bool->Sb,string->Sg
open Go.RowKit Go.Proofs.Tryz
variable{r:Bool}{t:I}{n m k B g i:N}{w v:Ub}{a A_:Uj}{p:Uy}{h:Vu}{l:Wc}{x:Wi}{q:Xe}
section
structure TH(W1:Ub)(G_:N)(wr:Ub)(u:Uj)(l:Wc):Prop where
 os:wr.4=W1.4
 tape:wr.2=W1.2
 output:wr.5=W1.5
 size:Z W1.1<=Z wr.1
 fr:∀q,q<Z W1.1->q≠G_->wr.1[q]?=W1.1[q]?
 own:Sx wr G_ 2 1 u (J l) (l.map<|Value.int S6)
 here:∀g,u.ownBlock=S g->g=G_\/Z W1.1<=g
section
variable {W1 wr w2: Ub} {G_: N} {u u': Uj} {l: Wc}
theorem TH.start(h:Sx W1 G_ 2 1 u 0 [])(a:∀g,u.ownBlock=S g->g=G_):TH W1 G_ W1 u []:=⟨R,R,R,aA,λ_ _ _=>R,h,λg e=>bC<|a g e⟩
theorem TH.push{x:I}(h:TH W1 G_ wr u l)(a:wr.grownBy w2 u.ownBlock)(f:Sx w2 G_ 2 1 u' (J l+1) (l.map (Si S6)++[H x]))(d:u'.ownBlock=u.ownBlock\/u'.ownBlock=S (Z wr.1)):TH W1 G_ w2 u' (l++[x]):=by
 have i:=h.4;refine⟨G a.1 h.1,G a.2 h.2,G a.3 h.3,aJ i a.4,λq c b=>G (a.5 q O λe=>?_) (h.5 q c b),?_,λg e=>?_⟩
 .rcases h.7 q e.symm with k|k;·exact b k
  omega
 .rw[Yl,aQ];exact f
 obtain k|k:=d;·exact h.7 g<|by rw[<-k];exact e
 rw[k]at e;injection e with e;exact aZ O
theorem TH.below(h:TH W1 G_ wr u l)(k:Sw (Z wr.1) wr w2):TH W1 G_ w2 u l :=
 ⟨G k.1 h.1,G k.2 h.2,G k.3 h.3,aJ h.4 k.4,λq a b=>G (k.5 q<|aX a h.4) (h.5 q a b),Zl h.6 λg e=>k.5 g (h.6.lt g e).2,h.7⟩
theorem TH.alloc(h:TH W1 G_ wr u l)(o:Obj):TH W1 G_ (D wr o) u l:=h.below<|Xb Rf o
theorem TH.cell(h:TH W1 G_ wr u l){b o:N}{v:Uj}(c:b≠G_)(a:E W1 (A b o)=S v):E wr (A b o)=S v:=G (Xc<|h.5 b (aI W1 _ a) c) a
end
end
theorem AI{t:Yj}:
 Sk prog 146 #[Sa #[H t.1,H t.a,H t.3,H t.4]] w λj e=>∃f c,j=Rt (X f (J (Id t)) c)/\Sw (Z w.1) w e/\Xf e (Z w.1) (Z e.1) f (Id t):=by
 let⟨d,h,tg,k⟩:=t;by_cases a:d=1
 .subst a
  go_in
  go_wp2;go_ret;exact⟨_,_,R,Xb (Xb Rf _) _,λi b=>Sz b<|by simp[Id]⟩
 have e1:(d==1)=Sn:=by simp[a]
 have g:Id ⟨d,h,tg,k⟩=[h]:=by simp[Id,a]
 rw[g]
 go_in
 go_wp2;go_ret;refine⟨_,_,R,Xb (Xb Rf _) _,λi b=>?_⟩
 match i,b with
 |0,_=>exact⟨_,_,R,⟨sP,sP⟩,sP⟩
theorem Wv(z:Yg)(w:Ub):
 Sk prog 147 #[mj z] w λt c=>∃Q_ c_,t=Rt (X Q_ (J (Iw z)) c_)/\Sw (Z w.1) w c/\Xf c (Z w.1) (Z c.1) Q_ (Iw z):=by
 obtain⟨K,F,C,P,T⟩:=fX RH;obtain⟨b,l,f,d,m⟩:=z;have V_:=Y λW=>vG b W;have O_:=Y λW=>vU b W;have s:Q (Iw ⟨b,l,f,d,m⟩=(if aB b then [f]else [])++(if bB b then [d]else [])):=Y R;generalize Iw ⟨b,l,f,d,m⟩=rs at*;generalize aB b=Z_ at*;generalize bB b=T_ at*;unfold mj
 go_in
 go_wp2_with fail
 refine(V_ _).mono ?_;rintro t r⟨rfl,h⟩;rw[h];clear h r;have V:Q (Sw (Z w.1) w<|D (D w<|.cells #[H b,H l,H f,H d,H m] 59) (Sc #[] 2)):=Y<|Xb (Xb Rf _) _;have k:=Y<|K5 w (Sc #[H b,H l,H f,H d,H m] 59);have Y_:(λU_:Ub=>Z w.1<Z U_.1/\(∀L M,#[H b,H l,H f,H d,H m][L]?=S M->E U_ (A (Z w.1) L)=S M)) (D (D w<|.cells #[H b,H l,H f,H d,H m] 59) (Sc #[] 2)):=⟨SB,(λL M X_=>by
  rw[bP _ _ _ sP];rw[eC];exact X_)⟩
 generalize D (D w _) _=W at*;obtain⟨G_,v⟩:=Y_;have c0:=v 0 _ R;have c2:=v 2 _ R;have c3:=v 3 _ R;clear v;have aa:=Y G_;cases Z_ with
 |false=>
  go_wp2_with fail
  refine(O_ _).mono ?_;rintro t r⟨rfl,h⟩;rw[h];clear h r;cases T_ with
  |false=>
   go_wp2;go_ret;have e:=s.o;simp at e;subst e;obtain⟨i,c1,e1,j⟩:=Xk (xs:=([]:Wc)) (by simpa using k.o);exact⟨i,c1,fI Rt e1,V,j.mono O<|aA⟩
  |true=>
   go_wp2_with (at_builtin;refine fT _ R _ _ 35 R (Z w.1+1) 2 K (H 0) 1 8 underlying35 F C P T R vY _ _ _ R (k.alloc _) (A (Z W.1) 0) 1 1 [H d] R R ?c1 ?c2 ?c3 ?c4 ?c5 ?_)
   case c1=>
    intro q u a
    match q,a with
    |0,a=>simp at a;subst a;simp[Addr.add]
   case c2=>intro u g;simp at g;subst g;rfl
   case c3=>unfold maxLen;(try simp);(try omega)
   case c4=>simp
   case c5=>simp;omega
   intro v1 w9 p o _;have n:=Xy (Xb V _) o (k.alloc _) O SB;have A_:=Y n;have C_:=Y p;clear p o n;go_wp2;go_ret;have e:=s.o;simp at e;subst e;obtain⟨i,c1,e1,j⟩:=Xk (xs:=([]:Wc)++[d]) (by simpa using C_.o);exact⟨i,c1,fI Rt e1,A_,j.mono O<|aA⟩
 |true=>
  go_wp2_with (at_builtin;refine fT _ R _ _ 35 R (Z w.1+1) 2 K (H 0) 1 8 underlying35 F C P T R vY _ _ _ R (k.alloc _) (A (Z W.1) 0) 1 1 [H f] R R ?c1 ?c2 ?c3 ?c4 ?c5 ?_)
  case c1=>
   intro q u a
   match q,a with
   |0,a=>simp at a;subst a;simp[Addr.add]
  case c2=>intro u g;simp at g;subst g;rfl
  case c3=>unfold maxLen;(try simp);(try omega)
  case c4=>simp
  case c5=>simp;omega
  intro v0 y S_ x _;have R_:=Xy (Xb V _) x (k.alloc _) O SB;have E_:=YJ x (k.alloc _) (b:=Z w.1) O SB;have d3:Cl y (Z w.1) 3 (H d):=G (Xc E_) (G (bP W _ (A (Z w.1) 3) G_) c3);have d0:Cl y (Z w.1) 0 (H b):=G (Xc E_) (G (bP W _ (A (Z w.1) 0) G_) c0);have P_:=Y R_;have B:=Y (by simpa using S_);have ab:Z w.1<Z y.1:=by have:=x.4;simp at this;omega
  clear S_ x E_ R_ c0 c2 c3;go_wp2_with fail
  refine(O_ _).mono ?_;rintro t r⟨rfl,h⟩;rw[h];clear h r;cases T_ with
  |false=>
   go_wp2;go_ret;have e:=s.o;simp at e;subst e;obtain⟨i,c1,e1,j⟩:=Xk (xs:=[f]) (by simpa using B.o);exact⟨i,c1,fI Rt e1,P_,j.mono O<|aA⟩
  |true=>
   go_wp2_with (at_builtin;refine fT _ R _ _ 35 R (Z w.1+1) 2 K (H 0) 1 8 underlying35 F C P T R vY _ _ _ R (B.alloc _) (A (Z y.1) 0) 1 1 [H d] R R ?c1 ?c2 ?c3 ?c4 ?c5 ?_)
   case c1=>
    intro q u a
    match q,a with
    |0,a=>simp at a;subst a;simp[Addr.add]
   case c2=>intro u g;simp at g;subst g;rfl
   case c3=>unfold maxLen;(try simp);(try omega)
   case c4=>simp
   case c5=>simp;omega
   intro v1 w9 p o _;have n:=Xy (Xb P_ _) o (B.alloc _) O SB;have A_:=Y n;have C_:=Y p;clear p o n;go_wp2;go_ret;have e:=s.o;simp at e;subst e;obtain⟨i,c1,e1,j⟩:=Xk (xs:=[f]++[d]) (by simpa using C_.o);exact⟨i,c1,fI Rt e1,A_,j.mono O<|aA⟩
theorem Bp{a:Za}{v1 v2 v3 v4 v5:Uj}(L B:N)(y:Q (Jw w L B p a))(r:Q (n=J a))(W_:n<=4000)(x:B<=Z w.1):
 Sk prog 145 #[Sa #[X p n m,v1,v2,v3,v4,v5]] w λv g=>∃h c,v=Rt (X h (J (a.map Ph.dst)) c)/\Sw (Z w.1) w g/\Xf g (Z w.1) (Z g.1) h (a.map Ph.dst):=by
 let⟨K,C,z,P,T⟩:=fX RH
 go_in
 go_wp2
 go_loopw [3,4] (λu i wr=>∃k:N,k<=n/\i=H k/\Q (Sw (Z w.1) w wr)/\Z w.1<Z wr.1/\E wr (A (Z w.1) 0)=S (X p n m)/\Q (Sx wr (Z w.1+1) 2 1 u k (((a.map Ph.dst).take k).map (Si S6)))) λ_ i _=>n-(intOf i).toNat
 case atStart=>exact⟨0,aN,R,Y<|Xb (Xb Rf _) _,SB,sP,Y<|K5 _ _⟩
 obtain⟨k,U_,rfl,e,F,V,b⟩:=hrel;by_cases V_:k<n
 .have j:k<J a:=oN r.o;obtain⟨O_,Y_,rfl,⟨_,S_⟩,ha,T_,Q_,R_,_⟩:=(y.keep<|e.mono x) k j;have s:Q ((a.map Ph.dst).take (k+1)=(a.map Ph.dst).take k++[a[k].1]):=Y (by rw[X7<|by simpa using j];simp);generalize a[k]=W at*;generalize (a.map Ph.dst).take k=P_ at*;go_wp2_with (at_builtin;refine fT _ R _ _ 35 R (Z w.1+1) 2 K (H 0) 1 8 underlying35 C z P T R vY _ _ _ R (b.alloc _) (A (Z wr.1) 0) 1 1 [H W.1] R R ?c1 ?c2 ?c3 ?c4 ?c5 ?_)
  case c1=>
   intro M u d
   match M,d with
   |0,d=>simp at d;subst d;simp[Addr.add]
  case c2=>intro u q;simp at q;subst q;rfl
  case c3=>unfold maxLen;omega
  case c4=>omega
  case c5=>simp;omega
  intro Z_ w1 o f _;have t:=Y o;go_wp2;have y_:=Xy (Xb e _) f (b.alloc _) O SB;have z_:=YJ f (b.alloc _) (b:=Z w.1) O SB;have G_:=f.4;simp at G_;exact⟨⟨k+1,O,gM,Y y_,O,G (Xc z_) (G (bP wr _ (A (Z w.1) 0) F) V),Y<|by rw[s.o,Yl];exact t⟩,SA⟩
 go_wp2;go_ret;have l:=b.o;rw[aW (by have:=r.o;simp;omega)]at l;obtain⟨N_,c1,rfl,D_⟩:=Xk l;exact⟨_,_,R,e,D_.mono O<|aA⟩
def Oe(b:Wc)(a:Za)(p:I)(i:N):Wc:=(Rg i).flatMap λi=>if b.getD i 0=p then a.map (λh=>h.2.getD i 0)else []
theorem uW{a:Za}:Oe l a t (n+1)=Oe l a t n++(if l.getD n 0=t then a.map (λh=>h.2.getD n 0)else []):=by
 unfold Oe;rw[dN,eZ];simp
theorem qL(b:Wc)(a:Za)(p:I):∀i,J (Oe b a p i)<=i*J a
 |0=>by simp[Oe]
 |i+1=>by
  have:=qL b a p i;rw[uW,aQ,Nat.succ_mul];split;·rw[bK];omega
  simp;omega
theorem tY(c:N)(e:I)(ha:Q (Xp w B g p x))(M:Q (m=J x))(hB:g<=Z w.1)(ho:Q (Jy n x))(ct:k<m):
 Sk prog 95 #[Sa #[H n,X p m c],H e,H k] w λo w'=>∃s c',o=Rt (X (S s) (J (G2 x e (k:I))) c')/\Sw (Z w.1) w w'/\Xf w' (Z w.1) (Z w'.1) (S s) (G2 x e (k:I)):=by
 let⟨i0,b8,cf,cg,ci⟩:=fX RH;have hn:m<=1000:=oP M.o ho.1.2;have P:k<J x:=oN M.o;obtain⟨j,q,rfl,⟨cr,cq⟩,hc⟩:=ha k P;let⟨pa,pc,ia,ic,q0,_,_,bd,_⟩:=hc;have br:=Y bd;have bq:=Y<|ho.9 k P;have X_:=(ho.10 _<|aH P).2;have N_:Q (G2 x e (k:I)=if x[k].1=[]then []else Oe (AQ x 0 (k:I)) x[k].1 e (J (AQ x 0 (k:I)))):=Y (by unfold G2 Oe;rw[dM,aC P]);have a0:=Y λb4 (hW:Sw (Z w.1) w b4)=>ZE (n:I) c (k:I) (Y<|ha.keep (hW.mono hB)) M O (oN hW.4);have be:=YO (k:I) x 0;have bf:J (AQ x 0 (k:I))<=1000:=oN M.o;generalize AQ x 0 (k:I)=f at*;generalize G2 x e (k:I)=ed at*;generalize x[k].1=b at*;clear bd;have U_:j<Z w.1:=O;have qa:=λo1 o2=>oB (Xb (Xb (Below.refl (Z w.1) w) o1) o2) q0 U_;clear q0
 go_in
 by_cases T:J b=0
 .have V:=iE T;have he:ed=[]:=by rw[N_.o,aU V]
  have bi:Q (Sw (Z w.1) w<|D (D w<|.cells #[H n,Hm j q m c] 40) (Sc #[] 2)):=Y<|Xb (Xb Rf _) _;simp only[T]at qa;clear bf X_ be;go_wp2;go_ret;rw[he];exact⟨_,_,R,bi,λv V_=>Sz V_ sP⟩
 have b5:((J b:I)==0)=Sn:=by simp[T]
 have V:b≠[]:=λo=>T (by rw[o];rfl);have al:Q (ed=Oe f b e (J f)):=Y (by rw[N_.o,aM V]);clear N_ V;have az:=Y<|K5 w (Sc #[H n,Hm j q m c] 40);have M_:Q (Sw (Z w.1) w<|D (D w<|.cells #[H n,Hm j q m c] 40) (Sc #[] 2)):=Y<|Xb (Xb Rf _) _;have af:Z (D (D w<|.cells #[H n,Hm j q m c] 40) (Sc #[] 2)).1=Z w.1+2:=sP;have a6:E (D (D w<|.cells #[H n,Hm j q m c] 40) (Sc #[] 2)) (A (Z w.1) 1)=S (Hm j q m c):=sP;go_wp2_with fail
 refine(a0 _ M_).mono ?_;rintro o L⟨a1,c1,rfl,t,W_⟩;rw[af]at t W_;have ch:=t.4;rw[af]at ch;have r:=Y<|M_.trans (t.mono O);have a7:=G (XU t O) a6;have bo:=Y W_;have ap:Q (TH L (Z w.1+1) L (Hl (Z w.1+1) 0 0) []):=Y (TH.start (Zl az (λC o=>by
  have S_:Z w.1+1=C:=by simpa [Value.ownBlock]using o
  subst S_;exact t.5 _ O)) (λC o=>by
  have S_:Z w.1+1=C:=by simpa [Value.ownBlock]using o
  exact S_.symm))
 have a2:=G (r.cell (p:=A j<|q+k*6) U_) (by have:=qa (Sc #[] 0) (Sc #[] 0);exact G ((Xb (Xb (Below.refl (Z w.1) w) _) _).cell (p:=A j<|q+k*6) U_).symm this);have P_:=Y a2;have ao:=Y a7;have bt:=Y<|br.keep (r.mono hB);have bl:=al;let⟨np,F⟩:∃d,d=J f:=⟨_,R⟩;rw[<-F]at bf;have ar:=Y F;let⟨K,Z_⟩:∃d,d=J b:=⟨_,R⟩;rw[<-Z_]at P_ X_ b5;have O_:=Y Z_;clear t W_ a6 a7 af a2 qa az M_ a0 al be;rw[<-F];clear F Z_;go_wp2
 go_loopw [7,9] (λu v wr=>∃a:N,a<=np/\v=H a/\Q (TH L (Z w.1+1) wr u (Oe f b e a))/\Q (u≠Hq)) λ_ v _=>np-(intOf v).toNat
 case atStart=>exact⟨0,aN,R,ap,Y sP⟩
 clear ap;obtain⟨a,hk,rfl,i,R_⟩:=hrel;by_cases cb:a<np
 .have ba:a<J f:=by rw[<-ar.o];exact cb
  obtain⟨b1,o1,rfl,⟨ck,cl⟩,a4⟩:=bo a ba;have k1:=i.cell O a4;have kf:=i.cell O ao;have kq:=i.cell O P_;have W:Q (Oe f b e (a+1)=Oe f b e a++(if f[a]=e then b.map (λh=>h.2.getD a 0)else [])):=Y (by rw[uW];congr 1;rw[bF,aC ba];rfl);have bp:Q (J (Oe f b e a)<=4000000):=Y (aJ (qL f b e a) (aJ (lO (show a<=1000 by omega) (show J b<=4000 by rw[<-O_.o];exact X_)) vY));generalize f[a]=z at*;clear a4;by_cases H_:z=e
  .subst H_;have Q_:=Y (by have h:=W.o;rw[aU R]at h;exact h);have b7:(z==z)=So:=sP;generalize Oe f b z a=T_ at*;clear W;go_wp2_with fail
   clear k1 kf kq;generalize wr=wo at*
   go_loopw [7,10] (λu aj wr=>∃d:N,d<=K/\aj=H d/\Q (TH L (Z w.1+1) wr u (T_++(b.map λh=>h.2.getD a 0).take d))/\Q (u≠Hq)) λ_ v _=>K-(intOf v).toNat
   case atStart=>exact⟨0,aN,R,Y (by simpa using i.o),R_⟩
   obtain⟨d,hm,rfl,l,bx⟩:=hrel;have kf:=l.cell O ao;have kq:=l.cell O P_;by_cases cd:d<K
   .have Y_:d<J b:=by rw[<-O_.o];exact cd
    obtain⟨b2,o2,rfl,⟨cm,cn⟩,aa,ac,g0,g1,gi⟩:=bt d Y_;have b6:=(bq b[d] (aH Y_)).1;have a9:a<J b[d].2:=O;obtain⟨b3,o3,rfl,⟨co,cp⟩,g3⟩:=gi a a9;have m1:=l.cell O g1;have m3:=l.cell O g3;have bv:Q ((b.map λh=>h.2.getD a 0).take (d+1)=(b.map λh=>h.2.getD a 0).take d++[b[d].2[a]]):=Y (by rw[X7<|by simpa using Y_];simp[a9]);have aq:Q (J (T_++(b.map λh=>h.2.getD a 0).take d)<=4004000):=Y (by have:=bp.o;rw[aQ,dH];omega);have cs:(a:I)<(J b[d].2:I):=O;generalize (b.map λh=>h.2.getD a 0).take d=tm at*;generalize b[d].2[a]=av at*;generalize J b[d].2=la at*;generalize a5:T_++tm=el at*;have bm:=Y a5;clear g0 g1 g3 gi b6 a5;go_wp2_with (at_builtin;refine bT _ R _ _ 35 R (Z w.1+1) 2 i0 (H 0) 1 8 underlying35 b8 cf cg ci R vY _ _ _ R (l.6.alloc _) (A (Z wr.1) 0) 1 1 [H av] R R ?c1 ?c2 ?c3 ?c4 ?c5 ?_)
    case c1=>
     intro aj u E_
     match aj,E_ with
     |0,E_=>simp at E_;subst E_;simp[Addr.add]
    case c2=>intro u hu;simp at hu;subst hu;rfl
    case c3=>have:=aq.o;unfold maxLen;omega
    case c4=>have:=aq.o;omega
    case c5=>have:=l.4;simp;omega
    intro u1 w2 bc a8 bb a3;have bn:=Y ((l.alloc _).push (x:=av) a8 bc (by rw[aO];exact a3));have b0:Q (u1≠Hq):=Y bb;clear bc a8 a3 bb kf kq m1 m3;go_wp2;exact⟨⟨d+1,O,gM,Y (by rw[bv.o,<-cK,bm.o];exact bn),b0⟩,SA⟩
   have ce:K<=d:=O;go_wp2;exact⟨⟨a+1,O,gM,Y (by rw[Q_.o];have h:=l.o;rw[aW<|by rw[bK,<-O_.o];exact ce]at h;exact h),bx⟩,SA⟩
  have Q_:=Y (by have h:=W.o;rw[aM H_,fF]at h;exact h);have b7:(z==e)=Sn:=by simp[H_]
  clear W H_;go_wp2;exact⟨⟨a+1,O,gM,Y (by rw[Q_.o];exact i),R_⟩,SA⟩
 have ca:a=J f:=oN ar.o;go_wp2;go_ret;have ab:=i.6;rw[ca,<-bl.o]at ab;let⟨s,cc,e2,V_⟩:=Xk ab;cases s with
 |none=>
  exfalso;obtain⟨y,_,_⟩|y:=Vc ab;·exact R_ y
  let⟨C,cj,y,_⟩:=y;rw[y]at e2;injection e2 with e2;cases e2
 |some s=>
  refine⟨s,cc,fI Rt e2,⟨G i.1 r.1,G i.2 r.2,G i.3 r.3,aJ r.4 i.4,λbh hq=>G (i.5 bh O O) (r.5 bh hq)⟩,V_.mono O<|aA⟩
section
def Jv(x:Xe):Tm:=x.2.map Iw
def Z2(x:Xe):Wc:=x.2.map H7
theorem Yv.mono{w:Ub}{P Q_:Vv}{c:Uy}{d:Wc}(h:Yv w P c d)(k:∀b,b<Z w.1->P b->Q_ b):Yv w Q_ c d:=λi g=>by
 let⟨b,o,e,a,f⟩:=h i g;exact⟨b,o,e,⟨k b a.2 a.1,a.2⟩,f⟩
theorem Yv.keep{w w':Ub}{P:Vv}{c:Uy}{d:Wc}(h:Yv w P c d)(k:∀b,b<Z w.1->P b->w'.1[b]?=w.1[b]?)(i:Z w.1<=Z w'.1):Yv w' P c d:=λj g=>by
 let⟨b,o,e,a,f⟩:=h j g;exact⟨b,o,e,⟨a.1,aX a.2 i⟩,G (Xc<|k b a.2 a.1) f⟩
theorem TA.mono{w:Ub}{P Q_:Vv}{c:Uy}{d:Tm}(h:TA w P c d)(k:∀b,b<Z w.1->P b->Q_ b):TA w Q_ c d:=λn m=>by
 let⟨b,o,g,a,e,f,j,i⟩:=h n m;exact⟨b,o,g,⟨k b a.2 a.1,a.2⟩,e,f,j,i.mono k⟩
theorem TA.keep{w w':Ub}{P:Vv}{c:Uy}{e:Tm}(i:TA w P c e)(k:∀b,b<Z w.1->P b->w'.1[b]?=w.1[b]?)(d:Z w.1<=Z w'.1):TA w' P c e:=λo n=>by
 let⟨b,p,h,a,f,g,m,j⟩:=i o n;exact⟨b,p,h,⟨a.1,aX a.2 d⟩,f,g,G (Xc<|k b a.2 a.1) m,j.keep k d⟩
theorem Yv.of_at{w:Ub}{L B:N}{P:Vv}{a:Uy}{d:Wc}(h:Xf w L B a d)(j:B<=Z w.1)(k:∀b,L<=b->b<B->P b):Yv w P a d:=λi g=>by
 let⟨b,o,e,c,f⟩:=h i g;exact⟨b,o,e,⟨k b c.1 c.2,O⟩,f⟩
theorem Yv.at_{w:Ub}{P:Vv}{a:Uy}{b:Wc}(h:Yv w P a b):Xf w 0 (Z w.1) a b:=λi g=>by
 let⟨c,o,e,d,f⟩:=h i g;exact⟨c,o,e,⟨aN,d.2⟩,f⟩
structure VO(w:Ub)(P:Vv)(us:Vu)(x:Xe)(E_:Wc):Prop where
 e0:∃a c,us 0=X a (J x.3.tg) c/\Yv w P a x.3.tg
 e1:∃a c,us 1=X a (J (x.1.map Ph.dst)) c/\Yv w P a (x.1.map Ph.dst)
 e2:∃a c,us 2=X a (J E_) c/\Yv w P a E_
 e3:∃a c,us 3=X a (J (Jv x)) c/\TA w P a (Jv x)
 e4:∃a c,us 4=X a (J (Z2 x)) c/\Yv w P a (Z2 x)
 e5:∃a c,us 5=X a (J (Id x.3)) c/\Yv w P a (Id x.3)
theorem VO.keep{w w':Ub}{P:Vv}{c:Vu}{x:Xe}{t:Wc}(m:VO w P c x t)(k:∀b,b<Z w.1->P b->w'.1[b]?=w.1[b]?)(a:Z w.1<=Z w'.1):VO w' P c x t:=by
 let⟨⟨d,c0,j,n⟩,⟨e,c1,e1,o⟩,⟨f,c2,e2,p⟩,⟨g,c3,e3,q⟩,⟨h,c4,e4,r⟩,⟨i,c5,e5,s⟩⟩:=m;exact⟨⟨d,c0,j,n.keep k a⟩,⟨e,c1,e1,o.keep k a⟩,⟨f,c2,e2,p.keep k a⟩,⟨g,c3,e3,q.keep k a⟩,⟨h,c4,e4,r.keep k a⟩,⟨i,c5,e5,s.keep k a⟩⟩
theorem VO.mono{w:Ub}{P Q_:Vv}{a:Vu}{x:Xe}{s:Wc}(j:VO w P a x s)(k:∀b,b<Z w.1->P b->Q_ b):VO w Q_ a x s:=by
 let⟨⟨c,c0,i,m⟩,⟨d,c1,e1,n⟩,⟨e,c2,e2,o⟩,⟨f,c3,e3,p⟩,⟨g,c4,e4,q⟩,⟨h,c5,e5,r⟩⟩:=j;exact⟨⟨c,c0,i,m.mono k⟩,⟨d,c1,e1,n.mono k⟩,⟨e,c2,e2,o.mono k⟩,⟨f,c3,e3,p.mono k⟩,⟨g,c4,e4,q.mono k⟩,⟨h,c5,e5,r.mono k⟩⟩
structure Ow(W1:Ub)(bx:N)(f0:Vu)(wr:Ub)(u:Uj)(l:Wc):Prop where
 os:wr.4=W1.4
 tape:wr.2=W1.2
 output:wr.5=W1.5
 size:Z W1.1<=Z wr.1
 fr:∀q,q<Z W1.1->q≠bx->wr.1[q]?=W1.1[q]?
 box:wr.rowIs bx 152 6 λi=>if i=2 then u else f0 i
 own:Sx wr (Z W1.1) 2 1 u (J l) (l.map<|Value.int S6)
section
variable {W1 wr w5 w6: Ub} {bx: N} {f0: N -> Uj} {u u': Uj} {l qs: Wc}
theorem Ow.start(b:W1.rowIs bx 152 6 f0)(a:f0 2=X U 0 0):Ow W1 bx f0 W1 (X U 0 0) [] :=
 ⟨R,R,R,aA,λ_ _ _=>R,b.congr (λi _=>by by_cases e:i=2<;>simp[e,a]),dA⟩
theorem Ow.push(h:Ow W1 bx f0 wr u l)(g:bx<Z W1.1)(b:Sw (Z wr.1) wr w5)(a:w5.grownBy w6 u.ownBlock)(i:Sx w6 (Z W1.1) 2 1 u' (J (l++qs)) ((l++qs).map (Si S6))):Ow W1 bx f0 (Se w6 ⟨bx,2,U⟩ u') u' (l++qs):=by
 have k:=h.4;have m:=b.4;have n:=a.4;have f:∀q,q<Z W1.1->w6.1[q]?=wr.1[q]?:=λq hq=>G (a.5 q O λe=>by have:=(h.7.lt q e.symm).1;omega) (b.5 q O);refine⟨G a.1<|G b.1 h.1,G a.2<|G b.2 h.2,G a.3<|G b.3 h.3,SF,λq c d=>G (Below.heap_setCell _ _ _ _ d) (G (f q c) (h.5 q c d)),((h.6.of_block<|f bx g).set 2 u').congr (λj _=>by by_cases e:j=2<;>simp[e]),ownsRow_setCell_below i g _⟩
theorem Ow.cell(h:Ow W1 bx f0 wr u l){b o:N}{v:Uj}(c:b≠bx)(a:E W1 (A b o)=S v):E wr (A b o)=S v:=G (Xc<|h.5 b (aI W1 _ a) c) a
end
structure OL(W2:Ub)(bx:N)(f0:Vu)(wr:Ub)(ur ud:Uj)(rs:Wo)(zs:Tm)(ds:Wc):Prop where
 os:wr.4=W2.4
 tape:wr.2=W2.2
 output:wr.5=W2.5
 size:Z W2.1<=Z wr.1
 fr:∀q,q<Z W2.1->q≠bx->wr.1[q]?=W2.1[q]?
 box:wr.rowIs bx 152 6 λi=>if i=3 then ur else if i=4 then ud else f0 i
 ownR:Sx wr (Z W2.1) 89 1 ur (J rs) rs
 len:J rs=J zs
 rows:∀i (h:i<J zs),∃a' c',rs[i]?=S (X a' (J zs[i]) c')/\Yv wr (λb=>Z W2.1<=b/\S b≠ur.ownBlock/\S b≠ud.ownBlock) a' zs[i]
 ownD:Sx wr (Z W2.1) 2 1 ud (J ds) (ds.map<|Value.int S6)
 ne:∀g,ur.ownBlock=S g->ud.ownBlock≠S g
section
variable {W2 wr w5 w6: Ub} {bx: N} {f0: N -> Uj} {ur ud ur' ud': Uj} {rs: Wo} {zs: Tm} {ds: Wc}
theorem OL.start(c:W2.rowIs bx 152 6 f0)(a:f0 3=X U 0 0)(b:f0 4=X U 0 0):OL W2 bx f0 W2 (X U 0 0) (X U 0 0) [] [] [] :=
 ⟨R,R,R,aA,λ_ _ _=>R,c.congr (λi _=>by by_cases e:i=3<;>by_cases e2:i=4<;>simp[e,e2,a,b]),dA,R,λi h=>Sz h sP,dA,λg e=>by cases e⟩
theorem OL.below(h:OL W2 bx f0 wr ur ud rs zs ds)(k:Sw (Z wr.1) wr w5):OL W2 bx f0 w5 ur ud rs zs ds:=by
 have n:=h.size;refine⟨G k.1 h.os,G k.2 h.tape,G k.3 h.output,aJ n k.4,λq d f=>G (k.5 q O) (h.fr q d f),h.box.of_block<|k.5 _ h.box.lt,Zl h.ownR λg e=>k.5 g (h.ownR.lt g e).2,h.len,λo j=>?_,Zl h.ownD λg e=>k.5 g (h.ownD.lt g e).2,h.ne⟩;let⟨a,c,e,m⟩:=h.rows o j;exact⟨a,c,e,m.keep (λb i _=>k.5 b i) k.4⟩
theorem OL.pushR{f:Uy}{c5:N}{ys:Wc}(h:OL W2 bx f0 wr ur ud rs zs ds)(s:bx<Z W2.1){B0:N}(K:Z W2.1<=B0)(n:∀g,ur.ownBlock=S g->g<B0)(y:∀g,ud.ownBlock=S g->g<B0)(C:Xf wr B0 (Z wr.1) f ys)(d:wr.grownBy w6 ur.ownBlock)(B:Sx w6 (Z W2.1) 89 1 ur' (J rs+1) (rs++[X f (J ys) c5]))(o:ur'.ownBlock=ur.ownBlock\/ur'.ownBlock=S (Z wr.1)):
 OL W2 bx f0 (Se w6 ⟨bx,3,U⟩ ur') ur' ud (rs++[X f (J ys) c5]) (zs++[ys]) ds:=by
 have L:=h.size;have F:=d.4;have p:∀q,q<Z W2.1->S q≠ur.ownBlock:=λq hq e=>by have:=(h.ownR.lt q e.symm).1;omega
 have r:∀b,b<Z wr.1->S b≠ur.ownBlock->S b≠ur'.ownBlock:=λb c a e=>by
  obtain k|k:=o;·exact a (k▸e)
  rw[k]at e;injection e with e;omega
 have keep:∀b,b<Z wr.1->b≠bx->S b≠ur.ownBlock->(Se w6 (A bx 3) ur').1[b]?=wr.1[b]?:=λb a j x=>G (Below.heap_setCell _ _ _ _ j) (d.5 b a x);refine⟨G d.1 h.os,G d.2 h.tape,G d.3 h.output,SF,λq a j=>G (keep q O j<|p q a) (h.fr q a j),((h.box.of_block<|d.5 bx O (p _ s)).set 3 ur').congr (λi _=>by by_cases e:i=3<;>simp[e]),?_,by simp[h.len],λi z=>?_,?_,λg e=>?_⟩
 .rw[aQ];exact ownsRow_setCell_below B s _
 .by_cases e:i<J zs
  .let⟨t,v,e1,m⟩:=h.rows i e;refine⟨t,v,?_,?_⟩;·rw[dL (h.len▸e),fA e];exact e1
   rw[fA e];refine(m.mono (Q_:=λb=>Z W2.1<=b/\S b≠ur.ownBlock/\S b≠ur'.ownBlock/\S b≠ud.ownBlock) λb c q=>⟨q.1,q.2.1,r b c q.2.1,q.2.2⟩).keep (λb c q=>keep b c O q.2.1) SF |>.mono λb _ q=>⟨q.1,q.2.2.1,q.2.2.2⟩
  have w:i=J zs:=by simp at z;omega
  subst w;refine⟨f,c5,?_,?_⟩;·rw[eV (h.len▸aA),h.len];simp
  rw[fN<|aA];simp only[kL,eM];have m:Yv wr (λb=>B0<=b) f ys:=Yv.of_at C aA λb a _=>a;exact((m.mono (Q_:=λb=>Z W2.1<=b/\S b≠ur'.ownBlock/\S b≠ud.ownBlock/\S b≠ur.ownBlock) λb c q=>⟨O,r b c (λe=>by have:=n b e.symm;omega),λe=>by have:=y b e.symm;omega,λe=>by have:=n b e.symm;omega⟩).keep (w':=Se w6 (A bx 3) ur') (λb c q=>keep b c O q.2.2.2) SF).mono λb _ q=>⟨q.1,q.2.1,q.2.2.1⟩
 .refine Zl h.ownD λg e=>keep g (h.ownD.lt g e).2 (oN<|(h.ownD.lt g e).1) λe2=>h.ne g e2.symm e
 obtain k|k:=o;·rw[k]at e;exact h.ne g e
 rw[k]at e;injection e with e;intro e2;have:=(h.ownD.lt g e2).2;omega
theorem OL.pushD{x:I}(h:OL W2 bx f0 wr ur ud rs zs ds)(n:bx<Z W2.1)(c:wr.grownBy w6 ud.ownBlock)(w:Sx w6 (Z W2.1) 2 1 ud' (J ds+1) (ds.map (Si S6)++[Si S6 x]))(s:ud'.ownBlock=ud.ownBlock\/ud'.ownBlock=S (Z wr.1)):
 OL W2 bx f0 (Se w6 ⟨bx,4,U⟩ ud') ur ud' rs zs (ds++[x]):=by
 have v:=h.size;have B:=c.4;have j:∀q,q<Z W2.1->S q≠ud.ownBlock:=λq hq e=>by have:=(h.ownD.lt q e.symm).1;omega
 have m:∀b,b<Z wr.1->S b≠ud.ownBlock->S b≠ud'.ownBlock:=λb f a e=>by
  obtain k|k:=s;·exact a (k▸e)
  rw[k]at e;injection e with e;omega
 have keep:∀b,b<Z wr.1->b≠bx->S b≠ud.ownBlock->(Se w6 (A bx 4) ud').1[b]?=wr.1[b]?:=λb a d r=>G (Below.heap_setCell _ _ _ _ d) (c.5 b a r);refine⟨G c.1 h.os,G c.2 h.tape,G c.3 h.output,SF,λq a d=>G (keep q O d<|j q a) (h.fr q a d),((h.box.of_block<|c.5 bx O (j _ n)).set 4 ud').congr (λi _=>by by_cases e:i=4<;>simp[e]),Zl h.ownR λg e=>keep g (h.ownR.lt g e).2 (oN<|(h.ownR.lt g e).1) λe2=>h.ne g e e2.symm,h.len,λi t=>?_,?_,λg e e2=>?_⟩
 .let⟨o,p,e1,y⟩:=h.rows i t;refine⟨o,p,e1,?_⟩;exact((y.mono (Q_:=λb=>Z W2.1<=b/\S b≠ur.ownBlock/\S b≠ud'.ownBlock/\S b≠ud.ownBlock) λb f q=>⟨q.1,q.2.1,m b f q.2.2,q.2.2⟩).keep (w':=Se w6 (A bx 4) ud') (λb f q=>keep b f O q.2.2.2) SF).mono λb _ q=>⟨q.1,q.2.1,q.2.2.1⟩
 .rw[Yl,aQ];exact ownsRow_setCell_below w n _
 exact m g (h.ownR.lt g e).2 (λe3=>h.ne g e e3.symm) e2.symm
theorem OL.fin(h:OL W2 bx f0 wr ur ud rs zs ds):(∃a c,ur=X a (J zs) c/\TA wr (λb=>Z W2.1<=b) a zs)/\∃a c,ud=X a (J ds) c/\Yv wr (λb=>Z W2.1<=b) a ds:=by
 refine⟨?_,?_⟩
 .rcases Vc h.ownR with⟨e1,e2,_⟩|⟨g,c,e1,hg,_⟩
  .have n:J zs=0:=h.len▸e2;exact⟨U,0,by rw[e1,n],λi d=>Sz d O⟩
  refine⟨_,c,by rw[e1,h.len],λi d=>?_⟩;let⟨e,f,e3,m⟩:=h.rows i d;refine⟨g,0,R,hg,e,f,?_,m.mono λb _ q=>q.1⟩;have:=h.ownR.cells (g:=g) (by rw[e1];rfl) i _ e3;rw[aV];by_cases e4:i=0;·subst e4;simpa [Addr.add]using this
  simpa [Addr.add,e4]using this
 let⟨a,c,j,d⟩:=Xk h.ownD;exact⟨a,c,j,Yv.of_at d aA λb k _=>k⟩
end
structure PL(w:Ub)(V:N)(a:Uy)(n c:N)(xs:Wi)(wr:Ub)(u:Uj)(k:N)(cs:Wo):Prop where
 low:Sw (Z w.1) w wr
 sz:Z w.1+2<=Z wr.1
 f0:E wr ⟨Z w.1,0,U⟩=S (Si S6 (V:I))
 f1:E wr ⟨Z w.1,1,U⟩=S (X a n c)
 own:Sx wr (Z w.1+1) 152 6 u k cs
 fa:∀i (h:i<J xs),i<k->VO wr (λb=>Z w.1+2<=b/\S b≠u.ownBlock) (λj=>cs.getD (i*6+j) (X U 0 0)) xs[i] (XP xs i)
theorem PL.next{w:Ub}{V:N}{K:Uy}{L c:N}{s:Wi}{wr i o:Ub}{u u':Uj}{k:N}{m:Wo}{f:Vu}(h:PL w V K L c s wr u k m)(T_:k<J s)(n:Sw (Z wr.1) wr i)(T:VO i (λb=>Z wr.1<=b) f s[k] (XP s k))(g:i.grownBy o u.ownBlock)(W:Sx o (Z w.1+1) 152 6 u' (k+1) (m++[f 0,f 1,f 2,f 3,f 4,f 5]))(M_:u'.ownBlock=u.ownBlock\/u'.ownBlock=S (Z i.1)):
 PL w V K L c s o u' (k+1) (m++[f 0,f 1,f 2,f 3,f 4,f 5]):=by
 have W_:=h.sz;have R_:=n.4;have M:=g.4;have U_:=h.low.4;have C:=λJ_ e=>h.own.lt J_ e;have N_:=h.own.1;have v:∀q,q<=Z w.1->o.1[q]?=wr.1[q]?:=λq hq=>G (g.5 q O λe=>by have:=C q e.symm;omega) (n.5 q O)
 refine⟨⟨G g.1<|G n.1 h.low.1,G g.2<|G n.2 h.low.2,G g.3<|G n.3 h.low.3,O,λq hq=>G (v q O) (h.low.5 q hq)⟩,O,G (Xc<|v _ aA) h.f0,G (Xc<|v _ aA) h.f1,W,λr P_ S_=>?_⟩;have P:∀b,b<Z i.1->S b≠u.ownBlock->S b≠u'.ownBlock:=λb d p e=>by
  obtain q|q:=M_;·exact p (q▸e)
  rw[q]at e;injection e with e;omega
 by_cases e:r=k
 .subst e
  have v_:=T.mono (Q_:=λb=>(Z w.1+2<=b/\S b≠u'.ownBlock)/\S b≠u.ownBlock) (λb d q=>⟨⟨O,P b d λe=>by have:=C b e.symm;omega⟩,λe=>by have:=C b e.symm;omega⟩);have y_:=(v_.keep (w':=o) (λb d q=>g.5 b d q.2) M).mono (Q_:=λb=>Z w.1+2<=b/\S b≠u'.ownBlock) λb _ q=>q.1;have a:∀j,j<6->(m++[f 0,f 1,f 2,f 3,f 4,f 5]).getD (r*6+j) Hq=f j:=λj F=>by
   rw[bF,eV O,N_,Nat.add_sub_cancel_left]
   match j,F with
   |0,_=>rfl
   |1,_=>rfl
   |2,_=>rfl
   |3,_=>rfl
   |4,_=>rfl
   |5,_=>rfl
  let⟨t,p,x,z,y,B⟩:=y_;exact⟨by rw[a 0 vY];exact t,by rw[a 1 vY];exact p,by rw[a 2 vY];exact x,by rw[a 3 vY];exact z,by rw[a 4 vY];exact y,by rw[a 5 vY];exact B⟩
 have a:∀j,j<6->(m++[f 0,f 1,f 2,f 3,f 4,f 5]).getD (r*6+j) Hq=m.getD (r*6+j) Hq:=λj F=>by
  rw[bF,bF,dL O]
 let⟨t,K_,x,z,y,B⟩:=((((h.fa r P_ O).keep (w':=i) (λb d _=>n.5 b d) R_).mono (Q_:=λb=>(Z w.1+2<=b/\S b≠u'.ownBlock)/\S b≠u.ownBlock) λb d q=>⟨⟨q.1,P b d q.2⟩,q.2⟩).keep (w':=o) (λb d q=>g.5 b d q.2) M).mono (Q_:=λb=>Z w.1+2<=b/\S b≠u'.ownBlock) λb _ q=>q.1;exact⟨(a 0 vY)▸t,(a 1 vY)▸K_,(a 2 vY)▸x,(a 3 vY)▸z,(a 4 vY)▸y,(a 5 vY)▸B⟩
theorem EZ{w:Ub}{L B:N}{b:Addr}{a:Wc}(h:Xf w L B (S b) a):∀(j:N)(u:Uj),(a.map<|Value.int S6)[j]?=S u->E w (b.add j)=S u:=λj u c=>by
 have d:j<J a:=by have:=(cV.1 c).1;simpa using this
 let⟨i,o,e,_,f⟩:=h j d;injection e with e;subst e;have g:H a[j]=u:=by simpa [d]using c
 rw[<-g,<-f];by_cases e:j=0<;>simp[Addr.add,e]
theorem tQ{V:N}{a:Wi}(b:Jy V a)(p t:I):J (G2 a p t)<=4000000:=by
 unfold G2;split;·simp
 rename_i x e;split;·simp
 have f:=YO t a 0;have g:=b.1.2;exact aJ (qL (AQ a 0 t) x.1 p (J (AQ a 0 t))) (aJ (lO (show J (AQ a 0 t)<=1000 by omega) (b.10 x<|eN e).2) vY)
theorem V8{V:N}{b:Wi}(a:Jy V b)(p:I):∀l:Wc,J (l.flatMap<|G2 b p)<=J l*4000000
 |[]=>sP
 |t::l=>by
  have c:=V8 a p l;have d:=tQ a p t;rw[jF,aQ,bA];omega
theorem CL{a:Wi}{p:I}{l:Wc}{j:N}(h:j<J l):(l.take<|j+1).flatMap (G2 a p)=(l.take j).flatMap (G2 a p)++G2 a p l[j]:=by
 rw[bN h,eZ];simp
structure Pv(wr Y_:Ub)(bx:N)(X_:Xe)(f0:Vu):Prop where
 low:Sw (Z wr.1) wr Y_
 b1:Z wr.1<=bx
 box:Y_.rowIs bx 152 6 f0
 n2:f0 2=X U 0 0
 n3:f0 3=X U 0 0
 n4:f0 4=X U 0 0
 e0:∃a c,f0 0=X a (J X_.3.tg) c/\Yv Y_ (λb=>Z wr.1<=b/\b≠bx) a X_.3.tg
 e1:∃a c,f0 1=X a (J X_.1) c/\Yv Y_ (λb=>Z wr.1<=b/\b≠bx) a (X_.1.map Ph.dst)
 e5:∃a c,f0 5=X a (J (Id X_.3)) c/\Yv Y_ (λb=>Z wr.1<=b/\b≠bx) a (Id X_.3)
def xp(c a b:Uj)(i:N):Uj:=if i=0 then c else if i=1 then a else if i=5 then b else X U 0 0
structure Ot(u W:Ub)(o:Zm)(I_:List (Uy×Wc)):Prop where
 s:Sw (Z u.1) u W
 bx:∀b,o=S b->W.rowIs b 152 6 (λ_=>X U 0 0)/\Z u.1<=b
 il:∀x∈I_,Yv W (λb=>Z u.1<=b/\o≠S b) x.1 x.2
theorem Ot.next{u W a:Ub}{o:Zm}{f:List (Uy×Wc)}(h:Ot u W o f)(k:Sw (Z W.1) W a):Ot u a o f :=
 ⟨Xg h.s k,λb e=>⟨(h.2 b e).1.of_block (k.5 _ (h.2 b e).1.lt),(h.2 b e).2⟩,λx d=>(h.3 x d).keep (λb c _=>k.5 b c) k.4⟩
theorem Ot.add{u W a:Ub}{o:Zm}{j:List (Uy×Wc)}{c:Uy}{d:Wc}(h:Ot u W o j)(k:Sw (Z W.1) W a)(i:Xf a (Z W.1) (Z a.1) c d):Ot u a o ((c,d)::j):=by
 refine⟨(h.next k).s,(h.next k).2,λx b=>?_⟩;obtain rfl|b:=cH.1 b;·exact Yv.of_at i aA λe g _=>⟨aJ h.s.4 g,λf=>by have:=(h.2 e f).1.lt;omega⟩
 exact(h.next k).3 x b
theorem Ot.box{u W:Ub}{k:List (Uy×Wc)}(h:Ot u W U k):∃a,a=Z W.1/\Ot u (D W<|.cells #[X U 0 0,X U 0 0,X U 0 0,X U 0 0,X U 0 0,X U 0 0] 152) (S a) k:=by
 refine⟨_,R,Xb h.s _,λb e=>?_,λx g=>((h.3 x g).mono λb j c=>⟨c.1,λe=>by cases e;omega⟩).keep (λb d _=>Below.heap_alloc _ _ _ d) sP⟩;cases e;exact⟨eK _ _ _ _ (λi f=>by match i,f with|0,_=>rfl|1,_=>rfl|2,_=>rfl|3,_=>rfl|4,_=>rfl|5,_=>rfl),h.s.4⟩
theorem AU{wr w:Ub}{bx:N}{t:Xe}{f d e:Uy}{cT cP cR:N}(h:Ot wr w (S bx) [(e,Id t.3),(d,t.1.map Ph.dst),(f,t.3.tg)]):
 Pv wr (Se (Se (Se (Se (Se (Se w ⟨bx,0,U⟩ (X f (J t.3.tg) cT)) ⟨bx,1,U⟩ (X d (J t.1) cP)) ⟨bx,2,U⟩ (X U 0 0)) ⟨bx,3,U⟩ (X U 0 0)) ⟨bx,4,U⟩ (X U 0 0)) ⟨bx,5,U⟩ (X e (J (Id t.3)) cR)) bx t (xp (X f (J t.3.tg) cT) (X d (J t.1) cP) (X e (J (Id t.3)) cR)):=by
 let⟨m,a⟩:=h.bx bx R;have c:∀{W:Ub}{j:Uy}{k:Wc}(i:N)(v:Uj),Yv W (λb=>Z wr.1<=b/\b≠bx) j k->Yv (Se W (A bx i) v) (λb=>Z wr.1<=b/\b≠bx) j k:=λi v r=>r.keep (λb _ q=>Below.heap_setCell _ _ _ _ q.2) sP;have g:=λx p s v1 v2 v3 v4 v5=>c 5 v5 (c 4 v4<|c 3 v3 (c 2 v2<|c 1 v1 (c 0 s<|(h.il x p).mono λb _ q=>⟨q.1,λn=>q.2<|by rw[n]⟩)));refine⟨((((((h.s.setCell a _).setCell a _).setCell a _).setCell a _).setCell a _).setCell a _),a,((((((m.set 0 _).set 1 _).set 2 _).set 3 _).set 4 _).set 5 _).congr λi o=>?_,R,R,R,⟨f,cT,R,g (f,t.3.tg) sP _ _ _ _ _ _⟩,⟨d,cP,R,g (d,t.1.map Ph.dst) sP _ _ _ _ _ _⟩,⟨e,cR,R,g (e,Id t.3) sP _ _ _ _ _ _⟩⟩;unfold xp
 match i,o with
 |0,_=>rfl
 |1,_=>rfl
 |2,_=>rfl
 |3,_=>rfl
 |4,_=>rfl
 |5,_=>rfl
def jo(a v1 v2 v3 v4 v5:Value):N->Value
 |0=>a
 |1=>v1
 |2=>v2
 |3=>v3
 |4=>v4
 |_=>v5
def YQ(w:Ub)(d:Uy)(a:Wi):Prop:=∀i (h:i<J a),∃b o c,d=S ⟨b,o,U⟩/\b<Z w.1/\(∀j,j<6->E w ⟨b,o+i*6+j,U⟩=S (c j))/\VO w (λ_=>True) c a[i] (XP a i)
theorem YQ.keep{w w':Ub}{a:Uy}{d:Wi}(h:YQ w a d)(k:Sw (Z w.1) w w'):YQ w' a d:=λm i=>by
 let⟨b,o,p,e,c,f,g⟩:=h m i;exact⟨b,o,p,e,aX c k.4,λn j=>G (Xc<|k.5 b c) (f n j),g.keep (λq hq _=>k.5 q hq) k.4⟩
def WJ(w:Ub)(c:N)(e:Uy)(a:Wi):Prop:=∀i (h:i<J a),∃b o d,e=S ⟨b,o,U⟩/\(c<=b/\b<Z w.1)/\(∀j,j<6->E w ⟨b,o+i*6+j,U⟩=S (d j))/\VO w (λq=>c<=q) d a[i] (XP a i)
theorem WJ.at_{w:Ub}{d:N}{a:Uy}{b:Wi}(h:WJ w d a b):YQ w a b:=λk j=>by
 let⟨c,o,m,e,f,g,i⟩:=h k j;exact⟨c,o,m,e,f.2,g,i.mono λ_ _ _=>trivial⟩
theorem PL.fin{w:Ub}{V:N}{m:Uy}{n c:N}{d:Wi}{wr:Ub}{u:Uj}{a:Wo}(h:PL w V m n c d wr u (J d) a):∃f e,u=X f (J d) e/\WJ wr (Z w.1) f d:=by
 obtain⟨e1,e2,_⟩|⟨g,e,e1,hg,_⟩:=Vc h.own;·exact⟨U,0,by rw[e1,e2],λi b=>Sz b O⟩
 have o:=h.own.1;refine⟨_,e,e1,λi b=>⟨g,0,λj=>a.getD (i*6+j) Hq,R,⟨oN hg.1,hg.2⟩,λj p=>?_,(h.fa i b b).mono λq _ hq=>by have:=hq.1;omega⟩⟩;have k:i*6+j<J a:=O;have:=h.own.cells (g:=g) (by rw[e1];rfl) (i*6+j) (a[i*6+j]) (aC k);show E wr (A g<|0+i*6+j)=S (a.getD (i*6+j) Hq);rw[aV,bF,aC k];rw[ja]at this;exact this
end
theorem uv(v:I)(f:Q (VO w (λ_=>True) h q l))(bd:Q (J q.2<=4000))(hE:Q (J l<=8000000))(K M:Uj){u4 u5:Uj}(Y_:h 2=a)(Z_:h 3=A_)(h4:h 4=u4)(h5:h 5=u5):
 Sk prog 144 #[Sa #[K,M,a,A_,u4,u5],H v] w λC w'=>C=Rt (H (NA q l v:N))/\Sw (Z w.1) w w':=by
 let⟨x,c2,e2,i2⟩:=f.e2;let⟨y,c3,e3,i3⟩:=f.e3;let⟨z,c4,e4,i4⟩:=f.e4;let⟨j,c5,e5,i5⟩:=f.e5;rw[e2]at Y_;rw[e3]at Z_;rw[e4]at h4;rw[e5]at h5;subst Y_ Z_ h4 h5;have H2:=Y i2;have H3:=Y i3;have H4:=Y i4;have H5:=Y i5;have u:Q (J (Jv q)=J q.is):=Y (by unfold Jv;simp);have aq:Q (J (Z2 q)=J q.is):=Y (by unfold Z2;simp);let⟨b,o⟩:∃m,m=J (Jv q):=⟨_,R⟩;let⟨n4,P⟩:∃m,m=J (Z2 q):=⟨_,R⟩;let⟨s,F⟩:∃m,m=J (Id q.te):=⟨_,R⟩;let⟨r,T⟩:∃m,m=J l:=⟨_,R⟩;rw[<-o,<-P,<-F,<-T];have a6:b=n4:=by rw[o,P,u.o,aq.o]
 subst a6;have be:b<=4000:=by rw[o,u.o];exact bd
 have bh:s<=1:=by rw[F];unfold Id;split<;>simp
 have bf:r<=8000000:=by rw[T];exact hE
 have L:=Y o;have a0:=Y P;have a1:=Y F;have az:=Y T;clear o P F T e2 e3 e4 e5 i2 i3 i4 i5;have ad:Q (NA q l v=Ya v (Cg (Id q.te) v||Cg l v) q.is):=Y R;generalize NA q l v=c at*;have n:Sw (Z w.heap) w (D w<|.cells #[K,M,X x r c2,X y b c3,X z b c4,X j s c5] 152):=Xb Rf _;have hc:∀R_ S_,#[K,M,X x r c2,X y b c3,X z b c4,X j s c5][R_]?=S S_->E (D w<|.cells #[K,M,X x r c2,X y b c3,X z b c4,X j s c5] 152) (A (Z w.heap) R_)=S S_:=λR_ S_ f=>by
  rw[eC];exact f
 go_in
 go_wp2_with fail
 have d:=Y n;have i:=Y hc;generalize D w _=W at*;have k2:Cl W (Z w.heap) 2 (X x r c2):=i 2 _ R;have k3:Cl W (Z w.heap) 3 (X y b c3):=i 3 _ R;have k4:Cl W (Z w.heap) 4 (X z b c4):=i 4 _ R;have k5:Cl W (Z w.heap) 5 (X j s c5):=i 5 _ R;have bl:=n.size;have ab:=Y<|H2.at_.keep n;have ac:=Y<|H5.at_.keep n;have aj:=Y<|qu c2 v ab az O;have ao:=Y<|YF j c5 v (Id q.te) 0 (Z w.heap) W ac a1 O;clear n hc i
 go_loop [5] (λQ_=>∃k:N,k<=b/\Q_=H k/\Q (c=Ya v (Cg (Id q.te) v||Cg l v) (q.is.drop k))) λQ_=>b-(intOf Q_).toNat
 case atStart=>exact⟨0,aN,R,Y<|by rw[ad.o];rfl⟩
 obtain⟨k,hk,rfl,K_⟩:=hrel;by_cases P_:k<b
 .have bc:k<J q.is:=by rw[<-u.o,<-L.o];exact P_
  have ba:k<J (Jv q):=by rw[<-L.o];exact P_
  have bb:k<J (Z2 q):=by rw[<-a0.o];exact P_
  obtain⟨b3,o3,rfl,⟨_,a7⟩,ar,cr,N_,O_⟩:=H3 k ba;obtain⟨b4,o4,rfl,⟨_,a8⟩,M_⟩:=H4 k bb;have X_:(Jv q)[k]=Iw q.is[k]:=by simp[Jv]
  have V_:(Z2 q)[k]=H7 q.is[k]:=by simp[Z2]
  rw[X_]at N_ O_;rw[V_]at M_;have l3:=oB d N_ a7;have l4:=oB d M_ a8;have U_:Q (Ya v (Cg (Id q.te) v||Cg l v) (q.is.drop k)=if Cg (Iw q.is[k]) v then 1 else if H7 q.is[k]=v then 2 else Ya v (Cg (Id q.te) v||Cg l v) (q.is.drop<|k+1)):=Y (by rw[gZ bc];rfl);have ap:=Y<|O_.at_.keep d;let⟨nr,V⟩:∃m,m=J (Iw q.is[k]):=⟨_,R⟩;rw[<-V]at l3;have bi:nr<=2:=by rw[V];exact oU _
  have al:=Y<|YF ar cr v (Iw q.is[k]) 0 (Z w.heap) W ap (Y V) O;clear N_ M_ O_ X_ V_ V;generalize Iw q.is[k]=ri at*;generalize H7 q.is[k]=B at*;go_wp2_with fail
  refine al.mono ?_;rintro C w3⟨rfl,p⟩;rw[p];clear p;cases hh:Cg ri v with
  |true=>
   have e:Q (c=1):=Y (by rw[K_.o,U_.o,hh];rfl);clear hh;go_wp2;go_ret;exact⟨by rw[e.o];rfl,d⟩
  |false=>
   have T_:Q (c=if B=v then 2 else Ya v (Cg (Id q.te) v||Cg l v) (q.is.drop<|k+1)):=Y (by rw[K_.o,U_.o,hh];rfl);clear hh;by_cases g:B=v
   .have e:Q (c=2):=Y (by rw[T_.o,aU g]);have a9:(B==v)=So:=by simp[g]
    clear g;go_wp2;go_ret;exact⟨by rw[e.o];rfl,d⟩
   have af:Q (c=Ya v (Cg (Id q.te) v||Cg l v) (q.is.drop<|k+1)):=Y (by rw[T_.o,aM g]);have a9:(B==v)=Sn:=by simp[g]
   clear g;go_wp2_with fail
   go_round
   case rel=>exact⟨k+1,O,gM,af⟩
   simp[intOf];omega
 have e:Q (c=if (Cg (Id q.te) v||Cg l v)then 1 else 0):=Y (by rw[K_.o,mP<|by rw[<-u.o,<-L.o];omega];rfl);go_wp2_with fail
 refine ao.mono ?_;rintro C w3⟨rfl,p⟩;rw[p];clear p;cases ht:Cg (Id q.te) v with
 |true=>
  have t:Q (c=1):=Y (by rw[e.o,ht];rfl);clear ht;go_wp2;go_ret;exact⟨by rw[t.o];rfl,d⟩
 |false=>
  have t:Q (c=if Cg l v then 1 else 0):=Y (by rw[e.o,ht];rfl);clear ht;go_wp2_with fail
  refine aj.mono ?_;rintro C w4⟨rfl,aa⟩;rw[aa];clear aa;cases ht:Cg l v with
  |true=>
   have J_:Q (c=1):=Y (by rw[t.o,ht];rfl);clear ht;go_wp2;go_ret;exact⟨by rw[J_.o];rfl,d⟩
  |false=>
   have J_:Q (c=0):=Y (by rw[t.o,ht];rfl);clear ht;go_wp2;go_ret;exact⟨by rw[J_.o];rfl,d⟩
def Of(a:List Xe)(b:N):List I:=match a[b]? with
 |none=>[]
 |some x=>x.1.map Ph.dst
def PA(a:List Xe)(b:N):List I:=match a[b]? with
 |none=>[]
 |some x=>Id x.3
def Tu(a:List Xe)(b:N):List I:=match a[b]? with
 |none=>[]
 |some x=>Z2 x
def OW(a:List Xe)(b:N):List (List I):=match a[b]? with
 |none=>[]
 |some x=>Jv x
theorem qH(a:Wi)(b v:N):Yo a b v=Cg (Of a b) (v:I):=by
 unfold Yo Of;cases a[b]?<;>rfl
structure QN(W:Ub)(base:N)(xs:Wi)(b:N)(a0:Uy)(n0:N)(a1:Uy)(n1:N)(a2:Uy)(n2:N)(a3:Uy)(n3:N)(a4:Uy)(n4:N)(a5:Uy)(n5:N)(c0 c1 c2 c3 c4 c5:N):Prop where
 t:n0=J (X8 xs b)/\Xf W 0 base a0 (Xi<|X8 xs b)
 p:n1=J (Of xs b)/\Xf W 0 base a1 (Of xs b)
 e:n2=J (XP xs b)/\Xf W 0 base a2 (XP xs b)
 r:n3=J (OW xs b)/\TA W (λq=>q<base) a3 (OW xs b)
 d:n4=J (Tu xs b)/\Xf W 0 base a4 (Tu xs b)
 u:n5=J (PA xs b)/\Xf W 0 base a5 (PA xs b)
 bare:∀v:N,Sk prog 144 #[Sa #[X a0 n0 c0,X a1 n1 c1,X a2 n2 c2,X a3 n3 c3,X a4 n4 c4,X a5 n5 c5],Si S6 (v:I)] W λe w'=>e=Rt (Si S6 (C7 xs b v:N))/\Sw (Z W.1) W w'
theorem YQ.row(t:Jy n x){of:N}(W_:YQ w (S ⟨m,of,U⟩) x)(a:Sw (Z w.1) w v)(b:k<J x):
 ∃f y g z h F i K j B l C c0 c1 c2 c3 c4 c5,m<Z w.1/\E v (A m<|of+k*6)=S (X f y c0)/\E v (A m<|of+k*6+1)=S (X g z c1)/\E v (A m<|of+k*6+2)=S (X h F c2)/\E v (A m<|of+k*6+3)=S (X i K c3)/\E v (A m<|of+k*6+4)=S (X j B c4)/\E v (A m<|of+k*6+5)=S (X l C c5)/\y<=2/\z<=4000/\F<=8000000/\B<=4000/\C<=1/\QN v (Z w.1) x k f y g z h F i K j B l C c0 c1 c2 c3 c4 c5:=by
 let⟨al,ao,us,o,T,ad,c⟩:=W_ k b;injection o with o;injection o with e1 e2;subst e1 e2;have d:=λu r=>oB a (ad u r) T;have ac:=c.keep (λaj hq _=>a.block aj hq) a.size;let⟨f,c0,V_,i0⟩:=c.e0;let⟨g,c1,e1,i1⟩:=c.e1;let⟨h,c2,e2,i2⟩:=c.e2;let⟨i,c3,e3,i3⟩:=c.e3;let⟨j,c4,e4,i4⟩:=c.e4;let⟨l,c5,e5,i5⟩:=c.e5;have L:=d 0 vY;have M:=d 1 vY;have V:=d 2 vY;have W:=d 3 vY;have P:=d 4 vY;have Q_:=d 5 vY;rw[V_]at L;rw[e1]at M;rw[e2]at V;rw[e3]at W;rw[e4]at P;rw[e5]at Q_;have s:=t.lens x[k] (aH b);have J_:x[k].te.tg=Xi (X8 x k):=by rw[WM t.okf b,VS b]
 have F_:J (XP x k)<=8000000:=by
  unfold XP;rw[aC b];have h1:=V8 t ((k:N):I) x[k].te.tg;have h2:=KJ x[k].te;simp only;omega
 have Y_:J (Id x[k].te)<=1:=by unfold Id;split<;>simp
 have G_:Of x k=x[k].ps.map Ph.dst:=by unfold Of;rw[aC b]
 have I_:PA x k=Id x[k].te:=by unfold PA;rw[aC b]
 have E_:Tu x k=Z2 x[k]:=by unfold Tu;rw[aC b]
 have H_:OW x k=Jv x[k]:=by unfold OW;rw[aC b]
 have Z_:∀e:N,C7 x k e=NA x[k] (XP x k) (e:I):=λe=>by unfold C7;rw[aC b]
 refine⟨f,_,g,_,h,_,i,_,j,_,l,_,c0,c1,c2,c3,c4,c5,T,L,M,V,W,P,Q_,KJ _,by rw[bK];exact s.2,F_,by unfold Z2;rw[bK];exact s.1,Y_,⟨⟨by rw[J_];simp[Xi],?_⟩,⟨by rw[G_],?_⟩,⟨R,i2.at_.keep a⟩,⟨by rw[H_],?_⟩,⟨by rw[E_],?_⟩,⟨by rw[I_],?_⟩,λe=>?_⟩⟩;·rw[<-J_];exact i0.at_.keep a
 .rw[G_];exact i1.at_.keep a
 .rw[H_]
  intro af hi;let⟨S_,o',U_,p,R_,T_,aa,X_⟩:=i3 af hi;exact⟨S_,o',U_,⟨p.2,aX p.2 a.size⟩,R_,T_,oB a aa p.2,λu r=>by
   let⟨b2,o2,e2,q,ab⟩:=X_ u r;exact⟨b2,o2,e2,⟨q.2,aX q.2 a.size⟩,oB a ab q.2⟩⟩
 .rw[E_];exact i4.at_.keep a
 .rw[I_];exact i5.at_.keep a
 rw[Z_];exact uv (e:I) (Y ac) (Y s.1) (Y F_) _ _ e2 e3 e4 e5
def Un(a:Ys)(n:N):N:=(Rg n).countP a
theorem vq(a:Ys)(n:N):Un a n<=n:=aJ mW sP
theorem tO{a:Ys}:Un a (n+1)=Un a n+(if a n then 1 else 0):=by
 unfold Un;rw[dN,lN];simp[List.countP_cons]
theorem tp{a lv':Ys}(h:∀b,b<n->a b=lv' b):Un a n=Un lv' n:=by
 unfold Un;exact kK λx c=>by rw[h x<|bE.1 c]
theorem t7{a:Ys}{b:N}(c:a b=Sn):∀n,b<n->Un (λz=>if z=b then So else a z) n=Un a n+1
 |0,h=>Sz h O
 |n+1,h=>by
  rw[tO,tO];by_cases e:b=n
  .subst e;rw[tp (lv':=a) λz d=>by simp[show z≠b by omega]];simp[c]
  rw[t7 c n O];have:n≠b:=O;simp only[this,fD];omega
theorem DA{a:Ys}(b:n<m)(h:a n=So):0<Un a m:=by
 unfold Un;exact nC.2 ⟨n,bE.2 b,h⟩
structure Oj(xs:Wi)(v n:N)(lv0 lv:Ys)(b:N)(gr:Bool):Prop where
 snd:∀z,z<n->lv z=So->Wh xs v z
 here:∀z,z<n->C7 xs z v=1->lv z=So
 no:gr=Sn->(∀z,z<n->lv z=lv0 z)/\∀z,z<b->C7 xs z v=0->∀t∈X8 xs z,lv t=So->Yo xs t v=Sn->lv z=So
 yes:gr=So->Un lv0 n<Un lv n/\0<Un lv0 n
theorem Oj.start{a:Ys}(b:∀z,z<m->a z=So->Wh x n z)(c:∀z,z<m->C7 x z n=1->a z=So):Oj x n m a a 0 Sn :=
 ⟨b,c,λ_=>⟨λ_ _=>R,λz d=>Sz d O⟩,λh=>by cases h⟩
theorem Oj.set{g b:Ys}(h:Oj x n m g b k r)(q:m=J x)(l:k<m)(p:B∈X8 x k)(f:B<m)(i:C7 x k n=0)(o:b k=Sn)(d:b B=So)(j:Yo x B n=Sn):Oj x n m g (λz=>if z=k then So else b z) k So:=by
 refine⟨λz c a=>?_,λz c a=>?_,λe=>(by cases e),λ_=>?_⟩
 .by_cases e:z=k
  .subst e;exact Wh.step O i p j<|h.1 B f d
  simp only[e,fD]at a;exact h.1 z c a
 .by_cases e:z=k;·simp[e]
  simp only[e,fD];exact h.2 z c a
 rw[t7 o m l];cases hg:r with
 |false=>
  have e:=tp (h.3 hg).1;rw[e];refine⟨O,?_⟩;rw[<-e];exact DA f d
 |true=>
  have:=h.4 hg;omega
theorem Oj.next{b a:Ys}(h:Oj x n m b a k r)(c:r=Sn->C7 x k n=0->∀t∈X8 x k,a t=So->Yo x t n=Sn->a k=So):Oj x n m b a (k+1) r :=
 ⟨h.1,h.2,λe=>⟨(h.3 e).1,λz d=>by
  by_cases e2:z=k;·subst e2;exact c e
  exact(h.3 e).2 z O⟩,h.4⟩
theorem Oj.done{e a:Ys}(h:Oj x n m e a m Sn)(d:m=J x):∀b,b<m->(a b=So↔Wh x n b):=by
 subst d;exact λb c=>CO h.1 h.2 (h.3 R).2 c
section
structure OF(w wr:Ub)(n:N)(lv op:Ys):Prop where
 low:Sw (Z w.1) w wr
 r1:wr.rowIs (Z w.1) 4 n λb=>Sb (lv b)
 r2:wr.rowIs (Z w.1+1) 4 n λb=>Sb (op b)
 sz:Z w.1+2<=Z wr.1
section
variable {w wr wr': Ub} {n: N} {lv op: N -> Bool}
theorem OF.below(h:OF w wr n lv op)(k:Sw (Z wr.1) wr wr'):OF w wr' n lv op :=
 ⟨Xg h.1 k,h.2.of_block<|k.5 _ h.2.lt,h.3.of_block<|k.5 _ h.3.lt,aJ h.4 k.4⟩
theorem OF.congr{a b:Ys}(h:OF w wr n lv op)(e1:∀z,z<n->lv z=a z)(e2:∀z,z<n->op z=b z):OF w wr n a b:=⟨h.1,UC (C:=Sb) h.2 e1,UC (C:=Sb) h.3 e2,h.4⟩
theorem OF.set1(h:OF w wr n lv op)(b:N)(q:Bool):OF w (Se wr ⟨Z w.1,b,U⟩ (Sb q)) n (λz=>if z=b then q else lv z) op :=
 ⟨h.1.setCell aA _,TS (C:=Sb) h.2 b q,h.3.setOther (by show Z w.1+1≠Z w.1;omega) _,by rw[Xd];exact h.4⟩
theorem OF.set2(h:OF w wr n lv op)(b:N)(q:Bool):OF w (Se wr ⟨Z w.1+1,b,U⟩ (Sb q)) n lv (λz=>if z=b then q else op z) :=
 ⟨h.1.setCell (by show Z w.1<=Z w.1+1;omega) _,h.2.setOther (by show Z w.1≠Z w.1+1;omega) _,TS (C:=Sb) h.3 b q,by rw[Xd];exact h.4⟩
end
def Pt(a:Wi)(v n k:N)(lv:Ys):Prop:=(∀z,z<n->lv z=So->Wh a v z)/\(∀z,z<n->C7 a z v=1->lv z=So)/\(n<k+Un lv n\/(k=n/\Un lv n=0))
def PY(w wr:Ub)(d:Wi)(v n:N)(lv op:Ys)(c:Uj)(b:N):Prop:=∃(g:Bool)(a:Ys),c=Sb g/\OF w wr n a op/\Oj d v n lv a b g
def PV(w wr:Ub)(c:Wi)(v n:N)(lv op:Ys)(d:Uj)(b j:N):Prop:=∃(g:Bool)(a:Ys),d=Sb g/\OF w wr n a op/\Oj c v n lv a b g/\(a b=Sn->∀r,r<j->∀t,(X8 c b)[r]?=S t->¬(a t=So/\Yo c t v=Sn))
theorem BS{bh:N}(v:N){n:N}(c_:N){bf of:N}{a:Wi}{w:Ub}(hF:Q (YQ w (S ⟨bf,of,U⟩) a))(s:Q (n=J a))(B:Q (Jy bh a)):
 Sk prog 92 #[Hm bf of n c_,H v] w λf w'=>∃g,f=Rt (Hl g n n)/\Sw (Z w.1) w w'/\Z w.1<=g/\∃lv:Ys,w'.rowIs g 4 n (λb=>Sb (lv b))/\∀b,b<n->(lv b=So↔Wh a v b):=by
 have hn:n<=1000:=oP s.o B.1.2;have b0:0<n:=oP s.o B.1.1;have bn:=fM (P:=prog) 79 4 (Sb Sn) 1 underlying79 Q7 R S6 S6 n O O;have af:=Y<|dG w (Sb Sn) n 4;have aj:=Y<|dG (D w<|.cells (madeCells #[Sb Sn] n) 4) (Sb Sn) n 4
 go_in
 go_wp2_with fail
 have al:Q (OF w (D (D w<|.cells (madeCells #[Sb Sn] n) 4) (Sc (madeCells #[Sb Sn] n) 4)) n (λz=>decide (z<0)&&decide (C7 a z v=1)) λz=>decide (z<0)&&decide (C7 a z v=0)):=Y ⟨Xb (Xb Rf _) _,UC (C:=Sb) (af.alloc _) λz _=>sP,UC (C:=Sb) (by have:=aj.o;rwa[aO]at this) λz _=>sP,sP⟩;clear af aj bn;generalize D (D w _) _=w2 at*
 go_loopw [7] (λW_ wr=>∃b:N,b<=n/\W_=H b/\Q (OF w wr n (λz=>decide (z<b)&&decide (C7 a z v=1)) λz=>decide (z<b)&&decide (C7 a z v=0))) λW_ _=>n-(intOf W_).toNat
 case atStart=>exact⟨0,aN,R,al⟩
 clear al;obtain⟨b,hb,rfl,d⟩:=hrel;by_cases c:b<n
 .let⟨a0,O_,a1,n1,a2,n2,a3,n3,a4,n4,a5,n5,c0,c1,c2,c3,c4,c5,aq,x0,x1,x2,x3,x4,x5,_,_,_,_,_,L⟩:=YQ.row B hF d.1 (show b<J a by have:=s.o;omega);have ab:=Y<|L.7 v;clear L;go_wp2_with fail
  refine ab.mono ?_;rintro f w3⟨rfl,ap⟩;have M:=Y<|d.below ap;have Y_:=M.2.cell c;have Z_:=M.3.cell c;have z1:=M.2.frozen b;have z2:=M.3.frozen b;clear ap ab x0 x1 x2 x3 x4 x5;let⟨q1,bo⟩:∃aa:Bool,(((C7 a b v:N):I)==1)=aa:=⟨_,R⟩;let⟨q2,bp⟩:∃aa:Bool,(((C7 a b v:N):I)==0)=aa:=⟨_,R⟩;have HQ:Q (q1=decide (C7 a b v=1)/\q2=decide (C7 a b v=0)):=Y (by
   rw[<-bo,<-bp];constructor;·rw[eQ,iA,bD];omega
   rw[eQ,iA,bD];omega)
  have b3:∀a7,E (Se w3 (A (Z w.1) b) a7) (A (Z w.1+1) b)=E w3 (A (Z w.1+1) b):=λa7=>bZ (Below.heap_setCell _ _ _ _<|by show Z w.1+1≠Z w.1;omega);go_wp2
  exact⟨⟨b+1,O,gM,Y (((M.set1 b q1).set2 b q2).congr (λz e=>by
   by_cases f:z=b;·subst f;simp[HQ.1]
   .have:z<b+1↔z<b:=O
    simp[f,this]) (λz e=>by
   by_cases f:z=b;·subst f;simp[HQ.2]
   have:z<b+1↔z<b:=O
   simp[f,this]))⟩,SA⟩
 have P:n=b:=O;have T:Q (OF w wr n (λz=>decide (C7 a z v=1)) λz=>decide (C7 a z v=0)):=Y (d.congr (λz e=>by simp[<-P,e]) λz e=>by simp[<-P,e]);subst P;clear d;have x:Q (Pt a v n n λz=>decide (C7 a z v=1)):=Y ⟨λz e h=>Wh.here (oN s.o) (fV h),λz _ h=>eB h,O⟩;go_wp2_with fail
 generalize (λz=>decide (C7 a z v=1))=br at*;generalize o:(λz=>decide (C7 a z v=0))=k at*;have ac:Q (∀z,k z=decide (C7 a z v=0)):=Y (λz=>by rw[<-o]);clear o;generalize wr=w5 at*
 go_loopw [9] (λr wr=>∃(y:N)(lv:Ys),y<=n/\r=H y/\Q (OF w wr n lv k)/\Q (Pt a v n y lv)) λr _=>(intOf r).toNat
 case atStart=>exact⟨n,br,aA,R,T,x⟩
 clear T x;obtain⟨y,lv,hk,rfl,T,x⟩:=hrel;have bv:0<y:=by
  have F:=x.2.2;have V:=vq lv n;omega
 have u:Q (PY w wr a v n lv k (Sb Sn) 0):=Y ⟨Sn,lv,R,T,Oj.start x.1 x.2.1⟩;clear T;go_wp2_with fail
 generalize wr=w6 at*
 go_loopw [10,11] (λT_ S_ wr=>∃b:N,b<=n/\S_=H b/\Q (PY w wr a v n lv k T_ b)) λ_ S_ _=>n-(intOf S_).toNat
 case atStart=>exact⟨0,aN,R,u⟩
 clear u;obtain⟨b,hb,rfl,u⟩:=hrel;by_cases c:b<n
 .have ar:b<J a:=oN s.o
  let⟨a0,O_,a1,n1,a2,n2,a3,n3,a4,n4,a5,n5,c0,c1,c2,c3,c4,c5,aq,y0,_,_,_,_,_,b1,_,_,_,_,L⟩:=YQ.row B hF (Below.refl (Z w.1) w) ar;have R_:=Y L.t;clear L;have C:Q (PV w wr a v n lv k u10 b 0):=Y (by
   let⟨g,i,f,F,V⟩:=u.o;exact⟨g,i,f,F,V,λ_ r K=>Sz K O⟩)
  clear u;go_wp2_with fail
  generalize wr=w7 at*
  go_loopw [10,12] (λT_ X_ wr=>∃j:N,j<=O_/\X_=H j/\Q (PV w wr a v n lv k T_ b j)) λ_ X_ _=>O_-(intOf X_).toNat
  case atStart=>exact⟨0,aN,R,C⟩
  clear C;obtain⟨j,hj,rfl,C⟩:=hrel;obtain⟨g,i,rfl,p,W,hJ⟩:=C.o;have d:=Y p;have m:=Y W;have Q_:=Y hJ;have k0:=oB p.1 y0 aq;have Y_:=p.2.cell c;have Z_:=p.3.cell c;clear C p W hJ;by_cases o:C7 a b v=0
  .have q:k b=So:=by rw[ac.o];exact eB o
   rw[q]at Z_;cases hlb:i b with
   |true=>
    rw[hlb]at Y_;have l:Q (PY w wr a v n lv k (Sb g) (b+1)):=Y ⟨g,i,R,d,m.next λ_ _ _ _ _ _=>hlb⟩;clear hlb q;go_wp2;exact⟨⟨b+1,O,gM,l⟩,SA⟩
   |false=>
    rw[hlb]at Y_;by_cases bm:j<O_
    .have V_:j<J (X8 a b):=by rw[<-R_.1];exact bm
     have bl:j<J (Xi<|X8 a b):=by simp[Xi];exact V_
     obtain⟨bt,ot,rfl,⟨_,bi⟩,L_⟩:=R_.2 j bl;have ao:(Xi<|X8 a b)[j]=(((X8 a b)[j]:N):I):=by simp[Xi]
     rw[ao]at L_;have N_:=aH V_;have a6:=B.1.tg _ ar _ N_;have P_:=Y<|aC V_;let⟨t,M_⟩:∃t,t=(X8 a b)[j]:=⟨_,R⟩;rw[<-M_]at L_ N_ a6 P_;have be:=Y N_;have az:t<n:=oN s.o;have kt:=oB d.1 L_ bi;have kl:=d.2.cell az;let⟨d0,m0,d1,m1,d2,m2,d3,m3,d4,m4,d5,m5,f0,f1,f2,f3,f4,f5,_,_,t1,_,_,_,_,_,bx,_,_,_,U_⟩:=YQ.row B hF d.1 a6;have a8:=Y<|YF d1 f1 (v:I) (Of a t) 0 (Z w.1) wr (Y U_.p.2) (Y U_.p.1) O;have ad:=Y<|qH a t v;clear L_ N_ M_ ao U_;cases hlt':i t with
     |false=>
      rw[hlt']at kl;have l:Q (PV w wr a v n lv k (Sb g) b (j+1)):=Y ⟨g,i,R,d,m,λh r K z e=>by
       by_cases f:r=j
       .subst f;rw[P_.o]at e;injection e with e;subst e;rw[hlt'];exact λh=>by cases h.1
       exact Q_ h r O z e⟩
      clear hlt' hlb q;go_wp2;exact⟨⟨j+1,O,gM,l⟩,SA⟩
     |true=>
      rw[hlt']at kl;have ba:=Y hlt';have a9:=Y hlb;have bc:=Y o;have z1:=d.2.frozen b;clear hlt' hlb q o;go_wp2_with fail
      refine a8.mono ?_;rintro f w8⟨rfl,bq⟩;subst bq;cases hph:Cg (Of a t) (v:I)with
      |true=>
       have l:Q (PV w w8 a v n lv k (Sb g) b (j+1)):=Y ⟨g,i,R,d,m,λh r K z e=>by
        by_cases f:r=j
        .subst f;rw[P_.o]at e;injection e with e;subst e;rw[ad.o,hph];exact λh=>by cases h.2
        exact Q_ h r O z e⟩
       clear hph;go_wp2_with fail
       refine⟨?_,SA⟩
       first
        |exact⟨j+1,O,gM,l⟩
        |((repeat apply gP);refine⟨?_,R⟩;exact⟨j+1,O,gM,l⟩)
      |false=>
       have l:Q (PV w (Se w8 (A (Z w.1) b) (Sb So)) a v n lv k (Sb So) b (j+1)):=Y ⟨So,_,R,d.set1 b So,m.set s c be az bc a9 ba (by rw[ad.o];exact hph),λh=>by simp at h⟩;clear hph;go_wp2_with fail
       refine⟨?_,SA⟩
       first
        |exact⟨j+1,O,gM,l⟩
        |((repeat apply gP);refine⟨?_,R⟩;exact⟨j+1,O,gM,l⟩)
    have l:Q (PY w wr a v n lv k (Sb g) (b+1)):=Y ⟨g,i,R,d,m.next (λ_ _ t M_ F V=>by
     let⟨r,K,f⟩:=bR M_;exact Sz ⟨F,V⟩ (Q_ hlb r (oN R_.1) t (by rw[aC K,f])))⟩
    clear hlb q;go_wp2;exact⟨⟨b+1,O,gM,l⟩,SA⟩
  have q:k b=Sn:=by rw[ac.o];exact dJ o
  rw[q]at Z_;have l:Q (PY w wr a v n lv k (Sb g) (b+1)):=Y ⟨g,i,R,d,m.next λ_ h=>Sz h o⟩;clear q o;go_wp2;exact⟨⟨b+1,O,gM,l⟩,SA⟩
 have P:b=n:=O;subst P;obtain⟨g,i,rfl,p,W⟩:=u.o;have d:=Y p;have m:=Y W;clear u p W;cases g with
 |true=>
  have bd:Q (Pt a v b (y-1) i):=Y ⟨m.1,m.2,by
   have F:=m.4 R;have V:=x.2.2;have h3:=vq i b;omega⟩
  go_wp2;exact⟨⟨y-1,i,O,gM,d,bd⟩,SA⟩
 |false=>
  go_wp2;go_ret;exact⟨Z w.1,R,d.1,aA,i,d.2,m.done s⟩
end
def QC(a b:Ub):Prop:=a=b
def QM(c:Wi)(v b:N)(w:Ub)(e:Ending)(a:Ub):Prop:=∃s:Bool,e=Rt (Sb s)/\(s=So↔UV c v b)/\Sw (Z w.1) w a
theorem A8(c_:N){of:N}{c:Ys}(hF:Q (YQ w (S ⟨B,of,U⟩) x))(C:Q (k=J x))(o:Q (Jy n x))(hb:i<k)(b:Q (w.rowIs g 4 k λz=>Sb (c z)))(aa:Q (∀z,z<k->(c z=So↔Wh x m z))):
 Sk prog 93 #[Hm B of k c_,Hl g k k,H m,H i] w λe w'=>QM x m i w e w':=by
 have hn:k<=1000:=oP C.o o.1.2;have T:i<J x:=oN C.o;let⟨a0,F,a1,n1,a2,n2,a3,n3,a4,n4,a5,n5,c0,c1,c2,c3,c4,c5,ac,x0,_,x2,_,_,_,aj,_,al,_,_,l⟩:=YQ.row o hF (Below.refl (Z w.1) w) T;have u:=Y l.t;have d:=Y<|qu c2 (m:I) (Y l.e.2) (Y l.e.1) O;clear l;cases hed:Cg (XP x i) (m:I)with
 |true=>
  have s:Q (UV x m i):=Y<|bC (XD.1 hed);rw[hed]at d;clear hed
  go_in
  go_wp2_with fail
  refine d.mono ?_;rintro e w3⟨rfl,K⟩;have e3:=K.symm;subst e3;go_wp2;go_ret;exact⟨So,R,⟨λ_=>s,λ_=>R⟩,Rf⟩
 |false=>
  have U_:Q (¬(m:I)∈XP x i):=Y (λh=>by rw[XD.2 h]at hed;cases hed);rw[hed]at d;clear hed
  go_in
  go_wp2_with fail
  refine d.mono ?_;rintro e w3⟨rfl,K⟩;have e3:=K.symm;subst e3;clear d;go_wp2
  go_loopw [9] (λP wr=>∃j:N,j<=F/\P=H j/\Q (QC wr w)/\Q (∀r,r<j->∀t,(X8 x i)[r]?=S t->¬Ol x m t)) λP _=>F-(intOf P).toNat
  case atStart=>exact⟨0,aN,R,Y R,Y λr b=>Sz b O⟩
  obtain⟨j,hj,rfl,L,V⟩:=hrel;have X_:=Eq.symm L;clear L;subst X_;by_cases Z_:j<F
  .have y:j<J (X8 x i):=by rw[<-u.1];exact Z_
   have Y_:j<J (Xi<|X8 x i):=by simp[Xi];exact y
   obtain⟨bt,ot,rfl,⟨_,ad⟩,W⟩:=u.2 j Y_;have M:(Xi<|X8 x i)[j]=(((X8 x i)[j]:N):I):=by simp[Xi]
   rw[M]at W;have q:=aH y;have Q_:=o.1.tg _ T _ q;have G_:=Y<|aC y;let⟨t,p⟩:∃t,t=(X8 x i)[j]:=⟨_,R⟩;rw[<-p]at W q Q_ G_;have V_:=Y q;have P_:t<k:=oN C.o
   have R_:=b.cell P_;have H_:=Y<|aa.o t P_;let⟨d0,m0,d1,m1,d2,m2,d3,m3,d4,m4,d5,m5,f0,f1,f2,f3,f4,f5,_,_,t1,_,_,_,_,_,af,_,_,_,v⟩:=YQ.row o hF (Below.refl (Z w.1) w) Q_;have S_:=Y<|YF d1 f1 (m:I) (Of x t) 0 (Z w.1) w (Y v.p.2) (Y v.p.1) O;have K_:=Y<|qH x t m;clear q p M v;have I_:Q (¬Ol x m t->∀r,r<j+1->∀t,(X8 x i)[r]?=S t->¬Ol x m t):=Y (λh r b z f=>by
    by_cases e:r=j
    .subst e;rw[G_.o]at f;injection f with f;subst f;exact h
    exact V r O z f)
   cases hlt':c t with
   |false=>
    rw[hlt']at R_;have a:=Y (I_.o λh=>by rw[H_.2 h.2]at hlt';cases hlt');clear hlt';go_wp2;exact⟨⟨j+1,O,gM,Y R,a⟩,SA⟩
   |true=>
    rw[hlt']at R_;have T_:=Y<|H_.1 hlt';clear hlt';go_wp2_with fail
    refine S_.mono ?_;rintro e w8⟨rfl,ab⟩;have W_:=ab.symm;subst W_;cases hph:Cg (Of x t) (m:I)with
    |true=>
     have a:Q (∀r,r<j+1->∀t,(X8 x i)[r]?=S t->¬Ol x m t):=Y (I_.o λh=>by have:=h.1;rw[K_.o,hph]at this;cases this);clear hph;go_wp2_with fail
     refine⟨?_,SA⟩
     first
      |exact⟨j+1,O,gM,Y R,a⟩
      |((repeat apply gP);refine⟨?_,R⟩;exact⟨j+1,O,gM,Y R,a⟩)
    |false=>
     have s:Q (UV x m i):=Y (aZ ⟨t,V_,by rw[K_.o];exact hph,T_⟩);clear hph;go_wp2;go_ret;exact⟨So,R,⟨λ_=>s,λ_=>R⟩,Rf⟩
  have a:Q (¬UV x m i):=Y (by
   rintro(h|⟨t,p,h⟩);·exact U_ h
   let⟨r,b,e⟩:=bR p
   exact V r (oN u.1) t (by rw[aC b,e]) h)
  go_wp2;go_ret;exact⟨Sn,R,⟨λh=>(by cases h),λh=>Sz h a⟩,Rf⟩
theorem rk{e1 s1:N}{v1:Uj}{c1:Wo}(h:Sx w n e1 s1 v1 m c1)(k:Sw (Z w.1) w v):Sx v n e1 s1 v1 m c1:=by
 refine h.kept (row:=U) ⟨k.1,k.2,k.3,k.4,λq hq _=>k.5 q hq⟩ ?_;cases v1.ownBlock<;>simp
theorem Md(w:Ub)(a:Wn):∃c b,J a<=c/\(convert 9 22<|.string (K8 a)).run prog w=.ok (Hl (Z w.1) (J a) c) b/\Sw (Z w.1) w b/\Z b.1=Z w.1+1/\Yx b (Z w.1) (Z w.1+1) (S ⟨Z w.1,0,U⟩) a:=by
 refine⟨_,_,?_,by have:=run_bytes_of_string (P:=prog) w 9 22 5 (K8 a) underlying9 underlying22 underlying5;rw[i7]at this;exact this,?_,?_,?_⟩;·exact grownCap_ge w _ _ _
 .exact(Xb (Rf).drew _)
 .show Z (w.1.push _)=_;simp
 intro i d;refine⟨_,0,R,⟨aA,iJ⟩,?_⟩;rw[aV,cell_of_row _ (Z w.1) i _ _ _<|heap_alloc_new w.drew _];unfold bytesRow;rw[Array.getElem?_append_left (by simpa [K8]using d)];simp[K8,d]
theorem oK(sep:UInt8):∀(r a:Wn),J (am sep a r)<=J r+1
 |[],a=>by simp[am]
 |c::r,a=>by
  rw[am];split;·have:=oK sep r [];simp only[bA];omega
  have:=oK sep r<|a++[c];simp only[bA];omega
theorem kh(sep:UInt8):∀(r a:Wn),∀f∈am sep a r,J f<=J a+J r
 |[],a,f,h=>by simp[am]at h;subst h;simp
 |c::r,a,f,h=>by
  rw[am]at h;split at h
  .rcases cH.1 h with rfl|h;·simp only[bA];omega
   have:=kh sep r [] f h;simp only[bA,bO]at this |-;omega
  have:=kh sep r (a++[c]) f h;simp only[aQ,bA,bO]at this |-;omega
def cB(c:UInt8):Bool:=decide (33<=c.toNat)&&decide (c.toNat<=126)
theorem nK{f:Wn}:Y3 f=(decide (0<J f)&&f.all cB):=R
theorem Lz{a:Wn}(h:n<J (C3 a 32))(b:Y3 (C3 a 32)[n]=Sn):Bf a=[]:=by
 unfold Bf;rw[aM];intro ha;have:=dV.1 ha _<|aH h;rw[b]at this;cases this
theorem yG(a:Wn)(hl:J a<=1000000)(w:Ub):
 Sk prog 35 #[Sg (K8 a)] w λl y=>∃z,l=Rt z/\Sw (Z w.1) w y/\Sx y (Z w.1) 9 1 z (J (Bf a)) (KC<|Bf a):=by
 let⟨aj,W1,ap,aq,B,C,P⟩:=Md w a;have K:=Y B;have M:=Y P;have j:=Y C;clear B P C
 go_in
 go_wp2_with (go_at_call 34;refine(zB aj 32 W1 M (Y R) hl ap (oN j.o)).mono ?_;rintro l g⟨v2,rfl,T,n⟩)
 obtain⟨F,c2,rfl,V⟩:=UO n;have o:J (KC<|C3 a 32)=J (C3 a 32):=by simp[KC]
 rw[o];have i:=Y<|K.trans (T.mono<|oN j.o);have u:=i.4;have ab:=Y V;have X_:Q (Sx g (Z w.1) 9 1 (X F (J (C3 a 32)) c2) (J (C3 a 32)) (KC<|C3 a 32)):=Y (by rw[o]at n;exact(by
  obtain⟨L,h0|⟨ao,cc,al,hv,hg,a1⟩⟩:=n;·exact⟨L,.inl h0⟩
  exact⟨L,.inr ⟨ao,cc,al,hv,oN j.o,a1⟩⟩))
 have ac:=Y o;have a4:J (C3 a 32)<=1000001:=by have:=oK 32 a [];unfold C3;omega
 have T_:Q (∀f∈C3 a 32,J f<=1000000):=Y (λf t=>by have:=kh 32 a [] f t;simp only[bO]at this;omega);have V_:Q (∀k (h:k<J (C3 a 32)),Y3 (C3 a 32)[k]=Sn->Bf a=[]):=Y λk h t=>Lz h t;have ad:Q ((C3 a 32).all Y3=So->Bf a=C3 a 32):=Y (λh=>by unfold Bf;rw[aU h]);have s:Q (∀W,Sw (Z w.1) w W->Bf a=[]->Sx (D W<|.cells #[] 9) (Z w.1) 9 1 (Hl (Z W.1) 0 0) (J (Bf a)) (KC<|Bf a)):=Y (λW hW h=>by
  rw[h];have:=eI (base:=Z w.1) (e:=9) (size:=1) W #[] 0 hW.4 sP R;simpa [KC]using this)
 clear V n T o aq K M j;generalize C3 a 32=c at*;go_wp2
 go_loopw [4] (λv wr=>∃k:N,k<=J c/\v=H k/\Q (Sw (Z g.1) g wr)/\Q ((c.take k).all Y3=So)) λv _=>J c-(intOf v).toNat
 case atStart=>exact⟨0,aN,R,Y<|Rf,Y R⟩
 obtain⟨k,hk,rfl,b,y_⟩:=hrel;have O_:=b.4;have d:=Y<|i.trans (b.mono u);by_cases m:k<J c
 .obtain⟨af,a0,rfl,⟨_,I_⟩,J_⟩:=ab k (by rw[ac.o];exact m);have B_:Q (E g (A af<|a0+k)=S (Sg (K8 c[k]))):=Y (G J_<|by simp[KC]);have K_:=oB b B_ I_;have D_:=Y<|V_.o k m;have U_:=Y<|T_.o c[k] (aH m);have aa:Q ((c.take<|k+1).all Y3=((c.take k).all Y3&&Y3 c[k])):=Y (by rw[bN m,List.all_append];simp);clear J_;generalize c[k]=f at*;have a6:=i7 f;by_cases ar:J f=0
  .have e:=Y (D_.o<|by rw[nK,ar];rfl);go_wp2;go_ret;exact⟨_,R,Xb d _,s _ d e⟩
  have az:0<J f:=O;have a3:=U_.o;go_wp2;generalize wr=wo at*
  go_loopw [5] (λx wi=>∃q:N,q<=J f/\x=H q/\Q (Sw (Z g.1) g wi)/\Q ((f.take q).all cB=So)) λx _=>J f-(intOf x).toNat
  case atStart=>exact⟨0,aN,R,b,Y R⟩
  clear K_ b d O_;obtain⟨q,hq,rfl,b,z_⟩:=hrel;have O_:=b.4;have d:=Y<|i.trans (b.mono u);have K_:=oB b B_ I_;by_cases M_:q<J f
  .have a5:q<(K8 f).size:=O
   have Z_:Q ((f.take<|q+1).all cB=((f.take q).all cB&&cB (K8 f)[q])):=Y (by rw[bN M_,List.all_append];simp[zJ]);have r:Q (cB (K8 f)[q]=So↔¬(((K8 f)[q]).toNat:I)<33/\¬(126:I)<(((K8 f)[q]).toNat:I)):=Y (by simp only[cB,bY,bD];omega);have C_:Q (cB (K8 f)[q]=Sn->Bf a=[]):=Y (λh=>D_ (by
    rw[nK,jD];exact aZ (by
     rw[lZ];exact⟨f[q],aH M_,by have l:cB f[q]=Sn:=h;rw[l];simp⟩)))
   by_cases c1:(((K8 f)[q]).toNat:I)<33
   .have e:=Y (C_.o (by cases h:cB (K8 f)[q]with|false=>rfl|true=>exact Sz c1 (r.1 h).1));go_wp2;go_ret;exact⟨_,R,Xb d _,s _ d e⟩
   by_cases c3:(126:I)<(((K8 f)[q]).toNat:I)
   .have e:=Y (C_.o (by cases h:cB (K8 f)[q]with|false=>rfl|true=>exact Sz c3 (r.1 h).2));go_wp2;go_ret;exact⟨_,R,Xb d _,s _ d e⟩
   have p:Q ((f.take<|q+1).all cB=So):=Y (by rw[Z_.o,z_.o,r.2 ⟨c1,c3⟩];rfl);go_wp2;exact⟨⟨q+1,O,gM,b,p⟩,SA⟩
  have p:Q ((c.take<|k+1).all Y3=So):=Y (by
   rw[aa.o,y_.o,nK,eB az];have:=z_.o;rw[aW O]at this;rw[this];rfl)
  go_wp2;exact⟨⟨k+1,O,gM,b,p⟩,SA⟩
 have e:=Y (ad.o (by have:=y_.o;rwa[aW O]at this));have Y_:Q (Sx wr (Z w.1) 9 1 (X F (J c) c2) (J (Bf a)) (KC<|Bf a)):=Y (by rw[e.o];exact rk X_ b);have d:=Y<|i.trans (b.mono u);go_wp2;go_ret;exact⟨_,R,d,Y_⟩
def ju(w:List UInt8):N->N->I
 |0,_=>0
 |n+1,k=>if bz k=w then k else ju w n (k+1)
def D2(w:Wn):I:=ju w 10 1
theorem T4(f:Wn):(K8 f).toList=f:=by rw[ByteArray.toList_eq];rfl
theorem yJ{w:Wn}:ju w (n+1) m=if bz m=w then (m:I)else ju w n (m+1):=R
theorem yZ(f:Wn)(w:Ub):
 Sk prog 79 #[Sg (K8 f)] w λe n=>e=Rt (H<|D2 f)/\Sw (Z w.1) w n:=by
 have t:=T4 f
 go_in
 go_wp2
 go_loopw [3] (λi wr=>∃k:N,1<=k/\k<=11/\i=H k/\Q (Sw (Z w.1) w wr)/\Q (D2 f=ju f (11-k) k)) λi _=>11-(intOf i).toNat
 case atStart=>exact⟨1,O,O,R,Y<|Rf,Y R⟩
 obtain⟨k,o,p,rfl,d,h⟩:=hrel;by_cases s:k<=10
 .have u:=T4<|bz k
  have j:Q (D2 f=if bz k=f then (k:I)else ju f (11-(k+1)) (k+1)):=Y (by
   rw[h.o,show 11-k=(11-(k+1))+1 by omega,yJ])
  have l:=Y<|Lb (k:I) ⟨O,O⟩ wr;by_cases c:bz k=f
  .have a:Q (D2 f=(k:I)):=Y (by rw[j.o,aU c]);go_wp2_with (go_at_call 54;refine l.mono ?_;rintro e g⟨rfl,b⟩;rw[b];clear b g)
   go_ret;exact⟨f9 a.symm,d⟩
  have a:Q (D2 f=ju f (11-(k+1)) (k+1)):=Y (by rw[j.o,aM c]);have q:(bz k==f)=Sn:=by rw[iS];exact c
  have r:(k:I)<=10:=O;go_wp2_with (go_at_call 54;refine l.mono ?_;rintro e g⟨rfl,b⟩;rw[b];clear b g)
  go_wp2;exact⟨⟨k+1,O,O,gM,d,a⟩,SA⟩
 have m:k=11:=O;subst m;have a:Q (D2 f=0):=Y (by rw[h.o];rfl);go_wp2;go_ret;exact⟨f9 a.symm,d⟩
def jx(f:Wn):Bool:=f==[106,117,109,112]||f==[98,114,97,110,99,104]||f==[114,101,116]
theorem yO{f:Wn}:
 Sk prog 38 #[Sg (K8 f)] w λe b=>e=Rt (Sb (jx f))/\Sw (Z w.1) w b:=by
 have c:=T4 f;have a:Q (jx f=(f==[106,117,109,112]||f==[98,114,97,110,99,104]||f==[114,101,116])):=Y R
 go_in
 go_wp2
 all_goals
  go_ret;refine⟨Xl<|Eq.trans ?_ a.symm,Rf⟩
  first|rfl|simp[*]
def eh:Wn:=[98,108,111,99,107]
def fg:Wn:=[106,117,109,112]
def ew:Wn:=[114,101,116]
def Vn:Wn:=[98,114,97,110,99,104]
def fm:Wn:=[112,104,105]
def fw:Wn:=[99,111,110,115,116]
def NJ(w:Wn)(n:N):N :=
 if D2 w≠0 then 1+(Kz<|D2 w).size else if w=eh then 1 else if w=fg then 2 else if w=ew then 2 else if w=Vn then 4 else if w=fm then (if n<3 then 3 else n)else 0
def jw(a:Vw)(i:N)(f:Wn):Bool:=if a.head?=S fw/\i=2 then NM f else decide (0<=Gb f)
def gu(a:Vw)(k:N):Bool:=(Rg k).all λi=>match a[i+1]? with|some f=>jw a (i+1) f|none=>So
def C0(a:Vw):I :=
 if NJ (a.headD []) (J a)=0 then 5 else if J a≠NJ (a.headD []) (J a) then 6 else if gu a (J a-1)=So then 0 else 7
theorem oH(w:Wn):∀(n k:N),ju w n k=0\/∃j:N,k<=j/\j<k+n/\ju w n k=j/\bz j=w
 |0,k=>bC R
 |n+1,k=>by
  rw[yJ];split;·rename_i h;exact aZ ⟨k,aA,O,R,h⟩
  obtain h|⟨j,c,d,a,b⟩:=oH w n (k+1);·exact bC h
  exact aZ ⟨j,O,O,a,b⟩
theorem oL{w:Wn}(h:D2 w≠0):(1<=D2 w/\D2 w<=10)/\w≠eh/\w≠fg/\w≠ew/\w≠Vn/\w≠fm:=by
 obtain a|⟨j,d,f,b,rfl⟩:=oH w 10 1;·exact Sz a h
 have e:D2 (bz j)=j:=b;refine⟨by rw[e];omega,?_⟩;have c:j=1\/j=2\/j=3\/j=4\/j=5\/j=6\/j=7\/j=8\/j=9\/j=10:=O;obtain rfl|rfl|rfl|rfl|rfl|rfl|rfl|rfl|rfl|rfl:=c<;>decide
theorem LW{a:Vw}(b:1<=n)(h:n<J a):gu a n=(gu a (n-1)&&jw a n a[n]):=by
 obtain⟨j,rfl⟩:∃j,n=j+1:=⟨n-1,O⟩;unfold gu;rw[dN,List.all_append,Nat.add_sub_cancel];simp[aC h]
theorem MK{a:Vw}(c:1<=n)(h:n<J a)(b:jw a n a[n]=Sn):gu a (J a-1)=Sn:=by
 unfold gu;rw[lZ];refine⟨n-1,by rw[bE];omega,?_⟩;rw[show n-1+1=n by omega,aC h];simp[b]
theorem Ml(F:Wn):∃t:N,t<7/\(D2 F != 0)=(t==0)/\(F==[98,108,111,99,107])=(t==1)/\(F==[106,117,109,112])=(t==2)/\(F==[114,101,116])=(t==3)/\(F==[98,114,97,110,99,104])=(t==4)/\(F==[112,104,105])=(t==5) /\
 ∀n,NJ F n=if t=0 then 1+(Kz<|D2 F).size else if t=1 then 1 else if t=2 then 2 else if t=3 then 2 else if t=4 then 4 else if t=5 then (if n<3 then 3 else n)else 0:=by
 by_cases a:D2 F=0
 .by_cases b:F=eh;·subst b;exact⟨1,vY,R,R,R,R,R,R,λn=>R⟩
  by_cases c:F=fg;·subst c;exact⟨2,vY,R,R,R,R,R,R,λn=>R⟩
  by_cases d:F=ew;·subst d;exact⟨3,vY,R,R,R,R,R,R,λn=>R⟩
  by_cases e:F=Vn;·subst e;exact⟨4,vY,R,R,R,R,R,R,λn=>R⟩
  by_cases f:F=fm;·subst f;exact⟨5,vY,R,R,R,R,R,R,λn=>R⟩
  exact⟨6,vY,by rw[a];rfl,iS.2 b,iS.2 c,iS.2 d,iS.2 e,iS.2 f,λn=>by unfold NJ;rw[aM λh=>h a,aM b,aM c,aM d,aM e,aM f];rfl⟩
 let⟨_,b,c,d,e,f⟩:=oL a;exact⟨0,vY,jJ.2 a,iS.2 b,iS.2 c,iS.2 d,iS.2 e,iS.2 f,λn=>aU a⟩
theorem IQ{a:Vw}(c_:N)(ha:Q (Zx w n m p<|KC a))(c:0<J a)(hn:J a<=1000001)(hB:m<=Z w.1)(al:Q (∀aj∈a,J aj<=1000000)):
 Sk prog 37 #[X p (J a) c_] w λe w'=>e=Rt (H<|C0 a)/\Sw (Z w.1) w w':=by
 have M:Q (∀i,i<J a->i<J (KC a)):=Y (λi h=>by simpa [KC]using h);obtain⟨T,V,rfl,⟨a0,ar⟩,C⟩:=ha 0<|M 0 c;have C:Cl w T V (Sg (K8 a[0])):=G C (by simp[KC]);have s:Q (a.headD []=a[0]/\a.head?=S a[0]):=Y (by cases a with|nil=>simp at c|cons a6 a5=>exact⟨R,R⟩);generalize a[0]=F at*;have L:=λw=>Y<|yZ F w;have a2:=T4 F;let⟨t,ht,P,e1,e2,e3,e4,e5,b⟩:=Ml F;have a3:=q7<|D2 F;have M_:=λw=>Y<|qX (D2 F) w;have g:Q (C0 a=if NJ F (J a)=0 then 5 else if J a≠NJ F (J a) then 6 else if gu a (J a-1)=So then 0 else 7):=Y (by unfold C0;rw[s.1]);have b:=b (J a);generalize NJ F (J a)=W at*;generalize D2 F=op at*;generalize Kz op=af at*;have a4:(1+(af.size:I)==0)=Sn:=by rw[iS];omega
 have Q_:t=0\/t=1\/t=2\/t=3\/t=4\/t=5/\J a<3\/t=5/\3<=J a\/t=6:=O;by_cases d:J a=W
 .have X_:Q (gu a (J a-1)=Sn->C0 a=7):=Y (λh=>by rw[g.o,aM O,aM λK=>K d,h];rfl);have V_:Q (gu a (J a-1)=So->C0 a=0):=Y (λh=>by rw[g.o,aM O,aM λK=>K d,h];rfl);have y:((J a:I) != (W:I))=Sn:=by rw[bne_eq_false_iff_eq];omega
  have h6:((W:I)==0)=Sn:=by rw[iS];omega
  have aa:=Y d;have I_:Q ((F==[99,111,110,115,116])=So/\a.head?=S fw\/(F==[99,111,110,115,116])=Sn/\¬a.head?=S fw):=Y (by
   rw[s.2];by_cases x:F=fw;·exact bC ⟨iA.2 x,by rw[x]⟩
   exact aZ ⟨iS.2 x,λh=>x<|gQ h⟩)
  clear d g;obtain rfl|rfl|rfl|rfl|rfl|⟨rfl,o⟩|⟨rfl,o⟩|rfl:=Q_
  all_goals
   simp only[Nat.reduceBEq,Nat.reduceEqDiff,reduceIte]at P e1 e2 e3 e4 e5 b
   (try rw[aU o]at b)
   (try rw[aM O]at b)
  all_goals (try (exfalso;have:=aa.o;omega))
  all_goals
   subst b
   (try simp only[kB,Int.cast_ofNat_Int]at y h6)
   (try have aq:¬(J a:I)<3:=O)
   obtain⟨fc,hcn⟩|⟨fc,hcn⟩:=I_.o
  all_goals
   have Z_:=Y hcn;clear s hcn I_ ht
   go_in
   go_wp2_with (first|(go_at_call 79;refine(L _).mono ?_;rintro e w1⟨rfl,v⟩)|(go_at_call 53;refine(M_ _).mono ?_;rintro e q⟨rfl,l⟩;rw[l];clear l q))
   have Y_:=Y v;clear v C y;go_wp2
   go_loopw [6] (λi wr=>∃k:N,1<=k/\k<=J a/\i=H k/\Q (Sw (Z w.1) w wr)/\Q (gu a (k-1)=So)) λi _=>J a-(intOf i).toNat
   case atStart=>exact⟨1,aA,c,R,Y_,Y R⟩
   obtain⟨k,S_,hk,rfl,r,G_⟩:=hrel;have ap:=r.4;by_cases z:k<J a
   .let⟨b',o',e',⟨_,az⟩,R_⟩:=ha k<|M k z;cases e';have a1:Cl wr T (V+k) (Sg (K8 a[k])):=G (G (XU r O) R_) (by simp[KC]);have ad:=Y<|LW S_ z;have ab:=Y<|MK S_ z;have J_:=Y<|al.o a[k] (aH z);have f:jw a k a[k]=if a.head?=S fw/\k=2 then NM a[k]else decide (0<=Gb a[k]):=R
    have T_:((k:I)==2)=decide (k=2):=by by_cases h:k=2;simp[h];rw[dJ h,iS];omega
    clear R_;generalize a[k]=j at*;cases hok:jw a k j
    all_goals
     rw[hok]at f;have K_:=Y hok;clear hok;by_cases u:k=2
    all_goals
     (first|rw[eB u]at T_|rw[dJ u]at T_)
     simp only[Z_.o,u,and_self,and_true,and_false,gG,fD]at f
     (try have ao:Gb j<0:=by have:=of_decide_eq_false f.symm;omega)
     (try have ao:¬Gb j<0:=by have:=fV f.symm;omega)
     have ac:=Y f;clear u f;go_wp2_with (first|(go_at_call 36;refine(j9 j _).mono ?_;rintro e q⟨rfl,B⟩)|(go_at_call 80;refine(IG j J_ J_ _).mono ?_;rintro e q⟨rfl,B⟩;rw[<-ac.o]))
     have H_:=Y<|r.trans (B.mono ap);clear B
     first
      |(go_ret;exact⟨f9 (X_<|ab K_).symm,H_⟩)
      |(go_wp2;exact⟨⟨k+1,O,O,gM,H_,Y<|by rw[Nat.add_sub_cancel,ad.o,G_.o,K_.o];rfl⟩,SA⟩)
   have HV:=Y (V_.o (by have:=G_.o;rwa[show k-1=J a-1 by omega]at this));go_wp2;go_ret;exact⟨f9 HV.symm,r⟩
 have E_:Q (C0 a=if W=0 then 5 else 6):=Y (by rw[g.o,aU d]);have y:((J a:I) != (W:I))=So:=by rw[jJ];omega
 clear g s;obtain rfl|rfl|rfl|rfl|rfl|⟨rfl,o⟩|⟨rfl,o⟩|rfl:=Q_
 all_goals
  simp only[Nat.reduceBEq,Nat.reduceEqDiff,reduceIte]at P e1 e2 e3 e4 e5 b
  (try rw[aU o]at b)
  (try rw[aM O]at b)
 all_goals (try (exfalso;omega))
 all_goals
  clear d;subst b
  (try simp only[kB,Int.cast_ofNat_Int]at y)
  (try have aq:¬(J a:I)<3:=O)
  (try rw[aM O]at E_)
  go_in
  go_wp2_with (first|(go_at_call 79;refine(L _).mono ?_;rintro e w1⟨rfl,v⟩)|(go_at_call 53;refine(M_ _).mono ?_;rintro e q⟨rfl,l⟩;rw[l];clear l q))
  go_ret;exact⟨f9 E_.symm,v⟩
end Go.Proofs.YtnggdhnpjfigjaaGreatDoor
