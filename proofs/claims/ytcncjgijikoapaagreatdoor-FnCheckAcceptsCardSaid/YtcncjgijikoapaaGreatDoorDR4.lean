import Derived.Test.YtcncjgijikoapaaGreatDoorTN3
namespace Go.Proofs.YtcncjgijikoapaaGreatDoor
set_option maxHeartbeats 8000000
set_option maxRecDepth 100000
open _root_ renaming Array.size->Z,List.length->J,Nat->N,Int->I,rfl->R,Option.some->S,Option.none->U,Bool.true->So,Bool.false->Sn,trivial->JV,absurd->Sz,List.range->Rg
open Go renaming World.cell?->E,World.alloc->D,World.setCell->Se,IntKind.i64->S6,Obj.cells->Sc,undef->Su,RowKit.intOf->JB,World.ownsRow->Sx,Ending.returned->Rt,Calls->Sk,results->JC
open Value renaming slice->X,int->Si,pointer->Sj,agg->Sa,bool->Sb
open Go.RowKit Go.Proofs.Tryz
variable{r:Bool}{n m k c:N}{w:Ub}{a A_:Uj}{h H_:Vu}{x:Wi}{y:Wo}
structure LI where
 j:N
 c8:Uj
 tl:Wo
def Rh(w:Ub)(g:N)(x:Yg):Prop:=Bx w g #[H x.1,H x.2,H x.a,H x.b,H x.5] 64
theorem Rh.cells{x:Yg}(h:Rh w n x):E w (A n 0)=S (H x.1)/\E w (A n 1)=S (H x.2)/\E w (A n 2)=S (H x.a)/\E w (A n 3)=S (H x.b)/\E w (A n 4)=S (H x.5):=⟨Bx.cell h R,Bx.cell h R,Bx.cell h R,Bx.cell h R,Bx.cell h R⟩
theorem Rh.set1{x:Yg}(h:Rh w n x)(d:I):Rh (Se w ⟨n,1,U⟩ (Si S6 d)) n ⟨x.1,d,x.a,x.b,x.5⟩:=by have:=Bx.set h 1<|H d;simpa [Rh]using this
theorem Rh.set2{x:Yg}(h:Rh w n x)(d:I):Rh (Se w ⟨n,2,U⟩ (Si S6 d)) n ⟨x.1,x.2,d,x.b,x.5⟩:=by have:=Bx.set h 2<|H d;simpa [Rh]using this
theorem Rh.set3{x:Yg}(h:Rh w n x)(d:I):Rh (Se w ⟨n,3,U⟩ (Si S6 d)) n ⟨x.1,x.2,x.a,d,x.5⟩:=by have:=Bx.set h 3<|H d;simpa [Rh]using this
theorem Y3{U_:Yt}(d:N->N×N×N){F:N}(av:N->Vu){top:I}{b:N}{c0 c2 c5:Uj}(hQ:Q (∀c (ao:Act) t_ m w,U_ (.panic c) (ao.put (S t_) m) w->U_ (.panic c) ao w))(hb:b<J x)(hn:Q (k=J x))(a8:Q (J x[b].2<=1000))(aq:∀(c7 A_:Uj)(y:Wo)(l:Ub),J y=161->G4 w l d n m F k c (x.set b ⟨x[b].1,x[b].2.map (me top),x[b].3⟩) h H_ av->U_ (.exit 6) ⟨(c0::Sj (S ⟨Z w.1,0,U⟩)::c2::Si S6 top::Si S6 ((b:N):I)::c5::a::c7::A_::y).toArray,[]⟩ l){wr:Ub}(L:J y=161)(ap:Q (G4 w wr d n m F k c x h H_ av)):
 Code.wp prog (Code.loop QX) U_ ⟨(c0::Sj (S ⟨Z w.1,0,U⟩)::c2::Si S6 top::Si S6 ((b:N):I)::c5::a::Si S6 ((0:N):I)::A_::y).toArray,[]⟩ wr:=by
 have HX:=Y aq;clear aq;obtain⟨M,hM⟩:∃M,M=J x[b].2:=⟨_,R⟩;have T_:=Y hM;refine iY (λV_ wr=>∃P:LI,V_=⟨(c0::Sj (S ⟨Z w.1,0,U⟩)::c2::Si S6 top::Si S6 ((b:N):I)::c5::a::Si S6 ((P.j:N):I)::P.2::P.3).toArray,[]⟩/\J P.3=161/\P.j<=M/\Q (G4 w wr d n m F k c (x.set b ⟨x[b].1,oR (me top) P.j x[b].2,x[b].3⟩) h H_ av)) (λV_ _=>M-(JB<|V_.1.getD 7 Su).toNat) ⟨⟨0,A_,y⟩,R,L,aN,Y (by
  have e:x.set b ⟨x[b].1,oR (me top) 0 x[b].2,x[b].3⟩=x:=by
   rw[y7];exact fK hb
  rw[e];exact ap.o)⟩ ?_
 clear ap L hM;rintro V_ wr⟨⟨j,A_,y⟩,rfl,L,hj,f⟩;dsimp only at L hj f |-
 conv=>arg 2;whnf
 obtain⟨bc,rfl⟩:=sW L;simp only[wK,Nat.reduceAdd];clear L;have s:b<J (x.set b ⟨x[b].1,oR (me top) j x[b].2,x[b].3⟩):=by simpa using hb
 have Q_:(x.set b ⟨x[b].1,oR (me top) j x[b].2,x[b].3⟩)[b]=⟨x[b].1,oR (me top) j x[b].2,x[b].3⟩:=MP _ _;have be:b<k:=oN hn.o;have Y_:J (x.set b ⟨x[b].1,oR (me top) j x[b].2,x[b].3⟩)[b].2=M:=by rw[Q_];exact G (WN) T_.symm
 obtain⟨ga,cp,u⟩:=(f.1.3 b s).form;rw[Y_]at u;have x1:E wr ⟨Z w.1,1,U⟩=S (X (S ⟨F,0,U⟩) k c):=Bx.cell f.6 R;have x2:E wr ⟨F,b*6+1,U⟩=S (X ga M cp):=by rw[<-u];exact(f.1.cells s).2.1
 have bd:M<=1000:=oP a8.o T_.o;by_cases a9:j<M
 .have ba:(j:I)<M:=O;have a0:j<J x[b].2:=by rw[<-T_.o];exact a9
  have au:j<J (x.set b ⟨x[b].1,oR (me top) j x[b].2,x[b].3⟩)[b].2:=O;have a2:(x.set b ⟨x[b].1,oR (me top) j x[b].2,x[b].3⟩)[b].2[j]=x[b].2[j]:=by simp only[Q_];exact zD a0 _
  obtain⟨g,bb,a1⟩:=(f.1.3 b s).got O;rw[Y_,u]at a1;injection a1 with e1 _ e3;subst e1 e3;have am:Q (∀W,G4 w W d n m F k c (x.set b ⟨x[b].1,oR (me top) j x[b].2,x[b].3⟩) h H_ av->xW (sw W g (j*5) (me top x[b].2[j])) d n (X (S ⟨F,0,U⟩) k c) (x.set b ⟨x[b].1,oR (me top) (j+1) x[b].2,x[b].3⟩) h H_ av/\d g=(3,b,0)/\Jk W g (j*5) x[b].2[j]/\(∀v,W.frozen? ⟨g,v,U⟩=Sn)/\n<=g):=Y (λW L_=>by
   obtain⟨h1,h2,h3,h4⟩:=L_.1.setIns (x:=me top x[b].2[j]) s au u;rw[a2]at h3;rw[gE,Q_]at h1;simp only[zi a0]at h1;exact⟨h1,h2,h3,h4,((L_.1.3 b s).1.lt g (by rw[u];rfl)).1⟩)
  obtain⟨-,-,⟨i0,i1,i2,i3,i4⟩,-,-⟩:=am.o wr f.o;have a3:Q (∀W,G4 w W d n m F k c (x.set b ⟨x[b].1,oR (me top) j x[b].2,x[b].3⟩) h H_ av->E W ⟨Z w.1,1,U⟩=S (X (S ⟨F,0,U⟩) k c)/\E W ⟨F,b*6+1,U⟩=S (X (S ⟨g,0,U⟩) M cp)):=Y (λW L_=>⟨Bx.cell L_.6 R,by rw[<-u];exact(L_.1.cells s).2.1⟩);clear Q_ u Y_ au s a2;generalize x[b].2[j]=t at*;go_wp2_with fail
  have Z_:=Y<|f.alloc (Sc #[Si S6 t.1,Si S6 t.2,Si S6 t.a,Si S6 t.b,Si S6 t.5] 64);have K_:Q (Rh (D wr (Sc #[Si S6 t.1,Si S6 t.2,Si S6 t.a,Si S6 t.b,Si S6 t.5] 64)) (Z wr.1) t):=Y<|Bx.new _ _ _;have S_:Q (Z w.1+2<=Z wr.1):=Y f.7.lt;clear f x1 x2 i0 i1 i2 i3 i4;generalize D wr _=wq at*;generalize Z wr.1=i at*;refine(nZ t.1 wq).mono ?_;rintro e bf⟨rfl,P_⟩;subst P_
  go_upto_if 115 with fail
  go_cut []from 93 to 145 λz=>Q (G4 w z d n m F k c (x.set b ⟨x[b].1,oR (me top) j x[b].2,x[b].3⟩) h H_ av)/\Q (Rh z i ⟨t.1,(if dB t.1=So then wrap64 (top-t.2)else t.2),t.a,t.b,t.5⟩)
  case first=>
   obtain⟨o,p,b2,q,r⟩:=Rh.cells K_.o;have bz:=Bx.thaw K_.o;cases hd:dB t.1 with
   |false=>
    go_wp2;go_meet
    try rw[aM<|show ¬dB t.1=So by rw[hd];simp]
    exact⟨Z_,K_⟩
   |true=>
    go_wp2;go_meet;rw[aU hd];refine⟨Y<|Z_.putx S_.o,Y ?_⟩;exact Rh.set1 K_.o _
  obtain⟨aa,C⟩:=hcut;clear Z_ K_;obtain⟨o,p,b2,q,r⟩:=Rh.cells C.o;go_wp2_with fail
  refine(vG t.1 wc).mono ?_;rintro e bg⟨rfl,P_⟩;subst P_;clear o p b2 q r
  go_upto_if 123 with fail
  go_cut []from 93 to 145 λz=>Q (G4 w z d n m F k c (x.set b ⟨x[b].1,oR (me top) j x[b].2,x[b].3⟩) h H_ av)/\Q (Rh z i ⟨t.1,(if dB t.1=So then wrap64 (top-t.2)else t.2),(if aB t.1=So then wrap64 (top-t.a)else t.a),t.b,t.5⟩)
  case first=>
   obtain⟨o,p,b2,q,r⟩:=Rh.cells C.o;have bz:=Bx.thaw C.o;cases hd:aB t.1 with
   |false=>
    go_wp2;go_meet
    try rw[aM<|show ¬aB t.1=So by rw[hd];simp]
    exact⟨aa,C⟩
   |true=>
    go_wp2;go_meet;rw[aU hd];refine⟨Y<|aa.putx S_.o,Y ?_⟩;exact Rh.set2 C.o _
  obtain⟨ab,T⟩:=hcut;clear aa C;obtain⟨o,p,b2,q,r⟩:=Rh.cells T.o;go_wp2_with fail
  refine(vU t.1 wc).mono ?_;rintro e bh⟨rfl,P_⟩;subst P_;clear o p b2 q r
  go_upto_if 131 with fail
  go_cut []from 93 to 145 λz=>Q (G4 w z d n m F k c (x.set b ⟨x[b].1,oR (me top) j x[b].2,x[b].3⟩) h H_ av)/\Q (Rh z i ⟨t.1,(if dB t.1=So then wrap64 (top-t.2)else t.2),(if aB t.1=So then wrap64 (top-t.a)else t.a),(if bB t.1=So then wrap64 (top-t.b)else t.b),t.5⟩)
  case first=>
   obtain⟨o,p,b2,q,r⟩:=Rh.cells T.o;have bz:=Bx.thaw T.o;cases hd:bB t.1 with
   |false=>
    go_wp2;go_meet
    try rw[aM<|show ¬bB t.1=So by rw[hd];simp]
    exact⟨ab,T⟩
   |true=>
    go_wp2;go_meet;rw[aU hd];refine⟨Y<|ab.putx S_.o,Y ?_⟩;exact Rh.set3 T.o _
  obtain⟨V,aj⟩:=hcut;clear ab T;have a6:Q (me top t=⟨t.1,(if dB t.1=So then wrap64 (top-t.2)else t.2),(if aB t.1=So then wrap64 (top-t.a)else t.a),(if bB t.1=So then wrap64 (top-t.b)else t.b),t.5⟩):=Y R;rw[<-a6.o]at aj;obtain⟨o,p,b2,q,r⟩:=Rh.cells aj.o;obtain⟨ar,N_,⟨i0,i1,i2,i3,i4⟩,hz,F_⟩:=am.o wc V.o;obtain⟨x1,x2⟩:=a3.o wc V.o;have ac:=Y ar;have O_:i≠g:=λe=>by have:=V.4 i<|oN S_.o;rw[e,N_]at this;simp at this
  have af:Q (Z w.1≠g/\F≠g):=Y ⟨λe=>by have:=V.4 (Z w.1) aA;rw[e,N_]at this;simp at this,λe=>by have:=V.1.1.2 F R;rw[e,N_]at this;simp at this⟩;have a5:=Y N_;generalize me top t=K at*;have al:=Y (have B:∀v,v≠g->(sw wc g (j*5) K).drew.1[v]?=wc.1[v]?:=λv hq=>Af hq
   And.intro (G (Xc<|B _ af.1) x1) (And.intro (G (Xc<|B _ af.2) x2) (And.intro (G (Xc<|B _ O_) o) (And.intro (G (Xc<|B _ O_) p) (And.intro (G (Xc<|B _ O_) b2) (And.intro (G (Xc<|B _ O_) q) (G (Xc<|B _ O_) r)))))))
  have ad:Q (G4 w (sw wc g (j*5) K) d n m F k c (x.set b ⟨x[b].1,oR (me top) (j+1) x[b].2,x[b].3⟩) h H_ av):=Y (V.step ac.o (λv _ e=>by
   have hq:v≠g:=λe2=>by rw[e2,a5.o]at e;simp at e
   exact Af hq) (((((((dC n wc).setCell (p:=⟨g,j*5,U⟩) F_ _).setCell (p:=⟨g,j*5+1,U⟩) F_ _).setCell (p:=⟨g,j*5+2,U⟩) F_ _).setCell (p:=⟨g,j*5+3,U⟩) F_ _).setCell (p:=⟨g,j*5+4,U⟩) F_ _)))
  unfold sw at ad al;clear ar N_ F_ ac;go_wp2_with fail
  refine Y7 (λl=>E l ⟨Z w.1,1,U⟩=S (X (S ⟨F,0,U⟩) k c)/\E l ⟨F,b*6+1,U⟩=S (X (S ⟨g,0,U⟩) M cp)/\E l ⟨i,0,U⟩=S (Si S6 K.1)/\E l ⟨i,1,U⟩=S (Si S6 K.2)/\E l ⟨i,2,U⟩=S (Si S6 K.a)/\E l ⟨i,3,U⟩=S (Si S6 K.b)/\E l ⟨i,4,U⟩=S (Si S6 K.5)) λig=>?_;refine X0 0 ?_;refine X0 1 ?_;refine X0 2 ?_;refine X0 3 ?_;refine X0 4 ?_;refine X0 5 ?_;refine X0 6 ?_;refine Xs 7 λa7 hK=>?_;go_simp;refine hK _ _ kP λig=>?_;clear hK;refine X0 8 ?_;refine Xs 9 λa7 hK=>?_;go_simp;refine hK _ _ al.o λig=>?_;clear hK;refine Yq ?_;clear ig;go_wp2_with fail
  refine⟨⟨⟨j+1,_,_⟩,R,R,(by show j+1<=M;omega),Y ?_⟩,by simp[JB];omega⟩;exact ad.drew
 have ba:¬(j:I)<M:=O;have az:j=J x[b].2:=by rw[<-T_.o];omega
 have a4:Q (G4 w wr d n m F k c (x.set b ⟨x[b].1,x[b].2.map (me top),x[b].3⟩) h H_ av):=Y (by
  have:=f.o;rw[az,zG]at this;exact this)
 clear az Q_ u s Y_;go_wp2_with fail
 exact HX.o _ _ _ _ R a4.o
structure Mf where
 b:N
 c5:Uj
 c6:Uj
 c7:Uj
 c8:Uj
 tl:Wo
theorem U5{L:Yt}(g:N->N×N×N){K:N}(av:N->Vu){top:I}{c0 c2:Uj}(hQ:Q (∀c (l:Act) u m w,L (.panic c) (l.put (S u) m) w->L (.panic c) l w))(M:Q (k=J x))(ap:k<=11)(aj:Q (∀d∈x,J d.1<=1000/\(∀am∈d.1,J am.2<=1000)/\J d.2<=1000))(U_:∀(c5 a A_ o:Uj)(y:Wo)(P:Ub),J y=161->G4 w P g n m K k c (x.map<|Ru top) h H_ av->L (.exit 0) ⟨(c0::Hn (Z w.1)::c2::H top::H ((k:N):I)::c5::a::A_::o::y).toArray,[]⟩ P){c5 o:Uj}{wr:Ub}(e:J y=161)(f:Q (G4 w wr g n m K k c x h H_ av)):
 Code.wp prog (Code.loop Ar) L ⟨(c0::Hn (Z w.1)::c2::H top::H ((0:N):I)::c5::a::A_::o::y).toArray,[]⟩ wr:=by
 have HX:=Y U_;clear U_;refine iY (λv wr=>∃d:Mf,v=⟨(c0::Hn (Z w.1)::c2::H top::H ((d.b:N):I)::d.2::d.3::d.4::d.5::d.6).toArray,[]⟩/\J d.6=161/\d.b<=k/\Q (G4 w wr g n m K k c (oR (Ru top) d.b x) h H_ av)) (λv _=>k-(JB<|v.1.getD 4 Su).toNat) ⟨⟨0,c5,a,A_,o,y⟩,R,e,aN,Y<|by rw[y7];exact f.o⟩ ?_;clear f e;rintro v wr⟨⟨b,c5,a,A_,o,y⟩,rfl,e,hb,s⟩;dsimp only at e hb s |-
 conv=>arg 2;whnf
 obtain⟨T_,rfl⟩:=sW e;simp only[wK,Nat.reduceAdd];clear e;have W:=Bx.c s.6 1;by_cases ao:b<k
 .have al:(b:I)<k:=O;have B:b<J x:=oN M.o;have p:b<J (oR (Ru top) b x):=by rw[WN];exact B
  have T:(oR (Ru top) b x)[b]=x[b]:=zD B p;have K_:=Y<|aj.o _ (aH B);go_wp2_with fail
  refine VX g av (by exact Y λc l u m w f=>hQ.o c l u m w f) p (Y<|by rw[WN];exact M.o) (Y<|by rw[T];exact⟨K_.1,K_.2.1⟩) ?_ (by rfl) s;intro c5 a y w1 e j;obtain⟨T_,rfl⟩:=sW e;simp only[wK,Nat.reduceAdd];clear e s W;rw[T]at j;have S_:=Y j;clear j;go_wp2_with fail
  have L_:b<J ((oR (Ru top) b x).set b ⟨x[b].1.map (Ld top),x[b].2,x[b].3⟩):=by rw[bL];exact p
  have V:((oR (Ru top) b x).set b ⟨x[b].1.map (Ld top),x[b].2,x[b].3⟩)[b]=⟨x[b].1.map (Ld top),x[b].2,x[b].3⟩:=MP _ _;refine Y3 g av (by exact Y λc l u m w f=>hQ.o c l u m w f) L_ (Y<|by rw[bL,WN];exact M.o) (Y<|by rw[V];exact K_.2.2) ?_ (by rfl) S_;intro A_ o y N_ e j;obtain⟨T_,rfl⟩:=sW e;simp only[wK,Nat.reduceAdd];clear e S_;rw[V,gE]at j;have i:=Y j;clear j;have z:b<J ((oR (Ru top) b x).set b ⟨x[b].1.map (Ld top),x[b].2.map (me top),x[b].3⟩):=by rw[bL];exact p
  have F:((oR (Ru top) b x).set b ⟨x[b].1.map (Ld top),x[b].2.map (me top),x[b].3⟩)[b]=⟨x[b].1.map (Ld top),x[b].2.map (me top),x[b].3⟩:=MP _ _;obtain⟨-,-,X_,Y_,-,-⟩:=i.1.cells z;rw[F]at X_ Y_;dsimp only at X_ Y_;have W:=Bx.c i.6 1;have R_:Q ((oR (Ru top) b x).set b (Ru top x[b])=oR (Ru top) (b+1) x):=Y<|zi B;obtain⟨C,V_,hz⟩:=i.1.setTerA (d:=wrap64<|top-x[b].3.a) z;rw[F,gE]at C;have ad:n<=K:=(i.1.1.1.lt K R).1;have P_:=Y (i.put C (by rw[V_];simp) ad);have aa:Q (∀Z_,E (Se N_ (A K (b*6+2+1)) Z_) (A (Z w.1) 1)=S (Hl K k c)):=Y (λZ_=>by
   have W_:=i.4 (Z w.1) aA;have n1:Z w.1≠K:=λt=>by rw[t,V_]at W_;simp at W_
   exact G (Xc<|cY n1) W)
  by_cases q:x[b].3.1=1
  .have af:(x[b].3.1 != 1)=Sn:=by simpa using q
   have r:Q (G4 w N_ g n m K k c (oR (Ru top) (b+1) x) h H_ av):=Y (by
    have t:Ru top x[b]=⟨x[b].1.map (Ld top),x[b].2.map (me top),x[b].3⟩:=by unfold Ru AV;rw[aM λf=>f q];rfl
    rw[<-R_.o,t];exact i.o)
   clear q C V F T L_ z p;generalize x[b].3.1=kd at*;go_wp2;exact⟨⟨⟨b+1,_,_,_,_,_⟩,⟨(by show(b:I)+1=((b+1:N):I);omega),R,R,R,R,R⟩,R,(by show b+1<=k;omega),r⟩,SA⟩
  have af:(x[b].3.1 != 1)=So:=by simpa using q
  have r:Q (G4 w (Se N_ (A K (b*6+3)) (H (wrap64<|top-x[b].3.a))) g n m K k c (oR (Ru top) (b+1) x) h H_ av):=Y (by
   have t:Ru top x[b]=⟨x[b].1.map (Ld top),x[b].2.map (me top),⟨x[b].3.1,wrap64<|top-x[b].3.a,x[b].3.3,x[b].3.4⟩⟩:=by unfold Ru AV;rw[aU q];rfl
   rw[<-R_.o,t];exact P_.o)
  clear q C V F T L_ z p P_;generalize x[b].3.1=kd at*;generalize x[b].3.a=ta at*;go_wp2_with fail
  refine Y7 (λP=>E P (A (Z w.1) 1)=S (Hl K k c)) λM_=>?_;refine X0 0 ?_;refine X0 1 ?_;refine X0 2 ?_;refine X0 3 ?_;refine X0 4 ?_;refine X0 5 ?_;refine X0 6 ?_;refine X0 7 ?_;refine X0 8 ?_;refine X0 9 ?_;refine Xs 10 λab hK=>?_;go_simp;refine hK _ _ kP λM_=>?_;clear hK;refine X0 11 ?_;refine X0 12 ?_;refine X0 13 ?_;refine X0 14 ?_;refine Xs 15 λab hK=>?_;go_simp;refine hK _ _ (aa.o _) λM_=>?_;clear hK;refine Yq ?_;clear M_;go_wp2_with fail
  refine⟨⟨⟨b+1,_,_,_,_,_⟩,R,R,(by show b+1<=k;omega),Y ?_⟩,SA⟩;exact r.drew
 have al:¬(b:I)<k:=O
 have ac:b=k:=O;subst ac;have r:Q (G4 w wr g n m K b c (x.map<|Ru top) h H_ av):=Y (by have:=s.o;rw[<-zG,<-M.o];exact this)
 go_wp2_with fail
 exact HX.o _ _ _ _ _ _ R r.o
theorem TC:ND:=by
 intro v B n c K e i z u av w hF r j q s M t;have k:Q (G4 w (D (D w (Sc #[H v,Hl B n c] 25)) (Sc #[H 0,Hq] 25)) e i v B n c K z u av):=Y (by have x:XW w (D (D w (Sc #[H v,Hl B n c] 25)) (Sc #[H 0,Hq] 25)) e e i (λ_=>True):=((XW.box _).trans (XW.box _)).weak λ_ _=>⟨JV,JV⟩;refine⟨hF.sp x 0 (λ_ _ _ _ _=>JV) (bC λ_ _=>JV),vT (vT Rf j _) SB _,λb d _=>G (gF _ _ _<|by simp;omega) (gF _ _ _ d),q.o,j,(Bx.new _ _ _).box _,?_⟩;have:=Bx.new (D w (Sc #[H v,Hl B n c] 25)) #[H 0,Hq] 25;rwa[aO]at this)
 clear hF
 go_in
 have C:E (D (D w (Sc #[H v,Hl B n c] 25)) (Sc #[H 0,Hq] 25)) (A (Z w.1) 0)=S (H v):=Bx.cell k.6 R;go_wp2_with fail
 generalize D (D w _) _=L at*;refine U5 e av (by exact Y λc P T v w p=>p) r s t ?_ (by rfl) k;intro c5 F V W P_ m g o;obtain⟨J_,rfl⟩:=sW g;simp only[wK,Nat.reduceAdd];clear g k C;have a:=Y o;clear o;have K_:=Bx.c a.6 0;have f1:=Bx.c a.6 1;have A_:=Bx.c a.7 0;have B_:=Bx.c a.7 1;have N_:=Bx.thaw a.7;go_wp2;refine YL (v:=Sa #[H v,Hl B n c]) ⟨R,?_,?_,?_,?_⟩;·exact a.2.trans<|((dC i m).setCell (p:=A (Z w.1+1) 0) (Nat.le_succ_of_le j) _).setCell (p:=A (Z w.1+1) 1) (Nat.le_succ_of_le j) _
 .have g:=a.4 (Z w.1+1) gX;have y:XW m (Se (Se m (A (Z w.1+1) 0) (H v)) (A (Z w.1+1) 1) (Hl B n c)) e e i (λb=>b≠Z w.1+1):=((XW.put _ _ _).trans (XW.put _ _ _)).weak λ_ d=>⟨d,d⟩;have h:∀b,(e b).1≠0->b≠Z w.1+1:=λb l f=>l (by rw[f,g]);exact a.1.sp y 0 (λb l _ _ _=>h b l) (bC λb f=>h b (by obtain f|f:=f<;>rw[f]<;>simp))
 .intro b d g;have h:b≠Z w.1+1:=O;exact G (G (cY h) (cY h)) (a.3 b d g)
 intro b d;have L_:=a.7.lt;exact a.4 b<|by simp[World.setCell]at d;omega
theorem Qs(hT:Q Jl)(s:cB)(h:Q (i9 w n k s)):
 Sk prog 29 #[Hn n,Sb r] w λe w'=>∃aj G_ a c pv iv av,e=Rt (Sa #[H (Fz s r).1.1,Hl G_ a c])/\i9 w' n k (Fz s r).2/\w.grownBy w' (S n)/\xW w' aj (Z w.1) (Hl G_ a c) (Fz s r).1.2 pv iv av/\(∀b,Z w'.1<=b->aj b=(0,0,0))/\a=J (Fz s r).1.2/\1<=a/\a<=11/\(∃V:N,(Fz s r).1.1=(V:I)/\V<=1000)/\RS (Fz s r).1.2/\pY (Fz s r).1.2:=by
 obtain⟨i0,e7,fj,fk,fl⟩:=Xq BQ;obtain⟨j0,e8,fg,fh,fi⟩:=Xq RH;have ez:Q (k<=Z w.1):=Y h.4;have a1:=Y<|h.box (Sc #[H 0,Hq] 25);have M:Q (Bx (D w (Sc #[H 0,Hq] 25)) (Z w.1) #[H 0,Hq] 25):=Y<|Bx.new _ _ _;have cg:=Y<|bW w (Sc #[H 0,Hq] 25) (S n);have ba:Q (n<Z w.1):=Y<|oP h.3 h.4;have e0:=a1.1.4;have fd:=a1.2.4;clear h
 go_in
 go_wp2_with fail
 generalize D w _=w0 at*;refine(ki s (3+s.4) w0 a1 O O).mono ?_;rintro e w1⟨rfl,g,j⟩;have a7:=kr s (n:=3+s.4) O;obtain⟨r1,s1,t⟩:∃S_ s',iw s (3+s.4)=(S_,s'):=⟨_,_,R⟩;rw[t]at g a7 |-;dsimp only at g a7 |-;obtain⟨m_,rfl⟩:=Zv a7.1;have ei:=Y t;have cc:=Y g;have co:=Y (M.grown j (by have:=ba.o;intro e;injection e;omega));have ch:=Y<|R9 cg.o j;clear g j t a1 M cg e0;have hm:m_<=9:=O;clear a7 fd;go_wp2_with fail
 refine(ki s1 2 w1 cc O O).mono ?_;rintro e w2⟨rfl,g,j⟩;obtain⟨r2,s2,t⟩:∃S_ s',iw s1 2=(S_,s'):=⟨_,_,R⟩;rw[t]at g |-;dsimp only at g |-;have ej:=Y t;have cd:=Y g;have cq:=Y (co.grown j (by have:=ba.o;intro e;injection e;omega));have bh:=Y<|R9 ch.o j;clear g j t cc co ch;have b5:(1:I)+(m_:I)=((m_+1:N):I):=O;obtain⟨a,hn⟩:∃a,a=m_+1:=⟨_,R⟩;rw[<-hn]at b5;have a8:1<=a:=O;have g5:a<=10:=O;have HN:=Y hn;clear hn;rw[b5];clear b5;obtain⟨R_,dt⟩:∃R_,(r2==0)=R_:=⟨_,R⟩;have ed:=Y dt;go_wp2_with fail
 clear dt;refine(NV s2 cd a8 O).mono ?_;rintro e w3⟨dy,rfl,g,j,ho⟩;have Z_:=Dc a a 0 s2 [];have az:=C2 a a 0 s2 [] R O λhi hj=>Sz hj sP;obtain⟨f,s3,t⟩:∃S_ s',oA a a 0 s2 []=(S_,s'):=⟨_,_,R⟩;rw[t]at g ho Z_ az;dsimp only at g ho Z_ az;rw[bO,aV]at Z_;have ek:=Y t;have cs:=Y az;have cr:=Y Z_;obtain⟨p,c,rfl,ar,e6⟩:=Xm ho O;have fe:Z w.1<=Z w2.1:=bh.4;have cl:Q (Sx w3 (Z w.1) 52 6 (Hl p a c) (J (f.map kj)) (jx LQ LQ<|f.map kj)):=Y (by
  have:=Zk ho (show Z w.1<=Z w2.1+2 by omega);rw[bK,Z_];exact this)
 have cf:=Y g;have bm:=Y (cq.grown j (by have:=ba.o;intro e;injection e;omega));have cj:=Y<|R9 bh.o j;have cm:Q (UF<|f.map kj):=Y<|C3 Z_ a8 O az;have HX:Q (a=J (f.map kj)):=Y (by simp[Z_]);clear g j t ho Z_ az ar e6 fe cd cq bh;go_wp2_with fail
 have bk:=Y<|cl.alloc (Sc #[H 0,Hl p a c] 25);have bf:=Y<|cf.box (Sc #[H 0,Hl p a c] 25);have bn:=Y<|bm.box (Sc #[H 0,Hl p a c] 25);have bg:Q (Bx (D w3 (Sc #[H 0,Hl p a c] 25)) (Z w3.1) #[H 0,Hl p a c] 25):=Y<|Bx.new _ _ _;have T_:=Y<|R9 cj.o (bW w3 (Sc #[H 0,Hl p a c] 25) (S n));have d3:Q (Z w.1<Z w3.1):=Y bm.lt;clear cl cf bm cj;generalize D w3 _=w4 at*;generalize Z w3.1=l at*;have cb:=Y<|Lw bk.o (wJ f);refine(Di 0 c cb HX aA cm).mono ?_;rintro e w5⟨da,dc,rfl,df,di⟩;have ck:=Y (CT (n:=a) da dc ((Rg a).map (Zq (X8<|f.map kj) a)) (Z w4.1) (Y<|by rw[jO];exact di) (Y sP) O aA (Y (λhs O_=>by
  obtain⟨b,_,rfl⟩:=aY.1 O_;exact⟨aJ (rr a b) O,λcw ha=>(Jo.1 ha).1⟩)))
 have be:=Y df;clear df di cb;go_wp2_with fail
 refine ck.mono ?_;rintro e P_⟨v6,rfl,dh,a9⟩;have dl:(Rg a).map (L0<|(Rg a).map (Zq (X8<|f.map kj) a))=RO (f.map kj):=by unfold RO;rw[<-HX.o]
 rw[dl]at a9;have K_:=Y<|Xg be.o dh;have U_:Q (Rz w P_ n k s3 l (Hl p a c) (f.map kj) v6 (RO<|f.map kj)):=Y ⟨bf.keep<|K_.mono bf.4,⟨G K_.1 T_.1,G K_.2 T_.2,G K_.3 T_.3,aJ T_.4 K_.4,λb q h2=>G (K_.5 b<|aX q T_.4) (T_.5 b q h2)⟩,ez.o,bn.keep<|K_.5 _ bn.lt,bg.keep<|K_.5 _ bg.lt,d3.o,S3 bk.o K_.o,by
  rw[An,<-HX.o];exact Zk a9<|aJ T_.4 be.4,wJ f⟩
 obtain⟨gi,ci,rfl⟩:∃p c,v6=Hl p a c:=by
  obtain⟨g6,c6,e,_⟩:=Xm a9 O;exact⟨_,_,e⟩
 clear a9 dl ck dh be K_ bk bf bn bg T_
 go_upto_if 41 with fail
 go_cut [8,9]from 24 to 61 λc8 _ wx=>∃(g' n' X_ fp fq:N),c8=Hl fp n' fq/\Q (Rz w wx n k (R7 r a f s3).2.2 l (Hl g' n' X_) ((R7 r a f s3).1.map kj) c8 (R7 r a f s3).2.1)
 case first=>
  cases r with
  |false=>
   go_wp2;go_meet;exact⟨p,a,c,gi,ci,R,U_⟩
  |true=>
   have ab:Q (R7 So a f s3=if 1<a then (f++[⟨1,0,1+(iw s3<|(a:I)-1).1,0⟩],RO (f.map kj)++[0],(iw s3<|(a:I)-1).2)else (f++[⟨3,0,0,0⟩],RO (f.map kj)++[0],s3)):=Y R;have ao:Q (J (f.map kj)=a/\J (RO<|f.map kj)=a):=Y ⟨HX.symm,G (An) HX.symm⟩
   go_upto_if 44 with fail
   have a4:=Y<|U_.box (Sc #[H 3,H 0,H 0,H 0] 50);have HT:Q (LZ (D P_ (Sc #[H 3,H 0,H 0,H 0] 50)) (Z P_.1) ⟨3,0,0,0⟩):=Y<|Bx.new _ _ _;have dd:Q (Z w.1<Z P_.1/\Z P_.1≠l/\Z P_.1≠p/\Z P_.1≠gi/\n≠Z P_.1):=Y (by
    have q:=U_.4.lt;have h2:=U_.5.lt;have h3:=(U_.7.lt p R).2;have h4:=(U_.8.lt gi R).2;have h5:=ba.o;omega)
   clear U_;generalize D P_ _=wt at*;generalize Z P_.1=tb at*
   go_cut []from 24 to 61 λwx=>∃(kh:Yj)(u:cB),Q (R7 So a f s3=(f++[kh],RO (f.map kj)++[0],u))/\Q (Rz w wx n k u l (Hl p a c) (f.map kj) (Hl gi a ci) (RO<|f.map kj))/\Q (LZ wx tb kh)
   case first=>
    by_cases q:1<a
    .rw[aU q]at ab;have eu:(1:I)<a:=O;go_wp2_with fail
     refine(ki s3 ((a:I)-1) wt (Y a4.1) O O).mono ?_;rintro e w7⟨rfl,g,j⟩;have O_:=kr s3 (n:=(a:I)-1) O;obtain⟨S_,s4,t⟩:∃S_ s9,iw s3 ((a:I)-1)=(S_,s9):=⟨_,_,R⟩;rw[t]at g ab O_ |-;dsimp only at g ab O_ |-;have ee:=Y<|a4.call j g;have bq:Q (LZ w7 tb ⟨3,0,0,0⟩):=Y (Bx.grown HT.o j λe=>dd.2.2.2.2<|by injection e with e;exact e.symm);clear g j t;obtain⟨t0,t1,t2,t3⟩:=LZ.cells bq.o;have tz:=Bx.thaw bq.o;go_wp2;go_meet;have i:=dd.o;exact⟨_,_,ab,Y ((((ee.put i.1 i.2.1 (λe=>i.2.2.1<|by cases e;rfl) λe=>i.2.2.2.1<|by cases e;rfl).put i.1 i.2.1 (λe=>i.2.2.1<|by cases e;rfl) λe=>i.2.2.2.1<|by cases e;rfl).put i.1 i.2.1 (λe=>i.2.2.1<|by cases e;rfl) λe=>i.2.2.2.1<|by cases e;rfl).put i.1 i.2.1 (λe=>i.2.2.1<|by cases e;rfl) λe=>i.2.2.2.1<|by cases e;rfl),Y<|LZ.put bq.o ⟨1,0,1+S_,0⟩⟩
    rw[aM q]at ab;have eu:¬(1:I)<a:=O;go_wp2;go_meet;exact⟨_,_,ab,a4,HT⟩
   obtain⟨kh,u,HE,L_,am⟩:=hcut;clear a4 HT ab;obtain⟨t0,t1,t2,t3⟩:=LZ.cells am.o;have f1:=Bx.c L_.5 1;have hc:=L_.2.4;go_wp2_with (at_builtin;refine bT _ R _ _ 23 R (Z w.1) 52 i0 (Sa #[Hq,Hq,H 0,H 0,H 0,H 0]) 6 80 underlying23 e7 fj fk fl R vY _ (J (f.map kj)) (jx LQ LQ<|f.map kj) R (L_.7.alloc _) (A (Z wc.1) 0) 1 1 [Hq,Hq,H kh.1,H kh.a,H kh.3,H kh.4] R R (World.news_of_block<|World.alloc_heap_new _ _) ?c2 ?c3 ?c4 ?c5 ?_)
   case c2=>intro gg hu;simp at hu;obtain rfl|rfl|rfl|rfl|rfl:=hu<;>rfl
   case c3=>unfold maxLen;have:=ao.o;omega
   case c4=>have:=ao.o;omega
   case c5=>simp;omega
   intro v8 w8 b6 dj fa ew;obtain⟨aq,du⟩:=(L_.box _).pushB dj b6 sP;have bl:=Y du;obtain⟨g8,c8,rfl,ar,b4⟩:=Xm b6 O;clear ar b4 fa ew b6 dj du f1;have k0:=Bx.c aq 0;have k1:=Bx.c aq 1;have kz:=Bx.thaw aq;have gh:=Y aq;clear aq;have fm:=bl.2.4;rw[Xd]at fm;go_wp2_with (at_builtin;refine bT _ R _ _ 26 R (Z w.1) 2 j0 (H 0) 1 8 underlying26 e8 fg fh fi R vY _ (J (RO<|f.map kj)) (hC<|RO (f.map kj)) R (bl.8.alloc _) (A (Z w8.1) 0) 1 1 [H 0] R R ?c1 ?c2 ?c3 ?c4 ?c5 ?_)
   case c1=>
    have:=Yf (Se w8 (A l 1) (Hl g8 (J f+1) c8)) (H 0) 2;rw[Xd]at this;exact this
   case c2=>intro gg hu;simp at hu;subst hu;rfl
   case c3=>unfold maxLen;have:=ao.o;omega
   case c4=>have:=ao.o;omega
   case c5=>simp;omega
   intro v9 w9 b7 dk fc ey;have ef:=Y<|(bl.box _).pushI dk b7 R;have e9:J (RO<|f.map kj)+1=J f+1:=by have:=ao.o;simp at this;omega
   obtain⟨g9,c9,rfl,ar,b4⟩:=Xm b7 O;clear ar b4 fc ey b7 dk;go_wp2;go_meet;rw[HE.o];rw[e9]at*;refine⟨g8,_,c8,g9,c9,R,?_⟩;dsimp only;rw[bG];exact ef
 obtain⟨G_,m,X_,cz,cx,rfl,L_⟩:=hcut;clear U_;have aa:=Y<|QV (dead:=r) (s:=s3) cr.o a8 O cs.o;have al:=Y<|Mw (U1 (dead:=r) (s:=s3) cr.o a8 cs.o);have d4:Q (R7 r a f s3=R7 r a f s3):=Y R;generalize hD:R7 r a f s3=D_ at L_ aa al;have d2:=Y hD;clear hD d4;obtain⟨ad,F,u⟩:=D_;dsimp only at L_ aa al;have af:Q (J ad=m/\J F=m):=Y (by
  have q:=L_.7;have:J (ad.map kj)=m:=by
   obtain⟨e,_⟩|⟨_,_,_,e,_⟩:=q.2;·cases e
   cases e;rfl
  have h2:=aa.1;rw[bK]at this;exact⟨this,G h2 this⟩)
 have ap:m<=11:=oP aa.o af.o;have db:1<=m:=oP aa.o af.o;have d5:Q (∀b,0<b->b<m->∃c:N,F.getD b 0=(c:I)/\c<b):=Y λb q h2=>aa.2.2.2 b q<|oN af.o;obtain⟨hv,dn⟩:=L_.start;have bd:Q (pR w (D wc (Sc #[] 61)) n k ⟨ad.map kj,[],0,u⟩ l G_ X_ (Hl (Z wc.1) 0 0) (Hl cz m cx) F):=Y ⟨_,_,_,_,_,dn⟩;have cv:Q (J (ad.map kj)=m):=Y (by have:=af.o;simpa using this.1);clear dn L_ aa cm HX;go_wp2_with fail
 generalize dx:ad.map kj=L at*;have bx:=Y dx;clear dx;generalize D wc _=wl at*;generalize Z wc.1=eb at*;have a2:Q (yE s r=((Nl (Rw R_ F m 0 ⟨L,[],0,u⟩).2 m 0 (Rw R_ F m 0 ⟨L,[],0,u⟩).1 (Rw R_ F m 0 ⟨L,[],0,u⟩).s).1,(Rw R_ F m 0 ⟨L,[],0,u⟩).v,(Nl (Rw R_ F m 0 ⟨L,[],0,u⟩).2 m 0 (Rw R_ F m 0 ⟨L,[],0,u⟩).1 (Rw R_ F m 0 ⟨L,[],0,u⟩).s).2)):=Y (by
  unfold yE;rw[ei.o];dsimp only;rw[ej.o,dM,<-HN.o];dsimp only;rw[ek.o];dsimp only;rw[d2.o,ed.o];dsimp only;rw[af.1,bx.o])
 have ec:Q (∀x∈L,J x.2<=1000):=Y (by
  rw[<-bx.o];intro x i;rw[(wJ ad x i).2];simp)
 have em:Q (Rd u):=Y (by obtain⟨_,_,_,_,_,hq⟩:=bd.o;exact hq.1.2);have eh:Q (∀x∈L,J x.1<=1000/\∀bc∈x.1,bc.2=[]):=Y (by
  rw[<-bx.o];intro x i;have:=wJ ad x i;rw[this.1];exact⟨sP,λbc hp=>Sz hp sP⟩)
 refine LA ⟨L,[],0,u⟩ (by exact Y λc cw gf dy w h=>h) ap (Y af.2) d5 ?_ (by rfl) (Y ⟨R,R,cv.o⟩) bd;intro d ve gq gr gs gt gu gv gw gz g0 g1 g2 g3 tl w7 O_ au b3 hA;obtain⟨et,rfl⟩:=pJ O_;simp only[wK,Nat.reduceAdd];clear O_ bd;have a3:Q (∀x∈d.1,J x.1<=1000/\∀bc∈x.1,bc.2=[]):=Y (by rw[au];exact Cd m 0 _ eh.o);have ea:Q (∀x∈d.1,J x.2<=1000):=Y (by rw[au];exact Dx m 0 _ em.o ec.o);have bt:Q (p8 d.1/\pP d.1):=Y (by rw[au];exact F8 m 0 _ (by show 0+m=J L;rw[cv.o];omega) al.1 al.2);rw[<-au]at a2;have Q_:=Y b3;obtain⟨fx,f7,ft,ep,es,b1⟩:=hA;obtain⟨ge,ce,dw⟩:=b1.es.got O;rw[b3.1]at dw;subst dw;have ca:Q (pR w w7 n k ⟨d.1,d.2,d.v,d.s⟩ l G_ X_ (Hl ge m ce) (Hl cz m cx) F):=Y ⟨fx,f7,ft,ep,es,b1⟩;clear b1 b3 au;go_wp2_with fail
 refine MM d.s (by exact Y λc cw gf dy w h=>h) (Y ⟨Q_.2.1,Q_.1,R⟩) ap a3 (Y λe he=>by have:=Q_.2.2.2 e he;omega) ?_ (by rfl) ca;intro s8 gm gn gp tl w8 O_ dv ev;obtain⟨et,rfl⟩:=pJ O_;simp only[wK,Nat.reduceAdd];clear O_ ca;have a0:Q (xw (Nl d.2 m 0 d.1 d.s).1):=Y (II d.2 m 0 d.1 d.s (oN Q_.o) (λ_ _ h=>Sz h O) λm_ hm _=>(a3.o _<|aH hm).2);have K:Q (J (Nl d.2 m 0 d.1 d.s).1=m):=Y<|G (En _ _ _ _) Q_.2.1;have bo:Q (RS (Nl d.2 m 0 d.1 d.s).1):=Y (MH a0.o (oN K.o) (IS d.2 m 0 d.1 d.s 1000 (oN Q_.o) λx i=>⟨(a3.o x i).1,ea.o x i⟩));have bv:Q (p8 (Nl d.2 m 0 d.1 d.s).1/\pP (Nl d.2 m 0 d.1 d.s).1):=Y<|FB d.2 m 0 d.1 d.s (oN Q_.o) bt.1 bt.2;clear bt al;have g7:d.v<=154:=oN Q_.o;rw[<-dv]at a2;generalize (Nl d.2 m 0 d.1 d.s).1=o at*;generalize d.v=V at*;obtain⟨fy,f8,fv,eq,g4,c7⟩:=ev;have br:=Y c7.toT;clear c7 dv a3 Q_;have bi:Q (Fz s r=(⟨(V:I),if (iw (iw s8 3).2 3).1=0 then Sh V (if (iw s8 3).1=0 then mf o else o)else (if (iw s8 3).1=0 then mf o else o)⟩,(iw (iw s8 3).2 3).2)):=Y (by unfold Fz;rw[a2.o]);clear a2;go_wp2_with fail
 refine(ki s8 3 w8 (Y br.1) O O).mono ?_;rintro e w9⟨rfl,g,j⟩;have C:=Y<|br.call j g;clear g j br;generalize iw s8 3=P9 at*;obtain⟨P,s9⟩:=P9;dsimp only at C bi |-
 go_upto_if 266 with fail
 go_cut []from 203 to 274 λwz=>∃aj G2 c2 pv iv av,Q<|nM w wz aj n k s9 l V G2 c2 (if P=0 then mf o else o) pv iv av
 case first=>
  by_cases v:P=0
  .have b8:(P==0)=So:=by simpa using v
   have f0:=Bx.c C.6 0;have f1:E w9 (A l 1)=S (Hl G_ m X_):=by rw[<-K.o];exact Bx.cell C.6 R
   have M:=Y v;clear v;go_wp2_with fail
   have ac:=C.9;rw[K.o]at ac;refine(hT.o V G_ m X_ o fy (Z w.1) f8 fv eq w9 (Y ac) (Y K.symm) C.2.4 (Y C.fr) a0 bo (Y bv.1) db ap).mono ?_;rintro e dz⟨ht,G',c2,hw,hh,gl,rfl,T,Y_,h0,ds⟩;have ct:=Y (C.turned T (by rw[K.o];exact Y_) h0 ds);have a5:Bx dz l #[H V,Hl G_ (J o) X_] 25:=C.6.keep<|T.5 _ C.6.lt;have k0:=Bx.c a5 0;have k1:E dz (A l 1)=S (Hl G_ m X_):=by rw[<-K.o];exact Bx.cell a5 R
   have kz:=Bx.thaw a5;clear T Y_ h0 ds a5 f0 f1 ac;rw[K.o]at ct;go_wp2;go_meet;rw[aU M.o];exact⟨_,_,_,_,_,_,ct⟩
  have b8:(P==0)=Sn:=by simpa using v
  have M:=Y v;clear v;go_wp2;go_meet;rw[aM M.o];exact⟨_,_,_,_,_,_,C⟩
 obtain⟨fz,G2,c2,ga,fw,er,am⟩:=hcut;clear C;have W_:Q (J (if P=0 then mf o else o)=m):=Y (by by_cases h:P=0;(rw[aU h,A5];exact K.o);(rw[aM h];exact K.o));have bp:Q (RS<|if P=0 then mf o else o):=Y (by by_cases h:P=0;(rw[aU h];exact Lm (oN K.o) (oN K.o) bo.o);(rw[aM h];exact bo.o));have cn:Q (pY<|if P=0 then mf o else o):=Y (by by_cases h:P=0;(rw[aU h];exact N7 bv.2);(rw[aM h];exact PQ a0.o bv.2));generalize (if P=0 then mf o else o)=B at*;clear K a0;go_wp2_with fail
 refine(ki s9 3 wc (Y am.1) O O).mono ?_;rintro e d0⟨rfl,g,j⟩;have y:=Y<|am.call j g;clear g j am;generalize iw s9 3=en at*;obtain⟨W,gb⟩:=en;dsimp only at y bi |-
 go_upto_if 271 with fail
 go_cut []from 203 to 274 λwz=>∃aj pv iv av,Q<|nM w wz aj n k gb l V G2 c2 (if W=0 then Sh V B else B) pv iv av
 case first=>
  by_cases v:W=0
  .have b8:(W==0)=So:=by simpa using v
   have f0:=Bx.c y.6 0;have f1:E d0 (A l 1)=S (Hl G2 m c2):=by rw[<-W_.o];exact Bx.cell y.6 R
   have M:=Y v;clear v;go_wp2_with fail
   have ac:=y.9;rw[W_.o]at ac;refine(TC V G2 m c2 B fz (Z w.1) ga fw er d0 (Y ac) (Y W_.symm) y.2.4 (Y y.fr) ap O bp).mono ?_;rintro e d1⟨rfl,T,Y_,hk,h0⟩;have cu:=Y (y.renamed T (by rw[W_.o];exact Y_) hk h0);have a6:Bx d1 l #[H V,Hl G2 (J B) c2] 25:=y.6.keep<|hk _ y.6.lt y.7;have k0:=Bx.c a6 0;have k1:E d1 (A l 1)=S (Hl G2 m c2):=by rw[<-W_.o];exact Bx.cell a6 R
   have kz:=Bx.thaw a6;clear T Y_ h0 hk a6 f0 f1 ac;rw[W_.o]at cu;go_wp2;go_meet;rw[aU M.o];exact⟨_,_,_,_,cu⟩
  have b8:(W==0)=Sn:=by simpa using v
  have M:=Y v;clear v;go_wp2;go_meet;rw[aM M.o];exact⟨_,_,_,_,y⟩
 obtain⟨bb,f6,fs,eo,z⟩:=hcut;clear y;have b0:Q (J (if W=0 then Sh V B else B)=m):=Y (by by_cases h:W=0;(rw[aU h,A2];exact W_.o);(rw[aM h];exact W_.o));have el:Q (RS<|if W=0 then Sh V B else B):=Y (by by_cases h:W=0;(rw[aU h];exact T3 bp.o);(rw[aM h];exact bp.o));have eg:Q (pY<|if W=0 then Sh V B else B):=Y (by by_cases h:W=0;(rw[aU h];exact Q8 cn.o);(rw[aM h];exact cn.o));generalize (if W=0 then Sh V B else B)=us at*;have f0:=Bx.c z.6 0;have f1:E wc (A l 1)=S (Hl G2 m c2):=by rw[<-b0.o];exact Bx.cell z.6 R
 have r0:=Bx.c z.4 0;have r1:=Bx.c z.4 1;have rz:=Bx.thaw z.4;go_wp2;rw[bi.o];refine cC (v:=Sa #[H V,Hl G2 m c2]) (by simp[JC,results29,go_sem,r0,r1]) R ⟨bb,G2,m,c2,f6,fs,eo,R,?_,?_,?_,?_,?_,db,ap,⟨V,R,O⟩,el.o,eg.o⟩;·exact(z.1.put z.3).put z.3
 .exact Rv (Rv z.2 aA) aA
 .have k1:XW wc (Se (Se wc (A (Z w.1) 0) (H V)) (A (Z w.1) 1) (Hl G2 m c2)) bb bb (Z w.1) (λb=>b≠Z w.1):=((XW.put _ _ _).trans (XW.put _ _ _)).weak λ_ T=>⟨T,T⟩;have nb:∀b,(bb b).1≠0->b≠Z w.1:=λb q e=>q (by rw[e,z.5]);have Y_:=z.9;rw[b0.o]at Y_;exact Y_.sp k1 0 (λb q _ _ _=>nb b q) (bC λb e=>nb b (by obtain e|e:=e<;>rw[e]<;>simp))
 .intro b T;exact z.fr b<|by simpa [World.setCell]using T
 exact b0.symm
theorem Mk:oO 8:=by
 intro V G_ a5 c_ a p k pv iv av sb Q_ w s2 a6 i b P hb pa l c ia ni ic c3 c9 tl F z;obtain⟨ba,rfl⟩:=SM F;simp only[wK,Nat.reduceAdd];clear F;obtain⟨q0,q1,q2,q3,q4,q5,qz,f0,f1,fz,a7⟩:=z.qs;obtain⟨hn,h1,bf,be,bb,hV,Z_,R_,bd,q,U_,az,bk,e,s,T_,r,ad⟩:=z
 conv=>arg 2;whnf
 have e0:((8:I)==0)=Sn:=vY;have e1:((8:I)==1)=Sn:=vY;have e2:((8:I)==2)=Sn:=vY;have e3:((8:I)==3)=Sn:=vY;have e4:((8:I)==4)=Sn:=vY;have e5:((8:I)==5)=Sn:=vY;have e6:((8:I)==6)=Sn:=vY;have e7:((8:I)==7)=Sn:=vY;have e8:((8:I)==8)=So:=vY;have e9:((8:I)==9)=Sn:=vY;have a9:((8:I)==10)=Sn:=vY
 go_upto_if 79 with fail
 go_cut []from 10 to 180 λwz=>∃L x y B,Q (RT 8 s2 a[b]=x)/\Q (jd a6 wz L k sb Q_ x (V:I) G_ a5 c_ a pv iv av b P (X pa l c) y B)/\Q (L5 V a w=⟨(V:I),a.set b y⟩)
 case first=>
  by_cases M:0<l
  .have a0:(0:I)<l:=O;have d:0<J a[b].1:=by rw[<-q.o];exact M
   have j:Q (L5 V a w=⟨(V:I),a.set b ⟨a[b].1.set 0 ⟨a[b].1[0].1,(a[b].1[0].2++[0])⟩,a[b].2,a[b].3⟩⟩):=Y (by rw[r.o,aM vY];simp[R6,yB,d]);clear r;obtain⟨gp,cp,C⟩:=(e.5).got d;rw[<-q.o]at C;injection C with e1 _ e3;subst e1 e3;have ar:=R_.o _<|aH d;have bh:=Z_.2.1 _<|aH d;obtain⟨u,t,n⟩:=(s.o 0 d).got ar;obtain⟨g,h⟩:∃g,g=J a[b].1[0].2:=⟨_,R⟩;have o:=s.o 0 d;rw[n,<-h]at o;rw[<-h]at n;have z_:=Y h;have bg:0<g:=O;have bi:g<=1000:=O;rw[h]at o;have W_:Q (Xv i p (4,b,0) k 2 1 (Hl u g t) (J a[b].1[0].2) (hC a[b].1[0].2)):=Y (by rw[h];exact o);have m:=Y n;clear o h n s;have c1:=(e.pcells d R).1;rw[m.o]at c1;clear q2 q3 q4 q5;obtain⟨af,zg,a1,bc⟩:=e.pcells d R;rw[m.o]at af;have S_:=Y e.drew;have T:Q (Xv i.drew p (4,b,0) k 2 1 (Hl u g t) (J a[b].1[0].2) (hC a[b].1[0].2)):=Y (W_.sp (⟨aA,λ_ _ _ _=>⟨R,R⟩,λal=>al⟩:XW i i.drew p p k λ_=>True) λ_ _=>JV);have bl:=e.13;have aj:=((e.alloc (Sc #[H 0] 2)).pcells d R).1;rw[m.o]at aj;go_wp2_with fail
   refine Y7 (λw'=>E w' (A P 0)=S (Hl gp l c)) λf=>?_;refine Xn 0 ?_;(iterate 5 refine Rm ?_);refine eS (rs:=[6,7]) vZ sP ?_;refine(bQ R (λK hK=>?_) (bQ R (λK hK=>?_) dY))
   focus
    go_simp;refine hK _ _ kP λf=>?_;clear hK
    try simp only[xX]
    refine Xs 7 λK hK=>?_;go_simp;refine hK _ _ kP λf=>?_;clear hK
   rotate_left
   focus
    go_simp;refine hK _ _ kP λf=>?_;clear hK
    try simp only[xX]
    refine Xs 6 λK hK=>?_;go_simp;refine hK _ _ kP λf=>?_;clear hK
   all_goals (
    refine Xs 8 λK hK=>?_;refine YI RH T.1 ?_ (oN z_.o)
    intro v8 w8 v W au D_;obtain⟨⟨L_,am,bm⟩,bn,I_⟩:=S_.push0 R d T.o W v R D_;obtain⟨g8,a8,rfl,ap,ao⟩:=Xm v O;have M_:=Bx.c L_ 0;have Y_:=Y I_;rw[m.o]at am;clear ap ao au D_ v W I_ L_;refine hK _ _ M_ λf=>?_;clear hK;refine Xn 9 ?_;refine Xn 10 ?_;refine Xs 11 λK hK=>?_;go_simp;refine hK _ _ (G (Xc<|cY a1) M_) λf=>?_;clear hK;refine Yq ?_;clear f;go_wp2
    go_meet;exact⟨_,_,_,_,Y (by simp[RT]),Y_,j⟩)
  have a0:¬(0:I)<l:=O;have d:¬0<J a[b].1:=by rw[<-q.o];exact M
  have j:Q (L5 V a w=⟨(V:I),a.set b a[b]⟩):=Y (by rw[r.o,aM vY];simp[R6,d]);go_wp2;go_meet;exact⟨_,_,_,_,Y (by simp[RT]),e,j⟩
 obtain⟨L,x,y,B,aa,ab,j⟩:=hcut;rename_i aK;exact aK _ _<|zj V av _ _ _ R hn hb T_ j (Y<|by rw[ad.o,U_.o,<-aa.o];simp[Ss,ny]) 8 az vY ab
theorem LJ:oO 9:=by
 intro V G_ a0 c_ a u q pv iv av sb W_ c s2 F L b M hb pa n T_ ia ni ic c3 c9 tl P_ X_;obtain⟨a3,rfl⟩:=SM P_;simp only[wK,Nat.reduceAdd];clear P_;obtain⟨q0,q1,q2,q3,q4,q5,qz,f0,f1,fz,a1⟩:=X_.qs;obtain⟨hn,h,a8,a6,a4,hV,ad,Y_,a5,w,ab,au,bc,f,y,Z_,x,al⟩:=X_
 conv=>arg 2;whnf
 have e0:((9:I)==0)=Sn:=vY;have e1:((9:I)==1)=Sn:=vY;have e2:((9:I)==2)=Sn:=vY;have e3:((9:I)==3)=Sn:=vY;have e4:((9:I)==4)=Sn:=vY;have e5:((9:I)==5)=Sn:=vY;have e6:((9:I)==6)=Sn:=vY;have e7:((9:I)==7)=Sn:=vY;have e8:((9:I)==8)=Sn:=vY;have e9:((9:I)==9)=So:=vY;have a2:((9:I)==10)=Sn:=vY
 go_upto_if 79 with fail
 go_cut []from 10 to 180 λwz=>∃S_ P K M_,Q (RT 9 s2 a[b]=P)/\Q (jd F wz S_ q sb W_ P (V:I) G_ a0 c_ a pv iv av b M (X pa n T_) K M_)/\Q (L5 V a c=⟨(V:I),a.set b K⟩)
 case first=>
  by_cases R_:0<n
  .have az:(0:I)<n:=O;have d:0<J a[b].1:=by rw[<-w.o];exact R_
   have k:Q (L5 V a c=⟨(V:I),a.set b ⟨a[b].1.set 0 ⟨a[b].1[0].1,(a[b].1[0].2.set 0 ((V:I)*(iw s2 2).1))⟩,a[b].2,a[b].3⟩⟩):=Y (by rw[x.o,aM vY];simp[R6,yB,d]);clear x;obtain⟨r,cp,g⟩:=(f.5).got d;rw[<-w.o]at g;injection g with e1 _ e3;subst e1 e3;have Q_:=Y_.o _<|aH d;have ba:=ad.2.1 _<|aH d;obtain⟨e,z,s⟩:=(y.o 0 d).got Q_;obtain⟨i,j⟩:∃i,i=J a[b].1[0].2:=⟨_,R⟩;have t:=y.o 0 d;rw[s,<-j]at t;rw[<-j]at s;have aa:=Y j;have a9:0<i:=O;have bb:i<=1000:=O;rw[j]at t;have p:Q (Xv L u (4,b,0) q 2 1 (Hl e i z) (J a[b].1[0].2) (hC a[b].1[0].2)):=Y (by rw[j];exact t);have v:=Y s;clear t j s y;have c1:=(f.pcells d R).1;rw[v.o]at c1;clear q2 q3 q4 q5;have ap:e≠r:=λg=>by have h:=p.2 e R;have h2:=f.5.2 r R;rw[g,h2]at h;simp at h
   have ar:M≠e:=λg=>by have h:=p.2 e R;rw[<-g,f.22]at h;simp at h
   have aq:Z F.1≠e:=λg=>by have h:=p.2 e R;rw[<-g,f.18]at h;simp at h
   go_wp2_with fail
   refine Y7 (λT=>E T (A M 0)=S (Hl r n T_)/\E T (A r 1)=S (Hl e i z)/\E T (A (Z F.1) 0)=S (H V)) λC=>?_;refine Xn 0 ?_;(iterate 7 refine Rm ?_);refine Xs 8 λam hK=>?_;go_simp
   go_at_call 12
   refine YU (ki s2 2 _ (Y f.drew.8) O O) λU_⟨O_,B⟩=>?_;have o:=Y<|f.drew.call B O_;have a7:=kr s2 (n:=2) O;have L_:Q (Xv U_ u (4,b,0) q 2 1 (Hl e i z) (J a[b].1[0].2) (hC a[b].1[0].2)):=Y ((p.sp (⟨aA,λ_ _ _ _=>⟨R,R⟩,λl=>l⟩:XW L L.drew u u q λ_=>True) λ_ _=>JV).sp (XW.grown B f.lt) λ_ _=>JV);clear O_ B;have N_:=Bx.c o.21 0;have b2:=Bx.c o.17 0;have W:=(o.pcells d R).1;rw[v.o]at W;have m:=L_.o;rw[<-aa.o]at m;have b3:E U_ (A e 0)=S (H a[b].1[0].2[0]):=m.cell (by unfold hC;simp[Q_]);have b4:=m.thaw 0;clear m;generalize m:(iw s2 2).1=r5 at*;have bd:S6.wrap ((V:I)*r5)=(V:I)*r5:=by
    have ao:r5=0\/r5=1:=O;obtain l|l:=ao;·rw[l,Int.mul_zero,dF];omega
    rw[l,Int.mul_one,dF];omega
   refine hK _ _ ⟨N_,W,b2⟩ λC=>?_;clear hK;refine Xn 9 ?_;refine Xn 10 ?_;refine Xs 11 λam hK=>?_;go_simp;refine hK _ _ ⟨G (Xc<|cY ar) N_,G (Xc<|cY (kA ap)) W,G (Xc<|cY aq) b2⟩ λC=>?_;clear hK;refine Yq ?_;clear C;go_wp2;go_meet;exact⟨_,_,_,_,Y (by simp[RT,d]),Y<|o.setA (m:=0) (z:=(V:I)*r5) d L_.o v.o,k⟩
  have az:¬(0:I)<n:=O;have d:¬0<J a[b].1:=by rw[<-w.o];exact R_
  have k:Q (L5 V a c=⟨(V:I),a.set b a[b]⟩):=Y (by rw[x.o,aM vY];simp[R6,d]);go_wp2;go_meet;exact⟨_,_,_,_,Y (by simp[RT,d]),f,k⟩
 obtain⟨S_,P,K,M_,af,aj,k⟩:=hcut;rename_i aK;exact aK _ _<|zj V av _ _ _ R hn hb Z_ k (Y<|by rw[al.o,ab.o,<-af.o];simp[Ss,ny]) 9 au vY aj
theorem Ml:oO 10:=by
 intro V G_ aj c_ a c u pv iv av sb N_ w s2 al y b M hb pa l L ia ni ic c3 c9 tl P T;obtain⟨ap,rfl⟩:=SM P;simp only[wK,Nat.reduceAdd];clear P;obtain⟨q0,q1,q2,q3,q4,q5,qz,f0,f1,fz,am⟩:=T.qs;obtain⟨hn,h1,a2,a0,ar,hV,R_,O_,az,r,Q_,aa,a7,j,t,P_,s,U_⟩:=T
 conv=>arg 2;whnf
 have e0:((10:I)==0)=Sn:=vY;have e1:((10:I)==1)=Sn:=vY;have e2:((10:I)==2)=Sn:=vY;have e3:((10:I)==3)=Sn:=vY;have e4:((10:I)==4)=Sn:=vY;have e5:((10:I)==5)=Sn:=vY;have e6:((10:I)==6)=Sn:=vY;have e7:((10:I)==7)=Sn:=vY;have e8:((10:I)==8)=Sn:=vY;have e9:((10:I)==9)=Sn:=vY;have ao:((10:I)==10)=So:=vY
 go_upto_if 79 with fail
 go_cut []from 10 to 180 λwz=>∃K x z C,Q (RT 10 s2 a[b]=x)/\Q (jd al wz K u sb N_ x (V:I) G_ aj c_ a pv iv av b M (X pa l L) z C)/\Q (L5 V a w=⟨(V:I),a.set b z⟩)
 case first=>
  by_cases W:0<l
  .have ab:(0:I)<l:=O;have d:0<J a[b].1:=by rw[<-r.o];exact W
   have i:Q (L5 V a w=⟨(V:I),a.set b ⟨a[b].1.set 0 ⟨a[b].1[0].1,(a[b].1[0].2.drop 1)⟩,a[b].2,a[b].3⟩⟩):=Y (by rw[s.o,aM vY];simp[R6,yB,d]);clear s;obtain⟨Z_,cp,m⟩:=(j.5).got d;rw[<-r.o]at m;injection m with e1 _ e3;subst e1 e3;have F:=O_.o _<|aH d;have a4:=R_.2.1 _<|aH d;obtain⟨k,g,n⟩:=(t.o 0 d).got F;obtain⟨e,h⟩:∃e,e=J a[b].1[0].2:=⟨_,R⟩;have p:=t.o 0 d;rw[n,<-h]at p;rw[<-h]at n;have f:=Y h;have a3:0<e:=O;have a6:e<=1000:=O;rw[h]at p;have B:Q (Xv y c (4,b,0) u 2 1 (Hl k e g) (J a[b].1[0].2) (hC a[b].1[0].2)):=Y (by rw[h];exact p);have A_:=Y n;clear p h n t;have c1:=(j.pcells d R).1;rw[A_.o]at c1;clear q2 q3 q4 q5;obtain⟨Y_,zg,af,au⟩:=j.pcells d R;rw[A_.o]at Y_;have a5:(1:I)<=e:=O;have a1:e<=g:=by obtain⟨aq,cc,m,_,hc⟩:=Xm B.1 F;injection m with _ _ e3;rw[e3,f.o];exact hc
   have q:Q (S7 y.drew c (4,b,0) u (X (if g=1 then S (A k 0)else S (A k 1)) (e-1) (g-1)) (a[b].1[0].2.drop 1)):=Y (by refine⟨_,_,by rw[mF,<-f.o],λI_ hi=>?_⟩;rw[mF,<-f.o]at hi;rw[aM O];have o:=B.o;rw[<-f.o]at o;refine⟨k,1,R,o.blk.1,o.blk.2,?_⟩;have ad:E y (A k (1+I_))=S (H (a[b].1[0].2[1+I_]'(by rw[<-f.o];omega))):=o.cell (by unfold hC;rw[dX,aC<|by rw[<-f.o];omega];rfl);rw[List.getElem_drop];exact ad)
   by_cases D_:g=1
   focus
    rw[aU D_,show g-1=0 by omega]at q
   rotate_left
   focus
    rw[aM D_]at q
   all_goals (
    go_wp2_with fail
    refine Y7 (λw'=>E w' (A M 0)=S (Hl Z_ l L)) λv=>?_;refine Xn 0 ?_;(iterate 5 refine Rm ?_);refine Xs 6 λW_ hK=>?_;go_simp;refine hK _ _ kP λv=>?_;clear hK;refine Xn 7 ?_;refine Xn 8 ?_;refine Xn 9 ?_;refine Xs 10 λW_ hK=>?_;go_simp;refine hK _ _ (G (Xc<|cY af) q0) λv=>?_;clear hK;refine Yq ?_;clear v;go_wp2
    go_meet;exact⟨_,_,_,_,Y (by simp[RT]),Y<|j.drew.setPh (j:=0) R d q.o,i⟩)
  have ab:¬(0:I)<l:=O;have d:¬0<J a[b].1:=by rw[<-r.o];exact W
  have i:Q (L5 V a w=⟨(V:I),a.set b a[b]⟩):=Y (by rw[s.o,aM vY];simp[R6,d]);go_wp2;go_meet;exact⟨_,_,_,_,Y (by simp[RT]),j,i⟩
 obtain⟨K,x,z,C,S_,T_,i⟩:=hcut;rename_i aK;exact aK _ _<|zj V av _ _ _ R hn hb P_ i (Y<|by rw[U_.o,Q_.o,<-S_.o];simp[Ss,ny]) 10 aa vY T_
end Go.Proofs.YtcncjgijikoapaaGreatDoor
