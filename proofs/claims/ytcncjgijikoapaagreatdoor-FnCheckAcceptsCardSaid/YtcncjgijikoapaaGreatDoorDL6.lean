import Derived.Test.YtcncjgijikoapaaGreatDoorMA0
namespace Go.Proofs.YtcncjgijikoapaaGreatDoor
set_option maxHeartbeats 8000000
set_option maxRecDepth 100000
open _root_ renaming Array.size->Z,List.length->J,Nat->N,Int->I,rfl->R,Option.some->S,Option.none->U,trivial->JV
open Go renaming World.cell?->E,World.ownsRow->Sx,undef->Su,RowKit.intOf->JB
open Value renaming slice->X
open Go.RowKit Go.Proofs.Tryz
variable{n m k B g i j c:N}{w:Ub}{a A_:Uj}{p:Uy}{l:Wc}{x:Wi}{y:Wo}
structure SQ where
 k:N
 acc:Wc
 s:cB
 tl:Wo
theorem PT{ao:Yt}(w:Ub)(N_:N)(vals v c:N){h:Tm}(U_:Uj)(R_:Wc){preds:Wc}{d e ad:N}(T_:cB){c1 c2 c3 c4 c5 c9 az a0 a1 a2 a3 a4 a5 a6 a7:Uj}(hQ:Q (∀c (bk:Act) t_ v_ w,ao (.panic c) (bk.put (S t_) v_) w->ao (.panic c) bk w))(hi:d<J x)(hj:e<J x[d].1)(hN:Q (J x=ad/\J h=B/\J preds=i))(dj:ad<=11/\i<=1000)(bo:Q (J x[d].1[e].2<=1000))(c7:Q (∀df∈preds,∃l:N,df=(l:I)/\l<B))(cu:Q (∀u∈h,0<J u/\J u<=4000))(bx:∀(P:cB)(y:Wo)(M:Ub),J y=251->P=(RV h preds T_ x[d].1[e].2).2->(∃q b t av C,CK w M q n N_ P m vals v c (x.set d<|x[d].setPhi e ⟨x[d].1[e].1,(RV h preds T_ x[d].1[e].2).1⟩) b t av (Hl k B g) C h U_ R_/\Sy w M q p preds)->ao (.exit 10) ⟨(Hn n::c1::c2::c3::c4::c5::a::Hn m::A_::c9::Hl k B g::az::a0::a1::a2::a3::a4::a5::a6::a7::H ((d:N):I)::X p i j::H ((e:N):I)::H ((i:N):I)::y).toArray,[]⟩ M){wr:Ub}(Y_:J y=251)(bl:Q (∃q b t av C,CK w wr q n N_ T_ m vals v c (x.set d<|x[d].setPhi e ⟨x[d].1[e].1,x[d].1[e].2⟩) b t av (Hl k B g) C h U_ R_/\Sy w wr q p preds)):
 Code.wp prog (Code.loop Ny) ao ⟨(Hn n::c1::c2::c3::c4::c5::a::Hn m::A_::c9::Hl k B g::az::a0::a1::a2::a3::a4::a5::a6::a7::H ((d:N):I)::X p i j::H ((e:N):I)::H ((0:N):I)::y).toArray,[]⟩ wr:=by
 have HX:=Y bx;clear bx;refine iY (λa' wr=>∃z:SQ,a'=⟨(Hn n::c1::c2::c3::c4::c5::a::Hn m::A_::c9::Hl k B g::az::a0::a1::a2::a3::a4::a5::a6::a7::H ((d:N):I)::X p i j::H ((e:N):I)::H ((z.k:N):I)::z.4).toArray,[]⟩/\J z.4=251/\z.k<=i/\Q (RV h (preds.drop z.k) z.s z.2=RV h preds T_ x[d].1[e].2/\J z.2<=1000+z.k)/\Q (∃q b t av C,CK w wr q n N_ z.s m vals v c (x.set d<|x[d].setPhi e ⟨x[d].1[e].1,z.2⟩) b t av (Hl k B g) C h U_ R_/\Sy w wr q p preds)) (λa' _=>i-(JB<|a'.1.getD 23 Su).toNat) ⟨⟨0,x[d].1[e].2,T_,y⟩,R,Y_,aN,Y ⟨by rw[zC],by have:=bo.o;show J x[d].1[e].2<=1000+0;omega⟩,bl⟩ ?_;clear bl Y_ bo;rintro a' wr⟨⟨o,f,P,y⟩,rfl,Y_,hk,HE,HS⟩;dsimp only at Y_ hk HE HS |-
 conv=>arg 2;whnf
 obtain⟨di,rfl⟩:=pJ Y_;simp only[wK,Nat.reduceAdd];clear Y_;by_cases dt:o<i
 .have cz:(o:I)<i:=O;have am:o<J preds:=oN hN.o;obtain⟨q,b,t,av,C,hF,hP⟩:=HS.o;obtain⟨O_,S_,cn,cq,co,bt⟩:=hP o am;obtain⟨l,r,cs⟩:=c7.o preds[o] (aH am);have T:l<J h:=oN hN.o
  subst cn;have bi:Q (∀q W,Sy w W q (S ⟨O_,S_,U⟩) preds->E W (A O_ (S_+o))=S (H l)):=Y (λq W hp=>by obtain⟨b',o',u,_,_,hc⟩:=hp o am;cases u;rw[<-r];exact hc)
  have F:d<J (x.set d<|x[d].setPhi e ⟨x[d].1[e].1,f⟩):=by simpa using hi
  have b6:(x.set d<|x[d].setPhi e ⟨x[d].1[e].1,f⟩)[d]=x[d].setPhi e ⟨x[d].1[e].1,f⟩:=MP _ _;have Q_:e<J (x.set d<|x[d].setPhi e ⟨x[d].1[e].1,f⟩)[d].1:=by rw[b6];simpa [Xe.setPhi]using hj
  have aj:J (x.set d<|x[d].setPhi e ⟨x[d].1[e].1,f⟩)=ad:=by rw[bL];exact hN.1
  have ap:((x.set d<|x[d].setPhi e ⟨x[d].1[e].1,f⟩)[d].1[e]).2=f:=by simp only[Xe.setPhi,MP]
  have cl:Q (((x.set d<|x[d].setPhi e ⟨x[d].1[e].1,f⟩)[d].1[e]).1=x[d].1[e].1):=Y (by simp only[Xe.setPhi,MP]);obtain⟨af,cp,bf⟩:=(hF.9.2 d F).got O;obtain⟨np,b3⟩:∃np,np=J (x.set d<|x[d].setPhi e ⟨x[d].1[e].1,f⟩)[d].1:=⟨_,R⟩;rw[<-b3]at bf;have Z_:=bf;obtain⟨aa,ac,ba⟩:=(hF.9.4 d F e Q_).form;obtain⟨al,bq⟩:∃al,al=J ((x.set d<|x[d].setPhi e ⟨x[d].1[e].1,f⟩)[d].1[e]).2:=⟨_,R⟩;rw[<-bq]at ba;have V:=ba;obtain⟨ea,ec,bc⟩:=(hF.11 l T).form;obtain⟨el,bb⟩:∃el,el=J h[l]:=⟨_,R⟩;rw[<-bb]at bc;have X_:=bc;obtain⟨RI,bm⟩:∃au,au=iw P 3:=⟨_,R⟩;obtain⟨dh,s1⟩:=RI;have b4:=bm.symm;obtain⟨NB,bn⟩:∃au,au=Mi s1 h[l] (dh != 0):=⟨_,R⟩;obtain⟨xn,s2⟩:=NB;have b5:=bn.symm;clear bm bn;have ce:Q (RV h (preds.drop<|o+1) s2 (f++[xn])=RV h preds T_ x[d].1[e].2/\J (f++[xn])<=1000+(o+1)):=Y (by have h1:=HE.o;rw[gZ am,RV,r,dM,show h.getD l []=h[l] by simp[T],b4]at h1;dsimp only at h1;rw[b5]at h1;exact⟨h1.1,by rw[aQ];show J f+1<=_;omega⟩)
  have ci:Q (∀W L,CK w W q n N_ L m vals v c (x.set d<|x[d].setPhi e ⟨x[d].1[e].1,f⟩) b t av (Hl k B g) C h U_ R_->Xf W (Z w.1) (Z W.1) ea h[l]):=Y (λW L hh=>by have:=hh.11 l T;rw[X_]at this;exact this.ints)
  have ch:Q (∀W L,CK w W q n N_ L m vals v c (x.set d<|x[d].setPhi e ⟨x[d].1[e].1,f⟩) b t av (Hl k B g) C h U_ R_->Sx W (Z w.1) 2 1 (X aa al ac) (J f) (hC f)):=Y (λW L hh=>by have:=(hh.9.4 d F e Q_).1;rw[V,ap]at this;exact this)
  have cc:Q (∀W L,CK w W q n N_ L m vals v c (x.set d<|x[d].setPhi e ⟨x[d].1[e].1,f⟩) b t av (Hl k B g) C h U_ R_->Z w.1<=af/\af<Z W.1):=Y (λW L hh=>by have:=hh.9.2 d F;rw[Z_]at this;exact this.1.lt af R)
  have cm:Q (((x.set d<|x[d].setPhi e ⟨x[d].1[e].1,f⟩)).set d ((x.set d<|x[d].setPhi e ⟨x[d].1[e].1,f⟩)[d].setPhi e ⟨((x.set d<|x[d].setPhi e ⟨x[d].1[e].1,f⟩)[d].1[e]).1,((x.set d<|x[d].setPhi e ⟨x[d].1[e].1,f⟩)[d].1[e]).2++[xn]⟩)=(x.set d<|x[d].setPhi e ⟨x[d].1[e].1,(f++[xn])⟩)):=Y (by rw[cl.o,ap,b6,gE];simp[Xe.setPhi])
  have bg:Q (J f<=2000):=Y<|oN HE.2;have ca:Q (el=J h[l]):=Y bb;have ct:el<=5000:=oN<|cu.o _ (aH T);have b8:Q (S (H l)=S (H preds[o])):=Y (by rw[r]);have c8:n<Z w.1:=hF.lt;have ds:e<np:=O;have dn:d<ad:=oN hN.o;have dk:l<B:=cs;obtain⟨x1,x2,x3,x4⟩:=hF.facts F Q_ Z_ R T;rw[aj]at x1;rw[V]at x3;rw[X_]at x4;have x5:E wr (A O_ (S_+o))=S (H l):=by rw[<-r];exact bt
  have aq:Q (CK w wr.drew q n N_ P m vals v c (x.set d<|x[d].setPhi e ⟨x[d].1[e].1,f⟩) b t av (Hl k B g) C h U_ R_):=Y<|hF.belowF (Rf).drew;have cg:Q (Sy w wr.drew q (S ⟨O_,S_,U⟩) preds):=Y hP;clear hF hP HS bf ba bc bt co cq bb r bq b3;go_wp2_with fail
  refine Y7 (λM=>E M (A m 1)=S (Hl v ad c)/\E M (A v (d*6))=S (Hl af np cp)/\E M (A O_ (S_+o))=S (H l)/\E M (A k l)=S (X ea el ec)) λs=>?_;refine X0 0 ?_;refine X0 1 ?_;refine X0 2 ?_;refine X0 3 ?_;refine X0 4 ?_;refine X0 5 ?_;refine X0 6 ?_;refine X0 7 ?_;refine X0 8 ?_;refine X0 9 ?_;refine X0 10 ?_;refine X0 11 ?_;refine X0 12 ?_;refine X0 13 ?_;refine X0 14 ?_;refine X0 15 ?_;refine X0 17 ?_;refine X0 18 ?_;refine X0 19 ?_;refine X0 20 ?_;refine X0 21 ?_;refine X0 22 ?_;refine X0 23 ?_;refine X0 24 ?_;refine X0 25 ?_;refine X0 26 ?_;refine eS (rs:=[16,27]) vZ sP ?_;refine(bQ R (λK hK=>?_) (bQ R (λK hK=>?_) dY));go_simp;refine hK _ _ kP λs=>?_;clear hK
  try simp only[xX]
  refine Xs 27 λK hK=>?_
  all_goals (
   go_simp
   go_at_call 12
   refine YU (ki P 3 _ (Y aq.1) O O) λw1⟨r,P_⟩=>?_;rw[b4]at r |-;dsimp only at r |-;have ab:=Y<|aq.call P_ r;have bh:=Y (cg.sp (XW.grown P_ aq.lt) λ_ _ _=>JV);obtain⟨y1,y2,y3,y4⟩:=ab.facts F Q_ Z_ R T;rw[aj]at y1;rw[V]at y3;rw[X_]at y4;have y5:E w1 (A O_ (S_+o))=S (H l):=bi.o _ _ bh.o;clear r P_;refine hK _ _ ⟨y1,y2,y5,y4⟩ λs=>?_;clear hK;refine X0 28 ?_;skip)
  refine Xs 29 λK hK=>?_;rotate_left;refine eS (rs:=[16,29]) vZ sP ?_;refine(bQ R (λK hK=>?_) (bQ R (λK hK=>?_) dY));go_simp;refine hK _ _ kP λs=>?_;clear hK
  try simp only[xX]
  refine Xs 29 λK hK=>?_
  all_goals (
   go_simp
   go_at_call 70
   have cd:=Y<|ci.o _ _ ab.o;refine YU (zp s1 (Y ab.1) cd ca ct c8 aA) λw2⟨r,P_⟩=>?_;rw[b5]at r |-;dsimp only at r |-;have V_:=Y<|ab.call P_ r;have ar:=Y (bh.sp (XW.grown P_ ab.lt) λ_ _ _=>JV);obtain⟨z1,z2,z3,z4⟩:=V_.facts F Q_ Z_ R T;rw[aj]at z1;rw[V]at z3;rw[X_]at z4;have z5:E w2 (A O_ (S_+o))=S (H l):=bi.o _ _ ar.o;have du:=V_.2.4;have dl:af<Z w2.1:=(cc.o _ _ V_.o).2;clear r P_;refine hK _ _ ⟨z1,z2,z5,z4⟩ λs=>?_;clear hK;skip)
  refine Xs 30 λK hK=>?_;go_simp;refine hK _ _ kP λs=>?_;clear hK;rotate_left;refine eS (rs:=[16,30]) vZ sP ?_;refine(bQ R (λK hK=>?_) (bQ R (λK hK=>?_) dY));go_simp;refine hK _ _ kP λs=>?_;clear hK
  try simp only[xX]
  refine Xs 30 λK hK=>?_;go_simp;refine hK _ _ kP λs=>?_;clear hK;rotate_left;go_simp;refine hK _ _ kP λs=>?_;clear hK
  try simp only[xX]
  refine Xs 16 λK hK=>?_;go_simp;refine hK _ _ kP λs=>?_;clear hK;rotate_left;refine Xs 30 λK hK=>?_;go_simp;refine hK _ _ kP λs=>?_;clear hK
  all_goals (
   refine Xs 31 λK hK=>?_;refine YI RH (ch.o _ _ V_.o) ?_ (oN bg.o)
   intro v8 w8 be bd c6 br;obtain⟨a8,a9⟩:=(V_.box _).held8 F Q_ Z_ R T (ar.sp (XW.box _) λ_ _ _=>JV) am b8.o (by rw[V];exact bd);obtain⟨⟨bv,dd⟩,dv,b0,b7⟩:=(V_.box _).pushArg (x:=xn) F Q_ Z_ (by rw[V];exact bd) (by rw[ap];exact be) (by rw[ap]) (by rw[V];simpa using br);have cf:=Y ((ar.sp (XW.box _) λ_ _ _=>JV).sp b7 λb_ u _=>by rw[u];simp);rw[aj,X_]at a8;simp only[aj,X_]at a9;rw[V]at bv;have cj:=Y a8;have ck:=Y a9;have cb:=Y b0;obtain⟨g8,A_,rfl,cv,cr⟩:=Xm be O;clear a8 a9 b0 b7 cv cr c6 br be bd;refine hK _ _ cj.o λs=>?_;clear hK;refine X0 32 ?_;refine X0 33 ?_;refine Xs 34 λK hK=>?_;go_simp;refine hK _ _ (ck.o _ _) λs=>?_;clear hK;refine Yq ?_;clear s bv dd;go_wp2_with fail
   refine⟨⟨⟨o+1,f++[xn],s2,_⟩,R,R,(by show o+1<=i;omega),ce,Y ?_⟩,SA⟩;have b1:=cb.o;rw[cm.o]at b1;exact⟨_,_,_,_,_,b1,cf.o⟩)
 have cz:¬(o:I)<i:=O;have cx:o=i:=O;subst cx;go_wp2_with fail
 have u:=HE.1;rw[List.drop_of_length_le<|oN hN.o]at u;have e1:(f,P)=RV h preds T_ x[d].1[e].2:=u;refine HX.o P _ _ R (by rw[<-e1]) ?_;rw[<-e1];exact HS.o
structure Ro where
 j:N
 k:N
 ps:Za
 s:cB
 c23:Uj
 tl:Wo
theorem Ta{V:Yt}(w:Ub)(F:N)(vals K c:N){f:Tm}(W:Uj)(R_:Wc){am:N}(preds:Wc){b:N}(L:N)(v:cB){c1 c2 c3 c4 c5 c9 U_ V_ W_ X_ Y_ Z_ aa ab ac:Uj}(hQ:Q (∀c (I_:Act) ao ap w,V (.panic c) (I_.put (S ao) ap) w->V (.panic c) I_ w))(hi:b<J x)(hN:Q (J x=L/\J f=g/\J preds=j))(a6:L<=11/\j<=1000)(az:Q (∀bg∈x[b].1,bg.2=[]))(be:Q (∀bh∈preds,∃aq:N,bh=(aq:I)/\aq<g))(a7:Q (∀ar∈f,0<J ar/\J ar<=4000))(bd:Q (J x[b].1<=1000))(a0:∀(s:cB)(a4 C:Uj)(y:Wo)(T_:Ub),J y=251->s=(Rx f preds (J x[b].1) 0 x[b].1 v).2->(∃o u t av z,CK w T_ o n F s k vals K c (x.set b ⟨(Rx f preds (J x[b].1) 0 x[b].1 v).1,x[b].2,x[b].3⟩) u t av (Hl B g i) z f W R_/\Sy w T_ o p preds)->V (.exit 8) ⟨(Hn n::c1::c2::c3::c4::c5::a::Hn k::A_::c9::Hl B g i::U_::V_::W_::X_::Y_::Z_::aa::ab::ac::H ((b:N):I)::X p j am::a4::C::y).toArray,[]⟩ T_){C:Uj}{wr:Ub}(l:J y=251)(K_:Q (∃o u t av z,CK w wr o n F v k vals K c (x.set b ⟨x[b].1,x[b].2,x[b].3⟩) u t av (Hl B g i) z f W R_/\Sy w wr o p preds)):
 Code.wp prog (Code.loop Ew) V ⟨(Hn n::c1::c2::c3::c4::c5::a::Hn k::A_::c9::Hl B g i::U_::V_::W_::X_::Y_::Z_::aa::ab::ac::H ((b:N):I)::X p j am::H ((0:N):I)::C::y).toArray,[]⟩ wr:=by
 have HX:=Y a0;clear a0;obtain⟨M,L_⟩:∃M,M=J x[b].1:=⟨_,R⟩;refine iY (λJ_ wr=>∃h:Ro,J_=⟨(Hn n::c1::c2::c3::c4::c5::a::Hn k::A_::c9::Hl B g i::U_::V_::W_::X_::Y_::Z_::aa::ab::ac::H ((b:N):I)::X p j am::H ((h.j:N):I)::h.5::h.6).toArray,[]⟩/\J h.6=251/\h.j+h.k=M/\Q (Rx f preds h.k h.j h.3 h.s=Rx f preds (J x[b].1) 0 x[b].1 v/\J h.3=M/\∀m (O_:m<J h.3),h.j<=m->h.3[m].2=[])/\Q (∃o u t av z,CK w wr o n F h.s k vals K c (x.set b ⟨h.3,x[b].2,x[b].3⟩) u t av (Hl B g i) z f W R_/\Sy w wr o p preds)) (λJ_ _=>M-(JB<|J_.1.getD 22 Su).toNat) ⟨⟨0,M,x[b].1,v,C,y⟩,R,l,by show 0+M=M;omega,Y ⟨by rw[L_],L_.symm,λm O_ _=>az.o _<|aH O_⟩,K_⟩ ?_;have HM:=Y L_;clear K_ l az L_;rintro J_ wr⟨⟨e,P,d,s,C,y⟩,rfl,l,a9,q,H_⟩;dsimp only at l a9 q H_ |-
 conv=>arg 2;whnf
 obtain⟨a5,rfl⟩:=pJ l;simp only[wK,Nat.reduceAdd];clear l;obtain⟨o,u,t,av,z,hF,hP⟩:=H_.o;have ad:b<J (x.set b ⟨d,x[b].2,x[b].3⟩):=by simpa using hi
 have T:(x.set b ⟨d,x[b].2,x[b].3⟩)[b]=⟨d,x[b].2,x[b].3⟩:=MP _ _;have au:J (x.set b ⟨d,x[b].2,x[b].3⟩)=L:=by rw[bL];exact hN.1
 have x1:E wr (A k 1)=S (Hl K L c):=by rw[<-au];exact Bx.cell hF.6 R
 obtain⟨gp,cp,P_⟩:=(hF.9.2 b ad).form;rw[T]at P_;have aj:J d=M:=q.2.1;rw[show J (⟨d,x[b].2,x[b].3⟩:Xe).1=M from aj]at P_;have x2:E wr (A K (b*6))=S (X gp M cp):=by refine hF.9.1.cell ?_;unfold jx;have:=Xz (f:=λb (h:Xe)=>L7 (u b) (t b) h.3) (sz:=6) (λ_ _=>R) 0 _ b ad 0 vY;rw[fW,aV]at this;rw[this,<-P_];rfl
 have bk:b<L:=oN hN.o;have bi:M<=1000:=oP bd.o HM.o;clear hF hP P_;cases P with
 |succ P=>
  have bb:(e:I)<M:=O;have af:e<J d:=O;have a8:e<J (x.set b ⟨d,x[b].2,x[b].3⟩)[b].1:=by rw[T];exact af
  have al:(x.set b ⟨d,x[b].2,x[b].3⟩)[b].1[e]=d[e]:=by simp only[T]
  clear aj;go_wp2_with fail
  refine PT w F vals K c W R_ s (by exact Y λc I_ ao ap w K_=>hQ.o c I_ ao ap w K_) ad a8 (Y ⟨au,hN.2⟩) a6 (Y<|by rw[al,q.2.2 e af aA];simp) be a7 ?_ (by rfl) (Y ?_)
  .intro s' y T_ l a1 r;obtain⟨a5,rfl⟩:=pJ l;simp only[wK,Nat.reduceAdd];clear l;have HF:=Y r;have a3:=Y a1;clear r a1 x1 x2;go_wp2_with fail
   have e0:d.getD e Rl=d[e]:=by simp[af]
   have e1:Rx f preds P (e+1) (d.set e ⟨d[e].1,(RV f preds s d[e].2).1⟩) (RV f preds s d[e].2).2=Rx f preds (J x[b].1) 0 x[b].1 v:=by have:=q.1;rw[Rx,e0]at this;exact this
   have r:=HF.o;have a2:=a3.o;rw[al]at r a2;rw[a2]at r;rw[show((x.set b ⟨d,x[b].2,x[b].3⟩)).set b ((x.set b ⟨d,x[b].2,x[b].3⟩)[b].setPhi e ⟨d[e].1,(RV f preds s d[e].2).1⟩)=(x.set b ⟨(d.set e ⟨d[e].1,(RV f preds s d[e].2).1⟩),x[b].2,x[b].3⟩)from by rw[T,gE];rfl]at r;refine⟨⟨⟨e+1,P,d.set e ⟨d[e].1,(RV f preds s d[e].2).1⟩,(RV f preds s d[e].2).2,_,_⟩,R,R,(by show e+1+P=M;omega),Y ⟨e1,by show J (d.set e _)=M;rw[bL];exact q.2.1,λm O_ ba=>?_⟩,Y r⟩,SA⟩;have bc:m<J d:=by simpa using O_
   have bl:e+1<=m:=ba;show(d.set e _)[m].2=[];rw[bI O];exact q.2.2 m bc O
  have bf:=H_.o
  have e3:((x.set b ⟨d,x[b].2,x[b].3⟩)).set b ((x.set b ⟨d,x[b].2,x[b].3⟩)[b].setPhi e ⟨((x.set b ⟨d,x[b].2,x[b].3⟩)[b].1[e]).1,((x.set b ⟨d,x[b].2,x[b].3⟩)[b].1[e]).2⟩)=(x.set b ⟨d,x[b].2,x[b].3⟩):=by rw[al,T,gE];show x.set b ⟨d.set e d[e],x[b].2,x[b].3⟩=_;rw[fK]
  rw[e3];exact bf
 |zero=>
  have bb:¬(e:I)<M:=O;clear aj;go_wp2_with fail
  have e1:(d,s)=Rx f preds (J x[b].1) 0 x[b].1 v:=q.1;refine HX.o s _ _ _ _ R (by rw[<-e1]) ?_;rw[<-e1];exact H_.o
theorem Ge:∀(a:Wi)(i:N)(b q:I),q∈AQ a i b->∃d:N,q=(d:I)/\i<=d/\d<i+J a
 |[],_,_,_,h=>by simp[AQ]at h
 |x::a,i,b,q,h=>by
  rw[AQ]at h;obtain h|h:=bU.1 h
  .split at h
   .simp only[cH,eA,lL]at h;exact⟨i,h,aA,sP⟩
   simp at h
  obtain⟨d,e,c,f⟩:=Ge a (i+1) b q h;exact⟨d,e,O,by rw[bA];omega⟩
theorem vK:∀(a:Wi)(i:N)(b:I),J (AQ a i b)<=J a
 |[],_,_=>by simp[AQ]
 |x::a,i,b=>by
  rw[AQ,aQ,bA];have:=vK a (i+1) b;split
  .simp only[bA,bO];omega
  simp only[bO];omega
structure NB where
 i:N
 k:N
 xs:Wi
 s:cB
 c21:Uj
 c22:Uj
 c23:Uj
 tl:Wo
theorem MM{P:Yt}{vals L:N}{f:Tm}{K:N}(q:cB){c1 c2 c3 c4 c5 W_ X_ L_ M_ O_ P_ R_ S_ T_ U_ V_:Uj}(hQ:Q (∀c (F:Act) ab ac w,P (.panic c) (F.put (S ab) ac) w->P (.panic c) F w))(Y_:Q (J x=K/\J f=i/\i=K))(a9:K<=11)(al:Q (∀e∈x,J e.1<=1000/\∀p∈e.1,p.2=[]))(ba:Q (∀z∈f,0<J z/\J z<=4000))(ao:∀(s:cB)(v r t:Uj)(y:Wo)(w':Ub),J y=251->s=(Nl f K 0 x q).2->pR w w' n k ⟨(Nl f K 0 x q).1,f,vals,s⟩ B L c (Hl g i j) a l->P (.exit 6) ⟨(Hn n::c1::c2::c3::c4::c5::A_::Hn B::W_::X_::Hl g i j::L_::M_::O_::P_::R_::S_::T_::U_::V_::H ((K:N):I)::v::r::t::y).toArray,[]⟩ w'){v r t:Uj}{wr:Ub}(o:J y=251)(T:Q (pR w wr n k ⟨x,f,vals,q⟩ B L c (Hl g i j) a l)):
 Code.wp prog (Code.loop FA) P ⟨(Hn n::c1::c2::c3::c4::c5::A_::Hn B::W_::X_::Hl g i j::L_::M_::O_::P_::R_::S_::T_::U_::V_::H ((0:N):I)::v::r::t::y).toArray,[]⟩ wr:=by
 have HX:=Y ao;clear ao;refine iY (λV wr=>∃e:NB,V=⟨(Hn n::c1::c2::c3::c4::c5::A_::Hn B::W_::X_::Hl g i j::L_::M_::O_::P_::R_::S_::T_::U_::V_::H ((e.i:N):I)::e.5::e.6::e.7::e.8).toArray,[]⟩/\J e.8=251/\e.i+e.k=K/\Q (Nl f e.k e.i e.3 e.s=Nl f K 0 x q/\J e.3=K/\∀m (W:m<J e.3),e.i<=m->J e.3[m].1<=1000/\∀p∈e.3[m].1,p.2=[])/\Q (pR w wr n k ⟨e.3,f,vals,e.s⟩ B L c (Hl g i j) a l)) (λV _=>K-(JB<|V.1.getD 20 Su).toNat) ⟨⟨0,K,x,q,v,r,t,y⟩,R,o,by show 0+K=K;omega,Y ⟨R,Y_.1,λm W _=>al.o _<|aH W⟩,T⟩ ?_;clear T o al;rintro V wr⟨⟨b,M,d,s,v,r,t,y⟩,rfl,o,bc,h,K_⟩;dsimp only at o bc h K_ |-
 conv=>arg 2;whnf
 obtain⟨a8,rfl⟩:=pJ o;simp only[wK,Nat.reduceAdd];clear o;obtain⟨bm,pv,iv,av,ev,hF⟩:=K_.o;dsimp only at hF;have x1:E wr (A B 1)=S (Hl L K c):=by rw[<-h.2.1];exact Bx.cell hF.6 R
 have x0:E wr (A B 0)=S (H vals):=Bx.cell hF.6 R;have ad:=Y hF.9.at_;have u:=Y hF;clear hF;cases M with
 |succ M=>
  have be:(b:I)<K:=O;have C:b<J d:=oN h.o;have E_:Q (K=J d):=Y h.2.1.symm;go_wp2_with fail
  refine(ZE vals c (b:I) ad E_ O aA).mono ?_;rintro z w1⟨pa,bn,rfl,am,ar⟩;have aj:=Y<|Sy.start u.o ar;have a1:=Y<|u.belowF am;have Z_:=Ge d 0 (b:I);have au:=vK d 0 (b:I);have af:Q (Nl f M (b+1) (d.set b ⟨(Rx f (AQ d 0 (b:I)) (J d[b].1) 0 d[b].1 s).1,d[b].2,d[b].3⟩) (Rx f (AQ d 0 (b:I)) (J d[b].1) 0 d[b].1 s).2=Nl f K 0 x q):=Y (by have:=h.1;rw[Nl,show d.getD b ip=d[b] by simp[C]]at this;exact this)
  obtain⟨preds,az⟩:∃p,p=AQ d 0 (b:I):=⟨_,R⟩;rw[<-az]at aj Z_ au af |-;obtain⟨pl,aa⟩:∃pl,pl=J preds:=⟨_,R⟩;rw[<-aa]at au |-;have a3:=Y aa;have a2:=Y Z_;clear az aa Z_ am ar x1 x0 ad u;go_wp2_with fail
  refine Ta w k vals L c a l preds K s (by exact Y λc F ab ac w T=>hQ.o c F ab ac w T) C (Y ⟨E_.symm,Y_.2.1,a3.symm⟩) ⟨a9,oN E_.o⟩ (Y (h.2.2 b C aA).2) (Y (λbk hq=>by obtain⟨a6,z,h1,h2⟩:=a2.o bk hq;exact⟨a6,z,oP Y_.o E_.o⟩)) ba (Y (h.2.2 b C aA).1) ?_ (by rfl) (Y ?_)
  .intro s' r t y w' o a0 aq;obtain⟨a8,rfl⟩:=pJ o;simp only[wK,Nat.reduceAdd];clear o;have u:=Y aq;have a4:=Y a0;clear aq a0;go_wp2_with fail
   obtain⟨bh,bi,bg,a5,a7,ap,-⟩:=u.o;rw[a4.o]at ap;refine⟨⟨⟨b+1,M,d.set b ⟨(Rx f preds (J d[b].1) 0 d[b].1 s).1,d[b].2,d[b].3⟩,(Rx f preds (J d[b].1) 0 d[b].1 s).2,_,_,_,_⟩,R,R,(by show b+1+M=K;omega),Y ⟨af.o,by show J (d.set b _)=K;rw[bL];exact h.2.1,λm W bd=>?_⟩,Y ⟨bh,bi,bg,a5,a7,ap⟩⟩,SA⟩;have bf:m<J d:=by simpa using W
   have bl:b+1<=m:=bd;show J (d.set b _)[m].1<=1000/\∀p∈(d.set b _)[m].1,p.2=[];rw[bI O];exact h.2.2 m bf O
  have e3:d.set b ⟨d[b].1,d[b].2,d[b].3⟩=d:=fK C;rw[e3];exact⟨_,_,_,_,_,a1.o,aj.o⟩
 |zero=>
  have be:¬(b:I)<K:=O;have bb:b=K:=O;subst bb;go_wp2_with fail
  have e1:(d,s)=Nl f b 0 x q:=h.1;refine HX.o s _ _ _ _ _ R (by rw[<-e1]) ?_;rw[<-e1];exact K_.o
end Go.Proofs.YtcncjgijikoapaaGreatDoor
