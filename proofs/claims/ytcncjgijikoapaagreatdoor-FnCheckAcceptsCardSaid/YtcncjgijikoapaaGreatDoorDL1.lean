import Derived.Test.YtcncjgijikoapaaGreatDoorDL6
namespace Go.Proofs.YtcncjgijikoapaaGreatDoor
set_option maxHeartbeats 8000000
set_option maxRecDepth 100000
open _root_ renaming Array.size->Z,List.length->J,Nat->N,Int->I,rfl->R,Option.some->S,Option.none->U,Bool.true->So,Bool.false->Sn,absurd->Sz
open Go renaming World.cell?->E,World.alloc->D,World.setCell->Se,World.ownsRow->Sx,Obj.cells->Sc,undef->Su,RowKit.intOf->JB
open Value renaming slice->X,bool->Sb,agg->Sa
open Go.RowKit Go.Proofs.Tryz
variable{r:Bool}{n m k B i j c:N}{w:Ub}{a A_:Uj}{l:Wc}{y:Wo}
structure B5 where
 k:N
 i:N
 gd:SV
 ve:Uj
 d12:Uj
 d13:Uj
 d14:Uj
 d15:Uj
 d16:Uj
 d17:Uj
 d18:Uj
 d19:Uj
 d20:Uj
 d21:Uj
 d22:Uj
 d23:Uj
 tl:Wo
theorem SZ:(prog.info? 61).map (λi=>(i.8,i.3,i.4))=S (S<|Sa #[Hq],1,24):=vZ
theorem Ba{near:Bool}:∀(k:N)(s:cB)(a:Wc)(v:N)(b:Vr),J a<=J (L4 near k s a v b).2.1
 |0,_,_,_,_=>aA
 |k+1,s,a,v,b=>by
  rw[L4];split
  .have:=Ba (near:=near) k (RJ s a v near).2 (a++[(v:I)]) (v+1) (b++[(RJ s a v near).1]);simp only[aQ,bA,bO]at this;omega
  exact Ba k _ _ _ _
theorem MY(i v:N)(a:Wc)(s:cB):J a<=J (jy i v a s).3/\(i=0->0<J (jy i v a s).3):=by
 unfold jy;split
 .refine⟨?_,λ_=>?_⟩
  .show (J a)<=J (a++[(v:I)]);simp
  show 0<J (a++[(v:I)]);simp
 exact⟨aA,λh=>Sz h<|by assumption⟩
theorem LA{ch:Yt}{b:N}(M:SV){c1 c2 c3 c4 c5:Uj}(hQ:Q (∀c (aa:Act) bc v w,ch (.panic c) (aa.put (S bc) v) w->ch (.panic c) aa w))(hN:i<=11)(gn:Q (J l=i))(ej:Q (∀b_,0<b_->b_<i->∃c:N,l.getD b_ 0=(c:I)/\c<b_))(ef:∀(e:SV)(ve A_ bk bl bm bn bo bp bq br bt bv bx:Uj)(y:Wo)(V_:Ub),J y=251->e=Rw r l i 0 M->(J e.2=i/\J e.1=i/\e.v<=14*i/\∀h∈e.2,0<J h/\J h<=14*i)->pR w V_ n m e k b c ve (Hl B i j) l->ch (.exit 0) ⟨(Hn n::c1::c2::c3::c4::c5::Sb r::Hn k::Hl B i j::a::ve::H ((i:N):I)::A_::bk::bl::bm::bn::bo::bp::bq::br::bt::bv::bx::y).toArray,[]⟩ V_){ve bk bl bm bn bo bp bq br bt bv bx:Uj}{wr:Ub}(K:J y=251)(b5:Q (M.2=[]/\M.v=0/\J M.1=i))(a0:Q (pR w wr n m M k b c ve (Hl B i j) l)):
 Code.wp prog (Code.loop Au) ch ⟨(Hn n::c1::c2::c3::c4::c5::Sb r::Hn k::Hl B i j::a::ve::H ((0:N):I)::A_::bk::bl::bm::bn::bo::bp::bq::br::bt::bv::bx::y).toArray,[]⟩ wr:=by
 have HX:=Y ef;clear ef;obtain⟨i0,gm,g7,g9,hc⟩:=Xq SZ;obtain⟨j0,ek,e0,e6,e7⟩:=Xq RH;obtain⟨m0,gt,g3,g4,g5⟩:=Xq RB;refine iY (λa' wr=>∃x:B5,a'=⟨(Hn n::c1::c2::c3::c4::c5::Sb r::Hn k::Hl B i j::a::x.4::H ((x.i:N):I)::x.5::x.6::x.7::x.8::x.9::x.10::x.11::x.12::x.13::x.14::x.15::x.16::x.tl).toArray,[]⟩/\J x.tl=251/\x.i+x.k=i/\Q (J x.3.2=x.i/\J x.3.1=i)/\Q (Rw r l x.k x.i x.3=Rw r l i 0 M)/\Q (x.3.v<=14*x.i/\∀h∈x.3.2,0<J h/\J h<=14*x.i)/\Q (pR w wr n m x.3 k b c x.4 (Hl B i j) l)) (λa' _=>i-(JB<|a'.1.getD 11 Su).toNat) ⟨⟨i,0,M,ve,A_,bk,bl,bm,bn,bo,bp,bq,br,bt,bv,bx,y⟩,R,K,by show 0+i=i;omega,Y ⟨by show J M.2=0;rw[b5.1];rfl,b5.2.2⟩,Y R,Y ⟨by show M.v<=14*0;rw[b5.2.1];omega,λh he=>Sz he<|by show ¬h∈M.2;rw[b5.1];simp⟩,a0⟩ ?_;clear a0 K b5;rintro a' wr⟨⟨b8,d,e,ve,A_,bk,bl,bm,bn,bo,bp,bq,br,bt,bv,bx,y⟩,rfl,K,gq,q,HE,X_,HA⟩;dsimp only at K gq q HE X_ HA |-
 conv=>arg 2;whnf
 obtain⟨d3,rfl⟩:=pJ K;simp only[wK,Nat.reduceAdd];clear K;have aj:=HA.fn.1;have ck:=HA.fn.2;rw[q.2]at aj;cases b8 with
 |succ b8=>
  have da:d<i:=O;have hz:(d:I)<i:=O
  go_upto_if 71 with fail
  have az:Q (nu w (D wr (Sc #[] 2)) n m e k b c ve (Hl B i j) l (Hl (Z wr.1) 0 0) []):=Y HA.start;clear HA;have hm:Q (Z w.1<=Z wr.1):=Y ck;clear ck aj;generalize D wr _=wa at*;generalize Z wr.1=vb at*
  go_cut [12]from 62 to 202 λc6 wx=>Q<|nu w wx n m e k b c ve (Hl B i j) l c6 (if d=0 then []else e.2.getD (l.getD d 0).toNat [])
  case first=>
   by_cases u:d=0
   .have f8:¬(0:I)<(d:I):=O;have cs:=Y u;clear u;go_wp2;go_meet;rw[aU cs.o];exact az
   have f8:(0:I)<(d:I):=O;have cs:=Y u;obtain⟨Z_,ed,gi⟩:=ej.o d O da;have b3:Z_<J e.2:=oN q.o;have T_:=X_.2 (e.2.getD Z_ []) (Ka [] b3);obtain⟨hw,hv,ge,ce,gx,cx,e1,hy,e2,gh,ei,el⟩:=az.dom (oN gn.o) ed b3 T_.1;cases e1;have fc:Q ((l.getD d 0).toNat=Z_):=Y (by rw[ed];simp);rw[q.1]at e2;subst e2;have fi:=Y el;have hn:=Y ei;clear el ei ed u;have cu:=Y T_;clear T_ b3;obtain⟨lx,T_⟩:∃lx,lx=J (e.2.getD Z_ []):=⟨_,R⟩;rw[<-T_]at gh;have bh:=Y T_;clear T_;obtain⟨-,-,h8⟩:=az.fn;go_wp2_with (at_builtin;refine bT _ R _ _ 26 R (Z w.1) 2 j0 (H 0) 1 8 underlying26 ek e0 e6 e7 R vY _ 0 [] R az.own (A gx 0) lx cx (hC<|e.2.getD Z_ []) R ?c0 fi.o ?c2 ?c3 ?c4 ?c5 ?_)
   case c0=>rw[bh.o];simp[hC]
   case c2=>intro ca W;unfold hC at W;obtain⟨ic,_,rfl⟩:=aY.1 W;rfl
   case c3=>unfold maxLen;have:=cu.o;have:=bh.o;omega
   case c4=>have:=cu.o;have:=bh.o;omega
   intro v8 w8 ap a7 dh b1;have fk:=Y (az.push (vs':=e.2.getD Z_ []) a7 ap (by rw[bO,<-bh.o,aV]) b1);obtain⟨g8,fx,rfl,al,af⟩:=Xm ap<|oP cu.o bh.o;clear al af dh b1 ap a7;go_wp2;go_meet;rw[aM cs.o,fc.o];exact fk
  have cg:=hcut;clear hcut az;have cz:Q (J (if d=0 then []else e.2.getD (l.getD d 0).toNat [])<=14*d/\(d≠0->0<J (if d=0 then []else e.2.getD (l.getD d 0).toNat []))):=Y (by
   by_cases u:d=0
   .rw[aU u];exact⟨aN,λa0=>Sz u a0⟩
   rw[aM u];obtain⟨Z_,ed,gi⟩:=ej.o d O da;have b3:Z_<J e.2:=oN q.o
   have T_:=X_.2 (e.2.getD Z_ []) (Ka [] b3);rw[ed,dM];exact⟨T_.2,λ_=>T_.1⟩)
  have cr:Q (Rw r l b8 (d+1) ⟨e.1.set d (oJ r d (J (AQ e.1 0 (d:I))) (e.1.getD d ip).3 (if d=0 then []else e.2.getD (l.getD d 0).toNat []) e.v e.s).1,e.2++[(oJ r d (J (AQ e.1 0 (d:I))) (e.1.getD d ip).3 (if d=0 then []else e.2.getD (l.getD d 0).toNat []) e.v e.s).2],(oJ r d (J (AQ e.1 0 (d:I))) (e.1.getD d ip).3 (if d=0 then []else e.2.getD (l.getD d 0).toNat []) e.v e.s).v,(oJ r d (J (AQ e.1 0 (d:I))) (e.1.getD d ip).3 (if d=0 then []else e.2.getD (l.getD d 0).toNat []) e.v e.s).s⟩=Rw r l i 0 M):=HE;clear HE;generalize (if d=0 then []else e.2.getD (l.getD d 0).toNat [])=f at*;have db:d<J e.1:=oN q.o;have d0:Q ((e.1.getD d ip).3=e.1[d].3):=Y (by simp[db]);obtain⟨p0,p1,p2,p3,p4,p5⟩:=cg.cells2 q.1 db;obtain⟨aj,gl,ck⟩:=cg.fn;rw[q.2]at aj;rw[d0.o]at cr;have cc:=Y<|cg.boxed e.1[d].3;clear cg;generalize et:e.1[d].3=L at*;have hs:=Y et;clear et d0;obtain⟨⟨f1,f0,fz⟩,gz,ez,eh,cl⟩:=cc.fn;rw[q.2]at f1;go_wp2_with fail
  have fp:Q (Z wc.1=Z wc.1):=Y R;generalize D wc _=wx at*;clear p0 p1 p2 p3 p4 p5 aj gl ck fp;generalize Z wc.1=xb at*;have d1:Q (i=J e.1):=Y q.2.symm;refine(ZE e.v c (d:I) (Y cc.blks) d1 O aA).mono ?_;rintro h w1⟨pa,ib,rfl,d5,-⟩;have ar:=Y<|cc.below d5;clear d5 cc f1 f0 fz gz ez eh cl;have bg:=cr;clear cr;generalize J (AQ e.1 0 (d:I))=F at*
  go_upto_if 92 with fail
  go_cut [15]from 62 to 202 λfv wz=>fv=H (((Ls F e.s).1:N):I)/\Q (I8 w wz n m (Ls F e.s).2 e.v e k b c ve (Hl B i j) l xb L [] [] u12 f)
  case first=>
   have o:Q (Ls F e.s=if 1<F then ((iw e.s 4).1.toNat,(iw e.s 4).2)else if F=1 then (if (iw e.s 6).1=0 then 1 else 0,(iw e.s 6).2)else (0,e.s)):=Y R;by_cases h1:1<F
   .have gb:(1:I)<F:=O;rw[aU h1]at o;go_wp2_with fail
    refine(ki e.s 4 w1 (Y ar.dr) O O).mono ?_;rintro h w2⟨rfl,p,C⟩;have dc:=kr e.s (n:=4) O;obtain⟨V,s1,b7⟩:∃V s9,iw e.s 4=(V,s9):=⟨_,_,R⟩;rw[b7]at p o dc |-;dsimp only at p o dc |-;obtain⟨V,rfl⟩:=Zv dc.1;rw[dM]at o;have L_:=Y<|ar.call C p;clear p C b7;go_wp2;go_meet;rw[o.o];exact⟨R,L_⟩
   have gb:¬(1:I)<F:=O;rw[aM h1]at o;by_cases h2:F=1
   .have gf:((F:I)==1)=So:=SB
    rw[aU h2]at o;subst h2;go_wp2_with fail
    refine(ki e.s 6 w1 (Y ar.dr) O O).mono ?_;rintro h w2⟨rfl,p,C⟩;obtain⟨V,s1,b7⟩:∃V s9,iw e.s 6=(V,s9):=⟨_,_,R⟩;rw[b7]at p o |-;dsimp only at p o |-;have L_:=Y<|ar.call C p;clear p C b7;by_cases hr:V=0
    .have gv:(V==0)=So:=by simpa using hr
     rw[aU hr]at o;clear hr;go_wp2;go_meet;rw[o.o];exact⟨R,L_⟩
    have gv:(V==0)=Sn:=by simpa using hr
    rw[aM hr]at o;clear hr;go_wp2;go_meet;rw[o.o];exact⟨R,L_⟩
   have gf:((F:I)==1)=Sn:=SB
   rw[aM h2]at o;go_wp2;go_meet;rw[o.o];exact⟨R,ar⟩
  obtain⟨rfl,cf⟩:=hcut;clear ar;have di:=yY F e.s;have dz:Q (e.v<=5000/\J f<=4000):=Y<|oP X_.o cz.o;obtain⟨P,hP⟩:∃P,P=Ls F e.s:=⟨_,R⟩;have cq:Q (∀r d bc f v,oJ r d F bc f v e.s=⟨⟨Rk P.1 v,(L4 r (jy d (v+P.1) (f++xL P.1 v) P.2).1 (jy d (v+P.1) (f++xL P.1 v) P.2).s (jy d (v+P.1) (f++xL P.1 v) P.2).3 (jy d (v+P.1) (f++xL P.1 v) P.2).v (jy d (v+P.1) (f++xL P.1 v) P.2).2).1,(pV r bc (L4 r (jy d (v+P.1) (f++xL P.1 v) P.2).1 (jy d (v+P.1) (f++xL P.1 v) P.2).s (jy d (v+P.1) (f++xL P.1 v) P.2).3 (jy d (v+P.1) (f++xL P.1 v) P.2).v (jy d (v+P.1) (f++xL P.1 v) P.2).2).2.1 (L4 r (jy d (v+P.1) (f++xL P.1 v) P.2).1 (jy d (v+P.1) (f++xL P.1 v) P.2).s (jy d (v+P.1) (f++xL P.1 v) P.2).3 (jy d (v+P.1) (f++xL P.1 v) P.2).v (jy d (v+P.1) (f++xL P.1 v) P.2).2).2.2.2).1⟩,(L4 r (jy d (v+P.1) (f++xL P.1 v) P.2).1 (jy d (v+P.1) (f++xL P.1 v) P.2).s (jy d (v+P.1) (f++xL P.1 v) P.2).3 (jy d (v+P.1) (f++xL P.1 v) P.2).v (jy d (v+P.1) (f++xL P.1 v) P.2).2).2.1,(L4 r (jy d (v+P.1) (f++xL P.1 v) P.2).1 (jy d (v+P.1) (f++xL P.1 v) P.2).s (jy d (v+P.1) (f++xL P.1 v) P.2).3 (jy d (v+P.1) (f++xL P.1 v) P.2).v (jy d (v+P.1) (f++xL P.1 v) P.2).2).2.2.1,(pV r bc (L4 r (jy d (v+P.1) (f++xL P.1 v) P.2).1 (jy d (v+P.1) (f++xL P.1 v) P.2).s (jy d (v+P.1) (f++xL P.1 v) P.2).3 (jy d (v+P.1) (f++xL P.1 v) P.2).v (jy d (v+P.1) (f++xL P.1 v) P.2).2).2.1 (L4 r (jy d (v+P.1) (f++xL P.1 v) P.2).1 (jy d (v+P.1) (f++xL P.1 v) P.2).s (jy d (v+P.1) (f++xL P.1 v) P.2).3 (jy d (v+P.1) (f++xL P.1 v) P.2).v (jy d (v+P.1) (f++xL P.1 v) P.2).2).2.2.2).2⟩):=Y (λr d bc f v=>by rw[hP];rfl);rw[<-hP]at cf di |-;clear hP;obtain⟨z,s1⟩:=P;dsimp only at cf di cq |-;go_wp2_with fail
  refine T5 s1 e di dz.1 dz.2 ?_ R cf;rintro i8 y w2 K ep;have L_:=Y ep;clear ep cf;obtain⟨d3,rfl⟩:=pJ K;simp only[wK,Nat.reduceAdd];clear K;have cd:Q (e.v+z<=3000/\J (f++xL z e.v)<=3000):=Y (by have:=X_.o;have:=cz.o;rw[aQ,xS];omega);have fg:Q (e.v+z<=14*d+3/\J (f++xL z e.v)<=14*d+3/\(d≠0->0<J (f++xL z e.v))):=Y (by
   have:=X_.o;have h2:=cz.o;rw[aQ,xS];exact⟨O,O,λa0=>by have:=h2.2 a0;omega⟩)
  have du:=Y<|cq.o r d L f e.v;clear cq;rw[du.o]at bg;clear du;generalize e.v+z=s at*;generalize f++xL z e.v=R_ at*;have g0:=L_.dr.1.4;have gu:=L_.dr.2.4;go_wp2_with fail
  refine(ki s1 (3+s1.4) w2 (Y L_.dr) O O).mono ?_;rintro h w3⟨rfl,p,C⟩;have dd:=kr s1 (n:=3+s1.4) O;have au:=Y<|L_.call C p;clear p C g0;have W_:Q (jy d s R_ s1=if d=0 then ⟨(iw s1<|3+s1.4).1.toNat+1,[⟨2,s,0,0,(iw (iw s1<|3+s1.4).2 3).1⟩],R_++[(s:I)],s+1,(iw (iw s1<|3+s1.4).2 3).2⟩else ⟨(iw s1<|3+s1.4).1.toNat,[],R_,s,(iw s1<|3+s1.4).2⟩):=Y R;have aq:=Y<|IM d s R_ L_.dr.2;have fe:=Y<|MY d s R_ s1;clear L_;generalize jy d s R_ s1=g at*;generalize iw s1 (3+s1.4)=RI at*;obtain⟨V,s2⟩:=RI;dsimp only at au W_ dd |-;obtain⟨V,rfl⟩:=Zv dd.1;rw[dM]at W_;have h6:V<10:=O;clear dd gu
  go_upto_if 132 with fail
  go_cut [12,17]from 62 to 202 λc6 fw wz=>fw=H ((g.1:N):I)/\Q (I8 w wz n m g.s g.v e k b c ve (Hl B i j) l xb L (Rk z e.v) g.2 c6 g.3)
  case first=>
   by_cases u:d=0
   .have ga:((d:I)==0)=So:=SB
    rw[aU u]at W_;clear u;obtain⟨⟨f1,f0,fz⟩,er,ez,eh,cl⟩:=au.fn;have fq:=Y cl;obtain⟨cn,pv,iv,av,ev,p3,q3,ci⟩:=au.o;obtain⟨qa,qc,en⟩:=ci.x.5.form;rw[bO]at en;subst en;have x1:=Bx.c ci.x.1 1;have be:=Y ci;clear ci f1 fz cl au;obtain⟨NB,d4⟩:∃fs,fs=iw s2 3:=⟨_,R⟩;obtain⟨r4,s4⟩:=NB;have dj:=d4.symm;rw[dj]at W_;dsimp only at W_;clear d4;have cw:Q (s<=3000/\J R_<=3000):=cd
    go_upto_region 33 with fail
    go_cut []from 62 to 202 λwz=>Q<|I8 w wz n m s4 s e k b c ve (Hl B i j) l xb L (Rk z e.v) [⟨2,((s:N):I),0,0,r4⟩] i8 R_
    case first=>
     go_wp2_with fail
     refine Y7 (λV_=>E V_ (A k 0)=S (H ((s:N):I))) λO_=>?_;refine X0 0 ?_;refine X0 2 ?_;refine X0 3 ?_;refine X0 4 ?_;refine eS (rs:=[1,5]) vZ sP ?_;refine(bQ R (λY_ hK=>?_) (bQ R (λY_ hK=>?_) dY))
     focus
      go_simp;refine hK _ _ kP λO_=>?_;clear hK
      try simp only[xX]
      refine Xs 5 λY_ hK=>?_;go_simp
      go_at_call 12
      refine(ki s2 3 _ (Y be.drew.f.1) O O).mono ?_;rintro h w4⟨rfl,p,C⟩;have t:=Y<|be.drew.call C p;rw[dj]at t |-;dsimp only at t |-;have y0:=Bx.c t.f.6 0;have y1:=Bx.c t.x.1 1;have er:=t.f.2.4;have g6:=t.x.1.lt;clear p C;refine hK _ _ y0 λO_=>?_;clear hK;refine X0 6 ?_;refine Xs 7 λY_ hK=>?_;go_simp;refine hK _ _ kP λO_=>?_;clear hK
     rotate_left
     focus
      go_simp
      go_at_call 12
      refine(ki s2 3 _ (Y be.drew.f.1) O O).mono ?_;rintro h w4⟨rfl,p,C⟩;have t:=Y<|be.drew.call C p;rw[dj]at t |-;dsimp only at t |-;have y0:=Bx.c t.f.6 0;have y1:=Bx.c t.x.1 1;have er:=t.f.2.4;have g6:=t.x.1.lt;clear p C;refine hK _ _ y0 λO_=>?_;clear hK
      try simp only[xX]
      refine X0 6 ?_;refine eS (rs:=[1,7]) vZ sP ?_;refine(bQ R (λY_ hK=>?_) (bQ R (λY_ hK=>?_) dY))
     focus
      go_simp;refine hK _ _ kP λO_=>?_;clear hK
      try simp only[xX]
      refine Xs 7 λY_ hK=>?_;go_simp;refine hK _ _ kP λO_=>?_;clear hK
     rotate_left
     focus
      go_simp;refine hK _ _ kP λO_=>?_;clear hK
      try simp only[xX]
      refine Xs 1 λY_ hK=>?_;go_simp;refine hK _ _ kP λO_=>?_;clear hK
     all_goals (
      refine Xs 8 λY_ hK=>?_;refine d6 R _ _ 48 R (Z w.1) 64 m0 (Sa #[H 0,H 0,H 0,H 0,H 0]) 5 40 underlying48 gt g3 g4 g5 R vY (X qa 0 qc) 0 [] R ?s1 (A (Z w4.1) 0) 1 1 [H 2,H ((s:N):I),H 0,H 0,H r4] R R ?s2 ?s3 ?s4 ?s5 ?s6 ?_
      case s1=>exact t.x.5.1.alloc _
      case s2=>exact World.news_of_block<|World.alloc_heap_new _ _
      case s3=>intro ca W;simp at W;obtain rfl|rfl|rfl|rfl:=W<;>rfl
      case s4=>unfold maxLen;omega
      case s5=>omega
      case s6=>simp;omega
      intro v8 w8 ap a7 dh b1;obtain⟨dk,dn,c7⟩:=(t.box _).pushI (x:=⟨2,((s:N):I),0,0,r4⟩) a7 ap R (by rw[aO];simpa using b1);obtain⟨g8,fx,rfl,al,af⟩:=Xm ap O;have z0:E w8 (A k 0)=S (H ((s:N):I)):=Bx.cell ((t.f.6.box _).grown a7 λh=>oS t.x.5.1 t.f.6 vY h.symm) R;have z1:=Bx.c dk 1;have zf:=Bx.thaw dk;rw[aV]at c7;have fa:=Y c7;clear al af dh b1 ap a7 c7 dk;refine hK _ _ z0 λO_=>?_;clear hK;refine X0 9 ?_;refine Xs 10 λY_ hK=>?_;go_simp;refine hK _ _ (G (Xc<|cY (kA fq.o)) z0) λO_=>?_;clear hK;refine Yq ?_;clear O_ z0 z1 zf y0 y1;go_wp2
      go_meet;exact Y ⟨_,_,_,_,_,_,_,fa.o⟩)
    have cv:=hcut;have h7:=cw.1;clear be x1 f0;generalize wc=w9 at*;obtain⟨⟨-,fy,f6⟩,g1,-,-,-⟩:=cv.fn;obtain⟨vo,va,vc,ab,-⟩:=cv.vals;have fm:=Y vo;obtain⟨ln,am⟩:∃ln,ln=J R_:=⟨_,R⟩;rw[<-am]at ab;subst ab;have ct:=Y am;clear am vo;go_wp2_with (at_builtin;refine bT _ R _ _ 26 R (Z w.1) 2 j0 (H 0) 1 8 underlying26 ek e0 e6 e7 R vY _ (J R_) (hC R_) R (fm.alloc _) (A (Z w9.1) 0) 1 1 [H ((s:N):I)] R R ?e1 ?e2 ?e3 ?e4 ?e5 ?_)
    case e1=>exact Yf _ _ _
    case e2=>intro ca W;simp at W;subst W;rfl
    case e3=>unfold maxLen;have:=cw.o;omega
    case e4=>have:=cw.o;omega
    case e5=>simp;omega
    intro hf hj ao b6 df b0;have dw:=Y ((cv.box _).pushV b6 ao R (by rw[aO];exact b0));obtain⟨f7,ft,rfl,al,af⟩:=Xm ao O;clear al af df b0 ao b6 fy f6;obtain⟨⟨-,f0,fz⟩,-⟩:=dw.fn;go_wp2;go_meet;rw[W_.o];have b4:=dw.val<|s+1;rw[show((s+1:N):I)=(s:I)+1 by omega]at b4;exact⟨by show _=H ((V+1:N):I);rw[kB];rfl,Y b4⟩
   have ga:((d:I)==0)=Sn:=SB
   rw[aM u]at W_;clear u;go_wp2;go_meet;rw[W_.o];exact⟨R,au⟩
  obtain⟨rfl,dx⟩:=hcut;clear au W_;go_wp2_with fail
  refine Vw e g.s aq.1 (oP aq.o cd.o) (oP aq.o cd.o) (oN aq.o) ?_ R dx;rintro s5 v5 S_ cm ds ht y w5 K hR eq;have ac:=Y eq;have cb:=Y<|zF (near:=r) g.1 g.s g.3 g.v g.2;have bf:=Y<|Ba (near:=r) g.1 g.s g.3 g.v g.2;rw[<-hR]at bg cb bf;clear eq dx hR;dsimp only at bg cb bf;obtain⟨d3,rfl⟩:=pJ K;simp only[wK,Nat.reduceAdd];clear K;obtain⟨cn,pv,iv,av,ev,p5,q5,eb⟩:=ac.o;have x2:=Bx.c eb.x.1 2;clear eb
  go_upto_if 186 with fail
  have bi:Q (pV r L S_ s5=if L.1=1 then (L,s5)else (⟨L.1,(Mi s5 S_ r).1,L.3,L.4⟩,(Mi s5 S_ r).2)):=Y R;have dt:=bg;clear bg;generalize pV r L S_ s5=TT at*
  go_cut []from 62 to 202 λwz=>Q<|I8 w wz n m TT.2 v5 e k b c ve (Hl B i j) l xb TT.1 (Rk z e.v) cm ds S_
  case first=>
   by_cases hk:L.1=1
   .have gr:(L.1 != 1)=Sn:=by simpa using hk
    rw[aU hk]at bi;clear hk;go_wp2;go_meet;rw[bi.o];exact ac
   have gr:(L.1 != 1)=So:=by simpa using hk
   rw[aM hk]at bi;clear hk;obtain⟨-,va,vc,ab,eu⟩:=ac.vals;obtain⟨ln,am⟩:∃ln,ln=J S_:=⟨_,R⟩;rw[<-am]at ab;subst ab;have ct:=Y am;have fl:=Y eu;clear am eu;have gs:ln<=5000:=by have:=cb.o;have:=aq.o;have:=cd.o;have:=ct.o;omega
   have gw:n<Z w.1:=by obtain⟨cn,pv,iv,av,ev,ia,U_,hb⟩:=ac.o;exact hb.f.lt
   go_wp2_with fail
   refine(zp s5 (Y ac.dr) fl ct gs gw aA).mono ?_;rintro h w6⟨rfl,p,C⟩;obtain⟨cn,pv,iv,av,ev,p6,q6,cj⟩:=(ac.call C p);have bf:=Y cj;have y3:=Bx.c cj.x.1 3;have yz:=Bx.thaw cj.x.1;clear cj p C;go_wp2;go_meet;rw[bi.o];exact Y ⟨_,_,_,_,_,_,_,bf.terA _⟩
  have dy:=hcut;clear ac bi x2 hcut;obtain⟨Q_,s7⟩:=TT;dsimp only at dy dt;obtain⟨cn,pv,iv,av,ev,p7,q7,T⟩:=dy.o;obtain⟨a8,a9,em⟩:=T.x.4.form;obtain⟨ba,bb,eo⟩:=T.x.5.form;rw[vX]at em;obtain⟨il,c9⟩:∃il,il=J cm:=⟨_,R⟩;rw[<-c9]at eo;subst em eo;have ho:=Y c9;clear c9;have co:=Y T;have x0:=Bx.c T.x.1 0;have x1:=Bx.c T.x.1 1;have x2:=Bx.c T.x.1 2;have x3:=Bx.c T.x.1 3;have x4:=Bx.c T.x.1 4;have x5:=Bx.c T.x.1 5;have aj:E wc (A k 1)=S (Hl b i c):=by rw[d1.o];exact Bx.cell T.f.6 R
  have ad:∀U_,U_<6->∃ca,E wc (A b (d*6+U_))=S ca:=λU_ hq=>by
   have gg:=T.f.9.1;have:=Xz (λd x=>wu (pv d) (iv d) (Xe.te x)) 0 e.1 d db U_ hq;rw[aV]at this;have h5:=wu (pv d) (iv d) e.1[d].3;refine⟨(L7 (pv d) (iv d) e.1[d].3)[U_],gg.cell<|G this ?_⟩;exact aC O
  obtain⟨u0,k0⟩:=ad 0 O;obtain⟨u1,k1⟩:=ad 1 O;obtain⟨u2,k2⟩:=ad 2 O;obtain⟨u3,k3⟩:=ad 3 O;obtain⟨u4,k4⟩:=ad 4 O;obtain⟨u5,k5⟩:=ad 5 O;rw[fW]at k0;have kz:∀U_,wc.frozen? (A b U_)=Sn:=λU_=>T.f.9.1.thaw U_;have es:=T.f.2.4;clear T ad
  go_upto_region 48 with fail
  clear x0 x1 x2 x3 x4 x5 k0 k1 k2 k3 k4 k5 kz aj;obtain⟨c8,eg,dl⟩:=co.es9;rw[q.1]at c8 eg dl;have fb:Q (∀o_ bd n' V_,((D (SW wc b (d*6) (X a8 z a9) (X ba il bb) Q_) o_).grownBy V_ ve.ownBlock)->Sx V_ (Z w.1) 61 1 bd n' (Yu (λd _=>[ev d]) 0 e.2++[ds])->n'=d+1->(bd.ownBlock=ve.ownBlock\/bd.ownBlock=S (Z (D (SW wc b (d*6) (X a8 z a9) (X ba il bb) Q_) o_).1))->∃dn e9 e8 d2 ab,CK w V_ dn n m s7 k v5 b c (e.1.set d ⟨Rk z e.v,cm,Q_⟩) e9 e8 d2 bd ab (e.2++[S_]) (Hl B i j) l):=Y (λo_ bd n' V_ h1 h2 h3 h4=>by
   have ee:=co.close (o:=o_) (ve':=bd) (n':=n') (w':=V_) (oN q.o) (by rw[q.1];exact h1) h2 (by rw[q.1];exact h3) (by rw[q.1];exact h4) (λx hx=>by unfold Rk at hx;obtain⟨h9,_,rfl⟩:=aY.1 hx;rfl);rw[q.1]at ee;exact ee)
  have dv:=Y c8.1;have fj:Q (Z w.1<=Z (SW wc b (d*6) (X a8 z a9) (X ba il bb) Q_).1):=Y (by rw[dl];exact es);clear c8 eg dl es;have fh:Q (Se (Se (Se (Se (Se (Se wc (A b (d*6)) (X a8 z a9)) (A b (d*6+1)) (X ba il bb)) (A b (d*6+2)) (H Q_.1)) (A b (d*6+3)) (H Q_.a)) (A b (d*6+4)) (H Q_.3)) (A b (d*6+5)) (H Q_.4)=SW wc b (d*6) (X a8 z a9) (X ba il bb) Q_):=Y R;rw[fh.o];generalize SW wc b (d*6) (X a8 z a9) (X ba il bb) Q_=w9 at*;obtain⟨ea,ec,g2⟩:∃aa c,ve=X aa d c:=by
   obtain⟨h,u⟩|⟨g_,cap,_,h,_⟩:=dv.2;·exact⟨U,0,by rw[h,u]⟩
   exact⟨_,_,h⟩
  subst g2;obtain⟨hh,hi,ey⟩:∃aa c,ds=X aa (J S_) c:=by
   obtain⟨aa,c,h⟩:=co.x.6.form;exact⟨aa,c,h⟩
  obtain⟨vl,ew⟩:∃vl,vl=J S_:=⟨_,R⟩;rw[<-ew]at ey;subst ey;have g1:=fj.o;clear ew;go_wp2_with (at_builtin;refine bT _ R _ _ 58 R (Z w.1) 61 i0 (Sa #[Hq]) 1 24 underlying58 gm g7 g9 hc R vY _ d (Yu (λd _=>[ev d]) 0 e.2) R (dv.alloc _) (A (Z w9.1) 0) 1 1 [X hh vl hi] R R ?f1 ?f2 ?f3 ?f4 ?f5 ?_)
  case f1=>exact Yf _ _ _
  case f2=>intro ca W;simp at W;subst W;rfl
  case f3=>unfold maxLen;omega
  case f4=>omega
  case f5=>simp;omega
  intro hf hj ao b6 df b0;obtain⟨dn,e9,e8,d2,ab,b4⟩:=fb.o _ _ _ _ b6 ao R (by rw[aO];exact b0);obtain⟨f7,ft,rfl,al,af⟩:=Xm ao O;have fd:=Y b4;clear al af df b0 ao b6 b4;go_wp2_with fail
  refine⟨⟨⟨b8,d+1,⟨e.1.set d ⟨Rk z e.v,cm,Q_⟩,e.2++[S_],v5,s7⟩,_,_,_,_,_,_,_,_,_,_,_,_,_,_⟩,R,R,(by show d+1+b8=i;omega),Y ?_,dt,Y ?_,Y ⟨_,_,_,_,_,fd.o⟩⟩,SA⟩
  .have:=q.o;exact⟨by show J (e.2++[S_])=d+1;rw[aQ,this.1];rfl,by show J (e.1.set d _)=i;rw[bL];exact this.2⟩
  have a1:=cb.o;have a2:=aq.o;have a3:=fg.o;have a4:=fe.o;have a5:=bf.o;have a6:=X_.o;refine⟨by show v5<=14*(d+1);omega,λh he=>?_⟩;obtain he|he:=bU.1 he
  .have:=a6.2 h he;show 0<J h/\J h<=14*(d+1);omega
  simp only[cH,eA,lL]at he
  subst he;show 0<J h/\J h<=14*(d+1);have hp:0<J g.3:=by
   by_cases u:d=0;·exact a4.2 u
   have:=a3.2.2 u;omega
  omega
 |zero=>
  have da:¬(d:I)<i:=O;have gp:d=i:=O;subst gp;go_wp2_with fail
  exact HX.o _ _ _ _ _ _ _ _ _ _ _ _ _ _ _ _ R HE.o ⟨q.1,q.2,X_.1,X_.2⟩ HA.o
end Go.Proofs.YtcncjgijikoapaaGreatDoor
