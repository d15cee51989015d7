import Derived.Test.YtcncjgijikoapaaGreatDoorMV1
namespace Go.Proofs.YtcncjgijikoapaaGreatDoor
set_option maxHeartbeats 8000000
set_option maxRecDepth 100000
open _root_ renaming Array.size->Z,List.length->J,Nat->N,Int->I,rfl->R,Option.some->S,Bool.true->So,Bool.false->Sn,absurd->Sz
open Go renaming World.cell?->E,World.alloc->D,World.setCell->Se,World.ownsRow->Sx,IntKind.i64->S6,Obj.cells->Sc,Ending.returned->Rt,undef->Su,RowKit.Below->Sw,Calls->Sk,RowKit.intOf->JB
open Value renaming slice->X,int->Si,bool->Sb,agg->Sa
open Go.RowKit Go.Proofs.Tryz
theorem uf(aq ar r c_ f dw bq w)(ha:Q (Xp w dw bq ar f))(hx:Q (r=J f))(hB:bq<=Z w.1)(ho:Q (Jy aq f)):
 Sk prog 90 #[Sa #[H aq,X ar r c_]] w λe F=>∃a' c',e=Rt (X a' r c')/\Sw (Z w.1) w F/\WJ F (Z w.1) a' f:=by
 obtain⟨j0,hl,h0,h3,h4⟩:=Xq Qd;have hn:r<=1000:=oP hx.o ho.1.2;have gg:Q (∀(b5:Ub)(e6:I)(al:N),Sw (Z w.1) w b5->al<r->_):=Y λb5 e6 al (hW:Sw (Z w.1) w b5) bo=>tY c_ e6 (Y<|ha.keep (hW.mono hB)) hx (oN hW.4) ho bo
 go_in
 go_wp2
 go_loopw [3,4] (λU_ n wr=>∃(k:N)(cs:Wo),k<=r/\n=H k/\Q (PL w aq ar r c_ f wr U_ k cs)) λ_ n _=>r-(JB n).toNat
 .refine⟨0,[],aN,R,Y ⟨Xb (Xb Rf _) _,sP,sP,sP,?_,λn _ h=>Sz h O⟩⟩;have h:=eI (base:=Z w.1+1) (e:=194) (size:=6) (D w<|Sc #[H aq,X ar r c_] 25) #[] 0 sP sP R;rw[aO]at h;exact h
 obtain⟨k,cs,hk,rfl,P_⟩:=hrel;have cc:=P_.4;by_cases hp:k<r
 .have be:k<J f:=oN hx.o;have ek:=P_.1;have hz:=P_.2;obtain⟨ab,cq,ea,⟨ir,io⟩,hc⟩:=(ha.keep<|ek.mono hB) k be;subst ea;obtain⟨pa,pc,ia,ic,e0,e1,⟨e2,e3,e4,e5⟩,em,ei⟩:=hc;have b1:=Y em;have db:=Y ei;have b0:=Y<|ho.10 f[k] (aH be);have ds:Q (∀al∈f[k].3.tg,0<=al/\al<(r:I)):=Y (by rw[hx.o];exact ho.1.3 f[k] (aH be));obtain⟨c,hX⟩:∃c,c=f[k]:=⟨_,R⟩;rw[<-hX]at e0 e1 e2 e3 e4 e5 b1 db b0 ds;have HX:=Y hX;clear hX em ei;refine FU (λ_ _ _ _ _ h=>h) ?_;intro il hN hQ;go_wp2_with fail
  rename_i Kc bv;have hg:ab<Z wr.1:=aI wr _ e0;have g8:Q (∀(a:N)(f0:Vu)(e7 e8 e9 fa fb fc fe fi fj fl fn fq fr fs fx fz f4 f5 f6 f7 ga:Uj)(Y_:Ub),Pv wr Y_ a c f0->Kc ⟨#[Sa #[H aq,Hm ab cq r c_],Hn (Z w.1),Hq,u3,H k,Hn a,u6,u7,u8,Hl (Z w.1+1) 0 0,H k,Ho (Z w.1) 1,Hm ab cq r c_,H r,Sb So,u15,u16,e7,e8,e9,fa,fb,fc,fe,fi,fj,fl,fn,fq,fr,fs,fx,fz,f4,f5,f6,f7,ga,u38,u39,u40,u41,u42,u43,u44,u45,u46,u47,u48,u49,u50,u51,u52,u53,u54,u55,u56,u57,u58,u59,u60,u61,u62,u63,u64,u65,u66,u67,u68,u69,u70,u71,u72,u73,u74,u75,u76,u77,u78,u79,u80,u81,u82,u83,u84,u85,u86,u87,u88,u89,u90,u91,u92,u93,u94,u95,u96,u97,u98,u99,u100,u101,u102,u103,Su],[]⟩ Y_):=Y (by
   intro a f0 e7 e8 e9 fa fb fc fe fi fj fl fn fq fr fs fx fz f4 f5 f6 f7 ga Y_ M;apply bv;have HA:=Y M;obtain⟨aT,cT,eT,eg⟩:=M.7;have dc:=Y eg;have c8:=Y eT;have i3:=M.2;have bm:=M.3.lt;have jj:=M.1.4;have ap:=Y<|ek.trans (M.1.mono O);have gb:=G (XU M.1 O) P_.3;have gd:=G (XU M.1 O) cc;have b3:=Y (show _/\_ from⟨gb,gd⟩);obtain⟨M_,cl⟩:∃S_,S_=J c.3.tg:=⟨_,R⟩;have i5:M_<=2:=by rw[cl];exact KJ _
   have a6:=Y cl;have ge:=Y<|oB M.1 e1 hg;have gr:=Y (db.keepS λq _ m=>M.1.5 q O);have gf:Q (∀j,j<=2->J ((c.3.tg.take j).flatMap (G2 f k))<=8000000):=Y (λj hj=>by have g:=V8 ho k (c.3.tg.take j);rw[dH]at g;have m:min j (J c.3.tg)<=2:=O;omega)
   have i2:Z w.1<a:=O;clear M eg eT cl bv e0 e1 e2 e3 e4 e5 cc gb gd;generalize wr=wo at*;go_wp2
   go_loopw [6] (λn wr=>∃(j:N)(U_:Uj),j<=M_/\n=H j/\Q (Ow Y_ a f0 wr U_<|(c.3.tg.take j).flatMap (G2 f k))) λn _=>M_-(JB n).toNat
   .exact⟨0,Hq,aN,R,Y<|Ow.start HA.3 HA.4⟩
   case round=>
    obtain⟨j,U_,hj,rfl,l⟩:=hrel;have h9:=l.4;have c0:E wr (A a 0)=S (X aT M_ cT):=by have h:=l.6.cell (i:=0) vY;rw[aM vY,c8.o,<-a6.o]at h;exact h
    by_cases hr:j<M_
    .have cg:j<J c.3.tg:=by rw[<-a6.o];exact hr
     obtain⟨bt,ot,rfl,⟨⟨_,ed⟩,hf⟩,ee⟩:=dc j cg;have en:=ds _<|aH cg;have c2:E wr (A a 2)=S U_:=by have h:=l.6.cell (i:=2) vY;rw[aU R]at h;exact h
     have cz:=l.6.frozen 2;have dz:=l.cell O b3.1;have bl:=l.cell O b3.2;have ct:=l.cell ed ee;have da:Q ((c.3.tg.take<|j+1).flatMap (G2 f k)=(c.3.tg.take j).flatMap (G2 f k)++G2 f k c.3.tg[j]):=Y<|CL cg;obtain⟨tn,bo⟩:=bX en.1;rw[bo]at da ct;have hw:tn<r:=O;have cx:=Y (gg.o wr.drew k tn ⟨G l.1 ap.1,G l.2 ap.2,G l.3 ap.3,aJ ap.4 l.4,λq hq=>G (l.5 q (oN ap.4) O) (ap.5 q hq)⟩ hw);have dd:=Y<|gf.o j O;have dk:=Y<|tQ ho k tn;have bd:a<Z wr.1:=O;have bp:Z w.1<Z wr.1:=O;generalize G2 f k tn=eu at*;generalize (c.3.tg.take j).flatMap (G2 f k)=el at*;clear ee en bo;go_wp2_with fail
     refine Y7 (λF=>E F (A (Z w.1) 0)=S (H aq)/\E F (A (Z w.1) 1)=S (Hm ab cq r c_)/\E F (A a 0)=S (Hm bt ot M_ cT)/\E F (A bt<|ot+j)=S (H tn)) λig=>?_;refine X0 0 ?_;refine X0 2 ?_;refine X0 3 ?_;refine X0 4 ?_;refine X0 5 ?_;refine X0 6 ?_;refine X0 7 ?_;refine X0 8 ?_;refine eS (rs:=[1,9]) vZ sP ?_;refine(bQ R (λK hK=>?_) (bQ R (λK hK=>?_) dY));go_simp;refine hK _ _ kP λig=>?_;clear hK
     refine Xs 9 λK hK=>?_;go_simp;refine cx.mono ?_;rintro e o⟨ad,c5,rfl,d,P⟩;have b:Sw (Z wr.1) wr o:=⟨d.1,d.2,d.3,d.4,d.5⟩;have u:=Y b;have a4:=Y P;have d0:=oB b c0 bd;have d2:=oB b c2 bd;have ba:=oB b dz bp;have bb:=oB b bl bp;have dt:=oB b ct<|aI wr _ ct;clear d P b;refine hK _ _ ⟨ba,bb,d0,dt⟩ λig=>?_;clear hK;rotate_left;go_simp;refine cx.mono ?_;rintro e o⟨ad,c5,rfl,d,P⟩;have b:Sw (Z wr.1) wr o:=⟨d.1,d.2,d.3,d.4,d.5⟩;have u:=Y b;have a4:=Y P;have d0:=oB b c0 bd;have d2:=oB b c2 bd;have ba:=oB b dz bp;have bb:=oB b bl bp;have dt:=oB b ct<|aI wr _ ct;clear d P b;refine hK _ _ ⟨ba,bb,d0,dt⟩ λig=>?_;clear hK
     refine Xs 1 λK hK=>?_;go_simp;refine hK _ _ kP λig=>?_;clear hK
     all_goals (
      refine Xs 10 λK hK=>?_;refine YD RH (Zl l.7 λx e=>u.5 x (l.7.lt x e).2) (EZ a4) (by intro v hv;obtain⟨js,_,rfl⟩:=aY.1 hv;rfl) ?_ (hl:=sP) (hb:=by have:=dd.o;have:=dk.o;omega) (hs:=oN u.4)
      intro u1 T cn cf _ _;obtain⟨av,cv,eb,_⟩:=Xk (xs:=el++eu) (by rw[bG];exact cn);obtain⟨ln,ej⟩:∃S_,S_=J (el++eu):=⟨_,R⟩;rw[<-ej]at eb;subst eb;clear ej;have gl:=Y cf;have gv:Q (Sx T (Z Y_.1) 2 1 (X av ln cv) (J (el++eu)) ((el++eu).map (Si S6))):=Y (by rw[aQ,bG];exact cn);have af:∀q,q<Z Y_.1->T.1[q]?=o.1[q]?:=λq hq=>cf.5 q (oN u.4) (λe=>by have:=(l.7.lt q e.symm).1;omega);have g0:=G (Xc<|af a bm) d0;have g2:=G (Xc<|af a bm) d2;have gz:T.frozen? (A a 2)=Sn:=by rw[bJ (a:=(A a 2)) (af a bm)];exact G (u.frozen (p:=A a 2) bd) cz
      have b6:=G (Xc<|af (Z w.1) O) ba;have b7:=G (Xc<|af (Z w.1) O) bb;have gt:=G (Xc<|af bt hf) dt;have g4:=Y<|l.push (u':=X av ln cv) (qs:=eu) bm u gl gv;clear cn cf af d0 d2 ba bb dt ig;refine hK _ _ ⟨b6,b7,g0,gt⟩ λig=>?_;clear hK;refine X0 11 ?_;refine Xs 12 λK hK=>?_;go_simp;have y:∀(i T_:N)(v:Uj),(i≠a\/T_≠2)->E T (A i T_)=S v->E (Se T (A a 2) (X av ln cv)) (A i T_)=S v:=λi T_ v g m=>(cJ (by
       intro e;injection e with e1 e2;obtain g|g:=g;·exact g e1.symm
       exact g e2.symm)).trans m
      refine hK _ _ ⟨y _ _ _ (bC O) b6,y _ _ _ (bC O) b7,y _ _ _ (aZ vY) g0,y _ _ _ (bC ed) gt⟩ λig=>?_;clear hK ig y b6 b7 g0 g2 gz gt
      refine Yq ?_;go_wp2
      exact⟨⟨j+1,X av ln cv,O,gM,Y<|by rw[da.o];exact g4⟩,SA⟩)
    have gs:Q (j=J c.3.tg):=Y<|oN a6.o
    have c7:Q ((c.3.tg.take j).flatMap (G2 f k)=XP f k):=Y (by rw[aW<|oN gs.o];unfold XP;rw[aC be,HX.o])
    have ao:Q (Ow Y_ a f0 wr U_<|XP f k):=Y (by rw[<-c7.o];exact l);have b4:=Y h9;have gh:=Y<|l.cell O b3.2;have cw:=Y<|l.cell O ge;have gq:=Y (gr.keepS λq _ m=>l.5 q O O);have ca:a<Z wr.1:=O;clear l;go_wp2_with fail
    clear c0;generalize wr=w2 at*;obtain⟨nI,bn⟩:∃S_,S_=J c.2:=⟨_,R⟩;rw[<-bn]at cw;have i4:nI<=4000:=by rw[bn];exact b0.1
    have dl:=Y bn;clear bn
    go_loopw [7] (λn wr=>∃(q:N)(ur ud:Uj)(rs:Wo),q<=nI/\n=H q/\Q (OL w2 a (λn=>if n=2 then U_ else f0 n) wr ur ud rs ((Jv c).take q) ((Z2 c).take q))) λn _=>nI-(JB n).toNat
    .exact⟨0,Hq,Hq,[],aN,R,Y<|OL.start ao.6 (by rw[aM vY];exact HA.5) (by rw[aM vY];exact HA.6)⟩
    case round=>
     obtain⟨q,ur,ud,rs,hq,rfl,HI⟩:=hrel;have ib:=HI.4;have bl:=G (Xc<|HI.5 (Z w.1) O O) gh;have hb:=G (Xc<|HI.5 ab O O) cw;by_cases ht:q<nI
     .have cp:q<J c.2:=by rw[<-dl.o];exact ht
      obtain⟨bi,oi,rfl,⟨i1,iv⟩,hi⟩:=gq q cp;have a0:=HI.5 bi O O;obtain⟨ep,eq,er,es,et⟩:=hi;have r0:=G (Xc a0) ep;have r1:=G (Xc a0) eq;have r2:=G (Xc a0) er;have r3:=G (Xc a0) es;have r4:=G (Xc a0) et;have a9:Q ((Jv c).take (q+1)=(Jv c).take q++[Iw c.2[q]]):=Y (by unfold Jv;rw[X7<|by simpa using cp];simp);have a8:Q ((Z2 c).take (q+1)=(Z2 c).take q++[H7 c.2[q]]):=Y (by unfold Z2;rw[X7<|by simpa using cp];simp);have di:Q (J ((Jv c).take q)=q):=Y (by rw[dH];unfold Jv;rw[bK];omega);have bh:Q (J ((Z2 c).take q)=q):=Y (by rw[dH];unfold Z2;rw[bK];omega);obtain⟨cr,hy⟩:∃cr,cr=c.2[q]:=⟨_,R⟩;rw[<-hy]at r0 r1 r2 r3 r4 a9 a8;obtain⟨t,p,B,C,z⟩:=cr;simp only at r0 r1 r2 r3 r4;clear ep eq er es et a0 hy;generalize (Jv c).take q=zr at*;generalize (Z2 c).take q=zd at*;go_wp2_with fail
      have he:(λx9:Ub=>Sw (Z wr.1) wr x9/\Z wr.1<Z x9.1/\(∀V v,#[H t,H p,H B,H C,H z][V]?=S v->E x9 (A (Z wr.1) V)=S v)) (D wr<|Sc #[H t,H p,H B,H C,H z] 64):=⟨Xb Rf _,sP,(λV v h=>by rw[eC];exact h)⟩
      generalize D wr _=s at*;obtain⟨b8,L,a1⟩:=he;have n0:Cl s (Z wr.1) 0 (H t):=a1 0 _ R;have n1:Cl s (Z wr.1) 1 (H p):=a1 1 _ R;have n2:Cl s (Z wr.1) 2 (H B):=a1 2 _ R;have n3:Cl s (Z wr.1) 3 (H C):=a1 3 _ R;have n4:Cl s (Z wr.1) 4 (H z):=a1 4 _ R;have O_:=Y<|HI.below b8;have jl:=b8.4;have cb:a<Z s.1:=O;have s3:E s (A a 3)=S ur:=by have h:=O_.6.cell (i:=3) vY;rw[aU R]at h;exact h
      have ih:=O_.6.frozen 3;have du:=Y λx e=>(O_.7.lt x e).2;have g7:=Y λx e=>(HI.7.lt x e).2;have g5:=Y λx e=>(O_.10.lt x e).2;clear a1 b8 r0 r1 r2 r3 r4 bl hb;refine Y7 (λF=>E F (A (Z wr.1) 0)=S (H t)/\E F (A (Z wr.1) 1)=S (H p)/\E F (A (Z wr.1) 2)=S (H B)/\E F (A (Z wr.1) 3)=S (H C)/\E F (A (Z wr.1) 4)=S (H z)) λig=>?_;refine X0 0 ?_;refine X0 2 ?_;refine eS (rs:=[1,3]) vZ sP ?_;refine(bQ R (λK hK=>?_) (bQ R (λK hK=>?_) dY))
      focus
       go_simp;refine hK _ _ kP λig=>?_;clear hK
       refine Xs 3 λK hK=>?_;go_simp;refine(Wv ⟨t,p,B,C,z⟩ s.drew).mono ?_;rintro e o⟨a5,c5,rfl,d,P⟩;have b:Sw (Z s.1) s o:=⟨d.1,d.2,d.3,d.4,d.5⟩;have u:=Y b;have a4:Q (Xf o (Z s.1) (Z o.1) a5<|Iw ⟨t,p,B,C,z⟩):=Y P;have d3:=oB b s3 cb;have p0:=oB b n0 L;have p1:=oB b n1 L;have p2:=oB b n2 L;have p3:=oB b n3 L;have p4:=oB b n4 L;obtain⟨lr,ac⟩:∃S_,S_=J (Iw ⟨t,p,B,C,z⟩):=⟨_,R⟩;rw[<-ac];have df:=Y ac;clear d P b ac;refine hK _ _ ⟨p0,p1,p2,p3,p4⟩ λig=>?_;clear hK;refine X0 4 ?_;refine Xs 5 λK hK=>?_;go_simp;refine hK _ _ kP λig=>?_;clear hK
      rotate_left
      focus
       go_simp;refine(Wv ⟨t,p,B,C,z⟩ s.drew).mono ?_;rintro e o⟨a5,c5,rfl,d,P⟩;have b:Sw (Z s.1) s o:=⟨d.1,d.2,d.3,d.4,d.5⟩;have u:=Y b;have a4:Q (Xf o (Z s.1) (Z o.1) a5<|Iw ⟨t,p,B,C,z⟩):=Y P;have d3:=oB b s3 cb;have p0:=oB b n0 L;have p1:=oB b n1 L;have p2:=oB b n2 L;have p3:=oB b n3 L;have p4:=oB b n4 L;obtain⟨lr,ac⟩:∃S_,S_=J (Iw ⟨t,p,B,C,z⟩):=⟨_,R⟩;rw[<-ac];have df:=Y ac;clear d P b ac;refine hK _ _ ⟨p0,p1,p2,p3,p4⟩ λig=>?_;clear hK
       refine X0 4 ?_;refine eS (rs:=[1,5]) vZ sP ?_;refine(bQ R (λK hK=>?_) (bQ R (λK hK=>?_) dY))
       focus
        go_simp;refine hK _ _ kP λig=>?_;clear hK
        refine Xs 5 λK hK=>?_;go_simp;refine hK _ _ kP λig=>?_;clear hK
       rotate_left;go_simp;refine hK _ _ kP λig=>?_;clear hK
       have hd:E (D o<|Sc #[X a5 lr c5] 61) (A a 3)=S ur:=oB (Xb (dC (Z o.1) o) _) d3 (by have:=u.4;show a<_;omega);refine Xs 1 λK hK=>?_;go_simp;refine hK _ _ kP λig=>?_;clear hK
      all_goals (
       refine Xs 6 λK hK=>?_;refine YI Qd (Zl O_.7 λx e=>u.5 x<|du x e) ?_ (by have g:=O_.8;have m:=di.o;omega) (oN u.4)
       intro u6 T co ce _ ec;obtain⟨g6,c6,rfl,_,_⟩:=Xm co O;have gp:=Y<|O_.below (Xg u<|Xb (dC (Z o.1) o) (Sc #[X a5 lr c5] 61));have Q_:=Y (gp.pushR (c5:=c5) (ys:=Iw ⟨t,p,B,C,z⟩) ca (B0:=Z s.1) O du g5 ((a4.keep<|Xb (dC (Z o.1) o) _).mono aA sP) ce (by rw[<-df.o];exact co) (by rw[aO];simpa using ec));have cm:=λV g m=>G (ce.5 V SB m) (gF _ _ _ g);have i6:=u.4;have cd:=cm a O (λe=>by have:=(O_.7.lt a e.symm).1;omega);have az:=cm (Z wr.1) O (λe=>by have:=g7 _ e.symm;omega);have g3:=G (Xc cd) d3;have gz:T.frozen? (A a 3)=Sn:=by rw[bJ (a:=(A a 3)) cd];exact G (u.frozen (p:=A a 3) cb) ih
       have t0:=G (Xc az) p0;have t1:=G (Xc az) p1;have t2:=G (Xc az) p2;have t3:=G (Xc az) p3;have t4:=G (Xc az) p4;clear co ce ec cm cd az p0 p1 p2 p3 p4 d3 ig
       (try clear hd)
       refine hK _ _ ⟨t0,t1,t2,t3,t4⟩ λig=>?_;clear hK;refine X0 7 ?_;refine Xs 8 λK hK=>?_;go_simp;have y:∀(T_:N)(v:Uj),E T (A (Z wr.1) T_)=S v->E (Se T (A a 3) (Hl g6 (J rs+1) c6)) (A (Z wr.1) T_)=S v:=λT_ v m=>G (bH T (A a 3) (A (Z wr.1) T_) _ (by show a≠Z wr.1;omega)) m;refine hK _ _ ⟨y _ _ t0,y _ _ t1,y _ _ t2,y _ _ t3,y _ _ t4⟩ λig=>?_;have ey:=y _ _ t0;have ez:=y _ _ t1;clear hK ig y t0 t1 t2 t3 t4 g3 gz
       refine Yq ?_;generalize Se T _ _=N_ at*;go_wp2_with fail
       refine YU (nZ t N_) λw8 eo=>?_;rw[eo];clear eo w8;have ev:E N_ (A a 4)=S ud:=by have h:=Q_.6.cell (i:=4) vY;rw[aM vY,aU R]at h;exact h
       cases hdb:dB t
       .have a3:Q (H7 ⟨t,p,B,C,z⟩=(-1)):=Y (by unfold H7;simp only[hdb];simp);clear hdb;go_wp2_with (at_builtin;refine YC RH Q_.10 ?_ (oN bh.o) (oN Q_.4))
        intro u9 Z_ W I_ _ V_;obtain⟨g9,c9,rfl,_,_⟩:=Xm W O;have R_:=Y<|Q_.below (Xb (dC (Z N_.1) N_) (Sc #[H (-1)] 2));have aj:Z_.1[a]?=(D N_<|Sc #[H (-1)] 2).1[a]?:=I_.5 a (by have:=R_.6.lt;exact this) (λe=>by have:=(Q_.10.lt a e.symm).1;omega);have k4:E Z_ (A a 4)=S ud:=by have h:=R_.6.cell (i:=4) vY;rw[aM vY,aU R]at h;exact G (Xc aj) h
        have kz:Z_.frozen? (A a 4)=Sn:=by rw[bJ (a:=(A a 4)) aj];exact R_.6.frozen 4
        have a7:=Y (R_.pushD (x:=(-1)) ca I_ W (by rw[aO];exact V_));clear W I_ V_ aj ey ez ev;go_wp2_with fail
        refine⟨?_,SA⟩
        first
         |exact⟨q+1,_,_,_,O,gM,Y<|by rw[a9.o,a8.o,a3.o];exact a7⟩
         |((repeat apply gP);refine⟨?_,R⟩;exact⟨q+1,_,_,_,O,gM,Y<|by rw[a9.o,a8.o,a3.o];exact a7⟩)
       have a3:Q (H7 ⟨t,p,B,C,z⟩=p):=Y (by unfold H7;simp only[hdb];simp);clear hdb;go_wp2_with (at_builtin;refine YC RH Q_.10 ?_ (oN bh.o) (oN Q_.4))
       intro u9 Z_ W I_ _ V_;obtain⟨g9,c9,rfl,_,_⟩:=Xm W O;have R_:=Y<|Q_.below (Xb (dC (Z N_.1) N_) (Sc #[H p] 2));have aj:Z_.1[a]?=(D N_<|Sc #[H p] 2).1[a]?:=I_.5 a (by have:=R_.6.lt;exact this) (λe=>by have:=(Q_.10.lt a e.symm).1;omega);have k4:E Z_ (A a 4)=S ud:=by have h:=R_.6.cell (i:=4) vY;rw[aM vY,aU R]at h;exact G (Xc aj) h
       have kz:Z_.frozen? (A a 4)=Sn:=by rw[bJ (a:=(A a 4)) aj];exact R_.6.frozen 4
       have a7:=Y (R_.pushD (x:=p) ca I_ W (by rw[aO];exact V_));clear W I_ V_ aj ey ez ev;go_wp2_with fail
       refine⟨?_,SA⟩
       first
        |exact⟨q+1,_,_,_,O,gM,Y<|by rw[a9.o,a8.o,a3.o];exact a7⟩
        |((repeat apply gP);refine⟨?_,R⟩;exact⟨q+1,_,_,_,O,gM,Y<|by rw[a9.o,a8.o,a3.o];exact a7⟩))
     have dn:Q (q=J c.2):=Y<|oN dl.o
     have aa:Q (OL w2 a (λn=>if n=2 then U_ else f0 n) wr ur ud rs (Jv c) (Z2 c)):=Y (by have h:=HI.o;rw[aW (by unfold Jv;rw[bK];have:=dn.o;omega),aW (by unfold Z2;rw[bK];have:=dn.o;omega)]at h;exact h)
     obtain⟨⟨aR,cR,eR,hR⟩,⟨aD,cD,eD,hD⟩⟩:=aa.fin;obtain⟨aP,cP,eP,hP⟩:=HA.8;obtain⟨aE,cE,eE,hE⟩:=HA.9;obtain⟨a2,c2,e2,ef⟩:=Xk ao.7;have bf:=Y HA.1;have bc:=λV g m=>G (aa.5 V (oN b4.o) m) (ao.5 V g m)
     have br:Q (Sw (Z wo.1) wo wr):=Y ⟨G aa.1<|G ao.1 bf.1,G aa.2<|G ao.2 bf.2,G aa.3<|G ao.3 bf.3,oN b4.o,λV hu=>G (bc V O O) (bf.5 V hu)⟩;have g1:=Y (Zl P_.5 λx e=>br.5 x (P_.5.lt x e).2);have gi:Q (VO wr (λab=>Z wo.1<=ab) (jo (X aT M_ cT) (X aP (J c.1) cP) (X a2 (J (XP f k)) c2) (X aR (J (Jv c)) cR) (X aD (J (Z2 c)) cD) (X aE (J (Id c.3)) cE)) f[k] (XP f k)):=Y (by
      rw[<-HX.o];have jf:=b4.o;refine⟨⟨aT,cT,by rw[<-a6.o];rfl,?_⟩,⟨aP,cP,by rw[bK];rfl,?_⟩,⟨a2,c2,R,?_⟩,⟨aR,cR,R,?_⟩,⟨aD,cD,R,?_⟩,⟨aE,cE,R,?_⟩⟩;·exact(dc.keep (w':=wr) (λi g m=>bc i g m.2) O).mono λ_ _ h=>h.1
      .exact(hP.keep (w':=wr) (λi g m=>bc i g m.2) O).mono λ_ _ h=>h.1
      .have h5:=Yv.of_at ef aA (P:=λi=>Z Y_.1<=i) λi g _=>g;exact(h5.keep (w':=wr) (λi g m=>aa.5 i g O) ib).mono λi _ h=>by show Z wo.1<=i;have h':=h;omega
      .exact hR.mono λi _ h=>by show Z wo.1<=i;have h':=h;omega
      .exact hD.mono λi _ h=>by show Z wo.1<=i;have h':=h;omega
      exact(hE.keep (w':=wr) (λi g m=>bc i g m.2) O).mono λ_ _ h=>h.1)
     have NC:=λ(n:N)(h:n<6)=>aa.6.cell h
     have x0:E wr (A a 0)=S (X aT M_ cT):=by have h:=NC 0 vY;simp only[Nat.reduceEqDiff,fD]at h;rw[c8.o,<-a6.o]at h;exact h
     have x1:E wr (A a 1)=S (X aP (J c.1) cP):=by have h:=NC 1 vY;simp only[Nat.reduceEqDiff,fD]at h;rw[eP]at h;exact h
     have x2:E wr (A a 2)=S (X a2 (J (XP f k)) c2):=by have h:=NC 2 vY;simp only[Nat.reduceEqDiff,fD,gG]at h;rw[e2]at h;exact h
     have x3:E wr (A a 3)=S (X aR (J (Jv c)) cR):=by have h:=NC 3 vY;simp only[Nat.reduceEqDiff,fD,gG]at h;rw[eR]at h;exact h
     have x4:E wr (A a 4)=S (X aD (J (Z2 c)) cD):=by have h:=NC 4 vY;simp only[Nat.reduceEqDiff,fD,gG]at h;rw[eD]at h;exact h
     have x5:E wr (A a 5)=S (X aE (J (Id c.3)) cE):=by have h:=NC 5 vY;simp only[Nat.reduceEqDiff,fD]at h;rw[eE]at h;exact h
     generalize J c.1=nP at*;generalize J (XP f k)=l2 at*;generalize J (Jv c)=lR at*;generalize J (Z2 c)=lD at*;generalize J (Id c.3)=lE at*;clear hR hD hP hE ef eR eD eP eE e2 NC bc;go_wp2_with (at_builtin;refine YC Qc g1 ?_ (hs:=oN br.4))
     intro u9 Z_ W I_ _ V_;have dj:=Y (P_.next (f:=jo (X aT M_ cT) (X aP nP cP) (X a2 l2 c2) (X aR lR cR) (X aD lD cD) (X aE lE cE)) be (Xg br<|Xb (dC (Z wr.1) wr) _) (gi.keep (λi g _=>gF _ _ _ g) sP) I_ W (by rw[aO];exact V_));clear W I_ V_ x0 x1 x2 x3 x4 x5;go_wp2_with fail
     refine hN _ _ ?_;refine⟨?_,SA⟩
     first
      |exact⟨k+1,_,O,gM,dj⟩
      |((repeat apply gP);refine⟨?_,R⟩;exact⟨k+1,_,O,gM,dj⟩))
  clear bv;exact Ga dw bq pa ia pc ic c _ _ _ _ _ _ _ _ _ _ _ _ _ _ _ _ _ _ _ _ _ _ _ _ _ _ _ _ _ _ _ _ _ _ _ _ _ _ _ _ _ _ _ _ _ _ _ _ _ _ (Y λc_ ar al v w h=>hQ c_ ar al v w h) hB hz hp cc e0 e1 e2 e3 e4 e5 b1 b0 g8
 go_wp2;go_ret;have hm:k=J f:=oN hx.o;have h:=P_.o;rw[hm]at h;obtain⟨a',c',rfl,hF⟩:=h.fin;exact⟨a',c',by rw[hx.o];rfl,P_.1,hF⟩
end Go.Proofs.YtcncjgijikoapaaGreatDoor
