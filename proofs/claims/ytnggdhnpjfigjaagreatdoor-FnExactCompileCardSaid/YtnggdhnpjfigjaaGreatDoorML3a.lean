import Derived.Test.YtnggdhnpjfigjaaGreatDoorMV0
namespace Go.Proofs.YtnggdhnpjfigjaaGreatDoor
set_option maxHeartbeats 8000000
set_option maxRecDepth 1000000
open _root_ renaming Array.size->Z,List.length->J,Nat->N,rfl->R,Option.some->S,Option.none->U,Bool.true->So,Int->I,Bool.false->Sn,absurd->Sz
open Go renaming World.cell?->E,World.setCell->Se,undef->Su,RowKit.Below->Sw,World.alloc->D,World.ownsRow->Sx,IntKind.i64->S6,Obj.cells->Sc,Ending.returned->Rt,Calls->Sk
open Value renaming slice->X,bool->Sb,agg->Sa,int->Si
open Go.RowKit Go.Proofs.Tryz
variable{n m k B g c:N}{w:Ub}{a A_:Uj}{R_:Yh}
theorem Qc:(prog.info? 152).map (λi=>(i.8,i.3,i.4))=S (S<|.agg #[Hq,Hq,Hq,Hq,Hq,Hq],6,144):=vZ
theorem Qd:(prog.info? 89).map (λi=>(i.8,i.3,i.4))=S (S<|.agg #[Hq],1,24):=vZ
def jz(k:N):Code->Option Code
 |.region j ops d=>if j=k then S (.region j ops d)else U
 |.seq x y=>match jz k x with
  |some c=>S c
  |none=>jz k y
 |.block _ c=>jz k c
 |.scope c=>jz k c
 |.loop c=>jz k c
 |.cond _ x y=>match jz k x with
  |some c=>S c
  |none=>jz k y
 |_=>U
noncomputable def QB:Code:=(f91.9.bind<|jz 5).getD .skip
theorem FU{C:Code}{b:Yt}{a:Act}(d:∀c (a:Act) t v w,b (.panic c) (a.put (S t) v) w->b (.panic c) a w)(h:∀e:Yt,Q (∀a w,b .normal a w->e .normal a w)->Q (∀c (a:Act) t v w,e (.panic c) (a.put (S t) v) w->e (.panic c) a w)->C.wp R_ e a w):C.wp R_ b a w:=h b (Y λ_ _ h=>h) (Y d)
theorem Ga(L u:N)(C M:Uy)(P T:N)(t:Xe){wr:Ub}{F:Yt}{u6 u7 u8 R_ V du dw dz d0 u21 u22 ea eb ec ed ee ef eg ei u31 u32 ej ek el em en T_ U_ V_ u41 u42 Z_ aa ab ac ad af aj al u51 u52 ao:Uj}(ap aq ar az a0 a1 a2 a3 a4 a5 a6 a7 a8 a9 ba bb bc bd be bf bh bi bl bm bn bo bp bq br bt bv b0 b1 b3 b4 b5 b6 b7 b8 ca cb cc cd ce cf cg M_ N_ O_ P_:Uj)(hQ:Q (∀c (D_:Act) t_ v w,F (.panic c) (D_.put (S t_) v) w->F (.panic c) D_ w))(hB:u<=Z w.1)(eq:Z w.1+2<=Z wr.1)(ep:g<m)(ck:E wr (A (Z w.1) 1)=S (Hm k B m c))(F_:E wr (A k<|B+g*6)=S (X C (J t.1) P))(e1:E wr (A k<|B+g*6+1)=S (X M (J t.2) T))(e2:E wr (A k<|B+g*6+2)=S (H t.3.1))(e3:E wr (A k<|B+g*6+3)=S (H t.3.a))(e4:E wr (A k<|B+g*6+4)=S (H t.3.3))(e5:E wr (A k<|B+g*6+5)=S (H t.3.4))(ci:Q (Jw wr L u C t.1))(ch:Q (J t.2<=4000/\J t.1<=4000))(cj:Q (∀(E_:N)(f0:Vu)(cs ct cv cw cx cz c6 c7 c8 c9 da db dc dd df di dj dk dl dn ds:Uj)(Y_:Ub),Pv wr Y_ E_ t f0->F .normal ⟨#[Sa #[H n,Hm k B m c],Hn (Z w.1),Hq,a,H g,Hn E_,u6,u7,u8,Hl (Z w.1+1) 0 0,H g,Ho (Z w.1) 1,Hm k B m c,H m,Sb So,R_,V,cs,ct,cv,cw,cx,cz,c6,c7,c8,c9,da,db,dc,dd,df,di,dj,dk,dl,dn,ds,T_,U_,V_,u41,u42,Z_,aa,ab,ac,ad,af,aj,al,u51,u52,ao,ap,aq,ar,az,a0,a1,a2,a3,a4,a5,a6,a7,a8,a9,ba,bb,bc,bd,be,bf,bh,bi,bl,bm,bn,bo,bp,bq,br,bt,bv,b0,b1,b3,b4,b5,b6,b7,b8,ca,cb,cc,cd,ce,cf,cg,M_,N_,O_,P_,Su],[]⟩ Y_)):
 Code.wp prog QB F ⟨#[Sa #[H n,Hm k B m c],Hn (Z w.1),Hq,a,H g,A_,u6,u7,u8,Hl (Z w.1+1) 0 0,H g,Ho (Z w.1) 1,Hm k B m c,H m,Sb So,R_,V,du,dw,dz,d0,u21,u22,ea,eb,ec,ed,ee,ef,eg,ei,u31,u32,ej,ek,el,em,en,T_,U_,V_,u41,u42,Z_,aa,ab,ac,ad,af,aj,al,u51,u52,ao,ap,aq,ar,az,a0,a1,a2,a3,a4,a5,a6,a7,a8,a9,ba,bb,bc,bd,be,bf,bh,bi,bl,bm,bn,bo,bp,bq,br,bt,bv,b0,b1,b3,b4,b5,b6,b7,b8,ca,cb,cc,cd,ce,cf,cg,M_,N_,O_,P_,Su],[]⟩ wr:=by
 conv=>arg 2;whnf
 have eo:k<Z wr.1:=aI wr _ F_;have h:=Y (λW (hW:Sw (Z wr.1) wr W)=>
  have q:∀{x z:N}{v:Uj},E wr (A x z)=S v->E W (A x z)=S v:=λ{x z _} i=>oB hW i<|aI wr _ i
  And.intro (q ck) (And.intro (q F_) (And.intro (q e1) (And.intro (q e2) (And.intro (q e3) (And.intro (q e4) (q e5)))))))
 have b:Q (Ot wr wr.drew U []):=Y ⟨(Rf).drew,λ_ i=>(by cases i),λ_ i=>(by cases i)⟩;refine Y7 (λp=>E p (A (Z w.1) 1)=S (Hm k B m c)/\E p (A k<|B+g*6)=S (X C (J t.1) P)/\E p (A k<|B+g*6+1)=S (X M (J t.2) T)/\E p (A k<|B+g*6+2)=S (H t.3.1)/\E p (A k<|B+g*6+3)=S (H t.3.a)/\E p (A k<|B+g*6+4)=S (H t.3.3)/\E p (A k<|B+g*6+5)=S (H t.3.4)) λhHeld=>?_;generalize wr.drew=wd at*;refine X0 0 ?_;refine X0 1 ?_;refine X0 2 ?_;refine X0 3 ?_;refine X0 4 ?_;refine X0 5 ?_;refine X0 7 ?_;refine X0 8 ?_;refine X0 9 ?_;refine X0 10 ?_;refine X0 11 ?_;refine X0 13 ?_;refine X0 14 ?_;refine X0 15 ?_;refine X0 16 ?_;refine X0 17 ?_;refine X0 18 ?_;refine eS (rs:=[6,21]) vZ sP ?_;refine(bQ R (λK hK=>?_) (bQ R (λK hK=>?_) dY));rotate_left;go_simp;let⟨o,e,d⟩:=b.box;rw[<-e];replace b:=Y d;clear e d;refine hK _ _ (h _ b.s) λhHeld=>?_;clear hK
 try simp only[xX]
 refine Xs 6 λK hK=>?_;rotate_left
 all_goals (
  go_simp;refine(ZO t.3 _).mono ?_;rintro r yT⟨aT,cT,rfl,j,l⟩;replace b:=Y<|b.add j l;clear j l;refine hK _ _ (h _ b.s) λhHeld=>?_;clear hK
  try simp only[xX])
 rotate_left;refine Xs 12 λK hK=>?_;rotate_left;refine eS (rs:=[12,21]) vZ sP ?_;refine(bQ R (λK hK=>?_) (bQ R (λK hK=>?_) dY));rotate_left;go_simp;let⟨o,e,d⟩:=b.box;rw[<-e];replace b:=Y d;clear e d;refine hK _ _ (h _ b.s) λhHeld=>?_;clear hK
 try simp only[xX]
 refine Xs 12 λK hK=>?_
 all_goals (
  go_simp;refine(Bp L u (Y<|ci.keepS λq _ h2=>b.s.5 q<|show q<Z wr.1 by omega) (Y R) ch.2 (oN b.s.4)).mono ?_;rintro r yP⟨aP,cP,rfl,j,l⟩;replace b:=Y<|b.add j l;clear j l;refine hK _ _ (h _ b.s) λhHeld=>?_;clear hK
  try simp only[xX])
 refine Xs 19 λK hK=>?_;rotate_left;refine Xs 19 λK hK=>?_;rotate_left;refine eS (rs:=[19,21]) vZ sP ?_;refine(bQ R (λK hK=>?_) (bQ R (λK hK=>?_) dY));rotate_left;go_simp;let⟨o,e,d⟩:=b.box;rw[<-e];replace b:=Y d;clear e d;refine hK _ _ (h _ b.s) λhHeld=>?_;clear hK
 try simp only[xX]
 refine Xs 19 λK hK=>?_
 all_goals (
  go_simp;refine(AI).mono ?_;rintro r yR⟨aR,cR,rfl,j,l⟩;replace b:=Y<|b.add j l;clear j l;refine hK _ _ (h _ b.s) λhHeld=>?_;clear hK;refine X0 20 ?_;skip)
 refine Xs 22 λK hK=>?_;rotate_left;refine Xs 22 λK hK=>?_;rotate_left;refine Xs 22 λK hK=>?_;rotate_left;refine Xs 21 λK hK=>?_;go_simp;let⟨o,e,d⟩:=b.box;rw[<-e];replace b:=Y d;clear e d;refine hK _ _ (h _ b.s) λhHeld=>?_;clear hK;refine Xs 22 λK hK=>?_
 all_goals (
  obtain⟨f,-⟩:=b.2 o R;have cm:=f.cell (i:=0) vY;have cn:=f.cell (i:=1) vY;have co:=f.cell (i:=2) vY;have cp:=f.cell (i:=3) vY;have cq:=f.cell (i:=4) vY;have cr:=f.cell (i:=5) vY;have lz:=f.frozen;have cl:∀(W:Ub)(y s:N)(J_:Uj),y≠s->E (Se W (A o y) J_) (A o s)=E W (A o s):=λW y s J_ i=>cJ λr=>i<|fI Addr.off r
  clear f;go_simp;clear cm cn co cp cq cr lz cl;have hF:=AU (cT:=cT) (cP:=cP) (cR:=cR) b;refine hK _ _ (h _ hF.1) λhHeld=>?_;clear hK;refine Yq ?_;exact cj _ _ _ _ _ _ _ _ _ _ _ _ _ _ _ _ _ _ _ _ _ _ _ _ hF)
theorem uf(aq:N)(ar:Uy)(r c_:N)(f:Wi)(dw bq:N)(w:Ub)(ha:Q (Xp w dw bq ar f))(hx:Q (r=J f))(hB:bq<=Z w.1)(ho:Q (Jy aq f)):
 Sk prog 91 #[Sa #[H aq,X ar r c_]] w λe L=>∃a' c',e=Rt (X a' r c')/\Sw (Z w.1) w L/\WJ L (Z w.1) a' f:=by
 obtain⟨i0,hh,h6,h7,h8⟩:=Xq Qc;obtain⟨j0,hl,h0,h3,h4⟩:=Xq Qd;obtain⟨m0,ch,ci,cj,ck⟩:=Xq RH;have hn:r<=1000:=oP hx.o ho.1.2;have gg:Q (∀(b5:Ub)(e6:I)(al:N),Sw (Z w.1) w b5->al<r->_):=Y λb5 e6 al (hW:Sw (Z w.1) w b5) bo=>tY c_ e6 (Y<|ha.keep (hW.mono hB)) hx (oN hW.4) ho bo
 go_in
 go_wp2
 go_loopw [3,4] (λU_ n wr=>∃(k:N)(cs:Wo),k<=r/\n=H k/\Q (PL w aq ar r c_ f wr U_ k cs)) λ_ n _=>r-(intOf n).toNat
 case atStart=>
  refine⟨0,[],aN,R,Y ⟨Xb (Xb Rf _) _,sP,sP,sP,?_,λn _ h=>Sz h O⟩⟩;have h:=eI (base:=Z w.1+1) (e:=152) (size:=6) (D w<|.cells #[H aq,X ar r c_] 40) #[] 0 sP sP R;rw[aO]at h;exact h
 obtain⟨k,cs,hk,rfl,P_⟩:=hrel;have cc:=P_.4;by_cases hp:k<r
 .have be:k<J f:=oN hx.o;have ek:=P_.1;have hz:=P_.2;obtain⟨ab,cq,ea,⟨ir,io⟩,hc⟩:=(ha.keep<|ek.mono hB) k be;subst ea;obtain⟨pa,pc,ia,ic,e0,e1,⟨e2,e3,e4,e5⟩,em,ei⟩:=hc;have b1:=Y em;have db:=Y ei;have b0:=Y<|ho.10 f[k] (aH be);have ds:Q (∀al∈f[k].3.tg,0<=al/\al<(r:I)):=Y (by rw[hx.o];exact ho.1.3 f[k] (aH be));obtain⟨c,hX⟩:∃c,c=f[k]:=⟨_,R⟩;rw[<-hX]at e0 e1 e2 e3 e4 e5 b1 db b0 ds;have HX:=Y hX;clear hX em ei;refine FU (λ_ _ _ _ _ h=>h) ?_;intro il hN hQ;go_wp2_with fail
  rename_i Kc bv;have hg:ab<Z wr.1:=aI wr _ e0;have g8:Q (∀(a:N)(f0:Vu)(e7 e8 e9 fa fb fc fe fi fj fl fn fq fr fs fx fz f4 f5 f6 f7 ga:Uj)(Y_:Ub),Pv wr Y_ a c f0->Kc ⟨#[Sa #[H aq,Hm ab cq r c_],Hn (Z w.1),Hq,u3,H k,Hn a,u6,u7,u8,Hl (Z w.1+1) 0 0,H k,Ho (Z w.1) 1,Hm ab cq r c_,H r,Sb So,u15,u16,e7,e8,e9,fa,fb,fc,fe,fi,fj,fl,fn,fq,fr,fs,fx,fz,f4,f5,f6,f7,ga,u38,u39,u40,u41,u42,u43,u44,u45,u46,u47,u48,u49,u50,u51,u52,u53,u54,u55,u56,u57,u58,u59,u60,u61,u62,u63,u64,u65,u66,u67,u68,u69,u70,u71,u72,u73,u74,u75,u76,u77,u78,u79,u80,u81,u82,u83,u84,u85,u86,u87,u88,u89,u90,u91,u92,u93,u94,u95,u96,u97,u98,u99,u100,u101,u102,u103,Su],[]⟩ Y_):=Y (by
   intro a f0 e7 e8 e9 fa fb fc fe fi fj fl fn fq fr fs fx fz f4 f5 f6 f7 ga Y_ P;apply bv;have HA:=Y P;obtain⟨aT,cT,eT,eg⟩:=P.7;have dc:=Y eg;have c8:=Y eT;have i3:=P.2;have bm:=P.3.lt;have jj:=P.1.4;have ap:=Y<|ek.trans (P.1.mono O);have gb:=G (XU P.1 O) P_.3;have gd:=G (XU P.1 O) cc;have b3:=Y (show _/\_ from⟨gb,gd⟩);obtain⟨M,cl⟩:∃S_,S_=J c.3.tg:=⟨_,R⟩;have i5:M<=2:=by rw[cl];exact KJ _
   have a6:=Y cl;have ge:=Y<|oB P.1 e1 hg;have gr:=Y (db.keepS λq _ m=>P.1.5 q O);have gf:Q (∀j,j<=2->J ((c.3.tg.take j).flatMap (G2 f (k:I)))<=8000000):=Y (λj hj=>by
    have g:=V8 ho (k:I) (c.3.tg.take j);rw[dH]at g;have m:min j (J c.3.tg)<=2:=O;omega)
   have i2:Z w.1<a:=O;clear P eg eT cl bv e0 e1 e2 e3 e4 e5 cc gb gd b1;generalize wr=wo at*;go_wp2
   go_loopw [6] (λn wr=>∃(j:N)(U_:Uj),j<=M/\n=H j/\Q (Ow Y_ a f0 wr U_<|(c.3.tg.take j).flatMap (G2 f (k:I)))) λn _=>M-(intOf n).toNat
   case atStart=>exact⟨0,Hq,aN,R,Y<|Ow.start HA.3 HA.4⟩
   case round=>
    obtain⟨j,U_,hj,rfl,l⟩:=hrel;have h9:=l.4;have c0:E wr (A a 0)=S (X aT M cT):=by
     have h:=l.6.cell (i:=0) vY;rw[aM vY,c8.o,<-a6.o]at h;exact h
    by_cases hr:j<M
    .have cg:j<J c.3.tg:=by rw[<-a6.o];exact hr
     obtain⟨bt,ot,rfl,⟨⟨_,ed⟩,hf⟩,ee⟩:=dc j cg;have en:=ds _<|aH cg;have c2:E wr (A a 2)=S U_:=by
      have h:=l.6.cell (i:=2) vY;rw[aU R]at h;exact h
     have cz:=l.6.frozen 2;have dz:=l.cell O b3.1;have bl:=l.cell O b3.2;have ct:=l.cell ed ee;have da:Q ((c.3.tg.take<|j+1).flatMap (G2 f (k:I))=(c.3.tg.take j).flatMap (G2 f (k:I))++G2 f (k:I) c.3.tg[j]):=Y<|CL cg;obtain⟨tn,bo⟩:=bX en.1;rw[bo]at da ct;have hw:tn<r:=O;have cx:=Y (gg.o wr.drew (k:I) tn ⟨G l.1 ap.1,G l.2 ap.2,G l.3 ap.3,aJ ap.4 l.4,λq hq=>G (l.5 q (oN ap.4) O) (ap.5 q hq)⟩ hw);have dd:=Y<|gf.o j O;have dk:=Y<|tQ ho (k:I) (tn:I);have bd:a<Z wr.1:=O;have bp:Z w.1<Z wr.1:=O;generalize G2 f (k:I) (tn:I)=eu at*;generalize (c.3.tg.take j).flatMap (G2 f (k:I))=el at*;clear ee en bo;go_wp2_with fail
     refine Y7 (λL=>E L (A (Z w.1) 0)=S (H aq)/\E L (A (Z w.1) 1)=S (Hm ab cq r c_)/\E L (A a 0)=S (Hm bt ot M cT)/\E L (A bt<|ot+j)=S (H tn)) λhHeld=>?_;refine X0 0 ?_;refine X0 2 ?_;refine X0 3 ?_;refine X0 4 ?_;refine X0 5 ?_;refine X0 6 ?_;refine X0 7 ?_;refine X0 8 ?_;refine eS (rs:=[1,9]) vZ sP ?_;refine(bQ R (λK hK=>?_) (bQ R (λK hK=>?_) dY));go_simp;refine hK _ _ kP λhHeld=>?_;clear hK
     try simp only[xX]
     refine Xs 9 λK hK=>?_;go_simp;refine cx.mono ?_;rintro e o⟨ad,c5,rfl,d,T⟩;have b:Sw (Z wr.1) wr o:=⟨d.1,d.2,d.3,d.4,d.5⟩;have u:=Y b;have a4:=Y T;have d0:=oB b c0 bd;have d2:=oB b c2 bd;have ba:=oB b dz bp;have bb:=oB b bl bp;have dt:=oB b ct<|aI wr _ ct;clear d T b;refine hK _ _ ⟨ba,bb,d0,dt⟩ λhHeld=>?_;clear hK;rotate_left;go_simp;refine cx.mono ?_;rintro e o⟨ad,c5,rfl,d,T⟩;have b:Sw (Z wr.1) wr o:=⟨d.1,d.2,d.3,d.4,d.5⟩;have u:=Y b;have a4:=Y T;have d0:=oB b c0 bd;have d2:=oB b c2 bd;have ba:=oB b dz bp;have bb:=oB b bl bp;have dt:=oB b ct<|aI wr _ ct;clear d T b;refine hK _ _ ⟨ba,bb,d0,dt⟩ λhHeld=>?_;clear hK
     try simp only[xX]
     refine Xs 1 λK hK=>?_;go_simp;refine hK _ _ kP λhHeld=>?_;clear hK
     all_goals (
      refine Xs 10 λK hK=>?_;refine d6 R _ _ 35 R (Z Y_.1) 2 m0 (H 0) 1 8 underlying35 ch ci cj ck R vY U_ (J el) (el.map<|Value.int S6) R ?s1 ad (J eu) c5 (eu.map<|Value.int S6) R sP ?s2 ?s3 ?s4 ?s5 ?s6 ?_
      case s1=>exact Zl l.7 λx e=>u.5 x (l.7.lt x e).2
      case s2=>exact EZ a4
      case s3=>intro v hv;obtain⟨js,_,rfl⟩:=aY.1 hv;rfl
      case s4=>have:=dd.o;have:=dk.o;unfold maxLen;omega
      case s5=>have:=dd.o;have:=dk.o;omega
      case s6=>have:=u.4;omega
      intro u1 V cn cf _ _;obtain⟨av,cv,eb,_⟩:=Xk (xs:=el++eu) (by rw[bG];exact cn);obtain⟨ln,ej⟩:∃S_,S_=J (el++eu):=⟨_,R⟩;rw[<-ej]at eb;subst eb;clear ej;have gl:=Y cf;have gv:Q (Sx V (Z Y_.1) 2 1 (X av ln cv) (J (el++eu)) ((el++eu).map (Si S6))):=Y (by rw[aQ,bG];exact cn);have af:∀q,q<Z Y_.1->V.1[q]?=o.1[q]?:=λq hq=>cf.5 q (oN u.4) (λe=>by have:=(l.7.lt q e.symm).1;omega);have g0:=G (Xc<|af a bm) d0;have g2:=G (Xc<|af a bm) d2;have gz:V.frozen? (A a 2)=Sn:=by rw[bJ (a:=(A a 2)) (af a bm)];exact G (u.frozen (p:=A a 2) bd) cz
      have b6:=G (Xc<|af (Z w.1) O) ba;have b7:=G (Xc<|af (Z w.1) O) bb;have gt:=G (Xc<|af bt hf) dt;have g4:=Y<|l.push (u':=X av ln cv) (qs:=eu) bm u gl gv;clear cn cf af d0 d2 ba bb dt hHeld;refine hK _ _ ⟨b6,b7,g0,gt⟩ λhHeld=>?_;clear hK;refine X0 11 ?_;refine Xs 12 λK hK=>?_;go_simp;have y:∀(i T_:N)(v:Uj),(i≠a\/T_≠2)->E V (A i T_)=S v->E (Se V (A a 2) (X av ln cv)) (A i T_)=S v:=λi T_ v g m=>(cJ (by
       intro e;injection e with e1 e2;obtain g|g:=g;·exact g e1.symm
       exact g e2.symm)).trans m
      refine hK _ _ ⟨y _ _ _ (bC O) b6,y _ _ _ (bC O) b7,y _ _ _ (aZ vY) g0,y _ _ _ (bC ed) gt⟩ λhHeld=>?_;clear hK hHeld y b6 b7 g0 g2 gz gt
      try simp only[xX]
      refine Yq ?_;go_wp2
      exact⟨⟨j+1,X av ln cv,O,gM,Y<|by rw[da.o];exact g4⟩,SA⟩)
    have gs:Q (j=J c.3.tg):=Y<|oN a6.o
    have c7:Q ((c.3.tg.take j).flatMap (G2 f (k:I))=XP f k):=Y (by
     rw[aW<|oN gs.o];unfold XP;rw[aC be,HX.o])
    have ao:Q (Ow Y_ a f0 wr U_<|XP f k):=Y (by rw[<-c7.o];exact l);have b4:=Y h9;have gh:=Y<|l.cell O b3.2;have cw:=Y<|l.cell O ge;have gq:=Y (gr.keepS λq _ m=>l.5 q O O);have ca:a<Z wr.1:=O;clear l c7;go_wp2_with fail
    clear c0;generalize wr=w2 at*;obtain⟨nI,bn⟩:∃S_,S_=J c.2:=⟨_,R⟩;rw[<-bn]at cw;have i4:nI<=4000:=by rw[bn];exact b0.1
    have dl:=Y bn;clear bn
    go_loopw [7] (λn wr=>∃(q:N)(ur ud:Uj)(rs:Wo),q<=nI/\n=H q/\Q (OL w2 a (λn=>if n=2 then U_ else f0 n) wr ur ud rs ((Jv c).take q) ((Z2 c).take q))) λn _=>nI-(intOf n).toNat
    case atStart=>exact⟨0,Hq,Hq,[],aN,R,Y<|OL.start ao.6 (by rw[aM vY];exact HA.5) (by rw[aM vY];exact HA.6)⟩
    case round=>
     obtain⟨q,ur,ud,rs,hq,rfl,HI⟩:=hrel;have ib:=HI.4;have bl:=G (Xc<|HI.5 (Z w.1) O O) gh;have hb:=G (Xc<|HI.5 ab O O) cw;by_cases ht:q<nI
     .have cp:q<J c.2:=by rw[<-dl.o];exact ht
      obtain⟨bi,oi,rfl,⟨i1,iv⟩,hi⟩:=gq q cp;have a0:=HI.5 bi O O;obtain⟨ep,eq,er,es,et⟩:=hi;have r0:=G (Xc a0) ep;have r1:=G (Xc a0) eq;have r2:=G (Xc a0) er;have r3:=G (Xc a0) es;have r4:=G (Xc a0) et;have a9:Q ((Jv c).take (q+1)=(Jv c).take q++[Iw c.2[q]]):=Y (by unfold Jv;rw[X7<|by simpa using cp];simp);have a8:Q ((Z2 c).take (q+1)=(Z2 c).take q++[H7 c.2[q]]):=Y (by unfold Z2;rw[X7<|by simpa using cp];simp);have di:Q (J ((Jv c).take q)=q):=Y (by rw[dH];unfold Jv;rw[bK];omega);have bh:Q (J ((Z2 c).take q)=q):=Y (by rw[dH];unfold Z2;rw[bK];omega);obtain⟨cr,hy⟩:∃cr,cr=c.2[q]:=⟨_,R⟩;rw[<-hy]at r0 r1 r2 r3 r4 a9 a8;obtain⟨t,p,B,C,z⟩:=cr;simp only at r0 r1 r2 r3 r4;clear ep eq er es et a0 hy;generalize (Jv c).take q=zr at*;generalize (Z2 c).take q=zd at*;go_wp2_with fail
      have he:(λx9:Ub=>Sw (Z wr.1) wr x9/\Z wr.1<Z x9.1/\(∀W v,#[H t,H p,H B,H C,H z][W]?=S v->E x9 (A (Z wr.1) W)=S v)) (D wr<|.cells #[H t,H p,H B,H C,H z] 59):=⟨Xb Rf _,sP,(λW v h=>by
       rw[eC];exact h)⟩
      generalize D wr _=s at*;obtain⟨b8,L_,a1⟩:=he;have n0:Cl s (Z wr.1) 0 (H t):=a1 0 _ R;have n1:Cl s (Z wr.1) 1 (H p):=a1 1 _ R;have n2:Cl s (Z wr.1) 2 (H B):=a1 2 _ R;have n3:Cl s (Z wr.1) 3 (H C):=a1 3 _ R;have n4:Cl s (Z wr.1) 4 (H z):=a1 4 _ R;have O_:=Y<|HI.below b8;have jl:=b8.4;have cb:a<Z s.1:=O;have s3:E s (A a 3)=S ur:=by
       have h:=O_.6.cell (i:=3) vY;rw[aU R]at h;exact h
      have ih:=O_.6.frozen 3;have du:=Y λx e=>(O_.7.lt x e).2;have g7:=Y λx e=>(HI.7.lt x e).2;have g5:=Y λx e=>(O_.10.lt x e).2;clear a1 b8 r0 r1 r2 r3 r4 bl hb;refine Y7 (λL=>E L (A (Z wr.1) 0)=S (H t)/\E L (A (Z wr.1) 1)=S (H p)/\E L (A (Z wr.1) 2)=S (H B)/\E L (A (Z wr.1) 3)=S (H C)/\E L (A (Z wr.1) 4)=S (H z)) λhHeld=>?_;refine X0 0 ?_;refine X0 2 ?_;refine eS (rs:=[1,3]) vZ sP ?_;refine(bQ R (λK hK=>?_) (bQ R (λK hK=>?_) dY))
      focus
       go_simp;refine hK _ _ kP λhHeld=>?_;clear hK
       try simp only[xX]
       refine Xs 3 λK hK=>?_;go_simp;refine(Wv ⟨t,p,B,C,z⟩ s.drew).mono ?_;rintro e o⟨a5,c5,rfl,d,T⟩;have b:Sw (Z s.1) s o:=⟨d.1,d.2,d.3,d.4,d.5⟩;have u:=Y b;have a4:Q (Xf o (Z s.1) (Z o.1) a5<|Iw ⟨t,p,B,C,z⟩):=Y T;have d3:=oB b s3 cb;have p0:=oB b n0 L_;have p1:=oB b n1 L_;have p2:=oB b n2 L_;have p3:=oB b n3 L_;have p4:=oB b n4 L_;obtain⟨lr,ac⟩:∃S_,S_=J (Iw ⟨t,p,B,C,z⟩):=⟨_,R⟩;rw[<-ac];have df:=Y ac;clear d T b ac;refine hK _ _ ⟨p0,p1,p2,p3,p4⟩ λhHeld=>?_;clear hK;refine X0 4 ?_;refine Xs 5 λK hK=>?_;go_simp;refine hK _ _ kP λhHeld=>?_;clear hK
      rotate_left
      focus
       go_simp;refine(Wv ⟨t,p,B,C,z⟩ s.drew).mono ?_;rintro e o⟨a5,c5,rfl,d,T⟩;have b:Sw (Z s.1) s o:=⟨d.1,d.2,d.3,d.4,d.5⟩;have u:=Y b;have a4:Q (Xf o (Z s.1) (Z o.1) a5<|Iw ⟨t,p,B,C,z⟩):=Y T;have d3:=oB b s3 cb;have p0:=oB b n0 L_;have p1:=oB b n1 L_;have p2:=oB b n2 L_;have p3:=oB b n3 L_;have p4:=oB b n4 L_;obtain⟨lr,ac⟩:∃S_,S_=J (Iw ⟨t,p,B,C,z⟩):=⟨_,R⟩;rw[<-ac];have df:=Y ac;clear d T b ac;refine hK _ _ ⟨p0,p1,p2,p3,p4⟩ λhHeld=>?_;clear hK
       try simp only[xX]
       refine X0 4 ?_;refine eS (rs:=[1,5]) vZ sP ?_;refine(bQ R (λK hK=>?_) (bQ R (λK hK=>?_) dY))
       focus
        go_simp;refine hK _ _ kP λhHeld=>?_;clear hK
        try simp only[xX]
        refine Xs 5 λK hK=>?_;go_simp;refine hK _ _ kP λhHeld=>?_;clear hK
       rotate_left;go_simp;refine hK _ _ kP λhHeld=>?_;clear hK
       try simp only[xX]
       have hd:E (D o<|.cells #[X a5 lr c5] 89) (A a 3)=S ur:=oB (Xb (Below.refl (Z o.1) o) _) d3 (by have:=u.4;show a<_;omega);refine Xs 1 λK hK=>?_;go_simp;refine hK _ _ kP λhHeld=>?_;clear hK
      all_goals (
       refine Xs 6 λK hK=>?_;refine d6 R _ _ 78 R (Z w2.1) 89 j0 (Sa #[Hq]) 1 24 underlying78 hl h0 h3 h4 R vY ur (J rs) rs R ?s1 (A (Z o.1) 0) 1 1 [X a5 lr c5] R R ?s2 ?s3 ?s4 ?s5 ?s6 ?_
       case s1=>exact(Zl O_.7 λx e=>u.5 x<|du x e).alloc _
       case s2=>exact cell_one_new _ _ _
       case s3=>intro v hv;simp at hv;subst hv;rfl
       case s4=>have g:=O_.8;have m:=di.o;unfold maxLen;omega
       case s5=>have g:=O_.8;have m:=di.o;omega
       case s6=>have:=u.4;simp;omega
       intro u6 V co ce _ ec;obtain⟨g6,c6,rfl,_,_⟩:=Xm co O;have gp:=Y<|O_.below (Xg u<|Xb (Below.refl (Z o.1) o) (Sc #[X a5 lr c5] 89));have Q_:=Y (gp.pushR (c5:=c5) (ys:=Iw ⟨t,p,B,C,z⟩) ca (B0:=Z s.1) O du g5 ((a4.keep<|Xb (Below.refl (Z o.1) o) _).mono aA sP) ce (by rw[<-df.o];exact co) (by rw[aO];simpa using ec));have cm:=λW g m=>G (ce.5 W SB m) (Below.heap_alloc _ _ _ g);have i6:=u.4;have cd:=cm a O (λe=>by have:=(O_.7.lt a e.symm).1;omega);have az:=cm (Z wr.1) O (λe=>by have:=g7 _ e.symm;omega);have g3:=G (Xc cd) d3;have gz:V.frozen? (A a 3)=Sn:=by rw[bJ (a:=(A a 3)) cd];exact G (u.frozen (p:=A a 3) cb) ih
       have t0:=G (Xc az) p0;have t1:=G (Xc az) p1;have t2:=G (Xc az) p2;have t3:=G (Xc az) p3;have t4:=G (Xc az) p4;clear co ce ec cm cd az p0 p1 p2 p3 p4 d3 hHeld
       (try clear hd)
       refine hK _ _ ⟨t0,t1,t2,t3,t4⟩ λhHeld=>?_;clear hK;refine X0 7 ?_;refine Xs 8 λK hK=>?_;go_simp;have y:∀(T_:N)(v:Uj),E V (A (Z wr.1) T_)=S v->E (Se V (A a 3) (Hl g6 (J rs+1) c6)) (A (Z wr.1) T_)=S v:=λT_ v m=>G (bH V (A a 3) (A (Z wr.1) T_) _ (by show a≠Z wr.1;omega)) m;refine hK _ _ ⟨y _ _ t0,y _ _ t1,y _ _ t2,y _ _ t3,y _ _ t4⟩ λhHeld=>?_;have ey:=y _ _ t0;have ez:=y _ _ t1;clear hK hHeld y t0 t1 t2 t3 t4 g3 gz
       try simp only[xX]
       refine Yq ?_;generalize Se V _ _=N_ at*;go_wp2_with fail
       refine(nZ t N_).mono ?_;rintro e w8⟨rfl,eo⟩;rw[eo];clear eo w8;have ev:E N_ (A a 4)=S ud:=by
        have h:=Q_.6.cell (i:=4) vY;rw[aM vY,aU R]at h;exact h
       cases hdb:dB t
       .have a3:Q (H7 ⟨t,p,B,C,z⟩=(-1)):=Y (by unfold H7;simp only[hdb];simp);clear hdb;go_wp2_with (at_builtin;refine bT _ R _ _ 35 R (Z w2.1) 2 m0 (H 0) 1 8 underlying35 ch ci cj ck R vY _ _ _ R (Q_.10.alloc _) (A (Z N_.1) 0) 1 1 [H (-1)] R R ?c1 ?c2 ?c3 ?c4 ?c5 ?_)
        case c1=>
         intro j' u' F
         match j',F with
         |0,F=>simp at F;subst F;simp[Addr.add]
        case c2=>intro u' W_;simp at W_;subst W_;rfl
        case c3=>have:=bh.o;unfold maxLen;omega
        case c4=>have:=bh.o;omega
        case c5=>have:=Q_.4;simp;omega
        intro u9 Z_ J_ I_ _ V_;obtain⟨g9,c9,rfl,_,_⟩:=Xm J_ O;have R_:=Y<|Q_.below (Xb (Below.refl (Z N_.1) N_) (Sc #[H (-1)] 2));have aj:Z_.1[a]?=(D N_<|.cells #[H (-1)] 2).1[a]?:=I_.5 a (by have:=R_.6.lt;exact this) (λe=>by have:=(Q_.10.lt a e.symm).1;omega);have k4:E Z_ (A a 4)=S ud:=by
         have h:=R_.6.cell (i:=4) vY;rw[aM vY,aU R]at h;exact G (Xc aj) h
        have kz:Z_.frozen? (A a 4)=Sn:=by rw[bJ (a:=(A a 4)) aj];exact R_.6.frozen 4
        have a7:=Y (R_.pushD (x:=(-1)) ca I_ J_ (by rw[aO];exact V_));clear J_ I_ V_ aj ey ez ev;go_wp2_with fail
        refine⟨?_,SA⟩
        first
         |exact⟨q+1,_,_,_,O,gM,Y<|by rw[a9.o,a8.o,a3.o];exact a7⟩
         |((repeat apply gP);refine⟨?_,R⟩;exact⟨q+1,_,_,_,O,gM,Y<|by rw[a9.o,a8.o,a3.o];exact a7⟩)
       have a3:Q (H7 ⟨t,p,B,C,z⟩=p):=Y (by unfold H7;simp only[hdb];simp);clear hdb;go_wp2_with (at_builtin;refine bT _ R _ _ 35 R (Z w2.1) 2 m0 (H 0) 1 8 underlying35 ch ci cj ck R vY _ _ _ R (Q_.10.alloc _) (A (Z N_.1) 0) 1 1 [H p] R R ?c1 ?c2 ?c3 ?c4 ?c5 ?_)
       case c1=>
        intro j' u' F
        match j',F with
        |0,F=>simp at F;subst F;simp[Addr.add]
       case c2=>intro u' W_;simp at W_;subst W_;rfl
       case c3=>have:=bh.o;unfold maxLen;omega
       case c4=>have:=bh.o;omega
       case c5=>have:=Q_.4;simp;omega
       intro u9 Z_ J_ I_ _ V_;obtain⟨g9,c9,rfl,_,_⟩:=Xm J_ O;have R_:=Y<|Q_.below (Xb (Below.refl (Z N_.1) N_) (Sc #[H p] 2));have aj:Z_.1[a]?=(D N_<|.cells #[H p] 2).1[a]?:=I_.5 a (by have:=R_.6.lt;exact this) (λe=>by have:=(Q_.10.lt a e.symm).1;omega);have k4:E Z_ (A a 4)=S ud:=by
        have h:=R_.6.cell (i:=4) vY;rw[aM vY,aU R]at h;exact G (Xc aj) h
       have kz:Z_.frozen? (A a 4)=Sn:=by rw[bJ (a:=(A a 4)) aj];exact R_.6.frozen 4
       have a7:=Y (R_.pushD (x:=p) ca I_ J_ (by rw[aO];exact V_));clear J_ I_ V_ aj ey ez ev;go_wp2_with fail
       refine⟨?_,SA⟩
       first
        |exact⟨q+1,_,_,_,O,gM,Y<|by rw[a9.o,a8.o,a3.o];exact a7⟩
        |((repeat apply gP);refine⟨?_,R⟩;exact⟨q+1,_,_,_,O,gM,Y<|by rw[a9.o,a8.o,a3.o];exact a7⟩))
     have dn:Q (q=J c.2):=Y<|oN dl.o
     have aa:Q (OL w2 a (λn=>if n=2 then U_ else f0 n) wr ur ud rs (Jv c) (Z2 c)):=Y (by
      have h:=HI.o;rw[aW (by unfold Jv;rw[bK];have:=dn.o;omega),aW (by unfold Z2;rw[bK];have:=dn.o;omega)]at h;exact h)
     obtain⟨⟨aR,cR,eR,hR⟩,⟨aD,cD,eD,hD⟩⟩:=aa.fin;obtain⟨aP,cP,eP,hP⟩:=HA.8;obtain⟨aE,cE,eE,hE⟩:=HA.9;obtain⟨a2,c2,e2,ef⟩:=Xk ao.7;have bf:=Y HA.1;have bc:=λW g m=>G (aa.5 W (oN b4.o) m) (ao.5 W g m)
     have br:Q (Sw (Z wo.1) wo wr):=Y ⟨G aa.1<|G ao.1 bf.1,G aa.2<|G ao.2 bf.2,G aa.3<|G ao.3 bf.3,oN b4.o,λW hu=>G (bc W O O) (bf.5 W hu)⟩;have g1:=Y (Zl P_.5 λx e=>br.5 x (P_.5.lt x e).2);have gi:Q (VO wr (λab=>Z wo.1<=ab) (jo (X aT M cT) (X aP (J c.1) cP) (X a2 (J (XP f k)) c2) (X aR (J (Jv c)) cR) (X aD (J (Z2 c)) cD) (X aE (J (Id c.3)) cE)) f[k] (XP f k)):=Y (by
      rw[<-HX.o];have jf:=b4.o;refine⟨⟨aT,cT,by rw[<-a6.o];rfl,?_⟩,⟨aP,cP,by rw[bK];rfl,?_⟩,⟨a2,c2,R,?_⟩,⟨aR,cR,R,?_⟩,⟨aD,cD,R,?_⟩,⟨aE,cE,R,?_⟩⟩;·exact(dc.keep (w':=wr) (λi g m=>bc i g m.2) O).mono λ_ _ h=>h.1
      .exact(hP.keep (w':=wr) (λi g m=>bc i g m.2) O).mono λ_ _ h=>h.1
      .have h5:=Yv.of_at ef aA (P:=λi=>Z Y_.1<=i) λi g _=>g;exact(h5.keep (w':=wr) (λi g m=>aa.5 i g O) ib).mono λi _ h=>by show Z wo.1<=i;have h':=h;omega
      .exact hR.mono λi _ h=>by show Z wo.1<=i;have h':=h;omega
      .exact hD.mono λi _ h=>by show Z wo.1<=i;have h':=h;omega
      exact(hE.keep (w':=wr) (λi g m=>bc i g m.2) O).mono λ_ _ h=>h.1)
     have NC:=λ(n:N)(h:n<6)=>aa.6.cell h
     have x0:E wr (A a 0)=S (X aT M cT):=by
      have h:=NC 0 vY;simp only[Nat.reduceEqDiff,fD]at h;rw[c8.o,<-a6.o]at h;exact h
     have x1:E wr (A a 1)=S (X aP (J c.1) cP):=by
      have h:=NC 1 vY;simp only[Nat.reduceEqDiff,fD]at h;rw[eP]at h;exact h
     have x2:E wr (A a 2)=S (X a2 (J (XP f k)) c2):=by
      have h:=NC 2 vY;simp only[Nat.reduceEqDiff,fD,gG]at h;rw[e2]at h;exact h
     have x3:E wr (A a 3)=S (X aR (J (Jv c)) cR):=by
      have h:=NC 3 vY;simp only[Nat.reduceEqDiff,fD,gG]at h;rw[eR]at h;exact h
     have x4:E wr (A a 4)=S (X aD (J (Z2 c)) cD):=by
      have h:=NC 4 vY;simp only[Nat.reduceEqDiff,fD,gG]at h;rw[eD]at h;exact h
     have x5:E wr (A a 5)=S (X aE (J (Id c.3)) cE):=by
      have h:=NC 5 vY;simp only[Nat.reduceEqDiff,fD]at h;rw[eE]at h;exact h
     generalize J c.1=nP at*;generalize J (XP f k)=l2 at*;generalize J (Jv c)=lR at*;generalize J (Z2 c)=lD at*;generalize J (Id c.3)=lE at*;clear hR hD hP hE ef eR eD eP eE e2 NC bc;go_wp2_with (at_builtin;refine bT _ R _ _ 149 R (Z w.1+1) 152 i0 (Sa #[Hq,Hq,Hq,Hq,Hq,Hq]) 6 144 underlying149 hh h6 h7 h8 R vY _ _ _ R (g1.alloc _) (A (Z wr.1) 0) 1 1 [X aT M cT,X aP nP cP,X a2 l2 c2,X aR lR cR,X aD lD cD,X aE lE cE] R R ?c1 ?c2 ?c3 ?c4 ?c5 ?_)
     case c1=>
      intro j' u' F;rw[ja,eC];simpa using F
     case c2=>
      intro u' W_;simp at W_;obtain rfl|rfl|rfl|rfl|rfl|rfl:=W_<;>rfl
     case c3=>unfold maxLen;omega
     case c4=>omega
     case c5=>have:=br.4;simp;omega
     intro u9 Z_ J_ I_ _ V_;have dj:=Y (P_.next (f:=jo (X aT M cT) (X aP nP cP) (X a2 l2 c2) (X aR lR cR) (X aD lD cD) (X aE lE cE)) be (Xg br<|Xb (Below.refl (Z wr.1) wr) _) (gi.keep (λi g _=>Below.heap_alloc _ _ _ g) sP) I_ J_ (by rw[aO];exact V_));clear J_ I_ V_ x0 x1 x2 x3 x4 x5;go_wp2_with fail
     refine hN _ _ ?_;refine⟨?_,SA⟩
     first
      |exact⟨k+1,_,O,gM,dj⟩
      |((repeat apply gP);refine⟨?_,R⟩;exact⟨k+1,_,O,gM,dj⟩))
  clear bv;exact Ga dw bq pa ia pc ic c _ _ _ _ _ _ _ _ _ _ _ _ _ _ _ _ _ _ _ _ _ _ _ _ _ _ _ _ _ _ _ _ _ _ _ _ _ _ _ _ _ _ _ _ _ _ _ _ _ _ (Y λc_ ar al v w h=>hQ c_ ar al v w h) hB hz hp cc e0 e1 e2 e3 e4 e5 b1 b0 g8
 go_wp2;go_ret;have hm:k=J f:=oN hx.o;have h:=P_.o;rw[hm]at h;obtain⟨a',c',rfl,hF⟩:=h.fin;exact⟨a',c',by rw[hx.o];rfl,P_.1,hF⟩
end Go.Proofs.YtnggdhnpjfigjaaGreatDoor
