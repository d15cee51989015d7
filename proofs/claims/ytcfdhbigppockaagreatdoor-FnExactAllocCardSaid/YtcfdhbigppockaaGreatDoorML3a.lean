import Derived.Test.YtcfdhbigppockaaGreatDoorPL3
namespace Go.Proofs.YtcfdhbigppockaaGreatDoor
set_option maxHeartbeats 8000000
set_option maxRecDepth 1000000
open Go.RowKit Go.Proofs.Tryz
variable{n m k B g c:Nat}{w:Ub}{a A:Uj}{R:Yh}
theorem Qc:(prog.info? 138).map (λi=>(i.8,i.3,i.4))=some (some<|.agg #[Hq,Hq,Hq,Hq,Hq,Hq],6,144):=vZ
theorem Qd:(prog.info? 80).map (λi=>(i.8,i.3,i.4))=some (some<|.agg #[Hq],1,24):=vZ
def jz(k:Nat):Code->Option Code
 |.region j ops d=>if j=k then some (.region j ops d)else none
 |.seq x y=>match jz k x with
  |some c=>some c
  |none=>jz k y
 |.block _ c=>jz k c
 |.scope c=>jz k c
 |.loop c=>jz k c
 |.cond _ x y=>match jz k x with
  |some c=>some c
  |none=>jz k y
 |_=>none
noncomputable def QB:Code:=(f76.9.bind<|jz 5).getD .skip
theorem FU{C:Code}{b:Yt}{a:Act}(d:∀c (a:Act) t v w,b (.panic c) (a.put (some t) v) w->b (.panic c) a w)(h:∀Q:Yt,Hs (∀a w,b .normal a w->Q .normal a w)->Hs (∀c (a:Act) t v w,Q (.panic c) (a.put (some t) v) w->Q (.panic c) a w)->C.wp R Q a w):C.wp R b a w:=h b (Xa λ_ _ h=>h) (Xa d)
theorem Ga(L u:Nat)(C G:Uy)(I H:Nat)(X:Xe){wr:Ub}{Q:Yt}{u6 u7 u8 R S du dw dz d0 u21 u22 ea eb ec ed ee ef eg ei u31 u32 ej ek el em en T U V u41 u42 Z aa ab ac ad af aj al u51 u52 ao:Uj}(ap aq ar az a0 a1 a2 a3 a4 a5 a6 a7 a8 a9 ba bb bc bd be bf bh bi bl bm bn bo bp bq br bt bv b0 b1 b3 b4 b5 b6 b7 b8 ca cb cc cd ce cf cg M N O P:Uj)(hQ:Hs (∀c (D:Act) t v w,Q (.panic c) (D.put (some t) v) w->Q (.panic c) D w))(hB:u<=w.1.size)(eq:w.1.size+2<=wr.1.size)(ep:g<m)(ck:wr.cell? (Hk w.1.size 1)=some (Hm k B m c))(F:wr.cell? (Hk k<|B+g*6)=some (.slice C X.1.length I))(e1:wr.cell? (Hk k<|B+g*6+1)=some (.slice G X.2.length H))(e2:wr.cell? (Hk k<|B+g*6+2)=some (Hp X.3.1))(e3:wr.cell? (Hk k<|B+g*6+3)=some (Hp X.3.a))(e4:wr.cell? (Hk k<|B+g*6+4)=some (Hp X.3.3))(e5:wr.cell? (Hk k<|B+g*6+5)=some (Hp X.3.4))(ci:Hs (Jw wr L u C X.1))(ch:Hs (X.2.length<=4000/\X.1.length<=4000))(cj:Hs (∀(E:Nat)(f0:Vu)(cs ct cv cw cx cz c6 c7 c8 c9 da db dc dd df di dj dk dl dn ds:Uj)(Y:Ub),Pv wr Y E X f0->Q .normal ⟨#[.agg #[Hp n,Hm k B m c],Hn w.1.size,Hq,a,Hp g,Hn E,u6,u7,u8,Hl (w.1.size+1) 0 0,Hp g,Ho w.1.size 1,Hm k B m c,Hp m,.bool true,R,S,cs,ct,cv,cw,cx,cz,c6,c7,c8,c9,da,db,dc,dd,df,di,dj,dk,dl,dn,ds,T,U,V,u41,u42,Z,aa,ab,ac,ad,af,aj,al,u51,u52,ao,ap,aq,ar,az,a0,a1,a2,a3,a4,a5,a6,a7,a8,a9,ba,bb,bc,bd,be,bf,bh,bi,bl,bm,bn,bo,bp,bq,br,bt,bv,b0,b1,b3,b4,b5,b6,b7,b8,ca,cb,cc,cd,ce,cf,cg,M,N,O,P,undef],[]⟩ Y)):
 Code.wp prog QB Q ⟨#[.agg #[Hp n,Hm k B m c],Hn w.1.size,Hq,a,Hp g,A,u6,u7,u8,Hl (w.1.size+1) 0 0,Hp g,Ho w.1.size 1,Hm k B m c,Hp m,.bool true,R,S,du,dw,dz,d0,u21,u22,ea,eb,ec,ed,ee,ef,eg,ei,u31,u32,ej,ek,el,em,en,T,U,V,u41,u42,Z,aa,ab,ac,ad,af,aj,al,u51,u52,ao,ap,aq,ar,az,a0,a1,a2,a3,a4,a5,a6,a7,a8,a9,ba,bb,bc,bd,be,bf,bh,bi,bl,bm,bn,bo,bp,bq,br,bt,bv,b0,b1,b3,b4,b5,b6,b7,b8,ca,cb,cc,cd,ce,cf,cg,M,N,O,P,undef],[]⟩ wr:=by
 conv=>arg 2;whnf
 have eo:k<wr.1.size:=aI wr _ F;have h:=Xa (λW (hW:Below wr.1.size wr W)=>
  have q:∀{x z:Nat}{v:Uj},wr.cell? (Hk x z)=some v->W.cell? (Hk x z)=some v:=λ{x z _} i=>oB hW i<|aI wr _ i
  And.intro (q ck) (And.intro (q F) (And.intro (q e1) (And.intro (q e2) (And.intro (q e3) (And.intro (q e4) (q e5)))))))
 have b:Hs (Ot wr wr.drew none []):=Xa ⟨(Below.refl _ _).drew,λ_ i=>(by cases i),λ_ i=>(by cases i)⟩;refine Y7 (λp=>p.cell? (Hk w.1.size 1)=some (Hm k B m c)/\p.cell? (Hk k<|B+g*6)=some (.slice C X.1.length I)/\p.cell? (Hk k<|B+g*6+1)=some (.slice G X.2.length H)/\p.cell? (Hk k<|B+g*6+2)=some (Hp X.3.1)/\p.cell? (Hk k<|B+g*6+3)=some (Hp X.3.a)/\p.cell? (Hk k<|B+g*6+4)=some (Hp X.3.3)/\p.cell? (Hk k<|B+g*6+5)=some (Hp X.3.4)) λhHeld=>?_;generalize wr.drew=wd at*;refine X0 0 ?_;refine X0 1 ?_;refine X0 2 ?_;refine X0 3 ?_;refine X0 4 ?_;refine X0 5 ?_;refine X0 7 ?_;refine X0 8 ?_;refine X0 9 ?_;refine X0 10 ?_;refine X0 11 ?_;refine X0 13 ?_;refine X0 14 ?_;refine X0 15 ?_;refine X0 16 ?_;refine X0 17 ?_;refine X0 18 ?_;refine eS (rs:=[6,21]) vZ sP ?_;refine(bQ rfl (λK hK=>?_) (bQ rfl (λK hK=>?_) dY));rotate_left;go_simp;let⟨o,e,d⟩:=b.box;rw[<-e];replace b:=Xa d;clear e d;refine hK _ _ (h _ b.s) λhHeld=>?_;clear hK
 try simp only[xX]
 refine Xs 6 λK hK=>?_;rotate_left
 all_goals (
  go_simp;refine(ZO X.3 _).mono ?_;rintro r yT⟨aT,cT,rfl,j,l⟩;replace b:=Xa<|b.add j l;clear j l;refine hK _ _ (h _ b.s) λhHeld=>?_;clear hK
  try simp only[xX])
 rotate_left;refine Xs 12 λK hK=>?_;rotate_left;refine eS (rs:=[12,21]) vZ sP ?_;refine(bQ rfl (λK hK=>?_) (bQ rfl (λK hK=>?_) dY));rotate_left;go_simp;let⟨o,e,d⟩:=b.box;rw[<-e];replace b:=Xa d;clear e d;refine hK _ _ (h _ b.s) λhHeld=>?_;clear hK
 try simp only[xX]
 refine Xs 12 λK hK=>?_
 all_goals (
  go_simp;refine(Bp L u (Xa<|ci.keepS λq _ h2=>b.s.5 q<|show q<wr.1.size by omega) (Xa rfl) ch.2 (oN b.s.4)).mono ?_;rintro r yP⟨aP,cP,rfl,j,l⟩;replace b:=Xa<|b.add j l;clear j l;refine hK _ _ (h _ b.s) λhHeld=>?_;clear hK
  try simp only[xX])
 refine Xs 19 λK hK=>?_;rotate_left;refine Xs 19 λK hK=>?_;rotate_left;refine eS (rs:=[19,21]) vZ sP ?_;refine(bQ rfl (λK hK=>?_) (bQ rfl (λK hK=>?_) dY));rotate_left;go_simp;let⟨o,e,d⟩:=b.box;rw[<-e];replace b:=Xa d;clear e d;refine hK _ _ (h _ b.s) λhHeld=>?_;clear hK
 try simp only[xX]
 refine Xs 19 λK hK=>?_
 all_goals (
  go_simp;refine(AI).mono ?_;rintro r yR⟨aR,cR,rfl,j,l⟩;replace b:=Xa<|b.add j l;clear j l;refine hK _ _ (h _ b.s) λhHeld=>?_;clear hK;refine X0 20 ?_;skip)
 refine Xs 22 λK hK=>?_;rotate_left;refine Xs 22 λK hK=>?_;rotate_left;refine Xs 22 λK hK=>?_;rotate_left;refine Xs 21 λK hK=>?_;go_simp;let⟨o,e,d⟩:=b.box;rw[<-e];replace b:=Xa d;clear e d;refine hK _ _ (h _ b.s) λhHeld=>?_;clear hK;refine Xs 22 λK hK=>?_
 all_goals (
  obtain⟨f,-⟩:=b.2 o rfl;have cm:=f.cell (i:=0) vY;have cn:=f.cell (i:=1) vY;have co:=f.cell (i:=2) vY;have cp:=f.cell (i:=3) vY;have cq:=f.cell (i:=4) vY;have cr:=f.cell (i:=5) vY;have lz:=f.frozen;have cl:∀(W:Ub)(y s:Nat)(J:Uj),y≠s->(W.setCell (Hk o y) J).cell? (Hk o s)=W.cell? (Hk o s):=λW y s J i=>cJ λr=>i<|fI Addr.off r
  clear f;go_simp;clear cm cn co cp cq cr lz cl;have hF:=AU (cT:=cT) (cP:=cP) (cR:=cR) b;refine hK _ _ (h _ hF.1) λhHeld=>?_;clear hK;refine Yq ?_;exact cj _ _ _ _ _ _ _ _ _ _ _ _ _ _ _ _ _ _ _ _ _ _ _ _ hF)
theorem uf(aq:Nat)(ar:Uy)(r c:Nat)(f:Wi)(dw bq:Nat)(w:Ub)(ha:Hs (Xp w dw bq ar f))(hx:Hs (r=f.length))(hB:bq<=w.1.size)(ho:Hs (Jy aq f)):
 Calls prog 76 #[.agg #[Hp aq,.slice ar r c]] w λe A=>∃a' c',e=.returned (.slice a' r c')/\Below w.1.size w A/\WJ A w.1.size a' f:=by
 obtain⟨i0,hh,h6,h7,h8⟩:=Xq Qc;obtain⟨j0,hl,h0,h3,h4⟩:=Xq Qd;obtain⟨m0,ch,ci,cj,ck⟩:=Xq RH;have hn:r<=1000:=oP hx.o ho.1.2;have gg:Hs (∀(b5:Ub)(e6:Int)(al:Nat),Below w.1.size w b5->al<r->_):=Xa λb5 e6 al (hW:Below w.1.size w b5) bo=>tY c e6 (Xa<|ha.keep (hW.mono hB)) hx (oN hW.4) ho bo
 go_in
 go_wp2
 go_loopw [3,4] (λU n wr=>∃(k:Nat)(cs:Wo),k<=r/\n=Hp k/\Hs (PL w aq ar r c f wr U k cs)) λ_ n _=>r-(intOf n).toNat
 case atStart=>
  refine⟨0,[],aN,rfl,Xa ⟨Xb (Xb (Below.refl _ _) _) _,sP,sP,sP,?_,λn _ h=>absurd h oM⟩⟩;have h:=eI (base:=w.1.size+1) (e:=138) (size:=6) (w.alloc<|.cells #[Hp aq,.slice ar r c] 37) #[] 0 sP sP rfl;rw[aO]at h;exact h
 obtain⟨k,cs,hk,rfl,P⟩:=hrel;have cc:=P.4;by_cases hp:k<r
 .have be:k<f.length:=oN hx.o;have ek:=P.1;have hz:=P.2;obtain⟨ab,cq,ea,⟨ir,io⟩,hc⟩:=(ha.keep<|ek.mono hB) k be;subst ea;obtain⟨pa,pc,ia,ic,e0,e1,⟨e2,e3,e4,e5⟩,em,ei⟩:=hc;have b1:=Xa em;have db:=Xa ei;have b0:=Xa<|ho.10 f[k] (aH be);have ds:Hs (∀al∈f[k].3.tg,0<=al/\al<(r:Int)):=Xa (by rw[hx.o];exact ho.1.3 f[k] (aH be));obtain⟨X,hX⟩:∃X,X=f[k]:=⟨_,rfl⟩;rw[<-hX]at e0 e1 e2 e3 e4 e5 b1 db b0 ds;have HX:=Xa hX;clear hX em ei;refine FU (λ_ _ _ _ _ h=>h) ?_;intro il hN hQ;go_wp2_with fail
  rename_i Kc bv;have hg:ab<wr.1.size:=aI wr _ e0;have g8:Hs (∀(a:Nat)(f0:Vu)(e7 e8 e9 fa fb fc fe fi fj fl fn fq fr fs fx fz f4 f5 f6 f7 ga:Uj)(Y:Ub),Pv wr Y a X f0->Kc ⟨#[.agg #[Hp aq,Hm ab cq r c],Hn w.1.size,Hq,u3,Hp k,Hn a,u6,u7,u8,Hl (w.1.size+1) 0 0,Hp k,Ho w.1.size 1,Hm ab cq r c,Hp r,.bool true,u15,u16,e7,e8,e9,fa,fb,fc,fe,fi,fj,fl,fn,fq,fr,fs,fx,fz,f4,f5,f6,f7,ga,u38,u39,u40,u41,u42,u43,u44,u45,u46,u47,u48,u49,u50,u51,u52,u53,u54,u55,u56,u57,u58,u59,u60,u61,u62,u63,u64,u65,u66,u67,u68,u69,u70,u71,u72,u73,u74,u75,u76,u77,u78,u79,u80,u81,u82,u83,u84,u85,u86,u87,u88,u89,u90,u91,u92,u93,u94,u95,u96,u97,u98,u99,u100,u101,u102,u103,undef],[]⟩ Y):=Xa (by
   intro a f0 e7 e8 e9 fa fb fc fe fi fj fl fn fq fr fs fx fz f4 f5 f6 f7 ga Y D;apply bv;have HA:=Xa D;obtain⟨aT,cT,eT,eg⟩:=D.7;have dc:=Xa eg;have c8:=Xa eT;have i3:=D.2;have bm:=D.3.lt;have jj:=D.1.4;have ap:=Xa<|ek.trans (D.1.mono oM);have gb:=(XU D.1 oM).trans P.3;have gd:=(XU D.1 oM).trans cc;have b3:=Xa (show _/\_ from⟨gb,gd⟩);obtain⟨M,cl⟩:∃S,S=X.3.tg.length:=⟨_,rfl⟩;have i5:M<=2:=by rw[cl];exact KJ _
   have a6:=Xa cl;have ge:=Xa<|oB D.1 e1 hg;have gr:=Xa (db.keepS λq _ m=>D.1.5 q oM);have gf:Hs (∀j,j<=2->((X.3.tg.take j).flatMap (G2 f (k:Int))).length<=8000000):=Xa (λj hj=>by
    have g:=V8 ho (k:Int) (X.3.tg.take j);rw[dH]at g;have m:min j X.3.tg.length<=2:=oM;omega)
   have i2:w.1.size<a:=oM;clear D eg eT cl bv e0 e1 e2 e3 e4 e5 cc gb gd b1;generalize wr=wo at*;go_wp2
   go_loopw [6] (λn wr=>∃(j:Nat)(U:Uj),j<=M/\n=Hp j/\Hs (Ow Y a f0 wr U<|(X.3.tg.take j).flatMap (G2 f (k:Int)))) λn _=>M-(intOf n).toNat
   case atStart=>exact⟨0,Hq,aN,rfl,Xa<|Ow.start HA.3 HA.4⟩
   case round=>
    obtain⟨j,U,hj,rfl,l⟩:=hrel;have h9:=l.4;have c0:wr.cell? (Hk a 0)=some (.slice aT M cT):=by
     have h:=l.6.cell (i:=0) vY;rw[aM vY,c8.o,<-a6.o]at h;exact h
    by_cases hr:j<M
    .have cg:j<X.3.tg.length:=by rw[<-a6.o];exact hr
     obtain⟨bt,ot,rfl,⟨⟨_,ed⟩,hf⟩,ee⟩:=dc j cg;have en:=ds _<|aH cg;have c2:wr.cell? (Hk a 2)=some U:=by
      have h:=l.6.cell (i:=2) vY;rw[aU rfl]at h;exact h
     have cz:=l.6.frozen 2;have dz:=l.cell oM b3.1;have bl:=l.cell oM b3.2;have ct:=l.cell ed ee;have da:Hs ((X.3.tg.take<|j+1).flatMap (G2 f (k:Int))=(X.3.tg.take j).flatMap (G2 f (k:Int))++G2 f (k:Int) X.3.tg[j]):=Xa<|CL cg;obtain⟨tn,bo⟩:=bX en.1;rw[bo]at da ct;have hw:tn<r:=oM;have cx:=Xa (gg.o wr.drew (k:Int) tn ⟨l.1.trans ap.1,l.2.trans ap.2,l.3.trans ap.3,aJ ap.4 l.4,λq hq=>(l.5 q (oN ap.4) oM).trans (ap.5 q hq)⟩ hw);have dd:=Xa<|gf.o j oM;have dk:=Xa<|tQ ho (k:Int) (tn:Int);have bd:a<wr.1.size:=oM;have bp:w.1.size<wr.1.size:=oM;generalize G2 f (k:Int) (tn:Int)=eu at*;generalize (X.3.tg.take j).flatMap (G2 f (k:Int))=el at*;clear ee en bo;go_wp2_with fail
     refine Y7 (λA=>A.cell? (Hk w.1.size 0)=some (Hp aq)/\A.cell? (Hk w.1.size 1)=some (Hm ab cq r c)/\A.cell? (Hk a 0)=some (Hm bt ot M cT)/\A.cell? (Hk bt<|ot+j)=some (Hp tn)) λhHeld=>?_;refine X0 0 ?_;refine X0 2 ?_;refine X0 3 ?_;refine X0 4 ?_;refine X0 5 ?_;refine X0 6 ?_;refine X0 7 ?_;refine X0 8 ?_;refine eS (rs:=[1,9]) vZ sP ?_;refine(bQ rfl (λK hK=>?_) (bQ rfl (λK hK=>?_) dY));go_simp;refine hK _ _ kP λhHeld=>?_;clear hK
     try simp only[xX]
     refine Xs 9 λK hK=>?_;go_simp;refine cx.mono ?_;rintro e o⟨ad,c5,rfl,d,E⟩;have b:Below wr.1.size wr o:=⟨d.1,d.2,d.3,d.4,d.5⟩;have u:=Xa b;have a4:=Xa E;have d0:=oB b c0 bd;have d2:=oB b c2 bd;have ba:=oB b dz bp;have bb:=oB b bl bp;have dt:=oB b ct<|aI wr _ ct;clear d E b;refine hK _ _ ⟨ba,bb,d0,dt⟩ λhHeld=>?_;clear hK;rotate_left;go_simp;refine cx.mono ?_;rintro e o⟨ad,c5,rfl,d,E⟩;have b:Below wr.1.size wr o:=⟨d.1,d.2,d.3,d.4,d.5⟩;have u:=Xa b;have a4:=Xa E;have d0:=oB b c0 bd;have d2:=oB b c2 bd;have ba:=oB b dz bp;have bb:=oB b bl bp;have dt:=oB b ct<|aI wr _ ct;clear d E b;refine hK _ _ ⟨ba,bb,d0,dt⟩ λhHeld=>?_;clear hK
     try simp only[xX]
     refine Xs 1 λK hK=>?_;go_simp;refine hK _ _ kP λhHeld=>?_;clear hK
     all_goals (
      refine Xs 10 λK hK=>?_;refine d6 rfl _ _ 41 rfl Y.1.size 2 m0 (Hp 0) 1 8 underlying41 ch ci cj ck rfl vY U el.length (el.map<|Value.int .i64) rfl ?s1 ad eu.length c5 (eu.map<|Value.int .i64) rfl sP ?s2 ?s3 ?s4 ?s5 ?s6 ?_
      case s1=>exact Zl l.7 λx e=>u.5 x (l.7.lt x e).2
      case s2=>exact EZ a4
      case s3=>intro v hv;obtain⟨js,_,rfl⟩:=aY.1 hv;rfl
      case s4=>have:=dd.o;have:=dk.o;unfold maxLen;omega
      case s5=>have:=dd.o;have:=dk.o;omega
      case s6=>have:=u.4;omega
      intro u1 H cn cf _ _;obtain⟨av,cv,eb,_⟩:=Xk (xs:=el++eu) (by rw[bG];exact cn);obtain⟨ln,ej⟩:∃S,S=(el++eu).length:=⟨_,rfl⟩;rw[<-ej]at eb;subst eb;clear ej;have gl:=Xa cf;have gv:Hs (H.ownsRow Y.1.size 2 1 (.slice av ln cv) (el++eu).length ((el++eu).map (Value.int .i64))):=Xa (by rw[aQ,bG];exact cn);have af:∀q,q<Y.1.size->H.1[q]?=o.1[q]?:=λq hq=>cf.5 q (oN u.4) (λe=>by have:=(l.7.lt q e.symm).1;omega);have g0:=(Xc<|af a bm).trans d0;have g2:=(Xc<|af a bm).trans d2;have gz:H.frozen? (Hk a 2)=false:=by rw[bJ (a:=(Hk a 2)) (af a bm)];exact(u.frozen (p:=Hk a 2) bd).trans cz
      have b6:=(Xc<|af w.1.size oM).trans ba;have b7:=(Xc<|af w.1.size oM).trans bb;have gt:=(Xc<|af bt hf).trans dt;have g4:=Xa<|l.push (u':=.slice av ln cv) (qs:=eu) bm u gl gv;clear cn cf af d0 d2 ba bb dt hHeld;refine hK _ _ ⟨b6,b7,g0,gt⟩ λhHeld=>?_;clear hK;refine X0 11 ?_;refine Xs 12 λK hK=>?_;go_simp;have y:∀(i T:Nat)(v:Uj),(i≠a\/T≠2)->H.cell? (Hk i T)=some v->(H.setCell (Hk a 2) (.slice av ln cv)).cell? (Hk i T)=some v:=λi T v g m=>(cJ (by
       intro e;injection e with e1 e2;obtain g|g:=g;·exact g e1.symm
       exact g e2.symm)).trans m
      refine hK _ _ ⟨y _ _ _ (bC oM) b6,y _ _ _ (bC oM) b7,y _ _ _ (aZ vY) g0,y _ _ _ (bC ed) gt⟩ λhHeld=>?_;clear hK hHeld y b6 b7 g0 g2 gz gt
      try simp only[xX]
      refine Yq ?_;go_wp2
      exact⟨⟨j+1,.slice av ln cv,oM,gM,Xa<|by rw[da.o];exact g4⟩,by simp[intOf];omega⟩)
    have gs:Hs (j=X.3.tg.length):=Xa<|oN a6.o
    have c7:Hs ((X.3.tg.take j).flatMap (G2 f (k:Int))=XP f k):=Xa (by
     rw[aW<|oN gs.o];unfold XP;rw[aC be,HX.o])
    have ao:Hs (Ow Y a f0 wr U<|XP f k):=Xa (by rw[<-c7.o];exact l);have b4:=Xa h9;have gh:=Xa<|l.cell oM b3.2;have cw:=Xa<|l.cell oM ge;have gq:=Xa (gr.keepS λq _ m=>l.5 q oM oM);have ca:a<wr.1.size:=oM;clear l c7;go_wp2_with fail
    clear c0;generalize wr=w2 at*;obtain⟨nI,bn⟩:∃S,S=X.2.length:=⟨_,rfl⟩;rw[<-bn]at cw;have i4:nI<=4000:=by rw[bn];exact b0.1
    have dl:=Xa bn;clear bn
    go_loopw [7] (λn wr=>∃(q:Nat)(ur ud:Uj)(rs:Wo),q<=nI/\n=Hp q/\Hs (OL w2 a (λn=>if n=2 then U else f0 n) wr ur ud rs ((Jv X).take q) ((Z2 X).take q))) λn _=>nI-(intOf n).toNat
    case atStart=>exact⟨0,Hq,Hq,[],aN,rfl,Xa<|OL.start ao.6 (by rw[aM vY];exact HA.5) (by rw[aM vY];exact HA.6)⟩
    case round=>
     obtain⟨q,ur,ud,rs,hq,rfl,HI⟩:=hrel;have ib:=HI.4;have bl:=(Xc<|HI.5 w.1.size oM oM).trans gh;have hb:=(Xc<|HI.5 ab oM oM).trans cw;by_cases ht:q<nI
     .have cp:q<X.2.length:=by rw[<-dl.o];exact ht
      obtain⟨bi,oi,rfl,⟨i1,iv⟩,hi⟩:=gq q cp;have a0:=HI.5 bi oM oM;obtain⟨ep,eq,er,es,et⟩:=hi;have r0:=(Xc a0).trans ep;have r1:=(Xc a0).trans eq;have r2:=(Xc a0).trans er;have r3:=(Xc a0).trans es;have r4:=(Xc a0).trans et;have a9:Hs ((Jv X).take (q+1)=(Jv X).take q++[Iw X.2[q]]):=Xa (by unfold Jv;rw[X7<|by simpa using cp];simp);have a8:Hs ((Z2 X).take (q+1)=(Z2 X).take q++[H7 X.2[q]]):=Xa (by unfold Z2;rw[X7<|by simpa using cp];simp);have di:Hs (((Jv X).take q).length=q):=Xa (by rw[dH];unfold Jv;rw[bK];omega);have bh:Hs (((Z2 X).take q).length=q):=Xa (by rw[dH];unfold Z2;rw[bK];omega);obtain⟨cr,hy⟩:∃cr,cr=X.2[q]:=⟨_,rfl⟩;rw[<-hy]at r0 r1 r2 r3 r4 a9 a8;obtain⟨t,p,B,C,z⟩:=cr;simp only at r0 r1 r2 r3 r4;clear ep eq er es et a0 hy;generalize (Jv X).take q=zr at*;generalize (Z2 X).take q=zd at*;go_wp2_with fail
      have he:(λx9:Ub=>Below wr.1.size wr x9/\wr.1.size<x9.1.size/\(∀G v,#[Hp t,Hp p,Hp B,Hp C,Hp z][G]?=some v->x9.cell? (Hk wr.1.size G)=some v)) (wr.alloc<|.cells #[Hp t,Hp p,Hp B,Hp C,Hp z] 66):=⟨Xb (Below.refl _ _) _,sP,(λG v h=>by
       rw[eC];exact h)⟩
      generalize wr.alloc _=s at*;obtain⟨b8,L,a1⟩:=he;have n0:Cl s wr.1.size 0 (Hp t):=a1 0 _ rfl;have n1:Cl s wr.1.size 1 (Hp p):=a1 1 _ rfl;have n2:Cl s wr.1.size 2 (Hp B):=a1 2 _ rfl;have n3:Cl s wr.1.size 3 (Hp C):=a1 3 _ rfl;have n4:Cl s wr.1.size 4 (Hp z):=a1 4 _ rfl;have O:=Xa<|HI.below b8;have jl:=b8.4;have cb:a<s.1.size:=oM;have s3:s.cell? (Hk a 3)=some ur:=by
       have h:=O.6.cell (i:=3) vY;rw[aU rfl]at h;exact h
      have ih:=O.6.frozen 3;have du:=Xa λx e=>(O.7.lt x e).2;have g7:=Xa λx e=>(HI.7.lt x e).2;have g5:=Xa λx e=>(O.10.lt x e).2;clear a1 b8 r0 r1 r2 r3 r4 bl hb;refine Y7 (λA=>A.cell? (Hk wr.1.size 0)=some (Hp t)/\A.cell? (Hk wr.1.size 1)=some (Hp p)/\A.cell? (Hk wr.1.size 2)=some (Hp B)/\A.cell? (Hk wr.1.size 3)=some (Hp C)/\A.cell? (Hk wr.1.size 4)=some (Hp z)) λhHeld=>?_;refine X0 0 ?_;refine X0 2 ?_;refine eS (rs:=[1,3]) vZ sP ?_;refine(bQ rfl (λK hK=>?_) (bQ rfl (λK hK=>?_) dY))
      focus
       go_simp;refine hK _ _ kP λhHeld=>?_;clear hK
       try simp only[xX]
       refine Xs 3 λK hK=>?_;go_simp;refine(Wv ⟨t,p,B,C,z⟩ s.drew).mono ?_;rintro e o⟨a5,c5,rfl,d,E⟩;have b:Below s.1.size s o:=⟨d.1,d.2,d.3,d.4,d.5⟩;have u:=Xa b;have a4:Hs (Xf o s.1.size o.1.size a5<|Iw ⟨t,p,B,C,z⟩):=Xa E;have d3:=oB b s3 cb;have p0:=oB b n0 L;have p1:=oB b n1 L;have p2:=oB b n2 L;have p3:=oB b n3 L;have p4:=oB b n4 L;obtain⟨lr,ac⟩:∃S,S=(Iw ⟨t,p,B,C,z⟩).length:=⟨_,rfl⟩;rw[<-ac];have df:=Xa ac;clear d E b ac;refine hK _ _ ⟨p0,p1,p2,p3,p4⟩ λhHeld=>?_;clear hK;refine X0 4 ?_;refine Xs 5 λK hK=>?_;go_simp;refine hK _ _ kP λhHeld=>?_;clear hK
      rotate_left
      focus
       go_simp;refine(Wv ⟨t,p,B,C,z⟩ s.drew).mono ?_;rintro e o⟨a5,c5,rfl,d,E⟩;have b:Below s.1.size s o:=⟨d.1,d.2,d.3,d.4,d.5⟩;have u:=Xa b;have a4:Hs (Xf o s.1.size o.1.size a5<|Iw ⟨t,p,B,C,z⟩):=Xa E;have d3:=oB b s3 cb;have p0:=oB b n0 L;have p1:=oB b n1 L;have p2:=oB b n2 L;have p3:=oB b n3 L;have p4:=oB b n4 L;obtain⟨lr,ac⟩:∃S,S=(Iw ⟨t,p,B,C,z⟩).length:=⟨_,rfl⟩;rw[<-ac];have df:=Xa ac;clear d E b ac;refine hK _ _ ⟨p0,p1,p2,p3,p4⟩ λhHeld=>?_;clear hK
       try simp only[xX]
       refine X0 4 ?_;refine eS (rs:=[1,5]) vZ sP ?_;refine(bQ rfl (λK hK=>?_) (bQ rfl (λK hK=>?_) dY))
       focus
        go_simp;refine hK _ _ kP λhHeld=>?_;clear hK
        try simp only[xX]
        refine Xs 5 λK hK=>?_;go_simp;refine hK _ _ kP λhHeld=>?_;clear hK
       rotate_left;go_simp;refine hK _ _ kP λhHeld=>?_;clear hK
       try simp only[xX]
       have hd:(o.alloc<|.cells #[.slice a5 lr c5] 80).cell? (Hk a 3)=some ur:=oB (Xb (Below.refl o.1.size o) _) d3 (by have:=u.4;show a<_;omega);refine Xs 1 λK hK=>?_;go_simp;refine hK _ _ kP λhHeld=>?_;clear hK
      all_goals (
       refine Xs 6 λK hK=>?_;refine d6 rfl _ _ 69 rfl w2.1.size 80 j0 (.agg #[Hq]) 1 24 underlying69 hl h0 h3 h4 rfl vY ur rs.length rs rfl ?s1 (Hk o.1.size 0) 1 1 [.slice a5 lr c5] rfl rfl ?s2 ?s3 ?s4 ?s5 ?s6 ?_
       case s1=>exact(Zl O.7 λx e=>u.5 x<|du x e).alloc _
       case s2=>exact cell_one_new _ _ _
       case s3=>intro v hv;simp at hv;subst hv;rfl
       case s4=>have g:=O.8;have m:=di.o;unfold maxLen;omega
       case s5=>have g:=O.8;have m:=di.o;omega
       case s6=>have:=u.4;simp;omega
       intro u6 H co ce _ ec;obtain⟨g6,c6,rfl,_,_⟩:=Xm co oM;have gp:=Xa<|O.below (Xg u<|Xb (Below.refl o.1.size o) (.cells #[.slice a5 lr c5] 80));have Q:=Xa (gp.pushR (c5:=c5) (ys:=Iw ⟨t,p,B,C,z⟩) ca (B0:=s.1.size) oM du g5 ((a4.keep<|Xb (Below.refl o.1.size o) _).mono aA sP) ce (by rw[<-df.o];exact co) (by rw[aO];simpa using ec));have cm:=λG g m=>(ce.5 G (by simp;omega) m).trans (Below.heap_alloc _ _ _ g);have i6:=u.4;have cd:=cm a oM (λe=>by have:=(O.7.lt a e.symm).1;omega);have az:=cm wr.1.size oM (λe=>by have:=g7 _ e.symm;omega);have g3:=(Xc cd).trans d3;have gz:H.frozen? (Hk a 3)=false:=by rw[bJ (a:=(Hk a 3)) cd];exact(u.frozen (p:=Hk a 3) cb).trans ih
       have t0:=(Xc az).trans p0;have t1:=(Xc az).trans p1;have t2:=(Xc az).trans p2;have t3:=(Xc az).trans p3;have t4:=(Xc az).trans p4;clear co ce ec cm cd az p0 p1 p2 p3 p4 d3 hHeld
       (try clear hd)
       refine hK _ _ ⟨t0,t1,t2,t3,t4⟩ λhHeld=>?_;clear hK;refine X0 7 ?_;refine Xs 8 λK hK=>?_;go_simp;have y:∀(T:Nat)(v:Uj),H.cell? (Hk wr.1.size T)=some v->(H.setCell (Hk a 3) (Hl g6 (rs.length+1) c6)).cell? (Hk wr.1.size T)=some v:=λT v m=>(bH H (Hk a 3) (Hk wr.1.size T) _ (by show a≠wr.1.size;omega)).trans m;refine hK _ _ ⟨y _ _ t0,y _ _ t1,y _ _ t2,y _ _ t3,y _ _ t4⟩ λhHeld=>?_;have ey:=y _ _ t0;have ez:=y _ _ t1;clear hK hHeld y t0 t1 t2 t3 t4 g3 gz
       try simp only[xX]
       refine Yq ?_;generalize H.setCell _ _=N at*;go_wp2_with fail
       refine(nZ t N).mono ?_;rintro e w8⟨rfl,eo⟩;rw[eo];clear eo w8;have ev:N.cell? (Hk a 4)=some ud:=by
        have h:=Q.6.cell (i:=4) vY;rw[aM vY,aU rfl]at h;exact h
       cases hdb:dB t
       .have a3:Hs (H7 ⟨t,p,B,C,z⟩=(-1)):=Xa (by unfold H7;simp only[hdb];simp);clear hdb;go_wp2_with (at_builtin;refine bT _ rfl _ _ 41 rfl w2.1.size 2 m0 (Hp 0) 1 8 underlying41 ch ci cj ck rfl vY _ _ _ rfl (Q.10.alloc _) (Hk N.1.size 0) 1 1 [Hp (-1)] rfl rfl ?c1 ?c2 ?c3 ?c4 ?c5 ?_)
        case c1=>
         intro j' u' F
         match j',F with
         |0,F=>simp at F;subst F;simp[Addr.add]
        case c2=>intro u' W;simp at W;subst W;rfl
        case c3=>have:=bh.o;unfold maxLen;omega
        case c4=>have:=bh.o;omega
        case c5=>have:=Q.4;simp;omega
        intro u9 Z J I _ V;obtain⟨g9,c9,rfl,_,_⟩:=Xm J oM;have R:=Xa<|Q.below (Xb (Below.refl N.1.size N) (.cells #[Hp (-1)] 2));have aj:Z.1[a]?=(N.alloc<|.cells #[Hp (-1)] 2).1[a]?:=I.5 a (by have:=R.6.lt;exact this) (λe=>by have:=(Q.10.lt a e.symm).1;omega);have k4:Z.cell? (Hk a 4)=some ud:=by
         have h:=R.6.cell (i:=4) vY;rw[aM vY,aU rfl]at h;exact(Xc aj).trans h
        have kz:Z.frozen? (Hk a 4)=false:=by rw[bJ (a:=(Hk a 4)) aj];exact R.6.frozen 4
        have a7:=Xa (R.pushD (x:=(-1)) ca I J (by rw[aO];exact V));clear J I V aj ey ez ev;go_wp2_with fail
        refine⟨?_,by simp[intOf];omega⟩
        first
         |exact⟨q+1,_,_,_,oM,gM,Xa<|by rw[a9.o,a8.o,a3.o];exact a7⟩
         |((repeat apply gP);refine⟨?_,rfl⟩;exact⟨q+1,_,_,_,oM,gM,Xa<|by rw[a9.o,a8.o,a3.o];exact a7⟩)
       have a3:Hs (H7 ⟨t,p,B,C,z⟩=p):=Xa (by unfold H7;simp only[hdb];simp);clear hdb;go_wp2_with (at_builtin;refine bT _ rfl _ _ 41 rfl w2.1.size 2 m0 (Hp 0) 1 8 underlying41 ch ci cj ck rfl vY _ _ _ rfl (Q.10.alloc _) (Hk N.1.size 0) 1 1 [Hp p] rfl rfl ?c1 ?c2 ?c3 ?c4 ?c5 ?_)
       case c1=>
        intro j' u' F
        match j',F with
        |0,F=>simp at F;subst F;simp[Addr.add]
       case c2=>intro u' W;simp at W;subst W;rfl
       case c3=>have:=bh.o;unfold maxLen;omega
       case c4=>have:=bh.o;omega
       case c5=>have:=Q.4;simp;omega
       intro u9 Z J I _ V;obtain⟨g9,c9,rfl,_,_⟩:=Xm J oM;have R:=Xa<|Q.below (Xb (Below.refl N.1.size N) (.cells #[Hp p] 2));have aj:Z.1[a]?=(N.alloc<|.cells #[Hp p] 2).1[a]?:=I.5 a (by have:=R.6.lt;exact this) (λe=>by have:=(Q.10.lt a e.symm).1;omega);have k4:Z.cell? (Hk a 4)=some ud:=by
        have h:=R.6.cell (i:=4) vY;rw[aM vY,aU rfl]at h;exact(Xc aj).trans h
       have kz:Z.frozen? (Hk a 4)=false:=by rw[bJ (a:=(Hk a 4)) aj];exact R.6.frozen 4
       have a7:=Xa (R.pushD (x:=p) ca I J (by rw[aO];exact V));clear J I V aj ey ez ev;go_wp2_with fail
       refine⟨?_,by simp[intOf];omega⟩
       first
        |exact⟨q+1,_,_,_,oM,gM,Xa<|by rw[a9.o,a8.o,a3.o];exact a7⟩
        |((repeat apply gP);refine⟨?_,rfl⟩;exact⟨q+1,_,_,_,oM,gM,Xa<|by rw[a9.o,a8.o,a3.o];exact a7⟩))
     have dn:Hs (q=X.2.length):=Xa<|oN dl.o
     have aa:Hs (OL w2 a (λn=>if n=2 then U else f0 n) wr ur ud rs (Jv X) (Z2 X)):=Xa (by
      have h:=HI.o;rw[aW (by unfold Jv;rw[bK];have:=dn.o;omega),aW (by unfold Z2;rw[bK];have:=dn.o;omega)]at h;exact h)
     obtain⟨⟨aR,cR,eR,hR⟩,⟨aD,cD,eD,hD⟩⟩:=aa.fin;obtain⟨aP,cP,eP,hP⟩:=HA.8;obtain⟨aE,cE,eE,hE⟩:=HA.9;obtain⟨a2,c2,e2,ef⟩:=Xk ao.7;have bf:=Xa HA.1;have bc:=λG g m=>(aa.5 G (oN b4.o) m).trans (ao.5 G g m)
     have br:Hs (Below wo.1.size wo wr):=Xa ⟨aa.1.trans<|ao.1.trans bf.1,aa.2.trans<|ao.2.trans bf.2,aa.3.trans<|ao.3.trans bf.3,oN b4.o,λG hu=>(bc G oM oM).trans (bf.5 G hu)⟩;have g1:=Xa (Zl P.5 λx e=>br.5 x (P.5.lt x e).2);have gi:Hs (VO wr (λab=>wo.1.size<=ab) (jo (.slice aT M cT) (.slice aP X.1.length cP) (.slice a2 (XP f k).length c2) (.slice aR (Jv X).length cR) (.slice aD (Z2 X).length cD) (.slice aE (Id X.3).length cE)) f[k] (XP f k)):=Xa (by
      rw[<-HX.o];have jf:=b4.o;refine⟨⟨aT,cT,by rw[<-a6.o];rfl,?_⟩,⟨aP,cP,by rw[bK];rfl,?_⟩,⟨a2,c2,rfl,?_⟩,⟨aR,cR,rfl,?_⟩,⟨aD,cD,rfl,?_⟩,⟨aE,cE,rfl,?_⟩⟩;·exact(dc.keep (w':=wr) (λi g m=>bc i g m.2) oM).mono λ_ _ h=>h.1
      .exact(hP.keep (w':=wr) (λi g m=>bc i g m.2) oM).mono λ_ _ h=>h.1
      .have h5:=Yv.of_at ef aA (P:=λi=>Y.1.size<=i) λi g _=>g;exact(h5.keep (w':=wr) (λi g m=>aa.5 i g oM) ib).mono λi _ h=>by show wo.1.size<=i;have h':=h;omega
      .exact hR.mono λi _ h=>by show wo.1.size<=i;have h':=h;omega
      .exact hD.mono λi _ h=>by show wo.1.size<=i;have h':=h;omega
      exact(hE.keep (w':=wr) (λi g m=>bc i g m.2) oM).mono λ_ _ h=>h.1)
     have NC:=λ(n:Nat)(h:n<6)=>aa.6.cell h
     have x0:wr.cell? (Hk a 0)=some (.slice aT M cT):=by
      have h:=NC 0 vY;simp only[Nat.reduceEqDiff,fD]at h;rw[c8.o,<-a6.o]at h;exact h
     have x1:wr.cell? (Hk a 1)=some (.slice aP X.1.length cP):=by
      have h:=NC 1 vY;simp only[Nat.reduceEqDiff,fD]at h;rw[eP]at h;exact h
     have x2:wr.cell? (Hk a 2)=some (.slice a2 (XP f k).length c2):=by
      have h:=NC 2 vY;simp only[Nat.reduceEqDiff,fD,gG]at h;rw[e2]at h;exact h
     have x3:wr.cell? (Hk a 3)=some (.slice aR (Jv X).length cR):=by
      have h:=NC 3 vY;simp only[Nat.reduceEqDiff,fD,gG]at h;rw[eR]at h;exact h
     have x4:wr.cell? (Hk a 4)=some (.slice aD (Z2 X).length cD):=by
      have h:=NC 4 vY;simp only[Nat.reduceEqDiff,fD,gG]at h;rw[eD]at h;exact h
     have x5:wr.cell? (Hk a 5)=some (.slice aE (Id X.3).length cE):=by
      have h:=NC 5 vY;simp only[Nat.reduceEqDiff,fD]at h;rw[eE]at h;exact h
     generalize X.1.length=nP at*;generalize (XP f k).length=l2 at*;generalize (Jv X).length=lR at*;generalize (Z2 X).length=lD at*;generalize (Id X.3).length=lE at*;clear hR hD hP hE ef eR eD eP eE e2 NC bc;go_wp2_with (at_builtin;refine bT _ rfl _ _ 135 rfl (w.1.size+1) 138 i0 (.agg #[Hq,Hq,Hq,Hq,Hq,Hq]) 6 144 underlying135 hh h6 h7 h8 rfl vY _ _ _ rfl (g1.alloc _) (Hk wr.1.size 0) 1 1 [.slice aT M cT,.slice aP nP cP,.slice a2 l2 c2,.slice aR lR cR,.slice aD lD cD,.slice aE lE cE] rfl rfl ?c1 ?c2 ?c3 ?c4 ?c5 ?_)
     case c1=>
      intro j' u' F;rw[ja,eC];simpa using F
     case c2=>
      intro u' W;simp at W;obtain rfl|rfl|rfl|rfl|rfl|rfl:=W<;>rfl
     case c3=>unfold maxLen;omega
     case c4=>omega
     case c5=>have:=br.4;simp;omega
     intro u9 Z J I _ V;have dj:=Xa (P.next (f:=jo (.slice aT M cT) (.slice aP nP cP) (.slice a2 l2 c2) (.slice aR lR cR) (.slice aD lD cD) (.slice aE lE cE)) be (Xg br<|Xb (Below.refl wr.1.size wr) _) (gi.keep (λi g _=>Below.heap_alloc _ _ _ g) sP) I J (by rw[aO];exact V));clear J I V x0 x1 x2 x3 x4 x5;go_wp2_with fail
     refine hN _ _ ?_;refine⟨?_,by simp[intOf];omega⟩
     first
      |exact⟨k+1,_,oM,gM,dj⟩
      |((repeat apply gP);refine⟨?_,rfl⟩;exact⟨k+1,_,oM,gM,dj⟩))
  clear bv;exact Ga dw bq pa ia pc ic X _ _ _ _ _ _ _ _ _ _ _ _ _ _ _ _ _ _ _ _ _ _ _ _ _ _ _ _ _ _ _ _ _ _ _ _ _ _ _ _ _ _ _ _ _ _ _ _ _ _ (Xa λc ar al v w h=>hQ c ar al v w h) hB hz hp cc e0 e1 e2 e3 e4 e5 b1 b0 g8
 go_wp2;go_ret;have hm:k=f.length:=oN hx.o;have h:=P.o;rw[hm]at h;obtain⟨a',c',rfl,hF⟩:=h.fin;exact⟨a',c',by rw[hx.o];rfl,P.1,hF⟩
end Go.Proofs.YtcfdhbigppockaaGreatDoor
