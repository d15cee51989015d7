import Derived.Test.YtcfdhbigppockaaGreatDoorLO0
import Derived.Test.YtcfdhbigppockaaGreatDoorPK
import Derived.Test.YtcfdhbigppockaaGreatDoorFV1
namespace Go.Proofs.YtcfdhbigppockaaGreatDoor
set_option maxHeartbeats 8000000
set_option maxRecDepth 100000
open Go.RowKit Go.Proofs.Tryz
variable{t T z:Int}{n m k B g i j c:Nat}{Z:Nat->Nat×Nat×Nat}{w v:Ub}{a A:Uj}{p P:Uy}{h:Vu}{l:Wc}{x:Wi}{f F:Wk}{y:Wo}
theorem rP(b:Int):∀(a:Wi)(i k:Nat)(h:k<a.length),b∈a[k].3.tg->((i+k:Nat):Int)∈AQ a i b
 |[],_,_,h,_=>absurd h sP
 |x::a,i,k,h,hb=>by
  rw[AQ,bU];cases k with
  |zero=>left;simp only[eM]at hb;simp[hb]
  |succ k=>
   right;have:=rP b a (i+1) k (by simpa using h) (by simpa using hb);rwa[show i+1+k=i+(k+1) by omega]at this
theorem m8(a:Wy):(dp a).length<=128:=by
 by_cases b:bw a=true
 .let⟨c,d⟩:=rK b;unfold dp;rw[aU b];refine aJ (oC _ _) ?_;have:(bu a).length<=a.length:=fJ _ _;omega
 unfold dp;rw[aM b];exact aN
structure QI where
 b:Nat
 sv:Uj
 tl:Wo
theorem An(h:y.length=157):∃a d:Uj,∃c,y=a::d:: c/\c.length=155:=by
 match y,h with
 |a::b::y,h=>exact⟨a,b,y,rfl,by simpa using h⟩
structure QJ(w:Ub)(V:Nat)(gb ob n:Nat)(xs:Wi)(L B:Nat)(b:Nat)(X:Xe)(ia:Uy)(ic:Nat):Prop where
 kw:∀W,Below w.1.size w W->(W.cell? ⟨gb,ob+b*6+1,none⟩=some (.slice ia X.2.length ic)/\YY W L B ia X.2)/\W.cell? ⟨gb,ob+b*6+2,none⟩=some (.int .i64 X.3.1)/\W.cell? ⟨gb,ob+b*6+2+1,none⟩=some (.int .i64 X.3.a)/\W.cell? ⟨gb,ob+b*6+2+2,none⟩=some (.int .i64 X.3.3)/\W.cell? ⟨gb,ob+b*6+2+3,none⟩=some (.int .i64 X.3.4)
 oi:∀y∈X.2,(∀v∈Iw y,0<=v/\v<V)/\(∀v∈BW y,0<=v/\v<V)
 ln:X.1.length<=1048576/\X.2.length<=1048576
 kd:1<=X.3.1/\X.3.1<=3
 rt:∀v∈Id X.3,0<=v/\v<V
 pr:∀t:Int,t∈X.3.tg->(0<=t/\t<xs.length)/\(b:Int)∈AQ xs 0 t
theorem MR(ha:Xp w k B p x)(q:B<=w.1.size)(d:Jy m x)(u:∀o∈x,o.1.length<=1048576/\o.2.length<=1048576)(a:g<x.length):∃b e f h,p=some (Hk b e)/\b<w.1.size/\QJ w m b e n x k B g x[g] f h:=by
 obtain⟨b,e,rfl,⟨_,z⟩,r⟩:=ha g a;let⟨A,C,f,h,_,e1,⟨e2,e3,e4,e5⟩,_,s⟩:=r;refine⟨b,e,f,h,rfl,oM,λW i=>?_,λy l=>⟨d.5 _ (aH a) y l,d.6 _ (aH a) y l⟩,u _<|aH a,d.4 _<|aH a,d.7 _<|aH a,λt j=>⟨d.1.3 _ (aH a) t j,by have:=rP t x 0 g a j;simpa using this⟩⟩;have c:=λv=>i.cell (p:=Hk b v) (show b<w.1.size by omega);exact⟨⟨(c _).trans e1,s.keep<|i.mono q⟩,(c _).trans e2,(c _).trans e3,(c _).trans e4,(c _).trans e5⟩
theorem QL{bv:Yt}{Lc Bc:Nat}{C:Nat}{c0 c2 c4 c5:Uj}(hQ:Hs (∀c (p:Act) t v w,bv (.panic c) (p.put (some t) v) w->bv (.panic c) p w))(ha:Hs (Xp w k B p x))(H:Hs (m=x.length))(hB:B<=w.1.size)(ho:Hs (Jy n x))(b4:Hs (∀M∈x,M.1.length<=1048576/\M.2.length<=1048576))(hc:Hs (Xf w Lc Bc P l))(ba:Hs (i=l.length))(bh:Hs (i=n))(bf:Bc<=w.1.size)(dc:∀(A:Uj)(y:Wo)(w':Ub),y.length=157->Hs (PQ w w' (n:Int) p m c T C A (ae l x m).1 (ae l x m).2)->bv (.exit 0) ⟨(c0::.slice P i j::c2::Hn w.1.size::c4::c5::a::Hn C::Hp m::A::Hp ((m:Nat):Int)::y).toArray,[]⟩ w'){wr:Ub}(hl:y.length=157)(N:Hs (PQ w wr (n:Int) p m c T C A (ae l x 0).1 (ae l x 0).2)):
 Code.wp prog (Code.loop Ao) bv ⟨(c0::.slice P i j::c2::Hn w.1.size::c4::c5::a::Hn C::Hp m::A::Hp ((0:Nat):Int)::y).toArray,[]⟩ wr:=by
 have O:=Xa dc;clear dc;have fs:m<=1000:=oP H.o ho.1.2;obtain⟨i0,es,e0,e6,e7⟩:=fX RB;obtain⟨j0,ck,cq,cr,cs⟩:=fX Qa;refine iY (λa' wr=>∃M:QI,a'=⟨(c0::.slice P i j::c2::Hn w.1.size::c4::c5::a::Hn C::Hp m::M.2::Hp ((M.b:Nat):Int)::M.3).toArray,[]⟩/\M.3.length=157/\M.b<=m/\Hs (PQ w wr (n:Int) p m c T C M.2 (ae l x M.b).1 (ae l x M.b).2)) (λa' _=>m-(intOf<|a'.1.getD 10 undef).toNat) ⟨⟨0,A,y⟩,rfl,hl,aN,N⟩ ?_;clear N hl;rintro a' wr⟨⟨b,A,y⟩,rfl,hl,eq,HH⟩;dsimp only at hl eq HH |-
 conv=>arg 2;whnf
 obtain⟨fa,fb,e9,rfl,bi⟩:=An hl;obtain⟨en,rfl⟩:=qd bi;clear hl bi;by_cases et:b<m
 .have b0:b<x.length:=oN H.o;have fr:(b:Int)<(m:Int):=oM;have fc:(0:Int)<=(b:Int):=oM;obtain⟨F,G,ia,ic,rfl,fq,db⟩:=MR (n:=m) ha hB ho b4 b0;have aj:=Xa db;have ei:=Xa<|ou l x b b0;have br:=Xa<|ll l x b (dU b0);have c9:=Xa<|oz l x b (dU b0);obtain⟨I,Z,U,V,hS,dj⟩:=HH.o;have al:=Xa dj;have HS:=Xa hS;clear hS dj HH db;generalize x[b]=em at*;obtain⟨ps,u,d⟩:=em;obtain⟨⟨k1,_⟩,k2,k3,k4,k5⟩:=aj.1 wr HS.1;dsimp only at k1 k2 k3 k4 k5;have f1:Cl wr w.1.size 1 (Hm F G m c):=Bx.cell HS.2 rfl;have f4:w.1.size<wr.1.size:=HS.2.lt;have er:F<wr.1.size:=oM;go_wp2;have da:Hs (Oz w (wr.alloc<|.cells #[Hq,Hp d.1,Hp d.a,Hp d.3,Hp d.4] 84) (n:Int) (some ⟨F,G,none⟩) m c T C Z A (ae l x b).1 (ae l x b).2 U V wr.1.size ((u.map<|ZR l).take 0) d):=Xa ⟨I,Hq,HS.calm<|Xb (Below.refl _ _) _,Bx.new _ _ _,HS.1.4,HS.8 _<|aA,⟨dA,λb h=>by cases h⟩⟩;generalize wr.alloc _=wx at*;clear k1 k2 k3 k4 k5 f1 er HS;generalize wr.1.size=o at*;refine QK k ia ic (by exact Xa λ_ _ _ _ _ N=>hQ _ _ _ _ _ N) hB hc ba bh bf et (Xa λW hW=>(aj.1 W hW).1) (Xa aj.2) aj.3.2 ?_ (by rfl) da;intro e9 X bi a3;obtain⟨en,rfl⟩:=qd bi;rw[aW sP]at a3;clear bi da;have z1:X.cell? (Hk o 1)=some (Hp d.1):=by obtain⟨I,Y,e⟩:=a3.o;exact Bx.cell e.2 rfl
  go_upto_if 76 with fail
  clear z1
  go_cut []from 14 to 167 λwx=>Hs<|Oz w wx (n:Int) (some ⟨F,G,none⟩) m c T C Z A (ae l x b).1 (ae l x b).2 U V o (u.map<|ZR l) (NN l d)
  case first=>
   by_cases q:d.1=1
   .have b3:(d.1 != 1)=false:=by simpa using q
    have J:Hs (NN l d=d):=Xa (by unfold NN;rw[aU q]);clear q;go_wp2;go_meet;rw[J.o];exact a3
   have b3:(d.1 != 1)=true:=by simpa using q
   obtain⟨I,Y,e⟩:=a3.o;have eu:=aj.5 d.a (by unfold Id;simp[q]);obtain⟨bb,f5,cv,hv,hq,rfl,fi,fj⟩:=jq (hc.keep<|e.s.1.mono bf) eu.1 (oP ba.o bh.o);have fz:(cv:Int)<(i:Int):=oN ba.o;have fx:(0:Int)<=(cv:Int):=oM;have y2:X.cell? (Hk o 2)=some (Hp cv):=by rw[<-hv];exact Bx.cell e.2 rfl
   have yz:=Bx.thaw e.2;have J:Hs (Oz w (X.setCell (Hk o 2) (Hp<|Kp l d.a)) (n:Int) (some ⟨F,G,none⟩) m c T C Z A (ae l x b).1 (ae l x b).2 U V o (u.map<|ZR l) (NN l d)):=Xa ⟨I,Y,e.te 2 (Kp l d.a) (by unfold NN;rw[aM q];rfl)⟩;have HV:=Xa hv;clear e hv q a3;generalize Kp l d.a=za at*;go_wp2;go_meet;exact J
  have bc:=hcut;clear hcut a3;generalize wc=X at*;have cd:Hs ((NN l d).1=d.1/\(NN l d).3=d.3/\(NN l d).4=d.4):=Xa ⟨rfl,rfl,rfl⟩;have z1:X.cell? (Hk o 1)=some (Hp d.1):=by obtain⟨I,Y,e⟩:=bc.o;rw[<-cd.1];exact Bx.cell e.2 rfl
  go_upto_if 88 with fail
  clear z1
  go_cut []from 14 to 167 λwx=>Hs<|Oz w wx (n:Int) (some ⟨F,G,none⟩) m c T C Z A (ae l x b).1 (ae l x b).2 U V o (u.map (ZR l)++(if d.1=1 then NL l x b d.3 else [])) (NN l d)
  case first=>
   by_cases q:d.1=1
   .have b3:(d.1==1)=true:=by simpa using q
    simp only[b3];obtain⟨tq,b8⟩:∃tq:Nat,d.3=(tq:Int):=⟨d.3.toNat,by have:=(aj.6 d.3<|by simp[Yj.tg,q]).1;omega⟩;have b5:=aj.6 d.3 (by simp[Yj.tg,q]);rw[b8]at b5;have c7:Hs ((if d.1=1 then NL l x b d.3 else [])=NL l x b (tq:Int)):=Xa (by rw[aU q,b8]);have d0:=Xa b5.2;have ey:tq<m:=oP H.o b5.1;obtain⟨I,Y,e⟩:=bc.o;obtain⟨xa,xc,bo⟩:=e.5.form;rw[bK]at bo;subst bo;have ek:=Xa e;have bd:Hs (∀W dn,Bx W w.1.size #[Hp n,Hm F G m c] 37->Bx W o #[dn,Hp (NN l d).1,Hp (NN l d).a,Hp (NN l d).3,Hp (NN l d).4] 84->W.cell? (Hk w.1.size 0)=some (Hp n)/\W.cell? (Hk w.1.size 1)=some (Hm F G m c)/\W.cell? (Hk o 3)=some (Hp tq)):=Xa (λW dn hF eo=>⟨Bx.cell hF rfl,Bx.cell hF rfl,by rw[<-b8,<-cd.2.1];exact Bx.cell eo rfl⟩);obtain⟨y0,y1,y3⟩:=bd _ _ e.s.2 e.2;have x0:Cl X o 0 (.slice xa u.length xc):=Bx.cell e.2 rfl;have cb:=Xa λW (S:Below w.1.size w W)=>sj c j (Xa<|ha.keep (S.mono hB)) H (oN S.4) ho (Xa λM H=>(b4 M H).1) (Xa<|hc.keep (S.mono bf)) ba bh (oN S.4) ey d0;have bt:=Xa<|ek.calm (Below.refl X.1.size X).drew;clear e b8 q b5 bc;obtain⟨CP,bx⟩:∃CP,CP=NL l x b (tq:Int):=⟨_,rfl⟩;obtain⟨cl,b1⟩:∃cl,cl=CP.length:=⟨_,rfl⟩;have a0:cl<=128:=by rw[b1,bx];exact m8 _
    rw[<-bx,<-b1]at cb;rw[<-bx]at c7;have cx:=Xa b1;have ez:=aj.3.2;dsimp only at ez;clear bx b1;go_wp2;refine Y7 (λw'=>w'.cell? (Hk w.1.size 0)=some (Hp n)/\w'.cell? (Hk w.1.size 1)=some (Hm F G m c)/\w'.cell? (Hk o 3)=some (Hp tq)) λhHeld=>?_;refine X0 0 ?_;refine X0 2 ?_;refine X0 3 ?_;refine X0 4 ?_;refine X0 5 ?_;refine X0 6 ?_;refine X0 7 ?_;refine eS (rs:=[1,8]) vZ sP ?_;refine(bQ rfl (λbe hK=>?_) (bQ rfl (λbe hK=>?_) dY))
    focus
     go_simp;refine hK _ _ kP λhHeld=>?_;clear hK
     try simp only[xX]
     refine Xs 8 λbe hK=>?_;go_simp
     go_at_call 40
     refine(cb _ bt.s.1).mono ?_;rintro h w5⟨v5,rfl,af,ac,Q⟩;have z:=Xa<|bt.calm ac;have s5:=bd _ _ z.s.2 z.2;have x5:Cl w5 o 0 (.slice xa u.length xc):=Bx.cell z.2 rfl;obtain⟨E,D,rfl⟩:∃E D,v5=Hl E cl D:=by
      obtain⟨h,_,_⟩|⟨E,D,h,_⟩:=Vc Q;·exact absurd h af
      exact⟨E,D,h⟩
     have aq:=Xa Q;clear ac Q af;dsimp only;refine hK _ _ s5 λhHeld=>?_;clear hK
    rotate_left
    focus
     go_simp
     go_at_call 40
     refine(cb _ bt.s.1).mono ?_;rintro h w5⟨v5,rfl,af,ac,Q⟩;have z:=Xa<|bt.calm ac;have s5:=bd _ _ z.s.2 z.2;have x5:Cl w5 o 0 (.slice xa u.length xc):=Bx.cell z.2 rfl;obtain⟨E,D,rfl⟩:∃E D,v5=Hl E cl D:=by
      obtain⟨h,_,_⟩|⟨E,D,h,_⟩:=Vc Q;·exact absurd h af
      exact⟨E,D,h⟩
     have aq:=Xa Q;clear ac Q af;dsimp only;refine hK _ _ s5 λhHeld=>?_;clear hK
     try simp only[xX]
     refine Xs 1 λbe hK=>?_;go_simp;refine hK _ _ kP λhHeld=>?_;clear hK
    all_goals (
     refine Xs 9 λbe hK=>?_;refine d6 rfl _ _ 58 rfl w.1.size 66 i0 (.agg #[Hp 0,Hp 0,Hp 0,Hp 0,Hp 0]) 5 40 underlying58 es e0 e6 e7 rfl vY (.slice xa u.length xc) u.length (ZP<|u.map (ZR l)) rfl ?s1 (Hk E 0) cl D (ZP CP) rfl ?s0 ?s2 ?s3 ?s4 ?s5 ?s6 ?_
     case s1=>have:=z.5.1;rw[bK]at this;exact this
     case s0=>rw[iR,cx.o]
     case s2=>
      intro dl cw hu;have:=Jj aq hu;cases dl with
      |zero=>simpa [Addr.add]using this
      |succ dl=>simpa [Addr.add]using this
     case s3=>exact l7 _
     case s4=>unfold maxLen;omega
     case s5=>omega
     case s6=>exact z.s.1.4
     intro v8 w8 L ad a1 ab;obtain⟨a2,R,ca,a7⟩:=z.push CP ad (by rw[bK,<-cx.o];exact L) ab;obtain⟨a8,c8,rfl⟩:∃a8 c8,v8=.slice a8 (u.length+cl) c8:=by
      obtain⟨h,N,_⟩|⟨g,c,h,_⟩:=Vc L;·exact⟨none,0,by rw[h,N]⟩
      exact⟨_,_,h⟩
     have s8:=bd _ _ a7.2 ca;have s9:=bd _ _ R.s.2 R.2;have k0:Cl w8 o 0 (.slice xa u.length xc):=Bx.cell ca rfl;have kz:=Bx.thaw ca;have el:Hs (Oz w (w8.setCell (Hk o 0) (.slice a8 (u.length+cl) c8)) (n:Int) (some ⟨F,G,none⟩) m c T C Z A (ae l x b).1 (ae l x b).2 U V o (u.map (ZR l)++(if d.1=1 then NL l x b d.3 else [])) (NN l d)):=Xa ⟨a2,_,by rw[c7.o];exact R⟩;clear L ad a1 ab R ca a7 x0 x5 z aq;refine hK _ _ s8 λhHeld=>?_;clear hK;refine X0 10 ?_;refine Xs 11 λbe hK=>?_;go_simp;refine hK _ _ s9 λhHeld=>?_;clear hK;refine Yq ?_;clear hHeld k0 kz s8 s9;go_wp2
     go_meet;exact el)
   have b3:(d.1==1)=false:=by simpa using q
   have J:Hs (u.map (ZR l)++(if d.1=1 then NL l x b d.3 else [])=u.map (ZR l)):=Xa (by rw[aM q,fF]);clear q;go_wp2;go_meet;rw[J.o];exact bc
  have a4:=hcut;clear hcut bc;generalize wc=X at*;obtain⟨IS,ch⟩:∃IS,IS=u.map (ZR l)++(if d.1=1 then NL l x b d.3 else []):=⟨_,rfl⟩;rw[<-ch]at a4;have dz:=Xa ch;clear ch;have z1:X.cell? (Hk o 1)=some (Hp d.1):=by obtain⟨I,Y,e⟩:=a4.o;rw[<-cd.1];exact Bx.cell e.2 rfl
  go_upto_if 103 with fail
  clear z1
  go_cut [9]from 13 to 167 λA wx=>Hs (O9 w wx (n:Int) (some ⟨F,G,none⟩) m c T C Z A (ae l x b).1 U o ((ae l x b).2++(Nk l x b ⟨ps,u,d⟩ (x.length+(ae l x b).2.length)).2) IS (Nk l x b ⟨ps,u,d⟩ (x.length+(ae l x b).2.length)).1.2)/\Hs (A≠Hq)
  case first=>
   by_cases K:d.1=2
   .have df:(d.1==2)=true:=by simpa using K
    simp only[df];have co:=aj.6 d.3 (by simp[Yj.tg,K]);have cp:=aj.6 d.4 (by simp[Yj.tg,K]);obtain⟨f,b6⟩:∃f:Nat,d.3=(f:Int):=⟨d.3.toNat,oM⟩;obtain⟨s,b7⟩:∃s:Nat,d.4=(s:Int):=⟨d.4.toNat,oM⟩;rw[b6]at co;rw[b7]at cp;obtain⟨za,ct⟩:∃za,za=Kp l d.a:=⟨_,rfl⟩;have HZ:Hs (O9 w X (n:Int) (some ⟨F,G,none⟩) m c T C Z A (ae l x b).1 U o (ae l x b).2 IS ⟨2,za,(f:Int),(s:Int)⟩):=Xa (by
     obtain⟨I,Y,e⟩:=a4.o;have h:NN l d=⟨2,za,(f:Int),(s:Int)⟩:=by unfold NN;rw[aM oM,K,b6,b7,ct]
     rw[h]at e;exact⟨I,Y,V,e⟩)
    have HR:Hs ((Nk l x b ⟨ps,u,d⟩ (x.length+(ae l x b).2.length)).1.2=⟨2,za,(ah l x b (f:Int) (x.length+(ae l x b).2.length)).1,(ah l x b (s:Int) ((x.length+(ae l x b).2.length)+(ah l x b (f:Int) (x.length+(ae l x b).2.length)).2.length)).1⟩/\(Nk l x b ⟨ps,u,d⟩ (x.length+(ae l x b).2.length)).2=(ah l x b (f:Int) (x.length+(ae l x b).2.length)).2++(ah l x b (s:Int) ((x.length+(ae l x b).2.length)+(ah l x b (f:Int) (x.length+(ae l x b).2.length)).2.length)).2):=Xa (by
     unfold Nk;dsimp only;rw[aM oM,aU K,K,b6,b7,ct];exact⟨rfl,rfl⟩)
    have cz:=Xa λW (S:Below w.1.size w W)=>sj c j (Xa<|ha.keep (S.mono hB)) H (oN S.4) ho (Xa λM H=>(b4 M H).1) (Xa<|hc.keep (S.mono bf)) ba bh (oN S.4) (oN H.o) (Xa co.2);obtain⟨bp,a5⟩:∃CP,CP=NL l x b (f:Int):=⟨_,rfl⟩;obtain⟨ar,a0⟩:∃cl,cl=bp.length:=⟨_,rfl⟩;have fl:ar<=128:=by rw[a0,a5];exact m8 _
    have eb:Hs (ar=0->(ah l x b (f:Int) (x.length+(ae l x b).2.length)).1=(f:Int)/\(ah l x b (f:Int) (x.length+(ae l x b).2.length)).2=[]):=Xa (λN=>by
     have:NL l x b (f:Int)=[]:=List.length_eq_zero_iff.1 (by rw[<-a5,<-a0];exact N);unfold ah;rw[aU this];exact⟨rfl,rfl⟩)
    have ec:Hs (ar≠0->(ah l x b (f:Int) (x.length+(ae l x b).2.length)).1=(((x.length+(ae l x b).2.length):Nat):Int)/\(ah l x b (f:Int) (x.length+(ae l x b).2.length)).2=[⟨bp,⟨1,0,(f:Int),0⟩⟩]):=Xa (λN=>by
     have:¬NL l x b (f:Int)=[]:=λh=>N<|by rw[a0,a5,h];rfl
     unfold ah;rw[aM this,a5];exact⟨rfl,rfl⟩)
    have ef:Hs (((ae l x b).2).length<=2001):=Xa (by
     have q:=c9.o;have K:=m6 l x b (f:Int) (x.length+(ae l x b).2.length);have:=H.o;omega)
    rw[<-a5,<-a0]at cz;have ds:=Xa a0;clear a5 a0;have c6:=Xa λW (S:Below w.1.size w W)=>sj c j (Xa<|ha.keep (S.mono hB)) H (oN S.4) ho (Xa λM H=>(b4 M H).1) (Xa<|hc.keep (S.mono bf)) ba bh (oN S.4) (oN H.o) (Xa cp.2);obtain⟨bq,a6⟩:∃CP,CP=NL l x b (s:Int):=⟨_,rfl⟩;obtain⟨az,a9⟩:∃cl,cl=bq.length:=⟨_,rfl⟩;have fn:az<=128:=by rw[a9,a6];exact m8 _
    have ed:Hs (az=0->(ah l x b (s:Int) ((x.length+(ae l x b).2.length)+(ah l x b (f:Int) (x.length+(ae l x b).2.length)).2.length)).1=(s:Int)/\(ah l x b (s:Int) ((x.length+(ae l x b).2.length)+(ah l x b (f:Int) (x.length+(ae l x b).2.length)).2.length)).2=[]):=Xa (λN=>by
     have:NL l x b (s:Int)=[]:=List.length_eq_zero_iff.1 (by rw[<-a6,<-a9];exact N);unfold ah;rw[aU this];exact⟨rfl,rfl⟩)
    have ee:Hs (az≠0->(ah l x b (s:Int) ((x.length+(ae l x b).2.length)+(ah l x b (f:Int) (x.length+(ae l x b).2.length)).2.length)).1=((((x.length+(ae l x b).2.length)+(ah l x b (f:Int) (x.length+(ae l x b).2.length)).2.length):Nat):Int)/\(ah l x b (s:Int) ((x.length+(ae l x b).2.length)+(ah l x b (f:Int) (x.length+(ae l x b).2.length)).2.length)).2=[⟨bq,⟨1,0,(s:Int),0⟩⟩]):=Xa (λN=>by
     have:¬NL l x b (s:Int)=[]:=λh=>N<|by rw[a9,a6,h];rfl
     unfold ah;rw[aM this,a6];exact⟨rfl,rfl⟩)
    have eg:Hs ((((ae l x b).2++(ah l x b (f:Int) (x.length+(ae l x b).2.length)).2)).length<=2001):=Xa (by
     have q:=c9.o;have K:=m6 l x b (f:Int) (x.length+(ae l x b).2.length);have:=H.o;rw[aQ];omega)
    rw[<-a6,<-a9]at c6;have du:=Xa a9;clear a6 a9;clear co cp b6 b7 ct K a4;obtain⟨I,Y,V,e⟩:=HZ.o;have f0:Cl X w.1.size 0 (Hp n):=Bx.cell e.s.2 rfl;have f1:Cl X w.1.size 1 (Hm F G m c):=Bx.cell e.s.2 rfl;have z3:Cl X o 3 (Hp f):=Bx.cell e.2 rfl;have O:=Xa e;go_wp2_with fail
    refine(cz _ e.s.1).mono ?_;rintro h w5⟨v5,rfl,af,ac,Q⟩;obtain⟨E,D,rfl⟩:∃E D,v5=Hl E ar D:=by
     obtain⟨h,_,_⟩|⟨E,D,h,_⟩:=Vc Q;·exact absurd h af
     exact⟨E,D,h⟩
    have ap:=Xa ac;have aq:=Xa Q;clear e ac Q af f0 f1 z3 HZ
    go_upto_if 113 with fail
    go_cut [9]from 13 to 167 λA wx=>Hs (O9 w wx (n:Int) (some ⟨F,G,none⟩) m c T C Z A (ae l x b).1 U o ((ae l x b).2++(ah l x b (f:Int) (x.length+(ae l x b).2.length)).2) IS ⟨2,za,(ah l x b (f:Int) (x.length+(ae l x b).2.length)).1,(s:Int)⟩)/\Hs (A≠Hq)
    case first=>
     by_cases h0:ar=0
     .have cj:¬(0:Int)<(ar:Int):=oM;have J:=Xa<|eb.o h0;have cf:Hs (O9 w w5 (n:Int) (some ⟨F,G,none⟩) m c T C Z A (ae l x b).1 U o (ae l x b).2 IS ⟨2,za,(f:Int),(s:Int)⟩):=Xa ⟨I,Y,V,O.calm ap⟩;clear h0;go_wp2;go_meet;rw[J.1,J.2,fF];exact⟨cf,al⟩
     have cj:(0:Int)<(ar:Int):=oM
     have J:=Xa<|ec.o h0;obtain⟨e8,bl,bm⟩:=Xv.fresh (lab:=I) (L:=(4,(ae l x b).2.length,0)) ap aq O.s.1.4 O.s.8;have z:=Xa<|O.spT ap bm;have cc:=Xa bl;obtain⟨sa,sc,bn⟩:∃sa sc,A=.slice sa (ae l x b).2.length sc:=by
      obtain⟨h,N,_⟩|⟨g,c,h,_⟩:=Vc z.s.s.1.1;·exact absurd h al
      exact⟨_,_,h⟩
     obtain⟨r,ao⟩:∃r,r=(ae l x b).2.length:=⟨_,rfl⟩;have ev:r<=2001:=by rw[ao];have:=ef.o;omega
     rw[<-ao]at bn;have aa:=Xa ao;subst bn;have z3:Cl w5 o 3 (Hp f):=Bx.cell z.2 rfl;have dk:=z.s.1.4;clear bl bm h0 ao;go_wp2_with (at_builtin;refine bT _ rfl _ _ 23 rfl w.1.size 84 j0 (.agg #[Hq,Hp 0,Hp 0,Hp 0,Hp 0]) 5 56 underlying23 ck cq cr cs rfl vY _ (ae l x b).2.length (NH V (ae l x b).2) rfl (z.s.s.1.1.alloc _) (Hk w5.1.size 0) 1 1 [Hl E ar D,Hp 1,Hp 0,Hp f,Hp 0] rfl rfl (World.news_of_block<|World.alloc_heap_new _ _) ?u21 ?u31 ?u41 ?u51 ?_)
     case u21=>intro cw hu;simp at hu;obtain rfl|rfl|rfl|rfl|rfl:=hu<;>rfl
     case u31=>unfold maxLen;rw[<-aa.o];omega
     case u41=>rw[<-aa.o];omega
     case u51=>simp;omega
     intro v8 w8 L ad a1 ab;rw[<-aa.o]at L;obtain⟨a2,R⟩:=z.side ⟨bp,⟨1,0,(f:Int),0⟩⟩ (by rw[<-ds.o];exact cc) ad (by rw[<-aa.o];exact L) (by rw[aO];exact ab);obtain⟨g8,c8,rfl,_,_⟩:=Xm L oM;have k0:Cl w8 o 3 (Hp f):=Bx.cell R.2 rfl;have kz:=Bx.thaw R.2;have e1:IntKind.i64.wrap ((m:Int)+((r:Int)+1))=(m:Int)+((r:Int)+1):=by rw[dF];omega
     have e2:IntKind.i64.wrap ((m:Int)+((r:Int)+1)-1)=(m:Int)+(r:Int):=by rw[dF];omega
     have cg:Hs (O9 w (w8.setCell (Hk o 3) (Hp<|(m:Int)+(r:Int))) (n:Int) (some ⟨F,G,none⟩) m c T C Z (Hl g8 (r+1) c8) (ae l x b).1 U o ((ae l x b).2++[⟨bp,⟨1,0,(f:Int),0⟩⟩]) IS ⟨2,za,(m:Int)+(r:Int),(s:Int)⟩):=Xa ⟨a2,_,_,(R.te 3 ((m:Int)+(r:Int)) rfl)⟩;have ce:Hs ((Hl g8 (r+1) c8)≠Hq):=Xa sP;clear L ad a1 ab R z3;go_wp2
     go_meet;have cn:(((x.length+(ae l x b).2.length):Nat):Int)=(m:Int)+(r:Int):=by
      have q:=aa.o;have K:=H.o;omega
     rw[J.1,J.2,cn];exact⟨cg,ce⟩
    obtain⟨HZ,al⟩:=hcut;clear O ap aq;generalize wc=w6 at*;generalize u9=A at*;obtain⟨I,Y,V,e⟩:=HZ.o;have f0:Cl w6 w.1.size 0 (Hp n):=Bx.cell e.s.2 rfl;have f1:Cl w6 w.1.size 1 (Hm F G m c):=Bx.cell e.s.2 rfl;have z3:Cl w6 o 4 (Hp s):=Bx.cell e.2 rfl;have O:=Xa e;go_wp2_with fail
    refine(c6 _ e.s.1).mono ?_;rintro h w5⟨v5,rfl,af,ac,Q⟩;obtain⟨E,D,rfl⟩:∃E D,v5=Hl E az D:=by
     obtain⟨h,_,_⟩|⟨E,D,h,_⟩:=Vc Q;·exact absurd h af
     exact⟨E,D,h⟩
    have ap:=Xa ac;have aq:=Xa Q;clear e ac Q af f0 f1 z3 HZ
    go_upto_if 139 with fail
    go_cut [9]from 13 to 167 λA wx=>Hs (O9 w wx (n:Int) (some ⟨F,G,none⟩) m c T C Z A (ae l x b).1 U o (((ae l x b).2++(ah l x b (f:Int) (x.length+(ae l x b).2.length)).2)++(ah l x b (s:Int) ((x.length+(ae l x b).2.length)+(ah l x b (f:Int) (x.length+(ae l x b).2.length)).2.length)).2) IS ⟨2,za,(ah l x b (f:Int) (x.length+(ae l x b).2.length)).1,(ah l x b (s:Int) ((x.length+(ae l x b).2.length)+(ah l x b (f:Int) (x.length+(ae l x b).2.length)).2.length)).1⟩)/\Hs (A≠Hq)
    case first=>
     by_cases h0:az=0
     .have cj:¬(0:Int)<(az:Int):=oM;have J:=Xa<|ed.o h0;have cf:Hs (O9 w w5 (n:Int) (some ⟨F,G,none⟩) m c T C Z A (ae l x b).1 U o ((ae l x b).2++(ah l x b (f:Int) (x.length+(ae l x b).2.length)).2) IS ⟨2,za,(ah l x b (f:Int) (x.length+(ae l x b).2.length)).1,(s:Int)⟩):=Xa ⟨I,Y,V,O.calm ap⟩;clear h0;go_wp2;go_meet;rw[J.1,J.2,fF];exact⟨cf,al⟩
     have cj:(0:Int)<(az:Int):=oM
     have J:=Xa<|ee.o h0;obtain⟨e8,bl,bm⟩:=Xv.fresh (lab:=I) (L:=(4,((ae l x b).2++(ah l x b (f:Int) (x.length+(ae l x b).2.length)).2).length,0)) ap aq O.s.1.4 O.s.8;have z:=Xa<|O.spT ap bm;have cc:=Xa bl;obtain⟨sa,sc,bn⟩:∃sa sc,A=.slice sa ((ae l x b).2++(ah l x b (f:Int) (x.length+(ae l x b).2.length)).2).length sc:=by
      obtain⟨h,N,_⟩|⟨g,c,h,_⟩:=Vc z.s.s.1.1;·exact absurd h al
      exact⟨_,_,h⟩
     obtain⟨r,ao⟩:∃r,r=((ae l x b).2++(ah l x b (f:Int) (x.length+(ae l x b).2.length)).2).length:=⟨_,rfl⟩;have ev:r<=2001:=by rw[ao];have:=eg.o;omega
     rw[<-ao]at bn;have aa:=Xa ao;subst bn;have z3:Cl w5 o 4 (Hp s):=Bx.cell z.2 rfl;have dk:=z.s.1.4;clear bl bm h0 ao;go_wp2_with (at_builtin;refine bT _ rfl _ _ 23 rfl w.1.size 84 j0 (.agg #[Hq,Hp 0,Hp 0,Hp 0,Hp 0]) 5 56 underlying23 ck cq cr cs rfl vY _ ((ae l x b).2++(ah l x b (f:Int) (x.length+(ae l x b).2.length)).2).length (NH V<|(ae l x b).2++(ah l x b (f:Int) (x.length+(ae l x b).2.length)).2) rfl (z.s.s.1.1.alloc _) (Hk w5.1.size 0) 1 1 [Hl E az D,Hp 1,Hp 0,Hp s,Hp 0] rfl rfl (World.news_of_block<|World.alloc_heap_new _ _) ?u22 ?u32 ?u42 ?u52 ?_)
     case u22=>intro cw hu;simp at hu;obtain rfl|rfl|rfl|rfl|rfl:=hu<;>rfl
     case u32=>unfold maxLen;rw[<-aa.o];omega
     case u42=>rw[<-aa.o];omega
     case u52=>simp;omega
     intro v8 w8 L ad a1 ab;rw[show(ae l x b).2.length+(ah l x b (f:Int) (x.length+(ae l x b).2.length)).2.length=r by have:=aa.o;rw[aQ]at this;omega]at L;obtain⟨a2,R⟩:=z.side ⟨bq,⟨1,0,(s:Int),0⟩⟩ (by rw[<-du.o];exact cc) ad (by rw[<-aa.o];exact L) (by rw[aO];exact ab);obtain⟨g8,c8,rfl,_,_⟩:=Xm L oM;have k0:Cl w8 o 4 (Hp s):=Bx.cell R.2 rfl;have kz:=Bx.thaw R.2;have e1:IntKind.i64.wrap ((m:Int)+((r:Int)+1))=(m:Int)+((r:Int)+1):=by rw[dF];omega
     have e2:IntKind.i64.wrap ((m:Int)+((r:Int)+1)-1)=(m:Int)+(r:Int):=by rw[dF];omega
     have cg:Hs (O9 w (w8.setCell (Hk o 4) (Hp<|(m:Int)+(r:Int))) (n:Int) (some ⟨F,G,none⟩) m c T C Z (Hl g8 (r+1) c8) (ae l x b).1 U o (((ae l x b).2++(ah l x b (f:Int) (x.length+(ae l x b).2.length)).2)++[⟨bq,⟨1,0,(s:Int),0⟩⟩]) IS ⟨2,za,(ah l x b (f:Int) (x.length+(ae l x b).2.length)).1,(m:Int)+(r:Int)⟩):=Xa ⟨a2,_,_,(R.te 4 ((m:Int)+(r:Int)) rfl)⟩;have ce:Hs ((Hl g8 (r+1) c8)≠Hq):=Xa sP;clear L ad a1 ab R z3;go_wp2
     go_meet;have cn:((((x.length+(ae l x b).2.length)+(ah l x b (f:Int) (x.length+(ae l x b).2.length)).2.length):Nat):Int)=(m:Int)+(r:Int):=by
      have q:=aa.o;have K:=H.o;rw[aQ]at q;omega
     rw[J.1,J.2,cn];exact⟨cg,ce⟩
    obtain⟨HZ,al⟩:=hcut;go_wp2;go_meet;rw[HR.1,HR.2,<-cK];exact⟨HZ,al⟩
   have df:(d.1==2)=false:=by simpa using K
   have HR:Hs ((Nk l x b ⟨ps,u,d⟩ (x.length+(ae l x b).2.length)).1.2=NN l d/\(Nk l x b ⟨ps,u,d⟩ (x.length+(ae l x b).2.length)).2=[]):=Xa (by
    unfold Nk;dsimp only;by_cases q:d.1=1;·rw[aU q];exact⟨rfl,rfl⟩
    rw[aM q,aM K];exact⟨rfl,rfl⟩)
   clear K;go_wp2;go_meet;rw[HR.1,HR.2,fF];obtain⟨I,Y,e⟩:=a4.o;exact⟨Xa ⟨I,Y,V,e⟩,al⟩
  obtain⟨HZ,al⟩:=hcut;clear a4;generalize wc=w6 at*;generalize u9=A at*;obtain⟨I,Y,V,e⟩:=HZ.o;have ea:Hs ((Nk l x b ⟨ps,u,d⟩ (x.length+(ae l x b).2.length)).1=⟨IS,(Nk l x b ⟨ps,u,d⟩ (x.length+(ae l x b).2.length)).1.2⟩):=Xa (by
   rw[dz.o];unfold Nk;dsimp only;by_cases q:d.1=1;·rw[aU q,aU q]
   by_cases K:d.1=2;·rw[aM q,aM q,aU K,fF]
   rw[aM q,aM q,aM K,fF])
  obtain⟨T9,ci⟩:∃T9,T9=(Nk l x b ⟨ps,u,d⟩ (x.length+(ae l x b).2.length)).1.2:=⟨_,rfl⟩;rw[<-ci]at e;obtain⟨ma,mc,di⟩:=e.s.m.1.form;rw[br.o]at di;obtain⟨xa,xc,bo⟩:=e.5.form;obtain⟨il,dd⟩:∃il,il=IS.length:=⟨_,rfl⟩;rw[<-dd]at bo;subst di;subst bo;have m1:Cl w6 C 1 (.slice ma b mc):=Bx.cell e.s.4 rfl;have y0:Cl w6 o 0 (.slice xa il xc):=Bx.cell e.2 rfl;have y1:Cl w6 o 1 (Hp T9.1):=Bx.cell e.2 rfl;have y2:Cl w6 o 2 (Hp T9.a):=Bx.cell e.2 rfl;have y3:Cl w6 o 3 (Hp T9.3):=Bx.cell e.2 rfl;have y4:Cl w6 o 4 (Hp T9.4):=Bx.cell e.2 rfl;have O:=Xa e;have dk:=e.s.1.4;have ej:=Xa ci;clear e HZ ci dd;go_wp2_with (at_builtin;refine bT _ rfl _ _ 23 rfl w.1.size 84 j0 (.agg #[Hq,Hp 0,Hp 0,Hp 0,Hp 0]) 5 56 underlying23 ck cq cr cs rfl vY _ (ae l x b).1.length (NH U (ae l x b).1) rfl (O.s.m.1.1.alloc _) (Hk w6.1.size 0) 1 1 [.slice xa il xc,Hp T9.1,Hp T9.a,Hp T9.3,Hp T9.4] rfl rfl (World.news_of_block<|World.alloc_heap_new _ _) ?v2 ?v3 ?v4 ?v5 ?_)
  case v2=>intro cw hu;simp at hu;obtain rfl|rfl|rfl|rfl|rfl:=hu<;>rfl
  case v3=>unfold maxLen;rw[br.o];omega
  case v4=>rw[br.o];omega
  case v5=>simp;omega
  intro v8 w8 L ad a1 ab;obtain⟨a2,a7,cm⟩:=O.done ad L (by rw[aO];exact ab);obtain⟨g8,c8,rfl,_,_⟩:=Xm L oM;rw[br.o]at a7 |-;have k0:Cl w8 C 1 (.slice ma b mc):=Bx.cell cm rfl;have kz:=Bx.thaw cm;have dw:Hs (PQ w (w8.setCell (Hk C 1) (Hl g8 (b+1) c8)) (n:Int) (some ⟨F,G,none⟩) m c T C A (ae l x<|b+1).1 (ae l x<|b+1).2):=Xa ⟨a2,_,_,_,by rw[ei.o,ea.o,<-ej.o];exact a7,al⟩;clear L ad a1 ab a7 cm m1 y0 y1 y2 y3 y4;go_wp2_with fail
  refine⟨⟨⟨b+1,A,_⟩,rfl,rfl,(by show b+1<=m;omega),dw⟩,by simp[intOf];omega⟩
 have fe:¬(b:Int)<(m:Int):=oM;have ep:b=m:=oM;subst ep;go_wp2_with fail
 exact O _ _ _ rfl HH
section
def Fz(w:Ub)(b:Nat):Prop:=∀q,w.frozen? ⟨b,q,none⟩=false
theorem Fz.keep{w w':Ub}{b:Nat}(h:Fz w b)(k:w'.1[b]?=w.1[b]?):Fz w' b:=λq=>(bJ (a:=(Hk b q)) k).trans (h q)
def oT(w:Ub)(L B:Nat)(ia:Uy)(is:Vr):Prop:=∀i (h:i<is.length),∃g,ia=some ⟨g,0,none⟩/\(L<=g/\g<B)/\Fz w g/\Jk w g (i*5) is[i]
theorem oT.keepS{w w':Ub}{L B:Nat}{ia:Uy}{is:Vr}(h:oT w L B ia is)(k:YA L B w w'):oT w' L B ia is:=λi c=>by
 let⟨g,e,a,d,b⟩:=h i c;have q:=k g a.1 a.2;exact⟨g,e,a,d.keep q,b.keepS q⟩
section
variable {w1 w2: Ub} {B0 H G vc: Nat} {pre: Wi} {pa: Uy} {pc: Nat} {ia: Uy} {ic: Nat} {ps: Za} {is: Vr}
end
end
theorem IW.widen(h:IW n m w v)(d:∀b,n<=b->b<m->k<=b/\b<B):IW k B w v :=
 ⟨h.1,h.2,h.3,h.4,λa c=>h.5 a λq=>c<|d a q.1 q.2,h.6,h.7⟩
def sU(k:Int):Yg:=⟨k,k+1,k+2,k+3,k+4⟩
def ig(w:Ub)(L B:Nat)(a:Uy)(k:Int)(n:Nat):Prop:=∀i,i<n->∃g,a=some ⟨g,0,none⟩/\(L<=g/\g<B)/\Jk w g (i*5) (sU<|k+5*(i:Nat))
theorem ig.keepS{w':Ub}(h:ig w n m p t k)(s:YA n m w w'):ig w' n m p t k:=λi c=>by
 let⟨g,e,a,b⟩:=h i c;exact⟨g,e,a,b.keepS<|s g a.1 a.2⟩
theorem MJ{x:Yg}(h:Jk w n m x){v1 v2 v3 v4:Int}:Jk (((((w.setCell ⟨n,m,none⟩ (.int .i64 t)).setCell ⟨n,m+1,none⟩ (.int .i64 v1)).setCell ⟨n,m+2,none⟩ (.int .i64 v2)).setCell ⟨n,m+3,none⟩ (.int .i64 v3)).setCell ⟨n,m+4,none⟩ (.int .i64 v4)) n m ⟨t,v1,v2,v3,v4⟩:=by
 let⟨a,e1,e2,e3,e4⟩:=h;refine⟨?_,?_,?_,?_,?_⟩<;>simp[a,e1,e2,e3,e4,go_sem]
theorem Ld{x:Yg}(h:Jk w n k x)(b:k + 4<m\/m+4<k){v1 v2 v3 v4:Int}:Jk (((((w.setCell ⟨n,m,none⟩ (.int .i64 t)).setCell ⟨n,m+1,none⟩ (.int .i64 v1)).setCell ⟨n,m+2,none⟩ (.int .i64 v2)).setCell ⟨n,m+3,none⟩ (.int .i64 v3)).setCell ⟨n,m+4,none⟩ (.int .i64 v4)) n k x:=by
 let⟨a,e1,e2,e3,e4⟩:=h;refine⟨?_,?_,?_,?_,?_⟩<;>(rw[XL _ _ oM,XL _ _ oM,XL _ _ oM,XL _ _ oM,XL _ _ oM];assumption)
theorem IV{d:Vr}(ha:Hs (oT w m k p d))(A:Hs (n=d.length))(J:n<=1048576)(F:0<=t)(G:t<=1000000000):
 Calls prog 125 #[.slice p n c,Hp t] w λe s=>e=.returned (Hp<|t+5*n)/\IW m k w s/\ig s m k p t n:=by
 go_in
 go_wp2
 go_loopw [1,5] (λB i wr=>∃j:Nat,j<=n/\i=Hp j/\B=Hp (t+5*j)/\Hs (IW m k w wr)/\Hs (ig wr m k p t j)) λ_ i _=>n-(intOf i).toNat
 case atStart=>exact⟨0,aN,rfl,sP,IW.refl _ _ _,λq hq=>absurd hq oM⟩
 obtain⟨j,H,rfl,rfl,b,hq⟩:=hrel;by_cases I:j<n
 .have z:j<d.length:=oN A.o;obtain⟨g,rfl,h,r,l⟩:=ha j z;let⟨⟨L,M,N,O,P⟩,o⟩:=l.iw b;have u:=Xa o;let⟨f,e1,e2,e3,e4⟩:=o;dsimp only at f e1 e2 e3 e4;have a:=λq=>(b.7<|Hk g q).trans (r q);have C:=a<|j*5;have f1:=a<|j*5+1;have f2:=a<|j*5+2;have f3:=a<|j*5+3;have D:=a<|j*5+4;go_wp2;refine⟨⟨j+1,oM,gM,gM,b.set5 h f e1 e2 e3 e4 _ _ _ _ _,λq K=>⟨g,rfl,h,?_⟩⟩,by simp[intOf];omega⟩;by_cases e:q=j
  .subst e;refine cast (fI (Jk _ g<|q*5) ?_) (MJ u);unfold sU;congr 1<;>omega
  let⟨E,v,_,x⟩:=hq q oM;cases v;exact Ld x oM
 have y:j=n:=oM;subst y;go_wp2;go_ret;exact⟨rfl,b,hq⟩
theorem IP(ha:Hs (ig w m k p t n))(q:n<=1048576)(h:0<=t)(l:t<=1000000000):
 Calls prog 126 #[.slice p n c,Hp t] w λe f=>e=.returned (Hp<|t+5*n)/\f=w:=by
 go_in
 go_wp2
 go_loop [1,5] (λu i=>∃j:Nat,j<=n/\i=Hp j/\u=Hp (t+5*j)) λ_ i=>n-(intOf i).toNat
 case atStart=>exact⟨0,aN,rfl,sP⟩
 obtain⟨j,o,rfl,rfl⟩:=hrel;by_cases d:j<n
 .obtain⟨g,rfl,-,a,e1,e2,e3,e4⟩:=ha j d;dsimp only[sU]at a e1 e2 e3 e4;go_wp2
  go_round
  case rel=>exact⟨j+1,oM,gM,gM⟩
  simp[intOf];omega
 have b:j=n:=oM;subst b;go_wp2;go_ret;exact⟨rfl,rfl⟩
def lens(a:Za):Wa:=a.map λp=>p.2.length
def sS(k:Int):Yj:=⟨k,k+1,k+2,k+3⟩
theorem MP{o:Nat}{x:Yj}(h:Va w g o x)(a v1 v2 v3:Int):Va ((((w.setCell ⟨g,o,none⟩ (.int .i64 a)).setCell ⟨g,o+1,none⟩ (.int .i64 v1)).setCell ⟨g,o+2,none⟩ (.int .i64 v2)).setCell ⟨g,o+3,none⟩ (.int .i64 v3)) g o ⟨a,v1,v2,v3⟩:=by
 let⟨b,e1,e2,e3⟩:=h;refine⟨?_,?_,?_,?_⟩<;>simp[b,e1,e2,e3,go_sem]
theorem pO(a:k < m\/m+3<k){v1 v2 v3:Int}:((((w.setCell ⟨n,m,none⟩ (.int .i64 t)).setCell ⟨n,m+1,none⟩ (.int .i64 v1)).setCell ⟨n,m+2,none⟩ (.int .i64 v2)).setCell ⟨n,m+3,none⟩ (.int .i64 v3)).cell? ⟨n,k,none⟩=w.cell? ⟨n,k,none⟩:=by
 rw[XL _ _ oM,XL _ _ oM,XL _ _ oM,XL _ _ oM]
theorem Mi(a:k≠n){v1 v2 v3:Int}:((((w.setCell ⟨n,m,none⟩ (.int .i64 t)).setCell ⟨n,m+1,none⟩ (.int .i64 v1)).setCell ⟨n,m+2,none⟩ (.int .i64 v2)).setCell ⟨n,m+3,none⟩ (.int .i64 v3)).1[k]?=w.1[k]?:=by
 rw[Below.heap_setCell _ _ _ _ a,Below.heap_setCell _ _ _ _ a,Below.heap_setCell _ _ _ _ a,Below.heap_setCell _ _ _ _ a]
def NB(a:List ag):Nat:=(a.map λx=>5*x.1.length+4).sum
theorem LQ{a:List ag}(x:ag):NB (a++[x])=NB a+(5*x.1.length+4):=by simp[NB]
theorem zC(a:List ag)(j:Nat):NB (a.take j)<=NB a:=Tw _ _ _
def Nl(k:Int)(a:List ag)(q:Nat):Int:=k+(NB (a.take q):Nat)
theorem zP(k:Int){a:List ag}(h:n<a.length):Nl k a (n+1)=Nl k a n+(5*a[n].1.length+4:Nat):=by
 unfold Nl;rw[X7 h,LQ];omega
structure nR(w:Ub)(L B G:Nat)(xs:List ag)(Ls Bs:Wk):Prop where
 at_:∀i (h:i<xs.length),(L<=Ls i/\Bs i<=B)/\¬(Ls i<=G/\G<Bs i)/\∃ia ic,w.cell? ⟨G,i*5,none⟩=some (.slice ia xs[i].1.length ic)/\Va w G (i*5+1) xs[i].2/\oT w (Ls i) (Bs i) ia xs[i].1
 ne:∀i j,i<xs.length->j<xs.length->i≠j->∀b,Ls i<=b->b<Bs i->¬(Ls j<=b/\b<Bs j)
structure PR(w wr:Ub)(L B G:Nat)(k:Int)(xs:List ag)(Ls Bs:Wk)(j:Nat):Prop where
 iw:IW L B w wr
 got:∀q (_:q<xs.length),q<j->∀ia ic,w.cell? ⟨G,q*5,none⟩=some (.slice ia xs[q].1.length ic)->ig wr (Ls q) (Bs q) ia (Nl k xs q) xs[q].1.length/\Va wr G (q*5+1) (sS<|Nl k xs q+5*(xs[q].1.length:Nat))
 rest:∀q,j<=q->q<xs.length->YA (Ls q) (Bs q) w wr
theorem PR.next{wr:Ub}{c:List ag}(j:PR w wr n m k t c f F B)(hq:nR w n m k c f F)(z:n<=k/\k<m)(l:B<c.length)(c0:w.cell? ⟨k,B*5,none⟩=some (.slice p c[B].1.length g))(o:IW (f B) (F B) wr v)(m3:ig v (f B) (F B) p (Nl t c B) c[B].1.length){T:Yj}(H:Va v k (B*5+1) T)(e v1 v2 v3:Int)(y:e=Nl t c B+5*(c[B].1.length:Nat))(e1:v1=e+1)(e2:v2=e+2)(e3:v3=e+3):
 PR w ((((v.setCell ⟨k,B*5+1,none⟩ (.int .i64 e)).setCell ⟨k,B*5+1+1,none⟩ (.int .i64 v1)).setCell ⟨k,B*5+1+2,none⟩ (.int .i64 v2)).setCell ⟨k,B*5+1+3,none⟩ (.int .i64 v3)) n m k t c f F (B+1):=by
 let⟨q1,q2,_⟩:=hq.1 B l;have nG:=λq a=>(hq.1 q a).2.1;have C:IW n m wr v:=o.widen λb _ _=>oM;let⟨r,s,u,x⟩:=H;have out:∀q,q<c.length->q≠B->YA (f q) (F q) wr v:=λq a A b d b2=>o.5 b<|hq.2 q B a l A b d b2;have far:∀q,q<c.length->YA (f q) (F q) v ((((v.setCell (Hk k<|B*5+1) (Hp e)).setCell (Hk k<|B*5+1+1) (Hp v1)).setCell (Hk k<|B*5+1+2) (Hp v2)).setCell (Hk k<|B*5+1+3) (Hp v3)):=λq a b d b2=>Mi λi=>nG q a oM;have kG:=o.5 k λI=>nG B l I;refine⟨(j.1.trans C).set4 z r s u x _ _ _ _,λq a K D E h=>?_,λq J a b d b2=>?_⟩
 .by_cases i:q=B
  .subst i;rw[c0]at h;cases h;refine⟨m3.keepS<|far q a,?_⟩;have q4:=MP (w:=v) (g:=k) (o:=q*5+1) (x:=T) ⟨r,s,u,x⟩ e v1 v2 v3;subst e1 e2 e3 y;exact q4
  let⟨m1,⟨s0,s1,s2,s3⟩⟩:=j.2 q a oM D E h;have G:YA (f q) (F q) wr _:=λb d b2=>(far q a b d b2).trans (out q a i b d b2);refine⟨m1.keepS G,?_,?_,?_,?_⟩;·exact(pO oM).trans ((Xc kG).trans s0)
  .exact(pO oM).trans ((Xc kG).trans s1)
  .exact(pO oM).trans ((Xc kG).trans s2)
  exact(pO oM).trans ((Xc kG).trans s3)
 exact(far q a b d b2).trans ((out q a oM b d b2).trans (j.3 q oM a b d b2))
def ke(w:Ub)(d:Uy)(k:Int)(a:List ag):Prop:=∀i (_:i<a.length),∃G L B b c,d=some ⟨G,0,none⟩/\w.cell? ⟨G,i*5,none⟩=some (.slice b a[i].1.length c)/\ig w L B b (Nl k a i) a[i].1.length/\Va w G (i*5+1) (sS<|Nl k a i+5*(a[i].1.length:Nat))
def l9(w:Ub)(L B:Nat)(d:Uy)(a:List ag):Prop:=a=[]\/∃G c b,d=some ⟨G,0,none⟩/\(L<=G/\G<B)/\Fz w G/\nR w L B G a c b
theorem IL(o:Uy)(c:Nat)(k:Int){a:List ag}(L B:Nat)(w:Ub)(ha:Hs (l9 w L B o a))(m:Hs (n=a.length))(hl:Hs (km a))(hn:n<=1048576)(h0:0<=k)(h1:k<=1000000)(h2:NB a<=900000000):
 Calls prog 57 #[.slice o n c,Hp k] w λy N=>y=.returned (Hp<|k+NB a)/\IW L B w N/\ke N o k a:=by
 by_cases I:n=0
 .have aa:a=[]:=iE<|oN m.o;subst aa I
  go_in
  go_wp2
  go_loopw [1,5] (λx i wr=>i=Hp 0/\x=Hp k/\wr=w) λ_ _ _=>0
  case atStart=>exact⟨rfl,rfl,rfl⟩
  obtain⟨rfl,rfl,rfl⟩:=hrel;go_wp2;go_ret;exact⟨f9 (by simp[NB]),IW.refl _ _ _,λi p=>absurd p sP⟩
 obtain⟨G,d,b,rfl,Y,M,D⟩:∃G d b,o=some (Hk G 0)/\(L<=G/\G<B)/\Fz w G/\nR w L B G a d b:=by
  obtain rfl|X:=ha.o;·exact absurd m.o<|by simpa using I
  exact X
 have V:=Xa M;have s:=Xa D
 go_in
 go_wp2
 go_loopw [1,5] (λx i wr=>∃j:Nat,j<=n/\i=Hp j/\x=Hp (Nl k a j)/\Hs (PR w wr L B G k a d b j)) λ_ i _=>n-(intOf i).toNat
 case atStart=>exact⟨0,aN,rfl,by simp[Nl,NB],IW.refl _ _ _,λr _ hq=>absurd hq oM,λr _ _ W _ _=>rfl⟩
 obtain⟨j,hj,rfl,rfl,e⟩:=hrel;by_cases ap:j<n
 .have l:j<a.length:=oN m.o
  let⟨aj,aq,⟨q,v,c0,K,F⟩⟩:=s.1 j l;have C:=Xa<|zP k l;have al:Nl k a j+(5*a[j].1.length+4:Nat)<=1000000000/\0<=Nl k a j:=by
   have h3:=C.o;have h4:=zC a<|j+1;unfold Nl at*;omega
  have ao:=hl.o _<|aH l;have af:=e.1.slice c0;have Q:=Xa<|F.keepS (w':=wr) (e.3 j aA l);have U:=Xa K;have S:Hs (∀g T,IW (d j) (b j) wr g->ig g (d j) (b j) q (Nl k a j) a[j].1.length->Va g G (j*5+1) T->∀f v1 v2 v3:Int,f=Nl k a j+5*(a[j].1.length:Nat)->v1=f+1->v2=f+2->v3=f+3 ->
   PR w ((((g.setCell (Hk G<|j*5+1) (Hp f)).setCell (Hk G<|j*5+1+1) (Hp v1)).setCell (Hk G<|j*5+1+2) (Hp v2)).setCell (Hk G<|j*5+1+3) (Hp v3)) L B G k a d b (j+1)):=Xa λg T i3 m3 ab f v1 v2 v3=>e.next s.o Y l c0 i3 m3 ab f v1 v2 v3
  generalize A:Nl k a j=ad at*;have ac:=Xa A;generalize z:a[j].1.length=ar at*;have P:=Xa z;go_wp2_with fail
  refine(IV Q (Xa P.symm) oM oM oM).mono ?_;rintro y g⟨rfl,t,H⟩;have u:=e.1.trans (t.widen λW _ _=>oM);let⟨T,J⟩:=U.iw u;have R:=Xa<|S.o g T t H J;let⟨t0,t1,t2,t3⟩:=J;have h:=λr=>(u.7<|Hk G r).trans (V.o r);have f0:=h<|j*5+1;have f1:=h<|j*5+1+1;have f2:=h<|j*5+1+2;have f3:=h<|j*5+1+3;go_wp2;refine⟨⟨j+1,oM,gM,by rw[C.o];go_num,Xa<|R.o _ _ _ _ ?_ ?_ ?_ ?_⟩,by simp[intOf];omega⟩<;>omega
 have Z:j=n:=oM;subst Z;have O:Hs (Nl k a j=k+NB a):=Xa (by unfold Nl;rw[aW<|oN m.o]);go_wp2;go_ret;refine⟨f9 (by rw[O.o]),e.1,λi p=>?_⟩;obtain⟨-,-,⟨q,v,c0,-⟩⟩:=s.1 i p;have E:=e.2 i p (oN m.o) q v c0;exact⟨G,d i,b i,q,v,rfl,e.1.slice c0,E.1,E.2⟩
theorem IJ(c:Nat){a:List ag}(ha:Hs (ke w p t a))(f:Hs (n=a.length))(k:Hs (km a))(M:n<=1048576)(x:0<=t)(y:t<=1000000)(z:NB a<=900000000):
 Calls prog 58 #[.slice p n c,Hp t] w λe v=>e=.returned (Hp<|t+NB a)/\v=w:=by
 go_in
 go_wp2
 go_loopw [1,5] (λu i wr=>∃j:Nat,j<=n/\i=Hp j/\u=Hp (Nl t a j)/\wr=w) λ_ i _=>n-(intOf i).toNat
 case atStart=>exact⟨0,aN,rfl,by simp[Nl,NB],rfl⟩
 obtain⟨j,F,rfl,rfl,rfl⟩:=hrel;by_cases I:j<n
 .have b:j<a.length:=oN f.o
  obtain⟨G,L,B,O,P,rfl,e1,q2,q3⟩:=ha.o j b;have d:=Xa<|zP t b;have D:Nl t a j+(5*a[j].1.length+4:Nat)<=1000000000/\0<=Nl t a j:=by
   have A:=d.o;have C:=zC a<|j+1;unfold Nl at*;omega
  have H:=k.o _<|aH b;have g:=Xa q2;let⟨o,q,r,s⟩:=q3;dsimp only[sS]at o q r s;generalize Nl t a j=K at*;generalize a[j].1.length=m at*;have J:0<=(m:Int):=oM;have N:¬(K+5*(m:Int)<0):=oM;go_wp2_with fail
  refine(IP g oM oM oM).mono ?_;rintro e Q⟨rfl,l⟩;subst l;go_wp2;refine⟨⟨j+1,oM,gM,by rw[d.o];go_num,trivial⟩,by simp[intOf];omega⟩
 have h:j=n:=oM;subst h;have E:Hs (Nl t a j=t+NB a):=Xa (by unfold Nl;rw[aW<|oN f.o]);go_wp2;go_ret;exact⟨f9 (by rw[E.o]),rfl⟩
theorem Nh.sep{d:List ag}(f:Nh w Z n (.slice p m c) k B d h)(E:k≠B):l9 w n w.1.size p d:=by
 by_cases x:d=[];·exact bC x
 have G:0<d.length:=by cases d with|nil=>exact absurd rfl x|cons _ _=>simp
 let⟨v,L,e⟩:=f.1.got G;cases e;have t:=f.1;have z:=t.blk;have own:∀i (a:i<d.length) b,(h i).ownBlock=some b->(n<=b/\b<w.1.size)/\Z b=(B,i,0):=λi a b e=>⟨(f.2 i a).1.lt b e,(f.2 i a).2 b e⟩;refine aZ ⟨v,λi=>(match (h i).ownBlock with|some b=>b|none=>n),λi=>(match (h i).ownBlock with|some b=>b+1|none=>n),rfl,z.1,λq=>t.thaw q,⟨λi a=>?_,λi r a u H b j b2 l=>?_⟩⟩
 .let⟨A,C,s⟩:=(f.2 i a).form;have o:=f.2 i a;rw[s]at o;have g:=λq K hq I=>lq (q:=q) (u:=K) t a hq I;have F:=o.inss;refine⟨?_,?_,A,C,?_,⟨?_,?_,?_,?_⟩,λr u=>?_⟩
  .cases eo:(h i).ownBlock with
   |none=>simp;omega
   |some b=>have:=own i a b eo;simp;omega
  .cases eo:(h i).ownBlock with
   |none=>simp
   |some b=>
    have:=own i a b eo;simp only;intro q;obtain rfl:v=b:=oM;have q2:=this.2.symm.trans z.2;injection q2 with q3;exact E q3.symm
  .exact g 0 (.slice A d[i].1.length C) oM (by rw[s];rfl)
  .exact g 1 _ oM rfl
  .exact g 2 _ oM rfl
  .exact g 3 _ oM rfl
  .exact g 4 _ oM rfl
  let⟨D,M,e⟩:=o.got oM;cases e;let⟨N,O,e2,_,y⟩:=F r u;cases e2;rw[s];refine⟨D,rfl,⟨aA,iJ⟩,λq=>o.thaw q,?_⟩;rw[aV]at y;exact y
 cases eo:(h i).ownBlock with
 |none=>rw[eo]at j b2;simp at j b2;omega
 |some J=>
  cases eq:(h r).ownBlock with
  |none=>rw[eq]at l;simp at l;omega
  |some q=>
   rw[eo]at j b2;rw[eq]at l;simp only at j b2 l;obtain rfl:b=J:=oM;obtain rfl:b=q:=oM;have q2:=(own i a b eo).2.symm.trans (own r u b eq).2;injection q2 with _ q3;injection q3 with q3;exact H q3
theorem nR.keepS{d:List ag}(h:nR w n m k d f F)(b:n<=k/\k<m)(c:YA n m w v):nR v n m k d f F:=by
 refine⟨λi g=>?_,h.2⟩;let⟨a,e,j,l,c0,t,s⟩:=h.1 i g;have kG:=c k b.1 b.2;exact⟨a,e,j,l,(Xc kG).trans c0,t.keepS kG,s.keepS<|c.mono a.1 a.2⟩
theorem l9.keepS{b:List ag}(h:l9 w n m p b)(k:YA n m w v):l9 v n m p b:=by
 obtain h|⟨G,d,c,e,a,g,f⟩:=h;·exact bC h
 exact aZ ⟨G,d,c,e,a,g.keep<|k G a.1 a.2,f.keepS a k⟩
theorem ig.keepB(h:ig w n m p t k)(s:Below w.1.size w v):ig v n m p t k:=λi c=>by
 let⟨g,e,b,a⟩:=h i c;exact⟨g,e,b,a.keepS<|s.5 g (aI w _ a.1)⟩
theorem ke.keep{w':Ub}{a:List ag}(h:ke w p t a)(s:Below w.1.size w w'):ke w' p t a:=λi b=>by
 let⟨G,L,B,d,f,e,c,m,g⟩:=h i b;have kG:=s.5 G<|aI w _ c;exact⟨G,L,B,d,f,e,(Xc kG).trans c,m.keepB s,g.keepS kG⟩
def nO(w:Ub)(L B:Nat)(k:Int)(l:List ag)(G:Uj):Prop:=∃a n c,G=.agg #[.int .i64 k,.slice a n c]/\d7 w L B a l/\n=l.length/\n<=3000/\km l
theorem nO.keepS{w':Ub}{l:List ag}(h:nO w n m t l a)(s:YA n m w w'):nO w' n m t l a:=by
 let⟨b,g,c,e,d,f⟩:=h;exact⟨b,g,c,e,d.keepS s,f⟩
theorem Ku{l:List ag}(ha:nO w n m t l a)(i:nO w k B t l A)(g:m<=w.1.size)(h:B<=w.1.size):
 Calls prog 21 #[a,A] w λe q=>e=.returned (.bool true)/\Below w.1.size w q:=by
 obtain⟨r,o,c,rfl,b,d,v,f⟩:=ha;obtain⟨s,p,u,rfl,j,x,_⟩:=i;obtain rfl:o=p:=oM;exact KU (Xa b) (Xa j) (Xa d) (Xa f) oM g h
theorem JC(p:Int)(b:Uy)(c L B:Nat){a:List ag}(w:Ub)(ha:l9 w L B b a)(h:n=a.length)(o:km a)(s:n<=3000)(l:NB a<=900000000)(r:B<=w.1.size):
 Calls prog 22 #[.agg #[Hp p,.slice b n c],Hp 1] w λe i=>e=.returned (Hp ((1+NB a:Nat):Int))/\N8 L B w i/\ke i b 1 a:=by
 have d:=Xa λW (m:Below w.1.size w W)=>IL b c 1 L B W (Xa<|ha.keepS λq _ q2=>m.5 q oM) (Xa h) (Xa o) oM oM oM l;clear ha h
 go_in
 go_wp2_with fail
 refine(d _<|Xb (Below.refl _ _) _).mono ?_;rintro e t⟨rfl,g,f⟩;have k:=Xa f;have j:=Xa<|N8.trans (N8.of_below<|Xb (Below.refl _ _) _) (N8.of_iw g);clear g f d;go_wp2;go_ret;exact⟨sP,j,k⟩
theorem Jd(k:Int)(c:Nat){a:List ag}(ha:ke w p 1 a)(d:n=a.length)(h:km a)(l:n<=3000)(f:NB a<=900000000):
 Calls prog 23 #[.agg #[Hp k,.slice p n c],Hp 1] w λe j=>e=.returned (Hp ((1+NB a:Nat):Int))/\Below w.1.size w j:=by
 have b:=Xa λW (g:Below w.1.size w W)=>IJ c (Xa<|ha.keep g) (Xa d) (Xa h) oM oM oM f;clear ha d;generalize NB a=M at*;have m:¬(1+(M:Int)<0):=oM
 go_in
 go_wp2_with fail
 refine(b _<|Xb (Below.refl _ _) _).mono ?_;rintro e o⟨rfl,i⟩;subst i;clear b;go_wp2;go_ret;exact⟨sP,Xb (Below.refl _ _) _⟩
theorem zZ:∀(l:List ag),(∀y∈l,y.1.length<=4128)->NB l<=l.length*20644
 |[],_=>by simp[NB]
 |x::l,h=>by
  have c:=zZ l λy b=>h y<|cN _ b;have d:=h x<|cI ..;have a:NB (x::l)=(5*x.1.length+4)+NB l:=by simp[NB]
  rw[a,bA];omega
def jy(w:Ub)(L B:Nat)(b d e k:Int)(l:List ag)(G:Uj):Prop:=∃a n c,G=.agg #[.int .i64 b,.int .i64 d,.int .i64 e,.int .i64 k,.slice a n c]/\nO w L B k l (.agg #[.int .i64 k,.slice a n c])
theorem jy.keepS{w':Ub}{k:Int}{l:List ag}(h:jy w n m t T z k l a)(s:YA n m w w'):jy w' n m t T z k l a:=by
 let⟨b,f,c,e,d⟩:=h;exact⟨b,f,c,e,d.keepS s⟩
theorem sk{i:Int}{l:List ag}(ha:jy w n m t T z i l a)(q:jy w k B t T z i l A)(o:m<=w.1.size)(p:B<=w.1.size):
 Calls prog 7 #[a,A] w λe r=>e=.returned (.bool true)/\Below w.1.size w r:=by
 obtain⟨s,C,c,rfl,d⟩:=ha;obtain⟨u,D,v,rfl,f⟩:=q;have b:=Xa λ(W:Ub)(h:Below w.1.size w W)=>Ku (d.keepS<|YA.of_below (h.mono o)) (f.keepS<|YA.of_below (h.mono p)) (oN h.4) (oN h.4)
 go_in
 go_wp2_with fail
 have b2:=λx y=>Xb (Xb (Below.refl w.1.size w) x) y;refine(b _<|b2 _ _).mono ?_;rintro e E⟨rfl,g⟩;have j:=Xa<|Xg (b2 _ _) g;go_wp2;go_ret;exact⟨rfl,j⟩
def Am(w:Ub)(L B:Nat)(G:Uj):Prop:=∀W,YA L B w W->B<=W.1.size->Calls prog 10 #[G,.int .i64 1] W λe a=>∃m:Nat,e=.returned (.int .i64 m)/\m<=1000000000/\N8 L B W a/\W.1.size<=a.1.size/\(Calls prog 11 #[G,.int .i64 1] a λe b=>e=.returned (.int .i64 m)/\Below a.1.size a b)
theorem JV{co li ne:Int}(h:∀W,Below w.1.size w W->Calls prog 23 #[.agg #[Hp t,.slice p n c],Hp 1] W λe a=>e=.returned (Hp m)/\Below W.1.size W a):
 Calls prog 11 #[.agg #[Hp co,Hp li,Hp ne,Hp t,.slice p n c],Hp 1] w λe a=>e=.returned (Hp m)/\Below w.1.size w a:=by
 have b:=Xa h
 go_in
 go_wp2_with fail
 refine(b _<|Xb (Below.refl _ _) _).mono ?_;rintro e g⟨rfl,d⟩;have f:=Xa<|Xg (Xb (Below.refl _ _) _) d;go_wp2;go_ret;exact⟨rfl,f⟩
theorem zM{l:List ag}(g u v d:Int)(h:l9 w n m p l)(b:k=l.length)(r:km l)(t:k<=3000)(j:NB l<=900000000):Am w n m (.agg #[Hp g,Hp u,Hp v,Hp d,.slice p k c]):=λW o E=>by
 have f:=Xa λ(a:Ub)(i:Below W.1.size W a)=>JC d p c n m a (h.keepS λx q1 q2=>(i.5 x oM).trans (o x q1 q2)) b r t j (oN i.4);have y:=Xa λ(a:Ub)(C:ke a p 1 l)=>JV (co:=g) (li:=u) (ne:=v) λA (B:Below a.1.size a A)=>Jd d c (C.keep B) b r t j;clear h o b;generalize NB l=M at*
 go_in
 go_wp2_with fail
 refine(f _<|Xb (Below.refl _ _) _).mono ?_;rintro D F⟨rfl,s,q⟩;have e:=Xa<|(N8.of_below<|Xb (Below.refl _ _) _).trans s;have z:=Xa q;clear s q f;go_wp2;go_ret;exact⟨1+M,sP,oM,e,e.4,y _ z⟩
section
theorem M3{w:Ub}{d:Nat}{b:List ag}{kv:Vu}{a:Uy}{n c:Nat}(p:w.ownsRow d 84 5 (.slice a n c) b.length (NH kv b))(o:∀i (x:i<b.length),w.ownsRow d 66 5 (kv i) b[i].1.length (ZP b[i].1)):d7 w d w.1.size a b:=λi j=>by
 have f:Xv w (λ_=>(0,0,0)) (0,0,0) d 84 5 (.slice a n c) b.length (NH kv b):=⟨p,λ_ _=>rfl⟩;have g:Xv w (λ_=>(0,0,0)) (0,0,0) d 66 5 (kv i) b[i].1.length (ZP b[i].1):=⟨o i j,λ_ _=>rfl⟩;let⟨m,v,l⟩:=f.got oM;cases l;let⟨r,s,h⟩:=g.form;rw[h]at g;have e:=λt u hq q=>lq (q:=t) (u:=u) f j hq q;refine⟨m,0,rfl,f.blk.1,r,s,?_,⟨?_,?_,?_,?_⟩,g.inss⟩;·rw[aV];exact e 0 _ oM<|by rw[<-h];rfl
 .rw[aV];exact e 1 _ oM rfl
 .rw[aV];exact e 2 _ oM rfl
 .rw[aV];exact e 3 _ oM rfl
 rw[aV];exact e 4 _ oM rfl
theorem rR{b:Type}(f:Nat->b->Wo):∀(M S:List b)(k:Nat),Yu f k (M++S)=Yu f k M++Yu f (k+M.length) S
 |[],S,k=>by simp[Yu]
 |m::M,S,k=>by
  show f k m++Yu f (k+1) (M++S)=f k m++Yu f (k+1) M++_;rw[rR f M S<|k+1,cK,bA,show k+1+M.length=k+(M.length+1) by omega]
theorem rW{b:Type}(f g:Nat->b->Wo):∀(S:List b)(k j:Nat),(∀i x,f (k+i) x=g (j+i) x)->Yu f k S=Yu g j S
 |[],_,_,_=>rfl
 |x::S,k,j,h=>by
  show f k x++Yu f (k+1) S=g j x++Yu g (j+1) S;rw[show f k x=g j x from h 0 x,rW f g S (k+1) (j+1) λi x=>by rw[show k+1+i=k+(i+1) by omega,show j+1+i=j+(i+1) by omega];exact h _ x]
theorem Mz{iv jv:Vu}{M S:List ag}:NH (λi=>if i<M.length then iv i else jv (i-M.length)) (M++S)=NH iv M++NH jv S:=by
 unfold NH;rw[rR,aV,rW (λi (x:ag)=>Nf (if i<M.length then iv i else jv (i-M.length)) x.2) (λi x=>Nf (jv i) x.2) S M.length 0 λi x=>by show Nf (if M.length+i<M.length then _ else _) _=_;rw[aM oM,Nat.add_sub_cancel_left,aV]];rw[show Yu (λi (x:ag)=>Nf (if i<M.length then iv i else jv (i-M.length)) x.2) 0 M=NH iv M from rQ (iv:=λi=>if i<M.length then iv i else jv (i-M.length)) λi b=>aU b];rfl
theorem ME{w:Ub}{lab:Nat->Nat×Nat×Nat}{f:Nat}{v:Uj}{K J:Nat}{S:List ag}{jv:Vu}(h:Nh w lab f v K J S jv):∀u∈NH jv S,u.oneCell'=true:=by
 intro u j;obtain⟨p,i,rfl⟩:=bR j;have m:=pE jv S;have b:p/5<S.length:=oM;have e:=Xz (sz:=5) (f:=λl (x:ag)=>Nf (jv l) x.2) (λ_ _=>rfl) 0 S (p/5) b (p%5) (dS _ oM);rw[show p/5*5+p%5=p by omega,aV]at e;have e2:(Nf (jv<|p/5) S[p/5].2)[p%5]?=some (NH jv S)[p]:=by rw[<-e];exact aC i
 let⟨a,c,g⟩:=(h.2 _ b).form;have d:=eN e2;simp only[Nf,cH,eA,lL]at d;obtain q|q|q|q|q:=d<;>rw[q]<;>first|rfl|(rw[g];rfl)
variable {w wr w8: Ub} {lab: Nat -> Nat×Nat×Nat} {V: Int} {a: Uy} {n c: Nat} {k: Int} {mb: Nat} {mv sv v8: Uj} {M S: List ag} {iv jv: Nat -> Uj}
theorem Om.fin(h:Om w wr lab V a n c k mb mv sv M S iv jv)(g:wr.grownBy w8 mv.ownBlock)(G:w8.ownsRow w.1.size 84 5 v8 (M.length+S.length) (NH iv M++NH jv S))(E:v8.ownBlock=mv.ownBlock\/v8.ownBlock=some wr.1.size):
 Bx w8 mb #[.int .i64 k,mv] 25/\Bx (w8.setCell ⟨mb,1,none⟩ v8) mb #[.int .i64 k,v8] 25/\Bx (w8.setCell ⟨mb,1,none⟩ v8) (w.1.size+1) #[.int .i64 0,.slice none 0 0] 25/\w.1.size+1≠mb /\
 Below w.1.size w (((w8.setCell ⟨mb,1,none⟩ v8).setCell ⟨w.1.size+1,0,none⟩ (.int .i64 k)).setCell ⟨w.1.size+1,1,none⟩ v8)/\∀r t s,v8=.slice r t s->d7 (((w8.setCell ⟨mb,1,none⟩ v8).setCell ⟨w.1.size+1,0,none⟩ (.int .i64 k)).setCell ⟨w.1.size+1,1,none⟩ v8) w.1.size (((w8.setCell ⟨mb,1,none⟩ v8).setCell ⟨w.1.size+1,0,none⟩ (.int .i64 k)).setCell ⟨w.1.size+1,1,none⟩ v8).1.size r (M++S):=by
 let⟨f,H,j⟩:=h.m.1.grow g G E h.8;have o:∀b,lab b=(0,0,0)->lab b≠(1,0,0):=λb e q=>by rw[e]at q;simp at q
 have F:Below w.1.size wr w8:=⟨g.1,g.2,g.3,g.4,λq hq=>g.5 q (aX hq h.1.4) λe=>by have:=(h.m.1.1.lt q e.symm).1;omega⟩;have R:=h.5;have J:=(j.2 _ oM h.3.lt<|o _ h.9.2.1).2.trans h.9.2.1;have K:=(j.2 _ oM h.4.lt<|o _ h.9.2.2).2.trans h.9.2.2;have v:=h.4.sp j oM<|o _ h.9.2.2;have I:=h.3.sp j oM<|o _ h.9.2.1;have C:=λi m=>(h.m.2 i m).sp j (λb e q=>by rw[e]at q;simp at q);have D:=λi m=>(h.s.2 i m).sp j (λb e q=>by rw[e]at q;simp at q);have N:∀b L,f b=L->L≠(0,0,0)->b≠mb:=λb L e d q=>d (by rw[<-e,q];exact K);have y:∀b L,f b=L->L≠(0,0,0)->b≠w.1.size+1:=λb L e d q=>d (by rw[<-e,q];exact J);have O:=XW.put (w:=w8) (lab:=f) (base:=w.1.size) mb 1 v8;have P:=XW.put (w:=w8.setCell (Hk mb 1) v8) (lab:=f) (base:=w.1.size) (w.1.size+1) 0 (Hp k);have Q:=XW.put (w:=(w8.setCell (Hk mb 1) v8).setCell (Hk (w.1.size+1) 0) (Hp k)) (lab:=f) (base:=w.1.size) (w.1.size+1) 1 v8;have p:∀{L:Nat×Nat×Nat}{A z x:Nat}{B:Uj}{u:Wo},L≠(0,0,0)->Xv w8 f L w.1.size A z B x u->Xv (((w8.setCell (Hk mb 1) v8).setCell (Hk (w.1.size+1) 0) (Hp k)).setCell (Hk (w.1.size+1) 1) v8) f L w.1.size A z B x u:=λd h=>((h.sp O λb e=>N b _ e d).sp P λb e=>y b _ e d).sp Q λb e=>y b _ e d;refine⟨v,v.set 1 v8,I.other λe=>oM,oM,(((h.1.trans F).setCell (p:=Hk mb 1) (by show w.1.size<=mb;omega) _).setCell (p:=Hk (w.1.size+1) 0) sP _).setCell (p:=Hk (w.1.size+1) 1) sP _,?_⟩;rintro r t s rfl;have e1:(M++S).length=M.length+S.length:=aQ;refine M3 (kv:=λi=>if i<M.length then iv i else jv (i-M.length)) (n:=t) (c:=s) ?_ λi m=>?_;·rw[Mz,e1];exact(p sP H).1
 by_cases l:i<M.length
 .simp only[aU l,fA l];exact(p sP<|C i l).1
 simp only[aM l,fN<|Nat.le_of_not_lt l];exact(p sP<|D (i-M.length) oM).1
theorem Mx{V:Nat}{a:Uy}{n c:Nat}{b:Wi}{ap B:Nat}{t:Uy}{s J:Nat}{d:Wc}{Lc C:Nat}{k:Int}{w:Ub}(ha:Hs (Xp w ap B a b))(z:Hs (n=b.length))(hB:B<=w.1.size)(R:Hs (Jy V b))(a2:Hs (∀aa∈b,aa.1.length<=1048576/\aa.2.length<=1048576))(hc:Hs (Xf w Lc C t d))(a0:Hs (s=d.length))(az:Hs (s=V))(ar:C<=w.1.size)(hk:1<=k/\k<=64)(H:Hs (∀W,Below w.1.size w W->Calls prog 38 #[.agg #[Hp V,.slice a n c],.slice t s J,Hp k] W λe o=>e=.returned (.bool true)/\Below W.1.size W o)):
 Calls prog 15 #[.agg #[Hp V,.slice a n c],.slice t s J,Hp k] w λe o=>∃Z vc,e=.returned (.agg #[Hp k,.slice Z (NK d b).length vc])/\Below w.1.size w o/\d7 o w.1.size o.1.size Z (NK d b):=by
 let⟨j0,a1,a5,a6,a7⟩:=fX Qa;have h1:¬k<1:=oM;have h2:¬64<k:=oM;have bc:n<=1000:=oP z.o R.1.2
 go_in
 go_wp2_with fail
 refine(H _<|Xb (Xb (Below.refl _ _) _) _).mono ?_;rintro e f⟨rfl,q⟩;have hF:=((Bx.new w #[Hp V,.slice a n c] 37).box _).keep (q.5 _<|by simp;omega);have u:=(by have:=Bx.new (w.alloc<|.cells #[Hp V,.slice a n c] 37) #[Hp 0,Hq] 25;rw[aO]at this;exact this.keep<|q.5 _ sP);have hz:=u.lt;have bf:w.1.size<f.1.size:=oM;have D:=Xa<|Xg (Xb (Xb (Below.refl w.1.size w) _) _) q;have f1:Cl f w.1.size 1 (.slice a n c):=Bx.cell hF rfl;have F:Hs (PQ w ((f.alloc<|.cells #[Hp k,Hq] 25).alloc (.cells #[] 84)) (V:Int) a n c k f.1.size (Hl (f.1.size+1) 0 0) (ae d b 0).1 (ae d b 0).2):=Xa (by
  refine⟨λY=>if Y=f.1.size+1 then (2,0,0)else (0,0,0),Hq,λ_=>Hq,λ_=>Hq,⟨D.trans<|(Xb (Xb (Below.refl _ _) _) _).mono D.4,(hF.box _).box _,(u.box _).box _,(Bx.new _ _ _).box _,hz,Nh.nil,⟨⟨?_,λaq e=>?_⟩,λbh l=>absurd l<|Nat.not_lt_zero _⟩,λY hq=>aM (by simp at hq;omega),aM oM,aM oM,aM oM⟩,sP⟩
  .have:=eI (base:=w.1.size) (e:=84) (size:=5) (f.alloc<|.cells #[Hp k,Hq] 25) #[] 0 (by simp;omega) sP rfl;rw[aO]at this;exact this
  have:aq=f.1.size+1:=by injection e with e;exact e.symm
  exact aU this)
 clear q hF u H;go_wp2;clear f1;generalize (f.alloc _).alloc _=w2 at*;generalize f.1.size=mb at*;have a4:=z.o;refine QL (by exact Xa λ_ _ _ _ _ l=>l) ha z hB R a2 hc a0 az ar ?_ (by rfl) F;intro sv tl w3 O E;obtain⟨a9,ba,bi,rfl,P⟩:=An O;obtain⟨bb,rfl⟩:=qd P;clear F O P;let⟨lab,mv,iv,jv,j,T⟩:=E.o;have G:=Xa<|ll d b n oM;have I:=Xa<|oz d b n oM;have af:Hs (NK d b=(ae d b n).1++(ae d b n).2):=Xa (by unfold NK;rw[<-a4]);generalize (ae d b n).1=M at*;generalize (ae d b n).2=S at*;obtain⟨U,X,rfl⟩:=j.m.1.form;let⟨i,c2,e⟩:∃i c2,sv=Hl i S.length c2:=by
  obtain⟨e,_,_⟩|⟨i,c,e,_,_⟩:=Vc j.s.1.1;·exact absurd e T
  exact⟨i,c,e⟩
 subst e;have m1:Cl w3 mb 1 (.slice U M.length X):=Bx.cell j.4 rfl;have p:=Xa j;have be:=j.1.4;clear j T E;have al:Hs (∀(m:Nat)(A:Uj),(NH jv S)[m]?=some A->w3.cell? (((Hk i 0):Addr).add m)=some A):=Xa (by
  intro m A hu;have:=Jj p.s.1.1 hu;cases m with
  |zero=>simpa [Addr.add]using this
  |succ m=>simpa [Addr.add]using this)
 have ao:=Xa<|ME p.s;have ad:=Xa<|pE jv S;go_wp2_with (at_builtin;refine bT _ rfl _ _ 23 rfl w.1.size 84 j0 (.agg #[Hq,Hp 0,Hp 0,Hp 0,Hp 0]) 5 56 underlying23 a1 a5 a6 a7 rfl vY _ M.length (NH iv M) rfl p.m.1.1 (Hk i 0) S.length c2 (NH jv S) rfl ?v1 al ?v2 ?v3 ?v4 ?v5 ?_)
 case v1=>exact ad
 case v2=>exact ao
 case v3=>unfold maxLen;have:=G.o;have:=I.o;omega
 case v4=>have:=G.o;have:=I.o;omega
 case v5=>omega
 intro v8 w8 y N a3 K;let⟨v,x,r,bd,Q,L⟩:=p.fin N y K;obtain⟨g,h,rfl⟩:∃g h,v8=.slice g (M.length+S.length) h:=by
  obtain⟨e,l,_⟩|⟨i,c,e,_⟩:=Vc y;·exact⟨none,0,by rw[e,l]⟩
  exact⟨_,_,e⟩
 have k0:Cl w8 mb 1 (.slice U M.length X):=Bx.cell v rfl;have kz:=Bx.thaw v;have aj:=Xa Q;have ab:=Xa<|L _ _ _ rfl;have q0:(w8.setCell (Hk mb 1) (.slice g (M.length+S.length) h)).cell? (Hk mb 0)=some (Hp k):=Bx.cell x rfl;have q1:(w8.setCell (Hk mb 1) (.slice g (M.length+S.length) h)).cell? (Hk mb 1)=some (.slice g (M.length+S.length) h):=Bx.cell x rfl;have r0:(w8.setCell (Hk mb 1) (.slice g (M.length+S.length) h)).cell? (Hk (w.1.size+1) 0)=some (Hp 0):=Bx.cell r rfl;have r1:(w8.setCell (Hk mb 1) (.slice g (M.length+S.length) h)).cell? (Hk (w.1.size+1) 1)=some Hq:=Bx.cell r rfl;have rz:=Bx.thaw r;clear v x r Q L y N a3 K m1;go_wp2_with fail
 refine cC (v:=.agg #[Hp k,.slice g (M.length+S.length) h]) (by simp[results,results15,go_sem,r0,r1]) rfl ?_;rw[af.o,aQ];exact⟨_,_,rfl,aj,ab⟩
end
theorem EH:0<NO f n↔∃x,x<64*n/\Xh f x=true:=by
 unfold NO;rw[nC];constructor;·rintro⟨x,a,b⟩;exact⟨x,bE.1 a,b⟩
 rintro⟨x,a,b⟩;exact⟨x,bE.2 a,b⟩
theorem Dq(x y:Uj)(W:Ub):(Instr.field 106 (.agg #[x,y]) 0).run prog W=.ok x W:=vZ
theorem Te(v:Int)(a c:Nat)(ha:Hs (Xp w n m p x))(f:Hs (a=x.length))(hs:Hs (x.length+Xx x<=1048576))(L:m<=w.1.size)(y:Hs (Yy w))(z:Hs (Yb w)):
 Calls prog 17 #[.agg #[Hp v,.slice p a c]] w λe w'=>e=.returned (Hp<|Ft v x)/\Below w.1.size w w':=by
 have k:=Xa λW (A:Below w.1.size w W)=>JK v p a c x n m W (Xa<|ha.keep (A.mono L)) f hs (oN A.4) (Xa (y.keep A y.1).old) (Xa (z.keep A z.1).old);cases hv:XJ ⟨v,x⟩with
 |false=>
  rw[hv]at k;rw[Uh hv];clear hv
  go_in
  go_wp2_with fail
  refine(k _<|Xb (Below.refl _ _) _).mono ?_;rintro e w1⟨rfl,g⟩;have E:=Xa<|Xg (Xb (Below.refl w.1.size w) _) g;clear g k;go_wp2;go_ret;exact⟨rfl,E⟩
 |true=>
  rw[hv]at k;have I:=Xa hv;have az:0<=v:=by
   simp only[XJ,Y6,bY,bD]at hv;omega
  obtain⟨V,rfl⟩:=bX az;have d:=Xa<|XH hv;have hn:a<=1000:=oP f.o d.1.2;have s:0<a:=oP f.o d.1.1;have a9:a<=64*((a+63)/64):=oM;have ba:(a+63)/64<=100:=oM;generalize a0:Ft (V:Int) x=R;have J:=Xa a0;clear hv az a0
  go_in
  go_wp2_with fail
  have M:Below w.1.size w (w.alloc<|.cells #[Hp V,.slice p a c] 37):=Xb (Below.refl _ _) _;have al:(w.alloc<|.cells #[Hp V,.slice p a c] 37).cell? (Hk w.1.size 0)=some (Hp V):=sP;have ao:(w.alloc<|.cells #[Hp V,.slice p a c] 37).cell? (Hk w.1.size 1)=some (.slice p a c):=sP;have D:w.1.size<(w.alloc<|.cells #[Hp V,.slice p a c] 37).1.size:=sP;refine(k _ M).mono ?_;rintro e w1⟨rfl,g⟩;have E:=Xa<|Xg M g;have g0:=oB g al D;have g1:=oB g ao D;have a1:=aX D g.4;clear g M al ao D k;go_wp2_with fail
  refine(Ki (V:Int) p c hn).mono ?_;rintro e S⟨K,gS,rfl,bi,bn,r,ar⟩;have j:=Xa<|Xg E r;have ab:=Xa ar;have k0:=oB r g0 a1;have k1:=oB r g1 a1;have bp:=r.4;have a6:Hs (∀b∈x,∀a4∈b.3.tg,0<=a4/\a4<(a:Int)):=Xa (by rw[f.o];exact d.1.3);have ac:=Xa (VY K gS S.1.size c p n m f hn a9 ba oM oM oM a6 a 0 (λ_=>0) Hq [] S ab (Xa<|ha.keep (j.mono L)) s (Xa<|ZA _ _) (Xa JW) (by simpa using ZA (λ_=>0) a));clear r ar g0 g1;go_wp2_with fail
  refine ac.mono ?_;rintro e q⟨rfl,v',i,aq⟩;have o:Below w.1.size w q:=⟨i.1.trans j.1,i.2.trans j.2,i.3.trans j.3,aJ j.4 i.4,λa3 hq=>(i.5 a3 oM oM oM λe=>by cases e).trans (j.5 a3 hq)⟩;have N:=i.5 w.1.size oM oM oM (λe=>by cases e);have m0:=(Xc N).trans k0;have m1:=(Xc N).trans k1;have P:YW q K gS S.1.size ((a+63)/64) p a c (Zp x).1 v' (Zp x).2:=by
   unfold Zp;rw[<-f.o];exact aq
  let⟨q1,q2,q3,q4⟩:=d.1.top;have F:=Xa<|uQ d.1 (F:=Ja x) q3 q1;have ap:(Ja x).length=(Zp x).2.length:=by unfold Ja;rw[jQ]
  have O:=P.6;rw[show Je (Zp x).2=(Xi (Zp x).2).map (Value.int .i64) by simp[Je,Xi]]at O;let⟨aL,cL,eL,_⟩:=Xk O;have s2:q.cell? (Hk K 2)=some (.slice aL (Ja x).length cL):=by
   have l:=P.3;rw[eL,show(Xi (Zp x).2).length=(Ja x).length by rw[ap];simp[Xi]]at l;exact l
  have G:=Xa o;let⟨Q,t⟩:∃bd,bd=(Ja x).length:=⟨_,rfl⟩;rw[<-t]at s2;have bf:=Xa t;have bo:Q<=a:=by rw[t,f.o];exact F.1
  have U:Hs (Q=a↔Jq x):=Xa (by rw[t,f.o];exact F.2);have aa:=Xa<|KO V p a c x n m q.drew (Xa<|ha.keep (o.drew.mono L)) f (oN o.drew.4) d (Xa<|y.keep o.drew y.1) (Xa<|z.keep o.drew z.1);have bq:w.1.size<q.1.size:=aI q _ m0;clear i aq P o N O eL ap t q1 q2 q3 q4 k0 k1 ac ab F;by_cases bc:Q<a
  .have HR:Hs (R=10):=Xa (by rw[<-J.o];exact t9 I λl=>by have:=U.2 l;omega);go_wp2_with fail
   go_region;go_wp2;go_ret;exact⟨by rw[HR.o];rfl,G.drew⟩
  have T:=Xa<|U.1 oM;have bm:=λb be W=>Dq b be W;go_wp2_with fail
  go_region;go_wp2_with fail
  refine aa.mono ?_;rintro e w4⟨Gi,Go,gi,go,ci,u,WX,rfl,h⟩;have bh:=Xa h;have x0:=h.2.1.cell s;have hV:=d.2;have Z:=Xa<|Kl (gi 0) ((V+63)/64) (ci 0) (u 0) w4 (Xa<|h.4 0) (Xa<|h.2.2 0 s) oM;have bl:=TB (u 0) ((V+63)/64);have a5:=Xa<|G.drew.trans (h.1.mono G.drew.4);have Y:Hs (0<NO (u 0) ((V+63)/64)↔∃b,N4 x b):=Xa (by
   let⟨a7,a8,W0,a2,h1,h2,h3,h4,h5,_⟩:=h.8;have af:∀{b:Nat},Sp a7 a8 (·∈a2) (X8 x) 0 b↔N4 x b:=λ{b}=>EX d h1 h2 h3 (ord:=(·∈a2)) h4 (src:=X8 x) λ_ _=>rfl;rw[EH];constructor
   .rintro⟨b,B,C⟩;exact⟨b,af.1<|(h5 0 s b B).1 C⟩
   rintro⟨b,B⟩
   have bc:=wH d B;have C:b<64*((V+63)/64):=oM;exact⟨b,C,(h5 0 s b C).2 (af.2 B)⟩)
  clear h aa;generalize bb:NO (u 0) ((V+63)/64)=cc at*;clear bb;generalize (V+63)/64=K4 at*;go_wp2_with fail
  refine Z.mono ?_;rintro e w5⟨rfl,ad⟩;have X:=Xa<|Xg a5 ad;clear ad Z x0;by_cases aj:0<cc
  .have H:Hs (R=11):=Xa (by rw[<-J.o];exact qg I T<|Y.1 aj);go_wp2;go_ret;exact⟨by rw[H.o];rfl,X⟩
  have H:Hs (R=0):=Xa (by rw[<-J.o];exact uP I T λl=>aj<|Y.2 l);go_wp2;go_ret;exact⟨by rw[H.o];rfl,X⟩
end Go.Proofs.YtcfdhbigppockaaGreatDoor
