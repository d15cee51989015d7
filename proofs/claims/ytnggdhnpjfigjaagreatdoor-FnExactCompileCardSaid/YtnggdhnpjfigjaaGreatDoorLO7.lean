import Derived.Test.YtnggdhnpjfigjaaGreatDoorLO0
import Derived.Shelf.Spec.SlicesInsertGrow
namespace Go.Proofs.YtnggdhnpjfigjaaGreatDoor
set_option maxHeartbeats 8000000
set_option maxRecDepth 100000
open _root_ renaming Array.size->Z,List.length->J,Nat->N,Int->I,rfl->R,Option.some->S,Option.none->U,Bool.true->So,Bool.false->Sn,absurd->Sz
open Go renaming World.cell?->E,World.alloc->D,World.setCell->Se,IntKind.i64->S6,undef->Su,RowKit.Below->Sw,World.ownsRow->Sx,Obj.cells->Sc,Ending.returned->Rt,Calls->Sk
open Value renaming slice->X,int->Si,agg->Sa,bool->Sb,string->Sg,pointer->Sj
open Go.RowKit Go.Proofs.Tryz
variable{r:Bool}{t T z:I}{n m k B g i j c:N}{w:Ub}{a A_:Uj}{p P:Uy}{s:Wa}{l:Wc}{x:Wi}{y:Wo}
theorem rP(b:I):∀(a:Wi)(i k:N)(h:k<J a),b∈a[k].3.tg->((i+k:N):I)∈AQ a i b
 |[],_,_,h,_=>Sz h sP
 |x::a,i,k,h,hb=>by
  rw[AQ,bU];cases k with
  |zero=>left;simp only[eM]at hb;simp[hb]
  |succ k=>
   right;have:=rP b a (i+1) k SI (by simpa using hb);rwa[show i+1+k=i+(k+1) by omega]at this
theorem m8(a:Wy):J (dp a)<=128:=by
 by_cases b:bw a=So
 .let⟨c,d⟩:=rK b;unfold dp;rw[aU b];refine aJ (oC _ _) ?_;have:J (bu a)<=J a:=fJ _ _;omega
 unfold dp;rw[aM b];exact aN
structure QI where
 b:N
 sv:Uj
 tl:Wo
theorem An(h:J y=157):∃a d:Uj,∃c,y=a::d:: c/\J c=155:=by
 match y,h with
 |a::b::y,h=>exact⟨a,b,y,R,SI⟩
structure QJ(w:Ub)(V:N)(gb ob n:N)(xs:Wi)(L B:N)(b:N)(X_:Xe)(ia:Uy)(ic:N):Prop where
 kw:∀W,Sw (Z w.1) w W->(E W ⟨gb,ob+b*6+1,U⟩=S (X ia (J X_.2) ic)/\YY W L B ia X_.2)/\E W ⟨gb,ob+b*6+2,U⟩=S (Si S6 X_.3.1)/\E W ⟨gb,ob+b*6+2+1,U⟩=S (Si S6 X_.3.a)/\E W ⟨gb,ob+b*6+2+2,U⟩=S (Si S6 X_.3.3)/\E W ⟨gb,ob+b*6+2+3,U⟩=S (Si S6 X_.3.4)
 oi:∀y∈X_.2,(∀v∈Iw y,0<=v/\v<V)/\(∀v∈BW y,0<=v/\v<V)
 ln:J X_.1<=1048576/\J X_.2<=1048576
 kd:1<=X_.3.1/\X_.3.1<=3
 rt:∀v∈Id X_.3,0<=v/\v<V
 pr:∀t:I,t∈X_.3.tg->(0<=t/\t<J xs)/\(b:I)∈AQ xs 0 t
theorem MR(ha:Xp w k B p x)(q:B<=Z w.1)(d:Jy m x)(u:∀o∈x,J o.1<=1048576/\J o.2<=1048576)(a:g<J x):∃b e f h,p=S (A b e)/\b<Z w.1/\QJ w m b e n x k B g x[g] f h:=by
 obtain⟨b,e,rfl,⟨_,z⟩,r⟩:=ha g a;let⟨A_,C,f,h,_,e1,⟨e2,e3,e4,e5⟩,_,s⟩:=r;refine⟨b,e,f,h,R,O,λW i=>?_,λy l=>⟨d.5 _ (aH a) y l,d.6 _ (aH a) y l⟩,u _<|aH a,d.4 _<|aH a,d.7 _<|aH a,λt j=>⟨d.1.3 _ (aH a) t j,by have:=rP t x 0 g a j;simpa using this⟩⟩;have c:=λv=>i.cell (p:=A b v) (show b<Z w.1 by omega);exact⟨⟨G (c _) e1,s.keep<|i.mono q⟩,G (c _) e2,G (c _) e3,G (c _) e4,G (c _) e5⟩
theorem QL{bv:Yt}{Lc Bc:N}{C:N}{c0 c2 c4 c5:Uj}(hQ:Q (∀c (p:Act) t_ v_ w,bv (.panic c) (p.put (S t_) v_) w->bv (.panic c) p w))(ha:Q (Xp w k B p x))(L:Q (m=J x))(hB:B<=Z w.1)(ho:Q (Jy n x))(b4:Q (∀M∈x,J M.1<=1048576/\J M.2<=1048576))(hc:Q (Xf w Lc Bc P l))(ba:Q (i=J l))(bh:Q (i=n))(bf:Bc<=Z w.1)(dc:∀(A_:Uj)(y:Wo)(w':Ub),J y=157->Q (PQ w w' (n:I) p m c T C A_ (ae l x m).1 (ae l x m).2)->bv (.exit 0) ⟨(c0::X P i j::c2::Hn (Z w.1)::c4::c5::a::Hn C::H m::A_::H ((m:N):I)::y).toArray,[]⟩ w'){wr:Ub}(hl:J y=157)(N_:Q (PQ w wr (n:I) p m c T C A_ (ae l x 0).1 (ae l x 0).2)):
 Code.wp prog (Code.loop Ao) bv ⟨(c0::X P i j::c2::Hn (Z w.1)::c4::c5::a::Hn C::H m::A_::H ((0:N):I)::y).toArray,[]⟩ wr:=by
 have O_:=Y dc;clear dc;have fs:m<=1000:=oP L.o ho.1.2;obtain⟨i0,es,e0,e6,e7⟩:=fX RB;obtain⟨j0,ck,cq,cr,cs⟩:=fX Qa;refine iY (λa' wr=>∃M:QI,a'=⟨(c0::X P i j::c2::Hn (Z w.1)::c4::c5::a::Hn C::H m::M.2::H ((M.b:N):I)::M.3).toArray,[]⟩/\J M.3=157/\M.b<=m/\Q (PQ w wr (n:I) p m c T C M.2 (ae l x M.b).1 (ae l x M.b).2)) (λa' _=>m-(intOf<|a'.1.getD 10 Su).toNat) ⟨⟨0,A_,y⟩,R,hl,aN,N_⟩ ?_;clear N_ hl;rintro a' wr⟨⟨b,A_,y⟩,rfl,hl,eq,HH⟩;dsimp only at hl eq HH |-
 conv=>arg 2;whnf
 obtain⟨fa,fb,e9,rfl,bi⟩:=An hl;obtain⟨en,rfl⟩:=qd bi;clear hl bi;by_cases et:b<m
 .have b0:b<J x:=oN L.o;have fr:(b:I)<(m:I):=O;have fc:(0:I)<=(b:I):=O;obtain⟨F,K,ia,ic,rfl,fq,db⟩:=MR (n:=m) ha hB ho b4 b0;have aj:=Y db;have ei:=Y<|ou l x b b0;have br:=Y<|ll l x b (dU b0);have c9:=Y<|oz l x b (dU b0);obtain⟨V,Z_,U_,V_,hS,dj⟩:=HH.o;have al:=Y dj;have HS:=Y hS;clear hS dj HH db;generalize x[b]=em at*;obtain⟨ps,u,d⟩:=em;obtain⟨⟨k1,_⟩,k2,k3,k4,k5⟩:=aj.1 wr HS.1;dsimp only at k1 k2 k3 k4 k5;have f1:Cl wr (Z w.1) 1 (Hm F K m c):=Bx.cell HS.2 R;have f4:Z w.1<Z wr.1:=HS.2.lt;have er:F<Z wr.1:=O;go_wp2;have da:Q (Oz w (D wr<|.cells #[Hq,H d.1,H d.a,H d.3,H d.4] 56) (n:I) (S ⟨F,K,U⟩) m c T C Z_ A_ (ae l x b).1 (ae l x b).2 U_ V_ (Z wr.1) ((u.map<|ZR l).take 0) d):=Y ⟨V,Hq,HS.calm<|Xb Rf _,Bx.new _ _ _,HS.1.4,HS.8 _<|aA,⟨dA,λb h=>by cases h⟩⟩;generalize D wr _=wx at*;clear k1 k2 k3 k4 k5 f1 er HS;generalize Z wr.1=o at*;refine QK k ia ic (by exact Y λ_ _ _ _ _ N_=>hQ _ _ _ _ _ N_) hB hc ba bh bf et (Y λW_ hW=>(aj.1 W_ hW).1) (Y aj.2) aj.3.2 ?_ (by rfl) da;intro e9 X_ bi a3;obtain⟨en,rfl⟩:=qd bi;rw[aW sP]at a3;clear bi da;have z1:E X_ (A o 1)=S (H d.1):=by obtain⟨V,Y_,e⟩:=a3.o;exact Bx.cell e.2 R
  go_upto_if 76 with fail
  clear z1
  go_cut []from 14 to 167 λwx=>Q<|Oz w wx (n:I) (S ⟨F,K,U⟩) m c T C Z_ A_ (ae l x b).1 (ae l x b).2 U_ V_ o (u.map<|ZR l) (NN l d)
  case first=>
   by_cases q:d.1=1
   .have b3:(d.1 != 1)=Sn:=by simpa using q
    have W:Q (NN l d=d):=Y (by unfold NN;rw[aU q]);clear q;go_wp2;go_meet;rw[W.o];exact a3
   have b3:(d.1 != 1)=So:=by simpa using q
   obtain⟨V,Y_,e⟩:=a3.o;have eu:=aj.5 d.a (by unfold Id;simp[q]);obtain⟨bb,f5,cv,hv,hq,rfl,fi,fj⟩:=jq (hc.keep<|e.s.1.mono bf) eu.1 (oP ba.o bh.o);have fz:(cv:I)<(i:I):=oN ba.o;have fx:(0:I)<=(cv:I):=O;have y2:E X_ (A o 2)=S (H cv):=by rw[<-hv];exact Bx.cell e.2 R
   have yz:=Bx.thaw e.2;have W:Q (Oz w (Se X_ (A o 2) (H<|Kp l d.a)) (n:I) (S ⟨F,K,U⟩) m c T C Z_ A_ (ae l x b).1 (ae l x b).2 U_ V_ o (u.map<|ZR l) (NN l d)):=Y ⟨V,Y_,e.te 2 (Kp l d.a) (by unfold NN;rw[aM q];rfl)⟩;have HV:=Y hv;clear e hv q a3;generalize Kp l d.a=za at*;go_wp2;go_meet;exact W
  have bc:=hcut;clear hcut a3;generalize wc=X_ at*;have cd:Q ((NN l d).1=d.1/\(NN l d).3=d.3/\(NN l d).4=d.4):=Y ⟨R,R,R⟩;have z1:E X_ (A o 1)=S (H d.1):=by obtain⟨V,Y_,e⟩:=bc.o;rw[<-cd.1];exact Bx.cell e.2 R
  go_upto_if 88 with fail
  clear z1
  go_cut []from 14 to 167 λwx=>Q<|Oz w wx (n:I) (S ⟨F,K,U⟩) m c T C Z_ A_ (ae l x b).1 (ae l x b).2 U_ V_ o (u.map (ZR l)++(if d.1=1 then NL l x b d.3 else [])) (NN l d)
  case first=>
   by_cases q:d.1=1
   .have b3:(d.1==1)=So:=by simpa using q
    simp only[b3];obtain⟨tq,b8⟩:∃tq:N,d.3=(tq:I):=⟨d.3.toNat,by have:=(aj.6 d.3<|by simp[Yj.tg,q]).1;omega⟩;have b5:=aj.6 d.3 (by simp[Yj.tg,q]);rw[b8]at b5;have c7:Q ((if d.1=1 then NL l x b d.3 else [])=NL l x b (tq:I)):=Y (by rw[aU q,b8]);have d0:=Y b5.2;have ey:tq<m:=oP L.o b5.1;obtain⟨V,Y_,e⟩:=bc.o;obtain⟨xa,xc,bo⟩:=e.5.form;rw[bK]at bo;subst bo;have ek:=Y e;have bd:Q (∀W_ dn,Bx W_ (Z w.1) #[H n,Hm F K m c] 40->Bx W_ o #[dn,H (NN l d).1,H (NN l d).a,H (NN l d).3,H (NN l d).4] 56->E W_ (A (Z w.1) 0)=S (H n)/\E W_ (A (Z w.1) 1)=S (Hm F K m c)/\E W_ (A o 3)=S (H tq)):=Y (λW_ dn hF eo=>⟨Bx.cell hF R,Bx.cell hF R,by rw[<-b8,<-cd.2.1];exact Bx.cell eo R⟩);obtain⟨y0,y1,y3⟩:=bd _ _ e.s.2 e.2;have x0:Cl X_ o 0 (X xa (J u) xc):=Bx.cell e.2 R;have cb:=Y λW_ (S_:Sw (Z w.1) w W_)=>sj c j (Y<|ha.keep (S_.mono hB)) L (oN S_.4) ho (Y λM L=>(b4 M L).1) (Y<|hc.keep (S_.mono bf)) ba bh (oN S_.4) ey d0;have bt:=Y<|ek.calm (Below.refl (Z X_.1) X_).drew;clear e b8 q b5 bc;obtain⟨CP,bx⟩:∃CP,CP=NL l x b (tq:I):=⟨_,R⟩;obtain⟨cl,b1⟩:∃cl,cl=J CP:=⟨_,R⟩;have a0:cl<=128:=by rw[b1,bx];exact m8 _
    rw[<-bx,<-b1]at cb;rw[<-bx]at c7;have cx:=Y b1;have ez:=aj.3.2;dsimp only at ez;clear bx b1;go_wp2;refine Y7 (λw'=>E w' (A (Z w.1) 0)=S (H n)/\E w' (A (Z w.1) 1)=S (Hm F K m c)/\E w' (A o 3)=S (H tq)) λhHeld=>?_;refine X0 0 ?_;refine X0 2 ?_;refine X0 3 ?_;refine X0 4 ?_;refine X0 5 ?_;refine X0 6 ?_;refine X0 7 ?_;refine eS (rs:=[1,8]) vZ sP ?_;refine(bQ R (λbe hK=>?_) (bQ R (λbe hK=>?_) dY))
    focus
     go_simp;refine hK _ _ kP λhHeld=>?_;clear hK
     try simp only[xX]
     refine Xs 8 λbe hK=>?_;go_simp
     go_at_call 49
     refine(cb _ bt.s.1).mono ?_;rintro h w5⟨v5,rfl,af,ac,Q_⟩;have z:=Y<|bt.calm ac;have s5:=bd _ _ z.s.2 z.2;have x5:Cl w5 o 0 (X xa (J u) xc):=Bx.cell z.2 R;obtain⟨t,v,rfl⟩:∃t v,v5=Hl t cl v:=by
      obtain⟨h,_,_⟩|⟨t,v,h,_⟩:=Vc Q_;·exact Sz h af
      exact⟨t,v,h⟩
     have aq:=Y Q_;clear ac Q_ af;dsimp only;refine hK _ _ s5 λhHeld=>?_;clear hK
    rotate_left
    focus
     go_simp
     go_at_call 49
     refine(cb _ bt.s.1).mono ?_;rintro h w5⟨v5,rfl,af,ac,Q_⟩;have z:=Y<|bt.calm ac;have s5:=bd _ _ z.s.2 z.2;have x5:Cl w5 o 0 (X xa (J u) xc):=Bx.cell z.2 R;obtain⟨t,v,rfl⟩:∃t v,v5=Hl t cl v:=by
      obtain⟨h,_,_⟩|⟨t,v,h,_⟩:=Vc Q_;·exact Sz h af
      exact⟨t,v,h⟩
     have aq:=Y Q_;clear ac Q_ af;dsimp only;refine hK _ _ s5 λhHeld=>?_;clear hK
     try simp only[xX]
     refine Xs 1 λbe hK=>?_;go_simp;refine hK _ _ kP λhHeld=>?_;clear hK
    all_goals (
     refine Xs 9 λbe hK=>?_;refine d6 R _ _ 52 R (Z w.1) 59 i0 (Sa #[H 0,H 0,H 0,H 0,H 0]) 5 40 underlying52 es e0 e6 e7 R vY (X xa (J u) xc) (J u) (ZP<|u.map (ZR l)) R ?s1 (A t 0) cl v (ZP CP) R ?s0 ?s2 ?s3 ?s4 ?s5 ?s6 ?_
     case s1=>have:=z.5.1;rw[bK]at this;exact this
     case s0=>rw[iR,cx.o]
     case s2=>
      intro dl cw hu;have:=Jj aq hu;cases dl with
      |zero=>simpa [Addr.add]using this
      |succ dl=>simpa [Addr.add]using this
     case s3=>exact l7 _
     case s4=>unfold maxLen;omega
     case s5=>omega
     case s6=>exact z.s.1.4
     intro v8 w8 L_ ad a1 ab;obtain⟨a2,R_,ca,a7⟩:=z.push CP ad (by rw[bK,<-cx.o];exact L_) ab;obtain⟨a8,c8,rfl⟩:∃a8 c8,v8=X a8 (J u+cl) c8:=by
      obtain⟨h,N_,_⟩|⟨g,c,h,_⟩:=Vc L_;·exact⟨U,0,by rw[h,N_]⟩
      exact⟨_,_,h⟩
     have s8:=bd _ _ a7.2 ca;have s9:=bd _ _ R_.s.2 R_.2;have k0:Cl w8 o 0 (X xa (J u) xc):=Bx.cell ca R;have kz:=Bx.thaw ca;have el:Q (Oz w (Se w8 (A o 0) (X a8 (J u+cl) c8)) (n:I) (S ⟨F,K,U⟩) m c T C Z_ A_ (ae l x b).1 (ae l x b).2 U_ V_ o (u.map (ZR l)++(if d.1=1 then NL l x b d.3 else [])) (NN l d)):=Y ⟨a2,_,by rw[c7.o];exact R_⟩;clear L_ ad a1 ab R_ ca a7 x0 x5 z aq;refine hK _ _ s8 λhHeld=>?_;clear hK;refine X0 10 ?_;refine Xs 11 λbe hK=>?_;go_simp;refine hK _ _ s9 λhHeld=>?_;clear hK;refine Yq ?_;clear hHeld k0 kz s8 s9;go_wp2
     go_meet;exact el)
   have b3:(d.1==1)=Sn:=by simpa using q
   have W:Q (u.map (ZR l)++(if d.1=1 then NL l x b d.3 else [])=u.map (ZR l)):=Y (by rw[aM q,fF]);clear q;go_wp2;go_meet;rw[W.o];exact bc
  have a4:=hcut;clear hcut bc;generalize wc=X_ at*;obtain⟨IS,ch⟩:∃IS,IS=u.map (ZR l)++(if d.1=1 then NL l x b d.3 else []):=⟨_,R⟩;rw[<-ch]at a4;have dz:=Y ch;clear ch;have z1:E X_ (A o 1)=S (H d.1):=by obtain⟨V,Y_,e⟩:=a4.o;rw[<-cd.1];exact Bx.cell e.2 R
  go_upto_if 103 with fail
  clear z1
  go_cut [9]from 13 to 167 λA_ wx=>Q (O9 w wx (n:I) (S ⟨F,K,U⟩) m c T C Z_ A_ (ae l x b).1 U_ o ((ae l x b).2++(Nk l x b ⟨ps,u,d⟩ (J x+J (ae l x b).2)).2) IS (Nk l x b ⟨ps,u,d⟩ (J x+J (ae l x b).2)).1.2)/\Q (A_≠Hq)
  case first=>
   by_cases K_:d.1=2
   .have df:(d.1==2)=So:=by simpa using K_
    simp only[df];have co:=aj.6 d.3 (by simp[Yj.tg,K_]);have cp:=aj.6 d.4 (by simp[Yj.tg,K_]);obtain⟨f,b6⟩:∃f:N,d.3=(f:I):=⟨d.3.toNat,O⟩;obtain⟨s,b7⟩:∃s:N,d.4=(s:I):=⟨d.4.toNat,O⟩;rw[b6]at co;rw[b7]at cp;obtain⟨za,ct⟩:∃za,za=Kp l d.a:=⟨_,R⟩;have HZ:Q (O9 w X_ (n:I) (S ⟨F,K,U⟩) m c T C Z_ A_ (ae l x b).1 U_ o (ae l x b).2 IS ⟨2,za,(f:I),(s:I)⟩):=Y (by
     obtain⟨V,Y_,e⟩:=a4.o;have h:NN l d=⟨2,za,(f:I),(s:I)⟩:=by unfold NN;rw[aM O,K_,b6,b7,ct]
     rw[h]at e;exact⟨V,Y_,V_,e⟩)
    have HR:Q ((Nk l x b ⟨ps,u,d⟩ (J x+J (ae l x b).2)).1.2=⟨2,za,(ah l x b (f:I) (J x+J (ae l x b).2)).1,(ah l x b (s:I) ((J x+J (ae l x b).2)+J (ah l x b (f:I) (J x+J (ae l x b).2)).2)).1⟩/\(Nk l x b ⟨ps,u,d⟩ (J x+J (ae l x b).2)).2=(ah l x b (f:I) (J x+J (ae l x b).2)).2++(ah l x b (s:I) ((J x+J (ae l x b).2)+J (ah l x b (f:I) (J x+J (ae l x b).2)).2)).2):=Y (by
     unfold Nk;dsimp only;rw[aM O,aU K_,K_,b6,b7,ct];exact⟨R,R⟩)
    have cz:=Y λW_ (S_:Sw (Z w.1) w W_)=>sj c j (Y<|ha.keep (S_.mono hB)) L (oN S_.4) ho (Y λM L=>(b4 M L).1) (Y<|hc.keep (S_.mono bf)) ba bh (oN S_.4) (oN L.o) (Y co.2);obtain⟨bp,a5⟩:∃CP,CP=NL l x b (f:I):=⟨_,R⟩;obtain⟨ar,a0⟩:∃cl,cl=J bp:=⟨_,R⟩;have fl:ar<=128:=by rw[a0,a5];exact m8 _
    have eb:Q (ar=0->(ah l x b (f:I) (J x+J (ae l x b).2)).1=(f:I)/\(ah l x b (f:I) (J x+J (ae l x b).2)).2=[]):=Y (λN_=>by
     have:NL l x b (f:I)=[]:=List.length_eq_zero_iff.1 (by rw[<-a5,<-a0];exact N_);unfold ah;rw[aU this];exact⟨R,R⟩)
    have ec:Q (ar≠0->(ah l x b (f:I) (J x+J (ae l x b).2)).1=(((J x+J (ae l x b).2):N):I)/\(ah l x b (f:I) (J x+J (ae l x b).2)).2=[⟨bp,⟨1,0,(f:I),0⟩⟩]):=Y (λN_=>by
     have:¬NL l x b (f:I)=[]:=λh=>N_<|by rw[a0,a5,h];rfl
     unfold ah;rw[aM this,a5];exact⟨R,R⟩)
    have ef:Q (J ((ae l x b).2)<=2001):=Y (by
     have q:=c9.o;have K_:=m6 l x b (f:I) (J x+J (ae l x b).2);have:=L.o;omega)
    rw[<-a5,<-a0]at cz;have ds:=Y a0;clear a5 a0;have c6:=Y λW_ (S_:Sw (Z w.1) w W_)=>sj c j (Y<|ha.keep (S_.mono hB)) L (oN S_.4) ho (Y λM L=>(b4 M L).1) (Y<|hc.keep (S_.mono bf)) ba bh (oN S_.4) (oN L.o) (Y cp.2);obtain⟨bq,a6⟩:∃CP,CP=NL l x b (s:I):=⟨_,R⟩;obtain⟨az,a9⟩:∃cl,cl=J bq:=⟨_,R⟩;have fn:az<=128:=by rw[a9,a6];exact m8 _
    have ed:Q (az=0->(ah l x b (s:I) ((J x+J (ae l x b).2)+J (ah l x b (f:I) (J x+J (ae l x b).2)).2)).1=(s:I)/\(ah l x b (s:I) ((J x+J (ae l x b).2)+J (ah l x b (f:I) (J x+J (ae l x b).2)).2)).2=[]):=Y (λN_=>by
     have:NL l x b (s:I)=[]:=List.length_eq_zero_iff.1 (by rw[<-a6,<-a9];exact N_);unfold ah;rw[aU this];exact⟨R,R⟩)
    have ee:Q (az≠0->(ah l x b (s:I) ((J x+J (ae l x b).2)+J (ah l x b (f:I) (J x+J (ae l x b).2)).2)).1=((((J x+J (ae l x b).2)+J (ah l x b (f:I) (J x+J (ae l x b).2)).2):N):I)/\(ah l x b (s:I) ((J x+J (ae l x b).2)+J (ah l x b (f:I) (J x+J (ae l x b).2)).2)).2=[⟨bq,⟨1,0,(s:I),0⟩⟩]):=Y (λN_=>by
     have:¬NL l x b (s:I)=[]:=λh=>N_<|by rw[a9,a6,h];rfl
     unfold ah;rw[aM this,a6];exact⟨R,R⟩)
    have eg:Q (J (((ae l x b).2++(ah l x b (f:I) (J x+J (ae l x b).2)).2))<=2001):=Y (by
     have q:=c9.o;have K_:=m6 l x b (f:I) (J x+J (ae l x b).2);have:=L.o;rw[aQ];omega)
    rw[<-a6,<-a9]at c6;have du:=Y a9;clear a6 a9;clear co cp b6 b7 ct K_ a4;obtain⟨V,Y_,V_,e⟩:=HZ.o;have f0:Cl X_ (Z w.1) 0 (H n):=Bx.cell e.s.2 R;have f1:Cl X_ (Z w.1) 1 (Hm F K m c):=Bx.cell e.s.2 R;have z3:Cl X_ o 3 (H f):=Bx.cell e.2 R;have O_:=Y e;go_wp2_with fail
    refine(cz _ e.s.1).mono ?_;rintro h w5⟨v5,rfl,af,ac,Q_⟩;obtain⟨t,v,rfl⟩:∃t v,v5=Hl t ar v:=by
     obtain⟨h,_,_⟩|⟨t,v,h,_⟩:=Vc Q_;·exact Sz h af
     exact⟨t,v,h⟩
    have ap:=Y ac;have aq:=Y Q_;clear e ac Q_ af f0 f1 z3 HZ
    go_upto_if 113 with fail
    go_cut [9]from 13 to 167 λA_ wx=>Q (O9 w wx (n:I) (S ⟨F,K,U⟩) m c T C Z_ A_ (ae l x b).1 U_ o ((ae l x b).2++(ah l x b (f:I) (J x+J (ae l x b).2)).2) IS ⟨2,za,(ah l x b (f:I) (J x+J (ae l x b).2)).1,(s:I)⟩)/\Q (A_≠Hq)
    case first=>
     by_cases h0:ar=0
     .have cj:¬(0:I)<(ar:I):=O;have W:=Y<|eb.o h0;have cf:Q (O9 w w5 (n:I) (S ⟨F,K,U⟩) m c T C Z_ A_ (ae l x b).1 U_ o (ae l x b).2 IS ⟨2,za,(f:I),(s:I)⟩):=Y ⟨V,Y_,V_,O_.calm ap⟩;clear h0;go_wp2;go_meet;rw[W.1,W.2,fF];exact⟨cf,al⟩
     have cj:(0:I)<(ar:I):=O
     have W:=Y<|ec.o h0;obtain⟨e8,bl,bm⟩:=Xv.fresh (lab:=V) (L:=(4,J (ae l x b).2,0)) ap aq O_.s.1.4 O_.s.8;have z:=Y<|O_.spT ap bm;have cc:=Y bl;obtain⟨sa,sc,bn⟩:∃sa sc,A_=X sa (J (ae l x b).2) sc:=by
      obtain⟨h,N_,_⟩|⟨g,c,h,_⟩:=Vc z.s.s.1.1;·exact Sz h al
      exact⟨_,_,h⟩
     obtain⟨r,ao⟩:∃r,r=J (ae l x b).2:=⟨_,R⟩;have ev:r<=2001:=by rw[ao];have:=ef.o;omega
     rw[<-ao]at bn;have aa:=Y ao;subst bn;have z3:Cl w5 o 3 (H f):=Bx.cell z.2 R;have dk:=z.s.1.4;clear bl bm h0 ao;go_wp2_with (at_builtin;refine bT _ R _ _ 28 R (Z w.1) 56 j0 (Sa #[Hq,H 0,H 0,H 0,H 0]) 5 56 underlying28 ck cq cr cs R vY _ (J (ae l x b).2) (NH V_ (ae l x b).2) R (z.s.s.1.1.alloc _) (A (Z w5.1) 0) 1 1 [Hl t ar v,H 1,H 0,H f,H 0] R R (World.news_of_block<|World.alloc_heap_new _ _) ?u21 ?u31 ?u41 ?u51 ?_)
     case u21=>intro cw hu;simp at hu;obtain rfl|rfl|rfl|rfl|rfl:=hu<;>rfl
     case u31=>unfold maxLen;rw[<-aa.o];omega
     case u41=>rw[<-aa.o];omega
     case u51=>simp;omega
     intro v8 w8 L_ ad a1 ab;rw[<-aa.o]at L_;obtain⟨a2,R_⟩:=z.side ⟨bp,⟨1,0,(f:I),0⟩⟩ (by rw[<-ds.o];exact cc) ad (by rw[<-aa.o];exact L_) (by rw[aO];exact ab);obtain⟨g8,c8,rfl,_,_⟩:=Xm L_ O;have k0:Cl w8 o 3 (H f):=Bx.cell R_.2 R;have kz:=Bx.thaw R_.2;have e1:S6.wrap ((m:I)+((r:I)+1))=(m:I)+((r:I)+1):=by rw[dF];omega
     have e2:S6.wrap ((m:I)+((r:I)+1)-1)=(m:I)+(r:I):=by rw[dF];omega
     have cg:Q (O9 w (Se w8 (A o 3) (H<|(m:I)+(r:I))) (n:I) (S ⟨F,K,U⟩) m c T C Z_ (Hl g8 (r+1) c8) (ae l x b).1 U_ o ((ae l x b).2++[⟨bp,⟨1,0,(f:I),0⟩⟩]) IS ⟨2,za,(m:I)+(r:I),(s:I)⟩):=Y ⟨a2,_,_,(R_.te 3 ((m:I)+(r:I)) R)⟩;have ce:Q ((Hl g8 (r+1) c8)≠Hq):=Y sP;clear L_ ad a1 ab R_ z3;go_wp2
     go_meet;have cn:(((J x+J (ae l x b).2):N):I)=(m:I)+(r:I):=by
      have q:=aa.o;have K_:=L.o;omega
     rw[W.1,W.2,cn];exact⟨cg,ce⟩
    obtain⟨HZ,al⟩:=hcut;clear O_ ap aq;generalize wc=w6 at*;generalize u9=A_ at*;obtain⟨V,Y_,V_,e⟩:=HZ.o;have f0:Cl w6 (Z w.1) 0 (H n):=Bx.cell e.s.2 R;have f1:Cl w6 (Z w.1) 1 (Hm F K m c):=Bx.cell e.s.2 R;have z3:Cl w6 o 4 (H s):=Bx.cell e.2 R;have O_:=Y e;go_wp2_with fail
    refine(c6 _ e.s.1).mono ?_;rintro h w5⟨v5,rfl,af,ac,Q_⟩;obtain⟨t,v,rfl⟩:∃t v,v5=Hl t az v:=by
     obtain⟨h,_,_⟩|⟨t,v,h,_⟩:=Vc Q_;·exact Sz h af
     exact⟨t,v,h⟩
    have ap:=Y ac;have aq:=Y Q_;clear e ac Q_ af f0 f1 z3 HZ
    go_upto_if 139 with fail
    go_cut [9]from 13 to 167 λA_ wx=>Q (O9 w wx (n:I) (S ⟨F,K,U⟩) m c T C Z_ A_ (ae l x b).1 U_ o (((ae l x b).2++(ah l x b (f:I) (J x+J (ae l x b).2)).2)++(ah l x b (s:I) ((J x+J (ae l x b).2)+J (ah l x b (f:I) (J x+J (ae l x b).2)).2)).2) IS ⟨2,za,(ah l x b (f:I) (J x+J (ae l x b).2)).1,(ah l x b (s:I) ((J x+J (ae l x b).2)+J (ah l x b (f:I) (J x+J (ae l x b).2)).2)).1⟩)/\Q (A_≠Hq)
    case first=>
     by_cases h0:az=0
     .have cj:¬(0:I)<(az:I):=O;have W:=Y<|ed.o h0;have cf:Q (O9 w w5 (n:I) (S ⟨F,K,U⟩) m c T C Z_ A_ (ae l x b).1 U_ o ((ae l x b).2++(ah l x b (f:I) (J x+J (ae l x b).2)).2) IS ⟨2,za,(ah l x b (f:I) (J x+J (ae l x b).2)).1,(s:I)⟩):=Y ⟨V,Y_,V_,O_.calm ap⟩;clear h0;go_wp2;go_meet;rw[W.1,W.2,fF];exact⟨cf,al⟩
     have cj:(0:I)<(az:I):=O
     have W:=Y<|ee.o h0;obtain⟨e8,bl,bm⟩:=Xv.fresh (lab:=V) (L:=(4,J ((ae l x b).2++(ah l x b (f:I) (J x+J (ae l x b).2)).2),0)) ap aq O_.s.1.4 O_.s.8;have z:=Y<|O_.spT ap bm;have cc:=Y bl;obtain⟨sa,sc,bn⟩:∃sa sc,A_=X sa (J ((ae l x b).2++(ah l x b (f:I) (J x+J (ae l x b).2)).2)) sc:=by
      obtain⟨h,N_,_⟩|⟨g,c,h,_⟩:=Vc z.s.s.1.1;·exact Sz h al
      exact⟨_,_,h⟩
     obtain⟨r,ao⟩:∃r,r=J ((ae l x b).2++(ah l x b (f:I) (J x+J (ae l x b).2)).2):=⟨_,R⟩;have ev:r<=2001:=by rw[ao];have:=eg.o;omega
     rw[<-ao]at bn;have aa:=Y ao;subst bn;have z3:Cl w5 o 4 (H s):=Bx.cell z.2 R;have dk:=z.s.1.4;clear bl bm h0 ao;go_wp2_with (at_builtin;refine bT _ R _ _ 28 R (Z w.1) 56 j0 (Sa #[Hq,H 0,H 0,H 0,H 0]) 5 56 underlying28 ck cq cr cs R vY _ (J ((ae l x b).2++(ah l x b (f:I) (J x+J (ae l x b).2)).2)) (NH V_<|(ae l x b).2++(ah l x b (f:I) (J x+J (ae l x b).2)).2) R (z.s.s.1.1.alloc _) (A (Z w5.1) 0) 1 1 [Hl t az v,H 1,H 0,H s,H 0] R R (World.news_of_block<|World.alloc_heap_new _ _) ?u22 ?u32 ?u42 ?u52 ?_)
     case u22=>intro cw hu;simp at hu;obtain rfl|rfl|rfl|rfl|rfl:=hu<;>rfl
     case u32=>unfold maxLen;rw[<-aa.o];omega
     case u42=>rw[<-aa.o];omega
     case u52=>simp;omega
     intro v8 w8 L_ ad a1 ab;rw[show J (ae l x b).2+J (ah l x b (f:I) (J x+J (ae l x b).2)).2=r by have:=aa.o;rw[aQ]at this;omega]at L_;obtain⟨a2,R_⟩:=z.side ⟨bq,⟨1,0,(s:I),0⟩⟩ (by rw[<-du.o];exact cc) ad (by rw[<-aa.o];exact L_) (by rw[aO];exact ab);obtain⟨g8,c8,rfl,_,_⟩:=Xm L_ O;have k0:Cl w8 o 4 (H s):=Bx.cell R_.2 R;have kz:=Bx.thaw R_.2;have e1:S6.wrap ((m:I)+((r:I)+1))=(m:I)+((r:I)+1):=by rw[dF];omega
     have e2:S6.wrap ((m:I)+((r:I)+1)-1)=(m:I)+(r:I):=by rw[dF];omega
     have cg:Q (O9 w (Se w8 (A o 4) (H<|(m:I)+(r:I))) (n:I) (S ⟨F,K,U⟩) m c T C Z_ (Hl g8 (r+1) c8) (ae l x b).1 U_ o (((ae l x b).2++(ah l x b (f:I) (J x+J (ae l x b).2)).2)++[⟨bq,⟨1,0,(s:I),0⟩⟩]) IS ⟨2,za,(ah l x b (f:I) (J x+J (ae l x b).2)).1,(m:I)+(r:I)⟩):=Y ⟨a2,_,_,(R_.te 4 ((m:I)+(r:I)) R)⟩;have ce:Q ((Hl g8 (r+1) c8)≠Hq):=Y sP;clear L_ ad a1 ab R_ z3;go_wp2
     go_meet;have cn:((((J x+J (ae l x b).2)+J (ah l x b (f:I) (J x+J (ae l x b).2)).2):N):I)=(m:I)+(r:I):=by
      have q:=aa.o;have K_:=L.o;rw[aQ]at q;omega
     rw[W.1,W.2,cn];exact⟨cg,ce⟩
    obtain⟨HZ,al⟩:=hcut;go_wp2;go_meet;rw[HR.1,HR.2,<-cK];exact⟨HZ,al⟩
   have df:(d.1==2)=Sn:=by simpa using K_
   have HR:Q ((Nk l x b ⟨ps,u,d⟩ (J x+J (ae l x b).2)).1.2=NN l d/\(Nk l x b ⟨ps,u,d⟩ (J x+J (ae l x b).2)).2=[]):=Y (by
    unfold Nk;dsimp only;by_cases q:d.1=1;·rw[aU q];exact⟨R,R⟩
    rw[aM q,aM K_];exact⟨R,R⟩)
   clear K_;go_wp2;go_meet;rw[HR.1,HR.2,fF];obtain⟨V,Y_,e⟩:=a4.o;exact⟨Y ⟨V,Y_,V_,e⟩,al⟩
  obtain⟨HZ,al⟩:=hcut;clear a4;generalize wc=w6 at*;generalize u9=A_ at*;obtain⟨V,Y_,V_,e⟩:=HZ.o;have ea:Q ((Nk l x b ⟨ps,u,d⟩ (J x+J (ae l x b).2)).1=⟨IS,(Nk l x b ⟨ps,u,d⟩ (J x+J (ae l x b).2)).1.2⟩):=Y (by
   rw[dz.o];unfold Nk;dsimp only;by_cases q:d.1=1;·rw[aU q,aU q]
   by_cases K_:d.1=2;·rw[aM q,aM q,aU K_,fF]
   rw[aM q,aM q,aM K_,fF])
  obtain⟨T9,ci⟩:∃T9,T9=(Nk l x b ⟨ps,u,d⟩ (J x+J (ae l x b).2)).1.2:=⟨_,R⟩;rw[<-ci]at e;obtain⟨ma,mc,di⟩:=e.s.m.1.form;rw[br.o]at di;obtain⟨xa,xc,bo⟩:=e.5.form;obtain⟨il,dd⟩:∃il,il=J IS:=⟨_,R⟩;rw[<-dd]at bo;subst di;subst bo;have m1:Cl w6 C 1 (X ma b mc):=Bx.cell e.s.4 R;have y0:Cl w6 o 0 (X xa il xc):=Bx.cell e.2 R;have y1:Cl w6 o 1 (H T9.1):=Bx.cell e.2 R;have y2:Cl w6 o 2 (H T9.a):=Bx.cell e.2 R;have y3:Cl w6 o 3 (H T9.3):=Bx.cell e.2 R;have y4:Cl w6 o 4 (H T9.4):=Bx.cell e.2 R;have O_:=Y e;have dk:=e.s.1.4;have ej:=Y ci;clear e HZ ci dd;go_wp2_with (at_builtin;refine bT _ R _ _ 28 R (Z w.1) 56 j0 (Sa #[Hq,H 0,H 0,H 0,H 0]) 5 56 underlying28 ck cq cr cs R vY _ (J (ae l x b).1) (NH U_ (ae l x b).1) R (O_.s.m.1.1.alloc _) (A (Z w6.1) 0) 1 1 [X xa il xc,H T9.1,H T9.a,H T9.3,H T9.4] R R (World.news_of_block<|World.alloc_heap_new _ _) ?v2 ?v3 ?v4 ?v5 ?_)
  case v2=>intro cw hu;simp at hu;obtain rfl|rfl|rfl|rfl|rfl:=hu<;>rfl
  case v3=>unfold maxLen;rw[br.o];omega
  case v4=>rw[br.o];omega
  case v5=>simp;omega
  intro v8 w8 L_ ad a1 ab;obtain⟨a2,a7,cm⟩:=O_.done ad L_ (by rw[aO];exact ab);obtain⟨g8,c8,rfl,_,_⟩:=Xm L_ O;rw[br.o]at a7 |-;have k0:Cl w8 C 1 (X ma b mc):=Bx.cell cm R;have kz:=Bx.thaw cm;have dw:Q (PQ w (Se w8 (A C 1) (Hl g8 (b+1) c8)) (n:I) (S ⟨F,K,U⟩) m c T C A_ (ae l x<|b+1).1 (ae l x<|b+1).2):=Y ⟨a2,_,_,_,by rw[ei.o,ea.o,<-ej.o];exact a7,al⟩;clear L_ ad a1 ab a7 cm m1 y0 y1 y2 y3 y4;go_wp2_with fail
  refine⟨⟨⟨b+1,A_,_⟩,R,R,(by show b+1<=m;omega),dw⟩,SA⟩
 have fe:¬(b:I)<(m:I):=O;have ep:b=m:=O;subst ep;go_wp2_with fail
 exact O_ _ _ _ R HH
section
theorem M3{w:Ub}{d:N}{b:List ag}{kv:Vu}{a:Uy}{n c:N}(p:Sx w d 56 5 (X a n c) (J b) (NH kv b))(o:∀i (x:i<J b),Sx w d 59 5 (kv i) (J b[i].1) (ZP b[i].1)):d7 w d (Z w.1) a b:=λi j=>by
 have f:Xv w (λ_=>(0,0,0)) (0,0,0) d 56 5 (X a n c) (J b) (NH kv b):=⟨p,λ_ _=>R⟩;have g:Xv w (λ_=>(0,0,0)) (0,0,0) d 59 5 (kv i) (J b[i].1) (ZP b[i].1):=⟨o i j,λ_ _=>R⟩;let⟨m,v,l⟩:=f.got O;cases l;let⟨r,s,h⟩:=g.form;rw[h]at g;have e:=λt u hq q=>lq (q:=t) (u:=u) f j hq q;refine⟨m,0,R,f.blk.1,r,s,?_,⟨?_,?_,?_,?_⟩,g.inss⟩;·rw[aV];exact e 0 _ O<|by rw[<-h];rfl
 .rw[aV];exact e 1 _ O R
 .rw[aV];exact e 2 _ O R
 .rw[aV];exact e 3 _ O R
 rw[aV];exact e 4 _ O R
theorem rR{b:Type}(f:N->b->Wo):∀(M S_:List b)(k:N),Yu f k (M++S_)=Yu f k M++Yu f (k+J M) S_
 |[],S_,k=>by simp[Yu]
 |m::M,S_,k=>by
  show f k m++Yu f (k+1) (M++S_)=f k m++Yu f (k+1) M++_;rw[rR f M S_<|k+1,cK,bA,show k+1+J M=k+(J M+1) by omega]
theorem rW{b:Type}(f g:N->b->Wo):∀(S_:List b)(k j:N),(∀i x,f (k+i) x=g (j+i) x)->Yu f k S_=Yu g j S_
 |[],_,_,_=>R
 |x::S_,k,j,h=>by
  show f k x++Yu f (k+1) S_=g j x++Yu g (j+1) S_;rw[show f k x=g j x from h 0 x,rW f g S_ (k+1) (j+1) λi x=>by rw[show k+1+i=k+(i+1) by omega,show j+1+i=j+(i+1) by omega];exact h _ x]
theorem Mz{iv jv:Vu}{M S_:List ag}:NH (λi=>if i<J M then iv i else jv (i-J M)) (M++S_)=NH iv M++NH jv S_:=by
 unfold NH;rw[rR,aV,rW (λi (x:ag)=>Nf (if i<J M then iv i else jv (i-J M)) x.2) (λi x=>Nf (jv i) x.2) S_ (J M) 0 λi x=>by show Nf (if J M+i<J M then _ else _) _=_;rw[aM O,Nat.add_sub_cancel_left,aV]];rw[show Yu (λi (x:ag)=>Nf (if i<J M then iv i else jv (i-J M)) x.2) 0 M=NH iv M from rQ (iv:=λi=>if i<J M then iv i else jv (i-J M)) λi b=>aU b];rfl
theorem ME{w:Ub}{lab:N->N×N×N}{f:N}{v:Uj}{K J_:N}{S_:List ag}{jv:Vu}(h:Nh w lab f v K J_ S_ jv):∀u∈NH jv S_,u.oneCell'=So:=by
 intro u j;obtain⟨p,i,rfl⟩:=bR j;have m:=pE jv S_;have b:p/5<J S_:=O;have e:=Xz (sz:=5) (f:=λl (x:ag)=>Nf (jv l) x.2) (λ_ _=>R) 0 S_ (p/5) b (p%5) (dS _ O);rw[show p/5*5+p%5=p by omega,aV]at e;have e2:(Nf (jv<|p/5) S_[p/5].2)[p%5]?=S (NH jv S_)[p]:=by rw[<-e];exact aC i
 let⟨a,c,g⟩:=(h.2 _ b).form;have d:=eN e2;simp only[Nf,cH,eA,lL]at d;obtain q|q|q|q|q:=d<;>rw[q]<;>first|rfl|(rw[g];rfl)
variable {w wr w8: Ub} {lab: N -> N×N×N} {V: I} {a: Uy} {n c: N} {k: I} {mb: N} {mv sv v8: Uj} {M S_: List ag} {iv jv: N -> Uj}
theorem Om.fin(h:Om w wr lab V a n c k mb mv sv M S_ iv jv)(g:wr.grownBy w8 mv.ownBlock)(K:Sx w8 (Z w.1) 56 5 v8 (J M+J S_) (NH iv M++NH jv S_))(P:v8.ownBlock=mv.ownBlock\/v8.ownBlock=S (Z wr.1)):
 Bx w8 mb #[Si S6 k,mv] 30/\Bx (Se w8 ⟨mb,1,U⟩ v8) mb #[Si S6 k,v8] 30/\Bx (Se w8 ⟨mb,1,U⟩ v8) (Z w.1+1) #[Si S6 0,X U 0 0] 30/\Z w.1+1≠mb /\
 Sw (Z w.1) w (Se (Se (Se w8 ⟨mb,1,U⟩ v8) ⟨Z w.1+1,0,U⟩ (Si S6 k)) ⟨Z w.1+1,1,U⟩ v8)/\∀r t s,v8=X r t s->d7 (Se (Se (Se w8 ⟨mb,1,U⟩ v8) ⟨Z w.1+1,0,U⟩ (Si S6 k)) ⟨Z w.1+1,1,U⟩ v8) (Z w.1) (Z (Se (Se (Se w8 ⟨mb,1,U⟩ v8) ⟨Z w.1+1,0,U⟩ (Si S6 k)) ⟨Z w.1+1,1,U⟩ v8).1) r (M++S_):=by
 let⟨f,T,j⟩:=h.m.1.grow g K P h.8;have o:∀b,lab b=(0,0,0)->lab b≠(1,0,0):=λb e q=>by rw[e]at q;simp at q
 have F:Sw (Z w.1) wr w8:=⟨g.1,g.2,g.3,g.4,λq hq=>g.5 q (aX hq h.1.4) λe=>by have:=(h.m.1.1.lt q e.symm).1;omega⟩;have R_:=h.5;have W:=G (j.2 _ O h.3.lt<|o _ h.9.2.1).2 h.9.2.1;have K_:=G (j.2 _ O h.4.lt<|o _ h.9.2.2).2 h.9.2.2;have v:=h.4.sp j O<|o _ h.9.2.2;have I_:=h.3.sp j O<|o _ h.9.2.1;have C_:=λi m=>(h.m.2 i m).sp j (λb e q=>by rw[e]at q;simp at q);have D_:=λi m=>(h.s.2 i m).sp j (λb e q=>by rw[e]at q;simp at q);have N_:∀b L,f b=L->L≠(0,0,0)->b≠mb:=λb L e d q=>d (by rw[<-e,q];exact K_);have y:∀b L,f b=L->L≠(0,0,0)->b≠Z w.1+1:=λb L e d q=>d (by rw[<-e,q];exact W);have O_:=XW.put (w:=w8) (lab:=f) (base:=Z w.1) mb 1 v8;have P_:=XW.put (w:=Se w8 (A mb 1) v8) (lab:=f) (base:=Z w.1) (Z w.1+1) 0 (H k);have Q_:=XW.put (w:=Se (Se w8 (A mb 1) v8) (A (Z w.1+1) 0) (H k)) (lab:=f) (base:=Z w.1) (Z w.1+1) 1 v8;have p:∀{L:N×N×N}{C z x:N}{B:Uj}{u:Wo},L≠(0,0,0)->Xv w8 f L (Z w.1) C z B x u->Xv (Se (Se (Se w8 (A mb 1) v8) (A (Z w.1+1) 0) (H k)) (A (Z w.1+1) 1) v8) f L (Z w.1) C z B x u:=λd h=>((h.sp O_ λb e=>N_ b _ e d).sp P_ λb e=>y b _ e d).sp Q_ λb e=>y b _ e d;refine⟨v,v.set 1 v8,I_.other λe=>O,O,(((h.1.trans F).setCell (p:=A mb 1) (by show Z w.1<=mb;omega) _).setCell (p:=A (Z w.1+1) 0) sP _).setCell (p:=A (Z w.1+1) 1) sP _,?_⟩;rintro r t s rfl;have e1:J (M++S_)=J M+J S_:=aQ;refine M3 (kv:=λi=>if i<J M then iv i else jv (i-J M)) (n:=t) (c:=s) ?_ λi m=>?_;·rw[Mz,e1];exact(p sP T).1
 by_cases l:i<J M
 .simp only[aU l,fA l];exact(p sP<|C_ i l).1
 simp only[aM l,fN<|Nat.le_of_not_lt l];exact(p sP<|D_ (i-J M) O).1
theorem Mx{V:N}{a:Uy}{n c:N}{b:Wi}{ap B:N}{t:Uy}{s K:N}{d:Wc}{Lc C:N}{k:I}{w:Ub}(ha:Q (Xp w ap B a b))(z:Q (n=J b))(hB:B<=Z w.1)(L:Q (Jy V b))(a2:Q (∀aa∈b,J aa.1<=1048576/\J aa.2<=1048576))(hc:Q (Xf w Lc C t d))(a0:Q (s=J d))(az:Q (s=V))(ar:C<=Z w.1)(hk:1<=k/\k<=64)(P:Q (∀W,Sw (Z w.1) w W->Sk prog 47 #[Sa #[H V,X a n c],X t s K,H k] W λe o=>e=Rt (Sb So)/\Sw (Z W.1) W o)):
 Sk prog 19 #[Sa #[H V,X a n c],X t s K,H k] w λe o=>∃T vc,e=Rt (Sa #[H k,X T (J (NK d b)) vc])/\Sw (Z w.1) w o/\d7 o (Z w.1) (Z o.1) T (NK d b):=by
 let⟨j0,a1,a5,a6,a7⟩:=fX Qa;have h1:¬k<1:=O;have h2:¬64<k:=O;have bc:n<=1000:=oP z.o L.1.2
 go_in
 go_wp2_with fail
 refine(P _<|Xb (Xb Rf _) _).mono ?_;rintro e f⟨rfl,q⟩;have hF:=((Bx.new w #[H V,X a n c] 40).box _).keep (q.5 _<|by simp;omega);have u:=(by have:=Bx.new (D w<|.cells #[H V,X a n c] 40) #[H 0,Hq] 30;rw[aO]at this;exact this.keep<|q.5 _ sP);have hz:=u.lt;have bf:Z w.1<Z f.1:=O;have D_:=Y<|Xg (Xb (Xb (Below.refl (Z w.1) w) _) _) q;have f1:Cl f (Z w.1) 1 (X a n c):=Bx.cell hF R;have F_:Q (PQ w (D (D f<|.cells #[H k,Hq] 30) (Sc #[] 56)) (V:I) a n c k (Z f.1) (Hl (Z f.1+1) 0 0) (ae d b 0).1 (ae d b 0).2):=Y (by
  refine⟨λY_=>if Y_=Z f.1+1 then (2,0,0)else (0,0,0),Hq,λ_=>Hq,λ_=>Hq,⟨D_.trans<|(Xb (Xb Rf _) _).mono D_.4,(hF.box _).box _,(u.box _).box _,(Bx.new _ _ _).box _,hz,Nh.nil,⟨⟨?_,λaq e=>?_⟩,λbh l=>Sz l<|Nat.not_lt_zero _⟩,λY_ hq=>aM (by simp at hq;omega),aM O,aM O,aM O⟩,sP⟩
  .have:=eI (base:=Z w.1) (e:=56) (size:=5) (D f<|.cells #[H k,Hq] 30) #[] 0 SB sP R;rw[aO]at this;exact this
  have:aq=Z f.1+1:=by injection e with e;exact e.symm
  exact aU this)
 clear q hF u P;go_wp2;clear f1;generalize D (D f _) _=w2 at*;generalize Z f.1=mb at*;have a4:=z.o;refine QL (by exact Y λ_ _ _ _ _ l=>l) ha z hB L a2 hc a0 az ar ?_ (by rfl) F_;intro sv tl w3 O_ E_;obtain⟨a9,ba,bi,rfl,P_⟩:=An O_;obtain⟨bb,rfl⟩:=qd P_;clear F_ O_ P_;let⟨lab,mv,iv,jv,j,T_⟩:=E_.o;have G_:=Y<|ll d b n O;have I_:=Y<|oz d b n O;have af:Q (NK d b=(ae d b n).1++(ae d b n).2):=Y (by unfold NK;rw[<-a4]);generalize (ae d b n).1=M at*;generalize (ae d b n).2=S_ at*;obtain⟨U_,X_,rfl⟩:=j.m.1.form;let⟨i,c2,e⟩:∃i c2,sv=Hl i (J S_) c2:=by
  obtain⟨e,_,_⟩|⟨i,c,e,_,_⟩:=Vc j.s.1.1;·exact Sz e T_
  exact⟨i,c,e⟩
 subst e;have m1:Cl w3 mb 1 (X U_ (J M) X_):=Bx.cell j.4 R;have p:=Y j;have be:=j.1.4;clear j T_ E_;have al:Q (∀(m:N)(F:Uj),(NH jv S_)[m]?=S F->E w3 (((A i 0):Addr).add m)=S F):=Y (by
  intro m F hu;have:=Jj p.s.1.1 hu;cases m with
  |zero=>simpa [Addr.add]using this
  |succ m=>simpa [Addr.add]using this)
 have ao:=Y<|ME p.s;have ad:=Y<|pE jv S_;go_wp2_with (at_builtin;refine bT _ R _ _ 28 R (Z w.1) 56 j0 (Sa #[Hq,H 0,H 0,H 0,H 0]) 5 56 underlying28 a1 a5 a6 a7 R vY _ (J M) (NH iv M) R p.m.1.1 (A i 0) (J S_) c2 (NH jv S_) R ?v1 al ?v2 ?v3 ?v4 ?v5 ?_)
 case v1=>exact ad
 case v2=>exact ao
 case v3=>unfold maxLen;have:=G_.o;have:=I_.o;omega
 case v4=>have:=G_.o;have:=I_.o;omega
 case v5=>omega
 intro v8 w8 y N_ a3 K_;let⟨v,x,r,bd,Q_,L_⟩:=p.fin N_ y K_;obtain⟨g,h,rfl⟩:∃g h,v8=X g (J M+J S_) h:=by
  obtain⟨e,l,_⟩|⟨i,c,e,_⟩:=Vc y;·exact⟨U,0,by rw[e,l]⟩
  exact⟨_,_,e⟩
 have k0:Cl w8 mb 1 (X U_ (J M) X_):=Bx.cell v R;have kz:=Bx.thaw v;have aj:=Y Q_;have ab:=Y<|L_ _ _ _ R;have q0:E (Se w8 (A mb 1) (X g (J M+J S_) h)) (A mb 0)=S (H k):=Bx.cell x R;have q1:E (Se w8 (A mb 1) (X g (J M+J S_) h)) (A mb 1)=S (X g (J M+J S_) h):=Bx.cell x R;have r0:E (Se w8 (A mb 1) (X g (J M+J S_) h)) (A (Z w.1+1) 0)=S (H 0):=Bx.cell r R;have r1:E (Se w8 (A mb 1) (X g (J M+J S_) h)) (A (Z w.1+1) 1)=S Hq:=Bx.cell r R;have rz:=Bx.thaw r;clear v x r Q_ L_ y N_ a3 K_ m1;go_wp2_with fail
 refine cC (v:=Sa #[H k,X g (J M+J S_) h]) (by simp[results,results19,go_sem,r0,r1]) R ?_;rw[af.o,aQ];exact⟨_,_,R,aj,ab⟩
end
section
open Go.Lib
theorem GA(z:E w (A n m)=S (H k))(C:1<=k)(K:k<=13)(v:Q (Yy w)):
 Sk prog 131 #[Ho n m] w λf g=>∃B,f=Rt B/\Sw (Z w.1) w g/\Sx g (Z w.1) 225 1 B (J (Yd [dB (k:I),aB (k:I),bB (k:I)] [(A n<|m+1),(A n<|m+2),(A n<|m+3)])) ((Yd [dB (k:I),aB (k:I),bB (k:I)] [(A n<|m+1),(A n<|m+2),(A n<|m+3)]).map Tx):=by
 obtain⟨c0,c1,c2,c3,c4⟩:=v.2 k C K;have Q_:=v.1;have O_:n<Z w.1:=aI w _ z;generalize dB (k:I)=d at*;generalize aB (k:I)=b at*;generalize bB (k:I)=c at*;generalize iB (k:I)=M at*
 go_in
 go_wp2_with fail
 have L:(λh:Ub=>Z h.1=Z w.1+1/\E h (A (Z w.1) 1)=S (Sb d)/\E h (A (Z w.1) 2)=S (Sb b)/\E h (A (Z w.1) 3)=S (Sb c)/\Q (Sw (Z w.1) w h)) (D w<|.cells #[Sg (K8<|bz k),Sb d,Sb b,Sb c,Sb M] 133):=⟨sP,sP,sP,sP,Y<|Xb Rf _⟩;generalize D w _=a at*;obtain⟨e1,P,T,F,r⟩:=L;clear z c0 c1 c2 c3 c4;have N_:=Y e1;have p:Z w.1<Z a.1:=O;clear e1;have o:Q (∀(l i:Uy)(W:Ub),Sw (Z a.1) a W->Zx W (Z a.1) (Z W.1) l ([d,b,c].map Sb)->Zx W (Z a.1) (Z W.1) i ([(A n<|m+1),(A n<|m+2),(A n<|m+3)].map Tx)->Sk prog 143 #[X l 3 3,X i 3 3] W λf e=>∃v5,f=Rt v5/\E e (A (Z w.1) 1)=S (Sb d)/\E e (A (Z w.1) 2)=S (Sb b)/\E e (A (Z w.1) 3)=S (Sb c) /\
  Q (Sw (Z w.1) w e)/\Q (Sx e (Z w.1) 225 1 v5 (J (Yd [d,b,c] [(A n<|m+1),(A n<|m+2),(A n<|m+3)])) ((Yd [d,b,c] [(A n<|m+1),(A n<|m+2),(A n<|m+3)]).map Tx))):=Y (λl i W t V L_=>by
  have P_:=t.4;refine(UA l i 3 3 [d,b,c] [(A n<|m+1),(A n<|m+2),(A n<|m+3)] (Z a.1) (Z W.1) W aA (Y V) (Y L_) (Y R) sP).mono ?_;rintro f e⟨v5,rfl,u,K_⟩;have s5:=u.4;have j:=Xg t u;exact⟨v5,R,oB j P p,oB j T p,oB j F p,Y<|r.trans (j.mono O),Y<|Zk K_ O⟩)
 have e2:∀x y,Z (D (D a x) y).drew.1=Z a.1+2:=λx y=>by show Z (D (D a x) y).1=_;simp
 have B_:=Y (o.o (S ⟨Z a.1,0,U⟩) (S ⟨Z a.1+1,0,U⟩) (D (D a<|.cells #[Sb d,Sb b,Sb c] 4) (Sc #[Ho n<|m+1,Ho n<|m+2,Ho n<|m+3] 225)).drew (Xb (Xb (Below.refl (Z a.1) a) _) _).drew (by rw[e2];exact J7 a [Sb d,Sb b,Sb c] 4 [Ho n<|m+1,Ho n<|m+2,Ho n<|m+3] 225) (by rw[e2];exact J6 a [Ho n<|m+1,Ho n<|m+2,Ho n<|m+3] 225 [Sb d,Sb b,Sb c] 4));have C_:=Y (o.o (S ⟨Z a.1+1,0,U⟩) (S ⟨Z a.1,0,U⟩) (D (D a<|.cells #[Ho n<|m+1,Ho n<|m+2,Ho n<|m+3] 225) (Sc #[Sb d,Sb b,Sb c] 4)).drew (Xb (Xb (Below.refl (Z a.1) a) _) _).drew (by rw[e2];exact J6 a [Sb d,Sb b,Sb c] 4 [Ho n<|m+1,Ho n<|m+2,Ho n<|m+3] 225) (by rw[e2];exact J7 a [Ho n<|m+1,Ho n<|m+2,Ho n<|m+3] 225 [Sb d,Sb b,Sb c] 4));clear o r e2
 go_region_held3 (λg=>E g (A (Z w.1) 1)=S (Sb d)/\E g (A (Z w.1) 2)=S (Sb b)/\E g (A (Z w.1) 3)=S (Sb c)) (go_keep)
  (first
   |(go_at_call 143;with_reducible refine B_.o.mono ?_;rintro f e⟨v5,rfl,f1,f2,f3,q,s⟩)
   |(go_at_call 143;with_reducible refine C_.o.mono ?_;rintro f e⟨v5,rfl,f1,f2,f3,q,s⟩))
 all_goals
  go_wp2;go_ret;exact⟨_,R,q,s⟩
theorem Ie{c:Addr}{a:Vr}(h:YY w n m (S c) a):∀(j:N)(u:Uj),(ZP a)[j]?=S u->E w (c.add j)=S u:=by
 intro j u b;have f:j<J (ZP a):=by
  obtain h|h:=mL j (J (ZP a));·exact h
  rw[dK h]at b;cases b
 have d:j/5<J a:=by rw[iR]at f;omega
 let⟨g,o,e,_,c0,c1,c2,c3,c4⟩:=h (j/5) d;cases e;have e2:=Xz (sz:=5) (f:=λ_ (x:Yg)=>[H x.1,H x.2,H x.a,H x.b,H x.5]) (λ_ _=>R) 0 a (j/5) d (j%5) (dS _ O);rw[<-rH a 0,show j/5*5+j%5=j by omega,b]at e2;have ha:((A g o):Addr).add j=(A g<|o+j):=by cases j<;>simp[Addr.add]
 rw[ha];have i:j%5=0\/j%5=1\/j%5=2\/j%5=3\/j%5=4:=O;obtain q|q|q|q|q:=i<;>rw[q]at e2<;>cases e2;·rw[show o+j=o+j/5*5 by omega];exact c0
 .rw[show o+j=o+j/5*5+1 by omega];exact c1
 .rw[show o+j=o+j/5*5+2 by omega];exact c2
 .rw[show o+j=o+j/5*5+3 by omega];exact c3
 rw[show o+j=o+j/5*5+4 by omega];exact c4
theorem GM(c:N){a:Vr}(i:Q (YY w m k p a))(j:Q (n=J a))(V:n<=1048576)(y:k<=Z w.1):
 Sk prog 129 #[X p n c] w λe l=>∃v,e=Rt v/\Sw (Z w.1) w l/\Sx l (Z w.1) 59 5 v (J a) (ZP a):=by
 let⟨F,z,C,B,K⟩:=fX RB;have L:∀(w:Ub)(p:Uy)(n c d b:N),(binOp .eql 52 (X p n c) (X U d b)).run prog w=.ok (Sb p.isNone) w:=λw p n c d b=>Lib.run_eql_slice_nil w _ _ p n c d b underlying52;cases p with
 |none=>
  have x:a=[]:=by
   cases a with
   |nil=>rfl
   |cons W M=>let⟨I_,K_,e,_⟩:=i 0 sP;cases e
  subst x
  go_in
  go_wp2;go_ret;exact⟨_,R,Rf,dA⟩
 |some u=>
  have t:=Y<|l7 a;have q:=Y<|iR a;have f:Q (Sx (D w<|.cells #[] 59) (Z w.1) 59 5 (Hl (Z w.1) 0 0) 0 []):=Y (by
   have:=eI (base:=Z w.1) (e:=59) (size:=5) w #[] 0 sP sP R;simpa using this)
  have r:=Y<|Ie (i.keep<|Below.alloc (Below.refl k w) y (Sc #[] 59))
  go_in
  go_wp2_with (at_builtin;refine bT _ R _ _ 52 R (Z w.1) 59 F (Sa #[H 0,H 0,H 0,H 0,H 0]) 5 40 underlying52 z C B K R vY _ 0 [] R f u n c (ZP a) R ?v1 r ?v2 ?v3 ?v4 ?v5 ?_)
  case v1=>rw[q.o,j.o]
  case v2=>exact t
  case v3=>unfold maxLen;omega
  case v4=>omega
  case v5=>simp
  intro P T h g B_ z_;have o:=Y<|Xy (Below.alloc Rf aA _) g f aA sP;have s:Q (Sx T (Z w.1) 59 5 P (J a)<|ZP a):=Y (by rw[<-j.o];simpa using h);go_wp2;go_ret;exact⟨_,R,o,s⟩
end
def FSx:List Bool->List N->List N
 |k::ks,p::ps=>if k then p::FSx ks ps else FSx ks ps
 |_,_=>[]
theorem rG(g:N):∀(a:List Bool)(b:Wa),(Yd a<|b.map λo=>⟨g,o,U⟩).map Tx=(FSx a b).map λo=>Tx ⟨g,o,U⟩
 |[],_=>by simp[Yd,FSx]
 |k::a,[]=>by simp[Yd,FSx]
 |k::a,o::b=>by cases k<;>simp[Yd,FSx,rG g a b]
theorem xR(a:Wc)(P:Wo):∀(b:Wa)(c:Wo),lP a (b.map λo=>J P+o) (P++c)=P++lP a b c
 |[],_=>R
 |o::b,c=>by
  show lP a (b.map λo=>J P+o) ((P++c).set (J P+o) (jr a (P++c)[J P+o]?))=P++lP a b (c.set o<|jr a c[o]?);rw[List.set_append_right _ _ O,eV O,Nat.add_sub_cancel_left,xR a P b]
theorem H9{x:Yg}:lP l (FSx [dB x.1,aB x.1,bB x.1] [1,2,3]) (Yg.cells x++y)=Yg.cells (ZR l x)++y:=by
 unfold ZR Yg.cells;cases dB x.1<;>cases aB x.1<;>cases bB x.1<;>rfl
theorem xG{a:Vr}{x:Yg}{B:Vr}:ZP (a++x::B)=ZP a++(Yg.cells x++ZP B):=by rw[j7,rM];rfl
theorem Ii(a:Wc)(b:Vr)(x:Yg)(B:Vr):lP a (FSx [dB x.1,aB x.1,bB x.1] [J b*5+1,J b*5+2,J b*5+3]) (ZP (b++x::B))=ZP (b++ZR a x::B):=by
 have e:FSx [dB x.1,aB x.1,bB x.1] [J b*5+1,J b*5+2,J b*5+3]=(FSx [dB x.1,aB x.1,bB x.1] [1,2,3]).map λo=>J (ZP b)+o:=by
  rw[iR];cases dB x.1<;>cases aB x.1<;>cases bB x.1<;>rfl
 rw[e,xG,xR,H9,<-xG]
theorem xx(b:Wc)(g:N){q:N}:∀(a:Wa)(w:Ub),q∉a->E (recW b g a w) (A g q)=E w (A g q)
 |[],_,_=>R
 |o::a,w,h=>by
  show E (recW b g a _) _=_;rw[xx b g a _ λc=>h<|cN _ c];have:o≠q:=λe=>h (by rw[e];exact cI);exact @cJ w.drew _ _ _ λe=>this<|by injection e
theorem yi{cs:Wc}(h:∀o∈s,∃z:N,E w (A g o)=S (H z)/\z<J cs)(c:s.Nodup):∀j (h:j<J s),∃z:N,E (recW cs g (s.take j) w) (A g<|s[j])=S (H z)/\z<J cs:=λj f=>by
 let⟨z,a,b⟩:=h _<|aH f;refine⟨z,?_,b⟩;rw[xx cs g _ _ λi=>?_];·exact a
 let⟨k,d,e⟩:=bR i;rw[jG]at e;rw[dH]at d;have:=(List.getElem_inj c).1 e;omega
theorem Iz(g:n=J l){x:Yg}(a:∀v∈Iw x,0<=v/\v<n)(c:∀v∈BW x,0<=v/\v<n)(e:Jk w m k x):∀q∈FSx [dB x.1,aB x.1,bB x.1] [k+1,k+2,k+3],∃z:N,E w (A m q)=S (H z)/\z<J l:=by
 let⟨_,c1,c2,c3,_⟩:=e;have b:∀(v:I)(q:N),E w (A m q)=S (H v)->0<=v/\v<n->∃z:N,E w (A m q)=S (H z)/\z<J l:=λv q d h=>⟨v.toNat,by rw[d];congr 2;omega,O⟩
 unfold Iw at a;unfold BW at c;intro q hq;have f:(dB x.1=So/\q=k+1)\/(aB x.1=So/\q=k+2)\/(bB x.1=So/\q=k+3):=by
  revert hq;cases dB x.1<;>cases aB x.1<;>cases bB x.1<;>simp[FSx]
 obtain⟨hu,rfl⟩|⟨hu,rfl⟩|⟨hu,rfl⟩:=f;·exact b _ _ c1<|c _ (by simp[hu])
 .exact b _ _ c2<|a _ (by simp[hu])
 exact b _ _ c3<|a _ (by simp[hu])
theorem GJ{a b:Bool}:(FSx [r,a,b] [n+1,n+2,n+3]).Nodup:=by
 cases r<;>cases a<;>cases b<;>simp[FSx]
theorem Ig(a b c:Bool)(o:N):∀q∈FSx [a,b,c] [o+1,o+2,o+3],o<q/\q<o+4:=by
 cases a<;>cases b<;>cases c<;>simp[FSx]<;>omega
structure Pa(w0 wr:Ub)(base ob:N)(v:Uj)(t:Yj)(ys:Vr):Prop where
 low:Sw base w0 wr
 bx:Bx wr ob #[v,Si S6 t.1,Si S6 t.a,Si S6 t.3,Si S6 t.4] 56
 row:Sx wr base 59 5 v (J ys) (ZP ys)
 ne:v.ownBlock≠S ob
 le:base<=ob
theorem GR{f1 f3 f5:Uj}{pv:Uj}{e:Vr}{f:N}{te:I}(ce bo:N)(w:Ub)(bb:Q (Bx w n #[a,f1,X p k B,f3,A_,f5] 126))(hc:Q (Xf w g i p l))(b4:Q (k=J l))(b3:Q (m=J l))(b1:i<=Z w.1)(hB:bo<=Z w.1)(hi:Q (YY w ce bo P e))(V:Q (j=J e))(cw:j<=4000)(hO:Q (Yy w))(hT:Q (Yb w))(cm:Q (∀aq∈e,1<=aq.1/\aq.1<=13))(co:Q (∀aq∈e,(∀C∈Iw aq,0<=C/\C<m)/\(∀C∈BW aq,0<=C/\C<m)))(ci:1<=f)(cj:f<=3)(cp:Q (∀C∈Id ⟨f,t,T,te⟩,0<=C/\C<m)):
 Sk prog 65 #[Hn n,Sa #[pv,X P j c,H f,H t,H T,H te]] w λq h=>∃C,q=Rt (Sa #[C,H f,H (NN l ⟨f,t,T,te⟩).a,H T,H te])/\Sw (Z w.1) w h/\Sx h (Z w.1) 59 5 C j (ZP<|e.map (ZR l)):=by
 have bp:=Y λW_ (hW:Sw (Z w.1) w W_)=>GM c (Y<|hi.keep (hW.mono hB)) V O (oN hW.4)
 go_in
 go_wp2_with fail
 have cf:(λx9:Ub=>Q (Sw (Z w.1) w x9)/\Bx x9 (Z w.1) #[pv,X P j c,H f,H t,H T,H te] 71/\Bx x9 (Z w.1+1) #[Hq,H 0,H 0,H 0,H 0] 56/\Q (Z x9.1=Z w.1+2)) (D (D w<|.cells #[pv,X P j c,H f,H t,H T,H te] 71) (Sc #[Hq,H 0,H 0,H 0,H 0] 56)):=⟨Y<|Xb (Xb Rf _) _,(Bx.new _ _ _).box _,((by have:=Bx.new (D w<|.cells #[pv,X P j c,H f,H t,H T,H te] 71) #[Hq,H 0,H 0,H 0,H 0] 56;rw[aO]at this;exact this)),(Y sP)⟩;generalize D (D w _) _=b at*;obtain⟨a3,hb,Q_,bx⟩:=cf;have ap:Z w.1<Z b.1:=oN bx.o;have c1:Cl b (Z w.1) 1 (X P j c):=Bx.cell hb R;have c2:Cl b (Z w.1) 2 (H f):=Bx.cell hb R;have c3:Cl b (Z w.1) 3 (H t):=Bx.cell hb R;have c4:Cl b (Z w.1) 4 (H T):=Bx.cell hb R;have c5:Cl b (Z w.1) 5 (H te):=Bx.cell hb R;have HR:=Y Q_;clear hb Q_
 go_cut [5]from 7 to 31 λc5 wx=>∃(o:N)(C:Uj),c5=Hn o/\Q (Pa b wx (Z b.1) o C ⟨f,t,T,te⟩ e)
 case first=>
  have ba:Q (∀W_,Sw (Z b.1) b W_->Sk prog 129 #[X P j c] W_ λq h=>∃s r,q=Rt (X s j r)/\E h (A (Z w.1) 1)=S (X P j c)/\E h (A (Z w.1) 2)=S (H f)/\E h (A (Z w.1) 3)=S (H t)/\E h (A (Z w.1) 4)=S (H T)/\E h (A (Z w.1) 5)=S (H te)/\Z w.1<Z h.1/\Q (Sw (Z W_.1) W_ h)/\Q (Sx h (Z W_.1) 59 5 (X s j r) (J e) (ZP e))):=Y (λW_ hW=>by
   have hs:=hW.4;refine(bp W_<|a3.trans (hW.mono O)).mono ?_;rintro q u⟨v5,rfl,y,F⟩;have L:=Xg hW y;obtain⟨s,r,rfl⟩:∃s r,v5=X s (J e) r:=(Xv.form (lab:=λ_=>(0,0,0)) (L:=(0,0,0)) ⟨F,λ_ _=>R⟩);rw[<-V.o]at F |-;exact⟨s,r,R,oB L c1 ap,oB L c2 ap,oB L c3 ap,oB L c4 ap,oB L c5 ap,oN L.4,Y y,Y<|by rw[V.o]at F;rw[V.o];exact F⟩)
  have HA:=Y<|ba.o b.drew (Below.refl (Z b.1) b).drew;have a0:Bx (D b<|.cells #[Hq,H 0,H 0,H 0,H 0] 56).drew (Z b.1) #[Hq,H 0,H 0,H 0,H 0] 56:=Bx.new b _ _;have x:=Y ((ba (D b<|.cells #[Hq,H 0,H 0,H 0,H 0] 56).drew ((Below.refl (Z b.1) b).alloc aA _).drew).mono (R':=λq h=>∃s r,q=Rt (X s j r)/\E h (A (Z w.1) 1)=S (X P j c)/\E h (A (Z w.1) 2)=S (H f)/\E h (A (Z w.1) 3)=S (H t)/\E h (A (Z w.1) 4)=S (H T)/\E h (A (Z w.1) 5)=S (H te)/\Z w.1<Z h.1/\(E h (A (Z b.1) 0)=S Hq/\E h (A (Z b.1) 1)=S (H 0)/\E h (A (Z b.1) 2)=S (H 0)/\E h (A (Z b.1) 3)=S (H 0)/\E h (A (Z b.1) 4)=S (H 0)/\∀v,h.frozen? (A (Z b.1) v)=Sn)/\Q (Sw (Z (D b<|.cells #[Hq,H 0,H 0,H 0,H 0] 56).drew.1) (D b<|.cells #[Hq,H 0,H 0,H 0,H 0] 56).drew h)/\Q (Sx h (Z (D b<|.cells #[Hq,H 0,H 0,H 0,H 0] 56).drew.1) 59 5 (X s j r) (J e) (ZP e))) (by
   rintro q u⟨s,r,rfl,f1,f2,f3,A_,f5,bf,z,Y_⟩;have M_:=a0.keep<|z.5 _ a0.lt;exact⟨s,r,R,f1,f2,f3,A_,f5,bf,⟨Bx.cell M_ R,Bx.cell M_ R,Bx.cell M_ R,Bx.cell M_ R,Bx.cell M_ R,Bx.thaw M_⟩,z,Y_⟩))
  have cx:Z b.1≠Z w.1:=O;have cz:Z w.1≠Z b.1:=O;have bt:=Y a0;clear a0;clear ba
  go_region_held3 (λh=>E h (A (Z w.1) 1)=S (X P j c)/\E h (A (Z w.1) 2)=S (H f)/\E h (A (Z w.1) 3)=S (H t)/\E h (A (Z w.1) 4)=S (H T)/\E h (A (Z w.1) 5)=S (H te)) (go_keep)
   (first
    |(go_at_call 129;with_reducible refine HA.o.mono ?_;rintro q u⟨s,r,rfl,f1,f2,f3,A_,f5,bf,z,Y_⟩)
    |(go_at_call 129;with_reducible refine x.o.mono ?_;rintro q u⟨s,r,rfl,f1,f2,f3,A_,f5,bf,⟨z0,z1,z2,z3,z4,zz⟩,z,Y_⟩))
  .go_wp2;go_meet;have L:=Xg (Below.refl (Z b.1) b).drew z;exact⟨_,_,R,Y ⟨L.alloc L.4 _,Bx.new _ _ _,World.ownsRow.alloc (w:=u) Y_ _,λq=>by have:=(Y_.lt _ q).2;omega,L.4⟩⟩
  go_wp2;go_meet;have L:=(((Below.refl (Z b.1) b).alloc aA _).drew).trans (z.mono<|by show _<=Z (D b _).1;simp);have M_:=bt.keep<|z.5 _ bt.lt;have cq:Z (D b<|.cells #[Hq,H 0,H 0,H 0,H 0] 56).drew.1=Z b.1+1:=by show Z (D b _).1=_;simp
  have a7:=Y_.o;rw[cq]at a7;have O_:Z b.1<Z b.1+1:=iJ;exact⟨_,_,R,Y ⟨((((L.setCell (p:=A (Z b.1) 0) aA _).setCell (p:=A (Z b.1) 1) aA _).setCell (p:=A (Z b.1) 2) aA _).setCell (p:=A (Z b.1) 3) aA _).setCell (p:=A (Z b.1) 4) aA _,((((M_.set 0<|.slice s j r).set 1 (H f)).set 2 (H t)).set 3 (H T)).set 4 (H te),Zk (ownsRow_setCell_below (ownsRow_setCell_below (ownsRow_setCell_below (ownsRow_setCell_below (ownsRow_setCell_below a7 (a:=(A (Z b.1) 0)) O_ _) (a:=(A (Z b.1) 1)) O_ _) (a:=(A (Z b.1) 2)) O_ _) (a:=(A (Z b.1) 3)) O_ _) (a:=(A (Z b.1) 4)) O_ _) gX,λq=>by have:=(a7.lt _ q).1;omega,aA⟩⟩
 obtain⟨o,C,rfl,ab⟩:=hcut;obtain⟨s,r,rfl⟩:∃s r,C=X s (J e) r:=Xv.form (lab:=λ_=>(0,0,0)) (L:=(0,0,0)) ⟨ab.3,λ_ _=>R⟩;rw[<-V.o]at ab;have o0:Cl wc o 0 (X s j r):=Bx.cell ab.2 R;clear c1 c2 c3 c4 c5 bp;go_wp2;clear o0
 go_loopw [16] (λbl wr=>∃d:N,d<=j/\bl=H d/\Q (Pa b wr (Z b.1) o (X s j r) ⟨f,t,T,te⟩ ((e.take d).map (ZR l)++e.drop d))) λbl _=>j-(intOf bl).toNat
 case atStart=>exact⟨0,aN,R,by simpa using ab⟩
 obtain⟨d,hj,rfl,x⟩:=hrel;clear ab;have o0:Cl wr o 0 (X s j r):=Bx.cell x.2 R;have J_:=Y<|a3.trans (x.1.mono O);have b6:=x.5;have bd:=x.2.lt;have b5:=bb.lt;by_cases O_:d<j
 .have az:d<J e:=oN V.o
  have cv:(d:I)<(j:I):=O;have cr:=cm _<|aH az;have bi:=co _<|aH az;have HE:Q ((e.take d).map (ZR l)++e.drop d=(e.take d).map (ZR l)++e[d]::e.drop (d+1)):=Y (by rw[gZ az]);have bq:Q ((e.take<|d+1).map (ZR l)++e.drop (d+1)=(e.take d).map (ZR l)++ZR l e[d]::e.drop (d+1)):=Y (by rw[bN az,bG,cK];rfl);have ar:Q (J ((e.take d).map (ZR l))=d):=Y (by rw[bK,dH];omega);have R_:Q (J ((e.take d).map (ZR l)++e.drop d)=j):=Y (by rw[aQ,ar.o,mF];have:=V.o;omega);obtain⟨M,c',he⟩:=Xv.got (lab:=λ_=>(0,0,0)) (L:=(0,0,0)) ⟨x.3,λ_ _=>R⟩ (by rw[R_.o];omega);rw[R_.o]at he;cases he;have be:Xv wr (λ_=>(0,0,0)) (0,0,0) (Z b.1) 59 5 (Hl M j r) j (ZP<|(e.take d).map (ZR l)++e.drop d):=⟨by have:=x.3;rw[R_.o]at this;exact this,λ_ _=>R⟩;have N_:Jk wr M (d*5) e[d]:=by
   obtain⟨g',o',e',_,N_⟩:=Xv.inss (n:=j) (by rw[R_.o];exact be) d (by rw[R_.o];exact O_);cases e';rw[aV]at N_;have e9:((e.take d).map (ZR l)++e.drop d)[d]'(by rw[R_.o];exact O_)=e[d]:=by
    rw[fN (by rw[ar.o];exact aA),List.getElem_drop];simp only[ar.o,kL,fW]
   rw[e9]at N_;exact N_
  have bv:=Y be;have HI:=Y N_;have a4:=Y<|Iz b3 bi.1 bi.2 N_;have a8:=Y<|Ii l ((e.take d).map (ZR l)) e[d] (e.drop<|d+1);rw[ar.o,<-HE.o,<-bq.o]at a8;have q0:=N_.1;clear be N_ bi HE bq;generalize e[d]=b7 at*;obtain⟨K,ck⟩:∃K:N,b7.1=(K:I):=⟨b7.1.toNat,O⟩;rw[ck]at q0 cr a4 a8;have bc:=(bv.blk).1;go_wp2_with fail
  refine(GA q0 O O<|Y (hO.keep J_ hO.1)).mono ?_;rintro q u⟨v5,rfl,y,F⟩;rw[show([(A M<|d*5+1),(A M<|d*5+2),(A M<|d*5+3)]:List Addr)=[d*5+1,d*5+2,d*5+3].map λbm=>(A M bm)from R,rG]at F;obtain⟨a5,c5,rfl,ao⟩:=UO F;rw[bK];have z:=Y y;have ad:=Y<|bb.keep (G (y.5 _<|oN J_.4) (J_.5 _ b5));have a9:=Y (bv.keep λZ_ _ h2 q=>⟨y.5 Z_ h2,q⟩);have L_:=Y<|x.2.keep (y.5 _ bd);have aa:=Y<|hc.keep ((J_.trans<|y.mono (oN J_.4)).mono b1);have ac:=Y (yi (cs:=l) (g:=M) (w:=u) (λv hq=>by
   obtain⟨a2,S_,h2⟩:=a4 v hq;exact⟨a2,oB y S_ bc.2,h2⟩) (GJ))
  have af:=Y ao;have a6:Q (J (FSx [dB (K:I),aB (K:I),bB (K:I)] [d*5+1,d*5+2,d*5+3])<=3):=Y (by cases dB (K:I)<;>cases aB (K:I)<;>cases bB (K:I)<;>simp[FSx]);have ca:=Y<|Ig (dB (K:I)) (aB (K:I)) (bB (K:I)) (d*5);clear y F ao a4 q0;generalize FSx [dB (K:I),aB (K:I),bB (K:I)] [d*5+1,d*5+2,d*5+3]=V_ at*;go_wp2_with fail
  with_reducible refine(xu ad O aa b4 O bc.2 aA z.o.4 af (Y R) (oN a6.o) (λv=>a9.o.thaw v) ac).mono ?_
  rintro q w6⟨rfl,rfl⟩;have b8:Q (Pa b (recW l M V_ u) (Z b.1) o (Hl M j r) ⟨f,t,T,te⟩ ((e.take<|d+1).map (ZR l)++e.drop (d+1))):=Y (by
   have cg:M≠o:=λq=>x.4 (by rw[<-q];rfl);have cl:J ((e.take<|d+1).map (ZR l)++e.drop (d+1))=j:=by rw[aQ,bK,dH,mF];have:=V.o;omega
   refine⟨pu l bc.1 V_ (x.1.trans<|z.mono x.1.4) aA,L_.keep (ox l M (λq=>cg q.symm) V_ u),?_,x.4,b6⟩;rw[cl,<-a8.o];exact(a9.recW V_ λv hq=>by have:=ca v hq;rw[iR,R_.o];omega).1)
  clear x ad a9 L_ aa ac af o0;generalize recW l M V_ u=W at*;go_wp2;exact⟨⟨d+1,O,gM,b8⟩,SA⟩
 have ch:d=j:=O
 have ct:¬(d:I)<(j:I):=O;have K_:Q (Pa b wr (Z b.1) o (X s j r) ⟨f,t,T,te⟩ (e.map<|ZR l)):=Y (by
  have:=x.o;rw[ch,V.o,gC,List.drop_length,fF]at this;rw[V.o];exact this)
 clear x;go_wp2_with fail
 have b0:Q (Va wr o 1 ⟨f,t,T,te⟩):=Y ⟨Bx.cell K_.2 R,Bx.cell K_.2 R,Bx.cell K_.2 R,Bx.cell K_.2 R⟩;refine(tL b0 ci cj<|Y (hT.keep J_ hT.1)).mono ?_;rintro q u⟨v5,rfl,y,F⟩;rw[show([(A o<|1+1)]:List Addr)=[2].map λbm=>(A o bm)from R,rG]at F;obtain⟨a5,c5,rfl,ao⟩:=UO F;rw[bK];have z:=Y y;have ad:=Y<|bb.keep (G (y.5 _<|oN J_.4) (J_.5 _ b5));have L_:=Y<|K_.2.keep (y.5 _ bd);have aa:=Y<|hc.keep ((J_.trans<|y.mono (oN J_.4)).mono b1);have af:=Y ao;have bn:Cl u o 2 (H t):=Bx.cell L_ R;have ac:Q (∀v (cs:v<J (FSx [(f:I) != 1] [2])),∃a2:N,E (recW l o ((FSx [(f:I) != 1] [2]).take v) u) (A o (FSx [(f:I) != 1] [2])[v])=S (H a2)/\a2<J l):=Y (yi (λv hq=>by
  have Q_:=cp.o;unfold Id at Q_;cases hu:((f:I) != 1)with
  |false=>rw[hu]at hq;simp[FSx]at hq
  |true=>
   rw[hu]at hq Q_;have cn:v=2:=by simpa [FSx]using hq
   subst cn;have S_:=Q_ t sP;exact⟨t.toNat,by rw[bn];congr 2;omega,oN b3.o⟩) (by cases ((f:I) != 1)<;>simp[FSx]))
 have X_:Q (Bx (recW l o (FSx [(f:I) != 1] [2]) u) o #[X s j r,H f,H (NN l ⟨f,t,T,te⟩).a,H T,H te] 56):=Y (by
  unfold NN;by_cases S_:(f:I)=1
  .have hu:((f:I) != 1)=Sn:=by simp[S_]
   rw[hu];simp only[aU S_];exact L_
  have hu:((f:I) != 1)=So:=by simp[S_]
  rw[hu];simp only[aM S_];show Bx (Se u.drew (A o 2) (jr l<|E u (A o 2))) o _ _;rw[bn];exact Bx.set (w:=u.drew) L_ 2 (H<|Kp l t))
 have br:Q (Sw (Z b.1) b<|recW l o (FSx [(f:I) != 1] [2]) u):=Y<|pu l b6 _ (K_.1.trans<|z.mono K_.1.4) aA;have cc:Q (Sx (recW l o (FSx [(f:I) != 1] [2]) u) (Z b.1) 59 5 (X s j r) j (ZP<|e.map (ZR l))):=Y (by
  have Q_:Xv wr (λZ_=>if Z_=o then (1,0,0)else (0,0,0)) (0,0,0) (Z b.1) 59 5 (X s j r) (J (e.map<|ZR l)) (ZP<|e.map (ZR l)):=⟨K_.3,λZ_ q=>aM λv=>K_.4<|by rw[<-v];exact q⟩;have:=(Q_.keep (w':=recW l o (FSx [(f:I) != 1] [2]) u) λZ_ _ h2 q=>⟨G (ox l o (λv=>by rw[aU v]at q;simp at q) _ u) (z.5 Z_ h2),q⟩).1;rw[bK,<-V.o]at this;exact this)
 have a6:Q (J (FSx [(f:I) != 1] [2])<=3):=Y (by cases ((f:I) != 1)<;>simp[FSx]);have cb:=Y<|Bx.thaw L_;clear y F ao bn b0 L_;generalize FSx [(f:I) != 1] [2]=V_ at*;obtain⟨a1,bh⟩:∃a1,(NN l ⟨f,t,T,te⟩).a=a1:=⟨_,R⟩;rw[bh]at X_;have cd:=Y bh;clear bh;go_wp2_with fail
 with_reducible refine(xu ad O aa b4 O bd aA z.o.4 af (Y R) (oN a6.o) cb.o ac).mono ?_
 rintro q w6⟨rfl,rfl⟩;clear ad aa af ac z;generalize recW l o V_ u=W at*;have o0:Cl W o 0 (X s j r):=Bx.cell X_ R;have o1:Cl W o 1 (H f):=Bx.cell X_ R;have o2:Cl W o 2 (H a1):=Bx.cell X_ R;have o3:Cl W o 3 (H T):=Bx.cell X_ R;have o4:Cl W o 4 (H te):=Bx.cell X_ R;have U_:=HR.keep<|br.5 _ HR.lt;have r0:Cl W (Z w.1+1) 0 Hq:=Bx.cell U_ R;have r1:Cl W (Z w.1+1) 1 (H 0):=Bx.cell U_ R;have r2:Cl W (Z w.1+1) 2 (H 0):=Bx.cell U_ R;have r3:Cl W (Z w.1+1) 3 (H 0):=Bx.cell U_ R;have r4:Cl W (Z w.1+1) 4 (H 0):=Bx.cell U_ R;have rz:=Bx.thaw U_;clear U_;go_wp2_with fail
 refine cC (v:=Sa #[X s j r,H f,H a1,H T,H te]) (by simp[results,results65,go_sem,r0,r1,r2,r3,r4]) R ?_;have al:Z w.1+1<Z b.1:=oN bx.o;have aj:Z w.1<=Z w.1+1:=gX;rw[cd.o];exact⟨_,R,(((((a3.trans<|br.mono O).setCell (p:=A (Z w.1+1) 0) aj _).setCell (p:=A (Z w.1+1) 1) aj _).setCell (p:=A (Z w.1+1) 2) aj _).setCell (p:=A (Z w.1+1) 3) aj _).setCell (p:=A (Z w.1+1) 4) aj _,Zk (ownsRow_setCell_below (ownsRow_setCell_below (ownsRow_setCell_below (ownsRow_setCell_below (ownsRow_setCell_below cc (a:=(A (Z w.1+1) 0)) al _) (a:=(A (Z w.1+1) 1)) al _) (a:=(A (Z w.1+1) 2)) al _) (a:=(A (Z w.1+1) 3)) al _) (a:=(A (Z w.1+1) 4)) al _) O⟩
theorem Wcb_(g:Sx w n m 1 a k (l.map<|Value.int S6))(q:m≠5):∃b c,a=X b (J l) c/\∀d,Wb3_ B w d->Xf d n (Z w.1) b l:=by
 obtain⟨b,c,rfl,i⟩:=Xk g;refine⟨b,c,R,λd s t r=>?_⟩;obtain⟨e,o,rfl,j,p⟩:=i t r;refine⟨e,o,R,j,?_⟩;obtain⟨v,x,f⟩:=Wb4_ g R;have:=s.kept e _ f sP (λu y h=>by cases h;exact q R);rw[Xc<|G this f.symm];exact p
theorem Wcc_{l:List (Addr×I)}(u:J l<=4)(s:Zx w n (Z w.1) p ((l.map (·.1)).map Tx))(g:∀q∈l,q.1.block<Z w.1/\E w q.1=S (Si S6 q.2)):
 Sk prog 74 #[X p (J l) m] w (λe b=>∃a c,e=Rt (X a (J l) c)/\Sw (Z w.1) w b/\(∀d,Wb3_ B b d->Xf d (Z w.1) (Z b.1) a (l.map (·.2)))):=by
 have e1:J (l.map (·.1))=J l:=sP;have e2:J (l.map (·.2))=J l:=sP;have h:=KZ m (l.map (·.2)) (aA) (Y s) (Y<|G e2 e1.symm) (Y (λi h t=>by
  have j:i<J l:=O;have k:=g l[i] (aH j);rw[cM,cM];exact k)) O
 rw[e1]at h;refine h.mono ?_;rintro e b⟨v,rfl,f,o⟩;obtain⟨a,c,rfl,r⟩:=Wcb_ (B:=B) o vY;rw[e2];exact⟨a,c,R,f,r⟩
theorem Wcd_{x:Wn}{f:I}(hB:n<=Z w.1)(V_:1<=m)(X_:m<=13)(ar:0 < n/\1 < n)(K:k<Z w.1)(P:Jk w k 0 ⟨m,t,T,z,f⟩)(ad:∃c_ Q_,w.1[k]?=S (Sc c_ 59 Q_))(ho:Sx w n 5 1 a (J x) (Wab_ x))(aj:J x+J (Wa1_ ⟨m,t,T,z,f⟩)<=1000000000000)(af:∀v∈[t,T,z,f],Wbn_ v)(ao:Wb1_ n w)(V:Yy w):
 ∃l:List (Addr×I),(∀W,Sw (Z w.1) w W->Sk prog 75 #[Sj (S ⟨k,0,U⟩)] W λe b=>∃d i,e=Rt (X d (J l) i)/\Q (Sw (Z w.1) w b)/\Q (Zx b (Z w.1) (Z b.1) d ((l.map (·.1)).map Tx))/\E b ⟨k,0,U⟩=S (Si S6 m)/\E b ⟨0,m*5,U⟩=S (Sg (K8<|bz m))) /\
  (∀h d i,Sw (Z w.1) w h->Zx h (Z w.1) (Z h.1) d ((l.map (·.1)).map Tx)->Sk prog 74 #[X d (J l) i] h λe b=>∃g q,e=Rt (X g (J l) q)/\Q (Sw (Z w.1) w b)/\Q (∀s,Wb3_ n b s->Xf s (Z h.1) (Z b.1) g (l.map (·.2)))/\E b ⟨k,0,U⟩=S (Si S6 m)/\E b ⟨0,m*5,U⟩=S (Sg (K8<|bz m))) /\
  (∀u g q L M,Sw (Z w.1) w u->(∀s,Wb3_ n u s->Xf s L M g (l.map (·.2)))->Sk prog 14 #[a,Sg (K8<|bz m),X g (J l) q] u λe b=>∃v,e=Rt v/\Q (Wb3_ n w b)/\Q (Sx b n 5 1 v (J (x++Wa1_ ⟨m,t,T,z,f⟩)) (Wab_<|x++Wa1_ ⟨m,t,T,z,f⟩))/\E b ⟨k,0,U⟩=S (Si S6 m)/\E b ⟨0,m*5,U⟩=S (Sg (K8<|bz m))):=by
 have hz:=V.1;have R_:E w ⟨k,0,U⟩=S (Si S6 m):=P.1;have S_:E w ⟨0,m*5,U⟩=S (Sg (K8<|bz m)):=(V.2 m V_ X_).1;obtain⟨l,F,aa,G_⟩:=Wb7_ ⟨m,t,T,z,f⟩ ⟨by simp only;omega,by simp only;omega⟩ k 0;simp only[aV]at F aa G_;have O_:Wa1_ ⟨m,t,T,z,f⟩=Wbg_ (bz m) (l.map (·.2)):=by unfold Wa1_;simp only;rw[aa]
 have al:J l<=4:=by
  have:=fI List.length F;have h4:=CS [dB m,aB m,bB m,iB m] [(⟨k,1,U⟩:Addr),⟨k,2,U⟩,⟨k,3,U⟩,⟨k,4,U⟩];simp only[bK,bA,bO]at this h4;omega
 have ab:∀v∈l.map (·.2),Wbn_ v:=λv hv=>by
  obtain⟨N_,hq,rfl⟩:=aY.1 hv;have:=G_ N_ hq;simp only[cH,eA,lL]at this;exact af _ (by obtain rfl|rfl|rfl|rfl:=this<;>simp)
 have P_:∀b,Sw (Z w.1) w b->E b ⟨k,0,U⟩=S (Si S6 m)/\E b ⟨0,m*5,U⟩=S (Sg (K8<|bz m)):=λb U_=>⟨G (U_.cell (p:=⟨k,0,U⟩) K) R_,G (U_.cell (p:=⟨0,m*5,U⟩) (by show 0 < _;omega)) S_⟩;refine⟨l,?_,?_,?_⟩
 .intro W y;have Z_:=y.size;refine(zE k m t T z f W (Y<|P.keepS (y.block _ K)) V_ X_ (Y<|V.keep y O)).mono ?_;rintro e b⟨v,rfl,j,r⟩;rw[F]at r;obtain⟨d,i,rfl,K_⟩:=UO r;have K_:=Zx.lower K_ Z_;have j:Sw (Z w.1) w b:=y.trans<|j.mono Z_;obtain⟨s1,s2⟩:=P_ _ j;exact⟨d,i,sP,Y j,Y K_,s1,s2⟩
 .intro h d i c ap;have a0:=c.size;obtain⟨n0,n1,n2,n3,n4⟩:=P;have B:∀o,E h ⟨k,o,U⟩=E w ⟨k,o,U⟩:=λo=>c.cell (p:=⟨k,o,U⟩) K;have m1:=G (B 1) n1;have m2:=G (B 2) n2;have m3:=G (B 3) n3;have m4:=G (B 4) n4;have C:k<Z h.1:=O;refine(Wcc_ (B:=n) al ap λN_ hq=>?_).mono ?_
  .have hm:=G_ N_ hq;simp only[cH,eA,lL]at hm;obtain rfl|rfl|rfl|rfl:=hm;·exact⟨C,m1⟩
   .exact⟨C,m2⟩
   .exact⟨C,m3⟩
   exact⟨C,m4⟩
  rintro e b⟨g,q,rfl,j,I_⟩;have p:Sw (Z w.1) w b:=c.trans<|j.mono c.size;obtain⟨s1,s2⟩:=P_ _ p;exact⟨g,q,R,Y p,Y I_,s1,s2⟩
 intro u g q L M p I_;have Y_:Wb3_ n w u:=Wb3_.calm p hB;have az:=p.size;refine(Wb6_ L M O (Y<|Wbh_ ho p) (Y<|by rw[<-O_];exact aj) (Y I_) (Y sP) (Y ab) (Y<|ao.on Y_.below)).mono ?_;rintro e b⟨v,rfl,hk,r⟩;rw[<-O_]at r;have E_:Wb3_ n w b:=Y_.trans hk;obtain⟨cs,Q_,hh⟩:=ad;have ac:=E_.kept k _ hh sP (λc' aq e'=>by cases e');exact⟨v,R,Y E_,Y r,G (Xc<|G ac hh.symm) R_,G (E_.below.cell (p:=⟨0,m*5,U⟩) (by show 0 < _;omega)) S_⟩
theorem Wce_{u:Wn}{tg:I}(hB:n<=Z w.1)(S_:1<=m)(U_:m<=3)(aq:0 < n/\1 < n)(c:k<Z w.1)(z:Va w k 0 ⟨m,t,tg,T⟩)(ac:∃c_ O_,w.1[k]?=S (Sc c_ 54 O_))(ho:Sx w n 5 1 a (J u) (Wab_ u))(af:J u+J (Wbj_ ⟨m,t,tg,T⟩)<=1000000000000)(ad:∀v∈[t,tg,T],Wbn_ v)(al:Wb1_ n w)(B:Yb w):
 ∃l:List (Addr×I),(∀W,Sw (Z w.1) w W->Sk prog 76 #[Sj (S ⟨k,0,U⟩)] W λe b=>∃d h,e=Rt (X d (J l) h)/\Q (Sw (Z w.1) w b)/\Q (Zx b (Z w.1) (Z b.1) d ((l.map (·.1)).map Tx))/\E b ⟨k,0,U⟩=S (Si S6 m)/\E b ⟨1,m*4,U⟩=S (Sg (K8<|gx m))) /\
  (∀g d h,Sw (Z w.1) w g->Zx g (Z w.1) (Z g.1) d ((l.map (·.1)).map Tx)->Sk prog 74 #[X d (J l) h] g λe b=>∃f p,e=Rt (X f (J l) p)/\Q (Sw (Z w.1) w b)/\Q (∀r,Wb3_ n b r->Xf r (Z g.1) (Z b.1) f (l.map (·.2)))/\E b ⟨k,0,U⟩=S (Si S6 m)/\E b ⟨1,m*4,U⟩=S (Sg (K8<|gx m))) /\
  (∀s f p L M,Sw (Z w.1) w s->(∀r,Wb3_ n s r->Xf r L M f (l.map (·.2)))->Sk prog 14 #[a,Sg (K8<|gx m),X f (J l) p] s λe b=>∃v,e=Rt v/\Q (Wb3_ n w b)/\Q (Sx b n 5 1 v (J (u++Wbj_ ⟨m,t,tg,T⟩)) (Wab_<|u++Wbj_ ⟨m,t,tg,T⟩))/\E b ⟨k,0,U⟩=S (Si S6 m)/\E b ⟨1,m*4,U⟩=S (Sg (K8<|gx m))):=by
 have hz:=B.1;have P_:E w ⟨k,0,U⟩=S (Si S6 m):=z.1;have Q_:E w ⟨1,m*4,U⟩=S (Sg (K8<|gx m)):=(B.2 m S_ U_).1;obtain⟨l,C,Z_,F⟩:=Wca_ ⟨m,t,tg,T⟩ ⟨by simp only;omega,by simp only;omega⟩ k 0;simp only[aV]at C Z_ F;have K_:Wbj_ ⟨m,t,tg,T⟩=Wbg_ (gx m) (l.map (·.2)):=by rw[Wb9_];simp only;rw[Z_]
 have aj:J l<=4:=by
  have:=fI List.length C;have h4:=CS [(m:I) != 1,(m:I) != 3,(m:I)==2] [(⟨k,1,U⟩:Addr),⟨k,2,U⟩,⟨k,3,U⟩];simp only[bK,bA,bO]at this h4;omega
 have aa:∀v∈l.map (·.2),Wbn_ v:=λv hv=>by
  obtain⟨K,hq,rfl⟩:=aY.1 hv;have:=F K hq;simp only[cH,eA,lL]at this;exact ad _ (by obtain rfl|rfl|rfl:=this<;>simp)
 have N_:∀b,Sw (Z w.1) w b->E b ⟨k,0,U⟩=S (Si S6 m)/\E b ⟨1,m*4,U⟩=S (Sg (K8<|gx m)):=λb R_=>⟨G (R_.cell (p:=⟨k,0,U⟩) c) P_,G (R_.cell (p:=⟨1,m*4,U⟩) (by show 1 < _;omega)) Q_⟩;refine⟨l,?_,?_,?_⟩
 .intro W x;have X_:=x.size;refine(zD (Y<|z.keepS (x.block _ c)) S_ U_ (Y<|B.keep x O)).mono ?_;rintro e b⟨v,rfl,i,q⟩;rw[C]at q;obtain⟨d,h,rfl,P⟩:=UO q;have P:=Zx.lower P X_;have i:Sw (Z w.1) w b:=x.trans<|i.mono X_;obtain⟨s1,s2⟩:=N_ _ i;exact⟨d,h,sP,Y i,Y P,s1,s2⟩
 .intro g d h y ao;have az:=y.size;obtain⟨n0,n1,n2,n3⟩:=z;have V:∀o,E g ⟨k,o,U⟩=E w ⟨k,o,U⟩:=λo=>y.cell (p:=⟨k,o,U⟩) c;have m1:=G (V 1) n1;have m2:=G (V 2) n2;have m3:=G (V 3) n3;have F_:k<Z g.1:=O;refine(Wcc_ (B:=n) aj ao λK hq=>?_).mono ?_
  .have hm:=F K hq;simp only[cH,eA,lL]at hm;obtain rfl|rfl|rfl:=hm;·exact⟨F_,m1⟩
   .exact⟨F_,m2⟩
   exact⟨F_,m3⟩
  rintro e b⟨f,p,rfl,i,G_⟩;have j:Sw (Z w.1) w b:=y.trans<|i.mono y.size;obtain⟨s1,s2⟩:=N_ _ j;exact⟨f,p,R,Y j,Y G_,s1,s2⟩
 intro s f p L M j G_;have V_:Wb3_ n w s:=Wb3_.calm j hB;have ar:=j.size;refine(Wb6_ L M O (Y<|Wbh_ ho j) (Y<|by rw[<-K_];exact af) (Y G_) (Y sP) (Y aa) (Y<|al.on V_.below)).mono ?_;rintro e b⟨v,rfl,hk,q⟩;rw[<-K_]at q;have B_:Wb3_ n w b:=V_.trans hk;obtain⟨cs,O_,Y_⟩:=ac;have ab:=B_.kept k _ Y_ sP (λc' ap e'=>by cases e');exact⟨v,R,Y B_,Y q,G (Xc<|G ab Y_.symm) P_,G (B_.below.cell (p:=⟨1,m*4,U⟩) (by show 1 < _;omega)) Q_⟩
theorem Wcg_{w':Ub}{B0:N}{qs:Wc}(a:∃c d,w'.1[g]?=S (Sc c 2 d))(h:B0<=g)(f:∀i (o:i<J qs),E w' ⟨g,0+i,U⟩=S (Si S6 qs[i])):
 ∀b,Wb3_ B w' b->Xf b B0 (Z w'.1) (S ⟨g,0,U⟩) qs:=by
 intro b k i j;obtain⟨c,d,a⟩:=a;have l:g<Z w'.1:=(aS.1 a).1;refine⟨g,0,R,⟨h,l⟩,?_⟩;have:=k.kept g _ a sP (λm n e=>by cases e);rw[Xc<|G this a.symm];exact f i j
theorem Wch_(a:Uy)(n c:N)(k:I)(L B:N)(w:Ub)(ha:Q (zm w L B a k n))(r:n<=1000000000)(h:0<=k)(l:k<=1000000000):
 Sk prog 9 #[X a n c,Si S6 k] w λe f=>e=Rt (Si S6 (k+n))/\f=w:=by
 go_in
 go_wp2
 go_loop [1,5] (λu i=>∃j:N,j<=n/\i=Si S6 j/\u=Si S6 (k+j)) λ_ i=>n-(intOf i).toNat
 case atStart=>exact⟨0,aN,R,sP⟩
 obtain⟨j,q,rfl,rfl⟩:=hrel;by_cases d:j<n
 .obtain⟨g,o,rfl,m,p⟩:=ha.o j d;go_wp2
  go_round
  case rel=>exact⟨j+1,O,gM,gM⟩
  simp[intOf];omega
 have b:j=n:=O;subst b;go_wp2;go_ret;exact⟨R,R⟩
end Go.Proofs.YtnggdhnpjfigjaaGreatDoor
