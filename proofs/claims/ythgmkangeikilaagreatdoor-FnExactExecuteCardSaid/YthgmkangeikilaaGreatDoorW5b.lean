import Derived.Test.YthgmkangeikilaaGreatDoorM0
import Derived.Laws.AppendOwnNone
namespace Go.Proofs.YthgmkangeikilaaGreatDoor
set_option maxHeartbeats 8000000
set_option maxRecDepth 100000
open _root_ renaming Array.size->Z,Int->I,List.length->J,Nat->N,rfl->R,Bool.false->Sn,Option.some->S,Bool.true->So,absurd->Sz,List.range->Rg,Decidable.decide->Jd,Option.none->U
open Value renaming bool->Sb,agg->Sa,slice->X,int->Si
open Go renaming Ending.returned->Rt,RowKit.Below->Sw,Calls->Sk,World.cell?->E,World.alloc->D,Obj.cells->Sc,RowKit.intOf->JB,World.ownsRow->Sx,IntKind.i64->S6
open Go.RowKit Go.Proofs.Tryz
variable{r:Bool}{t T z:I}{n m k B c:N}{w:Ub}{a:Uj}{p:Uy}{x:Wi}{y:Wo}
theorem Ur{b d n a}:
 Sk prog 56 #[Sa #[H t,H T,H z,H b,H d],H n,H a] w λe g=>e=Rt (Sb (Yw n a ⟨t,T,z,b,d⟩))/\Sw (Z w.1) w g:=by
 by_cases h:1<=t/\t<=a
 .let⟨c,i⟩:=h
  go_in
  go_wp2_with fail
  refine YU (nZ _ _) ?_;rintro f rfl;go_wp2_with fail
  refine YU (vG _ _) ?_;rintro f rfl;go_wp2_with fail
  refine YU (vU _ _) ?_;rintro f rfl;go_wp2
  all_goals
   go_ret;refine⟨Xl ?_,Xb Rf _⟩
   first|(simp[Yw,Tp,Wu, *];done)|(simp[Yw,Tp,Wu, *];omega)|(rw[eQ];simp[Yw,Tp,Wu, *];omega)
 go_in
 go_wp2
 all_goals
  go_ret;refine⟨Xl ?_,Xb Rf _⟩;symm;unfold Yw;by_cases c:1<=t;·rw[dJ (p:=t<=a) O];simp
  rw[dJ (p:=1<=t) c];simp
section
attribute [local go_sem ↓] Go.wp_at_zero Go.wp_at_succ
def KV(v:I)(n:N)(x:Xe):Bool:=x.2.all (Yw v 10)&&Jf v n x.3
theorem EI{F}:(Z0 F&&J2 F)=F.2.all (KV F.1 (J F.2)):=by rw[show F.2.all (KV F.1 (J F.2))=F.2.all (λx=>x.2.all (Yw F.1 10)&&Jf F.1 (J F.2) x.3)from R,vw];rfl
theorem AJ(ha:Q (Xp w m k p x))(l:Q (n=J x))(j:n<=1048576)(g:Q (Xo x<=1048576))(b:k<=Z w.1)(h:Q (¬(0<=t/\t<=2000/\1<=n/\n<=1000/\Xo x<=4000))):
 Sk prog 46 #[Sa #[H t,X p n c]] w λe o=>e=Rt (Sb Sn)/\Sw (Z w.1) w o:=by
 by_cases a:0<=t/\t<=2000/\1<=n/\n<=1000
 .let⟨q,d1,d2,d3⟩:=a;have r:4000<Xo x:=oN h.o
  go_in
  go_wp2_with fail
  refine(tB m k ?q1 l j g ?q2).mono ?_
  case q1=>exact ha.keep (Xb Rf _ |>.mono b)
  case q2=>simp;omega
  rintro e s⟨rfl,f⟩;go_wp2;go_ret;exact⟨R,Xg (Xb Rf _) f⟩
 have i:t<0\/(0<=t/\2000<t)\/(0<=t/\t<=2000/\n<1)\/(0<=t/\t<=2000/\1<=n/\1000<n):=O;obtain d|⟨d,d1⟩|⟨d,d1,d2⟩|⟨d,d1,d2,d3⟩:=i
 all_goals
  go_in
  go_wp2;go_ret;exact⟨R,Xb Rf _⟩
end
section
attribute [local go_sem ↓] Go.wp_at_zero Go.wp_at_succ
theorem At(ha:Q (Xp w k B p x))(y:Q (m=J x))(hs:Q (J x+Xx x<=1048576))(hB:B<=Z w.1)(d1:(n:I)<=2000)(d2:1<=m)(d3:m<=1000)(cs:Xo x<=4000)(o:Q (r=(x.all (KV n m)&&Ug ⟨n,x⟩&&Ui ⟨n,x⟩))):
 Sk prog 46 #[Sa #[H n,X p m c]] w λg w'=>g=Rt (Sb r)/\Sw (Z w.1) w w':=by
 have b8:Q (Xo x<=1048576):=by show _<=_;omega
 have bi:=Y<|ti hs
 go_in
 go_wp2_with fail
 refine(tB k B ?q1 y O b8 ?q2).mono ?_
 case q1=>exact ha.keep (Xb Rf _ |>.mono hB)
 case q2=>simp;omega
 rintro g L⟨rfl,aj⟩;let⟨a3,cb⟩:=NC aj;have s:E L (A (Z w.1) 0)=S (H n):=by rw[a3 _ _ sP];simp
 have T:E L (A (Z w.1) 1)=S (X p m c):=by rw[a3 _ _ sP];simp
 have B1:=Xg (Xb (dC (Z w.1) w) _) aj;have ch:=aj.4;simp at ch;have l:=Y B1;have HA:=Y<|ha.keep (B1.mono hB);clear a3 cb aj B1 ha;go_wp2
 go_loopw [4] (λi wr=>∃a:N,a<=m/\i=H a/\Sw (Z L.1) L wr/\Q ((x.take a).all (KV n m)=So)) λi _=>m-(JB i).toNat
 .exact⟨0,aN,R,Rf,R⟩
 obtain⟨a,hk,rfl,d,V⟩:=hrel;by_cases bl:a<m
 .have v:a<J x:=oN y.o;obtain⟨bt,ci,rfl,⟨_,b6⟩,hc⟩:=HA a v;let⟨a7,a8,ia,ic,N_,f1,⟨f2,f3,f4,f5⟩,_,V_⟩:=hc;have e0:=G (XU d O) N_;have e1:=G (XU d O) f1;have e2:=G (XU d O) f2;have e3:=G (XU d O) f3;have e4:=G (XU d O) f4;have e5:=G (XU d O) f5;have ao:=G (XU d O) s;have ap:=G (XU d O) T;have ck:=(bi _<|aH v).2.1;have Y_:=Y λh=>JN (p:=KV n m) (xs:=x) (k:=a) v h;have a5:=Y λh=>XY (p:=KV n m) v V h;have HI:=Y V_;have cf:=d.4;clear V_ N_ f1 f2 f3 f4 f5;generalize x[a]=F at*;have af:Q (KV n m F=(F.2.all (Yw n 10)&&(Zu n 1 m ⟨F.3.1,F.3.a,F.3.3,F.3.4⟩&&!(F.3.1==2&&F.3.3==F.3.4)))):=R;go_wp2;have b:=Xb d<|Sc #[X a7 (J F.1) a8,X ia (J F.2) ic,H F.3.1,H F.3.a,H F.3.3,H F.3.4] 81;have a0:(λt:Ub=>E t (A (Z wr.1) 1)=S (X ia (J F.2) ic)/\E t (A (Z wr.1) 2)=S (H F.3.1)/\E t (A (Z wr.1) 3)=S (H F.3.a)/\E t (A (Z wr.1) 4)=S (H F.3.3)/\E t (A (Z wr.1) 5)=S (H F.3.4)/\Z wr.1<Z t.1) (D wr<|Sc #[X a7 (J F.1) a8,X ia (J F.2) ic,H F.3.1,H F.3.a,H F.3.3,H F.3.4] 81):=⟨sP,sP,sP,sP,sP,sP⟩;generalize D wr _=W2 at*;let⟨m1,m2,m3,m4,m5,cv⟩:=a0;have bq:=Y b;have cw:=b.4;generalize Z wr.1=br at*;clear b e0 e1 e2 e3 e4 e5 ao ap d
  go_loopw [6] (λi wi=>∃j:N,j<=J F.2/\i=H j/\Sw (Z W2.1) W2 wi/\Q ((F.2.take j).all (Yw n 10)=So)) λi _=>J F.2-(JB i).toNat
  .exact⟨0,aN,R,Rf,R⟩
  obtain⟨j,W_,rfl,e,S_⟩:=hrel;have K_:=Xg bq e;have r0:=G (XU K_ O) s;have n1:=G (XU e O) m1;have ce:=e.4;by_cases u:j<J F.2
  .obtain⟨b',o',rfl,⟨_,b7⟩,bd⟩:=HI j u;let⟨g0,g1,g2,g3,g4⟩:=bd.keep K_ O;have L_:=Y λh=>JN (p:=Yw n 10) (xs:=F.2) (k:=j) u h;have a6:=Y λh=>XY (p:=Yw n 10) u S_ h;have cl:(0:I)<=j:=O;have cm:(j:I)<J F.2:=O;clear bd m1 m2 m3 m4 m5 s T;generalize F.2[j]=P at*;cases hr:Yw n 10 ⟨P.1,P.2,P.a,P.b,P.5⟩
   .have f:=Y hr;go_wp2
    go_region_with (go_at_call 56;refine YU Ur λM_ b=>?_;rw[Xw f])
    all_goals
     go_wp2;go_ret;exact⟨Xl (by rw[o.o,Xw Y_<|by rw[af.o,Xw L_ f.o];rfl];rfl),Xg l<|Xg K_.drew b⟩
   have f:=Y hr;go_wp2
   go_region_with (go_at_call 56;refine YU Ur λM_ b=>?_;rw[Xw f])
   all_goals
    go_wp2;exact⟨⟨j+1,O,gM,Xg e.drew b,Xw a6 f⟩,SA⟩
  have b4:=Y<|YE (p:=Yw n 10) (xs:=F.2) (k:=j) O S_;have n2:=G (XU e O) m2;have n3:=G (XU e O) m3;have n4:=G (XU e O) m4;have n5:=G (XU e O) m5;clear m1 m2 m3 m4 m5 s T;cases hr:Zu n 1 m ⟨F.3.1,F.3.a,F.3.3,F.3.4⟩
  .have f:=Y hr;clear hr;go_wp2_with (go_at_call 57;refine YU KS λM_ b=>?_;rw[Xw f])
   go_ret;exact⟨Xl (by rw[o.o,Xw Y_<|by rw[af.o,f.o];simp];rfl),Xg l<|Xg K_ b⟩
  have f:=Y hr;clear hr;by_cases hq:F.3.1=2/\F.3.3=F.3.4
  .have q1:(F.3.1==2)=So:=by simp[hq.1]
   have q2:(F.3.3==F.3.4)=So:=by simp[hq.2]
   clear hq;go_wp2_with (go_at_call 57;refine YU KS λM_ b=>?_;rw[Xw f];have p2:=oB b n2 O;have p4:=oB b n4 O;have p5:=G (XU b O) n5)
   go_ret;exact⟨Xl (by rw[o.o,Xw Y_<|by rw[af.o,q1,q2];simp];rfl),Xg l<|Xg K_ b⟩
  have cd:(F.3.1==2)=Sn\/((F.3.1==2)=So/\(F.3.3==F.3.4)=Sn):=by simp only[iS,iA];omega
  clear hq;obtain q1|⟨q1,q2⟩:=cd
  all_goals
   go_wp2_with (go_at_call 57;refine YU KS λM_ b=>?_;rw[Xw f];have p2:=oB b n2 O;have p4:=oB b n4 O;have p5:=G (XU b O) n5)
   exact⟨⟨a+1,O,gM,Xg K_ b,Xw a5 (by rw[af.o,f.o,b4.o];first|(rw[q1];rfl)|(rw[q1,q2];rfl))⟩,SA⟩
 have b3:=Y<|YE (p:=KV n m) (xs:=x) (k:=a) (oN y.o) V;clear V;go_wp2
 go_loopw [7] (λi wr=>∃a:N,a<=m/\i=H a/\Sw (Z L.1) L wr/\Q (∀j (h:j<J x),j<a->x[j].1.all (Jt n (J (AQ x 0 j)))=So)) λi _=>m-(JB i).toNat
 .exact⟨0,aN,R,d,λj _ h=>Sz h O⟩
 clear d bl hk;obtain⟨a,hk,rfl,d,V⟩:=hrel;have ao:=G (XU d O) s;have ap:=G (XU d O) T;have cf:=d.4;by_cases bl:a<m
 .have v:a<J x:=oN y.o;obtain⟨bt,ci,rfl,⟨_,b6⟩,hc⟩:=HA a v;let⟨a7,a8,ia,ic,N_,_,_,Z_,_⟩:=hc;let⟨co,_,bh⟩:=bi _<|aH v;have bp:=Y bh;have Y_:Q (x[a].1.all (Jt n (J (AQ x 0 a)))=Sn->Ug ⟨n,x⟩=Sn):=λh=>Wg Jt ⟨n,x⟩ (k:=a) v h
  have a5:Q (x[a].1.all (Jt n (J (AQ x 0 a)))=So->∀j (h:j<J x),j<a+1->x[j].1.all (Jt n (J (AQ x 0 j)))=So) :=
   λh j W_ cn=>if g:j=a then by subst g;exact h else V j W_ O
  have HP:=Y Z_;have D0:=Y N_;have Q_:=Y<|HA.keep (d.mono O);have cp:J (AQ x 0 a)<=1048576:=oP (YO a x 0) y.o;clear Z_ N_ bh;go_wp2_with fail
  refine(ZE n c a Q_ y O O).mono ?_;rintro g M_⟨a2,c2,rfl,b,al⟩;have W:=Xg d b;have ca:=W.4;clear al b d ao ap Q_;generalize x[a]=F at*;generalize AQ x 0 a=C at*;go_wp2
  go_loopw [9] (λi wi=>∃j:N,j<=J F.1/\i=H j/\Sw (Z L.1) L wi/\Q ((F.1.take j).all (Jt n (J C))=So)) λi _=>J F.1-(JB i).toNat
  .exact⟨0,aN,R,W,R⟩
  clear W ca;obtain⟨j,W_,rfl,e,S_⟩:=hrel;have x0:=G (XU e O) s;have x1:=G (XU e O) T;have x2:=G (XU e O) D0;have ce:=e.4;by_cases u:j<J F.1;rotate_left
  .go_wp2;exact⟨⟨a+1,O,gM,e,Xw a5<|YE (xs:=F.1) (k:=j) O S_⟩,SA⟩
  obtain⟨b',o',rfl,⟨_,b7⟩,aa,cc,g0,g1,V_⟩:=HP j u;have e6:=G (XU e O) g0;have e7:=G (XU e O) g1;have cj:=bp _<|aH u;have L_:=Y λh=>Xw Y_<|JN (p:=Jt n (J C)) (xs:=F.1) (k:=j) u h;have a6:=Y λh=>XY (p:=Jt n (J C)) u S_ h;have bo:=Y V_;have ct:Z w.1<Z wr.1:=O;clear g0 g1 V_;generalize F.1[j]=P at*;have R_:Q (Jt n (J C) P=(Jd (1<=J P.2)&&Jd (J P.2=J C)&&P.2.all (To 0 n))):=R;by_cases O_:J P.2=0
  .have ba:(J P.2:I)<1:=O;have H0:=Y O_;clear O_;go_wp2;go_ret;exact⟨Xl (by rw[o.o,Xw L_<|by rw[R_.o,H0.o];rfl];simp),Xg l<|Xb e _⟩
  have ba:(1:I)<=J P.2:=O;have H0:=Y O_;clear O_;by_cases F_:J P.2=J C;rotate_left
  .have bb:((J P.2:I) != (J C:I))=So:=by rw[jJ];omega
   have H1:=Y F_;clear F_;go_wp2;go_ret;exact⟨Xl (by rw[o.o,Xw L_<|by rw[R_.o,dJ H1.o];simp];simp),Xg l<|Xb e _⟩
  have bb:((J P.2:I) != (J C:I))=Sn:=by simp[F_]
  have H1:=Y F_;clear F_;go_wp2;have a1:=Xb e<|Sc #[H P.1,X aa (J P.2) cc] 83;have a0:(λt:Ub=>E t (A (Z wr.1) 1)=S (X aa (J P.2) cc)/\Z wr.1<Z t.1) (D wr<|Sc #[H P.1,X aa (J P.2) cc] 83):=⟨sP,sP⟩;generalize D wr _=w9 at*;let⟨z1,z2⟩:=a0;generalize Z wr.1=br at*;have cx:=a1.4;have bn:=Y a1;clear x0 x1 x2 e6 e7 ba bb a1
  go_loopw [11] (λi wi=>∃q:N,q<=J P.2/\i=H q/\Sw (Z w9.1) w9 wi/\Q ((P.2.take q).all (To 0 n)=So)) λi _=>J P.2-(JB i).toNat
  .exact⟨0,aN,R,Rf,R⟩
  obtain⟨q,hq,rfl,a4,T_⟩:=hrel;have y1:=G (XU a4 O) z1;have U_:=Xg bn a4;have y0:=G (XU U_ O) s;by_cases ab:q<J P.2
  .obtain⟨b2,o2,rfl,⟨_,b⟩,be⟩:=bo q ab;have r1:=G (XU U_ O) be;have bm:=Y λh=>JN (p:=To 0 n) (xs:=P.2) (k:=q) ab h;have cg:=Y λh=>XY (p:=To 0 n) ab T_ h;have cq:(0:I)<=q:=O;have cr:(q:I)<J P.2:=O;clear be z1 s T;generalize P.2[q]=M at*;by_cases ar:M<0
   .have bv:Jd (M<0)=So:=by simpa using ar
    go_wp2
    go_quiet (fail)
    go_wp2;go_ret;exact⟨Xl (by rw[o.o,Xw L_<|by rw[R_.o,Xw bm<|by unfold To;rw[dJ (p:=0<=M) O];rfl];simp];simp),Xg l<|iX U_ _⟩
   have bv:Jd (M<0)=Sn:=by simpa using ar
   have bx:0<=M:=O;clear ar;by_cases b0:(n:I)<=M
   .go_wp2
    go_quiet (fail)
    go_wp2;go_ret;exact⟨Xl (by rw[o.o,Xw L_<|by rw[R_.o,Xw bm<|by unfold To;rw[dJ (p:=M<n) O];simp];simp];simp),Xg l<|iX U_ _⟩
   have b1:M<(n:I):=O;clear b0;go_wp2
   go_quiet (fail)
   go_wp2;exact⟨⟨q+1,O,gM,iX a4 _,Xw cg<|by unfold To;rw[eB bx,eB b1];rfl⟩,SA⟩
  go_wp2
  exact⟨⟨j+1,O,gM,U_,Xw a6 (by have F_:=H1.o;have O_:=H0.o;rw[R_.o,eB F_,eB (p:=1<=J P.2) O,YE (xs:=P.2) (k:=q) O T_.o];rfl)⟩,SA⟩
 have b5:Q (Ug ⟨n,x⟩=So):=(Zr Jt ⟨n,x⟩ x 0).2 (λj W_=>by rw[aV];exact V j W_<|oN y.o);have Q_:=Y<|HA.keep (d.mono O);have az:Q (Ui ⟨n,x⟩=(Jd ((J (BX x):I)=n)&&(Rg n).all λad=>Cg (BX x) ad)):=R;have bf:J (BX x)<=1048576:=oP (KP x) hs.o;clear V;go_wp2_with fail
 refine(BU Q_ y O (show Xx x<=1048576 by have:=hs.o;omega) O).mono ?_;rintro g M_⟨a2,c2,rfl,b,al⟩;have W:=Xg d b;have y0:=G (XU W O) s;have a9:=Y al;have aq:=Y W;clear al b d ao ap Q_ W s T;generalize BX x=K at*;by_cases J_:(J K:I)=n;rotate_left
 .have bc:((J K:I) != (n:I))=So:=by rw[jJ];exact J_
  have HD:=Y J_;clear J_;go_wp2;go_ret;exact⟨Xl (by rw[o.o,az.o,dJ HD.o];simp),Xg l aq⟩
 have bc:((J K:I) != (n:I))=Sn:=by simp[J_]
 have HD:=Y J_;clear J_;go_wp2;clear bc
 go_loop [13] (λi=>∃q:N,q<=n/\i=H q/\Q (∀z:N,z<q->Cg K z=So)) λi=>n-(JB i).toNat
 .exact⟨0,aN,R,λz h=>Sz h O⟩
 obtain⟨q,hq,rfl,T_⟩:=hrel;by_cases ab:q<n
 .cases hr:Cg K (q:I)
  .have f:=Y hr;go_wp2_with (go_at_call 91;refine YU (YF _ _ _ K _ _ _ a9 R bf) λw3 ac=>?_;rw[ac];clear ac w3)
   go_ret
   exact⟨Xl (by
    have hf:((Rg n).all λad=>Cg K ad)=Sn:=by rw[lZ];exact⟨q,by simpa using ab,by simp[f.o]⟩
    rw[o.o,az.o,hf];simp),Xg l aq⟩
  have f:=Y hr;go_wp2_with (go_at_call 91;refine YU (YF _ _ _ K _ _ _ a9 R bf) λw3 ac=>?_;rw[ac];clear ac w3)
  go_round
  .exact⟨q+1,O,gM,λz Z_=>if g:z=q then by subst g;exact f else T_ z O⟩
  simp[JB];omega
 go_wp2;go_ret
 exact⟨Xl (by
  have hf:((Rg n).all λad=>Cg K ad)=So:=by rw[dV];intro z Z_;exact T_ z<|by simp at Z_;omega
  rw[o.o,az.o,hf,b3.o,b5.o,eB HD.o];rfl),Xg l aq⟩
theorem Tr(v f n c a L B w)(ha:Q (Xp w L B f a))(e:Q (n=J a))(d:Q (J a+Xx a<=1048576))(h:B<=Z w.1):
 Sk prog 46 #[Sa #[H v,X f n c]] w λk o=>k=Rt (Sb (iu ⟨v,a⟩))/\Sw (Z w.1) w o:=by
 have i:iu ⟨v,a⟩=(Y6 ⟨v,a⟩&&a.all (KV v (J a))&&Ug ⟨v,a⟩&&Ui ⟨v,a⟩):=by unfold iu;rw[EI]
 have m:=e.o;have l:Xo a<=1048576:=by rw[V7];exact d
 have q:=d.o;by_cases j:0<=v/\v<=2000/\1<=n/\n<=1000/\Xo a<=4000
 .let⟨g,d1,d2,d3,d4⟩:=j;have b:Y6 ⟨v,a⟩=So:=tG g d1 (by show 1<=J a;omega) (by show J a<=1000;omega) d4;obtain⟨r,rfl⟩:=bX g;rw[i,b];exact At ha e d h d1 d2 d3 d4<|by show _=_;rw[<-m];rfl
 have b:Y6 ⟨v,a⟩=Sn:=by
  by_cases p:Xo a<=4000;·exact Wt (F:=⟨v,a⟩) (by show ¬(0<=v/\v<=2000/\1<=J a/\J a<=1000);omega)
  exact UE (F:=⟨v,a⟩) (by show 4000<Xo a;omega)
 rw[i,b];exact AJ ha e O l h j
end
section
attribute [local go_sem ↓] Go.wp_at_zero Go.wp_at_succ
def ZP(a:Vr):Wo:=a.flatMap λx=>[Si S6 x.1,Si S6 x.2,Si S6 x.a,Si S6 x.b,Si S6 x.5]
theorem rM{x}{a:Vr}:ZP (x::a)=[H x.1,H x.2,H x.a,H x.b,H x.5]++ZP a:=R
theorem j7(a b):ZP (a++b)=ZP a++ZP b:=by simp[ZP]
theorem iR:∀a:Vr,J (ZP a)=J a*5
 |[]=>R
 |x::a=>by rw[rM,aQ,iR a];simp;omega
theorem l7:∀(b:Vr),∀u∈ZP b,u.oneCell'=So:=λb u c=>by let⟨x,_,a⟩:=bV.1 c;simp at a;obtain rfl|rfl|rfl|rfl|rfl:=a<;>rfl
theorem RB:(prog.info? 62).map (λi=>(i.8,i.3,i.4))=S (S<|Sa #[H 0,H 0,H 0,H 0,H 0],5,40):=vZ
theorem m7(w:Ub):Sx (D w<|Sc #[] 62) (Z w.1) 62 5 (X (S ⟨Z w.1,0,U⟩) 0 0) 0 (ZP []):=by have:=eI (base:=Z w.1) (e:=62) (size:=5) w #[] 0 sP sP R;simpa [ZP]using this
theorem sK{a:Wy}(h:n<J a):a[n].1∈ai a:=aY.2 ⟨a[n],aH h,R⟩
theorem sN{a}(h:t∈ai a):∃i,∃h:i<J a,a[i].1=t:=by let⟨m,c,e⟩:=aY.1 h;obtain⟨i,b,rfl⟩:=bR c;exact⟨i,b,e⟩
theorem Ip{a}(h:b9 a)(c:n<J a)(d:m<J a)(e:a[n].1=a[m].1):n=m:=by
 have g:(a.map (·.1)).Pairwise (·≠·):=h.1;have f:=gY.1 g;obtain b|b|b:=mA n m;·exact(f n m SK (by simpa using d) b (by simp[e])).elim
 .exact b
 exact(f m n (by simpa using d) SK b (by simp[e])).elim
theorem yt{a}(h:b9 a)(b:n<J a):pz a a[n].1=a[n].2:=by
 unfold pz;have:a.find? (λm=>m.1==a[n].1)=S a[n]:=by
  rw[List.find?_eq_some_iff_getElem];refine⟨sP,n,b,R,λj c=>?_⟩;have:a[j].1≠a[n].1:=λe=>by have:=Ip h O b e;omega
  simpa using this
 rw[this];rfl
theorem I6{b}(h:b9 b)(c:n<J b):b.eraseIdx n=ff b b[n].1:=by
 have p:∀(a:Wy)(t:I),(ai a).Nodup->∀n (h:n<J a),a[n].1=t->a.eraseIdx n=ff a t:=by
  intro a t
  induction a with
  |nil=>intro _ n h;exact Sz h sP
  |cons m a o=>
   intro j n c e;have k:(ai a).Nodup:=(fL.1 j).2;have i:m.1∉ai a:=(fL.1 j).1;cases n with
   |zero=>
    have f:m.1=t:=e;unfold ff;rw[List.eraseIdx_cons_zero,sk<|by simp[f]];refine(List.filter_eq_self.2 λq hq=>?_).symm;have:q.1≠t:=λe2=>i (by rw[f,<-e2];exact aY.2 ⟨q,hq,R⟩);simpa using this
   |succ n=>
    have g:n<J a:=by simpa using c
    have d:a[n].1=t:=e;have l:m.1≠t:=λe2=>i (by rw[e2,<-d];exact sK g);unfold ff;rw[List.eraseIdx_cons_succ,sC (by simpa using l),o k n g d];rfl
 exact p b _ h.1 n c R
theorem LN{a}(h:b9 a)(b:n<J a)(e:an a a[n].1=Sn)(g:∀q (_:q<J a),an a a[q].1=Sn->a[n].1<=a[q].1):dm a=(N3 a[n],a.eraseIdx n):=by
 have f:bj (fo a)=S a[n].1:=pF (oE.2 ⟨sK b,e⟩) (λt i=>by let⟨c,d⟩:=oE.1 i;obtain⟨q,hq,rfl⟩:=sN c;exact g q hq d)
 unfold dm;rw[f];dsimp only;rw[yt h b,I6 h b]
theorem LJ{a:Wy}(f:n<J a)(e:∀q (_:q<J a),an a a[q].1=So)(i:∀q (_:q<J a),a[n].1<=a[q].1):dm a=(⟨12,0,a[n].1,0,0⟩,scratch a a[n].1):=by
 have g:bj (fo a)=U:=lj.2 (List.eq_nil_iff_forall_not_mem.2 (λt b=>by let⟨d,c⟩:=oE.1 b;obtain⟨q,hq,rfl⟩:=sN d;rw[e q hq]at c;cases c))
 have h:bj (ai a)=S a[n].1:=pF (sK f) (λt b=>by obtain⟨q,hq,rfl⟩:=sN b;exact i q hq)
 unfold dm;rw[g,h]
theorem pU(w:Ub)(a b c d e):Sx (D w<|Sc #[Si S6 a,Si S6 b,Si S6 c,Si S6 d,Si S6 e] 62) (Z w.1) 62 5 (X (S ⟨Z w.1,0,U⟩) 1 1) 1 (ZP [⟨a,b,c,d,e⟩]):=by have:=eI (base:=Z w.1) (e:=62) (size:=5) w #[H a,H b,H c,H d,H e] 1 sP vY R;simpa [ZP]using this
theorem pR(h:Sx w n m k a B y)(b:a≠X U 0 0):∃g c,a=X (S ⟨g,0,U⟩) B c/\(n<=g/\g<Z w.1)/\B<=c:=by
 obtain⟨m,_⟩|h:=Vc h;·exact Sz m b
 exact h
structure nU(xs:Wy)(j:N)(be:I)(lo:N):Prop where
 lo:lo<J xs/\∀q (h:q<J xs) (h2:lo<J xs),q<j->xs[lo].1<=xs[q].1
 be:(be=-1/\∀q (h:q<J xs),q<j->an xs xs[q].1=So)\/∃b:N,be=b/\b<j/\∃h:b<J xs,an xs xs[b].1=Sn/\∀q (_:q<J xs),q<j->an xs xs[q].1=Sn->xs[b].1<=xs[q].1
theorem nU.next{a}(l:nU a n t m)(h:n<J a)(o:∀s:m<J a,(a[n].1<a[m].1/\k=n)\/(¬a[n].1<a[m].1/\k=m))(p:(an a a[n].1=So/\T=t)\/(an a a[n].1=Sn/\((t=-1/\T=n)\/∃b:N,t=b/\∀d:b<J a,(a[n].1<a[b].1/\T=n)\/(¬a[n].1<a[b].1/\T=b)))):nU a (n+1) T k:=by
 let⟨⟨g,i⟩,d⟩:=l;constructor
 .rcases o g with⟨q1,rfl⟩|⟨q1,rfl⟩
  .refine⟨h,λq hq _ f=>?_⟩;by_cases e:q=k;·subst e;exact zP _
   have:=i q hq g O;omega
  refine⟨g,λq hq _ f=>?_⟩;by_cases e:q=n;·subst e;omega
  exact i q hq g O
 obtain⟨r,rfl⟩|⟨r,⟨rfl,rfl⟩|⟨b,rfl,hb2⟩⟩:=p
 .rcases d with⟨e,d⟩|⟨b,e,hbj,hbl,hbf,hbm⟩
  .refine bC ⟨e,λq hq f=>?_⟩;by_cases e2:q=n;·subst e2;exact r
   exact d q hq O
  refine aZ ⟨b,e,O,hbl,hbf,λq hq f c=>?_⟩;by_cases e2:q=n;·subst e2;rw[r]at c;cases c
  exact hbm q hq O c
 .rcases d with⟨_,d⟩|⟨b,e,_⟩
  .refine aZ ⟨n,R,O,h,r,λq hq f c=>?_⟩;by_cases e2:q=n;·subst e2;exact zP _
   rw[d q hq O]at c;cases c
  omega
 obtain⟨e,_⟩|⟨b',e,hbj,hbl,hbf,hbm⟩:=d;·omega
 have j:b'=b:=O;subst j;obtain⟨q1,rfl⟩|⟨q1,rfl⟩:=hb2 hbl
 .refine aZ ⟨n,R,O,h,r,λq hq f c=>?_⟩;by_cases e2:q=n;·subst e2;exact zP _
  have:=hbm q hq O c;omega
 refine aZ ⟨b',R,O,hbl,hbf,λq hq f c=>?_⟩;by_cases e2:q=n;·subst e2;omega
 exact hbm q hq O c
theorem Lt:∀(k:N)(bd:Uy)(n c_:N)(a:Wy)(b0 a8:N)(w:Ub)(_:Q (gj w b0 a8 bd a))(_:Q (n=J a))(_:Q (b9 a))(_:n<=64)(_:k<=128)(_:a8<=Z w.1),
 Sk prog 158 #[X bd n c_,H k] w λe g=>∃ab,e=Rt ab/\ab≠Hq/\Sw (Z w.1) w g/\Sx g (Z w.1) 62 5 ab (J (ax k a)) (ZP<|ax k a):=by
 intro k
 induction k with
 |zero=>
  intro bd n c_ a b0 a8 w ha J_ bo hn hk hB;by_cases bn:n=0
  .subst bn
   go_in
   go_wp2;go_ret;exact⟨_,R,sP,Xb Rf _,m7 w⟩
  have cn:¬((n:I)=0):=O
  go_in
  go_wp2;go_ret;exact⟨_,R,sP,Xb Rf _,m7 w⟩
 |succ k ih=>
  intro bd n c_ a b0 a8 w ha J_ bo hn hk hB;by_cases bn:n=0
  .have cs:a=[]:=iE<|oN J_.o;subst cs bn
   go_in
   go_wp2;go_ret;exact⟨_,R,sP,Xb Rf _,by rw[py];exact m7 w⟩
  have cn:¬((n:I)=0):=O;have c6:((n:I)==0)=Sn:=by simpa using cn
  have cz:((k:I)+1==0)=Sn:=SB
  have cm:a≠[]:=λe=>by subst e;exact bn J_
  have M_:=Y<|px k cm;have a0:=Y bo.step;have IH:=Y ih;clear ih cm
  go_in
  go_wp2
  go_loopw [5,6,7] (λub ul ui wr=>∃(j:N)(be:I)(p:N),j<=n/\ui=H j/\ub=H be/\ul=H p/\Q (Sw (Z w.1) w wr)/\Q (nU a j be p)) λ_ _ ui _=>n-(JB ui).toNat
  .exact⟨0,-1,0,aN,R,R,R,Y<|Rf,Y ⟨⟨oN J_.o,λq _ _ hq=>Sz hq O⟩,bC ⟨R,λq _ hq=>Sz hq O⟩⟩⟩
  obtain⟨j,be,p,Z_,rfl,rfl,rfl,i,P⟩:=hrel;by_cases bm:j<n
  .have bi:j<J a:=oN J_.o;obtain⟨bl,-⟩:=P.1;have cl:p<n:=oN J_.o
   obtain⟨B,L,rfl,ce,ap,-⟩:=ha j bi;have aq:∀q,q<n->∃hq:q<J a,∀W,Sw (Z w.1) w W->E W (A B<|L+q*2)=S (H a[q].1):=λq hq=>by have a6:q<J a:=oN J_.o;obtain⟨b',o',e,_,h1,_⟩:=ha q a6;cases e;exact⟨a6,λW k=>oB k h1 O⟩
   obtain⟨_,ej⟩:=aq j bm;obtain⟨_,el⟩:=aq p cl;have e0:=ej wr i;have e1:=el wr i;have ca:Q (∀W,Sw (Z w.1) w W->Sk prog 190 #[Hm B L n c_,H j,H a[j].1] W λe g=>e=Rt (Sb (an a a[j].1))/\g=W):=Y (λW k=>JR c_ a[j].1 (Y<|ha.keep (k.mono hB)) J_ O bm (Y λq hq e=>by subst e;exact bo.4 _<|aH hq));clear ap;obtain⟨rfl,-⟩|⟨f,rfl,hbbj,hbbl,-⟩:=P.2
   .have af:Q (∀(o:I)(R_:N),((a[j].1<a[p].1/\R_=j)\/(¬a[j].1<a[p].1/\R_=p))->((an a a[j].1=So/\o=-1)\/(an a a[j].1=Sn/\o=j))->nU a (j+1) o R_):=Y (λo R_ h1 h2=>P.next bi (λ_=>h1) (by
     obtain N_|⟨N_,h'⟩:=h2;·exact bC N_
     exact aZ ⟨N_,bC ⟨R,h'⟩⟩))
    clear aq ej el P;generalize a[j].1=S_ at*;generalize a[p].1=tl at*;by_cases hl:S_<tl;have T:=Y λo=>af o j<|bC ⟨hl,R⟩;rotate_left;have T:=Y λo=>af o p<|aZ ⟨hl,R⟩;rotate_left
    all_goals (
     clear af;go_wp2;go_region;go_wp2;refine Y7 (λg=>E g (A B<|L+j*2)=S (H S_)) λig=>?_;refine Xn 0 ?_;(iterate 6 refine Rm ?_);refine Xs 7 λK hK=>?_;go_simp
     go_at_call 190
     refine YU (ca _ i.drew.drew) ?_;rintro w2 rfl;refine hK _ _ kP λig=>?_;clear hK;cases hr:an a S_ with
     |true=>
      have L_:=Y<|T.o (-1) (bC ⟨hr,R⟩);clear hr;refine Xn 8 ?_;refine Xn 9 ?_;refine KH 10 ?_;refine KH 11 ?_;refine KH 12 ?_;refine KH 13 ?_;refine KH 14 ?_;refine KH 15 ?_;refine KH 16 ?_;refine KH 17 ?_;refine KH 18 ?_;refine KH 19 ?_;refine KH 20 ?_;refine KH 21 ?_;refine KH 22 ?_;refine KH 23 ?_;refine KH 24 ?_;refine Xn 25 ?_;refine Yq ?_;go_wp2;refine⟨?_,?_⟩;rotate_left;·simp[JB];omega
      (repeat apply gP)
      refine⟨?_,R⟩;exact⟨j+1,(-1),_,O,gM,R,R,Y i.drew.drew,L_⟩
     |false=>
      have L_:=Y<|T.o j (aZ ⟨hr,R⟩);clear hr;refine Xn 8 ?_;(iterate 4 refine Rm ?_);refine KH 13 ?_;refine KH 14 ?_;refine KH 15 ?_;refine KH 16 ?_;refine KH 17 ?_;refine KH 18 ?_;refine KH 19 ?_;refine KH 20 ?_;refine KH 21 ?_;refine KH 22 ?_;refine KH 23 ?_;refine Xn 24 ?_;refine Xn 25 ?_;refine Yq ?_;go_wp2;refine⟨?_,?_⟩;rotate_left;·simp[JB];omega
      (repeat apply gP)
      refine⟨?_,R⟩;exact⟨j+1,j,_,O,gM,R,R,Y i.drew.drew,L_⟩)
   have af:Q (∀(o:I)(R_:N),((a[j].1<a[p].1/\R_=j)\/(¬a[j].1<a[p].1/\R_=p))->((an a a[j].1=So/\o=f)\/(an a a[j].1=Sn/\((a[j].1<a[f].1/\o=j)\/(¬a[j].1<a[f].1/\o=f))))->nU a (j+1) o R_):=Y (λo R_ h1 h2=>P.next bi (λ_=>h1) (by
    obtain N_|⟨N_,h'⟩:=h2;·exact bC N_
    exact aZ ⟨N_,aZ ⟨f,R,λ_=>h'⟩⟩))
   obtain⟨_,eb⟩:=aq f O;have e2:=eb wr i;have cf:f<n:=O;clear aq ej el eb P;generalize a[j].1=S_ at*;generalize a[p].1=tl at*;generalize a[f].1=tb at*;by_cases hl:S_<tl;have T:=Y λo=>af o j<|bC ⟨hl,R⟩;rotate_left;have T:=Y λo=>af o p<|aZ ⟨hl,R⟩;rotate_left
   all_goals (
    clear af;go_wp2;go_region;go_wp2;refine Y7 (λg=>E g (A B<|L+j*2)=S (H S_)/\E g (A B<|L+f*2)=S (H tb)) λig=>?_;refine Xn 0 ?_;(iterate 6 refine Rm ?_);refine Xs 7 λK hK=>?_;go_simp
    go_at_call 190
    refine YU (ca _ i.drew.drew) ?_;rintro w2 rfl;refine hK _ _ kP λig=>?_;clear hK;cases hr:an a S_ with
    |true=>
     have L_:=Y<|T.o f (bC ⟨hr,R⟩);clear hr;refine Xn 8 ?_;refine Xn 9 ?_;refine KH 10 ?_;refine KH 11 ?_;refine KH 12 ?_;refine KH 13 ?_;refine KH 14 ?_;refine KH 15 ?_;refine KH 16 ?_;refine KH 17 ?_;refine KH 18 ?_;refine KH 19 ?_;refine KH 20 ?_;refine KH 21 ?_;refine KH 22 ?_;refine KH 23 ?_;refine KH 24 ?_;refine Xn 25 ?_;refine Yq ?_;go_wp2;refine⟨?_,?_⟩;rotate_left;·simp[JB];omega
     (repeat apply gP)
     refine⟨?_,R⟩;exact⟨j+1,f,_,O,gM,R,R,Y i.drew.drew,L_⟩
    |false=>
     by_cases hs:S_<tb
     .have L_:=Y<|T.o j (aZ ⟨hr,bC ⟨hs,R⟩⟩);clear hr;refine Xn 8 ?_;(iterate 17 refine Rm ?_);refine Yq ?_;go_wp2;refine⟨?_,?_⟩;rotate_left;·simp[JB];omega
      (repeat apply gP)
      refine⟨?_,R⟩;exact⟨j+1,j,_,O,gM,R,R,Y i.drew.drew,L_⟩
     replace hs:tb<=S_:=O;have L_:=Y<|T.o f (aZ ⟨hr,aZ ⟨O,R⟩⟩);clear hr;refine Xn 8 ?_;(iterate 17 refine Rm ?_);refine Yq ?_;go_wp2;refine⟨?_,?_⟩;rotate_left;·simp[JB];omega
     (repeat apply gP)
     refine⟨?_,R⟩;exact⟨j+1,f,_,O,gM,R,R,Y i.drew.drew,L_⟩)
  have cx:j=n:=O;have bi:j=J a:=oN J_.o;have ct:=i.4;obtain⟨rfl,hall⟩|⟨f,rfl,hbbj,hbbl,hbf,hbm⟩:=P.2
  .have bl:=P.1.1
   have cl:p<n:=O;have a1:=Y (LJ bl (λq hq=>hall q hq O) λq hq=>P.1.2 q hq bl O);obtain⟨B,L,rfl,ce,ap,-⟩:=ha p bl;have e0:=G (XU i O) ap;rw[a1.o]at M_ a0;clear hall P ap a1;generalize a[p].1=r at*;have cp:(k:I)+1-1=k:=O;have bc:Q (S6.wrap k=k):=Y (by simp[IntKind.wrap,IntKind.signed,IntKind.bits];omega);have aq:Q (∀q,q<n->∃hq:q<J a,∀W,Sw (Z wr.1) wr W->E W (A B<|L+q*2)=S (H a[q].1)/\E W (A B<|L+q*2+1)=S (H a[q].2)):=Y (λq hq=>by have a6:q<J a:=O;obtain⟨b',o',e,_,h1,h2⟩:=ha q a6;cases e;exact⟨a6,λW k=>⟨oB k (G (XU i O) h1) O,oB k (G (XU i O) h2) O⟩⟩)
   generalize wr=wo at*;go_wp2;clear e0
   go_loopw [9,10] (λab u wr=>∃q:N,q<=n/\u=H q/\Q (Sw (Z wo.1) wo wr)/\Q (Sx wr (Z wo.1) 176 2 ab (J (scratch (a.take q) r)) (Ng<|scratch (a.take q) r))) λ_ u _=>n-(JB u).toNat
   .exact⟨0,aN,R,Y<|Xb Rf _,Y<|by rw[lK];exact sJ wo⟩
   obtain⟨q,hq,rfl,ac,U_⟩:=hrel;have c8:=ac.4;by_cases bm:q<n
   .obtain⟨cq,hc⟩:=aq q bm
    obtain⟨e0,e1⟩:=hc wr ac;have HT:Q (scratch (a.take<|q+1) r=scratch (a.take q) r++[if a[q].2=r then ⟨a[q].1,-1⟩else a[q]]):=Y (by rw[bN cq];exact bG)
    have HL:Q (J (scratch (a.take q) r)<=64):=Y (by simp[scratch];omega);clear hc;generalize hm:a[q]=b7 at*;obtain⟨t,x⟩:=b7;dsimp only at*;clear hm;generalize scratch (a.take q) r=d at*;by_cases Y_:x=r
    .rw[aU Y_]at HT;subst Y_;go_wp2_with (at_builtin;refine YC RA U_ ?_ (oN HL.o))
     intro v1 w1 a5 a2 b6 b4;have bx:Q (Sx w1 (Z wo.1) 176 2 v1 (J (scratch (a.take<|q+1) x)) (Ng<|scratch (a.take<|q+1) x)):=Y (by rw[HT.o,nf,aQ];exact a5)
     have bt:=Y (Xy ((ac).alloc O _) a2 (U_.alloc _) aA SB);clear a5 a2 b6 b4 U_ ac;go_wp2;exact⟨⟨q+1,O,gM,bt,bx⟩,SA⟩
    rw[aM Y_]at HT;have cv:(x==r)=Sn:=by simpa using Y_
    clear Y_;go_wp2_with (at_builtin;refine YC RA U_ ?_ (oN HL.o))
    intro v1 w1 a5 a2 b6 b4;have bx:Q (Sx w1 (Z wo.1) 176 2 v1 (J (scratch (a.take<|q+1) r)) (Ng<|scratch (a.take<|q+1) r)):=Y (by rw[HT.o,nf,aQ];exact a5)
    have bt:=Y (Xy ((ac).alloc O _) a2 (U_.alloc _) aA SB);clear a5 a2 b6 b4 U_ ac;go_wp2;exact⟨⟨q+1,O,gM,bt,bx⟩,SA⟩
   have c7:q=n:=O;have b8:=Y (by have:=U_.o;rwa[aW O]at this);have a7:J (scratch a r)<=64:=by simp[scratch];omega
   clear U_;generalize scratch a r=d at*;obtain⟨a4,k4,cr,-,ck,aa⟩:=m9 b8;have az:=Y aa;subst cr;clear aa;have co:=oC k d;go_wp2_with fail
   have F:=IH a4 (J d) k4 d _ _ (D wr<|Sc #[H 12,H 0,H r,H 0,H 0] 62) (Y<|az.keepS λq _ q2=>gF _ _ _ q2) (Y R) a0 a7 O sP
   with_reducible refine F.mono ?_
   clear F;rintro e w7⟨v7,rfl,ar,l,z⟩;obtain⟨X_,k7,rfl,bf,b5⟩:=pR z ar;have s7:=l.4;simp at s7;have al:=Y z;have cb:Q (Sx w7 (Z w.1) 62 5 (Hl (Z wr.1) 1 1) 1 (ZP [⟨12,0,r,0,0⟩])):=Y<|Zk (pj (pU wr 12 0 r 0 0) (l.5 _ sP)) O;have b:=Y<|Xg (Xg i ac |>.alloc O _) l;clear z l;go_wp2_with (at_builtin;refine YB RB cb (λj u Z_=>by rw[ja];exact Jj al Z_) (l7 _) ?_ (hl:=iR _))
   intro v8 w8 V C H_ _;have ao:=Y V;have ad:=Y<|Xy b C cb aA O;have aj:Q (v8≠Hq):=Y H_;clear V C H_;go_wp2;go_ret;refine⟨_,R,aj,ad,?_⟩;rw[M_.o,show(⟨12,0,r,0,0⟩:Yg)::ax k d=[⟨12,0,r,0,0⟩]++ax k d from R,j7,aQ];exact ao
  have cf:f<n:=O;have a1:=Y (LN bo hbbl hbf λq hq N_=>hbm q hq O N_);rw[a1.o]at M_ a0;obtain⟨B,L,rfl,ce,ap,cd⟩:=ha f hbbl;have e0:=G (XU i O) ap;have e1:=G (XU i O) cd;have cw:¬((f:I)<0):=O;clear hbf hbm P ap cd a1;generalize hm:a[f]=b7 at*;obtain⟨t,x⟩:=b7;dsimp only at*;clear hm;have cc:Q (∀W,Sw (Z w.1) w W->Sk prog 191 #[Hm B L n c_,H f] W λe g=>∃ab,e=Rt ab/\Sw (Z W.1) W g/\Sx g (Z W.1) 176 2 ab (J (a.eraseIdx f)) (Ng<|a.eraseIdx f)):=Y λW k=>IY c_ (Y<|ha.keep (k.mono hB)) J_ hn cf (oN k.4);have a7:J (a.eraseIdx f)<=64:=aJ (List.length_eraseIdx_le _ _) O;generalize a.eraseIdx f=d at*;have co:=oC k d;have bc:Q (S6.wrap k=k):=Y (by simp[IntKind.wrap,IntKind.signed,IntKind.bits];omega);have cp:(k:I)+1-1=k:=O;by_cases Y_:x<0;have HX:Q (N3 ⟨t,x⟩=⟨13,t,0,0,0⟩):=Y<|aU Y_;rw[HX.o]at M_;go_wp2
  focus go_region_held3 (λg=>E g (A B<|L+f*2)=S (H t)/\E g (A B<|L+f*2+1)=S (H x)) (go_keep) (fail)
  go_wp2;clear e0 e1;have b3:(λc:Ub=>Sw (Z w.1) w c/\Z c.1=Z wr.1+1/\E c (A (Z wr.1) 0)=S (H 13)/\E c (A (Z wr.1) 1)=S (H t)/\E c (A (Z wr.1) 2)=S (H 0)/\E c (A (Z wr.1) 3)=S (H 0)/\E c (A (Z wr.1) 4)=S (H 0)) ((D wr<|Sc #[H 13,H t,H 0,H 0,H 0] 62).drew):=⟨((i.alloc O _).drew),aO _ _,SC,SC,SC,SC,SC⟩;generalize (D wr<|Sc #[H 13,H t,H 0,H 0,H 0] 62).drew=M at*;obtain⟨b1,z0,c0,c1,c2,c3,c4⟩:=b3;obtain⟨u,y,ba,P_,Q_⟩:∃u y:I,Q (ax (k+1) a=⟨u,t,y,0,0⟩ :: ax k d)/\E M (A (Z wr.1) 0)=S (H u)/\E M (A (Z wr.1) 2)=S (H y):=⟨_,_,M_,c0,c2⟩;clear c0 c2;rotate_left;have HX:Q (N3 ⟨t,x⟩=⟨11,t,x,0,0⟩):=Y<|aM (Int.not_lt.2 Y_);rw[HX.o]at M_;go_wp2
  focus go_region_held3 (λg=>E g (A B<|L+f*2)=S (H t)/\E g (A B<|L+f*2+1)=S (H x)) (go_keep) (fail)
  go_wp2;clear e0 e1;have b3:(λc:Ub=>Sw (Z w.1) w c/\Z c.1=Z wr.1+1/\E c (A (Z wr.1) 0)=S (H 11)/\E c (A (Z wr.1) 1)=S (H t)/\E c (A (Z wr.1) 2)=S (H x)/\E c (A (Z wr.1) 3)=S (H 0)/\E c (A (Z wr.1) 4)=S (H 0)) ((D wr<|Sc #[H 11,H t,H x,H 0,H 0] 62).drew):=⟨((i.alloc O _).drew),aO _ _,SC,SC,SC,SC,SC⟩;generalize (D wr<|Sc #[H 11,H t,H x,H 0,H 0] 62).drew=M at*;obtain⟨b1,z0,c0,c1,c2,c3,c4⟩:=b3;obtain⟨u,y,ba,P_,Q_⟩:∃u y:I,Q (ax (k+1) a=⟨u,t,y,0,0⟩ :: ax k d)/\E M (A (Z wr.1) 0)=S (H u)/\E M (A (Z wr.1) 2)=S (H y):=⟨_,_,M_,c0,c2⟩;clear c0 c2;rotate_left
  all_goals (
   have s:=Y b1;clear b1;refine Y7 (λg=>E g (A (Z wr.1) 0)=S (H u)/\E g (A (Z wr.1) 1)=S (H t)/\E g (A (Z wr.1) 2)=S (H y)/\E g (A (Z wr.1) 3)=S (H 0)/\E g (A (Z wr.1) 4)=S (H 0)) λig=>?_;refine Xn 0 ?_;refine Xn 2 ?_;refine Xn 3 ?_;refine Xn 5 ?_;refine Xn 6 ?_;refine eS (rs:=[1,4]) vZ sP ?_;refine(bQ R (λK hK=>?_) (bQ R (λK hK=>?_) dY))
   .skip
    go_simp;refine hK _ _ kP λig=>?_;clear hK
    refine Xs 4 λK hK=>?_;go_simp;have K0:=(((dC (Z M.1) M).drew).alloc aA (Sc #[H u,H t,H y,H 0,H 0] 62));refine(cc _<|Xg s K0).mono ?_;rintro e w4⟨v4,rfl,O_,a3⟩;obtain⟨a4,k4,rfl,-,ck,aa⟩:=m9 a3;have s4:=O_.4;have v:=Xg K0 O_;have d0:=G (XU v O) P_;have d1:=G (XU v O) c1;have d2:=G (XU v O) Q_;have d3:=G (XU v O) c3;have d4:=G (XU v O) c4;have az:=Y aa;have m:=Y v;have bv:=Y O_;clear aa a3 O_ K0 v;refine hK _ _ kP λig=>?_;clear hK;refine Xs 7 λK hK=>?_;go_simp;have V_:=m.o;have F:=IH a4 (J d) k4 d _ _ _ (Y<|az.o) (Y R) a0 a7 O aA;rw[bc.o]
    with_reducible refine F.mono ?_
    clear F;rintro e w7⟨v7,rfl,ar,l,z⟩;obtain⟨X_,k7,rfl,bf,b5⟩:=pR z ar;have s7:=l.4;have K7:=Xg V_ l;have f0:=G (XU K7 O) P_;have f1:=G (XU K7 O) c1;have f2:=G (XU K7 O) Q_;have f3:=G (XU K7 O) c3;have f4:=G (XU K7 O) c4;have al:=Y z;have b:=Y K7;have a9:=Y l;clear z l V_ K7;refine hK _ _ kP λig=>?_;clear hK;refine Xs 8 λK hK=>?_;refine YD (base:=Z w.1) (v:=Hl (Z M.1) 1 1) RB (Zk (pj (pU M.drew u t y 0 0) (a9.5 _ (by have:=bv.4;simp at this;show Z M.1<_;omega) |>.trans (bv.5 _ sP))) (by have:=s.4;show Z w.1<=Z M.1;omega)) (λj u Z_=>by rw[ja];exact Jj al Z_) (l7 _) ?_ (hl:=iR _) (hs:=by have:=s.4;have:=m.4;have:=b.4;(try simp);omega);rintro v8 w8 V C H_ -;have K8:=(Xg s<|b).grown C (by have:=s.4;have:=m.4;have:=b.4;(try simp);omega) (λq hq=>by cases hq;have:=s.4;have:=m.4;have:=b.4;(try dsimp only);omega);have h:=(C.5 (Z wr.1) (by(try simp);have:=b.4;omega) λe=>by injection e with e;have:=m.4;have:=b.4;simp at e;omega);have p0:=G (Xc h) (oB (b) P_ O);have p1:=G (Xc h) (oB (b) c1 O);have p2:=G (Xc h) (oB (b) Q_ O);have p3:=G (Xc h) (oB (b) c3 O);have p4:=G (Xc h) (oB (b) c4 O);have ad:=Y K8;have ao:=Y V;have aj:Q (v8≠Hq):=Y (λe=>by have:=(H_.1 e).1;cases this);clear V C H_ K8 h;refine hK _ _ kP λig=>?_;clear hK;refine Xs 9 λK hK=>?_;go_simp;refine hK _ _ kP λig=>?_;clear hK;refine Yq ?_;go_wp2;go_ret;refine⟨_,R,aj,ad,?_⟩;rw[ba.o,show(⟨u,t,y,0,0⟩:Yg)::ax k d=[⟨u,t,y,0,0⟩]++ax k d from R,j7,aQ];exact ao
   go_simp;have K0:=((dC (Z M.1) M).drew);refine(cc _<|Xg s K0).mono ?_;rintro e w4⟨v4,rfl,O_,a3⟩;obtain⟨a4,k4,rfl,-,ck,aa⟩:=m9 a3;have s4:=O_.4;have v:=Xg K0 O_;have d0:=G (XU v O) P_;have d1:=G (XU v O) c1;have d2:=G (XU v O) Q_;have d3:=G (XU v O) c3;have d4:=G (XU v O) c4;have az:=Y aa;have m:=Y v;have bv:=Y O_;clear aa a3 O_ K0 v;refine hK _ _ kP λig=>?_;clear hK
   refine eS (rs:=[1,7]) vZ sP ?_;refine(bQ R (λK hK=>?_) (bQ R (λK hK=>?_) dY))
   .skip
    go_simp;refine hK _ _ kP λig=>?_;clear hK
    refine Xs 7 λK hK=>?_;go_simp;have V_:=(m.alloc m.4<|Sc #[H u,H t,H y,H 0,H 0] 62);have F:=IH a4 (J d) k4 d _ _ _ (Y<|az.keepS (w':=D w4<|Sc #[H u,H t,H y,H 0,H 0] 62) λq _ q2=>gF _ _ _ q2) (Y R) a0 a7 O sP;rw[bc.o]
    with_reducible refine F.mono ?_
    clear F;rintro e w7⟨v7,rfl,ar,l,z⟩;obtain⟨X_,k7,rfl,bf,b5⟩:=pR z ar;have s7:=l.4;have K7:=Xg V_ l;have f0:=G (XU K7 O) P_;have f1:=G (XU K7 O) c1;have f2:=G (XU K7 O) Q_;have f3:=G (XU K7 O) c3;have f4:=G (XU K7 O) c4;have al:=Y z;have b:=Y K7;have a9:=Y l;clear z l V_ K7;refine hK _ _ kP λig=>?_;clear hK;refine Xs 8 λK hK=>?_;refine YD (base:=Z w.1) (v:=Hl (Z w4.1) 1 1) RB (Zk (pj (pU w4 u t y 0 0) (a9.5 _ sP)) (oP s.4 m.4)) (λj u Z_=>by rw[ja];exact Jj al Z_) (l7 _) ?_ (hl:=iR _) (hs:=by have:=s.4;have:=m.4;have:=b.4;(try simp);omega);rintro v8 w8 V C H_ -;have K8:=(Xg s<|b).grown C (by have:=s.4;have:=m.4;have:=b.4;(try simp);omega) (λq hq=>by cases hq;have:=s.4;have:=m.4;have:=b.4;(try dsimp only);omega);have h:=(C.5 (Z wr.1) (by(try simp);have:=b.4;omega) λe=>by injection e with e;have:=m.4;have:=b.4;simp at e;omega);have p0:=G (Xc h) (oB (b) P_ O);have p1:=G (Xc h) (oB (b) c1 O);have p2:=G (Xc h) (oB (b) Q_ O);have p3:=G (Xc h) (oB (b) c3 O);have p4:=G (Xc h) (oB (b) c4 O);have ad:=Y K8;have ao:=Y V;have aj:Q (v8≠Hq):=Y (λe=>by have:=(H_.1 e).1;cases this);clear V C H_ K8 h;refine hK _ _ kP λig=>?_;clear hK;refine Xs 9 λK hK=>?_;go_simp;refine hK _ _ kP λig=>?_;clear hK;refine Yq ?_;go_wp2;go_ret;refine⟨_,R,aj,ad,?_⟩;rw[ba.o,show(⟨u,t,y,0,0⟩:Yg)::ax k d=[⟨u,t,y,0,0⟩]++ax k d from R,j7,aQ];exact ao
   go_simp;have V_:=m.o;have F:=IH a4 (J d) k4 d _ _ _ (Y<|az.o) (Y R) a0 a7 O aA;rw[bc.o]
   with_reducible refine F.mono ?_
   clear F;rintro e w7⟨v7,rfl,ar,l,z⟩;obtain⟨X_,k7,rfl,bf,b5⟩:=pR z ar;have s7:=l.4;have K7:=Xg V_ l;have f0:=G (XU K7 O) P_;have f1:=G (XU K7 O) c1;have f2:=G (XU K7 O) Q_;have f3:=G (XU K7 O) c3;have f4:=G (XU K7 O) c4;have al:=Y z;have b:=Y K7;have a9:=Y l;clear z l V_ K7;refine hK _ _ kP λig=>?_;clear hK
   refine Xs 1 λK hK=>?_;go_simp;refine hK _ _ kP λig=>?_;clear hK;refine Xs 8 λK hK=>?_;refine YD (base:=Z w.1) (v:=Hl (Z w7.1) 1 1) RB (Zk (pU w7 u t y 0 0) (oP s.4 b.4)) (λj u Z_=>by rw[ja,bP _ _ _<|by show X_<_;exact bf.2];exact Jj al Z_) (l7 _) ?_ (hl:=iR _) (hs:=by have:=s.4;have:=m.4;have:=b.4;(try simp);omega);rintro v8 w8 V C H_ -;have K8:=(Xg s<|b.alloc b.4 (Sc #[H u,H t,H y,H 0,H 0] 62)).grown C (by have:=s.4;have:=m.4;have:=b.4;(try simp);omega) (λq hq=>by cases hq;have:=s.4;have:=m.4;have:=b.4;(try dsimp only);omega);have h:=(C.5 (Z wr.1) (by(try simp);have:=b.4;omega) λe=>by injection e with e;have:=m.4;have:=b.4;simp at e;omega);have p0:=G (Xc h) (oB (b.alloc b.4<|Sc #[H u,H t,H y,H 0,H 0] 62) P_ O);have p1:=G (Xc h) (oB (b.alloc b.4<|Sc #[H u,H t,H y,H 0,H 0] 62) c1 O);have p2:=G (Xc h) (oB (b.alloc b.4<|Sc #[H u,H t,H y,H 0,H 0] 62) Q_ O);have p3:=G (Xc h) (oB (b.alloc b.4<|Sc #[H u,H t,H y,H 0,H 0] 62) c3 O);have p4:=G (Xc h) (oB (b.alloc b.4<|Sc #[H u,H t,H y,H 0,H 0] 62) c4 O);have ad:=Y K8;have ao:=Y V;have aj:Q (v8≠Hq):=Y (λe=>by have:=(H_.1 e).1;cases this);clear V C H_ K8 h;refine hK _ _ kP λig=>?_;clear hK;refine Xs 9 λK hK=>?_;go_simp;refine hK _ _ kP λig=>?_;clear hK;refine Yq ?_;go_wp2;go_ret
   refine⟨_,R,aj,ad,?_⟩;rw[ba.o,show(⟨u,t,y,0,0⟩:Yg)::ax k d=[⟨u,t,y,0,0⟩]++ax k d from R,j7,aQ];exact ao)
end
