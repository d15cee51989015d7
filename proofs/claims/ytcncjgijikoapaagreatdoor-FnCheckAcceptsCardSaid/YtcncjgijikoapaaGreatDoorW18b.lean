import Derived.Test.YtcncjgijikoapaaGreatDoorW17
namespace Go.Proofs.YtcncjgijikoapaaGreatDoor
set_option maxHeartbeats 8000000
set_option maxRecDepth 100000
open _root_ renaming Array.size->Z,List.length->J,Nat->N,Int->I,rfl->R,Option.some->S,Bool.true->So,Bool.false->Sn,absurd->Sz,List.range->Rg,Decidable.decide->Jd
open Go renaming World.cell?->E,World.alloc->D,Obj.cells->Sc,Ending.returned->Rt,RowKit.Below->Sw,Calls->Sk,RowKit.intOf->JB
open Value renaming slice->X,bool->Sb,agg->Sa
open Go.RowKit Go.Proofs.Tryz
variable{r:Bool}{n m k B c:N}{w:Ub}{p:Uy}{x:Wi}
section
attribute [local go_sem ↓] Go.wp_at_zero Go.wp_at_succ
theorem At(ha:Q (Xp w k B p x))(y:Q (m=J x))(hs:Q (J x+Xx x<=1048576))(hB:B<=Z w.1)(d1:(n:I)<=2000)(d2:1<=m)(d3:m<=1000)(cs:Xo x<=4000)(o:Q (r=(x.all (KV n m)&&Ug ⟨n,x⟩&&Ui ⟨n,x⟩))):
 Sk prog 43 #[Sa #[H n,X p m c]] w λg w'=>g=Rt (Sb r)/\Sw (Z w.1) w w':=by
 have b8:Q (Xo x<=1048576):=by show _<=_;omega
 have bi:=Y<|ti hs
 go_in
 go_wp2_with fail
 refine(tB k B ?q1 y O b8 ?q2).mono ?_
 case q1=>exact ha.keep (Xb Rf _ |>.mono hB)
 case q2=>simp;omega
 rintro g L⟨rfl,aj⟩;let⟨a3,cb⟩:=NC aj;have s:E L (A (Z w.1) 0)=S (H n):=by rw[a3 _ _ sP];simp
 have T:E L (A (Z w.1) 1)=S (X p m c):=by rw[a3 _ _ sP];simp
 have B1:=Xg (Xb (dC (Z w.1) w) _) aj;have ch:=aj.4;simp at ch;have l:=Y B1;have HA:=Y<|ha.keep (B1.mono hB);clear a3 cb aj B1 ha;go_wp2
 go_loopw [4] (λi wr=>∃a:N,a<=m/\i=H a/\Sw (Z L.1) L wr/\Q ((x.take a).all (KV n m)=So)) λi _=>m-(JB i).toNat
 .exact⟨0,aN,R,Rf,R⟩
 obtain⟨a,hk,rfl,d,V⟩:=hrel;by_cases bl:a<m
 .have v:a<J x:=oN y.o;obtain⟨bt,ci,rfl,⟨_,b6⟩,hc⟩:=HA a v;let⟨a7,a8,ia,ic,N_,f1,⟨f2,f3,f4,f5⟩,_,V_⟩:=hc;have e0:=G (XU d O) N_;have e1:=G (XU d O) f1;have e2:=G (XU d O) f2;have e3:=G (XU d O) f3;have e4:=G (XU d O) f4;have e5:=G (XU d O) f5;have ao:=G (XU d O) s;have ap:=G (XU d O) T;have ck:=(bi _<|aH v).2.1;have Y_:=Y λh=>JN (p:=KV n m) (xs:=x) (k:=a) v h;have a5:=Y λh=>XY (p:=KV n m) v V h;have HI:=Y V_;have cf:=d.4;clear V_ N_ f1 f2 f3 f4 f5;generalize x[a]=F at*;have af:Q (KV n m F=(F.2.all (Yw n 10)&&(Zu n 1 m ⟨F.3.1,F.3.a,F.3.3,F.3.4⟩&&!(F.3.1==2&&F.3.3==F.3.4)))):=R;go_wp2;have b:=Xb d<|Sc #[X a7 (J F.1) a8,X ia (J F.2) ic,H F.3.1,H F.3.a,H F.3.3,H F.3.4] 52;have a0:(λt:Ub=>E t (A (Z wr.1) 1)=S (X ia (J F.2) ic)/\E t (A (Z wr.1) 2)=S (H F.3.1)/\E t (A (Z wr.1) 3)=S (H F.3.a)/\E t (A (Z wr.1) 4)=S (H F.3.3)/\E t (A (Z wr.1) 5)=S (H F.3.4)/\Z wr.1<Z t.1) (D wr<|Sc #[X a7 (J F.1) a8,X ia (J F.2) ic,H F.3.1,H F.3.a,H F.3.3,H F.3.4] 52):=⟨sP,sP,sP,sP,sP,sP⟩;generalize D wr _=W2 at*;let⟨m1,m2,m3,m4,m5,cv⟩:=a0;have bq:=Y b;have cw:=b.4;generalize Z wr.1=br at*;clear b e0 e1 e2 e3 e4 e5 ao ap d
  go_loopw [6] (λi wi=>∃j:N,j<=J F.2/\i=H j/\Sw (Z W2.1) W2 wi/\Q ((F.2.take j).all (Yw n 10)=So)) λi _=>J F.2-(JB i).toNat
  .exact⟨0,aN,R,Rf,R⟩
  obtain⟨j,W_,rfl,e,S_⟩:=hrel;have K_:=Xg bq e;have r0:=G (XU K_ O) s;have n1:=G (XU e O) m1;have ce:=e.4;by_cases u:j<J F.2
  .obtain⟨b',o',rfl,⟨_,b7⟩,bd⟩:=HI j u;let⟨g0,g1,g2,g3,g4⟩:=bd.keep K_ O;have L_:=Y λh=>JN (p:=Yw n 10) (xs:=F.2) (k:=j) u h;have a6:=Y λh=>XY (p:=Yw n 10) u S_ h;have cl:(0:I)<=j:=O;have cm:(j:I)<J F.2:=O;clear bd m1 m2 m3 m4 m5 s T;generalize F.2[j]=P at*;cases hr:Yw n 10 ⟨P.1,P.2,P.a,P.b,P.5⟩
   .have f:=Y hr;go_wp2
    go_region_with (go_at_call 85;refine YU Ur λM_ b=>?_;rw[Xw f])
    all_goals
     go_wp2;go_ret;exact⟨Xl (by rw[o.o,Xw Y_<|by rw[af.o,Xw L_ f.o];rfl];rfl),Xg l<|Xg K_.drew b⟩
   have f:=Y hr;go_wp2
   go_region_with (go_at_call 85;refine YU Ur λM_ b=>?_;rw[Xw f])
   all_goals
    go_wp2;exact⟨⟨j+1,O,gM,Xg e.drew b,Xw a6 f⟩,SA⟩
  have b4:=Y<|YE (p:=Yw n 10) (xs:=F.2) (k:=j) O S_;have n2:=G (XU e O) m2;have n3:=G (XU e O) m3;have n4:=G (XU e O) m4;have n5:=G (XU e O) m5;clear m1 m2 m3 m4 m5 s T;cases hr:Zu n 1 m ⟨F.3.1,F.3.a,F.3.3,F.3.4⟩
  .have f:=Y hr;clear hr;go_wp2_with (go_at_call 86;refine YU KS λM_ b=>?_;rw[Xw f])
   go_ret;exact⟨Xl (by rw[o.o,Xw Y_<|by rw[af.o,f.o];simp];rfl),Xg l<|Xg K_ b⟩
  have f:=Y hr;clear hr;by_cases hq:F.3.1=2/\F.3.3=F.3.4
  .have q1:(F.3.1==2)=So:=by simp[hq.1]
   have q2:(F.3.3==F.3.4)=So:=by simp[hq.2]
   clear hq;go_wp2_with (go_at_call 86;refine YU KS λM_ b=>?_;rw[Xw f];have p2:=oB b n2 O;have p4:=oB b n4 O;have p5:=G (XU b O) n5)
   go_ret;exact⟨Xl (by rw[o.o,Xw Y_<|by rw[af.o,q1,q2];simp];rfl),Xg l<|Xg K_ b⟩
  have cd:(F.3.1==2)=Sn\/((F.3.1==2)=So/\(F.3.3==F.3.4)=Sn):=by simp only[iS,iA];omega
  clear hq;obtain q1|⟨q1,q2⟩:=cd
  all_goals
   go_wp2_with (go_at_call 86;refine YU KS λM_ b=>?_;rw[Xw f];have p2:=oB b n2 O;have p4:=oB b n4 O;have p5:=G (XU b O) n5)
   exact⟨⟨a+1,O,gM,Xg K_ b,Xw a5 (by rw[af.o,f.o,b4.o];first|(rw[q1];rfl)|(rw[q1,q2];rfl))⟩,SA⟩
 have b3:=Y<|YE (p:=KV n m) (xs:=x) (k:=a) (oN y.o) V;clear V;go_wp2
 go_loopw [7] (λi wr=>∃a:N,a<=m/\i=H a/\Sw (Z L.1) L wr/\Q (∀j (h:j<J x),j<a->x[j].1.all (Jt n (J (AQ x 0 j)))=So)) λi _=>m-(JB i).toNat
 .exact⟨0,aN,R,d,λj _ h=>Sz h O⟩
 clear d bl hk;obtain⟨a,hk,rfl,d,V⟩:=hrel;have ao:=G (XU d O) s;have ap:=G (XU d O) T;have cf:=d.4;by_cases bl:a<m
 .have v:a<J x:=oN y.o;obtain⟨bt,ci,rfl,⟨_,b6⟩,hc⟩:=HA a v;let⟨a7,a8,ia,ic,N_,_,_,Z_,_⟩:=hc;let⟨co,_,bh⟩:=bi _<|aH v;have bp:=Y bh;have Y_:Q (x[a].1.all (Jt n (J (AQ x 0 a)))=Sn->Ug ⟨n,x⟩=Sn):=λh=>Wg Jt ⟨n,x⟩ (k:=a) v h
  have a5:Q (x[a].1.all (Jt n (J (AQ x 0 a)))=So->∀j (h:j<J x),j<a+1->x[j].1.all (Jt n (J (AQ x 0 j)))=So) :=
   λh j W_ cn=>if g:j=a then by subst g;exact h else V j W_ O
  have HP:=Y Z_;have D0:=Y N_;have Q_:=Y<|HA.keep (d.mono O);have cp:J (AQ x 0 a)<=1048576:=oP (YO a x 0) y.o;clear Z_ N_ bh;go_wp2_with fail
  refine(ZE n c a Q_ y O O).mono ?_;rintro g M_⟨a2,c2,rfl,b,al⟩;have W:=Xg d b;have ca:=W.4;clear al b d ao ap Q_;generalize x[a]=F at*;generalize AQ x 0 a=C at*;go_wp2
  go_loopw [9] (λi wi=>∃j:N,j<=J F.1/\i=H j/\Sw (Z L.1) L wi/\Q ((F.1.take j).all (Jt n (J C))=So)) λi _=>J F.1-(JB i).toNat
  .exact⟨0,aN,R,W,R⟩
  clear W ca;obtain⟨j,W_,rfl,e,S_⟩:=hrel;have x0:=G (XU e O) s;have x1:=G (XU e O) T;have x2:=G (XU e O) D0;have ce:=e.4;by_cases u:j<J F.1;rotate_left
  .go_wp2;exact⟨⟨a+1,O,gM,e,Xw a5<|YE (xs:=F.1) (k:=j) O S_⟩,SA⟩
  obtain⟨b',o',rfl,⟨_,b7⟩,aa,cc,g0,g1,V_⟩:=HP j u;have e6:=G (XU e O) g0;have e7:=G (XU e O) g1;have cj:=bp _<|aH u;have L_:=Y λh=>Xw Y_<|JN (p:=Jt n (J C)) (xs:=F.1) (k:=j) u h;have a6:=Y λh=>XY (p:=Jt n (J C)) u S_ h;have bo:=Y V_;have ct:Z w.1<Z wr.1:=O;clear g0 g1 V_;generalize F.1[j]=P at*;have R_:Q (Jt n (J C) P=(Jd (1<=J P.2)&&Jd (J P.2=J C)&&P.2.all (To 0 n))):=R;by_cases O_:J P.2=0
  .have ba:(J P.2:I)<1:=O;have H0:=Y O_;clear O_;go_wp2;go_ret;exact⟨Xl (by rw[o.o,Xw L_<|by rw[R_.o,H0.o];rfl];simp),Xg l<|Xb e _⟩
  have ba:(1:I)<=J P.2:=O;have H0:=Y O_;clear O_;by_cases F_:J P.2=J C;rotate_left
  .have bb:((J P.2:I) != (J C:I))=So:=by rw[jJ];omega
   have H1:=Y F_;clear F_;go_wp2;go_ret;exact⟨Xl (by rw[o.o,Xw L_<|by rw[R_.o,dJ H1.o];simp];simp),Xg l<|Xb e _⟩
  have bb:((J P.2:I) != (J C:I))=Sn:=by simp[F_]
  have H1:=Y F_;clear F_;go_wp2;have a1:=Xb e<|Sc #[H P.1,X aa (J P.2) cc] 152;have a0:(λt:Ub=>E t (A (Z wr.1) 1)=S (X aa (J P.2) cc)/\Z wr.1<Z t.1) (D wr<|Sc #[H P.1,X aa (J P.2) cc] 152):=⟨sP,sP⟩;generalize D wr _=w9 at*;let⟨z1,z2⟩:=a0;generalize Z wr.1=br at*;have cx:=a1.4;have bn:=Y a1;clear x0 x1 x2 e6 e7 ba bb a1
  go_loopw [11] (λi wi=>∃q:N,q<=J P.2/\i=H q/\Sw (Z w9.1) w9 wi/\Q ((P.2.take q).all (To 0 n)=So)) λi _=>J P.2-(JB i).toNat
  .exact⟨0,aN,R,Rf,R⟩
  obtain⟨q,hq,rfl,a4,T_⟩:=hrel;have y1:=G (XU a4 O) z1;have U_:=Xg bn a4;have y0:=G (XU U_ O) s;by_cases ab:q<J P.2
  .obtain⟨b2,o2,rfl,⟨_,b⟩,be⟩:=bo q ab;have r1:=G (XU U_ O) be;have bm:=Y λh=>JN (p:=To 0 n) (xs:=P.2) (k:=q) ab h;have cg:=Y λh=>XY (p:=To 0 n) ab T_ h;have cq:(0:I)<=q:=O;have cr:(q:I)<J P.2:=O;clear be z1 s T;generalize P.2[q]=M at*;by_cases ar:M<0
   .have bv:Jd (M<0)=So:=by simpa using ar
    go_wp2
    go_quiet (fail)
    go_wp2;go_ret;exact⟨Xl (by rw[o.o,Xw L_<|by rw[R_.o,Xw bm<|by unfold To;rw[dJ (p:=0<=M) O];rfl];simp];simp),Xg l<|iX U_ _⟩
   have bv:Jd (M<0)=Sn:=by simpa using ar
   have bx:0<=M:=O;clear ar;by_cases b0:(n:I)<=M
   .go_wp2
    go_quiet (fail)
    go_wp2;go_ret;exact⟨Xl (by rw[o.o,Xw L_<|by rw[R_.o,Xw bm<|by unfold To;rw[dJ (p:=M<n) O];simp];simp];simp),Xg l<|iX U_ _⟩
   have b1:M<(n:I):=O;clear b0;go_wp2
   go_quiet (fail)
   go_wp2;exact⟨⟨q+1,O,gM,iX a4 _,Xw cg<|by unfold To;rw[eB bx,eB b1];rfl⟩,SA⟩
  go_wp2
  exact⟨⟨j+1,O,gM,U_,Xw a6 (by have F_:=H1.o;have O_:=H0.o;rw[R_.o,eB F_,eB (p:=1<=J P.2) O,YE (xs:=P.2) (k:=q) O T_.o];rfl)⟩,SA⟩
 have b5:Q (Ug ⟨n,x⟩=So):=(Zr Jt ⟨n,x⟩ x 0).2 (λj W_=>by rw[aV];exact V j W_<|oN y.o);have Q_:=Y<|HA.keep (d.mono O);have az:Q (Ui ⟨n,x⟩=(Jd ((J (BX x):I)=n)&&(Rg n).all λad=>Cg (BX x) ad)):=R;have bf:J (BX x)<=1048576:=oP (KP x) hs.o;clear V;go_wp2_with fail
 refine(BU Q_ y O (show Xx x<=1048576 by have:=hs.o;omega) O).mono ?_;rintro g M_⟨a2,c2,rfl,b,al⟩;have W:=Xg d b;have y0:=G (XU W O) s;have a9:=Y al;have aq:=Y W;clear al b d ao ap Q_ W s T;generalize BX x=K at*;by_cases J_:(J K:I)=n;rotate_left
 .have bc:((J K:I) != (n:I))=So:=by rw[jJ];exact J_
  have HD:=Y J_;clear J_;go_wp2;go_ret;exact⟨Xl (by rw[o.o,az.o,dJ HD.o];simp),Xg l aq⟩
 have bc:((J K:I) != (n:I))=Sn:=by simp[J_]
 have HD:=Y J_;clear J_;go_wp2;clear bc
 go_loop [13] (λi=>∃q:N,q<=n/\i=H q/\Q (∀z:N,z<q->Cg K z=So)) λi=>n-(JB i).toNat
 .exact⟨0,aN,R,λz h=>Sz h O⟩
 obtain⟨q,hq,rfl,T_⟩:=hrel;by_cases ab:q<n
 .cases hr:Cg K (q:I)
  .have f:=Y hr;go_wp2_with (go_at_call 88;refine YU (YF _ _ _ K _ _ _ a9 R bf) λw3 ac=>?_;rw[ac];clear ac w3)
   go_ret
   exact⟨Xl (by
    have hf:((Rg n).all λad=>Cg K ad)=Sn:=by rw[lZ];exact⟨q,by simpa using ab,by simp[f.o]⟩
    rw[o.o,az.o,hf];simp),Xg l aq⟩
  have f:=Y hr;go_wp2_with (go_at_call 88;refine YU (YF _ _ _ K _ _ _ a9 R bf) λw3 ac=>?_;rw[ac];clear ac w3)
  go_round
  .exact⟨q+1,O,gM,λz Z_=>if g:z=q then by subst g;exact f else T_ z O⟩
  simp[JB];omega
 go_wp2;go_ret
 exact⟨Xl (by
  have hf:((Rg n).all λad=>Cg K ad)=So:=by rw[dV];intro z Z_;exact T_ z<|by simp at Z_;omega
  rw[o.o,az.o,hf,b3.o,b5.o,eB HD.o];rfl),Xg l aq⟩
theorem Tr(v f n c a L B w)(ha:Q (Xp w L B f a))(e:Q (n=J a))(d:Q (J a+Xx a<=1048576))(h:B<=Z w.1):
 Sk prog 43 #[Sa #[H v,X f n c]] w λk o=>k=Rt (Sb (iu ⟨v,a⟩))/\Sw (Z w.1) w o:=by
 have i:iu ⟨v,a⟩=(Y6 ⟨v,a⟩&&a.all (KV v (J a))&&Ug ⟨v,a⟩&&Ui ⟨v,a⟩):=by unfold iu;rw[EI]
 have m:=e.o;have l:Xo a<=1048576:=by rw[V7];exact d
 have q:=d.o;by_cases j:0<=v/\v<=2000/\1<=n/\n<=1000/\Xo a<=4000
 .let⟨g,d1,d2,d3,d4⟩:=j;have b:Y6 ⟨v,a⟩=So:=tG g d1 (by show 1<=J a;omega) (by show J a<=1000;omega) d4;obtain⟨r,rfl⟩:=bX g;rw[i,b];exact At ha e d h d1 d2 d3 d4<|by show _=_;rw[<-m];rfl
 have b:Y6 ⟨v,a⟩=Sn:=by
  by_cases p:Xo a<=4000;·exact Wt (F:=⟨v,a⟩) (by show ¬(0<=v/\v<=2000/\1<=J a/\J a<=1000);omega)
  exact UE (F:=⟨v,a⟩) (by show 4000<Xo a;omega)
 rw[i,b];exact AJ ha e O l h j
end
end Go.Proofs.YtcncjgijikoapaaGreatDoor
