import Derived.Test.YtcfdhbigppockaaGreatDoorPL3
namespace Go.Proofs.YtcfdhbigppockaaGreatDoor
set_option maxHeartbeats 8000000
set_option maxRecDepth 100000
open Go.RowKit Go.Proofs.Tryz
variable{r:Bool}{t:Int}{n m k B c:Nat}{w:Ub}{p:Uy}{s:Wa}{x:Wi}
section
attribute [local go_sem ↓] Go.wp_at_zero Go.wp_at_succ
theorem At(ha:Hs (Xp w k B p x))(y:Hs (m=x.length))(hs:Hs (x.length+Xx x<=1048576))(hB:B<=w.1.size)(d1:(n:Int)<=2000)(d2:1<=m)(d3:m<=1000)(cs:Xo x<=4000)(o:Hs (r=(x.all (KV n m)&&Ug ⟨n,x⟩&&Ui ⟨n,x⟩))):
 Calls prog 32 #[.agg #[Hp n,.slice p m c]] w λg w'=>g=.returned (.bool r)/\Below w.1.size w w':=by
 have b8:Hs (Xo x<=1048576):=by show _<=_;omega
 have bi:=Xa<|ti hs
 go_in
 go_wp2_with fail
 refine(tB k B ?q1 y oM b8 ?q2).mono ?_
 case q1=>exact ha.keep (Xb (Below.refl _ _) _ |>.mono hB)
 case q2=>simp;omega
 rintro g E⟨rfl,aj⟩;let⟨a3,cb⟩:=NC aj;have s:E.cell? (Hk w.1.size 0)=some (Hp n):=by rw[a3 _ _ sP];simp
 have I:E.cell? (Hk w.1.size 1)=some (.slice p m c):=by rw[a3 _ _ sP];simp
 have B1:=Xg (Xb (Below.refl w.1.size w) _) aj;have ch:=aj.4;simp at ch;have l:=Xa B1;have HA:=Xa<|ha.keep (B1.mono hB);clear a3 cb aj B1 ha;go_wp2
 go_loopw [4] (λi wr=>∃a:Nat,a<=m/\i=Hp a/\Below E.1.size E wr/\Hs ((x.take a).all (KV n m)=true)) λi _=>m-(intOf i).toNat
 case atStart=>exact⟨0,aN,rfl,Below.refl _ _,rfl⟩
 obtain⟨a,hk,rfl,d,G⟩:=hrel;by_cases bl:a<m
 .have v:a<x.length:=oN y.o;obtain⟨bt,ci,rfl,⟨_,b6⟩,hc⟩:=HA a v;let⟨a7,a8,ia,ic,N,f1,⟨f2,f3,f4,f5⟩,_,V⟩:=hc;have e0:=(XU d oM).trans N;have e1:=(XU d oM).trans f1;have e2:=(XU d oM).trans f2;have e3:=(XU d oM).trans f3;have e4:=(XU d oM).trans f4;have e5:=(XU d oM).trans f5;have ao:=(XU d oM).trans s;have ap:=(XU d oM).trans I;have ck:=(bi _<|aH v).2.1;have Y:=Xa λh=>JN (p:=KV n m) (xs:=x) (k:=a) v h;have a5:=Xa λh=>XY (p:=KV n m) v G h;have HI:=Xa V;have cf:=d.4;clear V N f1 f2 f3 f4 f5;generalize x[a]=X at*;have af:Hs (KV n m X=(X.2.all (Yw n 10)&&(Zu n 1 m ⟨X.3.1,X.3.a,X.3.3,X.3.4⟩&&!(X.3.1==2&&X.3.3==X.3.4)))):=rfl;go_wp2;have b:=Xb d<|.cells #[.slice a7 X.1.length a8,.slice ia X.2.length ic,Hp X.3.1,Hp X.3.a,Hp X.3.3,Hp X.3.4] 60;have a0:(λt:Ub=>t.cell? (Hk wr.1.size 1)=some (.slice ia X.2.length ic)/\t.cell? (Hk wr.1.size 2)=some (Hp X.3.1)/\t.cell? (Hk wr.1.size 3)=some (Hp X.3.a)/\t.cell? (Hk wr.1.size 4)=some (Hp X.3.3)/\t.cell? (Hk wr.1.size 5)=some (Hp X.3.4)/\wr.1.size<t.1.size) (wr.alloc<|.cells #[.slice a7 X.1.length a8,.slice ia X.2.length ic,Hp X.3.1,Hp X.3.a,Hp X.3.3,Hp X.3.4] 60):=⟨sP,sP,sP,sP,sP,sP⟩;generalize wr.alloc _=W2 at*;let⟨m1,m2,m3,m4,m5,cv⟩:=a0;have bq:=Xa b;have cw:=b.4;generalize wr.1.size=br at*;clear b e0 e1 e2 e3 e4 e5 ao ap d
  go_loopw [6] (λi wi=>∃j:Nat,j<=X.2.length/\i=Hp j/\Below W2.1.size W2 wi/\Hs ((X.2.take j).all (Yw n 10)=true)) λi _=>X.2.length-(intOf i).toNat
  case atStart=>exact⟨0,aN,rfl,Below.refl _ _,rfl⟩
  obtain⟨j,W,rfl,e,S⟩:=hrel;have K:=Xg bq e;have r0:=(XU K oM).trans s;have n1:=(XU e oM).trans m1;have ce:=e.4;by_cases u:j<X.2.length
  .obtain⟨b',o',rfl,⟨_,b7⟩,bd⟩:=HI j u;let⟨g0,g1,g2,g3,g4⟩:=bd.keep K oM;have L:=Xa λh=>JN (p:=Yw n 10) (xs:=X.2) (k:=j) u h;have a6:=Xa λh=>XY (p:=Yw n 10) u S h;have cl:(0:Int)<=(j:Int):=oM;have cm:(j:Int)<(X.2.length:Int):=oM;clear bd m1 m2 m3 m4 m5 s I;generalize X.2[j]=P at*;cases hr:Yw n 10 ⟨P.1,P.2,P.a,P.b,P.5⟩
   .have f:=Xa hr;go_wp2
    go_region_with (go_at_call 66;refine(Ur).mono ?_;rintro g M⟨rfl,b⟩;rw[Xw f])
    all_goals
     go_wp2;go_ret;exact⟨Xl (by rw[o.o,Xw Y<|by rw[af.o,Xw L f.o];rfl];rfl),Xg l<|Xg K.drew b⟩
   have f:=Xa hr;go_wp2
   go_region_with (go_at_call 66;refine(Ur).mono ?_;rintro g M⟨rfl,b⟩;rw[Xw f])
   all_goals
    go_wp2;exact⟨⟨j+1,oM,gM,Xg e.drew b,Xw a6 f⟩,by simp[intOf];omega⟩
  have b4:=Xa<|YE (p:=Yw n 10) (xs:=X.2) (k:=j) oM S;have n2:=(XU e oM).trans m2;have n3:=(XU e oM).trans m3;have n4:=(XU e oM).trans m4;have n5:=(XU e oM).trans m5;clear m1 m2 m3 m4 m5 s I;cases hr:Zu n 1 m ⟨X.3.1,X.3.a,X.3.3,X.3.4⟩
  .have f:=Xa hr;clear hr;go_wp2_with (go_at_call 67;refine(KS).mono ?_;rintro g M⟨rfl,b⟩;rw[Xw f])
   go_ret;exact⟨Xl (by rw[o.o,Xw Y<|by rw[af.o,f.o];simp];rfl),Xg l<|Xg K b⟩
  have f:=Xa hr;clear hr;by_cases hq:X.3.1=2/\X.3.3=X.3.4
  .have q1:(X.3.1==2)=true:=by simp[hq.1]
   have q2:(X.3.3==X.3.4)=true:=by simp[hq.2]
   clear hq;go_wp2_with (go_at_call 67;refine(KS).mono ?_;rintro g M⟨rfl,b⟩;rw[Xw f];have p2:=oB b n2 oM;have p4:=oB b n4 oM;have p5:=(XU b oM).trans n5)
   go_ret;exact⟨Xl (by rw[o.o,Xw Y<|by rw[af.o,q1,q2];simp];rfl),Xg l<|Xg K b⟩
  have cd:(X.3.1==2)=false\/((X.3.1==2)=true/\(X.3.3==X.3.4)=false):=by simp only[iS,iA];omega
  clear hq;obtain q1|⟨q1,q2⟩:=cd
  all_goals
   go_wp2_with (go_at_call 67;refine(KS).mono ?_;rintro g M⟨rfl,b⟩;rw[Xw f];have p2:=oB b n2 oM;have p4:=oB b n4 oM;have p5:=(XU b oM).trans n5)
   exact⟨⟨a+1,oM,gM,Xg K b,Xw a5 (by rw[af.o,f.o,b4.o];first|(rw[q1];rfl)|(rw[q1,q2];rfl))⟩,by simp[intOf];omega⟩
 have b3:=Xa<|YE (p:=KV n m) (xs:=x) (k:=a) (oN y.o) G;clear G;go_wp2
 go_loopw [7] (λi wr=>∃a:Nat,a<=m/\i=Hp a/\Below E.1.size E wr/\Hs (∀j (h:j<x.length),j<a->x[j].1.all (Jt n (AQ x 0 (j:Int)).length)=true)) λi _=>m-(intOf i).toNat
 case atStart=>exact⟨0,aN,rfl,d,λj _ h=>absurd h oM⟩
 clear d bl hk;obtain⟨a,hk,rfl,d,G⟩:=hrel;have ao:=(XU d oM).trans s;have ap:=(XU d oM).trans I;have cf:=d.4;by_cases bl:a<m
 .have v:a<x.length:=oN y.o;obtain⟨bt,ci,rfl,⟨_,b6⟩,hc⟩:=HA a v;let⟨a7,a8,ia,ic,N,_,_,Z,_⟩:=hc;let⟨co,_,bh⟩:=bi _<|aH v;have bp:=Xa bh;have Y:Hs (x[a].1.all (Jt n (AQ x 0 (a:Int)).length)=false->Ug ⟨n,x⟩=false):=λh=>Wg Jt ⟨n,x⟩ (k:=a) v h
  have a5:Hs (x[a].1.all (Jt n (AQ x 0 (a:Int)).length)=true->∀j (h:j<x.length),j<a+1->x[j].1.all (Jt n (AQ x 0 (j:Int)).length)=true) :=
   λh j W cn=>if g:j=a then by subst g;exact h else G j W oM
  have HP:=Xa Z;have D0:=Xa N;have Q:=Xa<|HA.keep (d.mono oM);have cp:(AQ x 0 (a:Int)).length<=1048576:=oP (YO (a:Int) x 0) y.o;clear Z N bh;go_wp2_with fail
  refine(ZE n c a Q y oM oM).mono ?_;rintro g M⟨a2,c2,rfl,b,al⟩;have H:=Xg d b;have ca:=H.4;clear al b d ao ap Q;generalize x[a]=X at*;generalize AQ x 0 (a:Int)=C at*;go_wp2
  go_loopw [9] (λi wi=>∃j:Nat,j<=X.1.length/\i=Hp j/\Below E.1.size E wi/\Hs ((X.1.take j).all (Jt n C.length)=true)) λi _=>X.1.length-(intOf i).toNat
  case atStart=>exact⟨0,aN,rfl,H,rfl⟩
  clear H ca;obtain⟨j,W,rfl,e,S⟩:=hrel;have x0:=(XU e oM).trans s;have x1:=(XU e oM).trans I;have x2:=(XU e oM).trans D0;have ce:=e.4;by_cases u:j<X.1.length
  .obtain⟨b',o',rfl,⟨_,b7⟩,aa,cc,g0,g1,V⟩:=HP j u;have e6:=(XU e oM).trans g0;have e7:=(XU e oM).trans g1;have cj:=bp _<|aH u;have L:=Xa λh=>Xw Y<|JN (p:=Jt n C.length) (xs:=X.1) (k:=j) u h;have a6:=Xa λh=>XY (p:=Jt n C.length) u S h;have bo:=Xa V;have ct:w.1.size<wr.1.size:=oM;clear g0 g1 V;generalize X.1[j]=P at*;have R:Hs (Jt n C.length P=(decide (1<=P.2.length)&&decide (P.2.length=C.length)&&P.2.all (To 0 n))):=rfl;by_cases O:P.2.length=0
   .have ba:(P.2.length:Int)<1:=oM;have H0:=Xa O;clear O;go_wp2;go_ret;exact⟨Xl (by rw[o.o,Xw L<|by rw[R.o,H0.o];rfl];simp),Xg l<|Xb e _⟩
   have ba:(1:Int)<=(P.2.length:Int):=oM;have H0:=Xa O;clear O;by_cases F:P.2.length=C.length
   .have bb:((P.2.length:Int) != (C.length:Int))=false:=by simp[F]
    have H1:=Xa F;clear F;go_wp2;have a1:=Xb e<|.cells #[Hp P.1,.slice aa P.2.length cc] 62;have a0:(λt:Ub=>t.cell? (Hk wr.1.size 1)=some (.slice aa P.2.length cc)/\wr.1.size<t.1.size) (wr.alloc<|.cells #[Hp P.1,.slice aa P.2.length cc] 62):=⟨sP,sP⟩;generalize wr.alloc _=w9 at*;let⟨z1,z2⟩:=a0;generalize wr.1.size=br at*;have cx:=a1.4;have bn:=Xa a1;clear x0 x1 x2 e6 e7 ba bb a1
    go_loopw [11] (λi wi=>∃q:Nat,q<=P.2.length/\i=Hp q/\Below w9.1.size w9 wi/\Hs ((P.2.take q).all (To 0 n)=true)) λi _=>P.2.length-(intOf i).toNat
    case atStart=>exact⟨0,aN,rfl,Below.refl _ _,rfl⟩
    obtain⟨q,hq,rfl,a4,T⟩:=hrel;have y1:=(XU a4 oM).trans z1;have U:=Xg bn a4;have y0:=(XU U oM).trans s;by_cases ab:q<P.2.length
    .obtain⟨b2,o2,rfl,⟨_,b⟩,be⟩:=bo q ab;have r1:=(XU U oM).trans be;have bm:=Xa λh=>JN (p:=To 0 n) (xs:=P.2) (k:=q) ab h;have cg:=Xa λh=>XY (p:=To 0 n) ab T h;have cq:(0:Int)<=(q:Int):=oM;have cr:(q:Int)<(P.2.length:Int):=oM;clear be z1 s I;generalize P.2[q]=A at*;by_cases ar:A<0
     .have bv:decide (A<0)=true:=by simpa using ar
      go_wp2
      go_quiet (fail)
      go_wp2;go_ret;exact⟨Xl (by rw[o.o,Xw L<|by rw[R.o,Xw bm<|by unfold To;rw[dJ (p:=0<=A) oM];rfl];simp];simp),Xg l<|iX U _⟩
     have bv:decide (A<0)=false:=by simpa using ar
     have bx:0<=A:=oM;clear ar;by_cases b0:(n:Int)<=A
     .go_wp2
      go_quiet (fail)
      go_wp2;go_ret;exact⟨Xl (by rw[o.o,Xw L<|by rw[R.o,Xw bm<|by unfold To;rw[dJ (p:=A<n) oM];simp];simp];simp),Xg l<|iX U _⟩
     have b1:A<(n:Int):=oM;clear b0;go_wp2
     go_quiet (fail)
     go_wp2;exact⟨⟨q+1,oM,gM,iX a4 _,Xw cg<|by unfold To;rw[eB bx,eB b1];rfl⟩,by simp[intOf];omega⟩
    go_wp2
    exact⟨⟨j+1,oM,gM,U,Xw a6 (by
     have F:=H1.o;have O:=H0.o;rw[R.o,eB F,eB (p:=1<=P.2.length) oM,YE (xs:=P.2) (k:=q) oM T.o];rfl)⟩,by simp[intOf];omega⟩
   have bb:((P.2.length:Int) != (C.length:Int))=true:=by rw[jJ];omega
   have H1:=Xa F;clear F;go_wp2;go_ret;exact⟨Xl (by rw[o.o,Xw L<|by rw[R.o,dJ H1.o];simp];simp),Xg l<|Xb e _⟩
  go_wp2;exact⟨⟨a+1,oM,gM,e,Xw a5<|YE (xs:=X.1) (k:=j) oM S⟩,by simp[intOf];omega⟩
 have b5:Hs (Ug ⟨n,x⟩=true):=(Zr Jt ⟨n,x⟩ x 0).2 (λj W=>by rw[aV];exact G j W<|oN y.o);have Q:=Xa<|HA.keep (d.mono oM);have az:Hs (Ui ⟨n,x⟩=(decide (((BX x).length:Int)=n)&&(List.range n).all λad=>Cg (BX x) (ad:Int))):=rfl;have bf:(BX x).length<=1048576:=oP (KP x) hs.o;clear G;go_wp2_with fail
 refine(BU Q y oM (show Xx x<=1048576 by have:=hs.o;omega) oM).mono ?_;rintro g M⟨a2,c2,rfl,b,al⟩;have H:=Xg d b;have y0:=(XU H oM).trans s;have a9:=Xa al;have aq:=Xa H;clear al b d ao ap Q H s I;generalize BX x=D at*;by_cases J:(D.length:Int)=n
 .have bc:((D.length:Int) != (n:Int))=false:=by simp[J]
  have HD:=Xa J;clear J;go_wp2;clear bc
  go_loop [13] (λi=>∃q:Nat,q<=n/\i=Hp q/\Hs (∀z:Nat,z<q->Cg D (z:Int)=true)) λi=>n-(intOf i).toNat
  case atStart=>exact⟨0,aN,rfl,λz h=>absurd h oM⟩
  obtain⟨q,hq,rfl,T⟩:=hrel;by_cases ab:q<n
  .cases hr:Cg D (q:Int)
   .have f:=Xa hr;go_wp2_with (go_at_call 70;refine(YF _ _ _ D _ _ _ a9 rfl bf).mono ?_;rintro g w3⟨rfl,ac⟩;rw[ac];clear ac w3)
    go_ret
    exact⟨Xl (by
     have hf:((List.range n).all λad=>Cg D (ad:Int))=false:=by
      rw[lZ];exact⟨q,by simpa using ab,by simp[f.o]⟩
     rw[o.o,az.o,hf];simp),Xg l aq⟩
   have f:=Xa hr;go_wp2_with (go_at_call 70;refine(YF _ _ _ D _ _ _ a9 rfl bf).mono ?_;rintro g w3⟨rfl,ac⟩;rw[ac];clear ac w3)
   go_round
   case rel=>exact⟨q+1,oM,gM,λz Z=>if g:z=q then by subst g;exact f else T z oM⟩
   simp[intOf];omega
  go_wp2;go_ret
  exact⟨Xl (by
   have hf:((List.range n).all λad=>Cg D (ad:Int))=true:=by
    rw[dV];intro z Z;exact T z<|by simp at Z;omega
   rw[o.o,az.o,hf,b3.o,b5.o,eB HD.o];rfl),Xg l aq⟩
 have bc:((D.length:Int) != (n:Int))=true:=by rw[jJ];exact J
 have HD:=Xa J;clear J;go_wp2;go_ret;exact⟨Xl (by rw[o.o,az.o,dJ HD.o];simp),Xg l aq⟩
theorem Tr(v:Int)(f:Uy)(n c:Nat)(a:Wi)(L B:Nat)(w:Ub)(ha:Hs (Xp w L B f a))(e:Hs (n=a.length))(d:Hs (a.length+Xx a<=1048576))(h:B<=w.1.size):
 Calls prog 32 #[.agg #[Hp v,.slice f n c]] w λk o=>k=.returned (.bool (iu ⟨v,a⟩))/\Below w.1.size w o:=by
 have i:iu ⟨v,a⟩=(Y6 ⟨v,a⟩&&a.all (KV v a.length)&&Ug ⟨v,a⟩&&Ui ⟨v,a⟩):=by
  unfold iu;rw[EI]
 have m:=e.o;have l:Xo a<=1048576:=by rw[V7];exact d
 have q:=d.o;by_cases j:0<=v/\v<=2000/\1<=n/\n<=1000/\Xo a<=4000
 .let⟨g,d1,d2,d3,d4⟩:=j;have b:Y6 ⟨v,a⟩=true:=tG g d1 (by show 1<=a.length;omega) (by show a.length<=1000;omega) d4;obtain⟨r,rfl⟩:=bX g;rw[i,b];exact At ha e d h d1 d2 d3 d4<|by show _=_;rw[<-m];rfl
 have b:Y6 ⟨v,a⟩=false:=by
  by_cases p:Xo a<=4000;·exact Wt (F:=⟨v,a⟩) (by show ¬(0<=v/\v<=2000/\1<=a.length/\a.length<=1000);omega)
  exact UE (F:=⟨v,a⟩) (by show 4000<Xo a;omega)
 rw[i,b];exact AJ ha e oM l h j
end
theorem AO(c:Nat)(ha:Hs (Xp w m k p x))(j:Hs (n=x.length))(hs:Hs (x.length+Xx x<=1048576))(hB:k<=w.1.size)(hO:Hs (Uw w))(hT:Hs (T7 w))(hv:Hs (XJ ⟨t,x⟩=true)):
 Calls prog 122 #[.agg #[Hp t,.slice p n c]] w λe O=>∃U P B c1 C c2 g3 D c4,e=.returned (.agg #[Hl B n c1,Hl C n c2,Hl g3 n n,Hl D (XT P n 0).length c4])/\Below w.1.size w O/\YX (X8 x) n P/\Ej O w.1.size n U (λi:Nat=>AQ x 0 (i:Int)) (λz=>Xh (Zp x).1 z) P (XT P n 0) B c1 C c2 g3 D c4:=by
 have y:=Xa<|Wz hv;have aa:n<=1000:=oP y.2 j.o;have Z:1<=n:=oP y.1 j.o;have a4:=Xa λW (G:Below w.1.size w W)=>JK t p n c x m k W (Xa<|ha.keep (G.mono hB)) j hs (oN G.4) (Xa<|hO.keep G) (Xa<|hT.keep G);rw[hv.o]at a4;have bx:=Xa λW (G:Below w.1.size w W)=>KF t c (Xa<|ha.keep (G.mono hB)) j oM (oN G.4) (Xa<|by rw[j.o];exact y.4)
 go_in
 go_wp2_with fail
 refine(a4 _<|Xb (Xb (Below.refl _ _) _) _).mono ?_;rintro e l⟨rfl,T⟩;obtain⟨a8,ei⟩:=NC T;have k0:l.cell? (Hk w.1.size 0)=some (Hp t):=by rw[a8 _ _<|by simp;omega];simp[go_sem]
 have k1:l.cell? (Hk w.1.size 1)=some (.slice p n c):=by rw[a8 _ _<|by simp;omega];simp[go_sem]
 have bf:=Xa<|Xg (Xb (Xb (Below.refl w.1.size w) _) _) T;have gl:w.1.size+2<=l.1.size:=by have:=T.4;simp at this;omega
 have b1:Hs (l.rowIs (w.1.size+1) 72 4 λ_=>Hq):=Xa (by
  have u:=eK (w.alloc<|.cells #[Hp t,.slice p n c] 37) #[Hq,Hq,Hq,Hq] 72 (λ_=>Hq) (λi q=>by
   match i,q with
   |0,_=>rfl
   |1,_=>rfl
   |2,_=>rfl
   |3,_=>rfl)
  rw[aO]at u;exact u.of_block<|T.5 _ sP)
 clear a8 ei T a4;go_wp2_with fail
 refine(bx l bf).mono ?_;rintro e w2⟨U,rfl,J,hU⟩;have K0:=Xa k0;have K1:=Xa k1;have Q:=Xa<|Xg bf J;have A:=Xa hU;have gp:=J.4;have df:=Xa<|b1.of_block (J.5 _ b1.lt);have q0:=(XU J oM).trans k0;have q1:=(XU J oM).trans k1;clear k0 k1 K0 K1 bx hU;clear J;go_wp2_with fail
 refine(Ki t p c aa).mono ?_;rintro e w3⟨s,F,rfl,fi,f6,a6,cv⟩;have H:=Xa a6;have b4:=Xa cv;have gr:=a6.4;have ea:(n+63)/64<=100:=oM;have eb:n<=64*((n+63)/64):=oM;generalize (n+63)/64=KK at*;have HC:Hs (w2.cell? (Hk w.1.size 0)=some (Hp t)/\w2.cell? (Hk w.1.size 1)=some (.slice p n c)):=Xa ⟨q0,q1⟩;clear q0 q1 a6 cv;have b8:=Xa<|ha.keep ((Xg Q H).mono hB);have b7:=Xa (VY s F w3.1.size c p m k j aa eb ea oM oM oM (Xa<|by rw[j.o];exact y.3) x.length 0 (λ_=>0) Hq [] w3 b4 b8 Z (Xa<|by rw[j.o];exact ZA _ _) (Xa KW) (by simp only[bO,aV];exact ZA _ _));go_wp2_with fail
 refine b7.mono ?_;rintro e w4⟨rfl,v4,L,r⟩;have b5:Hs (YW w4 s F w3.1.size KK p n c (Zp x).1 v4 (Zp x).2):=Xa (by unfold Zp;exact r);clear r;have r:=b5.o;have cl:=λa Y=>(L.5 a oM oM oM λe=>by cases e).trans (H.5 a Y)
 have R:Hs (Below w2.1.size w2 w4):=Xa ⟨L.1.trans H.1,L.2.trans H.2,L.3.trans H.3,oN L.4,cl⟩;have bd:0<(Zp x).2.length/\(Zp x).2.length<=1000:=by
  have h1:=y.ord_len;have h2:(Ja x).length=(Zp x).2.length:=by simp[Ja]
  have:=y.2;omega
 obtain⟨gL,cL,rfl,⟨fz,f4⟩,eg⟩:=Xm r.6 bd.1;have br:Hs (Je (Zp x).2=(Xi (Zp x).2).map (Value.int .i64)):=Xa (by simp[Je,Xi]);have bt:Hs ((Xi (Zp x).2).reverse=Xi (Ja x)):=Xa (by simp[Ja,Xi]);have bq:Hs ((Zp x).2.length=(Ja x).length):=Xa (by simp[Ja]);have bn:Hs (w4.ownsRow w3.1.size 2 1 (Hl gL (Zp x).2.length cL) (Zp x).2.length ((Xi (Zp x).2).map (Value.int .i64))):=Xa (by rw[<-br.o];exact r.6);have b0:Hs ((Zp x).2.length=(Xi (Zp x).2).length):=Xa (by simp[Xi]);have c2:=r.3;have c1:=r.2;have a0:=Xa r.5;have gf:=r.9;have gd:=r.7;have ge:=r.8;generalize (Zp x).2.length=ab at*;clear L r b5 b7 b4 b8 cl;go_wp2_with fail
 refine(TM oM b0 bn).mono ?_;rintro e w5⟨rfl,N,a9⟩;rw[bt.o]at a9;have bo:=Xa a9;have ad:=Xa (R.grown N R.4 λa e=>by cases e;omega);have dn:=(bZ (a:=(Hk s 2)) (N.5 s (oN R.4) λe=>by injection e with e;omega)).trans c2;have cb:=(bZ (a:=(Hk s 1)) (N.5 s (oN R.4) λe=>by injection e with e;omega)).trans c1;have aj:=Xa (a0.of_block<|N.5 F (oN a0.lt) λe=>by injection e with e;omega);have gs:=N.4;clear N a9 c1 c2 a0 bn b0;go_wp2_with fail
 have dj:Hs (((List.range n).map λi:Nat=>AQ x 0 (i:Int))=((List.range n).map (XX x n)).map Xi):=Xa (by
  rw[jO];apply gH;intro b _;rw[Function.comp,j.o];exact K9 (λar j cz ht=>(y.3 ar j cz ht).1) b)
 have b6:Hs (XR w5 (l.1.size+1) w2.1.size (some ⟨l.1.size+1,0,none⟩) (((List.range n).map (XX x n)).map Xi)):=Xa (by rw[<-dj.o];exact A.ints.keep ad);have bp:Hs (Xf w5 w3.1.size w5.1.size (some ⟨gL,0,none⟩) (Xi<|Ja x)):=Xa (by
  obtain⟨a',c',et,ej⟩:=Xk bo;injection et with e1;rw[e1];exact ej)
 have bm:=Xa (Bk n b6 (Xa sP) bp bq aa Z bd.2 bd.1 eg aA ad.4 (Xa<|by rw[j.o];exact y.ord_len.2.2) (Xa (λg0 hl=>by
  obtain⟨b,_,rfl⟩:=aY.1 hl;exact⟨aJ tR oM,λcz ht=>(Uf.1 ht).1⟩)))
 refine bm.mono ?_;rintro e d⟨g,Ws,rfl,f5,X,ct,cx⟩;have E:Hs (YX (X8 x) n ((List.range n).map (VB Ws (Ja x) ab))):=Xa (by
  have u:=y.idm (Ws:=Ws) (by rw[<-j.o];exact cx);rw[<-bq.o,<-j.o]at u;exact u)
 have a3:=Xa ct;have o:=Xa<|ad.trans (X.mono ad.4);have gt:=X.4;have d1:=oB X cb (by show s<_;have:=R.4;omega);have c9:=Xa<|aj.of_block (X.5 F aj.lt);have f7:=aj.lt;have fj:s<w5.1.size:=oM;have f0:=(XU o oM).trans HC.1;have f1:=(XU o oM).trans HC.2;have en:w.1.size<d.1.size:=oM;have d0:=λe7=>(bP d e7 (Hk w.1.size 1) en).trans f1;clear X ct cx cb dn aj bm bp b6 bo bt br H;go_wp2_with fail
 have bl:Hs (OE d (d.alloc<|.cells #[Hq,Hq,Hl g n n,Hq] 72) d.1.size (Hl g n n) Hq U (λz=>.bool (Xh (Zp x).1 z)) 0 none 0 0 none 0):=Xa
  ⟨by simp[go_sem],by simp[go_sem],by simp[go_sem],by simp[go_sem],λab=>(eK d #[Hq,Hq,Hl g n n,Hq] 72 (λi=>#[Hq,Hq,Hl g n n,Hq].getD i undef) λi q=>by simp[Array.getElem?_eq_getElem q]).frozen ab,Xb (Below.refl _ _) _,sP,rfl,dA,dA,bC rfl⟩
 clear f0 f1 d0
 go_loopw [32] (λac wr=>∃(b:Nat)(p1:Uy)(c1:Nat)(p2:Uy)(c2:Nat),b<=n/\ac=Hp b/\Hs (OE d wr d.1.size (Hl g n n) Hq U (λz=>.bool (Xh (Zp x).1 z)) b p1 c1 b p2 c2)) λac _=>n-(intOf ac).toNat
 case atStart=>exact⟨0,none,0,none,0,aN,rfl,bl⟩
 clear bl;obtain⟨b,p1,c1,p2,c2,fl,rfl,h⟩:=hrel;by_cases cs:b<n
 .have gi:=h.7;have m0:=h.1;have mz:=h.5 0;have mU:=((h.6).cell (p:=Hk (l.1.size+1) b) (by show l.1.size+1<_;have:=A.1.lt;have:=o.4;omega)).trans (oB o (A.1.cell cs) (by show l.1.size+1<_;exact A.1.lt));obtain⟨ua,uc,a5,_⟩:=Xk<|A.2.1 b cs;have dk:=Xa a5;rw[a5]at mU;generalize (AQ x 0 (b:Int)).length=ul at*;clear a5;obtain⟨i1,ek,ez,e0,e6⟩:=Xq QQ;go_wp2_with fail
  have ec:l.1.size+1<d.1.size:=oP A.1.lt o.4;have ed:l.1.size+1≠d.1.size:=oM;have ao:s<d.1.size:=oM;have ee:s≠d.1.size:=oM;have be:=Xa λW (u:Below d.1.size d W)=>Jm F KK b (Zp x).1 W (Xa<|oW (X8 x) x.length 0 _ KW) (Xa<|c9.of_block (u.5 F oM)) oM oM;refine Y7 (λO=>O.cell? (Hk (l.1.size+1) b)=some (.slice ua ul uc)) λhHeld=>?_;refine Xn 0 ?_;refine Xn 2 ?_;refine Xn 3 ?_;refine Xn 4 ?_;refine Xn 5 ?_;refine Xn 6 ?_;refine eS (rs:=[1,7]) vZ sP ?_;refine(bQ rfl (λK hK=>?_) (bQ rfl (λK hK=>?_) dY));go_simp;refine hK _ _ kP λhHeld=>?_;clear hK
  try simp only[xX]
  refine Xs 7 λK hK=>?_;go_simp;refine hK _ _ kP λhHeld=>?_;clear hK;rotate_left;go_simp;refine hK _ _ kP λhHeld=>?_;clear hK
  try simp only[xX]
  refine Xs 1 λK hK=>?_;go_simp;refine hK _ _ kP λhHeld=>?_;clear hK
  all_goals (
   refine Xs 8 λK hK=>?_;refine d6 rfl _ _ 69 rfl (d.1.size+1) 80 i1 (.agg #[Hq]) 1 24 underlying69 ek ez e0 e6 rfl vY (.slice p1 b c1) b ((List.range b).map U) rfl ?s1 (Hk wr.1.size 0) 1 1 [.slice ua ul uc] rfl rfl ?s2 ?s3 ?s4 ?s5 ?s6 ?_
   case s1=>exact(ue h.9).alloc _
   case s2=>exact Yf _ _ _
   case s3=>intro ac hu;simp at hu;subst hu;rfl
   case s4=>unfold maxLen;omega
   case s5=>omega
   case s6=>simp;omega
   intro v8 w8 bc cq _ ck;obtain⟨g8,c8,rfl,fx,_⟩:=Xm bc oM;obtain⟨ci,ce,cg,cn⟩:=(h.below (Below.refl wr.1.size wr).drew).app1 cq (by rw[dk.o];exact bc) (by simpa using ck);have z0:=(ce 0).trans h.1;have zf:=cg 0;have zU:=oB cn mU ec;have f:=Xa ci;clear bc cq ck ci ce cg cn;refine hK _ _ zU λhHeld=>?_;clear hK;refine Xn 9 ?_;refine Xs 10 λK hK=>?_;go_simp;refine hK _ _ ((Xc<|Below.heap_setCell _ _ _ _ ed).trans zU) λhHeld=>?_;clear hK;refine Yq ?_;clear hHeld z0 zf zU;generalize w8.setCell _ _=w9 at*;have af:=Xa<|f.below (Below.refl w9.1.size w9).drew;have x1:=f.2;have xl:=f.7;have xS:=oB f.6 d1 ao;obtain⟨i2,el,eu,ev,ey⟩:=Xq Q7;clear m0 mz mU h;go_wp2_with fail
   refine Y7 (λO=>O.cell? (Hk s 1)=some (Hl F KK KK)) λhHeld=>?_;refine Xn 0 ?_;refine Xn 2 ?_;refine Xn 3 ?_;refine Xn 4 ?_;refine Xn 5 ?_;refine Xn 6 ?_;refine eS (rs:=[1,7]) vZ sP ?_;refine(bQ rfl (λK hK=>?_) (bQ rfl (λK hK=>?_) dY));go_simp;refine hK _ _ kP λhHeld=>?_;clear hK
   try simp only[xX]
   refine Xs 7 λK hK=>?_;go_simp
   go_at_call 96
   refine(be _ af.6).mono ?_;rintro e c6⟨rfl,V⟩;have v:=Xa<|af.below V;have y1:=v.2;have yl:=v.7;have yS:=oB v.6 d1 ao;clear V;refine hK _ _ yS λhHeld=>?_;clear hK;refine Xs 8 λK hK=>?_;go_simp;refine hK _ _ kP λhHeld=>?_;clear hK;rotate_left;go_simp
   go_at_call 96
   refine(be _ af.6).mono ?_;rintro e c6⟨rfl,V⟩;have v:=Xa<|af.below V;have y1:=v.2;have yl:=v.7;have yS:=oB v.6 d1 ao;clear V;refine hK _ _ yS λhHeld=>?_;clear hK
   try simp only[xX]
   refine eS (rs:=[1,8]) vZ sP ?_;refine(bQ rfl (λK hK=>?_) (bQ rfl (λK hK=>?_) dY));go_simp;refine hK _ _ kP λhHeld=>?_;clear hK
   try simp only[xX]
   refine Xs 8 λK hK=>?_;go_simp;refine hK _ _ kP λhHeld=>?_;clear hK;rotate_left;go_simp;refine hK _ _ kP λhHeld=>?_;clear hK
   try simp only[xX]
   refine Xs 1 λK hK=>?_;go_simp;refine hK _ _ kP λhHeld=>?_;clear hK
   all_goals (
    refine Xs 9 λK hK=>?_;refine d6 rfl _ _ 70 rfl (d.1.size+1) 4 i2 (.bool false) 1 1 underlying70 el eu ev ey rfl vY (.slice p2 b c2) b ((List.range b).map λz=>.bool (Xh (Zp x).1 z)) rfl ?s1 (Hk c6.1.size 0) 1 1 [.bool (Xh (Zp x).1 b)] rfl rfl ?s2 ?s3 ?s4 ?s5 ?s6 ?_
    case s1=>exact v.o2.alloc _
    case s2=>exact Yf _ _ _
    case s3=>intro ac hu;simp at hu;subst hu;rfl
    case s4=>unfold maxLen;omega
    case s5=>omega
    case s6=>simp;omega
    intro g5 e9 ba cp _ cj;obtain⟨fe,dl,rfl,fq,_⟩:=Xm ba oM;obtain⟨ch,cd,cf,cm⟩:=v.app2 cp ba (by simpa using cj);have z0:=(cd 1).trans v.2;have zf:=cf 1;have zS:=oB cm yS ao;have c7:=Xa ch;clear ba cp cj ch cd cf cm;refine hK _ _ zS λhHeld=>?_;clear hK;refine Xn 10 ?_;refine Xs 11 λK hK=>?_;go_simp;refine hK _ _ ((Xc<|Below.heap_setCell _ _ _ _ ee).trans zS) λhHeld=>?_;clear hK;refine Yq ?_;clear hHeld z0 zf zS;generalize e9.setCell _ _=g6 at*;go_wp2
    exact⟨⟨b+1,_,c8,_,dl,oM,gM,c7⟩,by simp[intOf];omega⟩))
 have ef:n=b:=oM
 subst ef;have m2:=h.3;have ml:=h.7;obtain⟨P,hP⟩:∃P,P=(List.range n).map (VB Ws (Ja x) ab):=⟨_,rfl⟩;rw[<-hP]at E;have a1:=Xa E.1.symm;have dd:Hs (∀z,z<n->P.getD z 0=VB Ws (Ja x) ab z):=Xa (λz hz=>by rw[hP];simp[hz]);have b3:Hs (wr.rowIs g 2 n λz=>Hp<|P.getD z 0):=Xa ((a3.of_block<|h.6.5 g a3.lt).congr λz hz=>by rw[dd.o z hz]);have cr:=a3.lt;have da:Hs (Xf wr g (g+1) (some ⟨g,0,none⟩) P):=Xa (λi q=>by
  have em:i<n:=oN a1.o
  refine⟨g,0,rfl,⟨aA,iJ⟩,?_⟩;rw[aV,b3.cell em];simp[q])
 have a2:Hs (∀ar,Re (X8 x) ar->ar<n):=Xa (by rw[j.o];exact y.re);have dc:=Xa λe8 hp=>(Dh E a2 e8 hp).2;have bi:=Xa<|Au n da a1 aa oM dc;clear hP;go_wp2_with fail
 refine bi.mono ?_;rintro e w7⟨ca,cc,rfl,al,co⟩;have bv:=Xa (AV ca cc wr.1.size a1 aa aA (λb=>(Zq (X8 x) n b).length) (Xa λb c hc=>qJ E a2 hc) (Xa λb=>rr n b) n 0 Hq [] w7 (Xa co) (Xa<|dA) aA Z (Xa oM) (by have:=o9 E a2 n Re.root;simp only[bO];omega));have fa:=Xa al;have az:=Xa<|h.below al;have gv:=al.4;have m3:=az.4;have mz:=az.5 3;clear al co bi;go_wp2_with fail
 refine bv.mono ?_;rintro e w8⟨v8,rfl,M,aq⟩;have bh:Hs (Below w7.1.size w7 w8):=Xa ⟨M.1,M.2,M.3,M.4,λa Y=>M.5 a Y λe=>by cases e⟩;have er:0<(XT P n 0).length:=by cases n<;>simp[XT]
 rw[dR]at aq;obtain⟨D,c4,rfl,fs,_⟩:=Xm aq er;have db:=Xa aq;have f:=Xa<|az.below bh;have t0:=f.1;have t1:=f.2;have t2:=f.3;have t3:=f.4;have tz:=f.5 3;have gz:=bh.4;have S:=Xa f.6;obtain⟨B,k1,e1,fn,_⟩:=Xm f.9 Z;obtain⟨C,k2,e2,fr,_⟩:=Xm f.o2 Z;injection e1 with ds fb du;injection e2 with dw fc dz;subst ds;subst dw;subst du;subst dz;have ga:=(h.9.lt B rfl).2;have gb:=(h.o2.lt C rfl).2;generalize hQ:(XT P n 0).length=ql at*;clear bv M aq m2 m3 mz;have I:=df.of_block<|(S.5 _ oM).trans (o.5 _ oM);have y0:=I.cell (i:=0) vY;have y1:=I.cell (i:=1) vY;have y2:=I.cell (i:=2) vY;have y3:=I.cell (i:=3) vY;have yf:=I.frozen;have gg:d.1.size≠w.1.size+1:=oM;have eo:w.1.size+1≠d.1.size:=oM;have di:=Xa I;go_wp2_with fail
 obtain⟨wE,hE⟩:∃wE,wE=((((w8.setCell (Hk d.1.size 3) (Hl D ql c4)).setCell (Hk (w.1.size+1) 0) (Hl B n c1)).setCell (Hk (w.1.size+1) 1) (Hl C n c2)).setCell (Hk (w.1.size+1) 2) (Hl g n n)).setCell (Hk (w.1.size+1) 3) (Hl D ql c4):=⟨_,rfl⟩;rw[<-hE];obtain⟨z0,z1,z2,z3,ap,gh,ep,es,eq⟩:=xq di eo hE;clear hE;refine cC (v:=.agg #[Hl B n c1,Hl C n c2,Hl g n n,Hl D ql c4]) (by simp[results,results122,go_sem,z0,z1,z2,z3]) rfl ?_;subst hQ;have a7:=λa h1 h2=>(ap a oM h2).trans (S.5 a h1);have cw:=λi q a e=>(A.2.1 i q).lt a e;have gq:=o.4;refine⟨U,P,B,c1,C,c2,g,D,c4,rfl,?_,E,E.1,?_,?_,?_,?_,?_,?_,?_,?_⟩;·exact⟨ep.trans<|S.1.trans (o.1.trans Q.1),es.trans<|S.2.trans (o.2.trans Q.2),eq.trans<|S.3.trans (o.3.trans Q.3),oM,λa Y=>(a7 a oM oM).trans ((o.5 a oM).trans (Q.5 a Y))⟩
 .exact n9 f.9 oM λa e=>by cases e;exact ap B oM oM
 .exact n9 f.o2 oM λa e=>by cases e;exact ap C oM oM
 .exact b3.of_block<|(a7 g cr oM).trans (h.6.5 g cr).symm
 .exact n9 db oM λa e=>by cases e;exact ap D oM oM
 .exact λi q=>n9 (A.2.1 i q) oM λa e=>by have:=cw i q a e;exact(a7 a oM oM).trans (o.5 a oM)
 .exact A.2.2
 .refine⟨oM,λe=>?_,oM,oM,oM,oM,oM⟩;obtain u|u:=f.dj;·cases u
  exact u<|by rw[e];rfl
 exact λi q a e=>by have:=cw i q a e;omega
theorem qr:Je s=(Xi s).map (Value.int .i64):=by simp[Je,Xi]
theorem qS:Cg (Xi s) (n:Int)=true↔n∈s:=by
 unfold Cg;rw[eY];unfold Xi;rw[aY];constructor
 .rintro⟨a,h,e⟩;have:a=n:=Int.ofNat.inj e;rw[<-this];exact h
 exact λh=>⟨n,h,rfl⟩
section
structure N0(w w2 wr:Ub)(n A0 A1 M0 M1:Nat)(P:Tj):Prop where
 bel:Below w.1.size w wr
 sz:w2.1.size<=wr.1.size
 fb:wr.1[w.1.size]?=w2.1[w.1.size]?
 same:YA A0 A1 w2 wr
 rows:∃U,ZN wr (w.1.size+1) n P U/\∀i g,i<n->(U i).ownBlock=some g->(g<A0\/A1<=g)/\(g<M0\/M1<=g)
section
variable {w w2 wr wr': Ub} {n A0 A1 M0 M1: Nat} {P: Nat -> Wc}
theorem N0.below(h:N0 w w2 wr n A0 A1 M0 M1 P)(k:Below wr.1.size wr wr')(c:w.1.size<wr.1.size)(d:A1<=w2.1.size):N0 w w2 wr' n A0 A1 M0 M1 P:=by
 let⟨U,a,b⟩:=h.5;have:=h.2;exact⟨Xg h.1 k,aJ h.2 k.4,(k.5 _ c).trans h.3,λq q1 q2=>(k.5 q oM).trans (h.4 q q1 q2),U,a.below k,b⟩
theorem N0.fresh(h:N0 w w2 wr n A0 A1 0 0 P)(M1:Nat):N0 w w2 wr n A0 A1 wr.1.size M1 P:=by
 let⟨U,a,c⟩:=h.5;exact⟨h.1,h.2,h.3,h.4,U,a,λi g b e=>⟨(c i g b e).1,bC ((a.2.1 i b).lt g e).2⟩⟩
theorem N0.forget(h:N0 w w2 wr n A0 A1 M0 M1 P):N0 w w2 wr n A0 A1 0 0 P:=by
 let⟨U,a,b⟩:=h.5;exact⟨h.1,h.2,h.3,h.4,U,a,λi g c e=>⟨(b i g c e).1,aZ<|aN⟩⟩
theorem N0.congr{P':Tj}(h:N0 w w2 wr n A0 A1 M0 M1 P)(e:∀i,i<n->P i=P' i):N0 w w2 wr n A0 A1 M0 M1 P':=by
 let⟨U,a,b⟩:=h.5;exact⟨h.1,h.2,h.3,h.4,U,a.congr e,b⟩
theorem N0.grown{M:Nat}(h:N0 w w2 wr n A0 A1 M0 M1 P)(k:wr.grownBy wr' (some M))(l:M0<=M/\M<M1)(f:A1<=M0)(m:w.1.size+1<M0)(d:w.1.size+1<wr.1.size)(j:A1<=w2.1.size):N0 w w2 wr' n A0 A1 M0 M1 P:=by
 let⟨U,a,b⟩:=h.5;have o:=h.2;refine⟨h.1.grown k oM (λq e=>by cases e;omega),aJ h.2 k.4,(k.5 _ oM λe=>by injection e with e;omega).trans h.3,λq q1 q2=>(k.5 q oM λe=>by injection e with e;omega).trans (h.4 q q1 q2),U,⟨a.1.of_block (k.5 _ d λe=>by injection e with e;omega),λi c=>?_,a.2.2⟩,b⟩;refine(a.2.1 i c).kept k ?_;cases e:(U i).ownBlock with
 |none=>exact bC rfl
 |some g=>exact aZ λe2=>by injection e2 with e2;have:=(b i g c e).2;omega
theorem N0.push{c:Ub}{o:Obj}{t:Nat}{x:Int}{b:Uj}{U:Vu}(h:N0 w w2 wr n A0 A1 M0 M1 P)(d:ZN wr (w.1.size+1) n P U)(j:∀i g,i<n->(U i).ownBlock=some g->(g<A0\/A1<=g)/\(g<M0\/M1<=g))(f:t<n)(a:(wr.alloc o).grownBy c (U t).ownBlock)(D:c.ownsRow (w.1.size+1+1) 2 1 b ((P t).length+1) ((P t).map (Value.int .i64)++[.int .i64 x]))(s:b.ownBlock=(U t).ownBlock\/b.ownBlock=some (wr.1.size+1))(F:A1<=w2.1.size)(H:M1<=wr.1.size)(G:w.1.size+1<A0)(I:w.1.size+1<M0):
 N0 w w2 (c.setCell ⟨w.1.size+1,t,none⟩ b) n A0 A1 M0 M1 (λi=>if i=t then P t++[x]else P i)/\YA M0 M1 wr (c.setCell ⟨w.1.size+1,t,none⟩ b)/\c.cell? ⟨w.1.size+1,t,none⟩=some (U t)/\c.frozen? ⟨w.1.size+1,t,none⟩=false:=by
 have K:=h.2;have B:=d.1.lt;have J:=a.4;have C:(wr.alloc o).1.size=wr.1.size+1:=aO _ _;have r:∀k,k<wr.1.size->(wr.alloc o).1[k]?=wr.1[k]?:=λk m=>Below.heap_alloc _ _ _ m;have E:=(d.alloc o).step f x b a D (by rw[C];exact s);have l:∀k,k<wr.1.size->k≠w.1.size+1->some k≠(U t).ownBlock->(c.setCell (Hk (w.1.size+1) t) b).1[k]?=wr.1[k]?:=λk y z A=>(Below.heap_setCell _ _ _ _ z).trans ((a.5 k oM A).trans (r k y));have p:∀k,k<=w.1.size+1->some k≠(U t).ownBlock:=λk m e=>by have:=((d.2.1 t f).lt k e.symm).1;omega
 have u:=(a.5 _ oM<|p _ aA).trans (r _ B);refine⟨⟨?_,by rw[Xd];omega,(l _ oM oM<|p _ oM).trans h.3,λq q1 q2=>(l q oM oM λe=>by have:=(j t q f e.symm).1;omega).trans (h.4 q q1 q2),_,E,λi g v e=>?_⟩,λq q1 q2=>l q oM oM (λe=>by have:=(j t q f e.symm).2;omega),(Xc u).trans (d.1.cell f),(bJ u).trans (d.1.frozen t)⟩;·exact⟨a.1.trans h.1.1,a.2.trans h.1.2,a.3.trans h.1.3,by rw[Xd];omega,λk m=>(l k oM oM<|p k oM).trans (h.1.5 k m)⟩
 by_cases e1:i=t
 .subst e1;simp only[gG]at e;obtain q|q:=s;·exact j i g v<|by rw[<-q];exact e
  rw[q]at e;have:=gQ e;omega
 simp only[e1,fD]at e;exact j i g v e
end
theorem Di(Z:Int){R:Uy}{n:Nat}(c:Nat){d:Wi}{ch a3:Nat}{w:Ub}(ha:Hs (Xp w ch a3 R d))(l:Hs (n=d.length))(hB:a3<=w.1.size)(W:Hs (UF d)):
 Calls prog 74 #[.agg #[Hp Z,.slice R n c]] w λe L=>∃a' c',e=.returned (.slice a' n c')/\Below w.1.size w L/\XR L w.1.size L.1.size a' ((List.range n).map λb:Nat=>Xi<|Zq (X8 d) n b):=by
 obtain⟨i0,cm,cw,cz,c6⟩:=Xq RH;have ar:n<=1000:=oP W.2 l.o;have cr:0<n:=oP W.1 l.o;have N:Hs (∀x,Re (X8 d) x->x<n):=Xa (by rw[l.o];exact W.re);have be:=Xa (λcj (hb:Below w.1.size w cj) z=>qt Z c z (Xa<|ha.keep (hb.mono hB)) l ar cr (oN hb.4) (Xa<|by rw[l.o];exact W.3));have cq:=J9 (P:=prog) 69 80 (.agg #[Hq]) 1 24 underlying69 QQ n oM oM;have b0:madeCells (Value.agg #[Hq]).cells (n*1)=madeCells #[Hq] n:=by rw[iN];rfl
 rw[b0]at cq;have dj:=fM (P:=prog) 70 4 (.bool false) 1 underlying70 Q7 rfl .i64 .i64 n oM oM;clear b0
 go_in
 go_wp2_with fail
 refine(be _ (Xb (Xb (Below.refl _ _) _) _) (-1)).mono ?_;rintro e w2⟨v2,F,rfl,r,b1,az,bv⟩;obtain⟨a2,c2,rfl,br⟩:=Xk (xs:=Xi F) (by rw[<-qr];exact b1);have C:=Xa λx=>(bv x).trans (rf vY);have ca:=Xa az;have cp:(Xi F).length<=1000:=by rw[Y0];exact aJ (YS az λx l=>N x<|(C x).1 l) ar
 have dl:w.1.size+2<=w2.1.size:=by have:=r.4;simp at this;omega
 have bb:Hs (Xf w2 (w.1.size+2) w2.1.size a2 (Xi F)):=Xa (by simpa using br);have a6:Hs (N0 w w2 w2 n (w.1.size+2) w2.1.size 0 0 (UN (X8 d) 0)):=Xa (by
  have hr:=ZN.born (w.alloc<|.cells #[Hp Z,.slice R n c] 37) n;rw[aO]at hr;refine⟨Xg (Xb (Xb (Below.refl _ _) _) _) r,aA,rfl,YA.refl _ _ _,_,(hr.below r).congr λi _=>by simp[UN,Xi],λi da hi e=>by cases e⟩)
 have f0:Cl w2 w.1.size 0 (Hp Z):=(r.cell (p:=Hk w.1.size 0) (by show w.1.size<_;simp;omega)).trans (by simp[go_sem]);have f1:Cl w2 w.1.size 1 (.slice R n c):=(r.cell (p:=Hk w.1.size 1) (by show w.1.size<_;simp;omega)).trans (by simp[go_sem]);have a9:=Xa (show _/\_ from⟨f0,f1⟩);clear r b1 br bv az f0 f1;obtain⟨I,ap⟩:∃I,I=(Xi F).length:=⟨_,rfl⟩;rw[<-ap]at cp |-;have ad:=Xa ap;clear ap;go_wp2
 go_loopw [5] (λu wr=>∃k:Nat,k<=n/\u=Hp k/\Hs (N0 w w2 wr n (w.1.size+2) w2.1.size 0 0 (UN (X8 d) k))) λu _=>n-(intOf u).toNat
 case atStart=>exact⟨0,aN,rfl,a6⟩
 clear a6;obtain⟨k,hk,rfl,g⟩:=hrel;have cv:=g.2;have aq:w.1.size<wr.1.size:=oM;have g0:=(Xc g.3).trans a9.1;have g1:=(Xc g.3).trans a9.2;by_cases di:k<n
 .have bc:=Xa<|bb.keepS g.4;have ba:=Xa<|YF a2 c2 k (Xi F) (w.1.size+2) w2.1.size wr bc ad oM;go_wp2_with fail
  refine ba.mono ?_;rintro e w3⟨rfl,b4⟩;rw[b4];clear b4 ba;cases hh:Cg (Xi F) (k:Int)with
  |false=>
   have cb:Hs (¬Re (X8 d) k):=Xa (λq=>by
    have:=qS.2<|(C k).2 q;rw[hh]at this;cases this)
   clear hh;go_wp2;exact⟨⟨k+1,oM,gM,Xa<|g.congr λi _=>(Cx cb i).symm⟩,by simp[intOf];omega⟩
  |true=>
   have cd:Hs (Re (X8 d) k):=Xa<|(C k).1 (qS.1 hh);clear hh;have b8:=Xa<|(g.below (Xb (Below.refl _ _) (.cells (madeCells #[.bool false] n) 4)) aq aA);have bf:=Xa<|dG wr (.bool false) n 4;go_wp2_with fail
   refine(be _ (Xb g.1 _) (k:Int)).mono ?_;rintro e p⟨v5,a,rfl,S,b3,a0,bx⟩;obtain⟨a5,c5,rfl,bt⟩:=Xk (xs:=Xi a) (by rw[<-qr];exact b3);have af:=Xa λx=>(bx x).trans Fc;have co:(Xi a).length<=1000:=by rw[Y0];exact aJ (YS a0 λx l=>N x<|rp ((af x).1 l)) ar
   have c7:wr.1.size+1<=p.1.size:=by have:=S.4;simp at this;omega
   have ac:=Xa (by simpa using bt);have aj:=Xa<|bf.of_block (S.5 _ sP);have aa:=Xa ((((g.fresh p.1.size).below (Xb (Below.refl _ _) (.cells (madeCells #[.bool false] n) 4)) aq aA)).below S (by simp;omega) aA);obtain⟨H,ao⟩:∃H,H=(Xi a).length:=⟨_,rfl⟩;rw[<-ao]at co |-;have bd:=Xa ao;have c9:=Xa a0;clear S b3 bt bx a0 ao b8 bf g g0 g1;obtain⟨M,hM⟩:∃M,M=wr.1.size:=⟨_,rfl⟩;rw[<-hM]at c7 ac aj aa cv aq |-;clear hM bc;generalize wr=wo at*;go_wp2
   go_loopw [8] (λu y=>∃i:Nat,i<=H/\u=Hp i/\Hs (p.grownBy y<|some M)/\Hs (y.rowIs M 4 n λz=>.bool (decide (z∈a.take i)))) λu _=>H-(intOf u).toNat
   case atStart=>exact⟨0,aN,rfl,Xa<|lJ _ _,Xa<|aj.congr λz _=>sP⟩
   obtain⟨i,hi,rfl,B,D⟩:=hrel;by_cases dd:i<H
   .have V:i<a.length:=by have:=bd.o;rw[Y0]at this;omega
    obtain⟨f,J,rfl,T,m⟩:=ac i (by rw[Y0];exact V);have t:(Xi a)[i]'(by rw[Y0];exact V)=((a[i]:Nat):Int):=by simp[Xi]
    rw[t]at m;have bm:=(bZ (a:=(Hk f<|J+i)) (B.5 f T.2 λe=>by injection e with e;omega)).trans m;have o:=N _<|rp ((af _).1 (aH V));have bh:Hs (∀z,z∈a.take (i+1)↔z∈a.take i\/z=a[i]):=Xa λz=>Kx V;clear m t;generalize a[i]=x at*;have cx:=D.cell o;have fx:=D.frozen x;go_wp2_with fail
    refine⟨⟨i+1,oM,gM,Xa (B.trans ⟨rfl,rfl,rfl,by simp[World.setCell],λk _ hk=>Below.heap_setCell _ _ _ _ λe=>hk<|by rw[e]⟩),Xa<|(TS (C:=Value.bool) D x true).congr λz _=>?_⟩,by simp[intOf];omega⟩;by_cases e:z=x;·rw[aU e,eB<|(bh z).2 (aZ e)]
    rw[aM e];have:(z∈a.take (i+1))↔z∈a.take i:=(bh z).trans ⟨λq=>q.resolve_right e,bC⟩;rw[decide_eq_decide.2 this]
   have O:Hs (a.take i=a):=Xa (aW (by have:=bd.o;rw[Y0]at this;omega));rw[O.o]at D;have a8:=Xa<|aa.grown B ⟨aA,oM⟩ oM oM oM aA;have a7:=Xa (a8.congr λb _=>(BG F a k b).symm);have ds:=B.4;clear O B aj aa ac a8;generalize wr=w7 at*;go_wp2
   go_loopw [9] (λu y=>∃i:Nat,i<=I/\u=Hp i/\Hs (N0 w w2 y n (w.1.size+2) w2.1.size M p.1.size (Zy (X8 d) F a k i))/\Hs (YA M p.1.size w7 y)/\Hs (w7.1.size<=y.1.size)) λu _=>I-(intOf u).toNat
   case atStart=>exact⟨0,aN,rfl,a7,Xa<|YA.refl _ _ _,Xa<|aA⟩
   clear a7;obtain⟨j,hj,rfl,A,al,bi⟩:=hrel;by_cases df:j<I
   .have G:j<F.length:=by have:=ad.o;rw[Y0]at this;omega
    obtain⟨f,J,rfl,T,m⟩:=bb j (by rw[Y0];exact G);have t:(Xi F)[j]'(by rw[Y0];exact G)=((F[j]:Nat):Int):=by simp[Xi]
    rw[t]at m;have bm:=(bZ (a:=(Hk f<|J+j)) (A.4 f T.1 T.2)).trans m;have o:=N _<|(C _).1 (aH G);have ce:=Xa<|D.of_block (al M aA oM);have cx:=ce.cell o;have dn:=bi.o;have dk:p.1.size<=wr.1.size:=oM;by_cases s:F[j]∈a
    .have ab:=Xa λb=>DN (tg:=X8 d) (k:=k) G s b;rw[eB s]at cx;clear m t s;generalize F[j]=x at*;go_wp2;exact⟨⟨j+1,oM,gM,Xa (A.congr λb _=>(ab b).symm),al,bi⟩,by simp[intOf];omega⟩
    have ab:=Xa λb=>CD (tg:=X8 d) (k:=k) ca G s b;rw[dJ s]at cx;clear m t s;generalize F[j]=x at*;obtain⟨ci,h,bq⟩:=A.5;have HU:=Xa h;have a4:=Xa bq;obtain⟨ua,uc,Y,_⟩:=Xk<|h.2.1 x o;have cU:=h.1.cell o;have fU:=h.1.frozen x;have Q:=Xa Y;rw[Y]at cU;have ct:(Zy (X8 d) F a k j x).length<=1001:=aJ (Ca F a k j x) oM;obtain⟨v,X⟩:∃v,v=(Zy (X8 d) F a k j x).length:=⟨_,rfl⟩;rw[<-X]at cU ct;have E:=Xa X;have cc:=Xa (by have q:=h.2.1 x o;rw[Y,<-X]at q;exact q);have db:=h.1.lt;have cs:f≠w.1.size+1:=oM;have cl:f<wr.1.size:=oM;clear h bq Y X;go_wp2_with fail
    refine Y7 (λL=>L.cell? (Hk f<|J+j)=some (Hp x)) λhHeld=>?_;refine Xn 0 ?_;refine Xn 1 ?_;refine Xn 2 ?_;refine Xn 3 ?_;refine Xn 4 ?_;refine Xn 5 ?_;refine Xn 6 ?_;refine Xn 7 ?_;refine Xn 8 ?_;refine Xn 9 ?_;refine Xn 10 ?_;refine Xn 11 ?_;refine Xn 13 ?_;refine eS (rs:=[12,14]) vZ sP ?_;refine(bQ rfl (λK hK=>?_) (bQ rfl (λK hK=>?_) dY));go_simp;refine hK _ _ kP λhHeld=>?_;clear hK
    try simp only[xX]
    refine Xs 14 λK hK=>?_;go_simp;refine hK _ _ kP λhHeld=>?_;clear hK;rotate_left;go_simp;refine hK _ _ kP λhHeld=>?_;clear hK
    try simp only[xX]
    refine Xs 12 λK hK=>?_;go_simp;refine hK _ _ kP λhHeld=>?_;clear hK
    all_goals (
     refine Xs 15 λK hK=>?_;refine d6 rfl _ _ 41 rfl (w.1.size+1+1) 2 i0 (Hp 0) 1 8 underlying41 cm cw cz c6 rfl vY (.slice ua v uc) v ((Zy (X8 d) F a k j x).map (Value.int .i64)) rfl ?s1 (Hk wr.1.size 0) 1 1 [Hp k] rfl rfl ?s2 ?s3 ?s4 ?s5 ?s6 ?_
     case s1=>exact(ue cc).alloc _
     case s2=>exact Yf _ _ _
     case s3=>intro u hu;simp at hu;subst hu;rfl
     case s4=>unfold maxLen;omega
     case s5=>omega
     case s6=>simp;omega
     intro v8 w8 a1 U _ bp;obtain⟨g8,c8,rfl,dc,_⟩:=Xm a1 oM;obtain⟨bn,bo,bl,ck⟩:=(A.below (Below.refl wr.1.size wr).drew oM aA).push (x:=(k:Int)) (t:=x) (HU.below (Below.refl wr.1.size wr).drew) a4 o (by rw[Q.o,<-E.o];exact U) (by rw[<-E.o];exact a1) (by rw[Q.o,<-E.o];simpa using bp) aA (by show p.1.size<=wr.1.size;omega) oM oM;rw[Q.o,<-E.o]at bl;have z6:w8.cell? (Hk f<|J+j)=some (Hp x):=by
      have h1:=U.5 f (by simp;omega) (λe=>by
       have h2:=a4 x f o (by rw[Q.o,<-E.o];exact e.symm);omega)
      have h3:(wr.drew.alloc<|.cells #[Hp k] 2).1[f]?=wr.1[f]?:=Below.heap_alloc wr.drew _ _ cl;exact(Xc<|h1.trans h3).trans bm
     have b7:=Xa bn;have cf:Hs (YA M p.1.size w7<|w8.setCell (Hk (w.1.size+1) x) (Hl g8 (v+1) c8)):=Xa λb5 q1 q2=>(bo b5 q1 q2).trans (al b5 q1 q2);have cg:Hs (w7.1.size<=(w8.setCell (Hk (w.1.size+1) x) (Hl g8 (v+1) c8)).1.size):=Xa (by rw[Xd];have:=U.4;simp at this;omega);clear a1 U bp bn bo;refine hK _ _ z6 λhHeld=>?_;clear hK;refine Xn 16 ?_;refine Xn 17 ?_;refine Xs 18 λK hK=>?_;go_simp;refine hK _ _ ((Xc<|Below.heap_setCell _ _ _ _ cs).trans z6) λhHeld=>?_;clear hK;refine Yq ?_;clear hHeld bl ck z6;generalize w8.setCell _ _=w9 at*;go_wp2
     exact⟨⟨j+1,oM,gM,Xa (b7.congr λb _=>(ab b).symm),cf,cg⟩,by simp[intOf];omega⟩)
   have O:Hs (∀b,Zy (X8 d) F a k j b=UN (X8 d) (k+1) b):=Xa (λb=>Bt C af cd (by have:=ad.o;rw[Y0]at this;omega) b);go_wp2;exact⟨⟨k+1,oM,gM,Xa<|(A.congr λb _=>O b).forget⟩,by simp[intOf];omega⟩
 have cn:k=n:=oM;subst cn;go_wp2;go_ret;obtain⟨ci,h,_⟩:=g.5;exact⟨_,_,rfl,g.1,(h.ints).mono oM aA⟩
end
end Go.Proofs.YtcfdhbigppockaaGreatDoor
