import Derived.Test.YtcncjgijikoapaaGreatDoorFV1
import Derived.Test.YtcncjgijikoapaaGreatDoorMB1
import Derived.Lib.LazyBuf
namespace Go.Proofs.YtcncjgijikoapaaGreatDoor
set_option maxHeartbeats 8000000
set_option maxRecDepth 100000
open _root_ renaming Array.size->Z,List.length->J,Nat->N,Int->I,rfl->R,Option.some->S,Option.none->U,Bool.true->So,absurd->Sz,trivial->JV,List.range->Rg,Bool.false->Sn,Decidable.decide->Jd
open Go renaming World.alloc->D,World.setCell->Se,World.ownsRow->Sx,IntKind.i64->S6,RowKit.Below->Sw,Obj.cells->Sc,Ending.returned->Rt,World.cell?->E,undef->Su,RowKit.intOf->JB,Calls->Sk,results->JC
open Value renaming slice->X,int->Si,agg->Sa,pointer->Sj,bool->Sb,tuple->St
open Go.RowKit Go.Proofs.Tryz Go.Shelf
variable{T:I}{n m k B g i j c:N}{w v:Ub}{a A_:Uj}{p P:Uy}{M N_:Vp}{l:Wc}{x X_:Wi}{f F:Wk}{y:Wo}
noncomputable def R7(b:Bool)(n:N)(a:List Yj)(s:cB):List Yj×Wc×cB :=
 if b=So then
  if 1<n then (a++[⟨1,0,1+(iw s<|(n:I)-1).1,0⟩],RO (a.map kj)++[0],(iw s<|(n:I)-1).2)
  else (a++[⟨3,0,0,0⟩],RO (a.map kj)++[0],s)
 else (a,RO<|a.map kj,s)
theorem QV{dead:Bool}{a:List Yj}{s:cB}(d:J a=n)(f:1<=n)(i:n<=1000)(h:∀j (h:j<J a),r8 n j a[j]):J (R7 dead n a s).2.1=J (R7 dead n a s).1/\J (R7 dead n a s).1<=n+1/\n<=J (R7 dead n a s).1/\∀b,0<b->b<J (R7 dead n a s).1->∃c:N,(R7 dead n a s).2.1.getD b 0=(c:I)/\c<b:=by
 have e:J (RO<|a.map kj)=n:=G (An) (by simpa using d);have k:∀t:Yj,∀b,0<b->b<J (a++[t])->∃c:N,(RO (a.map kj)++[0]).getD b 0=(c:I)/\c<b:=λt b g p=>by
  by_cases l:b<n
  .obtain⟨c,e1,e2⟩:=IK d f i h g l;exact⟨c,by rw[<-e1];simp[List.getD,dL (by omega:b<J (RO<|a.map kj))],e2⟩
  refine⟨0,?_,g⟩;simp at p;have:b=J (RO<|a.map kj):=O;subst this;simp
 unfold R7;split
 .split;·refine⟨by simp[e,d],by simp[d],by simp[d],k _⟩
  refine⟨by simp[e,d],by simp[d],by simp[d],k _⟩
 exact⟨G e d.symm,by show J a<=n+1;omega,by show n<=J a;omega,λb m o=>IK d f i h m (by have q:b<J a:=o;omega)⟩
theorem Lw(h:Sx w n 52 6 (Hl m k c) (J x) (jx LQ LQ x))(d:∀g∈x,g.1=[]/\g.2=[]):Xp w n (Z w.1) (S ⟨m,0,U⟩) x:=by
 have:xW w (λ_=>(1,0,0)) n (Hl m k c) x LQ LQ (λ_=>LQ):=by
  refine⟨⟨h,λ_ _=>R⟩,λi a=>?_,λi a=>?_,λi a j f=>?_⟩
  .rw[(d _<|aH a).1];exact⟨dA,λb e=>by cases e⟩
  .rw[(d _<|aH a).2];exact⟨dA,λb e=>by cases e⟩
  rw[(d _<|aH a).1]at f;exact Sz f sP
 exact this.at_
theorem wJ(b:List Yj):∀x∈b.map kj,x.1=[]/\x.2=[]:=λx a=>by obtain⟨t,_,rfl⟩:=aY.1 a;exact⟨R,R⟩
theorem Rz.call{wr:Ub}{s b:cB}{vG:Uj}(h:Rz w wr n m s k vG x a l)(g:wr.grownBy v (S n))(d:i9 v n m b):Rz w v n m b k vG x a l:=by have c:=h.3;have i:=h.1.3;have f:=h.6;exact⟨d,R9 h.2 g,c,h.4.grown g (by intro e;injection e;omega),h.5.grown g (by intro e;injection e;omega),f,TW h.7 g O,TW h.8 g O,h.9⟩
theorem Rz.box{wr:Ub}{s:cB}{vG:Uj}(h:Rz w wr n m s k vG x a l)(o:Obj):Rz w (D wr o) n m s k vG x a l :=
 ⟨h.1.box o,R9 h.2<|bW _ _ _,h.3,h.4.box o,h.5.box o,h.6,h.7.alloc o,h.8.alloc o,h.9⟩
theorem Rz.put{wr:Ub}{s:cB}{vG:Uj}(h:Rz w wr n m s k vG x a l)(d:Z w.1<B)(hF:B≠k)(b:vG.ownBlock≠S B)(c:a.ownBlock≠S B):Rz w (Se wr ⟨B,g,U⟩ A_) n m s k vG x a l:=by have e:=h.3;exact⟨h.1.put O,Rv h.2 O,h.3,h.4.other O,h.5.other<|kA hF,h.6,fS h.7 b A_,fS h.8 c A_,h.9⟩
theorem Rz.low{wr:Ub}{s:cB}{vG:Uj}(h:Rz w wr n m s k vG x a l)(c:Sw (Z w.1) wr v):i9 v n m s/\w.grownBy v (S n) :=
 ⟨h.1.keep<|c.mono h.3,⟨G c.1 h.2.1,G c.2 h.2.2,G c.3 h.2.3,aJ h.2.4 c.4,λb d e=>G (c.5 b d) (h.2.5 b d e)⟩⟩
theorem Rz.pushB{wr:Ub}{s:cB}{vG:Uj}{t:Yj}(h:Rz w wr n m s k vG x A_ l)(d:wr.grownBy v vG.ownBlock)(f:Sx v (Z w.1) 52 6 a B (jx LQ LQ x++[X U 0 0,X U 0 0,Si S6 t.1,Si S6 t.a,Si S6 t.3,Si S6 t.4]))(p:B=J x+1):
 Bx v k #[Si S6 0,vG] 25/\Rz w (Se v ⟨k,1,U⟩ a) n m s k a (x++[kj t]) A_ l:=by
 have o:=h.3;have i:=h.low<|Xy Rf d h.7 aA h.2.4;have j:=h.4.grown d λe=>oS h.7 h.4 vY e.symm;have hF:=h.5.grown d λe=>oS h.7 h.5 vY e.symm;have g:=Zl h.8 λb e=>d.5 b (h.8.lt b e).2 λe2=>A7 h.7 h.8 vY e2.symm e;refine⟨hF,i.1.put<|oN h.6,Rv i.2<|dU h.6,o,j.other<|oN h.6,?_,h.6,?_,fS g (oS g hF vY) a,λq c=>?_⟩
 .have:=hF.set 1 a;simpa using this
 .subst p;unfold jx at f |-;rw[aQ,Zo];exact fS f (oS f hF vY) a
 obtain c|c:=bU.1 c;·exact h.9 q c
 simp only[cH,eA,lL]at c;subst c;exact⟨R,R⟩
theorem Rz.pushI{wr:Ub}{s:cB}{vG:Uj}{x:I}(h:Rz w wr n m s k vG X_ A_ l)(c:wr.grownBy v A_.ownBlock)(g:Sx v (Z w.1) 2 1 a B (hC l++[H x]))(f:B=J l+1):
 Rz w v n m s k vG X_ a (l++[x]):=by
 have d:=h.low<|Xy Rf c h.8 aA h.2.4;refine⟨d.1,d.2,h.3,h.4.grown c λe=>oS h.8 h.4 vY e.symm,h.5.grown c λe=>oS h.8 h.5 vY e.symm,h.6,Zl h.7 λb e=>c.5 b (h.7.lt b e).2 λe2=>A7 h.7 h.8 vY e e2.symm,?_,h.9⟩;subst f;rw[aQ];have e:hC (l++[x])=hC l++[H x]:=by simp[hC]
 rw[e];exact g
section
attribute [local go_sem] Oper.semAt_some
theorem vF(n){v1 v2 v3 v4 v5:Uj}(g b C)(w:Ub):
 CallsIn Fence.wide n prog 76 #[Sa #[a,v1,v2,v3,v4,v5],Sa #[X (S ⟨g,0,U⟩) b C]] w λe c=>e=Rt (.func (.func 125) #[] #[Sj (S ⟨Z w.1+1,0,U⟩),Sj (S ⟨Z w.1,0,U⟩)])/\c=D (D w<|Sc #[a,v1,v2,v3,v4,v5] 52) (Sc #[X (S ⟨g,0,U⟩) b C] 86):=by
 refine iD func76 R JV ?_ R;simp only[ntmps76,xY,Nat.reduceAdd,Nat.reduceSub];gi_wp2;go_ret;exact⟨R,R⟩
end
section
attribute [local go_sem] Oper.semAt_some
theorem Po.lou{go}(h:Po w v m k x B g f go F M N_)(e:Jy n x)(s:m=J x):∀b,b<m->∀a,a<64*k->(Xh (N_ b) a=So↔UV x a b):=λb j a i=>by
 let⟨u,T,r,o,q1,q2,q3,q4,p,q⟩:=h.8;have l:=λb j a i=>(p b j a i).trans (Ff e q1 q2 q3 (ord:=(·∈o)) q4 O);have d:b<J x:=O;rw[q b j a,q3 b d,<-KE e d];constructor
 .rintro(h|⟨t,c,h⟩);·exact bC h
  exact aZ ⟨t,c,(l t (oN<|e.1.tg _ d _ c) a i).1 h⟩
 rintro(h|⟨t,c,h⟩);·exact bC h
 exact aZ ⟨t,c,(l t (oN<|e.1.tg _ d _ c) a i).2 h⟩
end
section
noncomputable def mm(a:List Xe)(V b:N):List (List N):=match a[b]? with
 |none=>[]
 |some x=>((Us (J x.2) 0).map λj:Fin (J x.2)=>Uq a x V b<|(j:N)+1)++[Uq a x V b 0]
noncomputable def Zw(a:Wi)(V k:N):List Wa:=(Rg k).flatMap (mm a V)
theorem VJ{a V k}:Zw a V (k+1)=Zw a V k++mm a V k:=by unfold Zw;rw[dN,eZ];simp
theorem Bg(a V){k n}(h:k<=n):Zw a V k <+: Zw a V n:=by
 induction n with
 |zero=>rw[show k=0 by omega];exact mD _
 |succ n b=>
  by_cases e:k=n+1;·rw[e];exact mD _
  rw[VJ];exact(b O).trans (List.prefix_append _ _)
theorem CZ{V a}(f:Jy V a){b}(d:b<J a){c p}(e:V<=p)(hq:∀v,v<p->(Xh c v=So↔UV a v b)):(TZ (J a[b].2) c (NS a[b])).map (λq=>Mq q.2 p)=mm a V b:=by rw[gH (g:=λq=>Uq a a[b] V b q.1) λq h=>wW f d e hq (i:=q.1) (W:=q.2) h,qw];unfold mm;rw[aC d];simp
def On(p:N)(s:Sd):Wa:=Mq s.W p
theorem vd{p}{a:List Sd}:a.map (On p)=(a.map Sd.dat).map (λq=>Mq q.2 p):=by rw[jO];rfl
def pm(V a z:N)(p:Sd)(b:Ub):Prop:=N1 V a p.W/\xn a z p b
def ru(a z:N)(s:Sd):Zh:=#[Sa #[X (S ⟨z,0,U⟩) a s.C]]
theorem Zf.far{n₀ Ms u f V}(h:Zf n₀ Ms u f)(e:n₀<=Z u.1)(k:∀q,q<Z u.1->V.1[q]?=f.1[q]?)(d:Z f.1<=Z V.1):Zf n₀ Ms u V :=
 ⟨aJ h.1 d,λq b a=>G (k q O) (h.2 q b a),λq o b a c=>G (k q (aS.1 a).1) (h.3 q o b a c)⟩
theorem Kd{B}{u e V:Ub}(h:KeepsFrom B u e)(k:∀q,q<Z u.1->V.1[q]?=e.1[q]?)(d:Z e.1<=Z V.1):KeepsFrom B u V :=
 ⟨aJ h.1 d,λq o b a c=>G (k q (aS.1 a).1) (h.2 q o b a c)⟩
structure O8(W u:Ub)(n₀:N)(Ms:Vv)(J_:N->List Sd->Vy)(s0:List Sd)(z:N)(ss:List Sd)(V:Ub):Prop where
 j:J_ z (s0++ss) V
 kp:Zf n₀ Ms u V
 kf:KeepsFrom (Z W.1) u V
structure Pk(W u:Ub)(Jx:List Sd->Vy)(s0 ss:List Sd)(V:Ub):Prop where
 j:Jx (s0++ss) V
 kf:KeepsFrom (Z W.1) u V
section
variable {W u: Ub} {n₀: N} {Ms: N -> Prop} {J_: N -> List Sd -> Ub -> Prop} {Jx: List Sd -> Ub -> Prop} {s0: List Sd}
theorem O8.own(b:∀z,OwnFrom (Z W.1)<|J_ z)(d:Z W.1<=Z u.1)(c:n₀<=Z u.1)(z):OwnFrom (Z u.1) (O8 W u n₀ Ms J_ s0 z):=λj l V row h k q=>by have g:=h.2.1;have a:∀i,i<Z u.1->V.1[i]?=l.1[i]?:=λi f=>k.5 i O (λe=>by have:=(q i e.symm).1;omega);exact⟨b z _ l V row h.j k λr e=>⟨oN<|(q r e).1,(q r e).2⟩,h.2.far c a k.4,Kd h.3 a k.4⟩
theorem Pk.own(a:OwnFrom (Z W.1) Jx)(c:Z W.1<=Z u.1):OwnFrom (Z u.1) (Pk W u Jx s0):=λg j V row h k q=>by have f:=h.2.1;have b:∀i,i<Z u.1->V.1[i]?=j.1[i]?:=λi d=>k.5 i O (λe=>by have:=(q i e.symm).1;omega);exact⟨a _ j V row h.j k λr e=>⟨oN<|(q r e).1,(q r e).2⟩,Kd h.2 b k.4⟩
theorem O8.turn(d:∀z s V a,Z W.1<=z->J_ z s V->V.grownBy a (S z)->J_ z s a)(g:Z W.1<=Z u.1)(f:n₀<=Z u.1){z}(m:Z u.1<=z){c}{n V:Ub}(h:O8 W u n₀ Ms J_ s0 z c n)(k:n.grownBy V (S z)):O8 W u n₀ Ms J_ s0 z c V:=by have l:=h.2.1;have b:∀i,i<Z u.1->V.1[i]?=n.1[i]?:=λi j=>k.5 i O (λe=>by injection e with e;omega);exact⟨d z _ n V O h.j k,h.2.far f b k.4,Kd h.3 b k.4⟩
end
end
section
attribute [local go_sem] Oper.semAt_some
theorem uF(L_)(cz:E w (A m 0)=S (H g))(ez:E w (A m 1)=S (X p i c))(ha:Q (Xp w k B p x))(hx:Q (i=J x))(hB:B<=n)(fq:n<=Z w.1)(hO:Q (Yy w))(hT:Q (Yb w))(c6:(1: N)<n)(c7:(0: N)<n)(V:Q (Jy g x))(b4:Q (j=(g+63)/64))(hM:Q (∀a,k<=a->a<B->¬L_ a))(V_:Q (∀a,Z w.1<=a->¬L_ a))(cr:Q (¬L_ 1))(cs:Q (¬L_ 0)):
 lf Fence.wide 9 prog 75 #[Hn m] (ru j) (pm g j) (Zf n L_) (λh=>h.map (On<|64*j)=Zw x g i) (λh=>h.map (On<|64*j) <+: Zw x g i) (i*4002) True True w:=by
 intro z bv Jx W hW hl hJ co cp cn hY h0;have HY:=Y hY;have HJ:=Y hJ;have ej:=Y co;have ek:=Y<|cp JV;have bm:=Y<|cn JV;have H0:=Y h0;clear hY hJ cp h0 co cn;have di:=hW.4;have hn:i<=1000:=oP hx.o V.1.2;have hV:=V.2;have ev:j<=100:=oN b4.o;have cw:g<=64*j:=oN b4.o;have cm:m<Z w.1:=aI w _ cz;have k0:=oB hW cz cm;have k1:=oB hW ez cm;refine callsIn_of_wp_marks func75 R JV ?_ R;simp only[ntmps75,xY,Nat.reduceAdd,Nat.reduceSub];have dj:=λP=>G (bP W P (A m 0) (by show m<_;omega)) k0;have dk:=λP=>G (bP W P (A m 1) (by show m<_;omega)) k1;gi_wp2;have bh:Q (Sw (Z W.1) W<|D W (Sc #[.func (.yield z) #[] #[]] 164)):=Y<|Xb Rf _;have df:E (D W<|Sc #[.func (.yield z) #[] #[]] 164) (A (Z W.1) 0)=S (.func (.yield z) #[] #[]):=SC
 have fz:Z (D W<|Sc #[.func (.yield z) #[] #[]] 164).1=Z W.1+1:=sP;have a0:=dj<|Sc #[.func (.yield z) #[] #[]] 164;have a1:=dk<|Sc #[.func (.yield z) #[] #[]] 164;generalize D W _=wa at*;clear dj dk k0 k1;have bi:=Y<|hW.trans (bh.mono di);have bl:=Y<|KO g p i c x k B wa (Y<|ha.keep (bi.mono O)) hx O V (Y<|hO.keep bi hO.1) (Y<|hT.keep bi hT.1);rw[<-b4.o]at bl;refine⟨JV,(bM.2 bl).mono ?_⟩;rintro bd s⟨Gi,t,gi,go,ci,WI,WX,rfl,r⟩;have ca:=Y<|r.lou V hx;have b5:=Y r.1;have fr:=r.1.4;have fb:Z wa.1<=t/\t<Z s.1:=⟨r.6.2,r.3.1.lt⟩;have ch:=Y r.3;have eg:=Y λe7 hi=>(r.7 e7 hi).2;have es:Q (∀F,XA<|WX F):=Y r.5;have b0:=G (XU r.1 O) a0;have b1:=G (XU r.1 O) a1;have y1:=G (XU r.1 O) df;have eu:=λP=>G (bP s P (A m 1) (by show m<_;omega)) b1;clear r a0 a1 df;gi_wp2;have bx:(λx9:Ub=>Q (Sw (Z s.1) s x9)/\E x9 (A (Z s.1) 1)=S (Hl t i i)/\Z x9.1=Z s.1+1) (D s<|Sc #[Hl Gi i i,Hl t i i] 122):=⟨Y<|Xb Rf _,SC,sP⟩;generalize D s _=w2 at*;let⟨a8,c9,fs⟩:=bx;have ck:=Y<|Xg (Xg bh b5) a8;have cl:=Y<|hW.trans (ck.mono di);have et:=Y<|G (XU a8 O) y1;have en:=Y c9;have bq:Q (XK w2 t i j go (λ_=>j) WX):=Y<|ch.keep a8;have ad:=Y<|H0.o (Z W.1) w2 aA O ck;clear c9 y1 b0 b1 eu a8;refine nH (λaa wr=>∃(a K:N)(T_:Wa)(h:List Sd)(u4 u5 dl dn du dw dz d0 eb u21 u22 ec ed u31:Uj),a<=i/\aa=⟨#[.func (.yield z) #[] #[],Hn m,Hn (Z W.1),Hn (Z s.1),u4,u5,Su,Su,Sa #[H g,X p i c],Sa #[Hl Gi i i,Hl t i i],Ho m 1,X p i c,H i,H a,dl,dn,du,dw,dz,d0,eb,u21,u22,ec,ed,Su,Su,Su,Su,Su,Su,u31],O7 T_⟩/\Q (Zf n L_ w2 wr)/\Q (KeepsFrom (Z W.1) w2 wr)/\Q (ZJ wr (Z w2.1) T_)/\Z W.1<=K/\Q (bv K h wr)/\Q (h.map (On<|64*j)=Zw x g a)/\Q (J h<=a*4002)) (λaa _=>i-(JB<|aa.1.getD 13 Su).toNat) ?_ ?_;·exact⟨0,Z W.1,[],[],_,_,_,_,_,_,_,_,_,_,_,_,_,_,aN,R,Y<|Zf.refl _,Y<|KeepsFrom.refl _ _,Y ⟨iU,λ_ l=>Sz l eA,λ_ l=>Sz l eA⟩,aA,ad,Y R,Y<|aN⟩
 rintro aa wr⟨a,K,T_,h,u4,u5,dl,dn,du,dw,dz,d0,eb,u21,u22,ec,ed,u31,hk,rfl,ap,el,S_,hz,b7,bt,b8⟩;clear ad;have f7:=ap.1;by_cases M_:a<i;rotate_left
 .have e6:a=i:=O;subst e6;gi_wp2;refine JZ T_ wr S_ λW' q1 q2 q3 q4 q5=>⟨St #[],gV R _ _ _,⟨_,R⟩,.inl ⟨K,h,hz,bt,bm.1 K K h wr W' hz b7 ⟨q1,q2,q3,q4,λq hq=>q5 q λhm=>by have:=S_.2 q hm;omega⟩⟩⟩
 have ab:a<J x:=oN hx.o;let⟨F,af,ea,cx,hc⟩:=ha a ab;subst ea;let⟨P_,Q_,N_,O_,e0,e1,⟨e2,e3,e4,e5⟩,db,c8⟩:=hc;have ey:F<Z w.1:=O;have Z_:∀(q:N)(C:Uj),E w (A F q)=S C->E wr (A F q)=S C:=λq C l=>ap.cell (oB cl l ey) (hM F cx.1 cx.2);have f0:=Z_ _ _ e0;have f1:=Z_ _ _ e1;have f2:=Z_ _ _ e2;have f3:=Z_ _ _ e3;have f4:=Z_ _ _ e4;have f5:=Z_ _ _ e5;have cf:=Y db;have b6:=Y c8;have aq:=Y<|V.10 x[a] (aH ab);have ce:=Y<|qF V (aH ab);have cd:=Y<|V.3 x[a] (aH ab);have cj:=Y<|V.4 x[a] (aH ab);have br:=Y<|CZ V ab cw (ca a M_);let⟨L,hX⟩:∃L,L=x[a]:=⟨_,R⟩;rw[<-hX]at f0 f1 f2 f3 f4 f5 cf b6 aq ce cd cj br;clear hX db c8 e0 e1 e2 e3 e4 e5 Z_;gi_wp2
 have bx:(λx9:Ub=>Sw (Z wr.1) wr x9/\Z wr.1+1<=Z x9.1/\(∀q C,#[X P_ (J L.1) Q_,X N_ (J L.2) O_,H L.3.1,H L.3.a,H L.3.3,H L.3.4][q]?=S C->E x9 (A (Z wr.1) q)=S C)) (D wr<|Sc #[X P_ (J L.1) Q_,X N_ (J L.2) O_,H L.3.1,H L.3.a,H L.3.3,H L.3.4] 52):=⟨Xb Rf _,sP,(λq C l=>by rw[eC];exact l)⟩
 generalize D wr _=f at*;let⟨be,f6,ac⟩:=bx;have x0:=ac 0 _ R;have x1:=ac 1 _ R;have x2:=ac 2 _ R;have x3:=ac 3 _ R;have x4:=ac 4 _ R;have x5:=ac 5 _ R;have s1:=G (be.cell (p:=A (Z s.1) 1) (by show Z s.1<_;omega)) (ap.cell en<|V_ _ (by show Z w.1<=Z s.1;omega));have s2:=G (be.cell (p:=A t a) (by show t<_;omega)) (ap.cell (bq.1.cell M_) (V_ _<|by show Z w.1<=t;omega));have ee:=Y be;clear be ac f0 f1 f2 f3 f4 f5;refine Tc (λR_=>E R_ (A (Z wr.1) 0)=S (X P_ (J L.1) Q_)/\E R_ (A (Z wr.1) 1)=S (X N_ (J L.2) O_)/\E R_ (A (Z wr.1) 2)=S (H L.3.1)/\E R_ (A (Z wr.1) 3)=S (H L.3.a)/\E R_ (A (Z wr.1) 4)=S (H L.3.3)/\E R_ (A (Z wr.1) 5)=S (H L.3.4)/\E R_ (A (Z s.1) 1)=S (Hl t i i)/\E R_ (A t a)=S (Hl (go a) j j)) λig=>?_;refine Yi 0 ?_;refine Yi 1 ?_;refine Yi 2 ?_;refine Yi 3 ?_;refine Yi 4 ?_;refine Yi 5 ?_;refine Yc 6 λe9 hK=>?_;go_simp;refine⟨JV,(vF 8 (go a) j j f.drew).mono ?_⟩;rintro bd u⟨rfl,a7⟩;have b3:Sw (Z f.1) f u:=by rw[a7];exact Xb (Xb (dC (Z f.1) f).drew _) _
 have fx:Z f.1+2<=Z u.1:=by rw[a7,aO,aO];exact aA
 have Y_:∀q C,#[X P_ (J L.1) Q_,X N_ (J L.2) O_,H L.3.1,H L.3.a,H L.3.3,H L.3.4][q]?=S C->E u (A (Z f.1) q)=S C:=λq C l=>by rw[a7,bP _ _ (A (Z f.1) q) (by rw[aO];show Z f.1<Z f.1+1;omega)];exact G (eC f.drew _ _ q) l
 have dc:E u (A (Z f.1+1) 0)=S (Hl (go a) j j):=by rw[a7];have:=eC (D f.drew<|Sc #[X P_ (J L.1) Q_,X N_ (J L.2) O_,H L.3.1,H L.3.a,H L.3.3,H L.3.4] 52) #[Hl (go a) j j] 86 0;rw[aO]at this;exact this
 have H_:=λ(bb q:N)(hb:bb<Z f.1)=>b3.cell (p:=A bb q) hb;have z0:=G (H_ (Z wr.1) 0 O) x0;have z1:=G (H_ (Z wr.1) 1 O) x1;have z2:=G (H_ (Z wr.1) 2 O) x2;have z3:=G (H_ (Z wr.1) 3 O) x3;have z4:=G (H_ (Z wr.1) 4 O) x4;have z5:=G (H_ (Z wr.1) 5 O) x5;have t1:=G (H_ (Z s.1) 1 O) s1;have t2:=G (H_ t a O) s2;have al:=Y<|Xg ee b3;have ba:=Y<|ap.trans (Z4 al O);have ef:=Y (el.trans ⟨al.4,λq P _ b _=>G (al.5 q (aS.1 b).1) b⟩);have a6:=λq d b=>G (ba.2 q d b) (cl.5 q O)
 have ep:Q (UI L k B (Z f.1) n (Z u.1) u):=Y ⟨hO.of_block (a6 _ c6 cr) O,hT.of_block (a6 _ c7 cs) O,⟨P_,Q_,N_,O_,Y_ 0 _ R,Y_ 1 _ R,⟨Y_ 2 _ R,Y_ 3 _ R,Y_ 4 _ R,Y_ 5 _ R⟩,cf.keepS λq d b=>a6 q O<|hM q d b,b6.keepS λq d b=>a6 q O<|hM q d b⟩,O,O,c6,c7,O⟩;have fi:=eg a M_;have er:Q (Cp u (go a) j j (WX a)):=Y ((bq.2 a M_).of_block (by let⟨P,d,b⟩:=(bq.2 a M_).obj;rw[d];exact ba.3 _ P (V_ _ O) d b))
 have eo:=Y dc;have ei:Q (∀e V',Z u.1<=e->Sw (Z u.1) u V'->bv e h V'):=Y λe V' d b=>bm.1 K e h wr V' O b7<|(al.mono O).trans (b.mono O);refine hK _ _ ⟨z0,z1,z2,z3,z4,z5,t1,t2⟩ λig=>?_;clear hK;refine ZV ?_;have cb:Q (∀(T:N)(M:Ub),Z u.1<=T->KeepsFrom (Z W.1) u M->M.1[T]?=S (.deferred (S []))->ZJ M (Z w2.1) (T::T_)):=Y (λT M d b v=>by
  have hl:=λq hq=>(aS.1<|S_.3 q hq).1;refine⟨fL.2 ⟨λhq=>by have:=hl T hq;omega,S_.1⟩,λq hq=>?_,λq hq=>?_⟩
  .rcases cH.1 hq with rfl|hq;·omega
   exact S_.2 q hq
  obtain rfl|hq:=cH.1 hq;·exact v
  have h5:=S_.2 q hq
  exact b.2 q _ O (G (al.5 q<|hl q hq) (S_.3 q hq)) R)
 clear ig z0 z1 z2 z3 z4 z5 t1 t2 x0 x1 x2 x3 x4 x5 s1 s2 dc H_ b3 Y_ a7 a6;gi_wp2
 refine nX (F:=Fence.wide) (n:=9) R vY (gf:=125) (lb:=#[Hn<|Z f.1+1,Hn (Z f.1)]) R JV (enters_of func125 vZ R) (tU L_ ep eo er (Y<|es.o a) ev cw hM (Y<|V_.o _ O) (Y λq hq=>V_ q O) cr cs cd cj aq.1 aq.2 ce (Y λe8 d b=>((ca a M_ e8 d).1 b).val V ab)) (λK=>qj _ _ _ _ K) (λl a=>l.trans a) (λW z af o' d b v=>Zf.putObj W z af o' O b v) Rf (λ_ _=>R)
  (λe=>O8 W u n L_ bv h e) (λcc J_ M=>cc=.ret/\Pk W u Jx h J_ M) (λe=>O8.own HJ O O e) ?ownX (λ_ e ga aj A' bf l ar=>l.turn ek O O bf ar) (λl=>l.elim) ?start
  (λe I_ a' M=>∃G_:N,a'=⟨#[.func (.yield z) #[] #[],Hn m,Hn (Z W.1),Hn (Z s.1),H a,Hn (Z wr.1),Su,Hn G_,Sa #[H g,Hm F af i c],Sa #[Hl Gi i i,Hl t i i],Ho m 1,Hm F af i c,H i,H a,Sb So,H a,Ho F<|af+a*6,Sa #[X P_ (J L.1) Q_,X N_ (J L.2) O_,H L.3.1,H L.3.a,H L.3.3,H L.3.4],Sa #[X P_ (J L.1) Q_,X N_ (J L.2) O_,H L.3.1,H L.3.a,H L.3.3,H L.3.4],Ho (Z s.1) 1,Hl t i i,H a,Ho t a,Sa #[Hl (go a) j j],.func (.func 125) #[] #[Hn<|Z f.drew.1+1,Hn (Z f.drew.1)],H (I_.i:I),Sa #[Hl e j I_.C],Su,Su,Su,Su,u31],[]⟩/\Z u.1<=G_/\E M (A G_ 0)=S (Hl e j I_.C)) ?ownA ?assign ?body ?done ?stop
 case ownX=>
  rintro cc J_ aj M row⟨rfl,l⟩ ar q;exact⟨R,Pk.own ej O J_ aj M row l ar q⟩
 case start=>
  intro e M d b v;exact⟨by rw[fF];exact ei e M d v,Z4 v O,⟨v.4,λq P _ q2 _=>G (v.5 q (aS.1 q2).1) q2⟩⟩
 case ownA=>
  rintro e I_ a' _ aj M row⟨G_,bd,d,b⟩ ar q;refine⟨G_,bd,d,G (Xc<|ar.5 G_ (aI aj _ b) λe2=>?_) b⟩;let⟨P,v,h4⟩:=Yn b;let⟨_,o2,h5,h6⟩:=q G_ e2.symm;rw[show aj.1[G_]?=S P from v]at h5;injection h5 with h5;subst h5;rw[h4]at h6;cases h6
 case assign=>
  intro l' e J_ I_ M KK bf y hP cq;have o:=Y y;have bc:=Y hP;have em:=Y cq;clear y hP cq;unfold rx;gi_wp2;have a3:Sw (Z M.1) M (D M<|Sc #[Hl e j I_.C] 86):=Xb Rf _;exact em _ _ ⟨a3.4,λa af d _=>G (a3.5 a (aS.1 d).1) d⟩ (Z4 a3<|oN o.2.1) (XO (O8.own HJ O O e) o a3) (tH bc a3) ⟨Z M.1,R,o.2.1,SC⟩
 case body=>
  rintro l' e J_ I_ a' M bf fj _ y hP⟨G_,rfl,fc,fe⟩ fl;have o:=Y y;have bc:=Y hP;have HL:Q (J (h++J_)<i*4002):=Y (by have d:=b8.o;have b:=aq.1;rw[aQ];have v:(a+1)*4002<=i*4002:=jI _ M_;omega)
  have yb:=y.2.cell (ba.cell et<|V_ _ (by show Z w.1<=Z W.1;omega)) (V_ _<|by show Z w.1<=Z W.1;omega);clear y hP;let⟨fn,tmps,fa,bo,hy,r⟩:=KY (l':=l') (m':=6) (HY e (h++J_) I_ M O o.j ⟨bc.1.2,bc.2⟩ HL);have dd:(Instr.yield z #[Sa #[Hl e j I_.C]]).run prog M=_:=hy;clear hy;gi_wp2;refine r.mono ?_;rintro bd U2 (⟨rfl,az,a5,a4⟩|⟨rfl,az,a5,a4⟩)
  .have ad:=Y az;have a9:=Y a5;have ao:=Y a4;clear az a5 a4 r dd;gi_wp2;exact⟨JE ao O,a9,by rw[<-cK];exact ad,o.2.trans a9,o.3.trans ao⟩
  have ad:=Y az;have a9:=Y a5;have ao:=Y a4;clear az a5 a4 r dd;gi_wp2;exact⟨JE ao O,a9,R,by rw[<-cK];exact ad,o.3.trans ao⟩
 case done=>
  rintro T e s' M hD bf ct y a2;have o:=Y y;have bn:=Y a2;have cg:=Y ct;clear y a2 ct;gi_wp2;refine⟨⟨a+1,e,T::T_,h++s',_,_,_,_,_,_,_,_,_,_,_,_,_,_,O,R,Y<|ba.trans o.2,Y<|ef.trans o.3,Y ?mk,O,Y o.j,Y ?ls,Y ?ln⟩,?ms⟩
  case mk=>exact cb T M hD o.3 bn
  case ls=>
   rw[bG,bt.o,VJ,<-br.o,<-cg.o,<-vd]
  case ln=>
   have d:=fI List.length cg;rw[bK]at d;have b:=qI (J L.2) (NS L) (WX a);have v:J (NS L)=J L.2+2:=by simp[NS,Vf]
   have h4:=b8.o;have h5:=aq.1;rw[aQ];omega
  simp[JB];omega
 rintro T cc J_ M hD cv⟨rfl,y⟩ a2;have o:=Y y;have bn:=Y a2;have eq:=Y cv;clear y a2 cv;gi_wp2;have da:=cb T M hD o.2 bn;refine JZ (T::T_) M da (λW' q1 q2 q3 q4 q5=>⟨St #[],gV R _ _ _,⟨_,R⟩,.inr ⟨h++J_,?_,bm.2 _ M W' o.j ⟨q1,q2,q3,q4,λq hq=>q5 q λhm=>by have:=da.2 q hm;omega⟩⟩⟩);rw[bG,bt.o,vd];refine List.IsPrefix.trans ?_ (Bg x g<|show a+1<=i from M_);rw[VJ,<-br.o];exact(List.prefix_append_right_inj _).2 (eq.map _)
end
section
attribute [local go_sem] Oper.semAt_some
theorem Wx(n){a v1:Uj}(w:Ub):
 CallsIn Fence.wide n prog 32 #[Sa #[a,v1]] w λe b=>e=Rt (.func (.func 75) #[] #[Sj (S ⟨Z w.1,0,U⟩)])/\b=D w (Sc #[a,v1] 25):=by
 refine iD func32 R JV ?_ R;simp only[ntmps32,xY,Nat.reduceAdd,Nat.reduceSub];gi_wp2;go_ret;exact⟨R,R⟩
theorem un{n a B}(z):OwnFrom B (pm n a z):=λp c V row h k q=>by have b:=qj n p.i a B z p c V row ⟨⟨aA,h.1⟩,h.2⟩ k q;exact⟨h.1,b.2⟩
theorem th{n a z:N}{p:Sd}{V V':Ub}(h:pm n a z p V)(k:Sw (Z V.1) V V'):pm n a z p V':=⟨h.1,h.2.1.of_block<|k.5 z h.2.1.lt,h.2.2⟩
def NW{a:Type}(l:List (List a)):N:=(l.map List.length).foldl max 0
section
variable {w6 V V': Ub} {Bm p: N} {pre: List Sd}
end
end
theorem ym(e:Jy n x)(a:k<J x)(g:(m:I)∈AQ x 0 (k:I)):∀q∈E9 (de (AQ x 0 (k:I)) (m:I)) (iT x (k:I)),(0<=q.1/\q.1<n)/\(0<=q.2/\q.2<n):=by
 intro q hq;rw[pD a]at hq;unfold E9 at hq;obtain⟨h,c,rfl⟩:=aY.1 hq;have b:=e.9 k a h c;have f:=pC g;refine⟨e.8 _ (aH a) h c,?_⟩;have d:de (AQ x 0 k) m<J h.2:=by rw[b.1];exact f
 rw[bF,aC d];exact b.2 _<|aH d
section
theorem j8{w b d t e f g}(h:Bx w b f t)(k:Bx w d g e)(j:t≠e):b≠d:=λi=>by subst i;unfold Bx at h k;rw[h]at k;injection k with k;injection k with _ k;exact j k
theorem XW.below{w w':Ub}{lab:N->N×N×N}{d}(h:Sw (Z w.1) w w'):XW w w' lab lab d (λ_=>True) :=
 ⟨h.4,λb _ e _=>⟨h.5 b e,R⟩,λg b f=>g b<|aJ h.4 f⟩
variable {w wr w': Ub} {lab lab': N -> N×N×N} {V: I} {a: Uy} {n c: N} {k: I} {mb: N} {mv sv: Uj} {M S_: List ag} {iv jv: N -> Uj} {ok: N -> Prop}
variable {xb: N} {xv v8: Uj} {is: Vr} {t: Yj} {w8: Ub}
end
theorem Qa:(prog.info? 54).map (λi=>(i.8,i.3,i.4))=S (S<|Sa #[Hq,H 0,H 0,H 0,H 0],5,56):=vZ
theorem rP(b):∀(a:Wi)(i k:N)(h:k<J a),b∈a[k].3.tg->((i+k:N):I)∈AQ a i b
 |[],_,_,h,_=>Sz h sP
 |x::a,i,k,h,hb=>by
  rw[AQ,bU];cases k with
  |zero=>left;simp only[eM]at hb;simp[hb]
  |succ k=>
   right;have:=rP b a (i+1) k SI (by simpa using hb);rwa[show i+1+k=i+(k+1) by omega]at this
theorem m8(a):J (dp a)<=128:=by
 by_cases b:bw a=So
 .let⟨c,d⟩:=rK b;unfold dp;rw[aU b];refine aJ (oC _ _) ?_;have:J (bu a)<=J a:=fJ _ _;omega
 unfold dp;rw[aM b];exact aN
theorem rk{e1 s1:N}{v1:Uj}{c1:Wo}(h:Sx w n e1 s1 v1 m c1)(k:Sw (Z w.1) w v):Sx v n e1 s1 v1 m c1:=by refine h.kept (row:=U) ⟨k.1,k.2,k.3,k.4,λq hq _=>k.5 q hq⟩ ?_;cases v1.ownBlock<;>simp
theorem zO{P b}(g:Yr):(WC P (c+1) b).flatMap g=(WC P c b).flatMap g++(if P.getD c 0=(b:I)then g c else []):=by
 unfold WC;rw[dN,eU,iW,jX,eZ];by_cases e:P.getD c 0=(b:I);·rw[aU (by rw[iA];exact e),aU e];simp
 rw[aM (by rw[iA];exact e),aM e];simp
theorem zR{P:Wc}{b}(g:Yr):∀(m c:N),c+m=J P->∃r,(Nj P b).flatMap g=(WC P c b).flatMap g++r
 |0,c,h=>⟨[],by rw[show c=J P by omega,vM];simp⟩
 |m+1,c,h=>by obtain⟨r,a⟩:=zR (P:=P) (b:=b) g m (c+1) O;exact⟨_,by rw[a,zO,cK]⟩
theorem zV(w:Ub)(b:N):Sx (D w<|Sc #[Si S6 (b:I)] 2) (Z w.1) 2 1 (X (S ⟨Z w.1,0,U⟩) 1 1) (J [b]) (Je [b]):=by have:=eI (base:=Z w.1) (e:=2) (size:=1) w #[H b] 1 sP vY R;simpa [Je]using this
theorem Me(L ic aj B)(z:Q (n=J l))(hn:n<=1000)(x:Vv)(hG:Q (∀b c,x b->c∈Nj l b->x c))(hL:Q (∀m b,x b->J (XT l m b)<=1000)):
 ∀(m b:N)(w:Ub),Q (Xf w aj B L l)->B<=Z w.1->Q (x b)->m<=1000 ->
 Sk prog 124 #[X L n ic,H b,H m] w λe V=>∃M,e=Rt M/\Sw (Z w.1) w V/\Sx V (Z w.1) 2 1 M (J (XT l m b)) (Je<|XT l m b):=by
 intro m
 induction m with
 |zero=>
  intro b w q P p hm;have ba:((0:N):I)=0:=R
  go_in
  go_wp2;go_ret;exact⟨_,R,Xb Rf _,zV w b⟩
 |succ m T=>
  intro b w q P p hm;have IH:=Y T;clear T;have L_:Q (Sw (Z w.1) w<|D w (Sc #[H b] 2)):=Y<|Xb Rf _;have H_:=Y<|zV w b;have K:Q (XT l (m+1) b=b::(Nj l b).flatMap (XT l m)):=Y R;have ab:Q (J (b::(Nj l b).flatMap (XT l m))<=1000):=Y (K.o▸hL _ _ p);rw[K.o];let⟨C,W⟩:∃C:I,C=((m+1:N):I):=⟨_,R⟩;rw[<-W];have bc:C-1=(m:I):=O;have a6:(C==0)=Sn:=SB
  clear W
  go_in
  go_wp2
  go_loopw [7,8] (λvo u wr=>∃(c:N)(i:Uy)(a j:N),c<=n/\u=H c/\vo=X i a j/\Q (a=J (b::(WC l c b).flatMap (XT l m)))/\Q (Sw (Z w.1) w wr)/\Q (Sx wr (Z w.1) 2 1 (X i a j) a (Je (b::(WC l c b).flatMap (XT l m))))) λ_ u _=>n-(JB u).toNat
  .exact⟨0,_,_,_,aN,R,R,Y (by simp[WC]),L_,Y<|by simpa [WC]using H_.o⟩
  obtain⟨c,i,a,j,hc,rfl,rfl,g,f,h⟩:=hrel;by_cases a9:c<n
  .have r:c<J l:=oN z.o;obtain⟨b5,o5,rfl,a5,e5⟩:=q c r;have a2:=G (XU f O) e5;have s:l.getD c 0=l[c]:=by simp[r]
   have d:=Y<|zO (P:=l) (c:=c) (b:=b) (XT l m);rw[s]at d;let⟨bf,Q_⟩:=zR (P:=l) (b:=b) (XT l m) (n-(c+1)) (c+1) (oN z.o);have aa:Q (l[c]=(b:I)->c∈Nj l b):=Y λe=>o8.2 ⟨r,s▸e⟩;have E_:Q (J (b::(WC l (c+1) b).flatMap (XT l m))<=1000):=Y (by have:=ab.o;rw[Q_]at this;simp only[bA,aQ]at this |-;omega)
   clear e5 s Q_;generalize l[c]=T_ at*;by_cases x_:T_=(b:I)
   .subst x_;rw[aU R]at d;rw[d.o]at E_;have q1:((b:I)==b)=So:=sP;have C_:=Y<|IH.o c wr (Y<|q.keep (f.mono P)) (oN f.4) (Y<|hG.o b c p (aa R)) O;have ar:0<J (XT l m c):=by cases m<;>simp[XT]
    have F_:Q (a+J (XT l m c)=J (b::((WC l c b).flatMap (XT l m)++XT l m c))):=Y (by rw[g.o];simp;omega);have bb:a+J (XT l m c)<=1000:=F_.o▸E_;have W_:Q (Je (b::(WC l c b).flatMap (XT l m))++Je (XT l m c)=Je (b::(WC l (c+1) b).flatMap (XT l m))):=Y (by rw[d.o];simp[Je]);have ac:Q (a+J (XT l m c)=J (b::(WC l (c+1) b).flatMap (XT l m))):=Y (by rw[F_.o,d.o]);go_wp2_with fail
    refine C_.mono ?_;rintro e w5⟨v5,rfl,k,t⟩;obtain⟨M_,c5,rfl,a7,_⟩:=Xm t ar;have I_:=Y (n9 h aA λo e=>k.5 o (h.lt o e).2);have X_:=Y<|Xg f k;have Z_:Q (∀F u,(Je<|XT l m c)[F]?=S u->E w5 (((A M_ 0):Addr).add F)=S u):=Y (λF u y=>by rw[mK,aV];exact Jj t y);have be:=f.4;have ad:Q (J (Je<|XT l m c)=J (XT l m c)*1):=Y (by simp[Je]);clear k t;generalize J (XT l m c)=lp at*;go_wp2_with (at_builtin;refine YB RH I_ Z_ (by intro u y;obtain⟨bh,_,rfl⟩:=aY.1 y;rfl) ?_ (hl:=ad))
    intro v8 w8 v P_ _ al;obtain⟨g8,c8,rfl,a8,_⟩:=Xm v O;have Y_:=Y (X_.grown P_ O λo e=>(I_.lt o e).1);have J_:=Y v;rw[W_.o]at J_;clear v P_ al;go_wp2;exact⟨⟨c+1,_,_,_,O,gM,R,ac,Y_,J_⟩,SA⟩
   rw[aM x_,fF]at d;go_wp2;exact⟨⟨c+1,i,a,j,O,gM,R,Y (d.o▸g),f,Y (d.o▸h)⟩,SA⟩
  have ap:c=n:=O;have af:Q (WC l c b=Nj l b):=Y (by rw[ap,z.o];rfl);rw[af.o]at h g;go_wp2;go_ret;refine⟨_,R,f,?_⟩;have:=h.o;rw[g.o]at this |-;exact this
theorem EH:0<NO f n↔∃x,x<64*n/\Xh f x=So:=by
 unfold NO;rw[nC];constructor;·rintro⟨x,a,b⟩;exact⟨x,bE.1 a,b⟩
 rintro⟨x,a,b⟩;exact⟨x,bE.2 a,b⟩
theorem Dq(x y:Uj)(W:Ub):(Instr.field 122 (Sa #[x,y]) 0).run prog W=.ok x W:=vZ
theorem Te(v a c)(ha:Q (Xp w n m p x))(f:Q (a=J x))(hs:Q (J x+Xx x<=1048576))(L:m<=Z w.1)(y:Q (Yy w))(z:Q (Yb w)):
 Sk prog 23 #[Sa #[H v,X p a c]] w λe w'=>e=Rt (H<|Ft v x)/\Sw (Z w.1) w w':=by
 have k:=Y λW (F:Sw (Z w.1) w W)=>JK v p a c x n m W (Y<|ha.keep (F.mono L)) f hs (oN F.4) (Y (y.keep F y.1).old) (Y (z.keep F z.1).old);cases hv:XJ ⟨v,x⟩with
 |false=>
  rw[hv]at k;rw[Uh hv];clear hv
  go_in
  go_wp2_with fail
  refine YU (k _<|Xb Rf _) λw1 g=>?_;have M:=Y<|Xg (Xb (dC (Z w.1) w) _) g;clear g;go_wp2;go_ret;exact⟨R,M⟩
 |true=>
  rw[hv]at k;have P:=Y hv;have az:0<=v:=by simp only[XJ,Y6,bY,bD]at hv;omega
  obtain⟨V,rfl⟩:=bX az;have d:=Y<|XH hv;have hn:a<=1000:=oP f.o d.1.2;have s:0<a:=oP f.o d.1.1;have a9:a<=64*((a+63)/64):=O;have ba:(a+63)/64<=100:=O;generalize a0:Ft V x=T;have J_:=Y a0;clear hv az a0
  go_in
  go_wp2_with fail
  have M_:Sw (Z w.1) w (D w<|Sc #[H V,X p a c] 25):=Xb Rf _;have al:E (D w<|Sc #[H V,X p a c] 25) (A (Z w.1) 0)=S (H V):=sP;have ao:E (D w<|Sc #[H V,X p a c] 25) (A (Z w.1) 1)=S (X p a c):=sP;have K:Z w.1<Z (D w<|Sc #[H V,X p a c] 25).1:=sP;refine YU (k _ M_) λw1 g=>?_;have M:=Y<|Xg M_ g;have g0:=oB g al K;have g1:=oB g ao K;have a1:=aX K g.4;clear g M_ al ao K;go_wp2_with fail
  refine(Ki V p c hn).mono ?_;rintro e S_⟨K_,gS,rfl,bi,bn,r,ar⟩;have j:=Y<|Xg M r;have ab:=Y ar;have k0:=oB r g0 a1;have k1:=oB r g1 a1;have bp:=r.4;have a6:Q (∀b∈x,∀a4∈b.3.tg,0<=a4/\a4<(a:I)):=Y (by rw[f.o];exact d.1.3);have ac:=Y (VY K_ gS (Z S_.1) c p n m f hn a9 ba O O O a6 a 0 (λ_=>0) Hq [] S_ ab (Y<|ha.keep (j.mono L)) s (Y<|ZA _ _) (Y JW) (by simpa using ZA (λ_=>0) a));clear r ar g0 g1;go_wp2_with fail
  refine YU ac λq⟨v',i,aq⟩=>?_;have o:Sw (Z w.1) w q:=⟨G i.1 j.1,G i.2 j.2,G i.3 j.3,aJ j.4 i.4,λa3 hq=>G (i.5 a3 O O O λe=>by cases e) (j.5 a3 hq)⟩;have N_:=i.5 (Z w.1) O O O (λe=>by cases e);have m0:=G (Xc N_) k0;have m1:=G (Xc N_) k1;have P_:YW q K_ gS (Z S_.1) ((a+63)/64) p a c (Zp x).1 v' (Zp x).2:=by unfold Zp;rw[<-f.o];exact aq
  let⟨q1,q2,q3,q4⟩:=d.1.top;have F_:=Y<|uQ d.1 (F:=Ja x) q3 q1;have ap:J (Ja x)=J (Zp x).2:=by unfold Ja;rw[jQ]
  have O_:=P_.6;rw[show Je (Zp x).2=(Xi (Zp x).2).map (Si S6) by simp[Je,Xi]]at O_;let⟨aL,cL,eL,_⟩:=Xk O_;have s2:E q (A K_ 2)=S (X aL (J (Ja x)) cL):=by have l:=P_.3;rw[eL,show J (Xi (Zp x).2)=J (Ja x) by rw[ap];simp[Xi]]at l;exact l
  have G_:=Y o;let⟨Q_,t⟩:∃bd,bd=J (Ja x):=⟨_,R⟩;rw[<-t]at s2;have bf:=Y t;have bo:Q_<=a:=by rw[t,f.o];exact F_.1
  have U_:Q (Q_=a↔Jq x):=Y (by rw[t,f.o];exact F_.2);have aa:=Y<|KO V p a c x n m q.drew (Y<|ha.keep (o.drew.mono L)) f (oN o.drew.4) d (Y<|y.keep o.drew y.1) (Y<|z.keep o.drew z.1);have bq:Z w.1<Z q.1:=aI q _ m0;clear i aq P_ o N_ O_ eL ap t q1 q2 q3 q4 k0 k1;by_cases bc:Q_<a
  .have HR:Q (T=10):=Y (by rw[<-J_.o];exact t9 P λl=>by have:=U_.2 l;omega);go_wp2_with fail
   go_region;go_wp2;go_ret;exact⟨by rw[HR.o];rfl,G_.drew⟩
  have T_:=Y<|U_.1 O;have bm:=λb be W=>Dq b be W;go_wp2_with fail
  go_region;go_wp2_with fail
  refine aa.mono ?_;rintro e w4⟨Gi,Go,gi,go,ci,u,WX,rfl,h⟩;have bh:=Y h;have x0:=h.2.1.cell s;have hV:=d.2;have Z_:=Y<|Kl (gi 0) ((V+63)/64) (ci 0) (u 0) w4 (Y<|h.4 0) (Y<|h.2.2 0 s) O;have bl:=TB (u 0) ((V+63)/64);have a5:=Y<|G_.drew.trans (h.1.mono G_.drew.4);have Y_:Q (0<NO (u 0) ((V+63)/64)↔∃b,N4 x b):=Y (by
   let⟨a7,a8,W0,a2,h1,h2,h3,h4,h5,_⟩:=h.8;have af:∀{b:N},Sp a7 a8 (·∈a2) (X8 x) 0 b↔N4 x b:=λ{b}=>EX d h1 h2 h3 (ord:=(·∈a2)) h4 (src:=X8 x) λ_ _=>R;rw[EH];constructor
   .rintro⟨b,B,C⟩;exact⟨b,af.1<|(h5 0 s b B).1 C⟩
   rintro⟨b,B⟩
   have bc:=wH d B;have C:b<64*((V+63)/64):=O;exact⟨b,C,(h5 0 s b C).2 (af.2 B)⟩)
  clear h;generalize bb:NO (u 0) ((V+63)/64)=cc at*;clear bb;generalize (V+63)/64=K4 at*;go_wp2_with fail
  refine YU Z_ λw5 ad=>?_;have X_:=Y<|Xg a5 ad;clear ad x0;by_cases aj:0<cc
  .have H_:Q (T=11):=Y (by rw[<-J_.o];exact qg P T_<|Y_.1 aj);go_wp2;go_ret;exact⟨by rw[H_.o];rfl,X_⟩
  have H_:Q (T=0):=Y (by rw[<-J_.o];exact uP P T_ λl=>aj<|Y_.2 l);go_wp2;go_ret;exact⟨by rw[H_.o];rfl,X_⟩
theorem zu(x:Yg)(w:Ub):
 Sk prog 112 #[Sa #[H x.1,H x.2,H x.a,H x.b,H x.5]] w λe c=>e=Rt (Sb (Jd (11<=x.1)))/\Sw (Z w.1) w c:=by
 obtain⟨a,f,d,b,i⟩:=x;dsimp only;by_cases h:(11:I)<=a
 .go_in
  go_wp2;go_ret;exact⟨Xl (by simp[h]),Xb Rf _⟩
 go_in
 go_wp2;go_ret;exact⟨Xl (by simp[h]),Xb Rf _⟩
theorem LO{x y:Yg}(w:Ub)(a:x.1=y.1)(c:x.5=y.5):
 Sk prog 55 #[Sa #[H x.1,H x.2,H x.a,H x.b,H x.5],Sa #[H y.1,H y.2,H y.a,H y.b,H y.5]] w λe d=>e=Rt (Sb So)/\Sw (Z w.1) w d:=by
 obtain⟨m,i,f,b,k⟩:=x;obtain⟨n,j,g,h,l⟩:=y;dsimp only at*;subst a c
 go_in
 go_wp2;go_ret;exact⟨R,Xb (Xb Rf _) _⟩
theorem EU(t:Uy)(n c:N)(a d:Vr)(L B:N)(w:Ub)(ha:Q (YY w L B t<|a++d))(u:Q (n=J (a++d)))(T:n<=1048576)(x:B<=Z w.1)(z:Q (∀K∈a,K.1<=10))(M:Q (∀F∈d,11<=F.1)):
 Sk prog 143 #[X t n c,.func (.func 112) #[] #[]] w λf C=>f=Rt (H (if d=[]then -1 else (J a:I)))/\Sw (Z w.1) w C:=by
 obtain⟨o,m⟩:∃o:I,o=if d=[]then -1 else (J a:I):=⟨_,R⟩
 rw[<-m];have r:=Y m;clear m
 go_in
 go_wp2
 go_loopw [8] (λq wr=>∃k:N,k<=J a/\q=H k/\Q (Sw (Z w.1) w wr)) λq _=>n-(JB q).toNat
 .exact⟨0,aN,R,Y<|Rf⟩
 obtain⟨k,V,rfl,h⟩:=hrel;have j:Q (n=J a+J d):=Y (by rw[u.o,aQ]);by_cases W:k<n
 .have y:k<J (a++d):=oN u.o
  obtain⟨b,o_,rfl,G_,c0,c1,c2,c3,c4⟩:=(ha.keep<|h.mono x) k y;have e:=Y<|zu (a++d)[k] wr;have s:Q (Jd (11<=(a++d)[k].1)=Jd (J a<=k)):=Y (by
   by_cases v:k<J a
   .rw[fA v];have:=z.o _<|aH v;rw[dJ O,dJ O]
   rw[fN O]
   have:=M.o _<|aH (l:=d) (n:=k-J a) (oN j.o);rw[eB O,eB O])
  rw[s.o]at e;clear s;generalize (a++d)[k]=X_ at*;by_cases p:J a<=k
  .have l:Q (o=(k:I)):=Y (by
    rw[r.o,aM λf=>by have:=j.o;rw[f]at this;simp at this;omega];omega)
   rw[eB p]at e;clear p;go_wp2_with (go_at_call 112;refine YU e λP g=>?_;have i:=Y<|Xg h.o g;clear g)
   go_ret;exact⟨by rw[l.o];rfl,i.o⟩
  rw[dJ p]at e;go_wp2_with (go_at_call 112;refine YU e λP g=>?_;have i:=Y<|Xg h.o g;clear g)
  exact⟨⟨k+1,O,gM,i⟩,SA⟩
 have l:Q (o=-1):=Y (by
  rw[r.o];exact aU (by have:=j.o;exact List.length_eq_zero_iff.1 O))
 go_wp2;go_ret;exact⟨by rw[l.o];rfl,h.o⟩
theorem LU(a:Zh)(z:Uj)(n:N)(b:0<Z a)(h:∀i (f:i<Z a),a[i]=z):(Builtin.zeroCells a n).1=List.replicate (n*Z a) z:=by
 apply mG;·simp[Builtin.zeroCells]
 intro i d e;have c:i%Z a<Z a:=dS _ b;simp[Builtin.zeroCells,c,h]
theorem Mc(w:Ub)(r:TypeId)(b o n c:N)(s:0<n)(d:∀j,j<n*5->(E w ⟨b,o+j,U⟩).isSome=So)(e:∀j,j<n*5->w.frozen? ⟨b,o+j,U⟩=Sn):
 (Builtin.clear_ #[48] r #[X (S ⟨b,o,U⟩) n c]).run prog w=.ok (St #[]) (w.setCells b o<|List.replicate (n*5) (Si S6 0)):=by
 obtain⟨v,g,p,t,u⟩:=fX RB;have k:∀w,(zeroValue 64).run prog w=.ok (Sa #[H 0,H 0,H 0,H 0,H 0]) w:=λw=>by simp[zeroValue,typeInfo,g,p]
 have q:=LU #[H 0,H 0,H 0,H 0,H 0] (H 0) n sP (λi f=>by
  have:i=0\/i=1\/i=2\/i=3\/i=4:=by simp at f;omega
  obtain rfl|rfl|rfl|rfl|rfl:=this<;>rfl)
 have a:=run_storeCells_cells (P:=prog) b o (List.replicate (n*5) (H 0)) 0 w (by simpa using d) (by simpa using e) (by intro x l;rw[List.eq_of_mem_replicate l];rfl);simp only[fW]at a;obtain⟨m,rfl⟩:∃m,n=m+1:=⟨n-1,O⟩;have h:=underlying48;simp only[Builtin.clear_,List.getElem?_toArray,List.getElem?_cons_zero];simp[run_underlying h,k,Value.cells,q,a]
theorem La{a:Vr}(h:YY w m (Z w.1) (S ⟨n,0,U⟩) a):∀j,j<J a*5->(E w (A n j)).isSome=So:=λj c=>by
 obtain⟨b,o,e,_,c0,c1,c2,c3,c4⟩:=h (j/5) O;cases e;simp only[aV]at c0 c1 c2 c3 c4;have:j%5=0\/j%5=1\/j%5=2\/j%5=3\/j%5=4:=O;obtain q|q|q|q|q:=this;·rw[show j=j/5*5 by omega,c0];rfl
 .rw[show j=j/5*5+1 by omega,c1];rfl
 .rw[show j=j/5*5+2 by omega,c2];rfl
 .rw[show j=j/5*5+3 by omega,c3];rfl
 rw[show j=j/5*5+4 by omega,c4];rfl
theorem Nv{a e:Vr}(v:Q (Sx w k 64 5 (X (S ⟨n,0,U⟩) m c) m (ZP<|a++e)))(t:Q (m=J (a++e)))(Z_:m<=1048576)(hy:Q (∀ab∈a,ab.1<=10))(K:Q (∀ac∈e,11<=ac.1)):
 Sk prog 111 #[X (S ⟨n,0,U⟩) m c,.func (.func 112) #[] #[]] w λf B=>∃N_,f=Rt (X (S ⟨n,0,U⟩) (J a) N_)/\Sw k w B/\YY B k (Z B.1) (S ⟨n,0,U⟩) a:=by
 have L:YY w k (Z w.1) (S ⟨n,0,U⟩) (a++e):=by
  have h:=v.o;rw[t.o]at h;exact Xv.inss (lab:=λ_=>(0,0,0)) (L:=(0,0,0)) ⟨h,λ_ _=>R⟩
 obtain⟨S_,M⟩:=v.lt n R;have ao:m<=c:=by
  obtain⟨f,_⟩|⟨_,_,f,_,h⟩:=Vc v.o;·cases f
  cases f;exact h
 have M_:=Y λo=>ol v.o o;have l:=Y L;have P:=Y λW (h:YY W k (Z w.1) (S ⟨n,0,U⟩) (a++e)) (Q_:Z w.1<=Z W.1)=>EU (S ⟨n,0,U⟩) m c a e k (Z w.1) W (Y h) t Z_ Q_ hy K;have T:Q (m=J a+J e):=Y (by rw[t.o,aQ]);obtain⟨p,b⟩:∃p,p=J a:=⟨_,R⟩;rw[<-b];have r:=Y b;clear b L;by_cases q:e=[]
 .have z:Q ((if e=[]then (-1:I)else (J a:I))=-1):=Y<|aU q;have V:p=m:=by have:=r.o;have:=T.o;rw[q]at this;simp at this;omega
  subst V
  go_in
  go_wp2_with (go_at_call 143;refine(P.o w l.o aA).mono ?_;rw[z.o];rintro f w1⟨rfl,s⟩;have j:=Y s;clear s)
  go_ret;refine⟨_,R,j.mono O,?_⟩;have h:=l.keep j.o;rw[q,fF]at h;exact h.mono aA j.4
 have z:Q ((if e=[]then (-1:I)else (J a:I))=(p:I)):=Y<|by rw[aM q,r.o]
 have V:p<m:=by
  have:=r.o;have:=T.o;have:=List.length_pos_iff.2 q;omega
 have ap:¬c=p:=O;have aq:((p:I) == -1)=Sn:=sP;clear q
 go_in
 go_wp2_with (go_at_call 143;refine(P.o w l.o aA).mono ?_;rw[z.o];rintro f w1⟨rfl,s⟩;have j:=Y s;clear s)
 go_loopw [5,6] (λaa i wr=>∃d:N,p+1<=d/\d<=m/\aa=Si S6 p/\i=Si S6 d/\Q (Sw (Z w.1) w wr)) λ_ i _=>m-(JB i).toNat
 case atStart=>exact⟨p+1,aA,O,R,gM,j⟩
 obtain⟨d,al,hk,rfl,rfl,g⟩:=hrel;clear j;by_cases am:d<m
 .have Y_:d<J (a++e):=oN t.o
  obtain⟨b_,o,f,R_,c0,c1,c2,c3,c4⟩:=(l.keep g.o) d Y_;cases f;rw[aV]at c0 c1 c2 c3 c4;have F:Q (Jd (11<=(a++e)[d].1)=So):=Y (by
   rw[fN<|oN r.o];exact eB<|K.o _ (aH _))
  have C:=Y λW=>zu (a++e)[d] W;rw[F.o]at C;clear F;generalize (a++e)[d]=ad at*;go_wp2_with (go_at_call 112;refine(C.o _).mono ?_;rintro f w2⟨rfl,H_⟩;have L_:=Y<|Xg (Xb g.o _) H_;clear H_)
  exact⟨⟨d+1,O,O,R,gM,L_⟩,by simp[JB];omega⟩
 have X_:d=m:=O
 subst X_;have P_:=l.keep g.o;have af:=Mc wr 0 n (p*5) (d-p) (c-p) O (λx V_=>by
  have O_:=La (l.mono aA aA) (p*5+x) (oN t.o);rw[g.cell (p:=⟨n,p*5+x,U⟩) M];exact O_) (λx V_=>by
  rw[g.frozen (p:=⟨n,p*5+x,U⟩) M];exact M_.o _)
 go_wp2;refine cC (v:=X (S ⟨n,0,U⟩) p c) (by simp[JC,results111,go_sem]) R ⟨c,R,below_setCells O _ _ _<|g.mono O,λi T_=>?_⟩;have U_:i<J (a++e):=by rw[aQ];omega
 obtain⟨b_,o,f,R_,c0,c1,c2,c3,c4⟩:=P_ i U_;cases f;rw[fA T_]at c0 c1 c2 c3 c4;have u:∀y,y<p*5->E (wr.setCells n (p*5) (List.replicate ((d-p)*5) (Si S6 0))) ⟨n,y,U⟩=E wr ⟨n,y,U⟩:=λy hq=>World.cell?_setCells_out _ _ _ _ _ λ_ _=>bC hq;have aj:i<p:=oN r.o;refine⟨n,0,R,⟨S_,?_⟩,G (u _ O) c0,G (u _ O) c1,G (u _ O) c2,G (u _ O) c3,G (u _ O) c4⟩;have:=(below_setCells (B:=0) (b:=n) O (List.replicate ((d-p)*5) (Si S6 0)) (p*5) wr (dC 0 wr)).4;have:=g.4;omega
theorem V0(w:Ub):Sk prog 111 #[Hq,.func (.func 112) #[] #[]] w λe f=>e=Rt Hq/\Sw (Z w.1) w f:=by
 have a:=Y (EU U 0 0 [] [] 0 (Z w.1) w (Y λi d=>Sz d sP) (Y R) O aA (Y sP) (Y sP));rw[aU R]at a
 go_in
 go_wp2_with (go_at_call 143;refine YU a λg b=>?_;have c:=Y b;clear b)
 go_ret;exact⟨R,c.o⟩
theorem Jz(s:Uy)(n c:N)(a o:Vr)(L B:N)(w:Ub)(ha:Q (YY w L B s<|a++o))(d:Q (n=J (a++o)))(v:n<=1048576)(z:B<=Z w.1)(g:Q (∀K∈a,K.1<=10))(F:Q (∀M∈o,11<=M.1)):
 Sk prog 53 #[X s n c] w λf m=>∃t y,f=Rt (X t (J a) y)/\Sw (Z w.1) w m/\YY m (Z w.1) (Z m.1) t a:=by
 have r:=Y<|GM c ha d v z;rw[<-d.o]at r;obtain⟨p,l⟩:∃p,p=J a:=⟨_,R⟩;rw[<-l];have k:=Y l;clear l
 go_in
 go_wp2_with fail
 refine r.mono ?_;rintro f P⟨N_,rfl,h,i⟩;have K_:=h.4;have q:=Y h;obtain⟨rfl,hn0,_⟩|⟨g_,c1,rfl,_,_⟩:=Vc i
 .subst hn0;have C:p=0:=by have:=k.o;have:=d.o;rw[aQ]at this;omega
  have T:a=[]:=List.length_eq_zero_iff.1<|oN k.o;have e:=Y<|V0 P;subst C;clear i h d;go_wp2_with (go_at_call 111;refine YU e λV b=>?_;have j:=Y<|Xg q.o b;clear b)
  go_ret;exact⟨_,_,R,j.o,λM_ W=>Sz W<|by rw[T];simp⟩
 have e:=Y<|Nv (Y i) d v g F;rw[<-k.o]at e;clear i h;go_wp2_with (go_at_call 111;refine e.mono ?_;rintro f V⟨c2,rfl,b,u⟩;have j:=Y b;have x:=Y u;clear b u)
 go_ret;exact⟨_,_,R,q.trans j.o,x.o⟩
theorem XS(j:Uy)(c g z:N)(d:Vr){e:Vr}(L B:N)(ha:Q (YY w L B j d))(q:Q (YY w m k p e))(F:Q (n=J d))(o:Q (g=n))(K:Q (J e=J d))(X_:n<=1048576)(C:B<=Z w.1)(M:k<=Z w.1)(s:Q (∀i (O_:i<J d) (P:i<J e),d[i].1=e[i].1/\d[i].5=e[i].5)):
 Sk prog 54 #[X j n c,X p g z,.func (.func 55) #[] #[]] w λl T=>l=Rt (Sb So)/\Sw (Z w.1) w T:=by
 have V:=o.o;subst V
 go_in
 go_wp2
 go_loopw [17] (λi wr=>∃a:N,a<=g/\i=H a/\Q (Sw (Z w.1) w wr)) λi _=>g - (JB i).toNat
 .exact⟨0,aN,R,Y<|Rf⟩
 obtain⟨a,U_,rfl,f⟩:=hrel;by_cases V_:a<g
 .have t:a<J d:=oN F.o;have u:a<J e:=oN K.o;obtain⟨b,o_,rfl,Q_,c0,c1,c2,c3,c4⟩:=(ha.keep<|f.mono C) a t;obtain⟨y,o',rfl,R_,I_,J_,K_,M_,N_⟩:=(q.keep<|f.mono M) a u;have h:=Y<|s.o a t u;have x:=Y λW=>LO W h.1 h.2;have aa:=f.4;generalize d[a]=Y_ at*;generalize e[a]=Z_ at*;clear ha q s;have S_:b<Z wr.1:=O;have T_:y < Z wr.1:=O;go_wp2_with (go_at_call 55;refine YU (x.o _) λw1 r=>?_;have v:=Y<|Xg (Xb (Xb f.o _) _) r;clear r)
  exact⟨⟨a+1,O,gM,v⟩,SA⟩
 go_wp2;go_ret;exact⟨R,f.o⟩
theorem Lh(c:N)(r:N)(ha:Q (Xf w k B p l))(h:Q (Xf w g i P l))(u:Q (n=J l))(v:Q (m=n))(K:n<=1048576):
 Sk prog 113 #[X p n c,X P m r] w λs y=>s=Rt (Sb So)/\Sw (Z w.1) w y:=by
 have t:=v.o;subst t
 go_in
 go_wp2
 go_loopw [13] (λf wr=>∃a:N,a<=m/\f=H a/\Q (Sw (Z w.1) w wr)) λf _=>m - (JB f).toNat
 .exact⟨0,aN,R,Y<|Rf⟩
 obtain⟨a,L,rfl,d⟩:=hrel;by_cases C:a<m
 .have j:a<J l:=oN u.o;obtain⟨b,o,rfl,_,c0⟩:=ha.o a j;obtain⟨q,x,rfl,_,e⟩:=h.o a j;generalize l[a]=F at*;have z:E wr (A b (o+a))=S (H F):=oB d c0<|aI w _ c0;have f1:E wr (A q (x + a))=S (H F):=oB d e<|aI w _ e;clear c0 e ha h;go_wp2;go_region;go_wp2;exact⟨⟨a+1,O,gM,Y d.drew⟩,SA⟩
 go_wp2;go_ret;exact⟨R,d.o⟩
theorem Cy:∀(k:N)(L:Wy),∀y∈ax k L,¬y.1<=10
 |0,_,y,h=>by simp[ax]at h
 |_+1,[],y,h=>by simp[ax]at h
 |k+1,m::L,y,h=>by
  obtain rfl|h:=cH.1 h
  .unfold dm;cases bj (fo (m::L))with
   |some t=>dsimp only;unfold N3;split<;>simp
   |none=>
    cases e:bj (ai (m::L))with
    |some t=>simp
    |none=>rw[lj]at e;simp[ai]at e
  exact Cy k _ y h
theorem Fh(c:Wc){a:Wi}{b:N}(g:b<J a):∀j,b<j->j<=J a->∃d e,(ae c a j).1=(ae c a b).1++(Nk c a b a[b] (J a+J (ae c a b).2)).1::d/\(ae c a j).2=(ae c a b).2++((Nk c a b a[b] (J a+J (ae c a b).2)).2++e)
 |0,h,_=>Sz h<|wA _
 |j+1,h,hj=>by
  rw[ou c a j hj];by_cases f:b=j
  .subst f;exact⟨[],[],R,sP⟩
  obtain⟨d,e,e1,e2⟩:=Fh c g j O O;exact⟨_,_,by rw[e1,cK,cW],by rw[e2,cK,cK]⟩
section
variable {w w': Ub} {L B: N}
def Vdf(v:I)(n:N)(x:ag):Bool:=x.1.all (Yw v 13)&&Zu v 0 n x.2
end
section
variable {w w': Ub} {L B: N}
def Rp(a:List ag):N:=(a.map λx=>J x.1).sum
def Pj(a:List ag):N:=(a.map λx=>1+J x.1).sum
theorem NM{a:List ag}(p:ag):Rp (a++[p])=Rp a+J p.1:=by simp[Rp]
theorem QH(a:List ag)(k:N):Rp (a.take k)<=Rp a:=Tw _ _ _
theorem wI(a:List ag):Pj a=J a+Rp a:=by
 induction a with
 |nil=>rfl
 |cons x a b=>
  simp only[Pj,Rp,eH,kX,bA]at b |-;omega
theorem zI{a:List ag}{x:ag}(h:x∈a):J x.1<=Rp a:=by
 induction a with
 |nil=>cases h
 |cons y b c=>
  have d:Rp (y::b)=J y.1+Rp b:=by simp[Rp]
  obtain rfl|h:=cH.1 h;·omega
  have:=c h;omega
def sj(v:I)(a:List ag):Bool:=Jd (1<=v)&&Jd (v<=64)&&Jd (1<=J a)&&Jd (J a<=3000)&&Jd (Pj a<=20000)
def nK(v:I)(a:List ag):Bool:=sj v a&&a.all (Vdf v (J a))
theorem Fr{v:I}{a:List ag}(b:1<=v)(c:v<=64)(d:1<=J a)(e:J a<=3000)(f:Pj a<=20000):sj v a=So:=by simp[sj, *]
theorem QK{v:I}{a:List ag}(h:¬(1<=v/\v<=64/\1<=J a/\J a<=3000/\Pj a<=20000)):sj v a=Sn:=by rw[lY];intro e;simp only[sj,bY,bD]at e;omega
theorem J1{v:I}{a:List ag}(h:¬(1<=v/\v<=64/\1<=J a/\J a<=3000/\Pj a<=20000)):nK v a=Sn:=by unfold nK;rw[QK h];rfl
theorem LD{a:List ag}(h:J a+Rp a<=1048576):km a:=λx b=>by have c:=zI b;omega
end
section
theorem rR{b:Type}(f:N->b->Wo):∀(M S_:List b)(k:N),Yu f k (M++S_)=Yu f k M++Yu f (k+J M) S_
 |[],S_,k=>by simp[Yu]
 |m::M,S_,k=>by show f k m++Yu f (k+1) (M++S_)=f k m++Yu f (k+1) M++_;rw[rR f M S_<|k+1,cK,bA,show k+1+J M=k+(J M+1) by omega]
theorem rW{b:Type}(f g:N->b->Wo):∀(S_:List b)(k j:N),(∀i x,f (k+i) x=g (j+i) x)->Yu f k S_=Yu g j S_
 |[],_,_,_=>R
 |x::S_,k,j,h=>by show f k x++Yu f (k+1) S_=g j x++Yu g (j+1) S_;rw[show f k x=g j x from h 0 x,rW f g S_ (k+1) (j+1) λi x=>by rw[show k+1+i=k+(i+1) by omega,show j+1+i=j+(i+1) by omega];exact h _ x]
variable {w wr w8: Ub} {lab: N -> N×N×N} {V: I} {a: Uy} {n c: N} {k: I} {mb: N} {mv sv v8: Uj} {M S_: List ag} {iv jv: N -> Uj}
end
end Go.Proofs.YtcncjgijikoapaaGreatDoor
