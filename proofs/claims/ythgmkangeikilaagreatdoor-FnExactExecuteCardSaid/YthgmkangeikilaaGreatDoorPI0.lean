import Derived.Test.YthgmkangeikilaaGreatDoorPB0
import Derived.Test.YthgmkangeikilaaGreatDoorOC3
import Derived.Test.YthgmkangeikilaaGreatDoorPM
namespace Go.Proofs.YthgmkangeikilaaGreatDoor
set_option maxHeartbeats 8000000
set_option maxRecDepth 1000000
open _root_ renaming Array.size->Z,Nat->N,rfl->R,Option.some->S,Option.none->U,trivial->JV,List.length->J,Bool.true->So,List.range->Rg,Int->I,absurd->Sz,Bool.false->Sn,Decidable.decide->Jd
open Go renaming World.alloc->D,Obj.cells->Sc,Ending.returned->Rt,World.cell?->E,undef->Su,RowKit.Below->Sw,RowKit.intOf->JB,World.setCell->Se,IntKind.i64->S6,Calls->Sk,results->JC,World.ownsRow->Sx
open Value renaming slice->X,agg->Sa,pointer->Sj,bool->Sb,tuple->St,int->Si
open Go.RowKit Go.Shelf Go.Proofs.Tryz
variable{t T z:I}{n m k B g i j c:N}{w v u:Ub}{a A_:Uj}{p P:Uy}{M N_:Vp}{d:Vv}{s:Wa}{l L:Wc}{x:Wi}{f F:Wk}{y:Wo}{q:Xe}
section
attribute [local go_sem] Oper.semAt_some
theorem vF(n){v1 v2 v3 v4 v5:Uj}(g b C)(w:Ub):
 CallsIn Fence.wide n prog 132 #[Sa #[a,v1,v2,v3,v4,v5],Sa #[X (S ⟨g,0,U⟩) b C]] w λe c=>e=Rt (.func (.func 176) #[] #[Sj (S ⟨Z w.1+1,0,U⟩),Sj (S ⟨Z w.1,0,U⟩)])/\c=D (D w<|Sc #[a,v1,v2,v3,v4,v5] 81) (Sc #[X (S ⟨g,0,U⟩) b C] 126):=by
 refine iD func132 R JV ?_ R;simp only[ntmps132,xY,Nat.reduceAdd,Nat.reduceSub];gi_wp2;go_ret;exact⟨R,R⟩
end
section
attribute [local go_sem] Oper.semAt_some
theorem Po.lou{go}(h:Po w v m k x B g f go F M N_)(e:Jy n x)(s:m=J x):∀b,b<m->∀a,a<64*k->(Xh (N_ b) a=So↔UV x a b):=λb j a i=>by
 let⟨u,T,r,o,q1,q2,q3,q4,p,q⟩:=h.8;have l:=λb j a i=>(p b j a i).trans (Ff e q1 q2 q3 (ord:=(·∈o)) q4 O);have d:b<J x:=O;rw[q b j a,q3 b d,<-KE e d];constructor
 .rintro(h|⟨t,c,h⟩);·exact bC h
  exact aZ ⟨t,c,(l t (oN<|e.1.tg _ d _ c) a i).1 h⟩
 rintro(h|⟨t,c,h⟩);·exact bC h
 exact aZ ⟨t,c,(l t (oN<|e.1.tg _ d _ c) a i).2 h⟩
theorem FW(x)(a:Wk)(b:i<=J x.2):∃W,(i,W)∈TZ (J x.2) a (NS x):=by
 rw[qw];cases i with
 |zero=>exact⟨_,fB _<|cS.2 R⟩
 |succ j=>
  refine⟨_,dD _<|aY.2 ⟨⟨j,b⟩,?_,R⟩⟩;unfold Us;rw[aW sP];exact kU.2<|lX _
end
section
noncomputable def mm(a:List Xe)(V b:N):List (List N):=match a[b]? with
 |none=>[]
 |some x=>((Us (J x.2) 0).map λj:Fin (J x.2)=>Uq a x V b<|(j:N)+1)++[Uq a x V b 0]
noncomputable def Zw(a:Wi)(V k:N):List Wa:=(Rg k).flatMap (mm a V)
theorem VJ{a V k}:Zw a V (k+1)=Zw a V k++mm a V k:=by unfold Zw;rw[dN,eZ];simp
theorem Bg(a V){k n}(h:k<=n):Zw a V k <+: Zw a V n:=by
 induction n with
 |zero=>rw[show k=0 by omega];exact mD _
 |succ n b=>
  by_cases e:k=n+1;·rw[e];exact mD _
  rw[VJ];exact(b O).trans (List.prefix_append _ _)
theorem CZ{V a}(f:Jy V a){b}(d:b<J a){c p}(e:V<=p)(hq:∀v,v<p->(Xh c v=So↔UV a v b)):(TZ (J a[b].2) c (NS a[b])).map (λq=>Mq q.2 p)=mm a V b:=by rw[gH (g:=λq=>Uq a a[b] V b q.1) λq h=>wW f d e hq (i:=q.1) (W:=q.2) h,qw];unfold mm;rw[aC d];simp
def On(p:N)(s:Sd):Wa:=Mq s.W p
theorem vd{p}{a:List Sd}:a.map (On p)=(a.map Sd.dat).map (λq=>Mq q.2 p):=by rw[jO];rfl
def pm(V a z:N)(p:Sd)(b:Ub):Prop:=N1 V a p.W/\xn a z p b
def ru(a z:N)(s:Sd):Zh:=#[Sa #[X (S ⟨z,0,U⟩) a s.C]]
theorem Zf.far{n₀ Ms u f V}(h:Zf n₀ Ms u f)(e:n₀<=Z u.1)(k:∀q,q<Z u.1->V.1[q]?=f.1[q]?)(d:Z f.1<=Z V.1):Zf n₀ Ms u V :=
 ⟨aJ h.1 d,λq b a=>G (k q O) (h.2 q b a),λq o b a c=>G (k q (aS.1 a).1) (h.3 q o b a c)⟩
theorem Kd{B}{u e V:Ub}(h:KeepsFrom B u e)(k:∀q,q<Z u.1->V.1[q]?=e.1[q]?)(d:Z e.1<=Z V.1):KeepsFrom B u V :=
 ⟨aJ h.1 d,λq o b a c=>G (k q (aS.1 a).1) (h.2 q o b a c)⟩
structure O8(W u:Ub)(n₀:N)(Ms:Vv)(J_:N->List Sd->Vy)(s0:List Sd)(z:N)(ss:List Sd)(V:Ub):Prop where
 j:J_ z (s0++ss) V
 kp:Zf n₀ Ms u V
 kf:KeepsFrom (Z W.1) u V
structure Pk(W u:Ub)(Jx:List Sd->Vy)(s0 ss:List Sd)(V:Ub):Prop where
 j:Jx (s0++ss) V
 kf:KeepsFrom (Z W.1) u V
section
variable{W u:Ub}{n₀:N}{Ms:N->Prop}{J_:N->List Sd->Ub->Prop}{Jx:List Sd->Ub->Prop}{s0:List Sd}
theorem O8.own(b:∀z,OwnFrom (Z W.1)<|J_ z)(d:Z W.1<=Z u.1)(c:n₀<=Z u.1)(z):OwnFrom (Z u.1) (O8 W u n₀ Ms J_ s0 z):=λj l V row h k q=>by have g:=h.2.1;have a:∀i,i<Z u.1->V.1[i]?=l.1[i]?:=λi f=>k.5 i O (λe=>by have:=(q i e.symm).1;omega);exact⟨b z _ l V row h.j k λr e=>⟨oN<|(q r e).1,(q r e).2⟩,h.2.far c a k.4,Kd h.3 a k.4⟩
theorem Pk.own(a:OwnFrom (Z W.1) Jx)(c:Z W.1<=Z u.1):OwnFrom (Z u.1) (Pk W u Jx s0):=λg j V row h k q=>by have f:=h.2.1;have b:∀i,i<Z u.1->V.1[i]?=j.1[i]?:=λi d=>k.5 i O (λe=>by have:=(q i e.symm).1;omega);exact⟨a _ j V row h.j k λr e=>⟨oN<|(q r e).1,(q r e).2⟩,Kd h.2 b k.4⟩
theorem O8.turn(d:∀z s V a,Z W.1<=z->J_ z s V->V.grownBy a (S z)->J_ z s a)(g:Z W.1<=Z u.1)(f:n₀<=Z u.1){z}(m:Z u.1<=z){c}{n V:Ub}(h:O8 W u n₀ Ms J_ s0 z c n)(k:n.grownBy V (S z)):O8 W u n₀ Ms J_ s0 z c V:=by have l:=h.2.1;have b:∀i,i<Z u.1->V.1[i]?=n.1[i]?:=λi j=>k.5 i O (λe=>by injection e with e;omega);exact⟨d z _ n V O h.j k,h.2.far f b k.4,Kd h.3 b k.4⟩
end
end
section
attribute [local go_sem] Oper.semAt_some
theorem uF(L_)(cz:E w (A m 0)=S (H g))(ez:E w (A m 1)=S (X p i c))(ha:Q (Xp w k B p x))(hx:Q (i=J x))(hB:B<=n)(fq:n<=Z w.1)(hO:Q (Yy w))(hT:Q (Yb w))(c6:(2: N)<n)(c7:(1: N)<n)(V:Q (Jy g x))(b4:Q (j=(g+63)/64))(hM:Q (∀a,k<=a->a<B->¬L_ a))(V_:Q (∀a,Z w.1<=a->¬L_ a))(cr:Q (¬L_ 2))(cs:Q (¬L_ 1)):
 lf Fence.wide 9 prog 131 #[Hn m] (ru j) (pm g j) (Zf n L_) (λh=>h.map (On<|64*j)=Zw x g i) (λh=>h.map (On<|64*j) <+: Zw x g i) (i*4002) True True w:=by
 intro z bv Jx W hW hl hJ co cp cn hY h0;have HY:=Y hY;have HJ:=Y hJ;have ej:=Y co;have ek:=Y<|cp JV;have bm:=Y<|cn JV;have H0:=Y h0;clear hY hJ cp h0 co cn;have di:=hW.4;have hn:i<=1000:=oP hx.o V.1.2;have hV:=V.2;have ev:j<=100:=oN b4.o;have cw:g<=64*j:=oN b4.o;have cm:m<Z w.1:=aI w _ cz;have k0:=oB hW cz cm;have k1:=oB hW ez cm;refine callsIn_of_wp_marks func131 R JV ?_ R;simp only[ntmps131,xY,Nat.reduceAdd,Nat.reduceSub];have dj:=λP=>G (bP W P (A m 0) (by show m<_;omega)) k0;have dk:=λP=>G (bP W P (A m 1) (by show m<_;omega)) k1;gi_wp2;have bh:Q (Sw (Z W.1) W<|D W (Sc #[.func (.yield z) #[] #[]] 223)):=Y<|Xb Rf _;have df:E (D W<|Sc #[.func (.yield z) #[] #[]] 223) (A (Z W.1) 0)=S (.func (.yield z) #[] #[]):=SC
 have fz:Z (D W<|Sc #[.func (.yield z) #[] #[]] 223).1=Z W.1+1:=sP;have a0:=dj<|Sc #[.func (.yield z) #[] #[]] 223;have a1:=dk<|Sc #[.func (.yield z) #[] #[]] 223;generalize D W _=wa at*;clear dj dk k0 k1;have bi:=Y<|hW.trans (bh.mono di);have bl:=Y<|KO g p i c x k B wa (Y<|ha.keep (bi.mono O)) hx O V (Y<|hO.keep bi hO.1) (Y<|hT.keep bi hT.1);rw[<-b4.o]at bl;refine⟨JV,(bM.2 bl).mono ?_⟩;rintro bd s⟨Gi,t,gi,go,ci,WI,WX,rfl,r⟩;have ca:=Y<|r.lou V hx;have b5:=Y r.1;have fr:=r.1.4;have fb:Z wa.1<=t/\t<Z s.1:=⟨r.6.2,r.3.1.lt⟩;have ch:=Y r.3;have eg:=Y λe7 hi=>(r.7 e7 hi).2;have es:Q (∀F,XA<|WX F):=Y r.5;have b0:=G (XU r.1 O) a0;have b1:=G (XU r.1 O) a1;have y1:=G (XU r.1 O) df;have eu:=λP=>G (bP s P (A m 1) (by show m<_;omega)) b1;clear r a0 a1 df;gi_wp2;have bx:(λx9:Ub=>Q (Sw (Z s.1) s x9)/\E x9 (A (Z s.1) 1)=S (Hl t i i)/\Z x9.1=Z s.1+1) (D s<|Sc #[Hl Gi i i,Hl t i i] 129):=⟨Y<|Xb Rf _,SC,sP⟩;generalize D s _=w2 at*;let⟨a8,c9,fs⟩:=bx;have ck:=Y<|Xg (Xg bh b5) a8;have cl:=Y<|hW.trans (ck.mono di);have et:=Y<|G (XU a8 O) y1;have en:=Y c9;have bq:Q (XK w2 t i j go (λ_=>j) WX):=Y<|ch.keep a8;have ad:=Y<|H0.o (Z W.1) w2 aA O ck;clear c9 y1 b0 b1 eu a8;refine nH (λaa wr=>∃(a K:N)(T_:Wa)(h:List Sd)(u4 u5 dl dn du dw dz d0 eb u21 u22 ec ed u31:Uj),a<=i/\aa=⟨#[.func (.yield z) #[] #[],Hn m,Hn (Z W.1),Hn (Z s.1),u4,u5,Su,Su,Sa #[H g,X p i c],Sa #[Hl Gi i i,Hl t i i],Ho m 1,X p i c,H i,H a,dl,dn,du,dw,dz,d0,eb,u21,u22,ec,ed,Su,Su,Su,Su,Su,Su,u31],O7 T_⟩/\Q (Zf n L_ w2 wr)/\Q (KeepsFrom (Z W.1) w2 wr)/\Q (ZJ wr (Z w2.1) T_)/\Z W.1<=K/\Q (bv K h wr)/\Q (h.map (On<|64*j)=Zw x g a)/\Q (J h<=a*4002)) (λaa _=>i-(JB<|aa.1.getD 13 Su).toNat) ?_ ?_;·exact⟨0,Z W.1,[],[],_,_,_,_,_,_,_,_,_,_,_,_,_,_,aN,R,Y<|Zf.refl _,Y<|KeepsFrom.refl _ _,Y ⟨iU,λ_ l=>Sz l eA,λ_ l=>Sz l eA⟩,aA,ad,Y R,Y<|aN⟩
 rintro aa wr⟨a,K,T_,h,u4,u5,dl,dn,du,dw,dz,d0,eb,u21,u22,ec,ed,u31,hk,rfl,ap,el,S_,hz,b7,bt,b8⟩;clear ad;have f7:=ap.1;by_cases M_:a<i;rotate_left
 .have e6:a=i:=O;subst e6;gi_wp2;refine JZ T_ wr S_ λW' q1 q2 q3 q4 q5=>⟨St #[],gV R _ _ _,⟨_,R⟩,.inl ⟨K,h,hz,bt,bm.1 K K h wr W' hz b7 ⟨q1,q2,q3,q4,λq hq=>q5 q λhm=>by have:=S_.2 q hm;omega⟩⟩⟩
 have ab:a<J x:=oN hx.o;let⟨F,af,ea,cx,hc⟩:=ha a ab;subst ea;let⟨P_,Q_,N_,O_,e0,e1,⟨e2,e3,e4,e5⟩,db,c8⟩:=hc;have ey:F<Z w.1:=O;have Z_:∀(q:N)(C:Uj),E w (A F q)=S C->E wr (A F q)=S C:=λq C l=>ap.cell (oB cl l ey) (hM F cx.1 cx.2);have f0:=Z_ _ _ e0;have f1:=Z_ _ _ e1;have f2:=Z_ _ _ e2;have f3:=Z_ _ _ e3;have f4:=Z_ _ _ e4;have f5:=Z_ _ _ e5;have cf:=Y db;have b6:=Y c8;have aq:=Y<|V.10 x[a] (aH ab);have ce:=Y<|qF V (aH ab);have cd:=Y<|V.3 x[a] (aH ab);have cj:=Y<|V.4 x[a] (aH ab);have br:=Y<|CZ V ab cw (ca a M_);let⟨L,hX⟩:∃L,L=x[a]:=⟨_,R⟩;rw[<-hX]at f0 f1 f2 f3 f4 f5 cf b6 aq ce cd cj br;clear hX db c8 e0 e1 e2 e3 e4 e5 Z_;gi_wp2
 have bx:(λx9:Ub=>Sw (Z wr.1) wr x9/\Z wr.1+1<=Z x9.1/\(∀q C,#[X P_ (J L.1) Q_,X N_ (J L.2) O_,H L.3.1,H L.3.a,H L.3.3,H L.3.4][q]?=S C->E x9 (A (Z wr.1) q)=S C)) (D wr<|Sc #[X P_ (J L.1) Q_,X N_ (J L.2) O_,H L.3.1,H L.3.a,H L.3.3,H L.3.4] 81):=⟨Xb Rf _,sP,(λq C l=>by rw[eC];exact l)⟩
 generalize D wr _=f at*;let⟨be,f6,ac⟩:=bx;have x0:=ac 0 _ R;have x1:=ac 1 _ R;have x2:=ac 2 _ R;have x3:=ac 3 _ R;have x4:=ac 4 _ R;have x5:=ac 5 _ R;have s1:=G (be.cell (p:=A (Z s.1) 1) (by show Z s.1<_;omega)) (ap.cell en<|V_ _ (by show Z w.1<=Z s.1;omega));have s2:=G (be.cell (p:=A t a) (by show t<_;omega)) (ap.cell (bq.1.cell M_) (V_ _<|by show Z w.1<=t;omega));have ee:=Y be;clear be ac f0 f1 f2 f3 f4 f5;refine Tc (λR_=>E R_ (A (Z wr.1) 0)=S (X P_ (J L.1) Q_)/\E R_ (A (Z wr.1) 1)=S (X N_ (J L.2) O_)/\E R_ (A (Z wr.1) 2)=S (H L.3.1)/\E R_ (A (Z wr.1) 3)=S (H L.3.a)/\E R_ (A (Z wr.1) 4)=S (H L.3.3)/\E R_ (A (Z wr.1) 5)=S (H L.3.4)/\E R_ (A (Z s.1) 1)=S (Hl t i i)/\E R_ (A t a)=S (Hl (go a) j j)) λig=>?_;refine Yi 0 ?_;refine Yi 1 ?_;refine Yi 2 ?_;refine Yi 3 ?_;refine Yi 4 ?_;refine Yi 5 ?_;refine Yc 6 λe9 hK=>?_;go_simp;refine⟨JV,(vF 8 (go a) j j f.drew).mono ?_⟩;rintro bd u⟨rfl,a7⟩;have b3:Sw (Z f.1) f u:=by rw[a7];exact Xb (Xb (dC (Z f.1) f).drew _) _
 have fx:Z f.1+2<=Z u.1:=by rw[a7,aO,aO];exact aA
 have Y_:∀q C,#[X P_ (J L.1) Q_,X N_ (J L.2) O_,H L.3.1,H L.3.a,H L.3.3,H L.3.4][q]?=S C->E u (A (Z f.1) q)=S C:=λq C l=>by rw[a7,bP _ _ (A (Z f.1) q) (by rw[aO];show Z f.1<Z f.1+1;omega)];exact G (eC f.drew _ _ q) l
 have dc:E u (A (Z f.1+1) 0)=S (Hl (go a) j j):=by rw[a7];have:=eC (D f.drew<|Sc #[X P_ (J L.1) Q_,X N_ (J L.2) O_,H L.3.1,H L.3.a,H L.3.3,H L.3.4] 81) #[Hl (go a) j j] 126 0;rw[aO]at this;exact this
 have H_:=λ(bb q:N)(hb:bb<Z f.1)=>b3.cell (p:=A bb q) hb;have z0:=G (H_ (Z wr.1) 0 O) x0;have z1:=G (H_ (Z wr.1) 1 O) x1;have z2:=G (H_ (Z wr.1) 2 O) x2;have z3:=G (H_ (Z wr.1) 3 O) x3;have z4:=G (H_ (Z wr.1) 4 O) x4;have z5:=G (H_ (Z wr.1) 5 O) x5;have t1:=G (H_ (Z s.1) 1 O) s1;have t2:=G (H_ t a O) s2;have al:=Y<|Xg ee b3;have ba:=Y<|ap.trans (Z4 al O);have ef:=Y (el.trans ⟨al.4,λq P _ b _=>G (al.5 q (aS.1 b).1) b⟩);have a6:=λq d b=>G (ba.2 q d b) (cl.5 q O)
 have ep:Q (UI L k B (Z f.1) n (Z u.1) u):=Y ⟨hO.of_block (a6 _ c6 cr) O,hT.of_block (a6 _ c7 cs) O,⟨P_,Q_,N_,O_,Y_ 0 _ R,Y_ 1 _ R,⟨Y_ 2 _ R,Y_ 3 _ R,Y_ 4 _ R,Y_ 5 _ R⟩,cf.keepS λq d b=>a6 q O<|hM q d b,b6.keepS λq d b=>a6 q O<|hM q d b⟩,O,O,c6,c7,O⟩;have fi:=eg a M_;have er:Q (Cp u (go a) j j (WX a)):=Y ((bq.2 a M_).of_block (by let⟨P,d,b⟩:=(bq.2 a M_).obj;rw[d];exact ba.3 _ P (V_ _ O) d b))
 have eo:=Y dc;have ei:Q (∀e V',Z u.1<=e->Sw (Z u.1) u V'->bv e h V'):=Y λe V' d b=>bm.1 K e h wr V' O b7<|(al.mono O).trans (b.mono O);refine hK _ _ ⟨z0,z1,z2,z3,z4,z5,t1,t2⟩ λig=>?_;clear hK;refine ZV ?_;have cb:Q (∀(T:N)(M:Ub),Z u.1<=T->KeepsFrom (Z W.1) u M->M.1[T]?=S (.deferred (S []))->ZJ M (Z w2.1) (T::T_)):=Y (λT M d b v=>by
  have hl:=λq hq=>(aS.1<|S_.3 q hq).1;refine⟨fL.2 ⟨λhq=>by have:=hl T hq;omega,S_.1⟩,λq hq=>?_,λq hq=>?_⟩
  .rcases cH.1 hq with rfl|hq;·omega
   exact S_.2 q hq
  obtain rfl|hq:=cH.1 hq;·exact v
  have h5:=S_.2 q hq
  exact b.2 q _ O (G (al.5 q<|hl q hq) (S_.3 q hq)) R)
 clear ig z0 z1 z2 z3 z4 z5 t1 t2 x0 x1 x2 x3 x4 x5 s1 s2 dc H_ b3 Y_ a7 a6;gi_wp2
 refine nX (F:=Fence.wide) (n:=9) R vY (gf:=176) (lb:=#[Hn<|Z f.1+1,Hn (Z f.1)]) R JV (enters_of func176 vZ R) (tU L_ ep eo er (Y<|es.o a) ev cw hM (Y<|V_.o _ O) (Y λq hq=>V_ q O) cr cs cd cj aq.1 aq.2 ce (Y λe8 d b=>((ca a M_ e8 d).1 b).val V ab)) (λK=>qj _ _ _ _ K) (λl a=>l.trans a) (λW z af o' d b v=>Zf.putObj W z af o' O b v) Rf (λ_ _=>R)
  (λe=>O8 W u n L_ bv h e) (λcc J_ M=>cc=.ret/\Pk W u Jx h J_ M) (λe=>O8.own HJ O O e) ?ownX (λ_ e ga aj A' bf l ar=>l.turn ek O O bf ar) (λl=>l.elim) ?start
  (λe I_ a' M=>∃G_:N,a'=⟨#[.func (.yield z) #[] #[],Hn m,Hn (Z W.1),Hn (Z s.1),H a,Hn (Z wr.1),Su,Hn G_,Sa #[H g,Hm F af i c],Sa #[Hl Gi i i,Hl t i i],Ho m 1,Hm F af i c,H i,H a,Sb So,H a,Ho F<|af+a*6,Sa #[X P_ (J L.1) Q_,X N_ (J L.2) O_,H L.3.1,H L.3.a,H L.3.3,H L.3.4],Sa #[X P_ (J L.1) Q_,X N_ (J L.2) O_,H L.3.1,H L.3.a,H L.3.3,H L.3.4],Ho (Z s.1) 1,Hl t i i,H a,Ho t a,Sa #[Hl (go a) j j],.func (.func 176) #[] #[Hn<|Z f.drew.1+1,Hn (Z f.drew.1)],H (I_.i:I),Sa #[Hl e j I_.C],Su,Su,Su,Su,u31],[]⟩/\Z u.1<=G_/\E M (A G_ 0)=S (Hl e j I_.C)) ?ownA ?assign ?body ?done ?stop
 case ownX=>
  rintro cc J_ aj M row⟨rfl,l⟩ ar q;exact⟨R,Pk.own ej O J_ aj M row l ar q⟩
 case start=>
  intro e M d b v;exact⟨by rw[fF];exact ei e M d v,Z4 v O,⟨v.4,λq P _ q2 _=>G (v.5 q (aS.1 q2).1) q2⟩⟩
 case ownA=>
  rintro e I_ a' _ aj M row⟨G_,bd,d,b⟩ ar q;refine⟨G_,bd,d,G (Xc<|ar.5 G_ (aI aj _ b) λe2=>?_) b⟩;let⟨P,v,h4⟩:=Yn b;let⟨_,o2,h5,h6⟩:=q G_ e2.symm;rw[show aj.1[G_]?=S P from v]at h5;injection h5 with h5;subst h5;rw[h4]at h6;cases h6
 case assign=>
  intro l' e J_ I_ M KK bf y hP cq;have o:=Y y;have bc:=Y hP;have em:=Y cq;clear y hP cq;unfold rx;gi_wp2;have a3:Sw (Z M.1) M (D M<|Sc #[Hl e j I_.C] 126):=Xb Rf _;exact em _ _ ⟨a3.4,λa af d _=>G (a3.5 a (aS.1 d).1) d⟩ (Z4 a3<|oN o.2.1) (XO (O8.own HJ O O e) o a3) (tH bc a3) ⟨Z M.1,R,o.2.1,SC⟩
 case body=>
  rintro l' e J_ I_ a' M bf fj _ y hP⟨G_,rfl,fc,fe⟩ fl;have o:=Y y;have bc:=Y hP;have HL:Q (J (h++J_)<i*4002):=Y (by have d:=b8.o;have b:=aq.1;rw[aQ];have v:(a+1)*4002<=i*4002:=jI _ M_;omega)
  have yb:=y.2.cell (ba.cell et<|V_ _ (by show Z w.1<=Z W.1;omega)) (V_ _<|by show Z w.1<=Z W.1;omega);clear y hP;let⟨fn,tmps,fa,bo,hy,r⟩:=KY (l':=l') (m':=6) (HY e (h++J_) I_ M O o.j ⟨bc.1.2,bc.2⟩ HL);have dd:(Instr.yield z #[Sa #[Hl e j I_.C]]).run prog M=_:=hy;clear hy;gi_wp2;refine r.mono ?_;rintro bd U2 (⟨rfl,az,a5,a4⟩|⟨rfl,az,a5,a4⟩)
  .have ad:=Y az;have a9:=Y a5;have ao:=Y a4;clear az a5 a4 r dd;gi_wp2;exact⟨JE ao O,a9,by rw[<-cK];exact ad,o.2.trans a9,o.3.trans ao⟩
  have ad:=Y az;have a9:=Y a5;have ao:=Y a4;clear az a5 a4 r dd;gi_wp2;exact⟨JE ao O,a9,R,by rw[<-cK];exact ad,o.3.trans ao⟩
 case done=>
  rintro T e s' M hD bf ct y a2;have o:=Y y;have bn:=Y a2;have cg:=Y ct;clear y a2 ct;gi_wp2;refine⟨⟨a+1,e,T::T_,h++s',_,_,_,_,_,_,_,_,_,_,_,_,_,_,O,R,Y<|ba.trans o.2,Y<|ef.trans o.3,Y ?mk,O,Y o.j,Y ?ls,Y ?ln⟩,?ms⟩
  case mk=>exact cb T M hD o.3 bn
  case ls=>
   rw[bG,bt.o,VJ,<-br.o,<-cg.o,<-vd]
  case ln=>
   have d:=fI List.length cg;rw[bK]at d;have b:=qI (J L.2) (NS L) (WX a);have v:J (NS L)=J L.2+2:=by simp[NS,Vf]
   have h4:=b8.o;have h5:=aq.1;rw[aQ];omega
  simp[JB];omega
 rintro T cc J_ M hD cv⟨rfl,y⟩ a2;have o:=Y y;have bn:=Y a2;have eq:=Y cv;clear y a2 cv;gi_wp2;have da:=cb T M hD o.2 bn;refine JZ (T::T_) M da (λW' q1 q2 q3 q4 q5=>⟨St #[],gV R _ _ _,⟨_,R⟩,.inr ⟨h++J_,?_,bm.2 _ M W' o.j ⟨q1,q2,q3,q4,λq hq=>q5 q λhm=>by have:=da.2 q hm;omega⟩⟩⟩);rw[bG,bt.o,vd];refine List.IsPrefix.trans ?_ (Bg x g<|show a+1<=i from M_);rw[VJ,<-br.o];exact(List.prefix_append_right_inj _).2 (eq.map _)
end
section
attribute [local go_sem] Oper.semAt_some
theorem Wx(n){a v1:Uj}(w:Ub):
 CallsIn Fence.wide n prog 68 #[Sa #[a,v1]] w λe b=>e=Rt (.func (.func 131) #[] #[Sj (S ⟨Z w.1,0,U⟩)])/\b=D w (Sc #[a,v1] 45):=by
 refine iD func68 R JV ?_ R;simp only[ntmps68,xY,Nat.reduceAdd,Nat.reduceSub];gi_wp2;go_ret;exact⟨R,R⟩
theorem un{n a B}(z):OwnFrom B (pm n a z):=λp c V row h k q=>by have b:=qj n p.i a B z p c V row ⟨⟨aA,h.1⟩,h.2⟩ k q;exact⟨h.1,b.2⟩
theorem th{n a z:N}{p:Sd}{V V':Ub}(h:pm n a z p V)(k:Sw (Z V.1) V V'):pm n a z p V':=⟨h.1,h.2.1.of_block<|k.5 z h.2.1.lt,h.2.2⟩
def NW{a:Type}(l:List (List a)):N:=(l.map List.length).foldl max 0
theorem uV{a:Type}{l:List (List a)}{x}:NW (l++[x])=max (NW l) (J x):=by unfold NW;rw[bG,dT];rfl
structure Ok(w6:Ub)(Bm p:N)(pre:List Sd)(V:Ub):Prop where
 os:V.4=w6.4
 tape:V.2=w6.2
 output:V.5=w6.5
 size:Z w6.1<=Z V.1
 bl:Bm<Z w6.1
 fr:∀q,q<Z w6.1->q≠Bm->V.1[q]?=w6.1[q]?
 mx:V.rowIs Bm 3 1 λ_=>Si S6 (NW (pre.map<|On p):I)
section
variable{w6 V V':Ub}{Bm p:N}{pre:List Sd}
theorem Ok.far(h:Ok w6 Bm p pre V)(k:Sw (Z w6.1) V V'):Ok w6 Bm p pre V' :=
 ⟨G k.1 h.1,G k.2 h.2,G k.3 h.3,aJ h.4 k.4,h.5,λq q1 q2=>G (k.5 q q1) (h.6 q q1 q2),h.7.of_block<|k.5 _ h.5⟩
theorem Ok.own(w6 Bm p):OwnFrom (Z w6.1) (Ok w6 Bm p):=λpre V V' row h k q=>by have:=h.4;exact h.far ⟨k.1,k.2,k.3,k.4,λb a=>k.5 b O λe=>by have:=(q b e.symm).1;omega⟩
theorem Ok.push(h:Ok w6 Bm p pre V){s}(k:Sw (Z V.1) V V'){x}(b:x=(NW ((pre++[s]).map (On p)):I)):Ok w6 Bm p (pre++[s]) (Se V' ⟨Bm,0,U⟩ (Si S6 x)):=by have a:=h.far<|k.mono h.4;refine⟨a.1,a.2,a.3,by rw[Xd];exact a.4,a.5,λq q1 q2=>G (cY q2) (a.6 q q1 q2),?_⟩;rw[<-b];exact(a.7.set 0 _).congr λi c=>by rw[show i=0 by omega];simp
end
theorem DQ{V:N}{m}(n c){r aj S_ w}(ha:Q (Xp w aj S_ m r))(R_:Q (n=J r))(hs:Q (J r+Xx r<=1048576))(hB:S_<=Z w.1)(P:Q (Yy w))(T:Q (Yb w))(hv:Q (XJ ⟨(V:I),r⟩=So))(ho:Q (Jy V r)):
 Sk prog 30 #[Sa #[H V,X m n c]] w λe w'=>e=Rt (H (NW (Zw r V (J r)):I))/\Sw (Z w.1) w w':=by
 have X_:=Y λW (I_:Sw (Z w.1) w W)=>JK V m n c r aj S_ W (Y<|ha.keep (I_.mono hB)) R_ hs (oN I_.4) (Y (P.keep I_ P.1).old) (Y (T.keep I_ T.1).old);rw[hv.o]at X_;have hn:n<=1000:=oP R_.o ho.1.2;refine(bM (n:=10)).1 ?_;refine callsIn_of_wp_marks func30 R JV ?_ R;simp only[ntmps30,xY,Nat.reduceAdd,Nat.reduceSub];gi_wp2;refine⟨JV,(bM.2<|X_ _ (Xb Rf _)).mono ?_⟩;rintro e a⟨rfl,P_⟩;have Z_:=G (P_.cell (p:=A (Z w.1) 0) sP) (show _=S (H V) by simp);have g1:=G (P_.cell (p:=A (Z w.1) 1) sP) (show _=S (X m n c) by simp);have a8:=Y<|Xg (Xb (dC (Z w.1) w) (Sc #[H V,X m n c] 45)) P_;have a4:Z w.1<Z a.1:=aI a _ Z_;have bo:=λC=>G (bP a C (A (Z w.1) 0) a4) Z_;have bq:=λC=>G (bP a C (A (Z w.1) 1) a4) g1;clear P_ X_ Z_ g1;gi_wp2;have a9:Q (Sw (Z a.1) a<|D a (Sc #[H 0] 3)):=Y<|Xb Rf _;have cb:Z a.1+1<=Z (D a<|Sc #[H 0] 3).1:=sP;have af:Q ((D a<|Sc #[H 0] 3).rowIs (Z a.1) 3 1 λ_=>H 0):=Y (eK a #[H 0] 3 (λ_=>H 0) (λbv hi=>by match bv,hi with|0,_=>rfl));generalize D a _=u at*;clear bo bq;refine⟨JV,(Wx 9 u).mono ?_⟩;rintro e i⟨rfl,L_⟩;have aa:Sw (Z u.1) u i:=by rw[L_];exact Xb Rf _
 have cc:Z u.1+1<=Z i.1:=by rw[L_,aO];exact aA
 have az:E i (A (Z u.1) 0)=S (H V):=by rw[L_];simp[go_sem]
 have a0:E i (A (Z u.1) 1)=S (X m n c):=by rw[L_];simp[go_sem]
 have t:=Y<|Xg (Xg a8 a9) aa;have bf:=Y<|af.of_block (aa.5 _ af.lt);let⟨b,a2⟩:∃q,q=(V+63)/64:=⟨_,R⟩;have be:=Y a2;have br:=ho.2;have b1:b<=100:=O;have b3:=P.1;have b4:=T.1;have a7:=Y<|ha.keep (t.mono hB);have bh:=Y<|P.keep t P.1;have bm:=Y<|T.keep t T.1;have bb:=Y az;have bc:=Y a0;clear aa L_ a2 br az a0;gi_wp2
 refine nX (F:=Fence.wide) (n:=10) R vY (gf:=131) (lb:=#[Hn (Z u.1)]) R JV (enters_of func131 vZ R) (uF (λq=>q=Z a.1) bb bc a7 R_ O aA bh bm O O ho be (Y λq l o e=>O) (Y λq l e=>O) (Y λe=>O) (Y λe=>O)) (λz=>un z) (λj B=>j.trans B) (λW bx a5 o' l o N_=>Zf.putObj W bx a5 o' O o N_) Rf (λ_ _=>R)
  (λ_=>Ok i (Z a.1)<|64*b) (λ_ _ _=>False) (λ_=>Ok.own i _ _) (λ_ _ _ _ _ j _ _=>j) (λ_ z b0 M_ A' hz j v=>j.far ⟨v.1,v.2,v.3,v.4,λbn I_=>v.5 bn (oN j.4) λe=>by injection e with e;omega⟩) (λ_=>⟨λz z' b0 M_ A' _ j B=>j.far<|B.mono O,λ_ _ _ _ j _=>j⟩) ?start
  (λz p Y_ F=>∃g:N,Y_=⟨#[Sa #[H V,X m n c],Hn (Z w.1),H 0,Hn (Z a.1),Hn g,Sa #[H V,X m n c],Sb So,Sb Sn,Sa #[H V,X m n c],.func (.func 131) #[] #[Hn (Z u.1)],Sa #[Hl z b p.C],Su,Su,Su,Su,Su],[]⟩/\Z i.1<=g/\E F (A g 0)=S (Hl z b p.C)) ?ownA ?assign ?body ?done λ_ _ _ _ _ _ j _=>j.elim
 case start=>
  intro z F _ _ L;exact⟨L.1,L.2,L.3,L.4,O,λq l _=>L.5 q l,bf.of_block<|L.5 _ O⟩
 case ownA=>
  rintro z p Y_ _ M_ F row⟨g,e,l,o⟩ v q;refine⟨g,e,l,G (Xc<|v.5 g (aI M_ _ o) λe2=>?_) o⟩;let⟨C,N_,h4⟩:=Yn o;let⟨_,o2,O_,h6⟩:=q g e2.symm;rw[show M_.1[g]?=S C from N_]at O_;injection O_ with O_;subst O_;rw[h4]at h6;cases h6
 case assign=>
  intro l' z pre p F KK hz k x aq;have s:=Y k;have bi:=Y x;have bd:=Y aq;clear k x aq;unfold ru;gi_wp2;have J_:Sw (Z F.1) F (D F<|Sc #[Hl z b p.C] 126):=Xb Rf _;exact bd _ _ ⟨J_.4,λB a5 l _=>G (J_.5 B (aS.1 l).1) l⟩ (Z4 J_ s.4) (s.far<|J_.mono s.4) (th bi J_) ⟨Z F.1,R,s.4,SC⟩
 case body=>
  rintro l' z pre p Y_ F hz b8 _ k x⟨g,rfl,b5,Q_⟩ ca;have s:=Y k;have y:=k.7.cell (i:=0) vY;have a3:=k.7.frozen 0;have bt:=k.4;have ab:=Y λW (hW:Sw (Z F.1) F W)=>Kl z b p.C p.W W (Y x.2.2) (Y<|x.2.1.of_block (hW.5 z x.2.1.lt)) O;have ba:Q (NW ((pre++[p]).map (On<|64*b))=max (NW<|pre.map (On<|64*b)) (NO p.W b)):=Y (by rw[bG,eH,fZ,uV,qV];rfl);have b6:=TB p.W b;generalize NW (pre.map<|On (64*b))=al at*;generalize NO p.W b=ao at*;clear k x;have ac:Q (∀(f:Ub)(M:I),Sw (Z F.1) F f->M=(max al ao:N)->KeepsFrom (Z i.1) F (Se f (A (Z a.1) 0) (H M))/\Zf (Z i.1) (λq=>q=Z a.1) F (Se f (A (Z a.1) 0) (H M))/\Ok i (Z a.1) (64*b) (pre++[p]) (Se f (A (Z a.1) 0) (H M))):=Y (λf M d e=>by have a1:Zf (Z i.1) (λq=>q=Z a.1) F (Se f (A (Z a.1) 0) (H M)):=(Z4 d bt).trans (Zg ⟨R,R,R,SH,λB _ hk=>cY λe=>hk<|by rw[e]⟩ R (oN d.4));refine⟨⟨a1.1,λq C l o N_=>?_⟩,a1,s.push d<|by rw[ba.o];exact e⟩;exact G (cY<|by show q≠Z a.1;omega) (G (d.5 q (aS.1 o).1) o))
  gi_wp2;by_cases b7:(al:I)<ao
  focus
   skip
  rotate_left
  focus
   skip
  all_goals (
   refine Tc (λw'=>E w' (A g 0)=S (Hl z b p.C)) λig=>?_;refine Yi 1 ?_;refine YM (rs:=[0,2]) vZ sP ?_;refine(Xu.cons R (λK hK=>?_) (Xu.cons R (λK hK=>?_) Xu.nil))
   .skip
    go_simp;refine hK _ _ kP λig=>?_;clear hK
    refine Yc 2 λK hK=>?_;go_simp;refine⟨JV,(CallsIn.inRound l'<|bM.2 (ab F.drew (dC (Z F.1) F).drew)).mono ?_⟩;rintro e f⟨rfl,h⟩;have d:Sw (Z F.1) F f:=⟨h.1,h.2,h.3,h.4,h.5⟩;have E_:=oB d Q_<|aI F _ Q_;have m5:=oB d y<|aI F _ y;have f5:=G (d.frozen (p:=A (Z a.1) 0) (aI F _ y)) a3;have T_:=Y d;clear d h;refine hK _ _ E_ λig=>?_;clear hK;refine Yc 3 λK hK=>?_;go_simp;refine hK _ _ kP λig=>?_;clear hK;refine Yc 4 λK hK=>?_;go_simp;refine hK _ _ (G (bH f (A (Z a.1) 0) (A g 0) _ (by show Z a.1≠g;omega)) E_) λig=>?_;clear hK;refine ZV ?_;clear ig;gi_wp2;exact ac f _ T_ O
   skip
   go_simp;refine⟨JV,(CallsIn.inRound l'<|bM.2 (ab F.drew (dC (Z F.1) F).drew)).mono ?_⟩;rintro e f⟨rfl,h⟩;have d:Sw (Z F.1) F f:=⟨h.1,h.2,h.3,h.4,h.5⟩;have E_:=oB d Q_<|aI F _ Q_;have m5:=oB d y<|aI F _ y;have f5:=G (d.frozen (p:=A (Z a.1) 0) (aI F _ y)) a3;have T_:=Y d;clear d h;refine hK _ _ E_ λig=>?_;clear hK
   refine Yc 0 λK hK=>?_;go_simp;refine hK _ _ kP λig=>?_;clear hK;refine Yc 3 λK hK=>?_;go_simp;refine hK _ _ kP λig=>?_;clear hK;refine Yc 4 λK hK=>?_;go_simp;refine hK _ _ (G (bH f (A (Z a.1) 0) (A g 0) _ (by show Z a.1≠g;omega)) E_) λig=>?_;clear hK;refine ZV ?_;clear ig;gi_wp2
   exact ac f _ T_ O)
 rintro a6 z ss F hD hz ar k ap;have s:=Y k;have ad:=Y ap;have bl:=Y ar;have y:=k.7.cell (i:=0) vY;clear k ap ar;gi_wp2;have F_:Ok i (Z a.1) (64*b) ss (F.putObj a6<|.deferred U):=(Ok.own i _ _).putObj _ s O ad R;refine YK ad ⟨H (NW (ss.map<|On (64*b)):I),by simp[JC,results30,go_sem],?_⟩;rw[bl.o,R_.o];exact⟨R,G F_.1 t.1,G F_.2 t.2,G F_.3 t.3,aJ t.4 F_.4,λq hq=>G (F_.6 q O O) (t.5 q hq)⟩
end
theorem TQ(a:n<J x)(V i):UU x V n i=Xi (Uq x x[n] V n i):=by unfold UU;rw[aC a]
theorem Vt(a:n<J x):J (Tu x n)=J x[n].2:=by unfold Tu;rw[aC a];simp[Z2]
theorem AP:∀(a M:N),s.foldl max a<=M↔a<=M/\∀x∈s,x<=M:=by
 induction s with
 |nil=>intro a M;simp
 |cons y s b=>
  intro a M;rw[iM,b];simp only[cH,forall_eq_or_imp];rw[Nat.max_le,and_assoc]
theorem TL{a:Type}{l:List (List a)}:NW l<=n↔∀x∈l,J x<=n:=by unfold NW;rw[AP];simp
theorem Fl{g h:Type}{l:List (List g)}{c:List (List h)}(d:∀x∈l,∃y∈c,J y=J x)(f:∀y∈c,∃x∈l,J x=J y):NW l=NW c:=by
 refine Nat.le_antisymm ((TL).2 λx a=>?_) ((TL).2 λy b=>?_)
 .let⟨y,b,e⟩:=d x a;rw[<-e];exact(TL).1 aA y b
 let⟨x,a,e⟩:=f y b;rw[<-e];exact(TL).1 aA x a
noncomputable def Ns(a:Wi)(V b:N):Tm:=(Rg b).flatMap λs=>(Rg<|J (Tu a s)+1).map (UU a V s)
theorem Ve(a V b):Ns a V (b+1)=Ns a V b++(Rg<|J (Tu a b)+1).map (UU a V b):=by unfold Ns;rw[dN,eZ];simp
theorem Jr(a:m<J x):s∈mm x n m↔∃i,i<=J x[m].2/\s=Uq x x[m] n m i:=by
 unfold mm;rw[aC a];simp only[bU,aY,cS];constructor
 .rintro(⟨j,_,e⟩|e);·exact⟨(j:N)+1,j.2,e.symm⟩
  exact⟨0,aN,e⟩
 rintro⟨i,b,e⟩;cases i with
 |zero=>exact aZ e
 |succ j=>
  refine bC ⟨⟨j,b⟩,?_,e.symm⟩;unfold Us;rw[aW sP];exact kU.2<|lX _
theorem Er:NW (Ns x n (J x))=NW (Zw x n (J x)):=by
 refine Fl (λe c=>?_) λy d=>?_
 .let⟨s,a,h⟩:=bV.1 c;obtain⟨i,b,rfl⟩:=aY.1 h;have a:=bE.1 a;have b:=bE.1 b;rw[Vt a]at b;refine⟨Uq x x[s] n s i,bV.2 ⟨s,bE.2 a,(Jr a).2 ⟨i,O,R⟩⟩,?_⟩;rw[TQ a];simp[Xi]
 let⟨s,a,h⟩:=bV.1 d;have a:=bE.1 a;obtain⟨i,b,rfl⟩:=(Jr a).1 h;refine⟨UU x n s i,bV.2 ⟨s,bE.2 a,aY.2 ⟨i,bE.2 (by rw[Vt a];omega),R⟩⟩,?_⟩;rw[TQ a];simp[Xi]
theorem Cd{a:Type}(f:N->a)(k):(Rg<|k+1).map f=(Rg k).map f++[f k]:=by rw[dN,bG];rfl
theorem C8(d c)(ha:Q (Xp w m k p x))(h:Q (d=J x))(V:Q (J x+Xx x<=1048576))(B:k<=Z w.1)(K:Q (XJ ⟨(n:I),x⟩=So))(t:Q (Jy n x)):
 Sk prog 22 #[Sa #[H n,X p d c]] w λo L=>o=Rt (H (NW (Zw x n (J x)):I))/\Sw (Z w.1) w L:=by
 have hn:d<=1000:=oP h.o t.1.2;have l:=Y λW (s:Sw (Z w.1) w W)=>Tr n p d c x m k W (Y<|ha.keep (s.mono B)) h V (oN s.4);have M:=Y<|WY ⟨(n:I),x⟩;rw[<-M.o,K.o]at l
 go_in
 go_wp2_with fail
 refine YU (l _<|Xb Rf _) λw1 g=>?_;have L_:=G (g.cell (p:=A (Z w.1) 0) sP) (show _=S (H n) by simp);have O_:=G (g.cell (p:=A (Z w.1) 1) sP) (show _=S (X p d c) by simp);have j:=Y<|Xg (Xb (dC (Z w.1) w) (Sc #[H n,X p d c] 45)) g;have y:=Y<|qm c (Y<|ha.keep (j.mono B)) h (oN j.4) t;go_wp2_with fail
 refine y.mono ?_;rintro o w2⟨gO,cO,Z_,rfl,P,ab,C⟩;have T:=Y C;have H_:=Y<|Xg j P;have I_:=Y<|oX t;go_wp2
 go_loop [3,5] (λu i=>∃b:N,b<=d/\i=H b/\u=H (NW (Ns x n b):I)) λ_ i=>d-(JB i).toNat
 .exact⟨0,aN,R,R⟩
 obtain⟨b,s,rfl,rfl⟩:=hrel;by_cases U_:b<d
 .let⟨P_,h2,r⟩:=T b U_;have R_:=I_ b;have z:=Y<|Ve x n b;let⟨e,F_⟩:∃e,e=J (Tu x b):=⟨_,R⟩;rw[<-F_]at P_ r R_ z;have G_:=Y r;generalize Ns x n b=f at*;go_wp2
  go_loop [3,6] (λu i=>∃a:N,a<=e+1/\i=H a/\u=H (NW (f++(Rg a).map (UU x n b)):I)) λ_ i=>e+1-(JB i).toNat
  .exact⟨0,aN,R,sP⟩
  obtain⟨a,hk,rfl,rfl⟩:=hrel;by_cases T_:a<e+1
  .let⟨b',o',q,aa,a',c',F,_⟩:=G_ a (by simpa using T_);simp only[cM,dW]at F;injection q with q;injection q with e1 e2;subst e1 e2;simp only[aV]at F;have ad:(a:I)<e+1:=O;have K_:=Y<|Cd (UU x n b) a;have v:Q (NW (f++(Rg<|a+1).map (UU x n b))=max (NW<|f++(Rg a).map (UU x n b)) (J (UU x n b a))):=Y (by rw[K_.o,<-cK,uV]);generalize NW (f++(Rg a).map (UU x n b))=M_ at*;generalize J (UU x n b a)=N_ at*;by_cases ac:(M_:I)<N_
   .go_wp2;exact⟨⟨a+1,O,gM,by rw[v.o,Nat.max_eq_right O]⟩,SA⟩
   go_wp2;exact⟨⟨a+1,O,gM,by rw[v.o,Nat.max_eq_left O]⟩,SA⟩
  have S_:a=e+1:=O;subst S_;rw[<-z.o];go_wp2;exact⟨⟨b+1,O,gM,R⟩,SA⟩
 have Q_:b=d:=O;subst Q_;go_wp2;go_ret;exact⟨by rw[h.o,Er];rfl,H_⟩
theorem JF(h:s∈Zw x n (J x))(a:m∈s):m<n:=by let⟨d,c,b⟩:=bV.1 h;obtain⟨i,_,rfl⟩:=(Jr<|bE.1 c).1 b;unfold Uq at a;exact bE.1 (fG.1 a).1
theorem WV:l∈Ns x n (J x)↔∃y∈Zw x n (J x),l=Xi y:=by
 unfold Ns Zw;constructor
 .intro h;let⟨s,b,d⟩:=bV.1 h;obtain⟨i,c,rfl⟩:=aY.1 d;have a:=bE.1 b;have c:=bE.1 c;rw[Vt a]at c;exact⟨Uq x x[s] n s i,bV.2 ⟨s,b,(Jr a).2 ⟨i,O,R⟩⟩,TQ a n i⟩
 rintro⟨y,e,rfl⟩;let⟨s,b,d⟩:=bV.1 e;have a:=bE.1 b;obtain⟨i,c,rfl⟩:=(Jr a).1 d;exact bV.2 ⟨s,b,aY.2 ⟨i,bE.2 (by rw[Vt a];omega),TQ a n i⟩⟩
theorem tD{xs V}(h:l∈Ns xs V (J xs)):J l<=V/\∀x∈l,∃k:N,k<V/\x=(k:I):=by
 obtain⟨y,c,rfl⟩:=WV.1 h;constructor
 .let⟨s,a,d⟩:=bV.1 c;obtain⟨i,f,rfl⟩:=(Jr<|bE.1 a).1 d;have:=qy xs V s i;rw[TQ<|bE.1 a]at this;exact this
 intro x b;unfold Xi at b;obtain⟨z,e,rfl⟩:=aY.1 b;exact⟨z,JF c e,R⟩
def NG(a:Wc)(v:N):I:=a.getD v 0
def US(a:Wc)(v:N):N:=(NG a v).toNat
def Pm(v:I)(b:Wi)(a:Wc)(k:I):Prop:=Ft v b=0/\0<=k/\k<=2000/\(J a:I)=v/\(∀c∈a,0<=c/\c<k)/\∀l∈Zw b v.toNat (J b),(l.map<|US a).Nodup
open Classical in
noncomputable def ZC(v:I)(b:Wi)(a:Wc)(k:I):Bool:=Jd (Pm v b a k)
theorem ZD(h:¬Pm t x l T):ZC t x l T=Sn:=by simp[ZC,h]
theorem ZF(h:Pm t x l T):ZC t x l T=So:=by simp[ZC,h]
theorem ZT{a b:Bool}(h:a=b):Rt (Sb b)=Rt (Sb a):=h▸R
def UM(b:Wc)(l:Wc)(a:N):I:=NG b (l.getD a 0).toNat
def P6(c l:Wc)(d:N):Prop:=∀a b,a < d->b < a->UM c l a≠UM c l b
def QD(c:Wc)(b:Tm)(i:N):Prop:=∀a,a < i->P6 c (b.getD a []) (J (b.getD a []))
def ZI(c:Wc)(d:Tm)(i j b:N):Prop:=∀a e B,e<J (d.getD a [])->B<e->(a<i\/a=i/\(e<j\/e=j/\B<b))->UM c (d.getD a []) e≠UM c (d.getD a []) B
theorem ZS{d:Tm}{j b:N}(h:ZI l d i j b)(e:UM l (d.getD i []) j≠UM l (d.getD i []) b):ZI l d i j (b+1):=λa c B p q r=>by
 by_cases k:a=i/\c=j/\B=b;·obtain⟨rfl,rfl,rfl⟩:=k;exact e
 exact h _ _ _ p q O
theorem Wp(h:∀c∈l,0<=c/\c<t)(v):0<=NG l v:=by
 unfold NG;rw[bF];by_cases a:v<J l;·rw[aC a];exact(h _<|aH a).1
 rw[dK O];decide
theorem Vj(ha:n<J s):UM l (Xi s) n=NG l s[n]:=by unfold UM Xi;rw[bF,dX,aC ha];rfl
theorem vJ(h:∀c∈l,0<=c/\c<t)(y):P6 l (Xi y) (J (Xi y))↔(y.map<|US l).Nodup:=by
 have n:J (Xi y)=J y:=by simp[Xi]
 rw[n];show _↔List.Pairwise _ _;rw[gY];simp only[bK,cM];constructor
 .intro a i j k b m e;have:=a j i b m;rw[Vj b,Vj k]at this;have o:=Wp h y[i];have p:=Wp h y[j];unfold US at e;exact this O
 intro a d f ha g e;rw[Vj ha,Vj O]at e;exact a f d O ha g<|by unfold US;rw[e]
theorem BZ(h:∀c∈l,0<=c/\c<t):QD l (Ns x n (J x)) (J (Ns x n (J x)))↔∀b∈Zw x n (J x),(b.map<|US l).Nodup:=by
 constructor
 .intro d b f;let⟨i,a,e⟩:=bR<|WV.2 ⟨b,f,R⟩;have:=d i a;rw[bF,aC a,gR,e]at this;exact(vJ h b).1 this
 intro d i a;rw[bF,aC a,gR];let⟨y,g,e⟩:=WV.1<|aH a;rw[e];exact(vJ h y).2 (d y g)
theorem Dm{a b}(f:l=(Ns x t.toNat (J x)).getD i [])(d:i<J (Ns x t.toNat (J x)))(ha:a<J l)(c:b<a)(e:UM L l a=UM L l b):¬Pm t x L T:=λh=>by have:=(BZ h.2.2.2.2.1).2 h.2.2.2.2.2 i d;rw[<-f]at this;exact this a b ha c e
structure j5(C:Ym)(l:Wa)(c:N):Prop where
 free:∀u∈l,C u≠(c:I)
 low:∀c',c' < c->∃u∈l,C u=(c':I)
theorem j5.one{C}(h:j5 C s c)(k:j5 C s n):c=n:=by
 obtain e|e|e:=mA c n
 .let⟨u,a,b⟩:=k.2 c e;exact Sz b<|h.1 u a
 .exact e
 let⟨u,a,b⟩:=h.2 n e;exact Sz b<|k.1 u a
theorem wM{C:Ym}{l:Wa}(h:∀a,a < c->∃u∈l,C u=(a:I)):c<=J l:=by
 have b:=K3 (A_:=Rg c) (B:=l.map λu=>(C u).toNat) kS (λx f=>by let⟨u,d,e⟩:=h x<|bE.1 f;exact aY.2 ⟨u,d,by rw[e];rfl⟩)
 simpa using b
theorem wL{C}{l:Wa}(h:∀a,a < J l->∃u∈l,C u=(a:I)):j5 C l (J l):=by
 refine⟨λu b e=>?_,h⟩;have:=wM (C:=C) (l:=l) (c:=J l+1) (λa c=>by
  by_cases e2:a=J l;·subst e2;exact⟨u,b,e⟩
  exact h a O)
 omega
theorem wI{C:Ym}(h:∀a,a < c->∃u∈s,C u=(a:I))(f:∀u∈s,u<n)(j:m<n)(d:C m=-1):c<n:=by
 have b:=K3 (A_:=Rg c) (B:=((Rg n).erase m).map λu=>(C u).toNat) kS (λx k=>by
  let⟨u,i,e⟩:=h x<|bE.1 k;have g:u≠m:=λe2=>by rw[e2,d]at e;omega
  exact aY.2 ⟨u,(iF g).2 (bE.2<|f u i),by rw[e];rfl⟩)
 rw[bK,fP<|bE.2 j,gI,gI]at b;omega
open Classical in
theorem wZ(C l):∃c,j5 C l c:=by
 by_cases j:∀a,a < J l->∃u∈l,C u=(a:I);·exact⟨_,wL j⟩
 have m:∃c,¬∃u∈l,C u=((c:N):I):=by apply dQ;intro b;exact j λa _=>dQ λd=>b ⟨a,d⟩
 have p:∀n c,c<=n->(¬∃u∈l,C u=((c:N):I))->∃c,j5 C l c:=by
  intro n
  induction n with
  |zero=>
   intro c f h;exact⟨c,λu i e=>h ⟨u,i,e⟩,λa g=>Sz g O⟩
  |succ n o=>
   intro c f h;by_cases k:∀a,a < c->∃u∈l,C u=(a:I);·exact⟨c,λu i e=>h ⟨u,i,e⟩,k⟩
   have:∃a,a < c/\¬∃u∈l,C u=((a:N):I):=by apply dQ;intro b;exact k λa g=>dQ λd=>b ⟨a,g,d⟩
   let⟨a,q,b⟩:=this;exact o a O b
 let⟨c,f⟩:=m;exact p c c aA f
noncomputable def Nx(C:Ym)(l:Wa):N:=Classical.choose<|wZ C l
theorem oa(C l):j5 C l (Nx C l):=gJ<|wZ C l
theorem ry{C}(h:j5 C s c):Nx C s=c:=(oa C s).one h
theorem MW(C l):Nx C l<=J l:=wM (oa C l).2
noncomputable def Nn(C:Ym)(s:N×Wa):Ym:=λu=>if u=s.1 then (Nx C s.2:I)else C u
noncomputable def Kq(C:Ym)(a:List (N×Wa)):Ym:=a.foldl Nn C
theorem rl{C}{a:List (N×Wa)}(s:N×Wa):Kq C (a++[s])=Nn (Kq C a) s:=by unfold Kq;rw[dT];rfl
theorem zW{C}{a b:List (N×Wa)}:Kq C (a++b)=Kq (Kq C a) b:=by unfold Kq;rw[dT]
noncomputable def Ni(a:Wi)(V b:N)(x:Xe)(k:N):List (N×Wa):=(x.1.take k).map λp=>(p.1.toNat,Uq a x V b 0)
noncomputable def VC(a:List Xe)(V b:N)(x:Xe):N->List (N×List N)
 |0=>[]
 |k+1=>VC a V b x k++match x.2[k]? with
  |none=>[]
  |some y=>(BW y).map λv=>(v.toNat,Uq a x V b<|k+1)
noncomputable def OV(a:List Xe)(V b:N):List (N×List N):=match a[b]? with
 |none=>[]
 |some x=>Ni a V b x (J x.1)++VC a V b x (J x.2)
noncomputable def Ko(b:Wi)(V:N)(a:Wa):List (N×Wa):=a.flatMap<|OV b V
theorem qT:Ko x n (s++[m])=Ko x n s++OV x n m:=by unfold Ko;rw[eZ];simp
noncomputable def NE(C:N->I):N->I
 |0=>0
 |V+1=>max (NE C V) (C V+1)
theorem uO(P:Wc)(m b):b∈XT P m b:=by cases m<;>simp[XT]
theorem tK{tg n P}(h:YX tg n P)(d:∀x,Re tg x->x<n):∀(m b c x:N),n<=J (Zq tg n b)+m->c∈XT P m b->x∈Nj P c->x∈XT P m b
 |0,b,c,x,hm,a,hx=>by
  have:c=b:=by simpa [XT]using a
  subst this;have g:=qJ h d hx;have i:=rr (tg:=tg) n x;omega
 |m+1,b,c,x,hm,a,hx=>by
  rw[XT,cH]at a;rw[XT,cH];obtain rfl|a:=a;·exact aZ<|bV.2 ⟨x,hx,uO P m x⟩
  let⟨e,f,a⟩:=bV.1 a;have g:=qJ h d f;exact aZ<|bV.2 ⟨e,f,tK h d m e c x O a hx⟩
theorem vH{tg n P}(h:YX tg n P)(a:∀x,Re tg x->x<n):∀(k x:N),J (Zq tg n x)<=k->Re tg x->x∈XT P n 0
 |k,x,hk,hx=>by
  by_cases b:x=0;·subst b;exact uO P n 0
  obtain⟨c,e1,e2,e3,e4,_⟩:=B8 h a hx b
  match k,hk with
  |0,hk=>omega
  |k+1,hk=>exact tK h a n 0 c x O (vH h a k c O e3) (o8.2 ⟨by rw[h.1];exact a x hx,e1⟩)
theorem CX(c:UF x)(b:YX (X8 x) (J x) l)(d:Jq x):(XT l (J x) 0).Perm (Rg (J x)):=by
 rw[List.perm_iff_count];intro a;rw[(qY b (J x) 0 Re.root).count,List.nodup_range.count];have:a∈XT l (J x) 0↔a∈Rg (J x):=by
  rw[bE];constructor
  .intro h;exact c.re a (Ji b (J x) 0 a Re.root h).2
  intro h;exact vH b c.re _ a aA (d a h)
 by_cases e:a∈XT l (J x) 0;·rw[aU e,aU<|this.1 e]
 rw[aM e,aM λh=>e<|this.2 h]
theorem TX(h:Ft t x=0):XJ ⟨t,x⟩=So/\Jq x:=by
 unfold Ft at h;by_cases a:XJ ⟨t,x⟩=Sn;·rw[aU a]at h;omega
 rw[aM a]at h;by_cases b:¬Jq x;·rw[aU b]at h;omega
 exact⟨by simpa using a,Classical.not_not.1 b⟩
def OG(a:List (N×Wa)):Wc:=a.map λs=>(s.1:I)
theorem Gl(a:Jy n x)(d:q∈x)(b):OG (Ni x n b q (J q.1))=XG q.1:=by unfold OG Ni XG;rw[gC,jO];apply gH;intro p c;have:=(a.8 q d p c).1;simp only[Function.comp];omega
theorem xf{V a}(d:Jy V a){x}(e:x∈a)(b):∀k,k<=J x.2->OG (VC a V b x k)=XI (x.2.take k)
 |0,_=>by simp[OG,VC,XI]
 |k+1,g=>by
  have i:=xf d e b k O;have c:k<J x.2:=g;have f:XI (x.2.take<|k+1)=XI (x.2.take k)++BW x.2[k]:=by rw[kJ,aC c];unfold XI BW;rw[eU,bG,Option.toList_some,iW,jX];cases dB x.2[k].1<;>rfl
  rw[f,<-i,VC,aC c];unfold OG;rw[bG,jO];congr 1;have:∀v∈BW x.2[k],((λs:N×Wa=>(s.1:I)) ∘ λv:I=>(v.toNat,Uq a x V b<|k+1)) v=v:=λv h=>by have:=(d.6 x e _ (aH c) v h).1;simp only[Function.comp];omega
  rw[gH this,List.map_id''];intro j;rfl
theorem wF(c:Jy n x)(a:m<J x):OG (OV x n m)=Z6 x[m]:=by unfold OV;rw[aC a];have d:=Gl c (aH a) m;have b:=xf c (aH a) m (J x[m].2) aA;rw[gC]at b;show OG (Ni x n m x[m] (J x[m].1)++VC x n m x[m] (J x[m].2))=_;unfold OG at*;rw[bG,d,b];rfl
theorem uq{V a}(c:Jy V a):∀k,k<=J a->OG (Ko a V<|Rg k)=BX (a.take k)
 |0,_=>by simp[OG,Ko,BX]
 |k+1,e=>by have f:=uq c k O;have b:k<J a:=e;rw[dN,qT,kJ,aC b];have d:=wF c b;unfold OG at*;rw[bG,f,d];unfold BX;rw[eZ,Option.toList_some,jF,List.flatMap_nil,fF]
theorem Gk(d:XJ ⟨(n:I),x⟩=So)(t:Jq x)(q:YX (X8 x) (J x) l):
 (OG<|Ko x n (XT l (J x) 0)).Nodup/\∀u:N,u<n->(u:I)∈OG (Ko x n<|XT l (J x) 0):=by
 have c:=XH d;have m:(OG<|Ko x n (XT l (J x) 0)).Perm (BX x):=by have b:=uq c (J x)<|aA;rw[gC]at b;rw[<-b];unfold OG Ko;exact(List.Perm.flatMap_right _<|CX c.1 q t).map _
 have k:JM ⟨(n:I),x⟩=So:=by unfold XJ at d;simp only[bY]at d;exact d.2
 have j:∀u:N,u<n->(BX x).count (u:I)=1:=λu g=>by unfold JM at k;have:=dV.1 k u (bE.2<|by simpa using g);rw[iA,qp]at this;exact this
 have r:∀f∈BX x,0<=f/\f<(n:I):=λf a=>by
  let⟨p,o,a⟩:=bV.1 a;obtain a|a:=bU.1 a
  .obtain⟨w,s,rfl⟩:=aY.1 a;exact c.8 p o w s
  obtain⟨y,v,rfl⟩:=aY.1 a;let⟨b,i⟩:=fG.1 v;exact c.6 p o y b y.2<|by unfold BW;rw[i];simp
 constructor
 .rw[mY];intro e;rw[m.count_eq];by_cases h:e∈BX x
  .let⟨b,i⟩:=r e h;have:=j e.toNat O;rw[fR b]at this;omega
  rw[kZ h];omega
 intro u g;rw[m.mem_iff];apply kE.1;rw[j u g];decide
structure mn(V:N)(ss:List (N×Wa)):Prop where
 lt:∀s∈ss,s.1<V
 nd:∀pre s post,ss=pre++s::post->∀t∈pre,t.1≠s.1
 all:∀u,u<V->∃s∈ss,s.1=u
theorem vV(i:XJ ⟨(n:I),x⟩=So)(q:Jq x)(m:YX (X8 x) (J x) l):mn n (Ko x n<|XT l (J x) 0):=by
 let⟨b,d⟩:=Gk i q m;have g:=XH i;refine⟨λs a=>?_,λC s B e z t=>?_,λF u=>?_⟩
 .let⟨k,_,a⟩:=bV.1 a;unfold OV at a;cases hb:x[k]? with
  |none=>rw[hb]at a;cases a
  |some c=>
   have j:c∈x:=eN hb;have o:=(cV.1 hb).1;have r:((s.1:N):I)∈Z6 c:=by have h:=wF g o;rw[(cV.1 hb).2]at h;rw[<-h];unfold OV OG;exact aY.2 ⟨s,a,R⟩
   obtain f|f:=bU.1 r
   .let⟨w,p,e⟩:=aY.1 f;have:=g.8 c j w p;have e:=e;omega
   let⟨y,v,e⟩:=aY.1 f;let⟨b,d⟩:=fG.1 v;have:=g.6 c j y b y.2 (by unfold BW;rw[d];simp);have e:=e;omega
 .rw[e]at b;unfold OG at b;rw[bG,eH]at b;have:=(gW.1 b).2.2 _ (aY.2 ⟨z,t,R⟩) _ cI;exact λe=>this<|by rw[e]
 let⟨s,a,e⟩:=aY.1<|d F u;exact⟨s,a,O⟩
theorem TE{v}:∀(a:List (N×Wa))(C:Ym),(∀s∈a,s.1≠v)->Kq C a v=C v
 |[],_,_=>R
 |s::a,C,h=>by have c:=TE a (Nn C s) λt b=>h t<|cN _ b;show Kq (Nn C s) a v=_;rw[c];unfold Nn;rw[aM λe=>h s cI e.symm]
theorem UP{v}:∀(a:List (N×Wa))(C:Ym),(0<=C v\/∃s∈a,s.1=v)->0<=Kq C a v
 |[],_,h=>by
  obtain h|⟨s,h,_⟩:=h;·exact h
  cases h
 |s::a,C,h=>by
  show 0<=Kq (Nn C s) a v;refine UP a (Nn C s) ?_;by_cases e:v=s.1
  .left
   unfold Nn;rw[aU e];omega
  obtain h|⟨t,b,e2⟩:=h
  .left
   unfold Nn;rw[aM e];exact h
  obtain rfl|b:=cH.1 b;·exact Sz e2.symm e
  exact aZ ⟨t,b,e2⟩
theorem UJ(C:Ym):∀V,0<=NE C V
 |0=>by simp[NE]
 |V+1=>by have:=UJ C V;rw[NE];omega
theorem vA{C:Ym}{v:N}{x:I}:∀V,V<=v->NE (λu=>if u=v then x else C u) V=NE C V
 |0,_=>R
 |V+1,h=>by rw[NE,NE,vA V O,aM O]
theorem vI{C:Ym}{v x}(a:C v=-1):∀V,v<V->NE (λu=>if u=v then x else C u) V=max (NE C V) (x+1)
 |V+1,h=>by
  rw[NE,NE];by_cases e:V=v
  .subst e;have:=UJ C V;rw[aU R,vA V<|aA,a];omega
  rw[aM e,vI a V O];omega
theorem tV:∀V,NE (λ_=>-1) V=0
 |0=>R
 |V+1=>by rw[NE,tV V];decide
theorem xU:∀y∈(ah l x n t m).2,J y.1<=4128:=by
 unfold ah;split;·simp
 intro y a;simp only[cS]at a;subst a;have:=m8<|NU l x n t;show J (NL l x n t)<=4128;unfold NL;omega
theorem Il(a c b x m)(e:J x.2<=4000):J (Nk a c b x m).1.1<=4128/\∀y∈(Nk a c b x m).2,J y.1<=4128:=by
 unfold Nk;split
 .refine⟨?_,sP⟩;have:=m8<|NU a c b x.3.3;show J (x.2.map (ZR a)++NL a c b x.3.3)<=4128;rw[aQ,bK];unfold NL;omega
 split
 .refine⟨by show J (x.2.map<|ZR a)<=4128;rw[bK];omega,λy d=>?_⟩;obtain h|h:=bU.1 d;·exact xU y h
  exact xU y h
 exact⟨by show J (x.2.map<|ZR a)<=4128;rw[bK];omega,sP⟩
theorem xP(c:Wc)(a:Wi)(e:∀x∈a,J x.2<=4000):∀b,b<=J a->(∀y∈(ae c a b).1,J y.1<=4128)/\∀y∈(ae c a b).2,J y.1<=4128
 |0,_=>by simp[ae]
 |b+1,h=>by
  obtain⟨f,g⟩:=xP c a e b O;let⟨i,j⟩:=Il c a b a[b] (J a+J (ae c a b).2) (e _<|aH _);rw[ou c a b O];refine⟨λy d=>?_,λy d=>?_⟩
  .rcases bU.1 d with h|h;·exact f y h
   rw[cS.1 h];exact i
  obtain h|h:=bU.1 d;·exact g y h
  exact j y h
theorem yo(b)(a:Wi)(j:J a<=1000)(e:∀x∈a,J x.2<=4000):J (NK b a)<=3000/\∀y∈NK b a,J y.1<=4128:=by
 unfold NK;have g:=ll b a (J a)<|aA;have i:=oz b a (J a)<|aA;let⟨c,d⟩:=xP b a e (J a)<|aA;refine⟨by rw[aQ];omega,λy f=>?_⟩;obtain h|h:=bU.1 f;·exact c y h
 exact d y h
theorem pM(h:Ft t x=0):XJ ⟨t,x⟩=So:=by
 unfold Ft at h;by_cases a:XJ ⟨t,x⟩=Sn;·rw[aU a]at h;omega
 simpa using a
theorem HK.ints{b}(h:HK w n m k b):Xf w 0 (Z w.1) (S ⟨n,0,U⟩) ((Rg m).map b):=λi a=>by simp only[bK,gI]at a;refine⟨n,0,R,⟨aN,h.lt⟩,?_⟩;simp only[cM,dW,aV];exact h.cell a
noncomputable def PK(V:N)(a:Wi):Ym:=Kq (λ_=>-1) (Ko a V<|XT ((Rg (J a)).map (L0<|(Rg (J a)).map (Zq (X8 a) (J a)))) (J a) 0)
noncomputable def OJ(V:N)(a:Wi):Wc:=(Rg V).map (PK V a)
theorem B7{V:N}:NW (Zw x V (J x))<=V:=TL.2 λl h=>by let⟨s,a,c⟩:=bV.1 h;obtain⟨i,_,rfl⟩:=(Jr<|bE.1 a).1 c;exact YS (by unfold Uq;exact List.nodup_range.sublist jR) λu b=>JF h b
structure Pg where
 co:I
 li:I
 ne:I
 k:I
 l:List ag
noncomputable def f8(o:jg)(k:I):Pg :=
 if o.1≠0 then ⟨o.1,o.2,0,0,[]⟩else if Ft o.3.1 o.3.2≠0 then ⟨Ft o.3.1 o.3.2,0,0,0,[]⟩else if k<1\/64<k then ⟨12,0,0,0,[]⟩
 else if k<NW (Zw o.3.2 o.3.1.toNat (J o.3.2))then ⟨13,0,NW<|Zw o.3.2 o.3.1.toNat (J o.3.2),0,[]⟩
 else if ZC o.3.1 o.3.2 (OJ o.3.1.toNat o.3.2) k then ⟨0,0,NW<|Zw o.3.2 o.3.1.toNat (J o.3.2),k,NK (OJ o.3.1.toNat o.3.2) o.3.2⟩else ⟨0,0,NW<|Zw o.3.2 o.3.1.toNat (J o.3.2),0,[]⟩
section
def Vdp(W:World)(R_:N):N->List Value->World
 |_,[]=>W
 |i,v::vs=>Vdp (Se W ⟨R_,i,U⟩ v) R_ (i+1) vs
theorem VbC{R_ b:N}(c:b≠R_):∀(a:Wo)(W:Ub)(i:N),(Vdp W R_ i a).1[b]?=W.1[b]?
 |[],_,_=>R
 |v::a,W,i=>G (VbC c a (Se W (A R_ i) v) (i+1)) (cY c)
theorem Vbh{B:N}{w:Ub}{R_:N}(b:B<=R_):∀(a:Wo)(W:Ub)(i:N),Sw B w W->Sw B w (Vdp W R_ i a)
 |[],_,_,h=>h
 |v::a,W,i,h=>Vbh b a (Se W (A R_ i) v) (i+1) (h.setCell b _)
theorem Vb1{R_ t:N}:∀(c b a:Wo)(W:Ub),W.1[R_]?=S (Sc (a++b).toArray t (0,0))->J b=J c->(Vdp W R_ (J a) c).1[R_]?=S (Sc (a++c).toArray t (0,0))
 |[],b,a,W,h,hl=>by have:b=[]:=iE hl;subst this;exact h
 |v::c,[],a,W,h,hl=>by simp at hl
 |v::c,z::b,a,W,h,hl=>by have d:=set_at _ (J a) v h;have f:(a++z::b).toArray.setIfInBounds (J a) v=((a++[v])++b).toArray:=sP;rw[f]at d;have e:=Vb1 c b (a++[v]) (Se W (A R_ (J a)) v) d (by simpa using hl);rw[aQ,nR]at e;show(Vdp (Se W (A R_ (J a)) v) R_ (J a+1) c).1[R_]?=_;rw[e];simp
def Vac(aa:Uy)(na ca gh:N)(fuel:I)(gv m:N):Wo:=[X aa na ca,Hl gh 32 32,Hq,H fuel,H 0,H 0,Hl gv m m,Hq,H 0,H 0,Hq]
structure Va0(w W:Ub)(m:N)(aa:Uy)(na ca:N)(fuel:I)(R_ gv gh:N)(heap:Wc)(tl:Wo):Prop where
 below:Sw (Z w.1) w W
 rb:Vaj W (Z w.1+1)
 box:∃t,W.1[R_]?=S (Sc (Vac aa na ca gh fuel gv m++tl).toArray t (0,0))
 vals:VaC W gv (List.replicate m 0)
 heap:VaC W gh (Va5 heap)
 lo:Z w.1+1<R_/\Z w.1+1<gv/\Z w.1+1<gh
 ne:R_≠gv/\R_≠gh/\gv≠gh
section
variable{w W w4 w5:Ub}{m:N}{aa:Uy}{na ca:N}{fuel:I}{R_ gv gh:N}{heap:Wc}{tl:Wo}
theorem Va0.lt(h:Va0 w W m aa na ca fuel R_ gv gh heap tl):R_<Z W.1:=by obtain⟨t,a⟩:=h.3;exact(aS.1 a).1
theorem Va0.cell(h:Va0 w W m aa na ca fuel R_ gv gh heap tl)(i:N)(v:Uj)(b:(Vac aa na ca gh fuel gv m++tl)[i]?=S v):E W (A R_ i)=S v:=by obtain⟨t,a⟩:=h.3;simp only[World.cell?,a];simpa using b
theorem Va0.fz(h:Va0 w W m aa na ca fuel R_ gv gh heap tl)(o:N):W.frozen? (A R_ o)=Sn:=by obtain⟨t,a⟩:=h.3;simp[World.frozen?,a]
theorem Va0.runBox(h:Va0 w W m aa na ca fuel R_ gv gh heap tl):VaW W R_ aa na ca Hq (λo=>E W (A R_ o)):=⟨h.cell 0 _ R,h.cell 7 _ R,h.fz,λ_ _=>R⟩
theorem Vbn(a:Va0 w W m aa na ca fuel R_ gv gh heap tl)(c:Kb (Z W.1) R_ R_ W w4){G_ n c4:N}(i:VaW w4 R_ aa na ca (Hl G_ n c4) λo=>E W (A R_ o)):
 VaL w4 R_ aa na ca gh 32 U 0 0 fuel 0 0 gv m m G_ n c4 0 0 U 0 0/\VaC w4 gv (List.replicate m 0)/\VaC w4 gh (Va5 heap):=by
 obtain⟨g,h,bz,b⟩:=i;obtain⟨d,f,l⟩:=a.7;have j:=a.4.lt;have k:=a.5.lt;exact⟨⟨g,G (b 1 vY) (a.cell 1 _ R),G (b 2 vY) (a.cell 2 _ R),G (b 3 vY) (a.cell 3 _ R),G (b 4 vY) (a.cell 4 _ R),G (b 5 vY) (a.cell 5 _ R),G (b 6 vY) (a.cell 6 _ R),h,G (b 8 vY) (a.cell 8 _ R),G (b 9 vY) (a.cell 9 _ R),G (b 10 vY) (a.cell 10 _ R),bz⟩,
  a.4.keep (c.5 gv j (λe=>d e.symm) λe=>d e.symm),a.5.keep<|c.5 gh k (λe=>f e.symm) λe=>f e.symm⟩
end
def VbN(w:Ub)(L B:N)(val:Uj)(o:QO):Prop :=
 ∃c f h ha e g,val=Sa #[H o.1,H o.2,H o.3,X c f h,X ha e g]/\f=J o.4/\e=J o.5/\Xf w L B c o.4/\Xf w L B ha o.5 /\
  (∀b a,c=S (A b a)->∀i,w.frozen? (A b i)=Sn)/\(∀b a,ha=S (A b a)->∀i,w.frozen? (A b i)=Sn)/\∀b a d j,c=S (A b a)->ha=S (A d j)->b≠d
theorem Vaw{w:Ub}{B t:N}{a:Uy}{d c n:N}{f:Wo}(h:Sx w B t 1 (X a d c) n f):∀b o,a=S (A b o)->∀i,w.frozen? (A b i)=Sn:=λb o e i=>by
 subst e;obtain⟨e2,_⟩|⟨g,cap,cur,e2,_,hh,_⟩:=h.2;·injection e2 with e3;cases e3
 injection e2 with e3 _ _;injection e3 with e3;injection e3 with e4 _ _;subst e4;simp[World.frozen?,hh]
section
variable{w W w4 w5:Ub}{m:N}{aa:Uy}{na ca fuel:N}{R_ gv gh G_ n c4:N}{heap:Wc}{tl:Wo}{R0:QO}
theorem VbJ(c:Va0 w W m aa na ca fuel R_ gv gh heap tl)(l:Kb (Z W.1) R_ R_ W w4)(F:32=J R0.5){g:Uy}{p i:N}{u:Uy}{L v:N}{b M:I}{B K:Wc}(f:Vai w4 w5 R_ aa na ca gh 32 g p i fuel R0.3 R0.2 gv m m G_ n c4 b M u L v (Z w4.1) B R0.5 R0.4 K):
 Vaj w5 (Z w.1+1)/\∀a,Sw (Z w.1) w (Vdp w5 (Z w.1+1) 0 a) /\
  VbN (Vdp w5 (Z w.1+1) 0 a) (Z w.1) (Z (Vdp w5 (Z w.1+1) 0 a).1) (Sa #[H R0.1,H R0.2,H R0.3,X g p i,Hl gh 32 32]) R0:=by
 obtain⟨U_,V_,X_⟩:=c.6;obtain⟨Y_,Z_,n3⟩:=c.7;have Q_:=c.lt;have S_:=c.1.4;have T_:=l.4;have P_:=f.1.4;have far:∀q,q<Z W.1->q≠R_->q≠gv->q≠gh->w5.1[q]?=W.1[q]?:=λq x j y z=>G (f.1.5 q O j y z) (l.5 q x j j);have P:Sw (Z w.1) w w5:=c.1.trans<|(l.below O O O).trans (f.1.below O O O O);refine⟨c.2.keep<|far _ O O O O,λa=>⟨Vbh O a w5 0 P,?_⟩⟩;have r:∀q,q≠Z w.1+1->(Vdp w5 (Z w.1+1) 0 a).1[q]?=w5.1[q]?:=λq hq=>VbC hq a w5 0;have mm:=f.2.2.1;have s:=Vay (w1:=Vdp w5 (Z w.1+1) 0 a) mm.3 (λq e=>r q (by have:=(mm.3.lt q e).1;omega));obtain⟨O_,c1,e1,T⟩:=Xk s;obtain⟨e2,e3,e4⟩:=Z5 e1;subst e2;have k:=mm.2.keep (w':=Vdp w5 (Z w.1+1) 0 a) (r gh O);have C:=k.frozen;have V:=Vaw s;have B_:∀b d h t,g=S (A b d)->S ((A gh 0):Addr)=S (A h t)->b≠h:=λb d h t e u_ v_=>mm.6<|by rw[e,v_];cases u_;rfl
 have D_:∀b d,S ((A gh 0):Addr)=S (A b d)->∀o,(Vdp w5 (Z w.1+1) 0 a).frozen? (A b o)=Sn:=λb d e o=>by
  have e5:b=gh:=by cases e;rfl
  rw[e5];exact C o
 exact⟨g,p,i,_,32,32,R,e3,F,T.mono O<|aA,k.at ⟨O,k.lt⟩,V,D_,B_⟩
end
end
theorem VbW(f k i:I)(o p ha n:Uy)(d s t c q r:N)(j h:Wc)(L B e a:N)(w:Ub)(z:Q (Xf w L B o j))(C:Q (Xf w e a p j))(F:Q (Xf w L B ha h))(P:Q (Xf w e a n h))(T:Q (d=J j))(K:Q (c=J h))(V:d<=1048576)(W:c<=1048576)(u:B<=Z w.1)(v:a<=Z w.1):
 Sk prog 8 #[Sa #[H f,H k,H i,X o d s,X ha c q],Sa #[H f,H k,H i,X p d t,X n c r]] w λm M=>m=Rt (Sb So)/\Sw (Z w.1) w M:=by
 have e1:(f != f)=Sn:=sP;have e2:(k != k)=Sn:=sP;have e3:(i != i)=Sn:=sP;have b:=λx y=>Xb (Xb (dC (Z w.1) w) x) y;have z_:=λx y=>Y<|Vbg o p d s t j L B e a (D (D w x) y) (Y<|z.keep ((b x y).mono u)) (Y<|C.keep ((b x y).mono v)) T V (by have:=(b x y).4;omega) (by have:=(b x y).4;omega)
 go_in
 go_wp2_with fail
 refine YU (z_ _ _) λO_ g=>?_;obtain⟨N_,f1⟩:=NC g;have I_:=g.4;simp at I_;have l:=Y<|Xg (b _ _) g;clear g;go_wp2_with fail
 refine YU (Vbg ha n c q r h L B e a _ (Y<|F.keep (l.mono u)) (Y<|P.keep (l.mono v)) K W O O) λP_ F_=>?_;go_wp2;go_ret;exact⟨R,Xg l.o F_⟩
theorem Xf.narrow(h:Xf w n m p l)(k:∀b o,p=S (A b o)->n<=b/\b<m->∀i,w.frozen? (A b i)=Sn):∃b e,Xf w b e p l/\iy b e w/\((b=0/\e=0)\/(e=b+1/\(n<=b/\b<m)/\∃o,p=S (A b o))):=by
 by_cases r:0<J l
 .obtain⟨b,o,e,d,_⟩:=h 0 r;refine⟨b,b+1,λi c=>?_,λq a hq=>?_,aZ ⟨R,d,o,e⟩⟩
  .obtain⟨f,a,g,_,j⟩:=h i c;have e2:S ((A b o):Addr)=S (A f a):=G e.symm g;cases e2;exact⟨b,o,e,O,j⟩
  have:q=b:=O;subst this;exact k q o e d a
 exact⟨0,0,λi c=>Sz c O,λq a hq=>Sz hq O,bC ⟨R,R⟩⟩
theorem Vbt(W_ va st k:I)(g ha:Uy)(a T f t:N)(C y:Wc)(L B:N)(w:Ub)(Z_:Q (Xf w L B g C))(h2:Q (Xf w L B ha y))(hx:Q (a=J C))(hy:Q (f=J y))(hn:a<=1048576)(hm:f<=1048576)(hB:B<=Z w.1)(f1:Q (∀b o,g=S (A b o)->L<=b/\b<B->∀i,w.frozen? (A b i)=Sn))(f2:Q (∀b o,ha=S (A b o)->L<=b/\b<B->∀i,w.frozen? (A b i)=Sn))(X_:Q (∀b o V o',g=S (A b o)->ha=S (A V o')->b≠V))(Y_:0<=k)(hk:k<=1000000):
 Sk prog 13 #[Sa #[H W_,H va,H st,X g a T,X ha f t],H k] w λe F=>e=Rt (H (k+a+f))/\N8 L B w F/\Xf F L B g (VbP k a)/\Xf F L B ha (VbP (k+a) f):=by
 have m:=λx=>Xb (dC (Z w.1) w) x
 obtain⟨d,j,P,W,p⟩:=Z_.narrow f1.o;obtain⟨c,eh,Q_,S_,s⟩:=h2.narrow f2.o;have ac:(d=0/\j=0)\/(j=d+1/\L<=d/\d<B):=by
  obtain r|⟨r,K,_⟩:=p;·exact bC r
  exact aZ ⟨r,K⟩
 have ad:(c=0/\eh=0)\/(eh=c+1/\L<=c/\c<B):=by
  obtain r|⟨r,K,_⟩:=s;·exact bC r
  exact aZ ⟨r,K⟩
 have J_:j<=Z w.1:=O;have aa:eh<=Z w.1:=O;have I_:∀q,d<=q/\q<j->¬(c<=q/\q<eh):=λq q1 q2=>by
  obtain p|⟨p,_,o1,e1⟩:=p;·omega
  obtain s|⟨s,_,o2,e2⟩:=s;·omega
  exact X_.o _ _ _ _ e1 e2 O
 have T_:=λx=>Y<|VaZ g a T k C d j (D w x) (Y<|P.keep ((m x).mono J_)) hx (Y<|W.keepS (ZU<|(m x).mono J_)) hn Y_ O;have N2:=Y Q_;have T2:=Y S_;clear P W Q_ S_
 go_in
 go_wp2_with fail
 refine YU (T_ _) λM⟨n,M_⟩=>?_;have k4:E M (A (Z w.1) 4)=S (X ha f t):=G (Xc<|n.5 (Z w.1) O) SC;have U_:=Y M_;have O_:YA c eh w M:=λq q1 q2=>G (n.5 q λz=>I_ q z ⟨q1,q2⟩) ((m _).5 q O);have F_:=Y O_;have l:=Y n;clear n M_ O_;go_wp2_with fail
 refine YU (VaZ ha f t (k+a) y c eh M (Y<|N2.keepS F_.o) hy (Y<|T2.keepS F_.o) hm O O) λw2⟨K_,N_⟩=>?_;have h:=Y K_;have V_:=Y N_;clear K_ N_;go_wp2;go_ret;have hT:Xf w2 d j g (VbP k a):=U_.keepS λq q1 q2=>h.5 q λz=>I_ q ⟨q1,q2⟩ z;refine⟨R,⟨G h.1 l.1,G h.2 l.2,G h.3 l.3,by rw[h.4,l.4];simp,λq hq ab=>?_⟩,?_,?_⟩;·exact G (h.5 q O) (G (l.5 q O) ((m _).5 q hq))
 .intro i v;obtain⟨b,o,e,hb,u⟩:=hT i v;exact⟨b,o,e,O,u⟩
 intro i v;obtain⟨b,o,e,hb,u⟩:=V_.o i v;exact⟨b,o,e,O,u⟩
theorem Vbu(j r q k:I)(h ha:Uy)(a f b d:N)(L B:N)(w:Ub)(m:Q (Xf w L B h<|VbP k a))(n:Q (Xf w L B ha<|VbP (k+a) b))(p:a<=1048576)(o:b<=1048576)(g:B<=Z w.1)(l:0<=k)(t:k<=1000000):
 Sk prog 14 #[Sa #[H j,H r,H q,X h a f,X ha b d],H k] w λe s=>e=Rt (H (k+a+b))/\Sw (Z w.1) w s:=by
 have c:=λx=>Xb (dC (Z w.1) w) x;have i:=λx=>Y<|Va7 f (D w x) (Y<|m.keep ((c x).mono g)) p l O;have C2:=λx=>Y<|Va7 d (D w x) (Y<|n.keep ((c x).mono g)) o O O
 go_in
 go_wp2_with fail
 refine YU (i _) ?_;rintro u rfl;go_wp2_with fail
 refine YU (C2 _) ?_;rintro v rfl;go_wp2;go_ret;exact⟨R,c _⟩
section
section
variable{w:Ub}{v:I}{a:Uy}{n c:N}{a6:Uy}{c6:N}{oc ov os:I}{ta0:Uy}{nt ct0:N}{ha0:Uy}{nh ch0:N}{ta9:Uy}{ct9:N}{ha9:Uy}{ch9:N}{tr hp:Wc}{B4 B5 B6 B8 B9:N}{W W':Ub}
end
end
theorem Vcd{C:Uy}{b:List ag}(ha:Q (d7 w i j p b))(K:Q (n=J b))(z:Q (J b+VaJ b<=16777216))(L:j<=Z w.1)(M:Q (Uw w))(F:Q (T7 w))(bad:VaB t b=Sn\/VaX m B T=Sn):
 Sk prog 18 #[Sa #[H t,X p n c],X P m k,X C B g,H T] w
  λe r=>∃val,e=Rt val/\Sw (Z w.1) w r/\VbN r (Z w.1) (Z r.1) val ⟨4,0,0,[],[]⟩:=by
 have s:=λx y=>Y<|ha.keep ((Xb (Xb (dC (Z w.1) w) x) y).mono L);have u:=λx y=>Y<|M.keep (Xb (Xb (dC (Z w.1) w) x) y);have v:=λx y=>Y<|F.keep (Xb (Xb (dC (Z w.1) w) x) y);cases hvd:VaB t b
 .clear bad
  go_in
  go_wp2_with (go_at_call 33;refine YU (VaS (s _ _) K z SB (u _ _) (v _ _)) λV a=>?_;rw[hvd];have d:=Y<|Xg (Xb (Xb (dC (Z w.1) w) _) _) a;obtain⟨-,⟨f,h,l,o,q⟩,rz⟩:=VbI<|a.mono sP;clear a)
  exact YL (v:=Sa #[H 4,H 0,H 0,Hq,Hq]) ⟨_,R,(((((d.setCell (by show Z w.1<=Z w.1+1;omega) _).setCell (by show Z w.1<=Z w.1+1;omega) _).setCell (by show Z w.1<=Z w.1+1;omega) _).setCell (by show Z w.1<=Z w.1+1;omega) _).setCell (by show Z w.1<=Z w.1+1;omega) _),U,0,0,U,0,0,R,R,R,Xf.nil _ _ _ _,Xf.nil _ _ _ _,λ_ _ e=>(nomatch e),λ_ _ e=>(nomatch e),λ_ _ _ _ e=>(nomatch e)⟩
 rw[hvd]at bad;have W:VaX m B T=Sn:=by simpa using bad
 clear bad
 go_in
 go_wp2_with (first|(go_at_call 33;refine YU (VaS (s _ _) K z SB (u _ _) (v _ _)) λV a=>?_;rw[hvd];have d:=Y<|Xg (Xb (Xb (dC (Z w.1) w) _) _) a;obtain⟨-,⟨f,h,l,o,q⟩,rz⟩:=VbI<|a.mono sP;clear a)|(go_at_call 34;refine YU Va9 ?_;rintro I_ rfl;rw[W]))
 exact YL (v:=Sa #[H 4,H 0,H 0,Hq,Hq]) ⟨_,R,(((((d.setCell (by show Z w.1<=Z w.1+1;omega) _).setCell (by show Z w.1<=Z w.1+1;omega) _).setCell (by show Z w.1<=Z w.1+1;omega) _).setCell (by show Z w.1<=Z w.1+1;omega) _).setCell (by show Z w.1<=Z w.1+1;omega) _),U,0,0,U,0,0,R,R,R,Xf.nil _ _ _ _,Xf.nil _ _ _ _,λ_ _ e=>(nomatch e),λ_ _ e=>(nomatch e),λ_ _ _ _ e=>(nomatch e)⟩
theorem VcG(h:w.1[n]?=S (Sc #[Hq,Hq,Hq,H 0,H 0,H 0,Hq,Hq,H 0,H 0,Hq,H 0] m (0,0))):(E w (A n 0)=S Hq/\E w (A n 1)=S Hq/\E w (A n 2)=S Hq/\E w (A n 3)=S (H 0)/\E w (A n 4)=S (H 0)/\E w (A n 5)=S (H 0)/\E w (A n 6)=S Hq/\E w (A n 7)=S Hq/\E w (A n 8)=S (H 0)/\E w (A n 9)=S (H 0)/\E w (A n 10)=S Hq/\E w (A n 11)=S (H 0))/\∀o,w.frozen? (A n o)=Sn:=by refine⟨⟨?_,?_,?_,?_,?_,?_,?_,?_,?_,?_,?_,?_⟩,λo=>by simp[World.frozen?,h]⟩<;>simp[World.cell?,h]
theorem Vcu{hA:Uy}{o:List ag}{args:Wc}{a1 ac:N}(ha:Q (d7 w a1 ac p o))(M:Q (m=J o))(T:Q (J o+VaJ o<=16777216))(L:ac<=Z w.1)(bh:Q (Xf w a1 ac P args))(bi:Q (k=J args))(br:Q (Xf w a1 ac hA l))(bv:Q (g=J l))(hO:Q (Uw w))(hT:Q (T7 w))(V:Q (VaB n o=So))(ok:VaX k g j=So)(b4:n<=64)(ao:1<=m)(hf:j<=60000)(bp:g<=32):
 Sk prog 18 #[Sa #[H n,X p m c],X P k B,X hA g i,H j] w
  λr_ w'=>∃val,r_=Rt val/\Sw (Z w.1) w w'/\VbN w' (Z w.1) (Z w'.1) val (VaM o args j 0<|Vav n l):=by
 have HA:=λaa ab=>Y<|ha.keep ((Xb (Xb (dC (Z w.1) w) aa) ab).mono L);have HO:=λaa ab=>Y<|hO.keep (Xb (Xb (dC (Z w.1) w) aa) ab);have HT:=λaa ab=>Y<|hT.keep (Xb (Xb (dC (Z w.1) w) aa) ab);generalize F:VaM o args j 0 (Vav n l)=e
 go_in
 go_wp2_with (first|(go_at_call 33;refine YU (VaS (HA _ _) M T SB (HO _ _) (HT _ _)) λw1 al=>?_;rw[V.o];have ad:=Y<|Xg (Xb (Xb (dC (Z w.1) w) _) _) al;obtain⟨a5,bl⟩:=VbI<|al.mono sP;have be:=Y bl;have z0:=a5.1;have z1:=a5.2;have bx:=al.4;simp at bx;clear al a5 bl)|(go_at_call 34;refine YU Va9 ?_;rintro d rfl;rw[ok]))
 have af:=λ(W:Ub)(bf:Sw (Z w.1) w W)=>Y (by have q:=Vcq P k B i j (n+1) (Y<|br.keep (bf.mono L)) bv bp O (by have:=bf.4;omega);rw[show((n+1:N):I)=S6.wrap ((n:I)+1) by rw[dF];omega]at q;exact q)
 have b5:Z d.1≠Z w.1:=O;clear HA HO HT;refine Y7 (λw'=>E w' (A (Z w.1) 0)=S (H n)) λig=>?_;refine Xn 0 ?_;(iterate 5 refine Rm ?_);refine Xn 7 ?_;refine Xn 8 ?_;refine eS (rs:=[6,10]) vZ sP ?_;refine(bQ R (λK hK=>?_) (bQ R (λK hK=>?_) dY))
 .skip
  go_simp;refine(af _ ad.drew).mono ?_;rintro r_ b⟨h,v,rfl,y,Q_,R_,a9,z,C⟩;have f:Sw (Z d.1) d b:=(dC (Z d.1) d).drew.trans y;have b0:=f.4;have y0:=G (XU f O) z0;have y1:=G (XU f O) z1;have a6:=z.lt;have ba:=C.lt;have bd:Z b.1≠Z w.1:=O;simp at Q_ R_;have H_:=Y<|ad.trans (f.mono O);have G_:=Y f;have t:=Y z;have u:=Y C;clear y z C f;go_wp2_with fail
  refine hK _ _ kP λig=>?_;clear hK
  try simp only[Act.put,xA,xB,xC,xD,xE,xF]
  refine Xn 9 ?_;refine Xs 10 λK hK=>?_;go_simp;refine hK _ _ kP λig=>?_;clear hK;refine Xs 11 λK hK=>?_;go_simp;refine hK _ _ kP λig=>?_;clear hK;refine Yq ?_
  go_upto_region 4 with fail
  refine Vb3 (P:=Code.wp _ _ _ _) _ ?_;intro W x;have a7:=t.lt;have bc:=u.lt;have fW:∀q,q<Z b.1->W.1[q]?=b.1[q]?:=λq hq=>by rw[x];exact(Xb (dC (Z b.1) b) _).5 q hq
  have bW:Sw (Z b.1) b W:=by rw[x];exact Xb (dC (Z b.1) b) _
  have V_:W.1[Z b.1]?=S (Sc (Vac P k B h j v (n+1)++([H n]:Wo)).toArray 70 (0,0)):=by rw[x];exact l9 b _
  have a:=Y<|Va0.mk (w:=w) (W:=W) (m:=n+1) (aa:=P) (na:=k) (ca:=B) (fuel:=j) (R_:=Z b.1) (gv:=v) (gh:=h) (heap:=l) (tl:=[H n]) (H_.trans<|bW.mono O) (be.keep<|G (fW _ O) (G_.5 _ O)) ⟨_,V_⟩ (u.keep<|fW _ O) (t.keep<|fW _ O) O O;have v0:=G (Xc (o:=0) (fW (Z w.1) O)) y0;have v1:=G (Xc (o:=1) (fW (Z w.1) O)) y1;clear x fW V_ bW t u G_ H_ ig y0 y1 Q_ R_ a9 bd a7 bc a6 ba;generalize a4:Z b.1=a2 at*;obtain⟨l1,l2,l3⟩:=a.6;have M_:=a.lt;have ar:=Y (Va3 c (λo_=>E W (A a2 o_)) (Y<|ha.keep (a.1.mono L)) M T O M_ O (Y<|bh.keep (a.1.mono L)) bi V (Y a.runBox) (Y<|a.cell 11 _ R) ao);have a8:Q (32=J e.5):=Y (by rw[<-F,Vbv];simp[Vav,Va5]);have az:=Y F;clear af F z0 z1 a4;go_wp2_with fail
  refine YU ar λw5⟨bm,c5,gs,cs,vs,s,a3,N_,T_⟩=>?_;obtain⟨Y_,Z_,p3⟩:=Vbn a.o s N_;have bt:=s.4;have r:=VbS Y_ Z_ p3 T_ V.o M.o ao T.o hf M_ a.4.lt a.5.lt a.7.1 a.7.2.1 a.7.2.2 a3;rw[az.o]at r;have a0:=Y r;have aq:=Y s;clear r s N_ T_ Y_ Z_ p3 v0 v1;go_wp2_with fail
  refine a0.mono ?_;rintro r_ w6⟨ta,X_,I_,rfl,ka,kn,kc,bb,b1,b3,K,L_⟩;obtain⟨⟨⟨r0,r1,r2,r3,r4⟩,rz⟩,O_⟩:=VbJ a.o aq.o a8.o L_;have ap:=Y O_;clear L_ O_;go_wp2;exact YL (v:=Sa #[H e.1,H e.2,H e.3,X ta X_ I_,Hl h 32 32]) ⟨_,R,ap.o [H e.1,H e.2,H e.3,X ta X_ I_,Hl h 32 32]⟩
 skip
 go_simp;refine hK _ _ kP λig=>?_;clear hK
 try simp only[Act.put,xA,xB,xC,xD,xE,xF]
 refine Xs 6 λK hK=>?_;go_simp;refine(af _ (Xb ad.o _).drew).mono ?_;rintro r_ b⟨h,v,rfl,y,Q_,R_,a9,z,C⟩;have f:Sw (Z d.1) d b:=(Xb (dC (Z d.1) d) _).drew.trans (y.mono sP);have b0:=f.4;have y0:=G (XU f O) z0;have y1:=G (XU f O) z1;have a6:=z.lt;have ba:=C.lt;have bd:Z b.1≠Z w.1:=O;simp at Q_ R_;have e4:b.1[Z d.1]?=S (Sc #[Hq,Hq,Hq,H 0,H 0,H 0,Hq,Hq,H 0,H 0,Hq,H 0] 70 (0,0)):=G (y.5 _ sP) (l9 d _);have bq:Z d.1<Z b.1:=by have:=y.4;simp at this;omega
 obtain⟨⟨d0,d1,d2,d3,d4,d5,d6,d7,d8,d9,bn,bo⟩,dz⟩:=VcG e4;have H_:=Y<|ad.trans (f.mono O);have G_:=Y f;have t:=Y z;have u:=Y C;clear y z C f;go_wp2_with fail
 refine hK _ _ kP λig=>?_;clear hK;refine Xn 9 ?_;refine Xs 11 λK hK=>?_;go_simp;refine hK _ _ kP λig=>?_;clear hK;refine Yq ?_
 go_upto_region 4 with fail
 refine Vb3 (P:=Code.wp _ _ _ _) _ ?_;intro W x;have a7:=t.lt;have bc:=u.lt;have aj:W=Vdp b (Z d.1) 0 [X P k B,Hl h 32 32,Hq,H j,H 0,H 0,Hl v (n+1) (n+1),Hq,H 0,H 0,Hq,H n]:=x;have fW:∀q,q<Z b.1->q≠Z d.1->W.1[q]?=b.1[q]?:=λq hq hn=>by rw[aj];exact VbC hn _ b 0
 have V_:W.1[Z d.1]?=S (Sc (Vac P k B h j v (n+1)++([H n]:Wo)).toArray 70 (0,0)):=by rw[aj];exact Vb1 (R_:=Z d.1) [X P k B,Hl h 32 32,Hq,H j,H 0,H 0,Hl v (n+1) (n+1),Hq,H 0,H 0,Hq,H n] [Hq,Hq,Hq,H 0,H 0,H 0,Hq,Hq,H 0,H 0,Hq,H 0] [] b e4 R
 have bW:Sw (Z w.1) w W:=by rw[aj];exact Vbh O _ b 0 H_.o
 clear aj;have a:=Y<|Va0.mk (w:=w) (W:=W) (m:=n+1) (aa:=P) (na:=k) (ca:=B) (fuel:=j) (R_:=Z d.1) (gv:=v) (gh:=h) (heap:=l) (tl:=[H n]) bW (be.keep<|G (fW _ O O) (G_.5 _ O)) ⟨_,V_⟩ (u.keep<|fW _ O O) (t.keep<|fW _ O O) O O;have v0:=G (Xc (o:=0) (fW (Z w.1) O O)) y0;have v1:=G (Xc (o:=1) (fW (Z w.1) O O)) y1;clear x fW V_ bW t u G_ H_ ig y0 y1 Q_ R_ a9 bd a7 bc a6 ba e4 d0 d1 d2 d3 d4 d5 d6 d7 d8 d9 bn bo dz bq;generalize a4:Z d.1=a2 at*;obtain⟨l1,l2,l3⟩:=a.6;have M_:=a.lt;have ar:=Y (Va3 c (λo_=>E W (A a2 o_)) (Y<|ha.keep (a.1.mono L)) M T O M_ O (Y<|bh.keep (a.1.mono L)) bi V (Y a.runBox) (Y<|a.cell 11 _ R) ao);have a8:Q (32=J e.5):=Y (by rw[<-F,Vbv];simp[Vav,Va5]);have az:=Y F;clear af F z0 z1 a4;go_wp2_with fail
 refine YU ar λw5⟨bm,c5,gs,cs,vs,s,a3,N_,T_⟩=>?_;obtain⟨Y_,Z_,p3⟩:=Vbn a.o s N_;have bt:=s.4;have r:=VbS Y_ Z_ p3 T_ V.o M.o ao T.o hf M_ a.4.lt a.5.lt a.7.1 a.7.2.1 a.7.2.2 a3;rw[az.o]at r;have a0:=Y r;have aq:=Y s;clear r s N_ T_ Y_ Z_ p3 v0 v1;go_wp2_with fail
 refine a0.mono ?_;rintro r_ w6⟨ta,X_,I_,rfl,ka,kn,kc,bb,b1,b3,K,L_⟩;obtain⟨⟨⟨r0,r1,r2,r3,r4⟩,rz⟩,O_⟩:=VbJ a.o aq.o a8.o L_;have ap:=Y O_;clear L_ O_;go_wp2;exact YL (v:=Sa #[H e.1,H e.2,H e.3,X ta X_ I_,Hl h 32 32]) ⟨_,R,ap.o [H e.1,H e.2,H e.3,X ta X_ I_,Hl h 32 32]⟩
theorem Vb9(v:I)(m:Uy)(C c:N)(n:Uy)(j M:N)(u:Uy)(k P:N)(b:I)(a:List ag)(args d:Wc)(L B:N)(w:Ub)(ha:Q (d7 w L B m a))(i:Q (C=J a))(K:Q (J a+VaJ a<=16777216))(x:B<=Z w.1)(T:Q (Xf w L B n args))(y:Q (j=J args))(V:Q (Xf w L B u d))(z:Q (k=J d)):
 Sk prog 16 #[Sa #[H v,X m C c],X n j M,X u k P,H b] w
  λe l=>∃val,e=Rt val/\Sw (Z w.1) w l/\Vb2 l (Z w.1) (Z l.1) val (Vbl v a args d b):=by
 have o:=y.o;have p:=z.o;by_cases h:VaB v a=So/\VaX j k b=So
 .obtain⟨f,g⟩:=h;have e:Vbl v a args d b=VaM a args b.toNat 0 (Vav v d):=by unfold Vbl;rw[f,<-o,<-p,g];rfl
  rw[e];have q:=f;simp only[VaB,VbU,bY,bD]at q;obtain⟨⟨⟨⟨⟨s1,s2⟩,s3⟩,s4⟩,s5⟩,_⟩:=q;have r:=g;simp only[VaX,bY,bD]at r;obtain⟨⟨⟨N_,O_⟩,W⟩,P_⟩:=r;obtain⟨M_,rfl⟩:=bX (show 0<=v by omega);obtain⟨J_,rfl⟩:=bX W;have K_:=i.o;exact Vcz ha i K x T y V z f g O O O O
 have e:Vbl v a args d b=⟨4,0,0,[],[]⟩:=by unfold Vbl;rw[aM];intro s;rw[bY,<-o,<-p]at s;exact h s
 rw[e];refine Vb8 ha i K x ?_;by_cases t:VaB v a=So
 .right
  rw[lY];exact λF=>h ⟨t,F⟩
 left
 rw[lY];exact t
theorem Vco(v:I)(m:Uy)(K c:N)(n:Uy)(j F:N)(u:Uy)(k T:N)(b:I)(a:List ag)(args d:Wc)(L B:N)(w:Ub)(ha:Q (d7 w L B m a))(i:Q (K=J a))(M:Q (J a+VaJ a<=16777216))(x:B<=Z w.1)(V:Q (Xf w L B n args))(P:Q (j=J args))(W:Q (Xf w L B u d))(C:Q (k=J d))(y:Q (Uw w))(z:Q (T7 w)):
 Sk prog 18 #[Sa #[H v,X m K c],X n j F,X u k T,H b] w
  λe l=>∃val,e=Rt val/\Sw (Z w.1) w l/\VbN l (Z w.1) (Z l.1) val (Vbl v a args d b):=by
 have o:=P.o;have p:=C.o;by_cases h:VaB v a=So/\VaX j k b=So
 .obtain⟨f,g⟩:=h;have e:Vbl v a args d b=VaM a args b.toNat 0 (Vav v d):=by unfold Vbl;rw[f,<-o,<-p,g];rfl
  rw[e];have q:=f;simp only[VaB,VbU,bY,bD]at q;obtain⟨⟨⟨⟨⟨s1,s2⟩,s3⟩,s4⟩,s5⟩,_⟩:=q;have r:=g;simp only[VaX,bY,bD]at r;obtain⟨⟨⟨P_,Q_⟩,K_⟩,R_⟩:=r;obtain⟨O_,rfl⟩:=bX (show 0<=v by omega);obtain⟨M_,rfl⟩:=bX K_;have N_:=i.o;exact Vcu ha i M x V P W C y z (Y f) g O O O O
 have e:Vbl v a args d b=⟨4,0,0,[],[]⟩:=by unfold Vbl;rw[aM];intro s;rw[bY,<-o,<-p]at s;exact h s
 rw[e];refine Vcd ha i M x y z ?_;by_cases t:VaB v a=So
 .right
  rw[lY];exact λH_=>h ⟨t,H_⟩
 left
 rw[lY];exact t
theorem VcW{b:List ag}{args:Wc}{s a:Vae}(h:Vau b args s=.go a):J a.6<=J s.6+1:=by
 unfold Vau at h;split at h
 .unfold Va1 at h
  repeat' split at h
  all_goals first|(cases h;done)|(injection h with h;subst h;first|exact Vbd _ _ _|exact gX)
 split at h;·cases h
 injection h with h;subst h;exact gX
theorem Vb6(b:List ag)(args:Wc):∀(a k:N)(s:Vae),J (VaM b args a k s).4<=J s.6+a
 |0,_,_=>aA
 |a+1,k,s=>by
  rw[VaM];cases h:Vau b args s with
  |trap=>exact Nat.le_add_right _ _
  |ret v=>exact Nat.le_add_right _ _
  |go c=>have d:=Vb6 b args a (k+1) c;have e:=VcW h;show J (VaM b args a (k+1) c).4<=_;omega
theorem VcR(v:I)(c:List ag)(args a:Wc)(b:I):J (Vbl v c args a b).4<=60000/\J (Vbl v c args a b).5<=32:=by
 unfold Vbl;split
 .rename_i h;rw[bY]at h;have d:=h.2;simp only[VaX,bY,bD]at d;have e:=Vb6 c args b.toNat 0<|Vav v a;have f:=Vbv c args b.toNat 0<|Vav v a;have g:J (Vav v a).6=0:=R;have i:J (Vav v a).5=32:=by simp[Vav,Va5]
  omega
 simp
section
attribute [local go_sem ↓] Go.wp_at_zero Go.wp_at_succ
noncomputable def eO(r:Pg)(x y:Wc)(f:I):QO:=if r.1≠0 then ⟨4,0,0,[],[]⟩else Vbl r.k r.l x y f
structure eP(P:Ub->N->N->Uj->QO->Prop):Prop where
 s:∀w L B v o,P w L B v o->∃ta nt ct ha nh ch,v=Sa #[Si S6 o.1,Si S6 o.2,Si S6 o.3,X ta nt ct,X ha nh ch]
 k:∀(w:Ub)(L B:N)(v:Uj)(o:QO)(s i:N)(u:Uj),s<L->P w L B v o->P (Se w ⟨s,i,U⟩ u) L B v o
 b:∀w L,P w L L (Sa #[H 4,H 0,H 0,Hq,Hq]) ⟨4,0,0,[],[]⟩
theorem EXa{fc fa fr:N}(hf:(fc=4/\fa=15/\fr=16)\/(fc=7/\fa=17/\fr=18))(p:Uy)(n c:N)(t:I)(aa:Uy)(na ca:N)(ha:Uy)(nh ch:N)(fu:I)(x y:Wc)(w:Ub)(r:Pg){P:Ub->N->N->Uj->QO->Prop}(hP:eP P)(HA:Q (∀W,Sw (Z w.1) w W->Sk prog fa #[X p n c,H t] W λe a=>∃f L B,e=Rt f/\Sw (Z W.1) W a/\(Z W.1<=L/\L<=B/\B<=Z a.1)/\jy a L B r.1 r.2 r.3 r.k r.l f))(HR:Q (∀W L B q m d,Sw (Z w.1) w W->Z w.1<=L->B<=Z W.1->d7 W L B q r.l->m=J r.l->Sk prog fr #[Sa #[H r.k,X q m d],X aa na ca,X ha nh ch,H fu] W λe a=>∃v,e=Rt v/\Sw (Z W.1) W a/\P a (Z W.1) (Z a.1) v (Vbl r.k r.l x y fu))):
 Sk prog fc #[X p n c,H t,X aa na ca,X ha nh ch,H fu] w λe a=>∃v L B,e=Rt v/\Sw (Z w.1) w a/\(Z w.1<=L/\L<=B/\B<=Z a.1)/\P a L B v (eO r x y fu):=by
 obtain⟨co,li,ne,k,l⟩:=r;dsimp only at*
 have HW:=Y λ(o:Obj)=>HA.o (D w o) (Xb Rf _)
 obtain⟨rfl,rfl,rfl⟩|⟨rfl,rfl,rfl⟩:=hf
 all_goals
  go_in
  go_wp2_with fail
  refine(HW.o _).mono ?_;rintro e a⟨f,L,B,rfl,b1,⟨z1,z2,z3⟩,h⟩;obtain⟨q,m,d,rfl,_,_,_,e0,g,hm,_⟩:=h;cases e0
  have s1:=b1.4;simp at z1 s1
  obtain⟨b,hx⟩:∃b,D a (Sc #[H co,H li,H ne,H k,X q m d] 40)=b:=⟨_,R⟩
  have bX:Sw (Z a.1) a b:=by rw[<-hx];exact Xb Rf _
  have i:b.1[Z a.1]?=S (Sc #[H co,H li,H ne,H k,X q m d] 40):=by rw[<-hx];exact l9 _ _
  have j:b.1[Z w.1]?=S (Sc #[H 0,H 0,H 0,Hq,Hq] 25):=G (bX.5 _ O)<|G (b1.5 _ sP)<|l9 _ _
  have b2:=Y<|Xg (Xg (Xb (dC (Z w.1) w) _) b1) bX
  have sX:=bX.4
  have c0:∀z,E b (A (Z a.1) z)=(#[H co,H li,H ne,H k,X q m d]:Zh)[z]?:=λz=>by simp[World.cell?,i]
  have r0:∀i,E b (A (Z w.1) i)=(#[H 0,H 0,H 0,Hq,Hq]:Zh)[i]?:=λq=>by simp[World.cell?,j]
  have D2:=Y (g.keepS λx _ y=>bX.5 x O);have HM:=Y hm;clear g hm b1 i
  have y0:∀o,b.frozen? (A (Z w.1) o)=Sn:=λo=>by unfold World.frozen?;rw[j];simp
  clear j
  by_cases hc:co=0
  .subst hc
   go_wp2_with fail
   refine(HR.o b L B q m d b2.o O O D2.o HM.o).mono ?_;rintro e z⟨v,rfl,b3,hv⟩
   obtain⟨ta,nt,ct,ua,nu,cu,rfl⟩:=hP.s _ _ _ _ _ hv
   have r1:∀i,E z (A (Z w.1) i)=(#[H 0,H 0,H 0,Hq,Hq]:Zh)[i]?:=λi=>G (b3.cell (p:=A (Z w.1) i) (by show Z w.1<_;omega)) (r0 i)
   have y1:∀o,z.frozen? (A (Z w.1) o)=Sn:=λo=>G (b3.frozen (p:=A (Z w.1) o) (by show Z w.1<_;omega)) (y0 o)
   have s3:=b3.4;have HV:=Y hv;have B3:=Y<|Xg b2.o b3;clear hv b3 r0 y0 c0
   go_wp2
   refine YL (v:=Sa #[H (Vbl k l x y fu).1,H (Vbl k l x y fu).2,H (Vbl k l x y fu).3,X ta nt ct,X ua nu cu]) ⟨_,Z b.1,Z z.1,R,?_,⟨O,s3,SH⟩,?_⟩
   .iterate 5 refine qG ?_ (by exact aA) _
    exact B3.o
   iterate 5 refine hP.k _ _ _ _ _ _ _ _ O ?_
   simpa [eO]using HV.o
  go_wp2
  refine YL (v:=Sa #[H 4,H 0,H 0,Hq,Hq]) ⟨_,Z b.1,Z b.1,R,?_,⟨O,aA,SH⟩,?_⟩
  .iterate 5 refine qG ?_ (by exact aA) _
   exact b2.o
  simp only[eO,hc,ne_eq,not_false_iff,if_true];exact hP.b _ _
end
theorem Lu{a}(ha:Q (Yx w m k p a))(b:Q (n=J a))(o:n<=c)(l:n<=9223372036854775807)(f:k<=Z w.1):
 Sk prog 20 #[X p n c] w λg e=>∃val,g=Rt val/\Sw (Z w.1) w e/\nN e (Z w.1) (Z e.1) val (C2 a):=by
 by_cases h:100000<n;·exact JU b h l
 by_cases d:a.getLast?=S 10
 .have i:0<J a:=by
   cases a with
   |nil=>cases d
   |cons x s=>simp
  obtain⟨q,r,rfl,⟨_,j⟩,-⟩:=ha 0 i;exact KM ha b (oN b.o) O o f j (Y d)
 exact JH ha b O f<|Y d
def P2(C:Ym)(l:Wa)(c j:N):Prop:=∀i (h:i<J l),i<j->C l[i]≠(c:I)
theorem Mp{C}:P2 C s c 0:=λi _ h=>Sz h O
def Ap(C:Ym)(l:Wa)(c:N):Prop:=∀a,a < c->∃u∈l,C u=(a:I)
def Pw(C:Ym)(l:Wa)(c j:N)(b:Bool):Prop:=(b=So->P2 C l c j)/\(b=Sn->∃u∈l,C u=(c:I))
theorem yH(y:Uy)(M C)(x:Uy)(c)(w:Ub)(F:Q (∀u,u<n->∃b o,y=S (A b o)/\E w (A b<|o+u)=S (H<|C u)))(ha:Q (∀i (h:i<J s),∃b o,x=S (A b o)/\E w (A b<|o+i)=S (H (s[i]:I))))(k:Q (m=J s))(R_:m<=1048576)(P:Q (∀u∈s,u<n)):
 Sk prog 50 #[X y n M,X x m c] w λe K=>e=Rt (H (Nx C s:I))/\K=w:=by
 go_in
 go_wp2
 go_loop [5] (λi=>∃q:N,q<=m/\i=H q/\Q (Ap C s q)) λi=>m-(JB i).toNat
 .exact⟨0,aN,R,Y λp h=>Sz h O⟩
 obtain⟨q,hq,rfl,l⟩:=hrel;by_cases Q_:q<m;rotate_left
 .have T:q=m:=O
  subst T;have f:Q (Nx C s=q):=Y (by have h:=wL (C:=C) (l:=s) (k.o▸l);rw[k.o];exact ry h)
  go_wp2;go_ret;exact⟨by rw[f.o];rfl,R⟩
 go_wp2
 go_loop [6,7] (λb i=>∃(a:Bool)(j:N),b=Sb a/\j<=m/\i=H j/\Q (Pw C s q j a)) λ_ i=>m-(JB i).toNat
 .exact⟨So,0,R,aN,R,Y ⟨λ_=>Mp,λh=>by cases h⟩⟩
 obtain⟨a,j,rfl,O_,rfl,d⟩:=hrel;by_cases V:j<m
 .have z:j<J s:=k.o▸V
  obtain⟨b,o,rfl,L_⟩:=ha j z;have t:=aH z;have v:=P _ t;obtain⟨b2,T_,rfl,e1⟩:=F _ v;have W:Q (C s[j]=(q:I)->Pw C s q (j+1) Sn):=Y (λe=>⟨λh=>(by cases h),λ_=>⟨_,t,e⟩⟩);have B:Q (C s[j]≠(q:I)->Pw C s q (j+1) a):=Y (λe=>⟨λh i g M_=>by
   by_cases e2:i=j;·subst e2;exact e
   exact d.1 h i g O,d.2⟩)
  generalize s[j]=u at*;generalize C u=L at*;have P_:(j:I)<m:=O;have S_:(u:I)<n:=O;by_cases r:L=(q:I)
  .subst r;go_wp2;exact⟨⟨Sn,j+1,R,O,gM,Y<|W.o R⟩,SA⟩
  have N_:(L==(q:I))=Sn:=by rw[iS];exact r
  go_wp2;exact⟨⟨a,j+1,R,O,gM,Y<|B.o r⟩,SA⟩
 have G_:j=m:=O;subst G_;cases a with
 |true=>
  have f:Q (Nx C s=q):=Y (ry ⟨λu v e=>by obtain⟨i,g,rfl⟩:=bR v;exact d.1 R i g (k.o▸g) e,l⟩)
  go_wp2;go_ret;exact⟨by rw[f.o];rfl,R⟩
 |false=>
  have f:Q (Ap C s<|q+1):=Y (λp h=>by
   by_cases e:p=q;·subst e;exact d.2 R
   exact l p O)
  go_wp2;exact⟨⟨q+1,O,gM,f⟩,SA⟩
def lh(f:N->Value):N->N->List Value
 |_,0=>[]
 |i,n+1=>f i::lh f (i+1) n
theorem rD(i):∀(n:N)(a:List Value),J a=n->∃f:N->Value,a=lh f i n:=λn a h=>by
 have d:∀(n:N)(a:List Value)(i:N)(f:N->Value),J a=n->(∀j,f (i+j)=a.getD j Su)->a=lh f i n:=λn=>by
  induction n with
  |zero=>intro a i f h _;cases a with
   |nil=>rfl
   |cons=>cases h
  |succ n c=>intro a i f h b;cases a with
   |nil=>cases h
   |cons e a=>
    rw[lh,<-c a (i+1) f SI λj=>by have:=b<|j+1;rw[show i+1+j=i+(j+1) by omega];simpa using this];have:=b 0;rw[fW]at this;rw[this];rfl
 exact⟨λk=>a.getD (k-i) Su,d n a i _ h λj=>by rw[uB]⟩
noncomputable def M8:Code:=(f21.9.bind<|Zj 14).getD .skip
noncomputable def M7:Code:=(f21.9.bind<|Zj 19).getD .skip
noncomputable def Na:Code:=(f21.9.bind<|Zj 24).getD .skip
theorem M5{b d C r s q o u v wr}{K:Exit->Act->World->Prop}{c0 c2 c3 c4 c5}(U_:J y=120)(hQ:Q (∀c (O_:Act) t_ t w_,K (.panic c) (O_.put (S t_) t) w_->K (.panic c) O_ w_))(f4:E wr (A m (k+i))=S (H j))(h1:E wr (A n 1)=S (Hm b d C c))(g0:E wr (A b (d+j*6))=S (X p r s))(g1:E wr (A b (d+j*6+1))=S (X P q o))(g2:E wr (A b (d+j*6+2))=S (H T))(g3:E wr (A b (d+j*6+3))=S (H z))(g4:E wr (A b (d+j*6+4))=S (H u))(g5:E wr (A b (d+j*6+5))=S (H v))(a8:i<B)(a6:j<C)(R_:Q (∀(aa ab ac ad af aj al ao:Value)(x:World),Sw (Z wr.1) wr x->x.rowIs (Z wr.1) 81 6 (jo (X p r s) (X P q o) (H T) (H z) (H u) (H v))->K .normal ⟨(c0::.pointer (S ⟨n,0,U⟩)::c2::c3::c4::c5::.slice (S ⟨m,k,U⟩) B g::a::Si S6 i::.pointer (S ⟨Z wr.1,0,U⟩)::(y.take 32++aa::ab::ac::ad::af::aj::al::ao::y.drop 40)).toArray,[]⟩ x)):
 Code.wp prog M8 K ⟨(c0::.pointer (S ⟨n,0,U⟩)::c2::c3::c4::c5::.slice (S ⟨m,k,U⟩) B g::a::Si S6 i::A_::y).toArray,[]⟩ wr:=by
 conv=>arg 2;whnf
 obtain⟨a4,rfl⟩:=rD 10 120 y U_;clear U_;simp only[lh,Nat.reduceAdd]at R_ |-;have a7:(i:I)<B:=O;have a5:(j:I)<C:=O;refine Y7 (λh=>E h (A m<|k+i)=S (H j)/\E h (A n 1)=S (Hm b d C c)/\E h (A b<|d+j*6)=S (X p r s)/\E h (A b<|d+j*6+1)=S (X P q o)/\E h (A b<|d+j*6+2)=S (H T)/\E h (A b<|d+j*6+3)=S (H z)/\E h (A b<|d+j*6+4)=S (H u)/\E h (A b<|d+j*6+5)=S (H v)) λig=>?_;refine X0 0 ?_;refine X0 1 ?_;refine X0 2 ?_;refine X0 3 ?_;refine X0 4 ?_;refine X0 5 ?_;refine X0 6 ?_;refine X0 7 ?_;refine Xs 8 λZ_ hK=>?_;go_simp;have V:(λw:World=>Sw (Z wr.1) wr w/\Q (w.rowIs (Z wr.1) 81 6<|jo Hq Hq (H 0) (H 0) (H 0) (H 0))) ((D wr<|Sc #[Hq,Hq,H 0,H 0,H 0,H 0] 81).drew):=⟨(Xb Rf _).drew,(Y<|World.rowIs.drew (eK wr #[Hq,Hq,H 0,H 0,H 0,H 0] 81 _ (λl L=>by match l,L with|0,_=>rfl|1,_=>rfl|2,_=>rfl|3,_=>rfl|4,_=>rfl|5,_=>rfl)))⟩
 generalize (D wr _).drew=H_ at*;let⟨K_,e⟩:=V;have Y_:=Y K_;have N_:Q (∀W,Sw (Z wr.1) wr W->E W (A m<|k+i)=S (H j)/\E W (A n 1)=S (Hm b d C c)/\E W (A b<|d+j*6)=S (X p r s)/\E W (A b<|d+j*6+1)=S (X P q o)/\E W (A b<|d+j*6+2)=S (H T)/\E W (A b<|d+j*6+3)=S (H z)/\E W (A b<|d+j*6+4)=S (H u)/\E W (A b<|d+j*6+5)=S (H v)):=Y (λW hW=>by
  have f:∀(I_ M_:N)(t:Value),E wr (A I_ M_)=S t->E W (A I_ M_)=S t:=λI_ M_ t F=>oB hW F<|aI wr _ F
  exact⟨f _ _ _ f4,f _ _ _ h1,f _ _ _ g0,f _ _ _ g1,f _ _ _ g2,f _ _ _ g3,f _ _ _ g4,f _ _ _ g5⟩)
 refine hK _ _ (N_ H_ K_) λig=>?_;clear hK K_
 refine Xs 9 λZ_ hK=>?_;have ar:=e.cell (i:=0) vY;have az:=e.cell (i:=1) vY;have a0:=e.cell (i:=2) vY;have a1:=e.cell (i:=3) vY;have a2:=e.cell (i:=4) vY;have a3:=e.cell (i:=5) vY;have lz:=e.frozen;have aq:∀(W:World)(l M:N)(V_:Value),l≠M->E (Se W (A (Z wr.1) l) V_) (A (Z wr.1) M)=E W (A (Z wr.1) M):=λW l M V_ F=>cJ λap=>F<|fI Addr.off ap;go_simp;clear ar az a0 a1 a2 a3 lz aq;have V:(λw:World=>Sw (Z wr.1) wr w/\Q (w.rowIs (Z wr.1) 81 6<|jo (X p r s) (X P q o) (H T) (H z) (H u) (H v))) (Se (Se (Se (Se (Se (Se H_ (A (Z wr.1) 0) (X p r s)) (A (Z wr.1) 1) (X P q o)) (A (Z wr.1) 2) (H T)) (A (Z wr.1) 3) (H z)) (A (Z wr.1) 4) (H u)) (A (Z wr.1) 5) (H v)):=⟨((((((Y_.setCell aA _).setCell aA _).setCell aA _).setCell aA _).setCell aA _).setCell aA _),(Y<|((((((e.set 0 _).set 1 _).set 2 _).set 3 _).set 4 _).set 5 _).congr (λl L=>by match l,L with|0,_=>rfl|1,_=>rfl|2,_=>rfl|3,_=>rfl|4,_=>rfl|5,_=>rfl))⟩;generalize (Se (Se (Se (Se (Se (Se H_ _ _) _ _) _ _) _ _) _ _) _ _)=x at*;let⟨S_,X_⟩:=V;refine hK _ _ (N_ x S_) λig=>?_;clear hK;refine Yq ?_;exact R_ _ _ _ _ _ _ _ _ _ S_ X_
theorem M4{e f r F d ln u x:N}{t:Exit->Act->World->Prop}{c0 c1 c2 c3 c5 C}(W:J y=118)(hQ:Q (∀c (z:Act) t_ h w,t (.panic c) (z.put (S t_) h) w->t (.panic c) z w))(K:E v ⟨e,0,U⟩=S (X (S ⟨f,r,U⟩) i F))(L:E v ⟨f,r+g*2,U⟩=S (Si S6 (B:I)))(M:E v ⟨d,0,U⟩=S (X p ln u))(yg:E v ⟨k,B,U⟩=S (Si S6 T))(yf:v.frozen? ⟨k,B,U⟩=Sn)(ac:e≠k)(ad:f≠k)(ab:d≠k)(hj:g<i)(hd:B<n)(J_:Q (Sk prog 50 #[X (S ⟨k,0,U⟩) n m,X p ln u] v.drew λo l=>o=Rt (Si S6 (x:I))/\l=v.drew))(V:Q (∀(L_ M_ N_ O_ P R_ S_ U_ V_ W_ X_ Y_ Z_ aa:Value),t .normal ⟨(c0::c1::c2::c3::X (S ⟨k,0,U⟩) n m::c5::a::A_::C::Sj (S ⟨e,0,U⟩)::X (S ⟨d,0,U⟩) (j+1) (j+1)::Si S6 (g:I)::(y.take 53++L_::M_::N_::O_::P::R_::S_::U_::V_::W_::X_::Y_::Z_::aa::y.drop 67)).toArray,[]⟩ (Se v.drew ⟨k,B,U⟩ (Si S6 (x:I))))):
 Code.wp prog M7 t ⟨(c0::c1::c2::c3::X (S ⟨k,0,U⟩) n m::c5::a::A_::C::Sj (S ⟨e,0,U⟩)::X (S ⟨d,0,U⟩) (j+1) (j+1)::Si S6 (g:I)::y).toArray,[]⟩ v:=by
 conv=>arg 2;whnf
 obtain⟨aj,rfl⟩:=rD 12 118 y W;simp only[lh,Nat.reduceAdd]at V |-;have ao:(g:I)<i:=O;have al:(B:I)<n:=O;refine Y7 (λl=>E l (A e 0)=S (Hm f r i F)/\E l (A f<|r+g*2)=S (H B)/\E l (A d 0)=S (X p ln u)) λig=>?_;refine X0 0 ?_;refine X0 1 ?_;refine X0 2 ?_;refine X0 3 ?_;refine X0 4 ?_;refine X0 5 ?_;refine X0 6 ?_;refine X0 7 ?_;refine X0 8 ?_;refine X0 9 ?_;refine X0 10 ?_;refine X0 11 ?_;refine Xs 12 λK_ hK=>?_;go_simp;refine YU J_ λw6 af=>?_;subst af;refine hK _ _ ⟨K,L,M⟩ λig=>?_;refine X0 13 ?_;refine Xs 14 λK_ hK=>?_;go_simp;have q:∀(b s:N)(h:Value),b≠k->E v (A b s)=S h->E (Se v.drew (A k B) (H x)) (A b s)=S h:=λb s h h1 h2=>G (bH v.drew (A k B) (A b s) _ (by show k≠b;exact λo=>h1 o.symm)) h2;refine hK _ _ ⟨q _ _ _ ac K,q _ _ _ ad L,q _ _ _ ab M⟩ λig=>?_
 refine Yq ?_;exact V _ _ _ _ _ _ _ _ _ _ _ _ _ _
theorem M6{e f r F d ln u x:N}{t:Exit->Act->World->Prop}{c0 c1 c2 c3 c5 K C}(F_:J y=117)(hQ:Q (∀c (z:Act) t_ h w,t (.panic c) (z.put (S t_) h) w->t (.panic c) z w))(L:E v ⟨e,1,U⟩=S (X (S ⟨f,r,U⟩) i F))(M:E v ⟨f,r+g*5+1,U⟩=S (Si S6 (B:I)))(V:E v ⟨d,g+1,U⟩=S (X p ln u))(yg:E v ⟨k,B,U⟩=S (Si S6 T))(yf:v.frozen? ⟨k,B,U⟩=Sn)(aj:e≠k)(al:f≠k)(af:d≠k)(hj:g<i)(hd:B<n)(a2:j<=4000)(a1:g<j)(K_:Q (Sk prog 50 #[X (S ⟨k,0,U⟩) n m,X p ln u] v.drew λo l=>o=Rt (Si S6 (x:I))/\l=v.drew))(W:Q (∀(X_ Y_ Z_ aa ab ac ad M_ N_ O_ P R_ S_ U_ V_ W_:Value),t .normal ⟨(c0::c1::c2::c3::X (S ⟨k,0,U⟩) n m::c5::a::A_::K::Sj (S ⟨e,0,U⟩)::X (S ⟨d,0,U⟩) (j+1) (j+1)::C::Si S6 (g:I)::(y.take 80++X_::Y_::Z_::aa::ab::ac::ad::M_::N_::O_::P::R_::S_::U_::V_::W_::y.drop 96)).toArray,[]⟩ (Se v.drew ⟨k,B,U⟩ (Si S6 (x:I))))):
 Code.wp prog Na t ⟨(c0::c1::c2::c3::X (S ⟨k,0,U⟩) n m::c5::a::A_::K::Sj (S ⟨e,0,U⟩)::X (S ⟨d,0,U⟩) (j+1) (j+1)::C::Si S6 (g:I)::y).toArray,[]⟩ v:=by
 conv=>arg 2;whnf
 obtain⟨ap,rfl⟩:=rD 13 117 y F_;simp only[lh,Nat.reduceAdd]at W |-;have az:(g:I)<i:=O;have aq:(B:I)<n:=O;have a3:S6.wrap ((g:I)+1)=(g:I)+1:=by rw[dF];omega
 have ar:0<=(g:I)+1:=O;have a0:(g:I)+1<(j:I)+1:=O;refine Y7 (λl=>E l (A e 1)=S (Hm f r i F)/\E l (A f<|r+g*5+1)=S (H B)/\E l (A d<|g+1)=S (X p ln u)) λig=>?_;refine X0 0 ?_;refine X0 1 ?_;refine X0 2 ?_;refine X0 3 ?_;refine X0 4 ?_;refine X0 5 ?_;refine X0 6 ?_;refine X0 7 ?_;refine X0 8 ?_;refine X0 9 ?_;refine X0 10 ?_;refine X0 11 ?_;refine X0 12 ?_;refine X0 13 ?_;refine Xs 14 λL_ hK=>?_;go_simp;refine YU K_ λw6 ao=>?_;subst ao;refine hK _ _ ⟨L,M,V⟩ λig=>?_;refine X0 15 ?_;refine Xs 16 λL_ hK=>?_;go_simp;have q:∀(b s:N)(h:Value),b≠k->E v (A b s)=S h->E (Se v.drew (A k B) (H x)) (A b s)=S h:=λb s h h1 h2=>G (bH v.drew (A k B) (A b s) _ (by show k≠b;exact λo=>h1 o.symm)) h2;refine hK _ _ ⟨q _ _ _ aj L,q _ _ _ al M,q _ _ _ af V⟩ λig=>?_
 refine Yq ?_;exact W _ _ _ _ _ _ _ _ _ _ _ _ _ _ _ _
section
structure OC(w4 wr:World)(g V cap:N)(C:N->I):Prop where
 os:wr.4=w4.4
 tape:wr.2=w4.2
 output:wr.5=w4.5
 size:Z w4.1<=Z wr.1
 gl:g<Z w4.1
 fr:∀q,q<Z w4.1->q≠g->wr.1[q]?=w4.1[q]?
 ia:HK wr g V cap C
section
variable{w4 wr wr':World}{g V cap:N}{C C':N->I}
theorem OC.far(h:OC w4 wr g V cap C)(k:Sw (Z wr.1) wr wr'):OC w4 wr' g V cap C :=
 ⟨G k.1 h.1,G k.2 h.2,G k.3 h.3,aJ h.4 k.4,h.5,λq q1 q2=>G (k.5 q<|aX q1 h.4) (h.6 q q1 q2),h.7.of_block<|k.5 g (aX h.5 h.4)⟩
theorem OC.put(h:OC w4 wr g V cap C){v}(a:v<V)(x):OC w4 (Se wr ⟨g,v,U⟩ (Si S6 x)) g V cap (λu=>if u=v then x else C u) :=
 ⟨h.1,h.2,h.3,by rw[Xd];exact h.4,h.5,λq q1 q2=>G (cY q2) (h.6 q q1 q2),h.7.set v x a⟩
theorem OC.cell(h:OC w4 wr g V cap C){b o v}(c:b≠g)(a:E w4 (A b o)=S v):E wr (A b o)=S v:=G (Xc<|h.6 b (aI w4 _ a) c) a
end
theorem vW{xs:List Xe}{V b x}{i d:N}(c:i<J x.1)(a:x.1[i].1=(d:I)):Ni xs V b x (i+1)=Ni xs V b x i++[(d,Uq xs x V b 0)]:=by unfold Ni;rw[kJ,aC c,bG];simp[a]
theorem q9{xs V b x}{i d:N}(c:i<J x.2)(e:dB x.2[i].1=So)(a:x.2[i].2=(d:I)):VC xs V b x (i+1)=VC xs V b x i++[(d,Uq xs x V b<|i+1)]:=by rw[VC,aC c];simp[BW,e,a]
theorem xk{xs V b x i}(a:i<J x.2)(c:dB x.2[i].1=Sn):VC xs V b x (i+1)=VC xs V b x i:=by rw[VC,aC a];simp[BW,c]
def OX(a b c:Value):N->Value
 |0=>a
 |1=>b
 |_=>c
theorem Ah{V}:∀(a:List (N×List N))(C:N->I),(∀s∈a,J s.2<=V)->(∀u,-1<=C u/\C u<=(V:I))->∀u,-1<=Kq C a u/\Kq C a u<=(V:I)
 |[],_,_,h=>h
 |s::a,C,hs,h=>by
  refine Ah a (Nn C s) (λt b=>hs t<|cN _ b) λu=>?_;unfold Nn;by_cases e:u=s.1
  .rw[aU e];have c:=MW C s.2;have d:=hs s cI;omega
  rw[aM e];exact h u
theorem Aj{a:List Xe}{x V b i}:J (Uq a x V b i)<=V:=by unfold Uq;exact aJ (fJ _ _) sP
theorem Ai{a V b x}:∀k,∀s∈VC a V b x k,J s.2<=V
 |0,s,h=>by cases h
 |k+1,s,h=>by
  rw[VC]at h;obtain h|h:=bU.1 h;·exact Ai k s h
  cases hk:x.2[k]? with
  |none=>rw[hk]at h;cases h
  |some y=>
   rw[hk]at h;obtain⟨v,_,rfl⟩:=aY.1 h;exact Aj
theorem MS{b:List Xe}{V}{c:List N}:∀u,-1<=Kq (λ_=>-1) (Ko b V c) u/\Kq (λ_=>-1) (Ko b V c) u<=(V:I):=by
 refine Ah _ _ (λs a=>?_) λu=>O;let⟨d,_,a⟩:=bV.1 a;unfold OV at a;cases hb:b[d]? with
 |none=>rw[hb]at a;cases a
 |some x=>
  rw[hb]at a;obtain a|a:=bU.1 a
  .obtain⟨p,_,rfl⟩:=aY.1 a;exact Aj
  exact Ai _ s a
structure Py(w1 wr:World)(u:Value)(k:N):Prop where
 low:Sw (Z w1.1) w1 wr
 ne:u≠X U 0 0
 own:Sx wr (Z w1.1) 2 1 u k ((List.replicate k (-1)).map (Si S6))
theorem Lj{V:N}{az:Option Addr}{n c}{a:List Xe}{em cp}{w:World}(ha:Q (Xp w em cp az a))(hx:Q (n=J a))(hs:Q (J a+Xx a<=1048576))(hB:cp<=Z w.1)(hv:Q (Ft (V:I) a=0))(fr:Q (XJ ⟨(V:I),a⟩=So))(K_:Q (Jy V a)):
 Sk prog 21 #[Sa #[Si S6 (V:I),X az n c]] w λs w'=>∃af g cap,YX (X8 a) n af/\s=Rt (Sa #[Si S6 0,X (S ⟨g,0,U⟩) V cap,Si S6 (NE (Kq (λ_=>-1) (Ko a V<|XT af n 0)) V)])/\Sw (Z w.1) w w'/\Z w.1<=g/\HK w' g V cap (Kq (λ_=>-1) (Ko a V<|XT af n 0)):=by
 have hn:n<=1000:=oP hx.o K_.1.2;have hV:=K_.2;have bv:=Y λW (B:Sw (Z w.1) w W)=>KT V c (Y<|ha.keep (B.mono hB)) hx hs (oN B.4);rw[hv.o]at bv;have cq:=Y λW (B:Sw (Z w.1) w W)=>I9 c (Y<|ha.keep (B.mono hB)) hx hs (oN B.4) fr;have c7:=Y λW (B:Sw (Z w.1) w W)=>qm c (Y<|ha.keep (B.mono hB)) hx (oN B.4) K_
 go_in
 go_wp2_with fail
 have ca:(λL_:World=>Sw (Z w.1) w L_/\Z w.1+2<=Z L_.1/\E L_ ⟨Z w.1,0,U⟩=S (Si S6 V)/\E L_ ⟨Z w.1,1,U⟩=S (X az n c)/\Q (L_.1[Z w.1+1]?=S (Sc #[Si S6 0,X U 0 0,Si S6 0] 50))) (D (D w<|Sc #[Si S6 V,X az n c] 45) (Sc #[Si S6 0,X U 0 0,Si S6 0] 50)):=⟨Xb (Xb Rf _) _,sP,SC,SC,(Y (by have:=World.alloc_heap_new (D w<|Sc #[Si S6 V,X az n c] 45) (Sc #[Si S6 0,X U 0 0,Si S6 0] 50);rwa[aO]at this))⟩
 generalize D (D w _) _=w0 at*;obtain⟨cc,ka,c0,c1,c9⟩:=ca;refine YU (bv _ cc) λz aj=>?_;have kb:=aj.4;have k0:=G (XU aj O) c0;have k1:=G (XU aj O) c1;have cr:=Y<|Xg cc aj;have ee:=Y<|G (aj.5 _ O) c9;clear cc aj c0 c1 bv c9;go_wp2_with fail
 have cx:Q (Py z (D z<|Sc #[] 2) (X (S ⟨Z z.1,0,U⟩) 0 0) 0):=Y ⟨Xb Rf _,sP,eI (base:=Z z.1) (e:=2) (size:=1) z #[] 0 sP sP R⟩;generalize D z _=w2 at*
 go_loopw [4,5] (λu i wr=>∃q:N,q<=V/\i=Si S6 q/\Q (Py z wr u q)) λ_ i _=>V-(JB i).toNat
 .exact⟨0,aN,R,cx⟩
 clear cx;obtain⟨q,hq,rfl,l⟩:=hrel;have cm:=G (XU l.1 O) k0;have cn:=G (XU l.1 O) k1;by_cases js:q<V
 .have j3:(q:I)<V:=O;have e9:=l.1.4;go_wp2_with (at_builtin;refine YC RH l.3 ?_)
  intro v1 u1 bd ao _ eo;have a7:Q (Py z u1 v1<|q+1):=Y (by
   refine⟨⟨G ao.1 l.1.1,G ao.2 l.1.2,G ao.3 l.1.3,aJ e9<|aJ sP ao.4,λb B=>?_⟩,λs=>?_,?_⟩;·exact G (ao.5 b SB λs=>by have:=(l.3.lt b s.symm).1;omega) (G (gF _ _ _ O) (l.1.5 b B))
   .have:=bd.1;obtain⟨_,e2⟩|⟨g,cap,cur,e2,_⟩:=bd.2;·omega
    rw[s]at e2;cases e2
   simpa [List.replicate_succ']using bd)
  obtain⟨av,cv,fn⟩:∃av cv,v1=X av (q+1) cv:=by obtain⟨av,cv,K,_⟩:=Xk a7.3;rw[kN]at K;exact⟨av,cv,K⟩
  subst fn;clear bd ao eo cm cn;go_wp2;exact⟨⟨q+1,O,gM,a7⟩,SA⟩
 have fj:q=V:=O
 subst fj;have b0:=Y<|cr.trans (l.1.mono cr.4);have kn:=l.1.4;obtain⟨g,cap,rfl,i2,dd⟩:∃g cap,u4=X (S ⟨g,0,U⟩) q cap/\Z z.1<=g/\HK wr g q cap (λ_=>-1):=by have h1:=l.3;have h2:Sx wr (Z z.1) 2 1 u4 (J (List.replicate q (-1))) ((List.replicate q (-1:I)).map (Si S6)):=kN▸h1;obtain⟨g,cap,e1,e2,e3⟩:=HK.of_own h2 l.2;rw[kN]at e1 e3;exact⟨g,cap,e1,e2,e3.congr λi hi=>by rw[bF,mI,aU hi];rfl⟩
 have a6:=Y dd;have ef:=Y<|G (l.1.5 _ O) ee;clear dd l;go_wp2_with fail
 refine(cq _ b0).mono ?_;rintro s w3⟨af,a1,c1,a2,c2,a3,c3,a4,c4,rfl,S_,hP,dc⟩;have HP:=Y hP;have b1:=Y<|Xg b0 S_;have bq:=Y dc.o;have kc:=S_.4;have m0:=G (XU S_ O) cm;have m1:=G (XU S_ O) cn;have cw:=Y<|a6.of_block (S_.5 g a6.lt);have i3:=a6.lt;obtain⟨f,bc⟩:∃f,f=XT af n 0:=⟨_,R⟩;rw[<-bc]at bq;rw[<-bc];obtain⟨r,hm⟩:∃r,r=J f:=⟨_,R⟩;rw[<-hm];have br:=Y bc;have bn:=Y hm;have es:∀W,(Instr.field 91 (Sa #[X a1 n c1,X a2 n c2,X a3 n c3,X a4 r c4]) 3).run prog W=.ok (X a4 r c4) W:=λW=>vZ;have eg:=Y<|G (S_.5 _ O) ef;clear S_ hP dc cm cn a6 cq bc hm;go_wp2_with fail
 refine(c7 _ b1).mono ?_;rintro s w4⟨gO,cO,ga,rfl,L,i1,hG⟩;have O_:=Y<|Xg b1 L;have kd:=L.4;have n0:=G (XU L O) m0;have n1:=G (XU L O) m1;have ec:=Y<|bq.keep L;have dk:=Y<|ha.keep (O_.mono hB);have cs:Q (OC w4 w4 g q cap<|Kq (λ_=>-1) (Ko a q<|f.take 0)):=Y ⟨R,R,R,aA,O,λ_ _ _=>R,cw.of_block<|L.5 g O⟩;have eb:=Y n0;have a7:=Y n1;have dw:=Y hG;have ej:Q (∀ap∈f,ap<n):=Y (br.o▸λap fx=>(hx.o▸K_.1.re ap (Ji HP n 0 ap (Re.root) fx).2));have jv:r<=1000:=by have h1:=o9 HP (λap fs=>hx.o▸K_.1.re ap fs) n Re.root;rw[bn.o,br.o];omega
 have ei:=Y<|G (L.5 _ O) eg;clear L hG m0 m1 bq cw es n0 n1 c7 b1 b0;go_wp2
 go_loopw [8] (λi wx=>∃k:N,k<=r/\i=Si S6 k/\Q (OC w4 wx g q cap<|Kq (λ_=>-1) (Ko a q<|f.take k))) λi _=>r-(JB i).toNat
 .exact⟨0,aN,R,cs⟩
 clear cs;obtain⟨k,hk,rfl,h⟩:=hrel;by_cases dj:k<r
 .have ch:k<J f:=bn.o▸dj;have ez:k<J (Xi f):=by simpa [Xi]using ch
  obtain⟨b4,o4,rfl,L,e4⟩:=ec k ez;have cd:=ej _<|aH ch;have el:Q (f.take (k+1)=f.take k++[f[k]]):=Y (by rw[kJ,aC ch];rfl);rw[show(Xi f)[k]=((f[k]:N):I) by simp[Xi]]at e4;generalize f[k]=b at*;have J_:b<J a:=hx.o▸cd;obtain⟨bb,oo,rfl,ir,pa,pc,ia,ic,p0,p1,⟨t0,t1,t2,t3⟩,ck,cg⟩:=dk b J_;obtain⟨s0,_,s2⟩:=dw b cd;obtain⟨F,hX⟩:∃F,F=a[b]:=⟨_,R⟩;rw[<-hX]at p0 p1 t0 t1 t2 t3 ck cg;have P_:=Y hX;clear hX;rw[show J (Tu a b)=J F.2 by rw[Vt J_,P_.o]]at s0 s2;have f4:=h.cell O e4;have f0:=h.cell O p0;have f1:=h.cell O p1;have g0:=h.cell O t0;have g1:=h.cell O t1;have g2:=h.cell O t2;have g3:=h.cell O t3;have h0:=h.cell O eb;have h1:=h.cell O a7;have hS:=h.cell O s0;have ed:=Y ck;have ea:=Y cg;have da:=Y s2;have jl:(k:I)<r:=O;have iv:(b:I)<n:=O;clear e4 p0 p1 t0 t1 t2 t3 ck cg s0 s2;go_wp2_with fail
  refine M5 R (Y λ_ _ _ _ _ K=>K) f4 h1 f0 f1 g0 g1 g2 g3 dj cd (Y ?_);intro gq gr gs gt gv gz g4 g5 W6 al db;simp only[uw,lK,ya,zC,cW,dR];have a5:=Y db;clear db;have bf:=Y<|h.far al;have fz:=h.4;have i4:=oB al f4<|aI wr _ f4;have iS:=oB al hS<|aI wr _ hS;obtain⟨m,ce⟩:∃m,m=Z wr.1:=⟨_,R⟩;rw[<-ce]at a5 fz;rw[<-ce];have a9:m≠g:=O;clear al h f4 hS f0 f1 g0 g1 g2 g3 h0 h1 ce;obtain⟨M,b7⟩:∃M,M=Kq (λ_=>-1) (Ko a q<|f.take k):=⟨_,R⟩;rw[<-b7]at bf;have dn:=Y b7;clear b7;generalize wr=wv at*;go_wp2_with fail
  have c6:Q (OC w4 W6 g q cap<|Kq M (Ni a q b F 0)):=Y (by unfold Ni;simpa [Kq]using bf.o);obtain⟨P,cj⟩:∃r,r=J F.1:=⟨_,R⟩;obtain⟨t,ci⟩:∃r,r=J F.2:=⟨_,R⟩;rw[<-cj,<-ci]at a5;have cz:=Y cj;have bo:=Y ci;have e0:=K_.10 F (P_.o▸aH J_);have j1:P<=4000:=O;have j0:t<=4000:=O;clear cj ci e0 bf i4 iS
  go_loopw [11] (λi wx=>∃i':N,i'<=P/\i=Si S6 i'/\Q (OC w4 wx g q cap<|Kq M (Ni a q b F i'))/\Q (wx.rowIs m 81 6<|jo (X pa P pc) (X ia t ic) (Si S6 F.3.1) (Si S6 F.3.a) (Si S6 F.3.3) (Si S6 F.3.4))) λi _=>P-(JB i).toNat
  .exact⟨0,aN,R,c6,a5⟩
  clear c6 a5;obtain⟨i,hi,rfl,x,aa⟩:=hrel;have x0:Cl wr m 0 (X pa P pc):=aa.cell (i:=0) vY;have x1:Cl wr m 1 (X ia t ic):=aa.cell (i:=1) vY;by_cases df:i<P
  .have cf:i<J F.1:=cz.o▸df;obtain⟨pb,po,rfl,j2,ko,kq,d0,_,_⟩:=ed i cf;have cb:F∈a:=P_.o▸aH J_;have T_:=K_.8 F cb F.1[i] (aH cf);obtain⟨y,T⟩:=bX T_.1;have U_:y<q:=by have:=T_.2;rw[T]at this;omega
   have ac:=Y<|vW (xs:=a) (V:=q) (b:=b) cf T;rw[T]at d0;have y0:=x.cell O d0;obtain⟨b5,o5,e5,ep,a',c',s0,s1⟩:=da 0 sP;simp only[cM,dW]at s0 s1;injection e5 with e5;injection e5 with Q_ e7;subst Q_ e7;have a0:UU a q b 0=Xi (Uq a F q b 0):=P_.o▸TQ J_ q 0;rw[a0]at s0 s1;have bm:Q (∀u∈Uq a F q b 0,u<q):=Y (λu e=>by unfold Uq at e;exact bE.1 (fG.1 e).1);have en:J (Uq a F q b 0)<=q:=by unfold Uq;exact aJ (fJ _ _) sP
   generalize Uq a F q b 0=o at*;have y1:=x.cell O s0;obtain⟨ln,Z_⟩:∃ln,ln=J o:=⟨_,R⟩;rw[show J (Xi o)=J o by simp[Xi],<-Z_]at y1;have bl:=Y Z_;have e8:ln<=q:=O;clear Z_;obtain⟨C,R_⟩:∃C,C=Kq M (Ni a q b F i):=⟨_,R⟩;have bi:=Y R_;rw[<-R_]at x;have ar:=Y (λW (hW:Sw (Z wr.1) wr W)=>yH (S ⟨g,0,U⟩) cap C a' c' W (Y λu e=>⟨g,0,R,by rw[aV];exact oB hW (x.7.cell e) x.7.lt⟩) (Y (λj Y_=>by
    obtain⟨b6,o6,Q_,al,b3⟩:=s1 j (by simpa [Xi]using Y_);have h6:E w4 ⟨b6,o6+j,U⟩=S (Si S6 ((o[j]:N):I)):=by rw[b3];simp[Xi]
    have h7:=x.cell O h6;exact⟨b6,o6,Q_,oB hW h7<|aI wr _ h7⟩)) bl O bm)
   have yg:=x.7.cell U_;have yf:=x.7.frozen y;have jf:(i:I)<P:=O;have er:(y:I)<q:=O;have N_:Q (∀F_,Sw (Z wr.1) wr F_->OC w4 (Se F_ ⟨g,y,U⟩ (Si S6 (Nx C o:I))) g q cap (Kq M<|Ni a q b F (i+1))/\(Se F_ ⟨g,y,U⟩ (Si S6 (Nx C o:I))).rowIs m 81 6 (jo (X (S ⟨pb,po,U⟩) P pc) (X ia t ic) (Si S6 F.3.1) (Si S6 F.3.a) (Si S6 F.3.3) (Si S6 F.3.4))):=Y (λF_ h5=>by refine⟨?_,(aa.of_block<|h5.5 m aa.lt).setOther (by show m≠g;exact a9) _⟩;rw[ac.o,rl,<-bi.o];exact(x.far h5).put U_ _)
   clear d0 s0 s1 R_ T_ T a0;generalize Nx C o=sm at*;go_wp2_with fail
   refine M4 R (Y λ_ _ _ _ _ K=>K) x0 y0 y1 yg yf a9 O O df U_ (Y<|ar.o wr.drew (Rf).drew) (Y ?_);intro g6 g7 g8 g9 hc he hf hg hh hl hp ht hw hy;simp only[uw,lK,ya,zC,cW,dR];clear x0 x1 y0 y1 yg yf ar;go_wp2;exact⟨⟨i+1,O,gM,Y (N_.o wr.drew (Rf).drew).1,Y (N_.o wr.drew (Rf).drew).2⟩,SA⟩
  have eu:i=P:=O;subst eu;have bh:Q (OC w4 wr g q cap<|Kq M (Ni a q b F (J F.1))):=Y (by rw[<-cz.o];exact x);go_wp2_with fail
  clear x x0 x1;obtain⟨M_,b8⟩:∃M_,M_=Kq M (Ni a q b F (J F.1)):=⟨_,R⟩;rw[<-b8]at bh;have ds:=Y b8;clear b8;have c8:Q (OC w4 wr g q cap<|Kq M_ (VC a q b F 0)):=Y (by simpa [VC,Kq]using bh.o);generalize wr=wz at*
  go_loopw [12] (λj wx=>∃j':N,j'<=t/\j=Si S6 j'/\Q (OC w4 wx g q cap<|Kq M_ (VC a q b F j'))/\Q (wx.rowIs m 81 6<|jo (X pa i pc) (X ia t ic) (Si S6 F.3.1) (Si S6 F.3.a) (Si S6 F.3.3) (Si S6 F.3.4))) λj _=>t-(JB j).toNat
  .exact⟨0,aN,R,c8,aa⟩
  clear c8 aa bh;obtain⟨j,Y_,rfl,p,ab⟩:=hrel;have x0:Cl wr m 0 (X pa i pc):=ab.cell (i:=0) vY;have x1:Cl wr m 1 (X ia t ic):=ab.cell (i:=1) vY;by_cases di:j<t
  .have ba:j<J F.2:=by rw[<-bo.o];exact di
   obtain⟨ib,io,rfl,i6,o0,o1,_,_,_⟩:=ea j ba;have cb:F∈a:=by rw[P_.o];exact aH J_
   have y2:=p.cell O o0;have be:=p.cell O o1;have ad:=Y<|nZ F.2[j].1 wr;have jj:(j:I)<t:=O;cases e:dB F.2[j].1 with
   |false=>
    rw[e]at ad;have ac:=Y<|xk (xs:=a) (V:=q) (b:=b) ba e;clear o0 o1 be;go_wp2_with fail
    refine YU ad λw5 cl=>?_;subst cl;clear ad;go_wp2_with fail
    refine⟨?_,SA⟩
    first
     |exact⟨j+1,O,gM,Y (by rw[ac.o];exact p),ab⟩
     |((repeat apply gP);refine⟨?_,R⟩;exact⟨j+1,O,gM,Y (by rw[ac.o];exact p),ab⟩)
   |true=>
    rw[e]at ad;have T_:=K_.6 F cb F.2[j] (aH ba) F.2[j].2 (by unfold BW;rw[e];simp);obtain⟨y,T⟩:=bX T_.1;have U_:y<q:=by have:=T_.2;rw[T]at this;omega
    have ac:=Y<|q9 (xs:=a) (V:=q) (b:=b) ba e T;rw[T]at be;obtain⟨b5,o5,e5,ep,a',c',s0,s1⟩:=da (j+1) SB;simp only[cM,dW]at s0 s1;injection e5 with e5;injection e5 with Q_ e7;subst Q_ e7;rw[aV]at s0;have a0:UU a q b (j+1)=Xi (Uq a F q b<|j+1):=by rw[P_.o];exact TQ J_ q<|j+1
    rw[a0]at s0 s1;have bm:Q (∀u∈Uq a F q b (j+1),u<q):=Y (λu e=>by unfold Uq at e;exact bE.1 (fG.1 e).1);have en:J (Uq a F q b<|j+1)<=q:=by unfold Uq;exact aJ (fJ _ _) sP
    generalize Uq a F q b (j+1)=o at*;have y1:=p.cell O s0;obtain⟨ln,Z_⟩:∃ln,ln=J o:=⟨_,R⟩;rw[show J (Xi o)=J o by simp[Xi],<-Z_]at y1;have bl:=Y Z_;have e8:ln<=q:=O;clear Z_;obtain⟨C,R_⟩:∃C,C=Kq M_ (VC a q b F j):=⟨_,R⟩;have bi:=Y R_;rw[<-R_]at p;have ar:=Y (λW (hW:Sw (Z wr.1) wr W)=>yH (S ⟨g,0,U⟩) cap C a' c' W (Y λu e=>⟨g,0,R,by rw[aV];exact oB hW (p.7.cell e) p.7.lt⟩) (Y (λco hr=>by
     obtain⟨b6,o6,Q_,al,b3⟩:=s1 co (by simpa [Xi]using hr);have h6:E w4 ⟨b6,o6+co,U⟩=S (Si S6 ((o[co]:N):I)):=by rw[b3];simp[Xi]
     have h7:=p.cell O h6;exact⟨b6,o6,Q_,oB hW h7<|aI wr _ h7⟩)) bl O bm)
    have yg:=p.7.cell U_;have yf:=p.7.frozen y;have er:(y:I)<q:=O;have N_:Q (∀F_,Sw (Z wr.1) wr F_->OC w4 (Se F_ ⟨g,y,U⟩ (Si S6 (Nx C o:I))) g q cap (Kq M_<|VC a q b F (j+1))/\(Se F_ ⟨g,y,U⟩ (Si S6 (Nx C o:I))).rowIs m 81 6 (jo (X pa i pc) (X (S ⟨ib,io,U⟩) t ic) (Si S6 F.3.1) (Si S6 F.3.a) (Si S6 F.3.3) (Si S6 F.3.4))):=Y (λF_ h5=>by refine⟨?_,(ab.of_block<|h5.5 m ab.lt).setOther (by show m≠g;exact a9) _⟩;rw[ac.o,rl,<-bi.o];exact(p.far h5).put U_ _)
    clear o0 o1 s0 s1 R_ T_ T a0 e;generalize Nx C o=sm at*;go_wp2_with fail
    refine YU ad λw5 cl=>?_;subst cl;clear ad y2;go_wp2_with fail
    refine M6 R (Y λ_ _ _ _ _ K=>K) x1 be y1 yg yf a9 O O di U_ (oN bo.o) O (Y<|ar.o w5.drew (Rf).drew) (Y ?_);intro hz h3 h4 h8 h9 ih il gb gd ge gf gg gh gi gl gp;simp only[uw,lK,ya,zC,cW,dR];clear x0 x1 be y1 yg yf ar;go_wp2_with fail
    refine⟨?_,SA⟩
    first
     |exact⟨j+1,O,gM,Y (N_.o w5.drew (Rf).drew).1,Y (N_.o w5.drew (Rf).drew).2⟩
     |((repeat apply gP);refine⟨?_,R⟩;exact⟨j+1,O,gM,Y (N_.o w5.drew (Below.refl _ _).drew).1,Y (N_.o w5.drew (Below.refl _ _).drew).2⟩)
  have ev:j=t:=O
  subst ev;have ct:Q (Kq (λ_=>-1) (Ko a q<|f.take (k+1))=Kq M_ (VC a q b F j)):=Y (by rw[el.o,qT,zW,<-dn.o];unfold OV;rw[aC J_,<-P_.o];show Kq M (Ni a q b F (J F.1)++VC a q b F (J F.2))=_;rw[zW,<-ds.o,<-bo.o])
  clear x0;go_wp2_with fail
  refine⟨?_,SA⟩
  first
   |exact⟨k+1,O,gM,Y<|by rw[ct.o];exact p⟩
   |((repeat apply gP);refine⟨?_,R⟩;exact⟨k+1,O,gM,Y<|by rw[ct.o];exact p⟩)
 have ey:k=r:=O
 subst ey;have E_:Q (OC w4 wr g q cap<|Kq (λ_=>-1) (Ko a q f)):=Y (by have:=h.o;rw[bn.o,gC]at this;exact this)
 clear h;obtain⟨d,a8⟩:∃d,d=Kq (λ_=>-1) (Ko a q f):=⟨_,R⟩;rw[<-a8]at E_;have du:=Y a8;have ek:Q (∀u,-1<=d u/\d u<=(q:I)):=Y (by rw[a8];exact MS);clear a8;have aq:Q (wr.rowIs (Z w.1+1) 50 3 (OX (Si S6 0) (X U 0 0) (Si S6 0))):=Y ⟨_,G (E_.6 _ O O) ei,R,λi hi=>by match i,hi with|0,_=>rfl|1,_=>rfl|2,_=>rfl⟩;go_wp2
 go_loop [13,14] (λc i=>∃v:N,v<=q/\i=Si S6 v/\c=Si S6 (NE d v)) λ_ i=>q-(JB i).toNat
 .exact⟨0,aN,R,R⟩
 obtain⟨v,kk,rfl,rfl⟩:=hrel;have j4:=ek v;by_cases fa:v<q
 .have yv:=E_.7.cell fa;have kf:(v:I)<q:=O;have kl:S6.wrap (d v+1)=d v+1:=by rw[dF];omega
  by_cases i5:NE d v<d v+1
  .have bp:Q (NE d (v+1)=d v+1):=Y (by rw[NE];omega);generalize NE d v=kv at*;generalize d v=cv at*;go_wp2;exact⟨⟨v+1,O,gM,by rw[bp.o]⟩,SA⟩
  have bp:Q (NE d (v+1)=NE d v):=Y (by rw[NE];omega);generalize NE d v=kv at*;generalize d v=cv at*;go_wp2;exact⟨⟨v+1,O,gM,by rw[bp.o]⟩,SA⟩
 have fq:v=q:=O;subst fq;have f5:=aq.cell (i:=0) vY;have f6:=aq.cell (i:=1) vY;have f7:=aq.cell (i:=2) vY;have lz:=aq.frozen;have fl:∀(W:World)(i j:N)(u:Value),i≠j->E (Se W ⟨Z w.1+1,i,U⟩ u) ⟨Z w.1+1,j,U⟩=E W ⟨Z w.1+1,j,U⟩:=λW i j u K=>cJ λs=>K<|fI Addr.off s;go_wp2_with fail
 clear f5 f6 f7 lz fl;have bt:Q ((Se (Se (Se wr ⟨Z w.1+1,0,U⟩ (Si S6 0)) ⟨Z w.1+1,1,U⟩ (X (S ⟨g,0,U⟩) v cap)) ⟨Z w.1+1,2,U⟩ (Si S6 (NE d v))).rowIs (Z w.1+1) 50 3 (OX (Si S6 0) (X (S ⟨g,0,U⟩) v cap) (Si S6 (NE d v)))):=Y ((((aq.set 0 _).set 1 _).set 2 _).congr (λi hi=>by match i,hi with|0,_=>rfl|1,_=>rfl|2,_=>rfl));have eq:Sw (Z w.1) w wr:=⟨G E_.1 O_.1,G E_.2 O_.2,G E_.3 O_.3,aJ O_.4 E_.4,λq' fb=>G (E_.6 q' (oN O_.4) O) (O_.5 q' fb)⟩;have ca:(λL_:World=>Q (Sw (Z w.1) w L_)/\Q (HK L_ g v cap d)) (Se (Se (Se wr ⟨Z w.1+1,0,U⟩ (Si S6 0)) ⟨Z w.1+1,1,U⟩ (X (S ⟨g,0,U⟩) v cap)) ⟨Z w.1+1,2,U⟩ (Si S6 (NE d v))):=⟨Y<|((eq.setCell gX _).setCell gX _).setCell gX _,(Y<|((E_.7.setOther (by show g≠Z w.1+1;omega) _).setOther (by show g≠Z w.1+1;omega) _).setOther (by show g≠Z w.1+1;omega) _)⟩;generalize (Se (Se (Se wr _ _) _ _) _ _)=w9 at*;obtain⟨dl,dz⟩:=ca;have r0:=bt.cell (i:=0) vY;have r1:=bt.cell (i:=1) vY;have r2:=bt.cell (i:=2) vY;simp only[OX]at r0 r1 r2;refine YL (v:=Sa #[Si S6 0,X (S ⟨g,0,U⟩) v cap,Si S6 (NE d v)]) ?_;refine⟨af,HP,g,cap,?_⟩;rw[<-br.o,<-du.o];exact⟨R,dl,O,dz⟩
theorem LT{v}{e:Option Addr}{n c}{a:List Xe}{L B}{w:World}(ha:Q (Xp w L B e a))(u:Q (n=J a))(F:Q (J a+Xx a<=1048576))(x:B<=Z w.1)(K:Ft v a≠0):
 Sk prog 21 #[Sa #[H v,X e n c]] w λf M=>f=Rt (Sa #[H (Ft v a),Hq,H 0])/\Sw (Z w.1) w M:=by
 have r:=Y λW (s:Sw (Z w.1) w W)=>KT v c (Y<|ha.keep (s.mono x)) u F (oN s.4);have P_:(Ft v a==0)=Sn:=by simpa using K
 generalize Ft v a=V at*
 go_in
 go_wp2_with fail
 have k:(λb:World=>Sw (Z w.1) w b/\Z w.1+2<=Z b.1/\Q (b.1[Z w.1+1]?=S (Sc #[H 0,Hq,H 0] 50))) (D (D w<|Sc #[H v,X e n c] 45) (Sc #[H 0,Hq,H 0] 50)):=⟨Xb (Xb Rf _) _,sP,(Y (by have:=World.alloc_heap_new (D w<|Sc #[H v,X e n c] 45) (Sc #[H 0,Hq,H 0] 50);rwa[aO]at this))⟩
 generalize D (D w _) _=R_ at*;let⟨l,Q_,q⟩:=k;refine YU (r _ l) λp m=>?_;have z:=Y<|Xg l m;have d:Q (p.rowIs (Z w.1+1) 50 3 (OX (H 0) Hq (H 0))):=Y ⟨_,G (m.5 _ O) q,R,λi o=>by match i,o with|0,_=>rfl|1,_=>rfl|2,_=>rfl⟩;have J_:=d.cell (i:=0) vY;have K_:=d.cell (i:=1) vY;have M_:=d.cell (i:=2) vY;have N_:=d.frozen;have G_:∀(W:World)(i j:N)(y:Value),i≠j->E (Se W (A (Z w.1+1) i) y) (A (Z w.1+1) j)=E W (A (Z w.1+1) j):=λW i j y P=>cJ λf=>P<|fI Addr.off f;go_wp2_with fail
 have k:(λb:World=>Q (b.rowIs (Z w.1+1) 50 3 (OX (H V) Hq (H 0)))/\Q (Sw (Z w.1) w b)) (Se (Se (Se p (A (Z w.1+1) 0) (H V)) (A (Z w.1+1) 1) Hq) (A (Z w.1+1) 2) (H 0)):=⟨(Y<|(((d.set 0 _).set 1 _).set 2 _).congr (λi o=>by match i,o with|0,_=>rfl|1,_=>rfl|2,_=>rfl)),Y<|((z.setCell gX _).setCell gX _).setCell gX _⟩;generalize (Se (Se (Se p _ _) _ _) _ _)=S_ at*;let⟨h,T⟩:=k;have t:=h.cell (i:=0) vY;have u_:=h.cell (i:=1) vY;have x_:=h.cell (i:=2) vY;simp only[OX]at t u_ x_;exact YL (v:=Sa #[H V,Hq,H 0]) ⟨R,T⟩
end
structure TF(w:Ub)(L:N)(vals:Wo)(fl:Tm):Prop where
 len:J vals=J fl
 at_:∀(j:N)(h:j<J fl),∃a c,vals[j]?=S (X a (J fl[j]) c)/\Xf w L (Z w.1) a fl[j]
theorem TF.nil(w L):TF w L [] []:=⟨R,λj h=>Sz h sP⟩
theorem TF.app{v1 v2 f1 f2}(a:TF w n v1 f1)(d:TF w n v2 f2):TF w n (v1++v2) (f1++f2):=by
 refine⟨by rw[aQ,aQ,a.1,d.1],λj f=>?_⟩;rw[aQ]at f;by_cases e:j<J f1
 .let⟨b,c,e1,e2⟩:=a.2 j e;refine⟨b,c,?_,?_⟩
  .rw[dL (by rw[a.1];exact e),fA e];exact e1
  rw[fA e];exact e2
 let⟨b,c,e1,e2⟩:=d.2 (j-J f1) O;refine⟨b,c,?_,?_⟩
 .rw[eV (by rw[a.1];omega),a.1,fN O];exact e1
 rw[fN O];exact e2
theorem Cc{f:Tj}(q:XR w n m (S ⟨k,0,U⟩) ((Rg B).map f))(s:m<=Z w.1):∃o:Wo,TF w n o ((Rg B).map f)/\(∀j u,o[j]?=S u->E w (A k j)=S u)/\∀u∈o,∃b t c,u=X b t c:=by
 have e:∀j,j<B->∃v:Uj,E w (A k j)=S v/\∃b c,v=X b (J (f j)) c/\Xf w n (Z w.1) b (f j):=λj a=>by let⟨x,C,g,z,b,c,i,p⟩:=q j (by simpa using a);simp only[cM,dW]at i p;injection g with g;injection g with e1 e2;subst e1 e2;rw[aV]at i;exact⟨_,i,b,c,R,p.mono aA s⟩
 refine⟨(Rg B).map λj=>if a:j<B then (e j a).choose else Hq,⟨sP,λj a=>?_⟩,λj u d=>?_,λu d=>?_⟩
 .have l:j<B:=by simpa using a
  let⟨y,b,c,h,r⟩:=(e j l).choose_spec;refine⟨b,c,?_,?_⟩
  .rw[dX,iQ l];simp only[jY,l,dif_pos,cM,dW];rw[h]
  simp only[cM,dW];exact r
 .by_cases a:j<B
  .rw[dX,iQ a]at d;simp only[jY,a,dif_pos]at d;injection d with d;rw[<-d];exact(e j a).choose_spec.1
  rw[dK<|by simp;omega]at d;cases d
 obtain⟨j,a,rfl⟩:=aY.1 d;have a:=bE.1 a;simp only[a,dif_pos];let⟨_,b,c,h,_⟩:=(e j a).choose_spec;exact⟨b,_,c,h⟩
structure PS(w2 wr:Ub)(b0 L:N)(u:Uj)(fl:Tm):Prop where
 os:wr.4=w2.4
 tape:wr.2=w2.2
 output:wr.5=w2.5
 size:Z w2.1<=Z wr.1
 fr:∀q,q<Z w2.1->q≠b0->wr.1[q]?=w2.1[q]?
 ob:∀q,u.ownBlock=S q->q=b0\/Z w2.1<=q
 own:∃vals:Wo,TF w2 L vals fl/\Sx wr b0 99 1 u (J fl) vals
theorem PS.push{wr}{u':Uj}{c f2 v2}(h:PS w wr n m a c)(k:TF w m y c)(f:TF w m v2 f2)(b:wr.grownBy v a.ownBlock)(j:Sx v n 99 1 u' (J c+J f2) (y++v2))(i:u'.ownBlock=a.ownBlock\/u'.ownBlock=S (Z wr.1)):PS w v n m u' (c++f2):=by
 have l:=h.4;refine⟨G b.1 h.1,G b.2 h.2,G b.3 h.3,aJ h.4 b.4,λq d g=>G (b.5 q O λe=>by obtain e|e:=h.6 q e.symm<;>omega) (h.5 q d g),λq e=>?_,_,k.app f,by rw[aQ];exact j⟩;obtain e1|e1:=i;·exact h.6 q<|G e1.symm e
 rw[e1]at e;injection e with e;exact aZ O
theorem vg(a:Jy n x)(b):J (Ns x n b)<=b*4001:=by
 induction b with
 |zero=>simp[Ns]
 |succ b c=>
  rw[Ve,aQ];have:=oX a b;simp;omega
theorem A9(c)(ha:Q (Xp w k B p x))(K:Q (m=J x))(hB:B<=Z w.1)(o:Q (Jy n x)):
 Sk prog 100 #[Sa #[H n,X p m c]] w λf F=>∃V cc,f=Rt (Hl V (J (Ns x n m)) cc)/\Sw (Z w.1) w F/\XR F (Z w.1) (Z F.1) (S ⟨V,0,U⟩) (Ns x n m):=by
 have hn:m<=1000:=oP K.o o.1.2;have a9:0<m:=oP K.o o.1.1;have t:Sw (Z w.1) w (D (D w<|Sc #[H n,X p m c] 45) (Sc #[] 99)):=Xb (Xb Rf _) _;have ap:E (D (D w<|Sc #[H n,X p m c] 45) (Sc #[] 99)) (A (Z w.1) 0)=S (H n):=SC
 have aq:E (D (D w<|Sc #[H n,X p m c] 45) (Sc #[] 99)) (A (Z w.1) 1)=S (X p m c):=SC
 have C:Sx (D (D w<|Sc #[H n,X p m c] 45) (Sc #[] 99)) (Z w.1+1) 99 1 (Hl (Z w.1+1) 0 0) 0 []:=by have h:=eI (base:=Z w.1+1) (e:=99) (size:=1) (D w<|Sc #[H n,X p m c] 45) #[] 0 sP sP R;rw[aO]at h;exact h
 go_in
 go_wp2_with fail
 generalize D (D w _) _=y at*;have bb:Z w.1+1<Z y.1:=(C.lt _ R).2;have J_:=Y<|qm c (Y<|ha.keep (t.mono hB)) K (oN t.4) o;refine J_.mono ?_;rintro f i⟨gO,cO,L,rfl,v,a7,P⟩;have Y_:=Y P;have bc:=v.4;have l:=Y<|Xg t v;have H_:Q (PS i i (Z w.1+1) (Z y.1) (Hl (Z w.1+1) 0 0) (Ns x n 0)):=Y ⟨R,R,R,aA,λ_ _ _=>R,λq f=>bC (by injection f with f;exact f.symm),[],by
  have h:=TF.nil i (Z y.1);exact h,by
  have h:=rk C v;exact h⟩
 have X_:Q (∀b,b<=m->J (Ns x n b)<=4001000):=Y (λb W=>by have:=vg o b;have:b*4001<=1000*4001:=jI _ O;omega);clear v P C t ap aq;go_wp2
 go_loopw [3,5] (λu s wr=>∃b:N,b<=m/\s=H b/\Q (PS i wr (Z w.1+1) (Z y.1) u (Ns x n b))) λ_ s _=>m-(JB s).toNat
 .exact⟨0,aN,R,H_⟩
 obtain⟨b,W,rfl,a⟩:=hrel;by_cases az:b<m
 .let⟨M,h2,O_⟩:=Y_ b az;let⟨V_,v1,v2,v3⟩:=Cc O_<|aA;have L_:=Y v1;let⟨a4,r,d⟩:=a.7;have HV:=Y r;have ac:=Y d;have K_:=Y<|Ve x n b;have a5:=X_ b W;have a6:=oX o b;have T_:J V_=J (Tu x b)+1:=by rw[v1.1];simp
  have eO:=G (Xc<|a.5 gO (aI i _ M) O) M;have W_:=Y λj u g=>G (Xc<|a.5 (L b) (aI i _<|v2 j u g) O) (v2 j u g);have ad:=Y v3;have ba:=a.4;let⟨e,T⟩:∃e,e=J (Tu x b)+1:=⟨_,R⟩;rw[<-T]at eO T_ K_;have a8:e<=4001:=O;have aa:Q (J ((Rg e).map (UU x n b))=e):=Y sP;rw[<-T]at L_;clear r d v1 v2 v3 M h2 O_ T;go_wp2_with (at_builtin;refine YB (news:=V_) Qd ac ?c1 (by intro u hu;obtain⟨_,_,_,rfl⟩:=ad u hu;rfl) ?_ (hl:=by rw[T_,iN]))
  case c1=>
   intro j u g;have e2:((A (L b) 0):Addr).add j=(A (L b) j):=by rw[mK];simp
   rw[e2];exact W_ j u g
  intro v8 w8 U_ S_ _ Q_;have I_:=Y (a.push HV L_ S_ (by rw[aa.o];exact U_) Q_);rw[<-K_.o]at I_;clear U_ S_ Q_;go_wp2;exact⟨⟨b+1,O,gM,I_⟩,SA⟩
 have al:m=b:=O
 subst al;let⟨a4,r,d⟩:=a.7;have a0:0<J (Ns x n m):=by obtain⟨q,rfl⟩:∃q,m=q+1:=⟨m-1,O⟩;rw[Ve];simp;omega
 obtain⟨z,c8,rfl,_,_⟩:=Xm d a0;have Z_:Q (XR wr (Z w.1) (Z wr.1) (S ⟨z,0,U⟩) (Ns x n m)):=Y (λj g=>by let⟨aj,cj,e1,e2⟩:=r.2 j g;refine⟨z,0,R,⟨oN<|(d.lt _ R).1,(d.lt _ R).2⟩,aj,cj,by rw[aV];exact Jj d e1,λs hi=>?_⟩;let⟨M_,o',e3,af,ao⟩:=e2 s hi;exact⟨M_,o',e3,⟨O,oN a.4⟩,G (Xc<|a.5 M_ af.2 O) ao⟩)
 have ab:=Y (show Sw (Z w.1) w wr from⟨G a.1 l.1,G a.2 l.2,G a.3 l.3,oP l.4 a.4,λq hq=>G (a.5 q O O) (l.5 q hq)⟩);clear r d;go_wp2;go_ret;exact⟨z,c8,R,ab,Z_⟩
theorem ut(h:n<J l):NG l n=l[n]:=by unfold NG;rw[bF,aC h];rfl
theorem DE(ha:n<J L)(e:L[n]=(m:I)):UM l L n=NG l m:=by unfold UM;rw[bF,aC ha,gR,e];rfl
theorem MF(X_ s c bh aq d cc)(ha:Q (Xp w bh aq X_ x))(g:Q (s=J x))(hs:Q (J x+Xx x<=1048576))(hB:aq<=Z w.1)(hc:Q (Xf w n m p l))(ad:Q (d=J l))(b8:m<=Z w.1)(ck:d<=1048576)(hq:Q (Ft t x=0/\0<=T/\T<=2000/\(J l:I)=t)):
 Sk prog 52 #[Sa #[H t,X X_ s c],X p d cc,H T] w λD_ w'=>D_=Rt (Sb<|ZC t x l T)/\Sw (Z w.1) w w':=by
 have V_:=Y λW (K_:Sw (Z w.1) w W)=>KT t c (Y<|ha.keep (K_.mono hB)) g hs (oN K_.4);rw[hq.1]at V_
 go_in
 go_wp2_with fail
 refine YU (V_ _<|Xb Rf _) λv L=>?_;let⟨ac,bn⟩:=NC L;have k0:E v (A (Z w.1) 0)=S (H t):=by rw[ac _ _ sP];simp
 have k1:E v (A (Z w.1) 1)=S (X X_ s c):=by rw[ac _ _ sP];simp
 have P:=Y<|Xg (Xb (dC (Z w.1) w) _) L;have co:Z w.1+1<=Z v.1:=by have:=L.4;simp at this;omega
 clear ac bn L;let⟨a8,ci,cj,a6⟩:=hq.o;obtain rfl:t=(d:I):=by rw[<-a6,ad.o]
 have I_:=Y<|XH (pM a8);clear a8 a6;have cn:((d:I) != (d:I))=Sn:=sP;have ce:=I_.2;have az:Q (∀W,Sw (Z v.1) v W->∀(q:N)(aa:q<d),∃b o,p=S (A b o)/\E W (A b<|o+q)=S (H<|NG l q)):=Y (λW hW q hq=>by
  have V:q<J l:=by rw[<-ad.o];exact hq
  let⟨b,o,D_,K_,aa⟩:=hc q V;refine⟨b,o,D_,?_⟩;rw[ut V];exact oB hW (G (XU P O) aa) O)
 have ar:=Y<|A9 c (Y<|ha.keep (P.mono hB)) g (oN P.4) I_;go_wp2
 go_loop [7] (λi=>∃q:N,q<=d/\i=H q/\Q (∀j,j<q->0<=NG l j/\NG l j<T)) λi=>d-(JB i).toNat
 .exact⟨0,aN,R,Y λj h=>Sz h O⟩
 obtain⟨q,cm,rfl,ba⟩:=hrel;by_cases a4:q<d
 .obtain⟨b,o,rfl,e0⟩:=az v Rf q a4;have V:q<J l:=by rw[<-ad.o];exact a4
  have HN:Q (¬(0<=NG l q/\NG l q<T)->ZC d x l T=Sn):=Y λh=>ZD λg=>h (by rw[ut V];exact g.2.2.2.2.1 _<|aH V)
  have HY:Q (0<=NG l q/\NG l q<T->∀j,j<q+1->0<=NG l j/\NG l j<T):=Y λh j g=>by
   by_cases e:j=q;·exact e▸h
   exact ba.o j O
  clear ba;generalize NG l q=b5 at*;have cl:(q:I)<d:=O;by_cases ca:b5<0
  .go_wp2;go_ret;exact⟨ZT (HN.o O),P⟩
  by_cases cb:T<=b5
  .go_wp2;go_ret;exact⟨ZT (HN.o O),P⟩
  go_wp2;exact⟨⟨q+1,O,gM,Y<|HY.o O⟩,SA⟩
 obtain rfl:q=d:=O;go_wp2_with fail
 refine ar.mono ?_;rintro D_ e⟨gA,cA,rfl,M_,ab⟩;have a9:=Y<|Xg P M_;have a0:Q (∀W,Sw (Z e.1) e W->∀(u:N)(aa:u<q),∃b o,p=S (A b o)/\E W (A b<|o+u)=S (H<|NG l u)):=Y λW hW=>az W<|M_.trans (hW.mono M_.4);let⟨a,f⟩:∃a,a=Ns x q s:=⟨_,R⟩;have bd:=Y f;rw[<-f]at ab;rw[<-f];let⟨K,k⟩:∃K,K=J a:=⟨_,R⟩;have b6:=Y k;rw[<-k];have cd:K<=4001000:=by have h1:=vg I_ s;have h2:=I_.1.2;have h3:=g.o;have h4:s*4001<=1000*4001:=jI _ O;rw[<-f]at h1;omega
 have be:Q (∀y,Sw (Z e.1) e y->∀i,i<K->∃h C,E y (A gA i)=S (X h (J (a.getD i [])) C)/\∀j,j<J (a.getD i [])->∃B F u,h=S (A B F)/\u<q/\E y (A B<|F+j)=S (H ((u:N):I))/\UM l (a.getD i []) j=NG l u):=Y (λy Q_ i O_=>by
  have r:i<J a:=by rw[<-k];exact O_
  let⟨Y_,o',Z_,bi,h,C,a1,bo⟩:=ab i r;injection Z_ with Z_;injection Z_ with e1 e2;subst e1 e2;rw[aV]at a1;have af:a.getD i []=a[i]:=by rw[bF,aC r];rfl
  rw[af];have bv:=tD (xs:=x) (V:=q) (l:=a[i]) (by rw[<-g.o,<-f];exact aH r);refine⟨h,C,oB Q_ a1 bi.2,λj P_=>?_⟩;let⟨B,F,e3,bl,a2⟩:=bo j P_;let⟨u,hu,eu⟩:=bv.2 _<|aH P_;rw[eu]at a2;exact⟨B,F,u,e3,hu,oB Q_ a2 bl.2,DE P_ eu⟩)
 have bf:Q (∀i,i<K->J (a.getD i [])<=q):=Y (λi O_=>by
  have r:i<J a:=by rw[<-k];exact O_
  have af:a.getD i []=a[i]:=by rw[bF,aC r];rfl
  rw[af];exact(tD (xs:=x) (V:=q) (l:=a[i]) (by rw[<-g.o,<-f];exact aH r)).1)
 have bb:Q (∀i j b,i<K->j<J (a.getD i [])->b<j->UM l (a.getD i []) j=UM l (a.getD i []) b->ZC q x l T=Sn):=Y (λi j b h1 h2 h3 h4=>ZD<|Dm (i:=i) (a:=j) (b:=b) (l:=a.getD i []) (by rw[f,g.o];rfl) (by rw[show((q:I)).toNat=q from R,<-g.o,<-f,<-k];exact h1) h2 h3 h4);have HE:Q (ZI l a K 0 0->ZC q x l T=So):=Y λh=>by
  have c:∀c∈l,0<=c/\c<T:=λc hc=>by obtain⟨i,hi,rfl⟩:=bR hc;rw[<-ut hi];exact ba.o i (by have:=ad.o;omega)
  exact ZF ⟨hq.1,hq.2.1,hq.2.2.1,hq.2.2.2,c,(BZ (n:=q) c).1 (by rw[<-g.o,<-f,<-k];exact λi h1 j b h2 h3=>h i j b h2 h3 (bC h1))⟩
 clear M_ ab f k ba;go_wp2
 go_loopw [9] (λi wr=>∃i':N,i'<=K/\i=H i'/\Q (Sw (Z e.1) e wr)/\Q (ZI l a i' 0 0)) λi _=>K-(JB i).toNat
 .exact⟨0,aN,R,Y<|Rf,Y λ_ _ _ _ _ h=>Sz h O⟩
 obtain⟨i,O_,rfl,R_,RZ⟩:=hrel;by_cases ao:i<K;rotate_left
 .have bp:i=K:=O;subst bp;go_wp2;go_ret;exact⟨ZT<|HE.o RZ.o,Xg a9 R_⟩
 have J_:=Y λy Q_=>be y Q_ i ao;have S_:=Y λj b=>bb i j b ao;have SZ:=Y λj b=>ZS (l:=l) (d:=a) (i:=i) (j:=j) (b:=b);have a7:=bf i ao;let⟨b1,al⟩:∃ap,ap=a.getD i []:=⟨_,R⟩;rw[<-al]at S_ a7 SZ;simp only[<-al]at J_;let⟨ln,aj⟩:∃ap,ap=J b1:=⟨_,R⟩;rw[<-aj]at S_ a7;simp only[<-aj]at J_;have HU:Q (ZI l a i ln 0->ZI l a (i+1) 0 0):=Y λh M B C p q r=>h M B C p q (by
  by_cases e:M=i;·subst e;rw[<-al,<-aj]at p;omega
  omega)
 clear al aj;have cg:(i:I)<K:=O;go_wp2
 go_loopw [10] (λj wr=>∃j':N,j'<=ln/\j=H j'/\Q (Sw (Z e.1) e wr)/\Q (ZI l a i j' 0)) λj _=>ln-(JB j).toNat
 .exact⟨0,aN,R,R_,RZ⟩
 clear R_ RZ;obtain⟨j,P_,rfl,H_,RZ⟩:=hrel;let⟨h,C,x1,z⟩:=J_ wr H_;by_cases a5:j<ln
 .have ch:(j:I)<ln:=O;clear z;go_wp2_with fail
  clear x1
  go_loopw [11] (λb wr=>∃Y_:N,Y_<=j/\b=H Y_/\Q (Sw (Z e.1) e wr)/\Q (ZI l a i j Y_)) λb _=>j-(JB b).toNat
  .exact⟨0,aN,R,H_,RZ⟩
  clear H_ RZ;obtain⟨b,K_,rfl,M,RZ⟩:=hrel;by_cases br:b<j
  .let⟨h,C,x1,z⟩:=J_ wr M;obtain⟨B,F,u1,rfl,bx,y1,q1⟩:=z j a5;let⟨b4,o4,u2,e4,b0,y2,q2⟩:=z b O;injection e4 with e4;injection e4 with e5 e6;subst e5 e6;obtain⟨bc,oc,rfl,z1⟩:=a0 wr M u1 bx;let⟨b7,cp,e7,z2⟩:=a0 wr M u2 b0;injection e7 with e7;injection e7 with e8 e9;subst e8 e9;have U_:=Y (S_.o j b a5 br);have HO:=Y (SZ.o j b RZ.o);rw[q1,q2]at U_ HO;clear q1 q2 z;generalize NG l u1=c1 at*;generalize NG l u2=c2 at*;have i1:(b:I)<ln:=O;have i2:(u1:I)<q:=O;have i3:(u2:I)<q:=O;have i4:(b:I)<j:=O;by_cases he:c1=c2
   .subst he
    go_wp2_with fail
    go_quiet (fail)
    go_wp2;go_ret;exact⟨ZT<|U_.o JV,Xg a9 (iX M _)⟩
   have cf:(c1==c2)=Sn:=by rw[iS];exact he
   go_wp2_with fail
   go_quiet (fail)
   go_wp2;exact⟨⟨b+1,O,gM,Y<|iX M _,Y<|HO.o he⟩,SA⟩
  have bm:b=j:=O;subst bm;go_wp2;exact⟨⟨b+1,O,gM,M,Y λ_ _ _ p q r=>RZ.o _ _ _ p q O⟩,SA⟩
 have bq:j=ln:=O;subst bq;clear z;go_wp2;exact⟨⟨i+1,O,gM,H_,Y<|HU.o RZ.o⟩,SA⟩
theorem ZQ{f g:N}(hf:(f=23/\g=52)\/(f=31/\g=69))(V:I)(a:Uy)(n c:N)(p:Uy)(s j:N)(k:I)(w:Ub)(hk:1<=k/\k<=64)(b:Q (∀W,Sw (Z w.1) w W->Sk prog g #[Sa #[H V,X a n c],X p s j,H k] W λe o=>e=Rt (Sb Sn)/\Sw (Z W.1) W o)):
 Sk prog f #[Sa #[H V,X a n c],X p s j,H k] w λe o=>e=Rt (Sa #[H 0,Hq])/\Sw (Z w.1) w o:=by
 have h1:¬k<1:=O;have h2:¬64<k:=O;obtain⟨rfl,rfl⟩|⟨rfl,rfl⟩:=hf
 all_goals
  go_in
  go_wp2_with fail
  refine YU (b.o _<|Xb (Xb Rf _) _) λv q=>?_;have r:v.1[Z w.1+1]?=S (Sc #[H 0,Hq] 38):=G (q.5 _ sP) (by have:=l9 (D w<|Sc #[H V,X a n c] 45) (Sc #[H 0,Hq] 38);rw[aO]at this;exact this);have r0:∀i,E v (A (Z w.1+1) i)=(#[H 0,Hq]:Zh)[i]?:=λi=>by simp[World.cell?,r]
  have r1:∀i,v.frozen? (A (Z w.1+1) i)=Sn:=λi=>by simp[World.frozen?,r]
  have B:=Y<|Xg (Xb (Xb (dC (Z w.1) w) _) _) q;clear q r;go_wp2;exact YL (v:=Sa #[H 0,Hq]) ⟨R,(B.o.setCell sP _).setCell sP _⟩
theorem wJ(h:XJ ⟨t,x⟩=So):∃n:N,t=(n:I):=by simp only[XJ,bY]at h;let⟨⟨⟨⟨a,_⟩,_⟩,_⟩,_⟩:=h;simp only[Y6,bY,bD]at a;exact bX a.1.1.1.1
theorem nM:jy w n m t T z 0 [] (Sa #[H t,H T,H z,H 0,Hq]):=⟨U,0,0,R,U,0,0,R,λi h=>Sz h<|wA _,R,vY,λy a=>Sz a sP⟩
theorem KX{C}(ha:Q (Yx w m k p C))(B:Q (n=J C))(bx:n<=c)(bv:n<=9223372036854775807)(hB:k<=Z w.1)(s)(q:Q (f8 (C2 C) t=s))(ht:Q (J (C2 C).3.2+Xx (C2 C).3.2<=100000)):
 Sk prog 15 #[X p n c,H t] w λy w'=>∃az,y=Rt az/\Sw (Z w.1) w w'/\jy w' (Z w.1) (Z w'.1) s.1 s.2 s.3 s.k s.l az:=by
 let⟨f,i⟩:∃f,D w (Sc #[H 0,H 0,H 0,H 0,Hq] 40)=f:=⟨_,R⟩;have x:Q (∀W,Sw (Z f.1) f W->Sw (Z w.1) w W/\Z w.1<Z W.1/\(E W (A (Z w.1) 0)=S (H 0)/\E W (A (Z w.1) 1)=S (H 0)/\E W (A (Z w.1) 2)=S (H 0)/\E W (A (Z w.1) 3)=S (H 0)/\E W (A (Z w.1) 4)=S Hq)/\∀U_,W.frozen? (A (Z w.1) U_)=Sn):=Y (λW h=>by
  have hz:Z f.1=Z w.1+1:=by rw[<-i];exact aO _ _
  have g:=h.5 (Z w.1) O;have hs:=h.4;exact⟨(show Sw (Z w.1) w f by rw[<-i];exact Xb Rf _).trans (h.mono O),O,⟨G (Xc g) (by rw[<-i];simp),G (Xc g) (by rw[<-i];simp),G (Xc g) (by rw[<-i];simp),G (Xc g) (by rw[<-i];simp),G (Xc g) (by rw[<-i];simp)⟩,λU_=>G (bJ g) (by rw[<-i];simp)⟩)
 have h0:=(x f<|Rf).1;have HP:=Y<|Lu (Y<|ha.keep (h0.mono hB)) B bx bv (oN h0.4);clear h0;generalize C2 C=U_ at*;let⟨co,li,X_,a⟩:=U_;dsimp only at*
 go_in
 go_wp2_with fail
 clear i;refine HP.mono ?_;rintro y d⟨val,rfl,af,L,K,rfl,S_⟩;let⟨b,cc,⟨H_,I_,J_,K_,L_⟩,rz⟩:=x d af;have bi:=Y b;have a0:=Y af;have HY:=Y S_;clear b af S_;dsimp only;by_cases al:co=0;rotate_left
 .have b7:=jJ.2 al;go_wp2;exact YL (v:=Sa #[H co,H li,H 0,H 0,Hq]) ⟨_,R,XM bi.o,by rw[<-q.o];unfold f8;rw[aU al];exact nM⟩
 subst al
 let⟨v,M⟩:∃v,D d (Sc #[H 0,H li,H X_,X L (J a) K] 47)=v:=⟨_,R⟩;have E_:Q (∀W,Sw (Z v.1) v W->Sw (Z f.1) f W/\Z d.1<Z W.1/\(E W (A (Z d.1) 0)=S (H 0)/\E W (A (Z d.1) 2)=S (H X_)/\E W (A (Z d.1) 3)=S (X L (J a) K))/\Xp W (Z f.1) (Z d.1) L a):=Y (λW h=>by
  have hz:Z v.1=Z d.1+1:=by rw[<-M];exact aO _ _
  have g:=h.5 (Z d.1) O;have hs:=h.4;have k1:=(show Sw (Z d.1) d v by rw[<-M];exact Xb Rf _).trans (h.mono O);exact⟨Xg a0 k1,O,⟨G (Xc g) (by rw[<-M];simp),G (Xc g) (by rw[<-M];simp),G (Xc g) (by rw[<-M];simp)⟩,HY.keep k1⟩)
 have O_:Q (J a+Xx a<=1048576):=Y<|oN ht.o;let⟨hA,ch,⟨p0,p1,p2⟩,bf⟩:=E_ v<|Rf;have a8:=Y bf;have bn:=Y hA;clear bf hA;go_wp2_with fail
 clear M H_ I_ J_ K_ L_ rz;by_cases r:Ft X_ a=0;rotate_left
 .refine YU (LT a8 (Y R) O_ O r) λe z=>?_;let⟨b,b0,⟨H_,I_,J_,K_,L_⟩,rz⟩:=x.o e<|Xg bn.o z;have M_:=Y b;have cb:=jJ.2 r;clear b z;have o:=Y r;clear r;go_wp2;exact YL (v:=Sa #[H<|Ft X_ a,H 0,H 0,H 0,Hq]) ⟨_,R,XM M_.o,by rw[<-q.o];unfold f8;rw[aM λh=>h R,aU o.o];exact nM⟩
 have R_:=pM r;obtain⟨V,rfl⟩:=wJ R_;have o:=Y r;have a6:=Y R_;have l:=Y<|XH R_;have hV:=l.2;have ca:=@B7 a V;clear r R_;refine(Lj a8 (Y R) O_ O o a6 l).mono ?_;rintro y e⟨b6,F,P,hP,rfl,z,b8,a9⟩;obtain rfl:=vK hP l.1.model;have a1:Q (HK e F V P<|PK V a):=Y a9;let⟨ac,b0,⟨p0,p1,p2⟩,bd⟩:=E_ e z;have b5:=Y bd;have b4:=Y ac;have aa:=Y z;let⟨b,cd,⟨H_,I_,J_,K_,L_⟩,rz⟩:=x e ac;have M_:=Y b;clear hP z a9 bd ac b;generalize NE _ V=ct;generalize bc:NW (Zw a V (J a))=T at*;have D_:=Y bc;clear bc;by_cases br:t<1
 .go_wp2;exact YL (v:=Sa #[H 12,H 0,H 0,H 0,Hq]) ⟨_,R,XM M_.o,by rw[<-q.o];unfold f8;rw[aM λh=>h R,aM λh=>h o.o,aU<|bC br];exact nM⟩
 by_cases bt:64<t
 .go_wp2;exact YL (v:=Sa #[H 12,H 0,H 0,H 0,Hq]) ⟨_,R,XM M_.o,by rw[<-q.o];unfold f8;rw[aM λh=>h R,aM λh=>h o.o,aU<|aZ bt];exact nM⟩
 let⟨j,G_⟩:∃j,D e (Sc #[H 0,Hl F V P,H ct] 50)=j:=⟨_,R⟩;have ci:Z j.1=Z e.1+1:=by rw[<-G_];exact aO _ _
 have cq:E j (A (Z e.1) 0)=S (H 0):=by rw[<-G_];simp
 have N_:Q (Sw (Z e.1) e j/\E j (A (Z e.1) 1)=S (Hl F V P)):=Y ⟨by rw[<-G_];exact Xb Rf _,by rw[<-G_];simp⟩;have HS:=Y λ(W:Ub)(h:Sw (Z j.1) j W)=>C8 (J a) K (Y (E_.o W<|Xg aa (Xg N_.1 h)).2.2.2) (Y R) O_ (oN h.4) a6 l;rw[D_.o]at HS;let⟨_,_,⟨cl,cm,cn⟩,_⟩:=E_ j<|Xg aa N_.1;go_wp2_with fail
 clear G_;refine YU (HS _<|Rf) λu Q_=>?_;have ao:=Xg N_.1 Q_;let⟨ad,ce,⟨p0,p1,p2⟩,be⟩:=E_ u<|Xg aa ao;have q1:=G (XU Q_ O) N_.2;let⟨b,cf,⟨H_,I_,J_,K_,L_⟩,rz⟩:=x u ad;have bl:=Y b;have a7:=Y be;have bo:=Y ao;have bh:=Y ad;have cj:Z e.1<Z u.1:=oN Q_.4;clear Q_ ao ad b be;by_cases bb:t<(T:I)
 .go_wp2;exact YL (v:=Sa #[H 13,H 0,H T,H 0,Hq]) ⟨_,R,XM bl.o,by rw[<-q.o];unfold f8;rw[aM λh=>h R,aM λh=>h o.o,aM O,aU<|by dsimp only;rw[dM,D_.o];exact bb];dsimp only;rw[dM,D_.o];exact nM⟩
 have ab:Q (Xf u 0 (Z u.1) (S ⟨F,0,U⟩) (OJ V a)):=Y (a1.of_block<|bo.5 F a1.lt).ints;have a4:=Y (λ(W:Ub)(h:Sw (Z u.1) u W)=>MF L (J a) K (Z f.1) (Z d.1) V P (t:=V) (T:=t) (Y<|a7.keep (h.mono O)) (Y R) O_ (oN h.4) (Y<|ab.keep h) (Y<|by simp[OJ]) h.4 O (Y ⟨o.o,O,O,by simp[OJ]⟩));obtain⟨kk,b1,bq,a2,a3⟩:∃kk b1,Q (s=⟨0,0,T,kk,b1⟩)/\Q (J b1<=3000/\∀y∈b1,J y.1<=4128)/\Q (Sk prog 23 #[Sa #[H V,X L (J a) K],Hl F V P,H t] u λe o=>∃K v,e=Rt (Sa #[H kk,X K (J b1) v])/\Sw (Z u.1) u o/\d7 o (Z u.1) (Z o.1) K b1):=by
  have f:∀b,ZC V a (OJ V a) t=b->s=if b then ⟨0,0,T,t,NK (OJ V a) a⟩else ⟨0,0,T,0,[]⟩:=λb h=>by rw[<-q.o];unfold f8;rw[aM λh=>h R,aM λh=>h o,aM O];dsimp only;rw[dM,D_.o,aM bb,h]
  cases g:ZC V a (OJ V a) t with
  |true=>simp only[g]at a4;exact⟨_,_,Y (f _ g),Y (yo (OJ V a) a l.1.2 λar B=>(l.10 ar B).1),Y (Mx a7 (Y R) O l (Y λar B=>by have:=l.10 ar B;omega) ab (Y<|by simp[OJ]) (Y R) aA ⟨O,O⟩ a4)⟩
  |false=>simp only[g]at a4;exact⟨_,_,Y (f _ g),Y ⟨vY,λy h=>Sz h sP⟩,Y ((ZQ (bC ⟨R,R⟩) V L _ K _ V P t u ⟨O,O⟩ a4).mono λe o h=>⟨U,0,h.1,h.2,λi h=>Sz h sP⟩)⟩
 go_wp2_with fail
 refine a3.mono ?_;rintro y w4⟨ap,aq,rfl,aj,ba⟩;let⟨b,cg,⟨H_,I_,J_,K_,L_⟩,rz⟩:=x.o w4<|Xg bh.o aj;have bm:=Y b;have bp:=Y ba;have ck:=aj.4;clear b aj ba a3;go_wp2;refine YL (v:=Sa #[H 0,H 0,H T,H kk,X ap (J b1) aq]) ⟨_,R,XM bm.o,?_⟩;rw[bq.o];refine⟨ap,_,aq,R,ap,_,aq,R,(bp.keepS λcp q1 _=>?_).mono O sP,R,a2.1,λb3 S_=>by have:=a2.2 b3 S_;omega⟩
 repeat rw[cY<|by dsimp only;omega]
theorem EH:0<NO f n↔∃x,x<64*n/\Xh f x=So:=by
 unfold NO;rw[nC];constructor;·rintro⟨x,a,b⟩;exact⟨x,bE.1 a,b⟩
 rintro⟨x,a,b⟩;exact⟨x,bE.2 a,b⟩
theorem Dq(x y:Uj)(W:Ub):(Instr.field 129 (Sa #[x,y]) 0).run prog W=.ok x W:=vZ
theorem Te(v a c)(ha:Q (Xp w n m p x))(f:Q (a=J x))(hs:Q (J x+Xx x<=1048576))(L:m<=Z w.1)(y:Q (Yy w))(z:Q (Yb w)):
 Sk prog 29 #[Sa #[H v,X p a c]] w λe w'=>e=Rt (H<|Ft v x)/\Sw (Z w.1) w w':=by
 have k:=Y λW (F:Sw (Z w.1) w W)=>JK v p a c x n m W (Y<|ha.keep (F.mono L)) f hs (oN F.4) (Y (y.keep F y.1).old) (Y (z.keep F z.1).old);cases hv:XJ ⟨v,x⟩with
 |false=>
  rw[hv]at k;rw[Uh hv];clear hv
  go_in
  go_wp2_with fail
  refine YU (k _<|Xb Rf _) λw1 g=>?_;have M:=Y<|Xg (Xb (dC (Z w.1) w) _) g;clear g;go_wp2;go_ret;exact⟨R,M⟩
 |true=>
  rw[hv]at k;have P:=Y hv;have az:0<=v:=by simp only[XJ,Y6,bY,bD]at hv;omega
  obtain⟨V,rfl⟩:=bX az;have d:=Y<|XH hv;have hn:a<=1000:=oP f.o d.1.2;have s:0<a:=oP f.o d.1.1;have a9:a<=64*((a+63)/64):=O;have ba:(a+63)/64<=100:=O;generalize a0:Ft V x=T;have J_:=Y a0;clear hv az a0
  go_in
  go_wp2_with fail
  have M_:Sw (Z w.1) w (D w<|Sc #[H V,X p a c] 45):=Xb Rf _;have al:E (D w<|Sc #[H V,X p a c] 45) (A (Z w.1) 0)=S (H V):=sP;have ao:E (D w<|Sc #[H V,X p a c] 45) (A (Z w.1) 1)=S (X p a c):=sP;have K:Z w.1<Z (D w<|Sc #[H V,X p a c] 45).1:=sP;refine YU (k _ M_) λw1 g=>?_;have M:=Y<|Xg M_ g;have g0:=oB g al K;have g1:=oB g ao K;have a1:=aX K g.4;clear g M_ al ao K;go_wp2_with fail
  refine(Ki V p c hn).mono ?_;rintro e S_⟨K_,gS,rfl,bi,bn,r,ar⟩;have j:=Y<|Xg M r;have ab:=Y ar;have k0:=oB r g0 a1;have k1:=oB r g1 a1;have bp:=r.4;have a6:Q (∀b∈x,∀a4∈b.3.tg,0<=a4/\a4<(a:I)):=Y (by rw[f.o];exact d.1.3);have ac:=Y (VY K_ gS (Z S_.1) c p n m f hn a9 ba O O O a6 a 0 (λ_=>0) Hq [] S_ ab (Y<|ha.keep (j.mono L)) s (Y<|ZA _ _) (Y JW) (by simpa using ZA (λ_=>0) a));clear r ar g0 g1;go_wp2_with fail
  refine YU ac λq⟨v',i,aq⟩=>?_;have o:Sw (Z w.1) w q:=⟨G i.1 j.1,G i.2 j.2,G i.3 j.3,aJ j.4 i.4,λa3 hq=>G (i.5 a3 O O O λe=>by cases e) (j.5 a3 hq)⟩;have N_:=i.5 (Z w.1) O O O (λe=>by cases e);have m0:=G (Xc N_) k0;have m1:=G (Xc N_) k1;have P_:YW q K_ gS (Z S_.1) ((a+63)/64) p a c (Zp x).1 v' (Zp x).2:=by unfold Zp;rw[<-f.o];exact aq
  let⟨q1,q2,q3,q4⟩:=d.1.top;have F_:=Y<|uQ d.1 (F:=Ja x) q3 q1;have ap:J (Ja x)=J (Zp x).2:=by unfold Ja;rw[jQ]
  have O_:=P_.6;rw[show Je (Zp x).2=(Xi (Zp x).2).map (Si S6) by simp[Je,Xi]]at O_;let⟨aL,cL,eL,_⟩:=Xk O_;have s2:E q (A K_ 2)=S (X aL (J (Ja x)) cL):=by have l:=P_.3;rw[eL,show J (Xi (Zp x).2)=J (Ja x) by rw[ap];simp[Xi]]at l;exact l
  have G_:=Y o;let⟨Q_,t⟩:∃bd,bd=J (Ja x):=⟨_,R⟩;rw[<-t]at s2;have bf:=Y t;have bo:Q_<=a:=by rw[t,f.o];exact F_.1
  have U_:Q (Q_=a↔Jq x):=Y (by rw[t,f.o];exact F_.2);have aa:=Y<|KO V p a c x n m q.drew (Y<|ha.keep (o.drew.mono L)) f (oN o.drew.4) d (Y<|y.keep o.drew y.1) (Y<|z.keep o.drew z.1);have bq:Z w.1<Z q.1:=aI q _ m0;clear i aq P_ o N_ O_ eL ap t q1 q2 q3 q4 k0 k1;by_cases bc:Q_<a
  .have HR:Q (T=10):=Y (by rw[<-J_.o];exact t9 P λl=>by have:=U_.2 l;omega);go_wp2_with fail
   go_region;go_wp2;go_ret;exact⟨by rw[HR.o];rfl,G_.drew⟩
  have T_:=Y<|U_.1 O;have bm:=λb be W=>Dq b be W;go_wp2_with fail
  go_region;go_wp2_with fail
  refine aa.mono ?_;rintro e w4⟨Gi,Go,gi,go,ci,u,WX,rfl,h⟩;have bh:=Y h;have x0:=h.2.1.cell s;have hV:=d.2;have Z_:=Y<|Kl (gi 0) ((V+63)/64) (ci 0) (u 0) w4 (Y<|h.4 0) (Y<|h.2.2 0 s) O;have bl:=TB (u 0) ((V+63)/64);have a5:=Y<|G_.drew.trans (h.1.mono G_.drew.4);have Y_:Q (0<NO (u 0) ((V+63)/64)↔∃b,N4 x b):=Y (by
   let⟨a7,a8,W0,a2,h1,h2,h3,h4,h5,_⟩:=h.8;have af:∀{b:N},Sp a7 a8 (·∈a2) (X8 x) 0 b↔N4 x b:=λ{b}=>EX d h1 h2 h3 (ord:=(·∈a2)) h4 (src:=X8 x) λ_ _=>R;rw[EH];constructor
   .rintro⟨b,B,C⟩;exact⟨b,af.1<|(h5 0 s b B).1 C⟩
   rintro⟨b,B⟩
   have bc:=wH d B;have C:b<64*((V+63)/64):=O;exact⟨b,C,(h5 0 s b C).2 (af.2 B)⟩)
  clear h;generalize bb:NO (u 0) ((V+63)/64)=cc at*;clear bb;generalize (V+63)/64=K4 at*;go_wp2_with fail
  refine YU Z_ λw5 ad=>?_;have X_:=Y<|Xg a5 ad;clear ad x0;by_cases aj:0<cc
  .have H_:Q (T=11):=Y (by rw[<-J_.o];exact qg P T_<|Y_.1 aj);go_wp2;go_ret;exact⟨by rw[H_.o];rfl,X_⟩
  have H_:Q (T=0):=Y (by rw[<-J_.o];exact uP P T_ λl=>aj<|Y_.2 l);go_wp2;go_ret;exact⟨by rw[H_.o];rfl,X_⟩
section
attribute [local go_sem] Oper.semAt_some
structure OM(w6:Ub)(gT Kr:N)(R_:Vv)(U_:Ub):Prop where
 os:U_.4=w6.4
 tape:U_.2=w6.2
 output:U_.5=w6.5
 size:Z w6.1<=Z U_.1
 gl:gT<Z w6.1
 fr:∀q,q<Z w6.1->q≠gT->U_.1[q]?=w6.1[q]?
 st:∃T:Wk,Cp U_ gT Kr Kr T/\XA T/\∀c,c<64*Kr->(Xh T c=So↔R_ c)
section
variable{w6 U_ U':Ub}{gT Kr:N}{R_ R':N->Prop}
theorem OM.far(h:OM w6 gT Kr R_ U_)(k:Sw (Z w6.1) U_ U'):OM w6 gT Kr R_ U':=by let⟨T,a,b⟩:=h.7;exact⟨G k.1 h.1,G k.2 h.2,G k.3 h.3,aJ h.4 k.4,h.5,λq q1 q2=>G (k.5 q q1) (h.6 q q1 q2),T,a.of_block<|k.5 _ h.5,b⟩
theorem OM.congr(h:OM w6 gT Kr R_ U_)(e:∀c,c<64*Kr->(R_ c↔R' c)):OM w6 gT Kr R' U_:=by let⟨T,b,d,f⟩:=h.7;exact⟨h.1,h.2,h.3,h.4,h.5,h.6,T,b,d,λc a=>(f c a).trans (e c a)⟩
theorem OM.own(w6 gT Kr){a:Type}(R_:a->Vv):OwnFrom (Z w6.1) (λs U_=>OM w6 gT Kr (R_ s) U_):=λs d U_ row h k q=>by have:=h.4;exact h.far ⟨k.1,k.2,k.3,k.4,λb c=>k.5 b O λe=>by have:=(q b e.symm).1;omega⟩
theorem OM.cell(h:OM w6 gT Kr R_ U_){b o}{v:Uj}(c:b≠gT)(a:E w6 (A b o)=S v):E U_ (A b o)=S v:=G (Xc<|h.6 b (aI w6 _ a) c) a
theorem OM.turn(h:OM w6 gT Kr R_ U_){g}(k:U_.grownBy U' (S gT))(b:Cp U' gT Kr Kr g)(d:XA g)(a:∀c,c<64*Kr->(Xh g c=So↔R' c)):OM w6 gT Kr R' U':=by have f:=h.4;exact⟨G k.1 h.1,G k.2 h.2,G k.3 h.3,aJ h.4 k.4,h.5,λq q1 q2=>G (k.5 q O λe=>q2<|by injection e) (h.6 q q1 q2),g,b,d,a⟩
end
def jn(a:Wc)(l:Wa)(c:N):Prop:=∃v∈l,a[v]?=S (c:I)
theorem VA{z g C W P m}(T){s Kr:N}{k b1 aq w}(Q_:Q (Cp w z g C W))(ce:Q (XA W))(ha:Q (Xf w b1 aq P k))(hx:Q (m=J k))(hB:aq<=Z w.1)(hT:Q (Jn w))(hK:g<=100)(b7:Q (N1 m g W))(hr:s<=2000)(af:Q (Kr=(s+63)/64))(hc:Q (∀c∈k,c=-1\/0<=c/\c<s)):
 Sk prog 133 #[Sa #[Hl z g C],X P m T,H s] w λr n=>∃ab aa,r=Rt (Sa #[Hl ab Kr Kr])/\Z w.1<=ab/\Sw (Z w.1) w n/\Cp n ab Kr Kr aa/\XA aa/\∀c,c<64*Kr->(Xh aa c=So↔jn k (Mq W<|64*g) c):=by
 have HN:=Y λW=>As s W O;simp only[<-af.o]at HN;have cn:Kr<=100:=oN af.o;have ct:s<=64*Kr:=oN af.o;refine(bM (n:=8)).1 ?_;refine callsIn_of_wp_marks func133 R JV ?_ R;simp only[ntmps133,xY,Nat.reduceAdd,Nat.reduceSub];gi_wp2
 have cj:=Q_.lt;have M_:(λf:Ub=>Q (Sw (Z w.1) w f)/\Z w.1+3<=Z f.1/\E f (A (Z w.1) 0)=S (Hl z g C)/\E f (A (Z w.1+1) 0)=S (X P m T)/\Q (f.rowIs (Z w.1+2) 227 1 λ_=>Hq)) (D (D (D w<|Sc #[Hl z g C] 126) (Sc #[X P m T] 23)) (Sc #[Hq] 227)):=⟨Y<|Xb (Xb (Xb Rf _) _) _,sP,SC,SC,(Y (by
  have h:=eK (D (D w<|Sc #[Hl z g C] 126) (Sc #[X P m T] 23)) #[Hq] 227 (λ_=>Hq) (λS_ K=>by match S_,K with|0,_=>rfl)
  rw[aO,aO]at h;exact h))⟩
 generalize D (D (D w _) _) _=w0 at*;let⟨az,cv,c3,c4,a4⟩:=M_;refine⟨JV,(bM.2<|HN w0).mono ?_⟩;rintro r o⟨gT,rfl,cp,V,aj⟩;have cw:=V.4;have d3:=G (XU V O) c3;have d4:=G (XU V O) c4;have a0:=Y<|Xg az V;have a5:=Y<|a4.of_block (V.5 _ O);have a6:=Y aj;have cr:=aj.lt;have e3:=λob=>G (bP o ob (A (Z w.1) 0) (by show Z w.1<_;omega)) d3;clear V aj c3 c4 a4 az;gi_wp2;have M_:(λf:Ub=>Sw (Z o.1) o f/\Z o.1+1<=Z f.1/\E f (A (Z o.1) 0)=S (Hl gT Kr Kr)) (D o<|Sc #[Hl gT Kr Kr] 227):=⟨Xb Rf _,sP,SC⟩;generalize D o _=L at*;let⟨l,cz,c7⟩:=M_;clear e3;refine⟨JV,(FO 7 (S ⟨z,0,U⟩) g C L).mono ?_⟩;rintro r B⟨rfl,u⟩;have ad:Sw (Z L.1) L B:=by rw[u];exact Xb Rf _
 have cx:Z L.1+1<=Z B.1:=by rw[u,aO];exact aA
 have a9:E B (A (Z L.1) 0)=S (Hl z g C):=by rw[u];simp[go_sem]
 have F:=Y<|Xg l ad;have p:=Y<|Xg a0 F;have f4:=G (XU F O) d4;have f7:=G (XU ad O) c7;have bp:=Y<|a5.of_block (F.5 _ O);have bq:=Y<|a6.of_block (F.5 _ O);have b4:(3: N)<Z w.1:=aI w _<|hT 0 vY;have b0:=Y<|Q_.of_block (p.5 z cj);have br:=Y<|hT.of_block (p.5 _ b4);have bl:=Y f4;have a2:=Y f7;have bi:=Y a9;clear l ad u c7 d3 d4 f4 f7 a9;gi_wp2
 have bm:Q (OM B gT Kr (jn k []) B):=Y ⟨R,R,R,aA,oN F.4,λ_ _ _=>R,λ_=>0,⟨aA,λ_=>Hq,bq.congr λS_ K=>by rw[aU K]⟩,KW,λc _=>⟨λh=>by simp[Xh]at h,λh=>by let⟨v,b,_⟩:=h;simp at b⟩⟩;have c8:=F.4;refine wj (F:=Fence.wide) (n:=8) R vY (gf:=203) (lb:=#[Hn (Z L.1)]) R JV (enters_of func203 vZ R) (DS (λq=>q=gT) bi b0 ce br hK (Y O) (Y O)) (λ_ _ _ _ h _ _=>h) (λh ck=>h.trans ck) (λW T_ V_ O_ b a j=>Zf.putObj W T_ V_ O_ b a j) Rf (λ_=>R)
  (λao U_=>OM B gT Kr (jn k ao) U_) (OM.own B gT Kr<|jn k) bm
  (λx a' U_=>a'=⟨#[Sa #[Hl z g C],X P m T,H s,Hn (Z w.1),Hn<|Z w.1+1,Su,Hn<|Z w.1+1+1,Hn (Z o.1),H x,H s,Sa #[Hl gT Kr Kr],Sa #[Hl z g C],.func (.func 203) #[] #[Hn (Z L.1)],H x,Su,Su,Su,Su,Su,Su,Su,Su,Su,Su,Su,Su,Su],[]⟩) (λ_ _ _ _ _ _ h _ _=>h) ?assign ?body ?done
 case assign=>
  intro T_ ao x U_ a7 d hP bc;have e:=Y d;have bo:=Y bc;clear d bc;gi_wp2;exact bo _ _ (KeepsOthers.refl _) (Zf.refl _) e hP R
 case body=>
  rintro T_ ao x a' U_ d hP rfl b6;have e:=Y d;have bh:=om.1 hP;have cf:=b7 x bh.1 bh.2;have al:x<J k:=by rw[<-hx.o];exact cf
  obtain⟨a8,V_,rfl,hb,ba⟩:=ha x al;have e0:=d.cell O<|G (XU p O) ba;have e4:=d.cell O bl;have e7:=d.cell O a2;have co:=hc _<|aH al;have Y_:=Y<|aC al;have ca:=d.4;generalize k[x]=ap at*;have c6:(x:I)<(m:I):=O;clear d ba b6;by_cases hy:ap=-1
  .subst hy;have cg:((-1:I) != -1)=Sn:=vY;gi_wp2;refine⟨KeepsOthers.refl _,Zf.refl _,e.congr λc _=>?_⟩;constructor;·rintro⟨v,b,a⟩;exact⟨v,dD _ b,a⟩
   rintro⟨v,b,a⟩;obtain j|j:=bU.1 b;·exact⟨v,j,a⟩
   rw[cS.1 j,Y_.o]at a;injection a with a;omega
  have cg:(ap != -1)=So:=by rw[jJ];exact hy
  obtain⟨t,rfl⟩:=bX (show 0<=ap by omega);have cd:t<64*Kr:=O;let⟨X_,I_,N_,P_⟩:=e.7;have HX:=Y I_;have bx:=Y N_;have bv:=Y P_;have ar:Q (∀i,Sw (Z U_.1) U_ i->Z U_.1+1<=Z i.1->E i (A (Z U_.1) 0)=S (H t)->Sk prog 179 #[Sa #[Hl gT Kr Kr],Hl (Z U_.1) 1 1] i λr n=>r=Rt (St #[])/\i.grownBy n (S gT)/\Cp n gT Kr Kr (E2 X_ [t])):=Y (λi b a j=>by
   refine AY gT Kr Kr 1 1 X_ (S ⟨Z U_.1,0,U⟩) [t] (Z U_.1) (Z U_.1+1) i (Y λS_ K=>?_) (Y R) vY (Y λz Q_=>by rw[cS.1 Q_];exact cd) O (Y N_) (Y<|I_.of_block (b.5 _ I_.lt)) a (oN e.5);have b5:S_=0:=by simp at K;exact K
   subst b5;exact⟨Z U_.1,0,R,⟨aA,O⟩,j⟩)
  clear I_ N_ P_;gi_wp2;refine Tc (λn=>E n (A (Z o.1) 0)=S (Hl gT Kr Kr)/\E n (A (Z w.1+1) 0)=S (Hm a8 V_ m T)/\E n (A a8<|V_+x)=S (H t)) λig=>?_;refine Yi 0 ?_;refine Yi 1 ?_;refine Yi 2 ?_;refine Yi 3 ?_;refine Yi 4 ?_;refine Yc 5 λa7 hK=>?_;go_simp;have M_:(λf:Ub=>Sw (Z U_.1) U_ f/\Z U_.1+1<=Z f.1/\E f (A (Z U_.1) 0)=S (H t)) ((D U_<|Sc #[H t] 229).drew):=⟨(Xb Rf _).drew,(by simp[World.drew]),SC⟩;generalize (D U_ _).drew=i at*;let⟨l,ch,bd⟩:=M_;have E_:=Y l;have g0:=oB l e0<|aI U_ _ e0;have g4:=oB l e4<|aI U_ _ e4;have g7:=oB l e7<|aI U_ _ e7;have a1:=Y<|ar.o i l ch bd;clear l bd e0 e4 e7;refine hK _ _ ⟨g7,g4,g0⟩ λig=>?_;clear hK;refine Yc 6 λa7 hK=>?_;go_simp;refine⟨JV,(CallsIn.inRound T_<|bM.2 a1).mono ?_⟩;rintro r U3⟨rfl,y,u⟩;have q3:∀(L_ O_:N)(v:Uj),L_≠gT->E i (A L_ O_)=S v->E U3 (A L_ O_)=S v:=λL_ O_ v b a=>G (Xc<|y.5 L_ (aI i _ a) λr=>b<|by injection r) a;have Z_:Q (U_.grownBy U3<|S gT):=Y ⟨G y.1 E_.1,G y.2 E_.2,G y.3 E_.3,aJ E_.4 y.4,λq q1 q2=>G (y.5 q (aX q1 E_.4) q2) (E_.5 q q1)⟩;have bt:=Y u;refine hK _ _ ⟨q3 _ _ _ O g7,q3 _ _ _ O g4,q3 _ _ _ O g0⟩ λig=>?_;clear hK y u q3 g0 g4 g7
  refine ZV ?_;clear ig;gi_wp2;refine⟨Jc Z_ HX.obj,Zg Z_ R ca,e.turn Z_ bt (Zs [t] bx) λc b3=>?_⟩;rw[YR,dI,bv.o c b3,bD,cS];constructor
  .rintro(h|⟨v,b,a⟩);·exact⟨x,fB _<|cS.2 R,by rw[Y_.o,h]⟩
   exact⟨v,dD _ b,a⟩
  rintro⟨v,b,a⟩;obtain j|j:=bU.1 b;·exact aZ ⟨v,j,a⟩
  rw[cS.1 j,Y_.o]at a;injection a with a;exact bC (by have h4:=a;omega)
 rintro M xs U_ hD rfl d bb;have e:=Y d;have a3:=Y bb;have h7:=d.cell O a2;have ac:=bp.of_block<|d.6 (Z w.1+2) O O;have h6:=ac.cell (i:=0) vY;have cl:=ac.frozen 0;have ci:=d.4;clear d bb;have cm:=(aS.1 a3).1;gi_wp2
 have bn:Q ((Se U_ (A (Z w.1+2) 0) (Hl gT Kr Kr)).1[M]?=S (.deferred (S []))):=Y (G (cY<|by show M≠Z w.1+2;omega) a3);have b8:E ((Se U_ (A (Z w.1+2) 0) (Hl gT Kr Kr)).putObj M (.deferred U)) (A (Z w.1+2) 0)=S (Hl gT Kr Kr):=by refine G (bZ (a:=(A (Z w.1+2) 0)) (World.putObj_heap_other<|show Z w.1+2≠M by omega)) ?_;have:=(ac.set 0<|Hl gT Kr Kr).cell (i:=0) vY;simpa using this
 refine YK bn ⟨Sa #[Hl gT Kr Kr],by simp[JC,results133,go_sem,b8],?_⟩;have be:∀q,q≠Z w.1+2->q≠M->((Se U_ (A (Z w.1+2) 0) (Hl gT Kr Kr)).putObj M (.deferred U)).1[q]?=U_.1[q]?:=λq q1 q2=>G (World.putObj_heap_other q2) (cY q1);let⟨X_,I_,N_,P_⟩:=e.7;have cq:=e.5;refine⟨gT,X_,R,O,⟨G e.1 p.1,G e.2 p.2,G e.3 p.3,?_,λq hq=>G (be q O O) (G (e.6 q O O) (p.5 q hq))⟩,I_.of_block<|be gT O O,N_,P_⟩;have cb:=p.4;have bf:=(grownBy_putObj' (Se U_ (A (Z w.1+2) 0) (Hl gT Kr Kr)) M (.deferred U)).4;rw[Xd]at bf;exact aJ cb<|aJ ci bf
end
theorem BC{C}(h:HK w n m k C):Xf w 0 (Z w.1) (S ⟨n,0,U⟩) ((Rg m).map C):=λi a=>by simp only[bK,gI]at a;refine⟨n,0,R,⟨aN,h.lt⟩,?_⟩;simp only[cM,dW,aV];exact h.cell a
theorem CM{C:Ym}(d:∀u∈s,u<n)(c):jn ((Rg n).map C) s c↔∃u∈s,C u=(c:I):=by
 unfold jn;constructor
 .rintro⟨u,a,b⟩;exact⟨u,a,by have:=d u a;simpa [this]using b⟩
 rintro⟨u,a,b⟩;exact⟨u,a,by have:=d u a;simp[this,b]⟩
theorem wQ(h:N1 n m f):∀u∈Mq f (64*m),u<n:=λu a=>by unfold Mq at a;let⟨b,c⟩:=fG.1 a;exact h u (bE.1 b) c
def rB(C:Ym)(l:Wa)(c:N):Prop:=∀a,a < c->∃u∈l,C u=(a:I)
theorem Dl{b U_ C}(hz:Q (Cp w k B g f))(a7:Q (XA f))(X_:Q (Jn w))(hK:B<=100)(ac:Q (N1 m B f))(hV:m<=2000)(z:Q (HK w j m i C))(hc:Q (∀u,u<m->C u=-1\/0<=C u/\C u<m))(s:n<m)(hn:Q (C n=-1))(V_:E w (A b 0)=S (Hl j m i))(h2:E w (A U_ 0)=S (H m))(a1:b≠j):
 Sk prog 142 #[H n,Sa #[Hl k B g],Hn b,Hn U_] w λe w'=>e=Rt (H (Nx C (Mq f<|64*B):I))/\w.grownBy w' (S j)/\HK w' j m i (Nn C (n,Mq f<|64*B)):=by
 let⟨a,W_⟩:∃a,a=(m+63)/64:=⟨_,R⟩;have K_:=Y (λaz (F:Sw (Z w.1) w az)=>VA i (Y<|hz.of_block (F.5 k hz.lt)) a7 (Y<|BC (z.of_block<|F.5 j z.lt)) (Y sP) aA (Y<|X_.of_block (F.5 _<|aI w _ (X_ 0 vY))) hK ac hV (Y W_) (Y (λc hm=>by obtain⟨u,M,rfl⟩:=aY.1 hm;exact hc u<|bE.1 M)))
 have ba:m<=64*a:=O;have bb:a<=100:=O;clear W_;have N_:=Y<|wQ ac;generalize Mq f (64*B)=K at*;have O_:Q (∀c,rB C K c->c<m):=Y λc y=>wI y N_ s hn;have l1:=aI w _ V_;have l2:=aI w _ h2;have a4:=z.lt
 go_in
 go_wp2_with fail
 refine(K_ _<|Xb Rf _).mono ?_;rintro e t⟨r,T,rfl,bf,P,Y_,aa,ab⟩;have bi:Z w.1+1<=Z t.1:=by have:=P.4;simpa using this
 have al:=Y<|Xg (Xb (dC (Z w.1) w) (Sc #[Hl k B g] 126)) P;have R_:=Y Y_;have aq:=Y aa;have M_:=Y λc a2=>(ab c a2).trans (CM N_ c);clear P Y_ aa ab;go_wp2_with fail
 have a0:(λL:Ub=>Q (Sw (Z w.1) w L)/\Q (Cp L r a a T)/\E L (A (Z t.1) 0)=S (Hl r a a)/\Z t.1<Z L.1) (D t<|Sc #[Hl r a a] 227):=⟨Y<|Xb al _,Y<|R_.alloc _,SC,sP⟩;generalize D t _=w2 at*;let⟨l,S_,af,a6⟩:=a0;have ar:=Y af;clear af
 go_loopw [8] (λu wr=>∃c:N,u=H c/\Q (rB C K c)/\Q (Sw (Z w2.1) w2 wr)) λu _=>m-(JB u).toNat
 .exact⟨0,R,Y λx y=>Sz y O,Y<|Rf⟩
 obtain⟨c,rfl,V,o⟩:=hrel;have bd:=O_ c V;have hx:=oB o ar a6;have Z_:=S_.of_block<|o.5 r S_.lt;have p:=Y (A7 r a c T wr aq (Y (by let⟨_,a9,hX⟩:=Z_;exact hX.congr λa8 hi=>by rw[aU hi])) O O)
 have W:=oB o (G (l.cell (p:=A b 0) l1) V_) (by have:=l.4;show b<_;have:b<Z w.1:=l1;omega);have L_:=Y<|(z.of_block<|l.5 j a4).of_block (o.5 j<|oN l.4);clear Z_;cases hh:Xh T c with
 |true=>
  rw[hh]at p;have P_:Q (rB C K<|c+1):=Y (λx y=>by
   by_cases e:x=c
   .subst e;exact(M_ x O).1 hh
   exact V x O)
  have be:=O_ _ P_;clear hh;go_wp2_with fail
  refine YU p λq h=>?_;have d:=Y<|Xg o h;clear h;go_wp2;exact⟨⟨c+1,gM,P_,d⟩,SA⟩
 |false=>
  rw[hh]at p;have ad:Nx C K=c:=ry ⟨λu M e=>by have:=(M_ c O).2 ⟨u,M,e⟩;rw[hh]at this;exact Sz this vY,V⟩
  have Q_:=Y ad;clear hh ad;go_wp2_with fail
  refine YU p λq h=>?_;have a5:=oB h W<|aI wr _ W;have v:=Y<|L_.of_block (h.5 j L_.lt);have d:=Y<|l.trans ((Xg o h).mono l.4);have yc:=v.cell s;have yf:=v.frozen n;clear h W hx;go_wp2_with fail
  have bh:E (Se q (A j n) (H c)) (A b 0)=S (Hl j m i):=G (bH q (A j n) (A b 0) _ (by show j≠b;exact λe=>a1 e.symm)) a5;have a3:=(v.set n c s).cell s;rw[aU R]at a3;have ap:=Y<|v.set n c s;have ao:Q (w.grownBy (Se q (A j n) (H c)) (S j)):=Y ((⟨d.1,d.2,d.3,d.4,λaj H_ _=>d.5 aj H_⟩:w.grownBy q (S j)).trans ⟨R,R,R,SH,λaj _ H_=>cY λe=>H_<|by rw[e]⟩);generalize Se q _ _=w4 at*;go_wp2;go_ret;refine⟨by rw[Q_.o];rfl,ao,ap.congr λa8 _=>?_⟩;unfold Nn;rw[Q_.o]
structure ZH(M:Vv)(U_ U':Ub):Prop where
 os:U'.4=U_.4
 tape:U'.2=U_.2
 output:U'.5=U_.5
 size:Z U_.1<=Z U'.1
 fr:∀q,q<Z U_.1->¬M q->U'.1[q]?=U_.1[q]?
theorem ZH.refl(M b):ZH M b b:=⟨R,R,R,aA,λ_ _ _=>R⟩
theorem ZH.trans(h:ZH d w v)(k:ZH d v u):ZH d w u :=
 ⟨G k.1 h.1,G k.2 h.2,G k.3 h.3,aJ h.4 k.4,λq a b=>G (k.5 q (aX a h.4) b) (h.5 q a b)⟩
theorem ZH.of_below{M}(h:Sw (Z w.1) w v):ZH M w v:=⟨h.1,h.2,h.3,h.4,λq a _=>h.5 q a⟩
theorem ZH.of_grown(h:w.grownBy v (S n))(c:d n):ZH d w v:=⟨h.1,h.2,h.3,h.4,λq a b=>h.5 q a λe=>b<|by injection e with e;rw[e];exact c⟩
theorem ZH.set{M}(h p)(v:Uj)(b:M p.1):ZH M h (Se h p v):=⟨R,R,R,SH,λq _ a=>cY λe=>a<|by rw[e];exact b⟩
theorem ZH.cell(h:ZH d w v){p}(c:¬d p.1)(b:E w p=S a):E v p=S a:=G (bZ<|h.5 _ (aI w _ b) c) b
structure Oy(V cap gp go bo bp bc bv:N)(C:Ym)(U_:Ub):Prop where
 row:HK U_ gp V cap C
 o:HK U_ go V V λu=>if C u=-1 then 0 else C u
 box:U_.rowIs bo 50 3 (OX (Si S6 0) (X (S ⟨go,0,U⟩) V V) (Si S6 (NE C V)))
 Pz:E U_ ⟨bp,0,U⟩=S (.func (.func 142) #[] #[Sj (S ⟨bc,0,U⟩),Sj (S ⟨bv,0,U⟩)])
 cc:E U_ ⟨bc,0,U⟩=S (X (S ⟨gp,0,U⟩) V cap)
 cv:E U_ ⟨bv,0,U⟩=S (Si S6 (V:I))
 rng:∀u,u<V->C u=-1\/0<=C u/\C u<V
 n1:gp≠go
 n2:bo≠gp/\bo≠go
 n3:bp≠gp/\bp≠go/\bp≠bo
 n4:bc≠gp/\bc≠go/\bc≠bo
 n5:bv≠gp/\bv≠go/\bv≠bo
def PJ(b go a q:N):Prop:=q=b\/q=go\/q=a
theorem Oy.far{go C}(h:Oy n m k go B g i j C w)(a:Sw (Z w.1) w v):Oy n m k go B g i j C v :=
 ⟨h.1.of_block<|a.5 _ h.1.lt,h.o.of_block<|a.5 _ h.o.lt,h.3.of_block<|a.5 _ h.3.lt,oB a h.4<|aI w _ h.4,oB a h.5<|aI w _ h.5,oB a h.6<|aI w _ h.6,h.7,h.8,h.9,h.n3,h.n4,h.n5⟩
theorem El{go y P T C}(V:Q (Cp w k B g f))(aa:Q (XA f))(K:Q (Jn w))(hK:B<=100)(L:Q (N1 m B f))(X_:m<=2000)(a:Q (Oy m i j go c y P T C w))(q:n<m)(F:Q (C n=-1)):
 Sk prog 75 #[H n,Sa #[Hl k B g],Hn y,Hn c] w λe W=>e=Rt (St #[])/\ZH (PJ j go c) w W/\Oy m i j go c y P T (Nn C (n,Mq f<|64*B)) W:=by
 have G_:=Y λW_ (o:Sw (Z w.1) w W_)=>Dl (Y<|V.of_block (o.5 k V.lt)) aa (Y<|K.of_block (o.5 _<|aI w _ (K 0 vY))) hK L X_ (Y (a.far o).1) (Y a.7) q F (a.far o).5 (a.far o).6 a.n4.1;have eg:∀args w,(callFunc 142 args).run prog w=.ok (.enter 142 args) w:=enters_of func142 vZ R;have c1:=a.4;have l1:=aI w _ c1;have H_:=Y<|wI (oa C _).2 (wQ L) q F;have V_:Q (∀u,u<m->Nn C (n,Mq f<|64*B) u=-1\/0<=Nn C (n,Mq f<|64*B) u/\Nn C (n,Mq f<|64*B) u<m):=Y (λu Z_=>by
  unfold Nn;by_cases e:u=n
  .rw[aU e]
   right;have:=H_.o;show 0<=((Nx C (Mq f<|64*B):N):I)/\((Nx C (Mq f<|64*B):N):I)<m;omega
  rw[aM e];exact a.7 u Z_)
 have S_:Q (∀u,(λu=>if u=n then (Nx C (Mq f<|64*B):I)else (if C u=-1 then 0 else C u)) u=(λu=>if Nn C (n,Mq f<|64*B) u=-1 then 0 else Nn C (n,Mq f<|64*B) u) u):=Y (λu=>by
  unfold Nn;by_cases e:u=n
  .simp only[e,gG];rw[aM O]
  simp only[e,fD])
 have Q_:Q (NE (Nn C (n,Mq f<|64*B)) m=max (NE C m) ((Nx C (Mq f<|64*B):I)+1)):=Y<|vI (C:=C) (v:=n) F m q;generalize Nn C (n,Mq f<|64*B)=C' at*;generalize Nx C (Mq f<|64*B)=b at*;have aj:=H_.o;have ao:S6.wrap ((b:I)+1)=(b:I)+1:=by rw[dF];omega
 have p:=a.9;have ad:=a.1.lt;have af:=a.o.o.lt;have ac:=a.3.lt
 go_in
 go_wp2_with fail
 have t:Sw (Z w.1) w (D w<|Sc #[Hl k B g] 126):=Xb Rf _;have h:=Y<|a.far t;generalize D w _=w0 at*;refine YU (G_ _ t) λr⟨v,M_⟩=>?_;have P_:Q (ZH (PJ j go c) w r):=Y<|(ZH.of_below t).trans (ZH.of_grown v<|bC R);have T_:=Y M_;have s:=Y (h.3.of_block<|v.5 c h.3.lt λe=>p.1<|by injection e);have x:=Y (h.o.o.of_block<|v.5 go h.o.o.lt λe=>a.8<|by injection e with e;exact e.symm);clear h t v M_ G_ c1 l1;have q1:=s.cell (i:=1) vY;have q2:=s.cell (i:=2) vY;have qf:=s.frozen 2;have y1:=x.cell q;have yf:=x.frozen n;simp only[OX]at q1 q2;have al:(n:I)<m:=O;have s2:E (Se r (A go n) (H b)) (A c 2)=S (H<|NE C m):=G (bH r (A go n) (A c 2) _ (by show go≠c;exact λe=>p.2 e.symm)) q2;have E_:=Y (s.setOther (a:=(A go n)) (by show c≠go;exact p.2) (H b));have R_:=Y ((x.set n b q).congr λu _=>S_ u);have U_:=Y (T_.setOther (a:=(A go n)) (by show j≠go;exact a.8) (H b));have F_:Q (ZH (PJ j go c) w (Se r (A go n) (H b))):=Y<|P_.trans (ZH.set _ _ _<|aZ (bC R));have ap:=E_.frozen 2;generalize NE C m=kc at*;go_wp2
 go_end0
 refine⟨R,F_.trans<|ZH.set _ _ _ (aZ<|aZ R),?_⟩;have hF:=F_.trans<|ZH.set (M:=PJ j go c) (Se r (A go n) (H b)) (A c 2) (H<|max kc ((b:I)+1)) (aZ<|aZ R);have M:∀l,l≠j/\l≠go/\l≠c->¬PJ j go c l:=λl z d=>by
  obtain d|d|d:=d;·exact z.1 d
  .exact z.2.1 d
  exact z.2.2 d
 refine⟨U_.setOther (by show j≠c;exact λe=>p.1 e.symm) _,R_.setOther (by show go≠c;exact λe=>p.2 e.symm) _,(E_.set 2 _).congr λab Y_=>?_,hF.cell (M _ a.n3) a.4,hF.cell (M _ a.n4) a.5,hF.cell (M _ a.n5) a.6,V_,a.8,a.9,a.n3,a.n4,a.n5⟩;rw[Q_.o]
 match ab,Y_ with
 |0,_=>rfl
 |1,_=>rfl
 |2,_=>rfl
theorem Bw(o:n<=2000):
 Sk prog 73 #[H n] w λg e=>∃b c a,g=Rt (.func (.func 142) #[] #[Hn b,Hn c])/\Sw (Z w.1) w e/\Z w.1<=a/\Z w.1<=b/\Z w.1<=c/\b≠a/\c≠a/\HK e a n n (λ_=>-1)/\E e (A b 0)=S (Hl a n n)/\E e (A c 0)=S (H n):=by
 go_in
 go_wp2_with fail
 have h:Sw (Z w.1) w (D (D w<|Sc #[H n] 2) (Sc #[H (-1)] 2)):=Xb (Xb Rf _) _;have i:Z (D (D w<|Sc #[H n] 2) (Sc #[H (-1)] 2)).1=Z w.1+2:=sP;have c0:E (D (D w<|Sc #[H n] 2) (Sc #[H (-1)] 2)) (A (Z w.1) 0)=S (H n):=SC
 have c1:E (D (D w<|Sc #[H n] 2) (Sc #[H (-1)] 2)) (A (Z w.1+1) 0)=S (H (-1)):=SC
 refine(vb (Z w.1+1) n _ o c1 sP).mono ?_;rintro g j⟨m,rfl,p,d,f⟩;rw[i]at p;have k:=Y<|Xg h d;have l:=Y f;have q:=G (XU d O) c0;have s:Z w.1+2<=Z j.1:=oN d.4;have r:=f.lt;go_wp2;go_ret;exact⟨Z j.1,Z w.1,m,R,Xb k _,O,O,aA,O,O,HK.of_row<|l.alloc _,SC,G (bP _ _ _<|by show Z w.1<_;omega) q⟩
def J3(k:N):Code->Option Code
 |.seq x y=>match J3 k x with
  |some c=>S c
  |none=>J3 k y
 |.block i c=>if i=k then S c else J3 k c
 |.scope c=>J3 k c
 |.loop c=>J3 k c
 |.cond _ x y=>match J3 k x with
  |some c=>S c
  |none=>J3 k y
 |_=>U
noncomputable def QH:Code:=(f74.9.bind<|J3 4).getD .skip
noncomputable def QF:Code:=(f74.9.bind<|J3 6).getD .skip
theorem ZH.drew(h:ZH d w v):ZH d w v.drew:=h.trans<|ZH.of_below (Rf).drew
theorem F8(bs t p r C x u s b pc z f L T M)(e:N->Vy)(c){F:Yt}{ds}{c0 c2 c3 c4 c5 c9 K V cw W P R_ S_ T_ V_ W_ X_ Y_ Z_ aa ab ac ad af aj al ao ap aq ar az a0 a1 a2 a3 a4 a5 a6 a7:Uj}(a8 a9 ba bb bc bd be bf bh cx c6 c7 c8 da db dc df di dj dk bi bl bm bn bq br bt bv bx b0 b1 b3 b4 b5 b6 b7 b8 ca cb cc cd ce cf cg ch:Uj)(hQ:Q (∀c_ (J_:Act) t_ v w,F (.panic c_) (J_.put (S t_) v) w->F (.panic c_) J_ w))(eo:Q (Jw c L T z f))(en:Q (b=J f))(es:b<=4000)(hM:Q (∀q,L<=q->q<T->¬M q))(ck:Q (¬M bs))(hG:Q (¬M t))(ek:Q (∀q,M q->q<Z c.1))(k:E c (A bs 0)=S (Hl t (p+1) (p+1)))(l:E c (A t 0)=S (Hl C r x))(hJ:Q (∀i d g,e i d->Sw (Z d.1) d g->e i g))(ep:Q (∀i (cj:i<J f) d,ZH M c d->e i d->Sk prog 75 #[H f[i].1,Sa #[Hl C r x],Hn u,Hn s] d λci g=>ci=Rt (St #[])/\ZH M d g/\e (i+1) g))(h0:Q (e 0 c))(hN:Q (∀(dn du dw dz ea eb ec ed ee ef ei ej:Uj)(d:Ub),ZH M c d->e b d->F (.exit 4) ⟨#[c0,.func (.func 75) #[] #[Hn u,Hn s],c2,c3,c4,c5,a,A_,Hn bs,c9,K,V,dn,W,P,R_,S_,T_,V_,W_,X_,Y_,Z_,aa,ab,ac,ad,af,aj,al,ao,ap,aq,ar,az,a0,a1,a2,a3,a4,a5,a6,a7,a8,a9,ba,bb,bc,bd,be,bf,bh,X z b pc,H b,H b,du,dw,dz,ea,eb,ec,ed,ee,ef,ei,ej,bi,bl,bm,bn,bq,br,bt,bv,bx,b0,b1,b3,b4,b5,b6,b7,b8,ca,cb,cc,cd,ce,cf,cg,ch],ds⟩ d)):
 Code.wp prog QH F ⟨#[c0,.func (.func 75) #[] #[Hn u,Hn s],c2,c3,c4,c5,a,A_,Hn bs,c9,K,V,cw,W,P,R_,S_,T_,V_,W_,X_,Y_,Z_,aa,ab,ac,ad,af,aj,al,ao,ap,aq,ar,az,a0,a1,a2,a3,a4,a5,a6,a7,a8,a9,ba,bb,bc,bd,be,bf,bh,X z b pc,H b,H 0,cx,c6,c7,c8,da,db,dc,df,di,dj,dk,bi,bl,bm,bn,bq,br,bt,bv,bx,b0,b1,b3,b4,b5,b6,b7,b8,ca,cb,cc,cd,ce,cf,cg,ch],ds⟩ c:=by
 conv=>arg 2;whnf
 dsimp only;have eg:∀args w,(callFunc 75 args).run prog w=.ok (.enter 75 args) w:=enters_of func75 vZ R;have cs:=Y k;have ct:=Y l
 go_loopw [54] (λi wx=>∃y:N,y<=b/\i=H y/\Q (ZH M c wx)/\Q (e y wx)) λi _=>b-(JB i).toNat
 .exact⟨0,aN,R,Y<|ZH.refl _ _,h0⟩
 obtain⟨i,hi,rfl,h,F_⟩:=hrel;by_cases em:i<b
 .have cl:i<J f:=by rw[<-en.o];exact em
  obtain⟨pb,po,rfl,o,cn,co,d0,d1,_⟩:=eo.o i cl;have e0:=h.cell (hM.o pb o.1 o.2) d0;have e1:=h.cell (hM.o pb o.1 o.2) d1;have I_:=Y<|ep.o i cl;generalize f[i].1=n at*;generalize J f[i].2=dl at*;have er:(i:I)<b:=O;have E_:Q (Sw (Z wr.1) wr<|D wr (Sc #[H n,X cn dl co] 83)):=Y<|Xb Rf _;have m:=Y<|h.trans (ZH.of_below E_.o);have cr:=Y<|hJ.o _ _ _ F_.o E_.o;have x0:E (D wr<|Sc #[H n,X cn dl co] 83) (A (Z wr.1) 0)=S (H n):=SC
  have cv:Q (¬M (Z wr.1)):=Y (λcj=>by have:=ek.o _ cj;have:=h.4;omega);go_wp2_with fail
  generalize D wr _=w5 at*;generalize Z wr.1=xb at*;have k:=m.cell ck.o cs.o;have l:=m.cell hG.o ct.o;have H_:=Y<|I_.o w5.drew m.drew (hJ.o _ _ _ cr.o (Rf).drew);refine Y7 (λB=>E B (A xb 0)=S (H n)/\E B (A bs 0)=S (Hl t (p+1) (p+1))/\E B (A t 0)=S (Hl C r x)) λig=>?_;refine X0 0 ?_;refine X0 1 ?_;refine X0 2 ?_;refine X0 3 ?_;refine X0 4 ?_;refine X0 5 ?_;refine Xs 6 λeq hK=>?_;go_simp;refine YU H_ λw6⟨j,cm⟩=>?_;have cp:=Y<|m.drew.trans j;have cq:=Y cm;refine hK _ _ ⟨j.cell cv.o x0,j.cell ck.o k,j.cell hG.o l⟩ λig=>?_;refine Yq ?_;go_wp2;exact⟨⟨i+1,O,gM,cp,cq⟩,SA⟩
 have el:i=b:=O;subst el;go_wp2_with fail
 exact hN.o _ _ _ _ _ _ _ _ _ _ _ _ _ h.o F_.o
theorem F6(bs P X_ T V c ic)(zs cw:Wk)(L f Y_ P_ M)(d:N->Vy)(x){Z_:Yt}{ds}{c0 c2 c3 c4 c5 c9 aa ab ac c7 c8 ad dc af aj al ao ap aq ar az a0 a1 a2 a3 a4 a5 a6 a7 a8 a9 ba bb bc bd be bf bh bi bl:Uj}(bm bn bq br bt bv bx b0 b1 b3 b4 b5 b6 b7 b8 ca cb cc cd ce cf cg ch df dj dk dl dn du dw dz ea eb ec ed ee ef ei ej ek el em en ci:Uj)(f0:Q (YY x Y_ P_ L f))(f7:Q (c=J f))(gp:c<=4000)(hM:Q (∀W,Y_<=W->W<P_->¬M W))(fz:Q (¬M bs))(hG:Q (¬M P))(F:E x (A bs 0)=S (Hl P (c+1) (c+1)))(sg:Q (∀i,i<=c->E x (A P i)=S (Hl (zs i) X_ (cw i))))(gd:Q (∀K∈f,1<=K.1/\K.1<=13))(fx:Q (∀b,ZH M x b->Yy b))(hJ:Q (∀i b m,d i b->Sw (Z b.1) b m->d i m))(ge:Q (∀i (fs:i<J f),dB f[i].1=So->∀b,ZH M x b->d i b->Sk prog 75 #[H f[i].2,Sa #[Hl (zs<|i+1) X_ (cw<|i+1)],Hn T,Hn V] b λs m=>s=Rt (St #[])/\ZH M b m/\d (i+1) m))(ga:Q (∀i (fs:i<J f),dB f[i].1=Sn->∀b,d i b->d (i+1) b))(h0:Q (d 0 x))(hN:Q (∀(eo ep eq er es et eu ev ey ez e7 e8 e9 fa fb fc fe fi fj fl fn fq fr:Uj)(b:Ub),ZH M x b->d c b->Z_ (.exit 6) ⟨#[c0,.func (.func 75) #[] #[Hn T,Hn V],c2,c3,c4,c5,a,A_,Hn bs,c9,aa,ab,ac,eo,ep,ad,eq,af,aj,al,ao,ap,aq,ar,az,a0,a1,a2,a3,a4,a5,a6,a7,a8,a9,ba,bb,bc,bd,be,bf,bh,bi,bl,bm,bn,bq,br,bt,bv,bx,b0,b1,b3,b4,b5,b6,b7,b8,ca,cb,cc,cd,ce,cf,cg,ch,X L c ic,H c,H c,er,es,et,eu,ev,ey,ez,e7,e8,e9,fa,fb,fc,fe,fi,fj,fl,fn,fq,fr,ci],ds⟩ b)):
 Code.wp prog QF Z_ ⟨#[c0,.func (.func 75) #[] #[Hn T,Hn V],c2,c3,c4,c5,a,A_,Hn bs,c9,aa,ab,ac,c7,c8,ad,dc,af,aj,al,ao,ap,aq,ar,az,a0,a1,a2,a3,a4,a5,a6,a7,a8,a9,ba,bb,bc,bd,be,bf,bh,bi,bl,bm,bn,bq,br,bt,bv,bx,b0,b1,b3,b4,b5,b6,b7,b8,ca,cb,cc,cd,ce,cf,cg,ch,X L c ic,H c,H 0,df,dj,dk,dl,dn,du,dw,dz,ea,eb,ec,ed,ee,ef,ei,ej,ek,el,em,en,ci],ds⟩ x:=by
 conv=>arg 2;whnf
 dsimp only;have eg:∀args cn,(callFunc 75 args).run prog cn=.ok (.enter 75 args) cn:=enters_of func75 vZ R;have cz:=Y F;clear F
 go_loopw [69] (λi e=>∃K_:N,K_<=c/\i=H K_/\Q (ZH M x e)/\Q (d K_ e)) λi _=>c-(JB i).toNat
 .exact⟨0,aN,R,Y<|ZH.refl _ _,h0⟩
 obtain⟨i,hi,rfl,j,T_⟩:=hrel;by_cases f6:i<c;rotate_left
 .have f4:i=c:=O;subst f4;go_wp2_with fail
  exact hN.o _ _ _ _ _ _ _ _ _ _ _ _ _ _ _ _ _ _ _ _ _ _ _ _ j.o T_.o
 have B:i<J f:=by rw[<-f7.o];exact f6
 obtain⟨pb,po,rfl,cm,d0,d1,d2,d3,d4⟩:=f0.o i B;have u:=hM.o pb cm.1 cm.2;have e0:=j.cell u d0;have e1:=j.cell u d1;have e2:=j.cell u d2;have e3:=j.cell u d3;have e4:=j.cell u d4;have gb:=gd.o _<|aH B;have x_:=Y<|ge.o i B;have w:=Y<|ga.o i B;generalize f[i]=K at*;let⟨op,h,p,q,r⟩:=K;simp only at e0 e1 e2 e3 e4 gb x_ w;let⟨v,f5⟩:=bX (show 0<=op by omega);subst f5;have gh:(i:I)<c:=O;clear d0 d1 d2 d3 d4;have F_:Q (Sw (Z wr.1) wr<|D wr (Sc #[H v,H h,H p,H q,H r] 62)):=Y<|Xb Rf _;have R_:=Y<|j.trans (ZH.of_below F_.o);have cs:=Y<|hJ.o _ _ _ T_.o F_.o;have S_:Q (Jk (D wr<|Sc #[H v,H h,H p,H q,H r] 62) (Z wr.1) 0 ⟨v,h,p,q,r⟩):=Y ⟨SC,SC,SC,SC,SC⟩;go_wp2_with fail
 generalize (D wr _)=O_ at*;generalize Z wr.1=xb at*;have W_:=Y<|UH xb h p q r O_ S_ O O (Y<|fx.o _ R_.o);clear e0 e1 e2 e3 e4;refine W_.mono ?_;rintro s w6⟨v6,rfl,z,C⟩;have Q_:=Y<|R_.trans (ZH.of_below z);have V_:=Y<|hJ.o _ _ _ cs.o z;cases hu:dB (v:I)with
 |false=>
  let⟨av,o,y,_⟩:=Xk C;rw[show J (BW ⟨(v:I),h,p,q,r⟩)=0 by unfold BW;rw[hu];rfl]at y;subst y;have ct:=Y<|w.o hu;clear hu z C;go_wp2_with fail
  generalize wr=wv at*
  go_loopw [76] (λl e=>l=H 0/\Q (ZH M x e)/\Q (d i e)) λ_ _=>0
  .exact⟨R,Q_,V_⟩
  obtain⟨rfl,g,n⟩:=hrel;go_wp2;exact⟨⟨i+1,O,gM,g,Y<|ct.o _ n.o⟩,SA⟩
 |true=>
  have t:Sx w6 (Z O_.1) 2 1 v6 1 [H h]:=by have:=C;unfold BW at this;rw[hu]at this;exact this
  let⟨k,o,y,gg,cj⟩:∃k o,v6=Hl k 1 o/\Z O_.1<=k/\w6.cell? (A k 0)=S (H h):=by let⟨k,o,s,J_,_⟩:=Xm t O;subst s;exact⟨k,o,R,J_.1,Jj t R⟩
  subst y;have cp:=Y cj;have c6:=Y λb t J_=>x_.o hu b t J_;clear hu z C t cj;go_wp2_with fail
  generalize wr=wv at*
  go_loopw [76] (λl e=>(l=H 0/\Q (ZH M x e)/\Q (d i e)/\Q (E e (A k 0)=S (H h)))\/(l=H 1/\Q (ZH M x e)/\Q (d (i+1) e))) λl _=>1-(JB l).toNat
  .exact bC ⟨R,Q_,V_,cp⟩
  obtain⟨rfl,g,n,HCx⟩|⟨rfl,g,n⟩:=hrel
  .have F:=g.cell fz.o cz.o;have gf:=g.cell hG.o<|sg.o (i+1) O;have cx:=HCx.o;have gq:S6.wrap ((i:I)+1)=(i:I)+1:=by rw[dF];omega
   have gi:0<=(i:I)+1:=O;have gl:(i:I)+1<(c:I)+1:=O;have co:=Y<|c6.o wr g.o n.o;go_wp2_with fail
   refine YU co λw7⟨ck,cl⟩=>?_;have cq:=Y<|g.trans ck;have cr:=Y cl;clear ck cl F gf cx;go_wp2_with fail
   exact⟨aZ ⟨gM,cq,cr⟩,SL⟩
  go_wp2;exact⟨⟨i+1,O,gM,g,n⟩,SA⟩
section
structure Nz(V:N)(w6:Ub)(G_ m Kw z:N)(pre:List Sd)(U_:Ub):Prop where
 os:U_.4=w6.4
 tape:U_.2=w6.2
 output:U_.5=w6.5
 size:Z w6.1<=Z U_.1
 fr:∀q,q<Z w6.1->q≠G_->U_.1[q]?=w6.1[q]?
 zl:Z w6.1<=z/\z<Z U_.1
 gl:G_<Z w6.1
 db:∃T:Vu,U_.rowIs G_ 126 m T/\∀i,i<m->(∀q∈pre,q.i≠i)\/∃q∈pre,q.i=i/\(XA q.W/\N1 V Kw q.W)/\∃zi ci,T i=X (S ⟨zi,0,U⟩) Kw ci/\(Z w6.1<=zi/\zi≠z)/\Cp U_ zi Kw ci q.W
section
variable{V:N}{w6 U_ U' U5:Ub}{G_ m Kw z:N}{pre:List Sd}
theorem Cp.cells{w g K C W}(h:Cp w g K C W):∃o,w.1[g]?=S o/\o.isCells=So:=by let⟨_,T,c,a,_⟩:=h;exact⟨_,a,R⟩
theorem Nz.row(h:Nz V w6 G_ m Kw z pre U_){r}(t:Z w6.1<=r)(k:U_.grownBy U' (S r))(b:r=z\/∃o:Obj,U_.1[r]?=S o/\o.isCells=Sn):Nz V w6 G_ m Kw z pre U':=by
 let⟨T,c,i⟩:=h.8;have j:=h.7;refine⟨G k.1 h.1,G k.2 h.2,G k.3 h.3,aJ h.4 k.4,λq q1 q2=>G (k.5 q (oN h.4) λe=>by injection e with e;omega) (h.5 q q1 q2),⟨h.6.1,aX h.6.2 k.4⟩,j,T,c.of_block (k.5 G_ c.lt λe=>by injection e with e;omega),λn l=>?_⟩;obtain e|⟨q,q1,q2,q3,f,g,e1,e2,e3⟩:=i n l;·exact bC e
 refine aZ ⟨q,q1,q2,q3,f,g,e1,e2,e3.of_block<|k.5 f e3.lt λe=>?_⟩;injection e with e;obtain b|⟨o,p,s⟩:=b;·exact e2.2 (e▸b)
 let⟨u,a,d⟩:=e3.cells;rw[e,p]at a;injection a with a;subst a;rw[s]at d;cases d
theorem Nz.below(h:Nz V w6 G_ m Kw z pre U_)(k:Sw (Z U_.1) U_ U'):Nz V w6 G_ m Kw z pre U':=by
 let⟨T,a,d⟩:=h.8;refine⟨G k.1 h.1,G k.2 h.2,G k.3 h.3,aJ h.4 k.4,λq q1 q2=>G (k.5 q<|oN h.4) (h.5 q q1 q2),⟨h.6.1,aX h.6.2 k.4⟩,h.7,T,a.of_block<|k.5 G_ a.lt,λi f=>?_⟩;obtain e|⟨q,q1,q2,q3,b,c,e1,e2,e3⟩:=d i f;·exact bC e
 exact aZ ⟨q,q1,q2,q3,b,c,e1,e2,e3.of_block<|k.5 b e3.lt⟩
theorem Nz.turn(h:Nz V w6 G_ m Kw z pre U_)(k:U_.grownBy U' (S z)):Nz V w6 G_ m Kw z pre U':=h.row h.6.1 k<|bC R
theorem Nz.own(V w6 G_ m Kw z):OwnFrom (Z w6.1) (Nz V w6 G_ m Kw z):=λpre U_ U' row h k q=>by
 cases row with
 |none=>exact h.below ⟨k.1,k.2,k.3,k.4,λb f=>k.5 b f λe=>by cases e⟩
 |some r=>
  let⟨a,o,c,d⟩:=q r R;exact h.row a k<|aZ ⟨o,c,d⟩
theorem Nz.push(h:Nz V w6 G_ m Kw z pre U_){s}(n:XA s.W/\N1 V Kw s.W)(p:Sw (Z U_.1) U_ U5){b c}(t:Z U_.1<=b)(o:Cp U5 b Kw c s.W):Nz V w6 G_ m Kw z (pre++[s]) (Se U5 ⟨G_,s.i,U⟩ (X (S ⟨b,0,U⟩) Kw c)):=by
 have a:=h.below p;let⟨T,g,j⟩:=a.8;have k:=h.7;have r:=h.4;have u:=h.6;refine⟨a.1,a.2,a.3,by rw[Xd];exact a.4,λq q1 q2=>G (cY q2) (a.5 q q1 q2),⟨a.6.1,by rw[Xd];exact a.6.2⟩,k,λi=>if i=s.i then Hl b Kw c else T i,(g.set s.i _).congr (λi _=>by by_cases e:i=s.i<;>simp[e]),λi l=>?_⟩;by_cases e:i=s.i;·refine aZ ⟨s,sP,e.symm,n,b,c,by simp only[e,gG],⟨O,O⟩,o.setOther (by show b≠G_;omega) _⟩
 obtain e1|⟨q,q1,q2,q3,d,f,e1,e2,e3⟩:=j i l
 .refine bC λq hq=>?_;obtain hq|hq:=bU.1 hq;·exact e1 q hq
  rw[cS.1 hq];exact λe3=>e e3.symm
 exact aZ ⟨q,dD _ q1,q2,q3,d,f,by simp only[e,fD];exact e1,e2,e3.setOther (by show d≠G_;omega) _⟩
theorem Nz.cell(h:Nz V w6 G_ m Kw z pre U_){b o}{v:Uj}(c:b≠G_)(a:E w6 (A b o)=S v):E U_ (A b o)=S v:=G (Xc<|h.5 b (aI w6 _ a) c) a
theorem Nz.done{a}(B:Jy V a){k}(x:k<J a){c}(w:V<=64*Kw)(hq:∀v,v<64*Kw->(Xh c v=So↔UV a v k)){r:List Sd}(p:r.map Sd.dat=TZ (J a[k].2) c (NS a[k]))(h:Nz V w6 G_ (J a[k].2+1) Kw z r U_):
 ∃(l n:Wk)(e:Vp),∀i,i<=J a[k].2->E U_ (A G_ i)=S (Hl (l i) Kw (n i))/\Z w6.1<=l i/\Cp U_ (l i) Kw (n i) (e i)/\XA (e i)/\N1 V Kw (e i)/\Mq (e i) (64*Kw)=Uq a a[k] V k i:=by
 let⟨T,t,u⟩:=h.8;have g:∀i,∃b f d,i<=J a[k].2->E U_ (A G_ i)=S (Hl b Kw f)/\Z w6.1<=b/\Cp U_ b Kw f d/\XA d/\N1 V Kw d/\Mq d (64*Kw)=Uq a a[k] V k i:=λi=>by
  by_cases j:i<=J a[k].2
  .rcases u i O with s|⟨q,q1,q2,q3,b,f,e1,e2,e3⟩
   .let⟨W,o⟩:=FW a[k] c (i:=i) O;rw[<-p]at o;let⟨q,q1,q2⟩:=aY.1 o;exact Sz (fI Prod.fst q2) (s q q1)
   refine⟨b,f,q.W,λ_=>⟨by rw[t.cell O,e1],e2.1,e3,q3.1,q3.2,?_⟩⟩
   have y:(i,q.W)∈TZ (J a[k].2) c (NS a[k]):=by rw[<-p,<-q2];exact aY.2 ⟨q,q1,R⟩
   rw[wW B x w hq y]
  exact⟨0,0,λ_=>0,λh=>Sz h j⟩
 refine⟨λi=>Classical.choose<|g i,λi=>Classical.choose<|gJ (g i),λi=>Classical.choose<|gJ (gJ<|g i),λi j=>gJ (gJ<|gJ (g i)) j⟩
end
theorem vO{b:Wi}{V}{a:Wa}{k}(g:k<J a)(d:a[k]<J b):∃f,Ko b V a=Ko b V (a.take k)++(Ni b V a[k] b[a[k]] (J b[a[k]].1)++VC b V a[k] b[a[k]] (J b[a[k]].2))++f:=by
 have e:a=a.take k++a[k]::a.drop (k+1):=by rw[mO,hH]
 refine⟨Ko b V<|a.drop (k+1),?_⟩;have c:OV b V a[k]=Ni b V a[k] b[a[k]] (J b[a[k]].1)++VC b V a[k] b[a[k]] (J b[a[k]].2):=by unfold OV;rw[aC d]
 rw[<-c];unfold Ko
 conv=>lhs;rw[e]
 rw[eZ,jF,vv]
theorem Fm{xs V b x i}(a:i<J x.1):∃r,Ni xs V b x (J x.1)=Ni xs V b x i++(x.1[i].1.toNat,Uq xs x V b 0)::r:=by
 refine⟨(x.1.drop<|i+1).map λp=>(p.1.toNat,Uq xs x V b 0),?_⟩;have e:x.1=x.1.take i++x.1[i]::x.1.drop (i+1):=by rw[mO,hH]
 unfold Ni;rw[gC]
 conv=>lhs;rw[e]
 rw[bG,eH]
theorem we{xs:Wi}{V b x}:∀(m i:N),∃r,VC xs V b x (i+m)=VC xs V b x i++r
 |0,i=>⟨[],sP⟩
 |m+1,i=>by obtain⟨r,a⟩:=we (xs:=xs) (V:=V) (b:=b) (x:=x) m i;rw[<-zZ,VC,a];exact⟨_,vv _ _ _⟩
theorem Gg{xs:Wi}{V}{a:Wa}{k}(d:k<J a)(b:a[k]<J xs){i}(c:i<J xs[a[k]].1):∃g,Ko xs V a=(Ko xs V (a.take k)++Ni xs V a[k] xs[a[k]] i)++(xs[a[k]].1[i].1.toNat,Uq xs xs[a[k]] V a[k] 0)::g:=by let⟨e,e1⟩:=vO (V:=V) d b;let⟨f,e2⟩:=Fm (xs:=xs) (V:=V) (b:=a[k]) c;rw[e1,e2];exact⟨f++VC xs V a[k] xs[a[k]] (J xs[a[k]].2)++e,by simp⟩
theorem Gq{xs:Wi}{V}{a:Wa}{k}(f:k<J a)(b:a[k]<J xs){i d:N}(e:i<J xs[a[k]].2)(g:dB xs[a[k]].2[i].1=So)(c:xs[a[k]].2[i].2=(d:I)):∃l,Ko xs V a=(Ko xs V (a.take k)++Ni xs V a[k] xs[a[k]] (J xs[a[k]].1)++VC xs V a[k] xs[a[k]] i)++(d,Uq xs xs[a[k]] V a[k] (i+1))::l:=by let⟨h,e1⟩:=vO (V:=V) f b;let⟨j,e2⟩:=we (xs:=xs) (V:=V) (b:=a[k]) (x:=xs[a[k]]) (J xs[a[k]].2-(i+1)) (i+1);rw[show i+1+(J xs[a[k]].2-(i+1))=J xs[a[k]].2 by omega,q9 e g c]at e2;rw[e1,e2];exact⟨j++h,by simp⟩
theorem EL{xs:Wi}{V}{a:Wa}{k}(c:k<J a)(b:a[k]<J xs):Ko xs V (a.take<|k+1)=Ko xs V (a.take k)++Ni xs V a[k] xs[a[k]] (J xs[a[k]].1)++VC xs V a[k] xs[a[k]] (J xs[a[k]].2):=by rw[kJ,aC c];show Ko xs V (a.take k++[a[k]])=_;rw[qT];unfold OV;rw[aC b,vv]
end
section
attribute [local go_sem] Oper.semAt_some
structure QA(w3 wr:Ub)(M:Vv)(J_:List (N×Wa)->Vy)(ss:List (N×Wa))(ds:Wa):Prop where
 fr:ZH M w3 wr
 j:J_ ss wr
 O7:ZJ wr (Z w3.1) ds
theorem E6(h:ZJ w n s)(k:ZH d w v)(b:∀q,d q->q<n):ZJ v n s :=
 ⟨h.1,h.2,λc a=>G (k.5 c (aS.1<|h.3 c a).1 λe=>by have:=b c e;have:=h.2 c a;omega) (h.3 c a)⟩
theorem Dx(h:ZJ w n s)(b:n<=m)(c:m∉s)(d:w.1[m]?=S (.deferred (S []))):ZJ w n (m::s) :=
 ⟨fL.2 ⟨c,h.1⟩,λk a=>by
  obtain rfl|a:=cH.1 a;·exact b
  .exact h.2 k a,λk a=>by
  obtain rfl|a:=cH.1 a;·exact d
  exact h.3 k a⟩
theorem tF{F n}{P:Yh}{b}{R_:Ending->Vy}{t t':Zh}(c:JC b t=JC b t'):∀a:List Deferred,LeavesInM F n P b t R_ a=LeavesInM F n P b t' R_ a
 |[]=>by funext u w;cases u<;>simp only[LeavesInM,LeavesIn,c]
 |d::a=>by have e:=tF (F:=F) (n:=n) (P:=P) (R_:=R_) c a;funext u w;unfold LeavesInM;rw[e]
theorem F7{g}(b:N->Wa->Vu->Act)(h:N->Wa->Prop)(k a)(e:k<=n)(d:g=b k a λi=>g.1.getD i Su)(c:h k a):∃(k:N)(a:Wa)(f:Vu),k<=n/\g=b k a f/\h k a:=⟨k,a,_,e,d,c⟩
theorem Ef(c bp bo M)(Q_:List (N×Wa)->Vy)(ha:Q (Xp w k B p x))(hx:Q (m=J x))(hs:Q (J x+Xx x<=1048576))(hB:B<=Z w.1)(hO:Q (Yy w))(hT:Q (Yb w))(ej:Q (Jn w))(hv:Q (XJ ⟨(n:I),x⟩=So))(T:Q (Jy n x))(R_:Q (YX (X8 x) m l))(cg:Q (∀q,M q->q<Z w.1))(bf:Q (∀q,k<=q->q<B->¬M q))(ch:Q (¬M 2/\¬M 1/\¬M 3))(hJ:Q (∀ss L L_,Q_ ss L->(∀q,q<Z w.1->q<Z L.1->L_.1[q]?=L.1[q]?)->Q_ ss L_))(cp:Q (∀(b0:List (N×Wa))(v:N)(bv:Wa)(bx:List (N×Wa))(L:Ub)(z b Cz:N)(W:Wk),Ko x n (XT l m 0)=b0++(v,bv)::bx->Q_ b0 L->Cp L z b Cz W->XA W->N1 n b W->b<=100->Mq W (64*b)=bv->Jn L->Sk prog 75 #[H v,Sa #[Hl z b Cz],Hn bp,Hn bo] L λo L_=>o=Rt (St #[])/\ZH M L L_/\Q_ (b0++[(v,bv)]) L_))(h0:Q (Q_ [] w)):
 Sk prog 74 #[Sa #[H n,X p m c],.func (.func 75) #[] #[Hn bp,Hn bo]] w λo F=>o=Rt (St #[])/\ZH M w F/\Q_ (Ko x n<|XT l m 0) F:=by
 have hn:m<=1000:=oP hx.o T.1.2;have b7:=Y λW (y:Sw (Z w.1) w W)=>KO n p m c x k B W (Y<|ha.keep (y.mono hB)) hx (oN y.4) T (Y<|hO.keep y hO.1) (Y<|hT.keep y hT.1);have cs:=Y λW (y:Sw (Z w.1) w W)=>AO c (Y<|ha.keep (y.mono hB)) hx hs (oN y.4) (Y (hO.keep y hO.1).old) (Y (hT.keep y hT.1).old) hv;let⟨b,eq⟩:∃q,q=(n+63)/64:=⟨_,R⟩;simp only[<-eq]at b7;have hV:=T.2;have cf:b<=100:=O;have ek:n<=64*b:=O;clear eq;refine(bM (n:=9)).1 ?_;refine callsIn_of_wp_marks func74 R JV ?_ R;simp only[ntmps74,xY,Nat.reduceAdd,Nat.reduceSub];gi_wp2;have be:(λV:Ub=>Sw (Z w.1) w V/\Z w.1<Z V.1/\E V (A (Z w.1) 0)=S (H n)/\E V (A (Z w.1) 1)=S (X p m c)) (D w<|Sc #[H n,X p m c] 45):=⟨Xb Rf _,sP,SC,SC⟩;generalize D w _=w0 at*;let⟨cj,et,k0,k1⟩:=be;refine⟨JV,(bM.2<|b7 _ cj).mono ?_⟩;rintro o K_⟨Gi,O_,gi,go,ci,WI,WX,rfl,hR⟩;have HR:=Y hR;have bh:=hR.1;have e0:=bh.4;have g0:=oB bh k0 et;have g1:=oB bh k1 et;have ct:=Y<|Xg cj bh;have g9:Z w0.1<=O_/\O_<Z K_.1:=⟨hR.6.2,hR.3.1.lt⟩;have lr:Z w.1<Z K_.1:=O;clear cj hR bh k0 k1;gi_wp2
 have be:(λV:Ub=>Sw (Z K_.1) K_ V/\Z V.1=Z K_.1+1/\E V (A (Z K_.1) 1)=S (Hl O_ m m)) (D K_<|Sc #[Hl Gi m m,Hl O_ m m] 129):=⟨Xb Rf _,sP,SC⟩;generalize D K_ _=w2 at*;let⟨V_,bt,q1⟩:=be;have u1:=G (XU V_ O) g1;have b6:=Y<|Xg ct V_;have cc:=Y λe (y:e<m)=>(HR.3.2 e y).of_block (V_.5 _ (HR.3.2 e y).lt);have cb:=Y<|HR.3.1.of_block (V_.5 _ g9.2);refine⟨JV,(bM.2<|cs _ b6).mono ?_⟩;rintro o w3⟨U3,P3,a1,c1,a2,c2,a3,a4,c4,rfl,aj,eg,ea⟩;have he:=vK eg R_;subst he;have lu:=aj.4;have P_:=Y<|Xg b6 aj;have b3:=Y ea.5;let⟨d,ba⟩:∃d,d=XT P3 m 0:=⟨_,R⟩;rw[<-ba]at b3 cp;rw[<-ba];have gq:Q (∀aa∈d,aa<m):=Y (by rw[ba];exact λaa hy=>(by rw[hx.o];exact T.1.re aa (Ji R_ m 0 aa (Re.root) hy).2));have hp:J d<=1000:=by have r:=o9 R_ (λaa hw=>by rw[hx.o];exact T.1.re aa hw) m Re.root;rw[ba];omega
 have ge:=Y ba;let⟨J_,hm⟩:∃J_,J_=J d:=⟨_,R⟩;rw[<-hm]at hp;have HM:=Y hm;have gd:Q (∀a (h:a<J d),E w3 (A a4 a)=S (H ((d[a]:N):I))/\Z w2.1<=a4):=Y (λa h=>⟨Jj b3 (by simp[Je,h]),(b3.lt a4 R).1⟩);rw[<-hm];have v1:=G (XU aj O) u1;have q3:=G (XU aj O) q1;have dn:=Y λe (y:e<m)=>(cc e y).of_block (aj.5 _ (cc e y).lt);have gr:=Y<|cb.of_block (aj.5 _ cb.lt);have fc:=Y<|ha.keep (P_.mono hB);have dc:=Y (hJ.o _ _ _ h0 λq hq _=>P_.5 q hq);have lb:∀(A1 A2 A3 A4:Uj)(W:Ub),(Instr.field 91 (Sa #[A1,A2,A3,A4]) 3).run prog W=.ok A4 W:=λA1 A2 A3 A4 W=>vZ;clear V_ aj ea ba u1 q1 g0 g1 hm eg;gi_wp2;refine nH (λa' wr=>∃(a:N)(ds:Wa)(f:Vu),a<=J_/\a'=⟨#[Sa #[H n,X p m c],.func (.func 75) #[] #[Hn bp,Hn bo],Hn (Z w.1),Su,Hn (Z K_.1),Su,f 6,f 7,f 8,f 9,f 10,Su,f 12,f 13,f 14,Su,f 16,Sa #[H n,X p m c],Sa #[Hl Gi m m,Hl O_ m m],Sa #[H n,X p m c],Sa #[Hl a1 m c1,Hl a2 m c2,Hl a3 m m,Hl a4 J_ c4],Hl a4 J_ c4,H J_,H a,f 24,f 25,f 26,f 27,f 28,f 29,f 30,f 31,f 32,f 33,f 34,f 35,f 36,f 37,f 38,f 39,f 40,f 41,f 42,f 43,f 44,f 45,f 46,f 47,f 48,f 49,f 50,f 51,f 52,f 53,f 54,f 55,f 56,f 57,f 58,f 59,f 60,f 61,f 62,f 63,f 64,f 65,f 66,f 67,f 68,f 69,f 70,f 71,f 72,f 73,f 74,f 75,f 76,f 77,f 78,f 79,f 80,f 81,f 82,f 83,f 84,f 85,f 86,f 87,f 88,f 89,f 90],O7 ds⟩/\Q (QA w3 wr M Q_ (Ko x n<|d.take a) ds)) (λa' _=>J_-(JB<|a'.1.getD 23 Su).toNat) ?_ ?_;·exact⟨0,[],λ_=>Su,aN,R,Y ⟨ZH.refl _ _,by simpa [Ko]using dc.o,⟨iU,λ_ h=>(by cases h),λ_ h=>(by cases h)⟩⟩⟩
 rintro a' wr⟨a,ds,f,hk,rfl,j⟩;have lp:=j.1.4;by_cases hl:a<J_
 .have bm:a<J d:=by rw[<-HM.o];exact hl
  let⟨e4,h4⟩:=gd a bm;have al:=gq _<|aH bm;have I_:d[a]<J x:=by rw[<-hx.o];exact al
  have aq:∀q,Z w.1<=q->¬M q:=λq hq h=>by have:=cg q h;omega
  have S_:=Y aq;have f4:=j.1.cell (aq a4 O) e4;have f1:=j.1.cell (aq (Z w.1)<|aA) v1;have fq:=j.1.cell (aq (Z K_.1) O) q3;have gh:=Y λi g=>Gg (xs:=x) (V:=n) bm I_ (i:=i) g;have fs:=Y λi g8 g hu hd=>Gq (xs:=x) (V:=n) bm I_ (i:=i) (d:=g8) g hu hd;have gb:=Y<|EL (xs:=x) (V:=n) bm I_;have fi:=Y λ(w6 U':Ub)(fb z:N)(W0:Wk)(hq:∀v,v<64*b->(Xh W0 v=So↔UV x v d[a]))(ss:List Sd)(hs:ss.map Sd.dat=TZ (J x[d[a]].2) W0 (NS x[d[a]]))(h:Nz n w6 fb (J x[d[a]].2+1) b z ss U')=>h.done T I_ ek hq hs;have di:=Y<|HR.lou T hx d[a] al;have f7:Q (N1 n b<|WX d[a]):=Y λaa r t=>((di aa r).1 t).val T I_;have g3:=Y<|HR.5 d[a];have ir:=Y<|aH I_;have gf:=Y<|qF T (aH I_);have dj:=Y<|T.3 _ (aH I_);have gz:=Y<|T.4 _ (aH I_);have ac:=Y<|T.10 _ (aH I_);have fj:=Y λi (g:i<J x[d[a]].1)=>T.8 _ (aH I_) _ (aH g);have g4:=Y (λi (g:i<J x[d[a]].2) (hu:dB x[d[a]].2[i].1=So)=>T.6 _ (aH I_) _ (aH g) x[d[a]].2[i].2 (by unfold BW;rw[hu];simp));have cq:=j.1.cell (aq O_ O) (gr.cell al);have du:=Y<|(dn d[a] al).of_block (j.1.5 _ (dn d[a] al).lt (aq _<|oN (HR.7 d[a] al)));have ih:=Y (HR.7 d[a] al).2;let⟨bb,oo,eb,em,pa,pc,Z_,ic,p0,p1,⟨t0,t1,t2,t3⟩,es,eo⟩:=fc d[a] I_;have a9:=bf bb em.1 em.2;have c0:=j.1.cell a9 p0;have c5:=j.1.cell a9 p1;have c6:=j.1.cell a9 t0;have c7:=j.1.cell a9 t1;have c8:=j.1.cell a9 t2;have c9:=j.1.cell a9 t3;have cn:YA k B w3 wr:=λq q1 q2=>j.1.5 q (oN P_.4) (bf q q1 q2);have gg:=Y<|es.keepS cn;have fn:=Y<|eo.keepS cn;generalize hX:x[d[a]]=K at*;have iv:=Y hX;generalize k6:d[a]=e at*;clear p0 p1 t0 t1 t2 t3 es eo cn e4 aq hX;subst eb;have lc:(a:I)<J_:=O;have k7:(e:I)<m:=O;have ht:S6.wrap ((J K.2:I)+1)=(J K.2:I)+1:=by have:=ac.1;rw[dF];omega
  have er:=J9 (P:=prog) 127 126 (Sa #[Hq]) 1 24 underlying127 Q9 (J K.2+1) (oN ac.1) (oN ac.1);rw[show((J K.2+1:N):I)=(J K.2:I)+1 by omega]at er;gi_wp2
  rename_i K2 io K1 il K0 df;have be:(λV:Ub=>Sw (Z wr.1) wr V/\Z V.1=Z wr.1+3/\(∀q v,#[X pa (J K.1) pc,X Z_ (J K.2) ic,H K.3.1,H K.3.a,H K.3.3,H K.3.4][q]?=S v->E V (A (Z wr.1) q)=S v)/\V.rowIs (Z wr.1+1) 126 (J K.2+1) (λ_=>Hq)/\E V (A (Z wr.1+1+1) 0)=S (Hl (Z wr.1+1) (J K.2+1) (J K.2+1))) (D (D (D wr<|Sc #[X pa (J K.1) pc,X Z_ (J K.2) ic,H K.3.1,H K.3.a,H K.3.3,H K.3.4] 81) (Sc (madeCells #[Hq] (J K.2+1)) 126)) (Sc #[Hl (Z wr.1+1) (J K.2+1) (J K.2+1)] 127)):=⟨Xb (Xb (Xb Rf _) _) _,sP,(λq v h=>by
   rw[bP _ _ (A (Z wr.1) q) (by rw[aO,aO];show Z wr.1<_;omega),bP _ _ (A (Z wr.1) q) (by rw[aO];show Z wr.1<_;omega),eC];exact h),(by
   have h:=dG (D wr<|Sc #[X pa (J K.1) pc,X Z_ (J K.2) ic,H K.3.1,H K.3.a,H K.3.3,H K.3.4] 81) Hq (J K.2+1) 126;rw[aO]at h;exact h.of_block<|gF _ _ _ sP),SC⟩
  generalize (D (D (D wr _) _) _)=wa at*;let⟨V_,bt,ao,cm,ev⟩:=be;have x0:=ao 0 _ R;have x1:=ao 1 _ R;have x2:=ao 2 _ R;have x3:=ao 3 _ R;have x4:=ao 4 _ R;have x5:=ao 5 _ R;have sq:=oB V_ fq<|aI wr _ fq;have fa:=oB V_ cq<|aI wr _ cq;have k8:(e:I)<m:=O;clear er ht ao fq cq f4 f1 c0 c5 c6 c7 c8 c9;refine Tc (λF=>E F (A (Z wr.1) 0)=S (X pa (J K.1) pc)/\E F (A (Z wr.1) 1)=S (X Z_ (J K.2) ic)/\E F (A (Z wr.1) 2)=S (H K.3.1)/\E F (A (Z wr.1) 3)=S (H K.3.a)/\E F (A (Z wr.1) 4)=S (H K.3.3)/\E F (A (Z wr.1) 5)=S (H K.3.4)/\E F (A (Z K_.1) 1)=S (Hl O_ m m)/\E F (A O_ e)=S (Hl (go e) b b)) λig=>?_;refine Yi 0 ?_;refine Yi 1 ?_;refine Yi 2 ?_;refine Yi 3 ?_;refine Yi 4 ?_;refine Yi 5 ?_;refine Yc 6 λdz hK=>?_;go_simp;have ck:Sw (Z wa.1) wa wa.drew:=(Rf).drew;have e6:Z wa.drew.1=Z wr.1+3:=bt;generalize wa.drew=G_ at*;refine⟨JV,(vF 8 (go e) b b G_).mono ?_⟩;rintro o C⟨rfl,br⟩;have b5:=ck.trans ((show Sw (Z G_.1) G_ C by rw[br];exact Xb (Xb Rf _) _).mono ck.4);have h7:Z C.1=Z wr.1+5:=by rw[br];simp[e6]
  have ap:∀q v,#[X pa (J K.1) pc,X Z_ (J K.2) ic,H K.3.1,H K.3.a,H K.3.3,H K.3.4][q]?=S v->E C (A (Z G_.1) q)=S v:=λq v h=>by rw[br,bP _ _ (A (Z G_.1) q) (by rw[aO];show Z G_.1<_;omega),eC];exact h
  have ey:E C (A (Z G_.1+1) 0)=S (Hl (go e) b b):=by rw[br];simp[go_sem]
  have Y_:=λ(b' q:N)(v:Uj)(hc:E wa (A b' q)=S v)=>oB b5 hc<|aI wa _ hc;have z0:=Y_ _ _ _ x0;have z1:=Y_ _ _ _ x1;have z2:=Y_ _ _ _ x2;have z3:=Y_ _ _ _ x3;have z4:=Y_ _ _ _ x4;have z5:=Y_ _ _ _ x5;have zq:=Y_ _ _ _ sq;have zg:=Y_ _ _ _ fa;have eu:=Y_ _ _ _ ev;have gs:=Y<|cm.of_block (b5.5 _ cm.lt);have bl:=Xg V_ b5;have ar:=Y bl;have g2:=Y<|du.of_block (bl.5 _ du.lt);have a5:=(ZH.of_below P_).trans (j.1.trans<|ZH.of_below bl);have ib:=Y a5;have ad:=Y λ(L:Ub)(h:ZH M w L)=>(⟨hO.of_block (h.5 _ hO.1 ch.1) h.4,hT.of_block (h.5 _ hT.1 ch.2.1) h.4,ej.of_block<|h.5 _ (aI w _<|ej 0 vY) ch.2.2⟩:Yy L/\Yb L/\Jn L);have co:YA k B wr C:=λq q1 q2=>bl.5 q<|oN P_.4;have dk:=Y<|gg.keepS co;have db:=Y<|fn.keepS co;have gv:Q (UI K k B (Z G_.1) (Z C.1) (Z C.1) C):=Y ⟨(ad _ a5).1,(ad _ a5).2.1,⟨pa,pc,Z_,ic,ap 0 _ R,ap 1 _ R,⟨ap 2 _ R,ap 3 _ R,ap 4 _ R,ap 5 _ R⟩,dk,db⟩,O,oN P_.4,(ad _ a5).1.1,(ad _ a5).2.1.1,aA⟩;have gt:=Y ey;have dl:=Y eu;have lo:=P_.4;have lx:Z wr.1+3<=Z G_.1:=O;have lz:Z G_.1<=Z wr.1+3:=O;have lv:Z wr.1+5<=Z C.1:=O;have lw:Z C.1<=Z wr.1+5:=O;clear bt e6 h7;refine hK _ _ ⟨z0,z1,z2,z3,z4,z5,zq,zg⟩ λig=>?_;clear hK;refine ZV ?_;have g6:=Y z0;have g7:=Y z1;clear ig z0 z1 z2 z3 z4 z5 zq zg x0 x1 x2 x3 x4 x5 sq fa ev eu ey Y_ b5 ap br cm V_ ck a5 co bl;apply df;clear df;gi_wp2
  refine nX (F:=Fence.wide) (n:=9) R vY (gf:=176) (lb:=#[Hn<|Z G_.1+1,Hn (Z G_.1)]) R JV (enters_of func176 vZ R) (tU (λq=>q=Z wr.1+1) gv gt g2 g3 cf ek (Y ?m1) (Y ?m2) (Y ?m3) (Y ?m4) (Y ?m5) dj gz ac.1 ac.2 gf f7) (λz=>qj _ _ _ _ z) (λh a=>h.trans a) (λW bv e7 o' r t T_=>Zf.putObj W bv e7 o' O t T_) Rf (λ_ _=>R)
   (λz=>Nz n C (Z wr.1+1) (J K.2+1) b z) (λ_ _ _=>False) (λz=>Nz.own n C _ _ _ z) (λ_ _ _ _ _ h _ _=>h) (λ_ z l0 L L_ _ h af=>h.turn af) (λh=>h.elim) ?start
   (λz s a' P=>∃N_:N,a'=⟨#[Sa #[H n,Hm bb oo m c],.func (.func 75) #[] #[Hn bp,Hn bo],Hn (Z w.1),Su,Hn (Z K_.1),Su,H e,Hn (Z wr.1),Hn<|Z wr.1+1+1,H (s.i:I),Hn N_,Su,f 12,f 13,f 14,Su,f 16,Sa #[H n,Hm bb oo m c],Sa #[Hl Gi m m,Hl O_ m m],Sa #[H n,Hm bb oo m c],Sa #[Hl a1 m c1,Hl a2 m c2,Hl a3 m m,Hl a4 J_ c4],Hl a4 J_ c4,H J_,H a,Sb So,Ho a4 a,H e,Ho (Z w.1) 1,Hm bb oo m c,H e,Ho bb<|oo+e*6,Sa #[X pa (J K.1) pc,X Z_ (J K.2) ic,H K.3.1,H K.3.a,H K.3.3,H K.3.4],Ho (Z wr.1) 1,X Z_ (J K.2) ic,H (J K.2:I),H<|(J K.2:I)+1,Hl (Z wr.1+1) (J K.2+1) (J K.2+1),Sa #[X pa (J K.1) pc,X Z_ (J K.2) ic,H K.3.1,H K.3.a,H K.3.3,H K.3.4],Ho (Z K_.1) 1,Hl O_ m m,H e,Ho O_ e,Sa #[Hl (go e) b b],.func (.func 176) #[] #[Hn<|Z G_.1+1,Hn (Z G_.1)],H (s.i:I),Sa #[Hl z b s.C],f 46,f 47,f 48,f 49,f 50,f 51,f 52,f 53,f 54,f 55,f 56,f 57,f 58,f 59,f 60,f 61,f 62,f 63,f 64,f 65,f 66,f 67,f 68,f 69,f 70,f 71,f 72,f 73,f 74,f 75,f 76,f 77,f 78,f 79,f 80,f 81,f 82,f 83,f 84,f 85,f 86,f 87,f 88,f 89,f 90],[]⟩/\Z C.1<=N_/\E P (A N_ 0)=S (Hl z b s.C)) ?ownA ?assign ?body ?done λ_ _ _ _ _ _ h _=>h.elim
  case m1=>intro q r t o;omega
  case m2=>intro o;omega
  case m3=>intro q r o;omega
  case m4=>intro o;have:=hO.1;omega
  case m5=>intro o;have:=hT.1;omega
  case start=>
   intro z P e0 bt hU;exact⟨hU.1,hU.2,hU.3,hU.4,λq r _=>hU.5 q r,⟨e0,bt⟩,O,λ_=>Hq,gs.of_block<|hU.5 _ O,λi _=>bC λq hq=>Sz hq eA⟩
  case ownA=>
   rintro z s a' _ L P row⟨N_,o,r,t⟩ af q;refine⟨N_,o,r,G (Xc<|af.5 N_ (aI L _ t) λe2=>?_) t⟩;let⟨ob,T_,h4⟩:=Yn t;let⟨_,o2,h5,h6⟩:=q N_ e2.symm;rw[show L.1[N_]?=S ob from T_]at h5;injection h5 with h5;subst h5;rw[h4]at h6;cases h6
  case assign=>
   intro l' z b0 s P KK hz D_ R_ ef;have u:=Y D_;have b4:=Y R_;have f6:=Y ef;clear D_ ef;unfold rx;gi_wp2;have bi:Sw (Z P.1) P (D P<|Sc #[Hl z b s.C] 126):=Xb Rf _;exact f6 _ _ ⟨bi.4,λa e7 r _=>G (bi.5 a (aS.1 r).1) r⟩ (Z4 bi u.4) (u.below bi) (tH b4 bi) ⟨Z P.1,R,u.4,SC⟩
  case body=>
   rintro l' z b0 s a' P hz le _ D_ R_⟨N_,rfl,la,en⟩ lg;have u:=Y D_;have b4:=Y R_;have sb:=D_.cell (b:=Z wr.1+1+1) O dl;have hr:s.i<J K.2+1:=oN R_.1.1;have li:(s.i:I)<J K.2+1:=O;have h8:=D_.4;have cx:=Y<|Kk z b s.C s.W P.drew (Y R_.2.1.drew) O;clear D_;gi_wp2;refine Tc (λF=>E F (A (Z wr.1+1+1) 0)=S (Hl (Z wr.1+1) (J K.2+1) (J K.2+1))/\E F (A N_ 0)=S (Hl z b s.C)) λig=>?_;refine Yi 0 ?_;refine Yi 1 ?_;refine Yi 2 ?_;refine Yc 3 λdz hK=>?_;go_simp;refine⟨JV,(CallsIn.inRound l'<|bM.2 cx).mono ?_⟩;rintro o U5⟨g5,C5,rfl,hf,a8,ez⟩;have a7:Sw (Z P.1) P U5:=⟨a8.1,a8.2,a8.3,a8.4,a8.5⟩;have gp:=Y<|u.push (s:=s) ⟨b4.2.2,b4.1.2⟩ a7 hf ez;have cv:=Y a7;have e9:=oB a7 sb<|aI P _ sb;have d0:=oB a7 en<|aI P _ en;have da:=Y<|u.below a7;let⟨T5,cl,_⟩:=da.8;have i0:=cl.cell hr;have k3:=cl.frozen s.i;clear a7 a8 ez cl;refine hK _ _ ⟨e9,d0⟩ λig=>?_;clear hK;refine Yi 4 ?_;refine Yc 5 λdz hK=>?_;go_simp;refine hK _ _ ⟨G (bH U5 (A (Z wr.1+1) s.i) (A (Z wr.1+1+1) 0) (Hl g5 b C5) sP) e9,G (bH U5 (A (Z wr.1+1) s.i) (A N_ 0) (Hl g5 b C5) (by show Z wr.1+1≠N_;omega)) d0⟩ λig=>?_;clear hK;refine ZV ?_;clear ig;gi_wp2;have ep:Zf (Z C.1) (λq=>q=Z wr.1+1) P (Se U5 (A (Z wr.1+1) s.i) (Hl g5 b C5)):=(Z4 cv h8).trans (Zg ⟨R,R,R,SH,λa _ hk=>cY λo=>hk<|by rw[o]⟩ R da.4);refine⟨⟨ep.1,λq ob r t T_=>?_⟩,ep,gp⟩;exact G (cY<|by show q≠Z wr.1+1;omega) (G (cv.5 q (aS.1 t).1) t)
  rintro b1 z ss P hD hz ei D_ ee;let⟨zs,cw,Ws,el⟩:=fi C P (Z wr.1+1) z (WX e) di ss ei D_;have ab:=Y el;have u:=Y D_;have ca:=Y ee;have y0:=D_.cell (b:=Z wr.1) O g6;have y1:=D_.cell (b:=Z wr.1) O g7;have sb:=D_.cell (b:=Z wr.1+1+1) O dl;have ce:ZH M wr P:=⟨G u.1 ar.1,G u.2 ar.2,G u.3 ar.3,aJ ar.4 u.4,λq q1 _=>G (u.5 q O O) (ar.5 q q1)⟩;have fl:=Y ce;have b8:=Y<|(ZH.of_below P_).trans (j.1.trans ce);have f5:=Y (hJ.o _ _ _ j.j λq q1 q2=>G (u.5 q O O) (ar.5 q q2));have gl:=Y (dk.keepS λq q1 q2=>u.5 q O O);have fx:=Y (db.keepS λq q1 q2=>u.5 q O O);have dw:=Y λ(L:Ub)(h:ZH M P L)(i:N)(g:i<=J K.2)=>(ab i g).2.2.1.of_block (h.5 _ (ab i g).2.2.1.lt (S_ _<|oN ((ab i g).2.1)));have k5:=u.4;have ga:=Y (show ∀q,M q->q<Z P.1 from λq h=>by have:=cg q h;omega);have dd:Q (∀(af:N->List (N×Wa)) i L L_,Q_ (af i) L->Sw (Z L.1) L L_->Q_ (af i) L_):=Y λaf i L L_ h t=>hJ _ _ _ h λq _ q2=>t.5 q q2;have hj:=ac.2;have hh:=ac.1;clear el D_ ee ei ce;gi_wp2;refine wpIn_wide.2<|F8 (Z wr.1+1+1) (Z wr.1+1) (J K.2) b (zs 0) (cw 0) bp bo (J K.1) pc pa K.1 k B M (λi L=>Q_ (Ko x n (d.take a)++Ni x n e K i) L) P _ _ _ _ _ _ _ _ _ _ _ _ _ _ _ _ _ _ _ _ _ _ _ _ _ _ _ _ _ _ _ _ _ _ _ _ _ _ _ _ _ _ _ _ _ (Y ?hq) gl (Y R) hj bf (Y<|S_.o _ O) (Y<|S_.o _ O) ga sb (ab 0<|aN).1 (Y<|dd.o _) (Y ?stp) (Y ?st0) (Y ?nx)
  case hq=>
   intro c p cr v w h;have r:LeavesInM Fence.wide 9 prog f74 (p.put (S cr) v).1 _ (p.put (S cr) v).2 (.panicking c) w:=h;rw[tF (t:=(p.put (S cr) v).1) (t':=p.1) (by simp[JC,results74])]at r;exact r
  case stp=>
   intro i g L bc bd;let⟨bx,o⟩:=gh i g;have hd:=fj i g;let⟨_,_,_,h4,h5,h6⟩:=ab 0<|aN;have bn:=cp _ _ _ bx L (zs 0) b (cw 0) (Ws 0) o bd (dw L bc 0<|aN) h4 h5 cf h6 (ad L<|b8.trans bc).2.2;rw[fR hd.1]at bn;refine bn.mono ?_;rintro o L_⟨r,t,T_⟩;refine⟨r,t,?_⟩;rw[cK]at T_;rw[vW (d:=K.1[i].1.toNat) g (fR hd.1).symm];exact T_
  case st0=>
   have:Ni x n e K 0=[]:=by simp[Ni]
   rw[this,fF];exact f5
  case nx=>
   intro i1 i2 i3 i4 i5 i6 jf jj jl js jv j0 A1 a0 ec;have az:=Y a0;have fz:=Y ec;have h9:=a0.cell (S_ (Z wr.1) O) y1;have e8:=a0.cell (S_ (Z wr.1+1+1) O) sb;have fr:=Y (fx.keepS λq q1 q2=>a0.5 q O<|bf q q1 q2);have k4:=a0.4;clear a0 ec y0 y1 sb;gi_wp2;refine wpIn_wide.2<|F6 (Z wr.1+1+1) (Z wr.1+1) b bp bo (J K.2) ic zs cw Z_ K.2 k B M (λi L=>Q_ (Ko x n (d.take a)++Ni x n e K (J K.1)++VC x n e K i) L) A1 _ _ _ _ _ _ _ _ _ _ _ _ _ _ _ _ _ _ _ _ _ _ _ _ _ _ _ _ _ _ _ _ _ _ _ _ _ _ _ _ _ _ _ _ fr (Y R) hh bf (Y<|S_.o _ O) (Y<|S_.o _ O) e8 (Y λi g=>az.cell (S_ (Z wr.1+1) O) (ab i g).1) dj (Y λL h=>(ad L<|b8.trans (az.trans h)).1) (Y<|dd.o _) (Y ?stp) (Y ?stn) (Y ?st0) (Y ?nx)
   case stp=>
    intro i g hu L bc bd;have hd:=g4 i g hu;let⟨bx,o⟩:=fs i K.2[i].2.toNat g hu (fR hd.1).symm;let⟨_,_,_,h4,h5,h6⟩:=ab (i+1) g;have bn:=cp _ _ _ bx L (zs<|i+1) b (cw<|i+1) (Ws<|i+1) o bd (dw L (az.trans bc) (i+1) g) h4 h5 cf h6 (ad L<|b8.trans (az.trans bc)).2.2;rw[fR hd.1]at bn;refine bn.mono ?_;rintro o L_⟨r,t,T_⟩;refine⟨r,t,?_⟩;rw[cK]at T_;rw[q9 (d:=K.2[i].2.toNat) g hu (fR hd.1).symm];exact T_
   case stn=>
    intro i g hu L bd;rw[xk g hu];exact bd
   case st0=>
    have:VC x n e K 0=[]:=by simp[VC]
    rw[this,fF];exact fz
   intro j1 j2 j3 j4 ka kb kc kd kf kk kl kn ko kq ks kt ku kv kw kx ky kz k2 A2 cd ed;have f0:=Y ed;have cz:=Y<|fl.trans (az.trans cd);have fe:=Y<|G (cd.5 b1 (oN<|(aS.1 ca).1) (S_ _ O)) (G (az.5 b1 (aS.1 ca).1 (S_ _ O)) ca);clear cd ed h9 e8;gi_wp2;refine⟨F7 _ _ (a+1) (b1::ds) O R (Y ⟨j.1.trans cz,?_,?_⟩),?_⟩
   .rw[gb.o];exact f0
   .refine Dx (E6 j.3 cz λq h=>by have:=cg q h;omega) O (λh=>?_) fe;have:=(aS.1<|j.3.3 b1 h).1;omega
   simp[JB];omega
 have hg:a=J_:=O;subst hg;gi_wp2;refine U4 ds wr j.3 j.1.4 λW' a6=>?_;refine⟨St #[],by simp[JC,results74,go_sem],R,?_,?_⟩
 .have lk:=P_.4;have hF:=(ZH.of_below (M:=M) P_).trans j.1;exact⟨G a6.1 hF.1,G a6.2 hF.2,G a6.3 hF.3,aJ hF.4 a6.4,λq q1 q2=>G (a6.5 q O) (hF.5 q q1 q2)⟩
 have h:=j.j;rw[HM.o,gC]at h;rw[<-ge.o];exact hJ _ _ _ h λq q1 _=>a6.5 q<|oN P_.4
end
theorem Oy.same{go C}(h:Oy n m k go B g i j C w)(u:k<c/\go<c/\B<c/\g<c/\i<c/\j<c)(a:∀q,q<c->q<Z w.1->v.1[q]?=w.1[q]?):Oy n m k go B g i j C v:=by let⟨l,o,p,r,s,t⟩:=u;have d:∀{b:N}{f:Uj},b<c->E w (A b 0)=S f->E v (A b 0)=S f:=λx e=>G (bZ<|a _ x (aI w _ e)) e;exact⟨h.1.of_block<|a _ l h.1.lt,h.o.of_block<|a _ o h.o.lt,h.3.of_block<|a _ p h.3.lt,d r h.4,d s h.5,d t h.6,h.7,h.8,h.9,h.n3,h.n4,h.n5⟩
theorem By(c w)(ha:Q (Xp w k B p x))(P:Q (m=J x))(hs:Q (J x+Xx x<=1048576))(hB:B<=Z w.1)(C:Q (Yy w))(K:Q (Yb w))(V_:Q (Jn w))(hv:Q (Ft (n:I) x=0))(hP:Q (YX (X8 x) m l)):
 Sk prog 32 #[Sa #[H n,X p m c]] w λf w'=>∃Q_,f=Rt (Sa #[H 0,Hl Q_ n n,H<|NE (Kq (λ_=>-1) (Ko x n<|XT l m 0)) n])/\Sw (Z w.1) w w'/\Z w.1<=Q_/\HK w' Q_ n n (Kq (λ_=>-1) (Ko x n<|XT l m 0)):=by
 let⟨T,az⟩:=TX hv;have ho:=XH T;have O_:Q (mn n<|Ko x n (XT l m 0)):=Y (by have S_:=hP.o;rw[P.o]at S_;have:=vV T az S_;rw[P.o];exact this)
 have hV:=ho.2;have P_:=Y λW (F:Sw (Z w.1) w W)=>Te (n:I) m c (Y<|ha.keep (F.mono hB)) P hs (oN F.4) (Y<|C.keep F C.1) (Y<|K.keep F K.1);rw[hv.o]at P_;have bf:=fM (P:=prog) 23 2 (H 0) 8 underlying23 RH R S6 S6 n O O;have a8:=Y T;have a7:=Y ho;clear T ho az
 go_in
 go_wp2_with fail
 have L:(λd:Ub=>Sw (Z w.1) w d/\Z w.1+2<=Z d.1/\E d (A (Z w.1) 0)=S (H n)/\E d (A (Z w.1) 1)=S (X p m c)/\Q (d.1[Z w.1+1]?=S (Sc #[H 0,Hq,H 0] 50))) (D (D w<|Sc #[H n,X p m c] 45) (Sc #[H 0,Hq,H 0] 50)):=⟨Xb (Xb Rf _) _,sP,SC,SC,(Y (by have:=World.alloc_heap_new (D w<|Sc #[H n,X p m c] 45) (Sc #[H 0,Hq,H 0] 50);rwa[aO]at this))⟩
 generalize D (D w _) _=w0 at*;let⟨X_,ch,c0,c1,ao⟩:=L;refine YU (P_ _ X_) λa r=>?_;have ci:=r.4;have cf:Z w.1<Z a.1:=O;have k0:=G (XU r O) c0;have k1:=G (XU r O) c1;have J_:=Y<|Xg X_ r;have ap:=Y<|G (r.5 _ O) ao;clear X_ r c0 c1 ao;go_wp2_with fail
 have L:(λd:Ub=>Sw (Z a.1) a d/\Z a.1+2<=Z d.1/\Z d.1<=Z a.1+2/\Q (d.rowIs (Z a.1) 2 n λ_=>H 0)/\Q (d.rowIs (Z a.1+1) 50 3 (OX (H 0) (Hl (Z a.1) n n) (H 0)))) (D (D a<|Sc (madeCells #[H 0] n) 2) (Sc #[H 0,Hl (Z a.1) n n,H 0] 50)):=⟨Xb (Xb Rf _) _,sP,sP,Y<|(dG a (H 0) n 2).alloc _,(Y (by
  have h:=eK (D a<|Sc (madeCells #[H 0] n) 2) #[H 0,Hl (Z a.1) n n,H 0] 50 (OX (H 0) (Hl (Z a.1) n n) (H 0)) (λi t=>by match i,t with|0,_=>rfl|1,_=>rfl|2,_=>rfl)
  rw[aO]at h;exact h))⟩
 generalize (D (D a _) _)=w2 at*;let⟨s,br,bt,N_,M_⟩:=L;have ck:=J_.4;let⟨go,ab⟩:∃go,go=Z a.1:=⟨_,R⟩;rw[<-ab]at s br bt N_ M_;rw[<-ab];have cc:Z a.1<=go:=O;have cd:go<=Z a.1:=O;have m0:=G (XU s O) k0;have m1:=G (XU s O) k1;have aq:=Y<|G (s.5 _ O) ap;have af:=Y<|J_.trans (s.mono O);clear bf s k0 k1 ab;refine(Bw hV).mono ?_;rintro f b⟨o,q,R_,rfl,g,ce,ca,cb,bh,bi,ac,Z_,aa⟩;have cj:=g.4;have aj:=Y<|Xg af g;have p0:=G (XU g O) m0;have p1:=G (XU g O) m1;have ar:=Y<|G (g.5 _ O) aq;have l1:=ac.lt;have l2:o<Z b.1:=aI b _ Z_;have l3:q<Z b.1:=aI b _ aa;have al:Q (Oy n n R_ go (go+1) (Z b.1) o q (λ_=>-1) (D b<|Sc #[.func (.func 142) #[] #[Hn o,Hn q]] 141)):=Y (by
  refine⟨ac.alloc _,?_,?_,SC,G (bP _ _ _ l2) Z_,G (bP _ _ _ l3) aa,λu _=>bC R,O,⟨O,O⟩,⟨O,O,O⟩,⟨bh,O,O⟩,⟨bi,O,O⟩⟩;·exact HK.of_row<|((N_.of_block<|g.5 _ O).alloc _).congr λi _=>sP
  exact((M_.of_block<|g.5 _ O).alloc _).congr λi t=>by rw[tV])
 have Y_:Sw (Z b.1) b (D b<|Sc #[.func (.func 142) #[] #[Hn o,Hn q]] 141):=Xb Rf _;have e:=Y<|Xg aj Y_;have cl:Z b.1<Z (D b<|Sc #[.func (.func 142) #[] #[Hn o,Hn q]] 141).1:=sP;have ba:=Y<|G (Y_.5 _ O) ar;have cg:Z w.1<Z b.1:=O;have bo:=λ(W:Ub)=>run_store prog W (A (Z b.1) 0) (.func (.func 142) #[] #[Hn o,Hn q]) .plain R;clear g ac Z_ aa N_ M_ m0 m1 Y_;go_wp2_with fail
 generalize (D b _)=w4 at*;have K_:=Y (Ef c (Z b.1) (go+1) (PJ R_ go<|go+1) (λss bb=>Oy n n R_ go (go+1) (Z b.1) o q (Kq (λ_=>-1) ss) bb) (Y<|ha.keep (e.mono hB)) P hs (oN e.4) (Y<|C.keep e C.1) (Y<|K.keep e K.1) (Y<|V_.of_block (e.5 _<|aI w _ (V_ 0 vY))) a8 a7 hP
  (Y λb7 h=>by obtain h|h|h:=h<;>omega) (Y λb7 S_ h2 h=>by obtain h|h|h:=h<;>omega) (Y (by have t1:=C.1;have t2:=K.1;have t3:(3: N)<Z w.1:=aI w _<|V_ 0 vY;exact⟨λh=>by obtain h|h|h:=h<;>omega,λh=>by obtain h|h|h:=h<;>omega,λh=>by obtain h|h|h:=h<;>omega⟩))
  (Y λss a3 A' h bx=>h.same ⟨O,O,O,O,O,O⟩ bx)
  (Y (λa1 a2 a0 b6 a3 cm Kw Cz W f hC hz hd hl hk be bp=>by have bq:=O_.1 (a2,a0) (by rw[f];simp);have bl:=TE a1 (λ_=>-1) λb8 ht=>O_.2 a1 (a2,a0) b6 f b8 ht;refine(El (Y hz) (Y hd) (Y bp) hk (Y hl) hV (Y hC) bq (Y bl)).mono ?_;rintro e2 A'⟨q1,q2,q3⟩;refine⟨q1,q2,?_⟩;rw[rl,<-be];exact q3)) (Y<|by simpa [Kq]using al.o))
 have ad:Q (∀u,u<n->0<=Kq (λ_=>-1) (Ko x n<|XT l m 0) u):=Y λu hu=>UP _ _<|aZ (O_.3 u hu);let⟨j,T_⟩:∃j,j=Kq (λ_=>-1) (Ko x n<|XT l m 0):=⟨_,R⟩;simp only[<-T_]at K_ ad;have a6:=Y T_;clear T_;clear bo;refine YU K_ λM⟨U_,z⟩=>?_;have a5:=Y z;have v:=Y U_;have b0:=z.3.cell (i:=0) vY;have b1:=z.3.cell (i:=1) vY;have b2:=z.3.cell (i:=2) vY;simp only[OX]at b0 b1 b2;have y:Q (M.rowIs (Z w.1+1) 50 3 (OX (H 0) Hq (H 0))):=Y ⟨_,G (U_.5 _ O λh=>by obtain h|h|h:=h<;>omega) ba,R,λi t=>by match i,t with|0,_=>rfl|1,_=>rfl|2,_=>rfl⟩;clear z U_ p0 p1;have b3:=y.cell (i:=0) vY;have b4:=y.cell (i:=1) vY;have b5:=y.cell (i:=2) vY;have lz:=y.frozen;have bn:∀(W:Ub)(i V:N)(u:Uj),i≠V->E (Se W (A (Z w.1+1) i) u) (A (Z w.1+1) V)=E W (A (Z w.1+1) V):=λW i V u h=>cJ λf=>h<|fI Addr.off f;go_wp2_with fail
 clear b3 b4 b5 lz bn b0 b1 b2;have L_:Q ((Se (Se (Se M (A (Z w.1+1) 0) (H 0)) (A (Z w.1+1) 1) (Hl go n n)) (A (Z w.1+1) 2) (H<|NE j n)).rowIs (Z w.1+1) 50 3 (OX (H 0) (Hl go n n) (H<|NE j n))):=Y<|(((y.set 0 _).set 1 _).set 2 _).congr (λi t=>by match i,t with|0,_=>rfl|1,_=>rfl|2,_=>rfl)
 have bd:Sw (Z w.1) w M:=⟨G v.1 e.1,G v.2 e.2,G v.3 e.3,aJ e.4 v.4,λq' bm=>G (v.5 q' (oN e.4) λh=>by obtain h|h|h:=h<;>omega) (e.5 q' bm)⟩;have L:(λd:Ub=>Q (Sw (Z w.1) w d)/\Q (HK d go n n j)) (Se (Se (Se M (A (Z w.1+1) 0) (H 0)) (A (Z w.1+1) 1) (Hl go n n)) (A (Z w.1+1) 2) (H<|NE j n)):=⟨Y<|((bd.setCell gX _).setCell gX _).setCell gX _,(Y ((((a5.o.o.setOther (by show go≠Z w.1+1;omega) _).setOther (by show go≠Z w.1+1;omega) _).setOther (by show go≠Z w.1+1;omega) _).congr (λu hu=>by have:=ad u hu;rw[aM O])))⟩
 generalize (Se (Se (Se M _ _) _ _) _ _)=w9 at*;let⟨a4,a9⟩:=L;have r0:=L_.cell (i:=0) vY;have r1:=L_.cell (i:=1) vY;have r2:=L_.cell (i:=2) vY;simp only[OX]at r0 r1 r2;refine YL (v:=Sa #[H 0,Hl go n n,H<|NE j n]) ?_;rw[<-a6.o];exact⟨go,R,a4,O,a9⟩
structure Pa(w0 wr:Ub)(base ob:N)(v:Uj)(t:Yj)(ys:Vr):Prop where
 low:Sw base w0 wr
 bx:Bx wr ob #[v,Si S6 t.1,Si S6 t.a,Si S6 t.3,Si S6 t.4] 60
 row:Sx wr base 62 5 v (J ys) (ZP ys)
 ne:v.ownBlock≠S ob
 le:base<=ob
theorem GR{f1 f3 f5:Uj}{pv:Uj}{e}{f:N}{te}(ce bo w)(bb:Q (Bx w n #[a,f1,X p k B,f3,A_,f5] 139))(hc:Q (Xf w g i p l))(b4:Q (k=J l))(b3:Q (m=J l))(b1:i<=Z w.1)(hB:bo<=Z w.1)(hi:Q (YY w ce bo P e))(V:Q (j=J e))(cw:j<=4000)(hO:Q (Yy w))(hT:Q (Yb w))(cm:Q (∀aq∈e,1<=aq.1/\aq.1<=13))(co:Q (∀aq∈e,(∀C∈Iw aq,0<=C/\C<m)/\(∀C∈BW aq,0<=C/\C<m)))(ci:1<=f)(cj:f<=3)(cp:Q (∀C∈Id ⟨f,t,T,te⟩,0<=C/\C<m)):
 Sk prog 71 #[Hn n,Sa #[pv,X P j c,H f,H t,H T,H te]] w λq h=>∃C,q=Rt (Sa #[C,H f,H (NN l ⟨f,t,T,te⟩).a,H T,H te])/\Sw (Z w.1) w h/\Sx h (Z w.1) 62 5 C j (ZP<|e.map (ZR l)):=by
 have bp:=Y λW_ (hW:Sw (Z w.1) w W_)=>GM c (Y<|hi.keep (hW.mono hB)) V O (oN hW.4)
 go_in
 go_wp2_with fail
 have cf:(λx9:Ub=>Q (Sw (Z w.1) w x9)/\Bx x9 (Z w.1) #[pv,X P j c,H f,H t,H T,H te] 81/\Bx x9 (Z w.1+1) #[Hq,H 0,H 0,H 0,H 0] 60/\Q (Z x9.1=Z w.1+2)) (D (D w<|Sc #[pv,X P j c,H f,H t,H T,H te] 81) (Sc #[Hq,H 0,H 0,H 0,H 0] 60)):=⟨Y<|Xb (Xb Rf _) _,(Bx.new _ _ _).box _,((by have:=Bx.new (D w<|Sc #[pv,X P j c,H f,H t,H T,H te] 81) #[Hq,H 0,H 0,H 0,H 0] 60;rw[aO]at this;exact this)),(Y sP)⟩;generalize D (D w _) _=b at*;obtain⟨a3,hb,Q_,bx⟩:=cf;have ap:Z w.1<Z b.1:=oN bx.o;have c1:Cl b (Z w.1) 1 (X P j c):=ZY hb R;have c2:Cl b (Z w.1) 2 (H f):=ZY hb R;have c3:Cl b (Z w.1) 3 (H t):=ZY hb R;have c4:Cl b (Z w.1) 4 (H T):=ZY hb R;have c5:Cl b (Z w.1) 5 (H te):=ZY hb R;have HR:=Y Q_;clear hb Q_
 go_cut [5]from 7 to 31 λc5 wx=>∃(o:N)(C:Uj),c5=Hn o/\Q (Pa b wx (Z b.1) o C ⟨f,t,T,te⟩ e)
 case first=>
  have ba:Q (∀W_,Sw (Z b.1) b W_->Sk prog 135 #[X P j c] W_ λq h=>∃s r,q=Rt (X s j r)/\E h (A (Z w.1) 1)=S (X P j c)/\E h (A (Z w.1) 2)=S (H f)/\E h (A (Z w.1) 3)=S (H t)/\E h (A (Z w.1) 4)=S (H T)/\E h (A (Z w.1) 5)=S (H te)/\Z w.1<Z h.1/\Q (Sw (Z W_.1) W_ h)/\Q (Sx h (Z W_.1) 62 5 (X s j r) (J e) (ZP e))):=Y (λW_ hW=>by have hs:=hW.4;refine(bp W_<|a3.trans (hW.mono O)).mono ?_;rintro q u⟨v5,rfl,y,F⟩;have L:=Xg hW y;obtain⟨s,r,rfl⟩:∃s r,v5=X s (J e) r:=(Xv.form (lab:=λ_=>(0,0,0)) (L:=(0,0,0)) ⟨F,λ_ _=>R⟩);rw[<-V.o]at F |-;exact⟨s,r,R,oB L c1 ap,oB L c2 ap,oB L c3 ap,oB L c4 ap,oB L c5 ap,oN L.4,Y y,Y<|by rw[V.o]at F;rw[V.o];exact F⟩)
  have HA:=Y<|ba.o b.drew (dC (Z b.1) b).drew;have a0:Bx (D b<|Sc #[Hq,H 0,H 0,H 0,H 0] 60).drew (Z b.1) #[Hq,H 0,H 0,H 0,H 0] 60:=Bx.new b _ _;have x:=Y ((ba (D b<|Sc #[Hq,H 0,H 0,H 0,H 0] 60).drew ((dC (Z b.1) b).alloc aA _).drew).mono (R':=λq h=>∃s r,q=Rt (X s j r)/\E h (A (Z w.1) 1)=S (X P j c)/\E h (A (Z w.1) 2)=S (H f)/\E h (A (Z w.1) 3)=S (H t)/\E h (A (Z w.1) 4)=S (H T)/\E h (A (Z w.1) 5)=S (H te)/\Z w.1<Z h.1/\(E h (A (Z b.1) 0)=S Hq/\E h (A (Z b.1) 1)=S (H 0)/\E h (A (Z b.1) 2)=S (H 0)/\E h (A (Z b.1) 3)=S (H 0)/\E h (A (Z b.1) 4)=S (H 0)/\∀v,h.frozen? (A (Z b.1) v)=Sn)/\Q (Sw (Z (D b<|Sc #[Hq,H 0,H 0,H 0,H 0] 60).drew.1) (D b<|Sc #[Hq,H 0,H 0,H 0,H 0] 60).drew h)/\Q (Sx h (Z (D b<|Sc #[Hq,H 0,H 0,H 0,H 0] 60).drew.1) 62 5 (X s j r) (J e) (ZP e))) (by rintro q u⟨s,r,rfl,f1,f2,f3,A_,f5,bf,z,Y_⟩;have M_:=a0.keep<|z.5 _ a0.lt;exact⟨s,r,R,f1,f2,f3,A_,f5,bf,⟨ZY M_ R,ZY M_ R,ZY M_ R,ZY M_ R,ZY M_ R,Bx.thaw M_⟩,z,Y_⟩))
  have cx:Z b.1≠Z w.1:=O;have cz:Z w.1≠Z b.1:=O;have bt:=Y a0;clear a0
  go_region_held3 (λh=>E h (A (Z w.1) 1)=S (X P j c)/\E h (A (Z w.1) 2)=S (H f)/\E h (A (Z w.1) 3)=S (H t)/\E h (A (Z w.1) 4)=S (H T)/\E h (A (Z w.1) 5)=S (H te)) (go_keep)
   (first
    |(go_at_call 135;with_reducible refine HA.o.mono ?_;rintro q u⟨s,r,rfl,f1,f2,f3,A_,f5,bf,z,Y_⟩)
    |(go_at_call 135;with_reducible refine x.o.mono ?_;rintro q u⟨s,r,rfl,f1,f2,f3,A_,f5,bf,⟨z0,z1,z2,z3,z4,zz⟩,z,Y_⟩))
  .go_wp2;go_meet;have L:=Xg (dC (Z b.1) b).drew z;exact⟨_,_,R,Y ⟨L.alloc L.4 _,Bx.new _ _ _,World.ownsRow.alloc (w:=u) Y_ _,λq=>by have:=(Y_.lt _ q).2;omega,L.4⟩⟩
  go_wp2;go_meet;have L:=(((dC (Z b.1) b).alloc aA _).drew).trans (z.mono<|by show _<=Z (D b _).1;simp);have M_:=bt.keep<|z.5 _ bt.lt;have cq:Z (D b<|Sc #[Hq,H 0,H 0,H 0,H 0] 60).drew.1=Z b.1+1:=by show Z (D b _).1=_;simp
  have a7:=Y_.o;rw[cq]at a7;have O_:Z b.1<Z b.1+1:=iJ;exact⟨_,_,R,Y ⟨((((L.setCell (p:=A (Z b.1) 0) aA _).setCell (p:=A (Z b.1) 1) aA _).setCell (p:=A (Z b.1) 2) aA _).setCell (p:=A (Z b.1) 3) aA _).setCell (p:=A (Z b.1) 4) aA _,((((M_.set 0<|X s j r).set 1 (H f)).set 2 (H t)).set 3 (H T)).set 4 (H te),Zk (ke (ke (ke (ke (ke a7 (a:=(A (Z b.1) 0)) O_ _) (a:=(A (Z b.1) 1)) O_ _) (a:=(A (Z b.1) 2)) O_ _) (a:=(A (Z b.1) 3)) O_ _) (a:=(A (Z b.1) 4)) O_ _) gX,λq=>by have:=(a7.lt _ q).1;omega,aA⟩⟩
 obtain⟨o,C,rfl,ab⟩:=hcut;obtain⟨s,r,rfl⟩:∃s r,C=X s (J e) r:=Xv.form (lab:=λ_=>(0,0,0)) (L:=(0,0,0)) ⟨ab.3,λ_ _=>R⟩;rw[<-V.o]at ab;have o0:Cl wc o 0 (X s j r):=ZY ab.2 R;clear c1 c2 c3 c4 c5;go_wp2;clear o0
 go_loopw [16] (λbl wr=>∃d:N,d<=j/\bl=H d/\Q (Pa b wr (Z b.1) o (X s j r) ⟨f,t,T,te⟩ ((e.take d).map (ZR l)++e.drop d))) λbl _=>j-(JB bl).toNat
 .exact⟨0,aN,R,by simpa using ab⟩
 obtain⟨d,hj,rfl,x⟩:=hrel;clear ab;have o0:Cl wr o 0 (X s j r):=ZY x.2 R;have J_:=Y<|a3.trans (x.1.mono O);have b6:=x.5;have bd:=x.2.lt;have b5:=bb.lt;by_cases O_:d<j
 .have az:d<J e:=oN V.o
  have cv:(d:I)<j:=O;have cr:=cm _<|aH az;have bi:=co _<|aH az;have HE:Q ((e.take d).map (ZR l)++e.drop d=(e.take d).map (ZR l)++e[d]::e.drop (d+1)):=Y (by rw[gZ az]);have bq:Q ((e.take<|d+1).map (ZR l)++e.drop (d+1)=(e.take d).map (ZR l)++ZR l e[d]::e.drop (d+1)):=Y (by rw[bN az,bG,cK];rfl);have ar:Q (J ((e.take d).map (ZR l))=d):=Y (by rw[bK,dH];omega);have R_:Q (J ((e.take d).map (ZR l)++e.drop d)=j):=Y (by rw[aQ,ar.o,mF];have:=V.o;omega);obtain⟨M,c',he⟩:=Xv.got (lab:=λ_=>(0,0,0)) (L:=(0,0,0)) ⟨x.3,λ_ _=>R⟩ (by rw[R_.o];omega);rw[R_.o]at he;cases he;have be:Xv wr (λ_=>(0,0,0)) (0,0,0) (Z b.1) 62 5 (Hl M j r) j (ZP<|(e.take d).map (ZR l)++e.drop d):=⟨by have:=x.3;rw[R_.o]at this;exact this,λ_ _=>R⟩;have N_:Jk wr M (d*5) e[d]:=by
   obtain⟨g',o',e',_,N_⟩:=Xv.inss (n:=j) (by rw[R_.o];exact be) d (by rw[R_.o];exact O_);cases e';rw[aV]at N_;have e9:((e.take d).map (ZR l)++e.drop d)[d]'(by rw[R_.o];exact O_)=e[d]:=by rw[fN (by rw[ar.o];exact aA),List.getElem_drop];simp only[ar.o,kL,fW]
   rw[e9]at N_;exact N_
  have bv:=Y be;have HI:=Y N_;have a4:=Y<|Iz b3 bi.1 bi.2 N_;have a8:=Y<|Ii l ((e.take d).map (ZR l)) e[d] (e.drop<|d+1);rw[ar.o,<-HE.o,<-bq.o]at a8;have q0:=N_.1;clear be N_ bi;generalize e[d]=b7 at*;obtain⟨K,ck⟩:∃K:N,b7.1=(K:I):=⟨b7.1.toNat,O⟩;rw[ck]at q0 cr a4 a8;have bc:=(bv.blk).1;go_wp2_with fail
  refine(GA q0 O O<|Y (hO.keep J_ hO.1)).mono ?_;rintro q u⟨v5,rfl,y,F⟩;rw[show([(A M<|d*5+1),(A M<|d*5+2),(A M<|d*5+3)]:List Addr)=[d*5+1,d*5+2,d*5+3].map λbm=>(A M bm)from R,rG]at F;obtain⟨a5,c5,rfl,ao⟩:=UO F;rw[bK];have z:=Y y;have ad:=Y<|bb.keep (G (y.5 _<|oN J_.4) (J_.5 _ b5));have a9:=Y (bv.keep λZ_ _ h2 q=>⟨y.5 Z_ h2,q⟩);have L_:=Y<|x.2.keep (y.5 _ bd);have aa:=Y<|hc.keep ((J_.trans<|y.mono (oN J_.4)).mono b1);have ac:=Y (yi (cs:=l) (g:=M) (w:=u) (λv hq=>by obtain⟨a2,S_,h2⟩:=a4 v hq;exact⟨a2,oB y S_ bc.2,h2⟩) (GJ))
  have af:=Y ao;have a6:Q (J (FSx [dB K,aB K,bB K] [d*5+1,d*5+2,d*5+3])<=3):=Y (by cases dB K<;>cases aB K<;>cases bB K<;>simp[FSx]);have ca:=Y<|Ig (dB K) (aB K) (bB K) (d*5);clear y F ao q0;generalize FSx [dB K,aB K,bB K] [d*5+1,d*5+2,d*5+3]=V_ at*;go_wp2_with fail
  with_reducible refine(xu ad O aa b4 O bc.2 aA z.o.4 af (Y R) (oN a6.o) (λv=>a9.o.thaw v) ac).mono ?_
  rintro q w6⟨rfl,rfl⟩;have b8:Q (Pa b (recW l M V_ u) (Z b.1) o (Hl M j r) ⟨f,t,T,te⟩ ((e.take<|d+1).map (ZR l)++e.drop (d+1))):=Y (by
   have cg:M≠o:=λq=>x.4 (by rw[<-q];rfl);have cl:J ((e.take<|d+1).map (ZR l)++e.drop (d+1))=j:=by rw[aQ,bK,dH,mF];have:=V.o;omega
   refine⟨pu l bc.1 V_ (x.1.trans<|z.mono x.1.4) aA,L_.keep (ox l M (λq=>cg q.symm) V_ u),?_,x.4,b6⟩;rw[cl,<-a8.o];exact(a9.recW V_ λv hq=>by have:=ca v hq;rw[iR,R_.o];omega).1)
  clear ad L_ aa ac af o0;generalize recW l M V_ u=W at*;go_wp2;exact⟨⟨d+1,O,gM,b8⟩,SA⟩
 have ch:d=j:=O
 have ct:¬(d:I)<j:=O;have K_:Q (Pa b wr (Z b.1) o (X s j r) ⟨f,t,T,te⟩ (e.map<|ZR l)):=Y (by have:=x.o;rw[ch,V.o,gC,Am,fF]at this;rw[V.o];exact this)
 go_wp2_with fail
 have b0:Q (Va wr o 1 ⟨f,t,T,te⟩):=Y ⟨ZY K_.2 R,ZY K_.2 R,ZY K_.2 R,ZY K_.2 R⟩;refine(tL b0 ci cj<|Y (hT.keep J_ hT.1)).mono ?_;rintro q u⟨v5,rfl,y,F⟩;rw[show([(A o<|1+1)]:List Addr)=[2].map λbm=>(A o bm)from R,rG]at F;obtain⟨a5,c5,rfl,ao⟩:=UO F;rw[bK];have z:=Y y;have ad:=Y<|bb.keep (G (y.5 _<|oN J_.4) (J_.5 _ b5));have L_:=Y<|K_.2.keep (y.5 _ bd);have aa:=Y<|hc.keep ((J_.trans<|y.mono (oN J_.4)).mono b1);have af:=Y ao;have bn:Cl u o 2 (H t):=ZY L_ R;have ac:Q (∀v (cs:v<J (FSx [(f:I) != 1] [2])),∃a2:N,E (recW l o ((FSx [(f:I) != 1] [2]).take v) u) (A o (FSx [(f:I) != 1] [2])[v])=S (H a2)/\a2<J l):=Y (yi (λv hq=>by
  have Q_:=cp.o;unfold Id at Q_;cases hu:((f:I) != 1)with
  |false=>rw[hu]at hq;simp[FSx]at hq
  |true=>
   rw[hu]at hq Q_;have cn:v=2:=by simpa [FSx]using hq
   subst cn;have S_:=Q_ t sP;exact⟨t.toNat,by rw[bn];congr 2;omega,oN b3.o⟩) (by cases ((f:I) != 1)<;>simp[FSx]))
 have X_:Q (Bx (recW l o (FSx [(f:I) != 1] [2]) u) o #[X s j r,H f,H (NN l ⟨f,t,T,te⟩).a,H T,H te] 60):=Y (by
  unfold NN;by_cases S_:(f:I)=1
  .have hu:((f:I) != 1)=Sn:=by simp[S_]
   rw[hu];simp only[aU S_];exact L_
  have hu:((f:I) != 1)=So:=by simp[S_]
  rw[hu];simp only[aM S_];show Bx (Se u.drew (A o 2) (jr l<|E u (A o 2))) o _ _;rw[bn];exact Bx.set (w:=u.drew) L_ 2 (H<|Kp l t))
 have br:Q (Sw (Z b.1) b<|recW l o (FSx [(f:I) != 1] [2]) u):=Y<|pu l b6 _ (K_.1.trans<|z.mono K_.1.4) aA;have cc:Q (Sx (recW l o (FSx [(f:I) != 1] [2]) u) (Z b.1) 62 5 (X s j r) j (ZP<|e.map (ZR l))):=Y (by have Q_:Xv wr (λZ_=>if Z_=o then (1,0,0)else (0,0,0)) (0,0,0) (Z b.1) 62 5 (X s j r) (J (e.map<|ZR l)) (ZP<|e.map (ZR l)):=⟨K_.3,λZ_ q=>aM λv=>K_.4<|by rw[<-v];exact q⟩;have:=(Q_.keep (w':=recW l o (FSx [(f:I) != 1] [2]) u) λZ_ _ h2 q=>⟨G (ox l o (λv=>by rw[aU v]at q;simp at q) _ u) (z.5 Z_ h2),q⟩).1;rw[bK,<-V.o]at this;exact this)
 have a6:Q (J (FSx [(f:I) != 1] [2])<=3):=Y (by cases ((f:I) != 1)<;>simp[FSx]);have cb:=Y<|Bx.thaw L_;clear y F ao bn L_;generalize FSx [(f:I) != 1] [2]=V_ at*;obtain⟨a1,bh⟩:∃a1,(NN l ⟨f,t,T,te⟩).a=a1:=⟨_,R⟩;rw[bh]at X_;have cd:=Y bh;clear bh;go_wp2_with fail
 with_reducible refine(xu ad O aa b4 O bd aA z.o.4 af (Y R) (oN a6.o) cb.o ac).mono ?_
 rintro q w6⟨rfl,rfl⟩;clear ad aa af ac z;generalize recW l o V_ u=W at*;have o0:Cl W o 0 (X s j r):=ZY X_ R;have o1:Cl W o 1 (H f):=ZY X_ R;have o2:Cl W o 2 (H a1):=ZY X_ R;have o3:Cl W o 3 (H T):=ZY X_ R;have o4:Cl W o 4 (H te):=ZY X_ R;have U_:=HR.keep<|br.5 _ HR.lt;have r0:Cl W (Z w.1+1) 0 Hq:=ZY U_ R;have r1:Cl W (Z w.1+1) 1 (H 0):=ZY U_ R;have r2:Cl W (Z w.1+1) 2 (H 0):=ZY U_ R;have r3:Cl W (Z w.1+1) 3 (H 0):=ZY U_ R;have r4:Cl W (Z w.1+1) 4 (H 0):=ZY U_ R;have rz:=Bx.thaw U_;clear U_;go_wp2_with fail
 refine YL (v:=Sa #[X s j r,H f,H a1,H T,H te]) ?_;have al:Z w.1+1<Z b.1:=oN bx.o;have aj:Z w.1<=Z w.1+1:=gX;rw[cd.o];exact⟨_,R,(((((a3.trans<|br.mono O).setCell (p:=A (Z w.1+1) 0) aj _).setCell (p:=A (Z w.1+1) 1) aj _).setCell (p:=A (Z w.1+1) 2) aj _).setCell (p:=A (Z w.1+1) 3) aj _).setCell (p:=A (Z w.1+1) 4) aj _,Zk (ke (ke (ke (ke (ke cc (a:=(A (Z w.1+1) 0)) al _) (a:=(A (Z w.1+1) 1)) al _) (a:=(A (Z w.1+1) 2)) al _) (a:=(A (Z w.1+1) 3)) al _) (a:=(A (Z w.1+1) 4)) al _) O⟩
section
attribute [local go_sem] Oper.semAt_some
theorem ZW{F n P f a b W}(h:∃v,(JC f a).run P W=.ok v W/\b (Rt v) W):LeavesInM F n P f a b [] .returning W:=h
structure PG(w:Ub)(p:N)(l:Wc)(f:List Sd)(V:Ub):Prop where
 low:Sw (Z w.1) w V
 ok:∀s∈f,((On p s).map<|US l).Nodup
theorem PG.far{f}(h:PG w n l f v)(k:Sw (Z w.1) v u):PG w n l f u:=⟨h.1.trans k,h.2⟩
theorem PG.own(a)(p:N):OwnFrom (Z a.1) (PG a p l):=λf V c row h k q=>by have:=h.1.4;exact h.far ⟨k.1,k.2,k.3,k.4,λb d=>k.5 b O λe=>by have:=(q b e.symm).1;omega⟩
def ZM(w a:Ub)(b:List Sd->Prop)(c:Code)(f:List Sd)(V:Ub):Prop:=c=.ret/\Sw (Z w.1) w V/\Z a.1<=Z V.1/\E V (A (Z w.1+3) 0)=S (Sb Sn)/\b f
theorem ZM.far{a:Ub}{b c f}(h:ZM w a b c f v)(k:Sw (Z a.1) v u)(z:Z w.1+3<Z a.1):ZM w a b c f u:=⟨h.1,h.2.1.trans (k.mono O),aJ h.2.2.1 k.4,oB k h.2.2.2.1 z,h.2.2.2.2⟩
theorem Dd(h:∀c∈l,0<=c/\c<t)(d:∀u∈s,u<J l):jn l s c↔∃v∈s,US l v=c:=by
 unfold jn US NG;constructor
 .rintro⟨v,a,b⟩;refine⟨v,a,?_⟩;rw[bF,b];rfl
 rintro⟨v,a,b⟩;refine⟨v,a,?_⟩;rw[bF,aC<|d v a,gR]at b;rw[aC<|d v a];have:=(h _<|aH (d v a)).1;exact fI S O
theorem EG(h:∀c∈l,0<=c/\c<(n:I))(a:m<J l):US l m<n:=by unfold US NG;rw[bF,aC a,gR];have:=h _<|aH a;omega
theorem My(v r c c8 bh b y)(ha:Q (Xp w c8 bh v x))(hx:Q (r=J x))(hs:Q (J x+Xx x<=1048576))(hB:bh<=Z w.1)(hO:Q (Yy w))(hT:Q (Yb w))(hZ:Q (Jn w))(Y_:Q (Xf w n m p l))(a4:Q (b=J l))(c9:m<=Z w.1)(ep:b<=1048576)(hq:Q (Ft t x=0/\0<=T/\T<=2000/\(J l:I)=t)):
 Sk prog 69 #[Sa #[H t,X v r c],X p b y,H T] w λe w'=>e=Rt (Sb<|ZC t x l T)/\Sw (Z w.1) w w':=by
 have a7:=Y λW (M:Sw (Z w.1) w W)=>Te t r c (Y<|ha.keep (M.mono hB)) hx hs (oN M.4) (Y<|hO.keep M hO.1) (Y<|hT.keep M hT.1);rw[hq.1]at a7;refine(bM (n:=10)).1 ?_;refine callsIn_of_wp_marks func69 R JV ?_ R;simp only[ntmps69,xY,Nat.reduceAdd,Nat.reduceSub];gi_wp2
 have db:(λN_:Ub=>Sw (Z w.1) w N_/\Z w.1+4<=Z N_.1/\E N_ (A (Z w.1) 0)=S (H t)/\E N_ (A (Z w.1) 1)=S (X v r c)/\E N_ (A (Z w.1+1) 0)=S (X p b y)/\E N_ (A (Z w.1+2) 0)=S (H T)/\Q (N_.rowIs (Z w.1+3) 4 1 λ_=>Sb Sn)) (D (D (D (D w<|Sc #[H t,X v r c] 45) (Sc #[X p b y] 23)) (Sc #[H T] 2)) (Sc #[Sb Sn] 4)):=⟨Xb (Xb (Xb (Xb Rf _) _) _) _,sP,SC,SC,SC,SC,(Y (by
  have h:=eK (D (D (D w<|Sc #[H t,X v r c] 45) (Sc #[X p b y] 23)) (Sc #[H T] 2)) #[Sb Sn] 4 (λ_=>Sb Sn) (λap hi=>by match ap,hi with|0,_=>rfl)
  rw[aO,aO,aO]at h;exact h))⟩
 generalize D (D (D (D w _) _) _) _=w0 at*;let⟨bc,et,c0,c1,c2,c3,bv⟩:=db;refine⟨JV,(bM.2<|a7 w0 bc).mono ?_⟩;rintro e K⟨rfl,F_⟩;have eu:=F_.4;have k0:=G (XU F_ O) c0;have k1:=G (XU F_ O) c1;have k2:=G (XU F_ O) c2;have k3:=G (XU F_ O) c3;have ar:=Y<|bv.of_block (F_.5 _ O);have k4:=ar.cell (i:=0) vY;have k5:=ar.frozen 0;have bi:=Y<|Xg bc F_;clear F_ bc c0 c1 c2 c3 bv;let⟨ci,dj,dk,cf⟩:=hq.o;obtain rfl:t=(b:I):=by rw[<-cf,a4.o]
 have a6:=Y<|XH (pM ci);clear ci cf;have du:((b:I) != (b:I))=Sn:=sP;have eg:=a6.2;have bm:Q (∀(q:N)(h:q<b),∃L_ H_,p=S (A L_ H_)/\E K (A L_<|H_+q)=S (H<|NG l q)/\∃h:q<J l,NG l q=l[q]):=Y (λq hq=>by
  have al:q<J l:=by rw[<-a4.o];exact hq
  let⟨L_,H_,e,M,h⟩:=Y_ q al;have e2:NG l q=l[q]:=by unfold NG;rw[bF,aC al];rfl
  refine⟨L_,H_,e,?_,al,e2⟩;rw[e2];exact G (XU bi O) h)
 gi_wp2
 gi_loop [30] (λap=>∃q:N,q<=b/\ap=H q/\Q (∀j,j<q->0<=NG l j/\NG l j<T)) λap=>b-(JB ap).toNat
 .exact⟨0,aN,R,Y λj h=>Sz h O⟩
 obtain⟨q,es,rfl,ba⟩:=hrel;by_cases dn:q<b
 .obtain⟨L_,H_,rfl,e0,al,eq⟩:=bm q dn;have HN:Q (¬(0<=NG l q/\NG l q<T)->ZC b x l T=Sn/\E (Se K (A (Z w.1+3) 0) (Sb Sn)) (A (Z w.1+3) 0)=S (Sb Sn)/\Sw (Z w.1) w (Se K (A (Z w.1+3) 0) (Sb Sn))):=Y λh=>⟨ZD λg=>h (by rw[eq];exact g.2.2.2.2.1 _<|aH al),fQ _ _ _ k4,bi.setCell (by show Z w.1<=Z w.1+3;omega) _⟩
  have HY:Q (0<=NG l q/\NG l q<T->∀j,j<q+1->0<=NG l j/\NG l j<T):=Y λh j g=>by
   by_cases e:j=q;·exact e▸h
   exact ba.o j O
  clear eq ba;generalize NG l q=d0 at*;have er:(q:I)<b:=O;by_cases ea:0<=d0/\d0<T
  .let⟨ec,ed⟩:=ea;gi_wp2;exact⟨⟨q+1,O,gM,Y<|HY.o O⟩,SA⟩
  obtain⟨e1,e2,e3⟩:=HN.o ea;have HB:=Y e3;have H1:=Y e1;clear e1 e3;by_cases ec:d0<0
  .gi_wp2;exact ZW ⟨Sb Sn,by simp[JC,results69,go_sem,e2],ZT H1.o,HB.o⟩
  have ed:T<=d0:=O;gi_wp2;exact ZW ⟨Sb Sn,by simp[JC,results69,go_sem,e2],ZT H1.o,HB.o⟩
 obtain rfl:q=b:=O;have aq:Q (∀c∈l,0<=c/\c<T):=Y λc hc=>by
  obtain⟨i,hi,rfl⟩:=bR hc;obtain⟨_,_,_,_,_,e⟩:=bm.o i (by have:=a4.o;omega);exact e▸ba.o i (by have:=a4.o;omega)
 clear k4 k5 ba;obtain⟨L,rfl⟩:=bX (show 0<=T by omega);gi_wp2;generalize Jd ((L:I)<0)=d1;generalize Jd (2000<(L:I))=d2;generalize (d1||d2)=d3;refine⟨JV,(Wx 9 K).mono ?_⟩;rintro e P⟨rfl,ao⟩;have ab:Sw (Z K.1) K P:=by rw[ao];exact Xb Rf _
 have ev:Z K.1+1<=Z P.1:=by rw[ao,aO];exact aA
 have b8:E P (A (Z K.1) 0)=S (H q):=by rw[ao];simp[go_sem]
 have ca:E P (A (Z K.1) 1)=S (X v r c):=by rw[ao];simp[go_sem]
 have V:=Y<|Xg bi ab;have co:=Y<|G (XU ab O) k2;have cp:=Y<|G (XU ab O) k3;have bx:=Y<|ar.of_block (ab.5 _ O);let⟨i,ce⟩:∃be,be=(q+63)/64:=⟨_,R⟩;have cw:=Y ce;have da:i<=100:=O;let⟨s,cd⟩:∃be,be=(L+63)/64:=⟨_,R⟩;have cv:=Y cd;have ed:s<=100:=O;have dl:L<=64*s:=O;have ee:=hO.1;have ef:=hT.1;have di:(3: N)<Z w.1:=aI w _<|hZ 0 vY;have ck:=Y<|ha.keep (V.mono hB);have cz:=Y<|hO.keep V hO.1;have c7:=Y<|hT.keep V hT.1;have cm:=Y b8;have cn:=Y ca;have hn:r<=1000:=oP hx.o a6.1.2;clear ab ao ce cd b8 ca k0 k1 k2 k3 dj dk du;gi_wp2
 refine nX (F:=Fence.wide) (n:=10) R vY (gf:=131) (lb:=#[Hn (Z K.1)]) R JV (enters_of func131 vZ R) (uF (λz=>z=Z w.1+3) cm cn ck hx O aA cz c7 O O a6 cw (Y λz d f e=>O) (Y λz d e=>O) (Y λe=>O) (Y λe=>O)) (λz=>un z) (λh T=>h.trans T) (λW dw H_ o' d f Z_=>Zf.putObj W dw H_ o' O f Z_) Rf (λ_ _=>R)
  (λ_=>PG P (64*i) l) (ZM w P λa5=>∃M_∈a5,¬((On (64*i) M_).map (US l)).Nodup) (λ_=>PG.own P _) (λc M_ O_ dz row h T q=>h.far ⟨T.1,T.2,T.3,T.4,λb d=>T.5 b (by have:=h.2.2.1;omega) λe=>by have:=(q b e.symm).1;omega⟩ O) (λ_ z M_ O_ A' hz h k=>h.far ⟨k.1,k.2,k.3,k.4,λL_ M=>k.5 L_ (oN h.1.4) λe=>by injection e with e;omega⟩) (λ_=>⟨λz z' M_ O_ A' _ h T=>h.far<|T.mono O,λc M_ O_ A' h T=>h.far (T.mono O) O⟩) (λz F _ _ hU=>⟨hU,λs h=>Sz h sP⟩)
  (λz a a' F=>∃u:N,a'=⟨#[Sa #[H q,X v r c],X p q y,H L,Hn (Z w.1),Hn<|Z w.1+1,Hn<|Z w.1+1+1,Hn<|Z w.1+1+1+1,Su,u8,Hn u,Sa #[H q,X v r c],H 0,Sb Sn,Sb Sn,H L,Sb d1,Sb d1,Sb d1,H L,Sb d2,Sb d3,Sb d3,X p q y,H q,Hn (Z w.1),H q,Sb Sn,Sb d3,X p q y,H q,H q,Sb Sn,u32,u33,u34,u35,u36,u37,u38,u39,u40,u41,Sa #[H q,X v r c],.func (.func 131) #[] #[Hn (Z K.1)],Sa #[Hl z i a.C],Su,Su,Su,Su,Su,Su,Su,Su],[]⟩/\Z P.1<=u/\E F (A u 0)=S (Hl z i a.C)) ?ownA ?assign ?body ?done ?stop
 case ownA=>
  rintro z a a' _ O_ F row⟨u,e,d,f⟩ k qq;refine⟨u,e,d,G (Xc<|k.5 u (aI O_ _ f) λe2=>?_) f⟩;let⟨ob,Z_,h4⟩:=Yn f;let⟨_,o2,h5,h6⟩:=qq u e2.symm;rw[show O_.1[u]?=S ob from Z_]at h5;injection h5 with h5;subst h5;rw[h4]at h6;cases h6
 case assign=>
  intro l' z a5 a F KK hz g o b4;have C:=Y g;have c6:=Y o;have ct:=Y b4;clear g o b4;unfold ru;gi_wp2;have aj:Sw (Z F.1) F (D F<|Sc #[Hl z i a.C] 126):=Xb Rf _;exact ct _ _ ⟨aj.4,λT H_ d _=>G (aj.5 T (aS.1 d).1) d⟩ (Z4 aj C.1.4) (C.far<|aj.mono C.1.4) (th c6 aj) ⟨Z F.1,R,C.1.4,SC⟩
 case body=>
  rintro l' z a5 a a' F hz em _ g o⟨u,rfl,ei,b6⟩ en;have C:=Y g;have bd:=g.1.4;have e2:=G (XU g.1 O) co;have e3:=G (XU g.1 O) cp;have Q_:=Y<|bx.of_block (g.1.5 _ O);have az:=Y<|V.trans (g.1.mono V.4);have bq:=Y λW (R_:Sw (Z F.1) F W)=>VA y (Y<|o.2.1.of_block (R_.5 z o.2.1.lt)) (Y o.2.2) (Y<|Y_.keep ((az.trans<|R_.mono az.4).mono c9)) a4 (oN R_.4) (Y<|hZ.of_block ((az.trans<|R_.mono az.4).5 _ di)) da (Y o.1) O cv (Y λc Y_=>aZ<|aq c Y_);have bo:=Y λW k j (d:Cp W k s s j) (f:XA j)=>AF k s s j W (Y f) (Y d) O;have br:=Y λW (R_:Sw (Z F.1) F W)=>Kl z i a.C a.W W (Y o.2.2) (Y<|o.2.1.of_block (R_.5 z o.2.1.lt)) O;have bt:Q (∀j,(∀c,c<64*s->(Xh j c=So↔jn l (Mq a.W<|64*i) c))->(NO j s<NO a.W i↔¬((On (64*i) a).map (US l)).Nodup)):=Y (λj h=>by
   have hl:∀bf∈Mq a.W (64*i),bf<J l:=λbf hu=>by have d:=om.1 hu;rw[<-a4.o];exact o.1 bf d.1 d.2
   rw[qV,qV];exact Eo (λc Y_=>(h c Y_).trans (Dd aq hl)) λt hv=>aX (EG aq<|hl t hv) dl)
  clear g o;gi_wp2;refine Tc (λw'=>E w' (A u 0)=S (Hl z i a.C)/\E w' (A (Z w.1+1) 0)=S (X p q y)/\E w' (A (Z w.1+2) 0)=S (H L)) λig=>?_;refine Yi 0 ?_;refine Yi 1 ?_;refine Yi 2 ?_;refine Yi 5 ?_;refine Yc 3 λa8 hK=>?_;go_simp;refine⟨JV,(CallsIn.inRound l'<|bM.2 (bq F.drew (dC (Z F.1) F).drew)).mono ?_⟩;rintro e J_⟨k,j,rfl,el,S_,cj,b7,ch⟩;have ac:Sw (Z F.1) F J_:=⟨S_.1,S_.2,S_.3,S_.4,S_.5⟩;have cl:=Y ac;have a1:=oB ac b6<|aI F _ b6;have a2:=oB ac e2<|aI F _ e2;have a3:=oB ac e3<|aI F _ e3;have bn:=Y<|bo.o J_ k j cj b7;have cq:=Y<|bt.o j ch;have b1:=Y<|br.o;have ej:=TB j s;have ek:=TB a.W i;clear ac S_ cj b7 ch;refine hK _ _ ⟨a1,a2,a3⟩ λig=>?_;clear hK;refine Yc 4 λa8 hK=>?_;go_simp;refine⟨JV,(CallsIn.inRound l'<|bM.2 bn).mono ?_⟩;rintro e K_⟨rfl,V_⟩;have ad:Sw (Z J_.1) J_ K_:=⟨V_.1,V_.2,V_.3,V_.4,V_.5⟩;have bl:=Y<|Xg cl ad;have a9:=oB ad a1<|aI J_ _ a1;have ba:=oB ad a2<|aI J_ _ a2;have bb:=oB ad a3<|aI J_ _ a3;have b3:=Y<|b1.o K_ bl;generalize NO j s=nT at*;generalize NO a.W i=nV at*;clear ad V_;refine hK _ _ ⟨a9,ba,bb⟩ λig=>?_;clear hK;refine Yc 6 λa8 hK=>?_;go_simp;refine⟨JV,(CallsIn.inRound l'<|bM.2 b3).mono ?_⟩;rintro e U7⟨rfl,X_⟩;have af:Sw (Z K_.1) K_ U7:=⟨X_.1,X_.2,X_.3,X_.4,X_.5⟩;have B:=Y<|Xg bl af;have g1:=oB af a9<|aI K_ _ a9;have g2:=oB af ba<|aI K_ _ ba;have g3:=oB af bb<|aI K_ _ bb;clear af X_;refine hK _ _ ⟨g1,g2,g3⟩ λig=>?_;clear hK;refine Yc 7 λa8 hK=>?_;go_simp;refine hK _ _ kP λig=>?_;clear hK;refine ZV ?_;clear ig;have b0:=Y<|Q_.of_block (B.5 _ Q_.lt);have r7:=b0.cell (i:=0) vY;have f7:=b0.frozen 0;by_cases eo:(nT:I)<nV
  .gi_wp2;have cb:Zf (Z P.1) (λz=>z=Z w.1+3) F (Se U7 (A (Z w.1+3) 0) (Sb Sn)):=(Z4 B bd).trans (Zg ⟨R,R,R,SH,λT _ hk=>cY λe=>hk<|by rw[e]⟩ R (oN B.4));refine⟨⟨cb.1,λz ob d f Z_=>G (cY<|by show z≠Z w.1+3;omega) (G (B.5 z (aS.1 f).1) f)⟩,cb,R,(az.trans<|B.mono az.4).setCell (by show Z w.1<=Z w.1+3;omega) _,by rw[Xd];exact aJ bd B.4,fQ _ _ _ r7,a,fB _<|cS.2 R,cq.1 O⟩
  gi_wp2;exact⟨⟨B.4,λz ob d f Z_=>G (B.5 z (aS.1 f).1) f⟩,Z4 B bd,C.1.trans<|B.mono bd,λs h=>(bU.1 h).elim (C.2 s) λh=>by rw[cS.1 h];exact Classical.not_not.1 λh=>by have:=cq.2 h;omega⟩
 case done=>
  rintro P_ z ss F hD hz dc g a0;have HP:Q (ZC q x l L=So):=Y<|ZF ⟨hq.1,hq.2.1,hq.2.2.1,hq.2.2.2,aq.o,λl h=>by rw[show((q:I)).toNat=q from R,<-hx.o,<-dc]at h;obtain⟨s,y,rfl⟩:=aY.1 h;exact g.2 s y⟩;have C:=Y g;have cr:=Y a0;have Q_:=Y<|bx.of_block (g.1.5 _ O);have r7:=Q_.cell (i:=0) vY;have f7:=Q_.frozen 0;have ec:=(aS.1 a0).1;clear g a0 dc;gi_wp2
  have cs:Q ((Se F (A (Z w.1+3) 0) (Sb So)).1[P_]?=S (.deferred (S []))):=Y (G (cY<|by show P_≠Z w.1+3;omega) cr);have ds:E ((Se F (A (Z w.1+3) 0) (Sb So)).putObj P_ (.deferred U)) (A (Z w.1+3) 0)=S (Sb So):=by refine G (bZ (a:=(A (Z w.1+3) 0)) (World.putObj_heap_other<|show Z w.1+3≠P_ by omega)) ?_;simpa using(Q_.set 0<|Sb So).cell (i:=0) vY
  refine YK cs ⟨Sb So,by simp[JC,results69,go_sem,ds],?_⟩;have df:=V.trans<|C.1.mono V.4;have aa:Sw (Z w.1) w (Se F (A (Z w.1+3) 0) (Sb So)):=df.setCell (by show Z w.1<=Z w.1+3;omega) _;have hg:=grownBy_putObj' (Se F (A (Z w.1+3) 0) (Sb So)) P_ (.deferred U);have ey:=V.4;exact⟨ZT HP.o,G hg.1 aa.1,G hg.2 aa.2,G hg.3 aa.3,aJ aa.4 hg.4,λz hz=>G (World.putObj_heap_other O) (aa.5 z hz)⟩
 rintro P_ c' a5 F hD dd⟨rfl,k1,k2,k3,M_,hs,M⟩ a0;have HP:Q (ZC q x l L=Sn):=Y<|ZD λh=>M (h.2.2.2.2.2 _ (by rw[show((q:I)).toNat=q from R,<-hx.o];exact dd.subset<|aY.2 ⟨M_,hs,R⟩));have aa:=Y k1;have cr:=Y a0;have ey:=V.4;have ds:E (F.putObj P_ (.deferred U)) (A (Z w.1+3) 0)=S (Sb Sn):=G (bZ (a:=(A (Z w.1+3) 0)) (World.putObj_heap_other<|show Z w.1+3≠P_ by omega)) k3
 clear k1 k3 a0 M;gi_wp2;refine YK cr ⟨Sb Sn,by simp[JC,results69,go_sem,ds],?_⟩;have hg:=grownBy_putObj' F P_ (.deferred U);exact⟨ZT HP.o,G hg.1 aa.1,G hg.2 aa.2,G hg.3 aa.3,aJ aa.4 hg.4,λz hz=>G (World.putObj_heap_other O) (aa.5 z hz)⟩
end
theorem Ke{b}(ha:Q (Yx w k B p b))(o:Q (Yx w g i P b))(q:Q (n=J b))(K:n<=1000000000)(u:B<=Z w.1)(v:i<=Z w.1):
 Sk prog 9 #[X p n c,X P n m] w λl r=>l=Rt (Sb So)/\Sw (Z w.1) w r:=by
 go_in
 go_wp2
 go_loopw [5] (λe wr=>∃a:N,a<=n/\e=H a/\Sw (Z w.1) w wr) λe _=>n-(JB e).toNat
 .exact⟨0,aN,R,Rf⟩
 obtain⟨a,z,rfl,d⟩:=hrel;by_cases L:a<n
 .have j:a<J b:=oN q.o;obtain⟨s,F,rfl,⟨_,x⟩,f⟩:=ha a j;obtain⟨t,M,rfl,⟨_,y⟩,h⟩:=o a j;have T:(0:I)<=a:=O;have C:(a:I)<n:=O;have e1:=G (XU d O) f;have e2:=G (XU d O) h;generalize (b[a].toNat:I)=V at*;go_wp2;go_region;go_wp2;exact⟨⟨a+1,O,gM,d.drew⟩,SA⟩
 go_wp2;go_ret;exact⟨R,d⟩
def zm(w:Ub)(L B:N)(a:Uy)(k:I)(n:N):Prop:=∀q,q<n->∃b o,a=S ⟨b,o,U⟩/\(L<=b/\b<B)/\E w ⟨b,o+q,U⟩=S (Si .u8 ((k+(q:N))%256))
theorem I5{y}(ha:Q (Yx w m k p y))(K:Q (n=J y))(F:Q (iy m k w))(O_:n<=1000000000)(K_:0<=t)(L_:t<=1000000000):
 Sk prog 11 #[X p n c,H t] w λe x=>e=Rt (H<|t+n)/\N8 m k w x/\zm x m k p t n:=by
 go_in
 go_wp2
 go_loopw [1,5] (λL i wr=>∃j:N,j<=n/\i=H j/\L=H (t+j)/\Q (N8 m k w wr)/\Q (iy m k wr)/\Q (∀q,q<n->∃b o v,p=S (A b o)/\(m<=b/\b<k)/\E wr (A b<|o+q)=S (Si .u8 v))/\Q (zm wr m k p t j)) λ_ i _=>n-(JB i).toNat
 .refine⟨0,aN,R,sP,Y<|N8.of_below Rf,F,Y λq hq=>?_,Y λq hq=>Sz hq O⟩;let⟨b,o,e,B,d⟩:=ha q<|oN K.o;exact⟨b,o,_,e,B,d⟩
 obtain⟨j,N_,rfl,rfl,r,u,l,s⟩:=hrel;by_cases M:j<n
 .obtain⟨b,o,v,rfl,a,d⟩:=l j M;have M_:=u b (o+j) a;go_wp2;refine⟨⟨j+1,O,gM,gM,Y (r.trans ⟨R,R,R,SH,λq _ hq=>cY<|by dsimp only;omega⟩),Y<|u.setCell _ _,Y λq hq=>?_,Y λq hq=>?_⟩,SA⟩
  .by_cases e:q=j
   .subst e;exact⟨b,o,_,R,a,fQ _ _ _ d⟩
   let⟨z,T,V,f,C,g⟩:=l q hq;cases f;exact⟨b,o,V,R,a,by rw[cJ<|by intro h;injection h with _ W;omega];exact g⟩
  by_cases e:q=j
  .subst e;exact⟨b,o,R,a,fQ _ _ _ d⟩
  let⟨z,T,f,C,g⟩:=s q O;cases f;exact⟨b,o,R,a,by rw[cJ<|by intro h;injection h with _ W;omega];exact g⟩
 have D_:j=n:=O;subst D_;go_wp2;go_ret;exact⟨R,r,s⟩
theorem zL:∀(ls:Vw)(i:N)(s a:NX),dy ls i s=.ok a->TT a<=TT s+Tn ls
 |[],i,s,a,h=>by simp only[dy,Bd.ok.injEq]at h;subst h;omega
 |l::ls,i,s,a,h=>by
  have e:Tn (l::ls)=J l+Tn ls:=by simp[Tn]
  cases hl:bk s l with
  |bad c=>simp only[dy,hl]at h;cases h
  |ok s1=>
   simp only[dy,hl]at h;have b:=sw hl;have d:=zL ls (i+1) s1 a h;omega
theorem LF(a):J (C2 a).3.2+Xx (C2 a).3.2<=100000:=by
 unfold C2;split;·simp[au,Xx]
 rename_i e;split;·simp[au,Xx]
 unfold p8;split;·simp[au,Xx]
 unfold mi;split;·simp[au,Xx]
 rename_i s d;split;·simp[au,Xx]
 rename_i c;split
 .have b:=zL _ _ _ _ d
  have f:=yW a;have g:Tn (Fa a).tail<=Tn (Fa a):=by
   cases Fa a with
   |nil=>simp[Tn]
   |cons l r=>simp[Tn]
  simp only[TT,c]at b;simp only[Xx,fZ,List.sum_nil,bO]at b;show J s.1+Xx s.1<=100000;unfold Xx;omega
 simp[au,Xx]
theorem Qb:(prog.info? 5).map (λi=>(i.8,i.3,i.4))=S (S<|Si .u8 0,1,1):=vZ
theorem pL{d}(ha:Q (Yx w m k p d))(q:Q (n=J d))(K:n<=1048576)(B:k<=Z w.1):
 Sk prog 5 #[X p n c] w λe h=>e=Rt (Hl (Z w.1) n n)/\Sw (Z w.1) w h/\Yx h (Z w.1) (Z h.1) (S ⟨Z w.1,0,U⟩) d/\ij (Z w.1) h:=by
 have F:=fM (P:=prog) 22 5 (Si .u8 0) 1 underlying22 Qb R S6 S6 n O O
 go_in
 go_wp2
 go_loopw [4] (λr wr=>∃a:N,a<=n/\r=Si S6 a/\Sw (Z w.1) w wr/\Q (ij (Z w.1) wr)/\Q (∃f,wr.rowIs (Z w.1) 5 n f/\∀j (s:j<J d),j<a->f j=Si .u8 (d[j].toNat:I))) λr _=>n-(JB r).toNat
 .exact⟨0,aN,R,Xb Rf _,(ij.start _).alloc _ _,⟨_,dG _ _ _ _,λj _ s=>Sz s O⟩⟩
 obtain⟨a,L,rfl,o,u,i⟩:=hrel;by_cases z:a<n
 .have y:a<J d:=oN q.o;obtain⟨M,P,rfl,⟨_,C⟩,t⟩:=ha a y;have e1:=G (XU o O) t;obtain⟨f,b,g⟩:=i.o;have e2:=b.cell z;have e3:=b.frozen a;have v:=Y g;have x:=Y b;clear t i g b;go_wp2;refine⟨⟨a+1,O,gM,o.setCell aA _,u.setCell _ _,⟨_,x.set a _,λj l T=>?_⟩⟩,SA⟩;by_cases e:j=a;·subst e;simp
  simp only[e,fD];exact v j l O
 go_wp2;go_ret;obtain⟨f,b,g⟩:=i.o;refine⟨R,o,λj l=>⟨Z w.1,0,R,⟨aA,b.lt⟩,?_⟩,u⟩;rw[aV,b.cell<|oN q.o,g j l<|oN q.o]
