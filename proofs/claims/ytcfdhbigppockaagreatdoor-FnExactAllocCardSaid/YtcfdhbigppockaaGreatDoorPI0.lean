import Derived.Test.YtcfdhbigppockaaGreatDoorFV1
import Derived.Test.YtcfdhbigppockaaGreatDoorPB0
import Derived.Test.YtcfdhbigppockaaGreatDoorLO0
namespace Go.Proofs.YtcfdhbigppockaaGreatDoor
set_option maxHeartbeats 4000000
set_option maxRecDepth 1000000
open Go.RowKit Go.Shelf Go.Proofs.Tryz
variable{r:Bool}{t T z:Int}{y:List Value}{n m k B g i j c:Nat}{p P:Option Addr}{w v:Ub}{a A:Uj}{p P:Uy}{a A:Value}{M N:Vp}{s:Wa}{l L:Wc}{x:Wi}{f F:Wk}{y:Wo}{v:World}{q:Xe}
section
attribute [local go_sem] Oper.semAt_some
theorem vF(n:Nat){v1 v2 v3 v4 v5:Uj}(g b C:Nat)(w:Ub):
 CallsIn Fence.wide n prog 110 #[.agg #[a,v1,v2,v3,v4,v5],.agg #[.slice (some ⟨g,0,none⟩) b C]] w λe c=>e=.returned (.func (.func 155) #[] #[.pointer (some ⟨w.1.size+1,0,none⟩),.pointer (some ⟨w.1.size,0,none⟩)])/\c=(w.alloc<|.cells #[a,v1,v2,v3,v4,v5] 60).alloc (.cells #[.slice (some ⟨g,0,none⟩) b C] 103):=by
 refine iD func110 rfl trivial ?_ rfl;simp only[ntmps110,xY,Nat.reduceAdd,Nat.reduceSub];gi_wp2;go_ret;exact⟨rfl,rfl⟩
end
section
attribute [local go_sem] Oper.semAt_some
theorem Po.lou{go:Wk}(h:Po w v m k x B g f go F M N)(e:Jy n x)(s:m=x.length):∀b,b<m->∀a,a<64*k->(Xh (N b) a=true↔UV x a b):=λb j a i=>by
 let⟨I,T,r,o,q1,q2,q3,q4,p,q⟩:=h.8;have l:=λb j a i=>(p b j a i).trans (Ff e q1 q2 q3 (ord:=(·∈o)) q4 oM);have d:b<x.length:=oM;rw[q b j a,q3 b d,<-KE e d];constructor
 .rintro(h|⟨t,c,h⟩);·exact bC h
  exact aZ ⟨t,c,(l t (oN<|e.1.tg _ d _ c) a i).1 h⟩
 rintro(h|⟨t,c,h⟩);·exact bC h
 exact aZ ⟨t,c,(l t (oN<|e.1.tg _ d _ c) a i).2 h⟩
theorem FW(x:Xe)(a:Wk)(b:i<=x.2.length):∃W,(i,W)∈TZ x.2.length a (NS x):=by
 rw[qw];cases i with
 |zero=>exact⟨_,fB _<|cS.2 rfl⟩
 |succ j=>
  refine⟨_,dD _<|aY.2 ⟨⟨j,b⟩,?_,rfl⟩⟩;unfold Us;rw[aW sP];exact kU.2<|lX _
end
section
noncomputable def mm(a:List Xe)(V b:Nat):List (List Nat):=match a[b]? with
 |none=>[]
 |some x=>((Us x.2.length 0).map λj:Fin x.2.length=>Uq a x V b<|(j:Nat)+1)++[Uq a x V b 0]
noncomputable def Zw(a:Wi)(V k:Nat):List Wa:=(List.range k).flatMap (mm a V)
theorem VJ{a:Wi}{V k:Nat}:Zw a V (k+1)=Zw a V k++mm a V k:=by
 unfold Zw;rw[dN,eZ];simp
theorem Bg(a:Wi)(V:Nat){k n:Nat}(h:k<=n):Zw a V k <+: Zw a V n:=by
 induction n with
 |zero=>rw[show k=0 by omega];exact mD _
 |succ n b=>
  by_cases e:k=n+1;·rw[e];exact mD _
  rw[VJ];exact(b oM).trans (List.prefix_append _ _)
theorem CZ{V:Nat}{a:Wi}(f:Jy V a){b:Nat}(d:b<a.length){c:Wk}{p:Nat}(e:V<=p)(hq:∀v,v<p->(Xh c v=true↔UV a v b)):(TZ a[b].2.length c (NS a[b])).map (λq=>Mq q.2 p)=mm a V b:=by
 rw[gH (g:=λq=>Uq a a[b] V b q.1) λq h=>wW f d e hq (i:=q.1) (W:=q.2) h,qw];unfold mm;rw[aC d];simp
def On(p:Nat)(s:Sd):Wa:=Mq s.W p
theorem vd{p:Nat}{a:List Sd}:a.map (On p)=(a.map Sd.dat).map (λq=>Mq q.2 p):=by
 rw[jO];rfl
def pm(V a z:Nat)(p:Sd)(U:Ub):Prop:=N1 V a p.W/\xn a z p U
def ru(a z:Nat)(s:Sd):Zh:=#[.agg #[.slice (some ⟨z,0,none⟩) a s.C]]
theorem Zf.far{n₀:Nat}{Ms:Vv}{u A V:Ub}(h:Zf n₀ Ms u A)(e:n₀<=u.1.size)(k:∀q,q<u.1.size->V.1[q]?=A.1[q]?)(d:A.1.size<=V.1.size):Zf n₀ Ms u V :=
 ⟨aJ h.1 d,λq b a=>(k q oM).trans (h.2 q b a),λq o b a c=>(k q (aS.1 a).1).trans (h.3 q o b a c)⟩
theorem Kd{B:Nat}{u A V:Ub}(h:KeepsFrom B u A)(k:∀q,q<u.1.size->V.1[q]?=A.1[q]?)(d:A.1.size<=V.1.size):KeepsFrom B u V :=
 ⟨aJ h.1 d,λq o b a c=>(k q (aS.1 a).1).trans (h.2 q o b a c)⟩
structure O8(W u:Ub)(n₀:Nat)(Ms:Vv)(J:Nat->List Sd->Vy)(s0:List Sd)(z:Nat)(ss:List Sd)(V:Ub):Prop where
 j:J z (s0++ss) V
 kp:Zf n₀ Ms u V
 kf:KeepsFrom W.1.size u V
structure Pk(W u:Ub)(Jx:List Sd->Vy)(s0 ss:List Sd)(V:Ub):Prop where
 j:Jx (s0++ss) V
 kf:KeepsFrom W.1.size u V
section
variable {W u: Ub} {n₀: Nat} {Ms: Nat -> Prop} {J: Nat -> List Sd -> Ub -> Prop} {Jx: List Sd -> Ub -> Prop} {s0: List Sd}
theorem O8.own(b:∀z,OwnFrom W.1.size<|J z)(d:W.1.size<=u.1.size)(c:n₀<=u.1.size)(z:Nat):OwnFrom u.1.size (O8 W u n₀ Ms J s0 z):=λj A V row h k q=>by
 have g:=h.2.1;have a:∀i,i<u.1.size->V.1[i]?=A.1[i]?:=λi f=>k.5 i oM (λe=>by have:=(q i e.symm).1;omega);exact⟨b z _ A V row h.j k λr e=>⟨oN<|(q r e).1,(q r e).2⟩,h.2.far c a k.4,Kd h.3 a k.4⟩
theorem Pk.own(a:OwnFrom W.1.size Jx)(c:W.1.size<=u.1.size):OwnFrom u.1.size (Pk W u Jx s0):=λg A V row h k q=>by
 have f:=h.2.1;have b:∀i,i<u.1.size->V.1[i]?=A.1[i]?:=λi d=>k.5 i oM (λe=>by have:=(q i e.symm).1;omega);exact⟨a _ A V row h.j k λr e=>⟨oN<|(q r e).1,(q r e).2⟩,Kd h.2 b k.4⟩
theorem O8.turn(d:∀z s V a,W.1.size<=z->J z s V->V.grownBy a (some z)->J z s a)(g:W.1.size<=u.1.size)(f:n₀<=u.1.size){z:Nat}(m:u.1.size<=z){c:List Sd}{A V:Ub}(h:O8 W u n₀ Ms J s0 z c A)(k:A.grownBy V (some z)):O8 W u n₀ Ms J s0 z c V:=by
 have l:=h.2.1;have b:∀i,i<u.1.size->V.1[i]?=A.1[i]?:=λi j=>k.5 i oM (λe=>by injection e with e;omega);exact⟨d z _ A V oM h.j k,h.2.far f b k.4,Kd h.3 b k.4⟩
end
end
section
attribute [local go_sem] Oper.semAt_some
theorem uF(L:Vv)(cz:w.cell? (Hk m 0)=some (Hp g))(ez:w.cell? (Hk m 1)=some (.slice p i c))(ha:Hs (Xp w k B p x))(hx:Hs (i=x.length))(hB:B<=n)(fq:n<=w.1.size)(hO:Hs (Yy w))(hT:Hs (Yb w))(c6:(1: Nat)<n)(c7:(2: Nat)<n)(E:Hs (Jy g x))(b4:Hs (j=(g+63)/64))(hM:Hs (∀a,k<=a->a<B->¬L a))(V:Hs (∀a,w.1.size<=a->¬L a))(cr:Hs (¬L 1))(cs:Hs (¬L 2)):
 lf Fence.wide 9 prog 109 #[Hn m] (ru j) (pm g j) (Zf n L) (λh=>h.map (On<|64*j)=Zw x g i) (λh=>h.map (On<|64*j) <+: Zw x g i) (i*4002) True True w:=by
 intro z bv Jx W hW hl hJ co cp cn hY h0;have HY:=Xa hY;have HJ:=Xa hJ;have ej:=Xa co;have ek:=Xa<|cp trivial;have bm:=Xa<|cn trivial;have H0:=Xa h0;clear hY hJ cp h0 co cn;have di:=hW.4;have hn:i<=1000:=oP hx.o E.1.2;have hV:=E.2;have ev:j<=100:=oN b4.o;have cw:g<=64*j:=oN b4.o;have cm:m<w.1.size:=aI w _ cz;have k0:=oB hW cz cm;have k1:=oB hW ez cm;refine callsIn_of_wp_marks func109 rfl trivial ?_ rfl;simp only[ntmps109,xY,Nat.reduceAdd,Nat.reduceSub];have dj:=λA=>(bP W A (Hk m 0) (by show m<_;omega)).trans k0;have dk:=λA=>(bP W A (Hk m 1) (by show m<_;omega)).trans k1;gi_wp2;have bh:Hs (Below W.1.size W<|W.alloc (.cells #[.func (.yield z) #[] #[]] 191)):=Xa<|Xb (Below.refl _ _) _;have df:(W.alloc<|.cells #[.func (.yield z) #[] #[]] 191).cell? (Hk W.1.size 0)=some (.func (.yield z) #[] #[]):=by simp[go_sem]
 have fz:(W.alloc<|.cells #[.func (.yield z) #[] #[]] 191).1.size=W.1.size+1:=sP;have a0:=dj<|.cells #[.func (.yield z) #[] #[]] 191;have a1:=dk<|.cells #[.func (.yield z) #[] #[]] 191;generalize W.alloc _=wa at*;clear dj dk k0 k1;have bi:=Xa<|hW.trans (bh.mono di);have bl:=Xa<|KO g p i c x k B wa (Xa<|ha.keep (bi.mono oM)) hx oM E (Xa<|hO.keep bi hO.1) (Xa<|hT.keep bi hT.1);rw[<-b4.o]at bl;refine⟨trivial,(bM.2 bl).mono ?_⟩;rintro bd s⟨Gi,t,gi,go,ci,WI,WX,rfl,r⟩;have ca:=Xa<|r.lou E hx;have b5:=Xa r.1;have fr:=r.1.4;have fb:wa.1.size<=t/\t<s.1.size:=⟨r.6.2,r.3.1.lt⟩;have ch:=Xa r.3;have eg:=Xa λe7 hi=>(r.7 e7 hi).2;have es:Hs (∀F,XA<|WX F):=Xa r.5;have b0:=(XU r.1 oM).trans a0;have b1:=(XU r.1 oM).trans a1;have y1:=(XU r.1 oM).trans df;have eu:=λA=>(bP s A (Hk m 1) (by show m<_;omega)).trans b1;clear r bl a0 a1 df;gi_wp2;have bx:(λx9:Ub=>Hs (Below s.1.size s x9)/\x9.cell? (Hk s.1.size 1)=some (Hl t i i)/\x9.1.size=s.1.size+1) (s.alloc<|.cells #[Hl Gi i i,Hl t i i] 106):=⟨Xa<|Xb (Below.refl _ _) _,(by simp[go_sem]),sP⟩;generalize s.alloc _=w2 at*;let⟨a8,c9,fs⟩:=bx;have ck:=Xa<|Xg (Xg bh b5) a8;have cl:=Xa<|hW.trans (ck.mono di);have et:=Xa<|(XU a8 oM).trans y1;have en:=Xa c9;have bq:Hs (XK w2 t i j go (λ_=>j) WX):=Xa<|ch.keep a8;have ad:=Xa<|H0.o W.1.size w2 aA oM ck;clear c9 y1 b0 b1 eu a8 b5 ch bh;refine nH (λaa wr=>∃(a K:Nat)(T:Wa)(h:List Sd)(u4 u5 dl dn du dw dz d0 eb u21 u22 ec ed u31:Uj),a<=i/\aa=⟨#[.func (.yield z) #[] #[],Hn m,Hn W.1.size,Hn s.1.size,u4,u5,undef,undef,.agg #[Hp g,.slice p i c],.agg #[Hl Gi i i,Hl t i i],Ho m 1,.slice p i c,Hp i,Hp a,dl,dn,du,dw,dz,d0,eb,u21,u22,ec,ed,undef,undef,undef,undef,undef,undef,u31],O7 T⟩/\Hs (Zf n L w2 wr)/\Hs (KeepsFrom W.1.size w2 wr)/\Hs (ZJ wr w2.1.size T)/\W.1.size<=K/\Hs (bv K h wr)/\Hs (h.map (On<|64*j)=Zw x g a)/\Hs (h.length<=a*4002)) (λaa _=>i-(intOf<|aa.1.getD 13 undef).toNat) ?_ ?_;·exact⟨0,W.1.size,[],[],_,_,_,_,_,_,_,_,_,_,_,_,_,_,aN,rfl,Xa<|Zf.refl _,Xa<|KeepsFrom.refl _ _,Xa ⟨iU,λ_ l=>absurd l eA,λ_ l=>absurd l eA⟩,aA,ad,Xa rfl,Xa<|aN⟩
 rintro aa wr⟨a,K,T,h,u4,u5,dl,dn,du,dw,dz,d0,eb,u21,u22,ec,ed,u31,hk,rfl,ap,el,S,hz,b7,bt,b8⟩;clear ad;have f7:=ap.1;by_cases M:a<i
 .have ab:a<x.length:=oN hx.o;let⟨F,af,ea,cx,hc⟩:=ha a ab;subst ea;let⟨P,Q,N,O,e0,e1,⟨e2,e3,e4,e5⟩,db,c8⟩:=hc;have ey:F<w.1.size:=oM;have Z:∀(q:Nat)(C:Uj),w.cell? (Hk F q)=some C->wr.cell? (Hk F q)=some C:=λq C l=>ap.cell (oB cl l ey) (hM F cx.1 cx.2);have f0:=Z _ _ e0;have f1:=Z _ _ e1;have f2:=Z _ _ e2;have f3:=Z _ _ e3;have f4:=Z _ _ e4;have f5:=Z _ _ e5;have cf:=Xa db;have b6:=Xa c8;have aq:=Xa<|E.10 x[a] (aH ab);have ce:=Xa<|qF E (aH ab);have cd:=Xa<|E.3 x[a] (aH ab);have cj:=Xa<|E.4 x[a] (aH ab);have br:=Xa<|CZ E ab cw (ca a M);let⟨X,hX⟩:∃X,X=x[a]:=⟨_,rfl⟩;rw[<-hX]at f0 f1 f2 f3 f4 f5 cf b6 aq ce cd cj br;clear hX db c8 e0 e1 e2 e3 e4 e5 Z;gi_wp2
  have bx:(λx9:Ub=>Below wr.1.size wr x9/\wr.1.size+1<=x9.1.size/\(∀q C,#[Value.slice P X.1.length Q,.slice N X.2.length O,Hp X.3.1,Hp X.3.a,Hp X.3.3,Hp X.3.4][q]?=some C->x9.cell? (Hk wr.1.size q)=some C)) (wr.alloc<|.cells #[.slice P X.1.length Q,.slice N X.2.length O,Hp X.3.1,Hp X.3.a,Hp X.3.3,Hp X.3.4] 60):=⟨Xb (Below.refl _ _) _,sP,(λq C l=>by
   rw[eC];exact l)⟩
  generalize wr.alloc _=f at*;let⟨be,f6,ac⟩:=bx;have x0:=ac 0 _ rfl;have x1:=ac 1 _ rfl;have x2:=ac 2 _ rfl;have x3:=ac 3 _ rfl;have x4:=ac 4 _ rfl;have x5:=ac 5 _ rfl;have s1:=(be.cell (p:=Hk s.1.size 1) (by show s.1.size<_;omega)).trans (ap.cell en<|V _ (by show w.1.size<=s.1.size;omega));have s2:=(be.cell (p:=Hk t a) (by show t<_;omega)).trans (ap.cell (bq.1.cell M) (V _<|by show w.1.size<=t;omega));have ee:=Xa be;clear be ac f0 f1 f2 f3 f4 f5;refine Tc (λR=>R.cell? (Hk wr.1.size 0)=some (.slice P X.1.length Q)/\R.cell? (Hk wr.1.size 1)=some (.slice N X.2.length O)/\R.cell? (Hk wr.1.size 2)=some (Hp X.3.1)/\R.cell? (Hk wr.1.size 3)=some (Hp X.3.a)/\R.cell? (Hk wr.1.size 4)=some (Hp X.3.3)/\R.cell? (Hk wr.1.size 5)=some (Hp X.3.4)/\R.cell? (Hk s.1.size 1)=some (Hl t i i)/\R.cell? (Hk t a)=some (Hl (go a) j j)) λhHeld=>?_;refine Yi 0 ?_;refine Yi 1 ?_;refine Yi 2 ?_;refine Yi 3 ?_;refine Yi 4 ?_;refine Yi 5 ?_;refine Yc 6 λe9 hK=>?_;go_simp;refine⟨trivial,(vF 8 (go a) j j f.drew).mono ?_⟩;rintro bd u⟨rfl,a7⟩;have b3:Below f.1.size f u:=by rw[a7];exact Xb (Xb (Below.refl f.1.size f).drew _) _
  have fx:f.1.size+2<=u.1.size:=by rw[a7,aO,aO];exact aA
  have Y:∀q C,#[Value.slice P X.1.length Q,.slice N X.2.length O,Hp X.3.1,Hp X.3.a,Hp X.3.3,Hp X.3.4][q]?=some C->u.cell? (Hk f.1.size q)=some C:=λq C l=>by
   rw[a7,bP _ _ (Hk f.1.size q) (by rw[aO];show f.1.size<f.1.size+1;omega)];exact(eC f.drew _ _ q).trans l
  have dc:u.cell? (Hk (f.1.size+1) 0)=some (Hl (go a) j j):=by
   rw[a7];have:=eC (f.drew.alloc<|.cells #[.slice P X.1.length Q,.slice N X.2.length O,Hp X.3.1,Hp X.3.a,Hp X.3.3,Hp X.3.4] 60) #[Hl (go a) j j] 103 0;rw[aO]at this;exact this
  have H:=λ(bb q:Nat)(hb:bb<f.1.size)=>b3.cell (p:=Hk bb q) hb;have z0:=(H wr.1.size 0 oM).trans x0;have z1:=(H wr.1.size 1 oM).trans x1;have z2:=(H wr.1.size 2 oM).trans x2;have z3:=(H wr.1.size 3 oM).trans x3;have z4:=(H wr.1.size 4 oM).trans x4;have z5:=(H wr.1.size 5 oM).trans x5;have t1:=(H s.1.size 1 oM).trans s1;have t2:=(H t a oM).trans s2;have al:=Xa<|Xg ee b3;have ba:=Xa<|ap.trans (Zf.of_below al oM);have ef:=Xa (el.trans ⟨al.4,λq A _ b _=>(al.5 q (aS.1 b).1).trans b⟩);have a6:=λq d b=>(ba.2 q d b).trans (cl.5 q oM)
  have ep:Hs (UI X k B f.1.size n u.1.size u):=Xa ⟨hO.of_block (a6 _ c6 cr) oM,hT.of_block (a6 _ c7 cs) oM,⟨P,Q,N,O,Y 0 _ rfl,Y 1 _ rfl,⟨Y 2 _ rfl,Y 3 _ rfl,Y 4 _ rfl,Y 5 _ rfl⟩,cf.keepS λq d b=>a6 q oM<|hM q d b,b6.keepS λq d b=>a6 q oM<|hM q d b⟩,oM,oM,c6,c7,oM⟩;have fi:=eg a M;have er:Hs (Cp u (go a) j j (WX a)):=Xa ((bq.2 a M).of_block (by
   let⟨A,d,b⟩:=(bq.2 a M).obj;rw[d];exact ba.3 _ A (V _ oM) d b))
  have eo:=Xa dc;have ei:Hs (∀e V',u.1.size<=e->Below u.1.size u V'->bv e h V'):=Xa λe V' d b=>bm.1 K e h wr V' oM b7<|(al.mono oM).trans (b.mono oM);refine hK _ _ ⟨z0,z1,z2,z3,z4,z5,t1,t2⟩ λhHeld=>?_;clear hK;refine ZV ?_;have cb:Hs (∀(D:Nat)(U:Ub),u.1.size<=D->KeepsFrom W.1.size u U->U.1[D]?=some (.deferred (some []))->ZJ U w2.1.size (D::T)):=Xa (λD U d b v=>by
   have hl:=λq hq=>(aS.1<|S.3 q hq).1;refine⟨fL.2 ⟨λhq=>by have:=hl D hq;omega,S.1⟩,λq hq=>?_,λq hq=>?_⟩
   .rcases cH.1 hq with rfl|hq;·omega
    exact S.2 q hq
   obtain rfl|hq:=cH.1 hq;·exact v
   have h5:=S.2 q hq
   exact b.2 q _ oM ((al.5 q<|hl q hq).trans (S.3 q hq)) rfl)
  clear hHeld z0 z1 z2 z3 z4 z5 t1 t2 x0 x1 x2 x3 x4 x5 s1 s2 dc H b3 Y a7 a6;gi_wp2
  refine nX (F:=Fence.wide) (n:=9) rfl vY (gf:=155) (lb:=#[Hn<|f.1.size+1,Hn f.1.size]) rfl trivial (enters_of func155 vZ rfl) (tU L ep eo er (Xa<|es.o a) ev cw hM (Xa<|V.o _ oM) (Xa λq hq=>V q oM) cr cs cd cj aq.1 aq.2 ce (Xa λe8 d b=>((ca a M e8 d).1 b).val E ab)) (λK=>qj _ _ _ _ K) (λl a=>l.trans a) (λW z af o' d b v=>Zf.putObj W z af o' oM b v) (Below.refl _ _) (λ_ _=>rfl)
   (λe=>O8 W u n L bv h e) (λcc J U=>cc=.ret/\Pk W u Jx h J U) (λe=>O8.own HJ oM oM e) ?ownX (λ_ e ga aj A' bf l ar=>l.turn ek oM oM bf ar) (λl=>l.elim) ?start
   (λe I a' U=>∃G:Nat,a'=⟨#[.func (.yield z) #[] #[],Hn m,Hn W.1.size,Hn s.1.size,Hp a,Hn wr.1.size,undef,Hn G,.agg #[Hp g,Hm F af i c],.agg #[Hl Gi i i,Hl t i i],Ho m 1,Hm F af i c,Hp i,Hp a,.bool true,Hp a,Ho F<|af+a*6,.agg #[.slice P X.1.length Q,.slice N X.2.length O,Hp X.3.1,Hp X.3.a,Hp X.3.3,Hp X.3.4],.agg #[.slice P X.1.length Q,.slice N X.2.length O,Hp X.3.1,Hp X.3.a,Hp X.3.3,Hp X.3.4],Ho s.1.size 1,Hl t i i,Hp a,Ho t a,.agg #[Hl (go a) j j],.func (.func 155) #[] #[Hn<|f.drew.1.size+1,Hn f.drew.1.size],Hp (I.i:Int),.agg #[Hl e j I.C],undef,undef,undef,undef,u31],[]⟩/\u.1.size<=G/\U.cell? (Hk G 0)=some (Hl e j I.C)) ?ownA ?assign ?body ?done ?stop
  case ownX=>
   rintro cc J aj U row⟨rfl,l⟩ ar q;exact⟨rfl,Pk.own ej oM J aj U row l ar q⟩
  case start=>
   intro e U d b v;exact⟨by rw[fF];exact ei e U d v,Zf.of_below v oM,⟨v.4,λq A _ q2 _=>(v.5 q (aS.1 q2).1).trans q2⟩⟩
  case ownA=>
   rintro e I a' _ aj U row⟨G,bd,d,b⟩ ar q;refine⟨G,bd,d,(Xc<|ar.5 G (aI aj _ b) λe2=>?_).trans b⟩;let⟨A,v,h4⟩:=Yn b;let⟨_,o2,h5,h6⟩:=q G e2.symm;rw[show aj.1[G]?=some A from v]at h5;injection h5 with h5;subst h5;rw[h4]at h6;cases h6
  case assign=>
   intro l' e J I U KK bf y hP cq;have o:=Xa y;have bc:=Xa hP;have em:=Xa cq;clear y hP cq;unfold rx;gi_wp2;have a3:Below U.1.size U (U.alloc<|.cells #[Hl e j I.C] 103):=Xb (Below.refl _ _) _;exact em _ _ ⟨a3.4,λa af d _=>(a3.5 a (aS.1 d).1).trans d⟩ (Zf.of_below a3<|oN o.2.1) (XO (O8.own HJ oM oM e) o a3) (tH bc a3) ⟨U.1.size,rfl,o.2.1,by simp[go_sem]⟩
  case body=>
   rintro l' e J I a' U bf fj _ y hP⟨G,rfl,fc,fe⟩ fl;have o:=Xa y;have bc:=Xa hP;have HL:Hs ((h++J).length<i*4002):=Xa (by
    have d:=b8.o;have b:=aq.1;rw[aQ];have v:(a+1)*4002<=i*4002:=jI _ M;omega)
   have yb:=y.2.cell (ba.cell et<|V _ (by show w.1.size<=W.1.size;omega)) (V _<|by show w.1.size<=W.1.size;omega);clear y hP;let⟨fn,tmps,fa,bo,hy,r⟩:=KY (l':=l') (m':=6) (HY e (h++J) I U oM o.j ⟨bc.1.2,bc.2⟩ HL);have dd:(Instr.yield z #[.agg #[Hl e j I.C]]).run prog U=_:=hy;clear hy;gi_wp2;refine r.mono ?_;rintro bd U2 (⟨rfl,az,a5,a4⟩|⟨rfl,az,a5,a4⟩)
   .have ad:=Xa az;have a9:=Xa a5;have ao:=Xa a4;clear az a5 a4 r dd;gi_wp2;exact⟨JE ao oM,a9,by rw[<-cK];exact ad,o.2.trans a9,o.3.trans ao⟩
   have ad:=Xa az;have a9:=Xa a5;have ao:=Xa a4;clear az a5 a4 r dd;gi_wp2;exact⟨JE ao oM,a9,rfl,by rw[<-cK];exact ad,o.3.trans ao⟩
  case done=>
   rintro D e s' U hD bf ct y a2;have o:=Xa y;have bn:=Xa a2;have cg:=Xa ct;clear y a2 ct;gi_wp2;refine⟨⟨a+1,e,D::T,h++s',_,_,_,_,_,_,_,_,_,_,_,_,_,_,oM,rfl,Xa<|ba.trans o.2,Xa<|ef.trans o.3,Xa ?mk,oM,Xa o.j,Xa ?ls,Xa ?ln⟩,?ms⟩
   case mk=>exact cb D U hD o.3 bn
   case ls=>
    rw[bG,bt.o,VJ,<-br.o,<-cg.o,<-vd]
   case ln=>
    have d:=fI List.length cg;rw[bK]at d;have b:=qI X.2.length (NS X) (WX a);have v:(NS X).length=X.2.length+2:=by simp[NS,Vf]
    have h4:=b8.o;have h5:=aq.1;rw[aQ];omega
   simp[intOf];omega
  rintro D cc J U hD cv⟨rfl,y⟩ a2;have o:=Xa y;have bn:=Xa a2;have eq:=Xa cv;clear y a2 cv;gi_wp2;have da:=cb D U hD o.2 bn;refine JZ (D::T) U da (λW' q1 q2 q3 q4 q5=>⟨.tuple #[],gV rfl _ _ _,⟨_,rfl⟩,.inr ⟨h++J,?_,bm.2 _ U W' o.j ⟨q1,q2,q3,q4,λq hq=>q5 q λhm=>by have:=da.2 q hm;omega⟩⟩⟩);rw[bG,bt.o,vd];refine List.IsPrefix.trans ?_ (Bg x g<|show a+1<=i from M);rw[VJ,<-br.o];exact(List.prefix_append_right_inj _).2 (eq.map _)
 have e6:a=i:=oM;subst e6;gi_wp2;refine JZ T wr S λW' q1 q2 q3 q4 q5=>⟨.tuple #[],gV rfl _ _ _,⟨_,rfl⟩,.inl ⟨K,h,hz,bt,bm.1 K K h wr W' hz b7 ⟨q1,q2,q3,q4,λq hq=>q5 q λhm=>by have:=S.2 q hm;omega⟩⟩⟩
end
section
attribute [local go_sem] Oper.semAt_some
theorem Wx(n:Nat){a v1:Uj}(w:Ub):
 CallsIn Fence.wide n prog 48 #[.agg #[a,v1]] w λe b=>e=.returned (.func (.func 109) #[] #[.pointer (some ⟨w.1.size,0,none⟩)])/\b=w.alloc (.cells #[a,v1] 37):=by
 refine iD func48 rfl trivial ?_ rfl;simp only[ntmps48,xY,Nat.reduceAdd,Nat.reduceSub];gi_wp2;go_ret;exact⟨rfl,rfl⟩
theorem un{n a B:Nat}(z:Nat):OwnFrom B (pm n a z):=λp A V row h k q=>by
 have b:=qj n p.i a B z p A V row ⟨⟨aA,h.1⟩,h.2⟩ k q;exact⟨h.1,b.2⟩
theorem th{n a z:Nat}{p:Sd}{V V':Ub}(h:pm n a z p V)(k:Below V.1.size V V'):pm n a z p V':=⟨h.1,h.2.1.of_block<|k.5 z h.2.1.lt,h.2.2⟩
def NW{a:Type}(l:List (List a)):Nat:=(l.map List.length).foldl max 0
theorem uV{a:Type}{l:List (List a)}{x:List a}:NW (l++[x])=max (NW l) x.length:=by unfold NW;rw[bG,dT];rfl
structure Ok(w6:Ub)(Bm p:Nat)(pre:List Sd)(V:Ub):Prop where
 os:V.4=w6.4
 tape:V.2=w6.2
 output:V.5=w6.5
 size:w6.1.size<=V.1.size
 bl:Bm<w6.1.size
 fr:∀q,q<w6.1.size->q≠Bm->V.1[q]?=w6.1[q]?
 mx:V.rowIs Bm 3 1 λ_=>.int .i64 (NW (pre.map<|On p):Int)
section
variable {w6 V V': Ub} {Bm p: Nat} {pre: List Sd}
theorem Ok.far(h:Ok w6 Bm p pre V)(k:Below w6.1.size V V'):Ok w6 Bm p pre V' :=
 ⟨k.1.trans h.1,k.2.trans h.2,k.3.trans h.3,aJ h.4 k.4,h.5,λq q1 q2=>(k.5 q q1).trans (h.6 q q1 q2),h.7.of_block<|k.5 _ h.5⟩
theorem Ok.own(w6:Ub)(Bm p:Nat):OwnFrom w6.1.size (Ok w6 Bm p):=λpre V V' row h k q=>by
 have:=h.4;exact h.far ⟨k.1,k.2,k.3,k.4,λb a=>k.5 b oM λe=>by have:=(q b e.symm).1;omega⟩
theorem Ok.push(h:Ok w6 Bm p pre V){s:Sd}(k:Below V.1.size V V'){x:Int}(b:x=(NW ((pre++[s]).map (On p)):Int)):Ok w6 Bm p (pre++[s]) (V'.setCell ⟨Bm,0,none⟩ (.int .i64 x)):=by
 have a:=h.far<|k.mono h.4;refine⟨a.1,a.2,a.3,by rw[Xd];exact a.4,a.5,λq q1 q2=>(Below.heap_setCell _ _ _ _ q2).trans (a.6 q q1 q2),?_⟩;rw[<-b];exact(a.7.set 0 _).congr λi c=>by rw[show i=0 by omega];simp
end
theorem DQ{V:Nat}{m:Uy}(n c:Nat){r:Wi}{aj S:Nat}{w:Ub}(ha:Hs (Xp w aj S m r))(R:Hs (n=r.length))(hs:Hs (r.length+Xx r<=1048576))(hB:S<=w.1.size)(G:Hs (Yy w))(H:Hs (Yb w))(hv:Hs (XJ ⟨(V:Int),r⟩=true))(ho:Hs (Jy V r)):
 Calls prog 18 #[.agg #[Hp V,.slice m n c]] w λe w'=>e=.returned (Hp (NW (Zw r V r.length):Int))/\Below w.1.size w w':=by
 have X:=Xa λW (I:Below w.1.size w W)=>JK (V:Int) m n c r aj S W (Xa<|ha.keep (I.mono hB)) R hs (oN I.4) (Xa (G.keep I G.1).old) (Xa (H.keep I H.1).old);rw[hv.o]at X;have hn:n<=1000:=oP R.o ho.1.2;refine(bM (n:=10)).1 ?_;refine callsIn_of_wp_marks func18 rfl trivial ?_ rfl;simp only[ntmps18,xY,Nat.reduceAdd,Nat.reduceSub];gi_wp2;refine⟨trivial,(bM.2<|X _ (Xb (Below.refl _ _) _)).mono ?_⟩;rintro e a⟨rfl,P⟩;have Z:=(P.cell (p:=Hk w.1.size 0) sP).trans (show _=some (Hp V) by simp);have g1:=(P.cell (p:=Hk w.1.size 1) sP).trans (show _=some (.slice m n c) by simp);have a8:=Xa<|Xg (Xb (Below.refl w.1.size w) (.cells #[Hp V,.slice m n c] 37)) P;have a4:w.1.size<a.1.size:=aI a _ Z;have bo:=λC=>(bP a C (Hk w.1.size 0) a4).trans Z;have bq:=λC=>(bP a C (Hk w.1.size 1) a4).trans g1;clear P X Z g1;gi_wp2;have a9:Hs (Below a.1.size a<|a.alloc (.cells #[Hp 0] 3)):=Xa<|Xb (Below.refl _ _) _;have cb:a.1.size+1<=(a.alloc<|.cells #[Hp 0] 3).1.size:=sP;have af:Hs ((a.alloc<|.cells #[Hp 0] 3).rowIs a.1.size 3 1 λ_=>Hp 0):=Xa (eK a #[Hp 0] 3 (λ_=>Hp 0) (λbv hi=>by match bv,hi with|0,_=>rfl));generalize a.alloc _=u at*;clear bo bq;refine⟨trivial,(Wx 9 u).mono ?_⟩;rintro e i⟨rfl,L⟩;have aa:Below u.1.size u i:=by rw[L];exact Xb (Below.refl _ _) _
 have cc:u.1.size+1<=i.1.size:=by rw[L,aO];exact aA
 have az:i.cell? (Hk u.1.size 0)=some (Hp V):=by rw[L];simp[go_sem]
 have a0:i.cell? (Hk u.1.size 1)=some (.slice m n c):=by rw[L];simp[go_sem]
 have t:=Xa<|Xg (Xg a8 a9) aa;have bf:=Xa<|af.of_block (aa.5 _ af.lt);let⟨b,a2⟩:∃q,q=(V+63)/64:=⟨_,rfl⟩;have be:=Xa a2;have br:=ho.2;have b1:b<=100:=oM;have b3:=G.1;have b4:=H.1;have a7:=Xa<|ha.keep (t.mono hB);have bh:=Xa<|G.keep t G.1;have bm:=Xa<|H.keep t H.1;have bb:=Xa az;have bc:=Xa a0;clear aa L a2 br az a0;gi_wp2
 refine nX (F:=Fence.wide) (n:=10) rfl vY (gf:=109) (lb:=#[Hn u.1.size]) rfl trivial (enters_of func109 vZ rfl) (uF (λq=>q=a.1.size) bb bc a7 R oM aA bh bm oM oM ho be (Xa λq l o e=>oM) (Xa λq l e=>oM) (Xa λe=>oM) (Xa λe=>oM)) (λz=>un z) (λj B=>j.trans B) (λW bx a5 o' l o N=>Zf.putObj W bx a5 o' oM o N) (Below.refl _ _) (λ_ _=>rfl)
  (λ_=>Ok i a.1.size<|64*b) (λ_ _ _=>False) (λ_=>Ok.own i _ _) (λ_ _ _ _ _ j _ _=>j) (λ_ z b0 M A' hz j v=>j.far ⟨v.1,v.2,v.3,v.4,λbn I=>v.5 bn (oN j.4) λe=>by injection e with e;omega⟩) (λ_=>⟨λz z' b0 M A' _ j B=>j.far<|B.mono oM,λ_ _ _ _ j _=>j⟩) ?start
  (λz p Y U=>∃g:Nat,Y=⟨#[.agg #[Hp V,.slice m n c],Hn w.1.size,Hp 0,Hn a.1.size,Hn g,.agg #[Hp V,.slice m n c],.bool true,.bool false,.agg #[Hp V,.slice m n c],.func (.func 109) #[] #[Hn u.1.size],.agg #[Hl z b p.C],undef,undef,undef,undef,undef],[]⟩/\i.1.size<=g/\U.cell? (Hk g 0)=some (Hl z b p.C)) ?ownA ?assign ?body ?done λ_ _ _ _ _ _ j _=>j.elim
 case start=>
  intro z U _ _ A;exact⟨A.1,A.2,A.3,A.4,oM,λq l _=>A.5 q l,bf.of_block<|A.5 _ oM⟩
 case ownA=>
  rintro z p Y _ M U row⟨g,e,l,o⟩ v q;refine⟨g,e,l,(Xc<|v.5 g (aI M _ o) λe2=>?_).trans o⟩;let⟨C,N,h4⟩:=Yn o;let⟨_,o2,O,h6⟩:=q g e2.symm;rw[show M.1[g]?=some C from N]at O;injection O with O;subst O;rw[h4]at h6;cases h6
 case assign=>
  intro l' z pre p U KK hz k x aq;have s:=Xa k;have bi:=Xa x;have bd:=Xa aq;clear k x aq;unfold ru;gi_wp2;have J:Below U.1.size U (U.alloc<|.cells #[Hl z b p.C] 103):=Xb (Below.refl _ _) _;exact bd _ _ ⟨J.4,λB a5 l _=>(J.5 B (aS.1 l).1).trans l⟩ (Zf.of_below J s.4) (s.far<|J.mono s.4) (th bi J) ⟨U.1.size,rfl,s.4,by simp[go_sem]⟩
 case body=>
  rintro l' z pre p Y U hz b8 _ k x⟨g,rfl,b5,Q⟩ ca;have s:=Xa k;have y:=k.7.cell (i:=0) vY;have a3:=k.7.frozen 0;have bt:=k.4;have ab:=Xa λW (hW:Below U.1.size U W)=>Kl z b p.C p.W W (Xa x.2.2) (Xa<|x.2.1.of_block (hW.5 z x.2.1.lt)) oM;have ba:Hs (NW ((pre++[p]).map (On<|64*b))=max (NW<|pre.map (On<|64*b)) (NO p.W b)):=Xa (by rw[bG,eH,fZ,uV,qV];rfl);have b6:=TB p.W b;generalize NW (pre.map<|On (64*b))=al at*;generalize NO p.W b=ao at*;clear k x;have ac:Hs (∀(f:Ub)(D:Int),Below U.1.size U f->D=(max al ao:Nat)->KeepsFrom i.1.size U (f.setCell (Hk a.1.size 0) (Hp D))/\Zf i.1.size (λq=>q=a.1.size) U (f.setCell (Hk a.1.size 0) (Hp D))/\Ok i a.1.size (64*b) (pre++[p]) (f.setCell (Hk a.1.size 0) (Hp D))):=Xa (λf D d e=>by
   have a1:Zf i.1.size (λq=>q=a.1.size) U (f.setCell (Hk a.1.size 0) (Hp D)):=(Zf.of_below d bt).trans (Zg ⟨rfl,rfl,rfl,by simp[World.setCell],λB _ hk=>Below.heap_setCell _ _ _ _ λe=>hk<|by rw[e]⟩ rfl (oN d.4));refine⟨⟨a1.1,λq C l o N=>?_⟩,a1,s.push d<|by rw[ba.o];exact e⟩;exact(Below.heap_setCell _ _ _ _<|by show q≠a.1.size;omega).trans ((d.5 q (aS.1 o).1).trans o))
  gi_wp2;by_cases b7:(al:Int)<(ao:Int)
  focus
   skip
  rotate_left
  focus
   skip
  all_goals (
   refine Tc (λw'=>w'.cell? (Hk g 0)=some (Hl z b p.C)) λhHeld=>?_;refine Yi 1 ?_;refine YM (rs:=[0,2]) vZ sP ?_;refine(Xu.cons rfl (λK hK=>?_) (Xu.cons rfl (λK hK=>?_) Xu.nil))
   .skip
    go_simp;refine hK _ _ kP λhHeld=>?_;clear hK
    try simp only[xX]
    refine Yc 2 λK hK=>?_;go_simp;refine⟨trivial,(CallsIn.inRound l'<|bM.2 (ab U.drew (Below.refl U.1.size U).drew)).mono ?_⟩;rintro e f⟨rfl,h⟩;have d:Below U.1.size U f:=⟨h.1,h.2,h.3,h.4,h.5⟩;have E:=oB d Q<|aI U _ Q;have m5:=oB d y<|aI U _ y;have f5:=(d.frozen (p:=Hk a.1.size 0) (aI U _ y)).trans a3;have T:=Xa d;clear d h;refine hK _ _ E λhHeld=>?_;clear hK;refine Yc 3 λK hK=>?_;go_simp;refine hK _ _ kP λhHeld=>?_;clear hK;refine Yc 4 λK hK=>?_;go_simp;refine hK _ _ ((bH f (Hk a.1.size 0) (Hk g 0) _ (by show a.1.size≠g;omega)).trans E) λhHeld=>?_;clear hK;refine ZV ?_;clear hHeld;gi_wp2;exact ac f _ T oM
   skip
   go_simp;refine⟨trivial,(CallsIn.inRound l'<|bM.2 (ab U.drew (Below.refl U.1.size U).drew)).mono ?_⟩;rintro e f⟨rfl,h⟩;have d:Below U.1.size U f:=⟨h.1,h.2,h.3,h.4,h.5⟩;have E:=oB d Q<|aI U _ Q;have m5:=oB d y<|aI U _ y;have f5:=(d.frozen (p:=Hk a.1.size 0) (aI U _ y)).trans a3;have T:=Xa d;clear d h;refine hK _ _ E λhHeld=>?_;clear hK
   try simp only[xX]
   refine Yc 0 λK hK=>?_;go_simp;refine hK _ _ kP λhHeld=>?_;clear hK;refine Yc 3 λK hK=>?_;go_simp;refine hK _ _ kP λhHeld=>?_;clear hK;refine Yc 4 λK hK=>?_;go_simp;refine hK _ _ ((bH f (Hk a.1.size 0) (Hk g 0) _ (by show a.1.size≠g;omega)).trans E) λhHeld=>?_;clear hK;refine ZV ?_;clear hHeld;gi_wp2
   exact ac f _ T oM)
 rintro a6 z ss U hD hz ar k ap;have s:=Xa k;have ad:=Xa ap;have bl:=Xa ar;have y:=k.7.cell (i:=0) vY;clear k ap ar;gi_wp2;have F:Ok i a.1.size (64*b) ss (U.putObj a6<|.deferred none):=(Ok.own i _ _).putObj _ s oM ad rfl;refine YK ad ⟨Hp (NW (ss.map<|On (64*b)):Int),by simp[results,results18,go_sem],?_⟩;rw[bl.o,R.o];exact⟨rfl,F.1.trans t.1,F.2.trans t.2,F.3.trans t.3,aJ t.4 F.4,λq hq=>(F.6 q oM oM).trans (t.5 q hq)⟩
end
theorem TQ(a:n<x.length)(V i:Nat):UU x V n i=Xi (Uq x x[n] V n i):=by
 unfold UU;rw[aC a]
theorem Vt(a:n<x.length):(Tu x n).length=x[n].2.length:=by
 unfold Tu;rw[aC a];simp[Z2]
theorem AP:∀(a M:Nat),s.foldl max a<=M↔a<=M/\∀x∈s,x<=M:=by
 induction s with
 |nil=>intro a M;simp
 |cons y s b=>
  intro a M;rw[iM,b];simp only[cH,forall_eq_or_imp];rw[Nat.max_le,and_assoc]
theorem TL{a:Type}{l:List (List a)}:NW l<=n↔∀x∈l,x.length<=n:=by
 unfold NW;rw[AP];simp
theorem Fl{g h:Type}{l:List (List g)}{c:List (List h)}(d:∀x∈l,∃y∈c,y.length=x.length)(f:∀y∈c,∃x∈l,x.length=y.length):NW l=NW c:=by
 refine Nat.le_antisymm ((TL).2 λx a=>?_) ((TL).2 λy b=>?_)
 .let⟨y,b,e⟩:=d x a;rw[<-e];exact(TL).1 aA y b
 let⟨x,a,e⟩:=f y b;rw[<-e];exact(TL).1 aA x a
noncomputable def Ns(a:Wi)(V b:Nat):Tm:=(List.range b).flatMap λs=>(List.range<|(Tu a s).length+1).map (UU a V s)
theorem Ve(a:Wi)(V b:Nat):Ns a V (b+1)=Ns a V b++(List.range<|(Tu a b).length+1).map (UU a V b):=by
 unfold Ns;rw[dN,eZ];simp
theorem Jr(a:m<x.length):s∈mm x n m↔∃i,i<=x[m].2.length/\s=Uq x x[m] n m i:=by
 unfold mm;rw[aC a];simp only[bU,aY,cS];constructor
 .rintro(⟨j,_,e⟩|e);·exact⟨(j:Nat)+1,j.2,e.symm⟩
  exact⟨0,aN,e⟩
 rintro⟨i,b,e⟩;cases i with
 |zero=>exact aZ e
 |succ j=>
  refine bC ⟨⟨j,b⟩,?_,e.symm⟩;unfold Us;rw[aW sP];exact kU.2<|lX _
theorem Er:NW (Ns x n x.length)=NW (Zw x n x.length):=by
 refine Fl (λe c=>?_) λy d=>?_
 .let⟨s,a,h⟩:=bV.1 c;obtain⟨i,b,rfl⟩:=aY.1 h;have a:=bE.1 a;have b:=bE.1 b;rw[Vt a]at b;refine⟨Uq x x[s] n s i,bV.2 ⟨s,bE.2 a,(Jr a).2 ⟨i,oM,rfl⟩⟩,?_⟩;rw[TQ a];simp[Xi]
 let⟨s,a,h⟩:=bV.1 d;have a:=bE.1 a;obtain⟨i,b,rfl⟩:=(Jr a).1 h;refine⟨UU x n s i,bV.2 ⟨s,bE.2 a,aY.2 ⟨i,bE.2 (by rw[Vt a];omega),rfl⟩⟩,?_⟩;rw[TQ a];simp[Xi]
theorem Cd{a:Type}(f:Nat->a)(k:Nat):(List.range<|k+1).map f=(List.range k).map f++[f k]:=by rw[dN,bG];rfl
theorem C8(d c:Nat)(ha:Hs (Xp w m k p x))(h:Hs (d=x.length))(V:Hs (x.length+Xx x<=1048576))(B:k<=w.1.size)(X:Hs (XJ ⟨(n:Int),x⟩=true))(t:Hs (Jy n x)):
 Calls prog 14 #[.agg #[Hp n,.slice p d c]] w λo Y=>o=.returned (Hp (NW (Zw x n x.length):Int))/\Below w.1.size w Y:=by
 have hn:d<=1000:=oP h.o t.1.2;have l:=Xa λW (s:Below w.1.size w W)=>Tr (n:Int) p d c x m k W (Xa<|ha.keep (s.mono B)) h V (oN s.4);have A:=Xa<|WY ⟨(n:Int),x⟩;rw[<-A.o,X.o]at l
 go_in
 go_wp2_with fail
 refine(l _<|Xb (Below.refl _ _) _).mono ?_;rintro o w1⟨rfl,g⟩;have L:=(g.cell (p:=Hk w.1.size 0) sP).trans (show _=some (Hp n) by simp);have O:=(g.cell (p:=Hk w.1.size 1) sP).trans (show _=some (.slice p d c) by simp);have j:=Xa<|Xg (Xb (Below.refl w.1.size w) (.cells #[Hp n,.slice p d c] 37)) g;have y:=Xa<|qm c (Xa<|ha.keep (j.mono B)) h (oN j.4) t;go_wp2_with fail
 refine y.mono ?_;rintro o w2⟨gO,cO,Z,rfl,D,ab,C⟩;have J:=Xa C;have H:=Xa<|Xg j D;have I:=Xa<|oX t;go_wp2
 go_loop [3,5] (λu i=>∃b:Nat,b<=d/\i=Hp b/\u=Hp (NW (Ns x n b):Int)) λ_ i=>d-(intOf i).toNat
 case atStart=>exact⟨0,aN,rfl,rfl⟩
 obtain⟨b,s,rfl,rfl⟩:=hrel;by_cases U:b<d
 .let⟨P,h2,r⟩:=J b U;have R:=I b;have z:=Xa<|Ve x n b;let⟨e,F⟩:∃e,e=(Tu x b).length:=⟨_,rfl⟩;rw[<-F]at P r R z;have G:=Xa r;generalize Ns x n b=f at*;go_wp2
  go_loop [3,6] (λu i=>∃a:Nat,a<=e+1/\i=Hp a/\u=Hp (NW (f++(List.range a).map (UU x n b)):Int)) λ_ i=>e+1-(intOf i).toNat
  case atStart=>exact⟨0,aN,rfl,sP⟩
  obtain⟨a,hk,rfl,rfl⟩:=hrel;by_cases T:a<e+1
  .let⟨b',o',q,aa,a',c',E,_⟩:=G a (by simpa using T);simp only[cM,dW]at E;injection q with q;injection q with e1 e2;subst e1 e2;simp only[aV]at E;have ad:(a:Int)<(e:Int)+1:=oM;have K:=Xa<|Cd (UU x n b) a;have v:Hs (NW (f++(List.range<|a+1).map (UU x n b))=max (NW<|f++(List.range a).map (UU x n b)) (UU x n b a).length):=Xa (by rw[K.o,<-cK,uV]);generalize NW (f++(List.range a).map (UU x n b))=M at*;generalize (UU x n b a).length=N at*;by_cases ac:(M:Int)<(N:Int)
   .go_wp2;exact⟨⟨a+1,oM,gM,by rw[v.o,Nat.max_eq_right oM]⟩,by simp[intOf];omega⟩
   go_wp2;exact⟨⟨a+1,oM,gM,by rw[v.o,Nat.max_eq_left oM]⟩,by simp[intOf];omega⟩
  have S:a=e+1:=oM;subst S;rw[<-z.o];go_wp2;exact⟨⟨b+1,oM,gM,rfl⟩,by simp[intOf];omega⟩
 have Q:b=d:=oM;subst Q;go_wp2;go_ret;exact⟨by rw[h.o,Er];rfl,H⟩
theorem JF(h:s∈Zw x n x.length)(a:m∈s):m<n:=by
 let⟨d,c,b⟩:=bV.1 h;obtain⟨i,_,rfl⟩:=(Jr<|bE.1 c).1 b;unfold Uq at a;exact bE.1 (fG.1 a).1
theorem WV:l∈Ns x n x.length↔∃y∈Zw x n x.length,l=Xi y:=by
 unfold Ns Zw;constructor
 .intro h;let⟨s,b,d⟩:=bV.1 h;obtain⟨i,c,rfl⟩:=aY.1 d;have a:=bE.1 b;have c:=bE.1 c;rw[Vt a]at c;exact⟨Uq x x[s] n s i,bV.2 ⟨s,b,(Jr a).2 ⟨i,oM,rfl⟩⟩,TQ a n i⟩
 rintro⟨y,e,rfl⟩;let⟨s,b,d⟩:=bV.1 e;have a:=bE.1 b;obtain⟨i,c,rfl⟩:=(Jr a).1 d;exact bV.2 ⟨s,b,aY.2 ⟨i,bE.2 (by rw[Vt a];omega),TQ a n i⟩⟩
theorem tD{xs:Wi}{V:Nat}(h:l∈Ns xs V xs.length):l.length<=V/\∀x∈l,∃k:Nat,k<V/\x=(k:Int):=by
 obtain⟨y,c,rfl⟩:=WV.1 h;constructor
 .let⟨s,a,d⟩:=bV.1 c;obtain⟨i,f,rfl⟩:=(Jr<|bE.1 a).1 d;have:=qy xs V s i;rw[TQ<|bE.1 a]at this;exact this
 intro x b;unfold Xi at b;obtain⟨z,e,rfl⟩:=aY.1 b;exact⟨z,JF c e,rfl⟩
def NG(a:Wc)(v:Nat):Int:=a.getD v 0
def US(a:Wc)(v:Nat):Nat:=(NG a v).toNat
def Pm(v:Int)(b:Wi)(a:Wc)(k:Int):Prop:=Ft v b=0/\0<=k/\k<=2000/\(a.length:Int)=v/\(∀c∈a,0<=c/\c<k)/\∀l∈Zw b v.toNat b.length,(l.map<|US a).Nodup
def UM(b:Wc)(l:Wc)(a:Nat):Int:=NG b (l.getD a 0).toNat
def P6(c l:Wc)(d:Nat):Prop:=∀a b,a < d->b < a->UM c l a≠UM c l b
def QD(c:Wc)(b:Tm)(i:Nat):Prop:=∀a,a < i->P6 c (b.getD a []) (b.getD a []).length
theorem Wp(h:∀c∈l,0<=c/\c<t)(v:Nat):0<=NG l v:=by
 unfold NG;rw[bF];by_cases a:v<l.length;·rw[aC a];exact(h _<|aH a).1
 rw[dK oM];decide
theorem Vj(ha:n<s.length):UM l (Xi s) n=NG l s[n]:=by
 unfold UM Xi;rw[bF,dX,aC ha];rfl
theorem vJ(h:∀c∈l,0<=c/\c<t)(y:Wa):P6 l (Xi y) (Xi y).length↔(y.map<|US l).Nodup:=by
 have n:(Xi y).length=y.length:=by simp[Xi]
 rw[n];show _↔List.Pairwise _ _;rw[gY];simp only[bK,cM];constructor
 .intro a i j k b m e;have:=a j i b m;rw[Vj b,Vj k]at this;have o:=Wp h y[i];have p:=Wp h y[j];unfold US at e;exact this oM
 intro a d f ha g e;rw[Vj ha,Vj oM]at e;exact a f d oM ha g<|by unfold US;rw[e]
theorem BZ(h:∀c∈l,0<=c/\c<t):QD l (Ns x n x.length) (Ns x n x.length).length↔∀b∈Zw x n x.length,(b.map<|US l).Nodup:=by
 constructor
 .intro d b f;let⟨i,a,e⟩:=bR<|WV.2 ⟨b,f,rfl⟩;have:=d i a;rw[bF,aC a,gR,e]at this;exact(vJ h b).1 this
 intro d i a;rw[bF,aC a,gR];let⟨y,g,e⟩:=WV.1<|aH a;rw[e];exact(vJ h y).2 (d y g)
theorem Dm{a b:Nat}(f:l=(Ns x t.toNat x.length).getD i [])(d:i<(Ns x t.toNat x.length).length)(ha:a<l.length)(c:b<a)(e:UM L l a=UM L l b):¬Pm t x L T:=λh=>by
 have:=(BZ h.2.2.2.2.1).2 h.2.2.2.2.2 i d;rw[<-f]at this;exact this a b ha c e
structure j5(C:Ym)(l:Wa)(c:Nat):Prop where
 free:∀u∈l,C u≠(c:Int)
 low:∀c',c' < c->∃u∈l,C u=(c':Int)
theorem j5.one{C:Ym}(h:j5 C s c)(k:j5 C s n):c=n:=by
 obtain e|e|e:=mA c n
 .let⟨u,a,b⟩:=k.2 c e;exact absurd b<|h.1 u a
 .exact e
 let⟨u,a,b⟩:=h.2 n e;exact absurd b<|k.1 u a
theorem wM{C:Ym}{l:Wa}(h:∀a,a < c->∃u∈l,C u=(a:Int)):c<=l.length:=by
 have b:=K3 (A:=List.range c) (B:=l.map λu=>(C u).toNat) kS (λx f=>by
  let⟨u,d,e⟩:=h x<|bE.1 f;exact aY.2 ⟨u,d,by rw[e];rfl⟩)
 simpa using b
theorem wL{C:Ym}{l:Wa}(h:∀a,a < l.length->∃u∈l,C u=(a:Int)):j5 C l l.length:=by
 refine⟨λu b e=>?_,h⟩;have:=wM (C:=C) (l:=l) (c:=l.length+1) (λa c=>by
  by_cases e2:a=l.length;·subst e2;exact⟨u,b,e⟩
  exact h a oM)
 omega
theorem wI{C:Ym}(h:∀a,a < c->∃u∈s,C u=(a:Int))(f:∀u∈s,u<n)(j:m<n)(d:C m=-1):c<n:=by
 have b:=K3 (A:=List.range c) (B:=((List.range n).erase m).map λu=>(C u).toNat) kS (λx k=>by
  let⟨u,i,e⟩:=h x<|bE.1 k;have g:u≠m:=λe2=>by rw[e2,d]at e;omega
  exact aY.2 ⟨u,(iF g).2 (bE.2<|f u i),by rw[e];rfl⟩)
 rw[bK,fP<|bE.2 j,gI,gI]at b;omega
open Classical in
theorem wZ(C:Ym)(l:Wa):∃c,j5 C l c:=by
 by_cases j:∀a,a < l.length->∃u∈l,C u=(a:Int);·exact⟨_,wL j⟩
 have m:∃c,¬∃u∈l,C u=((c:Nat):Int):=by
  apply dQ;intro b;exact j λa _=>dQ λd=>b ⟨a,d⟩
 have p:∀n c,c<=n->(¬∃u∈l,C u=((c:Nat):Int))->∃c,j5 C l c:=by
  intro n
  induction n with
  |zero=>
   intro c f h;exact⟨c,λu i e=>h ⟨u,i,e⟩,λa g=>absurd g oM⟩
  |succ n o=>
   intro c f h;by_cases k:∀a,a < c->∃u∈l,C u=(a:Int);·exact⟨c,λu i e=>h ⟨u,i,e⟩,k⟩
   have:∃a,a < c/\¬∃u∈l,C u=((a:Nat):Int):=by
    apply dQ;intro b;exact k λa g=>dQ λd=>b ⟨a,g,d⟩
   let⟨a,q,b⟩:=this;exact o a oM b
 let⟨c,f⟩:=m;exact p c c aA f
noncomputable def Nx(C:Ym)(l:Wa):Nat:=Classical.choose<|wZ C l
theorem oa(C:Ym)(l:Wa):j5 C l (Nx C l):=gJ<|wZ C l
theorem ry{C:Ym}(h:j5 C s c):Nx C s=c:=(oa C s).one h
theorem MW(C:Ym)(l:Wa):Nx C l<=l.length:=wM (oa C l).2
noncomputable def Nn(C:Ym)(s:Nat×Wa):Ym:=λu=>if u=s.1 then (Nx C s.2:Int)else C u
noncomputable def Kq(C:Ym)(a:List (Nat×Wa)):Ym:=a.foldl Nn C
theorem rl{C:Ym}{a:List (Nat×Wa)}(s:Nat×Wa):Kq C (a++[s])=Nn (Kq C a) s:=by unfold Kq;rw[dT];rfl
theorem zW{C:Ym}{a b:List (Nat×Wa)}:Kq C (a++b)=Kq (Kq C a) b:=by unfold Kq;rw[dT]
noncomputable def Ni(a:Wi)(V b:Nat)(x:Xe)(k:Nat):List (Nat×Wa):=(x.1.take k).map λp=>(p.1.toNat,Uq a x V b 0)
noncomputable def VC(a:List Xe)(V b:Nat)(x:Xe):Nat->List (Nat×List Nat)
 |0=>[]
 |k+1=>VC a V b x k++match x.2[k]? with
  |none=>[]
  |some y=>(BW y).map λv=>(v.toNat,Uq a x V b<|k+1)
noncomputable def OV(a:List Xe)(V b:Nat):List (Nat×List Nat):=match a[b]? with
 |none=>[]
 |some x=>Ni a V b x x.1.length++VC a V b x x.2.length
noncomputable def Ko(b:Wi)(V:Nat)(a:Wa):List (Nat×Wa):=a.flatMap<|OV b V
theorem qT:Ko x n (s++[m])=Ko x n s++OV x n m:=by unfold Ko;rw[eZ];simp
noncomputable def NE(C:Nat->Int):Nat->Int
 |0=>0
 |V+1=>max (NE C V) (C V+1)
theorem uO(P:Wc)(m b:Nat):b∈XT P m b:=by
 cases m<;>simp[XT]
theorem tK{tg:Yr}{n:Nat}{P:Wc}(h:YX tg n P)(d:∀x,Re tg x->x<n):∀(m b c x:Nat),n<=(Zq tg n b).length+m->c∈XT P m b->x∈Nj P c->x∈XT P m b
 |0,b,c,x,hm,a,hx=>by
  have:c=b:=by simpa [XT]using a
  subst this;have g:=qJ h d hx;have i:=rr (tg:=tg) n x;omega
 |m+1,b,c,x,hm,a,hx=>by
  rw[XT,cH]at a;rw[XT,cH];obtain rfl|a:=a;·exact aZ<|bV.2 ⟨x,hx,uO P m x⟩
  let⟨e,f,a⟩:=bV.1 a;have g:=qJ h d f;exact aZ<|bV.2 ⟨e,f,tK h d m e c x oM a hx⟩
theorem vH{tg:Yr}{n:Nat}{P:Wc}(h:YX tg n P)(a:∀x,Re tg x->x<n):∀(k x:Nat),(Zq tg n x).length<=k->Re tg x->x∈XT P n 0
 |k,x,hk,hx=>by
  by_cases b:x=0;·subst b;exact uO P n 0
  obtain⟨c,e1,e2,e3,e4,_⟩:=B8 h a hx b
  match k,hk with
  |0,hk=>omega
  |k+1,hk=>exact tK h a n 0 c x oM (vH h a k c oM e3) (o8.2 ⟨by rw[h.1];exact a x hx,e1⟩)
theorem CX(c:UF x)(b:YX (X8 x) x.length l)(d:Jq x):(XT l x.length 0).Perm (List.range x.length):=by
 rw[List.perm_iff_count];intro a;rw[(qY b x.length 0 Re.root).count,List.nodup_range.count];have:a∈XT l x.length 0↔a∈List.range x.length:=by
  rw[bE];constructor
  .intro h;exact c.re a (Ji b x.length 0 a Re.root h).2
  intro h;exact vH b c.re _ a aA (d a h)
 by_cases e:a∈XT l x.length 0;·rw[aU e,aU<|this.1 e]
 rw[aM e,aM λh=>e<|this.2 h]
theorem TX(h:Ft t x=0):XJ ⟨t,x⟩=true/\Jq x:=by
 unfold Ft at h;by_cases a:XJ ⟨t,x⟩=false;·rw[aU a]at h;omega
 rw[aM a]at h;by_cases b:¬Jq x;·rw[aU b]at h;omega
 exact⟨by simpa using a,Classical.not_not.1 b⟩
def OG(a:List (Nat×Wa)):Wc:=a.map λs=>(s.1:Int)
theorem Gl(a:Jy n x)(d:q∈x)(b:Nat):OG (Ni x n b q q.1.length)=XG q.1:=by
 unfold OG Ni XG;rw[gC,jO];apply gH;intro p c;have:=(a.8 q d p c).1;simp only[Function.comp];omega
theorem xf{V:Nat}{a:Wi}(d:Jy V a){x:Xe}(e:x∈a)(b:Nat):∀k,k<=x.2.length->OG (VC a V b x k)=XI (x.2.take k)
 |0,_=>by simp[OG,VC,XI]
 |k+1,g=>by
  have i:=xf d e b k oM;have c:k<x.2.length:=g;have f:XI (x.2.take<|k+1)=XI (x.2.take k)++BW x.2[k]:=by
   rw[kJ,aC c];unfold XI BW;rw[eU,bG,Option.toList_some,iW,jX];cases dB x.2[k].1<;>rfl
  rw[f,<-i,VC,aC c];unfold OG;rw[bG,jO];congr 1;have:∀v∈BW x.2[k],((λs:Nat×Wa=>(s.1:Int)) ∘ λv:Int=>(v.toNat,Uq a x V b<|k+1)) v=v:=λv h=>by
   have:=(d.6 x e _ (aH c) v h).1;simp only[Function.comp];omega
  rw[gH this,List.map_id''];intro j;rfl
theorem wF(c:Jy n x)(a:m<x.length):OG (OV x n m)=Z6 x[m]:=by
 unfold OV;rw[aC a];have d:=Gl c (aH a) m;have b:=xf c (aH a) m x[m].2.length aA;rw[gC]at b;show OG (Ni x n m x[m] x[m].1.length++VC x n m x[m] x[m].2.length)=_;unfold OG at*;rw[bG,d,b];rfl
theorem uq{V:Nat}{a:Wi}(c:Jy V a):∀k,k<=a.length->OG (Ko a V<|List.range k)=BX (a.take k)
 |0,_=>by simp[OG,Ko,BX]
 |k+1,e=>by
  have f:=uq c k oM;have b:k<a.length:=e;rw[dN,qT,kJ,aC b];have d:=wF c b;unfold OG at*;rw[bG,f,d];unfold BX;rw[eZ,Option.toList_some,jF,List.flatMap_nil,fF]
theorem Gk(d:XJ ⟨(n:Int),x⟩=true)(t:Jq x)(q:YX (X8 x) x.length l):
 (OG<|Ko x n (XT l x.length 0)).Nodup/\∀u:Nat,u<n->(u:Int)∈OG (Ko x n<|XT l x.length 0):=by
 have c:=XH d;have m:(OG<|Ko x n (XT l x.length 0)).Perm (BX x):=by
  have b:=uq c x.length<|aA;rw[gC]at b;rw[<-b];unfold OG Ko;exact(List.Perm.flatMap_right _<|CX c.1 q t).map _
 have k:JM ⟨(n:Int),x⟩=true:=by
  unfold XJ at d;simp only[bY]at d;exact d.2
 have j:∀u:Nat,u<n->(BX x).count (u:Int)=1:=λu g=>by
  unfold JM at k;have:=dV.1 k u (bE.2<|by simpa using g);rw[iA,qp]at this;exact this
 have r:∀f∈BX x,0<=f/\f<(n:Int):=λf a=>by
  let⟨p,o,a⟩:=bV.1 a;obtain a|a:=bU.1 a
  .obtain⟨w,s,rfl⟩:=aY.1 a;exact c.8 p o w s
  obtain⟨y,v,rfl⟩:=aY.1 a;let⟨b,i⟩:=fG.1 v;exact c.6 p o y b y.2<|by unfold BW;rw[i];simp
 constructor
 .rw[mY];intro e;rw[m.count_eq];by_cases h:e∈BX x
  .let⟨b,i⟩:=r e h;have:=j e.toNat oM;rw[fR b]at this;omega
  rw[kZ h];omega
 intro u g;rw[m.mem_iff];apply kE.1;rw[j u g];decide
structure mn(V:Nat)(ss:List (Nat×Wa)):Prop where
 lt:∀s∈ss,s.1<V
 nd:∀pre s post,ss=pre++s::post->∀t∈pre,t.1≠s.1
 all:∀u,u<V->∃s∈ss,s.1=u
theorem vV(i:XJ ⟨(n:Int),x⟩=true)(q:Jq x)(m:YX (X8 x) x.length l):mn n (Ko x n<|XT l x.length 0):=by
 let⟨b,d⟩:=Gk i q m;have g:=XH i;refine⟨λs a=>?_,λC s B e z t=>?_,λA u=>?_⟩
 .let⟨k,_,a⟩:=bV.1 a;unfold OV at a;cases hb:x[k]? with
  |none=>rw[hb]at a;cases a
  |some c=>
   have j:c∈x:=eN hb;have o:=(cV.1 hb).1;have r:((s.1:Nat):Int)∈Z6 c:=by
    have h:=wF g o;rw[(cV.1 hb).2]at h;rw[<-h];unfold OV OG;exact aY.2 ⟨s,a,rfl⟩
   obtain f|f:=bU.1 r
   .let⟨w,p,e⟩:=aY.1 f;have:=g.8 c j w p;have e:=e;omega
   let⟨y,v,e⟩:=aY.1 f;let⟨b,d⟩:=fG.1 v;have:=g.6 c j y b y.2 (by unfold BW;rw[d];simp);have e:=e;omega
 .rw[e]at b;unfold OG at b;rw[bG,eH]at b;have:=(gW.1 b).2.2 _ (aY.2 ⟨z,t,rfl⟩) _ cI;exact λe=>this<|by rw[e]
 let⟨s,a,e⟩:=aY.1<|d A u;exact⟨s,a,oM⟩
theorem TE{v:Nat}:∀(a:List (Nat×Wa))(C:Ym),(∀s∈a,s.1≠v)->Kq C a v=C v
 |[],_,_=>rfl
 |s::a,C,h=>by
  have c:=TE a (Nn C s) λt b=>h t<|cN _ b;show Kq (Nn C s) a v=_;rw[c];unfold Nn;rw[aM λe=>h s cI e.symm]
theorem UP{v:Nat}:∀(a:List (Nat×Wa))(C:Ym),(0<=C v\/∃s∈a,s.1=v)->0<=Kq C a v
 |[],_,h=>by
  obtain h|⟨s,h,_⟩:=h;·exact h
  cases h
 |s::a,C,h=>by
  show 0<=Kq (Nn C s) a v;refine UP a (Nn C s) ?_;by_cases e:v=s.1
  .left
   unfold Nn;rw[aU e];omega
  obtain h|⟨t,b,e2⟩:=h
  .left
   unfold Nn;rw[aM e];exact h
  obtain rfl|b:=cH.1 b;·exact absurd e2.symm e
  exact aZ ⟨t,b,e2⟩
theorem UJ(C:Ym):∀V,0<=NE C V
 |0=>by simp[NE]
 |V+1=>by have:=UJ C V;rw[NE];omega
theorem vA{C:Ym}{v:Nat}{x:Int}:∀V,V<=v->NE (λu=>if u=v then x else C u) V=NE C V
 |0,_=>rfl
 |V+1,h=>by
  rw[NE,NE,vA V oM,aM oM]
theorem vI{C:Ym}{v:Nat}{x:Int}(a:C v=-1):∀V,v<V->NE (λu=>if u=v then x else C u) V=max (NE C V) (x+1)
 |V+1,h=>by
  rw[NE,NE];by_cases e:V=v
  .subst e;have:=UJ C V;rw[aU rfl,vA V<|aA,a];omega
  rw[aM e,vI a V oM];omega
theorem tV:∀V,NE (λ_=>-1) V=0
 |0=>rfl
 |V+1=>by rw[NE,tV V];decide
section
def Wl(xs:List Xe)(u b:Nat):Nat->Prop
 |0=>Yo xs b u=true
 |j+1=>∃x y,xs[b]?=some x/\x.2[j]?=some y/\(u:Int)∈BW y
theorem Vs{a:Vr}:XI a=a.flatMap BW:=by
 induction a with
 |nil=>rfl
 |cons y a b=>
  have:XI (y::a)=BW y++XI a:=by
   unfold XI BW;rw[iW];cases dB y.1<;>rfl
  rw[this,b,jF]
theorem uK{xs:Wi}{b u:Nat}(h:Yo xs b u=true):∃x,xs[b]?=some x/\(u:Int)∈XG x.1:=by
 unfold Yo at h;cases e:xs[b]? with
 |none=>rw[e]at h;cases h
 |some x=>rw[e]at h;exact⟨x,rfl,XD.1 h⟩
theorem Eu{V:Nat}{xs:Wi}(hv:XJ ⟨(V:Int),xs⟩=true):(BX xs).Nodup/\(∀d∈BX xs,0<=d/\d<(V:Int))/\∀u:Nat,u<V->(u:Int)∈BX xs:=by
 have j:=XH hv;have k:JM ⟨(V:Int),xs⟩=true:=by
  unfold XJ at hv;simp only[bY]at hv;exact hv.2
 have g:∀u:Nat,u<V->(BX xs).count (u:Int)=1:=λu e=>by
  unfold JM at k;have:=dV.1 k u (bE.2<|by simpa using e);rw[iA,qp]at this;exact this
 have i:∀d∈BX xs,0<=d/\d<(V:Int):=λd a=>by
  let⟨x,l,a⟩:=bV.1 a;obtain a|a:=bU.1 a
  .obtain⟨p,m,rfl⟩:=aY.1 a;exact j.8 x l p m
  obtain⟨y,n,rfl⟩:=aY.1 a;let⟨c,f⟩:=fG.1 n;exact j.6 x l y c y.2<|by unfold BW;rw[f];simp
 refine⟨?_,i,λu e=>kE.1<|by rw[g u e];decide⟩;rw[mY];intro b;by_cases h:b∈BX xs
 .let⟨c,f⟩:=i b h;have:=g b.toNat oM;rw[fR c]at this;omega
 rw[kZ h];omega
theorem Wl.mem{xs:Wi}{u b k:Nat}(h:Wl xs u b k):∃x,xs[b]?=some x/\(u:Int)∈Z6 x:=by
 cases k with
 |zero=>
  let⟨x,e,a⟩:=uK h;exact⟨x,e,dD _ a⟩
 |succ j=>
  let⟨x,y,e,e2,a⟩:=h;refine⟨x,e,fB _ ?_⟩;rw[Vs];exact bV.2 ⟨y,eN e2,a⟩
theorem uj{a n:Type}{f:a->List n}{l:List a}(h:(l.flatMap f).Nodup){i j:Nat}{b c:a}(o:l[i]?=some b)(p:l[j]?=some c){z:n}(ha:z∈f b)(k:z∈f c):i=j:=by
 unfold List.Nodup at h;rw[iK]at h;let⟨d,e1⟩:=cV.1 o;let⟨g,e2⟩:=cV.1 p;have m:=gY.1 h.2;obtain e|e|e:=mA i j;·exact absurd rfl<|m i j d g e z (e1▸ha) z (e2▸k)
 .exact e
 exact absurd rfl<|m j i g d e z (e2▸k) z (e1▸ha)
theorem Wl.one{V:Nat}{xs:Wi}(hv:XJ ⟨(V:Int),xs⟩=true){u d k b' k':Nat}(l:Wl xs u d k)(f:Wl xs u b' k'):d=b'/\k=k':=by
 have g:=(Eu hv).1;let⟨x,e,v⟩:=l.mem;let⟨D,h,w⟩:=f.mem;have t:=uj (f:=Z6) g e h v w;subst t;rw[e]at h;cases h;refine⟨rfl,?_⟩;have m:(Z6 x).Nodup:=by
  unfold List.Nodup BX at g;rw[iK]at g;exact g.1 x<|eN e
 unfold Z6 at m;rw[gW]at m;let⟨_,p,o⟩:=m;rw[Vs]at p o;have r:∀{k},Wl xs u d k->k=0->(u:Int)∈XG x.1:=λ{k} q i=>by
  subst i;let⟨C,c,A⟩:=uK q;rw[e]at c;cases c;exact A
 have n:∀{k},Wl xs u d k->∀j,k=j+1->∃y,x.2[j]?=some y/\(u:Int)∈BW y:=λ{k} q j i=>by
  subst i;let⟨C,y,c,a,b⟩:=q;rw[e]at c;cases c;exact⟨y,a,b⟩
 cases k with
 |zero=>
  cases k' with
  |zero=>rfl
  |succ j=>
   let⟨y,a,b⟩:=n f j rfl;exact absurd rfl<|o _ (r l rfl) _ (bV.2 ⟨y,eN a,b⟩)
 |succ B=>
  let⟨y,a,b⟩:=n l B rfl;cases k' with
  |zero=>exact absurd rfl<|o _ (r f rfl) _ (bV.2 ⟨y,eN a,b⟩)
  |succ j=>
   let⟨E,s,z⟩:=n f j rfl;rw[uj (f:=BW) p a s b z]
theorem Vk{x:Xe}{u:Nat}{q:Bool}{k:Nat}:∀i,k<=i->i<=x.2.length->JT x u q i=true->(∀j y,k<=j->j<i->x.2[j]?=some y->(u:Int)∉BW y)->JT x u q k=true
 |0,hk,_,h,_=>by
  have:k=0:=oM;subst this;exact h
 |i+1,hk,hi,h,hn=>by
  by_cases e:k=i+1;·subst e;exact h
  refine Vk i oM oM ?_ λj y a d=>hn j y a oM;rw[qe u q (show i<x.2.length from hi),h];have c:¬H7 x.2[i]=(u:Int):=λe=>(hn i x.2[i] oM oM (aC _)) (YN.1 e);simp[c]
theorem qN{xs:Wi}(hns:¬∃x,N4 xs x){u b:Nat}(d:Nu xs u b)(h:Ol xs u b):False:=by
 obtain⟨c,e⟩:=h
 induction e with
 |here _ a=>exact hns ⟨u,_,d,c,a⟩
 |step _ a f g _ i=>exact i (Nu.step d c a f) g
theorem Ee{xs:Wi}{d b:Nat}(h:Re (X8 xs) b):Av (X8 xs) d b\/d=0\/∃p,Av (X8 xs) d p/\d∈X8 xs p:=by
 induction h with
 |root=>
  by_cases e:d=0;·exact aZ<|bC e
  exact bC<|Av.root e
 |@step c t _ f a=>
  obtain a|a:=a
  .by_cases e:t=d;·subst e;exact aZ<|aZ ⟨c,a,f⟩
   exact bC<|Av.step a f e
  exact aZ a
theorem qP{xs:Wi}{u b:Nat}(d:b<xs.length){q:Bool}(hq:q=true↔UV xs u b){i:Nat}(e:i<=xs[b].2.length)(h:JT xs[b] u q i=true)(g:Yo xs b u=false)(f:∀j y,j<i->xs[b].2[j]?=some y->(u:Int)∉BW y):Ol xs u b :=
 ⟨g,(vk d hq).1 (Vk i aN e h λj y _ a c=>f j y a c)⟩
section
variable {V: Nat} {xs: Wi} (hv: XJ ⟨(V: Int), xs⟩ = true) (hr: Jq xs) (hns: ¬ ∃ x, N4 xs x)
include hv
theorem qU{u d k b:Nat}(a:Wl xs u d k)(c:b≠d):Yo xs b u=false:=by
 cases e:Yo xs b u with
 |false=>rfl
 |true=>exact absurd (Wl.one hv (k:=0) e a).1 c
theorem VZ{u d k b j:Nat}(c:Wl xs u d k)(f:b≠d\/j+1≠k){x:Xe}{y:Yg}(e:xs[b]?=some x)(a:x.2[j]?=some y):(u:Int)∉BW y:=λh=>by
 have:=Wl.one hv (k:=j+1) ⟨x,y,e,a,h⟩ c;omega
theorem FP{u d k b:Nat}(a:Wl xs u d k)(f:b≠d):C7 xs b u≠2:=by
 unfold C7;cases e:xs[b]? with
 |none=>simp
 |some x=>
  show NA x (XP xs b) (u:Int)≠2;unfold NA;refine Ud _ λy g h=>?_;obtain⟨j,c,rfl⟩:=bR g;exact VZ hv a (bC f) e (aC c) h
theorem wg(hns:¬∃x,N4 xs x){u e n b:Nat}(i:Wl xs u e n)(k:Av (X8 xs) e b):Nu xs u b/\Yo xs b u=false/\C7 xs b u=0:=by
 have j:∀b,b≠e->Nu xs u b->Yo xs b u=false/\C7 xs b u=0:=λb a d=>by
  have h:=qU hv i a;have o:=FP hv i a;have p:=qD xs b u;refine⟨h,?_⟩;by_cases f:C7 xs b u=1;·exact absurd ⟨u,b,d,h,f⟩ hns
  omega
 induction k with
 |root l=>exact⟨Nu.root,j 0 (λf=>l f.symm) Nu.root⟩
 |@step c t q m a g=>
  have d:=Nu.step g.1 g.2.1 g.2.2 m;exact⟨d,j t a d⟩
include hr hns
theorem vE{u d n b:Nat}(e:Wl xs u d n)(m:d<xs.length)(h:Ol xs u b):JO (X8 xs) d b/\d≠b:=by
 have c:=h.2.lt;have f:¬Av (X8 xs) d b:=λha=>qN hns (wg hv hns e ha).1 h;refine⟨⟨hr d m,hr b c,f⟩,λg=>?_⟩;subst g;obtain a|a|⟨p,a,i⟩:=Ee (d:=d) (hr d c);·exact f a
 .subst a;exact qN hns Nu.root h
 obtain⟨j,k,l⟩:=wg hv hns e a;exact qN hns (Nu.step j k l i) h
omit hr hns
theorem EK{u d k b:Nat}(c:Wl xs u d k)(e:b≠d)(a:b<xs.length)(h:UV xs u b):Ol xs u b:=by
 refine qP a (q:=true) ⟨λ_=>h,λ_=>rfl⟩ aA ?_ (qU hv c e) λj y _ f=>VZ hv c (bC e) (aC a) f;rw[WT _ _<|aA];simp
theorem FM(o:UF xs){u d p e:Nat}(l:Wl xs u d p)(m:e<xs.length){c:Nat}(h:Sf (X8 xs) d e e c)(j:c≠e)(n:Ol xs u c):UV xs u e:=by
 have lt:∀{c},Sf (X8 xs) d e e c->c<xs.length:=λ{c} h=>by
  induction h with
  |here=>exact m
  |step _ a _ _ b=>exact o.tg _ b _ a
 induction h with
 |here=>exact absurd rfl j
 |@step c t g a q r b=>
  have f:UV xs u c:=aZ ⟨t,a,n⟩;by_cases e1:c=e;·rw[<-e1];exact f
  have k:c≠d:=by
   cases g with
   |here=>exact absurd rfl e1
   |step _ _ i _=>exact i
  exact b e1<|EK hv l k (lt g) f
theorem EB(f:UF xs){u d o e b:Nat}(i:Wl xs u d o)(a:JO (X8 xs) d e)(c:JO (X8 xs) e b)(n:e≠b)(l:Ol xs u b):UV xs u e:=by
 have g:=λh=>FM hv f i (f.re e a.2) h (λq=>n q.symm) l;obtain⟨h3,_⟩|h3|h3:=vp (a:=d) (b:=e) c.2;·exact absurd h3 (J8 a c).3
 .by_cases q:d=e;·subst q;exact g h3
  have:Av (X8 xs) e d:=dQ λm=>q<|Z1 a ⟨a.2,a.1,m⟩;exact absurd (rm h3 (aZ rfl) this) c.3
 exact g h3
def OD(xs:Wi)(u b i:Nat):Prop:=∃x,xs[b]?=some x/\i<=x.2.length/\(Wl xs u b i\/∃q:Bool,(q=true↔UV xs u b)/\JT x u q i=true)
omit hv
open Classical in
theorem OD.of{b i u:Nat}(a:b<xs.length)(c:i<=xs[b].2.length)(h:u∈Uq xs xs[b] V b i):OD xs u b i:=by
 unfold Uq at h;obtain⟨_,h⟩:=fG.1 h;refine⟨xs[b],aC a,c,?_⟩;unfold Ox at h;cases i with
 |zero=>
  obtain h|h:=dI _ _▸h
  .refine aZ ⟨_,?_,h⟩;rw[bD]
  exact bC h
 |succ j=>
  obtain h|h:=dI _ _▸h
  .refine aZ ⟨_,?_,h⟩;rw[bD]
  have d:j<xs[b].2.length:=c;rw[aC d]at h;exact bC ⟨xs[b],xs[b].2[j],aC a,aC d,YN.1<|fV h⟩
theorem OD.to_{b i u:Nat}(j:u<V)(m:b<xs.length)(h:OD xs u b i):u∈Uq xs xs[b] V b i:=by
 obtain⟨x,e,n,h⟩:=h;have ex:xs[b]=x:=(cV.1 e).2;unfold Uq;refine fG.2 ⟨bE.2 j,?_⟩;unfold Ox;rw[ex];have hq:∀q:Bool,(q=true↔UV xs u b)->∀d:Decidable (UV xs u b),@decide (UV xs u b) d=q:=λq hq d=>by
  rw[eQ,bD,hq]
 obtain h|⟨q,g,c⟩:=h
 .cases i with
  |zero=>
   have h:Yo xs b u=true:=h;rw[dI];exact aZ h
  |succ l=>
   obtain⟨o,y,a,f,k⟩:=h;rw[e]at a;cases a;rw[dI];refine aZ ?_;rw[f];exact eB<|YN.2 k
 rw[hq q g];cases i with
 |zero=>rw[dI];exact bC c
 |succ l=>rw[dI];exact bC c
include hv hr hns
theorem WG{u d n b m:Nat}(a:Wl xs u d n)(h:OD xs u b m):JO (X8 xs) d b/\(d=b->n<=m)/\(d≠b->Ol xs u b):=by
 let⟨x,f,l,h⟩:=h;let⟨c,ex⟩:=cV.1 f;have k:d<xs.length:=by
  let⟨z,o,_⟩:=a.mem;exact(cV.1 o).1
 obtain h|⟨q,i,j⟩:=h
 .let⟨e1,e2⟩:=Wl.one hv a h;subst e1 e2;exact⟨Zd<|hr d c,λ_=>aA,λq=>absurd rfl q⟩
 subst ex;by_cases e1:d=b
 .subst e1
  refine⟨Zd<|hr d c,λ_=>?_,λq=>absurd rfl q⟩;apply dQ;intro t;have r:Yo xs d u=false:=by
   cases ep:Yo xs d u with
   |false=>rfl
   |true=>have:=(Wl.one hv (k:=0) ep a).2;omega
  have e:=qP c i l j r λs y p g=>VZ hv a (aZ oM) f g;exact(vE hv hr hns a k e).2 rfl
 have e:=qP c i l j (qU hv a λq=>e1 q.symm) λs y p g=>VZ hv a (bC λq=>e1 q.symm) f g;exact⟨(vE hv hr hns a k e).1,λq=>absurd q e1,λ_=>e⟩
theorem DP(F:UF xs){u d k w e m f j:Nat}(b:Wl xs u d k)(g:Wl xs w e m)(s:OD xs u f j)(G:OD xs w f j)(o:JO (X8 xs) d e)(i:d=e->k<=m):OD xs u e m:=by
 have K:=hv;let⟨J,N,H⟩:=WG hv hr hns b s;let⟨l,I,_⟩:=WG hv hr hns g G;let⟨z,a,_⟩:=g.mem;have L:=(cV.1 a).1;have r:m<=z.2.length:=by
  cases m with
  |zero=>exact aN
  |succ t=>
   let⟨P,y,n,c,_⟩:=g;rw[a]at n;cases n;exact(cV.1 c).1
 refine⟨z,a,r,?_⟩;by_cases p:d=e/\k=m
 .obtain⟨rfl,rfl⟩:=p;exact bC b
 right;by_cases e1:e=f
 .subst e1;have E:=I rfl;let⟨O,ex,B,h⟩:=s;rw[a]at ex;cases ex;obtain h|⟨q,v,x⟩:=h
  .let⟨q1,q2⟩:=Wl.one hv b h;have:=i q1;exact absurd ⟨q1,oM⟩ p
  refine⟨q,v,Vk j E B x λt y C M c=>VZ hv b ?_ a c⟩;by_cases q1:d=e
  .right;have:=i q1;omega
  left;exact λq=>q1 q.symm
 have A:d≠f:=λq=>by
  subst q;exact e1<|Z1 l o
 have D:=EB hv F b o l e1<|H A;refine⟨true,⟨λ_=>D,λ_=>rfl⟩,Vk z.2.length r aA ?_ λt y C _ c=>VZ hv b ?_ a c⟩;·rw[WT _ _<|aA];simp
 by_cases q1:d=e
 .right;have:=i q1;omega
 left;exact λq=>q1 q.symm
end
end
def P2(C:Ym)(l:Wa)(c j:Nat):Prop:=∀i (h:i<l.length),i<j->C l[i]≠(c:Int)
theorem Mp{C:Ym}:P2 C s c 0:=λi _ h=>absurd h oM
def Ap(C:Ym)(l:Wa)(c:Nat):Prop:=∀a,a < c->∃u∈l,C u=(a:Int)
def Pw(C:Ym)(l:Wa)(c j:Nat)(b:Bool):Prop:=(b=true->P2 C l c j)/\(b=false->∃u∈l,C u=(c:Int))
theorem yH(y:Uy)(E:Nat)(C:Ym)(x:Uy)(c:Nat)(w:Ub)(F:Hs (∀u,u<n->∃b o,y=some (Hk b o)/\w.cell? (Hk b<|o+u)=some (Hp<|C u)))(ha:Hs (∀i (h:i<s.length),∃b o,x=some (Hk b o)/\w.cell? (Hk b<|o+i)=some (Hp (s[i]:Int))))(k:Hs (m=s.length))(R:m<=1048576)(H:Hs (∀u∈s,u<n)):
 Calls prog 36 #[.slice y n E,.slice x m c] w λe K=>e=.returned (Hp (Nx C s:Int))/\K=w:=by
 go_in
 go_wp2
 go_loop [5] (λi=>∃q:Nat,q<=m/\i=Hp q/\Hs (Ap C s q)) λi=>m-(intOf i).toNat
 case atStart=>exact⟨0,aN,rfl,Xa λp h=>absurd h oM⟩
 obtain⟨q,hq,rfl,l⟩:=hrel;by_cases Q:q<m
 .go_wp2
  go_loop [6,7] (λb i=>∃(a:Bool)(j:Nat),b=.bool a/\j<=m/\i=Hp j/\Hs (Pw C s q j a)) λ_ i=>m-(intOf i).toNat
  case atStart=>exact⟨true,0,rfl,aN,rfl,Xa ⟨λ_=>Mp,λh=>by cases h⟩⟩
  obtain⟨a,j,rfl,O,rfl,d⟩:=hrel;by_cases I:j<m
  .have z:j<s.length:=k.o▸I
   obtain⟨b,o,rfl,L⟩:=ha j z;have t:=aH z;have v:=H _ t;obtain⟨b2,T,rfl,e1⟩:=F _ v;have D:Hs (C s[j]=(q:Int)->Pw C s q (j+1) false):=Xa (λe=>⟨λh=>(by cases h),λ_=>⟨_,t,e⟩⟩);have B:Hs (C s[j]≠(q:Int)->Pw C s q (j+1) a):=Xa (λe=>⟨λh i g M=>by
    by_cases e2:i=j;·subst e2;exact e
    exact d.1 h i g oM,d.2⟩)
   generalize s[j]=u at*;generalize C u=A at*;have P:(j:Int)<(m:Int):=oM;have S:(u:Int)<(n:Int):=oM;by_cases r:A=(q:Int)
   .subst r;go_wp2;exact⟨⟨false,j+1,rfl,oM,gM,Xa<|D.o rfl⟩,by simp[intOf];omega⟩
   have N:(A==(q:Int))=false:=by rw[iS];exact r
   go_wp2;exact⟨⟨a,j+1,rfl,oM,gM,Xa<|B.o r⟩,by simp[intOf];omega⟩
  have G:j=m:=oM;subst G;cases a with
  |true=>
   have f:Hs (Nx C s=q):=Xa (ry ⟨λu v e=>by
    obtain⟨i,g,rfl⟩:=bR v;exact d.1 rfl i g (k.o▸g) e,l⟩)
   go_wp2;go_ret;exact⟨by rw[f.o];rfl,rfl⟩
  |false=>
   have f:Hs (Ap C s<|q+1):=Xa (λp h=>by
    by_cases e:p=q;·subst e;exact d.2 rfl
    exact l p oM)
   go_wp2;exact⟨⟨q+1,oM,gM,f⟩,by simp[intOf];omega⟩
 have J:q=m:=oM
 subst J;have f:Hs (Nx C s=q):=Xa (by
  have h:=wL (C:=C) (l:=s) (k.o▸l);rw[k.o];exact ry h)
 go_wp2;go_ret;exact⟨by rw[f.o];rfl,rfl⟩
def lh(f:Nat->Value):Nat->Nat->List Value
 |_,0=>[]
 |i,n+1=>f i::lh f (i+1) n
theorem rD(i:Nat):∀(n:Nat)(a:List Value),a.length=n->∃f:Nat->Value,a=lh f i n:=λn a h=>by
 have d:∀(n:Nat)(a:List Value)(i:Nat)(f:Nat->Value),a.length=n->(∀j,f (i+j)=a.getD j undef)->a=lh f i n:=λn=>by
  induction n with
  |zero=>intro a i f h _;cases a with
   |nil=>rfl
   |cons=>cases h
  |succ n c=>intro a i f h b;cases a with
   |nil=>cases h
   |cons e a=>
    rw[lh,<-c a (i+1) f (by simpa using h) λj=>by have:=b<|j+1;rw[show i+1+j=i+(j+1) by omega];simpa using this];have:=b 0;rw[fW]at this;rw[this];rfl
 exact⟨λk=>a.getD (k-i) undef,d n a i _ h λj=>by rw[Nat.add_sub_cancel_left]⟩
noncomputable def M8:Code:=(f13.9.bind<|Zj 14).getD .skip
noncomputable def M7:Code:=(f13.9.bind<|Zj 19).getD .skip
noncomputable def Na:Code:=(f13.9.bind<|Zj 24).getD .skip
theorem M5{b d C r s q o:Nat}{u v:Int}{wr:World}{Q:Exit->Act->World->Prop}{c0 c2 c3 c4 c5:Value}(U:y.length=120)(hQ:Hs (∀c (O:Act) t D w,Q (.panic c) (O.put (some t) D) w->Q (.panic c) O w))(f4:wr.cell? ⟨m,k+i,none⟩=some (.int .i64 (j:Int)))(h1:wr.cell? ⟨n,1,none⟩=some (.slice (some ⟨b,d,none⟩) C c))(g0:wr.cell? ⟨b,d+j*6,none⟩=some (.slice p r s))(g1:wr.cell? ⟨b,d+j*6+1,none⟩=some (.slice P q o))(g2:wr.cell? ⟨b,d+j*6+2,none⟩=some (.int .i64 T))(g3:wr.cell? ⟨b,d+j*6+3,none⟩=some (.int .i64 z))(g4:wr.cell? ⟨b,d+j*6+4,none⟩=some (.int .i64 u))(g5:wr.cell? ⟨b,d+j*6+5,none⟩=some (.int .i64 v))(a8:i<B)(a6:j<C)(R:Hs (∀(aa ab ac ad af aj al ao:Value)(x:World),Below wr.1.size wr x->x.rowIs wr.1.size 60 6 (jo (.slice p r s) (.slice P q o) (.int .i64 T) (.int .i64 z) (.int .i64 u) (.int .i64 v))->Q .normal ⟨(c0::.pointer (some ⟨n,0,none⟩)::c2::c3::c4::c5::.slice (some ⟨m,k,none⟩) B g::a::.int .i64 (i:Int)::.pointer (some ⟨wr.1.size,0,none⟩)::(y.take 32++aa::ab::ac::ad::af::aj::al::ao::y.drop 40)).toArray,[]⟩ x)):
 Code.wp prog M8 Q ⟨(c0::.pointer (some ⟨n,0,none⟩)::c2::c3::c4::c5::.slice (some ⟨m,k,none⟩) B g::a::.int .i64 (i:Int)::A::y).toArray,[]⟩ wr:=by
 conv=>arg 2;whnf
 obtain⟨a4,rfl⟩:=rD 10 120 y U;clear U;simp only[lh,Nat.reduceAdd]at R |-;have a7:(i:Int)<(B:Int):=oM;have a5:(j:Int)<(C:Int):=oM;refine Y7 (λh=>h.cell? (Hk m<|k+i)=some (Hp j)/\h.cell? (Hk n 1)=some (Hm b d C c)/\h.cell? (Hk b<|d+j*6)=some (.slice p r s)/\h.cell? (Hk b<|d+j*6+1)=some (.slice P q o)/\h.cell? (Hk b<|d+j*6+2)=some (Hp T)/\h.cell? (Hk b<|d+j*6+3)=some (Hp z)/\h.cell? (Hk b<|d+j*6+4)=some (Hp u)/\h.cell? (Hk b<|d+j*6+5)=some (Hp v)) λhHeld=>?_;refine X0 0 ?_;refine X0 1 ?_;refine X0 2 ?_;refine X0 3 ?_;refine X0 4 ?_;refine X0 5 ?_;refine X0 6 ?_;refine X0 7 ?_;refine Xs 8 λZ hK=>?_;go_simp;have J:(λE:World=>Below wr.1.size wr E/\Hs (E.rowIs wr.1.size 60 6<|jo Hq Hq (Hp 0) (Hp 0) (Hp 0) (Hp 0))) ((wr.alloc<|.cells #[Hq,Hq,Hp 0,Hp 0,Hp 0,Hp 0] 60).drew):=⟨(Xb (Below.refl _ _) _).drew,(Xa<|World.rowIs.drew (eK wr #[Hq,Hq,Hp 0,Hp 0,Hp 0,Hp 0] 60 _ (λl L=>by match l,L with|0,_=>rfl|1,_=>rfl|2,_=>rfl|3,_=>rfl|4,_=>rfl|5,_=>rfl)))⟩
 generalize (wr.alloc _).drew=H at*;let⟨K,e⟩:=J;have Y:=Xa K;have N:Hs (∀W,Below wr.1.size wr W->W.cell? (Hk m<|k+i)=some (Hp j)/\W.cell? (Hk n 1)=some (Hm b d C c)/\W.cell? (Hk b<|d+j*6)=some (.slice p r s)/\W.cell? (Hk b<|d+j*6+1)=some (.slice P q o)/\W.cell? (Hk b<|d+j*6+2)=some (Hp T)/\W.cell? (Hk b<|d+j*6+3)=some (Hp z)/\W.cell? (Hk b<|d+j*6+4)=some (Hp u)/\W.cell? (Hk b<|d+j*6+5)=some (Hp v)):=Xa (λW hW=>by
  have f:∀(I M:Nat)(D:Value),wr.cell? (Hk I M)=some D->W.cell? (Hk I M)=some D:=λI M D F=>oB hW F<|aI wr _ F
  exact⟨f _ _ _ f4,f _ _ _ h1,f _ _ _ g0,f _ _ _ g1,f _ _ _ g2,f _ _ _ g3,f _ _ _ g4,f _ _ _ g5⟩)
 refine hK _ _ (N H K) λhHeld=>?_;clear hK K
 try simp only[xX]
 refine Xs 9 λZ hK=>?_;have ar:=e.cell (i:=0) vY;have az:=e.cell (i:=1) vY;have a0:=e.cell (i:=2) vY;have a1:=e.cell (i:=3) vY;have a2:=e.cell (i:=4) vY;have a3:=e.cell (i:=5) vY;have lz:=e.frozen;have aq:∀(W:World)(l G:Nat)(V:Value),l≠G->(W.setCell (Hk wr.1.size l) V).cell? (Hk wr.1.size G)=W.cell? (Hk wr.1.size G):=λW l G V F=>cJ λap=>F<|fI Addr.off ap;go_simp;clear ar az a0 a1 a2 a3 lz aq;have J:(λE:World=>Below wr.1.size wr E/\Hs (E.rowIs wr.1.size 60 6<|jo (.slice p r s) (.slice P q o) (Hp T) (Hp z) (Hp u) (Hp v))) ((((((H.setCell (Hk wr.1.size 0) (.slice p r s)).setCell (Hk wr.1.size 1) (.slice P q o)).setCell (Hk wr.1.size 2) (Hp T)).setCell (Hk wr.1.size 3) (Hp z)).setCell (Hk wr.1.size 4) (Hp u)).setCell (Hk wr.1.size 5) (Hp v)):=⟨((((((Y.setCell aA _).setCell aA _).setCell aA _).setCell aA _).setCell aA _).setCell aA _),(Xa<|((((((e.set 0 _).set 1 _).set 2 _).set 3 _).set 4 _).set 5 _).congr (λl L=>by match l,L with|0,_=>rfl|1,_=>rfl|2,_=>rfl|3,_=>rfl|4,_=>rfl|5,_=>rfl))⟩;generalize ((((((H.setCell _ _).setCell _ _).setCell _ _).setCell _ _).setCell _ _).setCell _ _)=x at*;let⟨S,X⟩:=J;refine hK _ _ (N x S) λhHeld=>?_;clear hK;refine Yq ?_;exact R _ _ _ _ _ _ _ _ _ S X
theorem M4{e f r F d ln u x:Nat}{Q:Exit->Act->World->Prop}{c0 c1 c2 c3 c5 C:Value}(E:y.length=118)(hQ:Hs (∀c (z:Act) t h w,Q (.panic c) (z.put (some t) h) w->Q (.panic c) z w))(G:v.cell? ⟨e,0,none⟩=some (.slice (some ⟨f,r,none⟩) i F))(H:v.cell? ⟨f,r+g*2,none⟩=some (.int .i64 (B:Int)))(I:v.cell? ⟨d,0,none⟩=some (.slice p ln u))(yg:v.cell? ⟨k,B,none⟩=some (.int .i64 T))(yf:v.frozen? ⟨k,B,none⟩=false)(ac:e≠k)(ad:f≠k)(ab:d≠k)(hj:g<i)(hd:B<n)(J:Hs (Calls prog 36 #[.slice (some ⟨k,0,none⟩) n m,.slice p ln u] v.drew λo l=>o=.returned (.int .i64 (x:Int))/\l=v.drew))(D:Hs (∀(L M N O P R S U V W X Y Z aa:Value),Q .normal ⟨(c0::c1::c2::c3::.slice (some ⟨k,0,none⟩) n m::c5::a::A::C::.pointer (some ⟨e,0,none⟩)::.slice (some ⟨d,0,none⟩) (j+1) (j+1)::.int .i64 (g:Int)::(y.take 53++L::M::N::O::P::R::S::U::V::W::X::Y::Z::aa::y.drop 67)).toArray,[]⟩ (v.drew.setCell ⟨k,B,none⟩ (.int .i64 (x:Int))))):
 Code.wp prog M7 Q ⟨(c0::c1::c2::c3::.slice (some ⟨k,0,none⟩) n m::c5::a::A::C::.pointer (some ⟨e,0,none⟩)::.slice (some ⟨d,0,none⟩) (j+1) (j+1)::.int .i64 (g:Int)::y).toArray,[]⟩ v:=by
 conv=>arg 2;whnf
 obtain⟨aj,rfl⟩:=rD 12 118 y E;simp only[lh,Nat.reduceAdd]at D |-;have ao:(g:Int)<(i:Int):=oM;have al:(B:Int)<(n:Int):=oM;refine Y7 (λl=>l.cell? (Hk e 0)=some (Hm f r i F)/\l.cell? (Hk f<|r+g*2)=some (Hp B)/\l.cell? (Hk d 0)=some (.slice p ln u)) λhHeld=>?_;refine X0 0 ?_;refine X0 1 ?_;refine X0 2 ?_;refine X0 3 ?_;refine X0 4 ?_;refine X0 5 ?_;refine X0 6 ?_;refine X0 7 ?_;refine X0 8 ?_;refine X0 9 ?_;refine X0 10 ?_;refine X0 11 ?_;refine Xs 12 λK hK=>?_;go_simp;refine J.mono ?_;rintro o w6⟨rfl,af⟩;subst af;refine hK _ _ ⟨G,H,I⟩ λhHeld=>?_;refine X0 13 ?_;refine Xs 14 λK hK=>?_;go_simp;have q:∀(b s:Nat)(h:Value),b≠k->v.cell? (Hk b s)=some h->(v.drew.setCell (Hk k B) (Hp x)).cell? (Hk b s)=some h:=λb s h h1 h2=>(bH v.drew (Hk k B) (Hk b s) _ (by show k≠b;exact λo=>h1 o.symm)).trans h2;refine hK _ _ ⟨q _ _ _ ac G,q _ _ _ ad H,q _ _ _ ab I⟩ λhHeld=>?_
 try simp only[xX]
 refine Yq ?_;exact D _ _ _ _ _ _ _ _ _ _ _ _ _ _
theorem M6{e f r G d ln u x:Nat}{Q:Exit->Act->World->Prop}{c0 c1 c2 c3 c5 D C:Value}(F:y.length=117)(hQ:Hs (∀c (z:Act) t h w,Q (.panic c) (z.put (some t) h) w->Q (.panic c) z w))(H:v.cell? ⟨e,1,none⟩=some (.slice (some ⟨f,r,none⟩) i G))(I:v.cell? ⟨f,r+g*5+1,none⟩=some (.int .i64 (B:Int)))(J:v.cell? ⟨d,g+1,none⟩=some (.slice p ln u))(yg:v.cell? ⟨k,B,none⟩=some (.int .i64 T))(yf:v.frozen? ⟨k,B,none⟩=false)(aj:e≠k)(al:f≠k)(af:d≠k)(hj:g<i)(hd:B<n)(a2:j<=4000)(a1:g<j)(K:Hs (Calls prog 36 #[.slice (some ⟨k,0,none⟩) n m,.slice p ln u] v.drew λo l=>o=.returned (.int .i64 (x:Int))/\l=v.drew))(E:Hs (∀(X Y Z aa ab ac ad M N O P R S U V W:Value),Q .normal ⟨(c0::c1::c2::c3::.slice (some ⟨k,0,none⟩) n m::c5::a::A::D::.pointer (some ⟨e,0,none⟩)::.slice (some ⟨d,0,none⟩) (j+1) (j+1)::C::.int .i64 (g:Int)::(y.take 80++X::Y::Z::aa::ab::ac::ad::M::N::O::P::R::S::U::V::W::y.drop 96)).toArray,[]⟩ (v.drew.setCell ⟨k,B,none⟩ (.int .i64 (x:Int))))):
 Code.wp prog Na Q ⟨(c0::c1::c2::c3::.slice (some ⟨k,0,none⟩) n m::c5::a::A::D::.pointer (some ⟨e,0,none⟩)::.slice (some ⟨d,0,none⟩) (j+1) (j+1)::C::.int .i64 (g:Int)::y).toArray,[]⟩ v:=by
 conv=>arg 2;whnf
 obtain⟨ap,rfl⟩:=rD 13 117 y F;simp only[lh,Nat.reduceAdd]at E |-;have az:(g:Int)<(i:Int):=oM;have aq:(B:Int)<(n:Int):=oM;have a3:IntKind.i64.wrap ((g:Int)+1)=(g:Int)+1:=by rw[dF];omega
 have ar:0<=(g:Int)+1:=oM;have a0:(g:Int)+1<(j:Int)+1:=oM;refine Y7 (λl=>l.cell? (Hk e 1)=some (Hm f r i G)/\l.cell? (Hk f<|r+g*5+1)=some (Hp B)/\l.cell? (Hk d<|g+1)=some (.slice p ln u)) λhHeld=>?_;refine X0 0 ?_;refine X0 1 ?_;refine X0 2 ?_;refine X0 3 ?_;refine X0 4 ?_;refine X0 5 ?_;refine X0 6 ?_;refine X0 7 ?_;refine X0 8 ?_;refine X0 9 ?_;refine X0 10 ?_;refine X0 11 ?_;refine X0 12 ?_;refine X0 13 ?_;refine Xs 14 λL hK=>?_;go_simp;refine K.mono ?_;rintro o w6⟨rfl,ao⟩;subst ao;refine hK _ _ ⟨H,I,J⟩ λhHeld=>?_;refine X0 15 ?_;refine Xs 16 λL hK=>?_;go_simp;have q:∀(b s:Nat)(h:Value),b≠k->v.cell? (Hk b s)=some h->(v.drew.setCell (Hk k B) (Hp x)).cell? (Hk b s)=some h:=λb s h h1 h2=>(bH v.drew (Hk k B) (Hk b s) _ (by show k≠b;exact λo=>h1 o.symm)).trans h2;refine hK _ _ ⟨q _ _ _ aj H,q _ _ _ al I,q _ _ _ af J⟩ λhHeld=>?_
 try simp only[xX]
 refine Yq ?_;exact E _ _ _ _ _ _ _ _ _ _ _ _ _ _ _ _
section
attribute [local go_sem] Oper.semAt_some
structure OM(w6:Ub)(gT Kr:Nat)(R:Vv)(U:Ub):Prop where
 os:U.4=w6.4
 tape:U.2=w6.2
 output:U.5=w6.5
 size:w6.1.size<=U.1.size
 gl:gT<w6.1.size
 fr:∀q,q<w6.1.size->q≠gT->U.1[q]?=w6.1[q]?
 st:∃T:Wk,Cp U gT Kr Kr T/\XA T/\∀c,c<64*Kr->(Xh T c=true↔R c)
section
variable {w6 U U': Ub} {gT Kr: Nat} {R R': Nat -> Prop}
theorem OM.far(h:OM w6 gT Kr R U)(k:Below w6.1.size U U'):OM w6 gT Kr R U':=by
 let⟨T,a,b⟩:=h.7;exact⟨k.1.trans h.1,k.2.trans h.2,k.3.trans h.3,aJ h.4 k.4,h.5,λq q1 q2=>(k.5 q q1).trans (h.6 q q1 q2),T,a.of_block<|k.5 _ h.5,b⟩
theorem OM.congr(h:OM w6 gT Kr R U)(e:∀c,c<64*Kr->(R c↔R' c)):OM w6 gT Kr R' U:=by
 let⟨T,b,d,f⟩:=h.7;exact⟨h.1,h.2,h.3,h.4,h.5,h.6,T,b,d,λc a=>(f c a).trans (e c a)⟩
theorem OM.own(w6:Ub)(gT Kr:Nat){a:Type}(R:a->Vv):OwnFrom w6.1.size (λs U=>OM w6 gT Kr (R s) U):=λs A U row h k q=>by
 have:=h.4;exact h.far ⟨k.1,k.2,k.3,k.4,λb c=>k.5 b oM λe=>by have:=(q b e.symm).1;omega⟩
theorem OM.cell(h:OM w6 gT Kr R U){b o:Nat}{v:Uj}(c:b≠gT)(a:w6.cell? (Hk b o)=some v):U.cell? (Hk b o)=some v:=(Xc<|h.6 b (aI w6 _ a) c).trans a
theorem OM.turn(h:OM w6 gT Kr R U){X:Wk}(k:U.grownBy U' (some gT))(b:Cp U' gT Kr Kr X)(d:XA X)(a:∀c,c<64*Kr->(Xh X c=true↔R' c)):OM w6 gT Kr R' U':=by
 have f:=h.4;exact⟨k.1.trans h.1,k.2.trans h.2,k.3.trans h.3,aJ h.4 k.4,h.5,λq q1 q2=>(k.5 q oM λe=>q2<|by injection e).trans (h.6 q q1 q2),X,b,d,a⟩
end
def jn(a:Wc)(l:Wa)(c:Nat):Prop:=∃v∈l,a[v]?=some (c:Int)
theorem VA{z g C:Nat}{W:Wk}{G:Uy}{m:Nat}(H:Nat){s Kr:Nat}{k:Wc}{b1 aq:Nat}{w:Ub}(Q:Hs (Cp w z g C W))(ce:Hs (XA W))(ha:Hs (Xf w b1 aq G k))(hx:Hs (m=k.length))(hB:aq<=w.1.size)(hT:Hs (Jn w))(hK:g<=100)(b7:Hs (N1 m g W))(hr:s<=2000)(af:Hs (Kr=(s+63)/64))(hc:Hs (∀c∈k,c=-1\/0<=c/\c<s)):
 Calls prog 111 #[.agg #[Hl z g C],.slice G m H,Hp s] w λr n=>∃ab aa,r=.returned (.agg #[Hl ab Kr Kr])/\w.1.size<=ab/\Below w.1.size w n/\Cp n ab Kr Kr aa/\XA aa/\∀c,c<64*Kr->(Xh aa c=true↔jn k (Mq W<|64*g) c):=by
 have HN:=Xa λW=>As s W oM;simp only[<-af.o]at HN;have cn:Kr<=100:=oN af.o;have ct:s<=64*Kr:=oN af.o;refine(bM (n:=8)).1 ?_;refine callsIn_of_wp_marks func111 rfl trivial ?_ rfl;simp only[ntmps111,xY,Nat.reduceAdd,Nat.reduceSub];gi_wp2
 have cj:=Q.lt;have M:(λf:Ub=>Hs (Below w.1.size w f)/\w.1.size+3<=f.1.size/\f.cell? (Hk w.1.size 0)=some (Hl z g C)/\f.cell? (Hk (w.1.size+1) 0)=some (.slice G m H)/\Hs (f.rowIs (w.1.size+2) 195 1 λ_=>Hq)) (((w.alloc<|.cells #[Hl z g C] 103).alloc (.cells #[.slice G m H] 41)).alloc (.cells #[Hq] 195)):=⟨Xa<|Xb (Xb (Xb (Below.refl _ _) _) _) _,sP,(by simp[go_sem]),(by simp[go_sem]),(Xa (by
  have h:=eK ((w.alloc<|.cells #[Hl z g C] 103).alloc (.cells #[.slice G m H] 41)) #[Hq] 195 (λ_=>Hq) (λS K=>by match S,K with|0,_=>rfl)
  rw[aO,aO]at h;exact h))⟩
 generalize ((w.alloc _).alloc _).alloc _=w0 at*;let⟨az,cv,c3,c4,a4⟩:=M;refine⟨trivial,(bM.2<|HN w0).mono ?_⟩;rintro r o⟨gT,rfl,cp,J,aj⟩;have cw:=J.4;have d3:=(XU J oM).trans c3;have d4:=(XU J oM).trans c4;have a0:=Xa<|Xg az J;have a5:=Xa<|a4.of_block (J.5 _ oM);have a6:=Xa aj;have cr:=aj.lt;have e3:=λob=>(bP o ob (Hk w.1.size 0) (by show w.1.size<_;omega)).trans d3;clear J aj c3 c4 HN a4 az;gi_wp2;have M:(λf:Ub=>Below o.1.size o f/\o.1.size+1<=f.1.size/\f.cell? (Hk o.1.size 0)=some (Hl gT Kr Kr)) (o.alloc<|.cells #[Hl gT Kr Kr] 195):=⟨Xb (Below.refl _ _) _,sP,(by simp[go_sem])⟩;generalize o.alloc _=A at*;let⟨l,cz,c7⟩:=M;clear e3;refine⟨trivial,(FO 7 (some ⟨z,0,none⟩) g C A).mono ?_⟩;rintro r B⟨rfl,u⟩;have ad:Below A.1.size A B:=by rw[u];exact Xb (Below.refl _ _) _
 have cx:A.1.size+1<=B.1.size:=by rw[u,aO];exact aA
 have a9:B.cell? (Hk A.1.size 0)=some (Hl z g C):=by rw[u];simp[go_sem]
 have F:=Xa<|Xg l ad;have p:=Xa<|Xg a0 F;have f4:=(XU F oM).trans d4;have f7:=(XU ad oM).trans c7;have bp:=Xa<|a5.of_block (F.5 _ oM);have bq:=Xa<|a6.of_block (F.5 _ oM);have b4:(3: Nat)<w.1.size:=aI w _<|hT 0 vY;have b0:=Xa<|Q.of_block (p.5 z cj);have br:=Xa<|hT.of_block (p.5 _ b4);have bl:=Xa f4;have a2:=Xa f7;have bi:=Xa a9;clear l ad u c7 d3 d4 f4 f7 a9 a0 a5 a6;gi_wp2
 have bm:Hs (OM B gT Kr (jn k []) B):=Xa ⟨rfl,rfl,rfl,aA,oN F.4,λ_ _ _=>rfl,λ_=>0,⟨aA,λ_=>Hq,bq.congr λS K=>by rw[aU K]⟩,KW,λc _=>⟨λh=>by simp[Xh]at h,λh=>by let⟨v,b,_⟩:=h;simp at b⟩⟩;have c8:=F.4;refine wj (F:=Fence.wide) (n:=8) rfl vY (gf:=183) (lb:=#[Hn A.1.size]) rfl trivial (enters_of func183 vZ rfl) (DS (λq=>q=gT) bi b0 ce br hK (Xa oM) (Xa oM)) (λ_ _ _ _ h _ _=>h) (λh ck=>h.trans ck) (λW T V O b a j=>Zf.putObj W T V O b a j) (Below.refl _ _) (λ_=>rfl)
  (λao U=>OM B gT Kr (jn k ao) U) (OM.own B gT Kr<|jn k) bm
  (λx a' U=>a'=⟨#[.agg #[Hl z g C],.slice G m H,Hp s,Hn w.1.size,Hn<|w.1.size+1,undef,Hn<|w.1.size+1+1,Hn o.1.size,Hp x,Hp s,.agg #[Hl gT Kr Kr],.agg #[Hl z g C],.func (.func 183) #[] #[Hn A.1.size],Hp x,undef,undef,undef,undef,undef,undef,undef,undef,undef,undef,undef,undef,undef],[]⟩) (λ_ _ _ _ _ _ h _ _=>h) ?assign ?body ?done
 case assign=>
  intro T ao x U a7 d hP bc;have e:=Xa d;have bo:=Xa bc;clear d bc;gi_wp2;exact bo _ _ (KeepsOthers.refl _) (Zf.refl _) e hP rfl
 case body=>
  rintro T ao x a' U d hP rfl b6;have e:=Xa d;have bh:=om.1 hP;have cf:=b7 x bh.1 bh.2;have al:x<k.length:=by rw[<-hx.o];exact cf
  obtain⟨a8,V,rfl,hb,ba⟩:=ha x al;have e0:=d.cell oM<|(XU p oM).trans ba;have e4:=d.cell oM bl;have e7:=d.cell oM a2;have co:=hc _<|aH al;have Y:=Xa<|aC al;have ca:=d.4;generalize k[x]=ap at*;have c6:(x:Int)<(m:Int):=oM;clear d ba b6;by_cases hy:ap=-1
  .subst hy;have cg:((-1:Int) != -1)=false:=vY;gi_wp2;refine⟨KeepsOthers.refl _,Zf.refl _,e.congr λc _=>?_⟩;constructor;·rintro⟨v,b,a⟩;exact⟨v,dD _ b,a⟩
   rintro⟨v,b,a⟩;obtain j|j:=bU.1 b;·exact⟨v,j,a⟩
   rw[cS.1 j,Y.o]at a;injection a with a;omega
  have cg:(ap != -1)=true:=by rw[jJ];exact hy
  obtain⟨t,rfl⟩:=bX (show 0<=ap by omega);have cd:t<64*Kr:=oM;let⟨X,I,N,P⟩:=e.7;have HX:=Xa I;have bx:=Xa N;have bv:=Xa P;have ar:Hs (∀i,Below U.1.size U i->U.1.size+1<=i.1.size->i.cell? (Hk U.1.size 0)=some (Hp t)->Calls prog 158 #[.agg #[Hl gT Kr Kr],Hl U.1.size 1 1] i λr n=>r=.returned (.tuple #[])/\i.grownBy n (some gT)/\Cp n gT Kr Kr (E2 X [t])):=Xa (λi b a j=>by
   refine AY gT Kr Kr 1 1 X (some ⟨U.1.size,0,none⟩) [t] U.1.size (U.1.size+1) i (Xa λS K=>?_) (Xa rfl) vY (Xa λz Q=>by rw[cS.1 Q];exact cd) oM (Xa N) (Xa<|I.of_block (b.5 _ I.lt)) a (oN e.5);have b5:S=0:=by simp at K;exact K
   subst b5;exact⟨U.1.size,0,rfl,⟨aA,oM⟩,j⟩)
  clear I N P;gi_wp2;refine Tc (λn=>n.cell? (Hk o.1.size 0)=some (Hl gT Kr Kr)/\n.cell? (Hk (w.1.size+1) 0)=some (Hm a8 V m H)/\n.cell? (Hk a8<|V+x)=some (Hp t)) λhHeld=>?_;refine Yi 0 ?_;refine Yi 1 ?_;refine Yi 2 ?_;refine Yi 3 ?_;refine Yi 4 ?_;refine Yc 5 λa7 hK=>?_;go_simp;have M:(λf:Ub=>Below U.1.size U f/\U.1.size+1<=f.1.size/\f.cell? (Hk U.1.size 0)=some (Hp t)) ((U.alloc<|.cells #[Hp t] 197).drew):=⟨(Xb (Below.refl _ _) _).drew,(by simp[World.drew]),(by simp[go_sem])⟩;generalize (U.alloc _).drew=i at*;let⟨l,ch,bd⟩:=M;have E:=Xa l;have g0:=oB l e0<|aI U _ e0;have g4:=oB l e4<|aI U _ e4;have g7:=oB l e7<|aI U _ e7;have a1:=Xa<|ar.o i l ch bd;clear ar l bd e0 e4 e7;refine hK _ _ ⟨g7,g4,g0⟩ λhHeld=>?_;clear hK;refine Yc 6 λa7 hK=>?_;go_simp;refine⟨trivial,(CallsIn.inRound T<|bM.2 a1).mono ?_⟩;rintro r U3⟨rfl,y,u⟩;have q3:∀(L O:Nat)(v:Uj),L≠gT->i.cell? (Hk L O)=some v->U3.cell? (Hk L O)=some v:=λL O v b a=>(Xc<|y.5 L (aI i _ a) λr=>b<|by injection r).trans a;have Z:Hs (U.grownBy U3<|some gT):=Xa ⟨y.1.trans E.1,y.2.trans E.2,y.3.trans E.3,aJ E.4 y.4,λq q1 q2=>(y.5 q (aX q1 E.4) q2).trans (E.5 q q1)⟩;have bt:=Xa u;refine hK _ _ ⟨q3 _ _ _ oM g7,q3 _ _ _ oM g4,q3 _ _ _ oM g0⟩ λhHeld=>?_;clear hK y u q3 g0 g4 g7 a1
  try simp only[xX]
  refine ZV ?_;clear hHeld;gi_wp2;refine⟨Jc Z HX.obj,Zg Z rfl ca,e.turn Z bt (Zs [t] bx) λc b3=>?_⟩;rw[YR,dI,bv.o c b3,bD,cS];constructor
  .rintro(h|⟨v,b,a⟩);·exact⟨x,fB _<|cS.2 rfl,by rw[Y.o,h]⟩
   exact⟨v,dD _ b,a⟩
  rintro⟨v,b,a⟩;obtain j|j:=bU.1 b;·exact aZ ⟨v,j,a⟩
  rw[cS.1 j,Y.o]at a;injection a with a;exact bC (by have h4:=a;omega)
 rintro D xs U hD rfl d bb;have e:=Xa d;have a3:=Xa bb;have h7:=d.cell oM a2;have ac:=bp.of_block<|d.6 (w.1.size+2) oM oM;have h6:=ac.cell (i:=0) vY;have cl:=ac.frozen 0;have ci:=d.4;clear d bb;have cm:=(aS.1 a3).1;gi_wp2
 have bn:Hs ((U.setCell (Hk (w.1.size+2) 0) (Hl gT Kr Kr)).1[D]?=some (.deferred (some []))):=Xa ((Below.heap_setCell _ _ _ _<|by show D≠w.1.size+2;omega).trans a3);have b8:((U.setCell (Hk (w.1.size+2) 0) (Hl gT Kr Kr)).putObj D (.deferred none)).cell? (Hk (w.1.size+2) 0)=some (Hl gT Kr Kr):=by
  refine(bZ (a:=(Hk (w.1.size+2) 0)) (World.putObj_heap_other<|show w.1.size+2≠D by omega)).trans ?_;have:=(ac.set 0<|Hl gT Kr Kr).cell (i:=0) vY;simpa using this
 refine YK bn ⟨.agg #[Hl gT Kr Kr],by simp[results,results111,go_sem,b8],?_⟩;have be:∀q,q≠w.1.size+2->q≠D->((U.setCell (Hk (w.1.size+2) 0) (Hl gT Kr Kr)).putObj D (.deferred none)).1[q]?=U.1[q]?:=λq q1 q2=>(World.putObj_heap_other q2).trans (Below.heap_setCell _ _ _ _ q1);let⟨X,I,N,P⟩:=e.7;have cq:=e.5;refine⟨gT,X,rfl,oM,⟨e.1.trans p.1,e.2.trans p.2,e.3.trans p.3,?_,λq hq=>(be q oM oM).trans ((e.6 q oM oM).trans (p.5 q hq))⟩,I.of_block<|be gT oM oM,N,P⟩;have cb:=p.4;have bf:=(grownBy_putObj' (U.setCell (Hk (w.1.size+2) 0) (Hl gT Kr Kr)) D (.deferred none)).4;rw[Xd]at bf;exact aJ cb<|aJ ci bf
end
theorem BC{C:Ym}(h:HK w n m k C):Xf w 0 w.1.size (some ⟨n,0,none⟩) ((List.range m).map C):=λi a=>by
 simp only[bK,gI]at a;refine⟨n,0,rfl,⟨aN,h.lt⟩,?_⟩;simp only[cM,dW,aV];exact h.cell a
theorem CM{C:Ym}(d:∀u∈s,u<n)(c:Nat):jn ((List.range n).map C) s c↔∃u∈s,C u=(c:Int):=by
 unfold jn;constructor
 .rintro⟨u,a,b⟩;exact⟨u,a,by have:=d u a;simpa [this]using b⟩
 rintro⟨u,a,b⟩;exact⟨u,a,by have:=d u a;simp[this,b]⟩
theorem wQ(h:N1 n m f):∀u∈Mq f (64*m),u<n:=λu a=>by
 unfold Mq at a;let⟨b,c⟩:=fG.1 a;exact h u (bE.1 b) c
def rB(C:Ym)(l:Wa)(c:Nat):Prop:=∀a,a < c->∃u∈l,C u=(a:Int)
theorem Dl{b U:Nat}{C:Ym}(hz:Hs (Cp w k B g f))(a7:Hs (XA f))(X:Hs (Jn w))(hK:B<=100)(ac:Hs (N1 m B f))(hV:m<=2000)(z:Hs (HK w j m i C))(hc:Hs (∀u,u<m->C u=-1\/0<=C u/\C u<m))(s:n<m)(hn:Hs (C n=-1))(V:w.cell? (Hk b 0)=some (Hl j m i))(h2:w.cell? (Hk U 0)=some (Hp m))(a1:b≠j):
 Calls prog 120 #[Hp n,.agg #[Hl k B g],Hn b,Hn U] w λe w'=>e=.returned (Hp (Nx C (Mq f<|64*B):Int))/\w.grownBy w' (some j)/\HK w' j m i (Nn C (n,Mq f<|64*B)):=by
 let⟨a,W⟩:∃a,a=(m+63)/64:=⟨_,rfl⟩;have K:=Xa (λaz (F:Below w.1.size w az)=>VA i (Xa<|hz.of_block (F.5 k hz.lt)) a7 (Xa<|BC (z.of_block<|F.5 j z.lt)) (Xa sP) aA (Xa<|X.of_block (F.5 _<|aI w _ (X 0 vY))) hK ac hV (Xa W) (Xa (λc hm=>by
  obtain⟨u,J,rfl⟩:=aY.1 hm;exact hc u<|bE.1 J)))
 have ba:m<=64*a:=oM;have bb:a<=100:=oM;clear W;have N:=Xa<|wQ ac;generalize Mq f (64*B)=A at*;have O:Hs (∀c,rB C A c->c<m):=Xa λc y=>wI y N s hn;have l1:=aI w _ V;have l2:=aI w _ h2;have a4:=z.lt
 go_in
 go_wp2_with fail
 refine(K _<|Xb (Below.refl _ _) _).mono ?_;rintro e t⟨r,T,rfl,bf,G,Y,aa,ab⟩;have bi:w.1.size+1<=t.1.size:=by have:=G.4;simpa using this
 have al:=Xa<|Xg (Xb (Below.refl w.1.size w) (.cells #[Hl k B g] 103)) G;have R:=Xa Y;have aq:=Xa aa;have M:=Xa λc a2=>(ab c a2).trans (CM N c);clear G Y aa ab K;go_wp2_with fail
 have a0:(λD:Ub=>Hs (Below w.1.size w D)/\Hs (Cp D r a a T)/\D.cell? (Hk t.1.size 0)=some (Hl r a a)/\t.1.size<D.1.size) (t.alloc<|.cells #[Hl r a a] 195):=⟨Xa<|Xb al _,Xa<|R.alloc _,(by simp[go_sem]),sP⟩;generalize t.alloc _=w2 at*;let⟨l,S,af,a6⟩:=a0;have ar:=Xa af;clear af R
 go_loopw [8] (λu wr=>∃c:Nat,u=Hp c/\Hs (rB C A c)/\Hs (Below w2.1.size w2 wr)) λu _=>m-(intOf u).toNat
 case atStart=>exact⟨0,rfl,Xa λx y=>absurd y oM,Xa<|Below.refl _ _⟩
 obtain⟨c,rfl,E,o⟩:=hrel;have bd:=O c E;have hx:=oB o ar a6;have Z:=S.of_block<|o.5 r S.lt;have p:=Xa (A7 r a c T wr aq (Xa (by
  let⟨_,a9,hX⟩:=Z;exact hX.congr λa8 hi=>by rw[aU hi])) oM oM)
 have I:=oB o ((l.cell (p:=Hk b 0) l1).trans V) (by have:=l.4;show b<_;have:b<w.1.size:=l1;omega);have L:=Xa<|(z.of_block<|l.5 j a4).of_block (o.5 j<|oN l.4);clear Z;cases hh:Xh T c with
 |true=>
  rw[hh]at p;have P:Hs (rB C A<|c+1):=Xa (λx y=>by
   by_cases e:x=c
   .subst e;exact(M x oM).1 hh
   exact E x oM)
  have be:=O _ P;clear hh;go_wp2_with fail
  refine p.mono ?_;rintro e q⟨rfl,h⟩;have d:=Xa<|Xg o h;clear h p;go_wp2;exact⟨⟨c+1,gM,P,d⟩,by simp[intOf];omega⟩
 |false=>
  rw[hh]at p;have ad:Nx C A=c:=ry ⟨λu J e=>by
   have:=(M c oM).2 ⟨u,J,e⟩;rw[hh]at this;exact absurd this vY,E⟩
  have Q:=Xa ad;clear hh ad;go_wp2_with fail
  refine p.mono ?_;rintro e q⟨rfl,h⟩;have a5:=oB h I<|aI wr _ I;have v:=Xa<|L.of_block (h.5 j L.lt);have d:=Xa<|l.trans ((Xg o h).mono l.4);have yc:=v.cell s;have yf:=v.frozen n;clear h p I hx;go_wp2_with fail
  have bh:(q.setCell (Hk j n) (Hp c)).cell? (Hk b 0)=some (Hl j m i):=(bH q (Hk j n) (Hk b 0) _ (by show j≠b;exact λe=>a1 e.symm)).trans a5;have a3:=(v.set n (c:Int) s).cell s;rw[aU rfl]at a3;have ap:=Xa<|v.set n (c:Int) s;have ao:Hs (w.grownBy (q.setCell (Hk j n) (Hp c)) (some j)):=Xa ((⟨d.1,d.2,d.3,d.4,λaj H _=>d.5 aj H⟩:w.grownBy q (some j)).trans ⟨rfl,rfl,rfl,by simp[World.setCell],λaj _ H=>Below.heap_setCell _ _ _ _ λe=>H<|by rw[e]⟩);generalize q.setCell _ _=w4 at*;go_wp2;go_ret;refine⟨by rw[Q.o];rfl,ao,ap.congr λa8 _=>?_⟩;unfold Nn;rw[Q.o]
def jr(a:List Int):Option Value->Value
 |some (.int .i64 z)=>.int .i64 (Kp a z)
 |_=>.int .i64 0
def recW(cs:Wc)(g:Nat)(a:Wa)(w:Ub):Ub:=a.foldl (λW o=>W.drew.setCell ⟨g,o,none⟩ (jr cs<|W.cell? ⟨g,o,none⟩)) w
theorem G7:recW l n (s++[m]) w=(recW l n s w).drew.setCell ⟨n,m,none⟩ (jr l<|(recW l n s w).cell? ⟨n,m,none⟩):=by
 unfold recW;rw[dT];rfl
theorem ox(c:Wc)(g:Nat){b:Nat}(d:b≠g):∀(a:Wa)(w:Ub),(recW c g a w).1[b]?=w.1[b]?
 |[],_=>rfl
 |o::a,w=>by
  show(recW c g a _).1[b]?=_;rw[ox c g d a];exact Below.heap_setCell w.drew _ _ _ d
theorem pu(c:Wc){g:Nat}{B:Nat}(d:B<=g):∀(a:Wa){b w:Ub},Below B b w->B<=b.1.size->Below B b (recW c g a w)
 |[],_,_,h,_=>h
 |o::a,_,_,h,hB=>pu c d a (h.drew.setCell (p:=⟨g,o,none⟩) d _) hB
def lP(a:Wc)(b:Wa)(A:Wo):Wo:=b.foldl (λA o=>A.set o<|jr a A[o]?) A
theorem Xv.recW{d:Nat->Nat×Nat×Nat}{L:Nat×Nat×Nat}{b t e g n c:Nat}{cs:Wc}:∀(a:Wa){w:Ub}{A:Wo},Xv w d L b t e (Hl g n c) n A->(∀o∈a,o<A.length)->Xv (recW cs g a w) d L b t e (Hl g n c) n (lP cs a A)
 |[],_,_,h,_=>h
 |o::a,w,A,h,hl=>by
  have k:Xv w.drew d L b t e (Hl g n c) n A:=h.keep λm _ _ i=>⟨rfl,i⟩;have f:=hl o sP;have j:w.cell? ⟨g,o,none⟩=A[o]?:=by rw[aC f];exact h.cell<|aC f
  have l:=k.set o<|jr cs A[o]?;have:=Xv.recW a l (cs:=cs) (λq hq=>by rw[bL];exact hl q<|by simp[hq]);show Xv (Go.Proofs.YtcfdhbigppockaaGreatDoor.recW cs g a (w.drew.setCell ⟨g,o,none⟩ (jr cs<|w.cell? ⟨g,o,none⟩))) _ _ _ _ _ _ _ _;rw[j];exact this
theorem xu{f1 f3 G:Uj}{L t:Nat}(J:Hs (Bx w n #[a,f1,.slice p k B,f3,A,G] 116))(K:n≠m)(X:Hs (Xf w g i p l))(Y:Hs (k=l.length))(W:i<=m)(ap:m<L)(hB:t<=w.1.size)(hL:L<=t)(hp:Hs (Zx w L t P<|s.map λo=>Tx<|Hk m o))(M:Hs (j=s.length))(a2:j<=1000)(hz:∀q,w.frozen? (Hk m q)=false)(hv:Hs (∀b (h:b<s.length),∃z:Nat,(recW l m (s.take b) w).cell? (Hk m<|s[b])=some (Hp z)/\z<l.length)):
 Calls prog 114 #[Hn n,.slice P j c] w λv r=>v=.returned (.tuple #[])/\r=recW l m s w:=by
 have a0:=J.lt;have T:Hs (∀b q,(recW l m (s.take b) w).frozen? (Hk m q)=false):=Xa (λb q=>by
  have ac:∀(s:Wa)(w:Ub),(∀q,w.frozen? (Hk m q)=false)->(recW l m s w).frozen? (Hk m q)=false:=by
   intro s
   induction s with
   |nil=>intro w h;exact h q
   |cons o s ih=>intro w h;exact ih _ λq=>by rw[eX];exact h q
  exact ac _ w hz)
 go_in
 go_wp2
 go_loopw [8] (λy wr=>∃b:Nat,b<=j/\y=Hp b/\Hs (wr=recW l m (s.take b) w)) λy _=>j-(intOf y).toNat
 case atStart=>exact⟨0,aN,rfl,Xa rfl⟩
 obtain⟨b,hj,rfl,d⟩:=hrel;by_cases a1:b<j
 .have x:b<s.length:=oN M.o;have E:Hs (recW l m (s.take<|b+1) w=(recW l m (s.take b) w).drew.setCell (Hk m<|s[b]) (jr l<|(recW l m (s.take b) w).cell? (Hk m<|s[b]))):=Xa (by rw[bN x,G7]);let⟨z,Q,a5⟩:=hv b x;obtain⟨C,po,rfl,⟨a3,a4⟩,f⟩:=hp b (by simpa using x);rw[cM]at f;unfold Tx at f;have O:=(fI (λ(o:Option Obj)=>o) (ox l m (b:=C) oM (s.take b) w));have H:Bx wr n #[a,f1,.slice p k B,f3,A,G] 116:=J.keep (by rw[d.o];exact ox l m K _ _);have l2:Cl wr n 2 (.slice p k B):=Bx.cell H rfl;have I:Below m w wr:=by rw[d.o];exact pu l aA _ (Below.refl _ _) oM
  have kp:wr.cell? (Hk C<|po+b)=some (Ho m<|s[b]):=by rw[<-f];exact Xc<|by rw[d.o];exact O
  obtain⟨u,F,e,aa,ar,rfl,ad,af⟩:=jq (X.keep<|I.mono W) (v:=(z:Int)) oM oM;have ab:e=z:=oM;subst ab;have R:wr.cell? (Hk m<|s[b])=some (Hp e):=by rw[d.o];exact Q
  have D:Hs (recW l m (s.take<|b+1) w=wr.drew.setCell (Hk m<|s[b]) (Hp<|Kp l (e:Int))):=Xa (by rw[E.o,<-d.o,R];rfl);have az:(e:Int)<(k:Int):=oN Y.o;have V:wr.frozen? (Hk m<|s[b])=false:=by rw[d.o];exact T b _
  have ao:m≠C:=oM;have al:m≠u:=oM;have aj:m≠n:=λv=>K v.symm;generalize Kp l (e:Int)=z1 at*;let⟨S,N⟩:∃S,S=s[b]:=⟨_,rfl⟩;rw[<-N]at kp R D V;clear H I O f Q E N aa;go_wp2;refine Y7 (λr=>r.cell? (Hk n 2)=some (Hm u F k B)/\r.cell? (Hk u<|F+e)=some (Hp z1)) λhHeld=>?_;refine Xn 0 ?_;refine Xn 1 ?_;refine Xn 2 ?_;refine Xn 3 ?_;refine Xn 4 ?_;refine Xn 5 ?_;refine Xn 6 ?_;refine Xs 7 λU hK=>?_;go_simp;refine hK _ _ kP λhHeld=>?_;clear hK;refine Xn 8 ?_;refine Xn 9 ?_;refine Xn 10 ?_;refine Xs 11 λU hK=>?_;go_simp;refine hK _ _ kP λhHeld=>?_;clear hK;refine Yq ?_;clear hHeld;go_wp2;exact⟨⟨b+1,oM,gM,Xa D.symm⟩,by simp[intOf];omega⟩
 have Z:b=s.length:=oN M.o;have aq:¬(b:Int)<(j:Int):=oM;go_wp2_with fail
 refine bodyPost_end (v:=.tuple #[]) (by simp[results,results114,go_sem]) rfl ⟨rfl,?_⟩;rw[d.o,Z,gC]
section
open Go.Lib
theorem GA(z:w.cell? (Hk n m)=some (Hp k))(G:1<=k)(H:k<=13)(v:Hs (Yy w)):
 Calls prog 115 #[Ho n m] w λf g=>∃A,f=.returned A/\Below w.1.size w g/\g.ownsRow w.1.size 266 1 A (Yd [dB (k:Int),aB (k:Int),bB (k:Int)] [(Hk n<|m+1),(Hk n<|m+2),(Hk n<|m+3)]).length ((Yd [dB (k:Int),aB (k:Int),bB (k:Int)] [(Hk n<|m+1),(Hk n<|m+2),(Hk n<|m+3)]).map Tx):=by
 obtain⟨c0,c1,c2,c3,c4⟩:=v.2 k G H;have Q:=v.1;have O:n<w.1.size:=aI w _ z;generalize dB (k:Int)=d at*;generalize aB (k:Int)=b at*;generalize bB (k:Int)=c at*;generalize iB (k:Int)=M at*
 go_in
 go_wp2_with fail
 have I:(λh:Ub=>h.1.size=w.1.size+1/\h.cell? (Hk w.1.size 1)=some (.bool d)/\h.cell? (Hk w.1.size 2)=some (.bool b)/\h.cell? (Hk w.1.size 3)=some (.bool c)/\Hs (Below w.1.size w h)) (w.alloc<|.cells #[.string (K8<|bz k),.bool d,.bool b,.bool c,.bool M] 227):=⟨sP,sP,sP,sP,Xa<|Xb (Below.refl _ _) _⟩;generalize w.alloc _=a at*;obtain⟨e1,D,E,F,r⟩:=I;clear z c0 c1 c2 c3 c4;have N:=Xa e1;have p:w.1.size<a.1.size:=oM;clear e1;have o:Hs (∀(l i:Uy)(W:Ub),Below a.1.size a W->Zx W a.1.size W.1.size l ([d,b,c].map Value.bool)->Zx W a.1.size W.1.size i ([(Hk n<|m+1),(Hk n<|m+2),(Hk n<|m+3)].map Tx)->Calls prog 159 #[.slice l 3 3,.slice i 3 3] W λf e=>∃v5,f=.returned v5/\e.cell? (Hk w.1.size 1)=some (.bool d)/\e.cell? (Hk w.1.size 2)=some (.bool b)/\e.cell? (Hk w.1.size 3)=some (.bool c) /\
  Hs (Below w.1.size w e)/\Hs (e.ownsRow w.1.size 266 1 v5 (Yd [d,b,c] [(Hk n<|m+1),(Hk n<|m+2),(Hk n<|m+3)]).length ((Yd [d,b,c] [(Hk n<|m+1),(Hk n<|m+2),(Hk n<|m+3)]).map Tx))):=Xa (λl i W t J L=>by
  have P:=t.4;refine(UA l i 3 3 [d,b,c] [(Hk n<|m+1),(Hk n<|m+2),(Hk n<|m+3)] a.1.size W.1.size W aA (Xa J) (Xa L) (Xa rfl) sP).mono ?_;rintro f e⟨v5,rfl,u,K⟩;have s5:=u.4;have j:=Xg t u;exact⟨v5,rfl,oB j D p,oB j E p,oB j F p,Xa<|r.trans (j.mono oM),Xa<|Zk K oM⟩)
 have e2:∀x y,((a.alloc x).alloc y).drew.1.size=a.1.size+2:=λx y=>by show((a.alloc x).alloc y).1.size=_;simp
 have B:=Xa (o.o (some ⟨a.1.size,0,none⟩) (some ⟨a.1.size+1,0,none⟩) ((a.alloc<|.cells #[.bool d,.bool b,.bool c] 4).alloc (.cells #[Ho n<|m+1,Ho n<|m+2,Ho n<|m+3] 266)).drew (Xb (Xb (Below.refl a.1.size a) _) _).drew (by rw[e2];exact J7 a [.bool d,.bool b,.bool c] 4 [Ho n<|m+1,Ho n<|m+2,Ho n<|m+3] 266) (by rw[e2];exact J6 a [Ho n<|m+1,Ho n<|m+2,Ho n<|m+3] 266 [.bool d,.bool b,.bool c] 4));have C:=Xa (o.o (some ⟨a.1.size+1,0,none⟩) (some ⟨a.1.size,0,none⟩) ((a.alloc<|.cells #[Ho n<|m+1,Ho n<|m+2,Ho n<|m+3] 266).alloc (.cells #[.bool d,.bool b,.bool c] 4)).drew (Xb (Xb (Below.refl a.1.size a) _) _).drew (by rw[e2];exact J6 a [.bool d,.bool b,.bool c] 4 [Ho n<|m+1,Ho n<|m+2,Ho n<|m+3] 266) (by rw[e2];exact J7 a [Ho n<|m+1,Ho n<|m+2,Ho n<|m+3] 266 [.bool d,.bool b,.bool c] 4));clear o r e2
 go_region_held3 (λg=>g.cell? (Hk w.1.size 1)=some (.bool d)/\g.cell? (Hk w.1.size 2)=some (.bool b)/\g.cell? (Hk w.1.size 3)=some (.bool c)) (go_keep)
  (first
   |(go_at_call 159;with_reducible refine B.o.mono ?_;rintro f e⟨v5,rfl,f1,f2,f3,q,s⟩)
   |(go_at_call 159;with_reducible refine C.o.mono ?_;rintro f e⟨v5,rfl,f1,f2,f3,q,s⟩))
 all_goals
  go_wp2;go_ret;exact⟨_,rfl,q,s⟩
theorem Ie{c:Addr}{a:Vr}(h:YY w n m (some c) a):∀(j:Nat)(u:Uj),(ZP a)[j]?=some u->w.cell? (c.add j)=some u:=by
 intro j u b;have f:j<(ZP a).length:=by
  obtain h|h:=mL j (ZP a).length;·exact h
  rw[dK h]at b;cases b
 have d:j/5<a.length:=by rw[iR]at f;omega
 let⟨g,o,e,_,c0,c1,c2,c3,c4⟩:=h (j/5) d;cases e;have e2:=Xz (sz:=5) (f:=λ_ (x:Yg)=>[Hp x.1,Hp x.2,Hp x.a,Hp x.b,Hp x.5]) (λ_ _=>rfl) 0 a (j/5) d (j%5) (dS _ oM);rw[<-rH a 0,show j/5*5+j%5=j by omega,b]at e2;have ha:((Hk g o):Addr).add j=(Hk g<|o+j):=by cases j<;>simp[Addr.add]
 rw[ha];have i:j%5=0\/j%5=1\/j%5=2\/j%5=3\/j%5=4:=oM;obtain q|q|q|q|q:=i<;>rw[q]at e2<;>cases e2;·rw[show o+j=o+j/5*5 by omega];exact c0
 .rw[show o+j=o+j/5*5+1 by omega];exact c1
 .rw[show o+j=o+j/5*5+2 by omega];exact c2
 .rw[show o+j=o+j/5*5+3 by omega];exact c3
 rw[show o+j=o+j/5*5+4 by omega];exact c4
theorem GM(c:Nat){a:Vr}(i:Hs (YY w m k p a))(j:Hs (n=a.length))(J:n<=1048576)(y:k<=w.1.size):
 Calls prog 113 #[.slice p n c] w λe l=>∃v,e=.returned v/\Below w.1.size w l/\l.ownsRow w.1.size 66 5 v a.length (ZP a):=by
 let⟨F,A,C,D,E⟩:=fX RB;have L:∀(w:Ub)(p:Uy)(n c d b:Nat),(binOp .eql 58 (.slice p n c) (.slice none d b)).run prog w=.ok (.bool p.isNone) w:=λw p n c d b=>Lib.run_eql_slice_nil w _ _ p n c d b underlying58;cases p with
 |none=>
  have x:a=[]:=by
   cases a with
   |nil=>rfl
   |cons N M=>let⟨I,K,e,_⟩:=i 0 sP;cases e
  subst x
  go_in
  go_wp2;go_ret;exact⟨_,rfl,Below.refl _ _,dA⟩
 |some u=>
  have t:=Xa<|l7 a;have q:=Xa<|iR a;have f:Hs ((w.alloc<|.cells #[] 66).ownsRow w.1.size 66 5 (Hl w.1.size 0 0) 0 []):=Xa (by
   have:=eI (base:=w.1.size) (e:=66) (size:=5) w #[] 0 sP sP rfl;simpa using this)
  have r:=Xa<|Ie (i.keep<|Below.alloc (Below.refl k w) y (.cells #[] 66))
  go_in
  go_wp2_with (at_builtin;refine bT _ rfl _ _ 58 rfl w.1.size 66 F (.agg #[Hp 0,Hp 0,Hp 0,Hp 0,Hp 0]) 5 40 underlying58 A C D E rfl vY _ 0 [] rfl f u n c (ZP a) rfl ?v1 r ?v2 ?v3 ?v4 ?v5 ?_)
  case v1=>rw[q.o,j.o]
  case v2=>exact t
  case v3=>unfold maxLen;omega
  case v4=>omega
  case v5=>simp
  intro G H h g B z;have o:=Xa<|Xy (Below.alloc (Below.refl _ _) aA _) g f aA sP;have s:Hs (H.ownsRow w.1.size 66 5 G a.length<|ZP a):=Xa (by rw[<-j.o];simpa using h);go_wp2;go_ret;exact⟨_,rfl,o,s⟩
end
def FSx:List Bool->List Nat->List Nat
 |k::ks,p::ps=>if k then p::FSx ks ps else FSx ks ps
 |_,_=>[]
theorem rG(g:Nat):∀(a:List Bool)(b:Wa),(Yd a<|b.map λo=>⟨g,o,none⟩).map Tx=(FSx a b).map λo=>Tx ⟨g,o,none⟩
 |[],_=>by simp[Yd,FSx]
 |k::a,[]=>by simp[Yd,FSx]
 |k::a,o::b=>by cases k<;>simp[Yd,FSx,rG g a b]
theorem xR(a:Wc)(P:Wo):∀(b:Wa)(R:Wo),lP a (b.map λo=>P.length+o) (P++R)=P++lP a b R
 |[],_=>rfl
 |o::b,R=>by
  show lP a (b.map λo=>P.length+o) ((P++R).set (P.length+o) (jr a (P++R)[P.length+o]?))=P++lP a b (R.set o<|jr a R[o]?);rw[List.set_append_right _ _ oM,eV oM,Nat.add_sub_cancel_left,xR a P b]
theorem H9{x:Yg}:lP l (FSx [dB x.1,aB x.1,bB x.1] [1,2,3]) (Yg.cells x++y)=Yg.cells (ZR l x)++y:=by
 unfold ZR Yg.cells;cases dB x.1<;>cases aB x.1<;>cases bB x.1<;>rfl
theorem xG{A:Vr}{x:Yg}{B:Vr}:ZP (A++x::B)=ZP A++(Yg.cells x++ZP B):=by rw[j7,rM];rfl
theorem Ii(a:Wc)(A:Vr)(x:Yg)(B:Vr):lP a (FSx [dB x.1,aB x.1,bB x.1] [A.length*5+1,A.length*5+2,A.length*5+3]) (ZP (A++x::B))=ZP (A++ZR a x::B):=by
 have e:FSx [dB x.1,aB x.1,bB x.1] [A.length*5+1,A.length*5+2,A.length*5+3]=(FSx [dB x.1,aB x.1,bB x.1] [1,2,3]).map λo=>(ZP A).length+o:=by
  rw[iR];cases dB x.1<;>cases aB x.1<;>cases bB x.1<;>rfl
 rw[e,xG,xR,H9,<-xG]
theorem xx(b:Wc)(g:Nat){q:Nat}:∀(a:Wa)(w:Ub),q∉a->(recW b g a w).cell? (Hk g q)=w.cell? (Hk g q)
 |[],_,_=>rfl
 |o::a,w,h=>by
  show(recW b g a _).cell? _=_;rw[xx b g a _ λc=>h<|cN _ c];have:o≠q:=λe=>h (by rw[e];exact cI);exact @cJ w.drew _ _ _ λe=>this<|by injection e
theorem yi{cs:Wc}(h:∀o∈s,∃z:Nat,w.cell? (Hk g o)=some (Hp z)/\z<cs.length)(c:s.Nodup):∀j (h:j<s.length),∃z:Nat,(recW cs g (s.take j) w).cell? (Hk g<|s[j])=some (Hp z)/\z<cs.length:=λj f=>by
 let⟨z,a,b⟩:=h _<|aH f;refine⟨z,?_,b⟩;rw[xx cs g _ _ λi=>?_];·exact a
 let⟨k,d,e⟩:=bR i;rw[jG]at e;rw[dH]at d;have:=(List.getElem_inj c).1 e;omega
theorem Iz(g:n=l.length){x:Yg}(a:∀v∈Iw x,0<=v/\v<n)(c:∀v∈BW x,0<=v/\v<n)(e:Jk w m k x):∀q∈FSx [dB x.1,aB x.1,bB x.1] [k+1,k+2,k+3],∃z:Nat,w.cell? (Hk m q)=some (Hp z)/\z<l.length:=by
 let⟨_,c1,c2,c3,_⟩:=e;have b:∀(v:Int)(q:Nat),w.cell? (Hk m q)=some (Hp v)->0<=v/\v<n->∃z:Nat,w.cell? (Hk m q)=some (Hp z)/\z<l.length:=λv q d h=>⟨v.toNat,by rw[d];congr 2;omega,oM⟩
 unfold Iw at a;unfold BW at c;intro q hq;have f:(dB x.1=true/\q=k+1)\/(aB x.1=true/\q=k+2)\/(bB x.1=true/\q=k+3):=by
  revert hq;cases dB x.1<;>cases aB x.1<;>cases bB x.1<;>simp[FSx]
 obtain⟨hu,rfl⟩|⟨hu,rfl⟩|⟨hu,rfl⟩:=f;·exact b _ _ c1<|c _ (by simp[hu])
 .exact b _ _ c2<|a _ (by simp[hu])
 exact b _ _ c3<|a _ (by simp[hu])
theorem GJ{a b:Bool}:(FSx [r,a,b] [n+1,n+2,n+3]).Nodup:=by
 cases r<;>cases a<;>cases b<;>simp[FSx]
theorem Ig(a b c:Bool)(o:Nat):∀q∈FSx [a,b,c] [o+1,o+2,o+3],o<q/\q<o+4:=by
 cases a<;>cases b<;>cases c<;>simp[FSx]<;>omega
structure Pa(w0 wr:Ub)(base ob:Nat)(v:Uj)(t:Yj)(ys:Vr):Prop where
 low:Below base w0 wr
 bx:Bx wr ob #[v,.int .i64 t.1,.int .i64 t.a,.int .i64 t.3,.int .i64 t.4] 84
 row:wr.ownsRow base 66 5 v ys.length (ZP ys)
 ne:v.ownBlock≠some ob
 le:base<=ob
theorem GR{f1 f3 f5:Uj}{pv:Uj}{e:Vr}{f:Nat}{te:Int}(ce bo:Nat)(w:Ub)(bb:Hs (Bx w n #[a,f1,.slice p k B,f3,A,f5] 116))(hc:Hs (Xf w g i p l))(b4:Hs (k=l.length))(b3:Hs (m=l.length))(b1:i<=w.1.size)(hB:bo<=w.1.size)(hi:Hs (YY w ce bo P e))(H:Hs (j=e.length))(cw:j<=4000)(hO:Hs (Yy w))(hT:Hs (Yb w))(cm:Hs (∀aq∈e,1<=aq.1/\aq.1<=13))(co:Hs (∀aq∈e,(∀C∈Iw aq,0<=C/\C<m)/\(∀C∈BW aq,0<=C/\C<m)))(ci:1<=f)(cj:f<=3)(cp:Hs (∀C∈Id ⟨f,t,T,te⟩,0<=C/\C<m)):
 Calls prog 51 #[Hn n,.agg #[pv,.slice P j c,Hp f,Hp t,Hp T,Hp te]] w λq h=>∃C,q=.returned (.agg #[C,Hp f,Hp (NN l ⟨f,t,T,te⟩).a,Hp T,Hp te])/\Below w.1.size w h/\h.ownsRow w.1.size 66 5 C j (ZP<|e.map (ZR l)):=by
 have bp:=Xa λW (hW:Below w.1.size w W)=>GM c (Xa<|hi.keep (hW.mono hB)) H oM (oN hW.4)
 go_in
 go_wp2_with fail
 have cf:(λx9:Ub=>Hs (Below w.1.size w x9)/\Bx x9 w.1.size #[pv,.slice P j c,Hp f,Hp t,Hp T,Hp te] 60/\Bx x9 (w.1.size+1) #[Hq,Hp 0,Hp 0,Hp 0,Hp 0] 84/\Hs (x9.1.size=w.1.size+2)) ((w.alloc<|.cells #[pv,.slice P j c,Hp f,Hp t,Hp T,Hp te] 60).alloc (.cells #[Hq,Hp 0,Hp 0,Hp 0,Hp 0] 84)):=⟨Xa<|Xb (Xb (Below.refl _ _) _) _,(Bx.new _ _ _).box _,((by have:=Bx.new (w.alloc<|.cells #[pv,.slice P j c,Hp f,Hp t,Hp T,Hp te] 60) #[Hq,Hp 0,Hp 0,Hp 0,Hp 0] 84;rw[aO]at this;exact this)),(Xa sP)⟩;generalize (w.alloc _).alloc _=b at*;obtain⟨a3,hb,Q,bx⟩:=cf;have ap:w.1.size<b.1.size:=oN bx.o;have c1:Cl b w.1.size 1 (.slice P j c):=Bx.cell hb rfl;have c2:Cl b w.1.size 2 (Hp f):=Bx.cell hb rfl;have c3:Cl b w.1.size 3 (Hp t):=Bx.cell hb rfl;have c4:Cl b w.1.size 4 (Hp T):=Bx.cell hb rfl;have c5:Cl b w.1.size 5 (Hp te):=Bx.cell hb rfl;have HR:=Xa Q;clear hb Q
 go_cut [5]from 7 to 31 λc5 wx=>∃(o:Nat)(C:Uj),c5=Hn o/\Hs (Pa b wx b.1.size o C ⟨f,t,T,te⟩ e)
 case first=>
  have ba:Hs (∀W,Below b.1.size b W->Calls prog 113 #[.slice P j c] W λq h=>∃s r,q=.returned (.slice s j r)/\h.cell? (Hk w.1.size 1)=some (.slice P j c)/\h.cell? (Hk w.1.size 2)=some (Hp f)/\h.cell? (Hk w.1.size 3)=some (Hp t)/\h.cell? (Hk w.1.size 4)=some (Hp T)/\h.cell? (Hk w.1.size 5)=some (Hp te)/\w.1.size<h.1.size/\Hs (Below W.1.size W h)/\Hs (h.ownsRow W.1.size 66 5 (.slice s j r) e.length (ZP e))):=Xa (λW hW=>by
   have hs:=hW.4;refine(bp W<|a3.trans (hW.mono oM)).mono ?_;rintro q u⟨v5,rfl,y,F⟩;have G:=Xg hW y;obtain⟨s,r,rfl⟩:∃s r,v5=.slice s e.length r:=(Xv.form (lab:=λ_=>(0,0,0)) (L:=(0,0,0)) ⟨F,λ_ _=>rfl⟩);rw[<-H.o]at F |-;exact⟨s,r,rfl,oB G c1 ap,oB G c2 ap,oB G c3 ap,oB G c4 ap,oB G c5 ap,oN G.4,Xa y,Xa<|by rw[H.o]at F;rw[H.o];exact F⟩)
  have HA:=Xa<|ba.o b.drew (Below.refl b.1.size b).drew;have a0:Bx (b.alloc<|.cells #[Hq,Hp 0,Hp 0,Hp 0,Hp 0] 84).drew b.1.size #[Hq,Hp 0,Hp 0,Hp 0,Hp 0] 84:=Bx.new b _ _;have x:=Xa ((ba (b.alloc<|.cells #[Hq,Hp 0,Hp 0,Hp 0,Hp 0] 84).drew ((Below.refl b.1.size b).alloc aA _).drew).mono (R':=λq h=>∃s r,q=.returned (.slice s j r)/\h.cell? (Hk w.1.size 1)=some (.slice P j c)/\h.cell? (Hk w.1.size 2)=some (Hp f)/\h.cell? (Hk w.1.size 3)=some (Hp t)/\h.cell? (Hk w.1.size 4)=some (Hp T)/\h.cell? (Hk w.1.size 5)=some (Hp te)/\w.1.size<h.1.size/\(h.cell? (Hk b.1.size 0)=some Hq/\h.cell? (Hk b.1.size 1)=some (Hp 0)/\h.cell? (Hk b.1.size 2)=some (Hp 0)/\h.cell? (Hk b.1.size 3)=some (Hp 0)/\h.cell? (Hk b.1.size 4)=some (Hp 0)/\∀v,h.frozen? (Hk b.1.size v)=false)/\Hs (Below (b.alloc<|.cells #[Hq,Hp 0,Hp 0,Hp 0,Hp 0] 84).drew.1.size (b.alloc<|.cells #[Hq,Hp 0,Hp 0,Hp 0,Hp 0] 84).drew h)/\Hs (h.ownsRow (b.alloc<|.cells #[Hq,Hp 0,Hp 0,Hp 0,Hp 0] 84).drew.1.size 66 5 (.slice s j r) e.length (ZP e))) (by
   rintro q u⟨s,r,rfl,f1,f2,f3,A,f5,bf,z,Y⟩;have M:=a0.keep<|z.5 _ a0.lt;exact⟨s,r,rfl,f1,f2,f3,A,f5,bf,⟨Bx.cell M rfl,Bx.cell M rfl,Bx.cell M rfl,Bx.cell M rfl,Bx.cell M rfl,Bx.thaw M⟩,z,Y⟩))
  have cx:b.1.size≠w.1.size:=oM;have cz:w.1.size≠b.1.size:=oM;have bt:=Xa a0;clear a0;clear ba
  go_region_held3 (λh=>h.cell? (Hk w.1.size 1)=some (.slice P j c)/\h.cell? (Hk w.1.size 2)=some (Hp f)/\h.cell? (Hk w.1.size 3)=some (Hp t)/\h.cell? (Hk w.1.size 4)=some (Hp T)/\h.cell? (Hk w.1.size 5)=some (Hp te)) (go_keep)
   (first
    |(go_at_call 113;with_reducible refine HA.o.mono ?_;rintro q u⟨s,r,rfl,f1,f2,f3,A,f5,bf,z,Y⟩)
    |(go_at_call 113;with_reducible refine x.o.mono ?_;rintro q u⟨s,r,rfl,f1,f2,f3,A,f5,bf,⟨z0,z1,z2,z3,z4,zz⟩,z,Y⟩))
  .go_wp2;go_meet;have G:=Xg (Below.refl b.1.size b).drew z;exact⟨_,_,rfl,Xa ⟨G.alloc G.4 _,Bx.new _ _ _,World.ownsRow.alloc (w:=u) Y _,λq=>by have:=(Y.lt _ q).2;omega,G.4⟩⟩
  go_wp2;go_meet;have G:=(((Below.refl b.1.size b).alloc aA _).drew).trans (z.mono<|by show _<=(b.alloc _).1.size;simp);have M:=bt.keep<|z.5 _ bt.lt;have cq:(b.alloc<|.cells #[Hq,Hp 0,Hp 0,Hp 0,Hp 0] 84).drew.1.size=b.1.size+1:=by show(b.alloc _).1.size=_;simp
  have a7:=Y.o;rw[cq]at a7;have O:b.1.size<b.1.size+1:=iJ;exact⟨_,_,rfl,Xa ⟨((((G.setCell (p:=Hk b.1.size 0) aA _).setCell (p:=Hk b.1.size 1) aA _).setCell (p:=Hk b.1.size 2) aA _).setCell (p:=Hk b.1.size 3) aA _).setCell (p:=Hk b.1.size 4) aA _,((((M.set 0<|.slice s j r).set 1 (Hp f)).set 2 (Hp t)).set 3 (Hp T)).set 4 (Hp te),Zk (ownsRow_setCell_below (ownsRow_setCell_below (ownsRow_setCell_below (ownsRow_setCell_below (ownsRow_setCell_below a7 (a:=(Hk b.1.size 0)) O _) (a:=(Hk b.1.size 1)) O _) (a:=(Hk b.1.size 2)) O _) (a:=(Hk b.1.size 3)) O _) (a:=(Hk b.1.size 4)) O _) gX,λq=>by have:=(a7.lt _ q).1;omega,aA⟩⟩
 obtain⟨o,C,rfl,ab⟩:=hcut;obtain⟨s,r,rfl⟩:∃s r,C=.slice s e.length r:=Xv.form (lab:=λ_=>(0,0,0)) (L:=(0,0,0)) ⟨ab.3,λ_ _=>rfl⟩;rw[<-H.o]at ab;have o0:Cl wc o 0 (.slice s j r):=Bx.cell ab.2 rfl;clear c1 c2 c3 c4 c5 bp;go_wp2;clear o0
 go_loopw [16] (λbl wr=>∃d:Nat,d<=j/\bl=Hp d/\Hs (Pa b wr b.1.size o (.slice s j r) ⟨f,t,T,te⟩ ((e.take d).map (ZR l)++e.drop d))) λbl _=>j-(intOf bl).toNat
 case atStart=>exact⟨0,aN,rfl,by simpa using ab⟩
 obtain⟨d,hj,rfl,x⟩:=hrel;clear ab;have o0:Cl wr o 0 (.slice s j r):=Bx.cell x.2 rfl;have J:=Xa<|a3.trans (x.1.mono oM);have b6:=x.5;have bd:=x.2.lt;have b5:=bb.lt;by_cases O:d<j
 .have az:d<e.length:=oN H.o
  have cv:(d:Int)<(j:Int):=oM;have cr:=cm _<|aH az;have bi:=co _<|aH az;have HE:Hs ((e.take d).map (ZR l)++e.drop d=(e.take d).map (ZR l)++e[d]::e.drop (d+1)):=Xa (by rw[gZ az]);have bq:Hs ((e.take<|d+1).map (ZR l)++e.drop (d+1)=(e.take d).map (ZR l)++ZR l e[d]::e.drop (d+1)):=Xa (by rw[bN az,bG,cK];rfl);have ar:Hs (((e.take d).map (ZR l)).length=d):=Xa (by rw[bK,dH];omega);have R:Hs (((e.take d).map (ZR l)++e.drop d).length=j):=Xa (by rw[aQ,ar.o,mF];have:=H.o;omega);obtain⟨E,c',he⟩:=Xv.got (lab:=λ_=>(0,0,0)) (L:=(0,0,0)) ⟨x.3,λ_ _=>rfl⟩ (by rw[R.o];omega);rw[R.o]at he;cases he;have be:Xv wr (λ_=>(0,0,0)) (0,0,0) b.1.size 66 5 (Hl E j r) j (ZP<|(e.take d).map (ZR l)++e.drop d):=⟨by have:=x.3;rw[R.o]at this;exact this,λ_ _=>rfl⟩;have N:Jk wr E (d*5) e[d]:=by
   obtain⟨g',o',e',_,N⟩:=Xv.inss (n:=j) (by rw[R.o];exact be) d (by rw[R.o];exact O);cases e';rw[aV]at N;have e9:((e.take d).map (ZR l)++e.drop d)[d]'(by rw[R.o];exact O)=e[d]:=by
    rw[fN (by rw[ar.o];exact aA),List.getElem_drop];simp only[ar.o,kL,fW]
   rw[e9]at N;exact N
  have bv:=Xa be;have HI:=Xa N;have a4:=Xa<|Iz b3 bi.1 bi.2 N;have a8:=Xa<|Ii l ((e.take d).map (ZR l)) e[d] (e.drop<|d+1);rw[ar.o,<-HE.o,<-bq.o]at a8;have q0:=N.1;clear be N bi HE bq;generalize e[d]=b7 at*;obtain⟨D,ck⟩:∃D:Nat,b7.1=(D:Int):=⟨b7.1.toNat,oM⟩;rw[ck]at q0 cr a4 a8;have bc:=(bv.blk).1;go_wp2_with fail
  refine(GA q0 oM oM<|Xa (hO.keep J hO.1)).mono ?_;rintro q u⟨v5,rfl,y,F⟩;rw[show([(Hk E<|d*5+1),(Hk E<|d*5+2),(Hk E<|d*5+3)]:List Addr)=[d*5+1,d*5+2,d*5+3].map λbm=>(Hk E bm)from rfl,rG]at F;obtain⟨a5,c5,rfl,ao⟩:=UO F;rw[bK];have z:=Xa y;have ad:=Xa<|bb.keep ((y.5 _<|oN J.4).trans (J.5 _ b5));have a9:=Xa (bv.keep λZ _ h2 q=>⟨y.5 Z h2,q⟩);have L:=Xa<|x.2.keep (y.5 _ bd);have aa:=Xa<|hc.keep ((J.trans<|y.mono (oN J.4)).mono b1);have ac:=Xa (yi (cs:=l) (g:=E) (w:=u) (λv hq=>by
   obtain⟨a2,S,h2⟩:=a4 v hq;exact⟨a2,oB y S bc.2,h2⟩) (GJ))
  have af:=Xa ao;have a6:Hs ((FSx [dB (D:Int),aB (D:Int),bB (D:Int)] [d*5+1,d*5+2,d*5+3]).length<=3):=Xa (by cases dB (D:Int)<;>cases aB (D:Int)<;>cases bB (D:Int)<;>simp[FSx]);have ca:=Xa<|Ig (dB (D:Int)) (aB (D:Int)) (bB (D:Int)) (d*5);clear y F ao a4 q0;generalize FSx [dB (D:Int),aB (D:Int),bB (D:Int)] [d*5+1,d*5+2,d*5+3]=V at*;go_wp2_with fail
  with_reducible refine(xu ad oM aa b4 oM bc.2 aA z.o.4 af (Xa rfl) (oN a6.o) (λv=>a9.o.thaw v) ac).mono ?_
  rintro q w6⟨rfl,rfl⟩;have b8:Hs (Pa b (recW l E V u) b.1.size o (Hl E j r) ⟨f,t,T,te⟩ ((e.take<|d+1).map (ZR l)++e.drop (d+1))):=Xa (by
   have cg:E≠o:=λq=>x.4 (by rw[<-q];rfl);have cl:((e.take<|d+1).map (ZR l)++e.drop (d+1)).length=j:=by rw[aQ,bK,dH,mF];have:=H.o;omega
   refine⟨pu l bc.1 V (x.1.trans<|z.mono x.1.4) aA,L.keep (ox l E (λq=>cg q.symm) V u),?_,x.4,b6⟩;rw[cl,<-a8.o];exact(a9.recW V λv hq=>by have:=ca v hq;rw[iR,R.o];omega).1)
  clear x ad a9 L aa ac af o0;generalize recW l E V u=I at*;go_wp2;exact⟨⟨d+1,oM,gM,b8⟩,by simp[intOf];omega⟩
 have ch:d=j:=oM
 have ct:¬(d:Int)<(j:Int):=oM;have K:Hs (Pa b wr b.1.size o (.slice s j r) ⟨f,t,T,te⟩ (e.map<|ZR l)):=Xa (by
  have:=x.o;rw[ch,H.o,gC,List.drop_length,fF]at this;rw[H.o];exact this)
 clear x;go_wp2_with fail
 have b0:Hs (Va wr o 1 ⟨f,t,T,te⟩):=Xa ⟨Bx.cell K.2 rfl,Bx.cell K.2 rfl,Bx.cell K.2 rfl,Bx.cell K.2 rfl⟩;refine(tL b0 ci cj<|Xa (hT.keep J hT.1)).mono ?_;rintro q u⟨v5,rfl,y,F⟩;rw[show([(Hk o<|1+1)]:List Addr)=[2].map λbm=>(Hk o bm)from rfl,rG]at F;obtain⟨a5,c5,rfl,ao⟩:=UO F;rw[bK];have z:=Xa y;have ad:=Xa<|bb.keep ((y.5 _<|oN J.4).trans (J.5 _ b5));have L:=Xa<|K.2.keep (y.5 _ bd);have aa:=Xa<|hc.keep ((J.trans<|y.mono (oN J.4)).mono b1);have af:=Xa ao;have bn:Cl u o 2 (Hp t):=Bx.cell L rfl;have ac:Hs (∀v (cs:v<(FSx [(f:Int) != 1] [2]).length),∃a2:Nat,(recW l o ((FSx [(f:Int) != 1] [2]).take v) u).cell? (Hk o (FSx [(f:Int) != 1] [2])[v])=some (Hp a2)/\a2<l.length):=Xa (yi (λv hq=>by
  have Q:=cp.o;unfold Id at Q;cases hu:((f:Int) != 1)with
  |false=>rw[hu]at hq;simp[FSx]at hq
  |true=>
   rw[hu]at hq Q;have cn:v=2:=by simpa [FSx]using hq
   subst cn;have S:=Q t sP;exact⟨t.toNat,by rw[bn];congr 2;omega,oN b3.o⟩) (by cases ((f:Int) != 1)<;>simp[FSx]))
 have X:Hs (Bx (recW l o (FSx [(f:Int) != 1] [2]) u) o #[.slice s j r,Hp f,Hp (NN l ⟨f,t,T,te⟩).a,Hp T,Hp te] 84):=Xa (by
  unfold NN;by_cases S:(f:Int)=1
  .have hu:((f:Int) != 1)=false:=by simp[S]
   rw[hu];simp only[aU S];exact L
  have hu:((f:Int) != 1)=true:=by simp[S]
  rw[hu];simp only[aM S];show Bx (u.drew.setCell (Hk o 2) (jr l<|u.cell? (Hk o 2))) o _ _;rw[bn];exact Bx.set (w:=u.drew) L 2 (Hp<|Kp l t))
 have br:Hs (Below b.1.size b<|recW l o (FSx [(f:Int) != 1] [2]) u):=Xa<|pu l b6 _ (K.1.trans<|z.mono K.1.4) aA;have cc:Hs ((recW l o (FSx [(f:Int) != 1] [2]) u).ownsRow b.1.size 66 5 (.slice s j r) j (ZP<|e.map (ZR l))):=Xa (by
  have Q:Xv wr (λZ=>if Z=o then (1,0,0)else (0,0,0)) (0,0,0) b.1.size 66 5 (.slice s j r) (e.map<|ZR l).length (ZP<|e.map (ZR l)):=⟨K.3,λZ q=>aM λv=>K.4<|by rw[<-v];exact q⟩;have:=(Q.keep (w':=recW l o (FSx [(f:Int) != 1] [2]) u) λZ _ h2 q=>⟨(ox l o (λv=>by rw[aU v]at q;simp at q) _ u).trans (z.5 Z h2),q⟩).1;rw[bK,<-H.o]at this;exact this)
 have a6:Hs ((FSx [(f:Int) != 1] [2]).length<=3):=Xa (by cases ((f:Int) != 1)<;>simp[FSx]);have cb:=Xa<|Bx.thaw L;clear y F ao bn b0 L;generalize FSx [(f:Int) != 1] [2]=V at*;obtain⟨a1,bh⟩:∃a1,(NN l ⟨f,t,T,te⟩).a=a1:=⟨_,rfl⟩;rw[bh]at X;have cd:=Xa bh;clear bh;go_wp2_with fail
 with_reducible refine(xu ad oM aa b4 oM bd aA z.o.4 af (Xa rfl) (oN a6.o) cb.o ac).mono ?_
 rintro q w6⟨rfl,rfl⟩;clear ad aa af ac z;generalize recW l o V u=I at*;have o0:Cl I o 0 (.slice s j r):=Bx.cell X rfl;have o1:Cl I o 1 (Hp f):=Bx.cell X rfl;have o2:Cl I o 2 (Hp a1):=Bx.cell X rfl;have o3:Cl I o 3 (Hp T):=Bx.cell X rfl;have o4:Cl I o 4 (Hp te):=Bx.cell X rfl;have U:=HR.keep<|br.5 _ HR.lt;have r0:Cl I (w.1.size+1) 0 Hq:=Bx.cell U rfl;have r1:Cl I (w.1.size+1) 1 (Hp 0):=Bx.cell U rfl;have r2:Cl I (w.1.size+1) 2 (Hp 0):=Bx.cell U rfl;have r3:Cl I (w.1.size+1) 3 (Hp 0):=Bx.cell U rfl;have r4:Cl I (w.1.size+1) 4 (Hp 0):=Bx.cell U rfl;have rz:=Bx.thaw U;clear U;go_wp2_with fail
 refine cC (v:=.agg #[.slice s j r,Hp f,Hp a1,Hp T,Hp te]) (by simp[results,results51,go_sem,r0,r1,r2,r3,r4]) rfl ?_;have al:w.1.size+1<b.1.size:=oN bx.o;have aj:w.1.size<=w.1.size+1:=gX;rw[cd.o];exact⟨_,rfl,(((((a3.trans<|br.mono oM).setCell (p:=Hk (w.1.size+1) 0) aj _).setCell (p:=Hk (w.1.size+1) 1) aj _).setCell (p:=Hk (w.1.size+1) 2) aj _).setCell (p:=Hk (w.1.size+1) 3) aj _).setCell (p:=Hk (w.1.size+1) 4) aj _,Zk (ownsRow_setCell_below (ownsRow_setCell_below (ownsRow_setCell_below (ownsRow_setCell_below (ownsRow_setCell_below cc (a:=(Hk (w.1.size+1) 0)) al _) (a:=(Hk (w.1.size+1) 1)) al _) (a:=(Hk (w.1.size+1) 2)) al _) (a:=(Hk (w.1.size+1) 3)) al _) (a:=(Hk (w.1.size+1) 4)) al _) oM⟩
end Go.Proofs.YtcfdhbigppockaaGreatDoor
