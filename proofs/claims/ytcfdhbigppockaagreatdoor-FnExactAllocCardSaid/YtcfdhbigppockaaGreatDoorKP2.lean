import Derived.Test.YtcfdhbigppockaaGreatDoorMK2
import Derived.Test.YtcfdhbigppockaaGreatDoorLO7
namespace Go.Proofs.YtcfdhbigppockaaGreatDoor
set_option maxHeartbeats 8000000
set_option maxRecDepth 1000000
open Go.RowKit Go.Proofs.Tryz Go.Shelf
variable{n m k B g i j c:Nat}{w v u:Ub}{a A:Uj}{p:Uy}{d:Vv}{s:Wa}{l:Wc}{x:Wi}{f:Wk}
structure ZH(M:Vv)(U U':Ub):Prop where
 os:U'.4=U.4
 tape:U'.2=U.2
 output:U'.5=U.5
 size:U.1.size<=U'.1.size
 fr:∀q,q<U.1.size->¬M q->U'.1[q]?=U.1[q]?
theorem ZH.refl(M:Vv)(U:Ub):ZH M U U:=⟨rfl,rfl,rfl,aA,λ_ _ _=>rfl⟩
theorem ZH.trans(h:ZH d w v)(k:ZH d v u):ZH d w u :=
 ⟨k.1.trans h.1,k.2.trans h.2,k.3.trans h.3,aJ h.4 k.4,λq a b=>(k.5 q (aX a h.4) b).trans (h.5 q a b)⟩
theorem ZH.of_below{M:Vv}(h:Below w.1.size w v):ZH M w v:=⟨h.1,h.2,h.3,h.4,λq a _=>h.5 q a⟩
theorem ZH.of_grown(h:w.grownBy v (some n))(c:d n):ZH d w v:=⟨h.1,h.2,h.3,h.4,λq a b=>h.5 q a λe=>b<|by injection e with e;rw[e];exact c⟩
theorem ZH.set{M:Vv}(A:Ub)(p:Addr)(v:Uj)(b:M p.1):ZH M A (A.setCell p v):=⟨rfl,rfl,rfl,by simp[World.setCell],λq _ a=>Below.heap_setCell _ _ _ _ λe=>a<|by rw[e];exact b⟩
theorem ZH.cell(h:ZH d w v){p:Addr}(c:¬d p.1)(b:w.cell? p=some a):v.cell? p=some a:=(bZ<|h.5 _ (aI w _ b) c).trans b
structure Oy(V cap gp go bo bp bc bv:Nat)(C:Ym)(U:Ub):Prop where
 row:HK U gp V cap C
 o:HK U go V V λu=>if C u=-1 then 0 else C u
 box:U.rowIs bo 43 3 (OX (.int .i64 0) (.slice (some ⟨go,0,none⟩) V V) (.int .i64 (NE C V)))
 Pz:U.cell? ⟨bp,0,none⟩=some (.func (.func 120) #[] #[.pointer (some ⟨bc,0,none⟩),.pointer (some ⟨bv,0,none⟩)])
 cc:U.cell? ⟨bc,0,none⟩=some (.slice (some ⟨gp,0,none⟩) V cap)
 cv:U.cell? ⟨bv,0,none⟩=some (.int .i64 (V:Int))
 rng:∀u,u<V->C u=-1\/0<=C u/\C u<V
 n1:gp≠go
 n2:bo≠gp/\bo≠go
 n3:bp≠gp/\bp≠go/\bp≠bo
 n4:bc≠gp/\bc≠go/\bc≠bo
 n5:bv≠gp/\bv≠go/\bv≠bo
def PJ(b go a q:Nat):Prop:=q=b\/q=go\/q=a
theorem Oy.far{go:Nat}{C:Ym}(h:Oy n m k go B g i j C w)(a:Below w.1.size w v):Oy n m k go B g i j C v :=
 ⟨h.1.of_block<|a.5 _ h.1.lt,h.o.of_block<|a.5 _ h.o.lt,h.3.of_block<|a.5 _ h.3.lt,oB a h.4<|aI w _ h.4,oB a h.5<|aI w _ h.5,oB a h.6<|aI w _ h.6,h.7,h.8,h.9,h.n3,h.n4,h.n5⟩
theorem El{go y I J:Nat}{C:Ym}(N:Hs (Cp w k B g f))(aa:Hs (XA f))(K:Hs (Jn w))(hK:B<=100)(L:Hs (N1 m B f))(X:m<=2000)(a:Hs (Oy m i j go c y I J C w))(q:n<m)(A:Hs (C n=-1)):
 Calls prog 55 #[Hp n,.agg #[Hl k B g],Hn y,Hn c] w λe O=>e=.returned (.tuple #[])/\ZH (PJ j go c) w O/\Oy m i j go c y I J (Nn C (n,Mq f<|64*B)) O:=by
 have G:=Xa λW (o:Below w.1.size w W)=>Dl (Xa<|N.of_block (o.5 k N.lt)) aa (Xa<|K.of_block (o.5 _<|aI w _ (K 0 vY))) hK L X (Xa (a.far o).1) (Xa a.7) q A (a.far o).5 (a.far o).6 a.n4.1;have eg:∀args w,(callFunc 120 args).run prog w=.ok (.enter 120 args) w:=enters_of func120 vZ rfl;have c1:=a.4;have l1:=aI w _ c1;have H:=Xa<|wI (oa C _).2 (wQ L) q A;have V:Hs (∀u,u<m->Nn C (n,Mq f<|64*B) u=-1\/0<=Nn C (n,Mq f<|64*B) u/\Nn C (n,Mq f<|64*B) u<m):=Xa (λu Z=>by
  unfold Nn;by_cases e:u=n
  .rw[aU e]
   right;have:=H.o;show 0<=((Nx C (Mq f<|64*B):Nat):Int)/\((Nx C (Mq f<|64*B):Nat):Int)<m;omega
  rw[aM e];exact a.7 u Z)
 have S:Hs (∀u,(λu=>if u=n then (Nx C (Mq f<|64*B):Int)else (if C u=-1 then 0 else C u)) u=(λu=>if Nn C (n,Mq f<|64*B) u=-1 then 0 else Nn C (n,Mq f<|64*B) u) u):=Xa (λu=>by
  unfold Nn;by_cases e:u=n
  .simp only[e,gG];rw[aM oM]
  simp only[e,fD])
 have Q:Hs (NE (Nn C (n,Mq f<|64*B)) m=max (NE C m) ((Nx C (Mq f<|64*B):Int)+1)):=Xa<|vI (C:=C) (v:=n) A m q;generalize Nn C (n,Mq f<|64*B)=C' at*;generalize Nx C (Mq f<|64*B)=b at*;have aj:=H.o;have ao:IntKind.i64.wrap ((b:Int)+1)=(b:Int)+1:=by rw[dF];omega
 have p:=a.9;have ad:=a.1.lt;have af:=a.o.o.lt;have ac:=a.3.lt
 go_in
 go_wp2_with fail
 have t:Below w.1.size w (w.alloc<|.cells #[Hl k B g] 103):=Xb (Below.refl _ _) _;have h:=Xa<|a.far t;generalize w.alloc _=w0 at*;refine(G _ t).mono ?_;rintro e r⟨rfl,v,M⟩;have P:Hs (ZH (PJ j go c) w r):=Xa<|(ZH.of_below t).trans (ZH.of_grown v<|bC rfl);have T:=Xa M;have s:=Xa (h.3.of_block<|v.5 c h.3.lt λe=>p.1<|by injection e);have x:=Xa (h.o.o.of_block<|v.5 go h.o.o.lt λe=>a.8<|by injection e with e;exact e.symm);clear h t v M G c1 l1;have q1:=s.cell (i:=1) vY;have q2:=s.cell (i:=2) vY;have qf:=s.frozen 2;have y1:=x.cell q;have yf:=x.frozen n;simp only[OX]at q1 q2;have al:(n:Int)<(m:Int):=oM;have s2:(r.setCell (Hk go n) (Hp b)).cell? (Hk c 2)=some (Hp<|NE C m):=(bH r (Hk go n) (Hk c 2) _ (by show go≠c;exact λe=>p.2 e.symm)).trans q2;have E:=Xa (s.setOther (a:=(Hk go n)) (by show c≠go;exact p.2) (Hp b));have R:=Xa ((x.set n (b:Int) q).congr λu _=>S u);have U:=Xa (T.setOther (a:=(Hk go n)) (by show j≠go;exact a.8) (Hp b));have F:Hs (ZH (PJ j go c) w (r.setCell (Hk go n) (Hp b))):=Xa<|P.trans (ZH.set _ _ _<|aZ (bC rfl));have ap:=E.frozen 2;generalize NE C m=kc at*;go_wp2
 go_end0
 refine⟨rfl,F.trans<|ZH.set _ _ _ (aZ<|aZ rfl),?_⟩;have hF:=F.trans<|ZH.set (M:=PJ j go c) (r.setCell (Hk go n) (Hp b)) (Hk c 2) (Hp<|max kc ((b:Int)+1)) (aZ<|aZ rfl);have D:∀l,l≠j/\l≠go/\l≠c->¬PJ j go c l:=λl z d=>by
  obtain d|d|d:=d;·exact z.1 d
  .exact z.2.1 d
  exact z.2.2 d
 refine⟨U.setOther (by show j≠c;exact λe=>p.1 e.symm) _,R.setOther (by show go≠c;exact λe=>p.2 e.symm) _,(E.set 2 _).congr λab Y=>?_,hF.cell (D _ a.n3) a.4,hF.cell (D _ a.n4) a.5,hF.cell (D _ a.n5) a.6,V,a.8,a.9,a.n3,a.n4,a.n5⟩;rw[Q.o]
 match ab,Y with
 |0,_=>rfl
 |1,_=>rfl
 |2,_=>rfl
theorem Bw(o:n<=2000):
 Calls prog 53 #[Hp n] w λg e=>∃b c a,g=.returned (.func (.func 120) #[] #[Hn b,Hn c])/\Below w.1.size w e/\w.1.size<=a/\w.1.size<=b/\w.1.size<=c/\b≠a/\c≠a/\HK e a n n (λ_=>-1)/\e.cell? (Hk b 0)=some (Hl a n n)/\e.cell? (Hk c 0)=some (Hp n):=by
 go_in
 go_wp2_with fail
 have h:Below w.1.size w ((w.alloc<|.cells #[Hp n] 2).alloc (.cells #[Hp (-1)] 2)):=Xb (Xb (Below.refl _ _) _) _;have i:((w.alloc<|.cells #[Hp n] 2).alloc (.cells #[Hp (-1)] 2)).1.size=w.1.size+2:=sP;have c0:((w.alloc<|.cells #[Hp n] 2).alloc (.cells #[Hp (-1)] 2)).cell? (Hk w.1.size 0)=some (Hp n):=by simp[go_sem]
 have c1:((w.alloc<|.cells #[Hp n] 2).alloc (.cells #[Hp (-1)] 2)).cell? (Hk (w.1.size+1) 0)=some (Hp (-1)):=by simp[go_sem]
 refine(vb (w.1.size+1) n _ o c1 sP).mono ?_;rintro g j⟨m,rfl,p,d,f⟩;rw[i]at p;have k:=Xa<|Xg h d;have l:=Xa f;have q:=(XU d oM).trans c0;have s:w.1.size+2<=j.1.size:=oN d.4;have r:=f.lt;go_wp2;go_ret;exact⟨j.1.size,w.1.size,m,rfl,Xb k _,oM,oM,aA,oM,oM,HK.of_row<|l.alloc _,by simp[go_sem],(bP _ _ _<|by show w.1.size<_;omega).trans q⟩
def J3(k:Nat):Code->Option Code
 |.seq x y=>match J3 k x with
  |some c=>some c
  |none=>J3 k y
 |.block i c=>if i=k then some c else J3 k c
 |.scope c=>J3 k c
 |.loop c=>J3 k c
 |.cond _ x y=>match J3 k x with
  |some c=>some c
  |none=>J3 k y
 |_=>none
noncomputable def QH:Code:=(f54.9.bind<|J3 4).getD .skip
noncomputable def QF:Code:=(f54.9.bind<|J3 6).getD .skip
theorem ZH.drew(h:ZH d w v):ZH d w v.drew:=h.trans<|ZH.of_below (Below.refl _ _).drew
theorem F8(bs G p r C x u s b pc:Nat)(z:Uy)(f:Za)(L D:Nat)(M:Vv)(e:Nat->Vy)(U:Ub){Q:Yt}{ds:List Deferred}{c0 c2 c3 c4 c5 c9 K N cw O P R S T V W X Y Z aa ab ac ad af aj al ao ap aq ar az a0 a1 a2 a3 a4 a5 a6 a7:Uj}(a8 a9 ba bb bc bd be bf bh cx c6 c7 c8 da db dc df di dj dk bi bl bm bn bq br bt bv bx b0 b1 b3 b4 b5 b6 b7 b8 ca cb cc cd ce cf cg ch:Uj)(hQ:Hs (∀c (J:Act) t v w,Q (.panic c) (J.put (some t) v) w->Q (.panic c) J w))(eo:Hs (Jw U L D z f))(en:Hs (b=f.length))(es:b<=4000)(hM:Hs (∀q,L<=q->q<D->¬M q))(ck:Hs (¬M bs))(hG:Hs (¬M G))(ek:Hs (∀q,M q->q<U.1.size))(k:U.cell? (Hk bs 0)=some (Hl G (p+1) (p+1)))(l:U.cell? (Hk G 0)=some (Hl C r x))(hJ:Hs (∀i d g,e i d->Below d.1.size d g->e i g))(ep:Hs (∀i (cj:i<f.length) d,ZH M U d->e i d->Calls prog 55 #[Hp f[i].1,.agg #[Hl C r x],Hn u,Hn s] d λci g=>ci=.returned (.tuple #[])/\ZH M d g/\e (i+1) g))(h0:Hs (e 0 U))(hN:Hs (∀(dn du dw dz ea eb ec ed ee ef ei ej:Uj)(d:Ub),ZH M U d->e b d->Q (.exit 4) ⟨#[c0,.func (.func 55) #[] #[Hn u,Hn s],c2,c3,c4,c5,a,A,Hn bs,c9,K,N,dn,O,P,R,S,T,V,W,X,Y,Z,aa,ab,ac,ad,af,aj,al,ao,ap,aq,ar,az,a0,a1,a2,a3,a4,a5,a6,a7,a8,a9,ba,bb,bc,bd,be,bf,bh,.slice z b pc,Hp b,Hp b,du,dw,dz,ea,eb,ec,ed,ee,ef,ei,ej,bi,bl,bm,bn,bq,br,bt,bv,bx,b0,b1,b3,b4,b5,b6,b7,b8,ca,cb,cc,cd,ce,cf,cg,ch],ds⟩ d)):
 Code.wp prog QH Q ⟨#[c0,.func (.func 55) #[] #[Hn u,Hn s],c2,c3,c4,c5,a,A,Hn bs,c9,K,N,cw,O,P,R,S,T,V,W,X,Y,Z,aa,ab,ac,ad,af,aj,al,ao,ap,aq,ar,az,a0,a1,a2,a3,a4,a5,a6,a7,a8,a9,ba,bb,bc,bd,be,bf,bh,.slice z b pc,Hp b,Hp 0,cx,c6,c7,c8,da,db,dc,df,di,dj,dk,bi,bl,bm,bn,bq,br,bt,bv,bx,b0,b1,b3,b4,b5,b6,b7,b8,ca,cb,cc,cd,ce,cf,cg,ch],ds⟩ U:=by
 conv=>arg 2;whnf
 dsimp only;have eg:∀args w,(callFunc 55 args).run prog w=.ok (.enter 55 args) w:=enters_of func55 vZ rfl;have cs:=Xa k;have ct:=Xa l
 go_loopw [54] (λi wx=>∃y:Nat,y<=b/\i=Hp y/\Hs (ZH M U wx)/\Hs (e y wx)) λi _=>b-(intOf i).toNat
 case atStart=>exact⟨0,aN,rfl,Xa<|ZH.refl _ _,h0⟩
 obtain⟨i,hi,rfl,h,F⟩:=hrel;by_cases em:i<b
 .have cl:i<f.length:=by rw[<-en.o];exact em
  obtain⟨pb,po,rfl,o,cn,co,d0,d1,_⟩:=eo.o i cl;have e0:=h.cell (hM.o pb o.1 o.2) d0;have e1:=h.cell (hM.o pb o.1 o.2) d1;have I:=Xa<|ep.o i cl;generalize f[i].1=n at*;generalize f[i].2.length=dl at*;have er:(i:Int)<(b:Int):=oM;have E:Hs (Below wr.1.size wr<|wr.alloc (.cells #[Hp n,.slice cn dl co] 62)):=Xa<|Xb (Below.refl _ _) _;have m:=Xa<|h.trans (ZH.of_below E.o);have cr:=Xa<|hJ.o _ _ _ F.o E.o;have x0:(wr.alloc<|.cells #[Hp n,.slice cn dl co] 62).cell? (Hk wr.1.size 0)=some (Hp n):=by simp[go_sem]
  have cv:Hs (¬M wr.1.size):=Xa (λcj=>by have:=ek.o _ cj;have:=h.4;omega);go_wp2_with fail
  generalize wr.alloc _=w5 at*;generalize wr.1.size=xb at*;have k:=m.cell ck.o cs.o;have l:=m.cell hG.o ct.o;have H:=Xa<|I.o w5.drew m.drew (hJ.o _ _ _ cr.o (Below.refl _ _).drew);refine Y7 (λB=>B.cell? (Hk xb 0)=some (Hp n)/\B.cell? (Hk bs 0)=some (Hl G (p+1) (p+1))/\B.cell? (Hk G 0)=some (Hl C r x)) λhHeld=>?_;refine X0 0 ?_;refine X0 1 ?_;refine X0 2 ?_;refine X0 3 ?_;refine X0 4 ?_;refine X0 5 ?_;refine Xs 6 λeq hK=>?_;go_simp;refine H.mono ?_;rintro ci w6⟨rfl,j,cm⟩;have cp:=Xa<|m.drew.trans j;have cq:=Xa cm;refine hK _ _ ⟨j.cell cv.o x0,j.cell ck.o k,j.cell hG.o l⟩ λhHeld=>?_;refine Yq ?_;go_wp2;exact⟨⟨i+1,oM,gM,cp,cq⟩,by simp[intOf];omega⟩
 have el:i=b:=oM;subst el;go_wp2_with fail
 exact hN.o _ _ _ _ _ _ _ _ _ _ _ _ _ h.o F.o
theorem F6(bs G X I H c ic:Nat)(zs cw:Wk)(L:Uy)(f:Vr)(Y P:Nat)(M:Vv)(d:Nat->Vy)(U:Ub){Z:Yt}{ds:List Deferred}{c0 c2 c3 c4 c5 c9 aa ab ac c7 c8 ad dc af aj al ao ap aq ar az a0 a1 a2 a3 a4 a5 a6 a7 a8 a9 ba bb bc bd be bf bh bi bl:Uj}(bm bn bq br bt bv bx b0 b1 b3 b4 b5 b6 b7 b8 ca cb cc cd ce cf cg ch df dj dk dl dn du dw dz ea eb ec ed ee ef ei ej ek el em en ci:Uj)(f0:Hs (YY U Y P L f))(f7:Hs (c=f.length))(gp:c<=4000)(hM:Hs (∀N,Y<=N->N<P->¬M N))(fz:Hs (¬M bs))(hG:Hs (¬M G))(D:U.cell? (Hk bs 0)=some (Hl G (c+1) (c+1)))(sg:Hs (∀i,i<=c->U.cell? (Hk G i)=some (Hl (zs i) X (cw i))))(gd:Hs (∀E∈f,1<=E.1/\E.1<=13))(fx:Hs (∀b,ZH M U b->Yy b))(hJ:Hs (∀i b m,d i b->Below b.1.size b m->d i m))(ge:Hs (∀i (fs:i<f.length),dB f[i].1=true->∀b,ZH M U b->d i b->Calls prog 55 #[Hp f[i].2,.agg #[Hl (zs<|i+1) X (cw<|i+1)],Hn I,Hn H] b λs m=>s=.returned (.tuple #[])/\ZH M b m/\d (i+1) m))(ga:Hs (∀i (fs:i<f.length),dB f[i].1=false->∀b,d i b->d (i+1) b))(h0:Hs (d 0 U))(hN:Hs (∀(eo ep eq er es et eu ev ey ez e7 e8 e9 fa fb fc fe fi fj fl fn fq fr:Uj)(b:Ub),ZH M U b->d c b->Z (.exit 6) ⟨#[c0,.func (.func 55) #[] #[Hn I,Hn H],c2,c3,c4,c5,a,A,Hn bs,c9,aa,ab,ac,eo,ep,ad,eq,af,aj,al,ao,ap,aq,ar,az,a0,a1,a2,a3,a4,a5,a6,a7,a8,a9,ba,bb,bc,bd,be,bf,bh,bi,bl,bm,bn,bq,br,bt,bv,bx,b0,b1,b3,b4,b5,b6,b7,b8,ca,cb,cc,cd,ce,cf,cg,ch,.slice L c ic,Hp c,Hp c,er,es,et,eu,ev,ey,ez,e7,e8,e9,fa,fb,fc,fe,fi,fj,fl,fn,fq,fr,ci],ds⟩ b)):
 Code.wp prog QF Z ⟨#[c0,.func (.func 55) #[] #[Hn I,Hn H],c2,c3,c4,c5,a,A,Hn bs,c9,aa,ab,ac,c7,c8,ad,dc,af,aj,al,ao,ap,aq,ar,az,a0,a1,a2,a3,a4,a5,a6,a7,a8,a9,ba,bb,bc,bd,be,bf,bh,bi,bl,bm,bn,bq,br,bt,bv,bx,b0,b1,b3,b4,b5,b6,b7,b8,ca,cb,cc,cd,ce,cf,cg,ch,.slice L c ic,Hp c,Hp 0,df,dj,dk,dl,dn,du,dw,dz,ea,eb,ec,ed,ee,ef,ei,ej,ek,el,em,en,ci],ds⟩ U:=by
 conv=>arg 2;whnf
 dsimp only;have eg:∀args cn,(callFunc 55 args).run prog cn=.ok (.enter 55 args) cn:=enters_of func55 vZ rfl;have cz:=Xa D;clear D
 go_loopw [69] (λi e=>∃K:Nat,K<=c/\i=Hp K/\Hs (ZH M U e)/\Hs (d K e)) λi _=>c-(intOf i).toNat
 case atStart=>exact⟨0,aN,rfl,Xa<|ZH.refl _ _,h0⟩
 obtain⟨i,hi,rfl,j,T⟩:=hrel;by_cases f6:i<c
 .have B:i<f.length:=by rw[<-f7.o];exact f6
  obtain⟨pb,po,rfl,cm,d0,d1,d2,d3,d4⟩:=f0.o i B;have u:=hM.o pb cm.1 cm.2;have e0:=j.cell u d0;have e1:=j.cell u d1;have e2:=j.cell u d2;have e3:=j.cell u d3;have e4:=j.cell u d4;have gb:=gd.o _<|aH B;have x:=Xa<|ge.o i B;have w:=Xa<|ga.o i B;generalize f[i]=E at*;let⟨op,h,p,q,r⟩:=E;simp only at e0 e1 e2 e3 e4 gb x w;let⟨v,f5⟩:=bX (show 0<=op by omega);subst f5;have gh:(i:Int)<(c:Int):=oM;clear d0 d1 d2 d3 d4;have F:Hs (Below wr.1.size wr<|wr.alloc (.cells #[Hp v,Hp h,Hp p,Hp q,Hp r] 66)):=Xa<|Xb (Below.refl _ _) _;have R:=Xa<|j.trans (ZH.of_below F.o);have cs:=Xa<|hJ.o _ _ _ T.o F.o;have S:Hs (Jk (wr.alloc<|.cells #[Hp v,Hp h,Hp p,Hp q,Hp r] 66) wr.1.size 0 ⟨v,h,p,q,r⟩):=Xa ⟨by simp[go_sem],by simp[go_sem],by simp[go_sem],by simp[go_sem],by simp[go_sem]⟩;go_wp2_with fail
  generalize (wr.alloc _)=O at*;generalize wr.1.size=xb at*;have W:=Xa<|UH xb h p q r O S oM oM (Xa<|fx.o _ R.o);clear e0 e1 e2 e3 e4 S F;refine W.mono ?_;rintro s w6⟨v6,rfl,z,C⟩;have Q:=Xa<|R.trans (ZH.of_below z);have V:=Xa<|hJ.o _ _ _ cs.o z;clear W;cases hu:dB (v:Int)with
  |false=>
   let⟨av,o,y,_⟩:=Xk C;rw[show(BW ⟨(v:Int),h,p,q,r⟩).length=0 by unfold BW;rw[hu];rfl]at y;subst y;have ct:=Xa<|w.o hu;clear hu z C x w;go_wp2_with fail
   generalize wr=wv at*
   go_loopw [76] (λl e=>l=Hp 0/\Hs (ZH M U e)/\Hs (d i e)) λ_ _=>0
   case atStart=>exact⟨rfl,Q,V⟩
   obtain⟨rfl,g,n⟩:=hrel;go_wp2;exact⟨⟨i+1,oM,gM,g,Xa<|ct.o _ n.o⟩,by simp[intOf];omega⟩
  |true=>
   have t:w6.ownsRow O.1.size 2 1 v6 1 [Hp h]:=by
    have:=C;unfold BW at this;rw[hu]at this;exact this
   let⟨k,o,y,gg,cj⟩:∃k o,v6=Hl k 1 o/\O.1.size<=k/\w6.cell? (Hk k 0)=some (Hp h):=by
    let⟨k,o,s,J,_⟩:=Xm t oM;subst s;exact⟨k,o,rfl,J.1,Jj t rfl⟩
   subst y;have cp:=Xa cj;have c6:=Xa λb t J=>x.o hu b t J;clear hu z C t x w cj;go_wp2_with fail
   generalize wr=wv at*
   go_loopw [76] (λl e=>(l=Hp 0/\Hs (ZH M U e)/\Hs (d i e)/\Hs (e.cell? (Hk k 0)=some (Hp h)))\/(l=Hp 1/\Hs (ZH M U e)/\Hs (d (i+1) e))) λl _=>1-(intOf l).toNat
   case atStart=>exact bC ⟨rfl,Q,V,cp⟩
   obtain⟨rfl,g,n,HCx⟩|⟨rfl,g,n⟩:=hrel
   .have D:=g.cell fz.o cz.o;have gf:=g.cell hG.o<|sg.o (i+1) oM;have cx:=HCx.o;have gq:IntKind.i64.wrap ((i:Int)+1)=(i:Int)+1:=by rw[dF];omega
    have gi:0<=(i:Int)+1:=oM;have gl:(i:Int)+1<(c:Int)+1:=oM;have co:=Xa<|c6.o wr g.o n.o;go_wp2_with fail
    refine co.mono ?_;rintro s w7⟨rfl,ck,cl⟩;have cq:=Xa<|g.trans ck;have cr:=Xa cl;clear ck cl D gf cx;go_wp2_with fail
    exact⟨aZ ⟨gM,cq,cr⟩,by simp[intOf]⟩
   go_wp2;exact⟨⟨i+1,oM,gM,g,n⟩,by simp[intOf];omega⟩
 have f4:i=c:=oM;subst f4;go_wp2_with fail
 exact hN.o _ _ _ _ _ _ _ _ _ _ _ _ _ _ _ _ _ _ _ _ _ _ _ _ j.o T.o
section
structure Nz(V:Nat)(w6:Ub)(G m Kw z:Nat)(pre:List Sd)(U:Ub):Prop where
 os:U.4=w6.4
 tape:U.2=w6.2
 output:U.5=w6.5
 size:w6.1.size<=U.1.size
 fr:∀q,q<w6.1.size->q≠G->U.1[q]?=w6.1[q]?
 zl:w6.1.size<=z/\z<U.1.size
 gl:G<w6.1.size
 db:∃T:Vu,U.rowIs G 103 m T/\∀i,i<m->(∀q∈pre,q.i≠i)\/∃q∈pre,q.i=i/\(XA q.W/\N1 V Kw q.W)/\∃zi ci,T i=.slice (some ⟨zi,0,none⟩) Kw ci/\(w6.1.size<=zi/\zi≠z)/\Cp U zi Kw ci q.W
section
variable {V: Nat} {w6 U U' U5: Ub} {G m Kw z: Nat} {pre: List Sd}
theorem Cp.cells{w:Ub}{g K C:Nat}{W:Wk}(h:Cp w g K C W):∃o,w.1[g]?=some o/\o.isCells=true:=by
 let⟨_,T,c,a,_⟩:=h;exact⟨_,a,rfl⟩
theorem Nz.row(h:Nz V w6 G m Kw z pre U){r:Nat}(t:w6.1.size<=r)(k:U.grownBy U' (some r))(b:r=z\/∃o:Obj,U.1[r]?=some o/\o.isCells=false):Nz V w6 G m Kw z pre U':=by
 let⟨T,c,i⟩:=h.8;have j:=h.7;refine⟨k.1.trans h.1,k.2.trans h.2,k.3.trans h.3,aJ h.4 k.4,λq q1 q2=>(k.5 q (oN h.4) λe=>by injection e with e;omega).trans (h.5 q q1 q2),⟨h.6.1,aX h.6.2 k.4⟩,j,T,c.of_block (k.5 G c.lt λe=>by injection e with e;omega),λn l=>?_⟩;obtain e|⟨q,q1,q2,q3,f,g,e1,e2,e3⟩:=i n l;·exact bC e
 refine aZ ⟨q,q1,q2,q3,f,g,e1,e2,e3.of_block<|k.5 f e3.lt λe=>?_⟩;injection e with e;obtain b|⟨o,p,s⟩:=b;·exact e2.2 (e▸b)
 let⟨u,a,d⟩:=e3.cells;rw[e,p]at a;injection a with a;subst a;rw[s]at d;cases d
theorem Nz.below(h:Nz V w6 G m Kw z pre U)(k:Below U.1.size U U'):Nz V w6 G m Kw z pre U':=by
 let⟨T,a,d⟩:=h.8;refine⟨k.1.trans h.1,k.2.trans h.2,k.3.trans h.3,aJ h.4 k.4,λq q1 q2=>(k.5 q<|oN h.4).trans (h.5 q q1 q2),⟨h.6.1,aX h.6.2 k.4⟩,h.7,T,a.of_block<|k.5 G a.lt,λi f=>?_⟩;obtain e|⟨q,q1,q2,q3,b,c,e1,e2,e3⟩:=d i f;·exact bC e
 exact aZ ⟨q,q1,q2,q3,b,c,e1,e2,e3.of_block<|k.5 b e3.lt⟩
theorem Nz.turn(h:Nz V w6 G m Kw z pre U)(k:U.grownBy U' (some z)):Nz V w6 G m Kw z pre U':=h.row h.6.1 k<|bC rfl
theorem Nz.own(V:Nat)(w6:Ub)(G m Kw z:Nat):OwnFrom w6.1.size (Nz V w6 G m Kw z):=λpre U U' row h k q=>by
 cases row with
 |none=>exact h.below ⟨k.1,k.2,k.3,k.4,λb f=>k.5 b f λe=>by cases e⟩
 |some r=>
  let⟨a,o,c,d⟩:=q r rfl;exact h.row a k<|aZ ⟨o,c,d⟩
theorem Nz.push(h:Nz V w6 G m Kw z pre U){s:Sd}(n:XA s.W/\N1 V Kw s.W)(p:Below U.1.size U U5){b c:Nat}(t:U.1.size<=b)(o:Cp U5 b Kw c s.W):Nz V w6 G m Kw z (pre++[s]) (U5.setCell ⟨G,s.i,none⟩ (.slice (some ⟨b,0,none⟩) Kw c)):=by
 have a:=h.below p;let⟨T,g,j⟩:=a.8;have k:=h.7;have r:=h.4;have u:=h.6;refine⟨a.1,a.2,a.3,by rw[Xd];exact a.4,λq q1 q2=>(Below.heap_setCell _ _ _ _ q2).trans (a.5 q q1 q2),⟨a.6.1,by rw[Xd];exact a.6.2⟩,k,λi=>if i=s.i then Hl b Kw c else T i,(g.set s.i _).congr (λi _=>by by_cases e:i=s.i<;>simp[e]),λi l=>?_⟩;by_cases e:i=s.i;·refine aZ ⟨s,sP,e.symm,n,b,c,by simp only[e,gG],⟨oM,oM⟩,o.setOther (by show b≠G;omega) _⟩
 obtain e1|⟨q,q1,q2,q3,d,f,e1,e2,e3⟩:=j i l
 .refine bC λq hq=>?_;obtain hq|hq:=bU.1 hq;·exact e1 q hq
  rw[cS.1 hq];exact λe3=>e e3.symm
 exact aZ ⟨q,dD _ q1,q2,q3,d,f,by simp only[e,fD];exact e1,e2,e3.setOther (by show d≠G;omega) _⟩
theorem Nz.cell(h:Nz V w6 G m Kw z pre U){b o:Nat}{v:Uj}(c:b≠G)(a:w6.cell? (Hk b o)=some v):U.cell? (Hk b o)=some v:=(Xc<|h.5 b (aI w6 _ a) c).trans a
theorem Nz.done{a:Wi}(A:Jy V a){k:Nat}(x:k<a.length){c:Wk}(w:V<=64*Kw)(hq:∀v,v<64*Kw->(Xh c v=true↔UV a v k)){r:List Sd}(p:r.map Sd.dat=TZ a[k].2.length c (NS a[k]))(h:Nz V w6 G (a[k].2.length+1) Kw z r U):
 ∃(l n:Wk)(e:Vp),∀i,i<=a[k].2.length->U.cell? (Hk G i)=some (Hl (l i) Kw (n i))/\w6.1.size<=l i/\Cp U (l i) Kw (n i) (e i)/\XA (e i)/\N1 V Kw (e i)/\Mq (e i) (64*Kw)=Uq a a[k] V k i:=by
 let⟨T,t,u⟩:=h.8;have g:∀i,∃b f d,i<=a[k].2.length->U.cell? (Hk G i)=some (Hl b Kw f)/\w6.1.size<=b/\Cp U b Kw f d/\XA d/\N1 V Kw d/\Mq d (64*Kw)=Uq a a[k] V k i:=λi=>by
  by_cases j:i<=a[k].2.length
  .rcases u i oM with s|⟨q,q1,q2,q3,b,f,e1,e2,e3⟩
   .let⟨W,o⟩:=FW a[k] c (i:=i) oM;rw[<-p]at o;let⟨q,q1,q2⟩:=aY.1 o;exact absurd (fI Prod.fst q2) (s q q1)
   refine⟨b,f,q.W,λ_=>⟨by rw[t.cell oM,e1],e2.1,e3,q3.1,q3.2,?_⟩⟩
   have y:(i,q.W)∈TZ a[k].2.length c (NS a[k]):=by
    rw[<-p,<-q2];exact aY.2 ⟨q,q1,rfl⟩
   rw[wW A x w hq y]
  exact⟨0,0,λ_=>0,λh=>absurd h j⟩
 refine⟨λi=>Classical.choose<|g i,λi=>Classical.choose<|gJ (g i),λi=>Classical.choose<|gJ (gJ<|g i),λi j=>gJ (gJ<|gJ (g i)) j⟩
end
theorem vO{b:Wi}{V:Nat}{a:Wa}{k:Nat}(g:k<a.length)(d:a[k]<b.length):∃f,Ko b V a=Ko b V (a.take k)++(Ni b V a[k] b[a[k]] b[a[k]].1.length++VC b V a[k] b[a[k]] b[a[k]].2.length)++f:=by
 have e:a=a.take k++a[k]::a.drop (k+1):=by rw[mO,hH]
 refine⟨Ko b V<|a.drop (k+1),?_⟩;have c:OV b V a[k]=Ni b V a[k] b[a[k]] b[a[k]].1.length++VC b V a[k] b[a[k]] b[a[k]].2.length:=by
  unfold OV;rw[aC d]
 rw[<-c];unfold Ko
 conv=>lhs;rw[e]
 rw[eZ,jF,List.append_assoc]
theorem Fm{xs:Wi}{V b:Nat}{x:Xe}{i:Nat}(a:i<x.1.length):∃r,Ni xs V b x x.1.length=Ni xs V b x i++(x.1[i].1.toNat,Uq xs x V b 0)::r:=by
 refine⟨(x.1.drop<|i+1).map λp=>(p.1.toNat,Uq xs x V b 0),?_⟩;have e:x.1=x.1.take i++x.1[i]::x.1.drop (i+1):=by rw[mO,hH]
 unfold Ni;rw[gC]
 conv=>lhs;rw[e]
 rw[bG,eH]
theorem we{xs:Wi}{V b:Nat}{x:Xe}:∀(m i:Nat),∃r,VC xs V b x (i+m)=VC xs V b x i++r
 |0,i=>⟨[],sP⟩
 |m+1,i=>by
  obtain⟨r,a⟩:=we (xs:=xs) (V:=V) (b:=b) (x:=x) m i;rw[<-Nat.add_assoc,VC,a];exact⟨_,List.append_assoc _ _ _⟩
theorem Gg{xs:Wi}{V:Nat}{a:Wa}{k:Nat}(d:k<a.length)(b:a[k]<xs.length){i:Nat}(c:i<xs[a[k]].1.length):∃g,Ko xs V a=(Ko xs V (a.take k)++Ni xs V a[k] xs[a[k]] i)++(xs[a[k]].1[i].1.toNat,Uq xs xs[a[k]] V a[k] 0)::g:=by
 let⟨e,e1⟩:=vO (V:=V) d b;let⟨f,e2⟩:=Fm (xs:=xs) (V:=V) (b:=a[k]) c;rw[e1,e2];exact⟨f++VC xs V a[k] xs[a[k]] xs[a[k]].2.length++e,by simp[List.append_assoc]⟩
theorem Gq{xs:Wi}{V:Nat}{a:Wa}{k:Nat}(f:k<a.length)(b:a[k]<xs.length){i d:Nat}(e:i<xs[a[k]].2.length)(g:dB xs[a[k]].2[i].1=true)(c:xs[a[k]].2[i].2=(d:Int)):∃l,Ko xs V a=(Ko xs V (a.take k)++Ni xs V a[k] xs[a[k]] xs[a[k]].1.length++VC xs V a[k] xs[a[k]] i)++(d,Uq xs xs[a[k]] V a[k] (i+1))::l:=by
 let⟨h,e1⟩:=vO (V:=V) f b;let⟨j,e2⟩:=we (xs:=xs) (V:=V) (b:=a[k]) (x:=xs[a[k]]) (xs[a[k]].2.length-(i+1)) (i+1);rw[show i+1+(xs[a[k]].2.length-(i+1))=xs[a[k]].2.length by omega,q9 e g c]at e2;rw[e1,e2];exact⟨j++h,by simp[List.append_assoc]⟩
theorem EL{xs:Wi}{V:Nat}{a:Wa}{k:Nat}(c:k<a.length)(b:a[k]<xs.length):Ko xs V (a.take<|k+1)=Ko xs V (a.take k)++Ni xs V a[k] xs[a[k]] xs[a[k]].1.length++VC xs V a[k] xs[a[k]] xs[a[k]].2.length:=by
 rw[kJ,aC c];show Ko xs V (a.take k++[a[k]])=_;rw[qT];unfold OV;rw[aC b,List.append_assoc]
end
section
attribute [local go_sem] Oper.semAt_some
structure QA(w3 wr:Ub)(M:Vv)(J:List (Nat×Wa)->Vy)(ss:List (Nat×Wa))(ds:Wa):Prop where
 fr:ZH M w3 wr
 j:J ss wr
 O7:ZJ wr w3.1.size ds
theorem E6(h:ZJ w n s)(k:ZH d w v)(b:∀q,d q->q<n):ZJ v n s :=
 ⟨h.1,h.2,λD a=>(k.5 D (aS.1<|h.3 D a).1 λe=>by have:=b D e;have:=h.2 D a;omega).trans (h.3 D a)⟩
theorem Dx(h:ZJ w n s)(b:n<=m)(c:m∉s)(d:w.1[m]?=some (.deferred (some []))):ZJ w n (m::s) :=
 ⟨fL.2 ⟨c,h.1⟩,λk a=>by
  obtain rfl|a:=cH.1 a;·exact b
  .exact h.2 k a,λk a=>by
  obtain rfl|a:=cH.1 a;·exact d
  exact h.3 k a⟩
theorem tF{F:Fence}{n:Nat}{P:Yh}{b:Func}{R:Ending->Vy}{t t':Zh}(c:results b t=results b t'):∀a:List Deferred,LeavesInM F n P b t R a=LeavesInM F n P b t' R a
 |[]=>by
  funext u w;cases u<;>simp only[LeavesInM,LeavesIn,c]
 |d::a=>by
  have e:=tF (F:=F) (n:=n) (P:=P) (R:=R) c a;funext u w;unfold LeavesInM;rw[e]
theorem F7{A:Act}(b:Nat->Wa->Vu->Act)(R:Nat->Wa->Prop)(k:Nat)(a:Wa)(e:k<=n)(d:A=b k a λi=>A.1.getD i undef)(c:R k a):∃(k:Nat)(a:Wa)(f:Vu),k<=n/\A=b k a f/\R k a:=⟨k,a,_,e,d,c⟩
theorem Ef(c:Nat)(bp bo:Nat)(M:Vv)(Q:List (Nat×Wa)->Vy)(ha:Hs (Xp w k B p x))(hx:Hs (m=x.length))(hs:Hs (x.length+Xx x<=1048576))(hB:B<=w.1.size)(hO:Hs (Yy w))(hT:Hs (Yb w))(ej:Hs (Jn w))(hv:Hs (XJ ⟨(n:Int),x⟩=true))(E:Hs (Jy n x))(R:Hs (YX (X8 x) m l))(cg:Hs (∀q,M q->q<w.1.size))(bf:Hs (∀q,k<=q->q<B->¬M q))(ch:Hs (¬M 1/\¬M 2/\¬M 3))(hJ:Hs (∀ss A L,Q ss A->(∀q,q<w.1.size->q<A.1.size->L.1[q]?=A.1[q]?)->Q ss L))(cp:Hs (∀(b0:List (Nat×Wa))(v:Nat)(bv:Wa)(bx:List (Nat×Wa))(A:Ub)(z b Cz:Nat)(W:Wk),Ko x n (XT l m 0)=b0++(v,bv)::bx->Q b0 A->Cp A z b Cz W->XA W->N1 n b W->b<=100->Mq W (64*b)=bv->Jn A->Calls prog 55 #[Hp v,.agg #[Hl z b Cz],Hn bp,Hn bo] A λo L=>o=.returned (.tuple #[])/\ZH M A L/\Q (b0++[(v,bv)]) L))(h0:Hs (Q [] w)):
 Calls prog 54 #[.agg #[Hp n,.slice p m c],.func (.func 55) #[] #[Hn bp,Hn bo]] w λo F=>o=.returned (.tuple #[])/\ZH M w F/\Q (Ko x n<|XT l m 0) F:=by
 have hn:m<=1000:=oP hx.o E.1.2;have b7:=Xa λW (y:Below w.1.size w W)=>KO n p m c x k B W (Xa<|ha.keep (y.mono hB)) hx (oN y.4) E (Xa<|hO.keep y hO.1) (Xa<|hT.keep y hT.1);have cs:=Xa λW (y:Below w.1.size w W)=>AO c (Xa<|ha.keep (y.mono hB)) hx hs (oN y.4) (Xa (hO.keep y hO.1).old) (Xa (hT.keep y hT.1).old) hv;let⟨b,eq⟩:∃q,q=(n+63)/64:=⟨_,rfl⟩;simp only[<-eq]at b7;have hV:=E.2;have cf:b<=100:=oM;have ek:n<=64*b:=oM;clear eq;refine(bM (n:=9)).1 ?_;refine callsIn_of_wp_marks func54 rfl trivial ?_ rfl;simp only[ntmps54,xY,Nat.reduceAdd,Nat.reduceSub];gi_wp2;have be:(λH:Ub=>Below w.1.size w H/\w.1.size<H.1.size/\H.cell? (Hk w.1.size 0)=some (Hp n)/\H.cell? (Hk w.1.size 1)=some (.slice p m c)) (w.alloc<|.cells #[Hp n,.slice p m c] 37):=⟨Xb (Below.refl _ _) _,sP,(by simp[go_sem]),(by simp[go_sem])⟩;generalize w.alloc _=w0 at*;let⟨cj,et,k0,k1⟩:=be;refine⟨trivial,(bM.2<|b7 _ cj).mono ?_⟩;rintro o K⟨Gi,O,gi,go,ci,WI,WX,rfl,hR⟩;have HR:=Xa hR;have bh:=hR.1;have e0:=bh.4;have g0:=oB bh k0 et;have g1:=oB bh k1 et;have ct:=Xa<|Xg cj bh;have g9:w0.1.size<=O/\O<K.1.size:=⟨hR.6.2,hR.3.1.lt⟩;have lr:w.1.size<K.1.size:=oM;clear cj hR bh b7 k0 k1;gi_wp2
 have be:(λH:Ub=>Below K.1.size K H/\H.1.size=K.1.size+1/\H.cell? (Hk K.1.size 1)=some (Hl O m m)) (K.alloc<|.cells #[Hl Gi m m,Hl O m m] 106):=⟨Xb (Below.refl _ _) _,sP,(by simp[go_sem])⟩;generalize K.alloc _=w2 at*;let⟨V,bt,q1⟩:=be;have u1:=(XU V oM).trans g1;have b6:=Xa<|Xg ct V;have cc:=Xa λe (y:e<m)=>(HR.3.2 e y).of_block (V.5 _ (HR.3.2 e y).lt);have cb:=Xa<|HR.3.1.of_block (V.5 _ g9.2);refine⟨trivial,(bM.2<|cs _ b6).mono ?_⟩;rintro o w3⟨U3,P3,a1,c1,a2,c2,a3,a4,c4,rfl,aj,eg,ea⟩;have he:=vK eg R;subst he;have lu:=aj.4;have P:=Xa<|Xg b6 aj;have b3:=Xa ea.5;let⟨d,ba⟩:∃d,d=XT P3 m 0:=⟨_,rfl⟩;rw[<-ba]at b3 cp;rw[<-ba];have gq:Hs (∀aa∈d,aa<m):=Xa (by rw[ba];exact λaa hy=>(by rw[hx.o];exact E.1.re aa (Ji R m 0 aa (Re.root) hy).2));have hp:d.length<=1000:=by
  have r:=o9 R (λaa hw=>by rw[hx.o];exact E.1.re aa hw) m Re.root;rw[ba];omega
 have ge:=Xa ba;let⟨J,hm⟩:∃J,J=d.length:=⟨_,rfl⟩;rw[<-hm]at hp;have HM:=Xa hm;have gd:Hs (∀a (h:a<d.length),w3.cell? (Hk a4 a)=some (Hp ((d[a]:Nat):Int))/\w2.1.size<=a4):=Xa (λa h=>⟨Jj b3 (by simp[Je,h]),(b3.lt a4 rfl).1⟩);rw[<-hm];have v1:=(XU aj oM).trans u1;have q3:=(XU aj oM).trans q1;have dn:=Xa λe (y:e<m)=>(cc e y).of_block (aj.5 _ (cc e y).lt);have gr:=Xa<|cb.of_block (aj.5 _ cb.lt);have fc:=Xa<|ha.keep (P.mono hB);have dc:=Xa (hJ.o _ _ _ h0 λq hq _=>P.5 q hq);have lb:∀(A1 A2 A3 A4:Uj)(W:Ub),(Instr.field 72 (.agg #[A1,A2,A3,A4]) 3).run prog W=.ok A4 W:=λA1 A2 A3 A4 W=>vZ;clear V aj ea ba b3 u1 q1 g0 g1 cs cc cb hm eg ct b6 h0;gi_wp2;refine nH (λa' wr=>∃(a:Nat)(ds:Wa)(f:Vu),a<=J/\a'=⟨#[.agg #[Hp n,.slice p m c],.func (.func 55) #[] #[Hn bp,Hn bo],Hn w.1.size,undef,Hn K.1.size,undef,f 6,f 7,f 8,f 9,f 10,undef,f 12,f 13,f 14,undef,f 16,.agg #[Hp n,.slice p m c],.agg #[Hl Gi m m,Hl O m m],.agg #[Hp n,.slice p m c],.agg #[Hl a1 m c1,Hl a2 m c2,Hl a3 m m,Hl a4 J c4],Hl a4 J c4,Hp J,Hp a,f 24,f 25,f 26,f 27,f 28,f 29,f 30,f 31,f 32,f 33,f 34,f 35,f 36,f 37,f 38,f 39,f 40,f 41,f 42,f 43,f 44,f 45,f 46,f 47,f 48,f 49,f 50,f 51,f 52,f 53,f 54,f 55,f 56,f 57,f 58,f 59,f 60,f 61,f 62,f 63,f 64,f 65,f 66,f 67,f 68,f 69,f 70,f 71,f 72,f 73,f 74,f 75,f 76,f 77,f 78,f 79,f 80,f 81,f 82,f 83,f 84,f 85,f 86,f 87,f 88,f 89,f 90],O7 ds⟩/\Hs (QA w3 wr M Q (Ko x n<|d.take a) ds)) (λa' _=>J-(intOf<|a'.1.getD 23 undef).toNat) ?_ ?_;·exact⟨0,[],λ_=>undef,aN,rfl,Xa ⟨ZH.refl _ _,by simpa [Ko]using dc.o,⟨iU,λ_ h=>(by cases h),λ_ h=>(by cases h)⟩⟩⟩
 rintro a' wr⟨a,ds,f,hk,rfl,j⟩;clear dc;have lp:=j.1.4;by_cases hl:a<J
 .have bm:a<d.length:=by rw[<-HM.o];exact hl
  let⟨e4,h4⟩:=gd a bm;have al:=gq _<|aH bm;have I:d[a]<x.length:=by rw[<-hx.o];exact al
  have aq:∀q,w.1.size<=q->¬M q:=λq hq h=>by have:=cg q h;omega
  have S:=Xa aq;have f4:=j.1.cell (aq a4 oM) e4;have f1:=j.1.cell (aq w.1.size<|aA) v1;have fq:=j.1.cell (aq K.1.size oM) q3;have gh:=Xa λi g=>Gg (xs:=x) (V:=n) bm I (i:=i) g;have fs:=Xa λi g8 g hu hd=>Gq (xs:=x) (V:=n) bm I (i:=i) (d:=g8) g hu hd;have gb:=Xa<|EL (xs:=x) (V:=n) bm I;have fi:=Xa λ(w6 U':Ub)(fb z:Nat)(W0:Wk)(hq:∀v,v<64*b->(Xh W0 v=true↔UV x v d[a]))(ss:List Sd)(hs:ss.map Sd.dat=TZ x[d[a]].2.length W0 (NS x[d[a]]))(h:Nz n w6 fb (x[d[a]].2.length+1) b z ss U')=>h.done E I ek hq hs;have di:=Xa<|HR.lou E hx d[a] al;have f7:Hs (N1 n b<|WX d[a]):=Xa λaa r t=>((di aa r).1 t).val E I;have g3:=Xa<|HR.5 d[a];have ir:=Xa<|aH I;have gf:=Xa<|qF E (aH I);have dj:=Xa<|E.3 _ (aH I);have gz:=Xa<|E.4 _ (aH I);have ac:=Xa<|E.10 _ (aH I);have fj:=Xa λi (g:i<x[d[a]].1.length)=>E.8 _ (aH I) _ (aH g);have g4:=Xa (λi (g:i<x[d[a]].2.length) (hu:dB x[d[a]].2[i].1=true)=>E.6 _ (aH I) _ (aH g) x[d[a]].2[i].2 (by unfold BW;rw[hu];simp));have cq:=j.1.cell (aq O oM) (gr.cell al);have du:=Xa<|(dn d[a] al).of_block (j.1.5 _ (dn d[a] al).lt (aq _<|oN (HR.7 d[a] al)));have ih:=Xa (HR.7 d[a] al).2;let⟨bb,oo,eb,em,pa,pc,Z,ic,p0,p1,⟨t0,t1,t2,t3⟩,es,eo⟩:=fc d[a] I;have a9:=bf bb em.1 em.2;have c0:=j.1.cell a9 p0;have c5:=j.1.cell a9 p1;have c6:=j.1.cell a9 t0;have c7:=j.1.cell a9 t1;have c8:=j.1.cell a9 t2;have c9:=j.1.cell a9 t3;have cn:YA k B w3 wr:=λq q1 q2=>j.1.5 q (oN P.4) (bf q q1 q2);have gg:=Xa<|es.keepS cn;have fn:=Xa<|eo.keepS cn;generalize hX:x[d[a]]=X at*;have iv:=Xa hX;generalize k6:d[a]=e at*;clear p0 p1 t0 t1 t2 t3 es eo cn e4 aq hX;subst eb;have lc:(a:Int)<(J:Int):=oM;have k7:(e:Int)<(m:Int):=oM;have ht:IntKind.i64.wrap ((X.2.length:Int)+1)=(X.2.length:Int)+1:=by have:=ac.1;rw[dF];omega
  have er:=J9 (P:=prog) 104 103 (.agg #[Hq]) 1 24 underlying104 Q9 (X.2.length+1) (oN ac.1) (oN ac.1);rw[show((X.2.length+1:Nat):Int)=(X.2.length:Int)+1 by omega]at er;gi_wp2
  rename_i K2 io K1 il K0 df;have be:(λH:Ub=>Below wr.1.size wr H/\H.1.size=wr.1.size+3/\(∀q v,#[.slice pa X.1.length pc,.slice Z X.2.length ic,Hp X.3.1,Hp X.3.a,Hp X.3.3,Hp X.3.4][q]?=some v->H.cell? (Hk wr.1.size q)=some v)/\H.rowIs (wr.1.size+1) 103 (X.2.length+1) (λ_=>Hq)/\H.cell? (Hk (wr.1.size+1+1) 0)=some (Hl (wr.1.size+1) (X.2.length+1) (X.2.length+1))) (((wr.alloc<|.cells #[.slice pa X.1.length pc,.slice Z X.2.length ic,Hp X.3.1,Hp X.3.a,Hp X.3.3,Hp X.3.4] 60).alloc (.cells (madeCells #[Hq] (X.2.length+1)) 103)).alloc (.cells #[Hl (wr.1.size+1) (X.2.length+1) (X.2.length+1)] 104)):=⟨Xb (Xb (Xb (Below.refl _ _) _) _) _,sP,(λq v h=>by
   rw[bP _ _ (Hk wr.1.size q) (by rw[aO,aO];show wr.1.size<_;omega),bP _ _ (Hk wr.1.size q) (by rw[aO];show wr.1.size<_;omega),eC];exact h),(by
   have h:=dG (wr.alloc<|.cells #[.slice pa X.1.length pc,.slice Z X.2.length ic,Hp X.3.1,Hp X.3.a,Hp X.3.3,Hp X.3.4] 60) Hq (X.2.length+1) 103;rw[aO]at h;exact h.of_block<|Below.heap_alloc _ _ _ sP),(by simp[go_sem])⟩
  generalize (((wr.alloc _).alloc _).alloc _)=wa at*;let⟨V,bt,ao,cm,ev⟩:=be;have x0:=ao 0 _ rfl;have x1:=ao 1 _ rfl;have x2:=ao 2 _ rfl;have x3:=ao 3 _ rfl;have x4:=ao 4 _ rfl;have x5:=ao 5 _ rfl;have sq:=oB V fq<|aI wr _ fq;have fa:=oB V cq<|aI wr _ cq;have k8:(e:Int)<(m:Int):=oM;clear er ht ao fq cq f4 f1 c0 c5 c6 c7 c8 c9;refine Tc (λF=>F.cell? (Hk wr.1.size 0)=some (.slice pa X.1.length pc)/\F.cell? (Hk wr.1.size 1)=some (.slice Z X.2.length ic)/\F.cell? (Hk wr.1.size 2)=some (Hp X.3.1)/\F.cell? (Hk wr.1.size 3)=some (Hp X.3.a)/\F.cell? (Hk wr.1.size 4)=some (Hp X.3.3)/\F.cell? (Hk wr.1.size 5)=some (Hp X.3.4)/\F.cell? (Hk K.1.size 1)=some (Hl O m m)/\F.cell? (Hk O e)=some (Hl (go e) b b)) λhHeld=>?_;refine Yi 0 ?_;refine Yi 1 ?_;refine Yi 2 ?_;refine Yi 3 ?_;refine Yi 4 ?_;refine Yi 5 ?_;refine Yc 6 λdz hK=>?_;go_simp;have ck:Below wa.1.size wa wa.drew:=(Below.refl _ _).drew;have e6:wa.drew.1.size=wr.1.size+3:=bt;generalize wa.drew=G at*;refine⟨trivial,(vF 8 (go e) b b G).mono ?_⟩;rintro o C⟨rfl,br⟩;have b5:=ck.trans ((show Below G.1.size G C by rw[br];exact Xb (Xb (Below.refl _ _) _) _).mono ck.4);have h7:C.1.size=wr.1.size+5:=by rw[br];simp[e6]
  have ap:∀q v,#[.slice pa X.1.length pc,.slice Z X.2.length ic,Hp X.3.1,Hp X.3.a,Hp X.3.3,Hp X.3.4][q]?=some v->C.cell? (Hk G.1.size q)=some v:=λq v h=>by
   rw[br,bP _ _ (Hk G.1.size q) (by rw[aO];show G.1.size<_;omega),eC];exact h
  have ey:C.cell? (Hk (G.1.size+1) 0)=some (Hl (go e) b b):=by rw[br];simp[go_sem]
  have Y:=λ(b' q:Nat)(v:Uj)(hc:wa.cell? (Hk b' q)=some v)=>oB b5 hc<|aI wa _ hc;have z0:=Y _ _ _ x0;have z1:=Y _ _ _ x1;have z2:=Y _ _ _ x2;have z3:=Y _ _ _ x3;have z4:=Y _ _ _ x4;have z5:=Y _ _ _ x5;have zq:=Y _ _ _ sq;have zg:=Y _ _ _ fa;have eu:=Y _ _ _ ev;have gs:=Xa<|cm.of_block (b5.5 _ cm.lt);have bl:=Xg V b5;have ar:=Xa bl;have g2:=Xa<|du.of_block (bl.5 _ du.lt);have a5:=(ZH.of_below P).trans (j.1.trans<|ZH.of_below bl);have ib:=Xa a5;have ad:=Xa λ(A:Ub)(h:ZH M w A)=>(⟨hO.of_block (h.5 _ hO.1 ch.1) h.4,hT.of_block (h.5 _ hT.1 ch.2.1) h.4,ej.of_block<|h.5 _ (aI w _<|ej 0 vY) ch.2.2⟩:Yy A/\Yb A/\Jn A);have co:YA k B wr C:=λq q1 q2=>bl.5 q<|oN P.4;have dk:=Xa<|gg.keepS co;have db:=Xa<|fn.keepS co;have gv:Hs (UI X k B G.1.size C.1.size C.1.size C):=Xa ⟨(ad _ a5).1,(ad _ a5).2.1,⟨pa,pc,Z,ic,ap 0 _ rfl,ap 1 _ rfl,⟨ap 2 _ rfl,ap 3 _ rfl,ap 4 _ rfl,ap 5 _ rfl⟩,dk,db⟩,oM,oN P.4,(ad _ a5).1.1,(ad _ a5).2.1.1,aA⟩;have gt:=Xa ey;have dl:=Xa eu;have lo:=P.4;have lx:wr.1.size+3<=G.1.size:=oM;have lz:G.1.size<=wr.1.size+3:=oM;have lv:wr.1.size+5<=C.1.size:=oM;have lw:C.1.size<=wr.1.size+5:=oM;clear bt e6 h7;refine hK _ _ ⟨z0,z1,z2,z3,z4,z5,zq,zg⟩ λhHeld=>?_;clear hK;refine ZV ?_;have g6:=Xa z0;have g7:=Xa z1;clear hHeld z0 z1 z2 z3 z4 z5 zq zg x0 x1 x2 x3 x4 x5 sq fa ev eu ey Y b5 ap br cm V ck a5 co bl;apply df;clear df;gi_wp2
  refine nX (F:=Fence.wide) (n:=9) rfl vY (gf:=155) (lb:=#[Hn<|G.1.size+1,Hn G.1.size]) rfl trivial (enters_of func155 vZ rfl) (tU (λq=>q=wr.1.size+1) gv gt g2 g3 cf ek (Xa ?m1) (Xa ?m2) (Xa ?m3) (Xa ?m4) (Xa ?m5) dj gz ac.1 ac.2 gf f7) (λz=>qj _ _ _ _ z) (λh a=>h.trans a) (λW bv e7 o' r t T=>Zf.putObj W bv e7 o' oM t T) (Below.refl _ _) (λ_ _=>rfl)
   (λz=>Nz n C (wr.1.size+1) (X.2.length+1) b z) (λ_ _ _=>False) (λz=>Nz.own n C _ _ _ z) (λ_ _ _ _ _ h _ _=>h) (λ_ z l0 A L _ h af=>h.turn af) (λh=>h.elim) ?start
   (λz s a' U=>∃N:Nat,a'=⟨#[.agg #[Hp n,Hm bb oo m c],.func (.func 55) #[] #[Hn bp,Hn bo],Hn w.1.size,undef,Hn K.1.size,undef,Hp e,Hn wr.1.size,Hn<|wr.1.size+1+1,Hp (s.i:Int),Hn N,undef,f 12,f 13,f 14,undef,f 16,.agg #[Hp n,Hm bb oo m c],.agg #[Hl Gi m m,Hl O m m],.agg #[Hp n,Hm bb oo m c],.agg #[Hl a1 m c1,Hl a2 m c2,Hl a3 m m,Hl a4 J c4],Hl a4 J c4,Hp J,Hp a,.bool true,Ho a4 a,Hp e,Ho w.1.size 1,Hm bb oo m c,Hp e,Ho bb<|oo+e*6,.agg #[.slice pa X.1.length pc,.slice Z X.2.length ic,Hp X.3.1,Hp X.3.a,Hp X.3.3,Hp X.3.4],Ho wr.1.size 1,.slice Z X.2.length ic,Hp (X.2.length:Int),Hp<|(X.2.length:Int)+1,Hl (wr.1.size+1) (X.2.length+1) (X.2.length+1),.agg #[.slice pa X.1.length pc,.slice Z X.2.length ic,Hp X.3.1,Hp X.3.a,Hp X.3.3,Hp X.3.4],Ho K.1.size 1,Hl O m m,Hp e,Ho O e,.agg #[Hl (go e) b b],.func (.func 155) #[] #[Hn<|G.1.size+1,Hn G.1.size],Hp (s.i:Int),.agg #[Hl z b s.C],f 46,f 47,f 48,f 49,f 50,f 51,f 52,f 53,f 54,f 55,f 56,f 57,f 58,f 59,f 60,f 61,f 62,f 63,f 64,f 65,f 66,f 67,f 68,f 69,f 70,f 71,f 72,f 73,f 74,f 75,f 76,f 77,f 78,f 79,f 80,f 81,f 82,f 83,f 84,f 85,f 86,f 87,f 88,f 89,f 90],[]⟩/\C.1.size<=N/\U.cell? (Hk N 0)=some (Hl z b s.C)) ?ownA ?assign ?body ?done λ_ _ _ _ _ _ h _=>h.elim
  case m1=>intro q r t o;omega
  case m2=>intro o;omega
  case m3=>intro q r o;omega
  case m4=>intro o;have:=hO.1;omega
  case m5=>intro o;have:=hT.1;omega
  case start=>
   intro z U e0 bt hU;exact⟨hU.1,hU.2,hU.3,hU.4,λq r _=>hU.5 q r,⟨e0,bt⟩,oM,λ_=>Hq,gs.of_block<|hU.5 _ oM,λi _=>bC λq hq=>absurd hq eA⟩
  case ownA=>
   rintro z s a' _ A U row⟨N,o,r,t⟩ af q;refine⟨N,o,r,(Xc<|af.5 N (aI A _ t) λe2=>?_).trans t⟩;let⟨ob,T,h4⟩:=Yn t;let⟨_,o2,h5,h6⟩:=q N e2.symm;rw[show A.1[N]?=some ob from T]at h5;injection h5 with h5;subst h5;rw[h4]at h6;cases h6
  case assign=>
   intro l' z b0 s U KK hz D R ef;have u:=Xa D;have b4:=Xa R;have f6:=Xa ef;clear D R ef;unfold rx;gi_wp2;have bi:Below U.1.size U (U.alloc<|.cells #[Hl z b s.C] 103):=Xb (Below.refl _ _) _;exact f6 _ _ ⟨bi.4,λa e7 r _=>(bi.5 a (aS.1 r).1).trans r⟩ (Zf.of_below bi u.4) (u.below bi) (tH b4 bi) ⟨U.1.size,rfl,u.4,by simp[go_sem]⟩
  case body=>
   rintro l' z b0 s a' U hz le _ D R⟨N,rfl,la,en⟩ lg;have u:=Xa D;have b4:=Xa R;have sb:=D.cell (b:=wr.1.size+1+1) oM dl;have hr:s.i<X.2.length+1:=oN R.1.1;have li:(s.i:Int)<(X.2.length:Int)+1:=oM;have h8:=D.4;have cx:=Xa<|Kk z b s.C s.W U.drew (Xa R.2.1.drew) oM;clear D R;gi_wp2;refine Tc (λF=>F.cell? (Hk (wr.1.size+1+1) 0)=some (Hl (wr.1.size+1) (X.2.length+1) (X.2.length+1))/\F.cell? (Hk N 0)=some (Hl z b s.C)) λhHeld=>?_;refine Yi 0 ?_;refine Yi 1 ?_;refine Yi 2 ?_;refine Yc 3 λdz hK=>?_;go_simp;refine⟨trivial,(CallsIn.inRound l'<|bM.2 cx).mono ?_⟩;rintro o U5⟨g5,C5,rfl,hf,a8,ez⟩;have a7:Below U.1.size U U5:=⟨a8.1,a8.2,a8.3,a8.4,a8.5⟩;have gp:=Xa<|u.push (s:=s) ⟨b4.2.2,b4.1.2⟩ a7 hf ez;have cv:=Xa a7;have e9:=oB a7 sb<|aI U _ sb;have d0:=oB a7 en<|aI U _ en;have da:=Xa<|u.below a7;let⟨T5,cl,_⟩:=da.8;have i0:=cl.cell hr;have k3:=cl.frozen s.i;clear a7 a8 ez cx cl;refine hK _ _ ⟨e9,d0⟩ λhHeld=>?_;clear hK;refine Yi 4 ?_;refine Yc 5 λdz hK=>?_;go_simp;refine hK _ _ ⟨(bH U5 (Hk (wr.1.size+1) s.i) (Hk (wr.1.size+1+1) 0) (Hl g5 b C5) sP).trans e9,(bH U5 (Hk (wr.1.size+1) s.i) (Hk N 0) (Hl g5 b C5) (by show wr.1.size+1≠N;omega)).trans d0⟩ λhHeld=>?_;clear hK;refine ZV ?_;clear hHeld;gi_wp2;have ep:Zf C.1.size (λq=>q=wr.1.size+1) U (U5.setCell (Hk (wr.1.size+1) s.i) (Hl g5 b C5)):=(Zf.of_below cv h8).trans (Zg ⟨rfl,rfl,rfl,by simp[World.setCell],λa _ hk=>Below.heap_setCell _ _ _ _ λo=>hk<|by rw[o]⟩ rfl da.4);refine⟨⟨ep.1,λq ob r t T=>?_⟩,ep,gp⟩;exact(Below.heap_setCell _ _ _ _<|by show q≠wr.1.size+1;omega).trans ((cv.5 q (aS.1 t).1).trans t)
  rintro b1 z ss U hD hz ei D ee;let⟨zs,cw,Ws,el⟩:=fi C U (wr.1.size+1) z (WX e) di ss ei D;have ab:=Xa el;have u:=Xa D;have ca:=Xa ee;have y0:=D.cell (b:=wr.1.size) oM g6;have y1:=D.cell (b:=wr.1.size) oM g7;have sb:=D.cell (b:=wr.1.size+1+1) oM dl;have ce:ZH M wr U:=⟨u.1.trans ar.1,u.2.trans ar.2,u.3.trans ar.3,aJ ar.4 u.4,λq q1 _=>(u.5 q oM oM).trans (ar.5 q q1)⟩;have fl:=Xa ce;have b8:=Xa<|(ZH.of_below P).trans (j.1.trans ce);have f5:=Xa (hJ.o _ _ _ j.j λq q1 q2=>(u.5 q oM oM).trans (ar.5 q q2));have gl:=Xa (dk.keepS λq q1 q2=>u.5 q oM oM);have fx:=Xa (db.keepS λq q1 q2=>u.5 q oM oM);have dw:=Xa λ(A:Ub)(h:ZH M U A)(i:Nat)(g:i<=X.2.length)=>(ab i g).2.2.1.of_block (h.5 _ (ab i g).2.2.1.lt (S _<|oN ((ab i g).2.1)));have k5:=u.4;have ga:=Xa (show ∀q,M q->q<U.1.size from λq h=>by have:=cg q h;omega);have dd:Hs (∀(af:Nat->List (Nat×Wa)) i A L,Q (af i) A->Below A.1.size A L->Q (af i) L):=Xa λaf i A L h t=>hJ _ _ _ h λq _ q2=>t.5 q q2;have hj:=ac.2;have hh:=ac.1;clear el D ee ei ce;gi_wp2;refine wpIn_wide.2<|F8 (wr.1.size+1+1) (wr.1.size+1) X.2.length b (zs 0) (cw 0) bp bo X.1.length pc pa X.1 k B M (λi A=>Q (Ko x n (d.take a)++Ni x n e X i) A) U _ _ _ _ _ _ _ _ _ _ _ _ _ _ _ _ _ _ _ _ _ _ _ _ _ _ _ _ _ _ _ _ _ _ _ _ _ _ _ _ _ _ _ _ _ (Xa ?hq) gl (Xa rfl) hj bf (Xa<|S.o _ oM) (Xa<|S.o _ oM) ga sb (ab 0<|aN).1 (Xa<|dd.o _) (Xa ?stp) (Xa ?st0) (Xa ?nx)
  case hq=>
   intro c p cr v w h;have r:LeavesInM Fence.wide 9 prog f54 (p.put (some cr) v).1 _ (p.put (some cr) v).2 (.panicking c) w:=h;rw[tF (t:=(p.put (some cr) v).1) (t':=p.1) (by simp[results,results54])]at r;exact r
  case stp=>
   intro i g A bc bd;let⟨bx,o⟩:=gh i g;have hd:=fj i g;let⟨_,_,_,h4,h5,h6⟩:=ab 0<|aN;have bn:=cp _ _ _ bx A (zs 0) b (cw 0) (Ws 0) o bd (dw A bc 0<|aN) h4 h5 cf h6 (ad A<|b8.trans bc).2.2;rw[fR hd.1]at bn;refine bn.mono ?_;rintro o L⟨r,t,T⟩;refine⟨r,t,?_⟩;rw[cK]at T;rw[vW (d:=X.1[i].1.toNat) g (fR hd.1).symm];exact T
  case st0=>
   have:Ni x n e X 0=[]:=by simp[Ni]
   rw[this,fF];exact f5
  case nx=>
   intro i1 i2 i3 i4 i5 i6 jf jj jl js jv j0 A1 a0 ec;have az:=Xa a0;have fz:=Xa ec;have h9:=a0.cell (S wr.1.size oM) y1;have e8:=a0.cell (S (wr.1.size+1+1) oM) sb;have fr:=Xa (fx.keepS λq q1 q2=>a0.5 q oM<|bf q q1 q2);have k4:=a0.4;clear a0 ec y0 y1 sb;gi_wp2;refine wpIn_wide.2<|F6 (wr.1.size+1+1) (wr.1.size+1) b bp bo X.2.length ic zs cw Z X.2 k B M (λi A=>Q (Ko x n (d.take a)++Ni x n e X X.1.length++VC x n e X i) A) A1 _ _ _ _ _ _ _ _ _ _ _ _ _ _ _ _ _ _ _ _ _ _ _ _ _ _ _ _ _ _ _ _ _ _ _ _ _ _ _ _ _ _ _ _ fr (Xa rfl) hh bf (Xa<|S.o _ oM) (Xa<|S.o _ oM) e8 (Xa λi g=>az.cell (S (wr.1.size+1) oM) (ab i g).1) dj (Xa λA h=>(ad A<|b8.trans (az.trans h)).1) (Xa<|dd.o _) (Xa ?stp) (Xa ?stn) (Xa ?st0) (Xa ?nx)
   case stp=>
    intro i g hu A bc bd;have hd:=g4 i g hu;let⟨bx,o⟩:=fs i X.2[i].2.toNat g hu (fR hd.1).symm;let⟨_,_,_,h4,h5,h6⟩:=ab (i+1) g;have bn:=cp _ _ _ bx A (zs<|i+1) b (cw<|i+1) (Ws<|i+1) o bd (dw A (az.trans bc) (i+1) g) h4 h5 cf h6 (ad A<|b8.trans (az.trans bc)).2.2;rw[fR hd.1]at bn;refine bn.mono ?_;rintro o L⟨r,t,T⟩;refine⟨r,t,?_⟩;rw[cK]at T;rw[q9 (d:=X.2[i].2.toNat) g hu (fR hd.1).symm];exact T
   case stn=>
    intro i g hu A bd;rw[xk g hu];exact bd
   case st0=>
    have:VC x n e X 0=[]:=by simp[VC]
    rw[this,fF];exact fz
   intro j1 j2 j3 j4 ka kb kc kd kf kk kl kn ko kq ks kt ku kv kw kx ky kz k2 A2 cd ed;have f0:=Xa ed;have cz:=Xa<|fl.trans (az.trans cd);have fe:=Xa<|(cd.5 b1 (oN<|(aS.1 ca).1) (S _ oM)).trans ((az.5 b1 (aS.1 ca).1 (S _ oM)).trans ca);clear cd ed h9 e8;gi_wp2;refine⟨F7 _ _ (a+1) (b1::ds) oM rfl (Xa ⟨j.1.trans cz,?_,?_⟩),?_⟩
   .rw[gb.o];exact f0
   .refine Dx (E6 j.3 cz λq h=>by have:=cg q h;omega) oM (λh=>?_) fe;have:=(aS.1<|j.3.3 b1 h).1;omega
   simp[intOf];omega
 have hg:a=J:=oM;subst hg;gi_wp2;refine U4 ds wr j.3 j.1.4 λW' a6=>?_;refine⟨.tuple #[],by simp[results,results54,go_sem],rfl,?_,?_⟩
 .have lk:=P.4;have hF:=(ZH.of_below (M:=M) P).trans j.1;exact⟨a6.1.trans hF.1,a6.2.trans hF.2,a6.3.trans hF.3,aJ hF.4 a6.4,λq q1 q2=>(a6.5 q oM).trans (hF.5 q q1 q2)⟩
 have h:=j.j;rw[HM.o,gC]at h;rw[<-ge.o];exact hJ _ _ _ h λq q1 _=>a6.5 q<|oN P.4
end
theorem Oy.same{go:Nat}{C:Ym}(h:Oy n m k go B g i j C w)(u:k<c/\go<c/\B<c/\g<c/\i<c/\j<c)(a:∀q,q<c->q<w.1.size->v.1[q]?=w.1[q]?):Oy n m k go B g i j C v:=by
 let⟨l,o,p,r,s,t⟩:=u;have d:∀{b:Nat}{f:Uj},b<c->w.cell? (Hk b 0)=some f->v.cell? (Hk b 0)=some f:=λx e=>(bZ<|a _ x (aI w _ e)).trans e;exact⟨h.1.of_block<|a _ l h.1.lt,h.o.of_block<|a _ o h.o.lt,h.3.of_block<|a _ p h.3.lt,d r h.4,d s h.5,d t h.6,h.7,h.8,h.9,h.n3,h.n4,h.n5⟩
theorem By(c:Nat)(w:Ub)(ha:Hs (Xp w k B p x))(H:Hs (m=x.length))(hs:Hs (x.length+Xx x<=1048576))(hB:B<=w.1.size)(C:Hs (Yy w))(D:Hs (Yb w))(V:Hs (Jn w))(hv:Hs (Ft (n:Int) x=0))(hP:Hs (YX (X8 x) m l)):
 Calls prog 20 #[.agg #[Hp n,.slice p m c]] w λf w'=>∃Q,f=.returned (.agg #[Hp 0,Hl Q n n,Hp<|NE (Kq (λ_=>-1) (Ko x n<|XT l m 0)) n])/\Below w.1.size w w'/\w.1.size<=Q/\HK w' Q n n (Kq (λ_=>-1) (Ko x n<|XT l m 0)):=by
 let⟨G,az⟩:=TX hv;have ho:=XH G;have O:Hs (mn n<|Ko x n (XT l m 0)):=Xa (by
  have S:=hP.o;rw[H.o]at S;have:=vV G az S;rw[H.o];exact this)
 have hV:=ho.2;have P:=Xa λW (F:Below w.1.size w W)=>Te (n:Int) m c (Xa<|ha.keep (F.mono hB)) H hs (oN F.4) (Xa<|C.keep F C.1) (Xa<|D.keep F D.1);rw[hv.o]at P;have bf:=fM (P:=prog) 41 2 (Hp 0) 8 underlying41 RH rfl .i64 .i64 n oM oM;have a8:=Xa G;have a7:=Xa ho;clear G ho az
 go_in
 go_wp2_with fail
 have A:(λd:Ub=>Below w.1.size w d/\w.1.size+2<=d.1.size/\d.cell? (Hk w.1.size 0)=some (Hp n)/\d.cell? (Hk w.1.size 1)=some (.slice p m c)/\Hs (d.1[w.1.size+1]?=some (.cells #[Hp 0,Hq,Hp 0] 43))) ((w.alloc<|.cells #[Hp n,.slice p m c] 37).alloc (.cells #[Hp 0,Hq,Hp 0] 43)):=⟨Xb (Xb (Below.refl _ _) _) _,sP,(by simp[go_sem]),(by simp[go_sem]),(Xa (by
  have:=World.alloc_heap_new (w.alloc<|.cells #[Hp n,.slice p m c] 37) (.cells #[Hp 0,Hq,Hp 0] 43);rwa[aO]at this))⟩
 generalize (w.alloc _).alloc _=w0 at*;let⟨X,ch,c0,c1,ao⟩:=A;refine(P _ X).mono ?_;rintro f a⟨rfl,r⟩;have ci:=r.4;have cf:w.1.size<a.1.size:=oM;have k0:=(XU r oM).trans c0;have k1:=(XU r oM).trans c1;have J:=Xa<|Xg X r;have ap:=Xa<|(r.5 _ oM).trans ao;clear X r c0 c1 P ao;go_wp2_with fail
 have A:(λd:Ub=>Below a.1.size a d/\a.1.size+2<=d.1.size/\d.1.size<=a.1.size+2/\Hs (d.rowIs a.1.size 2 n λ_=>Hp 0)/\Hs (d.rowIs (a.1.size+1) 43 3 (OX (Hp 0) (Hl a.1.size n n) (Hp 0)))) ((a.alloc<|.cells (madeCells #[Hp 0] n) 2).alloc (.cells #[Hp 0,Hl a.1.size n n,Hp 0] 43)):=⟨Xb (Xb (Below.refl _ _) _) _,sP,sP,Xa<|(dG a (Hp 0) n 2).alloc _,(Xa (by
  have h:=eK (a.alloc<|.cells (madeCells #[Hp 0] n) 2) #[Hp 0,Hl a.1.size n n,Hp 0] 43 (OX (Hp 0) (Hl a.1.size n n) (Hp 0)) (λi t=>by match i,t with|0,_=>rfl|1,_=>rfl|2,_=>rfl)
  rw[aO]at h;exact h))⟩
 generalize ((a.alloc _).alloc _)=w2 at*;let⟨s,br,bt,N,M⟩:=A;have ck:=J.4;let⟨go,ab⟩:∃go,go=a.1.size:=⟨_,rfl⟩;rw[<-ab]at s br bt N M;rw[<-ab];have cc:a.1.size<=go:=oM;have cd:go<=a.1.size:=oM;have m0:=(XU s oM).trans k0;have m1:=(XU s oM).trans k1;have aq:=Xa<|(s.5 _ oM).trans ap;have af:=Xa<|J.trans (s.mono oM);clear bf s k0 k1 ab J ap;refine(Bw hV).mono ?_;rintro f b⟨o,q,R,rfl,g,ce,ca,cb,bh,bi,ac,Z,aa⟩;have cj:=g.4;have aj:=Xa<|Xg af g;have p0:=(XU g oM).trans m0;have p1:=(XU g oM).trans m1;have ar:=Xa<|(g.5 _ oM).trans aq;have l1:=ac.lt;have l2:o<b.1.size:=aI b _ Z;have l3:q<b.1.size:=aI b _ aa;have al:Hs (Oy n n R go (go+1) b.1.size o q (λ_=>-1) (b.alloc<|.cells #[.func (.func 120) #[] #[Hn o,Hn q]] 118)):=Xa (by
  refine⟨ac.alloc _,?_,?_,by simp[go_sem],(bP _ _ _ l2).trans Z,(bP _ _ _ l3).trans aa,λu _=>bC rfl,oM,⟨oM,oM⟩,⟨oM,oM,oM⟩,⟨bh,oM,oM⟩,⟨bi,oM,oM⟩⟩;·exact HK.of_row<|((N.of_block<|g.5 _ oM).alloc _).congr λi _=>sP
  exact((M.of_block<|g.5 _ oM).alloc _).congr λi t=>by rw[tV])
 have Y:Below b.1.size b (b.alloc<|.cells #[.func (.func 120) #[] #[Hn o,Hn q]] 118):=Xb (Below.refl _ _) _;have e:=Xa<|Xg aj Y;have cl:b.1.size<(b.alloc<|.cells #[.func (.func 120) #[] #[Hn o,Hn q]] 118).1.size:=sP;have ba:=Xa<|(Y.5 _ oM).trans ar;have cg:w.1.size<b.1.size:=oM;have bo:=λ(W:Ub)=>run_store prog W (Hk b.1.size 0) (.func (.func 120) #[] #[Hn o,Hn q]) .plain rfl;clear g ac Z aa N M m0 m1 aq ar af aj Y;go_wp2_with fail
 generalize (b.alloc _)=w4 at*;have K:=Xa (Ef c b.1.size (go+1) (PJ R go<|go+1) (λss bb=>Oy n n R go (go+1) b.1.size o q (Kq (λ_=>-1) ss) bb) (Xa<|ha.keep (e.mono hB)) H hs (oN e.4) (Xa<|C.keep e C.1) (Xa<|D.keep e D.1) (Xa<|V.of_block (e.5 _<|aI w _ (V 0 vY))) a8 a7 hP
  (Xa λb7 h=>by obtain h|h|h:=h<;>omega) (Xa λb7 S h2 h=>by obtain h|h|h:=h<;>omega) (Xa (by
   have t1:=C.1;have t2:=D.1;have t3:(3: Nat)<w.1.size:=aI w _<|V 0 vY;exact⟨λh=>by obtain h|h|h:=h<;>omega,λh=>by obtain h|h|h:=h<;>omega,λh=>by obtain h|h|h:=h<;>omega⟩))
  (Xa λss a3 A' h bx=>h.same ⟨oM,oM,oM,oM,oM,oM⟩ bx)
  (Xa (λa1 a2 a0 b6 a3 cm Kw Cz W f hC hz hd hl hk be bp=>by
   have bq:=O.1 (a2,a0) (by rw[f];simp);have bl:=TE a1 (λ_=>-1) λb8 ht=>O.2 a1 (a2,a0) b6 f b8 ht;refine(El (Xa hz) (Xa hd) (Xa bp) hk (Xa hl) hV (Xa hC) bq (Xa bl)).mono ?_;rintro e2 A'⟨q1,q2,q3⟩;refine⟨q1,q2,?_⟩;rw[rl,<-be];exact q3)) (Xa<|by simpa [Kq]using al.o))
 have ad:Hs (∀u,u<n->0<=Kq (λ_=>-1) (Ko x n<|XT l m 0) u):=Xa λu hu=>UP _ _<|aZ (O.3 u hu);let⟨j,T⟩:∃j,j=Kq (λ_=>-1) (Ko x n<|XT l m 0):=⟨_,rfl⟩;simp only[<-T]at K ad;have a6:=Xa T;clear T;clear al bo;refine K.mono ?_;rintro f E⟨rfl,U,z⟩;have a5:=Xa z;have v:=Xa U;have b0:=z.3.cell (i:=0) vY;have b1:=z.3.cell (i:=1) vY;have b2:=z.3.cell (i:=2) vY;simp only[OX]at b0 b1 b2;have y:Hs (E.rowIs (w.1.size+1) 43 3 (OX (Hp 0) Hq (Hp 0))):=Xa ⟨_,(U.5 _ oM λh=>by obtain h|h|h:=h<;>omega).trans ba,rfl,λi t=>by match i,t with|0,_=>rfl|1,_=>rfl|2,_=>rfl⟩;clear z U K p0 p1;have b3:=y.cell (i:=0) vY;have b4:=y.cell (i:=1) vY;have b5:=y.cell (i:=2) vY;have lz:=y.frozen;have bn:∀(W:Ub)(i I:Nat)(u:Uj),i≠I->(W.setCell (Hk (w.1.size+1) i) u).cell? (Hk (w.1.size+1) I)=W.cell? (Hk (w.1.size+1) I):=λW i I u h=>cJ λf=>h<|fI Addr.off f;go_wp2_with fail
 clear b3 b4 b5 lz bn b0 b1 b2;have L:Hs ((((E.setCell (Hk (w.1.size+1) 0) (Hp 0)).setCell (Hk (w.1.size+1) 1) (Hl go n n)).setCell (Hk (w.1.size+1) 2) (Hp<|NE j n)).rowIs (w.1.size+1) 43 3 (OX (Hp 0) (Hl go n n) (Hp<|NE j n))):=Xa<|(((y.set 0 _).set 1 _).set 2 _).congr (λi t=>by match i,t with|0,_=>rfl|1,_=>rfl|2,_=>rfl)
 have bd:Below w.1.size w E:=⟨v.1.trans e.1,v.2.trans e.2,v.3.trans e.3,aJ e.4 v.4,λq' bm=>(v.5 q' (oN e.4) λh=>by obtain h|h|h:=h<;>omega).trans (e.5 q' bm)⟩;have A:(λd:Ub=>Hs (Below w.1.size w d)/\Hs (HK d go n n j)) (((E.setCell (Hk (w.1.size+1) 0) (Hp 0)).setCell (Hk (w.1.size+1) 1) (Hl go n n)).setCell (Hk (w.1.size+1) 2) (Hp<|NE j n)):=⟨Xa<|((bd.setCell gX _).setCell gX _).setCell gX _,(Xa ((((a5.o.o.setOther (by show go≠w.1.size+1;omega) _).setOther (by show go≠w.1.size+1;omega) _).setOther (by show go≠w.1.size+1;omega) _).congr (λu hu=>by
  have:=ad u hu;rw[aM oM])))⟩
 generalize (((E.setCell _ _).setCell _ _).setCell _ _)=w9 at*;let⟨a4,a9⟩:=A;have r0:=L.cell (i:=0) vY;have r1:=L.cell (i:=1) vY;have r2:=L.cell (i:=2) vY;simp only[OX]at r0 r1 r2;refine cC (v:=.agg #[Hp 0,Hl go n n,Hp<|NE j n]) (by simp[results,results20,go_sem,r0,r1,r2]) rfl ?_;rw[<-a6.o];exact⟨go,rfl,a4,oM,a9⟩
end Go.Proofs.YtcfdhbigppockaaGreatDoor
