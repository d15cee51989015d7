import Derived.Test.YtcncjgijikoapaaGreatDoorDG6
import Derived.Test.YtcncjgijikoapaaGreatDoorDG7
import Derived.Test.YtcncjgijikoapaaGreatDoorML1
namespace Go.Proofs.YtcncjgijikoapaaGreatDoor
set_option maxHeartbeats 4000000
set_option maxRecDepth 100000
open _root_ renaming Array.size->Z,List.length->J,Nat->N,Int->I,rfl->R,Option.some->S,Option.none->U,Bool.true->So,Bool.false->Sn,List.range->Rg,Decidable.decide->Jd,trivial->JV,absurd->Sz
open Go renaming World.cell?->E,World.alloc->D,World.setCell->Se,World.ownsRow->Sx,RowKit.Below->Sw,IntKind.i64->S6,Obj.cells->Sc,undef->Su,RowKit.intOf->JB
open Value renaming slice->X,bool->Sb,int->Si,agg->Sa
open Go.RowKit Go.Proofs.Tryz
variable{r:Bool}{t:I}{n m k B g i j c:N}{w:Ub}{a A_:Uj}{s:Wa}{l L:Wc}{x:Wi}{f F:Wk}{y Y_:Wo}{E_:Zh}
section
def Ak(v1 v2:Uj)(k:N):Prop:=v1.ownBlock=S k\/v2.ownBlock=S k
def Pi(wr:Ub)(d F:N)(U_:Vu)(Pr:Tj)(l:Vv):Prop:=∀i,i<d->∃b a c e,U_ i=X c (J (Pr i)) e/\F<b/\a<=Z wr.1/\Xf wr b a c (Pr i)/\∀k,l k->¬(b<=k/\k<a)
theorem Pi.keep{wr wr' b F U_ Pr x a}(h:Pi wr b F U_ Pr x)(s:Z wr.1<=Z wr'.1)(m:∀k,k<Z wr.1->F<k->¬x k->wr'.1[k]?=wr.1[k]?)(l:∀k,a k->x k\/Z wr.1<=k):Pi wr' b F U_ Pr a:=λt n=>by
 let⟨w,o,d,e,f,g,i,j,c⟩:=h t n;refine⟨w,o,d,e,f,g,aJ i s,j.keepS λk u v=>m k O O λq=>c k q ⟨u,v⟩,λk p q=>?_⟩;obtain r|r:=l k p;·exact c k r q
 omega
structure Oa(w1 w2 wr:Ub)(U_ V:Vu)(Pr:Tj)(bp b1:N)(p1:Uy)(c1 b2:N)(p2:Uy)(c2:N):Prop where
 fl:OE w1 wr (Z w1.1) (X U 0 0) (X U 0 0) U_ V b1 p1 c1 b2 p2 c2
 pr:Pi wr bp (Z w1.1) U_ Pr (Ak (X p1 b1 c1) (X p2 b2 c2))
 sa:YA (Z w1.1+1) (Z w2.1) w2 wr
 hk:∀k,Ak (X p1 b1 c1) (X p2 b2 c2) k->Z w2.1<=k
 sz:Z w2.1<=Z wr.1
section
variable {w1 w2 wr wr': Ub} {U_ V: N -> Uj} {Pr: N -> Wc} {bp b1: N} {p1: Uy} {c1 b2: N} {p2: Uy} {c2: N}
theorem OE.ak{b c F}(h:OE w1 wr F b c U_ V b1 p1 c1 b2 p2 c2){k}(a:Ak (X p1 b1 c1) (X p2 b2 c2) k):F<k/\k<Z wr.1:=by
 obtain e|e:=a;·have:=h.9.lt k e;omega
 have:=h.o2.lt k e;omega
theorem Oa.below(h:Oa w1 w2 wr U_ V Pr bp b1 p1 c1 b2 p2 c2)(k:Sw (Z wr.1) wr wr'):Oa w1 w2 wr' U_ V Pr bp b1 p1 c1 b2 p2 c2:=by have:=h.5;exact⟨h.1.below k,h.2.keep k.4 (λq a _ _=>k.5 q a) λ_ b=>bC b,λq q1 q2=>G (k.5 q O) (h.3 q q1 q2),h.4,aJ h.5 k.4⟩
theorem OE.congrU{b c d F}{a:Vu}(h:OE b wr F c d U_ V b1 p1 c1 b2 p2 c2)(e:∀i,i<b1->a i=U_ i):OE b wr F c d a V b1 p1 c1 b2 p2 c2:=by refine⟨h.1,h.2,h.3,h.4,h.5,h.6,h.7,h.8,?_,h.o2,h.dj⟩;have:(Rg b1).map a=(Rg b1).map U_:=gH λi f=>e i<|bE.1 f;rw[this];exact h.9
theorem Oa.newU{u:Uj}{b:Uy}{uc}(h:Oa w1 w2 wr U_ V Pr b1 b1 p1 c1 b2 p2 c2)(k:Sw (Z wr.1) wr wr')(m:u=X b (J (Pr b1)) uc)(c:Xf wr' (Z wr.1) (Z wr'.1) b (Pr b1)):Oa w1 w2 wr' (λi=>if i=b1 then u else U_ i) V Pr (b1+1) b1 p1 c1 b2 p2 c2:=by
 have a:=h.below k;have l:=h.1.7;refine⟨a.1.congrU λi c=>aM O,λi o=>?_,a.3,a.4,a.5⟩;by_cases e:i=b1
 .subst e;refine⟨Z wr.1,Z wr'.1,b,uc,(aU R)▸m,l,aA,c,λk j q=>?_⟩;have:=(h.1.ak j).2;omega
 let⟨n,g,d,f,q1,q2⟩:=a.2 i O;exact⟨n,g,d,f,(aM e)▸q1,q2⟩
theorem zMA00{p: Prop}(h: p := by
  refine⟨⟨m,h.2.keep SF j g,λq q1 q2=>(j q O O λe=>by have:=h.4 q e;omega).trans (h.3 q q1 q2),λk f=>?_,SF⟩,n,o,p⟩;obtain e|e:=g k f;·exact h.4 k e
  omega): p := h
theorem Oa.app1{c:Ub}{l}{b:Uy}{a}(h:Oa w1 w2 wr U_ V Pr bp b1 p1 c1 b2 p2 c2)(d:(D wr l).grownBy c (X p1 b1 c1).ownBlock)(r:Sx c (Z w1.1+1) 61 1 (X b (b1+1) a) (b1+1) ((Rg b1).map U_++[U_ b1]))(i:(X b (b1+1) a).ownBlock=(X p1 b1 c1).ownBlock\/(X b (b1+1) a).ownBlock=S (Z wr.1+1)):
 Oa w1 w2 (Se c ⟨Z w1.1,0,U⟩ (X b (b1+1) a)) U_ V Pr bp (b1+1) b a b2 p2 c2/\(∀q,E c ⟨Z w1.1,q,U⟩=E wr ⟨Z w1.1,q,U⟩)/\(∀q,c.frozen? ⟨Z w1.1,q,U⟩=Sn)/\Sw (Z w1.1) wr c:=by
 let⟨m,n,o,p⟩:=h.1.app1 d r i;have u:=h.5;have t:=d.4;have s:Z (D wr l).1=Z wr.1+1:=aO _ _;have j:∀k,k<Z wr.1->Z w1.1<k->¬Ak (X p1 b1 c1) (X p2 b2 c2) k->(Se c (A (Z w1.1) 0) (X b (b1+1) a)).1[k]?=wr.1[k]?:=λk q1 q2 q3=>G (cY<|by dsimp only;omega) (G (d.5 k O λe=>q3<|bC e.symm) (gF _ _ _ q1))
 have g:∀k,Ak (X b (b1+1) a) (X p2 b2 c2) k->Ak (X p1 b1 c1) (X p2 b2 c2) k\/Z wr.1<=k:=λk f=>by
  obtain e|e:=f
  .rcases i with q|q;·exact bC<|bC (q▸e)
   rw[q]at e;have:=gQ e;omega
  exact bC<|aZ e
 exact zMA00
theorem Oa.app2{c:Ub}{l}{b:Uy}{a}(h:Oa w1 w2 wr U_ V Pr bp b1 p1 c1 b2 p2 c2)(d:(D wr l).grownBy c (X p2 b2 c2).ownBlock)(r:Sx c (Z w1.1+1) 4 1 (X b (b2+1) a) (b2+1) ((Rg b2).map V++[V b2]))(i:(X b (b2+1) a).ownBlock=(X p2 b2 c2).ownBlock\/(X b (b2+1) a).ownBlock=S (Z wr.1+1)):
 Oa w1 w2 (Se c ⟨Z w1.1,1,U⟩ (X b (b2+1) a)) U_ V Pr bp b1 p1 c1 (b2+1) b a/\(∀q,E c ⟨Z w1.1,q,U⟩=E wr ⟨Z w1.1,q,U⟩)/\(∀q,c.frozen? ⟨Z w1.1,q,U⟩=Sn)/\Sw (Z w1.1) wr c:=by
 let⟨m,n,o,p⟩:=h.1.app2 d r i;have u:=h.5;have t:=d.4;have s:Z (D wr l).1=Z wr.1+1:=aO _ _;have j:∀k,k<Z wr.1->Z w1.1<k->¬Ak (X p1 b1 c1) (X p2 b2 c2) k->(Se c (A (Z w1.1) 1) (X b (b2+1) a)).1[k]?=wr.1[k]?:=λk q1 q2 q3=>G (cY<|by dsimp only;omega) (G (d.5 k O λe=>q3<|aZ e.symm) (gF _ _ _ q1))
 have g:∀k,Ak (X p1 b1 c1) (X b (b2+1) a) k->Ak (X p1 b1 c1) (X p2 b2 c2) k\/Z wr.1<=k:=λk f=>by
  obtain e|e:=f;·exact bC<|bC e
  obtain q|q:=i;·exact bC<|aZ (q▸e)
  rw[q]at e;have:=gQ e;omega
 exact zMA00
end
def ML(w:Ub)(L B:N)(c:Uy)(a:List Bool):Prop :=
 ∀i (h:i<J a),∃b o,c=S ⟨b,o,U⟩/\(L<=b/\b<B)/\E w ⟨b,o+i,U⟩=S (Sb a[i])
structure MX(w:Ub)(L B:N)(Pr:Tm)(Rc:List Bool)(P Od:Wc)(a1 a2 a3 a4:Uy):Prop where
 p:XR w L B a1 Pr
 r:ML w L B a2 Rc
 i:Xf w L B a3 P
 o:Xf w L B a4 Od
def Pq(a:Wi):Tm:=(Rg (J a)).map λi:N=>AQ a 0 (i:I)
def Pe(a:Wi):List Bool:=(Rg (J a)).map λz=>Xh (Zp a).1 z
theorem UF.ex{a}(h:UF a):∀b,b<J a->(∃d,O6 (X8 a) d b)\/∀c,JO (X8 a) c b->c=b:=λb e=>by
 classical
 have f:∀b,b<J a->∀x,x<J a->(Xh (E2 (λ_=>0) ((Rg (J a)).filter λx=>Jd (Av (X8 a) x b))) x=So↔Av (X8 a) x b):=λb _ x g=>by rw[YR,Z3,jU,bD,fG,bE,bD];exact⟨λq=>q.2,λq=>⟨g,q⟩⟩
 have:=UR h.top.2.2.1 h.top.1 h.re h.top.2.2.2 (Ws:=λb=>E2 (λ_=>0) ((Rg (J a)).filter λx=>Jd (Av (X8 a) x b))) f;obtain⟨d,ha,_⟩|⟨q,_⟩:=this.2 b e;·exact bC ⟨d,ha⟩
 exact aZ q
theorem UF.model{a}(h:UF a):YX (X8 a) (J a) ((Rg (J a)).map (L0<|(Rg (J a)).map (Zq (X8 a) (J a)))):=Wf h.re h.ex
end
section
variable {w w': Ub} {lab lab': N -> N×N×N} {base: N} {ok: N -> Prop}
theorem Xv.nil{L:N×N×N}{t c n:N}{a:Wo}(h:Xv w lab L base t c Hq n a):Xv w' lab' L base t c Hq n a :=
 ⟨Zl h.1 (λb e=>by cases e),λb e=>by cases e⟩
theorem XW.grown{a:N}(g:w.grownBy w' (S a))(i:a<base):XW w w' lab lab base (λ_=>True) :=
 ⟨g.4,λb f c _=>⟨g.5 b c λe=>by injection e;omega,R⟩,λh b d=>h b<|aJ g.4 d⟩
theorem XW.box(o:Obj):XW w (D w o) lab lab base (λ_=>True) :=
 ⟨(bW w o U).4,λb _ a _=>⟨(bW w o U).5 b a sP,R⟩,λh b c=>h b<|aJ (bW w o U).4 c⟩
theorem XW.trans{j:Ub}{g:N->N×N×N}{i:Vv}(h:XW w w' lab lab' base ok)(k:XW w' j lab' g base i):XW w j lab g base (λb=>ok b/\i b) :=
 ⟨aJ h.1 k.1,λb d e f=>by have a:=h.2 b d e f.1;have c:=k.2 b d (aX e h.1) f.2;exact⟨G c.1 a.1,G c.2 a.2⟩,λm b l=>k.3 (h.3 m) b l⟩
theorem XW.weak{a:Vv}(h:XW w w' lab lab' base ok)(k:∀b,a b->ok b):XW w w' lab lab' base a:=⟨h.1,λb c d e=>h.2 b c d<|k b e,h.3⟩
theorem xW.sp{v:Uj}{m:Wi}{l g:Vu}{av:N->Vu}(h:xW w lab base v m l g av)(k:XW w w' lab lab' base ok)(i:N)(d:∀b,(lab b).1≠0->(lab b).1<5->lab b≠(2,i,0)->lab b≠(3,i,0)->ok b)(c:(∀b,lab b=(2,i,0)\/lab b=(3,i,0)->ok b)\/(l i=X U 0 0/\g i=X U 0 0)):xW w' lab' base v m l g av:=by
 refine⟨h.1.sp k λb e=>d b (by rw[e];simp) (by rw[e];simp) (by rw[e];simp) (by rw[e];simp),λj a=>?_,λj a=>?_,λj a q n=>(h.4 j a q n).sp k λb e=>d b (by rw[e];simp) (by rw[e];simp) (by rw[e];simp) (by rw[e];simp)⟩
 .by_cases e:j=i
  .subst e;obtain c|⟨f,_⟩:=c;·exact(h.2 j a).sp k λb e=>c b<|bC e
   have:=h.2 j a;rw[f]at this |-;exact this.nil
  exact(h.2 j a).sp k λb e2=>d b (by rw[e2];simp) (by rw[e2];simp) (by rw[e2];simp;exact e) (by rw[e2];simp)
 by_cases e:j=i
 .subst e;obtain c|⟨_,f⟩:=c;·exact(h.3 j a).sp k λb e=>c b<|aZ e
  have:=h.3 j a;rw[f]at this |-;exact this.nil
 exact(h.3 j a).sp k λb e2=>d b (by rw[e2];simp) (by rw[e2];simp) (by rw[e2];simp) (by rw[e2];simp;exact e)
theorem xW.lay{g s c i:N}{a:Wi}{l k:Vu}{av:N->Vu}(n:xW w lab base (X (S ⟨g,0,U⟩) s c) a l k av)(C:i<J a)(x:Xe)(p q:Uj)(ax:Vu)(z:Xv w lab (2,i,0) base 152 2 p (J x.1) (jw ax x.1))(K:Xv w lab (3,i,0) base 64 5 q (J x.2) (Lk x.2))(ha:∀j (f:j<J x.1),Xv w lab (4,i,j) base 2 1 (ax j) (J x.1[j].2) (hC x.1[j].2)):
 xW (Se (Se (Se (Se (Se (Se w ⟨g,i*6,U⟩ p) ⟨g,i*6+1,U⟩ q) ⟨g,i*6+2,U⟩ (Si S6 x.3.1)) ⟨g,i*6+3,U⟩ (Si S6 x.3.a)) ⟨g,i*6+4,U⟩ (Si S6 x.3.3)) ⟨g,i*6+5,U⟩ (Si S6 x.3.4)) lab base (X (S ⟨g,0,U⟩) s c) (a.set i x) (λj=>if j=i then p else l j) (λj=>if j=i then q else k j) (λj=>if j=i then ax else av j):=by
 have y:J a=s:=by
  obtain⟨e,_⟩|⟨_,_,_,e,_⟩:=n.1.1.2;·cases e
  cases e;rfl
 subst y;have u:=n.1.blk.2;have o:XW w (Se (Se (Se (Se (Se (Se w (A g (i*6)) p) (A g (i*6+1)) q) (A g (i*6+2)) (H x.3.1)) (A g (i*6+3)) (H x.3.a)) (A g (i*6+4)) (H x.3.3)) (A g (i*6+5)) (H x.3.4)) lab lab base (λb=>b≠g) :=
  ((((((XW.put g _ _).trans (XW.put g _ _)).trans (XW.put g _ _)).trans (XW.put g _ _)).trans (XW.put g _ _)).trans (XW.put g _ _)).weak λb d=>⟨⟨⟨⟨⟨d,d⟩,d⟩,d⟩,d⟩,d⟩
 have ng:∀b,lab b≠(1,0,0)->b≠g:=λb d e=>d (by rw[e];exact u);refine⟨?_,λj f=>?_,λj f=>?_,λj f m h=>?_⟩
 .have d:=(((((n.1.set (i*6) p).set (i*6+1) q).set (i*6+2) (H x.3.1)).set (i*6+3) (H x.3.a)).set (i*6+4) (H x.3.3)).set (i*6+5) (H x.3.4)
  have e:jx (λj=>if j=i then p else l j) (λj=>if j=i then q else k j) (a.set i x)=((((((jx l k a).set (i*6) p).set (i*6+1) q).set (i*6+2) (H x.3.1)).set (i*6+3) (H x.3.a)).set (i*6+4) (H x.3.3)).set (i*6+5) (H x.3.4):=by
   refine iG λr=>?_;have v:J (jx l k a)=J a*6:=Zn (sz:=6) (λ_ _=>R) _ _;have L:J (jx (λj=>if j=i then p else l j) (λj=>if j=i then q else k j) (a.set i x))=J a*6:=G (Zn (sz:=6) (λ_ _=>R) 0 (a.set i x)) sP;by_cases F:r<J a*6
   .have f:r/6<J a:=O;have M:r/6<J (a.set i x):=by simpa using f
    have t:r=r/6*6+r%6:=O;have h:r%6<6:=dS _ vY;generalize r/6=j at*;generalize r%6=m at*;subst t;have B:(jx (λj=>if j=i then p else l j) (λj=>if j=i then q else k j) (a.set i x))[j*6+m]?=(L7 (if j=i then p else l j) (if j=i then q else k j) (a.set i x)[j].3)[m]?:=by unfold jx;rw[Xz (sz:=6) (λ_ _=>R) 0 (a.set i x) j (by simpa using f) m h,aV]
    rw[B];by_cases e:j=i
    .subst e;rw[aU R,aU R,cQ];simp only[kG,v]
     match m,h with
     |0,_=>simp[L7];omega
     |1,_=>simp[L7];omega
     |2,_=>simp[L7];omega
     |3,_=>simp[L7];omega
     |4,_=>simp[L7];omega
     |5,_=>simp[L7];omega
    rw[aM e,aM e,bI λe2=>e e2.symm];rw[dZ O,dZ O,dZ O,dZ O,dZ O,dZ O];unfold jx;rw[Xz (sz:=6) (λ_ _=>R) 0 a j f m h,aV]
   rw[dK O,dK<|by simp only[bL];omega]
  rw[e,bL];exact d
 .by_cases e:j=i
  .subst e;simp only[aU,cQ];exact z.sp o λb e=>ng b<|by rw[e];simp
  simp only[aM e,bI λe2=>e e2.symm];exact(n.2 j<|by simpa using f).sp o λb e=>ng b<|by rw[e];simp
 .by_cases e:j=i
  .subst e;simp only[aU,cQ];exact K.sp o λb e=>ng b<|by rw[e];simp
  simp only[aM e,bI λe2=>e e2.symm];exact(n.3 j<|by simpa using f).sp o λb e=>ng b<|by rw[e];simp
 by_cases e:j=i
 .subst e;simp only[cQ]at h |-;simp only[aU];exact(ha m h).sp o λb e=>ng b<|by rw[e];simp
 simp only[bI λe2=>e e2.symm]at h |-;simp only[aM e];exact(n.4 j (by simpa using f) m h).sp o λb e=>ng b<|by rw[e];simp
end
def Ls(a:N)(s:cB):N×cB :=
 if 1<a then ((iw s 4).1.toNat,(iw s 4).2)else if a=1 then (if (iw s 6).1=0 then 1 else 0,(iw s 6).2)else (0,s)
theorem yY(a:N)(s:cB):(Ls a s).1<=3:=by
 unfold Ls;split
 .have:=kr s (n:=4) O;show(iw s 4).1.toNat<=3;omega
 split
 .show(if (iw s 6).1=0 then 1 else 0)<=3;split<;>omega
 exact aN
theorem FT{s:cB}(h:Rd s)(a:N):Rd (Ls a s).2:=by
 unfold Ls;split;·exact nj h
 split;·exact nj h
 exact h
def Rk(k v:N):Za:=(Rg k).map λj=>⟨((v+j:N):I),[]⟩
def xL(k v:N):Wc:=(Rg k).map λj=>((v+j:N):I)
theorem S4:Rk (n+1) m=Rk n m++[⟨((m+n:N):I),[]⟩]:=by unfold Rk;rw[dN];simp
theorem YP:xL (n+1) m=xL n m++[((m+n:N):I)]:=by unfold xL;rw[dN];simp
theorem vX:J (Rk n m)=n:=by simp[Rk]
theorem xS(k v:N):J (xL k v)=k:=by simp[xL]
def L4(a:Bool):N->cB->List I->N->List Yg->List Yg×List I×N×cB
 |0,s,vs,v,acc=>(acc,vs,v,s)
 |k+1,s,vs,v,acc=>
  if dB (RJ s vs v a).1.1=So then L4 a k (RJ s vs v a).2 (vs++[(v:I)]) (v+1) (acc++[(RJ s vs v a).1])
  else L4 a k (RJ s vs v a).2 vs v (acc++[(RJ s vs v a).1])
structure Qx where
 cnt:N
 ins:Vr
 vs:Wc
 v:N
 s:cB
def jy(i v:N)(a:Wc)(s:cB):Qx :=
 if i=0 then ⟨(iw s<|3+s.4).1.toNat+1,[⟨2,v,0,0,(iw (iw s<|3+s.4).2 3).1⟩],a++[(v:I)],v+1,(iw (iw s<|3+s.4).2 3).2⟩
 else ⟨(iw s<|3+s.4).1.toNat,[],a,v,(iw s<|3+s.4).2⟩
def pV(a:Bool)(t:Yj)(b:Wc)(s:cB):Yj×cB:=if t.1=1 then (t,s)else (⟨t.1,(Mi s b a).1,t.3,t.4⟩,(Mi s b a).2)
structure Qr where
 blk:Xe
 vs:Wc
 v:N
 s:cB
def oJ(a:Bool)(i b:N)(t:Yj)(c:Wc)(v:N)(s:cB):Qr :=
 let p:=Ls b s;let h:=jy i (v+p.1) (c++xL p.1 v) p.2;let r:=L4 a h.1 h.s h.3 h.v h.2;let e:=pV a t r.2.1 r.2.2.2
 ⟨⟨Rk p.1 v,r.1,e.1⟩,r.2.1,r.2.2.1,e.2⟩
structure SV where
 xs:Wi
 ends:Tm
 v:N
 s:cB
def ip:Xe:=⟨[],[],⟨0,0,0,0⟩⟩
def Rw(b:Bool)(a:List I):N->N->SV->SV
 |0,_,g=>g
 |k+1,i,g=>
  let r:=oJ b i (J (AQ g.1 0 (i:I))) (g.1.getD i ip).3 (if i=0 then []else g.2.getD (a.getD i 0).toNat []) g.v g.s
  Rw b a k (i+1) ⟨g.1.set i r.1,g.2++[r.2],r.v,r.s⟩
def RV(a:List (List I)):List I->cB->List I->List I×cB
 |[],s,acc=>(acc,s)
 |p::ps,s,acc=>RV a ps (Mi (iw s 3).2 (a.getD p.toNat []) ((iw s 3).1 != 0)).2 (acc++[(Mi (iw s 3).2 (a.getD p.toNat []) ((iw s 3).1 != 0)).1])
def Rl:Ph:=⟨0,[]⟩
def Rx(a:List (List I))(preds:List I):N->N->List Ph->cB->List Ph×cB
 |0,_,ps,s=>(ps,s)
 |k+1,j,ps,s=>Rx a preds k (j+1) (ps.set j ⟨(ps.getD j Rl).1,(RV a preds s (ps.getD j Rl).2).1⟩) (RV a preds s (ps.getD j Rl).2).2
def Nl(a:List (List I)):N->N->List Xe->cB->List Xe×cB
 |0,_,xs,s=>(xs,s)
 |k+1,i,xs,s=>
  let r:=Rx a (AQ xs 0 (i:I)) (J (xs.getD i ip).1) 0 (xs.getD i ip).1 s
  Nl a k (i+1) (xs.set i ⟨r.1,(xs.getD i ip).2,(xs.getD i ip).3⟩) r.2
theorem Bd{c:Bool}:∀(k:N)(s:cB)(b:Wc)(v:N)(a:Vr),Rd s->Rd (L4 c k s b v a).2.2.2
 |0,_,_,_,_,h=>h
 |k+1,s,b,v,a,h=>by
  rw[L4];split;·exact Bd k _ _ _ _<|JS h
  exact Bd k _ _ _ _<|JS h
theorem zF{near:Bool}:∀(k:N)(s:cB)(a:Wc)(v:N)(b:Vr),v<=(L4 near k s a v b).2.2.1/\(L4 near k s a v b).2.2.1<=v+k/\J (L4 near k s a v b).2.1<=J a+k/\J (L4 near k s a v b).1=J b+k
 |0,_,_,_,_=>⟨aA,aA,aA,R⟩
 |k+1,s,a,v,b=>by
  rw[L4];split
  .have:=zF (near:=near) k (RJ s a v near).2 (a++[(v:I)]) (v+1) (b++[(RJ s a v near).1]);simp only[aQ,bA,bO]at this;omega
  have:=zF (near:=near) k (RJ s a v near).2 a v (b++[(RJ s a v near).1]);simp only[aQ,bA,bO]at this;omega
theorem IM(i v:N)(a:Wc){s:cB}(h:Rd s):(jy i v a s).1<=10/\v<=(jy i v a s).v/\(jy i v a s).v<=v+1/\J (jy i v a s).3<=J a+1/\J (jy i v a s).2<=1:=by
 have b:=h.4;have c:=kr s (n:=3+s.4) O;unfold jy;split
 .refine⟨?_,@gX v,aA,?_,aA⟩
  .show(iw s<|3+s.4).1.toNat+1<=10;omega
  show J (a++[(v:I)])<=J a+1;simp
 refine⟨?_,aA,@gX v,gX,aN⟩;show(iw s<|3+s.4).1.toNat<=10;omega
theorem MZ{s:cB}(h:Rd s):Rd (jy n m l s).s:=by
 unfold jy;split;·exact nj<|nj h
 exact nj h
theorem MQ{t:Yj}{s:cB}(h:Rd s):Rd (pV r t l s).2:=by
 unfold pV;split;·exact h
 exact AA h
theorem VK{t:Yj}{s:cB}(h:Rd s):Rd (oJ r n m t l k s).s:=MQ<|Bd _ _ _ _ _ (MZ<|FT h _)
theorem Mr{near:Bool}{np:N}{t:Yj}{vs0:Wc}{v:N}{s:cB}(h:Rd s):v<=(oJ near i np t vs0 v s).v/\(oJ near i np t vs0 v s).v<=v+14/\J (oJ near i np t vs0 v s).2<=J vs0+14/\J (oJ near i np t vs0 v s).1.2<=11/\J (oJ near i np t vs0 v s).1.1<=3:=by
 have a:=yY np s;have b:=IM i (v+(Ls np s).1) (vs0++xL (Ls np s).1 v) (FT h np);have c:=zF (near:=near) (jy i (v+(Ls np s).1) (vs0++xL (Ls np s).1 v) (Ls np s).2).1 (jy i (v+(Ls np s).1) (vs0++xL (Ls np s).1 v) (Ls np s).2).s (jy i (v+(Ls np s).1) (vs0++xL (Ls np s).1 v) (Ls np s).2).3 (jy i (v+(Ls np s).1) (vs0++xL (Ls np s).1 v) (Ls np s).2).v (jy i (v+(Ls np s).1) (vs0++xL (Ls np s).1 v) (Ls np s).2).2;rw[aQ,xS]at b;refine⟨?_,?_,?_,?_,?_⟩
 .show v<=(L4 near _ _ _ _ _).2.2.1;omega
 .show(L4 near _ _ _ _ _).2.2.1<=v+14;omega
 .show J (L4 near _ _ _ _ _).2.1<=J vs0+14;omega
 .show J (L4 near _ _ _ _ _).1<=11;omega
 show J (Rk (Ls np s).1 v)<=3;rw[vX];exact a
section
structure CK(w wr:Ub)(lab:N->N×N×N)(sb B:N)(s:cB)(fb vals G_ c:N)(xs:Wi)(pv iv:Vu)(av:N->Vu)(ve:Uj)(ev:Vu)(ends:Tm)(ii:Uj)(ids:Wc):Prop where
 dr:i9 wr sb B s
 gr:w.grownBy wr (S sb)
 bw:B<=Z w.1
 res:Bx wr (Z w.1) #[Si S6 0,X U 0 0] 25
 resl:lab (Z w.1)=(0,0,0)
 fbx:Bx wr fb #[Si S6 vals,X (S ⟨G_,0,U⟩) (J xs) c] 25
 fbl:lab fb=(0,0,0)
 fbb:Z w.1<fb
 fn:xW wr lab (Z w.1) (X (S ⟨G_,0,U⟩) (J xs) c) xs pv iv av
 es:Xv wr lab (6,0,0) (Z w.1) 61 1 ve (J ends) (Yu (λi _=>[ev i]) 0 ends)
 evs:∀i (h:i<J ends),Xv wr lab (5,i,0) (Z w.1) 2 1 (ev i) (J ends[i]) (hC ends[i])
 id:Xv wr lab (7,0,0) (Z w.1) 2 1 ii (J ids) (hC ids)
 fr:∀b,Z wr.1<=b->lab b=(0,0,0)
 nil_:∀j,J ends<=j->pv j=X U 0 0/\iv j=X U 0 0
structure zw(wr:Ub)(lab:N->N×N×N)(base i xb:N)(p q:Uj)(t:Yj)(ps:Za)(is:Vr)(i8:Uj)(vs:Wc):Prop where
 bx:Bx wr xb #[p,q,Si S6 t.1,Si S6 t.a,Si S6 t.3,Si S6 t.4] 52
 bl:lab xb=(0,0,0)
 bb:base<xb
 xp:Xv wr lab (2,i,0) base 152 2 p (J ps) (jw LQ ps)
 xi:Xv wr lab (3,i,0) base 64 5 q (J is) (Lk is)
 xv:Xv wr lab (5,i,0) base 2 1 i8 (J vs) (hC vs)
variable {w wr w': Ub} {lab lab': N -> N×N×N} {ok: N -> Prop} {sb B: N} {s s': cB} {fb vals G_ c: N} {xs: Wi} {pv iv: N -> Uj} {av: N -> N -> Uj} {ve: Uj} {ev: N -> Uj} {ends: Tm} {ii: Uj} {ids: Wc}
theorem CK.sp(h:CK w wr lab sb B s fb vals G_ c xs pv iv av ve ev ends ii ids)(k:XW wr w' lab lab' (Z w.1) ok)(f:ok (Z w.1))(hF:ok fb)(a:∀b,(lab b).1≠0->lab b≠(2,J ends,0)->lab b≠(3,J ends,0)->lab b≠(5,J ends,0)->ok b)(g:i9 w' sb B s')(i:w.grownBy w' (S sb)):CK w w' lab' sb B s' fb vals G_ c xs pv iv av ve ev ends ii ids:=by
 refine⟨g,i,h.3,h.4.sp k aA f,?_,h.6.sp k (dU h.8) hF,?_,h.8,h.9.sp k (J ends) (λb j d l m=>?_) (aZ<|h.14 _ aA),h.es.sp k λb e=>a b (by rw[e];simp) (by rw[e];simp) (by rw[e];simp) (by rw[e];simp),λo n=>(h.11 o n).sp k λb e=>a b (by rw[e];simp) (by rw[e];simp) (by rw[e];simp) (by rw[e];simp;omega),h.id.sp k λb e=>a b (by rw[e];simp) (by rw[e];simp) (by rw[e];simp) (by rw[e];simp),k.3 h.fr,h.14⟩;·exact G (k.2 _ aA h.4.lt f).2 h.5
 .exact G (k.2 _ (dU h.8) h.6.lt hF).2 h.7
 by_cases e:lab b=(5,J ends,0)
 .rw[e]at d;simp at d
 exact a b j l m e
theorem zw.sp{a i xb:N}{p q:Uj}{t:Yj}{ps:Za}{is:Vr}{i8:Uj}{vs:Wc}(h:zw wr lab a i xb p q t ps is i8 vs)(k:XW wr w' lab lab' a ok)(f:ok xb)(d:∀b,(lab b).1≠0->ok b):zw w' lab' a i xb p q t ps is i8 vs :=
 ⟨h.1.sp k (dU h.3) f,G (k.2 _ (dU h.3) h.1.lt f).2 h.2,h.3,h.4.sp k λb e=>d b (by rw[e];simp),h.5.sp k λb e=>d b (by rw[e];simp),h.6.sp k λb e=>d b<|by rw[e];simp⟩
structure MJ(w wr:Ub)(lab:N->N×N×N)(sb B:N)(s:cB)(fb vals G_ c:N)(xs:Wi)(pv iv:Vu)(av:N->Vu)(ve:Uj)(ev:Vu)(ends:Tm)(ii:Uj)(ids:Wc)(xb:N)(p q:Uj)(t:Yj)(ps:Za)(is:Vr)(i8:Uj)(vs:Wc):Prop where
 f:CK w wr lab sb B s fb vals G_ c xs pv iv av ve ev ends ii ids
 x:zw wr lab (Z w.1) (J ends) xb p q t ps is i8 vs
 ne:xb≠fb
variable {xb: N} {p q: Uj} {t: Yj} {ps: Za} {is: Vr} {i8: Uj} {vs: Wc}
theorem CK.lt(h:CK w wr lab sb B s fb vals G_ c xs pv iv av ve ev ends ii ids):sb<Z w.1:=oP h.3 h.1.3
theorem CK.call(h:CK w wr lab sb B s fb vals G_ c xs pv iv av ve ev ends ii ids)(g:wr.grownBy w' (S sb))(d:i9 w' sb B s'):CK w w' lab sb B s' fb vals G_ c xs pv iv av ve ev ends ii ids :=
 h.sp (XW.grown g h.lt) JV JV (λ_ _ _ _ _=>JV) d (R9 h.2 g)
theorem CK.box(h:CK w wr lab sb B s fb vals G_ c xs pv iv av ve ev ends ii ids)(o:Obj):CK w (D wr o) lab sb B s fb vals G_ c xs pv iv av ve ev ends ii ids :=
 h.sp (XW.box o) JV JV (λ_ _ _ _ _=>JV) (h.1.box o) (R9 h.2<|bW _ _ _)
theorem MJ.call(h:MJ w wr lab sb B s fb vals G_ c xs pv iv av ve ev ends ii ids xb p q t ps is i8 vs)(g:wr.grownBy w' (S sb))(d:i9 w' sb B s'):MJ w w' lab sb B s' fb vals G_ c xs pv iv av ve ev ends ii ids xb p q t ps is i8 vs :=
 ⟨h.f.call g d,h.x.sp (XW.grown g h.f.lt) JV λ_ _=>JV,h.3⟩
theorem MJ.box(h:MJ w wr lab sb B s fb vals G_ c xs pv iv av ve ev ends ii ids xb p q t ps is i8 vs)(o:Obj):MJ w (D wr o) lab sb B s fb vals G_ c xs pv iv av ve ev ends ii ids xb p q t ps is i8 vs :=
 ⟨h.f.box o,h.x.sp (XW.box o) JV λ_ _=>JV,h.3⟩
theorem CK.put{g m:N}{u:Uj}(h:CK w wr lab sb B s fb vals G_ c xs pv iv av ve ev ends ii ids)(a:lab g=(0,0,0))(f:Z w.1<g)(hF:g≠fb):CK w (Se wr ⟨g,m,U⟩ u) lab sb B s fb vals G_ c xs pv iv av ve ev ends ii ids :=
 h.sp (XW.put g m u) O (kA hF) (λb d _ _ _ e=>d<|by rw[e,a]) (h.1.put<|oN h.3) (Rv h.2<|dU f)
theorem MJ.val(h:MJ w wr lab sb B s fb vals G_ c xs pv iv av ve ev ends ii ids xb p q t ps is i8 vs)(d:N):MJ w (Se wr ⟨fb,0,U⟩ (Si S6 d)) lab sb B s fb d G_ c xs pv iv av ve ev ends ii ids xb p q t ps is i8 vs:=by have k:XW wr (Se wr (A fb 0) (H d)) lab lab (Z w.1) (λb=>b≠fb):=XW.put _ _ _;have a:∀b,(lab b).1≠0->b≠fb:=λb f e=>f (by rw[e,h.f.7]);have g:=h.f.8;have l:=h.f.3;refine⟨⟨h.f.1.put O,Rv h.f.2 O,h.f.3,h.f.4.other O,h.f.5,?_,h.f.7,g,h.f.9.sp k (J ends) (λb f _ _ _=>a b f) (bC λb e=>a b (by obtain e|e:=e<;>rw[e]<;>simp)),h.f.es.sp k λb e=>a b (by rw[e];simp),λj i=>(h.f.11 j i).sp k λb e=>a b (by rw[e];simp),h.f.id.sp k λb e=>a b (by rw[e];simp),k.3 h.f.fr,h.f.14⟩,h.x.sp k h.3 a,h.3⟩;have:=h.f.6.set 0<|H d;simpa using this
theorem MJ.terA(h:MJ w wr lab sb B s fb vals G_ c xs pv iv av ve ev ends ii ids xb p q t ps is i8 vs)(a:I):MJ w (Se wr ⟨xb,3,U⟩ (Si S6 a)) lab sb B s fb vals G_ c xs pv iv av ve ev ends ii ids xb p q ⟨t.1,a,t.3,t.4⟩ ps is i8 vs:=by have k:XW wr (Se wr (A xb 3) (H a)) lab lab (Z w.1) (λb=>b≠xb):=XW.put _ _ _;have d:∀b,(lab b).1≠0->b≠xb:=λb f e=>f (by rw[e,h.x.2]);refine⟨h.f.put h.x.2 h.x.3 h.3,⟨?_,h.x.2,h.x.3,h.x.4.sp k λb e=>d b (by rw[e];simp),h.x.5.sp k λb e=>d b (by rw[e];simp),h.x.6.sp k λb e=>d b<|by rw[e];simp⟩,h.3⟩;have:=h.x.1.set 3<|H a;simpa using this
theorem Xv.below{a L0 t g n:N}{L:N×N×N}{v:Uj}{b:Wo}(h:Xv wr lab L a t g v n b)(e:wr.grownBy w' v.ownBlock)(d:L0<=a)(f:L0<=Z wr.1):Sw L0 wr w':=Xy Rf e h.1 d f
theorem CK.low(h:CK w wr lab sb B s fb vals G_ c xs pv iv av ve ev ends ii ids)(k:Sw (Z w.1) wr w'):i9 w' sb B s/\w.grownBy w' (S sb) :=
 ⟨h.1.keep<|k.mono h.3,⟨G k.1 h.2.1,G k.2 h.2.2,G k.3 h.2.3,aJ h.2.4 k.4,λb a d=>G (k.5 b a) (h.2.5 b a d)⟩⟩
theorem MJ.pushV{i:N}{d:Uj}{x:I}(h:MJ w wr lab sb B s fb vals G_ c xs pv iv av ve ev ends ii ids xb p q t ps is i8 vs)(g:wr.grownBy w' i8.ownBlock)(n:Sx w' (Z w.1) 2 1 d i (hC vs++[H x]))(m:i=J vs+1)(l:d.ownBlock=i8.ownBlock\/d.ownBlock=S (Z wr.1)):
 ∃lab',MJ w w' lab' sb B s fb vals G_ c xs pv iv av ve ev ends ii ids xb p q t ps is d (vs++[x]):=by
 obtain⟨lab',o,k⟩:=h.x.6.grow g n l h.f.fr;have a:∀b,lab b=(0,0,0)->lab b≠(5,J ends,0):=λb e=>by rw[e];simp
 have f:=h.f.low<|h.x.6.below g aA h.f.2.4;refine⟨lab',⟨h.f.sp k (a _ h.f.5) (a _ h.f.7) (λb _ _ _ j=>j) f.1 f.2,⟨h.x.1.sp k (dU h.x.3) (a _ h.x.2),G (k.2 _ (dU h.x.3) h.x.1.lt (a _ h.x.2)).2 h.x.2,h.x.3,h.x.4.sp k λb e=>by rw[e];simp,h.x.5.sp k λb e=>by rw[e];simp,?_⟩,h.3⟩⟩;subst m;have e:hC (vs++[x])=hC vs++[H x]:=by simp[hC]
 rw[e,aQ];exact o
theorem MJ.pushP{n:N}{a:Uj}{x:I}(h:MJ w wr lab sb B s fb vals G_ c xs pv iv av ve ev ends ii ids xb p q t ps is i8 vs)(l:wr.grownBy w' p.ownBlock)(y:Sx w' (Z w.1) 152 2 a n (jw LQ ps++[Si S6 x,X U 0 0]))(v:n=J ps+1)(u:a.ownBlock=p.ownBlock\/a.ownBlock=S (Z wr.1)):
 Bx w' xb #[p,q,Si S6 t.1,Si S6 t.a,Si S6 t.3,Si S6 t.4] 52/\∃lab',MJ w (Se w' ⟨xb,0,U⟩ a) lab' sb B s fb vals G_ c xs pv iv av ve ev ends ii ids xb a q t (ps++[⟨x,[]⟩]) is i8 vs:=by
 obtain⟨lab',z,d⟩:=h.x.4.grow l y u h.f.fr;have f:∀b,lab b=(0,0,0)->lab b≠(2,J ends,0):=λb e=>by rw[e];simp
 have k:=h.f.low<|h.x.4.below l aA h.f.2.4;have m:=h.x.1.sp d (dU h.x.3) (f _ h.x.2);have g:=G (d.2 _ (dU h.x.3) h.x.1.lt (f _ h.x.2)).2 h.x.2;have i:XW w' (Se w' (A xb 0) a) lab' lab' (Z w.1) (λb=>b≠xb):=XW.put _ _ _;have j:∀b,(lab' b).1≠0->b≠xb:=λb o e=>o (by rw[e,g]);refine⟨m,lab',⟨(h.f.sp d (f _ h.f.5) (f _ h.f.7) (λb _ r _ _=>r) k.1 k.2).put g h.x.3 h.3,⟨?_,g,h.x.3,?_,(h.x.5.sp d λb e=>by rw[e];simp).sp i λb e=>j b (by rw[e];simp),(h.x.6.sp d λb e=>by rw[e];simp).sp i λb e=>j b<|by rw[e];simp⟩,h.3⟩⟩
 .have:=m.set 0 a;simpa using this
 subst v;have e:jw LQ (ps++[⟨x,[]⟩])=jw LQ ps++[H x,Hq]:=by unfold jw;rw[Zo];rfl
 rw[e,aQ];exact z.sp i λb e=>j b<|by rw[e];simp
theorem MJ.pushI{n:N}{a:Uj}{x:Yg}(h:MJ w wr lab sb B s fb vals G_ c xs pv iv av ve ev ends ii ids xb p q t ps is i8 vs)(l:wr.grownBy w' q.ownBlock)(y:Sx w' (Z w.1) 64 5 a n (Lk is++[Si S6 x.1,Si S6 x.2,Si S6 x.a,Si S6 x.b,Si S6 x.5]))(v:n=J is+1)(u:a.ownBlock=q.ownBlock\/a.ownBlock=S (Z wr.1)):
 Bx w' xb #[p,q,Si S6 t.1,Si S6 t.a,Si S6 t.3,Si S6 t.4] 52/\∃lab',MJ w (Se w' ⟨xb,1,U⟩ a) lab' sb B s fb vals G_ c xs pv iv av ve ev ends ii ids xb p a t ps (is++[x]) i8 vs:=by
 obtain⟨lab',z,d⟩:=h.x.5.grow l y u h.f.fr;have f:∀b,lab b=(0,0,0)->lab b≠(3,J ends,0):=λb e=>by rw[e];simp
 have k:=h.f.low<|h.x.5.below l aA h.f.2.4;have m:=h.x.1.sp d (dU h.x.3) (f _ h.x.2);have g:=G (d.2 _ (dU h.x.3) h.x.1.lt (f _ h.x.2)).2 h.x.2;have i:XW w' (Se w' (A xb 1) a) lab' lab' (Z w.1) (λb=>b≠xb):=XW.put _ _ _;have j:∀b,(lab' b).1≠0->b≠xb:=λb o e=>o (by rw[e,g]);refine⟨m,lab',⟨(h.f.sp d (f _ h.f.5) (f _ h.f.7) (λb _ _ r _=>r) k.1 k.2).put g h.x.3 h.3,⟨?_,g,h.x.3,(h.x.4.sp d λb e=>by rw[e];simp).sp i λb e=>j b (by rw[e];simp),?_,(h.x.6.sp d λb e=>by rw[e];simp).sp i λb e=>j b<|by rw[e];simp⟩,h.3⟩⟩
 .have:=m.set 1 a;simpa using this
 subst v;have e:Lk (is++[x])=Lk is++[H x.1,H x.2,H x.a,H x.b,H x.5]:=by unfold Lk;rw[Zo];rfl
 rw[e,aQ];exact z.sp i λb e=>j b<|by rw[e];simp
def SW(w:Ub)(G_ k:N)(p q:Uj)(t:Yj):Ub:=Se (Se (Se (Se (Se (Se w ⟨G_,k,U⟩ p) ⟨G_,k+1,U⟩ q) ⟨G_,k+2,U⟩ (Si S6 t.1)) ⟨G_,k+3,U⟩ (Si S6 t.a)) ⟨G_,k+4,U⟩ (Si S6 t.3)) ⟨G_,k+5,U⟩ (Si S6 t.4)
theorem E3(w:Ub)(lab:N->N×N×N)(d G_ k:N)(p q:Uj)(t:Yj):XW w (SW w G_ k p q t) lab lab d (λb=>b≠G_) :=
 ((((((XW.put G_ _ _).trans (XW.put G_ _ _)).trans (XW.put G_ _ _)).trans (XW.put G_ _ _)).trans (XW.put G_ _ _)).trans (XW.put G_ _ _)).weak λ_ a=>⟨⟨⟨⟨⟨a,a⟩,a⟩,a⟩,a⟩,a⟩
theorem MJ.es9(h:MJ w wr lab sb B s fb vals G_ c xs pv iv av ve ev ends ii ids xb p q t ps is i8 vs):Xv (SW wr G_ (J ends*6) p q t) lab (6,0,0) (Z w.1) 61 1 ve (J ends) (Yu (λi _=>[ev i]) 0 ends)/\(∀b,Z (SW wr G_ (J ends*6) p q t).1<=b->lab b=(0,0,0))/\Z (SW wr G_ (J ends*6) p q t).1=Z wr.1:=by have a:=h.f.9.1.blk.2;have k:=E3 wr lab (Z w.1) G_ (J ends*6) p q t;exact⟨h.f.es.sp k λ_ e e2=>by rw[e2,a]at e;simp at e,k.3 h.f.fr,by simp[SW,World.setCell]⟩
theorem MJ.close{o:Obj}{ve':Uj}{n':N}(h:MJ w wr lab sb B s fb vals G_ c xs pv iv av ve ev ends ii ids xb p q t ps is i8 vs)(y:J ends<J xs)(x:(D (SW wr G_ (J ends*6) p q t) o).grownBy w' ve.ownBlock)(M:Sx w' (Z w.1) 61 1 ve' n' (Yu (λi _=>[ev i]) 0 ends++[i8]))(L:n'=J ends+1)(K:ve'.ownBlock=ve.ownBlock\/ve'.ownBlock=S (Z (D (SW wr G_ (J ends*6) p q t) o).1))(T:∀V∈ps,V.2=[]):
 ∃lab' W P D_ E_,CK w w' lab' sb B s fb vals G_ c (xs.set (J ends) ⟨ps,is,t⟩) W P D_ ve' E_ (ends++[vs]) ii ids:=by
 have J_:=h.f.9.1.blk.2;have d:=h.f.9.1.blk.1.1;have Q_:=E3 wr lab (Z w.1) G_ (J ends*6) p q t;have m:XW wr (D (SW wr G_ (J ends*6) p q t) o) lab lab (Z w.1) (λb=>b≠G_):=(Q_.trans<|XW.box o).weak λb g=>⟨g,JV⟩;have f:∀b,lab b≠(1,0,0)->b≠G_:=λb g e=>g (by rw[e];exact J_);have v:=h.f.es.sp m (λb e=>f b<|by rw[e];simp);obtain⟨lab',O_,F⟩:=v.grow x M K<|m.3 h.f.fr;have a:=m.trans F;have r:Z w.1≠G_/\lab (Z w.1)≠(6,0,0):=⟨f _ (by rw[h.f.5];simp),by rw[h.f.5];simp⟩;have hF:fb≠G_/\lab fb≠(6,0,0):=⟨f _ (by rw[h.f.7];simp),by rw[h.f.7];simp⟩;have l:∀b,lab b≠(1,0,0)->lab b≠(6,0,0)->b≠G_/\lab b≠(6,0,0):=λb e1 e2=>⟨f b e1,e2⟩
 have C:Sw (Z w.1) wr (D (SW wr G_ (J ends*6) p q t) o):=vT ((((((((Rf).setCell d _).setCell d _).setCell d _).setCell d _).setCell d _).setCell d _)) (by have:=h.f.2.4;simpa [SW,World.setCell]using this) o;have low:=C.trans<|v.below x aA (aJ h.f.2.4 C.4);have u:=h.f.low low;have F_:=(h.f.9.lay y ⟨ps,is,t⟩ p q LQ h.x.4 h.x.5 (λj k=>by have:=T ps[j] (aH k);rw[this];exact⟨dA,λb e=>by cases e⟩))
 have H_:=(F_.sp (XW.box (lab:=lab) (base:=Z w.1) o) 0 (λ_ _ _ _ _=>JV) (bC λ_ _=>JV)).sp F 0 (λb T_ n _ _ e=>by rw[e]at n;simp at n) (bC λb e e2=>by rw[e2]at e;simp at e);refine⟨lab',λj=>if j=J ends then p else pv j,λj=>if j=J ends then q else iv j,λj=>if j=J ends then LQ else av j,λj=>if j=J ends then i8 else ev j,⟨u.1,u.2,h.f.3,h.f.4.sp a aA r,G (a.2 _ aA h.f.4.lt r).2 h.f.5,?_,G (a.2 _ (dU h.f.8) h.f.6.lt hF).2 h.f.7,h.f.8,?_,?_,λi K_=>?_,h.f.id.sp a λb e=>l b (by rw[e];simp) (by rw[e];simp),a.3 h.f.fr,λj k=>?_⟩⟩;rotate_left
 .rw[bL];exact H_
 .subst L
  have e:Yu (λi (_:Wc)=>[if i=J ends then i8 else ev i]) 0 (ends++[vs])=Yu (λi _=>[ev i]) 0 ends++[i8]:=by rw[Zo,aV,aU R,x8 (f':=λi _=>[ev i]) 0 ends λi y=>by rw[aV,aM O]]
  rw[e,aQ];exact O_
 .by_cases e:i<J ends
  .rw[fA e,aM O];exact(h.f.11 i e).sp a λb e=>l b (by rw[e];simp) (by rw[e];simp)
  have:i=J ends:=by simp at K_;omega
  subst this;rw[fN aA,aU R];simp only[kL,eM];exact h.x.6.sp a λb e=>l b (by rw[e];simp) (by rw[e];simp)
 .have z:j≠J ends/\J ends<=j:=by simp at k;omega
  simp only[aM z.1];exact h.f.14 j z.2
 rw[bL];exact h.f.6.sp a (dU h.f.8) hF
end
noncomputable def RO(a:Wi):Wc:=(Rg (J a)).map (L0<|(Rg (J a)).map (Zq (X8 a) (J a)))
theorem Ke{t:Yj}(h:r8 n m t):(∀z∈t.tg,0<=z/\z<(n:I))/\t.tg.Nodup/\(m+1<n->((m+1:N):I)∈t.tg):=by
 obtain⟨rfl,h⟩|⟨q,rfl,h1,h2,h3⟩|⟨q,r,rfl,h1,h2,h3,h4,h5,h6,h7⟩:=h;·exact⟨λz a=>by simp[Yj.tg]at a,by simp[Yj.tg],λk=>Sz k h⟩
 .refine⟨λz a=>?_,by simp[Yj.tg],λk=>?_⟩
  .simp[Yj.tg]at a;omega
  rw[h3 k];simp[Yj.tg]
 refine⟨λz a=>?_,?_,λk=>?_⟩
 .simp[Yj.tg]at a;omega
 .simp[Yj.tg];omega
 obtain e|e:=h6<;>subst e<;>simp[Yj.tg]
theorem C3{a:List Yj}(g:J a=n)(i:1<=n)(k:n<=1000)(h:∀j (h:j<J a),r8 n j a[j]):UF (a.map kj):=by
 have e:∀x∈a.map kj,(∀z∈x.3.tg,0<=z/\z<(n:I))/\x.3.tg.Nodup:=λx b=>by obtain⟨t,c,rfl⟩:=aY.1 b;obtain⟨j,f,rfl⟩:=bR c;have:=Ke<|h j f;exact⟨this.1,this.2.1⟩
 have d:J (a.map kj)=n:=by simpa using g
 refine⟨O,O,λx b t c=>?_,λx b=>?_⟩;·rw[d];exact(e x b).1 t c
 rw[d];exact e x b
theorem IK{a:List Yj}(g:J a=n)(k:1<=n)(v:n<=1000)(h:∀j (h:j<J a),r8 n j a[j]){b:N}(y:0<b)(l:b<n):∃c:N,(RO<|a.map kj).getD b 0=(c:I)/\c<b:=by
 have t:J (a.map kj)=n:=by simpa using g
 have ok:=C3 g k v h;have i:∀j,j+1<n->j+1∈X8 (a.map kj) j:=λj d=>by have s:j<J a:=O;rw[Km (by rw[t];omega),cM];have:=(Ke<|h j s).2.2 d;exact aY.2 ⟨_,this,sP⟩
 have x:∀j,j<n->Re (X8<|a.map kj) j:=λj=>by
  induction j with
  |zero=>exact λ_=>Re.root
  |succ j f=>exact λd=>Re.step (f O) (i j d)
 have r:=Wf ok.re ok.ex;obtain⟨c,e,z,w,u,p⟩:=B8 r ok.re (x b l) O;refine⟨c,e,?_⟩;have m:c≠b:=λe=>by rw[e]at u;omega
 have q:=(p c m).2 (Zd w);by_cases o:c<b;·exact o
 exfalso
 have:∀j,j<=b->Av (X8<|a.map kj) c j:=λj=>by
  induction j with
  |zero=>exact λ_=>Av.root O
  |succ j f=>exact λd=>Av.step (f O) (i j O) O
 exact q.3<|this b aA
theorem An:J (RO x)=J x:=by simp[RO]
theorem A7(h:Sx w n k g a j y)(l:Sx w m B i A_ c Y_)(q:k≠B){b:N}(e:a.ownBlock=S b):A_.ownBlock≠S b:=λf=>by
 obtain⟨_,h|⟨u,cap,s,rfl,C,p,x⟩⟩:=h;·rw[h.1]at e;cases e
 obtain⟨_,l|⟨v,r,t,rfl,F,d,z⟩⟩:=l;·rw[l.1]at f;cases f
 cases e;cases f;rw[p]at d;injection d with d;injection d with _ o _;exact q o
theorem oS{b:N}(h:Sx w n m B a g y)(c:Bx w b E_ k)(j:m≠k):a.ownBlock≠S b:=λe=>by
 obtain⟨_,h|⟨o,cap,l,rfl,q,f,p⟩⟩:=h;·rw[h.1]at e;cases e
 cases e;unfold Bx at c;rw[f]at c;injection c with i;injection i with _ d _;exact j d
structure Rz(w wr:Ub)(sb B:N)(s:cB)(fb:N)(vG:Uj)(xs:Wi)(ii:Uj)(ids:Wc):Prop where
 dr:i9 wr sb B s
 gr:w.grownBy wr (S sb)
 bw:B<=Z w.1
 res:Bx wr (Z w.1) #[Si S6 0,X U 0 0] 25
 fbx:Bx wr fb #[Si S6 0,vG] 25
 fbb:Z w.1<fb
 bl:Sx wr (Z w.1) 52 6 vG (J xs) (jx LQ LQ xs)
 id:Sx wr (Z w.1) 2 1 ii (J ids) (hC ids)
 emp:∀x∈xs,x.1=[]/\x.2=[]
theorem Rz.start{wr:Ub}{s:cB}{K:N}(h:Rz w wr n m s k (X (S ⟨K,0,U⟩) B c) x a l):
 ∃L,CK w (D wr (Sc #[] 61)) L n m s k 0 K c x LQ LQ (λ_=>LQ) (X (S ⟨Z wr.1,0,U⟩) 0 0) LQ [] a l:=by
 have A_:J x=B:=by
  obtain⟨e,_⟩|⟨_,_,_,e,_⟩:=h.7.2;·cases e
  cases e;rfl
 subst A_;have u:a.ownBlock≠S K:=A7 h.7 h.8 vY R;have t:K≠Z w.1:=λe=>oS h.7 h.4 vY (by rw[<-e];rfl);have r:K≠k:=λe=>oS h.7 h.5 vY (by rw[<-e];rfl);have z:=oS h.8 h.4 vY;have y:=oS h.8 h.5 vY;have F:=(h.7.lt K R).2;have M:=h.4.lt;have E_:=h.5.lt;have g:∀b,a.ownBlock=S b->b<Z wr.1:=λb e=>(h.8.lt b e).2;have f:∀b,b≠K->a.ownBlock≠S b->b≠Z wr.1->(if b=K then (1,0,0)else if a.ownBlock=S b then (7,0,0)else if b=Z wr.1 then (6,0,0)else (0,0,0):N×N×N)=(0,0,0):=λb o p q=>by rw[aM o,aM p,aM q]
 have P:XW wr (D wr (Sc #[] 61)) (λ_=>(0,0,0)) (λ_=>(0,0,0)) (Z w.1) (λ_=>True):=XW.box _;refine⟨λb=>if b=K then (1,0,0)else if a.ownBlock=S b then (7,0,0)else if b=Z wr.1 then (6,0,0)else (0,0,0),h.1.box _,R9 h.2<|bW _ _ _,h.3,h.4.box _,f _ (kA t) z O,h.5.box _,f _ (kA r) y O,h.6,⟨⟨h.7.alloc _,λb e=>?_⟩,λi d=>?_,λi d=>?_,λi d C j=>?_⟩,⟨?_,λb e=>?_⟩,λi d=>Sz d sP,⟨h.8.alloc _,λb e=>?_⟩,λb v=>?_,λC _=>⟨R,R⟩⟩
 .cases e;exact aU R
 .rw[(h.9 _<|aH d).1];exact⟨dA,λb e=>by cases e⟩
 .rw[(h.9 _<|aH d).2];exact⟨dA,λb e=>by cases e⟩
 .rw[(h.9 _<|aH d).1]at j;exact Sz j sP
 .have:=eI (base:=Z w.1) (e:=61) (size:=1) wr #[] 0 h.2.4 sP R;simpa [Yu]using this
 .cases e;dsimp only;rw[aM O,aM (λe=>by have:=g _ e;omega),aU R]
 .rw[aM (λe2=>u<|by rw[<-e2];exact e),aU e]
 rw[aO]at v;exact f b O (λe=>by have:=g _ e;omega) O
section
def pR(w wr:Ub)(sb B:N)(gd:SV)(fb G_ c:N)(ve ii:Uj)(ids:Wc):Prop:=∃d e b av a,CK w wr d sb B gd.s fb gd.v G_ c gd.1 e b av ve a gd.2 ii ids
def nu(w wr:Ub)(sb B:N)(gd:SV)(fb G_ c:N)(ve ii:Uj)(ids:Wc)(i8:Uj)(vs:Wc):Prop:=∃a e d av b,CK w wr a sb B gd.s fb gd.v G_ c gd.1 e d av ve b gd.2 ii ids/\Xv wr a (5,J gd.2,0) (Z w.1) 2 1 i8 (J vs) (hC vs)
def I8(w wr:Ub)(sb B:N)(s:cB)(v:N)(gd:SV)(fb G_ c:N)(ve ii:Uj)(ids:Wc)(xb:N)(t:Yj)(ps:Za)(is:Vr)(i8:Uj)(vs:Wc):Prop:=∃d e b av a p q,MJ w wr d sb B s fb v G_ c gd.1 e b av ve a gd.2 ii ids xb p q t ps is i8 vs
variable {w wr w': Ub} {sb B: N} {gd: SV} {fb G_ c: N} {ve ii: Uj} {ids: Wc} {i8: Uj} {vs: Wc}
theorem XW.named{d:N}{a:N->N×N×N}(o:Obj)(L:N×N×N):XW wr (D wr o) a (λb=>if b=Z wr.1 then L else a b) d (λ_=>True) :=
 ⟨(bW wr o U).4,λb _ e _=>⟨(bW wr o U).5 b e sP,aM O⟩,λh b f=>by rw[aO]at f;exact G (aM O) (h b O)⟩
theorem pR.fn(h:pR w wr sb B gd fb G_ c ve ii ids):E wr (A fb 1)=S (Hl G_ (J gd.1) c)/\Z w.1<=Z wr.1:=by obtain⟨d,e,b,av,a,h⟩:=h;exact⟨Bx.cell h.6 R,h.2.4⟩
theorem pR.start(h:pR w wr sb B gd fb G_ c ve ii ids):nu w (D wr (Sc #[] 2)) sb B gd fb G_ c ve ii ids (X (S ⟨Z wr.1,0,U⟩) 0 0) []:=by
 obtain⟨g,f,d,av,a,h⟩:=h;refine⟨_,f,d,av,a,h.sp (XW.named (Sc #[] 2) (5,J gd.2,0)) JV JV (λ_ _ _ _ _=>JV) (h.1.box _) (R9 h.2<|bW _ _ _),?_,λb e=>?_⟩
 .have:=eI (base:=Z w.1) (e:=2) (size:=1) wr #[] 0 h.2.4 sP R;simpa [hC]using this
 cases e;exact aU R
theorem nu.own(h:nu w wr sb B gd fb G_ c ve ii ids i8 vs):Sx wr (Z w.1) 2 1 i8 (J vs) (hC vs):=by obtain⟨e,f,d,av,b,h,a⟩:=h;exact a.1
theorem nu.push{k:N}{a:Uj}{vs':Wc}(h:nu w wr sb B gd fb G_ c ve ii ids i8 vs)(f:wr.grownBy w' i8.ownBlock)(p:Sx w' (Z w.1) 2 1 a k (hC vs++hC vs'))(o:k=J vs+J vs')(n:a.ownBlock=i8.ownBlock\/a.ownBlock=S (Z wr.1)):nu w w' sb B gd fb G_ c ve ii ids a (vs++vs'):=by
 obtain⟨j,y,r,av,l,h,i⟩:=h;obtain⟨x,q,u⟩:=i.grow f p n h.fr;have g:∀b,j b=(0,0,0)->j b≠(5,J gd.2,0):=λb e=>by rw[e];simp
 have d:=h.low<|i.below f aA h.2.4;refine⟨x,y,r,av,l,h.sp u (g _ h.5) (g _ h.7) (λb _ _ _ m=>m) d.1 d.2,?_⟩;subst o;have e:hC (vs++vs')=hC vs++hC vs':=by simp[hC]
 rw[e,aQ];exact q
theorem nu.dom(h:nu w wr sb B gd fb G_ c ve ii ids i8 vs){i d:N}(x:i<J ids)(q:ids.getD i 0=(d:I))(k:d<J gd.2)(l:0<J (gd.2.getD d [])):
 ∃b g a f gx j,ii=X (S ⟨b,0,U⟩) (J ids) g/\E wr ⟨b,i,U⟩=S (Si S6 d)/\ve=X (S ⟨a,0,U⟩) (J gd.2) f/\E wr ⟨a,d,U⟩=S (X (S ⟨gx,0,U⟩) (J (gd.2.getD d [])) j)/\gx<Z wr.1/\∀m u,(hC<|gd.2.getD d [])[m]?=S u->E wr ((⟨gx,0,U⟩:Addr).add m)=S u:=by
 obtain⟨C,F,K,av,p,h,z⟩:=h;have e1:gd.2.getD d []=gd.2[d]:=by simp[k]
 rw[e1]at l |-;obtain⟨b,g,o⟩:=h.id.got O;obtain⟨a,f,n⟩:=h.es.got O;have e:=h.11 d k;obtain⟨gx,j,ex⟩:=e.got l;have y:=h.id;have r:=h.es;subst o;subst n;rw[ex]at e;refine⟨b,g,a,f,gx,j,R,y.cell ?_,R,r.cell ?_,e.blk.1.2,e.1.cells R⟩
 .unfold hC;rw[<-q];simp[x]
 have:=Xz (f:=λi (_:Wc)=>[p i]) (sz:=1) (λ_ _=>R) 0 gd.2 d k 0 O;rw[iN,fW,aV]at this;rw[this,<-ex];rfl
theorem nu.cells(h:nu w wr sb B gd fb G_ c ve ii ids i8 vs)(e:J gd.2<J gd.1):
 E wr (A G_ (J gd.2*6))=S Hq/\E wr (A G_ (J gd.2*6+1))=S Hq/\E wr (A G_ (J gd.2*6+2))=S (H gd.1[J gd.2].3.1)/\E wr (A G_ (J gd.2*6+3))=S (H gd.1[J gd.2].3.a)/\E wr (A G_ (J gd.2*6+4))=S (H gd.1[J gd.2].3.3)/\E wr (A G_ (J gd.2*6+5))=S (H gd.1[J gd.2].3.4):=by
 obtain⟨m,j,i,av,k,h,l⟩:=h;have d:=h.9.1;have b:=h.14 _ aA;have a:∀q u,q<6->(L7 (j (J gd.2)) (i (J gd.2)) gd.1[J gd.2].3)[q]?=S u->E wr (A G_ (J gd.2*6+q))=S u:=λq u f g=>d.cell (by unfold jx;rw[Xz (λ_ _=>wu _ _ _) 0 gd.1 _ e q f,aV];exact g)
 refine⟨a 0 _ O (by rw[b.1];rfl),a 1 _ O (by rw[b.2];rfl),a 2 _ O R,a 3 _ O R,a 4 _ O R,a 5 _ O R⟩
theorem nu.cells2{i:N}(h:nu w wr sb B gd fb G_ c ve ii ids i8 vs)(a:J gd.2=i)(b:i<J gd.1):
 E wr (A G_ (i*6))=S Hq/\E wr (A G_ (i*6+1))=S Hq/\E wr (A G_ (i*6+2))=S (H gd.1[i].3.1)/\E wr (A G_ (i*6+3))=S (H gd.1[i].3.a)/\E wr (A G_ (i*6+4))=S (H gd.1[i].3.3)/\E wr (A G_ (i*6+5))=S (H gd.1[i].3.4):=by
 subst a;exact h.cells b
theorem nu.fn(h:nu w wr sb B gd fb G_ c ve ii ids i8 vs):E wr (A fb 1)=S (Hl G_ (J gd.1) c)/\E wr (A fb 0)=S (H gd.v)/\Z w.1<=Z wr.1:=by obtain⟨e,f,d,av,a,h,b⟩:=h;exact⟨Bx.cell h.6 R,Bx.cell h.6 R,h.2.4⟩
theorem nu.boxed(h:nu w wr sb B gd fb G_ c ve ii ids i8 vs)(t:Yj):I8 w (D wr (Sc #[X U 0 0,X U 0 0,Si S6 t.1,Si S6 t.a,Si S6 t.3,Si S6 t.4] 52)) sb B gd.s gd.v gd fb G_ c ve ii ids (Z wr.1) t [] [] i8 vs:=by obtain⟨a,j,i,av,d,h,g⟩:=h;have k:XW wr (D wr (Sc #[Hq,Hq,H t.1,H t.a,H t.3,H t.4] 52)) a a (Z w.1) (λ_=>True):=XW.box _;have f:=h.4.lt;have l:=h.6.lt;exact⟨a,j,i,av,d,_,_,h.box _,⟨Bx.new _ _ _,h.fr _ aA,f,⟨dA,λb e=>by cases e⟩,⟨dA,λb e=>by cases e⟩,g.sp k λ_ _=>JV⟩,O⟩
variable {s s': cB} {v xb: N} {t: Yj} {ps: Za} {is: Vr}
theorem MJ.drew{e:N->N×N×N}{f d:Vu}{av:N->Vu}{b:Vu}{p q:Uj}{g:Wi}{a:Tm}(h:MJ w wr e sb B s fb v G_ c g f d av ve b a ii ids xb p q t ps is i8 vs):MJ w wr.drew e sb B s fb v G_ c g f d av ve b a ii ids xb p q t ps is i8 vs:=h.call ⟨R,R,R,aA,λ_ _ _=>R⟩ h.f.1.drew
theorem I8.dr(h:I8 w wr sb B s v gd fb G_ c ve ii ids xb t ps is i8 vs):i9 wr sb B s:=by obtain⟨d,e,b,av,a,p,q,h⟩:=h;exact h.f.1
theorem I8.call(h:I8 w wr sb B s v gd fb G_ c ve ii ids xb t ps is i8 vs)(g:wr.grownBy w' (S sb))(d:i9 w' sb B s'):I8 w w' sb B s' v gd fb G_ c ve ii ids xb t ps is i8 vs:=by obtain⟨e,f,b,av,a,p,q,h⟩:=h;exact⟨e,f,b,av,a,p,q,h.call g d⟩
theorem I8.box(h:I8 w wr sb B s v gd fb G_ c ve ii ids xb t ps is i8 vs)(o:Obj):I8 w (D wr o) sb B s v gd fb G_ c ve ii ids xb t ps is i8 vs:=by obtain⟨lab,d,b,av,a,p,q,h⟩:=h;exact⟨lab,d,b,av,a,p,q,h.box o⟩
theorem I8.below(h:I8 w wr sb B s v gd fb G_ c ve ii ids xb t ps is i8 vs)(k:Sw (Z wr.1) wr w'):I8 w w' sb B s v gd fb G_ c ve ii ids xb t ps is i8 vs:=by obtain⟨f,g,e,av,a,p,q,h⟩:=h;exact⟨f,g,e,av,a,p,q,h.call ⟨k.1,k.2,k.3,k.4,λb d _=>k.5 b d⟩ (h.f.1.keep<|k.mono h.f.1.4)⟩
theorem I8.blks(h:I8 w wr sb B s v gd fb G_ c ve ii ids xb t ps is i8 vs):Xp wr (Z w.1) (Z wr.1) (S ⟨G_,0,U⟩) gd.1:=by obtain⟨d,e,b,av,a,p,q,h⟩:=h;exact h.f.9.at_
theorem I8.fn(h:I8 w wr sb B s v gd fb G_ c ve ii ids xb t ps is i8 vs):(E wr (A fb 1)=S (Hl G_ (J gd.1) c)/\E wr (A fb 0)=S (H v)/\∀q,wr.frozen? (A fb q)=Sn)/\Z w.1<=Z wr.1/\xb<Z wr.1/\fb<Z wr.1/\xb≠fb:=by obtain⟨d,e,b,av,a,p,q,h⟩:=h;exact⟨⟨Bx.cell h.f.6 R,Bx.cell h.f.6 R,Bx.thaw h.f.6⟩,h.f.2.4,h.x.1.lt,h.f.6.lt,h.3⟩
theorem I8.val(h:I8 w wr sb B s v gd fb G_ c ve ii ids xb t ps is i8 vs)(a:N):I8 w (Se wr ⟨fb,0,U⟩ (Si S6 a)) sb B s a gd fb G_ c ve ii ids xb t ps is i8 vs:=by obtain⟨e,f,d,av,b,p,q,h⟩:=h;exact⟨e,f,d,av,b,p,q,h.val a⟩
theorem I8.vals(h:I8 w wr sb B s v gd fb G_ c ve ii ids xb t ps is i8 vs):Sx wr (Z w.1) 2 1 i8 (J vs) (hC vs)/\(∃a n,i8=X a (J vs) n/\Xf wr (Z w.1) (Z wr.1) a vs):=by obtain⟨f,g,d,av,b,p,q,h⟩:=h;refine⟨h.x.6.1,?_⟩;obtain⟨a,n,e⟩:=h.x.6.form;subst e;exact⟨a,n,R,h.x.6.ints⟩
theorem I8.pushV{b:N}{a:Uj}{x:I}(h:I8 w wr sb B s v gd fb G_ c ve ii ids xb t ps is i8 vs)(g:wr.grownBy w' i8.ownBlock)(j:Sx w' (Z w.1) 2 1 a b (hC vs++[H x]))(i:b=J vs+1)(f:a.ownBlock=i8.ownBlock\/a.ownBlock=S (Z wr.1)):I8 w w' sb B s v gd fb G_ c ve ii ids xb t ps is a (vs++[x]):=by obtain⟨n,m,k,av,d,p,q,h⟩:=h;obtain⟨l,e⟩:=h.pushV g j i f;exact⟨l,m,k,av,d,p,q,e⟩
end
def RR:Code->List Code
 |.loop c=>[c]
 |.seq a b=>RR a++RR b
 |.block _ c=>RR c
 |.scope c=>RR c
 |.cond _ a b=>RR a++RR b
 |_=>[]
noncomputable def oT:Code:=(f29.body.getD .skip)
noncomputable def Au:Code:=(RR oT).getD 0 .skip
noncomputable def FA:Code:=(RR oT).getD 1 .skip
noncomputable def OJ:Code:=(RR Au).getD 0 .skip
noncomputable def MB:Code:=(RR Au).getD 1 .skip
noncomputable def Ew:Code:=(RR FA).getD 0 .skip
noncomputable def Ny:Code:=(RR Ew).getD 0 .skip
def wK(f:N->Value):N->N->List Value
 |_,0=>[]
 |i,n+1=>f i::wK f (i+1) n
theorem yS(i:N):∀(n:N)(a:Wo),J a=n->∃f:Vu,a=wK f i n:=λn a h=>by
 have d:∀(n:N)(a:Wo)(i:N)(f:Vu),J a=n->(∀j,f (i+j)=a.getD j Su)->a=wK f i n:=λn=>by
  induction n with
  |zero=>intro a i f h _;cases a with
   |nil=>rfl
   |cons=>cases h
  |succ n c=>intro a i f h b;cases a with
   |nil=>cases h
   |cons e a=>
    rw[wK,<-c a (i+1) f (by simpa using h) λj=>by have:=b<|j+1;rw[show i+1+j=i+(j+1) by omega];simpa using this];have:=b 0;rw[fW]at this;rw[this];rfl
 exact⟨λk=>a.getD (k-i) Su,d n a i _ h λj=>by rw[uB]⟩
theorem pJ(h:J y=251):∃f:Vu,y=wK f 24 251:=yS 24 251 y h
structure RI where
 j:N
 k:N
 s:cB
 vs:Wc
 v:N
 is:Vr
 i8:Uj
 c19:Uj
 tl:Wo
theorem Vw{a1:Yt}(M:SV){P:N}{ve:Uj}{T:Yj}{V:Za}{cnt:N}(z:cB){f:Vr}{c1 c2 c3 c4 c5 c9 U_ V_ W_ X_ Y_ Z_ aa ab ac:Uj}(cl:cnt<=10)(hv:g<=4000)(cq:J L<=4000)(ck:J f<=1000)(a6:∀(s:cB)(v:N)(b:Wc)(d:Vr)(q F:Uj)(y:Wo)(w':Ub),J y=251->(d,b,v,s)=L4 r cnt z L g f->I8 w w' n m s v M k P c ve a l B T V d q b->a1 (.exit 4) ⟨(Hn n::c1::c2::c3::c4::c5::Sb r::Hn k::A_::c9::U_::V_::q::Hn B::W_::X_::Y_::H ((cnt:N):I)::H ((cnt:N):I)::F::Z_::aa::ab::ac::y).toArray,[]⟩ w'){q F:Uj}{wr:Ub}(u:J y=251)(a2:Q (I8 w wr n m z g M k P c ve a l B T V f q L)):
 Code.wp prog (Code.loop MB) a1 ⟨(Hn n::c1::c2::c3::c4::c5::Sb r::Hn k::A_::c9::U_::V_::q::Hn B::W_::X_::Y_::H ((cnt:N):I)::H ((0:N):I)::F::Z_::aa::ab::ac::y).toArray,[]⟩ wr:=by
 have HX:=Y a6;clear a6;refine iY (λW wr=>∃x:RI,W=⟨(Hn n::c1::c2::c3::c4::c5::Sb r::Hn k::A_::c9::U_::V_::x.7::Hn B::W_::X_::Y_::H ((cnt:N):I)::H ((x.j:N):I)::x.8::Z_::aa::ab::ac::x.9).toArray,[]⟩/\J x.9=251/\x.j+x.k=cnt/\Q (L4 r x.k x.s x.4 x.v x.6=L4 r cnt z L g f)/\Q (x.v<=g+x.j/\J x.4<=J L+x.j/\J x.6<=J f+x.j)/\Q (I8 w wr n m x.s x.v M k P c ve a l B T V x.6 x.7 x.4)) (λW _=>cnt-(JB<|W.1.getD 18 Su).toNat) ⟨⟨0,cnt,z,L,g,f,q,F,y⟩,R,u,by show 0+cnt=cnt;omega,Y R,Y ⟨aA,aA,aA⟩,a2⟩ ?_;clear a2 u;rintro W wr⟨⟨j,p,s,b,v,d,q,F,y⟩,rfl,u,bl,H_,e,h⟩;dsimp only at u bl H_ e h |-
 conv=>arg 2;whnf
 obtain⟨ci,rfl⟩:=pJ u;simp only[wK,Nat.reduceAdd];clear u;cases p with
 |succ p=>
  have bn:(j:I)<cnt:=O;obtain⟨⟨f1,M_,N_⟩,cm,ct,cj,cs⟩:=h.fn;obtain⟨_,va,vc,K_,a9⟩:=h.vals;obtain⟨ln,ao⟩:∃ln,ln=J b:=⟨_,R⟩;rw[<-ao]at K_;subst K_;have ar:=Y ao;clear ao;have az:=Y a9;clear a9;have co:v<=5000:=oN e.o;have bm:ln<=5000:=oP e.o ar.o;go_wp2_with fail
  have bq:n<Z w.1:=by obtain⟨b8,pv,iv,av,K_,ca,cb,o⟩:=h.o;exact o.f.lt
  refine YU (R0 s (Y h.dr) az ar bm bq aA) λC⟨i,hg⟩=>?_;have S_:Q ((if dB (RJ s b v r).1.1=So then L4 r p (RJ s b v r).2 (b++[(v:I)]) (v+1) (d++[(RJ s b v r).1])else L4 r p (RJ s b v r).2 b v (d++[(RJ s b v r).1]))=L4 r cnt z L g f):=H_;generalize RJ s b v r=bf at*;obtain⟨x,s'⟩:=bf;unfold Yg.agg;dsimp only at i S_ |-;have T_:=Y<|h.call hg i;clear i hg H_ h az f1 M_ N_;go_wp2_with fail
  have t:=Y<|T_.box (Sc #[H x.1,H x.2,H x.a,H x.b,H x.5] 64);have I_:Q (Bx (D C (Sc #[H x.1,H x.2,H x.a,H x.b,H x.5] 64)) (Z C.1) #[H x.1,H x.2,H x.a,H x.b,H x.5] 64):=Y<|Bx.new _ _ _;have bd:Q (Z C.1≠k/\Z C.1≠B):=Y<|oN T_.fn;clear T_;generalize D C _=w2 at*;generalize Z C.1=ib at*;refine YU (nZ x.1 w2) λw3 br=>?_;subst br
  go_upto_if 167 with fail
  go_cut [12]from 154 to 182 λbg wx=>Q (Bx wx ib #[H x.1,H x.2,H x.a,H x.b,H x.5] 64)/\Q (I8 w wx n m s' (if dB x.1=So then v+1 else v) M k P c ve a l B T V d bg (if dB x.1=So then b++[(v:I)]else b))
  case first=>
   cases i:dB x.1 with
   |false=>
    go_wp2;go_meet;rw[aM (by rw[i];simp),aM<|by rw[i];simp];exact⟨I_,t⟩
   |true=>
    obtain⟨⟨f1,M_,N_⟩,cn,-⟩:=t.fn;go_wp2_with (at_builtin;refine YC (n:=J b) (xs:=hC b) RH t.vals.1 ?_ (oN e.o))
    intro v9 w9 aq aj bp a4;have au:=Y ((t.box _).pushV aj aq R (by rw[aO];exact a4));have bc:=Y ((I_.box _).grown aj λad=>oS t.vals.1 I_.o vY ad.symm);obtain⟨g9,ch,rfl,al,af⟩:=Xm aq O;clear al af bp a4 aq aj M_ N_ f1;obtain⟨⟨f1,M_,N_⟩,-⟩:=au.fn;go_wp2;go_meet;have a7:=au.val<|v+1;rw[show((v+1:N):I)=(v:I)+1 by omega]at a7;rw[aU i,aU i];exact⟨Y<|bc.other bd.1,Y a7⟩
  obtain⟨K,be⟩:=hcut;clear t I_;have a0:Q ((if dB x.1=So then v+1 else v)<=g+(j+1)/\J (if dB x.1=So then b++[(v:I)]else b)<=J L+(j+1)):=Y (by
   have:=e.o;split;·simp;omega
   omega)
  have bb:Q (L4 r p s' (if dB x.1=So then b++[(v:I)]else b) (if dB x.1=So then v+1 else v) (d++[x])=L4 r cnt z L g f):=Y (by rw[<-S_.o];split<;>rfl)
  generalize (if dB x.1=So then v+1 else v)=v1 at*;generalize (if dB x.1=So then b++[(v:I)]else b)=cd at*;clear S_;obtain⟨b8,pv,iv,av,K_,ca,cb,o⟩:=be.o;obtain⟨qa,cv,hq⟩:=o.x.5.form;obtain⟨il,am⟩:∃il,il=J d:=⟨_,R⟩;rw[<-am]at hq;subst hq;have ce:=Y am;clear am;have x1:=Bx.c o.x.1 1;have b0:=Bx.c K.o 0;have b1:=Bx.c K.o 1;have b2:=Bx.c K.o 2;have b3:=Bx.c K.o 3;have b4:=Bx.c K.o 4;have HB:=Y o;have cr:=o.f.2.4;clear o;go_wp2_with (at_builtin;refine YC (n:=J d) (xs:=Lk d) RB HB.x.5.1 ?_ (oN e.o))
  intro v8 w8 ap a8 bo a3;obtain⟨P_,cu,a5⟩:=(HB.box _).pushI a8 ap R (by rw[aO];exact a3);obtain⟨g8,cg,rfl,al,af⟩:=Xm ap O;have ba:=Y a5;clear al af bo a3 ap a8 a5 x1 b0 b1 b2 b3 b4;have k0:=Bx.c P_ 1;have kz:=Bx.thaw P_;have cf:=Y P_;clear P_;go_wp2_with fail
  refine⟨⟨⟨j+1,p,s',cd,v1,d++[x],_,_,_⟩,R,R,(by show j+1+p=cnt;omega),bb,Y ⟨a0.1,a0.2,?_⟩,Y ⟨_,_,_,_,_,_,_,ba.o⟩⟩,SA⟩;have:=e.o;show J (d++[x])<=J f+(j+1);simp;omega
 |zero=>
  have bn:¬(j:I)<cnt:=O;have bk:j=cnt:=O;subst bk;go_wp2_with fail
  exact HX.o _ _ _ _ _ _ _ _ R H_.o h.o
section
variable {w wr w': Ub} {lab lab': N -> N×N×N} {base: N}
def Xe.setPhi(x:Xe)(j:N)(p:Ph):Xe:=⟨x.1.set j p,x.2,x.3⟩
theorem MP{T:Type}{a:List T}{i:N}(x:T)(h:i<J (a.set i x)):(a.set i x)[i]=x:=cQ h
theorem xW.pushArg{K:Uj}{a:Wi}{l n:Vu}{av:N->Vu}(h:xW w lab base K a l n av)(R_:∀b,Z w.1<=b->lab b=(0,0,0)){i j g M c_ F:N}(o:i<J a)(v:j<J a[i].1)(C:l i=X (S ⟨g,0,U⟩) M c_){f:Uj}{x:I}(S_:w.grownBy w' (av i j).ownBlock)(Z_:Sx w' base 2 1 f F (hC a[i].1[j].2++[Si S6 x]))(W_:F=J a[i].1[j].2+1)(P_:f.ownBlock=(av i j).ownBlock\/f.ownBlock=S (Z w.1)):
 ∃lab',xW (Se w' ⟨g,j*2+1,U⟩ f) lab' base K (a.set i<|a[i].setPhi j ⟨a[i].1[j].1,a[i].1[j].2++[x]⟩) l n (λd b=>if d=i/\b=j then f else av d b)/\XW w (Se w' ⟨g,j*2+1,U⟩ f) lab lab' base (λb=>lab b≠(4,i,j)/\lab b≠(2,i,0))/\E w' ⟨g,j*2+1,U⟩=S (av i j)/\(∀c,w'.frozen? ⟨g,c,U⟩=Sn):=by
 obtain⟨lab',t,y⟩:=(h.4 i o j v).grow S_ Z_ P_ R_;have q:=h.2 i o;rw[C]at q;have Y_:J a[i].1=M:=by
  obtain⟨e,_⟩|⟨_,_,_,e,_⟩:=q.1.2;·cases e
  cases e;rfl
 subst Y_;have T_:=q.blk.2;have s:=q.sp y (λb e=>by rw[e];simp);have U_:=s.blk.2;have z:XW w' (Se w' (A g (j*2+1)) f) lab' lab' base (λb=>b≠g):=XW.put _ _ _;have ng:∀b,lab' b≠(2,i,0)->b≠g:=λb k e=>k (by rw[e];exact U_);have keep:∀{L:N×N×N}{P T:N}{V:Uj}{m:N}{B:Wo},Xv w lab L base P T V m B->L≠(4,i,j)->L≠(2,i,0)->Xv (Se w' (A g (j*2+1)) f) lab' L base P T V m B:=λt u N_=>(t.sp y λb e=>by rw[e];exact u).sp z (λb e=>ng b<|by rw[e];exact N_);refine⟨lab',⟨?_,λd ha=>?_,λd ha=>?_,λd ha b k=>?_⟩,?_,?_,λc=>s.thaw c⟩
 .have e:jx l n (a.set i<|a[i].setPhi j ⟨a[i].1[j].1,a[i].1[j].2++[x]⟩)=jx l n a:=by
   unfold jx;refine iG λr=>?_;have hl:=Zn (f:=λi (x:Xe)=>L7 (l i) (n i) x.3) (sz:=6) (λ_ _=>R) 0 a;have V_:=Zn (f:=λi (x:Xe)=>L7 (l i) (n i) x.3) (sz:=6) (λ_ _=>R) 0 (a.set i<|a[i].setPhi j ⟨a[i].1[j].1,a[i].1[j].2++[x]⟩);rw[bL]at V_;by_cases t:r<J a*6
   .have W:r/6<J a:=O;have aa:r/6<J (a.set i<|a[i].setPhi j ⟨a[i].1[j].1,a[i].1[j].2++[x]⟩):=by simpa using W
    have K_:r=r/6*6+r%6:=O;have p:r%6<6:=dS _ vY;rw[K_,Xz (sz:=6) (λ_ _=>R) 0 _ _ aa _ p,Xz (sz:=6) (λ_ _=>R) 0 a _ W _ p];by_cases e:i=r/6
    .subst e;rw[MP];rfl
    rw[bI e]
   rw[dK O,dK O]
  rw[e,bL];exact keep h.1 sP sP
 .by_cases e:d=i
  .subst e
   simp only[MP];rw[C];show Xv _ lab' (2,d,0) base 152 2 _ (J (a[d].1.set j _)) (jw _<|a[d].1.set j _);rw[bL];have M_:jw (λb=>if True/\b=j then f else av d b) (a[d].1.set j ⟨a[d].1[j].1,a[d].1[j].2++[x]⟩)=(jw (av d) a[d].1).set (j*2+1) f:=by
    unfold jw;refine WA (sz:=2) (λ_ _=>R) 0 a[d].1 j v _ 1 f vY ?_ λm p X_=>?_
    .rw[aV];dsimp only;rw[aU ⟨JV,R⟩];rfl
    rw[aV];dsimp only;rw[aM λh=>X_ h.2]
   rw[M_];exact s.set _ _
  rw[bI λe2=>e e2.symm];have O_:d<J a:=by simpa using ha
  have e2:jw (λb=>if d=i/\b=j then f else av d b) a[d].1=jw (av d) a[d].1:=by unfold jw;exact x8 0 _ λm p=>by dsimp only;rw[aM λh=>e h.1]
  rw[e2];exact keep (h.2 d O_) sP (by simp;exact e)
 .by_cases e:d=i
  .subst e;simp only[MP];exact keep (h.3 d o) sP sP
  rw[bI λe2=>e e2.symm];exact keep (h.3 d<|by simpa using ha) sP sP
 .by_cases e:d=i
  .subst e;simp only[MP]at k |-;have Q_:b<J a[d].1:=by simpa [Xe.setPhi]using k
   by_cases e2:b=j
   .subst e2;simp only[Xe.setPhi,MP];rw[aU ⟨JV,JV⟩];subst W_;have e3:hC (a[d].1[b].2++[x])=hC a[d].1[b].2++[H x]:=by simp[hC]
    rw[e3,aQ];exact t.sp z λb e=>ng b<|by rw[e];simp
   simp only[Xe.setPhi,bI λe3=>e2 e3.symm];rw[aM λh=>e2 h.2];exact keep (h.4 d o b Q_) (by simp;exact e2) sP
  simp only[bI λe2=>e e2.symm]at k |-;rw[aM λh=>e h.1];exact keep (h.4 d (by simpa using ha) b k) (by simp;intro u;exact Sz u e) sP
 .exact(y.trans z).weak λb k=>⟨k.1,λe=>k.2<|by rw[e];exact T_⟩
 refine s.cell ?_;unfold jw;rw[Xz (sz:=2) (λ_ _=>R) 0 _ j v 1 vY,aV];rfl
end
section
variable {w wr w': Ub} {lab lab': N -> N×N×N} {sb B: N} {s s': cB} {fb vals G_ c: N} {xs: Wi} {pv iv: N -> Uj} {av: N -> N -> Uj} {ve: Uj} {ev: N -> Uj} {ends: Tm} {ii: Uj} {ids: Wc}
def Sy(w wr:Ub)(lab:N->N×N×N)(d:Uy)(a:Wc):Prop:=∀q (h:q<J a),∃b o,d=S (A b o)/\lab b=(0,0,0)/\(Z w.1<=b/\b<Z wr.1)/\E wr (A b (o+q))=S (H a[q])
theorem Sy.sp{e:Uy}{f:Wc}{ok:Vv}(h:Sy w wr lab e f)(k:XW wr w' lab lab' (Z w.1) ok)(j:∀b,lab b=(0,0,0)->b<Z wr.1->ok b):Sy w w' lab' e f:=λq l=>by obtain⟨b,o,g,d,a,i⟩:=h q l;have:=k.2 b a.1 a.2<|j b d a.2;exact⟨b,o,g,G this.2 d,⟨a.1,aX a.2 k.1⟩,G (Xc this.1) i⟩
theorem CK.belowF(h:CK w wr lab sb B s fb vals G_ c xs pv iv av ve ev ends ii ids)(k:Sw (Z wr.1) wr w'):CK w w' lab sb B s fb vals G_ c xs pv iv av ve ev ends ii ids :=
 h.call ⟨k.1,k.2,k.3,k.4,λb a _=>k.5 b a⟩ (h.1.keep<|k.mono h.1.4)
theorem Sy.start{d:Uy}{e:Wc}(h:CK w wr lab sb B s fb vals G_ c xs pv iv av ve ev ends ii ids)(i:Xf w' (Z wr.1) (Z w'.1) d e):Sy w w' lab d e:=λq j=>by obtain⟨b,o,f,a,g⟩:=i q j;exact⟨b,o,f,h.fr b a.1,⟨aJ h.2.4 a.1,a.2⟩,g⟩
theorem CK.facts{i j g k f cp n o d:N}(h:CK w wr lab sb B s fb vals G_ c xs pv iv av ve ev ends ii ids)(l:i<J xs)(r:j<J xs[i].1)(m:pv i=X (S ⟨g,0,U⟩) f cp)(q:ve=X (S ⟨k,0,U⟩) n o)(p:d<J ends):
 E wr ⟨fb,1,U⟩=S (X (S ⟨G_,0,U⟩) (J xs) c)/\E wr ⟨G_,i*6,U⟩=S (X (S ⟨g,0,U⟩) f cp)/\E wr ⟨g,j*2+1,U⟩=S (av i j)/\E wr ⟨k,d,U⟩=S (ev d):=by
 have b:=h.9.2 i l;rw[m]at b;have u:J xs[i].1=f:=by
  obtain⟨e,_⟩|⟨_,_,_,e,_⟩:=b.1.2;·cases e
  cases e;rfl
 subst u;have a:=h.es;rw[q]at a;have t:J ends=n:=by
  obtain⟨e,_⟩|⟨_,_,_,e,_⟩:=a.1.2;·cases e
  cases e;rfl
 subst t;refine⟨Bx.cell h.6 R,h.9.1.cell ?_,b.cell ?_,a.cell ?_⟩
 .unfold jx;have:=Xz (f:=λi (x:Xe)=>L7 (pv i) (iv i) x.3) (sz:=6) (λ_ _=>R) 0 xs i l 0 vY;rw[fW,aV]at this;rw[this,<-m];rfl
 .unfold jw;rw[Xz (sz:=2) (λ_ _=>R) 0 _ j r 1 vY,aV];rfl
 have:=Xz (f:=λi (_:Wc)=>[ev i]) (sz:=1) (λ_ _=>R) 0 ends d p 0 vY;rw[iN,fW,aV]at this;rw[this];rfl
theorem CK.pushArg{i j g F t r:N}(h:CK w wr lab sb B s fb vals G_ c xs pv iv av ve ev ends ii ids)(f:i<J xs)(o:j<J xs[i].1)(q:pv i=X (S ⟨g,0,U⟩) F t){a:Uj}{x:I}(n:wr.grownBy w' (av i j).ownBlock)(K:Sx w' (Z w.1) 2 1 a r (hC xs[i].1[j].2++[Si S6 x]))(C:r=J xs[i].1[j].2+1)(u:a.ownBlock=(av i j).ownBlock\/a.ownBlock=S (Z wr.1)):
 (E w' ⟨g,j*2+1,U⟩=S (av i j)/\(∀L,w'.frozen? ⟨g,L,U⟩=Sn))/\∃lab',CK w (Se w' ⟨g,j*2+1,U⟩ a) lab' sb B s fb vals G_ c (xs.set i<|xs[i].setPhi j ⟨xs[i].1[j].1,xs[i].1[j].2++[x]⟩) pv iv (λl b=>if l=i/\b=j then a else av l b) ve ev ends ii ids/\XW wr (Se w' ⟨g,j*2+1,U⟩ a) lab lab' (Z w.1) (λb=>lab b≠(4,i,j)/\lab b≠(2,i,0)):=by
 obtain⟨lab',y,k,v,M⟩:=h.9.pushArg h.fr f o q n K C u;have d:∀b,lab b=(0,0,0)->lab b≠(4,i,j)/\lab b≠(2,i,0):=λb e=>by rw[e];simp
 have z:Z w.1<=g:=by have:=h.9.2 i f;rw[q]at this;exact(this.1.lt g R).1
 have p:=h.low<|((h.9.4 i f j o).below n aA h.2.4).trans ((dC (Z w.1) w').setCell (p:=A g (j*2+1)) z a);refine⟨⟨v,M⟩,lab',⟨p.1,p.2,h.3,h.4.sp k aA<|d _ h.5,G (k.2 _ aA h.4.lt<|d _ h.5).2 h.5,?_,G (k.2 _ (dU h.8) h.6.lt (d _ h.7)).2 h.7,h.8,?_,h.es.sp k λb e=>by rw[e];simp,λm P=>(h.11 m P).sp k λb e=>by rw[e];simp,h.id.sp k λb e=>by rw[e];simp,k.3 h.fr,h.14⟩,k⟩
 .rw[bL];exact h.6.sp k (dU h.8) (d _ h.7)
 rw[bL];exact y
end
section
variable {w wr w': Ub} {lab: N -> N×N×N} {sb B: N} {s: cB} {fb vals G_ c: N} {xs: Wi} {pv iv: N -> Uj} {av: N -> N -> Uj} {ve: Uj} {ev: N -> Uj} {ends: Tm} {ii: Uj} {ids: Wc}
theorem CK.held8{i n g a x cp W V d j p k:N}{preds:Wc}{y:Uj}(h:CK w wr lab sb B s fb vals G_ c xs pv iv av ve ev ends ii ids)(v:i<J xs)(K:n<J xs[i].1)(L:pv i=X (S ⟨g,0,U⟩) x cp)(F:ve=X (S ⟨a,0,U⟩) W V)(M_:d<J ends)(Q_:Sy w wr lab (S ⟨j,p,U⟩) preds)(O_:k<J preds)(R_:S y=S (Si S6 preds[k]))(N_:wr.grownBy w' (av i n).ownBlock):
 (E w' ⟨fb,1,U⟩=S (X (S ⟨G_,0,U⟩) (J xs) c)/\E w' ⟨G_,i*6,U⟩=S (X (S ⟨g,0,U⟩) x cp)/\E w' ⟨j,p+k,U⟩=S y/\E w' ⟨a,d,U⟩=S (ev d)) /\
 ∀f m,(E (Se w' ⟨g,m,U⟩ f) ⟨fb,1,U⟩=S (X (S ⟨G_,0,U⟩) (J xs) c)/\E (Se w' ⟨g,m,U⟩ f) ⟨G_,i*6,U⟩=S (X (S ⟨g,0,U⟩) x cp)/\E (Se w' ⟨g,m,U⟩ f) ⟨j,p+k,U⟩=S y/\E (Se w' ⟨g,m,U⟩ f) ⟨a,d,U⟩=S (ev d)):=by
 obtain⟨f1,f2,_,f4⟩:=h.facts v K L F M_;obtain⟨X_,Y_,e,t,L_,M⟩:=Q_ k O_;cases e;rw[<-R_]at M;have o:∀b,b<Z wr.1->lab b≠(4,i,n)->w'.1[b]?=wr.1[b]?:=λb K_ P_=>N_.5 b K_ λe=>P_<|(h.9.4 i v n K).2 b e.symm
 have r:=h.9.1.blk;have q:(Z w.1<=a/\a<Z wr.1)/\lab a=(6,0,0):=by have u:=h.es;rw[F]at u;exact⟨u.1.lt a R,u.2 a R⟩
 have l:lab g=(2,i,0):=by have:=h.9.2 i v;rw[L]at this;exact this.2 g R
 have S_:fb≠g:=λe=>by have:=h.7;rw[e,l]at this;simp at this
 have T_:G_≠g:=λe=>by have:=r.2;rw[e,l]at this;simp at this
 have U_:j≠g:=λe=>by rw[e,l]at t;simp at t
 have V_:a≠g:=λe=>by have:=q.2;rw[e,l]at this;simp at this
 have z:=G (Xc (o:=1) (o fb h.6.lt<|by rw[h.7];simp)) f1;have P:=G (Xc (o:=i*6) (o G_ r.1.2<|by rw[r.2];simp)) f2;have C:=G (Xc (o:=p+k) (o j L_.2<|by rw[t];simp)) M;have T:=G (Xc (o:=d) (o a q.1.2<|by rw[q.2];simp)) f4;refine⟨⟨z,P,C,T⟩,λf m=>⟨?_,?_,?_,?_⟩⟩;·exact G (Xc<|cY S_) z
 .exact G (Xc<|cY T_) P
 .exact G (Xc<|cY U_) C
 exact G (Xc<|cY V_) T
end
theorem Ag:(prog.info? 152).map (λi=>(i.8,i.3,i.4))=S (S<|Sa #[H 0,Hq],2,32):=vZ
structure Z7 where
 j:N
 i8:Uj
 tl:Wo
theorem T5{X_:Yt}(q:cB)(M:SV){s:N}{ve:Uj}{V:Yj}{c1 c2 c3 c4 c5 K u v z C t P F T W J_:Uj}(bk:i<=3)(hv:k<=5000)(bm:J L<=4000)(ad:∀(b:Uj)(y:Wo)(w':Ub),J y=251->I8 w w' n m q (k+i) M B s c ve a l g V (Rk i k) [] b (L++xL i k)->X_ (.exit 2) ⟨(Hn n::c1::c2::c3::c4::c5::Sb r::Hn B::A_::K::u::v::b::Hn g::z::H ((i:N):I)::H ((i:N):I)::C::t::P::F::T::W::J_::y).toArray,[]⟩ w'){b:Uj}{wr:Ub}(e:J y=251)(Y_:Q (I8 w wr n m q k M B s c ve a l g V [] [] b L)):
 Code.wp prog (Code.loop OJ) X_ ⟨(Hn n::c1::c2::c3::c4::c5::Sb r::Hn B::A_::K::u::v::b::Hn g::z::H ((i:N):I)::H ((0:N):I)::C::t::P::F::T::W::J_::y).toArray,[]⟩ wr:=by
 have HX:=Y ad;clear ad;obtain⟨i0,au,a8,a9,ba⟩:=Xq Ag;obtain⟨j0,az,a5,a6,a7⟩:=Xq RH;refine iY (λo wr=>∃x:Z7,o=⟨(Hn n::c1::c2::c3::c4::c5::Sb r::Hn B::A_::K::u::v::x.2::Hn g::z::H ((i:N):I)::H ((x.j:N):I)::C::t::P::F::T::W::J_::x.3).toArray,[]⟩/\J x.3=251/\x.j<=i/\Q (I8 w wr n m q (k+x.j) M B s c ve a l g V (Rk x.j k) [] x.2 (L++xL x.j k))) (λo _=>i-(JB<|o.1.getD 16 Su).toNat) ⟨⟨0,b,y⟩,R,e,aN,Y (by
  have:=Y_.o;simpa [Rk,xL]using this)⟩ ?_
 clear Y_ e;rintro o wr⟨⟨j,b,y⟩,rfl,e,hj,d⟩;dsimp only at e hj d |-
 conv=>arg 2;whnf
 obtain⟨be,rfl⟩:=pJ e;simp only[wK,Nat.reduceAdd];clear e;obtain⟨bp,pv,iv,av,ev,bt,bx,N_⟩:=d.o;obtain⟨pa,bv,rfl⟩:=N_.x.4.form;have h:=Y N_;clear N_;rw[vX]at h;have x0:=Bx.c h.x.1 0;obtain⟨⟨f1,f0,fz⟩,bl,bo,bg,bn⟩:=d.fn;by_cases bi:j<i
 .have a1:(j:I)<i:=O;have W_:Q (∃t_ S_ T_,b=X t_ S_ T_/\S_=J (L++xL j k)):=Y (by obtain⟨_,t_,T_,ap,_⟩:=d.vals;exact⟨t_,_,T_,ap,R⟩);have s_:Q (J (Rk j k)=j/\J (L++xL j k)=J L+j):=Y ⟨vX,by rw[aQ,xS]⟩;go_wp2_with (at_builtin;refine bT _ R _ _ 47 R (Z w.1) 152 i0 (Sa #[H 0,Hq]) 2 32 underlying47 au a8 a9 ba R vY _ (J (Rk j k)) (jw LQ<|Rk j k) R (h.x.4.1.alloc _) (A (Z wr.1) 0) 1 1 [H ((k:I)+(j:I)),Hq] R R (World.news_of_block<|World.alloc_heap_new _ _) ?c2 ?c3 ?c4 ?c5 ?_)
  case c2=>intro b0 hu;simp at hu;obtain rfl|rfl:=hu<;>rfl
  case c3=>unfold maxLen;have:=s_.o;omega
  case c4=>have:=s_.o;omega
  case c5=>simp;omega
  intro v8 w8 Q_ aj a2 Z_;obtain⟨p,bq,ac⟩:=(h.box _).pushP aj Q_ R (by rw[aO];exact Z_);obtain⟨g8,ao,rfl,P_,O_⟩:=Xm Q_ O;have f:=Y ac;clear P_ O_ a2 Z_ Q_ aj ac x0 f1 f0 fz d;have k0:=Bx.c p 0;have kz:=Bx.thaw p;have bc:=Y p;clear p;have aq:E (Se w8 (A g 0) (Hl g8 (J (Rk j k)+1) ao)) (A B 0)=S (H ((k:I)+(j:I))):=by
   have:=Bx.c f.f.6 0;simpa using this
  have ar:=Bx.thaw f.f.6;have a4:=f.f.2.4;rw[Xd]at a4;obtain⟨va,S_,vc,rfl,am⟩:=W_.o;have bb:=Y am;clear am W_;rw[s_.1]at*;go_wp2_with (at_builtin;refine bT _ R _ _ 26 R (Z w.1) 2 j0 (H 0) 1 8 underlying26 az a5 a6 a7 R vY _ (J (L++xL j k)) (hC<|L++xL j k) R (f.x.6.1.alloc _) (A (Z w8.1) 0) 1 1 [H ((k:I)+(j:I))] R R ?c1 ?c2 ?c3 ?c4 ?c5 ?_)
  case c2=>rfl
  case c3=>unfold maxLen;have:=xS j k;omega
  case c4=>have:=xS j k;omega
  case c5=>omega
  intro v9 w9 R_ al a3 aa;obtain⟨br,ab⟩:=(f.box _).pushV al R_ sP (by rw[aO,Xd];exact aa);obtain⟨g9,bd,rfl,P_,O_⟩:=Xm R_ O;have q_:=Y ab;clear P_ O_ a3 aa R_ al ab aq ar k0 kz;have bf:E w9 (A B 0)=S (H ((k:I)+(j:I))):=by
   have:=Bx.c q_.f.6 0;simpa using this
  have bh:=Bx.thaw q_.f.6;go_wp2_with fail
  refine⟨⟨⟨j+1,_,_⟩,R,R,(by show j+1<=i;omega),Y ?_⟩,SA⟩;have af:=q_.val<|k+(j+1);rw[S4,YP,<-cK];rw[show((k+(j+1):N):I)=(k:I)+(j:I)+1 by omega]at af;exact⟨_,_,_,_,_,_,_,af⟩
 have a1:¬(j:I)<i:=O;have a0:j=i:=O;subst a0;go_wp2_with fail
 exact HX.o _ _ _ R d.o
theorem rJ(h:Bx w n E_ m)(l:Sx w B k g a i y)(j:m≠k):S n≠a.ownBlock:=by
 intro b;obtain⟨s,⟨d,_⟩|⟨c,o,p,e1,r,f,q⟩⟩:=l;·subst d;cases b
 subst e1;have:n=c:=by injection b
 subst this;unfold Bx at h;rw[f]at h;injection h with h;injection h with _ e;exact j e.symm
theorem K3{A_ B:Wa}(g:A_.Nodup)(h:∀x∈A_,x∈B):J A_<=J B:=by
 induction A_ generalizing B with
 |nil=>exact aN
 |cons a A_ i=>
  have b:=fL.1 g;have d:∀x∈A_,x∈B.erase a:=λx c=>(iF λe=>b.1<|by rw[<-e];exact c).2 (h x<|cN _ c);have f:=i b.2 d;have ha:=h a cI;rw[fP ha]at f;have:=eJ ha;simp only[bA];omega
theorem Cv(h:¬s.Nodup):∃a,a∈s/\a∈s.erase a:=by
 induction s with
 |nil=>exact Sz iU h
 |cons b s j=>
  by_cases d:b∈s;·exact⟨b,cI,by rw[List.erase_cons_head];exact d⟩
  have g:¬s.Nodup:=λc=>h<|fL.2 ⟨d,c⟩;let⟨a,e,c⟩:=j g;have i:¬b=a:=λf=>d (f▸e);refine⟨a,cN _ e,?_⟩;rw[List.erase_cons_tail<|by simpa using i];exact cN _ c
theorem D3(W p):(Mq W p).Nodup:=by unfold Mq;exact List.filter_sublist.nodup kS
theorem Eo(i:∀c,c<n->(Xh F c=So↔∃v∈s,f v=c))(k:∀v∈s,f v<n):J (Mq F n)<J s↔¬(s.map f).Nodup:=by
 have j:∀x,x∈Mq F n↔x∈s.map f:=λx=>by
  rw[om,aY];constructor;·rintro⟨a,b⟩;exact(i x a).1 b
  rintro⟨v,a,rfl⟩;exact⟨k v a,(i _<|k v a).2 ⟨v,a,R⟩⟩
 have o:J (s.map f)=J s:=sP;constructor
 .intro p d;have:=K3 d λx e=>(j x).2 e;omega
 intro d
 let⟨g,a,b⟩:=Cv d;have l:∀x∈Mq F n,x∈(s.map f).erase g:=λx e=>by
  by_cases h:x=g;·rw[h];exact b
  exact(iF h).2 ((j x).1 e)
 have m:=K3 (D3 F n) l;rw[fP a]at m;have:=eJ a;omega
structure ju(V:Type) where
 reg:I->V
 scr:V
def Sl{V:Type}(f:I->V)(d:I)(v:V):I->V:=λr=>if r=d then v else f r
def r6{V:Type}(s:ju V)(x:Yg):ju V:=if x.1=11 then ⟨Sl s.1 x.2<|s.1 x.a,s.2⟩else if x.1=12 then ⟨s.1,s.1 x.a⟩else ⟨Sl s.1 x.2 s.2,s.2⟩
def RU{V:Type}(s:ju V)(a:Vr):ju V:=a.foldl r6 s
def pZ{V:Type}(s:ju V)(m:Mv):V:=if m.2<0 then s.2 else s.1 m.2
def sy{V:Type}(s:ju V)(L:List Mv)(r:I):V:=match L.find? λm=>m.1==r with
 |some m=>pZ s m
 |none=>s.1 r
theorem zH{L:Wy}(l:(ai L).Nodup){m:Mv}(d:m∈L):(L.find? λq=>q.1==m.1)=S m:=by
 cases h:L.find? λq=>q.1==m.1 with
 |none=>
  have:=lS.1 h m d;simp at this
 |some q=>
  have g:=List.find?_some h;have k:=List.mem_of_find?_eq_some h;obtain⟨i,b,rfl⟩:=bR k;obtain⟨j,c,rfl⟩:=bR d;have f:=gY.1 (show(L.map (·.1)).Pairwise (·≠·)from l);have e:L[i].1=L[j].1:=by simpa using g
  obtain a|a|a:=mA i j;·exact(f i j (by simpa using b) (by simpa using c) a (by simp[e])).elim
  .subst a;rfl
  exact(f j i (by simpa using c) (by simpa using b) a (by simp[e])).elim
theorem Lv{L:Wy}(h:t∉ai L):(L.find? λq=>q.1==t)=U:=lS.2 (λm a=>by
 have:m.1≠t:=λe=>h<|aY.2 ⟨m,a,e⟩
 simpa using this)
theorem yQ{V:Type}{s:ju V}{L:Wy}(b:(ai L).Nodup){m:Mv}(a:m∈L):sy s L m.1=pZ s m:=by unfold sy;rw[zH b a]
theorem wk{V:Type}{s:ju V}{L:Wy}(h:t∉ai L):sy s L t=s.1 t:=by unfold sy;rw[Lv h]
theorem IR{V:Type}{s:ju V}{L:Wy}(d:(ai L).Nodup){f:I->V}(b:∀m∈L,f m.1=pZ s m)(c:∀r,r∉ai L->f r=s.1 r):f=sy s L:=by
 funext r;by_cases h:r∈ai L
 .obtain⟨m,a,rfl⟩:=aY.1 h;rw[b m a,yQ d a]
 rw[c r h,wk h]
theorem Ax:∀{xs ys:Wc},xs.Nodup->(∀x∈xs,x∈ys)->J xs<=J ys
 |[],_,_,_=>aN
 |x::xs,ys,hn,hs=>by obtain⟨c,d⟩:=fL.1 hn;have a:=hs x cI;have:=Ax (xs:=xs) (ys:=ys.erase x) d (λz b=>(iF λe=>c<|by rw[<-e];exact b).2 (hs z<|cN _ b));rw[fP a]at this;have f:0<J ys:=eJ a;simp only[bA];omega
theorem Q5{L:Wy}(h:b9 L)(g:bj (fo L)=U):∀m∈L,0<=m.2:=by
 intro m i;by_cases b:0<=m.2;·exact b
 exfalso;have f:∀t∈ai L,t∈(L.filter λq=>Jd (0<=q.2)).map (·.2):=λt c=>by
  have d:fo L=[]:=lj.1 g;have:an L t=So:=by have:=mJ.1 d t c;simpa using this
  obtain⟨q,k,e⟩:=yV.1 this;obtain⟨p,j,e2⟩:=aY.1 c;have:=h.2 p j;exact aY.2 ⟨q,fG.2 ⟨k,SB⟩,e⟩
 have a:=Ax h.1 f;rw[bK]at a;have l:J (L.filter λq=>Jd (0<=q.2))<J L:=List.length_filter_lt_length_iff_exists.2 ⟨m,i,by simpa using b⟩;unfold ai at a;rw[bK]at a;omega
theorem QO{L:Wy}(b:(ai L).Nodup){m:Mv}(a:m∈L):pz L m.1=m.2:=by unfold pz;rw[zH b a];rfl
theorem VT{V:Type}{L:Wy}(h:b9 L)(u:L≠[])(s:ju V):sy (r6 s (dm L).1) (dm L).2=sy s L:=by
 cases hl:bj (fo L)with
 |some K=>
  obtain⟨n,-⟩:=mq hl;obtain⟨o,k⟩:=fG.1 n;obtain⟨m,f,rfl⟩:=aY.1 o;have j:dm L=(N3 m,ff L m.1):=by unfold dm;rw[hl];show(N3 ⟨m.1,pz L m.1⟩,_)=_;rw[QO h.1 f]
  rw[j];have d:r6 s (N3 m)=⟨Sl s.1 m.1<|pZ s m,s.2⟩:=by
   unfold N3 pZ;by_cases c:m.2<0;·rw[aU c,aU c];rfl
   rw[aM c,aM c];rfl
  rw[d];have v:∀q∈L,q.2≠m.1:=λq a e=>by have:an L m.1=So:=yV.2 ⟨q,a,e⟩;rw[this]at k;cases k
  have x:∀q∈L,pZ (V:=V) ⟨Sl s.1 m.1<|pZ s m,s.2⟩ q=pZ s q:=λq a=>by
   unfold pZ Sl;split;·rfl
   dsimp only;rw[aM<|v q a]
  refine IR h.1 (λq a=>?_) λr l=>?_
  .by_cases e:q.1=m.1
   .have g:q.1∉ai (ff L m.1):=λb=>by
     obtain⟨p,i,e2⟩:=aY.1 b;have:=(fG.1 i).2;simp[e2,e]at this
    rw[wk g];have w:q=m:=by have:=zH h.1 a;rw[e,zH h.1 f]at this;exact(gQ this).symm
    subst w;show Sl _ _ _ _=_;unfold Sl;rw[aU R]
   have b:q∈ff L m.1:=fG.2 ⟨a,by simpa using e⟩;rw[yQ (h.without m.1).1 b,x q a]
  have g:r∉ai (ff L m.1):=λb=>by obtain⟨p,i,e2⟩:=aY.1 b;exact l<|aY.2 ⟨p,(fG.1 i).1,e2⟩
  rw[wk g];show Sl _ _ _ _=_;unfold Sl;rw[aM λe=>l<|by rw[e];exact aY.2 ⟨m,f,R⟩]
 |none=>
  have F:=Q5 h hl;have y:ai L≠[]:=λe=>u (by simpa [ai]using e);cases hlt:bj (ai L)with
  |none=>exact Sz (lj.1 hlt) y
  |some r=>
   have j:dm L=(⟨12,0,r,0,0⟩,scratch L r):=by unfold dm;rw[hl];dsimp only;rw[hlt]
   rw[j];have d:r6 s ⟨12,0,r,0,0⟩=⟨s.1,s.1 r⟩:=R;rw[d];have t:(ai<|scratch L r).Nodup:=(h.scratch r).1;refine IR h.1 (λq a=>?_) λM B=>?_
   .have b:(if q.2=r then (⟨q.1,-1⟩:Mv)else q)∈scratch L r:=aY.2 ⟨q,a,R⟩;have z:(if q.2=r then (⟨q.1,-1⟩:Mv)else q).1=q.1:=by split<;>rfl
    have:=yQ (s:=(⟨s.1,s.1 r⟩:ju V)) t b;rw[z]at this;rw[this];have C:=F q a;unfold pZ;by_cases e:q.2=r;·rw[aU e,aU (show(-1:I)<0 by decide),aM O,e]
    rw[aM e,aM O,aM O]
   rw[wk<|by rw[GL];exact B]
theorem CM{V:Type}:∀(n:N)(L:Wy),dg L<=n->b9 L->∀s:ju V,(RU s<|ax (dg L) L).1=sy s L
 |n,L,hn,h,s=>by
  by_cases a:L=[]
  .subst a;rw[py];rfl
  have b:=xK h a
  match n,hn with
  |0,hn=>omega
  |n+1,hn=>
   rw[If h a];show(RU (r6 s (dm L).1) _).1=_;rw[CM n _ O h.step,VT h a]
end Go.Proofs.YtcncjgijikoapaaGreatDoor
