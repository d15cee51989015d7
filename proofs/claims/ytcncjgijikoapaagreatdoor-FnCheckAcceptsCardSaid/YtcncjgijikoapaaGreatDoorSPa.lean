import Derived.Test.YtcncjgijikoapaaGreatDoorDT0
import Derived.Deep.WholeRow
import Derived.Laws.CopyRow
import Derived.Laws.ResultCell
import Derived.Laws.MakeOwn
namespace Go.Proofs.YtcncjgijikoapaaGreatDoor
set_option maxHeartbeats 8000000
set_option maxRecDepth 100000
open _root_ renaming Array.size->Z,List.length->J,Nat->N,Int->I,rfl->R,Option.some->S,Option.none->U,absurd->Sz,trivial->JV,Bool.false->Sn,Bool.true->So,List.range->Rg,Decidable.decide->Jd
open Go renaming World.cell?->E,World.alloc->D,World.setCell->Se,IntKind.i64->S6,Obj.cells->Sc,World.ownsRow->Sx,RowKit.Below->Sw,Ending.returned->Rt,Calls->Sk,undef->Su,RowKit.intOf->JB,results->JC
open Value renaming slice->X,int->Si,bool->Sb,agg->Sa,pointer->Sj
open Go.RowKit Go.Proofs.Tryz
variable{n m k B g c:N}{Z_:N->N×N×N}{w:Ub}{a A_:Uj}{p:Uy}{h H_:Vu}{l L:Wc}{x:Wi}{y:Wo}
section
def S7(w:Ub)(lab:N->N×N×N)(L:N×N×N)(base:N)(v:Uj)(a:Wc):Prop :=
 ∃d c,v=X d (J a) c/\∀i (h:i<J a),∃q o,d=S (A q o)/\(base<=q/\q<Z w.1)/\lab q=L/\E w (A q (o+i))=S (H a[i])
theorem Xv.intsL{w:Ub}{lab:N->N×N×N}{L:N×N×N}{base:N}{v:Uj}{a:Wc}(h:Xv w lab L base 2 1 v (J a) (hC a)):S7 w lab L base v a:=by obtain⟨d,c,e⟩:=h.form;subst e;refine⟨d,c,R,λj f=>?_⟩;obtain⟨g,i,e⟩:=h.got O;cases e;exact⟨g,0,R,h.blk.1,h.blk.2,by rw[aV];exact h.cell<|by unfold hC;simp[f]⟩
theorem S7.sp{w w':Ub}{lab lab':N->N×N×N}{L:N×N×N}{base:N}{v:Uj}{a:Wc}{ok:Vv}(h:S7 w lab L base v a)(k:XW w w' lab lab' base ok)(g:∀b,lab b=L->ok b):S7 w' lab' L base v a:=by obtain⟨d,c,e,h⟩:=h;refine⟨d,c,e,λi f=>?_⟩;obtain⟨q,o,e1,e2,e3,e4⟩:=h i f;have:=k.2 q e2.1 e2.2<|g q e3;exact⟨q,o,e1,⟨e2.1,aX e2.2 k.1⟩,G this.2 e3,G (Xc this.1) e4⟩
theorem S7.nil{w:Ub}{lab:N->N×N×N}{L:N×N×N}{base:N}:S7 w lab L base Hq []:=⟨U,0,R,λi a=>Sz a sP⟩
theorem Lp{w:Ub}{lab:N->N×N×N}{base g n c:N}{xs:Wi}{pv iv:Vu}{av:N->Vu}(a:Xv w lab (1,0,0) base 52 6 (Hl g n c) (J xs) (jx pv iv xs))(u:∀i (h:i<J xs),Xv w lab (2,i,0) base 152 2 (pv i) (J xs[i].1) (jw (av i) xs[i].1))(q:∀i (h:i<J xs),Xv w lab (3,i,0) base 64 5 (iv i) (J xs[i].2) (Lk xs[i].2))(l:∀i (h:i<J xs) j (d:j<J xs[i].1),S7 w lab (4,i,j) base (av i j) xs[i].1[j].2):Xp w base (Z w.1) (S ⟨g,0,U⟩) xs:=by
 have t:=R4 a;subst t;exact Dl a u q (λi h j d=>by obtain⟨e,f,k,ha⟩:=l i h j d;exact⟨e,f,k,λm r=>by obtain⟨v,o,e1,e2,_,e4⟩:=ha m r;exact⟨v,o,e1,e2,e4⟩⟩)
theorem O3{pv iv:Vu}{xs:Wi}{i:N}(k:i<J xs)(x:Xe)(p q:Uj):jx (λj=>if j=i then p else pv j) (λj=>if j=i then q else iv j) (xs.set i x)=((((((jx pv iv xs).set (i*6) p).set (i*6+1) q).set (i*6+2) (H x.3.1)).set (i*6+3) (H x.3.a)).set (i*6+4) (H x.3.3)).set (i*6+5) (H x.3.4):=by
 refine iG λr=>?_;have g:J (jx pv iv xs)=J xs*6:=Zn (sz:=6) (λ_ _=>R) _ _;have o:J (jx (λj=>if j=i then p else pv j) (λj=>if j=i then q else iv j) (xs.set i x))=J xs*6:=G (Zn (sz:=6) (λ_ _=>R) 0 (xs.set i x)) sP;by_cases t:r<J xs*6
 .have a:r/6<J xs:=O;have l:r/6<J (xs.set i x):=by simpa using a
  have f:r=r/6*6+r%6:=O;have d:r%6<6:=dS _ vY;generalize r/6=j at*;generalize r%6=m at*;subst f;have h:(jx (λj=>if j=i then p else pv j) (λj=>if j=i then q else iv j) (xs.set i x))[j*6+m]?=(L7 (if j=i then p else pv j) (if j=i then q else iv j) (xs.set i x)[j].3)[m]?:=by unfold jx;rw[Xz (sz:=6) (λ_ _=>R) 0 (xs.set i x) j (by simpa using a) m d,aV]
  rw[h];by_cases e:j=i
  .subst e;rw[aU R,aU R,cQ];simp only[kG,g]
   match m,d with
   |0,_=>simp[L7];omega
   |1,_=>simp[L7];omega
   |2,_=>simp[L7];omega
   |3,_=>simp[L7];omega
   |4,_=>simp[L7];omega
   |5,_=>simp[L7];omega
  rw[aM e,aM e,bI λe2=>e e2.symm];rw[dZ O,dZ O,dZ O,dZ O,dZ O,dZ O];unfold jx;rw[Xz (sz:=6) (λ_ _=>R) 0 xs j a m d,aV]
 rw[dK O,dK<|by simp only[bL];omega]
structure jd(w wr:Ub)(lab:N->N×N×N)(base sb B:N)(s:cB)(V:I)(G_ n c:N)(xs:Wi)(pv iv:Vu)(av:N->Vu)(b xb:N)(p:Uj)(y:Xe)(ay:Vu):Prop where
 blks:Xv wr lab (1,0,0) base 52 6 (X (S ⟨G_,0,U⟩) n c) (J xs) (jx pv iv xs)
 ps:∀i (h:i<J xs),i≠b->Xv wr lab (2,i,0) base 152 2 (pv i) (J xs[i].1) (jw (av i) xs[i].1)
 ins:∀i (h:i<J xs),i≠b->Xv wr lab (3,i,0) base 64 5 (iv i) (J xs[i].2) (Lk xs[i].2)
 args:∀i (h:i<J xs) j (hj:j<J xs[i].1),i≠b->S7 wr lab (4,i,j) base (av i j) xs[i].1[j].2
 yph:Xv wr lab (2,b,0) base 152 2 p (J y.1) (jw ay y.1)
 yin:Xv wr lab (3,b,0) base 64 5 (iv b) (J y.2) (Lk y.2)
 yar:∀j (hj:j<J y.1),S7 wr lab (4,b,j) base (ay j) y.1[j].2
 dr:i9 wr sb B s
 bb:B<=base
 os:wr.4=w.4
 tape:wr.2=w.2
 output:wr.5=w.5
 size:Z w.1<=Z wr.1
 low:∀q,q<base->q≠sb->wr.1[q]?=w.1[q]?
 fr:∀q,Z wr.1<=q->lab q=(0,0,0)
 bs:base<=Z w.1
 box:Bx wr (Z w.1) #[Si S6 V,X (S ⟨G_,0,U⟩) n c] 25
 boxl:lab (Z w.1)=(0,0,0)
 res:Bx wr (Z w.1+1) #[Si S6 0,X U 0 0] 25
 resl:lab (Z w.1+1)=(0,0,0)
 xbx:Bx wr xb #[p,iv b,Si S6 y.3.1,Si S6 y.3.a,Si S6 y.3.3,Si S6 y.3.4] 52
 xbl:lab xb=(0,0,0)
 xlt:Z w.1+1<xb
variable {w wr w': Ub} {lab lab': N -> N×N×N} {base sb B: N} {s s': cB} {V V': I} {G_ n c: N} {xs: Wi} {pv iv: N -> Uj} {av: N -> N -> Uj} {b xb: N} {p p': Uj} {y y': Xe} {ay ay': N -> Uj}
theorem jd.step{ok:Vv}(h:jd w wr lab base sb B s V G_ n c xs pv iv av b xb p y ay)(k:XW wr w' lab lab' base ok)(f:∀q,(lab q).1≠0->(lab q).2.1≠b\/(lab q).1=1->ok q)(F:Xv w' lab' (2,b,0) base 152 2 p' (J y'.1) (jw ay' y'.1))(C:Xv w' lab' (3,b,0) base 64 5 (iv b) (J y'.2) (Lk y'.2))(K:∀j (m:j<J y'.1),S7 w' lab' (4,b,j) base (ay' j) y'.1[j].2)(dr:i9 w' sb B s')(r:w'.4=wr.4)(v:w'.2=wr.2)(t:w'.5=wr.5)(low:∀q,q<base->q≠sb->w'.1[q]?=wr.1[q]?)(box:Bx w' (Z w.1) #[H V',Hl G_ n c] 25)(o:lab' (Z w.1)=(0,0,0))(res:Bx w' (Z w.1+1) #[H 0,Hq] 25)(u:lab' (Z w.1+1)=(0,0,0))(z:Bx w' xb #[p',iv b,H y'.3.1,H y'.3.a,H y'.3.3,H y'.3.4] 52)(x:lab' xb=(0,0,0)):jd w w' lab' base sb B s' V' G_ n c xs pv iv av b xb p' y' ay':=by refine⟨h.1.sp k λq e=>f q (by rw[e];simp) (aZ<|by rw[e]),λi d a=>(h.2 i d a).sp k (λq e=>f q (by rw[e];simp) (bC<|by rw[e];exact a)),λi d a=>(h.3 i d a).sp k (λq e=>f q (by rw[e];simp) (bC<|by rw[e];exact a)),λi d j m a=>(h.4 i d j m a).sp k (λq e=>f q (by rw[e];simp) (bC<|by rw[e];exact a)),F,C,K,dr,h.9,G r h.os,G v h.11,G t h.12,aJ h.13 k.1,λq g l=>G (low q g l) (h.14 q g l),k.3 h.fr,h.bs,box,o,res,u,z,x,h.23⟩
theorem jd.lt(h:jd w wr lab base sb B s V G_ n c xs pv iv av b xb p y ay):sb<base:=oP h.9 h.8.3
theorem jd.call(h:jd w wr lab base sb B s V G_ n c xs pv iv av b xb p y ay)(g:wr.grownBy w' (S sb))(d:i9 w' sb B s'):jd w w' lab base sb B s' V G_ n c xs pv iv av b xb p y ay:=by have k:XW wr w' lab lab base (λ_=>True):=XW.grown g h.lt;have m:=h.lt;have l:=h.bs;have r:=h.23;have o:=h.13;exact h.step k (λ_ _ _=>JV) (h.5.sp k λ_ _=>JV) (h.6.sp k λ_ _=>JV) (λj f=>(h.7 j f).sp k λ_ _=>JV) d g.1 g.2 g.3 (λq i a=>g.5 q O λe=>a<|by injection e) (h.17.grown g<|by intro e;injection e;omega) h.18 (h.19.grown g<|by intro e;injection e;omega) h.20 (h.21.grown g<|by intro e;injection e;omega) h.22
theorem jd.drew(h:jd w wr lab base sb B s V G_ n c xs pv iv av b xb p y ay):jd w wr.drew lab base sb B s V G_ n c xs pv iv av b xb p y ay:=h.call ⟨R,R,R,aA,λ_ _ _=>R⟩ h.8.drew
theorem jd.alloc(h:jd w wr lab base sb B s V G_ n c xs pv iv av b xb p y ay)(o:Obj):jd w (D wr o) lab base sb B s V G_ n c xs pv iv av b xb p y ay:=h.call (bW wr o<|S sb) (h.8.box o)
theorem jd.putB{g q:N}{u:Uj}{t:Yj}(h:jd w wr lab base sb B s V G_ n c xs pv iv av b xb p y ay)(f:lab g=(0,0,0))(o:base<=g)(i:Z w.1+1≠g)(box:Bx (Se wr ⟨g,q,U⟩ u) (Z w.1) #[Si S6 V',X (S ⟨G_,0,U⟩) n c] 25)(m:Bx (Se wr ⟨g,q,U⟩ u) xb #[p,iv b,Si S6 t.1,Si S6 t.a,Si S6 t.3,Si S6 t.4] 52):jd w (Se wr ⟨g,q,U⟩ u) lab base sb B s V' G_ n c xs pv iv av b xb p ⟨y.1,y.2,t⟩ ay:=by have k:XW wr (Se wr (A g q) u) lab lab base (λb=>b≠g):=XW.put g q u;have d:∀q,(lab q).1≠0->q≠g:=λq a e=>a (by rw[e,f]);have:=h.9;exact h.step k (λq a _=>d q a) (h.5.sp k λq e=>d q<|by rw[e];simp) (h.6.sp k λq e=>d q<|by rw[e];simp) (λl j=>(h.7 l j).sp k λq e=>d q<|by rw[e];simp) (h.8.put O) R R R (λq a _=>cY<|by show q≠g;omega) box h.18 (h.19.other i) h.20 m h.22
theorem jd.putV(h:jd w wr lab base sb B s V G_ n c xs pv iv av b xb p y ay)(z:I):jd w (Se wr ⟨Z w.1,0,U⟩ (Si S6 z)) lab base sb B s z G_ n c xs pv iv av b xb p y ay:=by have:=h.23;refine h.putB (t:=y.3) h.18 h.bs O ?_ (h.21.other O);have:=h.17.set 0<|H z;simpa using this
theorem jd.putT(h:jd w wr lab base sb B s V G_ n c xs pv iv av b xb p y ay)(t:Yj)(q:N)(u:Uj)(a:(#[p,iv b,Si S6 y.3.1,Si S6 y.3.a,Si S6 y.3.3,Si S6 y.3.4]:Zh).setIfInBounds q u=#[p,iv b,Si S6 t.1,Si S6 t.a,Si S6 t.3,Si S6 t.4]):jd w (Se wr ⟨xb,q,U⟩ u) lab base sb B s V G_ n c xs pv iv av b xb p ⟨y.1,y.2,t⟩ ay:=by have:=h.23;have:=h.bs;refine h.putB h.22 O O (h.17.other O) ?_;have:=h.21.set q u;rw[a]at this;exact this
def sK(w:Ub)(d:Uy)(xs:Wi):Prop:=∀i (_:i<J xs) b o ia n a,d=S (A b o)->E w (A b (o+i*6+1))=S (X ia n a)->n<=a
theorem Ae{w:Ub}{lab:N->N×N×N}{base g n c:N}{xs:Wi}{pv iv:Vu}(e:Xv w lab (1,0,0) base 52 6 (Hl g n c) (J xs) (jx pv iv xs))(k:∀i (q:i<J xs),Xv w lab (3,i,0) base 64 5 (iv i) (J xs[i].2) (Lk xs[i].2)):sK w (S ⟨g,0,U⟩) xs:=λi f b o r m t h d=>by
 cases h;rw[aV]at d;have l:=R4 e;subst l;have j:(jx pv iv xs)[i*6+1]?=S (iv i):=by have:=Xz (f:=λi (x:Xe)=>L7 (pv i) (iv i) x.3) (sz:=6) (λ_ _=>R) 0 xs i f 1 vY;rw[aV]at this;exact this
 rw[Jj e.1 j]at d;have a:=gQ d;obtain⟨e1,_,_⟩|⟨g',c',e1,_,h3⟩:=Vc (k i f).1
 .rw[e1]at a;cases a;exact aA
 rw[e1]at a;cases a;exact h3
structure S8(w w':Ub)(base sb:N)(a:Uy)(xs:Wi)(B:N)(s:cB):Prop where
 dr:i9 w' sb B s
 at_:Xp w' base (Z w'.1) a xs
 cp:sK w' a xs
 os:w'.4=w.4
 tape:w'.2=w.2
 output:w'.5=w.5
 size:Z w.1<=Z w'.1
 low:∀q,q<base->q≠sb->w'.1[q]?=w.1[q]?
theorem jd.done{u0 u1:Uj}(h:jd w wr lab base sb B s V G_ n c xs pv iv av b xb p y ay)(a:b<J xs):S8 w (Se (Se (Se (Se (Se (Se (Se (Se wr ⟨G_,b*6,U⟩ p) ⟨G_,b*6+1,U⟩ (iv b)) ⟨G_,b*6+2,U⟩ (Si S6 y.3.1)) ⟨G_,b*6+3,U⟩ (Si S6 y.3.a)) ⟨G_,b*6+4,U⟩ (Si S6 y.3.3)) ⟨G_,b*6+5,U⟩ (Si S6 y.3.4)) ⟨Z w.1+1,0,U⟩ u0) ⟨Z w.1+1,1,U⟩ u1) base sb (S ⟨G_,0,U⟩) (xs.set b y) B s:=by
 have C:=R4 h.1;subst C;have F:=h.1.blk.2;have g:=h.1.blk.1.1;have L:=h.bs;have K:XW wr (Se (Se (Se (Se (Se (Se wr (A G_ (b*6)) p) (A G_ (b*6+1)) (iv b)) (A G_ (b*6+2)) (H y.3.1)) (A G_ (b*6+3)) (H y.3.a)) (A G_ (b*6+4)) (H y.3.3)) (A G_ (b*6+5)) (H y.3.4)) lab lab base (λb=>b≠G_) :=
  ((((((XW.put G_ _ _).trans (XW.put G_ _ _)).trans (XW.put G_ _ _)).trans (XW.put G_ _ _)).trans (XW.put G_ _ _)).trans (XW.put G_ _ _)).weak λb a=>⟨⟨⟨⟨⟨a,a⟩,a⟩,a⟩,a⟩,a⟩
 have v:XW (Se (Se (Se (Se (Se (Se wr (A G_ (b*6)) p) (A G_ (b*6+1)) (iv b)) (A G_ (b*6+2)) (H y.3.1)) (A G_ (b*6+3)) (H y.3.a)) (A G_ (b*6+4)) (H y.3.3)) (A G_ (b*6+5)) (H y.3.4)) (Se (Se (Se (Se (Se (Se (Se (Se wr (A G_ (b*6)) p) (A G_ (b*6+1)) (iv b)) (A G_ (b*6+2)) (H y.3.1)) (A G_ (b*6+3)) (H y.3.a)) (A G_ (b*6+4)) (H y.3.3)) (A G_ (b*6+5)) (H y.3.4)) (A (Z w.1+1) 0) u0) (A (Z w.1+1) 1) u1) lab lab base (λb=>b≠Z w.1+1):=((XW.put _ _ _).trans (XW.put _ _ _)).weak λb a=>⟨a,a⟩;have x:∀q,(lab q).1≠0->q≠Z w.1+1:=λq d e=>d (by rw[e,h.20]);have ng:∀q,(lab q).1≠0->lab q≠(1,0,0)->q≠G_/\q≠Z w.1+1:=λq d a=>⟨λe=>a (by rw[e];exact F),x q d⟩
 have l:=K.trans v;have o:=(((((h.1.set (b*6) p).set (b*6+1) (iv b)).set (b*6+2) (H y.3.1)).set (b*6+3) (H y.3.a)).set (b*6+4) (H y.3.3)).set (b*6+5) (H y.3.4);rw[<-O3 a]at o;have t:base<=Z w.1+1:=O;have f:=((((((((dC base wr).setCell (p:=A G_ (b*6)) g p).setCell (p:=A G_ (b*6+1)) g (iv b)).setCell (p:=A G_ (b*6+2)) g (H y.3.1)).setCell (p:=A G_ (b*6+3)) g (H y.3.a)).setCell (p:=A G_ (b*6+4)) g (H y.3.3)).setCell (p:=A G_ (b*6+5)) g (H y.3.4)).setCell (p:=A (Z w.1+1) 0) t u0).setCell (p:=A (Z w.1+1) 1) t u1;have r:=o.sp v (λq e=>x q<|by rw[e];simp);have u:∀i (k:i<J (xs.set b y)),Xv (Se (Se (Se (Se (Se (Se (Se (Se wr (A G_ (b*6)) p) (A G_ (b*6+1)) (iv b)) (A G_ (b*6+2)) (H y.3.1)) (A G_ (b*6+3)) (H y.3.a)) (A G_ (b*6+4)) (H y.3.3)) (A G_ (b*6+5)) (H y.3.4)) (A (Z w.1+1) 0) u0) (A (Z w.1+1) 1) u1) lab (3,i,0) base 64 5 ((λj=>if j=b then iv b else iv j) i) (J (xs.set b y)[i].2) (Lk (xs.set b y)[i].2):=λi k=>by
  try dsimp only
  by_cases e:i=b
  .subst e;simp only[aU,cQ];exact h.6.sp l λb e=>ng b (by rw[e];simp) (by rw[e];simp)
  simp only[aM e,bI λe2=>e e2.symm];exact(h.3 i (by simpa using k) e).sp l λb e=>ng b (by rw[e];simp) (by rw[e];simp)
 refine⟨h.8.keep<|f.mono h.9,Lp (xs:=xs.set b y) (n:=J xs) (c:=c) (pv:=λj=>if j=b then p else pv j) (iv:=λj=>if j=b then iv b else iv j) (av:=λj=>if j=b then ay else av j) (by rw[bL];exact r) (λi k=>?_) u λi k j m=>?_,Ae (n:=J xs) (c:=c) (by rw[bL];exact r) u,G f.1 h.os,G f.2 h.11,G f.3 h.12,aJ h.13 f.4,λq d z=>G (f.5 q d) (h.14 q d z)⟩
 .by_cases e:i=b
  .subst e;simp only[aU,cQ];exact h.5.sp l λb e=>ng b (by rw[e];simp) (by rw[e];simp)
  simp only[aM e,bI λe2=>e e2.symm];exact(h.2 i (by simpa using k) e).sp l λb e=>ng b (by rw[e];simp) (by rw[e];simp)
 by_cases e:i=b
 .subst e;simp only[cQ]at m |-;simp only[aU];exact(h.7 j m).sp l λb e=>ng b (by rw[e];simp) (by rw[e];simp)
 simp only[bI λe2=>e e2.symm]at m |-;simp only[aM e];exact(h.4 i (by simpa using k) j m e).sp l λb e=>ng b (by rw[e];simp) (by rw[e];simp)
theorem Ry.hand{v:N}(h:Ry w wr lab base sb B s v G_ n c xs pv iv av)(e:b<J xs):jd w (D wr (Sc #[pv b,iv b,Si S6 xs[b].3.1,Si S6 xs[b].3.a,Si S6 xs[b].3.3,Si S6 xs[b].3.4] 52)) lab base sb B s (v:I) G_ n c xs pv iv av b (Z wr.1) (pv b) xs[b] (av b):=by have a:=h.alloc (Sc #[pv b,iv b,H xs[b].3.1,H xs[b].3.a,H xs[b].3.3,H xs[b].3.4] 52);exact⟨a.1.1,λi d _=>a.1.2 i d,λi d _=>a.1.3 i d,λi d j f _=>(a.1.4 i d j f).intsL,a.1.2 b e,a.1.3 b e,λj f=>(a.1.4 b e j f).intsL,a.2,a.3,a.4,a.5,a.6,a.7,a.8,λq g=>a.9 q<|aJ a.7 g,a.bs,a.11,a.9 _ aA,a.12,a.9 _ O,Bx.new _ _ _,a.9 _ h.7,h.12.lt⟩
end
section
variable {w wr w' w8: Ub} {lab lab': N -> N×N×N} {base sb B: N} {s s': cB} {V V': I} {G_ n c: N} {xs: Wi} {pv iv: N -> Uj} {av: N -> N -> Uj} {b xb: N} {p p': Uj} {y y': Xe} {ay ay': N -> Uj}
theorem ze{ps:Za}{j:N}{q:Ph}{v:Uj}(a:j<J ps)(e:q.1=ps[j].1):jw (λm=>if m=j then v else ay m) (ps.set j q)=(jw ay ps).set (j*2+1) v:=by unfold jw;exact WA (f:=λj (p:Ph)=>[H p.1,ay j]) (f':=λj (p:Ph)=>[H p.1,if j=_ then v else ay j]) (sz:=2) (λ_ _=>R) 0 ps j a q 1 v O (by rw[aV,aU R,e];rfl) λm f d=>by rw[aV,aM d]
theorem jd.setPh{a K F j:N}{v:Uj}{f:Wc}(h:jd w wr lab base sb B s V G_ n c xs pv iv av b xb p y ay)(x:p=X (S ⟨a,0,U⟩) K F)(r:j<J y.1)(L:S7 wr lab (4,b,j) base v f):
 jd w (Se wr ⟨a,j*2+1,U⟩ v) lab base sb B s V G_ n c xs pv iv av b xb p ⟨y.1.set j ⟨y.1[j].1,f⟩,y.2,y.3⟩ (λm=>if m=j then v else ay m):=by
 subst x;have g:=h.5;have u:=R4 g;subst u;have o:=g.blk.2;have P:=g.blk.1.1;have k:XW wr (Se wr (A a (j*2+1)) v) lab lab base (λb=>b≠a):=XW.put a _ v;have d:∀q,lab q≠(2,b,0)->q≠a:=λq i e=>i (by rw[e,o]);have:=h.9;have C:Z w.1≠a:=d _ (by rw[h.18];simp);have M:xb≠a:=d _ (by rw[h.22];simp);refine h.step k (λq i l=>d q λe=>by rw[e]at l;simp at l) ?_ (h.6.sp k λq e=>d q<|by rw[e];simp) (λm t=>?_) (h.8.put O) R R R (λq i _=>cY<|by show q≠a;omega) (h.17.other C) h.18 (h.19.other<|d _ (by rw[h.20];simp)) h.20 (h.21.other M) h.22
 .have z:=g.set (j*2+1) v;show Xv _ lab (2,b,0) base 152 2 _ (J (y.1.set j ⟨y.1[j].1,f⟩)) (jw (λm=>if m=j then v else ay m) (y.1.set j ⟨y.1[j].1,f⟩));rw[bL,ze (q:=⟨y.1[j].1,f⟩) r R];exact z
 by_cases e:m=j
 .subst e;simp only[cQ,aU];exact L.sp k λq e=>d q<|by rw[e];simp
 simp only[bI λe2=>e e2.symm,aM e];exact(h.7 m<|by simpa using t).sp k λq e=>d q<|by rw[e];simp
theorem jd.push{o:Obj}{z:N}{g:Uj}(i:jd w wr lab base sb B s V G_ n c xs pv iv av b xb p y ay)(f:(D wr o).grownBy w8 p.ownBlock)(L:Sx w8 base 152 2 g z (jw ay y.1++[Si S6 0,X U 0 0]))(K:z=J y.1+1)(F:g.ownBlock=p.ownBlock\/g.ownBlock=S (Z (D wr o).1)):
 Bx w8 xb #[p,iv b,Si S6 y.3.1,Si S6 y.3.a,Si S6 y.3.3,Si S6 y.3.4] 52/\∃lab',jd w (Se w8 ⟨xb,0,U⟩ g) lab' base sb B s V G_ n c xs pv iv av b xb g ⟨y.1++[⟨0,[]⟩],y.2,y.3⟩ (λj=>if j=J y.1 then X U 0 0 else ay j):=by
 have a:=i.alloc o;obtain⟨lab',T,v⟩:=a.5.grow f L F a.fr;have P_:=i.9;have W:=i.bs;have S_:=i.23;have R_:=a.13;have sm:∀q,base<=q->q<Z (D wr o).1->lab q≠(2,b,0)->w8.1[q]?=(D wr o).1[q]?/\lab' q=lab q:=λq d h E_=>v.2 q d h E_;have M:=sm xb O a.21.lt (by rw[a.22];simp);have P:=sm (Z w.1) W a.17.lt (by rw[a.18];simp);have C:=sm (Z w.1+1) O a.19.lt (by rw[a.20];simp);have t:=a.21.keep M.1;have r:∀q,q<base->w8.1[q]?=(D wr o).1[q]?:=λq M_=>f.5 q (oN a.13) (λe=>by have:=(a.5.1.lt q e.symm).1;omega);have x:XW w8 (Se w8 (A xb 0) g) lab' lab' base (λq=>q≠xb):=XW.put xb 0 g;have u:lab' xb=(0,0,0):=G M.2 a.22;have O_:∀q,(lab' q).1≠0->q≠xb:=λq d e=>d (by rw[e,u]);have k:=v.trans x;have l:∀q,(lab q).1≠0->lab q≠(2,b,0)->lab q≠(2,b,0)/\q≠xb:=λq d h=>⟨h,λe=>d<|by rw[e,a.22]⟩;refine⟨t,lab',a.step k (λq d h=>l q d λe=>by rw[e]at h;simp at h) ?_ (a.6.sp k λq e=>l q (by rw[e];simp) (by rw[e];simp)) (λm I_=>?_) ?_ f.1 f.2 f.3 (λq d _=>G (cY<|by show q≠xb;omega) (r q d)) ((a.17.keep P.1).other O) (G P.2 a.18) ((a.19.keep C.1).other O) (G C.2 a.20) ?_ u⟩
 .subst K
  have e:jw (λj=>if j=J y.1 then Hq else ay j) (y.1++[⟨0,[]⟩])=jw ay y.1++[H 0,Hq]:=by unfold jw;rw[Zo,aV];dsimp only;rw[aU R,x8 (f':=λj (p:Ph)=>[H p.1,ay j]) 0 y.1 λT_ Q_=>by rw[aV,aM O]]
  show Xv _ lab' (2,b,0) base 152 2 g (J (y.1++[(⟨0,[]⟩:Ph)])) (jw (λj=>if j=J y.1 then Hq else ay j) (y.1++[(⟨0,[]⟩:Ph)]));rw[e,aQ];exact T.sp x λq e=>O_ q<|by rw[e];simp
 .by_cases e:m<J y.1
  .simp only[fA e,aM<|Nat.ne_of_lt e];exact(a.7 m e).sp k λq e=>l q (by rw[e];simp) (by rw[e];simp)
  have J_:m=J y.1:=by simp at I_;omega
  subst J_;simp only[fN aA,aU,kL,eM];exact S7.nil
 .refine i9.put (a.8.keep ⟨f.1,f.2,f.3,f.4,λq M_=>r q O⟩) O
 have:=t.set 0 g;simpa using this
theorem jd.push0{o:Obj}{L d F M:N}{v h:Uj}{f:Wc}(r:jd w wr lab base sb B s V G_ n c xs pv iv av b xb p y ay)(W_:p=X (S ⟨d,0,U⟩) F M)(x:0<J y.1)(Z_:Xv wr lab (4,b,0) base 2 1 v (J f) (hC f))(g:(D wr o).grownBy w8 v.ownBlock)(U_:Sx w8 base 2 1 h L (hC f++[Si S6 0]))(S_:L=J f+1)(M_:h.ownBlock=v.ownBlock\/h.ownBlock=S (Z (D wr o).1)):
 (Bx w8 xb #[p,iv b,Si S6 y.3.1,Si S6 y.3.a,Si S6 y.3.3,Si S6 y.3.4] 52/\E w8 ⟨d,1,U⟩=S (ay 0)/\w8.frozen? ⟨d,1,U⟩=Sn)/\∃lab',jd w (Se w8 ⟨d,1,U⟩ h) lab' base sb B s V G_ n c xs pv iv av b xb p ⟨y.1.set 0 ⟨y.1[0].1,f++[0]⟩,y.2,y.3⟩ (λm=>if m=0 then h else ay m):=by
 have a:=r.alloc o;have P:Xv (D wr o) lab (4,b,0) base 2 1 v (J f) (hC f):=Z_.sp (XW.box o) λ_ _=>JV;obtain⟨lab',Y_,u⟩:=P.grow g U_ M_ a.fr;have ab:=r.9;have N_:=r.bs;have hx:=r.23;have ad:=a.13;have sm:∀q,base<=q->q<Z (D wr o).1->lab q≠(4,b,0)->w8.1[q]?=(D wr o).1[q]?/\lab' q=lab q:=λq i j L_=>u.2 q i j L_;have K:=sm xb O a.21.lt (by rw[a.22];simp);have T:=sm (Z w.1) N_ a.17.lt (by rw[a.18];simp);have W:=sm (Z w.1+1) O a.19.lt (by rw[a.20];simp);have C:=a.21.keep K.1;have z:∀q,q<base->w8.1[q]?=(D wr o).1[q]?:=λq X_=>g.5 q O (λe=>by have:=(P.1.lt q e.symm).1;omega);subst W_;have k:Xv w8 lab' (2,b,0) base 152 2 (Hl d F M) (J y.1) (jw ay y.1):=a.5.sp u (λq e=>by rw[e];simp);have T_:=R4 k;subst T_;have P_:=k.blk.2;have ac:=k.blk.1.1;have Q_:=a.5.blk.2;have D_:XW w8 (Se w8 (A d 1) h) lab' lab' base (λq=>q≠d):=XW.put d 1 h;have nb:∀q,lab' q≠(2,b,0)->q≠d:=λq i e=>i (by rw[e,P_]);have l:∀q,lab q≠(2,b,0)->q≠d:=λq i e=>i<|by rw[e,Q_]
 have t:=u.trans D_;have O_:E w8 (A d 1)=S (ay 0):=k.cell (by unfold jw;have:=Xz (sz:=2) (f:=λaa (p:Ph)=>[H p.1,ay aa]) (λ_ _=>R) 0 y.1 0 x 1 O;rw[lC,aV]at this;rw[this];rfl)
 refine⟨⟨C,O_,k.thaw 1⟩,lab',a.step t (λq i j=>⟨λe=>by rw[e]at j;simp at j,l q λe=>by rw[e]at j;simp at j⟩) ?_ (a.6.sp t λq e=>⟨by rw[e];simp,l q<|by rw[e];simp⟩) (λm R_=>?_) ?_ g.1 g.2 g.3 (λq i _=>G (cY<|by show q≠d;omega) (z q i)) ((a.17.keep T.1).other (l _<|by rw[a.18];simp)) (G T.2 a.18) ((a.19.keep W.1).other (l _<|by rw[a.20];simp)) (G W.2 a.20) (C.other<|l _ (by rw[a.22];simp)) (G K.2 a.22)⟩
 .show Xv _ lab' (2,b,0) base 152 2 _ (J (y.1.set 0 ⟨y.1[0].1,f++[0]⟩)) (jw (λm=>if m=0 then h else ay m) (y.1.set 0 ⟨y.1[0].1,f++[0]⟩));rw[bL,ze (q:=⟨y.1[0].1,f++[0]⟩) x R];exact k.set 1 h
 .by_cases e:m=0
  .subst e;simp only[cQ,aU];refine S7.sp (Xv.intsL ?_) D_ (λq e=>nb q<|by rw[e];simp);subst S_;have e2:hC (f++[0])=hC f++[H 0]:=by simp[hC]
   rw[e2,aQ];exact Y_
  simp only[bI λe2=>e e2.symm,aM e];exact(a.7 m<|by simpa using R_).sp t λq e3=>⟨by rw[e3];simp;exact e,l q<|by rw[e3];simp⟩
 exact i9.put (a.8.keep ⟨g.1,g.2,g.3,g.4,λq X_=>z q O⟩) O
theorem jd.setA{a u j m:N}{d:Wc}{z:I}(h:jd w wr lab base sb B s V G_ n c xs pv iv av b xb p y ay)(o:0<J y.1)(g:Xv wr lab (4,b,0) base 2 1 (X (S ⟨a,0,U⟩) u j) (J d) (hC d))(C:ay 0=X (S ⟨a,0,U⟩) u j):
 jd w (Se wr ⟨a,m,U⟩ (Si S6 z)) lab base sb B s V G_ n c xs pv iv av b xb p ⟨y.1.set 0 ⟨y.1[0].1,d.set m z⟩,y.2,y.3⟩ ay:=by
 have r:=R4 g;have v:lab a=(4,b,0):=g.2 a R;have K:=(g.1.lt a R).1;have k:XW wr (Se wr (A a m) (H z)) lab lab base (λb=>b≠a):=XW.put a _ _;have f:∀q,lab q≠(4,b,0)->q≠a:=λq i e=>i (by rw[e,v]);have:=h.9;refine h.step k (λq i l=>f q λe=>by rw[e]at l;simp at l) ?_ (h.6.sp k λq e=>f q<|by rw[e];simp) (λt x=>?_) (h.8.put O) R R R (λq i _=>cY<|by show q≠a;omega) (h.17.other<|f _ (by rw[h.18];simp)) h.18 (h.19.other<|f _ (by rw[h.20];simp)) h.20 (h.21.other<|f _ (by rw[h.22];simp)) h.22
 .have F:=h.5.sp k λq e=>f q<|by rw[e];simp
  have e:jw ay (y.1.set 0 ⟨y.1[0].1,d.set m z⟩)=jw ay y.1:=by
   have e1:=ze (ay:=ay) (ps:=y.1) (j:=0) (q:=⟨y.1[0].1,d.set m z⟩) (v:=ay 0) o R;have e2:=ze (ay:=ay) (ps:=y.1) (j:=0) (q:=y.1[0]) (v:=ay 0) o R;have e3:(λm=>if m=0 then ay 0 else ay m)=ay:=by funext m;by_cases e:m=0;(rw[aU e,e]);(rw[aM e])
   rw[e3]at e1 e2;rw[e1,<-e2,fK]
  show Xv _ lab (2,b,0) base 152 2 p (J (y.1.set 0 ⟨y.1[0].1,d.set m z⟩)) (jw ay<|y.1.set 0 ⟨y.1[0].1,d.set m z⟩);rw[bL,e];exact F
 by_cases e:t=0
 .subst e;simp only[cQ];rw[C];refine Xv.intsL ?_;rw[r]at g;have:=g.set m<|H z;have e2:hC (d.set m z)=(hC d).set m (H z):=by simp[hC,List.map_set]
  rw[e2,bL,r];exact this
 simp only[bI λe2=>e e2.symm];exact(h.7 t<|by simpa using x).sp k λq e3=>f q<|by rw[e3];simp;exact e
theorem jd.setI{a K L i m:N}{z:I}{x':Yg}(h:jd w wr lab base sb B s V G_ n c xs pv iv av b xb p y ay)(u:i<J y.2)(o:iv b=X (S ⟨a,0,U⟩) K L)(v:m<5)(C:x'.cells=y.2[i].cells.set m (Si S6 z)):
 jd w (Se wr ⟨a,i*5+m,U⟩ (Si S6 z)) lab base sb B s V G_ n c xs pv iv av b xb p ⟨y.1,y.2.set i x',y.3⟩ ay:=by
 have d:=h.6;rw[o]at d;have M:=R4 d;have t:lab a=(3,b,0):=d.2 a R;have F:=(d.1.lt a R).1;have k:XW wr (Se wr (A a (i*5+m)) (H z)) lab lab base (λb=>b≠a):=XW.put a _ _;have f:∀q,lab q≠(3,b,0)->q≠a:=λq g e=>g<|by rw[e,t]
 have:=h.9;refine h.step k (λq g j=>f q λe=>by rw[e]at j;simp at j) (h.5.sp k λq e=>f q<|by rw[e];simp) ?_ (λr l=>(h.7 r l).sp k λq e=>f q<|by rw[e];simp) (h.8.put O) R R R (λq g _=>cY<|by show q≠a;omega) (h.17.other<|f _ (by rw[h.18];simp)) h.18 (h.19.other<|f _ (by rw[h.20];simp)) h.20 (h.21.other<|f _ (by rw[h.22];simp)) h.22;have e:Lk (y.2.set i x')=(Lk y.2).set (i*5+m) (H z):=by unfold Lk;exact WA (f:=λ_ (x:Yg)=>x.cells) (f':=λ_ (x:Yg)=>x.cells) (sz:=5) (λ_ _=>R) 0 y.2 i u x' m (H z) v C λr l _=>R
 show Xv _ lab (3,b,0) base 64 5 (iv b) (J (y.2.set i x')) (Lk<|y.2.set i x');rw[bL,e,o];rw[M]at d |-;exact d.set (i*5+m) (H z)
theorem jd.gcells(h:jd w wr lab base sb B s V G_ n c xs pv iv av b xb p y ay)(e:b<J xs):(∃u,E wr (A G_ (b*6))=S u)/\(∃u,E wr (A G_ (b*6+1))=S u)/\(∃u,E wr (A G_ (b*6+2))=S u)/\(∃u,E wr (A G_ (b*6+3))=S u)/\(∃u,E wr (A G_ (b*6+4))=S u)/\(∃u,E wr (A G_ (b*6+5))=S u)/\∀q,wr.frozen? (A G_ q)=Sn:=by
 have d:=h.1;have f:=R4 d;subst f;have a:∀q u,q<6->(L7 (pv b) (iv b) xs[b].3)[q]?=S u->E wr (A G_ (b*6+q))=S u:=λq u g i=>d.cell (by unfold jx;rw[Xz (λ_ _=>wu _ _ _) 0 xs b e q g,aV];exact i)
 exact⟨⟨_,a 0 _ O R⟩,⟨_,a 1 _ O R⟩,⟨_,a 2 _ O R⟩,⟨_,a 3 _ O R⟩,⟨_,a 4 _ O R⟩,⟨_,a 5 _ O R⟩,λq=>d.thaw q⟩
theorem jd.icells{a t r i:N}(h:jd w wr lab base sb B s V G_ n c xs pv iv av b xb p y ay)(j:i<J y.2)(o:iv b=X (S ⟨a,0,U⟩) t r):(∃u,E wr ⟨a,i*5,U⟩=S u)/\(∃u,E wr ⟨a,i*5+1,U⟩=S u)/\(∃u,E wr ⟨a,i*5+2,U⟩=S u)/\(∃u,E wr ⟨a,i*5+3,U⟩=S u)/\(∃u,E wr ⟨a,i*5+4,U⟩=S u)/\(∀q,wr.frozen? ⟨a,q,U⟩=Sn)/\xb≠a/\Z w.1≠a:=by
 have d:=h.6;rw[o]at d;have k:=R4 d;rw[k]at d;have g:=d.2 a R;have e:∀q u,q<5->(y.2[i].cells)[q]?=S u->E wr (A a (i*5+q))=S u:=λq u l m=>d.cell (by unfold Lk;rw[Xz (sz:=5) (λ_ _=>R) 0 y.2 i j q l];exact m)
 exact⟨⟨_,e 0 _ O R⟩,⟨_,e 1 _ O R⟩,⟨_,e 2 _ O R⟩,⟨_,e 3 _ O R⟩,⟨_,e 4 _ O R⟩,λq=>d.thaw q,λf=>by have:=h.22;rw[f,g]at this;simp at this,λf=>by have:=h.18;rw[f,g]at this;simp at this⟩
theorem jd.pcells{a l m:N}(h:jd w wr lab base sb B s V G_ n c xs pv iv av b xb p y ay)(g:0<J y.1)(j:p=X (S ⟨a,0,U⟩) l m):E wr ⟨a,1,U⟩=S (ay 0)/\(∀q,wr.frozen? ⟨a,q,U⟩=Sn)/\xb≠a/\Z w.1≠a:=by
 subst j;have d:=h.5;have i:=R4 d;rw[i]at d;have f:=d.2 a R;refine⟨d.cell (by unfold jw;have:=Xz (sz:=2) (f:=λk (p:Ph)=>[H p.1,ay k]) (λ_ _=>R) 0 y.1 0 g 1 O;rw[lC,aV]at this;rw[this];rfl),λq=>d.thaw q,λe=>by have:=h.22;rw[e,f]at this;simp at this,λe=>by have:=h.18;rw[e,f]at this;simp at this⟩
theorem jd.gne{q:N}(h:jd w wr lab base sb B s V G_ n c xs pv iv av b xb p y ay)(d:lab q=(0,0,0)):q≠G_:=λe=>by have a:=R4 h.1;subst a;have:=h.1.blk.2;rw[<-e,d]at this;simp at this
theorem jd.gxb(h:jd w wr lab base sb B s V G_ n c xs pv iv av b xb p y ay):G_≠xb:=λe=>h.gne h.22 e.symm
theorem jd.gbox(h:jd w wr lab base sb B s V G_ n c xs pv iv av b xb p y ay):Z w.1≠G_:=h.gne h.18
theorem jd.gres(h:jd w wr lab base sb B s V G_ n c xs pv iv av b xb p y ay):Z w.1+1≠G_:=h.gne h.20
end
section
def oR{T:Type}(f:T->T)(k:N)(l:List T):List T:=(l.take k).map f++l.drop k
variable {T: Type} {f: T -> T}
theorem WN{k:N}{l:List T}:J (oR f k l)=J l:=by simp[oR];omega
theorem y7{l:List T}:oR f 0 l=l:=by simp[oR]
theorem zG{l:List T}:oR f (J l) l=l.map f:=by simp[oR]
theorem zD{k:N}{l:List T}(h:k<J l)(a:k<J (oR f k l)):(oR f k l)[k]=l[k]:=by
 have e:(oR f k l)[k]?=l[k]?:=by unfold oR;rw[eV<|by simp;omega];simp only[bK,dH,jA];congr 1;omega
 rw[aC a,aC h]at e;injection e
theorem zi{k:N}{l:List T}(h:k<J l):(oR f k l).set k (f l[k])=oR f (k+1) l:=by
 refine iG λr=>?_;by_cases e:k=r
 .subst e;rw[mM<|by rw[WN];exact h];unfold oR;rw[dL<|by simp;omega];simp[h]
 rw[dZ e];unfold oR;by_cases a:r<k
 .rw[dL SB,dL<|by simp;omega];simp only[dX,fH a,fH<|show r<k+1 by omega]
 rw[eV SB,eV<|by simp;omega];simp only[bK,dH,jA];congr 1;omega
noncomputable def M2:Code:=(f72.body.getD .skip)
noncomputable def Ar:Code:=(RR M2).getD 0 .skip
noncomputable def FH:Code:=(RR Ar).getD 0 .skip
noncomputable def QX:Code:=(RR Ar).getD 1 .skip
noncomputable def XF:Code:=(RR FH).getD 0 .skip
theorem sW{a:Wo}(h:J a=161):∃f:Vu,a=wK f 9 161:=yS 9 161 a h
structure G4(w wr:Ub)(lab:N->N×N×N)(base:N)(v G_ n c:N)(xs:Wi)(pv iv:Vu)(av:N->Vu):Prop where
 fn:xW wr lab base (X (S ⟨G_,0,U⟩) n c) xs pv iv av
 bel:Sw base w wr
 kept:∀b,b<Z w.1->lab b=(0,0,0)->wr.1[b]?=w.1[b]?
 fr:∀b,Z w.1<=b->lab b=(0,0,0)
 bs:base<=Z w.1
 box:Bx wr (Z w.1) #[Si S6 (v:I),X (S ⟨G_,0,U⟩) n c] 25
 res:Bx wr (Z w.1+1) #[Si S6 0,X U 0 0] 25
variable {w wr w': Ub} {lab: N -> N×N×N} {base v G_ n c: N} {xs xs': Wi} {pv iv: N -> Uj} {av: N -> N -> Uj}
theorem G4.step(h:G4 w wr lab base v G_ n c xs pv iv av)(i:xW w' lab base (Hl G_ n c) xs' pv iv av)(a:∀b,b<Z wr.1->lab b=(0,0,0)->w'.1[b]?=wr.1[b]?)(g:Sw base wr w'):G4 w w' lab base v G_ n c xs' pv iv av :=
 ⟨i,h.2.trans g,λb d e=>G (a b (aX d h.2.4) e) (h.3 b d e),h.4,h.5,h.6.keep<|a _ h.6.lt (h.4 _ aA),h.7.keep<|a _ h.7.lt (h.4 _ gX)⟩
theorem G4.put{g q:N}{u:Uj}(h:G4 w wr lab base v G_ n c xs pv iv av)(d:xW (Se wr ⟨g,q,U⟩ u) lab base (X (S ⟨G_,0,U⟩) n c) xs' pv iv av)(i:lab g≠(0,0,0))(a:base<=g):G4 w (Se wr ⟨g,q,U⟩ u) lab base v G_ n c xs' pv iv av :=
 h.step d (λb _ e=>cY λe2=>i<|by rw[show g=b from e2.symm];exact e) ((dC base wr).setCell a u)
theorem G4.alloc(h:G4 w wr lab base v G_ n c xs pv iv av)(o:Obj):G4 w (D wr o) lab base v G_ n c xs pv iv av:=by have k:XW wr (D wr o) lab lab base (λ_=>True):=XW.box o;exact h.step (h.1.sp k 0 (λ_ _ _ _ _=>JV) (bC λ_ _=>JV)) (λb a _=>gF _ _ _ a) (vT Rf (aJ h.5 h.2.4) o)
theorem G4.drew(h:G4 w wr lab base v G_ n c xs pv iv av):G4 w wr.drew lab base v G_ n c xs pv iv av:=h.step (h.1.sp (ok:=λ_=>True) ⟨aA,λ_ _ _ _=>⟨R,R⟩,λd b a=>d b a⟩ 0 (λ_ _ _ _ _=>JV) (bC λ_ _=>JV)) (λ_ _ _=>R) (Rf).drew
theorem G4.putx{g q:N}{u:Uj}(h:G4 w wr lab base v G_ n c xs pv iv av)(m:Z w.1+2<=g):G4 w (Se wr ⟨g,q,U⟩ u) lab base v G_ n c xs pv iv av:=by have l:=h.5;have j:=h.4 g O;have k:XW wr (Se wr (A g q) u) lab lab base (λb=>b≠g):=XW.put g q u;have d:∀b,(lab b).1≠0->b≠g:=λb a e=>a (by rw[e,j]);refine⟨h.1.sp k 0 (λb a _ _ _=>d b a) (bC λb e=>d b (by obtain e|e:=e<;>rw[e]<;>simp)),h.2.trans ((dC base wr).setCell (p:=A g q) (by show base<=g;omega) u),λb a i=>G (cY<|by show b≠g;omega) (h.3 b a i),h.4,h.5,h.6.other O,h.7.other O⟩
end
structure zE(w w':Ub)(lab:N->N×N×N)(base sb B:N)(s:cB)(G_ n c:N)(xs:Wi)(pv iv:Vu)(av:N->Vu):Prop where
 fn:xW w' lab base (X (S ⟨G_,0,U⟩) n c) xs pv iv av
 dr:i9 w' sb B s
 os:w'.4=w.4
 tape:w'.2=w.2
 output:w'.5=w.5
 size:Z w.1<=Z w'.1
 low:∀b,b<base->b≠sb->w'.1[b]?=w.1[b]?
 fr:∀b,Z w.1<=b->lab b=(0,0,0)
theorem Ry.done{wr:Ub}{s:cB}{r:N}{av:N->Vu}{u0 u1:Uj}(a:Ry w wr Z_ n m k s B r g c x h H_ av):zE w (Se (Se wr ⟨Z w.1+1,0,U⟩ u0) ⟨Z w.1+1,1,U⟩ u1) Z_ n m k s r g c x h H_ av:=by have l:=a.9 (Z w.1+1) gX;have q:=a.bs;have p:=a.3;have o:XW wr (Se (Se wr (A (Z w.1+1) 0) u0) (A (Z w.1+1) 1) u1) Z_ Z_ n (λb=>b≠Z w.1+1):=((XW.put _ _ _).trans (XW.put _ _ _)).weak λ_ i=>⟨i,i⟩;have f:∀b,(Z_ b).1≠0->b≠Z w.1+1:=λb d e=>d (by rw[e,l]);refine⟨a.1.sp o 0 (λb d _ _ _=>f b d) (bC λb e=>f b (by obtain e|e:=e<;>rw[e]<;>simp)),(a.2.put O).put O,a.4,a.5,a.6,by simpa [World.setCell]using a.7,λb d j=>?_,a.9⟩;have f:b≠Z w.1+1:=O;exact G (G (cY f) (cY f)) (a.8 b d j)
theorem LE{C:N}(K:N->N×N×N)(av:N->Vu)(u:cB)(hF:Q (xW w K k (Hl C m c) x h H_ av))(hn:Q (m=J x))(h1:1<=m)(ci:m<=11)(bt:k<=Z w.1)(bx:Q (∀b,Z w.1<=b->K b=(0,0,0)))(bf:Q (i9 w B g u))(br:g<=k)(hV:n<=1000)(cb:Q (RS x))(bq:Q (∀cf∈x,∀ce∈cf.1,0<J ce.2)):
 Sk prog 28 #[Sa #[H n,Hl C m c],Hn B] w λf w'=>f=Rt (Sa #[H n,Hl C m c])/\zE w w' K k B g (pK n x u).2 C m c (pK n x u).1 h H_ av:=by
 have a:Q (pK n x u=yX x (iw u (m:I)).1.toNat (iw (iw u (m:I)).2 (n:I)).1 (iw (iw u (m:I)).2 (n:I)).2):=Y (by rw[hn.o];rfl);have am:Q (Ry w (D (D w (Sc #[H n,Hl C m c] 25)) (Sc #[H 0,Hq] 25)) K k B g u n C m c x h H_ av):=Y (by have bl:XW w (D (D w (Sc #[H n,Hl C m c] 25)) (Sc #[H 0,Hq] 25)) K K k (λ_=>True):=((XW.box _).trans (XW.box _)).weak λ_ _=>⟨JV,JV⟩;refine⟨hF.sp bl 0 (λ_ _ _ _ _=>JV) (bC λ_ _=>JV),(bf.box _).box _,br,R,R,R,bl.1,λb i _=>G (gF _ _ _<|by simp;omega) (gF _ _ _ O),bx.o,bt,(Bx.new _ _ _).box _,?_⟩;have:=Bx.new (D w (Sc #[H n,Hl C m c] 25)) #[H 0,Hq] 25;rwa[aO]at this)
 clear hF bf
 go_in
 have x1:E (D (D w (Sc #[H n,Hl C m c] 25)) (Sc #[H 0,Hq] 25)) (A (Z w.1) 1)=S (Hl C m c):=Bx.cell am.11 R;go_wp2_with fail
 generalize D (D w _) _=w0 at*;refine YU (ki u (m:I) w0 (Y am.2) O O) λw1⟨r,l⟩=>?_;have ar:=λj=>kr u (n:=(m:I)) j;have T_:=Y<|am.call l r;obtain⟨rb,s1,s⟩:∃F V,iw u (m:I)=(F,V):=⟨_,_,R⟩;rw[s]at T_ a ar |-;dsimp only at T_ a ar |-;have b3:=ar O;obtain⟨b,rfl⟩:=Zv b3.1;rw[dM]at a;clear r l s am x1 ar;have y0:=Bx.c T_.11 0;go_wp2_with fail
 refine YU (ki s1 (n:I) w1 (Y T_.2) O O) λw2⟨r,l⟩=>?_;have a7:=λj=>kr s1 (n:=(n:I)) j;have P:=Y<|T_.call l r;obtain⟨R_,s2,s⟩:∃F V,iw s1 (n:I)=(F,V):=⟨_,_,R⟩;rw[s]at P a a7 |-;dsimp only at P a a7 |-;clear r l s T_ y0 a7;have i:b<J x:=oN hn.o;have cg:b<m:=O;have Z_:x.getD b ip=x[b]:=by simp[i]
 have bc:=Y<|cb.o _ (aH i);have bm:=Y<|bq.o _ (aH i);have x1:=Bx.c P.11 1;obtain⟨p0,p1,⟨t0,t1,t2,t3⟩⟩:=P.1.cells i;obtain⟨pa,M,af⟩:=(P.1.2 b i).form;obtain⟨t,O_⟩:∃t,t=J x[b].1:=⟨_,R⟩;rw[<-O_]at af;obtain⟨P_,Q_,ad⟩:=(P.1.3 b i).form;obtain⟨o,X_⟩:∃o,o=J x[b].2:=⟨_,R⟩;rw[<-X_]at ad;rw[af]at p0;rw[ad]at p1;have a0:=Y O_;have az:=Y X_;have cj:o<=1000:=oN bc.o;clear O_ X_
 go_upto_region 4 with fail
 have ao:=Y<|P.alloc (Sc #[X pa t M,X P_ o Q_,H x[b].3.1,H x[b].3.a,H x[b].3.3,H x[b].3.4] 52);have ap:Q (Bx (D w2 (Sc #[X pa t M,X P_ o Q_,H x[b].3.1,H x[b].3.a,H x[b].3.3,H x[b].3.4] 52)) (Z w2.1) #[X pa t M,X P_ o Q_,H x[b].3.1,H x[b].3.a,H x[b].3.3,H x[b].3.4] 52):=Y<|Bx.new _ _ _;have bd:Q (Z w.1+2<=Z w2.1):=Y P.12.lt;have a4:Q (B≠Z w2.1):=Y<|oP P.lt bd.o;clear P x1 p0 p1 t0 t1 t2 t3;generalize D w2 _=wx at*;generalize Z w2.1=S_ at*;have q0:=Bx.c ap.o 0
 go_cut [31]from 9 to 82 λbp wz=>∃(al:Bool)(s3:cB),bp=Sb al/\Q (Ry w wz K k B g s3 n C m c x h H_ av)/\Q (Bx wz S_ #[X pa t M,X P_ o Q_,H x[b].3.1,H x[b].3.a,H x[b].3.3,H x[b].3.4] 52)/\Q (al=So->0<t/\pK n x u=(x.set b<|x[b].setPhi 0 ⟨(x[b].1.getD 0 Rl).1,(x[b].1.getD 0 Rl).2.set (iw s3 (J (x[b].1.getD 0 Rl).2)).1.toNat R_⟩,(iw s3 (J (x[b].1.getD 0 Rl).2)).2))/\Q (al=Sn->pK n x u=uR x b R_ s3)
 case first=>
  rw[yX,Z_,<-a0.o]at a;by_cases O_:0<t
  .have b7:(0:I)<t:=O;rw[aU O_]at a;go_wp2_with fail
   refine YU (ki s2 3 wx (Y ao.2) O O) λw3⟨r,l⟩=>?_;have a8:=λj=>kr s2 (n:=3) j;have q:=Y<|ao.call l r;obtain⟨r3,s3,s⟩:∃F V,iw s2 3=(F,V):=⟨_,_,R⟩;rw[s]at q a a8 |-;dsimp only at q a a8 |-;have T:Q (Bx w3 S_ #[X pa t M,X P_ o Q_,H x[b].3.1,H x[b].3.a,H x[b].3.3,H x[b].3.4] 52):=Y (ap.grown l λf=>a4.o<|by injection f with f;exact f.symm);clear r l s a8;by_cases Y_:r3=0
   .have ca:(r3==0)=So:=by simpa using Y_
    rw[aU Y_]at a;clear Y_;go_wp2;go_meet;exact⟨So,s3,R,q,T,Y λ_=>⟨O_,a.o⟩,Y λj=>by cases j⟩
   have ca:(r3==0)=Sn:=by simpa using Y_
   rw[aM Y_]at a;clear Y_;go_wp2;go_meet;exact⟨Sn,s3,R,q,T,Y (λj=>by cases j),Y λ_=>a.o⟩
  have b7:¬(0:I)<t:=O;rw[aM O_]at a;go_wp2;go_meet;exact⟨Sn,s2,R,ao,ap,Y (λj=>by cases j),Y λ_=>a.o⟩
 obtain⟨al,s3,rfl,q,T,a3,a2⟩:=hcut;clear ao ap a q0;generalize wc=w3 at*;cases al with
 |true=>
  have a1:=Y<|a3.o R;clear a3 a2;have ck:=a1.1;have a:Q (pK n x u=(x.set b<|x[b].setPhi 0 ⟨(x[b].1.getD 0 Rl).1,(x[b].1.getD 0 Rl).2.set (iw s3 (J (x[b].1.getD 0 Rl).2)).1.toNat R_⟩,(iw s3 (J (x[b].1.getD 0 Rl).2)).2)):=Y a1.2;clear a1;have W:0<J x[b].1:=oN a0.o
  rw[show x[b].1.getD 0 Rl=x[b].1[0] by simp[W]]at a;have bi:=bm.o _<|aH W;have b5:=bc.2.1 _<|aH W;obtain⟨W_,c2,bk⟩:=(q.1.2 b i).got W;rw[<-a0.o,af]at bk;injection bk with e1 _ e3;subst e1 e3;obtain⟨V_,ac,aq⟩:=(q.1.4 b i 0 W).got bi;obtain⟨L,ba⟩:∃L,L=J x[b].1[0].2:=⟨_,R⟩;rw[<-ba]at aq a bi b5;have bn:=Y ba;clear ba;have bb:Q (∀a5 sx,Ry w a5 K k B g sx n C m c x h H_ av->E a5 (A W_ 1)=S (Hl V_ L ac)):=Y (λa5 sx hW=>by have:=(hW.1.phiCells i W af).2;rw[aq]at this;simpa using this)
  have q0:=Bx.c T.o 0;have q1:=bb.o _ _ q.o;go_wp2_with fail
  refine Y7 (λw'=>E w' (A S_ 0)=S (Hl W_ t M)/\E w' (A W_ 1)=S (Hl V_ L ac)) λig=>?_;refine Xn 0 ?_;(iterate 11 refine Rm ?_);refine Xn 13 ?_;refine Xs 12 λbo hK=>?_;go_simp
  go_at_call 12
  refine YU (ki s3 (L:I) _ (Y q.drew.2) O O) λw4⟨r,l⟩=>?_;have a9:=kr s3 (n:=(L:I)) O;have p:=Y<|q.drew.call l r;have ab:Q (Bx w4 S_ #[Hl W_ t M,X P_ o Q_,H x[b].3.1,H x[b].3.a,H x[b].3.3,H x[b].3.4] 52):=Y (Bx.grown (w:=w3.drew) T.o l λf=>a4.o<|by injection f with f;exact f.symm);obtain⟨rk,s4,s⟩:∃F V,iw s3 (L:I)=(F,V):=⟨_,_,R⟩;rw[s]at p a a9 |-;dsimp only at p a a9 |-;obtain⟨kk,rfl⟩:=Zv a9.1;rw[dM]at a;have b1:kk<L:=O;have b0:kk<J x[b].1[0].2:=by rw[<-bn.o];exact b1
  obtain⟨z,y,bv,aj⟩:=p.1.setArg (k:=kk) (d:=R_) i W b0 aq;have N_:k<=V_:=((p.1.4 b i 0 W).1.lt V_ (by rw[aq];rfl)).1;have d:=Y (p.put z (by rw[y];simp) N_);have z0:=Bx.c ab.o 0;have z1:=bb.o _ _ p.o;have b8:W_≠V_:=λf=>by have:=(p.1.2 b i).2 W_ (by rw[af];rfl);rw[f,y]at this;simp at this
  have cd:S_≠V_:=λf=>by have:=p.9 S_<|oN bd.o;rw[f,y]at this;simp at this
  clear r l s z;refine hK _ _ ⟨z0,z1⟩ λig=>?_;clear hK;refine Xn 14 ?_;refine Xs 15 λbo hK=>?_;go_simp;refine hK _ _ ⟨G (Xc<|cY cd) z0,G (Xc<|cY b8) z1⟩ λig=>?_;clear hK;refine Yq ?_;clear ig z0 z1 q0 q1 bv aj;have U_:=Y d.o;generalize Se w4 _ _=w9 at*;have f0:=Bx.c U_.box 0;have f1:=Bx.c U_.box 1;have A_:=Bx.c U_.res 0;have C_:=Bx.c U_.res 1;have rz:=Bx.thaw U_.res;go_wp2;rw[a.o];exact YL (v:=Sa #[H n,Hl C m c]) ⟨R,U_.done⟩
 |false=>
  have a:=Y<|a2.o R;clear a3 a2;rw[uR,Z_,<-az.o]at a;have q1:=Bx.c T.o 1;have q2:=Bx.c T.o 2;by_cases X_:0<o
  .have b6:(0:I)<o:=O;rw[aU X_]at a;go_wp2_with fail
   refine YU (ki s3 (o:I) w3 (Y q.2) O O) λw4⟨r,l⟩=>?_;have au:=λj=>kr s3 (n:=(o:I)) j;have p:=Y<|q.call l r;obtain⟨ri,s4,s⟩:∃F V,iw s3 (o:I)=(F,V):=⟨_,_,R⟩;rw[s]at p a au |-;dsimp only at p a au |-;have ab:Q (Bx w4 S_ #[X pa t M,X P_ o Q_,H x[b].3.1,H x[b].3.a,H x[b].3.3,H x[b].3.4] 52):=Y (T.grown l λf=>a4.o<|by injection f with f;exact f.symm);have b4:=au O;obtain⟨aa,rfl⟩:=Zv b4.1;rw[dM]at a;clear r l s au q1 q2 q T;have bg:aa<J x[b].2:=oN az.o;have ch:aa<o:=O;rw[show x[b].2.getD aa ⟨0,0,0,0,0⟩=x[b].2[aa] by simp[bg]]at a;obtain⟨be,c2,bh⟩:=(p.1.3 b i).got O;rw[<-az.o,ad]at bh;injection bh with e1 _ e3;subst e1 e3;have q1:=Bx.c ab.o 1;have q2:=Bx.c ab.o 2;obtain⟨z,y,⟨i0,i1,i2,i3,i4⟩,aj⟩:=p.1.setInsA (d:=R_) i bg ad;have N_:k<=be:=((p.1.3 b i).1.lt be (by rw[ad];rfl)).1;have d:=Y (p.put z (by rw[y];simp) N_);clear z;go_wp2_with fail
   refine YU (vG x[b].2[aa].1 w4) λw5 cc=>?_;subst cc;cases ha:aB x[b].2[aa].1 with
   |true=>
    rw[aU ha]at a
    go_upto_region 11 with fail
    generalize Se w5 _ _=w9 at*;have f0:=Bx.c d.11 0;have f1:=Bx.c d.11 1;have A_:=Bx.c d.12 0;have C_:=Bx.c d.12 1;have rz:=Bx.thaw d.12;go_wp2;rw[a.o];exact YL (v:=Sa #[H n,Hl C m c]) ⟨R,d.done⟩
   |false=>
    rw[aM<|by rw[ha];simp]at a;have e:=p;generalize w5=wz at*;clear d i0 i1 i2 i3 i4 aj y ab;by_cases v:x[b].3.1=1
    .have a6:(x[b].3.1 != 1)=Sn:=by simpa using v
     rw[sJ,Z_,aM λj=>j v]at a;clear v;have f0:=Bx.c e.11 0;have f1:=Bx.c e.11 1;have A_:=Bx.c e.12 0;have C_:=Bx.c e.12 1;have rz:=Bx.thaw e.12;go_wp2;rw[a.o];exact YL (v:=Sa #[H n,Hl C m c]) ⟨R,e.done⟩
    have a6:(x[b].3.1 != 1)=So:=by simpa using v
    rw[sJ,Z_,aU v]at a;clear v;obtain⟨z,y,aj⟩:=e.1.setTerA (d:=R_) i;have N_:k<=C:=(e.1.1.1.lt C R).1;have d:=Y (e.put z (by rw[y];simp) N_);have x1:=Bx.c e.11 1;obtain⟨-,-,-,t1,-,-⟩:=e.1.cells i;clear z y
    go_upto_region 14 with fail
    generalize Se wz _ _=w9 at*;have f0:=Bx.c d.11 0;have f1:=Bx.c d.11 1;have A_:=Bx.c d.12 0;have C_:=Bx.c d.12 1;have rz:=Bx.thaw d.12;go_wp2;rw[a.o];exact YL (v:=Sa #[H n,Hl C m c]) ⟨R,d.done⟩
  have b6:¬(0:I)<o:=O;rw[aM X_]at a;have e:=q;generalize w3=wz at*;clear T;by_cases v:x[b].3.1=1
  .have a6:(x[b].3.1 != 1)=Sn:=by simpa using v
   rw[sJ,Z_,aM λj=>j v]at a;clear v;have f0:=Bx.c e.11 0;have f1:=Bx.c e.11 1;have A_:=Bx.c e.12 0;have C_:=Bx.c e.12 1;have rz:=Bx.thaw e.12;go_wp2;rw[a.o];exact YL (v:=Sa #[H n,Hl C m c]) ⟨R,e.done⟩
  have a6:(x[b].3.1 != 1)=So:=by simpa using v
  rw[sJ,Z_,aU v]at a;clear v;obtain⟨z,y,aj⟩:=e.1.setTerA (d:=R_) i;have N_:k<=C:=(e.1.1.1.lt C R).1;have d:=Y (e.put z (by rw[y];simp) N_);have x1:=Bx.c e.11 1;obtain⟨-,-,-,t1,-,-⟩:=e.1.cells i;clear z y
  go_upto_region 14 with fail
  generalize Se wz _ _=w9 at*;have f0:=Bx.c d.11 0;have f1:=Bx.c d.11 1;have A_:=Bx.c d.12 0;have C_:=Bx.c d.12 1;have rz:=Bx.thaw d.12;go_wp2;rw[a.o];exact YL (v:=Sa #[H n,Hl C m c]) ⟨R,d.done⟩
structure ME where
 k:N
 tl:Wo
theorem NX{K:Yt}(L:N->N×N×N)(u v t g c:N)(P F:Vu)(av:N->Vu){top:I}{b:N}{c0 c2:Uj}(hQ:Q (∀c (U_:Act) t_ v w,K (.panic c) (U_.put (S t_) v) w->K (.panic c) U_ w))(X_:b<J x)(hj:n<J x[b].1)(hn:Q (g=J x))(ap:Q (J x[b].1<=1000/\J x[b].1[n].2<=1000))(Z_:∀(y:Wo)(r:Ub),J y=161->G4 w r L u v t g c (x.set b<|x[b].setPhi n ⟨x[b].1[n].1,x[b].1[n].2.map λz=>wrap64<|top-z⟩) P F av->∀c6,K (.exit 4) ⟨(c0::Sj (S ⟨Z w.1,0,U⟩)::c2::Si S6 top::Si S6 ((b:N):I)::Si S6 ((n:N):I)::c6::a::A_::y).toArray,[]⟩ r){wr:Ub}(o:J y=161)(V_:Q (G4 w wr L u v t g c x P F av)):
 Code.wp prog (Code.loop XF) K ⟨(c0::Sj (S ⟨Z w.1,0,U⟩)::c2::Si S6 top::Si S6 ((b:N):I)::Si S6 ((n:N):I)::Si S6 ((0:N):I)::a::A_::y).toArray,[]⟩ wr:=by
 have HX:=Y Z_;clear Z_;obtain⟨M,W_⟩:∃M,M=J x[b].1[n].2:=⟨_,R⟩;have s:=Y W_;refine iY (λT wr=>∃C:ME,T=⟨(c0::Sj (S ⟨Z w.1,0,U⟩)::c2::Si S6 top::Si S6 ((b:N):I)::Si S6 ((n:N):I)::Si S6 ((C.k:N):I)::a::A_::C.2).toArray,[]⟩/\J C.2=161/\C.k<=M/\Q (G4 w wr L u v t g c (x.set b<|x[b].setPhi n ⟨x[b].1[n].1,oR (λz=>wrap64<|top-z) C.k x[b].1[n].2⟩) P F av)) (λT _=>M-(JB<|T.1.getD 6 Su).toNat) ⟨⟨0,y⟩,R,o,aN,Y (by
  have j:x.set b (x[b].setPhi n ⟨x[b].1[n].1,oR (λz=>wrap64<|top-z) 0 x[b].1[n].2⟩)=x:=by
   rw[y7];show x.set b ⟨x[b].1.set n x[b].1[n],x[b].2,x[b].3⟩=x;rw[fK];exact fK X_
  rw[j];exact V_.o)⟩ ?_
 clear V_ o W_;rintro T wr⟨⟨k,y⟩,rfl,o,hk,d⟩;dsimp only at o hk d |-
 conv=>arg 2;whnf
 obtain⟨az,rfl⟩:=sW o;simp only[wK,Nat.reduceAdd];clear o;have af:J (x.set b<|x[b].setPhi n ⟨x[b].1[n].1,oR (λz=>wrap64<|top-z) k x[b].1[n].2⟩)=g:=by rw[bL];exact hn.symm
 have f:b<J (x.set b<|x[b].setPhi n ⟨x[b].1[n].1,oR (λz=>wrap64<|top-z) k x[b].1[n].2⟩):=by simpa using X_
 have V:(x.set b<|x[b].setPhi n ⟨x[b].1[n].1,oR (λz=>wrap64<|top-z) k x[b].1[n].2⟩)[b]=x[b].setPhi n ⟨x[b].1[n].1,oR (λz=>wrap64<|top-z) k x[b].1[n].2⟩:=MP _ _;have m:n<J (x.set b<|x[b].setPhi n ⟨x[b].1[n].1,oR (λz=>wrap64<|top-z) k x[b].1[n].2⟩)[b].1:=by rw[V];simpa [Xe.setPhi]using hj
 have i:((x.set b<|x[b].setPhi n ⟨x[b].1[n].1,oR (λz=>wrap64<|top-z) k x[b].1[n].2⟩)[b].1[n]).2=oR (λz=>wrap64<|top-z) k x[b].1[n].2:=by simp only[Xe.setPhi,MP]
 have P_:((x.set b<|x[b].setPhi n ⟨x[b].1[n].1,oR (λz=>wrap64<|top-z) k x[b].1[n].2⟩)[b].1[n]).1=x[b].1[n].1:=by simp only[Xe.setPhi,MP]
 have a1:b<g:=oN hn.o;obtain⟨h,cp,p⟩:=(d.1.2 b f).got O;obtain⟨q,O_⟩:∃q,q=J (x.set b<|x[b].setPhi n ⟨x[b].1[n].1,oR (λz=>wrap64<|top-z) k x[b].1[n].2⟩)[b].1:=⟨_,R⟩;rw[<-O_]at p;have a3:n<q:=O;obtain⟨aa,K_,l⟩:=(d.1.4 b f n m).form;rw[i,WN,<-s.o]at l;have x1:E wr ⟨Z w.1,1,U⟩=S (X (S ⟨t,0,U⟩) g c):=Bx.cell d.6 R;have x2:E wr ⟨t,b*6,U⟩=S (X (S ⟨h,0,U⟩) q cp):=by rw[<-p];exact(d.1.cells f).1
 have x3:E wr ⟨h,n*2+1,U⟩=S (X aa M K_):=by rw[<-l];exact(d.1.phiCells f m p).2
 have a0:M<=1000:=oP ap.o s.o;by_cases aq:k<M
 .have ar:(k:I)<M:=O;have N_:k<J x[b].1[n].2:=by rw[<-s.o];exact aq
  obtain⟨e,au,L_⟩:=(d.1.4 b f n m).got (by rw[i,WN];omega);rw[i,WN,<-s.o]at L_;rw[l]at L_;injection L_ with e1 _ e3;subst e1 e3;obtain⟨ab,B,Y_,hz⟩:=d.1.setArg (k:=k) (d:=wrap64<|top-x[b].1[n].2[k]) f m (by rw[i,WN];exact N_) l;have a2:E wr ⟨e,k,U⟩=S (Si S6 x[b].1[n].2[k]):=by
   rw[Y_];congr 2;simp only[i];exact zD N_ _
  have ao:u<=e:=by
   have:=(d.1.4 b f n m).1.lt e (by rw[l];rfl);exact this.1
  have S_:=Y (d.put ab (by rw[B];simp) ao);have T_:Q ((x.set b<|x[b].setPhi n ⟨x[b].1[n].1,oR (λz=>wrap64<|top-z) k x[b].1[n].2⟩).set b ((x.set b<|x[b].setPhi n ⟨x[b].1[n].1,oR (λz=>wrap64<|top-z) k x[b].1[n].2⟩)[b].setPhi n ⟨((x.set b<|x[b].setPhi n ⟨x[b].1[n].1,oR (λz=>wrap64<|top-z) k x[b].1[n].2⟩)[b].1[n]).1,((x.set b<|x[b].setPhi n ⟨x[b].1[n].1,oR (λz=>wrap64<|top-z) k x[b].1[n].2⟩)[b].1[n]).2.set k (wrap64<|top-x[b].1[n].2[k])⟩)=(x.set b<|x[b].setPhi n ⟨x[b].1[n].1,oR (λz=>wrap64<|top-z) (k+1) x[b].1[n].2⟩)):=Y (by
   rw[P_,i,V,gE,<-zi N_];simp[Xe.setPhi])
  rw[T_.o]at S_;have al:Q (∀W,E (Se wr ⟨e,k,U⟩ W) ⟨Z w.1,1,U⟩=S (X (S ⟨t,0,U⟩) g c)/\E (Se wr ⟨e,k,U⟩ W) ⟨t,b*6,U⟩=S (X (S ⟨h,0,U⟩) q cp)/\E (Se wr ⟨e,k,U⟩ W) ⟨h,n*2+1,U⟩=S (X (S ⟨e,0,U⟩) M K_)):=Y (λW=>by
   have l1:=d.4 (Z w.1) aA;have l2:=d.1.1.2 t R;have l3:=(d.1.2 b f).2 h (by rw[p];rfl);have n1:Z w.1≠e:=λj=>by rw[j,B]at l1;simp at l1
   have n2:t≠e:=λj=>by rw[j,B]at l2;simp at l2
   have n3:h≠e:=λj=>by rw[j,B]at l3;simp at l3
   exact⟨G (Xc<|cY n1) x1,G (Xc<|cY n2) x2,G (Xc<|cY n3) x3⟩)
  clear ab Y_ i P_ V p l O_ B af T_ m f;generalize x[b].1[n].2[k]=z at*;go_wp2_with fail
  refine Y7 (λr=>E r ⟨Z w.1,1,U⟩=S (X (S ⟨t,0,U⟩) g c)/\E r ⟨t,b*6,U⟩=S (X (S ⟨h,0,U⟩) q cp)/\E r ⟨h,n*2+1,U⟩=S (X (S ⟨e,0,U⟩) M K_)) λR_=>?_;refine X0 0 ?_;refine X0 1 ?_;refine X0 2 ?_;refine X0 3 ?_;refine X0 4 ?_;refine X0 5 ?_;refine X0 6 ?_;refine X0 7 ?_;refine X0 8 ?_;refine X0 9 ?_;refine X0 10 ?_;refine X0 11 ?_;refine X0 12 ?_;refine X0 13 ?_;refine X0 14 ?_;refine X0 15 ?_;refine X0 16 ?_;refine X0 17 ?_;refine X0 18 ?_;refine X0 19 ?_;refine X0 20 ?_;refine X0 21 ?_;refine X0 22 ?_;refine X0 23 ?_;refine Xs 24 λam hK=>?_;go_simp;refine hK _ _ kP λR_=>?_;clear hK;refine X0 25 ?_;refine X0 26 ?_;refine Xs 27 λam hK=>?_;go_simp;refine hK _ _ (al.o _) λR_=>?_;clear hK;refine Yq ?_;clear R_;go_wp2_with fail
  refine⟨⟨⟨k+1,_⟩,R,R,(by show k+1<=M;omega),Y ?_⟩,by simp[JB];omega⟩;exact S_.drew
 have ar:¬(k:I)<M:=O;have ad:k=J x[b].1[n].2:=by rw[<-s.o];omega
 have aj:Q (G4 w wr L u v t g c (x.set b<|x[b].setPhi n ⟨x[b].1[n].1,x[b].1[n].2.map λz=>wrap64<|top-z⟩) P F av):=Y (by
  have:=d.o;rw[ad,zG]at this;exact this)
 clear ad i P_ V p l O_ af m f;go_wp2_with fail
 exact HX.o _ _ R aj.o _
def Ld(top:I)(p:Ph):Ph:=⟨wrap64<|top-p.1,p.2.map λz=>wrap64<|top-z⟩
structure sf where
 j:N
 c6:Uj
 tl:Wo
theorem VX{L:Yt}(B:N->N×N×N){K:N}(av:N->Vu){top:I}{b:N}{c0 c2:Uj}(hQ:Q (∀c (P:Act) W m w,L (.panic c) (P.put (S W) m) w->L (.panic c) P w))(L_:b<J x)(hn:Q (k=J x))(N_:Q (J x[b].1<=1000/\∀au∈x[b].1,J au.2<=1000))(aa:∀(c5 q:Uj)(y:Wo)(s:Ub),J y=161->G4 w s B n m K k c (x.set b ⟨x[b].1.map (Ld top),x[b].2,x[b].3⟩) h H_ av->L (.exit 2) ⟨(c0::Hn (Z w.1)::c2::H top::H ((b:N):I)::c5::q::a::A_::y).toArray,[]⟩ s){q:Uj}{wr:Ub}(g:J y=161)(F:Q (G4 w wr B n m K k c x h H_ av)):
 Code.wp prog (Code.loop FH) L ⟨(c0::Hn (Z w.1)::c2::H top::H ((b:N):I)::H ((0:N):I)::q::a::A_::y).toArray,[]⟩ wr:=by
 have HX:=Y aa;clear aa;obtain⟨M,Y_⟩:∃M,M=J x[b].1:=⟨_,R⟩;have u:=Y Y_;refine iY (λT wr=>∃t:sf,T=⟨(c0::Hn (Z w.1)::c2::H top::H ((b:N):I)::H ((t.j:N):I)::t.2::a::A_::t.3).toArray,[]⟩/\J t.3=161/\t.j<=M/\Q (G4 w wr B n m K k c (x.set b ⟨oR (Ld top) t.j x[b].1,x[b].2,x[b].3⟩) h H_ av)) (λT _=>M-(JB<|T.1.getD 5 Su).toNat) ⟨⟨0,q,y⟩,R,g,aN,Y (by
  have v:x.set b ⟨oR (Ld top) 0 x[b].1,x[b].2,x[b].3⟩=x:=by rw[y7];exact fK L_
  rw[v];exact F.o)⟩ ?_
 clear F g Y_;rintro T wr⟨⟨j,q,y⟩,rfl,g,hj,e⟩;dsimp only at g hj e |-
 conv=>arg 2;whnf
 obtain⟨am,rfl⟩:=sW g;simp only[wK,Nat.reduceAdd];clear g;have p:b<J (x.set b ⟨oR (Ld top) j x[b].1,x[b].2,x[b].3⟩):=by simpa using L_
 have d:(x.set b ⟨oR (Ld top) j x[b].1,x[b].2,x[b].3⟩)[b]=⟨oR (Ld top) j x[b].1,x[b].2,x[b].3⟩:=MP _ _;have a2:b<k:=oN hn.o;obtain⟨ga,cp,l⟩:=(e.1.2 b p).form;rw[d]at l;rw[show J (⟨oR (Ld top) j x[b].1,x[b].2,x[b].3⟩:Xe).1=M from G (WN) u.symm]at l;have x1:E wr (A (Z w.1) 1)=S (Hl K k c):=Bx.cell e.6 R;have x2:E wr (A K (b*6))=S (X ga M cp):=by rw[<-l];exact(e.1.cells p).1
 have a1:M<=1000:=oP N_.o u.o;by_cases aq:j<M
 .have ar:(j:I)<M:=O;have z:j<J x[b].1:=by rw[<-u.o];exact aq
  have ac:j<J (x.set b ⟨oR (Ld top) j x[b].1,x[b].2,x[b].3⟩)[b].1:=by rw[d];show j<J (oR _ _ _);rw[WN];exact z
  have P_:(x.set b ⟨oR (Ld top) j x[b].1,x[b].2,x[b].3⟩)[b].1[j]=x[b].1[j]:=by simp only[d];exact zD z _
  obtain⟨i,a0,O_⟩:=(e.1.2 b p).got O;rw[show J (x.set b ⟨oR (Ld top) j x[b].1,x[b].2,x[b].3⟩)[b].1=M by rw[d];exact G (WN) u.symm]at O_;rw[l]at O_;injection O_ with e1 _ e3;subst e1 e3;obtain⟨ab,V,Z_,hz⟩:=e.1.setDst (d:=wrap64<|top-x[b].1[j].1) p ac l;rw[P_]at Z_;have ap:n<=i:=((e.1.2 b p).1.lt i (by rw[l];rfl)).1;have C:=Y (e.put ab (by rw[V];simp) ap);rw[P_]at C;have W_:Q (∀T_,E (Se wr (A i (j*2)) T_) (A (Z w.1) 1)=S (Hl K k c)/\E (Se wr (A i (j*2)) T_) (A K (b*6))=S (Hl i M cp)):=Y (λT_=>by
   have l1:=e.4 (Z w.1) aA;have l2:=e.1.1.2 K R;have n1:Z w.1≠i:=λv=>by rw[v,V]at l1;simp at l1
   have n2:K≠i:=λv=>by rw[v,V]at l2;simp at l2
   exact⟨G (Xc<|cY n1) x1,G (Xc<|cY n2) x2⟩)
  have af:Q (J x[b].1[j].2<=1000):=Y<|N_.2 _ (aH z);have X_:Q (((x.set b ⟨oR (Ld top) j x[b].1,x[b].2,x[b].3⟩)).set b ((x.set b ⟨oR (Ld top) j x[b].1,x[b].2,x[b].3⟩)[b].setPhi j ⟨wrap64<|top-x[b].1[j].1,x[b].1[j].2⟩)=(x.set b ⟨(oR (Ld top) j x[b].1).set j ⟨wrap64<|top-x[b].1[j].1,x[b].1[j].2⟩,x[b].2,x[b].3⟩)):=Y (by rw[d,gE];rfl);rw[X_.o]at C;have aj:Q (((oR (Ld top) j x[b].1).set j ⟨wrap64<|top-x[b].1[j].1,x[b].1[j].2⟩).set j ⟨wrap64<|top-x[b].1[j].1,x[b].1[j].2.map λU_=>wrap64<|top-U_⟩=oR (Ld top) (j+1) x[b].1):=Y (by rw[gE];exact zi z);have K_:Q (j<J ((oR (Ld top) j x[b].1).set j ⟨wrap64<|top-x[b].1[j].1,x[b].1[j].2⟩)/\J (oR (Ld top) j x[b].1)=J x[b].1):=Y ⟨by rw[bL,WN];exact z,WN⟩;have az:Q (∃f,x[b].1[j].1=f):=Y ⟨_,R⟩;clear ab d l V ac p P_ X_;generalize x[b].1[j].1=f at*;generalize x[b].1[j].2=o at*;go_wp2_with fail
  refine Y7 (λs=>E s (A (Z w.1) 1)=S (Hl K k c)/\E s (A K (b*6))=S (Hl i M cp)) λR_=>?_;refine X0 0 ?_;refine X0 1 ?_;refine X0 2 ?_;refine X0 3 ?_;refine X0 4 ?_;refine X0 5 ?_;refine X0 6 ?_;refine X0 7 ?_;refine X0 8 ?_;refine X0 9 ?_;refine X0 10 ?_;refine X0 11 ?_;refine X0 12 ?_;refine X0 13 ?_;refine X0 14 ?_;refine X0 15 ?_;refine X0 16 ?_;refine Xs 17 λal hK=>?_;go_simp;refine hK _ _ kP λR_=>?_;clear hK;refine X0 18 ?_;refine X0 19 ?_;refine X0 20 ?_;refine Xs 21 λal hK=>?_;go_simp;refine hK _ _ (W_.o _) λR_=>?_;clear hK;refine Yq ?_;clear R_ x1 x2 Z_ hz W_;have V_:=Y C.drew;clear C;rw[show S6.wrap (top-f)=wrap64 (top-f)from IntWalk.i64_left _];go_wp2_with fail
  have ao:b<J ((x.set b ⟨(oR (Ld top) j x[b].1).set j ⟨wrap64<|top-f,o⟩,x[b].2,x[b].3⟩)):=by simpa using L_
  have d:((x.set b ⟨(oR (Ld top) j x[b].1).set j ⟨wrap64<|top-f,o⟩,x[b].2,x[b].3⟩))[b]=⟨(oR (Ld top) j x[b].1).set j ⟨wrap64<|top-f,o⟩,x[b].2,x[b].3⟩:=MP _ _;refine NX B n m K k c h H_ av (by exact Y λc P W m w F=>hQ.o c P W m w F) ao (by rw[d];exact K_.1) (Y<|by rw[bL];exact hn.o) (Y ⟨by rw[d];show J (List.set _ _ _)<=1000;rw[bL,K_.2];exact N_.1,by simp only[d,MP];exact af.o⟩) ?_ (by rfl) (by exact V_);intro y s g r q;obtain⟨am,rfl⟩:=sW g;simp only[wK,Nat.reduceAdd];clear g;have J_:=Y r;clear r V_;go_wp2_with fail
  refine⟨⟨⟨j+1,_,_⟩,R,R,(by show j+1<=M;omega),Y ?_⟩,SA⟩;have r:=J_.o;rw[gE]at r;have a3:j<J ((x.set b ⟨(oR (Ld top) j x[b].1).set j ⟨wrap64<|top-f,o⟩,x[b].2,x[b].3⟩))[b].1:=by rw[d];exact K_.1
  have e2:(((x.set b ⟨(oR (Ld top) j x[b].1).set j ⟨wrap64<|top-f,o⟩,x[b].2,x[b].3⟩))[b].setPhi j ⟨(((x.set b ⟨(oR (Ld top) j x[b].1).set j ⟨wrap64<|top-f,o⟩,x[b].2,x[b].3⟩))[b].1[j]).1,(((x.set b ⟨(oR (Ld top) j x[b].1).set j ⟨wrap64<|top-f,o⟩,x[b].2,x[b].3⟩))[b].1[j]).2.map λU_=>wrap64<|top-U_⟩)=⟨oR (Ld top) (j+1) x[b].1,x[b].2,x[b].3⟩:=by rw[<-aj.o];simp only[d,MP,Xe.setPhi]
  rw[e2]at r;exact r
 have ar:¬(j:I)<M:=O;have ad:j=J x[b].1:=by rw[<-u.o];omega
 have J_:Q (G4 w wr B n m K k c (x.set b ⟨x[b].1.map (Ld top),x[b].2,x[b].3⟩) h H_ av):=Y (by have:=e.o;rw[ad,zG]at this;exact this)
 clear ad d l p;go_wp2_with fail
 exact HX.o _ _ _ _ R J_.o
section
variable {V: N} {xs: Wi} {cs: Wc} {k: I}
def su(xs:List Xe)(t i:N)(v:I):I:=match (iT xs (t:I)).find? λq=>q.1==v with
 |some q=>q.2.getD i 0
 |none=>v
theorem Gv:∀(r a:Wy),(ai<|a++r).Nodup->(∀m∈r,0<=m.1/\m.1<64/\0<=m.2/\m.2<64)->gy a r=So
 |[],_,_,_=>R
 |m::r,a,hn,h=>by rw[gy,bY];refine⟨?_,Gv r (a++[m]) (by rw[cK];exact hn) λq b=>h q<|cN _ b⟩;unfold ly;rw[bY,bD,lV,rT];refine⟨h m cI,λq b e=>?_⟩;unfold ai at hn;rw[bG,gW]at hn;exact hn.2.2 q.1 (aY.2 ⟨q,b,R⟩) m.1 (aY.2 ⟨m,cI,R⟩) (by simpa using e)
theorem Pg{L:Wy}(a:(ai L).Nodup)(h:∀m∈L,0<=m.1/\m.1<64/\0<=m.2/\m.2<64):bw L=So:=by
 unfold bw;rw[bY,bD];refine⟨?_,Gv L [] a h⟩;have:=Ax (ys:=(Rg 64).map Int.ofNat) a (λx c=>by obtain⟨m,b,rfl⟩:=aY.1 c;have:=h m b;exact aY.2 ⟨m.1.toNat,bE.2 O,by show((m.1.toNat:N):I)=m.1;omega⟩)
 simpa [ai]using this
theorem F7{L:Wy}(h:bw L=So)(s:ju j9):(RU s<|dp L).1=sy s (bu L):=by obtain⟨_,c⟩:=rK h;obtain⟨a,b⟩:=c.start;unfold dp;rw[aU h,<-b];exact CM _ _ aA a s
theorem Nc{L:Wy}(h:bw L=So)(e:dp L=[]):bu L=[]:=by
 unfold dp at e;rw[aU h]at e;cases hs:bu L with
 |nil=>rfl
 |cons m r=>
  rw[hs]at e;rw[show 2*J (m::r)=(2*J r+1)+1 by simp;omega]at e;cases e
theorem A3(h:l8 V xs cs k){t:N}(b:t<J xs):(xs[t].1.map Ph.dst).Nodup:=by have a:=(Eu h.1).1;unfold List.Nodup BX at a;rw[iK]at a;have:=a.1 _<|aH b;exact(kY.1<|show List.Pairwise _ (XG xs[t].1++XI xs[t].2)from this).1
theorem AC{t:N}(a:t<J xs){q:Ph}(b:q∈xs[t].1){d:N}(e:q.1=(d:I)):OD xs d t 0:=by refine LG a ?_;unfold Yo;rw[aC a];exact XD.2<|aY.2 ⟨q,b,e⟩
theorem L9(h:l8 V xs cs k)(L:k<=64){p t:N}(a:t<J xs)(z:(p:I)∈AQ xs 0 (t:I)):bw (NU cs xs p (t:I))=So:=by
 have c:=h.ok;have M:=pC z;unfold NU;rw[pD a];generalize de (AQ xs 0 (t:I)) (p:I)=i at*;refine Pg ?_ ?_
 .unfold ai E9;rw[jO,jO];show(xs[t].1.map λq=>Kp cs q.1).Nodup;have d:=A3 h a;unfold List.Nodup at d |-;rw[List.pairwise_map]at d |-;refine d.imp_of_mem λ{r b} ha l x e=>x ?_;obtain⟨s,C⟩:=c.8 _ (aH a) r ha;obtain⟨u,P⟩:=c.8 _ (aH a) b l;obtain⟨B,f⟩:=bX s;obtain⟨T,g⟩:=bX u;rw[f,g]at e |-;rw[h.dis O O (AC a ha f) (AC a l g) e]
 intro m y
 obtain⟨K,F,rfl⟩:=aY.1 y;obtain⟨q,o,rfl⟩:=aY.1 F;obtain⟨v,w⟩:=c.8 _ (aH a) q o;obtain⟨W,ha⟩:=c.9 t a q o;have F_:=h.col v w;have n:i<J q.2:=O;have j:0<=q.2.getD i 0/\q.2.getD i 0<V:=by rw[bF,aC n];exact ha _<|aH n
 have G_:=h.col j.1 j.2;show 0<=Kp cs q.1/\Kp cs q.1<64/\0<=Kp cs (q.2.getD i 0)/\Kp cs (q.2.getD i 0)<64;omega
theorem l8.edge(l:l8 V xs cs k)(Y_:k<=64){p t u:N}(b:t<J xs)(n:(p:I)∈AQ xs 0 (t:I))(P:u<V)(K:OD xs u t 0):
 ∃(f:p<J xs)(c:N),su xs t (de (AQ xs 0 (t:I)) (p:I)) (u:I)=(c:I)/\c < V/\OD xs c p (J xs[p].2) /\
  (∀s:ju j9,(RU s<|NL cs xs p (t:I)).1 (Kp cs (u:I))=s.1 (Kp cs (c:I)))/\(NL cs xs p (t:I)=[]->Kp cs (c:I)=Kp cs (u:I)):=by
 have B:=l.ok;have hi:=pC n;have F:∀x∈xs,∀t∈x.3.tg,0<=t:=λx hx t b=>(B.1.3 x hx t b).1
 have o:p<J xs/\t∈X8 xs p:=by
  rw[K9 F]at n;obtain⟨z,h,e⟩:=aY.1 n;have e:z=p:=by have e:((z:N):I)=(p:I):=e;omega
  subst e;exact Uf.1 h
 obtain⟨f,o⟩:=o;have v:=L9 l Y_ b n;have L:=Kh b n;have M:NU cs xs p (t:I)=(E9 (de (AQ xs 0 (t:I)) (p:I)) xs[t].1).map λq=>⟨Kp cs q.1,Kp cs q.2⟩:=by unfold NU;rw[pD b]
 unfold su NL;rw[pD b]at L |-;generalize de (AQ xs 0 (t:I)) (p:I)=i at*;have T:∀{m:Mv},m∈NU cs xs p (t:I)->∃q∈xs[t].1,m=⟨Kp cs q.1,Kp cs<|q.2.getD i 0⟩:=λ{m} d=>by rw[M]at d;obtain⟨z,h,rfl⟩:=aY.1 d;obtain⟨q,a,rfl⟩:=aY.1 h;exact⟨q,a,R⟩
 have ab:∀q∈xs[t].1,∃j:N,q.1=(j:I)/\j<V:=λq a=>by obtain⟨R_,d1⟩:=B.8 _ (aH b) q a;obtain⟨j,e⟩:=bX R_;exact⟨j,e,O⟩
 have W:∀q∈xs[t].1,Kp cs q.1=Kp cs (u:I)->q.1=(u:I):=λq a e=>by obtain⟨j,C,X_⟩:=ab q a;rw[C]at e |-;rw[l.dis X_ P (AC b a C) K e]
 cases hf:xs[t].1.find? λq=>q.1==(u:I)with
 |none=>
  have K_:∀q∈xs[t].1,q.1≠(u:I):=λq a e=>by have:=lS.1 hf q a;simp[e]at this
  refine⟨f,u,R,P,FW f<|aZ ⟨t,o,?_⟩,λs=>?_,λ_=>R⟩
  .have L_:Yo xs t u=Sn:=by
    unfold Yo;rw[aC b,<-gU];intro e;obtain⟨q,a,e2⟩:=aY.1<|XD.1 e;exact K_ q a e2
   refine⟨L_,?_⟩;obtain⟨x,ex,_,g⟩:=K;obtain g|⟨q,T_,U_⟩:=g
   .have g:Yo xs t u=So:=g;rw[L_]at g;cases g
   rw[aC b]at ex;cases ex;exact(vk b T_).1 U_
  rw[F7 v];refine wk λd=>?_;obtain⟨m,d,e⟩:=aY.1 d;obtain⟨q,a,rfl⟩:=T (fG.1 d).1;exact K_ q a<|W q a e
 |some q=>
  have a:=List.mem_of_find?_eq_some hf;have D_:q.1=(u:I):=by simpa using List.find?_some hf
  obtain⟨hl,ha⟩:=B.9 t b q a;have I_:i<J q.2:=O;have S_:q.2.getD i 0=q.2[i]:=by rw[bF,aC I_];rfl
  obtain⟨B_,Q_⟩:=ha _<|aH I_;rw[<-S_]at B_ Q_;obtain⟨c,r⟩:=bX B_;have d:(⟨Kp cs (u:I),Kp cs (c:I)⟩:Mv)∈NU cs xs p (t:I):=by rw[M];exact aY.2 ⟨(q.1,q.2.getD i 0),aY.2 ⟨q,a,R⟩,by rw[D_,r]⟩
  refine⟨f,c,r,O,FW f<|bC ?_,λs=>?_,λe=>?_⟩
  .unfold XP;rw[aC f];refine bV.2 ⟨(t:I),?_,?_⟩
   .rw[Km f]at o;obtain⟨z,h,e⟩:=aY.1 o;have:=F _ (aH f) z h;rw[show(t:I)=z by omega];exact h
   rw[L];exact aY.2 ⟨(q.1,q.2.getD i 0),aY.2 ⟨q,a,R⟩,r⟩
  .rw[F7 v];by_cases e:Kp cs (u:I)=Kp cs (c:I)
   .rw[wk,e]
    intro y;obtain⟨m2,y,e2⟩:=aY.1 y;obtain⟨W_,E_⟩:=fG.1 y;obtain⟨q2,M_,rfl⟩:=T W_;have e3:=W q2 M_ e2;have e4:(xs[t].1.find? λq=>q.1==(u:I))=S q2:=by have Z_:=A3 l b;rw[hf];exact fI S<|y9 Z_ a M_ (by rw[D_,e3])
    rw[hf]at e4;cases e4;rw[r,e2,e]at E_;simp at E_
   have w:(⟨Kp cs (u:I),Kp cs (c:I)⟩:Mv)∈bu (NU cs xs p (t:I)):=fG.2 ⟨d,by simpa using e⟩;have ac:=(rK v).2.start.1;have:=yQ (s:=s) ac.1 w;rw[this];unfold pZ;rw[aM];have:=(l.col (v:=(c:I)) O O).1;exact λe5=>by have e5:Kp cs (c:I)<0:=e5;omega
  have:=Nc v e;apply dQ;intro aa;have w:(⟨Kp cs (u:I),Kp cs (c:I)⟩:Mv)∈bu (NU cs xs p (t:I)):=fG.2 ⟨d,by simpa using λe=>aa e.symm⟩;rw[this]at w;cases w
end
section
variable {V: N} {xs: Wi} {cs: Wc} {k: I} {M: List ag}
def SX(cs:Wc)(xs:Wi)(p:N)(x:Xe):Vr:=if x.3.1=1 then NL cs xs p x.3.3 else []
def rn(cs:Wc)(xs:Wi)(M:List ag)(p:N)(x:Xe)(t u:I):Prop :=
 (u=t/\(x.3.1=1/\t=x.3.3\/NL cs xs p t=[]/\x.3.1≠1))\/∃q:N,u=(q:I)/\J xs<=q/\x.3.1≠1/\M[q]?=S ⟨NL cs xs p t,⟨1,0,t,0⟩⟩
structure sX(xs:Wi)(cs:Wc)(M:List ag):Prop where
 len:J xs<=J M
 big:∀q (h:q<J M),J xs<=q->(∀y∈M[q].1,11<=y.1/\y.1<=13)/\M[q].2.1=1/\0<=M[q].2.3/\M[q].2.3<J xs
 sml:∀b (h:b<J xs) (h2:b<J M),M[b].1=xs[b].2.map (ZR cs)++SX cs xs b xs[b]/\M[b].2.1=xs[b].3.1/\J M[b].2.tg=J xs[b].3.tg/\Id M[b].2=(Id xs[b].3).map (Kp cs)
 way:∀b (h:b<J xs) (h2:b<J M) i (h3:i<J xs[b].3.tg) (h4:i<J M[b].2.tg),rn cs xs M b xs[b] xs[b].3.tg[i] M[b].2.tg[i]
theorem Db:∀(k:N)(L:Wy),∀y∈ax k L,L≠[]->11<=y.1/\y.1<=13\/y.1=0
 |0,_,y,h,_=>by simp[ax]at h
 |_+1,[],y,h,_=>by simp[ax]at h
 |k+1,m::L,y,h,_=>by
  obtain rfl|h:=cH.1 h
  .unfold dm;cases bj (fo (m::L))with
   |some t=>dsimp only;unfold N3;split<;>simp
   |none=>
    cases e:bj (ai (m::L))with
    |some t=>simp
    |none=>simp
  by_cases e:(dm (m::L)).2=[];·rw[e,py]at h;cases h
  exact Db k _ y h e
theorem zL{p:N}{t:I}:∀y∈NL cs xs p t,11<=y.1/\y.1<=13:=λy a=>by
 have h:=a;have b:¬y.1<=10:=by
  unfold NL dp at h;split at h;·exact Cy _ _ y h
  cases h
 unfold NL dp at a;split at a
 .by_cases e:bu (NU cs xs p t)=[];·rw[e,py]at a;cases a
  have:=Db _ _ y a e;omega
 cases a
theorem Q4(cs:Wc){xs:Wi}{b:N}(a:b<J xs):∃m,J xs<=m/\(NK cs xs)[b]?=S (Nk cs xs b xs[b] m).1/\∀i,i<J (Nk cs xs b xs[b] m).2->(NK cs xs)[m+i]?=(Nk cs xs b xs[b] m).2[i]?:=by
 have c:=ll cs xs (J xs) aA;obtain⟨f,g,e1,e2⟩:=Fh cs a (J xs) a aA;have d:=ll cs xs b O;refine⟨J xs+J (ae cs xs b).2,O,?_,λi e=>?_⟩
 .unfold NK;rw[dL O,e1,eV O,d,kL];rfl
 unfold NK;rw[eV O,c,e2,eV O,dL O];congr 1;omega
theorem Fi{cs:Wc}{xs:Wi}(b:∀x∈xs,∀t∈x.3.tg,0<=t/\t<J xs):∀j,j<=J xs->∀y∈(ae cs xs j).2,(∀z∈y.1,11<=z.1/\z.1<=13)/\y.2.1=1/\0<=y.2.3/\y.2.3<J xs
 |0,_,y,a=>by simp[ae]at a
 |j+1,hj,y,a=>by
  rw[ou cs xs j hj]at a;obtain h|h:=bU.1 a;·exact Fi b j O y h
  have sd:∀t∈xs[j].3.tg,∀m,∀y∈(ah cs xs j t m).2,(∀z∈y.1,11<=z.1/\z.1<=13)/\y.2.1=1/\0<=y.2.3/\y.2.3<J xs:=λt h m y a=>by
   unfold ah at a;split at a;·cases a
   rw[cS.1 a];exact⟨zL,R,b _ (aH _) t h⟩
  unfold Nk at h;split at h;·cases h
  split at h
  .have e:xs[j].3.tg=[xs[j].3.3,xs[j].3.4]:=by simp[Yj.tg, *]
   obtain h|h:=bU.1 h;·exact sd _ (by simp[e]) _ y h
   exact sd _ (by simp[e]) _ y h
  cases h
theorem QA(cs:Wc)(p:Jy V xs):sX xs cs (NK cs xs):=by
 have C:=ll cs xs (J xs) aA;have r:∀b (d:b<J xs) (j:b<J (NK cs xs)),∃m,J xs<=m/\(NK cs xs)[b]=(Nk cs xs b xs[b] m).1/\∀i,i<J (Nk cs xs b xs[b] m).2->(NK cs xs)[m+i]?=(Nk cs xs b xs[b] m).2[i]?:=λb d j=>by obtain⟨m,z,F,B⟩:=Q4 cs d;exact⟨m,z,(cV.1 F).2,B⟩
 refine⟨by unfold NK;rw[aQ];omega,λq y K=>?_,λb d j=>?_,λb d j i g w=>?_⟩
 .unfold NK at y |-;rw[fN O];exact Fi p.1.3 (J xs) aA _<|aH _
 .obtain⟨m,_,e,_⟩:=r b d j;rw[e];have n:=p.4 _<|aH d;unfold Nk SX;by_cases a:xs[b].3.1=1
  .rw[aU a,aU a];exact⟨R,R,by simp[NN,Yj.tg,a],by simp[NN,Id,a]⟩
  rw[aM a,aM a,fF];by_cases c:xs[b].3.1=2
  .rw[aU c];exact⟨R,R,by simp[Yj.tg,c],by simp[Id,c]⟩
  rw[aM c];exact⟨R,R,by simp[NN,Yj.tg,a,c],by simp[NN,Id,a]⟩
 obtain⟨m,L,e,l⟩:=r b d j
 have sd:∀t i,J (ah cs xs b t<|m+i).2=0\/((NK cs xs)[m+i]?=(ah cs xs b t<|m+i).2[0]?)->xs[b].3.1≠1->rn cs xs (NK cs xs) b xs[b] t (ah cs xs b t<|m+i).1:=λt i f n=>by
  unfold ah at f |-;split;·rename_i e;exact bC ⟨R,aZ ⟨e,n⟩⟩
  rename_i e;rw[aM e]at f;obtain f|f:=f;·simp at f
  exact aZ ⟨m+i,R,O,n,f⟩
 have s:∀T:Yj,T=(NK cs xs)[b].2->∀(x:i<J T.tg),rn cs xs (NK cs xs) b xs[b] xs[b].3.tg[i] T.tg[i]->rn cs xs (NK cs xs) b xs[b] xs[b].3.tg[i] (NK cs xs)[b].2.tg[i]:=λT e2 x q=>by subst e2;exact q
 have h:=w;rw[e]at h;refine s _ (by rw[e]) h ?_;generalize NK cs xs=M at*;unfold Nk at l h |-;by_cases a:xs[b].3.1=1
 .simp only[aU a]at h |-;have e1:xs[b].3.tg=[xs[b].3.3]:=by simp[Yj.tg,a]
  have e2:(NN cs xs[b].3).tg=[xs[b].3.3]:=by simp[NN,Yj.tg,a]
  simp only[e1,e2]at g |-;have:i=0:=by simpa using g
  subst this;exact bC ⟨R,bC ⟨a,R⟩⟩
 simp only[aM a]at l h |-;by_cases c:xs[b].3.1=2
 .simp only[aU c]at l h |-;have e1:xs[b].3.tg=[xs[b].3.3,xs[b].3.4]:=by simp[Yj.tg,c]
  have e2:∀o u v,(⟨xs[b].3.1,o,u,v⟩:Yj).tg=[u,v]:=λo u v=>by simp[Yj.tg,c]
  simp only[e1,e2]at g |-;have:i=0\/i=1:=by simp at g;omega
  obtain rfl|rfl:=this
  .refine sd _ 0 ?_ a;by_cases q:J (ah cs xs b xs[b].3.3 m).2=0;·exact bC q
   have:=l 0 (by rw[aQ];omega);rw[dL O]at this;exact aZ this
  refine sd _ (J (ah cs xs b xs[b].3.3 m).2) ?_ a;by_cases q:J (ah cs xs b xs[b].3.4 (m+J (ah cs xs b xs[b].3.3 m).2)).2=0;·exact bC q
  have:=l (J (ah cs xs b xs[b].3.3 m).2) (by rw[aQ];omega);rw[eV O,kL]at this;exact aZ this
 have e1:xs[b].3.tg=[]:=by simp[Yj.tg,a,c]
 simp only[e1]at g;simp at g
def SY(cs:List I)(xs:List Xe)(M:List ag)(q:N):ju j9:=match M[q]? with
 |none=>Ri
 |some y=>match xs[q]? with
  |some x=>RU (S5 cs x.2 (J x.2)) (y.1.drop (J x.2))
  |none=>RU Ri y.1
theorem Ez(c:sX xs cs M){b:N}(h:b<J xs):SY cs xs M b=RU (S5 cs xs[b].2 (J xs[b].2)) (SX cs xs b xs[b]):=by have a:b<J M:=aX h c.1;unfold SY;rw[aC a,aC h];dsimp only;rw[(c.3 b h a).1,List.drop_append_of_le_length sP,List.drop_of_length_le sP,dR]
theorem l8.way(h:l8 V xs cs k)(m:k<=64)(j:sX xs cs M){p t u:N}{i:N}{via:I}(s:t<J xs)(c:i<J (AQ xs 0 (t:I)))(g:(AQ xs 0 (t:I))[i]=(p:I))(v:u<V)(o:OD xs u t 0)(f:p<J xs)(w:rn cs xs M p xs[p] (t:I) via):
 ∃a:N,su xs t i (u:I)=(a:I)/\a < V/\OD xs a p (J xs[p].2)/\(SY cs xs M p).1 (if via=(t:I)then Kp cs (u:I)else ((SY cs xs M via.toNat).1 (Kp cs (u:I))).2)=xm cs xs[p].2 (J xs[p].2) (a:I)/\∃r:I,0<=r/\r<64/\r=(if via=(t:I)then Kp cs (u:I)else ((SY cs xs M via.toNat).1 (Kp cs (u:I))).2):=by
 have e:(p:I)∈AQ xs 0 (t:I):=by rw[<-g];exact aH c
 have d:=pC e;have l:de (AQ xs 0 (t:I)) (p:I)=i:=(List.getElem_inj (h₀:=d) (h₁:=c) (r5 (t:I) xs 0)).1 (by rw[yq d,g]);obtain⟨_,a,e1,e2,e3,e4,e5⟩:=h.edge m s e v o;rw[l]at e1;refine⟨a,e1,e2,e3,?_⟩;have b:=h.at_ f e2 _ e3;have c1:=h.col (v:=(u:I)) O O;have c2:=h.col (v:=(a:I)) O O;rw[Ez j f];obtain⟨rfl,⟨k1,k2⟩|⟨k1,k2⟩⟩|⟨q,rfl,hq,k1,k2⟩:=w
 .rw[aU R];refine⟨?_,_,c1.1,O,R⟩;unfold SX;rw[aU k1,<-k2,e4];exact b
 .rw[aU R];refine⟨?_,_,c1.1,O,R⟩;unfold SX;rw[aM k2,<-e5 k1];exact b
 have n:¬((q:I)=(t:I)):=O
 have hF:SY cs xs M (q:I).toNat=RU Ri (NL cs xs p (t:I)):=by unfold SY;rw[dM,k2];dsimp only;rw[dK hq]
 rw[aM n,hF,e4];refine⟨?_,_,c2.1,O,R⟩;unfold SX;rw[aM k1];exact b
end
theorem yI(h:Sx w m 2 1 (X p n c) n (hC l))(a:n=J l):Xf w m (Z w.1) p l:=by subst a;exact Xv.ints (lab:=λ_=>(0,0,0)) (L:=(0,0,0)) ⟨h,λ_ _=>R⟩
theorem zU(a:n<J l)(b:n<J L):(l.take n++L.drop n).set n l[n]=l.take (n+1)++L.drop (n+1):=by
 have c:J (l.take n)=n:=SB
 rw[gZ b,Hu _ _ O,c,kL,List.set_cons_zero,bN a,cK];rfl
theorem Nb(a:n<J l)(b:n<J L)(e:L[n]=l[n]):l.take n++L.drop n=l.take (n+1)++L.drop (n+1):=by rw[gZ b,e,bN a,cK];rfl
theorem zo(t:Yj)(w:Ub):
 Sk prog 36 #[Sa #[H t.1,H t.a,H t.3,H t.4]] w λj i=>∃e c,j=Rt (X e (J t.tg) c)/\Sw (Z w.1) w i/\Sx i (Z w.1) 2 1 (X e (J t.tg) c) (J t.tg) (hC t.tg):=by
 obtain⟨b,d,tg,a⟩:=t;by_cases f:b=1
 .subst f
  go_in
  go_wp2;go_ret;refine⟨_,_,R,Xb (Xb Rf _) _,?_⟩;have:=eI (base:=Z w.1) (e:=2) (size:=1) (D w (Sc #[H 1,H d,H tg,H a] 50)) #[H tg] 1 sP SD R;simpa [Yj.tg,hC]using this
 by_cases g:b=2
 .subst g
  go_in
  go_wp2;go_ret;refine⟨_,_,R,Xb (Xb Rf _) _,?_⟩;have:=eI (base:=Z w.1) (e:=2) (size:=1) (D w (Sc #[H 2,H d,H tg,H a] 50)) #[H tg,H a] 2 sP SD R;simpa [Yj.tg,hC]using this
 have h:(Yj.tg ⟨b,d,tg,a⟩)=[]:=by simp[Yj.tg,f,g]
 rw[h];clear h
 go_in
 go_wp2;go_ret;exact⟨_,_,R,Xb Rf _,dA⟩
theorem Lo{t T:Yj}(l:I)(K:Uy){mn:N}(m b n:N){M:List ag}(ac P:N)(w:Ub)(V:Q (d7 w ac P K M))(hx:Q (mn=J M))(hB:P<=Z w.1)(hb:b<mn)(O_:Q (∃h:b<J M,M[b].2=T))(Q_:Q (T.1=t.1))(hl:Q (J T.tg=J t.tg))(hw:Q (∀i (h:i<J t.tg) (h':i<J T.tg),(T.tg[i]=t.tg[i]/\t.tg[i]<n)\/∃(q:N)(U_:q<J M),T.tg[i]=(q:I)/\n<=q/\M[q].2.3=t.tg[i])):
 Sk prog 56 #[Sa #[Si S6 t.1,Si S6 t.a,Si S6 t.3,Si S6 t.4],Sa #[Si S6 l,X K mn m],Si S6 b,Si S6 n] w λu w'=>u=Rt (Sb So)/\Sw (Z w.1) w w':=by
 obtain⟨ad,L⟩:=O_.o;obtain⟨k,o,rfl,aq,ia,ic,e0,⟨e1,e2,e3,e4⟩,-⟩:=V.o b ad;have az:k<Z w.1:=O;rw[L]at e1 e2 e3 e4;have I_:=Y λW=>zo T W;have J_:=Y λW=>zo t W;have z:=Y Q_.o;have a3:=KJ T;obtain⟨tk,p,r,te⟩:=t;obtain⟨Tk,RX,Tt,Te⟩:=T;dsimp only at I_ J_ z e1 e2 e3 e4;have aj:=z.o;subst aj;generalize ao:(⟨Tk,RX,Tt,Te⟩:Yj).tg=a at*;generalize am:(⟨Tk,p,r,te⟩:Yj).tg=d at*;clear ao am L Q_ z O_
 go_in
 go_wp2_with (go_at_call 36;refine(I_.o _).mono ?_;rintro u s⟨K_,c1,rfl,f,C⟩)
 have V_:Z (D (D (D w (Sc #[Si S6 Tk,Si S6 p,Si S6 r,Si S6 te] 50)) (Sc #[Si S6 l,X (S ⟨k,o,U⟩) mn m] 31)) (Sc #[Si S6 Tk,Si S6 RX,Si S6 Tt,Si S6 Te] 50)).1=Z w.1+3:=sP;have ap:=f.4;have bA:Bx s (Z w.1) #[Si S6 Tk,Si S6 p,Si S6 r,Si S6 te] 50:=(((Bx.new w _ _).box _).box _).keep (f.5 _ O);have bB:Bx s (Z w.1+1) #[Si S6 l,X (S ⟨k,o,U⟩) mn m] 31:=by
  have h:=Bx.new (D w (Sc #[Si S6 Tk,Si S6 p,Si S6 r,Si S6 te] 50)) #[Si S6 l,X (S ⟨k,o,U⟩) mn m] 31;rw[aO]at h;exact(h.box _).keep (f.5 _ O)
 have bC:Bx s (Z w.1+1+1) #[Si S6 Tk,Si S6 RX,Si S6 Tt,Si S6 Te] 50:=by
  have h:=Bx.new (D (D w (Sc #[Si S6 Tk,Si S6 p,Si S6 r,Si S6 te] 50)) (Sc #[Si S6 l,X (S ⟨k,o,U⟩) mn m] 31)) #[Si S6 Tk,Si S6 RX,Si S6 Tt,Si S6 Te] 50;rw[aO,aO]at h;exact h.keep<|f.5 _ O
 have y:Q (Sw (Z w.1) w s):=Y<|Xg (Xb (Xb (Xb Rf _) _) _) f;rw[V_]at C ap;have al:=Y<|V.keep (y.mono hB);have ab:=Y C;have g:=Y bA;have F_:=Y bB;have G_:=Y bC;clear f C e0 e1 e2 e3 e4 V_ bA bB bC;have j:Q (J a=J d):=Y hl.o
 go_loopw [23] (λx wr=>∃i:N,i<=J a/\x=Si S6 i/\Q (Sw (Z w.1+3) s wr)/\Q (Sx wr (Z w.1+3) 2 1 (X K_ (J a) c1) (J a) (hC<|d.take i++a.drop i))) λx _=>J a-(JB x).toNat
 case atStart=>exact⟨0,aN,R,Y<|Rf,Y<|by rw[lK,dR,zC];exact ab.o⟩
 obtain⟨i,hi,rfl,c,e⟩:=hrel;by_cases v:i<J a
 .have hit:i<J d:=oN j.o
  obtain⟨N_,ca,ea,ar,_⟩:=Xm e.o O;cases ea;have c0:E wr ⟨N_,i,U⟩=S (Si S6 a[i]):=Jj e.o (by
   unfold hC;rw[gZ v,dX,eV<|by simp;omega];simp[jZ<|dU hit])
  have z0:=ol e.o i;have F:=Y<|qO (i:=i) e.o (Si S6 d[i]);have H_:Q ((hC<|d.take i++a.drop i).set i (Si S6 d[i])=hC (d.take (i+1)++a.drop (i+1))):=Y (by
   unfold hC;rw[<-mN,zU hit v])
  rw[H_.o]at F;clear H_;obtain⟨h1,h2⟩|⟨q,U_,h1,h2,h3⟩:=hw.o i hit v
  .have hc:¬(n:I)<=a[i]:=O
   have HS:Q (Sx wr (Z w.1+3) 2 1 (X (S ⟨N_,0,U⟩) (J a) c1) (J a) (hC<|d.take (i+1)++a.drop (i+1))):=Y (by
    rw[<-Nb hit v h1];exact e.o)
   clear F h1 h2;generalize a[i]=x at*;go_wp2;exact⟨⟨i+1,O,gM,c,HS⟩,by simp[JB];omega⟩
  obtain⟨gq,oq,eq,au,_,_,_,⟨_,_,e3,_⟩,_⟩:=al.o q U_;cases eq;have hc:(n:I)<=(q:I):=O;have a0:q<mn:=oN hx.o;have t2:=G (XU c.o O) e3;have k1:=oB c (Bx.c F_.o 1) O;rw[h3]at t2;rw[h1]at c0;clear h1 h3 e3;generalize d[i]=tv at*;go_wp2;exact⟨⟨i+1,O,gM,Y (c.setCell (by dsimp only;omega) _),F⟩,by simp[JB];omega⟩
 have af:i=J a:=O
 subst af;have Z_:Q (Xf wr (Z w.1+3) (Z wr.1) K_ d):=Y (by
  have h:=e.o;rw[List.drop_of_length_le aA,fF,aW<|by rw[j.o];exact aA]at h;exact yI h j.o)
 have k0:=oB c (Bx.c g.o 0) O;have k1:=oB c (Bx.c g.o 1) O;have k2:=oB c (Bx.c g.o 2) O;have k3:=oB c (Bx.c g.o 3) O;have j0:=oB c (Bx.c G_.o 0) O;clear g F_ G_ e;go_wp2_with fail
 refine(J_.o _).mono ?_;rintro u w2⟨a2,c2,rfl,B,S_⟩;have E_:=Y<|c.trans (B.mono<|oN c.4);have aa:=Y<|Lh c2 c1 (Y<|yI S_ R) (Y<|Z_.keep B) (Y R) j (oN j.o);clear B S_;go_wp2_with (go_at_call 113;refine aa.mono ?_;rintro u w3⟨rfl,P_⟩;have Y_:=Y P_;clear P_)
 go_ret;exact⟨R,y.trans<|(E_.mono O).trans (Y_.mono<|oP E_.4 y.4)⟩
section
section
variable {P: Yh} {w w': Ub} {ops: Array Oper} {rest: List Oper} {o: Oper} {a: Act} {Q_: Exit -> Act -> Ub -> Prop}
theorem NQ(d:o.6=U)(x:Operand)(t:TypeId)(e:o.2=Op.load t x){b:Addr}(g:a.eval x=Sj (S b)){v:Uj}(f:(loadVar t b).run P w=.ok v w)(hK:wpList P ops Q_ rest (a.put o.1 v) w):wpList P ops Q_ (o::rest) a w:=by refine nG d λh c=>?_;unfold Oper.wp;simp[execOp,e,g,Instr.loadAt,Instr.sureAddr,f,Result.andThen];exact c _ _ hK
theorem Ql(d:o.6=U)(x y:Operand)(t:TypeId)(e:o.2=Op.store t x y){b:Addr}(g:a.eval x=Sj (S b)){v:Uj}(h:a.eval y=v)(f:(storeVar t b v).run P w=.ok () w')(hK:wpList P ops Q_ rest (a.put o.1 Su) w'):wpList P ops Q_ (o::rest) a w:=by refine nG d λi c=>?_;unfold Oper.wp;simp[execOp,e,g,h,Instr.storeAt,Instr.sureAddr,f,Result.andThen];exact c _ _ hK
theorem QI{fn:Func}{p:Tmp}{d:TypeId}(h:fn.8=#[.cell p d]){c:Zh}{b:Addr}(ha:c.getD p Su=Sj (S b)){v:Uj}(e:(loadVar d b).run P w=.ok v w):(JC fn c).run P w=.ok v w:=by rw[Array.getD_eq_getD_getElem?]at ha;simp[JC,h,ha,asAddr,e]
end
def Sm(s:ju j9)(r:N):j9:=if r<64 then s.1 (r:I)else s.2
def nU(s:ju j9)(q:N):Uj:=Si S6 (if q%2=0 then (Sm s<|q/2).1 else (Sm s<|q/2).2)
theorem yM:zeroCells139=Array.replicate 130 (H 0):=by rfl
theorem C0{r:N}(h:r<65):Sm Ri r=(-1,(r:I)):=by
 unfold Sm Ri;split;·rfl
 rw[show r=64 by omega];rfl
theorem Qz(w:Ub):
 Sk prog 59 #[] w λM w'=>∃c:Zh,M=Rt (Sa c)/\Z c=130/\(∀q,q<130->c[q]?=S (nU Ri q))/\Sw (Z w.1) w w':=by
 obtain⟨b,l⟩:∃b,b=zeroCells139:=⟨_,R⟩;have n:Z b=130:=by rw[l,yM];simp
 have K:(storeCells (A (Z w.1+1) 0) zeroCells139.toList).run prog (D (D w (Sc zeroCells139 139)) (Sc zeroCells139 139))=.ok () (D (D w (Sc zeroCells139 139)) (Sc zeroCells139 139)):=by have:=run_storeCells_new (P:=prog) (D w (Sc zeroCells139 139)) 139 zeroCells139 zeroCells139 (by rw[yM];kernel_rfl) R (by rw[yM];kernel_rfl);rw[aO]at this;exact this
 go_in
 go_wp2;rw[<-l];have T:(λC:Ub=>Z C.1=Z w.1+2/\Q (Sw (Z w.1) w C)/\Q (C.rowIs (Z w.1+1) 139 130 λ_=>H 0)/\Q (C.rowIs (Z w.1) 139 130 λ_=>H 0)) (D (D w (Sc b 139)) (Sc b 139)):=by
  have L:∀W:Ub,(D W (Sc b 139)).rowIs (Z W.1) 139 130 (λ_=>H 0):=λW=>by have:=eK W b 139 (λ_=>H 0) (λi h=>by rw[l,yM];rw[n]at h;simp[h]);rwa[n]at this
  refine⟨sP,Y<|Xb (Xb Rf _) _,Y ?_,Y<|(L w).alloc _⟩;have:=L<|D w (Sc b 139);rwa[aO]at this
 generalize D (D w _) _=S_ at*;obtain⟨y,f,d,g⟩:=T;have M_:=Y y;clear K y
 go_loopw [4] (λi wr=>∃k:N,k<=65/\i=H k/\Q (Sw (Z w.1) w wr)/\Q (wr.rowIs (Z w.1+1) 139 130 λq=>if q/2<k then nU Ri q else H 0)/\Q (wr.rowIs (Z w.1) 139 130 λ_=>H 0)) λi _=>65-(JB i).toNat
 .exact⟨0,aN,R,f,Y (d.congr λi _=>sP),g⟩
 obtain⟨k,R_,rfl,f,d,g⟩:=hrel;by_cases v:k<65
 .have c0:=d.cell (i:=k*2) O;have c1:=d.cell (i:=k*2+1) O;have N_:=d.frozen<|k*2;have f1:=d.frozen<|k*2+1;rw[aM O]at c0 c1;go_wp2;refine⟨⟨k+1,O,gM,Y ((f.setCell SG _).setCell SG _),Y (((d.set (k*2) _).set (k*2+1) _).congr λq V=>?_),Y<|(g.setOther SG _).setOther SG _⟩,SA⟩;by_cases e1:q=k*2+1
  .rw[aU e1,aU O];unfold nU;rw[aM O,show q/2=k by omega,C0 v]
  rw[aM e1];by_cases e2:q=k*2
  .rw[aU e2,aU O];unfold nU;rw[aU O,show q/2=k by omega,C0 v]
  rw[aM e2];by_cases e3:q/2<k;·rw[aU e3,aU O]
  rw[aM e3,aM O]
 have F:Q (wr.rowIs (Z w.1+1) 139 130 λq=>nU Ri q):=Y<|d.congr λq V=>aU O
 obtain⟨c,p,e,s⟩:=F.o;obtain⟨B,m,z,L_⟩:=g.o;have j:(prog.info? 139).map (·.3)=S 130:=vZ;have r:c.all (·.oneCell')=So:=by rw[Array.all_eq_true];intro i h;have:=s i O;rw[Array.getElem?_eq_getElem h]at this;rw[gQ this];rfl
 have u:=run_loadVar_row (P:=prog) wr (Z w.1+1) 139 139 c (0,0) _ p underlying139 R (by rw[e];exact j);have x:=run_storeVar_row (P:=prog) wr (Z w.1) 139 139 B c m (by rw[e];exact j) (by rw[e,z]) r;have t:=run_loadVar_row (P:=prog) (wr.setRow (Z w.1) c) (Z w.1) 139 139 c (0,0) _ (setRow_heap wr (Z w.1) B c 139 (0,0) m) underlying139 R (by rw[e];exact j);have C_:Q (Sw (Z w.1) w<|wr.setRow (Z w.1) c):=Y (f.trans ⟨R,R,R,by simp[World.setRow],λb_ O_=>setRow_other _ _ _ _ O⟩);have E_:=Y u;have G_:=Y x;have D_:=Y t;clear p m z L_ u x t j r
 go_wp2_with (first
  |refine NQ R _ 139 R R E_.o ?_
  |refine Ql R _ _ 139 R R R G_.o ?_)
 refine cC (v:=Sa c) (QI R R D_.o) R ⟨c,R,e,s,C_.o⟩
end
theorem M3{P:Yh}(w:Ub)(dT C F d:TypeId)(z g o e i:N)(c:Addr)(h B m:N)(b:Zh)(t:TypeId)(a:Wo)(y:P.underlying dT=S (.slice d))(f:(P.info? d).map (·.3)=S z)(n:w.1[g]?=S (Sc b t (0,0)))(r:m=Nat.min h e)(s:J a=m*z)(u:∀j v,a[j]?=S v->E w (c.add j)=S v)(l:o+J a<=Z b)(k:∀v∈a,v.oneCell'=So):
 (Builtin.copy_ #[dT,C] F #[Hm g o e i,X (S c) h B]).run P w=.ok (goInt m) (w.setRow g (b.1.take o++a++b.1.drop (o+J a)).toArray):=by
 have q:=run_loadCells_list (P:=P) w c a u;have x:=run_storeCells_at P g o t a 0 b w n (by simpa using l) k;cases hq:P.info? d with
 |none=>simp[hq]at f
 |some K=>
  have p:K.3=z:=by simpa [hq]using f
  simp[Builtin.copy_,run_underlying y,Builtin.lenOf,Builtin.firstCells,sizeOf,typeInfo,hq,p,<-r,<-s,q,x]
theorem KD(p b o:N)(u:N)(W:Ub)(z:W.rowIs n 139 (B*130) H_)(M:k<=B)(hF:∀i,(h i).oneCell'=So)(t:m=Nat.min g (B-k))(K:∀j,j<m*130->E W (A b (o+j))=S (h<|j%130)):
 ∃d,Sem.run prog (Builtin.copy_ #[130,130] 3 #[Hm n (k*130) (B-k) p,Hm b o g u]) W=.ok (goInt m) d/\W.grownBy d (S n)/\d.rowIs n 139 (B*130) (λi=>if k*130<=i/\i<(k+m)*130 then h (i%130)else H_ i):=by
 obtain⟨c,r,x,y⟩:=z;have F:m<=B-k:=by rw[t];exact kQ _ _
 have l:J ((Rg<|m*130).map λj=>h<|j%130)=m*130:=sP;have q:=M3 (P:=prog) W 130 130 3 139 130 n (k*130) (B-k) p (A b o) g u m c 139 ((Rg<|m*130).map λj=>h<|j%130) underlying130 vZ r t l (λj L a=>by
  rw[dX]at a;cases hq:(Rg<|m*130)[j]? with
  |none=>rw[hq]at a;cases a
  |some i=>
   rw[hq]at a;obtain⟨f,e⟩:=cV.1 hq;rw[dW]at e;subst e;rw[mK,K j<|by simpa using f];simpa using a) (by rw[l];omega) (λL C=>by
  obtain⟨i,_,rfl⟩:=aY.1 C;exact hF _)
 rw[l]at q;refine⟨_,q,⟨R,R,R,sP,λj _ a=>setRow_other _ _ _ _ λe=>a<|by rw[e]⟩,⟨_,setRow_heap _ _ _ _ _ _ r,?_,λi f=>?_⟩⟩;·simp[x];omega
 have s:c[i]?=S (H_ i):=y i f;simp only[List.getElem?_toArray];by_cases v:i<k*130
 .rw[aM O,dL SB,dL SB,fH v];simpa using s
 by_cases w:i<(k+m)*130
 .rw[aU ⟨O,w⟩,dL SB,eV<|by simp;omega];have e:i-J (List.take (k*130) c.1)=i-k*130:=SB
  rw[e,dX,iQ O];simp only[jY];rw[show(i-k*130)%130=i%130 by omega]
 rw[aM O,eV SB,jA];have:k*130+m*130+(i-J (List.take (k*130) c.1++(Rg<|m*130).map λj=>h<|j%130))=i:=SB
 rw[this];simpa using s
theorem Q2:(prog.info? 139).map (λi=>(i.8,i.3,i.4))=S (S (Sa zeroCells139),130,1040):=vZ
theorem VN(b:N)(w:Ub)(hn:n<=5000)(h0:0<n)(B:Q (∀j,j<130->E w (A b (0+j))=S (nU Ri j)))(U_:b<Z w.1):
 Sk prog 58 #[Hl b 1 1,H n] w λe s=>∃l,e=Rt (Hl l n n)/\Z w.1<=l/\Sw (Z w.1) w s/\s.rowIs l 139 (n*130) (λr=>nU Ri<|r%130):=by
 have S_:=Y λW=>Li W hn;obtain⟨i0,z,L,M,P⟩:=fX Q2;have aa:∀W:Ub,(Instr.makeSlice 130 (H n) (H n)).run prog W=.ok (Hl (Z W.1) n n) (D W (Sc (madeCells zeroCells139 (n*130)) 139)):=λW=>by have:=run_make (P:=prog) W 130 139 i0 _ underlying130 z L S6 S6 n n O (zP _) (by rw[P];omega) O;simp only[dM,M,Value.cells]at this;exact this
 have hF:∀i,(nU Ri i).oneCell'=So:=λi=>R
 have T:∀W:Ub,(D W (Sc (madeCells zeroCells139 (n*130)) 139)).rowIs (Z W.1) 139 (n*130) (λ_=>H 0):=λW=>by
  have:=eK W (madeCells zeroCells139 (n*130)) 139 (λ_=>H 0) (λi h=>by rw[nA]at h;have c:i%130<130:=dS _ vY;simp[madeCells,h,yM,c])
  rwa[nA]at this
 obtain⟨a,f⟩:∃a,a=Nat.min 1 (n-0):=⟨_,R⟩;have Z_:a<=1:=by rw[f];exact mQ _ _
 have F:a<=n:=by have:=kQ 1<|n-0;rw[f];omega
 have V:0<n->1<=a:=λo=>by rw[f];exact Nat.le_min.2 ⟨aA,O⟩
 obtain⟨y,q,C,H_⟩:=KD n b 0 1 (D w (Sc (madeCells zeroCells139 (n*130)) 139)) (T w) aN hF f (λj V_=>by have:j<130:=O;rw[jM this];exact G (bP _ _ _ U_) (B.o j this))
 rw[Nat.sub_zero,lC]at q;have x:=Y H_;have t:=Y C;clear H_ C f L M P z T
 go_in
 go_wp2_with fail
 refine YU (S_.o _) λw1 K=>?_;rw[K];clear K w1;go_wp2_with fail
 generalize Jd ((n:I)<0)=ab;generalize Jd (9223372036854775807<(n:I))=ac;have v:Q (y.rowIs (Z w.1) 139 (n*130) λi=>if i<a*130 then nU Ri (i%130)else H 0):=Y (x.congr (λi _=>by
  by_cases o:i<a*130;·rw[aU ⟨O,O⟩,aU o]
  rw[aM O,aM o]))
 have s_:Q (Sw (Z w.1) w y):=Y ((Xb (dC _ w) _).grown t.o sP λk e=>by cases e;exact aA);have R_:=Y hF;clear x t q B aa hF
 go_loopw [8] (λu wr=>∃k:N,(0<n->1<=k)/\k<=n/\u=H k/\Q (Sw (Z w.1) w wr)/\Q (wr.rowIs (Z w.1) 139 (n*130) λi=>if i<k*130 then nU Ri (i%130)else H 0)) λu _=>n-(JB u).toNat
 .exact⟨a,V,F,R,s_,v⟩
 clear s_ v;obtain⟨k,X_,Y_,rfl,g,d⟩:=hrel;by_cases ad:k<n
 .obtain⟨m,c⟩:∃m,m=Nat.min k (n-k):=⟨_,R⟩;have Z_:m<=k:=by rw[c];exact mQ _ _
  have F:m<=n-k:=by rw[c];exact kQ _ _
  have V:0<m:=by rw[c];exact Nat.lt_min.2 ⟨X_ O,O⟩
  obtain⟨z_,q,D_,I_⟩:=KD (n-k) (Z w.1) 0 n wr.drew d.o Y_ R_.o c (λj V_=>by rw[aV];have:=d.cell (i:=j) O;rw[aU O]at this;exact this)
  have T_:Q (z_.rowIs (Z w.1) 139 (n*130) λi=>if i<(k+m)*130 then nU Ri (i%130)else H 0):=Y (I_.congr (λi _=>by
   by_cases A_:i<k*130;·rw[aM O,aU A_,aU O]
   by_cases p:i<(k+m)*130;·rw[aU ⟨O,p⟩,aU p]
   rw[aM O,aM A_,aM p]))
  have P_:Q (Sw (Z w.1) w z_):=Y (g.drew.grown D_ g.4 λk e=>by cases e;exact aA);clear g d I_ D_ c;go_wp2;go_region;go_wp2;exact⟨⟨k+m,λ_=>O,O,gM,P_,T_⟩,SA⟩
 have:k=n:=O;subst this;have Q_:Q (wr.rowIs (Z w.1) 139 (k*130) λr=>nU Ri<|r%130):=Y (d.congr λi h=>aU h);clear d;go_wp2;go_ret;exact⟨_,R,aA,g.o,Q_.o⟩
end Go.Proofs.YtcncjgijikoapaaGreatDoor
