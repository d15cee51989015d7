import Derived.Test.YtcncjgijikoapaaGreatDoorDL1
import Derived.Test.YtcncjgijikoapaaGreatDoorDGc
import Derived.Test.YtcncjgijikoapaaGreatDoorMQ3
namespace Go.Proofs.YtcncjgijikoapaaGreatDoor
set_option maxHeartbeats 4000000
set_option maxRecDepth 100000
open _root_ renaming List.length->J,Nat->N,Int->I,Option.some->S,Option.none->U,Bool.true->So,List.range->Rg,Array.size->Z,rfl->R,trivial->JV,Bool.false->Sn,absurd->Sz,Decidable.decide->Jd
open Go renaming World.setCell->Se,IntKind.i64->S6,Ending.returned->Rt,RowKit.Below->Sw,Calls->Sk,World.cell?->E,World.alloc->D,World.ownsRow->Sx
open Value renaming slice->X,int->Si,agg->Sa
open Go.RowKit Go.Proofs.Tryz
variable{r:Bool}{t T z:I}{n m k i c:N}{w v:Ub}{a A_:Uj}{p:Uy}{s:Wa}{l L:Wc}{x X_:Wi}{y:Wo}{q:Xe}
def ij(b n:N):N:=if b=0 then 0 else n-b
def Rs(b:I)(n:N):I:=if b=0 then 0 else (n:I)-b
def Nd(n:N)(t:Yj):Yj:=⟨t.1,t.a,if t.1≠3 then Rs t.3 n else t.3,if t.1=2 then Rs t.4 n else t.4⟩
def Ra(a:Wi):Wi:=(Rg (J a)).map λb=>⟨(a.getD (ij b (J a)) ip).1,(a.getD (ij b (J a)) ip).2,Nd (J a) (a.getD (ij b (J a)) ip).3⟩
def tF(n:N)(a b:Wc)(z:I):Wc:=(Rg (J a)).filterMap λm=>if a.getD m 0=Rs z n then S (b.getD m 0)else U
def oH(n:N)(c b a:Wc):Wc:=b.flatMap<|tF n c a
def RK(n:N)(c a:Wc)(b:Za):Za:=b.map λp=>⟨p.1,oH n c a p.2⟩
def oK(a:List Xe):N->N->List Xe->List Xe
 |0,_,g=>g
 |k+1,b,g=>oK a k (b+1) (g.set b ⟨RK (J a) (AQ a 0 (ij b (J a):N)) (AQ g 0 (b:I)) (g.getD b ip).1,(g.getD b ip).2,(g.getD b ip).3⟩)
def mf(a:Wi):Wi:=oK a (J a) 0<|Ra a
def me(top:I)(x:Yg):Yg:=⟨x.1,if dB x.1=So then wrap64 (top-x.2)else x.2,if aB x.1=So then wrap64 (top-x.a)else x.a,if bB x.1=So then wrap64 (top-x.b)else x.b,x.5⟩
def AV(top:I)(t:Yj):Yj:=⟨t.1,if t.1≠1 then wrap64 (top-t.a)else t.a,t.3,t.4⟩
def Ru(top:I)(x:Xe):Xe:=⟨x.1.map λp=>⟨wrap64<|top-p.1,p.2.map λz=>wrap64<|top-z⟩,x.2.map<|me top,AV top x.3⟩
def Sh(v:N)(a:Wi):Wi:=a.map<|Ru ((v:I)-1)
def xw(a:Wi):Prop:=∀i (h:i<J a),∀p∈a[i].1,J p.2=J (AQ a 0 (i:I))
noncomputable def yE(s:cB)(c:Bool):Wi×N×cB :=
 let a:=iw s<|3+s.4;let b:=iw a.2 2;let t:=oA (a.1.toNat+1) (a.1.toNat+1) 0 b.2 [];let d:=R7 c (a.1.toNat+1) t.1 t.2;let g:=Rw (b.1==0) d.2.1 (J d.1) 0 ⟨d.1.map kj,[],0,d.2.2⟩;let h:=Nl g.2 (J d.1) 0 g.1 g.s
 (h.1,g.v,h.2)
noncomputable def Fz(s:cB)(a:Bool):Fn×cB :=
 let g:=yE s a;let p:=iw g.2.2 3;let q:=iw p.2 3
 (⟨g.2.1,if q.1=0 then Sh g.2.1 (if p.1=0 then mf g.1 else g.1)else (if p.1=0 then mf g.1 else g.1)⟩,q.2)
section
def RS(xs:Wi):Prop:=∀x∈xs,J x.1<=1000/\(∀p∈x.1,J p.2<=1000)/\J x.2<=1000
def tV(n:N)(t:Yj):Prop:=(t.1=1\/t.1=2\/t.1=3)/\0<=t.3/\t.3<n/\0<=t.4/\t.4<n
def p8(xs:Wi):Prop:=∀x∈xs,tV (J xs) x.3
def Jl:Prop:=∀(v:N)(G_ n c:N)(xs:Wi)(lab:N->N×N×N)(a:N)(pv iv:Vu)(av:N->Vu)(w:Ub),Q (xW w lab a (Hl G_ n c) xs pv iv av)->Q (n=J xs)->a<=Z w.1->Q (∀b,Z w.1<=b->lab b=(0,0,0))->Q (xw xs)->Q (RS xs)->Q (p8 xs)->1<=n->n<=11 ->
 Sk prog 71 #[Sa #[H v,Hl G_ n c]] w λh w'=>∃d e f j i g,h=Rt (Sa #[H v,Hl e n f])/\Sw (Z w.1) w w'/\xW w' d a (Hl e n f) (mf xs) j i g/\(∀b,Z w'.1<=b->d b=(0,0,0))/\(∀b,b<Z w.1->lab b=(0,0,0)->d b=(0,0,0))
def ND:Prop:=∀(v:N)(G_ n c:N)(xs:Wi)(lab:N->N×N×N)(a:N)(pv iv:Vu)(av:N->Vu)(w:Ub),Q (xW w lab a (Hl G_ n c) xs pv iv av)->Q (n=J xs)->a<=Z w.1->Q (∀b,Z w.1<=b->lab b=(0,0,0))->n<=11->v<=1000->Q (RS xs) ->
 Sk prog 72 #[Sa #[H v,Hl G_ n c]] w λe w'=>e=Rt (Sa #[H v,Hl G_ n c])/\Sw a w w'/\xW w' lab a (Hl G_ n c) (Sh v xs) pv iv av/\(∀b,b<Z w.1->lab b=(0,0,0)->w'.1[b]?=w.1[b]?)/\(∀b,Z w'.1<=b->lab b=(0,0,0))
structure nM(w wr:Ub)(lab:N->N×N×N)(sb B:N)(s:cB)(fb vals G_ c:N)(xs:Wi)(pv iv:Vu)(av:N->Vu):Prop where
 dr:i9 wr sb B s
 gr:w.grownBy wr (S sb)
 bw:B<=Z w.1
 res:Bx wr (Z w.1) #[Si S6 0,X U 0 0] 25
 resl:lab (Z w.1)=(0,0,0)
 fbx:Bx wr fb #[Si S6 vals,X (S ⟨G_,0,U⟩) (J xs) c] 25
 fbl:lab fb=(0,0,0)
 fbb:Z w.1<fb
 fn:xW wr lab (Z w.1) (X (S ⟨G_,0,U⟩) (J xs) c) xs pv iv av
 fr:∀b,Z wr.1<=b->lab b=(0,0,0)
variable {w wr w': Ub} {lab: N -> N×N×N} {sb B: N} {s s': cB} {fb vals G_ c: N} {xs: Wi} {pv iv: N -> Uj} {av: N -> N -> Uj}
theorem CK.toT{ve:Uj}{b:Vu}{a:Tm}{e:Uj}{d:Wc}(h:CK w wr lab sb B s fb vals G_ c xs pv iv av ve b a e d):nM w wr lab sb B s fb vals G_ c xs pv iv av:=⟨h.1,h.2,h.3,h.4,h.5,h.6,h.7,h.8,h.9,h.fr⟩
theorem nM.lt(h:nM w wr lab sb B s fb vals G_ c xs pv iv av):sb<Z w.1:=oP h.3 h.1.3
theorem nM.call(h:nM w wr lab sb B s fb vals G_ c xs pv iv av)(g:wr.grownBy w' (S sb))(d:i9 w' sb B s'):nM w w' lab sb B s' fb vals G_ c xs pv iv av:=by have k:XW wr w' lab lab (Z w.1) (λ_=>True):=XW.grown g h.lt;exact⟨d,R9 h.2 g,h.3,h.4.sp k aA JV,h.5,h.6.sp k (dU h.8) JV,h.7,h.8,h.9.sp k 0 (λ_ _ _ _ _=>JV) (bC λ_ _=>JV),k.3 h.fr⟩
theorem nM.low(h:nM w wr lab sb B s fb vals G_ c xs pv iv av)(k:Sw (Z w.1) wr w'):i9 w' sb B s/\w.grownBy w' (S sb) :=
 ⟨h.1.keep<|k.mono h.3,⟨G k.1 h.2.1,G k.2 h.2.2,G k.3 h.2.3,aJ h.2.4 k.4,λb a d=>G (k.5 b a) (h.2.5 b a d)⟩⟩
theorem E6{xs:Wi}:∀(k b:N)(g:Wi),J (oK xs k b g)=J g
 |0,_,_=>R
 |k+1,b,g=>by rw[oK,E6];simp
theorem A5{xs:Wi}:J (mf xs)=J xs:=by unfold mf;rw[E6];simp[Ra]
theorem A2{v:N}{xs:Wi}:J (Sh v xs)=J xs:=by simp[Sh]
theorem nM.turned{a:N->N×N×N}{f g:N}{q n:Vu}{j:N->Vu}(h:nM w wr lab sb B s fb vals G_ c xs pv iv av)(d:Sw (Z wr.1) wr w')(t:xW w' a (Z w.1) (X (S ⟨f,0,U⟩) (J xs) g) (mf xs) q n j)(r:∀b,Z w'.1<=b->a b=(0,0,0))(l:∀b,b<Z wr.1->lab b=(0,0,0)->a b=(0,0,0)):
 nM w (Se (Se w' ⟨fb,0,U⟩ (Si S6 vals)) ⟨fb,1,U⟩ (X (S ⟨f,0,U⟩) (J xs) g)) a sb B s fb vals f g (mf xs) q n j:=by
 have m:=h.low<|d.mono h.2.4;have u:Bx w' fb #[H vals,Hl G_ (J xs) c] 25:=h.6.keep<|d.5 _ h.6.lt;have k:=l fb h.6.lt h.7;have o:XW w' (Se (Se w' (A fb 0) (H vals)) (A fb 1) (Hl f (J xs) g)) a a (Z w.1) (λb=>b≠fb):=((XW.put fb _ _).trans (XW.put fb _ _)).weak λ_ d=>⟨d,d⟩;have p:∀b,(a b).1≠0->b≠fb:=λb i e=>i (by rw[e,k]);have x:=h.3;have v:=h.8;refine⟨(m.1.put O).put O,Rv (Rv m.2 O) O,h.3,((h.4.keep<|d.5 _ h.4.lt).other O).other O,l _ h.4.lt h.5,?_,k,h.8,?_,o.3 r⟩
 .rw[A5];have:=(u.set 0<|H vals).set 1 (Hl f (J xs) g);simpa using this
 rw[A5];exact t.sp o 0 (λb i _ _ _=>p b i) (bC λb e=>p b (by obtain e|e:=e<;>rw[e]<;>simp))
theorem nM.renamed(h:nM w wr lab sb B s fb vals G_ c xs pv iv av)(a:Sw (Z w.1) wr w')(l:xW w' lab (Z w.1) (X (S ⟨G_,0,U⟩) (J xs) c) (Sh vals xs) pv iv av)(f:∀b,b<Z wr.1->lab b=(0,0,0)->w'.1[b]?=wr.1[b]?)(k:∀b,Z w'.1<=b->lab b=(0,0,0)):
 nM w (Se (Se w' ⟨fb,0,U⟩ (Si S6 vals)) ⟨fb,1,U⟩ (X (S ⟨G_,0,U⟩) (J xs) c)) lab sb B s fb vals G_ c (Sh vals xs) pv iv av:=by
 have g:=h.low a;have m:Bx w' fb #[H vals,Hl G_ (J xs) c] 25:=h.6.keep<|f _ h.6.lt h.7;have i:XW w' (Se (Se w' (A fb 0) (H vals)) (A fb 1) (Hl G_ (J xs) c)) lab lab (Z w.1) (λb=>b≠fb):=((XW.put fb _ _).trans (XW.put fb _ _)).weak λ_ a=>⟨a,a⟩;have j:∀b,(lab b).1≠0->b≠fb:=λb d e=>d (by rw[e,h.7]);have o:=h.3;have n:=h.8;refine⟨(g.1.put O).put O,Rv (Rv g.2 O) O,h.3,((h.4.keep<|f _ h.4.lt h.5).other O).other O,h.5,?_,h.7,h.8,?_,i.3 k⟩
 .rw[A2];have:=(m.set 0<|H vals).set 1 (Hl G_ (J xs) c);simpa using this
 rw[A2];exact l.sp i 0 (λb d _ _ _=>j b d) (bC λb e=>j b (by obtain e|e:=e<;>rw[e]<;>simp))
end
section
variable {w w': Ub} {lab: N -> N×N×N} {base: N} {v: Uj} {xs: Wi} {pv iv: N -> Uj} {av: N -> N -> Uj}
theorem xW.upd{i:N}{L:N×N×N}(h:xW w lab base v xs pv iv av)(x:Xe)(r:∀b,base<=b->b<Z w.1->lab b≠L->w'.1[b]?=w.1[b]?)(c:L=(1,0,0)\/L.2.1=i)(p:Xv w' lab (1,0,0) base 52 6 v (J xs) (jx pv iv<|xs.set i x))(y:Xv w' lab (2,i,0) base 152 2 (pv i) (J x.1) (jw (av i) x.1))(z:Xv w' lab (3,i,0) base 64 5 (iv i) (J x.2) (Lk x.2))(ha:∀j (f:j<J x.1),Xv w' lab (4,i,j) base 2 1 (av i j) (J x.1[j].2) (hC x.1[j].2)):
 xW w' lab base v (xs.set i x) pv iv av:=by
 have keep:∀{M:N×N×N}{t o:N}{u:Uj}{m:N}{l:Wo},Xv w lab M base t o u m l->M≠L->Xv w' lab M base t o u m l:=λB s=>B.keep λb n g e=>⟨r b n g (by rw[e];exact s),e⟩
 have k:∀q a j,1<q->a≠i->((q,a,j):N×N×N)≠L:=λq a j n g e=>by
  obtain c|c:=c
  .rw[c]at e;simp at e;omega
  rw[<-e]at c;exact g c
 refine⟨by rw[bL];exact p,λa d=>?_,λa d=>?_,λa d j f=>?_⟩
 .by_cases e:a=i
  .subst e;simp only[MP];exact y
  rw[bI λe2=>e e2.symm];exact keep (h.2 a<|by simpa using d) (k _ _ _ vY e)
 .by_cases e:a=i
  .subst e;simp only[MP];exact z
  rw[bI λe2=>e e2.symm];exact keep (h.3 a<|by simpa using d) (k _ _ _ vY e)
 by_cases e:a=i
 .subst e;simp only[MP]at f |-;exact ha j f
 simp only[bI λe2=>e e2.symm]at f |-;exact keep (h.4 a (by simpa using d) j f) (k _ _ _ vY e)
theorem zq{i:N}{x:Xe}(d:i<J xs)(h:x.3=xs[i].3):jx pv iv (xs.set i x)=jx pv iv xs:=by
 unfold jx;have:xs=xs.set i xs[i]:=(fK d).symm;refine iG λr=>?_;have j:=Zn (f:=λi (x:Xe)=>L7 (pv i) (iv i) x.3) (sz:=6) (λ_ _=>R) 0 xs;have f:=Zn (f:=λi (x:Xe)=>L7 (pv i) (iv i) x.3) (sz:=6) (λ_ _=>R) 0 (xs.set i x);rw[bL]at f;by_cases k:r<J xs*6
 .have b:r/6<J xs:=O;have g:r/6<J (xs.set i x):=by simpa using b
  have c:r=r/6*6+r%6:=O;have a:r%6<6:=dS _ vY;rw[c,Xz (sz:=6) (λ_ _=>R) 0 _ _ g _ a,Xz (sz:=6) (λ_ _=>R) 0 xs _ b _ a];by_cases e:i=r/6
  .subst e;rw[MP,h]
  rw[bI e]
 rw[dK O,dK O]
theorem Xt{T:Type}{l:List T}{k:N}{u:T}(h:l[k]?=S u):l.set k u=l:=by
 refine iG λr=>?_;by_cases e:k=r
 .subst e;obtain⟨a,_⟩:=cV.1 h;rw[mM a,h]
 rw[dZ e]
theorem R4{L:N×N×N}{t b g n c m:N}{a:Wo}(h:Xv w lab L base t b (Hl g n c) m a):m=n:=by
 obtain⟨e,_⟩|⟨_,_,_,e,_⟩:=h.1.2;·cases e
 cases e;rfl
theorem ty{L:N×N×N}{g q:N}{u:Uj}(a:lab g=L):∀b,base<=b->b<Z w.1->lab b≠L->(Se w ⟨g,q,U⟩ u).1[b]?=w.1[b]?:=λ_ _ _ c=>cY λe=>c<|by rw[e];exact a
theorem xW.setDst{i j g K c:N}{d:I}(h:xW w lab base v xs pv iv av)(f:i<J xs)(n:j<J xs[i].1)(q:pv i=X (S ⟨g,0,U⟩) K c):
 xW (Se w ⟨g,j*2,U⟩ (Si S6 d)) lab base v (xs.set i<|xs[i].setPhi j ⟨d,xs[i].1[j].2⟩) pv iv av/\lab g=(2,i,0)/\E w ⟨g,j*2,U⟩=S (Si S6 xs[i].1[j].1)/\(∀F,w.frozen? ⟨g,F,U⟩=Sn):=by
 have a:=h.2 i f;rw[q]at a;have B:=R4 a;subst B;have k:=a.2 g R;have keep:∀{M:N×N×N}{t r:N}{u:Uj}{m:N}{l:Wo},Xv w lab M base t r u m l->M≠(2,i,0)->Xv (Se w (A g (j*2)) (H d)) lab M base t r u m l:=λC p=>C.keep (λb y z e=>⟨ty k b y z (by rw[e];exact p),e⟩);refine⟨h.upd _ (ty k) (aZ R) ?_ ?_ (keep (h.3 i f) sP) λm o=>?_,k,a.cell ?_,a.thaw⟩
 .rw[zq (x:=xs[i].setPhi j ⟨d,xs[i].1[j].2⟩) f R];exact keep h.1 sP
 .rw[q]
  show Xv _ lab (2,i,0) base 152 2 _ (J (xs[i].1.set j _)) (jw (av i) (xs[i].1.set j _));rw[bL];have x:jw (av i) (xs[i].1.set j ⟨d,xs[i].1[j].2⟩)=(jw (av i) xs[i].1).set (j*2+0) (H d):=by unfold jw;refine WA (sz:=2) (λ_ _=>R) 0 xs[i].1 j n _ 0 _ vY ?_ λm o p=>R;rfl
  rw[x];exact a.set _ _
 .have L:m<J xs[i].1:=by simpa [Xe.setPhi]using o
  have s:(xs[i].setPhi j ⟨d,xs[i].1[j].2⟩).1[m].2=xs[i].1[m].2:=by
   by_cases e:j=m
   .subst e;simp only[Xe.setPhi,MP]
   simp only[Xe.setPhi,bI e]
  rw[s];exact keep (h.4 i f m L) sP
 unfold jw;have:=Xz (f:=λj (P:Ph)=>[H P.1,av i j]) (sz:=2) (λ_ _=>R) 0 _ j n 0 vY;rw[fW]at this;rw[this,aV];rfl
theorem xW.setArg{i j k g K c:N}{d:I}(h:xW w lab base v xs pv iv av)(f:i<J xs)(n:j<J xs[i].1)(C:k<J xs[i].1[j].2)(s:av i j=X (S ⟨g,0,U⟩) K c):
 xW (Se w ⟨g,k,U⟩ (Si S6 d)) lab base v (xs.set i<|xs[i].setPhi j ⟨xs[i].1[j].1,xs[i].1[j].2.set k d⟩) pv iv av/\lab g=(4,i,j)/\E w ⟨g,k,U⟩=S (Si S6 xs[i].1[j].2[k])/\(∀L,w.frozen? ⟨g,L,U⟩=Sn):=by
 have a:=h.4 i f j n;rw[s]at a;have P:=R4 a;subst P;have l:=a.2 g R;have keep:∀{M:N×N×N}{u t:N}{x:Uj}{m:N}{o:Wo},Xv w lab M base u t x m o->M≠(4,i,j)->Xv (Se w (A g k) (H d)) lab M base u t x m o:=λF r=>F.keep (λb T B e=>⟨ty l b T B (by rw[e];exact r),e⟩);refine⟨h.upd _ (ty l) (aZ R) ?_ ?_ (keep (h.3 i f) sP) λm q=>?_,l,a.cell ?_,a.thaw⟩
 .rw[zq (x:=xs[i].setPhi j ⟨xs[i].1[j].1,xs[i].1[j].2.set k d⟩) f R];exact keep h.1 sP
 .show Xv _ lab (2,i,0) base 152 2 _ (J (xs[i].1.set j _)) (jw (av i) (xs[i].1.set j _))
  rw[bL];have y:jw (av i) (xs[i].1.set j ⟨xs[i].1[j].1,xs[i].1[j].2.set k d⟩)=jw (av i) xs[i].1:=by have z:=Xz (f:=λj (p:Ph)=>[H p.1,av i j]) (sz:=2) (λ_ _=>R) 0 _ j n 0 vY;unfold jw;have e2:=WA (f:=λj (p:Ph)=>[H p.1,av i j]) (f':=λj (p:Ph)=>[H p.1,av i j]) (sz:=2) (λ_ _=>R) 0 xs[i].1 j n ⟨xs[i].1[j].1,xs[i].1[j].2.set k d⟩ 0 (H xs[i].1[j].1) vY R λm q r=>R;rw[e2];exact Xt<|G z R
  rw[y];exact keep (h.2 i f) sP
 .have V:m<J xs[i].1:=by simpa [Xe.setPhi]using q
  by_cases e:j=m
  .subst e;simp only[Xe.setPhi,MP];rw[s,bL];have e3:hC (xs[i].1[j].2.set k d)=(hC xs[i].1[j].2).set k (H d):=by unfold hC;rw[mN]
   rw[e3];exact a.set _ _
  simp only[Xe.setPhi,bI e];exact keep (h.4 i f m V) (by simp;exact λe2=>e e2.symm)
 unfold hC;simp[C]
def sw(w:Ub)(g k:N)(x:Yg):Ub:=Se (Se (Se (Se (Se w ⟨g,k,U⟩ (Si S6 x.1)) ⟨g,k+1,U⟩ (Si S6 x.2)) ⟨g,k+2,U⟩ (Si S6 x.a)) ⟨g,k+3,U⟩ (Si S6 x.b)) ⟨g,k+4,U⟩ (Si S6 x.5)
theorem Af{w:Ub}{g k q:N}{x:Yg}(h:q≠g):(sw w g k x).1[q]?=w.1[q]?:=by unfold sw;rw[cY h,cY h,cY h,cY h,cY h]
theorem xW.setIns{i j g K c:N}{x:Yg}(h:xW w lab base v xs pv iv av)(k:i<J xs)(n:j<J xs[i].2)(t:iv i=X (S ⟨g,0,U⟩) K c):
 xW (sw w g (j*5) x) lab base v (xs.set i ⟨xs[i].1,xs[i].2.set j x,xs[i].3⟩) pv iv av/\lab g=(3,i,0)/\Jk w g (j*5) xs[i].2[j]/\(∀q,w.frozen? ⟨g,q,U⟩=Sn):=by
 have a:=h.3 i k;rw[t]at a;have F:=R4 a;subst F;have r:=a.2 g R;have s:∀b,base<=b->b<Z w.1->lab b≠(3,i,0)->(sw w g (j*5) x).1[b]?=w.1[b]?:=λb _ _ o=>by have L:b≠g:=λf=>o (by rw[f];exact r);exact Af L
 have keep:∀{M:N×N×N}{B z:N}{u:Uj}{m:N}{p:Wo},Xv w lab M base B z u m p->M≠(3,i,0)->Xv (sw w g (j*5) x) lab M base B z u m p:=λP o=>P.keep λb C T f=>⟨s b C T (by rw[f];exact o),f⟩
 have d:∀q u,q<5->(xs[i].2[j].cells)[q]?=S u->E w (A g (j*5+q))=S u:=λq u V W=>a.cell (by unfold Lk;rw[Xz (sz:=5) (λ_ _=>R) 0 xs[i].2 j n q V];exact W)
 refine⟨h.upd (L:=(3,i,0)) ⟨xs[i].1,xs[i].2.set j x,xs[i].3⟩ s (aZ R) ?_ (keep (h.2 i k) sP) ?_ λm E_=>keep (h.4 i k m E_) sP,r,⟨d 0 _ O R,d 1 _ O R,d 2 _ O R,d 3 _ O R,d 4 _ O R⟩,a.thaw⟩
 .rw[zq (x:=⟨xs[i].1,xs[i].2.set j x,xs[i].3⟩) k R];exact keep h.1 sP
 rw[t];show Xv _ lab (3,i,0) base 64 5 _ (J (xs[i].2.set j x)) (Lk<|xs[i].2.set j x);rw[bL];have I_:=((((a.set (j*5) (H x.1)).set (j*5+1) (H x.2)).set (j*5+2) (H x.a)).set (j*5+3) (H x.b)).set (j*5+4) (H x.5);have e:∀(N_:N)(y:Yg),J y.cells=5:=λ_ _=>R
 have B_:Lk (xs[i].2.set j x)=(((((Lk xs[i].2).set (j*5) (H x.1)).set (j*5+1) (H x.2)).set (j*5+2) (H x.a)).set (j*5+3) (H x.b)).set (j*5+4) (H x.5):=by have s1:=WA (f:=λ_ (y:Yg)=>y.cells) (f':=λ_ (y:Yg)=>y.cells) e 0 xs[i].2 j n ⟨x.1,xs[i].2[j].2,xs[i].2[j].a,xs[i].2[j].b,xs[i].2[j].5⟩ 0 (H x.1) vY R λ_ _ _=>R;have l:=λ(y:Yg)=>(show j<J (xs[i].2.set j y) by simpa using n);have s2:=WA (f:=λ_ (y:Yg)=>y.cells) (f':=λ_ (y:Yg)=>y.cells) e 0 (xs[i].2.set j ⟨x.1,xs[i].2[j].2,xs[i].2[j].a,xs[i].2[j].b,xs[i].2[j].5⟩) j (l _) ⟨x.1,x.2,xs[i].2[j].a,xs[i].2[j].b,xs[i].2[j].5⟩ 1 (H x.2) vY (by rw[MP];rfl) λ_ _ _=>R;rw[gE]at s2;have s3:=WA (f:=λ_ (y:Yg)=>y.cells) (f':=λ_ (y:Yg)=>y.cells) e 0 (xs[i].2.set j ⟨x.1,x.2,xs[i].2[j].a,xs[i].2[j].b,xs[i].2[j].5⟩) j (l _) ⟨x.1,x.2,x.a,xs[i].2[j].b,xs[i].2[j].5⟩ 2 (H x.a) vY (by rw[MP];rfl) λ_ _ _=>R;rw[gE]at s3;have s4:=WA (f:=λ_ (y:Yg)=>y.cells) (f':=λ_ (y:Yg)=>y.cells) e 0 (xs[i].2.set j ⟨x.1,x.2,x.a,xs[i].2[j].b,xs[i].2[j].5⟩) j (l _) ⟨x.1,x.2,x.a,x.b,xs[i].2[j].5⟩ 3 (H x.b) vY (by rw[MP];rfl) λ_ _ _=>R;rw[gE]at s4;have s5:=WA (f:=λ_ (y:Yg)=>y.cells) (f':=λ_ (y:Yg)=>y.cells) e 0 (xs[i].2.set j ⟨x.1,x.2,x.a,x.b,xs[i].2[j].5⟩) j (l _) x 4 (H x.5) vY (by rw[MP];rfl) λ_ _ _=>R;rw[gE]at s5;unfold Lk;rw[s5,s4,s3,s2,s1,fW]
 rw[B_];exact I_
theorem xW.setTerA{i g n c:N}{d:I}(h:xW w lab base (X (S ⟨g,0,U⟩) n c) xs pv iv av)(a:i<J xs):
 xW (Se w ⟨g,i*6+3,U⟩ (Si S6 d)) lab base (X (S ⟨g,0,U⟩) n c) (xs.set i ⟨xs[i].1,xs[i].2,⟨xs[i].3.1,d,xs[i].3.3,xs[i].3.4⟩⟩) pv iv av/\lab g=(1,0,0)/\(∀z,w.frozen? ⟨g,z,U⟩=Sn):=by
 have e:=h.1;have s:=R4 e;subst s;have f:=e.2 g R;have keep:∀{M:N×N×N}{t l:N}{u:Uj}{m:N}{j:Wo},Xv w lab M base t l u m j->M≠(1,0,0)->Xv (Se w (A g (i*6+3)) (H d)) lab M base t l u m j:=λy x=>y.keep λb p q k=>⟨ty f b p q (by rw[k];exact x),k⟩
 refine⟨h.upd (L:=(1,0,0)) ⟨xs[i].1,xs[i].2,⟨xs[i].3.1,d,xs[i].3.3,xs[i].3.4⟩⟩ (ty f) (bC R) ?_ (keep (h.2 i a) sP) (keep (h.3 i a) sP) λm r=>keep (h.4 i a m r) sP,f,e.thaw⟩;have o:jx pv iv (xs.set i ⟨xs[i].1,xs[i].2,⟨xs[i].3.1,d,xs[i].3.3,xs[i].3.4⟩⟩)=(jx pv iv xs).set (i*6+3) (H d):=by unfold jx;refine WA (sz:=6) (λ_ _=>R) 0 xs i a _ 3 _ vY R λ_ _ _=>R
 rw[o];exact e.set _ _
theorem xW.cells{i g n c:N}(h:xW w lab base (Hl g n c) xs pv iv av)(d:i<J xs):E w (A g (i*6))=S (pv i)/\E w (A g (i*6+1))=S (iv i)/\Va w g (i*6+2) xs[i].3:=by
 have b:=h.1;have e:=R4 b;subst e;have a:∀q u,q<6->(L7 (pv i) (iv i) xs[i].3)[q]?=S u->E w (A g (i*6+q))=S u:=λq u f j=>b.cell (by unfold jx;rw[Xz (λ_ _=>wu _ _ _) 0 xs i d q f,aV];exact j)
 exact⟨a 0 _ O R,a 1 _ O R,a 2 _ O R,a 3 _ O R,a 4 _ O R,a 5 _ O R⟩
theorem xW.phiCells{i j g n c:N}(h:xW w lab base v xs pv iv av)(d:i<J xs)(e:j<J xs[i].1)(k:pv i=X (S ⟨g,0,U⟩) n c):E w ⟨g,j*2,U⟩=S (Si S6 xs[i].1[j].1)/\E w ⟨g,j*2+1,U⟩=S (av i j):=by
 have a:=h.2 i d;rw[k]at a;have f:=R4 a;subst f;have b:∀q u,q<2->([H xs[i].1[j].1,av i j]:Wo)[q]?=S u->E w (A g (j*2+q))=S u:=λq u l m=>a.cell (by unfold jw;rw[Xz (sz:=2) (λ_ _=>R) 0 _ j e q l,aV];exact m)
 exact⟨b 0 _ O R,b 1 _ O R⟩
end
section
theorem uV{b:I}{n:N}{w:Ub}(f:0<=b)(g:b<=1000000)(i:n<=1000000):
 Sk prog 123 #[H b,H n] w λe w'=>e=Rt (H (Rs b n))/\w'=w:=by
 have a:Q (Rs b n=if b=0 then 0 else (n:I)-b):=Y R;by_cases h:b=0
 .rw[aU h]at a;have d:(b==0)=So:=by simpa using h
  clear h
  go_in
  go_wp2;go_ret;rw[a.o];exact⟨R,R⟩
 rw[aM h]at a;have d:(b==0)=Sn:=by simpa using h
 clear h
 go_in
 go_wp2;go_ret;rw[a.o];exact⟨R,R⟩
def yN(x:Yg)(v:I):Yg:=⟨x.1,x.2,v,x.b,x.5⟩
def sJ(xs:Wi)(b:N)(v:I)(s:cB):Wi×cB :=
 if (xs.getD b ip).3.1≠1 then (xs.set b ⟨(xs.getD b ip).1,(xs.getD b ip).2,⟨(xs.getD b ip).3.1,v,(xs.getD b ip).3.3,(xs.getD b ip).3.4⟩⟩,s)else (xs,s)
def uR(xs:Wi)(b:N)(v:I)(s:cB):Wi×cB :=
 if 0<J (xs.getD b ip).2 then
  if aB ((xs.getD b ip).2.getD (iw s (J (xs.getD b ip).2)).1.toNat ⟨0,0,0,0,0⟩).1=So then
   (xs.set b ⟨(xs.getD b ip).1,(xs.getD b ip).2.set (iw s (J (xs.getD b ip).2)).1.toNat (yN ((xs.getD b ip).2.getD (iw s (J (xs.getD b ip).2)).1.toNat ⟨0,0,0,0,0⟩) v),(xs.getD b ip).3⟩,(iw s (J (xs.getD b ip).2)).2)
  else sJ xs b v (iw s (J (xs.getD b ip).2)).2
 else sJ xs b v s
def yX(xs:Wi)(b:N)(v:I)(s:cB):Wi×cB :=
 if 0<J (xs.getD b ip).1 then
  if (iw s 3).1=0 then
   (xs.set b<|(xs.getD b ip).setPhi 0 ⟨((xs.getD b ip).1.getD 0 Rl).1,((xs.getD b ip).1.getD 0 Rl).2.set (iw (iw s 3).2 (J ((xs.getD b ip).1.getD 0 Rl).2)).1.toNat v⟩,(iw (iw s 3).2 (J ((xs.getD b ip).1.getD 0 Rl).2)).2)
  else uR xs b v (iw s 3).2
 else uR xs b v s
def pK(V:N)(xs:Wi)(s:cB):Wi×cB:=yX xs (iw s (J xs)).1.toNat (iw (iw s (J xs)).2 V).1 (iw (iw s (J xs)).2 V).2
theorem xW.setInsA{w:Ub}{lab:N->N×N×N}{base:N}{v:Uj}{xs:Wi}{pv iv:Vu}{av:N->Vu}{i j g n c:N}{d:I}(h:xW w lab base v xs pv iv av)(f:i<J xs)(p:j<J xs[i].2)(r:iv i=X (S ⟨g,0,U⟩) n c):
 xW (Se w ⟨g,j*5+2,U⟩ (Si S6 d)) lab base v (xs.set i ⟨xs[i].1,xs[i].2.set j (yN xs[i].2[j] d),xs[i].3⟩) pv iv av/\lab g=(3,i,0)/\Jk w g (j*5) xs[i].2[j]/\(∀q,w.frozen? ⟨g,q,U⟩=Sn):=by
 have a:=h.3 i f;rw[r]at a;have K:=R4 a;subst K;have k:=a.2 g R;have keep:∀{M:N×N×N}{x t:N}{u:Uj}{m:N}{l:Wo},Xv w lab M base x t u m l->M≠(3,i,0)->Xv (Se w (A g (j*5+2)) (H d)) lab M base x t u m l:=λL P=>L.keep λb z T o=>⟨ty k b z T (by rw[o];exact P),o⟩
 have e:∀q u,q<5->(xs[i].2[j].cells)[q]?=S u->E w (A g (j*5+q))=S u:=λq u F V=>a.cell (by unfold Lk;rw[Xz (sz:=5) (λ_ _=>R) 0 xs[i].2 j p q F];exact V)
 refine⟨h.upd (L:=(3,i,0)) ⟨xs[i].1,xs[i].2.set j (yN xs[i].2[j] d),xs[i].3⟩ (ty k) (aZ R) ?_ (keep (h.2 i f) sP) ?_ λm C=>keep (h.4 i f m C) sP,k,⟨e 0 _ O R,e 1 _ O R,e 2 _ O R,e 3 _ O R,e 4 _ O R⟩,a.thaw⟩
 .rw[zq (x:=⟨xs[i].1,xs[i].2.set j (yN xs[i].2[j] d),xs[i].3⟩) f R];exact keep h.1 sP
 rw[r]
 show Xv _ lab (3,i,0) base 64 5 _ (J (xs[i].2.set j _)) (Lk<|xs[i].2.set j _);rw[bL];have y:Lk (xs[i].2.set j (yN xs[i].2[j] d))=(Lk xs[i].2).set (j*5+2) (H d):=by unfold Lk;exact WA (sz:=5) (λ_ _=>R) 0 xs[i].2 j p _ 2 _ vY R λ_ _ _=>R
 rw[y];exact a.set _ _
structure Ry(w wr:Ub)(lab:N->N×N×N)(base sb B:N)(s:cB)(v G_ n c:N)(xs:Wi)(pv iv:Vu)(av:N->Vu):Prop where
 fn:xW wr lab base (X (S ⟨G_,0,U⟩) n c) xs pv iv av
 dr:i9 wr sb B s
 bb:B<=base
 os:wr.4=w.4
 tape:wr.2=w.2
 output:wr.5=w.5
 size:Z w.1<=Z wr.1
 low:∀b,b<base->b≠sb->wr.1[b]?=w.1[b]?
 fr:∀b,Z w.1<=b->lab b=(0,0,0)
 bs:base<=Z w.1
 box:Bx wr (Z w.1) #[Si S6 (v:I),X (S ⟨G_,0,U⟩) n c] 25
 res:Bx wr (Z w.1+1) #[Si S6 0,X U 0 0] 25
variable {w wr w': Ub} {lab: N -> N×N×N} {base sb B: N} {s s': cB} {v G_ n c: N} {xs xs': Wi} {pv iv: N -> Uj} {av: N -> N -> Uj}
theorem Ry.lt(h:Ry w wr lab base sb B s v G_ n c xs pv iv av):sb<base:=oP h.3 h.2.3
theorem Ry.call(h:Ry w wr lab base sb B s v G_ n c xs pv iv av)(g:wr.grownBy w' (S sb))(d:i9 w' sb B s'):Ry w w' lab base sb B s' v G_ n c xs pv iv av:=by have k:XW wr w' lab lab base (λ_=>True):=XW.grown g h.lt;have j:=h.lt;have i:=h.bs;have l:=h.7;exact⟨h.1.sp k 0 (λ_ _ _ _ _=>JV) (bC λ_ _=>JV),d,h.3,G g.1 h.4,G g.2 h.5,G g.3 h.6,aJ h.7 g.4,λb f a=>G (g.5 b O λe=>a<|by injection e) (h.8 b f a),h.9,h.bs,h.11.grown g (by intro e;injection e;omega),h.12.grown g<|by intro e;injection e;omega⟩
theorem Ry.alloc(h:Ry w wr lab base sb B s v G_ n c xs pv iv av)(o:Obj):Ry w (D wr o) lab base sb B s v G_ n c xs pv iv av:=h.call (bW wr o<|S sb) (h.2.box o)
theorem Ry.drew(h:Ry w wr lab base sb B s v G_ n c xs pv iv av):Ry w wr.drew lab base sb B s v G_ n c xs pv iv av:=h.call ⟨R,R,R,aA,λ_ _ _=>R⟩ h.2.drew
theorem Ry.put{g q:N}{u:Uj}(h:Ry w wr lab base sb B s v G_ n c xs pv iv av)(i:xW (Se wr ⟨g,q,U⟩ u) lab base (X (S ⟨G_,0,U⟩) n c) xs' pv iv av)(a:lab g≠(0,0,0))(l:base<=g):Ry w (Se wr ⟨g,q,U⟩ u) lab base sb B s v G_ n c xs' pv iv av:=by have m:=h.3;have j:Z w.1≠g:=λe=>a<|h.9 g O;have k:Z w.1+1≠g:=λe=>a<|h.9 g O;exact⟨i,h.2.put O,h.3,h.4,h.5,h.6,by simpa [World.setCell]using h.7,λb d f=>G (cY<|by show b≠g;omega) (h.8 b d f),h.9,h.bs,h.11.other j,h.12.other k⟩
end
theorem zS:∀(a c:Wi)(k:N)(b:I),J a=J c->(∀i (h:i<J a) (g:i<J c),a[i].3.tg=c[i].3.tg)->AQ a k b=AQ c k b
 |[],[],_,_,_,_=>R
 |[],_::_,_,_,h,_=>by simp at h
 |_::_,[],_,_,h,_=>by simp at h
 |x::a,y::c,k,b,h,ht=>by have d:=ht 0 sP sP;rw[eM,eM]at d;rw[AQ,AQ,d,zS a c (k+1) b (by simpa using h) λi e f=>by have:=ht (i+1) (by simpa using e) (by simpa using f);rwa[fO,fO]at this]
theorem Y2{x:Xe}(a:n<J X_)(h:x.3=X_[n].3)(k:N)(b:I):AQ (X_.set n x) k b=AQ X_ k b :=
 zS _ _ _ _ sP (λj c d=>by
  by_cases e:n=j
  .subst e;rw[cQ,h]
  rw[bI e])
theorem D8{c:Tm}:∀(b:Wc)(s:cB)(a:Wc),J (RV c b s a).1=J a+J b
 |[],_,_=>R
 |p::b,s,a=>by rw[RV,D8];simp only[aQ,bA,bO];omega
theorem yZ{b:Tm}{preds:Wc}:∀(k j:N)(a:Za)(s:cB),J (Rx b preds k j a s).1=J a
 |0,_,_,_=>R
 |k+1,j,a,s=>by rw[Rx,yZ];simp
theorem JR{c:Tm}{preds:Wc}:∀(k j:N)(a:Za)(s:cB),j+k=J a->(∀m (h:m<J a),m<j->J a[m].2=J preds)->(∀m (h:m<J a),j<=m->a[m].2=[])->∀p∈(Rx c preds k j a s).1,J p.2=J preds
 |0,j,a,s,hj,h1,_,p,hp=>by obtain⟨m,b,rfl⟩:=bR hp;exact h1 m b (by have:m<J a:=b;omega)
 |k+1,j,a,s,hj,h1,h2,p,hp=>by
  rw[Rx]at hp;have d:j<J a:=O;refine JR k (j+1) _ _ SB (λm b f=>?_) (λm b f=>?_) p hp
  .by_cases e:j=m
   .subst e;rw[cQ];show J (RV c preds s (a.getD j Rl).2).1=J preds;rw[D8,show a.getD j Rl=a[j] by simp[d],h2 j d aA];simp
   rw[bI e];exact h1 m (by simpa using b) O
  rw[bI O];exact h2 m (by simpa using b) O
theorem En{b:Tm}:∀(k i:N)(a:Wi)(s:cB),J (Nl b k i a s).1=J a
 |0,_,_,_=>R
 |k+1,i,a,s=>by rw[Nl,En];simp
theorem II(d:Tm):∀(k i:N)(a:Wi)(s:cB),i+k=J a->(∀m (h:m<J a),m<i->∀p∈a[m].1,J p.2=J (AQ a 0 (m:I)))->(∀m (h:m<J a),i<=m->∀p∈a[m].1,p.2=[])->xw (Nl d k i a s).1
 |0,i,a,s,hi,h1,_=>λm c=>h1 m c (by have:m<J a:=c;omega)
 |k+1,i,a,s,hi,h1,h2=>by
  rw[Nl];have e:i<J a:=O;have g:a.getD i ip=a[i]:=by simp[e]
  rw[g];refine II d k (i+1) _ _ SB (λm c j p b=>?_) λm c j p b=>?_
  .rw[Y2 (x:=⟨(Rx d (AQ a 0 (i:I)) (J a[i].1) 0 a[i].1 s).1,a[i].2,a[i].3⟩) e R];by_cases f:i=m
   .subst f;rw[cQ]at b;exact JR _ 0 _ _ (aV _) (λ_ _ h=>Sz h O) (λq l _=>h2 i e aA _<|aH l) p b
   rw[bI f]at b;exact h1 m (by simpa using c) O p b
  rw[bI O]at b;exact h2 m (by simpa using c) O p b
theorem Cd{e:Bool}{d:Wc}:∀(k i:N)(g:SV),(∀x∈g.1,J x.1<=1000/\∀p∈x.1,p.2=[])->∀x∈(Rw e d k i g).1,J x.1<=1000/\∀p∈x.1,p.2=[]
 |0,_,_,h=>h
 |k+1,i,g,h=>by
  rw[Rw];refine Cd k (i+1) _ λx a=>?_;obtain a|a:=fE a;·exact h x a
  subst a;refine⟨?_,λp c=>?_⟩
  .show J (Rk (Ls _ g.s).1 g.v)<=1000;rw[vX];have:=yY (J (AQ g.1 0 (i:I))) g.s;omega
  have b:p∈Rk (Ls (J (AQ g.1 0 (i:I))) g.s).1 g.v:=c;unfold Rk at b;obtain⟨j,_,rfl⟩:=aY.1 b;rfl
theorem Dx{c:Bool}{b:Wc}:∀(k i:N)(g:SV),Rd g.s->(∀x∈g.1,J x.2<=1000)->∀x∈(Rw c b k i g).1,J x.2<=1000
 |0,_,_,_,h=>h
 |k+1,i,g,hs,h=>by
  rw[Rw];refine Dx k (i+1) _ (VK hs) λx a=>?_;obtain a|a:=fE a;·exact h x a
  subst a;have:=(Mr (near:=c) (i:=i) (np:=J (AQ g.1 0 (i:I))) (t:=(g.1.getD i ip).3) (vs0:=if i=0 then []else g.2.getD (b.getD i 0).toNat []) (v:=g.v) hs).2.2.2.1;exact aJ this O
theorem IS(c:Tm):∀(k i:N)(a:Wi)(s:cB)(m:N),i+k=J a->(∀x∈a,J x.1<=m/\J x.2<=m)->∀x∈(Nl c k i a s).1,J x.1<=m/\J x.2<=m
 |0,_,_,_,_,_,h=>h
 |k+1,i,a,s,m,hi,h=>by
  rw[Nl];have d:i<J a:=O;rw[show a.getD i ip=a[i] by simp[d]];refine IS c k (i+1) _ _ m SB λx b=>?_;obtain b|b:=fE b;·exact h x b
  subst b;have:=h _<|aH d;refine⟨?_,this.2⟩;show J (Rx c _ _ 0 _ s).1<=m;rw[yZ];exact this.1
theorem MH(ha:xw x)(d:J x<=1000)(h:∀a∈x,J a.1<=1000/\J a.2<=1000):RS x:=λa b=>by refine⟨(h a b).1,λp e=>?_,(h a b).2⟩;obtain⟨i,c,rfl⟩:=bR b;rw[ha i c p e];exact aJ (vK _ _ _) d
theorem QU(n:N)(a b:Wc)(z:I):J (tF n a b z)<=J a:=by unfold tF;exact aJ (mC _ _) sP
theorem FJ(n:N)(b a c:Wc):J (oH n b a c)<=J a*J b:=by
 unfold oH
 induction a with
 |nil=>simp
 |cons z a d=>
  rw[jF,aQ,bA,jK,jL];have:=QU n b c z;omega
theorem IF{a:Wi}(i:J a<=11):∀(k b:N)(g:Wi),J g=J a->b+k=J g->(∀x∈g,J x.1<=1000/\(∀p∈x.1,J p.2<=1000)/\J x.2<=1000)->RS (oK a k b g)
 |0,_,_,_,_,h=>h
 |k+1,b,g,hg,hb,h=>by
  rw[oK];have e:b<J g:=O;rw[show g.getD b ip=g[b] by simp[e]];refine IF i k (b+1) _ (by simpa using hg) SB λx c=>?_;obtain c|c:=fE c;·exact h x c
  subst c;have d:=h _<|aH e;refine⟨by show J (RK _ _ _ _)<=1000;unfold RK;rw[bK];exact d.1,λp j=>?_,d.2.2⟩;have f:p∈RK (J a) (AQ a 0 (ij b (J a):N)) (AQ g 0 (b:I)) g[b].1:=j;unfold RK at f;obtain⟨q,_,rfl⟩:=aY.1 f;have l:=FJ (J a) (AQ a 0 (ij b (J a):N)) (AQ g 0 (b:I)) q.2;have m:=vK a 0 ((ij b (J a):N):I);have n:=vK g 0 (b:I);show J (oH _ _ _ q.2)<=1000;have o:J (AQ g 0 (b:I))*J (AQ a 0 ((ij b (J a):N):I))<=11*11:=lO O O;omega
theorem Lm(e:J x<=11)(f:1<=J x)(h:RS x):RS (mf x):=by
 unfold mf;refine IF e _ 0 _ (by simp[Ra]) (by simp[Ra]) λi c=>?_;unfold Ra at c;obtain⟨b,d,rfl⟩:=aY.1 c;have g:b<J x:=bE.1 d;have a:ij b (J x)<J x:=by unfold ij;split<;>omega
 rw[show x.getD (ij b (J x)) ip=x[ij b (J x)] by simp[a]];have:=h _<|aH a;exact this
def pY(a:Wi):Prop:=∀x∈a,∀p∈x.1,0<J p.2
def pP(a:Wi):Prop:=∀i (h:i<J a),0<J a[i].1->0<J (AQ a 0 (i:I))
theorem PQ(ha:xw x)(c:pP x):pY x:=λe d p b=>by obtain⟨i,a,rfl⟩:=bR d;rw[ha i a p b];exact c i a<|eJ b
theorem r8.b{t:Yj}(h:r8 n k t)(b:1<=n)(a:n<=m):tV m t:=by
 obtain⟨rfl,_⟩|⟨q,rfl,h1,h2,_⟩|⟨q,r,rfl,h1,h2,h3,h4,_⟩:=h;·exact⟨aZ<|aZ R,SG⟩
 .exact⟨bC R,SG⟩
 exact⟨aZ<|bC R,SG⟩
theorem U1{dead:Bool}{b:List Yj}{s:cB}(g:J b=n)(d:1<=n)(h:∀j (h:j<J b),r8 n j b[j]):∀t∈(R7 dead n b s).1,tV (J (R7 dead n b s).1) t:=by
 have c:∀m,n<=m->∀t∈b,tV m t:=λm f t a=>by obtain⟨j,e,rfl⟩:=bR a;exact(h j e).b d f
 unfold R7;split
 .split
  .intro t a;have i:=kr s (n:=(n:I)-1) O;obtain a|a:=bU.1 a;·exact c _ SB t a
   simp only[cH,eA,lL]at a;subst a;refine⟨bC R,?_⟩;dsimp only;simp only[aQ,bA,bO];omega
  intro t a;obtain a|a:=bU.1 a;·exact c _ SB t a
  simp only[cH,eA,lL]at a;subst a;refine⟨aZ<|aZ R,?_⟩;dsimp only;simp only[aQ,bA,bO];omega
 exact c _<|by show n<=J b;omega
theorem Mw{a:List Yj}(h:∀t∈a,tV (J a) t):p8 (a.map kj)/\pP (a.map kj):=by
 refine⟨λx e=>?_,λi c b=>?_⟩
 .obtain⟨t,d,rfl⟩:=aY.1 e;rw[bK];exact h t d
 rw[(wJ a _<|aH c).1]at b;exact Sz b sP
theorem Qh{t:Yj}(s:cB):(pV r t l s).1.1=t.1/\(pV r t l s).1.3=t.3/\(pV r t l s).1.4=t.4:=by
 unfold pV;split;·exact⟨R,R,R⟩
 exact⟨R,R,R⟩
theorem MG{t u:Yj}(h:t.1=u.1/\t.3=u.3/\t.4=u.4):t.tg=u.tg:=by unfold Yj.tg;rw[h.1,h.2.1,h.2.2]
theorem RZ{t u:Yj}(h:t.1=u.1/\t.3=u.3/\t.4=u.4)(a:tV n u):tV n t:=by unfold tV;rw[h.1,h.2.1,h.2.2];exact a
theorem GI{x:Xe}(f:p8 X_)(i:pP X_)(g:n<J X_)(h:x.3.1=X_[n].3.1/\x.3.3=X_[n].3.3/\x.3.4=X_[n].3.4)(l:0<J x.1->0<J (AQ X_ 0 (n:I))):p8 (X_.set n x)/\pP (X_.set n x):=by
 have k:∀b:I,AQ (X_.set n x) 0 b=AQ X_ 0 b:=λb=>zS _ _ _ _ sP (λj d m=>by
  by_cases e:n=j
  .subst e;rw[cQ];exact MG h
  rw[bI e])
 refine⟨λy a=>?_,λj d c=>?_⟩
 .rw[bL];obtain a|a:=fE a;·exact f y a
  subst a;exact RZ h<|f _ (aH g)
 rw[k];by_cases e:n=j
 .subst e;rw[cQ]at c;exact l c
 rw[bI e]at c;exact i j (by simpa using d) c
theorem F8{c:Bool}{b:Wc}:∀(k i:N)(g:SV),i+k=J g.1->p8 g.1->pP g.1->p8 (Rw c b k i g).1/\pP (Rw c b k i g).1
 |0,_,_,_,h1,h2=>⟨h1,h2⟩
 |k+1,i,g,hi,h1,h2=>by
  rw[Rw];have d:i<J g.1:=O;have f:g.1.getD i ip=g.1[i]:=by simp[d]
  have e:=GI (x:=(oJ c i (J (AQ g.1 0 (i:I))) (g.1.getD i ip).3 (if i=0 then []else g.2.getD (b.getD i 0).toNat []) g.v g.s).1) h1 h2 d (by rw[f];exact Qh _) (λh=>by
   have a:0<J (Rk (Ls (J (AQ g.1 0 (i:I))) g.s).1 g.v):=h;rw[vX]at a;unfold Ls at a;split at a;·omega
   split at a;·omega
   exact Sz a sP)
  exact F8 k (i+1) _ SB e.1 e.2
theorem FB(b:Tm):∀(k i:N)(a:Wi)(s:cB),i+k=J a->p8 a->pP a->p8 (Nl b k i a s).1/\pP (Nl b k i a s).1
 |0,_,_,_,_,h1,h2=>⟨h1,h2⟩
 |k+1,i,a,s,hi,h1,h2=>by
  rw[Nl];have c:i<J a:=O;rw[show a.getD i ip=a[i] by simp[c]];have e:=GI (x:=⟨(Rx b (AQ a 0 (i:I)) (J a[i].1) 0 a[i].1 s).1,a[i].2,a[i].3⟩) h1 h2 c ⟨R,R,R⟩ (λf=>by have d:0<J (Rx b (AQ a 0 (i:I)) (J a[i].1) 0 a[i].1 s).1:=f;rw[yZ]at d;exact h2 i c d)
  exact FB b k (i+1) _ _ SB e.1 e.2
theorem yU:∀(c:Wi)(k:N)(b z:I),z∈AQ c k b↔∃i,∃h:i<J c,z=((k+i:N):I)/\c[i].3.tg.contains b=So
 |[],_,_,_=>by simp[AQ]
 |x::c,k,b,z=>by
  rw[AQ,bU,yU c (k+1) b z];constructor
  .rintro(h|⟨i,e,d,a⟩)
   .split at h
    .rename_i f;simp only[cH,eA,lL]at h;exact⟨0,sP,by rw[h];simp,by simpa using f⟩
    simp at h
   exact⟨i+1,by simpa using e,by rw[d];congr 1;omega,by simpa using a⟩
  rintro⟨i,e,d,a⟩;cases i with
  |zero=>
   left;rw[eM]at a;rw[aU a,d];simp
  |succ i=>
   right;exact⟨i,by simpa using e,by rw[d];congr 1;omega,by simpa using a⟩
theorem vA{b:N}(h:b<n):ij b n<n:=by unfold ij;split<;>omega
theorem sZ{b:N}(h:b<n):ij (ij b n) n=b:=by unfold ij;split<;>split<;>omega
theorem zJ{b:N}(h:b<n):Rs (b:I) n=((ij b n:N):I):=by
 unfold Rs ij;split
 .rename_i a;rw[aU O];rfl
 rename_i a;rw[aM O];omega
theorem R2{a:Wc}(d:t∈l)(e:z∈L)(h:t=Rs z n):0<J (oH n l L a):=by obtain⟨m,b,c⟩:=bR d;refine eJ (a:=a.getD m 0) ?_;unfold oH;refine bV.2 ⟨z,e,?_⟩;unfold tF;refine List.mem_filterMap.2 ⟨m,bE.2 b,?_⟩;rw[aU];rw[<-h,<-c];simp[b]
theorem Nz{t:Yj}{b:N}(e:b<n)(h:t.tg.contains ((ij b n:N):I)=So):(Nd n t).tg.contains (b:I)=So:=by
 have c:Rs ((ij b n:N):I) n=(b:I):=by rw[zJ<|vA e,sZ e]
 unfold Yj.tg at h |-;unfold Nd;dsimp only;split at h
 .rename_i a;rw[aU a,aU O];simp only[List.contains_cons,List.contains_nil,jU,iA]at h;rw[<-h,c];simp
 rename_i a;split at h
 .rename_i d;rw[aM a,aU d,aU O,aU d];simp only[List.contains_cons,List.contains_nil,jU,dI,iA]at h;obtain h|h:=h;·rw[<-h,c];simp
  rw[<-h,c];simp
 simp at h
theorem Kb{a:Wi}(q:pP a):∀(k b:N)(g:Wi),J g=J a->b+k=J g->(∀j (m:j<J g) (u:ij j (J a)<J a),g[j].3=Nd (J a) a[ij j (J a)].3)->(∀j (m:j<J g),j<b->∀p∈g[j].1,0<J p.2)->(∀j (m:j<J g) (u:ij j (J a)<J a),b<=j->g[j].1=a[ij j (J a)].1)->pY (oK a k b g)
 |0,b,g,hg,hb,_,h1,_=>λC z=>by obtain⟨j,c,rfl⟩:=bR z;exact h1 j c (by have:j<J g:=c;omega)
 |k+1,b,g,hg,hb,ht,h1,h2=>by
  rw[oK];have l:b<J g:=O;rw[show g.getD b ip=g[b] by simp[l]];refine Kb q k (b+1) _ (by simpa using hg) SB (λj c f=>?_) (λj c w p h=>?_) λj c f w=>?_
  .by_cases e:b=j
   .subst e;rw[cQ];exact ht b l f
   rw[bI e];exact ht j (by simpa using c) f
  .by_cases e:b=j
   .subst e;rw[cQ]at h;have r:p∈RK (J a) (AQ a 0 (ij b (J a):N)) (AQ g 0 (b:I)) g[b].1:=h;unfold RK at r;obtain⟨F,s,rfl⟩:=aY.1 r;have n:b<J a:=O;have o:=vA n;rw[h2 b l o aA]at s;have y:=q _ o<|eJ s;obtain⟨B,t⟩:=List.exists_mem_of_length_pos y;obtain⟨i,d,e1,e2⟩:=(yU _ _ _ _).1 t;rw[aV]at e1;have x:=vA d;refine R2 t (z:=((ij i (J a):N):I)) ((yU _ _ _ _).2 ⟨ij i (J a),O,sP,?_⟩) (by rw[zJ x,sZ d];exact e1);have v:=ht (ij i (J a)) O (by rw[sZ d];exact d);rw[v];refine Nz n ?_;have e3:a[ij (ij i (J a)) (J a)]'(by rw[sZ d];exact d)=a[i]:=by congr 1;exact sZ d
    rw[e3];exact e2
   rw[bI e]at h;exact h1 j (by simpa using c) O p h
  rw[bI O];exact h2 j (by simpa using c) f O
theorem N7(d:pP x):pY (mf x):=by
 unfold mf;have c:J (Ra x)=J x:=by simp[Ra]
 refine Kb d _ 0 _ c O (λj b a=>?_) (λj b h=>Sz h O) λj b a _=>?_;·simp[Ra,a]
 simp[Ra,a]
theorem Q8(h:pY x):pY (Sh n x):=λe b p a=>by unfold Sh at b;obtain⟨y,d,rfl⟩:=aY.1 b;unfold Ru at a;obtain⟨q,c,rfl⟩:=aY.1 a;have:=h y d q c;simpa using this
theorem T3(h:RS x):RS (Sh n x):=λe b=>by unfold Sh at b;obtain⟨y,d,rfl⟩:=aY.1 b;have:=h y d;refine⟨by unfold Ru;simpa using this.1,λp a=>?_,by unfold Ru;simpa using this.2.2⟩;unfold Ru at a;obtain⟨q,c,rfl⟩:=aY.1 a;have:=this.2.1 q c;simpa using this
noncomputable def Jp:Code:=(f71.body.getD .skip)
noncomputable def Mj:Code:=(RR Jp).getD 0 .skip
noncomputable def Fl:Code:=(RR Jp).getD 1 .skip
noncomputable def zX:Code:=(RR Fl).getD 0 .skip
noncomputable def Ej:Code:=(RR zX).getD 0 .skip
noncomputable def SO:Code:=(RR Ej).getD 0 .skip
theorem pN(h:J y=134):∃f:Vu,y=wK f 15 134:=yS 15 134 y h
def nQ(n:N)(b a:Wc)(z:I)(m:N):Wc:=(Rg m).filterMap λm=>if b.getD m 0=Rs z n then S (a.getD m 0)else U
theorem Om:nQ n l L t (J l)=tF n l L t:=R
theorem K1{was args:Wc}(h:was.getD m 0=Rs z n):nQ n was args z (m+1)=nQ n was args z m++[args.getD m 0]:=by unfold nQ;rw[dN,mV,nD,aU h];rfl
theorem L3{was args:Wc}(h:¬was.getD m 0=Rs z n):nQ n was args z (m+1)=nQ n was args z m:=by unfold nQ;rw[dN,mV,nD,aM h];exact fF _
theorem UD(n:N)(b a:Wc)(z:I)(m:N):J (nQ n b a z m)<=m:=by unfold nQ;exact aJ (mC _ _) sP
structure nW(w0 wr:Ub)(d:I)(va:Uj)(acc:Wc):Prop where
 low:Sw (Z w0.1) w0 wr
 box:Bx wr (Z w0.1) #[Si S6 d,va] 152
 own:Sx wr (Z w0.1+1) 2 1 va (J acc) (hC acc)
theorem nW.push{wr:Ub}{o:Obj}(h:nW w wr t a l)(c:(D wr o).grownBy v a.ownBlock)(i:Sx v (Z w.1+1) 2 1 A_ n (hC l++[Si S6 T]))(g:n=J l+1):
 Bx v (Z w.1) #[Si S6 t,a] 152/\Sw (Z w.1) w v/\nW w (Se v ⟨Z w.1,1,U⟩ A_) t A_ (l++[T]):=by
 have f:=h.2.lt;have d:Sw (Z w.1) w v:=(h.1.trans<|vT Rf (dU f) o).trans (Xy Rf c (h.3.alloc o) gX SB);have b:=(h.2.box o).grown c (λe=>by have:=(h.3.lt _ e.symm).1;omega);refine⟨b,d,d.setCell aA _,?_,?_⟩
 .have:=b.set 1 A_;simpa using this
 subst g;have e:hC (l++[T])=hC l++[H T]:=by simp[hC]
 rw[e,aQ];exact ke i (by show Z w.1<_;omega) _
theorem nW.drew{wr:Ub}(h:nW w wr t a l):nW w wr.drew t a l:=⟨h.1.drew,h.2,h.3⟩
theorem TQ(a:n<J x)(V i):UU x V n i=Xi (Uq x x[n] V n i):=by unfold UU;rw[aC a]
theorem Vt(a:n<J x):J (Tu x n)=J x[n].2:=by unfold Tu;rw[aC a];simp[Z2]
theorem AP:∀(a M:N),s.foldl max a<=M↔a<=M/\∀x∈s,x<=M:=by
 induction s with
 |nil=>intro a M;simp
 |cons y s b=>
  intro a M;rw[iM,b];simp only[cH,forall_eq_or_imp];rw[Nat.max_le,and_assoc]
theorem TL{a:Type}{l:List (List a)}:NW l<=n↔∀x∈l,J x<=n:=by unfold NW;rw[AP];simp
noncomputable def Ns(a:Wi)(V b:N):Tm:=(Rg b).flatMap λs=>(Rg<|J (Tu a s)+1).map (UU a V s)
theorem Ve(a V b):Ns a V (b+1)=Ns a V b++(Rg<|J (Tu a b)+1).map (UU a V b):=by unfold Ns;rw[dN,eZ];simp
theorem Jr(a:m<J x):s∈mm x n m↔∃i,i<=J x[m].2/\s=Uq x x[m] n m i:=by
 unfold mm;rw[aC a];simp only[bU,aY,cS];constructor
 .rintro(⟨j,_,e⟩|e);·exact⟨(j:N)+1,j.2,e.symm⟩
  exact⟨0,aN,e⟩
 rintro⟨i,b,e⟩;cases i with
 |zero=>exact aZ e
 |succ j=>
  refine bC ⟨⟨j,b⟩,?_,e.symm⟩;unfold Us;rw[aW sP];exact kU.2<|lX _
theorem JF(h:s∈Zw x n (J x))(a:m∈s):m<n:=by let⟨d,c,b⟩:=bV.1 h;obtain⟨i,_,rfl⟩:=(Jr<|bE.1 c).1 b;unfold Uq at a;exact bE.1 (fG.1 a).1
theorem WV:l∈Ns x n (J x)↔∃y∈Zw x n (J x),l=Xi y:=by
 unfold Ns Zw;constructor
 .intro h;let⟨s,b,d⟩:=bV.1 h;obtain⟨i,c,rfl⟩:=aY.1 d;have a:=bE.1 b;have c:=bE.1 c;rw[Vt a]at c;exact⟨Uq x x[s] n s i,bV.2 ⟨s,b,(Jr a).2 ⟨i,O,R⟩⟩,TQ a n i⟩
 rintro⟨y,e,rfl⟩;let⟨s,b,d⟩:=bV.1 e;have a:=bE.1 b;obtain⟨i,c,rfl⟩:=(Jr a).1 d;exact bV.2 ⟨s,b,aY.2 ⟨i,bE.2 (by rw[Vt a];omega),TQ a n i⟩⟩
theorem tD{xs V}(h:l∈Ns xs V (J xs)):J l<=V/\∀x∈l,∃k:N,k<V/\x=(k:I):=by
 obtain⟨y,c,rfl⟩:=WV.1 h;constructor
 .let⟨s,a,d⟩:=bV.1 c;obtain⟨i,f,rfl⟩:=(Jr<|bE.1 a).1 d;have:=qy xs V s i;rw[TQ<|bE.1 a]at this;exact this
 intro x b;unfold Xi at b;obtain⟨z,e,rfl⟩:=aY.1 b;exact⟨z,JF c e,R⟩
def NG(a:Wc)(v:N):I:=a.getD v 0
def US(a:Wc)(v:N):N:=(NG a v).toNat
def Pm(v:I)(b:Wi)(a:Wc)(k:I):Prop:=Ft v b=0/\0<=k/\k<=2000/\(J a:I)=v/\(∀c∈a,0<=c/\c<k)/\∀l∈Zw b v.toNat (J b),(l.map<|US a).Nodup
open Classical in
def UM(b:Wc)(l:Wc)(a:N):I:=NG b (l.getD a 0).toNat
def P6(c l:Wc)(d:N):Prop:=∀a b,a < d->b < a->UM c l a≠UM c l b
def QD(c:Wc)(b:Tm)(i:N):Prop:=∀a,a < i->P6 c (b.getD a []) (J (b.getD a []))
theorem Wp(h:∀c∈l,0<=c/\c<t)(v):0<=NG l v:=by
 unfold NG;rw[bF];by_cases a:v<J l;·rw[aC a];exact(h _<|aH a).1
 rw[dK O];decide
theorem Vj(ha:n<J s):UM l (Xi s) n=NG l s[n]:=by unfold UM Xi;rw[bF,dX,aC ha];rfl
theorem vJ(h:∀c∈l,0<=c/\c<t)(y):P6 l (Xi y) (J (Xi y))↔(y.map<|US l).Nodup:=by
 have n:J (Xi y)=J y:=by simp[Xi]
 rw[n];show _↔List.Pairwise _ _;rw[gY];simp only[bK,cM];constructor
 .intro a i j k b m e;have:=a j i b m;rw[Vj b,Vj k]at this;have o:=Wp h y[i];have p:=Wp h y[j];unfold US at e;exact this O
 intro a d f ha g e;rw[Vj ha,Vj O]at e;exact a f d O ha g<|by unfold US;rw[e]
theorem BZ(h:∀c∈l,0<=c/\c<t):QD l (Ns x n (J x)) (J (Ns x n (J x)))↔∀b∈Zw x n (J x),(b.map<|US l).Nodup:=by
 constructor
 .intro d b f;let⟨i,a,e⟩:=bR<|WV.2 ⟨b,f,R⟩;have:=d i a;rw[bF,aC a,gR,e]at this;exact(vJ h b).1 this
 intro d i a;rw[bF,aC a,gR];let⟨y,g,e⟩:=WV.1<|aH a;rw[e];exact(vJ h y).2 (d y g)
theorem Dm{a b}(f:l=(Ns x t.toNat (J x)).getD i [])(d:i<J (Ns x t.toNat (J x)))(ha:a<J l)(c:b<a)(e:UM L l a=UM L l b):¬Pm t x L T:=λh=>by have:=(BZ h.2.2.2.2.1).2 h.2.2.2.2.2 i d;rw[<-f]at this;exact this a b ha c e
structure j5(C:Ym)(l:Wa)(c:N):Prop where
 free:∀u∈l,C u≠(c:I)
 low:∀c',c' < c->∃u∈l,C u=(c':I)
theorem j5.one{C}(h:j5 C s c)(k:j5 C s n):c=n:=by
 obtain e|e|e:=mA c n
 .let⟨u,a,b⟩:=k.2 c e;exact Sz b<|h.1 u a
 .exact e
 let⟨u,a,b⟩:=h.2 n e;exact Sz b<|k.1 u a
theorem wM{C:Ym}{l:Wa}(h:∀a,a < c->∃u∈l,C u=(a:I)):c<=J l:=by
 have b:=K3 (A_:=Rg c) (B:=l.map λu=>(C u).toNat) kS (λx f=>by let⟨u,d,e⟩:=h x<|bE.1 f;exact aY.2 ⟨u,d,by rw[e];rfl⟩)
 simpa using b
theorem wL{C}{l:Wa}(h:∀a,a < J l->∃u∈l,C u=(a:I)):j5 C l (J l):=by
 refine⟨λu b e=>?_,h⟩;have:=wM (C:=C) (l:=l) (c:=J l+1) (λa c=>by
  by_cases e2:a=J l;·subst e2;exact⟨u,b,e⟩
  exact h a O)
 omega
open Classical in
theorem wZ(C l):∃c,j5 C l c:=by
 by_cases j:∀a,a < J l->∃u∈l,C u=(a:I);·exact⟨_,wL j⟩
 have m:∃c,¬∃u∈l,C u=((c:N):I):=by apply dQ;intro b;exact j λa _=>dQ λd=>b ⟨a,d⟩
 have p:∀n c,c<=n->(¬∃u∈l,C u=((c:N):I))->∃c,j5 C l c:=by
  intro n
  induction n with
  |zero=>
   intro c f h;exact⟨c,λu i e=>h ⟨u,i,e⟩,λa g=>Sz g O⟩
  |succ n o=>
   intro c f h;by_cases k:∀a,a < c->∃u∈l,C u=(a:I);·exact⟨c,λu i e=>h ⟨u,i,e⟩,k⟩
   have:∃a,a < c/\¬∃u∈l,C u=((a:N):I):=by apply dQ;intro b;exact k λa g=>dQ λd=>b ⟨a,g,d⟩
   let⟨a,q,b⟩:=this;exact o a O b
 let⟨c,f⟩:=m;exact p c c aA f
noncomputable def Nx(C:Ym)(l:Wa):N:=Classical.choose<|wZ C l
theorem oa(C l):j5 C l (Nx C l):=gJ<|wZ C l
theorem ry{C}(h:j5 C s c):Nx C s=c:=(oa C s).one h
theorem MW(C l):Nx C l<=J l:=wM (oa C l).2
noncomputable def Nn(C:Ym)(s:N×Wa):Ym:=λu=>if u=s.1 then (Nx C s.2:I)else C u
noncomputable def Kq(C:Ym)(a:List (N×Wa)):Ym:=a.foldl Nn C
theorem rl{C}{a:List (N×Wa)}(s:N×Wa):Kq C (a++[s])=Nn (Kq C a) s:=by unfold Kq;rw[dT];rfl
theorem zW{C}{a b:List (N×Wa)}:Kq C (a++b)=Kq (Kq C a) b:=by unfold Kq;rw[dT]
noncomputable def Ni(a:Wi)(V b:N)(x:Xe)(k:N):List (N×Wa):=(x.1.take k).map λp=>(p.1.toNat,Uq a x V b 0)
noncomputable def VC(a:List Xe)(V b:N)(x:Xe):N->List (N×List N)
 |0=>[]
 |k+1=>VC a V b x k++match x.2[k]? with
  |none=>[]
  |some y=>(BW y).map λv=>(v.toNat,Uq a x V b<|k+1)
noncomputable def OV(a:List Xe)(V b:N):List (N×List N):=match a[b]? with
 |none=>[]
 |some x=>Ni a V b x (J x.1)++VC a V b x (J x.2)
noncomputable def Ko(b:Wi)(V:N)(a:Wa):List (N×Wa):=a.flatMap<|OV b V
theorem qT:Ko x n (s++[m])=Ko x n s++OV x n m:=by unfold Ko;rw[eZ];simp
noncomputable def NE(C:N->I):N->I
 |0=>0
 |V+1=>max (NE C V) (C V+1)
theorem uO(P:Wc)(m b):b∈XT P m b:=by cases m<;>simp[XT]
theorem tK{tg n P}(h:YX tg n P)(d:∀x,Re tg x->x<n):∀(m b c x:N),n<=J (Zq tg n b)+m->c∈XT P m b->x∈Nj P c->x∈XT P m b
 |0,b,c,x,hm,a,hx=>by
  have:c=b:=by simpa [XT]using a
  subst this;have g:=qJ h d hx;have i:=rr (tg:=tg) n x;omega
 |m+1,b,c,x,hm,a,hx=>by
  rw[XT,cH]at a;rw[XT,cH];obtain rfl|a:=a;·exact aZ<|bV.2 ⟨x,hx,uO P m x⟩
  let⟨e,f,a⟩:=bV.1 a;have g:=qJ h d f;exact aZ<|bV.2 ⟨e,f,tK h d m e c x O a hx⟩
theorem vH{tg n P}(h:YX tg n P)(a:∀x,Re tg x->x<n):∀(k x:N),J (Zq tg n x)<=k->Re tg x->x∈XT P n 0
 |k,x,hk,hx=>by
  by_cases b:x=0;·subst b;exact uO P n 0
  obtain⟨c,e1,e2,e3,e4,_⟩:=B8 h a hx b
  match k,hk with
  |0,hk=>omega
  |k+1,hk=>exact tK h a n 0 c x O (vH h a k c O e3) (o8.2 ⟨by rw[h.1];exact a x hx,e1⟩)
theorem CX(c:UF x)(b:YX (X8 x) (J x) l)(d:Jq x):(XT l (J x) 0).Perm (Rg (J x)):=by
 rw[List.perm_iff_count];intro a;rw[(qY b (J x) 0 Re.root).count,List.nodup_range.count];have:a∈XT l (J x) 0↔a∈Rg (J x):=by
  rw[bE];constructor
  .intro h;exact c.re a (Ji b (J x) 0 a Re.root h).2
  intro h;exact vH b c.re _ a aA (d a h)
 by_cases e:a∈XT l (J x) 0;·rw[aU e,aU<|this.1 e]
 rw[aM e,aM λh=>e<|this.2 h]
theorem TX(h:Ft t x=0):XJ ⟨t,x⟩=So/\Jq x:=by
 unfold Ft at h;by_cases a:XJ ⟨t,x⟩=Sn;·rw[aU a]at h;omega
 rw[aM a]at h;by_cases b:¬Jq x;·rw[aU b]at h;omega
 exact⟨by simpa using a,Classical.not_not.1 b⟩
def OG(a:List (N×Wa)):Wc:=a.map λs=>(s.1:I)
theorem Gl(a:Jy n x)(d:q∈x)(b):OG (Ni x n b q (J q.1))=XG q.1:=by unfold OG Ni XG;rw[gC,jO];apply gH;intro p c;have:=(a.8 q d p c).1;simp only[Function.comp];omega
theorem xf{V a}(d:Jy V a){x}(e:x∈a)(b):∀k,k<=J x.2->OG (VC a V b x k)=XI (x.2.take k)
 |0,_=>by simp[OG,VC,XI]
 |k+1,g=>by
  have i:=xf d e b k O;have c:k<J x.2:=g;have f:XI (x.2.take<|k+1)=XI (x.2.take k)++BW x.2[k]:=by rw[kJ,aC c];unfold XI BW;rw[eU,bG,Option.toList_some,iW,jX];cases dB x.2[k].1<;>rfl
  rw[f,<-i,VC,aC c];unfold OG;rw[bG,jO];congr 1;have:∀v∈BW x.2[k],((λs:N×Wa=>(s.1:I)) ∘ λv:I=>(v.toNat,Uq a x V b<|k+1)) v=v:=λv h=>by have:=(d.6 x e _ (aH c) v h).1;simp only[Function.comp];omega
  rw[gH this,List.map_id''];intro j;rfl
theorem wF(c:Jy n x)(a:m<J x):OG (OV x n m)=Z6 x[m]:=by unfold OV;rw[aC a];have d:=Gl c (aH a) m;have b:=xf c (aH a) m (J x[m].2) aA;rw[gC]at b;show OG (Ni x n m x[m] (J x[m].1)++VC x n m x[m] (J x[m].2))=_;unfold OG at*;rw[bG,d,b];rfl
theorem uq{V a}(c:Jy V a):∀k,k<=J a->OG (Ko a V<|Rg k)=BX (a.take k)
 |0,_=>by simp[OG,Ko,BX]
 |k+1,e=>by have f:=uq c k O;have b:k<J a:=e;rw[dN,qT,kJ,aC b];have d:=wF c b;unfold OG at*;rw[bG,f,d];unfold BX;rw[eZ,Option.toList_some,jF,List.flatMap_nil,fF]
theorem Gk(d:XJ ⟨(n:I),x⟩=So)(t:Jq x)(q:YX (X8 x) (J x) l):
 (OG<|Ko x n (XT l (J x) 0)).Nodup/\∀u:N,u<n->(u:I)∈OG (Ko x n<|XT l (J x) 0):=by
 have c:=XH d;have m:(OG<|Ko x n (XT l (J x) 0)).Perm (BX x):=by have b:=uq c (J x)<|aA;rw[gC]at b;rw[<-b];unfold OG Ko;exact(List.Perm.flatMap_right _<|CX c.1 q t).map _
 have k:JM ⟨(n:I),x⟩=So:=by unfold XJ at d;simp only[bY]at d;exact d.2
 have j:∀u:N,u<n->(BX x).count (u:I)=1:=λu g=>by unfold JM at k;have:=dV.1 k u (bE.2<|by simpa using g);rw[iA,qp]at this;exact this
 have r:∀f∈BX x,0<=f/\f<(n:I):=λf a=>by
  let⟨p,o,a⟩:=bV.1 a;obtain a|a:=bU.1 a
  .obtain⟨w,s,rfl⟩:=aY.1 a;exact c.8 p o w s
  obtain⟨y,v,rfl⟩:=aY.1 a;let⟨b,i⟩:=fG.1 v;exact c.6 p o y b y.2<|by unfold BW;rw[i];simp
 constructor
 .rw[mY];intro e;rw[m.count_eq];by_cases h:e∈BX x
  .let⟨b,i⟩:=r e h;have:=j e.toNat O;rw[fR b]at this;omega
  rw[kZ h];omega
 intro u g;rw[m.mem_iff];apply kE.1;rw[j u g];decide
structure mn(V:N)(ss:List (N×Wa)):Prop where
 lt:∀s∈ss,s.1<V
 nd:∀pre s post,ss=pre++s::post->∀t∈pre,t.1≠s.1
 all:∀u,u<V->∃s∈ss,s.1=u
theorem vV(i:XJ ⟨(n:I),x⟩=So)(q:Jq x)(m:YX (X8 x) (J x) l):mn n (Ko x n<|XT l (J x) 0):=by
 let⟨b,d⟩:=Gk i q m;have g:=XH i;refine⟨λs a=>?_,λC s B e z t=>?_,λF u=>?_⟩
 .let⟨k,_,a⟩:=bV.1 a;unfold OV at a;cases hb:x[k]? with
  |none=>rw[hb]at a;cases a
  |some c=>
   have j:c∈x:=eN hb;have o:=(cV.1 hb).1;have r:((s.1:N):I)∈Z6 c:=by have h:=wF g o;rw[(cV.1 hb).2]at h;rw[<-h];unfold OV OG;exact aY.2 ⟨s,a,R⟩
   obtain f|f:=bU.1 r
   .let⟨w,p,e⟩:=aY.1 f;have:=g.8 c j w p;have e:=e;omega
   let⟨y,v,e⟩:=aY.1 f;let⟨b,d⟩:=fG.1 v;have:=g.6 c j y b y.2 (by unfold BW;rw[d];simp);have e:=e;omega
 .rw[e]at b;unfold OG at b;rw[bG,eH]at b;have:=(gW.1 b).2.2 _ (aY.2 ⟨z,t,R⟩) _ cI;exact λe=>this<|by rw[e]
 let⟨s,a,e⟩:=aY.1<|d F u;exact⟨s,a,O⟩
theorem TE{v}:∀(a:List (N×Wa))(C:Ym),(∀s∈a,s.1≠v)->Kq C a v=C v
 |[],_,_=>R
 |s::a,C,h=>by have c:=TE a (Nn C s) λt b=>h t<|cN _ b;show Kq (Nn C s) a v=_;rw[c];unfold Nn;rw[aM λe=>h s cI e.symm]
theorem UP{v}:∀(a:List (N×Wa))(C:Ym),(0<=C v\/∃s∈a,s.1=v)->0<=Kq C a v
 |[],_,h=>by
  obtain h|⟨s,h,_⟩:=h;·exact h
  cases h
 |s::a,C,h=>by
  show 0<=Kq (Nn C s) a v;refine UP a (Nn C s) ?_;by_cases e:v=s.1
  .left
   unfold Nn;rw[aU e];omega
  obtain h|⟨t,b,e2⟩:=h
  .left
   unfold Nn;rw[aM e];exact h
  obtain rfl|b:=cH.1 b;·exact Sz e2.symm e
  exact aZ ⟨t,b,e2⟩
theorem UJ(C:Ym):∀V,0<=NE C V
 |0=>by simp[NE]
 |V+1=>by have:=UJ C V;rw[NE];omega
section
def Wl(xs:List Xe)(u b:N):N->Prop
 |0=>Yo xs b u=So
 |j+1=>∃x y,xs[b]?=S x/\x.2[j]?=S y/\(u:I)∈BW y
theorem Vs{a}:XI a=a.flatMap BW:=by
 induction a with
 |nil=>rfl
 |cons y a b=>
  have:XI (y::a)=BW y++XI a:=by unfold XI BW;rw[iW];cases dB y.1<;>rfl
  rw[this,b,jF]
theorem uK{xs:Wi}{b u}(h:Yo xs b u=So):∃x,xs[b]?=S x/\(u:I)∈XG x.1:=by
 unfold Yo at h;cases e:xs[b]? with
 |none=>rw[e]at h;cases h
 |some x=>rw[e]at h;exact⟨x,R,XD.1 h⟩
theorem Eu{V:N}{xs}(hv:XJ ⟨(V:I),xs⟩=So):(BX xs).Nodup/\(∀d∈BX xs,0<=d/\d<(V:I))/\∀u:N,u<V->(u:I)∈BX xs:=by
 have j:=XH hv;have k:JM ⟨(V:I),xs⟩=So:=by unfold XJ at hv;simp only[bY]at hv;exact hv.2
 have g:∀u:N,u<V->(BX xs).count (u:I)=1:=λu e=>by unfold JM at k;have:=dV.1 k u (bE.2<|by simpa using e);rw[iA,qp]at this;exact this
 have i:∀d∈BX xs,0<=d/\d<(V:I):=λd a=>by
  let⟨x,l,a⟩:=bV.1 a;obtain a|a:=bU.1 a
  .obtain⟨p,m,rfl⟩:=aY.1 a;exact j.8 x l p m
  obtain⟨y,n,rfl⟩:=aY.1 a;let⟨c,f⟩:=fG.1 n;exact j.6 x l y c y.2<|by unfold BW;rw[f];simp
 refine⟨?_,i,λu e=>kE.1<|by rw[g u e];decide⟩;rw[mY];intro b;by_cases h:b∈BX xs
 .let⟨c,f⟩:=i b h;have:=g b.toNat O;rw[fR c]at this;omega
 rw[kZ h];omega
theorem Wl.mem{xs:Wi}{u b k}(h:Wl xs u b k):∃x,xs[b]?=S x/\(u:I)∈Z6 x:=by
 cases k with
 |zero=>
  let⟨x,e,a⟩:=uK h;exact⟨x,e,dD _ a⟩
 |succ j=>
  let⟨x,y,e,e2,a⟩:=h;refine⟨x,e,fB _ ?_⟩;rw[Vs];exact bV.2 ⟨y,eN e2,a⟩
theorem uj{a n:Type}{f:a->List n}{l:List a}(h:(l.flatMap f).Nodup){i j:N}{b c:a}(o:l[i]?=S b)(p:l[j]?=S c){z:n}(ha:z∈f b)(k:z∈f c):i=j:=by
 unfold List.Nodup at h;rw[iK]at h;let⟨d,e1⟩:=cV.1 o;let⟨g,e2⟩:=cV.1 p;have m:=gY.1 h.2;obtain e|e|e:=mA i j;·exact Sz R<|m i j d g e z (e1▸ha) z (e2▸k)
 .exact e
 exact Sz R<|m j i g d e z (e2▸k) z (e1▸ha)
theorem Wl.one{V:N}{xs}(hv:XJ ⟨(V:I),xs⟩=So){u d k b' k'}(l:Wl xs u d k)(f:Wl xs u b' k'):d=b'/\k=k':=by
 have g:=(Eu hv).1;let⟨x,e,v⟩:=l.mem;let⟨K,h,w⟩:=f.mem;have t:=uj (f:=Z6) g e h v w;subst t;rw[e]at h;cases h;refine⟨R,?_⟩;have m:(Z6 x).Nodup:=by unfold List.Nodup BX at g;rw[iK]at g;exact g.1 x<|eN e
 unfold Z6 at m;rw[gW]at m;let⟨_,p,o⟩:=m;rw[Vs]at p o;have r:∀{k},Wl xs u d k->k=0->(u:I)∈XG x.1:=λ{k} q i=>by subst i;let⟨C,c,F⟩:=uK q;rw[e]at c;cases c;exact F
 have n:∀{k},Wl xs u d k->∀j,k=j+1->∃y,x.2[j]?=S y/\(u:I)∈BW y:=λ{k} q j i=>by subst i;let⟨C,y,c,a,b⟩:=q;rw[e]at c;cases c;exact⟨y,a,b⟩
 cases k with
 |zero=>
  cases k' with
  |zero=>rfl
  |succ j=>
   let⟨y,a,b⟩:=n f j R;exact Sz R<|o _ (r l R) _ (bV.2 ⟨y,eN a,b⟩)
 |succ B=>
  let⟨y,a,b⟩:=n l B R;cases k' with
  |zero=>exact Sz R<|o _ (r f R) _ (bV.2 ⟨y,eN a,b⟩)
  |succ j=>
   let⟨L,s,z⟩:=n f j R;rw[uj (f:=BW) p a s b z]
theorem Vk{x u q k}:∀i,k<=i->i<=J x.2->JT x u q i=So->(∀j y,k<=j->j<i->x.2[j]?=S y->(u:I)∉BW y)->JT x u q k=So
 |0,hk,_,h,_=>by have:k=0:=O;subst this;exact h
 |i+1,hk,hi,h,hn=>by
  by_cases e:k=i+1;·subst e;exact h
  refine Vk i O O ?_ λj y a d=>hn j y a O;rw[qe u q (show i<J x.2 from hi),h];have c:¬H7 x.2[i]=(u:I):=λe=>(hn i x.2[i] O O (aC _)) (YN.1 e);simp[c]
theorem qN{xs}(hns:¬∃x,N4 xs x){u b}(d:Nu xs u b)(h:Ol xs u b):False:=by
 obtain⟨c,e⟩:=h
 induction e with
 |here _ a=>exact hns ⟨u,_,d,c,a⟩
 |step _ a f g _ i=>exact i (Nu.step d c a f) g
theorem Ee{xs:Wi}{d b}(h:Re (X8 xs) b):Av (X8 xs) d b\/d=0\/∃p,Av (X8 xs) d p/\d∈X8 xs p:=by
 induction h with
 |root=>
  by_cases e:d=0;·exact aZ<|bC e
  exact bC<|Av.root e
 |@step c t _ f a=>
  obtain a|a:=a
  .by_cases e:t=d;·subst e;exact aZ<|aZ ⟨c,a,f⟩
   exact bC<|Av.step a f e
  exact aZ a
theorem qP{xs:Wi}{u b}(d:b<J xs){q}(hq:q=So↔UV xs u b){i}(e:i<=J xs[b].2)(h:JT xs[b] u q i=So)(g:Yo xs b u=Sn)(f:∀j y,j<i->xs[b].2[j]?=S y->(u:I)∉BW y):Ol xs u b :=
 ⟨g,(vk d hq).1 (Vk i aN e h λj y _ a c=>f j y a c)⟩
section
variable {V: N} {xs: Wi} (hv: XJ ⟨(V: I), xs⟩ = So) (hr: Jq xs) (hns: ¬ ∃ x, N4 xs x)
include hv
theorem qU{u d k b}(a:Wl xs u d k)(c:b≠d):Yo xs b u=Sn:=by
 cases e:Yo xs b u with
 |false=>rfl
 |true=>exact Sz (Wl.one hv (k:=0) e a).1 c
theorem VZ{u d k b j}(c:Wl xs u d k)(f:b≠d\/j+1≠k){x y}(e:xs[b]?=S x)(a:x.2[j]?=S y):(u:I)∉BW y:=λh=>by have:=Wl.one hv (k:=j+1) ⟨x,y,e,a,h⟩ c;omega
theorem FP{u d k b}(a:Wl xs u d k)(f:b≠d):C7 xs b u≠2:=by
 unfold C7;cases e:xs[b]? with
 |none=>simp
 |some x=>
  show NA x (XP xs b) (u:I)≠2;unfold NA;refine Ud _ λy g h=>?_;obtain⟨j,c,rfl⟩:=bR g;exact VZ hv a (bC f) e (aC c) h
theorem wg(hns:¬∃x,N4 xs x){u e n b}(i:Wl xs u e n)(k:Av (X8 xs) e b):Nu xs u b/\Yo xs b u=Sn/\C7 xs b u=0:=by
 have j:∀b,b≠e->Nu xs u b->Yo xs b u=Sn/\C7 xs b u=0:=λb a d=>by
  have h:=qU hv i a;have o:=FP hv i a;have p:=qD xs b u;refine⟨h,?_⟩;by_cases f:C7 xs b u=1;·exact Sz ⟨u,b,d,h,f⟩ hns
  omega
 induction k with
 |root l=>exact⟨Nu.root,j 0 (λf=>l f.symm) Nu.root⟩
 |@step c t q m a g=>
  have d:=Nu.step g.1 g.2.1 g.2.2 m;exact⟨d,j t a d⟩
include hr hns
theorem vE{u d n b}(e:Wl xs u d n)(m:d<J xs)(h:Ol xs u b):JO (X8 xs) d b/\d≠b:=by
 have c:=h.2.lt;have f:¬Av (X8 xs) d b:=λha=>qN hns (wg hv hns e ha).1 h;refine⟨⟨hr d m,hr b c,f⟩,λg=>?_⟩;subst g;obtain a|a|⟨p,a,i⟩:=Ee (d:=d) (hr d c);·exact f a
 .subst a;exact qN hns Nu.root h
 obtain⟨j,k,l⟩:=wg hv hns e a;exact qN hns (Nu.step j k l i) h
omit hr hns
theorem EK{u d k b}(c:Wl xs u d k)(e:b≠d)(a:b<J xs)(h:UV xs u b):Ol xs u b:=by refine qP a (q:=So) ⟨λ_=>h,λ_=>R⟩ aA ?_ (qU hv c e) λj y _ f=>VZ hv c (bC e) (aC a) f;rw[WT _ _<|aA];simp
theorem FM(o:UF xs){u d p e}(l:Wl xs u d p)(m:e<J xs){c}(h:Sf (X8 xs) d e e c)(j:c≠e)(n:Ol xs u c):UV xs u e:=by
 have lt:∀{c},Sf (X8 xs) d e e c->c<J xs:=λ{c} h=>by
  induction h with
  |here=>exact m
  |step _ a _ _ b=>exact o.tg _ b _ a
 induction h with
 |here=>exact Sz R j
 |@step c t g a q r b=>
  have f:UV xs u c:=aZ ⟨t,a,n⟩;by_cases e1:c=e;·rw[<-e1];exact f
  have k:c≠d:=by
   cases g with
   |here=>exact Sz R e1
   |step _ _ i _=>exact i
  exact b e1<|EK hv l k (lt g) f
theorem EB(f:UF xs){u d o e b}(i:Wl xs u d o)(a:JO (X8 xs) d e)(c:JO (X8 xs) e b)(n:e≠b)(l:Ol xs u b):UV xs u e:=by
 have g:=λh=>FM hv f i (f.re e a.2) h (λq=>n q.symm) l;obtain⟨h3,_⟩|h3|h3:=vp (a:=d) (b:=e) c.2;·exact Sz h3 (J8 a c).3
 .by_cases q:d=e;·subst q;exact g h3
  have:Av (X8 xs) e d:=dQ λm=>q<|Z1 a ⟨a.2,a.1,m⟩;exact Sz (rm h3 (aZ R) this) c.3
 exact g h3
def OD(xs:Wi)(u b i:N):Prop:=∃x,xs[b]?=S x/\i<=J x.2/\(Wl xs u b i\/∃q:Bool,(q=So↔UV xs u b)/\JT x u q i=So)
omit hv
open Classical in
theorem OD.of{b i u}(a:b<J xs)(c:i<=J xs[b].2)(h:u∈Uq xs xs[b] V b i):OD xs u b i:=by
 unfold Uq at h;obtain⟨_,h⟩:=fG.1 h;refine⟨xs[b],aC a,c,?_⟩;unfold Ox at h;cases i with
 |zero=>
  obtain h|h:=dI _ _▸h
  .refine aZ ⟨_,?_,h⟩;rw[bD]
  exact bC h
 |succ j=>
  obtain h|h:=dI _ _▸h
  .refine aZ ⟨_,?_,h⟩;rw[bD]
  have d:j<J xs[b].2:=c;rw[aC d]at h;exact bC ⟨xs[b],xs[b].2[j],aC a,aC d,YN.1<|fV h⟩
theorem OD.to_{b i u}(j:u<V)(m:b<J xs)(h:OD xs u b i):u∈Uq xs xs[b] V b i:=by
 obtain⟨x,e,n,h⟩:=h;have ex:xs[b]=x:=(cV.1 e).2;unfold Uq;refine fG.2 ⟨bE.2 j,?_⟩;unfold Ox;rw[ex];have hq:∀q:Bool,(q=So↔UV xs u b)->∀d:Decidable (UV xs u b),@decide (UV xs u b) d=q:=λq hq d=>by rw[eQ,bD,hq]
 obtain h|⟨q,g,c⟩:=h
 .cases i with
  |zero=>
   have h:Yo xs b u=So:=h;rw[dI];exact aZ h
  |succ l=>
   obtain⟨o,y,a,f,k⟩:=h;rw[e]at a;cases a;rw[dI];refine aZ ?_;rw[f];exact eB<|YN.2 k
 rw[hq q g];cases i with
 |zero=>rw[dI];exact bC c
 |succ l=>rw[dI];exact bC c
include hv hr hns
theorem WG{u d n b m}(a:Wl xs u d n)(h:OD xs u b m):JO (X8 xs) d b/\(d=b->n<=m)/\(d≠b->Ol xs u b):=by
 let⟨x,f,l,h⟩:=h;let⟨c,ex⟩:=cV.1 f;have k:d<J xs:=by let⟨z,o,_⟩:=a.mem;exact(cV.1 o).1
 obtain h|⟨q,i,j⟩:=h
 .let⟨e1,e2⟩:=Wl.one hv a h;subst e1 e2;exact⟨Zd<|hr d c,λ_=>aA,λq=>Sz R q⟩
 subst ex;by_cases e1:d=b
 .subst e1
  refine⟨Zd<|hr d c,λ_=>?_,λq=>Sz R q⟩;apply dQ;intro t;have r:Yo xs d u=Sn:=by
   cases ep:Yo xs d u with
   |false=>rfl
   |true=>have:=(Wl.one hv (k:=0) ep a).2;omega
  have e:=qP c i l j r λs y p g=>VZ hv a (aZ O) f g;exact(vE hv hr hns a k e).2 R
 have e:=qP c i l j (qU hv a λq=>e1 q.symm) λs y p g=>VZ hv a (bC λq=>e1 q.symm) f g;exact⟨(vE hv hr hns a k e).1,λq=>Sz q e1,λ_=>e⟩
theorem DP(F:UF xs){u d k w e m f j}(b:Wl xs u d k)(g:Wl xs w e m)(s:OD xs u f j)(K:OD xs w f j)(o:JO (X8 xs) d e)(i:d=e->k<=m):OD xs u e m:=by
 have K_:=hv;let⟨J_,N_,L⟩:=WG hv hr hns b s;let⟨l,M,_⟩:=WG hv hr hns g K;let⟨z,a,_⟩:=g.mem;have L_:=(cV.1 a).1;have r:m<=J z.2:=by
  cases m with
  |zero=>exact aN
  |succ t=>
   let⟨P_,y,n,c,_⟩:=g;rw[a]at n;cases n;exact(cV.1 c).1
 refine⟨z,a,r,?_⟩;by_cases p:d=e/\k=m
 .obtain⟨rfl,rfl⟩:=p;exact bC b
 right;by_cases e1:e=f
 .subst e1;have P:=M R;let⟨O_,ex,B,h⟩:=s;rw[a]at ex;cases ex;obtain h|⟨q,v,x⟩:=h
  .let⟨q1,q2⟩:=Wl.one hv b h;have:=i q1;exact Sz ⟨q1,O⟩ p
  refine⟨q,v,Vk j P B x λt y C M_ c=>VZ hv b ?_ a c⟩;by_cases q1:d=e
  .right;have:=i q1;omega
  left;exact λq=>q1 q.symm
 have T:d≠f:=λq=>by subst q;exact e1<|Z1 l o
 have W:=EB hv F b o l e1<|L T;refine⟨So,⟨λ_=>W,λ_=>R⟩,Vk (J z.2) r aA ?_ λt y C _ c=>VZ hv b ?_ a c⟩;·rw[WT _ _<|aA];simp
 by_cases q1:d=e
 .right;have:=i q1;omega
 left;exact λq=>q1 q.symm
end
end
open Classical in
noncomputable def MD(v:I)(b:Wi)(a:Wc)(k:I):Bool:=Jd (Pm v b a k)
theorem pL{v:I}{xs:Wi}{cs:Wc}{k:I}(h:¬Pm v xs cs k):MD v xs cs k=Sn:=by simp[MD,h]
theorem CG(h:Pm t x l T):MD t x l T=So:=by simp[MD,h]
def yF(c l:Wc)(d b:N):Prop:=∀a,a < b->UM c l d≠UM c l a
theorem Xj:P6 l L 0:=λa b h=>Sz h O
theorem Ly:yF l L n 0:=λa h=>Sz h O
theorem K7{a:Tm}:QD l a 0:=λb h=>Sz h O
theorem Mm{b:N}(h:yF l L n b)(c:¬UM l L n=UM l L b):yF l L n (b+1):=λa d=>by
 by_cases e:a=b;·subst e;exact c
 exact h a O
theorem QE(h:P6 l L n)(d:yF l L n n):P6 l L (n+1):=λa b f c=>by
 by_cases e:a=n;·subst e;exact d b c
 exact h a b O c
theorem OK{a:Tm}(h:QD l a i)(c:P6 l (a.getD i []) (J (a.getD i []))):QD l a (i+1):=λb d=>by
 by_cases e:b=i;·subst e;exact c
 exact h b O
section
abbrev j9:=I×I
def Ri:ju j9:=⟨λr=>(-1,r),(-1,64)⟩
def wN(cs:Wc)(s:ju j9)(y:Yg):ju j9:=if dB y.1=So then ⟨Sl s.1 (Kp cs y.2) (y.2,0),s.2⟩else s
def S5(cs:Wc)(a:Vr)(j:N):ju j9:=(a.take j).foldl (wN cs) Ri
def pS(a:Vr)(j:N)(v:I):Bool:=(a.take j).any λy=>Cg (BW y) v
def xm(cs:Wc)(a:Vr)(j:N)(v:I):j9:=if pS a j v=So then (v,0)else (-1,Kp cs v)
theorem JU(cs:Wc){a:Vr}{j:N}(h:j<J a):S5 cs a (j+1)=wN cs (S5 cs a j) a[j]:=by unfold S5;rw[bN h,dT];rfl
theorem El{a:Vr}{j:N}(h:j<J a)(v:I):pS a (j+1) v=(pS a j v||Cg (BW a[j]) v):=by unfold pS;rw[bN h,List.any_append];simp
theorem LL{a:Vr}{j:N}{v:I}:pS a j v=So↔∃i y,i<j/\a[i]?=S y/\v∈BW y:=by
 unfold pS;rw[tj];constructor
 .rintro⟨y,f,h⟩;obtain⟨i,b,e⟩:=bR f;have c:i<j/\i<J a:=by rw[dH]at b;omega
  rw[jG]at e;exact⟨i,y,c.1,by rw[aC c.2,e],XD.1 h⟩
 rintro⟨i,y,b,e,h⟩;obtain⟨g,e2⟩:=cV.1 e;refine⟨y,?_,XD.2 h⟩;have d:i<J (a.take j):=by rw[dH];omega
 have:(a.take j)[i]=y:=by rw[jG];exact e2
 rw[<-this];exact aH d
theorem QL{y:Yg}{v:I}(h:v∈BW y):dB y.1=So/\v=y.2:=by
 unfold BW at h;by_cases e:dB y.1=So;·rw[aU e]at h;exact⟨e,cS.1 h⟩
 rw[aM e]at h;cases h
open Classical in
theorem Ao{xs:Wi}{u b i:N}(a:b<J xs)(c:i<=J xs[b].2)(h:∀q:Bool,(q=So↔UV xs u b)->JT xs[b] u q i=So):OD xs u b i :=
 ⟨xs[b],aC a,c,aZ ⟨Jd (UV xs u b),by rw[bD],h _<|by rw[bD]⟩⟩
theorem JH{xs:Wi}{u b j:N}(h:OD xs u b (j+1))(c:∀x y,xs[b]?=S x->x.2[j]?=S y->(u:I)∉BW y):OD xs u b j:=by
 obtain⟨x,e,f,h⟩:=h;refine⟨x,e,O,?_⟩;obtain⟨x',y,e',ey,hy⟩|⟨q,h1,h2⟩:=h;·exact Sz hy<|c x' y e' ey
 refine aZ ⟨q,h1,?_⟩;have a:j<J x.2:=f;have d:¬H7 x.2[j]=(u:I):=λe2=>c x _ e (aC a) (YN.1 e2);rw[qe u q a,h2];simp[d]
theorem KM{xs:Wi}{u b:N}(c:b<J xs):∀j,OD xs u b j->pS xs[b].2 j (u:I)=Sn->OD xs u b 0
 |0,h,_=>h
 |j+1,h,hd=>by
  have d:j<J xs[b].2:=by obtain⟨x,e,f,_⟩:=h;rw[(cV.1 e).2];exact f
  rw[El d,IL]at hd;refine KM c j (JH h λx y e a g=>?_) hd.1;rw[aC c]at e;cases e;rw[aC d]at a;cases a;have:=XD.2 g;rw[hd.2]at this;cases this
theorem Qv{xs:Wi}{u b j:N}(c:b<J xs)(a:j<J xs[b].2)(h:(u:I)∈Iw xs[b].2[j]):OD xs u b j :=
 Ao c (dU a) λq _=>by rw[qe u q a,XD.2 h];simp
theorem Ok{xs:Wi}{u b:N}(a:b<J xs)(h:(u:I)∈Id xs[b].3):OD xs u b (J xs[b].2) :=
 Ao a aA λq _=>by rw[WT u q aA,XD.2 h];simp
theorem FW{xs:Wi}{u b:N}(a:b<J xs)(h:UV xs u b):OD xs u b (J xs[b].2) :=
 Ao a aA λq c=>by rw[WT u q aA,c.2 h];simp
theorem LG{xs:Wi}{u b:N}(a:b<J xs)(h:Yo xs b u=So):OD xs u b 0 :=
 ⟨xs[b],aC a,aN,bC h⟩
theorem LR{xs:Wi}{u b j:N}(a:b<J xs)(c:j<J xs[b].2)(h:(u:I)∈BW xs[b].2[j]):OD xs u b (j+1) :=
 ⟨xs[b],aC a,c,bC ⟨xs[b],_,aC a,aC c,h⟩⟩
structure l8(V:N)(xs:Wi)(cs:Wc)(k:I):Prop where
 va:XJ ⟨(V:I),xs⟩=So
 re:Jq xs
 ns:¬∃x,N4 xs x
 ln:J cs=V
 rg:∀c∈cs,0<=c/\c<k
 pc:∀l∈Zw xs V (J xs),(l.map<|US cs).Nodup
variable {V: N} {xs: Wi} {cs: Wc} {k: I}
theorem l8.ok(h:l8 V xs cs k):Jy V xs:=XH h.1
theorem l8.col(h:l8 V xs cs k){v:I}(b:0<=v)(c:v<V):0<=Kp cs v/\Kp cs v<k:=by have a:v.toNat<J cs:=oN h.4;unfold Kp;rw[bF,aC a];exact h.5 _<|aH a
theorem y9{g i:Type}{f:g->i}:∀{l:List g},(l.map f).Nodup->∀{a b:g},a∈l->b∈l->f a=f b->a=b
 |[],_,a,_,h,_,_=>by cases h
 |x::l,hn,a,b,ha,hb,e=>by
  rw[eH,fL]at hn;obtain c|c:=cH.1 ha<;>obtain d|d:=cH.1 hb;·rw[c,d]
  .rw[c]at e;exact Sz (aY.2 ⟨b,d,e.symm⟩) hn.1
  .rw[d]at e;exact Sz (aY.2 ⟨a,c,e⟩) hn.1
  exact y9 hn.2 c d e
theorem l8.dis(h:l8 V xs cs k){u a b i:N}(m:u<V)(n:a < V)(d:OD xs u b i)(g:OD xs a b i)(e:Kp cs (u:I)=Kp cs (a:I)):u=a:=by obtain⟨x,ex,j,_⟩:=id d;obtain⟨c,f⟩:=cV.1 ex;subst f;have l:Uq xs xs[b] V b i∈Zw xs V (J xs):=bV.2 ⟨b,bE.2 c,(Jr c).2 ⟨i,j,R⟩⟩;refine y9 (h.6 _ l) (d.to_ m c) (g.to_ n c) ?_;show(NG cs u).toNat=(NG cs a).toNat;exact fI Int.toNat e
theorem l8.at_(h:l8 V xs cs k){u b:N}(f:b<J xs)(m:u<V):∀j,OD xs u b j->(S5 cs xs[b].2 j).1 (Kp cs (u:I))=xm cs xs[b].2 j (u:I)
 |0,_=>R
 |j+1,i=>by
  have c:j<J xs[b].2:=by obtain⟨x,e,s,_⟩:=i;rw[(cV.1 e).2];exact s
  unfold xm;rw[JU cs c,El c];unfold wN;by_cases d:(u:I)∈BW xs[b].2[j]
  .obtain⟨a,e⟩:=QL d;rw[aU a,XD.2 d,Bool.or_true,aU R,<-e];show Sl _ _ _ _=_;unfold Sl;rw[aU R]
  have v:OD xs u b j:=JH i (λx y e l=>by rw[aC f]at e;cases e;rw[aC c]at l;cases l;exact d)
  have n:=h.at_ f m j v;have r:Cg (BW xs[b].2[j]) (u:I)=Sn:=by rw[<-gU,XD];exact d
  rw[r,jU];by_cases a:dB xs[b].2[j].1=So
  .rw[aU a];have g:xs[b].2[j].2∈BW xs[b].2[j]:=by unfold BW;rw[aU a];exact cS.2 R
   obtain⟨p,q⟩:=h.ok.6 _ (aH f) _ (aH c) _ g;obtain⟨o,e⟩:=bX p;rw[e]at g q |-;have t:¬Kp cs (u:I)=Kp cs (o:I):=λe2=>by have:=h.dis m O i (LR f c g) e2;subst this;exact d g
   show Sl _ _ _ _=_;unfold Sl;rw[aM t];exact n
  rw[aM a];exact n
theorem l8.made(h:l8 V xs cs k){u b j i:N}(e:OD xs u b j)(d:Wl xs u b (i+1)):∃c:b<J xs,pS xs[b].2 j (u:I)=So:=by obtain⟨x,ex,_,_⟩:=id e;obtain⟨c,f⟩:=cV.1 ex;refine⟨c,?_⟩;have:=(WG h.1 h.2 h.3 d e).2.1 R;obtain⟨m,y,a,g,l⟩:=d;rw[ex]at a;cases a;subst f;exact LL.2 ⟨i,y,O,g,l⟩
end
end Go.Proofs.YtcncjgijikoapaaGreatDoor
