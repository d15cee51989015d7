import Derived.Laws.Bits128
import Derived.Test.YtcfdhbigppockaaGreatDoorPL3
import Derived.Deep.AppendLies
import Derived.Laws.AppendOwnNone
namespace Go.Proofs.YtcfdhbigppockaaGreatDoor
set_option maxHeartbeats 4000000
set_option maxRecDepth 100000
open Go.RowKit Go.Shelf Go.Proofs.Tryz
variable{t T z:Int}{n m k B g i j c:Nat}{w:Ub}{a:Uj}{p P:Uy}{l:Wc}{x:Wi}{f:Wk}{y:Wo}
section
attribute [local go_sem] Oper.semAt_some
theorem FX(h:XA f)(i:Nat):f i<18446744073709551616:=h i
theorem qW(W:Wk)(i j:Nat)(a:j<64):Xh W (64*i+j)=(W i).testBit j:=by
 unfold Xh;rw[show(64*i+j)/64=i by omega,show(64*i+j)%64=j by omega]
structure ji(W:Wk)(i k y:Nat):Prop where
 le:k<=64
 lt:y<18446744073709551616
 bit:∀j,y.testBit j=((W i).testBit j&&decide (k<=j))
theorem ji.start(h:XA f)(i:Nat):ji f i 0 (f i):=⟨vY,FX h i,λj=>sP⟩
theorem ji.next(l:ji f n m k)(d:k≠0):ji f n (Lib.ctz 64 k+1) (k&&&(k-1))/\Mq f (64*n+(Lib.ctz 64 k+1))=Mq f (64*n+m)++[64*n+Lib.ctz 64 k]/\Lib.ctz 64 k<64/\(k&&&(k-1))<k:=by
 have i:k<2^64:=l.2;let⟨y,x,p⟩:=qh d i;have h:=Fs d i;have v:=EY d i;have b:=l.3;have w:k&&&(k-1)<=k-1:=Nat.and_le_right;generalize Lib.ctz 64 k=c at*;have u:m<=c/\(f n).testBit c=true:=by
  have a:=h.1;rw[b,bY,bD]at a;exact⟨a.2,a.1⟩
 refine⟨⟨oM,oM,λj=>?_⟩,?_,p,oM⟩
 .rw[v,b];by_cases e:j=c;·subst e;simp
  by_cases e2:j<c
  .have g:=h.2 j e2;rw[b]at g;rw[g];have:¬c+1<=j:=oM;simp[this]
  have r:m<=j:=oM;have s:c+1<=j:=oM;simp[e,r,s]
 have e:64*n+(c+1)=(64*n+c)+1:=oM;rw[e];refine EP oM (λq a g=>?_) (by rw[qW f n c p];exact u.2);obtain⟨j,rfl⟩:∃j,q=64*n+j:=⟨q-64*n,oM⟩;have o:=h.2 j oM;rw[b]at o;rw[qW f n j oM];have t:m<=j:=oM;simpa [t]using o
theorem ji.done(h:ji f n m 0):Mq f (64*(n+1))=Mq f (64*n+m):=by
 refine qB (oN h.1) λq c d=>?_;obtain⟨j,rfl⟩:∃j,q=64*n+j:=⟨q-64*n,oM⟩;rw[qW f n j oM];have a:=h.3 j;have b:m<=j:=oM;simpa [b]using a.symm
theorem Fx{W:Wk}{p q:Nat}(h:p<=q):(Mq W p).length<=(Mq W q).length:=by
 unfold Mq;obtain⟨d,rfl⟩:∃d,q=p+d:=⟨q-p,oM⟩;rw[lI,eU,aQ];omega
theorem FO(n:Nat)(a:Uy)(len b:Nat)(w:Ub):
 CallsIn Fence.wide n prog 157 #[.agg #[.slice a len b]] w λe c=>e=.returned (.func (.func 183) #[] #[.pointer (some ⟨w.1.size,0,none⟩)])/\c=w.alloc (.cells #[.slice a len b] 103):=by
 refine iD func157 rfl trivial ?_ rfl;simp only[ntmps157,xY,Nat.reduceAdd,Nat.reduceSub];gi_wp2;go_ret;exact⟨rfl,rfl⟩
end
theorem wD{f:Wk}(a:∀B,B<256->f B<=68):∀n x,E1 f n x<=Wr 68 n
 |0,_=>aA
 |n+1,x=>by
  have b:=wD a n<|x/256;have c:=a (x%256) (dS _ vY);simp only[E1,Wr];omega
theorem Fp:∀B,B<256->f2 (f1 B)<=68:=by decide +kernel
theorem JQ(h:n<256):(n+256*m)/256=m:=oM
theorem Dn(n g h i k o p j e a b c d f q l m r:Nat)(A:n<=8)(B:g<=8)(C:h<=8)(D:i<=8)(E:k<=8)(F:o<=8)(G:p<=8)(H:j<=8)(e3:q=n+256*e)(u:e=g+256*a)(v:a=h+256*b)(w:b=i+256*c)(x:c=k+256*d)(y:d=o+256*f)(z:f=p+256*j)(e4:l=q+q/256)(e5:m=l+l/65536)(t:r=m+m/4294967296):l<9223372036854775808/\m<9223372036854775808/\r<9223372036854775808/\r%128=n+(g+(h+(i+(k+(o+(p+j)))))):=by
 have d3:q/256=e:=by rw[e3];exact JQ oM
 have c4:l=(n+g)+256*(e+a):=oM;have d4:l/65536=a+b:=by
  rw[show 65536=256*256 from rfl,<-iZ,c4,JQ oM,show e+a=(g+h)+256*(a+b) by omega,JQ oM]
 have c5:m=(n+g+h+i)+256*(e+a+b+c):=oM;have d5:m/4294967296=c+d+f+j:=by
  rw[show 4294967296=256*256*256*256 from rfl,<-iZ,<-iZ,<-iZ,c5,JQ oM,show e+a+b+c=(g+h+i+k)+256*(a+b+c+d) by omega,JQ oM,show a+b+c+d=(h+i+k+o)+256*(b+c+d+f) by omega,JQ oM,show b+c+d+f=(i+k+o+p)+256*(c+d+f+j) by omega,JQ oM]
 have s:r=(n+g+h+i+k+o+p+j)+256*(e+a+b+c+d+f+j):=oM;have N:f<=2304:=oM;have M:d<=590000:=oM;have L:c<=151100000:=oM;have K:b<=38700000000:=oM;have J:a<=9910000000000:=oM;have I:e<=2540000000000000:=oM;refine⟨oM,oM,oM,?_⟩;generalize e+a+b+c+d+f+j=O at s;omega
theorem CH(x:Nat)(e4:n=E1 Zc 8 x+E1 Zc 8 x/256)(e5:m=n+n/65536)(b:k=m+m/4294967296):n<9223372036854775808/\m<9223372036854775808/\k<9223372036854775808/\k%128=NZ 8 x:=by
 rw[uh];have a:∀y,Zc (y%256)<=8:=λy=>uo _<|dS _ vY;have h:=Dn (Zc<|x%256) (Zc<|x/256%256) (Zc<|x/256/256%256) (Zc<|x/256/256/256%256) (Zc<|x/256/256/256/256%256) (Zc<|x/256/256/256/256/256%256) (Zc<|x/256/256/256/256/256/256%256) (Zc<|x/256/256/256/256/256/256/256%256) (E1 Zc 7<|x/256) (E1 Zc 6<|x/256/256) (E1 Zc 5<|x/256/256/256) (E1 Zc 4<|x/256/256/256/256) (E1 Zc 3<|x/256/256/256/256/256) (E1 Zc 2<|x/256/256/256/256/256/256) (E1 Zc 8 x) n m k (a _) (a _) (a _) (a _) (a _) (a _) (a _) (a _) rfl rfl rfl rfl rfl rfl (by simp only[E1];omega) e4 e5 b;simp only[rA];exact h
theorem AZ(w:Ub)(q:n<18446744073709551616):
 Calls prog 108 #[.int .u64 (n:Int)] w λo x=>o=.returned (Hp (NZ 8 n:Nat))/\x=w:=by
 have m:Wr 85 8=6148914691236517205:=vY;have m1:Wr 51 8=3689348814741910323:=vY;have m2:Wr 15 8=1085102592571150095:=vY;have s1:=wV 8 n;have s2:=wP 8<|E1 f1 8 n;have s3:=wR 8 (E1 f2 8<|E1 f1 8 n) (by rw[map_map kT];exact vy 8 n);rw[m]at s1;rw[m1]at s2;rw[m2,map_map kT,map_map λB h=>rq _<|kT _ h,tP Gt]at s3;have i:E1 f1 8 n<18446744073709551616:=oZ kT 8 n;have j:E1 f2 8 (E1 f1 8 n)<18446744073709551616:=oZ rq 8 _;have u:E1 Zc 8 n<18446744073709551616:=oZ (λB h=>iC (uo B h) vY) 8 n;let⟨r,s,G,t⟩:=CH n rfl rfl rfl;have k:E1 f2 8 (E1 f1 8 n)/16+E1 f2 8 (E1 f1 8 n)<18446744073709551616:=by
  have l:=wD (f:=λB=>f2<|f1 B) Fp 8 n;rw[map_map kT];rw[show Wr 68 8=4919131752989213764 by decide]at l;omega
 rw[map_map kT]at j s2 k;generalize E1 f1 8 n=e at*;generalize E1 (λB=>f2<|f1 B) 8 n=d at*;generalize E1 Zc 8 n=a at*;generalize NZ 8 n=v at*;have W:∀f:Nat,f<18446744073709551616->IntKind.u64.wrap (f:Int)=(f:Int):=λf l=>by rw[iV];exact mB oM oM
 have y:IntKind.u64.wrap (bits .and .u64 ((n:Int)/2) 6148914691236517205+bits .and .u64 (n:Int) 6148914691236517205)=(e:Int):=by
  have q1:=jH (n/2) 6148914691236517205 oM vY;have q2:=jH n 6148914691236517205 q vY;rw[show((n:Int)/2)=((n/2:Nat):Int) by omega];rw[show(6148914691236517205:Int)=((6148914691236517205:Nat):Int)from rfl,q1,q2,<-kB,s1,W _ i]
 have b2:IntKind.u64.wrap (bits .and .u64 ((e:Int)/4) 3689348814741910323+bits .and .u64 (e:Int) 3689348814741910323)=(d:Int):=by
  have q1:=jH (e/4) 3689348814741910323 oM vY;have q2:=jH e 3689348814741910323 i vY;rw[show((e:Int)/4)=((e/4:Nat):Int) by omega];rw[show(3689348814741910323:Int)=((3689348814741910323:Nat):Int)from rfl,q1,q2,<-kB,s2,W _ j]
 have z:bits .and .u64 ((d:Int)/16+(d:Int)) 1085102592571150095=(a:Int):=by
  have p:=k;have q1:=jH (d/16+d) 1085102592571150095 p vY;rw[show((d:Int)/16+(d:Int))=((d/16+d:Nat):Int) by omega];rw[show(1085102592571150095:Int)=((1085102592571150095:Nat):Int)from rfl,q1,s3]
 have A:IntKind.u64.wrap ((a:Int)+(a:Int)/256)=((a+a/256:Nat):Int):=by
  rw[show((a:Int)+(a:Int)/256)=((a+a/256:Nat):Int) by omega];exact W _ oM
 generalize a+a/256=b at*;have C:IntKind.u64.wrap ((b:Int)+(b:Int)/65536)=((b+b/65536:Nat):Int):=by
  rw[show((b:Int)+(b:Int)/65536)=((b+b/65536:Nat):Int) by omega];exact W _ oM
 generalize b+b/65536=c at*;have D:IntKind.u64.wrap ((c:Int)+(c:Int)/4294967296)=((c+c/4294967296:Nat):Int):=by
  rw[show((c:Int)+(c:Int)/4294967296)=((c+c/4294967296:Nat):Int) by omega];exact W _ oM
 generalize c+c/4294967296=g at*;have E:bits .and .i64 (g:Int) 127=(v:Int):=by rw[i64_and127];omega
 have F:wrap64 (g:Int)=(g:Int):=by simp[wrap64];omega
 go_in
 go_wp2;go_ret;exact⟨rfl,rfl⟩
def NO(W:Wk)(K:Nat):Nat:=(List.range<|64*K).countP λx=>Xh W x
theorem Bh(W:Wk)(K:Nat):NO W (K+1)=NO W K+NZ 8 (W K):=by
 unfold NO NZ;have e:64*(K+1)=64*K+8*8:=oM;rw[e,lI,lN,List.countP_map];congr 1;apply kK;intro i a;have:i<64:=bE.1 a;have e1:(64*K+i)/64=K:=oM;have e2:(64*K+i)%64=i:=oM;simp only[Function.comp,Xh,e1,e2]
theorem TB(W:Wk)(K:Nat):NO W K<=64*K:=aJ (mW) sP
theorem P7(f:Nat)(m:f=47\/f=112)(g K C:Nat)(W:Wk)(w:Ub)(l:Hs (XA W))(c:Hs (Cp w g K C W))(hK:K<=1000):
 Calls prog f #[.agg #[Hl g K C]] w λe r=>e=.returned (Hp (NO W K:Nat))/\Below w.1.size w r:=by
 have n:=c.lt;obtain rfl|rfl:=m
 go_in
 rotate_left
 go_in
 rotate_left
 all_goals (
  go_wp2
  go_loopw [3,9] (λu i wr=>∃k:Nat,k<=K/\i=Hp k/\u=Hp (NO W k:Nat)/\Hs (Below w.1.size w wr)) λ_ i _=>K-(intOf i).toNat
  case atStart=>exact⟨0,aN,rfl,rfl,Xa<|Xb (Below.refl _ _) _⟩
  case round=>
   obtain⟨k,v,rfl,rfl,a⟩:=hrel;by_cases p:k<K
   .have t:=oB a (c.cell p) n;have q:=l k;have b:=Xa<|Bh W k;have x:=TB W k;have o:=TB W<|k+1;rw[b.o]at o;generalize NO W k=c0 at*;generalize W k=j at*;have h:=Xa<|AZ wr q;generalize NZ 8 j=y at*;go_wp2_with (go_at_call 108;refine h.mono ?_;rintro e s⟨rfl,d⟩;rw[d];clear d s)
    exact⟨⟨k+1,oM,gM,by rw[b.o];go_num,a⟩,by simp[intOf];omega⟩
   have e:k=K:=oM;subst e;go_wp2;go_ret
   exact⟨rfl,a⟩)
abbrev Kl:=@P7 47<|bC rfl
section
attribute [local go_sem] Oper.semAt_some
theorem qV:NO f n=(Mq f<|64*n).length:=by
 unfold NO Mq;rw[gK]
end
def Jq(a:Wi):Prop:=∀b,b<a.length->Re (X8 a) b
open Classical in
noncomputable def Ft(v:Int)(a:Wi):Int:=if XJ ⟨v,a⟩=false then 9 else if ¬Jq a then 10 else if ∃x,N4 a x then 11 else 0
theorem vC:∀(n:Nat)(F:Wa),(∀b,b<n->b∈F)->n<=F.length
 |0,_,_=>aN
 |n+1,F,h=>by
  have c:=vC n (F.erase n) λb d=>(iF oM).2 (h b oM);have a:=h n oM;rw[fP a]at c;have:=eJ a;omega
theorem uQ(g:UF x){F:Wa}(f:F.Nodup)(d:∀a,a∈F↔Re (X8 x) a):F.length<=x.length/\(F.length=x.length↔Jq x):=by
 have k:=YS f λa b=>g.re a<|(d a).1 b;refine⟨k,λh c e=>?_,λh=>?_⟩
 .apply dQ
  intro j;have l:=fL.2 ⟨λi=>j<|(d c).1 i,f⟩;have:=YS (n:=x.length) l (λa b=>by
   obtain rfl|b:=cH.1 b;·exact e
   exact g.re a<|(d a).1 b)
  rw[bA]at this;omega
 have:=vC x.length F λc e=>(d c).2 (h c e);omega
open Classical in
theorem Uh(h:XJ ⟨t,x⟩=false):Ft t x=9:=by unfold Ft;rw[aU h]
open Classical in
theorem t9(h:XJ ⟨t,x⟩=true)(k:¬Jq x):Ft t x=10:=by unfold Ft;rw[aM (by rw[h];decide),aU k]
open Classical in
theorem qg(h:XJ ⟨t,x⟩=true)(k:Jq x)(m:∃a,N4 x a):Ft t x=11:=by unfold Ft;rw[aM (by rw[h];decide),aM λq=>q k,aU m]
open Classical in
theorem uP(h:XJ ⟨t,x⟩=true)(k:Jq x)(m:¬∃a,N4 x a):Ft t x=0:=by unfold Ft;rw[aM (by rw[h];decide),aM λq=>q k,aM m]
section
structure Kb(B gv gh:Nat)(w w':Ub):Prop where
 os:w'.4=w.4
 tape:w'.2=w.2
 output:w'.5=w.5
 size:w.1.size<=w'.1.size
 block:∀k,k<B->k≠gv->k≠gh->w'.1[k]?=w.1[k]?
variable {w w' w1 w2: Ub} {B gv gh: Nat}
theorem Kb.trans(h:Kb B gv gh w w1)(k:Kb B gv gh w1 w2):Kb B gv gh w w2:=⟨k.1.trans h.1,k.2.trans h.2,k.3.trans h.3,aJ h.4 k.4,λi a b c=>(k.5 i a b c).trans (h.5 i a b c)⟩
theorem Kb.of_below(h:Below B w w1):Kb B gv gh w w1:=⟨h.1,h.2,h.3,h.4,λi a _ _=>h.5 i a⟩
theorem Kb.below{a:Nat}(h:Kb B gv gh w w1)(e:a<=B)(c:a<=gv)(d:a<=gh):Below a w w1:=⟨h.1,h.2,h.3,h.4,λi b=>h.5 i oM oM oM⟩
variable {t: Nat} {tv: Uj} {vals hp tr: Wc}
theorem Kb.drew(h:Kb B gv gh w w1):Kb B gv gh w w1.drew:=⟨h.1,h.2,h.3,h.4,h.5⟩
variable {r: Nat} {W: Ub}
theorem Hz{u:Bool}{x b a:Int}(h:Tp u x b a=true)(c:u=true):b<=x/\x<a:=by
 subst c;simpa [Tp]using h
theorem GW{n:Int}{k:Nat}{p:Ph}(h:ZX n k p=true):(0<=p.1/\p.1<n)/\p.2.length=k/\∀a∈p.2,0<=a/\a<n:=by
 simp only[ZX,Jt,bY,bD,dV]at h;let⟨b,⟨e,c⟩,d⟩:=h;exact⟨Hz b rfl,c,d⟩
end
structure QO where
 code:Int
 value:Int
 steps:Nat
 tr:Wc
 hp:Wc
theorem yC(b:Int):∀(a:Wi)(i:Nat),∀y∈AQ a i b,(i:Int)<=y
 |[],_,y,h=>by simp[AQ]at h
 |x::a,i,y,h=>by
  rw[AQ,bU]at h;obtain h|h:=h
  .split at h;·simp at h;omega
   simp at h
  have:=yC b a (i+1) y h;omega
theorem r5(b:Int):∀(a:Wi)(i:Nat),(AQ a i b).Nodup
 |[],_=>by simp[AQ]
 |x::a,i=>by
  rw[AQ];split
  .rw[List.singleton_append,fL];exact⟨λh=>by have:=yC b a (i+1) _ h;omega,r5 b a<|i+1⟩
  rw[dR];exact r5 b a<|i+1
def de(a:Wc)(p:Int):Nat:=a.findIdx λy=>p==y
theorem pC(h:t∈l):de l t<l.length:=by
 unfold de;rw[List.findIdx_lt_length];exact⟨t,h,sP⟩
theorem yq(h:de l t<l.length):l[de l t]=t:=by
 have:=List.findIdx_getElem (p:=λy=>t==y) (xs:=l) (w:=h);simp only[iA]at this;exact this.symm
theorem Is(h:n<de l t)(a:n<l.length):(t==l[n])=false:=by
 have:=List.not_of_lt_findIdx (p:=λy=>t==y) (xs:=l) (i:=n) h;simpa using this
def E9(q:Nat)(phs:Za):List (Int×Int):=phs.map λa=>(a.1,a.2.getD q 0)
section
structure ag where
 is:Vr
 te:Yj
def jc(w:Ub)(L B b o:Nat)(x:ag):Prop :=
 ∃a c,w.cell? ⟨b,o,none⟩=some (.slice a x.1.length c)/\Va w b (o+1) x.2/\YY w L B a x.1
def d7(w:Ub)(L B:Nat)(c:Uy)(a:List ag):Prop :=
 ∀i (h:i<a.length),∃b o,c=some ⟨b,o,none⟩/\(L<=b/\b<B)/\jc w L B b (o+i*5) a[i]
variable {w w': Ub} {L B: Nat}
theorem jc.keepS{b o:Nat}{x:ag}(h:jc w L B b o x)(k:YA L B w w')(e:w'.1[b]?=w.1[b]?):jc w' L B b o x:=by
 let⟨f,g,a,c,d⟩:=h;exact⟨f,g,(Xc e).trans a,c.keepS e,d.keepS k⟩
theorem d7.keepS{b:Uy}{d:List ag}(h:d7 w L B b d)(k:YA L B w w'):d7 w' L B b d:=λi g=>by
 let⟨c,o,e,a,f⟩:=h i g;exact⟨c,o,e,a,f.keepS k<|k c a.1 a.2⟩
theorem jc.keep{b o:Nat}{x:ag}(h:jc w L B b o x)(k:Below B w w')(a:b<B):jc w' L B b o x:=h.keepS (YA.of_below k) (k.5 b a)
theorem d7.keep{a:Uy}{b:List ag}(h:d7 w L B a b)(k:Below B w w'):d7 w' L B a b:=h.keepS<|YA.of_below k
theorem jc.mono{b a:Nat}{c o:Nat}{x:ag}(h:jc w L B c o x)(l:b<=L)(k:B<=a):jc w b a c o x:=by
 let⟨g,i,d,e,f⟩:=h;exact⟨g,i,d,e,f.mono l k⟩
theorem d7.mono{b a:Nat}{c:Uy}{d:List ag}(h:d7 w L B c d)(l:b<=L)(k:B<=a):d7 w b a c d:=λj i=>by
 let⟨e,o,f,m,g⟩:=h j i;exact⟨e,o,f,oM,g.mono l k⟩
def km(a:List ag):Prop:=∀x∈a,x.1.length<=1048576
end
section
attribute [local go_sem ↓] Go.wp_at_zero Go.wp_at_succ
def ZP(a:Vr):Wo:=a.flatMap λx=>[.int .i64 x.1,.int .i64 x.2,.int .i64 x.a,.int .i64 x.b,.int .i64 x.5]
theorem rM{x:Yg}{a:Vr}:ZP (x::a)=[Hp x.1,Hp x.2,Hp x.a,Hp x.b,Hp x.5]++ZP a:=rfl
theorem j7(a b:Vr):ZP (a++b)=ZP a++ZP b:=by simp[ZP]
theorem iR:∀a:Vr,(ZP a).length=a.length*5
 |[]=>rfl
 |x::a=>by rw[rM,aQ,iR a];simp;omega
theorem l7:∀(b:Vr),∀u∈ZP b,u.oneCell'=true:=λb u c=>by
 let⟨x,_,a⟩:=bV.1 c;simp at a;obtain rfl|rfl|rfl|rfl|rfl:=a<;>rfl
theorem RB:(prog.info? 66).map (λi=>(i.8,i.3,i.4))=some (some<|.agg #[Hp 0,Hp 0,Hp 0,Hp 0,Hp 0],5,40):=vZ
theorem m7(w:Ub):(w.alloc<|.cells #[] 66).ownsRow w.1.size 66 5 (.slice (some ⟨w.1.size,0,none⟩) 0 0) 0 (ZP []):=by
 have:=eI (base:=w.1.size) (e:=66) (size:=5) w #[] 0 sP sP rfl;simpa [ZP]using this
theorem sK{a:Wy}(h:n<a.length):a[n].1∈ai a:=aY.2 ⟨a[n],aH h,rfl⟩
theorem sN{a:Wy}(h:t∈ai a):∃i,∃h:i<a.length,a[i].1=t:=by
 let⟨m,c,e⟩:=aY.1 h;obtain⟨i,b,rfl⟩:=bR c;exact⟨i,b,e⟩
theorem Ip{a:Wy}(h:b9 a)(c:n<a.length)(d:m<a.length)(e:a[n].1=a[m].1):n=m:=by
 have g:(a.map (·.1)).Pairwise (·≠·):=h.1;have f:=gY.1 g;obtain b|b|b:=mA n m;·exact(f n m (by simpa using c) (by simpa using d) b (by simp[e])).elim
 .exact b
 exact(f m n (by simpa using d) (by simpa using c) b (by simp[e])).elim
theorem yt{a:Wy}(h:b9 a)(b:n<a.length):pz a a[n].1=a[n].2:=by
 unfold pz;have:a.find? (λm=>m.1==a[n].1)=some a[n]:=by
  rw[List.find?_eq_some_iff_getElem];refine⟨sP,n,b,rfl,λj c=>?_⟩;have:a[j].1≠a[n].1:=λe=>by have:=Ip h oM b e;omega
  simpa using this
 rw[this];rfl
theorem I6{b:Wy}(h:b9 b)(c:n<b.length):b.eraseIdx n=ff b b[n].1:=by
 have p:∀(a:Wy)(t:Int),(ai a).Nodup->∀n (h:n<a.length),a[n].1=t->a.eraseIdx n=ff a t:=by
  intro a t
  induction a with
  |nil=>intro _ n h;exact absurd h sP
  |cons m a o=>
   intro j n c e;have k:(ai a).Nodup:=(fL.1 j).2;have i:m.1∉ai a:=(fL.1 j).1;cases n with
   |zero=>
    have f:m.1=t:=e;unfold ff;rw[List.eraseIdx_cons_zero,List.filter_cons_of_neg<|by simp[f]];refine(List.filter_eq_self.2 λq hq=>?_).symm;have:q.1≠t:=λe2=>i (by rw[f,<-e2];exact aY.2 ⟨q,hq,rfl⟩);simpa using this
   |succ n=>
    have g:n<a.length:=by simpa using c
    have d:a[n].1=t:=e;have l:m.1≠t:=λe2=>i (by rw[e2,<-d];exact sK g);unfold ff;rw[List.eraseIdx_cons_succ,List.filter_cons_of_pos (by simpa using l),o k n g d];rfl
 exact p b _ h.1 n c rfl
theorem LN{a:Wy}(h:b9 a)(b:n<a.length)(e:an a a[n].1=false)(g:∀q (_:q<a.length),an a a[q].1=false->a[n].1<=a[q].1):dm a=(N3 a[n],a.eraseIdx n):=by
 have f:bj (fo a)=some a[n].1:=pF (oE.2 ⟨sK b,e⟩) (λt i=>by
  let⟨c,d⟩:=oE.1 i;obtain⟨q,hq,rfl⟩:=sN c;exact g q hq d)
 unfold dm;rw[f];dsimp only;rw[yt h b,I6 h b]
theorem LJ{a:Wy}(f:n<a.length)(e:∀q (_:q<a.length),an a a[q].1=true)(i:∀q (_:q<a.length),a[n].1<=a[q].1):dm a=(⟨12,0,a[n].1,0,0⟩,scratch a a[n].1):=by
 have g:bj (fo a)=none:=lj.2 (List.eq_nil_iff_forall_not_mem.2 (λt b=>by
  let⟨d,c⟩:=oE.1 b;obtain⟨q,hq,rfl⟩:=sN d;rw[e q hq]at c;cases c))
 have h:bj (ai a)=some a[n].1:=pF (sK f) (λt b=>by
  obtain⟨q,hq,rfl⟩:=sN b;exact i q hq)
 unfold dm;rw[g,h]
theorem pU(w:Ub)(a b c d e:Int):(w.alloc<|.cells #[.int .i64 a,.int .i64 b,.int .i64 c,.int .i64 d,.int .i64 e] 66).ownsRow w.1.size 66 5 (.slice (some ⟨w.1.size,0,none⟩) 1 1) 1 (ZP [⟨a,b,c,d,e⟩]):=by
 have:=eI (base:=w.1.size) (e:=66) (size:=5) w #[Hp a,Hp b,Hp c,Hp d,Hp e] 1 sP vY rfl;simpa [ZP]using this
theorem pR(h:w.ownsRow n m k a B y)(b:a≠.slice none 0 0):∃g c,a=.slice (some ⟨g,0,none⟩) B c/\(n<=g/\g<w.1.size)/\B<=c:=by
 obtain⟨m,_⟩|h:=Vc h;·exact absurd m b
 exact h
structure nU(xs:Wy)(j:Nat)(be:Int)(lo:Nat):Prop where
 lo:lo<xs.length/\∀q (h:q<xs.length) (h2:lo<xs.length),q<j->xs[lo].1<=xs[q].1
 be:(be=-1/\∀q (h:q<xs.length),q<j->an xs xs[q].1=true)\/∃b:Nat,be=b/\b<j/\∃h:b<xs.length,an xs xs[b].1=false/\∀q (_:q<xs.length),q<j->an xs xs[q].1=false->xs[b].1<=xs[q].1
theorem nU.next{a:Wy}(l:nU a n t m)(h:n<a.length)(o:∀s:m<a.length,(a[n].1<a[m].1/\k=n)\/(¬a[n].1<a[m].1/\k=m))(p:(an a a[n].1=true/\T=t)\/(an a a[n].1=false/\((t=-1/\T=n)\/∃b:Nat,t=b/\∀d:b<a.length,(a[n].1<a[b].1/\T=n)\/(¬a[n].1<a[b].1/\T=b)))):nU a (n+1) T k:=by
 let⟨⟨g,i⟩,d⟩:=l;constructor
 .rcases o g with⟨q1,rfl⟩|⟨q1,rfl⟩
  .refine⟨h,λq hq _ f=>?_⟩;by_cases e:q=k;·subst e;exact Int.le_refl _
   have:=i q hq g oM;omega
  refine⟨g,λq hq _ f=>?_⟩;by_cases e:q=n;·subst e;omega
  exact i q hq g oM
 obtain⟨r,rfl⟩|⟨r,⟨rfl,rfl⟩|⟨b,rfl,hb2⟩⟩:=p
 .rcases d with⟨e,d⟩|⟨b,e,hbj,hbl,hbf,hbm⟩
  .refine bC ⟨e,λq hq f=>?_⟩;by_cases e2:q=n;·subst e2;exact r
   exact d q hq oM
  refine aZ ⟨b,e,oM,hbl,hbf,λq hq f c=>?_⟩;by_cases e2:q=n;·subst e2;rw[r]at c;cases c
  exact hbm q hq oM c
 .rcases d with⟨_,d⟩|⟨b,e,_⟩
  .refine aZ ⟨n,rfl,oM,h,r,λq hq f c=>?_⟩;by_cases e2:q=n;·subst e2;exact Int.le_refl _
   rw[d q hq oM]at c;cases c
  omega
 obtain⟨e,_⟩|⟨b',e,hbj,hbl,hbf,hbm⟩:=d;·omega
 have j:b'=b:=oM;subst j;obtain⟨q1,rfl⟩|⟨q1,rfl⟩:=hb2 hbl
 .refine aZ ⟨n,rfl,oM,h,r,λq hq f c=>?_⟩;by_cases e2:q=n;·subst e2;exact Int.le_refl _
  have:=hbm q hq oM c;omega
 refine aZ ⟨b',rfl,oM,hbl,hbf,λq hq f c=>?_⟩;by_cases e2:q=n;·subst e2;omega
 exact hbm q hq oM c
theorem Lt:∀(k:Nat)(bd:Uy)(n c:Nat)(a:Wy)(b0 a8:Nat)(w:Ub)(_:Hs (gj w b0 a8 bd a))(_:Hs (n=a.length))(_:Hs (b9 a))(_:n<=64)(_:k<=128)(_:a8<=w.1.size),
 Calls prog 134 #[.slice bd n c,Hp k] w λe g=>∃ab,e=.returned ab/\ab≠Hq/\Below w.1.size w g/\g.ownsRow w.1.size 66 5 ab (ax k a).length (ZP<|ax k a):=by
 obtain⟨i0,bh,bp,bq,br⟩:=fX RB;intro k
 induction k with
 |zero=>
  intro bd n c a b0 a8 w ha J bo hn hk hB;by_cases bn:n=0
  .subst bn
   go_in
   go_wp2;go_ret;exact⟨_,rfl,sP,Xb (Below.refl _ _) _,m7 w⟩
  have cn:¬((n:Int)=0):=oM
  go_in
  go_wp2;go_ret;exact⟨_,rfl,sP,Xb (Below.refl _ _) _,m7 w⟩
 |succ k ih=>
  intro bd n c a b0 a8 w ha J bo hn hk hB;by_cases bn:n=0
  .have cs:a=[]:=iE<|oN J.o;subst cs bn
   go_in
   go_wp2;go_ret;exact⟨_,rfl,sP,Xb (Below.refl _ _) _,by rw[py];exact m7 w⟩
  have cn:¬((n:Int)=0):=oM;have c6:((n:Int)==0)=false:=by simpa using cn
  have cz:((k:Int)+1==0)=false:=by simp;omega
  have cm:a≠[]:=λe=>by subst e;exact bn J
  have M:=Xa<|px k cm;have a0:=Xa bo.step;have IH:=Xa ih;clear ih cm
  go_in
  go_wp2
  go_loopw [5,6,7] (λub ul ui wr=>∃(j:Nat)(be:Int)(p:Nat),j<=n/\ui=Hp j/\ub=Hp be/\ul=Hp p/\Hs (Below w.1.size w wr)/\Hs (nU a j be p)) λ_ _ ui _=>n-(intOf ui).toNat
  case atStart=>exact⟨0,-1,0,aN,rfl,rfl,rfl,Xa<|Below.refl _ _,Xa ⟨⟨oN J.o,λq _ _ hq=>absurd hq oM⟩,bC ⟨rfl,λq _ hq=>absurd hq oM⟩⟩⟩
  obtain⟨j,be,p,Z,rfl,rfl,rfl,i,G⟩:=hrel;by_cases bm:j<n
  .have bi:j<a.length:=oN J.o;obtain⟨bl,-⟩:=G.1;have cl:p<n:=oN J.o
   obtain⟨B,D,rfl,ce,ap,-⟩:=ha j bi;have aq:∀q,q<n->∃hq:q<a.length,∀W,Below w.1.size w W->W.cell? (Hk B<|D+q*2)=some (Hp a[q].1):=λq hq=>by
    have a6:q<a.length:=oN J.o;obtain⟨b',o',e,_,h1,_⟩:=ha q a6;cases e;exact⟨a6,λW k=>oB k h1 oM⟩
   obtain⟨_,ej⟩:=aq j bm;obtain⟨_,el⟩:=aq p cl;have e0:=ej wr i;have e1:=el wr i;have ca:Hs (∀W,Below w.1.size w W->Calls prog 169 #[Hm B D n c,Hp j,Hp a[j].1] W λe g=>e=.returned (.bool (an a a[j].1))/\g=W):=Xa (λW k=>JR c a[j].1 (Xa<|ha.keep (k.mono hB)) J oM bm (Xa λq hq e=>by subst e;exact bo.4 _<|aH hq));clear ap;obtain⟨rfl,-⟩|⟨f,rfl,hbbj,hbbl,-⟩:=G.2
   .have af:Hs (∀(o:Int)(R:Nat),((a[j].1<a[p].1/\R=j)\/(¬a[j].1<a[p].1/\R=p))->((an a a[j].1=true/\o=-1)\/(an a a[j].1=false/\o=j))->nU a (j+1) o R):=Xa (λo R h1 h2=>G.next bi (λ_=>h1) (by
     obtain N|⟨N,h'⟩:=h2;·exact bC N
     exact aZ ⟨N,bC ⟨rfl,h'⟩⟩))
    clear aq ej el G;generalize a[j].1=S at*;generalize a[p].1=tl at*;by_cases hl:S<tl;have T:=Xa λo=>af o j<|bC ⟨hl,rfl⟩;rotate_left;have T:=Xa λo=>af o p<|aZ ⟨hl,rfl⟩;rotate_left
    all_goals (
     clear af;go_wp2;go_region;go_wp2;refine Y7 (λg=>g.cell? (Hk B<|D+j*2)=some (Hp S)) λhHeld=>?_;refine Xn 0 ?_;refine Xn 1 ?_;refine Xn 2 ?_;refine Xn 3 ?_;refine Xn 4 ?_;refine Xn 5 ?_;refine Xn 6 ?_;refine Xs 7 λK hK=>?_;go_simp
     go_at_call 169
     refine(ca _ i.drew.drew).mono ?_;rintro e w2⟨rfl,rfl⟩;refine hK _ _ kP λhHeld=>?_;clear hK;cases hr:an a S with
     |true=>
      have L:=Xa<|T.o (-1) (bC ⟨hr,rfl⟩);clear hr;refine Xn 8 ?_;refine Xn 9 ?_;refine KH 10 ?_;refine KH 11 ?_;refine KH 12 ?_;refine KH 13 ?_;refine KH 14 ?_;refine KH 15 ?_;refine KH 16 ?_;refine KH 17 ?_;refine KH 18 ?_;refine KH 19 ?_;refine KH 20 ?_;refine KH 21 ?_;refine KH 22 ?_;refine KH 23 ?_;refine KH 24 ?_;refine Xn 25 ?_;refine Yq ?_;go_wp2;refine⟨?_,?_⟩;rotate_left;·simp[intOf];omega
      (repeat apply gP)
      refine⟨?_,rfl⟩;exact⟨j+1,(-1),_,oM,gM,rfl,rfl,Xa i.drew.drew,L⟩
     |false=>
      have L:=Xa<|T.o j (aZ ⟨hr,rfl⟩);clear hr;refine Xn 8 ?_;refine Xn 9 ?_;refine Xn 10 ?_;refine Xn 11 ?_;refine Xn 12 ?_;refine KH 13 ?_;refine KH 14 ?_;refine KH 15 ?_;refine KH 16 ?_;refine KH 17 ?_;refine KH 18 ?_;refine KH 19 ?_;refine KH 20 ?_;refine KH 21 ?_;refine KH 22 ?_;refine KH 23 ?_;refine Xn 24 ?_;refine Xn 25 ?_;refine Yq ?_;go_wp2;refine⟨?_,?_⟩;rotate_left;·simp[intOf];omega
      (repeat apply gP)
      refine⟨?_,rfl⟩;exact⟨j+1,j,_,oM,gM,rfl,rfl,Xa i.drew.drew,L⟩)
   have af:Hs (∀(o:Int)(R:Nat),((a[j].1<a[p].1/\R=j)\/(¬a[j].1<a[p].1/\R=p))->((an a a[j].1=true/\o=f)\/(an a a[j].1=false/\((a[j].1<a[f].1/\o=j)\/(¬a[j].1<a[f].1/\o=f))))->nU a (j+1) o R):=Xa (λo R h1 h2=>G.next bi (λ_=>h1) (by
    obtain N|⟨N,h'⟩:=h2;·exact bC N
    exact aZ ⟨N,aZ ⟨f,rfl,λ_=>h'⟩⟩))
   obtain⟨_,eb⟩:=aq f oM;have e2:=eb wr i;have cf:f<n:=oM;clear aq ej el eb G;generalize a[j].1=S at*;generalize a[p].1=tl at*;generalize a[f].1=tb at*;by_cases hl:S<tl;have T:=Xa λo=>af o j<|bC ⟨hl,rfl⟩;rotate_left;have T:=Xa λo=>af o p<|aZ ⟨hl,rfl⟩;rotate_left
   all_goals (
    clear af;go_wp2;go_region;go_wp2;refine Y7 (λg=>g.cell? (Hk B<|D+j*2)=some (Hp S)/\g.cell? (Hk B<|D+f*2)=some (Hp tb)) λhHeld=>?_;refine Xn 0 ?_;refine Xn 1 ?_;refine Xn 2 ?_;refine Xn 3 ?_;refine Xn 4 ?_;refine Xn 5 ?_;refine Xn 6 ?_;refine Xs 7 λK hK=>?_;go_simp
    go_at_call 169
    refine(ca _ i.drew.drew).mono ?_;rintro e w2⟨rfl,rfl⟩;refine hK _ _ kP λhHeld=>?_;clear hK;cases hr:an a S with
    |true=>
     have L:=Xa<|T.o f (bC ⟨hr,rfl⟩);clear hr;refine Xn 8 ?_;refine Xn 9 ?_;refine KH 10 ?_;refine KH 11 ?_;refine KH 12 ?_;refine KH 13 ?_;refine KH 14 ?_;refine KH 15 ?_;refine KH 16 ?_;refine KH 17 ?_;refine KH 18 ?_;refine KH 19 ?_;refine KH 20 ?_;refine KH 21 ?_;refine KH 22 ?_;refine KH 23 ?_;refine KH 24 ?_;refine Xn 25 ?_;refine Yq ?_;go_wp2;refine⟨?_,?_⟩;rotate_left;·simp[intOf];omega
     (repeat apply gP)
     refine⟨?_,rfl⟩;exact⟨j+1,f,_,oM,gM,rfl,rfl,Xa i.drew.drew,L⟩
    |false=>
     by_cases hs:S<tb
     .have L:=Xa<|T.o j (aZ ⟨hr,bC ⟨hs,rfl⟩⟩);clear hr;refine Xn 8 ?_;refine Xn 9 ?_;refine Xn 10 ?_;refine Xn 11 ?_;refine Xn 12 ?_;refine Xn 13 ?_;refine Xn 14 ?_;refine Xn 15 ?_;refine Xn 16 ?_;refine Xn 17 ?_;refine Xn 18 ?_;refine Xn 19 ?_;refine Xn 20 ?_;refine Xn 21 ?_;refine Xn 22 ?_;refine Xn 23 ?_;refine Xn 24 ?_;refine Xn 25 ?_;refine Yq ?_;go_wp2;refine⟨?_,?_⟩;rotate_left;·simp[intOf];omega
      (repeat apply gP)
      refine⟨?_,rfl⟩;exact⟨j+1,j,_,oM,gM,rfl,rfl,Xa i.drew.drew,L⟩
     replace hs:tb<=S:=oM;have L:=Xa<|T.o f (aZ ⟨hr,aZ ⟨oM,rfl⟩⟩);clear hr;refine Xn 8 ?_;refine Xn 9 ?_;refine Xn 10 ?_;refine Xn 11 ?_;refine Xn 12 ?_;refine Xn 13 ?_;refine Xn 14 ?_;refine Xn 15 ?_;refine Xn 16 ?_;refine Xn 17 ?_;refine Xn 18 ?_;refine Xn 19 ?_;refine Xn 20 ?_;refine Xn 21 ?_;refine Xn 22 ?_;refine Xn 23 ?_;refine Xn 24 ?_;refine Xn 25 ?_;refine Yq ?_;go_wp2;refine⟨?_,?_⟩;rotate_left;·simp[intOf];omega
     (repeat apply gP)
     refine⟨?_,rfl⟩;exact⟨j+1,f,_,oM,gM,rfl,rfl,Xa i.drew.drew,L⟩)
  have cx:j=n:=oM;have bi:j=a.length:=oN J.o;have ct:=i.4;obtain⟨rfl,hall⟩|⟨f,rfl,hbbj,hbbl,hbf,hbm⟩:=G.2
  .have bl:=G.1.1
   have cl:p<n:=oM;have a1:=Xa (LJ bl (λq hq=>hall q hq oM) λq hq=>G.1.2 q hq bl oM);obtain⟨B,D,rfl,ce,ap,-⟩:=ha p bl;have e0:=(XU i oM).trans ap;rw[a1.o]at M a0;clear hall G ap a1;generalize a[p].1=r at*;have cp:(k:Int)+1-1=k:=oM;have bc:Hs (IntKind.i64.wrap (k:Int)=(k:Int)):=Xa (by simp[IntKind.wrap,IntKind.signed,IntKind.bits];omega);have aq:Hs (∀q,q<n->∃hq:q<a.length,∀W,Below wr.1.size wr W->W.cell? (Hk B<|D+q*2)=some (Hp a[q].1)/\W.cell? (Hk B<|D+q*2+1)=some (Hp a[q].2)):=Xa (λq hq=>by
    have a6:q<a.length:=oM;obtain⟨b',o',e,_,h1,h2⟩:=ha q a6;cases e;exact⟨a6,λW k=>⟨oB k ((XU i oM).trans h1) oM,oB k ((XU i oM).trans h2) oM⟩⟩)
   obtain⟨j0,cg,ch,ci,cj⟩:=fX RA;generalize wr=wo at*;go_wp2;clear e0
   go_loopw [9,10] (λab u wr=>∃q:Nat,q<=n/\u=Hp q/\Hs (Below wo.1.size wo wr)/\Hs (wr.ownsRow wo.1.size 144 2 ab (scratch (a.take q) r).length (Ng<|scratch (a.take q) r))) λ_ u _=>n-(intOf u).toNat
   case atStart=>exact⟨0,aN,rfl,Xa<|Xb (Below.refl _ _) _,Xa<|by rw[lK];exact sJ wo⟩
   obtain⟨q,hq,rfl,ac,U⟩:=hrel;have c8:=ac.4;by_cases bm:q<n
   .obtain⟨cq,hc⟩:=aq q bm
    obtain⟨e0,e1⟩:=hc wr ac;have HT:Hs (scratch (a.take<|q+1) r=scratch (a.take q) r++[if a[q].2=r then ⟨a[q].1,-1⟩else a[q]]):=Xa (by
     rw[bN cq];exact bG)
    have HL:Hs ((scratch (a.take q) r).length<=64):=Xa (by simp[scratch];omega);clear hc;generalize hm:a[q]=b7 at*;obtain⟨t,x⟩:=b7;dsimp only at*;clear hm;generalize scratch (a.take q) r=d at*;by_cases Y:x=r
    .rw[aU Y]at HT;subst Y;go_wp2_with (at_builtin;refine bT _ rfl _ _ 142 rfl wo.1.size 144 j0 (.agg #[Hp 0,Hp 0]) 2 16 underlying142 cg ch ci cj rfl vY _ _ _ rfl (U.alloc _) (Hk wr.1.size 0) 1 1 [Hp t,Hp (-1)] rfl rfl ?c1 ?c2 ?c3 ?c4 ?c5 ?_)
     case c1=>exact ng _
     case c2=>intro u hu;simp at hu;obtain rfl|rfl:=hu<;>rfl
     case c3=>have:=HL.o;unfold maxLen;omega
     case c4=>have:=HL.o;omega
     case c5=>simp;omega
     intro v1 w1 a5 a2 b6 b4;have bx:Hs (w1.ownsRow wo.1.size 144 2 v1 (scratch (a.take<|q+1) x).length (Ng<|scratch (a.take<|q+1) x)):=Xa (by
      rw[HT.o,nf,aQ];exact a5)
     have bt:=Xa (Xy ((ac).alloc oM _) a2 (U.alloc _) aA (by simp;omega));clear a5 a2 b6 b4 U ac HT;go_wp2;exact⟨⟨q+1,oM,gM,bt,bx⟩,by simp[intOf];omega⟩
    rw[aM Y]at HT;have cv:(x==r)=false:=by simpa using Y
    clear Y;go_wp2_with (at_builtin;refine bT _ rfl _ _ 142 rfl wo.1.size 144 j0 (.agg #[Hp 0,Hp 0]) 2 16 underlying142 cg ch ci cj rfl vY _ _ _ rfl (U.alloc _) (Hk wr.1.size 0) 1 1 [Hp t,Hp x] rfl rfl ?c1 ?c2 ?c3 ?c4 ?c5 ?_)
    case c1=>exact ng _
    case c2=>intro u hu;simp at hu;obtain rfl|rfl:=hu<;>rfl
    case c3=>have:=HL.o;unfold maxLen;omega
    case c4=>have:=HL.o;omega
    case c5=>simp;omega
    intro v1 w1 a5 a2 b6 b4;have bx:Hs (w1.ownsRow wo.1.size 144 2 v1 (scratch (a.take<|q+1) r).length (Ng<|scratch (a.take<|q+1) r)):=Xa (by
     rw[HT.o,nf,aQ];exact a5)
    have bt:=Xa (Xy ((ac).alloc oM _) a2 (U.alloc _) aA (by simp;omega));clear a5 a2 b6 b4 U ac HT;go_wp2;exact⟨⟨q+1,oM,gM,bt,bx⟩,by simp[intOf];omega⟩
   have c7:q=n:=oM;have b8:=Xa (by have:=U.o;rwa[aW oM]at this);have a7:(scratch a r).length<=64:=by simp[scratch];omega
   clear U;generalize scratch a r=d at*;obtain⟨a4,k4,cr,-,ck,aa⟩:=m9 b8;have az:=Xa aa;subst cr;clear aa b8;have co:=oC k d;go_wp2_with fail
   have F:=IH a4 d.length k4 d _ _ (wr.alloc<|.cells #[Hp 12,Hp 0,Hp r,Hp 0,Hp 0] 66) (Xa<|az.keepS λq _ q2=>Below.heap_alloc _ _ _ q2) (Xa rfl) a0 a7 oM sP
   with_reducible refine F.mono ?_
   clear F;rintro e w7⟨v7,rfl,ar,l,z⟩;obtain⟨X,k7,rfl,bf,b5⟩:=pR z ar;have s7:=l.4;simp at s7;have al:=Xa z;have cb:Hs (w7.ownsRow w.1.size 66 5 (Hl wr.1.size 1 1) 1 (ZP [⟨12,0,r,0,0⟩])):=Xa<|Zk (pj (pU wr 12 0 r 0 0) (l.5 _ sP)) oM;have b:=Xa<|Xg (Xg i ac |>.alloc oM _) l;clear z l;go_wp2_with (at_builtin;refine bT _ rfl _ _ 58 rfl w.1.size 66 i0 (.agg #[Hp 0,Hp 0,Hp 0,Hp 0,Hp 0]) 5 40 underlying58 bh bp bq br rfl vY _ _ _ rfl cb (Hk X 0) (ax k d).length k7 (ZP<|ax k d) rfl (iR _) ?c1 ?c2 ?c3 ?c4 ?c5 ?_)
   case c1=>exact λj u Z=>by rw[ja];exact Jj al Z
   case c2=>exact l7 _
   case c3=>unfold maxLen;omega
   case c4=>omega
   case c5=>omega
   intro v8 w8 I C H _;have ao:=Xa I;have ad:=Xa<|Xy b C cb aA oM;have aj:Hs (v8≠Hq):=Xa H;clear I C H;go_wp2;go_ret;refine⟨_,rfl,aj,ad,?_⟩;rw[M.o,show(⟨12,0,r,0,0⟩:Yg)::ax k d=[⟨12,0,r,0,0⟩]++ax k d from rfl,j7,aQ];exact ao
  have cf:f<n:=oM;have a1:=Xa (LN bo hbbl hbf λq hq N=>hbm q hq oM N);rw[a1.o]at M a0;obtain⟨B,D,rfl,ce,ap,cd⟩:=ha f hbbl;have e0:=(XU i oM).trans ap;have e1:=(XU i oM).trans cd;have cw:¬((f:Int)<0):=oM;clear hbf hbm G ap cd a1;generalize hm:a[f]=b7 at*;obtain⟨t,x⟩:=b7;dsimp only at*;clear hm;have cc:Hs (∀W,Below w.1.size w W->Calls prog 170 #[Hm B D n c,Hp f] W λe g=>∃ab,e=.returned ab/\Below W.1.size W g/\g.ownsRow W.1.size 144 2 ab (a.eraseIdx f).length (Ng<|a.eraseIdx f)):=Xa λW k=>IY c (Xa<|ha.keep (k.mono hB)) J hn cf (oN k.4);have a7:(a.eraseIdx f).length<=64:=aJ (List.length_eraseIdx_le _ _) oM;generalize a.eraseIdx f=d at*;have co:=oC k d;have bc:Hs (IntKind.i64.wrap (k:Int)=(k:Int)):=Xa (by simp[IntKind.wrap,IntKind.signed,IntKind.bits];omega);have cp:(k:Int)+1-1=k:=oM;by_cases Y:x<0;have HX:Hs (N3 ⟨t,x⟩=⟨13,t,0,0,0⟩):=Xa<|aU Y;rw[HX.o]at M;go_wp2
  focus go_region_held3 (λg=>g.cell? (Hk B<|D+f*2)=some (Hp t)/\g.cell? (Hk B<|D+f*2+1)=some (Hp x)) (go_keep) (fail)
  go_wp2;clear e0 e1;have b3:(λA:Ub=>Below w.1.size w A/\A.1.size=wr.1.size+1/\A.cell? (Hk wr.1.size 0)=some (Hp 13)/\A.cell? (Hk wr.1.size 1)=some (Hp t)/\A.cell? (Hk wr.1.size 2)=some (Hp 0)/\A.cell? (Hk wr.1.size 3)=some (Hp 0)/\A.cell? (Hk wr.1.size 4)=some (Hp 0)) ((wr.alloc<|.cells #[Hp 13,Hp t,Hp 0,Hp 0,Hp 0] 66).drew):=⟨((i.alloc oM _).drew),aO _ _,(by simp[go_sem]),(by simp[go_sem]),(by simp[go_sem]),(by simp[go_sem]),(by simp[go_sem])⟩;generalize (wr.alloc<|.cells #[Hp 13,Hp t,Hp 0,Hp 0,Hp 0] 66).drew=E at*;obtain⟨b1,z0,c0,c1,c2,c3,c4⟩:=b3;obtain⟨u,y,ba,P,Q⟩:∃u y:Int,Hs (ax (k+1) a=⟨u,t,y,0,0⟩ :: ax k d)/\E.cell? (Hk wr.1.size 0)=some (Hp u)/\E.cell? (Hk wr.1.size 2)=some (Hp y):=⟨_,_,M,c0,c2⟩;clear M c0 c2;rotate_left;have HX:Hs (N3 ⟨t,x⟩=⟨11,t,x,0,0⟩):=Xa<|aM (Int.not_lt.2 Y);rw[HX.o]at M;go_wp2
  focus go_region_held3 (λg=>g.cell? (Hk B<|D+f*2)=some (Hp t)/\g.cell? (Hk B<|D+f*2+1)=some (Hp x)) (go_keep) (fail)
  go_wp2;clear e0 e1;have b3:(λA:Ub=>Below w.1.size w A/\A.1.size=wr.1.size+1/\A.cell? (Hk wr.1.size 0)=some (Hp 11)/\A.cell? (Hk wr.1.size 1)=some (Hp t)/\A.cell? (Hk wr.1.size 2)=some (Hp x)/\A.cell? (Hk wr.1.size 3)=some (Hp 0)/\A.cell? (Hk wr.1.size 4)=some (Hp 0)) ((wr.alloc<|.cells #[Hp 11,Hp t,Hp x,Hp 0,Hp 0] 66).drew):=⟨((i.alloc oM _).drew),aO _ _,(by simp[go_sem]),(by simp[go_sem]),(by simp[go_sem]),(by simp[go_sem]),(by simp[go_sem])⟩;generalize (wr.alloc<|.cells #[Hp 11,Hp t,Hp x,Hp 0,Hp 0] 66).drew=E at*;obtain⟨b1,z0,c0,c1,c2,c3,c4⟩:=b3;obtain⟨u,y,ba,P,Q⟩:∃u y:Int,Hs (ax (k+1) a=⟨u,t,y,0,0⟩ :: ax k d)/\E.cell? (Hk wr.1.size 0)=some (Hp u)/\E.cell? (Hk wr.1.size 2)=some (Hp y):=⟨_,_,M,c0,c2⟩;clear M c0 c2;rotate_left
  all_goals (
   have s:=Xa b1;clear b1;refine Y7 (λg=>g.cell? (Hk wr.1.size 0)=some (Hp u)/\g.cell? (Hk wr.1.size 1)=some (Hp t)/\g.cell? (Hk wr.1.size 2)=some (Hp y)/\g.cell? (Hk wr.1.size 3)=some (Hp 0)/\g.cell? (Hk wr.1.size 4)=some (Hp 0)) λhHeld=>?_;refine Xn 0 ?_;refine Xn 2 ?_;refine Xn 3 ?_;refine Xn 5 ?_;refine Xn 6 ?_;refine eS (rs:=[1,4]) vZ sP ?_;refine(bQ rfl (λK hK=>?_) (bQ rfl (λK hK=>?_) dY))
   .skip
    go_simp;refine hK _ _ kP λhHeld=>?_;clear hK
    try simp only[xX]
    refine Xs 4 λK hK=>?_;go_simp;have K0:=(((Below.refl E.1.size E).drew).alloc aA (.cells #[Hp u,Hp t,Hp y,Hp 0,Hp 0] 66));refine(cc _<|Xg s K0).mono ?_;rintro e w4⟨v4,rfl,O,a3⟩;obtain⟨a4,k4,rfl,-,ck,aa⟩:=m9 a3;have s4:=O.4;have v:=Xg K0 O;have d0:=(XU v oM).trans P;have d1:=(XU v oM).trans c1;have d2:=(XU v oM).trans Q;have d3:=(XU v oM).trans c3;have d4:=(XU v oM).trans c4;have az:=Xa aa;have m:=Xa v;have bv:=Xa O;clear aa a3 O K0 v;refine hK _ _ kP λhHeld=>?_;clear hK;refine Xs 7 λK hK=>?_;go_simp;have V:=m.o;have F:=IH a4 d.length k4 d _ _ _ (Xa<|az.o) (Xa rfl) a0 a7 oM aA;rw[bc.o]
    with_reducible refine F.mono ?_
    clear F;rintro e w7⟨v7,rfl,ar,l,z⟩;obtain⟨X,k7,rfl,bf,b5⟩:=pR z ar;have s7:=l.4;have K7:=Xg V l;have f0:=(XU K7 oM).trans P;have f1:=(XU K7 oM).trans c1;have f2:=(XU K7 oM).trans Q;have f3:=(XU K7 oM).trans c3;have f4:=(XU K7 oM).trans c4;have al:=Xa z;have b:=Xa K7;have a9:=Xa l;clear z l V K7;refine hK _ _ kP λhHeld=>?_;clear hK;refine Xs 8 λK hK=>?_;refine d6 rfl (.tmp 134) (.tmp 140) 58 rfl w.1.size 66 i0 (.agg #[Hp 0,Hp 0,Hp 0,Hp 0,Hp 0]) 5 40 underlying58 bh bp bq br rfl vY (Hl E.1.size 1 1) 1 (ZP [⟨u,t,y,0,0⟩]) (by simp[Act.eval]) (Zk (pj (pU E.drew u t y 0 0) (a9.5 _ (by have:=bv.4;simp at this;show E.1.size<_;omega) |>.trans (bv.5 _ sP))) (by have:=s.4;show w.1.size<=E.1.size;omega)) (Hk X 0) (ax k d).length k7 (ZP<|ax k d) (by simp[Act.eval]) (iR _) (λj u Z=>by rw[ja];exact Jj al Z) (l7 _) (by unfold maxLen;omega) oM (by have:=s.4;have:=m.4;have:=b.4;(try simp);omega) ?_;rintro v8 w8 I C H -;have K8:=(Xg s<|b).grown C (by have:=s.4;have:=m.4;have:=b.4;(try simp);omega) (λq hq=>by cases hq;have:=s.4;have:=m.4;have:=b.4;(try dsimp only);omega);have h:=(C.5 wr.1.size (by(try simp);have:=b.4;omega) λe=>by injection e with e;have:=m.4;have:=b.4;simp at e;omega);have p0:=(Xc h).trans (oB (b) P oM);have p1:=(Xc h).trans (oB (b) c1 oM);have p2:=(Xc h).trans (oB (b) Q oM);have p3:=(Xc h).trans (oB (b) c3 oM);have p4:=(Xc h).trans (oB (b) c4 oM);have ad:=Xa K8;have ao:=Xa I;have aj:Hs (v8≠Hq):=Xa (λe=>by have:=(H.1 e).1;cases this);clear I C H K8 h;refine hK _ _ kP λhHeld=>?_;clear hK;refine Xs 9 λK hK=>?_;go_simp;refine hK _ _ kP λhHeld=>?_;clear hK;refine Yq ?_;go_wp2;go_ret;refine⟨_,rfl,aj,ad,?_⟩;rw[ba.o,show(⟨u,t,y,0,0⟩:Yg)::ax k d=[⟨u,t,y,0,0⟩]++ax k d from rfl,j7,aQ];exact ao
   skip
   go_simp;have K0:=((Below.refl E.1.size E).drew);refine(cc _<|Xg s K0).mono ?_;rintro e w4⟨v4,rfl,O,a3⟩;obtain⟨a4,k4,rfl,-,ck,aa⟩:=m9 a3;have s4:=O.4;have v:=Xg K0 O;have d0:=(XU v oM).trans P;have d1:=(XU v oM).trans c1;have d2:=(XU v oM).trans Q;have d3:=(XU v oM).trans c3;have d4:=(XU v oM).trans c4;have az:=Xa aa;have m:=Xa v;have bv:=Xa O;clear aa a3 O K0 v;refine hK _ _ kP λhHeld=>?_;clear hK
   try simp only[xX]
   refine eS (rs:=[1,7]) vZ sP ?_;refine(bQ rfl (λK hK=>?_) (bQ rfl (λK hK=>?_) dY))
   .skip
    go_simp;refine hK _ _ kP λhHeld=>?_;clear hK
    try simp only[xX]
    refine Xs 7 λK hK=>?_;go_simp;have V:=(m.alloc m.4<|.cells #[Hp u,Hp t,Hp y,Hp 0,Hp 0] 66);have F:=IH a4 d.length k4 d _ _ _ (Xa<|az.keepS (w':=w4.alloc<|.cells #[Hp u,Hp t,Hp y,Hp 0,Hp 0] 66) λq _ q2=>Below.heap_alloc _ _ _ q2) (Xa rfl) a0 a7 oM sP;rw[bc.o]
    with_reducible refine F.mono ?_
    clear F;rintro e w7⟨v7,rfl,ar,l,z⟩;obtain⟨X,k7,rfl,bf,b5⟩:=pR z ar;have s7:=l.4;have K7:=Xg V l;have f0:=(XU K7 oM).trans P;have f1:=(XU K7 oM).trans c1;have f2:=(XU K7 oM).trans Q;have f3:=(XU K7 oM).trans c3;have f4:=(XU K7 oM).trans c4;have al:=Xa z;have b:=Xa K7;have a9:=Xa l;clear z l V K7;refine hK _ _ kP λhHeld=>?_;clear hK;refine Xs 8 λK hK=>?_;refine d6 rfl (.tmp 134) (.tmp 140) 58 rfl w.1.size 66 i0 (.agg #[Hp 0,Hp 0,Hp 0,Hp 0,Hp 0]) 5 40 underlying58 bh bp bq br rfl vY (Hl w4.1.size 1 1) 1 (ZP [⟨u,t,y,0,0⟩]) (by simp[Act.eval]) (Zk (pj (pU w4 u t y 0 0) (a9.5 _ sP)) (oP s.4 m.4)) (Hk X 0) (ax k d).length k7 (ZP<|ax k d) (by simp[Act.eval]) (iR _) (λj u Z=>by rw[ja];exact Jj al Z) (l7 _) (by unfold maxLen;omega) oM (by have:=s.4;have:=m.4;have:=b.4;(try simp);omega) ?_;rintro v8 w8 I C H -;have K8:=(Xg s<|b).grown C (by have:=s.4;have:=m.4;have:=b.4;(try simp);omega) (λq hq=>by cases hq;have:=s.4;have:=m.4;have:=b.4;(try dsimp only);omega);have h:=(C.5 wr.1.size (by(try simp);have:=b.4;omega) λe=>by injection e with e;have:=m.4;have:=b.4;simp at e;omega);have p0:=(Xc h).trans (oB (b) P oM);have p1:=(Xc h).trans (oB (b) c1 oM);have p2:=(Xc h).trans (oB (b) Q oM);have p3:=(Xc h).trans (oB (b) c3 oM);have p4:=(Xc h).trans (oB (b) c4 oM);have ad:=Xa K8;have ao:=Xa I;have aj:Hs (v8≠Hq):=Xa (λe=>by have:=(H.1 e).1;cases this);clear I C H K8 h;refine hK _ _ kP λhHeld=>?_;clear hK;refine Xs 9 λK hK=>?_;go_simp;refine hK _ _ kP λhHeld=>?_;clear hK;refine Yq ?_;go_wp2;go_ret;refine⟨_,rfl,aj,ad,?_⟩;rw[ba.o,show(⟨u,t,y,0,0⟩:Yg)::ax k d=[⟨u,t,y,0,0⟩]++ax k d from rfl,j7,aQ];exact ao
   skip
   go_simp;have V:=m.o;have F:=IH a4 d.length k4 d _ _ _ (Xa<|az.o) (Xa rfl) a0 a7 oM aA;rw[bc.o]
   with_reducible refine F.mono ?_
   clear F;rintro e w7⟨v7,rfl,ar,l,z⟩;obtain⟨X,k7,rfl,bf,b5⟩:=pR z ar;have s7:=l.4;have K7:=Xg V l;have f0:=(XU K7 oM).trans P;have f1:=(XU K7 oM).trans c1;have f2:=(XU K7 oM).trans Q;have f3:=(XU K7 oM).trans c3;have f4:=(XU K7 oM).trans c4;have al:=Xa z;have b:=Xa K7;have a9:=Xa l;clear z l V K7;refine hK _ _ kP λhHeld=>?_;clear hK
   try simp only[xX]
   refine Xs 1 λK hK=>?_;go_simp;refine hK _ _ kP λhHeld=>?_;clear hK;refine Xs 8 λK hK=>?_;refine d6 rfl (.tmp 134) (.tmp 140) 58 rfl w.1.size 66 i0 (.agg #[Hp 0,Hp 0,Hp 0,Hp 0,Hp 0]) 5 40 underlying58 bh bp bq br rfl vY (Hl w7.1.size 1 1) 1 (ZP [⟨u,t,y,0,0⟩]) (by simp[Act.eval]) (Zk (pU w7 u t y 0 0) (oP s.4 b.4)) (Hk X 0) (ax k d).length k7 (ZP<|ax k d) (by simp[Act.eval]) (iR _) (λj u Z=>by rw[ja,bP _ _ _<|by show X<_;exact bf.2];exact Jj al Z) (l7 _) (by unfold maxLen;omega) oM (by have:=s.4;have:=m.4;have:=b.4;(try simp);omega) ?_;rintro v8 w8 I C H -;have K8:=(Xg s<|b.alloc b.4 (.cells #[Hp u,Hp t,Hp y,Hp 0,Hp 0] 66)).grown C (by have:=s.4;have:=m.4;have:=b.4;(try simp);omega) (λq hq=>by cases hq;have:=s.4;have:=m.4;have:=b.4;(try dsimp only);omega);have h:=(C.5 wr.1.size (by(try simp);have:=b.4;omega) λe=>by injection e with e;have:=m.4;have:=b.4;simp at e;omega);have p0:=(Xc h).trans (oB (b.alloc b.4<|.cells #[Hp u,Hp t,Hp y,Hp 0,Hp 0] 66) P oM);have p1:=(Xc h).trans (oB (b.alloc b.4<|.cells #[Hp u,Hp t,Hp y,Hp 0,Hp 0] 66) c1 oM);have p2:=(Xc h).trans (oB (b.alloc b.4<|.cells #[Hp u,Hp t,Hp y,Hp 0,Hp 0] 66) Q oM);have p3:=(Xc h).trans (oB (b.alloc b.4<|.cells #[Hp u,Hp t,Hp y,Hp 0,Hp 0] 66) c3 oM);have p4:=(Xc h).trans (oB (b.alloc b.4<|.cells #[Hp u,Hp t,Hp y,Hp 0,Hp 0] 66) c4 oM);have ad:=Xa K8;have ao:=Xa I;have aj:Hs (v8≠Hq):=Xa (λe=>by have:=(H.1 e).1;cases this);clear I C H K8 h;refine hK _ _ kP λhHeld=>?_;clear hK;refine Xs 9 λK hK=>?_;go_simp;refine hK _ _ kP λhHeld=>?_;clear hK;refine Yq ?_;go_wp2;go_ret
   refine⟨_,rfl,aj,ad,?_⟩;rw[ba.o,show(⟨u,t,y,0,0⟩:Yg)::ax k d=[⟨u,t,y,0,0⟩]++ax k d from rfl,j7,aQ];exact ao)
end
section
attribute [local go_sem ↓] Go.wp_at_zero Go.wp_at_succ
theorem Jb{c:Int}{b:Vr}(h:Hs (YY w B g p b))(l:Hs (YY w i j P b))(r:Hs (n=b.length))(q:n<=1048576)(v:g<=w.1.size)(x:j<=w.1.size):
 Calls prog 124 #[.agg #[.slice p n m,Hp t,Hp T,Hp z,Hp c],.agg #[.slice P n k,Hp t,Hp T,Hp z,Hp c]] w λe u=>e=.returned (.bool true)/\Below w.1.size w u:=by
 go_in
 go_wp2_with fail
 refine(JB B g i j ?q1 ?q2 r q ?q3 ?q4).mono ?_
 case q1=>exact h.keep<|((Below.refl _ _).alloc oM _).alloc (by simp;omega) _
 case q2=>exact l.keep<|((Below.refl _ _).alloc oM _).alloc (by simp;omega) _
 case q3=>simp;omega
 case q4=>simp;omega
 rintro e d⟨rfl,a⟩;have s:=a.4;simp at s;have C:w.1.size<d.1.size:=oM;have D:w.1.size+1<d.1.size:=oM;let⟨y,A⟩:=NC a;have f:=Xg (Xb (Xb (Below.refl _ _) _) _) a;go_wp2_with fail
 refine(Lk).mono ?_;rintro e E⟨rfl,o⟩;go_wp2;go_ret;exact⟨rfl,Xg f o⟩
theorem I2{b:List ag}(L B r d:Nat)(ha:Hs (d7 w L B p b))(x:Hs (d7 w r d P b))(C:Hs (n=b.length))(A:Hs (km b))(Q:n<=1048576)(s:B<=w.1.size)(t:d<=w.1.size):
 Calls prog 56 #[.slice p n c,.slice P n m] w λf D=>f=.returned (.bool true)/\Below w.1.size w D:=by
 go_in
 go_wp2
 go_loopw [5] (λi wr=>∃k:Nat,k<=n/\i=Hp k/\Below w.1.size w wr) λi _=>n-(intOf i).toNat
 case atStart=>exact⟨0,aN,rfl,Below.refl _ _⟩
 obtain⟨k,K,rfl,a⟩:=hrel;by_cases O:k<n
 .have e:k<b.length:=oN C.o;obtain⟨E,V,rfl,⟨_,I⟩,g⟩:=ha k e;obtain⟨F,W,rfl,⟨_,J⟩,h⟩:=x k e;have M:(0:Int)<=(k:Int):=oM;have N:(k:Int)<(n:Int):=oM;let⟨R,T,e1,⟨e2,e3,e4,e5⟩,j⟩:=g.keep (a.mono s) oM;let⟨S,U,f1,⟨f2,f3,G,H⟩,l⟩:=h.keep (a.mono t) oM;have o:=Xa<|j.keep ((Below.refl B wr).drew);have q:=Xa<|l.keep ((Below.refl d wr).drew);have z:=A _<|aH e;have u:B<=wr.1.size:=oN a.4;have v:d<=wr.1.size:=oN a.4;generalize b[k]=X at*;go_wp2
  go_region_with (go_at_call 124;refine(Jb o q rfl z u v).mono ?_;rintro f Y⟨rfl,y⟩)
  all_goals
   go_wp2;exact⟨⟨k+1,oM,gM,Xg a.drew y⟩,by simp[intOf];omega⟩
 go_wp2;go_ret;exact⟨rfl,a⟩
theorem KU{a:List ag}(ha:Hs (d7 w k B p a))(b:Hs (d7 w g i P a))(j:Hs (n=a.length))(h:Hs (km a))(f:n<=1048576)(o:B<=w.1.size)(q:i<=w.1.size):
 Calls prog 21 #[.agg #[Hp t,.slice p n c],.agg #[Hp t,.slice P n m]] w λe l=>e=.returned (.bool true)/\Below w.1.size w l:=by
 go_in
 go_wp2_with fail
 refine(I2 k B g i ?q1 ?q2 j h f ?q3 ?q4).mono ?_
 case q1=>exact ha.keep<|((Below.refl _ _).alloc oM _).alloc (by simp;omega) _
 case q2=>exact b.keep<|((Below.refl _ _).alloc oM _).alloc (by simp;omega) _
 case q3=>simp;omega
 case q4=>simp;omega
 rintro e r⟨rfl,d⟩;go_wp2;go_ret;exact⟨rfl,Xg (Xb (Xb (Below.refl _ _) _) _) d⟩
end
theorem zD{tg:Int}(E:Hs (Va w n 0 ⟨m,t,tg,T⟩))(h:1<=m)(i:m<=3)(o:Hs (Yb w)):
 Calls prog 200 #[Hn n] w λk b=>∃v,k=.returned v/\Below w.1.size w b/\b.ownsRow w.1.size 266 1 v (Yd [(m:Int) != 1,(m:Int) != 3,(m:Int)==2] [(Hk n 1),(Hk n 2),(Hk n 3)]).length ((Yd [(m:Int) != 1,(m:Int) != 3,(m:Int)==2] [(Hk n 1),(Hk n 2),(Hk n 3)]).map Tx):=by
 obtain⟨p,q1,q2,q3⟩:=E.o;simp only at p q1 q2 q3;obtain⟨c0,c1,c2,c3⟩:=o.2 m h i;have I:=o.1;generalize ((m:Int) != 1)=e at*;generalize ((m:Int) != 3)=g at*;generalize ((m:Int)==2)=f at*
 go_in
 go_wp2_with fail
 have D:(λd:Ub=>d.1.size=w.1.size+1/\d.cell? ⟨w.1.size,1,none⟩=some (.bool e)/\d.cell? ⟨w.1.size,2,none⟩=some (.bool g)/\d.cell? ⟨w.1.size,3,none⟩=some (.bool f)/\Hs (Below w.1.size w d)) (w.alloc<|.cells #[.string (K8<|gx m),.bool e,.bool g,.bool f] 230):=⟨sP,sP,sP,sP,Xa<|Xb (Below.refl _ _) _⟩;generalize w.alloc _=a at*;obtain⟨e1,y,z,A,r⟩:=D;clear p q1 q2 q3 c0 c1 c2 c3;have H:=Xa e1;have j:w.1.size<a.1.size:=oM;clear e1;have s:=Xa λF x W h i B C=>@yQ [e,g,f] [⟨n,1,none⟩,⟨n,2,none⟩,⟨n,3,none⟩] a W F x 3 3 rfl sP h i B C
 go_region_held3 (λb=>b.cell? ⟨w.1.size,1,none⟩=some (.bool e)/\b.cell? ⟨w.1.size,2,none⟩=some (.bool g)/\b.cell? ⟨w.1.size,3,none⟩=some (.bool f)) (go_keep)
  (first|(go_at_call 159;refine(s _ _ _ (Xb (Xb (Below.refl _ _) _) _).drew (by show _<=(World.alloc _ _).1.size;simp) (by first|exact J7 a _ _ _ _|exact J6 a _ _ _ _) (by first|exact J6 a _ _ _ _|exact J7 a _ _ _ _)).mono ?_;rintro k G⟨v5,rfl,c,l⟩;have q:=Xa<|r.trans (c.mono oM);have u:Hs (G.ownsRow w.1.size 266 1 v5 _ _):=Xa<|Zk l oM;have f1:=oB c y j;have f2:=oB c z j;have f3:=oB c A j;clear c l))
 all_goals
  go_wp2;go_ret;exact⟨_,rfl,q,u⟩
end Go.Proofs.YtcfdhbigppockaaGreatDoor
