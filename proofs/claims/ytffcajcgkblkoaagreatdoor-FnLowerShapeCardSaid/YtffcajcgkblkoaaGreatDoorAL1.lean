import Derived.Laws.Bits128
import Derived.Test.YtffcajcgkblkoaaGreatDoorFV1
import Derived.Test.YtffcajcgkblkoaaGreatDoorMQ3
import Derived.Test.YtffcajcgkblkoaaGreatDoorML0
namespace Go.Proofs.YtffcajcgkblkoaaGreatDoor
set_option maxHeartbeats 4000000
set_option maxRecDepth 100000
open Go.RowKit Go.Shelf Go.Proofs.Tryz
variable{t T:Int}{l L:List Int}{s:List Nat}{x:List Xe}{n m k B g i c:Nat}{f F:Nat->Nat}{M N:Nat->Nat->Nat}{w v:World}
section
attribute [local go_sem] Oper.semAt_some
theorem Er(h:XA f)(i:Nat):f i<18446744073709551616:=h i
theorem oy(W:Nat->Nat)(i j:Nat)(a:j<64):Xh W (64*i+j)=(W i).testBit j:=by
 unfold Xh;rw[show(64*i+j)/64=i by omega,show(64*i+j)%64=j by omega]
structure fk(W:Nat->Nat)(i k y:Nat):Prop where
 le:k<=64
 lt:y<18446744073709551616
 bit:∀j,y.testBit j=((W i).testBit j&&decide (k<=j))
theorem fk.start(h:XA f)(i:Nat):fk f i 0 (f i):=⟨vZ,Er h i,λj=>sP⟩
theorem fk.next(l:fk f n m k)(d:k≠0):fk f n (Lib.ctz 64 k+1) (k&&&(k-1))/\Hc f (64*n+(Lib.ctz 64 k+1))=Hc f (64*n+m)++[64*n+Lib.ctz 64 k]/\Lib.ctz 64 k<64/\(k&&&(k-1))<k:=by
 have i:k<2^64:=l.lt;let⟨y,x,p⟩:=l7 d i;have h:=DP d i;have v:=Dl d i;have b:=l.bit;have w:k&&&(k-1)<=k-1:=Nat.and_le_right;generalize Lib.ctz 64 k=c at*;have u:m<=c/\(f n).testBit c=true:=by
  have a:=h.1;rw[b,bY,bD]at a;exact⟨a.2,a.1⟩
 refine⟨⟨oM,oM,λj=>?_⟩,?_,p,oM⟩
 .rw[v,b];by_cases e:j=c;·subst e;simp
  by_cases e2:j<c
  .have g:=h.2 j e2;rw[b]at g;rw[g];have:¬c+1<=j:=oM;simp[this]
  have r:m<=j:=oM;have s:c+1<=j:=oM;simp[e,r,s]
 have e:64*n+(c+1)=(64*n+c)+1:=oM;rw[e];refine C8 oM (λq a g=>?_) (by rw[oy f n c p];exact u.2);obtain⟨j,rfl⟩:∃j,q=64*n+j:=⟨q-64*n,oM⟩;have o:=h.2 j oM;rw[b]at o;rw[oy f n j oM];have t:m<=j:=oM;simpa [t]using o
theorem fk.done(h:fk f n m 0):Hc f (64*(n+1))=Hc f (64*n+m):=by
 refine nj (oN h.le) λq c d=>?_;obtain⟨j,rfl⟩:∃j,q=64*n+j:=⟨q-64*n,oM⟩;rw[oy f n j oM];have a:=h.bit j;have b:m<=j:=oM;simpa [b]using a.symm
theorem DT{W:Nat->Nat}{p q:Nat}(h:p<=q):(Hc W p).length<=(Hc W q).length:=by
 unfold Hc;obtain⟨d,rfl⟩:∃d,q=p+d:=⟨q-p,oM⟩;rw[lI,eU,aQ];omega
theorem Eg(n:Nat)(a:Option Addr)(c b:Nat)(w:World) :
 CallsIn Fence.wide n prog 91 #[.agg #[.slice a c b]] w λe d=>e=.returned (.func (.func 123) #[] #[.pointer (some ⟨w.heap.size,0,none⟩)])/\d=w.alloc (.cells #[.slice a c b] 59):=by
 refine iD func91 rfl trivial ?_ rfl;simp only[ntmps91,xY,Nat.reduceAdd,Nat.reduceSub];gi_wp2;go_ret;exact⟨rfl,rfl⟩
end
def Zc(B:Nat):Nat:=(List.range 8).countP λi=>B.testBit i
def C9(f:Nat->Nat):Nat->Nat->Nat
 |0,_=>0
 |n+1,x=>f (x%256)+256*C9 f n (x/256)
def Wr(c:Nat):Nat->Nat
 |0=>0
 |n+1=>c+256*Wr c n
theorem KA(y M:Nat)(a:n<256)(d:c<256):(n+256*y)&&&(c+256*M)=(n&&&c)+256*(y&&&M):=by
 have b:n&&&c<2^8:=iC jB a;have e1:n+256*y=2^8*y+n:=oM;have e2:c+256*M=2^8*M+c:=oM;have e3:(n&&&c)+256*(y&&&M)=2^8*(y&&&M)+(n&&&c):=oM;rw[e1,e2,e3];apply Nat.eq_of_testBit_eq;intro i;rw[jW,iH _ a,iH _ d,iH _ b];by_cases h:i<8;·simp[h]
 simp[h]
def f1(B:Nat):Nat:=(B/2&&&85)+(B&&&85)
def f2(B:Nat):Nat:=(B/4&&&51)+(B&&&51)
def f3(B:Nat):Nat:=(B/16+B)&&&15
theorem By:∀t,t<2->∀B,B<256->(B/2+128*t)&&&85=B/2&&&85:=by decide +kernel
theorem BY:∀t,t<4->∀B,B<256->(B/4+64*t)&&&51=B/4&&&51:=by decide +kernel
theorem f9:∀B,B<256->f1 B<256:=by decide +kernel
theorem oK:∀B,B<256->f2 B<256:=by decide +kernel
abbrev oT(B:Nat):Prop:=B%16<=4/\B/16<=4
theorem Di:∀B,B<256->oT (f2<|f1 B):=by decide +kernel
theorem Al:∀t,t<=4->∀B,B<256->oT B->B/16+16*t+B<256/\(B/16+16*t+B)&&&15=f3 B:=by decide +kernel
theorem EW:∀B,B<256->f3 (f2<|f1 B)=Zc B:=by decide +kernel
theorem qY:∀B,B<256->Zc B<=8:=by decide +kernel
theorem j8{f:Nat->Nat}(a:∀B,B<256->f B<256):∀n x,C9 f n x<256^n
 |0,_=>by simp[C9]
 |n+1,x=>by
  have b:=j8 a n<|x/256;have c:=a (x%256) (dS _ vZ);simp only[C9,Nat.pow_succ];omega
theorem map_map{f h:Nat->Nat}(a:∀B,B<256->h B<256):∀n x,C9 f n (C9 h n x)=C9 (λB=>f<|h B) n x
 |0,_=>rfl
 |n+1,x=>by
  have b:=a (x%256) (dS _ vZ);simp only[C9];have e1:(h (x%256)+256*C9 h n (x/256))%256=h (x%256):=oM;have e2:(h (x%256)+256*C9 h n (x/256))/256=C9 h n (x/256):=oM;rw[e1,e2,map_map a n]
theorem qo{f h:Nat->Nat}(e:∀B,B<256->f B=h B):∀n x,C9 f n x=C9 h n x
 |0,_=>rfl
 |n+1,x=>by simp only[C9];rw[e _<|dS _ vZ,qo e n]
theorem ug:∀n x,(x/2&&&Wr 85 n)+(x&&&Wr 85 n)=C9 f1 n x
 |0,x=>by simp[Wr,C9]
 |n+1,x=>by
  have a:x%256<256:=dS _ vZ;have ex:x=x%256+256*(x/256):=oM;have d:x/2=(x%256/2+128*(x/256%2))+256*(x/256/2):=oM;have e:=ug n<|x/256;simp only[C9,Wr];rw[<-e];have b:x/2&&&(85+256*Wr 85 n)=(x%256/2&&&85)+256*(x/256/2&&&Wr 85 n):=by
   rw[d,KA _ _ oM vZ,By _ (dS _ vZ) _ a]
  have c:x&&&(85+256*Wr 85 n)=(x%256&&&85)+256*(x/256&&&Wr 85 n):=by
   conv=>lhs;rw[ex]
   exact KA _ _ a vZ
  rw[b,c];unfold f1;omega
theorem tV:∀n x,(x/4&&&Wr 51 n)+(x&&&Wr 51 n)=C9 f2 n x
 |0,x=>by simp[Wr,C9]
 |n+1,x=>by
  have a:x%256<256:=dS _ vZ;have ex:x=x%256+256*(x/256):=oM;have d:x/4=(x%256/4+64*(x/256%4))+256*(x/256/4):=oM;have e:=tV n<|x/256;simp only[C9,Wr];rw[<-e];have b:x/4&&&(51+256*Wr 51 n)=(x%256/4&&&51)+256*(x/256/4&&&Wr 51 n):=by
   rw[d,KA _ _ oM vZ,BY _ (dS _ vZ) _ a]
  have c:x&&&(51+256*Wr 51 n)=(x%256&&&51)+256*(x/256&&&Wr 51 n):=by
   conv=>lhs;rw[ex]
   exact KA _ _ a vZ
  rw[b,c];unfold f2;omega
def VM:Nat->Nat->Prop
 |0,x=>x=0
 |n+1,x=>oT (x%256)/\VM n (x/256)
theorem sJ:∀n x,VM n<|C9 (λB=>f2<|f1 B) n x
 |0,_=>rfl
 |n+1,x=>by
  have a:x%256<256:=dS _ vZ;have d:=oK _<|f9 _ a;have b:=Di _ a;have c:=sJ n<|x/256;simp only[C9,VM];have e1:(f2 (f1<|x%256)+256*C9 (λB=>f2<|f1 B) n (x/256))%256=f2 (f1<|x%256):=oM;have e2:(f2 (f1<|x%256)+256*C9 (λB=>f2<|f1 B) n (x/256))/256=C9 (λB=>f2<|f1 B) n (x/256):=oM;rw[e1,e2];exact⟨b,c⟩
theorem CM:∀n x,VM n x->x%16<=4
 |0,x,h=>by simp only[VM]at h;omega
 |n+1,x,h=>by
  have:=h.1.1;omega
theorem t6:∀n x,VM n x->(x/16+x)&&&Wr 15 n=C9 f3 n x
 |0,x,_=>by simp[Wr,C9]
 |n+1,x,h=>by
  have c:x%256<256:=dS _ vZ;have e:=t6 n (x/256) h.2;have d:=CM n _ h.2;let⟨a,b⟩:=Al _ d _ c h.1;simp only[C9,Wr];rw[<-e,<-b];have ex:x/16+x=(x%256/16+16*(x/256%16)+x%256)+256*(x/256/16+x/256):=oM;rw[ex,KA _ _ a vZ]
def H8(n x:Nat):Nat:=(List.range<|8*n).countP λi=>x.testBit i
theorem xP(n x:Nat):H8 (n+1) x=Zc (x%256)+H8 n (x/256):=by
 unfold H8 Zc;have e:8*(n+1)=8+8*n:=oM;rw[e,lI,lN,List.countP_map];congr 1
 .apply kK;intro i a;have:i<8:=bE.1 a;have e2:(x%2^8).testBit i=x.testBit i:=by rw[Nat.testBit_mod_two_pow];simp[this]
  rw[show x%256=x%2^8 from rfl,e2]
 apply kK;intro i a;have e2:(x/2^8).testBit i=x.testBit (8+i):=by rw[Nat.testBit_div_two_pow,Nat.add_comm]
 rw[show x/256=x/2^8 from rfl,e2];rfl
def oQ(f:Nat->Nat):Nat->Nat->Nat
 |0,_=>0
 |n+1,x=>f (x%256)+oQ f n (x/256)
theorem qT:∀n x,H8 n x=oQ Zc n x
 |0,_=>rfl
 |n+1,x=>by rw[xP,qT n];rfl
theorem tO{f:Nat->Nat}(a:∀B,B<256->f B<=68):∀n x,C9 f n x<=Wr 68 n
 |0,_=>aA _
 |n+1,x=>by
  have b:=tO a n<|x/256;have c:=a (x%256) (dS _ vZ);simp only[C9,Wr];omega
theorem DJ:∀B,B<256->f2 (f1 B)<=68:=by decide +kernel
theorem JQ(h:n<256):(n+256*m)/256=m:=oM
theorem AR(l g h i k m n j e a b c d f X3 X4 X5 X6:Nat)(z:l<=8)(A:g<=8)(B:h<=8)(C:i<=8)(D:k<=8)(E:m<=8)(F:n<=8)(G:j<=8)
 (e3:X3=l+256*e) (t:e=g+256*a) (u:a=h+256*b) (v:b=i+256*c) (w:c=k+256*d) (x:d=m+256*f) (y:f=n+256*j) (e4:X4=X3+X3/256) (e5:X5=X4+X4/65536) (s:X6=X5+X5/4294967296):X4<9223372036854775808/\X5<9223372036854775808/\X6<9223372036854775808/\X6%128=l+(g+(h+(i+(k+(m+(n+j)))))):=by
 have p:X3/256=e:=by rw[e3];exact JQ oM
 have c4:X4=(l+g)+256*(e+a):=oM;have q:X4/65536=a+b:=by
  rw[show 65536=256*256 from rfl,<-iZ,c4,JQ oM,show e+a=(g+h)+256*(a+b) by omega,JQ oM]
 have c5:X5=(l+g+h+i)+256*(e+a+b+c):=oM;have r:X5/4294967296=c+d+f+j:=by
  rw[show 4294967296=256*256*256*256 from rfl,<-iZ,<-iZ,<-iZ,c5,JQ oM,show e+a+b+c=(g+h+i+k)+256*(a+b+c+d) by omega,JQ oM,show a+b+c+d=(h+i+k+m)+256*(b+c+d+f) by omega,JQ oM,show b+c+d+f=(i+k+m+n)+256*(c+d+f+j) by omega,JQ oM]
 have o:X6=(l+g+h+i+k+m+n+j)+256*(e+a+b+c+d+f+j):=oM;have M:f<=2304:=oM;have L:d<=590000:=oM;have K:c<=151100000:=oM;have J:b<=38700000000:=oM;have I:a<=9910000000000:=oM;have H:e<=2540000000000000:=oM;refine⟨oM,oM,oM,?_⟩;generalize e+a+b+c+d+f+j=N at o;omega
theorem zV(x X4 X5 X6:Nat)(e4:X4=C9 Zc 8 x+C9 Zc 8 x/256)(e5:X5=X4+X4/65536)(b:X6=X5+X5/4294967296):X4<9223372036854775808/\X5<9223372036854775808/\X6<9223372036854775808/\X6%128=H8 8 x:=by
 rw[qT];have a:∀y,Zc (y%256)<=8:=λy=>qY _<|dS _ vZ;have h:=AR (Zc<|x%256) (Zc<|x/256%256) (Zc<|x/256/256%256) (Zc<|x/256/256/256%256) (Zc<|x/256/256/256/256%256) (Zc<|x/256/256/256/256/256%256) (Zc<|x/256/256/256/256/256/256%256) (Zc<|x/256/256/256/256/256/256/256%256) (C9 Zc 7<|x/256) (C9 Zc 6<|x/256/256) (C9 Zc 5<|x/256/256/256) (C9 Zc 4<|x/256/256/256/256) (C9 Zc 3<|x/256/256/256/256/256) (C9 Zc 2<|x/256/256/256/256/256/256) (C9 Zc 8 x) X4 X5 X6 (a _) (a _) (a _) (a _) (a _) (a _) (a _) (a _) rfl rfl rfl rfl rfl rfl (by simp only[C9];omega) e4 e5 b;simp only[oQ];exact h
theorem xe(x:Nat)(w:World)(j:x<18446744073709551616) :
 Calls prog 88 #[.int .u64 (x:Int)] w λg o=>g=.returned (Hp (H8 8 x:Nat))/\o=w:=by
 have f:Wr 85 8=6148914691236517205:=vZ;have m1:Wr 51 8=3689348814741910323:=vZ;have m2:Wr 15 8=1085102592571150095:=vZ;have s1:=ug 8 x;have s2:=tV 8<|C9 f1 8 x;have s3:=t6 8 (C9 f2 8<|C9 f1 8 x) (by rw[map_map f9];exact sJ 8 x);rw[f]at s1;rw[m1]at s2;rw[m2,map_map f9,map_map λB b=>oK _<|f9 _ b,qo EW]at s3;have c:C9 f1 8 x<18446744073709551616:=j8 f9 8 x;have d:C9 f2 8 (C9 f1 8 x)<18446744073709551616:=j8 oK 8 _;have n:C9 Zc 8 x<18446744073709551616:=j8 (λB b=>iC (qY B b) vZ) 8 x;let⟨k,l,z,m⟩:=zV x _ _ _ rfl rfl rfl;have e:C9 f2 8 (C9 f1 8 x)/16+C9 f2 8 (C9 f1 8 x)<18446744073709551616:=by
  have h:=tO (f:=λB=>f2<|f1 B) DJ 8 x;rw[map_map f9];rw[show Wr 68 8=4919131752989213764 by decide]at h;omega
 rw[map_map f9]at d s2 e;generalize C9 f1 8 x=X1 at*;generalize C9 (λB=>f2<|f1 B) 8 x=X2 at*;generalize C9 Zc 8 x=X3 at*;generalize H8 8 x=r at*;have W:∀a:Nat,a<18446744073709551616->IntKind.u64.wrap (a:Int)=(a:Int):=λa h=>by rw[iV];exact mB oM oM
 have p:IntKind.u64.wrap (bits .and .u64 ((x:Int)/2) 6148914691236517205+bits .and .u64 (x:Int) 6148914691236517205)=(X1:Int):=by
  have q1:=jH (x/2) 6148914691236517205 oM vZ;have q2:=jH x 6148914691236517205 j vZ;rw[show((x:Int)/2)=((x/2:Nat):Int) by omega];rw[show(6148914691236517205:Int)=((6148914691236517205:Nat):Int)from rfl,q1,q2,<-kB,s1,W _ c]
 have b2:IntKind.u64.wrap (bits .and .u64 ((X1:Int)/4) 3689348814741910323+bits .and .u64 (X1:Int) 3689348814741910323)=(X2:Int):=by
  have q1:=jH (X1/4) 3689348814741910323 oM vZ;have q2:=jH X1 3689348814741910323 c vZ;rw[show((X1:Int)/4)=((X1/4:Nat):Int) by omega];rw[show(3689348814741910323:Int)=((3689348814741910323:Nat):Int)from rfl,q1,q2,<-kB,s2,W _ d]
 have q:bits .and .u64 ((X2:Int)/16+(X2:Int)) 1085102592571150095=(X3:Int):=by
  have i:=e;have q1:=jH (X2/16+X2) 1085102592571150095 i vZ;rw[show((X2:Int)/16+(X2:Int))=((X2/16+X2:Nat):Int) by omega];rw[show(1085102592571150095:Int)=((1085102592571150095:Nat):Int)from rfl,q1,s3]
 have s:IntKind.u64.wrap ((X3:Int)+(X3:Int)/256)=((X3+X3/256:Nat):Int):=by
  rw[show((X3:Int)+(X3:Int)/256)=((X3+X3/256:Nat):Int) by omega];exact W _ oM
 generalize X3+X3/256=X4 at*;have t:IntKind.u64.wrap ((X4:Int)+(X4:Int)/65536)=((X4+X4/65536:Nat):Int):=by
  rw[show((X4:Int)+(X4:Int)/65536)=((X4+X4/65536:Nat):Int) by omega];exact W _ oM
 generalize X4+X4/65536=X5 at*;have u:IntKind.u64.wrap ((X5:Int)+(X5:Int)/4294967296)=((X5+X5/4294967296:Nat):Int):=by
  rw[show((X5:Int)+(X5:Int)/4294967296)=((X5+X5/4294967296:Nat):Int) by omega];exact W _ oM
 generalize X5+X5/4294967296=X6 at*;have v:bits .and .i64 (X6:Int) 127=(r:Int):=by rw[i64_and127];omega
 have y:wrap64 (X6:Int)=(X6:Int):=by simp[wrap64];omega
 go_in
 go_wp2;go_ret;exact⟨rfl,rfl⟩
def Hx(W:Nat->Nat)(K:Nat):Nat:=(List.range<|64*K).countP λx=>Xh W x
theorem xz(W:Nat->Nat)(K:Nat):Hx W (K+1)=Hx W K+H8 8 (W K):=by
 unfold Hx H8;have e:64*(K+1)=64*K+8*8:=oM;rw[e,lI,lN,List.countP_map];congr 1;apply kK;intro i a;have:i<64:=bE.1 a;have e1:(64*K+i)/64=K:=oM;have e2:(64*K+i)%64=i:=oM;simp only[Function.comp,Xh,e1,e2]
theorem TB(W:Nat->Nat)(K:Nat):Hx W K<=64*K:=aJ (mW) sP
theorem Mi(f:Nat)(m:f=35\/f=56)(g K C:Nat)(W:Nat->Nat)(w:World)(l:Hs (XA W))(d:Hs (Bf w g K C W))(hK:K<=1000) :
 Calls prog f #[.agg #[Hl g K C]] w λe r=>e=.returned (Hp (Hx W K:Nat))/\Below w.heap.size w r:=by
 have n:=d.lt;rcases m with rfl|rfl
 go_in
 rotate_left
 go_in
 rotate_left
 all_goals (
  go_wp2
  go_loopw [3,9] (λu i wr=>∃k:Nat,k<=K/\i=Hp k/\u=Hp (Hx W k:Nat)/\Hs (Below w.heap.size w wr)) λ_ i _=>K-(intOf i).toNat
  case atStart=>exact⟨0,aN _,rfl,rfl,Xa<|Xb (Below.refl _ _) _⟩
  case round=>
   obtain⟨k,v,rfl,rfl,a⟩:=hrel;by_cases p:k<K
   .have t:=oB a (d.cell p) n;have q:=l k;have b:=Xa<|xz W k;have x:=TB W k;have o:=TB W<|k+1;rw[b.o]at o;generalize Hx W k=c0 at*;generalize W k=c at*;have j:=Xa<|xe c wr q;generalize H8 8 c=y at*;go_wp2_with (go_at_call 88;refine j.mono ?_;rintro e s⟨rfl,h⟩;rw[h];clear h s)
    exact⟨⟨k+1,oM,gM,by rw[b.o];go_num,a⟩,by simp[intOf];omega⟩
   have e:k=K:=oM;subst e;go_wp2;go_ret
   exact⟨rfl,a⟩)
abbrev Kl:=@Mi 35<|bC rfl
section
attribute [local go_sem] Oper.semAt_some
theorem rU(W:Nat->Nat)(K:Nat):Hx W K=(Hc W<|64*K).length:=by
 unfold Hx Hc;rw[gK]
end
section
attribute [local go_sem] Oper.semAt_some
theorem sU(n:Nat)(b v1 v2 v3 v4 v5:Value)(g a C:Nat)(w:World) :
 CallsIn Fence.wide n prog 41 #[.agg #[b,v1,v2,v3,v4,v5],.agg #[.slice (some ⟨g,0,none⟩) a C]] w λe c=>e=.returned (.func (.func 97) #[] #[.pointer (some ⟨w.heap.size+1,0,none⟩),.pointer (some ⟨w.heap.size,0,none⟩)])/\c=(w.alloc<|.cells #[b,v1,v2,v3,v4,v5] 46).alloc (.cells #[.slice (some ⟨g,0,none⟩) a C] 59):=by
 refine iD func41 rfl trivial ?_ rfl;simp only[ntmps41,xY,Nat.reduceAdd,Nat.reduceSub];gi_wp2;go_ret;exact⟨rfl,rfl⟩
end
section
attribute [local go_sem] Oper.semAt_some
def Ib(V a:Nat)(W:Nat->Nat):Prop:=∀x,x<64*a->Xh W x=true->x<V
theorem l9(h:Ib n m f)(a:∀t∈s,t<n):Ib n m (C3 f s):=λx b e=>by
 rw[YR]at e;rcases dI _ _▸e with e|e;·exact a x<|fV e
 exact h x b e
theorem Aq(h:Ib n m f)(b:List Nat):Ib n m (G7 f b):=λx a e=>by
 rw[Kt]at e;exact h x a (bY _ _▸e).2
def kT(n m a z:Nat)(p:Sd)(V:World):Prop:=(p.i<=m/\Ib n a p.W)/\uw a z p V
theorem me(n m d B z:Nat):OwnFrom B (kT n m d z):=λp A V row h k q=>by
 let⟨f,b,g⟩:=h;refine⟨f,b.of_block (k.block z b.lt λe=>?_),g⟩;let⟨o,i,j⟩:=b.obj;let⟨_,l,a,c⟩:=q z e.symm;rw[i]at a;injection a with a;subst a;rw[j]at c;cases c
theorem pX{p:Sd}(h:kT n m k B p w)(a:Below w.heap.size w v):kT n m k B p v:=⟨h.1,h.2.1.of_block<|a.block B h.2.1.lt,h.2.2⟩
theorem sj(m:Nat):∀(l a:List (Nat×List Int×List Int))(W:Nat->Nat),TZ m W (l++a)=TZ m W l++TZ m (l.foldl VI W) a
 |[],a,W=>by simp[TZ]
 |p::l,a,W=>by
  show Id m W p++TZ m (VI W p) (l++a)=(Id m W p++TZ m (VI W p) l)++TZ m (l.foldl VI<|VI W p) a;rw[sj m l,cK]
theorem yB(m:Nat){l a:List (Nat×List Int×List Int)}(W:Nat->Nat)(h:l <+: a):TZ m W l <+: TZ m W a:=by
 obtain⟨t,rfl⟩:=h;rw[sj];exact⟨_,rfl⟩
theorem qE(X Bo Bx bv bn go f Cg V:Nat)(K:Nat->Prop)(x:Xe)(s:Nat->Nat)(y:World)(l:Hs (UI x bv bn Bx X y.heap.size y))(hs:y.cell? (Hk Bo 0)=some (Hl go f Cg))(hg:Hs (Bf y go f Cg s))(f0:Hs (XA s))(hK:f<=100)(gp:V<=64*f)(hM:Hs (∀k,bv<=k->k<bn->¬K k))(fb:Hs (¬K Bx))(S:Hs (∀k,y.heap.size<=k->¬K k))(e9:Hs (¬K 0))(fa:Hs (¬K 1))(fx:Hs (∀ed∈x.is,1<=ed.op/\ed.op<=13))(fz:1<=x.te.kind/\x.te.kind<=3)(fr:x.is.length<=4000)(fs:x.ps.length<=4000)(fc:Hs (∀q∈Hw x,MW V q))(e8:Hs (Ib V f s)) :
 gy Fence.wide 8 prog 97 #[Hn Bo,Hn Bx] (oO f) (kT V x.is.length f) (Zf X K) (λxs=>xs.map Sd.dat=TZ x.is.length s (Hw x)) (λxs=>xs.map Sd.dat <+: TZ x.is.length s (Hw x)) (x.is.length+2) True False y:=by
 intro T dk Jx W hW hl hJ dl dn _ hY h0;have HY:=Xa hY;have HJ:=Xa hJ;have c8:=Xa dl;have ax:=Xa<|dn trivial;have H0:=Xa h0;have g0:=l.nn;clear hY hJ dn h0 dl;have eb:=hW.size;have ev:=Xa<|l.below hW (aA _);refine callsIn_of_wp_marks func97 rfl trivial ?_ rfl;simp only[ntmps97,xY,Nat.reduceAdd,Nat.reduceSub];have s0:=oB hW hs<|aI y _ hs;have e0:Bo<W.heap.size:=aI W _ s0;have g8:=λo=>(bP W o (Hk Bo 0) e0).trans s0;gi_wp2;have e7:(λx9:World=>Hs (Below W.heap.size W x9)/\x9.cell? (Hk W.heap.size 0)=some (.func (.yield T) #[] #[])/\x9.heap.size=W.heap.size+1) (W.alloc<|.cells #[.func (.yield T) #[] #[]] 168):=⟨Xa<|Xb (Below.refl _ _) _,(by simp[go_sem]),sP⟩;generalize W.alloc _=wa at*;let⟨ct,ea,g7⟩:=e7;have gd:W.heap.size<wa.heap.size:=oM;have cx:=Xa<|(hg.of_block<|hW.block go hg.lt).of_block (ct.block go<|aX hg.lt eb);have cw:=Xa<|Kk go f Cg s wa cx oM;refine⟨trivial,(bM.2 cw).mono ?_⟩;rintro i D⟨a,r,rfl,gs,bx,cj⟩;have ei:=Xa cj;have cs:=Xa<|Xg ct bx;have g3:=bx.size;have y1:=oB bx ea gd;have fe:=cj.lt;clear bx cj ea cw cx;have bq:Hs (Below D.heap.size D<|D.alloc (.cells #[Hl a f r] 59)):=Xa<|Xb (Below.refl _ _) _;have fi:(D.alloc<|.cells #[Hl a f r] 59).cell? (Hk D.heap.size 0)=some (Hl a f r):=by simp[go_sem]
 have f7:(D.alloc<|.cells #[Hl a f r] 59).heap.size=D.heap.size+1:=sP;have ch:=Xa<|ev.below (Xg cs bq) eb;let⟨pa,pc,ia,ic,x0,x1,⟨x2,x3,x4,x5⟩,d3,d1⟩:=ch.blk;simp only[aV]at x1 x2 x3 x4 x5;have eq:=Xa d3;have ek:=Xa d1;clear d3 d1;gi_wp2;generalize D.alloc _=J at*;have fl:D.heap.size<J.heap.size:=oM;clear f7;refine⟨trivial,(qC Fence.wide 7 trivial rfl _ _ _ _ _ _ J).mono ?_⟩;rintro i j⟨rfl,b3⟩;have G:Below J.heap.size J j:=by rw[b3];exact Xb (Below.refl _ _) _
 have ga:j.heap.size=J.heap.size+1:=by rw[b3];simp
 have ac:∀q v,#[Value.slice pa x.ps.length pc,.slice ia x.is.length ic,Hp x.te.kind,Hp x.te.a,Hp x.te.to,Hp x.te.els][q]?=some v->j.cell? (Hk J.heap.size q)=some v:=λq v h=>by
  rw[b3,eC];exact h
 have eg:=Xa<|Xg (Xg cs bq) G;have eu:Hs (UI x bv bn J.heap.size X j.heap.size j):=Xa ⟨ch.op.of_block (G.block _<|oN l.g1) G.size,ch.ter.of_block (G.block _<|oN l.g2) G.size,⟨pa,pc,ia,ic,ac 0 _ rfl,ac 1 _ rfl,⟨ac 2 _ rfl,ac 3 _ rfl,ac 4 _ rfl,ac 5 _ rfl⟩,eq.keepS λq _ e=>G.block q<|oN l.le,ek.keepS λq _ e=>G.block q<|oN l.le⟩,oM,l.le,l.g1,l.g2,oM⟩;have ej:Hs (Lt W j.heap.size T D.heap.size Bx a f r x.is.length ia ic s dk [] j):=Xa ⟨⟨[],rfl,H0 a j oM oM eg⟩,oB G ((XU bq oM).trans y1) oM,oB G fi fl,(ei.of_block<|bq.block _ fe).of_block (G.block _ oM),oB G x1 (by have:=l.lt;show Bx<_;omega),aA _⟩;have gt:J.heap.size<j.heap.size:=oM;clear b3 ac ga;have d0:∀q,q≠a->y.heap.size<=q->¬(K q\/q=a):=λq d e n=>n.elim (λh=>S q e h) d;have ge:y.heap.size<=a:=oM;gi_wp2
 refine jw (F:=Fence.wide) (n:=8) rfl vZ (gf:=114) (lb:=#[Hn J.heap.size]) rfl trivial (enters_of func114 kR rfl) (rg X J.heap.size bv bn (λq=>K q\/q=a) (MW V) x j eu (Xa ?m1) (Xa ?m2) (Xa ?m3) (Xa ?m4) (Xa ?m5) fx fz fr fs fc) (λ_=>mj _ _ _) (λh k=>h.trans k) (λW T o m d e n=>Zf.putObj W T o m oM e n) (Below.refl _ _) (λ_ _=>rfl)
  (λ_ w U=>Lt W j.heap.size T D.heap.size Bx a f r x.is.length ia ic s dk w U/\Ib V f ((w.map Pl.dat).foldl VI s)) (λc w V=>c=.ret/\∃C:List Sd,C.map Sd.dat=TZ x.is.length s (w.map Pl.dat)/\Jx C V) (λ_ gf A U row h k q=>⟨Lt.own HJ oM oM (oN l.lt) oM gf A U row h.1 k q,h.2⟩) ?ownX (λh=>h.elim) (λh=>h.elim) (λ_ V _ _ hV=>⟨XO (Lt.own HJ oM oM (oN l.lt) oM) ej hV,e8⟩)
  (λ_ p a' U=>∃R:Nat,a'=⟨#[.func (.yield T) #[] #[],Hn Bo,Hn Bx,Hn W.heap.size,Hn D.heap.size,Hp (p.i:Int),Hn R,.agg #[Hl go f Cg],.agg #[Hl a f r],.agg #[.slice pa x.ps.length pc,.slice ia x.is.length ic,Hp x.te.kind,Hp x.te.a,Hp x.te.to,Hp x.te.els],.func (.func 114) #[] #[Hn J.heap.size],Hp (p.i:Int),.agg #[.slice p.ua p.us.length p.uc,.slice p.da p.ds.length p.dc],undef,undef,undef,undef,undef,undef,undef,undef,undef,undef,undef,undef,undef,undef,undef,undef,undef,undef,undef,undef,undef,undef,undef,undef],[]⟩/\L8 j.heap.size R p U) ?ownA ?assign ?body ?done ?stop
 case m1=>intro q d e;exact λn=>n.elim (λh=>hM q d e h) λh=>by have:=l.le;omega
 case m2=>exact d0 _ oM oM
 case m3=>intro q d;exact d0 _ oM oM
 case m4=>exact λn=>n.elim (λh=>e9 h) λh=>by have:=l.g1;omega
 case m5=>exact λn=>n.elim (λh=>fa h) λh=>by have:=l.g2;omega
 case ownX=>
  rintro c w A V row⟨rfl,C,s1,s2⟩ k q;exact⟨rfl,C,s1,c8 C A V row s2 k λec i=>⟨oN<|(q ec i).1,(q ec i).2⟩⟩
 case ownA=>
  rintro _ p a' _ A U row⟨R,i,hp⟩ ez q;exact⟨R,i,L8.own (n:=j.heap.size) () A U row hp ez q⟩
 case assign=>
  intro l' _ w p U gh _ e6 hP ds;let⟨E,a5⟩:=e6;have ce:=Xa a5;clear a5;have P:=Xa E;have al:=Xa hP;have em:=Xa ds;clear E hP ds;unfold kr;gi_wp2;have a6:Below U.heap.size U (U.alloc<|.cells #[.slice p.ua p.us.length p.uc,.slice p.da p.ds.length p.dc] 149):=Xb (Below.refl _ _) _;refine em _ _ ⟨a6.size,λk o d _=>(a6.block k (aS.1 d).1).trans d⟩ (Zf.of_below a6<|oN P.sz) ⟨XO (Lt.own HJ oM oM (oN l.lt) oM) P a6,ce⟩ (pN al a6) ⟨U.heap.size,rfl,P.sz,?_,?_⟩;·simp[go_sem]
  simp[go_sem]
 case body=>
  rintro l' _ w p a' U _ _ _⟨E,a5⟩ hP ⟨R,rfl,b0⟩ gx;have ce:=Xa a5;clear a5;have P:=Xa E;have al:=Xa hP;have zl:=E.lv;have zy:=E.y;have zx:=E.bx;have p0:=b0.c0;have p1:=b0.c1;have gq:=b0.ge;have gr:R<U.heap.size:=aI U _ p0;have g4:=E.sz;have Q:=Xa al.1;have cg:Hs ((X9 p.ds).map Int.ofNat=p.ds):=Xa (Kv λv hv=>(Q.2.1 v hv).1);have dd:Hs ((X9 p.us).map Int.ofNat=p.us):=Xa (Kv λv hv=>(Q.1 v hv).1);have db:Hs (∀I∈X9 p.ds,I<V):=Xa (λI ht=>by
   obtain⟨aj,hz,rfl⟩:=aY.1 ht;have:=Q.2.1 aj hz;omega)
  have ep:Hs (∀I∈X9 p.us,I<V):=Xa (λI ht=>by
   obtain⟨aj,hz,rfl⟩:=aY.1 ht;have:=Q.1 aj hz;omega)
  have cf:Hs (∀I∈X9 p.ds,I<64*f):=Xa (λI ht=>by
   obtain⟨aj,hz,rfl⟩:=aY.1 ht;have:=Q.2.1 aj hz;omega)
  have dc:Hs (∀I∈X9 p.us,I<64*f):=Xa (λI ht=>by
   obtain⟨aj,hz,rfl⟩:=aY.1 ht;have:=Q.1 aj hz;omega)
  have ck:p.ds.length<=4000:=Q.2.2.2;have d2:p.us.length<=4000:=Q.2.2.1;let⟨u,ao⟩:∃ef,ef=(w.map Pl.dat).foldl VI s:=⟨_,rfl⟩;have c9:Hs (Ib V f u):=Xa (by rw[ao];exact ce);have da:Hs (Ib V f<|((w++[p]).map Pl.dat).foldl VI s):=Xa (by
   rw[bG,dT,<-ao];exact l9 (Aq (l9 c9 db) _) ep)
  have di:Hs (XA u):=Xa (by rw[ao];exact AN _ f0);have bt:Hs (Bf U a f r u):=Xa (by rw[ao];exact P.ws);have az:=Xa ao;clear E hP b0 ao;have cv:=Xa (ZG a f r p.ds.length p.dc u p.da (X9 p.ds) j.heap.size U.heap.size U (Xa<|by rw[cg.o];exact al.2.2) (Xa<|by simp[X9]) ck cf oM di bt (aA _) oM);gi_wp2;refine⟨trivial,(CallsIn.inRound l'<|bM.2 cv).mono ?_⟩;rintro i M⟨rfl,k1,d4⟩;have q1:∀(g m:Nat)(v:Value),g≠a->U.cell? (Hk g m)=some v->M.cell? (Hk g m)=some v:=λg m v d e=>(Xc<|k1.block g (aI U _ e) λi=>d<|by injection i).trans e
  have b6:=q1 _ _ _ oM zl;have b8:=q1 _ _ _ oM zy;have b7:=q1 _ _ _ (oN l.lt) zx;have b4:=q1 _ _ _ oM p0;have b5:=q1 _ _ _ oM p1;have g5:=k1.size;have Y:=Xa k1;have a0:=Xa d4;have a2:Hs (XA<|C3 u (X9 p.ds)):=Xa<|Zs _ di;have cz:=Xa<|YZ al.2.2 k1 oM;have c6:=Xa<|YZ al.2.1 k1 oM;clear k1 d4 q1 cv zl zy zx p0 p1;let⟨C,b1,bw⟩:=P.js;have br:=Xa b1;have c7:=Xa<|ax.o a C U M oM bw Y;clear b1 bw;have gz:C.length<=w.length:=by
   have d:=fI List.length br;rw[bK]at d;have e:=nQ x.is.length (w.map Pl.dat) s;rw[bK]at e;omega
  have gg:Hs (p.dat=(p.i,p.us,p.ds)):=Xa rfl;by_cases bz:p.i<=x.is.length
  .have dj:=Xa<|HY.o a C ⟨p.i,r,C3 u<|X9 p.ds⟩ M oM c7 ⟨⟨bz,l9 c9 db⟩,a0,a2⟩ oM;let⟨fn,tmps,gi,bo,hy,hR⟩:=KY (l':=l') (m':=5) dj;have d5:(Instr.yield T #[Hp (p.i:Int),.agg #[Hl a f r]]).run prog M=_:=hy;have fq:(p.i:Int)<=(x.is.length:Int):=oM;clear hy dj;gi_wp2;refine hR.mono ?_;rintro i L (⟨rfl,a3,z,a7⟩|⟨rfl,a3,z,a7⟩);rotate_left
   .have cc:=Xa a3;have Z:=Xa z;have ar:=Xa a7;clear a3 z a7 hR d5;gi_wp2;refine⟨((Jc Y bt.obj).from _).trans ⟨ar.size,λk o d e n=>ar.same k o oM e n⟩,(Zg Y (aZ rfl) oM).trans ⟨Z.size,λk d e=>Z.low k d λh=>e<|bC h,λk o d e n=>Z.cells k o (λh=>d<|bC h) e n⟩,rfl,_,?_,cc⟩;rw[bG,bG,br.o];show _=TZ x.is.length s (w.map Pl.dat++[p.dat]);rw[Ky,<-az.o];unfold Id;rw[aU<|show p.dat.1<=x.is.length from bz];rfl
   have cc:=Xa a3;have Z:=Xa z;have ar:=Xa a7;have g6:=z.size;have bc:=z.cell b6 (S _<|by show y.heap.size<=D.heap.size;omega);have bl:=z.cell b8 (S _<|by show y.heap.size<=W.heap.size;omega);have bf:=z.cell b7 fb;have ba:=z.cell b4 (S _<|by show y.heap.size<=R;omega);have bb:=z.cell b5 (S _<|by show y.heap.size<=R;omega);have df:Hs (Bf L a f r<|C3 u (X9 p.ds)):=Xa (a0.of_block (by
    let⟨o,d,e⟩:=a0.obj;rw[d];exact z.cells a o (S _ ge) d e))
   have el:Hs (Xf L j.heap.size L.heap.size p.da p.ds):=Xa (λcl hi=>by
    let⟨b,o,i,hb,hc⟩:=cz cl hi;exact⟨b,o,i,⟨hb.1,oM⟩,z.cell hc<|S _ (by show y.heap.size<=b;omega)⟩)
   have ca:Hs (Xf L j.heap.size L.heap.size p.ua p.us):=Xa (λcl hi=>by
    let⟨b,o,i,hb,hc⟩:=c6 cl hi;exact⟨b,o,i,⟨hb.1,oM⟩,z.cell hc<|S _ (by show y.heap.size<=b;omega)⟩)
   clear a3 z a7 hR d5 b6 b8 b7 b4 b5;have ap:=Xa (JL a f r p.ds.length p.dc (C3 u<|X9 p.ds) p.da (X9 p.ds) j.heap.size L.heap.size L (Xa<|by rw[cg.o];exact el) (Xa<|by simp[X9]) ck cf oM a2 df (aA _) oM);gi_wp2;refine⟨trivial,(CallsIn.inRound l'<|bM.2 ap).mono ?_⟩;rintro i t⟨rfl,H,a8⟩;have B:∀(g m:Nat)(v:Value),g≠a->L.cell? (Hk g m)=some v->t.cell? (Hk g m)=some v:=λg m v d e=>(Xc<|H.block g (aI L _ e) λi=>d<|by injection i).trans e;have bd:=B _ _ _ oM bc;have bm:=B _ _ _ oM bl;have bi:=B _ _ _ (oN l.lt) bf;have cm:=B _ _ _ oM ba;have co:=B _ _ _ oM bb;have gb:=H.size;have aa:=Xa H;have a1:=Xa a8;have cb:=Xa<|YZ ca H oM;clear H a8 B ap bc bl bf ba bb;have aq:=Xa (ZG a f r p.us.length p.uc (G7 (C3 u<|X9 p.ds) (X9 p.ds)) p.ua (X9 p.us) j.heap.size t.heap.size t (Xa<|by rw[dd.o];exact cb) (Xa<|by simp[X9]) d2 dc oM (Xa<|JX _ a2) a1 (aA _) oM);gi_wp2;refine⟨trivial,(CallsIn.inRound l'<|bM.2 aq).mono ?_⟩;rintro i V4⟨rfl,N,a9⟩;have O:∀(g m:Nat)(v:Value),g≠a->t.cell? (Hk g m)=some v->V4.cell? (Hk g m)=some v:=λg m v d e=>(Xc<|N.block g (aI t _ e) λi=>d<|by injection i).trans e;have cp:=O _ _ _ oM bd;have cr:=O _ _ _ oM bm;have cq:=O _ _ _ (oN l.lt) bi;have gc:=N.size;have ab:=Xa N;have ci:=Xa a9;clear N a9 O aq bd bm bi cm co;gi_wp2;have ad:∀{A F:World},A.grownBy F (some a)->X<=A.heap.size->Zf X (λq=>K q\/q=a) A F:=λh d=>Zg h (aZ rfl) d;have af:∀{A F:World},A.grownBy F (some a)->(∃o:Obj,A.heap[a]?=some o/\o.isCells=true)->KeepsFrom j.heap.size A F:=λh d=>(Jc h d).from _;have g2:C3 (G7 (C3 u<|X9 p.ds) (X9 p.ds)) (X9 p.us)=VI u p.dat:=rfl;have g1:C3 u (X9 p.ds)=Uo u p.dat:=rfl;have cd:=ax a _ t V4 oM (ax a _ L t oM cc aa) ab;refine⟨(((af Y bt.obj).trans ⟨ar.size,λk o d e n=>ar.same k o oM e n⟩).trans (af aa df.obj)).trans (af ab a1.obj),(((ad Y oM).trans ⟨Z.size,λk d e=>Z.low k d λh=>e<|bC h,λk o d e n=>Z.cells k o (λh=>d<|bC h) e n⟩).trans (ad aa oM)).trans (ad ab oM),⟨⟨⟨_,?_,cd⟩,cr,cp,?_,cq,oM⟩,da⟩⟩
   .rw[bG,bG,br.o];show _=TZ x.is.length s (w.map Pl.dat++[p.dat]);rw[Ky,<-az.o];unfold Id;rw[aU<|show p.dat.1<=x.is.length from bz];rfl
   rw[bG,dT,<-az.o];exact ci
  have gv:(x.is.length:Int)<(p.i:Int):=oM;have fq:decide ((p.i:Int)<=(x.is.length:Int))=false:=by simp;omega
  have bc:=b6;have bl:=b8;have bf:=b7;have ba:=b4;have bb:=b5;have ca:=c6;clear b6 b8 b7 b4 b5;have ap:=Xa (JL a f r p.ds.length p.dc (C3 u<|X9 p.ds) p.da (X9 p.ds) j.heap.size M.heap.size M (Xa<|by rw[cg.o];exact cz) (Xa<|by simp[X9]) ck cf oM a2 a0 (aA _) oM);gi_wp2
  repeat (refine⟨λgm hf=>(by cases hf),?_⟩;gi_wp2)
  refine⟨trivial,(CallsIn.inRound l'<|bM.2 ap).mono ?_⟩;rintro i t⟨rfl,H,a8⟩;have B:∀(g m:Nat)(v:Value),g≠a->M.cell? (Hk g m)=some v->t.cell? (Hk g m)=some v:=λg m v d e=>(Xc<|H.block g (aI M _ e) λi=>d<|by injection i).trans e;have bd:=B _ _ _ oM bc;have bm:=B _ _ _ oM bl;have bi:=B _ _ _ (oN l.lt) bf;have cm:=B _ _ _ oM ba;have co:=B _ _ _ oM bb;have gb:=H.size;have aa:=Xa H;have a1:=Xa a8;have cb:=Xa<|YZ ca H oM;clear H a8 B ap bc bl bf ba bb;have aq:=Xa (ZG a f r p.us.length p.uc (G7 (C3 u<|X9 p.ds) (X9 p.ds)) p.ua (X9 p.us) j.heap.size t.heap.size t (Xa<|by rw[dd.o];exact cb) (Xa<|by simp[X9]) d2 dc oM (Xa<|JX _ a2) a1 (aA _) oM);gi_wp2;refine⟨trivial,(CallsIn.inRound l'<|bM.2 aq).mono ?_⟩;rintro i V4⟨rfl,N,a9⟩;have O:∀(g m:Nat)(v:Value),g≠a->t.cell? (Hk g m)=some v->V4.cell? (Hk g m)=some v:=λg m v d e=>(Xc<|N.block g (aI t _ e) λi=>d<|by injection i).trans e;have cp:=O _ _ _ oM bd;have cr:=O _ _ _ oM bm;have cq:=O _ _ _ (oN l.lt) bi;have gc:=N.size;have ab:=Xa N;have ci:=Xa a9;clear N a9 O aq bd bm bi cm co;gi_wp2;have ad:∀{A F:World},A.grownBy F (some a)->X<=A.heap.size->Zf X (λq=>K q\/q=a) A F:=λh d=>Zg h (aZ rfl) d;have af:∀{A F:World},A.grownBy F (some a)->(∃o:Obj,A.heap[a]?=some o/\o.isCells=true)->KeepsFrom j.heap.size A F:=λh d=>(Jc h d).from _;have cd:=ax a _ t V4 oM (ax a _ M t oM c7 aa) ab;refine⟨((af Y bt.obj).trans (af aa a0.obj)).trans (af ab a1.obj),((ad Y oM).trans (ad aa oM)).trans (ad ab oM),⟨⟨⟨_,?_,cd⟩,cr,cp,?_,cq,oM⟩,da⟩⟩
  .rw[bG,br.o];show _=TZ x.is.length s (w.map Pl.dat++[p.dat]);rw[Ky,<-az.o];unfold Id;rw[aM (show ¬p.dat.1<=x.is.length from bz),fF]
  rw[bG,dT,<-az.o];exact ci
 case done=>
  rintro ee _ xs U hD _ du⟨E,_⟩ a4;have P:=Xa E;have ay:=Xa a4;have er:=Xa du;clear E a4 du;gi_wp2;let⟨C,b1,bw⟩:=P.js;refine YK ay ⟨.tuple #[],gV rfl _ _ _,⟨_,rfl⟩,.inl ⟨a,C,oM,by rw[b1,er.o],(HJ a).putObj _ bw oM ay rfl⟩⟩
 rintro ee c w U hD dw⟨rfl,C,s1,s2⟩ a4;have es:=Xa s1;have et:=Xa s2;have ay:=Xa a4;have ey:=Xa dw;clear s1 s2 a4 dw;gi_wp2;exact YK ay ⟨.tuple #[],gV rfl _ _ _,⟨_,rfl⟩,.inr ⟨C,by rw[es.o];exact yB _ _ ey,c8.putObj _ et oM ay rfl⟩⟩
end
section
attribute [local go_sem] Oper.semAt_some
theorem MU.lou{go:Nat->Nat}(h:MU w v m k x B g f go F M N)(e:Jy n x)(y:m=x.length):∀b,b<m->∀a,a<64*k->(Xh (N b) a=true↔UV x a b):=λb j a i=>by
 let⟨I,T,u,p,q1,q2,o,q,r,s⟩:=h.inn;have l:=λb j a i=>(r b j a i).trans (Dy e q1 q2 o (ord:=(·∈p)) q oM);have d:b<x.length:=oM;rw[s b j a,o b d,<-KE e d];constructor
 .rintro(h|⟨t,c,h⟩);·exact bC h
  exact aZ ⟨t,c,(l t (oN<|e.okf.tg _ d _ c) a i).1 h⟩
 rintro(h|⟨t,c,h⟩);·exact bC h
 exact aZ ⟨t,c,(l t (oN<|e.okf.tg _ d _ c) a i).2 h⟩
theorem Ep(x:Xe)(a:Nat->Nat)(b:i<=x.is.length):∃W,(i,W)∈TZ x.is.length a (Hw x):=by
 rw[my];cases i with
 |zero=>exact⟨_,fB _<|cS.2 rfl⟩
 |succ j=>
  refine⟨_,dD _<|aY.2 ⟨⟨j,b⟩,?_,rfl⟩⟩;unfold Us;rw[aW sP];exact kU.2<|lX _
end
section
noncomputable def it(a:List Xe)(V b:Nat):List (List Nat):=match a[b]? with
 |none=>[]
 |some x=>((Us x.is.length 0).map λj:Fin x.is.length=>Uq a x V b<|(j:Nat)+1)++[Uq a x V b 0]
noncomputable def Zw(a:List Xe)(V k:Nat):List (List Nat):=(List.range k).flatMap (it a V)
theorem VJ(a:List Xe)(V k:Nat):Zw a V (k+1)=Zw a V k++it a V k:=by
 unfold Zw;rw[dN,eZ];simp
theorem xw(a:List Xe)(V:Nat){k n:Nat}(h:k<=n):Zw a V k <+: Zw a V n:=by
 induction n with
 |zero=>rw[show k=0 by omega];exact mD _
 |succ n b=>
  by_cases e:k=n+1;·rw[e];exact mD _
  rw[VJ];exact(b oM).trans (List.prefix_append _ _)
theorem Am{V:Nat}{a:List Xe}(f:Jy V a){b:Nat}(d:b<a.length){c:Nat->Nat}{p:Nat}(e:V<=p)(hq:∀v,v<p->(Xh c v=true↔UV a v b)):(TZ a[b].is.length c (Hw a[b])).map (λq=>Hc q.2 p)=it a V b:=by
 rw[gH (g:=λq=>Uq a a[b] V b q.1) λq h=>uj f d e hq (i:=q.1) (W:=q.2) h,my];unfold it;rw[aC d];simp
def L4(p:Nat)(s:Sd):List Nat:=Hc s.W p
theorem rX(p:Nat)(a:List Sd):a.map (L4 p)=(a.map Sd.dat).map (λq=>Hc q.2 p):=by
 rw[jO];rfl
def k9(V a z:Nat)(p:Sd)(U:World):Prop:=Ib V a p.W/\uw a z p U
def tM(a z:Nat)(s:Sd):Array Value:=#[.agg #[.slice (some ⟨z,0,none⟩) a s.C]]
theorem Zf.far{n₀:Nat}{Ms:Nat->Prop}{u A V:World}(h:Zf n₀ Ms u A)(e:n₀<=u.heap.size)(k:∀q,q<u.heap.size->V.heap[q]?=A.heap[q]?)(d:A.heap.size<=V.heap.size):Zf n₀ Ms u V :=
 ⟨aJ h.size d,λq b a=>(k q oM).trans (h.low q b a),λq o b a c=>(k q (aS.1 a).1).trans (h.cells q o b a c)⟩
theorem Kd{B:Nat}{u A V:World}(h:KeepsFrom B u A)(k:∀q,q<u.heap.size->V.heap[q]?=A.heap[q]?)(d:A.heap.size<=V.heap.size):KeepsFrom B u V :=
 ⟨aJ h.size d,λq o b a c=>(k q (aS.1 a).1).trans (h.same q o b a c)⟩
structure Lm(W u:World)(n₀:Nat)(Ms:Nat->Prop)(J:Nat->List Sd->World->Prop)(s0:List Sd)(z:Nat)(ss:List Sd)(V:World):Prop where
 j:J z (s0++ss) V
 kp:Zf n₀ Ms u V
 kf:KeepsFrom W.heap.size u V
structure MX(W u:World)(Jx:List Sd->World->Prop)(s0 ss:List Sd)(V:World):Prop where
 j:Jx (s0++ss) V
 kf:KeepsFrom W.heap.size u V
section
variable {W u: World} {n₀: Nat} {Ms: Nat -> Prop} {J: Nat -> List Sd -> World -> Prop} {Jx: List Sd -> World -> Prop} {s0: List Sd}
theorem Lm.own(b:∀z,OwnFrom W.heap.size<|J z)(d:W.heap.size<=u.heap.size)(c:n₀<=u.heap.size)(z:Nat):OwnFrom u.heap.size (Lm W u n₀ Ms J s0 z):=λj A V row h k q=>by
 have g:=h.kp.size;have a:∀i,i<u.heap.size->V.heap[i]?=A.heap[i]?:=λi f=>k.block i oM (λe=>by have:=(q i e.symm).1;omega);exact⟨b z _ A V row h.j k λr e=>⟨oN<|(q r e).1,(q r e).2⟩,h.kp.far c a k.size,Kd h.kf a k.size⟩
theorem MX.own(a:OwnFrom W.heap.size Jx)(c:W.heap.size<=u.heap.size):OwnFrom u.heap.size (MX W u Jx s0):=λg A V row h k q=>by
 have f:=h.kf.size;have b:∀i,i<u.heap.size->V.heap[i]?=A.heap[i]?:=λi d=>k.block i oM (λe=>by have:=(q i e.symm).1;omega);exact⟨a _ A V row h.j k λr e=>⟨oN<|(q r e).1,(q r e).2⟩,Kd h.kf b k.size⟩
theorem Lm.turn(d:∀z s V a,W.heap.size<=z->J z s V->V.grownBy a (some z)->J z s a)(g:W.heap.size<=u.heap.size)(f:n₀<=u.heap.size){z:Nat}(m:u.heap.size<=z){c:List Sd}{A V:World}(h:Lm W u n₀ Ms J s0 z c A)(k:A.grownBy V (some z)):Lm W u n₀ Ms J s0 z c V:=by
 have l:=h.kp.size;have b:∀i,i<u.heap.size->V.heap[i]?=A.heap[i]?:=λi j=>k.block i oM (λe=>by injection e with e;omega);exact⟨d z _ A V oM h.j k,h.kp.far f b k.size,Kd h.kf b k.size⟩
end
end
section
attribute [local go_sem] Oper.semAt_some
theorem xu(C r aq ab V n c a:Nat)(ar:Option Addr)(H:Nat->Prop)(s:List Xe)(w:World)(c6:w.cell? (Hk r 0)=some (Hp V))(e6:w.cell? (Hk r 1)=some (.slice ar n c))(ha:Hs (Xp w aq ab ar s))(hx:Hs (n=s.length))(hB:ab<=C)(fs:C<=w.heap.size)(hO:Hs (Yy w))(hT:Hs (Yb w))(c7:(0: Nat)<C)(c8:(1: Nat)<C)(z:Hs (Jy V s))(b3:Hs (a=(V+63)/64))(hM:Hs (∀k,aq<=k->k<ab->¬H k))(Q:Hs (∀k,w.heap.size<=k->¬H k))(cs:Hs (¬H 0))(ct:Hs (¬H 1)) :
 gy Fence.wide 9 prog 105 #[Hn r] (tM a) (k9 V a) (Zf C H) (λh=>h.map (L4<|64*a)=Zw s V n) (λh=>h.map (L4<|64*a) <+: Zw s V n) (n*4002) True True w:=by
 intro v bw Jx W hW hl hJ cp cq co hY h0;have HY:=Xa hY;have HJ:=Xa hJ;have ei:=Xa cp;have ej:=Xa<|cq trivial;have bn:=Xa<|co trivial;have H0:=Xa h0;clear hY hJ cq h0 cp co;have dj:=hW.size;have hn:n<=1000:=oP hx.o z.okf.n2;have hV:=z.vle;have ey:a<=100:=oN b3.o;have cx:V<=64*a:=oN b3.o;have cm:r<w.heap.size:=aI w _ c6;have k0:=oB hW c6 cm;have k1:=oB hW e6 cm;refine callsIn_of_wp_marks func105 rfl trivial ?_ rfl;simp only[ntmps105,xY,Nat.reduceAdd,Nat.reduceSub];have dk:=λx=>(bP W x (Hk r 0) (by show r<_;omega)).trans k0;have dl:=λx=>(bP W x (Hk r 1) (by show r<_;omega)).trans k1;gi_wp2;have bi:Hs (Below W.heap.size W<|W.alloc (.cells #[.func (.yield v) #[] #[]] 180)):=Xa<|Xb (Below.refl _ _) _;have di:(W.alloc<|.cells #[.func (.yield v) #[] #[]] 180).cell? (Hk W.heap.size 0)=some (.func (.yield v) #[] #[]):=by simp[go_sem]
 have ga:(W.alloc<|.cells #[.func (.yield v) #[] #[]] 180).heap.size=W.heap.size+1:=sP;have a0:=dk<|.cells #[.func (.yield v) #[] #[]] 180;have a1:=dl<|.cells #[.func (.yield v) #[] #[]] 180;generalize W.alloc _=wa at*;clear dk dl k0 k1;have bl:=Xa<|hW.trans (bi.mono dj);have bm:=Xa<|KO V ar n c s aq ab wa (Xa<|ha.keep (bl.mono oM)) hx oM z (Xa<|hO.keep bl hO.1) (Xa<|hT.keep bl hT.1);rw[<-b3.o]at bm;refine⟨trivial,(bM.2 bm).mono ?_⟩;rintro bc m⟨Gi,p,gi,go,ci,WI,WX,rfl,l⟩;have ca:=Xa<|l.lou z hx;have b5:=Xa l.low;have fx:=l.low.size;have fc:wa.heap.size<=p/\p<m.heap.size:=⟨l.b1.2,l.so.row.lt⟩;have ch:=Xa l.so;have ef:=Xa λe8 hi=>(l.b2 e8 hi).2;have et:Hs (∀b,XA<|WX b):=Xa l.wx;have b0:=(XU l.low oM).trans a0;have b1:=(XU l.low oM).trans a1;have y1:=(XU l.low oM).trans di;have ev:=λx=>(bP m x (Hk r 1) (by show r<_;omega)).trans b1;clear l bm a0 a1 di;gi_wp2;have bx:(λZ:World=>Hs (Below m.heap.size m Z)/\Z.cell? (Hk m.heap.size 1)=some (Hl p n n)/\Z.heap.size=m.heap.size+1) (m.alloc<|.cells #[Hl Gi n n,Hl p n n] 89):=⟨Xa<|Xb (Below.refl _ _) _,(by simp[go_sem]),sP⟩;generalize m.alloc _=w2 at*;let⟨a7,da,fz⟩:=bx;have ck:=Xa<|Xg (Xg bi b5) a7;have cl:=Xa<|hW.trans (ck.mono dj);have eu:=Xa<|(XU a7 oM).trans y1;have em:=Xa da;have br:Hs (XK w2 p n a go (λ_=>a) WX):=Xa<|ch.keep a7;have ac:=Xa<|H0.o W.heap.size w2 (aA _) oM ck;clear da y1 b0 b1 ev a7 b5 ch bi;refine nH (λaa wr=>∃(k G:Nat)(P:List Nat)(h:List Sd)(u4 u5 dn du dw d0 d1 d2 d3 d4 d5 eb ec b4:Value),k<=n/\aa=⟨#[.func (.yield v) #[] #[],Hn r,Hn W.heap.size,Hn m.heap.size,u4,u5,undef,undef,.agg #[Hp V,.slice ar n c],.agg #[Hl Gi n n,Hl p n n],Ho r 1,.slice ar n c,Hp n,Hp k,dn,du,dw,d0,d1,d2,d3,d4,d5,eb,ec,undef,undef,undef,undef,undef,undef,b4],mks P⟩/\Hs (Zf C H w2 wr)/\Hs (KeepsFrom W.heap.size w2 wr)/\Hs (ZJ wr w2.heap.size P)/\W.heap.size<=G/\Hs (bw G h wr)/\Hs (h.map (L4<|64*a)=Zw s V k)/\Hs (h.length<=k*4002)) (λaa _=>n-(intOf<|aa.tmps.getD 13 undef).toNat) ?_ ?_;·exact⟨0,W.heap.size,[],[],_,_,_,_,_,_,_,_,_,_,_,_,_,_,aN _,rfl,Xa<|Zf.refl _,Xa<|KeepsFrom.refl _ _,Xa ⟨iU,λ_ i=>absurd i eA,λ_ i=>absurd i eA⟩,aA _,ac,Xa rfl,Xa<|aN _⟩
 rintro aa wr⟨k,G,P,h,u4,u5,dn,du,dw,d0,d1,d2,d3,d4,d5,eb,ec,b4,hk,rfl,ao,ek,O,hz,b7,bv,b8⟩;clear ac;have gc:=ao.size;by_cases I:k<n
 .have T:k<s.length:=oN hx.o;let⟨b,ad,ea,cz,hc⟩:=ha k T;subst ea;let⟨L,M,J,K,e0,e1,⟨e2,e3,e4,e5⟩,dc,c9⟩:=hc;have ez:b<w.heap.size:=oM;have S:∀(q:Nat)(y:Value),w.cell? (Hk b q)=some y->wr.cell? (Hk b q)=some y:=λq y i=>ao.cell (oB cl i ez) (hM b cz.1 cz.2);have f0:=S _ _ e0;have f1:=S _ _ e1;have f2:=S _ _ e2;have f3:=S _ _ e3;have f4:=S _ _ e4;have f5:=S _ _ e5;have cf:=Xa dc;have b6:=Xa c9;have ap:=Xa<|z.lens s[k] (aH T);have ce:=Xa<|nM z (aH T);have cd:=Xa<|z.ops s[k] (aH T);have cj:=Xa<|z.kind s[k] (aH T);have bt:=Xa<|Am z T cx (ca k I);let⟨X,hX⟩:∃X,X=s[k]:=⟨_,rfl⟩;rw[<-hX]at f0 f1 f2 f3 f4 f5 cf b6 ap ce cd cj bt;clear hX dc c9 e0 e1 e2 e3 e4 e5 S;gi_wp2
  have bx:(λZ:World=>Below wr.heap.size wr Z/\wr.heap.size+1<=Z.heap.size/\(∀q y,#[Value.slice L X.ps.length M,.slice J X.is.length K,Hp X.te.kind,Hp X.te.a,Hp X.te.to,Hp X.te.els][q]?=some y->Z.cell? (Hk wr.heap.size q)=some y)) (wr.alloc<|.cells #[.slice L X.ps.length M,.slice J X.is.length K,Hp X.te.kind,Hp X.te.a,Hp X.te.to,Hp X.te.els] 46):=⟨Xb (Below.refl _ _) _,sP,(λq y i=>by
   rw[eC];exact i)⟩
  generalize wr.alloc _=g at*;let⟨bd,gb,Y⟩:=bx;have x0:=Y 0 _ rfl;have x1:=Y 1 _ rfl;have x2:=Y 2 _ rfl;have x3:=Y 3 _ rfl;have x4:=Y 4 _ rfl;have x5:=Y 5 _ rfl;have s1:=(bd.cell (p:=Hk m.heap.size 1) (by show m.heap.size<_;omega)).trans (ao.cell em<|Q _ (by show w.heap.size<=m.heap.size;omega));have s2:=(bd.cell (p:=Hk p k) (by show p<_;omega)).trans (ao.cell (br.row.cell I) (Q _<|by show w.heap.size<=p;omega));have ed:=Xa bd;clear bd Y f0 f1 f2 f3 f4 f5;refine Tc (λN=>N.cell? (Hk wr.heap.size 0)=some (.slice L X.ps.length M)/\N.cell? (Hk wr.heap.size 1)=some (.slice J X.is.length K)/\N.cell? (Hk wr.heap.size 2)=some (Hp X.te.kind)/\N.cell? (Hk wr.heap.size 3)=some (Hp X.te.a)/\N.cell? (Hk wr.heap.size 4)=some (Hp X.te.to)/\N.cell? (Hk wr.heap.size 5)=some (Hp X.te.els)/\N.cell? (Hk m.heap.size 1)=some (Hl p n n)/\N.cell? (Hk p k)=some (Hl (go k) a a)) λhHeld=>?_;refine Yi 0 ?_;refine Yi 1 ?_;refine Yi 2 ?_;refine Yi 3 ?_;refine Yi 4 ?_;refine Yi 5 ?_;refine Yc 6 λfa hK=>?_;go_simp;refine⟨trivial,(sU 8 _ _ _ _ _ _ (go k) a a g.drew).mono ?_⟩;rintro bc o⟨rfl,a6⟩;have bz:Below g.heap.size g o:=by rw[a6];exact Xb (Xb (Below.refl g.heap.size g).drew _) _
  have f7:g.heap.size+2<=o.heap.size:=by rw[a6,aO,aO];exact aA _
  have R:∀q y,#[Value.slice L X.ps.length M,.slice J X.is.length K,Hp X.te.kind,Hp X.te.a,Hp X.te.to,Hp X.te.els][q]?=some y->o.cell? (Hk g.heap.size q)=some y:=λq y i=>by
   rw[a6,bP _ _ (Hk g.heap.size q) (by rw[aO];show g.heap.size<g.heap.size+1;omega)];exact(eC g.drew _ _ q).trans i
  have dd:o.cell? (Hk (g.heap.size+1) 0)=some (Hl (go k) a a):=by
   rw[a6];have:=eC (g.drew.alloc<|.cells #[.slice L X.ps.length M,.slice J X.is.length K,Hp X.te.kind,Hp X.te.a,Hp X.te.to,Hp X.te.els] 46) #[Hl (go k) a a] 59 0;rw[aO]at this;exact this
  have B:=λ(bb q:Nat)(hb:bb<g.heap.size)=>bz.cell (p:=Hk bb q) hb;have z0:=(B wr.heap.size 0 oM).trans x0;have z1:=(B wr.heap.size 1 oM).trans x1;have z2:=(B wr.heap.size 2 oM).trans x2;have z3:=(B wr.heap.size 3 oM).trans x3;have z4:=(B wr.heap.size 4 oM).trans x4;have z5:=(B wr.heap.size 5 oM).trans x5;have t1:=(B m.heap.size 1 oM).trans s1;have t2:=(B p k oM).trans s2;have aj:=Xa<|Xg ed bz;have a9:=Xa<|ao.trans (Zf.of_below aj oM);have ee:=Xa (ek.trans ⟨aj.size,λq x _ d _=>(aj.block q (aS.1 d).1).trans d⟩);have a5:=λq e d=>(a9.low q e d).trans (cl.block q oM)
  have eq:Hs (UI X aq ab g.heap.size C o.heap.size o):=Xa ⟨hO.of_block (a5 _ c7 cs) oM,hT.of_block (a5 _ c8 ct) oM,⟨L,M,J,K,R 0 _ rfl,R 1 _ rfl,⟨R 2 _ rfl,R 3 _ rfl,R 4 _ rfl,R 5 _ rfl⟩,cf.keepS λq e d=>a5 q oM<|hM q e d,b6.keepS λq e d=>a5 q oM<|hM q e d⟩,oM,oM,c7,c8,oM⟩;have fl:=ef k I;have es:Hs (Bf o (go k) a a (WX k)):=Xa ((br.set k I).of_block (by
   let⟨x,e,d⟩:=(br.set k I).obj;rw[e];exact a9.cells _ x (Q _ oM) e d))
  have ep:=Xa dd;have eg:Hs (∀f V',o.heap.size<=f->Below o.heap.size o V'->bw f h V'):=Xa λf V' e d=>bn.1 G f h wr V' oM b7<|(aj.mono oM).trans (d.mono oM);refine hK _ _ ⟨z0,z1,z2,z3,z4,z5,t1,t2⟩ λhHeld=>?_;clear hK;refine ZV ?_;have cb:Hs (∀(D:Nat)(U:World),o.heap.size<=D->KeepsFrom W.heap.size o U->U.heap[D]?=some (.deferred (some []))->ZJ U w2.heap.size (D::P)):=Xa (λD U e d t=>by
   have hl:=λq hq=>(aS.1<|O.obj q hq).1;refine⟨fL.2 ⟨λhq=>by have:=hl D hq;omega,O.nd⟩,λq hq=>?_,λq hq=>?_⟩
   .rcases cH.1 hq with rfl|hq;·omega
    exact O.ge q hq
   rcases cH.1 hq with rfl|hq;·exact t
   have h5:=O.ge q hq
   exact d.same q _ oM ((aj.block q<|hl q hq).trans (O.obj q hq)) rfl)
  clear hHeld z0 z1 z2 z3 z4 z5 t1 t2 x0 x1 x2 x3 x4 x5 s1 s2 dd B bz R a6 a5;gi_wp2
  refine jw (F:=Fence.wide) (n:=9) rfl vZ (gf:=97) (lb:=#[Hn<|g.heap.size+1,Hn g.heap.size]) rfl trivial (enters_of func97 kR rfl) (qE C (g.heap.size+1) g.heap.size aq ab (go k) a a V H X (WX k) o eq ep es (Xa<|et.o k) ey cx hM (Xa<|Q.o _ oM) (Xa λq hq=>Q q oM) cs ct cd cj ap.1 ap.2 ce (Xa λe9 e d=>((ca k I e9 e).1 d).val z T)) (λG=>me _ _ _ _ G) (λi k=>i.trans k) (λW v ad o' e d t=>Zf.putObj W v ad o' oM d t) (Below.refl _ _) (λ_ _=>rfl)
   (λf=>Lm W o C H bw h f) (λcc F U=>cc=.ret/\MX W o Jx h F U) (λf=>Lm.own HJ oM oM f) ?ownX (λ_ f gd af A' bf i ax=>i.turn ej oM oM bf ax) (λi=>i.elim) ?start
   (λf E a' U=>∃A:Nat,a'=⟨#[.func (.yield v) #[] #[],Hn r,Hn W.heap.size,Hn m.heap.size,Hp k,Hn wr.heap.size,undef,Hn A,.agg #[Hp V,Hm b ad n c],.agg #[Hl Gi n n,Hl p n n],Ho r 1,Hm b ad n c,Hp n,Hp k,.bool true,Hp k,Ho b<|ad+k*6,.agg #[.slice L X.ps.length M,.slice J X.is.length K,Hp X.te.kind,Hp X.te.a,Hp X.te.to,Hp X.te.els],.agg #[.slice L X.ps.length M,.slice J X.is.length K,Hp X.te.kind,Hp X.te.a,Hp X.te.to,Hp X.te.els],Ho m.heap.size 1,Hl p n n,Hp k,Ho p k,.agg #[Hl (go k) a a],.func (.func 97) #[] #[Hn<|g.drew.heap.size+1,Hn g.drew.heap.size],Hp (E.i:Int),.agg #[Hl f a E.C],undef,undef,undef,undef,b4],[]⟩/\o.heap.size<=A/\U.cell? (Hk A 0)=some (Hl f a E.C)) ?ownA ?assign ?body ?done ?stop
  case ownX=>
   rintro cc F af U row⟨rfl,i⟩ ax q;exact⟨rfl,MX.own ei oM F af U row i ax q⟩
  case start=>
   intro f U e d t;exact⟨by rw[fF];exact eg f U e t,Zf.of_below t oM,⟨t.size,λq x _ q2 _=>(t.block q (aS.1 q2).1).trans q2⟩⟩
  case ownA=>
   rintro f E a' _ af U row⟨A,bc,e,d⟩ ax q;refine⟨A,bc,e,(Xc<|ax.block A (aI af _ d) λe2=>?_).trans d⟩;let⟨x,t,h4⟩:=Yn d;let⟨_,o2,h5,h6⟩:=q A e2.symm;rw[show af.heap[A]?=some x from t]at h5;injection h5 with h5;subst h5;rw[h4]at h6;cases h6
  case assign=>
   intro l' f F E U KK bf u hP cr;have j:=Xa u;have ba:=Xa hP;have el:=Xa cr;clear u hP cr;unfold oO;gi_wp2;have a2:Below U.heap.size U (U.alloc<|.cells #[Hl f a E.C] 59):=Xb (Below.refl _ _) _;exact el _ _ ⟨a2.size,λk ad e _=>(a2.block k (aS.1 e).1).trans e⟩ (Zf.of_below a2<|oN j.kp.size) (XO (Lm.own HJ oM oM f) j a2) (pX ba a2) ⟨U.heap.size,rfl,j.kp.size,by simp[go_sem]⟩
  case body=>
   rintro l' f F E a' U bf fq _ u hP⟨A,rfl,fe,fi⟩ fr;have j:=Xa u;have ba:=Xa hP;have HL:Hs ((h++F).length<n*4002):=Xa (by
    have e:=b8.o;have d:=ap.1;rw[aQ];have t:(k+1)*4002<=n*4002:=jI _ I;omega)
   have yb:=u.kp.cell (a9.cell eu<|Q _ (by show w.heap.size<=W.heap.size;omega)) (Q _<|by show w.heap.size<=W.heap.size;omega);clear u hP;let⟨fn,tmps,fb,bo,hy,l⟩:=KY (l':=l') (m':=6) (HY f (h++F) E U oM j.j ⟨ba.1.2,ba.2⟩ HL);have df:(Instr.yield v #[.agg #[Hl f a E.C]]).run prog U=_:=hy;clear hy;gi_wp2;refine l.mono ?_;rintro bc U2 (⟨rfl,ay,a4,a3⟩|⟨rfl,ay,a4,a3⟩)
   .have ac:=Xa ay;have a8:=Xa a4;have al:=Xa a3;clear ay a4 a3 l df;gi_wp2;exact⟨JE al oM,a8,by rw[<-cK];exact ac,j.kp.trans a8,j.kf.trans al⟩
   have ac:=Xa ay;have a8:=Xa a4;have al:=Xa a3;clear ay a4 a3 l df;gi_wp2;exact⟨JE al oM,a8,rfl,by rw[<-cK];exact ac,j.kf.trans al⟩
  case done=>
   rintro D f s' U hD bf cv u az;have j:=Xa u;have bq:=Xa az;have cg:=Xa cv;clear u az cv;gi_wp2;refine⟨⟨k+1,f,D::P,h++s',_,_,_,_,_,_,_,_,_,_,_,_,_,_,oM,rfl,Xa<|a9.trans j.kp,Xa<|ee.trans j.kf,Xa ?mk,oM,Xa j.j,Xa ?ls,Xa ?ln⟩,?ms⟩
   case mk=>exact cb D U hD j.kf bq
   case ls=>
    rw[bG,bv.o,VJ,<-bt.o,<-cg.o,<-rX]
   case ln=>
    have e:=fI List.length cg;rw[bK]at e;have d:=nQ X.is.length (Hw X) (WX k);have t:(Hw X).length=X.is.length+2:=by simp[Hw,Vf]
    have h4:=b8.o;have h5:=ap.1;rw[aQ];omega
   simp[intOf];omega
  rintro D cc F U hD cw⟨rfl,u⟩ az;have j:=Xa u;have bq:=Xa az;have er:=Xa cw;clear u az cw;gi_wp2;have db:=cb D U hD j.kf bq;refine JZ (D::P) U db (λW' q1 q2 q3 q4 q5=>⟨.tuple #[],gV rfl _ _ _,⟨_,rfl⟩,.inr ⟨h++F,?_,bn.2 _ U W' j.j ⟨q1,q2,q3,q4,λq hq=>q5 q λhm=>by have:=db.ge q hm;omega⟩⟩⟩);rw[bG,bv.o,rX];refine List.IsPrefix.trans ?_ (xw s V<|show k+1<=n from I);rw[VJ,<-bt.o];exact(List.prefix_append_right_inj _).2 (er.map _)
 have e7:k=n:=oM;subst e7;gi_wp2;refine JZ P wr O λW' q1 q2 q3 q4 q5=>⟨.tuple #[],gV rfl _ _ _,⟨_,rfl⟩,.inl ⟨G,h,hz,bv,bn.1 G G h wr W' hz b7 ⟨q1,q2,q3,q4,λq hq=>q5 q λhm=>by have:=O.ge q hm;omega⟩⟩⟩
end
section
attribute [local go_sem] Oper.semAt_some
theorem Wx(n:Nat)(a v1:Value)(w:World) :
 CallsIn Fence.wide n prog 55 #[.agg #[a,v1]] w λe b=>e=.returned (.func (.func 105) #[] #[.pointer (some ⟨w.heap.size,0,none⟩)])/\b=w.alloc (.cells #[a,v1] 25):=by
 refine iD func55 rfl trivial ?_ rfl;simp only[ntmps55,xY,Nat.reduceAdd,Nat.reduceSub];gi_wp2;go_ret;exact⟨rfl,rfl⟩
theorem wZ(n a B z:Nat):OwnFrom B (k9 n a z):=λp A V row h k q=>by
 have b:=me n p.i a B z p A V row ⟨⟨aA _,h.1⟩,h.2⟩ k q;exact⟨h.1,b.2⟩
theorem vQ{n a z:Nat}{p:Sd}{V V':World}(h:k9 n a z p V)(k:Below V.heap.size V V'):k9 n a z p V':=⟨h.1,h.2.1.of_block<|k.block z h.2.1.lt,h.2.2⟩
def IA{a:Type}(l:List (List a)):Nat:=(l.map List.length).foldl max 0
theorem xJ{a:Type}(l:List (List a))(x:List a):IA (l++[x])=max (IA l) x.length:=by unfold IA;rw[bG,dT];rfl
section
variable {w6 V V': World} {Bm p: Nat} {pre: List Sd}
end
end
theorem TQ{b:Nat}(a:b<x.length)(V i:Nat):UU x V b i=Xi (Uq x x[b] V b i):=by
 unfold UU;rw[aC a]
theorem Vt{b:Nat}(a:b<x.length):(Tu x b).length=x[b].is.length:=by
 unfold Tu;rw[aC a];simp[Z2]
theorem wO(l:List Nat):∀(a M:Nat),l.foldl max a<=M↔a<=M/\∀x∈l,x<=M:=by
 induction l with
 |nil=>intro a M;simp
 |cons y l b=>
  intro a M;rw[iM,b];simp only[cH,forall_eq_or_imp];rw[Nat.max_le,and_assoc]
theorem TL{a:Type}(l:List (List a))(M:Nat):IA l<=M↔∀x∈l,x.length<=M:=by
 unfold IA;rw[wO];simp
theorem DG{g h:Type}{l:List (List g)}{c:List (List h)}(d:∀x∈l,∃y∈c,y.length=x.length)(f:∀y∈c,∃x∈l,x.length=y.length):IA l=IA c:=by
 refine Nat.le_antisymm ((TL _ _).2 λx a=>?_) ((TL _ _).2 λy b=>?_)
 .let⟨y,b,e⟩:=d x a;rw[<-e];exact(TL _ _).1 (aA _) y b
 let⟨x,a,e⟩:=f y b;rw[<-e];exact(TL _ _).1 (aA _) x a
noncomputable def IM(a:List Xe)(V b:Nat):List (List Int):=(List.range b).flatMap λs=>(List.range<|(Tu a s).length+1).map (UU a V s)
theorem Ve(a:List Xe)(V b:Nat):IM a V (b+1)=IM a V b++(List.range<|(Tu a b).length+1).map (UU a V b):=by
 unfold IM;rw[dN,eZ];simp
theorem Jr{b:Nat}(a:b<x.length):s∈it x n b↔∃i,i<=x[b].is.length/\s=Uq x x[b] n b i:=by
 unfold it;rw[aC a];simp only[bU,aY,cS];constructor
 .rintro(⟨j,_,e⟩|e);·exact⟨(j:Nat)+1,j.isLt,e.symm⟩
  exact⟨0,aN _,e⟩
 rintro⟨i,c,e⟩;cases i with
 |zero=>exact aZ e
 |succ j=>
  refine bC ⟨⟨j,c⟩,?_,e.symm⟩;unfold Us;rw[aW sP];exact kU.2<|lX _
theorem Cw(b:List Xe)(V:Nat):IA (IM b V b.length)=IA (Zw b V b.length):=by
 refine DG (λx d=>?_) λy e=>?_
 .let⟨s,a,h⟩:=bV.1 d;obtain⟨i,c,rfl⟩:=aY.1 h;have a:=bE.1 a;have c:=bE.1 c;rw[Vt a]at c;refine⟨Uq b b[s] V s i,bV.2 ⟨s,bE.2 a,(Jr a).2 ⟨i,oM,rfl⟩⟩,?_⟩;rw[TQ a];simp[Xi]
 let⟨s,a,h⟩:=bV.1 e;have a:=bE.1 a;obtain⟨i,c,rfl⟩:=(Jr a).1 h;refine⟨UU b V s i,bV.2 ⟨s,bE.2 a,aY.2 ⟨i,bE.2 (by rw[Vt a];omega),rfl⟩⟩,?_⟩;rw[TQ a];simp[Xi]
theorem yQ{a:Type}(f:Nat->a)(k:Nat):(List.range<|k+1).map f=(List.range k).map f++[f k]:=by rw[dN,bG];rfl
theorem At(V:Nat)(d:Option Addr)(n c:Nat)(a:List Xe)(L B:Nat)(w:World)(ha:Hs (Xp w L B d a))(g:Hs (n=a.length))(U:Hs (a.length+Xx a<=1048576))(y:B<=w.heap.size)(X:Hs (XJ ⟨(V:Int),a⟩=true))(r:Hs (Jy V a)) :
 Calls prog 7 #[.agg #[Hp V,.slice d n c]] w λl Y=>l=.returned (Hp (IA (Zw a V a.length):Int))/\Below w.heap.size w Y:=by
 have hn:n<=1000:=oP g.o r.okf.n2;have j:=Xa λW (q:Below w.heap.size w W)=>Tr (V:Int) d n c a L B W (Xa<|ha.keep (q.mono y)) g U (oN q.size);have x:=Xa<|WY ⟨(V:Int),a⟩;rw[<-x.o,X.o]at j
 go_in
 go_wp2_with fail
 refine(j _<|Xb (Below.refl _ _) _).mono ?_;rintro l Z⟨rfl,f⟩;have J:=(f.cell (p:=Hk w.heap.size 0) sP).trans (show _=some (Hp V) by simp);have K:=(f.cell (p:=Hk w.heap.size 1) sP).trans (show _=some (.slice d n c) by simp);have h:=Xa<|Xg (Xb (Below.refl w.heap.size w) (.cells #[Hp V,.slice d n c] 25)) f;have u:=Xa<|pS V d n c a L B Z (Xa<|ha.keep (h.mono y)) g (oN h.size) r;go_wp2_with fail
 refine u.mono ?_;rintro l w2⟨gO,cO,aa,rfl,A,ac,z⟩;have H:=Xa z;have F:=Xa<|Xg h A;have G:=Xa<|j6 r;go_wp2
 go_loop [3,5] (λs i=>∃b:Nat,b<=n/\i=Hp b/\s=Hp (IA (IM a V b):Int)) λ_ i=>n-(intOf i).toNat
 case atStart=>exact⟨0,aN _,rfl,rfl⟩
 obtain⟨b,q,rfl,rfl⟩:=hrel;by_cases T:b<n
 .let⟨O,h2,p⟩:=H b T;have Q:=G b;have v:=Xa<|Ve a V b;let⟨m,D⟩:∃m,m=(Tu a b).length:=⟨_,rfl⟩;rw[<-D]at O p Q v;have E:=Xa p;generalize IM a V b=e at*;go_wp2
  go_loop [3,6] (λs i=>∃k:Nat,k<=m+1/\i=Hp k/\s=Hp (IA (e++(List.range k).map (UU a V b)):Int)) λ_ i=>m+1-(intOf i).toNat
  case atStart=>exact⟨0,aN _,rfl,sP⟩
  obtain⟨k,hk,rfl,rfl⟩:=hrel;by_cases S:k<m+1
  .let⟨b',o',o,ab,a',c',C,_⟩:=E k (by simpa using S);simp only[cM,dW]at C;injection o with o;injection o with e1 e2;subst e1 e2;simp only[aV]at C;have af:(k:Int)<(m:Int)+1:=oM;have I:=Xa<|yQ (UU a V b) k;have t:Hs (IA (e++(List.range<|k+1).map (UU a V b))=max (IA<|e++(List.range k).map (UU a V b)) (UU a V b k).length):=Xa (by rw[I.o,<-cK,xJ]);generalize IA (e++(List.range k).map (UU a V b))=M at*;generalize (UU a V b k).length=N at*;by_cases ad:(M:Int)<(N:Int)
   .go_wp2;exact⟨⟨k+1,oM,gM,by rw[t.o,Nat.max_eq_right oM]⟩,by simp[intOf];omega⟩
   go_wp2;exact⟨⟨k+1,oM,gM,by rw[t.o,Nat.max_eq_left oM]⟩,by simp[intOf];omega⟩
  have R:k=m+1:=oM;subst R;rw[<-v.o];go_wp2;exact⟨⟨b+1,oM,gM,rfl⟩,by simp[intOf];omega⟩
 have P:b=n:=oM;subst P;go_wp2;go_ret;exact⟨by rw[g.o,Cw];rfl,F⟩
def Jq(a:List Xe):Prop:=∀b,b<a.length->Re (X8 a) b
open Classical in
noncomputable def E5(v:Int)(a:List Xe):Int:=if XJ ⟨v,a⟩=false then 9 else if ¬Jq a then 10 else if ∃x,Ic a x then 11 else 0
theorem sR:∀(n:Nat)(F:List Nat),(∀b,b<n->b∈F)->n<=F.length
 |0,_,_=>aN _
 |n+1,F,h=>by
  have c:=sR n (F.erase n) λb d=>(iF oM).2 (h b oM);have a:=h n oM;rw[fP a]at c;have:=eJ a;omega
theorem rE(g:UF x){F:List Nat}(f:F.Nodup)(d:∀a,a∈F↔Re (X8 x) a):F.length<=x.length/\(F.length=x.length↔Jq x):=by
 have k:=YS f λa c=>g.re a<|(d a).1 c;refine⟨k,λh b e=>?_,λh=>?_⟩
 .apply dQ
  intro j;have l:=fL.2 ⟨λi=>j<|(d b).1 i,f⟩;have:=YS (n:=x.length) l (λa c=>by
   rcases cH.1 c with rfl|c;·exact e
   exact g.re a<|(d a).1 c)
  rw[bA]at this;omega
 have:=sR x.length F λb e=>(d b).2 (h b e);omega
open Classical in
theorem Uh(h:XJ ⟨t,x⟩=false):E5 t x=9:=by unfold E5;rw[aU h]
open Classical in
theorem qP(h:XJ ⟨t,x⟩=true)(k:¬Jq x):E5 t x=10:=by unfold E5;rw[aM (by rw[h];decide),aU k]
open Classical in
theorem lT(h:XJ ⟨t,x⟩=true)(k:Jq x)(m:∃a,Ic x a):E5 t x=11:=by unfold E5;rw[aM (by rw[h];decide),aM λq=>q k,aU m]
open Classical in
theorem rD(h:XJ ⟨t,x⟩=true)(k:Jq x)(m:¬∃a,Ic x a):E5 t x=0:=by unfold E5;rw[aM (by rw[h];decide),aM λq=>q k,aM m]
theorem K3{A B:List Nat}(g:A.Nodup)(h:∀x∈A,x∈B):A.length<=B.length:=by
 induction A generalizing B with
 |nil=>exact aN _
 |cons a A i=>
  have b:=fL.1 g;have d:∀x∈A,x∈B.erase a:=λx c=>(iF λe=>b.1<|by rw[<-e];exact c).2 (h x<|cN _ c);have f:=i b.2 d;have ha:=h a cI;rw[fP ha]at f;have:=eJ ha;simp only[bA];omega
theorem zw(h:¬s.Nodup):∃a,a∈s/\a∈s.erase a:=by
 induction s with
 |nil=>exact absurd iU h
 |cons b s j=>
  by_cases d:b∈s;·exact⟨b,cI,by rw[List.erase_cons_head];exact d⟩
  have g:¬s.Nodup:=λc=>h<|fL.2 ⟨d,c⟩;let⟨a,e,c⟩:=j g;have i:¬b=a:=λf=>d (by rw[f];exact e);refine⟨a,cN _ e,?_⟩;rw[List.erase_cons_tail<|by simpa using i];exact cN _ c
theorem BV(W:Nat->Nat)(p:Nat):(Hc W p).Nodup:=by
 unfold Hc;exact List.filter_sublist.nodup kS
theorem Cu{col:Nat->Nat}(i:∀c,c<n->(Xh f c=true↔∃v∈s,col v=c))(k:∀v∈s,col v<n):(Hc f n).length<s.length↔¬(s.map col).Nodup:=by
 have j:∀x,x∈Hc f n↔x∈s.map col:=λx=>by
  rw[jo,aY];constructor;·rintro⟨a,b⟩;exact(i x a).1 b
  rintro⟨v,a,rfl⟩;exact⟨k v a,(i _<|k v a).2 ⟨v,a,rfl⟩⟩
 have o:(s.map col).length=s.length:=sP;constructor
 .intro p d;have:=K3 d λx e=>(j x).2 e;omega
 intro d
 let⟨g,a,b⟩:=zw d;have l:∀x∈Hc f n,x∈(s.map col).erase g:=λx e=>by
  by_cases h:x=g;·rw[h];exact b
  exact(iF h).2 ((j x).1 e)
 have m:=K3 (BV f n) l;rw[fP a]at m;have:=eJ a;omega
theorem JF(h:s∈Zw x n x.length)(a:m∈s):m<n:=by
 let⟨d,c,b⟩:=bV.1 h;obtain⟨i,_,rfl⟩:=(Jr<|bE.1 c).1 b;unfold Uq at a;exact bE.1 (fG.1 a).1
theorem WV:l∈IM x n x.length↔∃y∈Zw x n x.length,l=Xi y:=by
 unfold IM Zw;constructor
 .intro h;let⟨s,b,d⟩:=bV.1 h;obtain⟨i,c,rfl⟩:=aY.1 d;have a:=bE.1 b;have c:=bE.1 c;rw[Vt a]at c;exact⟨Uq x x[s] n s i,bV.2 ⟨s,b,(Jr a).2 ⟨i,oM,rfl⟩⟩,TQ a n i⟩
 rintro⟨y,e,rfl⟩;let⟨s,b,d⟩:=bV.1 e;have a:=bE.1 b;obtain⟨i,c,rfl⟩:=(Jr a).1 d;exact bV.2 ⟨s,b,aY.2 ⟨i,bE.2 (by rw[Vt a];omega),TQ a n i⟩⟩
theorem pT{xs:List Xe}{V:Nat}(h:l∈IM xs V xs.length):l.length<=V/\∀x∈l,∃k:Nat,k<V/\x=(k:Int):=by
 obtain⟨y,c,rfl⟩:=WV.1 h;constructor
 .let⟨s,a,d⟩:=bV.1 c;obtain⟨i,f,rfl⟩:=(Jr<|bE.1 a).1 d;have:=m8 xs V s i;rw[TQ<|bE.1 a]at this;exact this
 intro x b;unfold Xi at b;obtain⟨z,e,rfl⟩:=aY.1 b;exact⟨z,JF c e,rfl⟩
def Hh(a:List Int)(v:Nat):Int:=a.getD v 0
def US(a:List Int)(v:Nat):Nat:=(Hh a v).toNat
def Lr(v:Int)(b:List Xe)(a:List Int)(k:Int):Prop:=E5 v b=0/\0<=k/\k<=2000/\(a.length:Int)=v/\(∀c∈a,0<=c/\c<k)/\∀l∈Zw b v.toNat b.length,(l.map<|US a).Nodup
open Classical in
noncomputable def IR(v:Int)(b:List Xe)(a:List Int)(k:Int):Bool:=decide (Lr v b a k)
theorem Jd{v:Int}{xs:List Xe}{cs:List Int}{k:Int}(h:¬Lr v xs cs k):IR v xs cs k=false:=by simp[IR,h]
theorem nK(h:Lr t x l T):IR t x l T=true:=by simp[IR,h]
def UM(b:List Int)(l:List Int)(a:Nat):Int:=Hh b (l.getD a 0).toNat
def Lw(c l:List Int)(d:Nat):Prop:=∀a b,a < d->b < a->UM c l a≠UM c l b
def MN(c l:List Int)(d b:Nat):Prop:=∀a,a < b->UM c l d≠UM c l a
def L9(c:List Int)(b:List (List Int))(i:Nat):Prop:=∀a,a < i->Lw c (b.getD a []) (b.getD a []).length
theorem A5(a l:List Int):Lw a l 0:=λb c h=>absurd h oM
theorem Bw(b l:List Int)(a:Nat):MN b l a 0:=λc h=>absurd h oM
theorem AM(a:List Int)(b:List (List Int)):L9 a b 0:=λc h=>absurd h oM
theorem Aw{b:Nat}(h:MN l L n b)(c:¬UM l L n=UM l L b):MN l L n (b+1):=λa d=>by
 by_cases e:a=b;·subst e;exact c
 exact h a oM
theorem AL(h:Lw l L n)(d:MN l L n n):Lw l L (n+1):=λa b f c=>by
 by_cases e:a=n;·subst e;exact d b c
 exact h a b oM c
theorem BN{a:List (List Int)}(h:L9 l a i)(c:Lw l (a.getD i []) (a.getD i []).length):L9 l a (i+1):=λb d=>by
 by_cases e:b=i;·subst e;exact c
 exact h b oM
theorem Wp(h:∀c∈l,0<=c/\c<t)(v:Nat):0<=Hh l v:=by
 unfold Hh;rw[bF];by_cases a:v<l.length;·rw[aC a];exact(h _<|aH a).1
 rw[dK oM];decide
theorem Vj(ha:n<s.length):UM l (Xi s) n=Hh l s[n]:=by
 unfold UM Xi;rw[bF,dX,aC ha];rfl
theorem sZ(h:∀c∈l,0<=c/\c<t)(y:List Nat):Lw l (Xi y) (Xi y).length↔(y.map<|US l).Nodup:=by
 have n:(Xi y).length=y.length:=by simp[Xi]
 rw[n];show _↔List.Pairwise _ _;rw[gY];simp only[bK,cM];constructor
 .intro a i j k d m e;have:=a j i d m;rw[Vj d,Vj k]at this;have o:=Wp h y[i];have p:=Wp h y[j];unfold US at e;exact this oM
 intro a f b ha g e;rw[Vj ha,Vj oM]at e;exact a b f oM ha g<|by unfold US;rw[e]
theorem sM(h:∀c∈l,0<=c/\c<t):L9 l (IM x n x.length) (IM x n x.length).length↔∀b∈Zw x n x.length,(b.map<|US l).Nodup:=by
 constructor
 .intro d b f;let⟨i,a,e⟩:=bR<|WV.2 ⟨b,f,rfl⟩;have:=d i a;rw[bF,aC a,gR,e]at this;exact(sZ h b).1 this
 intro d i a;rw[bF,aC a,gR];let⟨y,g,e⟩:=WV.1<|aH a;rw[e];exact(sZ h y).2 (d y g)
theorem AP{a b:Nat}(f:l=(IM x t.toNat x.length).getD i [])(d:i<(IM x t.toNat x.length).length)(ha:a<l.length)(c:b<a)(e:UM L l a=UM L l b):¬Lr t x L T:=λh=>by
 have:=(sM h.2.2.2.2.1).2 h.2.2.2.2.2 i d;rw[<-f]at this;exact this a b ha c e
theorem vn(a:List Int)(b:List Xe)(p:Nat)(t:Int)(m:Nat):∀y∈(au a b p t m).2,y.is.length<=4128:=by
 unfold au;split;·simp
 intro y c;simp only[cS]at c;subst c;have:=pE<|IW a b p t;show(ID a b p t).length<=4128;unfold ID;omega
theorem Gz(a:List Int)(c:List Xe)(b:Nat)(x:Xe)(m:Nat)(e:x.is.length<=4000):(IK a c b x m).1.is.length<=4128/\∀y∈(IK a c b x m).2,y.is.length<=4128:=by
 unfold IK;split
 .refine⟨?_,sP⟩;have:=pE<|IW a c b x.te.to;show(x.is.map (ZR a)++ID a c b x.te.to).length<=4128;rw[aQ,bK];unfold ID;omega
 split
 .refine⟨by show(x.is.map<|ZR a).length<=4128;rw[bK];omega,λy d=>?_⟩;rcases bU.1 d with h|h;·exact vn _ _ _ _ _ y h
  exact vn _ _ _ _ _ y h
 exact⟨by show(x.is.map<|ZR a).length<=4128;rw[bK];omega,sP⟩
theorem uY(c:List Int)(a:List Xe)(e:∀x∈a,x.is.length<=4000):∀b,b<=a.length->(∀y∈(ak c a b).1,y.is.length<=4128)/\∀y∈(ak c a b).2,y.is.length<=4128
 |0,_=>by simp[ak]
 |b+1,h=>by
  obtain⟨f,g⟩:=uY c a e b oM;let⟨i,j⟩:=Gz c a b a[b] (a.length+(ak c a b).2.length) (e _<|aH _);rw[iR c a b oM];refine⟨λy d=>?_,λy d=>?_⟩
  .rcases bU.1 d with h|h;·exact f y h
   rw[cS.1 h];exact i
  rcases bU.1 d with h|h;·exact g y h
  exact j y h
theorem Gg(b:List Int)(a:List Xe)(j:a.length<=1000)(e:∀x∈a,x.is.length<=4000):(GI b a).length<=3000/\∀y∈GI b a,y.is.length<=4128:=by
 unfold GI;have g:=ig b a a.length<|aA _;have i:=oX b a a.length<|aA _;let⟨c,d⟩:=uY b a e a.length<|aA _;refine⟨by rw[aQ];omega,λy f=>?_⟩;rcases bU.1 f with h|h;·exact c y h
 exact d y h
theorem GZ(h:IR t x l T=true):Lr t x l T:=by
 unfold IR at h;exact @fV _ (Classical.propDecidable _) h
end Go.Proofs.YtffcajcgkblkoaaGreatDoor
