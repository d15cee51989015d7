import Derived.Laws.Bits128
import Derived.Test.YtghnlncgiihhgaaGreatDoorFV1
import Derived.Test.YtghnlncgiihhgaaGreatDoorMH2
namespace Go.Proofs.YtghnlncgiihhgaaGreatDoor
set_option maxHeartbeats 4000000
set_option maxRecDepth 100000
open Go.RowKit Go.Shelf Go.Proofs.Tryz
variable{s:List Nat}{x:List Xe}{n m k B g i:Nat}{f F:Nat->Nat}{M N:Nat->Nat->Nat}{w v:World}
section
attribute [local go_sem] Oper.semAt_some
theorem BJ(h:XA f)(i:Nat):f i<18446744073709551616:=h i
theorem jw(W:Nat->Nat)(i j:Nat)(a:j<64):Xh W (64*i+j)=(W i).testBit j:=by
 unfold Xh;rw[show(64*i+j) / 64=i by omega,show(64*i+j) % 64=j by omega]
structure am(W:Nat->Nat)(i k y:Nat):Prop where
 le:k<=64
 lt:y<18446744073709551616
 bit:∀j,y.testBit j=((W i).testBit j&&decide (k<=j))
theorem am.start(h:XA f)(i:Nat):am f i 0 (f i):=⟨vY,BJ h i,fun j=>sP⟩
theorem am.next(l:am f n m k)(d:k≠0):am f n (Lib.ctz 64 k+1) (k &&& (k-1))/\lsN f (64*n+(Lib.ctz 64 k+1))=lsN f (64*n+m)++[64*n+Lib.ctz 64 k]/\Lib.ctz 64 k<64/\(k &&& (k-1))<k:=by
 have i:k<2 ^ 64:=l.lt;obtain⟨y,x,p⟩:=gy d i;have h:=AX d i;have v:=Ar d i;have b:=l.bit;have w:k &&& (k-1)<=k-1:=Nat.and_le_right;generalize Lib.ctz 64 k=c at *;have u:m<=c/\(f n).testBit c=true:=by
  have a:=h.1;rw[b,bY,bD]at a;exact⟨a.2,a.1⟩
 refine⟨⟨oM,oM,fun j=>?_⟩,?_,p,oM⟩
 ·rw[v,b]
  by_cases e:j=c
  ·subst e;simp
  ·by_cases e2:j<c
   ·have g:=h.2 j e2
    rw[b]at g;rw[g];have:¬c+1<=j:=oM;simp[this]
   ·have r:m<=j:=oM
    have s:c+1<=j:=oM;simp[e,r,s]
 ·have e:64*n+(c+1)=(64*n+c)+1:=oM
  rw[e];refine Af oM (fun q a g=>?_) (by rw[jw f n c p];exact u.2);obtain⟨j,rfl⟩:∃j,q=64*n+j:=⟨q-64*n,oM⟩;have o:=h.2 j oM;rw[b]at o;rw[jw f n j oM];have t:m<=j:=oM;simpa [t]using o
theorem am.done(h:am f n m 0):lsN f (64*(n+1))=lsN f (64*n+m):=by
 refine iz (oN h.le) (fun q c d=>?_);obtain⟨j,rfl⟩:∃j,q=64*n+j:=⟨q-64*n,oM⟩;rw[jw f n j oM];have a:=h.bit j;have b:m<=j:=oM;simpa [b]using a.symm
theorem A6{W:Nat->Nat}{p q:Nat}(h:p<=q):(lsN W p).length<=(lsN W q).length:=by
 unfold lsN;obtain⟨d,rfl⟩:∃d,q=p+d:=⟨q-p,oM⟩;rw[lI,eU,aQ];omega
theorem Bz(n:Nat)(a:Option Addr)(c b:Nat)(w:World) :
 CallsIn Fence.wide n prog 62 #[.agg #[.slice a c b]] w fun e d=>e=.returned (.func (.func 101) #[] #[.pointer (some ⟨w.heap.size,0,none⟩)])/\d=w.alloc (.cells #[.slice a c b] 45):=by
 refine iD func62 rfl trivial ?_ rfl;simp only[ntmps62,xY,Nat.reduceAdd,Nat.reduceSub]
 gi_wp2
 go_ret
 exact⟨rfl,rfl⟩
end
def Zc(B:Nat):Nat:=(List.range 8).countP fun i=>B.testBit i
def mapB(f:Nat->Nat):Nat->Nat->Nat
 | 0,_=>0
 | n+1,x=>f (x % 256)+256*mapB f n (x / 256)
def Wr(c:Nat):Nat->Nat
 | 0=>0
 | n+1=>c+256*Wr c n
theorem KA(y M:Nat)(a:n<256)(c:m<256):(n+256*y) &&& (m+256*M)=(n &&& m)+256*(y &&& M):=by
 have b:n &&& m<2 ^ 8:=iC jB a;have e1:n+256*y=2 ^ 8*y+n:=oM;have e2:m+256*M=2 ^ 8*M+m:=oM;have e3:(n &&& m)+256*(y &&& M)=2 ^ 8*(y &&& M)+(n &&& m):=oM;rw[e1,e2,e3];apply Nat.eq_of_testBit_eq;intro i;rw[jW,iH _ a,iH _ c,iH _ b];by_cases h:i<8
 ·simp[h]
 ·simp[h]
def f1(B:Nat):Nat:=(B / 2 &&& 85)+(B &&& 85)
def f2(B:Nat):Nat:=(B / 4 &&& 51)+(B &&& 51)
def f3(B:Nat):Nat:=(B / 16+B) &&& 15
theorem xM:∀t,t<2->∀B,B<256->(B / 2+128*t) &&& 85=B / 2 &&& 85:=by decide +kernel
theorem yE:∀t,t<4->∀B,B<256->(B / 4+64*t) &&& 51=B / 4 &&& 51:=by decide +kernel
theorem bk:∀B,B<256->f1 B<256:=by decide +kernel
theorem j8:∀B,B<256->f2 B<256:=by decide +kernel
abbrev kj(B:Nat):Prop:=B % 16<=4/\B / 16<=4
theorem Ao:∀B,B<256->kj (f2 (f1 B)):=by decide +kernel
theorem vQ:∀t,t<=4->∀B,B<256->kj B->B / 16+16*t+B<256/\(B / 16+16*t+B) &&& 15=f3 B:=by decide +kernel
theorem Cn:∀B,B<256->f3 (f2 (f1 B))=Zc B:=by decide +kernel
theorem oD:∀B,B<256->Zc B<=8:=by decide +kernel
theorem fm{f:Nat->Nat}(a:∀B,B<256->f B<256):∀n x,mapB f n x<256 ^ n
 | 0,_=>by simp[mapB]
 | n+1,x=>by
  have b:=fm a n (x / 256);have c:=a (x % 256) (dS _ vY);simp only[mapB,Nat.pow_succ];omega
theorem map_map{f h:Nat->Nat}(a:∀B,B<256->h B<256):∀n x,mapB f n (mapB h n x)=mapB (fun B=>f (h B)) n x
 | 0,_=>rfl
 | n+1,x=>by
  have b:=a (x % 256) (dS _ vY);simp only[mapB];have e1:(h (x % 256)+256*mapB h n (x / 256)) % 256=h (x % 256):=oM;have e2:(h (x % 256)+256*mapB h n (x / 256)) / 256=mapB h n (x / 256):=oM;rw[e1,e2,map_map a n]
theorem my{f h:Nat->Nat}(e:∀B,B<256->f B=h B):∀n x,mapB f n x=mapB h n x
 | 0,_=>rfl
 | n+1,x=>by simp only[mapB];rw[e _ (dS _ vY),my e n]
theorem ro:∀n x,(x / 2 &&& Wr 85 n)+(x &&& Wr 85 n)=mapB f1 n x
 | 0,x=>by simp[Wr,mapB]
 | n+1,x=>by
  have a:x % 256<256:=dS _ vY;have ex:x=x % 256+256*(x / 256):=oM;have d:x / 2=(x % 256 / 2+128*(x / 256 % 2))+256*(x / 256 / 2):=oM;have e:=ro n (x / 256);simp only[mapB,Wr];rw[<-e];have b:x / 2 &&& (85+256*Wr 85 n)=(x % 256 / 2 &&& 85)+256*(x / 256 / 2 &&& Wr 85 n):=by
   rw[d,KA _ _ oM vY,xM _ (dS _ vY) _ a]
  have c:x &&& (85+256*Wr 85 n)=(x % 256 &&& 85)+256*(x / 256 &&& Wr 85 n):=by
   conv=>lhs;rw[ex]
   exact KA _ _ a vY
  rw[b,c];unfold f1;omega
theorem qY:∀n x,(x / 4 &&& Wr 51 n)+(x &&& Wr 51 n)=mapB f2 n x
 | 0,x=>by simp[Wr,mapB]
 | n+1,x=>by
  have a:x % 256<256:=dS _ vY;have ex:x=x % 256+256*(x / 256):=oM;have d:x / 4=(x % 256 / 4+64*(x / 256 % 4))+256*(x / 256 / 4):=oM;have e:=qY n (x / 256);simp only[mapB,Wr];rw[<-e];have b:x / 4 &&& (51+256*Wr 51 n)=(x % 256 / 4 &&& 51)+256*(x / 256 / 4 &&& Wr 51 n):=by
   rw[d,KA _ _ oM vY,yE _ (dS _ vY) _ a]
  have c:x &&& (51+256*Wr 51 n)=(x % 256 &&& 51)+256*(x / 256 &&& Wr 51 n):=by
   conv=>lhs;rw[ex]
   exact KA _ _ a vY
  rw[b,c];unfold f2;omega
def VM:Nat->Nat->Prop
 | 0,x=>x=0
 | n+1,x=>kj (x % 256)/\VM n (x / 256)
theorem qe:∀n x,VM n (mapB (fun B=>f2 (f1 B)) n x)
 | 0,_=>rfl
 | n+1,x=>by
  have a:x % 256<256:=dS _ vY;have d:=j8 _ (bk _ a);have b:=Ao _ a;have c:=qe n (x / 256);simp only[mapB,VM];have e1:(f2 (f1 (x % 256))+256*mapB (fun B=>f2 (f1 B)) n (x / 256)) % 256=f2 (f1 (x % 256)):=oM;have e2:(f2 (f1 (x % 256))+256*mapB (fun B=>f2 (f1 B)) n (x / 256)) / 256=mapB (fun B=>f2 (f1 B)) n (x / 256):=oM;rw[e1,e2];exact⟨b,c⟩
theorem zJ:∀n x,VM n x->x % 16<=4
 | 0,x,h=>by simp only[VM]at h;omega
 | n+1,x,h=>by
  have:=h.1.1;omega
theorem rc:∀n x,VM n x->(x / 16+x) &&& Wr 15 n=mapB f3 n x
 | 0,x,_=>by simp[Wr,mapB]
 | n+1,x,h=>by
  have c:x % 256<256:=dS _ vY;have e:=rc n (x / 256) h.2;have d:=zJ n _ h.2;obtain⟨a,b⟩:=vQ _ d _ c h.1;simp only[mapB,Wr];rw[<-e,<-b];have ex:x / 16+x=(x % 256 / 16+16*(x / 256 % 16)+x % 256)+256*(x / 256 / 16+x / 256):=oM;rw[ex,KA _ _ a vY]
def onesN(n x:Nat):Nat:=(List.range (8*n)).countP fun i=>x.testBit i
theorem tc(n x:Nat):onesN (n+1) x=Zc (x % 256)+onesN n (x / 256):=by
 unfold onesN Zc;have e:8*(n+1)=8+8*n:=oM;rw[e,lI,lN,List.countP_map];congr 1
 ·apply kK
  intro i a;have:i<8:=bE.1 a;have e2:(x % 2 ^ 8).testBit i=x.testBit i:=by rw[Nat.testBit_mod_two_pow];simp[this]
  rw[show x % 256=x % 2 ^ 8 from rfl,e2]
 ·apply kK
  intro i a;have e2:(x / 2 ^ 8).testBit i=x.testBit (8+i):=by rw[Nat.testBit_div_two_pow,Nat.add_comm]
  rw[show x / 256=x / 2 ^ 8 from rfl,e2];rfl
def kh(f:Nat->Nat):Nat->Nat->Nat
 | 0,_=>0
 | n+1,x=>f (x % 256)+kh f n (x / 256)
theorem ol:∀n x,onesN n x=kh Zc n x
 | 0,_=>rfl
 | n+1,x=>by rw[tc,ol n];rfl
theorem qS{f:Nat->Nat}(a:∀B,B<256->f B<=68):∀n x,mapB f n x<=Wr 68 n
 | 0,_=>aA _
 | n+1,x=>by
  have b:=qS a n (x / 256);have c:=a (x % 256) (dS _ vY);simp only[mapB,Wr];omega
theorem AR:∀B,B<256->f2 (f1 B)<=68:=by decide +kernel
theorem JQ(h:n<256):(n+256*m) / 256=m:=oM
theorem wS(l g h i k m n j e a b c d f X3 X4 X5 X6:Nat)(z:l<=8)(A:g<=8)(B:h<=8)(C:i<=8)(D:k<=8)(E:m<=8)(F:n<=8)(G:j<=8)
 (e3:X3=l+256*e) (t:e=g+256*a) (u:a=h+256*b) (v:b=i+256*c) (w:c=k+256*d) (x:d=m+256*f) (y:f=n+256*j) (e4:X4=X3+X3 / 256) (e5:X5=X4+X4 / 65536) (s:X6=X5+X5 / 4294967296):X4<9223372036854775808/\X5<9223372036854775808/\X6<9223372036854775808/\X6 % 128=l+(g+(h+(i+(k+(m+(n+j)))))):=by
 have p:X3 / 256=e:=by rw[e3];exact JQ oM
 have c4:X4=(l+g)+256*(e+a):=oM;have q:X4 / 65536=a+b:=by
  rw[show 65536=256*256 from rfl,<-iZ,c4,JQ oM,show e+a=(g+h)+256*(a+b) by omega,JQ oM]
 have c5:X5=(l+g+h+i)+256*(e+a+b+c):=oM;have r:X5 / 4294967296=c+d+f+j:=by
  rw[show 4294967296=256*256*256*256 from rfl,<-iZ,<-iZ,<-iZ,c5,JQ oM,show e+a+b+c=(g+h+i+k)+256*(a+b+c+d) by omega,JQ oM,show a+b+c+d=(h+i+k+m)+256*(b+c+d+f) by omega,JQ oM,show b+c+d+f=(i+k+m+n)+256*(c+d+f+j) by omega,JQ oM]
 have o:X6=(l+g+h+i+k+m+n+j)+256*(e+a+b+c+d+f+j):=oM;have M:f<=2304:=oM;have L:d<=590000:=oM;have K:c<=151100000:=oM;have J:b<=38700000000:=oM;have I:a<=9910000000000:=oM;have H:e<=2540000000000000:=oM;clear e3 e4 e5 s p q r t u v w x y;refine⟨oM,oM,oM,?_⟩;generalize e+a+b+c+d+f+j=N at o;omega
theorem vt(x X4 X5 X6:Nat)(e4:X4=mapB Zc 8 x+mapB Zc 8 x / 256)(e5:X5=X4+X4 / 65536)(b:X6=X5+X5 / 4294967296):X4<9223372036854775808/\X5<9223372036854775808/\X6<9223372036854775808/\X6 % 128=onesN 8 x:=by
 rw[ol];have a:∀y,Zc (y % 256)<=8:=fun y=>oD _ (dS _ vY)
 have h:=wS (Zc (x % 256)) (Zc (x / 256 % 256)) (Zc (x / 256 / 256 % 256)) (Zc (x / 256 / 256 / 256 % 256)) (Zc (x / 256 / 256 / 256 / 256 % 256)) (Zc (x / 256 / 256 / 256 / 256 / 256 % 256)) (Zc (x / 256 / 256 / 256 / 256 / 256 / 256 % 256)) (Zc (x / 256 / 256 / 256 / 256 / 256 / 256 / 256 % 256)) (mapB Zc 7 (x / 256)) (mapB Zc 6 (x / 256 / 256)) (mapB Zc 5 (x / 256 / 256 / 256)) (mapB Zc 4 (x / 256 / 256 / 256 / 256)) (mapB Zc 3 (x / 256 / 256 / 256 / 256 / 256)) (mapB Zc 2 (x / 256 / 256 / 256 / 256 / 256 / 256)) (mapB Zc 8 x) X4 X5 X6 (a _) (a _) (a _) (a _) (a _) (a _) (a _) (a _) rfl rfl rfl rfl rfl rfl (by simp only[mapB];omega) e4 e5 b;simp only[kh];exact h
theorem oC(x:Nat)(w:World)(j:x<18446744073709551616) :
 Calls prog 60 #[.int .u64 (x:Int)] w fun g o=>g=.returned (.int .i64 (onesN 8 x:Nat))/\o=w:=by
 have f:Wr 85 8=6148914691236517205:=vY;have m1:Wr 51 8=3689348814741910323:=vY;have m2:Wr 15 8=1085102592571150095:=vY;have s1:=ro 8 x;have s2:=qY 8 (mapB f1 8 x);have s3:=rc 8 (mapB f2 8 (mapB f1 8 x)) (by rw[map_map bk];exact qe 8 x);rw[f]at s1;rw[m1]at s2;rw[m2,map_map bk,map_map (fun B b=>j8 _ (bk _ b)),my Cn]at s3;have c:mapB f1 8 x<18446744073709551616:=fm bk 8 x;have d:mapB f2 8 (mapB f1 8 x)<18446744073709551616:=fm j8 8 _;have n:mapB Zc 8 x<18446744073709551616:=fm (fun B b=>iC (oD B b) vY) 8 x;obtain⟨k,l,A,m⟩:=vt x _ _ _ rfl rfl rfl;have e:mapB f2 8 (mapB f1 8 x) / 16+mapB f2 8 (mapB f1 8 x)<18446744073709551616:=by
  have h:=qS (f:=fun B=>f2 (f1 B)) AR 8 x;rw[map_map bk];rw[show Wr 68 8=4919131752989213764 by decide]at h;omega
 rw[map_map bk]at d s2 e;generalize mapB f1 8 x=X1 at *;generalize mapB (fun B=>f2 (f1 B)) 8 x=X2 at *;generalize mapB Zc 8 x=X3 at *;generalize onesN 8 x=r at *;have W:∀a:Nat,a<18446744073709551616->IntKind.u64.wrap (a:Int)=(a:Int):=fun a h=>by rw[iV];exact mB oM oM
 have p:IntKind.u64.wrap (bits .and .u64 ((x:Int) / 2) 6148914691236517205+bits .and .u64 (x:Int) 6148914691236517205)=(X1:Int):=by
  have q1:=jH (x / 2) 6148914691236517205 oM vY;have q2:=jH x 6148914691236517205 j vY;rw[show((x:Int) / 2)=((x / 2:Nat):Int) by omega];rw[show(6148914691236517205:Int)=((6148914691236517205:Nat):Int) from rfl,q1,q2,<-kB,s1,W _ c]
 have q:IntKind.u64.wrap (bits .and .u64 ((X1:Int) / 4) 3689348814741910323+bits .and .u64 (X1:Int) 3689348814741910323)=(X2:Int):=by
  have q1:=jH (X1 / 4) 3689348814741910323 oM vY;have q2:=jH X1 3689348814741910323 c vY;rw[show((X1:Int) / 4)=((X1 / 4:Nat):Int) by omega];rw[show(3689348814741910323:Int)=((3689348814741910323:Nat):Int) from rfl,q1,q2,<-kB,s2,W _ d]
 have s:bits .and .u64 ((X2:Int) / 16+(X2:Int)) 1085102592571150095=(X3:Int):=by
  have i:=e;have q1:=jH (X2 / 16+X2) 1085102592571150095 i vY;rw[show((X2:Int) / 16+(X2:Int))=((X2 / 16+X2:Nat):Int) by omega];rw[show(1085102592571150095:Int)=((1085102592571150095:Nat):Int) from rfl,q1,s3]
 have t:IntKind.u64.wrap ((X3:Int)+(X3:Int) / 256)=((X3+X3 / 256:Nat):Int):=by
  rw[show((X3:Int)+(X3:Int) / 256)=((X3+X3 / 256:Nat):Int) by omega];exact W _ oM
 generalize X3+X3 / 256=X4 at *;have u:IntKind.u64.wrap ((X4:Int)+(X4:Int) / 65536)=((X4+X4 / 65536:Nat):Int):=by
  rw[show((X4:Int)+(X4:Int) / 65536)=((X4+X4 / 65536:Nat):Int) by omega];exact W _ oM
 generalize X4+X4 / 65536=X5 at *;have v:IntKind.u64.wrap ((X5:Int)+(X5:Int) / 4294967296)=((X5+X5 / 4294967296:Nat):Int):=by
  rw[show((X5:Int)+(X5:Int) / 4294967296)=((X5+X5 / 4294967296:Nat):Int) by omega];exact W _ oM
 generalize X5+X5 / 4294967296=X6 at *;have y:bits .and .i64 (X6:Int) 127=(r:Int):=by rw[i64_and127];omega
 have z:wrap64 (X6:Int)=(X6:Int):=by simp[wrap64];omega
 clear s1 s2 s3 f m1 m2 c d n k l m W
 go_in
 go_wp2
 go_ret
 exact⟨rfl,rfl⟩
def cntN(W:Nat->Nat)(K:Nat):Nat:=(List.range (64*K)).countP fun x=>Xh W x
theorem o7(W:Nat->Nat)(K:Nat):cntN W (K+1)=cntN W K+onesN 8 (W K):=by
 unfold cntN onesN;have e:64*(K+1)=64*K+8*8:=oM;rw[e,lI,lN,List.countP_map];congr 1;apply kK;intro i a;have:i<64:=bE.1 a;have e1:(64*K+i) / 64=K:=oM;have e2:(64*K+i) % 64=i:=oM;simp only[Function.comp,Xh,e1,e2]
theorem TB(W:Nat->Nat)(K:Nat):cntN W K<=64*K:=aJ (mW) sP
theorem Kl(g K C:Nat)(W:Nat->Nat)(w:World)(j:Hid (XA W))(d:Hid (WsAt w g K C W))(hK:K<=1000) :
 Calls prog 25 #[.agg #[.slice (some ⟨g,0,none⟩) K C]] w fun e p=>e=.returned (.int .i64 (cntN W K:Nat))/\Below w.heap.size w p:=by
 have l:=d.lt
 go_in
 go_wp2
 go_loopw [3,9] (fun u i wr=>∃k:Nat,k<=K/\i=.int .i64 k/\u=.int .i64 (cntN W k:Nat)/\Hid (Below w.heap.size w wr)) (fun _ i _=>K-(intOf i).toNat)
 case atStart=>exact⟨0,aN _,rfl,rfl,Xa (Xb (Below.refl _ _) _)⟩
 case round =>
  obtain⟨k,s,rfl,rfl,a⟩:=hrel;by_cases n:k<K
  ·have r:=oB a (d.cell n) l
   have o:=j k;have b:=Xa (o7 W k);have t:=TB W k;have m:=TB W (k+1);rw[b.out]at m;generalize cntN W k=c0 at *;generalize W k=c at *;have h:=Xa (oC c wr o);generalize onesN 8 c=v at *
   go_wp2_with (go_at_call 60;refine h.mono ?_;rintro e q ⟨rfl,f⟩;rw[f];clear f q)
   exact⟨⟨k+1,oM,gM,by rw[b.out];go_num,a⟩,by simp[intOf];omega⟩
  ·have e:k=K:=oM
   subst e;go_wp2
   go_ret
   exact⟨rfl,a⟩
section
attribute [local go_sem] Oper.semAt_some
theorem jv(W:Nat->Nat)(K:Nat):cntN W K=(lsN W (64*K)).length:=by
 unfold cntN lsN;rw[gK]
end
section
attribute [local go_sem] Oper.semAt_some
theorem qp(n:Nat)(b c d e f h:Value)(g a C:Nat)(w:World) :
 CallsIn Fence.wide n prog 40 #[.agg #[b,c,d,e,f,h],.agg #[.slice (some ⟨g,0,none⟩) a C]] w fun i j=>i=.returned (.func (.func 90) #[] #[.pointer (some ⟨w.heap.size+1,0,none⟩),.pointer (some ⟨w.heap.size,0,none⟩)])/\j=(w.alloc (.cells #[b,c,d,e,f,h] 90)).alloc (.cells #[.slice (some ⟨g,0,none⟩) a C] 45):=by
 refine iD func40 rfl trivial ?_ rfl;simp only[ntmps40,xY,Nat.reduceAdd,Nat.reduceSub]
 gi_wp2
 go_ret
 exact⟨rfl,rfl⟩
end
section
attribute [local go_sem] Oper.semAt_some
def LtV(V a:Nat)(W:Nat->Nat):Prop:=∀x,x<64*a->Xh W x=true->x<V
theorem ie(h:LtV n m f)(a:∀t∈s,t<n):LtV n m (addsN f s):=fun x b e=>by
 rw[YR]at e;rcases dI _ _ ▸ e with e | e
 ·exact a x (fV e)
 ·exact h x b e
theorem we(h:LtV n m f)(b:List Nat):LtV n m (delsN f b):=fun x a e=>by
 rw[Kt]at e;exact h x a (bY _ _ ▸ e).2
def gj(n m a z:Nat)(p:Sd)(V:World):Prop:=(p.i<=m/\LtV n a p.W)/\rD a z p V
theorem ii(n m d B z:Nat):OwnFrom B (gj n m d z):=fun p A V row h k q=>by
 obtain⟨f,b,g⟩:=h;refine⟨f,b.of_block (k.block z b.lt (fun e=>?_)),g⟩;obtain⟨o,i,j⟩:=b.obj;obtain⟨_,l,a,c⟩:=q z e.symm;rw[i]at a;injection a with a;subst a;rw[j]at c;cases c
theorem l9{p:Sd}(h:gj n m k B p w)(a:Below w.heap.size w v):gj n m k B p v:=⟨h.1,h.2.1.of_block (a.block B h.2.1.lt),h.2.2⟩
theorem pT(m:Nat):∀(l a:List (Nat × List Int × List Int))(W:Nat->Nat),TZ m W (l++a)=TZ m W l++TZ m (l.foldl VI W) a
 | [],a,W=>by simp[TZ]
 | p::l,a,W=>by
  show sdE m W p++TZ m (VI W p) (l++a)=(sdE m W p++TZ m (VI W p) l)++TZ m (l.foldl VI (VI W p)) a;rw[pT m l,cK]
theorem tQ(m:Nat){l a:List (Nat × List Int × List Int)}(W:Nat->Nat)(h:l <+: a):TZ m W l <+: TZ m W a:=by
 obtain⟨t,rfl⟩:=h;rw[pT];exact⟨_,rfl⟩
theorem nO(T Bo Bx bt bn go e Cg V:Nat)(J:Nat->Prop)(x:Xe)(r:Nat->Nat)(w:World)(j:Hid (UI x bt bn Bx T w.heap.size w))(hs:w.cell? ⟨Bo,0,none⟩=some (.slice (some ⟨go,0,none⟩) e Cg))(hg:Hid (WsAt w go e Cg r))(f0:Hid (XA r))(hK:e<=100)(gr:V<=64*e)(hM:Hid (∀k,bt<=k->k<bn->¬J k))(fb:Hid (¬J Bx))(S:Hid (∀k,w.heap.size<=k->¬J k))(e9:Hid (¬J 0))(fa:Hid (¬J 1))(fx:Hid (∀ee∈x.is,1<=ee.op/\ee.op<=13))(fz:1<=x.te.kind/\x.te.kind<=3)(fr:x.is.length<=4000)(fs:x.ps.length<=4000)(fc:Hid (∀q∈plL x,PdV V q))(e8:Hid (LtV V e r)) :
 co Fence.wide 8 prog 90 #[.pointer (some ⟨Bo,0,none⟩),.pointer (some ⟨Bx,0,none⟩)] (kg e) (gj V x.is.length e) (Zf T J) (fun xs=>xs.map Sd.dat=TZ x.is.length r (plL x)) (fun xs=>xs.map Sd.dat <+: TZ x.is.length r (plL x)) (x.is.length+2) True False w:=by
 intro L dl Jx W hW hl hJ dn ds _ hY h0;have HY:=Xa hY;have HJ:=Xa hJ;have c9:=Xa dn;have ax:=Xa (ds trivial);have H0:=Xa h0;have g2:=j.nn;clear hY hJ ds h0 dn;have ec:=hW.size;have ey:=Xa (j.below hW (aA _));refine callsIn_of_wp_marks func90 rfl trivial ?_ rfl;simp only[ntmps90,xY,Nat.reduceAdd,Nat.reduceSub];have s0:=oB hW hs (aI w _ hs);have e6:Bo<W.heap.size:=aI W _ s0;have hd:=fun o=>(bP W o ⟨Bo,0,none⟩ e6).trans s0
 gi_wp2
 have cv:Hid (Below W.heap.size W (W.alloc (.cells #[.func (.yield L) #[] #[]] 152))):=Xa (Xb (Below.refl _ _) _);have eb:(W.alloc (.cells #[.func (.yield L) #[] #[]] 152)).cell? ⟨W.heap.size,0,none⟩=some (.func (.yield L) #[] #[]):=by simp[go_sem]
 have g9:(W.alloc (.cells #[.func (.yield L) #[] #[]] 152)).heap.size=W.heap.size+1:=sP;generalize W.alloc _=wa at *;have gd:W.heap.size<wa.heap.size:=oM;have cz:=Xa ((hg.of_block (hW.block go hg.lt)).of_block (cv.block go (aX hg.lt ec)));have cx:=Xa (Kk go e Cg r wa cz oM);refine⟨trivial,(bM.2 cx).mono ?_⟩;rintro g C ⟨a,n,rfl,gv,bw,ci⟩;have ej:=Xa ci;have ct:=Xa (Xg cv bw);have g5:=bw.size;have y1:=oB bw eb gd;have fe:=ci.lt;clear bw ci eb cx cz;have bq:Hid (Below C.heap.size C (C.alloc (.cells #[.slice (some ⟨a,0,none⟩) e n] 45))):=Xa (Xb (Below.refl _ _) _);have fi:(C.alloc (.cells #[.slice (some ⟨a,0,none⟩) e n] 45)).cell? ⟨C.heap.size,0,none⟩=some (.slice (some ⟨a,0,none⟩) e n):=by simp[go_sem]
 have f7:(C.alloc (.cells #[.slice (some ⟨a,0,none⟩) e n] 45)).heap.size=C.heap.size+1:=sP;have ce:=Xa (ey.below (Xg ct bq) ec);obtain⟨pa,pc,ia,ic,x0,x1,⟨x2,x3,x4,x5⟩,d4,d2⟩:=ce.blk;simp only[aV]at x1 x2 x3 x4 x5;have er:=Xa d4;have el:=Xa d2;clear d4 d2
 gi_wp2
 generalize C.alloc _=I at *;have fl:C.heap.size<I.heap.size:=oM;clear f7;refine⟨trivial,(nM Fence.wide 7 trivial rfl _ _ _ _ _ _ I).mono ?_⟩;rintro g i ⟨rfl,b1⟩;have F:Below I.heap.size I i:=by rw[b1];exact Xb (Below.refl _ _) _
 have ga:i.heap.size=I.heap.size+1:=by rw[b1];simp
 have ab:∀q v,#[Value.slice pa x.ps.length pc,.slice ia x.is.length ic,.int .i64 x.te.kind,.int .i64 x.te.a,.int .i64 x.te.to,.int .i64 x.te.els][q]?=some v->i.cell? ⟨I.heap.size,q,none⟩=some v:=fun q v h=>by
  rw[b1,eC];exact h
 have ei:=Xa (Xg (Xg ct bq) F);have ev:Hid (UI x bt bn I.heap.size T i.heap.size i):=Xa ⟨ce.op.of_block (F.block _ (oN j.g1)) F.size,ce.ter.of_block (F.block _ (oN j.g2)) F.size,⟨pa,pc,ia,ic,ab 0 _ rfl,ab 1 _ rfl,⟨ab 2 _ rfl,ab 3 _ rfl,ab 4 _ rfl,ab 5 _ rfl⟩,er.keepS (fun q _ d=>F.block q (oN j.le)),el.keepS (fun q _ d=>F.block q (oN j.le))⟩,oM,j.le,j.g1,j.g2,oM⟩;have ek:Hid (SdI W i.heap.size L C.heap.size Bx a e n x.is.length ia ic r dl [] i):=Xa ⟨⟨[],rfl,H0 a i oM oM ei⟩,oB F ((XU bq oM).trans y1) oM,oB F fi fl,(ej.of_block (bq.block _ fe)).of_block (F.block _ oM),oB F x1 (by have:=j.lt;show Bx<_;omega),aA _⟩;have gx:I.heap.size<i.heap.size:=oM;clear b1 ab ga;have d1:∀q,q≠a->w.heap.size<=q->¬(J q\/q=a):=fun q c d m=>m.elim (fun h=>S q d h) c
 have ge:w.heap.size<=a:=oM
 gi_wp2
 refine dv (F:=Fence.wide) (n:=8) rfl vY (gf:=106) (lb:=#[.pointer (some ⟨I.heap.size,0,none⟩)]) rfl trivial (enters_of func106 vZ rfl) (oK T I.heap.size bt bn (fun q=>J q\/q=a) (PdV V) x i ev (Xa ?m1) (Xa ?m2) (Xa ?m3) (Xa ?m4) (Xa ?m5) fx fz fr fs fc) (fun _=>io _ _ _) (fun h k=>h.trans k) (fun W L o l c d m=>Zf.putObj W L o l oM d m) (Below.refl _ _) (fun _ _=>rfl)
  (fun _ u U=>SdI W i.heap.size L C.heap.size Bx a e n x.is.length ia ic r dl u U/\LtV V e ((u.map Pl.dat).foldl VI r)) (fun ch u V=>ch=.ret/\∃B:List Sd,B.map Sd.dat=TZ x.is.length r (u.map Pl.dat)/\Jx B V) (fun _ gf A U row h k q=>⟨SdI.own HJ oM oM (oN j.lt) oM gf A U row h.1 k q,h.2⟩) ?ownX (fun h=>h.elim) (fun h=>h.elim) (fun _ V _ _ hV=>⟨XO (SdI.own HJ oM oM (oN j.lt) oM) ek hV,e8⟩)
  (fun _ p a' U=>∃R:Nat,a'=⟨#[.func (.yield L) #[] #[],.pointer (some ⟨Bo,0,none⟩),.pointer (some ⟨Bx,0,none⟩),.pointer (some ⟨W.heap.size,0,none⟩),.pointer (some ⟨C.heap.size,0,none⟩),.int .i64 (p.i:Int),.pointer (some ⟨R,0,none⟩),.agg #[.slice (some ⟨go,0,none⟩) e Cg],.agg #[.slice (some ⟨a,0,none⟩) e n],.agg #[.slice pa x.ps.length pc,.slice ia x.is.length ic,.int .i64 x.te.kind,.int .i64 x.te.a,.int .i64 x.te.to,.int .i64 x.te.els],.func (.func 106) #[] #[.pointer (some ⟨I.heap.size,0,none⟩)],.int .i64 (p.i:Int),.agg #[.slice p.ua p.us.length p.uc,.slice p.da p.ds.length p.dc],undef,undef,undef,undef,undef,undef,undef,undef,undef,undef,undef,undef,undef,undef,undef,undef,undef,undef,undef,undef,undef,undef,undef,undef],[]⟩/\PBx i.heap.size R p U) ?ownA ?assign ?body ?done ?stop
 case m1=>intro q c d;exact fun m=>m.elim (fun h=>hM q c d h) (fun h=>by have:=j.le;omega)
 case m2=>exact d1 _ oM oM
 case m3=>intro q c;exact d1 _ oM oM
 case m4=>exact fun m=>m.elim (fun h=>e9 h) (fun h=>by have:=j.g1;omega)
 case m5=>exact fun m=>m.elim (fun h=>fa h) (fun h=>by have:=j.g2;omega)
 case ownX =>
  rintro ch u A V row ⟨rfl,B,s1,s2⟩ k q;exact⟨rfl,B,s1,c9 B A V row s2 k (fun ed g=>⟨oN ((q ed g).1),(q ed g).2⟩)⟩
 case ownA =>
  rintro _ p a' _ A U row ⟨R,g,hp⟩ e0 q;exact⟨R,g,PBx.own (n:=i.heap.size) () A U row hp e0 q⟩
 case assign =>
  intro l' _ u p U gi _ e7 hP du;obtain⟨D,a5⟩:=e7;have cb:=Xa a5;clear a5;have P:=Xa D;have aj:=Xa hP;have ep:=Xa du;clear D hP du;unfold gh
  gi_wp2
  have a6:Below U.heap.size U (U.alloc (.cells #[.slice p.ua p.us.length p.uc,.slice p.da p.ds.length p.dc] 139)):=Xb (Below.refl _ _) _;refine ep _ _ ⟨a6.size,fun k o c _=>(a6.block k (aS.1 c).1).trans c⟩ (Zf.of_below a6 (oN P.sz)) ⟨XO (SdI.own HJ oM oM (oN j.lt) oM) P a6,cb⟩ (lj aj a6) ⟨U.heap.size,rfl,P.sz,?_,?_⟩
  ·simp[go_sem]
  ·simp[go_sem]
 case body =>
  rintro l' _ u p a' U _ _ _ ⟨D,a5⟩ hP ⟨R,rfl,bz⟩ g0;have cb:=Xa a5;clear a5;have P:=Xa D;have aj:=Xa hP;have zl:=D.lv;have zy:=D.y;have zx:=D.bx;have p0:=bz.c0;have p1:=bz.c1;have gs:=bz.ge;have gt:R<U.heap.size:=aI U _ p0;have g6:=D.sz;have Q:=Xa aj.1;have cd:Hid ((X9 p.ds).map Int.ofNat=p.ds):=Xa (Kv (fun v hv=>(Q.2.1 v hv).1));have df:Hid ((X9 p.us).map Int.ofNat=p.us):=Xa (Kv (fun v hv=>(Q.1 v hv).1));have dc:Hid (∀H∈X9 p.ds,H<V):=Xa (fun H ht=>by
   obtain⟨af,hz,rfl⟩:=aY.1 ht;have:=Q.2.1 af hz;omega)
  have eq:Hid (∀H∈X9 p.us,H<V):=Xa (fun H ht=>by
   obtain⟨af,hz,rfl⟩:=aY.1 ht;have:=Q.1 af hz;omega)
  have cc:Hid (∀H∈X9 p.ds,H<64*e):=Xa (fun H ht=>by
   obtain⟨af,hz,rfl⟩:=aY.1 ht;have:=Q.2.1 af hz;omega)
  have dd:Hid (∀H∈X9 p.us,H<64*e):=Xa (fun H ht=>by
   obtain⟨af,hz,rfl⟩:=aY.1 ht;have:=Q.1 af hz;omega)
  have cj:p.ds.length<=4000:=Q.2.2.2;have d3:p.us.length<=4000:=Q.2.2.1;obtain⟨t,al⟩:∃eg,eg=(u.map Pl.dat).foldl VI r:=⟨_,rfl⟩;have da:Hid (LtV V e t):=Xa (by rw[al];exact cb);have db:Hid (LtV V e (((u++[p]).map Pl.dat).foldl VI r)):=Xa (by
   rw[bG,dT,<-al];exact ie (we (ie da dc) _) eq)
  have dj:Hid (XA t):=Xa (by rw[al];exact wP _ f0);have bs:Hid (WsAt U a e n t):=Xa (by rw[al];exact P.ws);have az:=Xa al;clear D hP bz al;have cw:=Xa (ZG a e n p.ds.length p.dc t p.da (X9 p.ds) i.heap.size U.heap.size U (Xa (by rw[cd.out];exact aj.2.2)) (Xa (by simp[X9])) cj cc oM dj bs (aA _) oM)
  gi_wp2
  refine⟨trivial,(CallsIn.inRound l' (bM.2 cw)).mono ?_⟩;rintro g M ⟨rfl,k1,d5⟩;have q1:∀(f l:Nat)(v:Value),f≠a->U.cell? ⟨f,l,none⟩=some v->M.cell? ⟨f,l,none⟩=some v:=fun f l v c d=>(Xc (k1.block f (aI U _ d) (fun g=>c (by injection g)))).trans d
  have b4:=q1 _ _ _ oM zl;have b6:=q1 _ _ _ oM zy;have b5:=q1 _ _ _ (oN j.lt) zx;have b2:=q1 _ _ _ oM p0;have b3:=q1 _ _ _ oM p1;have g7:=k1.size;have X:=Xa k1;have a0:=Xa d5;have a2:Hid (XA (addsN t (X9 p.ds))):=Xa (Zs _ dj);have c6:=Xa (YZ aj.2.2 k1 oM);have c7:=Xa (YZ aj.2.1 k1 oM);clear k1 d5 q1 cw zl zy zx p0 p1;obtain⟨B,b0,bv⟩:=P.js;have br:=Xa b0;have c8:=Xa (ax.out a B U M oM bv X);clear b0 bv;have g1:B.length<=u.length:=by
   have c:=fI List.length br;rw[bK]at c;have d:=jf x.is.length (u.map Pl.dat) r;rw[bK]at d;omega
  have gg:Hid (p.dat=(p.i,p.us,p.ds)):=Xa rfl;by_cases bx:p.i<=x.is.length
  ·have dk:=Xa (HY.out a B ⟨p.i,n,addsN t (X9 p.ds)⟩ M oM c8 ⟨⟨bx,ie da dc⟩,a0,a2⟩ oM)
   obtain⟨fn,tmps,gp,bo,hy,hR⟩:=KY (l':=l') (m':=5) dk;have ea:(Instr.yield L #[.int .i64 (p.i:Int),.agg #[.slice (some ⟨a,0,none⟩) e n]]).run prog M=_:=hy;have fq:(p.i:Int)<=(x.is.length:Int):=oM;clear hy dk
   gi_wp2
   refine hR.mono ?_;rintro g K (⟨rfl,a3,y,a7⟩ | ⟨rfl,a3,y,a7⟩);rotate_left
   ·have b9:=Xa a3
    have Y:=Xa y;have ar:=Xa a7;clear a3 y a7 hR ea
    gi_wp2
    refine⟨((Jc X bs.obj).from _).trans ⟨ar.size,fun k o c d m=>ar.same k o oM d m⟩,(Zg X (aZ rfl) oM).trans ⟨Y.size,fun k c d=>Y.low k c (fun h=>d (bC h)),fun k o c d m=>Y.cells k o (fun h=>c (bC h)) d m⟩,rfl,_,?_,b9⟩;rw[bG,bG,br.out];show _=TZ x.is.length r (u.map Pl.dat++[p.dat]);rw[Ky,<-az.out];unfold sdE;rw[aU (show p.dat.1<=x.is.length from bx)];rfl
   have b9:=Xa a3;have Y:=Xa y;have ar:=Xa a7;have g8:=y.size;have bc:=y.cell b4 (S _ (by show w.heap.size<=C.heap.size;omega));have bl:=y.cell b6 (S _ (by show w.heap.size<=W.heap.size;omega));have bf:=y.cell b5 fb;have ba:=y.cell b2 (S _ (by show w.heap.size<=R;omega));have bb:=y.cell b3 (S _ (by show w.heap.size<=R;omega));have di:Hid (WsAt K a e n (addsN t (X9 p.ds))):=Xa (a0.of_block (by
    obtain⟨o,c,d⟩:=a0.obj;rw[c];exact y.cells a o (S _ ge) c d))
   have em:Hid (Xf K i.heap.size K.heap.size p.da p.ds):=Xa (fun ck hi=>by
    obtain⟨b,o,g,hb,hc⟩:=c6 ck hi;exact⟨b,o,g,⟨hb.1,oM⟩,y.cell hc (S _ (by show w.heap.size<=b;omega))⟩)
   have b7:Hid (Xf K i.heap.size K.heap.size p.ua p.us):=Xa (fun ck hi=>by
    obtain⟨b,o,g,hb,hc⟩:=c7 ck hi;exact⟨b,o,g,⟨hb.1,oM⟩,y.cell hc (S _ (by show w.heap.size<=b;omega))⟩)
   clear a3 y a7 hR ea b4 b6 b5 b2 b3;have ap:=Xa (JL a e n p.ds.length p.dc (addsN t (X9 p.ds)) p.da (X9 p.ds) i.heap.size K.heap.size K (Xa (by rw[cd.out];exact em)) (Xa (by simp[X9])) cj cc oM a2 di (aA _) oM)
   gi_wp2
   refine⟨trivial,(CallsIn.inRound l' (bM.2 ap)).mono ?_⟩;rintro g s ⟨rfl,G,a8⟩;have z:∀(f l:Nat)(v:Value),f≠a->K.cell? ⟨f,l,none⟩=some v->s.cell? ⟨f,l,none⟩=some v:=fun f l v c d=>(Xc (G.block f (aI K _ d) (fun g=>c (by injection g)))).trans d
   have bd:=z _ _ _ oM bc;have bm:=z _ _ _ oM bl;have bi:=z _ _ _ (oN j.lt) bf;have cl:=z _ _ _ oM ba;have cp:=z _ _ _ oM bb;have gb:=G.size;have Z:=Xa G;have a1:=Xa a8;have b8:=Xa (YZ b7 G oM);clear G a8 z ap bc bl bf ba bb;have aq:=Xa (ZG a e n p.us.length p.uc (delsN (addsN t (X9 p.ds)) (X9 p.ds)) p.ua (X9 p.us) i.heap.size s.heap.size s (Xa (by rw[df.out];exact b8)) (Xa (by simp[X9])) d3 dd oM (Xa (JX _ a2)) a1 (aA _) oM)
   gi_wp2
   refine⟨trivial,(CallsIn.inRound l' (bM.2 aq)).mono ?_⟩;rintro g V4 ⟨rfl,N,a9⟩;have O:∀(f l:Nat)(v:Value),f≠a->s.cell? ⟨f,l,none⟩=some v->V4.cell? ⟨f,l,none⟩=some v:=fun f l v c d=>(Xc (N.block f (aI s _ d) (fun g=>c (by injection g)))).trans d
   have cq:=O _ _ _ oM bd;have cs:=O _ _ _ oM bm;have cr:=O _ _ _ (oN j.lt) bi;have gc:=N.size;have aa:=Xa N;have cf:=Xa a9;clear N a9 O aq bd bm bi cl cp
   gi_wp2
   have ac:∀{A E:World},A.grownBy E (some a)->T<=A.heap.size->Zf T (fun q=>J q\/q=a) A E:=fun h c=>Zg h (aZ rfl) c
   have ad:∀{A E:World},A.grownBy E (some a)->(∃o:Obj,A.heap[a]?=some o/\o.isCells=true)->KeepsFrom i.heap.size A E:=fun h c=>(Jc h c).from _
   have g4:addsN (delsN (addsN t (X9 p.ds)) (X9 p.ds)) (X9 p.us)=VI t p.dat:=rfl;have g3:addsN t (X9 p.ds)=sdA t p.dat:=rfl;have ca:=ax a _ s V4 oM (ax a _ K s oM b9 Z) aa;refine⟨(((ad X bs.obj).trans ⟨ar.size,fun k o c d m=>ar.same k o oM d m⟩).trans (ad Z di.obj)).trans (ad aa a1.obj),(((ac X oM).trans ⟨Y.size,fun k c d=>Y.low k c (fun h=>d (bC h)),fun k o c d m=>Y.cells k o (fun h=>c (bC h)) d m⟩).trans (ac Z oM)).trans (ac aa oM),⟨⟨⟨_,?_,ca⟩,cs,cq,?_,cr,oM⟩,db⟩⟩
   ·rw[bG,bG,br.out]
    show _=TZ x.is.length r (u.map Pl.dat++[p.dat]);rw[Ky,<-az.out];unfold sdE;rw[aU (show p.dat.1<=x.is.length from bx)];rfl
   ·rw[bG,dT,<-az.out]
    exact cf
  ·have gz:(x.is.length:Int)<(p.i:Int):=oM
   have fq:decide ((p.i:Int)<=(x.is.length:Int))=false:=by simp;omega
   have bc:=b4;have bl:=b6;have bf:=b5;have ba:=b2;have bb:=b3;have b7:=c7;clear b4 b6 b5 b2 b3;have ap:=Xa (JL a e n p.ds.length p.dc (addsN t (X9 p.ds)) p.da (X9 p.ds) i.heap.size M.heap.size M (Xa (by rw[cd.out];exact c6)) (Xa (by simp[X9])) cj cc oM a2 a0 (aA _) oM)
   gi_wp2
   repeat (refine⟨fun gq hf=>(by cases hf),?_⟩;gi_wp2)
   refine⟨trivial,(CallsIn.inRound l' (bM.2 ap)).mono ?_⟩;rintro g s ⟨rfl,G,a8⟩;have z:∀(f l:Nat)(v:Value),f≠a->M.cell? ⟨f,l,none⟩=some v->s.cell? ⟨f,l,none⟩=some v:=fun f l v c d=>(Xc (G.block f (aI M _ d) (fun g=>c (by injection g)))).trans d
   have bd:=z _ _ _ oM bc;have bm:=z _ _ _ oM bl;have bi:=z _ _ _ (oN j.lt) bf;have cl:=z _ _ _ oM ba;have cp:=z _ _ _ oM bb;have gb:=G.size;have Z:=Xa G;have a1:=Xa a8;have b8:=Xa (YZ b7 G oM);clear G a8 z ap bc bl bf ba bb;have aq:=Xa (ZG a e n p.us.length p.uc (delsN (addsN t (X9 p.ds)) (X9 p.ds)) p.ua (X9 p.us) i.heap.size s.heap.size s (Xa (by rw[df.out];exact b8)) (Xa (by simp[X9])) d3 dd oM (Xa (JX _ a2)) a1 (aA _) oM)
   gi_wp2
   refine⟨trivial,(CallsIn.inRound l' (bM.2 aq)).mono ?_⟩;rintro g V4 ⟨rfl,N,a9⟩;have O:∀(f l:Nat)(v:Value),f≠a->s.cell? ⟨f,l,none⟩=some v->V4.cell? ⟨f,l,none⟩=some v:=fun f l v c d=>(Xc (N.block f (aI s _ d) (fun g=>c (by injection g)))).trans d
   have cq:=O _ _ _ oM bd;have cs:=O _ _ _ oM bm;have cr:=O _ _ _ (oN j.lt) bi;have gc:=N.size;have aa:=Xa N;have cf:=Xa a9;clear N a9 O aq bd bm bi cl cp
   gi_wp2
   have ac:∀{A E:World},A.grownBy E (some a)->T<=A.heap.size->Zf T (fun q=>J q\/q=a) A E:=fun h c=>Zg h (aZ rfl) c
   have ad:∀{A E:World},A.grownBy E (some a)->(∃o:Obj,A.heap[a]?=some o/\o.isCells=true)->KeepsFrom i.heap.size A E:=fun h c=>(Jc h c).from _
   have ca:=ax a _ s V4 oM (ax a _ M s oM c8 Z) aa;refine⟨((ad X bs.obj).trans (ad Z a0.obj)).trans (ad aa a1.obj),((ac X oM).trans (ac Z oM)).trans (ac aa oM),⟨⟨⟨_,?_,ca⟩,cs,cq,?_,cr,oM⟩,db⟩⟩
   ·rw[bG,br.out]
    show _=TZ x.is.length r (u.map Pl.dat++[p.dat]);rw[Ky,<-az.out];unfold sdE;rw[aM (show ¬p.dat.1<=x.is.length from bx),fF]
   ·rw[bG,dT,<-az.out]
    exact cf
 case done =>
  rintro ef _ xs U hD _ dw ⟨D,_⟩ a4;have P:=Xa D;have ay:=Xa a4;have es:=Xa dw;clear D a4 dw
  gi_wp2
  obtain⟨B,b0,bv⟩:=P.js;refine YK ay ⟨.tuple #[],gV rfl _ _ _,⟨_,rfl⟩,.inl ⟨a,B,oM,by rw[b0,es.out],(HJ a).putObj _ bv oM ay rfl⟩⟩
 case stop =>
  rintro ef ch u U hD d0 ⟨rfl,B,s1,s2⟩ a4;have et:=Xa s1;have eu:=Xa s2;have ay:=Xa a4;have ez:=Xa d0;clear s1 s2 a4 d0
  gi_wp2
  exact YK ay ⟨.tuple #[],gV rfl _ _ _,⟨_,rfl⟩,.inr ⟨B,by rw[et.out];exact tQ _ _ ez,c9.putObj _ eu oM ay rfl⟩⟩
end
section
attribute [local go_sem] Oper.semAt_some
theorem FlR.lou{go:Nat->Nat}(h:FlR w v m k x B g f go F M N)(e:Jy n x)(y:m=x.length):∀b,b<m->∀a,a<64*k->(Xh (N b) a=true↔UV x a b):=fun b j a i=>by
 obtain⟨I,T,u,p,q1,q2,o,q,r,s⟩:=h.inn;have l:=fun b j a i=>(r b j a i).trans (AG e q1 q2 o (ord:=(·∈p)) q oM)
 have d:b<x.length:=oM;rw[s b j a,o b d,<-KE e d];constructor
 ·rintro(h | ⟨t,c,h⟩)
  ·exact bC h
  ·exact aZ ⟨t,c,(l t (oN (e.okf.tg _ d _ c)) a i).1 h⟩
 ·rintro(h | ⟨t,c,h⟩)
  ·exact bC h
  ·exact aZ ⟨t,c,(l t (oN (e.okf.tg _ d _ c)) a i).2 h⟩
theorem BI(x:Xe)(a:Nat->Nat)(b:i<=x.is.length):∃W,(i,W)∈TZ x.is.length a (plL x):=by
 rw[it];cases i with
 | zero=>exact⟨_,fB _ (cS.2 rfl)⟩
 | succ j =>
  refine⟨_,dD _ (aY.2 ⟨⟨j,b⟩,?_,rfl⟩)⟩;unfold Us;rw[aW sP];exact kU.2 (lX _)
end
section
noncomputable def cy(a:List Xe)(V b:Nat):List (List Nat):=match a[b]? with
 | none=>[]
 | some x=>((Us x.is.length 0).map fun j:Fin x.is.length=>Uq a x V b ((j:Nat)+1))++[Uq a x V b 0]
noncomputable def Zw(a:List Xe)(V k:Nat):List (List Nat):=(List.range k).flatMap (cy a V)
theorem VJ(a:List Xe)(V k:Nat):Zw a V (k+1)=Zw a V k++cy a V k:=by
 unfold Zw;rw[dN,eZ];simp
theorem sT(a:List Xe)(V:Nat){k n:Nat}(h:k<=n):Zw a V k <+: Zw a V n:=by
 induction n with
 | zero=>rw[show k=0 by omega];exact mD _
 | succ n b =>
  by_cases e:k=n+1
  ·rw[e];exact mD _
  ·rw[VJ]
   exact(b oM).trans (List.prefix_append _ _)
theorem vU{V:Nat}{a:List Xe}(f:Jy V a){b:Nat}(d:b<a.length){c:Nat->Nat}{p:Nat}(e:V<=p)(hq:∀v,v<p->(Xh c v=true↔UV a v b)):(TZ a[b].is.length c (plL a[b])).map (fun q=>lsN q.2 p)=cy a V b:=by
 rw[gH (g:=fun q=>Uq a a[b] V b q.1) (fun q h=>rq f d e hq (i:=q.1) (W:=q.2) h),it];unfold cy;rw[aC d];simp
def sdW(p:Nat)(s:Sd):List Nat:=lsN s.W p
theorem pK(p:Nat)(a:List Sd):a.map (sdW p)=(a.map Sd.dat).map (fun q=>lsN q.2 p):=by
 rw[jO];rfl
def gm(V a z:Nat)(p:Sd)(U:World):Prop:=LtV V a p.W/\rD a z p U
def ke(a z:Nat)(s:Sd):Array Value:=#[.agg #[.slice (some ⟨z,0,none⟩) a s.C]]
theorem Zf.far{n₀:Nat}{Ms:Nat->Prop}{u A V:World}(h:Zf n₀ Ms u A)(e:n₀<=u.heap.size)(k:∀q,q<u.heap.size->V.heap[q]?=A.heap[q]?)(d:A.heap.size<=V.heap.size):Zf n₀ Ms u V :=
 ⟨aJ h.size d,fun q b a=>(k q oM).trans (h.low q b a),fun q o b a c=>(k q (aS.1 a).1).trans (h.cells q o b a c)⟩
theorem Kd{B:Nat}{u A V:World}(h:KeepsFrom B u A)(k:∀q,q<u.heap.size->V.heap[q]?=A.heap[q]?)(d:A.heap.size<=V.heap.size):KeepsFrom B u V :=
 ⟨aJ h.size d,fun q o b a c=>(k q (aS.1 a).1).trans (h.same q o b a c)⟩
structure AsI(W u:World)(n₀:Nat)(Ms:Nat->Prop)(J:Nat->List Sd->World->Prop)(s0:List Sd)(z:Nat)(ss:List Sd)(V:World):Prop where
 j:J z (s0++ss) V
 kp:Zf n₀ Ms u V
 kf:KeepsFrom W.heap.size u V
structure AsX(W u:World)(Jx:List Sd->World->Prop)(s0 ss:List Sd)(V:World):Prop where
 j:Jx (s0++ss) V
 kf:KeepsFrom W.heap.size u V
section
variable {W u : World} {n₀ : Nat} {Ms : Nat -> Prop} {J : Nat -> List Sd -> World -> Prop} {Jx : List Sd -> World -> Prop} {s0 : List Sd}
theorem AsI.own(b:∀z,OwnFrom W.heap.size (J z))(d:W.heap.size<=u.heap.size)(c:n₀<=u.heap.size)(z:Nat):OwnFrom u.heap.size (AsI W u n₀ Ms J s0 z):=fun j A V row h k q=>by
 have g:=h.kp.size;have a:∀i,i<u.heap.size->V.heap[i]?=A.heap[i]?:=fun i f=>k.block i oM (fun e=>by have:=(q i e.symm).1;omega)
 exact⟨b z _ A V row h.j k (fun r e=>⟨oN ((q r e).1),(q r e).2⟩),h.kp.far c a k.size,Kd h.kf a k.size⟩
theorem AsX.own(a:OwnFrom W.heap.size Jx)(c:W.heap.size<=u.heap.size):OwnFrom u.heap.size (AsX W u Jx s0):=fun g A V row h k q=>by
 have f:=h.kf.size;have b:∀i,i<u.heap.size->V.heap[i]?=A.heap[i]?:=fun i d=>k.block i oM (fun e=>by have:=(q i e.symm).1;omega)
 exact⟨a _ A V row h.j k (fun r e=>⟨oN ((q r e).1),(q r e).2⟩),Kd h.kf b k.size⟩
theorem AsI.turn(d:∀z s V a,W.heap.size<=z->J z s V->V.grownBy a (some z)->J z s a)(g:W.heap.size<=u.heap.size)(f:n₀<=u.heap.size){z:Nat}(m:u.heap.size<=z){c:List Sd}{A V:World}(h:AsI W u n₀ Ms J s0 z c A)(k:A.grownBy V (some z)):AsI W u n₀ Ms J s0 z c V:=by
 have l:=h.kp.size;have b:∀i,i<u.heap.size->V.heap[i]?=A.heap[i]?:=fun i j=>k.block i oM (fun e=>by injection e with e;omega)
 exact⟨d z _ A V oM h.j k,h.kp.far f b k.size,Kd h.kf b k.size⟩
end
end
section
attribute [local go_sem] Oper.semAt_some
theorem oS(G p aq Y V n ab a:Nat)(ar:Option Addr)(K:Nat->Prop)(r:List Xe)(w:World)(cz:w.cell? ⟨p,0,none⟩=some (.int .i64 (V:Int)))(ez:w.cell? ⟨p,1,none⟩=some (.slice ar n ab))(ha:Hid (Xp w aq Y ar r))(hx:Hid (n=r.length))(hB:Y<=G)(fr:G<=w.heap.size)(hO:Hid (Yy w))(hT:Hid (Yb w))(c6:(0 : Nat)<G)(c7:(1 : Nat)<G)(y:Hid (Jy V r))(bx:Hid (a=(V+63) / 64))(hM:Hid (∀k,aq<=k->k<Y->¬K k))(P:Hid (∀k,w.heap.size<=k->¬K k))(cr:Hid (¬K 0))(cs:Hid (¬K 1)) :
 co Fence.wide 9 prog 59 #[.pointer (some ⟨p,0,none⟩)] (ke a) (gm V a) (Zf G K) (fun g=>g.map (sdW (64*a))=Zw r V n) (fun g=>g.map (sdW (64*a)) <+: Zw r V n) (n*4002) True True w:=by
 intro u bv Jx W hW hl hJ cl cp ck hY h0;have HY:=Xa hY;have HJ:=Xa hJ;have eg:=Xa cl;have ei:=Xa (cp trivial);have bn:=Xa (ck trivial);have H0:=Xa h0;clear hY hJ cp h0 cl ck;have di:=hW.size;have hn:n<=1000:=oP hx.out y.okf.n2
 have hV:=y.vle;have ev:a<=100:=oN bx.out
 have cw:V<=64*a:=oN bx.out
 have cj:p<w.heap.size:=aI w _ cz;have k0:=oB hW cz cj;have k1:=oB hW ez cj;refine callsIn_of_wp_marks func59 rfl trivial ?_ rfl;simp only[ntmps59,xY,Nat.reduceAdd,Nat.reduceSub];have dj:=fun v=>(bP W v ⟨p,0,none⟩ (by show p<_;omega)).trans k0
 have dk:=fun v=>(bP W v ⟨p,1,none⟩ (by show p<_;omega)).trans k1
 gi_wp2
 have bi:Hid (Below W.heap.size W (W.alloc (.cells #[.func (.yield u) #[] #[]] 113))):=Xa (Xb (Below.refl _ _) _);have df:(W.alloc (.cells #[.func (.yield u) #[] #[]] 113)).cell? ⟨W.heap.size,0,none⟩=some (.func (.yield u) #[] #[]):=by simp[go_sem]
 have f7:(W.alloc (.cells #[.func (.yield u) #[] #[]] 113)).heap.size=W.heap.size+1:=sP;have a0:=dj (.cells #[.func (.yield u) #[] #[]] 113);have a1:=dk (.cells #[.func (.yield u) #[] #[]] 113);generalize W.alloc _=wa at *;clear dj dk k0 k1;have bl:=Xa (hW.trans (bi.mono di));have bm:=Xa (KO V ar n ab r aq Y wa (Xa (ha.keep (bl.mono oM))) hx oM y (Xa (hO.keep bl hO.1)) (Xa (hT.keep bl hT.1)));rw[<-bx.out]at bm;refine⟨trivial,(bM.2 bm).mono ?_⟩;rintro bc h ⟨Gi,j,gi,go,ci,WI,WX,rfl,m⟩;have b6:=Xa (m.lou y hx);have b2:=Xa m.low;have fs:=m.low.size;have fb:wa.heap.size<=j/\j<h.heap.size:=⟨m.b1.2,m.so.row.lt⟩;have cd:=Xa m.so;have ee:=Xa (fun e7 hi=>(m.b2 e7 hi).2);have es:Hid (∀b,XA (WX b)):=Xa m.wx;have b0:=(XU m.low oM).trans a0;have b1:=(XU m.low oM).trans a1;have y1:=(XU m.low oM).trans df;have eu:=fun v=>(bP h v ⟨p,1,none⟩ (by show p<_;omega)).trans b1
 clear m bm a0 a1 df
 gi_wp2
 have a7:Hid (Below h.heap.size h (h.alloc (.cells #[.slice (some ⟨Gi,0,none⟩) n n,.slice (some ⟨j,0,none⟩) n n] 77))):=Xa (Xb (Below.refl _ _) _);have c9:(h.alloc (.cells #[.slice (some ⟨Gi,0,none⟩) n n,.slice (some ⟨j,0,none⟩) n n] 77)).cell? ⟨h.heap.size,1,none⟩=some (.slice (some ⟨j,0,none⟩) n n):=by simp[go_sem]
 have fx:(h.alloc (.cells #[.slice (some ⟨Gi,0,none⟩) n n,.slice (some ⟨j,0,none⟩) n n] 77)).heap.size=h.heap.size+1:=sP;generalize h.alloc _=w2 at *;have cf:=Xa (Xg (Xg bi b2) a7);have ch:=Xa (hW.trans (cf.mono di));have et:=Xa ((XU a7 oM).trans y1);have el:=Xa c9;have br:=Xa (cd.keep a7);have Z:=Xa (H0.out W.heap.size w2 (aA _) oM cf);clear c9 y1 b0 b1 eu a7 b2 cd bi;refine nH (fun aa wr=>∃(k J:Nat)(O:List Nat)(g:List Sd)(u4 u5 dl dn du dw d0 d1 d2 d3 d4 d5 eb bz:Value),k<=n/\aa=⟨#[.func (.yield u) #[] #[],.pointer (some ⟨p,0,none⟩),.pointer (some ⟨W.heap.size,0,none⟩),.pointer (some ⟨h.heap.size,0,none⟩),u4,u5,undef,undef,.agg #[.int .i64 (V:Int),.slice ar n ab],.agg #[.slice (some ⟨Gi,0,none⟩) n n,.slice (some ⟨j,0,none⟩) n n],.pointer (some ⟨p,1,none⟩),.slice ar n ab,.int .i64 (n:Int),.int .i64 (k:Int),dl,dn,du,dw,d0,d1,d2,d3,d4,d5,eb,undef,undef,undef,undef,undef,undef,bz],mks O⟩/\Hid (Zf G K w2 wr)/\Hid (KeepsFrom W.heap.size w2 wr)/\Hid (ZJ wr w2.heap.size O)/\W.heap.size<=J/\Hid (bv J g wr)/\Hid (g.map (sdW (64*a))=Zw r V k)/\Hid (g.length<=k*4002)) (fun aa _=>n-(intOf (aa.tmps.getD 13 undef)).toNat) ?_ ?_
 ·exact⟨0,W.heap.size,[],[],_,_,_,_,_,_,_,_,_,_,_,_,_,_,aN _,rfl,Xa (Zf.refl _),Xa (KeepsFrom.refl _ _),Xa ⟨iU,fun _ i=>absurd i eA,fun _ i=>absurd i eA⟩,aA _,Z,Xa rfl,Xa (aN _)⟩
 ·rintro aa wr ⟨k,J,O,g,u4,u5,dl,dn,du,dw,d0,d1,d2,d3,d4,d5,eb,bz,hk,rfl,al,ej,N,hz,b4,bt,b5⟩
  clear Z;have gb:=al.size;by_cases L:k<n
  ·have S:k<r.length:=oN hx.out
   obtain⟨b,ac,ea,cx,hc⟩:=ha k S;subst ea;obtain⟨B,C,z,A,e0,e1,⟨e2,e3,e4,e5⟩,db,c8⟩:=hc;have ey:b<w.heap.size:=oM;have R:∀(q:Nat)(x:Value),w.cell? ⟨b,q,none⟩=some x->wr.cell? ⟨b,q,none⟩=some x:=fun q x i=>al.cell (oB ch i ey) (hM b cx.1 cx.2)
   have f0:=R _ _ e0;have f1:=R _ _ e1;have f2:=R _ _ e2;have f3:=R _ _ e3;have f4:=R _ _ e4;have f5:=R _ _ e5;have ca:=Xa db;have b3:=Xa c8;have ap:=Xa (y.lens r[k] (aH S));have b9:=Xa (jb y (aH S));have b8:=Xa (y.ops r[k] (aH S));have ce:=Xa (y.kind r[k] (aH S));have bs:=Xa (vU y S cw (b6 k L));obtain⟨X,hX⟩:∃X,X=r[k]:=⟨_,rfl⟩;rw[<-hX]at f0 f1 f2 f3 f4 f5 ca b3 ap b9 b8 ce bs;clear hX db c8 e0 e1 e2 e3 e4 e5 R
   gi_wp2
   have bd:Below wr.heap.size wr (wr.alloc (.cells #[.slice B X.ps.length C,.slice z X.is.length A,.int .i64 X.te.kind,.int .i64 X.te.a,.int .i64 X.te.to,.int .i64 X.te.els] 90)):=Xb (Below.refl _ _) _;have ga:wr.heap.size+1<=(wr.alloc (.cells #[.slice B X.ps.length C,.slice z X.is.length A,.int .i64 X.te.kind,.int .i64 X.te.a,.int .i64 X.te.to,.int .i64 X.te.els] 90)).heap.size:=sP;have T:∀q x,#[Value.slice B X.ps.length C,.slice z X.is.length A,.int .i64 X.te.kind,.int .i64 X.te.a,.int .i64 X.te.to,.int .i64 X.te.els][q]?=some x->(wr.alloc (.cells #[.slice B X.ps.length C,.slice z X.is.length A,.int .i64 X.te.kind,.int .i64 X.te.a,.int .i64 X.te.to,.int .i64 X.te.els] 90)).cell? ⟨wr.heap.size,q,none⟩=some x:=fun q x i=>by
    rw[eC];exact i
   generalize wr.alloc _=f at *;have x0:=T 0 _ rfl;have x1:=T 1 _ rfl;have x2:=T 2 _ rfl;have x3:=T 3 _ rfl;have x4:=T 4 _ rfl;have x5:=T 5 _ rfl;have s1:=(bd.cell (p:=⟨h.heap.size,1,none⟩) (by show h.heap.size<_;omega)).trans (al.cell el (P _ (by show w.heap.size<=h.heap.size;omega)));have s2:=(bd.cell (p:=⟨j,k,none⟩) (by show j<_;omega)).trans (al.cell (br.row.cell L) (P _ (by show w.heap.size<=j;omega)));have ec:=Xa bd;clear bd T f0 f1 f2 f3 f4 f5;refine Tc (fun M=>M.cell? ⟨wr.heap.size,0,none⟩=some (.slice B X.ps.length C)/\M.cell? ⟨wr.heap.size,1,none⟩=some (.slice z X.is.length A)/\M.cell? ⟨wr.heap.size,2,none⟩=some (.int .i64 X.te.kind)/\M.cell? ⟨wr.heap.size,3,none⟩=some (.int .i64 X.te.a)/\M.cell? ⟨wr.heap.size,4,none⟩=some (.int .i64 X.te.to)/\M.cell? ⟨wr.heap.size,5,none⟩=some (.int .i64 X.te.els)/\M.cell? ⟨h.heap.size,1,none⟩=some (.slice (some ⟨j,0,none⟩) n n)/\M.cell? ⟨j,k,none⟩=some (.slice (some ⟨go k,0,none⟩) a a)) (fun hHeld=>?_);refine Yi 0 ?_;refine Yi 1 ?_;refine Yi 2 ?_;refine Yi 3 ?_;refine Yi 4 ?_;refine Yi 5 ?_;refine Yc 6 (fun e9 hK=>?_);go_simp;refine⟨trivial,(qp 8 _ _ _ _ _ _ (go k) a a f.drew).mono ?_⟩;rintro bc o ⟨rfl,a6⟩;have bw:Below f.heap.size f o:=by rw[a6];exact Xb (Xb (Below.refl f.heap.size f).drew _) _
   have fz:f.heap.size+2<=o.heap.size:=by rw[a6,aO,aO];exact aA _
   have Q:∀q x,#[Value.slice B X.ps.length C,.slice z X.is.length A,.int .i64 X.te.kind,.int .i64 X.te.a,.int .i64 X.te.to,.int .i64 X.te.els][q]?=some x->o.cell? ⟨f.heap.size,q,none⟩=some x:=fun q x i=>by
    rw[a6,bP _ _ ⟨f.heap.size,q,none⟩ (by rw[aO];show f.heap.size<f.heap.size+1;omega)];exact(eC f.drew _ _ q).trans i
   have dc:o.cell? ⟨f.heap.size+1,0,none⟩=some (.slice (some ⟨go k,0,none⟩) a a):=by
    rw[a6];have:=eC (f.drew.alloc (.cells #[.slice B X.ps.length C,.slice z X.is.length A,.int .i64 X.te.kind,.int .i64 X.te.a,.int .i64 X.te.to,.int .i64 X.te.els] 90)) #[.slice (some ⟨go k,0,none⟩) a a] 45 0;rw[aO]at this;exact this
   have F:=fun (bb q:Nat)(hb:bb<f.heap.size)=>bw.cell (p:=⟨bb,q,none⟩) hb
   have z0:=(F wr.heap.size 0 oM).trans x0;have z1:=(F wr.heap.size 1 oM).trans x1;have z2:=(F wr.heap.size 2 oM).trans x2;have z3:=(F wr.heap.size 3 oM).trans x3;have z4:=(F wr.heap.size 4 oM).trans x4;have z5:=(F wr.heap.size 5 oM).trans x5;have t1:=(F h.heap.size 1 oM).trans s1;have t2:=(F j k oM).trans s2;have af:=Xa (Xg ec bw);have a9:=Xa (al.trans (Zf.of_below af oM));have ed:=Xa (ej.trans ⟨af.size,fun q v _ c _=>(af.block q (aS.1 c).1).trans c⟩);have a5:=fun q d c=>(a9.low q d c).trans (ch.block q oM)
   have ep:Hid (UI X aq Y f.heap.size G o.heap.size o):=Xa ⟨hO.of_block (a5 _ c6 cr) oM,hT.of_block (a5 _ c7 cs) oM,⟨B,C,z,A,Q 0 _ rfl,Q 1 _ rfl,⟨Q 2 _ rfl,Q 3 _ rfl,Q 4 _ rfl,Q 5 _ rfl⟩,ca.keepS (fun q d c=>a5 q oM (hM q d c)),b3.keepS (fun q d c=>a5 q oM (hM q d c))⟩,oM,oM,c6,c7,oM⟩;have fi:=ee k L;have er:Hid (WsAt o (go k) a a (WX k)):=Xa ((br.set k L).of_block (by
    obtain⟨v,d,c⟩:=(br.set k L).obj;rw[d];exact a9.cells _ v (P _ oM) d c))
   have em:=Xa dc;have ef:Hid (∀e V',o.heap.size<=e->Below o.heap.size o V'->bv e g V'):=Xa (fun e V' d c=>bn.1 J e g wr V' oM b4 ((af.mono oM).trans (c.mono oM)));refine hK _ _ ⟨z0,z1,z2,z3,z4,z5,t1,t2⟩ (fun hHeld=>?_);clear hK;refine ZV ?_;have b7:Hid (∀(D:Nat)(U:World),o.heap.size<=D->KeepsFrom W.heap.size o U->U.heap[D]?=some (.deferred (some []))->ZJ U w2.heap.size (D::O)):=Xa (fun D U d c s=>by
    have hl:=fun q hq=>(aS.1 (N.obj q hq)).1
    refine⟨fL.2 ⟨fun hq=>by have:=hl D hq;omega,N.nd⟩,fun q hq=>?_,fun q hq=>?_⟩
    ·rcases cH.1 hq with rfl | hq
     ·omega
     ·exact N.ge q hq
    ·rcases cH.1 hq with rfl | hq
     ·exact s
     ·have h5:=N.ge q hq
      exact c.same q _ oM ((af.block q (hl q hq)).trans (N.obj q hq)) rfl)
   clear hHeld z0 z1 z2 z3 z4 z5 t1 t2 x0 x1 x2 x3 x4 x5 s1 s2 dc F bw Q a6 a5
   gi_wp2
   refine dv (F:=Fence.wide) (n:=9) rfl vY (gf:=90) (lb:=#[.pointer (some ⟨f.heap.size+1,0,none⟩),.pointer (some ⟨f.heap.size,0,none⟩)]) rfl trivial (enters_of func90 vZ rfl) (nO G (f.heap.size+1) f.heap.size aq Y (go k) a a V K X (WX k) o ep em er (Xa (es.out k)) ev cw hM (Xa (P.out _ oM)) (Xa (fun q hq=>P q oM)) cr cs b8 ce ap.1 ap.2 b9 (Xa (fun e8 d c=>((b6 k L e8 d).1 c).val y S))) (fun J=>ii _ _ _ _ J) (fun i k=>i.trans k) (fun W u ac o' d c s=>Zf.putObj W u ac o' oM c s) (Below.refl _ _) (fun _ _=>rfl)
    (fun e=>AsI W o G K bv g e) (fun cc I U=>cc=.ret/\AsX W o Jx g I U) (fun e=>AsI.own HJ oM oM e) ?ownX (fun _ e gc ad A' bf i ax=>i.turn ei oM oM bf ax) (fun i=>i.elim) ?start
    (fun e H a' U=>∃E:Nat,a'=⟨#[.func (.yield u) #[] #[],.pointer (some ⟨p,0,none⟩),.pointer (some ⟨W.heap.size,0,none⟩),.pointer (some ⟨h.heap.size,0,none⟩),.int .i64 (k:Int),.pointer (some ⟨wr.heap.size,0,none⟩),undef,.pointer (some ⟨E,0,none⟩),.agg #[.int .i64 (V:Int),.slice (some ⟨b,ac,none⟩) n ab],.agg #[.slice (some ⟨Gi,0,none⟩) n n,.slice (some ⟨j,0,none⟩) n n],.pointer (some ⟨p,1,none⟩),.slice (some ⟨b,ac,none⟩) n ab,.int .i64 (n:Int),.int .i64 (k:Int),.bool true,.int .i64 (k:Int),.pointer (some ⟨b,ac+k*6,none⟩),.agg #[.slice B X.ps.length C,.slice z X.is.length A,.int .i64 X.te.kind,.int .i64 X.te.a,.int .i64 X.te.to,.int .i64 X.te.els],.agg #[.slice B X.ps.length C,.slice z X.is.length A,.int .i64 X.te.kind,.int .i64 X.te.a,.int .i64 X.te.to,.int .i64 X.te.els],.pointer (some ⟨h.heap.size,1,none⟩),.slice (some ⟨j,0,none⟩) n n,.int .i64 (k:Int),.pointer (some ⟨j,k,none⟩),.agg #[.slice (some ⟨go k,0,none⟩) a a],.func (.func 90) #[] #[.pointer (some ⟨f.drew.heap.size+1,0,none⟩),.pointer (some ⟨f.drew.heap.size,0,none⟩)],.int .i64 (H.i:Int),.agg #[.slice (some ⟨e,0,none⟩) a H.C],undef,undef,undef,undef,bz],[]⟩/\o.heap.size<=E/\U.cell? ⟨E,0,none⟩=some (.slice (some ⟨e,0,none⟩) a H.C)) ?ownA ?assign ?body ?done ?stop
   case ownX =>
    rintro cc I ad U row ⟨rfl,i⟩ ax q;exact⟨rfl,AsX.own eg oM I ad U row i ax q⟩
   case start =>
    intro e U d c s;exact⟨by rw[fF];exact ef e U d s,Zf.of_below s oM,⟨s.size,fun q v _ q2 _=>(s.block q (aS.1 q2).1).trans q2⟩⟩
   case ownA =>
    rintro e H a' _ ad U row ⟨E,bc,d,c⟩ ax q;refine⟨E,bc,d,(Xc (ax.block E (aI ad _ c) (fun e2=>?_))).trans c⟩;obtain⟨v,s,h4⟩:=Yn c;obtain⟨_,o2,h5,h6⟩:=q E e2.symm;rw[show ad.heap[E]?=some v from s]at h5;injection h5 with h5;subst h5;rw[h4]at h6;cases h6
   case assign =>
    intro l' e I H U KK bf t hP cq;have l:=Xa t;have ba:=Xa hP;have ek:=Xa cq;clear t hP cq;unfold kg
    gi_wp2
    have a2:Below U.heap.size U (U.alloc (.cells #[.slice (some ⟨e,0,none⟩) a H.C] 45)):=Xb (Below.refl _ _) _;exact ek _ _ ⟨a2.size,fun k ac d _=>(a2.block k (aS.1 d).1).trans d⟩ (Zf.of_below a2 (oN l.kp.size)) (XO (AsI.own HJ oM oM e) l a2) (l9 ba a2) ⟨U.heap.size,rfl,l.kp.size,by simp[go_sem]⟩
   case body =>
    rintro l' e I H a' U bf fl _ t hP ⟨E,rfl,fc,fe⟩ fq;have l:=Xa t;have ba:=Xa hP;have HL:Hid ((g++I).length<n*4002):=Xa (by
     have d:=b5.out;have c:=ap.1;rw[aQ];have s:(k+1)*4002<=n*4002:=jI _ L;omega)
    have yb:=t.kp.cell (a9.cell et (P _ (by show w.heap.size<=W.heap.size;omega))) (P _ (by show w.heap.size<=W.heap.size;omega));clear t hP;obtain⟨fn,tmps,fa,bo,hy,m⟩:=KY (l':=l') (m':=6) (HY e (g++I) H U oM l.j ⟨ba.1.2,ba.2⟩ HL);have dd:(Instr.yield u #[.agg #[.slice (some ⟨e,0,none⟩) a H.C]]).run prog U=_:=hy;clear hy
    gi_wp2
    refine m.mono ?_;rintro bc U2 (⟨rfl,ay,a4,a3⟩ | ⟨rfl,ay,a4,a3⟩)
    ·have Z:=Xa ay
     have a8:=Xa a4;have aj:=Xa a3;clear ay a4 a3 m dd
     gi_wp2
     exact⟨JE aj oM,a8,by rw[<-cK];exact Z,l.kp.trans a8,l.kf.trans aj⟩
    ·have Z:=Xa ay
     have a8:=Xa a4;have aj:=Xa a3;clear ay a4 a3 m dd
     gi_wp2
     exact⟨JE aj oM,a8,rfl,by rw[<-cK];exact Z,l.kf.trans aj⟩
   case done =>
    rintro D e s' U hD bf ct t az;have l:=Xa t;have bq:=Xa az;have cb:=Xa ct;clear t az ct
    gi_wp2
    refine⟨⟨k+1,e,D::O,g++s',_,_,_,_,_,_,_,_,_,_,_,_,_,_,oM,rfl,Xa (a9.trans l.kp),Xa (ed.trans l.kf),Xa ?mk,oM,Xa l.j,Xa ?ls,Xa ?ln⟩,?ms⟩
    case mk=>exact b7 D U hD l.kf bq
    case ls =>
     rw[bG,bt.out,VJ,<-bs.out,<-cb.out,<-pK]
    case ln =>
     have d:=fI List.length cb;rw[bK]at d;have c:=jf X.is.length (plL X) (WX k);have s:(plL X).length=X.is.length+2:=by simp[plL,Vf]
     have h4:=b5.out;have h5:=ap.1;rw[aQ];omega
    case ms=>simp[intOf];omega
   case stop =>
    rintro D cc I U hD cv ⟨rfl,t⟩ az;have l:=Xa t;have bq:=Xa az;have eq:=Xa cv;clear t az cv
    gi_wp2
    have da:=b7 D U hD l.kf bq;refine JZ (D::O) U da (fun W' q1 q2 q3 q4 q5=>⟨.tuple #[],gV rfl _ _ _,⟨_,rfl⟩,.inr ⟨g++I,?_,bn.2 _ U W' l.j ⟨q1,q2,q3,q4,fun q hq=>q5 q (fun hm=>by have:=da.ge q hm;omega)⟩⟩⟩);rw[bG,bt.out,pK];refine List.IsPrefix.trans ?_ (sT r V (show k+1<=n from L));rw[VJ,<-bs.out];exact(List.prefix_append_right_inj _).2 (eq.map _)
  ·have e6:k=n:=oM
   subst e6
   gi_wp2
   refine JZ O wr N (fun W' q1 q2 q3 q4 q5=>⟨.tuple #[],gV rfl _ _ _,⟨_,rfl⟩,.inl ⟨J,g,hz,bt,bn.1 J J g wr W' hz b4 ⟨q1,q2,q3,q4,fun q hq=>q5 q (fun hm=>by have:=N.ge q hm;omega)⟩⟩⟩)
end
end Go.Proofs.YtghnlncgiihhgaaGreatDoor
