import Derived.Laws.Bits128
import Derived.Test.YtcncjgijikoapaaGreatDoorDG7
namespace Go.Proofs.YtcncjgijikoapaaGreatDoor
set_option maxHeartbeats 1000000
set_option maxRecDepth 100000
open _root_ renaming Nat->N,Int->I,rfl->R
open Value renaming int->Si
open Go renaming IntKind.i64->S6,Ending.returned->Rt,Calls->Sk
open Go.RowKit Go.Proofs.Tryz
variable{n m k:N}
theorem wD{f:Wk}(a:∀B,B<256->f B<=68):∀n x,E1 f n x<=Wr 68 n
 |0,_=>aA
 |n+1,x=>by have b:=wD a n<|x/256;have c:=a (x%256) (dS _ vY);simp only[E1,Wr];omega
theorem Fp:∀B,B<256->f2 (f1 B)<=68:=by decide +kernel
theorem JQ(h:n<256):(n+256*m)/256=m:=O
theorem Dn(n g h i k o p j e a b c d f q l m r)(K:n<=8)(B:g<=8)(C:h<=8)(L:i<=8)(P:k<=8)(F:o<=8)(T:p<=8)(V:j<=8)(e3:q=n+256*e)(u:e=g+256*a)(v:a=h+256*b)(w:b=i+256*c)(x:c=k+256*d)(y:d=o+256*f)(z:f=p+256*j)(e4:l=q+q/256)(e5:m=l+l/65536)(t:r=m+m/4294967296):l<9223372036854775808/\m<9223372036854775808/\r<9223372036854775808/\r%128=n+(g+(h+(i+(k+(o+(p+j)))))):=by
 have d3:q/256=e:=by rw[e3];exact JQ O
 have c4:l=(n+g)+256*(e+a):=O;have d4:l/65536=a+b:=by rw[show 65536=256*256 from R,<-iZ,c4,JQ O,show e+a=(g+h)+256*(a+b) by omega,JQ O]
 have c5:m=(n+g+h+i)+256*(e+a+b+c):=O;have d5:m/4294967296=c+d+f+j:=by rw[show 4294967296=256*256*256*256 from R,<-iZ,<-iZ,<-iZ,c5,JQ O,show e+a+b+c=(g+h+i+k)+256*(a+b+c+d) by omega,JQ O,show a+b+c+d=(h+i+k+o)+256*(b+c+d+f) by omega,JQ O,show b+c+d+f=(i+k+o+p)+256*(c+d+f+j) by omega,JQ O]
 have s:r=(n+g+h+i+k+o+p+j)+256*(e+a+b+c+d+f+j):=O;have W:f<=2304:=O;have M:d<=590000:=O;have L_:c<=151100000:=O;have K_:b<=38700000000:=O;have J_:a<=9910000000000:=O;have I_:e<=2540000000000000:=O;refine⟨O,O,O,?_⟩;generalize e+a+b+c+d+f+j=O_ at s;omega
theorem CH(x)(e4:n=E1 Zc 8 x+E1 Zc 8 x/256)(e5:m=n+n/65536)(b:k=m+m/4294967296):n<9223372036854775808/\m<9223372036854775808/\k<9223372036854775808/\k%128=NZ 8 x:=by rw[uh];have a:∀y,Zc (y%256)<=8:=λy=>uo _<|dS _ vY;have h:=Dn (Zc<|x%256) (Zc<|x/256%256) (Zc<|x/256/256%256) (Zc<|x/256/256/256%256) (Zc<|x/256/256/256/256%256) (Zc<|x/256/256/256/256/256%256) (Zc<|x/256/256/256/256/256/256%256) (Zc<|x/256/256/256/256/256/256/256%256) (E1 Zc 7<|x/256) (E1 Zc 6<|x/256/256) (E1 Zc 5<|x/256/256/256) (E1 Zc 4<|x/256/256/256/256) (E1 Zc 3<|x/256/256/256/256/256) (E1 Zc 2<|x/256/256/256/256/256/256) (E1 Zc 8 x) n m k (a _) (a _) (a _) (a _) (a _) (a _) (a _) (a _) R R R R R R (by simp only[E1];omega) e4 e5 b;simp only[rA];exact h
theorem AZ(w:Ub)(q:n<18446744073709551616):
 Sk prog 80 #[Si .u64 (n:I)] w λo x=>o=Rt (H (NZ 8 n:N))/\x=w:=by
 have m:Wr 85 8=6148914691236517205:=vY;have m1:Wr 51 8=3689348814741910323:=vY;have m2:Wr 15 8=1085102592571150095:=vY;have s1:=wV 8 n;have s2:=wP 8<|E1 f1 8 n;have s3:=wR 8 (E1 f2 8<|E1 f1 8 n) (by rw[map_map kT];exact vy 8 n);rw[m]at s1;rw[m1]at s2;rw[m2,map_map kT,map_map λB h=>rq _<|kT _ h,tP Gt]at s3;have i:E1 f1 8 n<18446744073709551616:=oZ kT 8 n;have j:E1 f2 8 (E1 f1 8 n)<18446744073709551616:=oZ rq 8 _;have u:E1 Zc 8 n<18446744073709551616:=oZ (λB h=>iC (uo B h) vY) 8 n;let⟨r,s,K,t⟩:=CH n R R R;have k:E1 f2 8 (E1 f1 8 n)/16+E1 f2 8 (E1 f1 8 n)<18446744073709551616:=by have l:=wD (f:=λB=>f2<|f1 B) Fp 8 n;rw[map_map kT];rw[show Wr 68 8=4919131752989213764 by decide]at l;omega
 rw[map_map kT]at j s2 k;generalize E1 f1 8 n=e at*;generalize E1 (λB=>f2<|f1 B) 8 n=d at*;generalize E1 Zc 8 n=a at*;generalize NZ 8 n=v at*;have W:∀f:N,f<18446744073709551616->IntKind.u64.wrap f=f:=λf l=>by rw[iV];exact mB O O
 have y:IntKind.u64.wrap (bits .and .u64 ((n:I)/2) 6148914691236517205+bits .and .u64 n 6148914691236517205)=(e:I):=by have q1:=jH (n/2) 6148914691236517205 O vY;have q2:=jH n 6148914691236517205 q vY;rw[show((n:I)/2)=((n/2:N):I) by omega];rw[show(6148914691236517205:I)=((6148914691236517205:N):I)from R,q1,q2,<-kB,s1,W _ i]
 have b2:IntKind.u64.wrap (bits .and .u64 ((e:I)/4) 3689348814741910323+bits .and .u64 e 3689348814741910323)=(d:I):=by have q1:=jH (e/4) 3689348814741910323 O vY;have q2:=jH e 3689348814741910323 i vY;rw[show((e:I)/4)=((e/4:N):I) by omega];rw[show(3689348814741910323:I)=((3689348814741910323:N):I)from R,q1,q2,<-kB,s2,W _ j]
 have z:bits .and .u64 ((d:I)/16+(d:I)) 1085102592571150095=(a:I):=by have p:=k;have q1:=jH (d/16+d) 1085102592571150095 p vY;rw[show((d:I)/16+(d:I))=((d/16+d:N):I) by omega];rw[show(1085102592571150095:I)=((1085102592571150095:N):I)from R,q1,s3]
 have L:IntKind.u64.wrap ((a:I)+a/256)=((a+a/256:N):I):=by rw[show((a:I)+a/256)=((a+a/256:N):I) by omega];exact W _ O
 generalize a+a/256=b at*;have C:IntKind.u64.wrap ((b:I)+b/65536)=((b+b/65536:N):I):=by rw[show((b:I)+b/65536)=((b+b/65536:N):I) by omega];exact W _ O
 generalize b+b/65536=c at*;have M:IntKind.u64.wrap ((c:I)+c/4294967296)=((c+c/4294967296:N):I):=by rw[show((c:I)+c/4294967296)=((c+c/4294967296:N):I) by omega];exact W _ O
 generalize c+c/4294967296=g at*;have P:bits .and S6 g 127=(v:I):=by rw[i64_and127];omega
 have F:wrap64 g=g:=by simp[wrap64];omega
 go_in
 go_wp2;go_ret;exact⟨R,R⟩
end Go.Proofs.YtcncjgijikoapaaGreatDoor
