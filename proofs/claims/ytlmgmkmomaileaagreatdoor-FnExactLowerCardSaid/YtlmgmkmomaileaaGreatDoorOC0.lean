import Derived.Laws.Bits128
import Derived.Test.YtlmgmkmomaileaaGreatDoorNV1
namespace Go.Proofs.YtlmgmkmomaileaaGreatDoor
open Go.RowKit
def YM(B:Nat):Nat:=(List.range 8).countP fun i=>B.testBit i
def mapB(f:Nat->Nat):Nat->Nat->Nat
 | 0,_=>0
 | n+1,x=>f (x % 256)+256*mapB f n (x / 256)
def Vq(c:Nat):Nat->Nat
 | 0=>0
 | n+1=>c+256*Vq c n
theorem JE{B c:Nat}(y M:Nat)(hB:B<256)(hc:c<256):(B+256*y) &&& (c+256*M)=(B &&& c)+256*(y &&& M):=by
 have hb:B &&& c<2 ^ 8:=Nat.lt_of_le_of_lt Nat.and_le_left hB;have e1:B+256*y=2 ^ 8*y+B:=oM;have e2:c+256*M=2 ^ 8*M+c:=oM;have e3:(B &&& c)+256*(y &&& M)=2 ^ 8*(y &&& M)+(B &&& c):=oM;rw[e1,e2,e3];apply Nat.eq_of_testBit_eq;intro i;rw[Nat.testBit_and,Nat.testBit_two_pow_mul_add _ hB,Nat.testBit_two_pow_mul_add _ hc,Nat.testBit_two_pow_mul_add _ hb];by_cases h:i<8
 ·simp[h]
 ·simp[h]
def f1(B:Nat):Nat:=(B / 2 &&& 85)+(B &&& 85)
def f2(B:Nat):Nat:=(B / 4 &&& 51)+(B &&& 51)
def f3(B:Nat):Nat:=(B / 16+B) &&& 15
theorem ZgD:∀t,t<2->∀B,B<256->(B / 2+128*t) &&& 85=B / 2 &&& 85:=by decide +kernel
theorem ZhU:∀t,t<4->∀B,B<256->(B / 4+64*t) &&& 51=B / 4 &&& 51:=by decide +kernel
theorem WP:∀B,B<256->f1 B<256:=by decide +kernel
theorem ZgI:∀B,B<256->f2 B<256:=by decide +kernel
abbrev ZjT(B:Nat):Prop:=B % 16<=4/\B / 16<=4
theorem Zjq:∀B,B<256->ZjT (f2 (f1 B)):=by decide +kernel
theorem ZhZ:∀t,t<=4->∀B,B<256->ZjT B->B / 16+16*t+B<256/\(B / 16+16*t+B) &&& 15=f3 B:=by decide +kernel
theorem Zlu:∀B,B<256->f3 (f2 (f1 B))=YM B:=by decide +kernel
theorem Zdh:∀B,B<256->YM B<=8:=by decide +kernel
theorem ZaZ{f:Nat->Nat}(hf:∀B,B<256->f B<256):∀n x,mapB f n x<256 ^ n
 | 0,_=>by simp[mapB]
 | n+1,x=>by
  have h1:=ZaZ hf n (x / 256);have h2:=hf (x % 256) (Nat.mod_lt _ dC);simp only[mapB,Nat.pow_succ];omega
theorem map_map{f h:Nat->Nat}(hh:∀B,B<256->h B<256):∀n x,mapB f n (mapB h n x)=mapB (fun B=>f (h B)) n x
 | 0,_=>rfl
 | n+1,x=>by
  have h2:=hh (x % 256) (Nat.mod_lt _ dC);simp only[mapB];have e1:(h (x % 256)+256*mapB h n (x / 256)) % 256=h (x % 256):=oM;have e2:(h (x % 256)+256*mapB h n (x / 256)) / 256=mapB h n (x / 256):=oM;rw[e1,e2,map_map hh n]
theorem ZaJ{f h:Nat->Nat}(e:∀B,B<256->f B=h B):∀n x,mapB f n x=mapB h n x
 | 0,_=>rfl
 | n+1,x=>by simp only[mapB];rw[e _ (Nat.mod_lt _ dC),ZaJ e n]
theorem ZjH:∀n x,(x / 2 &&& Vq 85 n)+(x &&& Vq 85 n)=mapB f1 n x
 | 0,x=>by simp[Vq,mapB]
 | n+1,x=>by
  have hB:x % 256<256:=Nat.mod_lt _ dC;have ex:x=x % 256+256*(x / 256):=oM;have ex2:x / 2=(x % 256 / 2+128*(x / 256 % 2))+256*(x / 256 / 2):=oM;have ih:=ZjH n (x / 256);simp only[mapB,Vq];rw[<-ih];have a1:x / 2 &&& (85+256*Vq 85 n)=(x % 256 / 2 &&& 85)+256*(x / 256 / 2 &&& Vq 85 n):=by
   rw[ex2,JE _ _ oM dC,ZgD _ (Nat.mod_lt _ dC) _ hB]
  have a2:x &&& (85+256*Vq 85 n)=(x % 256 &&& 85)+256*(x / 256 &&& Vq 85 n):=by
   conv=>lhs;rw[ex]
   exact JE _ _ hB dC
  rw[a1,a2];unfold f1;omega
theorem ZjM:∀n x,(x / 4 &&& Vq 51 n)+(x &&& Vq 51 n)=mapB f2 n x
 | 0,x=>by simp[Vq,mapB]
 | n+1,x=>by
  have hB:x % 256<256:=Nat.mod_lt _ dC;have ex:x=x % 256+256*(x / 256):=oM;have ex2:x / 4=(x % 256 / 4+64*(x / 256 % 4))+256*(x / 256 / 4):=oM;have ih:=ZjM n (x / 256);simp only[mapB,Vq];rw[<-ih];have a1:x / 4 &&& (51+256*Vq 51 n)=(x % 256 / 4 &&& 51)+256*(x / 256 / 4 &&& Vq 51 n):=by
   rw[ex2,JE _ _ oM dC,ZhU _ (Nat.mod_lt _ dC) _ hB]
  have a2:x &&& (51+256*Vq 51 n)=(x % 256 &&& 51)+256*(x / 256 &&& Vq 51 n):=by
   conv=>lhs;rw[ex]
   exact JE _ _ hB dC
  rw[a1,a2];unfold f2;omega
def UQ:Nat->Nat->Prop
 | 0,x=>x=0
 | n+1,x=>ZjT (x % 256)/\UQ n (x / 256)
theorem Zfe:∀n x,UQ n (mapB (fun B=>f2 (f1 B)) n x)
 | 0,_=>rfl
 | n+1,x=>by
  have hB:x % 256<256:=Nat.mod_lt _ dC;have h1:=ZgI _ (WP _ hB);have h2:=Zjq _ hB;have ih:=Zfe n (x / 256);simp only[mapB,UQ];have e1:(f2 (f1 (x % 256))+256*mapB (fun B=>f2 (f1 B)) n (x / 256)) % 256=f2 (f1 (x % 256)):=oM;have e2:(f2 (f1 (x % 256))+256*mapB (fun B=>f2 (f1 B)) n (x / 256)) / 256=mapB (fun B=>f2 (f1 B)) n (x / 256):=oM;rw[e1,e2];exact⟨h2,ih⟩
theorem ZiF:∀n x,UQ n x->x % 16<=4
 | 0,x,h=>by simp only[UQ]at h;omega
 | n+1,x,h=>by
  have:=h.1.1;omega
theorem ZjN:∀n x,UQ n x->(x / 16+x) &&& Vq 15 n=mapB f3 n x
 | 0,x,_=>by simp[Vq,mapB]
 | n+1,x,h=>by
  have hB:x % 256<256:=Nat.mod_lt _ dC;have ih:=ZjN n (x / 256) h.2;have ht:=ZiF n _ h.2;obtain⟨h1,h2⟩:=ZhZ _ ht _ hB h.1;simp only[mapB,Vq];rw[<-ih,<-h2];have ex:x / 16+x=(x % 256 / 16+16*(x / 256 % 16)+x % 256)+256*(x / 256 / 16+x / 256):=oM;rw[ex,JE _ _ h1 dC]
def onesN(n x:Nat):Nat:=(List.range (8*n)).countP fun i=>x.testBit i
theorem Zet(n x:Nat):onesN (n+1) x=YM (x % 256)+onesN n (x / 256):=by
 unfold onesN YM;have e:8*(n+1)=8+8*n:=oM;rw[e,List.range_add,List.countP_append,List.countP_map];congr 1
 ·apply List.countP_congr
  intro i hi;have:i<8:=List.mem_range.1 hi;have e2:(x % 2 ^ 8).testBit i=x.testBit i:=by rw[Nat.testBit_mod_two_pow];simp[this]
  rw[show x % 256=x % 2 ^ 8 from rfl,e2]
 ·apply List.countP_congr
  intro i hi;have e2:(x / 2 ^ 8).testBit i=x.testBit (8+i):=by rw[Nat.testBit_div_two_pow,Nat.add_comm]
  rw[show x / 256=x / 2 ^ 8 from rfl,e2];rfl
def Zkb(f:Nat->Nat):Nat->Nat->Nat
 | 0,_=>0
 | n+1,x=>f (x % 256)+Zkb f n (x / 256)
theorem Zc0:∀n x,onesN n x=Zkb YM n x
 | 0,_=>rfl
 | n+1,x=>by rw[Zet,Zc0 n];rfl
end Go.Proofs.YtlmgmkmomaileaaGreatDoor
namespace Go.Proofs.YtlmgmkmomaileaaGreatDoor
set_option maxHeartbeats 1000000
set_option maxRecDepth 100000
open Go.RowKit
theorem Zhn{f:Nat->Nat}(hf:∀B,B<256->f B<=68):∀n x,mapB f n x<=Vq 68 n
 | 0,_=>Nat.le_refl _
 | n+1,x=>by
  have h1:=Zhn hf n (x / 256);have h2:=hf (x % 256) (Nat.mod_lt _ dC);simp only[mapB,Vq];omega
theorem Zkt:∀B,B<256->f2 (f1 B)<=68:=by decide +kernel
theorem Jo{p q:Nat}(h:p<256):(p+256*q) / 256=q:=oM
theorem ZgU(p0 p1 p2 p3 p4 p5 p6 p7 a1 a2 a3 a4 a5 a6 X3 X4 X5 X6:Nat)(h0:p0<=8)(h1:p1<=8)(h2:p2<=8)(h3:p3<=8)(h4:p4<=8)(h5:p5<=8)(h6:p6<=8)(h7:p7<=8)
 (e3:X3=p0+256*a1) (g1:a1=p1+256*a2) (g2:a2=p2+256*a3) (g3:a3=p3+256*a4) (g4:a4=p4+256*a5) (g5:a5=p5+256*a6) (g6:a6=p6+256*p7) (e4:X4=X3+X3 / 256) (e5:X5=X4+X4 / 65536) (e6:X6=X5+X5 / 4294967296):X4<9223372036854775808/\X5<9223372036854775808/\X6<9223372036854775808/\X6 % 128=p0+(p1+(p2+(p3+(p4+(p5+(p6+p7)))))):=by
 have d3:X3 / 256=a1:=by rw[e3];exact Jo oM
 have c4:X4=(p0+p1)+256*(a1+a2):=oM;have d4:X4 / 65536=a2+a3:=by
  rw[show 65536=256*256 from rfl,<-Nat.div_div_eq_div_mul,c4,Jo oM,show a1+a2=(p1+p2)+256*(a2+a3) by omega,Jo oM]
 have c5:X5=(p0+p1+p2+p3)+256*(a1+a2+a3+a4):=oM;have d5:X5 / 4294967296=a4+a5+a6+p7:=by
  rw[show 4294967296=256*256*256*256 from rfl,<-Nat.div_div_eq_div_mul,<-Nat.div_div_eq_div_mul,<-Nat.div_div_eq_div_mul,c5,Jo oM,show a1+a2+a3+a4=(p1+p2+p3+p4)+256*(a2+a3+a4+a5) by omega,Jo oM,show a2+a3+a4+a5=(p2+p3+p4+p5)+256*(a3+a4+a5+a6) by omega,Jo oM,show a3+a4+a5+a6=(p3+p4+p5+p6)+256*(a4+a5+a6+p7) by omega,Jo oM]
 have c6:X6=(p0+p1+p2+p3+p4+p5+p6+p7)+256*(a1+a2+a3+a4+a5+a6+p7):=oM;have k6:a6<=2304:=oM;have k5:a5<=590000:=oM;have k4:a4<=151100000:=oM;have k3:a3<=38700000000:=oM;have k2:a2<=9910000000000:=oM;have k1:a1<=2540000000000000:=oM;clear e3 e4 e5 e6 d3 d4 d5 g1 g2 g3 g4 g5 g6;refine⟨oM,oM,oM,?_⟩;generalize a1+a2+a3+a4+a5+a6+p7=q at c6;omega
theorem Zgh(x X4 X5 X6:Nat)(e4:X4=mapB YM 8 x+mapB YM 8 x / 256)(e5:X5=X4+X4 / 65536)(e6:X6=X5+X5 / 4294967296):X4<9223372036854775808/\X5<9223372036854775808/\X6<9223372036854775808/\X6 % 128=onesN 8 x:=by
 rw[Zc0];have hm:∀y,YM (y % 256)<=8:=fun y=>Zdh _ (Nat.mod_lt _ dC)
 have h:=ZgU (YM (x % 256)) (YM (x / 256 % 256)) (YM (x / 256 / 256 % 256)) (YM (x / 256 / 256 / 256 % 256)) (YM (x / 256 / 256 / 256 / 256 % 256)) (YM (x / 256 / 256 / 256 / 256 / 256 % 256)) (YM (x / 256 / 256 / 256 / 256 / 256 / 256 % 256)) (YM (x / 256 / 256 / 256 / 256 / 256 / 256 / 256 % 256)) (mapB YM 7 (x / 256)) (mapB YM 6 (x / 256 / 256)) (mapB YM 5 (x / 256 / 256 / 256)) (mapB YM 4 (x / 256 / 256 / 256 / 256)) (mapB YM 3 (x / 256 / 256 / 256 / 256 / 256)) (mapB YM 2 (x / 256 / 256 / 256 / 256 / 256 / 256)) (mapB YM 8 x) X4 X5 X6 (hm _) (hm _) (hm _) (hm _) (hm _) (hm _) (hm _) (hm _) rfl rfl rfl rfl rfl rfl (by simp only[mapB];omega) e4 e5 e6;simp only[Zkb];exact h
theorem ZcP(x:Nat)(w:World)(hx:x<18446744073709551616) :
 Calls Tryz.prog 76 #[.int .u64 (x:Int)] w fun e w'=>e=.returned (.int .i64 (onesN 8 x:Nat))/\w'=w:=by
 have m0:Vq 85 8=6148914691236517205:=dC;have m1:Vq 51 8=3689348814741910323:=dC;have m2:Vq 15 8=1085102592571150095:=dC;have s1:=ZjH 8 x;have s2:=ZjM 8 (mapB f1 8 x);have s3:=ZjN 8 (mapB f2 8 (mapB f1 8 x)) (by rw[map_map WP];exact Zfe 8 x);rw[m0]at s1;rw[m1]at s2;rw[m2,map_map WP,map_map (fun B hB=>ZgI _ (WP _ hB)),ZaJ Zlu]at s3;have l1:mapB f1 8 x<18446744073709551616:=ZaZ WP 8 x;have l2:mapB f2 8 (mapB f1 8 x)<18446744073709551616:=ZaZ ZgI 8 _;have l3:mapB YM 8 x<18446744073709551616:=ZaZ (fun B hB=>Nat.lt_of_le_of_lt (Zdh B hB) dC) 8 x;obtain⟨k4,k5,k6,k7⟩:=Zgh x _ _ _ rfl rfl rfl;have HX2:mapB f2 8 (mapB f1 8 x) / 16+mapB f2 8 (mapB f1 8 x)<18446744073709551616:=by
  have h:=Zhn (f:=fun B=>f2 (f1 B)) Zkt 8 x;rw[map_map WP];rw[show Vq 68 8=4919131752989213764 by decide]at h;omega
 rw[map_map WP]at l2 s2 HX2;generalize mapB f1 8 x=X1 at *;generalize mapB (fun B=>f2 (f1 B)) 8 x=X2 at *;generalize mapB YM 8 x=X3 at *;generalize onesN 8 x=r at *;have W:∀a:Nat,a<18446744073709551616->IntKind.u64.wrap (a:Int)=(a:Int):=fun a h=>by rw[IntKind.wrap_u64];exact Int.emod_eq_of_lt oM oM
 have b1:IntKind.u64.wrap (bits .and .u64 ((x:Int) / 2) 6148914691236517205+bits .and .u64 (x:Int) 6148914691236517205)=(X1:Int):=by
  have q1:=u64_and_nat (x / 2) 6148914691236517205 oM dC;have q2:=u64_and_nat x 6148914691236517205 hx dC;rw[show((x:Int) / 2)=((x / 2:Nat):Int) by omega];rw[show(6148914691236517205:Int)=((6148914691236517205:Nat):Int) from rfl,q1,q2,<-Int.natCast_add,s1,W _ l1]
 have b2:IntKind.u64.wrap (bits .and .u64 ((X1:Int) / 4) 3689348814741910323+bits .and .u64 (X1:Int) 3689348814741910323)=(X2:Int):=by
  have q1:=u64_and_nat (X1 / 4) 3689348814741910323 oM dC;have q2:=u64_and_nat X1 3689348814741910323 l1 dC;rw[show((X1:Int) / 4)=((X1 / 4:Nat):Int) by omega];rw[show(3689348814741910323:Int)=((3689348814741910323:Nat):Int) from rfl,q1,q2,<-Int.natCast_add,s2,W _ l2]
 have b3:bits .and .u64 ((X2:Int) / 16+(X2:Int)) 1085102592571150095=(X3:Int):=by
  have hl:X2 / 16+X2<18446744073709551616:=HX2;have q1:=u64_and_nat (X2 / 16+X2) 1085102592571150095 hl dC;rw[show((X2:Int) / 16+(X2:Int))=((X2 / 16+X2:Nat):Int) by omega];rw[show(1085102592571150095:Int)=((1085102592571150095:Nat):Int) from rfl,q1,s3]
 have b4:IntKind.u64.wrap ((X3:Int)+(X3:Int) / 256)=((X3+X3 / 256:Nat):Int):=by
  rw[show((X3:Int)+(X3:Int) / 256)=((X3+X3 / 256:Nat):Int) by omega];exact W _ oM
 generalize X3+X3 / 256=X4 at *;have b5:IntKind.u64.wrap ((X4:Int)+(X4:Int) / 65536)=((X4+X4 / 65536:Nat):Int):=by
  rw[show((X4:Int)+(X4:Int) / 65536)=((X4+X4 / 65536:Nat):Int) by omega];exact W _ oM
 generalize X4+X4 / 65536=X5 at *;have b6:IntKind.u64.wrap ((X5:Int)+(X5:Int) / 4294967296)=((X5+X5 / 4294967296:Nat):Int):=by
  rw[show((X5:Int)+(X5:Int) / 4294967296)=((X5+X5 / 4294967296:Nat):Int) by omega];exact W _ oM
 generalize X5+X5 / 4294967296=X6 at *;have b7:bits .and .i64 (X6:Int) 127=(r:Int):=by rw[i64_and127];omega
 have b8:wrap64 (X6:Int)=(X6:Int):=by simp[wrap64];omega
 clear s1 s2 s3 m0 m1 m2 l1 l2 l3 k4 k5 k7 W
 go_enter Tryz.func76,Tryz.ntmps76
 go_wp2
 go_ret
 exact⟨rfl,rfl⟩
def cntN(W:Nat->Nat)(K:Nat):Nat:=(List.range (64*K)).countP fun x=>Xg W x
theorem Zck(W:Nat->Nat)(K:Nat):cntN W (K+1)=cntN W K+onesN 8 (W K):=by
 unfold cntN onesN;have e:64*(K+1)=64*K+8*8:=oM;rw[e,List.range_add,List.countP_append,List.countP_map];congr 1;apply List.countP_congr;intro i hi;have:i<64:=List.mem_range.1 hi;have e1:(64*K+i) / 64=K:=oM;have e2:(64*K+i) % 64=i:=oM;simp only[Function.comp,Xg,e1,e2]
theorem Ub(W:Nat->Nat)(K:Nat):cntN W K<=64*K:=Nat.le_trans (List.countP_le_length) sP
theorem TC(g K C:Nat)(W:Nat->Nat)(w:World)(hW:Hid (XA W))(hr:Hid (WsAt w g K C W))(hK:K<=1000) :
 Calls Tryz.prog 41 #[.agg #[.slice (some ⟨g,0,none⟩) K C]] w fun e w'=>e=.returned (.int .i64 (cntN W K:Nat))/\Below w.heap.size w w':=by
 have hg:=hr.lt
 go_enter Tryz.func41,Tryz.ntmps41
 go_wp2
 go_loopw [3,9] (fun u i wr=>∃k:Nat,k<=K/\i=.int .i64 k/\u=.int .i64 (cntN W k:Nat)/\Hid (Below w.heap.size w wr)) (fun _ i _=>K-(intOf i).toNat)
 case atStart=>exact⟨0,Nat.zero_le _,rfl,rfl,Xa (Xb (Below.refl _ _) _)⟩
 case round =>
  obtain⟨k,hk,rfl,rfl,HB⟩:=hrel;by_cases hlt:k<K
  ·have hc:=(HB.cell (p:=⟨g,k,none⟩) hg).trans (hr.cell hlt)
   have hwk:=hW.out k;have HS:=Xa (Zck W k);have hle:=Ub W k;have hle2:=Ub W (k+1);rw[HS.out]at hle2;generalize cntN W k=c0 at *;generalize W k=Wk at *;have HO:=Xa (ZcP Wk wr hwk);generalize onesN 8 Wk=o at *
   go_wp2_with (go_at_call 76;refine HO.mono ?_;rintro e w2 ⟨rfl,hw2⟩;rw[hw2];clear hw2 w2)
   exact⟨⟨k+1,oM,gM,by rw[HS.out];go_num,HB⟩,by simp[intOf];omega⟩
  ·have e:k=K:=oM
   subst e;go_wp2
   go_ret
   exact⟨rfl,HB.out⟩
theorem Tryz.infoU64colorNo:(Tryz.prog.info? 145).map (fun i=>(i.zero,i.size,i.bytes))=some (some (.int .u64 0),1,8):=vZ
theorem WC(room:Nat)(w:World)(hr:room<=60000):Calls Tryz.prog 73 #[.int .i64 room] w fun e w'=>∃g,e=.returned (.agg #[.slice (some ⟨g,0,none⟩) ((room+63) / 64) ((room+63) / 64)])/\w.heap.size<=g/\Below w.heap.size w w'/\w'.rowIs g 145 ((room+63) / 64) (fun _=>.int .u64 ((0:Nat):Int)):=by
 have hmk:=run_make_row' (P:=Tryz.prog) 91 145 (.int .u64 0) 8 Tryz.underlying91 Tryz.infoU64colorNo rfl .i64 .i64 ((room+63) / 64) oM oM;have hq:((room:Int)+63).tdiv 64=(((room+63) / 64:Nat):Int):=by rw[Int.tdiv_eq_ediv_of_nonneg oM];omega
 have hq2:((room:Int)+64-1)=(room:Int)+63:=oM;have hK:(room+63) / 64<=1000:=oM;generalize (room+63) / 64=K at *
 go_enter Tryz.func73,Tryz.ntmps73
 go_wp2;refine bodyPost_ret (v:=.agg #[.slice (some ⟨w.heap.size+1,0,none⟩) K K]) (by simp[results,Tryz.results73,go_sem]) rfl ?_;refine⟨w.heap.size+1,rfl,oM,Xb (Xb (Below.refl _ _) _) _,?_⟩;have hrow:∀ob,((w.alloc ob).alloc (.cells (madeCells #[.int .u64 0] K) 145)).rowIs (w.heap.size+1) 145 K (fun _=>.int .u64 0):=fun ob=>by
  have:=World.rowIs_made (w.alloc ob) (.int .u64 0) K 145;rwa[World.size_alloc]at this
 exact hrow _
theorem Zc4(g K C n c:Nat)(W:Nat->Nat)(a:Option Addr)(ts:List Nat)(L B:Nat)(w:World)(ha:Hid (Xf w L B a (ts.map Int.ofNat)))(hx:Hid (n=ts.length))(hn:n<=4000)(ht:Hid (∀t∈ts,t<64*K))(hK:K<=1000)(hW:Hid (XA W))(hr:Hid (WsAt w g K C W))(hB:B<=w.heap.size)(hgL:¬(L<=g/\g<B)) :
 Calls Tryz.prog 75 #[.agg #[.slice (some ⟨g,0,none⟩) K C],.slice a n c] w fun e w'=>e=.returned (.tuple #[])/\w.grownBy w' (some g)/\WsAt w' g K C (addsN W ts):=by
 go_enter Tryz.func75,Tryz.ntmps75
 go_wp2;have hg:g<w.heap.size:=hr.lt
 go_loopw [8] (fun u wr=>∃q:Nat,q<=n/\u=.int .i64 q/\Hid (w.grownBy wr (some g))/\wr.cell? ⟨w.heap.size,0,none⟩=some (.slice (some ⟨g,0,none⟩) K C)/\Hid (WsAt wr g K C (addsN W (ts.take q)))) (fun u _=>n-(intOf u).toNat)
 case atStart=>exact⟨0,Nat.zero_le _,rfl,Xa (World.grownBy_alloc _ _ _),sP,Xa (hr.alloc _)⟩
 case round =>
  obtain⟨q,hq,rfl,HG,hs,HR⟩:=hrel;by_cases hlt:q<n
  ·have hqx:q<ts.length:=by have:=hx.out;omega
   obtain⟨b,o,rfl,hbB,e0w⟩:=ha.out q (by simpa using hqx);have e0:=(Xc (HG.block b oM (fun e=>by injection e with e;omega))).trans e0w;rw[List.getElem_map]at e0;have htq:=ht.out _ (List.getElem_mem hqx);have HT:=Xa (UY (W:=W) hqx);have HWA:=Xa (Zs (ts.take q) hW.out);clear e0w;generalize ts[q]=t at *;have h2:=Zhy t;have h3:=Zif t;have e0':wr.cell? ⟨b,o+q,none⟩=some (.int .i64 (t:Int)):=e0;clear e0;generalize addsN W (ts.take q)=W1 at *;have hd:t / 64<K:=oM;have hm:t % 64<64:=Nat.mod_lt _ dC;have ec:=HR.cell hd;have ez:=HR.frozen;have HOR:=Xa (Zb8 hm (HWA.out (t / 64)));have HAD:Hid (∀i,(if i=t / 64 then W1 (t / 64) ||| 2 ^ (t % 64)else W1 i)=addsN W (ts.take (q+1)) i):=Xa (fun i=>by
    rw[HT.out];unfold Y0;by_cases e:i=t / 64
    ·rw[if_pos e,if_pos e,e]
    ·rw[if_neg e,if_neg e])
   generalize hd2:t / 64=td at *;generalize hm2:t % 64=tm at *;go_wp2
   go_region
   go_wp2;rw[HOR.out];have kk:wr.grownBy (wr.setCell ⟨g,td,none⟩ (.int .u64 ((W1 td ||| 2 ^ tm:Nat):Int))).drew (some g):=⟨rfl,rfl,rfl,by simp[World.setCell,World.drew],fun k _ hk=>Below.heap_setCell _ _ _ _ (fun e=>hk (by rw[e]))⟩;refine⟨⟨q+1,oM,gM,Xa (HG.andThen kk (fun j hj=>by cases hj;exact Or.inr rfl)),?_,Xa ?_⟩,by simp[intOf];omega⟩
   ·exact(World.cell?_setCell_far wr ⟨g,td,none⟩ ⟨w.heap.size,0,none⟩ _ (by show g≠w.heap.size;omega)).trans hs
   ·refine WsAt.drew ((HR.set td _ hd).congr (fun i _=>?_))
    rw[<-HAD.out i]
  ·have hqn:q=n:=oM
   have HX:Hid (ts.take q=ts):=Xa (List.take_of_length_le (by have:=hx.out;omega));rw[HX.out]at HR;go_wp2
   go_end0
   exact⟨rfl,HG.out,HR.out⟩
theorem Zap(g K C:Nat)(W:Nat->Nat)(w:World)(hW:Hid (XA W))(hr:Hid (WsAt w g K C W))(hK:K<=1000) :
 Calls Tryz.prog 40 #[.agg #[.slice (some ⟨g,0,none⟩) K C]] w fun e w'=>e=.returned (.int .i64 (cntN W K:Nat))/\Below w.heap.size w w':=by
 have hg:=hr.lt
 go_enter Tryz.func40,Tryz.ntmps40
 go_wp2
 go_loopw [3,9] (fun u i wr=>∃k:Nat,k<=K/\i=.int .i64 k/\u=.int .i64 (cntN W k:Nat)/\Hid (Below w.heap.size w wr)) (fun _ i _=>K-(intOf i).toNat)
 case atStart=>exact⟨0,Nat.zero_le _,rfl,rfl,Xa (Xb (Below.refl _ _) _)⟩
 case round =>
  obtain⟨k,hk,rfl,rfl,HB⟩:=hrel;by_cases hlt:k<K
  ·have hc:=(HB.cell (p:=⟨g,k,none⟩) hg).trans (hr.cell hlt)
   have hwk:=hW.out k;have HS:=Xa (Zck W k);have hle:=Ub W k;have hle2:=Ub W (k+1);rw[HS.out]at hle2;generalize cntN W k=c0 at *;generalize W k=Wk at *;have HO:=Xa (ZcP Wk wr hwk);generalize onesN 8 Wk=o at *
   go_wp2_with (go_at_call 76;refine HO.mono ?_;rintro e w2 ⟨rfl,hw2⟩;rw[hw2];clear hw2 w2)
   exact⟨⟨k+1,oM,gM,by rw[HS.out];go_num,HB⟩,by simp[intOf];omega⟩
  ·have e:k=K:=oM
   subst e;go_wp2
   go_ret
   exact⟨rfl,HB.out⟩
end Go.Proofs.YtlmgmkmomaileaaGreatDoor
