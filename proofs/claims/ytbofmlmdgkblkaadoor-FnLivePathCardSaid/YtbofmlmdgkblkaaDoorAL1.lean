import Derived.Test.YtbofmlmdgkblkaaDoorVP0
import Derived.Laws.Bits128
namespace Go.Proofs.YtbofmlmdgkblkaaDoor
set_option maxHeartbeats 2000000
set_option maxRecDepth 100000
open Go.RowKit Go.Shelf
attribute [local go_sem] Oper.semAt_some
theorem Ziz{W:Nat->Nat}(h:XK W)(i:Nat):W i<18446744073709551616:=h i
theorem Zcg(W:Nat->Nat)(i j:Nat)(hj:j<64):Xf W (64*i+j)=(W i).testBit j:=by
 unfold Xf;rw[show(64*i+j) / 64=i by omega,show(64*i+j) % 64=j by omega]
structure Za4(W:Nat->Nat)(i k y:Nat):Prop where
 le:k<=64
 lt:y<18446744073709551616
 bit:∀j,y.testBit j=((W i).testBit j&&decide (k<=j))
theorem Za4.start{W:Nat->Nat}(h:XK W)(i:Nat):Za4 W i 0 (W i):=⟨by decide,Ziz h i,fun j=>by simp⟩
theorem Za4.next{W:Nat->Nat}{i k y:Nat}(h:Za4 W i k y)(h0:y≠0):Za4 W i (Lib.ctz 64 y+1) (y &&& (y-1))/\Jn W (64*i+(Lib.ctz 64 y+1))=Jn W (64*i+k)++[64*i+Lib.ctz 64 y]/\Lib.ctz 64 y<64/\(y &&& (y-1))<y:=by
 have hy:y<2 ^ 64:=h.lt;obtain⟨m,hm,hc⟩:=Vk h0 hy;have hon:=Zh3 h0 hy;have hoff:=ZgO h0 hy;have hb:=h.bit;have hle:y &&& (y-1)<=y-1:=Nat.and_le_right;generalize Lib.ctz 64 y=c at *;have hk:k<=c/\(W i).testBit c=true:=by
  have h1:=hon.1;rw[hb,Bool.and_eq_true,decide_eq_true_eq]at h1;exact⟨h1.2,h1.1⟩
 refine⟨⟨by omega,by omega,fun j=>?_⟩,?_,hc,by omega⟩
 ·rw[hoff,hb]
  by_cases e:j=c
  ·subst e;simp
  ·by_cases e2:j<c
   ·have h2:=hon.2 j e2
    rw[hb]at h2;rw[h2];have:¬c+1<=j:=by omega
    simp[this]
   ·have h3:k<=j:=by omega
    have h4:c+1<=j:=by omega
    simp[e,h3,h4]
 ·have e:64*i+(c+1)=(64*i+c)+1:=by omega
  rw[e];refine Zgq (by omega) (fun q h1 h2=>?_) (by rw[Zcg W i c hc];exact hk.2);obtain⟨j,rfl⟩:∃j,q=64*i+j:=⟨q-64*i,by omega⟩;have h5:=hon.2 j (by omega);rw[hb]at h5;rw[Zcg W i j (by omega)];have h6:k<=j:=by omega
  simpa [h6]using h5
theorem Za4.done{W:Nat->Nat}{i k:Nat}(h:Za4 W i k 0):Jn W (64*(i+1))=Jn W (64*i+k):=by
 refine UY (by have:=h.le;omega) (fun q h1 h2=>?_);obtain⟨j,rfl⟩:∃j,q=64*i+j:=⟨q-64*i,by omega⟩;rw[Zcg W i j (by omega)];have h5:=h.bit j;have h6:k<=j:=by omega
 simpa [h6]using h5.symm
theorem ZhV{W:Nat->Nat}{p q:Nat}(h:p<=q):(Jn W p).length<=(Jn W q).length:=by
 unfold Jn;obtain⟨d,rfl⟩:∃d,q=p+d:=⟨q-p,by omega⟩;rw[List.range_add,List.filter_append,List.length_append];omega
theorem Zgz(Bs g Kw C:Nat)(W:Nat->Nat)(Ms:Nat->Prop)(w:World)(hs:w.cell? ⟨Bs,0,none⟩=some (.slice (some ⟨g,0,none⟩) Kw C))(hg:Hid (WsAt w g Kw C W))(hwd:Hid (XK W))(hT:Hid (Jz w))(hK:Kw<=100)(hM2:Hid (¬Ms g))(hM3:Hid (¬Ms 2)) :
 Zic Fence.wide 7 Tryd.prog 76 #[.pointer (some ⟨Bs,0,none⟩)] (fun x:Nat=>#[.int .i64 (x:Int)]) (fun _ _=>True) (ZG w.heap.size Ms) (fun xs=>xs=Jn W (64*Kw)) (Jn W (64*Kw)).length w:=by
 intro l J W0 hW hl hJ hY h0;have HY:=Xa hY;have HJ:=Xa hJ;have H0:=Xa h0;clear hY hJ h0;have hBs:Bs<w.heap.size:=World.block_lt_of_cell? w _ hs;have hs0:=(hW.cell (p:=⟨Bs,0,none⟩) hBs).trans hs;have HG0:Hid (WsAt W0 g Kw C W):=Xa (hg.of_block (hW.block g hg.lt));have hgt:(2 : Nat)<w.heap.size:=World.block_lt_of_cell? w _ (hT.out 0 (by decide));have HT0:Hid (Jz W0):=Xa (hT.of_block (hW.block _ hgt));refine callsIn_of_wp Tryd.func76 rfl trivial ?_ rfl;simp only[Tryd.ntmps76,List.size_toArray,List.length_cons,List.length_nil,Nat.reduceAdd,Nat.reduceSub,Array.replicate_succ,Array.replicate_zero,List.push_toArray,List.append_toArray,List.nil_append,List.cons_append]
 gi_wp2
 gi_loopw [8] (fun i wr=>∃k:Nat,k<=Kw/\i=.int .i64 k/\Hid (J (Jn W (64*k)) wr)/\ZG w.heap.size Ms W0 wr) (fun i _=>Kw-(intOf i).toNat)
 case atStart=>exact⟨0,Nat.zero_le _,rfl,Xa (by rw[Nat.mul_zero];exact H0.out),ZG.refl _⟩
 case round =>
  obtain⟨k,hk,rfl,HJk,hkp⟩:=hrel;by_cases hlt:k<Kw
  ·have hcw:=hkp.cell (HG0.cell hlt) hM2.out
   have HWO:=Xa (Za4.start hwd.out k);have hwk:=hwd.out k;generalize hyk:W k=yk at hcw HWO hwk;clear hyk;generalize wr=wo at *;have hmul:IntKind.i64.wrap ((k:Int)*64)=(k:Int)*64:=by rw[IntKind.wrap_i64];omega
   have HKO:=Xa hkp;clear hkp
   gi_wp2
   clear hcw
   gi_loopw [4] (fun y wr=>∃yy p:Nat,y=.int .u64 yy/\Hid (Za4 W k p yy)/\Hid (J (Jn W (64*k+p)) wr)/\Hid (ZG w.heap.size Ms W0 wr)) (fun y _=>(intOf y).toNat)
   case atStart=>exact⟨yk,0,rfl,HWO,HJk,HKO⟩
   case round =>
    clear HWO HJk HKO;obtain⟨yy,p,rfl,HWO,HJk,HKO⟩:=hrel;have hyl:=HWO.lt;by_cases h0:yy=0
    ·subst h0
     gi_wp2
     exact⟨⟨k+1,by omega,by go_num,Xa (by rw[HWO.done];exact HJk.out),HKO.out⟩,by simp[intOf];omega⟩
    ·obtain⟨n1,n2,n3,n4⟩:=HWO.next h0
     have HN1:=Xa n1;have HN2:=Xa n2;have hy0:((yy:Int)==0)=false:=by simp;omega
     have hs1:IntKind.u64.wrap ((yy:Int)-1)=((yy-1:Nat):Int):=by rw[IntKind.wrap_u64];omega
     have hs2:=bits_and_u64_nat yy (yy-1) hyl (by omega);have HTZ:=Xa (ZhG yy hyl h0 wr (Xa (HT0.of_block (HKO.low _ (by omega) hM3.out))));have hlen:(Jn W (64*k+p)).length<(Jn W (64*Kw)).length:=by
      have h1:=congrArg List.length n2;have h2:=ZhV (W:=W) (p:=64*k+(Lib.ctz 64 yy+1)) (q:=64*Kw) (by omega);rw[List.length_append]at h1;simp at h1;omega
     obtain⟨fn,tmps,asg,bo,hy,hR⟩:=HY.out _ (64*k+Lib.ctz 64 yy) wr HJk.out trivial hlen;generalize Lib.ctz 64 yy=cc at *;generalize yy &&& (yy-1)=yn at *;have hadd:IntKind.i64.wrap ((k:Int)*64+(cc:Int))=(k:Int)*64+(cc:Int):=by rw[IntKind.wrap_i64];omega
     have he:(((64*k+cc:Nat)):Int)=(k:Int)*64+(cc:Int):=by omega
     rw[he]at hy;clear n1 n2 he hlen
     gi_wp2
     refine⟨trivial,(callsIn_wide.2 HTZ.out).mono ?_⟩;rintro e w1 ⟨rfl,hw1⟩;subst hw1
     gi_wp2
     refine hR.mono ?_;rintro e W3 ⟨rfl,hJ3,hk3,_⟩;have HJ3:=Xa hJ3;have HK3:=Xa (HKO.trans hk3);clear hJ3 hk3 hR hy HTZ HY
     gi_wp2
     exact⟨⟨yn,cc+1,rfl,HN1,Xa (by rw[HN2.out];exact HJ3.out),HK3⟩,by simp[intOf];omega⟩
  ·have hke:k=Kw:=by omega
   gi_wp2
   go_end0
   exact⟨⟨_,rfl⟩,_,rfl,by rw[<-hke];exact HJk.out⟩
theorem Zh9(n:Nat)(a:Option Addr)(len cap:Nat)(w:World) :
 CallsIn Fence.wide n Tryd.prog 49 #[.agg #[.slice a len cap]] w fun e w'=>e=.returned (.func (.func 76) #[] #[.pointer (some ⟨w.heap.size,0,none⟩)])/\w'=w.alloc (.cells #[.slice a len cap] 62):=by
 refine callsIn_of_wp Tryd.func49 rfl trivial ?_ rfl;simp only[Tryd.ntmps49,List.size_toArray,List.length_cons,List.length_nil,Nat.reduceAdd,Nat.reduceSub,Array.replicate_succ,Array.replicate_zero,List.push_toArray,List.append_toArray,List.nil_append,List.cons_append]
 gi_wp2
 go_ret
 exact⟨rfl,rfl⟩
end Go.Proofs.YtbofmlmdgkblkaaDoor
namespace Go.Proofs.YtbofmlmdgkblkaaDoor
open Go.RowKit
def YL(B:Nat):Nat:=(List.range 8).countP fun i=>B.testBit i
def mapB(f:Nat->Nat):Nat->Nat->Nat
 | 0,_=>0
 | n+1,x=>f (x % 256)+256*mapB f n (x / 256)
def UJ(c:Nat):Nat->Nat
 | 0=>0
 | n+1=>c+256*UJ c n
theorem JA{B c:Nat}(y M:Nat)(hB:B<256)(hc:c<256):(B+256*y) &&& (c+256*M)=(B &&& c)+256*(y &&& M):=by
 have hb:B &&& c<2 ^ 8:=Nat.lt_of_le_of_lt Nat.and_le_left hB;have e1:B+256*y=2 ^ 8*y+B:=by omega
 have e2:c+256*M=2 ^ 8*M+c:=by omega
 have e3:(B &&& c)+256*(y &&& M)=2 ^ 8*(y &&& M)+(B &&& c):=by omega
 rw[e1,e2,e3];apply Nat.eq_of_testBit_eq;intro i;rw[Nat.testBit_and,Nat.testBit_two_pow_mul_add _ hB,Nat.testBit_two_pow_mul_add _ hc,Nat.testBit_two_pow_mul_add _ hb];by_cases h:i<8
 ·simp[h]
 ·simp[h]
def f1(B:Nat):Nat:=(B / 2 &&& 85)+(B &&& 85)
def f2(B:Nat):Nat:=(B / 4 &&& 51)+(B &&& 51)
def f3(B:Nat):Nat:=(B / 16+B) &&& 15
theorem Zfg:∀t,t<2->∀B,B<256->(B / 2+128*t) &&& 85=B / 2 &&& 85:=by decide +kernel
theorem ZeA:∀t,t<4->∀B,B<256->(B / 4+64*t) &&& 51=B / 4 &&& 51:=by decide +kernel
theorem VS:∀B,B<256->f1 B<256:=by decide +kernel
theorem ZfG:∀B,B<256->f2 B<256:=by decide +kernel
abbrev Zhy(B:Nat):Prop:=B % 16<=4/\B / 16<=4
theorem Zgm:∀B,B<256->Zhy (f2 (f1 B)):=by decide +kernel
theorem ZfC:∀t,t<=4->∀B,B<256->Zhy B->B / 16+16*t+B<256/\(B / 16+16*t+B) &&& 15=f3 B:=by decide +kernel
theorem ZiU:∀B,B<256->f3 (f2 (f1 B))=YL B:=by decide +kernel
theorem ZbF:∀B,B<256->YL B<=8:=by decide +kernel
theorem Zag{f:Nat->Nat}(hf:∀B,B<256->f B<256):∀n x,mapB f n x<256 ^ n
 | 0,_=>by simp[mapB]
 | n+1,x=>by
  have h1:=Zag hf n (x / 256);have h2:=hf (x % 256) (Nat.mod_lt _ (by decide));simp only[mapB,Nat.pow_succ];omega
theorem map_map{f h:Nat->Nat}(hh:∀B,B<256->h B<256):∀n x,mapB f n (mapB h n x)=mapB (fun B=>f (h B)) n x
 | 0,_=>rfl
 | n+1,x=>by
  have h2:=hh (x % 256) (Nat.mod_lt _ (by decide));simp only[mapB];have e1:(h (x % 256)+256*mapB h n (x / 256)) % 256=h (x % 256):=by omega
  have e2:(h (x % 256)+256*mapB h n (x / 256)) / 256=mapB h n (x / 256):=by omega
  rw[e1,e2,map_map hh n]
theorem WZ{f h:Nat->Nat}(e:∀B,B<256->f B=h B):∀n x,mapB f n x=mapB h n x
 | 0,_=>rfl
 | n+1,x=>by simp only[mapB];rw[e _ (Nat.mod_lt _ (by decide)),WZ e n]
theorem Zhc:∀n x,(x / 2 &&& UJ 85 n)+(x &&& UJ 85 n)=mapB f1 n x
 | 0,x=>by simp[UJ,mapB]
 | n+1,x=>by
  have hB:x % 256<256:=Nat.mod_lt _ (by decide);have ex:x=x % 256+256*(x / 256):=by omega
  have ex2:x / 2=(x % 256 / 2+128*(x / 256 % 2))+256*(x / 256 / 2):=by omega
  have ih:=Zhc n (x / 256);simp only[mapB,UJ];rw[<-ih];have a1:x / 2 &&& (85+256*UJ 85 n)=(x % 256 / 2 &&& 85)+256*(x / 256 / 2 &&& UJ 85 n):=by
   rw[ex2,JA _ _ (by omega) (by decide),Zfg _ (Nat.mod_lt _ (by decide)) _ hB]
  have a2:x &&& (85+256*UJ 85 n)=(x % 256 &&& 85)+256*(x / 256 &&& UJ 85 n):=by
   conv=>lhs;rw[ex]
   exact JA _ _ hB (by decide)
  rw[a1,a2];unfold f1;omega
theorem Zhd:∀n x,(x / 4 &&& UJ 51 n)+(x &&& UJ 51 n)=mapB f2 n x
 | 0,x=>by simp[UJ,mapB]
 | n+1,x=>by
  have hB:x % 256<256:=Nat.mod_lt _ (by decide);have ex:x=x % 256+256*(x / 256):=by omega
  have ex2:x / 4=(x % 256 / 4+64*(x / 256 % 4))+256*(x / 256 / 4):=by omega
  have ih:=Zhd n (x / 256);simp only[mapB,UJ];rw[<-ih];have a1:x / 4 &&& (51+256*UJ 51 n)=(x % 256 / 4 &&& 51)+256*(x / 256 / 4 &&& UJ 51 n):=by
   rw[ex2,JA _ _ (by omega) (by decide),ZeA _ (Nat.mod_lt _ (by decide)) _ hB]
  have a2:x &&& (51+256*UJ 51 n)=(x % 256 &&& 51)+256*(x / 256 &&& UJ 51 n):=by
   conv=>lhs;rw[ex]
   exact JA _ _ hB (by decide)
  rw[a1,a2];unfold f2;omega
def Uo:Nat->Nat->Prop
 | 0,x=>x=0
 | n+1,x=>Zhy (x % 256)/\Uo n (x / 256)
theorem Zdm:∀n x,Uo n (mapB (fun B=>f2 (f1 B)) n x)
 | 0,_=>rfl
 | n+1,x=>by
  have hB:x % 256<256:=Nat.mod_lt _ (by decide);have h1:=ZfG _ (VS _ hB);have h2:=Zgm _ hB;have ih:=Zdm n (x / 256);simp only[mapB,Uo];have e1:(f2 (f1 (x % 256))+256*mapB (fun B=>f2 (f1 B)) n (x / 256)) % 256=f2 (f1 (x % 256)):=by omega
  have e2:(f2 (f1 (x % 256))+256*mapB (fun B=>f2 (f1 B)) n (x / 256)) / 256=mapB (fun B=>f2 (f1 B)) n (x / 256):=by omega
  rw[e1,e2];exact⟨h2,ih⟩
theorem Zg9:∀n x,Uo n x->x % 16<=4
 | 0,x,h=>by simp only[Uo]at h;omega
 | n+1,x,h=>by
  have:=h.1.1;omega
theorem Zhh:∀n x,Uo n x->(x / 16+x) &&& UJ 15 n=mapB f3 n x
 | 0,x,_=>by simp[UJ,mapB]
 | n+1,x,h=>by
  have hB:x % 256<256:=Nat.mod_lt _ (by decide);have ih:=Zhh n (x / 256) h.2;have ht:=Zg9 n _ h.2;obtain⟨h1,h2⟩:=ZfC _ ht _ hB h.1;simp only[mapB,UJ];rw[<-ih,<-h2];have ex:x / 16+x=(x % 256 / 16+16*(x / 256 % 16)+x % 256)+256*(x / 256 / 16+x / 256):=by omega
  rw[ex,JA _ _ h1 (by decide)]
def onesN(n x:Nat):Nat:=(List.range (8*n)).countP fun i=>x.testBit i
theorem Zcf(n x:Nat):onesN (n+1) x=YL (x % 256)+onesN n (x / 256):=by
 unfold onesN YL;have e:8*(n+1)=8+8*n:=by omega
 rw[e,List.range_add,List.countP_append,List.countP_map];congr 1
 ·apply List.countP_congr
  intro i hi;have:i<8:=List.mem_range.1 hi;have e2:(x % 2 ^ 8).testBit i=x.testBit i:=by rw[Nat.testBit_mod_two_pow];simp[this]
  rw[show x % 256=x % 2 ^ 8 from rfl,e2]
 ·apply List.countP_congr
  intro i hi;have e2:(x / 2 ^ 8).testBit i=x.testBit (8+i):=by rw[Nat.testBit_div_two_pow,Nat.add_comm]
  rw[show x / 256=x / 2 ^ 8 from rfl,e2];rfl
def Zh5(f:Nat->Nat):Nat->Nat->Nat
 | 0,_=>0
 | n+1,x=>f (x % 256)+Zh5 f n (x / 256)
theorem Zb6:∀n x,onesN n x=Zh5 YL n x
 | 0,_=>rfl
 | n+1,x=>by rw[Zcf,Zb6 n];rfl
end Go.Proofs.YtbofmlmdgkblkaaDoor
namespace Go.Proofs.YtbofmlmdgkblkaaDoor
set_option maxHeartbeats 1000000
set_option maxRecDepth 100000
open Go.RowKit
theorem Zf5{f:Nat->Nat}(hf:∀B,B<256->f B<=68):∀n x,mapB f n x<=UJ 68 n
 | 0,_=>Nat.le_refl _
 | n+1,x=>by
  have h1:=Zf5 hf n (x / 256);have h2:=hf (x % 256) (Nat.mod_lt _ (by decide));simp only[mapB,UJ];omega
theorem ZhC:∀B,B<256->f2 (f1 B)<=68:=by decide +kernel
theorem Jo{p q:Nat}(h:p<256):(p+256*q) / 256=q:=by omega
theorem ZfN(p0 p1 p2 p3 p4 p5 p6 p7 a1 a2 a3 a4 a5 a6 X3 X4 X5 X6:Nat)(h0:p0<=8)(h1:p1<=8)(h2:p2<=8)(h3:p3<=8)(h4:p4<=8)(h5:p5<=8)(h6:p6<=8)(h7:p7<=8)
 (e3:X3=p0+256*a1) (g1:a1=p1+256*a2) (g2:a2=p2+256*a3) (g3:a3=p3+256*a4) (g4:a4=p4+256*a5) (g5:a5=p5+256*a6) (g6:a6=p6+256*p7) (e4:X4=X3+X3 / 256) (e5:X5=X4+X4 / 65536) (e6:X6=X5+X5 / 4294967296):X4<9223372036854775808/\X5<9223372036854775808/\X6<9223372036854775808/\X6 % 128=p0+(p1+(p2+(p3+(p4+(p5+(p6+p7)))))):=by
 have d3:X3 / 256=a1:=by rw[e3];exact Jo (by omega)
 have c4:X4=(p0+p1)+256*(a1+a2):=by omega
 have d4:X4 / 65536=a2+a3:=by
  rw[show 65536=256*256 from rfl,<-Nat.div_div_eq_div_mul,c4,Jo (by omega),show a1+a2=(p1+p2)+256*(a2+a3) by omega,Jo (by omega)]
 have c5:X5=(p0+p1+p2+p3)+256*(a1+a2+a3+a4):=by omega
 have d5:X5 / 4294967296=a4+a5+a6+p7:=by
  rw[show 4294967296=256*256*256*256 from rfl,<-Nat.div_div_eq_div_mul,<-Nat.div_div_eq_div_mul,<-Nat.div_div_eq_div_mul,c5,Jo (by omega),show a1+a2+a3+a4=(p1+p2+p3+p4)+256*(a2+a3+a4+a5) by omega,Jo (by omega),show a2+a3+a4+a5=(p2+p3+p4+p5)+256*(a3+a4+a5+a6) by omega,Jo (by omega),show a3+a4+a5+a6=(p3+p4+p5+p6)+256*(a4+a5+a6+p7) by omega,Jo (by omega)]
 have c6:X6=(p0+p1+p2+p3+p4+p5+p6+p7)+256*(a1+a2+a3+a4+a5+a6+p7):=by omega
 have k6:a6<=2304:=by omega
 have k5:a5<=590000:=by omega
 have k4:a4<=151100000:=by omega
 have k3:a3<=38700000000:=by omega
 have k2:a2<=9910000000000:=by omega
 have k1:a1<=2540000000000000:=by omega
 clear e3 e4 e5 e6 d3 d4 d5 g1 g2 g3 g4 g5 g6;refine⟨by omega,by omega,by omega,?_⟩;generalize a1+a2+a3+a4+a5+a6+p7=q at c6;omega
theorem Zdr(x X4 X5 X6:Nat)(e4:X4=mapB YL 8 x+mapB YL 8 x / 256)(e5:X5=X4+X4 / 65536)(e6:X6=X5+X5 / 4294967296):X4<9223372036854775808/\X5<9223372036854775808/\X6<9223372036854775808/\X6 % 128=onesN 8 x:=by
 rw[Zb6];have hm:∀y,YL (y % 256)<=8:=fun y=>ZbF _ (Nat.mod_lt _ (by decide))
 have h:=ZfN (YL (x % 256)) (YL (x / 256 % 256)) (YL (x / 256 / 256 % 256)) (YL (x / 256 / 256 / 256 % 256)) (YL (x / 256 / 256 / 256 / 256 % 256)) (YL (x / 256 / 256 / 256 / 256 / 256 % 256)) (YL (x / 256 / 256 / 256 / 256 / 256 / 256 % 256)) (YL (x / 256 / 256 / 256 / 256 / 256 / 256 / 256 % 256)) (mapB YL 7 (x / 256)) (mapB YL 6 (x / 256 / 256)) (mapB YL 5 (x / 256 / 256 / 256)) (mapB YL 4 (x / 256 / 256 / 256 / 256)) (mapB YL 3 (x / 256 / 256 / 256 / 256 / 256)) (mapB YL 2 (x / 256 / 256 / 256 / 256 / 256 / 256)) (mapB YL 8 x) X4 X5 X6 (hm _) (hm _) (hm _) (hm _) (hm _) (hm _) (hm _) (hm _) rfl rfl rfl rfl rfl rfl (by simp only[mapB];omega) e4 e5 e6;simp only[Zh5];exact h
theorem Zff(x:Nat)(w:World)(hx:x<18446744073709551616) :
 Calls Tryd.prog 75 #[.int .u64 (x:Int)] w fun e w'=>e=.returned (.int .i64 (onesN 8 x:Nat))/\w'=w:=by
 have m0:UJ 85 8=6148914691236517205:=by decide
 have m1:UJ 51 8=3689348814741910323:=by decide
 have m2:UJ 15 8=1085102592571150095:=by decide
 have s1:=Zhc 8 x;have s2:=Zhd 8 (mapB f1 8 x);have s3:=Zhh 8 (mapB f2 8 (mapB f1 8 x)) (by rw[map_map VS];exact Zdm 8 x);rw[m0]at s1;rw[m1]at s2;rw[m2,map_map VS,map_map (fun B hB=>ZfG _ (VS _ hB)),WZ ZiU]at s3;have l1:mapB f1 8 x<18446744073709551616:=Zag VS 8 x;have l2:mapB f2 8 (mapB f1 8 x)<18446744073709551616:=Zag ZfG 8 _;have l3:mapB YL 8 x<18446744073709551616:=Zag (fun B hB=>Nat.lt_of_le_of_lt (ZbF B hB) (by decide)) 8 x;obtain⟨k4,k5,k6,k7⟩:=Zdr x _ _ _ rfl rfl rfl;have HX2:mapB f2 8 (mapB f1 8 x) / 16+mapB f2 8 (mapB f1 8 x)<18446744073709551616:=by
  have h:=Zf5 (f:=fun B=>f2 (f1 B)) ZhC 8 x;rw[map_map VS];rw[show UJ 68 8=4919131752989213764 by decide]at h;omega
 rw[map_map VS]at l2 s2 HX2;generalize mapB f1 8 x=X1 at *;generalize mapB (fun B=>f2 (f1 B)) 8 x=X2 at *;generalize mapB YL 8 x=X3 at *;generalize onesN 8 x=r at *;have W:∀a:Nat,a<18446744073709551616->IntKind.u64.wrap (a:Int)=(a:Int):=fun a h=>by rw[IntKind.wrap_u64];exact Int.emod_eq_of_lt (by omega) (by omega)
 have b1:IntKind.u64.wrap (bits .and .u64 ((x:Int) / 2) 6148914691236517205+bits .and .u64 (x:Int) 6148914691236517205)=(X1:Int):=by
  have q1:=u64_and_nat (x / 2) 6148914691236517205 (by omega) (by decide);have q2:=u64_and_nat x 6148914691236517205 hx (by decide);rw[show((x:Int) / 2)=((x / 2:Nat):Int) by omega];rw[show(6148914691236517205:Int)=((6148914691236517205:Nat):Int) from rfl,q1,q2,<-Int.natCast_add,s1,W _ l1]
 have b2:IntKind.u64.wrap (bits .and .u64 ((X1:Int) / 4) 3689348814741910323+bits .and .u64 (X1:Int) 3689348814741910323)=(X2:Int):=by
  have q1:=u64_and_nat (X1 / 4) 3689348814741910323 (by omega) (by decide);have q2:=u64_and_nat X1 3689348814741910323 l1 (by decide);rw[show((X1:Int) / 4)=((X1 / 4:Nat):Int) by omega];rw[show(3689348814741910323:Int)=((3689348814741910323:Nat):Int) from rfl,q1,q2,<-Int.natCast_add,s2,W _ l2]
 have b3:bits .and .u64 ((X2:Int) / 16+(X2:Int)) 1085102592571150095=(X3:Int):=by
  have hl:X2 / 16+X2<18446744073709551616:=HX2;have q1:=u64_and_nat (X2 / 16+X2) 1085102592571150095 hl (by decide);rw[show((X2:Int) / 16+(X2:Int))=((X2 / 16+X2:Nat):Int) by omega];rw[show(1085102592571150095:Int)=((1085102592571150095:Nat):Int) from rfl,q1,s3]
 have b4:IntKind.u64.wrap ((X3:Int)+(X3:Int) / 256)=((X3+X3 / 256:Nat):Int):=by
  rw[show((X3:Int)+(X3:Int) / 256)=((X3+X3 / 256:Nat):Int) by omega];exact W _ (by omega)
 generalize X3+X3 / 256=X4 at *;have b5:IntKind.u64.wrap ((X4:Int)+(X4:Int) / 65536)=((X4+X4 / 65536:Nat):Int):=by
  rw[show((X4:Int)+(X4:Int) / 65536)=((X4+X4 / 65536:Nat):Int) by omega];exact W _ (by omega)
 generalize X4+X4 / 65536=X5 at *;have b6:IntKind.u64.wrap ((X5:Int)+(X5:Int) / 4294967296)=((X5+X5 / 4294967296:Nat):Int):=by
  rw[show((X5:Int)+(X5:Int) / 4294967296)=((X5+X5 / 4294967296:Nat):Int) by omega];exact W _ (by omega)
 generalize X5+X5 / 4294967296=X6 at *;have b7:bits .and .i64 (X6:Int) 127=(r:Int):=by rw[i64_and127];omega
 have b8:wrap64 (X6:Int)=(X6:Int):=by simp[wrap64];omega
 clear s1 s2 s3 m0 m1 m2 l1 l2 l3 k4 k5 k7 W
 go_enter Tryd.func75,Tryd.ntmps75
 go_wp2
 go_ret
 exact⟨rfl,rfl⟩
def cntN(W:Nat->Nat)(K:Nat):Nat:=(List.range (64*K)).countP fun x=>Xf W x
theorem ZeS(W:Nat->Nat)(K:Nat):cntN W (K+1)=cntN W K+onesN 8 (W K):=by
 unfold cntN onesN;have e:64*(K+1)=64*K+8*8:=by omega
 rw[e,List.range_add,List.countP_append,List.countP_map];congr 1;apply List.countP_congr;intro i hi;have:i<64:=List.mem_range.1 hi;have e1:(64*K+i) / 64=K:=by omega
 have e2:(64*K+i) % 64=i:=by omega
 simp only[Function.comp,Xf,e1,e2]
theorem Zcj(W:Nat->Nat)(K:Nat):cntN W K<=64*K:=Nat.le_trans (List.countP_le_length) (by simp)
theorem Wn(g K C:Nat)(W:Nat->Nat)(w:World)(hW:Hid (XK W))(hr:Hid (WsAt w g K C W))(hK:K<=1000) :
 Calls Tryd.prog 48 #[.agg #[.slice (some ⟨g,0,none⟩) K C]] w fun e w'=>e=.returned (.int .i64 (cntN W K:Nat))/\Below w.heap.size w w':=by
 have hg:=hr.lt
 go_enter Tryd.func48,Tryd.ntmps48
 go_wp2
 go_loopw [3,9] (fun u i wr=>∃k:Nat,k<=K/\i=.int .i64 k/\u=.int .i64 (cntN W k:Nat)/\Hid (Below w.heap.size w wr)) (fun _ i _=>K-(intOf i).toNat)
 case atStart=>exact⟨0,Nat.zero_le _,rfl,rfl,Xa (Xb (Below.refl _ _) _)⟩
 case round =>
  obtain⟨k,hk,rfl,rfl,HB⟩:=hrel;by_cases hlt:k<K
  ·have hc:=(HB.cell (p:=⟨g,k,none⟩) hg).trans (hr.cell hlt)
   have hwk:=hW.out k;have HS:=Xa (ZeS W k);have hle:=Zcj W k;have hle2:=Zcj W (k+1);rw[HS.out]at hle2;generalize cntN W k=c0 at *;generalize W k=Wk at *;have HO:=Xa (Zff Wk wr hwk);generalize onesN 8 Wk=o at *
   go_wp2_with (go_at_call 75;refine HO.mono ?_;rintro e w2 ⟨rfl,hw2⟩;rw[hw2];clear hw2 w2)
   exact⟨⟨k+1,by omega,by go_num,by rw[HS.out];go_num,HB⟩,by simp[intOf];omega⟩
  ·have e:k=K:=by omega
   subst e;go_wp2
   go_ret
   exact⟨rfl,HB.out⟩
end Go.Proofs.YtbofmlmdgkblkaaDoor
namespace Go.Proofs.YtbofmlmdgkblkaaDoor
set_option maxHeartbeats 2000000
set_option maxRecDepth 100000
open Go.RowKit Go.Shelf
attribute [local go_sem] Oper.semAt_some
theorem Tryd.infoI64:(Tryd.prog.info? 2).map (fun i=>(i.zero,i.size,i.bytes))=some (some (.int .i64 0),1,8):=by kernel_rfl
theorem Zh2(W:Nat->Nat)(K:Nat):cntN W K=(Jn W (64*K)).length:=by
 unfold cntN Jn;rw[List.countP_eq_length_filter]
structure LiI(w:World)(n₀ Bo Bs:Nat)(sv:Value)(pre:List Nat)(V:World):Prop where
 low:Below w.heap.size w V
 ge:w.heap.size<=Bo/\Bo≠Bs
 sz:n₀<=V.heap.size
 bs:V.heap[Bs]?=some (.cells #[sv] 62)
 own:∃v,V.heap[Bo]?=some (.cells #[v] 40)/\V.ownsRow w.heap.size 2 1 v pre.length ((Xk pre).map (Value.int .i64))
theorem Zgu{V:World}{Bo T:Nat}{v v':Value}(h:V.heap[Bo]?=some (.cells #[v] T)):(V.setCell ⟨Bo,0,none⟩ v').heap[Bo]?=some (.cells #[v'] T):=by
 simp[World.setCell,Array.getElem?_modify,h]
theorem TZ{V:World}{Bo T:Nat}{v:Value}(h:V.heap[Bo]?=some (.cells #[v] T)):V.cell? ⟨Bo,0,none⟩=some v:=by simp[World.cell?,h]
theorem Zbw{V:World}{Bo T:Nat}{v:Value}(h:V.heap[Bo]?=some (.cells #[v] T)):V.frozen? ⟨Bo,0,none⟩=false:=by simp[World.frozen?,h]
theorem Vd{V:World}{Bo T base e n:Nat}{u v:Value}{xs:List Value}(h:V.heap[Bo]?=some (.cells #[u] T))(ho:V.ownsRow base e 1 v n xs)(hT:T≠e):v.ownBlock≠some Bo:=fun hb=>by
 rcases ho.2 with⟨rfl,_⟩ | ⟨g,cap,cur,rfl,_,h1,_⟩
 ·cases hb
 ·injection hb with hb
  subst hb;rw[show V.heap[g]?=some (.cells #[u] T) from h]at h1;injection h1 with h1;injection h1 with _ h2;exact hT h2
theorem LiI.ofGrown{w A V:World}{n₀ Bo Bs:Nat}{sv:Value}{pre:List Nat}{row:Option Nat}(h:LiI w n₀ Bo Bs sv pre A)(k:A.grownBy V row)(q:∀r,row=some r->w.heap.size<=r/\∃o:Obj,A.heap[r]?=some o/\o.isCells=false):LiI w n₀ Bo Bs sv pre V:=by
 obtain⟨v,h1,h2⟩:=h.own;have hq:∀{b:Nat}{c:Array Value}{T:Nat},A.heap[b]?=some (.cells c T)->V.heap[b]?=some (.cells c T):=fun {b c T} hb=>by
  refine(k.block b (Array.getElem?_eq_some_iff.1 hb).1 (fun e=>?_)).trans hb;obtain⟨_,o,h3,h4⟩:=q b e.symm;rw[hb]at h3;injection h3 with h3;subst h3;cases h4
 refine⟨⟨k.os.trans h.low.os,k.tape.trans h.low.tape,k.output.trans h.low.output,Nat.le_trans h.low.size k.size,fun b hb=>(k.block b (Nat.lt_of_lt_of_le hb h.low.size) (fun e=>by have:=(q b e.symm).1;omega)).trans (h.low.block b hb)⟩,h.ge,Nat.le_trans h.sz k.size,hq h.bs,v,hq h1,h2.kept k ?_⟩;rcases h2.2 with⟨rfl,_⟩ | ⟨g,cap,cur,rfl,_,h3,_⟩
 ·exact Or.inl rfl
 ·refine Or.inr (fun e=>?_)
  obtain⟨_,o,h4,h5⟩:=q g e.symm;rw[h3]at h4;injection h4 with h4;subst h4;cases h5
theorem LiI.own'{w:World}{n₀ Bo Bs n:Nat}{sv:Value}(hn:w.heap.size<=n):OwnFrom n (LiI w n₀ Bo Bs sv):=fun _ _ _ _ h k q=>h.ofGrown k (fun r e=>⟨Nat.le_trans hn (q r e).1,(q r e).2⟩)
theorem LiI.next{w U u1:World}{n₀ Bo Bs x:Nat}{sv v v1:Value}{pre:List Nat}{ob:Obj}(h:LiI w n₀ Bo Bs sv pre U)(hbx:U.heap[Bo]?=some (.cells #[v] 40))(hown:U.ownsRow w.heap.size 2 1 v pre.length ((Xk pre).map (Value.int .i64)))(hg:(U.alloc ob).grownBy u1 v.ownBlock)(ho:u1.ownsRow w.heap.size 2 1 v1 (pre++[x]).length ((Xk (pre++[x])).map (Value.int .i64))) :
 KeepsOthers U (u1.setCell ⟨Bo,0,none⟩ v1)/\ZG n₀ (fun q=>w.heap.size<=q/\q≠Bs) U (u1.setCell ⟨Bo,0,none⟩ v1)/\LiI w n₀ Bo Bs sv (pre++[x]) (u1.setCell ⟨Bo,0,none⟩ v1):=by
 have hz:U.heap.size<=u1.heap.size:=Nat.le_trans (by simp) hg.size;have hzs:(u1.setCell ⟨Bo,0,none⟩ v1).heap.size=u1.heap.size:=by simp[World.setCell]
 have hbl:∀b,b<U.heap.size->b≠Bo->v.ownBlock≠some b->(u1.setCell ⟨Bo,0,none⟩ v1).heap[b]?=U.heap[b]?:=fun b h1 h2 h3=>(Below.heap_setCell _ _ _ _ (fun e=>h2 e)).trans ((hg.block b (by simp;omega) (fun e=>h3 e.symm)).trans (Below.heap_alloc _ _ _ h1))
 have hn1:∀b,b<w.heap.size->v.ownBlock≠some b:=fun b hb e=>by have:=(hown.lt b e).1;omega
 have hn2:v.ownBlock≠some Bs:=Vd h.bs hown (by decide);have hge:=h.ge;have hlw:=h.low.size;have hkk:∀b,b<U.heap.size->¬(w.heap.size<=b/\b≠Bs)->(u1.setCell ⟨Bo,0,none⟩ v1).heap[b]?=U.heap[b]?:=fun b h1 h2=>by
  by_cases e:b=Bs
  ·exact hbl b h1 (by omega) (by rw[e];exact hn2)
  ·have:b<w.heap.size:=Nat.lt_of_not_le (fun h3=>h2 ⟨h3,e⟩)
   exact hbl b h1 (by omega) (hn1 b this)
 have hb1:u1.heap[Bo]?=some (.cells #[v] 40):=(hg.block Bo (by have:=(Array.getElem?_eq_some_iff.1 hbx).1;simp;omega) (fun e=>Vd hbx hown (by decide) e.symm)).trans ((Below.heap_alloc _ _ _ (Array.getElem?_eq_some_iff.1 hbx).1).trans hbx);refine⟨⟨by omega,fun k o h1 h2=>?_⟩,⟨by omega,fun k h1 h2=>hkk k (Nat.lt_of_lt_of_le h1 h.sz) h2,fun k o h1 h2 _=>(hkk k (Array.getElem?_eq_some_iff.1 h2).1 h1).trans h2⟩,⟨⟨hg.os.trans h.low.os,hg.tape.trans h.low.tape,hg.output.trans h.low.output,by omega,fun b hb=>(hbl b (by omega) (by omega) (hn1 b hb)).trans (h.low.block b hb)⟩,h.ge,by have:=h.sz;omega,(hbl Bs (Array.getElem?_eq_some_iff.1 h.bs).1 (fun e=>hge.2 e.symm) hn2).trans h.bs,v1,Zgu hb1,?_⟩⟩
 ·refine(hbl k (Array.getElem?_eq_some_iff.1 h1).1 (fun e=>?_) (fun e=>?_)).trans h1
  ·subst e
   rw[hbx]at h1;injection h1 with h1;subst h1;cases h2
  ·rcases hown.2 with⟨rfl,_⟩ | ⟨g,cap,cur,rfl,_,h3,_⟩
   ·cases e
   ·injection e with e
    have e:g=k:=e;subst e;rw[h3]at h1;injection h1 with h1;subst h1;cases h2
 ·exact ho.kept (row:=some Bo) ⟨rfl,rfl,rfl,by omega,fun k _ hk=>Below.heap_setCell _ _ _ _ (fun e=>hk (by rw[e]))⟩ (Or.inr (Vd hb1 ho (by decide)))
theorem JQ(g Kw C:Nat)(W:Nat->Nat)(w:World)(hwd:Hid (XK W))(hg:Hid (WsAt w g Kw C W))(hT:Hid (Jz w))(hK:Kw<=100) :
 Calls Tryd.prog 15 #[.agg #[.slice (some ⟨g,0,none⟩) Kw C]] w fun e w'=>∃v,e=.returned v/\Below w.heap.size w w'/\w'.ownsRow w.heap.size 2 1 v (Jn W (64*Kw)).length ((Xk (Jn W (64*Kw))).map (Value.int .i64)):=by
 obtain⟨i0,hi0,hq0,hq1,hq2⟩:=info_parts Tryd.infoI64;have hcn:=Zcj W Kw;have HLS:=Xa (Zh2 W Kw);generalize hcc:cntN W Kw=cc at *;have hmk:∀w,(Instr.makeSlice 40 (.int .i64 0) (.int .i64 (cc:Int))).run Tryd.prog w=.ok (.slice (some ⟨w.heap.size,0,none⟩) 0 cc) (w.alloc (.cells (madeCells #[.int .i64 0] cc) 2)):=fun w=>by
  have hr:=run_make (P:=Tryd.prog) w 40 2 i0 (.int .i64 0) Tryd.underlying40 hi0 hq0 .i64 .i64 0 cc (by omega) (by omega) (by rw[hq2];omega) (by omega);simp only[Int.toNat_natCast,hq1,Nat.mul_one]at hr;exact hr
 refine(callsIn_wide (n:=8)).1 ?_;refine callsIn_of_wp_marks Tryd.func15 rfl trivial ?_ rfl;simp only[Tryd.ntmps15,List.size_toArray,List.length_cons,List.length_nil,Nat.reduceAdd,Nat.reduceSub,Array.replicate_succ,Array.replicate_zero,List.push_toArray,List.append_toArray,List.nil_append,List.cons_append]
 gi_wp2
 have HB0:Hid (Below w.heap.size w (w.alloc (.cells #[.slice (some ⟨g,0,none⟩) Kw C] 62))):=Xa (Xb (Below.refl _ _) _);have hc0:(w.alloc (.cells #[.slice (some ⟨g,0,none⟩) Kw C] 62)).cell? ⟨w.heap.size,0,none⟩=some (.slice (some ⟨g,0,none⟩) Kw C):=by simp[go_sem]
 generalize w.alloc (.cells #[.slice (some ⟨g,0,none⟩) Kw C] 62)=w0 at *;have hgl:=hg.lt;have HC:=Xa (Wn g Kw C W w0 hwd (Xa (hg.of_block (HB0.block g hgl))) (by omega));rw[hcc]at HC;refine⟨trivial,(callsIn_wide.2 HC.out).mono ?_⟩;rintro e w1 ⟨rfl,hb1⟩;have HB1:=Xa (Xj HB0.out hb1);have hc1:=(hb1.cell (p:=⟨w.heap.size,0,none⟩) (World.block_lt_of_cell? w0 _ hc0)).trans hc0;have hl1:w.heap.size<w1.heap.size:=World.block_lt_of_cell? w1 _ hc1;have hc2:∀o1 o2,((w1.alloc o1).alloc o2).cell? ⟨w.heap.size,0,none⟩=some (.slice (some ⟨g,0,none⟩) Kw C):=fun o1 o2=>(World.cell?_alloc_lt _ o2 ⟨w.heap.size,0,none⟩ (by simp;omega)).trans ((World.cell?_alloc_lt _ o1 ⟨w.heap.size,0,none⟩ hl1).trans hc1)
 clear hb1 HC hc0 HB0 hc1
 gi_wp2
 have HB2:Hid (Below w.heap.size w ((w1.alloc (.cells (madeCells #[.int .i64 0] cc) 2)).alloc (.cells #[.slice (some ⟨w1.heap.size,0,none⟩) 0 cc] 40))):=Xa (Xb (Xb HB1.out _) _);have hz2:((w1.alloc (.cells (madeCells #[.int .i64 0] cc) 2)).alloc (.cells #[.slice (some ⟨w1.heap.size,0,none⟩) 0 cc] 40)).heap.size=w1.heap.size+2:=by simp
 have hbx:((w1.alloc (.cells (madeCells #[.int .i64 0] cc) 2)).alloc (.cells #[.slice (some ⟨w1.heap.size,0,none⟩) 0 cc] 40)).heap[w1.heap.size+1]?=some (.cells #[.slice (some ⟨w1.heap.size,0,none⟩) 0 cc] 40):=by
  have:=World.alloc_heap_new (w1.alloc (.cells (madeCells #[.int .i64 0] cc) 2)) (.cells #[.slice (some ⟨w1.heap.size,0,none⟩) 0 cc] 40);rwa[World.size_alloc]at this
 have how:((w1.alloc (.cells (madeCells #[.int .i64 0] cc) 2)).alloc (.cells #[.slice (some ⟨w1.heap.size,0,none⟩) 0 cc] 40)).ownsRow w.heap.size 2 1 (.slice (some ⟨w1.heap.size,0,none⟩) 0 cc) 0 []:=(World.ownsRow_made (base:=w.heap.size) (e:=2) (size:=1) w1 (madeCells #[.int .i64 0] cc) cc (by omega) (by unfold maxLen;omega) (by simp[size_madeCells])).alloc _;have hs2:=hc2 (.cells (madeCells #[.int .i64 0] cc) 2) (.cells #[.slice (some ⟨w1.heap.size,0,none⟩) 0 cc] 40);generalize (w1.alloc (.cells (madeCells #[.int .i64 0] cc) 2)).alloc (.cells #[.slice (some ⟨w1.heap.size,0,none⟩) 0 cc] 40)=w2 at *;have HOW2:=Xa how;have HBX2:=Xa hbx;clear hbx how hc2 hmk;refine⟨trivial,(Zh9 7 (some ⟨g,0,none⟩) Kw C w2).mono ?_⟩;rintro e w3 ⟨rfl,hw3⟩;have hb3:Below w2.heap.size w2 w3:=by rw[hw3];exact Xb (Below.refl _ _) _
 have hz3:w3.heap.size=w2.heap.size+1:=by rw[hw3];simp
 have hs3:w3.cell? ⟨w2.heap.size,0,none⟩=some (.slice (some ⟨g,0,none⟩) Kw C):=by rw[hw3];simp[go_sem]
 have HI3:Hid (LiI w w3.heap.size (w1.heap.size+1) (w1.heap.size+2) (.slice (some ⟨g,0,none⟩) Kw C) [] w3):=Xa ⟨Xj HB2.out hb3,by omega,Nat.le_refl _,by rw[hw3,<-hz2];exact World.alloc_heap_new w2 _,_,(hb3.block _ (by omega)).trans HBX2.out,HOW2.kept (row:=none) ⟨hb3.os,hb3.tape,hb3.output,hb3.size,fun k hk _=>hb3.block k hk⟩ (Or.inr (fun e=>by cases e))⟩;have hgt:(2 : Nat)<w.heap.size:=World.block_lt_of_cell? w _ (hT.out 0 (by decide));have HG3:Hid (WsAt w3 g Kw C W):=Xa (hg.of_block (HI3.low.block g hgl));have HT3:Hid (Jz w3):=Xa (hT.of_block (HI3.low.block _ hgt));rw[hz2]at hs3;have hlen:cc<=6400:=by omega
 have hz3':w1.heap.size+3=w3.heap.size:=by omega
 have HZ3:=Xa hz3';clear hw3 hb3 HOW2 HBX2 HB2 HB1 hz3 hz3'
 gi_wp2
 refine ZfA (F:=Fence.wide) (n:=8) rfl (by decide) (gf:=76) (lb:=#[.pointer (some ⟨w1.heap.size+2,0,none⟩)]) rfl trivial (enters_of Tryd.func76 (by kernel_rfl) rfl) (Zgz (w1.heap.size+2) g Kw C W (fun q=>w.heap.size<=q/\q≠w1.heap.size+2) w3 hs3 HG3 hwd HT3 hK (Xa ?m2) (Xa ?m3)) (fun _ _ _ _ h _ _=>h) (fun h k=>h.trans k) (fun W l o o' h1 h2 h3=>ZG.putObj W l o o' h1 h2 h3) (Below.refl _ _) (fun _=>rfl)
  (LiI w w3.heap.size (w1.heap.size+1) (w1.heap.size+2) (.slice (some ⟨g,0,none⟩) Kw C)) (LiI.own' HI3.low.size) HI3.out
  (fun x a' U=>a'=⟨#[.agg #[.slice (some ⟨g,0,none⟩) Kw C],.pointer (some ⟨w.heap.size,0,none⟩),.slice none 0 0,.pointer (some ⟨w1.heap.size+1,0,none⟩),.int .i64 (x:Int),.agg #[.slice (some ⟨g,0,none⟩) Kw C],.int .i64 (cc:Int),.slice (some ⟨w1.heap.size,0,none⟩) 0 cc,.agg #[.slice (some ⟨g,0,none⟩) Kw C],.func (.func 76) #[] #[.pointer (some ⟨w1.heap.size+2,0,none⟩)],.int .i64 (x:Int),undef,undef,undef,undef,undef],[]⟩) (fun _ _ _ _ _ _ h _ _=>h) ?assign ?body ?done
 case m2=>intro h;omega
 case m3=>intro h;have:=h.1;omega
 case assign =>
  intro l pre x U K hI hP hKK;have HII:=Xa hI;have HKK:=Xa hKK;clear hI hKK
  gi_wp2
  exact HKK.out _ _ (KeepsOthers.refl _) (ZG.refl _) HII.out trivial rfl
 case body =>
  rintro l pre x a' U hI _ rfl hlt;obtain⟨v,hbx,hown⟩:=hI.own;have hc:=TZ hbx;have ht:=Zbw hbx;have HBX:=Xa hbx;have HOW:=Xa hown;have HII:=Xa hI;have HNB:=Xa (Vd hbx hown (by decide));have hlb:w1.heap.size+1<U.heap.size:=(Array.getElem?_eq_some_iff.1 hbx).1;rw[<-HLS.out]at hlt;have hca:=fun o=>(World.cell?_alloc_lt U o ⟨w1.heap.size+1,0,none⟩ hlb).trans hc
  have hzU:=HII.low.size;clear hI hbx hown
  gi_wp2_with (gi_at_builtin;refine wpListIn_append_own _ rfl _ _ 40 rfl w.heap.size 2 i0 (.int .i64 0) 1 8 Tryd.underlying40 hi0 hq0 hq1 hq2 rfl (by decide) _ _ _ rfl (HOW.alloc _) ⟨U.heap.size,0,none⟩ 1 1 [.int .i64 (x:Int)] rfl rfl ?c1 ?c2 ?c3 ?c4 ?c5 ?_)
  case c1 =>
   intro j u hj
   match j,hj with
   | 0,hj=>simp at hj;subst hj;simp[Addr.add,go_sem]
  case c2=>intro u hu;simp at hu;subst hu;rfl
  case c3=>unfold maxLen;omega
  case c4=>omega
  case c5=>simp;omega
  intro v1 u1 hown1 hgrow1 _;rw[show(Xk pre).map (Value.int .i64)++[Value.int .i64 (x:Int)]=(Xk (pre++[x])).map (Value.int .i64) by simp[Xk]]at hown1;obtain⟨av,cv,hv,_⟩:=Xn hown1;have HO1:=Xa hown1;have HV:=Xa hv;have hbx1:u1.heap[w1.heap.size+1]?=some (.cells #[v] 40):=(hgrow1.block _ (by simp;omega) (fun e=>HNB.out e.symm)).trans ((Below.heap_alloc _ _ _ hlb).trans HBX.out);have hc1:=TZ hbx1;have ht1:=Zbw hbx1;have HBX1:=Xa hbx1;have HG1:=Xa hgrow1;clear hbx1 hgrow1 hca hc ht hown1;rw[hv];clear hv
  gi_wp2
  rw[<-HV.out];exact HII.next HBX.out HOW.out HG1.out (by rw[List.length_append];exact HO1.out)
 case done =>
  rintro D xs U hD rfl hI hKD;have HII:=Xa hI;obtain⟨v,hbx,_⟩:=hI.own;have hc:=TZ hbx;clear hI hbx;have HKD:=Xa hKD;clear hKD
  gi_wp2
  refine YX HKD.out ⟨v,by simp[results,Tryd.results15,go_sem],v,rfl,?_⟩;have hI2:=HII.ofGrown (grownBy_putObj' U D (.deferred none)) (fun r e=>by cases e;exact⟨Nat.le_trans HI3.low.size hD,_,HKD.out,rfl⟩);obtain⟨v2,hb2,ho2⟩:=hI2.own;have he:v2=v:=by
   have h1:=TZ hb2;rw[World.cell?_of_block (a:=⟨w1.heap.size+1,0,none⟩) (World.putObj_heap_other (show w1.heap.size+1≠D by have:=HZ3.out;omega)),hc]at h1;injection h1 with h1;exact h1.symm
  subst he;exact⟨hI2.low,ho2⟩
end Go.Proofs.YtbofmlmdgkblkaaDoor
