import Derived.Test.YthgikffcdgpgiaaGreatDoorW6b
import Derived.Laws.Bits128
namespace Go.Proofs.YthgikffcdgpgiaaGreatDoor
set_option maxHeartbeats 2000000
set_option maxRecDepth 100000
open Go.RowKit
def Y0(B:Nat):Nat:=(List.range 8).countP fun i=>B.testBit i
def mapB(f:Nat->Nat):Nat->Nat->Nat
 | 0,_=>0
 | n+1,x=>f (x % 256)+256*mapB f n (x / 256)
def Ue(c:Nat):Nat->Nat
 | 0=>0
 | n+1=>c+256*Ue c n
theorem Jb{B c:Nat}(y M:Nat)(hB:B<256)(hc:c<256):(B+256*y) &&& (c+256*M)=(B &&& c)+256*(y &&& M):=by
 have hb:B &&& c<2 ^ 8:=Nat.lt_of_le_of_lt Nat.and_le_left hB;have e1:B+256*y=2 ^ 8*y+B:=oM;have e2:c+256*M=2 ^ 8*M+c:=oM;have e3:(B &&& c)+256*(y &&& M)=2 ^ 8*(y &&& M)+(B &&& c):=oM;rw[e1,e2,e3];apply Nat.eq_of_testBit_eq;intro i;rw[Nat.testBit_and,Nat.testBit_two_pow_mul_add _ hB,Nat.testBit_two_pow_mul_add _ hc,Nat.testBit_two_pow_mul_add _ hb];by_cases h:i<8
 ·simp[h]
 ·simp[h]
def f1(B:Nat):Nat:=(B / 2 &&& 85)+(B &&& 85)
def f2(B:Nat):Nat:=(B / 4 &&& 51)+(B &&& 51)
def f3(B:Nat):Nat:=(B / 16+B) &&& 15
theorem ZfQ:∀t,t<2->∀B,B<256->(B / 2+128*t) &&& 85=B / 2 &&& 85:=by decide +kernel
theorem Zff:∀t,t<4->∀B,B<256->(B / 4+64*t) &&& 51=B / 4 &&& 51:=by decide +kernel
theorem U1:∀B,B<256->f1 B<256:=by decide +kernel
theorem Zfx:∀B,B<256->f2 B<256:=by decide +kernel
abbrev ZhZ(B:Nat):Prop:=B % 16<=4/\B / 16<=4
theorem ZgC:∀B,B<256->ZhZ (f2 (f1 B)):=by decide +kernel
theorem ZfD:∀t,t<=4->∀B,B<256->ZhZ B->B / 16+16*t+B<256/\(B / 16+16*t+B) &&& 15=f3 B:=by decide +kernel
theorem Zjn:∀B,B<256->f3 (f2 (f1 B))=Y0 B:=by decide +kernel
theorem ZaW:∀B,B<256->Y0 B<=8:=by decide +kernel
theorem Zae{f:Nat->Nat}(hf:∀B,B<256->f B<256):∀n x,mapB f n x<256 ^ n
 | 0,_=>by simp[mapB]
 | n+1,x=>by
  have h1:=Zae hf n (x / 256);have h2:=hf (x % 256) (Nat.mod_lt _ vZ);simp only[mapB,Nat.pow_succ];omega
theorem map_map{f h:Nat->Nat}(hh:∀B,B<256->h B<256):∀n x,mapB f n (mapB h n x)=mapB (fun B=>f (h B)) n x
 | 0,_=>rfl
 | n+1,x=>by
  have h2:=hh (x % 256) (Nat.mod_lt _ vZ);simp only[mapB];have e1:(h (x % 256)+256*mapB h n (x / 256)) % 256=h (x % 256):=oM;have e2:(h (x % 256)+256*mapB h n (x / 256)) / 256=mapB h n (x / 256):=oM;rw[e1,e2,map_map hh n]
theorem Wa{f h:Nat->Nat}(e:∀B,B<256->f B=h B):∀n x,mapB f n x=mapB h n x
 | 0,_=>rfl
 | n+1,x=>by simp only[mapB];rw[e _ (Nat.mod_lt _ vZ),Wa e n]
theorem Zhp:∀n x,(x / 2 &&& Ue 85 n)+(x &&& Ue 85 n)=mapB f1 n x
 | 0,x=>by simp[Ue,mapB]
 | n+1,x=>by
  have hB:x % 256<256:=Nat.mod_lt _ vZ;have ex:x=x % 256+256*(x / 256):=oM;have ex2:x / 2=(x % 256 / 2+128*(x / 256 % 2))+256*(x / 256 / 2):=oM;have ih:=Zhp n (x / 256);simp only[mapB,Ue];rw[<-ih];have a1:x / 2 &&& (85+256*Ue 85 n)=(x % 256 / 2 &&& 85)+256*(x / 256 / 2 &&& Ue 85 n):=by
   rw[ex2,Jb _ _ oM vZ,ZfQ _ (Nat.mod_lt _ vZ) _ hB]
  have a2:x &&& (85+256*Ue 85 n)=(x % 256 &&& 85)+256*(x / 256 &&& Ue 85 n):=by
   conv=>lhs;rw[ex]
   exact Jb _ _ hB vZ
  rw[a1,a2];unfold f1;omega
theorem Zhr:∀n x,(x / 4 &&& Ue 51 n)+(x &&& Ue 51 n)=mapB f2 n x
 | 0,x=>by simp[Ue,mapB]
 | n+1,x=>by
  have hB:x % 256<256:=Nat.mod_lt _ vZ;have ex:x=x % 256+256*(x / 256):=oM;have ex2:x / 4=(x % 256 / 4+64*(x / 256 % 4))+256*(x / 256 / 4):=oM;have ih:=Zhr n (x / 256);simp only[mapB,Ue];rw[<-ih];have a1:x / 4 &&& (51+256*Ue 51 n)=(x % 256 / 4 &&& 51)+256*(x / 256 / 4 &&& Ue 51 n):=by
   rw[ex2,Jb _ _ oM vZ,Zff _ (Nat.mod_lt _ vZ) _ hB]
  have a2:x &&& (51+256*Ue 51 n)=(x % 256 &&& 51)+256*(x / 256 &&& Ue 51 n):=by
   conv=>lhs;rw[ex]
   exact Jb _ _ hB vZ
  rw[a1,a2];unfold f2;omega
def TN:Nat->Nat->Prop
 | 0,x=>x=0
 | n+1,x=>ZhZ (x % 256)/\TN n (x / 256)
theorem ZcW:∀n x,TN n (mapB (fun B=>f2 (f1 B)) n x)
 | 0,_=>rfl
 | n+1,x=>by
  have hB:x % 256<256:=Nat.mod_lt _ vZ;have h1:=Zfx _ (U1 _ hB);have h2:=ZgC _ hB;have ih:=ZcW n (x / 256);simp only[mapB,TN];have e1:(f2 (f1 (x % 256))+256*mapB (fun B=>f2 (f1 B)) n (x / 256)) % 256=f2 (f1 (x % 256)):=oM;have e2:(f2 (f1 (x % 256))+256*mapB (fun B=>f2 (f1 B)) n (x / 256)) / 256=mapB (fun B=>f2 (f1 B)) n (x / 256):=oM;rw[e1,e2];exact⟨h2,ih⟩
theorem Zg9:∀n x,TN n x->x % 16<=4
 | 0,x,h=>by simp only[TN]at h;omega
 | n+1,x,h=>by
  have:=h.1.1;omega
theorem Zhm:∀n x,TN n x->(x / 16+x) &&& Ue 15 n=mapB f3 n x
 | 0,x,_=>by simp[Ue,mapB]
 | n+1,x,h=>by
  have hB:x % 256<256:=Nat.mod_lt _ vZ;have ih:=Zhm n (x / 256) h.2;have ht:=Zg9 n _ h.2;obtain⟨h1,h2⟩:=ZfD _ ht _ hB h.1;simp only[mapB,Ue];rw[<-ih,<-h2];have ex:x / 16+x=(x % 256 / 16+16*(x / 256 % 16)+x % 256)+256*(x / 256 / 16+x / 256):=oM;rw[ex,Jb _ _ h1 vZ]
def onesN(n x:Nat):Nat:=(List.range (8*n)).countP fun i=>x.testBit i
theorem ZcB(n x:Nat):onesN (n+1) x=Y0 (x % 256)+onesN n (x / 256):=by
 unfold onesN Y0;have e:8*(n+1)=8+8*n:=oM;rw[e,List.range_add,List.countP_append,List.countP_map];congr 1
 ·apply List.countP_congr
  intro i hi;have:i<8:=List.mem_range.1 hi;have e2:(x % 2 ^ 8).testBit i=x.testBit i:=by rw[Nat.testBit_mod_two_pow];simp[this]
  rw[show x % 256=x % 2 ^ 8 from rfl,e2]
 ·apply List.countP_congr
  intro i hi;have e2:(x / 2 ^ 8).testBit i=x.testBit (8+i):=by rw[Nat.testBit_div_two_pow,Nat.add_comm]
  rw[show x / 256=x / 2 ^ 8 from rfl,e2];rfl
def Zin(f:Nat->Nat):Nat->Nat->Nat
 | 0,_=>0
 | n+1,x=>f (x % 256)+Zin f n (x / 256)
theorem Zbv:∀n x,onesN n x=Zin Y0 n x
 | 0,_=>rfl
 | n+1,x=>by rw[ZcB,Zbv n];rfl
def WN(W:Nat->Nat)(x:Nat):Nat->Nat:=fun i=>if i=x / 64 then W i &&& (18446744073709551615-2 ^ (x % 64))else W i
theorem Za8{t:Nat}(h:t<64):2 ^ t<18446744073709551616:=Nat.lt_of_lt_of_le (Nat.pow_lt_pow_right vZ h) vZ
theorem Zgt(W:Nat->Nat)(x y:Nat):Xf (WN W x) y=(decide (y≠x)&&Xf W y):=by
 unfold Xf WN;by_cases e:y / 64=x / 64
 ·rw[if_pos e,Nat.testBit_and,WS (Za8 (Nat.mod_lt _ vZ)) (Nat.mod_lt _ vZ),Nat.testBit_two_pow]
  by_cases h:x % 64=y % 64
  ·have:y=x:=oM
   simp[this]
  ·have:y≠x:=fun q=>h (by rw[q])
   simp[h,this]
 ·rw[if_neg e]
  have:y≠x:=fun q=>e (by rw[q])
  simp[this]
theorem Zir{W:Nat->Nat}(h:Xw W)(x:Nat):Xw (WN W x):=fun i=>by
 unfold WN;split
 ·exact Nat.lt_of_le_of_lt Nat.and_le_left (h i)
 ·exact h i
def delsN(W:Nat->Nat)(ts:List Nat):Nat->Nat:=ts.foldl WN W
theorem Zes{W:Nat->Nat}{ts:List Nat}{q:Nat}(h:q<ts.length):delsN W (ts.take (q+1))=WN (delsN W (ts.take q)) ts[q]:=by
 unfold delsN;rw[List.take_succ_eq_append_getElem h,List.foldl_append];rfl
theorem ZJ:∀(ts:List Nat){W:Nat->Nat},Xw W->Xw (delsN W ts)
 | [],_,h=>h
 | t::ts,_,h=>ZJ ts (Zir h t)
theorem Jh:∀(ts:List Nat)(W:Nat->Nat)(y:Nat),Xf (delsN W ts) y=(decide (y ∉ ts)&&Xf W y)
 | [],_,_=>by simp[delsN]
 | t::ts,W,y=>by
  have h:=Jh ts (WN W t) y;have e:delsN W (t::ts)=delsN (WN W t) ts:=rfl;rw[e,h,Zgt];by_cases h1:y=t<;>by_cases h2:y∈ts<;>simp[h1,h2]
theorem ZaR{W t:Nat}(ht:t<64)(hW:W<18446744073709551616):bits .andNot .u64 (W:Int) (IntKind.u64.wrap (2 ^ t))=((W &&& (18446744073709551615-2 ^ t):Nat):Int):=by
 have h2:=Za8 ht;have e:IntKind.u64.wrap (2 ^ t)=((2 ^ t:Nat):Int):=by
  rw[IntKind.wrap_u64];have:((2 ^ t:Nat):Int)=(2:Int) ^ t:=sP;rw[<-this];exact Int.emod_eq_of_lt (Int.natCast_nonneg _) (Int.ofNat_lt.2 h2)
 rw[e,u64_andNot_nat _ _ hW h2]
theorem Z7(g K C n c:Nat)(W:Nat->Nat)(a:Option Addr)(ts:List Nat)(L B:Nat)(w:World)(ha:Hid (Xg w L B a (ts.map Int.ofNat)))(hx:Hid (n=ts.length))(hn:n<=4000)(ht:Hid (∀t∈ts,t<64*K))(hK:K<=1000)(hW:Hid (Xw W))(hr:Hid (WsAt w g K C W))(hB:B<=w.heap.size)(hgL:¬(L<=g/\g<B)) :
 Calls Tryz.prog 98 #[.agg #[.slice (some ⟨g,0,none⟩) K C],.slice a n c] w fun e w'=>e=.returned (.tuple #[])/\w.grownBy w' (some g)/\WsAt w' g K C (delsN W ts):=by
 go_enter Tryz.func98,Tryz.ntmps98
 go_wp2;have hg:g<w.heap.size:=hr.lt
 go_loopw [8] (fun u wr=>∃q:Nat,q<=n/\u=.int .i64 q/\Hid (w.grownBy wr (some g))/\wr.cell? ⟨w.heap.size,0,none⟩=some (.slice (some ⟨g,0,none⟩) K C)/\Hid (WsAt wr g K C (delsN W (ts.take q)))) (fun u _=>n-(intOf u).toNat)
 case atStart=>exact⟨0,Nat.zero_le _,rfl,Xa (World.grownBy_alloc _ _ _),sP,Xa (hr.alloc _)⟩
 case round =>
  obtain⟨q,hq,rfl,HG,hs,HR⟩:=hrel;by_cases hlt:q<n
  ·have hqx:q<ts.length:=by have:=hx.out;omega
   obtain⟨b,o,rfl,hbB,e0w⟩:=ha.out q (by simpa using hqx);have e0:=(Xc (HG.block b oM (fun e=>by injection e with e;omega))).trans e0w;rw[List.getElem_map]at e0;have htq:=ht.out _ (List.getElem_mem hqx);have HT:=Xa (Zes (W:=W) hqx);have HWA:=Xa (ZJ (ts.take q) hW.out);clear e0w;generalize ts[q]=t at *;have h2:=ZdX t;have h3:=Zd5 t;have e0':wr.cell? ⟨b,o+q,none⟩=some (.int .i64 (t:Int)):=e0;clear e0;generalize delsN W (ts.take q)=W1 at *;have hd:t / 64<K:=oM;have hm:t % 64<64:=Nat.mod_lt _ vZ;have ec:=HR.cell hd;have ez:=HR.frozen;have HOR:=Xa (ZaR hm (HWA.out (t / 64)));have HAD:Hid (∀i,(if i=t / 64 then W1 (t / 64) &&& (18446744073709551615-2 ^ (t % 64))else W1 i)=delsN W (ts.take (q+1)) i):=Xa (fun i=>by
    rw[HT.out];unfold WN;by_cases e:i=t / 64
    ·rw[if_pos e,if_pos e,e]
    ·rw[if_neg e,if_neg e])
   generalize hd2:t / 64=td at *;generalize hm2:t % 64=tm at *;go_wp2
   go_region
   go_wp2;rw[HOR.out];have kk:wr.grownBy (wr.setCell ⟨g,td,none⟩ (.int .u64 ((W1 td &&& (18446744073709551615-2 ^ tm):Nat):Int))).drew (some g):=⟨rfl,rfl,rfl,by simp[World.setCell,World.drew],fun k _ hk=>Below.heap_setCell _ _ _ _ (fun e=>hk (by rw[e]))⟩;refine⟨⟨q+1,oM,gM,Xa (HG.andThen kk (fun j hj=>by cases hj;exact Or.inr rfl)),?_,Xa ?_⟩,by simp[intOf];omega⟩
   ·exact(World.cell?_setCell_far wr ⟨g,td,none⟩ ⟨w.heap.size,0,none⟩ _ (by show g≠w.heap.size;omega)).trans hs
   ·refine WsAt.drew ((HR.set td _ hd).congr (fun i _=>?_))
    rw[<-HAD.out i]
  ·have hqn:q=n:=oM
   have HX:Hid (ts.take q=ts):=Xa (List.take_of_length_le (by have:=hx.out;omega));rw[HX.out]at HR;go_wp2
   go_end0
   exact⟨rfl,HG.out,HR.out⟩
theorem Zfj{f:Nat->Nat}(hf:∀B,B<256->f B<=68):∀n x,mapB f n x<=Ue 68 n
 | 0,_=>Nat.le_refl _
 | n+1,x=>by
  have h1:=Zfj hf n (x / 256);have h2:=hf (x % 256) (Nat.mod_lt _ vZ);simp only[mapB,Ue];omega
theorem Zh9:∀B,B<256->f2 (f1 B)<=68:=by decide +kernel
theorem Z9{p q:Nat}(h:p<256):(p+256*q) / 256=q:=oM
theorem Zf8(p0 p1 p2 p3 p4 p5 p6 p7 a1 a2 a3 a4 a5 a6 X3 X4 X5 X6:Nat)(h0:p0<=8)(h1:p1<=8)(h2:p2<=8)(h3:p3<=8)(h4:p4<=8)(h5:p5<=8)(h6:p6<=8)(h7:p7<=8)
 (e3:X3=p0+256*a1) (g1:a1=p1+256*a2) (g2:a2=p2+256*a3) (g3:a3=p3+256*a4) (g4:a4=p4+256*a5) (g5:a5=p5+256*a6) (g6:a6=p6+256*p7) (e4:X4=X3+X3 / 256) (e5:X5=X4+X4 / 65536) (e6:X6=X5+X5 / 4294967296):X4<9223372036854775808/\X5<9223372036854775808/\X6<9223372036854775808/\X6 % 128=p0+(p1+(p2+(p3+(p4+(p5+(p6+p7)))))):=by
 have d3:X3 / 256=a1:=by rw[e3];exact Z9 oM
 have c4:X4=(p0+p1)+256*(a1+a2):=oM;have d4:X4 / 65536=a2+a3:=by
  rw[show 65536=256*256 from rfl,<-Nat.div_div_eq_div_mul,c4,Z9 oM,show a1+a2=(p1+p2)+256*(a2+a3) by omega,Z9 oM]
 have c5:X5=(p0+p1+p2+p3)+256*(a1+a2+a3+a4):=oM;have d5:X5 / 4294967296=a4+a5+a6+p7:=by
  rw[show 4294967296=256*256*256*256 from rfl,<-Nat.div_div_eq_div_mul,<-Nat.div_div_eq_div_mul,<-Nat.div_div_eq_div_mul,c5,Z9 oM,show a1+a2+a3+a4=(p1+p2+p3+p4)+256*(a2+a3+a4+a5) by omega,Z9 oM,show a2+a3+a4+a5=(p2+p3+p4+p5)+256*(a3+a4+a5+a6) by omega,Z9 oM,show a3+a4+a5+a6=(p3+p4+p5+p6)+256*(a4+a5+a6+p7) by omega,Z9 oM]
 have c6:X6=(p0+p1+p2+p3+p4+p5+p6+p7)+256*(a1+a2+a3+a4+a5+a6+p7):=oM;have k6:a6<=2304:=oM;have k5:a5<=590000:=oM;have k4:a4<=151100000:=oM;have k3:a3<=38700000000:=oM;have k2:a2<=9910000000000:=oM;have k1:a1<=2540000000000000:=oM;clear e3 e4 e5 e6 d3 d4 d5 g1 g2 g3 g4 g5 g6;refine⟨oM,oM,oM,?_⟩;generalize a1+a2+a3+a4+a5+a6+p7=q at c6;omega
theorem ZdC(x X4 X5 X6:Nat)(e4:X4=mapB Y0 8 x+mapB Y0 8 x / 256)(e5:X5=X4+X4 / 65536)(e6:X6=X5+X5 / 4294967296):X4<9223372036854775808/\X5<9223372036854775808/\X6<9223372036854775808/\X6 % 128=onesN 8 x:=by
 rw[Zbv];have hm:∀y,Y0 (y % 256)<=8:=fun y=>ZaW _ (Nat.mod_lt _ vZ)
 have h:=Zf8 (Y0 (x % 256)) (Y0 (x / 256 % 256)) (Y0 (x / 256 / 256 % 256)) (Y0 (x / 256 / 256 / 256 % 256)) (Y0 (x / 256 / 256 / 256 / 256 % 256)) (Y0 (x / 256 / 256 / 256 / 256 / 256 % 256)) (Y0 (x / 256 / 256 / 256 / 256 / 256 / 256 % 256)) (Y0 (x / 256 / 256 / 256 / 256 / 256 / 256 / 256 % 256)) (mapB Y0 7 (x / 256)) (mapB Y0 6 (x / 256 / 256)) (mapB Y0 5 (x / 256 / 256 / 256)) (mapB Y0 4 (x / 256 / 256 / 256 / 256)) (mapB Y0 3 (x / 256 / 256 / 256 / 256 / 256)) (mapB Y0 2 (x / 256 / 256 / 256 / 256 / 256 / 256)) (mapB Y0 8 x) X4 X5 X6 (hm _) (hm _) (hm _) (hm _) (hm _) (hm _) (hm _) (hm _) rfl rfl rfl rfl rfl rfl (by simp only[mapB];omega) e4 e5 e6;simp only[Zin];exact h
theorem Zey(x:Nat)(w:World)(hx:x<18446744073709551616) :
 Calls Tryz.prog 70 #[.int .u64 (x:Int)] w fun e w'=>e=.returned (.int .i64 (onesN 8 x:Nat))/\w'=w:=by
 have m0:Ue 85 8=6148914691236517205:=vZ;have m1:Ue 51 8=3689348814741910323:=vZ;have m2:Ue 15 8=1085102592571150095:=vZ;have s1:=Zhp 8 x;have s2:=Zhr 8 (mapB f1 8 x);have s3:=Zhm 8 (mapB f2 8 (mapB f1 8 x)) (by rw[map_map U1];exact ZcW 8 x);rw[m0]at s1;rw[m1]at s2;rw[m2,map_map U1,map_map (fun B hB=>Zfx _ (U1 _ hB)),Wa Zjn]at s3;have l1:mapB f1 8 x<18446744073709551616:=Zae U1 8 x;have l2:mapB f2 8 (mapB f1 8 x)<18446744073709551616:=Zae Zfx 8 _;have l3:mapB Y0 8 x<18446744073709551616:=Zae (fun B hB=>Nat.lt_of_le_of_lt (ZaW B hB) vZ) 8 x;obtain⟨k4,k5,k6,k7⟩:=ZdC x _ _ _ rfl rfl rfl;have HX2:mapB f2 8 (mapB f1 8 x) / 16+mapB f2 8 (mapB f1 8 x)<18446744073709551616:=by
  have h:=Zfj (f:=fun B=>f2 (f1 B)) Zh9 8 x;rw[map_map U1];rw[show Ue 68 8=4919131752989213764 by decide]at h;omega
 rw[map_map U1]at l2 s2 HX2;generalize mapB f1 8 x=X1 at *;generalize mapB (fun B=>f2 (f1 B)) 8 x=X2 at *;generalize mapB Y0 8 x=X3 at *;generalize onesN 8 x=r at *;have W:∀a:Nat,a<18446744073709551616->IntKind.u64.wrap (a:Int)=(a:Int):=fun a h=>by rw[IntKind.wrap_u64];exact Int.emod_eq_of_lt oM oM
 have b1:IntKind.u64.wrap (bits .and .u64 ((x:Int) / 2) 6148914691236517205+bits .and .u64 (x:Int) 6148914691236517205)=(X1:Int):=by
  have q1:=u64_and_nat (x / 2) 6148914691236517205 oM vZ;have q2:=u64_and_nat x 6148914691236517205 hx vZ;rw[show((x:Int) / 2)=((x / 2:Nat):Int) by omega];rw[show(6148914691236517205:Int)=((6148914691236517205:Nat):Int) from rfl,q1,q2,<-Int.natCast_add,s1,W _ l1]
 have b2:IntKind.u64.wrap (bits .and .u64 ((X1:Int) / 4) 3689348814741910323+bits .and .u64 (X1:Int) 3689348814741910323)=(X2:Int):=by
  have q1:=u64_and_nat (X1 / 4) 3689348814741910323 oM vZ;have q2:=u64_and_nat X1 3689348814741910323 l1 vZ;rw[show((X1:Int) / 4)=((X1 / 4:Nat):Int) by omega];rw[show(3689348814741910323:Int)=((3689348814741910323:Nat):Int) from rfl,q1,q2,<-Int.natCast_add,s2,W _ l2]
 have b3:bits .and .u64 ((X2:Int) / 16+(X2:Int)) 1085102592571150095=(X3:Int):=by
  have hl:X2 / 16+X2<18446744073709551616:=HX2;have q1:=u64_and_nat (X2 / 16+X2) 1085102592571150095 hl vZ;rw[show((X2:Int) / 16+(X2:Int))=((X2 / 16+X2:Nat):Int) by omega];rw[show(1085102592571150095:Int)=((1085102592571150095:Nat):Int) from rfl,q1,s3]
 have b4:IntKind.u64.wrap ((X3:Int)+(X3:Int) / 256)=((X3+X3 / 256:Nat):Int):=by
  rw[show((X3:Int)+(X3:Int) / 256)=((X3+X3 / 256:Nat):Int) by omega];exact W _ oM
 generalize X3+X3 / 256=X4 at *;have b5:IntKind.u64.wrap ((X4:Int)+(X4:Int) / 65536)=((X4+X4 / 65536:Nat):Int):=by
  rw[show((X4:Int)+(X4:Int) / 65536)=((X4+X4 / 65536:Nat):Int) by omega];exact W _ oM
 generalize X4+X4 / 65536=X5 at *;have b6:IntKind.u64.wrap ((X5:Int)+(X5:Int) / 4294967296)=((X5+X5 / 4294967296:Nat):Int):=by
  rw[show((X5:Int)+(X5:Int) / 4294967296)=((X5+X5 / 4294967296:Nat):Int) by omega];exact W _ oM
 generalize X5+X5 / 4294967296=X6 at *;have b7:bits .and .i64 (X6:Int) 127=(r:Int):=by rw[i64_and127];omega
 have b8:wrap64 (X6:Int)=(X6:Int):=by simp[wrap64];omega
 clear s1 s2 s3 m0 m1 m2 l1 l2 l3 k4 k5 k7 W
 go_enter Tryz.func70,Tryz.ntmps70
 go_wp2
 go_ret
 exact⟨rfl,rfl⟩
def cntN(W:Nat->Nat)(K:Nat):Nat:=(List.range (64*K)).countP fun x=>Xf W x
theorem Zga(W:Nat->Nat)(K:Nat):cntN W (K+1)=cntN W K+onesN 8 (W K):=by
 unfold cntN onesN;have e:64*(K+1)=64*K+8*8:=oM;rw[e,List.range_add,List.countP_append,List.countP_map];congr 1;apply List.countP_congr;intro i hi;have:i<64:=List.mem_range.1 hi;have e1:(64*K+i) / 64=K:=oM;have e2:(64*K+i) % 64=i:=oM;simp only[Function.comp,Xf,e1,e2]
theorem ZcL(W:Nat->Nat)(K:Nat):cntN W K<=64*K:=Nat.le_trans (List.countP_le_length) sP
theorem VF(g K C:Nat)(W:Nat->Nat)(w:World)(hW:Hid (Xw W))(hr:Hid (WsAt w g K C W))(hK:K<=1000) :
 Calls Tryz.prog 37 #[.agg #[.slice (some ⟨g,0,none⟩) K C]] w fun e w'=>e=.returned (.int .i64 (cntN W K:Nat))/\Below w.heap.size w w':=by
 have hg:=hr.lt
 go_enter Tryz.func37,Tryz.ntmps37
 go_wp2
 go_loopw [3,9] (fun u i wr=>∃k:Nat,k<=K/\i=.int .i64 k/\u=.int .i64 (cntN W k:Nat)/\Hid (Below w.heap.size w wr)) (fun _ i _=>K-(intOf i).toNat)
 case atStart=>exact⟨0,Nat.zero_le _,rfl,rfl,Xa (Xb (Below.refl _ _) _)⟩
 case round =>
  obtain⟨k,hk,rfl,rfl,HB⟩:=hrel;by_cases hlt:k<K
  ·have hc:=(HB.cell (p:=⟨g,k,none⟩) hg).trans (hr.cell hlt)
   have hwk:=hW.out k;have HS:=Xa (Zga W k);have hle:=ZcL W k;have hle2:=ZcL W (k+1);rw[HS.out]at hle2;generalize cntN W k=c0 at *;generalize W k=Wk at *;have HO:=Xa (Zey Wk wr hwk);generalize onesN 8 Wk=o at *
   go_wp2_with (go_at_call 70;refine HO.mono ?_;rintro e w2 ⟨rfl,hw2⟩;rw[hw2];clear hw2 w2)
   exact⟨⟨k+1,oM,gM,by rw[HS.out];go_num,HB⟩,by simp[intOf];omega⟩
  ·have e:k=K:=oM
   subst e;go_wp2
   go_ret
   exact⟨rfl,HB.out⟩
theorem Tryz.infoU64blockNo:(Tryz.prog.info? 133).map (fun i=>(i.zero,i.size,i.bytes))=some (some (.int .u64 0),1,8):=kR
theorem Zx(g K x:Nat)(W:Nat->Nat)(w:World)(hW:Hid (Xw W))(hr:Hid (w.rowIs g 133 K (fun i=>.int .u64 (W i))))(hx:x<64*K)(hK:K<=1000):Calls Tryz.prog 92 #[.agg #[.slice (some ⟨g,0,none⟩) K K],.int .i64 x] w fun e w'=>e=.returned (.bool (Xf W x))/\Below w.heap.size w w':=by
 have h2:=ZdX x;have h3:=Zd5 x;have hq:x / 64<K:=oM;have hm:x % 64<64:=Nat.mod_lt _ vZ;have hc:=hr.cell hq;have hg:=hr.lt;have hc2:=fun o=>((Xb (Below.refl w.heap.size w) o).cell (p:=⟨g,x / 64,none⟩) hg).trans hc
 have HH:Hid ((bits .and .u64 ((W (x / 64):Int) / 2 ^ (x % 64)) 1==1)=Xf W x):=Xa (ZbE (hW.out _));clear hc;generalize hd:x / 64=xd at *;generalize hm2:x % 64=xm at *;generalize W xd=Wd at *
 go_enter Tryz.func92,Tryz.ntmps92
 go_wp2
 go_ret
 exact⟨VV HH.out,Xb (Below.refl _ _) _⟩
theorem JU(room:Nat)(w:World)(hr:room<=60000):Calls Tryz.prog 91 #[.int .i64 room] w fun e w'=>∃g,e=.returned (.agg #[.slice (some ⟨g,0,none⟩) ((room+63) / 64) ((room+63) / 64)])/\w.heap.size<=g/\Below w.heap.size w w'/\w'.rowIs g 133 ((room+63) / 64) (fun _=>.int .u64 ((0:Nat):Int)):=by
 have hmk:=run_make_row' (P:=Tryz.prog) 73 133 (.int .u64 0) 8 Tryz.underlying73 Tryz.infoU64blockNo rfl .i64 .i64 ((room+63) / 64) oM oM;have hq:((room:Int)+63).tdiv 64=(((room+63) / 64:Nat):Int):=by rw[Int.tdiv_eq_ediv_of_nonneg oM];omega
 have hq2:((room:Int)+64-1)=(room:Int)+63:=oM;have hK:(room+63) / 64<=1000:=oM;generalize (room+63) / 64=K at *
 go_enter Tryz.func91,Tryz.ntmps91
 go_wp2;refine bodyPost_ret (v:=.agg #[.slice (some ⟨w.heap.size+1,0,none⟩) K K]) (by simp[results,Tryz.results91,go_sem]) rfl ?_;refine⟨w.heap.size+1,rfl,oM,Xb (Xb (Below.refl _ _) _) _,?_⟩;have hrow:∀ob,((w.alloc ob).alloc (.cells (madeCells #[.int .u64 0] K) 133)).rowIs (w.heap.size+1) 133 K (fun _=>.int .u64 0):=fun ob=>by
  have:=World.rowIs_made (w.alloc ob) (.int .u64 0) K 133;rwa[World.size_alloc]at this
 exact hrow _
theorem JR(g K n c:Nat)(W:Nat->Nat)(a:Option Addr)(ts:List Nat)(L B:Nat)(w:World)(ha:Hid (Xg w L B a (ts.map Int.ofNat)))(hx:Hid (n=ts.length))(hn:n<=4000)(ht:Hid (∀t∈ts,t<64*K))(hK:K<=1000)(hW:Hid (Xw W))(hr:Hid (w.rowIs g 133 K (fun i=>.int .u64 (W i))))(hB:B<=w.heap.size)(hgL:¬(L<=g/\g<B)) :
 Calls Tryz.prog 93 #[.agg #[.slice (some ⟨g,0,none⟩) K K],.slice a n c] w fun e w'=>e=.returned (.tuple #[])/\w.grownBy w' (some g)/\w'.rowIs g 133 K (fun i=>.int .u64 (addsN W ts i)):=by
 go_enter Tryz.func93,Tryz.ntmps93
 go_wp2;have hg:g<w.heap.size:=hr.lt
 go_loopw [8] (fun u wr=>∃q:Nat,q<=n/\u=.int .i64 q/\Hid (w.grownBy wr (some g))/\wr.cell? ⟨w.heap.size,0,none⟩=some (.slice (some ⟨g,0,none⟩) K K)/\Hid (wr.rowIs g 133 K (fun i=>.int .u64 (addsN W (ts.take q) i)))) (fun u _=>n-(intOf u).toNat)
 case atStart=>exact⟨0,Nat.zero_le _,rfl,Xa (World.grownBy_alloc _ _ _),sP,Xa (hr.alloc _)⟩
 case round =>
  obtain⟨q,hq,rfl,HG,hs,HR⟩:=hrel;by_cases hlt:q<n
  ·have hqx:q<ts.length:=by have:=hx.out;omega
   obtain⟨b,o,rfl,hbB,e0w⟩:=ha.out q (by simpa using hqx);have e0:=(Xc (HG.block b oM (fun e=>by injection e with e;omega))).trans e0w;rw[List.getElem_map]at e0;have htq:=ht.out _ (List.getElem_mem hqx);have HT:=Xa (TH (W:=W) hqx);have HWA:=Xa (YE (ts.take q) hW.out);clear e0w;generalize ts[q]=t at *;have h2:=ZdX t;have h3:=Zd5 t;have e0':wr.cell? ⟨b,o+q,none⟩=some (.int .i64 (t:Int)):=e0;clear e0;generalize addsN W (ts.take q)=W1 at *;have hd:t / 64<K:=oM;have hm:t % 64<64:=Nat.mod_lt _ vZ;have ec:=HR.cell hd;have ez:=HR.frozen;have HOR:=Xa (Zan hm (HWA.out (t / 64)));have HAD:Hid (∀i,(if i=t / 64 then W1 (t / 64) ||| 2 ^ (t % 64)else W1 i)=addsN W (ts.take (q+1)) i):=Xa (fun i=>by
    rw[HT.out];unfold Yn;by_cases e:i=t / 64
    ·rw[if_pos e,if_pos e,e]
    ·rw[if_neg e,if_neg e])
   generalize hd2:t / 64=td at *;generalize hm2:t % 64=tm at *;go_wp2
   go_region
   go_wp2;rw[HOR.out];have kk:wr.grownBy (wr.setCell ⟨g,td,none⟩ (.int .u64 ((W1 td ||| 2 ^ tm:Nat):Int))).drew (some g):=⟨rfl,rfl,rfl,by simp[World.setCell,World.drew],fun k _ hk=>Below.heap_setCell _ _ _ _ (fun e=>hk (by rw[e]))⟩;refine⟨⟨q+1,oM,gM,Xa (HG.andThen kk (fun j hj=>by cases hj;exact Or.inr rfl)),?_,Xa ?_⟩,by simp[intOf];omega⟩
   ·exact(World.cell?_setCell_far wr ⟨g,td,none⟩ ⟨w.heap.size,0,none⟩ _ (by show g≠w.heap.size;omega)).trans hs
   ·refine World.rowIs.drew ((HR.set td _).congr (fun i _=>?_))
    rw[<-HAD.out i];by_cases e:i=td<;>simp[e]
  ·have hqn:q=n:=oM
   have HX:Hid (ts.take q=ts):=Xa (List.take_of_length_le (by have:=hx.out;omega));rw[HX.out]at HR;go_wp2
   go_end0
   exact⟨rfl,HG.out,HR.out⟩
theorem UL(g g2 g3 K:Nat)(S O T:Nat->Nat)(w:World)(hS:Hid (Xw S))(hO:Hid (Xw O))(hT:Hid (Xw T))(hK:K<=1000)(rS:Hid (w.rowIs g 133 K (fun i=>.int .u64 (S i))))(rO:Hid (w.rowIs g2 133 K (fun i=>.int .u64 (O i))))(rT:Hid (w.rowIs g3 133 K (fun i=>.int .u64 (T i))))(h3:g3≠g)(hs:Hid (g2=g->S=O)) :
 Calls Tryz.prog 145 #[.agg #[.slice (some ⟨g,0,none⟩) K K],.agg #[.slice (some ⟨g2,0,none⟩) K K],.agg #[.slice (some ⟨g3,0,none⟩) K K]] w fun e w'=>e=.returned (.bool (grewN S O T K))/\w.grownBy w' (some g)/\w'.rowIs g 133 K (fun i=>.int .u64 (butN S O T i)):=by
 go_enter Tryz.func145,Tryz.ntmps145
 go_wp2;have l1:g<w.heap.size:=rS.lt;have l2:g2<w.heap.size:=rO.lt;have l3:g3<w.heap.size:=rT.lt
 go_loopw [7,14] (fun gv u wr=>∃q:Nat,q<=K/\u=.int .i64 q/\gv=.bool (grewN S O T q)/\Hid (w.grownBy wr (some g))/\wr.cell? ⟨w.heap.size,0,none⟩=some (.slice (some ⟨g,0,none⟩) K K)/\wr.cell? ⟨w.heap.size+2,0,none⟩=some (.slice (some ⟨g3,0,none⟩) K K)/\Hid (wr.rowIs g 133 K (fun i=>.int .u64 ((if i<q then butN S O T i else S i:Nat):Int)))) (fun _ u _=>K-(intOf u).toNat)
 case atStart=>exact⟨0,Nat.zero_le _,rfl,by rw[VK],Xa (((World.grownBy_alloc w _ _).andThen (World.grownBy_alloc _ _ _) (fun j hj=>Or.inr hj)).andThen (World.grownBy_alloc _ _ _) (fun j hj=>Or.inr hj)),by simp[go_sem],by simp[go_sem],Xa ((((rS.alloc _).alloc _).alloc _).congr (fun i _=>sP))⟩
 case round =>
  obtain⟨q,hq,rfl,rfl,HG,hs0,hs2,HR⟩:=hrel;by_cases hlt:q<K
  ·have e1:wr.cell? ⟨g,q,none⟩=some (.int .u64 (S q)):=(HR.cell hlt).trans sP
   have e3:wr.cell? ⟨g3,q,none⟩=some (.int .u64 (T q)):=(Xc (HG.block g3 l3 (fun e=>h3 (by injection e)))).trans (rT.cell hlt);have e2:wr.cell? ⟨g2,q,none⟩=some (.int .u64 (O q)):=by
    by_cases e:g2=g
    ·rw[<-hs.out e,e];exact e1
    ·exact(Xc (HG.block g2 l2 (fun e'=>e (by injection e')))).trans (rO.cell hlt)
   have ez:=HR.frozen;have HA1:=u64_andNot_nat (O q) (T q) (hO.out q) (hT.out q);have hlx:O q &&& (18446744073709551615-T q)<18446744073709551616:=Nat.lt_of_le_of_lt Nat.and_le_left (hO.out q);have HA2:bits .andNot .u64 ((O q &&& (18446744073709551615-T q):Nat):Int) (S q:Int)=((moreN S O T q:Nat):Int):=u64_andNot_nat _ (S q) hlx (hS.out q);have HA3:bits .or .u64 (S q:Int) ((moreN S O T q:Nat):Int)=((butN S O T q:Nat):Int):=u64_or_nat _ _ (hS.out q) (Ul hO.out q);have HGS:=Xa (Wh S O T q);have hsn:g≠w.heap.size:=oM;have hsn2:g≠w.heap.size+2:=oM;have HNX:Hid ((wr.setCell ⟨g,q,none⟩ (.int .u64 (butN S O T q:Int))).rowIs g 133 K (fun i=>.int .u64 ((if i<q+1 then butN S O T i else S i:Nat):Int))):=Xa ((HR.set q _).congr (fun i _=>by
    by_cases e:i=q
    ·subst e;simp
    ·rw[if_neg e]
     by_cases e2:i<q
     ·rw[if_pos e2,if_pos oM]
     ·rw[if_neg e2,if_neg oM]))
   have kk:wr.grownBy (wr.setCell ⟨g,q,none⟩ (.int .u64 (butN S O T q:Int))) (some g):=⟨rfl,rfl,rfl,by simp[World.setCell],fun k _ hk=>Below.heap_setCell _ _ _ _ (fun e=>hk (by rw[e]))⟩;have HKK:Hid (w.grownBy (wr.setCell ⟨g,q,none⟩ (.int .u64 (butN S O T q:Int))) (some g)):=Xa (HG.andThen kk (fun j hj=>by cases hj;exact Or.inr rfl));have hs0':=(World.cell?_setCell_far wr ⟨g,q,none⟩ ⟨w.heap.size,0,none⟩ (.int .u64 (butN S O T q:Int)) hsn).trans hs0;have hs2':=(World.cell?_setCell_far wr ⟨g,q,none⟩ ⟨w.heap.size+2,0,none⟩ (.int .u64 (butN S O T q:Int)) hsn2).trans hs2;generalize hX:O q &&& (18446744073709551615-T q)=X at *;generalize butN S O T q=Bq at *;generalize moreN S O T q=Mq at *;generalize S q=Sq at *;generalize O q=Oq at *;generalize T q=Tq at *;generalize grewN S O T q=gq at *;clear hX kk;cases gq with
   | true =>
    go_wp2
    go_region
    go_wp2;exact⟨⟨q+1,oM,gM,by rw[HGS.out];rfl,Xa ⟨HKK.os,HKK.tape,HKK.output,HKK.size,HKK.block⟩,hs0',hs2',Xa HNX.drew⟩,by simp[intOf];omega⟩
   | false =>
    go_wp2
    go_region
    go_wp2;exact⟨⟨q+1,oM,gM,by rw[HGS.out];cases Mq<;>rfl,Xa ⟨HKK.os,HKK.tape,HKK.output,HKK.size,HKK.block⟩,hs0',hs2',Xa HNX.drew⟩,by simp[intOf];omega⟩
  ·have hqk:q=K:=oM
   subst hqk;go_wp2
   go_ret
   exact⟨rfl,HG.out,HR.congr (fun i hi=>by rw[if_pos hi])⟩
theorem Tryz.infoU64colorNo:(Tryz.prog.info? 133).map (fun i=>(i.zero,i.size,i.bytes))=some (some (.int .u64 0),1,8):=kR
theorem Vc(room:Nat)(w:World)(hr:room<=60000):Calls Tryz.prog 67 #[.int .i64 room] w fun e w'=>∃g,e=.returned (.agg #[.slice (some ⟨g,0,none⟩) ((room+63) / 64) ((room+63) / 64)])/\w.heap.size<=g/\Below w.heap.size w w'/\w'.rowIs g 133 ((room+63) / 64) (fun _=>.int .u64 ((0:Nat):Int)):=by
 have hmk:=run_make_row' (P:=Tryz.prog) 73 133 (.int .u64 0) 8 Tryz.underlying73 Tryz.infoU64colorNo rfl .i64 .i64 ((room+63) / 64) oM oM;have hq:((room:Int)+63).tdiv 64=(((room+63) / 64:Nat):Int):=by rw[Int.tdiv_eq_ediv_of_nonneg oM];omega
 have hq2:((room:Int)+64-1)=(room:Int)+63:=oM;have hK:(room+63) / 64<=1000:=oM;generalize (room+63) / 64=K at *
 go_enter Tryz.func67,Tryz.ntmps67
 go_wp2;refine bodyPost_ret (v:=.agg #[.slice (some ⟨w.heap.size+1,0,none⟩) K K]) (by simp[results,Tryz.results67,go_sem]) rfl ?_;refine⟨w.heap.size+1,rfl,oM,Xb (Xb (Below.refl _ _) _) _,?_⟩;have hrow:∀ob,((w.alloc ob).alloc (.cells (madeCells #[.int .u64 0] K) 133)).rowIs (w.heap.size+1) 133 K (fun _=>.int .u64 0):=fun ob=>by
  have:=World.rowIs_made (w.alloc ob) (.int .u64 0) K 133;rwa[World.size_alloc]at this
 exact hrow _
theorem Zbu(g K C n c:Nat)(W:Nat->Nat)(a:Option Addr)(ts:List Nat)(L B:Nat)(w:World)(ha:Hid (Xg w L B a (ts.map Int.ofNat)))(hx:Hid (n=ts.length))(hn:n<=4000)(ht:Hid (∀t∈ts,t<64*K))(hK:K<=1000)(hW:Hid (Xw W))(hr:Hid (WsAt w g K C W))(hB:B<=w.heap.size)(hgL:¬(L<=g/\g<B)) :
 Calls Tryz.prog 69 #[.agg #[.slice (some ⟨g,0,none⟩) K C],.slice a n c] w fun e w'=>e=.returned (.tuple #[])/\w.grownBy w' (some g)/\WsAt w' g K C (addsN W ts):=by
 go_enter Tryz.func69,Tryz.ntmps69
 go_wp2;have hg:g<w.heap.size:=hr.lt
 go_loopw [8] (fun u wr=>∃q:Nat,q<=n/\u=.int .i64 q/\Hid (w.grownBy wr (some g))/\wr.cell? ⟨w.heap.size,0,none⟩=some (.slice (some ⟨g,0,none⟩) K C)/\Hid (WsAt wr g K C (addsN W (ts.take q)))) (fun u _=>n-(intOf u).toNat)
 case atStart=>exact⟨0,Nat.zero_le _,rfl,Xa (World.grownBy_alloc _ _ _),sP,Xa (hr.alloc _)⟩
 case round =>
  obtain⟨q,hq,rfl,HG,hs,HR⟩:=hrel;by_cases hlt:q<n
  ·have hqx:q<ts.length:=by have:=hx.out;omega
   obtain⟨b,o,rfl,hbB,e0w⟩:=ha.out q (by simpa using hqx);have e0:=(Xc (HG.block b oM (fun e=>by injection e with e;omega))).trans e0w;rw[List.getElem_map]at e0;have htq:=ht.out _ (List.getElem_mem hqx);have HT:=Xa (TH (W:=W) hqx);have HWA:=Xa (YE (ts.take q) hW.out);clear e0w;generalize ts[q]=t at *;have h2:=ZdX t;have h3:=Zd5 t;have e0':wr.cell? ⟨b,o+q,none⟩=some (.int .i64 (t:Int)):=e0;clear e0;generalize addsN W (ts.take q)=W1 at *;have hd:t / 64<K:=oM;have hm:t % 64<64:=Nat.mod_lt _ vZ;have ec:=HR.cell hd;have ez:=HR.frozen;have HOR:=Xa (Zan hm (HWA.out (t / 64)));have HAD:Hid (∀i,(if i=t / 64 then W1 (t / 64) ||| 2 ^ (t % 64)else W1 i)=addsN W (ts.take (q+1)) i):=Xa (fun i=>by
    rw[HT.out];unfold Yn;by_cases e:i=t / 64
    ·rw[if_pos e,if_pos e,e]
    ·rw[if_neg e,if_neg e])
   generalize hd2:t / 64=td at *;generalize hm2:t % 64=tm at *;go_wp2
   go_region
   go_wp2;rw[HOR.out];have kk:wr.grownBy (wr.setCell ⟨g,td,none⟩ (.int .u64 ((W1 td ||| 2 ^ tm:Nat):Int))).drew (some g):=⟨rfl,rfl,rfl,by simp[World.setCell,World.drew],fun k _ hk=>Below.heap_setCell _ _ _ _ (fun e=>hk (by rw[e]))⟩;refine⟨⟨q+1,oM,gM,Xa (HG.andThen kk (fun j hj=>by cases hj;exact Or.inr rfl)),?_,Xa ?_⟩,by simp[intOf];omega⟩
   ·exact(World.cell?_setCell_far wr ⟨g,td,none⟩ ⟨w.heap.size,0,none⟩ _ (by show g≠w.heap.size;omega)).trans hs
   ·refine WsAt.drew ((HR.set td _ hd).congr (fun i _=>?_))
    rw[<-HAD.out i]
  ·have hqn:q=n:=oM
   have HX:Hid (ts.take q=ts):=Xa (List.take_of_length_le (by have:=hx.out;omega));rw[HX.out]at HR;go_wp2
   go_end0
   exact⟨rfl,HG.out,HR.out⟩
theorem Zb7(g K x:Nat)(W:Nat->Nat)(w:World)(hW:Hid (Xw W))(hr:Hid (w.rowIs g 133 K (fun i=>.int .u64 (W i))))(hx:x<64*K)(hK:K<=1000):Calls Tryz.prog 58 #[.agg #[.slice (some ⟨g,0,none⟩) K K],.int .i64 x] w fun e w'=>e=.returned (.bool (Xf W x))/\Below w.heap.size w w':=by
 have h2:=ZdX x;have h3:=Zd5 x;have hq:x / 64<K:=oM;have hm:x % 64<64:=Nat.mod_lt _ vZ;have hc:=hr.cell hq;have hg:=hr.lt;have hc2:=fun o=>((Xb (Below.refl w.heap.size w) o).cell (p:=⟨g,x / 64,none⟩) hg).trans hc
 have HH:Hid ((bits .and .u64 ((W (x / 64):Int) / 2 ^ (x % 64)) 1==1)=Xf W x):=Xa (ZbE (hW.out _));clear hc;generalize hd:x / 64=xd at *;generalize hm2:x % 64=xm at *;generalize W xd=Wd at *
 go_enter Tryz.func58,Tryz.ntmps58
 go_wp2
 go_ret
 exact⟨VV HH.out,Xb (Below.refl _ _) _⟩
end Go.Proofs.YthgikffcdgpgiaaGreatDoor
