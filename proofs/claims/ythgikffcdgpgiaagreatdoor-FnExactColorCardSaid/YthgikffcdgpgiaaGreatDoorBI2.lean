import Derived.Test.YthgikffcdgpgiaaGreatDoorPL2
import Derived.Test.YthgikffcdgpgiaaGreatDoorDR1
namespace Go.Proofs.YthgikffcdgpgiaaGreatDoor
set_option maxHeartbeats 4000000
set_option maxRecDepth 100000
open Go.RowKit Go.Shelf
theorem ZcG(n k:Nat):T4 n k <+: T4 n 0:=by
 unfold T4;rw[show n-0=n by omega,List.take_of_length_le (by simp:(List.finRange n).reverse.length<=n)];exact List.take_prefix _ _
theorem Zgl(F:Fence)(n:Nat)(h8:F.fn 140)(hro:F.round=none)(hn:1<=n)(l Bs n₀ cap:Nat)(Ms:Nat->Prop)(a:Option Addr)(xs:List YK)(L B:Nat)(hreach:xs.length<=1000000)(hM:∀k,L<=k->k<B->¬Ms k)(hMs:¬Ms Bs)(J Jx:List (Fin xs.length)->World->Prop)
 (hY:∀(pre:List (Fin xs.length))(x:Fin xs.length)(W:World),J pre W->pre.length<xs.length->YieldAt F (n-1) Tryz.prog l #[.int .i64 ((x:Nat):Int),ZdU xs[x]] W fun e W' =>
  (e=.returned (.bool true)/\J (pre++[x]) W'/\Zy n₀ Ms W W')\/(e=.returned (.bool false)/\Jx (pre++[x]) W'))
 (W:World) (hBs:W.cell? ⟨Bs,0,none⟩=some (.slice a xs.length cap)) (hc:Hid (XL W L B a xs)) (h0:J [] W) :
 CallsIn F n Tryz.prog 140 #[.func (.yield l) #[] #[],.pointer (some ⟨Bs,0,none⟩)] W fun e W'=>(∃v,e=.returned v) /\
  ((∃ys,ys=T4 xs.length 0/\J ys W')\/(∃pre,(∃q,pre=T4 xs.length q)/\Jx pre W')):=by
 refine callsIn_of_wp Tryz.func140 rfl h8 ?_ hro;simp only[Tryz.ntmps140,List.size_toArray,List.length_cons,List.length_nil,Nat.reduceAdd,Nat.reduceSub,Array.replicate_succ,Array.replicate_zero,List.push_toArray,List.append_toArray,List.nil_append,List.cons_append]
 gi_wp2
 gi_loopw [3] (fun i wr=>∃(k:Nat)(z:Int),k<=xs.length/\i=.int .i64 z/\z+1=(k:Int)/\J (T4 xs.length k) wr/\Zy n₀ Ms W wr)
  (fun i _=>(intOf i+1).toNat)
 case atStart=>exact⟨xs.length,_,Nat.le_refl _,rfl,oM,by rw[TJ];exact h0,Zy.refl _⟩
 case round =>
  obtain⟨k,z,hk,rfl,hzk,hJs,hnx⟩:=hrel;have hBs':=hnx.cell hBs hMs;cases k with
  | zero =>
   have hz1:z=-1:=oM;subst hz1
   gi_wp2
   go_end0
   exact⟨⟨_,rfl⟩,.inl ⟨_,rfl,hJs⟩⟩
  | succ q =>
   have hz1:z=(q:Int):=oM;subst hz1;have hq:q<xs.length:=hk;obtain⟨b,o,ea,hbB,hcx⟩:=hc.out q hq;subst ea;have hMb:=hM b hbB.1 hbB.2;obtain⟨q0,q1,q2,q3,q4⟩:=hcx;have r0:=hnx.cell q0 hMb;have r1:=hnx.cell q1 hMb;have r2:=hnx.cell q2 hMb;have r3:=hnx.cell q3 hMb;have r4:=hnx.cell q4 hMb;clear q0 q1 q2 q3 q4;obtain⟨fn,tmps,assign,body,hy,hR⟩:=hY _ ⟨q,hq⟩ wr hJs (by rw[Zdn];omega);have hyy:(Instr.yield l #[.int .i64 ((q:Nat):Int),.agg #[.int .i64 xs[q].op,.int .i64 xs[q].dst,.int .i64 xs[q].a,.int .i64 xs[q].b,.int .i64 xs[q].imm]]).run Tryz.prog wr=_:=hy;clear hy
   gi_wp2
   refine hR.mono ?_;rintro e W3 (⟨rfl,hJ3,hk3⟩ | ⟨rfl,hJx3⟩)
   ·gi_wp2
    go_roundw
    case rel=>exact⟨q,_,oM,rfl,oM,by rw[Tf hq];exact hJ3,hnx.trans hk3⟩
    case measure=>simp[intOf]
   ·gi_wp2
    refine bodyPost_ret (results_none rfl _ _ _) rfl ?_;exact⟨⟨_,rfl⟩,.inr ⟨_,⟨q,(Tf hq).symm⟩,hJx3⟩⟩
theorem T3(F:Fence)(n:Nat)(h8:F.fn 140)(hro:F.round=none)(hn:1<=n)(Bs n₀ cap:Nat)(Ms:Nat->Prop)(a:Option Addr)(xs:List YK)(L B:Nat)(hreach:xs.length<=1000000)(hB:B<=n₀)(hM:∀k,L<=k->k<B->¬Ms k)(hMs:¬Ms Bs)(w:World)(hn0:n₀<=w.heap.size)(hBs:Bs<w.heap.size)
 (hc:w.cell? ⟨Bs,0,none⟩=some (.slice a xs.length cap)) (hI:Hid (XL w L B a xs)) :
 SeqStopsK F n Tryz.prog 140 #[.pointer (some ⟨Bs,0,none⟩)] (fun x:Fin xs.length=>#[Value.int .i64 ((x:Nat):Int),ZdU xs[x]]) (Zy n₀ Ms) (fun ys=>ys=T4 xs.length 0) (fun pre=>∃q,pre=T4 xs.length q) xs.length w:=fun l J Jx W hW _ _ hY h0 =>
 Zgl F n h8 hro hn l Bs n₀ cap Ms a xs L B hreach hM hMs J Jx hY W ((hW.cell (p:=⟨Bs,0,none⟩) hBs).trans hc) (Xa (hI.keepS (fun k _ h2=>hW.block k oM))) h0
section
attribute [local go_sem] Oper.semAt_some
theorem TS(n₀ Bx L B:Nat)(Ms:Nat->Prop)(Pd:Nat × List Int × List Int->Prop)(x:Xi)(w:World)(hS:Hid (Tv x L B Bx n₀ w.heap.size w))(hM:Hid (∀k,L<=k->k<B->¬Ms k))(hMx:Hid (¬Ms Bx))(hMn:Hid (∀k,w.heap.size<=k->¬Ms k))(hM1:Hid (¬Ms 0))(hM2:Hid (¬Ms 2))(hops:Hid (∀y∈x.instrs,1<=y.op/\y.op<=13))(htk:1<=x.term.kind/\x.term.kind<=3)(hln:x.instrs.length<=4000)(hlp:x.phis.length<=4000)(hPd:Hid (∀q∈plL x,Pd q)) :
 Zdz Fence.wide 7 Tryz.prog 124 #[.pointer (some ⟨Bx,0,none⟩)] (fun _=>ZcS) (fun _=>Zf4 w.heap.size Pd) (Zy n₀ Ms) (fun xs=>xs.map Pl.dat=plL x) (fun xs=>xs.map Pl.dat <+: plL x) (x.instrs.length+2) False False w:=by
 intro l J0 Jx W hW hl hJ hJx _ _ hY h0;have HY:=Xa (fun pre x V=>hY W.heap.size pre x V (Nat.le_refl _));have HJ:=Xa (hJ W.heap.size);have H0:=Xa (fun V=>h0 W.heap.size V (Nat.le_refl _));have HE:Hid (∀xs V,xs.map Pl.dat=plL x->J0 W.heap.size xs V->(∃z xs,W.heap.size<=z/\xs.map Pl.dat=plL x/\J0 z xs V)\/∃pre,pre.map Pl.dat <+: plL x/\Jx pre V):=Xa (fun xs V h1 h2=>.inl ⟨_,xs,Nat.le_refl _,h1,h2⟩);have HJX:=Xa hJx;clear hY hJ h0 hJx;generalize J0 W.heap.size=J at HY HJ H0 HE;have hzW:=hW.size;have HSW:=Xa (hS.below hW (Nat.le_refl _));refine callsIn_of_wp_marks Tryz.func124 rfl trivial ?_ rfl;simp only[Tryz.ntmps124,List.size_toArray,List.length_cons,List.length_nil,Nat.reduceAdd,Nat.reduceSub,Array.replicate_succ,Array.replicate_zero,List.push_toArray,List.append_toArray,List.nil_append,List.cons_append]
 gi_wp2
 have HBa:Hid (Below W.heap.size W (W.alloc (.cells #[.func (.yield l) #[] #[]] 196))):=Xa (Xb (Below.refl _ _) _);have hya:(W.alloc (.cells #[.func (.yield l) #[] #[]] 196)).cell? ⟨W.heap.size,0,none⟩=some (.func (.yield l) #[] #[]):=by simp[go_sem]
 have hza:(W.alloc (.cells #[.func (.yield l) #[] #[]] 196)).heap.size=W.heap.size+1:=sP;generalize W.alloc (.cells #[.func (.yield l) #[] #[]] 196)=wa at *;have HSa:=Xa (HSW.below HBa.out hzW);obtain⟨pa,pc,ia,ic,e0,e1,t0,hph,hin⟩:=HSa.blk;simp only[Nat.zero_add]at e1 t0;clear e0 hph hin;obtain⟨k,hk⟩:=Int.eq_ofNat_of_zero_le (show 0<=x.term.kind by omega);have hk1:1<=k:=oM;have hk3:k<=3:=oM;have HT:Hid (Z0 wa Bx 2 ⟨(k:Int),x.term.a,x.term.to,x.term.els⟩):=Xa (by rw[<-hk];exact t0);have HRD:=Xa (Zg2 Bx 2 k x.term.a x.term.to x.term.els wa.drew (Xa HT.out) hk1 hk3 (Xa HSa.ter));have hrt:rdT ⟨(k:Int),x.term.a,x.term.to,x.term.els⟩=rdT x.term:=by unfold rdT;simp only;rw[<-hk]
 rw[hrt]at HRD;have HLR:Hid ((rdT x.term).length<=1):=Xa (by unfold rdT;split<;>simp);clear hrt t0;obtain⟨us,hus⟩:∃us,us=rdT x.term:=⟨_,rfl⟩;rw[<-hus]at HRD HLR;have HUS:=Xa hus;clear hus;have hwl:IntKind.i64.wrap ((x.instrs.length:Int)+1)=(x.instrs.length:Int)+1:=by rw[IntKind.wrap_i64];omega
 refine TP (fun w'=>w'.cell? ⟨W.heap.size,0,none⟩=some (.func (.yield l) #[] #[])/\w'.cell? ⟨Bx,1,none⟩=some (.slice ia x.instrs.length ic)) (fun hHeld=>?_);refine Yh 0 ?_;refine Yh 1 ?_;refine Yh 2 ?_;refine Yh 3 ?_;refine Yh 4 ?_;refine Yh 5 ?_;refine Z8 6 (fun K hK=>?_);go_simp;refine⟨trivial,(callsIn_wide.2 HRD.out).mono ?_⟩;rintro e w5 ⟨v5,rfl,hb5,ho5⟩;obtain⟨a5,c5,rfl,hi5⟩:=Xj ho5;have hb5':Below wa.heap.size wa w5:=⟨hb5.os,hb5.tape,hb5.output,hb5.size,hb5.block⟩;have HB5:=Xa hb5';have y5:=(XD hb5' oM).trans hya;have i5:=(hb5'.cell (p:=⟨Bx,1,none⟩) (by have:=hS.lt;show Bx<_;omega)).trans e1;have HI5:Hid (Xg w5 wa.heap.size w5.heap.size a5 us):=Xa hi5;have HVN:=Xa (Zo a5 us.length c5 us wa.heap.size w5.heap.size w5 HI5 (Xa rfl) (by have:=HLR.out;omega) (Nat.le_refl _));clear hb5 ho5 hi5 HRD hb5';refine hK _ _ ⟨y5,i5⟩ (fun hHeld=>?_);clear hK;refine Z8 7 (fun K hK=>?_);go_simp;refine⟨trivial,(callsIn_wide.2 HVN.out).mono ?_⟩;rintro e w6 ⟨a6,c6,rfl,hb6,hi6⟩;have HB6:=Xa (Xe HB5.out hb6);have y6:=(XD HB6.out oM).trans hya;have i6:=(HB6.cell (p:=⟨Bx,1,none⟩) (by have:=hS.lt;show Bx<_;omega)).trans e1;have HI6:=Xa hi6;have hz6:=HB6.size;have hz65:=hb6.size;have hz5:=HB5.size;clear hb6 hi6 HVN y5 i5;refine hK _ _ ⟨y6,i6⟩ (fun hHeld=>?_);clear hK;refine Yh 8 ?_;have HS6:=Xa (HSa.below HB6.out oM);have HJ6:Hid (J [] w6):=Xa (H0.out w6 oM (Xe HBa.out HB6.out));obtain⟨fn,tmps,asg,bo,hy,hR⟩:=HY.out [] ⟨x.instrs.length+1,a6,c6,us,none,0,[]⟩ w6 HJ6.out ⟨hPd.out _ (by show((x.instrs.length+1:Nat),us,([]:List Int))∈plL x;rw[HUS.out];exact List.mem_cons_self),HI6.mono oM (Nat.le_refl _),fun i hi=>absurd hi sP⟩ sP;have hy':(Instr.yield l #[.int .i64 ((x.instrs.length:Int)+1),.agg #[.slice a6 us.length c6,.slice none 0 0]]).run Tryz.prog w6=_:=hy;clear hy;refine Z8 9 (fun K hK=>?_);go_simp;refine hR.mono ?_;rintro e W3 (⟨rfl,hJ3,hk3',hf3⟩ | ⟨rfl,hJ3,hk3',hf3⟩);rotate_left
 ·have HJ3:=Xa hJ3
  have y3:=hk3'.cell y6 (hMn.out _ hzW);have i3:=hk3'.cell i6 hMx.out;clear hJ3 hk3' hf3 hy' hR;refine hK _ _ ⟨y3,i3⟩ (fun hHeld=>?_);clear hK hHeld;have hHeld:(fun w':World=>w'.cell? ⟨W.heap.size,0,none⟩=some (.func (.yield l) #[] #[])/\w'.cell? ⟨Bx,1,none⟩=some (.slice ia x.instrs.length ic)) W3:=⟨y3,i3⟩;refine Yh 10 ?_;refine KN ?_;clear hHeld y6 i6 hya e1
  gi_wp2
  exact⟨.tuple #[],results_none rfl _ _ _,⟨_,rfl⟩,.inr ⟨_,by show[((x.instrs.length+1:Nat),us,([]:List Int))] <+: plL x;rw[HUS.out];exact⟨_,rfl⟩,HJ3.out⟩⟩
 have HJ3:=Xa hJ3;have HK3:=Xa hk3';have HF3:=Xa hf3;have HS3:=Xa (HS6.kp hk3' hM.out hMx.out hM1.out hM2.out);have y3:=hk3'.cell y6 (hMn.out _ hzW);have i3:=hk3'.cell i6 hMx.out;have hz3:=hk3'.size;clear hJ3 hk3' hf3 hy' hR;refine hK _ _ ⟨y3,i3⟩ (fun hHeld=>?_);clear hK hHeld
 try simp only[Act.put,xA,xB,xC,xD,xE,xF]
 have hHeld:(fun w':World=>w'.cell? ⟨W.heap.size,0,none⟩=some (.func (.yield l) #[] #[])/\w'.cell? ⟨Bx,1,none⟩=some (.slice ia x.instrs.length ic)) W3:=⟨y3,i3⟩;refine Yh 10 ?_;refine KN ?_;clear hHeld y6 i6 hya e1
 gi_wp2
 refine⟨trivial,(Wr Fence.wide 6 trivial rfl ia x.instrs.length ic W3).mono ?_⟩;rintro e w4 ⟨rfl,hw4⟩;have hb4:Below W3.heap.size W3 w4:=by rw[hw4];exact Xb (Below.refl _ _) _
 have hz4:w4.heap.size=W3.heap.size+1:=by rw[hw4];simp
 have hs4:w4.cell? ⟨W3.heap.size,0,none⟩=some (.slice ia x.instrs.length ic):=by rw[hw4];simp[go_sem]
 have HS4:=Xa (HS3.below hb4 oM);have HJ4:=Xa (Yk HJ.out HJ3.out hb4);have y4:=(XD hb4 oM).trans y3;have HB34:=Xa hb4;have I3:=Xa i3;clear hw4 hb4 y3 i3;have HS4C:=Xa hs4;have HZ4:=Xa hz4;have hz4':W.heap.size<w4.heap.size:=oM;have HW34:Hid (W3.heap.size<w4.heap.size):=Xa oM;have HBW:Hid (w.heap.size<=w4.heap.size):=Xa oM;have HY4:=Xa y4;clear hs4 hz4 y4
 gi_wp2
 have hMS:¬Ms W3.heap.size:=hMn.out _ oM;refine wpIn_rangeFunc_ownH (F:=Fence.wide) (n:=7) rfl vZ (gf:=140) (lb:=#[.pointer (some ⟨W3.heap.size,0,none⟩)]) rfl trivial (enters_of Tryz.func140 kR rfl) (T3 Fence.wide 6 trivial rfl vZ W3.heap.size n₀ ic Ms ia x.instrs L B oM hS.le hM.out hMS w4 (Nat.le_trans hS.nn HBW.out) HW34.out HS4C.out (Xa ?inss)) (fun h k=>h.trans k) (fun V l' o o' h1 h2 h3 _=>Zy.putObj V l' o o' (Nat.le_trans hS.nn (Nat.le_trans HBW.out h1)) h2 h3) (Below.refl _ _) (fun _=>rfl)
  (fun pre V=>∃ps:List Pl,ps.map Pl.dat=(x.instrs.length+1,us,[])::pre.map (Vw x)/\J ps V/\Tv x L B Bx n₀ w.heap.size V/\V.cell? ⟨W.heap.size,0,none⟩=some (.func (.yield l) #[] #[])/\w4.heap.size<=V.heap.size)
  (fun c pre V=>c=.ret/\∃ps:List Pl,ps.map Pl.dat=(x.instrs.length+1,us,[])::pre.map (Vw x)/\Jx ps V)
  ?ownI ?ownX ?start
  (fun j a' V=>∃bi,a'=⟨#[.func (.yield l) #[] #[],.pointer (some ⟨Bx,0,none⟩),.pointer (some ⟨W.heap.size,0,none⟩),.int .i64 ((j:Nat):Int),.pointer (some ⟨bi,0,none⟩),undef,undef,undef,.func (.yield l) #[] #[],.pointer (some ⟨Bx,1,none⟩),.slice ia x.instrs.length ic,.int .i64 (x.instrs.length:Int),.int .i64 ((x.instrs.length:Int)+1),.pointer (some ⟨Bx,2,none⟩),.slice a5 us.length c5,.slice a6 us.length c6,.agg #[.slice a6 us.length c6,.slice none 0 0],.bool true,.bool false,.pointer (some ⟨Bx,1,none⟩),.slice ia x.instrs.length ic,.func (.func 140) #[] #[.pointer (some ⟨W3.heap.size,0,none⟩)],.int .i64 ((j:Nat):Int),ZdU x.instrs[j],undef,undef,undef,undef,undef,undef,undef,undef,undef,undef,undef,undef,undef,undef,undef,undef,undef,undef,undef,undef,undef,undef,undef,undef,undef,undef,undef,undef,undef],[]⟩/\w4.heap.size<=bi/\Y5 V bi 0 x.instrs[j]) ?ownA ?assign ?body ?done ?stop
 case inss =>
  obtain⟨pa',pc',ia',ic',_,f1,_,_,f4⟩:=HS4.blk;simp only[Nat.zero_add]at f1;have hia:ia'=ia:=by
   have h3:=(HB34.cell (p:=⟨Bx,1,none⟩) (by show Bx<_;have:=hS.lt;omega)).trans I3.out;rw[f1]at h3;injection h3 with h3;injection h3
  rw[<-hia];exact f4
 case ownI =>
  rintro pre A V row ⟨ps,p1,p2,p3,p4,p5⟩ k q;have hblk:∀i,i<w4.heap.size->V.heap[i]?=A.heap[i]?:=fun i hi=>k.block i oM (fun e=>by have:=(q i e.symm).1;omega)
  refine⟨ps,p1,HJ.out ps A V row p2 k (fun r e=>⟨by have:=(q r e).1;omega,(q r e).2⟩),p3.same (fun i hi=>hblk i (Nat.lt_of_lt_of_le hi HBW.out)) k.size,?_,Nat.le_trans p5 k.size⟩;exact(Xc (hblk _ hz4')).trans p4
 case ownX =>
  rintro c pre A V row ⟨rfl,ps,p0,p1⟩ k q;exact⟨rfl,ps,p0,HJX.out ps A V row p1 k (fun r e=>⟨by have:=(q r e).1;omega,(q r e).2⟩)⟩
 case start=>exact⟨[⟨x.instrs.length+1,a6,c6,us,none,0,[]⟩],rfl,HJ4.out,HS4.out,HY4.out,Nat.le_refl _⟩
 case ownA =>
  rintro j a' _ A V row ⟨bi,e,hbi,hins⟩ k q;have hbl:V.heap[bi]?=A.heap[bi]?:=by
   obtain⟨o,h1,h2⟩:=YM hins.1;refine k.block bi (Array.getElem?_eq_some_iff.1 h1).1 (fun e=>?_);obtain⟨_,o2,h3,h4⟩:=q bi e.symm;rw[show A.heap[bi]?=some o from h1]at h3;injection h3 with h3;subst h3;rw[h2]at h4;cases h4
  have hc:=fun o=>Xc (o:=o) hbl
  exact⟨bi,e,hbi,(hc _).trans hins.1,(hc _).trans hins.2.1,(hc _).trans hins.2.2.1,(hc _).trans hins.2.2.2.1,(hc _).trans hins.2.2.2.2⟩
 case assign =>
  intro l' pre j V K hI hK;have HI:=Xa hI;have HKK:=Xa hK;clear hI hK;unfold ZdU
  gi_wp2
  have hbA:Below V.heap.size V (V.alloc (.cells #[.int .i64 x.instrs[j].op,.int .i64 x.instrs[j].dst,.int .i64 x.instrs[j].a,.int .i64 x.instrs[j].b,.int .i64 x.instrs[j].imm] 67)):=Xb (Below.refl _ _) _;obtain⟨ps,p1,p2,p3,p4,p5⟩:=HI.out;refine HKK.out _ _ ⟨hbA.size,fun k o _ h1 _=>(hbA.block k (Array.getElem?_eq_some_iff.1 h1).1).trans h1⟩ (Zy.of_below hbA (by have:=HBW.out;have:=hS.nn;omega)) ⟨ps,p1,Yk HJ.out p2 hbA,p3.below hbA (by have:=HBW.out;omega),(hbA.cell (p:=⟨W.heap.size,0,none⟩) (by show W.heap.size<_;omega)).trans p4,Nat.le_trans p5 hbA.size⟩ ⟨V.heap.size,rfl,p5,?_⟩;exact⟨by simp[go_sem],by simp[go_sem],by simp[go_sem],by simp[go_sem],by simp[go_sem]⟩
 case body =>
  rintro l' pre j a' V hl' _ ⟨ps,p1,p2,p3,p4,p5⟩ ⟨bi,rfl,hbi,hins⟩ hlen;have HP1:=Xa p1;have HP2:=Xa p2;have HP3:=Xa p3;have hop:=hops.out x.instrs[j] (List.getElem_mem _);obtain⟨kk,hkk⟩:=Int.eq_ofNat_of_zero_le (show 0<=x.instrs[j].op by omega);have hk1':1<=kk:=oM;have hk13:kk<=13:=oM;have hbil:bi<V.heap.size:=World.block_lt_of_cell? V _ hins.1;have HIN:Hid (Y5 V bi 0 ⟨(kk:Int),x.instrs[j].dst,x.instrs[j].a,x.instrs[j].b,x.instrs[j].imm⟩):=Xa (by rw[<-hkk];exact hins);have hri:rdI ⟨(kk:Int),x.instrs[j].dst,x.instrs[j].a,x.instrs[j].b,x.instrs[j].imm⟩=rdI x.instrs[j]:=by rw[<-hkk]
  have hwi:writesI ⟨(kk:Int),x.instrs[j].dst,x.instrs[j].a,x.instrs[j].b,x.instrs[j].imm⟩=writesI x.instrs[j]:=by rw[<-hkk]
  have HRD:=Xa (ZgQ bi kk x.instrs[j].dst x.instrs[j].a x.instrs[j].b x.instrs[j].imm V.drew (Xa HIN.out) hk1' hk13 (Xa HP3.op));have HWR:Hid (∀V',Below V.heap.size V V'->_):=Xa (fun V' (hV:Below V.heap.size V V')=>Ve bi kk x.instrs[j].dst x.instrs[j].a x.instrs[j].b x.instrs[j].imm V' (Xa (by
   have hc:=fun o=>hV.cell (p:=⟨bi,o,none⟩) hbil
   exact⟨(hc _).trans HIN.1,(hc _).trans HIN.2.1,(hc _).trans HIN.2.2.1,(hc _).trans HIN.2.2.2.1,(hc _).trans HIN.2.2.2.2⟩)) hk1' hk13 (Xa (HP3.below hV (by have:=HBW.out;omega)).op))
  rw[hri]at HRD;simp only[hwi]at HWR;obtain⟨ui,hui⟩:∃u,u=rdI x.instrs[j]:=⟨_,rfl⟩;obtain⟨di,hdi⟩:∃u,u=writesI x.instrs[j]:=⟨_,rfl⟩;rw[<-hui]at HRD;simp only[<-hdi]at HWR;have HUI:=Xa hui;have HDI:=Xa hdi;have hul:ui.length<=2:=by rw[hui];exact Zat _
  have hdl:di.length<=1:=by rw[hdi];unfold writesI;split<;>simp
  clear hui hdi hri hwi hins p1 p2 p3 hkk hop;have HPL:Hid (ps.length<x.instrs.length+1):=Xa (by
   have h:=congrArg List.length HP1.out;simp at h;omega)
  have hwj:IntKind.i64.wrap (((j:Nat):Int)+1)=((j:Nat):Int)+1:=by have:=j.isLt;rw[IntKind.wrap_i64];omega
  gi_wp2
  refine TP (fun w'=>w'.cell? ⟨W.heap.size,0,none⟩=some (.func (.yield l) #[] #[])) (fun hHeld=>?_);refine Yh 0 ?_;refine Yh 1 ?_;refine Yh 2 ?_;refine Z8 3 (fun K hK=>?_);go_simp;refine⟨trivial,(CallsIn.inRound l' (callsIn_wide.2 HRD.out)).mono ?_⟩;rintro e V1 ⟨v1,rfl,hb1,ho1⟩;obtain⟨a1,c1,rfl,hi1⟩:=Xj ho1;have HB1:Hid (Below V.heap.size V V1):=Xa ⟨hb1.os,hb1.tape,hb1.output,hb1.size,hb1.block⟩;have HI1:Hid (Xg V1 V.heap.size V1.heap.size a1 ui):=Xa hi1;have y1:=(XD HB1.out oM).trans p4;have HVN:=Xa (Zo a1 ui.length c1 ui V.heap.size V1.heap.size V1 HI1 (Xa rfl) oM (Nat.le_refl _));clear hb1 ho1 hi1 HRD;refine hK _ _ y1 (fun hHeld=>?_);clear hK;refine Z8 4 (fun K hK=>?_);go_simp;refine⟨trivial,(CallsIn.inRound l' (callsIn_wide.2 HVN.out)).mono ?_⟩;rintro e V2 ⟨a2,c2,rfl,hb2,hi2⟩;have HB2:=Xa (Xe HB1.out hb2);have HI2:Hid (Xg V2 V.heap.size V2.heap.size a2 ui):=Xa (hi2.mono HB1.size (Nat.le_refl _));have y2:=(XD HB2.out oM).trans p4;have HW2:=Xa (HWR.out V2 HB2.out);clear hb2 hi2 HVN HWR y1 HI1 HB1;refine hK _ _ y2 (fun hHeld=>?_);clear hK;refine Z8 5 (fun K hK=>?_);go_simp;refine⟨trivial,(CallsIn.inRound l' (callsIn_wide.2 HW2.out)).mono ?_⟩;rintro e V3 ⟨v3,rfl,hb3,ho3⟩;obtain⟨a3,c3,rfl,hi3⟩:=Xj ho3;have HI23:Hid (Xg V3 V.heap.size V3.heap.size a2 ui):=Xa ((HI2.keep hb3).mono (Nat.le_refl _) hb3.size);have HB3:=Xa (Xe HB2.out hb3);have HI3:Hid (Xg V3 V2.heap.size V3.heap.size a3 di):=Xa hi3;have y3:=(XD HB3.out oM).trans p4;have HVN:=Xa (Zo a3 di.length c3 di V2.heap.size V3.heap.size V3 HI3 (Xa rfl) oM (Nat.le_refl _));clear hb3 ho3 hi3 HW2 y2 HB2 HI2 HI3;refine hK _ _ y3 (fun hHeld=>?_);clear hK;refine Z8 6 (fun K hK=>?_);go_simp;refine⟨trivial,(CallsIn.inRound l' (callsIn_wide.2 HVN.out)).mono ?_⟩;rintro e V4 ⟨a4,c4,rfl,hb4,hi4⟩;have HI24:Hid (Xg V4 V.heap.size V4.heap.size a2 ui):=Xa ((HI23.keep hb4).mono (Nat.le_refl _) hb4.size);have HB4:=Xa (Xe HB3.out hb4);have HI4:Hid (Xg V4 V.heap.size V4.heap.size a4 di):=Xa (hi4.mono HB3.size (Nat.le_refl _));have y4:=(XD HB4.out oM).trans p4;clear hb4 hi4 HVN y3 HB3 HI23;refine hK _ _ y4 (fun hHeld=>?_);clear hK;refine Yh 7 ?_;have hVz:w.heap.size<=V.heap.size:=by have:=HBW.out;omega
  have HS5:=Xa (HP3.below HB4.out hVz);obtain⟨fn,tmps,asg,bo,hy,hR⟩:=U2 (l':=l') (m':=4) (HY.out ps ⟨(j:Nat)+1,a2,c2,ui,a4,c4,di⟩ V4 (Yk HJ.out HP2.out HB4.out) ⟨hPd.out _ (by have h:=Zdh x j;unfold Vw at h;rw[<-HUI.out,<-HDI.out]at h;exact h),HI24.mono hVz (Nat.le_refl _),HI4.mono hVz (Nat.le_refl _)⟩ (by have:=HPL.out;omega));have hy':(Instr.yield l #[.int .i64 (((j:Nat):Int)+1),.agg #[.slice a2 ui.length c2,.slice a4 di.length c4]]).run Tryz.prog V4=_:=hy;clear hy;refine Z8 8 (fun K hK=>?_);go_simp;refine hR.mono ?_;rintro e V5 (⟨rfl,hJ5,hk5,hf5⟩ | ⟨rfl,hJ5,hk5,hf5⟩);rotate_left
  ·have y5:=hk5.cell y4 (hMn.out _ hzW)
   have HJ5:=Xa hJ5;have HK5:=Xa hk5;have HF5:=Xa hf5;clear hJ5 hk5 hf5 hy' hR;refine hK _ _ y5 (fun hHeld=>?_);clear hK;refine Yh 9 ?_;refine KN ?_
   gi_wp2
   have hkV:Zy n₀ Ms V V5:=(Zy.of_below HB4.out (Nat.le_trans hS.nn hVz)).trans HK5.out;refine⟨⟨hkV.size,fun k o h1 h2 h3=>HF5.same k o oM ((HB4.block k (Array.getElem?_eq_some_iff.1 h2).1).trans h2) h3⟩,rfl,ps++[⟨(j:Nat)+1,a2,c2,ui,a4,c4,di⟩],?_,HJ5.out⟩;rw[List.map_append,HP1.out,List.map_append];show _=(x.instrs.length+1,us,[])::(pre.map (Vw x)++[Vw x j]);rw[<-List.cons_append];congr 1;unfold Vw Pl.dat;simp only[List.map_cons,List.map_nil];rw[HUI.out,HDI.out]
  have y5:=hk5.cell y4 (hMn.out _ hzW);have HJ5:=Xa hJ5;have HK5:=Xa hk5;have HF5:=Xa hf5;clear hJ5 hk5 hf5 hy' hR;refine hK _ _ y5 (fun hHeld=>?_);clear hK
  try simp only[Act.put,xA,xB,xC,xD,xE,xF]
  refine Yh 9 ?_;refine KN ?_
  gi_wp2
  have hkV:Zy n₀ Ms V V5:=(Zy.of_below HB4.out (Nat.le_trans hS.nn hVz)).trans HK5.out;refine⟨⟨hkV.size,fun k o h1 h2 h3=>HF5.same k o oM ((HB4.block k (Array.getElem?_eq_some_iff.1 h2).1).trans h2) h3⟩,hkV,ps++[⟨(j:Nat)+1,a2,c2,ui,a4,c4,di⟩],?_,HJ5.out,HS5.kp HK5.out hM.out hMx.out hM1.out hM2.out,y5,Nat.le_trans p5 hkV.size⟩;rw[List.map_append,HP1.out,List.map_append];show _=(x.instrs.length+1,us,[])::(pre.map (Vw x)++[Vw x j]);rw[<-List.cons_append];congr 1;unfold Vw Pl.dat;simp only[List.map_cons,List.map_nil];rw[HUI.out,HDI.out]
 case done =>
  rintro D ys V hD rfl ⟨ps,p1,p2,p3,p4,p5⟩ hKD;have HP1:=Xa p1;have HP2:=Xa p2;have HP3:=Xa p3;have HKD:=Xa hKD;have HP4:=Xa p4;obtain⟨pa',pc',ia',ic',f0,f1,_,f3,_⟩:=p3.blk;have HPH:=Xa f3;have hBxV:Bx<V.heap.size:=World.block_lt_of_cell? V _ f0;have f0a:=fun o=>(World.cell?_alloc_lt V o ⟨Bx,0,none⟩ hBxV).trans f0
  have hp4V:W.heap.size<V.heap.size:=oM;clear f1 f3 p1 p2 p3 hKD f0 p4;obtain⟨i0,hi0,hz0,hz1,hz2⟩:=info_parts Tryz.infoVn
  gi_wp2
  clear f0a
  gi_loopw [38] (fun i wr=>∃k:Nat,k<=x.phis.length/\i=.int .i64 k/\Hid (Below V.heap.size V wr)/\wr.cell? ⟨V.heap.size,0,none⟩=some (.slice none 0 0)/\wr.frozen? ⟨V.heap.size,1,none⟩=false/\∃u,wr.cell? ⟨V.heap.size,1,none⟩=some u/\Hid (wr.ownsRow (V.heap.size+1) 72 1 u k (((x.phis.map Ph.dst).take k).map (Value.int .i64)))) (fun i _=>x.phis.length-(intOf i).toNat)
  case atStart=>exact⟨0,Nat.zero_le _,rfl,Xa (Xb (Below.refl _ _) _),by simp[go_sem],by simp[go_sem],.slice none 0 0,by simp[go_sem],Xa (World.ownsRow_nil _ _ _ _)⟩
  case round =>
   obtain⟨k,hkn,rfl,HB,c0,z1,u,c1,HO⟩:=hrel;by_cases hlt:k<x.phis.length
   ·obtain⟨b,o,rfl,hbB,ap,cp,h1,h2,_⟩:=HPH.out k hlt
    have hbV:b<V.heap.size:=World.block_lt_of_cell? V _ h1;have g1:=(HB.cell (p:=⟨b,o+k*2,none⟩) hbV).trans h1;have g2:=(HB.cell (p:=⟨b,o+k*2+1,none⟩) hbV).trans h2;have HN:Hid ((x.phis.map Ph.dst).take (k+1)=(x.phis.map Ph.dst).take k++[x.phis[k].dst]):=Xa (by rw[Xr _ _ (by simpa using hlt)];simp);have hsz:V.heap.size<wr.heap.size:=World.block_lt_of_cell? wr _ c0;clear h1 h2;generalize x.phis[k]=ph at *;generalize (x.phis.map Ph.dst).take k=dk at *
    gi_wp2_with (gi_at_builtin;refine wpListIn_append_own _ rfl _ _ 159 rfl (V.heap.size+1) 72 i0 (.int .i64 0) 1 8 Tryz.underlying159 hi0 hz0 hz1 hz2 rfl vZ _ _ _ rfl ((HO.alloc _).alloc _) ⟨wr.heap.size+1,0,none⟩ 1 1 [.int .i64 ph.dst] rfl rfl ?c1 ?c2 ?c3 ?c4 ?c5 ?_)
    case c1 =>
     intro j u hj
     match j,hj with
     | 0,hj=>simp at hj;subst hj;simp[Addr.add,go_sem]
    case c2=>intro u hu;simp at hu;subst hu;rfl
    case c3=>unfold maxLen;omega
    case c4=>omega
    case c5=>simp;omega
    intro v1 w1 hown1 hgrow1 _;obtain⟨av,cv,hv,_⟩:=Xj (xs:=dk++[ph.dst]) (by rw[Ys];exact hown1);have HV:=Xa hv;have HO1:=Xa hown1;have HB1:=Xa (XI (Xb (Xb HB.out _) _) hgrow1 ((HO.alloc _).alloc _) oM (by have:=HB.size;simp;omega));have hbk:=Y9 hgrow1 ((HO.alloc _).alloc _) (b:=V.heap.size) oM (by simp;omega);have k0:w1.cell? ⟨V.heap.size,0,none⟩=some (.slice none 0 0):=(Xc hbk).trans (((Xb (Xb (Below.refl wr.heap.size wr) _) _).cell (p:=⟨V.heap.size,0,none⟩) hsz).trans c0);have k1:w1.cell? ⟨V.heap.size,1,none⟩=some u:=(Xc hbk).trans (((Xb (Xb (Below.refl wr.heap.size wr) _) _).cell (p:=⟨V.heap.size,1,none⟩) hsz).trans c1);have kz:w1.frozen? ⟨V.heap.size,1,none⟩=false:=by
     rw[World.frozen?_of_block (a:=⟨V.heap.size,1,none⟩) hbk];exact((Xb (Xb (Below.refl wr.heap.size wr) _) _).frozen (p:=⟨V.heap.size,1,none⟩) hsz).trans z1
    clear hown1 hgrow1 hbk c0 c1 z1;rw[hv];clear hv
    gi_wp2
    have hv2:=HV.out;rw[List.length_append,List.length_cons,List.length_nil,Nat.zero_add]at hv2;rw[<-hv2];clear hv2;refine⟨⟨k+1,oM,gM,Xa (HB1.setCell (Nat.le_refl _) _),?_,?_,v1,?_,Xa ?_⟩,by simp[intOf];omega⟩
    ·exact(World.cell?_setCell_other w1 ⟨V.heap.size,1,none⟩ ⟨V.heap.size,0,none⟩ v1 sP).trans k0
    ·exact(World.frozen?_setCell _ _ _ _).trans kz
    ·exact World.cell?_setCell_same' w1 _ v1 (by rw[k1];rfl)
    ·rw[HN.out,Ys]
     exact HO1.kept (row:=some V.heap.size) ⟨rfl,rfl,rfl,by simp[World.setCell],fun k _ hk=>Below.heap_setCell _ _ _ _ (fun e=>hk (by rw[e]))⟩ (Or.inr (fun e=>by have:=(HO1.lt _ e).1;omega))
   ·have hke:k=x.phis.length:=oM
    subst hke;have hown:=HO.out;rw[List.take_of_length_le sP]at hown;obtain⟨av,cv,rfl,hiv⟩:=Xj hown;have HIV:=Xa hiv;have hVz:w.heap.size<=V.heap.size:=by have:=HBW.out;omega
    have hdz:D<V.heap.size:=(Array.getElem?_eq_some_iff.1 HKD.out).1;have HDr:=Xa ((HB.block D hdz).trans HKD.out);have yr:=(HB.cell (p:=⟨W.heap.size,0,none⟩) hp4V).trans HP4.out;have HPL:Hid (ps.length=x.instrs.length+1):=Xa (by
     have h:=congrArg List.length HP1.out;simp[Zdn]at h;omega)
    clear hown hiv;obtain⟨fn,tmps,asg,bo,hy,hR⟩:=HY.out ps ⟨0,none,0,[],av,cv,x.phis.map Ph.dst⟩ wr (Yk HJ.out HP2.out HB.out) ⟨hPd.out _ (Zb4 x),fun i hi=>absurd hi sP,HIV.mono oM (Nat.le_refl _)⟩ (by have:=HPL.out;omega);have hy':(Instr.yield l #[.int .i64 0,.agg #[.slice none 0 0,.slice av (x.phis.map Ph.dst).length cv]]).run Tryz.prog wr=_:=hy;rw[List.length_map]at hy' c1;clear hy
    gi_wp2
    refine hR.mono ?_;rintro e V9 (⟨rfl,hJ9,hk9,hf9⟩ | ⟨rfl,hJ9,hk9,hf9⟩);rotate_left
    ·have HJ9:=Xa hJ9
     have HD9:=Xa (hf9.same D _ oM HDr.out rfl);clear hJ9 hk9 hf9 hy' hR
     gi_wp2
     refine Zj HD9.out ⟨.tuple #[],results_none rfl _ _ _,⟨_,rfl⟩,.inr ⟨ps++[⟨0,none,0,[],av,cv,x.phis.map Ph.dst⟩],?_,HJX.putObj _ HJ9.out oM HD9.out rfl⟩⟩;rw[List.map_append,HP1.out,HUS.out];exact List.prefix_refl _
    have HJ9:=Xa hJ9;have HD9:=Xa (hf9.same D _ oM HDr.out rfl);clear hJ9 hk9 hf9 hy' hR
    gi_wp2
    refine Zj HD9.out ⟨.tuple #[],results_none rfl _ _ _,⟨_,rfl⟩,HE.out (ps++[⟨0,none,0,[],av,cv,x.phis.map Ph.dst⟩]) _ ?_ (HJ.putObj _ HJ9.out oM HD9.out rfl)⟩;rw[List.map_append,HP1.out,HUS.out];rfl
 case stop =>
  rintro D c pre V hD ⟨q,hq⟩ ⟨rfl,ps,p0,p1⟩ hKD;have HP0:=Xa p0;have HQ:=Xa hq;clear p0 hq;have HP1:=Xa p1;have HKD:=Xa hKD;clear p1 hKD
  gi_wp2
  refine Zj HKD.out ⟨.tuple #[],results_none rfl _ _ _,⟨_,rfl⟩,.inr ⟨ps,?_,HJX.putObj _ HP1.out oM HKD.out rfl⟩⟩;rw[HP0.out,HUS.out,HQ.out];obtain⟨t,ht⟩:=ZcG x.instrs.length q;refine⟨t.map (Vw x)++[(0,[],x.phis.map Ph.dst)],?_⟩;unfold plL;rw[List.cons_append,<-List.append_assoc,<-List.map_append,ht]
end
theorem Zdz.seqN{α:Type}{F:Fence}{n:Nat}{P:Program}{g:Nat}{lb:Array Value}{encs:α->Array Value}{Px:α->World->Prop}{Kp:World->World->Prop}{S Sp:List α->Prop}{N:Nat}{w:World}(h:Zdz F n P g lb (fun _=>encs) (fun _=>Px) Kp S Sp N False False w):Zgw F n P g lb encs Px Kp S N w:=by
 intro l J W hW hl hJ hY h0;refine(h l (fun _=>J) (fun _ _=>False) W hW hl (fun _=>hJ) (fun _ _ _ _ h _ _=>h) (fun f=>f.elim) (fun f=>f.elim) (fun z pre x V _ hj hp hn=>(hY pre x V hj hp hn).mono (fun e V' h=>Or.inl h)) (fun z V _ _ hb=>hJ [] W V none h0 ⟨hb.os,hb.tape,hb.output,hb.size,fun i hi _=>hb.block i hi⟩ (fun r e=>by cases e))).mono ?_;rintro e V ⟨hv,⟨z,xs,_,hS,hj⟩ | ⟨pre,_,f⟩⟩
 ·exact⟨hv,xs,hS,hj⟩
 ·exact f.elim
theorem ZcK(Bx L B:Nat)(Ms:Nat->Prop)(Pd:Nat × List Int × List Int->Prop)(x:Xi)(w:World)(hS:Hid (Stc x L B Bx w.heap.size w))(hM:Hid (∀k,L<=k->k<B->¬Ms k))(hMx:Hid (¬Ms Bx))(hMn:Hid (∀k,w.heap.size<=k->¬Ms k))(hM1:Hid (¬Ms 0))(hM2:Hid (¬Ms 2))(hops:Hid (∀y∈x.instrs,1<=y.op/\y.op<=13))(htk:1<=x.term.kind/\x.term.kind<=3)(hln:x.instrs.length<=4000)(hlp:x.phis.length<=4000)(hPd:Hid (∀q∈plL x,Pd q)) :
 Zgw Fence.wide 7 Tryz.prog 124 #[.pointer (some ⟨Bx,0,none⟩)] ZcS (Zf4 w.heap.size Pd) (Zy w.heap.size Ms) (fun xs=>xs.map Pl.dat=plL x) (x.instrs.length+2) w :=
 Zdz.seqN (TS w.heap.size Bx L B Ms Pd x w (Xa ⟨hS.op,hS.ter,hS.blk,hS.lt,hS.le,hS.g1,hS.g2,Nat.le_refl _⟩) hM hMx hMn hM1 hM2 hops htk hln hlp hPd)
theorem Zcz(g K C:Nat)(W:Nat->Nat)(w:World)(hr:Hid (WsAt w g K C W))(hK:K<=1000) :
 Calls Tryz.prog 110 #[.slice (some ⟨g,0,none⟩) K C] w fun e w'=>∃g' C',e=.returned (.slice (some ⟨g',0,none⟩) K C')/\w.heap.size<=g'/\Below w.heap.size w w'/\WsAt w' g' K C' W:=by
 obtain⟨i0,hi0,hz0,hz1,hz2⟩:=info_parts Tryz.infoU64valueNo;have q22:∀(w:World)(a:Option Addr)(n c n' c':Nat),(binOp .eql 73 (.slice a n c) (.slice none n' c')).run Tryz.prog w=.ok (.bool a.isNone) w:=fun w a n c n' c'=>Lib.run_eql_slice_nil w _ _ a n c n' c' Tryz.underlying73
 have hg:=hr.lt;have HO0:Hid ((w.alloc (.cells #[] 133)).ownsRow w.heap.size 133 1 (.slice (some ⟨w.heap.size,0,none⟩) 0 0) 0 []):=Xa (World.ownsRow_lit (base:=w.heap.size) (e:=133) (size:=1) w #[] 0 sP sP rfl)
 go_enter Tryz.func110,Tryz.ntmps110
 go_wp2_with (at_builtin;refine wpList_append_own _ rfl _ _ 73 rfl w.heap.size 133 i0 (.int .u64 0) 1 8 Tryz.underlying73 hi0 hz0 hz1 hz2 rfl vZ _ _ _ rfl HO0.out ⟨g,0,none⟩ K C ((List.range K).map fun i=>Value.int .u64 (W i:Int)) rfl ?c0 ?c1 ?c2 ?c3 ?c4 ?c5 ?_)
 case c0=>simp
 case c1 =>
  intro j u hj;rw[List.getElem?_map]at hj;by_cases e:j<K
  ·rw[List.getElem?_range e]at hj
   simp at hj;subst hj;have:=(hr.alloc (.cells #[] 133)).cell e;have e2:(⟨g,0,none⟩:Addr).add j=⟨g,j,none⟩:=by rw[Addr.add_lit];simp
   rw[e2];exact this
  ·rw[List.getElem?_eq_none (by simp;omega)]at hj
   cases hj
 case c2 =>
  intro u hu;obtain⟨i,_,rfl⟩:=List.mem_map.1 hu;rfl
 case c3=>unfold maxLen;omega
 case c4=>omega
 case c5=>simp
 intro v1 w1 hown1 hgrow1 hnil;have hvn:v1≠.slice none 0 0:=by simpa using hnil
 have hb:=XI (Xb (Below.refl w.heap.size w) _) hgrow1 HO0.out (Nat.le_refl _) sP;have hown2:w1.ownsRow w.heap.size 133 1 v1 ((List.range K).map W).length (((List.range K).map W).map fun x:Nat=>Value.int .u64 (x:Int)):=by
  have e:(((List.range K).map W).map fun x:Nat=>Value.int .u64 (x:Int))=(List.range K).map fun i=>Value.int .u64 (W i:Int):=sP
  rw[e];simpa using hown1
 obtain⟨g',C',rfl,hg',hw'⟩:=WsAt.of_own hown2 hvn;have HB:=Xa hb;have HW:Hid (WsAt w1 g' K C' W):=Xa (by
  have e:((List.range K).map W).length=K:=sP;rw[e]at hw';exact hw'.congr (fun i hi=>by simp[hi]))
 have e:((List.range K).map W).length=K:=sP;rw[e];clear hb hown1 hown2 hgrow1 hnil hvn hw' e;go_wp2
 go_ret
 exact⟨_,_,rfl,hg',HB.out,HW.out⟩
theorem ZQ(g K C:Nat)(W:Nat->Nat)(w:World)(hr:Hid (WsAt w g K C W))(hK:K<=1000) :
 Calls Tryz.prog 61 #[.agg #[.slice (some ⟨g,0,none⟩) K C]] w fun e w'=>∃g' C',e=.returned (.agg #[.slice (some ⟨g',0,none⟩) K C'])/\w.heap.size<=g'/\Below w.heap.size w w'/\WsAt w' g' K C' W:=by
 go_enter Tryz.func61,Tryz.ntmps61
 go_wp2_with fail
 have HA:Hid (Below w.heap.size w ((w.alloc (.cells #[.slice (some ⟨g,0,none⟩) K C] 75)).alloc (.cells #[.slice none 0 0] 75))):=Xa (Xb (Xb (Below.refl _ _) _) _);have hzA:((w.alloc (.cells #[.slice (some ⟨g,0,none⟩) K C] 75)).alloc (.cells #[.slice none 0 0] 75)).heap.size=w.heap.size+2:=sP;have hrA:=(hr.alloc (.cells #[.slice (some ⟨g,0,none⟩) K C] 75)).alloc (.cells #[.slice none 0 0] 75);have hcA:((w.alloc (.cells #[.slice (some ⟨g,0,none⟩) K C] 75)).alloc (.cells #[.slice none 0 0] 75)).cell? ⟨w.heap.size+1,0,none⟩=some (.slice none 0 0):=by simp[go_sem]
 have hfA:((w.alloc (.cells #[.slice (some ⟨g,0,none⟩) K C] 75)).alloc (.cells #[.slice none 0 0] 75)).frozen? ⟨w.heap.size+1,0,none⟩=false:=by simp[go_sem]
 generalize (w.alloc (.cells #[.slice (some ⟨g,0,none⟩) K C] 75)).alloc (.cells #[.slice none 0 0] 75)=wa at *;refine(Zcz g K C W wa (Xa hrA) hK).mono ?_;rintro e w1 ⟨g1,C1,rfl,hg1,hb1,hw1⟩;have f1:=(XD hb1 oM).trans hcA;have f2:w1.frozen? ⟨w.heap.size+1,0,none⟩=false:=by rw[World.frozen?_of_block (w:=wa) (a:=⟨w.heap.size+1,0,none⟩) (hb1.block _ (by show w.heap.size+1<_;omega))];exact hfA
 have HB1:=Xa (Xe HA.out hb1);have HW1:=Xa hw1;clear hb1 hw1 hcA hfA
 go_wp2_with fail
 refine bodyPost_ret (v:=.agg #[.slice (some ⟨g1,0,none⟩) K C1]) (by simp[results,Tryz.results61,go_sem,f1]) rfl ?_;exact⟨_,_,rfl,oM,HB1.setCell (by show w.heap.size<=w.heap.size+1;omega) _,HW1.setOther (by show g1≠w.heap.size+1;omega) _⟩
theorem ZV(vl:Int)(a:Option Addr)(n c:Nat)(w:World)(hn:n<=1000) :
 Calls Tryz.prog 53 #[.agg #[.int .i64 vl,.slice a n c]] w fun e w'=>∃bS gS,e=.returned (.pointer (some ⟨bS,0,none⟩))/\w.heap.size<=bS/\w.heap.size<=gS/\Below w.heap.size w w'/\Yu w' bS gS w'.heap.size ((n+63) / 64) a n c (fun _=>0) (.slice none 0 0) []:=by
 have HNS:=Xa (fun W=>JU n W oM)
 go_enter Tryz.func53,Tryz.ntmps53
 go_wp2_with fail
 refine ZB (fun w'=>w'.cell? ⟨w.heap.size,1,none⟩=some (.slice a n c)) (fun hHeld=>?_);refine XE 0 ?_;refine XE 1 ?_;refine XE 2 ?_;refine XE 3 ?_;refine XE 4 ?_;refine Xz 5 (fun K hK=>?_);go_simp
 go_at_call 91
 refine(HNS.out _).mono ?_;rintro e w3 ⟨gS,rfl,hgS,hb3,hr3⟩;have hz3:w.heap.size+1<=w3.heap.size:=by have:=hb3.size;simp at this;omega
 have hc3:w3.cell? ⟨w.heap.size,1,none⟩=some (.slice a n c):=(hb3.cell (p:=⟨w.heap.size,1,none⟩) (by show w.heap.size<_;simp)).trans (by simp[go_sem]);have hgl:=hr3.lt;have HB3:Hid (Below w.heap.size w w3):=Xa (Xe (w1:=(w.alloc (.cells #[.int .i64 vl,.slice a n c] 32)).drew) (Xb (Below.refl _ _) _).drew hb3);have HR3:=Xa hr3;have hgb:w.heap.size<=gS:=by simp at hgS;omega
 clear hb3 hr3 hgS;refine hK _ _ hc3 (fun hHeld=>?_);clear hK;refine XE 6 ?_;refine Xz 7 (fun K hK=>?_);go_simp;refine hK _ _ ((World.cell?_alloc_lt _ _ _ (by show w.heap.size<_;omega)).trans hc3) (fun hHeld=>?_);clear hK;refine XE 8 ?_;refine Zu ?_
 go_wp2_with fail
 go_ret
 refine⟨w3.heap.size,gS,rfl,oM,hgb,Xb HB3.out _,⟨sP,sP,sP,fun q=>sP,HR3.alloc _,World.ownsRow_nil _ _ _ _,sP,by simp;omega,oM,Nat.le_refl _⟩⟩
end Go.Proofs.YthgikffcdgpgiaaGreatDoor
