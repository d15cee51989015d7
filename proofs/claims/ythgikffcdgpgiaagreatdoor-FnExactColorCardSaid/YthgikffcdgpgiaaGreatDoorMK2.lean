import Derived.Test.YthgikffcdgpgiaaGreatDoorMK0
import Derived.Test.YthgikffcdgpgiaaGreatDoorMT1
namespace Go.Proofs.YthgikffcdgpgiaaGreatDoor
set_option maxHeartbeats 4000000
set_option maxRecDepth 100000
open Go.RowKit
section
structure ClE(w4 wr:World)(g V cap:Nat)(C:Nat->Int):Prop where
 os:wr.os=w4.os
 tape:wr.tape=w4.tape
 output:wr.output=w4.output
 size:w4.heap.size<=wr.heap.size
 gl:g<w4.heap.size
 fr:∀q,q<w4.heap.size->q≠g->wr.heap[q]?=w4.heap[q]?
 ia:IaAt wr g V cap C
section
variable {w4 wr wr' : World} {g V cap : Nat} {C C' : Nat -> Int}
theorem ClE.far(h:ClE w4 wr g V cap C)(k:Below wr.heap.size wr wr'):ClE w4 wr' g V cap C :=
 ⟨k.os.trans h.os,k.tape.trans h.tape,k.output.trans h.output,Nat.le_trans h.size k.size,h.gl,fun q q1 q2=>(k.block q (Nat.lt_of_lt_of_le q1 h.size)).trans (h.fr q q1 q2),h.ia.of_block (k.block g (Nat.lt_of_lt_of_le h.gl h.size))⟩
theorem ClE.put(h:ClE w4 wr g V cap C){v:Nat}(hv:v<V)(x:Int):ClE w4 (wr.setCell ⟨g,v,none⟩ (.int .i64 x)) g V cap (fun u=>if u=v then x else C u) :=
 ⟨h.os,h.tape,h.output,by rw[Xd];exact h.size,h.gl,fun q q1 q2=>(Below.heap_setCell _ _ _ _ q2).trans (h.fr q q1 q2),h.ia.set v x hv⟩
theorem ClE.cell(h:ClE w4 wr g V cap C){b o:Nat}{v:Value}(hb:b≠g)(hc:w4.cell? ⟨b,o,none⟩=some v):wr.cell? ⟨b,o,none⟩=some v:=(Xc (h.fr b (World.block_lt_of_cell? w4 _ hc) hb)).trans hc
end
theorem Zbq{xs:List Xi}{V b:Nat}{x:Xi}{i d:Nat}(hi:i<x.phis.length)(hd:x.phis[i].dst=(d:Int)):T9 xs V b x (i+1)=T9 xs V b x i++[(d,ptP xs x V b 0)]:=by
 unfold T9;rw[List.take_add_one,List.getElem?_eq_getElem hi,List.map_append];simp[hd]
theorem Zao{xs:List Xi}{V b:Nat}{x:Xi}{i d:Nat}(hi:i<x.instrs.length)(hu:dB x.instrs[i].op=true)(hd:x.instrs[i].dst=(d:Int)):Kv xs V b x (i+1)=Kv xs V b x i++[(d,ptP xs x V b (i+1))]:=by
 rw[Kv,List.getElem?_eq_getElem hi];simp[writesI,hu,hd]
theorem ZeX{xs:List Xi}{V b:Nat}{x:Xi}{i:Nat}(hi:i<x.instrs.length)(hu:dB x.instrs[i].op=false):Kv xs V b x (i+1)=Kv xs V b x i:=by
 rw[Kv,List.getElem?_eq_getElem hi];simp[writesI,hu]
def trG(a b c:Value):Nat->Value
 | 0=>a
 | 1=>b
 | _=>c
theorem ZfU{V:Nat}:∀(ss:List (Nat × List Nat))(C:Nat->Int),(∀s∈ss,s.2.length<=V)->(∀u,-1<=C u/\C u<=(V:Int))->∀u,-1<=ZF C ss u/\ZF C ss u<=(V:Int)
 | [],_,_,h=>h
 | s::ss,C,hs,h=>by
  refine ZfU ss (ckS C s) (fun t ht=>hs t (List.mem_cons_of_mem _ ht)) (fun u=>?_);unfold ckS;by_cases e:u=s.1
  ·rw[if_pos e]
   have h1:=ZhX C s.2;have h2:=hs s List.mem_cons_self;omega
  ·rw[if_neg e]
   exact h u
theorem Zht(xs:List Xi)(x:Xi)(V b i:Nat):(ptP xs x V b i).length<=V:=by unfold ptP;exact Nat.le_trans (List.length_filter_le _ _) sP
theorem Zhg(xs:List Xi)(V b:Nat)(x:Xi):∀k,∀s∈Kv xs V b x k,s.2.length<=V
 | 0,s,h=>by cases h
 | k+1,s,h=>by
  rw[Kv]at h;rcases List.mem_append.1 h with h | h
  ·exact Zhg xs V b x k s h
  ·cases hk:x.instrs[k]? with
   | none=>rw[hk]at h;cases h
   | some y =>
    rw[hk]at h;obtain⟨v,_,rfl⟩:=List.mem_map.1 h;exact Zht _ _ _ _ _
theorem ZhF(xs:List Xi)(V:Nat)(od:List Nat):∀u,-1<=ZF (fun _=>-1) (ZE xs V od) u/\ZF (fun _=>-1) (ZE xs V od) u<=(V:Int):=by
 refine ZfU _ _ (fun s hs=>?_) (fun u=>oM);obtain⟨b,_,hs⟩:=List.mem_flatMap.1 hs;unfold skB at hs;cases hb:xs[b]? with
 | none=>rw[hb]at hs;cases hs
 | some x =>
  rw[hb]at hs;rcases List.mem_append.1 hs with hs | hs
  ·obtain⟨p,_,rfl⟩:=List.mem_map.1 hs
   exact Zht _ _ _ _ _
  ·exact Zhg xs V b x _ s hs
structure NeE(w1 wr:World)(u:Value)(k:Nat):Prop where
 low:Below w1.heap.size w1 wr
 ne:u≠.slice none 0 0
 own:wr.ownsRow w1.heap.size 2 1 u k ((List.replicate k (-1)).map (Value.int .i64))
theorem Tryz.infoI64c:(Tryz.prog.info? 2).map (fun i=>(i.zero,i.size,i.bytes))=some (some (.int .i64 0),1,8):=kR
theorem ZbV(V:Nat)(a:Option Addr)(n c:Nat)(xs:List Xi)(L B:Nat)(w:World)(ha:Hid (Xl w L B a xs))(hx:Hid (n=xs.length))(hs:Hid (xs.length+Xk xs<=1048576))(hB:B<=w.heap.size)(hv:Hid (verdP (V:Int) xs=0))(hvv:Hid (XQ ⟨(V:Int),xs⟩=true))(ho:Hid (ZZ V xs)) :
 Calls Tryz.prog 6 #[.agg #[.int .i64 (V:Int),.slice a n c]] w fun e w'=>∃P g cap,Y1 (Xx xs) n P/\e=.returned (.agg #[.int .i64 0,.slice (some ⟨g,0,none⟩) V cap,.int .i64 (ckN (ZF (fun _=>-1) (ZE xs V (Xs P n 0))) V)])/\Below w.heap.size w w'/\w.heap.size<=g/\IaAt w' g V cap (ZF (fun _=>-1) (ZE xs V (Xs P n 0))):=by
 have hn:n<=1000:=by have:=hx.out;have:=ho.okf.n2;omega
 have hV:=ho.vle;have HVD:=Xa (fun W (hb:Below w.heap.size w W)=>KZ (V:Int) a n c xs L B W (Xa (ha.keep (hb.mono hB))) hx hs (by have:=hb.size;omega));rw[hv.out]at HVD;have HAN:=Xa (fun W (hb:Below w.heap.size w W)=>Zaj (V:Int) a n c xs L B W (Xa (ha.keep (hb.mono hB))) hx hs (by have:=hb.size;omega) hvv);have HPT:=Xa (fun W (hb:Below w.heap.size w W)=>ZbY V a n c xs L B W (Xa (ha.keep (hb.mono hB))) hx (by have:=hb.size;omega) ho);obtain⟨i0,hi0,hq0,hq1,hq2⟩:=X7 Tryz.infoI64c
 go_enter Tryz.func6,Tryz.ntmps6
 go_wp2_with fail
 have hb0:Below w.heap.size w ((w.alloc (.cells #[.int .i64 (V:Int),.slice a n c] 32)).alloc (.cells #[.int .i64 0,.slice none 0 0,.int .i64 0] 28)):=Xb (Xb (Below.refl _ _) _) _;have hs0:w.heap.size+2<=((w.alloc (.cells #[.int .i64 (V:Int),.slice a n c] 32)).alloc (.cells #[.int .i64 0,.slice none 0 0,.int .i64 0] 28)).heap.size:=sP;have c0:((w.alloc (.cells #[.int .i64 (V:Int),.slice a n c] 32)).alloc (.cells #[.int .i64 0,.slice none 0 0,.int .i64 0] 28)).cell? ⟨w.heap.size,0,none⟩=some (.int .i64 (V:Int)):=by simp[go_sem]
 have c1:((w.alloc (.cells #[.int .i64 (V:Int),.slice a n c] 32)).alloc (.cells #[.int .i64 0,.slice none 0 0,.int .i64 0] 28)).cell? ⟨w.heap.size,1,none⟩=some (.slice a n c):=by simp[go_sem]
 have HR0:Hid (((w.alloc (.cells #[.int .i64 (V:Int),.slice a n c] 32)).alloc (.cells #[.int .i64 0,.slice none 0 0,.int .i64 0] 28)).heap[w.heap.size+1]?=some (.cells #[.int .i64 0,.slice none 0 0,.int .i64 0] 28)):=Xa (by
  have:=World.alloc_heap_new (w.alloc (.cells #[.int .i64 (V:Int),.slice a n c] 32)) (.cells #[.int .i64 0,.slice none 0 0,.int .i64 0] 28);rwa[World.size_alloc]at this)
 generalize (w.alloc (.cells #[.int .i64 (V:Int),.slice a n c] 32)).alloc (.cells #[.int .i64 0,.slice none 0 0,.int .i64 0] 28)=w0 at *;refine(HVD.out _ hb0).mono ?_;rintro e w1 ⟨rfl,hb1⟩;have hs1:=hb1.size;have k0:=(XD hb1 oM).trans c0;have k1:=(XD hb1 oM).trans c1;have HB1:=Xa (Xe hb0 hb1);have HR1:Hid (w1.heap[w.heap.size+1]?=some (.cells #[.int .i64 0,.slice none 0 0,.int .i64 0] 28)):=Xa ((hb1.block _ oM).trans HR0.out);clear hb0 hb1 c0 c1 HVD HR0
 go_wp2_with fail
 have HNE:Hid (NeE w1 (w1.alloc (.cells #[] 2)) (.slice (some ⟨w1.heap.size,0,none⟩) 0 0) 0):=Xa ⟨Xb (Below.refl _ _) _,sP,World.ownsRow_lit (base:=w1.heap.size) (e:=2) (size:=1) w1 #[] 0 sP sP rfl⟩;generalize w1.alloc (.cells #[] 2)=w2 at *
 go_loopw [4,5] (fun u i wr=>∃q:Nat,q<=V/\i=.int .i64 q/\Hid (NeE w1 wr u q)) (fun _ i _=>V-(intOf i).toNat)
 case atStart=>exact⟨0,Nat.zero_le _,rfl,HNE⟩
 case round =>
  clear HNE;obtain⟨q,hq,rfl,HE⟩:=hrel;have k0':=(XD HE.low oM).trans k0;have k1':=(XD HE.low oM).trans k1;by_cases hlt:q<V
  ·have hqi:(q:Int)<(V:Int):=oM
   have hlt1:=HE.low.size
   go_wp2_with (at_builtin;refine wpList_append_own_at _ rfl _ _ 26 rfl w1.heap.size 2 i0 (.int .i64 0) 1 8 Tryz.underlying26 hi0 hq0 hq1 hq2 rfl vZ _ _ _ rfl (HE.own.alloc _) ⟨wr.heap.size,0,none⟩ 1 1 [.int .i64 (-1)] rfl rfl ?c1 ?c2 ?c3 ?c4 ?c5 ?_)
   case c1 =>
    intro j u hj
    match j,hj with
    | 0,hj=>simp at hj;subst hj;simp[Addr.add,go_sem]
   case c2=>intro u hu;simp at hu;subst hu;rfl
   case c3=>unfold maxLen;omega
   case c4=>omega
   case c5=>simp;omega
   intro v1 u1 hown1 hgrow1 _ hat1;have HN1:Hid (NeE w1 u1 v1 (q+1)):=Xa (by
    refine⟨⟨hgrow1.os.trans HE.low.os,hgrow1.tape.trans HE.low.tape,hgrow1.output.trans HE.low.output,Nat.le_trans hlt1 (Nat.le_trans sP hgrow1.size),fun b hb=>?_⟩,fun e=>?_,?_⟩
    ·exact(hgrow1.block b (by simp;omega) (fun e=>by have:=(HE.own.lt b e.symm).1;omega)).trans ((Below.heap_alloc _ _ _ oM).trans (HE.low.block b hb))
    ·have:=hown1.1
     rcases hown1.2 with⟨_,e2⟩ | ⟨g,cap,cur,e2,_⟩
     ·omega
     ·rw[e]at e2;cases e2
    ·simpa [List.replicate_succ']using hown1)
   obtain⟨av,cv,hv1⟩:∃av cv,v1=.slice av (q+1) cv:=by
    obtain⟨av,cv,h,_⟩:=Xj HN1.own;rw[List.length_replicate]at h;exact⟨av,cv,h⟩
   subst hv1;clear hown1 hgrow1 hat1 k0' k1'
   go_wp2_with fail
   exact⟨⟨q+1,oM,gM,HN1⟩,by simp[intOf];omega⟩
  ·have hqn:q=V:=oM
   subst hqn;have HW3:=Xa (HB1.trans (HE.low.mono HB1.size));have hzr:=HE.low.size;obtain⟨g,cap,rfl,hgb,hia⟩:∃g cap,u4=.slice (some ⟨g,0,none⟩) q cap/\w1.heap.size<=g/\IaAt wr g q cap (fun _=>-1):=by
    have h1:=HE.own;have h2:wr.ownsRow w1.heap.size 2 1 u4 (List.replicate q (-1)).length ((List.replicate q (-1:Int)).map (Value.int .i64)):=by rw[List.length_replicate];exact h1
    obtain⟨g,cap,e1,e2,e3⟩:=IaAt.of_own h2 HE.ne;rw[List.length_replicate]at e1 e3;exact⟨g,cap,e1,e2,e3.congr (fun i hi=>by rw[List.getD_eq_getElem?_getD,List.getElem?_replicate,if_pos hi];rfl)⟩
   have HIA:=Xa hia;have HR2:Hid (wr.heap[w.heap.size+1]?=some (.cells #[.int .i64 0,.slice none 0 0,.int .i64 0] 28)):=Xa ((HE.low.block _ oM).trans HR1.out);clear hia HE
   go_wp2_with fail
   refine(HAN.out _ HW3.out).mono ?_;rintro e w3 ⟨P,a1,c1,a2,c2,a3,c3,a4,c4,rfl,hb3,hP,hF3⟩;have HP:=Xa hP;have HW4:=Xa (Xe HW3.out hb3);have HOD:=Xa hF3.o;have hs3:=hb3.size;have m0:=(XD hb3 oM).trans k0';have m1:=(XD hb3 oM).trans k1';have HIA3:=Xa (HIA.of_block (hb3.block g HIA.lt));have hgl:=HIA.lt;obtain⟨od,hod⟩:∃od,od=Xs P n 0:=⟨_,rfl⟩;rw[<-hod]at HOD;rw[<-hod];obtain⟨m,hm⟩:∃m,m=od.length:=⟨_,rfl⟩;rw[<-hm];have HOe:=Xa hod;have HMe:=Xa hm;have hfd:∀W,(Instr.field 48 (.agg #[.slice a1 n c1,.slice a2 n c2,.slice a3 n c3,.slice a4 m c4]) 3).run Tryz.prog W=.ok (.slice a4 m c4) W:=fun W=>kR
   have HR3:Hid (w3.heap[w.heap.size+1]?=some (.cells #[.int .i64 0,.slice none 0 0,.int .i64 0] 28)):=Xa ((hb3.block _ oM).trans HR2.out);clear hb3 hP hF3 k0' k1' HIA HAN hod hm
   go_wp2_with fail
   refine(HPT.out _ HW4.out).mono ?_;rintro e w4 ⟨gO,cO,G,rfl,hb4,hgO,hG⟩;have HW5:=Xa (Xe HW4.out hb4);have hs4:=hb4.size;have n0:=(XD hb4 oM).trans m0;have n1:=(XD hb4 oM).trans m1;have HOD4:=Xa (HOD.keep hb4);have HA4:=Xa (ha.keep (HW5.mono hB));have HCL:Hid (ClE w4 w4 g q cap (ZF (fun _=>-1) (ZE xs q (od.take 0)))):=Xa ⟨rfl,rfl,rfl,Nat.le_refl _,oM,fun _ _ _=>rfl,HIA3.of_block (hb4.block g oM)⟩;have HN0:=Xa n0;have HN1:=Xa n1;have HGS:=Xa hG;have HRE:Hid (∀x∈od,x<n):=Xa (by rw[HOe.out];exact fun x hxm=>(by rw[hx.out];exact ho.okf.re x (ZH HP.out n 0 x (Re.root) hxm).rb));have hm1:m<=1000:=by
    have h1:=Uq HP.out (fun x hx'=>by rw[hx.out];exact ho.okf.re x hx') n 0 Re.root;rw[HMe.out,HOe.out];omega
   have HR4:Hid (w4.heap[w.heap.size+1]?=some (.cells #[.int .i64 0,.slice none 0 0,.int .i64 0] 28)):=Xa ((hb4.block _ oM).trans HR3.out);clear hb4 hG m0 m1 HOD HIA3 hfd n0 n1 HPT HW4 HW3
   go_wp2_with fail
   go_loopw [8] (fun i wx=>∃k:Nat,k<=m/\i=.int .i64 k/\Hid (ClE w4 wx g q cap (ZF (fun _=>-1) (ZE xs q (od.take k))))) (fun i _=>m-(intOf i).toNat)
   case atStart=>exact⟨0,Nat.zero_le _,rfl,HCL⟩
   case round =>
    clear HCL;obtain⟨k,hk,rfl,HC⟩:=hrel;by_cases hlk:k<m
    ·have hk':k<od.length:=by rw[<-HMe.out];exact hlk
     have hkn:k<(Xh od).length:=by simpa [Xh]using hk'
     obtain⟨b4,o4,rfl,hb4,e4⟩:=HOD4.out k hkn;have hbx:od[k]<n:=HRE.out _ (List.getElem_mem hk');have HTK:Hid (od.take (k+1)=od.take k++[od[k]]):=Xa (by rw[List.take_add_one,List.getElem?_eq_getElem hk'];rfl);rw[show(Xh od)[k]=((od[k]:Nat):Int) by simp[Xh]]at e4;generalize od[k]=b at *;have hbl:b<xs.length:=by rw[<-hx.out];exact hbx
     obtain⟨bb,oo,rfl,hbb,pa,pc,ia,ic,p0,p1,⟨t0,t1,t2,t3⟩,hph,hin⟩:=HA4.out b hbl;obtain⟨s0,_,s2⟩:=HGS.out b hbx;obtain⟨X,hX⟩:∃X,X=xs[b]:=⟨_,rfl⟩;rw[<-hX]at p0 p1 t0 t1 t2 t3 hph hin;have HXe:=Xa hX;clear hX;rw[show(KJ xs b).length=X.instrs.length by rw[ZeZ hbl,HXe.out]]at s0 s2;have f4:=HC.cell oM e4;have f0:=HC.cell oM p0;have f1:=HC.cell oM p1;have g0:=HC.cell oM t0;have g1:=HC.cell oM t1;have g2:=HC.cell oM t2;have g3:=HC.cell oM t3;have h0:=HC.cell oM HN0.out;have h1:=HC.cell oM HN1.out;have hS:=HC.cell oM s0;have HPH:=Xa hph;have HIN:=Xa hin;have HS2:=Xa s2;have hki:(k:Int)<(m:Int):=oM;have hbi:(b:Int)<(n:Int):=oM;clear e4 p0 p1 t0 t1 t2 t3 hph hin s0 s2
     go_wp2_with fail
     refine ZiU w.heap.size b4 o4 m c4 k b bb oo n c X.phis.length pc X.instrs.length ic pa ia X.term.kind X.term.a X.term.to X.term.els wr _ _ _ _ _ _ _ _ _ _ _ _ _ _ _ _ _ _ _ _ _ _ _ _ _ _ _ _ _ _ _ _ _ _ _ _ _ _ _ _ _ _ _ _ _ _ _ _ _ _ _ _ _ _ _ _ _ _ _ _ _ _ _ _ _ _ _ _ _ _ _ _ _ _ _ _ _ _ _ _ _ _ _ _ _ _ _ _ _ _ _ _ _ _ _ _ _ _ _ _ _ _ _ _ _ _ _ _ _ _ _ _ _ _ _ _ _ _ _ _ _ _ _ _ _ _ _ _ (Xa (fun _ _ _ _ _ h=>h)) f4 h1 f0 f1 g0 g1 g2 g3 hlk hbx (Xa ?_);intro d42 d43 d44 d45 d46 d47 d48 d49 W6 hb6 hBX6;have BX6:=Xa hBX6;clear hBX6;have HC6:=Xa (HC.far hb6);have hzw:=HC.size;have i4:=(hb6.cell (p:=⟨b4,o4+k,none⟩) (World.block_lt_of_cell? wr _ f4)).trans f4;have iS:=(hb6.cell (p:=⟨gO,b,none⟩) (World.block_lt_of_cell? wr _ hS)).trans hS;obtain⟨bx,hbxe⟩:∃bx,bx=wr.heap.size:=⟨_,rfl⟩;rw[<-hbxe]at BX6 hzw;rw[<-hbxe];have hbg:bx≠g:=oM;clear hb6 HC f4 hS f0 f1 g0 g1 g2 g3 h0 h1 hbxe;obtain⟨C0,hC0⟩:∃C0,C0=ZF (fun _=>-1) (ZE xs q (od.take k)):=⟨_,rfl⟩;rw[<-hC0]at HC6;have HC0e:=Xa hC0;clear hC0;generalize wr=wv at *
     go_wp2_with fail
     have HP0:Hid (ClE w4 W6 g q cap (ZF C0 (T9 xs q b X 0))):=Xa (by unfold T9;simpa [ZF]using HC6.out);obtain⟨np,hnp⟩:∃m,m=X.phis.length:=⟨_,rfl⟩;obtain⟨ni,hni⟩:∃m,m=X.instrs.length:=⟨_,rfl⟩;rw[<-hnp,<-hni]at BX6;have HNP:=Xa hnp;have HNI:=Xa hni;have hlens:=ho.lens X (by rw[HXe.out];exact List.getElem_mem hbl);have hnp4:np<=4000:=oM;have hni4:ni<=4000:=oM;clear hnp hni hlens HC6 i4 iS
     go_loopw [11] (fun i wx=>∃i':Nat,i'<=np/\i=.int .i64 i'/\Hid (ClE w4 wx g q cap (ZF C0 (T9 xs q b X i')))/\Hid (wx.rowIs bx 57 6 (Zas (.slice pa np pc) (.slice ia ni ic) (.int .i64 X.term.kind) (.int .i64 X.term.a) (.int .i64 X.term.to) (.int .i64 X.term.els)))) (fun i _=>np-(intOf i).toNat)
     case atStart=>exact⟨0,Nat.zero_le _,rfl,HP0,BX6⟩
     case round =>
      clear HP0 BX6;obtain⟨i,hi,rfl,HCi,HBi⟩:=hrel;have x0:wr.cell? ⟨bx,0,none⟩=some (.slice pa np pc):=HBi.cell (i:=0) vZ;have x1:wr.cell? ⟨bx,1,none⟩=some (.slice ia ni ic):=HBi.cell (i:=1) vZ;by_cases hli:i<np
      ·have hi':i<X.phis.length:=by rw[<-HNP.out];exact hli
       obtain⟨pb,po,rfl,hpb,pav,pcv,d0,_,_⟩:=HPH.out i hi';have hXm:X∈xs:=by rw[HXe.out];exact List.getElem_mem hbl
       have hdm:=ho.phd X hXm X.phis[i] (List.getElem_mem hi');obtain⟨d,hd⟩:=Int.eq_ofNat_of_zero_le hdm.1;have hdq:d<q:=by have:=hdm.2;rw[hd]at this;omega
       have HSU:=Xa (Zbq (xs:=xs) (V:=q) (b:=b) hi' hd);rw[hd]at d0;have y0:=HCi.cell oM d0;obtain⟨b5,o5,e5,hb5,a',c',s0,s1⟩:=HS2.out 0 sP;simp only[List.getElem_map,List.getElem_range]at s0 s1;injection e5 with e5;injection e5 with e6 e7;subst e6 e7;have hpt:VA xs q b 0=Xh (ptP xs X q b 0):=by rw[HXe.out];exact Zbo hbl q 0
       rw[hpt]at s0 s1;have HLV:Hid (∀u∈ptP xs X q b 0,u<q):=Xa (fun u hu=>by unfold ptP at hu;exact List.mem_range.1 (List.mem_filter.1 hu).1);have hLL:(ptP xs X q b 0).length<=q:=by unfold ptP;exact Nat.le_trans (List.length_filter_le _ _) sP
       generalize ptP xs X q b 0=l at *;have y1:=HCi.cell oM s0;obtain⟨ln,hln⟩:∃ln,ln=l.length:=⟨_,rfl⟩;rw[show(Xh l).length=l.length by simp[Xh],<-hln]at y1;have HLN:=Xa hln;have hlq:ln<=q:=oM;clear hln;obtain⟨C,hC⟩:∃C,C=ZF C0 (T9 xs q b X i):=⟨_,rfl⟩;have HCe:=Xa hC;rw[<-hC]at HCi;have HSM:=Xa (fun W (hW:Below wr.heap.size wr W)=>KY (some ⟨g,0,none⟩) q cap C a' ln c' l W (Xa (fun u hu=>⟨g,0,rfl,by rw[Nat.zero_add];exact(hW.cell (p:=⟨g,u,none⟩) HCi.ia.lt).trans (HCi.ia.cell hu)⟩)) (Xa (fun j hj=>by
        obtain⟨b6,o6,e6,hb6,h6'⟩:=s1 j (by simpa [Xh]using hj);have h6:w4.cell? ⟨b6,o6+j,none⟩=some (.int .i64 ((l[j]:Nat):Int)):=by
         rw[h6'];simp[Xh]
        have h7:=HCi.cell oM h6;exact⟨b6,o6,e6,(hW.cell (p:=⟨b6,o6+j,none⟩) (World.block_lt_of_cell? wr _ h7)).trans h7⟩)) HLN oM HLV)
       have yg:=HCi.ia.cell hdq;have yf:=HCi.ia.frozen d;have hii:(i:Int)<(np:Int):=oM;have hdi:(d:Int)<(q:Int):=oM;have HFIN:Hid (∀W5,Below wr.heap.size wr W5->ClE w4 (W5.setCell ⟨g,d,none⟩ (.int .i64 (smN C l:Int))) g q cap (ZF C0 (T9 xs q b X (i+1)))/\(W5.setCell ⟨g,d,none⟩ (.int .i64 (smN C l:Int))).rowIs bx 57 6 (Zas (.slice (some ⟨pb,po,none⟩) np pc) (.slice ia ni ic) (.int .i64 X.term.kind) (.int .i64 X.term.a) (.int .i64 X.term.to) (.int .i64 X.term.els))):=Xa (fun W5 h5=>by
        refine⟨?_,(HBi.of_block (h5.block bx HBi.lt)).setOther (by show bx≠g;exact hbg) _⟩;rw[HSU.out,UN,<-HCe.out];exact(HCi.far h5).put hdq _)
       clear d0 s0 s1 hC hdm hd hpt;generalize smN C l=sm at *
       go_wp2_with fail
       refine ZiI q cap g d i np X.instrs.length bx pb po pc (G b) ln c' sm _ a' wr _ _ _ _ _ _ _ _ _ _ _ _ _ _ _ _ _ _ _ _ _ _ _ _ _ _ _ _ _ _ _ _ _ _ _ _ _ _ _ _ _ _ _ _ _ _ _ _ _ _ _ _ _ _ _ _ _ _ _ _ _ _ _ _ _ _ _ _ _ _ _ _ _ _ _ _ _ _ _ _ _ _ _ _ _ _ _ _ _ _ _ _ _ _ _ _ _ _ _ _ _ _ _ _ _ _ _ _ _ _ _ _ _ _ _ _ _ _ _ _ _ _ _ _ _ _ _ (Xa (fun _ _ _ _ _ h=>h)) x0 y0 y1 yg yf hbg oM oM hli hdq (Xa (HSM.out wr.drew (Below.refl _ _).drew)) (Xa ?_);intro d65 d66 d67 d68 d69 d70 d71 d72 d73 d74 d75 d76 d77 d78;clear x0 x1 y0 y1 yg yf HSM
       go_wp2_with fail
       exact⟨⟨i+1,oM,gM,Xa (HFIN.out wr.drew (Below.refl _ _).drew).1,Xa (HFIN.out wr.drew (Below.refl _ _).drew).2⟩,by simp[intOf];omega⟩
      ·have hin':i=np:=oM
       subst hin';have HC7:Hid (ClE w4 wr g q cap (ZF C0 (T9 xs q b X X.phis.length))):=Xa (by rw[<-HNP.out];exact HCi.out)
       go_wp2_with fail
       clear HCi x0 x1;obtain⟨C1,hC1⟩:∃C1,C1=ZF C0 (T9 xs q b X X.phis.length):=⟨_,rfl⟩;rw[<-hC1]at HC7;have HC1e:=Xa hC1;clear hC1;have HQ0:Hid (ClE w4 wr g q cap (ZF C1 (Kv xs q b X 0))):=Xa (by simpa [Kv,ZF]using HC7.out);generalize wr=wz at *
       go_loopw [12] (fun j wx=>∃j':Nat,j'<=ni/\j=.int .i64 j'/\Hid (ClE w4 wx g q cap (ZF C1 (Kv xs q b X j')))/\Hid (wx.rowIs bx 57 6 (Zas (.slice pa i pc) (.slice ia ni ic) (.int .i64 X.term.kind) (.int .i64 X.term.a) (.int .i64 X.term.to) (.int .i64 X.term.els)))) (fun j _=>ni-(intOf j).toNat)
       case atStart=>exact⟨0,Nat.zero_le _,rfl,HQ0,HBi⟩
       case round =>
        clear HQ0 HBi HC7;obtain⟨j,hj,rfl,HCj,HBj⟩:=hrel;have x0:wr.cell? ⟨bx,0,none⟩=some (.slice pa i pc):=HBj.cell (i:=0) vZ;have x1:wr.cell? ⟨bx,1,none⟩=some (.slice ia ni ic):=HBj.cell (i:=1) vZ;by_cases hlj:j<ni
        ·have hj':j<X.instrs.length:=by rw[<-HNI.out];exact hlj
         obtain⟨ib,io,rfl,hib,o0,o1,_,_,_⟩:=HIN.out j hj';have hXm:X∈xs:=by rw[HXe.out];exact List.getElem_mem hbl
         have y2:=HCj.cell oM o0;have y0':=HCj.cell oM o1;have HUD:=Xa (Zbs X.instrs[j].op wr);have hji:(j:Int)<(ni:Int):=oM;cases hu:dB X.instrs[j].op with
         | false =>
          rw[hu]at HUD;have HSU:=Xa (ZeX (xs:=xs) (V:=q) (b:=b) hj' hu);clear o0 o1 y0'
          go_wp2_with fail
          refine HUD.mono ?_;rintro e w5 ⟨rfl,hw5⟩;subst hw5;clear HUD
          go_wp2_with fail
          refine⟨?_,by simp[intOf];omega⟩
          first
           | exact⟨j+1,oM,gM,Xa (by rw[HSU.out];exact HCj.out),HBj⟩
           | ((repeat apply Exists.intro);refine⟨?_,rfl⟩;exact⟨j+1,oM,gM,Xa (by rw[HSU.out];exact HCj.out),HBj⟩)
         | true =>
          rw[hu]at HUD;have hdm:=ho.wri X hXm X.instrs[j] (List.getElem_mem hj') X.instrs[j].dst (by unfold writesI;rw[hu];simp);obtain⟨d,hd⟩:=Int.eq_ofNat_of_zero_le hdm.1;have hdq:d<q:=by have:=hdm.2;rw[hd]at this;omega
          have HSU:=Xa (Zao (xs:=xs) (V:=q) (b:=b) hj' hu hd);rw[hd]at y0';obtain⟨b5,o5,e5,hb5,a',c',s0,s1⟩:=HS2.out (j+1) (by simp;omega);simp only[List.getElem_map,List.getElem_range]at s0 s1;injection e5 with e5;injection e5 with e6 e7;subst e6 e7;rw[Nat.zero_add]at s0;have hpt:VA xs q b (j+1)=Xh (ptP xs X q b (j+1)):=by rw[HXe.out];exact Zbo hbl q (j+1)
          rw[hpt]at s0 s1;have HLV:Hid (∀u∈ptP xs X q b (j+1),u<q):=Xa (fun u hu=>by unfold ptP at hu;exact List.mem_range.1 (List.mem_filter.1 hu).1);have hLL:(ptP xs X q b (j+1)).length<=q:=by unfold ptP;exact Nat.le_trans (List.length_filter_le _ _) sP
          generalize ptP xs X q b (j+1)=l at *;have y1:=HCj.cell oM s0;obtain⟨ln,hln⟩:∃ln,ln=l.length:=⟨_,rfl⟩;rw[show(Xh l).length=l.length by simp[Xh],<-hln]at y1;have HLN:=Xa hln;have hlq:ln<=q:=oM;clear hln;obtain⟨C,hC⟩:∃C,C=ZF C1 (Kv xs q b X j):=⟨_,rfl⟩;have HCe:=Xa hC;rw[<-hC]at HCj;have HSM:=Xa (fun W (hW:Below wr.heap.size wr W)=>KY (some ⟨g,0,none⟩) q cap C a' ln c' l W (Xa (fun u hu=>⟨g,0,rfl,by rw[Nat.zero_add];exact(hW.cell (p:=⟨g,u,none⟩) HCj.ia.lt).trans (HCj.ia.cell hu)⟩)) (Xa (fun r hr=>by
           obtain⟨b6,o6,e6,hb6,h6'⟩:=s1 r (by simpa [Xh]using hr);have h6:w4.cell? ⟨b6,o6+r,none⟩=some (.int .i64 ((l[r]:Nat):Int)):=by
            rw[h6'];simp[Xh]
           have h7:=HCj.cell oM h6;exact⟨b6,o6,e6,(hW.cell (p:=⟨b6,o6+r,none⟩) (World.block_lt_of_cell? wr _ h7)).trans h7⟩)) HLN oM HLV)
          have yg:=HCj.ia.cell hdq;have yf:=HCj.ia.frozen d;have hdi:(d:Int)<(q:Int):=oM;have HFIN:Hid (∀W5,Below wr.heap.size wr W5->ClE w4 (W5.setCell ⟨g,d,none⟩ (.int .i64 (smN C l:Int))) g q cap (ZF C1 (Kv xs q b X (j+1)))/\(W5.setCell ⟨g,d,none⟩ (.int .i64 (smN C l:Int))).rowIs bx 57 6 (Zas (.slice pa i pc) (.slice (some ⟨ib,io,none⟩) ni ic) (.int .i64 X.term.kind) (.int .i64 X.term.a) (.int .i64 X.term.to) (.int .i64 X.term.els))):=Xa (fun W5 h5=>by
           refine⟨?_,(HBj.of_block (h5.block bx HBj.lt)).setOther (by show bx≠g;exact hbg) _⟩;rw[HSU.out,UN,<-HCe.out];exact(HCj.far h5).put hdq _)
          clear o0 o1 s0 s1 hC hdm hd hpt hu;generalize smN C l=sm at *
          go_wp2_with fail
          refine HUD.mono ?_;rintro e w5 ⟨rfl,hw5⟩;subst hw5;clear HUD y2
          go_wp2_with fail
          refine ZiF q cap g d j ni X.instrs.length bx ib io ic (G b) ln c' sm _ a' w5 _ _ _ _ _ _ _ _ _ _ _ _ _ _ _ _ _ _ _ _ _ _ _ _ _ _ _ _ _ _ _ _ _ _ _ _ _ _ _ _ _ _ _ _ _ _ _ _ _ _ _ _ _ _ _ _ _ _ _ _ _ _ _ _ _ _ _ _ _ _ _ _ _ _ _ _ _ _ _ _ _ _ _ _ _ _ _ _ _ _ _ _ _ _ _ _ _ _ _ _ _ _ _ _ _ _ _ _ _ _ _ _ _ _ _ _ _ _ _ _ _ _ _ _ _ _ _ (Xa (fun _ _ _ _ _ h=>h)) x1 y0' y1 yg yf hbg oM oM hlj hdq (by have:=HNI.out;omega) oM (Xa (HSM.out w5.drew (Below.refl _ _).drew)) (Xa ?_);intro d93 d94 d95 d96 d97 d98 d99 d100 d101 d102 d103 d104 d105 d106 d107 d108;clear x0 x1 y0' y1 yg yf HSM
          go_wp2_with fail
          refine⟨?_,by simp[intOf];omega⟩
          first
           | exact⟨j+1,oM,gM,Xa (HFIN.out w5.drew (Below.refl _ _).drew).1,Xa (HFIN.out w5.drew (Below.refl _ _).drew).2⟩
           | ((repeat apply Exists.intro);refine⟨?_,rfl⟩;exact⟨j+1,oM,gM,Xa (HFIN.out w5.drew (Below.refl _ _).drew).1,Xa (HFIN.out w5.drew (Below.refl _ _).drew).2⟩)
        ·have hjn:j=ni:=oM
         subst hjn;have HFK:Hid (ZF (fun _=>-1) (ZE xs q (od.take (k+1)))=ZF C1 (Kv xs q b X j)):=Xa (by
          rw[HTK.out,UC,Zdj,<-HC0e.out];unfold skB;rw[List.getElem?_eq_getElem hbl,<-HXe.out];show ZF C0 (T9 xs q b X X.phis.length++Kv xs q b X X.instrs.length)=_;rw[Zdj,<-HC1e.out,<-HNI.out])
         clear x0
         go_wp2_with fail
         refine⟨?_,by simp[intOf];omega⟩
         first
          | exact⟨k+1,oM,gM,Xa (by rw[HFK.out];exact HCj.out)⟩
          | ((repeat apply Exists.intro);refine⟨?_,rfl⟩;exact⟨k+1,oM,gM,Xa (by rw[HFK.out];exact HCj.out)⟩)
    ·have hkm:k=m:=oM
     subst hkm;have HCE:Hid (ClE w4 wr g q cap (ZF (fun _=>-1) (ZE xs q od))):=Xa (by
      have:=HC.out;rw[HMe.out,List.take_length]at this;exact this)
     clear HC;obtain⟨C9,hC9⟩:∃C9,C9=ZF (fun _=>-1) (ZE xs q od):=⟨_,rfl⟩;rw[<-hC9]at HCE;have HC9:=Xa hC9;have HRG:Hid (∀u,-1<=C9 u/\C9 u<=(q:Int)):=Xa (by rw[hC9];exact ZhF xs q od);clear hC9;have HRW:Hid (wr.rowIs (w.heap.size+1) 28 3 (trG (.int .i64 0) (.slice none 0 0) (.int .i64 0))):=Xa ⟨_,(HCE.fr _ oM oM).trans HR4.out,rfl,fun i hi=>by match i,hi with | 0,_=>rfl | 1,_=>rfl | 2,_=>rfl⟩
     go_wp2_with fail
     go_loop [13,14] (fun c i=>∃v:Nat,v<=q/\i=.int .i64 v/\c=.int .i64 (ckN C9 v)) (fun _ i=>q-(intOf i).toNat)
     case atStart=>exact⟨0,Nat.zero_le _,rfl,rfl⟩
     case round =>
      obtain⟨v,hvq,rfl,rfl⟩:=hrel;have hrg:=HRG.out v;by_cases hlv:v<q
      ·have yv:=HCE.ia.cell hlv
       have hvi:(v:Int)<(q:Int):=oM;have hwc:IntKind.i64.wrap (C9 v+1)=C9 v+1:=by rw[IntKind.wrap_i64];omega
       by_cases hgt:ckN C9 v<C9 v+1
       ·have HNX:Hid (ckN C9 (v+1)=C9 v+1):=Xa (by rw[ckN];omega)
        generalize ckN C9 v=kv at *;generalize C9 v=cv at *
        go_wp2_with fail
        exact⟨⟨v+1,oM,gM,by rw[HNX.out]⟩,by simp[intOf];omega⟩
       ·have HNX:Hid (ckN C9 (v+1)=ckN C9 v):=Xa (by rw[ckN];omega)
        generalize ckN C9 v=kv at *;generalize C9 v=cv at *
        go_wp2_with fail
        exact⟨⟨v+1,oM,gM,by rw[HNX.out]⟩,by simp[intOf];omega⟩
      ·have hvq2:v=q:=oM
       subst hvq2;have lc0:=HRW.cell (i:=0) vZ;have lc1:=HRW.cell (i:=1) vZ;have lc2:=HRW.cell (i:=2) vZ;have lz:=HRW.frozen;have hsc:∀(W:World)(i j:Nat)(u:Value),i≠j->(W.setCell ⟨w.heap.size+1,i,none⟩ u).cell? ⟨w.heap.size+1,j,none⟩=W.cell? ⟨w.heap.size+1,j,none⟩:=fun W i j u h=>World.cell?_setCell_other _ _ _ _ (fun e=>h (congrArg Addr.off e))
       go_wp2_with fail
       clear lc0 lc1 lc2 lz hsc;have HR9:Hid ((((wr.setCell ⟨w.heap.size+1,0,none⟩ (.int .i64 0)).setCell ⟨w.heap.size+1,1,none⟩ (.slice (some ⟨g,0,none⟩) v cap)).setCell ⟨w.heap.size+1,2,none⟩ (.int .i64 (ckN C9 v))).rowIs (w.heap.size+1) 28 3 (trG (.int .i64 0) (.slice (some ⟨g,0,none⟩) v cap) (.int .i64 (ckN C9 v)))):=Xa ((((HRW.set 0 _).set 1 _).set 2 _).congr (fun i hi=>by match i,hi with | 0,_=>rfl | 1,_=>rfl | 2,_=>rfl))
       have hbr:Below w.heap.size w wr:=⟨HCE.os.trans HW5.os,HCE.tape.trans HW5.tape,HCE.output.trans HW5.output,Nat.le_trans HW5.size HCE.size,fun q' hq'=>(HCE.fr q' (by have:=HW5.size;omega) oM).trans (HW5.block q' hq')⟩;have HB9:Hid (Below w.heap.size w (((wr.setCell ⟨w.heap.size+1,0,none⟩ (.int .i64 0)).setCell ⟨w.heap.size+1,1,none⟩ (.slice (some ⟨g,0,none⟩) v cap)).setCell ⟨w.heap.size+1,2,none⟩ (.int .i64 (ckN C9 v)))):=Xa (((hbr.setCell (Nat.le_succ _) _).setCell (Nat.le_succ _) _).setCell (Nat.le_succ _) _);have HI9:Hid (IaAt (((wr.setCell ⟨w.heap.size+1,0,none⟩ (.int .i64 0)).setCell ⟨w.heap.size+1,1,none⟩ (.slice (some ⟨g,0,none⟩) v cap)).setCell ⟨w.heap.size+1,2,none⟩ (.int .i64 (ckN C9 v))) g v cap C9):=Xa (((HCE.ia.setOther (by show g≠w.heap.size+1;omega) _).setOther (by show g≠w.heap.size+1;omega) _).setOther (by show g≠w.heap.size+1;omega) _);generalize (((wr.setCell ⟨w.heap.size+1,0,none⟩ (.int .i64 0)).setCell ⟨w.heap.size+1,1,none⟩ (.slice (some ⟨g,0,none⟩) v cap)).setCell ⟨w.heap.size+1,2,none⟩ (.int .i64 (ckN C9 v)))=w9 at *;have r0:=HR9.cell (i:=0) vZ;have r1:=HR9.cell (i:=1) vZ;have r2:=HR9.cell (i:=2) vZ;simp only[trG]at r0 r1 r2;refine bodyPost_ret (v:=.agg #[.int .i64 0,.slice (some ⟨g,0,none⟩) v cap,.int .i64 (ckN C9 v)]) (by simp[results,Tryz.results6,go_sem,r0,r1,r2]) rfl ?_;refine⟨P,HP.out,g,cap,?_⟩;rw[<-HOe.out,<-HC9.out];exact⟨rfl,HB9.out,oM,HI9.out⟩
theorem Zd6(v:Int)(a:Option Addr)(n c:Nat)(xs:List Xi)(L B:Nat)(w:World)(ha:Hid (Xl w L B a xs))(hx:Hid (n=xs.length))(hs:Hid (xs.length+Xk xs<=1048576))(hB:B<=w.heap.size)(hv:verdP v xs≠0) :
 Calls Tryz.prog 6 #[.agg #[.int .i64 v,.slice a n c]] w fun e w'=>e=.returned (.agg #[.int .i64 (verdP v xs),.slice none 0 0,.int .i64 0])/\Below w.heap.size w w':=by
 have HVD:=Xa (fun W (hb:Below w.heap.size w W)=>KZ v a n c xs L B W (Xa (ha.keep (hb.mono hB))) hx hs (by have:=hb.size;omega));have hne:(verdP v xs==0)=false:=by simpa using hv
 generalize verdP v xs=V at *
 go_enter Tryz.func6,Tryz.ntmps6
 go_wp2_with fail
 have hb0:Below w.heap.size w ((w.alloc (.cells #[.int .i64 v,.slice a n c] 32)).alloc (.cells #[.int .i64 0,.slice none 0 0,.int .i64 0] 28)):=Xb (Xb (Below.refl _ _) _) _;have hs0:w.heap.size+2<=((w.alloc (.cells #[.int .i64 v,.slice a n c] 32)).alloc (.cells #[.int .i64 0,.slice none 0 0,.int .i64 0] 28)).heap.size:=sP;have HR0:Hid (((w.alloc (.cells #[.int .i64 v,.slice a n c] 32)).alloc (.cells #[.int .i64 0,.slice none 0 0,.int .i64 0] 28)).heap[w.heap.size+1]?=some (.cells #[.int .i64 0,.slice none 0 0,.int .i64 0] 28)):=Xa (by
  have:=World.alloc_heap_new (w.alloc (.cells #[.int .i64 v,.slice a n c] 32)) (.cells #[.int .i64 0,.slice none 0 0,.int .i64 0] 28);rwa[World.size_alloc]at this)
 generalize (w.alloc (.cells #[.int .i64 v,.slice a n c] 32)).alloc (.cells #[.int .i64 0,.slice none 0 0,.int .i64 0] 28)=w0 at *;refine(HVD.out _ hb0).mono ?_;rintro e w1 ⟨rfl,hb1⟩;have HB1:=Xa (Xe hb0 hb1);have HRW:Hid (w1.rowIs (w.heap.size+1) 28 3 (trG (.int .i64 0) (.slice none 0 0) (.int .i64 0))):=Xa ⟨_,(hb1.block _ oM).trans HR0.out,rfl,fun i hi=>by match i,hi with | 0,_=>rfl | 1,_=>rfl | 2,_=>rfl⟩
 clear hb0 hb1 HVD HR0;have lc0:=HRW.cell (i:=0) vZ;have lc1:=HRW.cell (i:=1) vZ;have lc2:=HRW.cell (i:=2) vZ;have lz:=HRW.frozen;have hsc:∀(W:World)(i j:Nat)(u:Value),i≠j->(W.setCell ⟨w.heap.size+1,i,none⟩ u).cell? ⟨w.heap.size+1,j,none⟩=W.cell? ⟨w.heap.size+1,j,none⟩:=fun W i j u h=>World.cell?_setCell_other _ _ _ _ (fun e=>h (congrArg Addr.off e))
 go_wp2_with fail
 clear lc0 lc1 lc2 lz hsc;have HR9:Hid ((((w1.setCell ⟨w.heap.size+1,0,none⟩ (.int .i64 V)).setCell ⟨w.heap.size+1,1,none⟩ (.slice none 0 0)).setCell ⟨w.heap.size+1,2,none⟩ (.int .i64 0)).rowIs (w.heap.size+1) 28 3 (trG (.int .i64 V) (.slice none 0 0) (.int .i64 0))):=Xa ((((HRW.set 0 _).set 1 _).set 2 _).congr (fun i hi=>by match i,hi with | 0,_=>rfl | 1,_=>rfl | 2,_=>rfl))
 have HB9:Hid (Below w.heap.size w (((w1.setCell ⟨w.heap.size+1,0,none⟩ (.int .i64 V)).setCell ⟨w.heap.size+1,1,none⟩ (.slice none 0 0)).setCell ⟨w.heap.size+1,2,none⟩ (.int .i64 0))):=Xa (((HB1.setCell (Nat.le_succ _) _).setCell (Nat.le_succ _) _).setCell (Nat.le_succ _) _);generalize (((w1.setCell ⟨w.heap.size+1,0,none⟩ (.int .i64 V)).setCell ⟨w.heap.size+1,1,none⟩ (.slice none 0 0)).setCell ⟨w.heap.size+1,2,none⟩ (.int .i64 0))=w9 at *;have r0:=HR9.cell (i:=0) vZ;have r1:=HR9.cell (i:=1) vZ;have r2:=HR9.cell (i:=2) vZ;simp only[trG]at r0 r1 r2;exact bodyPost_ret (v:=.agg #[.int .i64 V,.slice none 0 0,.int .i64 0]) (by simp[results,Tryz.results6,go_sem,r0,r1,r2]) rfl ⟨rfl,HB9.out⟩
end
end Go.Proofs.YthgikffcdgpgiaaGreatDoor
