import Derived.Lib.TrailingZeros
import Derived.Laws.Bits64b
import Derived.Test.YtlmgmkmomaileaaGreatDoorNV1
namespace Go.Proofs.YtlmgmkmomaileaaGreatDoor
set_option maxHeartbeats 1000000
open Go.RowKit
def K5(w:World):Prop:=∀j,j<64->w.cell? ⟨2,j,none⟩=some (.int .u8 (Lib.deBruijn64tab.getD j 0))
theorem K5.of_block{V V':World}(h:K5 V)(e:V'.heap[(2 : Nat)]?=V.heap[(2 : Nat)]?):K5 V':=fun j hj=>(Xc (o:=j) e).trans (h j hj)
theorem ZjU(x a:Nat)(hx:x<18446744073709551616)(hx0:x≠0)(hlow:x &&& (18446744073709551616-x)=a) :
 IntKind.u64.wrap (bits BinOp.and IntKind.u64 (x:Int) (IntKind.u64.wrap (-(x:Int)))*285870213051353865) / 288230376151711744=((a*285870213051353865 % 18446744073709551616 / 288230376151711744:Nat):Int):=by
 have e1:IntKind.u64.wrap (-(x:Int))=((18446744073709551616-x:Nat):Int):=by rw[IntKind.wrap_u64];omega
 rw[e1,bits_and_u64_nat x _ hx oM,hlow,IntKind.wrap_u64];omega
theorem Ziv(x k idx:Nat)(w:World)(hx0:((x:Int)==0)=false)
 (key:IntKind.u64.wrap (bits BinOp.and IntKind.u64 (x:Int) (IntKind.u64.wrap (-(x:Int)))*285870213051353865) / 288230376151711744=(idx:Int))
 (hi:idx<64) (hk:k<64) (hcell:w.cell? ⟨2,idx,none⟩=some (.int .u8 k)) :
 Calls Tryz.prog 117 #[.int .u64 x] w fun e w'=>e=.returned (.int .i64 k)/\w'=w:=by
 go_enter Tryz.func117,Tryz.ntmps117
 go_wp2_with (simp only[key])
 go_ret
 exact⟨rfl,rfl⟩
theorem Zk1(x:Nat)(hx:x<18446744073709551616)(hx0:x≠0)(w:World)(hT:Hid (K5 w)) :
 Calls Tryz.prog 117 #[.int .u64 x] w fun e w'=>e=.returned (.int .i64 (Lib.ctz 64 x:Nat))/\w'=w:=by
 obtain⟨hlow,hk⟩:=Lib.lowest_bit 64 x hx0 hx;obtain⟨hi,htab⟩:=Lib.deBruijn64_at _ hk;have hcell:=hT.out _ hi;rw[htab]at hcell;exact Ziv x _ _ w (by simp;omega) (ZjU x _ hx hx0 hlow) hi hk hcell
theorem Zaa{y:Nat}(h0:y≠0)(h:y<2 ^ 64):∃m,y=2 ^ Lib.ctz 64 y*(2*m+1)/\Lib.ctz 64 y<64:=by
 have e:Lib.ctz 64 y=Lib.ctzFrom 64 y:=by simp[Lib.ctz,h0]
 rw[e];exact Lib.ctzFrom_spec 64 y oM h
theorem We(c m i:Nat):(2 ^ c*m).testBit i=(decide (c<=i)&&m.testBit (i-c)):=by
 rw[Nat.mul_comm,Nat.testBit_mul_two_pow]
theorem ZiN(m i:Nat):(2*m+1).testBit i=(decide (i=0)||(2*m).testBit i):=by
 cases i with
 | zero=>simp
 | succ i =>
  rw[Nat.testBit_succ,Nat.testBit_succ];have d1:(2*m+1) / 2=m:=oM;have d2:2*m / 2=m:=oM;rw[d1,d2];simp
theorem Zj4{y:Nat}(h0:y≠0)(h:y<2 ^ 64)(i:Nat):(y &&& (y-1)).testBit i=(y.testBit i&&decide (i≠Lib.ctz 64 y)):=by
 obtain⟨m,hm,hc⟩:=Zaa h0 h;generalize Lib.ctz 64 y=c at *;have hp:0<2 ^ c:=Nat.two_pow_pos c;have e1:y-1=2 ^ c*(2*m)+(2 ^ c-1):=by rw[hm,Nat.mul_add];omega
 rw[Nat.testBit_and,e1,Nat.testBit_two_pow_mul_add _ oM,hm,We];by_cases hi:i<c
 ·have:¬c<=i:=oM
  simp[this]
 ·have h1:c<=i:=oM
  simp only[hi,h1,decide_true,Bool.true_and,if_false];rw[ZiN];by_cases e:i=c
  ·subst e;simp
  ·have:¬i-c=0:=oM
   simp[this,e]
theorem ZjQ{y:Nat}(h0:y≠0)(h:y<2 ^ 64):y.testBit (Lib.ctz 64 y)=true/\∀i,i<Lib.ctz 64 y->y.testBit i=false:=by
 obtain⟨m,hm,hc⟩:=Zaa h0 h;generalize Lib.ctz 64 y=c at *;rw[hm];refine⟨?_,fun i hi=>?_⟩
 ·rw[We];simp
 ·rw[We]
  have:¬c<=i:=oM;simp[this]
def JD(W:Nat->Nat)(p:Nat):List Nat:=(List.range p).filter (Xg W)
theorem ZaY{W:Nat->Nat}{p q:Nat}(hpq:p<=q)(h:∀i,p<=i->i<q->Xg W i=false):JD W q=JD W p:=by
 unfold JD;obtain⟨d,rfl⟩:∃d,q=p+d:=⟨q-p,oM⟩;rw[List.range_add,List.filter_append];have:((List.range d).map (p + ·)).filter (Xg W)=[]:=by
  rw[List.filter_eq_nil_iff];intro x hx;obtain⟨j,hj,rfl⟩:=List.mem_map.1 hx;rw[h (p+j) oM (by have:=List.mem_range.1 hj;omega)];simp
 rw[this,List.append_nil]
theorem Zi8{W:Nat->Nat}{p q:Nat}(hpq:p<=q)(h:∀i,p<=i->i<q->Xg W i=false)(hq:Xg W q=true):JD W (q+1)=JD W p++[q]:=by
 rw[<-ZaY hpq h];unfold JD;rw[List.range_succ,List.filter_append];simp[hq]
theorem ZjR{W:Nat->Nat}{p x:Nat}:x∈JD W p↔x<p/\Xg W x=true:=by unfold JD;rw[List.mem_filter,List.mem_range]
end Go.Proofs.YtlmgmkmomaileaaGreatDoor
namespace Go.Proofs.YtlmgmkmomaileaaGreatDoor
set_option maxHeartbeats 1000000
open Go.RowKit Go.Shelf
attribute [local go_sem] Oper.semAt_some
theorem ZkU{W:Nat->Nat}(h:XA W)(i:Nat):W i<18446744073709551616:=h i
theorem Zec(W:Nat->Nat)(i j:Nat)(hj:j<64):Xg W (64*i+j)=(W i).testBit j:=by
 unfold Xg;rw[show(64*i+j) / 64=i by omega,show(64*i+j) % 64=j by omega]
structure Zbw(W:Nat->Nat)(i k y:Nat):Prop where
 le:k<=64
 lt:y<18446744073709551616
 bit:∀j,y.testBit j=((W i).testBit j&&decide (k<=j))
theorem Zbw.start{W:Nat->Nat}(h:XA W)(i:Nat):Zbw W i 0 (W i):=⟨dC,ZkU h i,fun j=>sP⟩
theorem Zbw.next{W:Nat->Nat}{i k y:Nat}(h:Zbw W i k y)(h0:y≠0):Zbw W i (Lib.ctz 64 y+1) (y &&& (y-1))/\JD W (64*i+(Lib.ctz 64 y+1))=JD W (64*i+k)++[64*i+Lib.ctz 64 y]/\Lib.ctz 64 y<64/\(y &&& (y-1))<y:=by
 have hy:y<2 ^ 64:=h.lt;obtain⟨m,hm,hc⟩:=Zaa h0 hy;have hon:=ZjQ h0 hy;have hoff:=Zj4 h0 hy;have hb:=h.bit;have hle:y &&& (y-1)<=y-1:=Nat.and_le_right;generalize Lib.ctz 64 y=c at *;have hk:k<=c/\(W i).testBit c=true:=by
  have h1:=hon.1;rw[hb,Bool.and_eq_true,decide_eq_true_eq]at h1;exact⟨h1.2,h1.1⟩
 refine⟨⟨oM,oM,fun j=>?_⟩,?_,hc,oM⟩
 ·rw[hoff,hb]
  by_cases e:j=c
  ·subst e;simp
  ·by_cases e2:j<c
   ·have h2:=hon.2 j e2
    rw[hb]at h2;rw[h2];have:¬c+1<=j:=oM;simp[this]
   ·have h3:k<=j:=oM
    have h4:c+1<=j:=oM;simp[e,h3,h4]
 ·have e:64*i+(c+1)=(64*i+c)+1:=oM
  rw[e];refine Zi8 oM (fun q h1 h2=>?_) (by rw[Zec W i c hc];exact hk.2);obtain⟨j,rfl⟩:∃j,q=64*i+j:=⟨q-64*i,oM⟩;have h5:=hon.2 j oM;rw[hb]at h5;rw[Zec W i j oM];have h6:k<=j:=oM;simpa [h6]using h5
theorem Zbw.done{W:Nat->Nat}{i k:Nat}(h:Zbw W i k 0):JD W (64*(i+1))=JD W (64*i+k):=by
 refine ZaY (by have:=h.le;omega) (fun q h1 h2=>?_);obtain⟨j,rfl⟩:∃j,q=64*i+j:=⟨q-64*i,oM⟩;rw[Zec W i j oM];have h5:=h.bit j;have h6:k<=j:=oM;simpa [h6]using h5.symm
theorem ZjW{W:Nat->Nat}{p q:Nat}(h:p<=q):(JD W p).length<=(JD W q).length:=by
 unfold JD;obtain⟨d,rfl⟩:∃d,q=p+d:=⟨q-p,oM⟩;rw[List.range_add,List.filter_append,List.length_append];omega
theorem Zkq(n:Nat)(a:Option Addr)(len cap:Nat)(w:World) :
 CallsIn Fence.wide n Tryz.prog 74 #[.agg #[.slice a len cap]] w fun e w'=>e=.returned (.func (.func 116) #[] #[.pointer (some ⟨w.heap.size,0,none⟩)])/\w'=w.alloc (.cells #[.slice a len cap] 93):=by
 refine callsIn_of_wp Tryz.func74 rfl trivial ?_ rfl;simp only[Tryz.ntmps74,List.size_toArray,List.length_cons,List.length_nil,Nat.reduceAdd,Nat.reduceSub,Array.replicate_succ,Array.replicate_zero,List.push_toArray,List.append_toArray,List.nil_append,List.cons_append]
 gi_wp2
 go_ret
 exact⟨rfl,rfl⟩
end Go.Proofs.YtlmgmkmomaileaaGreatDoor
namespace Go.Proofs.YtlmgmkmomaileaaGreatDoor
set_option maxHeartbeats 2000000
set_option maxRecDepth 100000
open Go.RowKit Go.Shelf
attribute [local go_sem] Oper.semAt_some
theorem V8{W:Nat->Nat}{p x:Nat}:x∈JD W p↔x<p/\Xg W x=true:=by
 unfold JD;rw[List.mem_filter,List.mem_range]
theorem Zhx{W:Nat->Nat}{p q x:Nat}(h:p<=q)(hx:x∈JD W p):x∈JD W q:=by
 have:=V8.1 hx;exact V8.2 ⟨oM,this.2⟩
theorem Zh0(Bs g Kw C:Nat)(W:Nat->Nat)(Ms:Nat->Prop)(w:World)(hs:w.cell? ⟨Bs,0,none⟩=some (.slice (some ⟨g,0,none⟩) Kw C))(hg:Hid (WsAt w g Kw C W))(hwd:Hid (XA W))(hT:Hid (K5 w))(hK:Kw<=100)(hM2:Hid (¬Ms g))(hM3:Hid (¬Ms 2)) :
 Zkj Fence.wide 7 Tryz.prog 116 #[.pointer (some ⟨Bs,0,none⟩)] (fun x:Nat=>#[.int .i64 (x:Int)]) (fun x _=>x∈JD W (64*Kw)) (Zi w.heap.size Ms) (fun xs=>xs=JD W (64*Kw)) (JD W (64*Kw)).length w:=by
 intro l J W0 hW hl hJ hY h0;have HY:=Xa hY;have HJ:=Xa hJ;have H0:=Xa h0;clear hY hJ h0;have hBs:Bs<w.heap.size:=World.block_lt_of_cell? w _ hs;have hs0:=(hW.cell (p:=⟨Bs,0,none⟩) hBs).trans hs;have HG0:Hid (WsAt W0 g Kw C W):=Xa (hg.of_block (hW.block g hg.lt));have hgt:(2 : Nat)<w.heap.size:=World.block_lt_of_cell? w _ (hT.out 0 dC);have HT0:Hid (K5 W0):=Xa (hT.of_block (hW.block _ hgt));refine callsIn_of_wp Tryz.func116 rfl trivial ?_ rfl;simp only[Tryz.ntmps116,List.size_toArray,List.length_cons,List.length_nil,Nat.reduceAdd,Nat.reduceSub,Array.replicate_succ,Array.replicate_zero,List.push_toArray,List.append_toArray,List.nil_append,List.cons_append]
 gi_wp2
 gi_loopw [8] (fun i wr=>∃k:Nat,k<=Kw/\i=.int .i64 k/\Hid (J (JD W (64*k)) wr)/\Zi w.heap.size Ms W0 wr) (fun i _=>Kw-(intOf i).toNat)
 case atStart=>exact⟨0,Nat.zero_le _,rfl,Xa (by rw[Nat.mul_zero];exact H0.out),Zi.refl _⟩
 case round =>
  obtain⟨k,hk,rfl,HJk,hkp⟩:=hrel;by_cases hlt:k<Kw
  ·have hcw:=hkp.cell (HG0.cell hlt) hM2.out
   have HWO:=Xa (Zbw.start hwd.out k);have hwk:=hwd.out k;generalize hyk:W k=yk at hcw HWO hwk;clear hyk;generalize wr=wo at *;have hmul:IntKind.i64.wrap ((k:Int)*64)=(k:Int)*64:=by rw[IntKind.wrap_i64];omega
   have HKO:=Xa hkp;clear hkp
   gi_wp2
   clear hcw
   gi_loopw [4] (fun y wr=>∃yy p:Nat,y=.int .u64 yy/\Hid (Zbw W k p yy)/\Hid (J (JD W (64*k+p)) wr)/\Hid (Zi w.heap.size Ms W0 wr)) (fun y _=>(intOf y).toNat)
   case atStart=>exact⟨yk,0,rfl,HWO,HJk,HKO⟩
   case round =>
    clear HWO HJk HKO;obtain⟨yy,p,rfl,HWO,HJk,HKO⟩:=hrel;have hyl:=HWO.lt;by_cases h0:yy=0
    ·subst h0
     gi_wp2
     exact⟨⟨k+1,oM,gM,Xa (by rw[HWO.done];exact HJk.out),HKO.out⟩,by simp[intOf];omega⟩
    ·obtain⟨n1,n2,n3,n4⟩:=HWO.next h0
     have HN1:=Xa n1;have HN2:=Xa n2;have hy0:((yy:Int)==0)=false:=by simp;omega
     have hs1:IntKind.u64.wrap ((yy:Int)-1)=((yy-1:Nat):Int):=by rw[IntKind.wrap_u64];omega
     have hs2:=bits_and_u64_nat yy (yy-1) hyl oM;have HTZ:=Xa (Zk1 yy hyl h0 wr (Xa (HT0.of_block (HKO.low _ oM hM3.out))));have hlen:(JD W (64*k+p)).length<(JD W (64*Kw)).length:=by
      have h1:=congrArg List.length n2;have h2:=ZjW (W:=W) (p:=64*k+(Lib.ctz 64 yy+1)) (q:=64*Kw) oM;rw[List.length_append]at h1;simp at h1;omega
     have hmem:64*k+Lib.ctz 64 yy∈JD W (64*Kw):=Zhx (q:=64*Kw) (p:=64*k+(Lib.ctz 64 yy+1)) oM (by rw[n2];simp);obtain⟨fn,tmps,asg,bo,hy,hR⟩:=HY.out _ (64*k+Lib.ctz 64 yy) wr HJk.out hmem hlen;generalize Lib.ctz 64 yy=cc at *;generalize yy &&& (yy-1)=yn at *;have hadd:IntKind.i64.wrap ((k:Int)*64+(cc:Int))=(k:Int)*64+(cc:Int):=by rw[IntKind.wrap_i64];omega
     have he:(((64*k+cc:Nat)):Int)=(k:Int)*64+(cc:Int):=oM;rw[he]at hy;clear n1 n2 he hlen hmem
     gi_wp2
     refine⟨trivial,(callsIn_wide.2 HTZ.out).mono ?_⟩;rintro e w1 ⟨rfl,hw1⟩;subst hw1
     gi_wp2
     refine hR.mono ?_;rintro e W3 ⟨rfl,hJ3,hk3,_⟩;have HJ3:=Xa hJ3;have HK3:=Xa (HKO.trans hk3);clear hJ3 hk3 hR hy HTZ HY
     gi_wp2
     exact⟨⟨yn,cc+1,rfl,HN1,Xa (by rw[HN2.out];exact HJ3.out),HK3⟩,by simp[intOf];omega⟩
  ·have hke:k=Kw:=oM
   gi_wp2
   go_end0
   exact⟨⟨_,rfl⟩,_,rfl,by rw[<-hke];exact HJk.out⟩
end Go.Proofs.YtlmgmkmomaileaaGreatDoor
namespace Go.Proofs.YtlmgmkmomaileaaGreatDoor
theorem ZaC{A B:List Nat}(hA:A.Nodup)(h:∀x∈A,x∈B):A.length<=B.length:=by
 induction A generalizing B with
 | nil=>exact Nat.zero_le _
 | cons a A ih =>
  have h1:=List.nodup_cons.1 hA;have h2:∀x∈A,x∈B.erase a:=fun x hx=>(List.mem_erase_of_ne (fun e=>h1.1 (by rw[<-e];exact hx))).2 (h x (List.mem_cons_of_mem _ hx))
  have h3:=ih h1.2 h2;have ha:=h a List.mem_cons_self;rw[List.length_erase_of_mem ha]at h3;have:=List.length_pos_of_mem ha;simp only[List.length_cons];omega
theorem ZfR{m:List Nat}(h:¬m.Nodup):∃a,a∈m/\a∈m.erase a:=by
 induction m with
 | nil=>exact absurd List.nodup_nil h
 | cons b m ih =>
  by_cases hb:b∈m
  ·exact⟨b,List.mem_cons_self,by rw[List.erase_cons_head];exact hb⟩
  ·have hm:¬m.Nodup:=fun h2=>h (List.nodup_cons.2 ⟨hb,h2⟩)
   obtain⟨a,h1,h2⟩:=ih hm;have hne:¬b=a:=fun e=>hb (by rw[e];exact h1)
   refine⟨a,List.mem_cons_of_mem _ h1,?_⟩;rw[List.erase_cons_tail (by simpa using hne)];exact List.mem_cons_of_mem _ h2
theorem Zie(W:Nat->Nat)(p:Nat):(JD W p).Nodup:=by
 unfold JD;exact List.filter_sublist.nodup List.nodup_range
theorem Zi5{l:List Nat}{col:Nat->Nat}{T:Nat->Nat}{p:Nat}(h:∀c,c<p->(Xg T c=true↔∃v∈l,col v=c))(hp:∀v∈l,col v<p):(JD T p).length<l.length↔¬(l.map col).Nodup:=by
 have hmem:∀x,x∈JD T p↔x∈l.map col:=fun x=>by
  rw[ZjR,List.mem_map];constructor
  ·rintro⟨h1,h2⟩;exact(h x h1).1 h2
  ·rintro⟨v,h1,rfl⟩;exact⟨hp v h1,(h _ (hp v h1)).2 ⟨v,h1,rfl⟩⟩
 have hlen:(l.map col).length=l.length:=sP;constructor
 ·intro hlt hn
  have:=ZaC hn (fun x hx=>(hmem x).2 hx);omega
 ·intro hn
  obtain⟨a,h1,h2⟩:=ZfR hn;have h3:∀x∈JD T p,x∈(l.map col).erase a:=fun x hx=>by
   by_cases e:x=a
   ·rw[e];exact h2
   ·exact(List.mem_erase_of_ne e).2 ((hmem x).1 hx)
  have h4:=ZaC (Zie T p) h3;rw[List.length_erase_of_mem h1]at h4;have:=List.length_pos_of_mem h1;omega
end Go.Proofs.YtlmgmkmomaileaaGreatDoor
