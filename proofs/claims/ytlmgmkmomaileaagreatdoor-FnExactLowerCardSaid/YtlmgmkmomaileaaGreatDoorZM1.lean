import Derived.Test.YtlmgmkmomaileaaGreatDoorAS0
import Derived.Test.YtlmgmkmomaileaaGreatDoorMQ3
import Derived.Test.YtlmgmkmomaileaaGreatDoorW5b
namespace Go.Proofs.YtlmgmkmomaileaaGreatDoor
set_option maxHeartbeats 1000000
open Go.RowKit Go.Shelf
attribute [local go_sem] Oper.semAt_some
theorem Zdl(n:Nat)(v0 v1:Value)(w:World) :
 CallsIn Fence.wide n Tryz.prog 38 #[.agg #[v0,v1]] w fun e w'=>e=.returned (.func (.func 71) #[] #[.pointer (some ⟨w.heap.size,0,none⟩)])/\w'=w.alloc (.cells #[v0,v1] 33):=by
 refine callsIn_of_wp Tryz.func38 rfl trivial ?_ rfl;simp only[Tryz.ntmps38,List.size_toArray,List.length_cons,List.length_nil,Nat.reduceAdd,Nat.reduceSub,Array.replicate_succ,Array.replicate_zero,List.push_toArray,List.append_toArray,List.nil_append,List.cons_append]
 gi_wp2
 go_ret
 exact⟨rfl,rfl⟩
theorem ZhC(n Kw B z:Nat):OwnFrom B (Zi4 n Kw z):=fun p A V row h k q=>by
 have h1:=Zc5 n p.i Kw B z p A V row ⟨⟨Nat.le_refl _,h.1⟩,h.2⟩ k q;exact⟨h.1,h1.2⟩
theorem ZdU{n Kw z:Nat}{p:Sd}{V V':World}(h:Zi4 n Kw z p V)(k:Below V.heap.size V V'):Zi4 n Kw z p V':=⟨h.1,h.2.1.of_block (k.block z h.2.1.lt),h.2.2⟩
section
variable {w6 V V' : World} {Bm p : Nat} {pre : List Sd}
end
end Go.Proofs.YtlmgmkmomaileaaGreatDoor
namespace Go.Proofs.YtlmgmkmomaileaaGreatDoor
open Go.RowKit
theorem WB{xs:List Xh}{b:Nat}(hb:b<xs.length)(V i:Nat):ptQ xs V b i=Xs (ptP xs xs[b] V b i):=by
 unfold ptQ;rw[List.getElem?_eq_getElem hb]
theorem Zcp{xs:List Xh}{b:Nat}(hb:b<xs.length):(Tt xs b).length=xs[b].instrs.length:=by
 unfold Tt;rw[List.getElem?_eq_getElem hb];simp[Zk]
noncomputable def flQ(xs:List Xh)(V b:Nat):List (List Int):=(List.range b).flatMap fun s=>(List.range ((Tt xs s).length+1)).map (ptQ xs V s)
theorem WZ(xs:List Xh)(V b:Nat):flQ xs V (b+1)=flQ xs V b++(List.range ((Tt xs b).length+1)).map (ptQ xs V b):=by
 unfold flQ;rw[List.range_succ,List.flatMap_append];simp
theorem Us{xs:List Xh}{V b:Nat}(hb:b<xs.length){l:List Nat}:l∈Za5 xs V b↔∃i,i<=xs[b].instrs.length/\l=ptP xs xs[b] V b i:=by
 unfold Za5;rw[List.getElem?_eq_getElem hb];simp only[List.mem_append,List.mem_map,List.mem_singleton];constructor
 ·rintro(⟨j,_,e⟩ | e)
  ·exact⟨(j:Nat)+1,j.isLt,e.symm⟩
  ·exact⟨0,Nat.zero_le _,e⟩
 ·rintro⟨i,hi,e⟩
  cases i with
  | zero=>exact Or.inr e
  | succ j =>
   refine Or.inl ⟨⟨j,hi⟩,?_,e.symm⟩;unfold TT;rw[List.take_of_length_le sP];exact List.mem_reverse.2 (List.mem_finRange _)
end Go.Proofs.YtlmgmkmomaileaaGreatDoor
namespace Go.Proofs.YtlmgmkmomaileaaGreatDoor
def Ut(xs:List Xh):Prop:=∀b,b<xs.length->Re (XV xs) b
open Classical in
noncomputable def Z2(v:Int)(xs:List Xh):Int:=if Yq ⟨v,xs⟩=false then 9 else if ¬Ut xs then 10 else if ∃x,Bad xs x then 11 else 0
theorem ZeZ:∀(n:Nat)(F:List Nat),(∀b,b<n->b∈F)->n<=F.length
 | 0,_,_=>Nat.zero_le _
 | n+1,F,h=>by
  have h1:=ZeZ n (F.erase n) (fun b hb=>(List.mem_erase_of_ne oM).2 (h b oM));have h2:n∈F:=h n oM;rw[List.length_erase_of_mem h2]at h1;have:=List.length_pos_of_mem h2;omega
theorem Zca{xs:List Xh}(ho:OkF xs){F:List Nat}(hn:F.Nodup)(hm:∀x,x∈F↔Re (XV xs) x):F.length<=xs.length/\(F.length=xs.length↔Ut xs):=by
 have hl:F.length<=xs.length:=JM hn (fun x hx=>ho.re x ((hm x).1 hx));refine⟨hl,fun h b hb=>?_,fun h=>?_⟩
 ·apply Classical.byContradiction
  intro hc;have hnd:(b::F).Nodup:=List.nodup_cons.2 ⟨fun h2=>hc ((hm b).1 h2),hn⟩;have:=JM (n:=xs.length) hnd (fun x hx=>by
   rcases List.mem_cons.1 hx with rfl | hx
   ·exact hb
   ·exact ho.re x ((hm x).1 hx))
  rw[List.length_cons]at this;omega
 ·have:=ZeZ xs.length F (fun b hb=>(hm b).2 (h b hb))
  omega
open Classical in
theorem Tk{v:Int}{xs:List Xh}(h:Yq ⟨v,xs⟩=false):Z2 v xs=9:=by unfold Z2;rw[if_pos h]
open Classical in
theorem ZcF{v:Int}{xs:List Xh}(h:Yq ⟨v,xs⟩=true)(k:¬Ut xs):Z2 v xs=10:=by unfold Z2;rw[if_neg (by rw[h];decide),if_pos k]
open Classical in
theorem ZcB{v:Int}{xs:List Xh}(h:Yq ⟨v,xs⟩=true)(k:Ut xs)(m:∃x,Bad xs x):Z2 v xs=11:=by unfold Z2;rw[if_neg (by rw[h];decide),if_neg (fun q=>q k),if_pos m]
open Classical in
theorem ZcM{v:Int}{xs:List Xh}(h:Yq ⟨v,xs⟩=true)(k:Ut xs)(m:¬∃x,Bad xs x):Z2 v xs=0:=by unfold Z2;rw[if_neg (by rw[h];decide),if_neg (fun q=>q k),if_neg m]
end Go.Proofs.YtlmgmkmomaileaaGreatDoor
namespace Go.Proofs.YtlmgmkmomaileaaGreatDoor
open Go.RowKit
theorem ZgJ{xs:List Xh}{V:Nat}{l:List Nat}(h:l∈UW xs V xs.length){u:Nat}(hu:u∈l):u<V:=by
 obtain⟨s,hs,h1⟩:=List.mem_flatMap.1 h;obtain⟨i,_,rfl⟩:=(Us (List.mem_range.1 hs)).1 h1;unfold ptP at hu;exact List.mem_range.1 (List.mem_filter.1 hu).1
theorem WQ{xs:List Xh}{V:Nat}{l:List Int}:l∈flQ xs V xs.length↔∃y∈UW xs V xs.length,l=Xs y:=by
 unfold flQ UW;constructor
 ·intro h
  obtain⟨s,hs,h1⟩:=List.mem_flatMap.1 h;obtain⟨i,hi,rfl⟩:=List.mem_map.1 h1;have hs':=List.mem_range.1 hs;have hi:=List.mem_range.1 hi;rw[Zcp hs']at hi;exact⟨ptP xs xs[s] V s i,List.mem_flatMap.2 ⟨s,hs,(Us hs').2 ⟨i,oM,rfl⟩⟩,WB hs' V i⟩
 ·rintro⟨y,hy,rfl⟩
  obtain⟨s,hs,h1⟩:=List.mem_flatMap.1 hy;have hs':=List.mem_range.1 hs;obtain⟨i,hi,rfl⟩:=(Us hs').1 h1;exact List.mem_flatMap.2 ⟨s,hs,List.mem_map.2 ⟨i,List.mem_range.2 (by rw[Zcp hs'];omega),WB hs' V i⟩⟩
theorem Wj{xs:List Xh}{V:Nat}{l:List Int}(h:l∈flQ xs V xs.length):l.length<=V/\∀x∈l,∃k:Nat,k<V/\x=(k:Int):=by
 obtain⟨y,hy,rfl⟩:=WQ.1 h;constructor
 ·obtain⟨s,hs,h1⟩:=List.mem_flatMap.1 hy
  obtain⟨i,hi,rfl⟩:=(Us (List.mem_range.1 hs)).1 h1;have:=Zbv xs V s i;rw[WB (List.mem_range.1 hs)]at this;exact this
 ·intro x hx
  unfold Xs at hx;obtain⟨z,hz,rfl⟩:=List.mem_map.1 hx;exact⟨z,ZgJ hy hz,rfl⟩
def colI(cs:List Int)(v:Nat):Int:=cs.getD v 0
def V0(cs:List Int)(v:Nat):Nat:=(colI cs v).toNat
def pcQ(v:Int)(xs:List Xh)(cs:List Int)(k:Int):Prop:=Z2 v xs=0/\0<=k/\k<=2000/\(cs.length:Int)=v/\(∀c∈cs,0<=c/\c<k)/\∀l∈UW xs v.toNat xs.length,(l.map (V0 cs)).Nodup
open Classical in
noncomputable def TN(v:Int)(xs:List Xh)(cs:List Int)(k:Int):Bool:=decide (pcQ v xs cs k)
theorem ZS{v:Int}{xs:List Xh}{cs:List Int}{k:Int}(h:¬pcQ v xs cs k):TN v xs cs k=false:=by simp[TN,h]
theorem ZeF{v:Int}{xs:List Xh}{cs:List Int}{k:Int}(h:pcQ v xs cs k):TN v xs cs k=true:=by simp[TN,h]
def TU(cs:List Int)(l:List Int)(a:Nat):Int:=colI cs (l.getD a 0).toNat
def okA(cs l:List Int)(a:Nat):Prop:=∀a' b',a' < a->b' < a'->TU cs l a'≠TU cs l b'
def okB(cs l:List Int)(a b:Nat):Prop:=∀b',b' < b->TU cs l a≠TU cs l b'
def okU(cs:List Int)(fl:List (List Int))(i:Nat):Prop:=∀i',i' < i->okA cs (fl.getD i' []) (fl.getD i' []).length
theorem ZhQ(cs l:List Int):okA cs l 0:=fun a' b' h=>absurd h oM
theorem Zgr(cs l:List Int)(a:Nat):okB cs l a 0:=fun b' h=>absurd h oM
theorem Zij(cs:List Int)(fl:List (List Int)):okU cs fl 0:=fun i' h=>absurd h oM
theorem Zgz{cs l:List Int}{a b:Nat}(h:okB cs l a b)(h2:¬TU cs l a=TU cs l b):okB cs l a (b+1):=fun b' hb=>by
 by_cases e:b'=b
 ·subst e;exact h2
 ·exact h b' oM
theorem Zil{cs l:List Int}{a:Nat}(h:okA cs l a)(h2:okB cs l a a):okA cs l (a+1):=fun a' b' h1 h3=>by
 by_cases e:a'=a
 ·subst e;exact h2 b' h3
 ·exact h a' b' oM h3
theorem Zhe{cs:List Int}{fl:List (List Int)}{i:Nat}(h:okU cs fl i)(h2:okA cs (fl.getD i []) (fl.getD i []).length):okU cs fl (i+1):=fun i' h1=>by
 by_cases e:i'=i
 ·subst e;exact h2
 ·exact h i' oM
theorem Vg{cs:List Int}{k:Int}(h:∀c∈cs,0<=c/\c<k)(v:Nat):0<=colI cs v:=by
 unfold colI;rw[List.getD_eq_getElem?_getD];by_cases hv:v<cs.length
 ·rw[List.getElem?_eq_getElem hv];exact(h _ (List.getElem_mem hv)).1
 ·rw[List.getElem?_eq_none oM];decide
theorem Uv{cs:List Int}{y:List Nat}{a:Nat}(ha:a<y.length):TU cs (Xs y) a=colI cs y[a]:=by
 unfold TU Xs;rw[List.getD_eq_getElem?_getD,List.getElem?_map,List.getElem?_eq_getElem ha];rfl
theorem ZeV{cs:List Int}{k:Int}(h:∀c∈cs,0<=c/\c<k)(y:List Nat):okA cs (Xs y) (Xs y).length↔(y.map (V0 cs)).Nodup:=by
 have hl:(Xs y).length=y.length:=by simp[Xs]
 rw[hl];show _↔List.Pairwise _ _;rw[List.pairwise_iff_getElem];simp only[List.length_map,List.getElem_map];constructor
 ·intro h1 i j hi hj hij e
  have:=h1 j i hj hij;rw[Uv hj,Uv hi]at this;have n1:=Vg h y[i];have n2:=Vg h y[j];unfold V0 at e;exact this oM
 ·intro h1 a b ha hb e
  rw[Uv ha,Uv oM]at e;exact h1 b a oM ha hb (by unfold V0;rw[e])
theorem Ze5{xs:List Xh}{V:Nat}{cs:List Int}{k:Int}(h:∀c∈cs,0<=c/\c<k):okU cs (flQ xs V xs.length) (flQ xs V xs.length).length↔∀l∈UW xs V xs.length,(l.map (V0 cs)).Nodup:=by
 constructor
 ·intro h1 l hl
  obtain⟨i,hi,e⟩:=List.getElem_of_mem (WQ.2 ⟨l,hl,rfl⟩);have:=h1 i hi;rw[List.getD_eq_getElem?_getD,List.getElem?_eq_getElem hi,Option.getD_some,e]at this;exact(ZeV h l).1 this
 ·intro h1 i hi
  rw[List.getD_eq_getElem?_getD,List.getElem?_eq_getElem hi,Option.getD_some];obtain⟨y,hy,e⟩:=WQ.1 (List.getElem_mem hi);rw[e];exact(ZeV h y).2 (h1 y hy)
theorem ZhP{v:Int}{xs:List Xh}{cs:List Int}{k:Int}{i a b:Nat}{l:List Int}(hl:l=(flQ xs v.toNat xs.length).getD i [])(hi:i<(flQ xs v.toNat xs.length).length)(ha:a<l.length)(hb:b<a)(e:TU cs l a=TU cs l b):¬pcQ v xs cs k:=fun h=>by
 have:=(Ze5 h.2.2.2.2.1).2 h.2.2.2.2.2 i hi;rw[<-hl]at this;exact this a b ha hb e
end Go.Proofs.YtlmgmkmomaileaaGreatDoor
namespace Go.Proofs.YtlmgmkmomaileaaGreatDoor
set_option maxHeartbeats 4000000
set_option maxRecDepth 100000
open Go.RowKit
theorem Zjs(W:Nat->Nat)(K:Nat):0<cntN W K↔∃x,x<64*K/\Xg W x=true:=by
 unfold cntN;rw[List.countP_pos_iff];constructor
 ·rintro⟨x,h1,h2⟩;exact⟨x,List.mem_range.1 h1,h2⟩
 ·rintro⟨x,h1,h2⟩;exact⟨x,List.mem_range.2 h1,h2⟩
theorem Zig(x y:Value)(W:World):(Instr.field 134 (.agg #[x,y]) 0).run Tryz.prog W=.ok x W:=vZ
theorem ZbF(v:Int)(a:Option Addr)(n c:Nat)(xs:List Xh)(L B:Nat)(w:World)(ha:Hid (Xk w L B a xs))(hx:Hid (n=xs.length))(hs:Hid (xs.length+Xn xs<=1048576))(hB:B<=w.heap.size)(hO:Hid (XQ w))(hT:Hid (Ye w)) :
 Calls Tryz.prog 37 #[.agg #[.int .i64 v,.slice a n c]] w fun e w'=>e=.returned (.int .i64 (Z2 v xs))/\Below w.heap.size w w':=by
 have HVF:=Xa (fun W (hb:Below w.heap.size w W)=>VW v a n c xs L B W (Xa (ha.keep (hb.mono hB))) hx hs (by have:=hb.size;omega) (Xa (hO.keep hb hO.1).old) (Xa (hT.keep hb hT.1).old));cases hv:Yq ⟨v,xs⟩with
 | false =>
  rw[hv]at HVF;rw[Tk hv];clear hv
  go_enter Tryz.func37,Tryz.ntmps37
  go_wp2_with fail
  refine(HVF.out _ (Xb (Below.refl _ _) _)).mono ?_;rintro e w1 ⟨rfl,hb1⟩;have HB1:=Xa (Xd (Xb (Below.refl w.heap.size w) _) hb1);clear hb1 HVF
  go_wp2_with fail
  go_ret
  exact⟨rfl,HB1.out⟩
 | true =>
  rw[hv]at HVF;have HV:=Xa hv;have hv0:0<=v:=by
   simp only[Yq,Yt,Bool.and_eq_true,decide_eq_true_eq]at hv;omega
  obtain⟨V,rfl⟩:=Int.eq_ofNat_of_zero_le hv0;have HOK:Hid (Jd V xs):=Xa (YI hv);have hn:n<=1000:=by have:=hx.out;have:=HOK.okf.n2;omega
  have hn0:0<n:=by have:=hx.out;have:=HOK.okf.n1;omega
  have hK2:n<=64*((n+63) / 64):=oM;have hK3:(n+63) / 64<=100:=oM;generalize hvr:Z2 (V:Int) xs=vr;have HVR:=Xa hvr;clear hv hv0 hvr
  go_enter Tryz.func37,Tryz.ntmps37
  go_wp2_with fail
  have hW0:Below w.heap.size w (w.alloc (.cells #[.int .i64 (V:Int),.slice a n c] 33)):=Xb (Below.refl _ _) _;have hf0:(w.alloc (.cells #[.int .i64 (V:Int),.slice a n c] 33)).cell? ⟨w.heap.size,0,none⟩=some (.int .i64 (V:Int)):=sP;have hf1:(w.alloc (.cells #[.int .i64 (V:Int),.slice a n c] 33)).cell? ⟨w.heap.size,1,none⟩=some (.slice a n c):=sP;have hz0:w.heap.size<(w.alloc (.cells #[.int .i64 (V:Int),.slice a n c] 33)).heap.size:=sP;refine(HVF.out _ hW0).mono ?_;rintro e w1 ⟨rfl,hb1⟩;have HB1:=Xa (Xd hW0 hb1);have g0:=(hb1.cell (p:=⟨w.heap.size,0,none⟩) hz0).trans hf0;have g1:=(hb1.cell (p:=⟨w.heap.size,1,none⟩) hz0).trans hf1;have hz1:w.heap.size<w1.heap.size:=Nat.lt_of_lt_of_le hz0 hb1.size;clear hb1 hW0 hf0 hf1 hz0 HVF
  go_wp2_with fail
  refine(TD (V:Int) a n c w1 hn).mono ?_;rintro e w2 ⟨bS,gS,rfl,hbS,hgS,hb2,hsea⟩;have HB2:=Xa (Xd HB1.out hb2);have HSEA:=Xa hsea;have k0:=(hb2.cell (p:=⟨w.heap.size,0,none⟩) hz1).trans g0;have k1:=(hb2.cell (p:=⟨w.heap.size,1,none⟩) hz1).trans g1;have hz2:=hb2.size;have HTN:Hid (∀x∈xs,∀t∈x.term.targets,0<=t/\t<(n:Int)):=Xa (by rw[hx.out];exact HOK.okf.tgt);have HVI:=Xa (ZaH bS gS w2.heap.size ((n+63) / 64) n c a xs L B hx hn hK2 hK3 oM oM oM HTN n 0 (fun _=>0) (.slice none 0 0) [] w2 HSEA (Xa (ha.keep (HB2.mono hB))) hn0 (Xa (Jf _ _)) (Xa J1) (by simpa using Jf (fun _=>0) n));clear hb2 hsea g0 g1
  go_wp2_with fail
  refine HVI.mono ?_;rintro e w3 ⟨rfl,v',hf,hse⟩;have hlow:Below w.heap.size w w3:=⟨hf.os.trans HB2.os,hf.tape.trans HB2.tape,hf.output.trans HB2.output,Nat.le_trans HB2.size hf.size,fun q hq=>(hf.block q oM oM oM (fun e=>by cases e)).trans (HB2.block q hq)⟩;have hbf:=hf.block w.heap.size oM oM oM (fun e=>by cases e);have m0:=(Xc hbf).trans k0;have m1:=(Xc hbf).trans k1;have hse2:YN w3 bS gS w2.heap.size ((n+63) / 64) a n c (WS xs).1 v' (WS xs).2:=by
   unfold WS;rw[<-hx.out];exact hse
  obtain⟨q1,q2,q3,q4⟩:=HOK.okf.top;have HFU:=Xa (Zca HOK.okf (F:=Zbk xs) q3 q1);have hlen:(Zbk xs).length=(WS xs).2.length:=by unfold Zbk;rw[List.length_reverse]
  have hown:=hse2.own;rw[show KN (WS xs).2=(Xs (WS xs).2).map (Value.int .i64) by simp[KN,Xs]]at hown;obtain⟨aL,cL,eL,_⟩:=Xl hown;have s2:w3.cell? ⟨bS,2,none⟩=some (.slice aL (Zbk xs).length cL):=by
   have h:=hse2.c2;rw[eL,show(Xs (WS xs).2).length=(Zbk xs).length by rw[hlen];simp[Xs]]at h;exact h
  have HLOW:=Xa hlow;obtain⟨nl,hnl⟩:∃m,m=(Zbk xs).length:=⟨_,rfl⟩;rw[<-hnl]at s2;have HNL:=Xa hnl;have hnl2:nl<=n:=by rw[hnl,hx.out];exact HFU.1
  have HAR:Hid (nl=n↔Ut xs):=Xa (by rw[hnl,hx.out];exact HFU.2);have HFL:=Xa (Um V a n c xs L B w3.drew (Xa (ha.keep (hlow.drew.mono hB))) hx (by have:=hlow.drew.size;omega) HOK (Xa (hO.keep hlow.drew hO.1)) (Xa (hT.keep hlow.drew hT.1)));have hz3:w.heap.size<w3.heap.size:=World.block_lt_of_cell? w3 _ m0;clear hf hse hse2 hlow hbf hown eL hlen hnl q1 q2 q3 q4 k0 k1 HVI HSEA HFU;by_cases hlt:nl<n
  ·have HR:Hid (vr=10):=Xa (by rw[<-HVR.out];exact ZcF HV.out (fun h=>by have:=HAR.2 h;omega))
   go_wp2_with fail
   go_region
   go_wp2_with fail
   go_ret
   exact⟨by rw[HR.out];rfl,HLOW.drew⟩
  ·have HAL:Hid (Ut xs):=Xa (HAR.1 oM)
   have hfi:=fun x y W=>Zig x y W
   go_wp2_with fail
   go_region
   go_wp2_with fail
   refine HFL.mono ?_;rintro e w4 ⟨Gi,Go,gi,go,ci,WI,WX,rfl,hR⟩;have HR4:=Xa hR;have x0:w4.cell? ⟨Gi,0,none⟩=some (.slice (some ⟨gi 0,0,none⟩) ((V+63) / 64) (ci 0)):=hR.si.row.cell hn0;have hV:=HOK.vle;have HCN:=Xa (TC (gi 0) ((V+63) / 64) (ci 0) (WI 0) w4 (Xa (hR.wi 0)) (Xa (hR.si.set 0 hn0)) oM);have hcn:=Ub (WI 0) ((V+63) / 64);have HL4:Hid (Below w.heap.size w w4):=Xa (HLOW.drew.trans (hR.low.mono HLOW.drew.size));have HBA:Hid (0<cntN (WI 0) ((V+63) / 64)↔∃x,Bad xs x):=Xa (by
    obtain⟨I,T,W0,ord,h1,h2,h3,h4,h5,_⟩:=hR.inn;have hbi:∀{x:Nat},Sp I T (·∈ord) (XV xs) 0 x↔Bad xs x:=fun {x}=>ZiV HOK.out h1 h2 h3 (ord:=(·∈ord)) h4 (src:=XV xs) (fun _ _=>rfl)
    rw[Zjs];constructor
    ·rintro⟨x,hx1,hx2⟩
     exact⟨x,hbi.1 ((h5 0 hn0 x hx1).1 hx2)⟩
    ·rintro⟨x,hx1⟩
     have hlt:=ZhR HOK.out hx1;have hx2:x<64*((V+63) / 64):=oM;exact⟨x,hx2,(h5 0 hn0 x hx2).2 (hbi.2 hx1)⟩)
   clear hR HFL;generalize hcc:cntN (WI 0) ((V+63) / 64)=cc at *;clear hcc;generalize (V+63) / 64=K4 at *
   go_wp2_with fail
   refine HCN.mono ?_;rintro e w5 ⟨rfl,hb5⟩;have HB5:=Xa (Xd HL4.out hb5);clear hb5 HCN x0;by_cases hc0:0<cc
   ·have HRR:Hid (vr=11):=Xa (by rw[<-HVR.out];exact ZcB HV.out HAL.out (HBA.1 hc0))
    go_wp2_with fail
    go_ret
    exact⟨by rw[HRR.out];rfl,HB5.out⟩
   ·have HRR:Hid (vr=0):=Xa (by rw[<-HVR.out];exact ZcM HV.out HAL.out (fun h=>hc0 (HBA.2 h)))
    go_wp2_with fail
    go_ret
    exact⟨by rw[HRR.out];rfl,HB5.out⟩
end Go.Proofs.YtlmgmkmomaileaaGreatDoor
namespace Go.Proofs.YtlmgmkmomaileaaGreatDoor
set_option maxHeartbeats 4000000
set_option maxRecDepth 100000
open Go.RowKit Go.Shelf
attribute [local go_sem] Oper.semAt_some
theorem Zv{F:Fence}{n:Nat}{P:Program}{fn:Func}{tmps:Array Value}{R:Ending->World->Prop}{W:World}(h:∃v,(results fn tmps).run P W=.ok v W/\R (.returned v) W):LeavesInM F n P fn tmps R [] .returning W:=h
theorem Zgk{v:Int}{xs:List Xh}(h:Z2 v xs=0):Yq ⟨v,xs⟩=true:=by
 cases hv:Yq ⟨v,xs⟩with
 | true=>rfl
 | false=>rw[Tk hv]at h;exact absurd h dC
def okK(cs:List Int)(k:Int)(q:Nat):Prop:=∀i (h:i<cs.length),i<q->0<=cs[i]/\cs[i]<k
theorem Zg7(cs:List Int)(k:Int):okK cs k 0:=fun i _ h=>absurd h oM
theorem Zg8{cs:List Int}{k:Int}{q:Nat}(h:okK cs k q)(hq:q<cs.length)(h2:0<=cs[q]/\cs[q]<k):okK cs k (q+1):=fun i hi hq'=>by
 by_cases e:i=q
 ·subst e;exact h2
 ·exact h i hi oM
theorem Zj1{cs:List Int}{k:Int}(h:okK cs k cs.length):∀c∈cs,0<=c/\c<k:=fun c hc=>by
 obtain⟨i,hi,rfl⟩:=List.getElem_of_mem hc;exact h i hi hi
theorem ZfM{v:Int}{xs:List Xh}{cs:List Int}{k:Int}{q:Nat}(hq:q<cs.length)(h:¬(0<=cs[q]/\cs[q]<k)):¬pcQ v xs cs k:=fun h2=>h (h2.2.2.2.2.1 _ (List.getElem_mem hq))
structure PcI(w3:World)(p:Nat)(cs:List Int)(pre:List Sd)(V:World):Prop where
 low:Below w3.heap.size w3 V
 ok:∀s∈pre,((sdW p s).map (V0 cs)).Nodup
structure PcX(w3:World)(Br p:Nat)(cs:List Int)(pre:List Sd)(V:World):Prop where
 os:V.os=w3.os
 tape:V.tape=w3.tape
 output:V.output=w3.output
 size:w3.heap.size<=V.heap.size
 bl:Br<w3.heap.size
 fr:∀q,q<w3.heap.size->q≠Br->V.heap[q]?=w3.heap[q]?
 row:V.rowIs Br 4 1 (fun _=>.bool false)
 bad:∃s∈pre,¬((sdW p s).map (V0 cs)).Nodup
section
variable {w3 V V' : World} {Br p : Nat} {cs : List Int} {pre : List Sd}
theorem PcI.far(h:PcI w3 p cs pre V)(k:Below w3.heap.size V V'):PcI w3 p cs pre V':=⟨h.low.trans k,h.ok⟩
theorem PcI.own(w3:World)(p:Nat)(cs:List Int):OwnFrom w3.heap.size (PcI w3 p cs):=fun pre V V' row h k q=>by
 have:=h.low.size;exact h.far ⟨k.os,k.tape,k.output,k.size,fun b hb=>k.block b oM (fun e=>by have:=(q b e.symm).1;omega)⟩
theorem PcX.far(h:PcX w3 Br p cs pre V)(k:Below w3.heap.size V V'):PcX w3 Br p cs pre V' :=
 ⟨k.os.trans h.os,k.tape.trans h.tape,k.output.trans h.output,Nat.le_trans h.size k.size,h.bl,fun q q1 q2=>(k.block q q1).trans (h.fr q q1 q2),h.row.of_block (k.block _ h.bl),h.bad⟩
theorem PcX.own(w3:World)(Br p:Nat)(cs:List Int):OwnFrom w3.heap.size (PcX w3 Br p cs):=fun pre V V' row h k q=>by
 have:=h.size;exact h.far ⟨k.os,k.tape,k.output,k.size,fun b hb=>k.block b oM (fun e=>by have:=(q b e.symm).1;omega)⟩
end
theorem Zib{cs:List Int}{k:Int}{l:List Nat}(h:∀c∈cs,0<=c/\c<k)(hl:∀u∈l,u<cs.length)(c:Nat):ZdB cs l c↔∃v∈l,V0 cs v=c:=by
 unfold ZdB V0 colI;constructor
 ·rintro⟨v,h1,h2⟩
  refine⟨v,h1,?_⟩;rw[List.getD_eq_getElem?_getD,h2];rfl
 ·rintro⟨v,h1,h2⟩
  refine⟨v,h1,?_⟩;rw[List.getD_eq_getElem?_getD,List.getElem?_eq_getElem (hl v h1),Option.getD_some]at h2;rw[List.getElem?_eq_getElem (hl v h1)];have:=(h _ (List.getElem_mem (hl v h1))).1;exact congrArg some oM
theorem ZiG{cs:List Int}{kk:Nat}(h:∀c∈cs,0<=c/\c<(kk:Int)){v:Nat}(hv:v<cs.length):V0 cs v<kk:=by
 unfold V0 colI;rw[List.getD_eq_getElem?_getD,List.getElem?_eq_getElem hv,Option.getD_some];have:=h _ (List.getElem_mem hv);omega
theorem Ziq(v:Int)(a:Option Addr)(n c:Nat)(xs:List Xh)(L B:Nat)(ac:Option Addr)(nc cc:Nat)(cs:List Int)(Lc Bc:Nat)(k:Int)(w:World)(ha:Hid (Xk w L B a xs))(hx:Hid (n=xs.length))(hs:Hid (xs.length+Xn xs<=1048576))(hB:B<=w.heap.size)(hO:Hid (XQ w))(hT:Hid (Ye w))(hZ:Hid (K5 w))(hc:Hid (Xf w Lc Bc ac cs))(hcx:Hid (nc=cs.length))(hBc:Bc<=w.heap.size)(hnc:nc<=1048576) :
 Calls Tryz.prog 21 #[.agg #[.int .i64 v,.slice a n c],.slice ac nc cc,.int .i64 k] w fun e w'=>e=.returned (.bool (TN v xs cs k))/\Below w.heap.size w w':=by
 have HVD:=Xa (fun W (hb:Below w.heap.size w W)=>ZbF v a n c xs L B W (Xa (ha.keep (hb.mono hB))) hx hs (by have:=hb.size;omega) (Xa (hO.keep hb hO.1)) (Xa (hT.keep hb hT.1)));obtain⟨vd,hvd⟩:∃vd,vd=Z2 v xs:=⟨_,rfl⟩;rw[<-hvd]at HVD;have HVd:=Xa hvd;clear hvd;refine(callsIn_wide (n:=10)).1 ?_;refine callsIn_of_wp_marks Tryz.func21 rfl trivial ?_ rfl;simp only[Tryz.ntmps21,List.size_toArray,List.length_cons,List.length_nil,Nat.reduceAdd,Nat.reduceSub,Array.replicate_succ,Array.replicate_zero,List.push_toArray,List.append_toArray,List.nil_append,List.cons_append]
 gi_wp2
 have hb0:Below w.heap.size w ((((w.alloc (.cells #[.int .i64 v,.slice a n c] 33)).alloc (.cells #[.slice ac nc cc] 25)).alloc (.cells #[.int .i64 k] 2)).alloc (.cells #[.bool false] 4)):=Xb (Xb (Xb (Xb (Below.refl _ _) _) _) _) _;have hs0:w.heap.size+4<=((((w.alloc (.cells #[.int .i64 v,.slice a n c] 33)).alloc (.cells #[.slice ac nc cc] 25)).alloc (.cells #[.int .i64 k] 2)).alloc (.cells #[.bool false] 4)).heap.size:=sP;have c0:((((w.alloc (.cells #[.int .i64 v,.slice a n c] 33)).alloc (.cells #[.slice ac nc cc] 25)).alloc (.cells #[.int .i64 k] 2)).alloc (.cells #[.bool false] 4)).cell? ⟨w.heap.size,0,none⟩=some (.int .i64 v):=by simp[go_sem]
 have c1:((((w.alloc (.cells #[.int .i64 v,.slice a n c] 33)).alloc (.cells #[.slice ac nc cc] 25)).alloc (.cells #[.int .i64 k] 2)).alloc (.cells #[.bool false] 4)).cell? ⟨w.heap.size,1,none⟩=some (.slice a n c):=by simp[go_sem]
 have c2:((((w.alloc (.cells #[.int .i64 v,.slice a n c] 33)).alloc (.cells #[.slice ac nc cc] 25)).alloc (.cells #[.int .i64 k] 2)).alloc (.cells #[.bool false] 4)).cell? ⟨w.heap.size+1,0,none⟩=some (.slice ac nc cc):=by simp[go_sem]
 have c3:((((w.alloc (.cells #[.int .i64 v,.slice a n c] 33)).alloc (.cells #[.slice ac nc cc] 25)).alloc (.cells #[.int .i64 k] 2)).alloc (.cells #[.bool false] 4)).cell? ⟨w.heap.size+2,0,none⟩=some (.int .i64 k):=by simp[go_sem]
 have HR0:Hid (((((w.alloc (.cells #[.int .i64 v,.slice a n c] 33)).alloc (.cells #[.slice ac nc cc] 25)).alloc (.cells #[.int .i64 k] 2)).alloc (.cells #[.bool false] 4)).rowIs (w.heap.size+3) 4 1 (fun _=>.bool false)):=Xa (by
  have h:=World.rowIs_alloc (((w.alloc (.cells #[.int .i64 v,.slice a n c] 33)).alloc (.cells #[.slice ac nc cc] 25)).alloc (.cells #[.int .i64 k] 2)) #[.bool false] 4 (fun _=>.bool false) (fun i hi=>by match i,hi with | 0,_=>rfl)
  rw[World.size_alloc,World.size_alloc,World.size_alloc]at h;exact h)
 generalize (((w.alloc (.cells #[.int .i64 v,.slice a n c] 33)).alloc (.cells #[.slice ac nc cc] 25)).alloc (.cells #[.int .i64 k] 2)).alloc (.cells #[.bool false] 4)=w0 at *;refine⟨trivial,(callsIn_wide.2 (HVD.out w0 hb0)).mono ?_⟩;rintro e w1 ⟨rfl,hb1⟩;have hs1:=hb1.size;have k0:=(Xu hb1 oM).trans c0;have k1:=(Xu hb1 oM).trans c1;have k2:=(Xu hb1 oM).trans c2;have k3:=(Xu hb1 oM).trans c3;have HR1:=Xa (HR0.of_block (hb1.block _ oM));have k4:=HR1.cell (i:=0) dC;have k5:=HR1.frozen 0;have HB1:=Xa (Xd hb0 hb1);have HEX:Hid (TN v xs cs k=false->(w1.setCell ⟨w.heap.size+3,0,none⟩ (.bool false)).cell? ⟨w.heap.size+3,0,none⟩=some (.bool (TN v xs cs k))/\Below w.heap.size w (w1.setCell ⟨w.heap.size+3,0,none⟩ (.bool false))):=Xa (fun h=>by
  refine⟨?_,HB1.setCell (by show w.heap.size<=w.heap.size+3;omega) _⟩;rw[h];simpa using(HR1.set 0 (.bool false)).cell (i:=0) dC)
 clear hb1 hb0 c0 c1 c2 c3 HVD HR0;by_cases hv:vd=0
 case neg =>
  have HN:=Xa (HEX.out (ZS (v:=v) (xs:=xs) (cs:=cs) (k:=k) (fun h=>hv (HVd.trans h.1))));have hv1:(vd != 0)=true:=by rw[bne_iff_ne];exact hv
  gi_wp2
  have hres:=HN.1;exact Zv ⟨.bool (TN v xs cs k),by simp[results,Tryz.results21,go_sem,hres],rfl,HN.2⟩
 subst hv;by_cases hk0:k<0
 ·have HN:=Xa (HEX.out (ZS (v:=v) (xs:=xs) (cs:=cs) (k:=k) (fun h=>by have:=h.2.1;omega)))
  gi_wp2
  have hres:=HN.1;exact Zv ⟨.bool (TN v xs cs k),by simp[results,Tryz.results21,go_sem,hres],rfl,HN.2⟩
 by_cases hk1:2000<k
 ·have HN:=Xa (HEX.out (ZS (v:=v) (xs:=xs) (cs:=cs) (k:=k) (fun h=>by have:=h.2.2.1;omega)))
  gi_wp2
  have hres:=HN.1;exact Zv ⟨.bool (TN v xs cs k),by simp[results,Tryz.results21,go_sem,hres],rfl,HN.2⟩
 by_cases hlv:(nc:Int)=v
 case neg =>
  have HN:=Xa (HEX.out (ZS (v:=v) (xs:=xs) (cs:=cs) (k:=k) (fun h=>hlv (by rw[hcx.out];exact h.2.2.2.1))));have hv1:((nc:Int) != v)=true:=by rw[bne_iff_ne];exact hlv
  gi_wp2
  have hres:=HN.1;exact Zv ⟨.bool (TN v xs cs k),by simp[results,Tryz.results21,go_sem,hres],rfl,HN.2⟩
 subst hlv;have hv1:((nc:Int) != (nc:Int))=false:=sP;have HOK:Hid (Jd nc xs):=Xa (YI (Zgk HVd.symm));have hVl:=HOK.vle;have HC1:Hid (∀(q:Nat)(h:q<nc),∃b o,ac=some ⟨b,o,none⟩/\w1.cell? ⟨b,o+q,none⟩=some (.int .i64 (colI cs q))/\∃h:q<cs.length,colI cs q=cs[q]):=Xa (fun q hq=>by
  have hq':q<cs.length:=by rw[<-hcx.out];exact hq
  obtain⟨b,o,e,hb,h⟩:=hc.out q hq';have e2:colI cs q=cs[q]:=by
   unfold colI;rw[List.getD_eq_getElem?_getD,List.getElem?_eq_getElem hq'];rfl
  refine⟨b,o,e,?_,hq',e2⟩;rw[e2];exact(Xu HB1.out oM).trans h)
 gi_wp2
 gi_loop [30] (fun i=>∃q:Nat,q<=nc/\i=.int .i64 q/\Hid (okK cs k q)) (fun i=>nc-(intOf i).toNat)
 case atStart=>exact⟨0,Nat.zero_le _,rfl,Xa (Zg7 _ _)⟩
 case round =>
  obtain⟨q,hq,rfl,HQ⟩:=hrel;by_cases hlt:q<nc
  ·obtain⟨b,o,rfl,e0,hq',eq⟩:=HC1.out q hlt
   have HNO:=Xa (fun h=>HEX.out (ZS (ZfM (v:=(nc:Int)) (xs:=xs) (k:=k) hq' h)));have HYS:=Xa (fun h=>Zg8 HQ.out hq' h);rw[<-eq]at HNO HYS;clear eq HEX;generalize colI cs q=Y at *;have hqi:(q:Int)<(nc:Int):=oM;by_cases hC0:Y<0
   ·have HN:=Xa (HNO.out oM)
    gi_wp2
    have hres:=HN.1;exact Zv ⟨.bool (TN (nc:Int) xs cs k),by simp[results,Tryz.results21,go_sem,hres],rfl,HN.2⟩
   by_cases hC1:k<=Y
   ·have HN:=Xa (HNO.out oM)
    gi_wp2
    have hres:=HN.1;exact Zv ⟨.bool (TN (nc:Int) xs cs k),by simp[results,Tryz.results21,go_sem,hres],rfl,HN.2⟩
   ·gi_wp2
    exact⟨⟨q+1,oM,gM,Xa (HYS.out oM)⟩,by simp[intOf];omega⟩
  ·have hqn:q=nc:=oM
   subst hqn;have HCA:Hid (∀c∈cs,0<=c/\c<k):=Xa (Zj1 (by rw[<-hcx.out];exact HQ.out));clear HQ HC1 HEX k4 k5;obtain⟨kk,rfl⟩:=Int.eq_ofNat_of_zero_le (show 0<=k by omega)
   gi_wp2
   generalize decide ((kk:Int)<0)=d1;generalize decide (2000<(kk:Int))=d2;generalize (d1||d2)=d3;refine⟨trivial,(Zdl 9 _ _ w1).mono ?_⟩;rintro e w3 ⟨rfl,hw3⟩;have hb3:Below w1.heap.size w1 w3:=by rw[hw3];exact Xb (Below.refl _ _) _
   have hz3:w1.heap.size+1<=w3.heap.size:=by rw[hw3,World.size_alloc];exact Nat.le_refl _
   have hf0:w3.cell? ⟨w1.heap.size,0,none⟩=some (.int .i64 (q:Int)):=by rw[hw3];simp[go_sem]
   have hf1:w3.cell? ⟨w1.heap.size,1,none⟩=some (.slice a n c):=by rw[hw3];simp[go_sem]
   have HW3:Hid (Below w.heap.size w w3):=Xa (Xd HB1.out hb3);have HF2:=Xa ((Xu hb3 oM).trans k2);have HF3:=Xa ((Xu hb3 oM).trans k3);have HR3:=Xa (HR1.of_block (hb3.block _ oM));obtain⟨Kw,hkw⟩:∃m,m=(q+63) / 64:=⟨_,rfl⟩;have HKW:=Xa hkw;have hKW:Kw<=100:=oM;obtain⟨Kr,hkr⟩:∃m,m=(kk+63) / 64:=⟨_,rfl⟩;have HKR:=Xa hkr;have hKR:Kr<=100:=oM;have hkK:kk<=64*Kr:=oM;have hO1:=hO.1;have hT1:=hT.1;have hgt:(2 : Nat)<w.heap.size:=World.block_lt_of_cell? w _ (hZ.out 0 dC);have HA3:Hid (Xk w3 L B a xs):=Xa (ha.keep (HW3.mono hB));have HO3:=Xa (hO.keep HW3.out hO.1);have HT3:=Xa (hT.keep HW3.out hT.1);have HF0:=Xa hf0;have HF1:=Xa hf1;have hn:n<=1000:=by have:=hx.out;have:=HOK.okf.n2;omega
   clear hb3 hw3 hkw hkr hf0 hf1 k0 k1 k2 k3 HR1 hk0 hk1 hv1
   gi_wp2
   refine Zeu (F:=Fence.wide) (n:=10) rfl dC (gf:=71) (lb:=#[.pointer (some ⟨w1.heap.size,0,none⟩)]) rfl trivial (enters_of Tryz.func71 vZ rfl) (ZgT w3.heap.size w1.heap.size L B q n c Kw a (fun z=>z=w.heap.size+3) xs w3 HF0.out HF1.out HA3 hx oM (Nat.le_refl _) HO3 HT3 oM oM HOK HKW (Xa (fun z h1 h2 e=>oM)) (Xa (fun z h1 e=>oM)) (Xa (fun e=>oM)) (Xa (fun e=>oM))) (fun z=>ZhC _ _ _ z) (fun h k=>h.trans k) (fun W l o o' h1 h2 h3=>Zi.putObj W l o o' oM h2 h3) (Below.refl _ _) (fun _ _=>rfl)
    (fun _=>PcI w3 (64*Kw) cs) (fun c pre V=>c=.ret/\PcX w3 (w.heap.size+3) (64*Kw) cs pre V) (fun _=>PcI.own w3 _ _) (fun c s A V row h k q=>⟨h.1,PcX.own w3 _ _ _ s A V row h.2 k q⟩) (fun _ z s A A' hz h g=>h.far ⟨g.os,g.tape,g.output,g.size,fun b hb=>g.block b (by have:=h.low.size;omega) (fun e=>by injection e with e;omega)⟩) (fun _=>⟨fun z z' s A A' _ h k=>h.far (k.mono oM),fun c s A A' h k=>⟨h.1,h.2.far (k.mono oM)⟩⟩) (fun z U _ _ hU=>⟨hU,fun s h=>by simp at h⟩)
    (fun z p a' U=>∃bp:Nat,a'=⟨#[.agg #[.int .i64 (q:Int),.slice a n c],.slice ac q cc,.int .i64 (kk:Int),.pointer (some ⟨w.heap.size,0,none⟩),.pointer (some ⟨w.heap.size+1,0,none⟩),.pointer (some ⟨w.heap.size+1+1,0,none⟩),.pointer (some ⟨w.heap.size+1+1+1,0,none⟩),undef,u8,.pointer (some ⟨bp,0,none⟩),.agg #[.int .i64 (q:Int),.slice a n c],.int .i64 0,.bool false,.bool false,.int .i64 (kk:Int),.bool d1,.bool d1,.bool d1,.int .i64 (kk:Int),.bool d2,.bool d3,.bool d3,.slice ac q cc,.int .i64 (q:Int),.pointer (some ⟨w.heap.size,0,none⟩),.int .i64 (q:Int),.bool false,.bool d3,.slice ac q cc,.int .i64 (q:Int),.int .i64 (q:Int),.bool false,u32,u33,u34,u35,u36,u37,u38,u39,u40,u41,.agg #[.int .i64 (q:Int),.slice a n c],.func (.func 71) #[] #[.pointer (some ⟨w1.heap.size,0,none⟩)],.agg #[.slice (some ⟨z,0,none⟩) Kw p.C],undef,undef,undef,undef,undef,undef,undef,undef],[]⟩/\w3.heap.size<=bp/\U.cell? ⟨bp,0,none⟩=some (.slice (some ⟨z,0,none⟩) Kw p.C)) ?ownA ?assign ?body ?done ?stop
   case ownA =>
    rintro z p a' _ A U row ⟨bp,e,h1,h2⟩ g qq;refine⟨bp,e,h1,(Xc (g.block bp (World.block_lt_of_cell? A _ h2) (fun e2=>?_))).trans h2⟩;obtain⟨ob,h3,h4⟩:=Yz h2;obtain⟨_,o2,h5,h6⟩:=qq bp e2.symm;rw[show A.heap[bp]?=some ob from h3]at h5;injection h5 with h5;subst h5;rw[h4]at h6;cases h6
   case assign =>
    intro l' z pre p U KK hz hI hP hKK;have HII:=Xa hI;have HPP:=Xa hP;have HKK:=Xa hKK;clear hI hP hKK;unfold ZjO
    gi_wp2
    have hbA:Below U.heap.size U (U.alloc (.cells #[.slice (some ⟨z,0,none⟩) Kw p.C] 93)):=Xb (Below.refl _ _) _;exact HKK.out _ _ ⟨hbA.size,fun k o h1 _=>(hbA.block k (Array.getElem?_eq_some_iff.1 h1).1).trans h1⟩ (Zi.of_below hbA HII.low.size) (HII.far (hbA.mono HII.low.size)) (ZdU HPP.out hbA) ⟨U.heap.size,rfl,HII.low.size,by simp[go_sem]⟩
   case body =>
    rintro l' z pre p a' U hz hl' _ hI hP ⟨bp,rfl,hbp,hcp⟩ hlen;have HII:=Xa hI;have hzU:=hI.low.size;have e2:=(Xu hI.low oM).trans HF2.out;have e3:=(Xu hI.low oM).trans HF3.out;have HRU:=Xa (HR3.of_block (hI.low.block _ oM));have HWU:Hid (Below w.heap.size w U):=Xa (HW3.trans (hI.low.mono HW3.size));have HCO:=Xa (fun W (hW:Below U.heap.size U W)=>ZbN z Kw p.C p.W ac q cc kk Kr cs Lc Bc W (Xa (hP.2.1.of_block (hW.block z hP.2.1.lt))) (Xa hP.2.2) (Xa (hc.keep ((HWU.trans (hW.mono HWU.size)).mono hBc))) hcx (by have:=hW.size;omega) (Xa (hZ.of_block ((HWU.trans (hW.mono HWU.size)).block _ hgt))) hKW (Xa hP.1) oM HKR (Xa (fun c hc=>Or.inr (HCA.out c hc))));have HCC:=Xa (fun W g T (h1:WsAt W g Kr Kr T) (h2:XA T)=>Zap g Kr Kr T W (Xa h2) (Xa h1) oM);have HCV:=Xa (fun W (hW:Below U.heap.size U W)=>TC z Kw p.C p.W W (Xa hP.2.2) (Xa (hP.2.1.of_block (hW.block z hP.2.1.lt))) oM);have HIM:Hid (∀T,(∀c,c<64*Kr->(Xg T c=true↔ZdB cs (JD p.W (64*Kw)) c))->(cntN T Kr<cntN p.W Kw↔¬((sdW (64*Kw) p).map (V0 cs)).Nodup)):=Xa (fun T h=>by
     have hl:∀u∈JD p.W (64*Kw),u<cs.length:=fun u hu=>by
      have h1:=V8.1 hu;rw[<-hcx.out];exact hP.1 u h1.1 h1.2
     rw[Zhp,Zhp];exact Zi5 (fun c hc=>(h c hc).trans (Zib HCA.out hl c)) (fun v hv=>Nat.lt_of_lt_of_le (ZiG HCA.out (hl v hv)) hkK))
    clear hI hP
    gi_wp2
    refine TI (fun w'=>w'.cell? ⟨bp,0,none⟩=some (.slice (some ⟨z,0,none⟩) Kw p.C)/\w'.cell? ⟨w.heap.size+1,0,none⟩=some (.slice ac q cc)/\w'.cell? ⟨w.heap.size+2,0,none⟩=some (.int .i64 (kk:Int))) (fun hHeld=>?_);refine Yh 0 ?_;refine Yh 1 ?_;refine Yh 2 ?_;refine Yh 5 ?_;refine Yx 3 (fun K hK=>?_);go_simp;refine⟨trivial,(CallsIn.inRound l' (callsIn_wide.2 (HCO.out U.drew (Below.refl U.heap.size U).drew))).mono ?_⟩;rintro e U5 ⟨g,T,rfl,hg5,hb5',hw5,hd5,hr5⟩;have hb5:Below U.heap.size U U5:=⟨hb5'.os,hb5'.tape,hb5'.output,hb5'.size,hb5'.block⟩;have HB5:=Xa hb5;have a1:=(hb5.cell (p:=⟨bp,0,none⟩) (World.block_lt_of_cell? U _ hcp)).trans hcp;have a2:=(hb5.cell (p:=⟨w.heap.size+1,0,none⟩) (World.block_lt_of_cell? U _ e2)).trans e2;have a3:=(hb5.cell (p:=⟨w.heap.size+2,0,none⟩) (World.block_lt_of_cell? U _ e3)).trans e3;have HC5:=Xa (HCC.out U5 g T hw5 hd5);have HIM5:=Xa (HIM.out T hr5);have HV5:=Xa (HCV.out);have hct:=Ub T Kr;have hcv:=Ub p.W Kw;clear hb5 hb5' hw5 hd5 hr5 HCO HCC HIM HCV;refine hK _ _ ⟨a1,a2,a3⟩ (fun hHeld=>?_);clear hK;refine Yx 4 (fun K hK=>?_);go_simp;refine⟨trivial,(CallsIn.inRound l' (callsIn_wide.2 HC5.out)).mono ?_⟩;rintro e U6 ⟨rfl,hb6'⟩;have hb6:Below U5.heap.size U5 U6:=⟨hb6'.os,hb6'.tape,hb6'.output,hb6'.size,hb6'.block⟩;have HB6:=Xa (Xd HB5.out hb6);have d1':=(hb6.cell (p:=⟨bp,0,none⟩) (World.block_lt_of_cell? U5 _ a1)).trans a1;have d2':=(hb6.cell (p:=⟨w.heap.size+1,0,none⟩) (World.block_lt_of_cell? U5 _ a2)).trans a2;have d3':=(hb6.cell (p:=⟨w.heap.size+2,0,none⟩) (World.block_lt_of_cell? U5 _ a3)).trans a3;have HV6:=Xa (HV5.out U6 HB6.out);generalize cntN T Kr=nT at *;generalize cntN p.W Kw=nV at *;clear hb6 hb6' HC5 HV5;refine hK _ _ ⟨d1',d2',d3'⟩ (fun hHeld=>?_);clear hK;refine Yx 6 (fun K hK=>?_);go_simp;refine⟨trivial,(CallsIn.inRound l' (callsIn_wide.2 HV6.out)).mono ?_⟩;rintro e U7 ⟨rfl,hb7'⟩;have hb7:Below U6.heap.size U6 U7:=⟨hb7'.os,hb7'.tape,hb7'.output,hb7'.size,hb7'.block⟩;have HB7:=Xa (Xd HB6.out hb7);have g1:=(hb7.cell (p:=⟨bp,0,none⟩) (World.block_lt_of_cell? U6 _ d1')).trans d1';have g2:=(hb7.cell (p:=⟨w.heap.size+1,0,none⟩) (World.block_lt_of_cell? U6 _ d2')).trans d2';have g3:=(hb7.cell (p:=⟨w.heap.size+2,0,none⟩) (World.block_lt_of_cell? U6 _ d3')).trans d3';clear hb7 hb7' HV6;refine hK _ _ ⟨g1,g2,g3⟩ (fun hHeld=>?_);clear hK;refine Yx 7 (fun K hK=>?_);go_simp;refine hK _ _ kP (fun hHeld=>?_);clear hK;refine Jt ?_;clear hHeld;have HR7:=Xa (HRU.of_block (HB7.block _ HRU.lt));have r7:=HR7.cell (i:=0) dC;have f7:=HR7.frozen 0;by_cases hlt7:(nT:Int)<(nV:Int)
    ·gi_wp2
     have hkk:Zi w3.heap.size (fun z=>z=w.heap.size+3) U (U7.setCell ⟨w.heap.size+3,0,none⟩ (.bool false)):=(Zi.of_below HB7.out hzU).trans (Zz ⟨rfl,rfl,rfl,by simp[World.setCell],fun k _ hk=>Below.heap_setCell _ _ _ _ (fun e=>hk (by rw[e]))⟩ rfl (by have:=HB7.size;omega));have h7:=HII.low.trans (HB7.mono hzU);refine⟨⟨hkk.size,fun z ob h1 h2 h3=>?_⟩,hkk,rfl,⟨h7.os,h7.tape,h7.output,by rw[Xe];exact h7.size,oM,fun z q1 q2=>(Below.heap_setCell _ _ _ _ q2).trans (h7.block z q1),?_,p,List.mem_append_right _ (List.mem_singleton.2 rfl),HIM5.1 oM⟩⟩
     ·exact(Below.heap_setCell _ _ _ _ (by show z≠w.heap.size+3;omega)).trans ((HB7.block z (Array.getElem?_eq_some_iff.1 h2).1).trans h2)
     ·exact(HR7.set 0 _).congr (fun i hi=>by rw[show i=0 by omega];simp)
    ·gi_wp2
     refine⟨⟨HB7.size,fun z ob h1 h2 h3=>(HB7.block z (Array.getElem?_eq_some_iff.1 h2).1).trans h2⟩,Zi.of_below HB7.out hzU,HII.low.trans (HB7.mono hzU),fun s hs=>?_⟩;rcases List.mem_append.1 hs with h | h
     ·exact HII.ok s h
     ·rw[List.mem_singleton.1 h]
      exact Classical.not_not.1 (fun h2=>by have:=HIM5.2 h2;omega)
   case done =>
    rintro D z ss U hD hz hS' hI hKD;have HII:=Xa hI;have HKD:=Xa hKD;have HRU:=Xa (HR3.of_block (hI.low.block _ oM));have r7:=HRU.cell (i:=0) dC;have f7:=HRU.frozen 0;have hDl:D<U.heap.size:=(Array.getElem?_eq_some_iff.1 hKD).1;have HPC:Hid (TN (q:Int) xs cs (kk:Int)=true):=Xa (ZeF ⟨HVd.symm,oM,oM,by rw[hcx.out],HCA.out,fun l hl=>by
     rw[show((q:Int)).toNat=q from rfl,<-hx.out,<-hS']at hl;obtain⟨s,hs,rfl⟩:=List.mem_map.1 hl;exact hI.ok s hs⟩)
    clear hI hKD hS'
    gi_wp2
    have HKD2:Hid ((U.setCell ⟨w.heap.size+3,0,none⟩ (.bool true)).heap[D]?=some (.deferred (some []))):=Xa ((Below.heap_setCell _ _ _ _ (by show D≠w.heap.size+3;omega)).trans HKD.out);have hres:((U.setCell ⟨w.heap.size+3,0,none⟩ (.bool true)).putObj D (.deferred none)).cell? ⟨w.heap.size+3,0,none⟩=some (.bool true):=by
     refine(World.cell?_of_block (a:=⟨w.heap.size+3,0,none⟩) (World.putObj_heap_other (show w.heap.size+3≠D by omega))).trans ?_;simpa using(HRU.set 0 (.bool true)).cell (i:=0) dC
    refine YK HKD2.out ⟨.bool true,by simp[results,Tryz.results21,go_sem,hres],?_⟩;have hUw:Below w.heap.size w U:=HW3.trans (HII.low.mono HW3.size);have hUs:Below w.heap.size w (U.setCell ⟨w.heap.size+3,0,none⟩ (.bool true)):=hUw.setCell (by show w.heap.size<=w.heap.size+3;omega) _;have hg:=grownBy_putObj' (U.setCell ⟨w.heap.size+3,0,none⟩ (.bool true)) D (.deferred none);have hzw:=HW3.size;exact⟨by rw[HPC.out],hg.os.trans hUs.os,hg.tape.trans hUs.tape,hg.output.trans hUs.output,Nat.le_trans hUs.size hg.size,fun z hz=>(World.putObj_heap_other oM).trans (hUs.block z hz)⟩
   case stop =>
    rintro D c' pre U hD hSp ⟨rfl,hX⟩ hKD;have HKD:=Xa hKD;have hDl:D<U.heap.size:=(Array.getElem?_eq_some_iff.1 hKD).1;have HPC:Hid (TN (q:Int) xs cs (kk:Int)=false):=Xa (ZS (fun h=>by
     obtain⟨s,hs,hb⟩:=hX.bad;refine hb (h.2.2.2.2.2 _ ?_);rw[show((q:Int)).toNat=q from rfl,<-hx.out];exact hSp.subset (List.mem_map.2 ⟨s,hs,rfl⟩)))
    have HX:=Xa hX;clear hX hKD hSp
    gi_wp2
    have hres:(U.putObj D (.deferred none)).cell? ⟨w.heap.size+3,0,none⟩=some (.bool false):=(World.cell?_of_block (a:=⟨w.heap.size+3,0,none⟩) (World.putObj_heap_other (show w.heap.size+3≠D by omega))).trans (HX.row.cell (i:=0) dC);refine YK HKD.out ⟨.bool false,by simp[results,Tryz.results21,go_sem,hres],?_⟩;have hg:=grownBy_putObj' U D (.deferred none);have hzw:=HW3.size;exact⟨by rw[HPC.out],hg.os.trans (HX.os.trans HW3.os),hg.tape.trans (HX.tape.trans HW3.tape),hg.output.trans (HX.output.trans HW3.output),Nat.le_trans HW3.size (Nat.le_trans HX.size hg.size),fun z hz=>(World.putObj_heap_other oM).trans ((HX.fr z oM oM).trans (HW3.block z hz))⟩
end Go.Proofs.YtlmgmkmomaileaaGreatDoor
