import Derived.Laws.CopyOwn
import Derived.Test.YtlmgmkmomaileaaGreatDoorW14c
import Derived.Test.YtlmgmkmomaileaaGreatDoorPL1
namespace Go.Proofs.YtlmgmkmomaileaaGreatDoor
set_option maxHeartbeats 1000000
set_option maxRecDepth 100000
open Go.RowKit
def Zby(W:Nat->Nat)(x:Nat):Nat->Nat:=fun i=>if i=x / 64 then W i &&& (18446744073709551615-2 ^ (x % 64))else W i
theorem Zdp{t:Nat}(h:t<64):2 ^ t<18446744073709551616:=Nat.lt_of_lt_of_le (Nat.pow_lt_pow_right dC h) dC
theorem ZiQ(W:Nat->Nat)(x y:Nat):Xg (Zby W x) y=(decide (y≠x)&&Xg W y):=by
 unfold Xg Zby
 by_cases e:y / 64=x / 64
 ·rw[if_pos e,Nat.testBit_and,Zbf (Zdp (Nat.mod_lt _ dC)) (Nat.mod_lt _ dC),Nat.testBit_two_pow]
  by_cases h:x % 64=y % 64
  ·have:y=x:=oM
   simp[this]
  ·have:y≠x:=fun q=>h (by rw[q])
   simp[h,this]
 ·rw[if_neg e]
  have:y≠x:=fun q=>e (by rw[q])
  simp[this]
theorem ZjV{W:Nat->Nat}(h:XA W)(x:Nat):XA (Zby W x):=fun i=>by
 unfold Zby
 split
 ·exact Nat.lt_of_le_of_lt Nat.and_le_left (h i)
 ·exact h i
def delsN(W:Nat->Nat)(ts:List Nat):Nat->Nat:=ts.foldl Zby W
theorem Zf1{W:Nat->Nat}{ts:List Nat}{q:Nat}(h:q<ts.length):delsN W (ts.take (q+1))=Zby (delsN W (ts.take q)) ts[q]:=by
 unfold delsN;rw[List.take_succ_eq_append_getElem h,List.foldl_append];rfl
theorem J2:∀(ts:List Nat){W:Nat->Nat},XA W->XA (delsN W ts)
 | [],_,h=>h
 | t::ts,_,h=>J2 ts (ZjV h t)
theorem JJ:∀(ts:List Nat)(W:Nat->Nat)(y:Nat),Xg (delsN W ts) y=(decide (y ∉ ts)&&Xg W y)
 | [],_,_=>by simp[delsN]
 | t::ts,W,y=>by
  have h:=JJ ts (Zby W t) y;have e:delsN W (t::ts)=delsN (Zby W t) ts:=rfl;rw[e,h,ZiQ];by_cases h1:y=t<;>by_cases h2:y∈ts<;>simp[h1,h2]
theorem Zcn{W t:Nat}(ht:t<64)(hW:W<18446744073709551616):bits .andNot .u64 (W:Int) (IntKind.u64.wrap (2 ^ t))=((W &&& (18446744073709551615-2 ^ t):Nat):Int):=by
 have h2:=Zdp ht;have e:IntKind.u64.wrap (2 ^ t)=((2 ^ t:Nat):Int):=by
  rw[IntKind.wrap_u64];have:((2 ^ t:Nat):Int)=(2:Int) ^ t:=sP;rw[<-this];exact Int.emod_eq_of_lt (Int.natCast_nonneg _) (Int.ofNat_lt.2 h2)
 rw[e,u64_andNot_nat _ _ hW h2]
theorem Ji(g K C n c:Nat)(W:Nat->Nat)(a:Option Addr)(ts:List Nat)(L B:Nat)(w:World)(ha:Hid (Xf w L B a (ts.map Int.ofNat)))(hx:Hid (n=ts.length))(hn:n<=4000)(ht:Hid (∀t∈ts,t<64*K))(hK:K<=1000)(hW:Hid (XA W))(hr:Hid (WsAt w g K C W))(hB:B<=w.heap.size)(hgL:¬(L<=g/\g<B)) :
 Calls Tryz.prog 110 #[.agg #[.slice (some ⟨g,0,none⟩) K C],.slice a n c] w fun e w'=>e=.returned (.tuple #[])/\w.grownBy w' (some g)/\WsAt w' g K C (delsN W ts):=by
 go_enter Tryz.func110,Tryz.ntmps110
 go_wp2;have hg:g<w.heap.size:=hr.lt
 go_loopw [8] (fun u wr=>∃q:Nat,q<=n/\u=.int .i64 q/\Hid (w.grownBy wr (some g))/\wr.cell? ⟨w.heap.size,0,none⟩=some (.slice (some ⟨g,0,none⟩) K C)/\Hid (WsAt wr g K C (delsN W (ts.take q)))) (fun u _=>n-(intOf u).toNat)
 case atStart=>exact⟨0,Nat.zero_le _,rfl,Xa (World.grownBy_alloc _ _ _),sP,Xa (hr.alloc _)⟩
 case round =>
  obtain⟨q,hq,rfl,HG,hs,HR⟩:=hrel;by_cases hlt:q<n
  ·have hqx:q<ts.length:=by have:=hx.out;omega
   obtain⟨b,o,rfl,hbB,e0w⟩:=ha.out q (by simpa using hqx);have e0:=(Xc (HG.block b oM (fun e=>by injection e with e;omega))).trans e0w;rw[List.getElem_map]at e0;have htq:=ht.out _ (List.getElem_mem hqx);have HT:=Xa (Zf1 (W:=W) hqx);have HWA:=Xa (J2 (ts.take q) hW.out);clear e0w;generalize ts[q]=t at *;have h2:=Zhy t;have h3:=Zif t;have e0':wr.cell? ⟨b,o+q,none⟩=some (.int .i64 (t:Int)):=e0;clear e0;generalize delsN W (ts.take q)=W1 at *;have hd:t / 64<K:=oM;have hm:t % 64<64:=Nat.mod_lt _ dC;have ec:=HR.cell hd;have ez:=HR.frozen;have HOR:=Xa (Zcn hm (HWA.out (t / 64)));have HAD:Hid (∀i,(if i=t / 64 then W1 (t / 64) &&& (18446744073709551615-2 ^ (t % 64))else W1 i)=delsN W (ts.take (q+1)) i):=Xa (fun i=>by
    rw[HT.out];unfold Zby
    by_cases e:i=t / 64
    ·rw[if_pos e,if_pos e,e]
    ·rw[if_neg e,if_neg e])
   generalize hd2:t / 64=td at *;generalize hm2:t % 64=tm at *;go_wp2
   go_region
   go_wp2;rw[HOR.out];have kk:wr.grownBy (wr.setCell ⟨g,td,none⟩ (.int .u64 ((W1 td &&& (18446744073709551615-2 ^ tm):Nat):Int))).drew (some g):=⟨rfl,rfl,rfl,by simp[World.setCell,World.drew],fun k _ hk=>Below.heap_setCell _ _ _ _ (fun e=>hk (by rw[e]))⟩;refine⟨⟨q+1,oM,gM,Xa (HG.andThen kk (fun j hj=>by cases hj;exact Or.inr rfl)),?_,Xa ?_⟩,by simp[intOf];omega⟩
   ·exact(World.cell?_setCell_far wr ⟨g,td,none⟩ ⟨w.heap.size,0,none⟩ _ (by show g≠w.heap.size;omega)).trans hs
   ·refine WsAt.drew ((HR.set td _ hd).congr (fun i _=>?_))
    rw[<-HAD.out i]
  ·have hqn:q=n:=oM
   have HX:Hid (ts.take q=ts):=Xa (List.take_of_length_le (by have:=hx.out;omega));rw[HX.out]at HR;go_wp2
   go_end0
   exact⟨rfl,HG.out,HR.out⟩
theorem Zee(g K C:Nat)(W:Nat->Nat)(w:World)(hr:Hid (WsAt w g K C W))(hK:K<=1000) :
 Calls Tryz.prog 131 #[.slice (some ⟨g,0,none⟩) K C] w fun e w'=>∃g' C',e=.returned (.slice (some ⟨g',0,none⟩) K C')/\w.heap.size<=g'/\Below w.heap.size w w'/\WsAt w' g' K C' W:=by
 obtain⟨i0,hi0,hz0,hz1,hz2⟩:=info_parts Tryz.infoU64valueNo;have q22:∀(w:World)(a:Option Addr)(n c n' c':Nat),(binOp .eql 91 (.slice a n c) (.slice none n' c')).run Tryz.prog w=.ok (.bool a.isNone) w:=fun w a n c n' c'=>Lib.run_eql_slice_nil w _ _ a n c n' c' Tryz.underlying91
 have hg:=hr.lt;have HO0:Hid ((w.alloc (.cells #[] 145)).ownsRow w.heap.size 145 1 (.slice (some ⟨w.heap.size,0,none⟩) 0 0) 0 []):=Xa (World.ownsRow_lit (base:=w.heap.size) (e:=145) (size:=1) w #[] 0 sP sP rfl)
 go_enter Tryz.func131,Tryz.ntmps131
 go_wp2_with (at_builtin;refine wpList_append_own _ rfl _ _ 91 rfl w.heap.size 145 i0 (.int .u64 0) 1 8 Tryz.underlying91 hi0 hz0 hz1 hz2 rfl dC _ _ _ rfl HO0.out ⟨g,0,none⟩ K C ((List.range K).map fun i=>Value.int .u64 (W i:Int)) rfl ?c0 ?c1 ?c2 ?c3 ?c4 ?c5 ?_)
 case c0=>simp
 case c1 =>
  intro j u hj;rw[List.getElem?_map]at hj;by_cases e:j<K
  ·rw[List.getElem?_range e]at hj
   simp at hj;subst hj;have:=(hr.alloc (.cells #[] 145)).cell e;have e2:(⟨g,0,none⟩:Addr).add j=⟨g,j,none⟩:=by rw[Addr.add_lit];simp
   rw[e2];exact this
  ·rw[List.getElem?_eq_none (by simp;omega)]at hj
   cases hj
 case c2 =>
  intro u hu;obtain⟨i,_,rfl⟩:=List.mem_map.1 hu;rfl
 case c3=>unfold maxLen;omega
 case c4=>omega
 case c5=>simp
 intro v1 w1 hown1 hgrow1 hnil;have hvn:v1≠.slice none 0 0:=by simpa using hnil
 have hb:=Xr (Xb (Below.refl w.heap.size w) _) hgrow1 HO0.out (Nat.le_refl _) sP;have hown2:w1.ownsRow w.heap.size 145 1 v1 ((List.range K).map W).length (((List.range K).map W).map fun x:Nat=>Value.int .u64 (x:Int)):=by
  have e:(((List.range K).map W).map fun x:Nat=>Value.int .u64 (x:Int))=(List.range K).map fun i=>Value.int .u64 (W i:Int):=sP
  rw[e];simpa using hown1
 obtain⟨g',C',rfl,hg',hw'⟩:=WsAt.of_own hown2 hvn;have HB:=Xa hb;have HW:Hid (WsAt w1 g' K C' W):=Xa (by
  have e:((List.range K).map W).length=K:=sP;rw[e]at hw';exact hw'.congr (fun i hi=>by simp[hi]))
 have e:((List.range K).map W).length=K:=sP;rw[e];clear hb hown1 hown2 hgrow1 hnil hvn hw' e;go_wp2
 go_ret
 exact⟨_,_,rfl,hg',HB.out,HW.out⟩
theorem T4(g K C:Nat)(W:Nat->Nat)(w:World)(hr:Hid (WsAt w g K C W))(hK:K<=1000) :
 Calls Tryz.prog 108 #[.agg #[.slice (some ⟨g,0,none⟩) K C]] w fun e w'=>∃g' C',e=.returned (.agg #[.slice (some ⟨g',0,none⟩) K C'])/\w.heap.size<=g'/\Below w.heap.size w w'/\WsAt w' g' K C' W:=by
 go_enter Tryz.func108,Tryz.ntmps108
 go_wp2_with fail
 have HA:Hid (Below w.heap.size w ((w.alloc (.cells #[.slice (some ⟨g,0,none⟩) K C] 93)).alloc (.cells #[.slice none 0 0] 93))):=Xa (Xb (Xb (Below.refl _ _) _) _);have hzA:((w.alloc (.cells #[.slice (some ⟨g,0,none⟩) K C] 93)).alloc (.cells #[.slice none 0 0] 93)).heap.size=w.heap.size+2:=sP;have hrA:=(hr.alloc (.cells #[.slice (some ⟨g,0,none⟩) K C] 93)).alloc (.cells #[.slice none 0 0] 93);have hcA:((w.alloc (.cells #[.slice (some ⟨g,0,none⟩) K C] 93)).alloc (.cells #[.slice none 0 0] 93)).cell? ⟨w.heap.size+1,0,none⟩=some (.slice none 0 0):=by simp[go_sem]
 have hfA:((w.alloc (.cells #[.slice (some ⟨g,0,none⟩) K C] 93)).alloc (.cells #[.slice none 0 0] 93)).frozen? ⟨w.heap.size+1,0,none⟩=false:=by simp[go_sem]
 generalize (w.alloc (.cells #[.slice (some ⟨g,0,none⟩) K C] 93)).alloc (.cells #[.slice none 0 0] 93)=wa at *;refine(Zee g K C W wa (Xa hrA) hK).mono ?_;rintro e w1 ⟨g1,C1,rfl,hg1,hb1,hw1⟩;have f1:=(Xu hb1 oM).trans hcA;have f2:w1.frozen? ⟨w.heap.size+1,0,none⟩=false:=by rw[World.frozen?_of_block (w:=wa) (a:=⟨w.heap.size+1,0,none⟩) (hb1.block _ (by show w.heap.size+1<_;omega))];exact hfA
 have HB1:=Xa (Xd HA.out hb1);have HW1:=Xa hw1;clear hb1 hw1 hcA hfA
 go_wp2_with fail
 refine bodyPost_ret (v:=.agg #[.slice (some ⟨g1,0,none⟩) K C1]) (by simp[results,Tryz.results108,go_sem,f1]) rfl ?_;exact⟨_,_,rfl,oM,HB1.setCell (by show w.heap.size<=w.heap.size+1;omega) _,HW1.setOther (by show g1≠w.heap.size+1;omega) _⟩
theorem TD(vl:Int)(a:Option Addr)(n c:Nat)(w:World)(hn:n<=1000) :
 Calls Tryz.prog 68 #[.agg #[.int .i64 vl,.slice a n c]] w fun e w'=>∃bS gS,e=.returned (.pointer (some ⟨bS,0,none⟩))/\w.heap.size<=bS/\w.heap.size<=gS/\Below w.heap.size w w'/\YN w' bS gS w'.heap.size ((n+63) / 64) a n c (fun _=>0) (.slice none 0 0) []:=by
 have HNS:=Xa (fun W=>VL n W oM)
 go_enter Tryz.func68,Tryz.ntmps68
 go_wp2_with fail
 refine Z1 (fun w'=>w'.cell? ⟨w.heap.size,1,none⟩=some (.slice a n c)) (fun hHeld=>?_);refine Xi 0 ?_;refine Xi 1 ?_;refine Xi 2 ?_;refine Xi 3 ?_;refine Xi 4 ?_;refine Xt 5 (fun K hK=>?_);go_simp
 go_at_call 103
 refine(HNS.out _).mono ?_;rintro e w3 ⟨gS,rfl,hgS,hb3,hr3⟩;have hz3:w.heap.size+1<=w3.heap.size:=by have:=hb3.size;simp at this;omega
 have hc3:w3.cell? ⟨w.heap.size,1,none⟩=some (.slice a n c):=(hb3.cell (p:=⟨w.heap.size,1,none⟩) (by show w.heap.size<_;simp)).trans (by simp[go_sem]);have hgl:=hr3.lt;have HB3:Hid (Below w.heap.size w w3):=Xa (Xd (w1:=(w.alloc (.cells #[.int .i64 vl,.slice a n c] 33)).drew) (Xb (Below.refl _ _) _).drew hb3);have HR3:=Xa hr3;have hgb:w.heap.size<=gS:=by simp at hgS;omega
 clear hb3 hr3 hgS;refine hK _ _ hc3 (fun hHeld=>?_);clear hK;refine Xi 6 ?_;refine Xt 7 (fun K hK=>?_);go_simp;refine hK _ _ ((World.cell?_alloc_lt _ _ _ (by show w.heap.size<_;omega)).trans hc3) (fun hHeld=>?_);clear hK;refine Xi 8 ?_;refine YA ?_
 go_wp2_with fail
 go_ret
 refine⟨w3.heap.size,gS,rfl,oM,hgb,Xb HB3.out _,⟨sP,sP,sP,fun q=>sP,HR3.alloc _,World.ownsRow_nil _ _ _ _,sP,by simp;omega,oM,Nat.le_refl _⟩⟩
end Go.Proofs.YtlmgmkmomaileaaGreatDoor
namespace Go.Proofs.YtlmgmkmomaileaaGreatDoor
open Go.RowKit Go.Shelf
attribute [local go_sem] Oper.semAt_some
def mks(ds:List Nat):List Deferred:=ds.map fun D=>{ target:=.collected D,args:=#[] }
structure T2(W:World)(B:Nat)(ds:List Nat):Prop where
 nd:ds.Nodup
 ge:∀D∈ds,B<=D
 obj:∀D∈ds,W.heap[D]?=some (.deferred (some []))
end Go.Proofs.YtlmgmkmomaileaaGreatDoor
namespace Go.Proofs.YtlmgmkmomaileaaGreatDoor
set_option maxHeartbeats 1000000
open Go.RowKit Go.Shelf
structure FlA(w Y:World)(V:Nat)(a:Option Addr)(n c Kw:Nat)(xs:List Xh)(Gi LB Go:Nat)(go:Nat->Nat)(WO:Nat->Nat->Nat):Prop where
 low:Below w.heap.size w Y
 f0:Y.cell? ⟨w.heap.size,0,none⟩=some (.int .i64 (V:Int))
 f1:Y.cell? ⟨w.heap.size,1,none⟩=some (.slice a n c)
 r0:Y.cell? ⟨w.heap.size+1,0,none⟩=some (.slice none 0 0)
 r1:Y.cell? ⟨w.heap.size+1,1,none⟩=some (.slice none 0 0)
 rz:∀q,Y.frozen? ⟨w.heap.size+1,q,none⟩=false
 gi:Y.rowIs Gi 93 n (fun _=>.slice none 0 0)
 l0:Y.cell? ⟨LB,0,none⟩=some (.slice (some ⟨Gi,0,none⟩) n n)
 l1:Y.cell? ⟨LB,1,none⟩=some (.slice (some ⟨Go,0,none⟩) n n)
 out:XB Y Go n Kw go (fun _=>Kw) WO
 wd:XX WO
 has:∀b,b<n->∀v,Xg (WO b) v=true↔(b,v)∈VP xs n
 b1:w.heap.size+2<=Gi
 b2:w.heap.size+2<=LB
 b3:w.heap.size+2<=Go
 b4:∀i,i<n->w.heap.size+2<=go i
 d1:Gi≠LB
 d2:Gi≠Go
 d3:LB≠Go
 d4:∀i,i<n->go i≠Gi/\go i≠LB
theorem ZaU(F:Fence)(n:Nat)(h6:F.fn 109)(hro:F.round=none)(v0 v1 v2 v3 v4 v5:Value)(w:World) :
 CallsIn F n Tryz.prog 109 #[.agg #[v0,v1,v2,v3,v4,v5]] w fun e w'=>e=.returned (.func (.func 132) #[] #[.pointer (some ⟨w.heap.size,0,none⟩)])/\w'=w.alloc (.cells #[v0,v1,v2,v3,v4,v5] 50):=by
 refine callsIn_of_wp Tryz.func109 rfl h6 ?_ hro;simp only[Tryz.ntmps109,List.size_toArray,List.length_cons,List.length_nil,Nat.reduceAdd,Nat.reduceSub,Array.replicate_succ,Array.replicate_zero,List.push_toArray,List.append_toArray,List.nil_append,List.cons_append]
 gi_wp2
 go_ret
 exact⟨rfl,rfl⟩
theorem XB.setCell{w:World}{G n K:Nat}{gs cp:Nat->Nat}{Ws:Nat->Nat->Nat}(h:XB w G n K gs cp Ws)(p:Addr)(v:Value)(h1:p.block≠G)(h2:∀i,i<n->p.block≠gs i):XB (w.setCell p v) G n K gs cp Ws :=
 ⟨h.row.setOther (fun e=>h1 e.symm) v,fun i hi=>(h.set i hi).setOther (fun e=>h2 i hi e.symm) v,h.inj,h.out⟩
theorem UJ{w w1 X:World}{V:Nat}{a:Option Addr}{n c Kw:Nat}{xs:List Xh}{Gi LB Go:Nat}{go:Nat->Nat}{WO:Nat->Nat->Nat}(hw1:Below w.heap.size w w1)(hz:w1.heap.size=w.heap.size+2)(HBX:Below w1.heap.size w1 X)
 (f0:w1.cell? ⟨w.heap.size,0,none⟩=some (.int .i64 (V:Int))) (f1:w1.cell? ⟨w.heap.size,1,none⟩=some (.slice a n c)) (r0:w1.cell? ⟨w.heap.size+1,0,none⟩=some (.slice none 0 0)) (r1:w1.cell? ⟨w.heap.size+1,1,none⟩=some (.slice none 0 0)) (rz:∀q,w1.frozen? ⟨w.heap.size+1,q,none⟩=false)
 (GI:X.rowIs Gi 93 n (fun _=>.slice none 0 0)) (LBX:X.rowIs LB 134 2 (fun _=>.slice none 0 0)) (SO:XB X Go n Kw go (fun _=>Kw) WO) (wd:XX WO) (hh:∀b,b<n->∀v,Xg (WO b) v=true↔(b,v)∈VP xs n)
 (b1:w.heap.size+2<=Gi) (b2:w.heap.size+2<=LB) (b3:w.heap.size+2<=Go) (b4:∀i,i<n->w.heap.size+2<=go i) (hne:Go≠LB/\Gi≠LB/\Gi≠Go/\∀i,i<n->go i≠Gi/\go i≠LB) :
 FlA w ((X.setCell ⟨LB,0,none⟩ (.slice (some ⟨Gi,0,none⟩) n n)).setCell ⟨LB,1,none⟩ (.slice (some ⟨Go,0,none⟩) n n)) V a n c Kw xs Gi LB Go go WO:=by
 have hl:=(LBX.set 0 (.slice (some ⟨Gi,0,none⟩) n n)).set 1 (.slice (some ⟨Go,0,none⟩) n n);have hc:∀p:Addr,p.block<w1.heap.size->p.block≠LB->((X.setCell ⟨LB,0,none⟩ (.slice (some ⟨Gi,0,none⟩) n n)).setCell ⟨LB,1,none⟩ (.slice (some ⟨Go,0,none⟩) n n)).cell? p=w1.cell? p:=fun p h1 h2 =>
  (World.cell?_setCell_far _ _ _ _ (fun e=>h2 e.symm)).trans ((World.cell?_setCell_far _ _ _ _ (fun e=>h2 e.symm)).trans (HBX.cell h1))
 refine⟨((Xd hw1 HBX).setCell (by show w.heap.size<=LB;omega) _).setCell (by show w.heap.size<=LB;omega) _,(hc _ (by show w.heap.size<_;omega) (by show w.heap.size≠LB;omega)).trans f0,(hc _ (by show w.heap.size<_;omega) (by show w.heap.size≠LB;omega)).trans f1,(hc _ (by show w.heap.size+1<_;omega) (by show w.heap.size+1≠LB;omega)).trans r0,(hc _ (by show w.heap.size+1<_;omega) (by show w.heap.size+1≠LB;omega)).trans r1,fun q=>?_,(GI.setOther hne.2.1 _).setOther hne.2.1 _,(hl.cell (i:=0) dC).trans sP,(hl.cell (i:=1) dC).trans sP,(SO.setCell _ _ (fun e=>hne.1 e.symm) (fun i hi e=>(hne.2.2.2 i hi).2 e.symm)).setCell _ _ (fun e=>hne.1 e.symm) (fun i hi e=>(hne.2.2.2 i hi).2 e.symm),wd,hh,b1,b2,b3,b4,hne.2.1,hne.2.2.1,fun e=>hne.1 e.symm,hne.2.2.2⟩;exact(World.frozen?_setCell _ _ _ _).trans ((World.frozen?_setCell _ _ _ _).trans ((HBX.frozen (p:=⟨w.heap.size+1,q,none⟩) (by show w.heap.size+1<_;omega)).trans (rz q)))
end Go.Proofs.YtlmgmkmomaileaaGreatDoor
namespace Go.Proofs.YtlmgmkmomaileaaGreatDoor
open Go.RowKit
structure UF where
 w:World
 V:Nat
 n:Nat
 c:Nat
 Kw:Nat
 K2:Nat
 a:Option Addr
 xs:List Xh
 Gi:Nat
 LB:Nat
 Go:Nat
 DB:Nat
 Gd:Nat
 Gn:Nat
 bS:Nat
 gS:Nat
 sA:Nat
 s3:Nat
 M:Nat
 go:Nat->Nat
 gd:Nat->Nat
 WO:Nat->Nat->Nat
structure FlD where
 gi:Nat->Nat
 ci:Nat->Nat
 WI:Nat->Nat->Nat
 WD:Nat->Nat->Nat
 nx:Nat->Value
 Ws:Nat->Nat
 vS:Value
 Lf:List Nat
structure FlS(p:UF):Prop where
 a1:p.w.heap.size+2<=p.Gi/\p.Gi<p.sA
 a2:p.w.heap.size+2<=p.LB/\p.LB<p.sA
 a3:p.w.heap.size+2<=p.Go/\p.Go<p.sA
 a4:∀i,i<p.n->p.w.heap.size+2<=p.go i/\p.go i<p.sA
 d1:p.Gi≠p.LB
 d2:p.Gi≠p.Go
 d3:p.LB≠p.Go
 d4:∀i,i<p.n->p.go i≠p.Gi/\p.go i≠p.LB
 a5:p.sA<=p.Gd/\p.Gd<p.s3
 a6:∀i,i<p.n->p.sA<=p.gd i/\p.gd i<p.s3
 a7:p.DB=p.s3
 a8:p.Gn=p.s3+1
 a9:p.s3+2<=p.bS/\p.bS<p.M
 a10:p.s3+2<=p.gS/\p.gS<p.M
 a11:p.bS≠p.gS
def tgI(xs:List Xh)(i:Nat):List Int:=(xs[i]?).elim [] fun x=>x.term.targets
theorem UG{xs:List Xh}{i:Nat}(h:i<xs.length):tgI xs i=xs[i].term.targets:=by simp[tgI,h]
structure FlK(p:UF)(W:World)(k:Nat)(d:FlD):Prop where
 low:Below p.w.heap.size p.w W
 sz:p.M<=W.heap.size
 f0:W.cell? ⟨p.w.heap.size,0,none⟩=some (.int .i64 (p.V:Int))
 f1:W.cell? ⟨p.w.heap.size,1,none⟩=some (.slice p.a p.n p.c)
 r0:W.cell? ⟨p.w.heap.size+1,0,none⟩=some (.slice none 0 0)
 r1:W.cell? ⟨p.w.heap.size+1,1,none⟩=some (.slice none 0 0)
 rz:∀q,W.frozen? ⟨p.w.heap.size+1,q,none⟩=false
 l0:W.cell? ⟨p.LB,0,none⟩=some (.slice (some ⟨p.Gi,0,none⟩) p.n p.n)
 l1:W.cell? ⟨p.LB,1,none⟩=some (.slice (some ⟨p.Go,0,none⟩) p.n p.n)
 d0:W.cell? ⟨p.DB,0,none⟩=some (.slice (some ⟨p.Gd,0,none⟩) p.n p.n)
 out:XB W p.Go p.n p.Kw p.go (fun _=>p.Kw) p.WO
 inr:W.rowIs p.Gi 93 p.n (fun i=>if i<k then .slice (some ⟨d.gi i,0,none⟩) p.Kw (d.ci i)else .slice none 0 0)
 ins:∀i,i<k->WsAt W (d.gi i) p.Kw (d.ci i) (d.WI i)
 inj:∀i j,i<k->j<k->d.gi i=d.gi j->i=j
 igM:∀i,i<k->p.M<=d.gi i
 defs:XB W p.Gd p.n p.Kw p.gd (fun _=>p.Kw) d.WD
 nxr:W.rowIs p.Gn 25 p.n (fun i=>if i<k then d.nx i else .slice none 0 0)
 nxs:∀i,i<k->∃a' c',d.nx i=.slice a' (tgI p.xs i).length c'/\Yj W (fun b=>p.M<=b/\(∀j,j<k->b≠d.gi j)/\some b≠d.vS.ownBlock) a' (tgI p.xs i)
 sea:YN W p.bS p.gS p.M p.K2 p.a p.n p.c d.Ws d.vS d.Lf
 giv:∀i,i<k->some (d.gi i)≠d.vS.ownBlock
def VY{α:Type}(f:Nat->α)(k:Nat)(v:α):Nat->α:=fun i=>if i=k then v else f i
theorem Zg{α:Type}(f:Nat->α)(k:Nat)(v:α):VY f k v k=v:=by simp[VY]
theorem YH{α:Type}(f:Nat->α)(k:Nat)(v:α){i:Nat}(h:i≠k):VY f k v i=f i:=by simp[VY,h]
theorem FlK.next{p:UF}{W W':World}{k:Nat}{d:FlD}(h:FlK p W k d)(s:FlS p)(hk:k<p.n){gB CB:Nat}{I' D':Nat->Nat}{nk v':Value}{Ws':Nat->Nat}{Lf':List Nat}
 (hos:W'.os=W.os) (htp:W'.tape=W.tape) (hop:W'.output=W.output) (hsz:W.heap.size<=W'.heap.size)
 (fr:∀q,q<W.heap.size->q≠p.Gi->q≠p.gd k->q≠p.Gn->q≠p.bS->q≠p.gS->some q≠d.vS.ownBlock->W'.heap[q]?=W.heap[q]?)
 (hgB:W.heap.size<=gB) (hI:WsAt W' gB p.Kw CB I') (hGi:W'.rowIs p.Gi 93 p.n (fun i=>if i=k then .slice (some ⟨gB,0,none⟩) p.Kw CB else if i<k then .slice (some ⟨d.gi i,0,none⟩) p.Kw (d.ci i)else .slice none 0 0))
 (hD:WsAt W' (p.gd k) p.Kw p.Kw D') (hGn:W'.rowIs p.Gn 25 p.n (fun i=>if i=k then nk else if i<k then d.nx i else .slice none 0 0))
 (hnk:∃a' c',nk=.slice a' (tgI p.xs k).length c'/\Yj W' (fun b=>W.heap.size<=b/\b≠gB/\some b≠v'.ownBlock) a' (tgI p.xs k))
 (hs:YN W' p.bS p.gS p.M p.K2 p.a p.n p.c Ws' v' Lf') (hv:v'.ownBlock=d.vS.ownBlock\/∀q,v'.ownBlock=some q->W.heap.size<=q) (hvB:some gB≠v'.ownBlock) :
 FlK p W' (k+1) ⟨VY d.gi k gB,VY d.ci k CB,VY d.WI k I',VY d.WD k D',VY d.nx k nk,Ws',v',Lf'⟩:=by
 have hvM:∀q,d.vS.ownBlock=some q->p.M<=q:=fun q e=>(h.sea.own.lt q e).1
 have hM:=s.a9;have hM2:=s.a10;have hG:=s.a5;have hz:=h.sz;have hw:=h.low.size;have h7:=s.a7;have h8:=s.a8;have hgk:=s.a6 k hk;have lowb:∀q,q<p.M->q≠p.Gi->q≠p.gd k->q≠p.Gn->q≠p.bS->q≠p.gS->W'.heap[q]?=W.heap[q]?:=fun q h1 h2 h3 h4 h5 h6=>fr q oM h2 h3 h4 h5 h6 (fun e=>by have:=hvM q e.symm;omega)
 have a1:=s.a1;have a2:=s.a2;have a3:=s.a3;have cA:∀q o v,q<p.sA->q≠p.Gi->W.cell? ⟨q,o,none⟩=some v->W'.cell? ⟨q,o,none⟩=some v:=fun q o v h1 h2 hc=>(Xc (lowb q oM h2 oM oM oM oM)).trans hc
 have up:∀q,p.M<=q->q<W.heap.size->some q≠d.vS.ownBlock->W'.heap[q]?=W.heap[q]?:=fun q h1 h2 h3=>fr q h2 oM oM oM oM oM h3
 refine⟨⟨hos.trans h.low.os,htp.trans h.low.tape,hop.trans h.low.output,Nat.le_trans hw hsz,fun q hq=>(lowb q oM oM oM oM oM oM).trans (h.low.block q hq)⟩,Nat.le_trans hz hsz,cA _ _ _ oM oM h.f0,cA _ _ _ oM oM h.f1,cA _ _ _ oM oM h.r0,cA _ _ _ oM oM h.r1,fun q=>?rz,cA _ _ _ a2.2 (fun e=>s.d1 e.symm) h.l0,cA _ _ _ a2.2 (fun e=>s.d1 e.symm) h.l1,(Xc (lowb p.DB oM oM oM oM oM oM)).trans h.d0,?out,?inr,?ins,?inj,?igM,?defs,?nxr,?nxs,hs,?giv⟩
 case rz=>rw[World.frozen?_of_block (a:=⟨p.w.heap.size+1,q,none⟩) (lowb (p.w.heap.size+1) oM oM oM oM oM oM)];exact h.rz q
 case out =>
  refine⟨h.out.row.of_block (lowb p.Go oM (fun e=>s.d2 e.symm) oM oM oM oM),fun i hi=>?_,h.out.inj,h.out.out⟩;have:=s.a4 i hi;exact(h.out.set i hi).of_block (lowb _ oM (s.d4 i hi).1 oM oM oM oM)
 case inr =>
  refine hGi.congr (fun i _=>?_);by_cases e:i=k
  ·rw[if_pos e,if_pos oM,e];simp only[Zg]
  ·rw[if_neg e]
   by_cases e2:i<k
   ·rw[if_pos e2,if_pos oM];simp only[YH _ _ _ e]
   ·rw[if_neg e2,if_neg oM]
 case ins =>
  intro i hi;by_cases e:i=k
  ·subst e;simp only[Zg];exact hI
  ·have hi2:i<k:=oM
   simp only[YH _ _ _ e];exact(h.ins i hi2).of_block (up _ (h.igM i hi2) (h.ins i hi2).lt (h.giv i hi2))
 case inj =>
  intro i j hi hj e;by_cases e1:i=k
  ·by_cases e2:j=k
   ·omega
   ·simp only[e1,Zg,YH _ _ _ e2]at e
    have:=(h.ins j oM).lt;omega
  ·by_cases e2:j=k
   ·simp only[e2,Zg,YH _ _ _ e1]at e
    have:=(h.ins i oM).lt;omega
   ·simp only[YH _ _ _ e1,YH _ _ _ e2]at e
    exact h.inj i j oM oM e
 case igM =>
  intro i hi;by_cases e:i=k
  ·subst e;simp only[Zg];omega
  ·simp only[YH _ _ _ e];exact h.igM i oM
 case defs =>
  refine⟨h.defs.row.of_block (lowb p.Gd oM oM (fun e=>h.defs.out k hk e.symm) oM oM oM),fun i hi=>?_,h.defs.inj,h.defs.out⟩;by_cases e:i=k
  ·subst e;simp only[Zg];exact hD
  ·simp only[YH _ _ _ e]
   have:=s.a6 i hi;exact(h.defs.set i hi).of_block (lowb _ oM oM (fun e2=>e (h.defs.inj i k hi hk e2)) oM oM oM)
 case nxr =>
  refine hGn.congr (fun i _=>?_);by_cases e:i=k
  ·rw[if_pos e,if_pos oM,e];simp only[Zg]
  ·rw[if_neg e]
   by_cases e2:i<k
   ·rw[if_pos e2,if_pos oM];simp only[YH _ _ _ e]
   ·rw[if_neg e2,if_neg oM]
 case nxs =>
  intro i hi;by_cases e:i=k
  ·subst e
   simp only[Zg];obtain⟨a',c',e1,h1⟩:=hnk;refine⟨a',c',e1,fun q hq=>?_⟩;obtain⟨b,o,e2,hb,hc⟩:=h1 q hq;refine⟨b,o,e2,⟨⟨oM,fun j hj=>?_,hb.1.2.2⟩,hb.2⟩,hc⟩;by_cases ej:j=i
   ·rw[ej];simp only[Zg];exact hb.1.2.1
   ·simp only[YH _ _ _ ej]
    have:=(h.ins j oM).lt;omega
  ·have hi2:i<k:=oM
   simp only[YH _ _ _ e];obtain⟨a',c',e1,h1⟩:=h.nxs i hi2;refine⟨a',c',e1,fun q hq=>?_⟩;obtain⟨b,o,e2,hb,hc⟩:=h1 q hq;refine⟨b,o,e2,⟨⟨hb.1.1,fun j hj=>?_,fun ev=>?_⟩,oM⟩,(Xc (up b hb.1.1 hb.2 hb.1.2.2)).trans hc⟩
   ·by_cases ej:j=k
    ·rw[ej];simp only[Zg];omega
    ·simp only[YH _ _ _ ej]
     exact hb.1.2.1 j oM
   ·rcases hv with hv | hv
    ·rw[hv]at ev;exact hb.1.2.2 ev
    ·have:=hv b ev.symm;omega
 case giv =>
  intro i hi;by_cases e:i=k
  ·subst e;simp only[Zg];exact hvB
  ·have hi2:i<k:=oM
   simp only[YH _ _ _ e];intro ev;rcases hv with hv | hv
   ·rw[hv]at ev;exact h.giv i hi2 ev
   ·have:=hv _ ev.symm;have:=(h.ins i hi2).lt;omega
theorem Zfb(tg:Nat->List Nat):∀(m b:Nat)(s:(Nat->Nat) × List Nat)(P:List Nat),(∀x,Xg s.1 x=true->x∈s.2\/x∈P)->∀x,Xg (dfsV tg m b s).1 x=true->x∈(dfsV tg m b s).2\/x∈P
 | 0,_,_,_,h=>h
 | m+1,b,s,P,h=>by
  by_cases hs:Xg s.1 b=true
  ·rw[UA hs];exact h
  ·have hs':Xg s.1 b=false:=by simpa using hs
   have hf:∀(l:List Nat)(s':(Nat->Nat) × List Nat),(∀x,Xg s'.1 x=true->x∈s'.2\/x∈b::P)->∀x,Xg (l.foldl (fun s t=>dfsV tg m t s) s').1 x=true->x∈(l.foldl (fun s t=>dfsV tg m t s) s').2\/x∈b::P:=by
    intro l
    induction l with
    | nil=>exact fun _ h=>h
    | cons t l ih=>exact fun s' h'=>ih _ (Zfb tg m t s' (b::P) h')
   rw[VT hs'];intro x hx;rcases hf (tg b) (Y0 s.1 b,s.2) (fun y hy=>by
    rw[Z4,Bool.or_eq_true,decide_eq_true_eq]at hy;rcases hy with rfl | hy
    ·exact Or.inr sP
    ·rcases h y hy with h1 | h1
     ·exact Or.inl h1
     ·exact Or.inr (by simp[h1])) x hx with h1 | h1
   ·exact Or.inl (by simp[h1])
   ·rcases List.mem_cons.1 h1 with rfl | h1
    ·exact Or.inl sP
    ·exact Or.inr h1
theorem ZeP(tg:Nat->List Nat){n:Nat}(ht:∀b,b<n->∀t∈tg b,t<n):∀(m b:Nat)(s:(Nat->Nat) × List Nat),b<n->(∀x∈s.2,x<n)->∀x∈(dfsV tg m b s).2,x<n
 | 0,_,_,_,h=>h
 | m+1,b,s,hb,h=>by
  by_cases hs:Xg s.1 b=true
  ·rw[UA hs];exact h
  ·have hs':Xg s.1 b=false:=by simpa using hs
   have hf:∀(l:List Nat)(s':(Nat->Nat) × List Nat),(∀t∈l,t<n)->(∀x∈s'.2,x<n)->∀x∈(l.foldl (fun s t=>dfsV tg m t s) s').2,x<n:=by
    intro l
    induction l with
    | nil=>exact fun _ _ h=>h
    | cons t l ih=>exact fun s' hl h'=>ih _ (fun q hq=>hl q (by simp[hq])) (ZeP tg ht m t s' (hl t sP) h')
   rw[VT hs'];intro x hx;rcases List.mem_append.1 hx with hx | hx
   ·exact hf (tg b) (Y0 s.1 b,s.2) (ht b hb) h x hx
   ·have:x=b:=by simpa using hx
    omega
theorem ZdM(tg:Nat->List Nat){n m b:Nat}{s:(Nat->Nat) × List Nat}(hb:b<n)(hm:Xx s.1 n<=m):Xg (dfsV tg m b s).1 b=true:=by
 cases m with
 | zero=>exact JI tg 0 b s b (KU oM hb)
 | succ m =>
  by_cases hs:Xg s.1 b=true
  ·exact JI tg _ b s b hs
  ·have hs':Xg s.1 b=false:=by simpa using hs
   rw[VT hs'];exact Tp tg m _ _ b (by rw[Z4];simp)
def T6(W:Nat->Nat)(q:Nat × List Int × List Int):Nat->Nat:=addsN (delsN W (Xw q.2.2)) (Xw q.2.1)
def TB(W:Nat->Nat)(q:Nat × List Int × List Int):Nat->Nat:=addsN W (Xw q.2.2)
def inW(x:Xh)(W:Nat->Nat):Nat->Nat:=(plL x).foldl T6 W
def dfW(x:Xh):Nat->Nat:=(plL x).foldl TB (fun _=>0)
theorem Zkz(x:Xh){W:Nat->Nat}(h:XA W):XA (inW x W):=by
 unfold inW;generalize plL x=l
 induction l generalizing W with
 | nil=>exact h
 | cons q l ih=>exact ih (Zs _ (J2 _ h))
theorem J1:XA (fun _=>0):=fun _=>by show 0<_;decide
theorem Zdi(l:List (Nat × List Int × List Int)){W:Nat->Nat}(h:XA W):XA (l.foldl TB W):=by
 induction l generalizing W with
 | nil=>exact h
 | cons q l ih=>exact ih (Zs _ h)
theorem Zku(x:Xh):XA (dfW x):=Zdi _ J1
structure FlQ(p:UF)(k:Nat)(d:FlD):Prop where
 wi:∀i (h:i<p.xs.length),i<k->d.WI i=inW p.xs[i] (p.WO i)
 wd:∀i (h:i<p.xs.length),d.WD i=if i<k then dfW p.xs[i]else fun _=>0
 mem:∀x,Xg d.Ws x=true->x∈d.Lf
 sn:∀i,i<k->Xg d.Ws i=true
 lt:∀x∈d.Lf,x<p.n
 wok:XA d.Ws
 len:d.Lf.length+Xx d.Ws p.n<=p.n
theorem Zf4(p:UF):FlQ p 0 ⟨fun _=>0,fun _=>0,fun _ _=>0,fun _ _=>0,fun _=>.slice none 0 0,fun _=>0,.slice none 0 0,[]⟩ :=
 ⟨fun i _ h=>absurd h oM,fun i _=>sP,fun x h=>by simp[KW]at h,fun i h=>absurd h oM,fun x h=>absurd h List.not_mem_nil,J1,by simpa using Jf (fun _=>0) p.n⟩
theorem FlQ.next{p:UF}{k:Nat}{d:FlD}(h:FlQ p k d)(hk:k<p.n)(ht:∀b,b<p.n->∀t∈XV p.xs b,t<p.n)(gi ci:Nat->Nat)(nx:Nat->Value)(v:Value){I' D':Nat->Nat}(hkx:k<p.xs.length)(hI:I'=inW p.xs[k] (p.WO k))(hD:D'=dfW p.xs[k]) :
 FlQ p (k+1) ⟨gi,ci,VY d.WI k I',VY d.WD k D',nx,(dfsV (XV p.xs) p.n k (d.Ws,d.Lf)).1,v,(dfsV (XV p.xs) p.n k (d.Ws,d.Lf)).2⟩:=by
 refine⟨fun i hi hik=>?_,fun i hi=>?_,fun x hx=>?_,fun i hi=>?_,?_,ZdZ _ _ _ _ h.wok,Nat.le_trans (Zbh _ _ ht _ _ _ hk) h.len⟩
 ·by_cases e:i=k
  ·subst e;simp only[Zg];exact hI
  ·simp only[YH _ _ _ e];exact h.wi i hi oM
 ·by_cases e:i=k
  ·subst e;simp only[Zg];rw[if_pos oM];exact hD
  ·simp only[YH _ _ _ e]
   rw[h.wd i hi];by_cases e2:i<k
   ·rw[if_pos e2,if_pos oM]
   ·rw[if_neg e2,if_neg oM]
 ·rcases Zfb (XV p.xs) p.n k (d.Ws,d.Lf) [] (fun y hy=>Or.inl (h.mem y hy)) x hx with h1 | h1
  ·exact h1
  ·cases h1
 ·by_cases e:i=k
  ·subst e;exact ZdM _ hk (Jf _ _)
  ·exact JI _ _ _ _ _ (h.sn i oM)
 ·exact ZeP _ ht _ _ _ hk h.lt
end Go.Proofs.YtlmgmkmomaileaaGreatDoor
