import Derived.Test.YtlmgmkmomaileaaGreatDoorW3
namespace Go.Proofs.YtlmgmkmomaileaaGreatDoor
open Go.RowKit
structure WsAt(w:World)(g K C:Nat)(W:Nat->Nat):Prop where
 le:K<=C
 ex:∃T:Nat->Value,w.rowIs g 145 C (fun i=>if i<K then .int .u64 (W i)else T i)
namespace WsAt
variable {w : World} {g K C : Nat} {W W' : Nat -> Nat}
theorem lt(h:WsAt w g K C W):g<w.heap.size:=by
 obtain⟨_,T,h⟩:=h;exact h.lt
theorem cell(h:WsAt w g K C W){i:Nat}(hi:i<K):w.cell? ⟨g,i,none⟩=some (.int .u64 (W i)):=by
 obtain⟨hl,T,h⟩:=h;have:=h.cell (i:=i) oM;rwa[if_pos hi]at this
theorem frozen(h:WsAt w g K C W)(i:Nat):w.frozen? ⟨g,i,none⟩=false:=by
 obtain⟨_,T,h⟩:=h;exact h.frozen i
theorem congr(h:WsAt w g K C W)(e:∀i,i<K->W i=W' i):WsAt w g K C W':=by
 obtain⟨hl,T,h⟩:=h;refine⟨hl,T,h.congr (fun i _=>?_)⟩;by_cases hi:i<K
 ·rw[if_pos hi,if_pos hi,e i hi]
 ·rw[if_neg hi,if_neg hi]
theorem of_block{w':World}(h:WsAt w g K C W)(e:w'.heap[g]?=w.heap[g]?):WsAt w' g K C W:=by
 obtain⟨hl,T,h⟩:=h;exact⟨hl,T,h.of_block e⟩
theorem set(h:WsAt w g K C W)(i v:Nat)(hi:i<K):WsAt (w.setCell ⟨g,i,none⟩ (.int .u64 (v:Int))) g K C (fun j=>if j=i then v else W j):=by
 obtain⟨hl,T,h⟩:=h;refine⟨hl,T,(h.set i _).congr (fun j _=>?_)⟩;by_cases e:j=i
 ·rw[if_pos e,if_pos oM,if_pos e]
 ·rw[if_neg e,if_neg e]
theorem setOther(h:WsAt w g K C W){a:Addr}(ha:g≠a.block)(v:Value):WsAt (w.setCell a v) g K C W:=by
 obtain⟨hl,T,h⟩:=h;exact⟨hl,T,h.setOther ha v⟩
theorem alloc(h:WsAt w g K C W)(o:Obj):WsAt (w.alloc o) g K C W:=by
 obtain⟨hl,T,h⟩:=h;exact⟨hl,T,h.alloc o⟩
theorem drew(h:WsAt w g K C W):WsAt w.drew g K C W:=by
 obtain⟨hl,T,h⟩:=h;exact⟨hl,T,h.drew⟩
theorem of_row(h:w.rowIs g 145 K (fun i=>.int .u64 (W i))):WsAt w g K K W :=
 ⟨Nat.le_refl _,fun _=>.int .u64 0,h.congr (fun i hi=>by rw[if_pos hi])⟩
theorem of_own{base:Nat}{v:Value}{ws:List Nat}(h:w.ownsRow base 145 1 v ws.length (ws.map fun x:Nat=>Value.int .u64 (x:Int)))(hv:v≠.slice none 0 0):∃g C,v=.slice (some ⟨g,0,none⟩) ws.length C/\base<=g/\WsAt w g ws.length C (fun i=>ws.getD i 0):=by
 obtain⟨hl,h | ⟨g,cap,cur,rfl,hg,hh,hc,_,hs,ht⟩⟩:=h
 ·exact absurd h.1 hv
 ·simp only[Nat.mul_one]at hl hs ht
  refine⟨g,cap,rfl,hg,hc,fun i=>cur[i]?.getD (.int .u64 0),cur,hh,hs,fun i hi=>?_⟩;show cur[i]?=some (if i<ws.length then Value.int .u64 ((ws.getD i 0:Nat):Int)else cur[i]?.getD (.int .u64 0));by_cases e:i<ws.length
  ·rw[if_pos e]
   have h1:(cur.toList.take ws.length)[i]?=some (Value.int .u64 (ws[i]:Nat)):=by rw[ht];simp[e]
   rw[List.getElem?_take_of_lt e]at h1;have e2:ws.getD i 0=ws[i]:=by simp[e]
   rw[e2];simpa using h1
  ·rw[if_neg e]
   have:i<cur.size:=oM;simp[this]
end WsAt
end Go.Proofs.YtlmgmkmomaileaaGreatDoor
namespace Go.Proofs.YtlmgmkmomaileaaGreatDoor
set_option maxHeartbeats 2000000
set_option maxRecDepth 100000
open Go.RowKit
theorem Tryz.infoU64valueNo:(Tryz.prog.info? 145).map (fun i=>(i.zero,i.size,i.bytes))=some (some (.int .u64 0),1,8):=vZ
theorem KM(room:Nat)(w:World)(hr:room<=60000):Calls Tryz.prog 113 #[.int .i64 room] w fun e w'=>∃g,e=.returned (.agg #[.slice (some ⟨g,0,none⟩) ((room+63) / 64) ((room+63) / 64)])/\w.heap.size<=g/\Below w.heap.size w w'/\w'.rowIs g 145 ((room+63) / 64) (fun _=>.int .u64 ((0:Nat):Int)):=by
 have hmk:=run_make_row' (P:=Tryz.prog) 91 145 (.int .u64 0) 8 Tryz.underlying91 Tryz.infoU64valueNo rfl .i64 .i64 ((room+63) / 64) oM oM;have hq:((room:Int)+63).tdiv 64=(((room+63) / 64:Nat):Int):=by rw[Int.tdiv_eq_ediv_of_nonneg oM];omega
 have hq2:((room:Int)+64-1)=(room:Int)+63:=oM;have hK:(room+63) / 64<=1000:=oM;generalize (room+63) / 64=K at *
 go_enter Tryz.func113,Tryz.ntmps113
 go_wp2;refine bodyPost_ret (v:=.agg #[.slice (some ⟨w.heap.size+1,0,none⟩) K K]) (by simp[results,Tryz.results113,go_sem]) rfl ?_;refine⟨w.heap.size+1,rfl,oM,Xb (Xb (Below.refl _ _) _) _,?_⟩;have hrow:∀ob,((w.alloc ob).alloc (.cells (madeCells #[.int .u64 0] K) 145)).rowIs (w.heap.size+1) 145 K (fun _=>.int .u64 0):=fun ob=>by
  have:=World.rowIs_made (w.alloc ob) (.int .u64 0) K 145;rwa[World.size_alloc]at this
 exact hrow _
theorem Zw(g K C n c:Nat)(W:Nat->Nat)(a:Option Addr)(ts:List Nat)(L B:Nat)(w:World)(ha:Hid (Xf w L B a (ts.map Int.ofNat)))(hx:Hid (n=ts.length))(hn:n<=4000)(ht:Hid (∀t∈ts,t<64*K))(hK:K<=1000)(hW:Hid (XA W))(hr:Hid (WsAt w g K C W))(hB:B<=w.heap.size)(hgL:¬(L<=g/\g<B)) :
 Calls Tryz.prog 111 #[.agg #[.slice (some ⟨g,0,none⟩) K C],.slice a n c] w fun e w'=>e=.returned (.tuple #[])/\w.grownBy w' (some g)/\WsAt w' g K C (addsN W ts):=by
 go_enter Tryz.func111,Tryz.ntmps111
 go_wp2;have hg:g<w.heap.size:=hr.lt
 go_loopw [8] (fun u wr=>∃q:Nat,q<=n/\u=.int .i64 q/\Hid (w.grownBy wr (some g))/\wr.cell? ⟨w.heap.size,0,none⟩=some (.slice (some ⟨g,0,none⟩) K C)/\Hid (WsAt wr g K C (addsN W (ts.take q)))) (fun u _=>n-(intOf u).toNat)
 case atStart=>exact⟨0,Nat.zero_le _,rfl,Xa (World.grownBy_alloc _ _ _),sP,Xa (hr.alloc _)⟩
 case round =>
  obtain⟨q,hq,rfl,HG,hs,HR⟩:=hrel;by_cases hlt:q<n
  ·have hqx:q<ts.length:=by have:=hx.out;omega
   obtain⟨b,o,rfl,hbB,e0w⟩:=ha.out q (by simpa using hqx);have e0:=(Xc (HG.block b oM (fun e=>by injection e with e;omega))).trans e0w;rw[List.getElem_map]at e0;have htq:=ht.out _ (List.getElem_mem hqx);have HT:=Xa (UY (W:=W) hqx);have HWA:=Xa (Zs (ts.take q) hW.out);clear e0w;generalize ts[q]=t at *;have h2:=Zhy t;have h3:=Zif t;have e0':wr.cell? ⟨b,o+q,none⟩=some (.int .i64 (t:Int)):=e0;clear e0;generalize addsN W (ts.take q)=W1 at *;have hd:t / 64<K:=oM;have hm:t % 64<64:=Nat.mod_lt _ dC;have ec:=HR.cell hd;have ez:=HR.frozen;have HOR:=Xa (Zb8 hm (HWA.out (t / 64)));have HAD:Hid (∀i,(if i=t / 64 then W1 (t / 64) ||| 2 ^ (t % 64)else W1 i)=addsN W (ts.take (q+1)) i):=Xa (fun i=>by
    rw[HT.out];unfold Y0;by_cases e:i=t / 64
    ·rw[if_pos e,if_pos e,e]
    ·rw[if_neg e,if_neg e])
   generalize hd2:t / 64=td at *;generalize hm2:t % 64=tm at *;go_wp2
   go_region
   go_wp2;rw[HOR.out];have kk:wr.grownBy (wr.setCell ⟨g,td,none⟩ (.int .u64 ((W1 td ||| 2 ^ tm:Nat):Int))).drew (some g):=⟨rfl,rfl,rfl,by simp[World.setCell,World.drew],fun k _ hk=>Below.heap_setCell _ _ _ _ (fun e=>hk (by rw[e]))⟩;refine⟨⟨q+1,oM,gM,Xa (HG.andThen kk (fun j hj=>by cases hj;exact Or.inr rfl)),?_,Xa ?_⟩,by simp[intOf];omega⟩
   ·exact(World.cell?_setCell_far wr ⟨g,td,none⟩ ⟨w.heap.size,0,none⟩ _ (by show g≠w.heap.size;omega)).trans hs
   ·refine WsAt.drew ((HR.set td _ hd).congr (fun i _=>?_))
    rw[<-HAD.out i]
  ·have hqn:q=n:=oM
   have HX:Hid (ts.take q=ts):=Xa (List.take_of_length_le (by have:=hx.out;omega));rw[HX.out]at HR;go_wp2
   go_end0
   exact⟨rfl,HG.out,HR.out⟩
theorem KR(g g2 g3 K C C2 C3:Nat)(S O T:Nat->Nat)(w:World)(hS:Hid (XA S))(hO:Hid (XA O))(hT:Hid (XA T))(hK:K<=1000)(rS:Hid (WsAt w g K C S))(rO:Hid (WsAt w g2 K C2 O))(rT:Hid (WsAt w g3 K C3 T))(h3:g3≠g)(hs:Hid (g2=g->S=O)) :
 Calls Tryz.prog 114 #[.agg #[.slice (some ⟨g,0,none⟩) K C],.agg #[.slice (some ⟨g2,0,none⟩) K C2],.agg #[.slice (some ⟨g3,0,none⟩) K C3]] w fun e w'=>e=.returned (.bool (grewN S O T K))/\w.grownBy w' (some g)/\WsAt w' g K C (butN S O T):=by
 go_enter Tryz.func114,Tryz.ntmps114
 go_wp2;have l1:g<w.heap.size:=rS.lt;have l2:g2<w.heap.size:=rO.lt;have l3:g3<w.heap.size:=rT.lt
 go_loopw [7,14] (fun gv u wr=>∃q:Nat,q<=K/\u=.int .i64 q/\gv=.bool (grewN S O T q)/\Hid (w.grownBy wr (some g))/\wr.cell? ⟨w.heap.size,0,none⟩=some (.slice (some ⟨g,0,none⟩) K C)/\wr.cell? ⟨w.heap.size+2,0,none⟩=some (.slice (some ⟨g3,0,none⟩) K C3)/\Hid (WsAt wr g K C (fun i=>if i<q then butN S O T i else S i))) (fun _ u _=>K-(intOf u).toNat)
 case atStart=>exact⟨0,Nat.zero_le _,rfl,by rw[Zfm],Xa (((World.grownBy_alloc w _ _).andThen (World.grownBy_alloc _ _ _) (fun j hj=>Or.inr hj)).andThen (World.grownBy_alloc _ _ _) (fun j hj=>Or.inr hj)),by simp[go_sem],by simp[go_sem],Xa ((((rS.alloc _).alloc _).alloc _).congr (fun i _=>sP))⟩
 case round =>
  obtain⟨q,hq,rfl,rfl,HG,hs0,hs2,HR⟩:=hrel;by_cases hlt:q<K
  ·have e1:wr.cell? ⟨g,q,none⟩=some (.int .u64 (S q)):=(HR.cell hlt).trans sP
   have e3:wr.cell? ⟨g3,q,none⟩=some (.int .u64 (T q)):=(Xc (HG.block g3 l3 (fun e=>h3 (by injection e)))).trans (rT.cell hlt);have e2:wr.cell? ⟨g2,q,none⟩=some (.int .u64 (O q)):=by
    by_cases e:g2=g
    ·rw[<-hs.out e,e];exact e1
    ·exact(Xc (HG.block g2 l2 (fun e'=>e (by injection e')))).trans (rO.cell hlt)
   have ez:=HR.frozen;have HA1:=u64_andNot_nat (O q) (T q) (hO.out q) (hT.out q);have hlx:O q &&& (18446744073709551615-T q)<18446744073709551616:=Nat.lt_of_le_of_lt Nat.and_le_left (hO.out q);have HA2:bits .andNot .u64 ((O q &&& (18446744073709551615-T q):Nat):Int) (S q:Int)=((moreN S O T q:Nat):Int):=u64_andNot_nat _ (S q) hlx (hS.out q);have HA3:bits .or .u64 (S q:Int) ((moreN S O T q:Nat):Int)=((butN S O T q:Nat):Int):=u64_or_nat _ _ (hS.out q) (Zbi hO.out q);have HGS:=Xa (Zgj S O T q);have hsn:g≠w.heap.size:=oM;have hsn2:g≠w.heap.size+2:=oM;have HNX:Hid (WsAt (wr.setCell ⟨g,q,none⟩ (.int .u64 (butN S O T q:Int))) g K C (fun i=>if i<q+1 then butN S O T i else S i)):=Xa ((HR.set q _ hlt).congr (fun i _=>by
    by_cases e:i=q
    ·subst e;simp
    ·rw[if_neg e]
     by_cases e2:i<q
     ·rw[if_pos e2,if_pos oM]
     ·rw[if_neg e2,if_neg oM]))
   have kk:wr.grownBy (wr.setCell ⟨g,q,none⟩ (.int .u64 (butN S O T q:Int))) (some g):=⟨rfl,rfl,rfl,by simp[World.setCell],fun k _ hk=>Below.heap_setCell _ _ _ _ (fun e=>hk (by rw[e]))⟩;have HKK:Hid (w.grownBy (wr.setCell ⟨g,q,none⟩ (.int .u64 (butN S O T q:Int))) (some g)):=Xa (HG.andThen kk (fun j hj=>by cases hj;exact Or.inr rfl));have hs0':=(World.cell?_setCell_far wr ⟨g,q,none⟩ ⟨w.heap.size,0,none⟩ (.int .u64 (butN S O T q:Int)) hsn).trans hs0;have hs2':=(World.cell?_setCell_far wr ⟨g,q,none⟩ ⟨w.heap.size+2,0,none⟩ (.int .u64 (butN S O T q:Int)) hsn2).trans hs2;generalize hX:O q &&& (18446744073709551615-T q)=X at *;generalize butN S O T q=Bq at *;generalize moreN S O T q=Mq at *;generalize S q=Sq at *;generalize O q=Oq at *;generalize T q=Tq at *;generalize grewN S O T q=gq at *;clear hX kk;cases gq with
   | true =>
    go_wp2
    go_region
    go_wp2;exact⟨⟨q+1,oM,gM,by rw[HGS.out];rfl,Xa ⟨HKK.os,HKK.tape,HKK.output,HKK.size,HKK.block⟩,hs0',hs2',Xa HNX.drew⟩,by simp[intOf];omega⟩
   | false =>
    go_wp2
    go_region
    go_wp2;exact⟨⟨q+1,oM,gM,by rw[HGS.out];cases Mq<;>rfl,Xa ⟨HKK.os,HKK.tape,HKK.output,HKK.size,HKK.block⟩,hs0',hs2',Xa HNX.drew⟩,by simp[intOf];omega⟩
  ·have hqk:q=K:=oM
   subst hqk;go_wp2
   go_ret
   exact⟨rfl,HG.out,HR.congr (fun i hi=>by rw[if_pos hi])⟩
end Go.Proofs.YtlmgmkmomaileaaGreatDoor
namespace Go.Proofs.YtlmgmkmomaileaaGreatDoor
set_option maxHeartbeats 1000000
set_option maxRecDepth 100000
open Go.RowKit
structure XB(w:World)(G n K:Nat)(gs cp:Nat->Nat)(Ws:Nat->Nat->Nat):Prop where
 row:w.rowIs G 93 n (fun i=>.slice (some ⟨gs i,0,none⟩) K (cp i))
 set:∀i,i<n->WsAt w (gs i) K (cp i) (Ws i)
 inj:∀i j,i<n->j<n->gs i=gs j->i=j
 out:∀i,i<n->gs i≠G
theorem Tryz.infoSetV:(Tryz.prog.info? 93).map (fun i=>(i.zero,i.size,i.bytes))=some (some (.agg #[.slice none 0 0]),1,24):=vZ
structure ZaV(w wr:World)(G n K q:Nat)(gs:Nat->Nat):Prop where
 low:Below w.heap.size w wr
 base:w.heap.size<=G
 row:wr.rowIs G 93 n (fun i=>if i<q then .slice (some ⟨gs i,0,none⟩) K K else .slice none 0 0)
 set:∀i,i<q->wr.rowIs (gs i) 145 K (fun _=>.int .u64 ((0:Nat):Int))
 inj:∀i j,i<q->j<q->gs i=gs j->i=j
 up:∀i,i<q->G<gs i
theorem ZaV.next{w wr w1:World}{G n K q g:Nat}{gs:Nat->Nat}(h:ZaV w wr G n K q gs)(hq:q<n)(hb:Below wr.heap.size wr w1)(hg:wr.heap.size<=g)(hr:w1.rowIs g 145 K (fun _=>.int .u64 ((0:Nat):Int))) :
 ZaV w (w1.setCell ⟨G,q,none⟩ (.slice (some ⟨g,0,none⟩) K K)) G n K (q+1) (fun i=>if i=q then g else gs i)/\w1.cell? ⟨G,q,none⟩=some (.slice none 0 0)/\w1.frozen? ⟨G,q,none⟩=false:=by
 have hGl:G<wr.heap.size:=h.row.lt;have hrow:w1.rowIs G 93 n (fun i=>if i<q then .slice (some ⟨gs i,0,none⟩) K K else .slice none 0 0):=h.row.of_block (hb.block G hGl);have hgl:∀i,i<q->gs i<wr.heap.size:=fun i hi=>(h.set i hi).lt
 refine⟨⟨(h.low.trans (hb.mono h.low.size)).setCell h.base _,h.base,(hrow.set q _).congr (fun i _=>?_),fun i hi=>?_,fun i j hi hj e=>?_,fun i hi=>?_⟩,(hrow.cell hq).trans sP,hrow.frozen q⟩
 ·by_cases e:i=q
  ·subst e;simp
  ·rw[if_neg e]
   by_cases e2:i<q
   ·rw[if_pos e2,if_pos oM];simp[e]
   ·rw[if_neg e2,if_neg oM]
 ·by_cases e:i=q
  ·rw[if_pos e];exact hr.setOther (by show g≠G;omega) _
  ·rw[if_neg e]
   have:=h.up i oM;exact((h.set i oM).of_block (hb.block _ (hgl i oM))).setOther (by show gs i≠G;omega) _
 ·by_cases e1:i=q
  ·by_cases e2:j=q
   ·rw[e1,e2]
   ·rw[if_pos e1,if_neg e2]at e
    have:=hgl j oM;omega
  ·by_cases e2:j=q
   ·rw[if_neg e1,if_pos e2]at e
    have:=hgl i oM;omega
   ·rw[if_neg e1,if_neg e2]at e
    exact h.inj i j oM oM e
 ·by_cases e:i=q
  ·show G<if i=q then g else gs i
   rw[if_pos e];omega
  ·show G<if i=q then g else gs i
   rw[if_neg e];exact h.up i oM
theorem K6(n room:Nat)(w:World)(hn:n<=1000)(hr:room<=60000) :
 Calls Tryz.prog 107 #[.int .i64 n,.int .i64 room] w fun e w'=>∃G gs,e=.returned (.slice (some ⟨G,0,none⟩) n n)/\w.heap.size<=G/\Below w.heap.size w w'/\XB w' G n ((room+63) / 64) gs (fun _=>(room+63) / 64) (fun _ _=>0)/\(∀i,i<n->w.heap.size<=gs i):=by
 have hmk:=UX (P:=Tryz.prog) 132 93 (.agg #[.slice none 0 0]) 1 24 Tryz.underlying132 Tryz.infoSetV n oM oM;have HNS:=Xa (fun W=>KM room W hr);generalize (room+63) / 64=K at *
 go_enter Tryz.func107,Tryz.ntmps107
 go_wp2_with fail
 go_loopw [11] (fun u wr=>∃q:Nat,q<=n/\u=.int .i64 q/\∃gs,Hid (ZaV w wr w.heap.size n K q gs)) (fun u _=>n-(intOf u).toNat)
 case atStart=>exact⟨0,Nat.zero_le _,rfl,fun _=>0,Xa ⟨Xb (Below.refl _ _) _,Nat.le_refl _,by
  have h:=World.rowIs_made w (.slice none 0 0) n 93;simpa [Value.cells]using h,fun i hi=>absurd hi oM,fun i j hi=>absurd hi oM,fun i hi=>absurd hi oM⟩⟩
 case round =>
  obtain⟨q,hq,rfl,gs,HS⟩:=hrel;by_cases hlt:q<n
  ·go_wp2_with fail
   refine(HNS.out wr).mono ?_;rintro e w1 ⟨g,rfl,hg,hb1,hr1⟩;have hS1:=HS.next hlt hb1 hg hr1;obtain⟨hS2,hc1,hz1⟩:=hS1;have HS2:=Xa hS2;clear hS2 hb1 hr1
   go_wp2_with fail
   exact⟨⟨q+1,oM,gM,_,HS2⟩,by simp[intOf];omega⟩
  ·have hqn:q=n:=oM
   subst hqn
   go_wp2_with fail
   go_ret
   refine⟨_,gs,rfl,Nat.le_refl _,HS.low,⟨HS.row.congr (fun i hi=>by rw[if_pos hi]),fun i hi=>WsAt.of_row (HS.set i hi),HS.inj,fun i hi e=>by have:=HS.up i hi;omega⟩,fun i hi=>by have:=HS.up i hi;omega⟩
end Go.Proofs.YtlmgmkmomaileaaGreatDoor
namespace Go.Proofs.YtlmgmkmomaileaaGreatDoor
set_option maxHeartbeats 4000000
set_option maxRecDepth 100000
open Go.RowKit
def Yj(w:World)(P:Nat->Prop)(a:Option Addr)(xs:List Int):Prop :=
 ∀i (h:i<xs.length),∃b o,a=some ⟨b,o,none⟩/\(P b/\b<w.heap.size)/\w.cell? ⟨b,o+i,none⟩=some (.int .i64 xs[i])
def KQ(w:World)(P:Nat->Prop)(a:Option Addr)(xss:List (List Int)):Prop :=
 ∀i (h:i<xss.length),∃b o,a=some ⟨b,o,none⟩/\(P b/\b<w.heap.size)/\∃a' c',w.cell? ⟨b,o+i,none⟩=some (.slice a' xss[i].length c')/\Yj w P a' xss[i]
theorem XB.keep{w w':World}{G n K:Nat}{gs cp:Nat->Nat}{Ws:Nat->Nat->Nat}(h:XB w G n K gs cp Ws)(k:Below w.heap.size w w'):XB w' G n K gs cp Ws :=
 ⟨h.row.of_block (k.block _ h.row.lt),fun i hi=>(h.set i hi).of_block (k.block _ (h.set i hi).lt),h.inj,h.out⟩
theorem XB.wrote{w w':World}{G n K b:Nat}{gs cp:Nat->Nat}{Ws:Nat->Nat->Nat}{W':Nat->Nat}(h:XB w G n K gs cp Ws)(hb:b<n)(k:w.grownBy w' (some (gs b)))(hr:WsAt w' (gs b) K (cp b) W'):XB w' G n K gs cp (fun i=>if i=b then W' else Ws i):=by
 refine⟨h.row.of_block (k.block _ h.row.lt (fun e=>h.out b hb (by injection e with e;exact e.symm))),fun i hi=>?_,h.inj,h.out⟩;by_cases e:i=b
 ·subst e
  simpa using hr
 ·simp only[if_neg e]
  exact(h.set i hi).of_block (k.block _ (h.set i hi).lt (fun e2=>e (by injection e2 with e2;exact h.inj i b hi hb e2)))
theorem XB.apart{w w':World}{G2 n K:Nat}{gs gs2 cp2:Nat->Nat}{T:Nat->Nat->Nat}(h:XB w G2 n K gs2 cp2 T)(f:FrS w w' n gs)(h1:∀i,i<n->G2≠gs i)(h2:∀i j,i<n->j<n->gs2 i≠gs j):XB w' G2 n K gs2 cp2 T :=
 ⟨h.row.of_block (f.block _ h.row.lt h1),fun i hi=>(h.set i hi).of_block (f.block _ (h.set i hi).lt (fun j hj=>h2 i j hi hj)),h.inj,h.out⟩
theorem Zag(b0 o0 n0 c0:Nat)(ord:List Nat)(L1 B1:Nat)(sa:Option Addr)(ns cs:Nat)(src:List (List Nat))(G G2 n K:Nat)(gs gs2 cp cp2:Nat->Nat)(I T:Nat->Nat->Nat)(w:World)
 (hord:Hid (Xf w L1 B1 (some ⟨b0,o0,none⟩) (Xs ord))) (h0:Hid (n0=ord.length)) (hn0:n0<=1000) (hn0':0<n0) (hsrc:Hid (KQ w (fun k=>∀i,i<n->k≠gs i) sa (src.map Xs))) (hs:Hid (ns=src.length)) (hns:Hid (src.length=n)) (hK:K<=100)
 (hB1:B1<=w.heap.size) (HI:Hid (XB w G n K gs cp I)) (HT:Hid (XB w G2 n K gs2 cp2 T)) (hwI:Hid (XX I)) (hwT:Hid (XX T))
 (d3:Hid (∀i,i<n->G2≠gs i)) (d4:Hid (∀i j,i<n->j<n->gs2 i≠gs j))
 (ho:Hid (∀b∈ord,b<n)) (hsr:Hid (∀l∈src,l.length<=2000/\∀t∈l,t<n)) :
 Calls Tryz.prog 112 #[.slice (some ⟨b0,o0,none⟩) n0 c0,.slice sa ns cs,.slice (some ⟨G,0,none⟩) n n,.slice (some ⟨G2,0,none⟩) n n] w fun e w'=>e=.returned (.tuple #[])/\FrS w w' n gs/\∃Ws,XX Ws/\XB w' G n K gs cp Ws/\∀b,b<n->∀x,x<64*K->(Xg (Ws b) x=true↔Sp I T (·∈ord) (fun b=>src.getD b []) b x):=by
 go_enter Tryz.func112,Tryz.ntmps112
 go_wp2_with fail
 go_step3
 go_wp2_with fail
 refine(ZdQ b0 o0 n0 c0 (Xs ord) L1 B1 w hord (Xa (by have:=h0.out;simp[Xs];omega)) oM hB1).mono ?_;rintro e w1 ⟨v1,rfl,hb1,hne1,ho1⟩;obtain⟨g1,k1,rfl,hg1,hk1⟩:=XC ho1 (by have:=h0.out;simp[Xs];omega);have HB1:=Xa hb1;have HO1:=Xa ho1;have hln:(Xs ord).length=n0:=by have:=h0.out;simp[Xs];omega
 rw[hln]at HO1;clear hb1 ho1 hne1
 go_wp2_with fail
 have hg1z:g1<w1.heap.size:=hg1.2;have hg1b:w.heap.size<=g1:=hg1.1;refine(ZcI g1 n0 k1 w.heap.size (Xs ord) w1 oM (Xa hln.symm) HO1).mono ?_;rintro e w2 ⟨rfl,hgr2,ho2⟩;have HB2:Hid (Below w.heap.size w w2):=Xa (HB1.grown hgr2 HB1.size (fun k e=>by cases e;omega));have HO2:=Xa ho2;clear hgr2 ho2 HO1 HB1
 go_wp2_with fail
 have HWA:Hid (Below w2.heap.size w2 (w2.alloc (.cells #[.slice (some ⟨b0,o0,none⟩) n0 c0,.slice (some ⟨g1,0,none⟩) n0 k1] 25))):=Xa (Xb (Below.refl _ _) _);have hq0:(w2.alloc (.cells #[.slice (some ⟨b0,o0,none⟩) n0 c0,.slice (some ⟨g1,0,none⟩) n0 k1] 25)).cell? ⟨w2.heap.size,0,none⟩=some (.slice (some ⟨b0,o0,none⟩) n0 c0):=sP;have hq1:(w2.alloc (.cells #[.slice (some ⟨b0,o0,none⟩) n0 c0,.slice (some ⟨g1,0,none⟩) n0 k1] 25)).cell? ⟨w2.heap.size,1,none⟩=some (.slice (some ⟨g1,0,none⟩) n0 k1):=sP;generalize w2.alloc (.cells #[.slice (some ⟨b0,o0,none⟩) n0 c0,.slice (some ⟨g1,0,none⟩) n0 k1] 25)=wa at *;have HBA:Hid (Below w.heap.size w wa):=Xa (Xd HB2.out HWA.out);have hlr:(Xs ord).reverse.length=n0:=by rw[List.length_reverse];exact hln
 have HIR:Hid (Xf wa w.heap.size w2.heap.size (some ⟨g1,0,none⟩) (Xs ord).reverse):=Xa (by
  have h:=HO2.out;rw[<-hlr]at h;obtain⟨a',c',e',hi'⟩:=Xl h;injection e' with e1;subst e1;exact hi'.keep HWA.out)
 refine(ZcL w2.heap.size n0 c0 n0 k1 _ _ (Xs ord) (Xs ord).reverse L1 B1 w.heap.size w2.heap.size wa (Xa (hord.keep (HBA.mono hB1))) HIR (Xa hln.symm) (Xa hlr.symm) hn0 hn0 oM (by have:=HBA.size;omega) HWA.size hq0 hq1).mono ?_;rintro e w3 ⟨v3,rfl,hb3,ho3⟩;have HB3:Hid (Below w.heap.size w w3):=Xa (Xd HBA.out hb3);have eR:Xs ord++(Xs ord).reverse=Xs (ord++ord.reverse):=by simp[Xs]
 rw[eR]at ho3;have hRl:(ord++ord.reverse).length=2*n0:=by have:=h0.out;simp;omega
 have hRo:Hid (∀b,b∈ord++ord.reverse↔b∈ord):=Xa (fun b=>sP);generalize ord++ord.reverse=R at *;have hnl:(Xs R).length=R.length:=by simp[Xs]
 obtain⟨a3,c3,e3,hi3⟩:=Xl ho3;rw[hnl]at e3;subst e3;have HI3:=Xa hi3;have HZ3:Hid (wa.heap.size<=w3.heap.size/\w.heap.size<=wa.heap.size):=Xa ⟨hb3.size,HBA.size⟩;clear hb3 ho3 eR hq0 hq1 HIR HWA HO2 HB2 hi3;have HS3:=Xa (HI.keep (HB3.out));have HT3:=Xa (HT.keep (HB3.out));have hR0:0<R.length:=oM;have hR1:R.length<=2000:=oM;clear hRl hln hlr hnl;have HGS:Hid (∀i,i<n->gs i<w.heap.size):=Xa (fun i hi=>(HI.set i hi).lt)
 go_wp2_with fail
 go_step3
 go_wp2_with fail
 go_loopg [10] (Tx I K n) (fun k qv wr=>∃(q:Nat)(W:Nat->Nat->Nat),qv=.int .i64 q/\q<R.length/\Hid (FrS w3 wr n gs)/\Hid (XB wr G n K gs cp W)/\Hid (XX W)/\Hid (Tx W K n<=k)/\Hid (∀b x,Xg (I b) x=true->Xg (W b) x=true)/\Hid (∀b x,Xg (W b) x=true->Sp I T (·∈ord) (fun b=>src.getD b []) b x)/\Hid (ClQ T K (fun b=>src.getD b []) W R q 0))
 case atStart=>exact⟨0,I,rfl,hR0,Xa (FrS.refl _ _ _),HS3,hwI,Xa (Nat.le_refl _),Xa (fun _ _ h=>h),Xa (fun _ _ h=>Sp.init h),Xa Zcm⟩
 case round =>
  obtain⟨q0,W0,rfl,hq0,HF0,HS0,HW0,HM0,HI0,HSo0,HC0⟩:=hrel
  go_wp2_with fail
  generalize wr=wo at *
  go_loopw [10,26] (fun qv u wr=>∃(q p:Nat)(W:Nat->Nat->Nat),qv=.int .i64 q/\q<R.length/\u=.int .i64 p/\p<=R.length/\Hid (FrS w3 wr n gs)/\Hid (XB wr G n K gs cp W)/\Hid (XX W)/\Hid (Tx W K n<gk\/(Tx W K n<=gk/\q=q0+p))/\Hid (∀b x,Xg (I b) x=true->Xg (W b) x=true)/\Hid (∀b x,Xg (W b) x=true->Sp I T (·∈ord) (fun b=>src.getD b []) b x)/\Hid (ClQ T K (fun b=>src.getD b []) W R q p)) (fun _ u _=>R.length-(intOf u).toNat)
  case atStart=>exact⟨q0,0,W0,rfl,hq0,rfl,Nat.zero_le _,HF0,HS0,HW0,Xa (Or.inr ⟨HM0.out,oM⟩),HI0,HSo0,HC0⟩
  case round =>
   obtain⟨q,p,W,rfl,hq,rfl,hp,HF,HS,HW,HM,HIm,HSo,HC⟩:=hrel;by_cases hlt:p<R.length
   ·obtain⟨br,or_,rfl,hbr,er3⟩:=HI3.out p (by simpa [Xs]using hlt)
    have HFW:Hid (FrS w wr n gs):=Xa ⟨HF.os.trans HB3.os,HF.tape.trans HB3.tape,HF.output.trans HB3.output,Nat.le_trans HB3.size HF.size,fun k h1 h2=>(HF.block k (Nat.lt_of_lt_of_le h1 HB3.size) h2).trans (HB3.block k h1)⟩;have er:=(Xc (HF.block br hbr.2 (fun i hi e=>by have:=HGS.out i hi;have:=HZ3.out;omega))).trans er3;have hRp:(Xs R)[p]'(by simpa [Xs]using hlt)=((R[p]:Nat):Int):=by simp[Xs]
    rw[hRp]at er;have hbn:R[p]<n:=ho.out _ ((hRo.out _).1 (List.getElem_mem hlt));have hbo:Hid (R[p]∈ord):=Xa ((hRo.out _).1 (List.getElem_mem hlt));have hbs:R[p]<src.length:=by have:=hns.out;omega
    obtain⟨bs,os,hsa,hbs2,as',cs',es,his⟩:=hsrc.out R[p] (by simpa using hbs);subst hsa;have esr:=(Xc (HFW.block bs hbs2.2 hbs2.1)).trans es;have hsl:((src.map Xs)[R[p]]'(by simpa using hbs)).length=src[R[p]].length:=by simp[Xs]
    rw[hsl]at esr;have HSL:=Xa (hsr.out src[R[p]] (List.getElem_mem hbs));have hls:=HSL.1;have HGD:Hid (src.getD R[p] []=src[R[p]]):=Xa (by simp[hbs]);have HCN:Hid (∀W',(∀i x,x<64*K->Xg (W' i) x=Xg (W i) x)->ClB T K (fun b=>src.getD b []) W R[p]->ClQ T K (fun b=>src.getD b []) W' R (q+1) (p+1)):=Xa (fun W' e hb=>ZhM HC.out e hlt hb);have hbsn:R[p]<ns:=by have:=hs.out;omega
    have HISw:Hid (Yj w (fun k=>∀i,i<n->k≠gs i) as' (Xs src[R[p]])):=Xa (by simpa using his);clear er3 es his hRp hsl;generalize hbb:R[p]=b at *;clear hbb;generalize src[b]=sl at *
    go_wp2_with fail
    generalize wr=wo2 at *
    go_loopw [13,35] (fun gv u wq=>∃r:Nat,r<=sl.length/\u=.int .i64 r/\gv=.bool (takesN T K b (sl.take r) (W,false)).2/\Hid (FrS w3 wq n gs)/\Hid (XB wq G n K gs cp (takesN T K b (sl.take r) (W,false)).1)) (fun _ u _=>sl.length-(intOf u).toNat)
    case atStart=>exact⟨0,Nat.zero_le _,rfl,rfl,HF,HS⟩
    case round =>
     obtain⟨r,hr,rfl,rfl,HFq,HSq⟩:=hrel;by_cases hlr:r<sl.length
     ·have HFW2:Hid (FrS w wr n gs):=Xa ⟨HFq.os.trans HB3.os,HFq.tape.trans HB3.tape,HFq.output.trans HB3.output,Nat.le_trans HB3.size HFq.size,fun k h1 h2=>(HFq.block k (Nat.lt_of_lt_of_le h1 HB3.size) h2).trans (HB3.block k h1)⟩
      obtain⟨b5,o5,rfl,hb5,e5w⟩:=HISw.out r (by simpa [Xs]using hlr);have e5:=(Xc (HFW2.block b5 hb5.2 hb5.1)).trans e5w;have hsr5:(Xs sl)[r]'(by simpa [Xs]using hlr)=((sl[r]:Nat):Int):=by simp[Xs]
      rw[hsr5]at e5;have hsn:sl[r]<n:=HSL.2 _ (List.getElem_mem hlr);have HTQ:=Xa (HT3.apart HFq.out d3.out d4.out);have HTK:=Xa (Zd8 (T:=T) (K:=K) (b:=b) hlr (W,false));have HWq:=Xa (Wx (T:=T) (K:=K) (b:=b) (sl.take r) (W,false) HW.out);clear e5w hsr5;generalize sl[r]=s at *;generalize takesN T K b (sl.take r) (W,false)=sq at *;obtain⟨Wq,gq⟩:=sq;dsimp only at *;have k1:=HSq.row.cell hbn;have k2:=HSq.row.cell hsn;have k3:=HTQ.row.cell hbn;have HAB:=Xa (KR (gs b) (gs s) (gs2 b) K (cp b) (cp s) (cp2 b) (Wq b) (Wq s) (T b) wr.drew (Xa (HWq.out b)) (Xa (HWq.out s)) (Xa (hwT.out b)) oM (Xa ((HSq.set b hbn).drew)) (Xa ((HSq.set s hsn).drew)) (Xa ((HTQ.set b hbn).drew)) (d4.out b b hbn hbn) (Xa (fun e=>by rw[HSq.inj s b hsn hbn e])));have HSD:Hid (XB wr.drew G n K gs cp Wq):=Xa ⟨HSq.row,fun i hi=>(HSq.set i hi).drew,HSq.inj,HSq.out.out⟩;have HFD:Hid (FrS w3 wr.drew n gs):=Xa ⟨HFq.os,HFq.tape,HFq.output,HFq.size,HFq.block⟩;have HLL:Hid (G<wr.heap.size/\G2<wr.heap.size):=Xa ⟨HSq.row.lt,HTQ.row.lt⟩;generalize grewN (Wq b) (Wq s) (T b) K=g5 at *;cases g5 with
      | true =>
       go_wp2_with fail
       refine Z1 (fun w'=>w'.cell? ⟨G,b,none⟩=some (.slice (some ⟨gs b,0,none⟩) K (cp b))/\w'.cell? ⟨G,s,none⟩=some (.slice (some ⟨gs s,0,none⟩) K (cp s))/\w'.cell? ⟨G2,b,none⟩=some (.slice (some ⟨gs2 b,0,none⟩) K (cp2 b))) (fun hHeld=>?_);refine Xi 0 ?_;refine Xi 1 ?_;refine Xi 2 ?_;refine Xi 3 ?_;refine Xi 4 ?_;refine Xi 5 ?_;refine Xi 6 ?_;refine Xi 7 ?_;refine Xi 8 ?_;refine Xi 9 ?_;refine Xi 10 ?_;refine Xi 11 ?_;refine Xt 12 (fun K hK=>?_);go_simp
       go_at_call 114
       refine HAB.mono ?_;rintro e w5 ⟨rfl,hg5,hr5⟩;have HS5:=Xa (HSD.wrote hbn hg5 hr5);have HF5:=Xa (HFD.grown hg5 hbn);have j1:=(Xc (hg5.block G HLL.1 (fun e=>HSq.out.out b hbn (by injection e with e;exact e.symm)))).trans k1;have j2:=(Xc (hg5.block G HLL.1 (fun e=>HSq.out.out b hbn (by injection e with e;exact e.symm)))).trans k2;have j3:=(Xc (hg5.block G2 HLL.2 (fun e=>d3.out b hbn (by injection e)))).trans k3;clear hg5 hr5 HAB;refine hK _ _ ⟨j1,j2,j3⟩ (fun hHeld=>?_);clear hK;refine Xi 13 ?_;refine Y9 14 ?_;refine Xi 15 ?_;refine Xi 16 ?_;refine YA ?_
       go_wp2_with fail
       exact⟨⟨r+1,oM,gM,by rw[HTK.out];rfl,Xa HF5.out,Xa (by rw[HTK.out];exact HS5.out)⟩,by simp[intOf];omega⟩
      | false =>
       go_wp2_with fail
       refine Z1 (fun w'=>w'.cell? ⟨G,b,none⟩=some (.slice (some ⟨gs b,0,none⟩) K (cp b))/\w'.cell? ⟨G,s,none⟩=some (.slice (some ⟨gs s,0,none⟩) K (cp s))/\w'.cell? ⟨G2,b,none⟩=some (.slice (some ⟨gs2 b,0,none⟩) K (cp2 b))) (fun hHeld=>?_);refine Xi 0 ?_;refine Xi 1 ?_;refine Xi 2 ?_;refine Xi 3 ?_;refine Xi 4 ?_;refine Xi 5 ?_;refine Xi 6 ?_;refine Xi 7 ?_;refine Xi 8 ?_;refine Xi 9 ?_;refine Xi 10 ?_;refine Xi 11 ?_;refine Xt 12 (fun K hK=>?_);go_simp
       go_at_call 114
       refine HAB.mono ?_;rintro e w5 ⟨rfl,hg5,hr5⟩;have HS5:=Xa (HSD.wrote hbn hg5 hr5);have HF5:=Xa (HFD.grown hg5 hbn);have j1:=(Xc (hg5.block G HLL.1 (fun e=>HSq.out.out b hbn (by injection e with e;exact e.symm)))).trans k1;have j2:=(Xc (hg5.block G HLL.1 (fun e=>HSq.out.out b hbn (by injection e with e;exact e.symm)))).trans k2;have j3:=(Xc (hg5.block G2 HLL.2 (fun e=>d3.out b hbn (by injection e)))).trans k3;clear hg5 hr5 HAB;refine hK _ _ ⟨j1,j2,j3⟩ (fun hHeld=>?_);clear hK;refine Xi 13 ?_;refine Xi 14 ?_;refine Xi 15 ?_;refine Xi 16 ?_;refine YA ?_
       go_wp2_with fail
       exact⟨⟨r+1,oM,gM,by rw[HTK.out];rfl,Xa HF5.out,Xa (by rw[HTK.out];exact HS5.out)⟩,by simp[intOf];omega⟩
     ·have hre:r=sl.length:=oM
      have HTE:Hid (sl.take r=sl):=Xa (List.take_of_length_le oM);rw[HTE.out]at HSq |-;clear hre;have HW2:=Xa (Wx (T:=T) (K:=K) (b:=b) sl (W,false) HW.out);have HMo:=Xa (Kf (T:=T) (K:=K) (b:=b) hwT.out sl (W,false) HW.out);have HSd:=Xa (Vj (I:=I) (T:=T) (K:=K) (b:=b) (ord:=(·∈ord)) (src:=fun b=>src.getD b []) hwT.out hbo.out sl (W,false) HW.out (fun t ht=>by show t∈src.getD b [];rw[HGD.out];exact ht) HSo.out);have HQu:=Xa (Vm (T:=T) (K:=K) (b:=b) hwT.out sl (W,false) HW.out);have HGw:=Xa (Wz (T:=T) (K:=K) (b:=b) hwT.out sl (W,false) HW.out rfl);have HOt:=Xa (fun i (hi:i≠b)=>Vr (T:=T) (K:=K) hi sl (W,false));generalize takesN T K b sl (W,false)=sq at *;obtain⟨W2,g2'⟩:=sq;dsimp only at *;have HIm2:Hid (∀b x,Xg (I b) x=true->Xg (W2 b) x=true):=Xa (fun b x h=>HMo.out b x (HIm.out b x h));cases g2' with
      | true =>
       have HML:=Xa (Zc1 (K:=K) HOt.out (HGw.out rfl) n hbn)
       go_wp2_with fail
       exact⟨⟨0,p+1,W2,rfl,hR0,gM,oM,HFq,HSq,HW2,Xa (Or.inl (by have:=HML.out;rcases HM.out with h | h<;>omega)),HIm2,HSd,Xa Zcm⟩,by simp[intOf];omega⟩
      | false =>
       obtain⟨hsame,hcl⟩:=HQu.out rfl;have HCQ:Hid (ClQ T K (fun b=>src.getD b []) W2 R (q+1) (p+1)):=Xa (HCN.out W2 hsame (fun t ht x hx=>by have ht':t∈src.getD b []:=ht;rw[HGD.out]at ht';exact hcl t ht' x hx));have HMS:Hid (Tx W2 K n=Tx W K n):=Xa (Wf n (fun i _=>Zbo _ (fun x hx=>hsame i x hx)));clear hsame hcl;by_cases hqe:q+1=R.length
       ·have hqb:(((q:Int)+1)==(R.length:Int))=true:=by simp;omega
        have HCA:Hid (ClQ T K (fun b=>src.getD b []) W2 R R.length (p+1)):=Xa (by rw[<-hqe];exact HCQ.out);clear hqe
        go_wp2_with fail
        go_end0
        refine⟨rfl,⟨HFq.os.trans HB3.os,HFq.tape.trans HB3.tape,HFq.output.trans HB3.output,Nat.le_trans HB3.size HFq.size,fun k h1 h2=>(HFq.block k (Nat.lt_of_lt_of_le h1 HB3.size) h2).trans (HB3.block k h1)⟩,W2,HW2.out,HSq.out,fun b _ x hx=>?_⟩;exact Zdr HIm2.out HSd.out (fun b hb t ht x hx h1 h2=>Zjt HCA.out oM ((hRo.out b).2 hb) t ht x hx h1 h2) b x hx
       ·have hqb:(((q:Int)+1)==(R.length:Int))=false:=by simp;omega
        go_wp2_with fail
        exact⟨⟨q+1,p+1,W2,gM,oM,gM,oM,HFq,HSq,HW2,Xa (by rw[HMS.out];rcases HM.out with h | ⟨h,h'⟩;exact Or.inl h;exact Or.inr ⟨h,oM⟩),HIm2,HSd,HCQ⟩,by simp[intOf];omega⟩
   ·have hpe:p=R.length:=oM
    subst hpe
    go_wp2_with fail
    go_roundg (Tx W K n)
    case measure=>rcases HM.out with h | ⟨_,h⟩;exact h;omega
    case rel=>exact⟨q,W,rfl,hq,HF,HS,HW,Xa (Nat.le_refl _),HIm,HSo,Xa (Zh2 HC.out hq)⟩
end Go.Proofs.YtlmgmkmomaileaaGreatDoor
