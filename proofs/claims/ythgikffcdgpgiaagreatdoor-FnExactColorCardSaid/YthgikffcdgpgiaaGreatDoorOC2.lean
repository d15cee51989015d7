import Derived.Test.YthgikffcdgpgiaaGreatDoorOC1
import Derived.Test.YthgikffcdgpgiaaGreatDoorMem
import Derived.Test.YthgikffcdgpgiaaGreatDoorW5
import Derived.Deep.RegionHeld3
import Derived.Test.YthgikffcdgpgiaaGreatDoorWS0
namespace Go.Proofs.YthgikffcdgpgiaaGreatDoor
open Go.RowKit
def cntN (W:Nat→Nat) (K:Nat):Nat:=(List.range (64*K)).countP fun x=>hasN W x
theorem cnt_step (W:Nat→Nat) (K:Nat):cntN W (K+1)=cntN W K+onesN 8 (W K):=by
 unfold cntN onesN
 have e:64*(K+1)=64*K+8*8:=by omega
 rw [e,List.range_add,List.countP_append,List.countP_map]
 congr 1
 apply List.countP_congr
 intro i hi
 have:i<64:=List.mem_range.1 hi
 have e1:(64*K+i) / 64=K:=by omega
 have e2:(64*K+i) % 64=i:=by omega
 simp only [Function.comp,hasN,e1,e2]
theorem cnt_le (W:Nat→Nat) (K:Nat):cntN W K≤64*K:=Nat.le_trans (List.countP_le_length) (by simp)
set_option maxHeartbeats 1000000 in
set_option maxRecDepth 100000 in
theorem count_valueNo (g K C:Nat) (W:Nat→Nat) (w:World) (hW:Hid (WdOk W)) (hr:Hid (WsAt w g K C W)) (hK:K≤1000) :
  Calls Tryz.prog 37 #[.agg #[.slice (some ⟨g,0,none⟩) K C]] w fun e w'=>e=.returned (.int .i64 (cntN W K:Nat))∧Below w.heap.size w w':=by
 have hg:=hr.out.lt
 go_enter Tryz.func37,Tryz.ntmps37
 go_wp2
 go_loopw [3,9] (fun u i wr=>∃k:Nat,k≤K∧i=.int .i64 k∧u=.int .i64 (cntN W k:Nat)∧Hid (Below w.heap.size w wr)) (fun _ i _=>K-(intOf i).toNat)
 case atStart=>exact ⟨0,Nat.zero_le _,rfl,rfl,hide (balloc (Below.refl _ _) _)⟩
 case round =>
  obtain ⟨k,hk,rfl,rfl,HB⟩:=hrel
  by_cases hlt:k<K
  ·have hc:=(HB.out.cell (p:=⟨g,k,none⟩) hg).trans (hr.out.cell hlt)
   have hwk:=hW.out k
   have HS:=hide (cnt_step W k)
   have hle:=cnt_le W k
   have hle2:=cnt_le W (k+1)
   rw [HS.out] at hle2
   generalize cntN W k=c0 at *
   generalize W k=Wk at *
   have HO:=hide (ones_any Wk wr hwk)
   generalize onesN 8 Wk=o at *
   go_wp2_with (go_at_call 70;refine HO.out.mono ?_;rintro e w2 ⟨rfl,hw2⟩;rw [hw2];clear hw2 w2)
   exact ⟨⟨k+1,by omega,by go_num,by rw [HS.out];go_num,HB⟩,by simp [intOf];omega⟩
  ·have e:k=K:=by omega
   subst e
   go_wp2
   go_ret
   exact ⟨rfl,HB.out⟩
end Go.Proofs.YthgikffcdgpgiaaGreatDoor

namespace Go.Proofs.YthgikffcdgpgiaaGreatDoor
open Go.RowKit
theorem Tryz.infoU64blockNo:(Tryz.prog.info? 133).map (fun i=>(i.zero,i.size,i.bytes))=some (some (.int .u64 0),1,8):=by kernel_rfl
set_option maxHeartbeats 1000000 in
set_option maxRecDepth 100000 in
theorem has_blockNo (g K x:Nat) (W:Nat→Nat) (w:World) (hW:Hid (WdOk W)) (hr:Hid (w.rowIs g 133 K (fun i=>.int .u64 (W i)))) (hx:x<64*K) (hK:K≤1000):Calls Tryz.prog 92 #[.agg #[.slice (some ⟨g,0,none⟩) K K],.int .i64 x] w fun e w'=>e=.returned (.bool (hasN W x))∧Below w.heap.size w w':=by
 have h2:=quoN x
 have h3:=remN x
 have hq:x / 64<K:=by omega
 have hm:x % 64<64:=Nat.mod_lt _ (by decide)
 have hc:=hr.out.cell hq
 have hg:=hr.out.lt
 have hc2:=fun o=>((balloc (Below.refl w.heap.size w) o).cell (p:=⟨g,x / 64,none⟩) hg).trans hc
 have HH:Hid ((bits .and .u64 ((W (x / 64):Int) / 2 ^ (x % 64)) 1==1)=hasN W x):=hide (hasN_bit (hW.out _))
 clear hc
 generalize hd:x / 64=xd at *
 generalize hm2:x % 64=xm at *
 generalize W xd=Wd at *
 go_enter Tryz.func92,Tryz.ntmps92
 go_wp2
 go_ret
 exact ⟨ret_boolN HH.out,balloc (Below.refl _ _) _⟩
set_option maxHeartbeats 1000000 in
set_option maxRecDepth 100000 in
theorem newSet_blockNo (room:Nat) (w:World) (hr:room≤60000):Calls Tryz.prog 91 #[.int .i64 room] w fun e w'=>∃g,e=.returned (.agg #[.slice (some ⟨g,0,none⟩) ((room+63) / 64) ((room+63) / 64)])∧w.heap.size≤g∧Below w.heap.size w w'∧w'.rowIs g 133 ((room+63) / 64) (fun _=>.int .u64 ((0:Nat):Int)):=by
 have hmk:=run_make_row' (P:=Tryz.prog) 73 133 (.int .u64 0) 8 Tryz.underlying73 Tryz.infoU64blockNo rfl .i64 .i64 ((room+63) / 64) (by omega) (by omega)
 have hq:((room:Int)+63).tdiv 64=(((room+63) / 64:Nat):Int):=by rw [Int.tdiv_eq_ediv_of_nonneg (by omega)];omega
 have hq2:((room:Int)+64-1)=(room:Int)+63:=by omega
 have hK:(room+63) / 64≤1000:=by omega
 generalize (room+63) / 64=K at *
 go_enter Tryz.func91,Tryz.ntmps91
 go_wp2
 refine bodyPost_ret (v:=.agg #[.slice (some ⟨w.heap.size+1,0,none⟩) K K]) (by simp [results,Tryz.results91,go_sem]) rfl ?_
 refine ⟨w.heap.size+1,rfl,by omega,balloc (balloc (Below.refl _ _) _) _,?_⟩
 have hrow:∀ob,((w.alloc ob).alloc (.cells (madeCells #[.int .u64 0] K) 133)).rowIs (w.heap.size+1) 133 K (fun _=>.int .u64 0):=fun ob=>by
  have:=World.rowIs_made (w.alloc ob) (.int .u64 0) K 133
  rwa [World.size_alloc] at this
 exact hrow _
set_option maxHeartbeats 1000000 in
set_option maxRecDepth 100000 in
theorem add_blockNo (g K n c:Nat) (W:Nat→Nat) (a:Option Addr) (ts:List Nat) (L B:Nat) (w:World) (ha:Hid (IntsAt w L B a (ts.map Int.ofNat))) (hx:Hid (n=ts.length)) (hn:n≤4000) (ht:Hid (∀t∈ts,t<64*K)) (hK:K≤1000) (hW:Hid (WdOk W)) (hr:Hid (w.rowIs g 133 K (fun i=>.int .u64 (W i)))) (hB:B≤w.heap.size) (hgL:¬(L≤g∧g<B)) :
  Calls Tryz.prog 93 #[.agg #[.slice (some ⟨g,0,none⟩) K K],.slice a n c] w fun e w'=>e=.returned (.tuple #[])∧w.grownBy w' (some g)∧w'.rowIs g 133 K (fun i=>.int .u64 (addsN W ts i)):=by
 go_enter Tryz.func93,Tryz.ntmps93
 go_wp2
 have hg:g<w.heap.size:=hr.out.lt
 go_loopw [8] (fun u wr=>∃q:Nat,q≤n∧u=.int .i64 q∧Hid (w.grownBy wr (some g))∧wr.cell? ⟨w.heap.size,0,none⟩=some (.slice (some ⟨g,0,none⟩) K K)∧Hid (wr.rowIs g 133 K (fun i=>.int .u64 (addsN W (ts.take q) i)))) (fun u _=>n-(intOf u).toNat)
 case atStart=>exact ⟨0,Nat.zero_le _,rfl,hide (World.grownBy_alloc _ _ _),by simp,hide (hr.out.alloc _)⟩
 case round =>
  obtain ⟨q,hq,rfl,HG,hs,HR⟩:=hrel
  by_cases hlt:q<n
  ·have hqx:q<ts.length:=by have:=hx.out;omega
   obtain ⟨b,o,rfl,hbB,e0w⟩:=ha.out q (by simpa using hqx)
   have e0:=(cell_of (HG.out.block b (by omega) (fun e=>by injection e with e;omega))).trans e0w
   rw [List.getElem_map] at e0
   have htq:=ht.out _ (List.getElem_mem hqx)
   have HT:=hide (adds_take (W:=W) hqx)
   have HWA:=hide (adds_wd (ts.take q) hW.out)
   clear e0w
   generalize ts[q]=t at *
   have h2:=quoN t
   have h3:=remN t
   have e0':wr.cell? ⟨b,o+q,none⟩=some (.int .i64 (t:Int)):=e0
   clear e0
   generalize addsN W (ts.take q)=W1 at *
   have hd:t / 64<K:=by omega
   have hm:t % 64<64:=Nat.mod_lt _ (by decide)
   have ec:=HR.out.cell hd
   have ez:=HR.out.frozen
   have HOR:=hide (orN_bit hm (HWA.out (t / 64)))
   have HAD:Hid (∀i,(if i=t / 64 then W1 (t / 64) ||| 2 ^ (t % 64) else W1 i)=addsN W (ts.take (q+1)) i):=hide (fun i=>by
    rw [HT.out]
    unfold addN
    by_cases e:i=t / 64
    ·rw [if_pos e,if_pos e,e]
    ·rw [if_neg e,if_neg e])
   generalize hd2:t / 64=td at *
   generalize hm2:t % 64=tm at *
   go_wp2
   go_region
   go_wp2
   rw [HOR.out]
   have kk:wr.grownBy (wr.setCell ⟨g,td,none⟩ (.int .u64 ((W1 td ||| 2 ^ tm:Nat):Int))).drew (some g):=⟨rfl,rfl,rfl,by simp [World.setCell,World.drew],fun k _ hk=>Below.heap_setCell _ _ _ _ (fun e=>hk (by rw [e]))⟩
   refine ⟨⟨q+1,by omega,by go_num,hide (HG.out.andThen kk (fun j hj=>by cases hj;exact Or.inr rfl)),?_,hide ?_⟩,by simp [intOf];omega⟩
   ·exact (World.cell?_setCell_far wr ⟨g,td,none⟩ ⟨w.heap.size,0,none⟩ _ (by show g≠w.heap.size;omega)).trans hs
   ·refine World.rowIs.drew ((HR.out.set td _).congr (fun i _=>?_))
    rw [←HAD.out i]
    by_cases e:i=td<;>simp [e]
  ·have hqn:q=n:=by omega
   have HX:Hid (ts.take q=ts):=hide (List.take_of_length_le (by have:=hx.out;omega))
   rw [HX.out] at HR
   go_wp2
   go_end0
   exact ⟨rfl,HG.out,HR.out⟩
set_option maxHeartbeats 2000000 in
set_option maxRecDepth 100000 in
theorem addBut_blockNo (g g2 g3 K:Nat) (S O T:Nat→Nat) (w:World) (hS:Hid (WdOk S)) (hO:Hid (WdOk O)) (hT:Hid (WdOk T)) (hK:K≤1000) (rS:Hid (w.rowIs g 133 K (fun i=>.int .u64 (S i)))) (rO:Hid (w.rowIs g2 133 K (fun i=>.int .u64 (O i)))) (rT:Hid (w.rowIs g3 133 K (fun i=>.int .u64 (T i)))) (h3:g3≠g) (hs:Hid (g2=g→S=O)) :
  Calls Tryz.prog 145 #[.agg #[.slice (some ⟨g,0,none⟩) K K],.agg #[.slice (some ⟨g2,0,none⟩) K K],.agg #[.slice (some ⟨g3,0,none⟩) K K]] w fun e w'=>e=.returned (.bool (grewN S O T K))∧w.grownBy w' (some g)∧w'.rowIs g 133 K (fun i=>.int .u64 (butN S O T i)):=by
 go_enter Tryz.func145,Tryz.ntmps145
 go_wp2
 have l1:g<w.heap.size:=rS.out.lt
 have l2:g2<w.heap.size:=rO.out.lt
 have l3:g3<w.heap.size:=rT.out.lt
 go_loopw [7,14] (fun gv u wr=>∃q:Nat,q≤K∧u=.int .i64 q∧gv=.bool (grewN S O T q)∧Hid (w.grownBy wr (some g))∧wr.cell? ⟨w.heap.size,0,none⟩=some (.slice (some ⟨g,0,none⟩) K K)∧wr.cell? ⟨w.heap.size+2,0,none⟩=some (.slice (some ⟨g3,0,none⟩) K K)∧Hid (wr.rowIs g 133 K (fun i=>.int .u64 ((if i<q then butN S O T i else S i:Nat):Int)))) (fun _ u _=>K-(intOf u).toNat)
 case atStart=>exact ⟨0,Nat.zero_le _,rfl,by rw [grew_zero],hide (((World.grownBy_alloc w _ _).andThen (World.grownBy_alloc _ _ _) (fun j hj=>Or.inr hj)).andThen (World.grownBy_alloc _ _ _) (fun j hj=>Or.inr hj)),by simp [go_sem],by simp [go_sem],hide ((((rS.out.alloc _).alloc _).alloc _).congr (fun i _=>by simp))⟩
 case round =>
  obtain ⟨q,hq,rfl,rfl,HG,hs0,hs2,HR⟩:=hrel
  by_cases hlt:q<K
  ·have e1:wr.cell? ⟨g,q,none⟩=some (.int .u64 (S q)):=(HR.out.cell hlt).trans (by simp)
   have e3:wr.cell? ⟨g3,q,none⟩=some (.int .u64 (T q)):=(cell_of (HG.out.block g3 l3 (fun e=>h3 (by injection e)))).trans (rT.out.cell hlt)
   have e2:wr.cell? ⟨g2,q,none⟩=some (.int .u64 (O q)):=by
    by_cases e:g2=g
    ·rw [←hs.out e,e];exact e1
    ·exact (cell_of (HG.out.block g2 l2 (fun e'=>e (by injection e')))).trans (rO.out.cell hlt)
   have ez:=HR.out.frozen
   have HA1:=u64_andNot_nat (O q) (T q) (hO.out q) (hT.out q)
   have hlx:O q &&& (18446744073709551615-T q)<18446744073709551616:=Nat.lt_of_le_of_lt Nat.and_le_left (hO.out q)
   have HA2:bits .andNot .u64 ((O q &&& (18446744073709551615-T q):Nat):Int) (S q:Int)=((moreN S O T q:Nat):Int):=u64_andNot_nat _ (S q) hlx (hS.out q)
   have HA3:bits .or .u64 (S q:Int) ((moreN S O T q:Nat):Int)=((butN S O T q:Nat):Int):=u64_or_nat _ _ (hS.out q) (more_lt hO.out q)
   have HGS:=hide (grew_succ S O T q)
   have hsn:g≠w.heap.size:=by omega
   have hsn2:g≠w.heap.size+2:=by omega
   have HNX:Hid ((wr.setCell ⟨g,q,none⟩ (.int .u64 (butN S O T q:Int))).rowIs g 133 K (fun i=>.int .u64 ((if i<q+1 then butN S O T i else S i:Nat):Int))):=hide ((HR.out.set q _).congr (fun i _=>by
    by_cases e:i=q
    ·subst e;simp
    ·rw [if_neg e]
     by_cases e2:i<q
     ·rw [if_pos e2,if_pos (by omega)]
     ·rw [if_neg e2,if_neg (by omega)]))
   have kk:wr.grownBy (wr.setCell ⟨g,q,none⟩ (.int .u64 (butN S O T q:Int))) (some g):=⟨rfl,rfl,rfl,by simp [World.setCell],fun k _ hk=>Below.heap_setCell _ _ _ _ (fun e=>hk (by rw [e]))⟩
   have HKK:Hid (w.grownBy (wr.setCell ⟨g,q,none⟩ (.int .u64 (butN S O T q:Int))) (some g)):=hide (HG.out.andThen kk (fun j hj=>by cases hj;exact Or.inr rfl))
   have hs0':=(World.cell?_setCell_far wr ⟨g,q,none⟩ ⟨w.heap.size,0,none⟩ (.int .u64 (butN S O T q:Int)) hsn).trans hs0
   have hs2':=(World.cell?_setCell_far wr ⟨g,q,none⟩ ⟨w.heap.size+2,0,none⟩ (.int .u64 (butN S O T q:Int)) hsn2).trans hs2
   generalize hX:O q &&& (18446744073709551615-T q)=X at *
   generalize butN S O T q=Bq at *
   generalize moreN S O T q=Mq at *
   generalize S q=Sq at *
   generalize O q=Oq at *
   generalize T q=Tq at *
   generalize grewN S O T q=gq at *
   clear hX kk
   cases gq with
   | true =>
    go_wp2
    go_region
    go_wp2
    exact ⟨⟨q+1,by omega,by go_num,by rw [HGS.out];rfl,hide ⟨HKK.out.os,HKK.out.tape,HKK.out.output,HKK.out.size,HKK.out.block⟩,hs0',hs2',hide HNX.out.drew⟩,by simp [intOf];omega⟩
   | false =>
    go_wp2
    go_region
    go_wp2
    exact ⟨⟨q+1,by omega,by go_num,by rw [HGS.out];cases Mq<;>rfl,hide ⟨HKK.out.os,HKK.out.tape,HKK.out.output,HKK.out.size,HKK.out.block⟩,hs0',hs2',hide HNX.out.drew⟩,by simp [intOf];omega⟩
  ·have hqk:q=K:=by omega
   subst hqk
   go_wp2
   go_ret
   exact ⟨rfl,HG.out,HR.out.congr (fun i hi=>by rw [if_pos hi])⟩
end Go.Proofs.YthgikffcdgpgiaaGreatDoor

namespace Go.Proofs.YthgikffcdgpgiaaGreatDoor
open Go.RowKit
theorem Tryz.infoU64colorNo:(Tryz.prog.info? 133).map (fun i=>(i.zero,i.size,i.bytes))=some (some (.int .u64 0),1,8):=by kernel_rfl
set_option maxHeartbeats 1000000 in
set_option maxRecDepth 100000 in
theorem newSet_colorNo (room:Nat) (w:World) (hr:room≤60000):Calls Tryz.prog 67 #[.int .i64 room] w fun e w'=>∃g,e=.returned (.agg #[.slice (some ⟨g,0,none⟩) ((room+63) / 64) ((room+63) / 64)])∧w.heap.size≤g∧Below w.heap.size w w'∧w'.rowIs g 133 ((room+63) / 64) (fun _=>.int .u64 ((0:Nat):Int)):=by
 have hmk:=run_make_row' (P:=Tryz.prog) 73 133 (.int .u64 0) 8 Tryz.underlying73 Tryz.infoU64colorNo rfl .i64 .i64 ((room+63) / 64) (by omega) (by omega)
 have hq:((room:Int)+63).tdiv 64=(((room+63) / 64:Nat):Int):=by rw [Int.tdiv_eq_ediv_of_nonneg (by omega)];omega
 have hq2:((room:Int)+64-1)=(room:Int)+63:=by omega
 have hK:(room+63) / 64≤1000:=by omega
 generalize (room+63) / 64=K at *
 go_enter Tryz.func67,Tryz.ntmps67
 go_wp2
 refine bodyPost_ret (v:=.agg #[.slice (some ⟨w.heap.size+1,0,none⟩) K K]) (by simp [results,Tryz.results67,go_sem]) rfl ?_
 refine ⟨w.heap.size+1,rfl,by omega,balloc (balloc (Below.refl _ _) _) _,?_⟩
 have hrow:∀ob,((w.alloc ob).alloc (.cells (madeCells #[.int .u64 0] K) 133)).rowIs (w.heap.size+1) 133 K (fun _=>.int .u64 0):=fun ob=>by
  have:=World.rowIs_made (w.alloc ob) (.int .u64 0) K 133
  rwa [World.size_alloc] at this
 exact hrow _
set_option maxHeartbeats 1000000 in
set_option maxRecDepth 100000 in
theorem add_colorNo (g K C n c:Nat) (W:Nat→Nat) (a:Option Addr) (ts:List Nat) (L B:Nat) (w:World) (ha:Hid (IntsAt w L B a (ts.map Int.ofNat))) (hx:Hid (n=ts.length)) (hn:n≤4000) (ht:Hid (∀t∈ts,t<64*K)) (hK:K≤1000) (hW:Hid (WdOk W)) (hr:Hid (WsAt w g K C W)) (hB:B≤w.heap.size) (hgL:¬(L≤g∧g<B)) :
  Calls Tryz.prog 69 #[.agg #[.slice (some ⟨g,0,none⟩) K C],.slice a n c] w fun e w'=>e=.returned (.tuple #[])∧w.grownBy w' (some g)∧WsAt w' g K C (addsN W ts):=by
 go_enter Tryz.func69,Tryz.ntmps69
 go_wp2
 have hg:g<w.heap.size:=hr.out.lt
 go_loopw [8] (fun u wr=>∃q:Nat,q≤n∧u=.int .i64 q∧Hid (w.grownBy wr (some g))∧wr.cell? ⟨w.heap.size,0,none⟩=some (.slice (some ⟨g,0,none⟩) K C)∧Hid (WsAt wr g K C (addsN W (ts.take q)))) (fun u _=>n-(intOf u).toNat)
 case atStart=>exact ⟨0,Nat.zero_le _,rfl,hide (World.grownBy_alloc _ _ _),by simp,hide (hr.out.alloc _)⟩
 case round =>
  obtain ⟨q,hq,rfl,HG,hs,HR⟩:=hrel
  by_cases hlt:q<n
  ·have hqx:q<ts.length:=by have:=hx.out;omega
   obtain ⟨b,o,rfl,hbB,e0w⟩:=ha.out q (by simpa using hqx)
   have e0:=(cell_of (HG.out.block b (by omega) (fun e=>by injection e with e;omega))).trans e0w
   rw [List.getElem_map] at e0
   have htq:=ht.out _ (List.getElem_mem hqx)
   have HT:=hide (adds_take (W:=W) hqx)
   have HWA:=hide (adds_wd (ts.take q) hW.out)
   clear e0w
   generalize ts[q]=t at *
   have h2:=quoN t
   have h3:=remN t
   have e0':wr.cell? ⟨b,o+q,none⟩=some (.int .i64 (t:Int)):=e0
   clear e0
   generalize addsN W (ts.take q)=W1 at *
   have hd:t / 64<K:=by omega
   have hm:t % 64<64:=Nat.mod_lt _ (by decide)
   have ec:=HR.out.cell hd
   have ez:=HR.out.frozen
   have HOR:=hide (orN_bit hm (HWA.out (t / 64)))
   have HAD:Hid (∀i,(if i=t / 64 then W1 (t / 64) ||| 2 ^ (t % 64) else W1 i)=addsN W (ts.take (q+1)) i):=hide (fun i=>by
    rw [HT.out]
    unfold addN
    by_cases e:i=t / 64
    ·rw [if_pos e,if_pos e,e]
    ·rw [if_neg e,if_neg e])
   generalize hd2:t / 64=td at *
   generalize hm2:t % 64=tm at *
   go_wp2
   go_region
   go_wp2
   rw [HOR.out]
   have kk:wr.grownBy (wr.setCell ⟨g,td,none⟩ (.int .u64 ((W1 td ||| 2 ^ tm:Nat):Int))).drew (some g):=⟨rfl,rfl,rfl,by simp [World.setCell,World.drew],fun k _ hk=>Below.heap_setCell _ _ _ _ (fun e=>hk (by rw [e]))⟩
   refine ⟨⟨q+1,by omega,by go_num,hide (HG.out.andThen kk (fun j hj=>by cases hj;exact Or.inr rfl)),?_,hide ?_⟩,by simp [intOf];omega⟩
   ·exact (World.cell?_setCell_far wr ⟨g,td,none⟩ ⟨w.heap.size,0,none⟩ _ (by show g≠w.heap.size;omega)).trans hs
   ·refine WsAt.drew ((HR.out.set td _ hd).congr (fun i _=>?_))
    rw [←HAD.out i]
  ·have hqn:q=n:=by omega
   have HX:Hid (ts.take q=ts):=hide (List.take_of_length_le (by have:=hx.out;omega))
   rw [HX.out] at HR
   go_wp2
   go_end0
   exact ⟨rfl,HG.out,HR.out⟩
set_option maxHeartbeats 1000000 in
set_option maxRecDepth 100000 in
theorem has_colorNo (g K x:Nat) (W:Nat→Nat) (w:World) (hW:Hid (WdOk W)) (hr:Hid (w.rowIs g 133 K (fun i=>.int .u64 (W i)))) (hx:x<64*K) (hK:K≤1000):Calls Tryz.prog 58 #[.agg #[.slice (some ⟨g,0,none⟩) K K],.int .i64 x] w fun e w'=>e=.returned (.bool (hasN W x))∧Below w.heap.size w w':=by
 have h2:=quoN x
 have h3:=remN x
 have hq:x / 64<K:=by omega
 have hm:x % 64<64:=Nat.mod_lt _ (by decide)
 have hc:=hr.out.cell hq
 have hg:=hr.out.lt
 have hc2:=fun o=>((balloc (Below.refl w.heap.size w) o).cell (p:=⟨g,x / 64,none⟩) hg).trans hc
 have HH:Hid ((bits .and .u64 ((W (x / 64):Int) / 2 ^ (x % 64)) 1==1)=hasN W x):=hide (hasN_bit (hW.out _))
 clear hc
 generalize hd:x / 64=xd at *
 generalize hm2:x % 64=xm at *
 generalize W xd=Wd at *
 go_enter Tryz.func58,Tryz.ntmps58
 go_wp2
 go_ret
 exact ⟨ret_boolN HH.out,balloc (Below.refl _ _) _⟩
end Go.Proofs.YthgikffcdgpgiaaGreatDoor
