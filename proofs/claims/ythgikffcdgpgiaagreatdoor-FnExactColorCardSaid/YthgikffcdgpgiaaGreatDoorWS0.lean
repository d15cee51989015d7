import Derived.Test.YthgikffcdgpgiaaGreatDoorMem
import Derived.Test.YthgikffcdgpgiaaGreatDoorW5
import Derived.Deep.RegionHeld3
namespace Go.Proofs.YthgikffcdgpgiaaGreatDoor
open Go.RowKit
structure WsAt (w:World) (g K C:Nat) (W:Nat→Nat):Prop where
 le:K≤C
 ex:∃T:Nat→Value,w.rowIs g 133 C (fun i=>if i<K then .int .u64 (W i) else T i)
namespace WsAt
variable {w : World} {g K C : Nat} {W W' : Nat → Nat}
theorem lt (h:WsAt w g K C W):g<w.heap.size:=by
 obtain ⟨_,T,h⟩:=h
 exact h.lt
theorem cell (h:WsAt w g K C W) {i:Nat} (hi:i<K):w.cell? ⟨g,i,none⟩=some (.int .u64 (W i)):=by
 obtain ⟨hl,T,h⟩:=h
 have:=h.cell (i:=i) (by omega)
 rwa [if_pos hi] at this
theorem frozen (h:WsAt w g K C W) (i:Nat):w.frozen? ⟨g,i,none⟩=false:=by
 obtain ⟨_,T,h⟩:=h
 exact h.frozen i
theorem congr (h:WsAt w g K C W) (e:∀i,i<K→W i=W' i):WsAt w g K C W':=by
 obtain ⟨hl,T,h⟩:=h
 refine ⟨hl,T,h.congr (fun i _=>?_)⟩
 by_cases hi:i<K
 ·rw [if_pos hi,if_pos hi,e i hi]
 ·rw [if_neg hi,if_neg hi]
theorem of_block {w':World} (h:WsAt w g K C W) (e:w'.heap[g]?=w.heap[g]?):WsAt w' g K C W:=by
 obtain ⟨hl,T,h⟩:=h
 exact ⟨hl,T,h.of_block e⟩
theorem set (h:WsAt w g K C W) (i v:Nat) (hi:i<K):WsAt (w.setCell ⟨g,i,none⟩ (.int .u64 (v:Int))) g K C (fun j=>if j=i then v else W j):=by
 obtain ⟨hl,T,h⟩:=h
 refine ⟨hl,T,(h.set i _).congr (fun j _=>?_)⟩
 by_cases e:j=i
 ·rw [if_pos e,if_pos (by omega),if_pos e]
 ·rw [if_neg e,if_neg e]
theorem setOther (h:WsAt w g K C W) {a:Addr} (ha:g≠a.block) (v:Value):WsAt (w.setCell a v) g K C W:=by
 obtain ⟨hl,T,h⟩:=h
 exact ⟨hl,T,h.setOther ha v⟩
theorem alloc (h:WsAt w g K C W) (o:Obj):WsAt (w.alloc o) g K C W:=by
 obtain ⟨hl,T,h⟩:=h
 exact ⟨hl,T,h.alloc o⟩
theorem drew (h:WsAt w g K C W):WsAt w.drew g K C W:=by
 obtain ⟨hl,T,h⟩:=h
 exact ⟨hl,T,h.drew⟩
theorem of_row (h:w.rowIs g 133 K (fun i=>.int .u64 (W i))):WsAt w g K K W :=
 ⟨Nat.le_refl _,fun _=>.int .u64 0,h.congr (fun i hi=>by rw [if_pos hi])⟩
theorem of_own {base:Nat} {v:Value} {ws:List Nat} (h:w.ownsRow base 133 1 v ws.length (ws.map fun x:Nat=>Value.int .u64 (x:Int))) (hv:v≠.slice none 0 0):∃g C,v=.slice (some ⟨g,0,none⟩) ws.length C∧base≤g∧WsAt w g ws.length C (fun i=>ws.getD i 0):=by
 obtain ⟨hl,h | ⟨g,cap,cur,rfl,hg,hh,hc,_,hs,ht⟩⟩:=h
 ·exact absurd h.1 hv
 ·simp only [Nat.mul_one] at hl hs ht
  refine ⟨g,cap,rfl,hg,hc,fun i=>cur[i]?.getD (.int .u64 0),cur,hh,hs,fun i hi=>?_⟩
  show cur[i]?=some (if i<ws.length then Value.int .u64 ((ws.getD i 0:Nat):Int) else cur[i]?.getD (.int .u64 0))
  by_cases e:i<ws.length
  ·rw [if_pos e]
   have h1:(cur.toList.take ws.length)[i]?=some (Value.int .u64 (ws[i]:Nat)):=by rw [ht];simp [e]
   rw [List.getElem?_take_of_lt e] at h1
   have e2:ws.getD i 0=ws[i]:=by simp [e]
   rw [e2]
   simpa using h1
  ·rw [if_neg e]
   have:i<cur.size:=by omega
   simp [this]
end WsAt
end Go.Proofs.YthgikffcdgpgiaaGreatDoor

namespace Go.Proofs.YthgikffcdgpgiaaGreatDoor
open Go.RowKit
theorem Tryz.infoU64valueNo:(Tryz.prog.info? 133).map (fun i=>(i.zero,i.size,i.bytes))=some (some (.int .u64 0),1,8):=by kernel_rfl
set_option maxHeartbeats 1000000 in
set_option maxRecDepth 100000 in
theorem newSet_valueNo (room:Nat) (w:World) (hr:room≤60000):Calls Tryz.prog 101 #[.int .i64 room] w fun e w'=>∃g,e=.returned (.agg #[.slice (some ⟨g,0,none⟩) ((room+63) / 64) ((room+63) / 64)])∧w.heap.size≤g∧Below w.heap.size w w'∧w'.rowIs g 133 ((room+63) / 64) (fun _=>.int .u64 ((0:Nat):Int)):=by
 have hmk:=run_make_row' (P:=Tryz.prog) 73 133 (.int .u64 0) 8 Tryz.underlying73 Tryz.infoU64valueNo rfl .i64 .i64 ((room+63) / 64) (by omega) (by omega)
 have hq:((room:Int)+63).tdiv 64=(((room+63) / 64:Nat):Int):=by rw [Int.tdiv_eq_ediv_of_nonneg (by omega)];omega
 have hq2:((room:Int)+64-1)=(room:Int)+63:=by omega
 have hK:(room+63) / 64≤1000:=by omega
 generalize (room+63) / 64=K at *
 go_enter Tryz.func101,Tryz.ntmps101
 go_wp2
 refine bodyPost_ret (v:=.agg #[.slice (some ⟨w.heap.size+1,0,none⟩) K K]) (by simp [results,Tryz.results101,go_sem]) rfl ?_
 refine ⟨w.heap.size+1,rfl,by omega,balloc (balloc (Below.refl _ _) _) _,?_⟩
 have hrow:∀ob,((w.alloc ob).alloc (.cells (madeCells #[.int .u64 0] K) 133)).rowIs (w.heap.size+1) 133 K (fun _=>.int .u64 0):=fun ob=>by
  have:=World.rowIs_made (w.alloc ob) (.int .u64 0) K 133
  rwa [World.size_alloc] at this
 exact hrow _
set_option maxHeartbeats 1000000 in
set_option maxRecDepth 100000 in
theorem add_valueNo (g K C n c:Nat) (W:Nat→Nat) (a:Option Addr) (ts:List Nat) (L B:Nat) (w:World) (ha:Hid (IntsAt w L B a (ts.map Int.ofNat))) (hx:Hid (n=ts.length)) (hn:n≤4000) (ht:Hid (∀t∈ts,t<64*K)) (hK:K≤1000) (hW:Hid (WdOk W)) (hr:Hid (WsAt w g K C W)) (hB:B≤w.heap.size) (hgL:¬(L≤g∧g<B)) :
  Calls Tryz.prog 99 #[.agg #[.slice (some ⟨g,0,none⟩) K C],.slice a n c] w fun e w'=>e=.returned (.tuple #[])∧w.grownBy w' (some g)∧WsAt w' g K C (addsN W ts):=by
 go_enter Tryz.func99,Tryz.ntmps99
 go_wp2
 have hg:g<w.heap.size:=hr.out.lt
 go_loopw [8] (fun u wr=>∃q:Nat,q≤n∧u=.int .i64 q∧Hid (w.grownBy wr (some g))∧wr.cell? ⟨w.heap.size,0,none⟩=some (.slice (some ⟨g,0,none⟩) K C)∧Hid (WsAt wr g K C (addsN W (ts.take q)))) (fun u _=>n-(intOf u).toNat)
 case atStart=>exact ⟨0,Nat.zero_le _,rfl,hide (World.grownBy_alloc _ _ _),by simp,hide (hr.out.alloc _)⟩
 case round =>
  obtain ⟨q,hq,rfl,HG,hs,HR⟩:=hrel
  by_cases hlt:q<n
  ·have hqx:q<ts.length:=by have:=hx.out;omega
   obtain ⟨b,o,rfl,hbB,e0w⟩:=ha.out q (by simpa using hqx)
   have e0:=(cell_of (HG.out.block b (by omega) (fun e=>by injection e with e;omega))).trans e0w
   rw [List.getElem_map] at e0
   have htq:=ht.out _ (List.getElem_mem hqx)
   have HT:=hide (adds_take (W:=W) hqx)
   have HWA:=hide (adds_wd (ts.take q) hW.out)
   clear e0w
   generalize ts[q]=t at *
   have h2:=quoN t
   have h3:=remN t
   have e0':wr.cell? ⟨b,o+q,none⟩=some (.int .i64 (t:Int)):=e0
   clear e0
   generalize addsN W (ts.take q)=W1 at *
   have hd:t / 64<K:=by omega
   have hm:t % 64<64:=Nat.mod_lt _ (by decide)
   have ec:=HR.out.cell hd
   have ez:=HR.out.frozen
   have HOR:=hide (orN_bit hm (HWA.out (t / 64)))
   have HAD:Hid (∀i,(if i=t / 64 then W1 (t / 64) ||| 2 ^ (t % 64) else W1 i)=addsN W (ts.take (q+1)) i):=hide (fun i=>by
    rw [HT.out]
    unfold addN
    by_cases e:i=t / 64
    ·rw [if_pos e,if_pos e,e]
    ·rw [if_neg e,if_neg e])
   generalize hd2:t / 64=td at *
   generalize hm2:t % 64=tm at *
   go_wp2
   go_region
   go_wp2
   rw [HOR.out]
   have kk:wr.grownBy (wr.setCell ⟨g,td,none⟩ (.int .u64 ((W1 td ||| 2 ^ tm:Nat):Int))).drew (some g):=⟨rfl,rfl,rfl,by simp [World.setCell,World.drew],fun k _ hk=>Below.heap_setCell _ _ _ _ (fun e=>hk (by rw [e]))⟩
   refine ⟨⟨q+1,by omega,by go_num,hide (HG.out.andThen kk (fun j hj=>by cases hj;exact Or.inr rfl)),?_,hide ?_⟩,by simp [intOf];omega⟩
   ·exact (World.cell?_setCell_far wr ⟨g,td,none⟩ ⟨w.heap.size,0,none⟩ _ (by show g≠w.heap.size;omega)).trans hs
   ·refine WsAt.drew ((HR.out.set td _ hd).congr (fun i _=>?_))
    rw [←HAD.out i]
  ·have hqn:q=n:=by omega
   have HX:Hid (ts.take q=ts):=hide (List.take_of_length_le (by have:=hx.out;omega))
   rw [HX.out] at HR
   go_wp2
   go_end0
   exact ⟨rfl,HG.out,HR.out⟩
set_option maxHeartbeats 2000000 in
set_option maxRecDepth 100000 in
theorem addBut_valueNo (g g2 g3 K C C2 C3:Nat) (S O T:Nat→Nat) (w:World) (hS:Hid (WdOk S)) (hO:Hid (WdOk O)) (hT:Hid (WdOk T)) (hK:K≤1000) (rS:Hid (WsAt w g K C S)) (rO:Hid (WsAt w g2 K C2 O)) (rT:Hid (WsAt w g3 K C3 T)) (h3:g3≠g) (hs:Hid (g2=g→S=O)) :
  Calls Tryz.prog 102 #[.agg #[.slice (some ⟨g,0,none⟩) K C],.agg #[.slice (some ⟨g2,0,none⟩) K C2],.agg #[.slice (some ⟨g3,0,none⟩) K C3]] w fun e w'=>e=.returned (.bool (grewN S O T K))∧w.grownBy w' (some g)∧WsAt w' g K C (butN S O T):=by
 go_enter Tryz.func102,Tryz.ntmps102
 go_wp2
 have l1:g<w.heap.size:=rS.out.lt
 have l2:g2<w.heap.size:=rO.out.lt
 have l3:g3<w.heap.size:=rT.out.lt
 go_loopw [7,14] (fun gv u wr=>∃q:Nat,q≤K∧u=.int .i64 q∧gv=.bool (grewN S O T q)∧Hid (w.grownBy wr (some g))∧wr.cell? ⟨w.heap.size,0,none⟩=some (.slice (some ⟨g,0,none⟩) K C)∧wr.cell? ⟨w.heap.size+2,0,none⟩=some (.slice (some ⟨g3,0,none⟩) K C3)∧Hid (WsAt wr g K C (fun i=>if i<q then butN S O T i else S i))) (fun _ u _=>K-(intOf u).toNat)
 case atStart=>exact ⟨0,Nat.zero_le _,rfl,by rw [grew_zero],hide (((World.grownBy_alloc w _ _).andThen (World.grownBy_alloc _ _ _) (fun j hj=>Or.inr hj)).andThen (World.grownBy_alloc _ _ _) (fun j hj=>Or.inr hj)),by simp [go_sem],by simp [go_sem],hide ((((rS.out.alloc _).alloc _).alloc _).congr (fun i _=>by simp))⟩
 case round =>
  obtain ⟨q,hq,rfl,rfl,HG,hs0,hs2,HR⟩:=hrel
  by_cases hlt:q<K
  ·have e1:wr.cell? ⟨g,q,none⟩=some (.int .u64 (S q)):=(HR.out.cell hlt).trans (by simp)
   have e3:wr.cell? ⟨g3,q,none⟩=some (.int .u64 (T q)):=(cell_of (HG.out.block g3 l3 (fun e=>h3 (by injection e)))).trans (rT.out.cell hlt)
   have e2:wr.cell? ⟨g2,q,none⟩=some (.int .u64 (O q)):=by
    by_cases e:g2=g
    ·rw [←hs.out e,e];exact e1
    ·exact (cell_of (HG.out.block g2 l2 (fun e'=>e (by injection e')))).trans (rO.out.cell hlt)
   have ez:=HR.out.frozen
   have HA1:=u64_andNot_nat (O q) (T q) (hO.out q) (hT.out q)
   have hlx:O q &&& (18446744073709551615-T q)<18446744073709551616:=Nat.lt_of_le_of_lt Nat.and_le_left (hO.out q)
   have HA2:bits .andNot .u64 ((O q &&& (18446744073709551615-T q):Nat):Int) (S q:Int)=((moreN S O T q:Nat):Int):=u64_andNot_nat _ (S q) hlx (hS.out q)
   have HA3:bits .or .u64 (S q:Int) ((moreN S O T q:Nat):Int)=((butN S O T q:Nat):Int):=u64_or_nat _ _ (hS.out q) (more_lt hO.out q)
   have HGS:=hide (grew_succ S O T q)
   have hsn:g≠w.heap.size:=by omega
   have hsn2:g≠w.heap.size+2:=by omega
   have HNX:Hid (WsAt (wr.setCell ⟨g,q,none⟩ (.int .u64 (butN S O T q:Int))) g K C (fun i=>if i<q+1 then butN S O T i else S i)):=hide ((HR.out.set q _ hlt).congr (fun i _=>by
    by_cases e:i=q
    ·subst e;simp
    ·rw [if_neg e]
     by_cases e2:i<q
     ·rw [if_pos e2,if_pos (by omega)]
     ·rw [if_neg e2,if_neg (by omega)]))
   have kk:wr.grownBy (wr.setCell ⟨g,q,none⟩ (.int .u64 (butN S O T q:Int))) (some g):=⟨rfl,rfl,rfl,by simp [World.setCell],fun k _ hk=>Below.heap_setCell _ _ _ _ (fun e=>hk (by rw [e]))⟩
   have HKK:Hid (w.grownBy (wr.setCell ⟨g,q,none⟩ (.int .u64 (butN S O T q:Int))) (some g)):=hide (HG.out.andThen kk (fun j hj=>by cases hj;exact Or.inr rfl))
   have hs0':=(World.cell?_setCell_far wr ⟨g,q,none⟩ ⟨w.heap.size,0,none⟩ (.int .u64 (butN S O T q:Int)) hsn).trans hs0
   have hs2':=(World.cell?_setCell_far wr ⟨g,q,none⟩ ⟨w.heap.size+2,0,none⟩ (.int .u64 (butN S O T q:Int)) hsn2).trans hs2
   generalize hX:O q &&& (18446744073709551615-T q)=X at *
   generalize butN S O T q=Bq at *
   generalize moreN S O T q=Mq at *
   generalize S q=Sq at *
   generalize O q=Oq at *
   generalize T q=Tq at *
   generalize grewN S O T q=gq at *
   clear hX kk
   cases gq with
   | true =>
    go_wp2
    go_region
    go_wp2
    exact ⟨⟨q+1,by omega,by go_num,by rw [HGS.out];rfl,hide ⟨HKK.out.os,HKK.out.tape,HKK.out.output,HKK.out.size,HKK.out.block⟩,hs0',hs2',hide HNX.out.drew⟩,by simp [intOf];omega⟩
   | false =>
    go_wp2
    go_region
    go_wp2
    exact ⟨⟨q+1,by omega,by go_num,by rw [HGS.out];cases Mq<;>rfl,hide ⟨HKK.out.os,HKK.out.tape,HKK.out.output,HKK.out.size,HKK.out.block⟩,hs0',hs2',hide HNX.out.drew⟩,by simp [intOf];omega⟩
  ·have hqk:q=K:=by omega
   subst hqk
   go_wp2
   go_ret
   exact ⟨rfl,HG.out,HR.out.congr (fun i hi=>by rw [if_pos hi])⟩
end Go.Proofs.YthgikffcdgpgiaaGreatDoor

namespace Go.Proofs.YthgikffcdgpgiaaGreatDoor
open Go.RowKit
def ones8 (B:Nat):Nat:=(List.range 8).countP fun i=>B.testBit i
def mapB (f:Nat→Nat):Nat→Nat→Nat
 | 0,_=>0
 | n+1,x=>f (x % 256)+256*mapB f n (x / 256)
def mkB (c:Nat):Nat→Nat
 | 0=>0
 | n+1=>c+256*mkB c n
theorem and_split {B c:Nat} (y M:Nat) (hB:B<256) (hc:c<256):(B+256*y) &&& (c+256*M)=(B &&& c)+256*(y &&& M):=by
 have hb:B &&& c<2 ^ 8:=Nat.lt_of_le_of_lt Nat.and_le_left hB
 have e1:B+256*y=2 ^ 8*y+B:=by omega
 have e2:c+256*M=2 ^ 8*M+c:=by omega
 have e3:(B &&& c)+256*(y &&& M)=2 ^ 8*(y &&& M)+(B &&& c):=by omega
 rw [e1,e2,e3]
 apply Nat.eq_of_testBit_eq
 intro i
 rw [Nat.testBit_and,Nat.testBit_two_pow_mul_add _ hB,Nat.testBit_two_pow_mul_add _ hc,Nat.testBit_two_pow_mul_add _ hb]
 by_cases h:i<8
 ·simp [h]
 ·simp [h]
def f1 (B:Nat):Nat:=(B / 2 &&& 85)+(B &&& 85)
def f2 (B:Nat):Nat:=(B / 4 &&& 51)+(B &&& 51)
def f3 (B:Nat):Nat:=(B / 16+B) &&& 15
theorem f1_cross:∀t,t<2→∀B,B<256→(B / 2+128*t) &&& 85=B / 2 &&& 85:=by decide +kernel
theorem f2_cross:∀t,t<4→∀B,B<256→(B / 4+64*t) &&& 51=B / 4 &&& 51:=by decide +kernel
theorem f1_lt:∀B,B<256→f1 B<256:=by decide +kernel
theorem f2_lt:∀B,B<256→f2 B<256:=by decide +kernel
abbrev LowB (B:Nat):Prop:=B % 16≤4∧B / 16≤4
theorem f21_low:∀B,B<256→LowB (f2 (f1 B)):=by decide +kernel
theorem f3_cross:∀t,t≤4→∀B,B<256→LowB B→B / 16+16*t+B<256∧(B / 16+16*t+B) &&& 15=f3 B:=by decide +kernel
theorem f321:∀B,B<256→f3 (f2 (f1 B))=ones8 B:=by decide +kernel
theorem ones8_le:∀B,B<256→ones8 B≤8:=by decide +kernel
theorem map_lt {f:Nat→Nat} (hf:∀B,B<256→f B<256):∀n x,mapB f n x<256 ^ n
 | 0,_=>by simp [mapB]
 | n+1,x=>by
  have h1:=map_lt hf n (x / 256)
  have h2:=hf (x % 256) (Nat.mod_lt _ (by decide))
  simp only [mapB,Nat.pow_succ]
  omega
theorem map_map {f h:Nat→Nat} (hh:∀B,B<256→h B<256):∀n x,mapB f n (mapB h n x)=mapB (fun B=>f (h B)) n x
 | 0,_=>rfl
 | n+1,x=>by
  have h2:=hh (x % 256) (Nat.mod_lt _ (by decide))
  simp only [mapB]
  have e1:(h (x % 256)+256*mapB h n (x / 256)) % 256=h (x % 256):=by omega
  have e2:(h (x % 256)+256*mapB h n (x / 256)) / 256=mapB h n (x / 256):=by omega
  rw [e1,e2,map_map hh n]
theorem map_congr {f h:Nat→Nat} (e:∀B,B<256→f B=h B):∀n x,mapB f n x=mapB h n x
 | 0,_=>rfl
 | n+1,x=>by simp only [mapB];rw [e _ (Nat.mod_lt _ (by decide)),map_congr e n]
theorem step1:∀n x,(x / 2 &&& mkB 85 n)+(x &&& mkB 85 n)=mapB f1 n x
 | 0,x=>by simp [mkB,mapB]
 | n+1,x=>by
  have hB:x % 256<256:=Nat.mod_lt _ (by decide)
  have ex:x=x % 256+256*(x / 256):=by omega
  have ex2:x / 2=(x % 256 / 2+128*(x / 256 % 2))+256*(x / 256 / 2):=by omega
  have ih:=step1 n (x / 256)
  simp only [mapB,mkB]
  rw [←ih]
  have a1:x / 2 &&& (85+256*mkB 85 n)=(x % 256 / 2 &&& 85)+256*(x / 256 / 2 &&& mkB 85 n):=by
   rw [ex2,and_split _ _ (by omega) (by decide),f1_cross _ (Nat.mod_lt _ (by decide)) _ hB]
  have a2:x &&& (85+256*mkB 85 n)=(x % 256 &&& 85)+256*(x / 256 &&& mkB 85 n):=by
   conv=>lhs;rw [ex]
   exact and_split _ _ hB (by decide)
  rw [a1,a2]
  unfold f1
  omega
theorem step2:∀n x,(x / 4 &&& mkB 51 n)+(x &&& mkB 51 n)=mapB f2 n x
 | 0,x=>by simp [mkB,mapB]
 | n+1,x=>by
  have hB:x % 256<256:=Nat.mod_lt _ (by decide)
  have ex:x=x % 256+256*(x / 256):=by omega
  have ex2:x / 4=(x % 256 / 4+64*(x / 256 % 4))+256*(x / 256 / 4):=by omega
  have ih:=step2 n (x / 256)
  simp only [mapB,mkB]
  rw [←ih]
  have a1:x / 4 &&& (51+256*mkB 51 n)=(x % 256 / 4 &&& 51)+256*(x / 256 / 4 &&& mkB 51 n):=by
   rw [ex2,and_split _ _ (by omega) (by decide),f2_cross _ (Nat.mod_lt _ (by decide)) _ hB]
  have a2:x &&& (51+256*mkB 51 n)=(x % 256 &&& 51)+256*(x / 256 &&& mkB 51 n):=by
   conv=>lhs;rw [ex]
   exact and_split _ _ hB (by decide)
  rw [a1,a2]
  unfold f2
  omega
def LowAll:Nat→Nat→Prop
 | 0,x=>x=0
 | n+1,x=>LowB (x % 256)∧LowAll n (x / 256)
theorem low_map:∀n x,LowAll n (mapB (fun B=>f2 (f1 B)) n x)
 | 0,_=>rfl
 | n+1,x=>by
  have hB:x % 256<256:=Nat.mod_lt _ (by decide)
  have h1:=f2_lt _ (f1_lt _ hB)
  have h2:=f21_low _ hB
  have ih:=low_map n (x / 256)
  simp only [mapB,LowAll]
  have e1:(f2 (f1 (x % 256))+256*mapB (fun B=>f2 (f1 B)) n (x / 256)) % 256=f2 (f1 (x % 256)):=by omega
  have e2:(f2 (f1 (x % 256))+256*mapB (fun B=>f2 (f1 B)) n (x / 256)) / 256=mapB (fun B=>f2 (f1 B)) n (x / 256):=by omega
  rw [e1,e2]
  exact ⟨h2,ih⟩
theorem low_nib:∀n x,LowAll n x→x % 16≤4
 | 0,x,h=>by simp only [LowAll] at h;omega
 | n+1,x,h=>by
  have:=h.1.1
  omega
theorem step3:∀n x,LowAll n x→(x / 16+x) &&& mkB 15 n=mapB f3 n x
 | 0,x,_=>by simp [mkB,mapB]
 | n+1,x,h=>by
  have hB:x % 256<256:=Nat.mod_lt _ (by decide)
  have ih:=step3 n (x / 256) h.2
  have ht:=low_nib n _ h.2
  obtain ⟨h1,h2⟩:=f3_cross _ ht _ hB h.1
  simp only [mapB,mkB]
  rw [←ih,←h2]
  have ex:x / 16+x=(x % 256 / 16+16*(x / 256 % 16)+x % 256)+256*(x / 256 / 16+x / 256):=by omega
  rw [ex,and_split _ _ h1 (by decide)]
def onesN (n x:Nat):Nat:=(List.range (8*n)).countP fun i=>x.testBit i
theorem ones_split (n x:Nat):onesN (n+1) x=ones8 (x % 256)+onesN n (x / 256):=by
 unfold onesN ones8
 have e:8*(n+1)=8+8*n:=by omega
 rw [e,List.range_add,List.countP_append,List.countP_map]
 congr 1
 ·apply List.countP_congr
  intro i hi
  have:i<8:=List.mem_range.1 hi
  have e2:(x % 2 ^ 8).testBit i=x.testBit i:=by rw [Nat.testBit_mod_two_pow];simp [this]
  rw [show x % 256=x % 2 ^ 8 from rfl,e2]
 ·apply List.countP_congr
  intro i hi
  have e2:(x / 2 ^ 8).testBit i=x.testBit (8+i):=by rw [Nat.testBit_div_two_pow,Nat.add_comm]
  rw [show x / 256=x / 2 ^ 8 from rfl,e2]
  rfl
def sumB (f:Nat→Nat):Nat→Nat→Nat
 | 0,_=>0
 | n+1,x=>f (x % 256)+sumB f n (x / 256)
theorem ones_sum:∀n x,onesN n x=sumB ones8 n x
 | 0,_=>rfl
 | n+1,x=>by rw [ones_split,ones_sum n];rfl
end Go.Proofs.YthgikffcdgpgiaaGreatDoor

namespace Go.Proofs.YthgikffcdgpgiaaGreatDoor
open Go.RowKit
def delN (W:Nat→Nat) (x:Nat):Nat→Nat:=fun i=>if i=x / 64 then W i &&& (18446744073709551615-2 ^ (x % 64)) else W i
theorem pow_lt64 {t:Nat} (h:t<64):2 ^ t<18446744073709551616:=Nat.lt_of_lt_of_le (Nat.pow_lt_pow_right (by decide) h) (by decide)
theorem has_del (W:Nat→Nat) (x y:Nat):hasN (delN W x) y=(decide (y≠x)&&hasN W y):=by
 unfold hasN delN
 by_cases e:y / 64=x / 64
 ·rw [if_pos e,Nat.testBit_and,not_bit (pow_lt64 (Nat.mod_lt _ (by decide))) (Nat.mod_lt _ (by decide)),Nat.testBit_two_pow]
  by_cases h:x % 64=y % 64
  ·have:y=x:=by omega
   simp [this]
  ·have:y≠x:=fun q=>h (by rw [q])
   simp [h,this]
 ·rw [if_neg e]
  have:y≠x:=fun q=>e (by rw [q])
  simp [this]
theorem del_wd {W:Nat→Nat} (h:WdOk W) (x:Nat):WdOk (delN W x):=fun i=>by
 unfold delN
 split
 ·exact Nat.lt_of_le_of_lt Nat.and_le_left (h i)
 ·exact h i
def delsN (W:Nat→Nat) (ts:List Nat):Nat→Nat:=ts.foldl delN W
theorem dels_take {W:Nat→Nat} {ts:List Nat} {q:Nat} (h:q<ts.length):delsN W (ts.take (q+1))=delN (delsN W (ts.take q)) ts[q]:=by
 unfold delsN
 rw [List.take_succ_eq_append_getElem h,List.foldl_append]
 rfl
theorem dels_wd:∀(ts:List Nat) {W:Nat→Nat},WdOk W→WdOk (delsN W ts)
 | [],_,h=>h
 | t::ts,_,h=>dels_wd ts (del_wd h t)
theorem has_dels:∀(ts:List Nat) (W:Nat→Nat) (y:Nat),hasN (delsN W ts) y=(decide (y ∉ ts)&&hasN W y)
 | [],_,_=>by simp [delsN]
 | t::ts,W,y=>by
  have h:=has_dels ts (delN W t) y
  have e:delsN W (t::ts)=delsN (delN W t) ts:=rfl
  rw [e,h,has_del]
  by_cases h1:y=t<;>by_cases h2:y∈ts<;>simp [h1,h2]
theorem andNotN_bit {W t:Nat} (ht:t<64) (hW:W<18446744073709551616):bits .andNot .u64 (W:Int) (IntKind.u64.wrap (2 ^ t))=((W &&& (18446744073709551615-2 ^ t):Nat):Int):=by
 have h2:=pow_lt64 ht
 have e:IntKind.u64.wrap (2 ^ t)=((2 ^ t:Nat):Int):=by
  rw [IntKind.wrap_u64]
  have:((2 ^ t:Nat):Int)=(2:Int) ^ t:=by simp
  rw [←this]
  exact Int.emod_eq_of_lt (Int.natCast_nonneg _) (Int.ofNat_lt.2 h2)
 rw [e,u64_andNot_nat _ _ hW h2]
set_option maxHeartbeats 1000000 in
set_option maxRecDepth 100000 in
theorem remove_valueNo (g K C n c:Nat) (W:Nat→Nat) (a:Option Addr) (ts:List Nat) (L B:Nat) (w:World) (ha:Hid (IntsAt w L B a (ts.map Int.ofNat))) (hx:Hid (n=ts.length)) (hn:n≤4000) (ht:Hid (∀t∈ts,t<64*K)) (hK:K≤1000) (hW:Hid (WdOk W)) (hr:Hid (WsAt w g K C W)) (hB:B≤w.heap.size) (hgL:¬(L≤g∧g<B)) :
  Calls Tryz.prog 98 #[.agg #[.slice (some ⟨g,0,none⟩) K C],.slice a n c] w fun e w'=>e=.returned (.tuple #[])∧w.grownBy w' (some g)∧WsAt w' g K C (delsN W ts):=by
 go_enter Tryz.func98,Tryz.ntmps98
 go_wp2
 have hg:g<w.heap.size:=hr.out.lt
 go_loopw [8] (fun u wr=>∃q:Nat,q≤n∧u=.int .i64 q∧Hid (w.grownBy wr (some g))∧wr.cell? ⟨w.heap.size,0,none⟩=some (.slice (some ⟨g,0,none⟩) K C)∧Hid (WsAt wr g K C (delsN W (ts.take q)))) (fun u _=>n-(intOf u).toNat)
 case atStart=>exact ⟨0,Nat.zero_le _,rfl,hide (World.grownBy_alloc _ _ _),by simp,hide (hr.out.alloc _)⟩
 case round =>
  obtain ⟨q,hq,rfl,HG,hs,HR⟩:=hrel
  by_cases hlt:q<n
  ·have hqx:q<ts.length:=by have:=hx.out;omega
   obtain ⟨b,o,rfl,hbB,e0w⟩:=ha.out q (by simpa using hqx)
   have e0:=(cell_of (HG.out.block b (by omega) (fun e=>by injection e with e;omega))).trans e0w
   rw [List.getElem_map] at e0
   have htq:=ht.out _ (List.getElem_mem hqx)
   have HT:=hide (dels_take (W:=W) hqx)
   have HWA:=hide (dels_wd (ts.take q) hW.out)
   clear e0w
   generalize ts[q]=t at *
   have h2:=quoN t
   have h3:=remN t
   have e0':wr.cell? ⟨b,o+q,none⟩=some (.int .i64 (t:Int)):=e0
   clear e0
   generalize delsN W (ts.take q)=W1 at *
   have hd:t / 64<K:=by omega
   have hm:t % 64<64:=Nat.mod_lt _ (by decide)
   have ec:=HR.out.cell hd
   have ez:=HR.out.frozen
   have HOR:=hide (andNotN_bit hm (HWA.out (t / 64)))
   have HAD:Hid (∀i,(if i=t / 64 then W1 (t / 64) &&& (18446744073709551615-2 ^ (t % 64)) else W1 i)=delsN W (ts.take (q+1)) i):=hide (fun i=>by
    rw [HT.out]
    unfold delN
    by_cases e:i=t / 64
    ·rw [if_pos e,if_pos e,e]
    ·rw [if_neg e,if_neg e])
   generalize hd2:t / 64=td at *
   generalize hm2:t % 64=tm at *
   go_wp2
   go_region
   go_wp2
   rw [HOR.out]
   have kk:wr.grownBy (wr.setCell ⟨g,td,none⟩ (.int .u64 ((W1 td &&& (18446744073709551615-2 ^ tm):Nat):Int))).drew (some g):=⟨rfl,rfl,rfl,by simp [World.setCell,World.drew],fun k _ hk=>Below.heap_setCell _ _ _ _ (fun e=>hk (by rw [e]))⟩
   refine ⟨⟨q+1,by omega,by go_num,hide (HG.out.andThen kk (fun j hj=>by cases hj;exact Or.inr rfl)),?_,hide ?_⟩,by simp [intOf];omega⟩
   ·exact (World.cell?_setCell_far wr ⟨g,td,none⟩ ⟨w.heap.size,0,none⟩ _ (by show g≠w.heap.size;omega)).trans hs
   ·refine WsAt.drew ((HR.out.set td _ hd).congr (fun i _=>?_))
    rw [←HAD.out i]
  ·have hqn:q=n:=by omega
   have HX:Hid (ts.take q=ts):=hide (List.take_of_length_le (by have:=hx.out;omega))
   rw [HX.out] at HR
   go_wp2
   go_end0
   exact ⟨rfl,HG.out,HR.out⟩
end Go.Proofs.YthgikffcdgpgiaaGreatDoor
