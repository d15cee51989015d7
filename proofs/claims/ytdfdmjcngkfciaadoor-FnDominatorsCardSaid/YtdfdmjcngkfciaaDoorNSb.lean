import Derived.Test.YtdfdmjcngkfciaaDoorNSP
import Derived.Test.YtdfdmjcngkfciaaDoorW7
import Derived.Deep.RegionHeld3
import Derived.Test.YtdfdmjcngkfciaaDoorPure
import Derived.Test.YtdfdmjcngkfciaaDoorDM1
import Derived.Test.YtdfdmjcngkfciaaDoorMem
import Derived.Test.YtdfdmjcngkfciaaDoorProg
namespace Go.Proofs.YtdfdmjcngkfciaaDoor
open Go.RowKit
theorem Tryd.infoU64blockNo:(Tryd.prog.info? 88).map (fun i=>(i.zero,i.size,i.bytes))=some (some (.int .u64 0),1,8):=by kernel_rfl
set_option maxHeartbeats 1000000 in
set_option maxRecDepth 100000 in
theorem has_blockNo (g K x:Nat) (W:Nat→Nat) (w:World) (hW:Hid (WdOk W)) (hr:Hid (w.rowIs g 88 K (fun i=>.int .u64 (W i)))) (hx:x<64*K) (hK:K≤1000):Calls Tryd.prog 18 #[.agg #[.slice (some ⟨g,0,none⟩) K K],.int .i64 x] w fun e w'=>e=.returned (.bool (hasN W x))∧Below w.heap.size w w':=by
 have h2:=quoN x
 have h3:=remN x
 have hq:x / 64<K:=by omega
 have hm:x % 64<64:=Nat.mod_lt _ (by decide)
 have hc:=hr.out.cell hq
 have hg:=hr.out.lt
 have hc2:=fun o=>((balloc (Below.refl w.heap.size w) o).cell (p:=⟨g,x / 64,none⟩) hg).trans hc
 have HH:Hid ((bits .and .u64 ((W (x / 64):Int) / 2 ^ (x % 64)) 1==1)=hasN W x):=hide (hasN_bit (hW.out _))
 clear hc
 generalize hd:x / 64=xd at *
 generalize hm2:x % 64=xm at *
 generalize W xd=Wd at *
 go_enter Tryd.func18,Tryd.ntmps18
 go_wp2
 go_ret
 exact ⟨ret_boolN HH.out,balloc (Below.refl _ _) _⟩
set_option maxHeartbeats 1000000 in
set_option maxRecDepth 100000 in
theorem newSet_blockNo (room:Nat) (w:World) (hr:room≤60000):Calls Tryd.prog 37 #[.int .i64 room] w fun e w'=>∃g,e=.returned (.agg #[.slice (some ⟨g,0,none⟩) ((room+63) / 64) ((room+63) / 64)])∧w.heap.size≤g∧Below w.heap.size w w'∧w'.rowIs g 88 ((room+63) / 64) (fun _=>.int .u64 ((0:Nat):Int)):=by
 have hmk:=run_make_row' (P:=Tryd.prog) 53 88 (.int .u64 0) 8 Tryd.underlying53 Tryd.infoU64blockNo rfl .i64 .i64 ((room+63) / 64) (by omega) (by omega)
 have hq:((room:Int)+63).tdiv 64=(((room+63) / 64:Nat):Int):=by rw [Int.tdiv_eq_ediv_of_nonneg (by omega)];omega
 have hq2:((room:Int)+64-1)=(room:Int)+63:=by omega
 have hK:(room+63) / 64≤1000:=by omega
 generalize (room+63) / 64=K at *
 go_enter Tryd.func37,Tryd.ntmps37
 go_wp2
 refine bodyPost_ret (v:=.agg #[.slice (some ⟨w.heap.size+1,0,none⟩) K K]) (by simp [results,Tryd.results37,go_sem]) rfl ?_
 refine ⟨w.heap.size+1,rfl,by omega,balloc (balloc (Below.refl _ _) _) _,?_⟩
 have hrow:∀ob,((w.alloc ob).alloc (.cells (madeCells #[.int .u64 0] K) 88)).rowIs (w.heap.size+1) 88 K (fun _=>.int .u64 0):=fun ob=>by
  have:=World.rowIs_made (w.alloc ob) (.int .u64 0) K 88
  rwa [World.size_alloc] at this
 exact hrow _
set_option maxHeartbeats 1000000 in
set_option maxRecDepth 100000 in
theorem add_blockNo (g K n c:Nat) (W:Nat→Nat) (a:Option Addr) (ts:List Nat) (L B:Nat) (w:World) (ha:Hid (IntsAt w L B a (ts.map Int.ofNat))) (hx:Hid (n=ts.length)) (hn:n≤4000) (ht:Hid (∀t∈ts,t<64*K)) (hK:K≤1000) (hW:Hid (WdOk W)) (hr:Hid (w.rowIs g 88 K (fun i=>.int .u64 (W i)))) (hB:B≤w.heap.size) (hgL:¬(L≤g∧g<B)) :
  Calls Tryd.prog 38 #[.agg #[.slice (some ⟨g,0,none⟩) K K],.slice a n c] w fun e w'=>e=.returned (.tuple #[])∧w.grownBy w' (some g)∧w'.rowIs g 88 K (fun i=>.int .u64 (addsN W ts i)):=by
 go_enter Tryd.func38,Tryd.ntmps38
 go_wp2
 have hg:g<w.heap.size:=hr.out.lt
 go_loopw [8] (fun u wr=>∃q:Nat,q≤n∧u=.int .i64 q∧Hid (w.grownBy wr (some g))∧wr.cell? ⟨w.heap.size,0,none⟩=some (.slice (some ⟨g,0,none⟩) K K)∧Hid (wr.rowIs g 88 K (fun i=>.int .u64 (addsN W (ts.take q) i)))) (fun u _=>n-(intOf u).toNat)
 case atStart=>exact ⟨0,Nat.zero_le _,rfl,hide (World.grownBy_alloc _ _ _),by simp,hide (hr.out.alloc _)⟩
 case round =>
  obtain ⟨q,hq,rfl,HG,hs,HR⟩:=hrel
  by_cases hlt:q<n
  ·have hqx:q<ts.length:=by have:=hx.out;omega
   obtain ⟨b,o,rfl,hbB,e0w⟩:=ha.out q (by simpa using hqx)
   have e0:=(cell_of (HG.out.block b (by omega) (fun e=>by injection e with e;omega))).trans e0w
   rw [List.getElem_map] at e0
   have htq:=ht.out _ (List.getElem_mem hqx)
   have HT:=hide (adds_take (W:=W) hqx)
   have HWA:=hide (adds_wd (ts.take q) hW.out)
   clear e0w
   generalize ts[q]=t at *
   have h2:=quoN t
   have h3:=remN t
   have e0':wr.cell? ⟨b,o+q,none⟩=some (.int .i64 (t:Int)):=e0
   clear e0
   generalize addsN W (ts.take q)=W1 at *
   have hd:t / 64<K:=by omega
   have hm:t % 64<64:=Nat.mod_lt _ (by decide)
   have ec:=HR.out.cell hd
   have ez:=HR.out.frozen
   have HOR:=hide (orN_bit hm (HWA.out (t / 64)))
   have HAD:Hid (∀i,(if i=t / 64 then W1 (t / 64) ||| 2 ^ (t % 64) else W1 i)=addsN W (ts.take (q+1)) i):=hide (fun i=>by
    rw [HT.out]
    unfold addN
    by_cases e:i=t / 64
    ·rw [if_pos e,if_pos e,e]
    ·rw [if_neg e,if_neg e])
   generalize hd2:t / 64=td at *
   generalize hm2:t % 64=tm at *
   go_wp2
   go_region
   go_wp2
   rw [HOR.out]
   have kk:wr.grownBy (wr.setCell ⟨g,td,none⟩ (.int .u64 ((W1 td ||| 2 ^ tm:Nat):Int))).drew (some g):=⟨rfl,rfl,rfl,by simp [World.setCell,World.drew],fun k _ hk=>Below.heap_setCell _ _ _ _ (fun e=>hk (by rw [e]))⟩
   refine ⟨⟨q+1,by omega,by go_num,hide (HG.out.andThen kk (fun j hj=>by cases hj;exact Or.inr rfl)),?_,hide ?_⟩,by simp [intOf];omega⟩
   ·exact (World.cell?_setCell_far wr ⟨g,td,none⟩ ⟨w.heap.size,0,none⟩ _ (by show g≠w.heap.size;omega)).trans hs
   ·refine World.rowIs.drew ((HR.out.set td _).congr (fun i _=>?_))
    rw [←HAD.out i]
    by_cases e:i=td<;>simp [e]
  ·have hqn:q=n:=by omega
   have HX:Hid (ts.take q=ts):=hide (List.take_of_length_le (by have:=hx.out;omega))
   rw [HX.out] at HR
   go_wp2
   go_end0
   exact ⟨rfl,HG.out,HR.out⟩
set_option maxHeartbeats 2000000 in
set_option maxRecDepth 100000 in
theorem addBut_blockNo (g g2 g3 K:Nat) (S O T:Nat→Nat) (w:World) (hS:Hid (WdOk S)) (hO:Hid (WdOk O)) (hT:Hid (WdOk T)) (hK:K≤1000) (rS:Hid (w.rowIs g 88 K (fun i=>.int .u64 (S i)))) (rO:Hid (w.rowIs g2 88 K (fun i=>.int .u64 (O i)))) (rT:Hid (w.rowIs g3 88 K (fun i=>.int .u64 (T i)))) (h3:g3≠g) (hs:Hid (g2=g→S=O)) :
  Calls Tryd.prog 65 #[.agg #[.slice (some ⟨g,0,none⟩) K K],.agg #[.slice (some ⟨g2,0,none⟩) K K],.agg #[.slice (some ⟨g3,0,none⟩) K K]] w fun e w'=>e=.returned (.bool (grewN S O T K))∧w.grownBy w' (some g)∧w'.rowIs g 88 K (fun i=>.int .u64 (butN S O T i)):=by
 go_enter Tryd.func65,Tryd.ntmps65
 go_wp2
 have l1:g<w.heap.size:=rS.out.lt
 have l2:g2<w.heap.size:=rO.out.lt
 have l3:g3<w.heap.size:=rT.out.lt
 go_loopw [7,14] (fun gv u wr=>∃q:Nat,q≤K∧u=.int .i64 q∧gv=.bool (grewN S O T q)∧Hid (w.grownBy wr (some g))∧wr.cell? ⟨w.heap.size,0,none⟩=some (.slice (some ⟨g,0,none⟩) K K)∧wr.cell? ⟨w.heap.size+2,0,none⟩=some (.slice (some ⟨g3,0,none⟩) K K)∧Hid (wr.rowIs g 88 K (fun i=>.int .u64 ((if i<q then butN S O T i else S i:Nat):Int)))) (fun _ u _=>K-(intOf u).toNat)
 case atStart=>exact ⟨0,Nat.zero_le _,rfl,by rw [grew_zero],hide (((World.grownBy_alloc w _ _).andThen (World.grownBy_alloc _ _ _) (fun j hj=>Or.inr hj)).andThen (World.grownBy_alloc _ _ _) (fun j hj=>Or.inr hj)),by simp [go_sem],by simp [go_sem],hide ((((rS.out.alloc _).alloc _).alloc _).congr (fun i _=>by simp))⟩
 case round =>
  obtain ⟨q,hq,rfl,rfl,HG,hs0,hs2,HR⟩:=hrel
  by_cases hlt:q<K
  ·have e1:wr.cell? ⟨g,q,none⟩=some (.int .u64 (S q)):=(HR.out.cell hlt).trans (by simp)
   have e3:wr.cell? ⟨g3,q,none⟩=some (.int .u64 (T q)):=(cell_of (HG.out.block g3 l3 (fun e=>h3 (by injection e)))).trans (rT.out.cell hlt)
   have e2:wr.cell? ⟨g2,q,none⟩=some (.int .u64 (O q)):=by
    by_cases e:g2=g
    ·rw [←hs.out e,e];exact e1
    ·exact (cell_of (HG.out.block g2 l2 (fun e'=>e (by injection e')))).trans (rO.out.cell hlt)
   have ez:=HR.out.frozen
   have HA1:=u64_andNot_nat (O q) (T q) (hO.out q) (hT.out q)
   have hlx:O q &&& (18446744073709551615-T q)<18446744073709551616:=Nat.lt_of_le_of_lt Nat.and_le_left (hO.out q)
   have HA2:bits .andNot .u64 ((O q &&& (18446744073709551615-T q):Nat):Int) (S q:Int)=((moreN S O T q:Nat):Int):=u64_andNot_nat _ (S q) hlx (hS.out q)
   have HA3:bits .or .u64 (S q:Int) ((moreN S O T q:Nat):Int)=((butN S O T q:Nat):Int):=u64_or_nat _ _ (hS.out q) (more_lt hO.out q)
   have HGS:=hide (grew_succ S O T q)
   have hsn:g≠w.heap.size:=by omega
   have hsn2:g≠w.heap.size+2:=by omega
   have HNX:Hid ((wr.setCell ⟨g,q,none⟩ (.int .u64 (butN S O T q:Int))).rowIs g 88 K (fun i=>.int .u64 ((if i<q+1 then butN S O T i else S i:Nat):Int))):=hide ((HR.out.set q _).congr (fun i _=>by
    by_cases e:i=q
    ·subst e;simp
    ·rw [if_neg e]
     by_cases e2:i<q
     ·rw [if_pos e2,if_pos (by omega)]
     ·rw [if_neg e2,if_neg (by omega)]))
   have kk:wr.grownBy (wr.setCell ⟨g,q,none⟩ (.int .u64 (butN S O T q:Int))) (some g):=⟨rfl,rfl,rfl,by simp [World.setCell],fun k _ hk=>Below.heap_setCell _ _ _ _ (fun e=>hk (by rw [e]))⟩
   have HKK:Hid (w.grownBy (wr.setCell ⟨g,q,none⟩ (.int .u64 (butN S O T q:Int))) (some g)):=hide (HG.out.andThen kk (fun j hj=>by cases hj;exact Or.inr rfl))
   have hs0':=(World.cell?_setCell_far wr ⟨g,q,none⟩ ⟨w.heap.size,0,none⟩ (.int .u64 (butN S O T q:Int)) hsn).trans hs0
   have hs2':=(World.cell?_setCell_far wr ⟨g,q,none⟩ ⟨w.heap.size+2,0,none⟩ (.int .u64 (butN S O T q:Int)) hsn2).trans hs2
   generalize hX:O q &&& (18446744073709551615-T q)=X at *
   generalize butN S O T q=Bq at *
   generalize moreN S O T q=Mq at *
   generalize S q=Sq at *
   generalize O q=Oq at *
   generalize T q=Tq at *
   generalize grewN S O T q=gq at *
   clear hX kk
   cases gq with
   | true =>
    go_wp2
    go_region
    go_wp2
    exact ⟨⟨q+1,by omega,by go_num,by rw [HGS.out];rfl,hide ⟨HKK.out.os,HKK.out.tape,HKK.out.output,HKK.out.size,HKK.out.block⟩,hs0',hs2',hide HNX.out.drew⟩,by simp [intOf];omega⟩
   | false =>
    go_wp2
    go_region
    go_wp2
    exact ⟨⟨q+1,by omega,by go_num,by rw [HGS.out];cases Mq<;>rfl,hide ⟨HKK.out.os,HKK.out.tape,HKK.out.output,HKK.out.size,HKK.out.block⟩,hs0',hs2',hide HNX.out.drew⟩,by simp [intOf];omega⟩
  ·have hqk:q=K:=by omega
   subst hqk
   go_wp2
   go_ret
   exact ⟨rfl,HG.out,HR.out.congr (fun i hi=>by rw [if_pos hi])⟩
end Go.Proofs.YtdfdmjcngkfciaaDoor

namespace Go.Proofs.YtdfdmjcngkfciaaDoor
open Go.RowKit
set_option maxHeartbeats 400000 in
theorem validImm_any (op dst a b imm:Int) (w:World) :
  Calls Tryd.prog 62 #[.agg #[.int .i64 op,.int .i64 dst,.int .i64 a,.int .i64 b,.int .i64 imm]] w fun e w'=>e=.returned (.bool (immOk ⟨op,dst,a,b,imm⟩))∧Below w.heap.size w w':=by
 go_enter Tryd.func62,Tryd.ntmps62
 go_wp2
 all_goals
  go_ret
  refine ⟨ret_bool ?_,balloc (Below.refl _ _) _⟩
  first | (simp [immOk, *];done) | (simp [immOk, *];omega)
def OpTab (w:World):Prop:=0 < w.heap.size∧∀k:Nat,1≤k→k≤13→∃s,w.cell? ⟨0,k*5,none⟩=some (.string s)∧w.cell? ⟨0,k*5+1,none⟩=some (.bool (dB k))∧w.cell? ⟨0,k*5+2,none⟩=some (.bool (aB k)) ∧
 w.cell? ⟨0,k*5+3,none⟩=some (.bool (bB k))∧∃i,w.cell? ⟨0,k*5+4,none⟩=some (.bool i)
def TerTab (w:World):Prop:=1 < w.heap.size∧∀k:Nat,1≤k→k≤3→∃s,w.cell? ⟨1,k*4,none⟩=some (.string s)∧w.cell? ⟨1,k*4+1,none⟩=some (.bool ((k:Int) != 1))∧w.cell? ⟨1,k*4+2,none⟩=some (.bool ((k:Int) != 3)) ∧
 w.cell? ⟨1,k*4+3,none⟩=some (.bool ((k:Int)==2))
theorem OpTab.keep {w w':World} (h:OpTab w) (k:Below w.heap.size w w'):OpTab w':=by
 refine ⟨Nat.lt_of_lt_of_le h.1 k.size,fun i h1 h2=>?_⟩
 have e:=fun o=>cell_of (o:=o) (k.block 0 h.1)
 obtain ⟨s,c0,c1,c2,c3,j,c4⟩:=h.2 i h1 h2
 exact ⟨s,(e _).trans c0,(e _).trans c1,(e _).trans c2,(e _).trans c3,j,(e _).trans c4⟩
theorem TerTab.keep {w w':World} (h:TerTab w) (k:Below w.heap.size w w'):TerTab w':=by
 refine ⟨Nat.lt_of_lt_of_le h.1 k.size,fun i h1 h2=>?_⟩
 have e:=fun o=>cell_of (o:=o) (k.block 1 h.1)
 obtain ⟨s,c0,c1,c2,c3⟩:=h.2 i h1 h2
 exact ⟨s,(e _).trans c0,(e _).trans c1,(e _).trans c2,(e _).trans c3⟩
set_option maxHeartbeats 1000000 in
theorem validInstr_gen (op dst a b imm n most:Int) (w:World) (hm:most≤13) (hT:Hid (OpTab w)) :
  Calls Tryd.prog 52 #[.agg #[.int .i64 op,.int .i64 dst,.int .i64 a,.int .i64 b,.int .i64 imm],.int .i64 most,.int .i64 n] w fun e w'=>e=.returned (.bool (insOk n most ⟨op,dst,a,b,imm⟩))∧Below w.heap.size w w':=by
 by_cases h:1≤op∧op≤most
 ·obtain ⟨h1,h2⟩:=h
  obtain ⟨k,rfl⟩:=Int.eq_ofNat_of_zero_le (show 0≤op by omega)
  have hz:=hT.out.1
  obtain ⟨s,c0,c1,c2,c3,j,c4⟩:=hT.out.2 k (by omega) (by omega)
  have hR:Hid (insOk n most ⟨k,dst,a,b,imm⟩=(fld (dB k) dst 0 n&&fld (aB k) a 0 n&&fld (bB k) b 0 n&&immOk ⟨k,dst,a,b,imm⟩)):=by
   show _=_
   unfold insOk
   rw [decide_eq_true h1,decide_eq_true h2]
   simp
  generalize dB (k:Int)=uD at *
  generalize aB (k:Int)=uA at *
  generalize bB (k:Int)=uB at *
  have hk13:(k:Int)≤13:=by omega
  go_enter Tryd.func52,Tryd.ntmps52
  go_wp2_with (first | (go_at_call 53;refine (validField_any _ _ _ _ _).mono ?_;rintro e w2 ⟨rfl,hw2⟩;rw [hw2];clear hw2 w2) | (go_at_call 62;refine (validImm_any _ _ _ _ _ _).mono ?_;rintro e w2 ⟨rfl,hb2⟩))
  all_goals
   go_ret
   refine ⟨ret_bool ?_,?_⟩
   ·rw [hR.out];simp [*]
   ·first | exact bnext (balloc (balloc (Below.refl _ _) _) _) hb2 | exact balloc (balloc (Below.refl _ _) _) _
 ·have hn:∃r,r=insOk n most ⟨op,dst,a,b,imm⟩∧r=false:=⟨_,rfl,by
   unfold insOk
   by_cases h1:1≤op
   ·rw [decide_eq_false (p:=op≤most) (by omega)];simp
   ·rw [decide_eq_false (p:=1≤op) h1];simp⟩
  obtain ⟨r,hr,rfl⟩:=hn
  rw [←hr]
  clear hr
  have h':op<1∨(1≤op∧most<op):=by omega
  clear h
  rcases h' with h' | ⟨h',h''⟩
  all_goals
   go_enter Tryd.func52,Tryd.ntmps52
   go_wp2
   all_goals
    go_ret
    exact ⟨rfl,balloc (Below.refl _ _) _⟩
theorem validInstr_any (op dst a b imm n:Int) (w:World) (hT:Hid (OpTab w)) :
  Calls Tryd.prog 52 #[.agg #[.int .i64 op,.int .i64 dst,.int .i64 a,.int .i64 b,.int .i64 imm],.int .i64 10,.int .i64 n] w fun e w'=>e=.returned (.bool (insOk n 10 ⟨op,dst,a,b,imm⟩))∧Below w.heap.size w w' :=
 validInstr_gen op dst a b imm n 10 w (by decide) hT
set_option maxHeartbeats 1000000 in
theorem validTerm_any (kind ta to els n low bl:Int) (w:World) (hT:Hid (TerTab w)) :
  Calls Tryd.prog 51 #[.agg #[.int .i64 kind,.int .i64 ta,.int .i64 to,.int .i64 els],.int .i64 n,.int .i64 low,.int .i64 bl] w fun e w'=>e=.returned (.bool (terOk n low bl ⟨kind,ta,to,els⟩))∧Below w.heap.size w w':=by
 by_cases h:1≤kind∧kind≤3
 ·obtain ⟨h1,h2⟩:=h
  obtain ⟨k,rfl⟩:=Int.eq_ofNat_of_zero_le (show 0≤kind by omega)
  have hz:=hT.out.1
  obtain ⟨s,c0,c1,c2,c3⟩:=hT.out.2 k (by omega) (by omega)
  have hR:Hid (terOk n low bl ⟨k,ta,to,els⟩=(fld ((k:Int) != 1) ta 0 n&&fld ((k:Int) != 3) to low bl&&fld ((k:Int)==2) els low bl)):=by
   show _=_
   unfold terOk
   rw [decide_eq_true h1,decide_eq_true h2]
   simp
  generalize ((k:Int) != 1)=uA at *
  generalize ((k:Int) != 3)=uT at *
  generalize ((k:Int)==2)=uE at *
  go_enter Tryd.func51,Tryd.ntmps51
  go_wp2_with (go_at_call 53;refine (validField_any _ _ _ _ _).mono ?_;rintro e w2 ⟨rfl,hw2⟩;rw [hw2];clear hw2 w2)
  all_goals
   go_ret
   refine ⟨ret_bool ?_,?_⟩
   ·rw [hR.out];simp [*]
   ·exact balloc (balloc (Below.refl _ _) _) _
 ·have hn:∃r,r=terOk n low bl ⟨kind,ta,to,els⟩∧r=false:=⟨_,rfl,terOk_no h⟩
  obtain ⟨r,hr,rfl⟩:=hn
  rw [←hr]
  clear hr
  have h':kind<1∨3<kind:=by omega
  clear h
  go_enter Tryd.func51,Tryd.ntmps51
  go_wp2
  all_goals
   go_ret
   exact ⟨rfl,balloc (Below.refl _ _) _⟩
set_option maxHeartbeats 400000 in
theorem targetsI_any (t:Ter) (w:World) :
  Calls Tryd.prog 36 #[.agg #[.int .i64 t.kind,.int .i64 t.a,.int .i64 t.to,.int .i64 t.els]] w fun e w'=>∃a c,e=.returned (.slice a t.targets.length c)∧Below w.heap.size w w'∧IntsAt w' w.heap.size w'.heap.size a t.targets:=by
 obtain ⟨kind,ta,to,els⟩:=t
 by_cases h1:kind=1
 ·subst h1
  go_enter Tryd.func36,Tryd.ntmps36
  go_wp2
  go_ret
  refine ⟨_,_,rfl,balloc (balloc (Below.refl _ _) _) _,fun i hi=>?_⟩
  simp [Ter.targets] at hi
  subst hi
  exact ⟨_,_,rfl,⟨by simp,by simp⟩,by simp [Ter.targets]⟩
 ·by_cases h2:kind=2
  ·subst h2
   go_enter Tryd.func36,Tryd.ntmps36
   go_wp2
   go_ret
   refine ⟨_,_,rfl,balloc (balloc (Below.refl _ _) _) _,fun i hi=>?_⟩
   simp [Ter.targets] at hi
   match i,hi with
   | 0,_=>exact ⟨_,_,rfl,⟨by simp,by simp⟩,by simp [Ter.targets]⟩
   | 1,_=>exact ⟨_,_,rfl,⟨by simp,by simp⟩,by simp [Ter.targets]⟩
  ·have e1:(kind==1)=false:=by simp [h1]
   have e2:(kind==2)=false:=by simp [h2]
   have hn:(Ter.targets ⟨kind,ta,to,els⟩)=[]:=by simp [Ter.targets,h1,h2]
   rw [hn]
   clear h1 h2 hn
   go_enter Tryd.func36,Tryd.ntmps36
   go_wp2
   go_ret
   exact ⟨_,_,rfl,balloc (Below.refl _ _) _,fun i hi=>absurd hi (by simp)⟩
end Go.Proofs.YtdfdmjcngkfciaaDoor

namespace Go.Proofs.YtdfdmjcngkfciaaDoor
open Go.RowKit
def natV (L:List Nat):List Value:=L.map fun (x:Nat)=>Value.int .i64 (x:Int)
theorem natV_snoc (L:List Nat) (x:Nat):natV (L++[x])=natV L++[.int .i64 (x:Int)]:=by simp [natV]
theorem ints_one (w:World) (b ty:Nat):IntsAt (w.alloc (.cells #[.int .i64 (b:Int)] ty)) w.heap.size (w.heap.size+1) (some ⟨w.heap.size,0,none⟩) ([b].map Int.ofNat):=fun i hi=>by
 have:i=0:=by simpa using hi
 subst this
 exact ⟨_,0,rfl,⟨Nat.le_refl _,Nat.lt_succ_self _⟩,by simp⟩
theorem tg_two (t:Ter):t.targets.length≤2:=by
 unfold Ter.targets
 split
 ·simp
 ·split<;>simp
structure SeaAt (w:World) (bS gS BL K:Nat) (ab:Option Addr) (nb cb:Nat) (W:Nat→Nat) (v:Value) (L:List Nat):Prop where
 c0:w.cell? ⟨bS,0,none⟩=some (.slice ab nb cb)
 c1:w.cell? ⟨bS,1,none⟩=some (.slice (some ⟨gS,0,none⟩) K K)
 c2:w.cell? ⟨bS,2,none⟩=some v
 thaw:∀q,w.frozen? ⟨bS,q,none⟩=false
 row:w.rowIs gS 88 K (fun i=>.int .u64 (W i))
 own:w.ownsRow BL 2 1 v L.length (natV L)
 lb:bS<BL
 lg:gS<BL
 ne:bS≠gS
 sz:BL≤w.heap.size
structure FrV (w w':World) (bS gS:Nat) (v v':Value):Prop where
 os:w'.os=w.os
 tape:w'.tape=w.tape
 output:w'.output=w.output
 size:w.heap.size≤w'.heap.size
 block:∀k,k<w.heap.size→k≠bS→k≠gS→some k≠v.ownBlock→w'.heap[k]?=w.heap[k]?
 own:v'.ownBlock=v.ownBlock∨∀k,v'.ownBlock=some k→w.heap.size≤k
theorem FrV.refl (w:World) (bS gS:Nat) (v:Value):FrV w w bS gS v v:=⟨rfl,rfl,rfl,Nat.le_refl _,fun _ _ _ _ _=>rfl,Or.inl rfl⟩
theorem FrV.trans {w w1 w2:World} {bS gS:Nat} {v v1 v2:Value} (h:FrV w w1 bS gS v v1) (k:FrV w1 w2 bS gS v1 v2):FrV w w2 bS gS v v2:=by
 refine ⟨k.os.trans h.os,k.tape.trans h.tape,k.output.trans h.output,Nat.le_trans h.size k.size,fun j h1 h2 h3 h4=>?_,?_⟩
 ·refine (k.block j (Nat.lt_of_lt_of_le h1 h.size) h2 h3 (fun e=>?_)).trans (h.block j h1 h2 h3 h4)
  rcases h.own with ho | ho
  ·exact h4 (by rw [e,ho])
  ·have:=ho j e.symm;omega
 ·rcases k.own with ko | ko
  ·rcases h.own with ho | ho
   ·exact Or.inl (ko.trans ho)
   ·exact Or.inr (fun j e=>ho j (by rw [←ko];exact e))
  ·exact Or.inr (fun j e=>Nat.le_trans h.size (ko j e))
theorem FrV.of_below {w w':World} {bS gS:Nat} {v:Value} (h:Below w.heap.size w w'):FrV w w' bS gS v v:=⟨h.os,h.tape,h.output,h.size,fun k h1 _ _ _=>h.block k h1,Or.inl rfl⟩
theorem FrV.of_grown {w w':World} {bS gS:Nat} {v:Value} (h:w.grownBy w' (some gS)):FrV w w' bS gS v v:=⟨h.os,h.tape,h.output,h.size,fun k h1 _ h3 _=>h.block k h1 (fun e=>h3 (by injection e)),Or.inl rfl⟩
theorem SeaAt.below {w w':World} {bS gS BL K:Nat} {ab:Option Addr} {nb cb:Nat} {W:Nat→Nat} {v:Value} {L:List Nat} (h:SeaAt w bS gS BL K ab nb cb W v L) (k:Below w.heap.size w w'):SeaAt w' bS gS BL K ab nb cb W v L:=by
 have hz:=h.sz
 have hb:w'.heap[bS]?=w.heap[bS]?:=k.block bS (by have:=h.lb;omega)
 have ce:∀q,w'.cell? ⟨bS,q,none⟩=w.cell? ⟨bS,q,none⟩:=fun q=>World.cell?_of_block hb
 refine ⟨(ce 0).trans h.c0,(ce 1).trans h.c1,(ce 2).trans h.c2,fun q=>(World.frozen?_of_block hb).trans (h.thaw q),h.row.of_block (k.block gS (by have:=h.lg;omega)),?_,h.lb,h.lg,h.ne,Nat.le_trans hz k.size⟩
 refine h.own.kept (row:=none) ⟨k.os,k.tape,k.output,k.size,fun j hj _=>k.block j hj⟩ ?_
 cases v.ownBlock with
 | none=>exact Or.inl rfl
 | some j=>exact Or.inr (by simp)
theorem SeaAt.seen {w w':World} {bS gS BL K:Nat} {ab:Option Addr} {nb cb:Nat} {W W':Nat→Nat} {v:Value} {L:List Nat} (h:SeaAt w bS gS BL K ab nb cb W v L) (k:w.grownBy w' (some gS)) (hr:w'.rowIs gS 88 K (fun i=>.int .u64 (W' i))):SeaAt w' bS gS BL K ab nb cb W' v L:=by
 have hz:=h.sz
 have hb:w'.heap[bS]?=w.heap[bS]?:=k.block bS (by have:=h.lb;omega) (fun e=>h.ne (by injection e))
 have ce:∀q,w'.cell? ⟨bS,q,none⟩=w.cell? ⟨bS,q,none⟩:=fun q=>World.cell?_of_block hb
 exact ⟨(ce 0).trans h.c0,(ce 1).trans h.c1,(ce 2).trans h.c2,fun q=>(World.frozen?_of_block hb).trans (h.thaw q),hr,own_grown h.own k h.lg,h.lb,h.lg,h.ne,Nat.le_trans hz k.size⟩
theorem SeaAt.push {w w8:World} {bS gS BL K:Nat} {ab:Option Addr} {nb cb:Nat} {W:Nat→Nat} {v v8:Value} {L:List Nat} {b:Nat} {ob:Obj} (h:SeaAt w bS gS BL K ab nb cb W v L) (hg:(w.alloc ob).grownBy w8 v.ownBlock) (ho:w8.ownsRow BL 2 1 v8 (L.length+1) (natV L++[.int .i64 (b:Int)])) (hat:v8.ownBlock=v.ownBlock∨v8.ownBlock=some (w.heap.size+1)) :
  SeaAt (w8.setCell ⟨bS,2,none⟩ v8) bS gS BL K ab nb cb W v8 (L++[b])∧FrV w (w8.setCell ⟨bS,2,none⟩ v8) bS gS v v8∧w8.cell? ⟨bS,2,none⟩=some v∧w8.frozen? ⟨bS,2,none⟩=false:=by
 have hz:=h.sz
 have hlb:=h.lb
 have hlg:=h.lg
 have hsz:(w.alloc ob).heap.size=w.heap.size+1:=World.size_alloc _ _
 have hgs:=hg.size
 have hnv:∀k,k<BL→some k≠v.ownBlock:=fun k hk e=>by have:=(h.own.lt k e.symm).1;omega
 have ha:∀k,k<w.heap.size→(w.alloc ob).heap[k]?=w.heap[k]?:=fun k hk=>Below.heap_alloc _ _ _ hk
 have hb:w8.heap[bS]?=w.heap[bS]?:=(hg.block bS (by omega) (hnv _ hlb)).trans (ha _ (by omega))
 have hgr:w8.heap[gS]?=w.heap[gS]?:=(hg.block gS (by omega) (hnv _ hlg)).trans (ha _ (by omega))
 have ce:∀q,w8.cell? ⟨bS,q,none⟩=w.cell? ⟨bS,q,none⟩:=fun q=>World.cell?_of_block hb
 have fe:∀q,w8.frozen? ⟨bS,q,none⟩=false:=fun q=>(World.frozen?_of_block hb).trans (h.thaw q)
 refine ⟨⟨(set_other _ _ (by omega) _).trans ((ce 0).trans h.c0),(set_other _ _ (by omega) _).trans ((ce 1).trans h.c1),World.cell?_setCell_same _ _ _ ((ce 2).trans h.c2),fun q=>by rw [World.frozen?_setCell];exact fe q,(h.row.of_block hgr).setOther (fun e=>h.ne e.symm) _,?_,hlb,hlg,h.ne,by rw [size_setCell];omega⟩,⟨?_,?_,?_,by rw [size_setCell];omega,fun k h1 h2 h3 h4=>?_,?_⟩,(ce 2).trans h.c2,fe 2⟩
 ·rw [natV_snoc,List.length_append]
  exact ownsRow_setCell_below ho hlb _
 ·exact hg.os
 ·exact hg.tape
 ·exact hg.output
 ·rw [Below.heap_setCell _ _ _ _ h2]
  exact (hg.block k (by omega) h4).trans (ha k h1)
 ·rcases hat with e | e
  ·exact Or.inl e
  ·exact Or.inr (fun k ek=>by rw [e] at ek;injection ek with ek;omega)
theorem FrV.blks {w w':World} {bS gS BL K:Nat} {ab:Option Addr} {nb cb:Nat} {W:Nat→Nat} {v v':Value} {L:List Nat} {xs:List Blk} {L0 B0:Nat} (f:FrV w w' bS gS v v') (h:SeaAt w bS gS BL K ab nb cb W v L) (hb:BlksAt w L0 B0 ab xs) (h1:¬(L0≤bS∧bS<B0)) (h2:¬(L0≤gS∧gS<B0)) (h3:B0≤BL):BlksAt w' L0 B0 ab xs:=by
 have hz:=h.sz
 exact hb.keepS (fun k k1 k2=>f.block k (by omega) (fun e=>h1 (by omega)) (fun e=>h2 (by omega)) (fun e=>by have:=(h.own.lt k e.symm).1;omega))
set_option maxHeartbeats 2000000 in
set_option maxRecDepth 100000 in
theorem visit_any (bS gS BL K nb cb:Nat) (ab:Option Addr) (xs:List Blk) (L0 B0:Nat) (hxb:Hid (nb=xs.length)) (hn:nb≤1000) (hK:nb≤64*K) (hK2:K≤100) (h1:¬(L0≤bS∧bS<B0)) (h2:¬(L0≤gS∧gS<B0)) (h3:B0≤BL) (hT:Hid (∀x∈xs,∀t∈x.term.targets,0≤t∧t<nb)) :
  ∀(m b:Nat) (W:Nat→Nat) (v:Value) (L:List Nat) (w:World),Hid (SeaAt w bS gS BL K ab nb cb W v L)→Hid (BlksAt w L0 B0 ab xs)→b<nb→Hid (unseen W nb≤m)→Hid (WdOk W)→L.length+unseen W nb≤nb →
  Calls Tryd.prog 15 #[.pointer (some ⟨bS,0,none⟩),.int .i64 b] w fun e w'=>e=.returned (.tuple #[])∧∃v',FrV w w' bS gS v v'∧SeaAt w' bS gS BL K ab nb cb (dfsV (tgN xs) m b (W,L)).1 v' (dfsV (tgN xs) m b (W,L)).2:=by
 obtain ⟨i0,hi0,hz0,hz1,hz2⟩:=info_three Tryd.info2'
 intro m
 induction m with
 | zero =>
  intro b W v L w HS HB hb HU HW hL
  have HH:Hid (hasN W b=true):=hide (unseen_zero (by have:=HU.out;omega) hb)
  have HAS:=hide (has_blockNo gS K b W w HW (hide HS.out.row) (by omega) (by omega))
  rw [HH.out] at HAS
  have c1:=HS.out.c1
  go_enter Tryd.func15,Tryd.ntmps15
  go_wp2_with fail
  refine HAS.out.mono ?_
  rintro e w1 ⟨rfl,hb1⟩
  have HS1:=hide (HS.out.below hb1)
  have HF1:Hid (FrV w w1 bS gS v v):=hide (FrV.of_below hb1)
  clear hb1 HAS c1
  go_wp2_with fail
  refine bodyPost_ret (v:=.tuple #[]) (by simp [results,Tryd.results15,go_sem]) rfl ?_
  exact ⟨rfl,v,HF1.out,HS1.out⟩
 | succ m ih =>
  intro b W v L w HS HB hb HU HW hL
  have IH:=hide ih
  clear ih
  cases hh:hasN W b with
  | true =>
   have HHT:=hide hh
   clear hh
   have HAS:=hide (has_blockNo gS K b W w HW (hide HS.out.row) (by omega) (by omega))
   rw [HHT.out] at HAS
   have c1:=HS.out.c1
   go_enter Tryd.func15,Tryd.ntmps15
   go_wp2_with fail
   refine HAS.out.mono ?_
   rintro e w1 ⟨rfl,hb1⟩
   have HS1:=hide (HS.out.below hb1)
   have HF1:Hid (FrV w w1 bS gS v v):=hide (FrV.of_below hb1)
   clear hb1 HAS c1
   go_wp2_with fail
   refine bodyPost_ret (v:=.tuple #[]) (by simp [results,Tryd.results15,go_sem]) rfl ?_
   rw [dfs_stop (s:=(W,L)) HHT.out]
   exact ⟨rfl,v,HF1.out,HS1.out⟩
  | false =>
   have HHF:=hide hh
   clear hh
   have c0:=HS.out.c0
   have c1:=HS.out.c1
   have c2:=HS.out.c2
   have HAS:=hide (has_blockNo gS K b W w HW (hide HS.out.row) (by omega) (by omega))
   rw [HHF.out] at HAS
   go_enter Tryd.func15,Tryd.ntmps15
   go_wp2_with fail
   refine HAS.out.mono ?_
   rintro e w1 ⟨rfl,hb1⟩
   have HS1:=hide (HS.out.below hb1)
   have HF1:Hid (FrV w w1 bS gS v v):=hide (FrV.of_below hb1)
   clear hb1 HAS c0 c1 c2
   have c0:=HS1.out.c0
   have c1:=HS1.out.c1
   go_wp2_with fail
   have HSA:=hide (HS1.out.below (balloc (Below.refl _ _) (.cells #[.int .i64 (b:Int)] 62)))
   have HFA:Hid (FrV w1 (w1.alloc (.cells #[.int .i64 (b:Int)] 62)) bS gS v v):=hide (FrV.of_below (balloc (Below.refl _ _) _))
   have HIA:Hid (IntsAt (w1.alloc (.cells #[.int .i64 (b:Int)] 62)) w1.heap.size (w1.heap.size+1) (some ⟨w1.heap.size,0,none⟩) ([b].map Int.ofNat)):=hide (ints_one w1 b _)
   have hza:w1.heap.size+1≤(w1.alloc (.cells #[.int .i64 (b:Int)] 62)).heap.size:=by simp
   have hgz:gS<w1.heap.size:=by have:=HS1.out.lg;have:=HS1.out.sz;omega
   generalize w1.alloc (.cells #[.int .i64 (b:Int)] 62)=wa at *
   have HRB:Hid (∀t∈[b],t<64*K):=hide (fun t ht=>by
    have:t=b:=by simpa using ht
    omega)
   refine (add_blockNo gS K 1 1 W _ [b] w1.heap.size (w1.heap.size+1) wa HIA (hide rfl) (by omega) HRB (by omega) HW (hide HSA.out.row) hza (by omega)).mono ?_
   rintro e w2 ⟨rfl,hg2,hr2⟩
   have HS2:Hid (SeaAt w2 bS gS BL K ab nb cb (addN W b) v L):=hide (HSA.out.seen hg2 hr2)
   have HF2:Hid (FrV w w2 bS gS v v):=hide ((HF1.out.trans HFA.out).trans (FrV.of_grown hg2))
   have HB2:Hid (BlksAt w2 L0 B0 ab xs):=hide (HF2.out.blks HS.out HB.out h1 h2 h3)
   have HU2:=hide (unseen_add (W:=W) (n:=nb) hb HHF.out)
   have HD:Hid (dfsV (tgN xs) (m+1) b (W,L)=_):=hide (dfs_go (tg:=tgN xs) (m:=m) (s:=(W,L)) HHF.out)
   clear hg2 hr2 HSA HFA HIA HF1 HS1 hza hgz c0 c1
   have hbx:b<xs.length:=by have:=hxb.out;omega
   obtain ⟨bb,o,rfl,hbb,pa,pc,ia,ic,-,-,⟨t0,t1,t2,t3⟩,-,-⟩:=HB2.out b hbx
   have c0:=HS2.out.c0
   have HTT:Hid (∀t∈xs[b].term.targets,0≤t∧t<nb):=hide (hT.out _ (List.getElem_mem hbx))
   rw [tgN_at hbx] at HD
   dsimp only at HD
   generalize xs[b].term=tm at *
   go_wp2_with fail
   refine (targetsI_any tm w2).mono ?_
   rintro e w3 ⟨at3,ct3,rfl,hb3,hi3⟩
   have HS3:=hide (HS2.out.below hb3)
   have HF3:Hid (FrV w w3 bS gS v v):=hide (HF2.out.trans (FrV.of_below hb3))
   have HI3:=hide hi3
   have HB3:Hid (BlksAt w3 L0 B0 (some ⟨bb,o,none⟩) xs):=hide (HF3.out.blks HS.out HB.out h1 h2 h3)
   have HZ3:=hide hb3.size
   have HOW:Hid (∀k,v.ownBlock=some k→k<w2.heap.size):=hide (fun k e=>(HS2.out.own.lt k e).2)
   have HG2:Hid (gS<w2.heap.size∧bS<w2.heap.size):=hide ⟨by have:=HS2.out.lg;have:=HS2.out.sz;omega,by have:=HS2.out.lb;have:=HS2.out.sz;omega⟩
   clear hb3 hi3 t0 t1 t2 t3 c0 HB2 HS2 HF2
   have hts2:tm.targets.length≤2:=tg_two tm
   generalize hts:tm.targets=ts at *
   clear hts
   have HTL:Hid (∀t∈ts.map Int.toNat,t<nb):=hide (fun t ht=>by
    obtain ⟨z,hz,rfl⟩:=List.mem_map.1 ht
    have:=HTT.out z hz
    omega)
   have HTG:Hid (∀b,b<nb→∀t∈tgN xs b,t<nb):=hide (fun b hb t ht=>by
    have hbx:b<xs.length:=by have:=hxb.out;omega
    rw [tgN_at hbx] at ht
    obtain ⟨z,hz,rfl⟩:=List.mem_map.1 ht
    have:=hT.out _ (List.getElem_mem hbx) z hz
    omega)
   have HWA:=hide (add_wd HW.out b)
   have hU3:unseen (addN W b) nb≤m:=by have:=HU.out;have:=HU2.out;omega
   have hL3:L.length+unseen (addN W b) nb+1≤nb:=by have:=HU2.out;omega
   go_wp2_with fail
   go_loopw [29] (fun u wr=>∃q:Nat,q≤ts.length∧u=.int .i64 q∧∃v',Hid (FrV w3 wr bS gS v v')∧Hid (SeaAt wr bS gS BL K (some ⟨bb,o,none⟩) nb cb (((ts.map Int.toNat).take q).foldl (fun s t=>dfsV (tgN xs) m t s) (addN W b,L)).1 v' (((ts.map Int.toNat).take q).foldl (fun s t=>dfsV (tgN xs) m t s) (addN W b,L)).2)) (fun u _=>ts.length-(intOf u).toNat)
   case atStart=>exact ⟨0,Nat.zero_le _,rfl,v,hide (FrV.refl _ _ _ _),HS3⟩
   case round =>
    obtain ⟨q,hq,rfl,v',HFq,HSq⟩:=hrel
    have HFL:Hid ((((ts.map Int.toNat).take q).foldl (fun s t=>dfsV (tgN xs) m t s) (addN W b,L)).2.length+unseen (((ts.map Int.toNat).take q).foldl (fun s t=>dfsV (tgN xs) m t s) (addN W b,L)).1 nb≤L.length+unseen (addN W b) nb):=hide (fold_len (tgN xs) nb HTG.out m _ _ (fun t ht=>HTL.out t (List.mem_of_mem_take ht)))
    by_cases hlt:q<ts.length
    ·obtain ⟨bt,ot,rfl,hbt,et3⟩:=HI3.out q hlt
     have et:=(cell_of (HFq.out.block bt hbt.2 (by have:=HG2.out;omega) (by have:=HG2.out;omega) (fun e=>by have:=HOW.out bt e.symm;omega))).trans et3
     have htr:=HTT.out ts[q] (List.getElem_mem hlt)
     have HTK:Hid ((ts.map Int.toNat).take (q+1)=(ts.map Int.toNat).take q++[ts[q].toNat]):=hide (by rw [List.take_succ_eq_append_getElem (by simpa using hlt),List.getElem_map])
     have HWQ:=hide (fold_wd (tgN xs) m ((ts.map Int.toNat).take q) (addN W b,L) HWA.out)
     have HBq:=hide (HFq.out.blks HS3.out HB3.out h1 h2 h3)
     have HUQ:Hid (unseen (((ts.map Int.toNat).take q).foldl (fun s t=>dfsV (tgN xs) m t s) (addN W b,L)).1 nb≤m):=hide (Nat.le_trans (unseen_mono nb (fun x hx=>fold_mono (tgN xs) m _ (addN W b,L) x hx)) hU3)
     have HFO:Hid (((ts.map Int.toNat).take (q+1)).foldl (fun s t=>dfsV (tgN xs) m t s) (addN W b,L)=dfsV (tgN xs) m ts[q].toNat (((ts.map Int.toNat).take q).foldl (fun s t=>dfsV (tgN xs) m t s) (addN W b,L))):=hide (by rw [HTK.out,List.foldl_append];rfl)
     clear et3 HTK
     generalize ts[q]=tq at *
     obtain ⟨tn,rfl⟩:=nat_of htr.1
     rw [Int.toNat_natCast] at HFO
     have HC:=hide (IH.out tn _ v' _ wr HSq HBq (by omega) HUQ HWQ (by have:=HFL.out;omega))
     generalize ((ts.map Int.toNat).take q).foldl (fun s t=>dfsV (tgN xs) m t s) (addN W b,L)=sq at *
     obtain ⟨Wq,Lq⟩:=sq
     dsimp only at *
     go_wp2_with fail
     refine HC.out.mono ?_
     rintro e w5 ⟨rfl,v5,hf5,hs5⟩
     have HF5:=hide (HFq.out.trans hf5)
     have HS5:=hide hs5
     clear hf5 hs5 HC
     go_wp2_with fail
     exact ⟨⟨q+1,by omega,by go_num,v5,HF5,hide (by rw [HFO.out];exact HS5.out)⟩,by simp [intOf];omega⟩
    ·have hqe:q=ts.length:=by omega
     have HTE:Hid ((ts.map Int.toNat).take q=ts.map Int.toNat):=hide (List.take_of_length_le (by simp;omega))
     rw [HTE.out] at HSq HFL
     generalize (ts.map Int.toNat).foldl (fun s t=>dfsV (tgN xs) m t s) (addN W b,L)=sq at *
     obtain ⟨Wq,Lq⟩:=sq
     dsimp only at *
     clear HTE
     have c2:=HSq.out.c2
     have zz:=HSq.out.thaw 2
     have hlq:Lq.length≤1000:=by have:=HFL.out;omega
     have hwz:=HSq.out.sz
     go_wp2_with (at_builtin;refine wpList_append_own_at _ rfl _ _ 29 rfl BL 2 i0 (.int .i64 0) 1 8 Tryd.underlying29 hi0 hz0 hz1 hz2 rfl (by decide) _ _ _ rfl (HSq.out.own.alloc _) ⟨wr.heap.size,0,none⟩ 1 1 [.int .i64 (b:Int)] rfl rfl ?c1 ?c2 ?c3 ?c4 ?c5 ?_)
     case c1=>exact one_news _ _ _
     case c2=>intro u hu;simp at hu;subst hu;rfl
     case c3=>unfold maxLen;omega
     case c4=>omega
     case c5=>simp;omega
     intro v8 w8 hown8 hg8 hne8 hat8
     obtain ⟨hp1,hp2,hp3,hp4⟩:=HSq.out.push hg8 hown8 hat8
     obtain ⟨g8,k8,rfl,-,-⟩:=own_some' hown8 (by omega)
     have HP1:=hide hp1
     have HP2:=hide hp2
     clear hp1 hp2 hown8 hg8 hne8 hat8
     go_wp2_with fail
     go_end0
     exact ⟨rfl,_,(HF3.out.trans HFq.out).trans HP2.out,by rw [HD.out];exact HP1.out⟩
end Go.Proofs.YtdfdmjcngkfciaaDoor

namespace Go.Proofs.YtdfdmjcngkfciaaDoor
open Go.RowKit
inductive AvZ (tg:Nat→List Nat) (z:Int):Nat→Prop
 | root:z≠0→AvZ tg z 0
 | step {b t:Nat}:AvZ tg z b→t∈tg b→(t:Int)≠z→AvZ tg z t
theorem avz_nat {tg:Nat→List Nat} {a b:Nat}:AvZ tg a b↔Av tg a b:=by
 constructor
 ·intro h
  induction h with
  | root h=>exact Av.root (fun e=>h (by omega))
  | step _ ht hne ih=>exact Av.step ih ht (fun e=>hne (by omega))
 ·intro h
  induction h with
  | root h=>exact AvZ.root (fun e=>h (by omega))
  | step _ ht hne ih=>exact AvZ.step ih ht (fun e=>hne (by omega))
theorem avz_neg {tg:Nat→List Nat} {z:Int} (hz:z<0) {b:Nat}:AvZ tg z b↔Re tg b:=by
 constructor
 ·intro h
  induction h with
  | root _=>exact Re.root
  | step _ ht _ ih=>exact Re.step ih ht
 ·intro h
  induction h with
  | root=>exact AvZ.root (by omega)
  | step _ ht ih=>exact AvZ.step ih ht (by omega)
structure RcI (tg:Nat→List Nat) (n:Nat) (z:Int) (F:List Nat) (i:Nat):Prop where
 nd:F.Nodup
 av:∀x∈F,AvZ tg z x
 lt:∀x∈F,x<n
 root:z≠0→0∈F
 nil:z=0→F=[]
 cl:∀k (h:k<F.length),k<i→∀t∈tg F[k],(t:Int)≠z→t=0∨t∈F
theorem nodup_le {F:List Nat} {n:Nat} (h:F.Nodup) (hl:∀x∈F,x<n):F.length≤n:=by
 have:=List.Nodup.length_le_of_subset h (l₂:=List.range n) (fun x hx=>List.mem_range.2 (hl x hx))
 simpa using this
theorem rc_done {tg:Nat→List Nat} {n:Nat} {z:Int} {F:List Nat} {i:Nat} (h:RcI tg n z F i) (hi:F.length≤i) (x:Nat):x∈F↔AvZ tg z x:=by
 refine ⟨h.av x,fun hx=>?_⟩
 induction hx with
 | root hz=>exact h.root hz
 | @step b t hb ht hne ih =>
  obtain ⟨k,hk,e⟩:=List.getElem_of_mem ih
  rcases h.cl k hk (by omega) t (by rw [e];exact ht) hne with h0 | h1
  ·rw [h0]
   refine h.root (fun hz=>?_)
   rw [h.nil hz] at hk
   exact absurd hk (by simp)
  ·exact h1
end Go.Proofs.YtdfdmjcngkfciaaDoor

namespace Go.Proofs.YtdfdmjcngkfciaaDoor
open Go.RowKit
theorem row_set {T:Type} {C:T→Value} {w:World} {g t n:Nat} {f:Nat→T} (h:w.rowIs g t n (fun z=>C (f z))) (r:Nat) (v:T):(w.setCell ⟨g,r,none⟩ (C v)).rowIs g t n (fun z=>C (if z=r then v else f z)) :=
 (h.set r (C v)).congr (fun z _=>by by_cases e:z=r<;>simp [e])
theorem row_as {T:Type} {C:T→Value} {w:World} {g t n:Nat} {f f':Nat→T} (h:w.rowIs g t n (fun z=>C (f z))) (e:∀z,z<n→f z=f' z):w.rowIs g t n (fun z=>C (f' z)):=h.congr (fun z hz=>by rw [e z hz])
theorem Tryd.infoBo:(Tryd.prog.info? 4).map (fun i=>(i.zero,i.size,i.bytes))=some (some (.bool false),1,1):=by kernel_rfl
end Go.Proofs.YtdfdmjcngkfciaaDoor
