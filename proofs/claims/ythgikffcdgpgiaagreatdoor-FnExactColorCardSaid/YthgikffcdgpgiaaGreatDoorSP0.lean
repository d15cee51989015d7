import Derived.Test.YthgikffcdgpgiaaGreatDoorDR1
import Derived.Test.YthgikffcdgpgiaaGreatDoorMem
import Derived.Test.YthgikffcdgpgiaaGreatDoorIw
import Derived.Lib.AppendZerosOnto
import Derived.Lib.Walk
import Derived.Lib.SliceRun
import Derived.Test.YthgikffcdgpgiaaGreatDoorDFP
import Derived.Test.YthgikffcdgpgiaaGreatDoorW2
import Derived.Deep.LoopGhost
import Derived.WalkMore
namespace Go.Proofs.YthgikffcdgpgiaaGreatDoor
open Go.RowKit
structure SetsAt (w:World) (G n K:Nat) (gs:Nat→Nat) (Ws:Nat→Nat→Nat):Prop where
 row:w.rowIs G 110 n (fun i=>.slice (some ⟨gs i,0,none⟩) K K)
 set:∀i,i<n→w.rowIs (gs i) 133 K (fun j=>.int .u64 (Ws i j))
 inj:∀i j,i<n→j<n→gs i=gs j→i=j
 out:∀i,i<n→gs i≠G
theorem Tryz.infoSet:(Tryz.prog.info? 110).map (fun i=>(i.zero,i.size,i.bytes))=some (some (.agg #[.slice none 0 0]),1,24):=by kernel_rfl
theorem run_makeS {P:Program} (t e:TypeId) (z:Value) (size bytes:Nat) (ht:P.underlying t=some (.slice e)) (hinfo:(P.info? e).map (fun i=>(i.zero,i.size,i.bytes))=some (some z,size,bytes))
  (n:Nat) (hbytes:bytes*n≤281474976710656) (h63:n≤9223372036854775807) (w:World) :
  (Instr.makeSlice t (.int .i64 (n:Int)) (.int .i64 (n:Int))).run P w=.ok (.slice (some ⟨w.heap.size,0,none⟩) n n) (w.alloc (.cells (madeCells z.cells (n*size)) e)):=by
 obtain ⟨i,hi,hq⟩:=Option.map_eq_some_iff.1 hinfo
 simp only [Prod.mk.injEq] at hq
 obtain ⟨hz,hsz,hbt⟩:=hq
 have h:=run_make (P:=P) w t e i z ht hi hz .i64 .i64 (n:Int) (n:Int) (by omega) (Int.le_refl _) (by rw [hbt,←Int.natCast_mul];omega) (by omega)
 simp only [Int.toNat_natCast,hsz] at h
 exact h
structure SetsTo (w wr:World) (G n K q:Nat) (gs:Nat→Nat):Prop where
 low:Below w.heap.size w wr
 base:w.heap.size≤G
 row:wr.rowIs G 110 n (fun i=>if i<q then .slice (some ⟨gs i,0,none⟩) K K else .slice none 0 0)
 set:∀i,i<q→wr.rowIs (gs i) 133 K (fun _=>.int .u64 ((0:Nat):Int))
 inj:∀i j,i<q→j<q→gs i=gs j→i=j
 up:∀i,i<q→G<gs i
theorem SetsTo.next {w wr w1:World} {G n K q g:Nat} {gs:Nat→Nat} (h:SetsTo w wr G n K q gs) (hq:q<n) (hb:Below wr.heap.size wr w1) (hg:wr.heap.size≤g) (hr:w1.rowIs g 133 K (fun _=>.int .u64 ((0:Nat):Int))) :
  SetsTo w (w1.setCell ⟨G,q,none⟩ (.slice (some ⟨g,0,none⟩) K K)) G n K (q+1) (fun i=>if i=q then g else gs i)∧w1.cell? ⟨G,q,none⟩=some (.slice none 0 0)∧w1.frozen? ⟨G,q,none⟩=false:=by
 have hGl:G<wr.heap.size:=h.row.lt
 have hrow:w1.rowIs G 110 n (fun i=>if i<q then .slice (some ⟨gs i,0,none⟩) K K else .slice none 0 0):=h.row.of_block (hb.block G hGl)
 have hgl:∀i,i<q→gs i<wr.heap.size:=fun i hi=>(h.set i hi).lt
 refine ⟨⟨(h.low.trans (hb.mono h.low.size)).setCell h.base _,h.base,(hrow.set q _).congr (fun i _=>?_),fun i hi=>?_,fun i j hi hj e=>?_,fun i hi=>?_⟩,(hrow.cell hq).trans (by simp),hrow.frozen q⟩
 ·by_cases e:i=q
  ·subst e;simp
  ·rw [if_neg e]
   by_cases e2:i<q
   ·rw [if_pos e2,if_pos (by omega)];simp [e]
   ·rw [if_neg e2,if_neg (by omega)]
 ·by_cases e:i=q
  ·rw [if_pos e];exact hr.setOther (by show g≠G;omega) _
  ·rw [if_neg e]
   have:=h.up i (by omega)
   exact ((h.set i (by omega)).of_block (hb.block _ (hgl i (by omega)))).setOther (by show gs i≠G;omega) _
 ·by_cases e1:i=q
  ·by_cases e2:j=q
   ·rw [e1,e2]
   ·rw [if_pos e1,if_neg e2] at e
    have:=hgl j (by omega);omega
  ·by_cases e2:j=q
   ·rw [if_neg e1,if_pos e2] at e
    have:=hgl i (by omega);omega
   ·rw [if_neg e1,if_neg e2] at e
    exact h.inj i j (by omega) (by omega) e
 ·by_cases e:i=q
  ·show G<if i=q then g else gs i
   rw [if_pos e];omega
  ·show G<if i=q then g else gs i
   rw [if_neg e];exact h.up i (by omega)
set_option maxHeartbeats 1000000 in
set_option maxRecDepth 100000 in
theorem newSets_blockNo (n room:Nat) (w:World) (hn:n≤1000) (hr:room≤60000) :
  Calls Tryz.prog 142 #[.int .i64 n,.int .i64 room] w fun e w'=>∃G gs,e=.returned (.slice (some ⟨G,0,none⟩) n n)∧w.heap.size≤G∧Below w.heap.size w w'∧SetsAt w' G n ((room+63) / 64) gs (fun _ _=>0)∧(∀i,i<n→w.heap.size≤gs i):=by
 have hmk:=run_makeS (P:=Tryz.prog) 207 110 (.agg #[.slice none 0 0]) 1 24 Tryz.underlying207 Tryz.infoSet n (by omega) (by omega)
 have HNS:=hide (fun W=>newSet_blockNo room W hr)
 generalize (room+63) / 64=K at *
 go_enter Tryz.func142,Tryz.ntmps142
 go_wp2_with fail
 go_loopw [11] (fun u wr=>∃q:Nat,q≤n∧u=.int .i64 q∧∃gs,Hid (SetsTo w wr w.heap.size n K q gs)) (fun u _=>n-(intOf u).toNat)
 case atStart=>exact ⟨0,Nat.zero_le _,rfl,fun _=>0,hide ⟨balloc (Below.refl _ _) _,Nat.le_refl _,by
  have h:=World.rowIs_made w (.slice none 0 0) n 110
  simpa [Value.cells] using h,fun i hi=>absurd hi (by omega),fun i j hi=>absurd hi (by omega),fun i hi=>absurd hi (by omega)⟩⟩
 case round =>
  obtain ⟨q,hq,rfl,gs,HS⟩:=hrel
  by_cases hlt:q<n
  ·go_wp2_with fail
   refine (HNS.out wr).mono ?_
   rintro e w1 ⟨g,rfl,hg,hb1,hr1⟩
   have hS1:=HS.out.next hlt hb1 hg hr1
   obtain ⟨hS2,hc1,hz1⟩:=hS1
   have HS2:=hide hS2
   clear hS2 hb1 hr1
   go_wp2_with fail
   exact ⟨⟨q+1,by omega,by go_num,_,HS2⟩,by simp [intOf];omega⟩
  ·have hqn:q=n:=by omega
   subst hqn
   go_wp2_with fail
   go_ret
   refine ⟨_,gs,rfl,Nat.le_refl _,HS.out.low,⟨HS.out.row.congr (fun i hi=>by rw [if_pos hi]),HS.out.set,HS.out.inj,fun i hi e=>by have:=HS.out.up i hi;omega⟩,fun i hi=>by have:=HS.out.up i hi;omega⟩
end Go.Proofs.YthgikffcdgpgiaaGreatDoor

namespace Go.Proofs.YthgikffcdgpgiaaGreatDoor
open Go.RowKit
def RevTo (L xs:List Int) (i:Nat):Prop:=xs.length=L.length∧∀k (h:k<L.length),xs[k]?=some (if k<i∨L.length≤k+i then L[L.length-1-k] else L[k])
theorem rev_zero (L:List Int):RevTo L L 0:=⟨rfl,fun k h=>by rw [if_neg (by omega),List.getElem?_eq_getElem h]⟩
theorem rev_done {L xs:List Int} {i:Nat} (h:RevTo L xs i) (hi:L.length≤2*i+1):xs=L.reverse:=by
 refine List.ext_getElem? (fun k=>?_)
 by_cases hk:k<L.length
 ·rw [h.2 k hk,List.getElem?_reverse hk,List.getElem?_eq_getElem (by omega)]
  split
  ·rfl
  ·have e:L.length-1-k=k:=by omega
   simp only [e]
 ·rw [List.getElem?_eq_none (by rw [h.1];omega),List.getElem?_eq_none (by rw [List.length_reverse];omega)]
theorem rev_step {L xs:List Int} {i:Nat} (h:RevTo L xs i) (hi:2*i+1<L.length) (h1:i<xs.length) (h2:L.length-1-i<xs.length):RevTo L ((xs.set i xs[L.length-1-i]).set (L.length-1-i) xs[i]) (i+1):=by
 refine ⟨by rw [List.length_set,List.length_set];exact h.1,fun k hk=>?_⟩
 have e1:=h.2 i (by omega)
 have e2:=h.2 (L.length-1-i) (by omega)
 rw [List.getElem?_eq_getElem h1,if_neg (by omega)] at e1
 rw [List.getElem?_eq_getElem h2,if_neg (by omega)] at e2
 injection e1 with e1
 injection e2 with e2
 rw [List.getElem?_set,List.length_set]
 by_cases c1:L.length-1-i=k
 ·subst c1
  rw [if_pos rfl,if_pos h2,if_pos (by omega),e1]
  have e:L.length-1-(L.length-1-i)=i:=by omega
  simp only [e]
 ·rw [if_neg c1,List.getElem?_set]
  by_cases c2:i=k
  ·subst c2
   rw [if_pos rfl,if_pos h1,if_pos (by omega),e2]
  ·rw [if_neg c2,h.2 k hk]
   by_cases c3:k<i∨L.length≤k+i
   ·rw [if_pos c3,if_pos (by omega)]
   ·rw [if_neg c3,if_neg (by omega)]
set_option maxHeartbeats 1000000 in
set_option maxRecDepth 100000 in
theorem reverse_any (g n c B:Nat) (L:List Int) (w:World) (hn:n≤1000000) (hx:Hid (n=L.length)) (ho:Hid (w.ownsRow B 2 1 (.slice (some ⟨g,0,none⟩) n c) n (L.map (Value.int .i64)))) :
  Calls Tryz.prog 105 #[.slice (some ⟨g,0,none⟩) n c] w fun e w'=>e=.returned (.tuple #[])∧w.grownBy w' (some g)∧w'.ownsRow B 2 1 (.slice (some ⟨g,0,none⟩) n c) n (L.reverse.map (Value.int .i64)):=by
 go_enter Tryz.func105,Tryz.ntmps105
 go_wp2
 go_loopw [2,3] (fun u v wr=>∃(i:Nat) (xs:List Int),u=.int .i64 i∧v=.int .i64 ((n:Int)-1-i)∧2*i≤n∧Hid (RevTo L xs i)∧Hid (w.grownBy wr (some g))∧Hid (wr.ownsRow B 2 1 (.slice (some ⟨g,0,none⟩) n c) n (xs.map (Value.int .i64)))) (fun u _ _=>n-(intOf u).toNat)
 case atStart=>exact ⟨0,L,rfl,by go_num,by omega,hide (rev_zero L),hide ⟨rfl,rfl,rfl,Nat.le_refl _,fun _ _ _=>rfl⟩,ho⟩
 case round =>
  obtain ⟨i,xs,rfl,rfl,hi,HR,HG,HO⟩:=hrel
  by_cases hlt:2*i+1<n
  ·have hl:=hx.out
   have hl2:=HR.out.1
   obtain ⟨j,hj⟩:∃j:Nat,(n:Int)-1-i=j:=⟨n-1-i,by omega⟩
   have hjn:j=L.length-1-i:=by omega
   have h1:i<xs.length:=by omega
   have h2:L.length-1-i<xs.length:=by omega
   have h2':j<xs.length:=by omega
   have HRS:=hide (rev_step HR.out (by omega) h1 h2)
   have e1:=own_cell HO.out (j:=i) (u:=.int .i64 xs[i]) (by simp [h1])
   have e2:=own_cell HO.out (j:=j) (u:=.int .i64 xs[j]) (by simp [h2'])
   have hz:=own_thaw HO.out
   have HJ:Hid (xs[L.length-1-i]=xs[j]):=hide (by simp only [hjn])
   rw [HJ.out,←hjn] at HRS
   have hij:i<j:=by omega
   have hjn2:j<n:=by omega
   have hin:i<n:=by omega
   have hj1:(j:Int)-1=(n:Int)-1-(i+1:Nat):=by omega
   have HJ1:=hide hj1
   have hc2:∀v,(wr.setCell ⟨g,i,none⟩ v).cell? ⟨g,j,none⟩=some (.int .i64 xs[j]):=fun v=>(set_other _ _ (by omega) _).trans e2
   clear hl hl2 hjn hj1 HJ
   rw [hj]
   generalize xs[i]=vi at *
   generalize xs[j]=vj at *
   go_wp2
   go_region
   go_wp2
   have kk:wr.grownBy ((wr.setCell ⟨g,i,none⟩ (.int .i64 vj)).setCell ⟨g,j,none⟩ (.int .i64 vi)).drew (some g):=⟨rfl,rfl,rfl,by simp [World.setCell,World.drew],fun k _ hk=>(Below.heap_setCell _ _ _ _ (fun e=>hk (by rw [e]))).trans (Below.heap_setCell _ _ _ _ (fun e=>hk (by rw [e])))⟩
   refine ⟨⟨i+1,_,by go_num,by rw [HJ1.out],by omega,HRS,hide (HG.out.andThen kk (fun j hj=>by cases hj;exact Or.inr rfl)),hide ?_⟩,by simp [intOf];omega⟩
   rw [List.map_set,List.map_set]
   exact own_set (own_set HO.out _) _
  ·have HE:Hid (xs=L.reverse):=hide (rev_done HR.out (by have:=hx.out;omega))
   go_wp2
   go_end0
   exact ⟨rfl,HG.out,by rw [←HE.out];exact HO.out⟩
set_option maxHeartbeats 1000000 in
set_option maxRecDepth 100000 in
theorem cloneI_any (b o n c:Nat) (vs:List Int) (L B:Nat) (w:World) (hv:Hid (IntsAt w L B (some ⟨b,o,none⟩) vs)) (hx:Hid (n=vs.length)) (hn:n≤1000000000) (hB:B≤w.heap.size) :
  Calls Tryz.prog 129 #[.slice (some ⟨b,o,none⟩) n c] w fun e w'=>∃v,e=.returned v∧Below w.heap.size w w'∧v≠.slice none 0 0∧w'.ownsRow w.heap.size 2 1 v vs.length (vs.map (Value.int .i64)):=by
 obtain ⟨i0,hi0,hz0,hz1,hz2⟩:=info_parts Tryz.info2'
 have q22:∀(w:World) (a:Option Addr) (n c n' c':Nat),(binOp .eql 26 (.slice a n c) (.slice none n' c')).run Tryz.prog w=.ok (.bool a.isNone) w:=fun w a n c n' c'=>Lib.run_eql_slice_nil w _ _ a n c n' c' Tryz.underlying26
 go_enter Tryz.func129,Tryz.ntmps129
 go_wp2_with (at_builtin;refine wpList_plain rfl fun K hK=>wp_append_ints _ _ 26 rfl w.heap.size 2 i0 Tryz.underlying26 hi0 hz0 hz1 hz2 (.slice (some ⟨w.heap.size,0,none⟩) 0 0) [] rfl (by simpa using World.ownsRow_lit (base:=w.heap.size) (e:=2) (size:=1) w #[] 0 (by simp) (by simp) rfl) (by simp) (some ⟨b,o,none⟩) n c vs L B rfl hx.out (hv.out.keep ((balloc (Below.refl w.heap.size w) _).mono hB)) (by simp;omega) (by simp) ?_)
 intro v1 w1 ho1 hg1 hn1
 have HB:Hid (Below w.heap.size w w1):=hide (hg1.below (by simpa using World.ownsRow_lit (base:=w.heap.size) (e:=2) (size:=1) w #[] 0 (by simp) (by simp) rfl:(w.alloc (.cells #[] 2)).ownsRow w.heap.size 2 1 (.slice (some ⟨w.heap.size,0,none⟩) 0 0) 0 []) (balloc (Below.refl _ _) _) (by simp))
 have HO:=hide ho1
 have HN:=hide hn1
 clear hg1 ho1 hn1
 refine hK _ _ ?_
 go_wp2
 go_ret
 exact ⟨_,rfl,HB.out,HN.out,HO.out⟩
end Go.Proofs.YthgikffcdgpgiaaGreatDoor

namespace Go.Proofs.YthgikffcdgpgiaaGreatDoor
open Go.RowKit
def SameW2 (a b:World):Prop:=a=b
set_option maxHeartbeats 1000000 in
set_option maxRecDepth 100000 in
theorem growNil_any (n:Nat) (w:World) (hn:n≤1000000) :
  Calls Tryz.prog 141 #[.slice none 0 0,.int .i64 n] w fun e w'=>∃v,e=.returned v∧Below w.heap.size w w'∧(0<n→v≠.slice none 0 0)∧w'.ownsRow w.heap.size 2 1 v 0 []:=by
 obtain ⟨i0,hi0,hz0,hz1,hz2⟩:=info_parts Tryz.info2'
 by_cases h0:n=0
 ·subst h0
  go_enter Tryz.func141,Tryz.ntmps141
  go_wp2
  go_ret
  exact ⟨_,rfl,Below.refl _ _,fun h=>absurd h (by omega),World.ownsRow_nil _ _ _ _⟩
 ·have hrz:∀ty,(Builtin.append_ #[26,3] ty #[.slice none 0 0,.int .i64 (n:Int)]).run Tryz.prog w =
    .ok (.slice (some ⟨w.heap.size,0,none⟩) (0+n) (grownCap w (0+n) 0 2)) (w.drew.alloc (.cells (([]:List Value).toArray++Builtin.zeroCells (Value.int .i64 0).cells n++Builtin.zeroCells (Value.int .i64 0).cells (grownCap w (0+n) 0 2 - (0+n))) 2)):=fun ty =>
   Lib.run_append_grow_zeros w 26 3 ty 2 i0 (.int .i64 0) .i64 .i64 Tryz.underlying26 Tryz.underlying3 hi0 hz0 none 0 0 [] (run_firstCells_none w.drew i0.size 0 0 0) n (by omega) (by omega) (by omega) (by omega) (by rw [hz2];omega) (by rw [hz2];exact growslice_fits (by omega) (by omega))
  have hGn:0+n≤grownCap w (0+n) 0 2:=grownCap_ge w _ _ _
  have hGm:=grownCap_le_maxLen w (0+n) 0 2 (by unfold maxLen;omega)
  rw [Nat.zero_add] at hrz hGn hGm
  have HOW:Hid (∀W:World,(W.alloc (.cells (([]:List Value).toArray++Builtin.zeroCells (Value.int .i64 0).cells n++Builtin.zeroCells (Value.int .i64 0).cells (grownCap w n 0 2 - n)) 2)).ownsRow W.heap.size 2 1 (.slice (some ⟨W.heap.size,0,none⟩) 0 (grownCap w n 0 2)) 0 []):=hide (fun W=>World.ownsRow_made W _ _ (Nat.le_refl _) hGm (by simp [size_zeroCells,Value.cells];omega))
  generalize ([]:List Value).toArray++Builtin.zeroCells (Value.int .i64 0).cells n++Builtin.zeroCells (Value.int .i64 0).cells (grownCap w n 0 2 - n)=cells at *
  generalize grownCap w n 0 2=G at *
  unfold maxLen at hGm
  go_enter Tryz.func141,Tryz.ntmps141
  go_wp2_with (at_builtin;refine Lib.wpList_append_run _ rfl _ _ _ _ rfl _ _ rfl rfl _ _ (hrz _) ?_)
  all_goals (go_ret;exact ⟨_,rfl,balloc (Below.refl _ _).drew _,fun _ h=>(by cases h),HOW.out w.drew⟩)
set_option maxHeartbeats 1000000 in
set_option maxRecDepth 100000 in
theorem concat2_any (g n1 c1 n2 c2:Nat) (a1 a2:Option Addr) (xs ys:List Int) (L1 B1 L2 B2:Nat) (w:World) (h1:Hid (IntsAt w L1 B1 a1 xs)) (h2:Hid (IntsAt w L2 B2 a2 ys)) (e1:Hid (n1=xs.length)) (e2:Hid (n2=ys.length)) (hn1:n1≤1000) (hn2:n2≤1000) (hp:0<n1+n2) (hB1:B1≤w.heap.size) (hB2:B2≤w.heap.size) (q0:w.cell? ⟨g,0,none⟩=some (.slice a1 n1 c1)) (q1:w.cell? ⟨g,1,none⟩=some (.slice a2 n2 c2)) :
  Calls Tryz.prog 130 #[.slice (some ⟨g,0,none⟩) 2 2] w fun e w'=>∃v,e=.returned v∧Below w.heap.size w w'∧w'.ownsRow w.heap.size 2 1 v (xs++ys).length ((xs++ys).map (Value.int .i64)):=by
 obtain ⟨i0,hi0,hz0,hz1,hz2⟩:=info_parts Tryz.info2'
 have HGR:=hide (growNil_any (n1+n2) w (by omega))
 go_enter Tryz.func130,Tryz.ntmps130
 go_wp2_with fail
 go_loopw [3,11] (fun s u wr=>SameW2 wr w∧((s=.int .i64 0∧u=.int .i64 0)∨(s=.int .i64 n1∧u=.int .i64 1)∨(s=.int .i64 ((n1+n2:Nat):Int)∧u=.int .i64 2))) (fun _ u _=>2-(intOf u).toNat)
 case atStart=>exact ⟨rfl,Or.inl ⟨rfl,rfl⟩⟩
 case round =>
  obtain ⟨hW,hst⟩:=hrel
  unfold SameW2 at hW
  have hW':=hW.symm
  subst hW'
  clear hW
  rcases hst with ⟨rfl,rfl⟩ | ⟨rfl,rfl⟩ | ⟨rfl,rfl⟩
  ·go_wp2_with fail
   exact ⟨⟨rfl,Or.inr (Or.inl ⟨rfl,rfl⟩)⟩,by simp [intOf]⟩
  ·go_wp2_with fail
   exact ⟨⟨rfl,Or.inr (Or.inr ⟨by go_num,rfl⟩)⟩,by simp [intOf]⟩
  ·go_wp2_with fail
   refine HGR.out.mono ?_
   rintro e w1 ⟨v,rfl,hb,hne,ho⟩
   have HB:=hide hb
   have HO:=hide ho
   have HNE:=hide (hne hp)
   have hgl:g<w.heap.size:=World.block_lt_of_cell? _ _ q0
   clear hb ho hne
   go_wp2_with fail
   go_loopw [6,27] (fun v u wq=>Hid (Below w.heap.size w wq)∧Hid (v≠.slice none 0 0)∧((u=.int .i64 0∧Hid (wq.ownsRow w.heap.size 2 1 v ([]:List Int).length (([]:List Int).map (Value.int .i64))))∨(u=.int .i64 1∧Hid (wq.ownsRow w.heap.size 2 1 v xs.length (xs.map (Value.int .i64))))∨(u=.int .i64 2∧Hid (wq.ownsRow w.heap.size 2 1 v (xs++ys).length ((xs++ys).map (Value.int .i64)))))) (fun _ u _=>2-(intOf u).toNat)
   case atStart=>exact ⟨HB,HNE,Or.inl ⟨rfl,HO⟩⟩
   case round =>
    obtain ⟨HBq,HNq,hst⟩:=hrel
    have qq0:=(HBq.out.cell (p:=⟨g,0,none⟩) hgl).trans q0
    have qq1:=(HBq.out.cell (p:=⟨g,1,none⟩) hgl).trans q1
    have hzq:=HBq.out.size
    have hx1:xs.length≤1000:=by have:=e1.out;omega
    have hy1:ys.length≤1000:=by have:=e2.out;omega
    rcases hst with ⟨rfl,HOq⟩ | ⟨rfl,HOq⟩ | ⟨rfl,HOq⟩
    ·have HI1:=hide (h1.out.keep (HBq.out.mono hB1))
     go_wp2_with (at_builtin;refine wpList_plain rfl fun K hK=>wp_append_ints _ _ 26 rfl w.heap.size 2 i0 Tryz.underlying26 hi0 hz0 hz1 hz2 _ [] rfl HOq.out HNq.out a1 n1 c1 xs L1 B1 rfl e1.out HI1.out (by simp;omega) (by omega) ?_)
     intro v2 w2 ho2 hg2 hn2'
     have HB2:=hide (hg2.below HOq.out HBq.out (by omega))
     have HO2:=hide ho2
     have HN2:=hide hn2'
     clear ho2 hg2 hn2'
     refine hK _ _ ?_
     go_wp2_with fail
     exact ⟨⟨HB2,HN2,Or.inr (Or.inl ⟨rfl,HO2⟩)⟩,by simp [intOf]⟩
    ·have HI2:=hide (h2.out.keep (HBq.out.mono hB2))
     go_wp2_with (at_builtin;refine wpList_plain rfl fun K hK=>wp_append_ints _ _ 26 rfl w.heap.size 2 i0 Tryz.underlying26 hi0 hz0 hz1 hz2 _ xs rfl HOq.out HNq.out a2 n2 c2 ys L2 B2 rfl e2.out HI2.out (by omega) (by omega) ?_)
     intro v2 w2 ho2 hg2 hn2'
     have HB2:=hide (hg2.below HOq.out HBq.out (by omega))
     have HO2:=hide ho2
     have HN2:=hide hn2'
     clear ho2 hg2 hn2'
     refine hK _ _ ?_
     go_wp2_with fail
     exact ⟨⟨HB2,HN2,Or.inr (Or.inr ⟨rfl,hide (by rw [List.length_append,List.map_append];exact HO2.out)⟩)⟩,by simp [intOf]⟩
    ·go_wp2_with fail
     go_ret
     exact ⟨_,rfl,HBq.out,HOq.out⟩
end Go.Proofs.YthgikffcdgpgiaaGreatDoor

namespace Go.Proofs.YthgikffcdgpgiaaGreatDoor
open Go.RowKit
structure FrS (w w':World) (n:Nat) (gs:Nat→Nat):Prop where
 os:w'.os=w.os
 tape:w'.tape=w.tape
 output:w'.output=w.output
 size:w.heap.size≤w'.heap.size
 block:∀k,k<w.heap.size→(∀i,i<n→k≠gs i)→w'.heap[k]?=w.heap[k]?
theorem FrS.refl (w:World) (n:Nat) (gs:Nat→Nat):FrS w w n gs:=⟨rfl,rfl,rfl,Nat.le_refl _,fun _ _ _=>rfl⟩
theorem FrS.below {w w1 w2:World} {n:Nat} {gs:Nat→Nat} (h:FrS w w1 n gs) (k:Below w1.heap.size w1 w2):FrS w w2 n gs:=⟨k.os.trans h.os,k.tape.trans h.tape,k.output.trans h.output,Nat.le_trans h.size k.size,fun j h1 h2=>(k.block j (Nat.lt_of_lt_of_le h1 h.size)).trans (h.block j h1 h2)⟩
theorem FrS.grown {w w1 w2:World} {n b:Nat} {gs:Nat→Nat} (h:FrS w w1 n gs) (k:w1.grownBy w2 (some (gs b))) (hb:b<n):FrS w w2 n gs:=⟨k.os.trans h.os,k.tape.trans h.tape,k.output.trans h.output,Nat.le_trans h.size k.size,fun j h1 h2=>(k.block j (Nat.lt_of_lt_of_le h1 h.size) (fun e=>h2 b hb (by injection e))).trans (h.block j h1 h2)⟩
theorem SetsAt.keep {w w':World} {G n K:Nat} {gs:Nat→Nat} {Ws:Nat→Nat→Nat} (h:SetsAt w G n K gs Ws) (k:Below w.heap.size w w'):SetsAt w' G n K gs Ws :=
 ⟨h.row.of_block (k.block _ h.row.lt),fun i hi=>(h.set i hi).of_block (k.block _ (h.set i hi).lt),h.inj,h.out⟩
theorem SetsAt.wrote {w w':World} {G n K b:Nat} {gs:Nat→Nat} {Ws:Nat→Nat→Nat} {W':Nat→Nat} (h:SetsAt w G n K gs Ws) (hb:b<n) (k:w.grownBy w' (some (gs b))) (hr:w'.rowIs (gs b) 133 K (fun j=>.int .u64 (W' j))):SetsAt w' G n K gs (fun i=>if i=b then W' else Ws i):=by
 refine ⟨h.row.of_block (k.block _ h.row.lt (fun e=>h.out b hb (by injection e with e;exact e.symm))),fun i hi=>?_,h.inj,h.out⟩
 by_cases e:i=b
 ·subst e
  simpa using hr
 ·simp only [if_neg e]
  exact (h.set i hi).of_block (k.block _ (h.set i hi).lt (fun e2=>e (by injection e2 with e2;exact h.inj i b hi hb e2)))
theorem SetsAt.apart {w w':World} {G2 n K:Nat} {gs gs2:Nat→Nat} {T:Nat→Nat→Nat} (h:SetsAt w G2 n K gs2 T) (f:FrS w w' n gs) (h1:∀i,i<n→G2≠gs i) (h2:∀i j,i<n→j<n→gs2 i≠gs j):SetsAt w' G2 n K gs2 T :=
 ⟨h.row.of_block (f.block _ h.row.lt h1),fun i hi=>(h.set i hi).of_block (f.block _ (h.set i hi).lt (fun j hj=>h2 i j hi hj)),h.inj,h.out⟩
def natI (l:List Nat):List Int:=l.map Int.ofNat
set_option maxHeartbeats 4000000 in
set_option maxRecDepth 100000 in
theorem spread_blockNo (b0 o0 n0 c0:Nat) (ord:List Nat) (L1 B1:Nat) (sa:Option Addr) (ns cs:Nat) (src:List (List Nat)) (L2 B2:Nat) (G G2 n K:Nat) (gs gs2:Nat→Nat) (I T:Nat→Nat→Nat) (w:World)
  (hord:Hid (IntsAt w L1 B1 (some ⟨b0,o0,none⟩) (natI ord))) (h0:Hid (n0=ord.length)) (hn0:n0≤1000) (hn0':0<n0) (hsrc:Hid (IntssAt w L2 B2 sa (src.map natI))) (hs:Hid (ns=src.length)) (hns:Hid (src.length=n)) (hK:K≤100)
  (hB1:B1≤w.heap.size) (hB2:B2≤w.heap.size) (HI:Hid (SetsAt w G n K gs I)) (HT:Hid (SetsAt w G2 n K gs2 T)) (hwI:Hid (AllWd I)) (hwT:Hid (AllWd T))
  (d2:Hid (∀i,i<n→¬(L2≤gs i∧gs i<B2))) (d3:Hid (∀i,i<n→G2≠gs i)) (d4:Hid (∀i j,i<n→j<n→gs2 i≠gs j))
  (ho:Hid (∀b∈ord,b<n)) (hsr:Hid (∀l∈src,l.length≤2000∧∀t∈l,t<n)) :
  Calls Tryz.prog 143 #[.slice (some ⟨b0,o0,none⟩) n0 c0,.slice sa ns cs,.slice (some ⟨G,0,none⟩) n n,.slice (some ⟨G2,0,none⟩) n n] w fun e w'=>e=.returned (.tuple #[])∧FrS w w' n gs∧∃Ws,AllWd Ws∧SetsAt w' G n K gs Ws∧∀b,b<n→∀x,x<64*K→(hasN (Ws b) x=true↔Sp I T (·∈ord) (fun b=>src.getD b []) b x):=by
 go_enter Tryz.func143,Tryz.ntmps143
 go_wp2_with fail
 go_step3
 go_wp2_with fail
 refine (cloneI_any b0 o0 n0 c0 (natI ord) L1 B1 w hord (hide (by have:=h0.out;simp [natI];omega)) (by omega) hB1).mono ?_
 rintro e w1 ⟨v1,rfl,hb1,hne1,ho1⟩
 obtain ⟨g1,k1,rfl,hg1,hk1⟩:=own_some' ho1 (by have:=h0.out;simp [natI];omega)
 have HB1:=hide hb1
 have HO1:=hide ho1
 have hln:(natI ord).length=n0:=by have:=h0.out;simp [natI];omega
 rw [hln] at HO1
 clear hb1 ho1 hne1
 go_wp2_with fail
 have hg1z:g1<w1.heap.size:=hg1.2
 have hg1b:w.heap.size≤g1:=hg1.1
 refine (reverse_any g1 n0 k1 w.heap.size (natI ord) w1 (by omega) (hide hln.symm) HO1).mono ?_
 rintro e w2 ⟨rfl,hgr2,ho2⟩
 have HB2:Hid (Below w.heap.size w w2):=hide (HB1.out.grown hgr2 HB1.out.size (fun k e=>by cases e;omega))
 have HO2:=hide ho2
 clear hgr2 ho2 HO1 HB1
 go_wp2_with fail
 have HWA:Hid (Below w2.heap.size w2 (w2.alloc (.cells #[.slice (some ⟨b0,o0,none⟩) n0 c0,.slice (some ⟨g1,0,none⟩) n0 k1] 26))):=hide (balloc (Below.refl _ _) _)
 have hq0:(w2.alloc (.cells #[.slice (some ⟨b0,o0,none⟩) n0 c0,.slice (some ⟨g1,0,none⟩) n0 k1] 26)).cell? ⟨w2.heap.size,0,none⟩=some (.slice (some ⟨b0,o0,none⟩) n0 c0):=by simp
 have hq1:(w2.alloc (.cells #[.slice (some ⟨b0,o0,none⟩) n0 c0,.slice (some ⟨g1,0,none⟩) n0 k1] 26)).cell? ⟨w2.heap.size,1,none⟩=some (.slice (some ⟨g1,0,none⟩) n0 k1):=by simp
 generalize w2.alloc (.cells #[.slice (some ⟨b0,o0,none⟩) n0 c0,.slice (some ⟨g1,0,none⟩) n0 k1] 26)=wa at *
 have HBA:Hid (Below w.heap.size w wa):=hide (bnext HB2.out HWA.out)
 have hlr:(natI ord).reverse.length=n0:=by rw [List.length_reverse];exact hln
 have HIR:Hid (IntsAt wa w.heap.size w2.heap.size (some ⟨g1,0,none⟩) (natI ord).reverse):=hide (by
  have h:=HO2.out
  rw [←hlr] at h
  obtain ⟨a',c',e',hi'⟩:=ints_owned h
  injection e' with e1
  subst e1
  exact hi'.keep HWA.out)
 refine (concat2_any w2.heap.size n0 c0 n0 k1 _ _ (natI ord) (natI ord).reverse L1 B1 w.heap.size w2.heap.size wa (hide (hord.out.keep (HBA.out.mono hB1))) HIR (hide hln.symm) (hide hlr.symm) hn0 hn0 (by omega) (by have:=HBA.out.size;omega) HWA.out.size hq0 hq1).mono ?_
 rintro e w3 ⟨v3,rfl,hb3,ho3⟩
 have HB3:Hid (Below w.heap.size w w3):=hide (bnext HBA.out hb3)
 have eR:natI ord++(natI ord).reverse=natI (ord++ord.reverse):=by simp [natI]
 rw [eR] at ho3
 have hRl:(ord++ord.reverse).length=2*n0:=by have:=h0.out;simp;omega
 have hRo:Hid (∀b,b∈ord++ord.reverse↔b∈ord):=hide (fun b=>by simp)
 generalize ord++ord.reverse=R at *
 have hnl:(natI R).length=R.length:=by simp [natI]
 obtain ⟨a3,c3,e3,hi3⟩:=ints_owned ho3
 rw [hnl] at e3
 subst e3
 have HI3:=hide hi3
 have HZ3:Hid (wa.heap.size≤w3.heap.size∧w.heap.size≤wa.heap.size):=hide ⟨hb3.size,HBA.out.size⟩
 clear hb3 ho3 eR hq0 hq1 HIR HWA HO2 HB2 hi3
 have HS3:=hide (HI.out.keep (HB3.out))
 have HT3:=hide (HT.out.keep (HB3.out))
 have hR0:0<R.length:=by omega
 have hR1:R.length≤2000:=by omega
 clear hRl hln hlr hnl
 have HGS:Hid (∀i,i<n→gs i<w.heap.size):=hide (fun i hi=>(HI.out.set i hi).lt)
 go_wp2_with fail
 go_step3
 go_wp2_with fail
 go_loopg [10] (misN I K n) (fun k qv wr=>∃(q:Nat) (W:Nat→Nat→Nat),qv=.int .i64 q∧q<R.length∧Hid (FrS w3 wr n gs)∧Hid (SetsAt wr G n K gs W)∧Hid (AllWd W)∧Hid (misN W K n≤k)∧Hid (∀b x,hasN (I b) x=true→hasN (W b) x=true)∧Hid (∀b x,hasN (W b) x=true→Sp I T (·∈ord) (fun b=>src.getD b []) b x)∧Hid (ClQ T K (fun b=>src.getD b []) W R q 0))
 case atStart=>exact ⟨0,I,rfl,hR0,hide (FrS.refl _ _ _),HS3,hwI,hide (Nat.le_refl _),hide (fun _ _ h=>h),hide (fun _ _ h=>Sp.init h),hide clq_none⟩
 case round =>
  obtain ⟨q0,W0,rfl,hq0,HF0,HS0,HW0,HM0,HI0,HSo0,HC0⟩:=hrel
  go_wp2_with fail
  generalize wr=wo at *
  go_loopw [10,26] (fun qv u wr=>∃(q p:Nat) (W:Nat→Nat→Nat),qv=.int .i64 q∧q<R.length∧u=.int .i64 p∧p≤R.length∧Hid (FrS w3 wr n gs)∧Hid (SetsAt wr G n K gs W)∧Hid (AllWd W)∧Hid (misN W K n<gk∨(misN W K n≤gk∧q=q0+p))∧Hid (∀b x,hasN (I b) x=true→hasN (W b) x=true)∧Hid (∀b x,hasN (W b) x=true→Sp I T (·∈ord) (fun b=>src.getD b []) b x)∧Hid (ClQ T K (fun b=>src.getD b []) W R q p)) (fun _ u _=>R.length-(intOf u).toNat)
  case atStart=>exact ⟨q0,0,W0,rfl,hq0,rfl,Nat.zero_le _,HF0,HS0,HW0,hide (Or.inr ⟨HM0.out,by omega⟩),HI0,HSo0,HC0⟩
  case round =>
   obtain ⟨q,p,W,rfl,hq,rfl,hp,HF,HS,HW,HM,HIm,HSo,HC⟩:=hrel
   by_cases hlt:p<R.length
   ·obtain ⟨br,or_,rfl,hbr,er3⟩:=HI3.out p (by simpa [natI] using hlt)
    have HFW:Hid (FrS w wr n gs):=hide ⟨HF.out.os.trans HB3.out.os,HF.out.tape.trans HB3.out.tape,HF.out.output.trans HB3.out.output,Nat.le_trans HB3.out.size HF.out.size,fun k h1 h2=>(HF.out.block k (Nat.lt_of_lt_of_le h1 HB3.out.size) h2).trans (HB3.out.block k h1)⟩
    have er:=(cell_of (HF.out.block br hbr.2 (fun i hi e=>by have:=HGS.out i hi;have:=HZ3.out;omega))).trans er3
    have hRp:(natI R)[p]'(by simpa [natI] using hlt)=((R[p]:Nat):Int):=by simp [natI]
    rw [hRp] at er
    have hbn:R[p]<n:=ho.out _ ((hRo.out _).1 (List.getElem_mem hlt))
    have hbo:Hid (R[p]∈ord):=hide ((hRo.out _).1 (List.getElem_mem hlt))
    have hbs:R[p]<src.length:=by have:=hns.out;omega
    obtain ⟨bs,os,hsa,hbs2,as',cs',es,his⟩:=hsrc.out R[p] (by simpa using hbs)
    subst hsa
    have esr:=(cell_of (HFW.out.block bs (by omega) (fun i hi e=>d2.out i hi (by omega)))).trans es
    have hsl:((src.map natI)[R[p]]'(by simpa using hbs)).length=src[R[p]].length:=by simp [natI]
    rw [hsl] at esr
    have HSL:=hide (hsr.out src[R[p]] (List.getElem_mem hbs))
    have hls:=HSL.out.1
    have HGD:Hid (src.getD R[p] []=src[R[p]]):=hide (by simp [hbs])
    have HCN:Hid (∀W',(∀i x,x<64*K→hasN (W' i) x=hasN (W i) x)→ClB T K (fun b=>src.getD b []) W R[p]→ClQ T K (fun b=>src.getD b []) W' R (q+1) (p+1)):=hide (fun W' e hb=>clq_next HC.out e hlt hb)
    have hbsn:R[p]<ns:=by have:=hs.out;omega
    have HISw:Hid (IntsAt w L2 B2 as' (natI src[R[p]])):=hide (by simpa using his)
    clear er3 es his hRp hsl
    generalize hbb:R[p]=b at *
    clear hbb
    generalize src[b]=sl at *
    go_wp2_with fail
    generalize wr=wo2 at *
    go_loopw [13,35] (fun gv u wq=>∃r:Nat,r≤sl.length∧u=.int .i64 r∧gv=.bool (takesN T K b (sl.take r) (W,false)).2∧Hid (FrS w3 wq n gs)∧Hid (SetsAt wq G n K gs (takesN T K b (sl.take r) (W,false)).1)) (fun _ u _=>sl.length-(intOf u).toNat)
    case atStart=>exact ⟨0,Nat.zero_le _,rfl,rfl,HF,HS⟩
    case round =>
     obtain ⟨r,hr,rfl,rfl,HFq,HSq⟩:=hrel
     by_cases hlr:r<sl.length
     ·have HFW2:Hid (FrS w wr n gs):=hide ⟨HFq.out.os.trans HB3.out.os,HFq.out.tape.trans HB3.out.tape,HFq.out.output.trans HB3.out.output,Nat.le_trans HB3.out.size HFq.out.size,fun k h1 h2=>(HFq.out.block k (Nat.lt_of_lt_of_le h1 HB3.out.size) h2).trans (HB3.out.block k h1)⟩
      obtain ⟨b5,o5,rfl,hb5,e5w⟩:=HISw.out r (by simpa [natI] using hlr)
      have e5:=(cell_of (HFW2.out.block b5 (by omega) (fun i hi e=>d2.out i hi (by omega)))).trans e5w
      have hsr5:(natI sl)[r]'(by simpa [natI] using hlr)=((sl[r]:Nat):Int):=by simp [natI]
      rw [hsr5] at e5
      have hsn:sl[r]<n:=HSL.out.2 _ (List.getElem_mem hlr)
      have HTQ:=hide (HT3.out.apart HFq.out d3.out d4.out)
      have HTK:=hide (takes_take (T:=T) (K:=K) (b:=b) hlr (W,false))
      have HWq:=hide (takes_wd (T:=T) (K:=K) (b:=b) (sl.take r) (W,false) HW.out)
      clear e5w hsr5
      generalize sl[r]=s at *
      generalize takesN T K b (sl.take r) (W,false)=sq at *
      obtain ⟨Wq,gq⟩:=sq
      dsimp only at *
      have k1:=HSq.out.row.cell hbn
      have k2:=HSq.out.row.cell hsn
      have k3:=HTQ.out.row.cell hbn
      have HAB:=hide (addBut_blockNo (gs b) (gs s) (gs2 b) K (Wq b) (Wq s) (T b) wr.drew (hide (HWq.out b)) (hide (HWq.out s)) (hide (hwT.out b)) (by omega) (hide (HSq.out.set b hbn)) (hide (HSq.out.set s hsn)) (hide (HTQ.out.set b hbn)) (d4.out b b hbn hbn) (hide (fun e=>by rw [HSq.out.inj s b hsn hbn e])))
      have HSD:Hid (SetsAt wr.drew G n K gs Wq):=hide ⟨HSq.out.row,HSq.out.set,HSq.out.inj,HSq.out.out⟩
      have HFD:Hid (FrS w3 wr.drew n gs):=hide ⟨HFq.out.os,HFq.out.tape,HFq.out.output,HFq.out.size,HFq.out.block⟩
      have HLL:Hid (G<wr.heap.size∧G2<wr.heap.size):=hide ⟨HSq.out.row.lt,HTQ.out.row.lt⟩
      generalize grewN (Wq b) (Wq s) (T b) K=g5 at *
      cases g5 with
      | true =>
       go_wp2_with fail
       refine wp_region_held_drew (S:=(fun w'=>w'.cell? ⟨G,b,none⟩=some (.slice (some ⟨gs b,0,none⟩) K K)∧w'.cell? ⟨G,s,none⟩=some (.slice (some ⟨gs s,0,none⟩) K K)∧w'.cell? ⟨G2,b,none⟩=some (.slice (some ⟨gs2 b,0,none⟩) K K))) (by kernel_rfl) (by (try dsimp only);go_keep) (fun hHeld=>?_)
       refine tkH 0 rfl (v:=?_) ?_
       simp only [Act.put,xA,xB,xD,xE,xF]
       refine tkH 1 rfl (v:=?_) ?_
       simp only [Act.put,xA,xB,xC,xD,xE,xF]
       refine tkH 2 rfl (v:=?_) ?_
       simp only [Act.put,xA,xB,xC,xD,xE,xF]
       refine tkH 3 rfl (v:=?_) ?_
       simp only [Act.put,xA,xB,xC,xD,xE,xF]
       refine tkH 4 rfl (v:=?_) ?_
       simp only [Act.put,xA,xB,xC,xD,xE,xF]
       refine tkH 5 rfl (v:=?_) ?_
       simp only [Act.put,xA,xB,xC,xD,xE,xF]
       refine tkH 6 rfl (v:=?_) ?_
       simp only [Act.put,xA,xB,xC,xD,xE,xF]
       refine tkH 7 rfl (v:=?_) ?_
       simp only [Act.put,xA,xB,xC,xD,xE,xF]
       refine tkH 8 rfl (v:=?_) ?_
       simp only [Act.put,xA,xB,xC,xD,xE,xF]
       refine tkH 9 rfl (v:=?_) ?_
       simp only [Act.put,xA,xB,xC,xD,xE,xF]
       refine tkH 10 rfl (v:=?_) ?_
       simp only [Act.put,xA,xB,xC,xD,xE,xF]
       refine tkH 11 rfl (v:=?_) ?_
       simp only [Act.put,xA,xB,xC,xD,xE,xF]
       refine wpAnyH_ready (rs:=[12]) (by kernel_rfl) (by simp) ?_
       refine AllReadyH.cons rfl (fun K hK=>?_) AllReadyH.nil
       go_simp
       go_at_call 145
       refine HAB.out.mono ?_
       rintro e w5 ⟨rfl,hg5,hr5⟩
       have HS5:=hide (HSD.out.wrote hbn hg5 hr5)
       have HF5:=hide (HFD.out.grown hg5 hbn)
       have j1:=(cell_of (hg5.block G HLL.out.1 (fun e=>HSq.out.out b hbn (by injection e with e;exact e.symm)))).trans k1
       have j2:=(cell_of (hg5.block G HLL.out.1 (fun e=>HSq.out.out b hbn (by injection e with e;exact e.symm)))).trans k2
       have j3:=(cell_of (hg5.block G2 HLL.out.2 (fun e=>d3.out b hbn (by injection e)))).trans k3
       clear hg5 hr5 HAB
       refine hK.out _ _ ⟨j1,j2,j3⟩ (fun hHeld=>?_)
       clear hK
       try simp only [Act.put,xA,xB,xC,xD,xE,xF]
       refine tkH 13 rfl (v:=?_) ?_
       simp only [Act.put,xA,xB,xC,xD,xE,xF]
       refine wpAnyH_take (i:=14) (v:=undef) rfl (by kernel_rfl) (by kernel_rfl) (by kernel_rfl) (fun _ _ _ h=>h) (Or.inr ⟨by rfl,rfl⟩) (by assumption) ?_
       simp only [Act.put,xA,xB,xC,xD,xE,xF]
       refine tkH 15 rfl (v:=?_) ?_
       simp only [Act.put,xA,xB,xC,xD,xE,xF]
       refine tkH 16 rfl (v:=?_) ?_
       simp only [Act.put,xA,xB,xC,xD,xE,xF]
       refine wpAnyH_done (by kernel_rfl) ?_ _
       go_wp2_with fail
       exact ⟨⟨r+1,by omega,by go_num,by rw [HTK.out];rfl,hide HF5.out,hide (by rw [HTK.out];exact HS5.out)⟩,by simp [intOf];omega⟩
      | false =>
       go_wp2_with fail
       refine wp_region_held_drew (S:=(fun w'=>w'.cell? ⟨G,b,none⟩=some (.slice (some ⟨gs b,0,none⟩) K K)∧w'.cell? ⟨G,s,none⟩=some (.slice (some ⟨gs s,0,none⟩) K K)∧w'.cell? ⟨G2,b,none⟩=some (.slice (some ⟨gs2 b,0,none⟩) K K))) (by kernel_rfl) (by (try dsimp only);go_keep) (fun hHeld=>?_)
       refine tkH 0 rfl (v:=?_) ?_
       simp only [Act.put,xA,xB,xD,xE,xF]
       refine tkH 1 rfl (v:=?_) ?_
       simp only [Act.put,xA,xB,xC,xD,xE,xF]
       refine tkH 2 rfl (v:=?_) ?_
       simp only [Act.put,xA,xB,xC,xD,xE,xF]
       refine tkH 3 rfl (v:=?_) ?_
       simp only [Act.put,xA,xB,xC,xD,xE,xF]
       refine tkH 4 rfl (v:=?_) ?_
       simp only [Act.put,xA,xB,xC,xD,xE,xF]
       refine tkH 5 rfl (v:=?_) ?_
       simp only [Act.put,xA,xB,xC,xD,xE,xF]
       refine tkH 6 rfl (v:=?_) ?_
       simp only [Act.put,xA,xB,xC,xD,xE,xF]
       refine tkH 7 rfl (v:=?_) ?_
       simp only [Act.put,xA,xB,xC,xD,xE,xF]
       refine tkH 8 rfl (v:=?_) ?_
       simp only [Act.put,xA,xB,xC,xD,xE,xF]
       refine tkH 9 rfl (v:=?_) ?_
       simp only [Act.put,xA,xB,xC,xD,xE,xF]
       refine tkH 10 rfl (v:=?_) ?_
       simp only [Act.put,xA,xB,xC,xD,xE,xF]
       refine tkH 11 rfl (v:=?_) ?_
       simp only [Act.put,xA,xB,xC,xD,xE,xF]
       refine wpAnyH_ready (rs:=[12]) (by kernel_rfl) (by simp) ?_
       refine AllReadyH.cons rfl (fun K hK=>?_) AllReadyH.nil
       go_simp
       go_at_call 145
       refine HAB.out.mono ?_
       rintro e w5 ⟨rfl,hg5,hr5⟩
       have HS5:=hide (HSD.out.wrote hbn hg5 hr5)
       have HF5:=hide (HFD.out.grown hg5 hbn)
       have j1:=(cell_of (hg5.block G HLL.out.1 (fun e=>HSq.out.out b hbn (by injection e with e;exact e.symm)))).trans k1
       have j2:=(cell_of (hg5.block G HLL.out.1 (fun e=>HSq.out.out b hbn (by injection e with e;exact e.symm)))).trans k2
       have j3:=(cell_of (hg5.block G2 HLL.out.2 (fun e=>d3.out b hbn (by injection e)))).trans k3
       clear hg5 hr5 HAB
       refine hK.out _ _ ⟨j1,j2,j3⟩ (fun hHeld=>?_)
       clear hK
       try simp only [Act.put,xA,xB,xC,xD,xE,xF]
       refine tkH 13 rfl (v:=?_) ?_
       simp only [Act.put,xA,xB,xC,xD,xE,xF]
       refine tkH 14 rfl (v:=?_) ?_
       simp only [Act.put,xA,xB,xC,xD,xE,xF]
       refine tkH 15 rfl (v:=?_) ?_
       simp only [Act.put,xA,xB,xC,xD,xE,xF]
       refine tkH 16 rfl (v:=?_) ?_
       simp only [Act.put,xA,xB,xC,xD,xE,xF]
       refine wpAnyH_done (by kernel_rfl) ?_ _
       go_wp2_with fail
       exact ⟨⟨r+1,by omega,by go_num,by rw [HTK.out];rfl,hide HF5.out,hide (by rw [HTK.out];exact HS5.out)⟩,by simp [intOf];omega⟩
     ·have hre:r=sl.length:=by omega
      have HTE:Hid (sl.take r=sl):=hide (List.take_of_length_le (by omega))
      rw [HTE.out] at HSq ⊢
      clear hre
      have HW2:=hide (takes_wd (T:=T) (K:=K) (b:=b) sl (W,false) HW.out)
      have HMo:=hide (takes_mono (T:=T) (K:=K) (b:=b) hwT.out sl (W,false) HW.out)
      have HSd:=hide (takes_sound (I:=I) (T:=T) (K:=K) (b:=b) (ord:=(·∈ord)) (src:=fun b=>src.getD b []) hwT.out hbo.out sl (W,false) HW.out (fun t ht=>by show t∈src.getD b [];rw [HGD.out];exact ht) HSo.out)
      have HQu:=hide (takes_quiet (T:=T) (K:=K) (b:=b) hwT.out sl (W,false) HW.out)
      have HGw:=hide (takes_grew (T:=T) (K:=K) (b:=b) hwT.out sl (W,false) HW.out rfl)
      have HOt:=hide (fun i (hi:i≠b)=>takes_other (T:=T) (K:=K) hi sl (W,false))
      generalize takesN T K b sl (W,false)=sq at *
      obtain ⟨W2,g2'⟩:=sq
      dsimp only at *
      have HIm2:Hid (∀b x,hasN (I b) x=true→hasN (W2 b) x=true):=hide (fun b x h=>HMo.out b x (HIm.out b x h))
      cases g2' with
      | true =>
       have HML:=hide (mis_less (K:=K) HOt.out (HGw.out rfl) n hbn)
       go_wp2_with fail
       exact ⟨⟨0,p+1,W2,rfl,hR0,by go_num,by omega,HFq,HSq,HW2,hide (Or.inl (by have:=HML.out;rcases HM.out with h | h<;>omega)),HIm2,HSd,hide clq_none⟩,by simp [intOf];omega⟩
      | false =>
       obtain ⟨hsame,hcl⟩:=HQu.out rfl
       have HCQ:Hid (ClQ T K (fun b=>src.getD b []) W2 R (q+1) (p+1)):=hide (HCN.out W2 hsame (fun t ht x hx=>by have ht':t∈src.getD b []:=ht;rw [HGD.out] at ht';exact hcl t ht' x hx))
       have HMS:Hid (misN W2 K n=misN W K n):=hide (mis_same n (fun i _=>unseen_congr _ (fun x hx=>hsame i x hx)))
       clear hsame hcl
       by_cases hqe:q+1=R.length
       ·have hqb:(((q:Int)+1)==(R.length:Int))=true:=by simp;omega
        have HCA:Hid (ClQ T K (fun b=>src.getD b []) W2 R R.length (p+1)):=hide (by rw [←hqe];exact HCQ.out)
        clear hqe
        go_wp2_with fail
        go_end0
        refine ⟨rfl,⟨HFq.out.os.trans HB3.out.os,HFq.out.tape.trans HB3.out.tape,HFq.out.output.trans HB3.out.output,Nat.le_trans HB3.out.size HFq.out.size,fun k h1 h2=>(HFq.out.block k (Nat.lt_of_lt_of_le h1 HB3.out.size) h2).trans (HB3.out.block k h1)⟩,W2,HW2.out,HSq.out,fun b _ x hx=>?_⟩
        exact spread_done HIm2.out HSd.out (fun b hb t ht x hx h1 h2=>clq_all HCA.out (by omega) ((hRo.out b).2 hb) t ht x hx h1 h2) b x hx
       ·have hqb:(((q:Int)+1)==(R.length:Int))=false:=by simp;omega
        go_wp2_with fail
        exact ⟨⟨q+1,p+1,W2,by go_num,by omega,by go_num,by omega,HFq,HSq,HW2,hide (by rw [HMS.out];rcases HM.out with h | ⟨h,h'⟩;exact Or.inl h;exact Or.inr ⟨h,by omega⟩),HIm2,HSd,HCQ⟩,by simp [intOf];omega⟩
   ·have hpe:p=R.length:=by omega
    subst hpe
    go_wp2_with fail
    go_roundg (misN W K n)
    case measure=>rcases HM.out with h | ⟨_,h⟩;exact h;omega
    case rel=>exact ⟨q,W,rfl,hq,HF,HS,HW,hide (Nat.le_refl _),HIm,HSo,hide (clq_wrap HC.out hq)⟩
end Go.Proofs.YthgikffcdgpgiaaGreatDoor
