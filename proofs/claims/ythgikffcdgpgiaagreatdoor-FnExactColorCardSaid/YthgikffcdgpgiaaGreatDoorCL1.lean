import Derived.Test.YthgikffcdgpgiaaGreatDoorWS0
import Derived.Test.YthgikffcdgpgiaaGreatDoorDR1
import Derived.Test.YthgikffcdgpgiaaGreatDoorW5
import Derived.Laws.CopyOwn
import Derived.Test.YthgikffcdgpgiaaGreatDoorDFP
import Derived.Test.YthgikffcdgpgiaaGreatDoorDM4
import Derived.Test.YthgikffcdgpgiaaGreatDoorSV0
import Derived.Test.YthgikffcdgpgiaaGreatDoorPL1
namespace Go.Proofs.YthgikffcdgpgiaaGreatDoor
open Go.RowKit
set_option maxHeartbeats 1000000 in
set_option maxRecDepth 100000 in
theorem cloneU_any (g K C:Nat) (W:Nat→Nat) (w:World) (hr:Hid (WsAt w g K C W)) (hK:K≤1000) :
  Calls Tryz.prog 110 #[.slice (some ⟨g,0,none⟩) K C] w fun e w'=>∃g' C',e=.returned (.slice (some ⟨g',0,none⟩) K C')∧w.heap.size≤g'∧Below w.heap.size w w'∧WsAt w' g' K C' W:=by
 obtain ⟨i0,hi0,hz0,hz1,hz2⟩:=info_parts Tryz.infoU64valueNo
 have q22:∀(w:World) (a:Option Addr) (n c n' c':Nat),(binOp .eql 73 (.slice a n c) (.slice none n' c')).run Tryz.prog w=.ok (.bool a.isNone) w:=fun w a n c n' c'=>Lib.run_eql_slice_nil w _ _ a n c n' c' Tryz.underlying73
 have hg:=hr.out.lt
 have HO0:Hid ((w.alloc (.cells #[] 133)).ownsRow w.heap.size 133 1 (.slice (some ⟨w.heap.size,0,none⟩) 0 0) 0 []):=hide (World.ownsRow_lit (base:=w.heap.size) (e:=133) (size:=1) w #[] 0 (by simp) (by simp) rfl)
 go_enter Tryz.func110,Tryz.ntmps110
 go_wp2_with (at_builtin;refine wpList_append_own _ rfl _ _ 73 rfl w.heap.size 133 i0 (.int .u64 0) 1 8 Tryz.underlying73 hi0 hz0 hz1 hz2 rfl (by decide) _ _ _ rfl HO0.out ⟨g,0,none⟩ K C ((List.range K).map fun i=>Value.int .u64 (W i:Int)) rfl ?c0 ?c1 ?c2 ?c3 ?c4 ?c5 ?_)
 case c0=>simp
 case c1 =>
  intro j u hj
  rw [List.getElem?_map] at hj
  by_cases e:j<K
  ·rw [List.getElem?_range e] at hj
   simp at hj
   subst hj
   have:=(hr.out.alloc (.cells #[] 133)).cell e
   have e2:(⟨g,0,none⟩:Addr).add j=⟨g,j,none⟩:=by rw [Addr.add_lit];simp
   rw [e2]
   exact this
  ·rw [List.getElem?_eq_none (by simp;omega)] at hj
   cases hj
 case c2 =>
  intro u hu
  obtain ⟨i,_,rfl⟩:=List.mem_map.1 hu
  rfl
 case c3=>unfold maxLen;omega
 case c4=>omega
 case c5=>simp
 intro v1 w1 hown1 hgrow1 hnil
 have hvn:v1≠.slice none 0 0:=by simpa using hnil
 have hb:=grown_below (balloc (Below.refl w.heap.size w) _) hgrow1 HO0.out (Nat.le_refl _) (by simp)
 have hown2:w1.ownsRow w.heap.size 133 1 v1 ((List.range K).map W).length (((List.range K).map W).map fun x:Nat=>Value.int .u64 (x:Int)):=by
  have e:(((List.range K).map W).map fun x:Nat=>Value.int .u64 (x:Int))=(List.range K).map fun i=>Value.int .u64 (W i:Int):=by simp
  rw [e]
  simpa using hown1
 obtain ⟨g',C',rfl,hg',hw'⟩:=WsAt.of_own hown2 hvn
 have HB:=hide hb
 have HW:Hid (WsAt w1 g' K C' W):=hide (by
  have e:((List.range K).map W).length=K:=by simp
  rw [e] at hw'
  exact hw'.congr (fun i hi=>by simp [hi]))
 have e:((List.range K).map W).length=K:=by simp
 rw [e]
 clear hb hown1 hown2 hgrow1 hnil hvn hw' e
 go_wp2
 go_ret
 exact ⟨_,_,rfl,hg',HB.out,HW.out⟩
set_option maxHeartbeats 1000000 in
theorem clone_valueNo (g K C:Nat) (W:Nat→Nat) (w:World) (hr:Hid (WsAt w g K C W)) (hK:K≤1000) :
  Calls Tryz.prog 61 #[.agg #[.slice (some ⟨g,0,none⟩) K C]] w fun e w'=>∃g' C',e=.returned (.agg #[.slice (some ⟨g',0,none⟩) K C'])∧w.heap.size≤g'∧Below w.heap.size w w'∧WsAt w' g' K C' W:=by
 go_enter Tryz.func61,Tryz.ntmps61
 go_wp2_with fail
 have HA:Hid (Below w.heap.size w ((w.alloc (.cells #[.slice (some ⟨g,0,none⟩) K C] 75)).alloc (.cells #[.slice none 0 0] 75))):=hide (balloc (balloc (Below.refl _ _) _) _)
 have hzA:((w.alloc (.cells #[.slice (some ⟨g,0,none⟩) K C] 75)).alloc (.cells #[.slice none 0 0] 75)).heap.size=w.heap.size+2:=by simp
 have hrA:=(hr.out.alloc (.cells #[.slice (some ⟨g,0,none⟩) K C] 75)).alloc (.cells #[.slice none 0 0] 75)
 have hcA:((w.alloc (.cells #[.slice (some ⟨g,0,none⟩) K C] 75)).alloc (.cells #[.slice none 0 0] 75)).cell? ⟨w.heap.size+1,0,none⟩=some (.slice none 0 0):=by simp [go_sem]
 have hfA:((w.alloc (.cells #[.slice (some ⟨g,0,none⟩) K C] 75)).alloc (.cells #[.slice none 0 0] 75)).frozen? ⟨w.heap.size+1,0,none⟩=false:=by simp [go_sem]
 generalize (w.alloc (.cells #[.slice (some ⟨g,0,none⟩) K C] 75)).alloc (.cells #[.slice none 0 0] 75)=wa at *
 refine (cloneU_any g K C W wa (hide hrA) hK).mono ?_
 rintro e w1 ⟨g1,C1,rfl,hg1,hb1,hw1⟩
 have f1:=(cTr hb1 (by omega)).trans hcA
 have f2:w1.frozen? ⟨w.heap.size+1,0,none⟩=false:=by rw [World.frozen?_of_block (w:=wa) (a:=⟨w.heap.size+1,0,none⟩) (hb1.block _ (by show w.heap.size+1<_;omega))];exact hfA
 have HB1:=hide (bnext HA.out hb1)
 have HW1:=hide hw1
 clear hb1 hw1 hcA hfA
 go_wp2_with fail
 refine bodyPost_ret (v:=.agg #[.slice (some ⟨g1,0,none⟩) K C1]) (by simp [results,Tryz.results61,go_sem,f1]) rfl ?_
 exact ⟨_,_,rfl,by omega,HB1.out.setCell (by show w.heap.size≤w.heap.size+1;omega) _,HW1.out.setOther (by show g1≠w.heap.size+1;omega) _⟩
end Go.Proofs.YthgikffcdgpgiaaGreatDoor

namespace Go.Proofs.YthgikffcdgpgiaaGreatDoor
open Go.RowKit
set_option maxHeartbeats 1000000 in
set_option maxRecDepth 100000 in
theorem newSearch_any (vl:Int) (a:Option Addr) (n c:Nat) (w:World) (hn:n≤1000) :
  Calls Tryz.prog 53 #[.agg #[.int .i64 vl,.slice a n c]] w fun e w'=>∃bS gS,e=.returned (.pointer (some ⟨bS,0,none⟩))∧w.heap.size≤bS∧w.heap.size≤gS∧Below w.heap.size w w'∧SeaAt w' bS gS w'.heap.size ((n+63) / 64) a n c (fun _=>0) (.slice none 0 0) []:=by
 have HNS:=hide (fun W=>newSet_blockNo n W (by omega))
 go_enter Tryz.func53,Tryz.ntmps53
 go_wp2_with fail
 refine wp_region_held_drew (S:=(fun w'=>w'.cell? ⟨w.heap.size,1,none⟩=some (.slice a n c))) (by kernel_rfl) (by (try dsimp only);go_keep) (fun hHeld=>?_)
 refine tkH 0 rfl (v:=?_) ?_
 simp only [Act.put,xA,xB,xD,xE,xF]
 refine tkH 1 rfl (v:=?_) ?_
 simp only [Act.put,xA,xB,xC,xD,xE,xF]
 refine tkH 2 rfl (v:=?_) ?_
 simp only [Act.put,xA,xB,xC,xD,xE,xF]
 refine tkH 3 rfl (v:=?_) ?_
 simp only [Act.put,xA,xB,xC,xD,xE,xF]
 refine tkH 4 rfl (v:=?_) ?_
 simp only [Act.put,xA,xB,xC,xD,xE,xF]
 refine wpAnyH_ready (rs:=[5]) (by kernel_rfl) (by simp) ?_
 refine AllReadyH.cons rfl (fun K hK=>?_) AllReadyH.nil
 go_simp
 go_at_call 91
 refine (HNS.out _).mono ?_
 rintro e w3 ⟨gS,rfl,hgS,hb3,hr3⟩
 have hz3:w.heap.size+1≤w3.heap.size:=by have:=hb3.size;simp at this;omega
 have hc3:w3.cell? ⟨w.heap.size,1,none⟩=some (.slice a n c):=(hb3.cell (p:=⟨w.heap.size,1,none⟩) (by show w.heap.size<_;simp)).trans (by simp [go_sem])
 have hgl:=hr3.lt
 have HB3:Hid (Below w.heap.size w w3):=hide (bnext (w1:=(w.alloc (.cells #[.int .i64 vl,.slice a n c] 32)).drew) (balloc (Below.refl _ _) _).drew hb3)
 have HR3:=hide hr3
 have hgb:w.heap.size≤gS:=by simp at hgS;omega
 clear hb3 hr3 hgS
 refine hK.out _ _ hc3 (fun hHeld=>?_)
 clear hK
 try simp only [Act.put,xA,xB,xC,xD,xE,xF]
 refine tkH 6 rfl (v:=?_) ?_
 simp only [Act.put,xA,xB,xC,xD,xE,xF]
 refine wpAnyH_ready (rs:=[7]) (by kernel_rfl) (by simp) ?_
 refine AllReadyH.cons rfl (fun K hK=>?_) AllReadyH.nil
 go_simp
 refine hK.out _ _ ((World.cell?_alloc_lt _ _ _ (by show w.heap.size<_;omega)).trans hc3) (fun hHeld=>?_)
 clear hK
 try simp only [Act.put,xA,xB,xC,xD,xE,xF]
 refine tkH 8 rfl (v:=?_) ?_
 simp only [Act.put,xA,xB,xC,xD,xE,xF]
 refine wpAnyH_done (by kernel_rfl) ?_ _
 go_wp2_with fail
 go_ret
 refine ⟨w3.heap.size,gS,rfl,by omega,hgb,balloc HB3.out _,⟨by simp,by simp,by simp,fun q=>by simp,HR3.out.alloc _,World.ownsRow_nil _ _ _ _,by simp,by simp;omega,by omega,Nat.le_refl _⟩⟩
end Go.Proofs.YthgikffcdgpgiaaGreatDoor

namespace Go.Proofs.YthgikffcdgpgiaaGreatDoor
open Go.RowKit
theorem copy_const (g k n dC b o s sC m:Nat) (v:Value) (f:Nat→Value) (W:World) (hr:W.rowIs g 2 n f) (hk:k≤n) (hv:v.oneCell'=true) (hm:m=Nat.min s (n-k)) (hs:∀j,j<m→W.cell? ⟨b,o+j,none⟩=some v) :
  ∃W',Sem.run Tryz.prog (Builtin.copy_ #[26,26] 3 #[.slice (some ⟨g,k,none⟩) (n-k) dC,.slice (some ⟨b,o,none⟩) s sC]) W=.ok (goInt m) W'∧W.grownBy W' (some g)∧W'.rowIs g 2 n (fun i=>if k≤i∧i<k+m then v else f i):=by
 obtain ⟨c,h1,h2,h3⟩:=hr
 have hmn:m≤n-k:=by rw [hm];exact Nat.min_le_right _ _
 have h:=run_copy_row (P:=Tryz.prog) W 26 26 3 2 g k (n-k) dC ⟨b,o,none⟩ s sC c 2 (List.replicate m v) Tryz.underlying26 (by kernel_rfl) h1 (by rw [List.length_replicate];exact hm) (fun j u hj=>by
  rw [List.getElem?_replicate] at hj
  split at hj
  ·rename_i hlt
   injection hj with hj
   rw [←hj]
   rw [Addr.add_lit]
   exact hs j hlt
  ·cases hj) (by rw [List.length_replicate];omega) (fun u hu=>by rw [List.eq_of_mem_replicate hu];exact hv)
 rw [List.length_replicate] at h
 refine ⟨_,h,⟨rfl,rfl,rfl,by simp,fun j _ hj=>setRow_other _ _ _ _ (fun e=>hj (by rw [e]))⟩,⟨_,setRow_heap _ _ _ _ _ _ h1,?_,fun i hi=>?_⟩⟩
 ·simp [h2];omega
 ·have hi':c[i]?=some (f i):=h3 i hi
  simp only [List.getElem?_toArray]
  by_cases a1:i<k
  ·rw [if_neg (by omega),List.getElem?_append_left (by simp;omega),List.getElem?_append_left (by simp;omega),List.getElem?_take_of_lt a1]
   simpa using hi'
  ·by_cases a2:i<k+m
   ·rw [if_pos ⟨by omega,a2⟩,List.getElem?_append_left (by simp;omega),List.getElem?_append_right (by simp;omega)]
    simp [List.getElem?_replicate]
    omega
   ·rw [if_neg (by omega),List.getElem?_append_right (by simp;omega),List.getElem?_drop]
    have:k+m+(i-(List.take k c.toList++List.replicate m v).length)=i:=by simp;omega
    rw [this]
    simpa using hi'
theorem and_mask {n:Nat} (hn:n≤1000):bits .and .u64 (n:Int) 4294967295=(n:Int):=by
 have h:n &&& 4294967295=n:=by
  have:=Nat.and_two_pow_sub_one_eq_mod n 32
  rw [show (2 ^ 32-1:Nat)=4294967295 from rfl] at this
  rw [this]
  omega
 rw [show (4294967295:Int)=((4294967295:Nat):Int) from rfl,u64_and_nat _ _ (by omega) (by decide),h]
set_option maxHeartbeats 1000000 in
set_option maxRecDepth 100000 in
theorem mul64_any (n:Nat) (w:World) (hn:n≤1000) :
  Calls Tryz.prog 132 #[.int .u64 1,.int .u64 n] w fun e w'=>e=.returned (.tuple #[.int .u64 0,.int .u64 n])∧w'=w:=by
 have b1:bits .and .u64 1 4294967295=1:=by decide
 have b0:bits .and .u64 0 4294967295=0:=by decide
 have bn:=and_mask hn
 have d0:(n:Int) / 4294967296=0:=by omega
 have wn:IntKind.u64.wrap (n:Int)=n:=by simp [IntKind.wrap,IntKind.bits,IntKind.signed];omega
 have w0:IntKind.u64.wrap 0=0:=by decide
 go_enter Tryz.func132,Tryz.ntmps132
 go_wp2_with fail
 refine bodyPost_ret (v:=.tuple #[.int .u64 0,.int .u64 n]) (by simp [results,Tryz.results132,go_sem]) rfl ⟨rfl,rfl⟩
set_option maxHeartbeats 1000000 in
set_option maxRecDepth 100000 in
theorem mul_any (n:Nat) (w:World) (hn:n≤1000) :
  Calls Tryz.prog 103 #[.int .u64 1,.int .u64 n] w fun e w'=>e=.returned (.tuple #[.int .u64 0,.int .u64 n])∧w'=w:=by
 have HM:=hide (fun W=>mul64_any n W hn)
 go_enter Tryz.func103,Tryz.ntmps103
 go_wp2_with fail
 refine (HM.out _).mono ?_
 rintro e w1 ⟨rfl,rfl⟩
 go_wp2_with fail
 refine bodyPost_ret (v:=.tuple #[.int .u64 0,.int .u64 n]) (by simp [results,Tryz.results103,go_sem]) rfl ⟨rfl,rfl⟩
set_option maxHeartbeats 1000000 in
set_option maxRecDepth 100000 in
theorem repeat_any (b n:Nat) (w:World) (hn:n≤1000) (h0:0<n) (hc:w.cell? ⟨b,0,none⟩=some (.int .i64 (-1))) (hb:b<w.heap.size) :
  Calls Tryz.prog 56 #[.slice (some ⟨b,0,none⟩) 1 1,.int .i64 n] w fun e w'=>∃g,e=.returned (.slice (some ⟨g,0,none⟩) n n)∧w.heap.size≤g∧Below w.heap.size w w'∧w'.rowIs g 2 n (fun _=>.int .i64 (-1)):=by
 have HM:=hide (fun W=>mul_any n W hn)
 have hmk:=run_make_row' (P:=Tryz.prog) 26 2 (.int .i64 0) 8 Tryz.underlying26 Tryz.info2' rfl .i64 .i64 n (by omega) (by omega)
 have hmin:Nat.min 1 (n-0)=1:=Nat.min_eq_left (by omega)
 obtain ⟨W1,hcp,hg1,hr1⟩:=copy_const w.heap.size 0 n n b 0 1 1 1 (.int .i64 (-1)) _ (w.alloc (.cells (madeCells #[.int .i64 0] n) 2)) (World.rowIs_made w (.int .i64 0) n 2) (Nat.zero_le _) rfl hmin.symm (fun j hj=>by
  have:j=0:=by omega
  subst this
  exact (World.cell?_alloc_lt _ _ _ hb).trans hc)
 rw [Nat.sub_zero] at hcp
 have HR1:=hide hr1
 have HG1:=hide hg1
 clear hr1 hg1
 go_enter Tryz.func56,Tryz.ntmps56
 go_wp2_with fail
 refine (HM.out _).mono ?_
 rintro e w1 ⟨rfl,hw⟩
 rw [hw]
 clear hw w1
 go_wp2_with fail
 generalize decide ((n:Int)<0)=br1
 generalize decide (9223372036854775807<(n:Int))=br2
 have HR0:Hid (W1.rowIs w.heap.size 2 n (fun i=>.int .i64 (if i<1 then -1 else 0))):=hide (HR1.out.congr (fun i _=>by by_cases h:i<1<;>simp [h]))
 have HB0:Hid (Below w.heap.size w W1):=hide ((balloc (Below.refl _ w) _).grown HG1.out (by simp) (fun k e=>by cases e;exact Nat.le_refl _))
 clear HR1 HG1 hcp hc hmin
 go_loopw [8] (fun u wr=>∃k:Nat,1≤k∧k≤n∧u=.int .i64 k∧Hid (Below w.heap.size w wr)∧Hid (wr.rowIs w.heap.size 2 n (fun i=>.int .i64 (if i<k then -1 else 0)))) (fun u _=>n-(intOf u).toNat)
 case atStart=>exact ⟨1,Nat.le_refl _,h0,rfl,HB0,HR0⟩
 case round =>
  clear HB0 HR0
  obtain ⟨k,hk1,hkn,rfl,HB,HR⟩:=hrel
  by_cases hlt:k<n
  ·obtain ⟨m,hm⟩:∃m,m=Nat.min k (n-k):=⟨_,rfl⟩
   have hm1:m≤k:=by rw [hm];exact Nat.min_le_left _ _
   have hm2:m≤n-k:=by rw [hm];exact Nat.min_le_right _ _
   have hm3:0<m:=by rw [hm];exact Nat.lt_min.2 ⟨hk1,by omega⟩
   obtain ⟨W2,hcp,hg2,hr2⟩:=copy_const w.heap.size k n (n-k) w.heap.size 0 k n m (.int .i64 (-1)) (fun i=>.int .i64 (if i<k then -1 else 0)) wr.drew HR.out hkn rfl hm (fun j hj=>by
    rw [Nat.zero_add]
    have:=HR.out.cell (i:=j) (by omega)
    rw [if_pos (by omega)] at this
    exact this)
   have HR2:Hid (W2.rowIs w.heap.size 2 n (fun i=>.int .i64 (if i<k+m then -1 else 0))):=hide (hr2.congr (fun i _=>by
    by_cases h1:i<k
    ·simp [h1]
     omega
    ·by_cases h2:i<k+m
     ·simp [h1,h2]
     ·simp [h1,h2]))
   have HB2:Hid (Below w.heap.size w W2):=hide (HB.out.drew.grown hg2 HB.out.size (fun k e=>by cases e;exact Nat.le_refl _))
   clear HB HR hr2 hg2 hm
   go_wp2
   go_region
   go_wp2
   exact ⟨⟨k+m,by omega,by omega,by go_num,HB2,HR2⟩,by simp [intOf];omega⟩
  ·have:k=n:=by omega
   subst this
   have HE:Hid (wr.rowIs w.heap.size 2 k (fun _=>.int .i64 (-1))):=hide (HR.out.congr (fun i hi=>by simp [hi]))
   clear HR
   go_wp2_with fail
   go_ret
   exact ⟨_,rfl,Nat.le_refl _,HB.out,HE.out⟩
end Go.Proofs.YthgikffcdgpgiaaGreatDoor

namespace Go.Proofs.YthgikffcdgpgiaaGreatDoor
open Go.RowKit Go.Shelf
attribute [local go_sem] Oper.semAt_some
def mks (ds:List Nat):List Deferred:=ds.map fun D=>{ target:=.collected D,args:=#[] }
structure MksAt (W:World) (B:Nat) (ds:List Nat):Prop where
 nd:ds.Nodup
 ge:∀D∈ds,B≤D
 obj:∀D∈ds,W.heap[D]?=some (.deferred (some []))
theorem leaves_mks {F:Fence} {n:Nat} {P:Program} {fn:Func} {tmps:Array Value} {R:Ending→World→Prop} {B:Nat}:∀(ds:List Nat) (W:World),MksAt W B ds→B≤W.heap.size→(∀W',Below B W W'→∃v,(results fn tmps).run P W'=.ok v W'∧R (.returned v) W')→LeavesInM F n P fn tmps R (mks ds) .returning W
 | [],W,_,_,h=>h W (Below.refl _ _)
 | D::ds,W,hm,hB,h=>by
  refine ⟨by simp,Or.inl ⟨D,_,rfl,run_takeDeferred (hm.obj D List.mem_cons_self),?_⟩⟩
  have hD:=hm.ge D List.mem_cons_self
  have hb:Below B W (W.putObj D (.deferred none)):=(Below.refl B W).grown (grownBy_putObj' W D _) hB (fun k e=>by cases e;exact hD)
  refine leaves_mks ds _ ⟨(List.nodup_cons.1 hm.nd).2,fun k hk=>hm.ge k (List.mem_cons_of_mem _ hk),fun k hk=>?_⟩ (Nat.le_trans hB hb.size) (fun W' k=>h W' (hb.trans k))
  exact (World.putObj_heap_other (fun e=>(List.nodup_cons.1 hm.nd).1 (by rw [←e];exact hk))).trans (hm.obj k (List.mem_cons_of_mem _ hk))
theorem mks_next {wr W:World} {B D gN:Nat} {ds:List Nat} (h:MksAt wr B ds) (hD:wr.heap.size≤D) (hK:W.heap[D]?=some (.deferred (some []))) (hb:∀k,k<wr.heap.size→k≠gN→W.heap[k]?=wr.heap[k]?) (hB:gN<B∧B≤wr.heap.size):MksAt W B (D::ds):=by
 have hl:∀k∈ds,k<wr.heap.size:=fun k hk=>(Array.getElem?_eq_some_iff.1 (h.obj k hk)).1
 refine ⟨List.nodup_cons.2 ⟨fun k=>by have:=hl D k;omega,h.nd⟩,fun k hk=>?_,fun k hk=>?_⟩
 ·rcases List.mem_cons.1 hk with rfl | hk
  ·omega
  ·exact h.ge k hk
 ·rcases List.mem_cons.1 hk with rfl | hk
  ·exact hK
  ·exact (hb k (hl k hk) (by have:=h.ge k hk;omega)).trans (h.obj k hk)
set_option maxHeartbeats 2000000 in
set_option maxRecDepth 100000 in
theorem nearest_any (pa:Option Addr) (n pc b0 o0 n0 c0:Nat) (src:List (List Nat)) (ord:List Nat) (L1 B1 L2 B2:Nat) (w:World) (hsrc:Hid (IntssAt w L2 B2 pa (src.map natI))) (hs:Hid (n=src.length)) (hord:Hid (IntsAt w L1 B1 (some ⟨b0,o0,none⟩) (natI ord))) (h0:Hid (n0=ord.length)) (hn:n≤1000) (hn1:0<n) (hn0:n0≤1000) (hn0':0<n0) (hc0:n0≤c0) (hB1:B1≤w.heap.size) (hB2:B2≤w.heap.size) (ho:Hid (∀b∈ord,b<n)) (hsr:Hid (∀l∈src,l.length≤2000∧∀t∈l,t<n)) :
  Calls Tryz.prog 106 #[.slice pa n pc,.slice (some ⟨b0,o0,none⟩) n0 c0] w fun e w'=>∃g Ws,e=.returned (.slice (some ⟨g,0,none⟩) n n)∧w.heap.size≤g∧Below w.heap.size w w'∧w'.rowIs g 2 n (fun z=>.int .i64 (nrF Ws ord n0 z))∧∀b,b<n→∀x,x<n→(hasN (Ws b) x=true↔Sp (Iav n) (Tse n) (·∈ord) (fun b=>src.getD b []) b x):=by
 have HAV:=hide (fun W (hb:Below w.heap.size w W)=>avoided_any pa n pc b0 o0 n0 c0 src ord L1 B1 L2 B2 W (hide (hsrc.out.keepS (fun k _ h2=>(hb.mono hB2).block k h2))) hs (hide (hord.out.keep (hb.mono hB1))) h0 hn hn1 hn0 hn0' (by have:=hb.size;omega) (by have:=hb.size;omega) ho hsr)
 have hKb:(n+63) / 64≤16:=by omega
 have hKn:n≤64*((n+63) / 64):=by omega
 generalize (n+63) / 64=K at *
 refine (callsIn_wide (n:=4)).1 ?_
 refine callsIn_of_wp_marks Tryz.func106 rfl trivial ?_ rfl
 simp only [Tryz.ntmps106,List.size_toArray,List.length_cons,List.length_nil,Nat.reduceAdd,Nat.reduceSub,Array.replicate_succ,Array.replicate_zero,List.push_toArray,List.append_toArray,List.nil_append,List.cons_append]
 gi_wp2
 refine ⟨trivial,(callsIn_wide.2 (HAV.out w (Below.refl _ _))).mono ?_⟩
 rintro e w1 ⟨G,gs,Ws,rfl,hb1,hs1,hw1,hh1⟩
 have HB1:=hide hb1
 have HS1:=hide hs1
 have HW1:=hide hw1
 have HH1:=hide hh1
 have hGl:G<w1.heap.size:=hs1.row.lt
 have HGL:Hid (∀i,i<n→gs i<w1.heap.size):=hide (fun i hi=>(hs1.set i hi).lt)
 have hz1:=hb1.size
 clear hb1 hs1 hw1 hh1 HAV
 gi_wp2
 refine ⟨trivial,(callsIn_wide.2 (repeat_any (w1.heap.size+1) n ((w1.alloc (.cells #[.slice (some ⟨G,0,none⟩) n n] 207)).alloc (.cells #[.int .i64 (-1)] 2)) hn hn1 (by simp [go_sem]) (by simp))).mono ?_⟩
 rintro e w2 ⟨gN,rfl,hgN,hb2,hr2⟩
 have HB2:Hid (Below w.heap.size w w2):=hide (bnext (balloc (balloc HB1.out _) _) hb2)
 have hz2:w1.heap.size+2≤w2.heap.size:=by have:=hb2.size;simp at this;omega
 have hgN1:w1.heap.size+2≤gN:=by simp at hgN;omega
 have hgN2:gN<w2.heap.size:=hr2.lt
 have HS2:=hide ((HS1.out.keep (balloc (balloc (Below.refl _ _) _) _)).keep hb2)
 have hA2:w2.cell? ⟨w1.heap.size,0,none⟩=some (.slice (some ⟨G,0,none⟩) n n):=(hb2.cell (p:=⟨w1.heap.size,0,none⟩) (by show w1.heap.size<_;simp;omega)).trans (by simp [go_sem])
 have HR2:=hide hr2
 clear hb2 hr2 hgN HB1 HS1
 gi_wp2
 have HB3:Hid (Below w.heap.size w (w2.alloc (.cells #[.slice (some ⟨gN,0,none⟩) n n] 26))):=hide (balloc HB2.out _)
 have HR3:Hid ((w2.alloc (.cells #[.slice (some ⟨gN,0,none⟩) n n] 26)).rowIs gN 2 n (fun z=>.int .i64 (nrF Ws ord 0 z))):=hide (HR2.out.alloc _)
 have HS3:=hide (HS2.out.keep (balloc (Below.refl _ _) (.cells #[.slice (some ⟨gN,0,none⟩) n n] 26)))
 have hA3:(w2.alloc (.cells #[.slice (some ⟨gN,0,none⟩) n n] 26)).cell? ⟨w1.heap.size,0,none⟩=some (.slice (some ⟨G,0,none⟩) n n):=(World.cell?_alloc_lt _ _ _ (by show w1.heap.size<_;omega)).trans hA2
 have hN3:(w2.alloc (.cells #[.slice (some ⟨gN,0,none⟩) n n] 26)).cell? ⟨w2.heap.size,0,none⟩=some (.slice (some ⟨gN,0,none⟩) n n):=by simp [go_sem]
 have hz3:w2.heap.size<(w2.alloc (.cells #[.slice (some ⟨gN,0,none⟩) n n] 26)).heap.size:=by simp
 clear HB2 HR2 HS2 hA2
 generalize w2.alloc (.cells #[.slice (some ⟨gN,0,none⟩) n n] 26)=w3 at *
 have HA3:=hide hA3
 have HN3:=hide hN3
 have HO3:Hid (IntsAt w3 L1 B1 (some ⟨b0,o0,none⟩) (natI ord)):=hide (hord.out.keep (HB3.out.mono hB1))
 have hzw:=HB3.out.size
 clear hA3 hN3 hord hsrc hs hsr
 refine wpIn_loop (fun a wr=>∃(i:Nat) (ds:List Nat) (u7 u8 u21 u22 u23 u24 u25 u26 u27 u28 u42:Value),i≤n0∧a=⟨#[.slice pa n pc,.slice (some ⟨b0,o0,none⟩) n0 c0,undef,undef,.slice none 0 0,.pointer (some ⟨w1.heap.size,0,none⟩),.pointer (some ⟨w2.heap.size,0,none⟩),u7,u8,undef,undef,.slice pa n pc,.slice (some ⟨b0,o0,none⟩) n0 c0,.slice (some ⟨G,0,none⟩) n n,.slice (some ⟨w1.heap.size+1,0,none⟩) 1 1,.slice pa n pc,.int .i64 n,.slice (some ⟨gN,0,none⟩) n n,.slice (some ⟨b0,o0,none⟩) n0 c0,.int .i64 n0,.int .i64 i,u21,u22,u23,u24,u25,u26,u27,u28,undef,undef,undef,undef,undef,undef,undef,undef,undef,undef,undef,undef,undef,u42,undef],mks ds⟩∧Hid (w3.grownBy wr (some gN))∧Hid (wr.rowIs gN 2 n (fun z=>.int .i64 (nrF Ws ord i z)))∧Hid (MksAt wr w3.heap.size ds)) (fun a _=>n0-(intOf (a.tmps.getD 20 undef)).toNat) ?_ ?_
 ·exact ⟨0,[],_,_,_,_,_,_,_,_,_,_,_,Nat.zero_le _,rfl,hide (World.grownBy.refl _ _),HR3,hide ⟨List.nodup_nil,fun _ h=>(by cases h),fun _ h=>(by cases h)⟩⟩
 ·rintro a wr ⟨i,ds,u7,u8,u21,u22,u23,u24,u25,u26,u27,u28,u42,hi,rfl,HG,HR,HM⟩
  clear HR3
  by_cases hlt:i<n0
  ·have hil:i<ord.length:=by have:=h0.out;omega
   obtain ⟨br,or_,er,hbr,er3⟩:=HO3.out i (by simpa [natI] using hil)
   have hbi:ord[i]<n:=ho.out _ (List.getElem_mem hil)
   have hoi:(natI ord)[i]'(by simpa [natI] using hil)=((ord[i]:Nat):Int):=by simp [natI]
   rw [hoi] at er3
   obtain ⟨rfl,rfl⟩:br=b0∧or_=o0:=by injection er with er;injection er with e1 e2;exact ⟨e1.symm,e2.symm⟩
   have hbg:br<w3.heap.size:=by omega
   have hne:br≠gN:=by omega
   have hcb:wr.cell? ⟨br,or_+i,none⟩=some (.int .i64 ((ord[i]:Nat):Int)):=(World.cell?_of_block (HG.out.block br hbg (fun e=>hne (by injection e)))).trans er3
   have hci:i≤c0:=by omega
   have hgd:ord.getD i 0=ord[i]:=by simp [hil]
   have HGD:=hide hgd
   have hwr:=HG.out.size
   have hgN3:gN<w3.heap.size∧w3.heap.size≤wr.heap.size:=⟨by omega,hwr⟩
   have HN3':=hide hgN3
   clear hgd hgN3
   gi_wp2
   refine ⟨trivial,(backward_in Fence.wide 3 trivial rfl _ i c0 _).mono ?_⟩
   rintro e w4 ⟨rfl,hw4⟩
   rw [World.size_alloc]
   have hz4:w4.heap.size=wr.heap.size+2:=by rw [hw4];simp
   have hbx:w4.cell? ⟨wr.heap.size,0,none⟩=some (.int .i64 ((ord[i]:Nat):Int)):=by rw [hw4];simp [go_sem]
   have hsx:w4.cell? ⟨wr.heap.size+1,0,none⟩=some (.slice (some ⟨br,or_,none⟩) i c0):=by
    rw [hw4]
    simp [go_sem]
   have hbw4:Below wr.heap.size wr w4:=by rw [hw4];exact balloc (balloc (Below.refl _ _) _) _
   clear hw4
   have hblk:∀k,k<w3.heap.size→k≠gN→w4.heap[k]?=w3.heap[k]?:=fun k hk hne=>(hbw4.block k (by omega)).trans (HG.out.block k hk (fun e=>hne (by injection e)))
   have hord4:∀j,j<i→w4.cell? ⟨br,or_+j,none⟩=some (.int .i64 ((ord[j]?.getD 0:Nat):Int)):=fun j hj=>by
    obtain ⟨b5,o5,e5,h5,e6⟩:=HO3.out j (by simp [natI];omega)
    injection e5 with e5
    injection e5 with e1 e2
    subst e1
    subst e2
    have hjl:j<ord.length:=by omega
    have hoj:(natI ord)[j]'(by simp [natI];omega)=((ord[j]:Nat):Int):=by simp [natI]
    rw [hoj] at e6
    rw [List.getElem?_eq_getElem hjl,Option.getD_some]
    exact (World.cell?_of_block (hblk br (by omega) (by omega))).trans e6
   have hr4:w4.rowIs gN 2 n (fun z=>.int .i64 (nrF Ws ord i z)):=HR.out.of_block (hbw4.block gN (by omega))
   have HR4:=hide hr4
   have HS4:Hid (SetsAt w4 G n K gs Ws):=hide ((HS3.out.grown HG.out (by omega) (fun j hj e=>by have:=HGL.out j hj;omega)).keep hbw4)
   have hA4:w4.cell? ⟨w1.heap.size,0,none⟩=some (.slice (some ⟨G,0,none⟩) n n):=(World.cell?_of_block (hblk w1.heap.size (by omega) (by omega))).trans HA3.out
   have hN4:w4.cell? ⟨w2.heap.size,0,none⟩=some (.slice (some ⟨gN,0,none⟩) n n):=(World.cell?_of_block (hblk w2.heap.size (by omega) (by omega))).trans HN3.out
   have HBX:=hide hbx
   have HA4:=hide hA4
   have HN4:=hide hN4
   have HZ4:=hide hz4
   have hzl:wr.heap.size+2≤w4.heap.size:=by omega
   clear hz4 hbx hA4 hN4 hr4
   gi_wp2
   refine wpIn_rangeFunc_ownF (F:=Fence.wide) (n:=4) rfl (by decide) (gf:=144) (lb:=#[.pointer (some ⟨wr.heap.size+1,0,none⟩)]) rfl trivial (enters_of Tryz.func144 (by kernel_rfl) rfl) (backward_stops Fence.wide 3 trivial rfl (by decide) (wr.heap.size+1) br or_ i c0 ord n ho.out hn1 (by omega) w4 (by omega) (by omega) hsx hord4) belowK_t (belowK_b (Nat.le_refl _)) (Below.refl _ _) (fun _=>rfl)
    (fun pre W=>Below w4.heap.size w4 W∧∀y∈pre,hasN (Ws ord[i]) y.1.2=true)
    (fun c pre W=>c=.exit 2∧∃pre' x,pre=pre'++[x]∧(∀y∈pre',hasN (Ws ord[i]) y.1.2=true)∧hasN (Ws ord[i]) x.1.2=false∧w4.grownBy W (some gN)∧W.rowIs gN 2 n (fun z=>.int .i64 (if z=ord[i] then (x.1.2:Int) else nrF Ws ord i z)))
    (fun s W W' row hs hg hr=>⟨hs.1.grown hg hs.1.size (fun k e=>(hr k e).1),hs.2⟩)
    (fun c s W W' row hs hg hr=>by
     obtain ⟨hc,pre',x,e,h1,h2,hg0,hrw⟩:=hs
     refine ⟨hc,pre',x,e,h1,h2,⟨hg.os.trans hg0.os,hg.tape.trans hg0.tape,hg.output.trans hg0.output,Nat.le_trans hg0.size hg.size,fun k hk hne=>(hg.block k (Nat.lt_of_lt_of_le hk hg0.size) (fun e=>by have:=(hr k e.symm).1;omega)).trans (hg0.block k hk hne)⟩,hrw.of_block (hg.block gN hrw.lt (fun e=>by have:=(hr gN e.symm).1;omega))⟩)
    ⟨Below.refl _ _,fun _ h=>by cases h⟩
    (fun x=>⟨#[.slice pa n pc,.slice (some ⟨br,or_,none⟩) n0 c0,undef,undef,.slice none 0 0,.pointer (some ⟨w1.heap.size,0,none⟩),.pointer (some ⟨w2.heap.size,0,none⟩),.int .i64 i,.pointer (some ⟨wr.heap.size,0,none⟩),undef,.int .i64 (x.1.2:Int),.slice pa n pc,.slice (some ⟨br,or_,none⟩) n0 c0,.slice (some ⟨G,0,none⟩) n n,.slice (some ⟨w1.heap.size+1,0,none⟩) 1 1,.slice pa n pc,.int .i64 n,.slice (some ⟨gN,0,none⟩) n n,.slice (some ⟨br,or_,none⟩) n0 c0,.int .i64 n0,.int .i64 i,.bool true,.int .i64 i,.pointer (some ⟨br,or_+i,none⟩),.int .i64 ((ord[i]:Nat):Int),.slice (some ⟨br,or_,none⟩) n0 c0,.int .i64 i,.slice (some ⟨br,or_,none⟩) i c0,.func (.func 144) #[] #[.pointer (some ⟨wr.heap.size+1,0,none⟩)],.int .i64 (x.1.1:Int),.int .i64 (x.1.2:Int),undef,undef,undef,undef,undef,undef,undef,undef,undef,undef,undef,u42,undef],[]⟩) ?assign ?body ?done ?stop
   case assign =>
    intro l x W K hK
    gi_wp2
    exact hK
   case body =>
    rintro l pre x W ⟨hB,hall⟩ _
    have hBXW:W.cell? ⟨wr.heap.size,0,none⟩=some (.int .i64 ((ord[i]:Nat):Int)):=(cTr hB (by omega)).trans HBX.out
    have hAW:W.cell? ⟨w1.heap.size,0,none⟩=some (.slice (some ⟨G,0,none⟩) n n):=(cTr hB (by omega)).trans HA4.out
    have hNW:W.cell? ⟨w2.heap.size,0,none⟩=some (.slice (some ⟨gN,0,none⟩) n n):=(cTr hB (by omega)).trans HN4.out
    have hSW:=HS4.out.keep hB
    have hcW:=hSW.row.cell hbi
    have hx2:x.1.2<n:=x.2
    have HALL:=hide hall
    have HBW:=hide hB
    have hrW:=HR4.out.of_block (hB.block gN (by omega))
    have HRW:=hide hrW
    have HHAS:=hide (has_blockNo (gs ord[i]) K x.1.2 (Ws ord[i]) W (hide (HW1.out ord[i])) (hide (hSW.set ord[i] hbi)) (by omega) (by omega))
    clear hall hB hrW hSW
    cases hh:hasN (Ws ord[i]) x.1.2 with
    | true =>
     have HH:=hide hh
     rw [hh] at HHAS
     clear hh
     gi_wp2
     refine ⟨trivial,(CallsIn.inRound l (callsIn_wide.2 HHAS.out)).mono ?_⟩
     rintro e W5 ⟨rfl,hb5⟩
     have HB5:=hide hb5
     clear hb5
     gi_wp2
     exact ⟨⟨HB5.out.size,fun k o hk _=>(HB5.out.block k (Array.getElem?_eq_some_iff.1 hk).1).trans hk⟩,HB5.out.mono HBW.out.size,bnext HBW.out HB5.out,fun y hy=>by
      rcases List.mem_append.1 hy with h | h
      ·exact HALL.out y h
      ·have:y=x:=by simpa using h
       rw [this];exact HH.out⟩
    | false =>
     have HH:=hide hh
     rw [hh] at HHAS
     clear hh
     gi_wp2
     refine ⟨trivial,(CallsIn.inRound l (callsIn_wide.2 HHAS.out)).mono ?_⟩
     rintro e W5 ⟨rfl,hb5⟩
     have hBX5:W5.cell? ⟨wr.heap.size,0,none⟩=some (.int .i64 ((ord[i]:Nat):Int)):=(hb5.cell (p:=⟨wr.heap.size,0,none⟩) (by show wr.heap.size<_;have:=HBW.out.size;omega)).trans hBXW
     have hN5:W5.cell? ⟨w2.heap.size,0,none⟩=some (.slice (some ⟨gN,0,none⟩) n n):=(hb5.cell (p:=⟨w2.heap.size,0,none⟩) (by show w2.heap.size<_;have:=HBW.out.size;omega)).trans hNW
     have hr5:=HRW.out.of_block (hb5.block gN (by have:=HBW.out.size;omega))
     have hc5:=hr5.cell hbi
     have hf5:=hr5.frozen ord[i]
     have HR5:=hide hr5
     have HB5:=hide hb5
     clear hb5 hr5 hBXW hNW hAW hcW HRW
     gi_wp2
     refine ⟨⟨by rw [size_setCell];exact HB5.out.size,fun k o hk ho=>?_⟩,rfl,pre,x,rfl,HALL.out,HH.out,?_,?_⟩
     ·have hkl:=(Array.getElem?_eq_some_iff.1 hk).1
      have h5:=(HB5.out.block k hkl).trans hk
      exact (KeepsOthers.setCell W5 _ _).same k o h5 ho
     ·exact ((⟨(bnext HBW.out HB5.out).os,(bnext HBW.out HB5.out).tape,(bnext HBW.out HB5.out).output,(bnext HBW.out HB5.out).size,fun k hk _=>(bnext HBW.out HB5.out).block k hk⟩:w4.grownBy W5 (some gN))).trans ⟨rfl,rfl,rfl,by simp [World.setCell],fun k _ hk=>Below.heap_setCell _ _ _ _ (fun e=>hk (by rw [e]))⟩
     ·exact row_set (C:=Value.int .i64) HR5.out ord[i] (x.1.2:Int)
   case done =>
    rintro D ys W hD rfl ⟨hB,hall⟩ hK
    have hfm:=find_miss ho.out hn1 (len:=i) (by omega) (p:=fun a=>!hasN (Ws (ord.getD i 0)) a) (fun y hy=>by rw [HGD.out,hall y hy];rfl)
    have HFM:=hide hfm
    have HBW:=hide hB
    have HKD:=hide hK
    clear hfm hall hB hK
    gi_wp2
    refine ⟨⟨i+1,D::ds,_,_,_,_,_,_,_,_,_,_,_,by omega,rfl,hide ?_,hide ?_,hide ?_⟩,by simp [intOf];omega⟩
    ·exact (HG.out.trans ⟨hbw4.os,hbw4.tape,hbw4.output,hbw4.size,fun k hk _=>hbw4.block k hk⟩).trans ⟨HBW.out.os,HBW.out.tape,HBW.out.output,HBW.out.size,fun k hk _=>HBW.out.block k hk⟩
    ·exact (HR4.out.of_block (HBW.out.block gN (by omega))).congr (fun z _=>by rw [nrF_none HFM.out])
    ·exact mks_next HM.out (by omega) HKD.out (fun k hk hne=>(HBW.out.block k (by omega)).trans (hbw4.block k hk)) HN3'.out
   case stop =>
    rintro D c pre W hD ⟨k,hk,rfl⟩ ⟨rfl,pre',x,e,h1,h2,hg,hr⟩ hK
    have hfm:=find_hit ho.out hn1 (len:=i) (by omega) (Nat.le_of_lt hk) (p:=fun a=>!hasN (Ws (ord.getD i 0)) a) e.symm (fun y hy=>by rw [HGD.out,h1 y hy];rfl) (by rw [HGD.out,h2];rfl)
    have HFM:=hide hfm
    have HGW:=hide hg
    have HRW:=hide hr
    have HKD:=hide hK
    clear hfm h1 h2 hg hr hK e
    gi_wp2
    refine ⟨⟨i+1,D::ds,_,_,_,_,_,_,_,_,_,_,_,by omega,rfl,hide ?_,hide ?_,hide ?_⟩,by simp [intOf];omega⟩
    ·exact (HG.out.trans ⟨hbw4.os,hbw4.tape,hbw4.output,hbw4.size,fun k hk _=>hbw4.block k hk⟩).trans HGW.out
    ·exact HRW.out.congr (fun z _=>by rw [nrF_some HFM.out,HGD.out])
    ·exact mks_next HM.out (by omega) HKD.out (fun k hk hne=>(HGW.out.block k (by omega) (fun e=>hne (by injection e))).trans (hbw4.block k hk)) HN3'.out
  ·have hin:i=n0:=by omega
   subst hin
   have hNr:wr.cell? ⟨w2.heap.size,0,none⟩=some (.slice (some ⟨gN,0,none⟩) n n):=(World.cell?_of_block (HG.out.block w2.heap.size hz3 (fun e=>by injection e with e;omega))).trans HN3.out
   gi_wp2
   refine leaves_mks ds wr HM.out HG.out.size (fun W' hW'=>?_)
   refine ⟨.slice (some ⟨gN,0,none⟩) n n,by simp [results,Tryz.results106,go_sem],gN,Ws,rfl,by omega,?_,?_,HH1.out⟩
   ·exact (HB3.out.grown HG.out hzw (fun k e=>by cases e;omega)).trans (hW'.mono hzw)
   ·exact HR.out.of_block (hW'.block gN (by omega))
end Go.Proofs.YthgikffcdgpgiaaGreatDoor

namespace Go.Proofs.YthgikffcdgpgiaaGreatDoor
open Go.RowKit Go.Shelf
structure FlA (w Y:World) (V:Nat) (a:Option Addr) (n c Kw:Nat) (xs:List Blk) (Gi LB Go:Nat) (go:Nat→Nat) (WO:Nat→Nat→Nat):Prop where
 low:Below w.heap.size w Y
 f0:Y.cell? ⟨w.heap.size,0,none⟩=some (.int .i64 (V:Int))
 f1:Y.cell? ⟨w.heap.size,1,none⟩=some (.slice a n c)
 r0:Y.cell? ⟨w.heap.size+1,0,none⟩=some (.slice none 0 0)
 r1:Y.cell? ⟨w.heap.size+1,1,none⟩=some (.slice none 0 0)
 rz:∀q,Y.frozen? ⟨w.heap.size+1,q,none⟩=false
 gi:Y.rowIs Gi 75 n (fun _=>.slice none 0 0)
 l0:Y.cell? ⟨LB,0,none⟩=some (.slice (some ⟨Gi,0,none⟩) n n)
 l1:Y.cell? ⟨LB,1,none⟩=some (.slice (some ⟨Go,0,none⟩) n n)
 out:SetsAv Y Go n Kw go (fun _=>Kw) WO
 wd:AllWd WO
 has:∀b,b<n→∀v,hasN (WO b) v=true↔(b,v)∈phE xs n
 b1:w.heap.size+2≤Gi
 b2:w.heap.size+2≤LB
 b3:w.heap.size+2≤Go
 b4:∀i,i<n→w.heap.size+2≤go i
 d1:Gi≠LB
 d2:Gi≠Go
 d3:LB≠Go
 d4:∀i,i<n→go i≠Gi∧go i≠LB
set_option maxHeartbeats 1000000 in
theorem places_in (F:Fence) (n:Nat) (h6:F.fn 97) (hro:F.round=none) (v0 v1 v2 v3 v4 v5:Value) (w:World) :
  CallsIn F n Tryz.prog 97 #[.agg #[v0,v1,v2,v3,v4,v5]] w fun e w'=>e=.returned (.func (.func 124) #[] #[.pointer (some ⟨w.heap.size,0,none⟩)])∧w'=w.alloc (.cells #[v0,v1,v2,v3,v4,v5] 57):=by
 refine callsIn_of_wp Tryz.func97 rfl h6 ?_ hro
 simp only [Tryz.ntmps97,List.size_toArray,List.length_cons,List.length_nil,Nat.reduceAdd,Nat.reduceSub,Array.replicate_succ,Array.replicate_zero,List.push_toArray,List.append_toArray,List.nil_append,List.cons_append]
 gi_wp2
 go_ret
 exact ⟨rfl,rfl⟩
theorem SetsAv.setCell {w:World} {G n K:Nat} {gs cp:Nat→Nat} {Ws:Nat→Nat→Nat} (h:SetsAv w G n K gs cp Ws) (p:Addr) (v:Value) (h1:p.block≠G) (h2:∀i,i<n→p.block≠gs i):SetsAv (w.setCell p v) G n K gs cp Ws :=
 ⟨h.row.setOther (fun e=>h1 e.symm) v,fun i hi=>(h.set i hi).setOther (fun e=>h2 i hi e.symm) v,h.inj,h.out⟩
theorem flA_of {w w1 X:World} {V:Nat} {a:Option Addr} {n c Kw:Nat} {xs:List Blk} {Gi LB Go:Nat} {go:Nat→Nat} {WO:Nat→Nat→Nat} (hw1:Below w.heap.size w w1) (hz:w1.heap.size=w.heap.size+2) (HBX:Below w1.heap.size w1 X)
  (f0:w1.cell? ⟨w.heap.size,0,none⟩=some (.int .i64 (V:Int))) (f1:w1.cell? ⟨w.heap.size,1,none⟩=some (.slice a n c)) (r0:w1.cell? ⟨w.heap.size+1,0,none⟩=some (.slice none 0 0)) (r1:w1.cell? ⟨w.heap.size+1,1,none⟩=some (.slice none 0 0)) (rz:∀q,w1.frozen? ⟨w.heap.size+1,q,none⟩=false)
  (GI:X.rowIs Gi 75 n (fun _=>.slice none 0 0)) (LBX:X.rowIs LB 115 2 (fun _=>.slice none 0 0)) (SO:SetsAv X Go n Kw go (fun _=>Kw) WO) (wd:AllWd WO) (hh:∀b,b<n→∀v,hasN (WO b) v=true↔(b,v)∈phE xs n)
  (b1:w.heap.size+2≤Gi) (b2:w.heap.size+2≤LB) (b3:w.heap.size+2≤Go) (b4:∀i,i<n→w.heap.size+2≤go i) (hne:Go≠LB∧Gi≠LB∧Gi≠Go∧∀i,i<n→go i≠Gi∧go i≠LB) :
  FlA w ((X.setCell ⟨LB,0,none⟩ (.slice (some ⟨Gi,0,none⟩) n n)).setCell ⟨LB,1,none⟩ (.slice (some ⟨Go,0,none⟩) n n)) V a n c Kw xs Gi LB Go go WO:=by
 have hl:=(LBX.set 0 (.slice (some ⟨Gi,0,none⟩) n n)).set 1 (.slice (some ⟨Go,0,none⟩) n n)
 have hc:∀p:Addr,p.block<w1.heap.size→p.block≠LB→((X.setCell ⟨LB,0,none⟩ (.slice (some ⟨Gi,0,none⟩) n n)).setCell ⟨LB,1,none⟩ (.slice (some ⟨Go,0,none⟩) n n)).cell? p=w1.cell? p:=fun p h1 h2 =>
  (World.cell?_setCell_far _ _ _ _ (fun e=>h2 e.symm)).trans ((World.cell?_setCell_far _ _ _ _ (fun e=>h2 e.symm)).trans (HBX.cell h1))
 refine ⟨((bnext hw1 HBX).setCell (by show w.heap.size≤LB;omega) _).setCell (by show w.heap.size≤LB;omega) _,(hc _ (by show w.heap.size<_;omega) (by show w.heap.size≠LB;omega)).trans f0,(hc _ (by show w.heap.size<_;omega) (by show w.heap.size≠LB;omega)).trans f1,(hc _ (by show w.heap.size+1<_;omega) (by show w.heap.size+1≠LB;omega)).trans r0,(hc _ (by show w.heap.size+1<_;omega) (by show w.heap.size+1≠LB;omega)).trans r1,fun q=>?_,(GI.setOther hne.2.1 _).setOther hne.2.1 _,(hl.cell (i:=0) (by decide)).trans (by simp),(hl.cell (i:=1) (by decide)).trans (by simp),(SO.setCell _ _ (fun e=>hne.1 e.symm) (fun i hi e=>(hne.2.2.2 i hi).2 e.symm)).setCell _ _ (fun e=>hne.1 e.symm) (fun i hi e=>(hne.2.2.2 i hi).2 e.symm),wd,hh,b1,b2,b3,b4,hne.2.1,hne.2.2.1,fun e=>hne.1 e.symm,hne.2.2.2⟩
 exact (World.frozen?_setCell _ _ _ _).trans ((World.frozen?_setCell _ _ _ _).trans ((HBX.frozen (p:=⟨w.heap.size+1,q,none⟩) (by show w.heap.size+1<_;omega)).trans (rz q)))
end Go.Proofs.YthgikffcdgpgiaaGreatDoor

namespace Go.Proofs.YthgikffcdgpgiaaGreatDoor
open Go.RowKit
structure FlP where
 w:World
 V:Nat
 n:Nat
 c:Nat
 Kw:Nat
 K2:Nat
 a:Option Addr
 xs:List Blk
 Gi:Nat
 LB:Nat
 Go:Nat
 DB:Nat
 Gd:Nat
 Gn:Nat
 bS:Nat
 gS:Nat
 sA:Nat
 s3:Nat
 M:Nat
 go:Nat→Nat
 gd:Nat→Nat
 WO:Nat→Nat→Nat
structure FlD where
 gi:Nat→Nat
 ci:Nat→Nat
 WI:Nat→Nat→Nat
 WD:Nat→Nat→Nat
 nx:Nat→Value
 Ws:Nat→Nat
 vS:Value
 Lf:List Nat
structure FlS (p:FlP):Prop where
 a1:p.w.heap.size+2≤p.Gi∧p.Gi<p.sA
 a2:p.w.heap.size+2≤p.LB∧p.LB<p.sA
 a3:p.w.heap.size+2≤p.Go∧p.Go<p.sA
 a4:∀i,i<p.n→p.w.heap.size+2≤p.go i∧p.go i<p.sA
 d1:p.Gi≠p.LB
 d2:p.Gi≠p.Go
 d3:p.LB≠p.Go
 d4:∀i,i<p.n→p.go i≠p.Gi∧p.go i≠p.LB
 a5:p.sA≤p.Gd∧p.Gd<p.s3
 a6:∀i,i<p.n→p.sA≤p.gd i∧p.gd i<p.s3
 a7:p.DB=p.s3
 a8:p.Gn=p.s3+1
 a9:p.s3+2≤p.bS∧p.bS<p.M
 a10:p.s3+2≤p.gS∧p.gS<p.M
 a11:p.bS≠p.gS
def tgI (xs:List Blk) (i:Nat):List Int:=(xs[i]?).elim [] fun x=>x.term.targets
theorem tgI_at {xs:List Blk} {i:Nat} (h:i<xs.length):tgI xs i=xs[i].term.targets:=by simp [tgI,h]
structure FlK (p:FlP) (W:World) (k:Nat) (d:FlD):Prop where
 low:Below p.w.heap.size p.w W
 sz:p.M≤W.heap.size
 f0:W.cell? ⟨p.w.heap.size,0,none⟩=some (.int .i64 (p.V:Int))
 f1:W.cell? ⟨p.w.heap.size,1,none⟩=some (.slice p.a p.n p.c)
 r0:W.cell? ⟨p.w.heap.size+1,0,none⟩=some (.slice none 0 0)
 r1:W.cell? ⟨p.w.heap.size+1,1,none⟩=some (.slice none 0 0)
 rz:∀q,W.frozen? ⟨p.w.heap.size+1,q,none⟩=false
 l0:W.cell? ⟨p.LB,0,none⟩=some (.slice (some ⟨p.Gi,0,none⟩) p.n p.n)
 l1:W.cell? ⟨p.LB,1,none⟩=some (.slice (some ⟨p.Go,0,none⟩) p.n p.n)
 d0:W.cell? ⟨p.DB,0,none⟩=some (.slice (some ⟨p.Gd,0,none⟩) p.n p.n)
 out:SetsAv W p.Go p.n p.Kw p.go (fun _=>p.Kw) p.WO
 inr:W.rowIs p.Gi 75 p.n (fun i=>if i<k then .slice (some ⟨d.gi i,0,none⟩) p.Kw (d.ci i) else .slice none 0 0)
 ins:∀i,i<k→WsAt W (d.gi i) p.Kw (d.ci i) (d.WI i)
 inj:∀i j,i<k→j<k→d.gi i=d.gi j→i=j
 igM:∀i,i<k→p.M≤d.gi i
 defs:SetsAv W p.Gd p.n p.Kw p.gd (fun _=>p.Kw) d.WD
 nxr:W.rowIs p.Gn 26 p.n (fun i=>if i<k then d.nx i else .slice none 0 0)
 nxs:∀i,i<k→∃a' c',d.nx i=.slice a' (tgI p.xs i).length c'∧IntsP W (fun b=>p.M≤b∧(∀j,j<k→b≠d.gi j)∧some b≠d.vS.ownBlock) a' (tgI p.xs i)
 sea:SeaAt W p.bS p.gS p.M p.K2 p.a p.n p.c d.Ws d.vS d.Lf
 giv:∀i,i<k→some (d.gi i)≠d.vS.ownBlock
def updN {α:Type} (f:Nat→α) (k:Nat) (v:α):Nat→α:=fun i=>if i=k then v else f i
theorem updN_at {α:Type} (f:Nat→α) (k:Nat) (v:α):updN f k v k=v:=by simp [updN]
theorem updN_ne {α:Type} (f:Nat→α) (k:Nat) (v:α) {i:Nat} (h:i≠k):updN f k v i=f i:=by simp [updN,h]
theorem FlK.next {p:FlP} {W W':World} {k:Nat} {d:FlD} (h:FlK p W k d) (s:FlS p) (hk:k<p.n) {gB CB:Nat} {I' D':Nat→Nat} {nk v':Value} {Ws':Nat→Nat} {Lf':List Nat}
  (hos:W'.os=W.os) (htp:W'.tape=W.tape) (hop:W'.output=W.output) (hsz:W.heap.size≤W'.heap.size)
  (fr:∀q,q<W.heap.size→q≠p.Gi→q≠p.gd k→q≠p.Gn→q≠p.bS→q≠p.gS→some q≠d.vS.ownBlock→W'.heap[q]?=W.heap[q]?)
  (hgB:W.heap.size≤gB) (hI:WsAt W' gB p.Kw CB I') (hGi:W'.rowIs p.Gi 75 p.n (fun i=>if i=k then .slice (some ⟨gB,0,none⟩) p.Kw CB else if i<k then .slice (some ⟨d.gi i,0,none⟩) p.Kw (d.ci i) else .slice none 0 0))
  (hD:WsAt W' (p.gd k) p.Kw p.Kw D') (hGn:W'.rowIs p.Gn 26 p.n (fun i=>if i=k then nk else if i<k then d.nx i else .slice none 0 0))
  (hnk:∃a' c',nk=.slice a' (tgI p.xs k).length c'∧IntsP W' (fun b=>W.heap.size≤b∧b≠gB∧some b≠v'.ownBlock) a' (tgI p.xs k))
  (hs:SeaAt W' p.bS p.gS p.M p.K2 p.a p.n p.c Ws' v' Lf') (hv:v'.ownBlock=d.vS.ownBlock∨∀q,v'.ownBlock=some q→W.heap.size≤q) (hvB:some gB≠v'.ownBlock) :
  FlK p W' (k+1) ⟨updN d.gi k gB,updN d.ci k CB,updN d.WI k I',updN d.WD k D',updN d.nx k nk,Ws',v',Lf'⟩:=by
 have hvM:∀q,d.vS.ownBlock=some q→p.M≤q:=fun q e=>(h.sea.own.lt q e).1
 have hM:=s.a9
 have hM2:=s.a10
 have hG:=s.a5
 have hz:=h.sz
 have hw:=h.low.size
 have h7:=s.a7
 have h8:=s.a8
 have hgk:=s.a6 k hk
 have lowb:∀q,q<p.M→q≠p.Gi→q≠p.gd k→q≠p.Gn→q≠p.bS→q≠p.gS→W'.heap[q]?=W.heap[q]?:=fun q h1 h2 h3 h4 h5 h6=>fr q (by omega) h2 h3 h4 h5 h6 (fun e=>by have:=hvM q e.symm;omega)
 have a1:=s.a1
 have a2:=s.a2
 have a3:=s.a3
 have cA:∀q o v,q<p.sA→q≠p.Gi→W.cell? ⟨q,o,none⟩=some v→W'.cell? ⟨q,o,none⟩=some v:=fun q o v h1 h2 hc=>(cell_of (lowb q (by omega) h2 (by omega) (by omega) (by omega) (by omega))).trans hc
 have up:∀q,p.M≤q→q<W.heap.size→some q≠d.vS.ownBlock→W'.heap[q]?=W.heap[q]?:=fun q h1 h2 h3=>fr q h2 (by omega) (by omega) (by omega) (by omega) (by omega) h3
 refine ⟨⟨hos.trans h.low.os,htp.trans h.low.tape,hop.trans h.low.output,Nat.le_trans hw hsz,fun q hq=>(lowb q (by omega) (by omega) (by omega) (by omega) (by omega) (by omega)).trans (h.low.block q hq)⟩,Nat.le_trans hz hsz,cA _ _ _ (by omega) (by omega) h.f0,cA _ _ _ (by omega) (by omega) h.f1,cA _ _ _ (by omega) (by omega) h.r0,cA _ _ _ (by omega) (by omega) h.r1,fun q=>?rz,cA _ _ _ a2.2 (fun e=>s.d1 e.symm) h.l0,cA _ _ _ a2.2 (fun e=>s.d1 e.symm) h.l1,(cell_of (lowb p.DB (by omega) (by omega) (by omega) (by omega) (by omega) (by omega))).trans h.d0,?out,?inr,?ins,?inj,?igM,?defs,?nxr,?nxs,hs,?giv⟩
 case rz=>rw [World.frozen?_of_block (a:=⟨p.w.heap.size+1,q,none⟩) (lowb (p.w.heap.size+1) (by omega) (by omega) (by omega) (by omega) (by omega) (by omega))];exact h.rz q
 case out =>
  refine ⟨h.out.row.of_block (lowb p.Go (by omega) (fun e=>s.d2 e.symm) (by omega) (by omega) (by omega) (by omega)),fun i hi=>?_,h.out.inj,h.out.out⟩
  have:=s.a4 i hi
  exact (h.out.set i hi).of_block (lowb _ (by omega) (s.d4 i hi).1 (by omega) (by omega) (by omega) (by omega))
 case inr =>
  refine hGi.congr (fun i _=>?_)
  by_cases e:i=k
  ·rw [if_pos e,if_pos (by omega),e];simp only [updN_at]
  ·rw [if_neg e]
   by_cases e2:i<k
   ·rw [if_pos e2,if_pos (by omega)];simp only [updN_ne _ _ _ e]
   ·rw [if_neg e2,if_neg (by omega)]
 case ins =>
  intro i hi
  by_cases e:i=k
  ·subst e;simp only [updN_at];exact hI
  ·have hi2:i<k:=by omega
   simp only [updN_ne _ _ _ e]
   exact (h.ins i hi2).of_block (up _ (h.igM i hi2) (h.ins i hi2).lt (h.giv i hi2))
 case inj =>
  intro i j hi hj e
  by_cases e1:i=k
  ·by_cases e2:j=k
   ·omega
   ·simp only [e1,updN_at,updN_ne _ _ _ e2] at e
    have:=(h.ins j (by omega)).lt
    omega
  ·by_cases e2:j=k
   ·simp only [e2,updN_at,updN_ne _ _ _ e1] at e
    have:=(h.ins i (by omega)).lt
    omega
   ·simp only [updN_ne _ _ _ e1,updN_ne _ _ _ e2] at e
    exact h.inj i j (by omega) (by omega) e
 case igM =>
  intro i hi
  by_cases e:i=k
  ·subst e;simp only [updN_at];omega
  ·simp only [updN_ne _ _ _ e];exact h.igM i (by omega)
 case defs =>
  refine ⟨h.defs.row.of_block (lowb p.Gd (by omega) (by omega) (fun e=>h.defs.out k hk e.symm) (by omega) (by omega) (by omega)),fun i hi=>?_,h.defs.inj,h.defs.out⟩
  by_cases e:i=k
  ·subst e;simp only [updN_at];exact hD
  ·simp only [updN_ne _ _ _ e]
   have:=s.a6 i hi
   exact (h.defs.set i hi).of_block (lowb _ (by omega) (by omega) (fun e2=>e (h.defs.inj i k hi hk e2)) (by omega) (by omega) (by omega))
 case nxr =>
  refine hGn.congr (fun i _=>?_)
  by_cases e:i=k
  ·rw [if_pos e,if_pos (by omega),e];simp only [updN_at]
  ·rw [if_neg e]
   by_cases e2:i<k
   ·rw [if_pos e2,if_pos (by omega)];simp only [updN_ne _ _ _ e]
   ·rw [if_neg e2,if_neg (by omega)]
 case nxs =>
  intro i hi
  by_cases e:i=k
  ·subst e
   simp only [updN_at]
   obtain ⟨a',c',e1,h1⟩:=hnk
   refine ⟨a',c',e1,fun q hq=>?_⟩
   obtain ⟨b,o,e2,hb,hc⟩:=h1 q hq
   refine ⟨b,o,e2,⟨⟨by omega,fun j hj=>?_,hb.1.2.2⟩,hb.2⟩,hc⟩
   by_cases ej:j=i
   ·rw [ej];simp only [updN_at];exact hb.1.2.1
   ·simp only [updN_ne _ _ _ ej]
    have:=(h.ins j (by omega)).lt
    omega
  ·have hi2:i<k:=by omega
   simp only [updN_ne _ _ _ e]
   obtain ⟨a',c',e1,h1⟩:=h.nxs i hi2
   refine ⟨a',c',e1,fun q hq=>?_⟩
   obtain ⟨b,o,e2,hb,hc⟩:=h1 q hq
   refine ⟨b,o,e2,⟨⟨hb.1.1,fun j hj=>?_,fun ev=>?_⟩,by omega⟩,(cell_of (up b hb.1.1 hb.2 hb.1.2.2)).trans hc⟩
   ·by_cases ej:j=k
    ·rw [ej];simp only [updN_at];omega
    ·simp only [updN_ne _ _ _ ej]
     exact hb.1.2.1 j (by omega)
   ·rcases hv with hv | hv
    ·rw [hv] at ev;exact hb.1.2.2 ev
    ·have:=hv b ev.symm;omega
 case giv =>
  intro i hi
  by_cases e:i=k
  ·subst e;simp only [updN_at];exact hvB
  ·have hi2:i<k:=by omega
   simp only [updN_ne _ _ _ e]
   intro ev
   rcases hv with hv | hv
   ·rw [hv] at ev;exact h.giv i hi2 ev
   ·have:=hv _ ev.symm;have:=(h.ins i hi2).lt;omega
end Go.Proofs.YthgikffcdgpgiaaGreatDoor

namespace Go.Proofs.YthgikffcdgpgiaaGreatDoor
open Go.RowKit
theorem flK_start {w Y w3 W0:World} {V:Nat} {a:Option Addr} {n c Kw:Nat} {xs:List Blk} {Gi LB Go:Nat} {go:Nat→Nat} {WO:Nat→Nat→Nat} (h:FlA w Y V a n c Kw xs Gi LB Go go WO) {Gd:Nat} {gd:Nat→Nat} (hGd:Y.heap.size≤Gd) (hb3:Below Y.heap.size Y w3) (hs3:SetsAv w3 Gd n Kw gd (fun _=>Kw) (fun _ _=>0)) (hgd:∀i,i<n→Y.heap.size≤gd i)
  {bS gS:Nat} (hbS:w3.heap.size+2≤bS) (hgS:w3.heap.size+2≤gS) (hb6:Below (w3.heap.size+2) ((w3.alloc (.cells #[.slice (some ⟨Gd,0,none⟩) n n] 113)).alloc (.cells (madeCells #[.slice none 0 0] n) 26)) W0) (hsea:SeaAt W0 bS gS W0.heap.size ((n+63) / 64) a n c (fun _=>0) (.slice none 0 0) []) :
  FlS ⟨w,V,n,c,Kw,(n+63) / 64,a,xs,Gi,LB,Go,w3.heap.size,Gd,w3.heap.size+1,bS,gS,Y.heap.size,w3.heap.size,W0.heap.size,go,gd,WO⟩∧FlK ⟨w,V,n,c,Kw,(n+63) / 64,a,xs,Gi,LB,Go,w3.heap.size,Gd,w3.heap.size+1,bS,gS,Y.heap.size,w3.heap.size,W0.heap.size,go,gd,WO⟩ W0 0 ⟨fun _=>0,fun _=>0,fun _ _=>0,fun _ _=>0,fun _=>.slice none 0 0,fun _=>0,.slice none 0 0,[]⟩:=by
 have hz3:=hb3.size
 have hw5:((w3.alloc (.cells #[.slice (some ⟨Gd,0,none⟩) n n] 113)).alloc (.cells (madeCells #[.slice none 0 0] n) 26)).heap.size=w3.heap.size+2:=by simp
 have h35:Below w3.heap.size w3 ((w3.alloc (.cells #[.slice (some ⟨Gd,0,none⟩) n n] 113)).alloc (.cells (madeCells #[.slice none 0 0] n) 26)):=balloc (balloc (Below.refl _ _) _) _
 have hz6:w3.heap.size+2≤W0.heap.size:=by have:=hb6.size;omega
 have hB36:Below w3.heap.size w3 W0:=h35.trans (hb6.mono (by omega))
 have hBY:Below Y.heap.size Y W0:=bnext hb3 hB36
 have hwY:=h.low.size
 have gi:=h.gi.lt
 have gl:=World.block_lt_of_cell? Y _ h.l0
 have gg:=h.out.row.lt
 have b1:=h.b1
 have b2:=h.b2
 have b3:=h.b3
 have hnr:((w3.alloc (.cells #[.slice (some ⟨Gd,0,none⟩) n n] 113)).alloc (.cells (madeCells #[.slice none 0 0] n) 26)).rowIs (w3.heap.size+1) 26 n (fun _=>.slice none 0 0):=by
  have:=World.rowIs_made (w3.alloc (.cells #[.slice (some ⟨Gd,0,none⟩) n n] 113)) (.slice none 0 0) n 26
  rwa [World.size_alloc] at this
 have cY:∀p:Addr,p.block<Y.heap.size→W0.cell? p=Y.cell? p:=fun p hp=>hBY.cell hp
 have gl':LB<Y.heap.size:=gl
 refine ⟨⟨⟨b1,gi⟩,⟨b2,gl⟩,⟨b3,gg⟩,fun i hi=>⟨h.b4 i hi,(h.out.set i hi).lt⟩,h.d1,h.d2,h.d3,h.d4,⟨hGd,hs3.row.lt⟩,fun i hi=>⟨hgd i hi,(hs3.set i hi).lt⟩,rfl,rfl,⟨hbS,hsea.lb⟩,⟨hgS,hsea.lg⟩,hsea.ne⟩,?_⟩
 refine ⟨bnext h.low hBY,Nat.le_refl _,(cY _ (by show w.heap.size<_;omega)).trans h.f0,(cY _ (by show w.heap.size<_;omega)).trans h.f1,(cY _ (by show w.heap.size+1<_;omega)).trans h.r0,(cY _ (by show w.heap.size+1<_;omega)).trans h.r1,fun q=>(hBY.frozen (p:=⟨w.heap.size+1,q,none⟩) (by show w.heap.size+1<_;omega)).trans (h.rz q),(cY _ gl').trans h.l0,(cY _ gl').trans h.l1,(hb6.cell (p:=⟨w3.heap.size,0,none⟩) (by show w3.heap.size<_;omega)).trans (by simp [go_sem]),h.out.keep hBY,(h.gi.of_block (hBY.block _ gi)).congr (fun i _=>by simp),fun i hi=>absurd hi (by omega),fun i j hi=>absurd hi (by omega),fun i hi=>absurd hi (by omega),hs3.keep hB36,(hnr.of_block (hb6.block _ (by omega))).congr (fun i _=>by simp),fun i hi=>absurd hi (by omega),hsea,fun i hi=>absurd hi (by omega)⟩
end Go.Proofs.YthgikffcdgpgiaaGreatDoor
