import Derived.Test.YtdfdmjcngkfciaaDoorNSb
import Derived.Test.YtdfdmjcngkfciaaDoorW7
import Derived.Laws.CopyOwn
import Derived.Test.YtdfdmjcngkfciaaDoorDM4
namespace Go.Proofs.YtdfdmjcngkfciaaDoor
open Go.RowKit
theorem copy_const (g k n dC b o s sC m:Nat) (v:Value) (f:Nat→Value) (W:World) (hr:W.rowIs g 2 n f) (hk:k≤n) (hv:v.oneCell'=true) (hm:m=Nat.min s (n-k)) (hs:∀j,j<m→W.cell? ⟨b,o+j,none⟩=some v) :
  ∃W',Sem.run Tryd.prog (Builtin.copy_ #[29,29] 3 #[.slice (some ⟨g,k,none⟩) (n-k) dC,.slice (some ⟨b,o,none⟩) s sC]) W=.ok (goInt m) W'∧W.grownBy W' (some g)∧W'.rowIs g 2 n (fun i=>if k≤i∧i<k+m then v else f i):=by
 obtain ⟨c,h1,h2,h3⟩:=hr
 have hmn:m≤n-k:=by rw [hm];exact Nat.min_le_right _ _
 have h:=run_copy_row (P:=Tryd.prog) W 29 29 3 2 g k (n-k) dC ⟨b,o,none⟩ s sC c 2 (List.replicate m v) Tryd.underlying29 (by kernel_rfl) h1 (by rw [List.length_replicate];exact hm) (fun j u hj=>by
  rw [List.getElem?_replicate] at hj
  split at hj
  ·rename_i hlt
   injection hj with hj
   rw [←hj]
   rw [Addr.add_lit]
   exact hs j hlt
  ·cases hj) (by rw [List.length_replicate];omega) (fun u hu=>by rw [List.eq_of_mem_replicate hu];exact hv)
 rw [List.length_replicate] at h
 refine ⟨_,h,⟨rfl,rfl,rfl,by simp,fun j _ hj=>setRow_other _ _ _ _ (fun e=>hj (by rw [e]))⟩,⟨_,setRow_heap _ _ _ _ _ _ h1,?_,fun i hi=>?_⟩⟩
 ·simp [h2];omega
 ·have hi':c[i]?=some (f i):=h3 i hi
  simp only [List.getElem?_toArray]
  by_cases a1:i<k
  ·rw [if_neg (by omega),List.getElem?_append_left (by simp;omega),List.getElem?_append_left (by simp;omega),List.getElem?_take_of_lt a1]
   simpa using hi'
  ·by_cases a2:i<k+m
   ·rw [if_pos ⟨by omega,a2⟩,List.getElem?_append_left (by simp;omega),List.getElem?_append_right (by simp;omega)]
    simp [List.getElem?_replicate]
    omega
   ·rw [if_neg (by omega),List.getElem?_append_right (by simp;omega),List.getElem?_drop]
    have:k+m+(i-(List.take k c.toList++List.replicate m v).length)=i:=by simp;omega
    rw [this]
    simpa using hi'
theorem and_mask {n:Nat} (hn:n≤1000):bits .and .u64 (n:Int) 4294967295=(n:Int):=by
 have h:n &&& 4294967295=n:=by
  have:=Nat.and_two_pow_sub_one_eq_mod n 32
  rw [show (2 ^ 32-1:Nat)=4294967295 from rfl] at this
  rw [this]
  omega
 rw [show (4294967295:Int)=((4294967295:Nat):Int) from rfl,u64_and_nat _ _ (by omega) (by decide),h]
set_option maxHeartbeats 1000000 in
set_option maxRecDepth 100000 in
theorem mul64_any (n:Nat) (w:World) (hn:n≤1000) :
  Calls Tryd.prog 67 #[.int .u64 1,.int .u64 n] w fun e w'=>e=.returned (.tuple #[.int .u64 0,.int .u64 n])∧w'=w:=by
 have b1:bits .and .u64 1 4294967295=1:=by decide
 have b0:bits .and .u64 0 4294967295=0:=by decide
 have bn:=and_mask hn
 have d0:(n:Int) / 4294967296=0:=by omega
 have wn:IntKind.u64.wrap (n:Int)=n:=by simp [IntKind.wrap,IntKind.bits,IntKind.signed];omega
 have w0:IntKind.u64.wrap 0=0:=by decide
 go_enter Tryd.func67,Tryd.ntmps67
 go_wp2_with fail
 refine bodyPost_ret (v:=.tuple #[.int .u64 0,.int .u64 n]) (by simp [results,Tryd.results67,go_sem]) rfl ⟨rfl,rfl⟩
set_option maxHeartbeats 1000000 in
set_option maxRecDepth 100000 in
theorem mul_any (n:Nat) (w:World) (hn:n≤1000) :
  Calls Tryd.prog 56 #[.int .u64 1,.int .u64 n] w fun e w'=>e=.returned (.tuple #[.int .u64 0,.int .u64 n])∧w'=w:=by
 have HM:=hide (fun W=>mul64_any n W hn)
 go_enter Tryd.func56,Tryd.ntmps56
 go_wp2_with fail
 refine (HM.out _).mono ?_
 rintro e w1 ⟨rfl,rfl⟩
 go_wp2_with fail
 refine bodyPost_ret (v:=.tuple #[.int .u64 0,.int .u64 n]) (by simp [results,Tryd.results56,go_sem]) rfl ⟨rfl,rfl⟩
set_option maxHeartbeats 1000000 in
set_option maxRecDepth 100000 in
theorem repeat_any (b n:Nat) (w:World) (hn:n≤1000) (h0:0<n) (hc:w.cell? ⟨b,0,none⟩=some (.int .i64 (-1))) (hb:b<w.heap.size) :
  Calls Tryd.prog 40 #[.slice (some ⟨b,0,none⟩) 1 1,.int .i64 n] w fun e w'=>∃g,e=.returned (.slice (some ⟨g,0,none⟩) n n)∧w.heap.size≤g∧Below w.heap.size w w'∧w'.rowIs g 2 n (fun _=>.int .i64 (-1)):=by
 have HM:=hide (fun W=>mul_any n W hn)
 have hmk:=run_make_row' (P:=Tryd.prog) 29 2 (.int .i64 0) 8 Tryd.underlying29 Tryd.info2' rfl .i64 .i64 n (by omega) (by omega)
 have hmin:Nat.min 1 (n-0)=1:=Nat.min_eq_left (by omega)
 obtain ⟨W1,hcp,hg1,hr1⟩:=copy_const w.heap.size 0 n n b 0 1 1 1 (.int .i64 (-1)) _ (w.alloc (.cells (madeCells #[.int .i64 0] n) 2)) (World.rowIs_made w (.int .i64 0) n 2) (Nat.zero_le _) rfl hmin.symm (fun j hj=>by
  have:j=0:=by omega
  subst this
  exact (World.cell?_alloc_lt _ _ _ hb).trans hc)
 rw [Nat.sub_zero] at hcp
 have HR1:=hide hr1
 have HG1:=hide hg1
 clear hr1 hg1
 go_enter Tryd.func40,Tryd.ntmps40
 go_wp2_with fail
 refine (HM.out _).mono ?_
 rintro e w1 ⟨rfl,hw⟩
 rw [hw]
 clear hw w1
 go_wp2_with fail
 generalize decide ((n:Int)<0)=br1
 generalize decide (9223372036854775807<(n:Int))=br2
 have HR0:Hid (W1.rowIs w.heap.size 2 n (fun i=>.int .i64 (if i<1 then -1 else 0))):=hide (HR1.out.congr (fun i _=>by by_cases h:i<1<;>simp [h]))
 have HB0:Hid (Below w.heap.size w W1):=hide ((balloc (Below.refl _ w) _).grown HG1.out (by simp) (fun k e=>by cases e;exact Nat.le_refl _))
 clear HR1 HG1 hcp hc hmin
 go_loopw [8] (fun u wr=>∃k:Nat,1≤k∧k≤n∧u=.int .i64 k∧Hid (Below w.heap.size w wr)∧Hid (wr.rowIs w.heap.size 2 n (fun i=>.int .i64 (if i<k then -1 else 0)))) (fun u _=>n-(intOf u).toNat)
 case atStart=>exact ⟨1,Nat.le_refl _,h0,rfl,HB0,HR0⟩
 case round =>
  clear HB0 HR0
  obtain ⟨k,hk1,hkn,rfl,HB,HR⟩:=hrel
  by_cases hlt:k<n
  ·obtain ⟨m,hm⟩:∃m,m=Nat.min k (n-k):=⟨_,rfl⟩
   have hm1:m≤k:=by rw [hm];exact Nat.min_le_left _ _
   have hm2:m≤n-k:=by rw [hm];exact Nat.min_le_right _ _
   have hm3:0<m:=by rw [hm];exact Nat.lt_min.2 ⟨hk1,by omega⟩
   obtain ⟨W2,hcp,hg2,hr2⟩:=copy_const w.heap.size k n (n-k) w.heap.size 0 k n m (.int .i64 (-1)) (fun i=>.int .i64 (if i<k then -1 else 0)) wr.drew HR.out hkn rfl hm (fun j hj=>by
    rw [Nat.zero_add]
    have:=HR.out.cell (i:=j) (by omega)
    rw [if_pos (by omega)] at this
    exact this)
   have HR2:Hid (W2.rowIs w.heap.size 2 n (fun i=>.int .i64 (if i<k+m then -1 else 0))):=hide (hr2.congr (fun i _=>by
    by_cases h1:i<k
    ·simp [h1]
     omega
    ·by_cases h2:i<k+m
     ·simp [h1,h2]
     ·simp [h1,h2]))
   have HB2:Hid (Below w.heap.size w W2):=hide (HB.out.drew.grown hg2 HB.out.size (fun k e=>by cases e;exact Nat.le_refl _))
   clear HB HR hr2 hg2 hm
   go_wp2
   go_region
   go_wp2
   exact ⟨⟨k+m,by omega,by omega,by go_num,HB2,HR2⟩,by simp [intOf];omega⟩
  ·have:k=n:=by omega
   subst this
   have HE:Hid (wr.rowIs w.heap.size 2 k (fun _=>.int .i64 (-1))):=hide (HR.out.congr (fun i hi=>by simp [hi]))
   clear HR
   go_wp2_with fail
   go_ret
   exact ⟨_,rfl,Nat.le_refl _,HB.out,HE.out⟩
end Go.Proofs.YtdfdmjcngkfciaaDoor

namespace Go.Proofs.YtdfdmjcngkfciaaDoor
open Go.RowKit Go.Shelf
attribute [local go_sem] Oper.semAt_some
def mks (ds:List Nat):List Deferred:=ds.map fun D=>{ target:=.collected D,args:=#[] }
structure MksAt (W:World) (B:Nat) (ds:List Nat):Prop where
 nd:ds.Nodup
 ge:∀D∈ds,B≤D
 obj:∀D∈ds,W.heap[D]?=some (.deferred (some []))
theorem leaves_mks {F:Fence} {n:Nat} {P:Program} {fn:Func} {tmps:Array Value} {R:Ending→World→Prop} {B:Nat}:∀(ds:List Nat) (W:World),MksAt W B ds→B≤W.heap.size→(∀W',Below B W W'→∃v,(results fn tmps).run P W'=.ok v W'∧R (.returned v) W')→LeavesInM F n P fn tmps R (mks ds) .returning W
 | [],W,_,_,h=>h W (Below.refl _ _)
 | D::ds,W,hm,hB,h=>by
  refine ⟨by simp,Or.inl ⟨D,_,rfl,run_takeDeferred (hm.obj D List.mem_cons_self),?_⟩⟩
  have hD:=hm.ge D List.mem_cons_self
  have hb:Below B W (W.putObj D (.deferred none)):=(Below.refl B W).grown (grownBy_putObj' W D _) hB (fun k e=>by cases e;exact hD)
  refine leaves_mks ds _ ⟨(List.nodup_cons.1 hm.nd).2,fun k hk=>hm.ge k (List.mem_cons_of_mem _ hk),fun k hk=>?_⟩ (Nat.le_trans hB hb.size) (fun W' k=>h W' (hb.trans k))
  exact (World.putObj_heap_other (fun e=>(List.nodup_cons.1 hm.nd).1 (by rw [←e];exact hk))).trans (hm.obj k (List.mem_cons_of_mem _ hk))
theorem mks_next {wr W:World} {B D gN:Nat} {ds:List Nat} (h:MksAt wr B ds) (hD:wr.heap.size≤D) (hK:W.heap[D]?=some (.deferred (some []))) (hb:∀k,k<wr.heap.size→k≠gN→W.heap[k]?=wr.heap[k]?) (hB:gN<B∧B≤wr.heap.size):MksAt W B (D::ds):=by
 have hl:∀k∈ds,k<wr.heap.size:=fun k hk=>(Array.getElem?_eq_some_iff.1 (h.obj k hk)).1
 refine ⟨List.nodup_cons.2 ⟨fun k=>by have:=hl D k;omega,h.nd⟩,fun k hk=>?_,fun k hk=>?_⟩
 ·rcases List.mem_cons.1 hk with rfl | hk
  ·omega
  ·exact h.ge k hk
 ·rcases List.mem_cons.1 hk with rfl | hk
  ·exact hK
  ·exact (hb k (hl k hk) (by have:=h.ge k hk;omega)).trans (h.obj k hk)
set_option maxHeartbeats 2000000 in
set_option maxRecDepth 100000 in
theorem nearest_any (pa:Option Addr) (n pc b0 o0 n0 c0:Nat) (src:List (List Nat)) (ord:List Nat) (L1 B1 L2 B2:Nat) (w:World) (hsrc:Hid (IntssAt w L2 B2 pa (src.map natI))) (hs:Hid (n=src.length)) (hord:Hid (IntsAt w L1 B1 (some ⟨b0,o0,none⟩) (natI ord))) (h0:Hid (n0=ord.length)) (hn:n≤1000) (hn1:0<n) (hn0:n0≤1000) (hn0':0<n0) (hc0:n0≤c0) (hB1:B1≤w.heap.size) (hB2:B2≤w.heap.size) (ho:Hid (∀b∈ord,b<n)) (hsr:Hid (∀l∈src,l.length≤2000∧∀t∈l,t<n)) :
  Calls Tryd.prog 17 #[.slice pa n pc,.slice (some ⟨b0,o0,none⟩) n0 c0] w fun e w'=>∃g Ws,e=.returned (.slice (some ⟨g,0,none⟩) n n)∧w.heap.size≤g∧Below w.heap.size w w'∧w'.rowIs g 2 n (fun z=>.int .i64 (nrF Ws ord n0 z))∧∀b,b<n→∀x,x<n→(hasN (Ws b) x=true↔Sp (Iav n) (Tse n) (·∈ord) (fun b=>src.getD b []) b x):=by
 have HAV:=hide (fun W (hb:Below w.heap.size w W)=>avoided_any pa n pc b0 o0 n0 c0 src ord L1 B1 L2 B2 W (hide (hsrc.out.keepS (fun k _ h2=>(hb.mono hB2).block k h2))) hs (hide (hord.out.keep (hb.mono hB1))) h0 hn hn1 hn0 hn0' (by have:=hb.size;omega) (by have:=hb.size;omega) ho hsr)
 have hKb:(n+63) / 64≤16:=by omega
 have hKn:n≤64*((n+63) / 64):=by omega
 generalize (n+63) / 64=K at *
 refine (callsIn_wide (n:=4)).1 ?_
 refine callsIn_of_wp_marks Tryd.func17 rfl trivial ?_ rfl
 simp only [Tryd.ntmps17,List.size_toArray,List.length_cons,List.length_nil,Nat.reduceAdd,Nat.reduceSub,Array.replicate_succ,Array.replicate_zero,List.push_toArray,List.append_toArray,List.nil_append,List.cons_append]
 gi_wp2
 refine ⟨trivial,(callsIn_wide.2 (HAV.out w (Below.refl _ _))).mono ?_⟩
 rintro e w1 ⟨G,gs,Ws,rfl,hb1,hs1,hw1,hh1⟩
 have HB1:=hide hb1
 have HS1:=hide hs1
 have HW1:=hide hw1
 have HH1:=hide hh1
 have hGl:G<w1.heap.size:=hs1.row.lt
 have HGL:Hid (∀i,i<n→gs i<w1.heap.size):=hide (fun i hi=>(hs1.set i hi).lt)
 have hz1:=hb1.size
 clear hb1 hs1 hw1 hh1 HAV
 gi_wp2
 refine ⟨trivial,(callsIn_wide.2 (repeat_any (w1.heap.size+1) n ((w1.alloc (.cells #[.slice (some ⟨G,0,none⟩) n n] 82)).alloc (.cells #[.int .i64 (-1)] 2)) hn hn1 (by simp [go_sem]) (by simp))).mono ?_⟩
 rintro e w2 ⟨gN,rfl,hgN,hb2,hr2⟩
 have HB2:Hid (Below w.heap.size w w2):=hide (bnext (balloc (balloc HB1.out _) _) hb2)
 have hz2:w1.heap.size+2≤w2.heap.size:=by have:=hb2.size;simp at this;omega
 have hgN1:w1.heap.size+2≤gN:=by simp at hgN;omega
 have hgN2:gN<w2.heap.size:=hr2.lt
 have HS2:=hide ((HS1.out.keep (balloc (balloc (Below.refl _ _) _) _)).keep hb2)
 have hA2:w2.cell? ⟨w1.heap.size,0,none⟩=some (.slice (some ⟨G,0,none⟩) n n):=(hb2.cell (p:=⟨w1.heap.size,0,none⟩) (by show w1.heap.size<_;simp;omega)).trans (by simp [go_sem])
 have HR2:=hide hr2
 clear hb2 hr2 hgN HB1 HS1
 gi_wp2
 have HB3:Hid (Below w.heap.size w (w2.alloc (.cells #[.slice (some ⟨gN,0,none⟩) n n] 29))):=hide (balloc HB2.out _)
 have HR3:Hid ((w2.alloc (.cells #[.slice (some ⟨gN,0,none⟩) n n] 29)).rowIs gN 2 n (fun z=>.int .i64 (nrF Ws ord 0 z))):=hide (HR2.out.alloc _)
 have HS3:=hide (HS2.out.keep (balloc (Below.refl _ _) (.cells #[.slice (some ⟨gN,0,none⟩) n n] 29)))
 have hA3:(w2.alloc (.cells #[.slice (some ⟨gN,0,none⟩) n n] 29)).cell? ⟨w1.heap.size,0,none⟩=some (.slice (some ⟨G,0,none⟩) n n):=(World.cell?_alloc_lt _ _ _ (by show w1.heap.size<_;omega)).trans hA2
 have hN3:(w2.alloc (.cells #[.slice (some ⟨gN,0,none⟩) n n] 29)).cell? ⟨w2.heap.size,0,none⟩=some (.slice (some ⟨gN,0,none⟩) n n):=by simp [go_sem]
 have hz3:w2.heap.size<(w2.alloc (.cells #[.slice (some ⟨gN,0,none⟩) n n] 29)).heap.size:=by simp
 clear HB2 HR2 HS2 hA2
 generalize w2.alloc (.cells #[.slice (some ⟨gN,0,none⟩) n n] 29)=w3 at *
 have HA3:=hide hA3
 have HN3:=hide hN3
 have HO3:Hid (IntsAt w3 L1 B1 (some ⟨b0,o0,none⟩) (natI ord)):=hide (hord.out.keep (HB3.out.mono hB1))
 have hzw:=HB3.out.size
 clear hA3 hN3 hord hsrc hs hsr
 refine wpIn_loop (fun a wr=>∃(i:Nat) (ds:List Nat) (u7 u8 u21 u22 u23 u24 u25 u26 u27 u28 u42:Value),i≤n0∧a=⟨#[.slice pa n pc,.slice (some ⟨b0,o0,none⟩) n0 c0,undef,undef,.slice none 0 0,.pointer (some ⟨w1.heap.size,0,none⟩),.pointer (some ⟨w2.heap.size,0,none⟩),u7,u8,undef,undef,.slice pa n pc,.slice (some ⟨b0,o0,none⟩) n0 c0,.slice (some ⟨G,0,none⟩) n n,.slice (some ⟨w1.heap.size+1,0,none⟩) 1 1,.slice pa n pc,.int .i64 n,.slice (some ⟨gN,0,none⟩) n n,.slice (some ⟨b0,o0,none⟩) n0 c0,.int .i64 n0,.int .i64 i,u21,u22,u23,u24,u25,u26,u27,u28,undef,undef,undef,undef,undef,undef,undef,undef,undef,undef,undef,undef,undef,u42,undef],mks ds⟩∧Hid (w3.grownBy wr (some gN))∧Hid (wr.rowIs gN 2 n (fun z=>.int .i64 (nrF Ws ord i z)))∧Hid (MksAt wr w3.heap.size ds)) (fun a _=>n0-(intOf (a.tmps.getD 20 undef)).toNat) ?_ ?_
 ·exact ⟨0,[],_,_,_,_,_,_,_,_,_,_,_,Nat.zero_le _,rfl,hide (World.grownBy.refl _ _),HR3,hide ⟨List.nodup_nil,fun _ h=>(by cases h),fun _ h=>(by cases h)⟩⟩
 ·rintro a wr ⟨i,ds,u7,u8,u21,u22,u23,u24,u25,u26,u27,u28,u42,hi,rfl,HG,HR,HM⟩
  clear HR3
  by_cases hlt:i<n0
  ·have hil:i<ord.length:=by have:=h0.out;omega
   obtain ⟨br,or_,er,hbr,er3⟩:=HO3.out i (by simpa [natI] using hil)
   have hbi:ord[i]<n:=ho.out _ (List.getElem_mem hil)
   have hoi:(natI ord)[i]'(by simpa [natI] using hil)=((ord[i]:Nat):Int):=by simp [natI]
   rw [hoi] at er3
   obtain ⟨rfl,rfl⟩:br=b0∧or_=o0:=by injection er with er;injection er with e1 e2;exact ⟨e1.symm,e2.symm⟩
   have hbg:br<w3.heap.size:=by omega
   have hne:br≠gN:=by omega
   have hcb:wr.cell? ⟨br,or_+i,none⟩=some (.int .i64 ((ord[i]:Nat):Int)):=(World.cell?_of_block (HG.out.block br hbg (fun e=>hne (by injection e)))).trans er3
   have hci:i≤c0:=by omega
   have hgd:ord.getD i 0=ord[i]:=by simp [hil]
   have HGD:=hide hgd
   have hwr:=HG.out.size
   have hgN3:gN<w3.heap.size∧w3.heap.size≤wr.heap.size:=⟨by omega,hwr⟩
   have HN3':=hide hgN3
   clear hgd hgN3
   gi_wp2
   refine ⟨trivial,(backward_in Fence.wide 3 trivial rfl _ i c0 _).mono ?_⟩
   rintro e w4 ⟨rfl,hw4⟩
   rw [World.size_alloc]
   have hz4:w4.heap.size=wr.heap.size+2:=by rw [hw4];simp
   have hbx:w4.cell? ⟨wr.heap.size,0,none⟩=some (.int .i64 ((ord[i]:Nat):Int)):=by rw [hw4];simp [go_sem]
   have hsx:w4.cell? ⟨wr.heap.size+1,0,none⟩=some (.slice (some ⟨br,or_,none⟩) i c0):=by
    rw [hw4]
    simp [go_sem]
   have hbw4:Below wr.heap.size wr w4:=by rw [hw4];exact balloc (balloc (Below.refl _ _) _) _
   clear hw4
   have hblk:∀k,k<w3.heap.size→k≠gN→w4.heap[k]?=w3.heap[k]?:=fun k hk hne=>(hbw4.block k (by omega)).trans (HG.out.block k hk (fun e=>hne (by injection e)))
   have hord4:∀j,j<i→w4.cell? ⟨br,or_+j,none⟩=some (.int .i64 ((ord[j]?.getD 0:Nat):Int)):=fun j hj=>by
    obtain ⟨b5,o5,e5,h5,e6⟩:=HO3.out j (by simp [natI];omega)
    injection e5 with e5
    injection e5 with e1 e2
    subst e1
    subst e2
    have hjl:j<ord.length:=by omega
    have hoj:(natI ord)[j]'(by simp [natI];omega)=((ord[j]:Nat):Int):=by simp [natI]
    rw [hoj] at e6
    rw [List.getElem?_eq_getElem hjl,Option.getD_some]
    exact (World.cell?_of_block (hblk br (by omega) (by omega))).trans e6
   have hr4:w4.rowIs gN 2 n (fun z=>.int .i64 (nrF Ws ord i z)):=HR.out.of_block (hbw4.block gN (by omega))
   have HR4:=hide hr4
   have HS4:Hid (SetsAt w4 G n K gs Ws):=hide ((HS3.out.grown HG.out (by omega) (fun j hj e=>by have:=HGL.out j hj;omega)).keep hbw4)
   have hA4:w4.cell? ⟨w1.heap.size,0,none⟩=some (.slice (some ⟨G,0,none⟩) n n):=(World.cell?_of_block (hblk w1.heap.size (by omega) (by omega))).trans HA3.out
   have hN4:w4.cell? ⟨w2.heap.size,0,none⟩=some (.slice (some ⟨gN,0,none⟩) n n):=(World.cell?_of_block (hblk w2.heap.size (by omega) (by omega))).trans HN3.out
   have HBX:=hide hbx
   have HA4:=hide hA4
   have HN4:=hide hN4
   have HZ4:=hide hz4
   have hzl:wr.heap.size+2≤w4.heap.size:=by omega
   clear hz4 hbx hA4 hN4 hr4
   gi_wp2
   refine wpIn_rangeFunc_ownF (F:=Fence.wide) (n:=4) rfl (by decide) (gf:=57) (lb:=#[.pointer (some ⟨wr.heap.size+1,0,none⟩)]) rfl trivial (enters_of Tryd.func57 (by kernel_rfl) rfl) (backward_stops Fence.wide 3 trivial rfl (by decide) (wr.heap.size+1) br or_ i c0 ord n ho.out hn1 (by omega) w4 (by omega) (by omega) hsx hord4) belowK_t (belowK_b (Nat.le_refl _)) (Below.refl _ _) (fun _=>rfl)
    (fun pre W=>Below w4.heap.size w4 W∧∀y∈pre,hasN (Ws ord[i]) y.1.2=true)
    (fun c pre W=>c=.exit 2∧∃pre' x,pre=pre'++[x]∧(∀y∈pre',hasN (Ws ord[i]) y.1.2=true)∧hasN (Ws ord[i]) x.1.2=false∧w4.grownBy W (some gN)∧W.rowIs gN 2 n (fun z=>.int .i64 (if z=ord[i] then (x.1.2:Int) else nrF Ws ord i z)))
    (fun s W W' row hs hg hr=>⟨hs.1.grown hg hs.1.size (fun k e=>(hr k e).1),hs.2⟩)
    (fun c s W W' row hs hg hr=>by
     obtain ⟨hc,pre',x,e,h1,h2,hg0,hrw⟩:=hs
     refine ⟨hc,pre',x,e,h1,h2,⟨hg.os.trans hg0.os,hg.tape.trans hg0.tape,hg.output.trans hg0.output,Nat.le_trans hg0.size hg.size,fun k hk hne=>(hg.block k (Nat.lt_of_lt_of_le hk hg0.size) (fun e=>by have:=(hr k e.symm).1;omega)).trans (hg0.block k hk hne)⟩,hrw.of_block (hg.block gN hrw.lt (fun e=>by have:=(hr gN e.symm).1;omega))⟩)
    ⟨Below.refl _ _,fun _ h=>by cases h⟩
    (fun x=>⟨#[.slice pa n pc,.slice (some ⟨br,or_,none⟩) n0 c0,undef,undef,.slice none 0 0,.pointer (some ⟨w1.heap.size,0,none⟩),.pointer (some ⟨w2.heap.size,0,none⟩),.int .i64 i,.pointer (some ⟨wr.heap.size,0,none⟩),undef,.int .i64 (x.1.2:Int),.slice pa n pc,.slice (some ⟨br,or_,none⟩) n0 c0,.slice (some ⟨G,0,none⟩) n n,.slice (some ⟨w1.heap.size+1,0,none⟩) 1 1,.slice pa n pc,.int .i64 n,.slice (some ⟨gN,0,none⟩) n n,.slice (some ⟨br,or_,none⟩) n0 c0,.int .i64 n0,.int .i64 i,.bool true,.int .i64 i,.pointer (some ⟨br,or_+i,none⟩),.int .i64 ((ord[i]:Nat):Int),.slice (some ⟨br,or_,none⟩) n0 c0,.int .i64 i,.slice (some ⟨br,or_,none⟩) i c0,.func (.func 57) #[] #[.pointer (some ⟨wr.heap.size+1,0,none⟩)],.int .i64 (x.1.1:Int),.int .i64 (x.1.2:Int),undef,undef,undef,undef,undef,undef,undef,undef,undef,undef,undef,u42,undef],[]⟩) ?assign ?body ?done ?stop
   case assign =>
    intro l x W K hK
    gi_wp2
    exact hK
   case body =>
    rintro l pre x W ⟨hB,hall⟩ _
    have hBXW:W.cell? ⟨wr.heap.size,0,none⟩=some (.int .i64 ((ord[i]:Nat):Int)):=(cTr hB (by omega)).trans HBX.out
    have hAW:W.cell? ⟨w1.heap.size,0,none⟩=some (.slice (some ⟨G,0,none⟩) n n):=(cTr hB (by omega)).trans HA4.out
    have hNW:W.cell? ⟨w2.heap.size,0,none⟩=some (.slice (some ⟨gN,0,none⟩) n n):=(cTr hB (by omega)).trans HN4.out
    have hSW:=HS4.out.keep hB
    have hcW:=hSW.row.cell hbi
    have hx2:x.1.2<n:=x.2
    have HALL:=hide hall
    have HBW:=hide hB
    have hrW:=HR4.out.of_block (hB.block gN (by omega))
    have HRW:=hide hrW
    have HHAS:=hide (has_blockNo (gs ord[i]) K x.1.2 (Ws ord[i]) W (hide (HW1.out ord[i])) (hide (hSW.set ord[i] hbi)) (by omega) (by omega))
    clear hall hB hrW hSW
    cases hh:hasN (Ws ord[i]) x.1.2 with
    | true =>
     have HH:=hide hh
     rw [hh] at HHAS
     clear hh
     gi_wp2
     refine ⟨trivial,(CallsIn.inRound l (callsIn_wide.2 HHAS.out)).mono ?_⟩
     rintro e W5 ⟨rfl,hb5⟩
     have HB5:=hide hb5
     clear hb5
     gi_wp2
     exact ⟨⟨HB5.out.size,fun k o hk _=>(HB5.out.block k (Array.getElem?_eq_some_iff.1 hk).1).trans hk⟩,HB5.out.mono HBW.out.size,bnext HBW.out HB5.out,fun y hy=>by
      rcases List.mem_append.1 hy with h | h
      ·exact HALL.out y h
      ·have:y=x:=by simpa using h
       rw [this];exact HH.out⟩
    | false =>
     have HH:=hide hh
     rw [hh] at HHAS
     clear hh
     gi_wp2
     refine ⟨trivial,(CallsIn.inRound l (callsIn_wide.2 HHAS.out)).mono ?_⟩
     rintro e W5 ⟨rfl,hb5⟩
     have hBX5:W5.cell? ⟨wr.heap.size,0,none⟩=some (.int .i64 ((ord[i]:Nat):Int)):=(hb5.cell (p:=⟨wr.heap.size,0,none⟩) (by show wr.heap.size<_;have:=HBW.out.size;omega)).trans hBXW
     have hN5:W5.cell? ⟨w2.heap.size,0,none⟩=some (.slice (some ⟨gN,0,none⟩) n n):=(hb5.cell (p:=⟨w2.heap.size,0,none⟩) (by show w2.heap.size<_;have:=HBW.out.size;omega)).trans hNW
     have hr5:=HRW.out.of_block (hb5.block gN (by have:=HBW.out.size;omega))
     have hc5:=hr5.cell hbi
     have hf5:=hr5.frozen ord[i]
     have HR5:=hide hr5
     have HB5:=hide hb5
     clear hb5 hr5 hBXW hNW hAW hcW HRW
     gi_wp2
     refine ⟨⟨by rw [size_setCell];exact HB5.out.size,fun k o hk ho=>?_⟩,rfl,pre,x,rfl,HALL.out,HH.out,?_,?_⟩
     ·have hkl:=(Array.getElem?_eq_some_iff.1 hk).1
      have h5:=(HB5.out.block k hkl).trans hk
      exact (KeepsOthers.setCell W5 _ _).same k o h5 ho
     ·exact ((⟨(bnext HBW.out HB5.out).os,(bnext HBW.out HB5.out).tape,(bnext HBW.out HB5.out).output,(bnext HBW.out HB5.out).size,fun k hk _=>(bnext HBW.out HB5.out).block k hk⟩:w4.grownBy W5 (some gN))).trans ⟨rfl,rfl,rfl,by simp [World.setCell],fun k _ hk=>Below.heap_setCell _ _ _ _ (fun e=>hk (by rw [e]))⟩
     ·exact row_set (C:=Value.int .i64) HR5.out ord[i] (x.1.2:Int)
   case done =>
    rintro D ys W hD rfl ⟨hB,hall⟩ hK
    have hfm:=find_miss ho.out hn1 (len:=i) (by omega) (p:=fun a=>!hasN (Ws (ord.getD i 0)) a) (fun y hy=>by rw [HGD.out,hall y hy];rfl)
    have HFM:=hide hfm
    have HBW:=hide hB
    have HKD:=hide hK
    clear hfm hall hB hK
    gi_wp2
    refine ⟨⟨i+1,D::ds,_,_,_,_,_,_,_,_,_,_,_,by omega,rfl,hide ?_,hide ?_,hide ?_⟩,by simp [intOf];omega⟩
    ·exact (HG.out.trans ⟨hbw4.os,hbw4.tape,hbw4.output,hbw4.size,fun k hk _=>hbw4.block k hk⟩).trans ⟨HBW.out.os,HBW.out.tape,HBW.out.output,HBW.out.size,fun k hk _=>HBW.out.block k hk⟩
    ·exact (HR4.out.of_block (HBW.out.block gN (by omega))).congr (fun z _=>by rw [nrF_none HFM.out])
    ·exact mks_next HM.out (by omega) HKD.out (fun k hk hne=>(HBW.out.block k (by omega)).trans (hbw4.block k hk)) HN3'.out
   case stop =>
    rintro D c pre W hD ⟨k,hk,rfl⟩ ⟨rfl,pre',x,e,h1,h2,hg,hr⟩ hK
    have hfm:=find_hit ho.out hn1 (len:=i) (by omega) (Nat.le_of_lt hk) (p:=fun a=>!hasN (Ws (ord.getD i 0)) a) e.symm (fun y hy=>by rw [HGD.out,h1 y hy];rfl) (by rw [HGD.out,h2];rfl)
    have HFM:=hide hfm
    have HGW:=hide hg
    have HRW:=hide hr
    have HKD:=hide hK
    clear hfm h1 h2 hg hr hK e
    gi_wp2
    refine ⟨⟨i+1,D::ds,_,_,_,_,_,_,_,_,_,_,_,by omega,rfl,hide ?_,hide ?_,hide ?_⟩,by simp [intOf];omega⟩
    ·exact (HG.out.trans ⟨hbw4.os,hbw4.tape,hbw4.output,hbw4.size,fun k hk _=>hbw4.block k hk⟩).trans HGW.out
    ·exact HRW.out.congr (fun z _=>by rw [nrF_some HFM.out,HGD.out])
    ·exact mks_next HM.out (by omega) HKD.out (fun k hk hne=>(HGW.out.block k (by omega) (fun e=>hne (by injection e))).trans (hbw4.block k hk)) HN3'.out
  ·have hin:i=n0:=by omega
   subst hin
   have hNr:wr.cell? ⟨w2.heap.size,0,none⟩=some (.slice (some ⟨gN,0,none⟩) n n):=(World.cell?_of_block (HG.out.block w2.heap.size hz3 (fun e=>by injection e with e;omega))).trans HN3.out
   gi_wp2
   refine leaves_mks ds wr HM.out HG.out.size (fun W' hW'=>?_)
   refine ⟨.slice (some ⟨gN,0,none⟩) n n,by simp [results,Tryd.results17,go_sem],gN,Ws,rfl,by omega,?_,?_,HH1.out⟩
   ·exact (HB3.out.grown HG.out hzw (fun k e=>by cases e;omega)).trans (hW'.mono hzw)
   ·exact HR.out.of_block (hW'.block gN (by omega))
end Go.Proofs.YtdfdmjcngkfciaaDoor
