import Derived.Laws.CopyOwn
import Derived.Test.YthgikffcdgpgiaaGreatDoorID1
namespace Go.Proofs.YthgikffcdgpgiaaGreatDoor
set_option maxHeartbeats 2000000
set_option maxRecDepth 100000
open Go.RowKit Go.Shelf
theorem Vp(g k n dC b o s sC m:Nat)(v:Value)(f:Nat->Value)(W:World)(hr:W.rowIs g 2 n f)(hk:k<=n)(hv:v.oneCell'=true)(hm:m=Nat.min s (n-k))(hs:∀j,j<m->W.cell? ⟨b,o+j,none⟩=some v) :
 ∃W',Sem.run Tryz.prog (Builtin.copy_ #[26,26] 3 #[.slice (some ⟨g,k,none⟩) (n-k) dC,.slice (some ⟨b,o,none⟩) s sC]) W=.ok (goInt m) W'/\W.grownBy W' (some g)/\W'.rowIs g 2 n (fun i=>if k<=i/\i<k+m then v else f i):=by
 obtain⟨c,h1,h2,h3⟩:=hr;have hmn:m<=n-k:=by rw[hm];exact Nat.min_le_right _ _
 have h:=run_copy_row (P:=Tryz.prog) W 26 26 3 2 g k (n-k) dC ⟨b,o,none⟩ s sC c 2 (List.replicate m v) Tryz.underlying26 kR h1 (by rw[List.length_replicate];exact hm) (fun j u hj=>by
  rw[List.getElem?_replicate]at hj;split at hj
  ·rename_i hlt
   injection hj with hj;rw[<-hj];rw[Addr.add_lit];exact hs j hlt
  ·cases hj) (by rw[List.length_replicate];omega) (fun u hu=>by rw[List.eq_of_mem_replicate hu];exact hv)
 rw[List.length_replicate]at h;refine⟨_,h,⟨rfl,rfl,rfl,sP,fun j _ hj=>setRow_other _ _ _ _ (fun e=>hj (by rw[e]))⟩,⟨_,setRow_heap _ _ _ _ _ _ h1,?_,fun i hi=>?_⟩⟩
 ·simp[h2];omega
 ·have hi':c[i]?=some (f i):=h3 i hi
  simp only[List.getElem?_toArray];by_cases a1:i<k
  ·rw[if_neg oM,List.getElem?_append_left (by simp;omega),List.getElem?_append_left (by simp;omega),List.getElem?_take_of_lt a1]
   simpa using hi'
  ·by_cases a2:i<k+m
   ·rw[if_pos ⟨oM,a2⟩,List.getElem?_append_left (by simp;omega),List.getElem?_append_right (by simp;omega)]
    simp[List.getElem?_replicate];omega
   ·rw[if_neg oM,List.getElem?_append_right (by simp;omega),List.getElem?_drop]
    have:k+m+(i-(List.take k c.toList++List.replicate m v).length)=i:=by simp;omega
    rw[this];simpa using hi'
theorem ZdG{n:Nat}(hn:n<=2000):bits .and .u64 (n:Int) 4294967295=(n:Int):=by
 have h:n &&& 4294967295=n:=by
  have:=Nat.and_two_pow_sub_one_eq_mod n 32;rw[show(2 ^ 32-1:Nat)=4294967295 from rfl]at this;rw[this];omega
 rw[show(4294967295:Int)=((4294967295:Nat):Int) from rfl,u64_and_nat _ _ oM vZ,h]
theorem Zeu(n:Nat)(w:World)(hn:n<=2000) :
 Calls Tryz.prog 132 #[.int .u64 1,.int .u64 n] w fun e w'=>e=.returned (.tuple #[.int .u64 0,.int .u64 n])/\w'=w:=by
 have b1:bits .and .u64 1 4294967295=1:=vZ;have b0:bits .and .u64 0 4294967295=0:=vZ;have bn:=ZdG hn;have d0:(n:Int) / 4294967296=0:=oM;have wn:IntKind.u64.wrap (n:Int)=n:=by simp[IntKind.wrap,IntKind.bits,IntKind.signed];omega
 have w0:IntKind.u64.wrap 0=0:=vZ
 go_enter Tryz.func132,Tryz.ntmps132
 go_wp2_with fail
 refine bodyPost_ret (v:=.tuple #[.int .u64 0,.int .u64 n]) (by simp[results,Tryz.results132,go_sem]) rfl ⟨rfl,rfl⟩
theorem ZgH(n:Nat)(w:World)(hn:n<=2000) :
 Calls Tryz.prog 103 #[.int .u64 1,.int .u64 n] w fun e w'=>e=.returned (.tuple #[.int .u64 0,.int .u64 n])/\w'=w:=by
 have HM:=Xa (fun W=>Zeu n W hn)
 go_enter Tryz.func103,Tryz.ntmps103
 go_wp2_with fail
 refine(HM.out _).mono ?_;rintro e w1 ⟨rfl,rfl⟩
 go_wp2_with fail
 refine bodyPost_ret (v:=.tuple #[.int .u64 0,.int .u64 n]) (by simp[results,Tryz.results103,go_sem]) rfl ⟨rfl,rfl⟩
theorem Vr(b n:Nat)(w:World)(hn:n<=2000)(hc:w.cell? ⟨b,0,none⟩=some (.int .i64 (-1)))(hb:b<w.heap.size) :
 Calls Tryz.prog 56 #[.slice (some ⟨b,0,none⟩) 1 1,.int .i64 n] w fun e w'=>∃g,e=.returned (.slice (some ⟨g,0,none⟩) n n)/\w.heap.size<=g/\Below w.heap.size w w'/\w'.rowIs g 2 n (fun _=>.int .i64 (-1)):=by
 have HM:=Xa (fun W=>ZgH n W hn);have hmk:=run_make_row' (P:=Tryz.prog) 26 2 (.int .i64 0) 8 Tryz.underlying26 Tryz.info2' rfl .i64 .i64 n oM oM;obtain⟨m0,hm0⟩:∃m0,m0=Nat.min 1 (n-0):=⟨_,rfl⟩;have hm1:m0<=1:=by rw[hm0];exact Nat.min_le_left _ _
 have hm2:m0<=n:=by have:=Nat.min_le_right 1 (n-0);rw[hm0];omega
 have hm3:0<n->1<=m0:=fun h=>by rw[hm0];exact Nat.le_min.2 ⟨Nat.le_refl _,oM⟩
 obtain⟨W1,hcp,hg1,hr1⟩:=Vp w.heap.size 0 n n b 0 1 1 m0 (.int .i64 (-1)) _ (w.alloc (.cells (madeCells #[.int .i64 0] n) 2)) (World.rowIs_made w (.int .i64 0) n 2) (Nat.zero_le _) rfl hm0 (fun j hj=>by
  have:j=0:=oM;subst this;exact(World.cell?_alloc_lt _ _ _ hb).trans hc)
 rw[Nat.sub_zero]at hcp;have HR1:=Xa hr1;have HG1:=Xa hg1;clear hr1 hg1 hm0
 go_enter Tryz.func56,Tryz.ntmps56
 go_wp2_with fail
 refine(HM.out _).mono ?_;rintro e w1 ⟨rfl,hw⟩;rw[hw];clear hw w1
 go_wp2_with fail
 generalize decide ((n:Int)<0)=br1;generalize decide (9223372036854775807<(n:Int))=br2;have HR0:Hid (W1.rowIs w.heap.size 2 n (fun i=>.int .i64 (if i<m0 then -1 else 0))):=Xa (HR1.congr (fun i _=>by by_cases h:i<m0<;>simp[h]));have HB0:Hid (Below w.heap.size w W1):=Xa ((Xb (Below.refl _ w) _).grown HG1.out sP (fun k e=>by cases e;exact Nat.le_refl _));clear HR1 HG1 hcp hc
 go_loopw [8] (fun u wr=>∃k:Nat,(0<n->1<=k)/\k<=n/\u=.int .i64 k/\Hid (Below w.heap.size w wr)/\Hid (wr.rowIs w.heap.size 2 n (fun i=>.int .i64 (if i<k then -1 else 0)))) (fun u _=>n-(intOf u).toNat)
 case atStart=>exact⟨m0,hm3,hm2,rfl,HB0,HR0⟩
 case round =>
  clear HB0 HR0;obtain⟨k,hk1,hkn,rfl,HB,HR⟩:=hrel;by_cases hlt:k<n
  ·obtain⟨m,hm⟩:∃m,m=Nat.min k (n-k):=⟨_,rfl⟩
   have hm1:m<=k:=by rw[hm];exact Nat.min_le_left _ _
   have hm2:m<=n-k:=by rw[hm];exact Nat.min_le_right _ _
   have hm3:0<m:=by rw[hm];exact Nat.lt_min.2 ⟨hk1 oM,oM⟩
   obtain⟨W2,hcp,hg2,hr2⟩:=Vp w.heap.size k n (n-k) w.heap.size 0 k n m (.int .i64 (-1)) (fun i=>.int .i64 (if i<k then -1 else 0)) wr.drew HR.out hkn rfl hm (fun j hj=>by
    rw[Nat.zero_add];have:=HR.cell (i:=j) oM;rw[if_pos oM]at this;exact this)
   have HR2:Hid (W2.rowIs w.heap.size 2 n (fun i=>.int .i64 (if i<k+m then -1 else 0))):=Xa (hr2.congr (fun i _=>by
    by_cases h1:i<k
    ·simp[h1]
     omega
    ·by_cases h2:i<k+m
     ·simp[h1,h2]
     ·simp[h1,h2]))
   have HB2:Hid (Below w.heap.size w W2):=Xa (HB.drew.grown hg2 HB.size (fun k e=>by cases e;exact Nat.le_refl _));clear HB HR hr2 hg2 hm;go_wp2
   go_region
   go_wp2;exact⟨⟨k+m,fun _=>oM,oM,gM,HB2,HR2⟩,by simp[intOf];omega⟩
  ·have:k=n:=oM
   subst this;have HE:Hid (wr.rowIs w.heap.size 2 k (fun _=>.int .i64 (-1))):=Xa (HR.congr (fun i hi=>by simp[hi]));clear HR
   go_wp2_with fail
   go_ret
   exact⟨_,rfl,Nat.le_refl _,HB.out,HE.out⟩
theorem ZbO(b n:Nat)(w:World)(hn:n<=1000)(_h0:0<n)(hc:w.cell? ⟨b,0,none⟩=some (.int .i64 (-1)))(hb:b<w.heap.size) :
 Calls Tryz.prog 56 #[.slice (some ⟨b,0,none⟩) 1 1,.int .i64 n] w fun e w'=>∃g,e=.returned (.slice (some ⟨g,0,none⟩) n n)/\w.heap.size<=g/\Below w.heap.size w w'/\w'.rowIs g 2 n (fun _=>.int .i64 (-1)) :=
 Vr b n w oM hc hb
section
attribute [local go_sem] Oper.semAt_some
def mks(ds:List Nat):List Deferred:=ds.map fun D=>{ target:=.collected D,args:=#[] }
structure Zq(W:World)(B:Nat)(ds:List Nat):Prop where
 nd:ds.Nodup
 ge:∀D∈ds,B<=D
 obj:∀D∈ds,W.heap[D]?=some (.deferred (some []))
theorem KB{F:Fence}{n:Nat}{P:Program}{fn:Func}{tmps:Array Value}{R:Ending->World->Prop}{B:Nat}:∀(ds:List Nat)(W:World),Zq W B ds->B<=W.heap.size->(∀W',Below B W W'->∃v,(results fn tmps).run P W'=.ok v W'/\R (.returned v) W')->LeavesInM F n P fn tmps R (mks ds) .returning W
 | [],W,_,_,h=>h W (Below.refl _ _)
 | D::ds,W,hm,hB,h=>by
  refine⟨sP,Or.inl ⟨D,_,rfl,run_takeDeferred (hm.obj D List.mem_cons_self),?_⟩⟩;have hD:=hm.ge D List.mem_cons_self;have hb:Below B W (W.putObj D (.deferred none)):=(Below.refl B W).grown (grownBy_putObj' W D _) hB (fun k e=>by cases e;exact hD);refine KB ds _ ⟨(List.nodup_cons.1 hm.nd).2,fun k hk=>hm.ge k (List.mem_cons_of_mem _ hk),fun k hk=>?_⟩ (Nat.le_trans hB hb.size) (fun W' k=>h W' (hb.trans k));exact(World.putObj_heap_other (fun e=>(List.nodup_cons.1 hm.nd).1 (by rw[<-e];exact hk))).trans (hm.obj k (List.mem_cons_of_mem _ hk))
theorem ZbA{wr W:World}{B D gN:Nat}{ds:List Nat}(h:Zq wr B ds)(hD:wr.heap.size<=D)(hK:W.heap[D]?=some (.deferred (some [])))(hb:∀k,k<wr.heap.size->k≠gN->W.heap[k]?=wr.heap[k]?)(hB:gN<B/\B<=wr.heap.size):Zq W B (D::ds):=by
 have hl:∀k∈ds,k<wr.heap.size:=fun k hk=>(Array.getElem?_eq_some_iff.1 (h.obj k hk)).1
 refine⟨List.nodup_cons.2 ⟨fun k=>by have:=hl D k;omega,h.nd⟩,fun k hk=>?_,fun k hk=>?_⟩
 ·rcases List.mem_cons.1 hk with rfl | hk
  ·omega
  ·exact h.ge k hk
 ·rcases List.mem_cons.1 hk with rfl | hk
  ·exact hK
  ·exact(hb k (hl k hk) (by have:=h.ge k hk;omega)).trans (h.obj k hk)
theorem Zbi(pa:Option Addr)(n pc b0 o0 n0 c0:Nat)(src:List (List Nat))(ord:List Nat)(L1 B1 L2 B2:Nat)(w:World)(hsrc:Hid (XF w L2 B2 pa (src.map Xh)))(hs:Hid (n=src.length))(hord:Hid (Xg w L1 B1 (some ⟨b0,o0,none⟩) (Xh ord)))(h0:Hid (n0=ord.length))(hn:n<=1000)(hn1:0<n)(hn0:n0<=1000)(hn0':0<n0)(hc0:n0<=c0)(hB1:B1<=w.heap.size)(hB2:B2<=w.heap.size)(ho:Hid (∀b∈ord,b<n))(hsr:Hid (∀l∈src,l.length<=2000/\∀t∈l,t<n)) :
 Calls Tryz.prog 106 #[.slice pa n pc,.slice (some ⟨b0,o0,none⟩) n0 c0] w fun e w'=>∃g Ws,e=.returned (.slice (some ⟨g,0,none⟩) n n)/\w.heap.size<=g/\Below w.heap.size w w'/\w'.rowIs g 2 n (fun z=>.int .i64 (T1 Ws ord n0 z))/\∀b,b<n->∀x,x<n->(Xf (Ws b) x=true↔Sp (UE n) (WU n) (·∈ord) (fun b=>src.getD b []) b x):=by
 have HAV:=Xa (fun W (hb:Below w.heap.size w W)=>Zbd pa n pc b0 o0 n0 c0 src ord L1 B1 L2 B2 W (Xa (hsrc.keepS (fun k _ h2=>(hb.mono hB2).block k h2))) hs (Xa (hord.keep (hb.mono hB1))) h0 hn hn1 hn0 hn0' (by have:=hb.size;omega) (by have:=hb.size;omega) ho hsr);have hKb:(n+63) / 64<=16:=oM;have hKn:n<=64*((n+63) / 64):=oM;generalize (n+63) / 64=K at *;refine(callsIn_wide (n:=4)).1 ?_;refine callsIn_of_wp_marks Tryz.func106 rfl trivial ?_ rfl;simp only[Tryz.ntmps106,List.size_toArray,List.length_cons,List.length_nil,Nat.reduceAdd,Nat.reduceSub,Array.replicate_succ,Array.replicate_zero,List.push_toArray,List.append_toArray,List.nil_append,List.cons_append]
 gi_wp2
 refine⟨trivial,(callsIn_wide.2 (HAV.out w (Below.refl _ _))).mono ?_⟩;rintro e w1 ⟨G,gs,Ws,rfl,hb1,hs1,hw1,hh1⟩;have HB1:=Xa hb1;have HS1:=Xa hs1;have HW1:=Xa hw1;have HH1:=Xa hh1;have hGl:G<w1.heap.size:=hs1.row.lt;have HGL:Hid (∀i,i<n->gs i<w1.heap.size):=Xa (fun i hi=>(hs1.set i hi).lt);have hz1:=hb1.size;clear hb1 hs1 hw1 hh1 HAV
 gi_wp2
 refine⟨trivial,(callsIn_wide.2 (ZbO (w1.heap.size+1) n ((w1.alloc (.cells #[.slice (some ⟨G,0,none⟩) n n] 207)).alloc (.cells #[.int .i64 (-1)] 2)) hn hn1 (by simp[go_sem]) sP)).mono ?_⟩;rintro e w2 ⟨gN,rfl,hgN,hb2,hr2⟩;have HB2:Hid (Below w.heap.size w w2):=Xa (Xe (Xb (Xb HB1.out _) _) hb2);have hz2:w1.heap.size+2<=w2.heap.size:=by have:=hb2.size;simp at this;omega
 have hgN1:w1.heap.size+2<=gN:=by simp at hgN;omega
 have hgN2:gN<w2.heap.size:=hr2.lt;have HS2:=Xa ((HS1.keep (Xb (Xb (Below.refl _ _) _) _)).keep hb2);have hA2:w2.cell? ⟨w1.heap.size,0,none⟩=some (.slice (some ⟨G,0,none⟩) n n):=(hb2.cell (p:=⟨w1.heap.size,0,none⟩) (by show w1.heap.size<_;simp;omega)).trans (by simp[go_sem]);have HR2:=Xa hr2;clear hb2 hr2 hgN HB1 HS1
 gi_wp2
 have HB3:Hid (Below w.heap.size w (w2.alloc (.cells #[.slice (some ⟨gN,0,none⟩) n n] 26))):=Xa (Xb HB2.out _);have HR3:Hid ((w2.alloc (.cells #[.slice (some ⟨gN,0,none⟩) n n] 26)).rowIs gN 2 n (fun z=>.int .i64 (T1 Ws ord 0 z))):=Xa (HR2.alloc _);have HS3:=Xa (HS2.keep (Xb (Below.refl _ _) (.cells #[.slice (some ⟨gN,0,none⟩) n n] 26)));have hA3:(w2.alloc (.cells #[.slice (some ⟨gN,0,none⟩) n n] 26)).cell? ⟨w1.heap.size,0,none⟩=some (.slice (some ⟨G,0,none⟩) n n):=(World.cell?_alloc_lt _ _ _ (by show w1.heap.size<_;omega)).trans hA2;have hN3:(w2.alloc (.cells #[.slice (some ⟨gN,0,none⟩) n n] 26)).cell? ⟨w2.heap.size,0,none⟩=some (.slice (some ⟨gN,0,none⟩) n n):=by simp[go_sem]
 have hz3:w2.heap.size<(w2.alloc (.cells #[.slice (some ⟨gN,0,none⟩) n n] 26)).heap.size:=sP;clear HB2 HR2 HS2 hA2;generalize w2.alloc (.cells #[.slice (some ⟨gN,0,none⟩) n n] 26)=w3 at *;have HA3:=Xa hA3;have HN3:=Xa hN3;have HO3:Hid (Xg w3 L1 B1 (some ⟨b0,o0,none⟩) (Xh ord)):=Xa (hord.keep (HB3.mono hB1));have hzw:=HB3.size;clear hA3 hN3 hord hsrc hs hsr;refine wpIn_loop (fun a wr=>∃(i:Nat)(ds:List Nat)(u7 u8 u21 u22 u23 u24 u25 u26 u27 u28 u42:Value),i<=n0/\a=⟨#[.slice pa n pc,.slice (some ⟨b0,o0,none⟩) n0 c0,undef,undef,.slice none 0 0,.pointer (some ⟨w1.heap.size,0,none⟩),.pointer (some ⟨w2.heap.size,0,none⟩),u7,u8,undef,undef,.slice pa n pc,.slice (some ⟨b0,o0,none⟩) n0 c0,.slice (some ⟨G,0,none⟩) n n,.slice (some ⟨w1.heap.size+1,0,none⟩) 1 1,.slice pa n pc,.int .i64 n,.slice (some ⟨gN,0,none⟩) n n,.slice (some ⟨b0,o0,none⟩) n0 c0,.int .i64 n0,.int .i64 i,u21,u22,u23,u24,u25,u26,u27,u28,undef,undef,undef,undef,undef,undef,undef,undef,undef,undef,undef,undef,undef,u42,undef],mks ds⟩/\Hid (w3.grownBy wr (some gN))/\Hid (wr.rowIs gN 2 n (fun z=>.int .i64 (T1 Ws ord i z)))/\Hid (Zq wr w3.heap.size ds)) (fun a _=>n0-(intOf (a.tmps.getD 20 undef)).toNat) ?_ ?_
 ·exact⟨0,[],_,_,_,_,_,_,_,_,_,_,_,Nat.zero_le _,rfl,Xa (World.grownBy.refl _ _),HR3,Xa ⟨List.nodup_nil,fun _ h=>(by cases h),fun _ h=>(by cases h)⟩⟩
 ·rintro a wr ⟨i,ds,u7,u8,u21,u22,u23,u24,u25,u26,u27,u28,u42,hi,rfl,HG,HR,HM⟩
  clear HR3;by_cases hlt:i<n0
  ·have hil:i<ord.length:=by have:=h0.out;omega
   obtain⟨br,or_,er,hbr,er3⟩:=HO3.out i (by simpa [Xh]using hil);have hbi:ord[i]<n:=ho.out _ (List.getElem_mem hil);have hoi:(Xh ord)[i]'(by simpa [Xh]using hil)=((ord[i]:Nat):Int):=by simp[Xh]
   rw[hoi]at er3;obtain⟨rfl,rfl⟩:br=b0/\or_=o0:=by injection er with er;injection er with e1 e2;exact⟨e1.symm,e2.symm⟩
   have hbg:br<w3.heap.size:=oM;have hne:br≠gN:=oM;have hcb:wr.cell? ⟨br,or_+i,none⟩=some (.int .i64 ((ord[i]:Nat):Int)):=(World.cell?_of_block (HG.block br hbg (fun e=>hne (by injection e)))).trans er3;have hci:i<=c0:=oM;have hgd:ord.getD i 0=ord[i]:=by simp[hil]
   have HGD:=Xa hgd;have hwr:=HG.size;have hgN3:gN<w3.heap.size/\w3.heap.size<=wr.heap.size:=⟨oM,hwr⟩;have HN3':=Xa hgN3;clear hgd hgN3
   gi_wp2
   refine⟨trivial,(Zbw Fence.wide 3 trivial rfl _ i c0 _).mono ?_⟩;rintro e w4 ⟨rfl,hw4⟩;rw[World.size_alloc];have hz4:w4.heap.size=wr.heap.size+2:=by rw[hw4];simp
   have hbx:w4.cell? ⟨wr.heap.size,0,none⟩=some (.int .i64 ((ord[i]:Nat):Int)):=by rw[hw4];simp[go_sem]
   have hsx:w4.cell? ⟨wr.heap.size+1,0,none⟩=some (.slice (some ⟨br,or_,none⟩) i c0):=by
    rw[hw4];simp[go_sem]
   have hbw4:Below wr.heap.size wr w4:=by rw[hw4];exact Xb (Xb (Below.refl _ _) _) _
   clear hw4;have hblk:∀k,k<w3.heap.size->k≠gN->w4.heap[k]?=w3.heap[k]?:=fun k hk hne=>(hbw4.block k oM).trans (HG.block k hk (fun e=>hne (by injection e)))
   have hord4:∀j,j<i->w4.cell? ⟨br,or_+j,none⟩=some (.int .i64 ((ord[j]?.getD 0:Nat):Int)):=fun j hj=>by
    obtain⟨b5,o5,e5,h5,e6⟩:=HO3.out j (by simp[Xh];omega);injection e5 with e5;injection e5 with e1 e2;subst e1;subst e2;have hjl:j<ord.length:=oM;have hoj:(Xh ord)[j]'(by simp[Xh];omega)=((ord[j]:Nat):Int):=by simp[Xh]
    rw[hoj]at e6;rw[List.getElem?_eq_getElem hjl,Option.getD_some];exact(World.cell?_of_block (hblk br oM oM)).trans e6
   have hr4:w4.rowIs gN 2 n (fun z=>.int .i64 (T1 Ws ord i z)):=HR.of_block (hbw4.block gN oM);have HR4:=Xa hr4;have HS4:Hid (XO w4 G n K gs Ws):=Xa ((HS3.grown HG.out oM (fun j hj e=>by have:=HGL.out j hj;omega)).keep hbw4);have hA4:w4.cell? ⟨w1.heap.size,0,none⟩=some (.slice (some ⟨G,0,none⟩) n n):=(World.cell?_of_block (hblk w1.heap.size oM oM)).trans HA3.out;have hN4:w4.cell? ⟨w2.heap.size,0,none⟩=some (.slice (some ⟨gN,0,none⟩) n n):=(World.cell?_of_block (hblk w2.heap.size oM oM)).trans HN3.out;have HBX:=Xa hbx;have HA4:=Xa hA4;have HN4:=Xa hN4;have HZ4:=Xa hz4;have hzl:wr.heap.size+2<=w4.heap.size:=oM;clear hz4 hbx hA4 hN4 hr4
   gi_wp2
   refine wpIn_rangeFunc_ownF (F:=Fence.wide) (n:=4) rfl vZ (gf:=144) (lb:=#[.pointer (some ⟨wr.heap.size+1,0,none⟩)]) rfl trivial (enters_of Tryz.func144 kR rfl) (UO Fence.wide 3 trivial rfl vZ (wr.heap.size+1) br or_ i c0 ord n ho.out hn1 oM w4 oM oM hsx hord4) belowK_t (belowK_b (Nat.le_refl _)) (Below.refl _ _) (fun _=>rfl)
    (fun pre W=>Below w4.heap.size w4 W/\∀y∈pre,Xf (Ws ord[i]) y.1.2=true)
    (fun c pre W=>c=.exit 2/\∃pre' x,pre=pre'++[x]/\(∀y∈pre',Xf (Ws ord[i]) y.1.2=true)/\Xf (Ws ord[i]) x.1.2=false/\w4.grownBy W (some gN)/\W.rowIs gN 2 n (fun z=>.int .i64 (if z=ord[i]then (x.1.2:Int)else T1 Ws ord i z)))
    (fun s W W' row hs hg hr=>⟨hs.1.grown hg hs.1.size (fun k e=>(hr k e).1),hs.2⟩)
    (fun c s W W' row hs hg hr=>by
     obtain⟨hc,pre',x,e,h1,h2,hg0,hrw⟩:=hs;refine⟨hc,pre',x,e,h1,h2,⟨hg.os.trans hg0.os,hg.tape.trans hg0.tape,hg.output.trans hg0.output,Nat.le_trans hg0.size hg.size,fun k hk hne=>(hg.block k (Nat.lt_of_lt_of_le hk hg0.size) (fun e=>by have:=(hr k e.symm).1;omega)).trans (hg0.block k hk hne)⟩,hrw.of_block (hg.block gN hrw.lt (fun e=>by have:=(hr gN e.symm).1;omega))⟩)
    ⟨Below.refl _ _,fun _ h=>by cases h⟩
    (fun x=>⟨#[.slice pa n pc,.slice (some ⟨br,or_,none⟩) n0 c0,undef,undef,.slice none 0 0,.pointer (some ⟨w1.heap.size,0,none⟩),.pointer (some ⟨w2.heap.size,0,none⟩),.int .i64 i,.pointer (some ⟨wr.heap.size,0,none⟩),undef,.int .i64 (x.1.2:Int),.slice pa n pc,.slice (some ⟨br,or_,none⟩) n0 c0,.slice (some ⟨G,0,none⟩) n n,.slice (some ⟨w1.heap.size+1,0,none⟩) 1 1,.slice pa n pc,.int .i64 n,.slice (some ⟨gN,0,none⟩) n n,.slice (some ⟨br,or_,none⟩) n0 c0,.int .i64 n0,.int .i64 i,.bool true,.int .i64 i,.pointer (some ⟨br,or_+i,none⟩),.int .i64 ((ord[i]:Nat):Int),.slice (some ⟨br,or_,none⟩) n0 c0,.int .i64 i,.slice (some ⟨br,or_,none⟩) i c0,.func (.func 144) #[] #[.pointer (some ⟨wr.heap.size+1,0,none⟩)],.int .i64 (x.1.1:Int),.int .i64 (x.1.2:Int),undef,undef,undef,undef,undef,undef,undef,undef,undef,undef,undef,u42,undef],[]⟩) ?assign ?body ?done ?stop
   case assign =>
    intro l x W K hK
    gi_wp2
    exact hK
   case body =>
    rintro l pre x W ⟨hB,hall⟩ _;have hBXW:W.cell? ⟨wr.heap.size,0,none⟩=some (.int .i64 ((ord[i]:Nat):Int)):=(XD hB oM).trans HBX.out;have hAW:W.cell? ⟨w1.heap.size,0,none⟩=some (.slice (some ⟨G,0,none⟩) n n):=(XD hB oM).trans HA4.out;have hNW:W.cell? ⟨w2.heap.size,0,none⟩=some (.slice (some ⟨gN,0,none⟩) n n):=(XD hB oM).trans HN4.out;have hSW:=HS4.keep hB;have hcW:=hSW.row.cell hbi;have hx2:x.1.2<n:=x.2;have HALL:=Xa hall;have HBW:=Xa hB;have hrW:=HR4.of_block (hB.block gN oM);have HRW:=Xa hrW;have HHAS:=Xa (Zx (gs ord[i]) K x.1.2 (Ws ord[i]) W (Xa (HW1.out ord[i])) (Xa (hSW.set ord[i] hbi)) oM oM);clear hall hB hrW hSW;cases hh:Xf (Ws ord[i]) x.1.2 with
    | true =>
     have HH:=Xa hh;rw[hh]at HHAS;clear hh
     gi_wp2
     refine⟨trivial,(CallsIn.inRound l (callsIn_wide.2 HHAS.out)).mono ?_⟩;rintro e W5 ⟨rfl,hb5⟩;have HB5:=Xa hb5;clear hb5
     gi_wp2
     exact⟨⟨HB5.size,fun k o hk _=>(HB5.block k (Array.getElem?_eq_some_iff.1 hk).1).trans hk⟩,HB5.mono HBW.size,Xe HBW.out HB5.out,fun y hy=>by
      rcases List.mem_append.1 hy with h | h
      ·exact HALL.out y h
      ·have:y=x:=by simpa using h
       rw[this];exact HH.out⟩
    | false =>
     have HH:=Xa hh;rw[hh]at HHAS;clear hh
     gi_wp2
     refine⟨trivial,(CallsIn.inRound l (callsIn_wide.2 HHAS.out)).mono ?_⟩;rintro e W5 ⟨rfl,hb5⟩;have hBX5:W5.cell? ⟨wr.heap.size,0,none⟩=some (.int .i64 ((ord[i]:Nat):Int)):=(hb5.cell (p:=⟨wr.heap.size,0,none⟩) (by show wr.heap.size<_;have:=HBW.size;omega)).trans hBXW;have hN5:W5.cell? ⟨w2.heap.size,0,none⟩=some (.slice (some ⟨gN,0,none⟩) n n):=(hb5.cell (p:=⟨w2.heap.size,0,none⟩) (by show w2.heap.size<_;have:=HBW.size;omega)).trans hNW;have hr5:=HRW.of_block (hb5.block gN (by have:=HBW.size;omega));have hc5:=hr5.cell hbi;have hf5:=hr5.frozen ord[i];have HR5:=Xa hr5;have HB5:=Xa hb5;clear hb5 hr5 hBXW hNW hAW hcW HRW
     gi_wp2
     refine⟨⟨by rw[Xd];exact HB5.size,fun k o hk ho=>?_⟩,rfl,pre,x,rfl,HALL.out,HH.out,?_,?_⟩
     ·have hkl:=(Array.getElem?_eq_some_iff.1 hk).1
      have h5:=(HB5.block k hkl).trans hk;exact(KeepsOthers.setCell W5 _ _).same k o h5 ho
     ·exact((⟨(Xe HBW.out HB5.out).os,(Xe HBW.out HB5.out).tape,(Xe HBW.out HB5.out).output,(Xe HBW.out HB5.out).size,fun k hk _=>(Xe HBW.out HB5.out).block k hk⟩:w4.grownBy W5 (some gN))).trans ⟨rfl,rfl,rfl,by simp[World.setCell],fun k _ hk=>Below.heap_setCell _ _ _ _ (fun e=>hk (by rw[e]))⟩
     ·exact Kl (C:=Value.int .i64) HR5.out ord[i] (x.1.2:Int)
   case done =>
    rintro D ys W hD rfl ⟨hB,hall⟩ hK;have hfm:=ZdJ ho.out hn1 (len:=i) oM (p:=fun a=>!Xf (Ws (ord.getD i 0)) a) (fun y hy=>by rw[HGD.out,hall y hy];rfl);have HFM:=Xa hfm;have HBW:=Xa hB;have HKD:=Xa hK;clear hfm hall hB hK
    gi_wp2
    refine⟨⟨i+1,D::ds,_,_,_,_,_,_,_,_,_,_,_,oM,rfl,Xa ?_,Xa ?_,Xa ?_⟩,by simp[intOf];omega⟩
    ·exact(HG.trans ⟨hbw4.os,hbw4.tape,hbw4.output,hbw4.size,fun k hk _=>hbw4.block k hk⟩).trans ⟨HBW.os,HBW.tape,HBW.output,HBW.size,fun k hk _=>HBW.block k hk⟩
    ·exact(HR4.of_block (HBW.block gN oM)).congr (fun z _=>by rw[Za6 HFM.out])
    ·exact ZbA HM.out oM HKD.out (fun k hk hne=>(HBW.block k oM).trans (hbw4.block k hk)) HN3'.out
   case stop =>
    rintro D c pre W hD ⟨k,hk,rfl⟩ ⟨rfl,pre',x,e,h1,h2,hg,hr⟩ hK;have hfm:=Zfq ho.out hn1 (len:=i) oM (Nat.le_of_lt hk) (p:=fun a=>!Xf (Ws (ord.getD i 0)) a) e.symm (fun y hy=>by rw[HGD.out,h1 y hy];rfl) (by rw[HGD.out,h2];rfl);have HFM:=Xa hfm;have HGW:=Xa hg;have HRW:=Xa hr;have HKD:=Xa hK;clear hfm h1 h2 hg hr hK e
    gi_wp2
    refine⟨⟨i+1,D::ds,_,_,_,_,_,_,_,_,_,_,_,oM,rfl,Xa ?_,Xa ?_,Xa ?_⟩,by simp[intOf];omega⟩
    ·exact(HG.trans ⟨hbw4.os,hbw4.tape,hbw4.output,hbw4.size,fun k hk _=>hbw4.block k hk⟩).trans HGW.out
    ·exact HRW.congr (fun z _=>by rw[Zbp HFM.out,HGD.out])
    ·exact ZbA HM.out oM HKD.out (fun k hk hne=>(HGW.block k oM (fun e=>hne (by injection e))).trans (hbw4.block k hk)) HN3'.out
  ·have hin:i=n0:=oM
   subst hin;have hNr:wr.cell? ⟨w2.heap.size,0,none⟩=some (.slice (some ⟨gN,0,none⟩) n n):=(World.cell?_of_block (HG.block w2.heap.size hz3 (fun e=>by injection e with e;omega))).trans HN3.out
   gi_wp2
   refine KB ds wr HM.out HG.size (fun W' hW'=>?_);refine⟨.slice (some ⟨gN,0,none⟩) n n,by simp[results,Tryz.results106,go_sem],gN,Ws,rfl,oM,?_,?_,HH1.out⟩
   ·exact(HB3.grown HG.out hzw (fun k e=>by cases e;omega)).trans (hW'.mono hzw)
   ·exact HR.of_block (hW'.block gN oM)
end
end Go.Proofs.YthgikffcdgpgiaaGreatDoor
