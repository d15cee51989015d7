import Derived.Test.YthgikffcdgpgiaaGreatDoorMQ3
import Derived.Test.YthgikffcdgpgiaaGreatDoorW18b
import Derived.Test.YthgikffcdgpgiaaGreatDoorSS3
import Derived.Test.YthgikffcdgpgiaaGreatDoorVP1
import Derived.Test.YthgikffcdgpgiaaGreatDoorW14b
import Derived.Test.YthgikffcdgpgiaaGreatDoorRFN
import Derived.Test.YthgikffcdgpgiaaGreatDoorMem
import Derived.Test.YthgikffcdgpgiaaGreatDoorW5
import Derived.Deep.RegionHeld3
import Derived.Test.YthgikffcdgpgiaaGreatDoorCL1
namespace Go.Proofs.YthgikffcdgpgiaaGreatDoor
open Go.RowKit
theorem ptQ_some {xs:List Blk} {b:Nat} (hb:b<xs.length) (V i:Nat):ptQ xs V b i=natI (ptP xs xs[b] V b i):=by
 unfold ptQ
 rw [List.getElem?_eq_getElem hb]
theorem dfL_some {xs:List Blk} {b:Nat} (hb:b<xs.length):(dfL xs b).length=xs[b].instrs.length:=by
 unfold dfL
 rw [List.getElem?_eq_getElem hb]
 simp [dfsM]
end Go.Proofs.YthgikffcdgpgiaaGreatDoor

namespace Go.Proofs.YthgikffcdgpgiaaGreatDoor
def AllRe (xs:List Blk):Prop:=∀b,b<xs.length→Re (tgN xs) b
open Classical in
noncomputable def verdP (v:Int) (xs:List Blk):Int:=if validI ⟨v,xs⟩=false then 9 else if ¬AllRe xs then 10 else if ∃x,Bad xs x then 11 else 0
theorem sub_len:∀(n:Nat) (F:List Nat),(∀b,b<n→b∈F)→n≤F.length
 | 0,_,_=>Nat.zero_le _
 | n+1,F,h=>by
  have h1:=sub_len n (F.erase n) (fun b hb=>(List.mem_erase_of_ne (by omega)).2 (h b (by omega)))
  have h2:n∈F:=h n (by omega)
  rw [List.length_erase_of_mem h2] at h1
  have:=List.length_pos_of_mem h2
  omega
theorem full_iff {xs:List Blk} (ho:OkF xs) {F:List Nat} (hn:F.Nodup) (hm:∀x,x∈F↔Re (tgN xs) x):F.length≤xs.length∧(F.length=xs.length↔AllRe xs):=by
 have hl:F.length≤xs.length:=nodup_le hn (fun x hx=>ho.re x ((hm x).1 hx))
 refine ⟨hl,fun h b hb=>?_,fun h=>?_⟩
 ·apply Classical.byContradiction
  intro hc
  have hnd:(b::F).Nodup:=List.nodup_cons.2 ⟨fun h2=>hc ((hm b).1 h2),hn⟩
  have:=nodup_le (n:=xs.length) hnd (fun x hx=>by
   rcases List.mem_cons.1 hx with rfl | hx
   ·exact hb
   ·exact ho.re x ((hm x).1 hx))
  rw [List.length_cons] at this
  omega
 ·have:=sub_len xs.length F (fun b hb=>(hm b).2 (h b hb))
  omega
open Classical in
theorem verdP_bad {v:Int} {xs:List Blk} (h:validI ⟨v,xs⟩=false):verdP v xs=9:=by unfold verdP;rw [if_pos h]
open Classical in
theorem verdP_un {v:Int} {xs:List Blk} (h:validI ⟨v,xs⟩=true) (k:¬AllRe xs):verdP v xs=10:=by unfold verdP;rw [if_neg (by rw [h];decide),if_pos k]
open Classical in
theorem verdP_ns {v:Int} {xs:List Blk} (h:validI ⟨v,xs⟩=true) (k:AllRe xs) (m:∃x,Bad xs x):verdP v xs=11:=by unfold verdP;rw [if_neg (by rw [h];decide),if_neg (fun q=>q k),if_pos m]
open Classical in
theorem verdP_ok {v:Int} {xs:List Blk} (h:validI ⟨v,xs⟩=true) (k:AllRe xs) (m:¬∃x,Bad xs x):verdP v xs=0:=by unfold verdP;rw [if_neg (by rw [h];decide),if_neg (fun q=>q k),if_neg m]
end Go.Proofs.YthgikffcdgpgiaaGreatDoor

namespace Go.Proofs.YthgikffcdgpgiaaGreatDoor
open Go.RowKit
structure IsSm (C:Nat→Int) (l:List Nat) (c:Nat):Prop where
 free:∀u∈l,C u≠(c:Int)
 low:∀c',c' < c→∃u∈l,C u=(c':Int)
theorem IsSm.one {C:Nat→Int} {l:List Nat} {c d:Nat} (h:IsSm C l c) (k:IsSm C l d):c=d:=by
 rcases Nat.lt_trichotomy c d with e | e | e
 ·obtain ⟨u,h1,h2⟩:=k.low c e
  exact absurd h2 (h.free u h1)
 ·exact e
 ·obtain ⟨u,h1,h2⟩:=h.low d e
  exact absurd h2 (k.free u h1)
theorem low_len {C:Nat→Int} {l:List Nat} {c:Nat} (h:∀c',c' < c→∃u∈l,C u=(c':Int)):c≤l.length:=by
 have h1:=nodup_leC (A:=List.range c) (B:=l.map fun u=>(C u).toNat) List.nodup_range (fun x hx=>by
  obtain ⟨u,hu,e⟩:=h x (List.mem_range.1 hx)
  exact List.mem_map.2 ⟨u,hu,by rw [e];rfl⟩)
 simpa using h1
theorem sm_full {C:Nat→Int} {l:List Nat} (h:∀c',c' < l.length→∃u∈l,C u=(c':Int)):IsSm C l l.length:=by
 refine ⟨fun u hu e=>?_,h⟩
 have:=low_len (C:=C) (l:=l) (c:=l.length+1) (fun c' hc=>by
  by_cases e2:c'=l.length
  ·subst e2;exact ⟨u,hu,e⟩
  ·exact h c' (by omega))
 omega
theorem low_lt {C:Nat→Int} {l:List Nat} {c V v:Nat} (h:∀c',c' < c→∃u∈l,C u=(c':Int)) (hl:∀u∈l,u<V) (hv:v<V) (hC:C v=-1):c<V:=by
 have h1:=nodup_leC (A:=List.range c) (B:=((List.range V).erase v).map fun u=>(C u).toNat) List.nodup_range (fun x hx=>by
  obtain ⟨u,hu,e⟩:=h x (List.mem_range.1 hx)
  have hne:u≠v:=fun e2=>by rw [e2,hC] at e;omega
  exact List.mem_map.2 ⟨u,(List.mem_erase_of_ne hne).2 (List.mem_range.2 (hl u hu)),by rw [e];rfl⟩)
 rw [List.length_map,List.length_erase_of_mem (List.mem_range.2 hv),List.length_range,List.length_range] at h1
 omega
open Classical in
theorem sm_ex (C:Nat→Int) (l:List Nat):∃c,IsSm C l c:=by
 by_cases h:∀c',c' < l.length→∃u∈l,C u=(c':Int)
 ·exact ⟨_,sm_full h⟩
 ·have hex:∃c,¬∃u∈l,C u=((c:Nat):Int):=by
   apply Classical.byContradiction
   intro h2
   exact h (fun c' _=>Classical.byContradiction (fun h3=>h2 ⟨c',h3⟩))
  have key:∀n c,c≤n→(¬∃u∈l,C u=((c:Nat):Int))→∃c,IsSm C l c:=by
   intro n
   induction n with
   | zero =>
    intro c hc hn
    exact ⟨c,fun u hu e=>hn ⟨u,hu,e⟩,fun c' hc'=>absurd hc' (by omega)⟩
   | succ n ih =>
    intro c hc hn
    by_cases hlow:∀c',c' < c→∃u∈l,C u=(c':Int)
    ·exact ⟨c,fun u hu e=>hn ⟨u,hu,e⟩,hlow⟩
    ·have:∃c',c' < c∧¬∃u∈l,C u=((c':Nat):Int):=by
      apply Classical.byContradiction
      intro h2
      exact hlow (fun c' hc'=>Classical.byContradiction (fun h3=>h2 ⟨c',hc',h3⟩))
     obtain ⟨c',h1,h2⟩:=this
     exact ih c' (by omega) h2
  obtain ⟨c,hc⟩:=hex
  exact key c c (Nat.le_refl _) hc
noncomputable def smN (C:Nat→Int) (l:List Nat):Nat:=Classical.choose (sm_ex C l)
theorem smN_is (C:Nat→Int) (l:List Nat):IsSm C l (smN C l):=Classical.choose_spec (sm_ex C l)
theorem smN_eq {C:Nat→Int} {l:List Nat} {c:Nat} (h:IsSm C l c):smN C l=c:=(smN_is C l).one h
theorem smN_le (C:Nat→Int) (l:List Nat):smN C l≤l.length:=low_len (smN_is C l).low
noncomputable def ckS (C:Nat→Int) (s:Nat × List Nat):Nat→Int:=fun u=>if u=s.1 then (smN C s.2:Int) else C u
noncomputable def ckF (C:Nat→Int) (ss:List (Nat × List Nat)):Nat→Int:=ss.foldl ckS C
theorem ckF_snoc (C:Nat→Int) (ss:List (Nat × List Nat)) (s:Nat × List Nat):ckF C (ss++[s])=ckS (ckF C ss) s:=by unfold ckF;rw [List.foldl_append];rfl
theorem ckF_app (C:Nat→Int) (ss tt:List (Nat × List Nat)):ckF C (ss++tt)=ckF (ckF C ss) tt:=by unfold ckF;rw [List.foldl_append]
noncomputable def phS (xs:List Blk) (V b:Nat) (x:Blk) (k:Nat):List (Nat × List Nat):=(x.phis.take k).map fun p=>(p.dst.toNat,ptP xs x V b 0)
noncomputable def inS (xs:List Blk) (V b:Nat) (x:Blk):Nat→List (Nat × List Nat)
 | 0=>[]
 | k+1=>inS xs V b x k++match x.instrs[k]? with
  | none=>[]
  | some y=>(writesI y).map fun v=>(v.toNat,ptP xs x V b (k+1))
noncomputable def skB (xs:List Blk) (V b:Nat):List (Nat × List Nat):=match xs[b]? with
 | none=>[]
 | some x=>phS xs V b x x.phis.length++inS xs V b x x.instrs.length
noncomputable def skA (xs:List Blk) (V:Nat) (od:List Nat):List (Nat × List Nat):=od.flatMap (skB xs V)
theorem skA_snoc (xs:List Blk) (V:Nat) (od:List Nat) (b:Nat):skA xs V (od++[b])=skA xs V od++skB xs V b:=by unfold skA;rw [List.flatMap_append];simp
noncomputable def ckN (C:Nat→Int):Nat→Int
 | 0=>0
 | V+1=>max (ckN C V) (C V+1)
end Go.Proofs.YthgikffcdgpgiaaGreatDoor

namespace Go.Proofs.YthgikffcdgpgiaaGreatDoor
open Go.RowKit
structure IaAt (w:World) (g K C:Nat) (W:Nat→Int):Prop where
 le:K≤C
 ex:∃T:Nat→Value,w.rowIs g 2 C (fun i=>if i<K then .int .i64 (W i) else T i)
namespace IaAt
variable {w : World} {g K C : Nat} {W W' : Nat → Int}
theorem lt (h:IaAt w g K C W):g<w.heap.size:=by
 obtain ⟨_,T,h⟩:=h
 exact h.lt
theorem cell (h:IaAt w g K C W) {i:Nat} (hi:i<K):w.cell? ⟨g,i,none⟩=some (.int .i64 (W i)):=by
 obtain ⟨hl,T,h⟩:=h
 have:=h.cell (i:=i) (by omega)
 rwa [if_pos hi] at this
theorem frozen (h:IaAt w g K C W) (i:Nat):w.frozen? ⟨g,i,none⟩=false:=by
 obtain ⟨_,T,h⟩:=h
 exact h.frozen i
theorem congr (h:IaAt w g K C W) (e:∀i,i<K→W i=W' i):IaAt w g K C W':=by
 obtain ⟨hl,T,h⟩:=h
 refine ⟨hl,T,h.congr (fun i _=>?_)⟩
 by_cases hi:i<K
 ·rw [if_pos hi,if_pos hi,e i hi]
 ·rw [if_neg hi,if_neg hi]
theorem of_block {w':World} (h:IaAt w g K C W) (e:w'.heap[g]?=w.heap[g]?):IaAt w' g K C W:=by
 obtain ⟨hl,T,h⟩:=h
 exact ⟨hl,T,h.of_block e⟩
theorem set (h:IaAt w g K C W) (i:Nat) (v:Int) (hi:i<K):IaAt (w.setCell ⟨g,i,none⟩ (.int .i64 v)) g K C (fun j=>if j=i then v else W j):=by
 obtain ⟨hl,T,h⟩:=h
 refine ⟨hl,T,(h.set i _).congr (fun j _=>?_)⟩
 by_cases e:j=i
 ·rw [if_pos e,if_pos (by omega),if_pos e]
 ·rw [if_neg e,if_neg e]
theorem setOther (h:IaAt w g K C W) {a:Addr} (ha:g≠a.block) (v:Value):IaAt (w.setCell a v) g K C W:=by
 obtain ⟨hl,T,h⟩:=h
 exact ⟨hl,T,h.setOther ha v⟩
theorem alloc (h:IaAt w g K C W) (o:Obj):IaAt (w.alloc o) g K C W:=by
 obtain ⟨hl,T,h⟩:=h
 exact ⟨hl,T,h.alloc o⟩
theorem of_row (h:w.rowIs g 2 K (fun i=>.int .i64 (W i))):IaAt w g K K W :=
 ⟨Nat.le_refl _,fun _=>.int .i64 0,h.congr (fun i hi=>by rw [if_pos hi])⟩
theorem of_own {base:Nat} {v:Value} {ws:List Int} (h:w.ownsRow base 2 1 v ws.length (ws.map (Value.int .i64))) (hv:v≠.slice none 0 0):∃g C,v=.slice (some ⟨g,0,none⟩) ws.length C∧base≤g∧IaAt w g ws.length C (fun i=>ws.getD i 0):=by
 obtain ⟨hl,h | ⟨g,cap,cur,rfl,hg,hh,hc,_,hs,ht⟩⟩:=h
 ·exact absurd h.1 hv
 ·simp only [Nat.mul_one] at hl hs ht
  refine ⟨g,cap,rfl,hg,hc,fun i=>cur[i]?.getD (.int .i64 0),cur,hh,hs,fun i hi=>?_⟩
  show cur[i]?=some (if i<ws.length then Value.int .i64 (ws.getD i 0) else cur[i]?.getD (.int .i64 0))
  by_cases e:i<ws.length
  ·rw [if_pos e]
   have h1:(cur.toList.take ws.length)[i]?=some (Value.int .i64 ws[i]):=by rw [ht];simp [e]
   rw [List.getElem?_take_of_lt e] at h1
   have e2:ws.getD i 0=ws[i]:=by simp [e]
   rw [e2]
   simpa using h1
  ·rw [if_neg e]
   have:i<cur.size:=by omega
   simp [this]
end IaAt
end Go.Proofs.YthgikffcdgpgiaaGreatDoor

namespace Go.Proofs.YthgikffcdgpgiaaGreatDoor
open Go.RowKit
theorem and_mask2 {n:Nat} (hn:n≤2000):bits .and .u64 (n:Int) 4294967295=(n:Int):=by
 have h:n &&& 4294967295=n:=by
  have:=Nat.and_two_pow_sub_one_eq_mod n 32
  rw [show (2 ^ 32-1:Nat)=4294967295 from rfl] at this
  rw [this]
  omega
 rw [show (4294967295:Int)=((4294967295:Nat):Int) from rfl,u64_and_nat _ _ (by omega) (by decide),h]
set_option maxHeartbeats 1000000 in
set_option maxRecDepth 100000 in
theorem mul64_two (n:Nat) (w:World) (hn:n≤2000) :
  Calls Tryz.prog 132 #[.int .u64 1,.int .u64 n] w fun e w'=>e=.returned (.tuple #[.int .u64 0,.int .u64 n])∧w'=w:=by
 have b1:bits .and .u64 1 4294967295=1:=by decide
 have b0:bits .and .u64 0 4294967295=0:=by decide
 have bn:=and_mask2 hn
 have d0:(n:Int) / 4294967296=0:=by omega
 have wn:IntKind.u64.wrap (n:Int)=n:=by simp [IntKind.wrap,IntKind.bits,IntKind.signed];omega
 have w0:IntKind.u64.wrap 0=0:=by decide
 go_enter Tryz.func132,Tryz.ntmps132
 go_wp2_with fail
 refine bodyPost_ret (v:=.tuple #[.int .u64 0,.int .u64 n]) (by simp [results,Tryz.results132,go_sem]) rfl ⟨rfl,rfl⟩
set_option maxHeartbeats 1000000 in
set_option maxRecDepth 100000 in
theorem mul_two (n:Nat) (w:World) (hn:n≤2000) :
  Calls Tryz.prog 103 #[.int .u64 1,.int .u64 n] w fun e w'=>e=.returned (.tuple #[.int .u64 0,.int .u64 n])∧w'=w:=by
 have HM:=hide (fun W=>mul64_two n W hn)
 go_enter Tryz.func103,Tryz.ntmps103
 go_wp2_with fail
 refine (HM.out _).mono ?_
 rintro e w1 ⟨rfl,rfl⟩
 go_wp2_with fail
 refine bodyPost_ret (v:=.tuple #[.int .u64 0,.int .u64 n]) (by simp [results,Tryz.results103,go_sem]) rfl ⟨rfl,rfl⟩
set_option maxHeartbeats 1000000 in
set_option maxRecDepth 100000 in
theorem repeat_two (b n:Nat) (w:World) (hn:n≤2000) (hc:w.cell? ⟨b,0,none⟩=some (.int .i64 (-1))) (hb:b<w.heap.size) :
  Calls Tryz.prog 56 #[.slice (some ⟨b,0,none⟩) 1 1,.int .i64 n] w fun e w'=>∃g,e=.returned (.slice (some ⟨g,0,none⟩) n n)∧w.heap.size≤g∧Below w.heap.size w w'∧w'.rowIs g 2 n (fun _=>.int .i64 (-1)):=by
 have HM:=hide (fun W=>mul_two n W hn)
 have hmk:=run_make_row' (P:=Tryz.prog) 26 2 (.int .i64 0) 8 Tryz.underlying26 Tryz.info2' rfl .i64 .i64 n (by omega) (by omega)
 obtain ⟨m0,hm0⟩:∃m0,m0=Nat.min 1 (n-0):=⟨_,rfl⟩
 have hm1:m0≤1:=by rw [hm0];exact Nat.min_le_left _ _
 have hm2:m0≤n:=by have:=Nat.min_le_right 1 (n-0);rw [hm0];omega
 have hm3:0<n→1≤m0:=fun h=>by rw [hm0];exact Nat.le_min.2 ⟨Nat.le_refl _,by omega⟩
 obtain ⟨W1,hcp,hg1,hr1⟩:=copy_const w.heap.size 0 n n b 0 1 1 m0 (.int .i64 (-1)) _ (w.alloc (.cells (madeCells #[.int .i64 0] n) 2)) (World.rowIs_made w (.int .i64 0) n 2) (Nat.zero_le _) rfl hm0 (fun j hj=>by
  have:j=0:=by omega
  subst this
  exact (World.cell?_alloc_lt _ _ _ hb).trans hc)
 rw [Nat.sub_zero] at hcp
 have HR1:=hide hr1
 have HG1:=hide hg1
 clear hr1 hg1 hm0
 go_enter Tryz.func56,Tryz.ntmps56
 go_wp2_with fail
 refine (HM.out _).mono ?_
 rintro e w1 ⟨rfl,hw⟩
 rw [hw]
 clear hw w1
 go_wp2_with fail
 generalize decide ((n:Int)<0)=br1
 generalize decide (9223372036854775807<(n:Int))=br2
 have HR0:Hid (W1.rowIs w.heap.size 2 n (fun i=>.int .i64 (if i<m0 then -1 else 0))):=hide (HR1.out.congr (fun i _=>by by_cases h:i<m0<;>simp [h]))
 have HB0:Hid (Below w.heap.size w W1):=hide ((balloc (Below.refl _ w) _).grown HG1.out (by simp) (fun k e=>by cases e;exact Nat.le_refl _))
 clear HR1 HG1 hcp hc
 go_loopw [8] (fun u wr=>∃k:Nat,(0<n→1≤k)∧k≤n∧u=.int .i64 k∧Hid (Below w.heap.size w wr)∧Hid (wr.rowIs w.heap.size 2 n (fun i=>.int .i64 (if i<k then -1 else 0)))) (fun u _=>n-(intOf u).toNat)
 case atStart=>exact ⟨m0,hm3,hm2,rfl,HB0,HR0⟩
 case round =>
  clear HB0 HR0
  obtain ⟨k,hk1,hkn,rfl,HB,HR⟩:=hrel
  by_cases hlt:k<n
  ·obtain ⟨m,hm⟩:∃m,m=Nat.min k (n-k):=⟨_,rfl⟩
   have hm1:m≤k:=by rw [hm];exact Nat.min_le_left _ _
   have hm2:m≤n-k:=by rw [hm];exact Nat.min_le_right _ _
   have hm3:0<m:=by rw [hm];exact Nat.lt_min.2 ⟨hk1 (by omega),by omega⟩
   obtain ⟨W2,hcp,hg2,hr2⟩:=copy_const w.heap.size k n (n-k) w.heap.size 0 k n m (.int .i64 (-1)) (fun i=>.int .i64 (if i<k then -1 else 0)) wr.drew HR.out hkn rfl hm (fun j hj=>by
    rw [Nat.zero_add]
    have:=HR.out.cell (i:=j) (by omega)
    rw [if_pos (by omega)] at this
    exact this)
   have HR2:Hid (W2.rowIs w.heap.size 2 n (fun i=>.int .i64 (if i<k+m then -1 else 0))):=hide (hr2.congr (fun i _=>by
    by_cases h1:i<k
    ·simp [h1]
     omega
    ·by_cases h2:i<k+m
     ·simp [h1,h2]
     ·simp [h1,h2]))
   have HB2:Hid (Below w.heap.size w W2):=hide (HB.out.drew.grown hg2 HB.out.size (fun k e=>by cases e;exact Nat.le_refl _))
   clear HB HR hr2 hg2 hm
   go_wp2
   go_region
   go_wp2
   exact ⟨⟨k+m,fun _=>by omega,by omega,by go_num,HB2,HR2⟩,by simp [intOf];omega⟩
  ·have:k=n:=by omega
   subst this
   have HE:Hid (wr.rowIs w.heap.size 2 k (fun _=>.int .i64 (-1))):=hide (HR.out.congr (fun i hi=>by simp [hi]))
   clear HR
   go_wp2_with fail
   go_ret
   exact ⟨_,rfl,Nat.le_refl _,HB.out,HE.out⟩
end Go.Proofs.YthgikffcdgpgiaaGreatDoor

namespace Go.Proofs.YthgikffcdgpgiaaGreatDoor
open Go.RowKit
theorem ints_range {w:World} {g V cap:Nat} {C:Nat→Int} (h:IaAt w g V cap C):IntsAt w 0 w.heap.size (some ⟨g,0,none⟩) ((List.range V).map C):=fun i hi=>by
 simp only [List.length_map,List.length_range] at hi
 refine ⟨g,0,rfl,⟨Nat.zero_le _,h.lt⟩,?_⟩
 simp only [List.getElem_map,List.getElem_range,Nat.zero_add]
 exact h.cell hi
theorem colR_iff {V:Nat} {C:Nat→Int} {l:List Nat} (hl:∀u∈l,u<V) (c:Nat):colR ((List.range V).map C) l c↔∃u∈l,C u=(c:Int):=by
 unfold colR
 constructor
 ·rintro ⟨u,h1,h2⟩
  exact ⟨u,h1,by have:=hl u h1;simpa [this] using h2⟩
 ·rintro ⟨u,h1,h2⟩
  exact ⟨u,h1,by have:=hl u h1;simp [this,h2]⟩
theorem ls_lt {V Kw:Nat} {W:Nat→Nat} (h:LtV V Kw W):∀u∈lsN W (64*Kw),u<V:=fun u hu=>by
 unfold lsN at hu
 obtain ⟨h1,h2⟩:=List.mem_filter.1 hu
 exact h u (List.mem_range.1 h1) h2
def lowD (C:Nat→Int) (l:List Nat) (c:Nat):Prop:=∀c',c' < c→∃u∈l,C u=(c':Int)
set_option maxHeartbeats 2000000 in
set_option maxRecDepth 100000 in
theorem pick_any (v V z Kw Cp cap g bc bv:Nat) (W:Nat→Nat) (C:Nat→Int) (w:World) (hz:Hid (WsAt w z Kw Cp W)) (hwd:Hid (WdOk W)) (hT:Hid (TzTab w)) (hK:Kw≤100) (hlt:Hid (LtV V Kw W)) (hV:V≤2000) (hC:Hid (IaAt w g V cap C)) (hc:Hid (∀u,u<V→C u=-1∨0≤C u∧C u<V)) (hv:v<V) (hn:Hid (C v=-1)) (h1:w.cell? ⟨bc,0,none⟩=some (.slice (some ⟨g,0,none⟩) V cap)) (h2:w.cell? ⟨bv,0,none⟩=some (.int .i64 (V:Int))) (hbg:bc≠g) :
  Calls Tryz.prog 57 #[.int .i64 (v:Int),.agg #[.slice (some ⟨z,0,none⟩) Kw Cp],.pointer (some ⟨bc,0,none⟩),.pointer (some ⟨bv,0,none⟩)] w fun e w'=>e=.returned (.int .i64 (smN C (lsN W (64*Kw)):Int))∧w.grownBy w' (some g)∧IaAt w' g V cap (ckS C (v,lsN W (64*Kw))):=by
 obtain ⟨Kr,hKr⟩:∃Kr,Kr=(V+63) / 64:=⟨_,rfl⟩
 have HCO:=hide (fun U (hb:Below w.heap.size w U)=>colorsOf_any z Kw Cp W (some ⟨g,0,none⟩) V cap V Kr ((List.range V).map C) 0 U.heap.size U (hide (hz.out.of_block (hb.block z hz.out.lt))) hwd (hide (ints_range (hC.out.of_block (hb.block g hC.out.lt)))) (hide (by simp)) (Nat.le_refl _) (hide (hT.out.of_block (hb.block _ (World.block_lt_of_cell? w _ (hT.out 0 (by decide)))))) hK hlt hV (hide hKr) (hide (fun c hm=>by
  obtain ⟨u,hu,rfl⟩:=List.mem_map.1 hm
  exact hc.out u (List.mem_range.1 hu))))
 have hKr1:V≤64*Kr:=by omega
 have hKr2:Kr≤100:=by omega
 clear hKr
 have HL:=hide (ls_lt hlt.out)
 generalize lsN W (64*Kw)=l at *
 have HLO:Hid (∀c,lowD C l c→c<V):=hide (fun c h=>low_lt h HL.out hv hn.out)
 have l1:=World.block_lt_of_cell? w _ h1
 have l2:=World.block_lt_of_cell? w _ h2
 have hgl:=hC.out.lt
 go_enter Tryz.func57,Tryz.ntmps57
 go_wp2_with fail
 refine (HCO.out _ (balloc (Below.refl _ _) _)).mono ?_
 rintro e w1 ⟨gT,T,rfl,hgT,hb1,hT1,hd1,hh1⟩
 have hs1:w.heap.size+1≤w1.heap.size:=by have:=hb1.size;simpa using this
 have HB1:=hide (bnext (balloc (Below.refl w.heap.size w) (.cells #[.slice (some ⟨z,0,none⟩) Kw Cp] 75)) hb1)
 have HT1:=hide hT1
 have HD1:=hide hd1
 have HH1:Hid (∀c,c<64*Kr→(hasN T c=true↔∃u∈l,C u=(c:Int))):=hide (fun c hc'=>(hh1 c hc').trans (colR_iff HL.out c))
 clear hb1 hT1 hd1 hh1 HCO
 go_wp2_with fail
 have HB2:Hid (Below w.heap.size w (w1.alloc (.cells #[.slice (some ⟨gT,0,none⟩) Kr Kr] 84))):=hide (balloc HB1.out _)
 have HT2:Hid (WsAt (w1.alloc (.cells #[.slice (some ⟨gT,0,none⟩) Kr Kr] 84)) gT Kr Kr T):=hide (HT1.out.alloc _)
 have hx2:(w1.alloc (.cells #[.slice (some ⟨gT,0,none⟩) Kr Kr] 84)).cell? ⟨w1.heap.size,0,none⟩=some (.slice (some ⟨gT,0,none⟩) Kr Kr):=by simp [go_sem]
 have hs2:w1.heap.size<(w1.alloc (.cells #[.slice (some ⟨gT,0,none⟩) Kr Kr] 84)).heap.size:=by simp
 generalize w1.alloc (.cells #[.slice (some ⟨gT,0,none⟩) Kr Kr] 84)=w2 at *
 have HX2:=hide hx2
 clear hx2 HT1
 go_loopw [8] (fun u wr=>∃c:Nat,u=.int .i64 c∧Hid (lowD C l c)∧Hid (Below w2.heap.size w2 wr)) (fun u _=>V-(intOf u).toNat)
 case atStart=>exact ⟨0,rfl,hide (fun c' h=>absurd h (by omega)),hide (Below.refl _ _)⟩
 case round =>
  obtain ⟨c,rfl,HC0,HBw⟩:=hrel
  have hcV:=HLO.out c HC0.out
  have hx:=(HBw.out.cell (p:=⟨w1.heap.size,0,none⟩) hs2).trans HX2.out
  have hTw:=HT2.out.of_block (HBw.out.block gT HT2.out.lt)
  have HHA:=hide (has_colorNo gT Kr c T wr HD1 (hide (by
   obtain ⟨_,X,hX⟩:=hTw
   exact hX.congr (fun i hi=>by rw [if_pos hi]))) (by omega) (by omega))
  have hk1:=(HBw.out.cell (p:=⟨bc,0,none⟩) (by have:=HB2.out.size;show bc<_;have:bc<w.heap.size:=l1;omega)).trans ((HB2.out.cell (p:=⟨bc,0,none⟩) l1).trans h1)
  have HCw:=hide ((hC.out.of_block (HB2.out.block g hgl)).of_block (HBw.out.block g (by have:=HB2.out.size;omega)))
  clear hTw
  cases hh:hasN T c with
  | true =>
   rw [hh] at HHA
   have HN:Hid (lowD C l (c+1)):=hide (fun c' h=>by
    by_cases e:c'=c
    ·subst e
     exact (HH1.out c' (by omega)).1 hh
    ·exact HC0.out c' (by omega))
   have hcV2:=HLO.out _ HN.out
   clear hh
   go_wp2_with fail
   refine HHA.out.mono ?_
   rintro e w3 ⟨rfl,hb3⟩
   have HB3:=hide (bnext HBw.out hb3)
   clear hb3 HHA
   go_wp2_with fail
   exact ⟨⟨c+1,by go_num,HN,HB3⟩,by simp [intOf];omega⟩
  | false =>
   rw [hh] at HHA
   have hsm:smN C l=c:=smN_eq ⟨fun u hu e=>by
    have:=(HH1.out c (by omega)).2 ⟨u,hu,e⟩
    rw [hh] at this
    exact absurd this (by decide),HC0.out⟩
   have HSM:=hide hsm
   clear hh hsm
   go_wp2_with fail
   refine HHA.out.mono ?_
   rintro e w3 ⟨rfl,hb3⟩
   have hk3:=(hb3.cell (p:=⟨bc,0,none⟩) (World.block_lt_of_cell? wr _ hk1)).trans hk1
   have HC3:=hide (HCw.out.of_block (hb3.block g HCw.out.lt))
   have HB3:Hid (Below w.heap.size w w3):=hide (HB2.out.trans ((bnext HBw.out hb3).mono HB2.out.size))
   have yc:=HC3.out.cell hv
   have yf:=HC3.out.frozen v
   clear hb3 HHA hk1 hx
   go_wp2_with fail
   have hk4:(w3.setCell ⟨g,v,none⟩ (.int .i64 (c:Int))).cell? ⟨bc,0,none⟩=some (.slice (some ⟨g,0,none⟩) V cap):=(World.cell?_setCell_far w3 ⟨g,v,none⟩ ⟨bc,0,none⟩ _ (by show g≠bc;exact fun e=>hbg e.symm)).trans hk3
   have hc4:=(HC3.out.set v (c:Int) hv).cell hv
   rw [if_pos rfl] at hc4
   have HC4:=hide (HC3.out.set v (c:Int) hv)
   have HB4:Hid (w.grownBy (w3.setCell ⟨g,v,none⟩ (.int .i64 (c:Int))) (some g)):=hide ((⟨HB3.out.os,HB3.out.tape,HB3.out.output,HB3.out.size,fun k hk _=>HB3.out.block k hk⟩:w.grownBy w3 (some g)).trans ⟨rfl,rfl,rfl,by simp [World.setCell],fun k _ hk=>Below.heap_setCell _ _ _ _ (fun e=>hk (by rw [e]))⟩)
   generalize w3.setCell ⟨g,v,none⟩ (.int .i64 (c:Int))=w4 at *
   go_wp2_with fail
   go_ret
   refine ⟨by rw [HSM.out];rfl,HB4.out,HC4.out.congr (fun i _=>?_)⟩
   unfold ckS
   rw [HSM.out]
end Go.Proofs.YthgikffcdgpgiaaGreatDoor
