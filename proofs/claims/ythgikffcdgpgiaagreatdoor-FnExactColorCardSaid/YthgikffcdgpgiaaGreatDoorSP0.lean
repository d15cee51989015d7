import Derived.Test.YthgikffcdgpgiaaGreatDoorDR1
import Derived.Lib.AppendZerosOnto
import Derived.Lib.Walk
import Derived.Lib.SliceRun
import Derived.Test.YthgikffcdgpgiaaGreatDoorW2
import Derived.Deep.LoopGhost
import Derived.WalkMore
namespace Go.Proofs.YthgikffcdgpgiaaGreatDoor
set_option maxHeartbeats 4000000
set_option maxRecDepth 100000
open Go.RowKit
structure XO(w:World)(G n K:Nat)(gs:Nat->Nat)(Ws:Nat->Nat->Nat):Prop where
 row:w.rowIs G 110 n (fun i=>.slice (some ⟨gs i,0,none⟩) K K)
 set:∀i,i<n->w.rowIs (gs i) 133 K (fun j=>.int .u64 (Ws i j))
 inj:∀i j,i<n->j<n->gs i=gs j->i=j
 out:∀i,i<n->gs i≠G
theorem Tryz.infoSet:(Tryz.prog.info? 110).map (fun i=>(i.zero,i.size,i.bytes))=some (some (.agg #[.slice none 0 0]),1,24):=kR
theorem Z5{P:Program}(t e:TypeId)(z:Value)(size bytes:Nat)(ht:P.underlying t=some (.slice e))(hinfo:(P.info? e).map (fun i=>(i.zero,i.size,i.bytes))=some (some z,size,bytes))
 (n:Nat) (hbytes:bytes*n<=281474976710656) (h63:n<=9223372036854775807) (w:World) :
 (Instr.makeSlice t (.int .i64 (n:Int)) (.int .i64 (n:Int))).run P w=.ok (.slice (some ⟨w.heap.size,0,none⟩) n n) (w.alloc (.cells (madeCells z.cells (n*size)) e)):=by
 obtain⟨i,hi,hq⟩:=Option.map_eq_some_iff.1 hinfo;simp only[Prod.mk.injEq]at hq;obtain⟨hz,hsz,hbt⟩:=hq;have h:=run_make (P:=P) w t e i z ht hi hz .i64 .i64 (n:Int) (n:Int) oM (Int.le_refl _) (by rw[hbt,<-Int.natCast_mul];omega) oM;simp only[Int.toNat_natCast,hsz]at h;exact h
structure WE(w wr:World)(G n K q:Nat)(gs:Nat->Nat):Prop where
 low:Below w.heap.size w wr
 base:w.heap.size<=G
 row:wr.rowIs G 110 n (fun i=>if i<q then .slice (some ⟨gs i,0,none⟩) K K else .slice none 0 0)
 set:∀i,i<q->wr.rowIs (gs i) 133 K (fun _=>.int .u64 ((0:Nat):Int))
 inj:∀i j,i<q->j<q->gs i=gs j->i=j
 up:∀i,i<q->G<gs i
theorem WE.next{w wr w1:World}{G n K q g:Nat}{gs:Nat->Nat}(h:WE w wr G n K q gs)(hq:q<n)(hb:Below wr.heap.size wr w1)(hg:wr.heap.size<=g)(hr:w1.rowIs g 133 K (fun _=>.int .u64 ((0:Nat):Int))) :
 WE w (w1.setCell ⟨G,q,none⟩ (.slice (some ⟨g,0,none⟩) K K)) G n K (q+1) (fun i=>if i=q then g else gs i)/\w1.cell? ⟨G,q,none⟩=some (.slice none 0 0)/\w1.frozen? ⟨G,q,none⟩=false:=by
 have hGl:G<wr.heap.size:=h.row.lt;have hrow:w1.rowIs G 110 n (fun i=>if i<q then .slice (some ⟨gs i,0,none⟩) K K else .slice none 0 0):=h.row.of_block (hb.block G hGl);have hgl:∀i,i<q->gs i<wr.heap.size:=fun i hi=>(h.set i hi).lt
 refine⟨⟨(h.low.trans (hb.mono h.low.size)).setCell h.base _,h.base,(hrow.set q _).congr (fun i _=>?_),fun i hi=>?_,fun i j hi hj e=>?_,fun i hi=>?_⟩,(hrow.cell hq).trans sP,hrow.frozen q⟩
 ·by_cases e:i=q
  ·subst e;simp
  ·rw[if_neg e]
   by_cases e2:i<q
   ·rw[if_pos e2,if_pos oM];simp[e]
   ·rw[if_neg e2,if_neg oM]
 ·by_cases e:i=q
  ·rw[if_pos e];exact hr.setOther (by show g≠G;omega) _
  ·rw[if_neg e]
   have:=h.up i oM;exact((h.set i oM).of_block (hb.block _ (hgl i oM))).setOther (by show gs i≠G;omega) _
 ·by_cases e1:i=q
  ·by_cases e2:j=q
   ·rw[e1,e2]
   ·rw[if_pos e1,if_neg e2]at e
    have:=hgl j oM;omega
  ·by_cases e2:j=q
   ·rw[if_neg e1,if_pos e2]at e
    have:=hgl i oM;omega
   ·rw[if_neg e1,if_neg e2]at e
    exact h.inj i j oM oM e
 ·by_cases e:i=q
  ·show G<if i=q then g else gs i
   rw[if_pos e];omega
  ·show G<if i=q then g else gs i
   rw[if_neg e];exact h.up i oM
theorem JB(n room:Nat)(w:World)(hn:n<=1000)(hr:room<=60000) :
 Calls Tryz.prog 142 #[.int .i64 n,.int .i64 room] w fun e w'=>∃G gs,e=.returned (.slice (some ⟨G,0,none⟩) n n)/\w.heap.size<=G/\Below w.heap.size w w'/\XO w' G n ((room+63) / 64) gs (fun _ _=>0)/\(∀i,i<n->w.heap.size<=gs i):=by
 have hmk:=Z5 (P:=Tryz.prog) 207 110 (.agg #[.slice none 0 0]) 1 24 Tryz.underlying207 Tryz.infoSet n oM oM;have HNS:=Xa (fun W=>JU room W hr);generalize (room+63) / 64=K at *
 go_enter Tryz.func142,Tryz.ntmps142
 go_wp2_with fail
 go_loopw [11] (fun u wr=>∃q:Nat,q<=n/\u=.int .i64 q/\∃gs,Hid (WE w wr w.heap.size n K q gs)) (fun u _=>n-(intOf u).toNat)
 case atStart=>exact⟨0,Nat.zero_le _,rfl,fun _=>0,Xa ⟨Xb (Below.refl _ _) _,Nat.le_refl _,by
  have h:=World.rowIs_made w (.slice none 0 0) n 110;simpa [Value.cells]using h,fun i hi=>absurd hi oM,fun i j hi=>absurd hi oM,fun i hi=>absurd hi oM⟩⟩
 case round =>
  obtain⟨q,hq,rfl,gs,HS⟩:=hrel;by_cases hlt:q<n
  ·go_wp2_with fail
   refine(HNS.out wr).mono ?_;rintro e w1 ⟨g,rfl,hg,hb1,hr1⟩;have hS1:=HS.next hlt hb1 hg hr1;obtain⟨hS2,hc1,hz1⟩:=hS1;have HS2:=Xa hS2;clear hS2 hb1 hr1
   go_wp2_with fail
   exact⟨⟨q+1,oM,gM,_,HS2⟩,by simp[intOf];omega⟩
  ·have hqn:q=n:=oM
   subst hqn
   go_wp2_with fail
   go_ret
   refine⟨_,gs,rfl,Nat.le_refl _,HS.low,⟨HS.row.congr (fun i hi=>by rw[if_pos hi]),HS.set,HS.inj,fun i hi e=>by have:=HS.up i hi;omega⟩,fun i hi=>by have:=HS.up i hi;omega⟩
def Zbt(L xs:List Int)(i:Nat):Prop:=xs.length=L.length/\∀k (h:k<L.length),xs[k]?=some (if k<i\/L.length<=k+i then L[L.length-1-k]else L[k])
theorem ZfL(L:List Int):Zbt L L 0:=⟨rfl,fun k h=>by rw[if_neg oM,List.getElem?_eq_getElem h]⟩
theorem ZeD{L xs:List Int}{i:Nat}(h:Zbt L xs i)(hi:L.length<=2*i+1):xs=L.reverse:=by
 refine List.ext_getElem? (fun k=>?_);by_cases hk:k<L.length
 ·rw[h.2 k hk,List.getElem?_reverse hk,List.getElem?_eq_getElem oM]
  split
  ·rfl
  ·have e:L.length-1-k=k:=oM
   simp only[e]
 ·rw[List.getElem?_eq_none (by rw[h.1];omega),List.getElem?_eq_none (by rw[List.length_reverse];omega)]
theorem ZfZ{L xs:List Int}{i:Nat}(h:Zbt L xs i)(hi:2*i+1<L.length)(h1:i<xs.length)(h2:L.length-1-i<xs.length):Zbt L ((xs.set i xs[L.length-1-i]).set (L.length-1-i) xs[i]) (i+1):=by
 refine⟨by rw[List.length_set,List.length_set];exact h.1,fun k hk=>?_⟩;have e1:=h.2 i oM;have e2:=h.2 (L.length-1-i) oM;rw[List.getElem?_eq_getElem h1,if_neg oM]at e1;rw[List.getElem?_eq_getElem h2,if_neg oM]at e2;injection e1 with e1;injection e2 with e2;rw[List.getElem?_set,List.length_set];by_cases c1:L.length-1-i=k
 ·subst c1
  rw[if_pos rfl,if_pos h2,if_pos oM,e1];have e:L.length-1-(L.length-1-i)=i:=oM;simp only[e]
 ·rw[if_neg c1,List.getElem?_set]
  by_cases c2:i=k
  ·subst c2
   rw[if_pos rfl,if_pos h1,if_pos oM,e2]
  ·rw[if_neg c2,h.2 k hk]
   by_cases c3:k<i\/L.length<=k+i
   ·rw[if_pos c3,if_pos oM]
   ·rw[if_neg c3,if_neg oM]
theorem JX(g n c B:Nat)(L:List Int)(w:World)(hn:n<=1000000)(hx:Hid (n=L.length))(ho:Hid (w.ownsRow B 2 1 (.slice (some ⟨g,0,none⟩) n c) n (L.map (Value.int .i64)))) :
 Calls Tryz.prog 105 #[.slice (some ⟨g,0,none⟩) n c] w fun e w'=>e=.returned (.tuple #[])/\w.grownBy w' (some g)/\w'.ownsRow B 2 1 (.slice (some ⟨g,0,none⟩) n c) n (L.reverse.map (Value.int .i64)):=by
 go_enter Tryz.func105,Tryz.ntmps105
 go_wp2
 go_loopw [2,3] (fun u v wr=>∃(i:Nat)(xs:List Int),u=.int .i64 i/\v=.int .i64 ((n:Int)-1-i)/\2*i<=n/\Hid (Zbt L xs i)/\Hid (w.grownBy wr (some g))/\Hid (wr.ownsRow B 2 1 (.slice (some ⟨g,0,none⟩) n c) n (xs.map (Value.int .i64)))) (fun u _ _=>n-(intOf u).toNat)
 case atStart=>exact⟨0,L,rfl,gM,oM,Xa (ZfL L),Xa ⟨rfl,rfl,rfl,Nat.le_refl _,fun _ _ _=>rfl⟩,ho⟩
 case round =>
  obtain⟨i,xs,rfl,rfl,hi,HR,HG,HO⟩:=hrel;by_cases hlt:2*i+1<n
  ·have hl:=hx.out
   have hl2:=HR.1;obtain⟨j,hj⟩:∃j:Nat,(n:Int)-1-i=j:=⟨n-1-i,oM⟩;have hjn:j=L.length-1-i:=oM;have h1:i<xs.length:=oM;have h2:L.length-1-i<xs.length:=oM;have h2':j<xs.length:=oM;have HRS:=Xa (ZfZ HR.out oM h1 h2);have e1:=YP HO.out (j:=i) (u:=.int .i64 xs[i]) (by simp[h1]);have e2:=YP HO.out (j:=j) (u:=.int .i64 xs[j]) (by simp[h2']);have hz:=ZeR HO.out;have HJ:Hid (xs[L.length-1-i]=xs[j]):=Xa (by simp only[hjn]);rw[HJ.out,<-hjn]at HRS;have hij:i<j:=oM;have hjn2:j<n:=oM;have hin:i<n:=oM;have hj1:(j:Int)-1=(n:Int)-1-(i+1:Nat):=oM;have HJ1:=Xa hj1;have hc2:∀v,(wr.setCell ⟨g,i,none⟩ v).cell? ⟨g,j,none⟩=some (.int .i64 xs[j]):=fun v=>(X9 _ _ oM _).trans e2
   clear hl hl2 hjn hj1 HJ;rw[hj];generalize xs[i]=vi at *;generalize xs[j]=vj at *;go_wp2
   go_region
   go_wp2;have kk:wr.grownBy ((wr.setCell ⟨g,i,none⟩ (.int .i64 vj)).setCell ⟨g,j,none⟩ (.int .i64 vi)).drew (some g):=⟨rfl,rfl,rfl,by simp[World.setCell,World.drew],fun k _ hk=>(Below.heap_setCell _ _ _ _ (fun e=>hk (by rw[e]))).trans (Below.heap_setCell _ _ _ _ (fun e=>hk (by rw[e])))⟩;refine⟨⟨i+1,_,gM,by rw[HJ1.out],oM,HRS,Xa (HG.andThen kk (fun j hj=>by cases hj;exact Or.inr rfl)),Xa ?_⟩,by simp[intOf];omega⟩;rw[List.map_set,List.map_set];exact Zds (Zds HO.out _) _
  ·have HE:Hid (xs=L.reverse):=Xa (ZeD HR.out (by have:=hx.out;omega))
   go_wp2
   go_end0
   exact⟨rfl,HG.out,by rw[<-HE.out];exact HO.out⟩
theorem Vs(b o n c:Nat)(vs:List Int)(L B:Nat)(w:World)(hv:Hid (Xg w L B (some ⟨b,o,none⟩) vs))(hx:Hid (n=vs.length))(hn:n<=1000000000)(hB:B<=w.heap.size) :
 Calls Tryz.prog 129 #[.slice (some ⟨b,o,none⟩) n c] w fun e w'=>∃v,e=.returned v/\Below w.heap.size w w'/\v≠.slice none 0 0/\w'.ownsRow w.heap.size 2 1 v vs.length (vs.map (Value.int .i64)):=by
 obtain⟨i0,hi0,hz0,hz1,hz2⟩:=info_parts Tryz.info2';have q22:∀(w:World)(a:Option Addr)(n c n' c':Nat),(binOp .eql 26 (.slice a n c) (.slice none n' c')).run Tryz.prog w=.ok (.bool a.isNone) w:=fun w a n c n' c'=>Lib.run_eql_slice_nil w _ _ a n c n' c' Tryz.underlying26
 go_enter Tryz.func129,Tryz.ntmps129
 go_wp2_with (at_builtin;refine wpList_plain rfl fun K hK=>ZC _ _ 26 rfl w.heap.size 2 i0 Tryz.underlying26 hi0 hz0 hz1 hz2 (.slice (some ⟨w.heap.size,0,none⟩) 0 0) [] rfl (by simpa using World.ownsRow_lit (base:=w.heap.size) (e:=2) (size:=1) w #[] 0 sP sP rfl) sP (some ⟨b,o,none⟩) n c vs L B rfl hx.out (hv.keep ((Xb (Below.refl w.heap.size w) _).mono hB)) (by simp;omega) sP ?_)
 intro v1 w1 ho1 hg1 hn1;have HB:Hid (Below w.heap.size w w1):=Xa (hg1.below (by simpa using World.ownsRow_lit (base:=w.heap.size) (e:=2) (size:=1) w #[] 0 sP sP rfl:(w.alloc (.cells #[] 2)).ownsRow w.heap.size 2 1 (.slice (some ⟨w.heap.size,0,none⟩) 0 0) 0 []) (Xb (Below.refl _ _) _) sP);have HO:=Xa ho1;have HN:=Xa hn1;clear hg1 ho1 hn1;refine hK _ _ ?_;go_wp2
 go_ret
 exact⟨_,rfl,HB.out,HN.out,HO.out⟩
def ZfI(a b:World):Prop:=a=b
theorem ZaY(n:Nat)(w:World)(hn:n<=1000000) :
 Calls Tryz.prog 141 #[.slice none 0 0,.int .i64 n] w fun e w'=>∃v,e=.returned v/\Below w.heap.size w w'/\(0<n->v≠.slice none 0 0)/\w'.ownsRow w.heap.size 2 1 v 0 []:=by
 obtain⟨i0,hi0,hz0,hz1,hz2⟩:=info_parts Tryz.info2';by_cases h0:n=0
 ·subst h0
  go_enter Tryz.func141,Tryz.ntmps141
  go_wp2
  go_ret
  exact⟨_,rfl,Below.refl _ _,fun h=>absurd h oM,World.ownsRow_nil _ _ _ _⟩
 ·have hrz:∀ty,(Builtin.append_ #[26,3] ty #[.slice none 0 0,.int .i64 (n:Int)]).run Tryz.prog w =
   .ok (.slice (some ⟨w.heap.size,0,none⟩) (0+n) (grownCap w (0+n) 0 2)) (w.drew.alloc (.cells (([]:List Value).toArray++Builtin.zeroCells (Value.int .i64 0).cells n++Builtin.zeroCells (Value.int .i64 0).cells (grownCap w (0+n) 0 2 - (0+n))) 2)):=fun ty =>
   Lib.run_append_grow_zeros w 26 3 ty 2 i0 (.int .i64 0) .i64 .i64 Tryz.underlying26 Tryz.underlying3 hi0 hz0 none 0 0 [] (run_firstCells_none w.drew i0.size 0 0 0) n oM oM oM oM (by rw[hz2];omega) (by rw[hz2];exact growslice_fits oM oM)
  have hGn:0+n<=grownCap w (0+n) 0 2:=grownCap_ge w _ _ _;have hGm:=grownCap_le_maxLen w (0+n) 0 2 (by unfold maxLen;omega);rw[Nat.zero_add]at hrz hGn hGm;have HOW:Hid (∀W:World,(W.alloc (.cells (([]:List Value).toArray++Builtin.zeroCells (Value.int .i64 0).cells n++Builtin.zeroCells (Value.int .i64 0).cells (grownCap w n 0 2 - n)) 2)).ownsRow W.heap.size 2 1 (.slice (some ⟨W.heap.size,0,none⟩) 0 (grownCap w n 0 2)) 0 []):=Xa (fun W=>World.ownsRow_made W _ _ (Nat.le_refl _) hGm (by simp[size_zeroCells,Value.cells];omega));generalize ([]:List Value).toArray++Builtin.zeroCells (Value.int .i64 0).cells n++Builtin.zeroCells (Value.int .i64 0).cells (grownCap w n 0 2 - n)=cells at *;generalize grownCap w n 0 2=G at *;unfold maxLen at hGm
  go_enter Tryz.func141,Tryz.ntmps141
  go_wp2_with (at_builtin;refine Lib.wpList_append_run _ rfl _ _ _ _ rfl _ _ rfl rfl _ _ (hrz _) ?_)
  all_goals (go_ret;exact⟨_,rfl,Xb (Below.refl _ _).drew _,fun _ h=>(by cases h),HOW.out w.drew⟩)
theorem Ud(g n1 c1 n2 c2:Nat)(a1 a2:Option Addr)(xs ys:List Int)(L1 B1 L2 B2:Nat)(w:World)(h1:Hid (Xg w L1 B1 a1 xs))(h2:Hid (Xg w L2 B2 a2 ys))(e1:Hid (n1=xs.length))(e2:Hid (n2=ys.length))(hn1:n1<=1000)(hn2:n2<=1000)(hp:0<n1+n2)(hB1:B1<=w.heap.size)(hB2:B2<=w.heap.size)(q0:w.cell? ⟨g,0,none⟩=some (.slice a1 n1 c1))(q1:w.cell? ⟨g,1,none⟩=some (.slice a2 n2 c2)) :
 Calls Tryz.prog 130 #[.slice (some ⟨g,0,none⟩) 2 2] w fun e w'=>∃v,e=.returned v/\Below w.heap.size w w'/\w'.ownsRow w.heap.size 2 1 v (xs++ys).length ((xs++ys).map (Value.int .i64)):=by
 obtain⟨i0,hi0,hz0,hz1,hz2⟩:=info_parts Tryz.info2';have HGR:=Xa (ZaY (n1+n2) w oM)
 go_enter Tryz.func130,Tryz.ntmps130
 go_wp2_with fail
 go_loopw [3,11] (fun s u wr=>ZfI wr w/\((s=.int .i64 0/\u=.int .i64 0)\/(s=.int .i64 n1/\u=.int .i64 1)\/(s=.int .i64 ((n1+n2:Nat):Int)/\u=.int .i64 2))) (fun _ u _=>2-(intOf u).toNat)
 case atStart=>exact⟨rfl,Or.inl ⟨rfl,rfl⟩⟩
 case round =>
  obtain⟨hW,hst⟩:=hrel;unfold ZfI at hW;have hW':=hW.symm;subst hW';clear hW;rcases hst with⟨rfl,rfl⟩ | ⟨rfl,rfl⟩ | ⟨rfl,rfl⟩
  ·go_wp2_with fail
   exact⟨⟨rfl,Or.inr (Or.inl ⟨rfl,rfl⟩)⟩,by simp[intOf]⟩
  ·go_wp2_with fail
   exact⟨⟨rfl,Or.inr (Or.inr ⟨gM,rfl⟩)⟩,by simp[intOf]⟩
  ·go_wp2_with fail
   refine HGR.mono ?_;rintro e w1 ⟨v,rfl,hb,hne,ho⟩;have HB:=Xa hb;have HO:=Xa ho;have HNE:=Xa (hne hp);have hgl:g<w.heap.size:=World.block_lt_of_cell? _ _ q0;clear hb ho hne
   go_wp2_with fail
   go_loopw [6,27] (fun v u wq=>Hid (Below w.heap.size w wq)/\Hid (v≠.slice none 0 0)/\((u=.int .i64 0/\Hid (wq.ownsRow w.heap.size 2 1 v ([]:List Int).length (([]:List Int).map (Value.int .i64))))\/(u=.int .i64 1/\Hid (wq.ownsRow w.heap.size 2 1 v xs.length (xs.map (Value.int .i64))))\/(u=.int .i64 2/\Hid (wq.ownsRow w.heap.size 2 1 v (xs++ys).length ((xs++ys).map (Value.int .i64)))))) (fun _ u _=>2-(intOf u).toNat)
   case atStart=>exact⟨HB,HNE,Or.inl ⟨rfl,HO⟩⟩
   case round =>
    obtain⟨HBq,HNq,hst⟩:=hrel;have qq0:=(HBq.cell (p:=⟨g,0,none⟩) hgl).trans q0;have qq1:=(HBq.cell (p:=⟨g,1,none⟩) hgl).trans q1;have hzq:=HBq.size;have hx1:xs.length<=1000:=by have:=e1.out;omega
    have hy1:ys.length<=1000:=by have:=e2.out;omega
    rcases hst with⟨rfl,HOq⟩ | ⟨rfl,HOq⟩ | ⟨rfl,HOq⟩
    ·have HI1:=Xa (h1.keep (HBq.mono hB1))
     go_wp2_with (at_builtin;refine wpList_plain rfl fun K hK=>ZC _ _ 26 rfl w.heap.size 2 i0 Tryz.underlying26 hi0 hz0 hz1 hz2 _ [] rfl HOq.out HNq.out a1 n1 c1 xs L1 B1 rfl e1.out HI1.out (by simp;omega) oM ?_)
     intro v2 w2 ho2 hg2 hn2';have HB2:=Xa (hg2.below HOq.out HBq.out oM);have HO2:=Xa ho2;have HN2:=Xa hn2';clear ho2 hg2 hn2';refine hK _ _ ?_
     go_wp2_with fail
     exact⟨⟨HB2,HN2,Or.inr (Or.inl ⟨rfl,HO2⟩)⟩,by simp[intOf]⟩
    ·have HI2:=Xa (h2.keep (HBq.mono hB2))
     go_wp2_with (at_builtin;refine wpList_plain rfl fun K hK=>ZC _ _ 26 rfl w.heap.size 2 i0 Tryz.underlying26 hi0 hz0 hz1 hz2 _ xs rfl HOq.out HNq.out a2 n2 c2 ys L2 B2 rfl e2.out HI2.out oM oM ?_)
     intro v2 w2 ho2 hg2 hn2';have HB2:=Xa (hg2.below HOq.out HBq.out oM);have HO2:=Xa ho2;have HN2:=Xa hn2';clear ho2 hg2 hn2';refine hK _ _ ?_
     go_wp2_with fail
     exact⟨⟨HB2,HN2,Or.inr (Or.inr ⟨rfl,Xa (by rw[List.length_append,List.map_append];exact HO2.out)⟩)⟩,by simp[intOf]⟩
    ·go_wp2_with fail
     go_ret
     exact⟨_,rfl,HBq.out,HOq.out⟩
structure KT(w w':World)(n:Nat)(gs:Nat->Nat):Prop where
 os:w'.os=w.os
 tape:w'.tape=w.tape
 output:w'.output=w.output
 size:w.heap.size<=w'.heap.size
 block:∀k,k<w.heap.size->(∀i,i<n->k≠gs i)->w'.heap[k]?=w.heap[k]?
theorem KT.refl(w:World)(n:Nat)(gs:Nat->Nat):KT w w n gs:=⟨rfl,rfl,rfl,Nat.le_refl _,fun _ _ _=>rfl⟩
theorem KT.below{w w1 w2:World}{n:Nat}{gs:Nat->Nat}(h:KT w w1 n gs)(k:Below w1.heap.size w1 w2):KT w w2 n gs:=⟨k.os.trans h.os,k.tape.trans h.tape,k.output.trans h.output,Nat.le_trans h.size k.size,fun j h1 h2=>(k.block j (Nat.lt_of_lt_of_le h1 h.size)).trans (h.block j h1 h2)⟩
theorem KT.grown{w w1 w2:World}{n b:Nat}{gs:Nat->Nat}(h:KT w w1 n gs)(k:w1.grownBy w2 (some (gs b)))(hb:b<n):KT w w2 n gs:=⟨k.os.trans h.os,k.tape.trans h.tape,k.output.trans h.output,Nat.le_trans h.size k.size,fun j h1 h2=>(k.block j (Nat.lt_of_lt_of_le h1 h.size) (fun e=>h2 b hb (by injection e))).trans (h.block j h1 h2)⟩
theorem XO.keep{w w':World}{G n K:Nat}{gs:Nat->Nat}{Ws:Nat->Nat->Nat}(h:XO w G n K gs Ws)(k:Below w.heap.size w w'):XO w' G n K gs Ws :=
 ⟨h.row.of_block (k.block _ h.row.lt),fun i hi=>(h.set i hi).of_block (k.block _ (h.set i hi).lt),h.inj,h.out⟩
theorem XO.wrote{w w':World}{G n K b:Nat}{gs:Nat->Nat}{Ws:Nat->Nat->Nat}{W':Nat->Nat}(h:XO w G n K gs Ws)(hb:b<n)(k:w.grownBy w' (some (gs b)))(hr:w'.rowIs (gs b) 133 K (fun j=>.int .u64 (W' j))):XO w' G n K gs (fun i=>if i=b then W' else Ws i):=by
 refine⟨h.row.of_block (k.block _ h.row.lt (fun e=>h.out b hb (by injection e with e;exact e.symm))),fun i hi=>?_,h.inj,h.out⟩;by_cases e:i=b
 ·subst e
  simpa using hr
 ·simp only[if_neg e]
  exact(h.set i hi).of_block (k.block _ (h.set i hi).lt (fun e2=>e (by injection e2 with e2;exact h.inj i b hi hb e2)))
theorem XO.apart{w w':World}{G2 n K:Nat}{gs gs2:Nat->Nat}{T:Nat->Nat->Nat}(h:XO w G2 n K gs2 T)(f:KT w w' n gs)(h1:∀i,i<n->G2≠gs i)(h2:∀i j,i<n->j<n->gs2 i≠gs j):XO w' G2 n K gs2 T :=
 ⟨h.row.of_block (f.block _ h.row.lt h1),fun i hi=>(h.set i hi).of_block (f.block _ (h.set i hi).lt (fun j hj=>h2 i j hi hj)),h.inj,h.out⟩
def Xh(l:List Nat):List Int:=l.map Int.ofNat
theorem Vd(b0 o0 n0 c0:Nat)(ord:List Nat)(L1 B1:Nat)(sa:Option Addr)(ns cs:Nat)(src:List (List Nat))(L2 B2:Nat)(G G2 n K:Nat)(gs gs2:Nat->Nat)(I T:Nat->Nat->Nat)(w:World)
 (hord:Hid (Xg w L1 B1 (some ⟨b0,o0,none⟩) (Xh ord))) (h0:Hid (n0=ord.length)) (hn0:n0<=1000) (hn0':0<n0) (hsrc:Hid (XF w L2 B2 sa (src.map Xh))) (hs:Hid (ns=src.length)) (hns:Hid (src.length=n)) (hK:K<=100)
 (hB1:B1<=w.heap.size) (hB2:B2<=w.heap.size) (HI:Hid (XO w G n K gs I)) (HT:Hid (XO w G2 n K gs2 T)) (hwI:Hid (XA I)) (hwT:Hid (XA T))
 (d2:Hid (∀i,i<n->¬(L2<=gs i/\gs i<B2))) (d3:Hid (∀i,i<n->G2≠gs i)) (d4:Hid (∀i j,i<n->j<n->gs2 i≠gs j))
 (ho:Hid (∀b∈ord,b<n)) (hsr:Hid (∀l∈src,l.length<=2000/\∀t∈l,t<n)) :
 Calls Tryz.prog 143 #[.slice (some ⟨b0,o0,none⟩) n0 c0,.slice sa ns cs,.slice (some ⟨G,0,none⟩) n n,.slice (some ⟨G2,0,none⟩) n n] w fun e w'=>e=.returned (.tuple #[])/\KT w w' n gs/\∃Ws,XA Ws/\XO w' G n K gs Ws/\∀b,b<n->∀x,x<64*K->(Xf (Ws b) x=true↔Sp I T (·∈ord) (fun b=>src.getD b []) b x):=by
 go_enter Tryz.func143,Tryz.ntmps143
 go_wp2_with fail
 go_step3
 go_wp2_with fail
 refine(Vs b0 o0 n0 c0 (Xh ord) L1 B1 w hord (Xa (by have:=h0.out;simp[Xh];omega)) oM hB1).mono ?_;rintro e w1 ⟨v1,rfl,hb1,hne1,ho1⟩;obtain⟨g1,k1,rfl,hg1,hk1⟩:=Xp ho1 (by have:=h0.out;simp[Xh];omega);have HB1:=Xa hb1;have HO1:=Xa ho1;have hln:(Xh ord).length=n0:=by have:=h0.out;simp[Xh];omega
 rw[hln]at HO1;clear hb1 ho1 hne1
 go_wp2_with fail
 have hg1z:g1<w1.heap.size:=hg1.2;have hg1b:w.heap.size<=g1:=hg1.1;refine(JX g1 n0 k1 w.heap.size (Xh ord) w1 oM (Xa hln.symm) HO1).mono ?_;rintro e w2 ⟨rfl,hgr2,ho2⟩;have HB2:Hid (Below w.heap.size w w2):=Xa (HB1.grown hgr2 HB1.size (fun k e=>by cases e;omega));have HO2:=Xa ho2;clear hgr2 ho2 HO1 HB1
 go_wp2_with fail
 have HWA:Hid (Below w2.heap.size w2 (w2.alloc (.cells #[.slice (some ⟨b0,o0,none⟩) n0 c0,.slice (some ⟨g1,0,none⟩) n0 k1] 26))):=Xa (Xb (Below.refl _ _) _);have hq0:(w2.alloc (.cells #[.slice (some ⟨b0,o0,none⟩) n0 c0,.slice (some ⟨g1,0,none⟩) n0 k1] 26)).cell? ⟨w2.heap.size,0,none⟩=some (.slice (some ⟨b0,o0,none⟩) n0 c0):=sP;have hq1:(w2.alloc (.cells #[.slice (some ⟨b0,o0,none⟩) n0 c0,.slice (some ⟨g1,0,none⟩) n0 k1] 26)).cell? ⟨w2.heap.size,1,none⟩=some (.slice (some ⟨g1,0,none⟩) n0 k1):=sP;generalize w2.alloc (.cells #[.slice (some ⟨b0,o0,none⟩) n0 c0,.slice (some ⟨g1,0,none⟩) n0 k1] 26)=wa at *;have HBA:Hid (Below w.heap.size w wa):=Xa (Xe HB2.out HWA.out);have hlr:(Xh ord).reverse.length=n0:=by rw[List.length_reverse];exact hln
 have HIR:Hid (Xg wa w.heap.size w2.heap.size (some ⟨g1,0,none⟩) (Xh ord).reverse):=Xa (by
  have h:=HO2.out;rw[<-hlr]at h;obtain⟨a',c',e',hi'⟩:=Xj h;injection e' with e1;subst e1;exact hi'.keep HWA.out)
 refine(Ud w2.heap.size n0 c0 n0 k1 _ _ (Xh ord) (Xh ord).reverse L1 B1 w.heap.size w2.heap.size wa (Xa (hord.keep (HBA.mono hB1))) HIR (Xa hln.symm) (Xa hlr.symm) hn0 hn0 oM (by have:=HBA.size;omega) HWA.size hq0 hq1).mono ?_;rintro e w3 ⟨v3,rfl,hb3,ho3⟩;have HB3:Hid (Below w.heap.size w w3):=Xa (Xe HBA.out hb3);have eR:Xh ord++(Xh ord).reverse=Xh (ord++ord.reverse):=by simp[Xh]
 rw[eR]at ho3;have hRl:(ord++ord.reverse).length=2*n0:=by have:=h0.out;simp;omega
 have hRo:Hid (∀b,b∈ord++ord.reverse↔b∈ord):=Xa (fun b=>sP);generalize ord++ord.reverse=R at *;have hnl:(Xh R).length=R.length:=by simp[Xh]
 obtain⟨a3,c3,e3,hi3⟩:=Xj ho3;rw[hnl]at e3;subst e3;have HI3:=Xa hi3;have HZ3:Hid (wa.heap.size<=w3.heap.size/\w.heap.size<=wa.heap.size):=Xa ⟨hb3.size,HBA.size⟩;clear hb3 ho3 eR hq0 hq1 HIR HWA HO2 HB2 hi3;have HS3:=Xa (HI.keep (HB3.out));have HT3:=Xa (HT.keep (HB3.out));have hR0:0<R.length:=oM;have hR1:R.length<=2000:=oM;clear hRl hln hlr hnl;have HGS:Hid (∀i,i<n->gs i<w.heap.size):=Xa (fun i hi=>(HI.set i hi).lt)
 go_wp2_with fail
 go_step3
 go_wp2_with fail
 go_loopg [10] (ZD I K n) (fun k qv wr=>∃(q:Nat)(W:Nat->Nat->Nat),qv=.int .i64 q/\q<R.length/\Hid (KT w3 wr n gs)/\Hid (XO wr G n K gs W)/\Hid (XA W)/\Hid (ZD W K n<=k)/\Hid (∀b x,Xf (I b) x=true->Xf (W b) x=true)/\Hid (∀b x,Xf (W b) x=true->Sp I T (·∈ord) (fun b=>src.getD b []) b x)/\Hid (ClQ T K (fun b=>src.getD b []) W R q 0))
 case atStart=>exact⟨0,I,rfl,hR0,Xa (KT.refl _ _ _),HS3,hwI,Xa (Nat.le_refl _),Xa (fun _ _ h=>h),Xa (fun _ _ h=>Sp.init h),Xa Te⟩
 case round =>
  obtain⟨q0,W0,rfl,hq0,HF0,HS0,HW0,HM0,HI0,HSo0,HC0⟩:=hrel
  go_wp2_with fail
  generalize wr=wo at *
  go_loopw [10,26] (fun qv u wr=>∃(q p:Nat)(W:Nat->Nat->Nat),qv=.int .i64 q/\q<R.length/\u=.int .i64 p/\p<=R.length/\Hid (KT w3 wr n gs)/\Hid (XO wr G n K gs W)/\Hid (XA W)/\Hid (ZD W K n<gk\/(ZD W K n<=gk/\q=q0+p))/\Hid (∀b x,Xf (I b) x=true->Xf (W b) x=true)/\Hid (∀b x,Xf (W b) x=true->Sp I T (·∈ord) (fun b=>src.getD b []) b x)/\Hid (ClQ T K (fun b=>src.getD b []) W R q p)) (fun _ u _=>R.length-(intOf u).toNat)
  case atStart=>exact⟨q0,0,W0,rfl,hq0,rfl,Nat.zero_le _,HF0,HS0,HW0,Xa (Or.inr ⟨HM0.out,oM⟩),HI0,HSo0,HC0⟩
  case round =>
   obtain⟨q,p,W,rfl,hq,rfl,hp,HF,HS,HW,HM,HIm,HSo,HC⟩:=hrel;by_cases hlt:p<R.length
   ·obtain⟨br,or_,rfl,hbr,er3⟩:=HI3.out p (by simpa [Xh]using hlt)
    have HFW:Hid (KT w wr n gs):=Xa ⟨HF.os.trans HB3.os,HF.tape.trans HB3.tape,HF.output.trans HB3.output,Nat.le_trans HB3.size HF.size,fun k h1 h2=>(HF.block k (Nat.lt_of_lt_of_le h1 HB3.size) h2).trans (HB3.block k h1)⟩;have er:=(Xc (HF.block br hbr.2 (fun i hi e=>by have:=HGS.out i hi;have:=HZ3.out;omega))).trans er3;have hRp:(Xh R)[p]'(by simpa [Xh]using hlt)=((R[p]:Nat):Int):=by simp[Xh]
    rw[hRp]at er;have hbn:R[p]<n:=ho.out _ ((hRo.out _).1 (List.getElem_mem hlt));have hbo:Hid (R[p]∈ord):=Xa ((hRo.out _).1 (List.getElem_mem hlt));have hbs:R[p]<src.length:=by have:=hns.out;omega
    obtain⟨bs,os,hsa,hbs2,as',cs',es,his⟩:=hsrc.out R[p] (by simpa using hbs);subst hsa;have esr:=(Xc (HFW.block bs oM (fun i hi e=>d2.out i hi oM))).trans es;have hsl:((src.map Xh)[R[p]]'(by simpa using hbs)).length=src[R[p]].length:=by simp[Xh]
    rw[hsl]at esr;have HSL:=Xa (hsr.out src[R[p]] (List.getElem_mem hbs));have hls:=HSL.1;have HGD:Hid (src.getD R[p] []=src[R[p]]):=Xa (by simp[hbs]);have HCN:Hid (∀W',(∀i x,x<64*K->Xf (W' i) x=Xf (W i) x)->ClB T K (fun b=>src.getD b []) W R[p]->ClQ T K (fun b=>src.getD b []) W' R (q+1) (p+1)):=Xa (fun W' e hb=>Zb9 HC.out e hlt hb);have hbsn:R[p]<ns:=by have:=hs.out;omega
    have HISw:Hid (Xg w L2 B2 as' (Xh src[R[p]])):=Xa (by simpa using his);clear er3 es his hRp hsl;generalize hbb:R[p]=b at *;clear hbb;generalize src[b]=sl at *
    go_wp2_with fail
    generalize wr=wo2 at *
    go_loopw [13,35] (fun gv u wq=>∃r:Nat,r<=sl.length/\u=.int .i64 r/\gv=.bool (takesN T K b (sl.take r) (W,false)).2/\Hid (KT w3 wq n gs)/\Hid (XO wq G n K gs (takesN T K b (sl.take r) (W,false)).1)) (fun _ u _=>sl.length-(intOf u).toNat)
    case atStart=>exact⟨0,Nat.zero_le _,rfl,rfl,HF,HS⟩
    case round =>
     obtain⟨r,hr,rfl,rfl,HFq,HSq⟩:=hrel;by_cases hlr:r<sl.length
     ·have HFW2:Hid (KT w wr n gs):=Xa ⟨HFq.os.trans HB3.os,HFq.tape.trans HB3.tape,HFq.output.trans HB3.output,Nat.le_trans HB3.size HFq.size,fun k h1 h2=>(HFq.block k (Nat.lt_of_lt_of_le h1 HB3.size) h2).trans (HB3.block k h1)⟩
      obtain⟨b5,o5,rfl,hb5,e5w⟩:=HISw.out r (by simpa [Xh]using hlr);have e5:=(Xc (HFW2.block b5 oM (fun i hi e=>d2.out i hi oM))).trans e5w;have hsr5:(Xh sl)[r]'(by simpa [Xh]using hlr)=((sl[r]:Nat):Int):=by simp[Xh]
      rw[hsr5]at e5;have hsn:sl[r]<n:=HSL.2 _ (List.getElem_mem hlr);have HTQ:=Xa (HT3.apart HFq.out d3.out d4.out);have HTK:=Xa (Uw (T:=T) (K:=K) (b:=b) hlr (W,false));have HWq:=Xa (JV (T:=T) (K:=K) (b:=b) (sl.take r) (W,false) HW.out);clear e5w hsr5;generalize sl[r]=s at *;generalize takesN T K b (sl.take r) (W,false)=sq at *;obtain⟨Wq,gq⟩:=sq;dsimp only at *;have k1:=HSq.row.cell hbn;have k2:=HSq.row.cell hsn;have k3:=HTQ.row.cell hbn;have HAB:=Xa (UL (gs b) (gs s) (gs2 b) K (Wq b) (Wq s) (T b) wr.drew (Xa (HWq.out b)) (Xa (HWq.out s)) (Xa (hwT.out b)) oM (Xa (HSq.set b hbn)) (Xa (HSq.set s hsn)) (Xa (HTQ.set b hbn)) (d4.out b b hbn hbn) (Xa (fun e=>by rw[HSq.inj s b hsn hbn e])));have HSD:Hid (XO wr.drew G n K gs Wq):=Xa ⟨HSq.row,HSq.set,HSq.inj,HSq.out.out⟩;have HFD:Hid (KT w3 wr.drew n gs):=Xa ⟨HFq.os,HFq.tape,HFq.output,HFq.size,HFq.block⟩;have HLL:Hid (G<wr.heap.size/\G2<wr.heap.size):=Xa ⟨HSq.row.lt,HTQ.row.lt⟩;generalize grewN (Wq b) (Wq s) (T b) K=g5 at *
      go_wp2_with fail
      refine ZB (fun w'=>w'.cell? ⟨G,b,none⟩=some (.slice (some ⟨gs b,0,none⟩) K K)/\w'.cell? ⟨G,s,none⟩=some (.slice (some ⟨gs s,0,none⟩) K K)/\w'.cell? ⟨G2,b,none⟩=some (.slice (some ⟨gs2 b,0,none⟩) K K)) (fun hHeld=>?_);refine XE 0 ?_;refine XE 1 ?_;refine XE 2 ?_;refine XE 3 ?_;refine XE 4 ?_;refine XE 5 ?_;refine XE 6 ?_;refine XE 7 ?_;refine XE 8 ?_;refine XE 9 ?_;refine XE 10 ?_;refine XE 11 ?_;refine Xz 12 (fun K hK=>?_);go_simp
      go_at_call 145
      refine HAB.mono ?_;rintro e w5 ⟨rfl,hg5,hr5⟩;have HS5:=Xa (HSD.wrote hbn hg5 hr5);have HF5:=Xa (HFD.grown hg5 hbn);have j1:=(Xc (hg5.block G HLL.1 (fun e=>HSq.out.out b hbn (by injection e with e;exact e.symm)))).trans k1;have j2:=(Xc (hg5.block G HLL.1 (fun e=>HSq.out.out b hbn (by injection e with e;exact e.symm)))).trans k2;have j3:=(Xc (hg5.block G2 HLL.2 (fun e=>d3.out b hbn (by injection e)))).trans k3;clear hg5 hr5 HAB;refine hK _ _ ⟨j1,j2,j3⟩ (fun hHeld=>?_);clear hK;refine XE 13 ?_;cases g5
      focus
       refine wpAnyH_take (i:=14) (v:=?_) rfl kR kR kR (fun _ _ _ h=>h) (Or.inl ⟨by rfl,?_⟩) (by assumption) ?_;rotate_left
       ·intro w hSw;(try dsimp only at hSw);go_simp;try with_reducible rfl
      rotate_left
      focus
       refine wpAnyH_take (i:=14) (v:=undef) rfl kR kR kR (fun _ _ _ h=>h) (Or.inr ⟨by rfl,rfl⟩) (by assumption) ?_
      all_goals (
       simp only[Act.put,xA,xB,xC,xD,xE,xF];refine XE 15 ?_;refine XE 16 ?_;refine Zu ?_
       go_wp2_with fail
       exact⟨⟨r+1,oM,gM,by rw[HTK.out];rfl,Xa HF5.out,Xa (by rw[HTK.out];exact HS5.out)⟩,by simp[intOf];omega⟩)
     ·have hre:r=sl.length:=oM
      have HTE:Hid (sl.take r=sl):=Xa (List.take_of_length_le oM);rw[HTE.out]at HSq |-;clear hre;have HW2:=Xa (JV (T:=T) (K:=K) (b:=b) sl (W,false) HW.out);have HMo:=Xa (Z6 (T:=T) (K:=K) (b:=b) hwT.out sl (W,false) HW.out);have HSd:=Xa (JK (I:=I) (T:=T) (K:=K) (b:=b) (ord:=(·∈ord)) (src:=fun b=>src.getD b []) hwT.out hbo.out sl (W,false) HW.out (fun t ht=>by show t∈src.getD b [];rw[HGD.out];exact ht) HSo.out);have HQu:=Xa (Kb (T:=T) (K:=K) (b:=b) hwT.out sl (W,false) HW.out);have HGw:=Xa (KS (T:=T) (K:=K) (b:=b) hwT.out sl (W,false) HW.out rfl);have HOt:=Xa (fun i (hi:i≠b)=>Kf (T:=T) (K:=K) hi sl (W,false));generalize takesN T K b sl (W,false)=sq at *;obtain⟨W2,g2'⟩:=sq;dsimp only at *;have HIm2:Hid (∀b x,Xf (I b) x=true->Xf (W2 b) x=true):=Xa (fun b x h=>HMo.out b x (HIm.out b x h));cases g2' with
      | true =>
       have HML:=Xa (UQ (K:=K) HOt.out (HGw.out rfl) n hbn)
       go_wp2_with fail
       exact⟨⟨0,p+1,W2,rfl,hR0,gM,oM,HFq,HSq,HW2,Xa (Or.inl (by have:=HML.out;rcases HM.out with h | h<;>omega)),HIm2,HSd,Xa Te⟩,by simp[intOf];omega⟩
      | false =>
       obtain⟨hsame,hcl⟩:=HQu.out rfl;have HCQ:Hid (ClQ T K (fun b=>src.getD b []) W2 R (q+1) (p+1)):=Xa (HCN.out W2 hsame (fun t ht x hx=>by have ht':t∈src.getD b []:=ht;rw[HGD.out]at ht';exact hcl t ht' x hx));have HMS:Hid (ZD W2 K n=ZD W K n):=Xa (Tb n (fun i _=>Tn _ (fun x hx=>hsame i x hx)));clear hsame hcl;by_cases hqe:q+1=R.length
       ·have hqb:(((q:Int)+1)==(R.length:Int))=true:=by simp;omega
        have HCA:Hid (ClQ T K (fun b=>src.getD b []) W2 R R.length (p+1)):=Xa (by rw[<-hqe];exact HCQ.out);clear hqe
        go_wp2_with fail
        go_end0
        refine⟨rfl,⟨HFq.os.trans HB3.os,HFq.tape.trans HB3.tape,HFq.output.trans HB3.output,Nat.le_trans HB3.size HFq.size,fun k h1 h2=>(HFq.block k (Nat.lt_of_lt_of_le h1 HB3.size) h2).trans (HB3.block k h1)⟩,W2,HW2.out,HSq.out,fun b _ x hx=>?_⟩;exact TY HIm2.out HSd.out (fun b hb t ht x hx h1 h2=>Zdp HCA.out oM ((hRo.out b).2 hb) t ht x hx h1 h2) b x hx
       ·have hqb:(((q:Int)+1)==(R.length:Int))=false:=by simp;omega
        go_wp2_with fail
        exact⟨⟨q+1,p+1,W2,gM,oM,gM,oM,HFq,HSq,HW2,Xa (by rw[HMS.out];rcases HM.out with h | ⟨h,h'⟩;exact Or.inl h;exact Or.inr ⟨h,oM⟩),HIm2,HSd,HCQ⟩,by simp[intOf];omega⟩
   ·have hpe:p=R.length:=oM
    subst hpe
    go_wp2_with fail
    go_roundg (ZD W K n)
    case measure=>rcases HM.out with h | ⟨_,h⟩;exact h;omega
    case rel=>exact⟨q,W,rfl,hq,HF,HS,HW,Xa (Nat.le_refl _),HIm,HSo,Xa (ZbF HC.out hq)⟩
end Go.Proofs.YthgikffcdgpgiaaGreatDoor
