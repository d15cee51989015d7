import Derived.Test.YtdfdmjcngkfciaaDoorDM4
import Derived.Test.YtdfdmjcngkfciaaDoorNSb
import Derived.Test.YtdfdmjcngkfciaaDoorW14b
import Derived.Test.YtdfdmjcngkfciaaDoorSLR
import Derived.Test.YtdfdmjcngkfciaaDoorW9
namespace Go.Proofs.YtdfdmjcngkfciaaDoor
open Go.RowKit
structure FrO (w w':World) (v v':Value):Prop where
 os:w'.os=w.os
 tape:w'.tape=w.tape
 output:w'.output=w.output
 size:w.heap.size≤w'.heap.size
 block:∀k,k<w.heap.size→some k≠v.ownBlock→w'.heap[k]?=w.heap[k]?
 own:v'.ownBlock=v.ownBlock∨∀k,v'.ownBlock=some k→w.heap.size≤k
theorem FrO.refl (w:World) (v:Value):FrO w w v v:=⟨rfl,rfl,rfl,Nat.le_refl _,fun _ _ _=>rfl,Or.inl rfl⟩
theorem FrO.trans {w w1 w2:World} {v v1 v2:Value} (h:FrO w w1 v v1) (k:FrO w1 w2 v1 v2):FrO w w2 v v2:=by
 refine ⟨k.os.trans h.os,k.tape.trans h.tape,k.output.trans h.output,Nat.le_trans h.size k.size,fun j h1 h4=>?_,?_⟩
 ·refine (k.block j (Nat.lt_of_lt_of_le h1 h.size) (fun e=>?_)).trans (h.block j h1 h4)
  rcases h.own with ho | ho
  ·exact h4 (by rw [e,ho])
  ·have:=ho j e.symm;omega
 ·rcases k.own with ko | ko
  ·rcases h.own with ho | ho
   ·exact Or.inl (ko.trans ho)
   ·exact Or.inr (fun j e=>ho j (by rw [←ko];exact e))
  ·exact Or.inr (fun j e=>Nat.le_trans h.size (ko j e))
theorem FrO.below {w w':World} {v v':Value} {BL t s n:Nat} {cs:List Value} (h:FrO w w' v v') (ho:w.ownsRow BL t s v n cs) (hz:BL≤w.heap.size):Below BL w w':=⟨h.os,h.tape,h.output,h.size,fun k hk=>h.block k (by omega) (fun e=>by have:=(ho.lt k e.symm).1;omega)⟩
theorem FrO.push {w w8:World} {v v8:Value} {ob:Obj} (hg:(w.alloc ob).grownBy w8 v.ownBlock) (hat:v8.ownBlock=v.ownBlock∨v8.ownBlock=some (w.heap.size+1)):FrO w w8 v v8:=by
 have hsz:(w.alloc ob).heap.size=w.heap.size+1:=World.size_alloc _ _
 have hgs:=hg.size
 refine ⟨hg.os,hg.tape,hg.output,by omega,fun k h1 h4=>(hg.block k (by omega) h4).trans (Below.heap_alloc _ _ _ h1),?_⟩
 rcases hat with e | e
 ·exact Or.inl e
 ·exact Or.inr (fun k ek=>by rw [e] at ek;injection ek with ek;omega)
theorem pre_eq {P:List Int} {R:Nat→Nat} {n:Nat} (hR:∀b c,c∈chP P b→R b<R c) (hRn:∀b,R b≤n) {m b:Nat} (h:n≤R b+m):preP P m b=b::(chP P b).flatMap (preP P (m-1)):=by
 cases m with
 | zero =>
  have:chP P b=[]:=by
   cases e:chP P b with
   | nil=>rfl
   | cons c l =>
    have h1:=hR b c (by rw [e];exact List.mem_cons_self)
    have h2:=hRn c
    omega
  rw [this]
  rfl
 | succ m=>rfl
set_option maxHeartbeats 2000000 in
set_option maxRecDepth 100000 in
theorem preorder_any (ca:Option Addr) (n cc:Nat) (P:List Int) (L2 B2 BL:Nat) (hx:Hid (n=P.length)) (hn:n≤1000) (hBL:B2≤BL) (R:Nat→Nat) (hR:Hid (∀b c,c∈chP P b→R b<R c)) (hRn:Hid (∀b,R b≤n)) :
  ∀(m b:Nat) (v:Value) (L:List Nat) (w:World),Hid (IntssAt w L2 B2 ca ((List.range n).map fun i:Nat=>natI (chP P i)))→Hid (w.ownsRow BL 2 1 v L.length (natV L))→BL≤w.heap.size→b<n→Hid (n≤R b+m)→L.length+(preP P m b).length≤4000 →
  Calls Tryd.prog 19 #[v,.slice ca n cc,.int .i64 b] w fun e w'=>∃v',e=.returned v'∧FrO w w' v v'∧w'.ownsRow BL 2 1 v' (L++preP P m b).length (natV (L++preP P m b)):=by
 obtain ⟨i0,hi0,hz0,hz1,hz2⟩:=info_three Tryd.info2'
 intro m
 induction m using Nat.strongRecOn with
 | _ m ih =>
  intro b v L w HC HO hz hb HU hL
  have IH:=hide ih
  clear ih
  obtain ⟨bc,oc,rfl,hbc,a1,c1,hc1,hi1⟩:=HC.out b (by simpa using hb)
  simp only [List.getElem_map,List.getElem_range,natI_len] at hc1 hi1
  have HE:=hide (pre_eq hR.out hRn.out HU.out)
  rw [HE.out] at hL ⊢
  have HCM:Hid (∀c∈chP P b,c<n∧n≤R c+(m-1)∧0<m):=hide (fun c hc=>by
   have h1:=hR.out b c hc
   have h2:=hRn.out c
   have h3:=(chP_mem.1 hc).1
   have:=HU.out
   have:=hx.out
   omega)
  have hql:(chP P b).length≤n:=Nat.le_trans ch_len (by have:=hx.out;omega)
  have HI1:=hide hi1
  generalize chP P b=cs at *
  obtain ⟨q,hq⟩:∃q,q=cs.length:=⟨_,rfl⟩
  rw [←hq] at hc1 hql
  have HQ:=hide hq
  have hLL:L.length+1+(cs.flatMap (preP P (m-1))).length≤4000:=by simp only [List.length_cons] at hL;omega
  clear hq hi1 HE hL
  go_enter Tryd.func19,Tryd.ntmps19
  go_wp2_with (at_builtin;refine wpList_append_own_at _ rfl _ _ 29 rfl BL 2 i0 (.int .i64 0) 1 8 Tryd.underlying29 hi0 hz0 hz1 hz2 rfl (by decide) _ _ _ rfl (HO.out.alloc _) ⟨w.heap.size,0,none⟩ 1 1 [.int .i64 (b:Int)] rfl rfl ?c1 ?c2 ?c3 ?c4 ?c5 ?_)
  case c1=>exact one_news _ _ _
  case c2=>intro u hu;simp at hu;subst hu;rfl
  case c3=>unfold maxLen;omega
  case c4=>omega
  case c5=>simp;omega
  intro v8 w8 hown8 hg8 _ hat8
  have HF8:Hid (FrO w w8 v v8):=hide (FrO.push hg8 (by simpa using hat8))
  have HO8:Hid (w8.ownsRow BL 2 1 v8 (L++[b]).length (natV (L++[b]))):=hide (by rw [natV_snoc,List.length_append];exact hown8)
  have HB8:=hide (HF8.out.below HO.out hz)
  have hz8:=HF8.out.size
  have hc8:w8.cell? ⟨bc,oc+b,none⟩=some (.slice a1 q c1):=(cTr HB8.out (by omega)).trans hc1
  have HC8:=hide (HC.out.keep (HB8.out.mono hBL))
  have HI8:=hide (HI1.out.keep (HB8.out.mono hBL))
  clear hown8 hg8 hat8 hc1 HI1
  go_wp2_with fail
  go_loopw [0,18] (fun vo u wr=>∃j:Nat,j≤q∧u=.int .i64 j∧Hid (FrO w8 wr v8 vo)∧Hid (wr.ownsRow BL 2 1 vo (L++[b]++(cs.take j).flatMap (preP P (m-1))).length (natV (L++[b]++(cs.take j).flatMap (preP P (m-1)))))) (fun _ u _=>q-(intOf u).toNat)
  case atStart=>exact ⟨0,Nat.zero_le _,rfl,hide (FrO.refl _ _),hide (by simpa using HO8.out)⟩
  case round =>
   obtain ⟨j,hj,rfl,HFj,HOj⟩:=hrel
   clear hc8
   have HBj:=hide (HFj.out.below HO8.out (by omega))
   by_cases hlt:j<q
   ·have hjl:j<cs.length:=by have:=HQ.out;omega
    obtain ⟨b5,o5,rfl,hb5,e5⟩:=HI8.out j (by rw [natI_len];exact hjl)
    have hnj:(natI cs)[j]'(by rw [natI_len];exact hjl)=((cs[j]:Nat):Int):=by simp [natI]
    rw [hnj] at e5
    have e5r:=(cTr HBj.out (by omega)).trans e5
    obtain ⟨hcn,hcr,hm⟩:=HCM.out cs[j] (List.getElem_mem hjl)
    have HTK:Hid ((cs.take (j+1)).flatMap (preP P (m-1))=(cs.take j).flatMap (preP P (m-1))++preP P (m-1) cs[j]):=hide (by rw [List.take_succ_eq_append_getElem hjl,List.flatMap_append];simp)
    have HLE:Hid ((L++[b]++(cs.take j).flatMap (preP P (m-1))).length+(preP P (m-1) cs[j]).length≤4000):=hide (by
     have h1:(cs.flatMap (preP P (m-1))).length=((cs.take (j+1)).flatMap (preP P (m-1))).length+((cs.drop (j+1)).flatMap (preP P (m-1))).length:=by
      rw [←List.length_append,←List.flatMap_append,List.take_append_drop]
     rw [HTK.out,List.length_append] at h1
     simp only [List.length_append,List.length_cons,List.length_nil]
     omega)
    have HCC:=hide (IH.out (m-1) (by omega) cs[j] u0 _ wr (hide (HC8.out.keep (HBj.out.mono hBL))) HOj (by have:=HFj.out.size;omega) hcn (hide hcr) HLE.out)
    have HHH:=hide (show (L++[b]++(cs.take j).flatMap (preP P (m-1)))++preP P (m-1) cs[j]=L++[b]++(cs.take (j+1)).flatMap (preP P (m-1)) by rw [HTK.out];simp)
    rw [HHH.out] at HCC
    clear e5 hnj HTK HLE HHH
    generalize cs[j]=cj at *
    go_wp2_with fail
    refine HCC.out.mono ?_
    rintro e w5 ⟨v5,rfl,hf5,ho5⟩
    have HF5:=hide (HFj.out.trans hf5)
    have HO5:=hide ho5
    clear hf5 ho5 HCC HOj
    go_wp2_with fail
    exact ⟨⟨j+1,by omega,by go_num,HF5,HO5⟩,by simp [intOf];omega⟩
   ·have hje:j=q:=by omega
    have HTE:Hid (cs.take j=cs):=hide (List.take_of_length_le (by have:=HQ.out;omega))
    rw [HTE.out] at HOj
    clear HTE
    go_wp2_with fail
    go_ret
    refine ⟨u0,rfl,HF8.out.trans HFj.out,?_⟩
    have e:L++b::cs.flatMap (preP P (m-1))=L++[b]++cs.flatMap (preP P (m-1)):=by simp
    rw [e]
    exact HOj.out
end Go.Proofs.YtdfdmjcngkfciaaDoor

namespace Go.Proofs.YtdfdmjcngkfciaaDoor
open Go.RowKit
set_option maxHeartbeats 2000000 in
theorem predecessors_sep (v:Int) (a:Option Addr) (n c:Nat) (xs:List Blk) (L B:Nat) (w:World) (ha:Hid (BlksAt w L B a xs)) (hx:Hid (n=xs.length)) (hn:n≤1048576) (hB:B≤w.heap.size) (hg:Hid (TgtOk xs n)) :
  Calls Tryd.prog 13 #[.agg #[.int .i64 v,.slice a n c]] w fun e w'=>∃U,e=.returned (.slice (some ⟨w.heap.size+1,0,none⟩) n n)∧Below w.heap.size w w'∧Rows2 w' (w.heap.size+1) n (fun i:Nat=>predsFrom xs 0 (i:Int)) U:=by
 obtain ⟨i0,hi0,hz0,hz1,hz2⟩:=info_parts Tryd.info2'
 have hmk:=run_make_row' (P:=Tryd.prog) 47 29 (.slice none 0 0) 24 Tryd.underlying47 Tryd.info45 rfl .i64 .i64 n (by omega) (by omega)
 go_enter Tryd.func13,Tryd.ntmps13
 go_wp2
 go_loopw [15] (fun i wr=>∃k:Nat,k≤n∧i=.int .i64 k∧Below w.heap.size w wr∧Hid (∃U,Rows2 wr (w.heap.size+1) n (predsMid xs k []) U)) (fun i _=>n-(intOf i).toNat)
 case atStart=>exact ⟨0,Nat.zero_le _,rfl,balloc (balloc (Below.refl _ _) _) _,⟨_,by have:=Rows2.born (w.alloc (.cells #[.int .i64 v,.slice a n c] 25)) n;rw [World.size_alloc] at this;exact this⟩⟩
 case round =>
  obtain ⟨k,hk,rfl,hw,hrw⟩:=hrel
  by_cases hlt:k<n
  ·have hkx:k<xs.length:=by have:=hx.out;omega
   obtain ⟨b,o,rfl,⟨_,hbB⟩,hc⟩:=ha.out k hkx
   obtain ⟨pa,pc,ia,ic,e0,e1,⟨e2,e3,e4,e5⟩,_,_⟩:=hc.keep (hw.mono hB) (by omega)
   have hwh:=hide (fun i=>predsMid_whole xs k i hkx)
   obtain ⟨hg1,hg2⟩:=hg.out _ (List.getElem_mem hkx)
   have HG1:=hide hg1
   have HG2:=hide hg2
   clear hc hg1 hg2
   generalize xs[k]=X at *
   go_wp2_with fail
   refine (targetsI_any X.term _).mono ?_
   rintro e w2 ⟨a1,c1,rfl,hb2,hi2⟩
   have hb3:=bnext (balloc (Below.refl wr.heap.size wr) _) hb2
   have hz3:=hb2.size
   simp at hz3
   have hz4:wr.heap.size<w2.heap.size:=by omega
   have HI:=hide hi2
   have hGlt:w.heap.size+1<wr.heap.size:=by obtain ⟨U,hU⟩:=hrw.out;exact hU.1.lt
   have HR:Hid (∃U,Rows2 w2 (w.heap.size+1) n (predsMid xs k []) U∧∀i g,i<n→(U i).ownBlock=some g→g≤wr.heap.size∨w2.heap.size≤g):=by
    obtain ⟨U,hU⟩:=hrw.out
    exact ⟨U,hU.below hb3,fun i g hi hg=>by have:=((hU.2.1 i hi).lt g hg).2;omega⟩
   have HW:=hide (bnext hw hb3)
   have htl:X.term.targets.length≤2:=by unfold Ter.targets;split<;>(try split)<;>simp
   generalize hT:X.term.targets=ts at *
   clear hT hi2 hrw e0 e1 e2 e3 e4 e5 hw
   simp only [World.size_alloc] at HI
   generalize hM:wr.heap.size=M at *
   clear hM
   go_wp2
   go_loopw [24] (fun i wi=>∃j:Nat,j≤ts.length∧i=.int .i64 j∧Below w.heap.size w wi∧w2.heap.size≤wi.heap.size∧Hid (IntsAt wi (M+1) w2.heap.size a1 ts)∧Hid (∃U,Rows2 wi (w.heap.size+1) n (predsMid xs k (ts.take j)) U∧∀i g,i<n→(U i).ownBlock=some g→g≤M∨w2.heap.size≤g)) (fun i _=>ts.length-(intOf i).toNat)
   case atStart=>exact ⟨0,Nat.zero_le _,rfl,HW.out,Nat.le_refl _,HI.out,HR.out⟩
   case round =>
    obtain ⟨j,hj,rfl,hwi,hszi,hii,hri⟩:=hrel
    by_cases hjt:j<ts.length
    ·obtain ⟨b',o',rfl,_,hcj⟩:=hii.out j hjt
     obtain ⟨ht0,ht1⟩:=HG1.out _ (List.getElem_mem hjt)
     have hnd:Hid (ts[j] ∉ ts.take j):=by
      intro hm
      obtain ⟨m,hm1,hm2⟩:=List.getElem_of_mem hm
      simp only [List.length_take] at hm1
      rw [List.getElem_take] at hm2
      have:=(List.getElem_inj HG2.out).1 hm2
      omega
     have hts:Hid (ts.take (j+1)=ts.take j++[ts[j]]):=take_next _ _ hjt
     obtain ⟨U,hU,hav⟩:=hri.out
     have HAV:=hide hav
     clear hav
     obtain ⟨t,htt⟩:=Int.eq_ofNat_of_zero_le ht0
     generalize ts[j]=T at *
     subst htt
     have htn:t<n:=by omega
     have hcU:=hU.1.cell htn
     have hfU:=hU.1.frozen t
     have hpl:=predsMid_len xs k t (ts.take j) (by have:=hx.out;omega)
     have HU:=hide hU
     clear hU hri
     go_wp2_with (at_builtin;refine wpList_append_own_at _ rfl _ _ 29 rfl (w.heap.size+1+1) 2 i0 (.int .i64 0) 1 8 Tryd.underlying29 hi0 hz0 hz1 hz2 rfl (by decide) _ _ _ rfl ((HU.out.alloc _).2.1 t htn) ⟨wr.heap.size,0,none⟩ 1 1 [.int .i64 k] rfl rfl ?c1 ?c2 ?c3 ?c4 ?c5 ?_)
     case c1 =>
      intro j u hj
      match j,hj with
      | 0,hj=>simp at hj;subst hj;simp [Addr.add]
     case c2=>intro u hu;simp at hu;subst hu;rfl
     case c3=>unfold maxLen;omega
     case c4=>omega
     case c5=>have:=HU.out.1.lt;simp;omega
     intro v1 w1 hown1 hgrow1 _ hat1
     obtain ⟨av,cv,hv,_⟩:=ints_owned (xs:=predsMid xs k (ts.take j) t++[(k:Int)]) (by rw [ints_snoc];exact hown1)
     have hst:=hide ((HU.out.alloc (.cells #[.int .i64 k] 2)).step htn k v1 hgrow1 hown1 (by rw [World.size_alloc];exact hat1))
     have hbG:w1.heap[w.heap.size+1]?=(wr.alloc (.cells #[.int .i64 k] 2)).heap[w.heap.size+1]?:=grown_block hgrow1 ((HU.out.alloc (.cells #[.int .i64 k] 2)).2.1 t htn) (by omega) (by have:=HU.out.1.lt;simp;omega)
     have hbel:=hide (grown_below (balloc hwi (.cells #[.int .i64 k] 2)) hgrow1 ((HU.out.alloc (.cells #[.int .i64 k] 2)).2.1 t htn) (by omega) (by have:=hwi.size;simp;omega))
     have hcG:w1.cell? ⟨w.heap.size+1,t,none⟩=some (U t):=by rw [cell_of hbG];exact ((HU.out.alloc (.cells #[.int .i64 k] 2)).1).cell htn
     have hfG:w1.frozen? ⟨w.heap.size+1,t,none⟩=false:=by rw [World.frozen?_of_block (w:=wr.alloc (.cells #[.int .i64 k] 2)) (a:=⟨w.heap.size+1,t,none⟩) hbG];exact ((HU.out.alloc (.cells #[.int .i64 k] 2)).1).frozen t
     have hgz:=hgrow1.size
     simp at hgz
     have hsm:Same (M+1) w2.heap.size wr w1:=fun q q1 q2=>(hgrow1.block q (by simp;omega) (fun e=>by have:=HAV.out t q htn e.symm;omega)).trans (Below.heap_alloc _ _ _ (by omega))
     have HSM:=hide hsm
     have hii2:=hide (hii.out.keepS hsm)
     have HAT:=hide hat1
     have HV:=hide hv
     clear hsm
     clear hown1 hgrow1 hat1 hbG hcU hfU
     rw [hv]
     clear hv
     go_wp2
     have hv2:=HV.out
     rw [List.length_append,List.length_cons,List.length_nil,Nat.zero_add] at hv2
     rw [←hv2]
     refine ⟨⟨j+1,by omega,by go_num,hbel.out.setCell (by dsimp only;omega) _,by rw [size_setCell];omega,hii2.out.keepS ((Same.refl _ _ _).setCell (Or.inl (by dsimp only;omega)) _),⟨_,(hst.out).congr (fun i _=>?_),fun i g hi hg=>?_⟩⟩,by simp [intOf];omega⟩
     ·rw [hts.out,predsMid_step xs k i (ts.take j) t hnd.out]
     ·by_cases e:i=t
      ·subst e
       simp only [if_true] at hg
       rcases HAT.out with q | q
       ·exact HAV.out i g hi (by rw [←q];exact hg)
       ·rw [q] at hg
        have:=Option.some.inj hg
        omega
      ·simp only [e,if_false] at hg
       exact HAV.out i g hi hg
    ·have E:=hide (List.take_of_length_le (l:=ts) (i:=j) (by omega))
     go_wp2
     refine ⟨⟨k+1,by omega,by go_num,hwi,?_⟩,by simp [intOf];omega⟩
     obtain ⟨U,hU,_⟩:=hri.out
     exact ⟨U,hU.congr (fun i _=>by rw [E.out,hwh.out,predsMid_nil])⟩
  ·go_wp2
   go_ret
   obtain ⟨U,hU⟩:=hrw.out
   have e:=List.take_of_length_le (l:=xs) (i:=k) (by have:=hx.out;omega)
   exact ⟨U,rfl,hw,hU.congr (P':=fun i:Nat=>predsFrom xs 0 (i:Int)) (fun i _=>by rw [predsMid_nil,e])⟩
end Go.Proofs.YtdfdmjcngkfciaaDoor

namespace Go.Proofs.YtdfdmjcngkfciaaDoor
open Go.RowKit
set_option maxHeartbeats 1000000 in
set_option maxRecDepth 100000 in
theorem newSearch_any (vl:Int) (a:Option Addr) (n c:Nat) (w:World) (hn:n≤1000) :
  Calls Tryd.prog 14 #[.agg #[.int .i64 vl,.slice a n c]] w fun e w'=>∃bS gS,e=.returned (.pointer (some ⟨bS,0,none⟩))∧w.heap.size≤bS∧w.heap.size≤gS∧Below w.heap.size w w'∧SeaAt w' bS gS w'.heap.size ((n+63) / 64) a n c (fun _=>0) (.slice none 0 0) []:=by
 have HNS:=hide (fun W=>newSet_blockNo n W (by omega))
 go_enter Tryd.func14,Tryd.ntmps14
 go_wp2_with fail
 refine wp_region_held_drew (S:=(fun w'=>w'.cell? ⟨w.heap.size,1,none⟩=some (.slice a n c))) (by kernel_rfl) (by (try dsimp only);go_keep) (fun hHeld=>?_)
 refine tkH 0 rfl (v:=?_) ?_
 simp only [Act.put,xA,xB,xD,xE,xF]
 refine tkH 1 rfl (v:=?_) ?_
 simp only [Act.put,xA,xB,xC,xD,xE,xF]
 refine tkH 2 rfl (v:=?_) ?_
 simp only [Act.put,xA,xB,xC,xD,xE,xF]
 refine tkH 3 rfl (v:=?_) ?_
 simp only [Act.put,xA,xB,xC,xD,xE,xF]
 refine tkH 4 rfl (v:=?_) ?_
 simp only [Act.put,xA,xB,xC,xD,xE,xF]
 refine wpAnyH_ready (rs:=[5]) (by kernel_rfl) (by simp) ?_
 refine AllReadyH.cons rfl (fun K hK=>?_) AllReadyH.nil
 go_simp
 go_at_call 37
 refine (HNS.out _).mono ?_
 rintro e w3 ⟨gS,rfl,hgS,hb3,hr3⟩
 have hz3:w.heap.size+1≤w3.heap.size:=by have:=hb3.size;simp at this;omega
 have hc3:w3.cell? ⟨w.heap.size,1,none⟩=some (.slice a n c):=(hb3.cell (p:=⟨w.heap.size,1,none⟩) (by show w.heap.size<_;simp)).trans (by simp [go_sem])
 have hgl:=hr3.lt
 have HB3:Hid (Below w.heap.size w w3):=hide (bnext (w1:=(w.alloc (.cells #[.int .i64 vl,.slice a n c] 25)).drew) (balloc (Below.refl _ _) _).drew hb3)
 have HR3:=hide hr3
 have hgb:w.heap.size≤gS:=by simp at hgS;omega
 clear hb3 hr3 hgS
 refine hK.out _ _ hc3 (fun hHeld=>?_)
 clear hK
 try simp only [Act.put,xA,xB,xC,xD,xE,xF]
 refine tkH 6 rfl (v:=?_) ?_
 simp only [Act.put,xA,xB,xC,xD,xE,xF]
 refine wpAnyH_ready (rs:=[7]) (by kernel_rfl) (by simp) ?_
 refine AllReadyH.cons rfl (fun K hK=>?_) AllReadyH.nil
 go_simp
 refine hK.out _ _ ((World.cell?_alloc_lt _ _ _ (by show w.heap.size<_;omega)).trans hc3) (fun hHeld=>?_)
 clear hK
 try simp only [Act.put,xA,xB,xC,xD,xE,xF]
 refine tkH 8 rfl (v:=?_) ?_
 simp only [Act.put,xA,xB,xC,xD,xE,xF]
 refine wpAnyH_done (by kernel_rfl) ?_ _
 go_wp2_with fail
 go_ret
 refine ⟨w3.heap.size,gS,rfl,by omega,hgb,balloc HB3.out _,⟨by simp,by simp,by simp,fun q=>by simp,HR3.out.alloc _,World.ownsRow_nil _ _ _ _,by simp,by simp;omega,by omega,Nat.le_refl _⟩⟩
end Go.Proofs.YtdfdmjcngkfciaaDoor

namespace Go.Proofs.YtdfdmjcngkfciaaDoor
open Go.RowKit
theorem step_append_r {P:Program} {ops:Array Oper} {w:World} {o:Oper} {a:Act} {K:Act→World→Prop} {Q:Exit→Act→World→Prop} {E:Prop} (hgd:o.guard=none) (s x:Operand) (t:TypeId)
  (ho:o.op=.call { callee:=.builtin .append,args:=#[s,x],argTypes:=#[t,t] })
  (base:Nat) (e:TypeId) (i:TypeInfo) (z:Value) (size bytes:Nat) (ht:P.underlying t=some (.slice e)) (hi:P.info? e=some i) (hz:i.zero=some z)
  (hsize:i.size=size) (hby:i.bytes=bytes) (hzs:z.cells.size=size) (hsz:0<size)
  (v:Value) (n:Nat) (xs:List Value) (hs:a.eval s=v) (hown:w.ownsRow base e size v n xs)
  (ad:Addr) (m c:Nat) (news:List Value) (hx:a.eval x=.slice (some ad) m c) (hl:news.length=m*size) (hnews:∀j u,news[j]?=some u→w.cell? (ad.add j)=some u) (h1:∀u∈news,u.oneCell'=true)
  (h63:n+m≤maxLen) (hbytes:(n+m)*bytes≤140737488355328) (hbase:base≤w.heap.size)
  (h:∀v' w',w'.ownsRow base e size v' (n+m) (xs++news)→w.grownBy w' v.ownBlock→(v'=.slice none 0 0↔v=.slice none 0 0∧m=0)→(v'.ownBlock=v.ownBlock∨v'.ownBlock=some w.heap.size)→K (a.put o.dst v') w') :
  if Region.wanted o (yielded ops a.tmps)=true then Oper.wp P o a w K Q else E:=by
 have hw:Region.wanted o (yielded ops a.tmps)=true:=by simp [Region.wanted,hgd]
 rw [if_pos hw]
 obtain ⟨v',w',hr,h2,h3,h4,h5⟩:=run_append_own_at (P:=P) w base t o.type e i z size bytes ht hi hz hsize hby hzs hsz v n xs hown ad m c news hl hnews h1 h63 hbytes hbase
 unfold Oper.wp execOp
 simp only [ho,resolve,invoke,builtin,Sem.run_bind,Sem.run_pure,Result.andThen_ok,List.map_toArray,List.map_cons,List.map_nil,hs,hx,hr]
 exact h v' w' h2 h3 h4 h5
theorem Tryd.infoSetI:(Tryd.prog.info? 60).map (fun i=>(i.zero,i.size,i.bytes))=some (some (.agg #[.slice none 0 0]),1,24):=by kernel_rfl
structure FwI (w6 wr:World) (F:Nat) (x2 x3:Value) (U V:Nat→Value) (b1:Nat) (p1:Option Addr) (c1 b2:Nat) (p2:Option Addr) (c2:Nat):Prop where
 e0:wr.cell? ⟨F,0,none⟩=some (.slice p1 b1 c1)
 e1:wr.cell? ⟨F,1,none⟩=some (.slice p2 b2 c2)
 e2:wr.cell? ⟨F,2,none⟩=some x2
 e3:wr.cell? ⟨F,3,none⟩=some x3
 thaw:∀q,wr.frozen? ⟨F,q,none⟩=false
 bel:Below F w6 wr
 lt:F<wr.heap.size
 le:F=w6.heap.size
 o1:wr.ownsRow (F+1) 60 1 (.slice p1 b1 c1) b1 ((List.range b1).map U)
 o2:wr.ownsRow (F+1) 4 1 (.slice p2 b2 c2) b2 ((List.range b2).map V)
 dj:(Value.slice p1 b1 c1).ownBlock=none∨(Value.slice p1 b1 c1).ownBlock≠(Value.slice p2 b2 c2).ownBlock
structure FlowOwn (w:World) (B n:Nat) (U:Nat→Value) (Pr:Nat→List Int) (V:Nat→Bool) (P:List Int) (Od:List Nat) (g1 c1 g2 c2 g3 g4 c4:Nat):Prop where
 len:P.length=n
 o1:w.ownsRow B 60 1 (.slice (some ⟨g1,0,none⟩) n c1) n ((List.range n).map U)
 o2:w.ownsRow B 4 1 (.slice (some ⟨g2,0,none⟩) n c2) n ((List.range n).map fun z=>.bool (V z))
 o3:w.rowIs g3 2 n (fun z=>.int .i64 (P.getD z 0))
 o4:w.ownsRow B 2 1 (.slice (some ⟨g4,0,none⟩) Od.length c4) Od.length (natV Od)
 rows:∀i,i<n→w.ownsRow B 2 1 (U i) (Pr i).length ((Pr i).map (Value.int .i64))
 rdj:∀i j,i<n→j<n→i≠j→(U i).ownBlock=none∨(U i).ownBlock≠(U j).ownBlock
 gs:B≤g3∧g1≠g2∧g1≠g3∧g1≠g4∧g2≠g3∧g2≠g4∧g3≠g4
 out:∀i,i<n→∀k,(U i).ownBlock=some k→k≠g1∧k≠g2∧k≠g3∧k≠g4
theorem own_mv {w w':World} {B B' t s n:Nat} {v:Value} {cs:List Value} (h:w.ownsRow B t s v n cs) (hB:B'≤B) (hk:∀k,v.ownBlock=some k→w'.heap[k]?=w.heap[k]?):w'.ownsRow B' t s v n cs:=by
 obtain ⟨h1,h2 | ⟨g,cap,cur,e,hg,hh,hr⟩⟩:=h
 ·exact ⟨h1,Or.inl h2⟩
 ·exact ⟨h1,Or.inr ⟨g,cap,cur,e,Nat.le_trans hB hg,(hk g (by rw [e];rfl)).trans hh,hr⟩⟩
theorem box4 {w:World} {R F t:Nat} {f:Nat→Value} (hR:w.rowIs R t 4 f) (hne:R≠F) (x z0 z1 z2 z3:Value) (wE:World) (e:wE=((((w.setCell ⟨F,3,none⟩ x).setCell ⟨R,0,none⟩ z0).setCell ⟨R,1,none⟩ z1).setCell ⟨R,2,none⟩ z2).setCell ⟨R,3,none⟩ z3) :
  wE.cell? ⟨R,0,none⟩=some z0∧wE.cell? ⟨R,1,none⟩=some z1∧wE.cell? ⟨R,2,none⟩=some z2∧wE.cell? ⟨R,3,none⟩=some z3∧(∀k,k≠F→k≠R→wE.heap[k]?=w.heap[k]?)∧wE.heap.size=w.heap.size∧wE.os=w.os∧wE.tape=w.tape∧wE.output=w.output:=by
 have h:=((((hR.setOther (a:=⟨F,3,none⟩) hne x).set 0 z0).set 1 z1).set 2 z2).set 3 z3
 rw [←e] at h
 refine ⟨?_,?_,?_,?_,fun k h1 h2=>?_,?_,?_,?_,?_⟩
 ·rw [h.cell (by decide)];simp
 ·rw [h.cell (by decide)];simp
 ·rw [h.cell (by decide)];simp
 ·rw [h.cell (by decide)];simp
 ·rw [e,Below.heap_setCell _ _ _ _ h2,Below.heap_setCell _ _ _ _ h2,Below.heap_setCell _ _ _ _ h2,Below.heap_setCell _ _ _ _ h2,Below.heap_setCell _ _ _ _ h1]
 ·rw [e];simp [World.setCell]
 ·rw [e];simp [World.setCell]
 ·rw [e];simp [World.setCell]
 ·rw [e];simp [World.setCell]
section
variable {w6 wr wr' : World} {F : Nat} {x2 x3 : Value} {U V : Nat → Value} {b1 : Nat} {p1 : Option Addr} {c1 b2 : Nat} {p2 : Option Addr} {c2 : Nat}
theorem FwI.below (h:FwI w6 wr F x2 x3 U V b1 p1 c1 b2 p2 c2) (k:Below wr.heap.size wr wr'):FwI w6 wr' F x2 x3 U V b1 p1 c1 b2 p2 c2:=by
 have hb:=k.block F h.lt
 have ce:∀q,wr'.cell? ⟨F,q,none⟩=wr.cell? ⟨F,q,none⟩:=fun q=>World.cell?_of_block hb
 have own:∀{t v n cs},wr.ownsRow (F+1) t 1 v n cs→wr'.ownsRow (F+1) t 1 v n cs:=fun {t v n cs} ho=>by
  refine ho.kept (row:=none) ⟨k.os,k.tape,k.output,k.size,fun j hj _=>k.block j hj⟩ ?_
  cases v.ownBlock with
  | none=>exact Or.inl rfl
  | some j=>exact Or.inr (by simp)
 exact ⟨(ce 0).trans h.e0,(ce 1).trans h.e1,(ce 2).trans h.e2,(ce 3).trans h.e3,fun q=>(World.frozen?_of_block hb).trans (h.thaw q),h.bel.trans (k.mono (Nat.le_of_lt h.lt)),Nat.lt_of_lt_of_le h.lt k.size,h.le,own h.o1,own h.o2,h.dj⟩
theorem fresh_own {w:World} {B t s n:Nat} {v:Value} {cs:List Value} (h:w.ownsRow B t s v n cs) {k:Nat} (hk:w.heap.size≤k):v.ownBlock=none∨v.ownBlock≠some k:=by
 by_cases e:v.ownBlock=some k
 ·have:=(h.lt k e).2;omega
 ·exact Or.inr e
theorem dj_symm {a b:Option Nat} (h:a=none∨a≠b):b=none∨b≠a:=by
 rcases h with h | h
 ·subst h
  cases b with
  | none=>exact Or.inl rfl
  | some k=>exact Or.inr (by simp)
 ·exact Or.inr (fun e=>h e.symm)
theorem own_drew {w:World} {B t s n:Nat} {v:Value} {cs:List Value} (h:w.ownsRow B t s v n cs):w.drew.ownsRow B t s v n cs:=h
theorem range_snoc {α:Type} (f:Nat→α) (b:Nat):(List.range (b+1)).map f=(List.range b).map f++[f b]:=by rw [List.range_succ,List.map_append];rfl
theorem FwI.app1 {w8:World} {ob:Obj} {p1':Option Addr} {c1':Nat} (h:FwI w6 wr F x2 x3 U V b1 p1 c1 b2 p2 c2) (hg:(wr.alloc ob).grownBy w8 (Value.slice p1 b1 c1).ownBlock) (ho:w8.ownsRow (F+1) 60 1 (.slice p1' (b1+1) c1') (b1+1) ((List.range b1).map U++[U b1])) (hat:(Value.slice p1' (b1+1) c1').ownBlock=(Value.slice p1 b1 c1).ownBlock∨(Value.slice p1' (b1+1) c1').ownBlock=some (wr.heap.size+1)) :
  FwI w6 (w8.setCell ⟨F,0,none⟩ (.slice p1' (b1+1) c1')) F x2 x3 U V (b1+1) p1' c1' b2 p2 c2∧(∀q,w8.cell? ⟨F,q,none⟩=wr.cell? ⟨F,q,none⟩)∧(∀q,w8.frozen? ⟨F,q,none⟩=false)∧Below F wr w8:=by
 have hlt:=h.lt
 have ha:∀k,k<wr.heap.size→(wr.alloc ob).heap[k]?=wr.heap[k]?:=fun k hk=>Below.heap_alloc _ _ _ hk
 have hsz:(wr.alloc ob).heap.size=wr.heap.size+1:=World.size_alloc _ _
 have hgs:=hg.size
 have hnv:∀k,k≤F→some k≠(Value.slice p1 b1 c1).ownBlock:=fun k hk e=>by have:=(h.o1.lt k e.symm).1;omega
 have hb:w8.heap[F]?=wr.heap[F]?:=(hg.block F (by omega) (hnv _ (Nat.le_refl _))).trans (ha _ hlt)
 have ce:∀q,w8.cell? ⟨F,q,none⟩=wr.cell? ⟨F,q,none⟩:=fun q=>World.cell?_of_block hb
 have fe:∀q,w8.frozen? ⟨F,q,none⟩=false:=fun q=>(World.frozen?_of_block hb).trans (h.thaw q)
 have hbl:Below F wr w8:=⟨hg.os,hg.tape,hg.output,by omega,fun k hk=>(hg.block k (by omega) (hnv k (by omega))).trans (ha k (by omega))⟩
 refine ⟨⟨World.cell?_setCell_same _ _ _ ((ce 0).trans h.e0),(set_other _ _ (by omega) _).trans ((ce 1).trans h.e1),(set_other _ _ (by omega) _).trans ((ce 2).trans h.e2),(set_other _ _ (by omega) _).trans ((ce 3).trans h.e3),fun q=>by rw [World.frozen?_setCell];exact fe q,(h.bel.trans hbl).setCell (p:=⟨F,0,none⟩) (Nat.le_refl _) _,by rw [size_setCell];omega,h.le,?_,?_,?_⟩,ce,fe,hbl⟩
 ·rw [range_snoc]
  exact ownsRow_setCell_below ho (by show F<F+1;omega) _
 ·exact ownsRow_setCell_below ((h.o2.alloc ob).kept hg (dj_symm h.dj)) (by show F<F+1;omega) _
 ·rcases hat with e | e
  ·rw [e];exact h.dj
  ·rcases fresh_own h.o2 (k:=wr.heap.size+1) (by omega) with f | f
   ·exact Or.inr (by rw [e,f];simp)
   ·exact Or.inr (by rw [e];exact fun k=>f k.symm)
theorem FwI.app2 {w8:World} {ob:Obj} {p2':Option Addr} {c2':Nat} (h:FwI w6 wr F x2 x3 U V b1 p1 c1 b2 p2 c2) (hg:(wr.alloc ob).grownBy w8 (Value.slice p2 b2 c2).ownBlock) (ho:w8.ownsRow (F+1) 4 1 (.slice p2' (b2+1) c2') (b2+1) ((List.range b2).map V++[V b2])) (hat:(Value.slice p2' (b2+1) c2').ownBlock=(Value.slice p2 b2 c2).ownBlock∨(Value.slice p2' (b2+1) c2').ownBlock=some (wr.heap.size+1)) :
  FwI w6 (w8.setCell ⟨F,1,none⟩ (.slice p2' (b2+1) c2')) F x2 x3 U V b1 p1 c1 (b2+1) p2' c2'∧(∀q,w8.cell? ⟨F,q,none⟩=wr.cell? ⟨F,q,none⟩)∧(∀q,w8.frozen? ⟨F,q,none⟩=false)∧Below F wr w8:=by
 have hlt:=h.lt
 have ha:∀k,k<wr.heap.size→(wr.alloc ob).heap[k]?=wr.heap[k]?:=fun k hk=>Below.heap_alloc _ _ _ hk
 have hsz:(wr.alloc ob).heap.size=wr.heap.size+1:=World.size_alloc _ _
 have hgs:=hg.size
 have hnv:∀k,k≤F→some k≠(Value.slice p2 b2 c2).ownBlock:=fun k hk e=>by have:=(h.o2.lt k e.symm).1;omega
 have hb:w8.heap[F]?=wr.heap[F]?:=(hg.block F (by omega) (hnv _ (Nat.le_refl _))).trans (ha _ hlt)
 have ce:∀q,w8.cell? ⟨F,q,none⟩=wr.cell? ⟨F,q,none⟩:=fun q=>World.cell?_of_block hb
 have fe:∀q,w8.frozen? ⟨F,q,none⟩=false:=fun q=>(World.frozen?_of_block hb).trans (h.thaw q)
 have hbl:Below F wr w8:=⟨hg.os,hg.tape,hg.output,by omega,fun k hk=>(hg.block k (by omega) (hnv k (by omega))).trans (ha k (by omega))⟩
 refine ⟨⟨(set_other _ _ (by omega) _).trans ((ce 0).trans h.e0),World.cell?_setCell_same _ _ _ ((ce 1).trans h.e1),(set_other _ _ (by omega) _).trans ((ce 2).trans h.e2),(set_other _ _ (by omega) _).trans ((ce 3).trans h.e3),fun q=>by rw [World.frozen?_setCell];exact fe q,(h.bel.trans hbl).setCell (p:=⟨F,1,none⟩) (Nat.le_refl _) _,by rw [size_setCell];omega,h.le,?_,?_,?_⟩,ce,fe,hbl⟩
 ·exact ownsRow_setCell_below ((h.o1.alloc ob).kept hg h.dj) (by show F<F+1;omega) _
 ·rw [range_snoc]
  exact ownsRow_setCell_below ho (by show F<F+1;omega) _
 ·rcases hat with e | e
  ·rw [e];exact h.dj
  ·rcases fresh_own h.o1 (k:=wr.heap.size+1) (by omega) with f | f
   ·exact Or.inl f
   ·exact Or.inr (by rw [e];exact f)
end
end Go.Proofs.YtdfdmjcngkfciaaDoor
