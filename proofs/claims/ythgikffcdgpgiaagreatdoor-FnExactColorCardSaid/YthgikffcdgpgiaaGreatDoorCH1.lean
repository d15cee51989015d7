import Derived.Test.YthgikffcdgpgiaaGreatDoorW2
import Derived.Test.YthgikffcdgpgiaaGreatDoorDM4
import Derived.Test.YthgikffcdgpgiaaGreatDoorSP0
import Derived.Test.YthgikffcdgpgiaaGreatDoorDR1
import Derived.Test.YthgikffcdgpgiaaGreatDoorMQ4
import Derived.Test.YthgikffcdgpgiaaGreatDoorIw
import Derived.Test.YthgikffcdgpgiaaGreatDoorW14b
import Derived.Test.YthgikffcdgpgiaaGreatDoorCL1
import Derived.Test.YthgikffcdgpgiaaGreatDoorSV0
namespace Go.Proofs.YthgikffcdgpgiaaGreatDoor
open Go.RowKit
def chTo (P:List Int) (k:Nat) (c:Nat):List Nat:=(List.range k).filter fun b=>P.getD b 0==(c:Int)
theorem chTo_all (P:List Int) (c:Nat):chTo P P.length c=chP P c:=rfl
theorem chTo_len (P:List Int) (k c:Nat):(chTo P k c).length≤k:=Nat.le_trans (List.length_filter_le _ _) (by simp)
theorem chTo_hit {P:List Int} {k t:Nat} (h:P.getD k 0=(t:Int)) (i:Nat):natI (chTo P (k+1) i)=if i=t then natI (chTo P k t)++[(k:Int)] else natI (chTo P k i):=by
 unfold chTo
 rw [List.range_succ,List.filter_append,List.filter_cons,List.filter_nil,h]
 by_cases e:i=t
 ·subst e
  rw [if_pos (by simp),if_pos rfl]
  simp [natI]
 ·rw [if_neg (by simp;omega),if_neg e]
  simp [natI]
theorem chTo_miss {P:List Int} {k:Nat} (h:P.getD k 0<0) (i:Nat):chTo P (k+1) i=chTo P k i:=by
 unfold chTo
 rw [List.range_succ,List.filter_append,List.filter_cons,List.filter_nil,if_neg (by rw [beq_iff_eq];omega),List.append_nil]
theorem natI_len (l:List Nat):(natI l).length=l.length:=by simp [natI]
set_option maxHeartbeats 2000000 in
set_option maxRecDepth 100000 in
theorem childrenOf_any (a:Option Addr) (n c:Nat) (P:List Int) (L B:Nat) (w:World) (ha:Hid (IntsAt w L B a P)) (hx:Hid (n=P.length)) (hn:n≤1000) (hB:B≤w.heap.size) (hP:Hid (∀p∈P,p<n)) :
  Calls Tryz.prog 108 #[.slice a n c] w fun e w'=>∃a' c',e=.returned (.slice a' n c')∧Below w.heap.size w w'∧IntssAt w' w.heap.size w'.heap.size a' ((List.range n).map fun i:Nat=>natI (chP P i)):=by
 obtain ⟨i0,hi0,hz0,hz1,hz2⟩:=info_parts Tryz.info2'
 have hmk:=run_make_row' (P:=Tryz.prog) 155 26 (.slice none 0 0) 24 Tryz.underlying155 Tryz.info45 rfl .i64 .i64 n (by omega) (by omega)
 go_enter Tryz.func108,Tryz.ntmps108
 go_wp2
 go_loopw [11] (fun i wr=>∃k:Nat,k≤n∧i=.int .i64 k∧Below w.heap.size w wr∧Hid (∃U,Rows2 wr w.heap.size n (fun i=>natI (chTo P k i)) U)) (fun i _=>n-(intOf i).toNat)
 case atStart=>exact ⟨0,Nat.zero_le _,rfl,balloc (Below.refl _ _) _,⟨_,Rows2.born w n⟩⟩
 case round =>
  obtain ⟨k,hk,rfl,hw,hrw⟩:=hrel
  by_cases hlt:k<n
  ·have hkx:k<P.length:=by have:=hx.out;omega
   obtain ⟨b,o,rfl,⟨_,hbB⟩,hc⟩:=ha.out k hkx
   have hcw:=(cTr hw (by omega)).trans hc
   have hpl:P[k]<n:=hP.out _ (List.getElem_mem hkx)
   have hpg:P.getD k 0=P[k]:=by simp [hkx]
   have HPG:=hide hpg
   clear hc hpg
   generalize P[k]=p at *
   by_cases hp:0≤p
   ·obtain ⟨t,rfl⟩:=Int.eq_ofNat_of_zero_le hp
    have htn:t<n:=by omega
    obtain ⟨U,hU⟩:=hrw.out
    have hcU:=hU.1.cell htn
    have hfU:=hU.1.frozen t
    have hpl2:(natI (chTo P k t)).length≤k:=by rw [natI_len];exact chTo_len P k t
    have HU:=hide hU
    clear hU hrw
    go_wp2_with (at_builtin;refine wpList_append_own_at _ rfl _ _ 26 rfl (w.heap.size+1) 2 i0 (.int .i64 0) 1 8 Tryz.underlying26 hi0 hz0 hz1 hz2 rfl (by decide) _ _ _ rfl ((HU.out.alloc _).2.1 t htn) ⟨wr.heap.size,0,none⟩ 1 1 [.int .i64 k] rfl rfl ?c1 ?c2 ?c3 ?c4 ?c5 ?_)
    case c1 =>
     intro j u hj
     match j,hj with
     | 0,hj=>simp at hj;subst hj;simp [Addr.add]
    case c2=>intro u hu;simp at hu;subst hu;rfl
    case c3=>unfold maxLen;omega
    case c4=>omega
    case c5=>have:=HU.out.1.lt;simp;omega
    intro v1 w1 hown1 hgrow1 _ hat1
    obtain ⟨av,cv,hv,_⟩:=ints_owned (xs:=natI (chTo P k t)++[(k:Int)]) (by rw [ints_snoc];exact hown1)
    have hst:=hide ((HU.out.alloc (.cells #[.int .i64 k] 2)).step htn k v1 hgrow1 hown1 (by rw [World.size_alloc];exact hat1))
    have hbG:w1.heap[w.heap.size]?=(wr.alloc (.cells #[.int .i64 k] 2)).heap[w.heap.size]?:=grown_block hgrow1 ((HU.out.alloc (.cells #[.int .i64 k] 2)).2.1 t htn) (by omega) (by have:=HU.out.1.lt;simp;omega)
    have hbel:=hide (grown_below (balloc hw (.cells #[.int .i64 k] 2)) hgrow1 ((HU.out.alloc (.cells #[.int .i64 k] 2)).2.1 t htn) (by omega) (by have:=hw.size;simp;omega))
    have hcG:w1.cell? ⟨w.heap.size,t,none⟩=some (U t):=by rw [cell_of hbG];exact ((HU.out.alloc (.cells #[.int .i64 k] 2)).1).cell htn
    have hfG:w1.frozen? ⟨w.heap.size,t,none⟩=false:=by rw [World.frozen?_of_block (w:=wr.alloc (.cells #[.int .i64 k] 2)) (a:=⟨w.heap.size,t,none⟩) hbG];exact ((HU.out.alloc (.cells #[.int .i64 k] 2)).1).frozen t
    have HV:=hide hv
    clear hown1 hgrow1 hat1 hbG hcU hfU
    rw [hv]
    clear hv
    go_wp2
    have hv2:=HV.out
    rw [List.length_append,List.length_cons,List.length_nil,Nat.zero_add] at hv2
    rw [←hv2]
    refine ⟨⟨k+1,by omega,by go_num,hbel.out.setCell (by dsimp only;omega) _,⟨_,(hst.out).congr (fun i _=>?_)⟩⟩,by simp [intOf];omega⟩
    exact (chTo_hit HPG.out i).symm
   ·have hp':p<0:=by omega
    have HM:=hide (fun i=>chTo_miss (P:=P) (k:=k) (by rw [HPG.out];exact hp') i)
    go_wp2
    refine ⟨⟨k+1,by omega,by go_num,hw,?_⟩,by simp [intOf];omega⟩
    obtain ⟨U,hU⟩:=hrw.out
    exact ⟨U,hU.congr (fun i _=>by rw [HM.out])⟩
  ·go_wp2
   go_ret
   obtain ⟨U,hU⟩:=hrw.out
   have e:k=P.length:=by have:=hx.out;omega
   refine ⟨_,_,rfl,hw,?_⟩
   have h:=(hU.congr (P':=fun i:Nat=>natI (chP P i)) (fun i _=>by rw [e,chTo_all])).ints
   exact h.mono (by omega) (Nat.le_refl _)
end Go.Proofs.YthgikffcdgpgiaaGreatDoor

namespace Go.Proofs.YthgikffcdgpgiaaGreatDoor
open Go.RowKit
structure FrO (w w':World) (v v':Value):Prop where
 os:w'.os=w.os
 tape:w'.tape=w.tape
 output:w'.output=w.output
 size:w.heap.size≤w'.heap.size
 block:∀k,k<w.heap.size→some k≠v.ownBlock→w'.heap[k]?=w.heap[k]?
 own:v'.ownBlock=v.ownBlock∨∀k,v'.ownBlock=some k→w.heap.size≤k
theorem FrO.refl (w:World) (v:Value):FrO w w v v:=⟨rfl,rfl,rfl,Nat.le_refl _,fun _ _ _=>rfl,Or.inl rfl⟩
theorem FrO.trans {w w1 w2:World} {v v1 v2:Value} (h:FrO w w1 v v1) (k:FrO w1 w2 v1 v2):FrO w w2 v v2:=by
 refine ⟨k.os.trans h.os,k.tape.trans h.tape,k.output.trans h.output,Nat.le_trans h.size k.size,fun j h1 h4=>?_,?_⟩
 ·refine (k.block j (Nat.lt_of_lt_of_le h1 h.size) (fun e=>?_)).trans (h.block j h1 h4)
  rcases h.own with ho | ho
  ·exact h4 (by rw [e,ho])
  ·have:=ho j e.symm;omega
 ·rcases k.own with ko | ko
  ·rcases h.own with ho | ho
   ·exact Or.inl (ko.trans ho)
   ·exact Or.inr (fun j e=>ho j (by rw [←ko];exact e))
  ·exact Or.inr (fun j e=>Nat.le_trans h.size (ko j e))
theorem FrO.below {w w':World} {v v':Value} {BL t s n:Nat} {cs:List Value} (h:FrO w w' v v') (ho:w.ownsRow BL t s v n cs) (hz:BL≤w.heap.size):Below BL w w':=⟨h.os,h.tape,h.output,h.size,fun k hk=>h.block k (by omega) (fun e=>by have:=(ho.lt k e.symm).1;omega)⟩
theorem FrO.push {w w8:World} {v v8:Value} {ob:Obj} (hg:(w.alloc ob).grownBy w8 v.ownBlock) (hat:v8.ownBlock=v.ownBlock∨v8.ownBlock=some (w.heap.size+1)):FrO w w8 v v8:=by
 have hsz:(w.alloc ob).heap.size=w.heap.size+1:=World.size_alloc _ _
 have hgs:=hg.size
 refine ⟨hg.os,hg.tape,hg.output,by omega,fun k h1 h4=>(hg.block k (by omega) h4).trans (Below.heap_alloc _ _ _ h1),?_⟩
 rcases hat with e | e
 ·exact Or.inl e
 ·exact Or.inr (fun k ek=>by rw [e] at ek;injection ek with ek;omega)
theorem pre_eq {P:List Int} {R:Nat→Nat} {n:Nat} (hR:∀b c,c∈chP P b→R b<R c) (hRn:∀b,R b≤n) {m b:Nat} (h:n≤R b+m):preP P m b=b::(chP P b).flatMap (preP P (m-1)):=by
 cases m with
 | zero =>
  have:chP P b=[]:=by
   cases e:chP P b with
   | nil=>rfl
   | cons c l =>
    have h1:=hR b c (by rw [e];exact List.mem_cons_self)
    have h2:=hRn c
    omega
  rw [this]
  rfl
 | succ m=>rfl
set_option maxHeartbeats 2000000 in
set_option maxRecDepth 100000 in
theorem preorder_any (ca:Option Addr) (n cc:Nat) (P:List Int) (L2 B2 BL:Nat) (hx:Hid (n=P.length)) (hn:n≤1000) (hBL:B2≤BL) (R:Nat→Nat) (hR:Hid (∀b c,c∈chP P b→R b<R c)) (hRn:Hid (∀b,R b≤n)) :
  ∀(m b:Nat) (v:Value) (L:List Nat) (w:World),Hid (IntssAt w L2 B2 ca ((List.range n).map fun i:Nat=>natI (chP P i)))→Hid (w.ownsRow BL 2 1 v L.length (natV L))→BL≤w.heap.size→b<n→Hid (n≤R b+m)→L.length+(preP P m b).length≤4000 →
  Calls Tryz.prog 107 #[v,.slice ca n cc,.int .i64 b] w fun e w'=>∃v',e=.returned v'∧FrO w w' v v'∧w'.ownsRow BL 2 1 v' (L++preP P m b).length (natV (L++preP P m b)):=by
 obtain ⟨i0,hi0,hz0,hz1,hz2⟩:=info_three Tryz.info2'
 intro m
 induction m using Nat.strongRecOn with
 | _ m ih =>
  intro b v L w HC HO hz hb HU hL
  have IH:=hide ih
  clear ih
  obtain ⟨bc,oc,rfl,hbc,a1,c1,hc1,hi1⟩:=HC.out b (by simpa using hb)
  simp only [List.getElem_map,List.getElem_range,natI_len] at hc1 hi1
  have HE:=hide (pre_eq hR.out hRn.out HU.out)
  rw [HE.out] at hL ⊢
  have HCM:Hid (∀c∈chP P b,c<n∧n≤R c+(m-1)∧0<m):=hide (fun c hc=>by
   have h1:=hR.out b c hc
   have h2:=hRn.out c
   have h3:=(chP_mem.1 hc).1
   have:=HU.out
   have:=hx.out
   omega)
  have hql:(chP P b).length≤n:=Nat.le_trans ch_len (by have:=hx.out;omega)
  have HI1:=hide hi1
  generalize chP P b=cs at *
  obtain ⟨q,hq⟩:∃q,q=cs.length:=⟨_,rfl⟩
  rw [←hq] at hc1 hql
  have HQ:=hide hq
  have hLL:L.length+1+(cs.flatMap (preP P (m-1))).length≤4000:=by simp only [List.length_cons] at hL;omega
  clear hq hi1 HE hL
  go_enter Tryz.func107,Tryz.ntmps107
  go_wp2_with (at_builtin;refine wpList_append_own_at _ rfl _ _ 26 rfl BL 2 i0 (.int .i64 0) 1 8 Tryz.underlying26 hi0 hz0 hz1 hz2 rfl (by decide) _ _ _ rfl (HO.out.alloc _) ⟨w.heap.size,0,none⟩ 1 1 [.int .i64 (b:Int)] rfl rfl ?c1 ?c2 ?c3 ?c4 ?c5 ?_)
  case c1=>exact one_news _ _ _
  case c2=>intro u hu;simp at hu;subst hu;rfl
  case c3=>unfold maxLen;omega
  case c4=>omega
  case c5=>simp;omega
  intro v8 w8 hown8 hg8 _ hat8
  have HF8:Hid (FrO w w8 v v8):=hide (FrO.push hg8 (by simpa using hat8))
  have HO8:Hid (w8.ownsRow BL 2 1 v8 (L++[b]).length (natV (L++[b]))):=hide (by rw [natV_snoc,List.length_append];exact hown8)
  have HB8:=hide (HF8.out.below HO.out hz)
  have hz8:=HF8.out.size
  have hc8:w8.cell? ⟨bc,oc+b,none⟩=some (.slice a1 q c1):=(cTr HB8.out (by omega)).trans hc1
  have HC8:=hide (HC.out.keep (HB8.out.mono hBL))
  have HI8:=hide (HI1.out.keep (HB8.out.mono hBL))
  clear hown8 hg8 hat8 hc1 HI1
  go_wp2_with fail
  go_loopw [0,18] (fun vo u wr=>∃j:Nat,j≤q∧u=.int .i64 j∧Hid (FrO w8 wr v8 vo)∧Hid (wr.ownsRow BL 2 1 vo (L++[b]++(cs.take j).flatMap (preP P (m-1))).length (natV (L++[b]++(cs.take j).flatMap (preP P (m-1)))))) (fun _ u _=>q-(intOf u).toNat)
  case atStart=>exact ⟨0,Nat.zero_le _,rfl,hide (FrO.refl _ _),hide (by simpa using HO8.out)⟩
  case round =>
   obtain ⟨j,hj,rfl,HFj,HOj⟩:=hrel
   clear hc8
   have HBj:=hide (HFj.out.below HO8.out (by omega))
   by_cases hlt:j<q
   ·have hjl:j<cs.length:=by have:=HQ.out;omega
    obtain ⟨b5,o5,rfl,hb5,e5⟩:=HI8.out j (by rw [natI_len];exact hjl)
    have hnj:(natI cs)[j]'(by rw [natI_len];exact hjl)=((cs[j]:Nat):Int):=by simp [natI]
    rw [hnj] at e5
    have e5r:=(cTr HBj.out (by omega)).trans e5
    obtain ⟨hcn,hcr,hm⟩:=HCM.out cs[j] (List.getElem_mem hjl)
    have HTK:Hid ((cs.take (j+1)).flatMap (preP P (m-1))=(cs.take j).flatMap (preP P (m-1))++preP P (m-1) cs[j]):=hide (by rw [List.take_succ_eq_append_getElem hjl,List.flatMap_append];simp)
    have HLE:Hid ((L++[b]++(cs.take j).flatMap (preP P (m-1))).length+(preP P (m-1) cs[j]).length≤4000):=hide (by
     have h1:(cs.flatMap (preP P (m-1))).length=((cs.take (j+1)).flatMap (preP P (m-1))).length+((cs.drop (j+1)).flatMap (preP P (m-1))).length:=by
      rw [←List.length_append,←List.flatMap_append,List.take_append_drop]
     rw [HTK.out,List.length_append] at h1
     simp only [List.length_append,List.length_cons,List.length_nil]
     omega)
    have HCC:=hide (IH.out (m-1) (by omega) cs[j] u0 _ wr (hide (HC8.out.keep (HBj.out.mono hBL))) HOj (by have:=HFj.out.size;omega) hcn (hide hcr) HLE.out)
    have HHH:=hide (show (L++[b]++(cs.take j).flatMap (preP P (m-1)))++preP P (m-1) cs[j]=L++[b]++(cs.take (j+1)).flatMap (preP P (m-1)) by rw [HTK.out];simp)
    rw [HHH.out] at HCC
    clear e5 hnj HTK HLE HHH
    generalize cs[j]=cj at *
    go_wp2_with fail
    refine HCC.out.mono ?_
    rintro e w5 ⟨v5,rfl,hf5,ho5⟩
    have HF5:=hide (HFj.out.trans hf5)
    have HO5:=hide ho5
    clear hf5 ho5 HCC HOj
    go_wp2_with fail
    exact ⟨⟨j+1,by omega,by go_num,HF5,HO5⟩,by simp [intOf];omega⟩
   ·have hje:j=q:=by omega
    have HTE:Hid (cs.take j=cs):=hide (List.take_of_length_le (by have:=HQ.out;omega))
    rw [HTE.out] at HOj
    clear HTE
    go_wp2_with fail
    go_ret
    refine ⟨u0,rfl,HF8.out.trans HFj.out,?_⟩
    have e:L++b::cs.flatMap (preP P (m-1))=L++[b]++cs.flatMap (preP P (m-1)):=by simp
    rw [e]
    exact HOj.out
end Go.Proofs.YthgikffcdgpgiaaGreatDoor

namespace Go.Proofs.YthgikffcdgpgiaaGreatDoor
open Go.RowKit
theorem pre_head (P:List Int) (m b:Nat):b∈preP P m b:=by
 cases m<;>simp [preP]
theorem pre_closed {tg:Nat→List Nat} {n:Nat} {P:List Int} (h:IsIdm tg n P) (hn:∀x,Re tg x→x<n):∀(m b c x:Nat),n≤(domL tg n b).length+m→c∈preP P m b→x∈chP P c→x∈preP P m b
 | 0,b,c,x,hm,hc,hx=>by
  have:c=b:=by simpa [preP] using hc
  subst this
  have h1:=dn_less h hn hx
  have h2:=dn_le (tg:=tg) n x
  omega
 | m+1,b,c,x,hm,hc,hx=>by
  rw [preP,List.mem_cons] at hc
  rw [preP,List.mem_cons]
  rcases hc with rfl | hc
  ·exact Or.inr (List.mem_flatMap.2 ⟨x,hx,pre_head P m x⟩)
  ·obtain ⟨d,hd,hc⟩:=List.mem_flatMap.1 hc
   have h1:=dn_less h hn hd
   exact Or.inr (List.mem_flatMap.2 ⟨d,hd,pre_closed h hn m d c x (by omega) hc hx⟩)
theorem pre_all {tg:Nat→List Nat} {n:Nat} {P:List Int} (h:IsIdm tg n P) (hn:∀x,Re tg x→x<n):∀(k x:Nat),(domL tg n x).length≤k→Re tg x→x∈preP P n 0
 | k,x,hk,hx=>by
  by_cases h0:x=0
  ·subst h0;exact pre_head P n 0
  ·obtain ⟨c,e1,e2,e3,e4,_⟩:=up_some h hn hx h0
   match k,hk with
   | 0,hk=>omega
   | k+1,hk=>exact pre_closed h hn n 0 c x (by omega) (pre_all h hn k c (by omega) e3) (chP_mem.2 ⟨by rw [h.len];exact hn x hx,e1⟩)
theorem pre_perm {xs:List Blk} {P:List Int} (ho:OkF xs) (hP:IsIdm (tgN xs) xs.length P) (hr:AllRe xs):(preP P xs.length 0).Perm (List.range xs.length):=by
 rw [List.perm_iff_count]
 intro a
 rw [(pre_nd hP xs.length 0 Re.root).count,List.nodup_range.count]
 have:a∈preP P xs.length 0↔a∈List.range xs.length:=by
  rw [List.mem_range]
  constructor
  ·intro h
   exact ho.re a (pre_dom hP xs.length 0 a Re.root h).rb
  ·intro h
   exact pre_all hP ho.re _ a (Nat.le_refl _) (hr a h)
 by_cases e:a∈preP P xs.length 0
 ·rw [if_pos e,if_pos (this.1 e)]
 ·rw [if_neg e,if_neg (fun h=>e (this.2 h))]
theorem verd_zero {v:Int} {xs:List Blk} (h:verdP v xs=0):validI ⟨v,xs⟩=true∧AllRe xs:=by
 unfold verdP at h
 by_cases h1:validI ⟨v,xs⟩=false
 ·rw [if_pos h1] at h;omega
 ·rw [if_neg h1] at h
  by_cases h2:¬AllRe xs
  ·rw [if_pos h2] at h;omega
  ·exact ⟨by simpa using h1,Classical.not_not.1 h2⟩
def fsS (ss:List (Nat × List Nat)):List Int:=ss.map fun s=>(s.1:Int)
theorem fs_ph {V:Nat} {xs:List Blk} (ho:OkL V xs) {x:Blk} (hx:x∈xs) (b:Nat):fsS (phS xs V b x x.phis.length)=phDefs x.phis:=by
 unfold fsS phS phDefs
 rw [List.take_length,List.map_map]
 apply List.map_congr_left
 intro p hp
 have:=(ho.phd x hx p hp).1
 simp only [Function.comp]
 omega
theorem fs_in {V:Nat} {xs:List Blk} (ho:OkL V xs) {x:Blk} (hx:x∈xs) (b:Nat):∀k,k≤x.instrs.length→fsS (inS xs V b x k)=insDefs (x.instrs.take k)
 | 0,_=>by simp [fsS,inS,insDefs]
 | k+1,hk=>by
  have ih:=fs_in ho hx b k (by omega)
  have hk':k<x.instrs.length:=hk
  have e:insDefs (x.instrs.take (k+1))=insDefs (x.instrs.take k)++writesI x.instrs[k]:=by
   rw [List.take_add_one,List.getElem?_eq_getElem hk']
   unfold insDefs writesI
   rw [List.filter_append,List.map_append,Option.toList_some,List.filter_cons,List.filter_nil]
   cases dB x.instrs[k].op<;>rfl
  rw [e,←ih,inS,List.getElem?_eq_getElem hk']
  unfold fsS
  rw [List.map_append,List.map_map]
  congr 1
  have:∀v∈writesI x.instrs[k],((fun s:Nat × List Nat=>(s.1:Int)) ∘ fun v:Int=>(v.toNat,ptP xs x V b (k+1))) v=v:=fun v hv=>by
   have:=(ho.wri x hx _ (List.getElem_mem hk') v hv).1
   simp only [Function.comp]
   omega
  rw [List.map_congr_left this,List.map_id'']
  intro a;rfl
theorem fs_blk {V:Nat} {xs:List Blk} (ho:OkL V xs) {b:Nat} (hb:b<xs.length):fsS (skB xs V b)=blkDefs xs[b]:=by
 unfold skB
 rw [List.getElem?_eq_getElem hb]
 have h1:=fs_ph ho (List.getElem_mem hb) b
 have h2:=fs_in ho (List.getElem_mem hb) b xs[b].instrs.length (Nat.le_refl _)
 rw [List.take_length] at h2
 show fsS (phS xs V b xs[b] xs[b].phis.length++inS xs V b xs[b] xs[b].instrs.length)=_
 unfold fsS at *
 rw [List.map_append,h1,h2]
 rfl
theorem fs_range {V:Nat} {xs:List Blk} (ho:OkL V xs):∀k,k≤xs.length→fsS (skA xs V (List.range k))=blksDefs (xs.take k)
 | 0,_=>by simp [fsS,skA,blksDefs]
 | k+1,hk=>by
  have ih:=fs_range ho k (by omega)
  have hk':k<xs.length:=hk
  rw [List.range_succ,skA_snoc,List.take_add_one,List.getElem?_eq_getElem hk']
  have h2:=fs_blk ho hk'
  unfold fsS at *
  rw [List.map_append,ih,h2]
  unfold blksDefs
  rw [List.flatMap_append,Option.toList_some,List.flatMap_cons,List.flatMap_nil,List.append_nil]
theorem count_is (l:List Int) (v:Int):countEq l v=l.count v:=by
 unfold countEq
 rw [List.count_eq_countP,List.countP_eq_length_filter]
theorem fs_nd {V:Nat} {xs:List Blk} {P:List Int} (hv:validI ⟨(V:Int),xs⟩=true) (hr:AllRe xs) (hP:IsIdm (tgN xs) xs.length P) :
  (fsS (skA xs V (preP P xs.length 0))).Nodup∧∀u:Nat,u<V→(u:Int)∈fsS (skA xs V (preP P xs.length 0)):=by
 have ho:=okL_of_valid hv
 have hp:(fsS (skA xs V (preP P xs.length 0))).Perm (blksDefs xs):=by
  have h1:=fs_range ho xs.length (Nat.le_refl _)
  rw [List.take_length] at h1
  rw [←h1]
  unfold fsS skA
  exact (List.Perm.flatMap_right _ (pre_perm ho.okf hP hr)).map _
 have hon:onceOk ⟨(V:Int),xs⟩=true:=by
  unfold validI at hv
  simp only [Bool.and_eq_true] at hv
  exact hv.2
 have hc:∀u:Nat,u<V→(blksDefs xs).count (u:Int)=1:=fun u hu=>by
  unfold onceOk at hon
  have:=List.all_eq_true.1 hon u (List.mem_range.2 (by simpa using hu))
  rw [beq_iff_eq,count_is] at this
  exact this
 have hl:∀d∈blksDefs xs,0≤d∧d<(V:Int):=fun d hd=>by
  obtain ⟨x,hx,hd⟩:=List.mem_flatMap.1 hd
  rcases List.mem_append.1 hd with hd | hd
  ·obtain ⟨p,hp',rfl⟩:=List.mem_map.1 hd
   exact ho.phd x hx p hp'
  ·obtain ⟨y,hy,rfl⟩:=List.mem_map.1 hd
   obtain ⟨h1,h2⟩:=List.mem_filter.1 hy
   exact ho.wri x hx y h1 y.dst (by unfold writesI;rw [h2];simp)
 constructor
 ·rw [List.nodup_iff_count]
  intro a
  rw [hp.count_eq]
  by_cases h:a∈blksDefs xs
  ·obtain ⟨h1,h2⟩:=hl a h
   have:=hc a.toNat (by omega)
   rw [Int.toNat_of_nonneg h1] at this
   omega
  ·rw [List.count_eq_zero_of_not_mem h];omega
 ·intro u hu
  rw [hp.mem_iff]
  apply List.count_pos_iff.1
  rw [hc u hu]
  decide
structure StpOk (V:Nat) (ss:List (Nat × List Nat)):Prop where
 lt:∀s∈ss,s.1<V
 nd:∀pre s post,ss=pre++s::post→∀t∈pre,t.1≠s.1
 all:∀u,u<V→∃s∈ss,s.1=u
theorem stp_ok {V:Nat} {xs:List Blk} {P:List Int} (hv:validI ⟨(V:Int),xs⟩=true) (hr:AllRe xs) (hP:IsIdm (tgN xs) xs.length P):StpOk V (skA xs V (preP P xs.length 0)):=by
 obtain ⟨h1,h2⟩:=fs_nd hv hr hP
 have ho:=okL_of_valid hv
 refine ⟨fun s hs=>?_,fun pre s post e t ht=>?_,fun u hu=>?_⟩
 ·obtain ⟨b,_,hs⟩:=List.mem_flatMap.1 hs
  unfold skB at hs
  cases hb:xs[b]? with
  | none=>rw [hb] at hs;cases hs
  | some x =>
   have hx:x∈xs:=List.mem_of_getElem? hb
   have hb':b<xs.length:=(List.getElem?_eq_some_iff.1 hb).1
   have hs':((s.1:Nat):Int)∈blkDefs x:=by
    have h3:=fs_blk ho hb'
    rw [(List.getElem?_eq_some_iff.1 hb).2] at h3
    rw [←h3]
    unfold skB fsS
    exact List.mem_map.2 ⟨s,hs,rfl⟩
   rcases List.mem_append.1 hs' with hd | hd
   ·obtain ⟨p,hp',e⟩:=List.mem_map.1 hd
    have:=ho.phd x hx p hp'
    have e:p.dst=_:=e
    omega
   ·obtain ⟨y,hy,e⟩:=List.mem_map.1 hd
    obtain ⟨h1,h2⟩:=List.mem_filter.1 hy
    have:=ho.wri x hx y h1 y.dst (by unfold writesI;rw [h2];simp)
    have e:y.dst=_:=e
    omega
 ·rw [e] at h1
  unfold fsS at h1
  rw [List.map_append,List.map_cons] at h1
  have:=(List.nodup_append.1 h1).2.2 _ (List.mem_map.2 ⟨t,ht,rfl⟩) _ List.mem_cons_self
  exact fun e=>this (by rw [e])
 ·obtain ⟨s,hs,e⟩:=List.mem_map.1 (h2 u hu)
  exact ⟨s,hs,by omega⟩
theorem ckF_none {v:Nat}:∀(ss:List (Nat × List Nat)) (C:Nat→Int),(∀s∈ss,s.1≠v)→ckF C ss v=C v
 | [],_,_=>rfl
 | s::ss,C,h=>by
  have ih:=ckF_none ss (ckS C s) (fun t ht=>h t (List.mem_cons_of_mem _ ht))
  show ckF (ckS C s) ss v=_
  rw [ih]
  unfold ckS
  rw [if_neg (fun e=>h s List.mem_cons_self e.symm)]
theorem ckF_nonneg {v:Nat}:∀(ss:List (Nat × List Nat)) (C:Nat→Int),(0≤C v∨∃s∈ss,s.1=v)→0≤ckF C ss v
 | [],_,h=>by
  rcases h with h | ⟨s,h,_⟩
  ·exact h
  ·cases h
 | s::ss,C,h=>by
  show 0≤ckF (ckS C s) ss v
  refine ckF_nonneg ss (ckS C s) ?_
  by_cases e:v=s.1
  ·left
   unfold ckS
   rw [if_pos e]
   omega
  ·rcases h with h | ⟨t,ht,e2⟩
   ·left
    unfold ckS
    rw [if_neg e]
    exact h
   ·rcases List.mem_cons.1 ht with rfl | ht
    ·exact absurd e2.symm e
    ·exact Or.inr ⟨t,ht,e2⟩
theorem ckN_nonneg (C:Nat→Int):∀V,0≤ckN C V
 | 0=>by simp [ckN]
 | V+1=>by have:=ckN_nonneg C V;rw [ckN];omega
theorem ckN_far {C:Nat→Int} {v:Nat} {x:Int}:∀V,V≤v→ckN (fun u=>if u=v then x else C u) V=ckN C V
 | 0,_=>rfl
 | V+1,h=>by
  rw [ckN,ckN,ckN_far V (by omega),if_neg (by omega)]
theorem ckN_put {C:Nat→Int} {v:Nat} {x:Int} (hC:C v=-1):∀V,v<V→ckN (fun u=>if u=v then x else C u) V=max (ckN C V) (x+1)
 | V+1,h=>by
  rw [ckN,ckN]
  by_cases e:V=v
  ·subst e
   have:=ckN_nonneg C V
   rw [if_pos rfl,ckN_far V (Nat.le_refl _),hC]
   omega
  ·rw [if_neg e,ckN_put hC V (by omega)]
   omega
theorem ckN_start:∀V,ckN (fun _=>-1) V=0
 | 0=>rfl
 | V+1=>by rw [ckN,ckN_start V];decide
end Go.Proofs.YthgikffcdgpgiaaGreatDoor

namespace Go.Proofs.YthgikffcdgpgiaaGreatDoor
open Go.RowKit
def noC (C:Nat→Int) (l:List Nat) (c j:Nat):Prop:=∀i (h:i<l.length),i<j→C l[i]≠(c:Int)
theorem noC_zero (C:Nat→Int) (l:List Nat) (c:Nat):noC C l c 0:=fun i _ h=>absurd h (by omega)
def lowC (C:Nat→Int) (l:List Nat) (c:Nat):Prop:=∀c',c' < c→∃u∈l,C u=(c':Int)
def flC (C:Nat→Int) (l:List Nat) (c j:Nat) (b:Bool):Prop:=(b=true→noC C l c j)∧(b=false→∃u∈l,C u=(c:Int))
set_option maxHeartbeats 2000000 in
set_option maxRecDepth 100000 in
theorem smallest_any (ac:Option Addr) (nc cc:Nat) (C:Nat→Int) (a:Option Addr) (n c:Nat) (l:List Nat) (w:World) (hc:Hid (∀u,u<nc→∃b o,ac=some ⟨b,o,none⟩∧w.cell? ⟨b,o+u,none⟩=some (.int .i64 (C u)))) (ha:Hid (∀i (h:i<l.length),∃b o,a=some ⟨b,o,none⟩∧w.cell? ⟨b,o+i,none⟩=some (.int .i64 (l[i]:Int)))) (hx:Hid (n=l.length)) (hn:n≤1048576) (hl:Hid (∀u∈l,u<nc)) :
  Calls Tryz.prog 22 #[.slice ac nc cc,.slice a n c] w fun e w'=>e=.returned (.int .i64 (smN C l:Int))∧w'=w:=by
 go_enter Tryz.func22,Tryz.ntmps22
 go_wp2_with fail
 go_loop [5] (fun i=>∃q:Nat,q≤n∧i=.int .i64 q∧Hid (lowC C l q)) (fun i=>n-(intOf i).toNat)
 case atStart=>exact ⟨0,Nat.zero_le _,rfl,hide (fun c' h=>absurd h (by omega))⟩
 case round =>
  obtain ⟨q,hq,rfl,HQ⟩:=hrel
  by_cases hlt:q<n
  ·go_wp2_with fail
   go_loop [6,7] (fun b i=>∃(bb:Bool) (j:Nat),b=.bool bb∧j≤n∧i=.int .i64 j∧Hid (flC C l q j bb)) (fun _ i=>n-(intOf i).toNat)
   case atStart=>exact ⟨true,0,rfl,Nat.zero_le _,rfl,hide ⟨fun _=>noC_zero _ _ _,fun h=>by cases h⟩⟩
   case round =>
    obtain ⟨bb,j,rfl,hj,rfl,HF⟩:=hrel
    by_cases hlj:j<n
    ·have hj':j<l.length:=by rw [←hx.out];exact hlj
     obtain ⟨b,o,rfl,e0⟩:=ha.out j hj'
     have hmem:=List.getElem_mem hj'
     have hu:=hl.out _ hmem
     obtain ⟨b2,o2,rfl,e1⟩:=hc.out _ hu
     have HY:Hid (C l[j]=(q:Int)→flC C l q (j+1) false):=hide (fun e=>⟨fun h=>(by cases h),fun _=>⟨_,hmem,e⟩⟩)
     have HN:Hid (C l[j]≠(q:Int)→flC C l q (j+1) bb):=hide (fun e=>⟨fun h i hi h2=>by
      by_cases e2:i=j
      ·subst e2;exact e
      ·exact HF.out.1 h i hi (by omega),HF.out.2⟩)
     generalize l[j]=u at *
     generalize C u=y at *
     have hji:(j:Int)<(n:Int):=by omega
     have hui:(u:Int)<(nc:Int):=by omega
     clear hmem HF
     by_cases he:y=(q:Int)
     ·subst he
      go_wp2_with fail
      exact ⟨⟨false,j+1,rfl,by omega,by go_num,hide (HY.out rfl)⟩,by simp [intOf];omega⟩
     ·have he1:(y==(q:Int))=false:=by rw [beq_eq_false_iff_ne];exact he
      go_wp2_with fail
      exact ⟨⟨bb,j+1,rfl,by omega,by go_num,hide (HN.out he)⟩,by simp [intOf];omega⟩
    ·have hjn:j=n:=by omega
     subst hjn
     cases bb with
     | true =>
      have HS:Hid (smN C l=q):=hide (smN_eq ⟨fun u hu e=>by
       obtain ⟨i,hi,rfl⟩:=List.getElem_of_mem hu
       exact HF.out.1 rfl i hi (by rw [hx.out];exact hi) e,HQ.out⟩)
      go_wp2_with fail
      go_ret
      exact ⟨by rw [HS.out];rfl,rfl⟩
     | false =>
      have HS:Hid (lowC C l (q+1)):=hide (fun c' h=>by
       by_cases e:c'=q
       ·subst e;exact HF.out.2 rfl
       ·exact HQ.out c' (by omega))
      go_wp2_with fail
      exact ⟨⟨q+1,by omega,by go_num,HS⟩,by simp [intOf];omega⟩
  ·have hqn:q=n:=by omega
   subst hqn
   have HS:Hid (smN C l=q):=hide (by
    have h:=sm_full (C:=C) (l:=l) (by rw [←hx.out];exact HQ.out)
    rw [hx.out]
    exact smN_eq h)
   go_wp2_with fail
   go_ret
   exact ⟨by rw [HS.out];rfl,rfl⟩
end Go.Proofs.YthgikffcdgpgiaaGreatDoor

namespace Go.Proofs.YthgikffcdgpgiaaGreatDoor
open Go.RowKit
def RowsS (w:World) (G n:Nat) (P:Nat→List Int) (U:Nat→Value):Prop :=
 w.rowIs G 62 n U∧(∀i,i<n→w.ownsRow (G+1) 2 1 (U i) (P i).length ((P i).map (Value.int .i64)))∧(∀i j,i<n→j<n→i≠j→(U i).ownBlock=none∨(U i).ownBlock≠(U j).ownBlock)
theorem RowsS.alloc {w:World} {G n:Nat} {P:Nat→List Int} {U:Nat→Value} (h:RowsS w G n P U) (o:Obj):RowsS (w.alloc o) G n P U:=⟨h.1.alloc o,fun i hi=>(h.2.1 i hi).alloc o,h.2.2⟩
theorem RowsS.below {w w':World} {G n:Nat} {P:Nat→List Int} {U:Nat→Value} (h:RowsS w G n P U) (k:Below w.heap.size w w'):RowsS w' G n P U:=by
 refine ⟨h.1.of_block (k.block _ h.1.lt),fun i hi=>?_,h.2.2⟩
 refine (h.2.1 i hi).kept (row:=none) ⟨k.os,k.tape,k.output,k.size,fun b hb _=>k.block b hb⟩ ?_
 cases (U i).ownBlock<;>simp
theorem RowsS.congr {w:World} {G n:Nat} {P P':Nat→List Int} {U:Nat→Value} (h:RowsS w G n P U) (e:∀i,i<n→P i=P' i):RowsS w G n P' U :=
 ⟨h.1,fun i hi=>by rw [←e i hi];exact h.2.1 i hi,h.2.2⟩
theorem RowsS.step {w w1:World} {G n:Nat} {P:Nat→List Int} {U:Nat→Value} (h:RowsS w G n P U) {t:Nat} (ht:t<n) (x:Int) (v':Value) (hg:w.grownBy w1 (U t).ownBlock)
  (ho:w1.ownsRow (G+1) 2 1 v' ((P t).length+1) ((P t).map (Value.int .i64)++[.int .i64 x])) (hat:v'.ownBlock=(U t).ownBlock∨v'.ownBlock=some w.heap.size) :
  RowsS (w1.setCell ⟨G,t,none⟩ v') G n (fun i=>if i=t then P t++[x] else P i) (fun i=>if i=t then v' else U i):=by
 have hr:w1.rowIs G 62 n U:=h.1.of_block (hg.block _ h.1.lt (fun e=>by have:=((h.2.1 t ht).lt _ e.symm).1;omega))
 refine ⟨hr.set t v',fun i hi=>?_,fun i j hi hj hij=>?_⟩
 ·refine ownsRow_setCell_below ?_ (by dsimp only;omega) _
  by_cases e:i=t
  ·subst e
   simp only [if_true,List.length_append,List.length_cons,List.length_nil,List.map_append,List.map_cons,List.map_nil]
   exact ho
  ·simp only [e,if_false]
   exact (h.2.1 i hi).kept hg (h.2.2 i t hi ht e)
 ·have fresh:∀m,m<n→(U m).ownBlock=none∨(U m).ownBlock≠some w.heap.size:=fun m hm=>by
   by_cases e:(U m).ownBlock=some w.heap.size
   ·have:=((h.2.1 m hm).lt _ e).2;omega
   ·exact Or.inr e
  by_cases e1:i=t
  ·subst e1
   have e2:¬j=i:=fun e=>hij e.symm
   simp only [if_true,e2,if_false]
   rcases hat with q | q
   ·rw [q];exact h.2.2 i j hi hj hij
   ·right
    rw [q]
    intro hh
    rcases fresh j hj with f | f
    ·rw [f] at hh;cases hh
    ·exact f hh.symm
  ·simp only [e1,if_false]
   by_cases e2:j=t
   ·subst e2
    simp only [if_true]
    rcases hat with q | q
    ·rw [q];exact h.2.2 i j hi hj hij
    ·rw [q];exact fresh i hi
   ·simp only [e2,if_false]
    exact h.2.2 i j hi hj hij
theorem RowsS.ints {w:World} {G n:Nat} {P:Nat→List Int} {U:Nat→Value} (h:RowsS w G n P U):IntssAt w G w.heap.size (some ⟨G,0,none⟩) ((List.range n).map P):=fun i hi=>by
 simp only [List.length_map,List.length_range] at hi
 obtain ⟨a,c,hv,ha⟩:=ints_owned (h.2.1 i hi)
 refine ⟨G,0,rfl,⟨Nat.le_refl _,h.1.lt⟩,a,c,?_,?_⟩
 ·simp only [List.getElem_map,List.getElem_range,Nat.zero_add]
  rw [h.1.cell hi,hv]
 ·simp only [List.getElem_map,List.getElem_range]
  exact ha.mono (by omega) (Nat.le_refl _)
theorem RowsS.born (w:World) (n:Nat):RowsS (w.alloc (.cells (madeCells #[.slice none 0 0] n) 62)) w.heap.size n (fun _=>[]) (fun _=>.slice none 0 0) :=
 ⟨World.rowIs_made _ _ _ _,fun _ _=>World.ownsRow_nil _ _ _ _,fun _ _ _ _ _=>Or.inl rfl⟩
variable {tg : Nat → List Nat}
open Classical in
noncomputable def dmTo (tg:Nat→List Nat) (k b:Nat):List Int:=natI ((List.range k).filter fun a=>decide (Dom tg a b))
open Classical in
theorem dmTo_succ (k b:Nat):dmTo tg (k+1) b=dmTo tg k b++(if Dom tg k b then [(k:Int)] else []):=by
 unfold dmTo
 rw [List.range_succ,List.filter_append,List.filter_cons,List.filter_nil]
 by_cases h:Dom tg k b
 ·rw [if_pos (by simpa using h),if_pos h];simp [natI]
 ·rw [if_neg (by simpa using h),if_neg h];simp [natI]
theorem dmTo_len (k b:Nat):(dmTo tg k b).length≤k:=by
 unfold dmTo
 rw [natI_len]
 exact Nat.le_trans (List.length_filter_le _ _) (by simp)
theorem dmTo_skip {k:Nat} (h:¬Re tg k) (b:Nat):dmTo tg (k+1) b=dmTo tg k b:=by
 rw [dmTo_succ,if_neg (fun d=>h d.ra),List.append_nil]
noncomputable def dmMid (tg:Nat→List Nat) (F Fa:List Nat) (k i b:Nat):List Int:=dmTo tg k b++(if b∈F.take i∧b ∉ Fa then [(k:Int)] else [])
theorem dmMid_zero (F Fa:List Nat) (k b:Nat):dmMid tg F Fa k 0 b=dmTo tg k b:=by
 unfold dmMid
 rw [if_neg (by simp),List.append_nil]
theorem dmMid_len (F Fa:List Nat) (k i b:Nat):(dmMid tg F Fa k i b).length≤k+1:=by
 unfold dmMid
 have:=dmTo_len (tg:=tg) k b
 rw [List.length_append]
 split<;>simp<;>omega
theorem take_mem {F:List Nat} {i b:Nat} (hi:i<F.length):b∈F.take (i+1)↔b∈F.take i∨b=F[i]:=by
 rw [List.take_succ_eq_append_getElem hi,List.mem_append,List.mem_singleton]
theorem dmMid_in {F Fa:List Nat} {k i:Nat} (hi:i<F.length) (h:F[i]∈Fa) (b:Nat):dmMid tg F Fa k (i+1) b=dmMid tg F Fa k i b:=by
 unfold dmMid
 by_cases e:b=F[i]
 ·rw [if_neg (fun q=>q.2 (by rw [e];exact h)),if_neg (fun q=>q.2 (by rw [e];exact h))]
 ·by_cases q:b∈F.take i∧b ∉ Fa
  ·rw [if_pos ⟨(take_mem hi).2 (Or.inl q.1),q.2⟩,if_pos q]
  ·rw [if_neg (fun r=>q ⟨((take_mem hi).1 r.1).resolve_right e,r.2⟩),if_neg q]
theorem dmMid_out {F Fa:List Nat} {k i:Nat} (hn:F.Nodup) (hi:i<F.length) (h:F[i] ∉ Fa) (b:Nat):dmMid tg F Fa k (i+1) b=if b=F[i] then dmMid tg F Fa k i F[i]++[(k:Int)] else dmMid tg F Fa k i b:=by
 have hnt:F[i] ∉ F.take i:=fun q=>by
  have e:F=F.take i++F.drop i:=(List.take_append_drop i F).symm
  have hd:F[i]∈F.drop i:=by rw [List.drop_eq_getElem_cons hi];exact List.mem_cons_self
  rw [e,List.nodup_append] at hn
  exact hn.2.2 _ q _ hd rfl
 by_cases e:b=F[i]
 ·rw [if_pos e,e]
  unfold dmMid
  rw [if_pos ⟨(take_mem hi).2 (Or.inr rfl),h⟩,if_neg (fun q=>hnt q.1),List.append_nil]
 ·rw [if_neg e]
  unfold dmMid
  by_cases q:b∈F.take i∧b ∉ Fa
  ·rw [if_pos ⟨(take_mem hi).2 (Or.inl q.1),q.2⟩,if_pos q]
  ·rw [if_neg (fun r=>q ⟨((take_mem hi).1 r.1).resolve_right e,r.2⟩),if_neg q]
theorem dmMid_done {F Fa:List Nat} {k:Nat} (hF:∀x,x∈F↔Re tg x) (hFa:∀x,x∈Fa↔Av tg k x) (hk:Re tg k) {i:Nat} (hi:F.length≤i) (b:Nat):dmMid tg F Fa k i b=dmTo tg (k+1) b:=by
 rw [dmTo_succ]
 unfold dmMid
 rw [List.take_of_length_le hi]
 by_cases h:Dom tg k b
 ·rw [if_pos ⟨(hF b).2 h.rb,fun q=>h.no ((hFa b).1 q)⟩,if_pos h]
 ·rw [if_neg (fun q=>h ⟨hk,(hF b).1 q.1,fun r=>q.2 ((hFa b).2 r)⟩),if_neg h]
end Go.Proofs.YthgikffcdgpgiaaGreatDoor

namespace Go.Proofs.YthgikffcdgpgiaaGreatDoor
open Go.RowKit
theorem step_append_r {P:Program} {ops:Array Oper} {w:World} {o:Oper} {a:Act} {K:Act→World→Prop} {Q:Exit→Act→World→Prop} {E:Prop} (hgd:o.guard=none) (s x:Operand) (t:TypeId)
  (ho:o.op=.call { callee:=.builtin .append,args:=#[s,x],argTypes:=#[t,t] })
  (base:Nat) (e:TypeId) (i:TypeInfo) (z:Value) (size bytes:Nat) (ht:P.underlying t=some (.slice e)) (hi:P.info? e=some i) (hz:i.zero=some z)
  (hsize:i.size=size) (hby:i.bytes=bytes) (hzs:z.cells.size=size) (hsz:0<size)
  (v:Value) (n:Nat) (xs:List Value) (hs:a.eval s=v) (hown:w.ownsRow base e size v n xs)
  (ad:Addr) (m c:Nat) (news:List Value) (hx:a.eval x=.slice (some ad) m c) (hl:news.length=m*size) (hnews:∀j u,news[j]?=some u→w.cell? (ad.add j)=some u) (h1:∀u∈news,u.oneCell'=true)
  (h63:n+m≤maxLen) (hbytes:(n+m)*bytes≤140737488355328) (hbase:base≤w.heap.size)
  (h:∀v' w',w'.ownsRow base e size v' (n+m) (xs++news)→w.grownBy w' v.ownBlock→(v'=.slice none 0 0↔v=.slice none 0 0∧m=0)→(v'.ownBlock=v.ownBlock∨v'.ownBlock=some w.heap.size)→K (a.put o.dst v') w') :
  if Region.wanted o (yielded ops a.tmps)=true then Oper.wp P o a w K Q else E:=by
 have hw:Region.wanted o (yielded ops a.tmps)=true:=by simp [Region.wanted,hgd]
 rw [if_pos hw]
 obtain ⟨v',w',hr,h2,h3,h4,h5⟩:=run_append_own_at (P:=P) w base t o.type e i z size bytes ht hi hz hsize hby hzs hsz v n xs hown ad m c news hl hnews h1 h63 hbytes hbase
 unfold Oper.wp execOp
 simp only [ho,resolve,invoke,builtin,Sem.run_bind,Sem.run_pure,Result.andThen_ok,List.map_toArray,List.map_cons,List.map_nil,hs,hx,hr]
 exact h v' w' h2 h3 h4 h5
theorem Tryz.infoSetI:(Tryz.prog.info? 62).map (fun i=>(i.zero,i.size,i.bytes))=some (some (.agg #[.slice none 0 0]),1,24):=by kernel_rfl
structure FwI (w6 wr:World) (F:Nat) (x2 x3:Value) (U V:Nat→Value) (b1:Nat) (p1:Option Addr) (c1 b2:Nat) (p2:Option Addr) (c2:Nat):Prop where
 e0:wr.cell? ⟨F,0,none⟩=some (.slice p1 b1 c1)
 e1:wr.cell? ⟨F,1,none⟩=some (.slice p2 b2 c2)
 e2:wr.cell? ⟨F,2,none⟩=some x2
 e3:wr.cell? ⟨F,3,none⟩=some x3
 thaw:∀q,wr.frozen? ⟨F,q,none⟩=false
 bel:Below F w6 wr
 lt:F<wr.heap.size
 le:F=w6.heap.size
 o1:wr.ownsRow (F+1) 62 1 (.slice p1 b1 c1) b1 ((List.range b1).map U)
 o2:wr.ownsRow (F+1) 4 1 (.slice p2 b2 c2) b2 ((List.range b2).map V)
 dj:(Value.slice p1 b1 c1).ownBlock=none∨(Value.slice p1 b1 c1).ownBlock≠(Value.slice p2 b2 c2).ownBlock
structure FlowOwn (w:World) (B n:Nat) (U:Nat→Value) (Pr:Nat→List Int) (V:Nat→Bool) (P:List Int) (Od:List Nat) (g1 c1 g2 c2 g3 g4 c4:Nat):Prop where
 len:P.length=n
 o1:w.ownsRow B 62 1 (.slice (some ⟨g1,0,none⟩) n c1) n ((List.range n).map U)
 o2:w.ownsRow B 4 1 (.slice (some ⟨g2,0,none⟩) n c2) n ((List.range n).map fun z=>.bool (V z))
 o3:w.rowIs g3 2 n (fun z=>.int .i64 (P.getD z 0))
 o4:w.ownsRow B 2 1 (.slice (some ⟨g4,0,none⟩) Od.length c4) Od.length (natV Od)
 rows:∀i,i<n→w.ownsRow B 2 1 (U i) (Pr i).length ((Pr i).map (Value.int .i64))
 rdj:∀i j,i<n→j<n→i≠j→(U i).ownBlock=none∨(U i).ownBlock≠(U j).ownBlock
 gs:B≤g3∧g1≠g2∧g1≠g3∧g1≠g4∧g2≠g3∧g2≠g4∧g3≠g4
 out:∀i,i<n→∀k,(U i).ownBlock=some k→k≠g1∧k≠g2∧k≠g3∧k≠g4
theorem own_mv {w w':World} {B B' t s n:Nat} {v:Value} {cs:List Value} (h:w.ownsRow B t s v n cs) (hB:B'≤B) (hk:∀k,v.ownBlock=some k→w'.heap[k]?=w.heap[k]?):w'.ownsRow B' t s v n cs:=by
 obtain ⟨h1,h2 | ⟨g,cap,cur,e,hg,hh,hr⟩⟩:=h
 ·exact ⟨h1,Or.inl h2⟩
 ·exact ⟨h1,Or.inr ⟨g,cap,cur,e,Nat.le_trans hB hg,(hk g (by rw [e];rfl)).trans hh,hr⟩⟩
theorem box4 {w:World} {R F t:Nat} {f:Nat→Value} (hR:w.rowIs R t 4 f) (hne:R≠F) (x z0 z1 z2 z3:Value) (wE:World) (e:wE=((((w.setCell ⟨F,3,none⟩ x).setCell ⟨R,0,none⟩ z0).setCell ⟨R,1,none⟩ z1).setCell ⟨R,2,none⟩ z2).setCell ⟨R,3,none⟩ z3) :
  wE.cell? ⟨R,0,none⟩=some z0∧wE.cell? ⟨R,1,none⟩=some z1∧wE.cell? ⟨R,2,none⟩=some z2∧wE.cell? ⟨R,3,none⟩=some z3∧(∀k,k≠F→k≠R→wE.heap[k]?=w.heap[k]?)∧wE.heap.size=w.heap.size∧wE.os=w.os∧wE.tape=w.tape∧wE.output=w.output:=by
 have h:=((((hR.setOther (a:=⟨F,3,none⟩) hne x).set 0 z0).set 1 z1).set 2 z2).set 3 z3
 rw [←e] at h
 refine ⟨?_,?_,?_,?_,fun k h1 h2=>?_,?_,?_,?_,?_⟩
 ·rw [h.cell (by decide)];simp
 ·rw [h.cell (by decide)];simp
 ·rw [h.cell (by decide)];simp
 ·rw [h.cell (by decide)];simp
 ·rw [e,Below.heap_setCell _ _ _ _ h2,Below.heap_setCell _ _ _ _ h2,Below.heap_setCell _ _ _ _ h2,Below.heap_setCell _ _ _ _ h2,Below.heap_setCell _ _ _ _ h1]
 ·rw [e];simp [World.setCell]
 ·rw [e];simp [World.setCell]
 ·rw [e];simp [World.setCell]
 ·rw [e];simp [World.setCell]
section
variable {w6 wr wr' : World} {F : Nat} {x2 x3 : Value} {U V : Nat → Value} {b1 : Nat} {p1 : Option Addr} {c1 b2 : Nat} {p2 : Option Addr} {c2 : Nat}
theorem FwI.below (h:FwI w6 wr F x2 x3 U V b1 p1 c1 b2 p2 c2) (k:Below wr.heap.size wr wr'):FwI w6 wr' F x2 x3 U V b1 p1 c1 b2 p2 c2:=by
 have hb:=k.block F h.lt
 have ce:∀q,wr'.cell? ⟨F,q,none⟩=wr.cell? ⟨F,q,none⟩:=fun q=>World.cell?_of_block hb
 have own:∀{t v n cs},wr.ownsRow (F+1) t 1 v n cs→wr'.ownsRow (F+1) t 1 v n cs:=fun {t v n cs} ho=>by
  refine ho.kept (row:=none) ⟨k.os,k.tape,k.output,k.size,fun j hj _=>k.block j hj⟩ ?_
  cases v.ownBlock with
  | none=>exact Or.inl rfl
  | some j=>exact Or.inr (by simp)
 exact ⟨(ce 0).trans h.e0,(ce 1).trans h.e1,(ce 2).trans h.e2,(ce 3).trans h.e3,fun q=>(World.frozen?_of_block hb).trans (h.thaw q),h.bel.trans (k.mono (Nat.le_of_lt h.lt)),Nat.lt_of_lt_of_le h.lt k.size,h.le,own h.o1,own h.o2,h.dj⟩
theorem fresh_own {w:World} {B t s n:Nat} {v:Value} {cs:List Value} (h:w.ownsRow B t s v n cs) {k:Nat} (hk:w.heap.size≤k):v.ownBlock=none∨v.ownBlock≠some k:=by
 by_cases e:v.ownBlock=some k
 ·have:=(h.lt k e).2;omega
 ·exact Or.inr e
theorem dj_symm {a b:Option Nat} (h:a=none∨a≠b):b=none∨b≠a:=by
 rcases h with h | h
 ·subst h
  cases b with
  | none=>exact Or.inl rfl
  | some k=>exact Or.inr (by simp)
 ·exact Or.inr (fun e=>h e.symm)
theorem own_drew {w:World} {B t s n:Nat} {v:Value} {cs:List Value} (h:w.ownsRow B t s v n cs):w.drew.ownsRow B t s v n cs:=h
theorem range_snoc {α:Type} (f:Nat→α) (b:Nat):(List.range (b+1)).map f=(List.range b).map f++[f b]:=by rw [List.range_succ,List.map_append];rfl
theorem FwI.app1 {w8:World} {ob:Obj} {p1':Option Addr} {c1':Nat} (h:FwI w6 wr F x2 x3 U V b1 p1 c1 b2 p2 c2) (hg:(wr.alloc ob).grownBy w8 (Value.slice p1 b1 c1).ownBlock) (ho:w8.ownsRow (F+1) 62 1 (.slice p1' (b1+1) c1') (b1+1) ((List.range b1).map U++[U b1])) (hat:(Value.slice p1' (b1+1) c1').ownBlock=(Value.slice p1 b1 c1).ownBlock∨(Value.slice p1' (b1+1) c1').ownBlock=some (wr.heap.size+1)) :
  FwI w6 (w8.setCell ⟨F,0,none⟩ (.slice p1' (b1+1) c1')) F x2 x3 U V (b1+1) p1' c1' b2 p2 c2∧(∀q,w8.cell? ⟨F,q,none⟩=wr.cell? ⟨F,q,none⟩)∧(∀q,w8.frozen? ⟨F,q,none⟩=false)∧Below F wr w8:=by
 have hlt:=h.lt
 have ha:∀k,k<wr.heap.size→(wr.alloc ob).heap[k]?=wr.heap[k]?:=fun k hk=>Below.heap_alloc _ _ _ hk
 have hsz:(wr.alloc ob).heap.size=wr.heap.size+1:=World.size_alloc _ _
 have hgs:=hg.size
 have hnv:∀k,k≤F→some k≠(Value.slice p1 b1 c1).ownBlock:=fun k hk e=>by have:=(h.o1.lt k e.symm).1;omega
 have hb:w8.heap[F]?=wr.heap[F]?:=(hg.block F (by omega) (hnv _ (Nat.le_refl _))).trans (ha _ hlt)
 have ce:∀q,w8.cell? ⟨F,q,none⟩=wr.cell? ⟨F,q,none⟩:=fun q=>World.cell?_of_block hb
 have fe:∀q,w8.frozen? ⟨F,q,none⟩=false:=fun q=>(World.frozen?_of_block hb).trans (h.thaw q)
 have hbl:Below F wr w8:=⟨hg.os,hg.tape,hg.output,by omega,fun k hk=>(hg.block k (by omega) (hnv k (by omega))).trans (ha k (by omega))⟩
 refine ⟨⟨World.cell?_setCell_same _ _ _ ((ce 0).trans h.e0),(set_other _ _ (by omega) _).trans ((ce 1).trans h.e1),(set_other _ _ (by omega) _).trans ((ce 2).trans h.e2),(set_other _ _ (by omega) _).trans ((ce 3).trans h.e3),fun q=>by rw [World.frozen?_setCell];exact fe q,(h.bel.trans hbl).setCell (p:=⟨F,0,none⟩) (Nat.le_refl _) _,by rw [size_setCell];omega,h.le,?_,?_,?_⟩,ce,fe,hbl⟩
 ·rw [range_snoc]
  exact ownsRow_setCell_below ho (by show F<F+1;omega) _
 ·exact ownsRow_setCell_below ((h.o2.alloc ob).kept hg (dj_symm h.dj)) (by show F<F+1;omega) _
 ·rcases hat with e | e
  ·rw [e];exact h.dj
  ·rcases fresh_own h.o2 (k:=wr.heap.size+1) (by omega) with f | f
   ·exact Or.inr (by rw [e,f];simp)
   ·exact Or.inr (by rw [e];exact fun k=>f k.symm)
theorem FwI.app2 {w8:World} {ob:Obj} {p2':Option Addr} {c2':Nat} (h:FwI w6 wr F x2 x3 U V b1 p1 c1 b2 p2 c2) (hg:(wr.alloc ob).grownBy w8 (Value.slice p2 b2 c2).ownBlock) (ho:w8.ownsRow (F+1) 4 1 (.slice p2' (b2+1) c2') (b2+1) ((List.range b2).map V++[V b2])) (hat:(Value.slice p2' (b2+1) c2').ownBlock=(Value.slice p2 b2 c2).ownBlock∨(Value.slice p2' (b2+1) c2').ownBlock=some (wr.heap.size+1)) :
  FwI w6 (w8.setCell ⟨F,1,none⟩ (.slice p2' (b2+1) c2')) F x2 x3 U V b1 p1 c1 (b2+1) p2' c2'∧(∀q,w8.cell? ⟨F,q,none⟩=wr.cell? ⟨F,q,none⟩)∧(∀q,w8.frozen? ⟨F,q,none⟩=false)∧Below F wr w8:=by
 have hlt:=h.lt
 have ha:∀k,k<wr.heap.size→(wr.alloc ob).heap[k]?=wr.heap[k]?:=fun k hk=>Below.heap_alloc _ _ _ hk
 have hsz:(wr.alloc ob).heap.size=wr.heap.size+1:=World.size_alloc _ _
 have hgs:=hg.size
 have hnv:∀k,k≤F→some k≠(Value.slice p2 b2 c2).ownBlock:=fun k hk e=>by have:=(h.o2.lt k e.symm).1;omega
 have hb:w8.heap[F]?=wr.heap[F]?:=(hg.block F (by omega) (hnv _ (Nat.le_refl _))).trans (ha _ hlt)
 have ce:∀q,w8.cell? ⟨F,q,none⟩=wr.cell? ⟨F,q,none⟩:=fun q=>World.cell?_of_block hb
 have fe:∀q,w8.frozen? ⟨F,q,none⟩=false:=fun q=>(World.frozen?_of_block hb).trans (h.thaw q)
 have hbl:Below F wr w8:=⟨hg.os,hg.tape,hg.output,by omega,fun k hk=>(hg.block k (by omega) (hnv k (by omega))).trans (ha k (by omega))⟩
 refine ⟨⟨(set_other _ _ (by omega) _).trans ((ce 0).trans h.e0),World.cell?_setCell_same _ _ _ ((ce 1).trans h.e1),(set_other _ _ (by omega) _).trans ((ce 2).trans h.e2),(set_other _ _ (by omega) _).trans ((ce 3).trans h.e3),fun q=>by rw [World.frozen?_setCell];exact fe q,(h.bel.trans hbl).setCell (p:=⟨F,1,none⟩) (Nat.le_refl _) _,by rw [size_setCell];omega,h.le,?_,?_,?_⟩,ce,fe,hbl⟩
 ·exact ownsRow_setCell_below ((h.o1.alloc ob).kept hg h.dj) (by show F<F+1;omega) _
 ·rw [range_snoc]
  exact ownsRow_setCell_below ho (by show F<F+1;omega) _
 ·rcases hat with e | e
  ·rw [e];exact h.dj
  ·rcases fresh_own h.o1 (k:=wr.heap.size+1) (by omega) with f | f
   ·exact Or.inl f
   ·exact Or.inr (by rw [e];exact f)
end
end Go.Proofs.YthgikffcdgpgiaaGreatDoor
