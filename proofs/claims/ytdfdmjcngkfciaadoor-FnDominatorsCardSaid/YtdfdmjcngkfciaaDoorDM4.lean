import Derived.Test.YtdfdmjcngkfciaaDoorID1
import Derived.Test.YtdfdmjcngkfciaaDoorW2
import Derived.Test.YtdfdmjcngkfciaaDoorSP1
import Derived.RangeFuncNested
import Derived.RangeFuncBound
import Derived.RangeFuncCalls
import Derived.RangeFuncLeaves
import Derived.Shelf.Abstract
import Derived.Shelf.RegionOpen
import Derived.WalkKit
import Derived.OwnWalkIn
import Derived.TacticsInMore
import Derived.LoopNIn
import Derived.LoopIn
import Derived.Test.YtdfdmjcngkfciaaDoorDM1
import Derived.Test.YtdfdmjcngkfciaaDoorW7
namespace Go.Proofs.YtdfdmjcngkfciaaDoor
variable {tg : Nat → List Nat}
open Classical in
noncomputable def domL (tg:Nat→List Nat) (n b:Nat):List Nat:=(List.range n).filter fun a=>decide (Dom tg a b)
theorem domL_mem {n a b:Nat}:a∈domL tg n b↔a<n∧Dom tg a b:=by
 unfold domL
 simp
theorem domL_nd (n b:Nat):(domL tg n b).Nodup:=List.nodup_range.sublist List.filter_sublist
theorem domL_less {n a c:Nat} (ha:a<n) (h:Dom tg c a) (hne:c≠a):(domL tg n c).length<(domL tg n a).length:=by
 have h1:a ∉ domL tg n c:=fun k=>hne (dom_anti h (domL_mem.1 k).2)
 have h2:(a::domL tg n c).Nodup:=List.nodup_cons.2 ⟨h1,domL_nd n c⟩
 have h3:(a::domL tg n c) ⊆ domL tg n a:=fun x hx=>by
  rcases List.mem_cons.1 hx with rfl | hx
  ·exact domL_mem.2 ⟨ha,dom_self h.rb⟩
  ·obtain ⟨k1,k2⟩:=domL_mem.1 hx
   exact domL_mem.2 ⟨k1,dom_trans k2 h⟩
 have:=List.Nodup.length_le_of_subset h2 h3
 simp only [List.length_cons] at this
 omega
theorem domss_get {n b:Nat} (hb:b<n):((List.range n).map (domL tg n)).getD b []=domL tg n b:=by simp [hb]
theorem model_some {n a b:Nat} (hn:∀x,Re tg x→x<n) (h:Idm tg a b):idomP ((List.range n).map (domL tg n)) b=(a:Int):=by
 have hbn:=hn b h.dom.rb
 have han:=hn a h.dom.ra
 have key:bestP (fun a=>(((List.range n).map (domL tg n)).getD a []).length) b (domL tg n b)=some a:=by
  refine best_some (domL_mem.2 ⟨han,h.dom⟩) h.ne (fun c hc hcb hca=>?_)
  obtain ⟨k1,k2⟩:=domL_mem.1 hc
  rw [domss_get k1,domss_get han]
  exact domL_less han (h.near c k2 hcb) hca
 unfold idomP
 rw [domss_get hbn,key]
 rfl
theorem model_none {n b:Nat} (hb:b<n) (h:∀c,Dom tg c b→c=b):idomP ((List.range n).map (domL tg n)) b=-1:=by
 unfold idomP
 rw [domss_get hb,best_none (fun a ha=>h a (domL_mem.1 ha).2)]
 rfl
end Go.Proofs.YtdfdmjcngkfciaaDoor

namespace Go.Proofs.YtdfdmjcngkfciaaDoor
variable {tg : Nat → List Nat}
structure IsIdm (tg:Nat→List Nat) (n:Nat) (P:List Int):Prop where
 len:P.length=n
 get:∀b,b<n→(∃a:Nat,Idm tg a b∧P.getD b 0=(a:Int))∨((∀c,Dom tg c b→c=b)∧P.getD b 0=-1)
open Classical in
theorem isIdm_model {n:Nat} (hn:∀x,Re tg x→x<n) (hex:∀b,b<n→(∃a,Idm tg a b)∨∀c,Dom tg c b→c=b):IsIdm tg n ((List.range n).map (idomP ((List.range n).map (domL tg n)))):=by
 refine ⟨by simp,fun b hb=>?_⟩
 have e:((List.range n).map (idomP ((List.range n).map (domL tg n)))).getD b 0=idomP ((List.range n).map (domL tg n)) b:=by simp [hb]
 rw [e]
 rcases hex b hb with ⟨a,ha⟩ | h
 ·exact Or.inl ⟨a,ha,model_some hn ha⟩
 ·exact Or.inr ⟨h,model_none hb h⟩
def chP (P:List Int) (b:Nat):List Nat:=(List.range P.length).filter fun c=>P.getD c 0==(b:Int)
def preP (P:List Int):Nat→Nat→List Nat
 | 0,b=>[b]
 | m+1,b=>b::(chP P b).flatMap (preP P m)
theorem chP_mem {P:List Int} {b c:Nat}:c∈chP P b↔c<P.length∧P.getD c 0=(b:Int):=by
 unfold chP
 rw [List.mem_filter,List.mem_range,beq_iff_eq]
theorem ch_idm {n:Nat} {P:List Int} (h:IsIdm tg n P) {b c:Nat} (hc:c∈chP P b):Idm tg b c:=by
 obtain ⟨h1,h2⟩:=chP_mem.1 hc
 rcases h.get c (by rw [←h.len];exact h1) with ⟨a,ha,ea⟩ | ⟨_,ea⟩
 ·rw [ea] at h2
  have:a=b:=by omega
  rw [←this];exact ha
 ·rw [ea] at h2;omega
theorem ch_len {P:List Int} {b:Nat}:(chP P b).length≤P.length:=Nat.le_trans (List.length_filter_le _ _) (by simp)
theorem pre_dom {n:Nat} {P:List Int} (h:IsIdm tg n P):∀(m b x:Nat),Re tg b→x∈preP P m b→Dom tg b x
 | 0,b,x,hb,hx=>by
  have:x=b:=by simpa [preP] using hx
  rw [this];exact dom_self hb
 | m+1,b,x,hb,hx=>by
  rw [preP,List.mem_cons] at hx
  rcases hx with rfl | hx
  ·exact dom_self hb
  ·obtain ⟨c,hc,hx⟩:=List.mem_flatMap.1 hx
   have hi:=ch_idm h hc
   exact dom_trans hi.dom (pre_dom h m c x hi.dom.rb hx)
theorem pre_nd {n:Nat} {P:List Int} (h:IsIdm tg n P):∀(m b:Nat),Re tg b→(preP P m b).Nodup
 | 0,b,_=>by simp [preP]
 | m+1,b,hb=>by
  rw [preP,List.nodup_cons]
  refine ⟨fun hx=>?_,?_⟩
  ·obtain ⟨c,hc,hx⟩:=List.mem_flatMap.1 hx
   have hi:=ch_idm h hc
   exact hi.ne (dom_anti hi.dom (pre_dom h m c b hi.dom.rb hx))
  ·unfold List.Nodup
   rw [List.pairwise_flatMap]
   refine ⟨fun c hc=>pre_nd h m c (ch_idm h hc).dom.rb,?_⟩
   have hnd:(chP P b).Nodup:=List.nodup_range.sublist List.filter_sublist
   refine List.Pairwise.imp_of_mem (fun {c d} hc hd hne x hx y hy e=>?_) hnd
   subst e
   have ic:=ch_idm h hc
   have id:=ch_idm h hd
   have dc:=pre_dom h m c x ic.dom.rb hx
   have dd:=pre_dom h m d x id.dom.rb hy
   rcases dom_chain dc dd with k | k
   ·exact ic.ne (dom_anti ic.dom (id.near c k hne))
   ·exact id.ne (dom_anti id.dom (ic.near d k (fun e=>hne e.symm)))
theorem pre_len {n:Nat} {P:List Int} (h:IsIdm tg n P) (hn:∀x,Re tg x→x<n) (m b:Nat) (hb:Re tg b):(preP P m b).length≤n:=nodup_le (pre_nd h m b hb) (fun x hx=>hn x (pre_dom h m b x hb hx).rb)
theorem dn_less {n:Nat} {P:List Int} (h:IsIdm tg n P) (hn:∀x,Re tg x→x<n) {b c:Nat} (hc:c∈chP P b):(domL tg n b).length<(domL tg n c).length:=by
 have hi:=ch_idm h hc
 exact domL_less (hn c hi.dom.rb) hi.dom hi.ne
theorem dn_le (n b:Nat):(domL tg n b).length≤n:=Nat.le_trans (List.length_filter_le _ _) (by simp)
theorem up_some {n:Nat} {P:List Int} (h:IsIdm tg n P) (hn:∀x,Re tg x→x<n) {b:Nat} (hb:Re tg b) (h0:b≠0):∃c:Nat,P.getD b 0=(c:Int)∧c<n∧Re tg c∧(domL tg n c).length<(domL tg n b).length∧∀a,a≠b→(Dom tg a b↔Dom tg a c):=by
 rcases h.get b (hn b hb) with ⟨c,hc,ec⟩ | ⟨hc,_⟩
 ·exact ⟨c,ec,hn c hc.dom.ra,hc.dom.ra,domL_less (hn b hb) hc.dom hc.ne,fun a hne=>⟨fun k=>hc.near a k hne,fun k=>dom_trans k hc.dom⟩⟩
 ·exact absurd (hc 0 (dom_root hb)) (fun e=>h0 e.symm)
theorem dom_zero {a:Nat} (h:Dom tg a 0):a=0:=Classical.byContradiction (fun e=>h.no (Av.root e))
end Go.Proofs.YtdfdmjcngkfciaaDoor

namespace Go.Proofs.YtdfdmjcngkfciaaDoor
open Go.RowKit
def chTo (P:List Int) (k:Nat) (c:Nat):List Nat:=(List.range k).filter fun b=>P.getD b 0==(c:Int)
theorem chTo_all (P:List Int) (c:Nat):chTo P P.length c=chP P c:=rfl
theorem chTo_len (P:List Int) (k c:Nat):(chTo P k c).length≤k:=Nat.le_trans (List.length_filter_le _ _) (by simp)
theorem chTo_hit {P:List Int} {k t:Nat} (h:P.getD k 0=(t:Int)) (i:Nat):natI (chTo P (k+1) i)=if i=t then natI (chTo P k t)++[(k:Int)] else natI (chTo P k i):=by
 unfold chTo
 rw [List.range_succ,List.filter_append,List.filter_cons,List.filter_nil,h]
 by_cases e:i=t
 ·subst e
  rw [if_pos (by simp),if_pos rfl]
  simp [natI]
 ·rw [if_neg (by simp;omega),if_neg e]
  simp [natI]
theorem chTo_miss {P:List Int} {k:Nat} (h:P.getD k 0<0) (i:Nat):chTo P (k+1) i=chTo P k i:=by
 unfold chTo
 rw [List.range_succ,List.filter_append,List.filter_cons,List.filter_nil,if_neg (by rw [beq_iff_eq];omega),List.append_nil]
theorem natI_len (l:List Nat):(natI l).length=l.length:=by simp [natI]
set_option maxHeartbeats 2000000 in
set_option maxRecDepth 100000 in
theorem childrenOf_any (a:Option Addr) (n c:Nat) (P:List Int) (L B:Nat) (w:World) (ha:Hid (IntsAt w L B a P)) (hx:Hid (n=P.length)) (hn:n≤1000) (hB:B≤w.heap.size) (hP:Hid (∀p∈P,p<n)) :
  Calls Tryd.prog 20 #[.slice a n c] w fun e w'=>∃a' c',e=.returned (.slice a' n c')∧Below w.heap.size w w'∧IntssAt w' w.heap.size w'.heap.size a' ((List.range n).map fun i:Nat=>natI (chP P i)):=by
 obtain ⟨i0,hi0,hz0,hz1,hz2⟩:=info_parts Tryd.info2'
 have hmk:=run_make_row' (P:=Tryd.prog) 47 29 (.slice none 0 0) 24 Tryd.underlying47 Tryd.info45 rfl .i64 .i64 n (by omega) (by omega)
 go_enter Tryd.func20,Tryd.ntmps20
 go_wp2
 go_loopw [11] (fun i wr=>∃k:Nat,k≤n∧i=.int .i64 k∧Below w.heap.size w wr∧Hid (∃U,Rows2 wr w.heap.size n (fun i=>natI (chTo P k i)) U)) (fun i _=>n-(intOf i).toNat)
 case atStart=>exact ⟨0,Nat.zero_le _,rfl,balloc (Below.refl _ _) _,⟨_,Rows2.born w n⟩⟩
 case round =>
  obtain ⟨k,hk,rfl,hw,hrw⟩:=hrel
  by_cases hlt:k<n
  ·have hkx:k<P.length:=by have:=hx.out;omega
   obtain ⟨b,o,rfl,⟨_,hbB⟩,hc⟩:=ha.out k hkx
   have hcw:=(cTr hw (by omega)).trans hc
   have hpl:P[k]<n:=hP.out _ (List.getElem_mem hkx)
   have hpg:P.getD k 0=P[k]:=by simp [hkx]
   have HPG:=hide hpg
   clear hc hpg
   generalize P[k]=p at *
   by_cases hp:0≤p
   ·obtain ⟨t,rfl⟩:=Int.eq_ofNat_of_zero_le hp
    have htn:t<n:=by omega
    obtain ⟨U,hU⟩:=hrw.out
    have hcU:=hU.1.cell htn
    have hfU:=hU.1.frozen t
    have hpl2:(natI (chTo P k t)).length≤k:=by rw [natI_len];exact chTo_len P k t
    have HU:=hide hU
    clear hU hrw
    go_wp2_with (at_builtin;refine wpList_append_own_at _ rfl _ _ 29 rfl (w.heap.size+1) 2 i0 (.int .i64 0) 1 8 Tryd.underlying29 hi0 hz0 hz1 hz2 rfl (by decide) _ _ _ rfl ((HU.out.alloc _).2.1 t htn) ⟨wr.heap.size,0,none⟩ 1 1 [.int .i64 k] rfl rfl ?c1 ?c2 ?c3 ?c4 ?c5 ?_)
    case c1 =>
     intro j u hj
     match j,hj with
     | 0,hj=>simp at hj;subst hj;simp [Addr.add]
    case c2=>intro u hu;simp at hu;subst hu;rfl
    case c3=>unfold maxLen;omega
    case c4=>omega
    case c5=>have:=HU.out.1.lt;simp;omega
    intro v1 w1 hown1 hgrow1 _ hat1
    obtain ⟨av,cv,hv,_⟩:=ints_owned (xs:=natI (chTo P k t)++[(k:Int)]) (by rw [ints_snoc];exact hown1)
    have hst:=hide ((HU.out.alloc (.cells #[.int .i64 k] 2)).step htn k v1 hgrow1 hown1 (by rw [World.size_alloc];exact hat1))
    have hbG:w1.heap[w.heap.size]?=(wr.alloc (.cells #[.int .i64 k] 2)).heap[w.heap.size]?:=grown_block hgrow1 ((HU.out.alloc (.cells #[.int .i64 k] 2)).2.1 t htn) (by omega) (by have:=HU.out.1.lt;simp;omega)
    have hbel:=hide (grown_below (balloc hw (.cells #[.int .i64 k] 2)) hgrow1 ((HU.out.alloc (.cells #[.int .i64 k] 2)).2.1 t htn) (by omega) (by have:=hw.size;simp;omega))
    have hcG:w1.cell? ⟨w.heap.size,t,none⟩=some (U t):=by rw [cell_of hbG];exact ((HU.out.alloc (.cells #[.int .i64 k] 2)).1).cell htn
    have hfG:w1.frozen? ⟨w.heap.size,t,none⟩=false:=by rw [World.frozen?_of_block (w:=wr.alloc (.cells #[.int .i64 k] 2)) (a:=⟨w.heap.size,t,none⟩) hbG];exact ((HU.out.alloc (.cells #[.int .i64 k] 2)).1).frozen t
    have HV:=hide hv
    clear hown1 hgrow1 hat1 hbG hcU hfU
    rw [hv]
    clear hv
    go_wp2
    have hv2:=HV.out
    rw [List.length_append,List.length_cons,List.length_nil,Nat.zero_add] at hv2
    rw [←hv2]
    refine ⟨⟨k+1,by omega,by go_num,hbel.out.setCell (by dsimp only;omega) _,⟨_,(hst.out).congr (fun i _=>?_)⟩⟩,by simp [intOf];omega⟩
    exact (chTo_hit HPG.out i).symm
   ·have hp':p<0:=by omega
    have HM:=hide (fun i=>chTo_miss (P:=P) (k:=k) (by rw [HPG.out];exact hp') i)
    go_wp2
    refine ⟨⟨k+1,by omega,by go_num,hw,?_⟩,by simp [intOf];omega⟩
    obtain ⟨U,hU⟩:=hrw.out
    exact ⟨U,hU.congr (fun i _=>by rw [HM.out])⟩
  ·go_wp2
   go_ret
   obtain ⟨U,hU⟩:=hrw.out
   have e:k=P.length:=by have:=hx.out;omega
   refine ⟨_,_,rfl,hw,?_⟩
   have h:=(hU.congr (P':=fun i:Nat=>natI (chP P i)) (fun i _=>by rw [e,chTo_all])).ints
   exact h.mono (by omega) (Nat.le_refl _)
end Go.Proofs.YtdfdmjcngkfciaaDoor

namespace Go.Proofs.YtdfdmjcngkfciaaDoor
open Go.RowKit
def RowsS (w:World) (G n:Nat) (P:Nat→List Int) (U:Nat→Value):Prop :=
 w.rowIs G 60 n U∧(∀i,i<n→w.ownsRow (G+1) 2 1 (U i) (P i).length ((P i).map (Value.int .i64)))∧(∀i j,i<n→j<n→i≠j→(U i).ownBlock=none∨(U i).ownBlock≠(U j).ownBlock)
theorem RowsS.alloc {w:World} {G n:Nat} {P:Nat→List Int} {U:Nat→Value} (h:RowsS w G n P U) (o:Obj):RowsS (w.alloc o) G n P U:=⟨h.1.alloc o,fun i hi=>(h.2.1 i hi).alloc o,h.2.2⟩
theorem RowsS.below {w w':World} {G n:Nat} {P:Nat→List Int} {U:Nat→Value} (h:RowsS w G n P U) (k:Below w.heap.size w w'):RowsS w' G n P U:=by
 refine ⟨h.1.of_block (k.block _ h.1.lt),fun i hi=>?_,h.2.2⟩
 refine (h.2.1 i hi).kept (row:=none) ⟨k.os,k.tape,k.output,k.size,fun b hb _=>k.block b hb⟩ ?_
 cases (U i).ownBlock<;>simp
theorem RowsS.congr {w:World} {G n:Nat} {P P':Nat→List Int} {U:Nat→Value} (h:RowsS w G n P U) (e:∀i,i<n→P i=P' i):RowsS w G n P' U :=
 ⟨h.1,fun i hi=>by rw [←e i hi];exact h.2.1 i hi,h.2.2⟩
theorem RowsS.step {w w1:World} {G n:Nat} {P:Nat→List Int} {U:Nat→Value} (h:RowsS w G n P U) {t:Nat} (ht:t<n) (x:Int) (v':Value) (hg:w.grownBy w1 (U t).ownBlock)
  (ho:w1.ownsRow (G+1) 2 1 v' ((P t).length+1) ((P t).map (Value.int .i64)++[.int .i64 x])) (hat:v'.ownBlock=(U t).ownBlock∨v'.ownBlock=some w.heap.size) :
  RowsS (w1.setCell ⟨G,t,none⟩ v') G n (fun i=>if i=t then P t++[x] else P i) (fun i=>if i=t then v' else U i):=by
 have hr:w1.rowIs G 60 n U:=h.1.of_block (hg.block _ h.1.lt (fun e=>by have:=((h.2.1 t ht).lt _ e.symm).1;omega))
 refine ⟨hr.set t v',fun i hi=>?_,fun i j hi hj hij=>?_⟩
 ·refine ownsRow_setCell_below ?_ (by dsimp only;omega) _
  by_cases e:i=t
  ·subst e
   simp only [if_true,List.length_append,List.length_cons,List.length_nil,List.map_append,List.map_cons,List.map_nil]
   exact ho
  ·simp only [e,if_false]
   exact (h.2.1 i hi).kept hg (h.2.2 i t hi ht e)
 ·have fresh:∀m,m<n→(U m).ownBlock=none∨(U m).ownBlock≠some w.heap.size:=fun m hm=>by
   by_cases e:(U m).ownBlock=some w.heap.size
   ·have:=((h.2.1 m hm).lt _ e).2;omega
   ·exact Or.inr e
  by_cases e1:i=t
  ·subst e1
   have e2:¬j=i:=fun e=>hij e.symm
   simp only [if_true,e2,if_false]
   rcases hat with q | q
   ·rw [q];exact h.2.2 i j hi hj hij
   ·right
    rw [q]
    intro hh
    rcases fresh j hj with f | f
    ·rw [f] at hh;cases hh
    ·exact f hh.symm
  ·simp only [e1,if_false]
   by_cases e2:j=t
   ·subst e2
    simp only [if_true]
    rcases hat with q | q
    ·rw [q];exact h.2.2 i j hi hj hij
    ·rw [q];exact fresh i hi
   ·simp only [e2,if_false]
    exact h.2.2 i j hi hj hij
theorem RowsS.ints {w:World} {G n:Nat} {P:Nat→List Int} {U:Nat→Value} (h:RowsS w G n P U):IntssAt w G w.heap.size (some ⟨G,0,none⟩) ((List.range n).map P):=fun i hi=>by
 simp only [List.length_map,List.length_range] at hi
 obtain ⟨a,c,hv,ha⟩:=ints_owned (h.2.1 i hi)
 refine ⟨G,0,rfl,⟨Nat.le_refl _,h.1.lt⟩,a,c,?_,?_⟩
 ·simp only [List.getElem_map,List.getElem_range,Nat.zero_add]
  rw [h.1.cell hi,hv]
 ·simp only [List.getElem_map,List.getElem_range]
  exact ha.mono (by omega) (Nat.le_refl _)
theorem RowsS.born (w:World) (n:Nat):RowsS (w.alloc (.cells (madeCells #[.slice none 0 0] n) 60)) w.heap.size n (fun _=>[]) (fun _=>.slice none 0 0) :=
 ⟨World.rowIs_made _ _ _ _,fun _ _=>World.ownsRow_nil _ _ _ _,fun _ _ _ _ _=>Or.inl rfl⟩
variable {tg : Nat → List Nat}
open Classical in
noncomputable def dmTo (tg:Nat→List Nat) (k b:Nat):List Int:=natI ((List.range k).filter fun a=>decide (Dom tg a b))
open Classical in
theorem dmTo_succ (k b:Nat):dmTo tg (k+1) b=dmTo tg k b++(if Dom tg k b then [(k:Int)] else []):=by
 unfold dmTo
 rw [List.range_succ,List.filter_append,List.filter_cons,List.filter_nil]
 by_cases h:Dom tg k b
 ·rw [if_pos (by simpa using h),if_pos h];simp [natI]
 ·rw [if_neg (by simpa using h),if_neg h];simp [natI]
theorem dmTo_len (k b:Nat):(dmTo tg k b).length≤k:=by
 unfold dmTo
 rw [natI_len]
 exact Nat.le_trans (List.length_filter_le _ _) (by simp)
theorem dmTo_skip {k:Nat} (h:¬Re tg k) (b:Nat):dmTo tg (k+1) b=dmTo tg k b:=by
 rw [dmTo_succ,if_neg (fun d=>h d.ra),List.append_nil]
noncomputable def dmMid (tg:Nat→List Nat) (F Fa:List Nat) (k i b:Nat):List Int:=dmTo tg k b++(if b∈F.take i∧b ∉ Fa then [(k:Int)] else [])
theorem dmMid_zero (F Fa:List Nat) (k b:Nat):dmMid tg F Fa k 0 b=dmTo tg k b:=by
 unfold dmMid
 rw [if_neg (by simp),List.append_nil]
theorem dmMid_len (F Fa:List Nat) (k i b:Nat):(dmMid tg F Fa k i b).length≤k+1:=by
 unfold dmMid
 have:=dmTo_len (tg:=tg) k b
 rw [List.length_append]
 split<;>simp<;>omega
theorem take_mem {F:List Nat} {i b:Nat} (hi:i<F.length):b∈F.take (i+1)↔b∈F.take i∨b=F[i]:=by
 rw [List.take_succ_eq_append_getElem hi,List.mem_append,List.mem_singleton]
theorem dmMid_in {F Fa:List Nat} {k i:Nat} (hi:i<F.length) (h:F[i]∈Fa) (b:Nat):dmMid tg F Fa k (i+1) b=dmMid tg F Fa k i b:=by
 unfold dmMid
 by_cases e:b=F[i]
 ·rw [if_neg (fun q=>q.2 (by rw [e];exact h)),if_neg (fun q=>q.2 (by rw [e];exact h))]
 ·by_cases q:b∈F.take i∧b ∉ Fa
  ·rw [if_pos ⟨(take_mem hi).2 (Or.inl q.1),q.2⟩,if_pos q]
  ·rw [if_neg (fun r=>q ⟨((take_mem hi).1 r.1).resolve_right e,r.2⟩),if_neg q]
theorem dmMid_out {F Fa:List Nat} {k i:Nat} (hn:F.Nodup) (hi:i<F.length) (h:F[i] ∉ Fa) (b:Nat):dmMid tg F Fa k (i+1) b=if b=F[i] then dmMid tg F Fa k i F[i]++[(k:Int)] else dmMid tg F Fa k i b:=by
 have hnt:F[i] ∉ F.take i:=fun q=>by
  have e:F=F.take i++F.drop i:=(List.take_append_drop i F).symm
  have hd:F[i]∈F.drop i:=by rw [List.drop_eq_getElem_cons hi];exact List.mem_cons_self
  rw [e,List.nodup_append] at hn
  exact hn.2.2 _ q _ hd rfl
 by_cases e:b=F[i]
 ·rw [if_pos e,e]
  unfold dmMid
  rw [if_pos ⟨(take_mem hi).2 (Or.inr rfl),h⟩,if_neg (fun q=>hnt q.1),List.append_nil]
 ·rw [if_neg e]
  unfold dmMid
  by_cases q:b∈F.take i∧b ∉ Fa
  ·rw [if_pos ⟨(take_mem hi).2 (Or.inl q.1),q.2⟩,if_pos q]
  ·rw [if_neg (fun r=>q ⟨((take_mem hi).1 r.1).resolve_right e,r.2⟩),if_neg q]
theorem dmMid_done {F Fa:List Nat} {k:Nat} (hF:∀x,x∈F↔Re tg x) (hFa:∀x,x∈Fa↔Av tg k x) (hk:Re tg k) {i:Nat} (hi:F.length≤i) (b:Nat):dmMid tg F Fa k i b=dmTo tg (k+1) b:=by
 rw [dmTo_succ]
 unfold dmMid
 rw [List.take_of_length_le hi]
 by_cases h:Dom tg k b
 ·rw [if_pos ⟨(hF b).2 h.rb,fun q=>h.no ((hFa b).1 q)⟩,if_pos h]
 ·rw [if_neg (fun q=>h ⟨hk,(hF b).1 q.1,fun r=>q.2 ((hFa b).2 r)⟩),if_neg h]
end Go.Proofs.YtdfdmjcngkfciaaDoor

namespace Go.Proofs.YtdfdmjcngkfciaaDoor
open Go.RowKit Go.Shelf
attribute [local go_sem] Oper.semAt_some
def bwTo {α:Type} (f:Nat→α) (len k:Nat):List α:=(List.range (len-k)).map fun j=>f (len-1-j)
theorem bw_step {α:Type} (f:Nat→α) {len q:Nat} (h:q<len):bwTo f len q=bwTo f len (q+1)++[f q]:=by
 unfold bwTo
 have e:len-q=(len-(q+1))+1:=by omega
 rw [e,List.range_succ,List.map_append]
 have e2:len-1-(len-(q+1))=q:=by omega
 simp [e2]
theorem bw_start {α:Type} (f:Nat→α) (len:Nat):bwTo f len len=[]:=by simp [bwTo]
theorem bw_len {α:Type} (f:Nat→α) (len k:Nat):(bwTo f len k).length=len-k:=by simp [bwTo]
abbrev Pb (N:Nat):={ x:Nat × Nat // x.2<N }
theorem getD_lt {zs:List Nat} {N:Nat} (hz:∀z∈zs,z<N) (h0:0<N) (j:Nat):zs[j]?.getD 0<N:=by
 by_cases h:j<zs.length
 ·rw [List.getElem?_eq_getElem h];exact hz _ (List.getElem_mem h)
 ·rw [List.getElem?_eq_none (by omega)];exact h0
def pbAt {zs:List Nat} {N:Nat} (hz:∀z∈zs,z<N) (h0:0<N) (j:Nat):Pb N:=⟨(j,zs[j]?.getD 0),getD_lt hz h0 j⟩
set_option maxRecDepth 100000 in
set_option maxHeartbeats 2000000 in
theorem bw1_in (F:Fence) (n:Nat) (h8:F.fn 57) (hro:F.round=none) (hn:1≤n) (l Bs n₀ b off len cap:Nat) (zs:List Nat) (N:Nat) (hz:∀z∈zs,z<N) (h0N:0<N) (hreach:len≤1000000) (hb:b<n₀) (J Jx:List (Pb N)→World→Prop)
  (hY:∀pre x W,J pre W→pre.length<len→YieldAt F (n-1) Tryd.prog l #[.int .i64 (x.1.1:Int),.int .i64 (x.1.2:Int)] W fun e W' =>
   (e=.returned (.bool true)∧J (pre++[x]) W'∧Below n₀ W W')∨(e=.returned (.bool false)∧Jx (pre++[x]) W'))
  (W:World) (hBs:W.cell? ⟨Bs,0,none⟩=some (.slice (some ⟨b,off,none⟩) len cap)) (hBl:Bs<n₀) (hc:∀j,j<len→W.cell? ⟨b,off+j,none⟩=some (.int .i64 ((zs[j]?.getD 0:Nat):Int))) (h0:J [] W) :
  CallsIn F n Tryd.prog 57 #[.func (.yield l) #[] #[],.pointer (some ⟨Bs,0,none⟩)] W fun e W'=>(∃v,e=.returned v) ∧
   ((∃ys,ys=bwTo (pbAt hz h0N) len 0∧J ys W')∨(∃pre,(∃k,k<len∧pre=bwTo (pbAt hz h0N) len k)∧Jx pre W')):=by
 refine callsIn_of_wp Tryd.func57 rfl h8 ?_ hro
 simp only [Tryd.ntmps57,List.size_toArray,List.length_cons,List.length_nil,Nat.reduceAdd,Nat.reduceSub,Array.replicate_succ,Array.replicate_zero,List.push_toArray,List.append_toArray,List.nil_append,List.cons_append]
 gi_wp2
 gi_loopw [3] (fun i wr=>∃(k:Nat) (z:Int),k≤len∧i=.int .i64 z∧z+1=(k:Int)∧J (bwTo (pbAt hz h0N) len k) wr∧Below n₀ W wr)
  (fun i _=>(intOf i+1).toNat)
 case atStart=>exact ⟨len,_,Nat.le_refl _,rfl,by omega,by rw [bw_start];exact h0,Below.refl _ _⟩
 case round =>
  obtain ⟨k,z,hk,rfl,hzk,hJs,hnx⟩:=hrel
  have hBs':=(hnx.cell (p:=⟨Bs,0,none⟩) hBl).trans hBs
  cases k with
  | zero =>
   have hz1:z=-1:=by omega
   subst hz1
   gi_wp2
   go_end0
   exact ⟨⟨_,rfl⟩,.inl ⟨_,rfl,hJs⟩⟩
  | succ q =>
   have hz1:z=(q:Int):=by omega
   subst hz1
   have hq:q<len:=hk
   have hcx:wr.cell? ⟨b,off+q,none⟩=some (.int .i64 ((zs[q]?.getD 0:Nat):Int)):=(hnx.cell (p:=⟨b,off+q,none⟩) hb).trans (hc q hq)
   obtain ⟨fn,tmps,assign,body,hy,hR⟩:=hY _ (pbAt hz h0N q) wr hJs (by rw [bw_len];omega)
   dsimp only [pbAt] at hy
   gi_wp2
   refine hR.mono ?_
   rintro e W3 (⟨rfl,hJ3,hk3⟩ | ⟨rfl,hJx3⟩)
   ·gi_wp2
    go_roundw
    case rel=>exact ⟨q,_,by omega,rfl,by omega,by rw [bw_step _ hq];exact hJ3,hnx.trans hk3⟩
    case measure=>simp [intOf]
   ·gi_wp2
    refine bodyPost_ret (results_none rfl _ _ _) rfl ?_
    exact ⟨⟨_,rfl⟩,.inr ⟨_,⟨q,hq,(bw_step _ hq).symm⟩,hJx3⟩⟩
set_option maxHeartbeats 1000000 in
theorem backward_in (F:Fence) (n:Nat) (h6:F.fn 41) (hro:F.round=none) (a:Option Addr) (len cap:Nat) (w:World) :
  CallsIn F n Tryd.prog 41 #[.slice a len cap] w fun e w'=>e=.returned (.func (.func 57) #[] #[.pointer (some ⟨w.heap.size,0,none⟩)])∧w'=w.alloc (.cells #[.slice a len cap] 29):=by
 refine callsIn_of_wp Tryd.func41 rfl h6 ?_ hro
 simp only [Tryd.ntmps41,List.size_toArray,List.length_cons,List.length_nil,Nat.reduceAdd,Nat.reduceSub,Array.replicate_succ,Array.replicate_zero,List.push_toArray,List.append_toArray,List.nil_append,List.cons_append]
 gi_wp2
 go_ret
 exact ⟨rfl,rfl⟩
theorem backward_stops (F:Fence) (n:Nat) (h8:F.fn 57) (hro:F.round=none) (hn:1≤n) (Bs b off len cap:Nat) (zs:List Nat) (N:Nat) (hz:∀z∈zs,z<N) (h0N:0<N) (hreach:len≤1000000) (w:World) (hBs:Bs<w.heap.size) (hb:b<w.heap.size)
  (hc:w.cell? ⟨Bs,0,none⟩=some (.slice (some ⟨b,off,none⟩) len cap)) (hI:∀j,j<len→w.cell? ⟨b,off+j,none⟩=some (.int .i64 ((zs[j]?.getD 0:Nat):Int))) :
  SeqStopsK F n Tryd.prog 57 #[.pointer (some ⟨Bs,0,none⟩)] (fun x:Pb N=>#[Value.int .i64 (x.1.1:Int),Value.int .i64 (x.1.2:Int)]) (Below w.heap.size) (fun ys=>ys=bwTo (pbAt hz h0N) len 0)
   (fun pre=>∃k,k<len∧pre=bwTo (pbAt hz h0N) len k) len w:=fun l J Jx W hW _ _ hY h0 =>
 bw1_in F n h8 hro hn l Bs w.heap.size b off len cap zs N hz h0N hreach hb J Jx hY W ((hW.cell (p:=⟨Bs,0,none⟩) hBs).trans hc) hBs (fun j hj=>(hW.cell (p:=⟨b,off+j,none⟩) hb).trans (hI j hj)) h0
end Go.Proofs.YtdfdmjcngkfciaaDoor

namespace Go.Proofs.YtdfdmjcngkfciaaDoor
open Go.RowKit
def avL (b:Nat):List Nat:=(List.range b).filter fun x=>x != 0
def Iav (b:Nat):Nat→Nat→Nat:=fun i=>if i=0 then addsN (fun _=>0) (avL b) else fun _=>0
def Tse (b:Nat):Nat→Nat→Nat:=fun i=>if i<b then addN (fun _=>0) i else fun _=>0
theorem zero_wd:WdOk (fun _=>0):=fun _=>(by decide:0<18446744073709551616)
theorem avL_zero:avL 1=[]:=rfl
theorem avL_succ {b:Nat} (h:b≠0):avL (b+1)=avL b++[b]:=by
 unfold avL
 rw [List.range_succ,List.filter_append]
 simp [h]
theorem avL_mem {b x:Nat}:x∈avL b↔x<b∧x≠0:=by simp [avL]
theorem iav_wd (b:Nat):AllWd (Iav b):=fun i=>by
 unfold Iav
 split
 ·exact adds_wd _ zero_wd
 ·exact zero_wd
theorem tse_wd (b:Nat):AllWd (Tse b):=fun i=>by
 unfold Tse
 split
 ·exact add_wd zero_wd i
 ·exact zero_wd
theorem iav_has {n b x:Nat} (hx:x<n):hasN (Iav n b) x=true↔b=0∧x≠0:=by
 unfold Iav
 by_cases e:b=0
 ·rw [if_pos e,has_adds,has_none,Bool.or_false,decide_eq_true_eq,avL_mem]
  exact ⟨fun h=>⟨e,h.2⟩,fun h=>⟨hx,h.2⟩⟩
 ·rw [if_neg e,has_none]
  exact ⟨fun h=>(by cases h),fun h=>absurd h.1 e⟩
theorem tse_has {n b x:Nat} (hb:b<n):hasN (Tse n b) x=true↔x=b:=by
 unfold Tse
 rw [if_pos hb,has_add,has_none,Bool.or_false,decide_eq_true_eq]
theorem iav_next0:Iav 1=fun i=>Iav 0 i:=by funext i;unfold Iav;rw [avL_zero];rfl
theorem iav_next {b:Nat} (h:b≠0):(fun i=>if i=0 then addsN (Iav b 0) [b] else Iav b i)=Iav (b+1):=by
 funext i
 unfold Iav
 by_cases e:i=0
 ·subst e
  simp only [if_true]
  rw [avL_succ h]
  unfold addsN
  rw [List.foldl_append]
 ·simp only [if_neg e]
theorem tse_next (b:Nat):(fun i=>if i=b then addsN (Tse b b) [b] else Tse b i)=Tse (b+1):=by
 funext i
 unfold Tse
 by_cases e:i=b
 ·subst e
  simp only [if_true,Nat.lt_irrefl,if_false]
  rw [if_pos (Nat.lt_succ_self _)]
  rfl
 ·simp only [if_neg e]
  by_cases h:i<b
  ·rw [if_pos h,if_pos (by omega)]
  ·rw [if_neg h,if_neg (by omega)]
theorem SetsAt.grown {w w':World} {G n K b:Nat} {gs:Nat→Nat} {Ws:Nat→Nat→Nat} (h:SetsAt w G n K gs Ws) (k:w.grownBy w' (some b)) (h1:G≠b) (h2:∀i,i<n→gs i≠b):SetsAt w' G n K gs Ws :=
 ⟨h.row.of_block (k.block _ h.row.lt (fun e=>h1 (by injection e))),fun i hi=>(h.set i hi).of_block (k.block _ (h.set i hi).lt (fun e=>h2 i hi (by injection e))),h.inj,h.out⟩
set_option maxHeartbeats 2000000 in
set_option maxRecDepth 100000 in
theorem avoided_any (pa:Option Addr) (n pc b0 o0 n0 c0:Nat) (src:List (List Nat)) (ord:List Nat) (L1 B1 L2 B2:Nat) (w:World) (hsrc:Hid (IntssAt w L2 B2 pa (src.map natI))) (hs:Hid (n=src.length)) (hord:Hid (IntsAt w L1 B1 (some ⟨b0,o0,none⟩) (natI ord))) (h0:Hid (n0=ord.length)) (hn:n≤1000) (hn1:0<n) (hn0:n0≤1000) (hn0':0<n0) (hB1:B1≤w.heap.size) (hB2:B2≤w.heap.size) (ho:Hid (∀b∈ord,b<n)) (hsr:Hid (∀l∈src,l.length≤2000∧∀t∈l,t<n)) :
  Calls Tryd.prog 39 #[.slice pa n pc,.slice (some ⟨b0,o0,none⟩) n0 c0] w fun e w'=>∃G gs Ws,e=.returned (.slice (some ⟨G,0,none⟩) n n)∧Below w.heap.size w w'∧SetsAt w' G n ((n+63) / 64) gs Ws∧AllWd Ws∧∀b,b<n→∀x,x<n→(hasN (Ws b) x=true↔Sp (Iav n) (Tse n) (·∈ord) (fun b=>src.getD b []) b x):=by
 have hKb:(n+63) / 64≤16:=by omega
 have hKn:n≤64*((n+63) / 64):=by omega
 have HN1:=hide (newSets_blockNo n n w hn (by omega))
 have HN2:=hide (fun W=>newSets_blockNo n n W hn (by omega))
 generalize (n+63) / 64=K at *
 go_enter Tryd.func39,Tryd.ntmps39
 go_wp2_with fail
 refine HN1.out.mono ?_
 rintro e w1 ⟨G,gs,rfl,hG,hb1,hs1,hu1⟩
 have HB1:=hide hb1
 have HS1:=hide hs1
 clear hb1 hs1 HN1
 go_wp2_with fail
 refine (HN2.out w1).mono ?_
 rintro e w2 ⟨G2,gs2,rfl,hG2,hb2,hs2,hu2⟩
 have HB2:=hide (bnext HB1.out hb2)
 have HS2:=hide (HS1.out.keep hb2)
 have HT2:=hide hs2
 have hGl:G<w1.heap.size:=HS1.out.row.lt
 have HGL:Hid (∀i,i<n→gs i<w1.heap.size):=hide (fun i hi=>(HS1.out.set i hi).lt)
 have HU1:=hide hu1
 have HG1:=hide HB1.out.size
 have HU2:=hide hu2
 clear hb2 hs2 HN2 HB1 HS1 hu1 hu2
 go_wp2_with fail
 have HD1:Hid (∀i j,i<n→j<n→gs2 i≠gs j):=hide (fun i j hi hj e=>by have:=HGL.out j hj;have:=HU2.out i hi;omega)
 have HD2:Hid (∀i,i<n→G≠gs2 i):=hide (fun i hi e=>by have:=HU2.out i hi;omega)
 have HD3:Hid (∀i,i<n→G2≠gs i):=hide (fun i hi e=>by have:=HGL.out i hi;omega)
 have HI0:Hid (SetsAt w2 G n K gs (Iav 0)):=hide (by
  have e:(fun _ _=>0:Nat→Nat→Nat)=Iav 0:=by funext i;unfold Iav;split<;>rfl
  rw [←e];exact HS2.out)
 have HT0:Hid (SetsAt w2 G2 n K gs2 (Tse 0)):=hide (by
  have e:(fun _ _=>0:Nat→Nat→Nat)=Tse 0:=by funext i;unfold Tse;rw [if_neg (by omega)]
  rw [←e];exact HT2.out)
 clear HS2 HT2
 go_loopw [18] (fun u wr=>∃b:Nat,b≤n∧u=.int .i64 b∧Hid (Below w.heap.size w wr)∧Hid (w2.heap.size≤wr.heap.size)∧Hid (SetsAt wr G n K gs (Iav b))∧Hid (SetsAt wr G2 n K gs2 (Tse b))) (fun u _=>n-(intOf u).toNat)
 case atStart=>exact ⟨0,Nat.zero_le _,rfl,HB2,hide (Nat.le_refl _),HI0,HT0⟩
 case round =>
  obtain ⟨b,hb,rfl,HB,HZ,HI,HT⟩:=hrel
  clear HI0 HT0 HB2
  by_cases hlt:b<n
  ·have k1:=HT.out.row.cell hlt
   have k0:=HI.out.row.cell hn1
   go_wp2_with fail
   have HIA:Hid (IntsAt (wr.alloc (.cells #[.int .i64 (b:Int)] 62)) wr.heap.size (wr.heap.size+1) (some ⟨wr.heap.size,0,none⟩) ([b].map Int.ofNat)):=hide (ints_one wr b _)
   have HRB:Hid (∀t∈[b],t<64*K):=hide (fun t ht=>by
    have:t=b:=by simpa using ht
    omega)
   have HTA:=hide (HT.out.keep (balloc (Below.refl _ _) (.cells #[.int .i64 (b:Int)] 62)))
   have HIA2:=hide (HI.out.keep (balloc (Below.refl _ _) (.cells #[.int .i64 (b:Int)] 62)))
   have HBA:=hide (balloc HB.out (.cells #[.int .i64 (b:Int)] 62))
   have hzA:wr.heap.size+1≤(wr.alloc (.cells #[.int .i64 (b:Int)] 62)).heap.size:=by simp
   have hlg:gs2 b<wr.heap.size:=(HT.out.set b hlt).lt
   have hl0:gs 0<wr.heap.size:=(HI.out.set 0 hn1).lt
   clear HB HI HT k1 k0
   generalize wr.alloc (.cells #[.int .i64 (b:Int)] 62)=wa at *
   refine (add_blockNo (gs2 b) K 1 1 (Tse b b) _ [b] wr.heap.size (wr.heap.size+1) wa HIA (hide rfl) (by omega) HRB (by omega) (hide (tse_wd b b)) (hide (HTA.out.set b hlt)) hzA (by omega)).mono ?_
   rintro e w5 ⟨rfl,hg5,hr5⟩
   have HT5:Hid (SetsAt w5 G2 n K gs2 (Tse (b+1))):=hide (by rw [←tse_next];exact HTA.out.wrote hlt hg5 hr5)
   have HI5:=hide (HIA2.out.grown hg5 (HD2.out b hlt) (fun i hi e=>HD1.out b i hlt hi e.symm))
   have HB5:Hid (Below w.heap.size w w5):=hide (HBA.out.grown hg5 HBA.out.size (fun k e=>by cases e;have:=HU2.out b hlt;have:=HG1.out;omega))
   have HZ5:Hid (w2.heap.size≤w5.heap.size):=hide (by have:=hg5.size;have:=HZ.out;omega)
   clear hg5 hr5 HTA HIA2 HBA HIA
   by_cases hb0:b=0
   ·have HI6:Hid (SetsAt w5 G n K gs (Iav (b+1))):=hide (by subst hb0;rw [iav_next0];exact HI5.out)
    have hbb:((b:Int)==0)=true:=by simp [hb0]
    have hbc:((b:Int) != 0)=false:=by simp [hb0]
    clear hb0
    go_wp2_with fail
    exact ⟨⟨b+1,by omega,by go_num,HB5,HZ5,HI6,HT5⟩,by simp [intOf];omega⟩
   ·have hbb:((b:Int)==0)=false:=by simp [hb0]
    have hbc:((b:Int) != 0)=true:=by simp [hb0]
    have k0:=HI5.out.row.cell hn1
    go_wp2_with fail
    have HIA:Hid (IntsAt (w5.alloc (.cells #[.int .i64 (b:Int)] 62)) w5.heap.size (w5.heap.size+1) (some ⟨w5.heap.size,0,none⟩) ([b].map Int.ofNat)):=hide (ints_one w5 b _)
    have HTA:=hide (HT5.out.keep (balloc (Below.refl _ _) (.cells #[.int .i64 (b:Int)] 62)))
    have HIA2:=hide (HI5.out.keep (balloc (Below.refl _ _) (.cells #[.int .i64 (b:Int)] 62)))
    have HBA:=hide (balloc HB5.out (.cells #[.int .i64 (b:Int)] 62))
    have hzB:w5.heap.size+1≤(w5.alloc (.cells #[.int .i64 (b:Int)] 62)).heap.size:=by simp
    have hl5:gs 0<w5.heap.size:=(HI5.out.set 0 hn1).lt
    clear HB5 HI5 HT5 k0
    generalize w5.alloc (.cells #[.int .i64 (b:Int)] 62)=wb at *
    refine (add_blockNo (gs 0) K 1 1 (Iav b 0) _ [b] w5.heap.size (w5.heap.size+1) wb HIA (hide rfl) (by omega) HRB (by omega) (hide (iav_wd b 0)) (hide (HIA2.out.set 0 hn1)) hzB (by omega)).mono ?_
    rintro e w6 ⟨rfl,hg6,hr6⟩
    have HI6:Hid (SetsAt w6 G n K gs (Iav (b+1))):=hide (by rw [←iav_next hb0];exact HIA2.out.wrote hn1 hg6 hr6)
    have HT6:=hide (HTA.out.grown hg6 (HD3.out 0 hn1) (fun i hi=>HD1.out i 0 hi hn1))
    have HB6:Hid (Below w.heap.size w w6):=hide (HBA.out.grown hg6 HBA.out.size (fun k e=>by cases e;exact HU1.out 0 hn1))
    have HZ6:Hid (w2.heap.size≤w6.heap.size):=hide (by have:=hg6.size;have:=HZ5.out;omega)
    clear hg6 hr6 HTA HIA2 HBA HIA
    go_wp2_with fail
    exact ⟨⟨b+1,by omega,by go_num,HB6,HZ6,HI6,HT6⟩,by simp [intOf];omega⟩
  ·have hbn:b=n:=by omega
   subst hbn
   go_wp2_with fail
   refine (spread_blockNo b0 o0 n0 c0 ord L1 B1 pa b pc src L2 B2 G G2 b K gs gs2 (Iav b) (Tse b) wr (hide (hord.out.keep (HB.out.mono hB1))) h0 hn0 hn0' (hide (hsrc.out.keepS (fun k _ h2=>(HB.out.mono hB2).block k h2))) hs (hide hs.out.symm) (by omega) (by have:=HB.out.size;omega) (by have:=HB.out.size;omega) HI HT (hide (iav_wd b)) (hide (tse_wd b)) (hide (fun i hi h=>by have:=HU1.out i hi;omega)) HD3 HD1 ho hsr).mono ?_
   rintro e w7 ⟨rfl,hf7,Ws,hw7,hs7,hh7⟩
   have HB7:Hid (Below w.heap.size w w7):=hide ⟨hf7.os.trans HB.out.os,hf7.tape.trans HB.out.tape,hf7.output.trans HB.out.output,Nat.le_trans HB.out.size hf7.size,fun k hk=>(hf7.block k (by have:=HB.out.size;omega) (fun i hi e=>by have:=HU1.out i hi;omega)).trans (HB.out.block k hk)⟩
   have HS7:=hide hs7
   have HW7:=hide hw7
   have HH7:=hide hh7
   clear hf7 hw7 hs7 hh7
   go_wp2_with fail
   go_ret
   exact ⟨G,gs,Ws,rfl,HB7.out,HS7.out,HW7.out,fun c hc x hx=>HH7.out c hc x (by omega)⟩
end Go.Proofs.YtdfdmjcngkfciaaDoor

namespace Go.Proofs.YtdfdmjcngkfciaaDoor
def nrF (Ws:Nat→Nat→Nat) (ord:List Nat):Nat→Nat→Int
 | 0,_=>-1
 | i+1,z=>match (ord.take i).reverse.find? (fun a=>!hasN (Ws (ord.getD i 0)) a) with
  | some a=>if z=ord.getD i 0 then (a:Int) else nrF Ws ord i z
  | none=>nrF Ws ord i z
theorem nrF_some {Ws:Nat→Nat→Nat} {ord:List Nat} {i a:Nat} (h:(ord.take i).reverse.find? (fun a=>!hasN (Ws (ord.getD i 0)) a)=some a) (z:Nat):nrF Ws ord (i+1) z=if z=ord.getD i 0 then (a:Int) else nrF Ws ord i z:=by
 rw [nrF,h]
theorem nrF_none {Ws:Nat→Nat→Nat} {ord:List Nat} {i:Nat} (h:(ord.take i).reverse.find? (fun a=>!hasN (Ws (ord.getD i 0)) a)=none) (z:Nat):nrF Ws ord (i+1) z=nrF Ws ord i z:=by
 rw [nrF,h]
theorem bw_rev {zs:List Nat} {N:Nat} (hz:∀z∈zs,z<N) (h0:0<N) {len:Nat} (hl:len≤zs.length):(bwTo (pbAt hz h0) len 0).map (fun x=>x.1.2)=(zs.take len).reverse:=by
 apply List.ext_getElem
 ·simp [bwTo,hl]
 ·intro j h1 h2
  have hj:j<len:=by simpa [bwTo] using h1
  have h3:len-1-j<zs.length:=by omega
  simp [bwTo,pbAt,Nat.min_eq_left hl,List.getElem?_eq_getElem h3]
theorem bw_pre {α:Type} (f:Nat→α) {len:Nat}:∀(k:Nat),k≤len→∃r,bwTo f len 0=bwTo f len k++r
 | 0,_=>⟨[],by simp⟩
 | k+1,h=>by
  obtain ⟨r,hr⟩:=bw_pre f (len:=len) k (by omega)
  exact ⟨f k::r,by rw [hr,bw_step f (show k<len from h)];simp⟩
theorem find_hit {zs:List Nat} {N:Nat} (hz:∀z∈zs,z<N) (h0:0<N) {len k:Nat} (hl:len≤zs.length) (hk:k≤len) {p:Nat→Bool} {pre:List (Pb N)} {x:Pb N} (e:pre++[x]=bwTo (pbAt hz h0) len k) (hp:∀y∈pre,p y.1.2=false) (hx:p x.1.2=true):(zs.take len).reverse.find? p=some x.1.2:=by
 obtain ⟨r,hr⟩:=bw_pre (pbAt hz h0) k hk
 rw [←bw_rev hz h0 hl,hr,←e,List.map_append,List.map_append,List.find?_append,List.find?_append]
 have h1:(pre.map fun x=>x.1.2).find? p=none:=by
  rw [List.find?_eq_none]
  intro y hy
  obtain ⟨u,hu,rfl⟩:=List.mem_map.1 hy
  rw [hp u hu]
  decide
 rw [h1]
 simp [hx]
theorem find_miss {zs:List Nat} {N:Nat} (hz:∀z∈zs,z<N) (h0:0<N) {len:Nat} (hl:len≤zs.length) {p:Nat→Bool} (hp:∀y∈bwTo (pbAt hz h0) len 0,p y.1.2=false):(zs.take len).reverse.find? p=none:=by
 rw [←bw_rev hz h0 hl,List.find?_eq_none]
 intro y hy
 obtain ⟨u,hu,rfl⟩:=List.mem_map.1 hy
 rw [hp u hu]
 decide
theorem nrF_not {Ws:Nat→Nat→Nat} {ord:List Nat} {b:Nat}:∀(i:Nat),i≤ord.length→(∀j,j<i→ord.getD j 0≠b)→nrF Ws ord i b=-1
 | 0,_,_=>rfl
 | i+1,hi,h=>by
  have ih:=nrF_not (Ws:=Ws) i (by omega) (fun j hj=>h j (by omega))
  rw [nrF]
  split
  ·rw [if_neg (fun e=>h i (by omega) e.symm)];exact ih
  ·exact ih
theorem nrF_stay {Ws:Nat→Nat→Nat} {ord:List Nat} {b i:Nat}:∀(m:Nat),(∀j,i≤j→j<i+m→ord.getD j 0≠b)→nrF Ws ord (i+m) b=nrF Ws ord i b
 | 0,_=>rfl
 | m+1,h=>by
  have ih:=nrF_stay (Ws:=Ws) (i:=i) m (fun j h1 h2=>h j h1 (by omega))
  rw [←ih,←Nat.add_assoc,nrF]
  split
  ·rw [if_neg (fun e=>h (i+m) (by omega) (by omega) e.symm)]
  ·rfl
variable {tg : Nat → List Nat}
theorem near_isIdm {n:Nat} {Ws:Nat→Nat→Nat} {o:List Nat} (hn:o.Nodup) (hm:∀x,x∈o↔Re tg x) (hlt:∀x,Re tg x→x<n) (ho:∀x a,Dom tg a x→a≠x→Bef o a x) (hw:∀b,b<n→∀x,x<n→(hasN (Ws b) x=true↔Av tg x b)):IsIdm tg n ((List.range n).map (nrF Ws o o.length)):=by
 refine ⟨by simp,fun b hb=>?_⟩
 have e:((List.range n).map (nrF Ws o o.length)).getD b 0=nrF Ws o o.length b:=by simp [hb]
 rw [e]
 by_cases hr:b∈o
 ·obtain ⟨i,hi,ei⟩:=List.getElem_of_mem hr
  have key:=List.pairwise_iff_getElem.1 (show o.Pairwise (·≠·) from hn)
  have gd:∀j (hj:j<o.length),o.getD j 0=o[j]:=fun j hj=>by simp [hj]
  have h1:nrF Ws o o.length b=nrF Ws o (i+1) b:=by
   have:=nrF_stay (Ws:=Ws) (ord:=o) (b:=b) (i:=i+1) (o.length-(i+1)) (fun j h1 h2=>by
    have hj:j<o.length:=by omega
    rw [gd j hj,←ei]
    exact fun e=>key i j hi hj (by omega) e.symm)
   rw [show i+1+(o.length-(i+1))=o.length by omega] at this
   exact this
  have h2:nrF Ws o i b=-1:=nrF_not i (by omega) (fun j hj=>by
   have hj':j<o.length:=by omega
   rw [gd j hj',←ei]
   exact key j i hj' hi hj)
  have hp:∀a∈o,(!hasN (Ws (o.getD i 0)) a)=true↔¬Av tg a o[i]:=fun a ha=>by
   rw [gd i hi,←hw o[i] (by rw [ei];exact hb) a (hlt a ((hm a).1 ha))]
   simp
  have h3:=near_prog hn hm ho hi hp
  rw [h1]
  cases hf:(o.take i).reverse.find? (fun a=>!hasN (Ws (o.getD i 0)) a) with
  | some a =>
   rw [hf] at h3
   rw [nrF_some hf,gd i hi,ei,if_pos rfl]
   exact Or.inl ⟨a,by rw [←ei];exact h3,rfl⟩
  | none =>
   rw [hf] at h3
   rw [nrF_none hf,h2]
   exact Or.inr ⟨by rw [←ei];exact h3,rfl⟩
 ·refine Or.inr ⟨fun c hc=>absurd ((hm b).2 hc.rb) hr,nrF_not _ (Nat.le_refl _) (fun j hj e=>hr ?_)⟩
  have:o.getD j 0=o[j]:=by simp [hj]
  rw [←e,this]
  exact List.getElem_mem hj
end Go.Proofs.YtdfdmjcngkfciaaDoor
