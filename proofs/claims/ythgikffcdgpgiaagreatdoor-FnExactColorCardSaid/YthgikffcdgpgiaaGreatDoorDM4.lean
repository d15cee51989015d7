import Derived.Test.YthgikffcdgpgiaaGreatDoorID1
import Derived.Test.YthgikffcdgpgiaaGreatDoorSP0
import Derived.Test.YthgikffcdgpgiaaGreatDoorDFP
namespace Go.Proofs.YthgikffcdgpgiaaGreatDoor
variable {tg : Nat → List Nat}
open Classical in
noncomputable def domL (tg:Nat→List Nat) (n b:Nat):List Nat:=(List.range n).filter fun a=>decide (Dom tg a b)
theorem domL_mem {n a b:Nat}:a∈domL tg n b↔a<n∧Dom tg a b:=by
 unfold domL
 simp
theorem domL_nd (n b:Nat):(domL tg n b).Nodup:=List.nodup_range.sublist List.filter_sublist
theorem domL_less {n a c:Nat} (ha:a<n) (h:Dom tg c a) (hne:c≠a):(domL tg n c).length<(domL tg n a).length:=by
 have h1:a ∉ domL tg n c:=fun k=>hne (dom_anti h (domL_mem.1 k).2)
 have h2:(a::domL tg n c).Nodup:=List.nodup_cons.2 ⟨h1,domL_nd n c⟩
 have h3:(a::domL tg n c) ⊆ domL tg n a:=fun x hx=>by
  rcases List.mem_cons.1 hx with rfl | hx
  ·exact domL_mem.2 ⟨ha,dom_self h.rb⟩
  ·obtain ⟨k1,k2⟩:=domL_mem.1 hx
   exact domL_mem.2 ⟨k1,dom_trans k2 h⟩
 have:=List.Nodup.length_le_of_subset h2 h3
 simp only [List.length_cons] at this
 omega
theorem domss_get {n b:Nat} (hb:b<n):((List.range n).map (domL tg n)).getD b []=domL tg n b:=by simp [hb]
theorem model_some {n a b:Nat} (hn:∀x,Re tg x→x<n) (h:Idm tg a b):idomP ((List.range n).map (domL tg n)) b=(a:Int):=by
 have hbn:=hn b h.dom.rb
 have han:=hn a h.dom.ra
 have key:bestP (fun a=>(((List.range n).map (domL tg n)).getD a []).length) b (domL tg n b)=some a:=by
  refine best_some (domL_mem.2 ⟨han,h.dom⟩) h.ne (fun c hc hcb hca=>?_)
  obtain ⟨k1,k2⟩:=domL_mem.1 hc
  rw [domss_get k1,domss_get han]
  exact domL_less han (h.near c k2 hcb) hca
 unfold idomP
 rw [domss_get hbn,key]
 rfl
theorem model_none {n b:Nat} (hb:b<n) (h:∀c,Dom tg c b→c=b):idomP ((List.range n).map (domL tg n)) b=-1:=by
 unfold idomP
 rw [domss_get hb,best_none (fun a ha=>h a (domL_mem.1 ha).2)]
 rfl
end Go.Proofs.YthgikffcdgpgiaaGreatDoor

namespace Go.Proofs.YthgikffcdgpgiaaGreatDoor
variable {tg : Nat → List Nat}
structure IsIdm (tg:Nat→List Nat) (n:Nat) (P:List Int):Prop where
 len:P.length=n
 get:∀b,b<n→(∃a:Nat,Idm tg a b∧P.getD b 0=(a:Int))∨((∀c,Dom tg c b→c=b)∧P.getD b 0=-1)
theorem isIdm_one {n:Nat} {P Q:List Int} (h:IsIdm tg n P) (k:IsIdm tg n Q):P=Q:=by
 apply List.ext_getElem (h.len.trans k.len.symm)
 intro i h1 h2
 have e1:P.getD i 0=P[i]:=by simp [h1]
 have e2:Q.getD i 0=Q[i]:=by simp [h2]
 rw [←e1,←e2]
 have hi:i<n:=by rw [←h.len];exact h1
 rcases h.get i hi with ⟨a,ha,ea⟩ | ⟨ha,ea⟩
 ·rcases k.get i hi with ⟨c,hc,ec⟩ | ⟨hc,ec⟩
  ·rw [ea,ec,idm_one ha hc]
  ·exact absurd (hc a ha.dom) ha.ne
 ·rcases k.get i hi with ⟨c,hc,ec⟩ | ⟨hc,ec⟩
  ·exact absurd (ha c hc.dom) hc.ne
  ·rw [ea,ec]
open Classical in
theorem isIdm_model {n:Nat} (hn:∀x,Re tg x→x<n) (hex:∀b,b<n→(∃a,Idm tg a b)∨∀c,Dom tg c b→c=b):IsIdm tg n ((List.range n).map (idomP ((List.range n).map (domL tg n)))):=by
 refine ⟨by simp,fun b hb=>?_⟩
 have e:((List.range n).map (idomP ((List.range n).map (domL tg n)))).getD b 0=idomP ((List.range n).map (domL tg n)) b:=by simp [hb]
 rw [e]
 rcases hex b hb with ⟨a,ha⟩ | h
 ·exact Or.inl ⟨a,ha,model_some hn ha⟩
 ·exact Or.inr ⟨h,model_none hb h⟩
def chP (P:List Int) (b:Nat):List Nat:=(List.range P.length).filter fun c=>P.getD c 0==(b:Int)
def preP (P:List Int):Nat→Nat→List Nat
 | 0,b=>[b]
 | m+1,b=>b::(chP P b).flatMap (preP P m)
theorem chP_mem {P:List Int} {b c:Nat}:c∈chP P b↔c<P.length∧P.getD c 0=(b:Int):=by
 unfold chP
 rw [List.mem_filter,List.mem_range,beq_iff_eq]
theorem ch_idm {n:Nat} {P:List Int} (h:IsIdm tg n P) {b c:Nat} (hc:c∈chP P b):Idm tg b c:=by
 obtain ⟨h1,h2⟩:=chP_mem.1 hc
 rcases h.get c (by rw [←h.len];exact h1) with ⟨a,ha,ea⟩ | ⟨_,ea⟩
 ·rw [ea] at h2
  have:a=b:=by omega
  rw [←this];exact ha
 ·rw [ea] at h2;omega
theorem ch_len {P:List Int} {b:Nat}:(chP P b).length≤P.length:=Nat.le_trans (List.length_filter_le _ _) (by simp)
theorem pre_dom {n:Nat} {P:List Int} (h:IsIdm tg n P):∀(m b x:Nat),Re tg b→x∈preP P m b→Dom tg b x
 | 0,b,x,hb,hx=>by
  have:x=b:=by simpa [preP] using hx
  rw [this];exact dom_self hb
 | m+1,b,x,hb,hx=>by
  rw [preP,List.mem_cons] at hx
  rcases hx with rfl | hx
  ·exact dom_self hb
  ·obtain ⟨c,hc,hx⟩:=List.mem_flatMap.1 hx
   have hi:=ch_idm h hc
   exact dom_trans hi.dom (pre_dom h m c x hi.dom.rb hx)
theorem pre_nd {n:Nat} {P:List Int} (h:IsIdm tg n P):∀(m b:Nat),Re tg b→(preP P m b).Nodup
 | 0,b,_=>by simp [preP]
 | m+1,b,hb=>by
  rw [preP,List.nodup_cons]
  refine ⟨fun hx=>?_,?_⟩
  ·obtain ⟨c,hc,hx⟩:=List.mem_flatMap.1 hx
   have hi:=ch_idm h hc
   exact hi.ne (dom_anti hi.dom (pre_dom h m c b hi.dom.rb hx))
  ·unfold List.Nodup
   rw [List.pairwise_flatMap]
   refine ⟨fun c hc=>pre_nd h m c (ch_idm h hc).dom.rb,?_⟩
   have hnd:(chP P b).Nodup:=List.nodup_range.sublist List.filter_sublist
   refine List.Pairwise.imp_of_mem (fun {c d} hc hd hne x hx y hy e=>?_) hnd
   subst e
   have ic:=ch_idm h hc
   have id:=ch_idm h hd
   have dc:=pre_dom h m c x ic.dom.rb hx
   have dd:=pre_dom h m d x id.dom.rb hy
   rcases dom_chain dc dd with k | k
   ·exact ic.ne (dom_anti ic.dom (id.near c k hne))
   ·exact id.ne (dom_anti id.dom (ic.near d k (fun e=>hne e.symm)))
theorem pre_len {n:Nat} {P:List Int} (h:IsIdm tg n P) (hn:∀x,Re tg x→x<n) (m b:Nat) (hb:Re tg b):(preP P m b).length≤n:=nodup_le (pre_nd h m b hb) (fun x hx=>hn x (pre_dom h m b x hb hx).rb)
theorem dn_less {n:Nat} {P:List Int} (h:IsIdm tg n P) (hn:∀x,Re tg x→x<n) {b c:Nat} (hc:c∈chP P b):(domL tg n b).length<(domL tg n c).length:=by
 have hi:=ch_idm h hc
 exact domL_less (hn c hi.dom.rb) hi.dom hi.ne
theorem dn_le (n b:Nat):(domL tg n b).length≤n:=Nat.le_trans (List.length_filter_le _ _) (by simp)
theorem up_some {n:Nat} {P:List Int} (h:IsIdm tg n P) (hn:∀x,Re tg x→x<n) {b:Nat} (hb:Re tg b) (h0:b≠0):∃c:Nat,P.getD b 0=(c:Int)∧c<n∧Re tg c∧(domL tg n c).length<(domL tg n b).length∧∀a,a≠b→(Dom tg a b↔Dom tg a c):=by
 rcases h.get b (hn b hb) with ⟨c,hc,ec⟩ | ⟨hc,_⟩
 ·exact ⟨c,ec,hn c hc.dom.ra,hc.dom.ra,domL_less (hn b hb) hc.dom hc.ne,fun a hne=>⟨fun k=>hc.near a k hne,fun k=>dom_trans k hc.dom⟩⟩
 ·exact absurd (hc 0 (dom_root hb)) (fun e=>h0 e.symm)
end Go.Proofs.YthgikffcdgpgiaaGreatDoor

namespace Go.Proofs.YthgikffcdgpgiaaGreatDoor
open Go.RowKit
def avL (b:Nat):List Nat:=(List.range b).filter fun x=>x != 0
def Iav (b:Nat):Nat→Nat→Nat:=fun i=>if i=0 then addsN (fun _=>0) (avL b) else fun _=>0
def Tse (b:Nat):Nat→Nat→Nat:=fun i=>if i<b then addN (fun _=>0) i else fun _=>0
theorem zero_wd:WdOk (fun _=>0):=fun _=>(by decide:0<18446744073709551616)
theorem avL_zero:avL 1=[]:=rfl
theorem avL_succ {b:Nat} (h:b≠0):avL (b+1)=avL b++[b]:=by
 unfold avL
 rw [List.range_succ,List.filter_append]
 simp [h]
theorem avL_mem {b x:Nat}:x∈avL b↔x<b∧x≠0:=by simp [avL]
theorem iav_wd (b:Nat):AllWd (Iav b):=fun i=>by
 unfold Iav
 split
 ·exact adds_wd _ zero_wd
 ·exact zero_wd
theorem tse_wd (b:Nat):AllWd (Tse b):=fun i=>by
 unfold Tse
 split
 ·exact add_wd zero_wd i
 ·exact zero_wd
theorem iav_has {n b x:Nat} (hx:x<n):hasN (Iav n b) x=true↔b=0∧x≠0:=by
 unfold Iav
 by_cases e:b=0
 ·rw [if_pos e,has_adds,has_none,Bool.or_false,decide_eq_true_eq,avL_mem]
  exact ⟨fun h=>⟨e,h.2⟩,fun h=>⟨hx,h.2⟩⟩
 ·rw [if_neg e,has_none]
  exact ⟨fun h=>(by cases h),fun h=>absurd h.1 e⟩
theorem tse_has {n b x:Nat} (hb:b<n):hasN (Tse n b) x=true↔x=b:=by
 unfold Tse
 rw [if_pos hb,has_add,has_none,Bool.or_false,decide_eq_true_eq]
theorem iav_next0:Iav 1=fun i=>Iav 0 i:=by funext i;unfold Iav;rw [avL_zero];rfl
theorem iav_next {b:Nat} (h:b≠0):(fun i=>if i=0 then addsN (Iav b 0) [b] else Iav b i)=Iav (b+1):=by
 funext i
 unfold Iav
 by_cases e:i=0
 ·subst e
  simp only [if_true]
  rw [avL_succ h]
  unfold addsN
  rw [List.foldl_append]
 ·simp only [if_neg e]
theorem tse_next (b:Nat):(fun i=>if i=b then addsN (Tse b b) [b] else Tse b i)=Tse (b+1):=by
 funext i
 unfold Tse
 by_cases e:i=b
 ·subst e
  simp only [if_true,Nat.lt_irrefl,if_false]
  rw [if_pos (Nat.lt_succ_self _)]
  rfl
 ·simp only [if_neg e]
  by_cases h:i<b
  ·rw [if_pos h,if_pos (by omega)]
  ·rw [if_neg h,if_neg (by omega)]
theorem SetsAt.grown {w w':World} {G n K b:Nat} {gs:Nat→Nat} {Ws:Nat→Nat→Nat} (h:SetsAt w G n K gs Ws) (k:w.grownBy w' (some b)) (h1:G≠b) (h2:∀i,i<n→gs i≠b):SetsAt w' G n K gs Ws :=
 ⟨h.row.of_block (k.block _ h.row.lt (fun e=>h1 (by injection e))),fun i hi=>(h.set i hi).of_block (k.block _ (h.set i hi).lt (fun e=>h2 i hi (by injection e))),h.inj,h.out⟩
set_option maxHeartbeats 2000000 in
set_option maxRecDepth 100000 in
theorem avoided_any (pa:Option Addr) (n pc b0 o0 n0 c0:Nat) (src:List (List Nat)) (ord:List Nat) (L1 B1 L2 B2:Nat) (w:World) (hsrc:Hid (IntssAt w L2 B2 pa (src.map natI))) (hs:Hid (n=src.length)) (hord:Hid (IntsAt w L1 B1 (some ⟨b0,o0,none⟩) (natI ord))) (h0:Hid (n0=ord.length)) (hn:n≤1000) (hn1:0<n) (hn0:n0≤1000) (hn0':0<n0) (hB1:B1≤w.heap.size) (hB2:B2≤w.heap.size) (ho:Hid (∀b∈ord,b<n)) (hsr:Hid (∀l∈src,l.length≤2000∧∀t∈l,t<n)) :
  Calls Tryz.prog 133 #[.slice pa n pc,.slice (some ⟨b0,o0,none⟩) n0 c0] w fun e w'=>∃G gs Ws,e=.returned (.slice (some ⟨G,0,none⟩) n n)∧Below w.heap.size w w'∧SetsAt w' G n ((n+63) / 64) gs Ws∧AllWd Ws∧∀b,b<n→∀x,x<n→(hasN (Ws b) x=true↔Sp (Iav n) (Tse n) (·∈ord) (fun b=>src.getD b []) b x):=by
 have hKb:(n+63) / 64≤16:=by omega
 have hKn:n≤64*((n+63) / 64):=by omega
 have HN1:=hide (newSets_blockNo n n w hn (by omega))
 have HN2:=hide (fun W=>newSets_blockNo n n W hn (by omega))
 generalize (n+63) / 64=K at *
 go_enter Tryz.func133,Tryz.ntmps133
 go_wp2_with fail
 refine HN1.out.mono ?_
 rintro e w1 ⟨G,gs,rfl,hG,hb1,hs1,hu1⟩
 have HB1:=hide hb1
 have HS1:=hide hs1
 clear hb1 hs1 HN1
 go_wp2_with fail
 refine (HN2.out w1).mono ?_
 rintro e w2 ⟨G2,gs2,rfl,hG2,hb2,hs2,hu2⟩
 have HB2:=hide (bnext HB1.out hb2)
 have HS2:=hide (HS1.out.keep hb2)
 have HT2:=hide hs2
 have hGl:G<w1.heap.size:=HS1.out.row.lt
 have HGL:Hid (∀i,i<n→gs i<w1.heap.size):=hide (fun i hi=>(HS1.out.set i hi).lt)
 have HU1:=hide hu1
 have HG1:=hide HB1.out.size
 have HU2:=hide hu2
 clear hb2 hs2 HN2 HB1 HS1 hu1 hu2
 go_wp2_with fail
 have HD1:Hid (∀i j,i<n→j<n→gs2 i≠gs j):=hide (fun i j hi hj e=>by have:=HGL.out j hj;have:=HU2.out i hi;omega)
 have HD2:Hid (∀i,i<n→G≠gs2 i):=hide (fun i hi e=>by have:=HU2.out i hi;omega)
 have HD3:Hid (∀i,i<n→G2≠gs i):=hide (fun i hi e=>by have:=HGL.out i hi;omega)
 have HI0:Hid (SetsAt w2 G n K gs (Iav 0)):=hide (by
  have e:(fun _ _=>0:Nat→Nat→Nat)=Iav 0:=by funext i;unfold Iav;split<;>rfl
  rw [←e];exact HS2.out)
 have HT0:Hid (SetsAt w2 G2 n K gs2 (Tse 0)):=hide (by
  have e:(fun _ _=>0:Nat→Nat→Nat)=Tse 0:=by funext i;unfold Tse;rw [if_neg (by omega)]
  rw [←e];exact HT2.out)
 clear HS2 HT2
 go_loopw [18] (fun u wr=>∃b:Nat,b≤n∧u=.int .i64 b∧Hid (Below w.heap.size w wr)∧Hid (w2.heap.size≤wr.heap.size)∧Hid (SetsAt wr G n K gs (Iav b))∧Hid (SetsAt wr G2 n K gs2 (Tse b))) (fun u _=>n-(intOf u).toNat)
 case atStart=>exact ⟨0,Nat.zero_le _,rfl,HB2,hide (Nat.le_refl _),HI0,HT0⟩
 case round =>
  obtain ⟨b,hb,rfl,HB,HZ,HI,HT⟩:=hrel
  clear HI0 HT0 HB2
  by_cases hlt:b<n
  ·have k1:=HT.out.row.cell hlt
   have k0:=HI.out.row.cell hn1
   go_wp2_with fail
   have HIA:Hid (IntsAt (wr.alloc (.cells #[.int .i64 (b:Int)] 150)) wr.heap.size (wr.heap.size+1) (some ⟨wr.heap.size,0,none⟩) ([b].map Int.ofNat)):=hide (ints_one wr b _)
   have HRB:Hid (∀t∈[b],t<64*K):=hide (fun t ht=>by
    have:t=b:=by simpa using ht
    omega)
   have HTA:=hide (HT.out.keep (balloc (Below.refl _ _) (.cells #[.int .i64 (b:Int)] 150)))
   have HIA2:=hide (HI.out.keep (balloc (Below.refl _ _) (.cells #[.int .i64 (b:Int)] 150)))
   have HBA:=hide (balloc HB.out (.cells #[.int .i64 (b:Int)] 150))
   have hzA:wr.heap.size+1≤(wr.alloc (.cells #[.int .i64 (b:Int)] 150)).heap.size:=by simp
   have hlg:gs2 b<wr.heap.size:=(HT.out.set b hlt).lt
   have hl0:gs 0<wr.heap.size:=(HI.out.set 0 hn1).lt
   clear HB HI HT k1 k0
   generalize wr.alloc (.cells #[.int .i64 (b:Int)] 150)=wa at *
   refine (add_blockNo (gs2 b) K 1 1 (Tse b b) _ [b] wr.heap.size (wr.heap.size+1) wa HIA (hide rfl) (by omega) HRB (by omega) (hide (tse_wd b b)) (hide (HTA.out.set b hlt)) hzA (by omega)).mono ?_
   rintro e w5 ⟨rfl,hg5,hr5⟩
   have HT5:Hid (SetsAt w5 G2 n K gs2 (Tse (b+1))):=hide (by rw [←tse_next];exact HTA.out.wrote hlt hg5 hr5)
   have HI5:=hide (HIA2.out.grown hg5 (HD2.out b hlt) (fun i hi e=>HD1.out b i hlt hi e.symm))
   have HB5:Hid (Below w.heap.size w w5):=hide (HBA.out.grown hg5 HBA.out.size (fun k e=>by cases e;have:=HU2.out b hlt;have:=HG1.out;omega))
   have HZ5:Hid (w2.heap.size≤w5.heap.size):=hide (by have:=hg5.size;have:=HZ.out;omega)
   clear hg5 hr5 HTA HIA2 HBA HIA
   by_cases hb0:b=0
   ·have HI6:Hid (SetsAt w5 G n K gs (Iav (b+1))):=hide (by subst hb0;rw [iav_next0];exact HI5.out)
    have hbb:((b:Int)==0)=true:=by simp [hb0]
    have hbc:((b:Int) != 0)=false:=by simp [hb0]
    clear hb0
    go_wp2_with fail
    exact ⟨⟨b+1,by omega,by go_num,HB5,HZ5,HI6,HT5⟩,by simp [intOf];omega⟩
   ·have hbb:((b:Int)==0)=false:=by simp [hb0]
    have hbc:((b:Int) != 0)=true:=by simp [hb0]
    have k0:=HI5.out.row.cell hn1
    go_wp2_with fail
    have HIA:Hid (IntsAt (w5.alloc (.cells #[.int .i64 (b:Int)] 150)) w5.heap.size (w5.heap.size+1) (some ⟨w5.heap.size,0,none⟩) ([b].map Int.ofNat)):=hide (ints_one w5 b _)
    have HTA:=hide (HT5.out.keep (balloc (Below.refl _ _) (.cells #[.int .i64 (b:Int)] 150)))
    have HIA2:=hide (HI5.out.keep (balloc (Below.refl _ _) (.cells #[.int .i64 (b:Int)] 150)))
    have HBA:=hide (balloc HB5.out (.cells #[.int .i64 (b:Int)] 150))
    have hzB:w5.heap.size+1≤(w5.alloc (.cells #[.int .i64 (b:Int)] 150)).heap.size:=by simp
    have hl5:gs 0<w5.heap.size:=(HI5.out.set 0 hn1).lt
    clear HB5 HI5 HT5 k0
    generalize w5.alloc (.cells #[.int .i64 (b:Int)] 150)=wb at *
    refine (add_blockNo (gs 0) K 1 1 (Iav b 0) _ [b] w5.heap.size (w5.heap.size+1) wb HIA (hide rfl) (by omega) HRB (by omega) (hide (iav_wd b 0)) (hide (HIA2.out.set 0 hn1)) hzB (by omega)).mono ?_
    rintro e w6 ⟨rfl,hg6,hr6⟩
    have HI6:Hid (SetsAt w6 G n K gs (Iav (b+1))):=hide (by rw [←iav_next hb0];exact HIA2.out.wrote hn1 hg6 hr6)
    have HT6:=hide (HTA.out.grown hg6 (HD3.out 0 hn1) (fun i hi=>HD1.out i 0 hi hn1))
    have HB6:Hid (Below w.heap.size w w6):=hide (HBA.out.grown hg6 HBA.out.size (fun k e=>by cases e;exact HU1.out 0 hn1))
    have HZ6:Hid (w2.heap.size≤w6.heap.size):=hide (by have:=hg6.size;have:=HZ5.out;omega)
    clear hg6 hr6 HTA HIA2 HBA HIA
    go_wp2_with fail
    exact ⟨⟨b+1,by omega,by go_num,HB6,HZ6,HI6,HT6⟩,by simp [intOf];omega⟩
  ·have hbn:b=n:=by omega
   subst hbn
   go_wp2_with fail
   refine (spread_blockNo b0 o0 n0 c0 ord L1 B1 pa b pc src L2 B2 G G2 b K gs gs2 (Iav b) (Tse b) wr (hide (hord.out.keep (HB.out.mono hB1))) h0 hn0 hn0' (hide (hsrc.out.keepS (fun k _ h2=>(HB.out.mono hB2).block k h2))) hs (hide hs.out.symm) (by omega) (by have:=HB.out.size;omega) (by have:=HB.out.size;omega) HI HT (hide (iav_wd b)) (hide (tse_wd b)) (hide (fun i hi h=>by have:=HU1.out i hi;omega)) HD3 HD1 ho hsr).mono ?_
   rintro e w7 ⟨rfl,hf7,Ws,hw7,hs7,hh7⟩
   have HB7:Hid (Below w.heap.size w w7):=hide ⟨hf7.os.trans HB.out.os,hf7.tape.trans HB.out.tape,hf7.output.trans HB.out.output,Nat.le_trans HB.out.size hf7.size,fun k hk=>(hf7.block k (by have:=HB.out.size;omega) (fun i hi e=>by have:=HU1.out i hi;omega)).trans (HB.out.block k hk)⟩
   have HS7:=hide hs7
   have HW7:=hide hw7
   have HH7:=hide hh7
   clear hf7 hw7 hs7 hh7
   go_wp2_with fail
   go_ret
   exact ⟨G,gs,Ws,rfl,HB7.out,HS7.out,HW7.out,fun c hc x hx=>HH7.out c hc x (by omega)⟩
end Go.Proofs.YthgikffcdgpgiaaGreatDoor

namespace Go.Proofs.YthgikffcdgpgiaaGreatDoor
def nrF (Ws:Nat→Nat→Nat) (ord:List Nat):Nat→Nat→Int
 | 0,_=>-1
 | i+1,z=>match (ord.take i).reverse.find? (fun a=>!hasN (Ws (ord.getD i 0)) a) with
  | some a=>if z=ord.getD i 0 then (a:Int) else nrF Ws ord i z
  | none=>nrF Ws ord i z
theorem nrF_some {Ws:Nat→Nat→Nat} {ord:List Nat} {i a:Nat} (h:(ord.take i).reverse.find? (fun a=>!hasN (Ws (ord.getD i 0)) a)=some a) (z:Nat):nrF Ws ord (i+1) z=if z=ord.getD i 0 then (a:Int) else nrF Ws ord i z:=by
 rw [nrF,h]
theorem nrF_none {Ws:Nat→Nat→Nat} {ord:List Nat} {i:Nat} (h:(ord.take i).reverse.find? (fun a=>!hasN (Ws (ord.getD i 0)) a)=none) (z:Nat):nrF Ws ord (i+1) z=nrF Ws ord i z:=by
 rw [nrF,h]
theorem bw_rev {zs:List Nat} {N:Nat} (hz:∀z∈zs,z<N) (h0:0<N) {len:Nat} (hl:len≤zs.length):(bwTo (pbAt hz h0) len 0).map (fun x=>x.1.2)=(zs.take len).reverse:=by
 apply List.ext_getElem
 ·simp [bwTo,hl]
 ·intro j h1 h2
  have hj:j<len:=by simpa [bwTo] using h1
  have h3:len-1-j<zs.length:=by omega
  simp [bwTo,pbAt,Nat.min_eq_left hl,List.getElem?_eq_getElem h3]
theorem bw_pre {α:Type} (f:Nat→α) {len:Nat}:∀(k:Nat),k≤len→∃r,bwTo f len 0=bwTo f len k++r
 | 0,_=>⟨[],by simp⟩
 | k+1,h=>by
  obtain ⟨r,hr⟩:=bw_pre f (len:=len) k (by omega)
  exact ⟨f k::r,by rw [hr,bw_step f (show k<len from h)];simp⟩
theorem find_hit {zs:List Nat} {N:Nat} (hz:∀z∈zs,z<N) (h0:0<N) {len k:Nat} (hl:len≤zs.length) (hk:k≤len) {p:Nat→Bool} {pre:List (Pb N)} {x:Pb N} (e:pre++[x]=bwTo (pbAt hz h0) len k) (hp:∀y∈pre,p y.1.2=false) (hx:p x.1.2=true):(zs.take len).reverse.find? p=some x.1.2:=by
 obtain ⟨r,hr⟩:=bw_pre (pbAt hz h0) k hk
 rw [←bw_rev hz h0 hl,hr,←e,List.map_append,List.map_append,List.find?_append,List.find?_append]
 have h1:(pre.map fun x=>x.1.2).find? p=none:=by
  rw [List.find?_eq_none]
  intro y hy
  obtain ⟨u,hu,rfl⟩:=List.mem_map.1 hy
  rw [hp u hu]
  decide
 rw [h1]
 simp [hx]
theorem find_miss {zs:List Nat} {N:Nat} (hz:∀z∈zs,z<N) (h0:0<N) {len:Nat} (hl:len≤zs.length) {p:Nat→Bool} (hp:∀y∈bwTo (pbAt hz h0) len 0,p y.1.2=false):(zs.take len).reverse.find? p=none:=by
 rw [←bw_rev hz h0 hl,List.find?_eq_none]
 intro y hy
 obtain ⟨u,hu,rfl⟩:=List.mem_map.1 hy
 rw [hp u hu]
 decide
theorem nrF_not {Ws:Nat→Nat→Nat} {ord:List Nat} {b:Nat}:∀(i:Nat),i≤ord.length→(∀j,j<i→ord.getD j 0≠b)→nrF Ws ord i b=-1
 | 0,_,_=>rfl
 | i+1,hi,h=>by
  have ih:=nrF_not (Ws:=Ws) i (by omega) (fun j hj=>h j (by omega))
  rw [nrF]
  split
  ·rw [if_neg (fun e=>h i (by omega) e.symm)];exact ih
  ·exact ih
theorem nrF_stay {Ws:Nat→Nat→Nat} {ord:List Nat} {b i:Nat}:∀(m:Nat),(∀j,i≤j→j<i+m→ord.getD j 0≠b)→nrF Ws ord (i+m) b=nrF Ws ord i b
 | 0,_=>rfl
 | m+1,h=>by
  have ih:=nrF_stay (Ws:=Ws) (i:=i) m (fun j h1 h2=>h j h1 (by omega))
  rw [←ih,←Nat.add_assoc,nrF]
  split
  ·rw [if_neg (fun e=>h (i+m) (by omega) (by omega) e.symm)]
  ·rfl
variable {tg : Nat → List Nat}
theorem near_isIdm {n:Nat} {Ws:Nat→Nat→Nat} {o:List Nat} (hn:o.Nodup) (hm:∀x,x∈o↔Re tg x) (hlt:∀x,Re tg x→x<n) (ho:∀x a,Dom tg a x→a≠x→Bef o a x) (hw:∀b,b<n→∀x,x<n→(hasN (Ws b) x=true↔Av tg x b)):IsIdm tg n ((List.range n).map (nrF Ws o o.length)):=by
 refine ⟨by simp,fun b hb=>?_⟩
 have e:((List.range n).map (nrF Ws o o.length)).getD b 0=nrF Ws o o.length b:=by simp [hb]
 rw [e]
 by_cases hr:b∈o
 ·obtain ⟨i,hi,ei⟩:=List.getElem_of_mem hr
  have key:=List.pairwise_iff_getElem.1 (show o.Pairwise (·≠·) from hn)
  have gd:∀j (hj:j<o.length),o.getD j 0=o[j]:=fun j hj=>by simp [hj]
  have h1:nrF Ws o o.length b=nrF Ws o (i+1) b:=by
   have:=nrF_stay (Ws:=Ws) (ord:=o) (b:=b) (i:=i+1) (o.length-(i+1)) (fun j h1 h2=>by
    have hj:j<o.length:=by omega
    rw [gd j hj,←ei]
    exact fun e=>key i j hi hj (by omega) e.symm)
   rw [show i+1+(o.length-(i+1))=o.length by omega] at this
   exact this
  have h2:nrF Ws o i b=-1:=nrF_not i (by omega) (fun j hj=>by
   have hj':j<o.length:=by omega
   rw [gd j hj',←ei]
   exact key j i hj' hi hj)
  have hp:∀a∈o,(!hasN (Ws (o.getD i 0)) a)=true↔¬Av tg a o[i]:=fun a ha=>by
   rw [gd i hi,←hw o[i] (by rw [ei];exact hb) a (hlt a ((hm a).1 ha))]
   simp
  have h3:=near_prog hn hm ho hi hp
  rw [h1]
  cases hf:(o.take i).reverse.find? (fun a=>!hasN (Ws (o.getD i 0)) a) with
  | some a =>
   rw [hf] at h3
   rw [nrF_some hf,gd i hi,ei,if_pos rfl]
   exact Or.inl ⟨a,by rw [←ei];exact h3,rfl⟩
  | none =>
   rw [hf] at h3
   rw [nrF_none hf,h2]
   exact Or.inr ⟨by rw [←ei];exact h3,rfl⟩
 ·refine Or.inr ⟨fun c hc=>absurd ((hm b).2 hc.rb) hr,nrF_not _ (Nat.le_refl _) (fun j hj e=>hr ?_)⟩
  have:o.getD j 0=o[j]:=by simp [hj]
  rw [←e,this]
  exact List.getElem_mem hj
end Go.Proofs.YthgikffcdgpgiaaGreatDoor
