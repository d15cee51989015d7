import Derived.Test.YthgikffcdgpgiaaGreatDoorRC2
import Derived.Test.YthgikffcdgpgiaaGreatDoorSP0
namespace Go.Proofs.YthgikffcdgpgiaaGreatDoor
set_option maxHeartbeats 2000000
set_option maxRecDepth 100000
open Go.RowKit
def ZeM(o:Option Nat):Int:=match o with
 | some a=>(a:Int)
 | none=>-1
def K5(cnt:Nat->Nat)(b:Nat)(best:Option Nat)(a:Nat):Option Nat:=if a≠b/\(best=none\/∃k,best=some k/\cnt a > cnt k)then some a else best
theorem ZdA{cnt:Nat->Nat}{b:Nat}{ds:List Nat}{j:Nat}(h:j<ds.length):bestP cnt b (ds.take (j+1))=K5 cnt b (bestP cnt b (ds.take j)) ds[j]:=by
 unfold bestP K5;rw[List.take_succ_eq_append_getElem h,List.foldl_append];rfl
def idomP(dss:List (List Nat))(b:Nat):Int:=ZeM (bestP (fun a=>(dss.getD a []).length) b (dss.getD b []))
theorem ZfK{cnt:Nat->Nat}{b:Nat}:∀(ds:List Nat){a:Nat},bestP cnt b ds=some a->a∈ds:=fun ds=>by
 have key:∀(l:List Nat)(best:Option Nat)(a:Nat),l.foldl (fun best a=>if a≠b/\(best=none\/∃k,best=some k/\cnt a > cnt k)then some a else best) best=some a->best=some a\/a∈l:=fun l=>by
  induction l with
  | nil=>intro best a h;exact Or.inl h
  | cons c l ih =>
   intro best a h;rw[List.foldl_cons]at h;rcases ih _ a h with h1 | h1
   ·split at h1
    ·injection h1 with h1
     exact Or.inr (by rw[h1];exact List.mem_cons_self)
    ·exact Or.inl h1
   ·exact Or.inr (List.mem_cons_of_mem _ h1)
 intro a h;rcases key ds none a h with h1 | h1
 ·cases h1
 ·exact h1
theorem Ze9{w w':World}{B t s n:Nat}{v:Value}{cs:List Value}(h:w.ownsRow B t s v n cs)(e:w'.heap=w.heap):w'.ownsRow B t s v n cs:=by
 unfold World.ownsRow at *;rw[e];exact h
theorem ZdV(da:Option Addr)(n dc:Nat)(dss:List (List Nat))(L B:Nat)(w:World)(hd:Hid (XF w L B da (dss.map Xh)))(hx:Hid (n=dss.length))(hn:n<=1000)(hB:B<=w.heap.size)(hl:Hid (∀l∈dss,l.length<=1000/\∀a∈l,a<n)) :
 Calls Tryz.prog 44 #[.slice da n dc] w fun e w'=>∃v,e=.returned v/\Below w.heap.size w w'/\w'.ownsRow w.heap.size 2 1 v n (((List.range n).map (idomP dss)).map (Value.int .i64)):=by
 obtain⟨i0,hi0,hz0,hz1,hz2⟩:=X7 Tryz.info2'
 go_enter Tryz.func44,Tryz.ntmps44
 go_wp2_with fail
 go_loopw [3,4] (fun v u wr=>∃b:Nat,b<=n/\u=.int .i64 b/\Hid (Below w.heap.size w wr)/\Hid (wr.ownsRow w.heap.size 2 1 v b (((List.range b).map (idomP dss)).map (Value.int .i64)))) (fun _ u _=>n-(intOf u).toNat)
 case atStart=>exact⟨0,Nat.zero_le _,rfl,Xa (Xb (Below.refl _ _) _),Xa (by
  have:=World.ownsRow_lit (base:=w.heap.size) (e:=2) (size:=1) w #[] 0 sP sP rfl;simpa using this)⟩
 case round =>
  obtain⟨b,hb,rfl,HB,HO⟩:=hrel;by_cases hlt:b<n
  ·have hbx:b<dss.length:=by have:=hx.out;omega
   have HDD:Hid (∀t (h:t<dss.length),∃bd od a' c',da=some ⟨bd,od,none⟩/\bd<B/\w.cell? ⟨bd,od+t,none⟩=some (.slice a' dss[t].length c')/\Xg w L B a' (Xh dss[t])):=Xa (fun t h=>by
    obtain⟨bd,od,e,hbd,a',c',e1,e2⟩:=hd.out t (by simpa using h);have e3:(dss.map Xh)[t]'(by simpa using h)=Xh dss[t]:=sP;rw[e3]at e1 e2;exact⟨bd,od,a',c',e,hbd.2,by rw[e1];simp[Xh],e2⟩)
   obtain⟨bd,od,ab,cb,rfl,hbd,eb,ib⟩:=HDD.out b hbx;have HHD:Hid (∀t (h:t<dss.length),∃a' c',w.cell? ⟨bd,od+t,none⟩=some (.slice a' dss[t].length c')):=Xa (fun t h=>by
    obtain⟨bd',od',a',c',e,_,e1,_⟩:=HDD.out t h;injection e with e;injection e with e4 e5;subst e4 e5;exact⟨a',c',e1⟩)
   have HLB:=Xa (hl.out dss[b] (List.getElem_mem hbx));have hlb:=HLB.1;have HIB:=Xa ib;have HGB:Hid (dss.getD b []=dss[b]):=Xa (by simp[hbx]);have HEB:=Xa eb;clear ib eb HDD;generalize dss[b]=ds at *
   go_wp2_with fail
   generalize wr=wo at *
   go_loopw [5,6] (fun bv u wq=>∃j:Nat,j<=ds.length/\u=.int .i64 j/\bv=.int .i64 (ZeM (bestP (fun a=>(dss.getD a []).length) b (ds.take j)))/\Hid (Below w.heap.size w wq)/\Hid (wq.heap=wo.heap)) (fun _ u _=>ds.length-(intOf u).toNat)
   case atStart=>exact⟨0,Nat.zero_le _,rfl,rfl,HB,Xa rfl⟩
   case round =>
    obtain⟨j,hj,rfl,rfl,HBq,HWq⟩:=hrel;have eb:=(XD HBq.out oM).trans HEB.out;by_cases hlj:j<ds.length
    ·obtain⟨bv,ov,rfl,hbv,ev⟩:=HIB.out j (by simpa [Xh]using hlj)
     have ej:=(XD HBq.out oM).trans ev;have e3:(Xh ds)[j]'(by simpa [Xh]using hlj)=((ds[j]:Nat):Int):=by simp[Xh]
     rw[e3]at ej;have haj:=HLB.2 ds[j] (List.getElem_mem hlj);have HBT:=Xa (ZdA (cnt:=fun a=>(dss.getD a []).length) (b:=b) hlj);have HBM:Hid (∀k,bestP (fun a=>(dss.getD a []).length) b (ds.take j)=some k->k<n):=Xa (fun k h=>HLB.2 k (List.mem_of_mem_take (ZfK _ h)));clear ev e3;generalize ds[j]=aj at *;generalize bestP (fun a=>(dss.getD a []).length) b (ds.take j)=bs at *;have hajx:aj<dss.length:=by have:=hx.out;omega
     obtain⟨a1,c1,h1⟩:=HHD.out aj hajx;have e1:=(XD HBq.out oM).trans h1;have HG1:Hid ((dss.getD aj []).length=dss[aj].length):=Xa (by simp[hajx]);have hl1:=(hl.out dss[aj] (List.getElem_mem hajx)).1;clear h1;by_cases hab:aj=b
     ·have HST:Hid (K5 (fun a=>(dss.getD a []).length) b bs aj=bs):=Xa (by unfold K5;rw[if_neg (fun k=>k.1 hab)])
      have q1:((aj:Int)==(b:Int))=true:=by simp[hab]
      have q2:((aj:Int) != (b:Int))=false:=by simp[hab]
      clear hab e1
      go_wp2_with fail
      refine ZB (fun _=>True) (fun hHeld=>?_);refine XE 0 ?_;refine XE 1 ?_;refine XE 2 ?_;refine XE 3 ?_;refine KV 4 ?_;refine KV 5 ?_;refine KV 6 ?_;refine KV 7 ?_;refine KV 8 ?_;refine KV 9 ?_;refine KV 10 ?_;refine KV 11 ?_;refine KV 12 ?_;refine KV 13 ?_;refine KV 14 ?_;refine KV 15 ?_;refine KV 16 ?_;refine KV 17 ?_;refine KV 18 ?_;refine KV 19 ?_;refine KV 20 ?_;refine XE 21 ?_;refine Zu ?_
      go_wp2_with fail
      exact⟨⟨j+1,oM,gM,by rw[HBT.out,HST.out],Xa HBq.drew,Xa HWq.out⟩,by simp[intOf];omega⟩
     ·have q1:((aj:Int)==(b:Int))=false:=by simp;omega
      have q2:((aj:Int) != (b:Int))=true:=by simp;omega
      cases bs with
      | none =>
       have HST:Hid (K5 (fun a=>(dss.getD a []).length) b none aj=some aj):=Xa (by unfold K5;rw[if_pos ⟨hab,Or.inl rfl⟩]);have HON:Hid (ZeM none=-1):=Xa rfl;rw[HON.out];clear e1
       go_wp2_with fail
       refine ZB (fun _=>True) (fun hHeld=>?_);refine XE 0 ?_;refine XE 1 ?_;refine XE 2 ?_;refine XE 3 ?_;refine XE 4 ?_;refine XE 5 ?_;refine XE 6 ?_;refine KV 7 ?_;refine KV 8 ?_;refine KV 9 ?_;refine KV 10 ?_;refine KV 11 ?_;refine KV 12 ?_;refine KV 13 ?_;refine KV 14 ?_;refine KV 15 ?_;refine KV 16 ?_;refine KV 17 ?_;refine KV 18 ?_;refine KV 19 ?_;refine XE 20 ?_;refine XE 21 ?_;refine Zu ?_
       go_wp2_with fail
       exact⟨⟨j+1,oM,gM,by rw[HBT.out,HST.out];rfl,Xa HBq.drew,Xa HWq.out⟩,by simp[intOf];omega⟩
      | some k =>
       have hkn:=HBM.out k rfl;have hkx:k<dss.length:=by have:=hx.out;omega
       obtain⟨a2,c2,h2⟩:=HHD.out k hkx;have e2:=(XD HBq.out oM).trans h2;have HG2:Hid ((dss.getD k []).length=dss[k].length):=Xa (by simp[hkx]);have hl2:=(hl.out dss[k] (List.getElem_mem hkx)).1;have HON:Hid (ZeM (some k)=(k:Int)):=Xa rfl;rw[HON.out];clear h2;by_cases hgt:dss[aj].length > dss[k].length
       focus
        have HST:Hid (K5 (fun a=>(dss.getD a []).length) b (some k) aj=some aj):=Xa (by unfold K5;rw[if_pos ⟨hab,Or.inr ⟨k,rfl,by show(dss.getD aj []).length > (dss.getD k []).length;rw[HG1.out,HG2.out];exact hgt⟩⟩])
       rotate_left
       focus
        have HST:Hid (K5 (fun a=>(dss.getD a []).length) b (some k) aj=some k):=Xa (by
         unfold K5;rw[if_neg (fun q=>by
          rcases q.2 with q | ⟨y,q3,q4⟩
          ·cases q
          ·injection q3 with q3
           subst q3;have q5:(dss.getD aj []).length > (dss.getD k []).length:=q4;rw[HG1.out,HG2.out]at q5;exact hgt q5)])
       all_goals (
        generalize dss[aj].length=la at *;generalize dss[k].length=lk at *
        go_wp2_with fail
        refine ZB (fun w'=>w'.cell? ⟨bd,od+aj,none⟩=some (.slice a1 la c1)/\w'.cell? ⟨bd,od+k,none⟩=some (.slice a2 lk c2)) (fun hHeld=>?_);refine XE 0 ?_;refine XE 1 ?_;refine XE 2 ?_;refine XE 3 ?_;refine XE 4 ?_;refine XE 5 ?_;refine XE 6 ?_;refine XE 7 ?_;refine XE 8 ?_;refine XE 9 ?_;refine XE 10 ?_;refine XE 11 ?_;refine XE 12 ?_;refine XE 13 ?_;refine XE 14 ?_;refine XE 15 ?_;refine XE 16 ?_;refine XE 17 ?_;refine XE 18 ?_;refine XE 19 ?_;refine XE 20 ?_;refine XE 21 ?_;refine Zu ?_
        go_wp2_with fail
        exact⟨⟨j+1,oM,gM,by rw[HBT.out,HST.out];rfl,Xa HBq.drew,Xa HWq.out⟩,by simp[intOf];omega⟩)
    ·have hje:j=ds.length:=oM
     subst hje;have HID:Hid (ZeM (bestP (fun a=>(dss.getD a []).length) b (ds.take ds.length))=idomP dss b):=Xa (by unfold idomP;rw[List.take_length,HGB.out]);rw[HID.out];have HOq:Hid (wr.ownsRow w.heap.size 2 1 u3 b (((List.range b).map (idomP dss)).map (Value.int .i64))):=Xa (Ze9 HO.out HWq.out);have hwz:=HBq.size;have HRS:Hid (((List.range (b+1)).map (idomP dss)).map (Value.int .i64)=((List.range b).map (idomP dss)).map (Value.int .i64)++[.int .i64 (idomP dss b)]):=Xa (by rw[List.range_succ];simp);generalize idomP dss b=ib at *
     go_wp2_with (at_builtin;refine wpList_append_own_at _ rfl _ _ 26 rfl w.heap.size 2 i0 (.int .i64 0) 1 8 Tryz.underlying26 hi0 hz0 hz1 hz2 rfl vZ _ _ _ rfl (HOq.alloc _) ⟨wr.heap.size,0,none⟩ 1 1 [.int .i64 ib] rfl rfl ?c1 ?c2 ?c3 ?c4 ?c5 ?_)
     case c1=>exact XY _ _ _
     case c2=>intro u hu;simp at hu;subst hu;rfl
     case c3=>unfold maxLen;omega
     case c4=>omega
     case c5=>simp;omega
     intro v8 w8 hown8 hg8 hne8 hat8;have HB8:Hid (Below w.heap.size w w8):=Xa (XI (Below.alloc HBq.out oM _) hg8 (HOq.alloc _) (Nat.le_refl _) (by simp;omega));have HO8:Hid (w8.ownsRow w.heap.size 2 1 v8 (b+1) (((List.range (b+1)).map (idomP dss)).map (Value.int .i64))):=Xa (by rw[HRS.out,List.map_map];exact hown8);clear hown8 hg8 hne8 hat8
     go_wp2_with fail
     exact⟨⟨b+1,oM,gM,HB8,HO8⟩,by simp[intOf];omega⟩
  ·have hbn:b=n:=oM
   subst hbn
   go_wp2_with fail
   go_ret
   exact⟨_,rfl,HB.out,HO.out⟩
section
variable {tg : Nat -> List Nat}
open Classical in
noncomputable def YH(tg:Nat->List Nat)(n b:Nat):List Nat:=(List.range n).filter fun a=>decide (JF tg a b)
theorem Zt{n a b:Nat}:a∈YH tg n b↔a<n/\JF tg a b:=by
 unfold YH;simp
theorem Zha(n b:Nat):(YH tg n b).Nodup:=List.nodup_range.sublist List.filter_sublist
theorem TE{n a c:Nat}(ha:a<n)(h:JF tg c a)(hne:c≠a):(YH tg n c).length<(YH tg n a).length:=by
 have h1:a ∉ YH tg n c:=fun k=>hne (JT h (Zt.1 k).2)
 have h2:(a::YH tg n c).Nodup:=List.nodup_cons.2 ⟨h1,Zha n c⟩;have h3:(a::YH tg n c) ⊆ YH tg n a:=fun x hx=>by
  rcases List.mem_cons.1 hx with rfl | hx
  ·exact Zt.2 ⟨ha,Kg h.rb⟩
  ·obtain⟨k1,k2⟩:=Zt.1 hx
   exact Zt.2 ⟨k1,TA k2 h⟩
 have:=List.Nodup.length_le_of_subset h2 h3;simp only[List.length_cons]at this;omega
theorem Kq{n b:Nat}(hb:b<n):((List.range n).map (YH tg n)).getD b []=YH tg n b:=by simp[hb]
theorem ZbX{n a b:Nat}(hn:∀x,Re tg x->x<n)(h:Idm tg a b):idomP ((List.range n).map (YH tg n)) b=(a:Int):=by
 have hbn:=hn b h.dom.rb;have han:=hn a h.dom.ra;have key:bestP (fun a=>(((List.range n).map (YH tg n)).getD a []).length) b (YH tg n b)=some a:=by
  refine Zeo (Zt.2 ⟨han,h.dom⟩) h.ne (fun c hc hcb hca=>?_);obtain⟨k1,k2⟩:=Zt.1 hc;rw[Kq k1,Kq han];exact TE han (h.near c k2 hcb) hca
 unfold idomP;rw[Kq hbn,key];rfl
theorem Zc7{n b:Nat}(hb:b<n)(h:∀c,JF tg c b->c=b):idomP ((List.range n).map (YH tg n)) b=-1:=by
 unfold idomP;rw[Kq hb,ZdO (fun a ha=>h a (Zt.1 ha).2)];rfl
end
section
variable {tg : Nat -> List Nat}
structure Y1(tg:Nat->List Nat)(n:Nat)(P:List Int):Prop where
 len:P.length=n
 get:∀b,b<n->(∃a:Nat,Idm tg a b/\P.getD b 0=(a:Int))\/((∀c,JF tg c b->c=b)/\P.getD b 0=-1)
theorem VT{n:Nat}{P Q:List Int}(h:Y1 tg n P)(k:Y1 tg n Q):P=Q:=by
 apply List.ext_getElem (h.len.trans k.len.symm);intro i h1 h2;have e1:P.getD i 0=P[i]:=by simp[h1]
 have e2:Q.getD i 0=Q[i]:=by simp[h2]
 rw[<-e1,<-e2];have hi:i<n:=by rw[<-h.len];exact h1
 rcases h.get i hi with⟨a,ha,ea⟩ | ⟨ha,ea⟩
 ·rcases k.get i hi with⟨c,hc,ec⟩ | ⟨hc,ec⟩
  ·rw[ea,ec,Zgi ha hc]
  ·exact absurd (hc a ha.dom) ha.ne
 ·rcases k.get i hi with⟨c,hc,ec⟩ | ⟨hc,ec⟩
  ·exact absurd (ha c hc.dom) hc.ne
  ·rw[ea,ec]
open Classical in
theorem ZaF{n:Nat}(hn:∀x,Re tg x->x<n)(hex:∀b,b<n->(∃a,Idm tg a b)\/∀c,JF tg c b->c=b):Y1 tg n ((List.range n).map (idomP ((List.range n).map (YH tg n)))):=by
 refine⟨sP,fun b hb=>?_⟩;have e:((List.range n).map (idomP ((List.range n).map (YH tg n)))).getD b 0=idomP ((List.range n).map (YH tg n)) b:=by simp[hb]
 rw[e];rcases hex b hb with⟨a,ha⟩ | h
 ·exact Or.inl ⟨a,ha,ZbX hn ha⟩
 ·exact Or.inr ⟨h,Zc7 hb h⟩
def chP(P:List Int)(b:Nat):List Nat:=(List.range P.length).filter fun c=>P.getD c 0==(b:Int)
def Xs(P:List Int):Nat->Nat->List Nat
 | 0,b=>[b]
 | m+1,b=>b::(chP P b).flatMap (Xs P m)
theorem Um{P:List Int}{b c:Nat}:c∈chP P b↔c<P.length/\P.getD c 0=(b:Int):=by
 unfold chP;rw[List.mem_filter,List.mem_range,beq_iff_eq]
theorem KH{n:Nat}{P:List Int}(h:Y1 tg n P){b c:Nat}(hc:c∈chP P b):Idm tg b c:=by
 obtain⟨h1,h2⟩:=Um.1 hc;rcases h.get c (by rw[<-h.len];exact h1)with⟨a,ha,ea⟩ | ⟨_,ea⟩
 ·rw[ea]at h2
  have:a=b:=oM;rw[<-this];exact ha
 ·rw[ea]at h2;omega
theorem ZhO{P:List Int}{b:Nat}:(chP P b).length<=P.length:=Nat.le_trans (List.length_filter_le _ _) sP
theorem ZH{n:Nat}{P:List Int}(h:Y1 tg n P):∀(m b x:Nat),Re tg b->x∈Xs P m b->JF tg b x
 | 0,b,x,hb,hx=>by
  have:x=b:=by simpa [Xs]using hx
  rw[this];exact Kg hb
 | m+1,b,x,hb,hx=>by
  rw[Xs,List.mem_cons]at hx;rcases hx with rfl | hx
  ·exact Kg hb
  ·obtain⟨c,hc,hx⟩:=List.mem_flatMap.1 hx
   have hi:=KH h hc;exact TA hi.dom (ZH h m c x hi.dom.rb hx)
theorem Zc3{n:Nat}{P:List Int}(h:Y1 tg n P):∀(m b:Nat),Re tg b->(Xs P m b).Nodup
 | 0,b,_=>by simp[Xs]
 | m+1,b,hb=>by
  rw[Xs,List.nodup_cons];refine⟨fun hx=>?_,?_⟩
  ·obtain⟨c,hc,hx⟩:=List.mem_flatMap.1 hx
   have hi:=KH h hc;exact hi.ne (JT hi.dom (ZH h m c b hi.dom.rb hx))
  ·unfold List.Nodup
   rw[List.pairwise_flatMap];refine⟨fun c hc=>Zc3 h m c (KH h hc).dom.rb,?_⟩;have hnd:(chP P b).Nodup:=List.nodup_range.sublist List.filter_sublist;refine List.Pairwise.imp_of_mem (fun {c d} hc hd hne x hx y hy e=>?_) hnd;subst e;have ic:=KH h hc;have id:=KH h hd;have dc:=ZH h m c x ic.dom.rb hx;have dd:=ZH h m d x id.dom.rb hy;rcases VQ dc dd with k | k
   ·exact ic.ne (JT ic.dom (id.near c k hne))
   ·exact id.ne (JT id.dom (ic.near d k (fun e=>hne e.symm)))
theorem Uq{n:Nat}{P:List Int}(h:Y1 tg n P)(hn:∀x,Re tg x->x<n)(m b:Nat)(hb:Re tg b):(Xs P m b).length<=n:=YB (Zc3 h m b hb) (fun x hx=>hn x (ZH h m b x hb hx).rb)
theorem Wn{n:Nat}{P:List Int}(h:Y1 tg n P)(hn:∀x,Re tg x->x<n){b c:Nat}(hc:c∈chP P b):(YH tg n b).length<(YH tg n c).length:=by
 have hi:=KH h hc;exact TE (hn c hi.dom.rb) hi.dom hi.ne
theorem Zfh(n b:Nat):(YH tg n b).length<=n:=Nat.le_trans (List.length_filter_le _ _) sP
theorem ZgB{n:Nat}{P:List Int}(h:Y1 tg n P)(hn:∀x,Re tg x->x<n){b:Nat}(hb:Re tg b)(h0:b≠0):∃c:Nat,P.getD b 0=(c:Int)/\c<n/\Re tg c/\(YH tg n c).length<(YH tg n b).length/\∀a,a≠b->(JF tg a b↔JF tg a c):=by
 rcases h.get b (hn b hb)with⟨c,hc,ec⟩ | ⟨hc,_⟩
 ·exact⟨c,ec,hn c hc.dom.ra,hc.dom.ra,TE (hn b hb) hc.dom hc.ne,fun a hne=>⟨fun k=>hc.near a k hne,fun k=>TA k hc.dom⟩⟩
 ·exact absurd (hc 0 (Zfy hb)) (fun e=>h0 e.symm)
end
def avL(b:Nat):List Nat:=(List.range b).filter fun x=>x != 0
def UE(b:Nat):Nat->Nat->Nat:=fun i=>if i=0 then addsN (fun _=>0) (avL b)else fun _=>0
def WU(b:Nat):Nat->Nat->Nat:=fun i=>if i<b then Yn (fun _=>0) i else fun _=>0
theorem Jw:Xw (fun _=>0):=fun _=>(by decide:0<18446744073709551616)
theorem ZeV:avL 1=[]:=rfl
theorem Zf3{b:Nat}(h:b≠0):avL (b+1)=avL b++[b]:=by
 unfold avL;rw[List.range_succ,List.filter_append];simp[h]
theorem Zgm{b x:Nat}:x∈avL b↔x<b/\x≠0:=by simp[avL]
theorem Zfr(b:Nat):XA (UE b):=fun i=>by
 unfold UE;split
 ·exact YE _ Jw
 ·exact Jw
theorem ZfS(b:Nat):XA (WU b):=fun i=>by
 unfold WU;split
 ·exact Zav Jw i
 ·exact Jw
theorem Zg5{n b x:Nat}(hx:x<n):Xf (UE n b) x=true↔b=0/\x≠0:=by
 unfold UE;by_cases e:b=0
 ·rw[if_pos e,Y4,Ze,Bool.or_false,decide_eq_true_eq,Zgm]
  exact⟨fun h=>⟨e,h.2⟩,fun h=>⟨hx,h.2⟩⟩
 ·rw[if_neg e,Ze]
  exact⟨fun h=>(by cases h),fun h=>absurd h.1 e⟩
theorem ZgR{n b x:Nat}(hb:b<n):Xf (WU n b) x=true↔x=b:=by
 unfold WU;rw[if_pos hb,YR,Ze,Bool.or_false,decide_eq_true_eq]
theorem ZdL:UE 1=fun i=>UE 0 i:=by funext i;unfold UE;rw[ZeV];rfl
theorem ZfF{b:Nat}(h:b≠0):(fun i=>if i=0 then addsN (UE b 0) [b]else UE b i)=UE (b+1):=by
 funext i;unfold UE;by_cases e:i=0
 ·subst e
  simp only[if_true];rw[Zf3 h];unfold addsN;rw[List.foldl_append]
 ·simp only[if_neg e]
theorem Zfz(b:Nat):(fun i=>if i=b then addsN (WU b b) [b]else WU b i)=WU (b+1):=by
 funext i;unfold WU;by_cases e:i=b
 ·subst e
  simp only[if_true,Nat.lt_irrefl,if_false];rw[if_pos (Nat.lt_succ_self _)];rfl
 ·simp only[if_neg e]
  by_cases h:i<b
  ·rw[if_pos h,if_pos oM]
  ·rw[if_neg h,if_neg oM]
theorem XO.grown{w w':World}{G n K b:Nat}{gs:Nat->Nat}{Ws:Nat->Nat->Nat}(h:XO w G n K gs Ws)(k:w.grownBy w' (some b))(h1:G≠b)(h2:∀i,i<n->gs i≠b):XO w' G n K gs Ws :=
 ⟨h.row.of_block (k.block _ h.row.lt (fun e=>h1 (by injection e))),fun i hi=>(h.set i hi).of_block (k.block _ (h.set i hi).lt (fun e=>h2 i hi (by injection e))),h.inj,h.out⟩
theorem Zbd(pa:Option Addr)(n pc b0 o0 n0 c0:Nat)(src:List (List Nat))(ord:List Nat)(L1 B1 L2 B2:Nat)(w:World)(hsrc:Hid (XF w L2 B2 pa (src.map Xh)))(hs:Hid (n=src.length))(hord:Hid (Xg w L1 B1 (some ⟨b0,o0,none⟩) (Xh ord)))(h0:Hid (n0=ord.length))(hn:n<=1000)(hn1:0<n)(hn0:n0<=1000)(hn0':0<n0)(hB1:B1<=w.heap.size)(hB2:B2<=w.heap.size)(ho:Hid (∀b∈ord,b<n))(hsr:Hid (∀l∈src,l.length<=2000/\∀t∈l,t<n)) :
 Calls Tryz.prog 133 #[.slice pa n pc,.slice (some ⟨b0,o0,none⟩) n0 c0] w fun e w'=>∃G gs Ws,e=.returned (.slice (some ⟨G,0,none⟩) n n)/\Below w.heap.size w w'/\XO w' G n ((n+63) / 64) gs Ws/\XA Ws/\∀b,b<n->∀x,x<n->(Xf (Ws b) x=true↔Sp (UE n) (WU n) (·∈ord) (fun b=>src.getD b []) b x):=by
 have hKb:(n+63) / 64<=16:=oM;have hKn:n<=64*((n+63) / 64):=oM;have HN1:=Xa (JB n n w hn oM);have HN2:=Xa (fun W=>JB n n W hn oM);generalize (n+63) / 64=K at *
 go_enter Tryz.func133,Tryz.ntmps133
 go_wp2_with fail
 refine HN1.mono ?_;rintro e w1 ⟨G,gs,rfl,hG,hb1,hs1,hu1⟩;have HB1:=Xa hb1;have HS1:=Xa hs1;clear hb1 hs1 HN1
 go_wp2_with fail
 refine(HN2.out w1).mono ?_;rintro e w2 ⟨G2,gs2,rfl,hG2,hb2,hs2,hu2⟩;have HB2:=Xa (Xe HB1.out hb2);have HS2:=Xa (HS1.keep hb2);have HT2:=Xa hs2;have hGl:G<w1.heap.size:=HS1.row.lt;have HGL:Hid (∀i,i<n->gs i<w1.heap.size):=Xa (fun i hi=>(HS1.set i hi).lt);have HU1:=Xa hu1;have HG1:=Xa HB1.size;have HU2:=Xa hu2;clear hb2 hs2 HN2 HB1 HS1 hu1 hu2
 go_wp2_with fail
 have HD1:Hid (∀i j,i<n->j<n->gs2 i≠gs j):=Xa (fun i j hi hj e=>by have:=HGL.out j hj;have:=HU2.out i hi;omega);have HD2:Hid (∀i,i<n->G≠gs2 i):=Xa (fun i hi e=>by have:=HU2.out i hi;omega);have HD3:Hid (∀i,i<n->G2≠gs i):=Xa (fun i hi e=>by have:=HGL.out i hi;omega);have HI0:Hid (XO w2 G n K gs (UE 0)):=Xa (by
  have e:(fun _ _=>0:Nat->Nat->Nat)=UE 0:=by funext i;unfold UE;split<;>rfl
  rw[<-e];exact HS2.out)
 have HT0:Hid (XO w2 G2 n K gs2 (WU 0)):=Xa (by
  have e:(fun _ _=>0:Nat->Nat->Nat)=WU 0:=by funext i;unfold WU;rw[if_neg oM]
  rw[<-e];exact HT2.out)
 clear HS2 HT2
 go_loopw [18] (fun u wr=>∃b:Nat,b<=n/\u=.int .i64 b/\Hid (Below w.heap.size w wr)/\Hid (w2.heap.size<=wr.heap.size)/\Hid (XO wr G n K gs (UE b))/\Hid (XO wr G2 n K gs2 (WU b))) (fun u _=>n-(intOf u).toNat)
 case atStart=>exact⟨0,Nat.zero_le _,rfl,HB2,Xa (Nat.le_refl _),HI0,HT0⟩
 case round =>
  obtain⟨b,hb,rfl,HB,HZ,HI,HT⟩:=hrel;clear HI0 HT0 HB2;by_cases hlt:b<n
  ·have k1:=HT.row.cell hlt
   have k0:=HI.row.cell hn1
   go_wp2_with fail
   have HIA:Hid (Xg (wr.alloc (.cells #[.int .i64 (b:Int)] 150)) wr.heap.size (wr.heap.size+1) (some ⟨wr.heap.size,0,none⟩) ([b].map Int.ofNat)):=Xa (Tg wr b _);have HRB:Hid (∀t∈[b],t<64*K):=Xa (fun t ht=>by
    have:t=b:=by simpa using ht
    omega)
   have HTA:=Xa (HT.keep (Xb (Below.refl _ _) (.cells #[.int .i64 (b:Int)] 150)));have HIA2:=Xa (HI.keep (Xb (Below.refl _ _) (.cells #[.int .i64 (b:Int)] 150)));have HBA:=Xa (Xb HB.out (.cells #[.int .i64 (b:Int)] 150));have hzA:wr.heap.size+1<=(wr.alloc (.cells #[.int .i64 (b:Int)] 150)).heap.size:=sP;have hlg:gs2 b<wr.heap.size:=(HT.set b hlt).lt;have hl0:gs 0<wr.heap.size:=(HI.set 0 hn1).lt;clear HB HI HT k1 k0;generalize wr.alloc (.cells #[.int .i64 (b:Int)] 150)=wa at *;refine(JR (gs2 b) K 1 1 (WU b b) _ [b] wr.heap.size (wr.heap.size+1) wa HIA (Xa rfl) oM HRB oM (Xa (ZfS b b)) (Xa (HTA.set b hlt)) hzA oM).mono ?_;rintro e w5 ⟨rfl,hg5,hr5⟩;have HT5:Hid (XO w5 G2 n K gs2 (WU (b+1))):=Xa (by rw[<-Zfz];exact HTA.wrote hlt hg5 hr5);have HI5:=Xa (HIA2.grown hg5 (HD2.out b hlt) (fun i hi e=>HD1.out b i hlt hi e.symm));have HB5:Hid (Below w.heap.size w w5):=Xa (HBA.grown hg5 HBA.size (fun k e=>by cases e;have:=HU2.out b hlt;have:=HG1.out;omega));have HZ5:Hid (w2.heap.size<=w5.heap.size):=Xa (by have:=hg5.size;have:=HZ.out;omega);clear hg5 hr5 HTA HIA2 HBA HIA;by_cases hb0:b=0
   ·have HI6:Hid (XO w5 G n K gs (UE (b+1))):=Xa (by subst hb0;rw[ZdL];exact HI5.out)
    have hbb:((b:Int)==0)=true:=by simp[hb0]
    have hbc:((b:Int) != 0)=false:=by simp[hb0]
    clear hb0
    go_wp2_with fail
    exact⟨⟨b+1,oM,gM,HB5,HZ5,HI6,HT5⟩,by simp[intOf];omega⟩
   ·have hbb:((b:Int)==0)=false:=by simp[hb0]
    have hbc:((b:Int) != 0)=true:=by simp[hb0]
    have k0:=HI5.row.cell hn1
    go_wp2_with fail
    have HIA:Hid (Xg (w5.alloc (.cells #[.int .i64 (b:Int)] 150)) w5.heap.size (w5.heap.size+1) (some ⟨w5.heap.size,0,none⟩) ([b].map Int.ofNat)):=Xa (Tg w5 b _);have HTA:=Xa (HT5.keep (Xb (Below.refl _ _) (.cells #[.int .i64 (b:Int)] 150)));have HIA2:=Xa (HI5.keep (Xb (Below.refl _ _) (.cells #[.int .i64 (b:Int)] 150)));have HBA:=Xa (Xb HB5.out (.cells #[.int .i64 (b:Int)] 150));have hzB:w5.heap.size+1<=(w5.alloc (.cells #[.int .i64 (b:Int)] 150)).heap.size:=sP;have hl5:gs 0<w5.heap.size:=(HI5.set 0 hn1).lt;clear HB5 HI5 HT5 k0;generalize w5.alloc (.cells #[.int .i64 (b:Int)] 150)=wb at *;refine(JR (gs 0) K 1 1 (UE b 0) _ [b] w5.heap.size (w5.heap.size+1) wb HIA (Xa rfl) oM HRB oM (Xa (Zfr b 0)) (Xa (HIA2.set 0 hn1)) hzB oM).mono ?_;rintro e w6 ⟨rfl,hg6,hr6⟩;have HI6:Hid (XO w6 G n K gs (UE (b+1))):=Xa (by rw[<-ZfF hb0];exact HIA2.wrote hn1 hg6 hr6);have HT6:=Xa (HTA.grown hg6 (HD3.out 0 hn1) (fun i hi=>HD1.out i 0 hi hn1));have HB6:Hid (Below w.heap.size w w6):=Xa (HBA.grown hg6 HBA.size (fun k e=>by cases e;exact HU1.out 0 hn1));have HZ6:Hid (w2.heap.size<=w6.heap.size):=Xa (by have:=hg6.size;have:=HZ5.out;omega);clear hg6 hr6 HTA HIA2 HBA HIA
    go_wp2_with fail
    exact⟨⟨b+1,oM,gM,HB6,HZ6,HI6,HT6⟩,by simp[intOf];omega⟩
  ·have hbn:b=n:=oM
   subst hbn
   go_wp2_with fail
   refine(Vd b0 o0 n0 c0 ord L1 B1 pa b pc src L2 B2 G G2 b K gs gs2 (UE b) (WU b) wr (Xa (hord.keep (HB.mono hB1))) h0 hn0 hn0' (Xa (hsrc.keepS (fun k _ h2=>(HB.mono hB2).block k h2))) hs (Xa hs.symm) oM (by have:=HB.size;omega) (by have:=HB.size;omega) HI HT (Xa (Zfr b)) (Xa (ZfS b)) (Xa (fun i hi h=>by have:=HU1.out i hi;omega)) HD3 HD1 ho hsr).mono ?_;rintro e w7 ⟨rfl,hf7,Ws,hw7,hs7,hh7⟩;have HB7:Hid (Below w.heap.size w w7):=Xa ⟨hf7.os.trans HB.os,hf7.tape.trans HB.tape,hf7.output.trans HB.output,Nat.le_trans HB.size hf7.size,fun k hk=>(hf7.block k (by have:=HB.size;omega) (fun i hi e=>by have:=HU1.out i hi;omega)).trans (HB.block k hk)⟩;have HS7:=Xa hs7;have HW7:=Xa hw7;have HH7:=Xa hh7;clear hf7 hw7 hs7 hh7
   go_wp2_with fail
   go_ret
   exact⟨G,gs,Ws,rfl,HB7.out,HS7.out,HW7.out,fun c hc x hx=>HH7.out c hc x oM⟩
section
def T1(Ws:Nat->Nat->Nat)(ord:List Nat):Nat->Nat->Int
 | 0,_=>-1
 | i+1,z=>match (ord.take i).reverse.find? (fun a=>!Xf (Ws (ord.getD i 0)) a)with
  | some a=>if z=ord.getD i 0 then (a:Int)else T1 Ws ord i z
  | none=>T1 Ws ord i z
theorem Zbp{Ws:Nat->Nat->Nat}{ord:List Nat}{i a:Nat}(h:(ord.take i).reverse.find? (fun a=>!Xf (Ws (ord.getD i 0)) a)=some a)(z:Nat):T1 Ws ord (i+1) z=if z=ord.getD i 0 then (a:Int)else T1 Ws ord i z:=by
 rw[T1,h]
theorem Za6{Ws:Nat->Nat->Nat}{ord:List Nat}{i:Nat}(h:(ord.take i).reverse.find? (fun a=>!Xf (Ws (ord.getD i 0)) a)=none)(z:Nat):T1 Ws ord (i+1) z=T1 Ws ord i z:=by
 rw[T1,h]
theorem ZeJ{zs:List Nat}{N:Nat}(hz:∀z∈zs,z<N)(h0:0<N){len:Nat}(hl:len<=zs.length):(Jk (Ug hz h0) len 0).map (fun x=>x.1.2)=(zs.take len).reverse:=by
 apply List.ext_getElem
 ·simp[Jk,hl]
 ·intro j h1 h2
  have hj:j<len:=by simpa [Jk]using h1
  have h3:len-1-j<zs.length:=oM;simp[Jk,Ug,Nat.min_eq_left hl,List.getElem?_eq_getElem h3]
theorem Ze2{α:Type}(f:Nat->α){len:Nat}:∀(k:Nat),k<=len->∃r,Jk f len 0=Jk f len k++r
 | 0,_=>⟨[],sP⟩
 | k+1,h=>by
  obtain⟨r,hr⟩:=Ze2 f (len:=len) k oM;exact⟨f k::r,by rw[hr,Wz f (show k<len from h)];simp⟩
theorem Zfq{zs:List Nat}{N:Nat}(hz:∀z∈zs,z<N)(h0:0<N){len k:Nat}(hl:len<=zs.length)(hk:k<=len){p:Nat->Bool}{pre:List (Pb N)}{x:Pb N}(e:pre++[x]=Jk (Ug hz h0) len k)(hp:∀y∈pre,p y.1.2=false)(hx:p x.1.2=true):(zs.take len).reverse.find? p=some x.1.2:=by
 obtain⟨r,hr⟩:=Ze2 (Ug hz h0) k hk;rw[<-ZeJ hz h0 hl,hr,<-e,List.map_append,List.map_append,List.find?_append,List.find?_append];have h1:(pre.map fun x=>x.1.2).find? p=none:=by
  rw[List.find?_eq_none];intro y hy;obtain⟨u,hu,rfl⟩:=List.mem_map.1 hy;rw[hp u hu];decide
 rw[h1];simp[hx]
theorem ZdJ{zs:List Nat}{N:Nat}(hz:∀z∈zs,z<N)(h0:0<N){len:Nat}(hl:len<=zs.length){p:Nat->Bool}(hp:∀y∈Jk (Ug hz h0) len 0,p y.1.2=false):(zs.take len).reverse.find? p=none:=by
 rw[<-ZeJ hz h0 hl,List.find?_eq_none];intro y hy;obtain⟨u,hu,rfl⟩:=List.mem_map.1 hy;rw[hp u hu];decide
theorem Zal{Ws:Nat->Nat->Nat}{ord:List Nat}{b:Nat}:∀(i:Nat),i<=ord.length->(∀j,j<i->ord.getD j 0≠b)->T1 Ws ord i b=-1
 | 0,_,_=>rfl
 | i+1,hi,h=>by
  have ih:=Zal (Ws:=Ws) i oM (fun j hj=>h j oM);rw[T1];split
  ·rw[if_neg (fun e=>h i oM e.symm)];exact ih
  ·exact ih
theorem Za2{Ws:Nat->Nat->Nat}{ord:List Nat}{b i:Nat}:∀(m:Nat),(∀j,i<=j->j<i+m->ord.getD j 0≠b)->T1 Ws ord (i+m) b=T1 Ws ord i b
 | 0,_=>rfl
 | m+1,h=>by
  have ih:=Za2 (Ws:=Ws) (i:=i) m (fun j h1 h2=>h j h1 oM);rw[<-ih,<-Nat.add_assoc,T1];split
  ·rw[if_neg (fun e=>h (i+m) oM oM e.symm)]
  ·rfl
variable {tg : Nat -> List Nat}
theorem U4{n:Nat}{Ws:Nat->Nat->Nat}{o:List Nat}(hn:o.Nodup)(hm:∀x,x∈o↔Re tg x)(hlt:∀x,Re tg x->x<n)(ho:∀x a,JF tg a x->a≠x->Bef o a x)(hw:∀b,b<n->∀x,x<n->(Xf (Ws b) x=true↔Av tg x b)):Y1 tg n ((List.range n).map (T1 Ws o o.length)):=by
 refine⟨sP,fun b hb=>?_⟩;have e:((List.range n).map (T1 Ws o o.length)).getD b 0=T1 Ws o o.length b:=by simp[hb]
 rw[e];by_cases hr:b∈o
 ·obtain⟨i,hi,ei⟩:=List.getElem_of_mem hr
  have key:=List.pairwise_iff_getElem.1 (show o.Pairwise (·≠·) from hn);have gd:∀j (hj:j<o.length),o.getD j 0=o[j]:=fun j hj=>by simp[hj]
  have h1:T1 Ws o o.length b=T1 Ws o (i+1) b:=by
   have:=Za2 (Ws:=Ws) (ord:=o) (b:=b) (i:=i+1) (o.length-(i+1)) (fun j h1 h2=>by
    have hj:j<o.length:=oM;rw[gd j hj,<-ei];exact fun e=>key i j hi hj oM e.symm)
   rw[show i+1+(o.length-(i+1))=o.length by omega]at this;exact this
  have h2:T1 Ws o i b=-1:=Zal i oM (fun j hj=>by
   have hj':j<o.length:=oM;rw[gd j hj',<-ei];exact key j i hj' hi hj)
  have hp:∀a∈o,(!Xf (Ws (o.getD i 0)) a)=true↔¬Av tg a o[i]:=fun a ha=>by
   rw[gd i hi,<-hw o[i] (by rw[ei];exact hb) a (hlt a ((hm a).1 ha))];simp
  have h3:=ZdZ hn hm ho hi hp;rw[h1];cases hf:(o.take i).reverse.find? (fun a=>!Xf (Ws (o.getD i 0)) a)with
  | some a =>
   rw[hf]at h3;rw[Zbp hf,gd i hi,ei,if_pos rfl];exact Or.inl ⟨a,by rw[<-ei];exact h3,rfl⟩
  | none =>
   rw[hf]at h3;rw[Za6 hf,h2];exact Or.inr ⟨by rw[<-ei];exact h3,rfl⟩
 ·refine Or.inr ⟨fun c hc=>absurd ((hm b).2 hc.rb) hr,Zal _ (Nat.le_refl _) (fun j hj e=>hr ?_)⟩
  have:o.getD j 0=o[j]:=by simp[hj]
  rw[<-e,this];exact List.getElem_mem hj
end
end Go.Proofs.YthgikffcdgpgiaaGreatDoor
