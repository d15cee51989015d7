import Derived.Test.YtkehcdfalcakmaaGreatDoorE3
import Derived.RangeFuncNested
import Derived.RangeFuncBound
import Derived.RangeFuncCalls
import Derived.RangeFuncLeaves
import Derived.Shelf.Abstract
import Derived.Shelf.RegionOpen
import Derived.OwnWalkIn
import Derived.TacticsInMore
import Derived.LoopNIn
import Derived.LoopIn
namespace Go.Proofs.YtkehcdfalcakmaaGreatDoor
set_option maxHeartbeats 2000000
set_option maxRecDepth 100000
open Go.RowKit
def ZeJ(o:Option Nat):Int:=match o with
 | some a=>(a:Int)
 | none=>-1
def To(cnt:Nat->Nat)(b:Nat)(best:Option Nat)(a:Nat):Option Nat:=if a≠b/\(best=none\/∃k,best=some k/\cnt a > cnt k)then some a else best
theorem Zed{cnt:Nat->Nat}{b:Nat}{ds:List Nat}{j:Nat}(h:j<ds.length):bestP cnt b (ds.take (j+1))=To cnt b (bestP cnt b (ds.take j)) ds[j]:=by
 unfold bestP To;rw[List.take_succ_eq_append_getElem h,List.foldl_append];rfl
def idomP(dss:List (List Nat))(b:Nat):Int:=ZeJ (bestP (fun a=>(dss.getD a []).length) b (dss.getD b []))
theorem Zfz{cnt:Nat->Nat}{b:Nat}:∀(ds:List Nat){a:Nat},bestP cnt b ds=some a->a∈ds:=fun ds=>by
 have key:∀(l:List Nat)(best:Option Nat)(a:Nat),l.foldl (fun best a=>if a≠b/\(best=none\/∃k,best=some k/\cnt a > cnt k)then some a else best) best=some a->best=some a\/a∈l:=fun l=>by
  induction l with
  | nil=>intro best a h;exact Or.inl h
  | cons c l ih =>
   intro best a h;rw[List.foldl_cons]at h;rcases ih _ a h with h1 | h1
   ·split at h1
    ·injection h1 with h1
     exact Or.inr (by rw[h1];exact List.mem_cons_self)
    ·exact Or.inl h1
   ·exact Or.inr (List.mem_cons_of_mem _ h1)
 intro a h;rcases key ds none a h with h1 | h1
 ·cases h1
 ·exact h1
theorem Zfl{w w':World}{B t s n:Nat}{v:Value}{cs:List Value}(h:w.ownsRow B t s v n cs)(e:w'.heap=w.heap):w'.ownsRow B t s v n cs:=by
 unfold World.ownsRow at *;rw[e];exact h
theorem ZdT(da:Option Addr)(n dc:Nat)(dss:List (List Nat))(L B:Nat)(w:World)(hd:Hid (YK w L B da (dss.map YN)))(hx:Hid (n=dss.length))(hn:n<=1000)(hB:B<=w.heap.size)(hl:Hid (∀l∈dss,l.length<=1000/\∀a∈l,a<n)) :
 Calls Tryz.prog 71 #[.slice da n dc] w fun e w'=>∃v,e=.returned v/\Below w.heap.size w w'/\w'.ownsRow w.heap.size 2 1 v n (((List.range n).map (idomP dss)).map (Value.int .i64)):=by
 obtain⟨i0,hi0,hz0,hz1,hz2⟩:=X0 Tryz.info2'
 go_enter Tryz.func71,Tryz.ntmps71
 go_wp2_with fail
 go_loopw [3,4] (fun v u wr=>∃b:Nat,b<=n/\u=.int .i64 b/\Hid (Below w.heap.size w wr)/\Hid (wr.ownsRow w.heap.size 2 1 v b (((List.range b).map (idomP dss)).map (Value.int .i64)))) (fun _ u _=>n-(intOf u).toNat)
 case atStart=>exact⟨0,Nat.zero_le _,rfl,Xa (Xb (Below.refl _ _) _),Xa (by
  have:=World.ownsRow_lit (base:=w.heap.size) (e:=2) (size:=1) w #[] 0 (by simp) (by simp) rfl;simpa using this)⟩
 case round =>
  obtain⟨b,hb,rfl,HB,HO⟩:=hrel;by_cases hlt:b<n
  ·have hbx:b<dss.length:=by have:=hx.out;omega
   have HDD:Hid (∀t (h:t<dss.length),∃bd od a' c',da=some ⟨bd,od,none⟩/\bd<B/\w.cell? ⟨bd,od+t,none⟩=some (.slice a' dss[t].length c')/\Xh w L B a' (YN dss[t])):=Xa (fun t h=>by
    obtain⟨bd,od,e,hbd,a',c',e1,e2⟩:=hd.out t (by simpa using h);have e3:(dss.map YN)[t]'(by simpa using h)=YN dss[t]:=by simp
    rw[e3]at e1 e2;exact⟨bd,od,a',c',e,hbd.2,by rw[e1];simp[YN],e2⟩)
   obtain⟨bd,od,ab,cb,rfl,hbd,eb,ib⟩:=HDD.out b hbx;have HHD:Hid (∀t (h:t<dss.length),∃a' c',w.cell? ⟨bd,od+t,none⟩=some (.slice a' dss[t].length c')):=Xa (fun t h=>by
    obtain⟨bd',od',a',c',e,_,e1,_⟩:=HDD.out t h;injection e with e;injection e with e4 e5;subst e4 e5;exact⟨a',c',e1⟩)
   have HLB:=Xa (hl.out dss[b] (List.getElem_mem hbx));have hlb:=HLB.1;have HIB:=Xa ib;have HGB:Hid (dss.getD b []=dss[b]):=Xa (by simp[hbx]);have HEB:=Xa eb;clear ib eb HDD;generalize dss[b]=ds at *
   go_wp2_with fail
   generalize wr=wo at *
   go_loopw [5,6] (fun bv u wq=>∃j:Nat,j<=ds.length/\u=.int .i64 j/\bv=.int .i64 (ZeJ (bestP (fun a=>(dss.getD a []).length) b (ds.take j)))/\Hid (Below w.heap.size w wq)/\Hid (wq.heap=wo.heap)) (fun _ u _=>ds.length-(intOf u).toNat)
   case atStart=>exact⟨0,Nat.zero_le _,rfl,rfl,HB,Xa rfl⟩
   case round =>
    obtain⟨j,hj,rfl,rfl,HBq,HWq⟩:=hrel;have eb:=(Zg HBq.out (by omega)).trans HEB.out;by_cases hlj:j<ds.length
    ·obtain⟨bv,ov,rfl,hbv,ev⟩:=HIB.out j (by simpa [YN]using hlj)
     have ej:=(Zg HBq.out (by omega)).trans ev;have e3:(YN ds)[j]'(by simpa [YN]using hlj)=((ds[j]:Nat):Int):=by simp[YN]
     rw[e3]at ej;have haj:=HLB.2 ds[j] (List.getElem_mem hlj);have HBT:=Xa (Zed (cnt:=fun a=>(dss.getD a []).length) (b:=b) hlj);have HBM:Hid (∀k,bestP (fun a=>(dss.getD a []).length) b (ds.take j)=some k->k<n):=Xa (fun k h=>HLB.2 k (List.mem_of_mem_take (Zfz _ h)));clear ev e3;generalize ds[j]=aj at *;generalize bestP (fun a=>(dss.getD a []).length) b (ds.take j)=bs at *;have hajx:aj<dss.length:=by have:=hx.out;omega
     obtain⟨a1,c1,h1⟩:=HHD.out aj hajx;have e1:=(Zg HBq.out (by omega)).trans h1;have HG1:Hid ((dss.getD aj []).length=dss[aj].length):=Xa (by simp[hajx]);have hl1:=(hl.out dss[aj] (List.getElem_mem hajx)).1;clear h1;by_cases hab:aj=b
     ·have HST:Hid (To (fun a=>(dss.getD a []).length) b bs aj=bs):=Xa (by unfold To;rw[if_neg (fun k=>k.1 hab)])
      have q1:((aj:Int)==(b:Int))=true:=by simp[hab]
      have q2:((aj:Int) != (b:Int))=false:=by simp[hab]
      clear hab e1
      go_wp2_with fail
      refine YZ (fun _=>True) (fun hHeld=>?_);refine Xl 0 ?_;refine Xl 1 ?_;refine Xl 2 ?_;refine Xl 3 ?_;refine wpAnyH_take (i:=4) (v:=undef) rfl (by kernel_rfl) (by kernel_rfl) (by kernel_rfl) (fun _ _ _ h=>h) (Or.inr ⟨by rfl,rfl⟩) (by assumption) ?_;simp only[Act.put,xA,xB,xC,xD,xE,xF];refine wpAnyH_take (i:=5) (v:=undef) rfl (by kernel_rfl) (by kernel_rfl) (by kernel_rfl) (fun _ _ _ h=>h) (Or.inr ⟨by rfl,rfl⟩) (by assumption) ?_;simp only[Act.put,xA,xB,xC,xD,xE,xF];refine wpAnyH_take (i:=6) (v:=undef) rfl (by kernel_rfl) (by kernel_rfl) (by kernel_rfl) (fun _ _ _ h=>h) (Or.inr ⟨by rfl,rfl⟩) (by assumption) ?_;simp only[Act.put,xA,xB,xC,xD,xE,xF];refine wpAnyH_take (i:=7) (v:=undef) rfl (by kernel_rfl) (by kernel_rfl) (by kernel_rfl) (fun _ _ _ h=>h) (Or.inr ⟨by rfl,rfl⟩) (by assumption) ?_;simp only[Act.put,xA,xB,xC,xD,xE,xF];refine wpAnyH_take (i:=8) (v:=undef) rfl (by kernel_rfl) (by kernel_rfl) (by kernel_rfl) (fun _ _ _ h=>h) (Or.inr ⟨by rfl,rfl⟩) (by assumption) ?_;simp only[Act.put,xA,xB,xC,xD,xE,xF];refine wpAnyH_take (i:=9) (v:=undef) rfl (by kernel_rfl) (by kernel_rfl) (by kernel_rfl) (fun _ _ _ h=>h) (Or.inr ⟨by rfl,rfl⟩) (by assumption) ?_;simp only[Act.put,xA,xB,xC,xD,xE,xF];refine wpAnyH_take (i:=10) (v:=undef) rfl (by kernel_rfl) (by kernel_rfl) (by kernel_rfl) (fun _ _ _ h=>h) (Or.inr ⟨by rfl,rfl⟩) (by assumption) ?_;simp only[Act.put,xA,xB,xC,xD,xE,xF];refine wpAnyH_take (i:=11) (v:=undef) rfl (by kernel_rfl) (by kernel_rfl) (by kernel_rfl) (fun _ _ _ h=>h) (Or.inr ⟨by rfl,rfl⟩) (by assumption) ?_;simp only[Act.put,xA,xB,xC,xD,xE,xF];refine wpAnyH_take (i:=12) (v:=undef) rfl (by kernel_rfl) (by kernel_rfl) (by kernel_rfl) (fun _ _ _ h=>h) (Or.inr ⟨by rfl,rfl⟩) (by assumption) ?_;simp only[Act.put,xA,xB,xC,xD,xE,xF];refine wpAnyH_take (i:=13) (v:=undef) rfl (by kernel_rfl) (by kernel_rfl) (by kernel_rfl) (fun _ _ _ h=>h) (Or.inr ⟨by rfl,rfl⟩) (by assumption) ?_;simp only[Act.put,xA,xB,xC,xD,xE,xF];refine wpAnyH_take (i:=14) (v:=undef) rfl (by kernel_rfl) (by kernel_rfl) (by kernel_rfl) (fun _ _ _ h=>h) (Or.inr ⟨by rfl,rfl⟩) (by assumption) ?_;simp only[Act.put,xA,xB,xC,xD,xE,xF];refine wpAnyH_take (i:=15) (v:=undef) rfl (by kernel_rfl) (by kernel_rfl) (by kernel_rfl) (fun _ _ _ h=>h) (Or.inr ⟨by rfl,rfl⟩) (by assumption) ?_;simp only[Act.put,xA,xB,xC,xD,xE,xF];refine wpAnyH_take (i:=16) (v:=undef) rfl (by kernel_rfl) (by kernel_rfl) (by kernel_rfl) (fun _ _ _ h=>h) (Or.inr ⟨by rfl,rfl⟩) (by assumption) ?_;simp only[Act.put,xA,xB,xC,xD,xE,xF];refine wpAnyH_take (i:=17) (v:=undef) rfl (by kernel_rfl) (by kernel_rfl) (by kernel_rfl) (fun _ _ _ h=>h) (Or.inr ⟨by rfl,rfl⟩) (by assumption) ?_;simp only[Act.put,xA,xB,xC,xD,xE,xF];refine wpAnyH_take (i:=18) (v:=undef) rfl (by kernel_rfl) (by kernel_rfl) (by kernel_rfl) (fun _ _ _ h=>h) (Or.inr ⟨by rfl,rfl⟩) (by assumption) ?_;simp only[Act.put,xA,xB,xC,xD,xE,xF];refine wpAnyH_take (i:=19) (v:=undef) rfl (by kernel_rfl) (by kernel_rfl) (by kernel_rfl) (fun _ _ _ h=>h) (Or.inr ⟨by rfl,rfl⟩) (by assumption) ?_;simp only[Act.put,xA,xB,xC,xD,xE,xF];refine wpAnyH_take (i:=20) (v:=undef) rfl (by kernel_rfl) (by kernel_rfl) (by kernel_rfl) (fun _ _ _ h=>h) (Or.inr ⟨by rfl,rfl⟩) (by assumption) ?_;simp only[Act.put,xA,xB,xC,xD,xE,xF];refine Xl 21 ?_;refine Y7 ?_
      go_wp2_with fail
      exact⟨⟨j+1,by omega,by go_num,by rw[HBT.out,HST.out],Xa HBq.drew,Xa HWq.out⟩,by simp[intOf];omega⟩
     ·have q1:((aj:Int)==(b:Int))=false:=by simp;omega
      have q2:((aj:Int) != (b:Int))=true:=by simp;omega
      cases bs with
      | none =>
       have HST:Hid (To (fun a=>(dss.getD a []).length) b none aj=some aj):=Xa (by unfold To;rw[if_pos ⟨hab,Or.inl rfl⟩]);have HON:Hid (ZeJ none=-1):=Xa rfl;rw[HON.out];clear e1
       go_wp2_with fail
       refine YZ (fun _=>True) (fun hHeld=>?_);refine Xl 0 ?_;refine Xl 1 ?_;refine Xl 2 ?_;refine Xl 3 ?_;refine Xl 4 ?_;refine Xl 5 ?_;refine Xl 6 ?_;refine wpAnyH_take (i:=7) (v:=undef) rfl (by kernel_rfl) (by kernel_rfl) (by kernel_rfl) (fun _ _ _ h=>h) (Or.inr ⟨by rfl,rfl⟩) (by assumption) ?_;simp only[Act.put,xA,xB,xC,xD,xE,xF];refine wpAnyH_take (i:=8) (v:=undef) rfl (by kernel_rfl) (by kernel_rfl) (by kernel_rfl) (fun _ _ _ h=>h) (Or.inr ⟨by rfl,rfl⟩) (by assumption) ?_;simp only[Act.put,xA,xB,xC,xD,xE,xF];refine wpAnyH_take (i:=9) (v:=undef) rfl (by kernel_rfl) (by kernel_rfl) (by kernel_rfl) (fun _ _ _ h=>h) (Or.inr ⟨by rfl,rfl⟩) (by assumption) ?_;simp only[Act.put,xA,xB,xC,xD,xE,xF];refine wpAnyH_take (i:=10) (v:=undef) rfl (by kernel_rfl) (by kernel_rfl) (by kernel_rfl) (fun _ _ _ h=>h) (Or.inr ⟨by rfl,rfl⟩) (by assumption) ?_;simp only[Act.put,xA,xB,xC,xD,xE,xF];refine wpAnyH_take (i:=11) (v:=undef) rfl (by kernel_rfl) (by kernel_rfl) (by kernel_rfl) (fun _ _ _ h=>h) (Or.inr ⟨by rfl,rfl⟩) (by assumption) ?_;simp only[Act.put,xA,xB,xC,xD,xE,xF];refine wpAnyH_take (i:=12) (v:=undef) rfl (by kernel_rfl) (by kernel_rfl) (by kernel_rfl) (fun _ _ _ h=>h) (Or.inr ⟨by rfl,rfl⟩) (by assumption) ?_;simp only[Act.put,xA,xB,xC,xD,xE,xF];refine wpAnyH_take (i:=13) (v:=undef) rfl (by kernel_rfl) (by kernel_rfl) (by kernel_rfl) (fun _ _ _ h=>h) (Or.inr ⟨by rfl,rfl⟩) (by assumption) ?_;simp only[Act.put,xA,xB,xC,xD,xE,xF];refine wpAnyH_take (i:=14) (v:=undef) rfl (by kernel_rfl) (by kernel_rfl) (by kernel_rfl) (fun _ _ _ h=>h) (Or.inr ⟨by rfl,rfl⟩) (by assumption) ?_;simp only[Act.put,xA,xB,xC,xD,xE,xF];refine wpAnyH_take (i:=15) (v:=undef) rfl (by kernel_rfl) (by kernel_rfl) (by kernel_rfl) (fun _ _ _ h=>h) (Or.inr ⟨by rfl,rfl⟩) (by assumption) ?_;simp only[Act.put,xA,xB,xC,xD,xE,xF];refine wpAnyH_take (i:=16) (v:=undef) rfl (by kernel_rfl) (by kernel_rfl) (by kernel_rfl) (fun _ _ _ h=>h) (Or.inr ⟨by rfl,rfl⟩) (by assumption) ?_;simp only[Act.put,xA,xB,xC,xD,xE,xF];refine wpAnyH_take (i:=17) (v:=undef) rfl (by kernel_rfl) (by kernel_rfl) (by kernel_rfl) (fun _ _ _ h=>h) (Or.inr ⟨by rfl,rfl⟩) (by assumption) ?_;simp only[Act.put,xA,xB,xC,xD,xE,xF];refine wpAnyH_take (i:=18) (v:=undef) rfl (by kernel_rfl) (by kernel_rfl) (by kernel_rfl) (fun _ _ _ h=>h) (Or.inr ⟨by rfl,rfl⟩) (by assumption) ?_;simp only[Act.put,xA,xB,xC,xD,xE,xF];refine wpAnyH_take (i:=19) (v:=undef) rfl (by kernel_rfl) (by kernel_rfl) (by kernel_rfl) (fun _ _ _ h=>h) (Or.inr ⟨by rfl,rfl⟩) (by assumption) ?_;simp only[Act.put,xA,xB,xC,xD,xE,xF];refine Xl 20 ?_;refine Xl 21 ?_;refine Y7 ?_
       go_wp2_with fail
       exact⟨⟨j+1,by omega,by go_num,by rw[HBT.out,HST.out];rfl,Xa HBq.drew,Xa HWq.out⟩,by simp[intOf];omega⟩
      | some k =>
       have hkn:=HBM.out k rfl;have hkx:k<dss.length:=by have:=hx.out;omega
       obtain⟨a2,c2,h2⟩:=HHD.out k hkx;have e2:=(Zg HBq.out (by omega)).trans h2;have HG2:Hid ((dss.getD k []).length=dss[k].length):=Xa (by simp[hkx]);have hl2:=(hl.out dss[k] (List.getElem_mem hkx)).1;have HON:Hid (ZeJ (some k)=(k:Int)):=Xa rfl;rw[HON.out];clear h2;by_cases hgt:dss[aj].length > dss[k].length
       ·have HST:Hid (To (fun a=>(dss.getD a []).length) b (some k) aj=some aj):=Xa (by unfold To;rw[if_pos ⟨hab,Or.inr ⟨k,rfl,by show(dss.getD aj []).length > (dss.getD k []).length;rw[HG1.out,HG2.out];exact hgt⟩⟩])
        generalize dss[aj].length=la at *;generalize dss[k].length=lk at *
        go_wp2_with fail
        refine YZ (fun w'=>w'.cell? ⟨bd,od+aj,none⟩=some (.slice a1 la c1)/\w'.cell? ⟨bd,od+k,none⟩=some (.slice a2 lk c2)) (fun hHeld=>?_);refine Xl 0 ?_;refine Xl 1 ?_;refine Xl 2 ?_;refine Xl 3 ?_;refine Xl 4 ?_;refine Xl 5 ?_;refine Xl 6 ?_;refine Xl 7 ?_;refine Xl 8 ?_;refine Xl 9 ?_;refine Xl 10 ?_;refine Xl 11 ?_;refine Xl 12 ?_;refine Xl 13 ?_;refine Xl 14 ?_;refine Xl 15 ?_;refine Xl 16 ?_;refine Xl 17 ?_;refine Xl 18 ?_;refine Xl 19 ?_;refine Xl 20 ?_;refine Xl 21 ?_;refine Y7 ?_
        go_wp2_with fail
        exact⟨⟨j+1,by omega,by go_num,by rw[HBT.out,HST.out];rfl,Xa HBq.drew,Xa HWq.out⟩,by simp[intOf];omega⟩
       ·have HST:Hid (To (fun a=>(dss.getD a []).length) b (some k) aj=some k):=Xa (by
         unfold To;rw[if_neg (fun q=>by
          rcases q.2 with q | ⟨y,q3,q4⟩
          ·cases q
          ·injection q3 with q3
           subst q3;have q5:(dss.getD aj []).length > (dss.getD k []).length:=q4;rw[HG1.out,HG2.out]at q5;exact hgt q5)])
        generalize dss[aj].length=la at *;generalize dss[k].length=lk at *
        go_wp2_with fail
        refine YZ (fun w'=>w'.cell? ⟨bd,od+aj,none⟩=some (.slice a1 la c1)/\w'.cell? ⟨bd,od+k,none⟩=some (.slice a2 lk c2)) (fun hHeld=>?_);refine Xl 0 ?_;refine Xl 1 ?_;refine Xl 2 ?_;refine Xl 3 ?_;refine Xl 4 ?_;refine Xl 5 ?_;refine Xl 6 ?_;refine Xl 7 ?_;refine Xl 8 ?_;refine Xl 9 ?_;refine Xl 10 ?_;refine Xl 11 ?_;refine Xl 12 ?_;refine Xl 13 ?_;refine Xl 14 ?_;refine Xl 15 ?_;refine Xl 16 ?_;refine Xl 17 ?_;refine Xl 18 ?_;refine Xl 19 ?_;refine Xl 20 ?_;refine Xl 21 ?_;refine Y7 ?_
        go_wp2_with fail
        exact⟨⟨j+1,by omega,by go_num,by rw[HBT.out,HST.out];rfl,Xa HBq.drew,Xa HWq.out⟩,by simp[intOf];omega⟩
    ·have hje:j=ds.length:=by omega
     subst hje;have HID:Hid (ZeJ (bestP (fun a=>(dss.getD a []).length) b (ds.take ds.length))=idomP dss b):=Xa (by unfold idomP;rw[List.take_length,HGB.out]);rw[HID.out];have HOq:Hid (wr.ownsRow w.heap.size 2 1 u3 b (((List.range b).map (idomP dss)).map (Value.int .i64))):=Xa (Zfl HO.out HWq.out);have hwz:=HBq.size;have HRS:Hid (((List.range (b+1)).map (idomP dss)).map (Value.int .i64)=((List.range b).map (idomP dss)).map (Value.int .i64)++[.int .i64 (idomP dss b)]):=Xa (by rw[List.range_succ];simp);generalize idomP dss b=ib at *
     go_wp2_with (at_builtin;refine wpList_append_own_at _ rfl _ _ 44 rfl w.heap.size 2 i0 (.int .i64 0) 1 8 Tryz.underlying44 hi0 hz0 hz1 hz2 rfl (by decide) _ _ _ rfl (HOq.alloc _) ⟨wr.heap.size,0,none⟩ 1 1 [.int .i64 ib] rfl rfl ?c1 ?c2 ?c3 ?c4 ?c5 ?_)
     case c1=>exact YB _ _ _
     case c2=>intro u hu;simp at hu;subst hu;rfl
     case c3=>unfold maxLen;omega
     case c4=>omega
     case c5=>simp;omega
     intro v8 w8 hown8 hg8 hne8 hat8;have HB8:Hid (Below w.heap.size w w8):=Xa (XG (Below.alloc HBq.out (by omega) _) hg8 (HOq.alloc _) (Nat.le_refl _) (by simp;omega));have HO8:Hid (w8.ownsRow w.heap.size 2 1 v8 (b+1) (((List.range (b+1)).map (idomP dss)).map (Value.int .i64))):=Xa (by rw[HRS.out,List.map_map];exact hown8);clear hown8 hg8 hne8 hat8
     go_wp2_with fail
     exact⟨⟨b+1,by omega,by go_num,HB8,HO8⟩,by simp[intOf];omega⟩
  ·have hbn:b=n:=by omega
   subst hbn
   go_wp2_with fail
   go_ret
   exact⟨_,rfl,HB.out,HO.out⟩
end Go.Proofs.YtkehcdfalcakmaaGreatDoor
namespace Go.Proofs.YtkehcdfalcakmaaGreatDoor
variable {tg : Nat -> List Nat}
open Classical in
noncomputable def Jh(tg:Nat->List Nat)(n b:Nat):List Nat:=(List.range n).filter fun a=>decide (K9 tg a b)
theorem Jb{n a b:Nat}:a∈Jh tg n b↔a<n/\K9 tg a b:=by
 unfold Jh;simp
theorem Zg5(n b:Nat):(Jh tg n b).Nodup:=List.nodup_range.sublist List.filter_sublist
theorem Zaj{n a c:Nat}(ha:a<n)(h:K9 tg c a)(hne:c≠a):(Jh tg n c).length<(Jh tg n a).length:=by
 have h1:a ∉ Jh tg n c:=fun k=>hne (Zff h (Jb.1 k).2)
 have h2:(a::Jh tg n c).Nodup:=List.nodup_cons.2 ⟨h1,Zg5 n c⟩;have h3:(a::Jh tg n c) ⊆ Jh tg n a:=fun x hx=>by
  rcases List.mem_cons.1 hx with rfl | hx
  ·exact Jb.2 ⟨ha,TZ h.rb⟩
  ·obtain⟨k1,k2⟩:=Jb.1 hx
   exact Jb.2 ⟨k1,WU k2 h⟩
 have:=List.Nodup.length_le_of_subset h2 h3;simp only[List.length_cons]at this;omega
theorem Tf{n b:Nat}(hb:b<n):((List.range n).map (Jh tg n)).getD b []=Jh tg n b:=by simp[hb]
theorem Zca{n a b:Nat}(hn:∀x,Re tg x->x<n)(h:Idm tg a b):idomP ((List.range n).map (Jh tg n)) b=(a:Int):=by
 have hbn:=hn b h.dom.rb;have han:=hn a h.dom.ra;have key:bestP (fun a=>(((List.range n).map (Jh tg n)).getD a []).length) b (Jh tg n b)=some a:=by
  refine Ze1 (Jb.2 ⟨han,h.dom⟩) h.ne (fun c hc hcb hca=>?_);obtain⟨k1,k2⟩:=Jb.1 hc;rw[Tf k1,Tf han];exact Zaj han (h.near c k2 hcb) hca
 unfold idomP;rw[Tf hbn,key];rfl
theorem Zc8{n b:Nat}(hb:b<n)(h:∀c,K9 tg c b->c=b):idomP ((List.range n).map (Jh tg n)) b=-1:=by
 unfold idomP;rw[Tf hb,Zd9 (fun a ha=>h a (Jb.1 ha).2)];rfl
end Go.Proofs.YtkehcdfalcakmaaGreatDoor
namespace Go.Proofs.YtkehcdfalcakmaaGreatDoor
variable {tg : Nat -> List Nat}
structure ZeT(tg:Nat->List Nat)(n:Nat)(P:List Int):Prop where
 len:P.length=n
 get:∀b,b<n->(∃a:Nat,Idm tg a b/\P.getD b 0=(a:Int))\/((∀c,K9 tg c b->c=b)/\P.getD b 0=-1)
open Classical in
theorem ZbN{n:Nat}(hn:∀x,Re tg x->x<n)(hex:∀b,b<n->(∃a,Idm tg a b)\/∀c,K9 tg c b->c=b):ZeT tg n ((List.range n).map (idomP ((List.range n).map (Jh tg n)))):=by
 refine⟨by simp,fun b hb=>?_⟩;have e:((List.range n).map (idomP ((List.range n).map (Jh tg n)))).getD b 0=idomP ((List.range n).map (Jh tg n)) b:=by simp[hb]
 rw[e];rcases hex b hb with⟨a,ha⟩ | h
 ·exact Or.inl ⟨a,ha,Zca hn ha⟩
 ·exact Or.inr ⟨h,Zc8 hb h⟩
theorem Ziq(n b:Nat):(Jh tg n b).length<=n:=Nat.le_trans (List.length_filter_le _ _) (by simp)
theorem ZgR{n:Nat}{P:List Int}(h:ZeT tg n P)(hn:∀x,Re tg x->x<n){b:Nat}(hb:Re tg b)(h0:b≠0):∃c:Nat,P.getD b 0=(c:Int)/\c<n/\Re tg c/\(Jh tg n c).length<(Jh tg n b).length/\∀a,a≠b->(K9 tg a b↔K9 tg a c):=by
 rcases h.get b (hn b hb)with⟨c,hc,ec⟩ | ⟨hc,_⟩
 ·exact⟨c,ec,hn c hc.dom.ra,hc.dom.ra,Zaj (hn b hb) hc.dom hc.ne,fun a hne=>⟨fun k=>hc.near a k hne,fun k=>WU k hc.dom⟩⟩
 ·exact absurd (hc 0 (ZfA hb)) (fun e=>h0 e.symm)
end Go.Proofs.YtkehcdfalcakmaaGreatDoor
namespace Go.Proofs.YtkehcdfalcakmaaGreatDoor
open Go.RowKit
theorem YX(l:List Nat):(YN l).length=l.length:=by simp[YN]
end Go.Proofs.YtkehcdfalcakmaaGreatDoor
namespace Go.Proofs.YtkehcdfalcakmaaGreatDoor
open Go.RowKit
def ZA(w:World)(G n:Nat)(P:Nat->List Int)(U:Nat->Value):Prop :=
 w.rowIs G 150 n U/\(∀i,i<n->w.ownsRow (G+1) 2 1 (U i) (P i).length ((P i).map (Value.int .i64)))/\(∀i j,i<n->j<n->i≠j->(U i).ownBlock=none\/(U i).ownBlock≠(U j).ownBlock)
theorem ZA.alloc{w:World}{G n:Nat}{P:Nat->List Int}{U:Nat->Value}(h:ZA w G n P U)(o:Obj):ZA (w.alloc o) G n P U:=⟨h.1.alloc o,fun i hi=>(h.2.1 i hi).alloc o,h.2.2⟩
theorem ZA.below{w w':World}{G n:Nat}{P:Nat->List Int}{U:Nat->Value}(h:ZA w G n P U)(k:Below w.heap.size w w'):ZA w' G n P U:=by
 refine⟨h.1.of_block (k.block _ h.1.lt),fun i hi=>?_,h.2.2⟩;refine(h.2.1 i hi).kept (row:=none) ⟨k.os,k.tape,k.output,k.size,fun b hb _=>k.block b hb⟩ ?_;cases (U i).ownBlock<;>simp
theorem ZA.congr{w:World}{G n:Nat}{P P':Nat->List Int}{U:Nat->Value}(h:ZA w G n P U)(e:∀i,i<n->P i=P' i):ZA w G n P' U :=
 ⟨h.1,fun i hi=>by rw[<-e i hi];exact h.2.1 i hi,h.2.2⟩
theorem ZA.step{w w1:World}{G n:Nat}{P:Nat->List Int}{U:Nat->Value}(h:ZA w G n P U){t:Nat}(ht:t<n)(x:Int)(v':Value)(hg:w.grownBy w1 (U t).ownBlock)
 (ho:w1.ownsRow (G+1) 2 1 v' ((P t).length+1) ((P t).map (Value.int .i64)++[.int .i64 x])) (hat:v'.ownBlock=(U t).ownBlock\/v'.ownBlock=some w.heap.size) :
 ZA (w1.setCell ⟨G,t,none⟩ v') G n (fun i=>if i=t then P t++[x]else P i) (fun i=>if i=t then v' else U i):=by
 have hr:w1.rowIs G 150 n U:=h.1.of_block (hg.block _ h.1.lt (fun e=>by have:=((h.2.1 t ht).lt _ e.symm).1;omega));refine⟨hr.set t v',fun i hi=>?_,fun i j hi hj hij=>?_⟩
 ·refine ownsRow_setCell_below ?_ (by dsimp only;omega) _
  by_cases e:i=t
  ·subst e
   simp only[if_true,List.length_append,List.length_cons,List.length_nil,List.map_append,List.map_cons,List.map_nil];exact ho
  ·simp only[e,if_false]
   exact(h.2.1 i hi).kept hg (h.2.2 i t hi ht e)
 ·have fresh:∀m,m<n->(U m).ownBlock=none\/(U m).ownBlock≠some w.heap.size:=fun m hm=>by
   by_cases e:(U m).ownBlock=some w.heap.size
   ·have:=((h.2.1 m hm).lt _ e).2;omega
   ·exact Or.inr e
  by_cases e1:i=t
  ·subst e1
   have e2:¬j=i:=fun e=>hij e.symm
   simp only[if_true,e2,if_false];rcases hat with q | q
   ·rw[q];exact h.2.2 i j hi hj hij
   ·right
    rw[q];intro hh;rcases fresh j hj with f | f
    ·rw[f]at hh;cases hh
    ·exact f hh.symm
  ·simp only[e1,if_false]
   by_cases e2:j=t
   ·subst e2
    simp only[if_true];rcases hat with q | q
    ·rw[q];exact h.2.2 i j hi hj hij
    ·rw[q];exact fresh i hi
   ·simp only[e2,if_false]
    exact h.2.2 i j hi hj hij
theorem ZA.ints{w:World}{G n:Nat}{P:Nat->List Int}{U:Nat->Value}(h:ZA w G n P U):YK w G w.heap.size (some ⟨G,0,none⟩) ((List.range n).map P):=fun i hi=>by
 simp only[List.length_map,List.length_range]at hi;obtain⟨a,c,hv,ha⟩:=Yv (h.2.1 i hi);refine⟨G,0,rfl,⟨Nat.le_refl _,h.1.lt⟩,a,c,?_,?_⟩
 ·simp only[List.getElem_map,List.getElem_range,Nat.zero_add]
  rw[h.1.cell hi,hv]
 ·simp only[List.getElem_map,List.getElem_range]
  exact ha.mono (by omega) (Nat.le_refl _)
theorem ZA.born(w:World)(n:Nat):ZA (w.alloc (.cells (madeCells #[.slice none 0 0] n) 150)) w.heap.size n (fun _=>[]) (fun _=>.slice none 0 0) :=
 ⟨World.rowIs_made _ _ _ _,fun _ _=>World.ownsRow_nil _ _ _ _,fun _ _ _ _ _=>Or.inl rfl⟩
variable {tg : Nat -> List Nat}
open Classical in
noncomputable def TA(tg:Nat->List Nat)(k b:Nat):List Int:=YN ((List.range k).filter fun a=>decide (K9 tg a b))
open Classical in
theorem WN(k b:Nat):TA tg (k+1) b=TA tg k b++(if K9 tg k b then [(k:Int)]else []):=by
 unfold TA;rw[List.range_succ,List.filter_append,List.filter_cons,List.filter_nil];by_cases h:K9 tg k b
 ·rw[if_pos (by simpa using h),if_pos h];simp[YN]
 ·rw[if_neg (by simpa using h),if_neg h];simp[YN]
theorem Zfb(k b:Nat):(TA tg k b).length<=k:=by
 unfold TA;rw[YX];exact Nat.le_trans (List.length_filter_le _ _) (by simp)
theorem ZdF{k:Nat}(h:¬Re tg k)(b:Nat):TA tg (k+1) b=TA tg k b:=by
 rw[WN,if_neg (fun d=>h d.ra),List.append_nil]
noncomputable def Zm(tg:Nat->List Nat)(F Fa:List Nat)(k i b:Nat):List Int:=TA tg k b++(if b∈F.take i/\b ∉ Fa then [(k:Int)]else [])
theorem Zcj(F Fa:List Nat)(k b:Nat):Zm tg F Fa k 0 b=TA tg k b:=by
 unfold Zm;rw[if_neg (by simp),List.append_nil]
theorem ZdC(F Fa:List Nat)(k i b:Nat):(Zm tg F Fa k i b).length<=k+1:=by
 unfold Zm;have:=Zfb (tg:=tg) k b;rw[List.length_append];split<;>simp<;>omega
theorem JQ{F:List Nat}{i b:Nat}(hi:i<F.length):b∈F.take (i+1)↔b∈F.take i\/b=F[i]:=by
 rw[List.take_succ_eq_append_getElem hi,List.mem_append,List.mem_singleton]
theorem ZeP{F Fa:List Nat}{k i:Nat}(hi:i<F.length)(h:F[i]∈Fa)(b:Nat):Zm tg F Fa k (i+1) b=Zm tg F Fa k i b:=by
 unfold Zm;by_cases e:b=F[i]
 ·rw[if_neg (fun q=>q.2 (by rw[e];exact h)),if_neg (fun q=>q.2 (by rw[e];exact h))]
 ·by_cases q:b∈F.take i/\b ∉ Fa
  ·rw[if_pos ⟨(JQ hi).2 (Or.inl q.1),q.2⟩,if_pos q]
  ·rw[if_neg (fun r=>q ⟨((JQ hi).1 r.1).resolve_right e,r.2⟩),if_neg q]
theorem Zeb{F Fa:List Nat}{k i:Nat}(hn:F.Nodup)(hi:i<F.length)(h:F[i] ∉ Fa)(b:Nat):Zm tg F Fa k (i+1) b=if b=F[i]then Zm tg F Fa k i F[i]++[(k:Int)]else Zm tg F Fa k i b:=by
 have hnt:F[i] ∉ F.take i:=fun q=>by
  have e:F=F.take i++F.drop i:=(List.take_append_drop i F).symm;have hd:F[i]∈F.drop i:=by rw[List.drop_eq_getElem_cons hi];exact List.mem_cons_self
  rw[e,List.nodup_append]at hn;exact hn.2.2 _ q _ hd rfl
 by_cases e:b=F[i]
 ·rw[if_pos e,e]
  unfold Zm;rw[if_pos ⟨(JQ hi).2 (Or.inr rfl),h⟩,if_neg (fun q=>hnt q.1),List.append_nil]
 ·rw[if_neg e]
  unfold Zm;by_cases q:b∈F.take i/\b ∉ Fa
  ·rw[if_pos ⟨(JQ hi).2 (Or.inl q.1),q.2⟩,if_pos q]
  ·rw[if_neg (fun r=>q ⟨((JQ hi).1 r.1).resolve_right e,r.2⟩),if_neg q]
theorem ZcT{F Fa:List Nat}{k:Nat}(hF:∀x,x∈F↔Re tg x)(hFa:∀x,x∈Fa↔Av tg k x)(hk:Re tg k){i:Nat}(hi:F.length<=i)(b:Nat):Zm tg F Fa k i b=TA tg (k+1) b:=by
 rw[WN];unfold Zm;rw[List.take_of_length_le hi];by_cases h:K9 tg k b
 ·rw[if_pos ⟨(hF b).2 h.rb,fun q=>h.no ((hFa b).1 q)⟩,if_pos h]
 ·rw[if_neg (fun q=>h ⟨hk,(hF b).1 q.1,fun r=>q.2 ((hFa b).2 r)⟩),if_neg h]
end Go.Proofs.YtkehcdfalcakmaaGreatDoor
namespace Go.Proofs.YtkehcdfalcakmaaGreatDoor
open Go.RowKit
def avL(b:Nat):List Nat:=(List.range b).filter fun x=>x != 0
def Iav(b:Nat):Nat->Nat->Nat:=fun i=>if i=0 then Wx (fun _=>0) (avL b)else fun _=>0
def Tse(b:Nat):Nat->Nat->Nat:=fun i=>if i<b then Kc (fun _=>0) i else fun _=>0
theorem Zg6{b x:Nat}:x∈avL b↔x<b/\x≠0:=by simp[avL]
theorem ZgT{n b x:Nat}(hx:x<n):XS (Iav n b) x=true↔b=0/\x≠0:=by
 unfold Iav;by_cases e:b=0
 ·rw[if_pos e,VD,KG,Bool.or_false,decide_eq_true_eq,Zg6]
  exact⟨fun h=>⟨e,h.2⟩,fun h=>⟨hx,h.2⟩⟩
 ·rw[if_neg e,KG]
  exact⟨fun h=>(by cases h),fun h=>absurd h.1 e⟩
theorem ZgN{n b x:Nat}(hb:b<n):XS (Tse n b) x=true↔x=b:=by
 unfold Tse;rw[if_pos hb,Jl,KG,Bool.or_false,decide_eq_true_eq]
end Go.Proofs.YtkehcdfalcakmaaGreatDoor
namespace Go.Proofs.YtkehcdfalcakmaaGreatDoor
def nrF(Ws:Nat->Nat->Nat)(ord:List Nat):Nat->Nat->Int
 | 0,_=>-1
 | i+1,z=>match (ord.take i).reverse.find? (fun a=>!XS (Ws (ord.getD i 0)) a)with
  | some a=>if z=ord.getD i 0 then (a:Int)else nrF Ws ord i z
  | none=>nrF Ws ord i z
theorem ZfL{Ws:Nat->Nat->Nat}{ord:List Nat}{i a:Nat}(h:(ord.take i).reverse.find? (fun a=>!XS (Ws (ord.getD i 0)) a)=some a)(z:Nat):nrF Ws ord (i+1) z=if z=ord.getD i 0 then (a:Int)else nrF Ws ord i z:=by
 rw[nrF,h]
theorem Zfa{Ws:Nat->Nat->Nat}{ord:List Nat}{i:Nat}(h:(ord.take i).reverse.find? (fun a=>!XS (Ws (ord.getD i 0)) a)=none)(z:Nat):nrF Ws ord (i+1) z=nrF Ws ord i z:=by
 rw[nrF,h]
theorem Zap{Ws:Nat->Nat->Nat}{ord:List Nat}{b:Nat}:∀(i:Nat),i<=ord.length->(∀j,j<i->ord.getD j 0≠b)->nrF Ws ord i b=-1
 | 0,_,_=>rfl
 | i+1,hi,h=>by
  have ih:=Zap (Ws:=Ws) i (by omega) (fun j hj=>h j (by omega));rw[nrF];split
  ·rw[if_neg (fun e=>h i (by omega) e.symm)];exact ih
  ·exact ih
theorem ZbM{Ws:Nat->Nat->Nat}{ord:List Nat}{b i:Nat}:∀(m:Nat),(∀j,i<=j->j<i+m->ord.getD j 0≠b)->nrF Ws ord (i+m) b=nrF Ws ord i b
 | 0,_=>rfl
 | m+1,h=>by
  have ih:=ZbM (Ws:=Ws) (i:=i) m (fun j h1 h2=>h j h1 (by omega));rw[<-ih,<-Nat.add_assoc,nrF];split
  ·rw[if_neg (fun e=>h (i+m) (by omega) (by omega) e.symm)]
  ·rfl
variable {tg : Nat -> List Nat}
theorem Zcg{n:Nat}{Ws:Nat->Nat->Nat}{o:List Nat}(hn:o.Nodup)(hm:∀x,x∈o↔Re tg x)(hlt:∀x,Re tg x->x<n)(ho:∀x a,K9 tg a x->a≠x->Bef o a x)(hw:∀b,b<n->∀x,x<n->(XS (Ws b) x=true↔Av tg x b)):ZeT tg n ((List.range n).map (nrF Ws o o.length)):=by
 refine⟨by simp,fun b hb=>?_⟩;have e:((List.range n).map (nrF Ws o o.length)).getD b 0=nrF Ws o o.length b:=by simp[hb]
 rw[e];by_cases hr:b∈o
 ·obtain⟨i,hi,ei⟩:=List.getElem_of_mem hr
  have key:=List.pairwise_iff_getElem.1 (show o.Pairwise (·≠·) from hn);have gd:∀j (hj:j<o.length),o.getD j 0=o[j]:=fun j hj=>by simp[hj]
  have h1:nrF Ws o o.length b=nrF Ws o (i+1) b:=by
   have:=ZbM (Ws:=Ws) (ord:=o) (b:=b) (i:=i+1) (o.length-(i+1)) (fun j h1 h2=>by
    have hj:j<o.length:=by omega
    rw[gd j hj,<-ei];exact fun e=>key i j hi hj (by omega) e.symm)
   rw[show i+1+(o.length-(i+1))=o.length by omega]at this;exact this
  have h2:nrF Ws o i b=-1:=Zap i (by omega) (fun j hj=>by
   have hj':j<o.length:=by omega
   rw[gd j hj',<-ei];exact key j i hj' hi hj)
  have hp:∀a∈o,(!XS (Ws (o.getD i 0)) a)=true↔¬Av tg a o[i]:=fun a ha=>by
   rw[gd i hi,<-hw o[i] (by rw[ei];exact hb) a (hlt a ((hm a).1 ha))];simp
  have h3:=ZdL hn hm ho hi hp;rw[h1];cases hf:(o.take i).reverse.find? (fun a=>!XS (Ws (o.getD i 0)) a)with
  | some a =>
   rw[hf]at h3;rw[ZfL hf,gd i hi,ei,if_pos rfl];exact Or.inl ⟨a,by rw[<-ei];exact h3,rfl⟩
  | none =>
   rw[hf]at h3;rw[Zfa hf,h2];exact Or.inr ⟨by rw[<-ei];exact h3,rfl⟩
 ·refine Or.inr ⟨fun c hc=>absurd ((hm b).2 hc.rb) hr,Zap _ (Nat.le_refl _) (fun j hj e=>hr ?_)⟩
  have:o.getD j 0=o[j]:=by simp[hj]
  rw[<-e,this];exact List.getElem_mem hj
end Go.Proofs.YtkehcdfalcakmaaGreatDoor
