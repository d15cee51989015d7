import Derived.Test.YtbofmlmdgkblkaaDoorRC2
import Derived.Test.YtbofmlmdgkblkaaDoorWd
import Derived.RangeFuncNested
import Derived.RangeFuncBound
import Derived.RangeFuncCalls
import Derived.RangeFuncLeaves
import Derived.Shelf.Abstract
import Derived.Shelf.RegionOpen
import Derived.OwnWalkIn
import Derived.TacticsInMore
import Derived.LoopNIn
import Derived.LoopIn
namespace Go.Proofs.YtbofmlmdgkblkaaDoor
set_option maxHeartbeats 2000000
set_option maxRecDepth 100000
open Go.RowKit
def Zfv(o:Option Nat):Int:=match o with
 | some a=>(a:Int)
 | none=>-1
def Tm(cnt:Nat->Nat)(b:Nat)(best:Option Nat)(a:Nat):Option Nat:=if a≠b/\(best=none\/∃k,best=some k/\cnt a > cnt k)then some a else best
theorem Zdt{cnt:Nat->Nat}{b:Nat}{ds:List Nat}{j:Nat}(h:j<ds.length):bestP cnt b (ds.take (j+1))=Tm cnt b (bestP cnt b (ds.take j)) ds[j]:=by
 unfold bestP Tm;rw[List.take_succ_eq_append_getElem h,List.foldl_append];rfl
def idomP(dss:List (List Nat))(b:Nat):Int:=Zfv (bestP (fun a=>(dss.getD a []).length) b (dss.getD b []))
theorem ZfO{cnt:Nat->Nat}{b:Nat}:∀(ds:List Nat){a:Nat},bestP cnt b ds=some a->a∈ds:=fun ds=>by
 have key:∀(l:List Nat)(best:Option Nat)(a:Nat),l.foldl (fun best a=>if a≠b/\(best=none\/∃k,best=some k/\cnt a > cnt k)then some a else best) best=some a->best=some a\/a∈l:=fun l=>by
  induction l with
  | nil=>intro best a h;exact Or.inl h
  | cons c l ih =>
   intro best a h;rw[List.foldl_cons]at h;rcases ih _ a h with h1 | h1
   ·split at h1
    ·injection h1 with h1
     exact Or.inr (by rw[h1];exact List.mem_cons_self)
    ·exact Or.inl h1
   ·exact Or.inr (List.mem_cons_of_mem _ h1)
 intro a h;rcases key ds none a h with h1 | h1
 ·cases h1
 ·exact h1
theorem Ze7{w w':World}{B t s n:Nat}{v:Value}{cs:List Value}(h:w.ownsRow B t s v n cs)(e:w'.heap=w.heap):w'.ownsRow B t s v n cs:=by
 unfold World.ownsRow at *;rw[e];exact h
theorem WS(da:Option Addr)(n dc:Nat)(dss:List (List Nat))(L B:Nat)(w:World)(hd:Hid (ZK w L B da (dss.map Xk)))(hx:Hid (n=dss.length))(hn:n<=1000)(hB:B<=w.heap.size)(hl:Hid (∀l∈dss,l.length<=1000/\∀a∈l,a<n)) :
 Calls Tryd.prog 24 #[.slice da n dc] w fun e w'=>∃v,e=.returned v/\Below w.heap.size w w'/\w'.ownsRow w.heap.size 2 1 v n (((List.range n).map (idomP dss)).map (Value.int .i64)):=by
 obtain⟨i0,hi0,hz0,hz1,hz2⟩:=Xp Tryd.info2'
 go_enter Tryd.func24,Tryd.ntmps24
 go_wp2_with fail
 go_loopw [3,4] (fun v u wr=>∃b:Nat,b<=n/\u=.int .i64 b/\Hid (Below w.heap.size w wr)/\Hid (wr.ownsRow w.heap.size 2 1 v b (((List.range b).map (idomP dss)).map (Value.int .i64)))) (fun _ u _=>n-(intOf u).toNat)
 case atStart=>exact⟨0,Nat.zero_le _,rfl,Xa (Xb (Below.refl _ _) _),Xa (by
  have:=World.ownsRow_lit (base:=w.heap.size) (e:=2) (size:=1) w #[] 0 (by simp) (by simp) rfl;simpa using this)⟩
 case round =>
  obtain⟨b,hb,rfl,HB,HO⟩:=hrel;by_cases hlt:b<n
  ·have hbx:b<dss.length:=by have:=hx.out;omega
   have HDD:Hid (∀t (h:t<dss.length),∃bd od a' c',da=some ⟨bd,od,none⟩/\bd<B/\w.cell? ⟨bd,od+t,none⟩=some (.slice a' dss[t].length c')/\Xe w L B a' (Xk dss[t])):=Xa (fun t h=>by
    obtain⟨bd,od,e,hbd,a',c',e1,e2⟩:=hd.out t (by simpa using h);have e3:(dss.map Xk)[t]'(by simpa using h)=Xk dss[t]:=by simp
    rw[e3]at e1 e2;exact⟨bd,od,a',c',e,hbd.2,by rw[e1];simp[Xk],e2⟩)
   obtain⟨bd,od,ab,cb,rfl,hbd,eb,ib⟩:=HDD.out b hbx;have HHD:Hid (∀t (h:t<dss.length),∃a' c',w.cell? ⟨bd,od+t,none⟩=some (.slice a' dss[t].length c')):=Xa (fun t h=>by
    obtain⟨bd',od',a',c',e,_,e1,_⟩:=HDD.out t h;injection e with e;injection e with e4 e5;subst e4 e5;exact⟨a',c',e1⟩)
   have HLB:=Xa (hl.out dss[b] (List.getElem_mem hbx));have hlb:=HLB.1;have HIB:=Xa ib;have HGB:Hid (dss.getD b []=dss[b]):=Xa (by simp[hbx]);have HEB:=Xa eb;clear ib eb HDD;generalize dss[b]=ds at *
   go_wp2_with fail
   generalize wr=wo at *
   go_loopw [5,6] (fun bv u wq=>∃j:Nat,j<=ds.length/\u=.int .i64 j/\bv=.int .i64 (Zfv (bestP (fun a=>(dss.getD a []).length) b (ds.take j)))/\Hid (Below w.heap.size w wq)/\Hid (wq.heap=wo.heap)) (fun _ u _=>ds.length-(intOf u).toNat)
   case atStart=>exact⟨0,Nat.zero_le _,rfl,rfl,HB,Xa rfl⟩
   case round =>
    obtain⟨j,hj,rfl,rfl,HBq,HWq⟩:=hrel;have eb:=(Yn HBq.out (by omega)).trans HEB.out;by_cases hlj:j<ds.length
    ·obtain⟨bv,ov,rfl,hbv,ev⟩:=HIB.out j (by simpa [Xk]using hlj)
     have ej:=(Yn HBq.out (by omega)).trans ev;have e3:(Xk ds)[j]'(by simpa [Xk]using hlj)=((ds[j]:Nat):Int):=by simp[Xk]
     rw[e3]at ej;have haj:=HLB.2 ds[j] (List.getElem_mem hlj);have HBT:=Xa (Zdt (cnt:=fun a=>(dss.getD a []).length) (b:=b) hlj);have HBM:Hid (∀k,bestP (fun a=>(dss.getD a []).length) b (ds.take j)=some k->k<n):=Xa (fun k h=>HLB.2 k (List.mem_of_mem_take (ZfO _ h)));clear ev e3;generalize ds[j]=aj at *;generalize bestP (fun a=>(dss.getD a []).length) b (ds.take j)=bs at *;have hajx:aj<dss.length:=by have:=hx.out;omega
     obtain⟨a1,c1,h1⟩:=HHD.out aj hajx;have e1:=(Yn HBq.out (by omega)).trans h1;have HG1:Hid ((dss.getD aj []).length=dss[aj].length):=Xa (by simp[hajx]);have hl1:=(hl.out dss[aj] (List.getElem_mem hajx)).1;clear h1;by_cases hab:aj=b
     ·have HST:Hid (Tm (fun a=>(dss.getD a []).length) b bs aj=bs):=Xa (by unfold Tm;rw[if_neg (fun k=>k.1 hab)])
      have q1:((aj:Int)==(b:Int))=true:=by simp[hab]
      have q2:((aj:Int) != (b:Int))=false:=by simp[hab]
      clear hab e1
      go_wp2_with fail
      refine YS (fun _=>True) (fun hHeld=>?_);refine Xr 0 ?_;refine Xr 1 ?_;refine Xr 2 ?_;refine Xr 3 ?_;refine wpAnyH_take (i:=4) (v:=undef) rfl (by kernel_rfl) (by kernel_rfl) (by kernel_rfl) (fun _ _ _ h=>h) (Or.inr ⟨by rfl,rfl⟩) (by assumption) ?_;simp only[Act.put,xA,xB,xC,xD,xE,xF];refine wpAnyH_take (i:=5) (v:=undef) rfl (by kernel_rfl) (by kernel_rfl) (by kernel_rfl) (fun _ _ _ h=>h) (Or.inr ⟨by rfl,rfl⟩) (by assumption) ?_;simp only[Act.put,xA,xB,xC,xD,xE,xF];refine wpAnyH_take (i:=6) (v:=undef) rfl (by kernel_rfl) (by kernel_rfl) (by kernel_rfl) (fun _ _ _ h=>h) (Or.inr ⟨by rfl,rfl⟩) (by assumption) ?_;simp only[Act.put,xA,xB,xC,xD,xE,xF];refine wpAnyH_take (i:=7) (v:=undef) rfl (by kernel_rfl) (by kernel_rfl) (by kernel_rfl) (fun _ _ _ h=>h) (Or.inr ⟨by rfl,rfl⟩) (by assumption) ?_;simp only[Act.put,xA,xB,xC,xD,xE,xF];refine wpAnyH_take (i:=8) (v:=undef) rfl (by kernel_rfl) (by kernel_rfl) (by kernel_rfl) (fun _ _ _ h=>h) (Or.inr ⟨by rfl,rfl⟩) (by assumption) ?_;simp only[Act.put,xA,xB,xC,xD,xE,xF];refine wpAnyH_take (i:=9) (v:=undef) rfl (by kernel_rfl) (by kernel_rfl) (by kernel_rfl) (fun _ _ _ h=>h) (Or.inr ⟨by rfl,rfl⟩) (by assumption) ?_;simp only[Act.put,xA,xB,xC,xD,xE,xF];refine wpAnyH_take (i:=10) (v:=undef) rfl (by kernel_rfl) (by kernel_rfl) (by kernel_rfl) (fun _ _ _ h=>h) (Or.inr ⟨by rfl,rfl⟩) (by assumption) ?_;simp only[Act.put,xA,xB,xC,xD,xE,xF];refine wpAnyH_take (i:=11) (v:=undef) rfl (by kernel_rfl) (by kernel_rfl) (by kernel_rfl) (fun _ _ _ h=>h) (Or.inr ⟨by rfl,rfl⟩) (by assumption) ?_;simp only[Act.put,xA,xB,xC,xD,xE,xF];refine wpAnyH_take (i:=12) (v:=undef) rfl (by kernel_rfl) (by kernel_rfl) (by kernel_rfl) (fun _ _ _ h=>h) (Or.inr ⟨by rfl,rfl⟩) (by assumption) ?_;simp only[Act.put,xA,xB,xC,xD,xE,xF];refine wpAnyH_take (i:=13) (v:=undef) rfl (by kernel_rfl) (by kernel_rfl) (by kernel_rfl) (fun _ _ _ h=>h) (Or.inr ⟨by rfl,rfl⟩) (by assumption) ?_;simp only[Act.put,xA,xB,xC,xD,xE,xF];refine wpAnyH_take (i:=14) (v:=undef) rfl (by kernel_rfl) (by kernel_rfl) (by kernel_rfl) (fun _ _ _ h=>h) (Or.inr ⟨by rfl,rfl⟩) (by assumption) ?_;simp only[Act.put,xA,xB,xC,xD,xE,xF];refine wpAnyH_take (i:=15) (v:=undef) rfl (by kernel_rfl) (by kernel_rfl) (by kernel_rfl) (fun _ _ _ h=>h) (Or.inr ⟨by rfl,rfl⟩) (by assumption) ?_;simp only[Act.put,xA,xB,xC,xD,xE,xF];refine wpAnyH_take (i:=16) (v:=undef) rfl (by kernel_rfl) (by kernel_rfl) (by kernel_rfl) (fun _ _ _ h=>h) (Or.inr ⟨by rfl,rfl⟩) (by assumption) ?_;simp only[Act.put,xA,xB,xC,xD,xE,xF];refine wpAnyH_take (i:=17) (v:=undef) rfl (by kernel_rfl) (by kernel_rfl) (by kernel_rfl) (fun _ _ _ h=>h) (Or.inr ⟨by rfl,rfl⟩) (by assumption) ?_;simp only[Act.put,xA,xB,xC,xD,xE,xF];refine wpAnyH_take (i:=18) (v:=undef) rfl (by kernel_rfl) (by kernel_rfl) (by kernel_rfl) (fun _ _ _ h=>h) (Or.inr ⟨by rfl,rfl⟩) (by assumption) ?_;simp only[Act.put,xA,xB,xC,xD,xE,xF];refine wpAnyH_take (i:=19) (v:=undef) rfl (by kernel_rfl) (by kernel_rfl) (by kernel_rfl) (fun _ _ _ h=>h) (Or.inr ⟨by rfl,rfl⟩) (by assumption) ?_;simp only[Act.put,xA,xB,xC,xD,xE,xF];refine wpAnyH_take (i:=20) (v:=undef) rfl (by kernel_rfl) (by kernel_rfl) (by kernel_rfl) (fun _ _ _ h=>h) (Or.inr ⟨by rfl,rfl⟩) (by assumption) ?_;simp only[Act.put,xA,xB,xC,xD,xE,xF];refine Xr 21 ?_;refine Y5 ?_
      go_wp2_with fail
      exact⟨⟨j+1,by omega,by go_num,by rw[HBT.out,HST.out],Xa HBq.drew,Xa HWq.out⟩,by simp[intOf];omega⟩
     ·have q1:((aj:Int)==(b:Int))=false:=by simp;omega
      have q2:((aj:Int) != (b:Int))=true:=by simp;omega
      cases bs with
      | none =>
       have HST:Hid (Tm (fun a=>(dss.getD a []).length) b none aj=some aj):=Xa (by unfold Tm;rw[if_pos ⟨hab,Or.inl rfl⟩]);have HON:Hid (Zfv none=-1):=Xa rfl;rw[HON.out];clear e1
       go_wp2_with fail
       refine YS (fun _=>True) (fun hHeld=>?_);refine Xr 0 ?_;refine Xr 1 ?_;refine Xr 2 ?_;refine Xr 3 ?_;refine Xr 4 ?_;refine Xr 5 ?_;refine Xr 6 ?_;refine wpAnyH_take (i:=7) (v:=undef) rfl (by kernel_rfl) (by kernel_rfl) (by kernel_rfl) (fun _ _ _ h=>h) (Or.inr ⟨by rfl,rfl⟩) (by assumption) ?_;simp only[Act.put,xA,xB,xC,xD,xE,xF];refine wpAnyH_take (i:=8) (v:=undef) rfl (by kernel_rfl) (by kernel_rfl) (by kernel_rfl) (fun _ _ _ h=>h) (Or.inr ⟨by rfl,rfl⟩) (by assumption) ?_;simp only[Act.put,xA,xB,xC,xD,xE,xF];refine wpAnyH_take (i:=9) (v:=undef) rfl (by kernel_rfl) (by kernel_rfl) (by kernel_rfl) (fun _ _ _ h=>h) (Or.inr ⟨by rfl,rfl⟩) (by assumption) ?_;simp only[Act.put,xA,xB,xC,xD,xE,xF];refine wpAnyH_take (i:=10) (v:=undef) rfl (by kernel_rfl) (by kernel_rfl) (by kernel_rfl) (fun _ _ _ h=>h) (Or.inr ⟨by rfl,rfl⟩) (by assumption) ?_;simp only[Act.put,xA,xB,xC,xD,xE,xF];refine wpAnyH_take (i:=11) (v:=undef) rfl (by kernel_rfl) (by kernel_rfl) (by kernel_rfl) (fun _ _ _ h=>h) (Or.inr ⟨by rfl,rfl⟩) (by assumption) ?_;simp only[Act.put,xA,xB,xC,xD,xE,xF];refine wpAnyH_take (i:=12) (v:=undef) rfl (by kernel_rfl) (by kernel_rfl) (by kernel_rfl) (fun _ _ _ h=>h) (Or.inr ⟨by rfl,rfl⟩) (by assumption) ?_;simp only[Act.put,xA,xB,xC,xD,xE,xF];refine wpAnyH_take (i:=13) (v:=undef) rfl (by kernel_rfl) (by kernel_rfl) (by kernel_rfl) (fun _ _ _ h=>h) (Or.inr ⟨by rfl,rfl⟩) (by assumption) ?_;simp only[Act.put,xA,xB,xC,xD,xE,xF];refine wpAnyH_take (i:=14) (v:=undef) rfl (by kernel_rfl) (by kernel_rfl) (by kernel_rfl) (fun _ _ _ h=>h) (Or.inr ⟨by rfl,rfl⟩) (by assumption) ?_;simp only[Act.put,xA,xB,xC,xD,xE,xF];refine wpAnyH_take (i:=15) (v:=undef) rfl (by kernel_rfl) (by kernel_rfl) (by kernel_rfl) (fun _ _ _ h=>h) (Or.inr ⟨by rfl,rfl⟩) (by assumption) ?_;simp only[Act.put,xA,xB,xC,xD,xE,xF];refine wpAnyH_take (i:=16) (v:=undef) rfl (by kernel_rfl) (by kernel_rfl) (by kernel_rfl) (fun _ _ _ h=>h) (Or.inr ⟨by rfl,rfl⟩) (by assumption) ?_;simp only[Act.put,xA,xB,xC,xD,xE,xF];refine wpAnyH_take (i:=17) (v:=undef) rfl (by kernel_rfl) (by kernel_rfl) (by kernel_rfl) (fun _ _ _ h=>h) (Or.inr ⟨by rfl,rfl⟩) (by assumption) ?_;simp only[Act.put,xA,xB,xC,xD,xE,xF];refine wpAnyH_take (i:=18) (v:=undef) rfl (by kernel_rfl) (by kernel_rfl) (by kernel_rfl) (fun _ _ _ h=>h) (Or.inr ⟨by rfl,rfl⟩) (by assumption) ?_;simp only[Act.put,xA,xB,xC,xD,xE,xF];refine wpAnyH_take (i:=19) (v:=undef) rfl (by kernel_rfl) (by kernel_rfl) (by kernel_rfl) (fun _ _ _ h=>h) (Or.inr ⟨by rfl,rfl⟩) (by assumption) ?_;simp only[Act.put,xA,xB,xC,xD,xE,xF];refine Xr 20 ?_;refine Xr 21 ?_;refine Y5 ?_
       go_wp2_with fail
       exact⟨⟨j+1,by omega,by go_num,by rw[HBT.out,HST.out];rfl,Xa HBq.drew,Xa HWq.out⟩,by simp[intOf];omega⟩
      | some k =>
       have hkn:=HBM.out k rfl;have hkx:k<dss.length:=by have:=hx.out;omega
       obtain⟨a2,c2,h2⟩:=HHD.out k hkx;have e2:=(Yn HBq.out (by omega)).trans h2;have HG2:Hid ((dss.getD k []).length=dss[k].length):=Xa (by simp[hkx]);have hl2:=(hl.out dss[k] (List.getElem_mem hkx)).1;have HON:Hid (Zfv (some k)=(k:Int)):=Xa rfl;rw[HON.out];clear h2;by_cases hgt:dss[aj].length > dss[k].length
       ·have HST:Hid (Tm (fun a=>(dss.getD a []).length) b (some k) aj=some aj):=Xa (by unfold Tm;rw[if_pos ⟨hab,Or.inr ⟨k,rfl,by show(dss.getD aj []).length > (dss.getD k []).length;rw[HG1.out,HG2.out];exact hgt⟩⟩])
        generalize dss[aj].length=la at *;generalize dss[k].length=lk at *
        go_wp2_with fail
        refine YS (fun w'=>w'.cell? ⟨bd,od+aj,none⟩=some (.slice a1 la c1)/\w'.cell? ⟨bd,od+k,none⟩=some (.slice a2 lk c2)) (fun hHeld=>?_);refine Xr 0 ?_;refine Xr 1 ?_;refine Xr 2 ?_;refine Xr 3 ?_;refine Xr 4 ?_;refine Xr 5 ?_;refine Xr 6 ?_;refine Xr 7 ?_;refine Xr 8 ?_;refine Xr 9 ?_;refine Xr 10 ?_;refine Xr 11 ?_;refine Xr 12 ?_;refine Xr 13 ?_;refine Xr 14 ?_;refine Xr 15 ?_;refine Xr 16 ?_;refine Xr 17 ?_;refine Xr 18 ?_;refine Xr 19 ?_;refine Xr 20 ?_;refine Xr 21 ?_;refine Y5 ?_
        go_wp2_with fail
        exact⟨⟨j+1,by omega,by go_num,by rw[HBT.out,HST.out];rfl,Xa HBq.drew,Xa HWq.out⟩,by simp[intOf];omega⟩
       ·have HST:Hid (Tm (fun a=>(dss.getD a []).length) b (some k) aj=some k):=Xa (by
         unfold Tm;rw[if_neg (fun q=>by
          rcases q.2 with q | ⟨y,q3,q4⟩
          ·cases q
          ·injection q3 with q3
           subst q3;have q5:(dss.getD aj []).length > (dss.getD k []).length:=q4;rw[HG1.out,HG2.out]at q5;exact hgt q5)])
        generalize dss[aj].length=la at *;generalize dss[k].length=lk at *
        go_wp2_with fail
        refine YS (fun w'=>w'.cell? ⟨bd,od+aj,none⟩=some (.slice a1 la c1)/\w'.cell? ⟨bd,od+k,none⟩=some (.slice a2 lk c2)) (fun hHeld=>?_);refine Xr 0 ?_;refine Xr 1 ?_;refine Xr 2 ?_;refine Xr 3 ?_;refine Xr 4 ?_;refine Xr 5 ?_;refine Xr 6 ?_;refine Xr 7 ?_;refine Xr 8 ?_;refine Xr 9 ?_;refine Xr 10 ?_;refine Xr 11 ?_;refine Xr 12 ?_;refine Xr 13 ?_;refine Xr 14 ?_;refine Xr 15 ?_;refine Xr 16 ?_;refine Xr 17 ?_;refine Xr 18 ?_;refine Xr 19 ?_;refine Xr 20 ?_;refine Xr 21 ?_;refine Y5 ?_
        go_wp2_with fail
        exact⟨⟨j+1,by omega,by go_num,by rw[HBT.out,HST.out];rfl,Xa HBq.drew,Xa HWq.out⟩,by simp[intOf];omega⟩
    ·have hje:j=ds.length:=by omega
     subst hje;have HID:Hid (Zfv (bestP (fun a=>(dss.getD a []).length) b (ds.take ds.length))=idomP dss b):=Xa (by unfold idomP;rw[List.take_length,HGB.out]);rw[HID.out];have HOq:Hid (wr.ownsRow w.heap.size 2 1 u3 b (((List.range b).map (idomP dss)).map (Value.int .i64))):=Xa (Ze7 HO.out HWq.out);have hwz:=HBq.size;have HRS:Hid (((List.range (b+1)).map (idomP dss)).map (Value.int .i64)=((List.range b).map (idomP dss)).map (Value.int .i64)++[.int .i64 (idomP dss b)]):=Xa (by rw[List.range_succ];simp);generalize idomP dss b=ib at *
     go_wp2_with (at_builtin;refine wpList_append_own_at _ rfl _ _ 40 rfl w.heap.size 2 i0 (.int .i64 0) 1 8 Tryd.underlying40 hi0 hz0 hz1 hz2 rfl (by decide) _ _ _ rfl (HOq.alloc _) ⟨wr.heap.size,0,none⟩ 1 1 [.int .i64 ib] rfl rfl ?c1 ?c2 ?c3 ?c4 ?c5 ?_)
     case c1=>exact Xz _ _ _
     case c2=>intro u hu;simp at hu;subst hu;rfl
     case c3=>unfold maxLen;omega
     case c4=>omega
     case c5=>simp;omega
     intro v8 w8 hown8 hg8 hne8 hat8;have HB8:Hid (Below w.heap.size w w8):=Xa (XG (Below.alloc HBq.out (by omega) _) hg8 (HOq.alloc _) (Nat.le_refl _) (by simp;omega));have HO8:Hid (w8.ownsRow w.heap.size 2 1 v8 (b+1) (((List.range (b+1)).map (idomP dss)).map (Value.int .i64))):=Xa (by rw[HRS.out,List.map_map];exact hown8);clear hown8 hg8 hne8 hat8
     go_wp2_with fail
     exact⟨⟨b+1,by omega,by go_num,HB8,HO8⟩,by simp[intOf];omega⟩
  ·have hbn:b=n:=by omega
   subst hbn
   go_wp2_with fail
   go_ret
   exact⟨_,rfl,HB.out,HO.out⟩
end Go.Proofs.YtbofmlmdgkblkaaDoor
namespace Go.Proofs.YtbofmlmdgkblkaaDoor
variable {tg : Nat -> List Nat}
open Classical in
noncomputable def Z1(tg:Nat->List Nat)(n b:Nat):List Nat:=(List.range n).filter fun a=>decide (Kk tg a b)
theorem Z3{n a b:Nat}:a∈Z1 tg n b↔a<n/\Kk tg a b:=by
 unfold Z1;simp
theorem Zgd(n b:Nat):(Z1 tg n b).Nodup:=List.nodup_range.sublist List.filter_sublist
theorem Wr{n a c:Nat}(ha:a<n)(h:Kk tg c a)(hne:c≠a):(Z1 tg n c).length<(Z1 tg n a).length:=by
 have h1:a ∉ Z1 tg n c:=fun k=>hne (TC h (Z3.1 k).2)
 have h2:(a::Z1 tg n c).Nodup:=List.nodup_cons.2 ⟨h1,Zgd n c⟩;have h3:(a::Z1 tg n c) ⊆ Z1 tg n a:=fun x hx=>by
  rcases List.mem_cons.1 hx with rfl | hx
  ·exact Z3.2 ⟨ha,JH h.rb⟩
  ·obtain⟨k1,k2⟩:=Z3.1 hx
   exact Z3.2 ⟨k1,Um k2 h⟩
 have:=List.Nodup.length_le_of_subset h2 h3;simp only[List.length_cons]at this;omega
theorem KI{n b:Nat}(hb:b<n):((List.range n).map (Z1 tg n)).getD b []=Z1 tg n b:=by simp[hb]
theorem Zcc{n a b:Nat}(hn:∀x,Re tg x->x<n)(h:Idm tg a b):idomP ((List.range n).map (Z1 tg n)) b=(a:Int):=by
 have hbn:=hn b h.dom.rb;have han:=hn a h.dom.ra;have key:bestP (fun a=>(((List.range n).map (Z1 tg n)).getD a []).length) b (Z1 tg n b)=some a:=by
  refine ZdI (Z3.2 ⟨han,h.dom⟩) h.ne (fun c hc hcb hca=>?_);obtain⟨k1,k2⟩:=Z3.1 hc;rw[KI k1,KI han];exact Wr han (h.near c k2 hcb) hca
 unfold idomP;rw[KI hbn,key];rfl
theorem ZbW{n b:Nat}(hb:b<n)(h:∀c,Kk tg c b->c=b):idomP ((List.range n).map (Z1 tg n)) b=-1:=by
 unfold idomP;rw[KI hb,Zdv (fun a ha=>h a (Z3.1 ha).2)];rfl
end Go.Proofs.YtbofmlmdgkblkaaDoor
namespace Go.Proofs.YtbofmlmdgkblkaaDoor
variable {tg : Nat -> List Nat}
structure Th(tg:Nat->List Nat)(n:Nat)(P:List Int):Prop where
 len:P.length=n
 get:∀b,b<n->(∃a:Nat,Idm tg a b/\P.getD b 0=(a:Int))\/((∀c,Kk tg c b->c=b)/\P.getD b 0=-1)
open Classical in
theorem US{n:Nat}(hn:∀x,Re tg x->x<n)(hex:∀b,b<n->(∃a,Idm tg a b)\/∀c,Kk tg c b->c=b):Th tg n ((List.range n).map (idomP ((List.range n).map (Z1 tg n)))):=by
 refine⟨by simp,fun b hb=>?_⟩;have e:((List.range n).map (idomP ((List.range n).map (Z1 tg n)))).getD b 0=idomP ((List.range n).map (Z1 tg n)) b:=by simp[hb]
 rw[e];rcases hex b hb with⟨a,ha⟩ | h
 ·exact Or.inl ⟨a,ha,Zcc hn ha⟩
 ·exact Or.inr ⟨h,ZbW hb h⟩
def chP(P:List Int)(b:Nat):List Nat:=(List.range P.length).filter fun c=>P.getD c 0==(b:Int)
def Y0(P:List Int):Nat->Nat->List Nat
 | 0,b=>[b]
 | m+1,b=>b::(chP P b).flatMap (Y0 P m)
theorem ZcH{P:List Int}{b c:Nat}:c∈chP P b↔c<P.length/\P.getD c 0=(b:Int):=by
 unfold chP;rw[List.mem_filter,List.mem_range,beq_iff_eq]
theorem U8{n:Nat}{P:List Int}(h:Th tg n P){b c:Nat}(hc:c∈chP P b):Idm tg b c:=by
 obtain⟨h1,h2⟩:=ZcH.1 hc;rcases h.get c (by rw[<-h.len];exact h1)with⟨a,ha,ea⟩ | ⟨_,ea⟩
 ·rw[ea]at h2
  have:a=b:=by omega
  rw[<-this];exact ha
 ·rw[ea]at h2;omega
theorem TP{n:Nat}{P:List Int}(h:Th tg n P):∀(m b x:Nat),Re tg b->x∈Y0 P m b->Kk tg b x
 | 0,b,x,hb,hx=>by
  have:x=b:=by simpa [Y0]using hx
  rw[this];exact JH hb
 | m+1,b,x,hb,hx=>by
  rw[Y0,List.mem_cons]at hx;rcases hx with rfl | hx
  ·exact JH hb
  ·obtain⟨c,hc,hx⟩:=List.mem_flatMap.1 hx
   have hi:=U8 h hc;exact Um hi.dom (TP h m c x hi.dom.rb hx)
theorem ZeI{n:Nat}{P:List Int}(h:Th tg n P):∀(m b:Nat),Re tg b->(Y0 P m b).Nodup
 | 0,b,_=>by simp[Y0]
 | m+1,b,hb=>by
  rw[Y0,List.nodup_cons];refine⟨fun hx=>?_,?_⟩
  ·obtain⟨c,hc,hx⟩:=List.mem_flatMap.1 hx
   have hi:=U8 h hc;exact hi.ne (TC hi.dom (TP h m c b hi.dom.rb hx))
  ·unfold List.Nodup
   rw[List.pairwise_flatMap];refine⟨fun c hc=>ZeI h m c (U8 h hc).dom.rb,?_⟩;have hnd:(chP P b).Nodup:=List.nodup_range.sublist List.filter_sublist;refine List.Pairwise.imp_of_mem (fun {c d} hc hd hne x hx y hy e=>?_) hnd;subst e;have ic:=U8 h hc;have id:=U8 h hd;have dc:=TP h m c x ic.dom.rb hx;have dd:=TP h m d x id.dom.rb hy;rcases Zae dc dd with k | k
   ·exact ic.ne (TC ic.dom (id.near c k hne))
   ·exact id.ne (TC id.dom (ic.near d k (fun e=>hne e.symm)))
theorem ZfY{n:Nat}{P:List Int}(h:Th tg n P)(hn:∀x,Re tg x->x<n)(m b:Nat)(hb:Re tg b):(Y0 P m b).length<=n:=JE (ZeI h m b hb) (fun x hx=>hn x (TP h m b x hb hx).rb)
theorem ZgZ(n b:Nat):(Z1 tg n b).length<=n:=Nat.le_trans (List.length_filter_le _ _) (by simp)
theorem ZfV{n:Nat}{P:List Int}(h:Th tg n P)(hn:∀x,Re tg x->x<n){b:Nat}(hb:Re tg b)(h0:b≠0):∃c:Nat,P.getD b 0=(c:Int)/\c<n/\Re tg c/\(Z1 tg n c).length<(Z1 tg n b).length/\∀a,a≠b->(Kk tg a b↔Kk tg a c):=by
 rcases h.get b (hn b hb)with⟨c,hc,ec⟩ | ⟨hc,_⟩
 ·exact⟨c,ec,hn c hc.dom.ra,hc.dom.ra,Wr (hn b hb) hc.dom hc.ne,fun a hne=>⟨fun k=>hc.near a k hne,fun k=>Um k hc.dom⟩⟩
 ·exact absurd (hc 0 (Zex hb)) (fun e=>h0 e.symm)
end Go.Proofs.YtbofmlmdgkblkaaDoor
namespace Go.Proofs.YtbofmlmdgkblkaaDoor
open Go.RowKit
def KZ(P:List Int)(k:Nat)(c:Nat):List Nat:=(List.range k).filter fun b=>P.getD b 0==(c:Int)
theorem Ze0(P:List Int)(c:Nat):KZ P P.length c=chP P c:=rfl
theorem YC(l:List Nat):(Xk l).length=l.length:=by simp[Xk]
end Go.Proofs.YtbofmlmdgkblkaaDoor
namespace Go.Proofs.YtbofmlmdgkblkaaDoor
open Go.RowKit
def Z0(w:World)(G n:Nat)(P:Nat->List Int)(U:Nat->Value):Prop :=
 w.rowIs G 47 n U/\(∀i,i<n->w.ownsRow (G+1) 2 1 (U i) (P i).length ((P i).map (Value.int .i64)))/\(∀i j,i<n->j<n->i≠j->(U i).ownBlock=none\/(U i).ownBlock≠(U j).ownBlock)
theorem Z0.alloc{w:World}{G n:Nat}{P:Nat->List Int}{U:Nat->Value}(h:Z0 w G n P U)(o:Obj):Z0 (w.alloc o) G n P U:=⟨h.1.alloc o,fun i hi=>(h.2.1 i hi).alloc o,h.2.2⟩
theorem Z0.below{w w':World}{G n:Nat}{P:Nat->List Int}{U:Nat->Value}(h:Z0 w G n P U)(k:Below w.heap.size w w'):Z0 w' G n P U:=by
 refine⟨h.1.of_block (k.block _ h.1.lt),fun i hi=>?_,h.2.2⟩;refine(h.2.1 i hi).kept (row:=none) ⟨k.os,k.tape,k.output,k.size,fun b hb _=>k.block b hb⟩ ?_;cases (U i).ownBlock<;>simp
theorem Z0.congr{w:World}{G n:Nat}{P P':Nat->List Int}{U:Nat->Value}(h:Z0 w G n P U)(e:∀i,i<n->P i=P' i):Z0 w G n P' U :=
 ⟨h.1,fun i hi=>by rw[<-e i hi];exact h.2.1 i hi,h.2.2⟩
theorem Z0.step{w w1:World}{G n:Nat}{P:Nat->List Int}{U:Nat->Value}(h:Z0 w G n P U){t:Nat}(ht:t<n)(x:Int)(v':Value)(hg:w.grownBy w1 (U t).ownBlock)
 (ho:w1.ownsRow (G+1) 2 1 v' ((P t).length+1) ((P t).map (Value.int .i64)++[.int .i64 x])) (hat:v'.ownBlock=(U t).ownBlock\/v'.ownBlock=some w.heap.size) :
 Z0 (w1.setCell ⟨G,t,none⟩ v') G n (fun i=>if i=t then P t++[x]else P i) (fun i=>if i=t then v' else U i):=by
 have hr:w1.rowIs G 47 n U:=h.1.of_block (hg.block _ h.1.lt (fun e=>by have:=((h.2.1 t ht).lt _ e.symm).1;omega));refine⟨hr.set t v',fun i hi=>?_,fun i j hi hj hij=>?_⟩
 ·refine ownsRow_setCell_below ?_ (by dsimp only;omega) _
  by_cases e:i=t
  ·subst e
   simp only[if_true,List.length_append,List.length_cons,List.length_nil,List.map_append,List.map_cons,List.map_nil];exact ho
  ·simp only[e,if_false]
   exact(h.2.1 i hi).kept hg (h.2.2 i t hi ht e)
 ·have fresh:∀m,m<n->(U m).ownBlock=none\/(U m).ownBlock≠some w.heap.size:=fun m hm=>by
   by_cases e:(U m).ownBlock=some w.heap.size
   ·have:=((h.2.1 m hm).lt _ e).2;omega
   ·exact Or.inr e
  by_cases e1:i=t
  ·subst e1
   have e2:¬j=i:=fun e=>hij e.symm
   simp only[if_true,e2,if_false];rcases hat with q | q
   ·rw[q];exact h.2.2 i j hi hj hij
   ·right
    rw[q];intro hh;rcases fresh j hj with f | f
    ·rw[f]at hh;cases hh
    ·exact f hh.symm
  ·simp only[e1,if_false]
   by_cases e2:j=t
   ·subst e2
    simp only[if_true];rcases hat with q | q
    ·rw[q];exact h.2.2 i j hi hj hij
    ·rw[q];exact fresh i hi
   ·simp only[e2,if_false]
    exact h.2.2 i j hi hj hij
theorem Z0.ints{w:World}{G n:Nat}{P:Nat->List Int}{U:Nat->Value}(h:Z0 w G n P U):ZK w G w.heap.size (some ⟨G,0,none⟩) ((List.range n).map P):=fun i hi=>by
 simp only[List.length_map,List.length_range]at hi;obtain⟨a,c,hv,ha⟩:=Xn (h.2.1 i hi);refine⟨G,0,rfl,⟨Nat.le_refl _,h.1.lt⟩,a,c,?_,?_⟩
 ·simp only[List.getElem_map,List.getElem_range,Nat.zero_add]
  rw[h.1.cell hi,hv]
 ·simp only[List.getElem_map,List.getElem_range]
  exact ha.mono (by omega) (Nat.le_refl _)
theorem Z0.born(w:World)(n:Nat):Z0 (w.alloc (.cells (madeCells #[.slice none 0 0] n) 47)) w.heap.size n (fun _=>[]) (fun _=>.slice none 0 0) :=
 ⟨World.rowIs_made _ _ _ _,fun _ _=>World.ownsRow_nil _ _ _ _,fun _ _ _ _ _=>Or.inl rfl⟩
variable {tg : Nat -> List Nat}
open Classical in
noncomputable def Tu(tg:Nat->List Nat)(k b:Nat):List Int:=Xk ((List.range k).filter fun a=>decide (Kk tg a b))
open Classical in
theorem Zac(k b:Nat):Tu tg (k+1) b=Tu tg k b++(if Kk tg k b then [(k:Int)]else []):=by
 unfold Tu;rw[List.range_succ,List.filter_append,List.filter_cons,List.filter_nil];by_cases h:Kk tg k b
 ·rw[if_pos (by simpa using h),if_pos h];simp[Xk]
 ·rw[if_neg (by simpa using h),if_neg h];simp[Xk]
theorem Zfe(k b:Nat):(Tu tg k b).length<=k:=by
 unfold Tu;rw[YC];exact Nat.le_trans (List.length_filter_le _ _) (by simp)
theorem Zds{k:Nat}(h:¬Re tg k)(b:Nat):Tu tg (k+1) b=Tu tg k b:=by
 rw[Zac,if_neg (fun d=>h d.ra),List.append_nil]
noncomputable def Zj(tg:Nat->List Nat)(F Fa:List Nat)(k i b:Nat):List Int:=Tu tg k b++(if b∈F.take i/\b ∉ Fa then [(k:Int)]else [])
theorem Zc2(F Fa:List Nat)(k b:Nat):Zj tg F Fa k 0 b=Tu tg k b:=by
 unfold Zj;rw[if_neg (by simp),List.append_nil]
theorem Zef(F Fa:List Nat)(k i b:Nat):(Zj tg F Fa k i b).length<=k+1:=by
 unfold Zj;have:=Zfe (tg:=tg) k b;rw[List.length_append];split<;>simp<;>omega
theorem JL{F:List Nat}{i b:Nat}(hi:i<F.length):b∈F.take (i+1)↔b∈F.take i\/b=F[i]:=by
 rw[List.take_succ_eq_append_getElem hi,List.mem_append,List.mem_singleton]
theorem ZeW{F Fa:List Nat}{k i:Nat}(hi:i<F.length)(h:F[i]∈Fa)(b:Nat):Zj tg F Fa k (i+1) b=Zj tg F Fa k i b:=by
 unfold Zj;by_cases e:b=F[i]
 ·rw[if_neg (fun q=>q.2 (by rw[e];exact h)),if_neg (fun q=>q.2 (by rw[e];exact h))]
 ·by_cases q:b∈F.take i/\b ∉ Fa
  ·rw[if_pos ⟨(JL hi).2 (Or.inl q.1),q.2⟩,if_pos q]
  ·rw[if_neg (fun r=>q ⟨((JL hi).1 r.1).resolve_right e,r.2⟩),if_neg q]
theorem Zdu{F Fa:List Nat}{k i:Nat}(hn:F.Nodup)(hi:i<F.length)(h:F[i] ∉ Fa)(b:Nat):Zj tg F Fa k (i+1) b=if b=F[i]then Zj tg F Fa k i F[i]++[(k:Int)]else Zj tg F Fa k i b:=by
 have hnt:F[i] ∉ F.take i:=fun q=>by
  have e:F=F.take i++F.drop i:=(List.take_append_drop i F).symm;have hd:F[i]∈F.drop i:=by rw[List.drop_eq_getElem_cons hi];exact List.mem_cons_self
  rw[e,List.nodup_append]at hn;exact hn.2.2 _ q _ hd rfl
 by_cases e:b=F[i]
 ·rw[if_pos e,e]
  unfold Zj;rw[if_pos ⟨(JL hi).2 (Or.inr rfl),h⟩,if_neg (fun q=>hnt q.1),List.append_nil]
 ·rw[if_neg e]
  unfold Zj;by_cases q:b∈F.take i/\b ∉ Fa
  ·rw[if_pos ⟨(JL hi).2 (Or.inl q.1),q.2⟩,if_pos q]
  ·rw[if_neg (fun r=>q ⟨((JL hi).1 r.1).resolve_right e,r.2⟩),if_neg q]
theorem ZcD{F Fa:List Nat}{k:Nat}(hF:∀x,x∈F↔Re tg x)(hFa:∀x,x∈Fa↔Av tg k x)(hk:Re tg k){i:Nat}(hi:F.length<=i)(b:Nat):Zj tg F Fa k i b=Tu tg (k+1) b:=by
 rw[Zac];unfold Zj;rw[List.take_of_length_le hi];by_cases h:Kk tg k b
 ·rw[if_pos ⟨(hF b).2 h.rb,fun q=>h.no ((hFa b).1 q)⟩,if_pos h]
 ·rw[if_neg (fun q=>h ⟨hk,(hF b).1 q.1,fun r=>q.2 ((hFa b).2 r)⟩),if_neg h]
end Go.Proofs.YtbofmlmdgkblkaaDoor
namespace Go.Proofs.YtbofmlmdgkblkaaDoor
def nrF(Ws:Nat->Nat->Nat)(ord:List Nat):Nat->Nat->Int
 | 0,_=>-1
 | i+1,z=>match (ord.take i).reverse.find? (fun a=>!Xf (Ws (ord.getD i 0)) a)with
  | some a=>if z=ord.getD i 0 then (a:Int)else nrF Ws ord i z
  | none=>nrF Ws ord i z
theorem ZeD{Ws:Nat->Nat->Nat}{ord:List Nat}{i a:Nat}(h:(ord.take i).reverse.find? (fun a=>!Xf (Ws (ord.getD i 0)) a)=some a)(z:Nat):nrF Ws ord (i+1) z=if z=ord.getD i 0 then (a:Int)else nrF Ws ord i z:=by
 rw[nrF,h]
theorem ZfM{Ws:Nat->Nat->Nat}{ord:List Nat}{i:Nat}(h:(ord.take i).reverse.find? (fun a=>!Xf (Ws (ord.getD i 0)) a)=none)(z:Nat):nrF Ws ord (i+1) z=nrF Ws ord i z:=by
 rw[nrF,h]
theorem Za3{Ws:Nat->Nat->Nat}{ord:List Nat}{b:Nat}:∀(i:Nat),i<=ord.length->(∀j,j<i->ord.getD j 0≠b)->nrF Ws ord i b=-1
 | 0,_,_=>rfl
 | i+1,hi,h=>by
  have ih:=Za3 (Ws:=Ws) i (by omega) (fun j hj=>h j (by omega));rw[nrF];split
  ·rw[if_neg (fun e=>h i (by omega) e.symm)];exact ih
  ·exact ih
theorem Zbe{Ws:Nat->Nat->Nat}{ord:List Nat}{b i:Nat}:∀(m:Nat),(∀j,i<=j->j<i+m->ord.getD j 0≠b)->nrF Ws ord (i+m) b=nrF Ws ord i b
 | 0,_=>rfl
 | m+1,h=>by
  have ih:=Zbe (Ws:=Ws) (i:=i) m (fun j h1 h2=>h j h1 (by omega));rw[<-ih,<-Nat.add_assoc,nrF];split
  ·rw[if_neg (fun e=>h (i+m) (by omega) (by omega) e.symm)]
  ·rfl
variable {tg : Nat -> List Nat}
theorem VU{n:Nat}{Ws:Nat->Nat->Nat}{o:List Nat}(hn:o.Nodup)(hm:∀x,x∈o↔Re tg x)(hlt:∀x,Re tg x->x<n)(ho:∀x a,Kk tg a x->a≠x->Bef o a x)(hw:∀b,b<n->∀x,x<n->(Xf (Ws b) x=true↔Av tg x b)):Th tg n ((List.range n).map (nrF Ws o o.length)):=by
 refine⟨by simp,fun b hb=>?_⟩;have e:((List.range n).map (nrF Ws o o.length)).getD b 0=nrF Ws o o.length b:=by simp[hb]
 rw[e];by_cases hr:b∈o
 ·obtain⟨i,hi,ei⟩:=List.getElem_of_mem hr
  have key:=List.pairwise_iff_getElem.1 (show o.Pairwise (·≠·) from hn);have gd:∀j (hj:j<o.length),o.getD j 0=o[j]:=fun j hj=>by simp[hj]
  have h1:nrF Ws o o.length b=nrF Ws o (i+1) b:=by
   have:=Zbe (Ws:=Ws) (ord:=o) (b:=b) (i:=i+1) (o.length-(i+1)) (fun j h1 h2=>by
    have hj:j<o.length:=by omega
    rw[gd j hj,<-ei];exact fun e=>key i j hi hj (by omega) e.symm)
   rw[show i+1+(o.length-(i+1))=o.length by omega]at this;exact this
  have h2:nrF Ws o i b=-1:=Za3 i (by omega) (fun j hj=>by
   have hj':j<o.length:=by omega
   rw[gd j hj',<-ei];exact key j i hj' hi hj)
  have hp:∀a∈o,(!Xf (Ws (o.getD i 0)) a)=true↔¬Av tg a o[i]:=fun a ha=>by
   rw[gd i hi,<-hw o[i] (by rw[ei];exact hb) a (hlt a ((hm a).1 ha))];simp
  have h3:=Zek hn hm ho hi hp;rw[h1];cases hf:(o.take i).reverse.find? (fun a=>!Xf (Ws (o.getD i 0)) a)with
  | some a =>
   rw[hf]at h3;rw[ZeD hf,gd i hi,ei,if_pos rfl];exact Or.inl ⟨a,by rw[<-ei];exact h3,rfl⟩
  | none =>
   rw[hf]at h3;rw[ZfM hf,h2];exact Or.inr ⟨by rw[<-ei];exact h3,rfl⟩
 ·refine Or.inr ⟨fun c hc=>absurd ((hm b).2 hc.rb) hr,Za3 _ (Nat.le_refl _) (fun j hj e=>hr ?_)⟩
  have:o.getD j 0=o[j]:=by simp[hj]
  rw[<-e,this];exact List.getElem_mem hj
end Go.Proofs.YtbofmlmdgkblkaaDoor
