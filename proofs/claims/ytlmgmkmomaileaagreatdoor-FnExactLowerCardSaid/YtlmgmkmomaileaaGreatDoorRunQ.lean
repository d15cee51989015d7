import Derived.Test.YtlmgmkmomaileaaGreatDoorStr
import Derived.RangeFuncNested
import Derived.RangeFuncBound
import Derived.RangeFuncCalls
import Derived.RangeFuncLeaves
import Derived.Shelf.Abstract
import Derived.Shelf.RegionOpen
import Derived.OwnWalkIn
import Derived.TacticsInMore
import Derived.LoopNIn
import Derived.LoopIn
namespace Go.Proofs.YtlmgmkmomaileaaGreatDoor
open Go.RowKit
variable {w w' w1 w2 : World} {B gv gh : Nat}
variable {t : Nat} {tv : Value} {vals hp tr : List Int}
variable {r : Nat} {W : World}
theorem Zih{u:Bool}{x lo hi:Int}(h:Jj u x lo hi=true)(hu:u=true):lo<=x/\x<hi:=by
 subst hu;simpa [Jj]using h
theorem ZdN{n:Int}{k:Nat}{p:Ph}(h:Zd n k p=true):(0<=p.dst/\p.dst<n)/\p.args.length=k/\∀a∈p.args,0<=a/\a<n:=by
 simp only[Zd,Z5,Bool.and_eq_true,decide_eq_true_eq,List.all_eq_true]at h;obtain⟨h1,⟨h2,h3⟩,h4⟩:=h;exact⟨Zih h1 rfl,h3,h4⟩
end Go.Proofs.YtlmgmkmomaileaaGreatDoor
namespace Go.Proofs.YtlmgmkmomaileaaGreatDoor
open Go.RowKit
structure Out where
 code:Int
 value:Int
 steps:Nat
 tr:List Int
 hp:List Int
end Go.Proofs.YtlmgmkmomaileaaGreatDoor
namespace Go.Proofs.YtlmgmkmomaileaaGreatDoor
set_option maxHeartbeats 400000
open Go.RowKit
theorem Z8(t:Zu)(w:World) :
 Calls Tryz.prog 89 #[.agg #[.int .i64 t.kind,.int .i64 t.a,.int .i64 t.to,.int .i64 t.els]] w fun e w'=>∃a c,e=.returned (.slice a t.targets.length c)/\Below w.heap.size w w'/\Xf w' w.heap.size w'.heap.size a t.targets:=by
 obtain⟨kind,ta,tg,els⟩:=t;by_cases h1:kind=1
 ·subst h1
  go_enter Tryz.func89,Tryz.ntmps89
  go_wp2
  go_ret
  refine⟨_,_,rfl,Xb (Xb (Below.refl _ _) _) _,fun i hi=>?_⟩;simp[Zu.targets]at hi;subst hi;exact⟨_,_,rfl,⟨sP,sP⟩,by simp[Zu.targets]⟩
 ·by_cases h2:kind=2
  ·subst h2
   go_enter Tryz.func89,Tryz.ntmps89
   go_wp2
   go_ret
   refine⟨_,_,rfl,Xb (Xb (Below.refl _ _) _) _,fun i hi=>?_⟩;simp[Zu.targets]at hi
   match i,hi with
   | 0,_=>exact⟨_,_,rfl,⟨sP,sP⟩,by simp[Zu.targets]⟩
   | 1,_=>exact⟨_,_,rfl,⟨sP,sP⟩,by simp[Zu.targets]⟩
  ·have e1:(kind==1)=false:=by simp[h1]
   have e2:(kind==2)=false:=by simp[h2]
   have hn:(Zu.targets ⟨kind,ta,tg,els⟩)=[]:=by simp[Zu.targets,h1,h2]
   rw[hn];clear h1 h2 hn
   go_enter Tryz.func89,Tryz.ntmps89
   go_wp2
   go_ret
   exact⟨_,_,rfl,Xb (Xb (Below.refl _ _) _) _,fun i hi=>absurd hi sP⟩
end Go.Proofs.YtlmgmkmomaileaaGreatDoor
namespace Go.Proofs.YtlmgmkmomaileaaGreatDoor
set_option maxHeartbeats 1000000
open Go.RowKit
def KG(lo hi x:Int):Bool:=decide (lo<=x)&&decide (x<hi)
theorem ZiC(n lo bl a tg els:Int):Zh n lo bl ⟨1,a,tg,els⟩=(a==0&&KG lo bl tg&&els==0):=by simp[Zh,Jj,KG]
theorem Zj2(n lo bl a tg els:Int):Zh n lo bl ⟨2,a,tg,els⟩=(KG 0 n a&&KG lo bl tg&&KG lo bl els):=by simp[Zh,Jj,KG]
theorem ZiR(n lo bl a tg els:Int):Zh n lo bl ⟨3,a,tg,els⟩=(KG 0 n a&&tg==0&&els==0):=by simp[Zh,Jj,KG]
theorem Zc8{n lo bl k a tg els:Int}(h:¬(1<=k/\k<=3)):Zh n lo bl ⟨k,a,tg,els⟩=false:=by
 unfold Zh;by_cases h1:1<=k
 ·rw[decide_eq_false (p:=k<=3) oM];simp
 ·rw[decide_eq_false (p:=1<=k) h1];simp
theorem XS{α:Type}{p:α->Bool}{xs:List α}{k:Nat}(hk:k<xs.length)(h:(xs.take k).all p=true)(hp:p xs[k]=true):(xs.take (k+1)).all p=true:=by
 rw[Xq xs k hk,List.all_append,h];simp[hp]
theorem Jq{α:Type}{p:α->Bool}{xs:List α}{k:Nat}(hk:k<xs.length)(hp:p xs[k]=false):xs.all p=false:=by
 rw[List.all_eq_false];exact⟨_,List.getElem_mem hk,by simp[hp]⟩
theorem Yv{α:Type}{p:α->Bool}{xs:List α}{k:Nat}(hk:xs.length<=k)(h:(xs.take k).all p=true):xs.all p=true:=by
 rwa[List.take_of_length_le hk]at h
theorem J6(kind ta tg els n low bl:Int)(w:World)(ts:List Int)(R:Bool)(hts:Hid ((Zu.mk kind ta tg els).targets=ts))(hlen:ts.length<=2)(hk1:1<=kind)(hk3:kind<=3)
 (c1:Hid (kind=1->ta=0/\els=0)) (c3:Hid (kind=3->tg=0/\els=0)) (c2:Hid (kind≠1->0<=ta/\ta<n)) (hR:Hid (ts.all (KG low bl)=R)) :
 Calls Tryz.prog 86 #[.agg #[.int .i64 kind,.int .i64 ta,.int .i64 tg,.int .i64 els],.int .i64 n,.int .i64 low,.int .i64 bl] w fun e w'=>e=.returned (.bool R)/\Below w.heap.size w w':=by
 have hc:kind=1\/kind=2\/kind=3:=oM;have hb0:=Xa hlen;rcases hc with rfl | rfl | rfl
 ·obtain⟨rfl,rfl⟩:=c1.out rfl
  clear c1 c2 c3
  go_enter Tryz.func86,Tryz.ntmps86
  go_wp2_with (go_at_call 89;refine(Z8 ⟨_,_,_,_⟩ _).mono ?_;rintro e w1 ⟨a,c,rfl,hb1,hi1⟩;rw[Xp hts]at hi1 |-;have HI:=Xa hi1;clear hi1)
  go_loop [10] (fun i=>∃k:Nat,k<=ts.length/\i=.int .i64 k/\Hid ((ts.take k).all (KG low bl)=true)) (fun i=>ts.length-(intOf i).toNat)
  case atStart=>exact⟨0,Nat.zero_le _,rfl,rfl⟩
  case round =>
   obtain⟨k,hk,rfl,hall⟩:=hrel;by_cases hlt:k<ts.length
   ·obtain⟨b,o,rfl,_,hc⟩:=HI.out k hlt
    by_cases hx:low<=ts[k]/\ts[k]<bl
    ·obtain⟨hx1,hx2⟩:=hx
     go_wp2
     go_round
     case rel=>exact⟨k+1,oM,gM,XS hlt hall.out (by simp[KG,hx1,hx2])⟩
     case measure=>simp[intOf];omega
    ·go_wp2
     all_goals
      go_ret
      exact⟨Xj (by rw[<-hR.out];exact(Jq hlt (by unfold KG;rw[Bool.and_eq_false_iff,decide_eq_false_iff_not,decide_eq_false_iff_not];omega)).symm),Xd (Xb (Below.refl _ _) _) hb1⟩
   ·go_wp2
    go_ret
    exact⟨Xj (by rw[<-hR.out];exact(Yv oM hall.out).symm),Xd (Xb (Below.refl _ _) _) hb1⟩
 ·obtain⟨d1,d2⟩:=c2.out dC
  clear c1 c2 c3
  go_enter Tryz.func86,Tryz.ntmps86
  go_wp2_with (go_at_call 89;refine(Z8 ⟨_,_,_,_⟩ _).mono ?_;rintro e w1 ⟨a,c,rfl,hb1,hi1⟩;rw[Xp hts]at hi1 |-;have HI:=Xa hi1;clear hi1)
  go_loop [10] (fun i=>∃k:Nat,k<=ts.length/\i=.int .i64 k/\Hid ((ts.take k).all (KG low bl)=true)) (fun i=>ts.length-(intOf i).toNat)
  case atStart=>exact⟨0,Nat.zero_le _,rfl,rfl⟩
  case round =>
   obtain⟨k,hk,rfl,hall⟩:=hrel;by_cases hlt:k<ts.length
   ·obtain⟨b,o,rfl,_,hc⟩:=HI.out k hlt
    by_cases hx:low<=ts[k]/\ts[k]<bl
    ·obtain⟨hx1,hx2⟩:=hx
     go_wp2
     go_round
     case rel=>exact⟨k+1,oM,gM,XS hlt hall.out (by simp[KG,hx1,hx2])⟩
     case measure=>simp[intOf];omega
    ·go_wp2
     all_goals
      go_ret
      exact⟨Xj (by rw[<-hR.out];exact(Jq hlt (by unfold KG;rw[Bool.and_eq_false_iff,decide_eq_false_iff_not,decide_eq_false_iff_not];omega)).symm),Xd (Xb (Below.refl _ _) _) hb1⟩
   ·go_wp2
    go_ret
    exact⟨Xj (by rw[<-hR.out];exact(Yv oM hall.out).symm),Xd (Xb (Below.refl _ _) _) hb1⟩
 ·obtain⟨d1,d2⟩:=c2.out dC
  obtain⟨rfl,rfl⟩:=c3.out rfl;clear c1 c2 c3
  go_enter Tryz.func86,Tryz.ntmps86
  go_wp2_with (go_at_call 89;refine(Z8 ⟨_,_,_,_⟩ _).mono ?_;rintro e w1 ⟨a,c,rfl,hb1,hi1⟩;rw[Xp hts]at hi1 |-;have HI:=Xa hi1;clear hi1)
  go_loop [10] (fun i=>∃k:Nat,k<=ts.length/\i=.int .i64 k/\Hid ((ts.take k).all (KG low bl)=true)) (fun i=>ts.length-(intOf i).toNat)
  case atStart=>exact⟨0,Nat.zero_le _,rfl,rfl⟩
  case round =>
   obtain⟨k,hk,rfl,hall⟩:=hrel;by_cases hlt:k<ts.length
   ·have:=hts.out
    simp[Zu.targets]at this;subst this;simp at hlt
   ·go_wp2
    go_ret
    exact⟨Xj (by rw[<-hR.out];exact(Yv oM hall.out).symm),Xd (Xb (Below.refl _ _) _) hb1⟩
theorem ZM(kind ta tg els n low bl:Int)(w:World)(h:¬(1<=kind/\kind<=3)\/(kind=1/\¬(ta=0/\els=0))\/(kind=3/\¬(tg=0/\els=0))\/(1<=kind/\kind<=3/\kind≠1/\¬(0<=ta/\ta<n))) :
 Calls Tryz.prog 86 #[.agg #[.int .i64 kind,.int .i64 ta,.int .i64 tg,.int .i64 els],.int .i64 n,.int .i64 low,.int .i64 bl] w fun e w'=>e=.returned (.bool false)/\Below w.heap.size w w':=by
 by_cases hk:1<=kind/\kind<=3
 ·have hc:kind=1\/kind=2\/kind=3:=oM
  rcases hc with rfl | rfl | rfl
  ·have h1:¬(ta=0/\els=0):=oM
   clear h hk;by_cases h2:ta=0
   ·subst h2
    have h3:(els != 0)=true:=by simp at h1;simp[h1]
    clear h1
    go_enter Tryz.func86,Tryz.ntmps86
    go_wp2
    go_ret
    exact⟨rfl,Xb (Below.refl _ _) _⟩
   ·have h3:(ta != 0)=true:=by simp[h2]
    clear h1 h2
    go_enter Tryz.func86,Tryz.ntmps86
    go_wp2
    go_ret
    exact⟨rfl,Xb (Below.refl _ _) _⟩
  ·have h1:ta<0\/n<=ta:=oM
   clear h hk
   go_enter Tryz.func86,Tryz.ntmps86
   go_wp2
   all_goals
    go_ret
    exact⟨rfl,Xb (Below.refl _ _) _⟩
  ·by_cases h1:tg=0/\els=0
   ·obtain⟨rfl,rfl⟩:=h1
    have h1:ta<0\/n<=ta:=oM;clear h hk
    go_enter Tryz.func86,Tryz.ntmps86
    go_wp2
    all_goals
     go_ret
     exact⟨rfl,Xb (Below.refl _ _) _⟩
   ·clear h hk
    by_cases h2:tg=0
    ·subst h2
     have h3:(els != 0)=true:=by simp at h1;simp[h1]
     clear h1
     go_enter Tryz.func86,Tryz.ntmps86
     go_wp2
     go_ret
     exact⟨rfl,Xb (Below.refl _ _) _⟩
    ·have h3:(tg != 0)=true:=by simp[h2]
     clear h1 h2
     go_enter Tryz.func86,Tryz.ntmps86
     go_wp2
     go_ret
     exact⟨rfl,Xb (Below.refl _ _) _⟩
 ·have h1:kind<1\/3<kind:=oM
  clear h hk
  go_enter Tryz.func86,Tryz.ntmps86
  go_wp2
  all_goals
   go_ret
   exact⟨rfl,Xb (Below.refl _ _) _⟩
theorem Ki(kind ta tg els n low bl:Int)(w:World) :
 Calls Tryz.prog 86 #[.agg #[.int .i64 kind,.int .i64 ta,.int .i64 tg,.int .i64 els],.int .i64 n,.int .i64 low,.int .i64 bl] w fun e w'=>e=.returned (.bool (Zh n low bl ⟨kind,ta,tg,els⟩))/\Below w.heap.size w w':=by
 by_cases hk:1<=kind/\kind<=3
 ·have hc:kind=1\/kind=2\/kind=3:=oM
  rcases hc with rfl | rfl | rfl
  ·rw[ZiC]
   by_cases h:ta=0/\els=0
   ·exact J6 1 ta tg els n low bl w [tg] _ rfl sP dC dC (fun _=>h) (fun e=>oM) (fun e=>absurd rfl e) (by obtain⟨rfl,rfl⟩:=h;show _=_;simp)
   ·have e:(ta==0&&KG low bl tg&&els==0)=false:=by
     by_cases h1:ta=0
     ·have:els≠0:=fun e=>h ⟨h1,e⟩
      simp[this]
     ·simp[h1]
    rw[e];exact ZM 1 ta tg els n low bl w (Or.inr (Or.inl ⟨rfl,h⟩))
  ·rw[Zj2]
   by_cases h:0<=ta/\ta<n
   ·exact J6 2 ta tg els n low bl w [tg,els] _ rfl sP dC dC (fun e=>oM) (fun e=>oM) (fun _=>h) (by show _=_;simp[KG,h.1,h.2])
   ·have e:KG 0 n ta=false:=by unfold KG;rw[Bool.and_eq_false_iff,decide_eq_false_iff_not,decide_eq_false_iff_not];omega
    rw[e];exact ZM 2 ta tg els n low bl w oM
  ·rw[ZiR]
   by_cases h:0<=ta/\ta<n
   ·by_cases h2:tg=0/\els=0
    ·exact J6 3 ta tg els n low bl w [] _ rfl sP dC dC (fun e=>oM) (fun _=>h2) (fun _=>h) (by obtain⟨rfl,rfl⟩:=h2;show _=_;simp[KG,h.1,h.2])
    ·have e:(KG 0 n ta&&tg==0&&els==0)=false:=by
      by_cases h1:tg=0
      ·have:els≠0:=fun e=>h2 ⟨h1,e⟩
       simp[this]
      ·simp[h1]
     rw[e];exact ZM 3 ta tg els n low bl w oM
   ·have e:KG 0 n ta=false:=by unfold KG;rw[Bool.and_eq_false_iff,decide_eq_false_iff_not,decide_eq_false_iff_not];omega
    rw[e];exact ZM 3 ta tg els n low bl w oM
 ·rw[Zc8 hk]
  exact ZM kind ta tg els n low bl w (Or.inl hk)
def hasI(xs:List Int)(x:Int):Bool:=xs.contains x
theorem Y7(a:Option Addr)(n c:Nat)(x:Int)(xs:List Int)(L B:Nat)(w:World)(ha:Hid (Xf w L B a xs))(hx:Hid (n=xs.length))(hn:n<=1048576) :
 Calls Tryz.prog 88 #[.slice a n c,.int .i64 x] w fun e w'=>e=.returned (.bool (hasI xs x))/\w'=w:=by
 go_enter Tryz.func88,Tryz.ntmps88
 go_wp2
 go_loop [5] (fun i=>∃k:Nat,k<=n/\i=.int .i64 k/\Hid (∀j (h:j<xs.length),j<k->xs[j]≠x)) (fun i=>n-(intOf i).toNat)
 case atStart=>exact⟨0,Nat.zero_le _,rfl,fun j hj h=>absurd h oM⟩
 case round =>
  obtain⟨k,hk,rfl,hno⟩:=hrel;by_cases hlt:k<n
  ·have hkx:k<xs.length:=by have:=hx.out;omega
   obtain⟨b,o,rfl,_,hc⟩:=ha.out k hkx;by_cases he:xs[k]=x
   ·have hb:(xs[k]==x)=true:=by simp[he]
    have HE:=Xa he;clear he;go_wp2
    go_ret
    exact⟨Xj (by unfold hasI;rw[eq_comm,List.contains_iff_mem,<-HE.out];exact List.getElem_mem hkx),rfl⟩
   ·have hb:(xs[k]==x)=false:=by simp[he]
    have HE:=Xa he;clear he;go_wp2
    go_round
    case rel=>exact⟨k+1,oM,gM,fun j hj h=>if e:j=k then by subst e;exact HE.out else hno.out j hj oM⟩
    case measure=>simp[intOf];omega
  ·go_wp2
   go_ret
   exact⟨Xj (by
    rw[eq_comm,Bool.eq_false_iff];intro hc;obtain⟨j,hj,e⟩:=List.getElem_of_mem (List.contains_iff_mem.1 (show xs.contains x=true from hc));exact hno.out j hj (by have:=hx.out;omega) e),rfl⟩
theorem ZcZ(t:Zu)(b:Int):t.targets.contains b=true↔(t.kind=1/\t.to=b)\/(t.kind=2/\(t.to=b\/t.els=b)):=by
 unfold Zu.targets;by_cases h1:t.kind=1
 ·rw[if_pos h1]
  simp only[h1,true_and,List.contains_iff_mem,List.mem_singleton];constructor
  ·intro h;exact Or.inl h.symm
  ·rintro(h | ⟨h,_⟩)
   ·exact h.symm
   ·omega
 ·rw[if_neg h1]
  by_cases h2:t.kind=2
  ·rw[if_pos h2]
   simp only[h2,true_and,List.contains_iff_mem,List.mem_cons,List.not_mem_nil,or_false];constructor
   ·rintro(h | h)
    ·exact Or.inr (Or.inl h.symm)
    ·exact Or.inr (Or.inr h.symm)
   ·rintro(⟨h,_⟩ | h | h)
    ·omega
    ·exact Or.inl h.symm
    ·exact Or.inr h.symm
  ·rw[if_neg h2]
   simp[h1,h2]
theorem ZA(x:Xh)(b:Int):∀(xs:List Xh)(i:Nat),predsFrom (xs++[x]) i b=predsFrom xs i b++(if x.term.targets.contains b then [((i+xs.length:Nat):Int)]else [])
 | [],i=>by simp[predsFrom]
 | y::ys,i=>by
  simp only[List.cons_append,predsFrom];have e:i+1+ys.length=i+(ys.length+1):=oM;rw[ZA x b ys (i+1),List.append_assoc,e,List.length_cons]
theorem Yl(b:Int):∀(xs:List Xh)(i:Nat),(predsFrom xs i b).length<=xs.length
 | [],_=>Nat.le_refl _
 | y::ys,i=>by
  simp only[predsFrom,List.length_append,List.length_cons];have:=Yl b ys (i+1);split<;>simp<;>omega
theorem Xl{w:World}{base e:Nat}{v:Value}{n:Nat}{xs:List Int}(h:w.ownsRow base e 1 v n (xs.map (Value.int .i64))):∃a c,v=.slice a xs.length c/\Xf w base w.heap.size a xs:=by
 obtain⟨hl,h | ⟨g,cap,cur,rfl,hg,hh,hc,_,hs,ht⟩⟩:=h
 ·obtain⟨rfl,rfl⟩:=h
  have:xs=[]:=by simpa using hl
  subst this;exact⟨_,_,rfl,fun i hi=>absurd hi sP⟩
 ·simp only[Nat.mul_one,List.length_map]at hl hs ht
  subst hl;refine⟨_,_,rfl,fun i hi=>⟨g,0,rfl,⟨hg,?_⟩,?_⟩⟩
  ·exact(Array.getElem?_eq_some_iff.1 hh).1
  ·have h1:(cur.toList.take xs.length)[i]?=some (Value.int .i64 xs[i]):=by rw[ht];simp[hi]
   rw[List.getElem?_take_of_lt hi]at h1;simp only[World.cell?,hh,Nat.zero_add];simpa using h1
theorem Tryz.info2':(Tryz.prog.info? 2).map (fun i=>(i.zero,i.size,i.bytes))=some (some (.int .i64 0),1,8):=vZ
theorem YD{W w':World}{base e s:Nat}{u:Value}{n:Nat}{xs:List Value}(hg:W.grownBy w' u.ownBlock)(ho:W.ownsRow base e s u n xs){b:Nat}(hb:b<base)(hz:b<W.heap.size):w'.heap[b]?=W.heap[b]? :=
 hg.block b hz (fun h=>by have:=(ho.lt b h.symm).1;omega)
theorem Xr{w W w':World}{B base e s:Nat}{u:Value}{n:Nat}{xs:List Value}(h:Below B w W)(hg:W.grownBy w' u.ownBlock)(ho:W.ownsRow base e s u n xs)(hb:B<=base)(hz:B<=W.heap.size):Below B w w' :=
 h.grown hg hz (fun k hk=>by have:=(ho.lt k hk).1;omega)
theorem JZ(w:World)(o:Obj):((w.alloc o).alloc (.cells #[] 2)).ownsRow (w.heap.size+1) 2 1 (.slice (some ⟨w.heap.size+1,0,none⟩) 0 0) 0 []:=by
 have h:=World.ownsRow_lit (base:=w.heap.size+1) (e:=2) (size:=1) (w.alloc o) #[] 0 sP sP rfl;rw[World.size_alloc]at h;exact h
theorem Yo(xs:List Int)(x:Int):(xs++[x]).map (Value.int .i64)=xs.map (Value.int .i64)++[.int .i64 x]:=sP
theorem Vt(v:Int)(a:Option Addr)(n c:Nat)(q:Int)(xs:List Xh)(L B:Nat)(w:World)(ha:Hid (Xk w L B a xs))(hx:Hid (n=xs.length))(hn:n<=1048576)(hB:B<=w.heap.size) :
 Calls Tryz.prog 61 #[.agg #[.int .i64 v,.slice a n c],.int .i64 q] w fun e w'=>∃a' c',e=.returned (.slice a' (predsFrom xs 0 q).length c')/\Below w.heap.size w w'/\Xf w' w.heap.size w'.heap.size a' (predsFrom xs 0 q):=by
 obtain⟨i0,hi0,hz0,hz1,hz2⟩:=info_parts Tryz.info2'
 go_enter Tryz.func61,Tryz.ntmps61
 go_wp2
 go_loopw [5,6] (fun u i wr=>∃k:Nat,k<=n/\i=.int .i64 k/\Below w.heap.size w wr/\w.heap.size<wr.heap.size/\wr.cell? ⟨w.heap.size,1,none⟩=some (.slice a n c)/\wr.ownsRow (w.heap.size+1) 2 1 u (predsFrom (xs.take k) 0 q).length ((predsFrom (xs.take k) 0 q).map (Value.int .i64))) (fun _ i _=>n-(intOf i).toNat)
 case atStart=>exact⟨0,Nat.zero_le _,rfl,Xb (Xb (Below.refl _ _) _) _,by simp;omega,sP,JZ _ _⟩
 case round =>
  obtain⟨k,hk,rfl,hw,hsz,hcell,hown⟩:=hrel;by_cases hlt:k<n
  ·have hkx:k<xs.length:=by have:=hx.out;omega
   obtain⟨b,o,rfl,⟨_,hbB⟩,hc⟩:=ha.out k hkx;obtain⟨pa,pc,ia,ic,_,_,⟨e2,e3,e4,e5⟩,_,_⟩:=hc.keep (hw.mono hB) oM;have hnx:Hid (predsFrom (xs.take (k+1)) 0 q=predsFrom (xs.take k) 0 q++(if xs[k].term.targets.contains q then [(k:Int)]else [])):=by
    show _=_;rw[Xq _ _ hkx,ZA];simp[Nat.min_eq_left (Nat.le_of_lt hkx)]
   have hpl:(predsFrom (xs.take k) 0 q).length<=1048576:=by have:=Yl q (xs.take k) 0;simp at this;omega
   have HO:=Xa hown;clear hown hc;have hth:=Xa (ZcZ xs[k].term q);generalize xs[k]=X at *;by_cases hin:X.term.targets.contains q=true
   ·have HN:Hid (predsFrom (xs.take (k+1)) 0 q=predsFrom (xs.take k) 0 q++[(k:Int)]):=by have:=hnx.out;rw[if_pos hin]at this;exact this
    have hcs:=hth.1 hin;clear hin hnx hth;generalize predsFrom (xs.take k) 0 q=ps at *;have hcs':(X.term.kind=1/\X.term.to=q)\/(X.term.kind=2/\X.term.to=q)\/(X.term.kind=2/\X.term.to≠q/\X.term.els=q):=oM;clear hcs;rcases hcs' with⟨d1,d2⟩ | ⟨d1,d2⟩ | ⟨d1,d3,d2⟩
    all_goals
     go_wp2_with (at_builtin;refine wpList_append_own _ rfl _ _ 25 rfl (w.heap.size+1) 2 i0 (.int .i64 0) 1 8 Tryz.underlying25 hi0 hz0 hz1 hz2 rfl dC _ _ _ rfl ((HO.alloc _).alloc _) ⟨wr.heap.size+1,0,none⟩ 1 1 [.int .i64 k] rfl rfl ?c1 ?c2 ?c3 ?c4 ?c5 ?_)
     case c1 =>
      intro j u hj
      match j,hj with
      | 0,hj=>simp at hj;subst hj;simp[Addr.add]
     case c2=>intro u hu;simp at hu;subst hu;rfl
     case c3=>unfold maxLen;omega
     case c4=>omega
     case c5=>simp;omega
     intro v1 w1 hown1 hgrow1 _;have HO1:=Xa hown1;clear hown1;go_wp2;have hb2:Below w.heap.size w w1:=Xr (Xb (Xb hw _) _) hgrow1 ((HO.alloc _).alloc _) oM (by simp;omega);have hbk:=YD hgrow1 ((HO.alloc _).alloc _) (b:=w.heap.size) oM (by simp;omega);have hsz1:=hgrow1.size;simp at hsz1;exact⟨⟨k+1,oM,gM,hb2,oM,(Xc hbk).trans (((Xb (Xb (Below.refl wr.heap.size wr) _) _).cell (p:=⟨w.heap.size,1,none⟩) hsz).trans hcell),by rw[HN.out,Yo];simpa using HO1.out⟩,by simp[intOf];omega⟩
   ·have HN:Hid (predsFrom (xs.take (k+1)) 0 q=predsFrom (xs.take k) 0 q):=by have:=hnx.out;rw[if_neg hin,List.append_nil]at this;exact this
    have hcs:¬((X.term.kind=1/\X.term.to=q)\/(X.term.kind=2/\(X.term.to=q\/X.term.els=q))):=fun h=>hin (hth.2 h)
    clear hin hnx hth;generalize predsFrom (xs.take k) 0 q=ps at *;have hcs':(X.term.kind=1/\(X.term.to==q)=false)\/(X.term.kind=2/\(X.term.to==q)=false/\(X.term.els==q)=false)\/((X.term.kind==1)=false/\(X.term.kind==2)=false):=by
     simp only[beq_eq_false_iff_ne];omega
    clear hcs;rcases hcs' with⟨d1,d2⟩ | ⟨d1,d2,d3⟩ | ⟨d1,d2⟩
    all_goals
     go_wp2;exact⟨⟨k+1,oM,gM,Xb hw _,by simp;omega,((Xb (Below.refl wr.heap.size wr) _).cell (p:=⟨w.heap.size,1,none⟩) hsz).trans hcell,by rw[HN.out];exact HO.alloc _⟩,by simp[intOf];omega⟩
  ·go_wp2
   go_ret
   have e:=List.take_of_length_le (l:=xs) (i:=k) (by have:=hx.out;omega);rw[e]at hown;obtain⟨a1,c1,rfl,hi1⟩:=Xl hown;exact⟨_,_,rfl,hw,hi1.mono oM (Nat.le_refl _)⟩
end Go.Proofs.YtlmgmkmomaileaaGreatDoor
namespace Go.Proofs.YtlmgmkmomaileaaGreatDoor
open Go.RowKit
theorem U1(b:Int):∀(xs:List Xh)(i:Nat),∀y∈predsFrom xs i b,(i:Int)<=y
 | [],_,y,h=>by simp[predsFrom]at h
 | x::xs,i,y,h=>by
  rw[predsFrom,List.mem_append]at h;rcases h with h | h
  ·split at h
   ·simp at h;omega
   ·simp at h
  ·have:=U1 b xs (i+1) y h;omega
theorem ZV(b:Int):∀(xs:List Xh)(i:Nat),(predsFrom xs i b).Nodup
 | [],_=>by simp[predsFrom]
 | x::xs,i=>by
  rw[predsFrom];split
  ·rw[List.singleton_append,List.nodup_cons]
   exact⟨fun h=>by have:=U1 b xs (i+1) _ h;omega,ZV b xs (i+1)⟩
  ·rw[List.nil_append];exact ZV b xs (i+1)
def ZX(ps:List Int)(p:Int):Nat:=ps.findIdx (fun y=>p==y)
theorem VE{ps:List Int}{p:Int}(h:p∈ps):ZX ps p<ps.length:=by
 unfold ZX;rw[List.findIdx_lt_length];exact⟨p,h,sP⟩
theorem ZeX{ps:List Int}{p:Int}(h:ZX ps p<ps.length):ps[ZX ps p]=p:=by
 have:=List.findIdx_getElem (p:=fun y=>p==y) (xs:=ps) (w:=h);simp only[beq_iff_eq]at this;exact this.symm
theorem Ziw{ps:List Int}{p:Int}{j:Nat}(h:j<ZX ps p)(hl:j<ps.length):(p==ps[j])=false:=by
 have:=List.not_of_lt_findIdx (p:=fun y=>p==y) (xs:=ps) (i:=j) h;simpa using this
def takesR(q:Nat)(phs:List Ph):List (Int × Int):=phs.map fun ph=>(ph.dst,ph.args.getD q 0)
end Go.Proofs.YtlmgmkmomaileaaGreatDoor
namespace Go.Proofs.YtlmgmkmomaileaaGreatDoor
open Go.RowKit
structure Xy where
 instrs:List XN
 term:Zu
def TP(w:World)(L B b o:Nat)(x:Xy):Prop :=
 ∃ia ic,w.cell? ⟨b,o,none⟩=some (.slice ia x.instrs.length ic)/\YW w b (o+1) x.term/\X0 w L B ia x.instrs
def Y4(w:World)(L B:Nat)(a:Option Addr)(xs:List Xy):Prop :=
 ∀i (h:i<xs.length),∃b o,a=some ⟨b,o,none⟩/\(L<=b/\b<B)/\TP w L B b (o+i*5) xs[i]
variable {w w' : World} {L B : Nat}
theorem TP.keepS{b o:Nat}{x:Xy}(h:TP w L B b o x)(k:Xv L B w w')(e:w'.heap[b]?=w.heap[b]?):TP w' L B b o x:=by
 obtain⟨ia,ic,h0,h2,h4⟩:=h;exact⟨ia,ic,(Xc e).trans h0,h2.keepS e,h4.keepS k⟩
theorem Y4.keepS{a:Option Addr}{xs:List Xy}(h:Y4 w L B a xs)(k:Xv L B w w'):Y4 w' L B a xs:=fun i hi=>by
 obtain⟨b,o,e,hb,hc⟩:=h i hi;exact⟨b,o,e,hb,hc.keepS k (k b hb.1 hb.2)⟩
theorem TP.keep{b o:Nat}{x:Xy}(h:TP w L B b o x)(k:Below B w w')(hb:b<B):TP w' L B b o x:=h.keepS (Xv.of_below k) (k.block b hb)
theorem Y4.keep{a:Option Addr}{xs:List Xy}(h:Y4 w L B a xs)(k:Below B w w'):Y4 w' L B a xs:=h.keepS (Xv.of_below k)
def ZbL(xs:List Xy):Prop:=∀x∈xs,x.instrs.length<=1048576
end Go.Proofs.YtlmgmkmomaileaaGreatDoor
namespace Go.Proofs.YtlmgmkmomaileaaGreatDoor
open Go.RowKit
variable {F : Fence} {n : Nat} {P : Program} {α : Type}
def Zkj(F:Fence)(n:Nat)(P:Program)(g:Nat)(lb:Array Value)(encs:α->Array Value)(Px:α->World->Prop)(Kp:World->World->Prop)(S:List α->Prop)(N:Nat)(w:World):Prop :=
 ∀(l:Nat)(J:List α->World->Prop)(W:World),Below w.heap.size w W->l<W.heap.size->OwnFrom W.heap.size J ->
  (∀pre x V,J pre V->Px x V->pre.length<N->YieldAt F (n-1) P l (encs x) V fun e V'=>e=.returned (.bool true)/\J (pre++[x]) V'/\Kp V V'/\KeepsFrom W.heap.size V V') ->
  J [] W->CallsIn F n P g (#[.func (.yield l) #[] #[]]++lb) W fun e V=>(∃v,e=.returned v)/\∃xs,S xs/\J xs V
def Kd(fn:FuncId)(tm:Array Value)(ps:Array Tmp)(asg bo:Code)(D:Nat)(st:LoopState)(pe:Option Code):Loop:={ state:=st,pending:=pe,fn,tmps:=tm,params:=ps,assign:=asg,body:=bo,defers:=D }
def YO(W:World)(D:Nat)(r:Loop):Prop:=W.heap[D+1]?=some (.loop r)/\W.heap[D]?=some (.deferred (some []))
theorem YO.put{W:World}{D:Nat}{r:Loop}(h:YO W D r)(r':Loop):YO (W.putObj (D+1) (.loop r')) D r' :=
 ⟨World.putObj_heap_same (Array.getElem?_eq_some_iff.1 h.1).1,(World.putObj_heap_other oM).trans h.2⟩
theorem YO.own{W V:World}{D:Nat}{r:Loop}{row:Option Nat}(h:YO W D r)(g:W.grownBy V row)(hr:∀k,row=some k->D+2<=k):YO V D r :=
 ⟨(g.block _ (Array.getElem?_eq_some_iff.1 h.1).1 (fun e=>by have:=hr _ e.symm;omega)).trans h.1,(g.block _ (Array.getElem?_eq_some_iff.1 h.2).1 (fun e=>by have:=hr _ e.symm;omega)).trans h.2⟩
theorem YO.keeps{W V:World}{D:Nat}{r:Loop}(h:YO W D r)(k:KeepsOthers W V):YO V D r:=⟨k.same _ _ h.1 rfl,k.same _ _ h.2 rfl⟩
theorem YO.fin{W:World}{D:Nat}{fn:FuncId}{tm:Array Value}{ps:Array Tmp}{asg bo:Code}(h:YO W D (Kd fn tm ps asg bo D .busy none))(j:Option Code):(Instr.endRound (D+1) j).run P W=.ok (.bool j.isNone) (W.putObj (D+1) (.loop (Kd fn tm ps asg bo D (if j.isNone then .ready else .done) j))):=run_endRound j h.1
theorem Zhh{g:Operand}{ps:Array Tmp}{asg bo:Code}{Q:Exit->Act->World->Prop}{a:Act}{w:World}(hro:F.round=none)(h1:1<=n){gf:Nat}{lb:Array Value}(hg:a.eval g=.func (.func gf) #[] lb)(hFg:F.fn gf)(eg:∀args w,(callFunc gf args).run P w=.ok (.enter gf args) w)
 {encs:α->Array Value} {Px:α->World->Prop} {Kp:World->World->Prop} {S:List α->Prop} {N:Nat} {w0:World} (hseq:Zkj F (n-1) P gf lb encs Px Kp S N w0) (hPx:OwnFrom w.heap.size Px) (hKt:∀{A B C:World},Kp A B->Kp B C->Kp A C) (hKb:∀(W:World)(l:Nat)(o o':Obj),w.heap.size<=l->W.heap[l]?=some o->o.isCells=false->Kp W (W.putObj l o')) (hb0:Below w0.heap.size w0 w) (hps:∀x,(encs x).size=ps.size)
 (I:List α->World->Prop) (hI:OwnFrom w.heap.size I) (h0:I [] w) (Ax:α->Act->World->Prop) (hAx:∀x a',OwnFrom w.heap.size (fun (_:Unit) W=>Ax x a' W))
 (hassign:∀(l:Nat)(pre:List α)(x:α)(W:World)(K:Act->World->Prop),I pre W->Px x W->(∀a' W',KeepsOthers W W'->Kp W W'->I pre W'->Px x W'->Ax x a' W'->K a' W')->asg.wpIn (F.inRound l) (n-1-1) P (Exit.then K (fun _ _ _=>False)) { tmps:=(ps.zip (encs x)).foldl (fun t (p,v)=>t.setIfInBounds p v) a.tmps,defers:=[] } W)
 (hbody:∀(l:Nat)(pre:List α)(x:α)(a':Act)(W:World),I pre W->Px x W->Ax x a' W->pre.length<N->bo.wpIn (F.inRound l) (n-1-1) P (ownPostK Kp I (fun _ _ _=>False) (pre++[x]) W) a' W)
 (hdone:∀(D:Nat)(xs:List α)(W:World),w.heap.size<=D->S xs->I xs W->W.heap[D]?=some (.deferred (some []))->Q .normal { a with defers:={ target:=.collected D,args:=#[] } :: a.defers } W) :
 (Code.rangeFunc g ps asg bo).wpIn F n P Q a w:=by
 refine wpIn_rangeFunc (fun fn hfn=>?_);rw[hro];have hrun:=run_enterLoop_outer (P:=P) (w:=w) fn a.tmps ps asg bo;generalize hW:(w.alloc (.deferred (some []))).alloc (.loop { state:=.ready,pending:=none,fn,tmps:=a.tmps,params:=ps,assign:=asg,body:=bo,defers:=w.heap.size })=W1 at hrun;have hR1:YO W1 w.heap.size (Kd fn a.tmps ps asg bo w.heap.size .ready none):=by
  subst hW;refine⟨?_,?_⟩
  ·have:=World.alloc_heap_new (w.alloc (.deferred (some []))) (.loop (Kd fn a.tmps ps asg bo w.heap.size .ready none))
   rwa[World.size_alloc]at this
  ·exact(Below.heap_alloc _ _ _ sP).trans (World.alloc_heap_new w _)
 have hz1:W1.heap.size=w.heap.size+2:=by subst hW;simp
 have hI1:I [] W1:=by subst hW;exact hI.alloc _ (hI.alloc _ h0)
 have hB1:Below w0.heap.size w0 W1:=by
  subst hW;exact hb0.trans ((Xb (Xb (Below.refl w.heap.size w) _) _).mono hb0.size)
 clear hW;refine⟨_,_,W1,{ target:=.fn (.func gf) lb,args:=#[.func (.yield (w.heap.size+1)) #[] #[]] },W1,gf,#[.func (.yield (w.heap.size+1)) #[] #[]]++lb,W1,hrun,?_,?_,?_,fun _=>h1,?_⟩
 ·simp only[resolve,hg]
  simp[go_sem]
 ·intro f' hf'
  simp[Target.leads]at hf';subst hf';exact hFg
 ·simp[invoke,go_sem,eg]
 ·have ow:∀{r:Loop}{A V:World}{row:Option Nat},YO A w.heap.size r->A.grownBy V row->(∀k,row=some k->W1.heap.size<=k/\∃o:Obj,A.heap[k]?=some o/\o.isCells=false)->YO V w.heap.size r:=fun h k q=>h.own k (fun z e=>by have:=(q z e).1;omega)
  have fr:∀{A:World}{row:Option Nat},(∀k,row=some k->W1.heap.size<=k/\∃o:Obj,A.heap[k]?=some o/\o.isCells=false)->∀k,row=some k->w.heap.size<=k/\∃o:Obj,A.heap[k]?=some o/\o.isCells=false:=fun q k e=>⟨by have:=(q k e).1;omega,(q k e).2⟩
  refine(hseq (w.heap.size+1) (fun pre W=>I pre W/\YO W w.heap.size (Kd fn a.tmps ps asg bo w.heap.size .ready none)) W1 hB1 oM
   (fun s A V row hs k q=>⟨hI s A V row hs.1 k (fr q),ow hs.2 k q⟩) ?_ ⟨hI1,hR1⟩).mono ?_
  ·rintro pre x W ⟨hi,hr⟩ hpx hlen
   have hy:(Instr.yield (w.heap.size+1) (encs x)).run P W=_:=run_yield (P:=P) hr.1 (hps x);refine⟨_,_,_,_,hy,roundIn_of_wpIn hfn (hassign _ pre x W _ hi hpx (fun a' W' hko hkp hi' hpx' hax=>?_))⟩;have hr':=hr.keeps hko;refine⟨_,run_beginRound hr'.1 rfl,?_⟩;have hrb:YO (W'.putObj (w.heap.size+1) (.loop (Kd fn a.tmps ps asg bo w.heap.size .busy none))) w.heap.size (Kd fn a.tmps ps asg bo w.heap.size .busy none):=hr'.put _;have hkb:Kp W (W'.putObj (w.heap.size+1) (.loop (Kd fn a.tmps ps asg bo w.heap.size .busy none))):=hKt hkp (hKb _ _ _ _ oM hr'.1 rfl);refine wpIn_mono (hbody _ pre x a' _ (hI.putObj _ hi' oM hr'.1 rfl) (hPx.putObj _ hpx' oM hr'.1 rfl) ((hAx x a').putObj (s:=()) _ hax oM hr'.1 rfl) hlen) ?_;rintro e a3 V hp;cases e with
   | normal =>
    have hv:=hrb.keeps hp.1;exact⟨_,_,hv.fin none,⟨rfl,⟨hI.putObj _ hp.2.2 oM hv.1 rfl,hv.put _⟩,hKt (hKt hkb hp.2.1) (hKb _ _ _ _ oM hv.1 rfl),(((hko.from _).trans (KeepsFrom.of_grownBy (grownBy_putObj' W' _ _) (fun j e=>by cases e;omega))).trans (hp.1.from _)).trans (KeepsFrom.of_grownBy (grownBy_putObj' V _ _) (fun j e=>by cases e;omega))⟩⟩
   | ret=>exact hp.2.elim
   | exit id=>exact hp.2.elim
   | goto t=>exact hp.2.elim
   | panic ch=>exact hp.elim
   | outgrown=>exact hp.elim
  ·rintro e V ⟨⟨v,rfl⟩,xs,hS,hi,hr⟩
   exact⟨none,_,run_endLoop hr.1 (by simp[Kd]),hdone _ xs _ (Nat.le_refl _) hS (hI.putObj _ hi oM hr.1 rfl) (hr.put _).2⟩
end Go.Proofs.YtlmgmkmomaileaaGreatDoor
namespace Go.Proofs.YtlmgmkmomaileaaGreatDoor
set_option maxRecDepth 100000
set_option maxHeartbeats 2000000
open Go.RowKit Go.Shelf
attribute [local go_sem] Oper.semAt_some
structure Zi(n₀:Nat)(Ms:Nat->Prop)(V V':World):Prop where
 size:V.heap.size<=V'.heap.size
 low:∀k,k<n₀->¬Ms k->V'.heap[k]?=V.heap[k]?
 cells:∀(k:Nat)(o:Obj),¬Ms k->V.heap[k]?=some o->o.isCells=true->V'.heap[k]?=some o
theorem Zi.refl{n₀:Nat}{Ms:Nat->Prop}(V:World):Zi n₀ Ms V V:=⟨Nat.le_refl _,fun _ _ _=>rfl,fun _ _ _ h _=>h⟩
theorem Zi.trans{n₀:Nat}{Ms:Nat->Prop}{A B C:World}(h:Zi n₀ Ms A B)(k:Zi n₀ Ms B C):Zi n₀ Ms A C :=
 ⟨Nat.le_trans h.size k.size,fun i hi hm=>(k.low i hi hm).trans (h.low i hi hm),fun i o hm h1 h2=>k.cells i o hm (h.cells i o hm h1 h2) h2⟩
theorem Zi.putObj{n₀:Nat}{Ms:Nat->Prop}(W:World)(l:Nat)(o o':Obj)(hl:n₀<=l)(h:W.heap[l]?=some o)(ho:o.isCells=false):Zi n₀ Ms W (W.putObj l o'):=by
 have hg:=grownBy_putObj' W l o';refine⟨hg.size,fun k hk _=>?_,fun k o2 _ h1 h2=>?_⟩
 ·exact World.putObj_heap_other oM
 ·exact(World.putObj_heap_other (fun e=>by subst e;rw[h]at h1;injection h1 with h1;subst h1;rw[ho]at h2;cases h2)).trans h1
theorem Zi.of_below{n₀:Nat}{Ms:Nat->Prop}{V V':World}(h:Below V.heap.size V V')(hn:n₀<=V.heap.size):Zi n₀ Ms V V' :=
 ⟨h.size,fun k hk _=>h.block k oM,fun k o _ h1 _=>(h.block k (Array.getElem?_eq_some_iff.1 h1).1).trans h1⟩
theorem Yz{V:World}{p:Addr}{v:Value}(h:V.cell? p=some v):∃o:Obj,V.heap[p.block]?=some o/\o.isCells=true:=by
 unfold World.cell? at h;cases ho:V.heap[p.block]? with
 | none=>simp[ho]at h
 | some o=>exact⟨o,rfl,by cases o<;>simp_all[Obj.isCells]⟩
theorem Zi.block{n₀:Nat}{Ms:Nat->Prop}{V V':World}(h:Zi n₀ Ms V V'){p:Addr}{v:Value}(hc:V.cell? p=some v)(hm:¬Ms p.block):V'.heap[p.block]?=V.heap[p.block]?:=by
 obtain⟨o,h1,h2⟩:=Yz hc;rw[h1];exact h.cells _ _ hm h1 h2
theorem Zi.cell{n₀:Nat}{Ms:Nat->Prop}{V V':World}(h:Zi n₀ Ms V V'){p:Addr}{v:Value}(hc:V.cell? p=some v)(hm:¬Ms p.block):V'.cell? p=some v :=
 (World.cell?_of_block (h.block hc hm)).trans hc
def Zax(x:XN):Value:=.agg #[.int .i64 x.op,.int .i64 x.dst,.int .i64 x.a,.int .i64 x.b,.int .i64 x.imm]
def TT(n:Nat)(k:Nat):List (Fin n):=((List.finRange n).reverse).take (n-k)
theorem Tu(n:Nat):TT n n=[]:=by simp[TT]
theorem UB(n k:Nat):(TT n k).length=n-k:=by simp[TT]
theorem KP{n q:Nat}(h:q<n):TT n q=TT n (q+1)++[⟨q,h⟩]:=by
 unfold TT;have e:n-q=(n-(q+1))+1:=oM;rw[e,List.take_succ_eq_append_getElem (by simp;omega)];congr 1;simp;omega
theorem Zka(F:Fence)(n:Nat)(h8:F.fn 150)(hro:F.round=none)(hn:1<=n)(l Bs n₀ cap:Nat)(Ms:Nat->Prop)(a:Option Addr)(xs:List XN)(L B:Nat)(hreach:xs.length<=1000000)(hM:∀k,L<=k->k<B->¬Ms k)(hMs:¬Ms Bs)(J Jx:List (Fin xs.length)->World->Prop)
 (hY:∀(pre:List (Fin xs.length))(x:Fin xs.length)(W:World),J pre W->pre.length<xs.length->YieldAt F (n-1) Tryz.prog l #[.int .i64 ((x:Nat):Int),Zax xs[x]] W fun e W' =>
  (e=.returned (.bool true)/\J (pre++[x]) W'/\Zi n₀ Ms W W')\/(e=.returned (.bool false)/\Jx (pre++[x]) W'))
 (W:World) (hBs:W.cell? ⟨Bs,0,none⟩=some (.slice a xs.length cap)) (hc:Hid (X0 W L B a xs)) (h0:J [] W) :
 CallsIn F n Tryz.prog 150 #[.func (.yield l) #[] #[],.pointer (some ⟨Bs,0,none⟩)] W fun e W'=>(∃v,e=.returned v) /\
  ((∃ys,ys=TT xs.length 0/\J ys W')\/(∃pre,True/\Jx pre W')):=by
 refine callsIn_of_wp Tryz.func150 rfl h8 ?_ hro;simp only[Tryz.ntmps150,List.size_toArray,List.length_cons,List.length_nil,Nat.reduceAdd,Nat.reduceSub,Array.replicate_succ,Array.replicate_zero,List.push_toArray,List.append_toArray,List.nil_append,List.cons_append]
 gi_wp2
 gi_loopw [3] (fun i wr=>∃(k:Nat)(z:Int),k<=xs.length/\i=.int .i64 z/\z+1=(k:Int)/\J (TT xs.length k) wr/\Zi n₀ Ms W wr)
  (fun i _=>(intOf i+1).toNat)
 case atStart=>exact⟨xs.length,_,Nat.le_refl _,rfl,oM,by rw[Tu];exact h0,Zi.refl _⟩
 case round =>
  obtain⟨k,z,hk,rfl,hzk,hJs,hnx⟩:=hrel;have hBs':=hnx.cell hBs hMs;cases k with
  | zero =>
   have hz1:z=-1:=oM;subst hz1
   gi_wp2
   go_end0
   exact⟨⟨_,rfl⟩,.inl ⟨_,rfl,hJs⟩⟩
  | succ q =>
   have hz1:z=(q:Int):=oM;subst hz1;have hq:q<xs.length:=hk;obtain⟨b,o,ea,hbB,hcx⟩:=hc.out q hq;subst ea;have hMb:=hM b hbB.1 hbB.2;obtain⟨q0,q1,q2,q3,q4⟩:=hcx;have r0:=hnx.cell q0 hMb;have r1:=hnx.cell q1 hMb;have r2:=hnx.cell q2 hMb;have r3:=hnx.cell q3 hMb;have r4:=hnx.cell q4 hMb;clear q0 q1 q2 q3 q4;obtain⟨fn,tmps,assign,body,hy,hR⟩:=hY _ ⟨q,hq⟩ wr hJs (by rw[UB];omega);have hyy:(Instr.yield l #[.int .i64 ((q:Nat):Int),.agg #[.int .i64 xs[q].op,.int .i64 xs[q].dst,.int .i64 xs[q].a,.int .i64 xs[q].b,.int .i64 xs[q].imm]]).run Tryz.prog wr=_:=hy;clear hy
   gi_wp2
   refine hR.mono ?_;rintro e W3 (⟨rfl,hJ3,hk3⟩ | ⟨rfl,hJx3⟩)
   ·gi_wp2
    go_roundw
    case rel=>exact⟨q,_,oM,rfl,oM,by rw[KP hq];exact hJ3,hnx.trans hk3⟩
    case measure=>simp[intOf]
   ·gi_wp2
    refine bodyPost_ret (results_none rfl _ _ _) rfl ?_;exact⟨⟨_,rfl⟩,.inr ⟨_,trivial,hJx3⟩⟩
theorem U4(F:Fence)(n:Nat)(h6:F.fn 135)(hro:F.round=none)(a:Option Addr)(len cap:Nat)(w:World) :
 CallsIn F n Tryz.prog 135 #[.slice a len cap] w fun e w'=>e=.returned (.func (.func 150) #[] #[.pointer (some ⟨w.heap.size,0,none⟩)])/\w'=w.alloc (.cells #[.slice a len cap] 46):=by
 refine callsIn_of_wp Tryz.func135 rfl h6 ?_ hro;simp only[Tryz.ntmps135,List.size_toArray,List.length_cons,List.length_nil,Nat.reduceAdd,Nat.reduceSub,Array.replicate_succ,Array.replicate_zero,List.push_toArray,List.append_toArray,List.nil_append,List.cons_append]
 gi_wp2
 go_ret
 exact⟨rfl,rfl⟩
theorem Vz(F:Fence)(n:Nat)(h8:F.fn 150)(hro:F.round=none)(hn:1<=n)(Bs n₀ cap:Nat)(Ms:Nat->Prop)(a:Option Addr)(xs:List XN)(L B:Nat)(hreach:xs.length<=1000000)(hB:B<=n₀)(hM:∀k,L<=k->k<B->¬Ms k)(hMs:¬Ms Bs)(w:World)(hn0:n₀<=w.heap.size)(hBs:Bs<w.heap.size)
 (hc:w.cell? ⟨Bs,0,none⟩=some (.slice a xs.length cap)) (hI:Hid (X0 w L B a xs)) :
 SeqStopsK F n Tryz.prog 150 #[.pointer (some ⟨Bs,0,none⟩)] (fun x:Fin xs.length=>#[Value.int .i64 ((x:Nat):Int),Zax xs[x]]) (Zi n₀ Ms) (fun ys=>ys=TT xs.length 0) (fun _=>True) xs.length w:=fun l J Jx W hW _ _ hY h0 =>
 Zka F n h8 hro hn l Bs n₀ cap Ms a xs L B hreach hM hMs J Jx hY W ((hW.cell (p:=⟨Bs,0,none⟩) hBs).trans hc) (Xa (hI.keepS (fun k _ h2=>hW.block k oM))) h0
end Go.Proofs.YtlmgmkmomaileaaGreatDoor
