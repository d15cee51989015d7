import Derived.Test.YthgikffcdgpgiaaGreatDoorPure
import Derived.Deep.RegionHeld3
namespace Go.Proofs.YthgikffcdgpgiaaGreatDoor
set_option maxHeartbeats 2000000
set_option maxRecDepth 100000
open Go.RowKit
def JH(lo hi x:Int):Bool:=decide (lo<=x)&&decide (x<hi)
theorem Zgs(n lo bl a tg els:Int):YI n lo bl ⟨1,a,tg,els⟩=(a==0&&JH lo bl tg&&els==0):=by simp[YI,JI,JH]
theorem ZgX(n lo bl a tg els:Int):YI n lo bl ⟨2,a,tg,els⟩=(JH 0 n a&&JH lo bl tg&&JH lo bl els):=by simp[YI,JI,JH]
theorem ZgN(n lo bl a tg els:Int):YI n lo bl ⟨3,a,tg,els⟩=(JH 0 n a&&tg==0&&els==0):=by simp[YI,JI,JH]
theorem Zb0{n lo bl k a tg els:Int}(h:¬(1<=k/\k<=3)):YI n lo bl ⟨k,a,tg,els⟩=false:=by
 unfold YI;by_cases h1:1<=k
 ·rw[decide_eq_false (p:=k<=3) oM];simp
 ·rw[decide_eq_false (p:=1<=k) h1];simp
theorem XM{α:Type}{p:α->Bool}{xs:List α}{k:Nat}(hk:k<xs.length)(h:(xs.take k).all p=true)(hp:p xs[k]=true):(xs.take (k+1)).all p=true:=by
 rw[Xr xs k hk,List.all_append,h];simp[hp]
theorem ZA{α:Type}{p:α->Bool}{xs:List α}{k:Nat}(hk:k<xs.length)(hp:p xs[k]=false):xs.all p=false:=by
 rw[List.all_eq_false];exact⟨_,List.getElem_mem hk,by simp[hp]⟩
theorem Yi{α:Type}{p:α->Bool}{xs:List α}{k:Nat}(hk:xs.length<=k)(h:(xs.take k).all p=true):xs.all p=true:=by
 rwa[List.take_of_length_le hk]at h
theorem ZS(kind ta tg els n low bl:Int)(w:World)(ts:List Int)(R:Bool)(hts:Hid ((ZX.mk kind ta tg els).targets=ts))(hlen:ts.length<=2)(hk1:1<=kind)(hk3:kind<=3)
 (c1:Hid (kind=1->ta=0/\els=0)) (c3:Hid (kind=3->tg=0/\els=0)) (c2:Hid (kind≠1->0<=ta/\ta<n)) (hR:Hid (ts.all (JH low bl)=R)) :
 Calls Tryz.prog 75 #[.agg #[.int .i64 kind,.int .i64 ta,.int .i64 tg,.int .i64 els],.int .i64 n,.int .i64 low,.int .i64 bl] w fun e w'=>e=.returned (.bool R)/\Below w.heap.size w w':=by
 have hc:kind=1\/kind=2\/kind=3:=oM;have hb0:=Xa hlen;rcases hc with rfl | rfl | rfl
 ·obtain⟨rfl,rfl⟩:=c1.out rfl
  clear c1 c2 c3
  go_enter Tryz.func75,Tryz.ntmps75
  go_wp2_with (go_at_call 77;refine(Zd ⟨_,_,_,_⟩ _).mono ?_;rintro e w1 ⟨a,c,rfl,hb1,hi1⟩;rw[Xq hts]at hi1 |-;have HI:=Xa hi1;clear hi1)
  go_loop [10] (fun i=>∃k:Nat,k<=ts.length/\i=.int .i64 k/\Hid ((ts.take k).all (JH low bl)=true)) (fun i=>ts.length-(intOf i).toNat)
  case atStart=>exact⟨0,Nat.zero_le _,rfl,rfl⟩
  case round =>
   obtain⟨k,hk,rfl,hall⟩:=hrel;by_cases hlt:k<ts.length
   ·obtain⟨b,o,rfl,_,hc⟩:=HI.out k hlt
    by_cases hx:low<=ts[k]/\ts[k]<bl
    ·obtain⟨hx1,hx2⟩:=hx
     go_wp2
     go_round
     case rel=>exact⟨k+1,oM,gM,XM hlt hall.out (by simp[JH,hx1,hx2])⟩
     case measure=>simp[intOf];omega
    ·go_wp2
     all_goals
      go_ret
      exact⟨Xm (by rw[<-hR.out];exact(ZA hlt (by unfold JH;rw[Bool.and_eq_false_iff,decide_eq_false_iff_not,decide_eq_false_iff_not];omega)).symm),Xe (Xb (Below.refl _ _) _) hb1⟩
   ·go_wp2
    go_ret
    exact⟨Xm (by rw[<-hR.out];exact(Yi oM hall.out).symm),Xe (Xb (Below.refl _ _) _) hb1⟩
 ·obtain⟨d1,d2⟩:=c2.out vZ
  clear c1 c2 c3
  go_enter Tryz.func75,Tryz.ntmps75
  go_wp2_with (go_at_call 77;refine(Zd ⟨_,_,_,_⟩ _).mono ?_;rintro e w1 ⟨a,c,rfl,hb1,hi1⟩;rw[Xq hts]at hi1 |-;have HI:=Xa hi1;clear hi1)
  go_loop [10] (fun i=>∃k:Nat,k<=ts.length/\i=.int .i64 k/\Hid ((ts.take k).all (JH low bl)=true)) (fun i=>ts.length-(intOf i).toNat)
  case atStart=>exact⟨0,Nat.zero_le _,rfl,rfl⟩
  case round =>
   obtain⟨k,hk,rfl,hall⟩:=hrel;by_cases hlt:k<ts.length
   ·obtain⟨b,o,rfl,_,hc⟩:=HI.out k hlt
    by_cases hx:low<=ts[k]/\ts[k]<bl
    ·obtain⟨hx1,hx2⟩:=hx
     go_wp2
     go_round
     case rel=>exact⟨k+1,oM,gM,XM hlt hall.out (by simp[JH,hx1,hx2])⟩
     case measure=>simp[intOf];omega
    ·go_wp2
     all_goals
      go_ret
      exact⟨Xm (by rw[<-hR.out];exact(ZA hlt (by unfold JH;rw[Bool.and_eq_false_iff,decide_eq_false_iff_not,decide_eq_false_iff_not];omega)).symm),Xe (Xb (Below.refl _ _) _) hb1⟩
   ·go_wp2
    go_ret
    exact⟨Xm (by rw[<-hR.out];exact(Yi oM hall.out).symm),Xe (Xb (Below.refl _ _) _) hb1⟩
 ·obtain⟨d1,d2⟩:=c2.out vZ
  obtain⟨rfl,rfl⟩:=c3.out rfl;clear c1 c2 c3
  go_enter Tryz.func75,Tryz.ntmps75
  go_wp2_with (go_at_call 77;refine(Zd ⟨_,_,_,_⟩ _).mono ?_;rintro e w1 ⟨a,c,rfl,hb1,hi1⟩;rw[Xq hts]at hi1 |-;have HI:=Xa hi1;clear hi1)
  go_loop [10] (fun i=>∃k:Nat,k<=ts.length/\i=.int .i64 k/\Hid ((ts.take k).all (JH low bl)=true)) (fun i=>ts.length-(intOf i).toNat)
  case atStart=>exact⟨0,Nat.zero_le _,rfl,rfl⟩
  case round =>
   obtain⟨k,hk,rfl,hall⟩:=hrel;by_cases hlt:k<ts.length
   ·have:=hts.out
    simp[ZX.targets]at this;subst this;simp at hlt
   ·go_wp2
    go_ret
    exact⟨Xm (by rw[<-hR.out];exact(Yi oM hall.out).symm),Xe (Xb (Below.refl _ _) _) hb1⟩
theorem Zv(kind ta tg els n low bl:Int)(w:World)(h:¬(1<=kind/\kind<=3)\/(kind=1/\¬(ta=0/\els=0))\/(kind=3/\¬(tg=0/\els=0))\/(1<=kind/\kind<=3/\kind≠1/\¬(0<=ta/\ta<n))) :
 Calls Tryz.prog 75 #[.agg #[.int .i64 kind,.int .i64 ta,.int .i64 tg,.int .i64 els],.int .i64 n,.int .i64 low,.int .i64 bl] w fun e w'=>e=.returned (.bool false)/\Below w.heap.size w w':=by
 by_cases hk:1<=kind/\kind<=3
 ·have hc:kind=1\/kind=2\/kind=3:=oM
  rcases hc with rfl | rfl | rfl
  ·have h1:¬(ta=0/\els=0):=oM
   clear h hk;by_cases h2:ta=0
   ·subst h2
    have h3:(els != 0)=true:=by simp at h1;simp[h1]
    clear h1
    go_enter Tryz.func75,Tryz.ntmps75
    go_wp2
    go_ret
    exact⟨rfl,Xb (Below.refl _ _) _⟩
   ·have h3:(ta != 0)=true:=by simp[h2]
    clear h1 h2
    go_enter Tryz.func75,Tryz.ntmps75
    go_wp2
    go_ret
    exact⟨rfl,Xb (Below.refl _ _) _⟩
  ·have h1:ta<0\/n<=ta:=oM
   clear h hk
   go_enter Tryz.func75,Tryz.ntmps75
   go_wp2
   all_goals
    go_ret
    exact⟨rfl,Xb (Below.refl _ _) _⟩
  ·by_cases h1:tg=0/\els=0
   ·obtain⟨rfl,rfl⟩:=h1
    have h1:ta<0\/n<=ta:=oM;clear h hk
    go_enter Tryz.func75,Tryz.ntmps75
    go_wp2
    all_goals
     go_ret
     exact⟨rfl,Xb (Below.refl _ _) _⟩
   ·clear h hk
    by_cases h2:tg=0
    ·subst h2
     have h3:(els != 0)=true:=by simp at h1;simp[h1]
     clear h1
     go_enter Tryz.func75,Tryz.ntmps75
     go_wp2
     go_ret
     exact⟨rfl,Xb (Below.refl _ _) _⟩
    ·have h3:(tg != 0)=true:=by simp[h2]
     clear h1 h2
     go_enter Tryz.func75,Tryz.ntmps75
     go_wp2
     go_ret
     exact⟨rfl,Xb (Below.refl _ _) _⟩
 ·have h1:kind<1\/3<kind:=oM
  clear h hk
  go_enter Tryz.func75,Tryz.ntmps75
  go_wp2
  all_goals
   go_ret
   exact⟨rfl,Xb (Below.refl _ _) _⟩
theorem Jy(kind ta tg els n low bl:Int)(w:World) :
 Calls Tryz.prog 75 #[.agg #[.int .i64 kind,.int .i64 ta,.int .i64 tg,.int .i64 els],.int .i64 n,.int .i64 low,.int .i64 bl] w fun e w'=>e=.returned (.bool (YI n low bl ⟨kind,ta,tg,els⟩))/\Below w.heap.size w w':=by
 by_cases hk:1<=kind/\kind<=3
 ·have hc:kind=1\/kind=2\/kind=3:=oM
  rcases hc with rfl | rfl | rfl
  ·rw[Zgs]
   by_cases h:ta=0/\els=0
   ·exact ZS 1 ta tg els n low bl w [tg] _ rfl sP vZ vZ (fun _=>h) (fun e=>oM) (fun e=>absurd rfl e) (by obtain⟨rfl,rfl⟩:=h;show _=_;simp)
   ·have e:(ta==0&&JH low bl tg&&els==0)=false:=by
     by_cases h1:ta=0
     ·have:els≠0:=fun e=>h ⟨h1,e⟩
      simp[this]
     ·simp[h1]
    rw[e];exact Zv 1 ta tg els n low bl w (Or.inr (Or.inl ⟨rfl,h⟩))
  ·rw[ZgX]
   by_cases h:0<=ta/\ta<n
   ·exact ZS 2 ta tg els n low bl w [tg,els] _ rfl sP vZ vZ (fun e=>oM) (fun e=>oM) (fun _=>h) (by show _=_;simp[JH,h.1,h.2])
   ·have e:JH 0 n ta=false:=by unfold JH;rw[Bool.and_eq_false_iff,decide_eq_false_iff_not,decide_eq_false_iff_not];omega
    rw[e];exact Zv 2 ta tg els n low bl w oM
  ·rw[ZgN]
   by_cases h:0<=ta/\ta<n
   ·by_cases h2:tg=0/\els=0
    ·exact ZS 3 ta tg els n low bl w [] _ rfl sP vZ vZ (fun e=>oM) (fun _=>h2) (fun _=>h) (by obtain⟨rfl,rfl⟩:=h2;show _=_;simp[JH,h.1,h.2])
    ·have e:(JH 0 n ta&&tg==0&&els==0)=false:=by
      by_cases h1:tg=0
      ·have:els≠0:=fun e=>h2 ⟨h1,e⟩
       simp[this]
      ·simp[h1]
     rw[e];exact Zv 3 ta tg els n low bl w oM
   ·have e:JH 0 n ta=false:=by unfold JH;rw[Bool.and_eq_false_iff,decide_eq_false_iff_not,decide_eq_false_iff_not];omega
    rw[e];exact Zv 3 ta tg els n low bl w oM
 ·rw[Zb0 hk]
  exact Zv kind ta tg els n low bl w (Or.inl hk)
def hasI(xs:List Int)(x:Int):Bool:=xs.contains x
theorem T2(a:Option Addr)(n c:Nat)(x:Int)(xs:List Int)(L B:Nat)(w:World)(ha:Hid (Xg w L B a xs))(hx:Hid (n=xs.length))(hn:n<=100000000) :
 Calls Tryz.prog 43 #[.slice a n c,.int .i64 x] w fun e w'=>e=.returned (.bool (hasI xs x))/\w'=w:=by
 go_enter Tryz.func43,Tryz.ntmps43
 go_wp2
 go_loop [5] (fun i=>∃k:Nat,k<=n/\i=.int .i64 k/\Hid (∀j (h:j<xs.length),j<k->xs[j]≠x)) (fun i=>n-(intOf i).toNat)
 case atStart=>exact⟨0,Nat.zero_le _,rfl,fun j hj h=>absurd h oM⟩
 case round =>
  obtain⟨k,hk,rfl,hno⟩:=hrel;by_cases hlt:k<n
  ·have hkx:k<xs.length:=by have:=hx.out;omega
   obtain⟨b,o,rfl,_,hc⟩:=ha.out k hkx;by_cases he:xs[k]=x
   ·have hb:(xs[k]==x)=true:=by simp[he]
    have HE:=Xa he;clear he;go_wp2
    go_ret
    exact⟨Xm (by unfold hasI;rw[eq_comm,List.contains_iff_mem,<-HE.out];exact List.getElem_mem hkx),rfl⟩
   ·have hb:(xs[k]==x)=false:=by simp[he]
    have HE:=Xa he;clear he;go_wp2
    go_round
    case rel=>exact⟨k+1,oM,gM,fun j hj h=>if e:j=k then by subst e;exact HE.out else hno.out j hj oM⟩
    case measure=>simp[intOf];omega
  ·go_wp2
   go_ret
   exact⟨Xm (by
    rw[eq_comm,Bool.eq_false_iff];intro hc;obtain⟨j,hj,e⟩:=List.getElem_of_mem (List.contains_iff_mem.1 (show xs.contains x=true from hc));exact hno.out j hj (by have:=hx.out;omega) e),rfl⟩
theorem XS(a:Option Addr)(n c:Nat)(x:Int)(xs:List Int)(L B:Nat)(w:World)(ha:Hid (Xg w L B a xs))(hx:Hid (n=xs.length))(hn:n<=1048576) :
 Calls Tryz.prog 43 #[.slice a n c,.int .i64 x] w fun e w'=>e=.returned (.bool (hasI xs x))/\w'=w :=
 T2 a n c x xs L B w ha hx oM
theorem ZaI(t:ZX)(b:Int):t.targets.contains b=true↔(t.kind=1/\t.to=b)\/(t.kind=2/\(t.to=b\/t.els=b)):=by
 unfold ZX.targets;by_cases h1:t.kind=1
 ·rw[if_pos h1]
  simp only[h1,true_and,List.contains_iff_mem,List.mem_singleton];constructor
  ·intro h;exact Or.inl h.symm
  ·rintro(h | ⟨h,_⟩)
   ·exact h.symm
   ·omega
 ·rw[if_neg h1]
  by_cases h2:t.kind=2
  ·rw[if_pos h2]
   simp only[h2,true_and,List.contains_iff_mem,List.mem_cons,List.not_mem_nil,or_false];constructor
   ·rintro(h | h)
    ·exact Or.inr (Or.inl h.symm)
    ·exact Or.inr (Or.inr h.symm)
   ·rintro(⟨h,_⟩ | h | h)
    ·omega
    ·exact Or.inl h.symm
    ·exact Or.inr h.symm
  ·rw[if_neg h2]
   simp[h1,h2]
theorem Zg(x:Xi)(b:Int):∀(xs:List Xi)(i:Nat),predsFrom (xs++[x]) i b=predsFrom xs i b++(if x.term.targets.contains b then [((i+xs.length:Nat):Int)]else [])
 | [],i=>by simp[predsFrom]
 | y::ys,i=>by
  simp only[List.cons_append,predsFrom];have e:i+1+ys.length=i+(ys.length+1):=oM;rw[Zg x b ys (i+1),List.append_assoc,e,List.length_cons]
theorem Yc(b:Int):∀(xs:List Xi)(i:Nat),(predsFrom xs i b).length<=xs.length
 | [],_=>Nat.le_refl _
 | y::ys,i=>by
  simp only[predsFrom,List.length_append,List.length_cons];have:=Yc b ys (i+1);split<;>simp<;>omega
theorem Xj{w:World}{base e:Nat}{v:Value}{n:Nat}{xs:List Int}(h:w.ownsRow base e 1 v n (xs.map (Value.int .i64))):∃a c,v=.slice a xs.length c/\Xg w base w.heap.size a xs:=by
 obtain⟨hl,h | ⟨g,cap,cur,rfl,hg,hh,hc,_,hs,ht⟩⟩:=h
 ·obtain⟨rfl,rfl⟩:=h
  have:xs=[]:=by simpa using hl
  subst this;exact⟨_,_,rfl,fun i hi=>absurd hi sP⟩
 ·simp only[Nat.mul_one,List.length_map]at hl hs ht
  subst hl;refine⟨_,_,rfl,fun i hi=>⟨g,0,rfl,⟨hg,?_⟩,?_⟩⟩
  ·exact(Array.getElem?_eq_some_iff.1 hh).1
  ·have h1:(cur.toList.take xs.length)[i]?=some (Value.int .i64 xs[i]):=by rw[ht];simp[hi]
   rw[List.getElem?_take_of_lt hi]at h1;simp only[World.cell?,hh,Nat.zero_add];simpa using h1
theorem Tryz.info2':(Tryz.prog.info? 2).map (fun i=>(i.zero,i.size,i.bytes))=some (some (.int .i64 0),1,8):=kR
theorem Y9{W w':World}{base e s:Nat}{u:Value}{n:Nat}{xs:List Value}(hg:W.grownBy w' u.ownBlock)(ho:W.ownsRow base e s u n xs){b:Nat}(hb:b<base)(hz:b<W.heap.size):w'.heap[b]?=W.heap[b]? :=
 hg.block b hz (fun h=>by have:=(ho.lt b h.symm).1;omega)
theorem XI{w W w':World}{B base e s:Nat}{u:Value}{n:Nat}{xs:List Value}(h:Below B w W)(hg:W.grownBy w' u.ownBlock)(ho:W.ownsRow base e s u n xs)(hb:B<=base)(hz:B<=W.heap.size):Below B w w' :=
 h.grown hg hz (fun k hk=>by have:=(ho.lt k hk).1;omega)
theorem Jd(w:World)(o:Obj):((w.alloc o).alloc (.cells #[] 2)).ownsRow (w.heap.size+1) 2 1 (.slice (some ⟨w.heap.size+1,0,none⟩) 0 0) 0 []:=by
 have h:=World.ownsRow_lit (base:=w.heap.size+1) (e:=2) (size:=1) (w.alloc o) #[] 0 sP sP rfl;rw[World.size_alloc]at h;exact h
theorem Ys(xs:List Int)(x:Int):(xs++[x]).map (Value.int .i64)=xs.map (Value.int .i64)++[.int .i64 x]:=sP
theorem JW(v:Int)(a:Option Addr)(n c:Nat)(q:Int)(xs:List Xi)(L B:Nat)(w:World)(ha:Hid (Xl w L B a xs))(hx:Hid (n=xs.length))(hn:n<=1048576)(hB:B<=w.heap.size) :
 Calls Tryz.prog 42 #[.agg #[.int .i64 v,.slice a n c],.int .i64 q] w fun e w'=>∃a' c',e=.returned (.slice a' (predsFrom xs 0 q).length c')/\Below w.heap.size w w'/\Xg w' w.heap.size w'.heap.size a' (predsFrom xs 0 q):=by
 obtain⟨i0,hi0,hz0,hz1,hz2⟩:=info_parts Tryz.info2'
 go_enter Tryz.func42,Tryz.ntmps42
 go_wp2
 go_loopw [5,6] (fun u i wr=>∃k:Nat,k<=n/\i=.int .i64 k/\Below w.heap.size w wr/\w.heap.size<wr.heap.size/\wr.cell? ⟨w.heap.size,1,none⟩=some (.slice a n c)/\wr.ownsRow (w.heap.size+1) 2 1 u (predsFrom (xs.take k) 0 q).length ((predsFrom (xs.take k) 0 q).map (Value.int .i64))) (fun _ i _=>n-(intOf i).toNat)
 case atStart=>exact⟨0,Nat.zero_le _,rfl,Xb (Xb (Below.refl _ _) _) _,by simp;omega,sP,Jd _ _⟩
 case round =>
  obtain⟨k,hk,rfl,hw,hsz,hcell,hown⟩:=hrel;by_cases hlt:k<n
  ·have hkx:k<xs.length:=by have:=hx.out;omega
   obtain⟨b,o,rfl,⟨_,hbB⟩,hc⟩:=ha.out k hkx;obtain⟨pa,pc,ia,ic,_,_,⟨e2,e3,e4,e5⟩,_,_⟩:=hc.keep (hw.mono hB) oM;have hnx:Hid (predsFrom (xs.take (k+1)) 0 q=predsFrom (xs.take k) 0 q++(if xs[k].term.targets.contains q then [(k:Int)]else [])):=by
    show _=_;rw[Xr _ _ hkx,Zg];simp[Nat.min_eq_left (Nat.le_of_lt hkx)]
   have hpl:(predsFrom (xs.take k) 0 q).length<=1048576:=by have:=Yc q (xs.take k) 0;simp at this;omega
   have HO:=Xa hown;clear hown hc;have hth:=Xa (ZaI xs[k].term q);generalize xs[k]=X at *;by_cases hin:X.term.targets.contains q=true
   ·have HN:Hid (predsFrom (xs.take (k+1)) 0 q=predsFrom (xs.take k) 0 q++[(k:Int)]):=by have:=hnx.out;rw[if_pos hin]at this;exact this
    have hcs:=hth.1 hin;clear hin hnx hth;generalize predsFrom (xs.take k) 0 q=ps at *;have hcs':(X.term.kind=1/\X.term.to=q)\/(X.term.kind=2/\X.term.to=q)\/(X.term.kind=2/\X.term.to≠q/\X.term.els=q):=oM;clear hcs;rcases hcs' with⟨d1,d2⟩ | ⟨d1,d2⟩ | ⟨d1,d3,d2⟩
    all_goals
     go_wp2_with (at_builtin;refine wpList_append_own _ rfl _ _ 26 rfl (w.heap.size+1) 2 i0 (.int .i64 0) 1 8 Tryz.underlying26 hi0 hz0 hz1 hz2 rfl vZ _ _ _ rfl ((HO.alloc _).alloc _) ⟨wr.heap.size+1,0,none⟩ 1 1 [.int .i64 k] rfl rfl ?c1 ?c2 ?c3 ?c4 ?c5 ?_)
     case c1 =>
      intro j u hj
      match j,hj with
      | 0,hj=>simp at hj;subst hj;simp[Addr.add]
     case c2=>intro u hu;simp at hu;subst hu;rfl
     case c3=>unfold maxLen;omega
     case c4=>omega
     case c5=>simp;omega
     intro v1 w1 hown1 hgrow1 _;have HO1:=Xa hown1;clear hown1;go_wp2;have hb2:Below w.heap.size w w1:=XI (Xb (Xb hw _) _) hgrow1 ((HO.alloc _).alloc _) oM (by simp;omega);have hbk:=Y9 hgrow1 ((HO.alloc _).alloc _) (b:=w.heap.size) oM (by simp;omega);have hsz1:=hgrow1.size;simp at hsz1;exact⟨⟨k+1,oM,gM,hb2,oM,(Xc hbk).trans (((Xb (Xb (Below.refl wr.heap.size wr) _) _).cell (p:=⟨w.heap.size,1,none⟩) hsz).trans hcell),by rw[HN.out,Ys];simpa using HO1.out⟩,by simp[intOf];omega⟩
   ·have HN:Hid (predsFrom (xs.take (k+1)) 0 q=predsFrom (xs.take k) 0 q):=by have:=hnx.out;rw[if_neg hin,List.append_nil]at this;exact this
    have hcs:¬((X.term.kind=1/\X.term.to=q)\/(X.term.kind=2/\(X.term.to=q\/X.term.els=q))):=fun h=>hin (hth.2 h)
    clear hin hnx hth;generalize predsFrom (xs.take k) 0 q=ps at *;have hcs':(X.term.kind=1/\(X.term.to==q)=false)\/(X.term.kind=2/\(X.term.to==q)=false/\(X.term.els==q)=false)\/((X.term.kind==1)=false/\(X.term.kind==2)=false):=by
     simp only[beq_eq_false_iff_ne];omega
    clear hcs;rcases hcs' with⟨d1,d2⟩ | ⟨d1,d2,d3⟩ | ⟨d1,d2⟩
    all_goals
     go_wp2;exact⟨⟨k+1,oM,gM,Xb hw _,by simp;omega,((Xb (Below.refl wr.heap.size wr) _).cell (p:=⟨w.heap.size,1,none⟩) hsz).trans hcell,by rw[HN.out];exact HO.alloc _⟩,by simp[intOf];omega⟩
  ·go_wp2
   go_ret
   have e:=List.take_of_length_le (l:=xs) (i:=k) (by have:=hx.out;omega);rw[e]at hown;obtain⟨a1,c1,rfl,hi1⟩:=Xj hown;exact⟨_,_,rfl,hw,hi1.mono oM (Nat.le_refl _)⟩
section
structure WsAt(w:World)(g K C:Nat)(W:Nat->Nat):Prop where
 le:K<=C
 ex:∃T:Nat->Value,w.rowIs g 133 C (fun i=>if i<K then .int .u64 (W i)else T i)
namespace WsAt
variable {w : World} {g K C : Nat} {W W' : Nat -> Nat}
theorem lt(h:WsAt w g K C W):g<w.heap.size:=by
 obtain⟨_,T,h⟩:=h;exact h.lt
theorem cell(h:WsAt w g K C W){i:Nat}(hi:i<K):w.cell? ⟨g,i,none⟩=some (.int .u64 (W i)):=by
 obtain⟨hl,T,h⟩:=h;have:=h.cell (i:=i) oM;rwa[if_pos hi]at this
theorem frozen(h:WsAt w g K C W)(i:Nat):w.frozen? ⟨g,i,none⟩=false:=by
 obtain⟨_,T,h⟩:=h;exact h.frozen i
theorem congr(h:WsAt w g K C W)(e:∀i,i<K->W i=W' i):WsAt w g K C W':=by
 obtain⟨hl,T,h⟩:=h;refine⟨hl,T,h.congr (fun i _=>?_)⟩;by_cases hi:i<K
 ·rw[if_pos hi,if_pos hi,e i hi]
 ·rw[if_neg hi,if_neg hi]
theorem of_block{w':World}(h:WsAt w g K C W)(e:w'.heap[g]?=w.heap[g]?):WsAt w' g K C W:=by
 obtain⟨hl,T,h⟩:=h;exact⟨hl,T,h.of_block e⟩
theorem set(h:WsAt w g K C W)(i v:Nat)(hi:i<K):WsAt (w.setCell ⟨g,i,none⟩ (.int .u64 (v:Int))) g K C (fun j=>if j=i then v else W j):=by
 obtain⟨hl,T,h⟩:=h;refine⟨hl,T,(h.set i _).congr (fun j _=>?_)⟩;by_cases e:j=i
 ·rw[if_pos e,if_pos oM,if_pos e]
 ·rw[if_neg e,if_neg e]
theorem setOther(h:WsAt w g K C W){a:Addr}(ha:g≠a.block)(v:Value):WsAt (w.setCell a v) g K C W:=by
 obtain⟨hl,T,h⟩:=h;exact⟨hl,T,h.setOther ha v⟩
theorem alloc(h:WsAt w g K C W)(o:Obj):WsAt (w.alloc o) g K C W:=by
 obtain⟨hl,T,h⟩:=h;exact⟨hl,T,h.alloc o⟩
theorem drew(h:WsAt w g K C W):WsAt w.drew g K C W:=by
 obtain⟨hl,T,h⟩:=h;exact⟨hl,T,h.drew⟩
theorem of_row(h:w.rowIs g 133 K (fun i=>.int .u64 (W i))):WsAt w g K K W :=
 ⟨Nat.le_refl _,fun _=>.int .u64 0,h.congr (fun i hi=>by rw[if_pos hi])⟩
theorem of_own{base:Nat}{v:Value}{ws:List Nat}(h:w.ownsRow base 133 1 v ws.length (ws.map fun x:Nat=>Value.int .u64 (x:Int)))(hv:v≠.slice none 0 0):∃g C,v=.slice (some ⟨g,0,none⟩) ws.length C/\base<=g/\WsAt w g ws.length C (fun i=>ws.getD i 0):=by
 obtain⟨hl,h | ⟨g,cap,cur,rfl,hg,hh,hc,_,hs,ht⟩⟩:=h
 ·exact absurd h.1 hv
 ·simp only[Nat.mul_one]at hl hs ht
  refine⟨g,cap,rfl,hg,hc,fun i=>cur[i]?.getD (.int .u64 0),cur,hh,hs,fun i hi=>?_⟩;show cur[i]?=some (if i<ws.length then Value.int .u64 ((ws.getD i 0:Nat):Int)else cur[i]?.getD (.int .u64 0));by_cases e:i<ws.length
  ·rw[if_pos e]
   have h1:(cur.toList.take ws.length)[i]?=some (Value.int .u64 (ws[i]:Nat)):=by rw[ht];simp[e]
   rw[List.getElem?_take_of_lt e]at h1;have e2:ws.getD i 0=ws[i]:=by simp[e]
   rw[e2];simpa using h1
  ·rw[if_neg e]
   have:i<cur.size:=oM;simp[this]
end WsAt
end
theorem Tryz.infoU64valueNo:(Tryz.prog.info? 133).map (fun i=>(i.zero,i.size,i.bytes))=some (some (.int .u64 0),1,8):=kR
theorem JS(room:Nat)(w:World)(hr:room<=60000):Calls Tryz.prog 101 #[.int .i64 room] w fun e w'=>∃g,e=.returned (.agg #[.slice (some ⟨g,0,none⟩) ((room+63) / 64) ((room+63) / 64)])/\w.heap.size<=g/\Below w.heap.size w w'/\w'.rowIs g 133 ((room+63) / 64) (fun _=>.int .u64 ((0:Nat):Int)):=by
 have hmk:=run_make_row' (P:=Tryz.prog) 73 133 (.int .u64 0) 8 Tryz.underlying73 Tryz.infoU64valueNo rfl .i64 .i64 ((room+63) / 64) oM oM;have hq:((room:Int)+63).tdiv 64=(((room+63) / 64:Nat):Int):=by rw[Int.tdiv_eq_ediv_of_nonneg oM];omega
 have hq2:((room:Int)+64-1)=(room:Int)+63:=oM;have hK:(room+63) / 64<=1000:=oM;generalize (room+63) / 64=K at *
 go_enter Tryz.func101,Tryz.ntmps101
 go_wp2;refine bodyPost_ret (v:=.agg #[.slice (some ⟨w.heap.size+1,0,none⟩) K K]) (by simp[results,Tryz.results101,go_sem]) rfl ?_;refine⟨w.heap.size+1,rfl,oM,Xb (Xb (Below.refl _ _) _) _,?_⟩;have hrow:∀ob,((w.alloc ob).alloc (.cells (madeCells #[.int .u64 0] K) 133)).rowIs (w.heap.size+1) 133 K (fun _=>.int .u64 0):=fun ob=>by
  have:=World.rowIs_made (w.alloc ob) (.int .u64 0) K 133;rwa[World.size_alloc]at this
 exact hrow _
theorem YW(g K C n c:Nat)(W:Nat->Nat)(a:Option Addr)(ts:List Nat)(L B:Nat)(w:World)(ha:Hid (Xg w L B a (ts.map Int.ofNat)))(hx:Hid (n=ts.length))(hn:n<=4000)(ht:Hid (∀t∈ts,t<64*K))(hK:K<=1000)(hW:Hid (Xw W))(hr:Hid (WsAt w g K C W))(hB:B<=w.heap.size)(hgL:¬(L<=g/\g<B)) :
 Calls Tryz.prog 99 #[.agg #[.slice (some ⟨g,0,none⟩) K C],.slice a n c] w fun e w'=>e=.returned (.tuple #[])/\w.grownBy w' (some g)/\WsAt w' g K C (addsN W ts):=by
 go_enter Tryz.func99,Tryz.ntmps99
 go_wp2;have hg:g<w.heap.size:=hr.lt
 go_loopw [8] (fun u wr=>∃q:Nat,q<=n/\u=.int .i64 q/\Hid (w.grownBy wr (some g))/\wr.cell? ⟨w.heap.size,0,none⟩=some (.slice (some ⟨g,0,none⟩) K C)/\Hid (WsAt wr g K C (addsN W (ts.take q)))) (fun u _=>n-(intOf u).toNat)
 case atStart=>exact⟨0,Nat.zero_le _,rfl,Xa (World.grownBy_alloc _ _ _),sP,Xa (hr.alloc _)⟩
 case round =>
  obtain⟨q,hq,rfl,HG,hs,HR⟩:=hrel;by_cases hlt:q<n
  ·have hqx:q<ts.length:=by have:=hx.out;omega
   obtain⟨b,o,rfl,hbB,e0w⟩:=ha.out q (by simpa using hqx);have e0:=(Xc (HG.block b oM (fun e=>by injection e with e;omega))).trans e0w;rw[List.getElem_map]at e0;have htq:=ht.out _ (List.getElem_mem hqx);have HT:=Xa (TH (W:=W) hqx);have HWA:=Xa (YE (ts.take q) hW.out);clear e0w;generalize ts[q]=t at *;have h2:=ZdX t;have h3:=Zd5 t;have e0':wr.cell? ⟨b,o+q,none⟩=some (.int .i64 (t:Int)):=e0;clear e0;generalize addsN W (ts.take q)=W1 at *;have hd:t / 64<K:=oM;have hm:t % 64<64:=Nat.mod_lt _ vZ;have ec:=HR.cell hd;have ez:=HR.frozen;have HOR:=Xa (Zan hm (HWA.out (t / 64)));have HAD:Hid (∀i,(if i=t / 64 then W1 (t / 64) ||| 2 ^ (t % 64)else W1 i)=addsN W (ts.take (q+1)) i):=Xa (fun i=>by
    rw[HT.out];unfold Yn;by_cases e:i=t / 64
    ·rw[if_pos e,if_pos e,e]
    ·rw[if_neg e,if_neg e])
   generalize hd2:t / 64=td at *;generalize hm2:t % 64=tm at *;go_wp2
   go_region
   go_wp2;rw[HOR.out];have kk:wr.grownBy (wr.setCell ⟨g,td,none⟩ (.int .u64 ((W1 td ||| 2 ^ tm:Nat):Int))).drew (some g):=⟨rfl,rfl,rfl,by simp[World.setCell,World.drew],fun k _ hk=>Below.heap_setCell _ _ _ _ (fun e=>hk (by rw[e]))⟩;refine⟨⟨q+1,oM,gM,Xa (HG.andThen kk (fun j hj=>by cases hj;exact Or.inr rfl)),?_,Xa ?_⟩,by simp[intOf];omega⟩
   ·exact(World.cell?_setCell_far wr ⟨g,td,none⟩ ⟨w.heap.size,0,none⟩ _ (by show g≠w.heap.size;omega)).trans hs
   ·refine WsAt.drew ((HR.set td _ hd).congr (fun i _=>?_))
    rw[<-HAD.out i]
  ·have hqn:q=n:=oM
   have HX:Hid (ts.take q=ts):=Xa (List.take_of_length_le (by have:=hx.out;omega));rw[HX.out]at HR;go_wp2
   go_end0
   exact⟨rfl,HG.out,HR.out⟩
theorem JN(g g2 g3 K C C2 C3:Nat)(S O T:Nat->Nat)(w:World)(hS:Hid (Xw S))(hO:Hid (Xw O))(hT:Hid (Xw T))(hK:K<=1000)(rS:Hid (WsAt w g K C S))(rO:Hid (WsAt w g2 K C2 O))(rT:Hid (WsAt w g3 K C3 T))(h3:g3≠g)(hs:Hid (g2=g->S=O)) :
 Calls Tryz.prog 102 #[.agg #[.slice (some ⟨g,0,none⟩) K C],.agg #[.slice (some ⟨g2,0,none⟩) K C2],.agg #[.slice (some ⟨g3,0,none⟩) K C3]] w fun e w'=>e=.returned (.bool (grewN S O T K))/\w.grownBy w' (some g)/\WsAt w' g K C (butN S O T):=by
 go_enter Tryz.func102,Tryz.ntmps102
 go_wp2;have l1:g<w.heap.size:=rS.lt;have l2:g2<w.heap.size:=rO.lt;have l3:g3<w.heap.size:=rT.lt
 go_loopw [7,14] (fun gv u wr=>∃q:Nat,q<=K/\u=.int .i64 q/\gv=.bool (grewN S O T q)/\Hid (w.grownBy wr (some g))/\wr.cell? ⟨w.heap.size,0,none⟩=some (.slice (some ⟨g,0,none⟩) K C)/\wr.cell? ⟨w.heap.size+2,0,none⟩=some (.slice (some ⟨g3,0,none⟩) K C3)/\Hid (WsAt wr g K C (fun i=>if i<q then butN S O T i else S i))) (fun _ u _=>K-(intOf u).toNat)
 case atStart=>exact⟨0,Nat.zero_le _,rfl,by rw[VK],Xa (((World.grownBy_alloc w _ _).andThen (World.grownBy_alloc _ _ _) (fun j hj=>Or.inr hj)).andThen (World.grownBy_alloc _ _ _) (fun j hj=>Or.inr hj)),by simp[go_sem],by simp[go_sem],Xa ((((rS.alloc _).alloc _).alloc _).congr (fun i _=>sP))⟩
 case round =>
  obtain⟨q,hq,rfl,rfl,HG,hs0,hs2,HR⟩:=hrel;by_cases hlt:q<K
  ·have e1:wr.cell? ⟨g,q,none⟩=some (.int .u64 (S q)):=(HR.cell hlt).trans sP
   have e3:wr.cell? ⟨g3,q,none⟩=some (.int .u64 (T q)):=(Xc (HG.block g3 l3 (fun e=>h3 (by injection e)))).trans (rT.cell hlt);have e2:wr.cell? ⟨g2,q,none⟩=some (.int .u64 (O q)):=by
    by_cases e:g2=g
    ·rw[<-hs.out e,e];exact e1
    ·exact(Xc (HG.block g2 l2 (fun e'=>e (by injection e')))).trans (rO.cell hlt)
   have ez:=HR.frozen;have HA1:=u64_andNot_nat (O q) (T q) (hO.out q) (hT.out q);have hlx:O q &&& (18446744073709551615-T q)<18446744073709551616:=Nat.lt_of_le_of_lt Nat.and_le_left (hO.out q);have HA2:bits .andNot .u64 ((O q &&& (18446744073709551615-T q):Nat):Int) (S q:Int)=((moreN S O T q:Nat):Int):=u64_andNot_nat _ (S q) hlx (hS.out q);have HA3:bits .or .u64 (S q:Int) ((moreN S O T q:Nat):Int)=((butN S O T q:Nat):Int):=u64_or_nat _ _ (hS.out q) (Ul hO.out q);have HGS:=Xa (Wh S O T q);have hsn:g≠w.heap.size:=oM;have hsn2:g≠w.heap.size+2:=oM;have HNX:Hid (WsAt (wr.setCell ⟨g,q,none⟩ (.int .u64 (butN S O T q:Int))) g K C (fun i=>if i<q+1 then butN S O T i else S i)):=Xa ((HR.set q _ hlt).congr (fun i _=>by
    by_cases e:i=q
    ·subst e;simp
    ·rw[if_neg e]
     by_cases e2:i<q
     ·rw[if_pos e2,if_pos oM]
     ·rw[if_neg e2,if_neg oM]))
   have kk:wr.grownBy (wr.setCell ⟨g,q,none⟩ (.int .u64 (butN S O T q:Int))) (some g):=⟨rfl,rfl,rfl,by simp[World.setCell],fun k _ hk=>Below.heap_setCell _ _ _ _ (fun e=>hk (by rw[e]))⟩;have HKK:Hid (w.grownBy (wr.setCell ⟨g,q,none⟩ (.int .u64 (butN S O T q:Int))) (some g)):=Xa (HG.andThen kk (fun j hj=>by cases hj;exact Or.inr rfl));have hs0':=(World.cell?_setCell_far wr ⟨g,q,none⟩ ⟨w.heap.size,0,none⟩ (.int .u64 (butN S O T q:Int)) hsn).trans hs0;have hs2':=(World.cell?_setCell_far wr ⟨g,q,none⟩ ⟨w.heap.size+2,0,none⟩ (.int .u64 (butN S O T q:Int)) hsn2).trans hs2;generalize hX:O q &&& (18446744073709551615-T q)=X at *;generalize butN S O T q=Bq at *;generalize moreN S O T q=Mq at *;generalize S q=Sq at *;generalize O q=Oq at *;generalize T q=Tq at *;generalize grewN S O T q=gq at *;clear hX kk;cases gq with
   | true =>
    go_wp2
    go_region
    go_wp2;exact⟨⟨q+1,oM,gM,by rw[HGS.out];rfl,Xa ⟨HKK.os,HKK.tape,HKK.output,HKK.size,HKK.block⟩,hs0',hs2',Xa HNX.drew⟩,by simp[intOf];omega⟩
   | false =>
    go_wp2
    go_region
    go_wp2;exact⟨⟨q+1,oM,gM,by rw[HGS.out];cases Mq<;>rfl,Xa ⟨HKK.os,HKK.tape,HKK.output,HKK.size,HKK.block⟩,hs0',hs2',Xa HNX.drew⟩,by simp[intOf];omega⟩
  ·have hqk:q=K:=oM
   subst hqk;go_wp2
   go_ret
   exact⟨rfl,HG.out,HR.congr (fun i hi=>by rw[if_pos hi])⟩
end Go.Proofs.YthgikffcdgpgiaaGreatDoor
