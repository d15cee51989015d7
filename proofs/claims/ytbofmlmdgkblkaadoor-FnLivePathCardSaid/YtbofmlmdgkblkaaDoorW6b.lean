import Derived.Test.YtbofmlmdgkblkaaDoorPure
namespace Go.Proofs.YtbofmlmdgkblkaaDoor
set_option maxHeartbeats 1000000
open Go.RowKit
def Ks(lo hi x:Int):Bool:=decide (lo<=x)&&decide (x<hi)
theorem ZgR(n lo bl a to els:Int):Ze n lo bl ⟨1,a,to,els⟩=(a==0&&Ks lo bl to&&els==0):=by simp[Ze,Kt,Ks]
theorem Zg5(n lo bl a to els:Int):Ze n lo bl ⟨2,a,to,els⟩=(Ks 0 n a&&Ks lo bl to&&Ks lo bl els):=by simp[Ze,Kt,Ks]
theorem ZgJ(n lo bl a to els:Int):Ze n lo bl ⟨3,a,to,els⟩=(Ks 0 n a&&to==0&&els==0):=by simp[Ze,Kt,Ks]
theorem ZaS{n lo bl k a to els:Int}(h:¬(1<=k/\k<=3)):Ze n lo bl ⟨k,a,to,els⟩=false:=by
 unfold Ze;by_cases h1:1<=k
 ·rw[decide_eq_false (p:=k<=3) (by omega)];simp
 ·rw[decide_eq_false (p:=1<=k) h1];simp
theorem XR{α:Type}{p:α->Bool}{xs:List α}{k:Nat}(hk:k<xs.length)(h:(xs.take k).all p=true)(hp:p xs[k]=true):(xs.take (k+1)).all p=true:=by
 rw[XF xs k hk,List.all_append,h];simp[hp]
theorem Jk{α:Type}{p:α->Bool}{xs:List α}{k:Nat}(hk:k<xs.length)(hp:p xs[k]=false):xs.all p=false:=by
 rw[List.all_eq_false];exact⟨_,List.getElem_mem hk,by simp[hp]⟩
theorem Yw{α:Type}{p:α->Bool}{xs:List α}{k:Nat}(hk:xs.length<=k)(h:(xs.take k).all p=true):xs.all p=true:=by
 rwa[List.take_of_length_le hk]at h
theorem J4(kind ta to els n low bl:Int)(w:World)(ts:List Int)(R:Bool)(hts:Hid ((XZ.mk kind ta to els).targets=ts))(hlen:ts.length<=2)(hk1:1<=kind)(hk3:kind<=3)
 (c1:Hid (kind=1->ta=0/\els=0)) (c3:Hid (kind=3->to=0/\els=0)) (c2:Hid (kind≠1->0<=ta/\ta<n)) (hR:Hid (ts.all (Ks low bl)=R)) :
 Calls Tryd.prog 18 #[.agg #[.int .i64 kind,.int .i64 ta,.int .i64 to,.int .i64 els],.int .i64 n,.int .i64 low,.int .i64 bl] w fun e w'=>e=.returned (.bool R)/\Below w.heap.size w w':=by
 have hc:kind=1\/kind=2\/kind=3:=by omega
 have hb0:=Xa hlen;rcases hc with rfl | rfl | rfl
 ·obtain⟨rfl,rfl⟩:=c1.out rfl
  clear c1 c2 c3
  go_enter Tryd.func18,Tryd.ntmps18
  go_wp2_with (go_at_call 51;refine(ZZ ⟨_,_,_,_⟩ _).mono ?_;rintro e w1 ⟨a,c,rfl,hb1,hi1⟩;rw[Xv hts]at hi1 |-;have HI:=Xa hi1;clear hi1)
  go_loop [10] (fun i=>∃k:Nat,k<=ts.length/\i=.int .i64 k/\Hid ((ts.take k).all (Ks low bl)=true)) (fun i=>ts.length-(intOf i).toNat)
  case atStart=>exact⟨0,Nat.zero_le _,rfl,rfl⟩
  case round =>
   obtain⟨k,hk,rfl,hall⟩:=hrel;by_cases hlt:k<ts.length
   ·obtain⟨b,o,rfl,_,hc⟩:=HI.out k hlt
    by_cases hx:low<=ts[k]/\ts[k]<bl
    ·obtain⟨hx1,hx2⟩:=hx
     go_wp2
     go_round
     case rel=>exact⟨k+1,by omega,by go_num,XR hlt hall.out (by simp[Ks,hx1,hx2])⟩
     case measure=>simp[intOf];omega
    ·go_wp2
     all_goals
      go_ret
      exact⟨Xm (by rw[<-hR.out];exact(Jk hlt (by unfold Ks;rw[Bool.and_eq_false_iff,decide_eq_false_iff_not,decide_eq_false_iff_not];omega)).symm),Xj (Xb (Below.refl _ _) _) hb1⟩
   ·go_wp2
    go_ret
    exact⟨Xm (by rw[<-hR.out];exact(Yw (by omega) hall.out).symm),Xj (Xb (Below.refl _ _) _) hb1⟩
 ·obtain⟨d1,d2⟩:=c2.out (by decide)
  clear c1 c2 c3
  go_enter Tryd.func18,Tryd.ntmps18
  go_wp2_with (go_at_call 51;refine(ZZ ⟨_,_,_,_⟩ _).mono ?_;rintro e w1 ⟨a,c,rfl,hb1,hi1⟩;rw[Xv hts]at hi1 |-;have HI:=Xa hi1;clear hi1)
  go_loop [10] (fun i=>∃k:Nat,k<=ts.length/\i=.int .i64 k/\Hid ((ts.take k).all (Ks low bl)=true)) (fun i=>ts.length-(intOf i).toNat)
  case atStart=>exact⟨0,Nat.zero_le _,rfl,rfl⟩
  case round =>
   obtain⟨k,hk,rfl,hall⟩:=hrel;by_cases hlt:k<ts.length
   ·obtain⟨b,o,rfl,_,hc⟩:=HI.out k hlt
    by_cases hx:low<=ts[k]/\ts[k]<bl
    ·obtain⟨hx1,hx2⟩:=hx
     go_wp2
     go_round
     case rel=>exact⟨k+1,by omega,by go_num,XR hlt hall.out (by simp[Ks,hx1,hx2])⟩
     case measure=>simp[intOf];omega
    ·go_wp2
     all_goals
      go_ret
      exact⟨Xm (by rw[<-hR.out];exact(Jk hlt (by unfold Ks;rw[Bool.and_eq_false_iff,decide_eq_false_iff_not,decide_eq_false_iff_not];omega)).symm),Xj (Xb (Below.refl _ _) _) hb1⟩
   ·go_wp2
    go_ret
    exact⟨Xm (by rw[<-hR.out];exact(Yw (by omega) hall.out).symm),Xj (Xb (Below.refl _ _) _) hb1⟩
 ·obtain⟨d1,d2⟩:=c2.out (by decide)
  obtain⟨rfl,rfl⟩:=c3.out rfl;clear c1 c2 c3
  go_enter Tryd.func18,Tryd.ntmps18
  go_wp2_with (go_at_call 51;refine(ZZ ⟨_,_,_,_⟩ _).mono ?_;rintro e w1 ⟨a,c,rfl,hb1,hi1⟩;rw[Xv hts]at hi1 |-;have HI:=Xa hi1;clear hi1)
  go_loop [10] (fun i=>∃k:Nat,k<=ts.length/\i=.int .i64 k/\Hid ((ts.take k).all (Ks low bl)=true)) (fun i=>ts.length-(intOf i).toNat)
  case atStart=>exact⟨0,Nat.zero_le _,rfl,rfl⟩
  case round =>
   obtain⟨k,hk,rfl,hall⟩:=hrel;by_cases hlt:k<ts.length
   ·have:=hts.out
    simp[XZ.targets]at this;subst this;simp at hlt
   ·go_wp2
    go_ret
    exact⟨Xm (by rw[<-hR.out];exact(Yw (by omega) hall.out).symm),Xj (Xb (Below.refl _ _) _) hb1⟩
theorem ZN(kind ta to els n low bl:Int)(w:World)(h:¬(1<=kind/\kind<=3)\/(kind=1/\¬(ta=0/\els=0))\/(kind=3/\¬(to=0/\els=0))\/(1<=kind/\kind<=3/\kind≠1/\¬(0<=ta/\ta<n))) :
 Calls Tryd.prog 18 #[.agg #[.int .i64 kind,.int .i64 ta,.int .i64 to,.int .i64 els],.int .i64 n,.int .i64 low,.int .i64 bl] w fun e w'=>e=.returned (.bool false)/\Below w.heap.size w w':=by
 by_cases hk:1<=kind/\kind<=3
 ·have hc:kind=1\/kind=2\/kind=3:=by omega
  rcases hc with rfl | rfl | rfl
  ·have h1:¬(ta=0/\els=0):=by omega
   clear h hk;by_cases h2:ta=0
   ·subst h2
    have h3:(els != 0)=true:=by simp at h1;simp[h1]
    clear h1
    go_enter Tryd.func18,Tryd.ntmps18
    go_wp2
    go_ret
    exact⟨rfl,Xb (Below.refl _ _) _⟩
   ·have h3:(ta != 0)=true:=by simp[h2]
    clear h1 h2
    go_enter Tryd.func18,Tryd.ntmps18
    go_wp2
    go_ret
    exact⟨rfl,Xb (Below.refl _ _) _⟩
  ·have h1:ta<0\/n<=ta:=by omega
   clear h hk
   go_enter Tryd.func18,Tryd.ntmps18
   go_wp2
   all_goals
    go_ret
    exact⟨rfl,Xb (Below.refl _ _) _⟩
  ·by_cases h1:to=0/\els=0
   ·obtain⟨rfl,rfl⟩:=h1
    have h1:ta<0\/n<=ta:=by omega
    clear h hk
    go_enter Tryd.func18,Tryd.ntmps18
    go_wp2
    all_goals
     go_ret
     exact⟨rfl,Xb (Below.refl _ _) _⟩
   ·clear h hk
    by_cases h2:to=0
    ·subst h2
     have h3:(els != 0)=true:=by simp at h1;simp[h1]
     clear h1
     go_enter Tryd.func18,Tryd.ntmps18
     go_wp2
     go_ret
     exact⟨rfl,Xb (Below.refl _ _) _⟩
    ·have h3:(to != 0)=true:=by simp[h2]
     clear h1 h2
     go_enter Tryd.func18,Tryd.ntmps18
     go_wp2
     go_ret
     exact⟨rfl,Xb (Below.refl _ _) _⟩
 ·have h1:kind<1\/3<kind:=by omega
  clear h hk
  go_enter Tryd.func18,Tryd.ntmps18
  go_wp2
  all_goals
   go_ret
   exact⟨rfl,Xb (Below.refl _ _) _⟩
theorem JU(kind ta to els n low bl:Int)(w:World) :
 Calls Tryd.prog 18 #[.agg #[.int .i64 kind,.int .i64 ta,.int .i64 to,.int .i64 els],.int .i64 n,.int .i64 low,.int .i64 bl] w fun e w'=>e=.returned (.bool (Ze n low bl ⟨kind,ta,to,els⟩))/\Below w.heap.size w w':=by
 by_cases hk:1<=kind/\kind<=3
 ·have hc:kind=1\/kind=2\/kind=3:=by omega
  rcases hc with rfl | rfl | rfl
  ·rw[ZgR]
   by_cases h:ta=0/\els=0
   ·exact J4 1 ta to els n low bl w [to] _ rfl (by simp) (by decide) (by decide) (fun _=>h) (fun e=>by omega) (fun e=>absurd rfl e) (by obtain⟨rfl,rfl⟩:=h;show _=_;simp)
   ·have e:(ta==0&&Ks low bl to&&els==0)=false:=by
     by_cases h1:ta=0
     ·have:els≠0:=fun e=>h ⟨h1,e⟩
      simp[this]
     ·simp[h1]
    rw[e];exact ZN 1 ta to els n low bl w (Or.inr (Or.inl ⟨rfl,h⟩))
  ·rw[Zg5]
   by_cases h:0<=ta/\ta<n
   ·exact J4 2 ta to els n low bl w [to,els] _ rfl (by simp) (by decide) (by decide) (fun e=>by omega) (fun e=>by omega) (fun _=>h) (by show _=_;simp[Ks,h.1,h.2])
   ·have e:Ks 0 n ta=false:=by unfold Ks;rw[Bool.and_eq_false_iff,decide_eq_false_iff_not,decide_eq_false_iff_not];omega
    rw[e];exact ZN 2 ta to els n low bl w (by omega)
  ·rw[ZgJ]
   by_cases h:0<=ta/\ta<n
   ·by_cases h2:to=0/\els=0
    ·exact J4 3 ta to els n low bl w [] _ rfl (by simp) (by decide) (by decide) (fun e=>by omega) (fun _=>h2) (fun _=>h) (by obtain⟨rfl,rfl⟩:=h2;show _=_;simp[Ks,h.1,h.2])
    ·have e:(Ks 0 n ta&&to==0&&els==0)=false:=by
      by_cases h1:to=0
      ·have:els≠0:=fun e=>h2 ⟨h1,e⟩
       simp[this]
      ·simp[h1]
     rw[e];exact ZN 3 ta to els n low bl w (by omega)
   ·have e:Ks 0 n ta=false:=by unfold Ks;rw[Bool.and_eq_false_iff,decide_eq_false_iff_not,decide_eq_false_iff_not];omega
    rw[e];exact ZN 3 ta to els n low bl w (by omega)
 ·rw[ZaS hk]
  exact ZN kind ta to els n low bl w (Or.inl hk)
def XT(xs:List Int)(x:Int):Bool:=xs.contains x
theorem Jc(a:Option Addr)(n c:Nat)(x:Int)(xs:List Int)(L B:Nat)(w:World)(ha:Hid (Xe w L B a xs))(hx:Hid (n=xs.length))(hn:n<=1048576) :
 Calls Tryd.prog 21 #[.slice a n c,.int .i64 x] w fun e w'=>e=.returned (.bool (XT xs x))/\w'=w:=by
 go_enter Tryd.func21,Tryd.ntmps21
 go_wp2
 go_loop [5] (fun i=>∃k:Nat,k<=n/\i=.int .i64 k/\Hid (∀j (h:j<xs.length),j<k->xs[j]≠x)) (fun i=>n-(intOf i).toNat)
 case atStart=>exact⟨0,Nat.zero_le _,rfl,fun j hj h=>absurd h (by omega)⟩
 case round =>
  obtain⟨k,hk,rfl,hno⟩:=hrel;by_cases hlt:k<n
  ·have hkx:k<xs.length:=by have:=hx.out;omega
   obtain⟨b,o,rfl,_,hc⟩:=ha.out k hkx;by_cases he:xs[k]=x
   ·have hb:(xs[k]==x)=true:=by simp[he]
    have HE:=Xa he;clear he;go_wp2
    go_ret
    exact⟨Xm (by unfold XT;rw[eq_comm,List.contains_iff_mem,<-HE.out];exact List.getElem_mem hkx),rfl⟩
   ·have hb:(xs[k]==x)=false:=by simp[he]
    have HE:=Xa he;clear he;go_wp2
    go_round
    case rel=>exact⟨k+1,by omega,by go_num,fun j hj h=>if e:j=k then by subst e;exact HE.out else hno.out j hj (by omega)⟩
    case measure=>simp[intOf];omega
  ·go_wp2
   go_ret
   exact⟨Xm (by
    rw[eq_comm,Bool.eq_false_iff];intro hc;obtain⟨j,hj,e⟩:=List.getElem_of_mem (List.contains_iff_mem.1 (show xs.contains x=true from hc));exact hno.out j hj (by have:=hx.out;omega) e),rfl⟩
theorem ZaZ(t:XZ)(b:Int):t.targets.contains b=true↔(t.kind=1/\t.to=b)\/(t.kind=2/\(t.to=b\/t.els=b)):=by
 unfold XZ.targets;by_cases h1:t.kind=1
 ·rw[if_pos h1]
  simp only[h1,true_and,List.contains_iff_mem,List.mem_singleton];constructor
  ·intro h;exact Or.inl h.symm
  ·rintro(h | ⟨h,_⟩)
   ·exact h.symm
   ·omega
 ·rw[if_neg h1]
  by_cases h2:t.kind=2
  ·rw[if_pos h2]
   simp only[h2,true_and,List.contains_iff_mem,List.mem_cons,List.not_mem_nil,or_false];constructor
   ·rintro(h | h)
    ·exact Or.inr (Or.inl h.symm)
    ·exact Or.inr (Or.inr h.symm)
   ·rintro(⟨h,_⟩ | h | h)
    ·omega
    ·exact Or.inl h.symm
    ·exact Or.inr h.symm
  ·rw[if_neg h2]
   simp[h1,h2]
theorem Z4(x:Xg)(b:Int):∀(xs:List Xg)(i:Nat),predsFrom (xs++[x]) i b=predsFrom xs i b++(if x.term.targets.contains b then [((i+xs.length:Nat):Int)]else [])
 | [],i=>by simp[predsFrom]
 | y::ys,i=>by
  simp only[List.cons_append,predsFrom];have e:i+1+ys.length=i+(ys.length+1):=by omega
  rw[Z4 x b ys (i+1),List.append_assoc,e,List.length_cons]
theorem YP(b:Int):∀(xs:List Xg)(i:Nat),(predsFrom xs i b).length<=xs.length
 | [],_=>Nat.le_refl _
 | y::ys,i=>by
  simp only[predsFrom,List.length_append,List.length_cons];have:=YP b ys (i+1);split<;>simp<;>omega
theorem Xn{w:World}{base e:Nat}{v:Value}{n:Nat}{xs:List Int}(h:w.ownsRow base e 1 v n (xs.map (Value.int .i64))):∃a c,v=.slice a xs.length c/\Xe w base w.heap.size a xs:=by
 obtain⟨hl,h | ⟨g,cap,cur,rfl,hg,hh,hc,_,hs,ht⟩⟩:=h
 ·obtain⟨rfl,rfl⟩:=h
  have:xs=[]:=by simpa using hl
  subst this;exact⟨_,_,rfl,fun i hi=>absurd hi (by simp)⟩
 ·simp only[Nat.mul_one,List.length_map]at hl hs ht
  subst hl;refine⟨_,_,rfl,fun i hi=>⟨g,0,rfl,⟨hg,?_⟩,?_⟩⟩
  ·exact(Array.getElem?_eq_some_iff.1 hh).1
  ·have h1:(cur.toList.take xs.length)[i]?=some (Value.int .i64 xs[i]):=by rw[ht];simp[hi]
   rw[List.getElem?_take_of_lt hi]at h1;simp only[World.cell?,hh,Nat.zero_add];simpa using h1
theorem Tryd.info2':(Tryd.prog.info? 2).map (fun i=>(i.zero,i.size,i.bytes))=some (some (.int .i64 0),1,8):=by kernel_rfl
theorem Zq{W w':World}{base e s:Nat}{u:Value}{n:Nat}{xs:List Value}(hg:W.grownBy w' u.ownBlock)(ho:W.ownsRow base e s u n xs){b:Nat}(hb:b<base)(hz:b<W.heap.size):w'.heap[b]?=W.heap[b]? :=
 hg.block b hz (fun h=>by have:=(ho.lt b h.symm).1;omega)
theorem XG{w W w':World}{B base e s:Nat}{u:Value}{n:Nat}{xs:List Value}(h:Below B w W)(hg:W.grownBy w' u.ownBlock)(ho:W.ownsRow base e s u n xs)(hb:B<=base)(hz:B<=W.heap.size):Below B w w' :=
 h.grown hg hz (fun k hk=>by have:=(ho.lt k hk).1;omega)
theorem WQ(w:World)(o:Obj):((w.alloc o).alloc (.cells #[] 2)).ownsRow (w.heap.size+1) 2 1 (.slice (some ⟨w.heap.size+1,0,none⟩) 0 0) 0 []:=by
 have h:=World.ownsRow_lit (base:=w.heap.size+1) (e:=2) (size:=1) (w.alloc o) #[] 0 (by simp) (by simp) rfl;rw[World.size_alloc]at h;exact h
theorem YO(xs:List Int)(x:Int):(xs++[x]).map (Value.int .i64)=xs.map (Value.int .i64)++[.int .i64 x]:=by simp
theorem Zs(v:Int)(a:Option Addr)(n c:Nat)(q:Int)(xs:List Xg)(L B:Nat)(w:World)(ha:Hid (Xy w L B a xs))(hx:Hid (n=xs.length))(hn:n<=1048576)(hB:B<=w.heap.size) :
 Calls Tryd.prog 19 #[.agg #[.int .i64 v,.slice a n c],.int .i64 q] w fun e w'=>∃a' c',e=.returned (.slice a' (predsFrom xs 0 q).length c')/\Below w.heap.size w w'/\Xe w' w.heap.size w'.heap.size a' (predsFrom xs 0 q):=by
 obtain⟨i0,hi0,hz0,hz1,hz2⟩:=info_parts Tryd.info2'
 go_enter Tryd.func19,Tryd.ntmps19
 go_wp2
 go_loopw [5,6] (fun u i wr=>∃k:Nat,k<=n/\i=.int .i64 k/\Below w.heap.size w wr/\w.heap.size<wr.heap.size/\wr.cell? ⟨w.heap.size,1,none⟩=some (.slice a n c)/\wr.ownsRow (w.heap.size+1) 2 1 u (predsFrom (xs.take k) 0 q).length ((predsFrom (xs.take k) 0 q).map (Value.int .i64))) (fun _ i _=>n-(intOf i).toNat)
 case atStart=>exact⟨0,Nat.zero_le _,rfl,Xb (Xb (Below.refl _ _) _) _,by simp;omega,by simp,WQ _ _⟩
 case round =>
  obtain⟨k,hk,rfl,hw,hsz,hcell,hown⟩:=hrel;by_cases hlt:k<n
  ·have hkx:k<xs.length:=by have:=hx.out;omega
   obtain⟨b,o,rfl,⟨_,hbB⟩,hc⟩:=ha.out k hkx;obtain⟨pa,pc,ia,ic,_,_,⟨e2,e3,e4,e5⟩,_,_⟩:=hc.keep (hw.mono hB) (by omega);have hnx:Hid (predsFrom (xs.take (k+1)) 0 q=predsFrom (xs.take k) 0 q++(if xs[k].term.targets.contains q then [(k:Int)]else [])):=by
    show _=_;rw[XF _ _ hkx,Z4];simp[Nat.min_eq_left (Nat.le_of_lt hkx)]
   have hpl:(predsFrom (xs.take k) 0 q).length<=1048576:=by have:=YP q (xs.take k) 0;simp at this;omega
   have HO:=Xa hown;clear hown hc;have hth:=Xa (ZaZ xs[k].term q);generalize xs[k]=X at *;by_cases hin:X.term.targets.contains q=true
   ·have HN:Hid (predsFrom (xs.take (k+1)) 0 q=predsFrom (xs.take k) 0 q++[(k:Int)]):=by have:=hnx.out;rw[if_pos hin]at this;exact this
    have hcs:=hth.1 hin;clear hin hnx hth;generalize predsFrom (xs.take k) 0 q=ps at *;have hcs':(X.term.kind=1/\X.term.to=q)\/(X.term.kind=2/\X.term.to=q)\/(X.term.kind=2/\X.term.to≠q/\X.term.els=q):=by omega
    clear hcs;rcases hcs' with⟨d1,d2⟩ | ⟨d1,d2⟩ | ⟨d1,d3,d2⟩
    all_goals
     go_wp2_with (at_builtin;refine wpList_append_own _ rfl _ _ 40 rfl (w.heap.size+1) 2 i0 (.int .i64 0) 1 8 Tryd.underlying40 hi0 hz0 hz1 hz2 rfl (by decide) _ _ _ rfl ((HO.alloc _).alloc _) ⟨wr.heap.size+1,0,none⟩ 1 1 [.int .i64 k] rfl rfl ?c1 ?c2 ?c3 ?c4 ?c5 ?_)
     case c1 =>
      intro j u hj
      match j,hj with
      | 0,hj=>simp at hj;subst hj;simp[Addr.add]
     case c2=>intro u hu;simp at hu;subst hu;rfl
     case c3=>unfold maxLen;omega
     case c4=>omega
     case c5=>simp;omega
     intro v1 w1 hown1 hgrow1 _;have HO1:=Xa hown1;clear hown1;go_wp2;have hb2:Below w.heap.size w w1:=XG (Xb (Xb hw _) _) hgrow1 ((HO.alloc _).alloc _) (by omega) (by simp;omega);have hbk:=Zq hgrow1 ((HO.alloc _).alloc _) (b:=w.heap.size) (by omega) (by simp;omega);have hsz1:=hgrow1.size;simp at hsz1;exact⟨⟨k+1,by omega,by go_num,hb2,by omega,(Xc hbk).trans (((Xb (Xb (Below.refl wr.heap.size wr) _) _).cell (p:=⟨w.heap.size,1,none⟩) hsz).trans hcell),by rw[HN.out,YO];simpa using HO1.out⟩,by simp[intOf];omega⟩
   ·have HN:Hid (predsFrom (xs.take (k+1)) 0 q=predsFrom (xs.take k) 0 q):=by have:=hnx.out;rw[if_neg hin,List.append_nil]at this;exact this
    have hcs:¬((X.term.kind=1/\X.term.to=q)\/(X.term.kind=2/\(X.term.to=q\/X.term.els=q))):=fun h=>hin (hth.2 h)
    clear hin hnx hth;generalize predsFrom (xs.take k) 0 q=ps at *;have hcs':(X.term.kind=1/\(X.term.to==q)=false)\/(X.term.kind=2/\(X.term.to==q)=false/\(X.term.els==q)=false)\/((X.term.kind==1)=false/\(X.term.kind==2)=false):=by
     simp only[beq_eq_false_iff_ne];omega
    clear hcs;rcases hcs' with⟨d1,d2⟩ | ⟨d1,d2,d3⟩ | ⟨d1,d2⟩
    all_goals
     go_wp2;exact⟨⟨k+1,by omega,by go_num,Xb hw _,by simp;omega,((Xb (Below.refl wr.heap.size wr) _).cell (p:=⟨w.heap.size,1,none⟩) hsz).trans hcell,by rw[HN.out];exact HO.alloc _⟩,by simp[intOf];omega⟩
  ·go_wp2
   go_ret
   have e:=List.take_of_length_le (l:=xs) (i:=k) (by have:=hx.out;omega);rw[e]at hown;obtain⟨a1,c1,rfl,hi1⟩:=Xn hown;exact⟨_,_,rfl,hw,hi1.mono (by omega) (Nat.le_refl _)⟩
end Go.Proofs.YtbofmlmdgkblkaaDoor
namespace Go.Proofs.YtbofmlmdgkblkaaDoor
open Go.RowKit
theorem Ze1(g j:Nat):(⟨g,0,none⟩:Addr).add j=⟨g,j,none⟩:=by unfold Addr.add;split<;>simp_all
theorem Zx{w:World}{base e s g n c:Nat}{cs:List Value}(h:w.ownsRow base e s (.slice (some ⟨g,0,none⟩) n c) n cs){j:Nat}{u:Value}(hj:cs[j]?=some u):w.cell? ⟨g,j,none⟩=some u:=by
 have:=h.cells (g:=g) rfl j u hj;rw[Ze1]at this;exact this
theorem Zf0{w:World}{base e s g n c:Nat}{cs:List Value}(h:w.ownsRow base e s (.slice (some ⟨g,0,none⟩) n c) n cs)(o:Nat):w.frozen? ⟨g,o,none⟩=false:=by
 rcases h.2 with⟨e2,_⟩ | ⟨g',cap,cur,e2,_,hh,_⟩
 ·cases e2
 ·injection e2 with e3
  injection e3 with e3;injection e3 with e4;subst e4;simp[World.frozen?,hh]
theorem TY{w:World}{base e s n:Nat}{v:Value}{cs:List Value}(h:w.ownsRow base e s v n cs):(v=.slice none 0 0/\n=0/\cs=[])\/∃g c,v=.slice (some ⟨g,0,none⟩) n c/\(base<=g/\g<w.heap.size)/\n<=c:=by
 rcases h.2 with⟨e1,e2⟩ | ⟨g,cap,cur,e1,hb,hh,hc,_⟩
 ·refine Or.inl ⟨e1,e2,List.eq_nil_of_length_eq_zero ?_⟩
  rw[h.1,e2,Nat.zero_mul]
 ·exact Or.inr ⟨g,cap,e1,⟨hb,(Array.getElem?_eq_some_iff.1 hh).1⟩,hc⟩
theorem ZC.block{w w':World}{b L B:Nat}{s:Sr}(h:ZC w b L B s)(hb:w'.heap[b]?=w.heap[b]?)(hk:∀k,L<=k->k<B->w'.heap[k]?=w.heap[k]?):ZC w' b L B s:=by
 obtain⟨a,c,e0,hbb⟩:=h.c0;have ce:∀q,w'.cell? ⟨b,q,none⟩=w.cell? ⟨b,q,none⟩:=fun q=>World.cell?_of_block hb
 exact⟨⟨a,c,(ce 0).trans e0,hbb.keepS hk⟩,(ce 1).trans h.c1,(ce 2).trans h.c2,(ce 3).trans h.c3,fun q=>(World.frozen?_of_block hb).trans (h.thaw q),h.out⟩
theorem KT{w w':World}{B t sz b n:Nat}{v:Value}{cs:List Value}(h:w.ownsRow B t sz v n cs)(hg:w.grownBy w' (some b))(hb:b<B):w'.ownsRow B t sz v n cs :=
 h.kept hg (by
  cases e:v.ownBlock with
  | none=>exact Or.inl rfl
  | some k=>exact Or.inr (fun e2=>by cases e2;have:=(h.lt _ e).1;omega))
theorem Zgg{w w1:World}{B t s g:Nat}{n c:Nat}{xs:List Value}(h:w.ownsRow B t s (.slice (some ⟨g,0,none⟩) n c) n xs)(k:w1.heap[g]?=w.heap[g]?):w1.ownsRow B t s (.slice (some ⟨g,0,none⟩) n c) n xs:=by
 obtain⟨hl,h | ⟨g',cap,cur,e,hg,hh,hc⟩⟩:=h
 ·exact⟨hl,Or.inl h⟩
 ·cases e
  exact⟨hl,Or.inr ⟨g,c,cur,rfl,hg,k.trans hh,hc⟩⟩
theorem Zai{w:World}{B t sz g n c k:Nat}{cs:List Value}(h:w.ownsRow B t sz (.slice (some ⟨g,0,none⟩) n c) n cs)(u:Value):(w.setCell ⟨g,k,none⟩ u).ownsRow B t sz (.slice (some ⟨g,0,none⟩) n c) n (cs.set k u):=by
 obtain⟨hl,h0 | ⟨g',cap,cur,e,hg,hh,hc,hm,hs,ht⟩⟩:=h
 ·cases h0.1
 ·cases e
  refine⟨by rw[List.length_set];exact hl,Or.inr ⟨g,c,cur.setIfInBounds k u,rfl,hg,?_,hc,hm,by rw[Array.size_setIfInBounds];exact hs,?_⟩⟩
  ·exact heap_setCell_same w g k cur t u hh
  ·rw[Array.toList_setIfInBounds,List.take_set,ht]
theorem Xh{w:World}{base e s n:Nat}{v:Value}{cs:List Value}(h:w.ownsRow base e s v n cs)(hn:0<n):∃g c,v=.slice (some ⟨g,0,none⟩) n c/\(base<=g/\g<w.heap.size)/\n<=c:=by
 rcases TY h with⟨_,e,_⟩ | h
 ·omega
 ·exact h
theorem Zg{x:Int}(h:0<=x):∃m:Nat,x=m:=⟨x.toNat,by omega⟩
end Go.Proofs.YtbofmlmdgkblkaaDoor
namespace Go.Proofs.YtbofmlmdgkblkaaDoor
set_option maxHeartbeats 1000000
open Go.RowKit
structure Z7(w:World)(sb B:Nat)(s:Sr):Prop where
 src:ZC w sb (sb+1) B s
 ok:ZF s
 bB:sb+1<=B
 sB:B<=w.heap.size
theorem Z7.drew{w:World}{sb B:Nat}{s:Sr}(h:Z7 w sb B s):Z7 w.drew sb B s:=⟨h.src.drew,h.ok,h.bB,h.sB⟩
theorem Z7.keep{w w':World}{sb B:Nat}{s:Sr}(h:Z7 w sb B s)(hk:Below B w w'):Z7 w' sb B s:=by
 have h1:=h.bB;exact⟨h.src.block (hk.block _ (by omega)) (fun k _ h2=>hk.block k h2),h.ok,h.bB,Nat.le_trans h.sB hk.size⟩
theorem X9(sb B:Nat)(s:Sr)(n:Int)(w:World)(h:Hid (Z7 w sb B s))(hn:n<=1000000)(hn0:-1000000<=n) :
 Calls Tryd.prog 27 #[.pointer (some ⟨sb,0,none⟩),.int .i64 n] w fun e w'=>e=.returned (.int .i64 (nextP s n).1)/\Z7 w' sb B (nextP s n).2/\w.grownBy w' (some sb):=by
 refine(Ze4 sb (sb+1) B s n w (Xa h.src) (Xa h.ok) hn hn0).mono ?_;rintro e w' ⟨rfl,hs,hg⟩;exact⟨rfl,⟨hs,Yr h.ok _,h.bB,Nat.le_trans h.sB hg.size⟩,hg⟩
theorem Yq{w w1 w2:World}{b:Nat}(h:w.grownBy w1 (some b))(k:w1.grownBy w2 (some b)):w.grownBy w2 (some b) :=
 ⟨k.os.trans h.os,k.tape.trans h.tape,k.output.trans h.output,Nat.le_trans h.size k.size,fun i hi hb=>(k.block i (Nat.lt_of_lt_of_le hi h.size) hb).trans (h.block i hi hb)⟩
theorem Xe.grown{w w':World}{L B sb:Nat}{a:Option Addr}{xs:List Int}(h:Xe w L B a xs)(g:w.grownBy w' (some sb))(hs:sb<L)(hB:B<=w.heap.size):Xe w' L B a xs :=
 h.keepS (fun k h1 h2=>g.block k (by omega) (fun e=>by injection e;omega))
def Yy(s:Sr)(vs:List Int)(near:Bool):Int × Sr :=
 if vs.length=0 then (0,s)
 else if near=true/\3<vs.length then
  if (nextP s 4).1=0 then (vs.getD (nextP (nextP s 4).2 vs.length).1.toNat 0,(nextP (nextP s 4).2 vs.length).2)
  else (vs.getD ((vs.length:Int)-1-(nextP (nextP s 4).2 3).1).toNat 0,(nextP (nextP s 4).2 3).2)
 else (vs.getD (nextP s vs.length).1.toNat 0,(nextP s vs.length).2)
theorem ZaH{s:Sr}(h:ZF s)(vs:List Int)(near:Bool):ZF (Yy s vs near).2:=by
 unfold Yy;split
 ·exact h
 ·split
  ·split
   ·exact Yr (Yr h _) _
   ·exact Yr (Yr h _) _
  ·exact Yr h _
theorem Je(sb B:Nat)(s:Sr)(a:Option Addr)(n c:Nat)(vs:List Int)(L' B':Nat)(near:Bool)(w:World)(h:Hid (Z7 w sb B s))(hv:Hid (Xe w L' B' a vs))(hx:Hid (n=vs.length))(hn:n<=5000)(hL:sb<L')(hB:B'<=w.heap.size) :
 Calls Tryd.prog 55 #[.pointer (some ⟨sb,0,none⟩),.slice a n c,.bool near] w fun e w'=>e=.returned (.int .i64 (Yy s vs near).1)/\Z7 w' sb B (Yy s vs near).2/\w.grownBy w' (some sb):=by
 have hx':=hx.out;by_cases h0:n=0
 ·have HP:Hid (Yy s vs near=(0,s)):=Xa (by unfold Yy;rw[if_pos (by omega)])
  subst h0;clear hx'
  go_enter Tryd.func55,Tryd.ntmps55
  go_wp2
  go_ret
  rw[HP.out];exact⟨rfl,h.out,World.grownBy.refl _ _⟩
 ·have h0b:(n==0)=false:=by simpa using h0
  have hn0:(0:Int)<n:=by omega
  have hni:((n:Int)==0)=false:=by simp;omega
  by_cases h1:near=true/\3<n
  ·obtain⟨rfl,h3⟩:=h1
   have h3i:(3:Int)<n:=by omega
   have HP:Hid (Yy s vs true=if (nextP s 4).1=0 then (vs.getD (nextP (nextP s 4).2 n).1.toNat 0,(nextP (nextP s 4).2 n).2)else (vs.getD ((n:Int)-1-(nextP (nextP s 4).2 3).1).toNat 0,(nextP (nextP s 4).2 3).2)):=Xa (by unfold Yy;rw[if_neg (by omega),if_pos ⟨rfl,by omega⟩,<-hx']);clear hx'
   go_enter Tryd.func55,Tryd.ntmps55
   go_wp2_with fail
   refine(X9 sb B s 4 w h (by omega) (by omega)).mono ?_;rintro e w1 ⟨rfl,hd,hg⟩;have HG1:=Xa hg;obtain⟨r,s1,hrs⟩:∃r s',nextP s 4=(r,s'):=⟨_,_,rfl⟩;rw[hrs]at hd HP |-;dsimp only at hd HP |-;have HD1:=Xa hd;have HV1:=Xa (hv.grown hg hL hB);clear hd hg hrs;by_cases hr:r=0
   ·subst hr
    go_wp2_with fail
    refine(X9 sb B s1 n w1 HD1 (by omega) (by omega)).mono ?_;rintro e w2 ⟨rfl,hd,hg⟩;have hlt:=XB s1 (n:=(n:Int)) (by omega);obtain⟨q,s2,hrs⟩:∃r s',nextP s1 n=(r,s'):=⟨_,_,rfl⟩;rw[hrs]at hd HP hlt |-;dsimp only at hd HP hlt |-;rw[if_pos trivial]at HP;obtain⟨q,rfl⟩:=Zg hlt.1;have hqv:q<vs.length:=by have:=hx.out;omega
    obtain⟨b',o',rfl,hbb,hc⟩:=(HV1.grown hg hL (Nat.le_trans hB HG1.size)) q hqv;rw[show vs.getD ((q:Int)).toNat 0=vs[q] by simp[hqv]]at HP;have HG2:=Xa (Yq HG1.out hg);have HD2:=Xa hd;clear hd hg hrs hbb HV1;generalize vs[q]=vq at *;go_wp2
    go_ret
    rw[HP.out];exact⟨rfl,HD2.out,HG2.out⟩
   ·have hrb:(r==0)=false:=by simpa using hr
    rw[if_neg hr]at HP
    go_wp2_with fail
    refine(X9 sb B s1 3 w1 HD1 (by omega) (by omega)).mono ?_;rintro e w2 ⟨rfl,hd,hg⟩;have hlt:=XB s1 (n:=3) (by omega);obtain⟨q,s2,hrs⟩:∃r s',nextP s1 3=(r,s'):=⟨_,_,rfl⟩;rw[hrs]at hd HP hlt |-;dsimp only at hd HP hlt |-;obtain⟨m,hm⟩:=Zg (x:=(n:Int)-1-q) (by omega);have hqv:m<vs.length:=by have:=hx.out;omega
    obtain⟨b',o',rfl,hbb,hc⟩:=(HV1.grown hg hL (Nat.le_trans hB HG1.size)) m hqv;rw[hm,show vs.getD ((m:Int)).toNat 0=vs[m] by simp[hqv]]at HP;have HG2:=Xa (Yq HG1.out hg);have HD2:=Xa hd;clear hd hg hrs hbb HV1;have hmn:m<n:=by omega
    generalize vs[m]=vq at *;go_wp2
    go_ret
    rw[HP.out];exact⟨rfl,HD2.out,HG2.out⟩
  ·have HP:Hid (Yy s vs near=(vs.getD (nextP s n).1.toNat 0,(nextP s n).2)):=Xa (by unfold Yy;rw[if_neg (by omega),if_neg (by rw[<-hx'];exact h1),<-hx'])
   clear hx';have KEY:∀(nr:Bool)(h3:nr=false\/¬(3:Int)<n),Calls Tryd.prog 55 #[.pointer (some ⟨sb,0,none⟩),.slice a n c,.bool nr] w fun e w'=>e=.returned (.int .i64 (vs.getD (nextP s n).1.toNat 0))/\Z7 w' sb B (nextP s n).2/\w.grownBy w' (some sb):=by
    intro nr h3;clear h1 HP;cases nr with
    | false =>
     clear h3
     go_enter Tryd.func55,Tryd.ntmps55
     go_wp2_with fail
     refine(X9 sb B s n w h (by omega) (by omega)).mono ?_;rintro e w2 ⟨rfl,hd,hg⟩;have hlt:=XB s (n:=(n:Int)) (by omega);obtain⟨q,s2,hrs⟩:∃r s',nextP s n=(r,s'):=⟨_,_,rfl⟩;have HRS:=Xa hrs;rw[hrs]at hd hlt |-;dsimp only at hd hlt |-;obtain⟨q,rfl⟩:=Zg hlt.1;have hqv:q<vs.length:=by have:=hx.out;omega
     obtain⟨b',o',rfl,hbb,hc⟩:=(hv.grown hg hL hB) q hqv;have HQ:Hid (vs.getD ((q:Int)).toNat 0=vs[q]):=Xa (by simp[hqv]);have HG2:=Xa hg;have HD2:=Xa hd;clear hd hg hrs hbb;generalize vs[q]=vq at *;go_wp2
     go_ret
     rw[HRS.out];dsimp only;rw[HQ.out];exact⟨rfl,HD2.out,HG2.out⟩
    | true =>
     have h3':¬(3:Int)<n:=by rcases h3 with h | h;cases h;exact h
     clear h3
     go_enter Tryd.func55,Tryd.ntmps55
     go_wp2_with fail
     refine(X9 sb B s n w h (by omega) (by omega)).mono ?_;rintro e w2 ⟨rfl,hd,hg⟩;have hlt:=XB s (n:=(n:Int)) (by omega);obtain⟨q,s2,hrs⟩:∃r s',nextP s n=(r,s'):=⟨_,_,rfl⟩;have HRS:=Xa hrs;rw[hrs]at hd hlt |-;dsimp only at hd hlt |-;obtain⟨q,rfl⟩:=Zg hlt.1;have hqv:q<vs.length:=by have:=hx.out;omega
     obtain⟨b',o',rfl,hbb,hc⟩:=(hv.grown hg hL hB) q hqv;have HQ:Hid (vs.getD ((q:Int)).toNat 0=vs[q]):=Xa (by simp[hqv]);have HG2:=Xa hg;have HD2:=Xa hd;clear hd hg hrs hbb;generalize vs[q]=vq at *;go_wp2
     go_ret
     rw[HRS.out];dsimp only;rw[HQ.out];exact⟨rfl,HD2.out,HG2.out⟩
   rw[HP.out];exact KEY near (by
    cases near with
    | false=>exact Or.inl rfl
    | true=>exact Or.inr (fun h3=>h1 ⟨rfl,by omega⟩))
end Go.Proofs.YtbofmlmdgkblkaaDoor
