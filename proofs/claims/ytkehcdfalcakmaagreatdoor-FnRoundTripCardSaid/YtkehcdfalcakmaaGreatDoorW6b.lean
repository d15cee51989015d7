import Derived.Test.YtkehcdfalcakmaaGreatDoorPure
import Derived.Test.YtkehcdfalcakmaaGreatDoorDR2
namespace Go.Proofs.YtkehcdfalcakmaaGreatDoor
set_option maxHeartbeats 1000000
open Go.RowKit
def K8(lo hi x:Int):Bool:=decide (lo<=x)&&decide (x<hi)
theorem ZgC(n lo bl a tg els:Int):Ze n lo bl ⟨1,a,tg,els⟩=(a==0&&K8 lo bl tg&&els==0):=by simp[Ze,K0,K8]
theorem ZgX(n lo bl a tg els:Int):Ze n lo bl ⟨2,a,tg,els⟩=(K8 0 n a&&K8 lo bl tg&&K8 lo bl els):=by simp[Ze,K0,K8]
theorem Zgu(n lo bl a tg els:Int):Ze n lo bl ⟨3,a,tg,els⟩=(K8 0 n a&&tg==0&&els==0):=by simp[Ze,K0,K8]
theorem Zb7{n lo bl k a tg els:Int}(h:¬(1<=k/\k<=3)):Ze n lo bl ⟨k,a,tg,els⟩=false:=by
 unfold Ze;by_cases h1:1<=k
 ·rw[decide_eq_false (p:=k<=3) (by omega)];simp
 ·rw[decide_eq_false (p:=1<=k) h1];simp
theorem XO{α:Type}{p:α->Bool}{xs:List α}{k:Nat}(hk:k<xs.length)(h:(xs.take k).all p=true)(hp:p xs[k]=true):(xs.take (k+1)).all p=true:=by
 rw[X9 xs k hk,List.all_append,h];simp[hp]
theorem Ju{α:Type}{p:α->Bool}{xs:List α}{k:Nat}(hk:k<xs.length)(hp:p xs[k]=false):xs.all p=false:=by
 rw[List.all_eq_false];exact⟨_,List.getElem_mem hk,by simp[hp]⟩
theorem Ys{α:Type}{p:α->Bool}{xs:List α}{k:Nat}(hk:xs.length<=k)(h:(xs.take k).all p=true):xs.all p=true:=by
 rwa[List.take_of_length_le hk]at h
theorem JG(kind ta tg els n low bl:Int)(w:World)(ts:List Int)(R:Bool)(hts:Hid ((XN.mk kind ta tg els).targets=ts))(hlen:ts.length<=2)(hk1:1<=kind)(hk3:kind<=3)
 (c1:Hid (kind=1->ta=0/\els=0)) (c3:Hid (kind=3->tg=0/\els=0)) (c2:Hid (kind≠1->0<=ta/\ta<n)) (hR:Hid (ts.all (K8 low bl)=R)) :
 Calls Tryz.prog 18 #[.agg #[.int .i64 kind,.int .i64 ta,.int .i64 tg,.int .i64 els],.int .i64 n,.int .i64 low,.int .i64 bl] w fun e w'=>e=.returned (.bool R)/\Below w.heap.size w w':=by
 have hc:kind=1\/kind=2\/kind=3:=by omega
 have hb0:=Xa hlen;rcases hc with rfl | rfl | rfl
 ·obtain⟨rfl,rfl⟩:=c1.out rfl
  clear c1 c2 c3
  go_enter Tryz.func18,Tryz.ntmps18
  go_wp2_with (go_at_call 40;refine(Jm ⟨_,_,_,_⟩ _).mono ?_;rintro e w1 ⟨a,c,rfl,hb1,hi1⟩;rw[Xr hts]at hi1 |-;have HI:=Xa hi1;clear hi1)
  go_loop [10] (fun i=>∃k:Nat,k<=ts.length/\i=.int .i64 k/\Hid ((ts.take k).all (K8 low bl)=true)) (fun i=>ts.length-(intOf i).toNat)
  case atStart=>exact⟨0,Nat.zero_le _,rfl,rfl⟩
  case round =>
   obtain⟨k,hk,rfl,hall⟩:=hrel;by_cases hlt:k<ts.length
   ·obtain⟨b,o,rfl,_,hc⟩:=HI.out k hlt
    by_cases hx:low<=ts[k]/\ts[k]<bl
    ·obtain⟨hx1,hx2⟩:=hx
     go_wp2
     go_round
     case rel=>exact⟨k+1,by omega,by go_num,XO hlt hall.out (by simp[K8,hx1,hx2])⟩
     case measure=>simp[intOf];omega
    ·go_wp2
     all_goals
      go_ret
      exact⟨Xg (by rw[<-hR.out];exact(Ju hlt (by unfold K8;rw[Bool.and_eq_false_iff,decide_eq_false_iff_not,decide_eq_false_iff_not];omega)).symm),Xi (Xb (Below.refl _ _) _) hb1⟩
   ·go_wp2
    go_ret
    exact⟨Xg (by rw[<-hR.out];exact(Ys (by omega) hall.out).symm),Xi (Xb (Below.refl _ _) _) hb1⟩
 ·obtain⟨d1,d2⟩:=c2.out (by decide)
  clear c1 c2 c3
  go_enter Tryz.func18,Tryz.ntmps18
  go_wp2_with (go_at_call 40;refine(Jm ⟨_,_,_,_⟩ _).mono ?_;rintro e w1 ⟨a,c,rfl,hb1,hi1⟩;rw[Xr hts]at hi1 |-;have HI:=Xa hi1;clear hi1)
  go_loop [10] (fun i=>∃k:Nat,k<=ts.length/\i=.int .i64 k/\Hid ((ts.take k).all (K8 low bl)=true)) (fun i=>ts.length-(intOf i).toNat)
  case atStart=>exact⟨0,Nat.zero_le _,rfl,rfl⟩
  case round =>
   obtain⟨k,hk,rfl,hall⟩:=hrel;by_cases hlt:k<ts.length
   ·obtain⟨b,o,rfl,_,hc⟩:=HI.out k hlt
    by_cases hx:low<=ts[k]/\ts[k]<bl
    ·obtain⟨hx1,hx2⟩:=hx
     go_wp2
     go_round
     case rel=>exact⟨k+1,by omega,by go_num,XO hlt hall.out (by simp[K8,hx1,hx2])⟩
     case measure=>simp[intOf];omega
    ·go_wp2
     all_goals
      go_ret
      exact⟨Xg (by rw[<-hR.out];exact(Ju hlt (by unfold K8;rw[Bool.and_eq_false_iff,decide_eq_false_iff_not,decide_eq_false_iff_not];omega)).symm),Xi (Xb (Below.refl _ _) _) hb1⟩
   ·go_wp2
    go_ret
    exact⟨Xg (by rw[<-hR.out];exact(Ys (by omega) hall.out).symm),Xi (Xb (Below.refl _ _) _) hb1⟩
 ·obtain⟨d1,d2⟩:=c2.out (by decide)
  obtain⟨rfl,rfl⟩:=c3.out rfl;clear c1 c2 c3
  go_enter Tryz.func18,Tryz.ntmps18
  go_wp2_with (go_at_call 40;refine(Jm ⟨_,_,_,_⟩ _).mono ?_;rintro e w1 ⟨a,c,rfl,hb1,hi1⟩;rw[Xr hts]at hi1 |-;have HI:=Xa hi1;clear hi1)
  go_loop [10] (fun i=>∃k:Nat,k<=ts.length/\i=.int .i64 k/\Hid ((ts.take k).all (K8 low bl)=true)) (fun i=>ts.length-(intOf i).toNat)
  case atStart=>exact⟨0,Nat.zero_le _,rfl,rfl⟩
  case round =>
   obtain⟨k,hk,rfl,hall⟩:=hrel;by_cases hlt:k<ts.length
   ·have:=hts.out
    simp[XN.targets]at this;subst this;simp at hlt
   ·go_wp2
    go_ret
    exact⟨Xg (by rw[<-hR.out];exact(Ys (by omega) hall.out).symm),Xi (Xb (Below.refl _ _) _) hb1⟩
theorem ZW(kind ta tg els n low bl:Int)(w:World)(h:¬(1<=kind/\kind<=3)\/(kind=1/\¬(ta=0/\els=0))\/(kind=3/\¬(tg=0/\els=0))\/(1<=kind/\kind<=3/\kind≠1/\¬(0<=ta/\ta<n))) :
 Calls Tryz.prog 18 #[.agg #[.int .i64 kind,.int .i64 ta,.int .i64 tg,.int .i64 els],.int .i64 n,.int .i64 low,.int .i64 bl] w fun e w'=>e=.returned (.bool false)/\Below w.heap.size w w':=by
 by_cases hk:1<=kind/\kind<=3
 ·have hc:kind=1\/kind=2\/kind=3:=by omega
  rcases hc with rfl | rfl | rfl
  ·have h1:¬(ta=0/\els=0):=by omega
   clear h hk;by_cases h2:ta=0
   ·subst h2
    have h3:(els != 0)=true:=by simp at h1;simp[h1]
    clear h1
    go_enter Tryz.func18,Tryz.ntmps18
    go_wp2
    go_ret
    exact⟨rfl,Xb (Below.refl _ _) _⟩
   ·have h3:(ta != 0)=true:=by simp[h2]
    clear h1 h2
    go_enter Tryz.func18,Tryz.ntmps18
    go_wp2
    go_ret
    exact⟨rfl,Xb (Below.refl _ _) _⟩
  ·have h1:ta<0\/n<=ta:=by omega
   clear h hk
   go_enter Tryz.func18,Tryz.ntmps18
   go_wp2
   all_goals
    go_ret
    exact⟨rfl,Xb (Below.refl _ _) _⟩
  ·by_cases h1:tg=0/\els=0
   ·obtain⟨rfl,rfl⟩:=h1
    have h1:ta<0\/n<=ta:=by omega
    clear h hk
    go_enter Tryz.func18,Tryz.ntmps18
    go_wp2
    all_goals
     go_ret
     exact⟨rfl,Xb (Below.refl _ _) _⟩
   ·clear h hk
    by_cases h2:tg=0
    ·subst h2
     have h3:(els != 0)=true:=by simp at h1;simp[h1]
     clear h1
     go_enter Tryz.func18,Tryz.ntmps18
     go_wp2
     go_ret
     exact⟨rfl,Xb (Below.refl _ _) _⟩
    ·have h3:(tg != 0)=true:=by simp[h2]
     clear h1 h2
     go_enter Tryz.func18,Tryz.ntmps18
     go_wp2
     go_ret
     exact⟨rfl,Xb (Below.refl _ _) _⟩
 ·have h1:kind<1\/3<kind:=by omega
  clear h hk
  go_enter Tryz.func18,Tryz.ntmps18
  go_wp2
  all_goals
   go_ret
   exact⟨rfl,Xb (Below.refl _ _) _⟩
theorem Kv(kind ta tg els n low bl:Int)(w:World) :
 Calls Tryz.prog 18 #[.agg #[.int .i64 kind,.int .i64 ta,.int .i64 tg,.int .i64 els],.int .i64 n,.int .i64 low,.int .i64 bl] w fun e w'=>e=.returned (.bool (Ze n low bl ⟨kind,ta,tg,els⟩))/\Below w.heap.size w w':=by
 by_cases hk:1<=kind/\kind<=3
 ·have hc:kind=1\/kind=2\/kind=3:=by omega
  rcases hc with rfl | rfl | rfl
  ·rw[ZgC]
   by_cases h:ta=0/\els=0
   ·exact JG 1 ta tg els n low bl w [tg] _ rfl (by simp) (by decide) (by decide) (fun _=>h) (fun e=>by omega) (fun e=>absurd rfl e) (by obtain⟨rfl,rfl⟩:=h;show _=_;simp)
   ·have e:(ta==0&&K8 low bl tg&&els==0)=false:=by
     by_cases h1:ta=0
     ·have:els≠0:=fun e=>h ⟨h1,e⟩
      simp[this]
     ·simp[h1]
    rw[e];exact ZW 1 ta tg els n low bl w (Or.inr (Or.inl ⟨rfl,h⟩))
  ·rw[ZgX]
   by_cases h:0<=ta/\ta<n
   ·exact JG 2 ta tg els n low bl w [tg,els] _ rfl (by simp) (by decide) (by decide) (fun e=>by omega) (fun e=>by omega) (fun _=>h) (by show _=_;simp[K8,h.1,h.2])
   ·have e:K8 0 n ta=false:=by unfold K8;rw[Bool.and_eq_false_iff,decide_eq_false_iff_not,decide_eq_false_iff_not];omega
    rw[e];exact ZW 2 ta tg els n low bl w (by omega)
  ·rw[Zgu]
   by_cases h:0<=ta/\ta<n
   ·by_cases h2:tg=0/\els=0
    ·exact JG 3 ta tg els n low bl w [] _ rfl (by simp) (by decide) (by decide) (fun e=>by omega) (fun _=>h2) (fun _=>h) (by obtain⟨rfl,rfl⟩:=h2;show _=_;simp[K8,h.1,h.2])
    ·have e:(K8 0 n ta&&tg==0&&els==0)=false:=by
      by_cases h1:tg=0
      ·have:els≠0:=fun e=>h2 ⟨h1,e⟩
       simp[this]
      ·simp[h1]
     rw[e];exact ZW 3 ta tg els n low bl w (by omega)
   ·have e:K8 0 n ta=false:=by unfold K8;rw[Bool.and_eq_false_iff,decide_eq_false_iff_not,decide_eq_false_iff_not];omega
    rw[e];exact ZW 3 ta tg els n low bl w (by omega)
 ·rw[Zb7 hk]
  exact ZW kind ta tg els n low bl w (Or.inl hk)
def Wk(xs:List Int)(x:Int):Bool:=xs.contains x
theorem UC(a:Option Addr)(n c:Nat)(x:Int)(xs:List Int)(L B:Nat)(w:World)(ha:Hid (Xh w L B a xs))(hx:Hid (n=xs.length))(hn:n<=1048576) :
 Calls Tryz.prog 21 #[.slice a n c,.int .i64 x] w fun e w'=>e=.returned (.bool (Wk xs x))/\w'=w:=by
 go_enter Tryz.func21,Tryz.ntmps21
 go_wp2
 go_loop [5] (fun i=>∃k:Nat,k<=n/\i=.int .i64 k/\Hid (∀j (h:j<xs.length),j<k->xs[j]≠x)) (fun i=>n-(intOf i).toNat)
 case atStart=>exact⟨0,Nat.zero_le _,rfl,fun j hj h=>absurd h (by omega)⟩
 case round =>
  obtain⟨k,hk,rfl,hno⟩:=hrel;by_cases hlt:k<n
  ·have hkx:k<xs.length:=by have:=hx.out;omega
   obtain⟨b,o,rfl,_,hc⟩:=ha.out k hkx;by_cases he:xs[k]=x
   ·have hb:(xs[k]==x)=true:=by simp[he]
    have HE:=Xa he;clear he;go_wp2
    go_ret
    exact⟨Xg (by unfold Wk;rw[eq_comm,List.contains_iff_mem,<-HE.out];exact List.getElem_mem hkx),rfl⟩
   ·have hb:(xs[k]==x)=false:=by simp[he]
    have HE:=Xa he;clear he;go_wp2
    go_round
    case rel=>exact⟨k+1,by omega,by go_num,fun j hj h=>if e:j=k then by subst e;exact HE.out else hno.out j hj (by omega)⟩
    case measure=>simp[intOf];omega
  ·go_wp2
   go_ret
   exact⟨Xg (by
    rw[eq_comm,Bool.eq_false_iff];intro hc;obtain⟨j,hj,e⟩:=List.getElem_of_mem (List.contains_iff_mem.1 (show xs.contains x=true from hc));exact hno.out j hj (by have:=hx.out;omega) e),rfl⟩
theorem Zbo(t:XN)(b:Int):t.targets.contains b=true↔(t.kind=1/\t.to=b)\/(t.kind=2/\(t.to=b\/t.els=b)):=by
 unfold XN.targets;by_cases h1:t.kind=1
 ·rw[if_pos h1]
  simp only[h1,true_and,List.contains_iff_mem,List.mem_singleton];constructor
  ·intro h;exact Or.inl h.symm
  ·rintro(h | ⟨h,_⟩)
   ·exact h.symm
   ·omega
 ·rw[if_neg h1]
  by_cases h2:t.kind=2
  ·rw[if_pos h2]
   simp only[h2,true_and,List.contains_iff_mem,List.mem_cons,List.not_mem_nil,or_false];constructor
   ·rintro(h | h)
    ·exact Or.inr (Or.inl h.symm)
    ·exact Or.inr (Or.inr h.symm)
   ·rintro(⟨h,_⟩ | h | h)
    ·omega
    ·exact Or.inl h.symm
    ·exact Or.inr h.symm
  ·rw[if_neg h2]
   simp[h1,h2]
theorem J5(x:Xf)(b:Int):∀(xs:List Xf)(i:Nat),predsFrom (xs++[x]) i b=predsFrom xs i b++(if x.term.targets.contains b then [((i+xs.length:Nat):Int)]else [])
 | [],i=>by simp[predsFrom]
 | y::ys,i=>by
  simp only[List.cons_append,predsFrom];have e:i+1+ys.length=i+(ys.length+1):=by omega
  rw[J5 x b ys (i+1),List.append_assoc,e,List.length_cons]
theorem Zl(b:Int):∀(xs:List Xf)(i:Nat),(predsFrom xs i b).length<=xs.length
 | [],_=>Nat.le_refl _
 | y::ys,i=>by
  simp only[predsFrom,List.length_append,List.length_cons];have:=Zl b ys (i+1);split<;>simp<;>omega
theorem Yv{w:World}{base e:Nat}{v:Value}{n:Nat}{xs:List Int}(h:w.ownsRow base e 1 v n (xs.map (Value.int .i64))):∃a c,v=.slice a xs.length c/\Xh w base w.heap.size a xs:=by
 obtain⟨hl,h | ⟨g,cap,cur,rfl,hg,hh,hc,_,hs,ht⟩⟩:=h
 ·obtain⟨rfl,rfl⟩:=h
  have:xs=[]:=by simpa using hl
  subst this;exact⟨_,_,rfl,fun i hi=>absurd hi (by simp)⟩
 ·simp only[Nat.mul_one,List.length_map]at hl hs ht
  subst hl;refine⟨_,_,rfl,fun i hi=>⟨g,0,rfl,⟨hg,?_⟩,?_⟩⟩
  ·exact(Array.getElem?_eq_some_iff.1 hh).1
  ·have h1:(cur.toList.take xs.length)[i]?=some (Value.int .i64 xs[i]):=by rw[ht];simp[hi]
   rw[List.getElem?_take_of_lt hi]at h1;simp only[World.cell?,hh,Nat.zero_add];simpa using h1
theorem Tryz.info2':(Tryz.prog.info? 2).map (fun i=>(i.zero,i.size,i.bytes))=some (some (.int .i64 0),1,8):=by kernel_rfl
theorem YP{W w':World}{base e s:Nat}{u:Value}{n:Nat}{xs:List Value}(hg:W.grownBy w' u.ownBlock)(ho:W.ownsRow base e s u n xs){b:Nat}(hb:b<base)(hz:b<W.heap.size):w'.heap[b]?=W.heap[b]? :=
 hg.block b hz (fun h=>by have:=(ho.lt b h.symm).1;omega)
theorem XG{w W w':World}{B base e s:Nat}{u:Value}{n:Nat}{xs:List Value}(h:Below B w W)(hg:W.grownBy w' u.ownBlock)(ho:W.ownsRow base e s u n xs)(hb:B<=base)(hz:B<=W.heap.size):Below B w w' :=
 h.grown hg hz (fun k hk=>by have:=(ho.lt k hk).1;omega)
theorem U5(w:World)(o:Obj):((w.alloc o).alloc (.cells #[] 2)).ownsRow (w.heap.size+1) 2 1 (.slice (some ⟨w.heap.size+1,0,none⟩) 0 0) 0 []:=by
 have h:=World.ownsRow_lit (base:=w.heap.size+1) (e:=2) (size:=1) (w.alloc o) #[] 0 (by simp) (by simp) rfl;rw[World.size_alloc]at h;exact h
theorem Z1(xs:List Int)(x:Int):(xs++[x]).map (Value.int .i64)=xs.map (Value.int .i64)++[.int .i64 x]:=by simp
theorem ZX(v:Int)(a:Option Addr)(n c:Nat)(q:Int)(xs:List Xf)(L B:Nat)(w:World)(ha:Hid (X8 w L B a xs))(hx:Hid (n=xs.length))(hn:n<=1048576)(hB:B<=w.heap.size) :
 Calls Tryz.prog 19 #[.agg #[.int .i64 v,.slice a n c],.int .i64 q] w fun e w'=>∃a' c',e=.returned (.slice a' (predsFrom xs 0 q).length c')/\Below w.heap.size w w'/\Xh w' w.heap.size w'.heap.size a' (predsFrom xs 0 q):=by
 obtain⟨i0,hi0,hz0,hz1,hz2⟩:=info_parts Tryz.info2'
 go_enter Tryz.func19,Tryz.ntmps19
 go_wp2
 go_loopw [5,6] (fun u i wr=>∃k:Nat,k<=n/\i=.int .i64 k/\Below w.heap.size w wr/\w.heap.size<wr.heap.size/\wr.cell? ⟨w.heap.size,1,none⟩=some (.slice a n c)/\wr.ownsRow (w.heap.size+1) 2 1 u (predsFrom (xs.take k) 0 q).length ((predsFrom (xs.take k) 0 q).map (Value.int .i64))) (fun _ i _=>n-(intOf i).toNat)
 case atStart=>exact⟨0,Nat.zero_le _,rfl,Xb (Xb (Below.refl _ _) _) _,by simp;omega,by simp,U5 _ _⟩
 case round =>
  obtain⟨k,hk,rfl,hw,hsz,hcell,hown⟩:=hrel;by_cases hlt:k<n
  ·have hkx:k<xs.length:=by have:=hx.out;omega
   obtain⟨b,o,rfl,⟨_,hbB⟩,hc⟩:=ha.out k hkx;obtain⟨pa,pc,ia,ic,_,_,⟨e2,e3,e4,e5⟩,_,_⟩:=hc.keep (hw.mono hB) (by omega);have hnx:Hid (predsFrom (xs.take (k+1)) 0 q=predsFrom (xs.take k) 0 q++(if xs[k].term.targets.contains q then [(k:Int)]else [])):=by
    show _=_;rw[X9 _ _ hkx,J5];simp[Nat.min_eq_left (Nat.le_of_lt hkx)]
   have hpl:(predsFrom (xs.take k) 0 q).length<=1048576:=by have:=Zl q (xs.take k) 0;simp at this;omega
   have HO:=Xa hown;clear hown hc;have hth:=Xa (Zbo xs[k].term q);generalize xs[k]=X at *;by_cases hin:X.term.targets.contains q=true
   ·have HN:Hid (predsFrom (xs.take (k+1)) 0 q=predsFrom (xs.take k) 0 q++[(k:Int)]):=by have:=hnx.out;rw[if_pos hin]at this;exact this
    have hcs:=hth.1 hin;clear hin hnx hth;generalize predsFrom (xs.take k) 0 q=ps at *;have hcs':(X.term.kind=1/\X.term.to=q)\/(X.term.kind=2/\X.term.to=q)\/(X.term.kind=2/\X.term.to≠q/\X.term.els=q):=by omega
    clear hcs;rcases hcs' with⟨d1,d2⟩ | ⟨d1,d2⟩ | ⟨d1,d3,d2⟩
    all_goals
     go_wp2_with (at_builtin;refine wpList_append_own _ rfl _ _ 44 rfl (w.heap.size+1) 2 i0 (.int .i64 0) 1 8 Tryz.underlying44 hi0 hz0 hz1 hz2 rfl (by decide) _ _ _ rfl ((HO.alloc _).alloc _) ⟨wr.heap.size+1,0,none⟩ 1 1 [.int .i64 k] rfl rfl ?c1 ?c2 ?c3 ?c4 ?c5 ?_)
     case c1 =>
      intro j u hj
      match j,hj with
      | 0,hj=>simp at hj;subst hj;simp[Addr.add]
     case c2=>intro u hu;simp at hu;subst hu;rfl
     case c3=>unfold maxLen;omega
     case c4=>omega
     case c5=>simp;omega
     intro v1 w1 hown1 hgrow1 _;have HO1:=Xa hown1;clear hown1;go_wp2;have hb2:Below w.heap.size w w1:=XG (Xb (Xb hw _) _) hgrow1 ((HO.alloc _).alloc _) (by omega) (by simp;omega);have hbk:=YP hgrow1 ((HO.alloc _).alloc _) (b:=w.heap.size) (by omega) (by simp;omega);have hsz1:=hgrow1.size;simp at hsz1;exact⟨⟨k+1,by omega,by go_num,hb2,by omega,(Xc hbk).trans (((Xb (Xb (Below.refl wr.heap.size wr) _) _).cell (p:=⟨w.heap.size,1,none⟩) hsz).trans hcell),by rw[HN.out,Z1];simpa using HO1.out⟩,by simp[intOf];omega⟩
   ·have HN:Hid (predsFrom (xs.take (k+1)) 0 q=predsFrom (xs.take k) 0 q):=by have:=hnx.out;rw[if_neg hin,List.append_nil]at this;exact this
    have hcs:¬((X.term.kind=1/\X.term.to=q)\/(X.term.kind=2/\(X.term.to=q\/X.term.els=q))):=fun h=>hin (hth.2 h)
    clear hin hnx hth;generalize predsFrom (xs.take k) 0 q=ps at *;have hcs':(X.term.kind=1/\(X.term.to==q)=false)\/(X.term.kind=2/\(X.term.to==q)=false/\(X.term.els==q)=false)\/((X.term.kind==1)=false/\(X.term.kind==2)=false):=by
     simp only[beq_eq_false_iff_ne];omega
    clear hcs;rcases hcs' with⟨d1,d2⟩ | ⟨d1,d2,d3⟩ | ⟨d1,d2⟩
    all_goals
     go_wp2;exact⟨⟨k+1,by omega,by go_num,Xb hw _,by simp;omega,((Xb (Below.refl wr.heap.size wr) _).cell (p:=⟨w.heap.size,1,none⟩) hsz).trans hcell,by rw[HN.out];exact HO.alloc _⟩,by simp[intOf];omega⟩
  ·go_wp2
   go_ret
   have e:=List.take_of_length_le (l:=xs) (i:=k) (by have:=hx.out;omega);rw[e]at hown;obtain⟨a1,c1,rfl,hi1⟩:=Yv hown;exact⟨_,_,rfl,hw,hi1.mono (by omega) (Nat.le_refl _)⟩
theorem ZcG(a a':Option Addr)(n c c':Nat)(xs:List Int)(L B L' B':Nat)(w:World)(ha:Hid (Xh w L B a xs))(hb:Hid (Xh w L' B' a' xs))(hx:Hid (n=xs.length))(hn:n<=1048576)(hB:B<=w.heap.size)(hB':B'<=w.heap.size) :
 Calls Tryz.prog 29 #[.slice a n c,.slice a' n c'] w fun e w'=>e=.returned (.bool true)/\Below w.heap.size w w':=by
 go_enter Tryz.func29,Tryz.ntmps29
 go_wp2
 go_loopw [5] (fun i wr=>∃k:Nat,k<=n/\i=.int .i64 k/\Below w.heap.size w wr) (fun i _=>n-(intOf i).toNat)
 case atStart=>exact⟨0,Nat.zero_le _,rfl,Below.refl _ _⟩
 case round =>
  obtain⟨k,hk,rfl,hw⟩:=hrel;by_cases hlt:k<n
  ·have hkx:k<xs.length:=by have:=hx.out;omega
   obtain⟨b,o,rfl,⟨_,hbB⟩,hc⟩:=ha.out k hkx;obtain⟨b',o',rfl,⟨_,hbB'⟩,hc'⟩:=hb.out k hkx;have hk0:(0:Int)<=(k:Int):=by omega
   have hk1:(k:Int)<(n:Int):=by omega
   have e1:=(Zg hw (by omega)).trans hc;have e2:=(Zg hw (by omega)).trans hc';clear hc hc';go_wp2
   go_region
   go_wp2;exact⟨⟨k+1,by omega,by go_num,hw.drew⟩,by simp[intOf];omega⟩
  ·go_wp2
   go_ret
   exact⟨rfl,hw⟩
theorem V0{l:List Nat}{x:Nat}(h:x∈l):x<=l.sum:=by
 induction l with
 | nil=>cases h
 | cons y r ih =>
  rw[List.sum_cons];rcases List.mem_cons.1 h with rfl | h
  ·omega
  ·have:=ih h;omega
theorem ZhB{xs:List Xf}(hs:xs.length+Xn xs<=1048576){X:Xf}(hX:X∈xs):X.phis.length<=1048576/\X.instrs.length<=1048576/\∀p∈X.phis,p.args.length<=1048576:=by
 have h1:YF X<=Xn xs:=by
  unfold Xn;exact V0 (List.mem_map.2 ⟨X,hX,rfl⟩)
 unfold YF at h1;refine⟨by omega,by omega,fun p hp=>?_⟩;have h2:p.args.length<=YC X.phis:=by
  unfold YC;exact V0 (List.mem_map.2 ⟨p,hp,rfl⟩)
 omega
end Go.Proofs.YtkehcdfalcakmaaGreatDoor
namespace Go.Proofs.YtkehcdfalcakmaaGreatDoor
set_option maxHeartbeats 4000000
set_option maxRecDepth 100000
open Go.RowKit
theorem VL(V:Int)(a a':Option Addr)(n c c':Nat)(xs:List Xf)(L B L' B':Nat)(w:World)(ha:Hid (X8 w L B a xs))(hb:Hid (X8 w L' B' a' xs))(hx:Hid (n=xs.length))(hs:Hid (xs.length+Xn xs<=1048576))(hB:B<=w.heap.size)(hB':B'<=w.heap.size) :
 Calls Tryz.prog 9 #[.agg #[.int .i64 V,.slice a n c],.agg #[.int .i64 V,.slice a' n c']] w fun e w'=>e=.returned (.bool true)/\Below w.heap.size w w':=by
 have hn:n<=1048576:=by have:=hs.out;have:=hx.out;omega
 go_enter Tryz.func9,Tryz.ntmps9
 go_wp2;have HW:Hid (Below w.heap.size w ((w.alloc (.cells #[.int .i64 V,.slice a n c] 25)).alloc (.cells #[.int .i64 V,.slice a' n c'] 25))):=Xa (Xb (Xb (Below.refl _ _) _) _);have f1:((w.alloc (.cells #[.int .i64 V,.slice a n c] 25)).alloc (.cells #[.int .i64 V,.slice a' n c'] 25)).cell? ⟨w.heap.size,1,none⟩=some (.slice a n c):=by simp[go_sem]
 have g1:((w.alloc (.cells #[.int .i64 V,.slice a n c] 25)).alloc (.cells #[.int .i64 V,.slice a' n c'] 25)).cell? ⟨w.heap.size+1,1,none⟩=some (.slice a' n c'):=by simp[go_sem]
 have hz:w.heap.size+1<((w.alloc (.cells #[.int .i64 V,.slice a n c] 25)).alloc (.cells #[.int .i64 V,.slice a' n c'] 25)).heap.size:=by simp
 generalize (w.alloc (.cells #[.int .i64 V,.slice a n c] 25)).alloc (.cells #[.int .i64 V,.slice a' n c'] 25)=w2 at *
 go_loopw [5] (fun i wr=>∃k:Nat,k<=n/\i=.int .i64 k/\Hid (Below w2.heap.size w2 wr)) (fun i _=>n-(intOf i).toNat)
 case atStart=>exact⟨0,Nat.zero_le _,rfl,Xa (Below.refl _ _)⟩
 case round =>
  obtain⟨k,hk,rfl,HR⟩:=hrel;have fr:=(Zg HR.out (by omega)).trans f1;have gr:=(Zg HR.out (by omega)).trans g1;clear f1 g1;by_cases hlt:k<n
  ·have hkx:k<xs.length:=by have:=hx.out;omega
   have HWR:=Xa (Xi HW.out HR.out);obtain⟨b,o,rfl,⟨hbL,hbB⟩,hc⟩:=ha.keep (HWR.mono hB) k hkx;obtain⟨b',o',rfl,⟨hbL',hbB'⟩,hc'⟩:=hb.keep (HWR.mono hB') k hkx;have hk0:(0:Int)<=(k:Int):=by omega
   have hk1:(k:Int)<(n:Int):=by omega
   have HL:=Xa (ZhB hs.out (List.getElem_mem hkx));generalize xs[k]=X at *;obtain⟨pa,pc,ia,ic,e0,e1,⟨e2,e3,e4,e5⟩,hph,hin⟩:=hc;obtain⟨pa',pc',ia',ic',d0,d1,⟨d2,d3,d4,d5⟩,hph',hin'⟩:=hc';have HP:=Xa hph;have HI:=Xa hin;have HP':=Xa hph';have HI':=Xa hin';have hpl:=HL.1;have hil:=HL.2.1;have hzr:w.heap.size+1<wr.heap.size:=Nat.lt_of_lt_of_le hz HR.size;have hbr:b<wr.heap.size:=by omega
   have hbr':b' < wr.heap.size:=by omega
   clear hph hin hph' hin';go_wp2;have HQ:Hid (Below wr.heap.size wr ((wr.alloc (.cells #[.slice pa X.phis.length pc,.slice ia X.instrs.length ic,.int .i64 X.term.kind,.int .i64 X.term.a,.int .i64 X.term.to,.int .i64 X.term.els] 43)).alloc (.cells #[.slice pa' X.phis.length pc',.slice ia' X.instrs.length ic',.int .i64 X.term.kind,.int .i64 X.term.a,.int .i64 X.term.to,.int .i64 X.term.els] 43))):=Xa (Xb (Xb (Below.refl _ _) _) _);have x0:((wr.alloc (.cells #[.slice pa X.phis.length pc,.slice ia X.instrs.length ic,.int .i64 X.term.kind,.int .i64 X.term.a,.int .i64 X.term.to,.int .i64 X.term.els] 43)).alloc (.cells #[.slice pa' X.phis.length pc',.slice ia' X.instrs.length ic',.int .i64 X.term.kind,.int .i64 X.term.a,.int .i64 X.term.to,.int .i64 X.term.els] 43)).cell? ⟨wr.heap.size,0,none⟩=some (.slice pa X.phis.length pc):=by simp[go_sem]
   have x1:((wr.alloc (.cells #[.slice pa X.phis.length pc,.slice ia X.instrs.length ic,.int .i64 X.term.kind,.int .i64 X.term.a,.int .i64 X.term.to,.int .i64 X.term.els] 43)).alloc (.cells #[.slice pa' X.phis.length pc',.slice ia' X.instrs.length ic',.int .i64 X.term.kind,.int .i64 X.term.a,.int .i64 X.term.to,.int .i64 X.term.els] 43)).cell? ⟨wr.heap.size,1,none⟩=some (.slice ia X.instrs.length ic):=by simp[go_sem]
   have y0:((wr.alloc (.cells #[.slice pa X.phis.length pc,.slice ia X.instrs.length ic,.int .i64 X.term.kind,.int .i64 X.term.a,.int .i64 X.term.to,.int .i64 X.term.els] 43)).alloc (.cells #[.slice pa' X.phis.length pc',.slice ia' X.instrs.length ic',.int .i64 X.term.kind,.int .i64 X.term.a,.int .i64 X.term.to,.int .i64 X.term.els] 43)).cell? ⟨wr.heap.size+1,0,none⟩=some (.slice pa' X.phis.length pc'):=by simp[go_sem]
   have y1:((wr.alloc (.cells #[.slice pa X.phis.length pc,.slice ia X.instrs.length ic,.int .i64 X.term.kind,.int .i64 X.term.a,.int .i64 X.term.to,.int .i64 X.term.els] 43)).alloc (.cells #[.slice pa' X.phis.length pc',.slice ia' X.instrs.length ic',.int .i64 X.term.kind,.int .i64 X.term.a,.int .i64 X.term.to,.int .i64 X.term.els] 43)).cell? ⟨wr.heap.size+1,1,none⟩=some (.slice ia' X.instrs.length ic'):=by simp[go_sem]
   have hzx:wr.heap.size+1<((wr.alloc (.cells #[.slice pa X.phis.length pc,.slice ia X.instrs.length ic,.int .i64 X.term.kind,.int .i64 X.term.a,.int .i64 X.term.to,.int .i64 X.term.els] 43)).alloc (.cells #[.slice pa' X.phis.length pc',.slice ia' X.instrs.length ic',.int .i64 X.term.kind,.int .i64 X.term.a,.int .i64 X.term.to,.int .i64 X.term.els] 43)).heap.size:=by simp
   generalize (wr.alloc (.cells #[.slice pa X.phis.length pc,.slice ia X.instrs.length ic,.int .i64 X.term.kind,.int .i64 X.term.a,.int .i64 X.term.to,.int .i64 X.term.els] 43)).alloc (.cells #[.slice pa' X.phis.length pc',.slice ia' X.instrs.length ic',.int .i64 X.term.kind,.int .i64 X.term.a,.int .i64 X.term.to,.int .i64 X.term.els] 43)=wx at *;clear e0 e1 e2 e3 e4 e5 d0 d1 d2 d3 d4 d5 fr gr;have HPX:=Xa (HP.keep (HQ.mono (show B<=wr.heap.size by omega)));have HPX':=Xa (HP'.keep (HQ.mono (show B'<=wr.heap.size by omega)));have HIX:=Xa (HI.keep (HQ.mono (show B<=wr.heap.size by omega)));have HIX':=Xa (HI'.keep (HQ.mono (show B'<=wr.heap.size by omega)));have HBX:Hid (B<=wx.heap.size/\B'<=wx.heap.size):=Xa ⟨by omega,by omega⟩;have HRX:=Xa (Xi HR.out HQ.out);clear HP HP' HI HI' HWR HQ;generalize wr.heap.size=rx at *;generalize wr=wo at *
   go_loopw [8] (fun i wr=>∃j:Nat,j<=X.phis.length/\i=.int .i64 j/\Hid (Below wx.heap.size wx wr)) (fun i _=>X.phis.length-(intOf i).toNat)
   case atStart=>exact⟨0,Nat.zero_le _,rfl,Xa (Below.refl _ _)⟩
   case round =>
    obtain⟨j,hj,rfl,HJ⟩:=hrel;have x0':=(Zg HJ.out (by omega)).trans x0;have y0':=(Zg HJ.out (by omega)).trans y0;by_cases hjl:j<X.phis.length
    ·obtain⟨p,q,rfl,⟨_,hpB⟩,hcp⟩:=HPX.keep (HJ.mono HBX.1) j hjl
     obtain⟨p',q',rfl,⟨_,hpB'⟩,hcp'⟩:=HPX'.keep (HJ.mono HBX.2) j hjl;have hal:=HL.2.2 _ (List.getElem_mem hjl);generalize X.phis[j]=Y at *;obtain⟨aa,ac,h0,h1,hia⟩:=hcp;obtain⟨aa',ac',h0',h1',hia'⟩:=hcp';have HA:=Xa (hia.keep ((Below.refl B wr).drew));have HA':=Xa (hia'.keep ((Below.refl B' wr).drew));have hBr:B<=wr.heap.size:=Nat.le_trans HBX.1 HJ.size;have hBr':B'<=wr.heap.size:=Nat.le_trans HBX.2 HJ.size;have hj0:(0:Int)<=(j:Int):=by omega
     have hj1:(j:Int)<(X.phis.length:Int):=by omega
     clear hia hia' x0 x1 y0 y1;generalize X.phis.length=pl at *;go_wp2;refine YZ (fun w'=>w'.cell? ⟨rx,0,none⟩=some (.slice (some ⟨p,q,none⟩) pl pc)/\w'.cell? ⟨rx+1,0,none⟩=some (.slice (some ⟨p',q',none⟩) pl pc')/\w'.cell? ⟨p,q+j*2,none⟩=some (.int .i64 Y.dst)/\w'.cell? ⟨p',q' + j*2,none⟩=some (.int .i64 Y.dst)/\w'.cell? ⟨p,q+j*2+1,none⟩=some (.slice aa Y.args.length ac)/\w'.cell? ⟨p',q' + j*2+1,none⟩=some (.slice aa' Y.args.length ac')) (fun hHeld=>?_);refine Xl 0 ?_;refine Xl 1 ?_;refine Xl 2 ?_;refine Xl 3 ?_;refine Xl 4 ?_;refine Xl 5 ?_;refine Xl 6 ?_;refine Xl 7 ?_;refine Xl 8 ?_;refine Xl 9 ?_;refine Xl 10 ?_;refine Xl 11 ?_;refine Xl 12 ?_;refine Xl 13 ?_;refine Xl 14 ?_;refine Xl 15 ?_;refine Xl 16 ?_;refine Xl 17 ?_;refine Xl 18 ?_;refine Xl 19 ?_;refine Xl 20 ?_;refine Xl 21 ?_;refine Xl 22 ?_;refine Xl 23 ?_;refine Xl 24 ?_;refine Xl 25 ?_;refine Xw 26 (fun K hK=>?_);go_simp
     go_at_call 29
     refine(ZcG aa aa' _ ac ac' Y.args L B L' B' _ HA HA' (Xa rfl) hal hBr hBr').mono ?_;rintro e w1 ⟨rfl,hb1⟩;have hzj:rx+1<wr.heap.size:=Nat.lt_of_lt_of_le hzx HJ.size;obtain⟨s0,s1,s2,s3,s4,s5⟩:=hHeld;have c1:=fun (b o:Nat)(h:b<wr.heap.size)=>hb1.cell (p:=⟨b,o,none⟩) h
     have HN:=Xa (HJ.trans ((Below.drew (Below.refl wr.heap.size wr)).trans hb1 |>.mono HJ.size));dsimp only;refine hK _ _ ⟨(c1 _ _ (by omega)).trans s0,(c1 _ _ (by omega)).trans s1,(c1 _ _ (by omega)).trans s2,(c1 _ _ (by omega)).trans s3,(c1 _ _ (by omega)).trans s4,(c1 _ _ (by omega)).trans s5⟩ (fun hHeld=>?_);clear hK s0 s1 s2 s3 s4 s5 c1 hb1
     try simp only[Act.put,xA,xB,xC,xD,xE,xF]
     refine Xl 27 ?_;refine Xl 28 ?_;refine Y7 ?_;clear hHeld;go_wp2;exact⟨⟨j+1,by omega,by go_num,HN⟩,by simp[intOf];omega⟩
    ·clear x0 y0
     have x1':=(Zg HJ.out (by omega)).trans x1;have y1':=(Zg HJ.out (by omega)).trans y1;have HIJ:=Xa (HIX.keep (HJ.mono HBX.1));have HIJ':=Xa (HIX'.keep (HJ.mono HBX.2));have HBJ:Hid (B<=wr.heap.size/\B'<=wr.heap.size):=Xa ⟨Nat.le_trans HBX.1 HJ.size,Nat.le_trans HBX.2 HJ.size⟩;have hzj:rx+1<wr.heap.size:=Nat.lt_of_lt_of_le hzx HJ.size;have HRJ:=Xa (Xi HRX.out HJ.out);have hjp:=hjl;clear x1 y1 HIX HIX' HPX HPX' HBX hzx HJ;go_wp2;clear x0' y0' hjp hjl;generalize wr=wy at *
     go_loopw [9] (fun i wr=>∃j:Nat,j<=X.instrs.length/\i=.int .i64 j/\Hid (Below wy.heap.size wy wr)) (fun i _=>X.instrs.length-(intOf i).toNat)
     case atStart=>exact⟨0,Nat.zero_le _,rfl,Xa (Below.refl _ _)⟩
     case round =>
      obtain⟨i,hi,rfl,HJ⟩:=hrel;have x2:=(Zg HJ.out (by omega)).trans x1';have y2:=(Zg HJ.out (by omega)).trans y1';by_cases hil2:i<X.instrs.length
      ·obtain⟨p,q,rfl,⟨_,hpB⟩,hcp⟩:=HIJ.keep (HJ.mono HBJ.1) i hil2
       obtain⟨p',q',rfl,⟨_,hpB'⟩,hcp'⟩:=HIJ'.keep (HJ.mono HBJ.2) i hil2;generalize X.instrs[i]=Y at *;obtain⟨h0,h1,h2,h3,h4⟩:=hcp;obtain⟨k0,k1,k2,k3,k4⟩:=hcp';have hj0:(0:Int)<=(i:Int):=by omega
       have hj1:(i:Int)<(X.instrs.length:Int):=by omega
       generalize X.instrs.length=pl at *;clear x1' y1';go_wp2;refine YZ (fun w'=>w'.cell? ⟨rx,1,none⟩=some (.slice (some ⟨p,q,none⟩) pl ic)/\w'.cell? ⟨rx+1,1,none⟩=some (.slice (some ⟨p',q',none⟩) pl ic')/\w'.cell? ⟨p,q+i*5,none⟩=some (.int .i64 Y.op)/\w'.cell? ⟨p,q+i*5+1,none⟩=some (.int .i64 Y.dst)/\w'.cell? ⟨p,q+i*5+2,none⟩=some (.int .i64 Y.a)/\w'.cell? ⟨p,q+i*5+3,none⟩=some (.int .i64 Y.b)/\w'.cell? ⟨p,q+i*5+4,none⟩=some (.int .i64 Y.imm)/\w'.cell? ⟨p',q' + i*5,none⟩=some (.int .i64 Y.op)/\w'.cell? ⟨p',q' + i*5+1,none⟩=some (.int .i64 Y.dst)/\w'.cell? ⟨p',q' + i*5+2,none⟩=some (.int .i64 Y.a)/\w'.cell? ⟨p',q' + i*5+3,none⟩=some (.int .i64 Y.b)/\w'.cell? ⟨p',q' + i*5+4,none⟩=some (.int .i64 Y.imm)) (fun hHeld=>?_);refine Xl 0 ?_;refine Xl 1 ?_;refine Xl 2 ?_;refine Xl 3 ?_;refine Xl 4 ?_;refine Xl 5 ?_;refine Xl 6 ?_;refine Xl 7 ?_;refine Xl 8 ?_;refine Xl 9 ?_;refine Xl 10 ?_;refine Y7 ?_;clear hHeld;go_wp2;exact⟨⟨i+1,by omega,by go_num,Xa HJ.drew⟩,by simp[intOf];omega⟩
      ·go_wp2
       exact⟨⟨k+1,by omega,by go_num,Xa (HRJ.trans (HJ.mono HRJ.size))⟩,by simp[intOf];omega⟩
  ·go_wp2
   go_ret
   exact⟨rfl,Xi HW.out HR.out⟩
end Go.Proofs.YtkehcdfalcakmaaGreatDoor
