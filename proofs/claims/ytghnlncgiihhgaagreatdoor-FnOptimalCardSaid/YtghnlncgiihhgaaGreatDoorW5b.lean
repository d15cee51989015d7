import Derived.Test.YtghnlncgiihhgaaGreatDoorSLR
import Derived.Test.YtghnlncgiihhgaaGreatDoorDG6
namespace Go.Proofs.YtghnlncgiihhgaaGreatDoor
set_option maxHeartbeats 8000000
set_option maxRecDepth 100000
open Go.RowKit Go.Proofs.Tryz
variable{E:Array Value}{l:List Int}{s:List Nat}{y Y:List Value}{x:List Xe}{n m k B g i j c:Nat}{a A:Value}{w:World}
theorem Ur(a f d b h n c:Int)(w:World) :
 Calls prog 44 #[.agg #[.int .i64 a,.int .i64 f,.int .i64 d,.int .i64 b,.int .i64 h],.int .i64 n,.int .i64 c] w fun e k=>e=.returned (.bool (Yw n c ⟨a,f,d,b,h⟩))/\Below w.heap.size w k:=by
 by_cases j:1<=a/\a<=c
 ·obtain⟨g,l⟩:=j
  go_in
  go_wp2_with fail
  refine(dg _ _).mono ?_;rintro e i ⟨rfl,rfl⟩
  go_wp2_with fail
  refine(fy _ _).mono ?_;rintro e i ⟨rfl,rfl⟩
  go_wp2_with fail
  refine(j5 _ _).mono ?_;rintro e i ⟨rfl,rfl⟩;go_wp2
  all_goals
   go_ret
   refine⟨Xl ?_,Xb (Below.refl _ _) _⟩
   first | (simp[Yw,Tp,Wu, *];done) | (simp[Yw,Tp,Wu, *];omega) | (rw[eQ];simp[Yw,Tp,Wu, *];omega)
 ·go_in
  go_wp2
  all_goals
   go_ret
   refine⟨Xl ?_,Xb (Below.refl _ _) _⟩;symm;unfold Yw;by_cases g:1<=a
   ·rw[dJ (p:=a<=c) oM];simp
   ·rw[dJ (p:=1<=a) g];simp
section
attribute [local go_sem ↓] Go.wp_at_zero Go.wp_at_succ
def KV(v:Int)(n:Nat)(x:Xe):Bool:=x.is.all (Yw v 10)&&Jf v n x.te
theorem zW(F:Fn):(Z0 F&&J2 F)=F.blocks.all (KV F.values F.blocks.length):=by
 rw[show F.blocks.all (KV F.values F.blocks.length)=F.blocks.all (fun x=>x.is.all (Yw F.values 10)&&Jf F.values F.blocks.length x.te) from rfl,qb];rfl
theorem sc(v:Int)(b:Option Addr)(n e:Nat)(a:List Xe)(L B:Nat)(w:World)(ha:Hid (Xp w L B b a))(q:Hid (n=a.length))(p:n<=1048576)(m:Hid (Xo a<=1048576))(k:B<=w.heap.size)
 (j:Hid (¬(0<=v/\v<=2000/\1<=n/\n<=1000/\Xo a<=4000))) :
 Calls prog 19 #[.agg #[.int .i64 v,.slice b n e]] w fun g r=>g=.returned (.bool false)/\Below w.heap.size w r:=by
 by_cases h:0<=v/\v<=2000/\1<=n/\n<=1000
 ·obtain⟨s,c,f,i⟩:=h
  have t:4000<Xo a:=oN j.out
  go_in
  go_wp2_with fail
  refine(ll v b n e a L B _ ?q1 q p m ?q2).mono ?_
  case q1=>exact ha.keep (Xb (Below.refl _ _) _ |>.mono k)
  case q2=>simp;omega
  rintro g u ⟨rfl,l⟩;go_wp2
  go_ret
  exact⟨rfl,Xg (Xb (Below.refl _ _) _) l⟩
 ·have o:v<0\/(0<=v/\2000<v)\/(0<=v/\v<=2000/\n<1)\/(0<=v/\v<=2000/\1<=n/\1000<n):=oM
  clear h;rcases o with d | ⟨d,c⟩ | ⟨d,c,f⟩ | ⟨d,c,f,i⟩
  all_goals
   go_in
   go_wp2
   go_ret
   exact⟨rfl,Xb (Below.refl _ _) _⟩
end
section
attribute [local go_sem ↓] Go.wp_at_zero Go.wp_at_succ
theorem rH(m:Nat)(aj:Option Addr)(n N:Nat)(a:List Xe)(af M:Nat)(w:World)(a8:Bool)(ha:Hid (Xp w af M aj a))(v:Hid (n=a.length))(hs:Hid (a.length+Xx a<=1048576))(hB:M<=w.heap.size)
 (d1:(m:Int)<=2000) (d2:1<=n) (d3:n<=1000) (cs:Xo a<=4000) (o:Hid (a8=(a.all (KV m n)&&Ug ⟨m,a⟩ && Ui ⟨m,a⟩))) :
 Calls prog 19 #[.agg #[.int .i64 m,.slice aj n N]] w fun g w'=>g=.returned (.bool a8)/\Below w.heap.size w w':=by
 have b5:Hid (Xo a<=1048576):=by show _<=_;omega
 have bl:=Xa (lc hs)
 go_in
 go_wp2_with fail
 refine(ll m aj n N a af M _ ?q1 v oM b5 ?q2).mono ?_
 case q1=>exact ha.keep (Xb (Below.refl _ _) _ |>.mono hB)
 case q2=>simp;omega
 rintro g C ⟨rfl,ap⟩;obtain⟨a3,b7⟩:=bcell ap;have p:C.cell? ⟨w.heap.size,0,none⟩=some (.int .i64 m):=by rw[a3 _ _ sP];simp
 have H:C.cell? ⟨w.heap.size,1,none⟩=some (.slice aj n N):=by rw[a3 _ _ sP];simp
 have B1:=Xg (Xb (Below.refl w.heap.size w) _) ap;have cd:=ap.size;simp at cd;have l:=Xa B1;have HA:=Xa (ha.keep (B1.mono hB));clear a3 b7 ap B1 ha;go_wp2
 go_loopw [4] (fun i wr=>∃k:Nat,k<=n/\i=.int .i64 k/\Below C.heap.size C wr/\Hid ((a.take k).all (KV m n)=true)) (fun i _=>n-(intOf i).toNat)
 case atStart=>exact⟨0,aN _,rfl,Below.refl _ _,rfl⟩
 case round =>
  obtain⟨k,hk,rfl,d,F⟩:=hrel;by_cases bm:k<n
  ·have u:k<a.length:=oN v.out
   obtain⟨b,ce,rfl,⟨_,b3⟩,hc⟩:=HA k u;obtain⟨y,z,r,s,O,f1,⟨f2,f3,f4,f5⟩,_,W⟩:=hc;have e0:=(XU d oM).trans O;have e1:=(XU d oM).trans f1;have e2:=(XU d oM).trans f2;have e3:=(XU d oM).trans f3;have e4:=(XU d oM).trans f4;have e5:=(XU d oM).trans f5;have ar:=(XU d oM).trans p;have ax:=(XU d oM).trans H;have ch:=(bl _ (aH u)).2.1;have Z:=Xa (fun h=>JN (p:=KV m n) (xs:=a) (k:=k) u h);have a5:=Xa (fun h=>XY (p:=KV m n) u F h);have HI:=Xa W;have ca:=d.size;clear W O f1 f2 f3 f4 f5;generalize a[k]=X at *;have al:Hid (KV m n X=(X.is.all (Yw m 10)&&(Zu m 1 n ⟨X.te.kind,X.te.a,X.te.to,X.te.els⟩ && !(X.te.kind==2&&X.te.to==X.te.els)))):=rfl;go_wp2;have c:=Xb d (.cells #[.slice y X.ps.length z,.slice r X.is.length s,.int .i64 X.te.kind,.int .i64 X.te.a,.int .i64 X.te.to,.int .i64 X.te.els] 90);have m1:(wr.alloc (.cells #[.slice y X.ps.length z,.slice r X.is.length s,.int .i64 X.te.kind,.int .i64 X.te.a,.int .i64 X.te.to,.int .i64 X.te.els] 90)).cell? ⟨wr.heap.size,1,none⟩=some (.slice r X.is.length s):=sP;have m2:(wr.alloc (.cells #[.slice y X.ps.length z,.slice r X.is.length s,.int .i64 X.te.kind,.int .i64 X.te.a,.int .i64 X.te.to,.int .i64 X.te.els] 90)).cell? ⟨wr.heap.size,2,none⟩=some (.int .i64 X.te.kind):=sP;have m3:(wr.alloc (.cells #[.slice y X.ps.length z,.slice r X.is.length s,.int .i64 X.te.kind,.int .i64 X.te.a,.int .i64 X.te.to,.int .i64 X.te.els] 90)).cell? ⟨wr.heap.size,3,none⟩=some (.int .i64 X.te.a):=sP;have m4:(wr.alloc (.cells #[.slice y X.ps.length z,.slice r X.is.length s,.int .i64 X.te.kind,.int .i64 X.te.a,.int .i64 X.te.to,.int .i64 X.te.els] 90)).cell? ⟨wr.heap.size,4,none⟩=some (.int .i64 X.te.to):=sP;have m5:(wr.alloc (.cells #[.slice y X.ps.length z,.slice r X.is.length s,.int .i64 X.te.kind,.int .i64 X.te.a,.int .i64 X.te.to,.int .i64 X.te.els] 90)).cell? ⟨wr.heap.size,5,none⟩=some (.int .i64 X.te.els):=sP;have cv:wr.heap.size<(wr.alloc (.cells #[.slice y X.ps.length z,.slice r X.is.length s,.int .i64 X.te.kind,.int .i64 X.te.a,.int .i64 X.te.to,.int .i64 X.te.els] 90)).heap.size:=sP;generalize wr.alloc _=W2 at *;have br:=Xa c;have cw:=c.size;generalize wr.heap.size=bs at *;clear c e0 e1 e2 e3 e4 e5 ar ax d
   go_loopw [6] (fun i wi=>∃j:Nat,j<=X.is.length/\i=.int .i64 j/\Below W2.heap.size W2 wi/\Hid ((X.is.take j).all (Yw m 10)=true)) (fun i _=>X.is.length-(intOf i).toNat)
   case atStart=>exact⟨0,aN _,rfl,Below.refl _ _,rfl⟩
   case round =>
    obtain⟨j,Y,rfl,e,T⟩:=hrel;have J:=Xg br e;have r0:=(XU J oM).trans p;have n1:=(XU e oM).trans m1;have b9:=e.size;by_cases t:j<X.is.length
    ·obtain⟨b',o',rfl,⟨_,b4⟩,bc⟩:=HI j t
     obtain⟨g0,g1,g2,g3,g4⟩:=bc.keep J oM;have K:=Xa (fun h=>JN (p:=Yw m 10) (xs:=X.is) (k:=j) t h);have a6:=Xa (fun h=>XY (p:=Yw m 10) t T h);have ci:(0:Int)<=(j:Int):=oM;have cj:(j:Int)<(X.is.length:Int):=oM;clear bc m1 m2 m3 m4 m5 p H;generalize X.is[j]=P at *;cases hr:Yw m 10 ⟨P.op,P.dst,P.a,P.b,P.imm⟩
     ·have f:=Xa hr
      go_wp2
      go_region_with (go_at_call 44;refine(Ur _ _ _ _ _ _ _ _).mono ?_;rintro g L ⟨rfl,c⟩;rw[Xw f])
      all_goals
       go_wp2
       go_ret
       exact⟨Xl (by rw[o.out,Xw Z (by rw[al.out,Xw K f.out];rfl)];rfl),Xg l (Xg J.drew c)⟩
     ·have f:=Xa hr
      go_wp2
      go_region_with (go_at_call 44;refine(Ur _ _ _ _ _ _ _ _).mono ?_;rintro g L ⟨rfl,c⟩;rw[Xw f])
      all_goals
       go_wp2;exact⟨⟨j+1,oM,gM,Xg e.drew c,Xw a6 f⟩,by simp[intOf];omega⟩
    ·have b0:=Xa (YE (p:=Yw m 10) (xs:=X.is) (k:=j) oM T)
     have n2:=(XU e oM).trans m2;have n3:=(XU e oM).trans m3;have n4:=(XU e oM).trans m4;have n5:=(XU e oM).trans m5;clear m1 m2 m3 m4 m5 p H;cases hr:Zu m 1 n ⟨X.te.kind,X.te.a,X.te.to,X.te.els⟩
     ·have f:=Xa hr
      clear hr
      go_wp2_with (go_at_call 45;refine(KS _ _ _ _ _ _ _ _).mono ?_;rintro g L ⟨rfl,c⟩;rw[Xw f])
      go_ret
      exact⟨Xl (by rw[o.out,Xw Z (by rw[al.out,f.out];simp)];rfl),Xg l (Xg J c)⟩
     ·have f:=Xa hr
      clear hr;by_cases hq:X.te.kind=2/\X.te.to=X.te.els
      ·have q1:(X.te.kind==2)=true:=by simp[hq.1]
       have q2:(X.te.to==X.te.els)=true:=by simp[hq.2]
       clear hq
       go_wp2_with (go_at_call 45;refine(KS _ _ _ _ _ _ _ _).mono ?_;rintro g L ⟨rfl,c⟩;rw[Xw f];have p2:=oB c n2 oM;have p4:=oB c n4 oM;have p5:=(XU c oM).trans n5)
       go_ret
       exact⟨Xl (by rw[o.out,Xw Z (by rw[al.out,q1,q2];simp)];rfl),Xg l (Xg J c)⟩
      ·have b8:(X.te.kind==2)=false\/((X.te.kind==2)=true/\(X.te.to==X.te.els)=false):=by simp only[iS,iA];omega
       clear hq;rcases b8 with q1 | ⟨q1,q2⟩
       all_goals
        go_wp2_with (go_at_call 45;refine(KS _ _ _ _ _ _ _ _).mono ?_;rintro g L ⟨rfl,c⟩;rw[Xw f];have p2:=oB c n2 oM;have p4:=oB c n4 oM;have p5:=(XU c oM).trans n5)
        exact⟨⟨k+1,oM,gM,Xg J c,Xw a5 (by rw[al.out,f.out,b0.out];first | (rw[q1];rfl) | (rw[q1,q2];rfl))⟩,by simp[intOf];omega⟩
  ·have bz:=Xa (YE (p:=KV m n) (xs:=a) (k:=k) (oN v.out) F)
   clear F;go_wp2
   go_loopw [7] (fun i wr=>∃k:Nat,k<=n/\i=.int .i64 k/\Below C.heap.size C wr/\Hid (∀j (h:j<a.length),j<k->a[j].ps.all (Jt m (predsFrom a 0 (j:Int)).length)=true)) (fun i _=>n-(intOf i).toNat)
   case atStart=>exact⟨0,aN _,rfl,d,fun j _ h=>absurd h oM⟩
   case round =>
    clear d bm hk;obtain⟨k,hk,rfl,d,F⟩:=hrel;have ar:=(XU d oM).trans p;have ax:=(XU d oM).trans H;have ca:=d.size;by_cases bm:k<n
    ·have u:k<a.length:=oN v.out
     obtain⟨b,ce,rfl,⟨_,b3⟩,hc⟩:=HA k u;obtain⟨y,z,r,s,O,_,_,hp,_⟩:=hc;obtain⟨cl,_,bi⟩:=bl _ (aH u);have bq:=Xa bi;have Z:Hid (a[k].ps.all (Jt m (predsFrom a 0 (k:Int)).length)=false->Ug ⟨m,a⟩=false):=fun h=>Wg Jt ⟨m,a⟩ (k:=k) u h
     have a5:Hid (a[k].ps.all (Jt m (predsFrom a 0 (k:Int)).length)=true->∀j (h:j<a.length),j<k+1->a[j].ps.all (Jt m (predsFrom a 0 (j:Int)).length)=true) :=
      fun h j Y ck=>if g:j=k then by subst g;exact h else F j Y oM
     have HP:=Xa hp;have D0:=Xa O;have R:=Xa (HA.keep (d.mono oM));have cp:(predsFrom a 0 (k:Int)).length<=1048576:=oP (YO (k:Int) a 0) v.out
     clear hp O bi
     go_wp2_with fail
     refine(ZE m _ n N k a af M _ R v oM oM).mono ?_;rintro g L ⟨a2,c2,rfl,c,aq⟩;have G:=Xg d c;have b6:=G.size;clear aq c d ar ax R;generalize a[k]=X at *;generalize predsFrom a 0 (k:Int)=B at *;go_wp2
     go_loopw [9] (fun i wi=>∃j:Nat,j<=X.ps.length/\i=.int .i64 j/\Below C.heap.size C wi/\Hid ((X.ps.take j).all (Jt m B.length)=true)) (fun i _=>X.ps.length-(intOf i).toNat)
     case atStart=>exact⟨0,aN _,rfl,G,rfl⟩
     case round =>
      clear G b6;obtain⟨j,Y,rfl,e,T⟩:=hrel;have x0:=(XU e oM).trans p;have x1:=(XU e oM).trans H;have x2:=(XU e oM).trans D0;have b9:=e.size;by_cases t:j<X.ps.length
      ·obtain⟨b',o',rfl,⟨_,b4⟩,aa,cc,g0,g1,W⟩:=HP j t
       have e6:=(XU e oM).trans g0;have e7:=(XU e oM).trans g1;have cf:=bq _ (aH t);have K:=Xa (fun h=>Xw Z (JN (p:=Jt m B.length) (xs:=X.ps) (k:=j) t h));have a6:=Xa (fun h=>XY (p:=Jt m B.length) t T h);have bp:=Xa W;have ct:w.heap.size<wr.heap.size:=oM;clear g0 g1 W;generalize X.ps[j]=P at *;have S:Hid (Jt m B.length P=(decide (1<=P.args.length)&&decide (P.args.length=B.length)&&P.args.all (To 0 m))):=rfl;by_cases Q:P.args.length=0
       ·have a9:(P.args.length:Int)<1:=oM
        have H0:=Xa Q;clear Q;go_wp2
        go_ret
        exact⟨Xl (by rw[o.out,Xw K (by rw[S.out,H0.out];rfl)];simp),Xg l (Xb e _)⟩
       ·have a9:(1:Int)<=(P.args.length:Int):=oM
        have H0:=Xa Q;clear Q;by_cases E:P.args.length=B.length
        ·have ba:((P.args.length:Int) != (B.length:Int))=false:=by simp[E]
         have H1:=Xa E;clear E;go_wp2;have a1:=Xb e (.cells #[.int .i64 P.dst,.slice aa P.args.length cc] 96);have z1:(wr.alloc (.cells #[.int .i64 P.dst,.slice aa P.args.length cc] 96)).cell? ⟨wr.heap.size,1,none⟩=some (.slice aa P.args.length cc):=sP;have z2:wr.heap.size<(wr.alloc (.cells #[.int .i64 P.dst,.slice aa P.args.length cc] 96)).heap.size:=sP;generalize wr.alloc _=w9 at *;generalize wr.heap.size=bs at *;have cx:=a1.size;have bo:=Xa a1;clear x0 x1 x2 e6 e7 a9 ba a1
         go_loopw [11] (fun i wi=>∃q:Nat,q<=P.args.length/\i=.int .i64 q/\Below w9.heap.size w9 wi/\Hid ((P.args.take q).all (To 0 m)=true)) (fun i _=>P.args.length-(intOf i).toNat)
         case atStart=>exact⟨0,aN _,rfl,Below.refl _ _,rfl⟩
         case round =>
          obtain⟨q,hq,rfl,a4,U⟩:=hrel;have y1:=(XU a4 oM).trans z1;have V:=Xg bo a4;have y0:=(XU V oM).trans p;by_cases ab:q<P.args.length
          ·obtain⟨b2,o2,rfl,⟨_,c⟩,bd⟩:=bp q ab
           have r1:=(XU V oM).trans bd;have bn:=Xa (fun h=>JN (p:=To 0 m) (xs:=P.args) (k:=q) ab h);have cb:=Xa (fun h=>XY (p:=To 0 m) ab U h);have cq:(0:Int)<=(q:Int):=oM;have cr:(q:Int)<(P.args.length:Int):=oM;clear bd z1 p H;generalize P.args[q]=A at *;by_cases az:A<0
           ·have bt:decide (A<0)=true:=by simpa using az
            go_wp2
            go_quiet (fail)
            go_wp2
            go_ret
            exact⟨Xl (by rw[o.out,Xw K (by rw[S.out,Xw bn (by unfold To;rw[dJ (p:=0<=A) oM];rfl)];simp)];simp),Xg l (iX V _)⟩
           ·have bt:decide (A<0)=false:=by simpa using az
            have bv:0<=A:=oM;clear az;by_cases bw:(m:Int)<=A
            ·go_wp2
             go_quiet (fail)
             go_wp2
             go_ret
             exact⟨Xl (by rw[o.out,Xw K (by rw[S.out,Xw bn (by unfold To;rw[dJ (p:=A<m) oM];simp)];simp)];simp),Xg l (iX V _)⟩
            ·have bx:A<(m:Int):=oM
             clear bw;go_wp2
             go_quiet (fail)
             go_wp2;exact⟨⟨q+1,oM,gM,iX a4 _,Xw cb (by unfold To;rw[eB bv,eB bx];rfl)⟩,by simp[intOf];omega⟩
          ·go_wp2
           exact⟨⟨j+1,oM,gM,V,Xw a6 (by
            have E:=H1.out;have Q:=H0.out;rw[S.out,eB E,eB (p:=1<=P.args.length) oM,YE (xs:=P.args) (k:=q) oM U.out];rfl)⟩,by simp[intOf];omega⟩
        ·have ba:((P.args.length:Int) != (B.length:Int))=true:=by rw[jJ];omega
         have H1:=Xa E;clear E;go_wp2
         go_ret
         exact⟨Xl (by rw[o.out,Xw K (by rw[S.out,dJ H1.out];simp)];simp),Xg l (Xb e _)⟩
      ·go_wp2
       exact⟨⟨k+1,oM,gM,e,Xw a5 (YE (xs:=X.ps) (k:=j) oM T)⟩,by simp[intOf];omega⟩
    ·have b1:Hid (Ug ⟨m,a⟩=true):=(Zr Jt ⟨m,a⟩ a 0).2 (fun j Y=>by rw[aV];exact F j Y (oN v.out))
     have R:=Xa (HA.keep (d.mono oM));have a0:Hid (Ui ⟨m,a⟩=(decide (((blksDefs a).length:Int)=m)&&(List.range m).all fun ad=>hasI (blksDefs a) (ad:Int))):=rfl;have bf:(blksDefs a).length<=1048576:=oP (KP a) hs.out
     clear F
     go_wp2_with fail
     refine(tU m _ n N a af M _ R v oM (show Xx a<=1048576 by have:=hs.out;omega) oM).mono ?_;rintro g L ⟨a2,c2,rfl,c,aq⟩;have G:=Xg d c;have y0:=(XU G oM).trans p;have a7:=Xa aq;have ay:=Xa G;clear aq c d ar ax R G p H;generalize blksDefs a=D at *;by_cases I:(D.length:Int)=m
     ·have bb:((D.length:Int) != (m:Int))=false:=by simp[I]
      have HD:=Xa I;clear I;go_wp2;clear bb
      go_loop [13] (fun i=>∃q:Nat,q<=m/\i=.int .i64 q/\Hid (∀x:Nat,x<q->hasI D (x:Int)=true)) (fun i=>m-(intOf i).toNat)
      case atStart=>exact⟨0,aN _,rfl,fun x h=>absurd h oM⟩
      case round =>
       obtain⟨q,hq,rfl,U⟩:=hrel;by_cases ab:q<m
       ·cases hr:hasI D (q:Int)
        ·have f:=Xa hr
         go_wp2_with (go_at_call 48;refine(YF _ _ _ _ D _ _ _ a7 rfl bf).mono ?_;rintro g w3 ⟨rfl,ac⟩;rw[ac];clear ac w3)
         go_ret
         exact⟨Xl (by
          have hf:((List.range m).all fun ad=>hasI D (ad:Int))=false:=by
           rw[lZ];exact⟨q,by simpa using ab,by simp[f.out]⟩
          rw[o.out,a0.out,hf];simp),Xg l ay⟩
        ·have f:=Xa hr
         go_wp2_with (go_at_call 48;refine(YF _ _ _ _ D _ _ _ a7 rfl bf).mono ?_;rintro g w3 ⟨rfl,ac⟩;rw[ac];clear ac w3)
         go_round
         case rel=>exact⟨q+1,oM,gM,fun x hp=>if g:x=q then by subst g;exact f else U x oM⟩
         case measure=>simp[intOf];omega
       ·go_wp2
        go_ret
        exact⟨Xl (by
         have hf:((List.range m).all fun ad=>hasI D (ad:Int))=true:=by
          rw[dV];intro x hp;exact U x (by simp at hp;omega)
         rw[o.out,a0.out,hf,bz.out,b1.out,eB HD.out];rfl),Xg l ay⟩
     ·have bb:((D.length:Int) != (m:Int))=true:=by rw[jJ];exact I
      have HD:=Xa I;clear I;go_wp2
      go_ret
      exact⟨Xl (by rw[o.out,a0.out,dJ HD.out];simp),Xg l ay⟩
theorem Tr(v:Int)(b:Option Addr)(n c:Nat)(a:List Xe)(L B:Nat)(w:World)(ha:Hid (Xp w L B b a))(f:Hid (n=a.length))(e:Hid (a.length+Xx a<=1048576))(j:B<=w.heap.size) :
 Calls prog 19 #[.agg #[.int .i64 v,.slice b n c]] w fun p t=>p=.returned (.bool (dy ⟨v,a⟩))/\Below w.heap.size w t:=by
 have k:dy ⟨v,a⟩=(Y6 ⟨v,a⟩ && a.all (KV v a.length)&&Ug ⟨v,a⟩ && Ui ⟨v,a⟩):=by
  unfold dy;rw[zW]
 have r:=f.out;have q:Xo a<=1048576:=by rw[V7];exact e
 have x:=e.out;by_cases l:0<=v/\v<=2000/\1<=n/\n<=1000/\Xo a<=4000
 ·obtain⟨g,h,m,o,i⟩:=l
  have d:Y6 ⟨v,a⟩=true:=l7 g h (by show 1<=a.length;omega) (by show a.length<=1000;omega) i;obtain⟨s,rfl⟩:=bX g;rw[k,d];exact rH s b n c a L B w _ ha f e j h m o i (by show _=_;rw[<-r];rfl)
 ·have d:Y6 ⟨v,a⟩=false:=by
   by_cases u:Xo a<=4000
   ·exact Wt (F:=⟨v,a⟩) (by show ¬(0<=v/\v<=2000/\1<=a.length/\a.length<=1000);omega)
   ·exact UE (F:=⟨v,a⟩) (by show 4000<Xo a;omega)
  rw[k,d];exact sc v b n c a L B w ha f oM q j l
end
theorem mo(F:List Nat):Je F=(Xi F).map (Value.int .i64):=by simp[Je,Xi]
theorem pq:hasI (Xi s) (n:Int)=true↔n∈s:=by
 unfold hasI;rw[eY];unfold Xi;rw[aY];constructor
 ·rintro⟨a,h,e⟩
  have:a=n:=Int.ofNat.inj e;rw[<-this];exact h
 ·exact fun h=>⟨n,h,rfl⟩
section
structure DmI(w w2 wr:World)(n A0 A1 M0 M1:Nat)(P:Nat->List Int):Prop where
 bel:Below w.heap.size w wr
 sz:w2.heap.size<=wr.heap.size
 fb:wr.heap[w.heap.size]?=w2.heap[w.heap.size]?
 same:YA A0 A1 w2 wr
 rows:∃U,ZN wr (w.heap.size+1) n P U/\∀i g,i<n->(U i).ownBlock=some g->(g<A0\/A1<=g)/\(g<M0\/M1<=g)
section
variable {w w2 wr wr' : World} {n A0 A1 M0 M1 : Nat} {P : Nat -> List Int}
theorem DmI.below(h:DmI w w2 wr n A0 A1 M0 M1 P)(k:Below wr.heap.size wr wr')(c:w.heap.size<wr.heap.size)(d:A1<=w2.heap.size):DmI w w2 wr' n A0 A1 M0 M1 P:=by
 obtain⟨U,a,b⟩:=h.rows;have:=h.sz;exact⟨Xg h.bel k,aJ h.sz k.size,(k.block _ c).trans h.fb,fun q q1 q2=>(k.block q oM).trans (h.same q q1 q2),U,a.below k,b⟩
theorem DmI.fresh(h:DmI w w2 wr n A0 A1 0 0 P)(M1:Nat):DmI w w2 wr n A0 A1 wr.heap.size M1 P:=by
 obtain⟨U,a,c⟩:=h.rows;exact⟨h.bel,h.sz,h.fb,h.same,U,a,fun i g b e=>⟨(c i g b e).1,bC ((a.2.1 i b).lt g e).2⟩⟩
theorem DmI.forget(h:DmI w w2 wr n A0 A1 M0 M1 P):DmI w w2 wr n A0 A1 0 0 P:=by
 obtain⟨U,a,b⟩:=h.rows;exact⟨h.bel,h.sz,h.fb,h.same,U,a,fun i g c e=>⟨(b i g c e).1,aZ (aN _)⟩⟩
theorem DmI.congr{P':Nat->List Int}(h:DmI w w2 wr n A0 A1 M0 M1 P)(e:∀i,i<n->P i=P' i):DmI w w2 wr n A0 A1 M0 M1 P':=by
 obtain⟨U,a,b⟩:=h.rows;exact⟨h.bel,h.sz,h.fb,h.same,U,a.congr e,b⟩
theorem DmI.grown{M:Nat}(h:DmI w w2 wr n A0 A1 M0 M1 P)(k:wr.grownBy wr' (some M))(l:M0<=M/\M<M1)(f:A1<=M0)(m:w.heap.size+1<M0)(d:w.heap.size+1<wr.heap.size)(j:A1<=w2.heap.size):DmI w w2 wr' n A0 A1 M0 M1 P:=by
 obtain⟨U,a,b⟩:=h.rows;have o:=h.sz;refine⟨h.bel.grown k oM (fun q e=>by cases e;omega),aJ h.sz k.size,(k.block _ oM (fun e=>by injection e with e;omega)).trans h.fb,fun q q1 q2=>(k.block q oM (fun e=>by injection e with e;omega)).trans (h.same q q1 q2),U,⟨a.1.of_block (k.block _ d (fun e=>by injection e with e;omega)),fun i c=>?_,a.2.2⟩,b⟩;refine(a.2.1 i c).kept k ?_;cases e:(U i).ownBlock with
 | none=>exact bC rfl
 | some g=>exact aZ (fun e2=>by injection e2 with e2;have:=(b i g c e).2;omega)
theorem DmI.push{c:World}{o:Obj}{t:Nat}{x:Int}{b:Value}{U:Nat->Value}(h:DmI w w2 wr n A0 A1 M0 M1 P)(d:ZN wr (w.heap.size+1) n P U)(j:∀i g,i<n->(U i).ownBlock=some g->(g<A0\/A1<=g)/\(g<M0\/M1<=g))(f:t<n)(a:(wr.alloc o).grownBy c (U t).ownBlock)(D:c.ownsRow (w.heap.size+1+1) 2 1 b ((P t).length+1) ((P t).map (Value.int .i64)++[.int .i64 x]))(s:b.ownBlock=(U t).ownBlock\/b.ownBlock=some (wr.heap.size+1))(F:A1<=w2.heap.size)(H:M1<=wr.heap.size)(G:w.heap.size+1<A0)(I:w.heap.size+1<M0) :
 DmI w w2 (c.setCell ⟨w.heap.size+1,t,none⟩ b) n A0 A1 M0 M1 (fun i=>if i=t then P t++[x]else P i)/\YA M0 M1 wr (c.setCell ⟨w.heap.size+1,t,none⟩ b)/\c.cell? ⟨w.heap.size+1,t,none⟩=some (U t)/\c.frozen? ⟨w.heap.size+1,t,none⟩=false:=by
 have K:=h.sz;have B:=d.1.lt;have J:=a.size;have C:(wr.alloc o).heap.size=wr.heap.size+1:=aO _ _;have r:∀k,k<wr.heap.size->(wr.alloc o).heap[k]?=wr.heap[k]?:=fun k m=>Below.heap_alloc _ _ _ m
 have E:=(d.alloc o).step f x b a D (by rw[C];exact s);have l:∀k,k<wr.heap.size->k≠w.heap.size+1->some k≠(U t).ownBlock->(c.setCell ⟨w.heap.size+1,t,none⟩ b).heap[k]?=wr.heap[k]?:=fun k y z A=>(Below.heap_setCell _ _ _ _ z).trans ((a.block k oM A).trans (r k y))
 have p:∀k,k<=w.heap.size+1->some k≠(U t).ownBlock:=fun k m e=>by have:=((d.2.1 t f).lt k e.symm).1;omega
 have u:=(a.block _ oM (p _ (aA _))).trans (r _ B);refine⟨⟨?_,by rw[Xd];omega,(l _ oM oM (p _ oM)).trans h.fb,fun q q1 q2=>(l q oM oM (fun e=>by have:=(j t q f e.symm).1;omega)).trans (h.same q q1 q2),_,E,fun i g v e=>?_⟩,fun q q1 q2=>l q oM oM (fun e=>by have:=(j t q f e.symm).2;omega),(Xc u).trans (d.1.cell f),(bJ u).trans (d.1.frozen t)⟩
 ·exact⟨a.os.trans h.bel.os,a.tape.trans h.bel.tape,a.output.trans h.bel.output,by rw[Xd];omega,fun k m=>(l k oM oM (p k oM)).trans (h.bel.block k m)⟩
 ·by_cases e1:i=t
  ·subst e1
   simp only[gG]at e;rcases s with q | q
   ·exact j i g v (by rw[<-q];exact e)
   ·rw[q]at e
    have:=gQ e;omega
  ·simp only[e1,fD]at e
   exact j i g v e
end
theorem wL(Z:Int)(G:Option Addr)(n R:Nat)(c:List Xe)(bm aa:Nat)(w:World)(ha:Hid (Xp w bm aa G c))(h:Hid (n=c.length))(hB:aa<=w.heap.size)(W:Hid (UF c)) :
 Calls prog 67 #[.agg #[.int .i64 Z,.slice G n R]] w fun e L=>∃a' c',e=.returned (.slice a' n c')/\Below w.heap.size w L/\XR L w.heap.size L.heap.size a' ((List.range n).map fun b:Nat=>Xi (Zq (X8 c) n b)):=by
 obtain⟨i0,cj,cw,cz,c6⟩:=Xq Tryz.info2';have ay:n<=1000:=oP W.n2 h.out
 have cr:0<n:=oP W.n1 h.out
 have N:Hid (∀x,Re (X8 c) x->x<n):=Xa (by rw[h.out];exact W.re);have bd:=Xa (fun bn (hb:Below w.heap.size w bn) z=>nf Z G n R z c bm aa bn (Xa (ha.keep (hb.mono hB))) h ay cr (oN hb.size) (Xa (by rw[h.out];exact W.tgt)));have cq:=J9 (P:=prog) 51 55 (.agg #[.slice none 0 0]) 1 24 underlying51 Tryz.infoSetI n oM oM;have b0:madeCells (Value.agg #[.slice none 0 0]).cells (n*1)=madeCells #[.slice none 0 0] n:=by rw[iN];rfl
 rw[b0]at cq;have dj:=fM (P:=prog) 81 4 (.bool false) 1 underlying81 Tryz.infoBo rfl .i64 .i64 n oM oM;clear b0
 go_in
 go_wp2_with fail
 refine(bd _ (Xb (Xb (Below.refl _ _) _) _) (-1)).mono ?_;rintro e w2 ⟨v2,F,rfl,q,b1,az,bx⟩;obtain⟨a2,c2,rfl,bv⟩:=Xk (xs:=Xi F) (by rw[<-mo];exact b1);have C:=Xa (fun x=>(bx x).trans (pP vY));have b8:=Xa az;have cp:(Xi F).length<=1000:=by rw[Y0];exact aJ (YS az (fun x h=>N x ((C x).1 h))) ay
 have dl:w.heap.size+2<=w2.heap.size:=by have:=q.size;simp at this;omega
 have ba:Hid (Xf w2 (w.heap.size+2) w2.heap.size a2 (Xi F)):=Xa (by simpa using bv);have a4:Hid (DmI w w2 w2 n (w.heap.size+2) w2.heap.size 0 0 (UN (X8 c) 0)):=Xa (by
  have hr:=ZN.born (w.alloc (.cells #[.int .i64 Z,.slice G n R] 25)) n;rw[aO]at hr;refine⟨Xg (Xb (Xb (Below.refl _ _) _) _) q,aA _,rfl,YA.refl _ _ _,_,(hr.below q).congr (fun i _=>by simp[UN,Xi]),fun i da hi e=>by cases e⟩)
 have f0:Cl w2 w.heap.size 0 (.int .i64 Z):=(q.cell (p:=⟨w.heap.size,0,none⟩) (by show w.heap.size<_;simp;omega)).trans (by simp[go_sem]);have f1:Cl w2 w.heap.size 1 (.slice G n R):=(q.cell (p:=⟨w.heap.size,1,none⟩) (by show w.heap.size<_;simp;omega)).trans (by simp[go_sem]);have a8:=Xa (show _/\_ from⟨f0,f1⟩);clear q b1 bv bx az f0 f1;obtain⟨t,ar⟩:∃t,t=(Xi F).length:=⟨_,rfl⟩;rw[<-ar]at cp |-;have af:=Xa ar;clear ar
 go_wp2
 go_loopw [5] (fun u wr=>∃k:Nat,k<=n/\u=.int .i64 k/\Hid (DmI w w2 wr n (w.heap.size+2) w2.heap.size 0 0 (UN (X8 c) k))) (fun u _=>n-(intOf u).toNat)
 case atStart=>exact⟨0,aN _,rfl,a4⟩
 case round =>
  clear a4;obtain⟨k,hk,rfl,f⟩:=hrel;have cv:=f.sz;have ax:w.heap.size<wr.heap.size:=oM;have g0:=(Xc f.fb).trans a8.1;have g1:=(Xc f.fb).trans a8.2;by_cases di:k<n
  ·have bb:=Xa (ba.keepS f.same)
   have a9:=Xa (YF a2 t c2 k (Xi F) (w.heap.size+2) w2.heap.size wr bb af oM)
   go_wp2_with fail
   refine a9.mono ?_;rintro e w3 ⟨rfl,b3⟩;rw[b3];clear b3 a9;cases hh:hasI (Xi F) (k:Int)with
   | false =>
    have b9:Hid (¬Re (X8 c) k):=Xa (fun p=>by
     have:=pq.2 ((C k).2 p);rw[hh]at this;cases this)
    clear hh
    go_wp2
    exact⟨⟨k+1,oM,gM,Xa (f.congr (fun i _=>(uM b9 i).symm))⟩,by simp[intOf];omega⟩
   | true =>
    have cb:=Xa ((C k).1 (pq.1 hh));clear hh;have b7:=Xa ((f.below (Xb (Below.refl _ _) (.cells (madeCells #[.bool false] n) 4)) ax (aA _)));have bf:=Xa (dG wr (.bool false) n 4)
    go_wp2_with fail
    refine(bd _ (Xb f.bel _) (k:Int)).mono ?_;rintro e o ⟨v5,a,rfl,S,b2,a0,bz⟩;obtain⟨a5,c5,rfl,bw⟩:=Xk (xs:=Xi a) (by rw[<-mo];exact b2);have aj:=Xa (fun x=>(bz x).trans AD);have cl:(Xi a).length<=1000:=by rw[Y0];exact aJ (YS a0 (fun x h=>N x (j7 ((aj x).1 h)))) ay
    have c7:wr.heap.size+1<=o.heap.size:=by have:=S.size;simp at this;omega
    have ad:=Xa (by simpa using bw);have al:=Xa (bf.of_block (S.block _ sP));have ab:=Xa ((((f.fresh o.heap.size).below (Xb (Below.refl _ _) (.cells (madeCells #[.bool false] n) 4)) ax (aA _))).below S (by simp;omega) (aA _));obtain⟨I,aq⟩:∃I,I=(Xi a).length:=⟨_,rfl⟩;rw[<-aq]at cl |-;have bc:=Xa aq;have c9:=Xa a0;clear S b2 bw bz a0 aq b7 bf f g0 g1;obtain⟨M,hM⟩:∃M,M=wr.heap.size:=⟨_,rfl⟩;rw[<-hM]at c7 ad al ab cv ax |-;clear hM bb;generalize wr=wo at *
    go_wp2
    go_loopw [8] (fun u y=>∃i:Nat,i<=I/\u=.int .i64 i/\Hid (o.grownBy y (some M))/\Hid (y.rowIs M 4 n (fun z=>.bool (decide (z∈a.take i))))) (fun u _=>I-(intOf u).toNat)
    case atStart=>exact⟨0,aN _,rfl,Xa (lJ _ _),Xa (al.congr (fun z _=>sP))⟩
    case round =>
     obtain⟨i,hi,rfl,B,D⟩:=hrel;by_cases dd:i<I
     ·have V:i<a.length:=by have:=bc.out;rw[Y0]at this;omega
      obtain⟨d,J,rfl,T,l⟩:=ad i (by rw[Y0];exact V);have s:(Xi a)[i]'(by rw[Y0];exact V)=((a[i]:Nat):Int):=by simp[Xi]
      rw[s]at l;have bp:=(bZ (a:=⟨d,J+i,none⟩) (B.block d T.2 (fun e=>by injection e with e;omega))).trans l;have m:=N _ (j7 ((aj _).1 (aH V)));have bi:Hid (∀z,z∈a.take (i+1)↔z∈a.take i\/z=a[i]):=Xa (fun z=>Kx V);clear l s;generalize a[i]=x at *;have cx:=D.cell m;have fx:=D.frozen x
      go_wp2_with fail
      refine⟨⟨i+1,oM,gM,Xa (B.trans ⟨rfl,rfl,rfl,by simp[World.setCell],fun k _ hk=>Below.heap_setCell _ _ _ _ (fun e=>hk (by rw[e]))⟩),Xa ((TS (C:=Value.bool) D x true).congr (fun z _=>?_))⟩,by simp[intOf];omega⟩;by_cases e:z=x
      ·rw[aU e,eB ((bi z).2 (aZ e))]
      ·rw[aM e]
       have:(z∈a.take (i+1))↔z∈a.take i:=(bi z).trans ⟨fun p=>p.resolve_right e,bC⟩;rw[decide_eq_decide.2 this]
     ·have O:Hid (a.take i=a):=Xa (aW (by have:=bc.out;rw[Y0]at this;omega))
      rw[O.out]at D;have a7:=Xa (ab.grown B ⟨aA _,oM⟩ oM oM oM (aA _));have a6:=Xa (a7.congr (fun b _=>(tD F a k b).symm));have ds:=B.size;clear O B al ab ad a7;generalize wr=w7 at *
      go_wp2
      go_loopw [9] (fun u y=>∃i:Nat,i<=t/\u=.int .i64 i/\Hid (DmI w w2 y n (w.heap.size+2) w2.heap.size M o.heap.size (Zy (X8 c) F a k i))/\Hid (YA M o.heap.size w7 y)/\Hid (w7.heap.size<=y.heap.size)) (fun u _=>t-(intOf u).toNat)
      case atStart=>exact⟨0,aN _,rfl,a6,Xa (YA.refl _ _ _),Xa (aA _)⟩
      case round =>
       clear a6;obtain⟨j,hj,rfl,A,ap,bl⟩:=hrel;by_cases df:j<t
       ·have H:j<F.length:=by have:=af.out;rw[Y0]at this;omega
        obtain⟨d,J,rfl,T,l⟩:=ba j (by rw[Y0];exact H);have s:(Xi F)[j]'(by rw[Y0];exact H)=((F[j]:Nat):Int):=by simp[Xi]
        rw[s]at l;have bp:=(bZ (a:=⟨d,J+j,none⟩) (A.same d T.1 T.2)).trans l;have m:=N _ ((C _).1 (aH H));have cc:=Xa (D.of_block (ap M (aA _) oM));have cx:=cc.cell m;have dn:=bl.out;have dk:o.heap.size<=wr.heap.size:=oM;by_cases r:F[j]∈a
        ·have ac:=Xa (fun b=>xV (tg:=X8 c) (k:=k) H r b)
         rw[eB r]at cx;clear l s r;generalize F[j]=x at *
         go_wp2
         exact⟨⟨j+1,oM,gM,Xa (A.congr (fun b _=>(ac b).symm)),ap,bl⟩,by simp[intOf];omega⟩
        ·have ac:=Xa (fun b=>uQ (tg:=X8 c) (k:=k) b8 H r b)
         rw[dJ r]at cx;clear l s r;generalize F[j]=x at *;obtain⟨cf,g,bt⟩:=A.rows;have HU:=Xa g;have a3:=Xa bt;obtain⟨ua,uc,Y,_⟩:=Xk (g.2.1 x m);have cU:=g.1.cell m;have fU:=g.1.frozen x;have Q:=Xa Y;rw[Y]at cU;have ct:(Zy (X8 c) F a k j x).length<=1001:=aJ (tZ F a k j x) oM;obtain⟨v,X⟩:∃v,v=(Zy (X8 c) F a k j x).length:=⟨_,rfl⟩;rw[<-X]at cU ct;have E:=Xa X;have ca:=Xa (by have p:=g.2.1 x m;rw[Y,<-X]at p;exact p);have db:=g.1.lt;have cs:d≠w.heap.size+1:=oM;have ci:d<wr.heap.size:=oM;clear g bt Y X
         go_wp2_with fail
         refine Y7 (fun L=>L.cell? ⟨d,J+j,none⟩=some (.int .i64 (x:Int))) (fun hHeld=>?_);refine Xn 0 ?_;refine Xn 1 ?_;refine Xn 2 ?_;refine Xn 3 ?_;refine Xn 4 ?_;refine Xn 5 ?_;refine Xn 6 ?_;refine Xn 7 ?_;refine Xn 8 ?_;refine Xn 9 ?_;refine Xn 10 ?_;refine Xn 11 ?_;refine Xn 13 ?_;refine eS (rs:=[12,14]) vZ sP ?_;refine(bQ rfl (fun K hK=>?_) (bQ rfl (fun K hK=>?_) dY));go_simp;refine hK _ _ kP (fun hHeld=>?_);clear hK
         try simp only[xX]
         refine Xs 14 (fun K hK=>?_);go_simp;refine hK _ _ kP (fun hHeld=>?_);clear hK;rotate_left;go_simp;refine hK _ _ kP (fun hHeld=>?_);clear hK
         try simp only[xX]
         refine Xs 12 (fun K hK=>?_);go_simp;refine hK _ _ kP (fun hHeld=>?_);clear hK
         all_goals (
          refine Xs 15 (fun K hK=>?_);refine YL rfl _ _ 27 rfl (w.heap.size+1+1) 2 i0 (.int .i64 0) 1 8 underlying27 cj cw cz c6 rfl vY (.slice ua v uc) v ((Zy (X8 c) F a k j x).map (Value.int .i64)) rfl ?s1 ⟨wr.heap.size,0,none⟩ 1 1 [.int .i64 (k:Int)] rfl rfl ?s2 ?s3 ?s4 ?s5 ?s6 ?_
          case s1=>exact(oe ca).alloc _
          case s2=>exact Yf _ _ _
          case s3=>intro u hu;simp at hu;subst hu;rfl
          case s4=>unfold maxLen;omega
          case s5=>omega
          case s6=>simp;omega
          intro v8 w8 a1 U _ bs;obtain⟨g8,c8,rfl,dc,_⟩:=Xm a1 oM;obtain⟨bq,br,bo,ch⟩:=(A.below (Below.refl wr.heap.size wr).drew oM (aA _)).push (x:=(k:Int)) (t:=x) (HU.below (Below.refl wr.heap.size wr).drew) a3 m (by rw[Q.out,<-E.out];exact U) (by rw[<-E.out];exact a1) (by rw[Q.out,<-E.out];simpa using bs) (aA _) (by show o.heap.size<=wr.heap.size;omega) oM oM;rw[Q.out,<-E.out]at bo;have z6:w8.cell? ⟨d,J+j,none⟩=some (.int .i64 (x:Int)):=by
           have h1:=U.block d (by simp;omega) (fun e=>by
            have h2:=a3 x d m (by rw[Q.out,<-E.out];exact e.symm);omega)
           have h3:(wr.drew.alloc (.cells #[.int .i64 (k:Int)] 2)).heap[d]?=wr.heap[d]?:=Below.heap_alloc wr.drew _ _ ci;exact(Xc (h1.trans h3)).trans bp
          have b5:=Xa bq;have cd:Hid (YA M o.heap.size w7 (w8.setCell ⟨w.heap.size+1,x,none⟩ (.slice (some ⟨g8,0,none⟩) (v+1) c8))):=Xa (fun b4 q1 q2=>(br b4 q1 q2).trans (ap b4 q1 q2));have ce:Hid (w7.heap.size<=(w8.setCell ⟨w.heap.size+1,x,none⟩ (.slice (some ⟨g8,0,none⟩) (v+1) c8)).heap.size):=Xa (by rw[Xd];have:=U.size;simp at this;omega);clear a1 U bs bq br;refine hK _ _ z6 (fun hHeld=>?_);clear hK;refine Xn 16 ?_;refine Xn 17 ?_;refine Xs 18 (fun K hK=>?_);go_simp;refine hK _ _ ((Xc (Below.heap_setCell _ _ _ _ cs)).trans z6) (fun hHeld=>?_);clear hK;refine Yq ?_;clear hHeld bo ch z6;generalize w8.setCell _ _=w9 at *
          go_wp2
          exact⟨⟨j+1,oM,gM,Xa (b5.congr (fun b _=>(ac b).symm)),cd,ce⟩,by simp[intOf];omega⟩)
       ·have O:Hid (∀b,Zy (X8 c) F a k j b=UN (X8 c) (k+1) b):=Xa (fun b=>sY C aj cb (by have:=af.out;rw[Y0]at this;omega) b)
        go_wp2
        exact⟨⟨k+1,oM,gM,Xa ((A.congr (fun b _=>O b)).forget)⟩,by simp[intOf];omega⟩
  ·have ck:k=n:=oM
   subst ck
   go_wp2
   go_ret
   obtain⟨cf,g,_⟩:=f.rows;exact⟨_,_,rfl,f.bel,(g.ints).mono oM (aA _)⟩
end
theorem UF.exD(h:UF x):∀b,b<x.length->(∃c,Idm (X8 x) c b)\/∀d,JO (X8 x) d b->d=b:=fun b e=>by
 classical
 have f:∀b,b<x.length->∀a,a<x.length->(Xh (addsN (fun _=>0) ((List.range x.length).filter fun a=>decide (Av (X8 x) a b))) a=true↔Av (X8 x) a b):=fun b _ a g=>by
  rw[YR,Z3,jU,bD,fG,bE,bD];exact⟨fun q=>q.2,fun q=>⟨g,q⟩⟩
 have:=UR h.top.2.2.1 h.top.1 h.re h.top.2.2.2 (Ws:=fun b=>addsN (fun _=>0) ((List.range x.length).filter fun a=>decide (Av (X8 x) a b))) f;rcases this.get b e with⟨c,ha,_⟩ | ⟨q,_⟩
 ·exact bC ⟨c,ha⟩
 ·exact aZ q
noncomputable def Ke(a:List Xe):List Int:=(List.range a.length).map (idomP ((List.range a.length).map (Zq (X8 a) a.length)))
theorem qA{t:Yj}(h:ai n m t):(∀z∈t.tg,0<=z/\z<(n:Int))/\t.tg.Nodup/\(m+1<n->((m+1:Nat):Int)∈t.tg):=by
 rcases h with⟨rfl,h⟩ | ⟨q,rfl,h1,h2,h3⟩ | ⟨q,r,rfl,h1,h2,h3,h4,h5,h6,h7⟩
 ·exact⟨fun z a=>by simp[Yj.tg]at a,by simp[Yj.tg],fun k=>absurd k h⟩
 ·refine⟨fun z a=>?_,by simp[Yj.tg],fun k=>?_⟩
  ·simp[Yj.tg]at a
   omega
  ·rw[h3 k]
   simp[Yj.tg]
 ·refine⟨fun z a=>?_,?_,fun k=>?_⟩
  ·simp[Yj.tg]at a
   omega
  ·simp[Yj.tg]
   omega
  ·rcases h6 with e | e<;>subst e<;>simp[Yj.tg]
theorem ry{a:List Yj}(g:a.length=n)(i:1<=n)(k:n<=1000)(h:∀j (h:j<a.length),ai n j a[j]):UF (a.map Yt):=by
 have e:∀x∈a.map Yt,(∀z∈x.te.tg,0<=z/\z<(n:Int))/\x.te.tg.Nodup:=fun x b=>by
  obtain⟨t,c,rfl⟩:=aY.1 b;obtain⟨j,f,rfl⟩:=bR c;have:=qA (h j f);exact⟨this.1,this.2.1⟩
 have d:(a.map Yt).length=n:=by simpa using g
 refine⟨oM,oM,fun x b t c=>?_,fun x b=>?_⟩
 ·rw[d];exact(e x b).1 t c
 ·rw[d];exact e x b
theorem rg{a:List Yj}(i:a.length=n)(l:1<=n)(w:n<=1000)(h:∀j (h:j<a.length),ai n j a[j]){b:Nat}(z:0<b)(m:b<n):∃c:Nat,(Ke (a.map Yt)).getD b 0=(c:Int)/\c<b:=by
 have u:(a.map Yt).length=n:=by simpa using i
 have g:=ry i l w h;have k:∀j,j+1<n->j+1∈X8 (a.map Yt) j:=fun j d=>by
  have t:j<a.length:=oM;rw[Km (by rw[u];omega),cM];have:=(qA (h j t)).2.2 d;exact aY.2 ⟨_,this,sP⟩
 have y:∀j,j<n->Re (X8 (a.map Yt)) j:=fun j=>by
  induction j with
  | zero=>exact fun _=>Re.root
  | succ j f=>exact fun d=>Re.step (f oM) (k j d)
 have s:=Wf g.re g.exD;obtain⟨c,e,A,x,v,q⟩:=qy s g.re (y b m) oM;refine⟨c,e,?_⟩;have o:c≠b:=fun e=>by rw[e]at v;omega
 have r:=(q c o).2 (Zd x);by_cases p:c<b
 ·exact p
 ·exfalso
  have:∀j,j<=b->Av (X8 (a.map Yt)) c j:=fun j=>by
   induction j with
   | zero=>exact fun _=>Av.root oM
   | succ j f=>exact fun d=>Av.step (f oM) (k j oM) oM
  exact r.no (this b (aA _))
theorem jd(a:List Xe):(Ke a).length=a.length:=by simp[Ke]
theorem VT(h:w.ownsRow n k g a j y)(l:w.ownsRow m B i A c Y)(q:k≠B){b:Nat}(e:a.ownBlock=some b):A.ownBlock≠some b:=fun f=>by
 obtain⟨_,h | ⟨v,r,t,rfl,D,p,z⟩⟩:=h
 ·rw[h.1]at e;cases e
 obtain⟨_,l | ⟨x,s,u,rfl,E,d,C⟩⟩:=l
 ·rw[l.1]at f;cases f
 cases e;cases f;rw[p]at d;injection d with d;injection d with _ o _;exact q o
theorem Z5{b:Nat}(h:w.ownsRow n m B a g y)(c:Bx w b E k)(j:m≠k):a.ownBlock≠some b:=fun e=>by
 obtain⟨_,h | ⟨p,l,o,rfl,r,f,q⟩⟩:=h
 ·rw[h.1]at e;cases e
 cases e;unfold Bx at c;rw[f]at c;injection c with i;injection i with _ d _;exact j d
structure GoP(w wr:World)(sb B:Nat)(s:Sr)(fb:Nat)(vG:Value)(xs:List Xe)(vi:Value)(ids:List Int):Prop where
 dr:ZQ wr sb B s
 gr:w.grownBy wr (some sb)
 bw:B<=w.heap.size
 res:Bx wr w.heap.size #[.int .i64 0,.slice none 0 0] 25
 fbx:Bx wr fb #[.int .i64 0,vG] 25
 fbb:w.heap.size<fb
 bl:wr.ownsRow w.heap.size 90 6 vG xs.length (XF Zz Zz xs)
 id:wr.ownsRow w.heap.size 2 1 vi ids.length (Xt ids)
 emp:∀x∈xs,x.ps=[]/\x.is=[]
theorem GoP.start{wr:World}{s:Sr}(h:GoP w wr n m s k (.slice (some ⟨B,0,none⟩) g i) x a l) :
 ∃E,JU w (wr.alloc (.cells #[] 55)) E n m s k 0 B i x Zz Zz (fun _=>Zz) (.slice (some ⟨wr.heap.size,0,none⟩) 0 0) Zz [] a l:=by
 have C:x.length=g:=by
  rcases h.bl.2 with⟨e,_⟩ | ⟨_,_,_,e,_⟩
  ·cases e
  ·cases e;rfl
 subst C;have v:a.ownBlock≠some B:=VT h.bl h.id vY rfl;have u:B≠w.heap.size:=fun e=>Z5 h.bl h.res vY (by rw[<-e];rfl)
 have t:B≠k:=fun e=>Z5 h.bl h.fbx vY (by rw[<-e];rfl)
 have A:=Z5 h.id h.res vY;have z:=Z5 h.id h.fbx vY;have G:=(h.bl.lt B rfl).2;have H:=h.res.lt;have F:=h.fbx.lt;have j:=fun b e=>(h.id.lt b e).2
 have d:∀b,b≠B->a.ownBlock≠some b->b≠wr.heap.size->(if b=B then (1,0,0)else if a.ownBlock=some b then (7,0,0)else if b=wr.heap.size then (6,0,0)else (0,0,0):Nat × Nat × Nat)=(0,0,0):=fun b p q r=>by rw[aM p,aM q,aM r]
 have I:XW wr (wr.alloc (.cells #[] 55)) (fun _=>(0,0,0)) (fun _=>(0,0,0)) w.heap.size (fun _=>True):=XW.box _;refine⟨fun b=>if b=B then (1,0,0)else if a.ownBlock=some b then (7,0,0)else if b=wr.heap.size then (6,0,0)else (0,0,0),h.dr.box _,Y5 h.gr (bW _ _ _),h.bw,h.res.box _,d _ (kA u) A oM,h.fbx.box _,d _ (kA t) z oM,h.fbb,⟨⟨h.bl.alloc _,fun b e=>?_⟩,fun f c=>?_,fun f c=>?_,fun f c D o=>?_⟩,⟨?_,fun b e=>?_⟩,fun f c=>absurd c sP,⟨h.id.alloc _,fun b e=>?_⟩,fun b y=>?_,fun D _=>⟨rfl,rfl⟩⟩
 ·cases e
  exact aU rfl
 ·rw[(h.emp _ (aH c)).1]
  exact⟨dA _ _ _ _,fun b e=>by cases e⟩
 ·rw[(h.emp _ (aH c)).2]
  exact⟨dA _ _ _ _,fun b e=>by cases e⟩
 ·rw[(h.emp _ (aH c)).1]at o
  exact absurd o sP
 ·have:=eI (base:=w.heap.size) (e:=55) (size:=1) wr #[] 0 h.gr.size sP rfl
  simpa [Yu]using this
 ·cases e
  dsimp only;rw[aM oM,aM (fun e=>by have:=j _ e;omega),aU rfl]
 ·rw[aM (fun e2=>v (by rw[<-e2];exact e)),aU e]
 ·rw[aO]at y
  exact d b oM (fun e=>by have:=j _ e;omega) oM
end Go.Proofs.YtghnlncgiihhgaaGreatDoor
