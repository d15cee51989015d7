import Derived.Test.YtghnlncgiihhgaaGreatDoorTA
import Derived.Deep.AppendLies
import Derived.RangeFuncRecord
import Derived.Deep.CutRange
namespace Go.Proofs.YtghnlncgiihhgaaGreatDoor
set_option maxHeartbeats 1000000
open Go.RowKit Go.Proofs.Tryz
variable{E:Array Value}{r:Bool}{t T z:Int}{l:List Int}{y:List Value}{n m k B g i j:Nat}{p:Option Addr}{a A:Value}{w v u:World}
def hasI(a:List Int)(x:Int):Bool:=a.contains x
theorem YF(g:Option Addr)(n q:Nat)(x:Int)(a:List Int)(L B:Nat)(w:World)(ha:Hid (Xf w L B g a))(p:Hid (n=a.length))(v:n<=1048576) :
 Calls prog 48 #[.slice g n q,.int .i64 x] w fun e s=>e=.returned (.bool (hasI a x))/\s=w:=by
 go_in
 go_wp2
 go_loop [5] (fun i=>∃k:Nat,k<=n/\i=.int .i64 k/\Hid (∀j (h:j<a.length),j<k->a[j]≠x)) (fun i=>n-(intOf i).toNat)
 case atStart=>exact⟨0,aN _,rfl,fun j d h=>absurd h oM⟩
 case round =>
  obtain⟨k,t,rfl,o⟩:=hrel;by_cases u:k<n
  ·have m:k<a.length:=oN p.out
   obtain⟨b,y,rfl,_,l⟩:=ha k m;by_cases c:a[k]=x
   ·have r:(a[k]==x)=true:=by simp[c]
    have f:=Xa c;clear c;go_wp2
    go_ret
    exact⟨Xl (by unfold hasI;rw[nJ,eY,<-f.out];exact aH m),rfl⟩
   ·have r:(a[k]==x)=false:=by simp[c]
    have f:=Xa c;clear c;go_wp2
    go_round
    case rel=>exact⟨k+1,oM,gM,fun j d h=>if e:j=k then by subst e;exact f else o j d oM⟩
    case measure=>simp[intOf];omega
  ·go_wp2
   go_ret
   exact⟨Xl (by
    rw[nJ,lY];intro l;obtain⟨j,d,e⟩:=bR (eY.1 (show a.contains x=true from l));exact o j d (oN p.out) e),rfl⟩
theorem sU(t:Yj)(b:Int):t.tg.contains b=true↔(t.kind=1/\t.to=b)\/(t.kind=2/\(t.to=b\/t.els=b)):=by
 unfold Yj.tg;by_cases a:t.kind=1
 ·rw[aU a]
  simp only[a,true_and,eY,cS];constructor
  ·intro h;exact bC h.symm
  ·rintro(h | ⟨h,_⟩)
   ·exact h.symm
   ·omega
 ·rw[aM a]
  by_cases c:t.kind=2
  ·rw[aU c]
   simp only[c,true_and,eY,cH,eA,lL];constructor
   ·rintro(h | h)
    ·exact aZ (bC h.symm)
    ·exact aZ (aZ h.symm)
   ·rintro(⟨h,_⟩ | h | h)
    ·omega
    ·exact bC h.symm
    ·exact aZ h.symm
  ·rw[aM c]
   simp[a,c]
theorem ZK(x:Xe)(b:Int):∀(a:List Xe)(i:Nat),predsFrom (a++[x]) i b=predsFrom a i b++(if x.te.tg.contains b then [((i+a.length:Nat):Int)]else [])
 | [],i=>by simp[predsFrom]
 | y::ys,i=>by
  simp only[cW,predsFrom];have e:i+1+ys.length=i+(ys.length+1):=oM;rw[ZK x b ys (i+1),cK,e,bA]
theorem YO(b:Int):∀(a:List Xe)(i:Nat),(predsFrom a i b).length<=a.length
 | [],_=>aA _
 | y::ys,i=>by
  simp only[predsFrom,aQ,bA];have:=YO b ys (i+1);split<;>simp<;>omega
theorem Xk{xs:List Int}(h:w.ownsRow n m 1 a k (xs.map (Value.int .i64))):∃d j,a=.slice d xs.length j/\Xf w n w.heap.size d xs:=by
 obtain⟨c,h | ⟨o,r,l,rfl,p,f,s,_,q,g⟩⟩:=h
 ·obtain⟨rfl,rfl⟩:=h
  have:xs=[]:=by simpa using c
  subst this;exact⟨_,_,rfl,fun i b=>absurd b sP⟩
 ·simp only[iN,bK]at c q g
  subst c;refine⟨_,_,rfl,fun i b=>⟨o,0,rfl,⟨p,?_⟩,?_⟩⟩
  ·exact(aS.1 f).1
  ·have e:(l.toList.take xs.length)[i]?=some (Value.int .i64 xs[i]):=by rw[g];simp[b]
   rw[fH b]at e;simp only[World.cell?,f,aV];simpa using e
theorem Tryz.info2':(prog.info? 2).map (fun i=>(i.zero,i.size,i.bytes))=some (some (.int .i64 0),1,8):=vZ
theorem YJ(c:w.grownBy v a.ownBlock)(d:w.ownsRow n m k a B y){b:Nat}(f:b<n)(e:b<w.heap.size):v.heap[b]?=w.heap[b]? :=
 c.block b e (fun h=>by have:=(d.lt b h.symm).1;omega)
theorem Xy(h:Below n w v)(b:v.grownBy u a.ownBlock)(d:v.ownsRow m k B a g y)(i:n<=m)(e:n<=v.heap.size):Below n w u :=
 h.grown b e (fun f c=>by have:=(d.lt f c).1;omega)
theorem K5(w:World)(o:Obj):((w.alloc o).alloc (.cells #[] 2)).ownsRow (w.heap.size+1) 2 1 (.slice (some ⟨w.heap.size+1,0,none⟩) 0 0) 0 []:=by
 have h:=eI (base:=w.heap.size+1) (e:=2) (size:=1) (w.alloc o) #[] 0 sP sP rfl;rw[aO]at h;exact h
theorem Yl(a:List Int)(x:Int):(a++[x]).map (Value.int .i64)=a.map (Value.int .i64)++[.int .i64 x]:=sP
theorem ZE(W:Int)(l:Option Addr)(n y:Nat)(q:Int)(a:List Xe)(L B:Nat)(w:World)(ha:Hid (Xp w L B l a))(F:Hid (n=a.length))(hn:n<=1048576)(J:B<=w.heap.size) :
 Calls prog 46 #[.agg #[.int .i64 W,.slice l n y],.int .i64 q] w fun m v=>∃x H,m=.returned (.slice x (predsFrom a 0 q).length H)/\Below w.heap.size w v/\Xf v w.heap.size v.heap.size x (predsFrom a 0 q):=by
 obtain⟨T,N,Q,R,S⟩:=fX Tryz.info2'
 go_in
 go_wp2
 go_loopw [5,6] (fun u t wr=>∃k:Nat,k<=n/\t=.int .i64 k/\Below w.heap.size w wr/\w.heap.size<wr.heap.size/\wr.cell? ⟨w.heap.size,1,none⟩=some (.slice l n y)/\wr.ownsRow (w.heap.size+1) 2 1 u (predsFrom (a.take k) 0 q).length ((predsFrom (a.take k) 0 q).map (Value.int .i64))) (fun _ t _=>n-(intOf t).toNat)
 case atStart=>exact⟨0,aN _,rfl,Xb (Xb (Below.refl _ _) _) _,by simp;omega,sP,K5 _ _⟩
 case round =>
  obtain⟨k,hk,rfl,i,D,A,g⟩:=hrel;by_cases aa:k<n
  ·have s:k<a.length:=oN F.out
   obtain⟨b,ac,rfl,⟨_,Z⟩,z⟩:=ha k s;obtain⟨pa,pc,ia,ic,_,_,⟨e2,e3,e4,e5⟩,_,_⟩:=z.keep (i.mono J) oM;have f:Hid (predsFrom (a.take (k+1)) 0 q=predsFrom (a.take k) 0 q++(if a[k].te.tg.contains q then [(k:Int)]else [])):=by
    show _=_;rw[X7 _ _ s,ZK];simp[jZ (dU s)]
   have ab:(predsFrom (a.take k) 0 q).length<=1048576:=by have:=YO q (a.take k) 0;simp at this;omega
   have d:=Xa g;clear g z;have h:=Xa (sU a[k].te q);generalize a[k]=X at *;by_cases c:X.te.tg.contains q=true
   ·have j:Hid (predsFrom (a.take (k+1)) 0 q=predsFrom (a.take k) 0 q++[(k:Int)]):=by have:=f.out;rw[aU c]at this;exact this
    have o:=h.1 c;clear c f h;generalize predsFrom (a.take k) 0 q=V at *;have p:(X.te.kind=1/\X.te.to=q)\/(X.te.kind=2/\X.te.to=q)\/(X.te.kind=2/\X.te.to≠q/\X.te.els=q):=oM;clear o;rcases p with⟨d1,d2⟩ | ⟨d1,d2⟩ | ⟨d1,d3,d2⟩
    all_goals
     go_wp2_with (at_builtin;refine fT _ rfl _ _ 27 rfl (w.heap.size+1) 2 T (.int .i64 0) 1 8 underlying27 N Q R S rfl vY _ _ _ rfl ((d.alloc _).alloc _) ⟨wr.heap.size+1,0,none⟩ 1 1 [.int .i64 k] rfl rfl ?c1 ?c2 ?c3 ?c4 ?c5 ?_)
     case c1 =>
      intro U u e
      match U,e with
      | 0,e=>simp at e;subst e;simp[Addr.add]
     case c2=>intro u E;simp at E;subst E;rfl
     case c3=>unfold maxLen;omega
     case c4=>omega
     case c5=>simp;omega
     intro v1 w1 C r _;have G:=Xa C;clear C;go_wp2;have K:=Xy (Xb (Xb i _) _) r ((d.alloc _).alloc _) oM (by simp;omega);have M:=YJ r ((d.alloc _).alloc _) (b:=w.heap.size) oM (by simp;omega);have P:=r.size;simp at P;exact⟨⟨k+1,oM,gM,K,oM,(Xc M).trans (oB (Xb (Xb (Below.refl wr.heap.size wr) _) _) A D),by rw[j.out,Yl];simpa using G.out⟩,by simp[intOf];omega⟩
   ·have j:Hid (predsFrom (a.take (k+1)) 0 q=predsFrom (a.take k) 0 q):=by have:=f.out;rw[aM c,fF]at this;exact this
    have o:¬((X.te.kind=1/\X.te.to=q)\/(X.te.kind=2/\(X.te.to=q\/X.te.els=q))):=fun I=>c (h.2 I)
    clear c f h;generalize predsFrom (a.take k) 0 q=V at *;have p:(X.te.kind=1/\(X.te.to==q)=false)\/(X.te.kind=2/\(X.te.to==q)=false/\(X.te.els==q)=false)\/((X.te.kind==1)=false/\(X.te.kind==2)=false):=by
     simp only[iS];omega
    clear o;rcases p with⟨d1,d2⟩ | ⟨d1,d2,d3⟩ | ⟨d1,d2⟩
    all_goals
     go_wp2;exact⟨⟨k+1,oM,gM,Xb i _,by simp;omega,oB (Xb (Below.refl wr.heap.size wr) _) A D,by rw[j.out];exact d.alloc _⟩,by simp[intOf];omega⟩
  ·go_wp2
   go_ret
   have m:=aW (l:=a) (i:=k) (oN F.out);rw[m]at g;obtain⟨Y,c1,rfl,O⟩:=Xk g;exact⟨_,_,rfl,i,O.mono oM (aA _)⟩
theorem yt(g j:Nat):(⟨g,0,none⟩:Addr).add j=⟨g,j,none⟩:=by unfold Addr.add;split<;>simp_all
theorem Jj(h:w.ownsRow n m k (.slice (some ⟨B,0,none⟩) g i) g y){u:Value}(a:y[j]?=some u):w.cell? ⟨B,j,none⟩=some u:=by
 have:=h.cells (g:=B) rfl j u a;rw[yt]at this;exact this
theorem x9(h:w.ownsRow n m k (.slice (some ⟨B,0,none⟩) g i) g y)(o:Nat):w.frozen? ⟨B,o,none⟩=false:=by
 rcases h.2 with⟨e2,_⟩ | ⟨g',cap,cur,e2,_,hh,_⟩
 ·cases e2
 ·injection e2 with e3
  injection e3 with e3;injection e3 with e4;subst e4;simp[World.frozen?,hh]
theorem Vc(h:w.ownsRow n m k a B y):(a=.slice none 0 0/\B=0/\y=[])\/∃g c,a=.slice (some ⟨g,0,none⟩) B c/\(n<=g/\g<w.heap.size)/\B<=c:=by
 rcases h.2 with⟨e1,e2⟩ | ⟨g,cap,cur,e1,hb,hh,hc,_⟩
 ·refine bC ⟨e1,e2,iE ?_⟩
  rw[h.1,e2,lC]
 ·exact aZ ⟨g,cap,e1,⟨hb,(aS.1 hh).1⟩,hc⟩
theorem Jg.block{b:Nat}{s:Sr}(h:Jg w b n m s)(c:v.heap[b]?=w.heap[b]?)(i:∀k,n<=k->k<m->v.heap[k]?=w.heap[k]?):Jg v b n m s:=by
 obtain⟨d,e,f,g⟩:=h.c0;have a:∀q,v.cell? ⟨b,q,none⟩=w.cell? ⟨b,q,none⟩:=fun q=>bZ c
 exact⟨⟨d,e,(a 0).trans f,g.keepS i⟩,(a 1).trans h.c1,(a 2).trans h.c2,(a 3).trans h.c3,fun q=>(bJ c).trans (h.thaw q),h.out⟩
theorem TW{b:Nat}(h:w.ownsRow n m k a B y)(c:w.grownBy v (some b))(d:b<n):v.ownsRow n m k a B y :=
 h.kept c (by
  cases e:a.ownBlock with
  | none=>exact bC rfl
  | some f=>exact aZ (fun e2=>by cases e2;have:=(h.lt _ e).1;omega))
theorem Ah(h:w.ownsRow n m k (.slice (some ⟨B,0,none⟩) g i) g y)(j:v.heap[B]?=w.heap[B]?):v.ownsRow n m k (.slice (some ⟨B,0,none⟩) g i) g y:=by
 obtain⟨a,h | ⟨o,l,b,e,d,f,c⟩⟩:=h
 ·exact⟨a,bC h⟩
 ·cases e
  exact⟨a,aZ ⟨B,i,b,rfl,d,j.trans f,c⟩⟩
theorem jo(h:w.ownsRow n m k (.slice (some ⟨B,0,none⟩) g i) g y)(u:Value):(w.setCell ⟨B,j,none⟩ u).ownsRow n m k (.slice (some ⟨B,0,none⟩) g i) g (y.set j u):=by
 obtain⟨l,b | ⟨s,r,a,e,d,f,c,o,p,q⟩⟩:=h
 ·cases b.1
 ·cases e
  refine⟨by rw[bL];exact l,aZ ⟨B,i,a.setIfInBounds j u,rfl,d,?_,c,o,by rw[jS];exact p,?_⟩⟩
  ·exact heap_setCell_same w B j a m u f
  ·rw[Array.toList_setIfInBounds,List.take_set,q]
theorem Xm(h:w.ownsRow n m k a B y)(b:0<B):∃g c,a=.slice (some ⟨g,0,none⟩) B c/\(n<=g/\g<w.heap.size)/\B<=c:=by
 rcases Vc h with⟨_,m,_⟩ | h
 ·omega
 ·exact h
theorem Zv{x:Int}(h:0<=x):∃m:Nat,x=m:=⟨x.toNat,oM⟩
structure ZQ(w:World)(sb B:Nat)(s:Sr):Prop where
 src:Jg w sb (sb+1) B s
 ok:Jb s
 bB:sb+1<=B
 sB:B<=w.heap.size
theorem ZQ.drew{s:Sr}(h:ZQ w n m s):ZQ w.drew n m s:=⟨h.src.drew,h.ok,h.bB,h.sB⟩
theorem ZQ.keep{w':World}{s:Sr}(h:ZQ w n B s)(a:Below B w w'):ZQ w' n B s:=by
 have c:=h.bB;exact⟨h.src.block (a.block _ oM) (fun k _ b=>a.block k b),h.ok,h.bB,aJ h.sB a.size⟩
theorem XC(a B:Nat)(s:Sr)(n:Int)(w:World)(h:Hid (ZQ w a B s))(d:n<=1000000)(f:-1000000<=n) :
 Calls prog 29 #[.pointer (some ⟨a,0,none⟩),.int .i64 n] w fun e b=>e=.returned (.int .i64 (nextP s n).1)/\ZQ b a B (nextP s n).2/\w.grownBy b (some a):=by
 refine(xK a (a+1) B s n w (Xa h.src) (Xa h.ok) d f).mono ?_;rintro e b ⟨rfl,g,c⟩;exact⟨rfl,⟨g,Y8 h.ok _,h.bB,aJ h.sB c.size⟩,c⟩
theorem Y5{b:Nat}(h:w.grownBy v (some b))(k:v.grownBy u (some b)):w.grownBy u (some b) :=
 ⟨k.os.trans h.os,k.tape.trans h.tape,k.output.trans h.output,aJ h.size k.size,fun i c a=>(k.block i (aX c h.size) a).trans (h.block i c a)⟩
theorem Xf.grown(h:Xf w n m p l)(g:w.grownBy v (some k))(f:k<n)(d:m<=w.heap.size):Xf v n m p l :=
 h.keepS (fun a b c=>g.block a oM (fun e=>by injection e;omega))
def YI(s:Sr)(a:List Int)(b:Bool):Int × Sr :=
 if a.length=0 then (0,s)
 else if b=true/\3<a.length then
  if (nextP s 4).1=0 then (a.getD (nextP (nextP s 4).2 a.length).1.toNat 0,(nextP (nextP s 4).2 a.length).2)
  else (a.getD ((a.length:Int)-1-(nextP (nextP s 4).2 3).1).toNat 0,(nextP (nextP s 4).2 3).2)
 else (a.getD (nextP s a.length).1.toNat 0,(nextP s a.length).2)
theorem jq{s:Sr}(h:Jb s)(b:List Int)(a:Bool):Jb (YI s b a).2:=by
 unfold YI;split
 ·exact h
 ·split
  ·split
   ·exact Y8 (Y8 h _) _
   ·exact Y8 (Y8 h _) _
  ·exact Y8 h _
theorem JA(g B:Nat)(s:Sr)(I:Option Addr)(n T:Nat)(a:List Int)(S Q:Nat)(l:Bool)(w:World)(k:Hid (ZQ w g B s))(M:Hid (Xf w S Q I a))(z:Hid (n=a.length))(hn:n<=5000)(y:g<S)(x:Q<=w.heap.size) :
 Calls prog 69 #[.pointer (some ⟨g,0,none⟩),.slice I n T,.bool l] w fun j A=>j=.returned (.int .i64 (YI s a l).1)/\ZQ A g B (YI s a l).2/\w.grownBy A (some g):=by
 have u:=z.out;by_cases U:n=0
 ·have d:Hid (YI s a l=(0,s)):=Xa (by unfold YI;rw[aU oM])
  subst U;clear u
  go_in
  go_wp2
  go_ret
  rw[d.out];exact⟨rfl,k,lJ _ _⟩
 ·have Y:(n==0)=false:=by simpa using U
  have ac:(0:Int)<n:=oM;have ad:((n:Int)==0)=false:=by simp;omega
  by_cases E:l=true/\3<n
  ·obtain⟨rfl,t⟩:=E
   have aa:(3:Int)<n:=oM;have d:Hid (YI s a true=if (nextP s 4).1=0 then (a.getD (nextP (nextP s 4).2 n).1.toNat 0,(nextP (nextP s 4).2 n).2)else (a.getD ((n:Int)-1-(nextP (nextP s 4).2 3).1).toNat 0,(nextP (nextP s 4).2 3).2)):=Xa (by unfold YI;rw[aM oM,aU ⟨rfl,oM⟩,<-u]);clear u
   go_in
   go_wp2_with fail
   refine(XC g B s 4 w k oM oM).mono ?_;rintro j V ⟨rfl,b,c⟩;have C:=Xa c;obtain⟨r,s1,e⟩:∃r i,nextP s 4=(r,i):=⟨_,_,rfl⟩;rw[e]at b d |-;dsimp only at b d |-;have R:=Xa b;have D:=Xa (M.grown c y x);clear b c e;by_cases L:r=0
   ·subst L
    go_wp2_with fail
    refine(XC g B s1 n V R oM oM).mono ?_;rintro j P ⟨rfl,b,c⟩;have f:=XE s1 (n:=(n:Int)) oM;obtain⟨q,s2,e⟩:∃r i,nextP s1 n=(r,i):=⟨_,_,rfl⟩;rw[e]at b d f |-;dsimp only at b d f |-;rw[aU trivial]at d;obtain⟨q,rfl⟩:=Zv f.1;have h:q<a.length:=oN z.out
    obtain⟨J,N,rfl,p,K⟩:=(D.grown c y (aJ x C.size)) q h;rw[show a.getD ((q:Int)).toNat 0=a[q] by simp[h]]at d;have o:=Xa (Y5 C c);have m:=Xa b;clear b c e p D;generalize a[q]=O at *;go_wp2
    go_ret
    rw[d.out];exact⟨rfl,m,o⟩
   ·have af:(r==0)=false:=by simpa using L
    rw[aM L]at d
    go_wp2_with fail
    refine(XC g B s1 3 V R oM oM).mono ?_;rintro j P ⟨rfl,b,c⟩;have f:=XE s1 (n:=3) oM;obtain⟨q,s2,e⟩:∃r i,nextP s1 3=(r,i):=⟨_,_,rfl⟩;rw[e]at b d f |-;dsimp only at b d f |-;obtain⟨v,X⟩:=Zv (x:=(n:Int)-1-q) oM;have h:v<a.length:=oN z.out
    obtain⟨J,N,rfl,p,K⟩:=(D.grown c y (aJ x C.size)) v h;rw[X,show a.getD ((v:Int)).toNat 0=a[v] by simp[h]]at d;have o:=Xa (Y5 C c);have m:=Xa b;clear b c e p D;have ab:v<n:=oM;generalize a[v]=O at *;go_wp2
    go_ret
    rw[d.out];exact⟨rfl,m,o⟩
  ·have d:Hid (YI s a l=(a.getD (nextP s n).1.toNat 0,(nextP s n).2)):=Xa (by unfold YI;rw[aM oM,aM (by rw[<-u];exact E),<-u])
   clear u;have W:∀(F:Bool)(t:F=false\/¬(3:Int)<n),Calls prog 69 #[.pointer (some ⟨g,0,none⟩),.slice I n T,.bool F] w fun j A=>j=.returned (.int .i64 (a.getD (nextP s n).1.toNat 0))/\ZQ A g B (nextP s n).2/\w.grownBy A (some g):=by
    intro F t;clear E d;cases F with
    | false =>
     clear t
     go_in
     go_wp2_with fail
     refine(XC g B s n w k oM oM).mono ?_;rintro j P ⟨rfl,b,c⟩;have f:=XE s (n:=(n:Int)) oM;obtain⟨q,s2,e⟩:∃r i,nextP s n=(r,i):=⟨_,_,rfl⟩;have H:=Xa e;rw[e]at b f |-;dsimp only at b f |-;obtain⟨q,rfl⟩:=Zv f.1;have h:q<a.length:=oN z.out
     obtain⟨J,N,rfl,p,K⟩:=(M.grown c y x) q h;have G:Hid (a.getD ((q:Int)).toNat 0=a[q]):=Xa (by simp[h]);have o:=Xa c;have m:=Xa b;clear b c e p;generalize a[q]=O at *;go_wp2
     go_ret
     rw[H.out];dsimp only;rw[G.out];exact⟨rfl,m,o⟩
    | true =>
     have Z:¬(3:Int)<n:=by rcases t with k | k;cases k;exact k
     clear t
     go_in
     go_wp2_with fail
     refine(XC g B s n w k oM oM).mono ?_;rintro j P ⟨rfl,b,c⟩;have f:=XE s (n:=(n:Int)) oM;obtain⟨q,s2,e⟩:∃r i,nextP s n=(r,i):=⟨_,_,rfl⟩;have H:=Xa e;rw[e]at b f |-;dsimp only at b f |-;obtain⟨q,rfl⟩:=Zv f.1;have h:q<a.length:=oN z.out
     obtain⟨J,N,rfl,p,K⟩:=(M.grown c y x) q h;have G:Hid (a.getD ((q:Int)).toNat 0=a[q]):=Xa (by simp[h]);have o:=Xa c;have m:=Xa b;clear b c e p;generalize a[q]=O at *;go_wp2
     go_ret
     rw[H.out];dsimp only;rw[G.out];exact⟨rfl,m,o⟩
   rw[d.out];exact W l (by
    cases l with
    | false=>exact bC rfl
    | true=>exact aZ (fun t=>E ⟨rfl,oM⟩))
def KX(s:Sr):Int × Sr :=
 if (nextP s 16).1<10 then ((nextP s 16).1-3,(nextP s 16).2)
 else if (nextP s 16).1=10 then (1000000000,(nextP s 16).2)
 else if (nextP s 16).1=11 then (-1000000000,(nextP s 16).2)
 else ((nextP (nextP s 16).2 200).1-100,(nextP (nextP s 16).2 200).2)
theorem x7{s:Sr}(h:Jb s):Jb (KX s).2:=by
 unfold KX;split
 ·exact Y8 h _
 ·split
  ·exact Y8 h _
  ·split
   ·exact Y8 h _
   ·exact Y8 (Y8 h _) _
theorem mm(e B:Nat)(s:Sr)(w:World)(u:Hid (ZQ w e B s)) :
 Calls prog 104 #[.pointer (some ⟨e,0,none⟩)] w fun j p=>j=.returned (.int .i64 (KX s).1)/\ZQ p e B (KX s).2/\w.grownBy p (some e):=by
 have a:Hid (KX s=if (nextP s 16).1<10 then ((nextP s 16).1-3,(nextP s 16).2)else if (nextP s 16).1=10 then (1000000000,(nextP s 16).2)else if (nextP s 16).1=11 then (-1000000000,(nextP s 16).2)else ((nextP (nextP s 16).2 200).1-100,(nextP (nextP s 16).2 200).2)):=Xa rfl
 go_in
 go_wp2_with fail
 refine(XC e B s 16 w u oM oM).mono ?_;rintro j y ⟨rfl,b,f⟩;have o:=XE s (n:=16) oM;obtain⟨k,s1,g⟩:∃r l,nextP s 16=(r,l):=⟨_,_,rfl⟩;rw[g]at b a o |-;dsimp only at b a o |-;have h:=Xa b;have i:=Xa f;clear b f g;by_cases m:k<10
 ·rw[aU m]at a
  go_wp2
  go_ret
  rw[a.out];exact⟨rfl,h,i⟩
 ·rw[aM m]at a
  by_cases c:k=10
  ·rw[aU c]at a
   have v:(k==10)=true:=by simpa using c
   clear c;go_wp2
   go_ret
   rw[a.out];exact⟨rfl,h,i⟩
  ·rw[aM c]at a
   have v:(k==10)=false:=by simpa using c
   by_cases d:k=11
   ·rw[aU d]at a
    have x:(k==11)=true:=by simpa using d
    clear c d;go_wp2
    go_ret
    rw[a.out];exact⟨rfl,h,i⟩
   ·rw[aM d]at a
    have x:(k==11)=false:=by simpa using d
    clear c d
    go_wp2_with fail
    refine(XC e B s1 200 y h oM oM).mono ?_;rintro j A ⟨rfl,b,f⟩;have n:=XE s1 (n:=200) oM;obtain⟨z,s2,g⟩:∃r l,nextP s1 200=(r,l):=⟨_,_,rfl⟩;rw[g]at b a n |-;dsimp only at b a n |-;have q:=Xa b;have t:=Xa (Y5 i f);clear b f g;go_wp2
    go_ret
    rw[a.out];exact⟨rfl,q,t⟩
def cm(k a b:Int)(n:Nat)(c:Int)(s:Sr):Yg × Sr :=
 if k<2\/n=0 then (⟨1,c,0,0,(KX s).1⟩,(KX s).2)
 else if k=2 then (⟨2,c,0,0,(nextP s 8).1⟩,(nextP s 8).2)
 else if k=9 then (⟨8,c,a,0,0⟩,s)
 else if k=10 then (⟨9,0,a,b,0⟩,s)
 else if k=11 then (⟨10,0,a,0,0⟩,s)
 else if k=7 then (⟨if (nextP s 2).1=0 then 6 else 3,c,a,b,0⟩,(nextP s 2).2)
 else (⟨if k=4\/k=5 then 4 else if k=6 then 5 else if k=8 then 7 else 3,c,a,b,0⟩,s)
def instrP(s:Sr)(a:List Int)(c:Int)(b:Bool):Yg × Sr :=
 cm (nextP s 14).1 (YI (nextP s 14).2 a b).1 (YI (YI (nextP s 14).2 a b).2 a b).1 a.length c (YI (YI (nextP s 14).2 a b).2 a b).2
def Yg.agg(x:Yg):Value:=.agg #[.int .i64 x.op,.int .i64 x.dst,.int .i64 x.a,.int .i64 x.b,.int .i64 x.imm]
theorem zY{b:Int}{s:Sr}(h:Jb s):Jb (cm t T b n z s).2:=by
 unfold cm
 repeat' split
 all_goals first | exact x7 h | exact Y8 h _ | exact h
theorem oE{s:Sr}(h:Jb s):Jb (instrP s l t r).2:=zY (jq (jq (Y8 h _) _ _) _ _)
theorem mp{o:Obj}{b:Nat}(h:(w.alloc o).grownBy v (some b)):w.grownBy v (some b):=by
 have k:=bW w o (some b);exact⟨h.os.trans k.os,h.tape.trans k.tape,h.output.trans k.output,aJ k.size h.size,fun i c a=>(h.block i (aX c k.size) a).trans (k.block i c a)⟩
theorem XS{b:Nat}(h:w.grownBy v (some b))(e:w.heap.size<=n):w.grownBy (v.setCell ⟨n,m,none⟩ a) (some b) :=
 ⟨h.os,h.tape,h.output,by simpa [World.setCell]using h.size,fun i d c=>(Below.heap_setCell _ _ _ _ (by show i≠n;omega)).trans (h.block i d c)⟩
theorem ZQ.put{s:Sr}(h:ZQ w n m s)(b:m<=k):ZQ (w.setCell ⟨k,B,none⟩ a) n m s:=h.keep ((Below.refl m w).setCell b _)
theorem ZQ.box{s:Sr}(h:ZQ w n m s)(o:Obj):ZQ (w.alloc o) n m s:=h.keep (Below.alloc (Below.refl _ _) h.sB _)
section
def Yu{T:Type}(f:Nat->T->List Value):Nat->List T->List Value
 | _,[]=>[]
 | k,x::xs=>f k x++Yu f (k+1) xs
variable {T : Type} {f f' : Nat -> T -> List Value} {sz : Nat}
theorem Zn(b:∀k x,(f k x).length=sz):∀(k:Nat)(a:List T),(Yu f k a).length=a.length*sz
 | _,[]=>by simp[Yu]
 | k,x::a=>by rw[Yu,aQ,b,Zn b,bA,jK,jL,Nat.add_comm]
theorem Xz(b:∀k x,(f k x).length=sz):∀(k:Nat)(a:List T)(i:Nat)(h:i<a.length)(q:Nat),q<sz->(Yu f k a)[i*sz+q]?=(f (k+i) a[i])[q]?
 | _,[],_,h,_,_=>absurd h sP
 | k,x::a,0,_,q,hq=>by
  rw[Yu,lC,aV,dL (by rw[b];exact hq)];rfl
 | k,x::a,i+1,h,q,hq=>by
  rw[Yu,eV (by rw[b,jK,jL];omega),b,show(i+1)*sz+q-sz=i*sz+q by rw[jK,jL];omega,Xz b (k+1) a i (by simpa using h) q hq,fO,show k+1+i=k+(i+1) by omega]
theorem Zo:∀(k:Nat)(a:List T)(x:T),Yu f k (a++[x])=Yu f k a++f (k+a.length) x
 | k,[],x=>by simp[Yu]
 | k,y::a,x=>by rw[cW,Yu,Yu,Zo (k+1) a x,cK,bA,show k+1+a.length=k+(a.length+1) by omega]
theorem ZF:∀(k:Nat)(a:List T),(∀i (h:i<a.length),f (k+i) a[i]=f' (k+i) a[i])->Yu f k a=Yu f' k a
 | _,[],_=>rfl
 | k,x::a,h=>by
  rw[Yu,Yu,ZF (k+1) a (fun i b=>by have:=h (i+1) (by simpa using b);rwa[fO,show k+(i+1)=k+1+i by omega]at this)];have:=h 0 sP;rw[fW,eM]at this;rw[this]
theorem Yr(c:∀k x,(f k x).length=sz):∀(k:Nat)(a:List T)(i:Nat)(h:i<a.length)(y:T)(q:Nat)(u:Value),q<sz->f' (k+i) y=(f (k+i) a[i]).set q u->(∀j (b:j<a.length),j≠i->f' (k+j) a[j]=f (k+j) a[j])->Yu f' k (a.set i y)=(Yu f k a).set (i*sz+q) u
 | _,[],_,h,_,_,_,_,_,_=>absurd h sP
 | k,x::a,0,_,y,q,u,hq,hy,b=>by
  rw[List.set_cons_zero,Yu,Yu,lC,aV,List.set_append_left _ _ (by rw[c];exact hq)];rw[fW,eM]at hy;rw[hy,ZF (f:=f') (f':=f) (k+1) a (fun i e=>by have:=b (i+1) (by simpa using e) oM;rwa[fO,show k+(i+1)=k+1+i by omega]at this)]
 | k,x::a,i+1,h,y,q,u,hq,hy,b=>by
  have d:=b 0 sP oM;rw[fW,eM]at d;rw[fO,show k+(i+1)=k+1+i by omega]at hy;rw[List.set_cons_succ,Yu,Yu,d,List.set_append_right _ _ (by rw[c,jK,jL];omega),c,show(i+1)*sz+q-sz=i*sz+q by rw[jK,jL];omega,
   Yr c (k+1) a i (by simpa using h) y q u hq hy (fun j g l=>by have:=b (j+1) (by simpa using g) oM;rwa[fO,show k+(j+1)=k+1+j by omega]at this)]
structure Xv(w:World)(lab:Nat->Nat × Nat × Nat)(L:Nat × Nat × Nat)(base t sz:Nat)(v:Value)(n:Nat)(cs:List Value):Prop where
 own:w.ownsRow base t sz v n cs
 lab:∀b,v.ownBlock=some b->lab b=L
theorem Zl{w w':World}{a t sz:Nat}{v:Value}{n:Nat}{c:List Value}(h:w.ownsRow a t sz v n c)(o:∀b,v.ownBlock=some b->w'.heap[b]?=w.heap[b]?):w'.ownsRow a t sz v n c:=by
 obtain⟨d,h | ⟨g,e,i,j,l,m,k⟩⟩:=h
 ·exact⟨d,bC h⟩
 ·subst j
  exact⟨d,aZ ⟨g,e,i,rfl,l,(o g rfl).trans m,k⟩⟩
theorem Xv.keep{w w':World}{d g:Nat->Nat × Nat × Nat}{L:Nat × Nat × Nat}{a t sz:Nat}{v:Value}{n:Nat}{c:List Value}(h:Xv w d L a t sz v n c)(k:∀b,a<=b->b<w.heap.size->d b=L->w'.heap[b]?=w.heap[b]?/\g b=L):Xv w' g L a t sz v n c :=
 ⟨Zl h.own (fun b e=>(k b (h.own.lt b e).1 (h.own.lt b e).2 (h.lab b e)).1),fun b e=>(k b (h.own.lt b e).1 (h.own.lt b e).2 (h.lab b e)).2⟩
theorem Xv.set{w:World}{d:Nat->Nat × Nat × Nat}{L:Nat × Nat × Nat}{a t sz g n c:Nat}{b:List Value}(h:Xv w d L a t sz (.slice (some ⟨g,0,none⟩) n c) n b)(q:Nat)(u:Value):Xv (w.setCell ⟨g,q,none⟩ u) d L a t sz (.slice (some ⟨g,0,none⟩) n c) n (b.set q u):=⟨jo h.own u,h.lab⟩
theorem Xv.thaw{w:World}{d:Nat->Nat × Nat × Nat}{L:Nat × Nat × Nat}{a t sz g n c:Nat}{b:List Value}(h:Xv w d L a t sz (.slice (some ⟨g,0,none⟩) n c) n b)(q:Nat):w.frozen? ⟨g,q,none⟩=false:=h.own.frozenAt q
theorem Xv.cell{w:World}{e:Nat->Nat × Nat × Nat}{L:Nat × Nat × Nat}{b t sz g n c:Nat}{a:List Value}(h:Xv w e L b t sz (.slice (some ⟨g,0,none⟩) n c) n a){q:Nat}{u:Value}(d:a[q]?=some u):w.cell? ⟨g,q,none⟩=some u:=Jj h.own d
theorem Xv.blk{w:World}{b:Nat->Nat × Nat × Nat}{L:Nat × Nat × Nat}{a t sz g n c:Nat}{d:List Value}(h:Xv w b L a t sz (.slice (some ⟨g,0,none⟩) n c) n d):(a<=g/\g<w.heap.size)/\b g=L:=⟨h.own.lt g rfl,h.lab g rfl⟩
theorem Xv.got{w:World}{i:Nat->Nat × Nat × Nat}{L:Nat × Nat × Nat}{a t sz n:Nat}{v:Value}{b:List Value}(h:Xv w i L a t sz v n b)(d:0<n):∃g c,v=.slice (some ⟨g,0,none⟩) n c:=by
 obtain⟨g,c,e,_⟩:=Xm h.own d;exact⟨g,c,e⟩
theorem Xv.form{w:World}{i:Nat->Nat × Nat × Nat}{L:Nat × Nat × Nat}{b t sz n:Nat}{v:Value}{d:List Value}(h:Xv w i L b t sz v n d):∃a c,v=.slice a n c:=by
 rcases h.own.2 with⟨e,h0⟩ | ⟨g,cap,_,e,_⟩
 ·exact⟨none,0,by rw[e,h0]⟩
 ·exact⟨_,_,e⟩
def UT(p i:Value)(t:Yj):List Value:=[p,i,.int .i64 t.kind,.int .i64 t.a,.int .i64 t.to,.int .i64 t.els]
def XF(b a:Nat->Value)(c:List Xe):List Value:=Yu (fun i x=>UT (b i) (a i) x.te) 0 c
def Yh(av:Nat->Value)(a:List Ph):List Value:=Yu (fun j p=>[.int .i64 p.dst,av j]) 0 a
def YC(a:List Yg):List Value:=Yu (fun _ x=>x.cells) 0 a
def Xt(a:List Int):List Value:=a.map (Value.int .i64)
structure ZU(w:World)(lab:Nat->Nat × Nat × Nat)(base:Nat)(v:Value)(xs:List Xe)(pv iv:Nat->Value)(av:Nat->Nat->Value):Prop where
 blks:Xv w lab (1,0,0) base 90 6 v xs.length (XF pv iv xs)
 ps:∀i (h:i<xs.length),Xv w lab (2,i,0) base 96 2 (pv i) xs[i].ps.length (Yh (av i) xs[i].ps)
 ins:∀i (h:i<xs.length),Xv w lab (3,i,0) base 98 5 (iv i) xs[i].is.length (YC xs[i].is)
 args:∀i (h:i<xs.length) j (hj:j<xs[i].ps.length),Xv w lab (4,i,j) base 2 1 (av i j) xs[i].ps[j].args.length (Xt xs[i].ps[j].args)
theorem KU(p i:Value)(t:Yj):(UT p i t).length=6:=rfl
theorem Xv.ints{w:World}{j:Nat->Nat × Nat × Nat}{L:Nat × Nat × Nat}{c n:Nat}{b:Option Addr}{d:Nat}{a:List Int}(h:Xv w j L c 2 1 (.slice b n d) a.length (Xt a)):Xf w c w.heap.size b a:=fun l i=>by
 obtain⟨g,k,e⟩:=h.got oM;cases e;exact⟨g,0,rfl,h.blk.1,by rw[aV];exact h.cell (by unfold Xt;simp[i])⟩
theorem ZU.at_{w:World}{F:Nat->Nat × Nat × Nat}{r:Nat}{p:Option Addr}{G B:Nat}{c:List Xe}{y x:Nat->Value}{av:Nat->Nat->Value}(h:ZU w F r (.slice p G B) c y x av):Xp w r w.heap.size p c:=fun i e=>by
 obtain⟨t,I,g⟩:=h.blks.got oM;cases g;have v:=h.blks;obtain⟨H,a,o⟩:=(h.ps i e).form;obtain⟨D,E,n⟩:=(h.ins i e).form;have d:∀q u,q<6->(UT (y i) (x i) c[i].te)[q]?=some u->w.cell? ⟨t,i*6+q,none⟩=some u:=fun q u hq l=>v.cell (by
  unfold XF;rw[Xz (fun _ _=>KU _ _ _) 0 c i e q hq,aV];exact l)
 refine⟨t,0,rfl,v.blk.1,H,a,D,E,?_,?_,⟨?_,?_,?_,?_⟩,fun j m=>?_,fun j m=>?_⟩
 ·rw[aV];exact d 0 _ oM (by rw[<-o];rfl)
 ·rw[aV];exact d 1 _ oM (by rw[<-n];rfl)
 ·rw[aV];exact d 2 _ oM rfl
 ·rw[aV];exact d 3 _ oM rfl
 ·rw[aV];exact d 4 _ oM rfl
 ·rw[aV];exact d 5 _ oM rfl
 ·have b:=h.ps i e
  obtain⟨k,C,g⟩:=b.got oM;rw[g]at o b;cases o;have ha:=h.args i e j m;obtain⟨z,A,s⟩:=ha.form;have a:∀q u,q<2->([.int .i64 c[i].ps[j].dst,av i j]:List Value)[q]?=some u->w.cell? ⟨k,j*2+q,none⟩=some u:=fun q u hq l=>b.cell (by
   unfold Yh;rw[Xz (sz:=2) (fun _ _=>rfl) 0 c[i].ps j m q hq,aV];exact l)
  rw[s]at ha;exact⟨k,0,rfl,b.blk.1,z,A,by rw[aV];exact a 0 _ oM rfl,by rw[aV];exact a 1 _ oM (by rw[<-s];rfl),ha.ints⟩
 ·have b:=h.ins i e
  obtain⟨k,C,g⟩:=b.got oM;rw[g]at n b;cases n;have a:∀q u,q<5->(c[i].is[j].cells)[q]?=some u->w.cell? ⟨k,j*5+q,none⟩=some u:=fun q u hq l=>b.cell (by
   unfold YC;rw[Xz (sz:=5) (fun _ _=>rfl) 0 c[i].is j m q hq];exact l)
  exact⟨k,0,rfl,b.blk.1,by rw[aV];exact a 0 _ oM rfl,by rw[aV];exact a 1 _ oM rfl,by rw[aV];exact a 2 _ oM rfl,by rw[aV];exact a 3 _ oM rfl,by rw[aV];exact a 4 _ oM rfl⟩
end
def VX(s:Sr)(n:Nat):Int × Sr:=if 2<n then (1+(nextP s ((n:Int)-1)).1,(nextP s ((n:Int)-1)).2)else (0,s)
def brP(s:Sr)(o i:Int):Yj × Sr :=
 if o≠0/\o≠i then
  if (nextP s 4).1=0 then (⟨1,0,i,0⟩,(nextP s 4).2)
  else if (nextP (nextP s 4).2 2).1=0 then (⟨2,0,o,i⟩,(nextP (nextP s 4).2 2).2)else (⟨2,0,i,o⟩,(nextP (nextP s 4).2 2).2)
 else (⟨1,0,i,0⟩,s)
def eo(s:Sr)(n:Nat):Yj × Sr :=
 if 1<n then
  if (nextP s 8).1=0 then (⟨1,0,1+(nextP (nextP s 8).2 ((n:Int)-1)).1,0⟩,(nextP (nextP s 8).2 ((n:Int)-1)).2)else (⟨3,0,0,0⟩,(nextP s 8).2)
 else (⟨3,0,0,0⟩,s)
def terK(s:Sr)(n i:Nat):Yj × Sr:=if i+1<n then brP (VX s n).2 (VX s n).1 ((i:Int)+1)else eo s n
def JB(n:Nat):Nat->Nat->Sr->List Yj->List Yj × Sr
 | 0,_,s,acc=>(acc,s)
 | k+1,i,s,acc=>JB n k (i+1) (terK s n i).2 (acc++[(terK s n i).1])
theorem pE(n:Nat):∀(k i:Nat)(s:Sr)(a:List Yj),(JB n k i s a).1.length=a.length+k
 | 0,_,_,_=>rfl
 | k+1,i,s,a=>by rw[JB,pE];simp;omega
def ai(n i:Nat)(t:Yj):Prop :=
 (t=⟨3,0,0,0⟩/\¬i+1<n)\/(∃q:Nat,t=⟨1,0,q,0⟩/\1<=q/\q<n/\(i+1<n->q=i+1))\/(∃q r:Nat,t=⟨2,0,q,r⟩/\1<=q/\q<n/\1<=r/\r<n/\q≠r/\(q=i+1\/r=i+1)/\i+1<n)
theorem z9(s:Sr)(n:Nat):(VX s n).1=0\/(1<=(VX s n).1/\(VX s n).1<n):=by
 unfold VX;split
 ·rename_i h
  have:=XE s (n:=(n:Int)-1) oM;right;show 1<=1+(nextP s ((n:Int)-1)).1/\1+(nextP s ((n:Int)-1)).1<n;omega
 ·exact bC rfl
theorem ze(s:Sr)(n i:Nat)(h:i<n):ai n i (terK s n i).1:=by
 unfold terK;split
 ·rename_i a
  have e:=z9 s n;unfold brP;split
  ·rename_i b
   obtain⟨q,hq⟩:=Zv (x:=(VX s n).1) oM;rw[hq]at b e |-;split
   ·exact aZ (bC ⟨i+1,rfl,oM,a,fun _=>rfl⟩)
   ·split
    ·exact aZ (aZ ⟨q,i+1,rfl,oM,oM,oM,a,oM,aZ rfl,a⟩)
    ·exact aZ (aZ ⟨i+1,q,rfl,oM,a,oM,oM,oM,bC rfl,a⟩)
  ·exact aZ (bC ⟨i+1,rfl,oM,a,fun _=>rfl⟩)
 ·rename_i a
  unfold eo;split
  ·rename_i b
   split
   ·have c:=XE (nextP s 8).2 (n:=(n:Int)-1) oM
    obtain⟨q,hq⟩:=Zv c.1;rw[hq]at c |-;exact aZ (bC ⟨1+q,sP,oM,oM,fun d=>absurd d a⟩)
   ·exact bC ⟨rfl,a⟩
  ·exact bC ⟨rfl,a⟩
theorem pH(n:Nat):∀(k i:Nat)(s:Sr)(a:List Yj),a.length=i->i+k=n->(∀j (h:j<a.length),ai n j a[j])->∀j (h:j<(JB n k i s a).1.length),ai n j (JB n k i s a).1[j]
 | 0,_,_,_,_,_,h=>h
 | k+1,i,s,a,hl,hn,h=>by
  rw[JB];refine pH n k (i+1) _ _ (by simp[hl]) oM (fun j b=>?_);by_cases e:j<a.length
  ·rw[fA e];exact h j e
  ·have c:j=i:=by simp at b;omega
   subst c;rw[fN oM];simp only[hl,kL,eM];exact ze s n j oM
def Yt(t:Yj):Xe:=⟨[],[],t⟩
def Zz:Nat->Value:=fun _=>.slice none 0 0
def Bx(w:World)(b:Nat)(a:Array Value)(t:Nat):Prop:=w.heap[b]?=some (.cells a t)
theorem Bx.lt{b:Nat}(h:Bx w b E n):b<w.heap.size:=by
 by_cases e:b<w.heap.size
 ·exact e
 ·unfold Bx at h
  rw[iI oM]at h;cases h
theorem Bx.cell{b q:Nat}{u:Value}(h:Bx w b E n)(hq:E[q]?=some u):w.cell? ⟨b,q,none⟩=some u:=(cell_of_row w b q E n _ h).trans hq
theorem Bx.thaw{b:Nat}(h:Bx w b E n)(q:Nat):w.frozen? ⟨b,q,none⟩=false:=by
 unfold World.frozen?;unfold Bx at h;show(match w.heap[b]? with | some (.cells _ _ (lo,hi))=>decide (lo<=q)&&decide (q<hi) | _=>false)=false
 rw[h];simp
theorem Bx.set{b:Nat}(h:Bx w b E n)(q:Nat)(u:Value):Bx (w.setCell ⟨b,q,none⟩ u) b (E.setIfInBounds q u) n:=heap_setCell_same w b q E n u h
theorem Bx.keep{w':World}{b:Nat}(h:Bx w b E n)(k:w'.heap[b]?=w.heap[b]?):Bx w' b E n:=k.trans h
theorem Bx.new(w:World)(a:Array Value)(t:Nat):Bx (w.alloc (.cells a t)) w.heap.size a t:=World.alloc_heap_new _ _
theorem Bx.box{b:Nat}(h:Bx w b E n)(o:Obj):Bx (w.alloc o) b E n:=h.keep (Below.heap_alloc _ _ _ h.lt)
theorem Bx.other{b:Nat}(h:Bx w b E n)(c:b≠m):Bx (w.setCell ⟨m,k,none⟩ a) b E n:=h.keep (Below.heap_setCell _ _ _ _ c)
theorem Bx.grown{b:Nat}{r:Option Nat}(h:Bx w b E n)(g:w.grownBy v r)(a:some b≠r):Bx v b E n:=h.keep (g.block b h.lt a)
structure SkW(w wr:World)(sb B:Nat)(s:Sr)(v:Value)(acc:List Yj):Prop where
 dr:ZQ wr sb B s
 gr:w.grownBy wr (some sb)
 bw:B<=w.heap.size
 res:Bx wr w.heap.size #[.int .i64 0,.slice none 0 0] 25
 fun_:Bx wr (w.heap.size+1) #[.int .i64 0,v] 25
 own:wr.ownsRow (w.heap.size+2) 90 6 v acc.length (XF Zz Zz (acc.map Yt))
 size:w.heap.size+2<=wr.heap.size
theorem SkW.next{wr:World}{s c:Sr}{b:List Yj}(h:SkW w wr n m s a b)(g:wr.grownBy v (some n))(d:ZQ v n m c):SkW w v n m c a b:=by
 have f:=h.dr.bB;have i:=h.bw;exact⟨d,Y5 h.gr g,h.bw,h.res.grown g (by intro e;injection e;omega),h.fun_.grown g (by intro e;injection e;omega),TW h.own g oM,aJ h.size g.size⟩
theorem SkW.box{wr:World}{s:Sr}{b:List Yj}(h:SkW w wr n m s a b)(o:Obj):SkW w (wr.alloc o) n m s a b:=by
 have k:=bW wr o (some n);exact⟨h.dr.box o,Y5 h.gr k,h.bw,h.res.box o,h.fun_.box o,h.own.alloc o,aJ h.size k.size⟩
theorem SkW.put{wr:World}{s:Sr}{b:List Yj}(h:SkW w wr n m s a b)(d:w.heap.size+2<=k)(c:a.ownBlock≠some k):SkW w (wr.setCell ⟨k,B,none⟩ A) n m s a b:=by
 have e:=h.bw;exact⟨h.dr.put oM,XS h.gr oM,h.bw,h.res.other oM,h.fun_.other oM,fS h.own c A,by simpa [World.setCell]using h.size⟩
end Go.Proofs.YtghnlncgiihhgaaGreatDoor
