import Derived.Deep.QuietTactic
import Derived.Test.YtghnlncgiihhgaaGreatDoorSP1
namespace Go.Proofs.YtghnlncgiihhgaaGreatDoor
set_option maxHeartbeats 4000000
open Go.RowKit Go.Proofs.Tryz
variable{t:Int}{l:List Int}{x:List Xe}{n m k:Nat}{M:Nat->Nat->Nat}{w v:World}{q:Xe}
theorem Ww(a:List Ph)(p:Ph):XZ (a++[p])=XZ a+(1+p.args.length):=by simp[XZ]
theorem Ux(a:List Xe)(x:Xe):Xo (a++[x])=Xo a+(1+x.is.length+XZ x.ps):=by simp[Xo,Ul]
theorem mb(a:List Ph):a.length<=XZ a:=by
 induction a with
 | nil=>simp
 | cons p a b=>simp only[XZ,eH,kX,bA]at b |-;omega
theorem Wm(a:List Ph)(k:Nat):XZ (a.take k)<=XZ a:=Tw _ _ _
theorem Up(a:List Xe)(k:Nat):Xo (a.take k)<=Xo a:=Tw _ _ _
theorem ll(v:Int)(c:Option Addr)(n d:Nat)(a:List Xe)(L B:Nat)(w:World)(ha:Hid (Xp w L B c a))(x:Hid (n=a.length))(hn:n<=1048576)(hs:Xo a<=1048576)(z:B<=w.heap.size) :
 Calls prog 43 #[.agg #[.int .i64 v,.slice c n d]] w fun e A=>e=.returned (.int .i64 (Xo a))/\Below w.heap.size w A:=by
 go_in
 go_wp2;have p:=Xb (Below.refl w.heap.size w) (.cells #[.int .i64 v,.slice c n d] 25);have V:(w.alloc (.cells #[.int .i64 v,.slice c n d] 25)).cell? ⟨w.heap.size,1,none⟩=some (.slice c n d):=sP;generalize w.alloc _=w1 at *
 go_loop [3,4] (fun u i=>∃k:Nat,k<=n/\i=.int .i64 k/\u=.int .i64 (Xo (a.take k):Nat)) (fun _ i=>n-(intOf i).toNat)
 case atStart=>exact⟨0,aN _,rfl,rfl⟩
 case round =>
  obtain⟨k,Y,rfl,rfl⟩:=hrel;by_cases Z:k<n
  ·have s:k<a.length:=oN x.out
   obtain⟨b,ac,rfl,⟨_,R⟩,q⟩:=ha k s;obtain⟨pa,pc,ia,ic,K,e1,_,t,_⟩:=q.keep (p.mono z) oM;have y:=Xa t;have f:Hid (Xo (a.take (k+1))=Xo (a.take k)+(1+a[k].is.length+XZ a[k].ps)):=by show _=_;rw[X7 _ _ s,Ux]
   have g:=Up a (k+1);have C:=Xa g;have O:Xo (a.take k)+(1+a[k].is.length+XZ a[k].ps)<=1048576:=oN f.out
   have ab:a[k].ps.length<=1048576:=oN (mb a[k].ps)
   clear q t g;generalize a[k]=X at *;generalize m:Xo (a.take k)=S at *;have F:=Xa m;clear m;go_wp2
   go_loop [3,5] (fun u i=>∃j:Nat,j<=X.ps.length/\i=.int .i64 j/\u=.int .i64 (S+(1+X.is.length)+XZ (X.ps.take j):Nat)) (fun _ i=>X.ps.length-(intOf i).toNat)
   case atStart=>exact⟨0,aN _,rfl,by simp[XZ];try omega⟩
   case round =>
    obtain⟨j,W,rfl,rfl⟩:=hrel;by_cases r:j<X.ps.length
    ·obtain⟨I,o',rfl,⟨_,U⟩,H,J,M,N,_⟩:=y j r
     have h:Hid (XZ (X.ps.take (j+1))=XZ (X.ps.take j)+(1+X.ps[j].args.length)):=by show _=_;rw[X7 _ _ r,Ww]
     have l:=Wm X.ps (j+1);have Q:XZ (X.ps.take j)+(1+X.ps[j].args.length)<=XZ X.ps:=oN h.out
     have D:=Xa l;clear l;generalize X.ps[j]=P at *;generalize o:XZ (X.ps.take j)=T at *;have G:=Xa o;clear o;go_wp2
     go_round
     case rel=>exact⟨j+1,oM,gM,by rw[h.out];go_num⟩
     case measure=>simp[intOf];omega
    ·have e:=aW (l:=X.ps) (i:=j) oM
     have E:=Xa e;clear e;go_wp2
     go_round
     case rel=>exact⟨k+1,oM,gM,by rw[f.out,E.out];go_num⟩
     case measure=>simp[intOf];omega
  ·have e:=aW (l:=a) (i:=k) (oN x.out)
   have E:=Xa e;clear e;go_wp2
   go_ret
   exact⟨yU (by rw[E.out]),p⟩
theorem l7{F:Fn}(a:0<=F.values)(b:F.values<=2000)(c:1<=F.blocks.length)(d:F.blocks.length<=1000)(e:Xo F.blocks<=4000):Y6 F=true:=by simp[Y6, *]
theorem UE{F:Fn}(a:4000<Xo F.blocks):Y6 F=false:=by simp[Y6];omega
theorem Wt{F:Fn}(h:¬(0<=F.values/\F.values<=2000/\1<=F.blocks.length/\F.blocks.length<=1000)):Y6 F=false:=by simp[Y6];omega
theorem Uz(v:Int)(t:Option Addr)(n W:Nat)(a:List Xe)(R B:Nat)(w:World)(ha:Hid (Xp w R B t a))(h:Hid (n=a.length))(hn:n<=1048576)(hs:Xo a<=1048576)(hB:B<=w.heap.size) :
 Calls prog 54 #[.agg #[.int .i64 v,.slice t n W]] w fun e w'=>e=.returned (.bool (Y6 ⟨v,a⟩))/\Below w.heap.size w w':=by
 by_cases H:0<=v/\v<=2000/\1<=n/\n<=1000
 ·obtain⟨Z,l,x,d3⟩:=H
  go_in
  go_wp2
  go_loopw [3,31] (fun u i wr=>∃k:Nat,k<=n/\i=.int .i64 k/\u=.int .i64 (Xo (a.take k):Nat)/\Xo (a.take k)<=4000/\Below w.heap.size w wr) (fun _ i _=>n-(intOf i).toNat)
  case atStart=>exact⟨0,aN _,rfl,rfl,by simp[Xo],Xb (Below.refl _ _) _⟩
  case round =>
   obtain⟨k,hk,rfl,rfl,K,g⟩:=hrel;by_cases aq:k<n
   ·have J:k<a.length:=oN h.out
    obtain⟨b,ay,rfl,⟨_,al⟩,G⟩:=ha k J;obtain⟨O,P,M,N,e0,e1,⟨e2,e3,e4,e5⟩,L,_⟩:=G.keep (g.mono hB) oM;have Q:=Xa (L.keep (Xb (Below.refl wr.heap.size wr) (.cells #[.slice O a[k].ps.length P,.slice M a[k].is.length N,.int .i64 a[k].te.kind,.int .i64 a[k].te.a,.int .i64 a[k].te.to,.int .i64 a[k].te.els] 90) |>.mono (oN g.size)));have f:Hid (Xo (a.take (k+1))=Xo (a.take k)+(1+a[k].is.length+XZ a[k].ps)):=by show _=_;rw[X7 _ _ J,Ux]
    have A:=Up a (k+1);have s:=Xa A;have af:Xo (a.take k)+(1+a[k].is.length+XZ a[k].ps)<=1048576:=oN f.out
    have ar:a[k].ps.length<=1048576:=oN (mb a[k].ps)
    have o:=Xa (Xb g (.cells #[.slice O a[k].ps.length P,.slice M a[k].is.length N,.int .i64 a[k].te.kind,.int .i64 a[k].te.a,.int .i64 a[k].te.to,.int .i64 a[k].te.els] 90));have ax:=g.size;clear G L A;generalize a[k]=X at *;generalize D:Xo (a.take k)=S at *;have HS:=Xa D;clear D;go_wp2
    go_loopw [3,44] (fun u i wi=>∃j:Nat,j<=X.ps.length/\i=.int .i64 j/\u=.int .i64 (S+(1+X.is.length)+XZ (X.ps.take j):Nat)/\Below w.heap.size w wi) (fun _ i _=>X.ps.length-(intOf i).toNat)
    case atStart=>exact⟨0,aN _,rfl,by simp[XZ];try omega,o⟩
    case round =>
     obtain⟨j,hj,rfl,rfl,d⟩:=hrel;by_cases I:j<X.ps.length
     ·obtain⟨c,m,rfl,⟨_,ap⟩,V,Y,y,z,_⟩:=Q j I
      have ac:wr.cell? ⟨c,m + j*2,none⟩=some (.int .i64 X.ps[j].dst):=by
       have r:=(o.cell (p:=⟨c,m + j*2,none⟩) (by show c < _;omega));exact oB d (r.symm.trans y) (by show c < _;omega)
      have ad:wr.cell? ⟨c,m + j*2+1,none⟩=some (.slice V X.ps[j].args.length Y):=by
       have r:=(o.cell (p:=⟨c,m + j*2+1,none⟩) (by show c < _;omega));exact oB d (r.symm.trans z) (by show c < _;omega)
      have C:Hid (XZ (X.ps.take (j+1))=XZ (X.ps.take j)+(1+X.ps[j].args.length)):=by show _=_;rw[X7 _ _ I,Ww]
      have h4:=Wm X.ps (j+1);have aj:XZ (X.ps.take j)+(1+X.ps[j].args.length)<=XZ X.ps:=oN C.out
      clear h4 y z;generalize X.ps[j]=T at *;generalize F:XZ (X.ps.take j)=U at *;have HT:=Xa F;clear F;by_cases q:4000<S+(1+X.is.length)+(U+(1+T.args.length))
      ·go_wp2
       go_ret
       exact⟨Xl (UE (by have:=f.out;have:=s.out;show 4000<Xo a;omega)).symm,Xb d _⟩
      ·go_wp2
       exact⟨⟨j+1,oM,gM,by rw[C.out];go_num,Xb d _⟩,by simp[intOf];omega⟩
     ·have E:=Xa (aW (l:=X.ps) (i:=j) oM)
      by_cases q:4000<S+(1+X.is.length)+XZ (X.ps.take j)
      ·go_wp2
       go_ret
       exact⟨Xl (UE (by have:=f.out;have:=s.out;have e:=E.out;rw[e]at q;show 4000<Xo a;omega)).symm,d⟩
      ·go_wp2
       have e:=E.out;rw[e]at q |-;exact⟨⟨k+1,oM,gM,by rw[f.out];go_num,by rw[f.out];omega,d⟩,by simp[intOf];omega⟩
   ·go_wp2
    go_ret
    have e:=aW (l:=a) (i:=k) (oN h.out);rw[e]at K;exact⟨Xl (l7 Z l (by have:=h.out;show 1<=a.length;omega) (by have:=h.out;show a.length<=1000;omega) K).symm,g⟩
 ·have hR:Hid (Y6 ⟨v,a⟩=false):=Wt (F:=⟨v,a⟩) (by have:=h.out;show ¬(0<=v/\v<=2000/\1<=a.length/\a.length<=1000);omega)
  have ab:v<0\/(0<=v/\2000<v)\/(0<=v/\v<=2000/\n<1)\/(0<=v/\v<=2000/\1<=n/\1000<n):=oM;clear H;rcases ab with p | ⟨p,l⟩ | ⟨p,l,x⟩ | ⟨p,l,x,d3⟩
  all_goals
   go_in
   go_wp2
   go_ret
   exact⟨Xl hR.symm,Xb (Below.refl _ _) _⟩
theorem wM{F:Fn}(a:k<F.blocks.length)(h:Jf F.values F.blocks.length F.blocks[k].te=false):J2 F=false:=JN a h
theorem rQ(v:Int)(j:Option Addr)(n t:Nat)(a:List Xe)(L B:Nat)(w:World)(ha:Hid (Xp w L B j a))(g:Hid (n=a.length))(T:n<=1048576)(D:B<=w.heap.size)(E:Hid (T7 w)) :
 Calls prog 55 #[.agg #[.int .i64 v,.slice j n t]] w fun e N=>e=.returned (.bool (J2 ⟨v,a⟩))/\Below w.heap.size w N:=by
 have Q:∀s,(w.alloc s).heap.size=w.heap.size+1:=fun s=>sP
 go_in
 go_wp2
 go_loopw [9] (fun r wr=>∃k:Nat,k<=n/\r=.int .i64 k/\Below w.heap.size w wr/\w.heap.size<wr.heap.size/\wr.cell? ⟨w.heap.size,0,none⟩=some (.int .i64 v)/\wr.cell? ⟨w.heap.size,1,none⟩=some (.slice j n t)/\Hid ((a.take k).all (fun x=>Jf v a.length x.te)=true)) (fun r _=>n-(intOf r).toNat)
 case atStart=>exact⟨0,aN _,rfl,Xb (Below.refl _ _) _,sP,sP,sP,rfl⟩
 case round =>
  obtain⟨k,R,rfl,f,A,F,G,u⟩:=hrel;by_cases S:k<n
  ·have p:k<a.length:=oN g.out
   obtain⟨b,s,rfl,⟨_,P⟩,y⟩:=ha k p;obtain⟨W,Y,U,V,O,e1,⟨e2,e3,e4,e5⟩,_,_⟩:=y.keep (f.mono D) oM;have i:=Xa (E.keep f);have z:=Xa (fun l=>wM (F:=⟨v,a⟩) (k:=k) p l);have C:=Xa (fun l=>XY (p:=fun x:Xe=>Jf v a.length x.te) p u l);rw[<-g.out]at C;clear y;generalize a[k]=X at *;have K:X.te=⟨X.te.kind,X.te.a,X.te.to,X.te.els⟩:=rfl;have m:Hid (Jf v n X.te=(Zu v 1 n ⟨X.te.kind,X.te.a,X.te.to,X.te.els⟩ && !(X.te.kind==2&&X.te.to==X.te.els))):=rfl;clear K;cases hr:Zu v 1 n ⟨X.te.kind,X.te.a,X.te.to,X.te.els⟩
   ·have d:=Xa hr
    clear hr
    go_wp2_with fail
    refine(Kn _ _ _ _ _ _ _ _ ?q1).mono ?_
    case q1=>exact i.keep (Xb (Xb (Below.refl _ _) _) _)
    rintro e h ⟨rfl,c⟩;rw[Xw d];go_wp2
    go_ret
    exact⟨Xl (Xw z (by have e:=g.out;show Jf v a.length X.te=false;rw[<-e,m.out,d.out];rfl)).symm,Xg (Xb (Xb f _) _) c⟩
   ·have d:=Xa hr
    clear hr;by_cases hq:X.te.kind=2/\X.te.to=X.te.els
    ·have q1:(X.te.kind==2)=true:=by simp[hq.1]
     have q2:(X.te.to==X.te.els)=true:=by simp[hq.2]
     clear hq
     go_wp2_with fail
     refine(Kn _ _ _ _ _ _ _ _ ?q1).mono ?_
     case q1=>exact i.keep (Xb (Xb (Below.refl _ _) _) _)
     rintro e h ⟨rfl,c⟩;rw[Xw d];have q:=c.size;simp at q;obtain⟨H,I⟩:=bcell c;have M:wr.heap.size+1<h.heap.size:=oM;go_wp2
     go_ret
     exact⟨Xl (Xw z (by have e:=g.out;show Jf v a.length X.te=false;rw[<-e,m.out,d.out,q1,q2];rfl)).symm,Xg (Xb (Xb f _) _) c⟩
    ·have J:(X.te.kind==2)=false\/((X.te.kind==2)=true/\(X.te.to==X.te.els)=false):=by simp only[iS,iA];omega
     clear hq;rcases J with q1 | ⟨q1,q2⟩
     all_goals
      go_wp2_with fail
      refine(Kn _ _ _ _ _ _ _ _ ?q1).mono ?_
      case q1=>exact i.keep (Xb (Xb (Below.refl _ _) _) _)
      rintro e h ⟨rfl,c⟩;rw[Xw d];have q:=c.size;simp at q;obtain⟨H,I⟩:=bcell c;have M:wr.heap.size+1<h.heap.size:=oM;go_wp2;have o:=Xg (Xb (Xb (Below.refl wr.heap.size wr) _) _) c;exact⟨⟨k+1,oM,gM,Xg f o,oM,oB o F A,oB o G A,by
       have e:=g.out;rw[<-e];exact Xw C (by show Jf v n X.te=true;rw[m.out,d.out];first | rw[q1];rfl | rw[q1,q2];rfl)⟩,by simp[intOf];omega⟩
  ·go_wp2
   go_ret
   exact⟨Xl (YE (xs:=a) (k:=k) (oN g.out) u).symm,f⟩
theorem W4(v:Int)(q:Option Addr)(n C:Nat)(a:List Xe)(L B:Nat)(w:World)(ha:Hid (Xp w L B q a))(z:Hid (n=a.length))(hn:n<=1048576)(I:Hid (∀x∈a,x.is.length<=1048576))(F:B<=w.heap.size)(G:Hid (Uw w)) :
 Calls prog 56 #[.agg #[.int .i64 v,.slice q n C]] w fun g R=>g=.returned (.bool (Z0 ⟨v,a⟩))/\Below w.heap.size w R:=by
 go_in
 go_wp2
 go_loopw [10] (fun i wr=>∃k:Nat,k<=n/\i=.int .i64 k/\Below w.heap.size w wr/\w.heap.size<wr.heap.size/\wr.cell? ⟨w.heap.size,0,none⟩=some (.int .i64 v)/\Hid ((a.take k).all (fun x=>x.is.all (Yw v 10))=true)) (fun i _=>n-(intOf i).toNat)
 case atStart=>exact⟨0,aN _,rfl,Xb (Below.refl _ _) _,sP,sP,rfl⟩
 case round =>
  obtain⟨k,hk,rfl,f,M,H,r⟩:=hrel;by_cases ad:k<n
  ·have e:k<a.length:=oN z.out
   obtain⟨b,aj,rfl,⟨_,aa⟩,t⟩:=ha k e;obtain⟨pa,pc,ia,ic,D,e1,⟨e2,e3,e4,e5⟩,_,y⟩:=t.keep (f.mono F) oM;have J:=Xa (fun h=>JN (p:=fun x:Xe=>x.is.all (Yw v 10)) (xs:=a) (k:=k) e h);have O:=Xa (fun h=>XY (p:=fun x:Xe=>x.is.all (Yw v 10)) e r h);have ac:=I _ (aH e);have A:=Xa y;have af:=f.size;clear t y;generalize a[k]=X at *;go_wp2
   go_loopw [17] (fun i T=>∃j:Nat,j<=X.is.length/\i=.int .i64 j/\Below wr.heap.size wr T/\Hid ((X.is.take j).all (Yw v 10)=true)) (fun i _=>X.is.length-(intOf i).toNat)
   case atStart=>exact⟨0,aN _,rfl,Xb (Below.refl _ _) _,rfl⟩
   case round =>
    obtain⟨j,hj,rfl,d,s⟩:=hrel;have l:=Xg f d;have E:=oB d H M;have N:w.heap.size<wr.heap.size:=oN d.size
    clear D e1 e2 e3 e4 e5;by_cases o:j<X.is.length
    ·obtain⟨U,o',rfl,⟨_,ab⟩,u⟩:=A j o
     obtain⟨V,W,Y,Z,g4⟩:=u.keep d oM;have p:=Xa (G.keep l);have K:=Xa (fun h=>JN (p:=Yw v 10) (xs:=X.is) (k:=j) o h);have Q:=Xa (fun h=>XY (p:=Yw v 10) o s h);clear u;generalize X.is[j]=P at *;cases hr:Yw v 10 ⟨P.op,P.dst,P.a,P.b,P.imm⟩
     ·have c:=Xa hr
      clear hr
      go_wp2_with fail
      refine(TI _ _ _ _ _ _ _ ?q1).mono ?_
      case q1=>exact p.keep (Xb (Below.refl _ _) _)
      rintro g S ⟨rfl,m⟩;rw[Xw c];go_wp2
      go_ret
      exact⟨Xl (Xw J (Xw K c)).symm,Xg (Xb l _) m⟩
     ·have c:=Xa hr
      clear hr
      go_wp2_with fail
      refine(TI _ _ _ _ _ _ _ ?q1).mono ?_
      case q1=>exact p.keep (Xb (Below.refl _ _) _)
      rintro g S ⟨rfl,m⟩;rw[Xw c];go_wp2;exact⟨⟨j+1,oM,gM,Xg (Xb d _) m,Xw Q c⟩,by simp[intOf];omega⟩
    ·go_wp2
     exact⟨⟨k+1,oM,gM,l,N,E,Xw O (YE (xs:=X.is) (k:=j) oM s)⟩,by simp[intOf];omega⟩
  ·go_wp2
   go_ret
   exact⟨Xl (YE (xs:=a) (k:=k) (oN z.out) r).symm,f⟩
def Cnt(w:World)(G m:Nat)(D:List Int):Prop:=∃f,w.rowIs G 2 m f/\∀i,i<m->f i=.int .i64 (countEq D i:Nat)
theorem Cnt.below(h:Cnt w n m l)(k:Below w.heap.size w v):Cnt v n m l:=by
 obtain⟨f,a,b⟩:=h;exact⟨f,a.of_block (k.block _ a.lt),b⟩
theorem Cnt.lt(h:Cnt w n m l):n<w.heap.size:=by
 obtain⟨f,a,_⟩:=h;exact a.lt
theorem Cnt.cell(h:Cnt w n m l)(b:k<m):w.cell? ⟨n,k,none⟩=some (.int .i64 (countEq l k:Nat))/\w.frozen? ⟨n,k,none⟩=false:=by
 obtain⟨f,a,c⟩:=h;exact⟨by rw[a.cell b,c k b],a.frozen k⟩
theorem se(D:List Int)(x v:Int):countEq (D++[x]) v=countEq D v+if x=v then 1 else 0:=by
 simp only[countEq,eU,aQ];by_cases h:x=v<;>simp[h]
theorem WZ(D:List Int)(v:Int):countEq D v<=D.length:=fJ _ _
theorem Cnt.step(h:Cnt w n m l)(d:t=((countEq l k:Nat):Int)+1):Cnt (w.setCell ⟨n,k,none⟩ (.int .i64 t)) n m (l++[(k:Int)]):=by
 obtain⟨f,a,b⟩:=h;refine⟨_,a.set k _,fun i c=>?_⟩;rw[se];by_cases e:i=k
 ·subst e
  simp[d]
 ·have e2:¬(k:Int)=(i:Int):=oM
  simp only[e,fD,e2,fW];exact b i c
theorem Cnt.born(w:World)(m:Nat):Cnt (w.alloc (.cells (madeCells #[.int .i64 0] m) 2)) w.heap.size m []:=⟨_,dG _ _ _ _,fun i _=>by simp[countEq]⟩
def rn(a:List Xe)(m:Nat):Prop:=∀x∈a,(∀p∈x.ps,0<=p.dst/\p.dst<(m:Int))/\∀y∈x.is,1<=y.op/\y.op<=10/\(dB y.op=true->0<=y.dst/\y.dst<(m:Int))
theorem WE(m:Nat)(I:Option Addr)(n Y:Nat)(a:List Xe)(L B:Nat)(w:World)(ha:Hid (Xp w L B I a))(hx:Hid (n=a.length))(hn:n<=1048576)(hm:m<=2000)(hs:Hid (Xx a<=1048576))(hB:B<=w.heap.size)(hT:Hid (Uw w))(hd:Hid (rn a m)) :
 Calls prog 58 #[.agg #[.int .i64 m,.slice I n Y]] w fun x w'=>x=.returned (.bool (JM ⟨m,a⟩))/\Below w.heap.size w w':=by
 have a8:=fM (P:=prog) 27 2 (.int .i64 0) 8 underlying27 Tryz.info2 rfl .i64 .i64 m oM oM
 go_in
 go_wp2
 go_loopw [18] (fun i wr=>∃k:Nat,k<=n/\i=.int .i64 k/\Below w.heap.size w wr/\Hid (Cnt wr (w.heap.size+1) m (blksDefs (a.take k)))) (fun i _=>n-(intOf i).toNat)
 case atStart=>exact⟨0,aN _,rfl,Xb (Xb (Below.refl _ _) _) _,by have:=Cnt.born (w.alloc (.cells #[.int .i64 m,.slice I n Y] 25)) m;rw[aO]at this;exact this⟩
 case round =>
  obtain⟨k,hk,rfl,s,z⟩:=hrel;by_cases a7:k<n
  ·have A:k<a.length:=oN hx.out
   obtain⟨b,bb,rfl,⟨_,a4⟩,O⟩:=ha k A;have HC:=Xa O;have a1:Hid (blksDefs (a.take (k+1))=blksDefs (a.take k)++(XG a[k].ps++XI a[k].is)):=by
    show _=_;rw[X7 _ _ A,U0];rfl
   have a5:(blksDefs (a.take k)).length+(a[k].ps.length+JG a[k].ps+a[k].is.length)<=1048576:=by
    have y:=UX a (k+1);rw[X7 _ _ A,Vm]at y;have h2:=KP (a.take k);have g:=hs.out;have h4:ZZ a[k]=a[k].ps.length+JG a[k].ps+a[k].is.length:=rfl;omega
   have a9:a[k].ps.length<=1048576:=oM;have a6:a[k].is.length<=1048576:=oM;obtain⟨af,aj⟩:=hd _ (aH A);have aq:=Xa af;have ax:=Xa aj;obtain⟨pa,pc,E,ic,e0,e1,⟨e2,e3,e4,e5⟩,hp,hi⟩:=O.keep (s.mono hB) oM;have W:=Xa hp;have U:=Xa hi;have p:=Xa (z.below (Xb (Below.refl wr.heap.size wr) (.cells #[.slice pa a[k].ps.length pc,.slice E a[k].is.length ic,.int .i64 a[k].te.kind,.int .i64 a[k].te.a,.int .i64 a[k].te.to,.int .i64 a[k].te.els] 90)));have a2:=z.lt;clear O HC af aj hp hi z;generalize hX:a[k]=X at *;clear hX;generalize blksDefs (a.take k)=D at *;have ba:=s.size;go_wp2;generalize Z:wr.heap.size=M at *;have V:=Xa Z;clear Z e0 e1 e2 e3 e4 e5
   go_loopw [25] (fun i c=>∃j:Nat,j<=X.ps.length/\i=.int .i64 j/\Below w.heap.size w c/\M<c.heap.size/\c.cell? ⟨M,1,none⟩=some (.slice E X.is.length ic)/\Hid (Cnt c (w.heap.size+1) m (D++XG (X.ps.take j)))/\Hid (Jw c L B pa X.ps)/\Hid (YY c L B E X.is)) (fun i _=>X.ps.length-(intOf i).toNat)
   case atStart =>
    have ay:=Xw V;subst ay;exact⟨0,aN _,rfl,Xb s _,sP,sP,by show Cnt _ _ _ _;simpa [XG]using p.out,W.keep (Xb (Below.refl wr.heap.size wr) _ |>.mono oM),U.keep (Xb (Below.refl wr.heap.size wr) _ |>.mono oM)⟩
   case round =>
    clear p W U s V;obtain⟨j,hj,rfl,e,C,ad,r,R,h⟩:=hrel;have al:=e.size;by_cases d:j<X.ps.length
    ·obtain⟨b',o',rfl,⟨_,az⟩,aa,cc,K,N,_⟩:=R j d
     have g:Hid (D++XG (X.ps.take (j+1))=(D++XG (X.ps.take j))++[X.ps[j].dst]):=by show _=_;rw[X7 _ _ d,Wj,cK]
     have hl:(D++XG (X.ps.take j)).length<=1048576:=by simp[XG];omega
     obtain⟨G,q1⟩:=aq _ (aH d);generalize X.ps[j]=P at *;generalize D++XG (X.ps.take j)=u at *;obtain⟨J,ar⟩:=P;dsimp only at G q1 K N g;obtain⟨t,rfl⟩:=bX G;have S:t<m:=oM;have f:=r.below (Xb (Below.refl wr.heap.size wr) (.cells #[.int .i64 t,.slice aa ar.length cc] 96));obtain⟨k0,T⟩:=f.cell S;have a0:=WZ u t;have v:=Xa f;clear f;generalize hQ:countEq u t=Q at *;have l:=Xa hQ;clear hQ;go_wp2;refine⟨⟨j+1,oM,gM,(Xb e _).setCell (by dsimp only;omega) _,by rw[Xd];simp;omega,?_,?_,?_,?_⟩,by simp[intOf];omega⟩
     ·rw[cJ _ _ _ _ (by intro x;cases x;omega)]
      exact oB (Xb (Below.refl wr.heap.size wr) _) ad C
     ·rw[g.out]
      exact v.step (by rw[l.out])
     ·exact R.keepS ((YA.of_below (Xb (Below.refl wr.heap.size wr) _ |>.mono oM)).setCell (aZ (by dsimp only;omega)) _)
     ·exact h.keepS ((YA.of_below (Xb (Below.refl wr.heap.size wr) _ |>.mono oM)).setCell (aZ (by dsimp only;omega)) _)
    ·have o:=Xa (aW (l:=X.ps) (i:=j) oM)
     go_wp2
     go_loopw [40] (fun i c=>∃j:Nat,j<=X.is.length/\i=.int .i64 j/\Below w.heap.size w c/\M<c.heap.size/\Hid (Cnt c (w.heap.size+1) m (D++XG X.ps++XI (X.is.take j)))/\Hid (YY c L B E X.is)) (fun i _=>X.is.length-(intOf i).toNat)
     case atStart=>exact⟨0,aN _,rfl,e,C,by have:=r.out;rw[o.out]at this;show Cnt _ _ _ _;simpa [XI]using this,h⟩
     case round =>
      clear e C ad r R h o al;obtain⟨j,hj,rfl,e,C,r,h⟩:=hrel;have al:=e.size;by_cases d:j<X.is.length
      ·obtain⟨b',o',rfl,⟨_,az⟩,K,N,g2,g3,g4⟩:=h j d
       have g:Hid (D++XG X.ps++XI (X.is.take (j+1))=(D++XG X.ps++XI (X.is.take j))++(if dB X.is[j].op then [X.is[j].dst]else [])):=by show _=_;rw[X7 _ _ d,Vx,<-cK]
       have hl:(D++XG X.ps++XI (X.is.take j)).length<=1048576:=by have:=TP (X.is.take j);simp[XG]at this |-;omega
       obtain⟨G,q1,q2⟩:=ax _ (aH d);generalize X.is[j]=P at *;generalize D++XG X.ps++XI (X.is.take j)=u at *;obtain⟨op,J,pA,pB,pI⟩:=P;dsimp only at G q1 q2 K N g2 g3 g4 g;obtain⟨F,rfl⟩:=bX (show 0<=op by omega);have ab:=hT.keep (Xb e (.cells #[.int .i64 F,.int .i64 J,.int .i64 pA,.int .i64 pB,.int .i64 pI] 98));obtain⟨bc,_,c1,_,_,_⟩:=ab.2 F oM oM;have a3:0<wr.heap.size:=oM;have f:=r.below (Xb (Below.refl wr.heap.size wr) (.cells #[.int .i64 F,.int .i64 J,.int .i64 pA,.int .i64 pB,.int .i64 pI] 98));clear ab;cases hdb:dB F
       ·rw[hdb]at c1
        have H:=Xa hdb;have v:=Xa f;clear hdb f q2;go_wp2;refine⟨⟨j+1,oM,gM,Xb e _,by simp;omega,?_,?_⟩,by simp[intOf];omega⟩
        ·rw[g.out,H.out]
         show Cnt _ _ _ _;simpa using v.out
        ·exact h.keepS (YA.of_below (Xb (Below.refl wr.heap.size wr) _ |>.mono oM))
       ·obtain⟨q3,q4⟩:=q2 hdb
        rw[hdb]at c1;have H:=Xa hdb;obtain⟨t,rfl⟩:=bX q3;have S:t<m:=oM;obtain⟨k0,T⟩:=f.cell S;have a0:=WZ u t;have v:=Xa f;clear hdb f q2;generalize hQ:countEq u t=Q at *;have l:=Xa hQ;clear hQ;go_wp2;refine⟨⟨j+1,oM,gM,(Xb e _).setCell (by dsimp only;omega) _,by rw[Xd];simp;omega,?_,?_⟩,by simp[intOf];omega⟩
        ·rw[g.out,H.out,aU rfl]
         exact v.step (by rw[l.out])
        ·exact h.keepS ((YA.of_below (Xb (Below.refl wr.heap.size wr) _ |>.mono oM)).setCell (aZ (by dsimp only;omega)) _)
      ·have o:=Xa (aW (l:=X.is) (i:=j) oM)
       go_wp2;exact⟨⟨k+1,oM,gM,e,by have:=r.out;rw[o.out]at this;rw[a1.out,<-cK];exact this⟩,by simp[intOf];omega⟩
  ·have o:=Xa (aW (l:=a) (i:=k) (oN hx.out))
   have p:=z.out;rw[o.out]at p;have ap:=Xa p;clear p z;go_wp2
   go_loop [60] (fun i=>∃j:Nat,j<=m/\i=.int .i64 j/\Hid (∀q,q<j->countEq (blksDefs a) (q:Nat)=1)) (fun i=>m-(intOf i).toNat)
   case atStart=>exact⟨0,aN _,rfl,fun q hq=>absurd hq oM⟩
   case round =>
    obtain⟨j,hj,rfl,ac⟩:=hrel;by_cases d:j<m
    ·obtain⟨k0,T⟩:=ap.cell d
     generalize hQ:countEq (blksDefs a) (j:Nat)=Q at *;have l:=Xa hQ;clear hQ T;by_cases y:Q=1
     ·subst y
      go_wp2
      go_round
      case rel=>exact⟨j+1,oM,gM,fun q hq=>if x:q=j then by subst x;exact l else ac q oM⟩
      case measure=>simp[intOf];omega
     ·have h2:((Q:Int) != 1)=true:=by rw[jJ];omega
      have H1:=Xa y;clear y;go_wp2
      go_ret
      exact⟨Xl (by
       symm;unfold JM;rw[lZ];exact⟨j,by simpa using d,by simp only[l.out,iA];exact H1⟩),s⟩
    ·go_wp2
     go_ret
     exact⟨Xl (by
      symm;unfold JM;rw[dV];intro q hq;rw[iA];exact ac q (by simp at hq;omega)),s⟩
def d9(a:List Xe)(n:Nat):Prop:=∀x∈a,(∀t∈x.te.tg,0<=t/\t<(n:Int))/\x.te.tg.Nodup
def Yk(b:List Xe)(k:Nat)(a:List Int)(i:Nat):List Int:=predsFrom (b.take k) 0 i++(if a.contains (i:Int)then [(k:Int)]else [])
theorem J5(a:List Xe)(k i:Nat):Yk a k [] i=predsFrom (a.take k) 0 i:=by simp[Yk]
theorem TD(a:List Xe)(k i:Nat)(b:k<a.length):Yk a k a[k].te.tg i=predsFrom (a.take (k+1)) 0 i:=by
 unfold Yk;rw[X7 _ _ b,ZK];simp[jZ (dU b)]
theorem Uu(b:List Xe)(k i:Nat)(a:List Int)(t:Nat)(h:(t:Int) ∉ a):Yk b k (a++[(t:Int)]) i=if i=t then Yk b k a t++[(k:Int)]else Yk b k a i:=by
 unfold Yk;by_cases e:i=t
 ·subst e
  simp[h]
 ·have c:(a++[(t:Int)]).contains (i:Int)=a.contains (i:Int):=by
   rw[eQ];simp only[eY,bU,cS];constructor
   ·rintro(h | h)
    ·exact h
    ·omega
   ·exact bC
  rw[aM e,c]
theorem UW(a:List Xe)(k i:Nat)(b:List Int)(h:k<=a.length):(Yk a k b i).length<=k+1:=by
 unfold Yk;have:=YO (i:Int) (a.take k) 0;simp only[dH]at this;rw[aQ];split<;>simp<;>omega
theorem KF(ab:Int)(z:Option Addr)(n N:Nat)(c:List Xe)(al K:Nat)(w:World)(ha:Hid (Xp w al K z c))(J:Hid (n=c.length))(hn:n<=1048576)(hB:K<=w.heap.size)(e:Hid (d9 c n)) :
 Calls prog 85 #[.agg #[.int .i64 ab,.slice z n N]] w fun f w'=>∃U,f=.returned (.slice (some ⟨w.heap.size+1,0,none⟩) n n)/\Below w.heap.size w w'/\YT w' (w.heap.size+1) n (fun i:Nat=>predsFrom c 0 (i:Int)) U:=by
 obtain⟨i0,ay,a8,a9,ba⟩:=fX Tryz.info2';have bq:=fM (P:=prog) 133 27 (.slice none 0 0) 24 underlying133 Tryz.info45 rfl .i64 .i64 n oM oM
 go_in
 go_wp2
 go_loopw [15] (fun i wr=>∃k:Nat,k<=n/\i=.int .i64 k/\Below w.heap.size w wr/\Hid (∃U,YT wr (w.heap.size+1) n (Yk c k []) U)) (fun i _=>n-(intOf i).toNat)
 case atStart=>exact⟨0,aN _,rfl,Xb (Xb (Below.refl _ _) _) _,⟨_,by have:=YT.born (w.alloc (.cells #[.int .i64 ab,.slice z n N] 25)) n;rw[aO]at this;exact this⟩⟩
 case round =>
  obtain⟨k,hk,rfl,u,s⟩:=hrel;by_cases bp:k<n
  ·have D:k<c.length:=oN J.out
   obtain⟨b,bz,rfl,⟨_,bl⟩,R⟩:=ha k D;obtain⟨pa,pc,ia,ic,e0,e1,⟨e2,e3,e4,e5⟩,_,_⟩:=R.keep (u.mono hB) oM;have a7:=Xa (fun i=>TD c k i D);obtain⟨S,T⟩:=e _ (aH D);have af:=Xa S;have aj:=Xa T;clear R S T;generalize c[k]=X at *
   go_wp2_with fail
   refine(J4 X.te _).mono ?_;rintro f m ⟨a1,c1,rfl,P,V⟩;have Q:=Xg (Xb (Below.refl wr.heap.size wr) _) P;have bb:=P.size;simp at bb;have bw:wr.heap.size<m.heap.size:=oM;have L:=Xa V;have bi:w.heap.size+1<wr.heap.size:=by obtain⟨U,d⟩:=s.out;exact d.1.lt
   have HR:Hid (∃U,YT m (w.heap.size+1) n (Yk c k []) U/\∀i g,i<n->(U i).ownBlock=some g->g<=wr.heap.size\/m.heap.size<=g):=by
    obtain⟨U,d⟩:=s.out;exact⟨U,d.below Q,fun i g r e=>by have:=((d.2.1 i r).lt g e).2;omega⟩
   have HW:=Xa (Xg u Q);have bv:X.te.tg.length<=2:=by unfold Yj.tg;split<;>(try split)<;>simp
   generalize hT:X.te.tg=a at *;clear hT V s e0 e1 e2 e3 e4 e5 u;simp only[aO]at L;generalize hM:wr.heap.size=M at *;clear hM;go_wp2
   go_loopw [24] (fun i x=>∃j:Nat,j<=a.length/\i=.int .i64 j/\Below w.heap.size w x/\m.heap.size<=x.heap.size/\Hid (Xf x (M+1) m.heap.size a1 a)/\Hid (∃U,YT x (w.heap.size+1) n (Yk c k (a.take j)) U/\∀i g,i<n->(U i).ownBlock=some g->g<=M\/m.heap.size<=g)) (fun i _=>a.length-(intOf i).toNat)
   case atStart=>exact⟨0,aN _,rfl,HW,aA _,L,HR⟩
   case round =>
    obtain⟨j,p,rfl,I,bs,W,F⟩:=hrel;by_cases C:j<a.length
    ·obtain⟨b',o',rfl,_,bn⟩:=W j C
     obtain⟨a4,bt⟩:=af _ (aH C);have a2:Hid (a[j] ∉ a.take j):=by
      intro hm;obtain⟨bx,a0,Y⟩:=bR hm;simp only[dH]at a0;rw[jG]at Y;have:=(List.getElem_inj aj).1 Y;omega
     have a5:Hid (a.take (j+1)=a.take j++[a[j]]):=X7 _ _ C;obtain⟨U,d,O⟩:=F.out;have y:=Xa O;clear O;obtain⟨t,a6⟩:=bX a4;generalize a[j]=bf at *;subst a6;have l:t<n:=oM;have aq:=d.1.cell l;have ar:=d.1.frozen t;have br:=UW c k t (a.take j) (oN J.out);have h:=Xa d;clear d F
     go_wp2_with (at_builtin;refine bT _ rfl _ _ 27 rfl (w.heap.size+1+1) 2 i0 (.int .i64 0) 1 8 underlying27 ay a8 a9 ba rfl vY _ _ _ rfl ((h.alloc _).2.1 t l) ⟨wr.heap.size,0,none⟩ 1 1 [.int .i64 k] rfl rfl ?c1 ?c2 ?c3 ?c4 ?c5 ?_)
     case c1 =>
      intro j bc p
      match j,p with
      | 0,p=>simp at p;subst p;simp[Addr.add]
     case c2=>intro bc Z;simp at Z;subst Z;rfl
     case c3=>unfold maxLen;omega
     case c4=>omega
     case c5=>have:=h.1.lt;simp;omega
     intro v1 v E o _ A;obtain⟨av,cv,H,_⟩:=Xk (xs:=Yk c k (a.take j) t++[(k:Int)]) (by rw[Yl];exact E);have a3:=Xa ((h.alloc (.cells #[.int .i64 k] 2)).step l k v1 o E (by rw[aO];exact A));have B:v.heap[w.heap.size+1]?=(wr.alloc (.cells #[.int .i64 k] 2)).heap[w.heap.size+1]?:=YJ o ((h.alloc (.cells #[.int .i64 k] 2)).2.1 t l) oM (by have:=h.1.lt;simp;omega);have ap:=Xa (Xy (Xb I (.cells #[.int .i64 k] 2)) o ((h.alloc (.cells #[.int .i64 k] 2)).2.1 t l) oM (by have:=I.size;simp;omega));have bm:v.cell? ⟨w.heap.size+1,t,none⟩=some (U t):=by rw[Xc B];exact((h.alloc (.cells #[.int .i64 k] 2)).1).cell l
     have bo:v.frozen? ⟨w.heap.size+1,t,none⟩=false:=by rw[bJ (w:=wr.alloc (.cells #[.int .i64 k] 2)) (a:=⟨w.heap.size+1,t,none⟩) B];exact((h.alloc (.cells #[.int .i64 k] 2)).1).frozen t
     have ax:=o.size;simp at ax;have G:YA (M+1) m.heap.size wr v:=fun q q1 q2=>(o.block q (by simp;omega) (fun f=>by have:=y t q l f.symm;omega)).trans (Below.heap_alloc _ _ _ oM)
     have bd:=Xa G;have az:=Xa (W.keepS G);have ad:=Xa A;have HV:=Xa H;clear G;clear E o A B aq ar;rw[H];clear H;go_wp2;have aa:=HV.out;rw[aQ,bA,bO,aV]at aa;rw[<-aa];refine⟨⟨j+1,oM,gM,ap.setCell (by dsimp only;omega) _,by rw[Xd];omega,az.keepS ((YA.refl _ _ _).setCell (bC (by dsimp only;omega)) _),⟨_,(a3).congr (fun i _=>?_),fun i g r e=>?_⟩⟩,by simp[intOf];omega⟩
     ·rw[a5.out,Uu c k i (a.take j) t a2.out]
     ·by_cases f:i=t
      ·subst f
       simp only[gG]at e;rcases ad.out with q | q
       ·exact y i g r (by rw[<-q];exact e)
       ·rw[q]at e
        have:=gQ e;omega
      ·simp only[f,fD]at e
       exact y i g r e
    ·have ac:=Xa (aW (l:=a) (i:=j) oM)
     go_wp2;refine⟨⟨k+1,oM,gM,I,?_⟩,by simp[intOf];omega⟩;obtain⟨U,d,_⟩:=F.out;exact⟨U,d.congr (fun i _=>by rw[ac.out,a7.out,J5])⟩
  ·go_wp2
   go_ret
   obtain⟨U,d⟩:=s.out;have f:=aW (l:=c) (i:=k) (oN J.out);exact⟨U,rfl,u,d.congr (P':=fun i:Nat=>predsFrom c 0 (i:Int)) (fun i _=>by rw[J5,f])⟩
theorem VG(v:Int)(c:Option Addr)(n e:Nat)(a:List Xe)(L B:Nat)(w:World)(ha:Hid (Xp w L B c a))(m:Hid (n=a.length))(l:n<=1048576)(i:B<=w.heap.size)(k:Hid (d9 a n)) :
 Calls prog 85 #[.agg #[.int .i64 v,.slice c n e]] w fun f b=>∃d g,f=.returned (.slice d n g)/\Below w.heap.size w b/\XR b w.heap.size b.heap.size d ((List.range n).map fun o:Nat=>predsFrom a 0 (o:Int)) :=
 (KF v c n e a L B w ha m l i k).mono (by
  rintro f b ⟨U,rfl,j,h⟩;exact⟨_,_,rfl,j,h.ints.mono oM (aA _)⟩)
theorem Zr(d:Int->Nat->Ph->Bool)(F:Fn):∀(b:List Xe)(a:Nat),Zi d F b a=true↔∀j (h:j<b.length),b[j].ps.all (d F.values (F.preds ((a+j:Nat):Int)).length)=true
 | [],_=>by simp[Zi]
 | x::b,a=>by
  simp only[Zi,bY,Zr d F b (a+1)];constructor
  ·rintro⟨f,g⟩ j c
   cases j with
   | zero=>exact f
   | succ j =>
    have:=g j (by simpa using c);have e:a+1+j=a+(j+1):=oM;rw[e]at this;exact this
  ·intro h
   refine⟨h 0 sP,fun j c=>?_⟩;have:=h (j+1) (by simpa using c);have e:a+1+j=a+(j+1):=oM;rw[e];exact this
theorem Wg(a:Int->Nat->Ph->Bool)(F:Fn)(c:k<F.blocks.length)(h:F.blocks[k].ps.all (a F.values (F.preds (k:Int)).length)=false):Zi a F F.blocks 0=false:=by
 rw[lY];intro b;have:=(Zr a F F.blocks 0).1 b k c;rw[aV,h]at this;cases this
theorem rX(v:Int)(u:Option Addr)(n I:Nat)(a:List Xe)(O E:Nat)(w:World)(ha:Hid (Xp w O E u a))(C:Hid (n=a.length))(hn:n<=1048576)(hl:Hid (∀ay∈a,ay.ps.length<=1048576/\∀bd∈ay.ps,bd.args.length<=1048576))(hB:E<=w.heap.size)(hg:Hid (d9 a n)) :
 Calls prog 57 #[.agg #[.int .i64 v,.slice u n I]] w fun g w'=>g=.returned (.bool (KL ⟨v,a⟩))/\Below w.heap.size w w':=by
 go_in
 go_wp2_with fail
 refine(VG v u n I a O E _ ?q1 C hn ?q2 hg).mono ?_
 case q1=>exact ha.keep (Xb (Below.refl _ _) _ |>.mono hB)
 case q2=>simp;omega
 rintro g m ⟨pa,pc,rfl,x,ax⟩;have J:=Xg (Xb (Below.refl w.heap.size w) _) x;have bb:=x.size;simp at bb;obtain⟨K,a3⟩:=bcell x;have k0:m.cell? ⟨w.heap.size,0,none⟩=some (.int .i64 v):=by rw[K _ _ sP];simp
 have k1:m.cell? ⟨w.heap.size,1,none⟩=some (.slice u n I):=by rw[K _ _ sP];simp
 have HA:=Xa (ha.keep (J.mono hB));have a2:=Xa ax;have o:=Xa J;clear K a3 ax x ha J;go_wp2
 go_loopw [15] (fun i wr=>∃k:Nat,k<=n/\i=.int .i64 k/\Below m.heap.size m wr/\Hid (∀j (h:j<a.length),j<k->a[j].ps.all (ZX v (predsFrom a 0 (j:Int)).length)=true)) (fun i _=>n-(intOf i).toNat)
 case atStart=>exact⟨0,aN _,rfl,Below.refl _ _,fun j _ h=>absurd h oM⟩
 case round =>
  obtain⟨k,hk,rfl,d,ad⟩:=hrel;by_cases a5:k<n
  ·have L:k<a.length:=oN C.out
   obtain⟨b,bw,rfl,⟨_,bm⟩,hc⟩:=HA k L;obtain⟨bx,bz,ia,ic,S,T,⟨U,V,W,Y⟩,hp,_⟩:=hc;have e0:=(XU d oM).trans S;have e1:=(XU d oM).trans T;have e2:=(XU d oM).trans U;have e3:=(XU d oM).trans V;have e4:=(XU d oM).trans W;have e5:=(XU d oM).trans Y;obtain⟨bq,aq⟩:=hl _ (aH L);have a1:=Xa aq;have a6:Hid (a[k].ps.all (ZX v (predsFrom a 0 (k:Int)).length)=false->KL ⟨v,a⟩=false):=fun h=>Wg ZX ⟨v,a⟩ (k:=k) L h
   have ar:k<((List.range n).map fun i:Nat=>predsFrom a 0 (i:Int)).length:=by simpa using a5
   obtain⟨gb,go,rfl,⟨_,bo⟩,a',c',r,a4⟩:=a2 k ar;simp only[cM,dW]at r;have HP:=Xa hp;have br:(predsFrom a 0 (k:Int)).length<=1048576:=oP (YO (k:Int) a 0) C.out
   have az:=Xa r;have bv:=d.size;have a8:Hid (a[k].ps.all (ZX v (predsFrom a 0 (k:Int)).length)=true->∀j (h:j<a.length),j<k+1->a[j].ps.all (ZX v (predsFrom a 0 (j:Int)).length)=true) :=
    fun h j z bp=>if g:j=k then by subst g;exact h else ad j z oM
   clear hp aq r a4 ar S T U V W Y;generalize a[k]=X at *;generalize predsFrom a 0 (k:Int)=e at *;go_wp2;generalize hM:wr.heap.size=bf at *;have HM:=Xa hM;clear hM
   go_loopw [23] (fun i wi=>∃j:Nat,j<=X.ps.length/\i=.int .i64 j/\Below m.heap.size m wi/\Hid ((X.ps.take j).all (ZX v e.length)=true)) (fun i _=>X.ps.length-(intOf i).toNat)
   case atStart=>exact⟨0,aN _,rfl,Xb d _,rfl⟩
   case round =>
    obtain⟨j,z,rfl,c,af⟩:=hrel;have r:=(XU c oM).trans az;have bc:=(XU c oM).trans k0;by_cases A:j<X.ps.length
    ·obtain⟨b',o',rfl,⟨_,bn⟩,Q,R,Z,g1,hi⟩:=HP j A
     have e6:=(XU c oM).trans Z;have e7:=(XU c oM).trans g1;have bi:=a1 _ (aH A);have B:=Xa (fun h=>Xw a6 (JN (p:=ZX v e.length) (xs:=X.ps) (k:=j) A h));have a9:=Xa (fun h=>XY (p:=ZX v e.length) A af h);have a0:=Xa hi;clear Z g1 hi;generalize X.ps[j]=P at *;have bs:w.heap.size<wr.heap.size:=oN c.size
     have bt:gb<wr.heap.size:=oN c.size
     have s:Hid (ZX v e.length P=(Tp true P.dst 0 v&&(decide (1<=P.args.length)&&decide (P.args.length=e.length)&&P.args.all (To 0 v)))):=rfl;cases hf:Tp true P.dst 0 v
     ·have p:=Xa hf
      go_wp2
      go_quiet ((go_at_call 100;exact Calls.quiet_of_same (Yp _ _ _ _ _)))
      go_wp2
      go_ret
      exact⟨Xl (Xw B (by rw[s.out,p.out];rfl)).symm,Xg o (iX (Xb c _) _)⟩
     ·have p:=Xa hf
      by_cases l:P.args.length=0
      ·have ab:((P.args.length:Int)==0)=true:=by simp[l]
       have F:=Xa l;clear l;go_wp2
       go_quiet ((go_at_call 100;exact Calls.quiet_of_same (Yp _ _ _ _ _)))
       go_wp2
       go_ret
       exact⟨Xl (Xw B (by rw[s.out,p.out,F.out];rfl)).symm,Xg o (iX (Xb c _) _)⟩
      ·have ab:((P.args.length:Int)==0)=false:=by rw[iS];omega
       have F:=Xa l;clear l;by_cases f:P.args.length=e.length
       ·have ac:((P.args.length:Int) != (e.length:Int))=false:=by simp[f]
        have G:=Xa f;clear f;go_wp2
        go_quiet ((go_at_call 100;exact Calls.quiet_of_same (Yp _ _ _ _ _)))
        go_wp2;have y:=iX (Xb c (.cells #[.int .i64 P.dst,.slice Q P.args.length R] 96)) nq;generalize (wr.alloc (.cells #[.int .i64 P.dst,.slice Q P.args.length R] 96)).drewN nq=w9 at *;have r0:=(XU y oM).trans k0;clear hf ab ac r bc e6 e7
        go_loop [53] (fun i=>∃q:Nat,q<=P.args.length/\i=.int .i64 q/\Hid ((P.args.take q).all (To 0 v)=true)) (fun i=>P.args.length-(intOf i).toNat)
        case atStart=>exact⟨0,aN _,rfl,rfl⟩
        case round =>
         obtain⟨q,hq,rfl,aj⟩:=hrel;by_cases M:q<P.args.length
         ·obtain⟨b2,o2,rfl,⟨_,bl⟩,al⟩:=a0 q M
          have r1:=(XU y oM).trans al;have a7:=Xa (fun h=>JN (p:=To 0 v) (xs:=P.args) (k:=q) M h);have ba:=Xa (fun h=>XY (p:=To 0 v) M aj h);clear al;generalize P.args[q]=D at *;have ap:Hid (Tp true D 0 v=To 0 v D):=rfl;cases hr:Tp true D 0 v
          ·have H:=Xa hr
           go_wp2_with (go_at_call 100;refine(Yp _ _ _ _ _).mono ?_;rintro g N ⟨rfl,t⟩;rw[t];clear t N)
           go_ret
           exact⟨Xl (Xw B (by rw[s.out,Xw a7 (by rw[<-ap.out];exact H)];simp)).symm,Xg o y⟩
          ·have H:=Xa hr
           go_wp2_with (go_at_call 100;refine(Yp _ _ _ _ _).mono ?_;rintro g N ⟨rfl,t⟩;rw[t];clear t N)
           go_round
           case rel=>exact⟨q+1,oM,gM,Xw ba (by rw[<-ap.out];exact H)⟩
           case measure=>simp[intOf];omega
         ·go_wp2
          exact⟨⟨j+1,oM,gM,y,Xw a9 (by
           have f:=G.out;have l:=F.out;rw[s.out,p.out,eB f,eB (p:=1<=P.args.length) oM,YE (xs:=P.args) (k:=q) oM aj.out];rfl)⟩,by simp[intOf];omega⟩
       ·have ac:((P.args.length:Int) != (e.length:Int))=true:=by rw[jJ];omega
        have G:=Xa f;clear f;go_wp2
        go_quiet ((go_at_call 100;exact Calls.quiet_of_same (Yp _ _ _ _ _)))
        go_wp2
        go_ret
        exact⟨Xl (Xw B (by rw[s.out,p.out,dJ G.out];simp)).symm,Xg o (iX (Xb c _) _)⟩
    ·go_wp2
     exact⟨⟨k+1,oM,gM,c,Xw a8 (YE (xs:=X.ps) (k:=j) oM af)⟩,by simp[intOf];omega⟩
  ·go_wp2
   go_ret
   exact⟨Xl (by
    symm;exact(Zr ZX ⟨v,a⟩ a 0).2 (fun j z=>by rw[aV];exact ad j z (oN C.out))),Xg o d⟩
theorem Vi(h:J2 ⟨t,x⟩=true):d9 x x.length:=by
 intro a i;have d:Jf t x.length a.te=true:=dV.1 h a i;simp only[Jf,Zu,bY,bD]at d;obtain⟨⟨⟨⟨⟨j,k⟩,l⟩,b⟩,f⟩,c⟩:=d;have g:a.te.kind=1\/a.te.kind=2\/a.te.kind=3:=oM;rcases g with e | e | e
 ·simp only[e,Tp]at b
  simp[Yj.tg,e]at b |-;omega
 ·simp only[e,Tp]at b f c
  simp[Yj.tg,e]at b f c |-;refine⟨?_,c⟩;omega
 ·simp[Yj.tg,e]
theorem ub(h:Z0 ⟨n,x⟩=true)(l:KL ⟨n,x⟩=true):rn x n:=by
 intro m d;constructor
 ·intro p i
  obtain⟨k,g,rfl⟩:=bR d;have a:=(Zr ZX ⟨n,x⟩ x 0).1 l k g;have b:=dV.1 a p i;simp only[ZX,Tp,bY,bD,gG]at b;exact b.1
 ·intro y j
  have a:=dV.1 (dV.1 h m d) y j;simp only[Yw,bY,bD]at a;obtain⟨⟨⟨⟨⟨b,e⟩,c⟩,_⟩,_⟩,_⟩:=a;refine⟨b,e,fun f=>?_⟩;rw[f]at c;simpa [Tp]using c
theorem V7(a:List Xe):Xo a=a.length+Xx a:=by
 induction a with
 | nil=>rfl
 | cons x a b =>
  have d:Xo (x::a)=Ul x+Xo a:=by simp[Xo]
  have e:Xx (x::a)=ZZ x+Xx a:=by simp[Xx]
  have f:XZ x.ps=x.ps.length+JG x.ps:=by
   generalize x.ps=c
   induction c with
   | nil=>rfl
   | cons p c b=>simp only[XZ,JG,eH,kX,bA]at b |-;omega
  rw[d,e,b,bA];simp only[Ul,ZZ];omega
theorem Bp(h:q∈x):q.ps.length+JG q.ps+q.is.length<=Xx x:=by
 induction x with
 | nil=>cases h
 | cons y a c =>
  have b:Xx (y::a)=ZZ y+Xx a:=by simp[Xx]
  rcases cH.1 h with rfl | h
  ·rw[b];simp only[ZZ];omega
  ·have:=c h;omega
theorem Cd{a:List Ph}{p:Ph}(h:p∈a):p.args.length<=JG a:=by
 induction a with
 | nil=>cases h
 | cons y b c =>
  have d:JG (y::b)=y.args.length+JG b:=by simp[JG]
  rcases cH.1 h with rfl | h
  ·omega
  ·have:=c h;omega
theorem lc(h:x.length+Xx x<=1048576):AZ x:=fun d b=>by
 have c:=Bp b;exact⟨oM,oM,fun p a=>by have:=Cd a;omega⟩
theorem JK(v:Int)(c:Option Addr)(n d:Nat)(a:List Xe)(L B:Nat)(w:World)(ha:Hid (Xp w L B c a))(h:Hid (n=a.length))(x:Hid (a.length+Xx a<=1048576))(K:B<=w.heap.size)(X:Hid (Uw w))(hT:Hid (T7 w)) :
 Calls prog 23 #[.agg #[.int .i64 v,.slice c n d]] w fun i w'=>i=.returned (.bool (XJ ⟨v,a⟩))/\Below w.heap.size w w':=by
 have o:n<=1048576:=oP h.out x.out
 have N:Xo a<=1048576:=by rw[V7];exact x
 have A:=Xa (lc x);have u:=fun aj=>ha.keep ((Xb (Below.refl w.heap.size w) aj).mono K)
 have G:=Xa N;clear N;have r:Hid (XJ ⟨v,a⟩=(Y6 ⟨v,a⟩ && J2 ⟨v,a⟩ && Z0 ⟨v,a⟩ && KL ⟨v,a⟩ && JM ⟨v,a⟩)):=rfl;cases h1:Y6 ⟨v,a⟩
 ·have b:=Xa h1
  have t:=Xa u;clear h1 u
  go_in
  go_wp2_with fail
  refine(Uz v c n d a L B _ (Xw t _) h o G (by simp;omega)).mono ?_;rintro i C ⟨rfl,l⟩;rw[Xw b];go_wp2
  go_ret
  exact⟨Xl (by rw[r.out,b.out];rfl),Xg (Xb (Below.refl _ _) _) l⟩
 have b:=Xa h1;have t:=Xa u;clear h1 u;have P:0<=v/\v<=2000:=by
  have k:=b.out;simp only[Y6,bY,bD]at k;omega
 obtain⟨m,rfl⟩:=bX P.1;have hm:m<=2000:=oM;clear P
 go_in
 go_wp2_with fail
 refine(Uz m c n d a L B _ (Xw t _) h o G (by simp;omega)).mono ?_;rintro i C ⟨rfl,l⟩;rw[Xw b];obtain⟨z,ad⟩:=bcell l;have Q:C.cell? ⟨w.heap.size,0,none⟩=some (.int .i64 m):=by rw[z _ _ sP];simp
 have S:C.cell? ⟨w.heap.size,1,none⟩=some (.slice c n d):=by rw[z _ _ sP];simp
 have p:=Xg (Xb (Below.refl w.heap.size w) _) l;have af:=l.size;simp at af;have H:=Xa (ha.keep (p.mono K));have Y:=Xa (X.keep p);have ab:=Xa (hT.keep p);have D:=Xa p;clear z ad l t p
 go_wp2_with fail
 refine(rQ m c n d a L B _ H h o oM ab).mono ?_;rintro i w2 ⟨rfl,e⟩;cases h2:J2 ⟨m,a⟩
 ·have j:=Xa h2
  clear h2;go_wp2
  go_ret
  exact⟨Xl (by rw[r.out,b.out,j.out];rfl),Xg D e⟩
 have j:=Xa h2;clear h2;have O:=Xa (Vi j);rw[<-h.out]at O;have R:=(XU e oM).trans Q;have T:=(XU e oM).trans S;have al:=e.size;have I:=Xa (H.keep (e.mono oM));have M:=Xa (Y.keep e);have E:=Xa (Xg D e);clear e Q S
 go_wp2_with fail
 refine(W4 m c n d a L B _ I h o (fun y k=>(A y k).2.1) oM M).mono ?_;rintro i w3 ⟨rfl,f⟩;cases h3:Z0 ⟨m,a⟩
 ·have q:=Xa h3
  clear h3;go_wp2
  go_ret
  exact⟨Xl (by rw[r.out,b.out,j.out,q.out];rfl),Xg E f⟩
 have q:=Xa h3;clear h3;have U:=(XU f oM).trans R;have q1:=(XU f oM).trans T;have ap:=f.size;have J:=Xa (I.keep (f.mono oM));have Z:=Xa (M.keep f);have F:=Xa (Xg E f);clear f R T
 go_wp2_with fail
 refine(rX m c n d a L B _ J h o (fun y k=>⟨(A y k).1,(A y k).2.2⟩) oM O).mono ?_;rintro i w4 ⟨rfl,g⟩;cases h4:KL ⟨m,a⟩
 ·have s:=Xa h4
  clear h4;go_wp2
  go_ret
  exact⟨Xl (by rw[r.out,b.out,j.out,q.out,s.out];rfl),Xg F g⟩
 have s:=Xa h4;clear h4;have r0:=(XU g oM).trans U;have r1:=(XU g oM).trans q1;have aq:=g.size;have W:=Xa (J.keep (g.mono oM));have aa:=Xa (Z.keep g);have V:=Xa (Xg F g);clear g U q1
 go_wp2_with fail
 refine(WE m c n d a L B _ W h o hm (show Xx a<=1048576 by have:=x.out;omega) oM aa (ub q s)).mono ?_;rintro i w5 ⟨rfl,ac⟩;go_wp2
 go_ret
 exact⟨Xl (by rw[r.out,b.out,j.out,q.out,s.out];simp),Xg V ac⟩
def XX(a:List Xe)(k b:Nat):List Nat:=(List.range k).filter fun j=>decide (b∈X8 a j)
theorem nU{a:List Xe}(d:∀x∈a,∀t∈x.te.tg,0<=t)(b:Nat):∀(k:Nat),k<=a.length->predsFrom (a.take k) 0 (b:Int)=Xi (XX a k b)
 | 0,_=>by simp[predsFrom,XX,Xi]
 | k+1,g=>by
  have c:k<a.length:=g;rw[bN c,ZK,nU d b k oM];have i:(a.take k).length=k:=by simp;omega
  have f:a[k].te.tg.contains (b:Int)=decide (b∈X8 a k):=by
   rw[Km c,eQ,eY,bD,aY];constructor
   ·exact fun h=>⟨_,h,sP⟩
   ·rintro⟨t,e,j⟩
    have l:=d _ (aH c) t e;have:t=(b:Int):=oM;rw[<-this];exact e
  rw[f,i];unfold XX;rw[dN,eU,iW,jX];by_cases h:b∈X8 a k
  ·rw[aU (by simpa using h),aU (by simpa using h)];simp[Xi]
  ·rw[aM (by simpa using h),aM (by simpa using h)];simp[Xi]
theorem K9(a:∀c∈x,∀t∈c.te.tg,0<=t)(b:Nat):predsFrom x 0 (b:Int)=Xi (XX x x.length b):=by
 have:=nU a b x.length (aA _);rwa[gC]at this
theorem Uf{b:Nat}:m∈XX x n b↔m<n/\b∈X8 x m:=by
 unfold XX;rw[fG,bE,bD]
theorem m9{xs:List Xe}{b:Nat}:(XX xs n b).length<=n:=aJ (fJ _ _) sP
def Zp(a:List Xe):(Nat->Nat) × List Nat:=dfsV (X8 a) a.length 0 (fun _=>0,[])
def Ja(a:List Xe):List Nat:=(Zp a).2.reverse
structure UF(xs:List Xe):Prop where
 n1:1<=xs.length
 n2:xs.length<=1000
 tgt:∀x∈xs,∀t∈x.te.tg,0<=t/\t<xs.length
 ok:d9 xs xs.length
theorem Wz(h:XJ ⟨t,x⟩=true):UF x:=by
 simp only[XJ,bY]at h;obtain⟨⟨⟨⟨a,c⟩,_⟩,_⟩,_⟩:=h;simp only[Y6,bY,bD]at a;have b:=Vi c;exact⟨a.1.1.2,a.1.2,fun e d=>(b e d).1,b⟩
theorem UF.tg(h:UF x):∀b,b<x.length->∀t∈X8 x b,t<x.length:=fun b a t c=>by
 rw[Km a]at c;obtain⟨z,d,rfl⟩:=aY.1 c;have:=h.tgt _ (aH a) z d;omega
theorem UF.re(h:UF x):∀a,Re (X8 x) a->a<x.length:=fun a c=>by
 induction c with
 | root=>exact h.n1
 | step _ b d=>exact h.tg _ d _ b
theorem UF.top(h:UF x):(∀a,a∈Ja x↔Re (X8 x) a)/\(∀a,Xh (Zp x).1 a=true↔Re (X8 x) a)/\(Ja x).Nodup/\∀a b,JO (X8 x) b a->b≠a->Bef (Ja x) b a:=by
 obtain⟨d,f,g,i⟩:=Aj h.tg h.n1 (aA x.length);refine⟨fun a=>?_,f,?_,fun a b j c=>sS (i a b j c)⟩
 ·show a∈(Zp x).2.reverse↔_
  rw[kU];exact d a
 ·show((Zp x).2.reverse).Nodup
  exact List.pairwise_reverse.2 (g.imp (fun c e=>c e.symm))
theorem UF.av(h:UF x)(f:∀b,b<x.length->∀a,a<x.length->(Xh (M b) a=true↔Sp (Iav x.length) (Tse x.length) (·∈Ja x) (fun b=>((List.range x.length).map (XX x x.length)).getD b []) b a)):∀b,b<x.length->∀a,a<x.length->(Xh (M b) a=true↔Av (X8 x) a b):=fun b c a d=>by
 rw[f b c a d];refine B4 (n:=x.length) (fun b a d=>Ad d) (fun b a _ c=>zh c) (fun b=>h.top.1 b) h.re (fun b s c=>?_) d;have e:((List.range x.length).map (XX x x.length)).getD b []=XX x x.length b:=by simp[c]
 rw[e];exact Uf
theorem UF.idm(h:UF x){Ws:Nat->Nat->Nat}(c:∀b,b<x.length->∀a,a<x.length->(Xh (Ws b) a=true↔Sp (Iav x.length) (Tse x.length) (·∈Ja x) (fun b=>((List.range x.length).map (XX x x.length)).getD b []) b a)):YX (X8 x) x.length ((List.range x.length).map (VB Ws (Ja x) (Ja x).length)):=UR h.top.2.2.1 h.top.1 h.re h.top.2.2.2 (h.av c)
theorem UF.ord_len(h:UF x):0<(Ja x).length/\(Ja x).length<=x.length/\∀b∈Ja x,b<x.length :=
 ⟨eJ ((h.top.1 0).2 Re.root),YS h.top.2.2.1 (fun a d=>h.re a ((h.top.1 a).1 d)),fun b c=>h.re b ((h.top.1 b).1 c)⟩
theorem wI{tg:Nat->List Nat}(h:YX tg n l)(c:∀x,Re tg x->x<n):∀p∈l,-1<=p/\p<n:=fun p d=>by
 obtain⟨i,b,rfl⟩:=bR d;have e:l.getD i 0=l[i]:=by simp[b]
 rw[<-e];rcases h.get i (by rw[<-h.len];exact b)with⟨a,ha,ea⟩ | ⟨_,ea⟩
 ·have:=c a ha.dom.ra
  omega
 ·omega
end Go.Proofs.YtghnlncgiihhgaaGreatDoor
