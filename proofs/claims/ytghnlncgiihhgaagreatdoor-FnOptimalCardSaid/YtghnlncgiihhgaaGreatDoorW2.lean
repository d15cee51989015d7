import Derived.Deep.RegionWith
import Derived.Test.YtghnlncgiihhgaaGreatDoorNSb
import Derived.OwnWalk
import Derived.Lib.ItoaMem
import Derived.Lib.UnsafeStr
import Derived.Laws.OwnMore
import Derived.Lib.AppendZerosOnto
import Derived.Lib.Walk
import Derived.Lib.SliceRun
namespace Go.Proofs.YtghnlncgiihhgaaGreatDoor
set_option maxHeartbeats 2000000
set_option maxRecDepth 100000
open Go.RowKit Go.Proofs.Tryz
variable{l L:List Int}{y:List Value}{n m k B g:Nat}{f:Nat->Nat}{h:Nat->Value}{p:Option Addr}{R:Program}{a A:Value}{w v u:World}
section
attribute [local go_sem ↓] Go.wp_at_zero Go.wp_at_succ
def BH(a:List Ph):Prop:=∀p∈a,p.args.length<=1048576
def AZ(a:List Xe):Prop:=∀x∈a,x.ps.length<=1048576/\x.is.length<=1048576/\BH x.ps
end
theorem Tryz.info2:(prog.info? 2).map (fun i=>(i.zero,i.size,i.bytes))=some (some (.int .i64 0),1,8):=vZ
def XR(w:World)(L B:Nat)(d:Option Addr)(a:List (List Int)):Prop :=
 ∀i (h:i<a.length),∃b o,d=some ⟨b,o,none⟩/\(L<=b/\b<B)/\∃c e,w.cell? ⟨b,o+i,none⟩=some (.slice c a[i].length e)/\Xf w L B c a[i]
theorem XR.keepS{c:List (List Int)}(h:XR w n m p c)(k:YA n m w v):XR v n m p c:=fun l j=>by
 obtain⟨b,o,f,a,d,e,g,i⟩:=h l j;exact⟨b,o,f,a,d,e,(Xc (k b a.1 a.2)).trans g,i.keepS k⟩
theorem XR.keep{w':World}{a:List (List Int)}(h:XR w n B p a)(k:Below B w w'):XR w' n B p a:=h.keepS (YA.of_below k)
theorem XR.mono{a:List (List Int)}(h:XR w n m p a)(o:k<=n)(l:m<=B):XR w k B p a:=fun j i=>by
 obtain⟨b,q,e,r,c,d,f,g⟩:=h j i;exact⟨b,q,e,oM,c,d,f,g.mono o l⟩
def YT(w:World)(G n:Nat)(P:Nat->List Int)(U:Nat->Value):Prop :=
 w.rowIs G 27 n U/\(∀i,i<n->w.ownsRow (G+1) 2 1 (U i) (P i).length ((P i).map (Value.int .i64)))/\(∀i j,i<n->j<n->i≠j->(U i).ownBlock=none\/(U i).ownBlock≠(U j).ownBlock)
theorem YT.alloc{P:Nat->List Int}(a:YT w n m P h)(o:Obj):YT (w.alloc o) n m P h:=⟨a.1.alloc o,fun i b=>(a.2.1 i b).alloc o,a.2.2⟩
theorem YT.below{P:Nat->List Int}(a:YT w n m P h)(k:Below w.heap.size w v):YT v n m P h:=by
 refine⟨a.1.of_block (k.block _ a.1.lt),fun i d=>?_,a.2.2⟩;refine(a.2.1 i d).kept (row:=none) ⟨k.os,k.tape,k.output,k.size,fun b c _=>k.block b c⟩ ?_;cases (h i).ownBlock<;>simp
theorem YT.congr{P P':Nat->List Int}(a:YT w n m P h)(e:∀i,i<m->P i=P' i):YT w n m P' h :=
 ⟨a.1,fun i b=>by rw[<-e i b];exact a.2.1 i b,a.2.2⟩
theorem YT.step{P:Nat->List Int}(a:YT w n m P h)(s:k<m)(x:Int)(d:Value)(r:w.grownBy v (h k).ownBlock)
 (u:v.ownsRow (n+1) 2 1 d ((P k).length+1) ((P k).map (Value.int .i64)++[.int .i64 x])) (p:d.ownBlock=(h k).ownBlock\/d.ownBlock=some w.heap.size) :
 YT (v.setCell ⟨n,k,none⟩ d) n m (fun i=>if i=k then P k++[x]else P i) (fun i=>if i=k then d else h i):=by
 have y:=a.1.of_block (r.block _ a.1.lt (fun e=>by have:=((a.2.1 k s).lt _ e.symm).1;omega));refine⟨y.set k d,fun i b=>?_,fun i j b g f=>?_⟩
 ·refine ownsRow_setCell_below ?_ (by dsimp only;omega) _
  by_cases e:i=k
  ·subst e
   simp only[gG,aQ,bA,bO,bG,eH,fZ];exact u
  ·simp only[e,fD]
   exact(a.2.1 i b).kept r (a.2.2 i k b s e)
 ·have fresh:∀c,c<m->(h c).ownBlock=none\/(h c).ownBlock≠some w.heap.size:=fun c t=>by
   by_cases e:(h c).ownBlock=some w.heap.size
   ·have:=((a.2.1 c t).lt _ e).2;omega
   ·exact aZ e
  by_cases e1:i=k
  ·subst e1
   have e2:¬j=i:=fun e=>f e.symm
   simp only[gG,e2,fD];rcases p with q | q
   ·rw[q];exact a.2.2 i j b g f
   ·right
    rw[q];intro o;rcases fresh j g with l | l
    ·rw[l]at o;cases o
    ·exact l o.symm
  ·simp only[e1,fD]
   by_cases e2:j=k
   ·subst e2
    simp only[gG];rcases p with q | q
    ·rw[q];exact a.2.2 i j b g f
    ·rw[q];exact fresh i b
   ·simp only[e2,fD]
    exact a.2.2 i j b g f
theorem YT.ints{P:Nat->List Int}(a:YT w n m P h):XR w n w.heap.size (some ⟨n,0,none⟩) ((List.range m).map P):=fun i b=>by
 simp only[bK,gI]at b;obtain⟨c,d,e,ha⟩:=Xk (a.2.1 i b);refine⟨n,0,rfl,⟨aA _,a.1.lt⟩,c,d,?_,?_⟩
 ·simp only[cM,dW,aV]
  rw[a.1.cell b,e]
 ·simp only[cM,dW]
  exact ha.mono oM (aA _)
theorem Tryz.info45:(prog.info? 27).map (fun i=>(i.zero,i.size,i.bytes))=some (some (.slice none 0 0),1,24):=vZ
theorem YT.born(w:World)(n:Nat):YT (w.alloc (.cells (madeCells #[.slice none 0 0] n) 27)) w.heap.size n (fun _=>[]) (fun _=>.slice none 0 0) :=
 ⟨dG _ _ _ _,fun _ _=>dA _ _ _ _,fun _ _ _ _ _=>bC rfl⟩
structure Ye(w:World)(G n K:Nat)(gs:Nat->Nat)(Ws:Nat->Nat->Nat):Prop where
 row:w.rowIs G 72 n (fun i=>.slice (some ⟨gs i,0,none⟩) K K)
 set:∀i,i<n->w.rowIs (gs i) 114 K (fun j=>.int .u64 (Ws i j))
 inj:∀i j,i<n->j<n->gs i=gs j->i=j
 out:∀i,i<n->gs i≠G
theorem Tryz.infoSet:(prog.info? 72).map (fun i=>(i.zero,i.size,i.bytes))=some (some (.agg #[.slice none 0 0]),1,24):=vZ
theorem J9{P:Program}(t e:TypeId)(z:Value)(size bytes:Nat)(f:P.underlying t=some (.slice e))(c:(P.info? e).map (fun i=>(i.zero,i.size,i.bytes))=some (some z,size,bytes))
 (n:Nat) (k:bytes*n<=281474976710656) (j:n<=9223372036854775807) (w:World) :
 (Instr.makeSlice t (.int .i64 (n:Int)) (.int .i64 (n:Int))).run P w=.ok (.slice (some ⟨w.heap.size,0,none⟩) n n) (w.alloc (.cells (madeCells z.cells (n*size)) e)):=by
 obtain⟨i,b,hq⟩:=Option.map_eq_some_iff.1 c;simp only[jC]at hq;obtain⟨g,d,a⟩:=hq;have h:=run_make (P:=P) w t e i z f b g .i64 .i64 (n:Int) (n:Int) oM (Int.le_refl _) (by rw[a,<-Int.natCast_mul];omega) oM;simp only[dM,d]at h;exact h
structure fo(w wr:World)(G n K q:Nat)(gs:Nat->Nat):Prop where
 low:Below w.heap.size w wr
 base:w.heap.size<=G
 row:wr.rowIs G 72 n (fun i=>if i<q then .slice (some ⟨gs i,0,none⟩) K K else .slice none 0 0)
 set:∀i,i<q->wr.rowIs (gs i) 114 K (fun _=>.int .u64 ((0:Nat):Int))
 inj:∀i j,i<q->j<q->gs i=gs j->i=j
 up:∀i,i<q->G<gs i
theorem fo.next{wr:World}(h:fo w wr n m k B f)(hq:B<m)(b:Below wr.heap.size wr v)(p:wr.heap.size<=g)(o:v.rowIs g 114 k (fun _=>.int .u64 ((0:Nat):Int))) :
 fo w (v.setCell ⟨n,B,none⟩ (.slice (some ⟨g,0,none⟩) k k)) n m k (B+1) (fun i=>if i=B then g else f i)/\v.cell? ⟨n,B,none⟩=some (.slice none 0 0)/\v.frozen? ⟨n,B,none⟩=false:=by
 have l:=h.row.lt;have d:=h.row.of_block (b.block n l);have c:=fun i a=>(h.set i a).lt
 refine⟨⟨(h.low.trans (b.mono h.low.size)).setCell h.base _,h.base,(d.set B _).congr (fun i _=>?_),fun i a=>?_,fun i j a q e=>?_,fun i a=>?_⟩,(d.cell hq).trans sP,d.frozen B⟩
 ·by_cases e:i=B
  ·subst e;simp
  ·rw[aM e]
   by_cases e2:i<B
   ·rw[aU e2,aU oM];simp[e]
   ·rw[aM e2,aM oM]
 ·by_cases e:i=B
  ·rw[aU e];exact o.setOther (by show g≠n;omega) _
  ·rw[aM e]
   have:=h.up i oM;exact((h.set i oM).of_block (b.block _ (c i oM))).setOther (by show f i≠n;omega) _
 ·by_cases e1:i=B
  ·by_cases e2:j=B
   ·rw[e1,e2]
   ·rw[aU e1,aM e2]at e
    have:=c j oM;omega
  ·by_cases e2:j=B
   ·rw[aM e1,aU e2]at e
    have:=c i oM;omega
   ·rw[aM e1,aM e2]at e
    exact h.inj i j oM oM e
 ·by_cases e:i=B
  ·show n<if i=B then g else f i
   rw[aU e];omega
  ·show n<if i=B then g else f i
   rw[aM e];exact h.up i oM
theorem Th(n d:Nat)(w:World)(z:n<=1000)(t:d<=60000) :
 Calls prog 121 #[.int .i64 n,.int .i64 d] w fun e j=>∃G c,e=.returned (.slice (some ⟨G,0,none⟩) n n)/\w.heap.size<=G/\Below w.heap.size w j/\Ye j G n ((d+63) / 64) c (fun _ _=>0)/\(∀i,i<n->w.heap.size<=c i):=by
 have y:=J9 (P:=prog) 183 72 (.agg #[.slice none 0 0]) 1 24 underlying183 Tryz.infoSet n oM oM;have k:=Xa (fun W=>Tt d W t);generalize (d+63) / 64=K at *
 go_in
 go_wp2
 go_loopw [11] (fun u wr=>∃q:Nat,q<=n/\u=.int .i64 q/\∃c,Hid (fo w wr w.heap.size n K q c)) (fun u _=>n-(intOf u).toNat)
 case atStart=>exact⟨0,aN _,rfl,fun _=>0,Xa ⟨Xb (Below.refl _ _) _,aA _,by
  have m:=dG w (.slice none 0 0) n 72;simpa [Value.cells]using m,fun i a=>absurd a oM,fun i B a=>absurd a oM,fun i a=>absurd a oM⟩⟩
 case round =>
  obtain⟨q,hq,rfl,c,b⟩:=hrel;by_cases r:q<n
  ·go_wp2_with fail
   refine(k wr).mono ?_;rintro e C ⟨v,rfl,p,g,h⟩;have o:=b.next r g p h;obtain⟨f,x,A⟩:=o;have l:=Xa f;clear f g h
   go_wp2
   exact⟨⟨q+1,oM,gM,_,l⟩,by simp[intOf];omega⟩
  ·have s:q=n:=oM
   subst s
   go_wp2
   go_ret
   refine⟨_,c,rfl,aA _,b.low,⟨b.row.congr (fun i a=>by rw[aU a]),b.set,b.inj,fun i a e=>by have:=b.up i a;omega⟩,fun i a=>by have:=b.up i a;omega⟩
def K8(l:List UInt8):ByteArray:=⟨l.toArray⟩
structure Gr(w w':World)(u v:Value):Prop where
 grown:w.grownBy w' u.ownBlock
 own:∀g,v.ownBlock=some g->w.heap.size<=g\/u.ownBlock=some g
theorem Gr.refl(w:World)(u:Value):Gr w w u u:=⟨⟨rfl,rfl,rfl,aA _,fun _ _ _=>rfl⟩,fun _ h=>aZ h⟩
theorem Gr.below(h:Gr w v a A)(e:w.ownsRow n m k a B y)(c:Below n u w)(b:n<=w.heap.size):Below n u v :=
 c.grown h.grown b (fun f d=>(e.lt f d).1)
def dz(a:Int):List UInt8 :=
 if a=1 then [99,111,110,115,116]else if a=2 then [97,114,103]else if a=3 then [97,100,100]else if a=4 then [115,117,98]else if a=5 then [109,117,108]
 else if a=6 then [100,105,118]else if a=7 then [108,101,115,115]else if a=8 then [108,111,97,100]else if a=9 then [115,116,111,114,101]else if a=11 then [109,111,118,101]else if a=12 then [112,117,116]else if a=13 then [103,101,116]else [111,117,116]
def pick(x:Yg)(c:UInt8):List Int:=if c=100 then [x.dst]else if c=97 then [x.a]else if c=98 then [x.b]else if c=105 then [x.imm]else []
theorem tA(l:List Int)(v:Int):(l++[v]).map (Value.int .i64)=l.map (Value.int .i64)++[Value.int .i64 v]:=sP
theorem Wj(a:List Ph)(p:Ph):XG (a++[p])=XG a++[p.dst]:=by simp[XG]
theorem Vx(a:List Yg)(p:Yg):XI (a++[p])=XI a++(if dB p.op then [p.dst]else []):=by
 simp only[XI,eU,bG];congr 1;cases h:dB p.op<;>simp[h]
theorem U0(a:List Xe)(p:Xe):blksDefs (a++[p])=blksDefs a++Z6 p:=by simp[blksDefs]
theorem TP(a:List Yg):(XI a).length<=a.length:=by simp only[XI,bK];exact fJ _ _
theorem KP(a:List Xe):(blksDefs a).length<=Xx a:=by
 induction a with
 | nil=>simp[blksDefs]
 | cons x a e =>
  have b:blksDefs (x::a)=Z6 x++blksDefs a:=by simp[blksDefs]
  have c:Xx (x::a)=ZZ x+Xx a:=by simp[Xx]
  have d:(Z6 x).length<=ZZ x:=by
   simp only[Z6,XG,aQ,bK,ZZ];have:=TP x.is;omega
  rw[b,c,aQ];omega
theorem pF{wr:World}(f:Below w.heap.size w wr)(e:w.heap.size<wr.heap.size)(d:wr.cell? ⟨w.heap.size,1,none⟩=some (.slice p m k))
 (o:Obj) (c:wr.ownsRow (w.heap.size+1) 2 1 a n y) (b:(wr.alloc o).grownBy v a.ownBlock) :
 Below w.heap.size w v/\w.heap.size<v.heap.size/\v.cell? ⟨w.heap.size,1,none⟩=some (.slice p m k)/\wr.heap.size<=v.heap.size:=by
 have g:=b.size;simp at g;refine⟨Xy (Xb f _) b (c.alloc _) oM (by simp;omega),oM,?_,oM⟩;exact(Xc (YJ b (c.alloc _) (b:=w.heap.size) oM (by simp;omega))).trans (oB (Xb (Below.refl wr.heap.size wr) _) d e)
theorem tU(aq:Int)(C:Option Addr)(n v:Nat)(a:List Xe)(ac J:Nat)(w:World)(ha:Hid (Xp w ac J C a))(U:Hid (n=a.length))(hn:n<=1048576)(hs:Hid (Xx a<=1048576))(hB:J<=w.heap.size) :
 Calls prog 47 #[.agg #[.int .i64 aq,.slice C n v]] w fun m H=>∃M c',m=.returned (.slice M (blksDefs a).length c')/\Below w.heap.size w H/\Xf H w.heap.size H.heap.size M (blksDefs a):=by
 obtain⟨Z,R,V,W,Y⟩:=fX Tryz.info2'
 go_in
 go_wp2
 go_loopw [3,4] (fun u i wr=>∃k:Nat,k<=n/\i=.int .i64 k/\Below w.heap.size w wr/\w.heap.size<wr.heap.size/\wr.cell? ⟨w.heap.size,1,none⟩=some (.slice C n v)/\wr.ownsRow (w.heap.size+1) 2 1 u (blksDefs (a.take k)).length ((blksDefs (a.take k)).map (Value.int .i64))) (fun _ i _=>n-(intOf i).toNat)
 case atStart=>exact⟨0,aN _,rfl,Xb (Xb (Below.refl _ _) _) _,by simp;omega,sP,K5 _ _⟩
 case round =>
  obtain⟨k,hk,rfl,T,ap,af,z⟩:=hrel;by_cases az:k<n
  ·have F:k<a.length:=oN U.out
   obtain⟨b,ab,rfl,⟨_,ar⟩,O⟩:=ha k F;have L:=Xa O;have al:Hid (blksDefs (a.take (k+1))=blksDefs (a.take k)++(XG a[k].ps++XI a[k].is)):=by
    show _=_;rw[X7 _ _ F,U0];rfl
   have ax:(blksDefs (a.take k)).length+(a[k].ps.length+JG a[k].ps+a[k].is.length)<=1048576:=by
    have h1:=UX a (k+1);rw[X7 _ _ F,Vm]at h1;have h2:=KP (a.take k);have p:=hs.out;have h4:ZZ a[k]=a[k].ps.length+JG a[k].ps+a[k].is.length:=rfl;omega
   have a0:a[k].ps.length<=1048576:=oM;have ay:a[k].is.length<=1048576:=oM;have HO:=Xa z;clear z O;generalize hX:a[k]=X at *;clear hX;generalize blksDefs (a.take k)=D at *;obtain⟨pa,pc,ia,ic,N,e1,_,S,Q⟩:=L.out;have HP:=Xa S;have HI:=Xa Q;have E0:=Xa N;have K:=Xa e1;clear N e1 S Q L;go_wp2
   go_loopw [3,5] (fun u i g=>∃j:Nat,j<=X.ps.length/\i=.int .i64 j/\Below w.heap.size w g/\w.heap.size<g.heap.size/\g.cell? ⟨w.heap.size,1,none⟩=some (.slice (some ⟨b,ab,none⟩) n v)/\g.ownsRow (w.heap.size+1) 2 1 u (D++XG (X.ps.take j)).length ((D++XG (X.ps.take j)).map (Value.int .i64))) (fun _ i _=>X.ps.length-(intOf i).toNat)
   case atStart=>exact⟨0,aN _,rfl,T,ap,af,by simpa [XG]using HO.out⟩
   case round =>
    obtain⟨j,e,rfl,c,l,h,f⟩:=hrel;have f0:=(XU c oM).trans E0;have f1:=(XU c oM).trans K;by_cases q:j<X.ps.length
    ·obtain⟨b',o',rfl,⟨_,ad⟩,aa,cc,o,x,_⟩:=HP j q
     have e2:=(XU c oM).trans o;have p:Hid (D++XG (X.ps.take (j+1))=(D++XG (X.ps.take j))++[X.ps[j].dst]):=by show _=_;rw[X7 _ _ q,Wj,cK]
     have hl:(D++XG (X.ps.take j)).length<=1048576:=by simp[XG];omega
     clear o x;generalize X.ps[j]=P at *;generalize D++XG (X.ps.take j)=D1 at *;have d:=Xa f;clear f f1
     go_wp2_with (at_builtin;refine fT _ rfl _ _ 27 rfl (w.heap.size+1) 2 Z (.int .i64 0) 1 8 underlying27 R V W Y rfl vY _ _ _ rfl (d.alloc _) ⟨wr.heap.size,0,none⟩ 1 1 [.int .i64 P.dst] rfl rfl ?c1 ?c2 ?c3 ?c4 ?c5 ?_)
     case c1 =>
      intro j u e
      match j,e with
      | 0,e=>simp at e;subst e;simp[Addr.add]
     case c2=>intro u s;simp at s;subst s;rfl
     case c3=>unfold maxLen;omega
     case c4=>omega
     case c5=>simp;omega
     intro v1 w1 r E _;have B:=Xa r;clear r;go_wp2;obtain⟨q1,q2,G,_⟩:=pF c l h _ d E;exact⟨⟨j+1,oM,gM,q1,q2,G,by rw[p.out,Yl];simpa using B.out⟩,by simp[intOf];omega⟩
    ·have y:=Xa (aW (l:=X.ps) (i:=j) oM)
     have d:=Xa f;clear f;go_wp2
     go_loopw [3,6] (fun u i g=>∃j:Nat,j<=X.is.length/\i=.int .i64 j/\Below w.heap.size w g/\w.heap.size<g.heap.size/\g.cell? ⟨w.heap.size,1,none⟩=some (.slice (some ⟨b,ab,none⟩) n v)/\g.ownsRow (w.heap.size+1) 2 1 u (D++XG X.ps++XI (X.is.take j)).length ((D++XG X.ps++XI (X.is.take j)).map (Value.int .i64))) (fun _ i _=>X.is.length-(intOf i).toNat)
     case atStart=>exact⟨0,aN _,rfl,c,l,h,by have:=d.out;rw[y.out]at this;simpa [XI]using this⟩
     case round =>
      clear c l h f0 f1 d y;obtain⟨j,e,rfl,c,l,h,f⟩:=hrel;have f1:=(XU c oM).trans K;by_cases q:j<X.is.length
      ·obtain⟨b',o',rfl,⟨_,ad⟩,o,x,_,_,_⟩:=HI j q
       have e2:=(XU c oM).trans o;have e3:=(XU c oM).trans x;have p:Hid (D++XG X.ps++XI (X.is.take (j+1))=(D++XG X.ps++XI (X.is.take j))++(if dB X.is[j].op then [X.is[j].dst]else [])):=by show _=_;rw[X7 _ _ q,Vx,<-cK]
       have hl:(D++XG X.ps++XI (X.is.take j)).length<=1048576:=by have:=TP (X.is.take j);simp[XG]at this |-;omega
       clear o x;generalize X.is[j]=P at *;generalize D++XG X.ps++XI (X.is.take j)=D1 at *;have d:=Xa f;clear f;cases hd:dB P.op
       ·have A:=Xa hd
        go_wp2_with (go_at_call 64;refine(dg _ _).mono ?_;rintro m I ⟨rfl,t⟩;rw[t];clear t I)
        exact⟨⟨j+1,oM,gM,c,l,h,by rw[p.out,A.out];simpa using d.out⟩,by simp[intOf];omega⟩
       ·have A:=Xa hd
        go_wp2_with (first | (go_at_call 64;refine(dg _ _).mono ?_;rintro m I ⟨rfl,t⟩;rw[t];clear t I) | (at_builtin;refine fT _ rfl _ _ 27 rfl (w.heap.size+1) 2 Z (.int .i64 0) 1 8 underlying27 R V W Y rfl vY _ _ _ rfl (d.alloc _) ⟨wr.heap.size,0,none⟩ 1 1 [.int .i64 P.dst] rfl rfl ?c1 ?c2 ?c3 ?c4 ?c5 ?_))
        case c1 =>
         intro j u e
         match j,e with
         | 0,e=>simp at e;subst e;simp[Addr.add]
        case c2=>intro u s;simp at s;subst s;rfl
        case c3=>unfold maxLen;omega
        case c4=>omega
        case c5=>simp;omega
        intro v1 w1 r E _;have B:=Xa r;clear r;go_wp2;obtain⟨q1,q2,G,_⟩:=pF c l h _ d E;exact⟨⟨j+1,oM,gM,q1,q2,G,by rw[p.out,A.out,aU rfl,Yl];simpa using B.out⟩,by simp[intOf];omega⟩
      ·have y:=Xa (aW (l:=X.is) (i:=j) oM)
       have d:=Xa f;clear f;go_wp2;exact⟨⟨k+1,oM,gM,c,l,h,by have:=d.out;rw[y.out]at this;rw[al.out,<-cK];exact this⟩,by simp[intOf];omega⟩
  ·go_wp2
   go_ret
   have m:=aW (l:=a) (i:=k) (oN U.out);rw[m]at z;obtain⟨a1,c1,rfl,aj⟩:=Xk z;exact⟨_,_,rfl,T,aj.mono oM (aA _)⟩
theorem Um{P:Program}(c:Nat)(t h e:TypeId)(i:TypeInfo)(size:Nat)(b:P.underlying t=some (.slice e))(a:P.info? e=some i)
 (v:Value) (n d:Nat) (j:List Value) (f:w.ownsRow c e size v n j) :
 (Builtin.append_ #[t,t] h #[v,.slice none 0 d]).run P w=.ok v w:=by
 rcases f.2 with⟨rfl,rfl⟩ | ⟨g,cap,cur,rfl,_,_,hnc,_⟩
 ·simp[Builtin.append_,run_underlying b,sizeOf,typeInfo,a,Builtin.lenOf,Builtin.firstCells]
 ·simp[Builtin.append_,run_underlying b,sizeOf,typeInfo,a,Builtin.lenOf,Builtin.firstCells,hnc,storeCells]
theorem uh{c:Addr}{qs:List Int}(g:Xf w n m (some c) qs):∀j u,(qs.map (Value.int .i64))[j]?=some u->w.cell? (c.add j)=some u:=by
 intro j u a;have d:j<qs.length:=by
  rcases mL j qs.length with h | h
  ·exact h
  ·rw[dK (by simpa using h)]at a;cases a
 obtain⟨b,o,e,-,f⟩:=g j d;cases e;rw[dX,aC d]at a;cases a;rw[mK];exact f
theorem JD{o:Oper}{h:Act}{K:Act->World->Prop}{Q:Exit->Act->World->Prop}(B x:Operand)(t:TypeId)
 (s:o.op=.call { callee:=.builtin .append,args:=#[B,x],argTypes:=#[t,t] })
 (d:Nat) (e:TypeId) (i:TypeInfo) (y:R.underlying t=some (.slice e)) (q:R.info? e=some i) (P:i.zero=some (.int .i64 0))
 (N:i.size=1) (I:i.bytes=8)
 (v:Value) (a:List Int) (u:h.eval B=v) (n:w.ownsRow d e 1 v a.length (a.map (Value.int .i64))) (r:v≠.slice none 0 0)
 (c:Option Addr) (m j:Nat) (qs:List Int) (L C:Nat) (A:h.eval x=.slice c m j) (l:m=qs.length) (z:Xf w L C c qs)
 (T:a.length+m<=1000000000000) (H:d<=w.heap.size)
 (p:∀b g,g.ownsRow d e 1 b (a++qs).length ((a++qs).map (Value.int .i64))->Gr w g v b->b≠.slice none 0 0->K (h.put o.dst b) g) :
 o.wp R h w K Q:=by
 cases c with
 | none =>
  have G:qs=[]:=by
   cases qs with
   | nil=>rfl
   | cons x U=>obtain⟨_,_,e,_⟩:=z 0 sP;cases e
  subst G;subst l;have M:=Um (P:=R) (w:=w) d t o.type e i 1 y q v a.length j _ n;unfold Oper.wp execOp;simp only[s,resolve,invoke,builtin,lG,lH,jE,jN,eH,fZ,u,A,bO,M];exact p v w (by simpa using n) (Gr.refl _ _) r
 | some c =>
  obtain⟨b,g,J,D,E,F,f⟩:=kI (P:=R) w d t o.type e i (.int .i64 0) 1 8 y q P N I rfl vY v a.length _ n c m j (qs.map (Value.int .i64)) (by simp[l]) (uh z) (by intro V O;obtain⟨W,-,rfl⟩:=aY.1 O;rfl) (by unfold maxLen;omega) oM H;unfold Oper.wp execOp;simp only[s,resolve,invoke,builtin,lG,lH,jE,jN,eH,fZ,u,A,J];refine p b g (by rw[aQ,bG,<-l];exact D) ⟨E,fun S k=>?_⟩ (fun e=>r (F.1 e).1);rcases f with f | f
  ·exact aZ (f ▸ k)
  ·rw[f]at k;cases k;exact bC (aA _)
def d7(L a:List Int)(i:Nat):Prop:=a.length=L.length/\∀k (h:k<L.length),a[k]?=some (if k<i\/L.length<=k+i then L[L.length-1-k]else L[k])
theorem yh(L:List Int):d7 L L 0:=⟨rfl,fun k h=>by rw[aM oM,aC h]⟩
theorem xg(h:d7 l L n)(b:l.length<=2*n+1):L=l.reverse:=by
 refine iG (fun k=>?_);by_cases a:k<l.length
 ·rw[h.2 k a,List.getElem?_reverse a,aC oM]
  split
  ·rfl
  ·have e:l.length-1-k=k:=oM
   simp only[e]
 ·rw[dK (by rw[h.1];omega),dK (by rw[jQ];omega)]
theorem xt(h:d7 l L n)(d:2*n+1<l.length)(a:n<L.length)(b:l.length-1-n<L.length):d7 l ((L.set n L[l.length-1-n]).set (l.length-1-n) L[n]) (n+1):=by
 refine⟨by rw[bL,bL];exact h.1,fun k c=>?_⟩;have e1:=h.2 n oM;have e2:=h.2 (l.length-1-n) oM;rw[aC a,aM oM]at e1;rw[aC b,aM oM]at e2;injection e1 with e1;injection e2 with e2;rw[kG,bL];by_cases c1:l.length-1-n=k
 ·subst c1
  rw[aU rfl,aU b,aU oM,e1];have e:l.length-1-(l.length-1-n)=n:=oM;simp only[e]
 ·rw[aM c1,kG]
  by_cases c2:n=k
  ·subst c2
   rw[aU rfl,aU a,aU oM,e2]
  ·rw[aM c2,h.2 k c]
   by_cases c3:k<n\/l.length<=k+n
   ·rw[aU c3,aU oM]
   ·rw[aM c3,aM oM]
theorem TM(g n c B:Nat)(L:List Int)(w:World)(O:n<=1000000)(r:Hid (n=L.length))(D:Hid (w.ownsRow B 2 1 (.slice (some ⟨g,0,none⟩) n c) n (L.map (Value.int .i64)))) :
 Calls prog 86 #[.slice (some ⟨g,0,none⟩) n c] w fun e s=>e=.returned (.tuple #[])/\w.grownBy s (some g)/\s.ownsRow B 2 1 (.slice (some ⟨g,0,none⟩) n c) n (L.reverse.map (Value.int .i64)):=by
 go_in
 go_wp2
 go_loopw [2,3] (fun u v wr=>∃(i:Nat)(a:List Int),u=.int .i64 i/\v=.int .i64 ((n:Int)-1-i)/\2*i<=n/\Hid (d7 L a i)/\Hid (w.grownBy wr (some g))/\Hid (wr.ownsRow B 2 1 (.slice (some ⟨g,0,none⟩) n c) n (a.map (Value.int .i64)))) (fun u _ _=>n-(intOf u).toNat)
 case atStart=>exact⟨0,L,rfl,gM,oM,Xa (yh L),Xa ⟨rfl,rfl,rfl,aA _,fun _ _ _=>rfl⟩,D⟩
 case round =>
  obtain⟨i,a,rfl,rfl,I,d,k,b⟩:=hrel;by_cases N:2*i+1<n
  ·have A:=r.out
   have C:=d.1;obtain⟨j,f⟩:∃j:Nat,(n:Int)-1-i=j:=⟨n-1-i,oM⟩;have h:j=L.length-1-i:=oM;have o:i<a.length:=oM;have y:L.length-1-i<a.length:=oM;have z:j<a.length:=oM;have m:=Xa (xt d oM o y);have e1:=Jj b (j:=i) (u:=.int .i64 a[i]) (by simp[o]);have e2:=Jj b (j:=j) (u:=.int .i64 a[j]) (by simp[z]);have P:=x9 b;have l:Hid (a[L.length-1-i]=a[j]):=Xa (by simp only[h]);rw[l.out,<-h]at m;have J:i<j:=oM;have M:j<n:=oM;have K:i<n:=oM;have p:(j:Int)-1=(n:Int)-1-(i+1:Nat):=oM;have x:=Xa p;have H:∀v,(wr.setCell ⟨g,i,none⟩ v).cell? ⟨g,j,none⟩=some (.int .i64 a[j]):=fun v=>(XL _ _ oM _).trans e2
   clear A C h p l;rw[f];generalize a[i]=F at *;generalize a[j]=G at *;go_wp2
   go_region
   go_wp2;have E:wr.grownBy ((wr.setCell ⟨g,i,none⟩ (.int .i64 G)).setCell ⟨g,j,none⟩ (.int .i64 F)).drew (some g):=⟨rfl,rfl,rfl,by simp[World.setCell,World.drew],fun Q _ q=>(Below.heap_setCell _ _ _ _ (fun e=>q (by rw[e]))).trans (Below.heap_setCell _ _ _ _ (fun e=>q (by rw[e])))⟩;refine⟨⟨i+1,_,gM,by rw[x.out],oM,m,Xa (k.andThen E (fun j f=>by cases f;exact aZ rfl)),Xa ?_⟩,by simp[intOf];omega⟩;rw[mN,mN];exact jo (jo b _) _
  ·have t:=Xa (xg d (oN r.out))
   go_wp2
   go_end0
   exact⟨rfl,k,by rw[<-t.out];exact b⟩
theorem kw(b o n c:Nat)(a:List Int)(L B:Nat)(w:World)(s:Hid (Xf w L B (some ⟨b,o,none⟩) a))(t:Hid (n=a.length))(A:n<=1000000000)(q:B<=w.heap.size) :
 Calls prog 111 #[.slice (some ⟨b,o,none⟩) n c] w fun p j=>∃v,p=.returned v/\Below w.heap.size w j/\v≠.slice none 0 0/\j.ownsRow w.heap.size 2 1 v a.length (a.map (Value.int .i64)):=by
 obtain⟨z,r,u,x,y⟩:=fX Tryz.info2';have C:∀(w:World)(d:Option Addr)(n c f e:Nat),(binOp .eql 27 (.slice d n c) (.slice none f e)).run prog w=.ok (.bool d.isNone) w:=fun w d n c f e=>Lib.run_eql_slice_nil w _ _ d n c f e underlying27
 go_in
 go_wp2_with (at_builtin;refine nG rfl fun K hK=>JD _ _ 27 rfl w.heap.size 2 z underlying27 r u x y (.slice (some ⟨w.heap.size,0,none⟩) 0 0) [] rfl (by simpa using World.ownsRow_lit (base:=w.heap.size) (e:=2) (size:=1) w #[] 0 sP sP rfl) sP (some ⟨b,o,none⟩) n c a L B rfl t (s.keep ((Xb (Below.refl w.heap.size w) _).mono q)) (by simp;omega) sP ?_)
 intro D E i g h;have k:=Xa (g.below (by simpa using World.ownsRow_lit (base:=w.heap.size) (e:=2) (size:=1) w #[] 0 sP sP rfl:(w.alloc (.cells #[] 2)).ownsRow w.heap.size 2 1 (.slice (some ⟨w.heap.size,0,none⟩) 0 0) 0 []) (Xb (Below.refl _ _) _) sP);have m:=Xa i;have l:=Xa h;clear g i h;refine hK _ _ ?_;go_wp2
 go_ret
 exact⟨_,rfl,k,l,m⟩
def qC(a b:World):Prop:=a=b
theorem sR(n:Nat)(w:World)(o:n<=1000000) :
 Calls prog 120 #[.slice none 0 0,.int .i64 n] w fun i f=>∃v,i=.returned v/\Below w.heap.size w f/\(0<n->v≠.slice none 0 0)/\f.ownsRow w.heap.size 2 1 v 0 []:=by
 obtain⟨e,l,m,p,d⟩:=fX Tryz.info2';by_cases j:n=0
 ·subst j
  go_in
  go_wp2
  go_ret
  exact⟨_,rfl,Below.refl _ _,fun h=>absurd h oM,dA _ _ _ _⟩
 ·have c:∀b,(Builtin.append_ #[27,3] b #[.slice none 0 0,.int .i64 (n:Int)]).run prog w =
   .ok (.slice (some ⟨w.heap.size,0,none⟩) (0+n) (grownCap w (0+n) 0 2)) (w.drew.alloc (.cells (([]:List Value).toArray++Builtin.zeroCells (Value.int .i64 0).cells n++Builtin.zeroCells (Value.int .i64 0).cells (grownCap w (0+n) 0 2 - (0+n))) 2)):=fun b =>
   Lib.run_append_grow_zeros w 27 3 b 2 e (.int .i64 0) .i64 .i64 underlying27 underlying3 l m none 0 0 [] (run_firstCells_none w.drew e.size 0 0 0) n oM oM oM oM (by rw[d];omega) (by rw[d];exact growslice_fits oM oM)
  have k:0+n<=grownCap w (0+n) 0 2:=grownCap_ge w _ _ _;have a:=grownCap_le_maxLen w (0+n) 0 2 (by unfold maxLen;omega);rw[aV]at c k a;have g:Hid (∀W:World,(W.alloc (.cells (([]:List Value).toArray++Builtin.zeroCells (Value.int .i64 0).cells n++Builtin.zeroCells (Value.int .i64 0).cells (grownCap w n 0 2 - n)) 2)).ownsRow W.heap.size 2 1 (.slice (some ⟨W.heap.size,0,none⟩) 0 (grownCap w n 0 2)) 0 []):=Xa (fun W=>World.ownsRow_made W _ _ (aA _) a (by simp[size_zeroCells,Value.cells];omega));generalize ([]:List Value).toArray++Builtin.zeroCells (Value.int .i64 0).cells n++Builtin.zeroCells (Value.int .i64 0).cells (grownCap w n 0 2 - n)=cells at *;generalize grownCap w n 0 2=G at *;unfold maxLen at a
  go_in
  go_wp2_with (at_builtin;refine Lib.wpList_append_run _ rfl _ _ _ _ rfl _ _ rfl rfl _ _ (c _) ?_)
  all_goals (go_ret;exact⟨_,rfl,Xb (Below.refl _ _).drew _,fun _ h=>(by cases h),g w.drew⟩)
theorem Wb(i c c1 e c2:Nat)(p q:Option Addr)(a d:List Int)(y k z l:Nat)(w:World)(T:Hid (Xf w y k p a))(U:Hid (Xf w z l q d))(e1:Hid (c=a.length))(e2:Hid (e=d.length))(aa:c<=1000)(ab:e<=1000)(Y:0<c+e)(V:k<=w.heap.size)(W:l<=w.heap.size)(K:w.cell? ⟨i,0,none⟩=some (.slice p c c1))(q1:w.cell? ⟨i,1,none⟩=some (.slice q e c2)) :
 Calls prog 112 #[.slice (some ⟨i,0,none⟩) 2 2] w fun A L=>∃v,A=.returned v/\Below w.heap.size w L/\L.ownsRow w.heap.size 2 1 v (a++d).length ((a++d).map (Value.int .i64)):=by
 obtain⟨J,D,G,H,I⟩:=fX Tryz.info2';have N:=Xa (sR (c+e) w oM)
 go_in
 go_wp2
 go_loopw [3,11] (fun t u wr=>qC wr w/\((t=.int .i64 0/\u=.int .i64 0)\/(t=.int .i64 c/\u=.int .i64 1)\/(t=.int .i64 ((c+e:Nat):Int)/\u=.int .i64 2))) (fun _ u _=>2-(intOf u).toNat)
 case atStart=>exact⟨rfl,bC ⟨rfl,rfl⟩⟩
 case round =>
  obtain⟨r,s⟩:=hrel;unfold qC at r;have X:=r.symm;subst X;clear r;rcases s with⟨rfl,rfl⟩ | ⟨rfl,rfl⟩ | ⟨rfl,rfl⟩
  ·go_wp2
   exact⟨⟨rfl,aZ (bC ⟨rfl,rfl⟩)⟩,by simp[intOf]⟩
  ·go_wp2
   exact⟨⟨rfl,aZ (aZ ⟨gM,rfl⟩)⟩,by simp[intOf]⟩
  ·go_wp2_with fail
   refine N.mono ?_;rintro A w1 ⟨v,rfl,B,E,F⟩;have M:=Xa B;have R:=Xa F;have Q:=Xa (E Y);have C:i<w.heap.size:=aI _ _ K;clear B F E
   go_wp2
   go_loopw [6,27] (fun v u j=>Hid (Below w.heap.size w j)/\Hid (v≠.slice none 0 0)/\((u=.int .i64 0/\Hid (j.ownsRow w.heap.size 2 1 v ([]:List Int).length (([]:List Int).map (Value.int .i64))))\/(u=.int .i64 1/\Hid (j.ownsRow w.heap.size 2 1 v a.length (a.map (Value.int .i64))))\/(u=.int .i64 2/\Hid (j.ownsRow w.heap.size 2 1 v (a++d).length ((a++d).map (Value.int .i64)))))) (fun _ u _=>2-(intOf u).toNat)
   case atStart=>exact⟨M,Q,bC ⟨rfl,R⟩⟩
   case round =>
    obtain⟨b,x,s⟩:=hrel;have aj:=oB b K C;have al:=oB b q1 C;have af:=b.size;have ac:a.length<=1000:=oN e1.out
    have ad:d.length<=1000:=oN e2.out
    rcases s with⟨rfl,HOq⟩ | ⟨rfl,HOq⟩ | ⟨rfl,HOq⟩
    ·have O:=Xa (T.keep (b.mono V))
     go_wp2_with (at_builtin;refine nG rfl fun S hK=>JD _ _ 27 rfl w.heap.size 2 J underlying27 D G H I _ [] rfl HOq x p c c1 a y k rfl e1 O (by simp;omega) oM ?_)
     intro Z w2 h f g;have m:=Xa (f.below HOq b oM);have o:=Xa h;have n:=Xa g;clear h f g;refine hK _ _ ?_
     go_wp2
     exact⟨⟨m,n,aZ (bC ⟨rfl,o⟩)⟩,by simp[intOf]⟩
    ·have P:=Xa (U.keep (b.mono W))
     go_wp2_with (at_builtin;refine nG rfl fun S hK=>JD _ _ 27 rfl w.heap.size 2 J underlying27 D G H I _ a rfl HOq x q e c2 d z l rfl e2 P oM oM ?_)
     intro Z w2 h f g;have m:=Xa (f.below HOq b oM);have o:=Xa h;have n:=Xa g;clear h f g;refine hK _ _ ?_
     go_wp2
     exact⟨⟨m,n,aZ (aZ ⟨rfl,Xa (by rw[aQ,bG];exact o)⟩)⟩,by simp[intOf]⟩
    ·go_wp2
     go_ret
     exact⟨_,rfl,b,HOq⟩
end Go.Proofs.YtghnlncgiihhgaaGreatDoor
