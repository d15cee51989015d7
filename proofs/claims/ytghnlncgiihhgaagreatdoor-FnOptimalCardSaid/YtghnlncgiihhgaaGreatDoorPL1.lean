import Derived.Test.YtghnlncgiihhgaaGreatDoorPL2
import Derived.Test.YtghnlncgiihhgaaGreatDoorWS0
namespace Go.Proofs.YtghnlncgiihhgaaGreatDoor
set_option maxHeartbeats 1000000
set_option maxRecDepth 100000
open Go.RowKit Go.Shelf Go.Proofs.Tryz
variable{E:Array Value}{t:Int}{l:List Int}{s:List Nat}{x:List Xe}{n m k B g i j c:Nat}{f F:Nat->Nat}{M N:Nat->Nat->Nat}{d:Nat->Prop}{p:Option Addr}{R:Program}{w v u W V:World}{q:Xe}
theorem co.seqN{c:Type}{F:Fence}{i:c->Array Value}{g:c->World->Prop}{d:World->World->Prop}{S Sp:List c->Prop}(h:co F n R m E (fun _=>i) (fun _=>g) d S Sp k False False w):gn F n R m E i g d S k w:=by
 intro A J W q t j r o;refine(h A (fun _=>J) (fun _ _=>False) W q t (fun _=>j) (fun _ _ _ _ h _ _=>h) (fun f=>f.elim) (fun f=>f.elim) (fun z l B V _ b v u=>(r l B V b v u).mono (fun e D h=>bC h)) (fun z V _ _ a=>j [] W V none o ⟨a.os,a.tape,a.output,a.size,fun y s _=>a.block y s⟩ (fun G e=>by cases e))).mono ?_;rintro e V ⟨x,⟨z,C,_,p,b⟩ | ⟨l,_,f⟩⟩
 ·exact⟨x,C,p,b⟩
 ·exact f.elim
theorem tK(Bx L B:Nat)(a:Nat->Prop)(c:Nat × List Int × List Int->Prop)(x:Xe)(w:World)(b:Hid (Stc x L B Bx w.heap.size w))(d:Hid (∀k,L<=k->k<B->¬a k))(h:Hid (¬a Bx))(g:Hid (∀k,w.heap.size<=k->¬a k))(e:Hid (¬a 0))(f:Hid (¬a 1))(m:Hid (∀y∈x.is,1<=y.op/\y.op<=13))(n:1<=x.te.kind/\x.te.kind<=3)(j:x.is.length<=4000)(l:x.ps.length<=4000)(i:Hid (∀q∈plL x,c q)) :
 gn Fence.wide 7 prog 106 #[.pointer (some ⟨Bx,0,none⟩)] gh (eh w.heap.size c) (Zf w.heap.size a) (fun o=>o.map Pl.dat=plL x) (x.is.length+2) w :=
 co.seqN (oK w.heap.size Bx L B a c x w (Xa ⟨b.op,b.ter,b.blk,b.lt,b.le,b.g1,b.g2,aA _⟩) d h g e f m n j l i)
def au(W:Nat->Nat)(x:Nat):Nat->Nat:=fun i=>if i=x / 64 then W i &&& (18446744073709551615-2 ^ (x % 64))else W i
theorem pt(h:n<64):2 ^ n<18446744073709551616:=aX (lB vY h) vY
theorem zX(W:Nat->Nat)(x y:Nat):Xh (au W x) y=(decide (y≠x)&&Xh W y):=by
 unfold Xh au;by_cases e:y / 64=x / 64
 ·rw[aU e,jW,iy (pt (dS _ vY)) (dS _ vY),nE]
  by_cases h:x % 64=y % 64
  ·have:y=x:=oM
   simp[this]
  ·have:y≠x:=fun q=>h (by rw[q])
   simp[h,this]
 ·rw[aM e]
  have:y≠x:=fun q=>e (by rw[q])
  simp[this]
theorem Bw(h:XA f)(x:Nat):XA (au f x):=fun i=>by
 unfold au;split
 ·exact iC jB (h i)
 ·exact h i
def delsN(W:Nat->Nat)(a:List Nat):Nat->Nat:=a.foldl au W
theorem uf{W:Nat->Nat}(h:n<s.length):delsN W (s.take (n+1))=au (delsN W (s.take n)) s[n]:=by
 unfold delsN;rw[bN h,dT];rfl
theorem JX:∀(a:List Nat){W:Nat->Nat},XA W->XA (delsN W a)
 | [],_,h=>h
 | t::a,_,h=>JX a (Bw h t)
theorem Kt:∀(a:List Nat)(W:Nat->Nat)(y:Nat),Xh (delsN W a) y=(decide (y ∉ a)&&Xh W y)
 | [],_,_=>by simp[delsN]
 | t::a,W,y=>by
  have h:=Kt a (au W t) y;have e:delsN W (t::a)=delsN (au W t) a:=rfl;rw[e,h,zX];by_cases b:y=t<;>by_cases c:y∈a<;>simp[b,c]
theorem sW(c:m<64)(b:n<18446744073709551616):bits .andNot .u64 (n:Int) (IntKind.u64.wrap (2 ^ m))=((n &&& (18446744073709551615-2 ^ m):Nat):Int):=by
 have a:=pt c;have e:IntKind.u64.wrap (2 ^ m)=((2 ^ m:Nat):Int):=by
  rw[iV];have:((2 ^ m:Nat):Int)=(2:Int) ^ m:=sP;rw[<-this];exact mB (kF _) (Int.ofNat_lt.2 a)
 rw[e,kM _ _ b a]
theorem JL(g K C n D:Nat)(W:Nat->Nat)(l:Option Addr)(a:List Nat)(L B:Nat)(w:World)(ha:Hid (Xf w L B l (a.map Int.ofNat)))(r:Hid (n=a.length))(hn:n<=4000)(J:Hid (∀t∈a,t<64*K))(hK:K<=1000)(E:Hid (XA W))(p:Hid (WsAt w g K C W))(U:B<=w.heap.size)(Z:¬(L<=g/\g<B)) :
 Calls prog 79 #[.agg #[.slice (some ⟨g,0,none⟩) K C],.slice l n D] w fun e s=>e=.returned (.tuple #[])/\w.grownBy s (some g)/\WsAt s g K C (delsN W a):=by
 go_in
 go_wp2;have Y:=p.lt
 go_loopw [8] (fun u wr=>∃q:Nat,q<=n/\u=.int .i64 q/\Hid (w.grownBy wr (some g))/\wr.cell? ⟨w.heap.size,0,none⟩=some (.slice (some ⟨g,0,none⟩) K C)/\Hid (WsAt wr g K C (delsN W (a.take q)))) (fun u _=>n-(intOf u).toNat)
 case atStart=>exact⟨0,aN _,rfl,Xa (bW _ _ _),sP,Xa (p.alloc _)⟩
 case round =>
  obtain⟨q,hq,rfl,f,I,c⟩:=hrel;by_cases aa:q<n
  ·have k:q<a.length:=oN r.out
   obtain⟨b,N,rfl,V,m⟩:=ha q (by simpa using k);have j:=(Xc (f.block b oM (fun e=>by injection e with e;omega))).trans m;rw[cM]at j;have ad:=J _ (aH k);have y:=Xa (uf (W:=W) k);have z:=Xa (JX (a.take q) E);clear m;generalize a[q]=t at *;have S:=dp t;have T:=dh t;have P:Cl wr b (N+q) (.int .i64 (t:Int)):=j;clear j;generalize delsN W (a.take q)=h at *;have o:t / 64<K:=oM;have H:t % 64<64:=dS _ vY;have Q:=c.cell o;have R:=c.frozen;have x:=Xa (sW H (z (t / 64)));have v:Hid (∀i,(if i=t / 64 then h (t / 64) &&& (18446744073709551615-2 ^ (t % 64))else h i)=delsN W (a.take (q+1)) i):=Xa (fun i=>by
    rw[y.out];unfold au;by_cases e:i=t / 64
    ·rw[aU e,aU e,e]
    ·rw[aM e,aM e])
   generalize X:t / 64=d at *;generalize ab:t % 64=O at *;go_wp2
   go_region
   go_wp2;rw[x.out];have M:wr.grownBy (wr.setCell ⟨g,d,none⟩ (.int .u64 ((h d &&& (18446744073709551615-2 ^ O):Nat):Int))).drew (some g):=⟨rfl,rfl,rfl,by simp[World.setCell,World.drew],fun aj _ G=>Below.heap_setCell _ _ _ _ (fun e=>G (by rw[e]))⟩;refine⟨⟨q+1,oM,gM,Xa (f.andThen M (fun af F=>by cases F;exact aZ rfl)),?_,Xa ?_⟩,by simp[intOf];omega⟩
   ·exact(bH wr ⟨g,d,none⟩ ⟨w.heap.size,0,none⟩ _ (by show g≠w.heap.size;omega)).trans I
   ·refine WsAt.drew ((c.set d _ o).congr (fun i _=>?_))
    rw[<-v.out i]
  ·have ac:q=n:=oM
   have A:Hid (a.take q=a):=Xa (aW (oN r.out));rw[A.out]at c;go_wp2
   go_end0
   exact⟨rfl,f,c⟩
theorem tV(g K C:Nat)(W:Nat->Nat)(w:World)(t:Hid (WsAt w g K C W))(hK:K<=1000) :
 Calls prog 91 #[.slice (some ⟨g,0,none⟩) K C] w fun e y=>∃b c,e=.returned (.slice (some ⟨b,0,none⟩) K c)/\w.heap.size<=b/\Below w.heap.size w y/\WsAt y b K c W:=by
 obtain⟨L,F,H,I,J⟩:=fX Tryz.infoU64valueNo;have O:∀(w:World)(d:Option Addr)(n f l h:Nat),(binOp .eql 43 (.slice d n f) (.slice none l h)).run prog w=.ok (.bool d.isNone) w:=fun w d n f l h=>Lib.run_eql_slice_nil w _ _ d n f l h underlying43
 have N:=t.lt;have m:Hid ((w.alloc (.cells #[] 114)).ownsRow w.heap.size 114 1 (.slice (some ⟨w.heap.size,0,none⟩) 0 0) 0 []):=Xa (eI (base:=w.heap.size) (e:=114) (size:=1) w #[] 0 sP sP rfl)
 go_in
 go_wp2_with (at_builtin;refine fT _ rfl _ _ 43 rfl w.heap.size 114 L (.int .u64 0) 1 8 underlying43 F H I J rfl vY _ _ _ rfl m ⟨g,0,none⟩ K C ((List.range K).map fun i=>Value.int .u64 (W i:Int)) rfl ?c0 ?c1 ?c2 ?c3 ?c4 ?c5 ?_)
 case c0=>simp
 case c1 =>
  intro k M a;rw[dX]at a;by_cases e:k<K
  ·rw[iQ e]at a
   simp at a;subst a;have:=(t.alloc (.cells #[] 114)).cell e;have e2:(⟨g,0,none⟩:Addr).add k=⟨g,k,none⟩:=by rw[mK];simp
   rw[e2];exact this
  ·rw[dK (by simp;omega)]at a
   cases a
 case c2 =>
  intro M G;obtain⟨i,_,rfl⟩:=aY.1 G;rfl
 case c3=>unfold maxLen;omega
 case c4=>omega
 case c5=>simp
 intro v z r p q;have u:v≠.slice none 0 0:=by simpa using q
 have o:=Xy (Xb (Below.refl w.heap.size w) _) p m (aA _) sP;have s:z.ownsRow w.heap.size 114 1 v ((List.range K).map W).length (((List.range K).map W).map fun x:Nat=>Value.int .u64 (x:Int)):=by
  have e:(((List.range K).map W).map fun x:Nat=>Value.int .u64 (x:Int))=(List.range K).map fun i=>Value.int .u64 (W i:Int):=sP
  rw[e];simpa using r
 obtain⟨b,c,rfl,D,j⟩:=WsAt.of_own s u;have A:=Xa o;have B:Hid (WsAt z b K c W):=Xa (by
  have e:((List.range K).map W).length=K:=sP;rw[e]at j;exact j.congr (fun i E=>by simp[E]))
 have e:((List.range K).map W).length=K:=sP;rw[e];clear o r s p q u j e;go_wp2
 go_ret
 exact⟨_,_,rfl,D,A,B⟩
theorem Kk(g K C:Nat)(W:Nat->Nat)(w:World)(p:Hid (WsAt w g K C W))(hK:K<=1000) :
 Calls prog 41 #[.agg #[.slice (some ⟨g,0,none⟩) K C]] w fun e j=>∃b c,e=.returned (.agg #[.slice (some ⟨b,0,none⟩) K c])/\w.heap.size<=b/\Below w.heap.size w j/\WsAt j b K c W:=by
 go_in
 go_wp2_with fail
 have m:Hid (Below w.heap.size w ((w.alloc (.cells #[.slice (some ⟨g,0,none⟩) K C] 45)).alloc (.cells #[.slice none 0 0] 45))):=Xa (Xb (Xb (Below.refl _ _) _) _);have t:((w.alloc (.cells #[.slice (some ⟨g,0,none⟩) K C] 45)).alloc (.cells #[.slice none 0 0] 45)).heap.size=w.heap.size+2:=sP;have q:=(p.alloc (.cells #[.slice (some ⟨g,0,none⟩) K C] 45)).alloc (.cells #[.slice none 0 0] 45);have f:((w.alloc (.cells #[.slice (some ⟨g,0,none⟩) K C] 45)).alloc (.cells #[.slice none 0 0] 45)).cell? ⟨w.heap.size+1,0,none⟩=some (.slice none 0 0):=by simp[go_sem]
 have h:((w.alloc (.cells #[.slice (some ⟨g,0,none⟩) K C] 45)).alloc (.cells #[.slice none 0 0] 45)).frozen? ⟨w.heap.size+1,0,none⟩=false:=by simp[go_sem]
 generalize (w.alloc _).alloc _=k at *;refine(tV g K C W k (Xa q) hK).mono ?_;rintro e r ⟨d,l,rfl,s,a,i⟩;have f1:=(XU a oM).trans f;have f2:r.frozen? ⟨w.heap.size+1,0,none⟩=false:=by rw[bJ (w:=k) (a:=⟨w.heap.size+1,0,none⟩) (a.block _ (by show w.heap.size+1<_;omega))];exact h
 have n:=Xa (Xg m a);have o:=Xa i;clear a i f h
 go_wp2_with fail
 refine cC (v:=.agg #[.slice (some ⟨d,0,none⟩) K l]) (by simp[results,results41,go_sem,f1]) rfl ?_;exact⟨_,_,rfl,oM,n.setCell (by show w.heap.size<=w.heap.size+1;omega) _,o.setOther (by show d≠w.heap.size+1;omega) _⟩
structure FlA(w Y:World)(V:Nat)(a:Option Addr)(n c Kw:Nat)(xs:List Xe)(Gi LB Go:Nat)(go:Nat->Nat)(WO:Nat->Nat->Nat):Prop where
 low:Below w.heap.size w Y
 f0:Y.cell? ⟨w.heap.size,0,none⟩=some (.int .i64 (V:Int))
 f1:Y.cell? ⟨w.heap.size,1,none⟩=some (.slice a n c)
 r0:Y.cell? ⟨w.heap.size+1,0,none⟩=some (.slice none 0 0)
 r1:Y.cell? ⟨w.heap.size+1,1,none⟩=some (.slice none 0 0)
 rz:∀q,Y.frozen? ⟨w.heap.size+1,q,none⟩=false
 gi:Y.rowIs Gi 45 n (fun _=>.slice none 0 0)
 l0:Y.cell? ⟨LB,0,none⟩=some (.slice (some ⟨Gi,0,none⟩) n n)
 l1:Y.cell? ⟨LB,1,none⟩=some (.slice (some ⟨Go,0,none⟩) n n)
 out:XK Y Go n Kw go (fun _=>Kw) WO
 wd:XQ WO
 has:∀b,b<n->∀v,Xh (WO b) v=true↔(b,v)∈phE xs n
 b1:w.heap.size+2<=Gi
 b2:w.heap.size+2<=LB
 b3:w.heap.size+2<=Go
 b4:∀i,i<n->w.heap.size+2<=go i
 d1:Gi≠LB
 d2:Gi≠Go
 d3:LB≠Go
 d4:∀i,i<n->go i≠Gi/\go i≠LB
theorem nM(F:Fence)(n:Nat)(h:F.fn 78)(i:F.round=none)(a b c d e f:Value)(w:World) :
 CallsIn F n prog 78 #[.agg #[a,b,c,d,e,f]] w fun g j=>g=.returned (.func (.func 106) #[] #[.pointer (some ⟨w.heap.size,0,none⟩)])/\j=w.alloc (.cells #[a,b,c,d,e,f] 90):=by
 refine iD func78 rfl h ?_ i;simp only[ntmps78,xY,Nat.reduceAdd,Nat.reduceSub]
 gi_wp2
 go_ret
 exact⟨rfl,rfl⟩
theorem XK.setCell(h:XK w n m k f F M)(p:Addr)(v:Value)(b:p.block≠n)(c:∀i,i<m->p.block≠f i):XK (w.setCell p v) n m k f F M :=
 ⟨h.row.setOther (fun e=>b e.symm) v,fun i a=>(h.set i a).setOther (fun e=>c i a e.symm) v,h.inj,h.out⟩
theorem VR{go:Nat->Nat}(I:Below w.heap.size w v)(N:v.heap.size=w.heap.size+2)(h:Below v.heap.size v u)
 (F:v.cell? ⟨w.heap.size,0,none⟩=some (.int .i64 (n:Int))) (f1:v.cell? ⟨w.heap.size,1,none⟩=some (.slice p m k)) (J:v.cell? ⟨w.heap.size+1,0,none⟩=some (.slice none 0 0)) (K:v.cell? ⟨w.heap.size+1,1,none⟩=some (.slice none 0 0)) (rz:∀q,v.frozen? ⟨w.heap.size+1,q,none⟩=false)
 (t:u.rowIs g 45 m (fun _=>.slice none 0 0)) (y:u.rowIs i 77 2 (fun _=>.slice none 0 0)) (z:XK u j m B go (fun _=>B) M) (L:XQ M) (H:∀b,b<m->∀s,Xh (M b) s=true↔(b,s)∈phE x m)
 (A:w.heap.size+2<=g) (C:w.heap.size+2<=i) (D:w.heap.size+2<=j) (E:∀c,c<m->w.heap.size+2<=go c) (a:j≠i/\g≠i/\g≠j/\∀c,c<m->go c≠g/\go c≠i) :
 FlA w ((u.setCell ⟨i,0,none⟩ (.slice (some ⟨g,0,none⟩) m m)).setCell ⟨i,1,none⟩ (.slice (some ⟨j,0,none⟩) m m)) n p m k B x g i j go M:=by
 have r:=(y.set 0 (.slice (some ⟨g,0,none⟩) m m)).set 1 (.slice (some ⟨j,0,none⟩) m m);have f:∀d:Addr,d.block<v.heap.size->d.block≠i->((u.setCell ⟨i,0,none⟩ (.slice (some ⟨g,0,none⟩) m m)).setCell ⟨i,1,none⟩ (.slice (some ⟨j,0,none⟩) m m)).cell? d=v.cell? d:=fun d G o =>
  (bH _ _ _ _ (fun e=>o e.symm)).trans ((bH _ _ _ _ (fun e=>o e.symm)).trans (h.cell G))
 refine⟨((Xg I h).setCell (by show w.heap.size<=i;omega) _).setCell (by show w.heap.size<=i;omega) _,(f _ (by show w.heap.size<_;omega) (by show w.heap.size≠i;omega)).trans F,(f _ (by show w.heap.size<_;omega) (by show w.heap.size≠i;omega)).trans f1,(f _ (by show w.heap.size+1<_;omega) (by show w.heap.size+1≠i;omega)).trans J,(f _ (by show w.heap.size+1<_;omega) (by show w.heap.size+1≠i;omega)).trans K,fun q=>?_,(t.setOther a.2.1 _).setOther a.2.1 _,(r.cell (i:=0) vY).trans sP,(r.cell (i:=1) vY).trans sP,(z.setCell _ _ (fun e=>a.1 e.symm) (fun c l e=>(a.2.2.2 c l).2 e.symm)).setCell _ _ (fun e=>a.1 e.symm) (fun c l e=>(a.2.2.2 c l).2 e.symm),L,H,A,C,D,E,a.2.1,a.2.2.1,fun e=>a.1 e.symm,a.2.2.2⟩;exact(eX _ _ _ _).trans ((eX _ _ _ _).trans ((h.frozen (p:=⟨w.heap.size+1,q,none⟩) (by show w.heap.size+1<_;omega)).trans (rz q)))
structure VD where
 w:World
 V:Nat
 n:Nat
 c:Nat
 Kw:Nat
 K2:Nat
 a:Option Addr
 xs:List Xe
 Gi:Nat
 LB:Nat
 Go:Nat
 DB:Nat
 Gd:Nat
 Gn:Nat
 bS:Nat
 gS:Nat
 sA:Nat
 s3:Nat
 M:Nat
 go:Nat->Nat
 gd:Nat->Nat
 WO:Nat->Nat->Nat
structure FlD where
 gi:Nat->Nat
 ci:Nat->Nat
 WI:Nat->Nat->Nat
 WD:Nat->Nat->Nat
 nx:Nat->Value
 Ws:Nat->Nat
 vS:Value
 Lf:List Nat
structure FlS(p:VD):Prop where
 a1:p.w.heap.size+2<=p.Gi/\p.Gi<p.sA
 a2:p.w.heap.size+2<=p.LB/\p.LB<p.sA
 a3:p.w.heap.size+2<=p.Go/\p.Go<p.sA
 a4:∀i,i<p.n->p.w.heap.size+2<=p.go i/\p.go i<p.sA
 d1:p.Gi≠p.LB
 d2:p.Gi≠p.Go
 d3:p.LB≠p.Go
 d4:∀i,i<p.n->p.go i≠p.Gi/\p.go i≠p.LB
 a5:p.sA<=p.Gd/\p.Gd<p.s3
 a6:∀i,i<p.n->p.sA<=p.gd i/\p.gd i<p.s3
 a7:p.DB=p.s3
 a8:p.Gn=p.s3+1
 a9:p.s3+2<=p.bS/\p.bS<p.M
 a10:p.s3+2<=p.gS/\p.gS<p.M
 a11:p.bS≠p.gS
def tgI(a:List Xe)(i:Nat):List Int:=(a[i]?).elim [] fun x=>x.te.tg
theorem VS(h:n<x.length):tgI x n=x[n].te.tg:=by simp[tgI,h]
structure FlK(p:VD)(W:World)(k:Nat)(d:FlD):Prop where
 low:Below p.w.heap.size p.w W
 sz:p.M<=W.heap.size
 f0:W.cell? ⟨p.w.heap.size,0,none⟩=some (.int .i64 (p.V:Int))
 f1:W.cell? ⟨p.w.heap.size,1,none⟩=some (.slice p.a p.n p.c)
 r0:W.cell? ⟨p.w.heap.size+1,0,none⟩=some (.slice none 0 0)
 r1:W.cell? ⟨p.w.heap.size+1,1,none⟩=some (.slice none 0 0)
 rz:∀q,W.frozen? ⟨p.w.heap.size+1,q,none⟩=false
 l0:W.cell? ⟨p.LB,0,none⟩=some (.slice (some ⟨p.Gi,0,none⟩) p.n p.n)
 l1:W.cell? ⟨p.LB,1,none⟩=some (.slice (some ⟨p.Go,0,none⟩) p.n p.n)
 d0:W.cell? ⟨p.DB,0,none⟩=some (.slice (some ⟨p.Gd,0,none⟩) p.n p.n)
 out:XK W p.Go p.n p.Kw p.go (fun _=>p.Kw) p.WO
 inr:W.rowIs p.Gi 45 p.n (fun i=>if i<k then .slice (some ⟨d.gi i,0,none⟩) p.Kw (d.ci i)else .slice none 0 0)
 ins:∀i,i<k->WsAt W (d.gi i) p.Kw (d.ci i) (d.WI i)
 inj:∀i j,i<k->j<k->d.gi i=d.gi j->i=j
 igM:∀i,i<k->p.M<=d.gi i
 defs:XK W p.Gd p.n p.Kw p.gd (fun _=>p.Kw) d.WD
 nxr:W.rowIs p.Gn 27 p.n (fun i=>if i<k then d.nx i else .slice none 0 0)
 nxs:∀i,i<k->∃a' c',d.nx i=.slice a' (tgI p.xs i).length c'/\Yv W (fun b=>p.M<=b/\(∀j,j<k->b≠d.gi j)/\some b≠d.vS.ownBlock) a' (tgI p.xs i)
 sea:YW W p.bS p.gS p.M p.K2 p.a p.n p.c d.Ws d.vS d.Lf
 giv:∀i,i<k->some (d.gi i)≠d.vS.ownBlock
def ah{a:Type}(f:Nat->a)(k:Nat)(v:a):Nat->a:=fun i=>if i=k then v else f i
theorem Zt{a:Type}(f:Nat->a)(k:Nat)(v:a):ah f k v k=v:=by simp[ah]
theorem Zb{a:Type}(f:Nat->a)(k:Nat)(v:a)(h:n≠k):ah f k v n=f n:=by simp[ah,h]
theorem FlK.next{p:VD}{d:FlD}(h:FlK p w n d)(s:FlS p)(A:n<p.n){gB CB:Nat}{I' D':Nat->Nat}{nk v':Value}{Ws':Nat->Nat}{Lf':List Nat}
 (Q:v.os=w.os) (S:v.tape=w.tape) (P:v.output=w.output) (F:w.heap.size<=v.heap.size)
 (D:∀q,q<w.heap.size->q≠p.Gi->q≠p.gd n->q≠p.Gn->q≠p.bS->q≠p.gS->some q≠d.vS.ownBlock->v.heap[q]?=w.heap[q]?)
 (ab:w.heap.size<=gB) (N:WsAt v gB p.Kw CB I') (L:v.rowIs p.Gi 45 p.n (fun i=>if i=n then .slice (some ⟨gB,0,none⟩) p.Kw CB else if i<n then .slice (some ⟨d.gi i,0,none⟩) p.Kw (d.ci i)else .slice none 0 0))
 (K:WsAt v (p.gd n) p.Kw p.Kw D') (M:v.rowIs p.Gn 27 p.n (fun i=>if i=n then nk else if i<n then d.nx i else .slice none 0 0))
 (O:∃m t,nk=.slice m (tgI p.xs n).length t/\Yv v (fun b=>w.heap.size<=b/\b≠gB/\some b≠v'.ownBlock) m (tgI p.xs n))
 (R:YW v p.bS p.gS p.M p.K2 p.a p.n p.c Ws' v' Lf') (f:v'.ownBlock=d.vS.ownBlock\/∀q,v'.ownBlock=some q->w.heap.size<=q) (T:some gB≠v'.ownBlock) :
 FlK p v (n+1) ⟨ah d.gi n gB,ah d.ci n CB,ah d.WI n I',ah d.WD n D',ah d.nx n nk,Ws',v',Lf'⟩:=by
 have U:=fun q e=>(h.sea.own.lt q e).1
 have hM:=s.a9;have aa:=s.a10;have hG:=s.a5;have W:=h.sz;have V:=h.low.size;have Z:=s.a7;have h8:=s.a8;have ac:=s.a6 n A;have k:∀q,q<p.M->q≠p.Gi->q≠p.gd n->q≠p.Gn->q≠p.bS->q≠p.gS->v.heap[q]?=w.heap[q]?:=fun q r x z H I J=>D q oM x z H I J (fun e=>by have:=U q e.symm;omega)
 have X:=s.a1;have C:=s.a2;have Y:=s.a3;have cA:∀q o B,q<p.sA->q≠p.Gi->w.cell? ⟨q,o,none⟩=some B->v.cell? ⟨q,o,none⟩=some B:=fun q o B r x y=>(Xc (k q oM x oM oM oM oM)).trans y
 have G:∀q,p.M<=q->q<w.heap.size->some q≠d.vS.ownBlock->v.heap[q]?=w.heap[q]?:=fun q r x z=>D q x oM oM oM oM oM z
 refine⟨⟨Q.trans h.low.os,S.trans h.low.tape,P.trans h.low.output,aJ V F,fun q hq=>(k q oM oM oM oM oM oM).trans (h.low.block q hq)⟩,aJ W F,cA _ _ _ oM oM h.f0,cA _ _ _ oM oM h.f1,cA _ _ _ oM oM h.r0,cA _ _ _ oM oM h.r1,fun q=>?rz,cA _ _ _ C.2 (fun e=>s.d1 e.symm) h.l0,cA _ _ _ C.2 (fun e=>s.d1 e.symm) h.l1,(Xc (k p.DB oM oM oM oM oM oM)).trans h.d0,?out,?inr,?ins,?inj,?igM,?defs,?nxr,?nxs,R,?giv⟩
 case rz=>rw[bJ (a:=⟨p.w.heap.size+1,q,none⟩) (k (p.w.heap.size+1) oM oM oM oM oM oM)];exact h.rz q
 case out =>
  refine⟨h.out.row.of_block (k p.Go oM (fun e=>s.d2 e.symm) oM oM oM oM),fun i a=>?_,h.out.inj,h.out.out⟩;have:=s.a4 i a;exact(h.out.set i a).of_block (k _ oM (s.d4 i a).1 oM oM oM oM)
 case inr =>
  refine L.congr (fun i _=>?_);by_cases e:i=n
  ·rw[aU e,aU oM,e];simp only[Zt]
  ·rw[aM e]
   by_cases e2:i<n
   ·rw[aU e2,aU oM];simp only[Zb _ _ _ e]
   ·rw[aM e2,aM oM]
 case ins =>
  intro i a;by_cases e:i=n
  ·subst e;simp only[Zt];exact N
  ·have g:i<n:=oM
   simp only[Zb _ _ _ e];exact(h.ins i g).of_block (G _ (h.igM i g) (h.ins i g).lt (h.giv i g))
 case inj =>
  intro i j a E e;by_cases e1:i=n
  ·by_cases e2:j=n
   ·omega
   ·simp only[e1,Zt,Zb _ _ _ e2]at e
    have:=(h.ins j oM).lt;omega
  ·by_cases e2:j=n
   ·simp only[e2,Zt,Zb _ _ _ e1]at e
    have:=(h.ins i oM).lt;omega
   ·simp only[Zb _ _ _ e1,Zb _ _ _ e2]at e
    exact h.inj i j oM oM e
 case igM =>
  intro i a;by_cases e:i=n
  ·subst e;simp only[Zt];omega
  ·simp only[Zb _ _ _ e];exact h.igM i oM
 case defs =>
  refine⟨h.defs.row.of_block (k p.Gd oM oM (fun e=>h.defs.out n A e.symm) oM oM oM),fun i a=>?_,h.defs.inj,h.defs.out⟩;by_cases e:i=n
  ·subst e;simp only[Zt];exact K
  ·simp only[Zb _ _ _ e]
   have:=s.a6 i a;exact(h.defs.set i a).of_block (k _ oM oM (fun e2=>e (h.defs.inj i n a A e2)) oM oM oM)
 case nxr =>
  refine M.congr (fun i _=>?_);by_cases e:i=n
  ·rw[aU e,aU oM,e];simp only[Zt]
  ·rw[aM e]
   by_cases e2:i<n
   ·rw[aU e2,aU oM];simp only[Zb _ _ _ e]
   ·rw[aM e2,aM oM]
 case nxs =>
  intro i a;by_cases e:i=n
  ·subst e
   simp only[Zt];obtain⟨m,t,e1,r⟩:=O;refine⟨m,t,e1,fun q hq=>?_⟩;obtain⟨b,o,e2,c,y⟩:=r q hq;refine⟨b,o,e2,⟨⟨oM,fun j E=>?_,c.1.2.2⟩,c.2⟩,y⟩;by_cases u:j=i
   ·rw[u];simp only[Zt];exact c.1.2.1
   ·simp only[Zb _ _ _ u]
    have:=(h.ins j oM).lt;omega
  ·have g:i<n:=oM
   simp only[Zb _ _ _ e];obtain⟨m,t,e1,r⟩:=h.nxs i g;refine⟨m,t,e1,fun q hq=>?_⟩;obtain⟨b,o,e2,c,y⟩:=r q hq;refine⟨b,o,e2,⟨⟨c.1.1,fun j E=>?_,fun l=>?_⟩,oM⟩,(Xc (G b c.1.1 c.2 c.1.2.2)).trans y⟩
   ·by_cases u:j=n
    ·rw[u];simp only[Zt];omega
    ·simp only[Zb _ _ _ u]
     exact c.1.2.1 j oM
   ·rcases f with f | f
    ·rw[f]at l;exact c.1.2.2 l
    ·have:=f b l.symm;omega
 case giv =>
  intro i a;by_cases e:i=n
  ·subst e;simp only[Zt];exact T
  ·have g:i<n:=oM
   simp only[Zb _ _ _ e];intro l;rcases f with f | f
   ·rw[f]at l;exact h.giv i g l
   ·have:=f _ l.symm;have:=(h.ins i g).lt;omega
theorem pL(tg:Nat->List Nat):∀(m b:Nat)(s:(Nat->Nat) × List Nat)(P:List Nat),(∀x,Xh s.1 x=true->x∈s.2\/x∈P)->∀x,Xh (dfsV tg m b s).1 x=true->x∈(dfsV tg m b s).2\/x∈P
 | 0,_,_,_,h=>h
 | m+1,b,s,P,h=>by
  by_cases e:Xh s.1 b=true
  ·rw[Vd e];exact h
  ·have i:Xh s.1 b=false:=by simpa using e
   have g:∀(l:List Nat)(c:(Nat->Nat) × List Nat),(∀x,Xh c.1 x=true->x∈c.2\/x∈b::P)->∀x,Xh (l.foldl (fun s t=>dfsV tg m t s) c).1 x=true->x∈(l.foldl (fun s t=>dfsV tg m t s) c).2\/x∈b::P:=by
    intro l
    induction l with
    | nil=>exact fun _ h=>h
    | cons t l k=>exact fun c f=>k _ (pL tg m t c (b::P) f)
   rw[dx i];intro x j;rcases g (tg b) (YH s.1 b,s.2) (fun y d=>by
    rw[Z8,dI,bD]at d;rcases d with rfl | d
    ·exact aZ sP
    ·rcases h y d with a | a
     ·exact bC a
     ·exact aZ (by simp[a])) x j with a | a
   ·exact bC (by simp[a])
   ·rcases cH.1 a with rfl | a
    ·exact bC sP
    ·exact aZ a
theorem pZ(tg:Nat->List Nat){n:Nat}(f:∀b,b<n->∀t∈tg b,t<n):∀(m b:Nat)(s:(Nat->Nat) × List Nat),b<n->(∀x∈s.2,x<n)->∀x∈(dfsV tg m b s).2,x<n
 | 0,_,_,_,h=>h
 | m+1,b,s,hb,h=>by
  by_cases e:Xh s.1 b=true
  ·rw[Vd e];exact h
  ·have j:Xh s.1 b=false:=by simpa using e
   have i:∀(l:List Nat)(c:(Nat->Nat) × List Nat),(∀t∈l,t<n)->(∀x∈c.2,x<n)->∀x∈(l.foldl (fun s t=>dfsV tg m t s) c).2,x<n:=by
    intro l
    induction l with
    | nil=>exact fun _ _ h=>h
    | cons t l k=>exact fun c d g=>k _ (fun q hq=>d q (by simp[hq])) (pZ tg f m t c (d t sP) g)
   rw[dx j];intro x a;rcases bU.1 a with a | a
   ·exact i (tg b) (YH s.1 b,s.2) (f b hb) h x a
   ·have:x=b:=by simpa using a
    omega
theorem tx(tg:Nat->List Nat){b:Nat}{s:(Nat->Nat) × List Nat}(c:b<n)(e:XB s.1 n<=m):Xh (dfsV tg m b s).1 b=true:=by
 cases m with
 | zero=>exact KB tg 0 b s b (T8 oM c)
 | succ m =>
  by_cases a:Xh s.1 b=true
  ·exact KB tg _ b s b a
  ·have d:Xh s.1 b=false:=by simpa using a
   rw[dx d];exact Ue tg m _ _ b (by rw[Z8];simp)
def Ut(W:Nat->Nat)(q:Nat × List Int × List Int):Nat->Nat:=addsN (delsN W (X9 q.2.2)) (X9 q.2.1)
def Uo(W:Nat->Nat)(q:Nat × List Int × List Int):Nat->Nat:=addsN W (X9 q.2.2)
def inW(x:Xe)(W:Nat->Nat):Nat->Nat:=(plL x).foldl Ut W
def dfW(x:Xe):Nat->Nat:=(plL x).foldl Uo (fun _=>0)
theorem BC(x:Xe)(h:XA f):XA (inW x f):=by
 unfold inW;generalize plL x=l
 induction l generalizing f with
 | nil=>exact h
 | cons q l a=>exact a (Zs _ (JX _ h))
theorem JW:XA (fun _=>0):=fun _=>by show 0<_;decide
theorem oT(l:List (Nat × List Int × List Int))(h:XA f):XA (l.foldl Uo f):=by
 induction l generalizing f with
 | nil=>exact h
 | cons q l a=>exact a (Zs _ h)
theorem AI(x:Xe):XA (dfW x):=oT _ JW
structure FlQ(p:VD)(k:Nat)(d:FlD):Prop where
 wi:∀i (h:i<p.xs.length),i<k->d.WI i=inW p.xs[i] (p.WO i)
 wd:∀i (h:i<p.xs.length),d.WD i=if i<k then dfW p.xs[i]else fun _=>0
 mem:∀x,Xh d.Ws x=true->x∈d.Lf
 sn:∀i,i<k->Xh d.Ws i=true
 lt:∀x∈d.Lf,x<p.n
 wok:XA d.Ws
 len:d.Lf.length+XB d.Ws p.n<=p.n
theorem vD(p:VD):FlQ p 0 ⟨fun _=>0,fun _=>0,fun _ _=>0,fun _ _=>0,fun _=>.slice none 0 0,fun _=>0,.slice none 0 0,[]⟩ :=
 ⟨fun i _ h=>absurd h oM,fun i _=>sP,fun x h=>by simp[Z3]at h,fun i h=>absurd h oM,fun x h=>absurd h eA,JW,by simpa using ZA (fun _=>0) p.n⟩
theorem FlQ.next{p:VD}{d:FlD}(h:FlQ p n d)(f:n<p.n)(g:∀b,b<p.n->∀t∈X8 p.xs b,t<p.n)(k j:Nat->Nat)(nx:Nat->Value)(v:Value){I' D':Nat->Nat}(s:n<p.xs.length)(m:I'=inW p.xs[n] (p.WO n))(l:D'=dfW p.xs[n]) :
 FlQ p (n+1) ⟨k,j,ah d.WI n I',ah d.WD n D',nx,(dfsV (X8 p.xs) p.n n (d.Ws,d.Lf)).1,v,(dfsV (X8 p.xs) p.n n (d.Ws,d.Lf)).2⟩:=by
 refine⟨fun i a r=>?_,fun i a=>?_,fun x o=>?_,fun i a=>?_,?_,fg _ _ _ _ h.wok,aJ (ja _ _ g _ _ _ f) h.len⟩
 ·by_cases e:i=n
  ·subst e;simp only[Zt];exact m
  ·simp only[Zb _ _ _ e];exact h.wi i a oM
 ·by_cases e:i=n
  ·subst e;simp only[Zt];rw[aU oM];exact l
  ·simp only[Zb _ _ _ e]
   rw[h.wd i a];by_cases e2:i<n
   ·rw[aU e2,aU oM]
   ·rw[aM e2,aM oM]
 ·rcases pL (X8 p.xs) p.n n (d.Ws,d.Lf) [] (fun y q=>bC (h.mem y q)) x o with c | c
  ·exact c
  ·cases c
 ·by_cases e:i=n
  ·subst e;exact tx _ f (ZA _ _)
  ·exact KB _ _ _ _ _ (h.sn i oM)
 ·exact pZ _ g _ _ _ f h.lt
def defI(y:Yg):Int:=if dB y.op then y.dst else -1
def Ya(v:Int)(fin:Bool):List Yg->Nat
 | []=>if fin then 1 else 0
 | y::ys=>if hasI (rdI y) v then 1 else if defI y=v then 2 else Ya v fin ys
def bareM(x:Xe)(E:List Int)(v:Int):Nat:=Ya v (hasI (rdT x.te) v||hasI E v) x.is
def f8(W:Nat->Nat)(y:Yg):Nat->Nat:=addsN (delsN W (X9 (writesI y))) (X9 (rdI y))
theorem XD:hasI l t=true↔t∈l:=by unfold hasI;exact eY
theorem t6{y:Yg}(a:∀v∈rdI y,0<=v)(b:∀v∈writesI y,0<=v)(v:Nat):Xh (f8 f y) v=true↔(v:Int)∈rdI y\/((v:Int) ∉ writesI y/\Xh f v=true):=by
 unfold f8;rw[YR,Kt,dI,bD,YV a,bY,bD,YV b]
theorem YN{y:Yg}:defI y=(n:Int)↔(n:Int)∈writesI y:=by
 unfold defI writesI;by_cases e:dB y.op=true
 ·rw[aU e,aU e];simp[nJ]
 ·rw[aM e,aM e];simp
theorem rx{v:Nat}{W:Nat->Nat}:∀(a:List Yg),(∀y∈a,(∀v∈rdI y,0<=v)/\∀v∈writesI y,0<=v)->(Xh (a.foldr (fun y c=>f8 c y) W) v=true↔Ya (v:Int) (Xh W v) a=1)
 | [],_=>by
  unfold Ya;cases h:Xh W v<;>simp[h]
 | y::a,hy=>by
  have e:=rx (v:=v) (W:=W) a (fun z d=>hy z (cN _ d));have b:=hy y cI;rw[List.foldr_cons,t6 b.1 b.2,e];show _↔(if hasI (rdI y) (v:Int)then 1 else if defI y=(v:Int)then 2 else Ya (v:Int) (Xh W v) a)=1;by_cases e1:(v:Int)∈rdI y
  ·rw[aU (XD.2 e1)];simp[e1]
  ·rw[aM (fun h=>e1 (XD.1 h))]
   by_cases e2:(v:Int)∈writesI y
   ·rw[aU (YN.2 e2)];simp[e1,e2]
   ·rw[aM (fun h=>e2 (YN.1 h))];simp[e1,e2]
theorem zC{a b:Type}(l:List a)(g:Fin l.length->b):(Us l.length 0).map g=((List.finRange l.length).map g).reverse:=by
 unfold Us;rw[aW sP,List.map_reverse]
theorem AA{a:Type}(l:List a):(List.finRange l.length).map (fun j=>l[j])=l:=by
 apply mG
 ·simp
 ·intro i b c
  simp
theorem zE(x:Xe)(W:Nat->Nat):((Us x.is.length 0).map (VH x)).foldl Ut W=x.is.foldr (fun y a=>f8 a y) W:=by
 rw[zC,List.foldl_reverse]
 conv=>rhs;rw[<-AA x.is]
 rw[List.foldr_map,List.foldr_map];rfl
theorem qj(h:∀y∈q.is,(∀n∈rdI y,0<=n)/\∀n∈writesI y,0<=n)(d:∀n∈rdT q.te,0<=n)(c:∀p∈q.ps,0<=p.dst) :
 Xh (inW q f) n=true↔(n:Int) ∉ q.ps.map Ph.dst/\Ya (n:Int) (hasI (rdT q.te) (n:Int)||Xh f n) q.is=1:=by
 unfold inW plL;rw[iM,dT,iM,List.foldl_nil,zE];have b:∀n∈q.ps.map Ph.dst,0<=n:=fun n g=>by obtain⟨p,a,rfl⟩:=aY.1 g;exact c p a
 show Xh (addsN (delsN _ (X9 (q.ps.map Ph.dst))) (X9 [])) n=true↔_;rw[YR,Kt,dI,bD,bY,bD,YV b];rw[rx q.is h];have e:Xh (Ut f (q.is.length+1,rdT q.te,[])) n=(hasI (rdT q.te) (n:Int)||Xh f n):=by
  show Xh (addsN (delsN f (X9 [])) (X9 (rdT q.te))) n=_;rw[YR,Kt,eQ,dI,dI,bD,YV d,XD];simp[X9]
 rw[e];simp[X9]
theorem WK(d:∀y∈q.is,∀n∈writesI y,0<=n)(i:∀p∈q.ps,0<=p.dst):Xh (dfW q) n=true↔(n:Int)∈q.ps.map Ph.dst\/∃y∈q.is,(n:Int)∈writesI y:=by
 have f:∀(l:List (Nat × List Int × List Int))(W:Nat->Nat),Xh (l.foldl Uo W) n=true↔Xh W n=true\/∃b∈l,n∈X9 b.2.2:=by
  intro l
  induction l with
  | nil=>intro W;simp
  | cons b l m =>
   intro W;rw[iM,m];unfold Uo;rw[YR,dI,bD];simp only[cH,exists_eq_or_imp];constructor
   ·rintro((h | h) | h)
    ·exact aZ (bC h)
    ·exact bC h
    ·exact aZ (aZ h)
   ·rintro(h | h | h)
    ·exact bC (aZ h)
    ·exact bC (bC h)
    ·exact aZ h
 have c:∀n∈q.ps.map Ph.dst,0<=n:=fun n a=>by obtain⟨p,e,rfl⟩:=aY.1 a;exact i p e
 unfold dfW;rw[f,Z3];unfold plL;constructor
 ·rintro(h | ⟨b,hq,a⟩)
  ·cases h
  ·rcases cH.1 hq with rfl | hq
   ·simp[X9]at a
   ·rcases bU.1 hq with hq | hq
    ·obtain⟨j,_,rfl⟩:=aY.1 hq
     exact aZ ⟨q.is[j],aH _,(YV (d _ (aH _))).1 a⟩
    ·rw[cS.1 hq]at a
     exact bC ((YV c).1 a)
 ·rintro(h | ⟨y,k,a⟩)
  ·exact aZ ⟨_,l5 q,(YV c).2 h⟩
  ·obtain⟨j,g,rfl⟩:=bR k
   exact aZ ⟨_,nW q ⟨j,g⟩,(YV (d _ (aH _))).2 a⟩
theorem UQ{v:Nat}{fin:Bool}:∀(c:List Yg),Ya (v:Int) fin c=0->∀y∈c,(v:Int) ∉ writesI y
 | [],_,_,h=>by cases h
 | z::zs,h,y,b=>by
  have a:(if hasI (rdI z) (v:Int)then 1 else if defI z=(v:Int)then 2 else Ya (v:Int) fin zs)=0:=h;by_cases e1:hasI (rdI z) (v:Int)=true
  ·rw[aU e1]at a;cases a
  ·rw[aM e1]at a
   by_cases e2:defI z=(v:Int)
   ·rw[aU e2]at a;cases a
   ·rw[aM e2]at a
    rcases cH.1 b with rfl | b
    ·exact fun d=>e2 (YN.2 d)
    ·exact UQ zs a y b
theorem Ud{v:Nat}{fin:Bool}:∀(a:List Yg),(∀y∈a,(v:Int) ∉ writesI y)->Ya (v:Int) fin a≠2
 | [],_=>by unfold Ya;split<;>simp
 | z::zs,h=>by
  show(if hasI (rdI z) (v:Int)then 1 else if defI z=(v:Int)then 2 else Ya (v:Int) fin zs)≠2;by_cases e1:hasI (rdI z) (v:Int)=true
  ·rw[aU e1];simp
  ·rw[aM e1,aM (fun e2=>h z cI (YN.1 e2))]
   exact Ud zs (fun y b=>h y (cN _ b))
theorem Vg{v:Int}{fin:Bool}:∀(a:List Yg),Ya v fin a<=2
 | []=>by unfold Ya;split<;>simp
 | z::zs=>by
  show(if hasI (rdI z) v then 1 else if defI z=v then 2 else Ya v fin zs)<=2;split
  ·decide
  ·split
   ·decide
   ·exact Vg zs
theorem TV{v:Int}{fin:Bool}:∀(c:List Yg),Ya v fin c=1->fin=true\/∃y∈c,v∈rdI y
 | [],h=>by
  have a:(if fin then 1 else 0)=1:=h;cases fin<;>simp_all
 | z::zs,h=>by
  have a:(if hasI (rdI z) v then 1 else if defI z=v then 2 else Ya v fin zs)=1:=h;by_cases e1:hasI (rdI z) v=true
  ·exact aZ ⟨z,cI,XD.1 e1⟩
  ·rw[aM e1]at a
   by_cases e2:defI z=v
   ·rw[aU e2]at a;cases a
   ·rw[aM e2]at a
    rcases TV zs a with b | ⟨y,d,b⟩
    ·exact bC b
    ·exact aZ ⟨y,cN _ d,b⟩
def edgeU(a:List Xe)(p t:Int):List Int:=match a[t.toNat]? with
 | none=>[]
 | some x=>if x.ps=[]then []else (List.range (predsFrom a 0 t).length).flatMap fun i=>if (predsFrom a 0 t).getD i 0=p then x.ps.map (fun h=>h.args.getD i 0)else []
def XP(a:List Xe)(b:Nat):List Int:=match a[b]? with
 | none=>[]
 | some x=>x.te.tg.flatMap (edgeU a (b:Int))
theorem KE(q:Jy n x){b:Nat}(l:b<x.length):(m:Int)∈XP x b↔(b,m)∈phE x x.length:=by
 have j:=fun H G t a=>(q.okf.tgt H G t a).1
 have D:(m:Int)∈XP x b↔∃t:Nat,∃a:t<x.length,∃i,i<(XX x x.length t).length/\(XX x x.length t).getD i 0=b/\∃p∈x[t].ps,p.args.getD i 0=(m:Int):=by
  unfold XP;rw[aC l];simp only[bV];constructor
  ·rintro⟨t,a,f⟩
   have u:=q.okf.tgt _ (aH l) t a;obtain⟨k,rfl⟩:=bX u.1;have y:k<x.length:=oN u.2
   refine⟨k,y,?_⟩;unfold edgeU at f;rw[dM,aC y]at f;simp only at f;by_cases e:x[k].ps=[]
   ·rw[aU e]at f;cases f
   ·rw[aM e]at f
    obtain⟨i,d,c⟩:=bV.1 f;rw[K9 j]at d c;have v:i<(XX x x.length k).length:=by simpa [Xi]using d
    by_cases e2:(Xi (XX x x.length k)).getD i 0=(b:Int)
    ·rw[aU e2]at c
     obtain⟨p,g,s⟩:=aY.1 c;refine⟨i,v,?_,p,g,s⟩;simp only[Xi,bF,dX,aC v,jY,gR]at e2 |-;have:((XX x x.length k)[i]:Int)=(b:Int):=e2;omega
    ·rw[aM e2]at c;cases c
  ·rintro⟨t,a,i,d,h,p,c,g⟩
   have E:b∈XX x x.length t:=by
    rw[<-h,bF,aC d];exact aH d
   have F:(t:Int)∈x[b].te.tg:=by
    have:=(Uf.1 E).2;rw[Km l]at this;obtain⟨A,r,e⟩:=aY.1 this;have:=j _ (aH l) A r;rw[show(t:Int)=A by omega];exact r
   refine⟨(t:Int),F,?_⟩;unfold edgeU;rw[dM,aC a];simp only;rw[aM (fun e=>by rw[e]at c;cases c),K9 j];refine bV.2 ⟨i,by simpa [Xi]using d,?_⟩;rw[aU (by
    simp only[Xi,bF,dX,aC d,jY,gR]at h |-;show((XX x x.length t)[i]:Int)=(b:Int);rw[h])]
   exact aY.2 ⟨p,c,g⟩
 rw[D];unfold phE phB phT;rw[bV];constructor
 ·rintro⟨t,a,i,d,h,p,c,g⟩
  refine⟨t,bE.2 a,?_⟩;rw[aC a];refine bV.2 ⟨p,c,?_⟩;have z:=(q.pha t a p c).1;rw[K9 j]at z;have I:p.args.length=(XX x x.length t).length:=by simpa [Xi]using z
  have o:i<p.args.length:=oM;rw[bF,aC o]at g;rw[bF,aC d]at h;have r:i<((XX x x.length t).zip (X9 p.args)).length:=by simp[X9];omega
  have e:((XX x x.length t).zip (X9 p.args))[i]=(b,m):=by
   rw[List.getElem_zip];simp only[X9,cM];have B:(XX x x.length t)[i]=b:=h;have C:p.args[i]=(m:Int):=g;rw[B,C];rfl
  rw[<-e];exact aH r
 ·rintro⟨t,a,f⟩
  have a:=bE.1 a;rw[aC a]at f;obtain⟨p,c,g⟩:=bV.1 (show _∈List.flatMap _ x[t].ps from f);obtain⟨i,d,e⟩:=bR g;rw[List.getElem_zip]at e;have w:i<(XX x x.length t).length:=by simp at d;omega
  have o:i<p.args.length:=by simp[X9]at d;omega
  refine⟨t,a,i,w,?_,p,c,?_⟩
  ·rw[bF,aC w]
   exact fI Prod.fst e
  ·rw[bF,aC o]
   have s:(X9 p.args)[i]'(by simp[X9];omega)=m:=fI Prod.snd e;simp only[X9,cM]at s;have:=(q.pha t a p c).2 p.args[i] (aH o);show p.args[i]=(m:Int);omega
def barB(a:List Xe)(b v:Nat):Nat:=match a[b]? with
 | none=>0
 | some x=>bareM x (XP a b) (v:Int)
def Yo(a:List Xe)(b v:Nat):Bool:=match a[b]? with
 | none=>false
 | some x=>hasI (x.ps.map Ph.dst) (v:Int)
inductive Opn (xs:List Xe) (v:Nat):Nat->Prop
 | root:Opn xs v 0
 | step {b t:Nat}:Opn xs v b->Yo xs b v=false->barB xs b v=0->t∈X8 xs b->Opn xs v t
def Bad(a:List Xe)(v:Nat):Prop:=∃b,Opn a v b/\Yo a b v=false/\barB a b v=1
theorem Opn.lt(h:UF x){b:Nat}(a:Opn x n b):b<x.length:=by
 induction a with
 | root=>exact h.n1
 | step _ _ _ c d=>exact h.tg _ d _ c
theorem Aq(d:Jy n x){q:Nat->Nat->Nat}(E:∀i (h:i<x.length),M i=inW x[i] (q i))(C:∀i (h:i<x.length),N i=dfW x[i])(F:∀b,b<x.length->∀m,Xh (q b) m=true↔(b,m)∈phE x x.length){ord:Nat->Prop}(I:∀b,b<x.length->ord b){src:Nat->List Nat}(D:∀b,b<x.length->src b=X8 x b) :
 Sp M N ord src 0 m↔Bad x m:=by
 have B:∀b,b<x.length->(Xh (M b) m=true↔Yo x b m=false/\barB x b m=1):=fun b a=>by
  have g:=aH a;rw[E b a,qj (fun y j=>⟨fun z k=>(d.rdi _ g y j z k).1,fun z k=>(d.wri _ g y j z k).1⟩) (fun z k=>(d.rdt _ g z k).1) (fun p o=>(d.phd _ g p o).1)];unfold Yo barB bareM;rw[aC a];simp only;have r:Xh (q b) m=hasI (XP x b) (m:Int):=by rw[eQ,F b a,XD,KE d a]
  rw[r,<-gU,XD]
 have G:∀b,b<x.length->Yo x b m=false->barB x b m=0->Xh (N b) m=false:=fun b a e c=>by
  have g:=aH a;rw[C b a,<-gU,WK (fun y j z k=>(d.wri _ g y j z k).1) (fun p o=>(d.phd _ g p o).1)];unfold Yo at e;unfold barB bareM at c;rw[aC a]at e c;simp only at e c;rintro(h | ⟨y,j,h⟩)
  ·rw[XD.2 h]at e;cases e
  ·exact UQ _ c y j h
 have H:∀b,b<x.length->Xh (N b) m=false->Yo x b m=false/\barB x b m≠2:=fun b a h=>by
  have g:=aH a;rw[C b a,<-gU,WK (fun y j z k=>(d.wri _ g y j z k).1) (fun p o=>(d.phd _ g p o).1)]at h;unfold Yo barB bareM;rw[aC a];simp only;refine⟨?_,Ud _ (fun y j c=>h (aZ ⟨y,j,c⟩))⟩;rw[<-gU,XD];exact fun c=>h (bC c)
 constructor
 ·intro h
  have w:∀b l,Sp M N ord src b l->l=m->Opn x m b->Bad x m:=by
   intro b l u
   induction u with
   | init e=>rintro rfl f;exact⟨_,f,(B _ (f.lt d.okf)).1 e⟩
   | @take b K l e c A s v =>
    rintro rfl f;have a:=f.lt d.okf;have t:=H b a s;have J:barB x b l<=2:=by
     unfold barB;split
     ·exact aN _
     ·exact Vg _
    by_cases r:barB x b l=1
    ·exact⟨b,f,t.1,r⟩
    ·exact v rfl (Opn.step f t.1 (oN t.2) (by rw[<-D b a];exact c))
  exact w 0 m h rfl Opn.root
 ·rintro⟨b,f,e,c⟩
  have w:∀b,Opn x m b->Sp M N ord src b m->Sp M N ord src 0 m:=by
   intro b f
   induction f with
   | root=>exact fun h=>h
   | @step b L e c A s v =>
    intro u;have a:=e.lt d.okf;exact v (Sp.take (I b a) (by rw[D b a];exact s) u (G b a c A))
  exact w b f (Sp.init ((B b (f.lt d.okf)).2 ⟨e,c⟩))
theorem qV(a:Jy n x)(k:Bad x m):m<n:=by
 obtain⟨b,p,_,c⟩:=k;have g:=p.lt a.okf;have i:=aH g;unfold barB bareM at c;rw[aC g]at c;simp only at c;rcases TV _ c with e | ⟨y,r,e⟩
 ·rcases dI _ _ ▸ e with f | f
  ·have:=(a.rdt _ i _ (XD.1 f)).2;omega
  ·have h:=(KE a g).1 (XD.1 f)
   unfold phE phB phT at h;obtain⟨t,d,j⟩:=bV.1 h;have d:=bE.1 d;rw[aC d]at j;obtain⟨u,q,l⟩:=bV.1 (show _∈List.flatMap _ x[t].ps from j);have o:=List.of_mem_zip l;obtain⟨z,s,v⟩:=aY.1 o.2;have:=(a.pha t d u q).2 z s;omega
 ·have:=(a.rdi _ i y r _ e).2;omega
section
structure StI(xs:List Xe)(v:Nat)(td:List Nat)(i:Nat):Prop where
 nd:td.Nodup
 op:∀x∈td,Opn xs v x
 z:0∈td
 dn:∀j (h:j<td.length),j<i->Yo xs td[j] v=true\/(barB xs td[j] v≠1/\(barB xs td[j] v=0->∀t∈X8 xs td[j],t∈td))
section
variable {xs : List Xe} {v : Nat} {td : List Nat} {i : Nat}
theorem ug:StI xs v [0] 0:=⟨sP,fun x a=>by rw[cS.1 a];exact Opn.root,sP,fun j _ h=>absurd h oM⟩
theorem StI.go(h:StI xs v td i)(c:i<td.length)(a:Yo xs td[i] v=true\/(barB xs td[i] v≠1/\(barB xs td[i] v=0->∀t∈X8 xs td[i],t∈td))):StI xs v td (i+1) :=
 ⟨h.nd,h.op,h.z,fun j b d=>if e:j=i then by subst e;exact a else h.dn j b oM⟩
theorem StI.push(h:StI xs v td i)(g:i<td.length)(m:Yo xs td[i] v=false)(d:barB xs td[i] v=0){t:Nat}(n:t∈X8 xs td[i])(l:t ∉ td):StI xs v (td++[t]) i:=by
 refine⟨?_,fun x a=>?_,by simp[h.z],fun j r k=>?_⟩
 ·rw[gW]
  exact⟨h.nd,sP,fun p ha b f=>by rw[cS.1 f];exact fun e=>l (by rw[<-e];exact ha)⟩
 ·rcases bU.1 a with a | a
  ·exact h.op x a
  ·rw[cS.1 a]
   exact Opn.step (h.op _ (aH g)) m d n
 ·have c:j<td.length:=oM
  rw[fA c];rcases h.dn j c k with q | ⟨q1,q2⟩
  ·exact bC q
  ·exact aZ ⟨q1,fun e u o=>dD _ (q2 e u o)⟩
theorem StI.none(h:StI xs v td i)(l:td.length<=i):¬Bad xs v:=by
 rintro⟨b,c,d,e⟩;have f:∀b,Opn xs v b->b∈td:=fun b c=>by
  induction c with
  | root=>exact h.z
  | step _ q1 q2 k g =>
   obtain⟨j,a,rfl⟩:=bR g;rcases h.dn j a oM with q | q
   ·rw[q]at q1;cases q1
   ·exact q.2 q2 _ k
 obtain⟨j,a,rfl⟩:=bR (f b c);rcases h.dn j a oM with q | q
 ·rw[q]at d;cases d
 ·exact q.1 e
theorem StI.hit(h:StI xs v td i)(b:i<td.length)(c:Yo xs td[i] v=false)(a:barB xs td[i] v=1):Bad xs v:=⟨_,h.op _ (aH b),c,a⟩
theorem StI.lt(h:StI xs v td i)(a:UF xs):∀x∈td,x<xs.length:=fun x b=>(h.op x b).lt a
end
end
theorem uy{go:Nat->Nat}(h:FlA w v n p m k B x g i j go M)(K:v.heap.size<=c)(D:Below v.heap.size v u)(t:XK u c m B f (fun _=>B) (fun _ _=>0))(O:∀b,b<m->v.heap.size<=f b)
 {l o:Nat} (L:u.heap.size+2<=l) (N:u.heap.size+2<=o) (q:Below (u.heap.size+2) ((u.alloc (.cells #[.slice (some ⟨c,0,none⟩) m m] 75)).alloc (.cells (madeCells #[.slice none 0 0] m) 27)) W) (r:YW W l o W.heap.size ((m+63) / 64) p m k (fun _=>0) (.slice none 0 0) []) :
 FlS ⟨w,n,m,k,B,(m+63) / 64,p,x,g,i,j,u.heap.size,c,u.heap.size+1,l,o,v.heap.size,u.heap.size,W.heap.size,go,f,M⟩/\FlK ⟨w,n,m,k,B,(m+63) / 64,p,x,g,i,j,u.heap.size,c,u.heap.size+1,l,o,v.heap.size,u.heap.size,W.heap.size,go,f,M⟩ W 0 ⟨fun _=>0,fun _=>0,fun _ _=>0,fun _ _=>0,fun _=>.slice none 0 0,fun _=>0,.slice none 0 0,[]⟩:=by
 have T:=D.size;have R:((u.alloc (.cells #[.slice (some ⟨c,0,none⟩) m m] 75)).alloc (.cells (madeCells #[.slice none 0 0] m) 27)).heap.size=u.heap.size+2:=sP;have J:Below u.heap.size u ((u.alloc (.cells #[.slice (some ⟨c,0,none⟩) m m] 75)).alloc (.cells (madeCells #[.slice none 0 0] m) 27)):=Xb (Xb (Below.refl _ _) _) _;have U:u.heap.size+2<=W.heap.size:=oN q.size
 have C:=J.trans (q.mono oM);have e:=Xg D C;have S:=h.low.size;have y:=h.gi.lt;have z:=aI v _ h.l0;have I:=h.out.row.lt;have F:=h.b1;have G:=h.b2;have H:=h.b3;have P:((u.alloc (.cells #[.slice (some ⟨c,0,none⟩) m m] 75)).alloc (.cells (madeCells #[.slice none 0 0] m) 27)).rowIs (u.heap.size+1) 27 m (fun _=>.slice none 0 0):=by
  have:=dG (u.alloc (.cells #[.slice (some ⟨c,0,none⟩) m m] 75)) (.slice none 0 0) m 27;rwa[aO]at this
 have d:∀s:Addr,s.block<v.heap.size->W.cell? s=v.cell? s:=fun s Q=>e.cell Q
 have A:i<v.heap.size:=z;refine⟨⟨⟨F,y⟩,⟨G,z⟩,⟨H,I⟩,fun b a=>⟨h.b4 b a,(h.out.set b a).lt⟩,h.d1,h.d2,h.d3,h.d4,⟨K,t.row.lt⟩,fun b a=>⟨O b a,(t.set b a).lt⟩,rfl,rfl,⟨L,r.lb⟩,⟨N,r.lg⟩,r.ne⟩,?_⟩;refine⟨Xg h.low e,aA _,(d _ (by show w.heap.size<_;omega)).trans h.f0,(d _ (by show w.heap.size<_;omega)).trans h.f1,(d _ (by show w.heap.size+1<_;omega)).trans h.r0,(d _ (by show w.heap.size+1<_;omega)).trans h.r1,fun E=>(e.frozen (p:=⟨w.heap.size+1,E,none⟩) (by show w.heap.size+1<_;omega)).trans (h.rz E),(d _ A).trans h.l0,(d _ A).trans h.l1,(q.cell (p:=⟨u.heap.size,0,none⟩) (by show u.heap.size<_;omega)).trans (by simp[go_sem]),h.out.keep e,(h.gi.of_block (e.block _ y)).congr (fun b _=>sP),fun b a=>absurd a oM,fun b V a=>absurd a oM,fun b a=>absurd a oM,t.keep C,(P.of_block (q.block _ oM)).congr (fun b _=>sP),fun b a=>absurd a oM,r,fun b a=>absurd a oM⟩
structure FlI(w4:World)(gB gD Kw CB:Nat)(W0:Nat->Nat)(pre:List Pl)(V:World):Prop where
 os:V.os=w4.os
 tape:V.tape=w4.tape
 output:V.output=w4.output
 size:w4.heap.size<=V.heap.size
 fr:∀q,q<w4.heap.size->q≠gB->q≠gD->V.heap[q]?=w4.heap[q]?
 ws:WsAt V gB Kw CB ((pre.map Pl.dat).foldl Ut W0)
 wd:WsAt V gD Kw Kw ((pre.map Pl.dat).foldl Uo (fun _=>0))
theorem FlI.own{gB:Nat}(j:gB<w.heap.size)(l:n<w.heap.size):OwnFrom w.heap.size (FlI w gB n m k f):=fun r A V row h a q=>by
 have o:=h.size;have c:∀b,b<w.heap.size->V.heap[b]?=A.heap[b]?:=fun b p=>a.block b oM (fun e=>by have:=(q b e.symm).1;omega)
 exact⟨a.os.trans h.os,a.tape.trans h.tape,a.output.trans h.output,aJ o a.size,fun b d g i=>(c b d).trans (h.fr b d g i),h.ws.of_block (c gB j),h.wd.of_block (c n l)⟩
theorem FlI.below{gB:Nat}(b:gB<w.heap.size)(c:n<w.heap.size){a:List Pl}(h:FlI w gB n m k f a v)(d:Below v.heap.size v u):FlI w gB n m k f a u:=XO (FlI.own b c) h d
theorem yL(l:List (Nat × List Int × List Int))(h:XA f):XA (l.foldl Ut f):=by
 induction l generalizing f with
 | nil=>exact h
 | cons q l a=>exact a (Zs _ (JX _ h))
theorem FlI.next{gB CB:Nat}{d:List Pl}(h:FlI w gB n m CB f d v)(l:gB<w.heap.size)(j:gB≠n){p:Pl}
 (b:v.grownBy u (some gB)) (c:u.grownBy W (some gB)) (a:W.grownBy V (some n)) (k:WsAt W gB m CB (Ut ((d.map Pl.dat).foldl Ut f) p.dat)) (i:WsAt V n m m (Uo ((d.map Pl.dat).foldl Uo (fun _=>0)) p.dat)):FlI w gB n m CB f (d++[p]) V:=by
 have o:=h.size;have r:=b.size;have s:=c.size;have t:=a.size;refine⟨a.os.trans (c.os.trans (b.os.trans h.os)),a.tape.trans (c.tape.trans (b.tape.trans h.tape)),a.output.trans (c.output.trans (b.output.trans h.output)),oM,fun q q1 q2 g=>?_,?_,?_⟩
 ·exact(a.block q oM (fun e=>g (by injection e))).trans ((c.block q oM (fun e=>q2 (by injection e))).trans ((b.block q oM (fun e=>q2 (by injection e))).trans (h.fr q q1 q2 g)))
 ·rw[bG,dT]
  exact k.of_block (a.block gB oM (fun e=>j (by injection e)))
 ·rw[bG,dT]
  exact i
theorem lq{row:Option Nat}(h:Xf w n w.heap.size p l)(k:w.grownBy v row)(t:∀r,row=some r->m<=r/\∃o:Obj,w.heap[r]?=some o/\o.isCells=false):Xf v n v.heap.size p l:=fun q j=>by
 obtain⟨b,o,f,c,e⟩:=h q j;refine⟨b,o,f,⟨c.1,aX c.2 k.size⟩,(Xc (k.block b c.2 (fun e2=>?_))).trans e⟩;obtain⟨s,g,i⟩:=Yn e;obtain⟨_,u,a,d⟩:=t b e2.symm;rw[show w.heap[b]?=some s from g]at a;injection a with a;subst a;rw[i]at d;cases d
theorem io(n b:Nat)(a:Nat × List Int × List Int->Prop):OwnFrom n (eh b a):=fun _ _ _ _ h k q=>⟨h.1,lq h.2.1 k q,lq h.2.2 k q⟩
theorem lj{a:Nat × List Int × List Int->Prop}{p:Pl}(h:eh n a p w)(k:Below w.heap.size w v):eh n a p v:=XO (io 0 n a) h k
theorem YZ(h:Xf w m w.heap.size p l)(k:w.grownBy v (some n))(f:n<m):Xf v m v.heap.size p l:=fun i d=>by
 obtain⟨b,o,e,a,c⟩:=h i d;exact⟨b,o,e,⟨a.1,aX a.2 k.size⟩,(Xc (k.block b a.2 (fun e2=>by injection e2 with e2;omega))).trans c⟩
structure PBx(n₀ bp:Nat)(p:Pl)(V:World):Prop where
 ge:n₀<=bp
 c0:V.cell? ⟨bp,0,none⟩=some (.slice p.ua p.us.length p.uc)
 c1:V.cell? ⟨bp,1,none⟩=some (.slice p.da p.ds.length p.dc)
theorem PBx.own{p:Pl}:OwnFrom n (fun (_:Unit) V=>PBx m k p V):=fun _ A V row h g q=>by
 have d:V.heap[k]?=A.heap[k]?:=by
  obtain⟨o,b,f⟩:=Yn h.c0;refine g.block k (aS.1 b).1 (fun e=>?_);obtain⟨_,i,a,c⟩:=q k e.symm;rw[show A.heap[k]?=some o from b]at a;injection a with a;subst a;rw[f]at c;cases c
 exact⟨h.ge,(Xc d).trans h.c0,(Xc d).trans h.c1⟩
theorem Zg(k:w.grownBy v (some m))(c:d m)(g:n<=w.heap.size):Zf n d w v :=
 ⟨k.size,fun i f a=>k.block i oM (fun e=>a (by injection e with e;rw[e];exact c)),fun i o a b _=>(k.block i (aS.1 b).1 (fun e=>a (by injection e with e;rw[e];exact c))).trans b⟩
theorem Jc(k:w.grownBy v (some n))(c:∃o:Obj,w.heap[n]?=some o/\o.isCells=true):KeepsOthers w v :=
 KeepsOthers.of_grownBy k (fun j o e h=>by
  obtain⟨d,a,b⟩:=c;injection e with e;subst e;rw[a]at h;injection h with h;rw[<-h];exact b)
theorem WsAt.obj(h:WsAt w n m k f):∃o:Obj,w.heap[n]?=some o/\o.isCells=true:=by
 obtain⟨_,T,c,a,_⟩:=h;exact⟨_,a,rfl⟩
theorem uR{wr:World}(h:ZJ wr n s)(d:n<=wr.heap.size)(e:wr.heap.size<=m)(hK:w.heap[m]?=some (.deferred (some [])))(b:∀k,n<=k->wr.heap[k]?=some (.deferred (some []))->w.heap[k]?=wr.heap[k]?):ZJ w n (m::s):=by
 have c:=fun k a=>(aS.1 (h.obj k a)).1
 refine⟨fL.2 ⟨fun k=>by have:=c m k;omega,h.nd⟩,fun k a=>?_,fun k a=>?_⟩
 ·rcases cH.1 a with rfl | a
  ·omega
  ·exact h.ge k a
 ·rcases cH.1 a with rfl | a
  ·exact hK
  ·exact(b k (h.ge k a) (h.obj k a)).trans (h.obj k a)
def PdV(V:Nat)(q:Nat × List Int × List Int):Prop:=(∀v∈q.2.1,0<=v/\v<V)/\(∀v∈q.2.2,0<=v/\v<V)/\q.2.1.length<=4000/\q.2.2.length<=4000
theorem jb(a:Jy n x)(c:q∈x):∀d∈plL q,PdV n d:=fun d hq=>by
 unfold plL at hq;have h:(rdT q.te).length<=1:=by unfold rdT;split<;>simp
 rcases cH.1 hq with rfl | hq
 ·exact⟨a.rdt q c,fun v b=>absurd b eA,by show(rdT q.te).length<=_;omega,sP⟩
 ·rcases bU.1 hq with hq | hq
  ·obtain⟨j,_,rfl⟩:=aY.1 hq
   have f:=ew q.is[j];have g:(writesI q.is[j]).length<=1:=by unfold writesI;split<;>simp
   exact⟨a.rdi q c _ (aH _),a.wri q c _ (aH _),by show(rdI q.is[j]).length<=_;omega,by show(writesI q.is[j]).length<=_;omega⟩
  ·rw[cS.1 hq]
   refine⟨fun v b=>absurd b eA,fun v b=>?_,sP,?_⟩
   ·obtain⟨p,e,rfl⟩:=aY.1 b
    exact a.phd q c p e
   ·show(q.ps.map Ph.dst).length<=_
    rw[bK];exact(a.lens q c).2
structure FlR(w w':World)(n Kw:Nat)(xs:List Xe)(Gi Go:Nat)(gi go ci:Nat->Nat)(WI WX:Nat->Nat->Nat):Prop where
 low:Below w.heap.size w w'
 si:XK w' Gi n Kw gi ci WI
 so:XK w' Go n Kw go (fun _=>Kw) WX
 wi:XQ WI
 wx:XQ WX
 b1:w.heap.size<=Gi/\w.heap.size<=Go
 b2:∀i,i<n->w.heap.size<=gi i/\w.heap.size<=go i
 inn:∃(I T W0:Nat->Nat->Nat)(ord:List Nat),(∀i (h:i<xs.length),I i=inW xs[i] (W0 i))/\(∀i (h:i<xs.length),T i=dfW xs[i])/\(∀b,b<xs.length->∀v,Xh (W0 b) v=true↔(b,v)∈phE xs xs.length)/\(∀b,b<xs.length->b∈ord)/\(∀b,b<n->∀x,x<64*Kw->(Xh (WI b) x=true↔Sp I T (·∈ord) (X8 xs) b x))/\∀b,b<n->∀x,(Xh (WX b) x=true↔Xh (W0 b) x=true\/∃t∈X8 xs b,Xh (WI t) x=true)
section
theorem YU{w c:World}{a e s:Nat}{v:Value}{n:Nat}{f:List Value}(h:w.ownsRow a e s v n f)(m:∀g,v.ownBlock=some g->c.heap[g]?=w.heap[g]?):c.ownsRow a e s v n f:=by
 obtain⟨b,h | ⟨g,i,j,rfl,q,r,o,l,t,u⟩⟩:=h
 ·exact⟨b,bC h⟩
 ·exact⟨b,aZ ⟨g,i,j,rfl,q,(m g rfl).trans r,o,l,t,u⟩⟩
theorem uK{w:World}{b e s:Nat}{v:Value}{n:Nat}{i:List Value}(h:w.ownsRow b e s v n i){g:Nat}(a:v.ownBlock=some g):∃o:Obj,w.heap[g]?=some o/\o.isCells=true:=by
 obtain⟨_,h | ⟨c,j,l,rfl,_,f,_⟩⟩:=h
 ·rw[h.1]at a;cases a
 ·have e:c=g:=by simpa [Value.ownBlock]using a
  subst e;exact⟨_,f,rfl⟩
theorem YW.same{w b:World}{a c f K:Nat}{i:Option Addr}{m j:Nat}{W:Nat->Nat}{v:Value}{L:List Nat}(h:YW w a c f K i m j W v L)(l:b.heap[a]?=w.heap[a]?)(n:b.heap[c]?=w.heap[c]?)(o:∀g,v.ownBlock=some g->b.heap[g]?=w.heap[g]?)(r:w.heap.size<=b.heap.size):YW b a c f K i m j W v L:=by
 have e:∀q,b.cell? ⟨a,q,none⟩=w.cell? ⟨a,q,none⟩:=fun q=>bZ l
 exact⟨(e 0).trans h.c0,(e 1).trans h.c1,(e 2).trans h.c2,fun q=>(bJ l).trans (h.thaw q),h.row.of_block n,YU h.own o,h.lb,h.lg,h.ne,aJ h.sz r⟩
section
variable {p : VD} {wr w4 W w5 : World} {k : Nat} {d : FlD} {gB CB : Nat} {ps : List Pl} {u5 : Value}
theorem oW(g:∀q,q<wr.heap.size->q≠p.Gi->w4.heap[q]?=wr.heap[q]?)(j:wr.heap.size<=w4.heap.size)(i:wr.heap.size<=gB)(a:FlI w4 gB (p.gd k) p.Kw CB (p.WO k) ps W)(h:Below W.heap.size W w5) :
 ∀q,q<wr.heap.size->q≠p.Gi->q≠p.gd k->q≠p.Gn->(w5.setCell ⟨p.Gn,k,none⟩ u5).heap[q]?=wr.heap[q]?:=fun q b c e f=>by
 have:=a.size;exact(Below.heap_setCell _ _ _ _ f).trans ((h.block q oM).trans ((a.fr q oM oM e).trans (g q b c)))
theorem tY(h:FlK p wr k d)(s:FlS p)(j:k<p.n)(f:∀q,q<wr.heap.size->q≠p.Gi->w4.heap[q]?=wr.heap[q]?)(l:wr.heap.size<=w4.heap.size)(i:wr.heap.size<=gB)(b:FlI w4 gB (p.gd k) p.Kw CB (p.WO k) ps W)(c:Below W.heap.size W w5) :
 YW (w5.setCell ⟨p.Gn,k,none⟩ u5) p.bS p.gS p.M p.K2 p.a p.n p.c d.Ws d.vS d.Lf:=by
 have v:=h.sz;have a:=oW (u5:=u5) f l i b c;have m:=s.a1;have o:=s.a5;have r:=s.a6 k j;have t:=s.a8;have u:=s.a9;have n:=s.a10;have w:=b.size;have x:=c.size;refine h.sea.same (a _ oM oM oM oM) (a _ oM oM oM oM) (fun g e=>?_) (by rw[Xd];omega);have:=h.sea.own.lt g e;exact a g oM oM oM oM
theorem FlK.round{l:World}{X:Xe}{D:Nat}{E:List Nat}{m:Option Addr}{c5:Nat}{u:Value}(o:FlK p wr k d)(s:FlS p)(hq:FlQ p k d)(hm:ZJ wr p.M E)(z:k<p.n)(J:k<p.xs.length)(ht:∀b,b<p.n->∀al∈X8 p.xs b,al<p.n)
 (F:∀q,q<wr.heap.size->q≠p.Gi->w4.heap[q]?=wr.heap[q]?) (w:w4.os=wr.os/\w4.tape=wr.tape/\w4.output=wr.output) (af:wr.heap.size<=w4.heap.size) (y:wr.heap.size<=gB) (ar:gB<w4.heap.size)
 (T:w4.rowIs p.Gi 45 p.n (fun i=>if i=k then .slice (some ⟨gB,0,none⟩) p.Kw CB else if i<k then .slice (some ⟨d.gi i,0,none⟩) p.Kw (d.ci i)else .slice none 0 0))
 (c:FlI w4 gB (p.gd k) p.Kw CB (p.WO k) ps W) (H:ps.map Pl.dat=plL X) (x:X=p.xs[k]) (hD:w4.heap.size<=D) (G:W.heap[D]?=some (.deferred (some [])))
 (f:Below W.heap.size W w5) (aa:Xf w5 W.heap.size w5.heap.size m X.te.tg)
 (a:Vh (w5.setCell ⟨p.Gn,k,none⟩ (.slice m X.te.tg.length c5)) l p.bS p.gS d.vS u) (hs:YW l p.bS p.gS p.M p.K2 p.a p.n p.c (dfsV (X8 p.xs) p.n k (d.Ws,d.Lf)).1 u (dfsV (X8 p.xs) p.n k (d.Ws,d.Lf)).2) :
 ∃C,FlK p l (k+1) C/\FlQ p (k+1) C/\ZJ l p.M (D::E):=by
 have hz:=o.sz;have O:=oW (u5:=.slice m X.te.tg.length c5) F af y c f;have a1:=s.a1;have aq:=s.a5;have a6:=s.a6 k z;have a8:=s.a8;have a9:=s.a9;have ap:=s.a10;have ax:=c.size;have ay:=f.size;have aj:=a.size;rw[Xd]at aj;have t:=fun g e=>o.sea.own.lt g e
 have L:∀g,u.ownBlock=some g->d.vS.ownBlock=some g\/w5.heap.size<=g:=fun g e=>by
  rcases a.own with q | q
  ·exact bC (by rw[<-q];exact e)
  ·have:=q g e;rw[Xd]at this;exact aZ this
 have R:=(aS.1 G).1;have B:∀q,wr.heap.size<=q->q<w5.heap.size->l.heap[q]?=w5.heap[q]?:=fun q r h=>(a.block q (by rw[Xd];exact h) oM oM (fun e=>by have:=t q e.symm;omega)).trans (Below.heap_setCell _ _ _ _ (by show q≠p.Gn;omega))
 have M:∀q,q<wr.heap.size->q≠p.Gn->q≠p.bS->q≠p.gS->some q≠d.vS.ownBlock->l.heap[q]?=W.heap[q]?:=fun q r h j n v=>(a.block q (by rw[Xd];omega) j n v).trans ((Below.heap_setCell _ _ _ _ h).trans (f.block q oM))
 have A:∀q,q<p.M->some q≠d.vS.ownBlock:=fun q hq e=>by have:=t q e.symm;omega
 have I:=fun q r h j n v P Q=>(a.block q (by rw[Xd];omega) v P Q).trans (O q r h j n)
 have ad:(ps.map Pl.dat).foldl Ut (p.WO k)=inW p.xs[k] (p.WO k):=by rw[H,<-x];rfl
 have ac:(ps.map Pl.dat).foldl Uo (fun _=>0)=dfW p.xs[k]:=by rw[H,<-x];rfl
 have Z:WsAt l gB p.Kw CB (inW p.xs[k] (p.WO k)):=by
  rw[<-ad];exact c.ws.of_block ((B gB y oM).trans (f.block gB oM))
 have S:WsAt l (p.gd k) p.Kw p.Kw (dfW p.xs[k]):=by
  rw[<-ac];exact c.wd.of_block (M _ oM oM oM oM (A _ oM))
 have U:=(T.of_block (c.fr p.Gi oM oM oM)).of_block (M p.Gi oM oM oM oM (A _ oM));have V:w5.rowIs p.Gn 27 p.n (fun i=>if i<k then d.nx i else .slice none 0 0):=by
  refine((o.nxr.of_block (F p.Gn oM oM)).of_block (c.fr p.Gn oM oM oM)).of_block (f.block p.Gn oM)
 have Y:=(V.set k (.slice m X.te.tg.length c5)).of_block (a.block p.Gn (by rw[Xd];omega) oM oM (A _ oM));have K:tgI p.xs k=X.te.tg:=by rw[VS J,x]
 refine⟨_,o.next s z (gB:=gB) (CB:=CB) (I':=inW p.xs[k] (p.WO k)) (D':=dfW p.xs[k]) (nk:=.slice m X.te.tg.length c5) (v':=u) (Ws':=(dfsV (X8 p.xs) p.n k (d.Ws,d.Lf)).1) (Lf':=(dfsV (X8 p.xs) p.n k (d.Ws,d.Lf)).2) (a.os.trans (f.os.trans (c.os.trans w.1))) (a.tape.trans (f.tape.trans (c.tape.trans w.2.1))) (a.output.trans (f.output.trans (c.output.trans w.2.2))) oM I y Z U S Y ⟨m,c5,by rw[K],?_⟩ hs ?_ ?_,hq.next z ht _ _ _ _ J rfl rfl,uR hm hz oM ?_ ?_⟩
 ·rw[K]
  intro i hi;obtain⟨b,N,e,hb,hc⟩:=aa i hi;refine⟨b,N,e,⟨⟨oM,oM,fun e2=>?_⟩,oM⟩,(Xc (B b oM hb.2)).trans hc⟩;rcases L b e2.symm with q | q
  ·have:=t b q;omega
  ·omega
 ·rcases a.own with q | q
  ·exact bC q
  ·exact aZ (fun g e=>by have:=q g e;rw[Xd]at this;omega)
 ·intro e
  rcases L gB e.symm with q | q
  ·have:=t gB q;omega
  ·omega
 ·exact(B D oM oM).trans ((f.block D R).trans G)
 ·intro q r h
  have ab:=(aS.1 h).1;refine I q ab oM oM oM oM oM (fun e=>?_);obtain⟨N,j,n⟩:=uK o.sea.own e.symm;rw[h]at j;injection j with j;rw[<-j]at n;cases n
end
end
section
structure TH(W1:World)(G:Nat)(wr:World)(u:Value)(l:List Int):Prop where
 os:wr.os=W1.os
 tape:wr.tape=W1.tape
 output:wr.output=W1.output
 size:W1.heap.size<=wr.heap.size
 fr:∀q,q<W1.heap.size->q≠G->wr.heap[q]?=W1.heap[q]?
 own:wr.ownsRow G 2 1 u l.length (l.map (Value.int .i64))
 here:∀g,u.ownBlock=some g->g=G\/W1.heap.size<=g
section
variable {W1 wr w2 : World} {G : Nat} {u u' : Value} {l : List Int}
theorem TH.start(h:W1.ownsRow G 2 1 u 0 [])(a:∀g,u.ownBlock=some g->g=G):TH W1 G W1 u []:=⟨rfl,rfl,rfl,aA _,fun _ _ _=>rfl,h,fun g e=>bC (a g e)⟩
theorem TH.push{x:Int}(h:TH W1 G wr u l)(a:wr.grownBy w2 u.ownBlock)(f:w2.ownsRow G 2 1 u' (l.length+1) (l.map (Value.int .i64)++[.int .i64 x]))(d:u'.ownBlock=u.ownBlock\/u'.ownBlock=some wr.heap.size):TH W1 G w2 u' (l++[x]):=by
 have i:=h.size;refine⟨a.os.trans h.os,a.tape.trans h.tape,a.output.trans h.output,aJ i a.size,fun q c b=>(a.block q oM (fun e=>?_)).trans (h.fr q c b),?_,fun g e=>?_⟩
 ·rcases h.here q e.symm with k | k
  ·exact b k
  ·omega
 ·rw[Yl,aQ]
  exact f
 ·rcases d with k | k
  ·exact h.here g (by rw[<-k];exact e)
  ·rw[k]at e
   injection e with e;exact aZ oM
theorem TH.below(h:TH W1 G wr u l)(k:Below wr.heap.size wr w2):TH W1 G w2 u l :=
 ⟨k.os.trans h.os,k.tape.trans h.tape,k.output.trans h.output,aJ h.size k.size,fun q a b=>(k.block q (aX a h.size)).trans (h.fr q a b),YU h.own (fun g e=>k.block g (h.own.lt g e).2),h.here⟩
theorem TH.alloc(h:TH W1 G wr u l)(o:Obj):TH W1 G (wr.alloc o) u l:=h.below (Xb (Below.refl _ _) o)
theorem TH.cell(h:TH W1 G wr u l){b o:Nat}{v:Value}(c:b≠G)(a:W1.cell? ⟨b,o,none⟩=some v):wr.cell? ⟨b,o,none⟩=some v:=(Xc (h.fr b (aI W1 _ a) c)).trans a
end
end
end Go.Proofs.YtghnlncgiihhgaaGreatDoor
