import Derived.Lib.TrailingZeros
import Derived.Laws.Bits64b
import Derived.Test.YtghnlncgiihhgaaGreatDoorMV1
namespace Go.Proofs.YtghnlncgiihhgaaGreatDoor
set_option maxHeartbeats 4000000
set_option maxRecDepth 100000
open Go.RowKit Go.Proofs.Tryz Go.Shelf
variable{r:Bool}{s:List Nat}{x:List Xe}{n m k:Nat}{f F:Nat->Nat}{M N:Nat->Nat->Nat}{w v:World}
def Jn(w:World):Prop:=∀j,j<64->w.cell? ⟨2,j,none⟩=some (.int .u8 (Lib.deBruijn64tab.getD j 0))
theorem Jn.of_block(h:Jn w)(e:v.heap[(2 : Nat)]?=w.heap[(2 : Nat)]?):Jn v:=fun j a=>(Xc (o:=j) e).trans (h j a)
theorem AY(x a:Nat)(c:x<18446744073709551616)(d:x≠0)(b:x &&& (18446744073709551616-x)=a) :
 IntKind.u64.wrap (bits BinOp.and IntKind.u64 (x:Int) (IntKind.u64.wrap (-(x:Int)))*285870213051353865) / 288230376151711744=((a*285870213051353865 % 18446744073709551616 / 288230376151711744:Nat):Int):=by
 have e1:IntKind.u64.wrap (-(x:Int))=((18446744073709551616-x:Nat):Int):=by rw[iV];omega
 rw[e1,bits_and_u64_nat x _ c oM,b,iV];omega
theorem AB(x k a:Nat)(w:World)(h:((x:Int)==0)=false)
 (b:IntKind.u64.wrap (bits BinOp.and IntKind.u64 (x:Int) (IntKind.u64.wrap (-(x:Int)))*285870213051353865) / 288230376151711744=(a:Int))
 (f:a<64) (g:k<64) (d:w.cell? ⟨2,a,none⟩=some (.int .u8 k)) :
 Calls prog 102 #[.int .u64 x] w fun e c=>e=.returned (.int .i64 k)/\c=w:=by
 go_in
 go_wp2_with (simp only[b])
 go_ret
 exact⟨rfl,rfl⟩
theorem AL(x:Nat)(d:x<18446744073709551616)(e:x≠0)(w:World)(g:Hid (Jn w)) :
 Calls prog 102 #[.int .u64 x] w fun f j=>f=.returned (.int .i64 (Lib.ctz 64 x:Nat))/\j=w:=by
 obtain⟨h,c⟩:=Lib.lowest_bit 64 x e d;obtain⟨b,i⟩:=Lib.deBruijn64_at _ c;have a:=g _ b;rw[i]at a;exact AB x _ _ w (by simp;omega) (AY x _ d e h) b c a
theorem gy(a:n≠0)(h:n<2 ^ 64):∃m,n=2 ^ Lib.ctz 64 n*(2*m+1)/\Lib.ctz 64 n<64:=by
 have e:Lib.ctz 64 n=Lib.ctzFrom 64 n:=by simp[Lib.ctz,a]
 rw[e];exact Lib.ctzFrom_spec 64 n oM h
theorem ip(c m i:Nat):(2 ^ c*m).testBit i=(decide (c<=i)&&m.testBit (i-c)):=by
 rw[Nat.mul_comm,Nat.testBit_mul_two_pow]
theorem zp(m i:Nat):(2*m+1).testBit i=(decide (i=0)||(2*m).testBit i):=by
 cases i with
 | zero=>simp
 | succ i =>
  rw[Nat.testBit_succ,Nat.testBit_succ];have a:(2*m+1) / 2=m:=oM;have b:2*m / 2=m:=oM;rw[a,b];simp
theorem Ar(b:n≠0)(h:n<2 ^ 64)(i:Nat):(n &&& (n-1)).testBit i=(n.testBit i&&decide (i≠Lib.ctz 64 n)):=by
 obtain⟨m,a,g⟩:=gy b h;generalize Lib.ctz 64 n=c at *;have j:=Nat.two_pow_pos c;have e1:n-1=2 ^ c*(2*m)+(2 ^ c-1):=by rw[a,Nat.mul_add];omega
 rw[jW,e1,iH _ oM,a,ip];by_cases f:i<c
 ·have:¬c<=i:=oM
  simp[this]
 ·have d:c<=i:=oM
  simp only[f,d,decide_true,Bool.true_and,fD];rw[zp];by_cases e:i=c
  ·subst e;simp
  ·have:¬i-c=0:=oM
   simp[this,e]
theorem AX(a:n≠0)(h:n<2 ^ 64):n.testBit (Lib.ctz 64 n)=true/\∀i,i<Lib.ctz 64 n->n.testBit i=false:=by
 obtain⟨m,b,d⟩:=gy a h;generalize Lib.ctz 64 n=c at *;rw[b];refine⟨?_,fun i e=>?_⟩
 ·rw[ip];simp
 ·rw[ip]
  have:¬c<=i:=oM;simp[this]
def lsN(W:Nat->Nat)(p:Nat):List Nat:=(List.range p).filter (Xh W)
theorem iz(c:n<=m)(h:∀i,n<=i->i<m->Xh f i=false):lsN f m=lsN f n:=by
 unfold lsN;obtain⟨d,rfl⟩:∃d,m=n+d:=⟨m-n,oM⟩;rw[lI,eU];have:((List.range d).map (n + ·)).filter (Xh f)=[]:=by
  rw[mJ];intro x b;obtain⟨j,a,rfl⟩:=aY.1 b;rw[h (n+j) oM (oN (bE.1 a))];simp
 rw[this,fF]
theorem Af(a:n<=m)(h:∀i,n<=i->i<m->Xh f i=false)(hq:Xh f m=true):lsN f (m+1)=lsN f n++[m]:=by
 rw[<-iz a h];unfold lsN;rw[dN,eU];simp[hq]
theorem AH:m∈lsN f n↔m<n/\Xh f m=true:=by unfold lsN;rw[fG,bE]
inductive Wh (xs:List Xe) (v:Nat):Nat->Prop
 | here {b:Nat}:b<xs.length->barB xs b v=1->Wh xs v b
 | step {b t:Nat}:b<xs.length->barB xs b v=0->t∈X8 xs b->Yo xs t v=false->Wh xs v t->Wh xs v b
def Lin(a:List Xe)(v b:Nat):Prop:=Yo a b v=false/\Wh a v b
def UV(a:List Xe)(v b:Nat):Prop:=(v:Int)∈XP a b\/∃t∈X8 a b,Lin a v t
theorem i8(a:List Xe)(b v:Nat):barB a b v<=2:=by
 unfold barB;split
 ·exact aN _
 ·exact Vg _
theorem Wh.lt{b:Nat}(h:Wh x n b):b<x.length:=by
 cases h with
 | here h _=>exact h
 | step h _ _ _ _=>exact h
theorem qD(c:Jy n x)(h:∀i (l:i<x.length),M i=inW x[i] (N i))(j:∀b,b<x.length->∀m,Xh (N b) m=true↔(b,m)∈phE x x.length){b:Nat}(a:b<x.length):Xh (M b) m=true↔Yo x b m=false/\barB x b m=1:=by
 have e:=aH a;rw[h b a,qj (fun y f=>⟨fun z d=>(c.rdi _ e y f z d).1,fun z d=>(c.wri _ e y f z d).1⟩) (fun z d=>(c.rdt _ e z d).1) (fun p k=>(c.phd _ e p k).1)];unfold Yo barB bareM;rw[aC a];simp only;have g:Xh (N b) m=hasI (XP x b) (m:Int):=by rw[eQ,j b a,XD,KE c a]
 rw[g,<-gU,XD]
theorem zL(g:Jy n x)(j:∀i (h:i<x.length),M i=dfW x[i]){b:Nat}(d:b<x.length)(a:Yo x b m=false)(c:barB x b m=0):Xh (M b) m=false:=by
 have f:=aH d;rw[j b d,<-gU,WK (fun y e z l=>(g.wri _ f y e z l).1) (fun p k=>(g.phd _ f p k).1)];unfold Yo at a;unfold barB bareM at c;rw[aC d]at a c;simp only at a c;rintro(h | ⟨y,e,h⟩)
 ·rw[XD.2 h]at a;cases a
 ·exact UQ _ c y e h
theorem Bg(f:Jy n x)(g:∀i (h:i<x.length),M i=dfW x[i]){b:Nat}(c:b<x.length)(h:Xh (M b) m=false):Yo x b m=false/\barB x b m≠2:=by
 have e:=aH c;rw[g b c,<-gU,WK (fun y d z k=>(f.wri _ e y d z k).1) (fun p j=>(f.phd _ e p j).1)]at h;unfold Yo barB bareM;rw[aC c];simp only;refine⟨?_,Ud _ (fun y d a=>h (aZ ⟨y,d,a⟩))⟩;rw[<-gU,XD];exact fun a=>h (bC a)
theorem AG(f:Jy n x){l:Nat->Nat->Nat}(p:∀i (j:i<x.length),M i=inW x[i] (l i))(r:∀i (j:i<x.length),N i=dfW x[i])(q:∀b,b<x.length->∀m,Xh (l b) m=true↔(b,m)∈phE x x.length){ord:Nat->Prop}(v:∀b,b<x.length->ord b){b:Nat}(e:b<x.length) :
 Sp M N ord (X8 x) b m↔Lin x m b:=by
 constructor
 ·intro j
  induction j with
  | init g =>
   have a:=(qD f p q e).1 g;exact⟨a.1,Wh.here e a.2⟩
  | @take b z t g a c h k =>
   have d:=Bg f r e h;have o:=i8 x b t;have w:=f.okf.tg _ e _ a;by_cases u:barB x b t=1
   ·exact⟨d.1,Wh.here e u⟩
   ·have s:=k w
    exact⟨d.1,Wh.step e (oN d.2) a s.1 s.2⟩
 ·rintro⟨g,a⟩
  induction a with
  | here c h=>exact Sp.init ((qD f p q c).2 ⟨g,h⟩)
  | @step b A c h d o y k=>exact Sp.take (v _ c) d (k (f.okf.tg _ c _ d) o) (zL f r c g h)
theorem o9(d:Jy n x){b:Nat}(i:b<x.length)(h:(m:Int)∈XP x b):m<n:=by
 have c:=(KE d i).1 h;unfold phE phB phT at c;obtain⟨t,a,e⟩:=bV.1 c;have a:=bE.1 a;rw[aC a]at e;obtain⟨p,j,f⟩:=bV.1 (show _∈List.flatMap _ x[t].ps from e);have g:=List.of_mem_zip f;obtain⟨z,k,l⟩:=aY.1 g.2;have:=(d.pha t a p j).2 z k;omega
theorem Bn(f:Jy n x){b:Nat}(e:b<x.length)(a:barB x b m=1):m<n:=by
 have g:=aH e;unfold barB bareM at a;rw[aC e]at a;simp only at a;rcases TV _ a with c | ⟨y,h,c⟩
 ·rcases dI _ _ ▸ c with d | d
  ·have:=(f.rdt _ g _ (XD.1 d)).2;omega
  ·exact o9 f e (XD.1 d)
 ·have:=(f.rdi _ g y h _ c).2;omega
theorem Wh.val(d:Jy n x){b:Nat}(h:Wh x m b):m<n:=by
 induction h with
 | here a c=>exact Bn d a c
 | step _ _ _ _ _ e=>exact e
theorem UV.val(a:Jy n x){b:Nat}(c:b<x.length)(h:UV x m b):m<n:=by
 rcases h with h | ⟨t,_,h⟩
 ·exact o9 a c h
 ·exact h.2.val a
theorem vF{a:Nat->Bool}(e:∀b,b<x.length->a b=true->Wh x n b)(f:∀b,b<x.length->barB x b n=1->a b=true)(g:∀b,b<x.length->barB x b n=0->∀t∈X8 x b,a t=true->Yo x t n=false->a b=true){b:Nat}(l:b<x.length):a b=true↔Wh x n b:=by
 refine⟨e b l,fun h=>?_⟩
 induction h with
 | here c d=>exact f _ c d
 | @step b t c d i j k m=>exact g b c d t i (m k.lt) j
def I0(b:List Xe)(a:Nat->Nat->Nat)(i:Nat):Nat->Nat:=(b[i]?).elim (fun _=>0) fun x=>inW x (a i)
def T0(a:List Xe)(i:Nat):Nat->Nat:=(a[i]?).elim (fun _=>0) dfW
theorem rt(h:n<x.length):I0 x M n=inW x[n] (M n):=by simp[I0,h]
theorem rm(h:n<x.length):T0 x n=dfW x[n]:=by simp[T0,h]
theorem BY(h:XQ M):XQ (I0 x M):=fun i=>by
 unfold I0;cases x[i]? with
 | none=>exact JW
 | some a=>exact BC a (h i)
theorem BK:XQ (T0 x):=fun i=>by
 unfold T0;cases x[i]? with
 | none=>exact JW
 | some a=>exact AI a
theorem XK.congr(h:XK w n m k f F M)(e:∀i,i<m->M i=N i):XK w n m k f F N :=
 ⟨h.row,fun i a=>by rw[<-e i a];exact h.set i a,h.inj,h.out⟩
def ak(a:List Xe):List (List Nat):=(List.range a.length).map (X8 a)
theorem xw(a:List Xe):(fun b=>(ak a).getD b [])=X8 a:=by
 funext b;unfold ak;by_cases h:b<a.length
 ·simp[h]
 ·simp only[bF,dX]
  rw[dK (by simp;omega)];unfold X8;rw[dK oM];rfl
theorem WM(a:UF x)(h:n<x.length):Xi (X8 x n)=tgI x n:=by
 rw[Km h,VS h];exact Kv (fun v b=>(a.tgt _ (aH h) v b).1)
structure Fl2(p:VD)(gi ci:Nat->Nat)(nx:Nat->Value)(ds:List Nat)(W:World)(WI:Nat->Nat->Nat):Prop where
 low:Below p.w.heap.size p.w W
 sz:p.M<=W.heap.size
 f0:W.cell? ⟨p.w.heap.size,0,none⟩=some (.int .i64 (p.V:Int))
 r0:W.cell? ⟨p.w.heap.size+1,0,none⟩=some (.slice none 0 0)
 r1:W.cell? ⟨p.w.heap.size+1,1,none⟩=some (.slice none 0 0)
 rz:∀q,W.frozen? ⟨p.w.heap.size+1,q,none⟩=false
 l0:W.cell? ⟨p.LB,0,none⟩=some (.slice (some ⟨p.Gi,0,none⟩) p.n p.n)
 l1:W.cell? ⟨p.LB,1,none⟩=some (.slice (some ⟨p.Go,0,none⟩) p.n p.n)
 out:XK W p.Go p.n p.Kw p.go (fun _=>p.Kw) p.WO
 inn:XK W p.Gi p.n p.Kw gi ci WI
 igM:∀i,i<p.n->p.M<=gi i
 nxr:W.rowIs p.Gn 27 p.n nx
 nxs:∀i,i<p.n->∃a' c',nx i=.slice a' (tgI p.xs i).length c'/\Yv W (fun b=>p.M<=b) a' (tgI p.xs i)
 mks:ZJ W p.M ds
 wi:XQ WI
 ord:∃ord:List Nat,(∀b,b<p.n->b∈ord)/\∀b,b<p.n->∀x,x<64*p.Kw->(Xh (WI b) x=true↔Sp (I0 p.xs p.WO) (T0 p.xs) (·∈ord) (X8 p.xs) b x)
theorem FlK.spread{p:VD}{d:FlD}(h:FlK p w p.n d)(j:FlS p)(q:FlQ p p.n d)(E:ZJ w p.M s)(y:Jy p.V p.xs)(L:p.n=p.xs.length)(ab:XQ p.WO)(S:p.Kw<=100) :
 ∃m C,d.vS=.slice (some ⟨m,0,none⟩) d.Lf.length C/\Calls prog 81 #[.slice (some ⟨m,0,none⟩) d.Lf.length C,.slice (some ⟨p.Gn,0,none⟩) p.n p.n,.slice (some ⟨p.Gi,0,none⟩) p.n p.n,.slice (some ⟨p.Gd,0,none⟩) p.n p.n] w.drew fun e r=>e=.returned (.tuple #[])/\(∃O,Fl2 p d.gi d.ci d.nx s r O)/\(∀b,b<w.heap.size->b<p.M->r.heap[b]?=w.heap[b]?):=by
 have hz:=h.sz;have ay:1<=p.n:=oN y.okf.n1
 have az:p.n<=1000:=oN y.okf.n2
 have J:=eJ (q.mem 0 (q.sn 0 oM));have T:d.Lf.length<=1000:=oN q.len
 obtain⟨m,C,N,hg,_⟩:=Xm h.sea.own J;refine⟨m,C,N,?_⟩;have M:=h.sea.own;rw[N,show Je d.Lf=(Xi d.Lf).map (Value.int .i64) by simp[Je,Xi]]at M;obtain⟨a1,c1,e1,U⟩:=Xk M;injection e1 with e1 e2 e3;subst e1;have aj:=j.a1;have aq:=j.a5;have ar:=j.a8;have ax:=j.a9;have t:XK w p.Gi p.n p.Kw d.gi d.ci (I0 p.xs p.WO):=⟨h.inr.congr (fun i a=>by rw[aU a]),fun i a=>by rw[rt oM,<-q.wi i oM a];exact h.ins i a,h.inj,fun i a e=>by have:=h.igM i a;omega⟩;have u:XK w p.Gd p.n p.Kw p.gd (fun _=>p.Kw) (T0 p.xs):=h.defs.congr (fun i a=>by rw[rm oM,q.wd i oM,aU a]);have X:∀i,i<p.n->w.cell? ⟨p.Gn,0+i,none⟩=some (d.nx i):=fun i a=>by
  rw[aV];exact(h.nxr.cell a).trans (by rw[aU a])
 have Z:TA w (fun ac=>∀i,i<p.n->ac≠d.gi i) (some ⟨p.Gn,0,none⟩) ((ak p.xs).map Xi):=fun i a=>by
  have x:i<p.xs.length:=by simpa [ak]using a
  have K:i<p.n:=oM;obtain⟨z,A,e,F⟩:=h.nxs i K;have H:((ak p.xs).map Xi)[i]=tgI p.xs i:=by
   simp only[cM,ak,dW];exact WM y.okf x
  refine⟨p.Gn,0,rfl,⟨fun l k e=>by have:=h.igM l k;omega,h.nxr.lt⟩,z,A,?_,?_⟩
  ·rw[H,X i K,e]
  ·rw[H]
   intro l k;obtain⟨b,o,e2,c,D⟩:=F l k;exact⟨b,o,e2,⟨c.1.2.1,c.2⟩,D⟩
 refine(rL m 0 d.Lf.length C d.Lf p.M w.heap.size (some ⟨p.Gn,0,none⟩) p.n p.n (ak p.xs) p.Gi p.Gd p.n p.Kw d.gi p.gd d.ci (fun _=>p.Kw) (I0 p.xs p.WO) (T0 p.xs) w.drew (Xa U) (Xa rfl) T J (Xa Z) (Xa (by simp[ak];exact L)) (Xa (by simp[ak];exact L.symm)) S (aA _) (Xa ⟨t.row,fun i a=>(t.set i a).drew,t.inj,t.out⟩) (Xa ⟨u.row,fun i a=>(u.set i a).drew,u.inj,u.out⟩) (Xa (BY ab)) (Xa BK) (Xa (fun i a=>by have:=h.igM i a;omega)) (Xa (fun i l a k=>by have:=h.igM l k;have:=j.a6 i a;omega)) (Xa q.lt) (Xa (fun a0 W=>?_))).mono ?_
 ·obtain⟨i,a,rfl⟩:=aY.1 W
  have x:=bE.1 a;refine⟨?_,fun ad ht=>by have:=y.okf.tg i x ad ht;omega⟩;rw[Km x,bK];have:=KJ p.xs[i].te;omega
 ·rintro e r ⟨rfl,n,P,aa,Y,V⟩
  have g:U8 w r p.n d.gi:=⟨n.os,n.tape,n.output,n.size,n.block⟩;have f:∀b,b<p.M->r.heap[b]?=w.heap[b]?:=fun b c=>g.block b oM (fun i a e=>by have:=h.igM i a;omega)
  have hw:=h.low.size;have al:=j.a2;have ap:=j.a3;refine⟨rfl,⟨P,⟨⟨g.os.trans h.low.os,g.tape.trans h.low.tape,g.output.trans h.low.output,aJ hw g.size,fun b c=>(f b oM).trans (h.low.block b c)⟩,aJ hz g.size,(Xc (f _ oM)).trans h.f0,(Xc (f _ oM)).trans h.r0,(Xc (f _ oM)).trans h.r1,fun o=>by rw[bJ (a:=⟨p.w.heap.size+1,o,none⟩) (f (p.w.heap.size+1) oM)];exact h.rz o,(Xc (f _ oM)).trans h.l0,(Xc (f _ oM)).trans h.l1,⟨h.out.row.of_block (f _ oM),fun i a=>(h.out.set i a).of_block (f _ (oN (j.a4 i a))),h.out.inj,h.out.out⟩,Y,h.igM,(h.nxr.of_block (f _ oM)).congr (fun i a=>by rw[aU a]),fun i a=>?_,⟨E.nd,E.ge,fun G R=>?_⟩,aa,d.Lf,fun b c=>q.mem b (q.sn b c),fun b c af hx=>?_⟩⟩,fun b h1 Q=>f b Q⟩
  ·obtain⟨z,A,e,F⟩:=h.nxs i a
   refine⟨z,A,e,fun l k=>?_⟩;obtain⟨b,o,e2,c,D⟩:=F l k;exact⟨b,o,e2,⟨c.1.1,aX c.2 g.size⟩,(Xc (g.block b c.2 c.1.2.1)).trans D⟩
  ·have B:=E.obj G R
   refine(g.block G (aS.1 B).1 (fun i a e=>?_)).trans B;obtain⟨o,v,I⟩:=(h.ins i a).obj;rw[<-e,B]at v;injection v with v;rw[<-v]at I;cases I
  ·rw[<-xw]
   exact V b c af hx
def ag(a:Nat->Nat->Nat)(l:List Nat)(W:Nat->Nat):Nat->Nat:=l.foldl (fun W t=>butN W (a t) (fun _=>0)) W
theorem jm{a:Nat->Nat->Nat}(h:XQ a):∀(l:List Nat){W:Nat->Nat},XA W->XA (ag a l W)
 | [],_,hW=>hW
 | t::l,_,hW=>jm h l (jz hW (h t))
theorem pz{a:Nat->Nat->Nat}(h:XQ a)(x:Nat):∀(l:List Nat){W:Nat->Nat},XA W->(Xh (ag a l W) x=true↔Xh W x=true\/∃t∈l,Xh (a t) x=true)
 | [],W,_=>by simp[ag]
 | t::l,W,hW=>by
  show Xh (ag a l (butN W (a t) (fun _=>0))) x=true↔_;rw[pz h x l (jz hW (h t)),qm hW JW,Z3];simp only[Bool.not_false,Bool.and_true,dI,cH,exists_eq_or_imp,or_assoc]
theorem vL(h:n<s.length)(W:Nat->Nat):ag M (s.take (n+1)) W=butN (ag M (s.take n) W) (M s[n]) (fun _=>0):=by
 unfold ag;rw[bN h,dT];rfl
def Vq(d:List Xe)(c a:Nat->Nat->Nat)(b j:Nat):Nat->Nat->Nat:=fun i=>if i<b then ag c (X8 d i) (a i)else if i=b then ag c ((X8 d i).take j) (a i)else a i
theorem pW(h:XQ M)(a:XQ N)(b j:Nat):XQ (Vq x M N b j):=fun i=>by
 unfold Vq;split
 ·exact jm h _ (a i)
 ·split
  ·exact jm h _ (a i)
  ·exact a i
structure Fl3(p:VD)(gi ci:Nat->Nat)(ds:List Nat)(WI:Nat->Nat->Nat)(W2:World)(gN:Nat)(wr:World)(b j:Nat):Prop where
 os:wr.os=W2.os
 tape:wr.tape=W2.tape
 output:wr.output=W2.output
 size:W2.heap.size<=wr.heap.size
 fr:∀q,q<W2.heap.size->(∀i,i<p.n->q≠p.go i)->wr.heap[q]?=W2.heap[q]?
 out:XK wr p.Go p.n p.Kw p.go (fun _=>p.Kw) (Vq p.xs WI p.WO b j)
theorem Fl3.start{p:VD}{nx:Nat->Value}(h:Fl2 p f F nx s w M)(k:Below w.heap.size w v):Fl3 p f F s M v n v 0 0 :=
 ⟨rfl,rfl,rfl,aA _,fun _ _ _=>rfl,(h.out.keep k).congr (fun i _=>by unfold Vq;by_cases e:i=0<;>simp[e,ag])⟩
theorem Fl3.row{p:VD}{wr:World}{b:Nat}(h:Fl3 p f F s M w n wr b m)(a:(X8 p.xs b).length<=m):Fl3 p f F s M w n wr (b+1) 0 :=
 ⟨h.os,h.tape,h.output,h.size,h.fr,h.out.congr (fun i _=>by
  unfold Vq;by_cases e1:i<b
  ·rw[aU e1,aU oM]
  ·by_cases e2:i=b
   ·rw[aM e1,aU e2,aU oM,e2,aW a]
   ·rw[aM e1,aM e2,aM oM]
    by_cases e3:i=b+1
    ·rw[aU e3];simp[ag]
    ·rw[aM e3])⟩
theorem Fl3.next{p:VD}{wr:World}{b:Nat}(h:Fl3 p f F s M w n wr b m)(d:b<p.n)(g:m<(X8 p.xs b).length)(k:wr.grownBy v (some (p.go b)))(j:WsAt v (p.go b) p.Kw p.Kw (butN (Vq p.xs M p.WO b m b) (M (X8 p.xs b)[m]) (fun _=>0))):Fl3 p f F s M w n v b (m+1):=by
 refine⟨k.os.trans h.os,k.tape.trans h.tape,k.output.trans h.output,aJ h.size k.size,fun q a c=>(k.block q (aX a h.size) (fun e=>c b d (by injection e))).trans (h.fr q a c),(h.out.wrote d k j).congr (fun i _=>?_)⟩;by_cases e:i=b
 ·subst e
  simp only[Vq,Nat.lt_irrefl,fD,gG];rw[vL g]
 ·unfold Vq
  rw[aM e];by_cases e1:i<b
  ·rw[aU e1,aU e1]
  ·rw[aM e1,aM e1,aM e,aM e]
theorem Fl3.res{p:VD}{nx:Nat->Value}{wr w':World}(h:Fl3 p f F s M v n wr p.n 0)(c:Fl2 p f F nx s w M)(d:FlS p)(e:Below w.heap.size w v)(A:p.n=p.xs.length)(r:XQ p.WO)(x:∀b,b<p.n->∀j,Xh (p.WO b) j=true↔(b,j)∈phE p.xs p.n)
 (g:∀q,q<wr.heap.size->q≠p.w.heap.size+1->q<p.M\/(∃i,i<p.n/\q=f i)->w'.heap[q]?=wr.heap[q]?) (B:w'.os=wr.os) (D:w'.tape=wr.tape) (C:w'.output=wr.output) (P:wr.heap.size<=w'.heap.size):FlR p.w w' p.n p.Kw p.xs p.Gi p.Go f p.go F M (Vq p.xs M p.WO p.n 0):=by
 have S:=c.low.size;have I:=d.a1;have J:=d.a3;have K:=d.a5;have L:=d.a9;have N:=c.sz;have Q:=e.size;have R:=h.size;have t:=fun q u l m=>(g q oM l (bC u)).trans ((h.fr q oM m).trans (e.block q oM))
 refine⟨⟨B.trans (h.os.trans (e.os.trans c.low.os)),D.trans (h.tape.trans (e.tape.trans c.low.tape)),C.trans (h.output.trans (e.output.trans c.low.output)),oM,fun q hq=>(t q oM oM (fun i a k=>by have:=d.a4 i a;omega)).trans (c.low.block q hq)⟩,⟨c.inn.row.of_block (t p.Gi oM oM (fun i a k=>(d.d4 i a).1 k.symm)),fun i a=>?_,c.inn.inj,c.inn.out⟩,⟨h.out.row.of_block (g p.Go oM oM (bC oM)),fun i a=>(h.out.set i a).of_block (g _ (oN (d.a4 i a)) (oN (d.a4 i a)) (bC (oN (d.a4 i a)))),h.out.inj,h.out.out⟩,c.wi,pW c.wi r _ _,⟨oM,oM⟩,fun i a=>⟨oN (c.igM i a),oN (d.a4 i a)⟩,?_⟩
 ·have O:=c.igM i a
  have z:=(c.inn.set i a).lt;refine(c.inn.set i a).of_block ((g (f i) oM oM (aZ ⟨i,a,rfl⟩)).trans ((h.fr (f i) oM (fun E y k=>by have:=d.a4 E y;omega)).trans (e.block _ z)))
 ·obtain⟨G,l,m⟩:=c.ord
  refine⟨I0 p.xs p.WO,T0 p.xs,p.WO,G,fun i a=>rt a,fun i a=>rm a,fun b o j=>by rw[<-A];exact x b oM j,fun b o=>l b oM,m,fun b o H=>?_⟩;unfold Vq;rw[aU o];exact pz c.wi H _ (r b)
theorem JZ{F:Fence}{n:Nat}{P:Program}{fn:Func}{tmps:Array Value}{R:Ending->World->Prop}{B:Nat}:∀(b:List Nat)(W:World),ZJ W B b->(∀a:World,a.os=W.os->a.tape=W.tape->a.output=W.output->W.heap.size<=a.heap.size->(∀k,k ∉ b->a.heap[k]?=W.heap[k]?)->∃v,(results fn tmps).run P a=.ok v a/\R (.returned v) a)->LeavesInM F n P fn tmps R (mks b) .returning W
 | [],W,_,h=>h W rfl rfl rfl (aA _) (fun _ _=>rfl)
 | D::b,W,hm,h=>by
  refine⟨sP,bC ⟨D,_,rfl,run_takeDeferred (hm.obj D cI),?_⟩⟩;have c:=grownBy_putObj' W D (.deferred none);refine JZ (B:=B) b _ ⟨(fL.1 hm.nd).2,fun k d=>hm.ge k (cN _ d),fun k d=>?_⟩ (fun a g i j l m=>h a (g.trans c.os) (i.trans c.tape) (j.trans c.output) (aJ c.size l) (fun q hq=>?_))
  ·exact(World.putObj_heap_other (fun f=>(fL.1 hm.nd).1 (by rw[<-f];exact d))).trans (hm.obj k (cN _ d))
  ·have e:q≠D/\q ∉ b:=by simpa using hq
   exact(m q e.2).trans (World.putObj_heap_other e.1)
def phL(a:List Xe)(b:Nat):List Int:=match a[b]? with
 | none=>[]
 | some x=>x.ps.map Ph.dst
def rtL(a:List Xe)(b:Nat):List Int:=match a[b]? with
 | none=>[]
 | some x=>rdT x.te
def Tu(a:List Xe)(b:Nat):List Int:=match a[b]? with
 | none=>[]
 | some x=>Z2 x
def rdL(a:List Xe)(b:Nat):List (List Int):=match a[b]? with
 | none=>[]
 | some x=>Jv x
theorem jc(a:List Xe)(b v:Nat):Yo a b v=hasI (phL a b) (v:Int):=by
 unfold Yo phL;cases a[b]?<;>rfl
structure FcB(W:World)(base:Nat)(xs:List Xe)(b:Nat)(a0:Option Addr)(n0:Nat)(a1:Option Addr)(n1:Nat)(a2:Option Addr)(n2:Nat)(a3:Option Addr)(n3:Nat)(a4:Option Addr)(n4:Nat)(a5:Option Addr)(n5:Nat)(c0 c1 c2 c3 c4 c5:Nat):Prop where
 t:n0=(X8 xs b).length/\Xf W 0 base a0 (Xi (X8 xs b))
 p:n1=(phL xs b).length/\Xf W 0 base a1 (phL xs b)
 e:n2=(XP xs b).length/\Xf W 0 base a2 (XP xs b)
 r:n3=(rdL xs b).length/\TA W (fun q=>q<base) a3 (rdL xs b)
 d:n4=(Tu xs b).length/\Xf W 0 base a4 (Tu xs b)
 u:n5=(rtL xs b).length/\Xf W 0 base a5 (rtL xs b)
 bare:∀v:Nat,Calls prog 51 #[.agg #[.slice a0 n0 c0,.slice a1 n1 c1,.slice a2 n2 c2,.slice a3 n3 c3,.slice a4 n4 c4,.slice a5 n5 c5],.int .i64 (v:Int)] W fun e w'=>e=.returned (.int .i64 (barB xs b v:Nat))/\Below W.heap.size W w'
theorem YQ.row(t:Jy n x){of:Nat}(X:YQ w (some ⟨m,of,none⟩) x)(k:Below w.heap.size w v){b:Nat}(a:b<x.length) :
 ∃f y g z h A i K j B l C c0 c1 c2 c3 c4 c5,m<w.heap.size/\v.cell? ⟨m,of+b*6,none⟩=some (.slice f y c0)/\v.cell? ⟨m,of+b*6+1,none⟩=some (.slice g z c1)/\v.cell? ⟨m,of+b*6+2,none⟩=some (.slice h A c2)/\v.cell? ⟨m,of+b*6+3,none⟩=some (.slice i K c3)/\v.cell? ⟨m,of+b*6+4,none⟩=some (.slice j B c4)/\v.cell? ⟨m,of+b*6+5,none⟩=some (.slice l C c5)/\y<=2/\z<=4000/\A<=8000000/\B<=4000/\C<=1/\FcB v w.heap.size x b f y g z h A i K j B l C c0 c1 c2 c3 c4 c5:=by
 obtain⟨ap,aq,us,o,D,af,c⟩:=X b a;injection o with o;injection o with e1 e2;subst e1 e2;have d:=fun u r=>oB k (af u r) D
 have ad:=c.keep (fun al hq _=>k.block al hq) k.size;obtain⟨f,c0,W,i0⟩:=c.e0;obtain⟨g,c1,e1,i1⟩:=c.e1;obtain⟨h,c2,e2,i2⟩:=c.e2;obtain⟨i,c3,e3,i3⟩:=c.e3;obtain⟨j,c4,e4,i4⟩:=c.e4;obtain⟨l,c5,e5,i5⟩:=c.e5;have L:=d 0 vY;have M:=d 1 vY;have N:=d 2 vY;have O:=d 3 vY;have P:=d 4 vY;have Q:=d 5 vY;rw[W]at L;rw[e1]at M;rw[e2]at N;rw[e3]at O;rw[e4]at P;rw[e5]at Q;have s:=t.lens x[b] (aH a);have J:x[b].te.tg=Xi (X8 x b):=by rw[WM t.okf a,VS a]
 have F:(XP x b).length<=8000000:=by
  unfold XP;rw[aC a];have h1:=V8 t ((b:Nat):Int) x[b].te.tg;have h2:=KJ x[b].te;simp only;omega
 have Z:(rdT x[b].te).length<=1:=by unfold rdT;split<;>simp
 have G:phL x b=x[b].ps.map Ph.dst:=by unfold phL;rw[aC a]
 have I:rtL x b=rdT x[b].te:=by unfold rtL;rw[aC a]
 have E:Tu x b=Z2 x[b]:=by unfold Tu;rw[aC a]
 have H:rdL x b=Jv x[b]:=by unfold rdL;rw[aC a]
 have aa:∀e:Nat,barB x b e=bareM x[b] (XP x b) (e:Int):=fun e=>by unfold barB;rw[aC a]
 refine⟨f,_,g,_,h,_,i,_,j,_,l,_,c0,c1,c2,c3,c4,c5,D,L,M,N,O,P,Q,KJ _,by rw[bK];exact s.2,F,by unfold Z2;rw[bK];exact s.1,Z,⟨⟨by rw[J];simp[Xi],?_⟩,⟨by rw[G],?_⟩,⟨rfl,i2.at_.keep k⟩,⟨by rw[H],?_⟩,⟨by rw[E],?_⟩,⟨by rw[I],?_⟩,fun e=>?_⟩⟩
 ·rw[<-J];exact i0.at_.keep k
 ·rw[G];exact i1.at_.keep k
 ·rw[H]
  intro aj hi;obtain⟨S,o',V,p,R,U,ab,Y⟩:=i3 aj hi;exact⟨S,o',V,⟨p.2,aX p.2 k.size⟩,R,U,oB k ab p.2,fun u r=>by
   obtain⟨T,o2,e2,q,ac⟩:=Y u r;exact⟨T,o2,e2,⟨q.2,aX q.2 k.size⟩,oB k ac q.2⟩⟩
 ·rw[E];exact i4.at_.keep k
 ·rw[I];exact i5.at_.keep k
 ·rw[aa]
  exact oI x[b] (XP x b) us (e:Int) v (Xa ad) (Xa s.1) (Xa F) _ _ _ _ _ _ e2 e3 e4 e5
def Un(a:Nat->Bool)(n:Nat):Nat:=(List.range n).countP a
theorem pY(a:Nat->Bool)(n:Nat):Un a n<=n:=aJ mW sP
theorem mq(a:Nat->Bool)(n:Nat):Un a (n+1)=Un a n+(if a n then 1 else 0):=by
 unfold Un;rw[dN,lN];simp[List.countP_cons]
theorem lh{a lv':Nat->Bool}(h:∀b,b<n->a b=lv' b):Un a n=Un lv' n:=by
 unfold Un;exact kK (fun x c=>by rw[h x (bE.1 c)])
theorem nZ{a:Nat->Bool}{b:Nat}(c:a b=false):∀n,b<n->Un (fun z=>if z=b then true else a z) n=Un a n+1
 | 0,h=>absurd h oM
 | n+1,h=>by
  rw[mq,mq];by_cases e:b=n
  ·subst e
   rw[lh (lv':=a) (fun z d=>by simp[show z≠b by omega])];simp[c]
  ·rw[nZ c n oM]
   have:n≠b:=oM;simp only[this,fD];omega
theorem xr{a:Nat->Bool}{b:Nat}(c:b<n)(h:a b=true):0<Un a n:=by
 unfold Un;exact nC.2 ⟨b,bE.2 c,h⟩
structure BhI(xs:List Xe)(v n:Nat)(lv0 lv:Nat->Bool)(b:Nat)(gr:Bool):Prop where
 snd:∀z,z<n->lv z=true->Wh xs v z
 here:∀z,z<n->barB xs z v=1->lv z=true
 no:gr=false->(∀z,z<n->lv z=lv0 z)/\∀z,z<b->barB xs z v=0->∀t∈X8 xs z,lv t=true->Yo xs t v=false->lv z=true
 yes:gr=true->Un lv0 n<Un lv n/\0<Un lv0 n
theorem BhI.start{a:Nat->Bool}(b:∀z,z<m->a z=true->Wh x n z)(c:∀z,z<m->barB x z n=1->a z=true):BhI x n m a a 0 false :=
 ⟨b,c,fun _=>⟨fun _ _=>rfl,fun z d=>absurd d oM⟩,fun h=>by cases h⟩
theorem BhI.set{b:Nat}{i c:Nat->Bool}(h:BhI x n m i c b r)(s:m=x.length)(o:b<m)(q:k∈X8 x b)(g:k<m)(j:barB x b n=0)(p:c b=false)(f:c k=true)(l:Yo x k n=false):BhI x n m i (fun z=>if z=b then true else c z) b true:=by
 refine⟨fun z d a=>?_,fun z d a=>?_,fun e=>(by cases e),fun _=>?_⟩
 ·by_cases e:z=b
  ·subst e
   exact Wh.step oM j q l (h.snd k g f)
  ·simp only[e,fD]at a
   exact h.snd z d a
 ·by_cases e:z=b
  ·simp[e]
  ·simp only[e,fD]
   exact h.here z d a
 ·rw[nZ p m o]
  cases hg:r with
  | false =>
   have e:=lh (h.no hg).1;rw[e];refine⟨oM,?_⟩;rw[<-e];exact xr g f
  | true =>
   have:=h.yes hg;omega
theorem BhI.next{b:Nat}{c a:Nat->Bool}(h:BhI x n m c a b r)(d:r=false->barB x b n=0->∀t∈X8 x b,a t=true->Yo x t n=false->a b=true):BhI x n m c a (b+1) r :=
 ⟨h.snd,h.here,fun e=>⟨(h.no e).1,fun z f=>by
  by_cases e2:z=b
  ·subst e2;exact d e
  ·exact(h.no e).2 z oM⟩,h.yes⟩
theorem BhI.done{e a:Nat->Bool}(h:BhI x n m e a m false)(d:m=x.length):∀b,b<m->(a b=true↔Wh x n b):=by
 subst d;exact fun b c=>vF h.snd h.here (h.no rfl).2 c
section
structure BhW(w wr:World)(n:Nat)(lv op:Nat->Bool):Prop where
 low:Below w.heap.size w wr
 r1:wr.rowIs w.heap.size 4 n (fun b=>.bool (lv b))
 r2:wr.rowIs (w.heap.size+1) 4 n (fun b=>.bool (op b))
 sz:w.heap.size+2<=wr.heap.size
section
variable {w wr wr' : World} {n : Nat} {lv op : Nat -> Bool}
theorem BhW.below(h:BhW w wr n lv op)(k:Below wr.heap.size wr wr'):BhW w wr' n lv op :=
 ⟨Xg h.low k,h.r1.of_block (k.block _ h.r1.lt),h.r2.of_block (k.block _ h.r2.lt),aJ h.sz k.size⟩
theorem BhW.congr{a b:Nat->Bool}(h:BhW w wr n lv op)(e1:∀z,z<n->lv z=a z)(e2:∀z,z<n->op z=b z):BhW w wr n a b:=⟨h.low,UC (C:=Value.bool) h.r1 e1,UC (C:=Value.bool) h.r2 e2,h.sz⟩
theorem BhW.set1(h:BhW w wr n lv op)(b:Nat)(q:Bool):BhW w (wr.setCell ⟨w.heap.size,b,none⟩ (.bool q)) n (fun z=>if z=b then q else lv z) op :=
 ⟨h.low.setCell (aA _) _,TS (C:=Value.bool) h.r1 b q,h.r2.setOther (by show w.heap.size+1≠w.heap.size;omega) _,by rw[Xd];exact h.sz⟩
theorem BhW.set2(h:BhW w wr n lv op)(b:Nat)(q:Bool):BhW w (wr.setCell ⟨w.heap.size+1,b,none⟩ (.bool q)) n lv (fun z=>if z=b then q else op z) :=
 ⟨h.low.setCell (by show w.heap.size<=w.heap.size+1;omega) _,h.r1.setOther (by show w.heap.size≠w.heap.size+1;omega) _,TS (C:=Value.bool) h.r2 b q,by rw[Xd];exact h.sz⟩
end
def RnI(a:List Xe)(v n k:Nat)(lv:Nat->Bool):Prop:=(∀z,z<n->lv z=true->Wh a v z)/\(∀z,z<n->barB a z v=1->lv z=true)/\(n<k+Un lv n\/(k=n/\Un lv n=0))
def BhR(w wr:World)(d:List Xe)(v n:Nat)(lv op:Nat->Bool)(c:Value)(b:Nat):Prop:=∃(g:Bool)(a:Nat->Bool),c=.bool g/\BhW w wr n a op/\BhI d v n lv a b g
def BhJ(w wr:World)(c:List Xe)(v n:Nat)(lv op:Nat->Bool)(d:Value)(b j:Nat):Prop:=∃(g:Bool)(a:Nat->Bool),d=.bool g/\BhW w wr n a op/\BhI c v n lv a b g/\(a b=false->∀r,r<j->∀t,(X8 c b)[r]?=some t->¬(a t=true/\Yo c t v=false))
theorem tR(bd v n bi bf of:Nat)(a:List Xe)(w:World)(hF:Hid (YQ w (some ⟨bf,of,none⟩) a))(q:Hid (n=a.length))(A:Hid (Jy bd a)) :
 Calls prog 52 #[.slice (some ⟨bf,of,none⟩) n bi,.int .i64 (v:Int)] w fun e w'=>∃g,e=.returned (.slice (some ⟨g,0,none⟩) n n)/\Below w.heap.size w w'/\w.heap.size<=g/\∃lv:Nat->Bool,w'.rowIs g 4 n (fun b=>.bool (lv b))/\∀b,b<n->(lv b=true↔Wh a v b):=by
 have hn:n<=1000:=oP q.out A.okf.n2
 have bx:0<n:=oP q.out A.okf.n1
 have bo:=fM (P:=prog) 81 4 (.bool false) 1 underlying81 Tryz.infoBo rfl .i64 .i64 n oM oM;have ad:=Xa (dG w (.bool false) n 4);have af:=Xa (dG (w.alloc (.cells (madeCells #[.bool false] n) 4)) (.bool false) n 4)
 go_in
 go_wp2_with fail
 have aj:Hid (BhW w ((w.alloc (.cells (madeCells #[.bool false] n) 4)).alloc (.cells (madeCells #[.bool false] n) 4)) n (fun z=>decide (z<0)&&decide (barB a z v=1)) (fun z=>decide (z<0)&&decide (barB a z v=0))):=Xa ⟨Xb (Xb (Below.refl _ _) _) _,UC (C:=Value.bool) (ad.alloc _) (fun z _=>sP),UC (C:=Value.bool) (by have:=af.out;rwa[aO]at this) (fun z _=>sP),sP⟩;clear ad af bo;generalize (w.alloc _).alloc _=w2 at *
 go_loopw [7] (fun V wr=>∃b:Nat,b<=n/\V=.int .i64 b/\Hid (BhW w wr n (fun z=>decide (z<b)&&decide (barB a z v=1)) (fun z=>decide (z<b)&&decide (barB a z v=0)))) (fun V _=>n-(intOf V).toNat)
 case atStart=>exact⟨0,aN _,rfl,aj⟩
 case round =>
  clear aj;obtain⟨b,hb,rfl,c⟩:=hrel;by_cases y:b<n
  ·obtain⟨a0,N,a1,n1,a2,n2,a3,n3,a4,n4,a5,n5,c0,c1,c2,c3,c4,c5,aq,x0,x1,x2,x3,x4,x5,_,_,_,_,_,I⟩:=YQ.row A hF c.low (show b<a.length by have:=q.out;omega)
   have aa:=Xa (I.bare v);clear I
   go_wp2_with fail
   refine aa.mono ?_;rintro e w3 ⟨rfl,ap⟩;have D:=Xa (c.below ap);have X:=D.r1.cell y;have Y:=D.r2.cell y;have z1:=D.r1.frozen b;have z2:=D.r2.frozen b;clear ap aa x0 x1 x2 x3 x4 x5;obtain⟨q1,bp⟩:∃Z:Bool,(((barB a b v:Nat):Int)==1)=Z:=⟨_,rfl⟩;obtain⟨q2,bq⟩:∃Z:Bool,(((barB a b v:Nat):Int)==0)=Z:=⟨_,rfl⟩;have HQ:Hid (q1=decide (barB a b v=1)/\q2=decide (barB a b v=0)):=Xa (by
    rw[<-bp,<-bq];constructor
    ·rw[eQ,iA,bD];omega
    ·rw[eQ,iA,bD];omega)
   have b0:∀az,(w3.setCell ⟨w.heap.size,b,none⟩ az).cell? ⟨w.heap.size+1,b,none⟩=w3.cell? ⟨w.heap.size+1,b,none⟩:=fun az=>bZ (Below.heap_setCell _ _ _ _ (by show w.heap.size+1≠w.heap.size;omega))
   go_wp2
   exact⟨⟨b+1,oM,gM,Xa (((D.set1 b q1).set2 b q2).congr (fun z d=>by
    by_cases e:z=b
    ·subst e;simp[HQ.1]
    ·have:z<b+1↔z<b:=oM
     simp[e,this]) (fun z d=>by
    by_cases e:z=b
    ·subst e;simp[HQ.2]
    ·have:z<b+1↔z<b:=oM
     simp[e,this]))⟩,by simp[intOf];omega⟩
  ·have H:n=b:=oM
   have C:Hid (BhW w wr n (fun z=>decide (barB a z v=1)) (fun z=>decide (barB a z v=0))):=Xa (c.congr (fun z d=>by simp[<-H,d]) (fun z d=>by simp[<-H,d]));subst H;clear c;have u:Hid (RnI a v n n (fun z=>decide (barB a z v=1))):=Xa ⟨fun z d h=>Wh.here (oN q.out) (fV h),fun z _ h=>eB h,oM⟩
   go_wp2_with fail
   generalize (fun z=>decide (barB a z v=1))=bs at *;generalize m:(fun z=>decide (barB a z v=0))=i at *;have ab:Hid (∀z,i z=decide (barB a z v=0)):=Xa (fun z=>by rw[<-m]);clear m;generalize wr=w5 at *
   go_loopw [9] (fun r wr=>∃(x:Nat)(lv:Nat->Bool),x<=n/\r=.int .i64 x/\Hid (BhW w wr n lv i)/\Hid (RnI a v n x lv)) (fun r _=>(intOf r).toNat)
   case atStart=>exact⟨n,bs,aA _,rfl,C,u⟩
   case round =>
    clear C u;obtain⟨x,lv,hk,rfl,C,u⟩:=hrel;have bv:0<x:=by
     have E:=u.2.2;have F:=pY lv n;omega
    have s:Hid (BhR w wr a v n lv i (.bool false) 0):=Xa ⟨false,lv,rfl,C,BhI.start u.1 u.2.1⟩;clear C
    go_wp2_with fail
    generalize wr=w6 at *
    go_loopw [10,11] (fun S R wr=>∃b:Nat,b<=n/\R=.int .i64 b/\Hid (BhR w wr a v n lv i S b)) (fun _ R _=>n-(intOf R).toNat)
    case atStart=>exact⟨0,aN _,rfl,s⟩
    case round =>
     clear s;obtain⟨b,hb,rfl,s⟩:=hrel;by_cases y:b<n
     ·have ar:b<a.length:=oN q.out
      obtain⟨a0,N,a1,n1,a2,n2,a3,n3,a4,n4,a5,n5,c0,c1,c2,c3,c4,c5,aq,y0,_,_,_,_,_,bz,_,_,_,_,I⟩:=YQ.row A hF (Below.refl w.heap.size w) ar;have Q:=Xa I.t;clear I;have B:Hid (BhJ w wr a v n lv i u10 b 0):=Xa (by
       obtain⟨g,f,e,E,F⟩:=s.out;exact⟨g,f,e,E,F,fun _ r J=>absurd J oM⟩)
      clear s
      go_wp2_with fail
      generalize wr=w7 at *
      go_loopw [10,12] (fun S W wr=>∃j:Nat,j<=N/\W=.int .i64 j/\Hid (BhJ w wr a v n lv i S b j)) (fun _ W _=>N-(intOf W).toNat)
      case atStart=>exact⟨0,aN _,rfl,B⟩
      case round =>
       clear B;obtain⟨j,hj,rfl,B⟩:=hrel;obtain⟨g,f,rfl,o,G,hJ⟩:=B.out;have c:=Xa o;have l:=Xa G;have P:=Xa hJ;have k0:=oB o.low y0 aq;have X:=o.r1.cell y;have Y:=o.r2.cell y;clear B o G hJ;by_cases m:barB a b v=0
       ·have p:i b=true:=by rw[ab.out];exact eB m
        rw[p]at Y;cases hlb:f b with
        | true =>
         rw[hlb]at X;have k:Hid (BhR w wr a v n lv i (.bool g) (b+1)):=Xa ⟨g,f,rfl,c,l.next (fun _ _ _ _ _ _=>hlb)⟩;clear hlb p
         go_wp2
         exact⟨⟨b+1,oM,gM,k⟩,by simp[intOf];omega⟩
        | false =>
         rw[hlb]at X;by_cases bn:j<N
         ·have U:j<(X8 a b).length:=by rw[<-Q.1];exact bn
          have bm:j<(Xi (X8 a b)).length:=by simp[Xi];exact U
          obtain⟨bt,ot,rfl,⟨_,bl⟩,K⟩:=Q.2 j bm;have al:(Xi (X8 a b))[j]=(((X8 a b)[j]:Nat):Int):=by simp[Xi]
          rw[al]at K;have M:=aH U;have ay:=A.okf.tg _ ar _ M;have O:=Xa (aC U);obtain⟨t,L⟩:∃t,t=(X8 a b)[j]:=⟨_,rfl⟩;rw[<-L]at K M ay O;have bc:=Xa M;have ax:t<n:=oN q.out
          have kt:=oB c.low K bl;have kl:=c.r1.cell ax;obtain⟨d0,m0,d1,m1,d2,m2,d3,m3,d4,m4,d5,m5,f0,f1,f2,f3,f4,f5,_,_,t1,_,_,_,_,_,bw,_,_,_,T⟩:=YQ.row A hF c.low ay;have a6:=Xa (YF d1 m1 f1 (v:Int) (phL a t) 0 w.heap.size wr (Xa T.p.2) (Xa T.p.1) oM);have ac:=Xa (jc a t v);clear K M L al T;cases hlt':f t with
          | false =>
           rw[hlt']at kl;have k:Hid (BhJ w wr a v n lv i (.bool g) b (j+1)):=Xa ⟨g,f,rfl,c,l,fun h r J z d=>by
            by_cases e:r=j
            ·subst e
             rw[O.out]at d;injection d with d;subst d;rw[hlt'];exact fun h=>by cases h.1
            ·exact P h r oM z d⟩
           clear hlt' hlb p
           go_wp2
           exact⟨⟨j+1,oM,gM,k⟩,by simp[intOf];omega⟩
          | true =>
           rw[hlt']at kl;have a8:=Xa hlt';have a7:=Xa hlb;have a9:=Xa m;have z1:=c.r1.frozen b;clear hlt' hlb p m
           go_wp2_with fail
           refine a6.mono ?_;rintro e w8 ⟨rfl,br⟩;subst br;cases hph:hasI (phL a t) (v:Int)with
           | true =>
            have k:Hid (BhJ w w8 a v n lv i (.bool g) b (j+1)):=Xa ⟨g,f,rfl,c,l,fun h r J z d=>by
             by_cases e:r=j
             ·subst e
              rw[O.out]at d;injection d with d;subst d;rw[ac.out,hph];exact fun h=>by cases h.2
             ·exact P h r oM z d⟩
            clear hph
            go_wp2_with fail
            refine⟨?_,by simp[intOf];omega⟩
            first
             | exact⟨j+1,oM,gM,k⟩
             | ((repeat apply gP);refine⟨?_,rfl⟩;exact⟨j+1,oM,gM,k⟩)
           | false =>
            have k:Hid (BhJ w (w8.setCell ⟨w.heap.size,b,none⟩ (.bool true)) a v n lv i (.bool true) b (j+1)):=Xa ⟨true,_,rfl,c.set1 b true,l.set q y bc ax a9 a7 a8 (by rw[ac.out];exact hph),fun h=>by simp at h⟩;clear hph
            go_wp2_with fail
            refine⟨?_,by simp[intOf];omega⟩
            first
             | exact⟨j+1,oM,gM,k⟩
             | ((repeat apply gP);refine⟨?_,rfl⟩;exact⟨j+1,oM,gM,k⟩)
         ·have k:Hid (BhR w wr a v n lv i (.bool g) (b+1)):=Xa ⟨g,f,rfl,c,l.next (fun _ _ t L E F=>by
           obtain⟨r,J,e⟩:=bR L;exact absurd ⟨E,F⟩ (P hlb r (oN Q.1) t (by rw[aC J,e])))⟩
          clear hlb p
          go_wp2
          exact⟨⟨b+1,oM,gM,k⟩,by simp[intOf];omega⟩
       ·have p:i b=false:=by rw[ab.out];exact dJ m
        rw[p]at Y;have k:Hid (BhR w wr a v n lv i (.bool g) (b+1)):=Xa ⟨g,f,rfl,c,l.next (fun _ h=>absurd h m)⟩;clear p m
        go_wp2
        exact⟨⟨b+1,oM,gM,k⟩,by simp[intOf];omega⟩
     ·have H:b=n:=oM
      subst H;obtain⟨g,f,rfl,o,G⟩:=s.out;have c:=Xa o;have l:=Xa G;clear s o G;cases g with
      | true =>
       have ba:Hid (RnI a v b (x-1) f):=Xa ⟨l.snd,l.here,by
        have E:=l.yes rfl;have F:=u.2.2;have h3:=pY f b;omega⟩
       go_wp2
       exact⟨⟨x-1,f,oM,gM,c,ba⟩,by simp[intOf];omega⟩
      | false =>
       go_wp2
       go_ret
       exact⟨w.heap.size,rfl,c.low,aA _,f,c.r1,l.done q⟩
end
end Go.Proofs.YtghnlncgiihhgaaGreatDoor
