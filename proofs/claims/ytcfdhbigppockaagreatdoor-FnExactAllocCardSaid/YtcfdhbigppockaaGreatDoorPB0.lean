import Derived.Test.YtcfdhbigppockaaGreatDoorMB1
import Derived.Test.YtcfdhbigppockaaGreatDoorML3a
import Derived.Deep.CutRange
namespace Go.Proofs.YtcfdhbigppockaaGreatDoor
set_option maxHeartbeats 4000000
set_option maxRecDepth 1000000
open Go.RowKit Go.Proofs.Tryz Go.Shelf
variable{n m k B g i j:Nat}{w v:Ub}{a A:Uj}{p:Uy}{s:Wa}{x:Wi}{f F:Wk}{q:Xe}
section
structure ON(w:Ub)(base ns:Nat)(G m:Wk)(P:Nat->Tj)(U:Nat->Vu):Prop where
 lt:∀s,s<ns->G s<base
 ne:∀s s',s<ns->s' < ns->s≠s'->G s≠G s'
 row:∀s,s<ns->w.rowIs (G s) 80 (m s) (U s)
 own:∀s i,s<ns->i<m s->w.ownsRow base 2 1 (U s i) (P s i).length ((P s i).map (Value.int .i64))
 dj:∀s i s' j,s<ns->s' < ns->i<m s->j<m s'->(s,i)≠(s',j)->(U s i).ownBlock=none\/(U s i).ownBlock≠(U s' j).ownBlock
section
variable {w w' w1: Ub} {base ns: Nat} {G m: Nat -> Nat} {P P': Nat -> Nat -> Wc} {U: Nat -> Nat -> Uj}
theorem ON.below(h:ON w base ns G m P U)(k:Below w.1.size w w'):ON w' base ns G m P U:=by
 refine⟨h.1,h.2,λs a=>(h.3 s a).of_block (k.5 _ (h.3 s a).lt),λs i a d=>?_,h.5⟩;refine(h.4 s i a d).kept (row:=none) ⟨k.1,k.2,k.3,k.4,λb c _=>k.5 b c⟩ ?_;cases (U s i).ownBlock<;>simp
theorem ON.congr(h:ON w base ns G m P U)(e:∀s i,s<ns->i<m s->P s i=P' s i):ON w base ns G m P' U :=
 ⟨h.1,h.2,h.3,λs i b a=>by rw[<-e s i b a];exact h.4 s i b a,h.5⟩
theorem ON.step(h:ON w base ns G m P U){s t:Nat}(f:s<ns)(g:t<m s)(y:Int)(c:Uj)(u:w.grownBy w1 (U s t).ownBlock)(z:w1.ownsRow base 2 1 c ((P s t).length+1) ((P s t).map (Value.int .i64)++[.int .i64 y]))(r:c.ownBlock=(U s t).ownBlock\/c.ownBlock=some w.1.size):
 ON (w1.setCell ⟨G s,t,none⟩ c) base ns G m (λa i=>if (a,i)=(s,t)then P s t++[y]else P a i) (λa i=>if (a,i)=(s,t)then c else U a i):=by
 have x:=λa b=>(h.3 a b).of_block (u.5 _ (h.3 a b).lt λe=>by have:=((h.4 s t f g).lt _ e.symm).1;have:=h.1 a b;omega)
 have fresh:∀a q,a < ns->q<m a->(U a q).ownBlock=none\/(U a q).ownBlock≠some w.1.size:=λa q b hq=>by
  by_cases e:(U a q).ownBlock=some w.1.size;·have:=((h.4 a q b hq).lt _ e).2;omega
  exact aZ e
 refine⟨h.1,h.2,λa b=>?_,λa i b d=>?_,λs1 i s2 j l n d p v=>?_⟩
 .by_cases e:a=s
  .subst e;exact((x a b).set t c).congr (λi _=>by by_cases e2:i=t<;>simp[e2])
  exact((x a b).setOther (a:=(Hk (G s) t)) (λe2=>h.2 a s b f e e2) c).congr λi _=>by simp[e]
 .refine ownsRow_setCell_below ?_ (h.1 s f) _;by_cases e:(a,i)=(s,t)
  .simp only[e,gG,aQ,bA,bO,bG,eH,fZ];exact z
  simp only[e,fD];exact(h.4 a i b d).kept u (h.5 a i s t b f d g e)
 by_cases e1:(s1,i)=(s,t)
 .have e2:¬(s2,j)=(s,t):=λe=>v<|e1.trans e.symm;simp only[e1,gG,e2,fD];obtain q|q:=r
  .rw[q];exact h.5 s t s2 j f n g p λe=>e2 e.symm
  right
  rw[q];intro o;obtain k|k:=fresh s2 j n p;·rw[k]at o;cases o
  exact k o.symm
 simp only[e1,fD];by_cases e2:(s2,j)=(s,t)
 .simp only[e2,gG];obtain q|q:=r;·rw[q];exact h.5 s1 i s t l f d g e1
  rw[q];exact fresh s1 i l d
 simp only[e2,fD];exact h.5 s1 i s2 j l n d p v
theorem ON.other(h:ON w base ns G m P U){b T q:Nat}{f:Vu}(l:w.rowIs b T q f)(k:T≠2){s i:Nat}(o:s<ns)(n:i<m s):(U s i).ownBlock≠some b:=λe=>by
 let⟨c,d,_⟩:=l;rcases(h.4 s i o n).2 with⟨e1,_⟩|⟨g,cap,cur,e1,_,a,_⟩;·rw[e1]at e;cases e
 rw[e1]at e;injection e with e;have e:g=b:=e;subst e;rw[show w.1[g]?=_ from d]at a;injection a with a;injection a with _ j;exact k j
theorem ON.ints(h:ON w base ns G m P U){s:Nat}(a:s<ns){L:Nat}(e:L<=G s):XR w L w.1.size (some ⟨G s,0,none⟩) ((List.range<|m s).map (P s)):=λi b=>by
 simp only[bK,gI]at b;let⟨d,c,f,ha⟩:=Xk<|h.4 s i a b;refine⟨G s,0,rfl,⟨e,(h.3 s a).lt⟩,d,c,?_,?_⟩
 .simp only[cM,dW,aV];rw[(h.3 s a).cell b,f]
 simp only[cM,dW];exact ha.mono (oN<|h.1 s a) aA
end
structure OA(w3 wr:Ub)(ns:Nat)(G m:Wk)(P:Nat->Tj):Prop where
 os:wr.4=w3.4
 tape:wr.2=w3.2
 output:wr.5=w3.5
 size:w3.1.size<=wr.1.size
 fr:∀q,q<w3.1.size->(∀s,s<ns->q≠G s)->wr.1[q]?=w3.1[q]?
 db:∃U,ON wr w3.1.size ns G m P U
section
variable {w3 wr wr' w8: Ub} {ns: Nat} {G m: Nat -> Nat} {P P': Nat -> Nat -> Wc}
theorem OA.below(h:OA w3 wr ns G m P)(k:Below wr.1.size wr wr'):OA w3 wr' ns G m P:=by
 let⟨U,c⟩:=h.6;have:=h.4;exact⟨k.1.trans h.1,k.2.trans h.2,k.3.trans h.3,aJ h.4 k.4,λq a b=>(k.5 q oM).trans (h.5 q a b),U,c.below k⟩
theorem OA.congr(h:OA w3 wr ns G m P)(e:∀s i,s<ns->i<m s->P s i=P' s i):OA w3 wr ns G m P':=by
 let⟨U,a⟩:=h.6;exact⟨h.1,h.2,h.3,h.4,h.5,U,a.congr e⟩
theorem OA.cell(h:OA w3 wr ns G m P){b o:Nat}{v:Uj}(c:∀s,s<ns->b≠G s)(a:w3.cell? (Hk b o)=some v):wr.cell? (Hk b o)=some v:=(Xc<|h.5 b (aI w3 _ a) c).trans a
theorem OA.push{U:Nat->Vu}{s t:Nat}{j:Obj}{x:Int}{b:Uj}(h:OA w3 wr ns G m P)(e:ON wr w3.1.size ns G m P U)(d:s<ns)(n:t<m s)(c:(wr.drew.alloc j).grownBy w8 (U s t).ownBlock)(D:w8.ownsRow w3.1.size 2 1 b ((P s t).length+1) ((P s t).map (Value.int .i64)++[.int .i64 x]))(C:b.ownBlock=(U s t).ownBlock\/b.ownBlock=some (wr.1.size+1)):
 OA w3 (w8.setCell ⟨G s,t,none⟩ b) ns G m (λy v=>if (y,v)=(s,t)then P s t++[x]else P y v)/\w8.cell? ⟨G s,t,none⟩=some (U s t)/\w8.frozen? ⟨G s,t,none⟩=false/\(∀q,q<wr.1.size->q≠G s->(U s t).ownBlock≠some q->w8.1[q]?=wr.1[q]?/\(w8.setCell ⟨G s,t,none⟩ b).1[q]?=wr.1[q]?)/\wr.1.size<=(w8.setCell ⟨G s,t,none⟩ b).1.size:=by
 have H:=h.4;have F:=c.4;have B:(wr.drew.alloc j).1.size=wr.1.size+1:=aO _ _;have p:∀k,k<wr.1.size->(wr.drew.alloc j).1[k]?=wr.1[k]?:=λk r=>Below.heap_alloc wr.drew _ _ r;have A:ON (wr.drew.alloc j) w3.1.size ns G m P U:=e.below ⟨rfl,rfl,rfl,oM,p⟩;have E:=A.step d n x b c D (by rw[B];exact C);have u:∀k,k<w3.1.size->(U s t).ownBlock≠some k:=λk r l=>by have:=((e.4 s t d n).lt k l).1;omega
 have i:∀k,k<wr.1.size->(U s t).ownBlock≠some k->w8.1[k]?=wr.1[k]?:=λk a g=>(c.5 k oM λl=>g l.symm).trans (p k a);have z:=e.1 s d;have o:=i (G s) oM (u _ z);refine⟨⟨c.1.trans h.1,c.2.trans h.2,c.3.trans h.3,by rw[Xd];omega,λq a f=>?_,_,E⟩,(Xc o).trans ((e.3 s d).cell n),(bJ o).trans ((e.3 s d).frozen t),λq a f g=>⟨i q a g,(Below.heap_setCell _ _ _ _ f).trans (i q a g)⟩,by rw[Xd];omega⟩;exact(Below.heap_setCell _ _ _ _<|f s d).trans ((i q oM<|u q a).trans (h.5 q a f))
end
end
noncomputable def UU(a:List Xe)(v b i:Nat):List Int:=match a[b]? with
 |none=>[]
 |some x=>Xi<|Uq a x v b i
open Classical in
noncomputable def N2(a:List Xe)(b i v:Nat):Bool:=match a[b]? with
 |none=>false
 |some x=>Ox a x b i v<|decide (UV a v b)
theorem De:UU x 0 n m=[]:=by
 unfold UU;cases x[n]?<;>rfl
theorem um:UU x (n+1) m k=if N2 x m k n=true then UU x n m k++[(n:Int)]else UU x n m k:=by
 unfold UU N2;cases x[m]? with
 |none=>simp
 |some a=>
  simp only;unfold Uq;rw[dN,eU];by_cases h:Ox x a m k n (@decide (UV x n m) (Classical.propDecidable _))=true
  .rw[aU h];simp[h,Xi]
  rw[aM h];simp[h]
theorem qy(a:Wi)(v b i:Nat):(UU a v b i).length<=v:=by
 unfold UU;cases a[b]? with
 |none=>exact aN
 |some x=>
  simp only[Xi,bK];unfold Uq;exact aJ (fJ _ _) sP
noncomputable def pQ(a:Wi)(v b i:Nat)(s j:Nat):Wc:=if s<b\/s=b/\j<i then UU a (v+1) s j else UU a v s j
theorem E4(a:Wi)(v:Nat)(s j:Nat):pQ a v 0 0 s j=UU a v s j:=by
 unfold pQ;rw[aM oM]
theorem FC(a:k<m):pQ x n m 0 k B=UU x (n+1) k B:=by
 unfold pQ;rw[aU<|bC a]
theorem Es(a:B=k->g<m):pQ x n k m B g=pQ x n (k+1) 0 B g:=by
 unfold pQ;by_cases h:B<k+1;·rw[aU (by by_cases e:B=k;(· exact aZ ⟨e,a e⟩);(· exact bC oM)),aU<|bC h]
 rw[aM oM,aM oM]
theorem Gh(h:N2 x m k n=false)(s j:Nat):pQ x n m k s j=pQ x n m (k+1) s j:=by
 unfold pQ;by_cases e:s=m/\j=k
 .obtain⟨rfl,rfl⟩:=e;rw[aM oM,aU oM,um,h];simp
 by_cases a:s<m\/s=m/\j<k;·rw[aU a,aU oM]
 rw[aM a,aM oM]
theorem FI(h:N2 x m k n=true)(s j:Nat):(if (s,j)=(m,k)then pQ x n m k m k++[(n:Int)]else pQ x n m k s j)=pQ x n m (k+1) s j:=by
 by_cases e:(s,j)=(m,k)
 .rw[aU e];injection e with e1 e2;subst e1 e2;unfold pQ;rw[aM oM,aU oM,um,aU h]
 rw[aM e];have b:¬(s=m/\j=k):=λh=>e (by rw[h.1,h.2]);unfold pQ;by_cases a:s<m\/s=m/\j<k;·rw[aU a,aU oM]
 rw[aM a,aM oM]
theorem FG(a:Wi)(v b i s j:Nat):(pQ a v b i s j).length<=v+1:=by
 unfold pQ;split;·exact qy _ _ _ _
 have:=qy a v s j;omega
structure PC(w2 wr:Ub)(u:Uj)(b:Nat)(m:Wk)(G:Wk):Prop where
 low:Below w2.1.size w2 wr
 own:wr.ownsRow w2.1.size 77 1 u b ((List.range b).map λs=>.slice (some ⟨G s,0,none⟩) (m s) (m s))
 row:∀s,s<b->w2.1.size<=G s/\wr.rowIs (G s) 80 (m s) λ_=>.slice none 0 0
 ne:∀s s',s<b->s' < b->s≠s'->G s≠G s'
theorem PC.start(a:Ub)(m:Wk):PC a (a.alloc<|.cells #[] 77) (.slice (some ⟨a.1.size,0,none⟩) 0 0) 0 m (λ_=>0):=⟨Xb (Below.refl _ _) _,eI (base:=a.1.size) (e:=77) (size:=1) a #[] 0 sP sP rfl,λs h=>absurd h oM,λs b h=>absurd h oM⟩
theorem PC.push{wr:Ub}{u':Uj}{D:Obj}(h:PC w wr a n f F)(d:((wr.alloc<|.cells (madeCells #[.slice none 0 0] (f n)) 80).alloc D).grownBy v a.ownBlock)(A:v.ownsRow w.1.size 77 1 u' (n+1) ((List.range n).map (λs=>Value.slice (some ⟨F s,0,none⟩) (f s) (f s))++[.slice (some ⟨wr.1.size,0,none⟩) (f n) (f n)])):
 PC w v u' (n+1) f (λs=>if s=n then wr.1.size else F s):=by
 have C:=h.1.4;have x:=d.4;rw[aO,aO]at x;have z:∀q T t o,wr.rowIs q T t o->T≠77->a.ownBlock≠some q:=λq T t o i u e=>by
  let⟨c,j,_⟩:=i;obtain⟨e1,_⟩|⟨g,cap,cur,e1,_,b,_⟩:=h.2.2;·rw[e1]at e;cases e
  rw[e1]at e;injection e with e;have e:g=q:=e;subst e;rw[show wr.1[g]?=_ from j]at b;injection b with b;injection b with _ l;exact u l
 have B:=λq e=>(h.2.lt q e).2;have r:∀q,q<wr.1.size->a.ownBlock≠some q->v.1[q]?=wr.1[q]?:=λq j b=>(d.5 q (by rw[aO,aO];omega) λe=>b e.symm).trans ((Below.heap_alloc _ _ _<|by rw[aO];omega).trans (Below.heap_alloc _ _ _ j));have y:v.1[wr.1.size]?=(wr.alloc<|.cells (madeCells #[Hq] (f n)) 80).1[wr.1.size]?:=(d.5 _ (by rw[aO,aO];omega) λe=>by have:=B _ e.symm;omega).trans (Below.heap_alloc _ _ _<|by rw[aO];omega);refine⟨⟨d.1.trans h.1.1,d.2.trans h.1.2,d.3.trans h.1.3,oM,λq hq=>(r q oM λe=>by have:=(h.2.lt q e).1;omega).trans (h.1.5 q hq)⟩,?_,λs k=>?_,λs m j b l=>?_⟩
 .rw[dN,bG,eH,fZ,aU rfl,gH (g:=λs=>Hl (F s) (f s) (f s)) λs k=>by rw[aM<|oN (bE.1 k)]];exact A
 .by_cases e:s=n
  .subst e;rw[aU rfl];exact⟨C,(dG wr Hq (f s) 80).of_block y⟩
  rw[aM e];have i:=h.3 s oM;exact⟨i.1,i.2.of_block<|r _ i.2.lt (z _ _ _ _ i.2 vY)⟩
 have p:=λs k=>(h.3 s k).2.lt;by_cases e1:s=n
 .have:=p m oM;rw[aU e1,aM oM];omega
 by_cases e2:m=n
 .have:=p s oM;rw[aM e1,aU e2];omega
 rw[aM e1,aM e2];exact h.4 s m oM oM l
section
open Classical in
noncomputable def OP(xs:List Xe)(b v k:Nat):Bool:=match xs[b]? with
 |none=>false
 |some x=>JT x v (decide (UV xs v b)) k
section
variable {xs: Wi} {b v: Nat}
theorem C6:N2 xs b 0 v=(OP xs b v 0||Yo xs b v):=by
 unfold N2 OP Yo;cases h:xs[b]? with
 |none=>rfl
 |some x=>simp only[Ox,Yo,h]
theorem Dv{j:Nat}(a:j<(Tu xs b).length):N2 xs b (j+1) v=(OP xs b v (j+1)||decide ((Tu xs b)[j]=(v:Int))):=by
 have c:=a;revert a;unfold N2 OP Tu at*;cases h:xs[b]? with
 |none=>intro a;exact absurd a sP
 |some x=>
  intro a;simp only[Z2,bK]at a;simp only[Ox,Z2,cM];rw[aC a]
open Classical in
theorem E7(a:b<xs.length){q:Bool}(hq:q=true↔UV xs v b):OP xs b v (Tu xs b).length=(q||Cg (PA xs b) (v:Int)):=by
 have e:(@decide (UV xs v b) (Classical.propDecidable _))=q:=by rw[eQ,hq,bD]
 unfold OP Tu PA;rw[aC a];simp only[Z2,bK];rw[WT _ _<|aA,e,nF]
theorem Do{j:Nat}(a:j<(Tu xs b).length)(c:j<(OW xs b).length):OP xs b v j=(Cg (OW xs b)[j] (v:Int)||(OP xs b v (j+1)&&!decide ((Tu xs b)[j]=(v:Int)))):=by
 revert a c;unfold OP Tu OW;cases h:xs[b]? with
 |none=>intro a;exact absurd a sP
 |some x=>
  intro a c;simp only[Z2,bK]at a;simp only[Z2,Jv,cM];exact qe _ _ a
open Classical in
theorem ET(a:b<xs.length):OP xs b v 0=true↔Wh xs v b:=by
 unfold OP;rw[aC a];exact vk a<|by rw[bD]
theorem FE:(OW xs b).length=(Tu xs b).length:=by
 unfold OW Tu;cases xs[b]? with
 |none=>rfl
 |some x=>simp[Jv,Z2]
end
theorem DY(xs:Wi)(b:Nat):∀l∈OW xs b,l.length<=2:=λl a=>by
 unfold OW at a;cases h:xs[b]? with
 |none=>rw[h]at a;exact absurd a eA
 |some x=>
  rw[h]at a;let⟨y,_,c⟩:=aY.1 a;rw[<-c];exact oU y
structure Ob(wb wr:Ub)(gl n:Nat)(lv:Ys)(gi m:Nat)(f:Ys):Prop where
 low:Below wb.1.size wb wr
 gll:gl<wb.1.size
 lr:wr.rowIs gl 4 n λz=>.bool (lv z)
 ge:wb.1.size<=gi
 ir:wr.rowIs gi 4 m λz=>.bool (f z)
section
variable {wb wr w': Ub} {gl n gi m: Nat} {lv f f': Nat -> Bool}
theorem Ob.below(h:Ob wb wr gl n lv gi m f)(k:Below wr.1.size wr w'):Ob wb w' gl n lv gi m f:=⟨Xg h.1 k,h.2,h.3.of_block<|k.5 _ h.3.lt,h.4,h.5.of_block<|k.5 _ h.5.lt⟩
theorem Ob.congr(h:Ob wb wr gl n lv gi m f)(e:∀z,z<m->f z=f' z):Ob wb wr gl n lv gi m f':=⟨h.1,h.2,h.3,h.4,UC (C:=Value.bool) h.5 e⟩
theorem Ob.set(h:Ob wb wr gl n lv gi m f)(k:Nat)(q:Bool):Ob wb (wr.setCell ⟨gi,k,none⟩ (.bool q)) gl n lv gi m (λz=>if z=k then q else f z):=by
 have:=h.4;have:=h.2;exact⟨h.1.setCell (by show wb.1.size<=gi;omega) _,h.2,h.3.setOther (by show gl≠gi;omega) _,h.4,TS (C:=Value.bool) h.5 k q⟩
end
noncomputable def Oo(xs:Wi)(b v k z:Nat):Bool:=decide (k<z)&&N2 xs b z v
theorem Fd{xs:Wi}{b v k:Nat}{z:Nat}(a:z<k+1):Oo xs b v k z=false:=by unfold Oo;simp;omega
theorem Dy{xs:Wi}{b v j:Nat}{q:Bool}(hq:q=N2 xs b (j+1) v)(z:Nat):(if z=j+1 then q else Oo xs b v (j+1) z)=Oo xs b v j z:=by
 unfold Oo;by_cases e:z=j+1
 .subst e;rw[aU rfl,hq];simp
 rw[aM e];by_cases h:j<z;·rw[eB h,eB<|show j+1<z by omega]
 rw[dJ h,dJ<|show ¬j+1<z by omega]
theorem Em{xs:Wi}{b v:Nat}{q:Bool}(hq:q=N2 xs b 0 v)(z:Nat):(if z=0 then q else Oo xs b v 0 z)=N2 xs b z v:=by
 by_cases e:z=0;·subst e;rw[aU rfl,hq]
 rw[aM e];unfold Oo;rw[eB (show 0<z by omega),Bool.true_and]
def Gw(w w':Ub)(n V:Nat)(xs:Wi)(e:Ending):Prop:=∃(a c:Nat)(G:Wk),e=.returned (.slice (some ⟨a,0,none⟩) n c)/\Below w.1.size w w'/\w.1.size<=a/\∀s,s<n->w'.cell? ⟨a,s,none⟩=some (.slice (some ⟨G s,0,none⟩) ((Tu xs s).length+1) ((Tu xs s).length+1))/\w.1.size<=G s/\XR w' w.1.size w'.1.size (some ⟨G s,0,none⟩) ((List.range<|(Tu xs s).length+1).map (UU xs V s))
end
def Zj(k:Nat):Code->Option Code
 |.region i ops d=>if i=k then some (.region i ops d)else none
 |.seq x y=>match Zj k x with
  |some c=>some c
  |none=>Zj k y
 |.block _ c=>Zj k c
 |.scope c=>Zj k c
 |.loop c=>Zj k c
 |.cond _ x y=>match Zj k x with
  |some c=>some c
  |none=>Zj k y
 |_=>none
noncomputable def Gj:Code:=(f35.9.bind<|Zj 27).getD .skip
theorem F4(V:Nat)(d v u:Nat)(e:Wi)(lv:Ys)(G l:Wk)(h:Ub){wr:Ub}{Q:Yt}{c0 c1 c2 c3 c5 O ab a0 bo b5 ce cf ch ci cj ck cl cm cn co cp cq cr cs ct cv cw cx cz c6 c7 c9 da db dc dd df di dj dk dl:Uj}(dn ds du dw dz d0 ea eb ec ed ee ef eg ei ej ek el em en eo ep eq er es et eu ev ey ez e0 e6 e7 e8 e9 fa fb fc fe fi fj fl fn fq fr fs fx fz f0 f4 f5 f6 f7 ga P R S T U W X Y Z aa ac ad af aj al ao ap aq ar az a1 a2 a3 a4 a5 a6 a7 a8 a9 ba bb bc bd be bf bh bi bl bm bn bp bq br bt bv bx b0 b1 b3 b4 b6 b7 b8 ca cb cc cd g3 g4 g5 g6 g7 g9 hb hc hd he hf hg hh hi hj hk hl hm hn ho cg:Uj)(hQ:Hs (∀c (N:Act) t n w,Q (.panic c) (N.put (some t) n) w->Q (.panic c) N w))(hv:n<V)(hV:V<=2000)(b:g<m)(iv:i<d+1)(L:Hs (l g=d+1))(o:Hs (OA h wr m G l<|pQ e n g i))(F:Hs (wr.rowIs v 4 m λz=>.bool (lv z)))(H:Hs (wr.rowIs u 4 (d+1) λz=>.bool (N2 e g z n)))(g1:Hs (N2 e g i n=true))(gz:Hs (h.cell? ⟨B,g,none⟩=some (.slice (some ⟨G g,0,none⟩) (l g) (l g))))(M:Hs (∀s,s<m->B≠G s))(jf:B<h.1.size)(gq:Hs (h.1.size<=v))(gp:Hs (h.1.size<=u))(hN:Hs (∀(hr ht hw hx hy hz h0 h1 h2 h3 h4 h5 h6 h7 h8 h9 ia ib ic ih:Uj)(E:Ub),Hs (OA h E m G l<|pQ e n g (i+1))->Hs (E.rowIs v 4 m λz=>.bool (lv z))->Hs (E.rowIs u 4 (d+1) λz=>.bool (N2 e g z n))->Q .normal ⟨#[c0,c1,c2,c3,.slice (some ⟨B,0,none⟩) m k,c5,.int .i64 (n:Int),a,.int .i64 (g:Int),A,O,ab,a0,.int .i64 (i:Int),bo,b5,ce,cf,ch,ci,cj,ck,cl,cm,cn,co,cp,cq,cr,cs,ct,cv,cw,cx,cz,c6,c7,c9,da,db,dc,dd,df,di,dj,dk,dl,dn,ds,du,dw,dz,d0,ea,eb,ec,ed,ee,ef,eg,ei,ej,ek,el,em,en,eo,ep,eq,er,es,et,eu,ev,ey,ez,e0,e6,e7,e8,e9,fa,fb,fc,fe,fi,fj,fl,fn,fq,fr,fs,fx,fz,f0,f4,f5,f6,f7,ga,P,R,S,T,U,W,X,Y,Z,aa,ac,ad,af,aj,al,ao,ap,aq,ar,az,a1,a2,a3,a4,a5,a6,a7,a8,a9,ba,bb,bc,bd,be,bf,bh,bi,bl,bm,bn,bp,bq,br,bt,bv,bx,b0,b1,b3,b4,b6,b7,b8,ca,cb,cc,cd,hr,ht,hw,hx,hy,hz,h0,h1,h2,h3,h4,h5,h6,h7,h8,h9,ia,ib,ic,ih,cg],[]⟩ E)):
 Code.wp prog Gj Q ⟨#[c0,c1,c2,c3,.slice (some ⟨B,0,none⟩) m k,c5,.int .i64 (n:Int),a,.int .i64 (g:Int),A,O,ab,a0,.int .i64 (i:Int),bo,b5,ce,cf,ch,ci,cj,ck,cl,cm,cn,co,cp,cq,cr,cs,ct,cv,cw,cx,cz,c6,c7,c9,da,db,dc,dd,df,di,dj,dk,dl,dn,ds,du,dw,dz,d0,ea,eb,ec,ed,ee,ef,eg,ei,ej,ek,el,em,en,eo,ep,eq,er,es,et,eu,ev,ey,ez,e0,e6,e7,e8,e9,fa,fb,fc,fe,fi,fj,fl,fn,fq,fr,fs,fx,fz,f0,f4,f5,f6,f7,ga,P,R,S,T,U,W,X,Y,Z,aa,ac,ad,af,aj,al,ao,ap,aq,ar,az,a1,a2,a3,a4,a5,a6,a7,a8,a9,ba,bb,bc,bd,be,bf,bh,bi,bl,bm,bn,bp,bq,br,bt,bv,bx,b0,b1,b3,b4,b6,b7,b8,ca,cb,cc,cd,g3,g4,g5,g6,g7,g9,hb,hc,hd,he,hf,hg,hh,hi,hj,hk,hl,hm,hn,ho,cg],[]⟩ wr:=by
 conv=>arg 2;whnf
 have j0:(i:Int)<=(d:Int):=oM;have j1:(i:Int)<(d:Int)+1:=oM;have jv:(g:Int)<(m:Int):=oM;have f:i<l g:=by rw[L.o];exact iv
 obtain⟨g2,j⟩:=o.6;obtain⟨ua,uc,C,_⟩:=Xk<|j.4 g i b f;have p:=Xa j;have I:=Xa C;obtain⟨D,y⟩:∃i6,i6=(pQ e n g i g i).length:=⟨_,rfl⟩;have j2:D<=2001:=oN<|FG e n g i g i;have q:=Xa y;have g0:=Xa (by have gb:=j.4 g i b f;rw[C,<-y]at gb;exact gb);have eG:wr.cell? ⟨G g,i,none⟩=some (.slice ua D uc):=by rw[(j.3 g b).cell f,C,y]
 have r:=o.cell (λs hs=>M s hs) gz;rw[L.o]at r;have j3:=o.4;have jl:=j.1 g b;have js:G g<wr.1.size:=oM;have io:=M g b;have ir:B<wr.1.size:=aI wr _ r;have gt:=Xa<|p.other F vY b f;have gs:=Xa<|p.other H vY b f;have gv:Hs ((g2 g i).ownBlock≠some B):=Xa (λil=>by have:=((p.4 g i b f).lt _ il).1;omega);obtain⟨m0,i0,i1,i2,i3⟩:=Xq RH;clear j C y;refine Y7 (λw'=>w'.cell? ⟨B,g,none⟩=some (.slice (some ⟨G g,0,none⟩) (d+1) (d+1))) λhHeld=>?_;refine X0 0 ?_;refine X0 1 ?_;refine X0 2 ?_;refine X0 3 ?_;refine X0 4 ?_;refine X0 5 ?_;refine X0 6 ?_;refine X0 7 ?_;refine X0 8 ?_;refine X0 9 ?_;refine X0 10 ?_;refine X0 11 ?_;refine X0 12 ?_;refine X0 13 ?_;refine X0 15 ?_;refine eS (rs:=[14,16]) vZ sP ?_;refine(bQ rfl (λK hK=>?_) (bQ rfl (λK hK=>?_) dY));go_simp;refine hK _ _ kP λhHeld=>?_;clear hK
 try simp only[xX]
 refine Xs 16 λK hK=>?_;go_simp;refine hK _ _ kP λhHeld=>?_;clear hK;rotate_left;go_simp;refine hK _ _ kP λhHeld=>?_;clear hK
 try simp only[xX]
 refine Xs 14 λK hK=>?_;go_simp;refine hK _ _ kP λhHeld=>?_;clear hK
 all_goals (
  refine Xs 17 λK hK=>?_;refine d6 rfl _ _ 41 rfl h.1.size 2 m0 (.int .i64 0) 1 8 underlying41 i0 i1 i2 i3 rfl vY (.slice ua D uc) D ((pQ e n g i g i).map (Value.int .i64)) rfl ?s1 ⟨wr.1.size,0,none⟩ 1 1 [.int .i64 (n:Int)] rfl rfl ?s2 ?s3 ?s4 ?s5 ?s6 ?_
  case s1=>exact(g0.drew).alloc _
  case s2=>exact Yf _ _ _
  case s3=>intro j4 hu;simp at hu;subst hu;rfl
  case s4=>unfold maxLen;omega
  case s5=>omega
  case s6=>simp;omega
  intro v8 w8 J gf _ ge;obtain⟨g8,c8,rfl,_,_⟩:=Xm J oM;obtain⟨gd,hp,jj,x,i4⟩:=o.push (x:=(n:Int)) (s:=g) (t:=i) p b f (by rw[I.o,<-q.o];exact gf) (by rw[<-q.o];exact J) (by rw[I.o,<-q.o];simpa using ge);rw[I.o,<-q.o]at hp;have q1:=x B ir io gv;have q2:=x v F.lt (oN gq.o) gt;have q3:=x u H.lt (oN gp.o) gs;have z6:=(Xc (o:=g) q1.1).trans r;have z7:=(Xc (o:=g) q1.2).trans r;have gg:=Xa (gd.congr λs i5 _ _=>FI g1 s i5);have gh:=Xa<|F.of_block q2.2;have gr:=Xa<|H.of_block q3.2;clear J gf ge gd x i4 q1 q2 q3;refine hK _ _ z6 λhHeld=>?_;clear hK;refine X0 18 ?_;refine X0 19 ?_;refine Xs 20 λK hK=>?_;go_simp;refine hK _ _ z7 λhHeld=>?_;clear hK;refine Yq ?_;exact hN _ _ _ _ _ _ _ _ _ _ _ _ _ _ _ _ _ _ _ _ _ gg gh gr)
theorem Qe:(prog.info? 77).map (λi=>(i.8,i.3,i.4))=some (some<|.agg #[Hq],1,24):=vZ
theorem oX(a:Jy n x)(b:Nat):(Tu x b).length<=4000:=by
 unfold Tu;cases h:x[b]? with
 |none=>exact aN
 |some c=>simp only[Z2,bK];exact(a.10 c<|eN h).1
theorem qm(c:Nat)(ha:Hs (Xp w k B p x))(M:Hs (m=x.length))(hB:B<=w.1.size)(E:Hs (Jy n x)):
 Calls prog 35 #[.agg #[Hp n,.slice p m c]] w λl w'=>Gw w w' m n x l:=by
 have hn:m<=1000:=oP M.o E.1.2;have hV:=E.2;have a9:Below w.1.size w (w.alloc<|.cells #[.int .i64 (n:Int),.slice p m c] 37):=Xb (Below.refl _ _) _;have b5:=Xa<|uf n p m c x k B _ (Xa<|ha.keep (a9.mono hB)) M (oN a9.4) E;have cq:(w.alloc<|.cells #[.int .i64 (n:Int),.slice p m c] 37).cell? ⟨w.1.size,0,none⟩=some (.int .i64 (n:Int)):=by simp[go_sem]
 obtain⟨i0,eb,em,en,eo⟩:=Xq Qe
 go_in
 go_wp2_with fail
 refine b5.mono ?_;rintro l N⟨af,cf,rfl,bn,cn⟩;have dn:=Xa<|Xg a9 bn;have g0:=oB bn cq sP;have bc:=Xa cn;have eq:w.1.size<N.1.size:=aI N _ g0;clear bn a9 cq b5 cn;obtain⟨K,of,ds⟩:∃K of,af=some ⟨K,of,none⟩:=by
  obtain⟨b,es,_,l,_⟩:=bc 0<|oP M.o E.1.1;exact⟨b,es,l⟩
 subst ds;have aj:=Xa bc.at_;clear bc;go_wp2_with fail
 obtain⟨o,hm⟩:∃o:Wk,o=λs=>(Tu x s).length+1:=⟨_,rfl⟩;have bi:Hs (∀s,o s=(Tu x s).length+1):=Xa (λs=>by rw[hm]);have eu:Hs (∀s,o s<=4001):=Xa (λs=>by rw[hm];have:=oX E s;show(Tu x s).length+1<=4001;omega);clear hm;have ch:=Xa<|PC.start N o;generalize N.alloc _=w2 at*
 go_loopw [4,5] (λc6 i wr=>∃(b:Nat)(G:Wk),b<=m/\i=.int .i64 b/\Hs (PC N wr c6 b o G)) λ_ i _=>m-(intOf i).toNat
 case atStart=>exact⟨0,λ_=>0,aN,rfl,ch⟩
 obtain⟨b,G,hb,rfl,r⟩:=hrel;clear ch;by_cases Q:b<m
 .have ab:b<x.length:=oN M.o;obtain⟨a0,n0,a1,n1,a2,n2,a3,n3,a4,a,a5,n5,c0,c1,c2,c3,c4,c5,dw,_,_,_,_,x4,_,_,_,_,eg,_,P⟩:=YQ.row E aj r.1 ab;have dj:Hs (a+1=o b):=Xa (by rw[bi.o,P.d.1]);have ba:=J9 (P:=prog) 69 80 (.agg #[.slice none 0 0]) 1 24 underlying69 Qd (a+1) oM oM;rw[show((a+1:Nat):Int)=(a:Int)+1 by omega]at ba;have el:IntKind.i64.wrap ((a:Int)+1)=(a:Int)+1:=by rw[dF];omega
  have HO:=Xa r.2;have aa:K<wr.1.size:=aI wr _ x4;clear P;go_wp2_with (at_builtin;refine bT _ rfl _ _ 74 rfl N.1.size 77 i0 (.agg #[.slice none 0 0]) 1 24 underlying74 eb em en eo rfl vY _ _ _ rfl ((HO.alloc _).alloc _) ⟨wr.1.size+1,0,none⟩ 1 1 [.slice (some ⟨wr.1.size,0,none⟩) (a+1) (a+1)] rfl rfl ?c1 ?c2 ?c3 ?c4 ?c5 ?_)
  case c1=>
   have C:=Yf (wr.alloc<|.cells (madeCells #[.slice none 0 0] (a+1)) 80) (.slice (some ⟨wr.1.size,0,none⟩) (a+1) (a+1)) 77;rw[aO]at C;exact C
  case c2=>intro c6 hu;simp at hu;subst hu;rfl
  case c3=>unfold maxLen;omega
  case c4=>omega
  case c5=>simp;have:=r.1.4;omega
  intro v8 T bq bo _ du;rw[dj.o]at bq bo;have dk:=Xa<|r.push bo bq;clear bq bo du;go_wp2;exact⟨⟨b+1,_,oM,gM,dk⟩,by simp[intOf];omega⟩
 have dz:m=b:=oM;subst dz;have ef:0<m:=oP M.o E.1.1
 obtain⟨Z,cO,rfl,_,_⟩:=Xm r.2 ef;have cb:Hs (∀s,s<m->wr.cell? ⟨Z,s,none⟩=some (.slice (some ⟨G s,0,none⟩) (o s) (o s))):=Xa (λs d=>by
  exact Jj r.2 (j:=s) (by simp[d]))
 have cg:=Xa<|r.2.lt Z rfl;have ce:Hs (∀s,s<m->Z≠G s):=Xa (λs d l=>by
  obtain⟨cc,D,_⟩:=(r.3 s d).2;obtain⟨e1,_⟩|⟨g,cap,cur,e1,_,u,_⟩:=r.2.2;·cases e1
  injection e1 with e1
  injection e1 with e1;injection e1 with e1;subst e1;rw[l,show wr.1[G s]?=_ from D]at u;injection u with u;injection u with _ h3;exact absurd h3 vY)
 have b3:Hs (OA wr wr m G o λs i=>UU x 0 s i):=Xa ⟨rfl,rfl,rfl,aA,λ_ _ _=>rfl,λ_ _=>.slice none 0 0,⟨λs d=>(r.3 s d).2.lt,r.4,λs d=>(r.3 s d).2,λs i _ _=>by rw[De];exact dA,λs i s' j _ _ _ _ _=>bC rfl⟩⟩;have be:=Xa λs d=>(r.3 s d).1;have ad:=Xa r.1;have g1:=r.1.4;clear r hb Q;go_wp2_with fail
 generalize wr=S at*;have al:Hs (∀wr cj,OA S wr m G o cj->Below N.1.size N wr):=Xa λwr cj C=>⟨C.1.trans ad.1,C.2.trans ad.2,C.3.trans ad.3,oN C.4,λq hq=>(C.5 q oM λs d=>by have:=be s d;omega).trans (ad.5 q hq)⟩
 go_loopw [6] (λi wr=>∃v:Nat,v<=n/\i=.int .i64 v/\Hs (OA S wr m G o λs i=>UU x v s i)) λi _=>n-(intOf i).toNat
 case atStart=>exact⟨0,aN,rfl,b3⟩
 clear b3;obtain⟨v,gt,rfl,I⟩:=hrel;have k0:=oB (al _ _ I) g0 eq;by_cases ee:v<n
 .have bt:=Xa<|BS v cf (Xa<|aj.keep (al _ _ I)) M E;go_wp2_with fail
  refine bt.mono ?_;rintro l w4⟨L,rfl,co,ct,F,cx,cw⟩;have b4:=Xa ((I.below co).congr λs i _ _=>(E4 x v s i).symm);have U:=Xa cx;have b6:=Xa cw;have c9:=Xa<|aJ I.4 ct;clear co ct cx cw I bt k0;go_wp2_with fail
  generalize wr=wo at*
  go_loopw [8] (λi wr=>∃b:Nat,b<=m/\i=.int .i64 b/\Hs (OA S wr m G o<|pQ x v b 0)/\Hs (wr.rowIs L 4 m λz=>.bool (F z))) λi _=>m-(intOf i).toNat
  case atStart=>exact⟨0,aN,rfl,b4,U⟩
  clear b4 U;obtain⟨b,hb,rfl,aq,U⟩:=hrel;by_cases Q:b<m
  .have ab:b<x.length:=oN M.o;have R:=Xa<|al.o _ _ aq;obtain⟨a0,n0,a1,n1,a2,n2,a3,n3,a4,a,a5,n5,c0,c1,c2,c3,c4,c5,dw,_,x1,_,x3,x4,x5,_,gr,_,eg,gs,P⟩:=YQ.row E aj R ab;have O:=Xa P;have bv:=Xa P.d.1;have ca:Hs (o b=a+1):=Xa (by rw[bi.o,<-P.d.1]);have ba:=fM (P:=prog) 70 4 (.bool false) 1 underlying70 Q7 rfl .i64 .i64 (a+1) oM oM;rw[show((a+1:Nat):Int)=(a:Int)+1 by omega]at ba;have el:IntKind.i64.wrap ((a:Int)+1)=(a:Int)+1:=by rw[dF];omega
   have aa:K<wr.1.size:=aI wr _ x4;clear P
   go_upto_region 16 with fail
   have V:Hs (Ob wr (wr.alloc<|.cells (madeCells #[.bool false] (a+1)) 4) L m F wr.1.size (a+1) (Oo x b v a)):=Xa ⟨Xb (Below.refl _ _) _,U.lt,U.alloc _,aA,UC (C:=Value.bool) (dG wr (.bool false) (a+1) 4) λz hz=>(Fd hz).symm⟩;generalize ej:wr.alloc (.cells (madeCells #[.bool false] (a+1)) 4)=w5 at*;clear ej
   go_cut [11]from 44 to 176 λcc H=>cc=.bool (OP x b v a)/\Hs (Ob wr H L m F wr.1.size (a+1) (Oo x b v a))
   case first=>
    have b7:=Xa<|A8 cf (Xa<|aj.keep (Xg R V.1)) M E Q (Xa V.3) b6;go_wp2_with fail
    refine b7.mono ?_;rintro l w6⟨s,rfl,cz,cp⟩;have X:=Xa<|V.below cp;have a7:=Xa<|E7 ab cz;rw[<-bv.o]at a7;have y5:=oB X.1 x5 aa;have da:=Xa (YF a5 c5 (v:Int) (PA x b) 0 w6.1.size w6 (Xa<|(O.u.2.keepS λq _ u=>X.1.5 q<|oN R.4).mono aA (oP X.1.4 R.4)) (Xa O.u.1) oM);clear cp cz V b7;cases s with
    |true=>
     go_wp2;go_meet;exact⟨by rw[a7.o,Bool.true_or],X⟩
    |false=>
     rw[jV]at a7;go_wp2_with fail
     refine da.mono ?_;rintro l T⟨rfl,y⟩;have Y:=y.symm;subst Y;rw[<-a7.o];go_wp2;go_meet;exact⟨rfl,X⟩
   obtain⟨rfl,f⟩:=hcut;clear V x5 ba;have et:=R;have g2:=R.4;generalize wr=e at*;go_wp2
   go_loopw [11,12] (λnw i H=>∃h:Nat,h<=a/\i=.int .i64 h/\nw=.bool (OP x b v h)/\Hs (Ob e H L m F e.1.size (a+1) (Oo x b v h))) λ_ i _=>(intOf i).toNat
   case atStart=>exact⟨a,aA,rfl,rfl,f⟩
   clear f;obtain⟨h,hk,rfl,rfl,f⟩:=hrel;cases h with
   |succ j=>
    have hj:j<(Tu x b).length:=oN bv.o;have bp:j<(OW x b).length:=by rw[FE];exact hj
    have t:=Xa<|Dv (xs:=x) (b:=b) (v:=v) hj;have J:=Xa<|Do (xs:=x) (b:=b) (v:=v) hj bp;obtain⟨bd,od,ed,f6,cd⟩:=O.d.2 j hj;obtain⟨br,or,er,gb,ar,cr,cl,cm⟩:=O.r.2 j bp;have dl:Hs (((OW x b)[j]).length<=1048576):=Xa<|aJ (DY x b _<|aH bp) vY;subst ed er;generalize (Tu x b)[j]=bm at*;generalize (OW x b)[j]=rj at*;have z4:=oB f.1 x4 aa;have z3:=oB f.1 x3 aa;have zd:=(XU f.1 oM).trans cd;have zr:=(XU f.1 oM).trans cl;have bh:=Xa λW (hW:Below e.1.size e W)=>YF ar cr (v:Int) rj 0 W.1.size W (Xa<|(cm.keep (λq D u=>hW.5 q D) hW.4).at_) (Xa rfl) dl;have ci:=f.5.cell (i:=j+1) oM;have fi:=f.5.frozen<|j+1;have gv:IntKind.i64.wrap ((j:Int)+1-1)=(j:Int):=by rw[dF];omega
    have gz:IntKind.i64.wrap (j:Int)=(j:Int):=by rw[dF];omega
    have gh:(j:Int)<(a:Int):=oM;have gi:(j:Int)<(n3:Int):=oN O.r.1;have gg:(j:Int)+1<(a:Int)+1:=oM;have f7:bd<wr.1.size:=aI wr _ zd;have gd:br<wr.1.size:=aI wr _ zr;have ga:K<wr.1.size:=aI wr _ z4;have ac:K≠e.1.size/\bd≠e.1.size/\br≠e.1.size:=oM;have cs:=ac.1;have d0:=ac.2.1;have ea:=ac.2.2;clear cd cl cm ac;have g3:=λq=>(bH wr ⟨e.1.size,j+1,none⟩ ⟨K,of+b*6+3,none⟩ q (kA cs)).trans z3;have g4:=λq=>(bH wr ⟨e.1.size,j+1,none⟩ ⟨K,of+b*6+4,none⟩ q (kA cs)).trans z4;have g5:=λq=>(bH wr ⟨e.1.size,j+1,none⟩ ⟨bd,od+j,none⟩ q (kA d0)).trans zd;have g6:=λq=>(bH wr ⟨e.1.size,j+1,none⟩ ⟨br,or+j,none⟩ q (kA ea)).trans zr;generalize OP x b v (j+1)=nw at*;have A:Hs (∀(q q':Bool),q=N2 x b (j+1) v->q'=OP x b v j->(.bool q':Uj)=.bool (OP x b v j)/\Ob e (wr.setCell ⟨e.1.size,j+1,none⟩ (.bool q)) L m F e.1.size (a+1) (Oo x b v j)):=Xa (λq q' D u=>⟨by rw[u],(f.set (j+1) q).congr λz _=>Dy D z⟩);have bl:=Xa λq=>(f.set (j+1) q).1;by_cases hd:bm=(v:Int)
    .subst hd;rw[eB rfl]at t J;cases nw
     all_goals (
      go_wp2_with fail
      refine(bh _<|bl true).mono ?_;rintro l T⟨rfl,y⟩;subst y;generalize Cg rj (v:Int)=hr at*;cases hr with
      |true=>
       go_wp2_with fail
       obtain⟨e1,e2⟩:=A true true (by rw[t.o];rfl) (by rw[J.o];rfl);exact⟨⟨j,oM,gM,e1,Xa e2⟩,by simp[intOf]⟩
      |false=>
       go_wp2_with fail
       obtain⟨e1,e2⟩:=A true false (by rw[t.o];rfl) (by rw[J.o];rfl);exact⟨⟨j,oM,gM,e1,Xa e2⟩,by simp[intOf]⟩)
    rw[dJ hd]at t J;have ge:(bm==(v:Int))=false:=by simpa using hd
    have gf:(bm != (v:Int))=true:=by simpa using hd
    cases nw with
    |true=>
     go_wp2_with fail
     refine(bh _<|bl true).mono ?_;rintro l T⟨rfl,y⟩;subst y;generalize Cg rj (v:Int)=hr at*;cases hr with
     |true=>
      go_wp2_with fail
      obtain⟨e1,e2⟩:=A true true (by rw[t.o];rfl) (by rw[J.o];rfl);exact⟨⟨j,oM,gM,e1,Xa e2⟩,by simp[intOf]⟩
     |false=>
      go_wp2_with fail
      obtain⟨e1,e2⟩:=A true true (by rw[t.o];rfl) (by rw[J.o];rfl);exact⟨⟨j,oM,gM,e1,Xa e2⟩,by simp[intOf]⟩
    |false=>
     go_wp2_with fail
     refine(bh _<|bl false).mono ?_;rintro l T⟨rfl,y⟩;subst y;generalize Cg rj (v:Int)=hr at*;cases hr with
     |true=>
      go_wp2_with fail
      obtain⟨e1,e2⟩:=A false true (by rw[t.o];rfl) (by rw[J.o];rfl);exact⟨⟨j,oM,gM,e1,Xa e2⟩,by simp[intOf]⟩
     |false=>
      go_wp2_with fail
      obtain⟨e1,e2⟩:=A false false (by rw[t.o];rfl) (by rw[J.o];rfl);exact⟨⟨j,oM,gM,e1,Xa e2⟩,by simp[intOf]⟩
   |zero=>
    clear x3 x4
    go_upto_region 22 with fail
    have b0:=Xa λW (hW:Below e.1.size e W)=>YF a1 c1 (v:Int) (Of x b) 0 W.1.size W (Xa<|(O.p.2.keepS λq _ u=>hW.5 q oM).mono aA (oN hW.4)) (Xa O.p.1) oM;have a6:Hs (N2 x b 0 v=(F b||Cg (Of x b) (v:Int))):=Xa (by
     rw[C6,qH];congr 1;rw[eQ,ET ab,b6.o b Q])
    go_cut []from 44 to 176 λH=>Hs<|Ob e H L m F e.1.size (a+1) λz=>N2 x b z v
    case first=>
     have kl:=f.3.cell Q;have ci:=f.5.cell (i:=0) oM;have fi:=f.5.frozen 0;have z1:=oB f.1 x1 aa;have A:=Xa λq D=>(f.set 0 q).congr λz _=>Em D z;have bb:=Xa<|b0.o _ f.1;generalize Cg (Of x b) (v:Int)=ph at*;generalize F b=lb at*;cases lb with
     |false=>
      go_wp2_with fail
      refine bb.mono ?_;rintro l T⟨rfl,y⟩;have Y:=y.symm;subst Y;go_wp2;go_meet;exact Xa<|A.o _ (by rw[a6.o];rfl)
     |true=>
      go_wp2_with fail
      refine bb.mono ?_;rintro l T⟨rfl,y⟩;have Y:=y.symm;subst Y;cases ph with
      |false=>
       go_wp2;go_meet;exact Xa<|A.o _ (by rw[a6.o];rfl)
      |true=>
       go_wp2_with fail
       refine bb.mono ?_;rintro l w9⟨rfl,ek⟩;have e9:=ek.symm;subst e9;go_wp2;go_meet;exact Xa<|A.o _ (by rw[a6.o];rfl)
    have a8:=hcut;have b8:=Xa<|aq.below a8.1;have bx:=Xa a8.3;have b1:=Xa a8.5;have ac:=a8.5.lt;clear hcut f b0 a6 x1;have ep:=aq.4;go_wp2_with fail
    generalize wr=wp at*
    go_loopw [13] (λi H=>∃h:Nat,h<=a+1/\i=.int .i64 h/\Hs (OA S H m G o<|pQ x v b h)/\Hs (H.rowIs L 4 m λz=>.bool (F z))/\Hs (H.rowIs e.1.size 4 (a+1) λz=>.bool (N2 x b z v))) λi _=>a+1-(intOf i).toNat
    case atStart=>exact⟨0,aN,rfl,b8,bx,b1⟩
    clear b8 bx b1;obtain⟨h,hk,rfl,az,ao,ap⟩:=hrel;by_cases cv:h<a+1
    .have ck:=ap.cell cv;have gp:(h:Int)<=(a:Int):=oM;have gq:(h:Int)<(a:Int)+1:=oM;cases hps:N2 x b h v with
     |false=>
      rw[hps]at ck;have t:=Xa hps;clear hps;go_wp2;exact⟨⟨h+1,oM,gM,Xa (az.congr λs i _ _=>Gh t s i),ao,ap⟩,by simp[intOf];omega⟩
     |true=>
      rw[hps]at ck;have t:=Xa hps;clear hps;go_wp2_with fail
      refine F4 n a L e.1.size x F G o S _ _ _ _ _ _ _ _ _ _ _ _ _ _ _ _ _ _ _ _ _ _ _ _ _ _ _ _ _ _ _ _ _ _ _ _ _ _ _ _ _ _ _ _ _ _ _ _ _ _ _ _ _ _ _ _ _ _ _ _ _ _ _ _ _ _ _ _ _ _ _ _ _ _ _ _ _ _ _ _ _ _ _ _ _ _ _ _ _ _ _ _ _ _ _ _ _ _ _ _ _ _ _ _ _ _ _ _ _ _ _ _ _ _ _ _ _ _ _ _ _ _ _ _ _ _ _ _ _ _ _ (Xa λ_ _ _ _ _ C=>C) ee hV Q cv ca az ao ap t (Xa<|cb.o b Q) ce cg.2 c9 (Xa ep) (Xa ?_);intro ey ez e0 e6 e7 fa fb fc fe fj fl fn fq fr fs fx fz f0 f4 f5 w9 c7 c8 db;clear az ao ap ck;go_wp2;exact⟨⟨h+1,oM,gM,c7,c8,db⟩,by simp[intOf];omega⟩
    have ec:h=a+1:=oM;subst ec;have di:=Xa (az.congr λs i _ hi=>Es (m:=a+1) λl=>by subst l;rw[<-ca.o];exact hi);go_wp2;exact⟨⟨b+1,oM,gM,di,ao⟩,by simp[intOf];omega⟩
  have dc:Hs (OA S wr m G o λs i=>UU x (v+1) s i):=Xa (aq.congr λs i d _=>by rw[show b=m by omega];exact FC d);go_wp2;exact⟨⟨v+1,oM,gM,dc⟩,by simp[intOf];omega⟩
 have ei:v=n:=oM
 subst ei;have df:Hs (∀s,s<m->wr.cell? ⟨Z,s,none⟩=some (.slice (some ⟨G s,0,none⟩) ((Tu x s).length+1) ((Tu x s).length+1))/\w.1.size<=G s/\XR wr w.1.size wr.1.size (some ⟨G s,0,none⟩) ((List.range<|(Tu x s).length+1).map (UU x v s))):=Xa (λs d=>by
  obtain⟨ev,hU⟩:=I.6;have D:=I.cell (λs d=>ce s d) (cb s d);have u:=hU.ints d (L:=w.1.size) (oN<|be s d);rw[bi.o]at D u;exact⟨D,oN<|be s d,u⟩)
 have dd:=Xa<|al.o _ _ I;go_wp2;go_ret;exact⟨Z,cO,G,rfl,dn.trans<|dd.mono oM,oN cg.1,df⟩
section
attribute [local go_sem] Oper.semAt_some
def N1(V a:Nat)(W:Wk):Prop:=∀x,x<64*a->Xh W x=true->x<V
theorem qi(h:N1 n m f)(a:∀t∈s,t<n):N1 n m (E2 f s):=λx b e=>by
 rw[YR]at e;obtain e|e:=dI _ _▸e;·exact a x<|fV e
 exact h x b e
theorem C4(h:N1 n m f):N1 n m (Js f s):=λx a e=>by
 rw[Kt]at e;exact h x a (bY _ _▸e).2
def pg(n m a z:Nat)(p:Sd)(V:Ub):Prop:=(p.i<=m/\N1 n a p.W)/\xn a z p V
theorem qj(n m d B z:Nat):OwnFrom B (pg n m d z):=λp A V row h k q=>by
 let⟨f,b,g⟩:=h;refine⟨f,b.of_block (k.5 z b.lt λe=>?_),g⟩;let⟨o,i,j⟩:=b.obj;let⟨_,l,a,c⟩:=q z e.symm;rw[i]at a;injection a with a;subst a;rw[j]at c;cases c
theorem tH{p:Sd}(h:pg n m k B p w)(a:Below w.1.size w v):pg n m k B p v:=⟨h.1,h.2.1.of_block<|a.5 B h.2.1.lt,h.2.2⟩
theorem vh(m:Nat):∀(l a:List (Nat×Wc×Wc))(W:Wk),TZ m W (l++a)=TZ m W l++TZ m (l.foldl VI W) a
 |[],a,W=>by simp[TZ]
 |p::l,a,W=>by
  show N9 m W p++TZ m (VI W p) (l++a)=(N9 m W p++TZ m (VI W p) l)++TZ m (l.foldl VI<|VI W p) a;rw[vh m l,cK]
theorem BR{l a:List (Nat×Wc×Wc)}(h:l <+: a):TZ n f l <+: TZ n f a:=by
 obtain⟨t,rfl⟩:=h;rw[vh];exact⟨_,rfl⟩
theorem tU{Bx go:Nat}(O:Vv)(u:Hs (UI q k B Bx n w.1.size w))(hs:w.cell? (Hk m 0)=some (Hl go g i))(hg:Hs (Cp w go g i f))(f5:Hs (XA f))(hK:g<=100)(gq:j<=64*g)(hM:Hs (∀r,k<=r->r<B->¬O r))(fi:Hs (¬O Bx))(X:Hs (∀r,w.1.size<=r->¬O r))(fc:Hs (¬O 1))(fe:Hs (¬O 2))(f0:Hs (∀ej∈q.2,1<=ej.1/\ej.1<=13))(f4:1<=q.3.1/\q.3.1<=3)(fx:q.2.length<=4000)(fz:q.1.length<=4000)(fj:Hs (∀e∈NS q,Pn j e))(fb:Hs (N1 j g f)):
 lf Fence.wide 8 prog 155 #[Hn m,Hn Bx] (rx g) (pg j q.2.length g) (Zf n O) (λxs=>xs.map Sd.dat=TZ q.2.length f (NS q)) (λxs=>xs.map Sd.dat <+: TZ q.2.length f (NS q)) (q.2.length+2) True False w:=by
 intro Y dl Jx W hW hl hJ dn ds _ hY h0;have HY:=Xa hY;have HJ:=Xa hJ;have c9:=Xa dn;have a0:=Xa<|ds trivial;have H0:=Xa h0;have g2:=u.8;clear hY hJ ds h0 dn;have eg:=hW.4;refine callsIn_of_wp_marks func155 rfl trivial ?_ rfl;simp only[ntmps155,xY,Nat.reduceAdd,Nat.reduceSub];have s0:=oB hW hs<|aI w _ hs;have e8:m<W.1.size:=aI W _ s0;have hd:=λs=>(bP W s (Hk m 0) e8).trans s0;gi_wp2;have fa:(λx9:Ub=>Hs (Below W.1.size W x9)/\x9.cell? (Hk W.1.size 0)=some (.func (.yield Y) #[] #[])/\x9.1.size=W.1.size+1) (W.alloc<|.cells #[.func (.yield Y) #[] #[]] 260):=⟨Xa<|Xb (Below.refl _ _) _,(by simp[go_sem]),sP⟩;generalize W.alloc _=wa at*;let⟨cv,ef,g9⟩:=fa;have gd:W.1.size<wa.1.size:=oM;have cz:=Xa<|(hg.of_block<|hW.5 go hg.lt).of_block (cv.5 go<|aX hg.lt eg);have cx:=Xa<|Kk go g i f wa cz oM;refine⟨trivial,(bM.2 cx).mono ?_⟩;rintro o H⟨b,D,rfl,gt,b0,cl⟩;have en:=Xa cl;have ct:=Xa<|Xg cv b0;have g5:=b0.4;have y1:=oB b0 ef gd;have fl:=cl.lt;clear b0 cl ef cx cz;have br:Hs (Below H.1.size H<|H.alloc (.cells #[Hl b g D] 103)):=Xa<|Xb (Below.refl _ _) _;have fq:(H.alloc<|.cells #[Hl b g D] 103).cell? (Hk H.1.size 0)=some (Hl b g D):=by simp[go_sem]
 have f6:(H.alloc<|.cells #[Hl b g D] 103).1.size=H.1.size+1:=sP;have cj:=Xa<|(Xa<|u.below hW aA).below (Xg ct br) eg;let⟨pa,pc,ia,ic,x0,x1,⟨x2,x3,x4,x5⟩,ec,ea⟩:=cj.3;simp only[aV]at x1 x2 x3 x4 x5;have et:=Xa ec;have ep:=Xa ea;clear ec ea;gi_wp2;generalize H.alloc _=N at*;have fr:H.1.size<N.1.size:=oM;clear f6;refine⟨trivial,(tT Fence.wide 7 trivial rfl N).mono ?_⟩;rintro o t⟨rfl,b5⟩;have K:Below N.1.size N t:=b5▸Xb (Below.refl _ _) _;have f7:t.1.size=N.1.size+1:=by rw[b5];simp
 have ad:∀e v,#[Value.slice pa q.1.length pc,.slice ia q.2.length ic,Hp q.3.1,Hp q.3.a,Hp q.3.3,Hp q.3.4][e]?=some v->t.cell? (Hk N.1.size e)=some v:=λe v h=>by
  rw[b5,eC];exact h
 have ez:Hs (UI q k B N.1.size n t.1.size t):=Xa ⟨cj.1.of_block (K.5 _<|oN u.6) K.4,cj.2.of_block (K.5 _<|oN u.7) K.4,⟨pa,pc,ia,ic,ad 0 _ rfl,ad 1 _ rfl,⟨ad 2 _ rfl,ad 3 _ rfl,ad 4 _ rfl,ad 5 _ rfl⟩,et.keepS λe _ d=>K.5 e<|oN u.5,ep.keepS λe _ d=>K.5 e<|oN u.5⟩,oM,u.5,u.6,u.7,oM⟩;have eo:Hs (PB W t.1.size Y H.1.size Bx b g D q.2.length ia ic f dl [] t):=Xa ⟨⟨[],rfl,H0 b t oM oM<|Xa (Xg (Xg ct br) K)⟩,oB K ((XU br oM).trans y1) oM,oB K fq fr,(en.of_block<|br.5 _ fl).of_block (K.5 _ oM),oB K x1 (by have:=u.4;show Bx<_;omega),aA⟩;have gv:N.1.size<t.1.size:=oM;clear b5 ad f7;have d0:∀e,e≠b->w.1.size<=e->¬(O e\/e=b):=λe a d y=>y.elim (λh=>X e d h) a;have ge:w.1.size<=b:=oM;gi_wp2
 refine nX (F:=Fence.wide) (n:=8) rfl vY (gf:=147) (lb:=#[Hn N.1.size]) rfl trivial (enters_of func147 vZ rfl) (uy n N.1.size k B (λe=>O e\/e=b) (Pn j) q t ez (Xa ?m1) (Xa ?m2) (Xa ?m3) (Xa ?m4) (Xa ?m5) f0 f4 fx fz fj) (λ_=>qn _ _ _) (λh r=>h.trans r) (λW Y s x a d y=>Zf.putObj W Y s x oM d y) (Below.refl _ _) (λ_ _=>rfl)
  (λ_ C U=>PB W t.1.size Y H.1.size Bx b g D q.2.length ia ic f dl C U/\N1 j g ((C.map Pl.dat).foldl VI f)) (λc C j=>c=.ret/\∃G:List Sd,G.map Sd.dat=TZ q.2.length f (C.map Pl.dat)/\Jx G j) (λ_ gf A U row h r e=>⟨PB.own HJ oM oM (oN u.4) oM gf A U row h.1 r e,h.2⟩) ?ownX (λh=>h.elim) (λh=>h.elim) (λ_ j _ _ hV=>⟨XO (PB.own HJ oM oM (oN u.4) oM) eo hV,fb⟩)
  (λ_ p a' U=>∃V:Nat,a'=⟨#[.func (.yield Y) #[] #[],Hn m,Hn Bx,Hn W.1.size,Hn H.1.size,Hp (p.i:Int),Hn V,.agg #[Hl go g i],.agg #[Hl b g D],.agg #[.slice pa q.1.length pc,.slice ia q.2.length ic,Hp q.3.1,Hp q.3.a,Hp q.3.3,Hp q.3.4],.func (.func 147) #[] #[Hn N.1.size],Hp (p.i:Int),.agg #[.slice p.2 p.4.length p.3,.slice p.5 p.7.length p.6],undef,undef,undef,undef,undef,undef,undef,undef,undef,undef,undef,undef,undef,undef,undef,undef,undef,undef,undef,undef,undef,undef,undef,undef],[]⟩/\PM t.1.size V p U) ?ownA ?assign ?body ?done ?stop
 case m1=>intro e a d;exact λy=>y.elim (λh=>hM e a d h) λh=>by have:=u.5;omega
 case m2=>exact d0 _ oM oM
 case m3=>intro e a;exact d0 _ oM oM
 case m4=>exact λy=>y.elim (λh=>fc h) λh=>by have:=u.6;omega
 case m5=>exact λy=>y.elim (λh=>fe h) λh=>by have:=u.7;omega
 case ownX=>
  rintro c C A j row⟨rfl,G,s1,s2⟩ r e;exact⟨rfl,G,s1,c9 G A j row s2 r λei o=>⟨oN<|(e ei o).1,(e ei o).2⟩⟩
 case ownA=>
  rintro _ p a' _ A U row⟨V,o,hp⟩ e7 e;exact⟨V,o,PM.own (n:=t.1.size) () A U row hp e7 e⟩
 case assign=>
  intro l' _ C p U gh _ e9 hP du;let⟨I,a9⟩:=e9;have cg:=Xa a9;clear a9;have R:=Xa I;have ao:=Xa hP;have er:=Xa du;clear I hP du;unfold pf;gi_wp2;have ba:Below U.1.size U (U.alloc<|.cells #[.slice p.2 p.4.length p.3,.slice p.5 p.7.length p.6] 184):=Xb (Below.refl _ _) _;refine er _ _ ⟨ba.4,λr s a _=>(ba.5 r (aS.1 a).1).trans a⟩ (Zf.of_below ba<|oN R.6) ⟨XO (PB.own HJ oM oM (oN u.4) oM) R ba,cg⟩ (tA ao ba) ⟨U.1.size,rfl,R.6,?_,?_⟩;·simp[go_sem]
  simp[go_sem]
 case body=>
  rintro l' _ C p a' U _ _ _⟨I,a9⟩ hP ⟨V,rfl,b3⟩ g0;have cg:=Xa a9;clear a9;have R:=Xa I;have ao:=Xa hP;have zl:=I.3;have zy:=I.y;have zx:=I.5;have p0:=b3.2;have p1:=b3.3;have gr:=b3.1;have gs:V<U.1.size:=aI U _ p0;have S:=Xa ao.1;have ci:Hs ((X9 p.7).map Int.ofNat=p.7):=Xa (Kv λv hv=>(S.2.1 v hv).1);have df:Hs ((X9 p.4).map Int.ofNat=p.4):=Xa (Kv λv hv=>(S.1 v hv).1);have dc:Hs (∀M∈X9 p.7,M<j):=Xa (λM ht=>by
   obtain⟨al,hz,rfl⟩:=aY.1 ht;have:=S.2.1 al hz;omega)
  have es:Hs (∀M∈X9 p.4,M<j):=Xa (λM ht=>by
   obtain⟨al,hz,rfl⟩:=aY.1 ht;have:=S.1 al hz;omega)
  have ch:Hs (∀M∈X9 p.7,M<64*g):=Xa (λM ht=>by
   obtain⟨al,hz,rfl⟩:=aY.1 ht;have:=S.2.1 al hz;omega)
  have dd:Hs (∀M∈X9 p.4,M<64*g):=Xa (λM ht=>by
   obtain⟨al,hz,rfl⟩:=aY.1 ht;have:=S.1 al hz;omega)
  have cm:p.7.length<=4000:=S.2.2.2;have eb:p.4.length<=4000:=S.2.2.1;let⟨F,ap⟩:∃el,el=(C.map Pl.dat).foldl VI f:=⟨_,rfl⟩;have da:Hs (N1 j g F):=Xa (ap▸cg);have db:Hs (N1 j g<|((C++[p]).map Pl.dat).foldl VI f):=Xa (by
   rw[bG,dT,<-ap];exact qi (C4<|qi da dc) es)
  have dj:Hs (XA F):=Xa (ap▸Dk f5);have bv:Hs (Cp U b g D F):=Xa (ap▸R.4);have a2:=Xa ap;clear I hP b3 ap;have cw:=Xa (ZG b g D p.7.length p.6 F p.5 (X9 p.7) t.1.size U.1.size U (Xa<|by rw[ci.o];exact ao.2.2) (Xa<|by simp[X9]) cm ch oM dj bv aA oM);gi_wp2;refine⟨trivial,(CallsIn.inRound l'<|bM.2 cw).mono ?_⟩;rintro o T⟨rfl,k1,ed⟩;have q1:∀(l x:Nat)(v:Uj),l≠b->U.cell? (Hk l x)=some v->T.cell? (Hk l x)=some v:=λl x v a d=>(Xc<|k1.5 l (aI U _ d) λo=>a<|by injection o).trans d
  have b8:=q1 _ _ _ oM zl;have cb:=q1 _ _ _ oM zy;have ca:=q1 _ _ _ (oN u.4) zx;have b6:=q1 _ _ _ oM p0;have b7:=q1 _ _ _ oM p1;have g7:=k1.4;have Z:=Xa k1;have a3:=Xa ed;have a5:Hs (XA<|E2 F (X9 p.7)):=Xa<|Zs _ dj;have c6:=Xa<|YZ ao.2.2 k1 oM;have c7:=Xa<|YZ ao.2.1 k1 oM;clear k1 ed q1 cw zl zy zx p0 p1;let⟨G,b4,bx⟩:=R.1;have bt:=Xa b4;have c8:=Xa<|a0.o b G U T oM bx Z;clear b4 bx;have g1:G.length<=C.length:=by
   have a:=fI List.length bt;rw[bK]at a;have d:=qI q.2.length (C.map Pl.dat) f;rw[bK]at d;omega
  have gg:Hs (p.dat=(p.i,p.4,p.7)):=Xa rfl;by_cases b1:p.i<=q.2.length
  .have dk:=Xa<|HY.o b G ⟨p.i,D,E2 F<|X9 p.7⟩ T oM c8 ⟨⟨b1,qi da dc⟩,a3,a5⟩ oM;let⟨fn,tmps,gi,bo,hy,hR⟩:=KY (l':=l') (m':=5) dk;have ee:(Instr.yield Y #[Hp (p.i:Int),.agg #[Hl b g D]]).run prog T=_:=hy;have fs:(p.i:Int)<=(q.2.length:Int):=oM;clear hy dk;gi_wp2;refine hR.mono ?_;rintro o P (⟨rfl,a7,E,bb⟩|⟨rfl,a7,E,bb⟩);rotate_left
   .have ce:=Xa a7;have aa:=Xa E;have az:=Xa bb;clear a7 E bb hR ee;gi_wp2;refine⟨((Jc Z bv.obj).from _).trans ⟨az.1,λr s a d y=>az.2 r s oM d y⟩,(Zg Z (aZ rfl) oM).trans ⟨aa.1,λr a d=>aa.2 r a λh=>d<|bC h,λr s a d y=>aa.3 r s (λh=>a<|bC h) d y⟩,rfl,_,?_,ce⟩;rw[bG,bG,bt.o];show _=TZ q.2.length f (C.map Pl.dat++[p.dat]);rw[Ky,<-a2.o];unfold N9;rw[aU<|show p.dat.1<=q.2.length from b1];rfl
   have ce:=Xa a7;have aa:=Xa E;have az:=Xa bb;have g8:=E.1;have bh:=E.cell b8 (X _<|by show w.1.size<=H.1.size;omega);have bn:=E.cell cb (X _<|by show w.1.size<=W.1.size;omega);have bl:=E.cell ca fi;have be:=E.cell b6 (X _<|by show w.1.size<=V;omega);have bf:=E.cell b7 (X _<|by show w.1.size<=V;omega);have di:Hs (Cp P b g D<|E2 F (X9 p.7)):=Xa (a3.of_block (by
    let⟨s,a,d⟩:=a3.obj;rw[a];exact E.3 b s (X _ ge) a d))
   have eq:Hs (Xf P t.1.size P.1.size p.5 p.7):=Xa (λcn hi=>by
    let⟨a6,s,o,hb,hc⟩:=c6 cn hi;exact⟨a6,s,o,⟨hb.1,oM⟩,E.cell hc<|X _ (by show w.1.size<=a6;omega)⟩)
   have cc:Hs (Xf P t.1.size P.1.size p.2 p.4):=Xa (λcn hi=>by
    let⟨a6,s,o,hb,hc⟩:=c7 cn hi;exact⟨a6,s,o,⟨hb.1,oM⟩,E.cell hc<|X _ (by show w.1.size<=a6;omega)⟩)
   clear a7 E bb hR ee b8 cb ca b6 b7;have aq:=Xa (JL p.6 p.5 t.1.size P (Xa<|by rw[ci.o];exact eq) (Xa<|by simp[X9]) cm ch oM a5 di aA oM);gi_wp2;refine⟨trivial,(CallsIn.inRound l'<|bM.2 aq).mono ?_⟩;rintro o z⟨rfl,L,bc⟩;have q3:∀(l x:Nat)(v:Uj),l≠b->P.cell? (Hk l x)=some v->z.cell? (Hk l x)=some v:=λl x v a d=>(Xc<|L.5 l (aI P _ d) λo=>a<|by injection o).trans d;have bi:=q3 _ _ _ oM bh;have bq:=q3 _ _ _ oM bn;have bm:=q3 _ _ _ (oN u.4) bl;have co:=q3 _ _ _ oM be;have cp:=q3 _ _ _ oM bf;have ga:=L.4;have ab:=Xa L;have a4:=Xa bc;have cd:=Xa<|YZ cc L oM;clear L bc q3 aq bh bn bl be bf;have ar:=Xa (ZG b g D p.4.length p.3 (Js (E2 F<|X9 p.7) (X9 p.7)) p.2 (X9 p.4) t.1.size z.1.size z (Xa<|by rw[df.o];exact cd) (Xa<|by simp[X9]) eb dd oM (Xa<|JX _ a5) a4 aA oM);gi_wp2;refine⟨trivial,(CallsIn.inRound l'<|bM.2 ar).mono ?_⟩;rintro o V4⟨rfl,Q,bd⟩;have q4:∀(l x:Nat)(v:Uj),l≠b->z.cell? (Hk l x)=some v->V4.cell? (Hk l x)=some v:=λl x v a d=>(Xc<|Q.5 l (aI z _ d) λo=>a<|by injection o).trans d;have cq:=q4 _ _ _ oM bi;have cs:=q4 _ _ _ oM bq;have cr:=q4 _ _ _ (oN u.4) bm;have gb:=Q.4;have ac:=Xa Q;have ck:=Xa bd;clear Q bd q4 ar bi bq bm co cp;gi_wp2;have af:∀{A J:Ub},A.grownBy J (some b)->n<=A.1.size->Zf n (λe=>O e\/e=b) A J:=λh a=>Zg h (aZ rfl) a;have aj:∀{A J:Ub},A.grownBy J (some b)->(∃s:Obj,A.1[b]?=some s/\s.isCells=true)->KeepsFrom t.1.size A J:=λh a=>(Jc h a).from _;have g4:E2 (Js (E2 F<|X9 p.7) (X9 p.7)) (X9 p.4)=VI F p.dat:=rfl;have g3:E2 F (X9 p.7)=Uo F p.dat:=rfl;have cf:=a0 b _ z V4 oM (a0 b _ P z oM ce ab) ac;refine⟨(((aj Z bv.obj).trans ⟨az.1,λr s a d y=>az.2 r s oM d y⟩).trans (aj ab di.obj)).trans (aj ac a4.obj),(((af Z oM).trans ⟨aa.1,λr a d=>aa.2 r a λh=>d<|bC h,λr s a d y=>aa.3 r s (λh=>a<|bC h) d y⟩).trans (af ab oM)).trans (af ac oM),⟨⟨⟨_,?_,cf⟩,cs,cq,?_,cr,oM⟩,db⟩⟩
   .rw[bG,bG,bt.o];show _=TZ q.2.length f (C.map Pl.dat++[p.dat]);rw[Ky,<-a2.o];unfold N9;rw[aU<|show p.dat.1<=q.2.length from b1];rfl
   rw[bG,dT,<-a2.o];exact ck
  have gz:(q.2.length:Int)<(p.i:Int):=oM;have fs:decide ((p.i:Int)<=(q.2.length:Int))=false:=by simp;omega
  have bh:=b8;have bn:=cb;have bl:=ca;have be:=b6;have bf:=b7;have cc:=c7;clear b8 cb ca b6 b7;have aq:=Xa (JL p.6 p.5 t.1.size T (Xa<|by rw[ci.o];exact c6) (Xa<|by simp[X9]) cm ch oM a5 a3 aA oM);gi_wp2
  repeat (refine⟨λgp hf=>(by cases hf),?_⟩;gi_wp2)
  refine⟨trivial,(CallsIn.inRound l'<|bM.2 aq).mono ?_⟩;rintro o z⟨rfl,L,bc⟩;have q3:∀(l x:Nat)(v:Uj),l≠b->T.cell? (Hk l x)=some v->z.cell? (Hk l x)=some v:=λl x v a d=>(Xc<|L.5 l (aI T _ d) λo=>a<|by injection o).trans d;have bi:=q3 _ _ _ oM bh;have bq:=q3 _ _ _ oM bn;have bm:=q3 _ _ _ (oN u.4) bl;have co:=q3 _ _ _ oM be;have cp:=q3 _ _ _ oM bf;have ga:=L.4;have ab:=Xa L;have a4:=Xa bc;have cd:=Xa<|YZ cc L oM;clear L bc q3 aq bh bn bl be bf;have ar:=Xa (ZG b g D p.4.length p.3 (Js (E2 F<|X9 p.7) (X9 p.7)) p.2 (X9 p.4) t.1.size z.1.size z (Xa<|by rw[df.o];exact cd) (Xa<|by simp[X9]) eb dd oM (Xa<|JX _ a5) a4 aA oM);gi_wp2;refine⟨trivial,(CallsIn.inRound l'<|bM.2 ar).mono ?_⟩;rintro o V4⟨rfl,Q,bd⟩;have q4:∀(l x:Nat)(v:Uj),l≠b->z.cell? (Hk l x)=some v->V4.cell? (Hk l x)=some v:=λl x v a d=>(Xc<|Q.5 l (aI z _ d) λo=>a<|by injection o).trans d;have cq:=q4 _ _ _ oM bi;have cs:=q4 _ _ _ oM bq;have cr:=q4 _ _ _ (oN u.4) bm;have gb:=Q.4;have ac:=Xa Q;have ck:=Xa bd;clear Q bd q4 ar bi bq bm co cp;gi_wp2;have af:∀{A J:Ub},A.grownBy J (some b)->n<=A.1.size->Zf n (λe=>O e\/e=b) A J:=λh a=>Zg h (aZ rfl) a;have aj:∀{A J:Ub},A.grownBy J (some b)->(∃s:Obj,A.1[b]?=some s/\s.isCells=true)->KeepsFrom t.1.size A J:=λh a=>(Jc h a).from _;have cf:=a0 b _ z V4 oM (a0 b _ T z oM c8 ab) ac;refine⟨((aj Z bv.obj).trans (aj ab a3.obj)).trans (aj ac a4.obj),((af Z oM).trans (af ab oM)).trans (af ac oM),⟨⟨⟨_,?_,cf⟩,cs,cq,?_,cr,oM⟩,db⟩⟩
  .rw[bG,bt.o];show _=TZ q.2.length f (C.map Pl.dat++[p.dat]);rw[Ky,<-a2.o];unfold N9;rw[aM (show ¬p.dat.1<=q.2.length from b1),fF]
  rw[bG,dT,<-a2.o];exact ck
 case done=>
  rintro ek _ xs U hD _ dw⟨I,_⟩ a8;have R:=Xa I;have a1:=Xa a8;have eu:=Xa dw;clear I a8 dw;gi_wp2;let⟨G,b4,bx⟩:=R.1;refine YK a1 ⟨.tuple #[],gV rfl _ _ _,⟨_,rfl⟩,.inl ⟨b,G,oM,by rw[b4,eu.o],(HJ b).putObj _ bx oM a1 rfl⟩⟩
 rintro ek c C U hD dz⟨rfl,G,s1,s2⟩ a8;have ev:=Xa s1;have ey:=Xa s2;have a1:=Xa a8;have e6:=Xa dz;clear s1 s2 a8 dz;gi_wp2;exact YK a1 ⟨.tuple #[],gV rfl _ _ _,⟨_,rfl⟩,.inr ⟨G,by rw[ev.o];exact BR e6,c9.putObj _ ey oM a1 rfl⟩⟩
end
end Go.Proofs.YtcfdhbigppockaaGreatDoor
