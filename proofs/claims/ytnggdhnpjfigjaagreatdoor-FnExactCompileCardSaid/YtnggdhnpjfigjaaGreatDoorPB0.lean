import Derived.Test.YtnggdhnpjfigjaaGreatDoorSS2
import Derived.Test.YtnggdhnpjfigjaaGreatDoorML3a
import Derived.Test.YtnggdhnpjfigjaaGreatDoorFV1
import Derived.Test.YtnggdhnpjfigjaaGreatDoorAL1
import Derived.Test.YtnggdhnpjfigjaaGreatDoorW18b
namespace Go.Proofs.YtnggdhnpjfigjaaGreatDoor
set_option maxHeartbeats 4000000
set_option maxRecDepth 1000000
open _root_ renaming Array.size->Z,List.length->J,Nat->N,Int->I,rfl->R,Option.some->S,Option.none->U,Bool.false->Sn,List.range->Rg,Bool.true->So,absurd->Sz
open Go renaming World.cell?->E,World.alloc->D,World.setCell->Se,World.ownsRow->Sx,IntKind.i64->S6,RowKit.Below->Sw,Ending.returned->Rt,Obj.cells->Sc,Calls->Sk,undef->Su
open Value renaming int->Si,slice->X,bool->Sb,agg->Sa,pointer->Sj,tuple->St
open Go.RowKit Go.Proofs.Tryz Go.Shelf
variable{t T:I}{n m k B g i j c:N}{w v:Ub}{a A_:Uj}{p:Uy}{M N_:Vp}{s:Wa}{l L:Wc}{x:Wi}{f F:Wk}{q:Xe}
section
structure ON(w:Ub)(base ns:N)(G_ m:Wk)(P:N->Tj)(U_:N->Vu):Prop where
 lt:∀s,s<ns->G_ s<base
 ne:∀s s',s<ns->s' < ns->s≠s'->G_ s≠G_ s'
 row:∀s,s<ns->w.rowIs (G_ s) 89 (m s) (U_ s)
 own:∀s i,s<ns->i<m s->Sx w base 2 1 (U_ s i) (J (P s i)) ((P s i).map (Si S6))
 dj:∀s i s' j,s<ns->s' < ns->i<m s->j<m s'->(s,i)≠(s',j)->(U_ s i).ownBlock=U\/(U_ s i).ownBlock≠(U_ s' j).ownBlock
section
variable {w w' w1: Ub} {base ns: N} {G_ m: N -> N} {P P': N -> N -> Wc} {U_: N -> N -> Uj}
theorem ON.below(h:ON w base ns G_ m P U_)(k:Sw (Z w.1) w w'):ON w' base ns G_ m P U_:=by
 refine⟨h.1,h.2,λs a=>(h.3 s a).of_block (k.5 _ (h.3 s a).lt),λs i a d=>?_,h.5⟩;refine(h.4 s i a d).kept (row:=U) ⟨k.1,k.2,k.3,k.4,λb c _=>k.5 b c⟩ ?_;cases (U_ s i).ownBlock<;>simp
theorem ON.congr(h:ON w base ns G_ m P U_)(e:∀s i,s<ns->i<m s->P s i=P' s i):ON w base ns G_ m P' U_ :=
 ⟨h.1,h.2,h.3,λs i b a=>by rw[<-e s i b a];exact h.4 s i b a,h.5⟩
theorem ON.step(h:ON w base ns G_ m P U_){s t:N}(f:s<ns)(g:t<m s)(y:I)(c:Uj)(u:w.grownBy w1 (U_ s t).ownBlock)(z:Sx w1 base 2 1 c (J (P s t)+1) ((P s t).map (Si S6)++[Si S6 y]))(r:c.ownBlock=(U_ s t).ownBlock\/c.ownBlock=S (Z w.1)):
 ON (Se w1 ⟨G_ s,t,U⟩ c) base ns G_ m (λa i=>if (a,i)=(s,t)then P s t++[y]else P a i) (λa i=>if (a,i)=(s,t)then c else U_ a i):=by
 have x:=λa b=>(h.3 a b).of_block (u.5 _ (h.3 a b).lt λe=>by have:=((h.4 s t f g).lt _ e.symm).1;have:=h.1 a b;omega)
 have fresh:∀a q,a < ns->q<m a->(U_ a q).ownBlock=U\/(U_ a q).ownBlock≠S (Z w.1):=λa q b hq=>by
  by_cases e:(U_ a q).ownBlock=S (Z w.1);·have:=((h.4 a q b hq).lt _ e).2;omega
  exact aZ e
 refine⟨h.1,h.2,λa b=>?_,λa i b d=>?_,λs1 i s2 j l n d p v=>?_⟩
 .by_cases e:a=s
  .subst e;exact((x a b).set t c).congr (λi _=>by by_cases e2:i=t<;>simp[e2])
  exact((x a b).setOther (a:=(A (G_ s) t)) (λe2=>h.2 a s b f e e2) c).congr λi _=>by simp[e]
 .refine ownsRow_setCell_below ?_ (h.1 s f) _;by_cases e:(a,i)=(s,t)
  .simp only[e,gG,aQ,bA,bO,bG,eH,fZ];exact z
  simp only[e,fD];exact(h.4 a i b d).kept u (h.5 a i s t b f d g e)
 by_cases e1:(s1,i)=(s,t)
 .have e2:¬(s2,j)=(s,t):=λe=>v<|G e1 e.symm;simp only[e1,gG,e2,fD];obtain q|q:=r
  .rw[q];exact h.5 s t s2 j f n g p λe=>e2 e.symm
  right
  rw[q];intro o;obtain k|k:=fresh s2 j n p;·rw[k]at o;cases o
  exact k o.symm
 simp only[e1,fD];by_cases e2:(s2,j)=(s,t)
 .simp only[e2,gG];obtain q|q:=r;·rw[q];exact h.5 s1 i s t l f d g e1
  rw[q];exact fresh s1 i l d
 simp only[e2,fD];exact h.5 s1 i s2 j l n d p v
theorem ON.other(h:ON w base ns G_ m P U_){b T q:N}{f:Vu}(l:w.rowIs b T q f)(k:T≠2){s i:N}(o:s<ns)(n:i<m s):(U_ s i).ownBlock≠S b:=λe=>by
 let⟨c,d,_⟩:=l;rcases(h.4 s i o n).2 with⟨e1,_⟩|⟨g,cap,cur,e1,_,a,_⟩;·rw[e1]at e;cases e
 rw[e1]at e;injection e with e;have e:g=b:=e;subst e;rw[show w.1[g]?=_ from d]at a;injection a with a;injection a with _ j;exact k j
theorem ON.ints(h:ON w base ns G_ m P U_){s:N}(a:s<ns){L:N}(e:L<=G_ s):XR w L (Z w.1) (S ⟨G_ s,0,U⟩) ((Rg<|m s).map (P s)):=λi b=>by
 simp only[bK,gI]at b;let⟨d,c,f,ha⟩:=Xk<|h.4 s i a b;refine⟨G_ s,0,R,⟨e,(h.3 s a).lt⟩,d,c,?_,?_⟩
 .simp only[cM,dW,aV];rw[(h.3 s a).cell b,f]
 simp only[cM,dW];exact ha.mono (oN<|h.1 s a) aA
end
structure OA(w3 wr:Ub)(ns:N)(G_ m:Wk)(P:N->Tj):Prop where
 os:wr.4=w3.4
 tape:wr.2=w3.2
 output:wr.5=w3.5
 size:Z w3.1<=Z wr.1
 fr:∀q,q<Z w3.1->(∀s,s<ns->q≠G_ s)->wr.1[q]?=w3.1[q]?
 db:∃U_,ON wr (Z w3.1) ns G_ m P U_
section
variable {w3 wr wr' w8: Ub} {ns: N} {G_ m: N -> N} {P P': N -> N -> Wc}
theorem OA.below(h:OA w3 wr ns G_ m P)(k:Sw (Z wr.1) wr wr'):OA w3 wr' ns G_ m P:=by
 let⟨U_,c⟩:=h.6;have:=h.4;exact⟨G k.1 h.1,G k.2 h.2,G k.3 h.3,aJ h.4 k.4,λq a b=>G (k.5 q O) (h.5 q a b),U_,c.below k⟩
theorem OA.congr(h:OA w3 wr ns G_ m P)(e:∀s i,s<ns->i<m s->P s i=P' s i):OA w3 wr ns G_ m P':=by
 let⟨U_,a⟩:=h.6;exact⟨h.1,h.2,h.3,h.4,h.5,U_,a.congr e⟩
theorem OA.cell(h:OA w3 wr ns G_ m P){b o:N}{v:Uj}(c:∀s,s<ns->b≠G_ s)(a:E w3 (A b o)=S v):E wr (A b o)=S v:=G (Xc<|h.5 b (aI w3 _ a) c) a
theorem OA.push{U_:N->Vu}{s t:N}{j:Obj}{x:I}{b:Uj}(h:OA w3 wr ns G_ m P)(e:ON wr (Z w3.1) ns G_ m P U_)(d:s<ns)(n:t<m s)(c:(D wr.drew j).grownBy w8 (U_ s t).ownBlock)(K:Sx w8 (Z w3.1) 2 1 b (J (P s t)+1) ((P s t).map (Si S6)++[Si S6 x]))(C:b.ownBlock=(U_ s t).ownBlock\/b.ownBlock=S (Z wr.1+1)):
 OA w3 (Se w8 ⟨G_ s,t,U⟩ b) ns G_ m (λy v=>if (y,v)=(s,t)then P s t++[x]else P y v)/\E w8 ⟨G_ s,t,U⟩=S (U_ s t)/\w8.frozen? ⟨G_ s,t,U⟩=Sn/\(∀q,q<Z wr.1->q≠G_ s->(U_ s t).ownBlock≠S q->w8.1[q]?=wr.1[q]?/\(Se w8 ⟨G_ s,t,U⟩ b).1[q]?=wr.1[q]?)/\Z wr.1<=Z (Se w8 ⟨G_ s,t,U⟩ b).1:=by
 have T:=h.4;have F:=c.4;have B:Z (D wr.drew j).1=Z wr.1+1:=aO _ _;have p:∀k,k<Z wr.1->(D wr.drew j).1[k]?=wr.1[k]?:=λk r=>Below.heap_alloc wr.drew _ _ r;have L:ON (D wr.drew j) (Z w3.1) ns G_ m P U_:=e.below ⟨R,R,R,O,p⟩;have M:=L.step d n x b c K (by rw[B];exact C);have u:∀k,k<Z w3.1->(U_ s t).ownBlock≠S k:=λk r l=>by have:=((e.4 s t d n).lt k l).1;omega
 have i:∀k,k<Z wr.1->(U_ s t).ownBlock≠S k->w8.1[k]?=wr.1[k]?:=λk a g=>G (c.5 k O λl=>g l.symm) (p k a);have z:=e.1 s d;have o:=i (G_ s) O (u _ z);refine⟨⟨G c.1 h.1,G c.2 h.2,G c.3 h.3,SF,λq a f=>?_,_,M⟩,G (Xc o) ((e.3 s d).cell n),G (bJ o) ((e.3 s d).frozen t),λq a f g=>⟨i q a g,G (Below.heap_setCell _ _ _ _ f) (i q a g)⟩,SF⟩;exact G (Below.heap_setCell _ _ _ _<|f s d) (G (i q O<|u q a) (h.5 q a f))
end
end
noncomputable def UU(a:List Xe)(v b i:N):List I:=match a[b]? with
 |none=>[]
 |some x=>Xi<|Uq a x v b i
open Classical in
noncomputable def N2(a:List Xe)(b i v:N):Bool:=match a[b]? with
 |none=>Sn
 |some x=>Ox a x b i v<|decide (UV a v b)
theorem De:UU x 0 n m=[]:=by
 unfold UU;cases x[n]?<;>rfl
theorem um:UU x (n+1) m k=if N2 x m k n=So then UU x n m k++[(n:I)]else UU x n m k:=by
 unfold UU N2;cases x[m]? with
 |none=>simp
 |some a=>
  simp only;unfold Uq;rw[dN,eU];by_cases h:Ox x a m k n (@decide (UV x n m) (Classical.propDecidable _))=So
  .rw[aU h];simp[h,Xi]
  rw[aM h];simp[h]
theorem qy(a:Wi)(v b i:N):J (UU a v b i)<=v:=by
 unfold UU;cases a[b]? with
 |none=>exact aN
 |some x=>
  simp only[Xi,bK];unfold Uq;exact aJ (fJ _ _) sP
noncomputable def pQ(a:Wi)(v b i:N)(s j:N):Wc:=if s<b\/s=b/\j<i then UU a (v+1) s j else UU a v s j
theorem E4(a:Wi)(v:N)(s j:N):pQ a v 0 0 s j=UU a v s j:=by
 unfold pQ;rw[aM O]
theorem FC(a:k<m):pQ x n m 0 k B=UU x (n+1) k B:=by
 unfold pQ;rw[aU<|bC a]
theorem Es(a:B=k->g<m):pQ x n k m B g=pQ x n (k+1) 0 B g:=by
 unfold pQ;by_cases h:B<k+1;·rw[aU (by by_cases e:B=k;(· exact aZ ⟨e,a e⟩);(· exact bC O)),aU<|bC h]
 rw[aM O,aM O]
theorem Gh(h:N2 x m k n=Sn)(s j:N):pQ x n m k s j=pQ x n m (k+1) s j:=by
 unfold pQ;by_cases e:s=m/\j=k
 .obtain⟨rfl,rfl⟩:=e;rw[aM O,aU O,um,h];simp
 by_cases a:s<m\/s=m/\j<k;·rw[aU a,aU O]
 rw[aM a,aM O]
theorem FI(h:N2 x m k n=So)(s j:N):(if (s,j)=(m,k)then pQ x n m k m k++[(n:I)]else pQ x n m k s j)=pQ x n m (k+1) s j:=by
 by_cases e:(s,j)=(m,k)
 .rw[aU e];injection e with e1 e2;subst e1 e2;unfold pQ;rw[aM O,aU O,um,aU h]
 rw[aM e];have b:¬(s=m/\j=k):=λh=>e (by rw[h.1,h.2]);unfold pQ;by_cases a:s<m\/s=m/\j<k;·rw[aU a,aU O]
 rw[aM a,aM O]
theorem FG(a:Wi)(v b i s j:N):J (pQ a v b i s j)<=v+1:=by
 unfold pQ;split;·exact qy _ _ _ _
 have:=qy a v s j;omega
structure PC(w2 wr:Ub)(u:Uj)(b:N)(m:Wk)(G_:Wk):Prop where
 low:Sw (Z w2.1) w2 wr
 own:Sx wr (Z w2.1) 86 1 u b ((Rg b).map λs=>X (S ⟨G_ s,0,U⟩) (m s) (m s))
 row:∀s,s<b->Z w2.1<=G_ s/\wr.rowIs (G_ s) 89 (m s) λ_=>X U 0 0
 ne:∀s s',s<b->s' < b->s≠s'->G_ s≠G_ s'
theorem PC.start(a:Ub)(m:Wk):PC a (D a<|.cells #[] 86) (X (S ⟨Z a.1,0,U⟩) 0 0) 0 m (λ_=>0):=⟨Xb Rf _,eI (base:=Z a.1) (e:=86) (size:=1) a #[] 0 sP sP R,λs h=>Sz h O,λs b h=>Sz h O⟩
theorem PC.push{wr:Ub}{u':Uj}{K:Obj}(h:PC w wr a n f F)(d:(D (D wr<|.cells (madeCells #[X U 0 0] (f n)) 89) K).grownBy v a.ownBlock)(L:Sx v (Z w.1) 86 1 u' (n+1) ((Rg n).map (λs=>X (S ⟨F s,0,U⟩) (f s) (f s))++[X (S ⟨Z wr.1,0,U⟩) (f n) (f n)])):
 PC w v u' (n+1) f (λs=>if s=n then Z wr.1 else F s):=by
 have C:=h.1.4;have x:=d.4;rw[aO,aO]at x;have z:∀q T t o,wr.rowIs q T t o->T≠86->a.ownBlock≠S q:=λq T t o i u e=>by
  let⟨c,j,_⟩:=i;obtain⟨e1,_⟩|⟨g,cap,cur,e1,_,b,_⟩:=h.2.2;·rw[e1]at e;cases e
  rw[e1]at e;injection e with e;have e:g=q:=e;subst e;rw[show wr.1[g]?=_ from j]at b;injection b with b;injection b with _ l;exact u l
 have B:=λq e=>(h.2.lt q e).2;have r:∀q,q<Z wr.1->a.ownBlock≠S q->v.1[q]?=wr.1[q]?:=λq j b=>G (d.5 q (by rw[aO,aO];omega) λe=>b e.symm) (G (Below.heap_alloc _ _ _<|by rw[aO];omega) (Below.heap_alloc _ _ _ j));have y:v.1[Z wr.1]?=(D wr<|.cells (madeCells #[Hq] (f n)) 89).1[Z wr.1]?:=G (d.5 _ (by rw[aO,aO];omega) λe=>by have:=B _ e.symm;omega) (Below.heap_alloc _ _ _<|by rw[aO];omega);refine⟨⟨G d.1 h.1.1,G d.2 h.1.2,G d.3 h.1.3,O,λq hq=>G (r q O λe=>by have:=(h.2.lt q e).1;omega) (h.1.5 q hq)⟩,?_,λs k=>?_,λs m j b l=>?_⟩
 .rw[dN,bG,eH,fZ,aU R,gH (g:=λs=>Hl (F s) (f s) (f s)) λs k=>by rw[aM<|oN (bE.1 k)]];exact L
 .by_cases e:s=n
  .subst e;rw[aU R];exact⟨C,(dG wr Hq (f s) 89).of_block y⟩
  rw[aM e];have i:=h.3 s O;exact⟨i.1,i.2.of_block<|r _ i.2.lt (z _ _ _ _ i.2 vY)⟩
 have p:=λs k=>(h.3 s k).2.lt;by_cases e1:s=n
 .have:=p m O;rw[aU e1,aM O];omega
 by_cases e2:m=n
 .have:=p s O;rw[aM e1,aU e2];omega
 rw[aM e1,aM e2];exact h.4 s m O O l
section
open Classical in
noncomputable def OP(xs:List Xe)(b v k:N):Bool:=match xs[b]? with
 |none=>Sn
 |some x=>JT x v (decide (UV xs v b)) k
section
variable {xs: Wi} {b v: N}
theorem C6:N2 xs b 0 v=(OP xs b v 0||Yo xs b v):=by
 unfold N2 OP Yo;cases h:xs[b]? with
 |none=>rfl
 |some x=>simp only[Ox,Yo,h]
theorem Dv{j:N}(a:j<J (Tu xs b)):N2 xs b (j+1) v=(OP xs b v (j+1)||decide ((Tu xs b)[j]=(v:I))):=by
 have c:=a;revert a;unfold N2 OP Tu at*;cases h:xs[b]? with
 |none=>intro a;exact Sz a sP
 |some x=>
  intro a;simp only[Z2,bK]at a;simp only[Ox,Z2,cM];rw[aC a]
open Classical in
theorem E7(a:b<J xs){q:Bool}(hq:q=So↔UV xs v b):OP xs b v (J (Tu xs b))=(q||Cg (PA xs b) (v:I)):=by
 have e:(@decide (UV xs v b) (Classical.propDecidable _))=q:=by rw[eQ,hq,bD]
 unfold OP Tu PA;rw[aC a];simp only[Z2,bK];rw[WT _ _<|aA,e,nF]
theorem Do{j:N}(a:j<J (Tu xs b))(c:j<J (OW xs b)):OP xs b v j=(Cg (OW xs b)[j] (v:I)||(OP xs b v (j+1)&&!decide ((Tu xs b)[j]=(v:I)))):=by
 revert a c;unfold OP Tu OW;cases h:xs[b]? with
 |none=>intro a;exact Sz a sP
 |some x=>
  intro a c;simp only[Z2,bK]at a;simp only[Z2,Jv,cM];exact qe _ _ a
open Classical in
theorem ET(a:b<J xs):OP xs b v 0=So↔Wh xs v b:=by
 unfold OP;rw[aC a];exact vk a<|by rw[bD]
theorem FE:J (OW xs b)=J (Tu xs b):=by
 unfold OW Tu;cases xs[b]? with
 |none=>rfl
 |some x=>simp[Jv,Z2]
end
theorem DY(xs:Wi)(b:N):∀l∈OW xs b,J l<=2:=λl a=>by
 unfold OW at a;cases h:xs[b]? with
 |none=>rw[h]at a;exact Sz a eA
 |some x=>
  rw[h]at a;let⟨y,_,c⟩:=aY.1 a;rw[<-c];exact oU y
structure Ob(wb wr:Ub)(gl n:N)(lv:Ys)(gi m:N)(f:Ys):Prop where
 low:Sw (Z wb.1) wb wr
 gll:gl<Z wb.1
 lr:wr.rowIs gl 4 n λz=>Sb (lv z)
 ge:Z wb.1<=gi
 ir:wr.rowIs gi 4 m λz=>Sb (f z)
section
variable {wb wr w': Ub} {gl n gi m: N} {lv f f': N -> Bool}
theorem Ob.below(h:Ob wb wr gl n lv gi m f)(k:Sw (Z wr.1) wr w'):Ob wb w' gl n lv gi m f:=⟨Xg h.1 k,h.2,h.3.of_block<|k.5 _ h.3.lt,h.4,h.5.of_block<|k.5 _ h.5.lt⟩
theorem Ob.congr(h:Ob wb wr gl n lv gi m f)(e:∀z,z<m->f z=f' z):Ob wb wr gl n lv gi m f':=⟨h.1,h.2,h.3,h.4,UC (C:=Sb) h.5 e⟩
theorem Ob.set(h:Ob wb wr gl n lv gi m f)(k:N)(q:Bool):Ob wb (Se wr ⟨gi,k,U⟩ (Sb q)) gl n lv gi m (λz=>if z=k then q else f z):=by
 have:=h.4;have:=h.2;exact⟨h.1.setCell (by show Z wb.1<=gi;omega) _,h.2,h.3.setOther (by show gl≠gi;omega) _,h.4,TS (C:=Sb) h.5 k q⟩
end
noncomputable def Oo(xs:Wi)(b v k z:N):Bool:=decide (k<z)&&N2 xs b z v
theorem Fd{xs:Wi}{b v k:N}{z:N}(a:z<k+1):Oo xs b v k z=Sn:=by unfold Oo;simp;omega
theorem Dy{xs:Wi}{b v j:N}{q:Bool}(hq:q=N2 xs b (j+1) v)(z:N):(if z=j+1 then q else Oo xs b v (j+1) z)=Oo xs b v j z:=by
 unfold Oo;by_cases e:z=j+1
 .subst e;rw[aU R,hq];simp
 rw[aM e];by_cases h:j<z;·rw[eB h,eB<|show j+1<z by omega]
 rw[dJ h,dJ<|show ¬j+1<z by omega]
theorem Em{xs:Wi}{b v:N}{q:Bool}(hq:q=N2 xs b 0 v)(z:N):(if z=0 then q else Oo xs b v 0 z)=N2 xs b z v:=by
 by_cases e:z=0;·subst e;rw[aU R,hq]
 rw[aM e];unfold Oo;rw[eB (show 0<z by omega),Bool.true_and]
def Gw(w w':Ub)(n V:N)(xs:Wi)(e:Ending):Prop:=∃(a c:N)(d:Wk),e=Rt (X (S ⟨a,0,U⟩) n c)/\Sw (Z w.1) w w'/\Z w.1<=a/\∀s,s<n->E w' ⟨a,s,U⟩=S (X (S ⟨d s,0,U⟩) (J (Tu xs s)+1) (J (Tu xs s)+1))/\Z w.1<=d s/\XR w' (Z w.1) (Z w'.1) (S ⟨d s,0,U⟩) ((Rg<|J (Tu xs s)+1).map (UU xs V s))
end
def Zj(k:N):Code->Option Code
 |.region i ops d=>if i=k then S (.region i ops d)else U
 |.seq x y=>match Zj k x with
  |some c=>S c
  |none=>Zj k y
 |.block _ c=>Zj k c
 |.scope c=>Zj k c
 |.loop c=>Zj k c
 |.cond _ x y=>match Zj k x with
  |some c=>S c
  |none=>Zj k y
 |_=>U
noncomputable def Gj:Code:=(f44.9.bind<|Zj 27).getD .skip
theorem F4(V:N)(d v u:N)(e:Wi)(lv:Ys)(c l:Wk)(h:Ub){wr:Ub}{t:Yt}{c0 c1 c2 c3 c5 W ab a0 bo b5 ce cf ch ci cj ck cl cm cn co cp cq cr cs ct cv cw cx cz c6 c7 c9 da db dc dd df di dj dk dl:Uj}(dn ds du dw dz d0 ea eb ec ed ee ef eg ei ej ek el em en eo ep eq er es et eu ev ey ez e0 e6 e7 e8 e9 fa fb fc fe fi fj fl fn fq fr fs fx fz f0 f4 f5 f6 f7 ga P_ R_ S_ T_ U_ W_ X_ Y_ Z_ aa ac ad af aj al ao ap aq ar az a1 a2 a3 a4 a5 a6 a7 a8 a9 ba bb bc bd be bf bh bi bl bm bn bp bq br bt bv bx b0 b1 b3 b4 b6 b7 b8 ca cb cc cd g3 g4 g5 g6 g7 g9 hb hc hd he hf hg hh hi hj hk hl hm hn ho cg:Uj)(hQ:Q (∀c_ (N_:Act) t_ n w_,t (.panic c_) (N_.put (S t_) n) w_->t (.panic c_) N_ w_))(hv:n<V)(hV:V<=2000)(b:g<m)(iv:i<d+1)(L_:Q (l g=d+1))(o:Q (OA h wr m c l<|pQ e n g i))(F:Q (wr.rowIs v 4 m λz=>Sb (lv z)))(M:Q (wr.rowIs u 4 (d+1) λz=>Sb (N2 e g z n)))(g1:Q (N2 e g i n=So))(gz:Q (E h ⟨B,g,U⟩=S (X (S ⟨c g,0,U⟩) (l g) (l g))))(M_:Q (∀s,s<m->B≠c s))(jf:B<Z h.1)(gq:Q (Z h.1<=v))(gp:Q (Z h.1<=u))(hN:Q (∀(hr ht hw hx hy hz h0 h1 h2 h3 h4 h5 h6 h7 h8 h9 ia ib ic ih:Uj)(w:Ub),Q (OA h w m c l<|pQ e n g (i+1))->Q (w.rowIs v 4 m λz=>Sb (lv z))->Q (w.rowIs u 4 (d+1) λz=>Sb (N2 e g z n))->t .normal ⟨#[c0,c1,c2,c3,X (S ⟨B,0,U⟩) m k,c5,Si S6 (n:I),a,Si S6 (g:I),A_,W,ab,a0,Si S6 (i:I),bo,b5,ce,cf,ch,ci,cj,ck,cl,cm,cn,co,cp,cq,cr,cs,ct,cv,cw,cx,cz,c6,c7,c9,da,db,dc,dd,df,di,dj,dk,dl,dn,ds,du,dw,dz,d0,ea,eb,ec,ed,ee,ef,eg,ei,ej,ek,el,em,en,eo,ep,eq,er,es,et,eu,ev,ey,ez,e0,e6,e7,e8,e9,fa,fb,fc,fe,fi,fj,fl,fn,fq,fr,fs,fx,fz,f0,f4,f5,f6,f7,ga,P_,R_,S_,T_,U_,W_,X_,Y_,Z_,aa,ac,ad,af,aj,al,ao,ap,aq,ar,az,a1,a2,a3,a4,a5,a6,a7,a8,a9,ba,bb,bc,bd,be,bf,bh,bi,bl,bm,bn,bp,bq,br,bt,bv,bx,b0,b1,b3,b4,b6,b7,b8,ca,cb,cc,cd,hr,ht,hw,hx,hy,hz,h0,h1,h2,h3,h4,h5,h6,h7,h8,h9,ia,ib,ic,ih,cg],[]⟩ w)):
 Code.wp prog Gj t ⟨#[c0,c1,c2,c3,X (S ⟨B,0,U⟩) m k,c5,Si S6 (n:I),a,Si S6 (g:I),A_,W,ab,a0,Si S6 (i:I),bo,b5,ce,cf,ch,ci,cj,ck,cl,cm,cn,co,cp,cq,cr,cs,ct,cv,cw,cx,cz,c6,c7,c9,da,db,dc,dd,df,di,dj,dk,dl,dn,ds,du,dw,dz,d0,ea,eb,ec,ed,ee,ef,eg,ei,ej,ek,el,em,en,eo,ep,eq,er,es,et,eu,ev,ey,ez,e0,e6,e7,e8,e9,fa,fb,fc,fe,fi,fj,fl,fn,fq,fr,fs,fx,fz,f0,f4,f5,f6,f7,ga,P_,R_,S_,T_,U_,W_,X_,Y_,Z_,aa,ac,ad,af,aj,al,ao,ap,aq,ar,az,a1,a2,a3,a4,a5,a6,a7,a8,a9,ba,bb,bc,bd,be,bf,bh,bi,bl,bm,bn,bp,bq,br,bt,bv,bx,b0,b1,b3,b4,b6,b7,b8,ca,cb,cc,cd,g3,g4,g5,g6,g7,g9,hb,hc,hd,he,hf,hg,hh,hi,hj,hk,hl,hm,hn,ho,cg],[]⟩ wr:=by
 conv=>arg 2;whnf
 have j0:(i:I)<=(d:I):=O;have j1:(i:I)<(d:I)+1:=O;have jv:(g:I)<(m:I):=O;have f:i<l g:=by rw[L_.o];exact iv
 obtain⟨g2,j⟩:=o.6;obtain⟨ua,uc,C,_⟩:=Xk<|j.4 g i b f;have p:=Y j;have P:=Y C;obtain⟨L,y⟩:∃i6,i6=J (pQ e n g i g i):=⟨_,R⟩;have j2:L<=2001:=oN<|FG e n g i g i;have q:=Y y;have g0:=Y (by have gb:=j.4 g i b f;rw[C,<-y]at gb;exact gb);have eG:E wr ⟨c g,i,U⟩=S (X ua L uc):=by rw[(j.3 g b).cell f,C,y]
 have r:=o.cell (λs hs=>M_ s hs) gz;rw[L_.o]at r;have j3:=o.4;have jl:=j.1 g b;have js:c g<Z wr.1:=O;have io:=M_ g b;have ir:B<Z wr.1:=aI wr _ r;have gt:=Y<|p.other F vY b f;have gs:=Y<|p.other M vY b f;have gv:Q ((g2 g i).ownBlock≠S B):=Y (λil=>by have:=((p.4 g i b f).lt _ il).1;omega);obtain⟨m0,i0,i1,i2,i3⟩:=Xq RH;clear j C y;refine Y7 (λw'=>E w' ⟨B,g,U⟩=S (X (S ⟨c g,0,U⟩) (d+1) (d+1))) λhHeld=>?_;refine X0 0 ?_;refine X0 1 ?_;refine X0 2 ?_;refine X0 3 ?_;refine X0 4 ?_;refine X0 5 ?_;refine X0 6 ?_;refine X0 7 ?_;refine X0 8 ?_;refine X0 9 ?_;refine X0 10 ?_;refine X0 11 ?_;refine X0 12 ?_;refine X0 13 ?_;refine X0 15 ?_;refine eS (rs:=[14,16]) vZ sP ?_;refine(bQ R (λK hK=>?_) (bQ R (λK hK=>?_) dY));go_simp;refine hK _ _ kP λhHeld=>?_;clear hK
 try simp only[xX]
 refine Xs 16 λK hK=>?_;go_simp;refine hK _ _ kP λhHeld=>?_;clear hK;rotate_left;go_simp;refine hK _ _ kP λhHeld=>?_;clear hK
 try simp only[xX]
 refine Xs 14 λK hK=>?_;go_simp;refine hK _ _ kP λhHeld=>?_;clear hK
 all_goals (
  refine Xs 17 λK hK=>?_;refine d6 R _ _ 35 R (Z h.1) 2 m0 (Si S6 0) 1 8 underlying35 i0 i1 i2 i3 R vY (X ua L uc) L ((pQ e n g i g i).map (Si S6)) R ?s1 ⟨Z wr.1,0,U⟩ 1 1 [Si S6 (n:I)] R R ?s2 ?s3 ?s4 ?s5 ?s6 ?_
  case s1=>exact(g0.drew).alloc _
  case s2=>exact Yf _ _ _
  case s3=>intro j4 hu;simp at hu;subst hu;rfl
  case s4=>unfold maxLen;omega
  case s5=>omega
  case s6=>simp;omega
  intro v8 w8 T gf _ ge;obtain⟨g8,c8,rfl,_,_⟩:=Xm T O;obtain⟨gd,hp,jj,x,i4⟩:=o.push (x:=(n:I)) (s:=g) (t:=i) p b f (by rw[P.o,<-q.o];exact gf) (by rw[<-q.o];exact T) (by rw[P.o,<-q.o];simpa using ge);rw[P.o,<-q.o]at hp;have q1:=x B ir io gv;have q2:=x v F.lt (oN gq.o) gt;have q3:=x u M.lt (oN gp.o) gs;have z6:=G (Xc (o:=g) q1.1) r;have z7:=G (Xc (o:=g) q1.2) r;have gg:=Y (gd.congr λs i5 _ _=>FI g1 s i5);have gh:=Y<|F.of_block q2.2;have gr:=Y<|M.of_block q3.2;clear T gf ge gd x i4 q1 q2 q3;refine hK _ _ z6 λhHeld=>?_;clear hK;refine X0 18 ?_;refine X0 19 ?_;refine Xs 20 λK hK=>?_;go_simp;refine hK _ _ z7 λhHeld=>?_;clear hK;refine Yq ?_;exact hN _ _ _ _ _ _ _ _ _ _ _ _ _ _ _ _ _ _ _ _ _ gg gh gr)
theorem Qe:(prog.info? 86).map (λi=>(i.8,i.3,i.4))=S (S<|.agg #[Hq],1,24):=vZ
theorem oX(a:Jy n x)(b:N):J (Tu x b)<=4000:=by
 unfold Tu;cases h:x[b]? with
 |none=>exact aN
 |some c=>simp only[Z2,bK];exact(a.10 c<|eN h).1
theorem qm(c_:N)(ha:Q (Xp w k B p x))(M:Q (m=J x))(hB:B<=Z w.1)(g:Q (Jy n x)):
 Sk prog 44 #[Sa #[H n,X p m c_]] w λl w'=>Gw w w' m n x l:=by
 have hn:m<=1000:=oP M.o g.1.2;have hV:=g.2;have a9:Sw (Z w.1) w (D w<|.cells #[Si S6 (n:I),X p m c_] 40):=Xb Rf _;have b5:=Y<|uf n p m c_ x k B _ (Y<|ha.keep (a9.mono hB)) M (oN a9.4) g;have cq:E (D w<|.cells #[Si S6 (n:I),X p m c_] 40) ⟨Z w.1,0,U⟩=S (Si S6 (n:I)):=by simp[go_sem]
 obtain⟨i0,eb,em,en,eo⟩:=Xq Qe
 go_in
 go_wp2_with fail
 refine b5.mono ?_;rintro l V⟨af,cf,rfl,bn,cn⟩;have dn:=Y<|Xg a9 bn;have g0:=oB bn cq sP;have bc:=Y cn;have eq:Z w.1<Z V.1:=aI V _ g0;clear bn a9 cq b5 cn;obtain⟨K,of,ds⟩:∃K of,af=S ⟨K,of,U⟩:=by
  obtain⟨b,es,_,l,_⟩:=bc 0<|oP M.o g.1.1;exact⟨b,es,l⟩
 subst ds;have aj:=Y bc.at_;clear bc;go_wp2_with fail
 obtain⟨o,hm⟩:∃o:Wk,o=λs=>J (Tu x s)+1:=⟨_,R⟩;have bi:Q (∀s,o s=J (Tu x s)+1):=Y (λs=>by rw[hm]);have eu:Q (∀s,o s<=4001):=Y (λs=>by rw[hm];have:=oX g s;show J (Tu x s)+1<=4001;omega);clear hm;have ch:=Y<|PC.start V o;generalize D V _=w2 at*
 go_loopw [4,5] (λc6 i wr=>∃(b:N)(c:Wk),b<=m/\i=Si S6 b/\Q (PC V wr c6 b o c)) λ_ i _=>m-(intOf i).toNat
 case atStart=>exact⟨0,λ_=>0,aN,R,ch⟩
 obtain⟨b,c,hb,rfl,r⟩:=hrel;clear ch;by_cases Q_:b<m
 .have ab:b<J x:=oN M.o;obtain⟨a0,n0,a1,n1,a2,n2,a3,n3,a4,a,a5,n5,c0,c1,c2,c3,c4,c5,dw,_,_,_,_,x4,_,_,_,_,eg,_,P_⟩:=YQ.row g aj r.1 ab;have dj:Q (a+1=o b):=Y (by rw[bi.o,P_.d.1]);have ba:=J9 (P:=prog) 78 89 (Sa #[X U 0 0]) 1 24 underlying78 Qd (a+1) O O;rw[show((a+1:N):I)=(a:I)+1 by omega]at ba;have el:S6.wrap ((a:I)+1)=(a:I)+1:=by rw[dF];omega
  have HO:=Y r.2;have aa:K<Z wr.1:=aI wr _ x4;clear P_;go_wp2_with (at_builtin;refine bT _ R _ _ 83 R (Z V.1) 86 i0 (Sa #[X U 0 0]) 1 24 underlying83 eb em en eo R vY _ _ _ R ((HO.alloc _).alloc _) ⟨Z wr.1+1,0,U⟩ 1 1 [X (S ⟨Z wr.1,0,U⟩) (a+1) (a+1)] R R ?c1 ?c2 ?c3 ?c4 ?c5 ?_)
  case c1=>
   have C:=Yf (D wr<|.cells (madeCells #[X U 0 0] (a+1)) 89) (X (S ⟨Z wr.1,0,U⟩) (a+1) (a+1)) 86;rw[aO]at C;exact C
  case c2=>intro c6 hu;simp at hu;subst hu;rfl
  case c3=>unfold maxLen;omega
  case c4=>omega
  case c5=>simp;have:=r.1.4;omega
  intro v8 T_ bq bo _ du;rw[dj.o]at bq bo;have dk:=Y<|r.push bo bq;clear bq bo du;go_wp2;exact⟨⟨b+1,_,O,gM,dk⟩,SA⟩
 have dz:m=b:=O;subst dz;have ef:0<m:=oP M.o g.1.1
 obtain⟨Z_,cO,rfl,_,_⟩:=Xm r.2 ef;have cb:Q (∀s,s<m->E wr ⟨Z_,s,U⟩=S (X (S ⟨c s,0,U⟩) (o s) (o s))):=Y (λs d=>by
  exact Jj r.2 (j:=s) (by simp[d]))
 have cg:=Y<|r.2.lt Z_ R;have ce:Q (∀s,s<m->Z_≠c s):=Y (λs d l=>by
  obtain⟨cc,L,_⟩:=(r.3 s d).2;obtain⟨e1,_⟩|⟨g_,cap,cur,e1,_,u,_⟩:=r.2.2;·cases e1
  injection e1 with e1
  injection e1 with e1;injection e1 with e1;subst e1;rw[l,show wr.1[c s]?=_ from L]at u;injection u with u;injection u with _ h3;exact Sz h3 vY)
 have b3:Q (OA wr wr m c o λs i=>UU x 0 s i):=Y ⟨R,R,R,aA,λ_ _ _=>R,λ_ _=>X U 0 0,⟨λs d=>(r.3 s d).2.lt,r.4,λs d=>(r.3 s d).2,λs i _ _=>by rw[De];exact dA,λs i s' j _ _ _ _ _=>bC R⟩⟩;have be:=Y λs d=>(r.3 s d).1;have ad:=Y r.1;have g1:=r.1.4;clear r hb Q_;go_wp2_with fail
 generalize wr=S_ at*;have al:Q (∀wr cj,OA S_ wr m c o cj->Sw (Z V.1) V wr):=Y λwr cj C=>⟨G C.1 ad.1,G C.2 ad.2,G C.3 ad.3,oN C.4,λq hq=>G (C.5 q O λs d=>by have:=be s d;omega) (ad.5 q hq)⟩
 go_loopw [6] (λi wr=>∃v:N,v<=n/\i=Si S6 v/\Q (OA S_ wr m c o λs i=>UU x v s i)) λi _=>n-(intOf i).toNat
 case atStart=>exact⟨0,aN,R,b3⟩
 clear b3;obtain⟨v,gt,rfl,W⟩:=hrel;have k0:=oB (al _ _ W) g0 eq;by_cases ee:v<n
 .have bt:=Y<|BS v cf (Y<|aj.keep (al _ _ W)) M g;go_wp2_with fail
  refine bt.mono ?_;rintro l w4⟨L_,rfl,co,ct,F,cx,cw⟩;have b4:=Y ((W.below co).congr λs i _ _=>(E4 x v s i).symm);have U_:=Y cx;have b6:=Y cw;have c9:=Y<|aJ W.4 ct;clear co ct cx cw W bt k0;go_wp2_with fail
  generalize wr=wo at*
  go_loopw [8] (λi wr=>∃b:N,b<=m/\i=Si S6 b/\Q (OA S_ wr m c o<|pQ x v b 0)/\Q (wr.rowIs L_ 4 m λz=>Sb (F z))) λi _=>m-(intOf i).toNat
  case atStart=>exact⟨0,aN,R,b4,U_⟩
  clear b4 U_;obtain⟨b,hb,rfl,aq,U_⟩:=hrel;by_cases Q_:b<m
  .have ab:b<J x:=oN M.o;have R_:=Y<|al.o _ _ aq;obtain⟨a0,n0,a1,n1,a2,n2,a3,n3,a4,a,a5,n5,c0,c1,c2,c3,c4,c5,dw,_,x1,_,x3,x4,x5,_,gr,_,eg,gs,P_⟩:=YQ.row g aj R_ ab;have O_:=Y P_;have bv:=Y P_.d.1;have ca:Q (o b=a+1):=Y (by rw[bi.o,<-P_.d.1]);have ba:=fM (P:=prog) 79 4 (Sb Sn) 1 underlying79 Q7 R S6 S6 (a+1) O O;rw[show((a+1:N):I)=(a:I)+1 by omega]at ba;have el:S6.wrap ((a:I)+1)=(a:I)+1:=by rw[dF];omega
   have aa:K<Z wr.1:=aI wr _ x4;clear P_
   go_upto_region 16 with fail
   have V_:Q (Ob wr (D wr<|.cells (madeCells #[Sb Sn] (a+1)) 4) L_ m F (Z wr.1) (a+1) (Oo x b v a)):=Y ⟨Xb Rf _,U_.lt,U_.alloc _,aA,UC (C:=Sb) (dG wr (Sb Sn) (a+1) 4) λz hz=>(Fd hz).symm⟩;generalize ej:D wr (Sc (madeCells #[Sb Sn] (a+1)) 4)=w5 at*;clear ej
   go_cut [11]from 44 to 176 λcc T=>cc=Sb (OP x b v a)/\Q (Ob wr T L_ m F (Z wr.1) (a+1) (Oo x b v a))
   case first=>
    have b7:=Y<|A8 cf (Y<|aj.keep (Xg R_ V_.1)) M g Q_ (Y V_.3) b6;go_wp2_with fail
    refine b7.mono ?_;rintro l w6⟨s,rfl,cz,cp⟩;have X_:=Y<|V_.below cp;have a7:=Y<|E7 ab cz;rw[<-bv.o]at a7;have y5:=oB X_.1 x5 aa;have da:=Y (YF a5 c5 (v:I) (PA x b) 0 (Z w6.1) w6 (Y<|(O_.u.2.keepS λq _ u=>X_.1.5 q<|oN R_.4).mono aA (oP X_.1.4 R_.4)) (Y O_.u.1) O);clear cp cz V_ b7;cases s with
    |true=>
     go_wp2;go_meet;exact⟨by rw[a7.o,Bool.true_or],X_⟩
    |false=>
     rw[jV]at a7;go_wp2_with fail
     refine da.mono ?_;rintro l T_⟨rfl,y⟩;have Y_:=y.symm;subst Y_;rw[<-a7.o];go_wp2;go_meet;exact⟨R,X_⟩
   obtain⟨rfl,f⟩:=hcut;clear V_ x5 ba;have et:=R_;have g2:=R_.4;generalize wr=e at*;go_wp2
   go_loopw [11,12] (λnw i T=>∃h:N,h<=a/\i=Si S6 h/\nw=Sb (OP x b v h)/\Q (Ob e T L_ m F (Z e.1) (a+1) (Oo x b v h))) λ_ i _=>(intOf i).toNat
   case atStart=>exact⟨a,aA,R,R,f⟩
   clear f;obtain⟨h,hk,rfl,rfl,f⟩:=hrel;cases h with
   |succ j=>
    have hj:j<J (Tu x b):=oN bv.o;have bp:j<J (OW x b):=by rw[FE];exact hj
    have t:=Y<|Dv (xs:=x) (b:=b) (v:=v) hj;have J_:=Y<|Do (xs:=x) (b:=b) (v:=v) hj bp;obtain⟨bd,od,ed,f6,cd⟩:=O_.d.2 j hj;obtain⟨br,or,er,gb,ar,cr,cl,cm⟩:=O_.r.2 j bp;have dl:Q (J ((OW x b)[j])<=1048576):=Y<|aJ (DY x b _<|aH bp) vY;subst ed er;generalize (Tu x b)[j]=bm at*;generalize (OW x b)[j]=rj at*;have z4:=oB f.1 x4 aa;have z3:=oB f.1 x3 aa;have zd:=G (XU f.1 O) cd;have zr:=G (XU f.1 O) cl;have bh:=Y λW_ (hW:Sw (Z e.1) e W_)=>YF ar cr (v:I) rj 0 (Z W_.1) W_ (Y<|(cm.keep (λq L u=>hW.5 q L) hW.4).at_) (Y R) dl;have ci:=f.5.cell (i:=j+1) O;have fi:=f.5.frozen<|j+1;have gv:S6.wrap ((j:I)+1-1)=(j:I):=by rw[dF];omega
    have gz:S6.wrap (j:I)=(j:I):=by rw[dF];omega
    have gh:(j:I)<(a:I):=O;have gi:(j:I)<(n3:I):=oN O_.r.1;have gg:(j:I)+1<(a:I)+1:=O;have f7:bd<Z wr.1:=aI wr _ zd;have gd:br<Z wr.1:=aI wr _ zr;have ga:K<Z wr.1:=aI wr _ z4;have ac:K≠Z e.1/\bd≠Z e.1/\br≠Z e.1:=O;have cs:=ac.1;have d0:=ac.2.1;have ea:=ac.2.2;clear cd cl cm ac;have g3:=λq=>G (bH wr ⟨Z e.1,j+1,U⟩ ⟨K,of+b*6+3,U⟩ q (kA cs)) z3;have g4:=λq=>G (bH wr ⟨Z e.1,j+1,U⟩ ⟨K,of+b*6+4,U⟩ q (kA cs)) z4;have g5:=λq=>G (bH wr ⟨Z e.1,j+1,U⟩ ⟨bd,od+j,U⟩ q (kA d0)) zd;have g6:=λq=>G (bH wr ⟨Z e.1,j+1,U⟩ ⟨br,or+j,U⟩ q (kA ea)) zr;generalize OP x b v (j+1)=nw at*;have P:Q (∀(q q':Bool),q=N2 x b (j+1) v->q'=OP x b v j->(Sb q':Uj)=Sb (OP x b v j)/\Ob e (Se wr ⟨Z e.1,j+1,U⟩ (Sb q)) L_ m F (Z e.1) (a+1) (Oo x b v j)):=Y (λq q' L u=>⟨by rw[u],(f.set (j+1) q).congr λz _=>Dy L z⟩);have bl:=Y λq=>(f.set (j+1) q).1;by_cases hd:bm=(v:I)
    .subst hd;rw[eB R]at t J_;cases nw
     all_goals (
      go_wp2_with fail
      refine(bh _<|bl So).mono ?_;rintro l T_⟨rfl,y⟩;subst y;generalize Cg rj (v:I)=hr at*;cases hr with
      |true=>
       go_wp2_with fail
       obtain⟨e1,e2⟩:=P So So (by rw[t.o];rfl) (by rw[J_.o];rfl);exact⟨⟨j,O,gM,e1,Y e2⟩,SL⟩
      |false=>
       go_wp2_with fail
       obtain⟨e1,e2⟩:=P So Sn (by rw[t.o];rfl) (by rw[J_.o];rfl);exact⟨⟨j,O,gM,e1,Y e2⟩,SL⟩)
    rw[dJ hd]at t J_;have ge:(bm==(v:I))=Sn:=by simpa using hd
    have gf:(bm != (v:I))=So:=by simpa using hd
    cases nw with
    |true=>
     go_wp2_with fail
     refine(bh _<|bl So).mono ?_;rintro l T_⟨rfl,y⟩;subst y;generalize Cg rj (v:I)=hr at*;cases hr with
     |true=>
      go_wp2_with fail
      obtain⟨e1,e2⟩:=P So So (by rw[t.o];rfl) (by rw[J_.o];rfl);exact⟨⟨j,O,gM,e1,Y e2⟩,SL⟩
     |false=>
      go_wp2_with fail
      obtain⟨e1,e2⟩:=P So So (by rw[t.o];rfl) (by rw[J_.o];rfl);exact⟨⟨j,O,gM,e1,Y e2⟩,SL⟩
    |false=>
     go_wp2_with fail
     refine(bh _<|bl Sn).mono ?_;rintro l T_⟨rfl,y⟩;subst y;generalize Cg rj (v:I)=hr at*;cases hr with
     |true=>
      go_wp2_with fail
      obtain⟨e1,e2⟩:=P Sn So (by rw[t.o];rfl) (by rw[J_.o];rfl);exact⟨⟨j,O,gM,e1,Y e2⟩,SL⟩
     |false=>
      go_wp2_with fail
      obtain⟨e1,e2⟩:=P Sn Sn (by rw[t.o];rfl) (by rw[J_.o];rfl);exact⟨⟨j,O,gM,e1,Y e2⟩,SL⟩
   |zero=>
    clear x3 x4
    go_upto_region 22 with fail
    have b0:=Y λW_ (hW:Sw (Z e.1) e W_)=>YF a1 c1 (v:I) (Of x b) 0 (Z W_.1) W_ (Y<|(O_.p.2.keepS λq _ u=>hW.5 q O).mono aA (oN hW.4)) (Y O_.p.1) O;have a6:Q (N2 x b 0 v=(F b||Cg (Of x b) (v:I))):=Y (by
     rw[C6,qH];congr 1;rw[eQ,ET ab,b6.o b Q_])
    go_cut []from 44 to 176 λT=>Q<|Ob e T L_ m F (Z e.1) (a+1) λz=>N2 x b z v
    case first=>
     have kl:=f.3.cell Q_;have ci:=f.5.cell (i:=0) O;have fi:=f.5.frozen 0;have z1:=oB f.1 x1 aa;have P:=Y λq L=>(f.set 0 q).congr λz _=>Em L z;have bb:=Y<|b0.o _ f.1;generalize Cg (Of x b) (v:I)=ph at*;generalize F b=lb at*;cases lb with
     |false=>
      go_wp2_with fail
      refine bb.mono ?_;rintro l T_⟨rfl,y⟩;have Y_:=y.symm;subst Y_;go_wp2;go_meet;exact Y<|P.o _ (by rw[a6.o];rfl)
     |true=>
      go_wp2_with fail
      refine bb.mono ?_;rintro l T_⟨rfl,y⟩;have Y_:=y.symm;subst Y_;cases ph with
      |false=>
       go_wp2;go_meet;exact Y<|P.o _ (by rw[a6.o];rfl)
      |true=>
       go_wp2_with fail
       refine bb.mono ?_;rintro l w9⟨rfl,ek⟩;have e9:=ek.symm;subst e9;go_wp2;go_meet;exact Y<|P.o _ (by rw[a6.o];rfl)
    have a8:=hcut;have b8:=Y<|aq.below a8.1;have bx:=Y a8.3;have b1:=Y a8.5;have ac:=a8.5.lt;clear hcut f b0 a6 x1;have ep:=aq.4;go_wp2_with fail
    generalize wr=wp at*
    go_loopw [13] (λi T=>∃h:N,h<=a+1/\i=Si S6 h/\Q (OA S_ T m c o<|pQ x v b h)/\Q (T.rowIs L_ 4 m λz=>Sb (F z))/\Q (T.rowIs (Z e.1) 4 (a+1) λz=>Sb (N2 x b z v))) λi _=>a+1-(intOf i).toNat
    case atStart=>exact⟨0,aN,R,b8,bx,b1⟩
    clear b8 bx b1;obtain⟨h,hk,rfl,az,ao,ap⟩:=hrel;by_cases cv:h<a+1
    .have ck:=ap.cell cv;have gp:(h:I)<=(a:I):=O;have gq:(h:I)<(a:I)+1:=O;cases hps:N2 x b h v with
     |false=>
      rw[hps]at ck;have t:=Y hps;clear hps;go_wp2;exact⟨⟨h+1,O,gM,Y (az.congr λs i _ _=>Gh t s i),ao,ap⟩,SA⟩
     |true=>
      rw[hps]at ck;have t:=Y hps;clear hps;go_wp2_with fail
      refine F4 n a L_ (Z e.1) x F c o S_ _ _ _ _ _ _ _ _ _ _ _ _ _ _ _ _ _ _ _ _ _ _ _ _ _ _ _ _ _ _ _ _ _ _ _ _ _ _ _ _ _ _ _ _ _ _ _ _ _ _ _ _ _ _ _ _ _ _ _ _ _ _ _ _ _ _ _ _ _ _ _ _ _ _ _ _ _ _ _ _ _ _ _ _ _ _ _ _ _ _ _ _ _ _ _ _ _ _ _ _ _ _ _ _ _ _ _ _ _ _ _ _ _ _ _ _ _ _ _ _ _ _ _ _ _ _ _ _ _ _ _ (Y λ_ _ _ _ _ C=>C) ee hV Q_ cv ca az ao ap t (Y<|cb.o b Q_) ce cg.2 c9 (Y ep) (Y ?_);intro ey ez e0 e6 e7 fa fb fc fe fj fl fn fq fr fs fx fz f0 f4 f5 w9 c7 c8 db;clear az ao ap ck;go_wp2;exact⟨⟨h+1,O,gM,c7,c8,db⟩,SA⟩
    have ec:h=a+1:=O;subst ec;have di:=Y (az.congr λs i _ hi=>Es (m:=a+1) λl=>by subst l;rw[<-ca.o];exact hi);go_wp2;exact⟨⟨b+1,O,gM,di,ao⟩,SA⟩
  have dc:Q (OA S_ wr m c o λs i=>UU x (v+1) s i):=Y (aq.congr λs i d _=>by rw[show b=m by omega];exact FC d);go_wp2;exact⟨⟨v+1,O,gM,dc⟩,SA⟩
 have ei:v=n:=O
 subst ei;have df:Q (∀s,s<m->E wr ⟨Z_,s,U⟩=S (X (S ⟨c s,0,U⟩) (J (Tu x s)+1) (J (Tu x s)+1))/\Z w.1<=c s/\XR wr (Z w.1) (Z wr.1) (S ⟨c s,0,U⟩) ((Rg<|J (Tu x s)+1).map (UU x v s))):=Y (λs d=>by
  obtain⟨ev,hU⟩:=W.6;have L:=W.cell (λs d=>ce s d) (cb s d);have u:=hU.ints d (L:=Z w.1) (oN<|be s d);rw[bi.o]at L u;exact⟨L,oN<|be s d,u⟩)
 have dd:=Y<|al.o _ _ W;go_wp2;go_ret;exact⟨Z_,cO,c,R,dn.trans<|dd.mono O,oN cg.1,df⟩
section
attribute [local go_sem] Oper.semAt_some
theorem vF(n:N){v1 v2 v3 v4 v5:Uj}(g b C:N)(w:Ub):
 CallsIn Fence.wide n prog 126 #[Sa #[a,v1,v2,v3,v4,v5],Sa #[X (S ⟨g,0,U⟩) b C]] w λe c=>e=Rt (.func (.func 167) #[] #[Sj (S ⟨Z w.1+1,0,U⟩),Sj (S ⟨Z w.1,0,U⟩)])/\c=D (D w<|.cells #[a,v1,v2,v3,v4,v5] 71) (Sc #[X (S ⟨g,0,U⟩) b C] 113):=by
 refine iD func126 R trivial ?_ R;simp only[ntmps126,xY,Nat.reduceAdd,Nat.reduceSub];gi_wp2;go_ret;exact⟨R,R⟩
end
section
attribute [local go_sem] Oper.semAt_some
theorem Po.lou{go:Wk}(h:Po w v m k x B g f go F M N_)(e:Jy n x)(s:m=J x):∀b,b<m->∀a,a<64*k->(Xh (N_ b) a=So↔UV x a b):=λb j a i=>by
 let⟨u,T,r,o,q1,q2,q3,q4,p,q⟩:=h.8;have l:=λb j a i=>(p b j a i).trans (Ff e q1 q2 q3 (ord:=(·∈o)) q4 O);have d:b<J x:=O;rw[q b j a,q3 b d,<-KE e d];constructor
 .rintro(h|⟨t,c,h⟩);·exact bC h
  exact aZ ⟨t,c,(l t (oN<|e.1.tg _ d _ c) a i).1 h⟩
 rintro(h|⟨t,c,h⟩);·exact bC h
 exact aZ ⟨t,c,(l t (oN<|e.1.tg _ d _ c) a i).2 h⟩
theorem FW(x:Xe)(a:Wk)(b:i<=J x.2):∃W,(i,W)∈TZ (J x.2) a (NS x):=by
 rw[qw];cases i with
 |zero=>exact⟨_,fB _<|cS.2 R⟩
 |succ j=>
  refine⟨_,dD _<|aY.2 ⟨⟨j,b⟩,?_,R⟩⟩;unfold Us;rw[aW sP];exact kU.2<|lX _
end
section
noncomputable def mm(a:List Xe)(V b:N):List (List N):=match a[b]? with
 |none=>[]
 |some x=>((Us (J x.2) 0).map λj:Fin (J x.2)=>Uq a x V b<|(j:N)+1)++[Uq a x V b 0]
noncomputable def Zw(a:Wi)(V k:N):List Wa:=(Rg k).flatMap (mm a V)
theorem VJ{a:Wi}{V k:N}:Zw a V (k+1)=Zw a V k++mm a V k:=by
 unfold Zw;rw[dN,eZ];simp
theorem Bg(a:Wi)(V:N){k n:N}(h:k<=n):Zw a V k <+: Zw a V n:=by
 induction n with
 |zero=>rw[show k=0 by omega];exact mD _
 |succ n b=>
  by_cases e:k=n+1;·rw[e];exact mD _
  rw[VJ];exact(b O).trans (List.prefix_append _ _)
theorem CZ{V:N}{a:Wi}(f:Jy V a){b:N}(d:b<J a){c:Wk}{p:N}(e:V<=p)(hq:∀v,v<p->(Xh c v=So↔UV a v b)):(TZ (J a[b].2) c (NS a[b])).map (λq=>Mq q.2 p)=mm a V b:=by
 rw[gH (g:=λq=>Uq a a[b] V b q.1) λq h=>wW f d e hq (i:=q.1) (W:=q.2) h,qw];unfold mm;rw[aC d];simp
def On(p:N)(s:Sd):Wa:=Mq s.W p
theorem vd{p:N}{a:List Sd}:a.map (On p)=(a.map Sd.dat).map (λq=>Mq q.2 p):=by
 rw[jO];rfl
def pm(V a z:N)(p:Sd)(b:Ub):Prop:=N1 V a p.W/\xn a z p b
def ru(a z:N)(s:Sd):Zh:=#[Sa #[X (S ⟨z,0,U⟩) a s.C]]
theorem Zf.far{n₀:N}{Ms:Vv}{u f V:Ub}(h:Zf n₀ Ms u f)(e:n₀<=Z u.1)(k:∀q,q<Z u.1->V.1[q]?=f.1[q]?)(d:Z f.1<=Z V.1):Zf n₀ Ms u V :=
 ⟨aJ h.1 d,λq b a=>G (k q O) (h.2 q b a),λq o b a c=>G (k q (aS.1 a).1) (h.3 q o b a c)⟩
theorem Kd{B:N}{u e V:Ub}(h:KeepsFrom B u e)(k:∀q,q<Z u.1->V.1[q]?=e.1[q]?)(d:Z e.1<=Z V.1):KeepsFrom B u V :=
 ⟨aJ h.1 d,λq o b a c=>G (k q (aS.1 a).1) (h.2 q o b a c)⟩
structure O8(W u:Ub)(n₀:N)(Ms:Vv)(J_:N->List Sd->Vy)(s0:List Sd)(z:N)(ss:List Sd)(V:Ub):Prop where
 j:J_ z (s0++ss) V
 kp:Zf n₀ Ms u V
 kf:KeepsFrom (Z W.1) u V
structure Pk(W u:Ub)(Jx:List Sd->Vy)(s0 ss:List Sd)(V:Ub):Prop where
 j:Jx (s0++ss) V
 kf:KeepsFrom (Z W.1) u V
section
variable {W u: Ub} {n₀: N} {Ms: N -> Prop} {J_: N -> List Sd -> Ub -> Prop} {Jx: List Sd -> Ub -> Prop} {s0: List Sd}
theorem O8.own(b:∀z,OwnFrom (Z W.1)<|J_ z)(d:Z W.1<=Z u.1)(c:n₀<=Z u.1)(z:N):OwnFrom (Z u.1) (O8 W u n₀ Ms J_ s0 z):=λj l V row h k q=>by
 have g:=h.2.1;have a:∀i,i<Z u.1->V.1[i]?=l.1[i]?:=λi f=>k.5 i O (λe=>by have:=(q i e.symm).1;omega);exact⟨b z _ l V row h.j k λr e=>⟨oN<|(q r e).1,(q r e).2⟩,h.2.far c a k.4,Kd h.3 a k.4⟩
theorem Pk.own(a:OwnFrom (Z W.1) Jx)(c:Z W.1<=Z u.1):OwnFrom (Z u.1) (Pk W u Jx s0):=λg j V row h k q=>by
 have f:=h.2.1;have b:∀i,i<Z u.1->V.1[i]?=j.1[i]?:=λi d=>k.5 i O (λe=>by have:=(q i e.symm).1;omega);exact⟨a _ j V row h.j k λr e=>⟨oN<|(q r e).1,(q r e).2⟩,Kd h.2 b k.4⟩
theorem O8.turn(d:∀z s V a,Z W.1<=z->J_ z s V->V.grownBy a (S z)->J_ z s a)(g:Z W.1<=Z u.1)(f:n₀<=Z u.1){z:N}(m:Z u.1<=z){c:List Sd}{n V:Ub}(h:O8 W u n₀ Ms J_ s0 z c n)(k:n.grownBy V (S z)):O8 W u n₀ Ms J_ s0 z c V:=by
 have l:=h.2.1;have b:∀i,i<Z u.1->V.1[i]?=n.1[i]?:=λi j=>k.5 i O (λe=>by injection e with e;omega);exact⟨d z _ n V O h.j k,h.2.far f b k.4,Kd h.3 b k.4⟩
end
end
section
attribute [local go_sem] Oper.semAt_some
theorem uF(L_:Vv)(cz:E w (A m 0)=S (H g))(ez:E w (A m 1)=S (X p i c))(ha:Q (Xp w k B p x))(hx:Q (i=J x))(hB:B<=n)(fq:n<=Z w.1)(hO:Q (Yy w))(hT:Q (Yb w))(c6:(0: N)<n)(c7:(1: N)<n)(V:Q (Jy g x))(b4:Q (j=(g+63)/64))(hM:Q (∀a,k<=a->a<B->¬L_ a))(V_:Q (∀a,Z w.1<=a->¬L_ a))(cr:Q (¬L_ 0))(cs:Q (¬L_ 1)):
 lf Fence.wide 9 prog 125 #[Hn m] (ru j) (pm g j) (Zf n L_) (λh=>h.map (On<|64*j)=Zw x g i) (λh=>h.map (On<|64*j) <+: Zw x g i) (i*4002) True True w:=by
 intro z bv Jx W hW hl hJ co cp cn hY h0;have HY:=Y hY;have HJ:=Y hJ;have ej:=Y co;have ek:=Y<|cp trivial;have bm:=Y<|cn trivial;have H0:=Y h0;clear hY hJ cp h0 co cn;have di:=hW.4;have hn:i<=1000:=oP hx.o V.1.2;have hV:=V.2;have ev:j<=100:=oN b4.o;have cw:g<=64*j:=oN b4.o;have cm:m<Z w.1:=aI w _ cz;have k0:=oB hW cz cm;have k1:=oB hW ez cm;refine callsIn_of_wp_marks func125 R trivial ?_ R;simp only[ntmps125,xY,Nat.reduceAdd,Nat.reduceSub];have dj:=λP=>G (bP W P (A m 0) (by show m<_;omega)) k0;have dk:=λP=>G (bP W P (A m 1) (by show m<_;omega)) k1;gi_wp2;have bh:Q (Sw (Z W.1) W<|D W (Sc #[.func (.yield z) #[] #[]] 205)):=Y<|Xb Rf _;have df:E (D W<|.cells #[.func (.yield z) #[] #[]] 205) (A (Z W.1) 0)=S (.func (.yield z) #[] #[]):=by simp[go_sem]
 have fz:Z (D W<|.cells #[.func (.yield z) #[] #[]] 205).1=Z W.1+1:=sP;have a0:=dj<|.cells #[.func (.yield z) #[] #[]] 205;have a1:=dk<|.cells #[.func (.yield z) #[] #[]] 205;generalize D W _=wa at*;clear dj dk k0 k1;have bi:=Y<|hW.trans (bh.mono di);have bl:=Y<|KO g p i c x k B wa (Y<|ha.keep (bi.mono O)) hx O V (Y<|hO.keep bi hO.1) (Y<|hT.keep bi hT.1);rw[<-b4.o]at bl;refine⟨trivial,(bM.2 bl).mono ?_⟩;rintro bd s⟨Gi,t,gi,go,ci,WI,WX,rfl,r⟩;have ca:=Y<|r.lou V hx;have b5:=Y r.1;have fr:=r.1.4;have fb:Z wa.1<=t/\t<Z s.1:=⟨r.6.2,r.3.1.lt⟩;have ch:=Y r.3;have eg:=Y λe7 hi=>(r.7 e7 hi).2;have es:Q (∀F,XA<|WX F):=Y r.5;have b0:=G (XU r.1 O) a0;have b1:=G (XU r.1 O) a1;have y1:=G (XU r.1 O) df;have eu:=λP=>G (bP s P (A m 1) (by show m<_;omega)) b1;clear r bl a0 a1 df;gi_wp2;have bx:(λx9:Ub=>Q (Sw (Z s.1) s x9)/\E x9 (A (Z s.1) 1)=S (Hl t i i)/\Z x9.1=Z s.1+1) (D s<|.cells #[Hl Gi i i,Hl t i i] 116):=⟨Y<|Xb Rf _,SC,sP⟩;generalize D s _=w2 at*;let⟨a8,c9,fs⟩:=bx;have ck:=Y<|Xg (Xg bh b5) a8;have cl:=Y<|hW.trans (ck.mono di);have et:=Y<|G (XU a8 O) y1;have en:=Y c9;have bq:Q (XK w2 t i j go (λ_=>j) WX):=Y<|ch.keep a8;have ad:=Y<|H0.o (Z W.1) w2 aA O ck;clear c9 y1 b0 b1 eu a8 b5 ch bh;refine nH (λaa wr=>∃(a K:N)(T_:Wa)(h:List Sd)(u4 u5 dl dn du dw dz d0 eb u21 u22 ec ed u31:Uj),a<=i/\aa=⟨#[.func (.yield z) #[] #[],Hn m,Hn (Z W.1),Hn (Z s.1),u4,u5,Su,Su,Sa #[H g,X p i c],Sa #[Hl Gi i i,Hl t i i],Ho m 1,X p i c,H i,H a,dl,dn,du,dw,dz,d0,eb,u21,u22,ec,ed,Su,Su,Su,Su,Su,Su,u31],O7 T_⟩/\Q (Zf n L_ w2 wr)/\Q (KeepsFrom (Z W.1) w2 wr)/\Q (ZJ wr (Z w2.1) T_)/\Z W.1<=K/\Q (bv K h wr)/\Q (h.map (On<|64*j)=Zw x g a)/\Q (J h<=a*4002)) (λaa _=>i-(intOf<|aa.1.getD 13 Su).toNat) ?_ ?_;·exact⟨0,Z W.1,[],[],_,_,_,_,_,_,_,_,_,_,_,_,_,_,aN,R,Y<|Zf.refl _,Y<|KeepsFrom.refl _ _,Y ⟨iU,λ_ l=>Sz l eA,λ_ l=>Sz l eA⟩,aA,ad,Y R,Y<|aN⟩
 rintro aa wr⟨a,K,T_,h,u4,u5,dl,dn,du,dw,dz,d0,eb,u21,u22,ec,ed,u31,hk,rfl,ap,el,S_,hz,b7,bt,b8⟩;clear ad;have f7:=ap.1;by_cases M_:a<i
 .have ab:a<J x:=oN hx.o;let⟨F,af,ea,cx,hc⟩:=ha a ab;subst ea;let⟨P_,Q_,N_,O_,e0,e1,⟨e2,e3,e4,e5⟩,db,c8⟩:=hc;have ey:F<Z w.1:=O;have Z_:∀(q:N)(C:Uj),E w (A F q)=S C->E wr (A F q)=S C:=λq C l=>ap.cell (oB cl l ey) (hM F cx.1 cx.2);have f0:=Z_ _ _ e0;have f1:=Z_ _ _ e1;have f2:=Z_ _ _ e2;have f3:=Z_ _ _ e3;have f4:=Z_ _ _ e4;have f5:=Z_ _ _ e5;have cf:=Y db;have b6:=Y c8;have aq:=Y<|V.10 x[a] (aH ab);have ce:=Y<|qF V (aH ab);have cd:=Y<|V.3 x[a] (aH ab);have cj:=Y<|V.4 x[a] (aH ab);have br:=Y<|CZ V ab cw (ca a M_);let⟨L,hX⟩:∃L,L=x[a]:=⟨_,R⟩;rw[<-hX]at f0 f1 f2 f3 f4 f5 cf b6 aq ce cd cj br;clear hX db c8 e0 e1 e2 e3 e4 e5 Z_;gi_wp2
  have bx:(λx9:Ub=>Sw (Z wr.1) wr x9/\Z wr.1+1<=Z x9.1/\(∀q C,#[X P_ (J L.1) Q_,X N_ (J L.2) O_,H L.3.1,H L.3.a,H L.3.3,H L.3.4][q]?=S C->E x9 (A (Z wr.1) q)=S C)) (D wr<|.cells #[X P_ (J L.1) Q_,X N_ (J L.2) O_,H L.3.1,H L.3.a,H L.3.3,H L.3.4] 71):=⟨Xb Rf _,sP,(λq C l=>by
   rw[eC];exact l)⟩
  generalize D wr _=f at*;let⟨be,f6,ac⟩:=bx;have x0:=ac 0 _ R;have x1:=ac 1 _ R;have x2:=ac 2 _ R;have x3:=ac 3 _ R;have x4:=ac 4 _ R;have x5:=ac 5 _ R;have s1:=G (be.cell (p:=A (Z s.1) 1) (by show Z s.1<_;omega)) (ap.cell en<|V_ _ (by show Z w.1<=Z s.1;omega));have s2:=G (be.cell (p:=A t a) (by show t<_;omega)) (ap.cell (bq.1.cell M_) (V_ _<|by show Z w.1<=t;omega));have ee:=Y be;clear be ac f0 f1 f2 f3 f4 f5;refine Tc (λR_=>E R_ (A (Z wr.1) 0)=S (X P_ (J L.1) Q_)/\E R_ (A (Z wr.1) 1)=S (X N_ (J L.2) O_)/\E R_ (A (Z wr.1) 2)=S (H L.3.1)/\E R_ (A (Z wr.1) 3)=S (H L.3.a)/\E R_ (A (Z wr.1) 4)=S (H L.3.3)/\E R_ (A (Z wr.1) 5)=S (H L.3.4)/\E R_ (A (Z s.1) 1)=S (Hl t i i)/\E R_ (A t a)=S (Hl (go a) j j)) λhHeld=>?_;refine Yi 0 ?_;refine Yi 1 ?_;refine Yi 2 ?_;refine Yi 3 ?_;refine Yi 4 ?_;refine Yi 5 ?_;refine Yc 6 λe9 hK=>?_;go_simp;refine⟨trivial,(vF 8 (go a) j j f.drew).mono ?_⟩;rintro bd u⟨rfl,a7⟩;have b3:Sw (Z f.1) f u:=by rw[a7];exact Xb (Xb (Below.refl (Z f.1) f).drew _) _
  have fx:Z f.1+2<=Z u.1:=by rw[a7,aO,aO];exact aA
  have Y_:∀q C,#[X P_ (J L.1) Q_,X N_ (J L.2) O_,H L.3.1,H L.3.a,H L.3.3,H L.3.4][q]?=S C->E u (A (Z f.1) q)=S C:=λq C l=>by
   rw[a7,bP _ _ (A (Z f.1) q) (by rw[aO];show Z f.1<Z f.1+1;omega)];exact G (eC f.drew _ _ q) l
  have dc:E u (A (Z f.1+1) 0)=S (Hl (go a) j j):=by
   rw[a7];have:=eC (D f.drew<|.cells #[X P_ (J L.1) Q_,X N_ (J L.2) O_,H L.3.1,H L.3.a,H L.3.3,H L.3.4] 71) #[Hl (go a) j j] 113 0;rw[aO]at this;exact this
  have H_:=λ(bb q:N)(hb:bb<Z f.1)=>b3.cell (p:=A bb q) hb;have z0:=G (H_ (Z wr.1) 0 O) x0;have z1:=G (H_ (Z wr.1) 1 O) x1;have z2:=G (H_ (Z wr.1) 2 O) x2;have z3:=G (H_ (Z wr.1) 3 O) x3;have z4:=G (H_ (Z wr.1) 4 O) x4;have z5:=G (H_ (Z wr.1) 5 O) x5;have t1:=G (H_ (Z s.1) 1 O) s1;have t2:=G (H_ t a O) s2;have al:=Y<|Xg ee b3;have ba:=Y<|ap.trans (Zf.of_below al O);have ef:=Y (el.trans ⟨al.4,λq P _ b _=>G (al.5 q (aS.1 b).1) b⟩);have a6:=λq d b=>G (ba.2 q d b) (cl.5 q O)
  have ep:Q (UI L k B (Z f.1) n (Z u.1) u):=Y ⟨hO.of_block (a6 _ c6 cr) O,hT.of_block (a6 _ c7 cs) O,⟨P_,Q_,N_,O_,Y_ 0 _ R,Y_ 1 _ R,⟨Y_ 2 _ R,Y_ 3 _ R,Y_ 4 _ R,Y_ 5 _ R⟩,cf.keepS λq d b=>a6 q O<|hM q d b,b6.keepS λq d b=>a6 q O<|hM q d b⟩,O,O,c6,c7,O⟩;have fi:=eg a M_;have er:Q (Cp u (go a) j j (WX a)):=Y ((bq.2 a M_).of_block (by
   let⟨P,d,b⟩:=(bq.2 a M_).obj;rw[d];exact ba.3 _ P (V_ _ O) d b))
  have eo:=Y dc;have ei:Q (∀e V',Z u.1<=e->Sw (Z u.1) u V'->bv e h V'):=Y λe V' d b=>bm.1 K e h wr V' O b7<|(al.mono O).trans (b.mono O);refine hK _ _ ⟨z0,z1,z2,z3,z4,z5,t1,t2⟩ λhHeld=>?_;clear hK;refine ZV ?_;have cb:Q (∀(T:N)(M:Ub),Z u.1<=T->KeepsFrom (Z W.1) u M->M.1[T]?=S (.deferred (S []))->ZJ M (Z w2.1) (T::T_)):=Y (λT M d b v=>by
   have hl:=λq hq=>(aS.1<|S_.3 q hq).1;refine⟨fL.2 ⟨λhq=>by have:=hl T hq;omega,S_.1⟩,λq hq=>?_,λq hq=>?_⟩
   .rcases cH.1 hq with rfl|hq;·omega
    exact S_.2 q hq
   obtain rfl|hq:=cH.1 hq;·exact v
   have h5:=S_.2 q hq
   exact b.2 q _ O (G (al.5 q<|hl q hq) (S_.3 q hq)) R)
  clear hHeld z0 z1 z2 z3 z4 z5 t1 t2 x0 x1 x2 x3 x4 x5 s1 s2 dc H_ b3 Y_ a7 a6;gi_wp2
  refine nX (F:=Fence.wide) (n:=9) R vY (gf:=167) (lb:=#[Hn<|Z f.1+1,Hn (Z f.1)]) R trivial (enters_of func167 vZ R) (tU L_ ep eo er (Y<|es.o a) ev cw hM (Y<|V_.o _ O) (Y λq hq=>V_ q O) cr cs cd cj aq.1 aq.2 ce (Y λe8 d b=>((ca a M_ e8 d).1 b).val V ab)) (λK=>qj _ _ _ _ K) (λl a=>l.trans a) (λW z af o' d b v=>Zf.putObj W z af o' O b v) Rf (λ_ _=>R)
   (λe=>O8 W u n L_ bv h e) (λcc J_ M=>cc=.ret/\Pk W u Jx h J_ M) (λe=>O8.own HJ O O e) ?ownX (λ_ e ga aj A' bf l ar=>l.turn ek O O bf ar) (λl=>l.elim) ?start
   (λe I_ a' M=>∃G_:N,a'=⟨#[.func (.yield z) #[] #[],Hn m,Hn (Z W.1),Hn (Z s.1),H a,Hn (Z wr.1),Su,Hn G_,Sa #[H g,Hm F af i c],Sa #[Hl Gi i i,Hl t i i],Ho m 1,Hm F af i c,H i,H a,Sb So,H a,Ho F<|af+a*6,Sa #[X P_ (J L.1) Q_,X N_ (J L.2) O_,H L.3.1,H L.3.a,H L.3.3,H L.3.4],Sa #[X P_ (J L.1) Q_,X N_ (J L.2) O_,H L.3.1,H L.3.a,H L.3.3,H L.3.4],Ho (Z s.1) 1,Hl t i i,H a,Ho t a,Sa #[Hl (go a) j j],.func (.func 167) #[] #[Hn<|Z f.drew.1+1,Hn (Z f.drew.1)],H (I_.i:I),Sa #[Hl e j I_.C],Su,Su,Su,Su,u31],[]⟩/\Z u.1<=G_/\E M (A G_ 0)=S (Hl e j I_.C)) ?ownA ?assign ?body ?done ?stop
  case ownX=>
   rintro cc J_ aj M row⟨rfl,l⟩ ar q;exact⟨R,Pk.own ej O J_ aj M row l ar q⟩
  case start=>
   intro e M d b v;exact⟨by rw[fF];exact ei e M d v,Zf.of_below v O,⟨v.4,λq P _ q2 _=>G (v.5 q (aS.1 q2).1) q2⟩⟩
  case ownA=>
   rintro e I_ a' _ aj M row⟨G_,bd,d,b⟩ ar q;refine⟨G_,bd,d,G (Xc<|ar.5 G_ (aI aj _ b) λe2=>?_) b⟩;let⟨P,v,h4⟩:=Yn b;let⟨_,o2,h5,h6⟩:=q G_ e2.symm;rw[show aj.1[G_]?=S P from v]at h5;injection h5 with h5;subst h5;rw[h4]at h6;cases h6
  case assign=>
   intro l' e J_ I_ M KK bf y hP cq;have o:=Y y;have bc:=Y hP;have em:=Y cq;clear y hP cq;unfold rx;gi_wp2;have a3:Sw (Z M.1) M (D M<|.cells #[Hl e j I_.C] 113):=Xb Rf _;exact em _ _ ⟨a3.4,λa af d _=>G (a3.5 a (aS.1 d).1) d⟩ (Zf.of_below a3<|oN o.2.1) (XO (O8.own HJ O O e) o a3) (tH bc a3) ⟨Z M.1,R,o.2.1,SC⟩
  case body=>
   rintro l' e J_ I_ a' M bf fj _ y hP⟨G_,rfl,fc,fe⟩ fl;have o:=Y y;have bc:=Y hP;have HL:Q (J (h++J_)<i*4002):=Y (by
    have d:=b8.o;have b:=aq.1;rw[aQ];have v:(a+1)*4002<=i*4002:=jI _ M_;omega)
   have yb:=y.2.cell (ba.cell et<|V_ _ (by show Z w.1<=Z W.1;omega)) (V_ _<|by show Z w.1<=Z W.1;omega);clear y hP;let⟨fn,tmps,fa,bo,hy,r⟩:=KY (l':=l') (m':=6) (HY e (h++J_) I_ M O o.j ⟨bc.1.2,bc.2⟩ HL);have dd:(Instr.yield z #[Sa #[Hl e j I_.C]]).run prog M=_:=hy;clear hy;gi_wp2;refine r.mono ?_;rintro bd U2 (⟨rfl,az,a5,a4⟩|⟨rfl,az,a5,a4⟩)
   .have ad:=Y az;have a9:=Y a5;have ao:=Y a4;clear az a5 a4 r dd;gi_wp2;exact⟨JE ao O,a9,by rw[<-cK];exact ad,o.2.trans a9,o.3.trans ao⟩
   have ad:=Y az;have a9:=Y a5;have ao:=Y a4;clear az a5 a4 r dd;gi_wp2;exact⟨JE ao O,a9,R,by rw[<-cK];exact ad,o.3.trans ao⟩
  case done=>
   rintro T e s' M hD bf ct y a2;have o:=Y y;have bn:=Y a2;have cg:=Y ct;clear y a2 ct;gi_wp2;refine⟨⟨a+1,e,T::T_,h++s',_,_,_,_,_,_,_,_,_,_,_,_,_,_,O,R,Y<|ba.trans o.2,Y<|ef.trans o.3,Y ?mk,O,Y o.j,Y ?ls,Y ?ln⟩,?ms⟩
   case mk=>exact cb T M hD o.3 bn
   case ls=>
    rw[bG,bt.o,VJ,<-br.o,<-cg.o,<-vd]
   case ln=>
    have d:=fI List.length cg;rw[bK]at d;have b:=qI (J L.2) (NS L) (WX a);have v:J (NS L)=J L.2+2:=by simp[NS,Vf]
    have h4:=b8.o;have h5:=aq.1;rw[aQ];omega
   simp[intOf];omega
  rintro T cc J_ M hD cv⟨rfl,y⟩ a2;have o:=Y y;have bn:=Y a2;have eq:=Y cv;clear y a2 cv;gi_wp2;have da:=cb T M hD o.2 bn;refine JZ (T::T_) M da (λW' q1 q2 q3 q4 q5=>⟨St #[],gV R _ _ _,⟨_,R⟩,.inr ⟨h++J_,?_,bm.2 _ M W' o.j ⟨q1,q2,q3,q4,λq hq=>q5 q λhm=>by have:=da.2 q hm;omega⟩⟩⟩);rw[bG,bt.o,vd];refine List.IsPrefix.trans ?_ (Bg x g<|show a+1<=i from M_);rw[VJ,<-br.o];exact(List.prefix_append_right_inj _).2 (eq.map _)
 have e6:a=i:=O;subst e6;gi_wp2;refine JZ T_ wr S_ λW' q1 q2 q3 q4 q5=>⟨St #[],gV R _ _ _,⟨_,R⟩,.inl ⟨K,h,hz,bt,bm.1 K K h wr W' hz b7 ⟨q1,q2,q3,q4,λq hq=>q5 q λhm=>by have:=S_.2 q hm;omega⟩⟩⟩
end
section
attribute [local go_sem] Oper.semAt_some
theorem Wx(n:N){a v1:Uj}(w:Ub):
 CallsIn Fence.wide n prog 62 #[Sa #[a,v1]] w λe b=>e=Rt (.func (.func 125) #[] #[Sj (S ⟨Z w.1,0,U⟩)])/\b=D w (Sc #[a,v1] 40):=by
 refine iD func62 R trivial ?_ R;simp only[ntmps62,xY,Nat.reduceAdd,Nat.reduceSub];gi_wp2;go_ret;exact⟨R,R⟩
theorem un{n a B:N}(z:N):OwnFrom B (pm n a z):=λp c V row h k q=>by
 have b:=qj n p.i a B z p c V row ⟨⟨aA,h.1⟩,h.2⟩ k q;exact⟨h.1,b.2⟩
theorem th{n a z:N}{p:Sd}{V V':Ub}(h:pm n a z p V)(k:Sw (Z V.1) V V'):pm n a z p V':=⟨h.1,h.2.1.of_block<|k.5 z h.2.1.lt,h.2.2⟩
def NW{a:Type}(l:List (List a)):N:=(l.map List.length).foldl max 0
theorem uV{a:Type}{l:List (List a)}{x:List a}:NW (l++[x])=max (NW l) (J x):=by unfold NW;rw[bG,dT];rfl
structure Ok(w6:Ub)(Bm p:N)(pre:List Sd)(V:Ub):Prop where
 os:V.4=w6.4
 tape:V.2=w6.2
 output:V.5=w6.5
 size:Z w6.1<=Z V.1
 bl:Bm<Z w6.1
 fr:∀q,q<Z w6.1->q≠Bm->V.1[q]?=w6.1[q]?
 mx:V.rowIs Bm 3 1 λ_=>Si S6 (NW (pre.map<|On p):I)
section
variable {w6 V V': Ub} {Bm p: N} {pre: List Sd}
theorem Ok.far(h:Ok w6 Bm p pre V)(k:Sw (Z w6.1) V V'):Ok w6 Bm p pre V' :=
 ⟨G k.1 h.1,G k.2 h.2,G k.3 h.3,aJ h.4 k.4,h.5,λq q1 q2=>G (k.5 q q1) (h.6 q q1 q2),h.7.of_block<|k.5 _ h.5⟩
theorem Ok.own(w6:Ub)(Bm p:N):OwnFrom (Z w6.1) (Ok w6 Bm p):=λpre V V' row h k q=>by
 have:=h.4;exact h.far ⟨k.1,k.2,k.3,k.4,λb a=>k.5 b O λe=>by have:=(q b e.symm).1;omega⟩
theorem Ok.push(h:Ok w6 Bm p pre V){s:Sd}(k:Sw (Z V.1) V V'){x:I}(b:x=(NW ((pre++[s]).map (On p)):I)):Ok w6 Bm p (pre++[s]) (Se V' ⟨Bm,0,U⟩ (Si S6 x)):=by
 have a:=h.far<|k.mono h.4;refine⟨a.1,a.2,a.3,by rw[Xd];exact a.4,a.5,λq q1 q2=>G (Below.heap_setCell _ _ _ _ q2) (a.6 q q1 q2),?_⟩;rw[<-b];exact(a.7.set 0 _).congr λi c=>by rw[show i=0 by omega];simp
end
theorem DQ{V:N}{m:Uy}(n c:N){r:Wi}{aj S_:N}{w:Ub}(ha:Q (Xp w aj S_ m r))(R_:Q (n=J r))(hs:Q (J r+Xx r<=1048576))(hB:S_<=Z w.1)(P:Q (Yy w))(T:Q (Yb w))(hv:Q (XJ ⟨(V:I),r⟩=So))(ho:Q (Jy V r)):
 Sk prog 27 #[Sa #[H V,X m n c]] w λe w'=>e=Rt (H (NW (Zw r V (J r)):I))/\Sw (Z w.1) w w':=by
 have X_:=Y λW (I_:Sw (Z w.1) w W)=>JK (V:I) m n c r aj S_ W (Y<|ha.keep (I_.mono hB)) R_ hs (oN I_.4) (Y (P.keep I_ P.1).old) (Y (T.keep I_ T.1).old);rw[hv.o]at X_;have hn:n<=1000:=oP R_.o ho.1.2;refine(bM (n:=10)).1 ?_;refine callsIn_of_wp_marks func27 R trivial ?_ R;simp only[ntmps27,xY,Nat.reduceAdd,Nat.reduceSub];gi_wp2;refine⟨trivial,(bM.2<|X_ _ (Xb Rf _)).mono ?_⟩;rintro e a⟨rfl,P_⟩;have Z_:=G (P_.cell (p:=A (Z w.1) 0) sP) (show _=S (H V) by simp);have g1:=G (P_.cell (p:=A (Z w.1) 1) sP) (show _=S (X m n c) by simp);have a8:=Y<|Xg (Xb (Below.refl (Z w.1) w) (Sc #[H V,X m n c] 40)) P_;have a4:Z w.1<Z a.1:=aI a _ Z_;have bo:=λC=>G (bP a C (A (Z w.1) 0) a4) Z_;have bq:=λC=>G (bP a C (A (Z w.1) 1) a4) g1;clear P_ X_ Z_ g1;gi_wp2;have a9:Q (Sw (Z a.1) a<|D a (Sc #[H 0] 3)):=Y<|Xb Rf _;have cb:Z a.1+1<=Z (D a<|.cells #[H 0] 3).1:=sP;have af:Q ((D a<|.cells #[H 0] 3).rowIs (Z a.1) 3 1 λ_=>H 0):=Y (eK a #[H 0] 3 (λ_=>H 0) (λbv hi=>by match bv,hi with|0,_=>rfl));generalize D a _=u at*;clear bo bq;refine⟨trivial,(Wx 9 u).mono ?_⟩;rintro e i⟨rfl,L_⟩;have aa:Sw (Z u.1) u i:=by rw[L_];exact Xb Rf _
 have cc:Z u.1+1<=Z i.1:=by rw[L_,aO];exact aA
 have az:E i (A (Z u.1) 0)=S (H V):=by rw[L_];simp[go_sem]
 have a0:E i (A (Z u.1) 1)=S (X m n c):=by rw[L_];simp[go_sem]
 have t:=Y<|Xg (Xg a8 a9) aa;have bf:=Y<|af.of_block (aa.5 _ af.lt);let⟨b,a2⟩:∃q,q=(V+63)/64:=⟨_,R⟩;have be:=Y a2;have br:=ho.2;have b1:b<=100:=O;have b3:=P.1;have b4:=T.1;have a7:=Y<|ha.keep (t.mono hB);have bh:=Y<|P.keep t P.1;have bm:=Y<|T.keep t T.1;have bb:=Y az;have bc:=Y a0;clear aa L_ a2 br az a0;gi_wp2
 refine nX (F:=Fence.wide) (n:=10) R vY (gf:=125) (lb:=#[Hn (Z u.1)]) R trivial (enters_of func125 vZ R) (uF (λq=>q=Z a.1) bb bc a7 R_ O aA bh bm O O ho be (Y λq l o e=>O) (Y λq l e=>O) (Y λe=>O) (Y λe=>O)) (λz=>un z) (λj B=>j.trans B) (λW bx a5 o' l o N_=>Zf.putObj W bx a5 o' O o N_) Rf (λ_ _=>R)
  (λ_=>Ok i (Z a.1)<|64*b) (λ_ _ _=>False) (λ_=>Ok.own i _ _) (λ_ _ _ _ _ j _ _=>j) (λ_ z b0 M_ A' hz j v=>j.far ⟨v.1,v.2,v.3,v.4,λbn I_=>v.5 bn (oN j.4) λe=>by injection e with e;omega⟩) (λ_=>⟨λz z' b0 M_ A' _ j B=>j.far<|B.mono O,λ_ _ _ _ j _=>j⟩) ?start
  (λz p Y_ F=>∃g:N,Y_=⟨#[Sa #[H V,X m n c],Hn (Z w.1),H 0,Hn (Z a.1),Hn g,Sa #[H V,X m n c],Sb So,Sb Sn,Sa #[H V,X m n c],.func (.func 125) #[] #[Hn (Z u.1)],Sa #[Hl z b p.C],Su,Su,Su,Su,Su],[]⟩/\Z i.1<=g/\E F (A g 0)=S (Hl z b p.C)) ?ownA ?assign ?body ?done λ_ _ _ _ _ _ j _=>j.elim
 case start=>
  intro z F _ _ L;exact⟨L.1,L.2,L.3,L.4,O,λq l _=>L.5 q l,bf.of_block<|L.5 _ O⟩
 case ownA=>
  rintro z p Y_ _ M_ F row⟨g,e,l,o⟩ v q;refine⟨g,e,l,G (Xc<|v.5 g (aI M_ _ o) λe2=>?_) o⟩;let⟨C,N_,h4⟩:=Yn o;let⟨_,o2,O_,h6⟩:=q g e2.symm;rw[show M_.1[g]?=S C from N_]at O_;injection O_ with O_;subst O_;rw[h4]at h6;cases h6
 case assign=>
  intro l' z pre p F KK hz k x aq;have s:=Y k;have bi:=Y x;have bd:=Y aq;clear k x aq;unfold ru;gi_wp2;have J_:Sw (Z F.1) F (D F<|.cells #[Hl z b p.C] 113):=Xb Rf _;exact bd _ _ ⟨J_.4,λB a5 l _=>G (J_.5 B (aS.1 l).1) l⟩ (Zf.of_below J_ s.4) (s.far<|J_.mono s.4) (th bi J_) ⟨Z F.1,R,s.4,SC⟩
 case body=>
  rintro l' z pre p Y_ F hz b8 _ k x⟨g,rfl,b5,Q_⟩ ca;have s:=Y k;have y:=k.7.cell (i:=0) vY;have a3:=k.7.frozen 0;have bt:=k.4;have ab:=Y λW (hW:Sw (Z F.1) F W)=>Kl z b p.C p.W W (Y x.2.2) (Y<|x.2.1.of_block (hW.5 z x.2.1.lt)) O;have ba:Q (NW ((pre++[p]).map (On<|64*b))=max (NW<|pre.map (On<|64*b)) (NO p.W b)):=Y (by rw[bG,eH,fZ,uV,qV];rfl);have b6:=TB p.W b;generalize NW (pre.map<|On (64*b))=al at*;generalize NO p.W b=ao at*;clear k x;have ac:Q (∀(f:Ub)(M:I),Sw (Z F.1) F f->M=(max al ao:N)->KeepsFrom (Z i.1) F (Se f (A (Z a.1) 0) (H M))/\Zf (Z i.1) (λq=>q=Z a.1) F (Se f (A (Z a.1) 0) (H M))/\Ok i (Z a.1) (64*b) (pre++[p]) (Se f (A (Z a.1) 0) (H M))):=Y (λf M d e=>by
   have a1:Zf (Z i.1) (λq=>q=Z a.1) F (Se f (A (Z a.1) 0) (H M)):=(Zf.of_below d bt).trans (Zg ⟨R,R,R,SH,λB _ hk=>Below.heap_setCell _ _ _ _ λe=>hk<|by rw[e]⟩ R (oN d.4));refine⟨⟨a1.1,λq C l o N_=>?_⟩,a1,s.push d<|by rw[ba.o];exact e⟩;exact G (Below.heap_setCell _ _ _ _<|by show q≠Z a.1;omega) (G (d.5 q (aS.1 o).1) o))
  gi_wp2;by_cases b7:(al:I)<(ao:I)
  focus
   skip
  rotate_left
  focus
   skip
  all_goals (
   refine Tc (λw'=>E w' (A g 0)=S (Hl z b p.C)) λhHeld=>?_;refine Yi 1 ?_;refine YM (rs:=[0,2]) vZ sP ?_;refine(Xu.cons R (λK hK=>?_) (Xu.cons R (λK hK=>?_) Xu.nil))
   .skip
    go_simp;refine hK _ _ kP λhHeld=>?_;clear hK
    try simp only[xX]
    refine Yc 2 λK hK=>?_;go_simp;refine⟨trivial,(CallsIn.inRound l'<|bM.2 (ab F.drew (Below.refl (Z F.1) F).drew)).mono ?_⟩;rintro e f⟨rfl,h⟩;have d:Sw (Z F.1) F f:=⟨h.1,h.2,h.3,h.4,h.5⟩;have E_:=oB d Q_<|aI F _ Q_;have m5:=oB d y<|aI F _ y;have f5:=G (d.frozen (p:=A (Z a.1) 0) (aI F _ y)) a3;have T_:=Y d;clear d h;refine hK _ _ E_ λhHeld=>?_;clear hK;refine Yc 3 λK hK=>?_;go_simp;refine hK _ _ kP λhHeld=>?_;clear hK;refine Yc 4 λK hK=>?_;go_simp;refine hK _ _ (G (bH f (A (Z a.1) 0) (A g 0) _ (by show Z a.1≠g;omega)) E_) λhHeld=>?_;clear hK;refine ZV ?_;clear hHeld;gi_wp2;exact ac f _ T_ O
   skip
   go_simp;refine⟨trivial,(CallsIn.inRound l'<|bM.2 (ab F.drew (Below.refl (Z F.1) F).drew)).mono ?_⟩;rintro e f⟨rfl,h⟩;have d:Sw (Z F.1) F f:=⟨h.1,h.2,h.3,h.4,h.5⟩;have E_:=oB d Q_<|aI F _ Q_;have m5:=oB d y<|aI F _ y;have f5:=G (d.frozen (p:=A (Z a.1) 0) (aI F _ y)) a3;have T_:=Y d;clear d h;refine hK _ _ E_ λhHeld=>?_;clear hK
   try simp only[xX]
   refine Yc 0 λK hK=>?_;go_simp;refine hK _ _ kP λhHeld=>?_;clear hK;refine Yc 3 λK hK=>?_;go_simp;refine hK _ _ kP λhHeld=>?_;clear hK;refine Yc 4 λK hK=>?_;go_simp;refine hK _ _ (G (bH f (A (Z a.1) 0) (A g 0) _ (by show Z a.1≠g;omega)) E_) λhHeld=>?_;clear hK;refine ZV ?_;clear hHeld;gi_wp2
   exact ac f _ T_ O)
 rintro a6 z ss F hD hz ar k ap;have s:=Y k;have ad:=Y ap;have bl:=Y ar;have y:=k.7.cell (i:=0) vY;clear k ap ar;gi_wp2;have F_:Ok i (Z a.1) (64*b) ss (F.putObj a6<|.deferred U):=(Ok.own i _ _).putObj _ s O ad R;refine YK ad ⟨H (NW (ss.map<|On (64*b)):I),by simp[results,results27,go_sem],?_⟩;rw[bl.o,R_.o];exact⟨R,G F_.1 t.1,G F_.2 t.2,G F_.3 t.3,aJ t.4 F_.4,λq hq=>G (F_.6 q O O) (t.5 q hq)⟩
end
theorem TQ(a:n<J x)(V i:N):UU x V n i=Xi (Uq x x[n] V n i):=by
 unfold UU;rw[aC a]
theorem Vt(a:n<J x):J (Tu x n)=J x[n].2:=by
 unfold Tu;rw[aC a];simp[Z2]
theorem AP:∀(a M:N),s.foldl max a<=M↔a<=M/\∀x∈s,x<=M:=by
 induction s with
 |nil=>intro a M;simp
 |cons y s b=>
  intro a M;rw[iM,b];simp only[cH,forall_eq_or_imp];rw[Nat.max_le,and_assoc]
theorem TL{a:Type}{l:List (List a)}:NW l<=n↔∀x∈l,J x<=n:=by
 unfold NW;rw[AP];simp
theorem Fl{g h:Type}{l:List (List g)}{c:List (List h)}(d:∀x∈l,∃y∈c,J y=J x)(f:∀y∈c,∃x∈l,J x=J y):NW l=NW c:=by
 refine Nat.le_antisymm ((TL).2 λx a=>?_) ((TL).2 λy b=>?_)
 .let⟨y,b,e⟩:=d x a;rw[<-e];exact(TL).1 aA y b
 let⟨x,a,e⟩:=f y b;rw[<-e];exact(TL).1 aA x a
noncomputable def Ns(a:Wi)(V b:N):Tm:=(Rg b).flatMap λs=>(Rg<|J (Tu a s)+1).map (UU a V s)
theorem Ve(a:Wi)(V b:N):Ns a V (b+1)=Ns a V b++(Rg<|J (Tu a b)+1).map (UU a V b):=by
 unfold Ns;rw[dN,eZ];simp
theorem Jr(a:m<J x):s∈mm x n m↔∃i,i<=J x[m].2/\s=Uq x x[m] n m i:=by
 unfold mm;rw[aC a];simp only[bU,aY,cS];constructor
 .rintro(⟨j,_,e⟩|e);·exact⟨(j:N)+1,j.2,e.symm⟩
  exact⟨0,aN,e⟩
 rintro⟨i,b,e⟩;cases i with
 |zero=>exact aZ e
 |succ j=>
  refine bC ⟨⟨j,b⟩,?_,e.symm⟩;unfold Us;rw[aW sP];exact kU.2<|lX _
theorem Er:NW (Ns x n (J x))=NW (Zw x n (J x)):=by
 refine Fl (λe c=>?_) λy d=>?_
 .let⟨s,a,h⟩:=bV.1 c;obtain⟨i,b,rfl⟩:=aY.1 h;have a:=bE.1 a;have b:=bE.1 b;rw[Vt a]at b;refine⟨Uq x x[s] n s i,bV.2 ⟨s,bE.2 a,(Jr a).2 ⟨i,O,R⟩⟩,?_⟩;rw[TQ a];simp[Xi]
 let⟨s,a,h⟩:=bV.1 d;have a:=bE.1 a;obtain⟨i,b,rfl⟩:=(Jr a).1 h;refine⟨UU x n s i,bV.2 ⟨s,bE.2 a,aY.2 ⟨i,bE.2 (by rw[Vt a];omega),R⟩⟩,?_⟩;rw[TQ a];simp[Xi]
theorem Cd{a:Type}(f:N->a)(k:N):(Rg<|k+1).map f=(Rg k).map f++[f k]:=by rw[dN,bG];rfl
theorem C8(d c:N)(ha:Q (Xp w m k p x))(h:Q (d=J x))(V:Q (J x+Xx x<=1048576))(B:k<=Z w.1)(K:Q (XJ ⟨(n:I),x⟩=So))(t:Q (Jy n x)):
 Sk prog 18 #[Sa #[H n,X p d c]] w λo L=>o=Rt (H (NW (Zw x n (J x)):I))/\Sw (Z w.1) w L:=by
 have hn:d<=1000:=oP h.o t.1.2;have l:=Y λW (s:Sw (Z w.1) w W)=>Tr (n:I) p d c x m k W (Y<|ha.keep (s.mono B)) h V (oN s.4);have M:=Y<|WY ⟨(n:I),x⟩;rw[<-M.o,K.o]at l
 go_in
 go_wp2_with fail
 refine(l _<|Xb Rf _).mono ?_;rintro o w1⟨rfl,g⟩;have L_:=G (g.cell (p:=A (Z w.1) 0) sP) (show _=S (H n) by simp);have O_:=G (g.cell (p:=A (Z w.1) 1) sP) (show _=S (X p d c) by simp);have j:=Y<|Xg (Xb (Below.refl (Z w.1) w) (Sc #[H n,X p d c] 40)) g;have y:=Y<|qm c (Y<|ha.keep (j.mono B)) h (oN j.4) t;go_wp2_with fail
 refine y.mono ?_;rintro o w2⟨gO,cO,Z_,rfl,P,ab,C⟩;have T:=Y C;have H_:=Y<|Xg j P;have I_:=Y<|oX t;go_wp2
 go_loop [3,5] (λu i=>∃b:N,b<=d/\i=H b/\u=H (NW (Ns x n b):I)) λ_ i=>d-(intOf i).toNat
 case atStart=>exact⟨0,aN,R,R⟩
 obtain⟨b,s,rfl,rfl⟩:=hrel;by_cases U_:b<d
 .let⟨P_,h2,r⟩:=T b U_;have R_:=I_ b;have z:=Y<|Ve x n b;let⟨e,F_⟩:∃e,e=J (Tu x b):=⟨_,R⟩;rw[<-F_]at P_ r R_ z;have G_:=Y r;generalize Ns x n b=f at*;go_wp2
  go_loop [3,6] (λu i=>∃a:N,a<=e+1/\i=H a/\u=H (NW (f++(Rg a).map (UU x n b)):I)) λ_ i=>e+1-(intOf i).toNat
  case atStart=>exact⟨0,aN,R,sP⟩
  obtain⟨a,hk,rfl,rfl⟩:=hrel;by_cases T_:a<e+1
  .let⟨b',o',q,aa,a',c',F,_⟩:=G_ a (by simpa using T_);simp only[cM,dW]at F;injection q with q;injection q with e1 e2;subst e1 e2;simp only[aV]at F;have ad:(a:I)<(e:I)+1:=O;have K_:=Y<|Cd (UU x n b) a;have v:Q (NW (f++(Rg<|a+1).map (UU x n b))=max (NW<|f++(Rg a).map (UU x n b)) (J (UU x n b a))):=Y (by rw[K_.o,<-cK,uV]);generalize NW (f++(Rg a).map (UU x n b))=M_ at*;generalize J (UU x n b a)=N_ at*;by_cases ac:(M_:I)<(N_:I)
   .go_wp2;exact⟨⟨a+1,O,gM,by rw[v.o,Nat.max_eq_right O]⟩,SA⟩
   go_wp2;exact⟨⟨a+1,O,gM,by rw[v.o,Nat.max_eq_left O]⟩,SA⟩
  have S_:a=e+1:=O;subst S_;rw[<-z.o];go_wp2;exact⟨⟨b+1,O,gM,R⟩,SA⟩
 have Q_:b=d:=O;subst Q_;go_wp2;go_ret;exact⟨by rw[h.o,Er];rfl,H_⟩
theorem JF(h:s∈Zw x n (J x))(a:m∈s):m<n:=by
 let⟨d,c,b⟩:=bV.1 h;obtain⟨i,_,rfl⟩:=(Jr<|bE.1 c).1 b;unfold Uq at a;exact bE.1 (fG.1 a).1
theorem WV:l∈Ns x n (J x)↔∃y∈Zw x n (J x),l=Xi y:=by
 unfold Ns Zw;constructor
 .intro h;let⟨s,b,d⟩:=bV.1 h;obtain⟨i,c,rfl⟩:=aY.1 d;have a:=bE.1 b;have c:=bE.1 c;rw[Vt a]at c;exact⟨Uq x x[s] n s i,bV.2 ⟨s,b,(Jr a).2 ⟨i,O,R⟩⟩,TQ a n i⟩
 rintro⟨y,e,rfl⟩;let⟨s,b,d⟩:=bV.1 e;have a:=bE.1 b;obtain⟨i,c,rfl⟩:=(Jr a).1 d;exact bV.2 ⟨s,b,aY.2 ⟨i,bE.2 (by rw[Vt a];omega),TQ a n i⟩⟩
theorem tD{xs:Wi}{V:N}(h:l∈Ns xs V (J xs)):J l<=V/\∀x∈l,∃k:N,k<V/\x=(k:I):=by
 obtain⟨y,c,rfl⟩:=WV.1 h;constructor
 .let⟨s,a,d⟩:=bV.1 c;obtain⟨i,f,rfl⟩:=(Jr<|bE.1 a).1 d;have:=qy xs V s i;rw[TQ<|bE.1 a]at this;exact this
 intro x b;unfold Xi at b;obtain⟨z,e,rfl⟩:=aY.1 b;exact⟨z,JF c e,R⟩
def NG(a:Wc)(v:N):I:=a.getD v 0
def US(a:Wc)(v:N):N:=(NG a v).toNat
def Pm(v:I)(b:Wi)(a:Wc)(k:I):Prop:=Ft v b=0/\0<=k/\k<=2000/\(J a:I)=v/\(∀c∈a,0<=c/\c<k)/\∀l∈Zw b v.toNat (J b),(l.map<|US a).Nodup
def UM(b:Wc)(l:Wc)(a:N):I:=NG b (l.getD a 0).toNat
def P6(c l:Wc)(d:N):Prop:=∀a b,a < d->b < a->UM c l a≠UM c l b
def QD(c:Wc)(b:Tm)(i:N):Prop:=∀a,a < i->P6 c (b.getD a []) (J (b.getD a []))
theorem Wp(h:∀c∈l,0<=c/\c<t)(v:N):0<=NG l v:=by
 unfold NG;rw[bF];by_cases a:v<J l;·rw[aC a];exact(h _<|aH a).1
 rw[dK O];decide
theorem Vj(ha:n<J s):UM l (Xi s) n=NG l s[n]:=by
 unfold UM Xi;rw[bF,dX,aC ha];rfl
theorem vJ(h:∀c∈l,0<=c/\c<t)(y:Wa):P6 l (Xi y) (J (Xi y))↔(y.map<|US l).Nodup:=by
 have n:J (Xi y)=J y:=by simp[Xi]
 rw[n];show _↔List.Pairwise _ _;rw[gY];simp only[bK,cM];constructor
 .intro a i j k b m e;have:=a j i b m;rw[Vj b,Vj k]at this;have o:=Wp h y[i];have p:=Wp h y[j];unfold US at e;exact this O
 intro a d f ha g e;rw[Vj ha,Vj O]at e;exact a f d O ha g<|by unfold US;rw[e]
theorem BZ(h:∀c∈l,0<=c/\c<t):QD l (Ns x n (J x)) (J (Ns x n (J x)))↔∀b∈Zw x n (J x),(b.map<|US l).Nodup:=by
 constructor
 .intro d b f;let⟨i,a,e⟩:=bR<|WV.2 ⟨b,f,R⟩;have:=d i a;rw[bF,aC a,gR,e]at this;exact(vJ h b).1 this
 intro d i a;rw[bF,aC a,gR];let⟨y,g,e⟩:=WV.1<|aH a;rw[e];exact(vJ h y).2 (d y g)
theorem Dm{a b:N}(f:l=(Ns x t.toNat (J x)).getD i [])(d:i<J (Ns x t.toNat (J x)))(ha:a<J l)(c:b<a)(e:UM L l a=UM L l b):¬Pm t x L T:=λh=>by
 have:=(BZ h.2.2.2.2.1).2 h.2.2.2.2.2 i d;rw[<-f]at this;exact this a b ha c e
structure j5(C:Ym)(l:Wa)(c:N):Prop where
 free:∀u∈l,C u≠(c:I)
 low:∀c',c' < c->∃u∈l,C u=(c':I)
theorem j5.one{C:Ym}(h:j5 C s c)(k:j5 C s n):c=n:=by
 obtain e|e|e:=mA c n
 .let⟨u,a,b⟩:=k.2 c e;exact Sz b<|h.1 u a
 .exact e
 let⟨u,a,b⟩:=h.2 n e;exact Sz b<|k.1 u a
theorem wM{C:Ym}{l:Wa}(h:∀a,a < c->∃u∈l,C u=(a:I)):c<=J l:=by
 have b:=K3 (A_:=Rg c) (B:=l.map λu=>(C u).toNat) kS (λx f=>by
  let⟨u,d,e⟩:=h x<|bE.1 f;exact aY.2 ⟨u,d,by rw[e];rfl⟩)
 simpa using b
theorem wL{C:Ym}{l:Wa}(h:∀a,a < J l->∃u∈l,C u=(a:I)):j5 C l (J l):=by
 refine⟨λu b e=>?_,h⟩;have:=wM (C:=C) (l:=l) (c:=J l+1) (λa c=>by
  by_cases e2:a=J l;·subst e2;exact⟨u,b,e⟩
  exact h a O)
 omega
theorem wI{C:Ym}(h:∀a,a < c->∃u∈s,C u=(a:I))(f:∀u∈s,u<n)(j:m<n)(d:C m=-1):c<n:=by
 have b:=K3 (A_:=Rg c) (B:=((Rg n).erase m).map λu=>(C u).toNat) kS (λx k=>by
  let⟨u,i,e⟩:=h x<|bE.1 k;have g:u≠m:=λe2=>by rw[e2,d]at e;omega
  exact aY.2 ⟨u,(iF g).2 (bE.2<|f u i),by rw[e];rfl⟩)
 rw[bK,fP<|bE.2 j,gI,gI]at b;omega
open Classical in
theorem wZ(C:Ym)(l:Wa):∃c,j5 C l c:=by
 by_cases j:∀a,a < J l->∃u∈l,C u=(a:I);·exact⟨_,wL j⟩
 have m:∃c,¬∃u∈l,C u=((c:N):I):=by
  apply dQ;intro b;exact j λa _=>dQ λd=>b ⟨a,d⟩
 have p:∀n c,c<=n->(¬∃u∈l,C u=((c:N):I))->∃c,j5 C l c:=by
  intro n
  induction n with
  |zero=>
   intro c f h;exact⟨c,λu i e=>h ⟨u,i,e⟩,λa g=>Sz g O⟩
  |succ n o=>
   intro c f h;by_cases k:∀a,a < c->∃u∈l,C u=(a:I);·exact⟨c,λu i e=>h ⟨u,i,e⟩,k⟩
   have:∃a,a < c/\¬∃u∈l,C u=((a:N):I):=by
    apply dQ;intro b;exact k λa g=>dQ λd=>b ⟨a,g,d⟩
   let⟨a,q,b⟩:=this;exact o a O b
 let⟨c,f⟩:=m;exact p c c aA f
noncomputable def Nx(C:Ym)(l:Wa):N:=Classical.choose<|wZ C l
theorem oa(C:Ym)(l:Wa):j5 C l (Nx C l):=gJ<|wZ C l
theorem ry{C:Ym}(h:j5 C s c):Nx C s=c:=(oa C s).one h
theorem MW(C:Ym)(l:Wa):Nx C l<=J l:=wM (oa C l).2
noncomputable def Nn(C:Ym)(s:N×Wa):Ym:=λu=>if u=s.1 then (Nx C s.2:I)else C u
noncomputable def Kq(C:Ym)(a:List (N×Wa)):Ym:=a.foldl Nn C
theorem rl{C:Ym}{a:List (N×Wa)}(s:N×Wa):Kq C (a++[s])=Nn (Kq C a) s:=by unfold Kq;rw[dT];rfl
theorem zW{C:Ym}{a b:List (N×Wa)}:Kq C (a++b)=Kq (Kq C a) b:=by unfold Kq;rw[dT]
noncomputable def Ni(a:Wi)(V b:N)(x:Xe)(k:N):List (N×Wa):=(x.1.take k).map λp=>(p.1.toNat,Uq a x V b 0)
noncomputable def VC(a:List Xe)(V b:N)(x:Xe):N->List (N×List N)
 |0=>[]
 |k+1=>VC a V b x k++match x.2[k]? with
  |none=>[]
  |some y=>(BW y).map λv=>(v.toNat,Uq a x V b<|k+1)
noncomputable def OV(a:List Xe)(V b:N):List (N×List N):=match a[b]? with
 |none=>[]
 |some x=>Ni a V b x (J x.1)++VC a V b x (J x.2)
noncomputable def Ko(b:Wi)(V:N)(a:Wa):List (N×Wa):=a.flatMap<|OV b V
theorem qT:Ko x n (s++[m])=Ko x n s++OV x n m:=by unfold Ko;rw[eZ];simp
noncomputable def NE(C:N->I):N->I
 |0=>0
 |V+1=>max (NE C V) (C V+1)
theorem uO(P:Wc)(m b:N):b∈XT P m b:=by
 cases m<;>simp[XT]
theorem tK{tg:Yr}{n:N}{P:Wc}(h:YX tg n P)(d:∀x,Re tg x->x<n):∀(m b c x:N),n<=J (Zq tg n b)+m->c∈XT P m b->x∈Nj P c->x∈XT P m b
 |0,b,c,x,hm,a,hx=>by
  have:c=b:=by simpa [XT]using a
  subst this;have g:=qJ h d hx;have i:=rr (tg:=tg) n x;omega
 |m+1,b,c,x,hm,a,hx=>by
  rw[XT,cH]at a;rw[XT,cH];obtain rfl|a:=a;·exact aZ<|bV.2 ⟨x,hx,uO P m x⟩
  let⟨e,f,a⟩:=bV.1 a;have g:=qJ h d f;exact aZ<|bV.2 ⟨e,f,tK h d m e c x O a hx⟩
theorem vH{tg:Yr}{n:N}{P:Wc}(h:YX tg n P)(a:∀x,Re tg x->x<n):∀(k x:N),J (Zq tg n x)<=k->Re tg x->x∈XT P n 0
 |k,x,hk,hx=>by
  by_cases b:x=0;·subst b;exact uO P n 0
  obtain⟨c,e1,e2,e3,e4,_⟩:=B8 h a hx b
  match k,hk with
  |0,hk=>omega
  |k+1,hk=>exact tK h a n 0 c x O (vH h a k c O e3) (o8.2 ⟨by rw[h.1];exact a x hx,e1⟩)
theorem CX(c:UF x)(b:YX (X8 x) (J x) l)(d:Jq x):(XT l (J x) 0).Perm (Rg (J x)):=by
 rw[List.perm_iff_count];intro a;rw[(qY b (J x) 0 Re.root).count,List.nodup_range.count];have:a∈XT l (J x) 0↔a∈Rg (J x):=by
  rw[bE];constructor
  .intro h;exact c.re a (Ji b (J x) 0 a Re.root h).2
  intro h;exact vH b c.re _ a aA (d a h)
 by_cases e:a∈XT l (J x) 0;·rw[aU e,aU<|this.1 e]
 rw[aM e,aM λh=>e<|this.2 h]
theorem TX(h:Ft t x=0):XJ ⟨t,x⟩=So/\Jq x:=by
 unfold Ft at h;by_cases a:XJ ⟨t,x⟩=Sn;·rw[aU a]at h;omega
 rw[aM a]at h;by_cases b:¬Jq x;·rw[aU b]at h;omega
 exact⟨by simpa using a,Classical.not_not.1 b⟩
def OG(a:List (N×Wa)):Wc:=a.map λs=>(s.1:I)
theorem Gl(a:Jy n x)(d:q∈x)(b:N):OG (Ni x n b q (J q.1))=XG q.1:=by
 unfold OG Ni XG;rw[gC,jO];apply gH;intro p c;have:=(a.8 q d p c).1;simp only[Function.comp];omega
theorem xf{V:N}{a:Wi}(d:Jy V a){x:Xe}(e:x∈a)(b:N):∀k,k<=J x.2->OG (VC a V b x k)=XI (x.2.take k)
 |0,_=>by simp[OG,VC,XI]
 |k+1,g=>by
  have i:=xf d e b k O;have c:k<J x.2:=g;have f:XI (x.2.take<|k+1)=XI (x.2.take k)++BW x.2[k]:=by
   rw[kJ,aC c];unfold XI BW;rw[eU,bG,Option.toList_some,iW,jX];cases dB x.2[k].1<;>rfl
  rw[f,<-i,VC,aC c];unfold OG;rw[bG,jO];congr 1;have:∀v∈BW x.2[k],((λs:N×Wa=>(s.1:I)) ∘ λv:I=>(v.toNat,Uq a x V b<|k+1)) v=v:=λv h=>by
   have:=(d.6 x e _ (aH c) v h).1;simp only[Function.comp];omega
  rw[gH this,List.map_id''];intro j;rfl
theorem wF(c:Jy n x)(a:m<J x):OG (OV x n m)=Z6 x[m]:=by
 unfold OV;rw[aC a];have d:=Gl c (aH a) m;have b:=xf c (aH a) m (J x[m].2) aA;rw[gC]at b;show OG (Ni x n m x[m] (J x[m].1)++VC x n m x[m] (J x[m].2))=_;unfold OG at*;rw[bG,d,b];rfl
theorem uq{V:N}{a:Wi}(c:Jy V a):∀k,k<=J a->OG (Ko a V<|List.range k)=BX (a.take k)
 |0,_=>by simp[OG,Ko,BX]
 |k+1,e=>by
  have f:=uq c k O;have b:k<J a:=e;rw[dN,qT,kJ,aC b];have d:=wF c b;unfold OG at*;rw[bG,f,d];unfold BX;rw[eZ,Option.toList_some,jF,List.flatMap_nil,fF]
theorem Gk(d:XJ ⟨(n:I),x⟩=So)(t:Jq x)(q:YX (X8 x) (J x) l):
 (OG<|Ko x n (XT l (J x) 0)).Nodup/\∀u:N,u<n->(u:I)∈OG (Ko x n<|XT l (J x) 0):=by
 have c:=XH d;have m:(OG<|Ko x n (XT l (J x) 0)).Perm (BX x):=by
  have b:=uq c (J x)<|aA;rw[gC]at b;rw[<-b];unfold OG Ko;exact(List.Perm.flatMap_right _<|CX c.1 q t).map _
 have k:JM ⟨(n:I),x⟩=So:=by
  unfold XJ at d;simp only[bY]at d;exact d.2
 have j:∀u:N,u<n->(BX x).count (u:I)=1:=λu g=>by
  unfold JM at k;have:=dV.1 k u (bE.2<|by simpa using g);rw[iA,qp]at this;exact this
 have r:∀f∈BX x,0<=f/\f<(n:I):=λf a=>by
  let⟨p,o,a⟩:=bV.1 a;obtain a|a:=bU.1 a
  .obtain⟨w,s,rfl⟩:=aY.1 a;exact c.8 p o w s
  obtain⟨y,v,rfl⟩:=aY.1 a;let⟨b,i⟩:=fG.1 v;exact c.6 p o y b y.2<|by unfold BW;rw[i];simp
 constructor
 .rw[mY];intro e;rw[m.count_eq];by_cases h:e∈BX x
  .let⟨b,i⟩:=r e h;have:=j e.toNat O;rw[fR b]at this;omega
  rw[kZ h];omega
 intro u g;rw[m.mem_iff];apply kE.1;rw[j u g];decide
structure mn(V:N)(ss:List (N×Wa)):Prop where
 lt:∀s∈ss,s.1<V
 nd:∀pre s post,ss=pre++s::post->∀t∈pre,t.1≠s.1
 all:∀u,u<V->∃s∈ss,s.1=u
theorem vV(i:XJ ⟨(n:I),x⟩=So)(q:Jq x)(m:YX (X8 x) (J x) l):mn n (Ko x n<|XT l (J x) 0):=by
 let⟨b,d⟩:=Gk i q m;have g:=XH i;refine⟨λs a=>?_,λC s B e z t=>?_,λF u=>?_⟩
 .let⟨k,_,a⟩:=bV.1 a;unfold OV at a;cases hb:x[k]? with
  |none=>rw[hb]at a;cases a
  |some c=>
   have j:c∈x:=eN hb;have o:=(cV.1 hb).1;have r:((s.1:N):I)∈Z6 c:=by
    have h:=wF g o;rw[(cV.1 hb).2]at h;rw[<-h];unfold OV OG;exact aY.2 ⟨s,a,R⟩
   obtain f|f:=bU.1 r
   .let⟨w,p,e⟩:=aY.1 f;have:=g.8 c j w p;have e:=e;omega
   let⟨y,v,e⟩:=aY.1 f;let⟨b,d⟩:=fG.1 v;have:=g.6 c j y b y.2 (by unfold BW;rw[d];simp);have e:=e;omega
 .rw[e]at b;unfold OG at b;rw[bG,eH]at b;have:=(gW.1 b).2.2 _ (aY.2 ⟨z,t,R⟩) _ cI;exact λe=>this<|by rw[e]
 let⟨s,a,e⟩:=aY.1<|d F u;exact⟨s,a,O⟩
theorem TE{v:N}:∀(a:List (N×Wa))(C:Ym),(∀s∈a,s.1≠v)->Kq C a v=C v
 |[],_,_=>R
 |s::a,C,h=>by
  have c:=TE a (Nn C s) λt b=>h t<|cN _ b;show Kq (Nn C s) a v=_;rw[c];unfold Nn;rw[aM λe=>h s cI e.symm]
theorem UP{v:N}:∀(a:List (N×Wa))(C:Ym),(0<=C v\/∃s∈a,s.1=v)->0<=Kq C a v
 |[],_,h=>by
  obtain h|⟨s,h,_⟩:=h;·exact h
  cases h
 |s::a,C,h=>by
  show 0<=Kq (Nn C s) a v;refine UP a (Nn C s) ?_;by_cases e:v=s.1
  .left
   unfold Nn;rw[aU e];omega
  obtain h|⟨t,b,e2⟩:=h
  .left
   unfold Nn;rw[aM e];exact h
  obtain rfl|b:=cH.1 b;·exact Sz e2.symm e
  exact aZ ⟨t,b,e2⟩
theorem UJ(C:Ym):∀V,0<=NE C V
 |0=>by simp[NE]
 |V+1=>by have:=UJ C V;rw[NE];omega
theorem vA{C:Ym}{v:N}{x:I}:∀V,V<=v->NE (λu=>if u=v then x else C u) V=NE C V
 |0,_=>R
 |V+1,h=>by
  rw[NE,NE,vA V O,aM O]
theorem vI{C:Ym}{v:N}{x:I}(a:C v=-1):∀V,v<V->NE (λu=>if u=v then x else C u) V=max (NE C V) (x+1)
 |V+1,h=>by
  rw[NE,NE];by_cases e:V=v
  .subst e;have:=UJ C V;rw[aU R,vA V<|aA,a];omega
  rw[aM e,vI a V O];omega
theorem tV:∀V,NE (λ_=>-1) V=0
 |0=>R
 |V+1=>by rw[NE,tV V];decide
section
def Wl(xs:List Xe)(u b:N):N->Prop
 |0=>Yo xs b u=So
 |j+1=>∃x y,xs[b]?=S x/\x.2[j]?=S y/\(u:I)∈BW y
theorem Vs{a:Vr}:XI a=a.flatMap BW:=by
 induction a with
 |nil=>rfl
 |cons y a b=>
  have:XI (y::a)=BW y++XI a:=by
   unfold XI BW;rw[iW];cases dB y.1<;>rfl
  rw[this,b,jF]
theorem uK{xs:Wi}{b u:N}(h:Yo xs b u=So):∃x,xs[b]?=S x/\(u:I)∈XG x.1:=by
 unfold Yo at h;cases e:xs[b]? with
 |none=>rw[e]at h;cases h
 |some x=>rw[e]at h;exact⟨x,R,XD.1 h⟩
theorem Eu{V:N}{xs:Wi}(hv:XJ ⟨(V:I),xs⟩=So):(BX xs).Nodup/\(∀d∈BX xs,0<=d/\d<(V:I))/\∀u:N,u<V->(u:I)∈BX xs:=by
 have j:=XH hv;have k:JM ⟨(V:I),xs⟩=So:=by
  unfold XJ at hv;simp only[bY]at hv;exact hv.2
 have g:∀u:N,u<V->(BX xs).count (u:I)=1:=λu e=>by
  unfold JM at k;have:=dV.1 k u (bE.2<|by simpa using e);rw[iA,qp]at this;exact this
 have i:∀d∈BX xs,0<=d/\d<(V:I):=λd a=>by
  let⟨x,l,a⟩:=bV.1 a;obtain a|a:=bU.1 a
  .obtain⟨p,m,rfl⟩:=aY.1 a;exact j.8 x l p m
  obtain⟨y,n,rfl⟩:=aY.1 a;let⟨c,f⟩:=fG.1 n;exact j.6 x l y c y.2<|by unfold BW;rw[f];simp
 refine⟨?_,i,λu e=>kE.1<|by rw[g u e];decide⟩;rw[mY];intro b;by_cases h:b∈BX xs
 .let⟨c,f⟩:=i b h;have:=g b.toNat O;rw[fR c]at this;omega
 rw[kZ h];omega
theorem Wl.mem{xs:Wi}{u b k:N}(h:Wl xs u b k):∃x,xs[b]?=S x/\(u:I)∈Z6 x:=by
 cases k with
 |zero=>
  let⟨x,e,a⟩:=uK h;exact⟨x,e,dD _ a⟩
 |succ j=>
  let⟨x,y,e,e2,a⟩:=h;refine⟨x,e,fB _ ?_⟩;rw[Vs];exact bV.2 ⟨y,eN e2,a⟩
theorem uj{a n:Type}{f:a->List n}{l:List a}(h:(l.flatMap f).Nodup){i j:N}{b c:a}(o:l[i]?=S b)(p:l[j]?=S c){z:n}(ha:z∈f b)(k:z∈f c):i=j:=by
 unfold List.Nodup at h;rw[iK]at h;let⟨d,e1⟩:=cV.1 o;let⟨g,e2⟩:=cV.1 p;have m:=gY.1 h.2;obtain e|e|e:=mA i j;·exact Sz R<|m i j d g e z (e1▸ha) z (e2▸k)
 .exact e
 exact Sz R<|m j i g d e z (e2▸k) z (e1▸ha)
theorem Wl.one{V:N}{xs:Wi}(hv:XJ ⟨(V:I),xs⟩=So){u d k b' k':N}(l:Wl xs u d k)(f:Wl xs u b' k'):d=b'/\k=k':=by
 have g:=(Eu hv).1;let⟨x,e,v⟩:=l.mem;let⟨K,h,w⟩:=f.mem;have t:=uj (f:=Z6) g e h v w;subst t;rw[e]at h;cases h;refine⟨R,?_⟩;have m:(Z6 x).Nodup:=by
  unfold List.Nodup BX at g;rw[iK]at g;exact g.1 x<|eN e
 unfold Z6 at m;rw[gW]at m;let⟨_,p,o⟩:=m;rw[Vs]at p o;have r:∀{k},Wl xs u d k->k=0->(u:I)∈XG x.1:=λ{k} q i=>by
  subst i;let⟨C,c,F⟩:=uK q;rw[e]at c;cases c;exact F
 have n:∀{k},Wl xs u d k->∀j,k=j+1->∃y,x.2[j]?=S y/\(u:I)∈BW y:=λ{k} q j i=>by
  subst i;let⟨C,y,c,a,b⟩:=q;rw[e]at c;cases c;exact⟨y,a,b⟩
 cases k with
 |zero=>
  cases k' with
  |zero=>rfl
  |succ j=>
   let⟨y,a,b⟩:=n f j R;exact Sz R<|o _ (r l R) _ (bV.2 ⟨y,eN a,b⟩)
 |succ B=>
  let⟨y,a,b⟩:=n l B R;cases k' with
  |zero=>exact Sz R<|o _ (r f R) _ (bV.2 ⟨y,eN a,b⟩)
  |succ j=>
   let⟨L,s,z⟩:=n f j R;rw[uj (f:=BW) p a s b z]
theorem Vk{x:Xe}{u:N}{q:Bool}{k:N}:∀i,k<=i->i<=J x.2->JT x u q i=So->(∀j y,k<=j->j<i->x.2[j]?=S y->(u:I)∉BW y)->JT x u q k=So
 |0,hk,_,h,_=>by
  have:k=0:=O;subst this;exact h
 |i+1,hk,hi,h,hn=>by
  by_cases e:k=i+1;·subst e;exact h
  refine Vk i O O ?_ λj y a d=>hn j y a O;rw[qe u q (show i<J x.2 from hi),h];have c:¬H7 x.2[i]=(u:I):=λe=>(hn i x.2[i] O O (aC _)) (YN.1 e);simp[c]
theorem qN{xs:Wi}(hns:¬∃x,N4 xs x){u b:N}(d:Nu xs u b)(h:Ol xs u b):False:=by
 obtain⟨c,e⟩:=h
 induction e with
 |here _ a=>exact hns ⟨u,_,d,c,a⟩
 |step _ a f g _ i=>exact i (Nu.step d c a f) g
theorem Ee{xs:Wi}{d b:N}(h:Re (X8 xs) b):Av (X8 xs) d b\/d=0\/∃p,Av (X8 xs) d p/\d∈X8 xs p:=by
 induction h with
 |root=>
  by_cases e:d=0;·exact aZ<|bC e
  exact bC<|Av.root e
 |@step c t _ f a=>
  obtain a|a:=a
  .by_cases e:t=d;·subst e;exact aZ<|aZ ⟨c,a,f⟩
   exact bC<|Av.step a f e
  exact aZ a
theorem qP{xs:Wi}{u b:N}(d:b<J xs){q:Bool}(hq:q=So↔UV xs u b){i:N}(e:i<=J xs[b].2)(h:JT xs[b] u q i=So)(g:Yo xs b u=Sn)(f:∀j y,j<i->xs[b].2[j]?=S y->(u:I)∉BW y):Ol xs u b :=
 ⟨g,(vk d hq).1 (Vk i aN e h λj y _ a c=>f j y a c)⟩
section
variable {V: N} {xs: Wi} (hv: XJ ⟨(V: I), xs⟩ = So) (hr: Jq xs) (hns: ¬ ∃ x, N4 xs x)
include hv
theorem qU{u d k b:N}(a:Wl xs u d k)(c:b≠d):Yo xs b u=Sn:=by
 cases e:Yo xs b u with
 |false=>rfl
 |true=>exact Sz (Wl.one hv (k:=0) e a).1 c
theorem VZ{u d k b j:N}(c:Wl xs u d k)(f:b≠d\/j+1≠k){x:Xe}{y:Yg}(e:xs[b]?=S x)(a:x.2[j]?=S y):(u:I)∉BW y:=λh=>by
 have:=Wl.one hv (k:=j+1) ⟨x,y,e,a,h⟩ c;omega
theorem FP{u d k b:N}(a:Wl xs u d k)(f:b≠d):C7 xs b u≠2:=by
 unfold C7;cases e:xs[b]? with
 |none=>simp
 |some x=>
  show NA x (XP xs b) (u:I)≠2;unfold NA;refine Ud _ λy g h=>?_;obtain⟨j,c,rfl⟩:=bR g;exact VZ hv a (bC f) e (aC c) h
theorem wg(hns:¬∃x,N4 xs x){u e n b:N}(i:Wl xs u e n)(k:Av (X8 xs) e b):Nu xs u b/\Yo xs b u=Sn/\C7 xs b u=0:=by
 have j:∀b,b≠e->Nu xs u b->Yo xs b u=Sn/\C7 xs b u=0:=λb a d=>by
  have h:=qU hv i a;have o:=FP hv i a;have p:=qD xs b u;refine⟨h,?_⟩;by_cases f:C7 xs b u=1;·exact Sz ⟨u,b,d,h,f⟩ hns
  omega
 induction k with
 |root l=>exact⟨Nu.root,j 0 (λf=>l f.symm) Nu.root⟩
 |@step c t q m a g=>
  have d:=Nu.step g.1 g.2.1 g.2.2 m;exact⟨d,j t a d⟩
include hr hns
theorem vE{u d n b:N}(e:Wl xs u d n)(m:d<J xs)(h:Ol xs u b):JO (X8 xs) d b/\d≠b:=by
 have c:=h.2.lt;have f:¬Av (X8 xs) d b:=λha=>qN hns (wg hv hns e ha).1 h;refine⟨⟨hr d m,hr b c,f⟩,λg=>?_⟩;subst g;obtain a|a|⟨p,a,i⟩:=Ee (d:=d) (hr d c);·exact f a
 .subst a;exact qN hns Nu.root h
 obtain⟨j,k,l⟩:=wg hv hns e a;exact qN hns (Nu.step j k l i) h
omit hr hns
theorem EK{u d k b:N}(c:Wl xs u d k)(e:b≠d)(a:b<J xs)(h:UV xs u b):Ol xs u b:=by
 refine qP a (q:=So) ⟨λ_=>h,λ_=>R⟩ aA ?_ (qU hv c e) λj y _ f=>VZ hv c (bC e) (aC a) f;rw[WT _ _<|aA];simp
theorem FM(o:UF xs){u d p e:N}(l:Wl xs u d p)(m:e<J xs){c:N}(h:Sf (X8 xs) d e e c)(j:c≠e)(n:Ol xs u c):UV xs u e:=by
 have lt:∀{c},Sf (X8 xs) d e e c->c<J xs:=λ{c} h=>by
  induction h with
  |here=>exact m
  |step _ a _ _ b=>exact o.tg _ b _ a
 induction h with
 |here=>exact Sz R j
 |@step c t g a q r b=>
  have f:UV xs u c:=aZ ⟨t,a,n⟩;by_cases e1:c=e;·rw[<-e1];exact f
  have k:c≠d:=by
   cases g with
   |here=>exact Sz R e1
   |step _ _ i _=>exact i
  exact b e1<|EK hv l k (lt g) f
theorem EB(f:UF xs){u d o e b:N}(i:Wl xs u d o)(a:JO (X8 xs) d e)(c:JO (X8 xs) e b)(n:e≠b)(l:Ol xs u b):UV xs u e:=by
 have g:=λh=>FM hv f i (f.re e a.2) h (λq=>n q.symm) l;obtain⟨h3,_⟩|h3|h3:=vp (a:=d) (b:=e) c.2;·exact Sz h3 (J8 a c).3
 .by_cases q:d=e;·subst q;exact g h3
  have:Av (X8 xs) e d:=dQ λm=>q<|Z1 a ⟨a.2,a.1,m⟩;exact Sz (rm h3 (aZ R) this) c.3
 exact g h3
def OD(xs:Wi)(u b i:N):Prop:=∃x,xs[b]?=S x/\i<=J x.2/\(Wl xs u b i\/∃q:Bool,(q=So↔UV xs u b)/\JT x u q i=So)
omit hv
open Classical in
theorem OD.of{b i u:N}(a:b<J xs)(c:i<=J xs[b].2)(h:u∈Uq xs xs[b] V b i):OD xs u b i:=by
 unfold Uq at h;obtain⟨_,h⟩:=fG.1 h;refine⟨xs[b],aC a,c,?_⟩;unfold Ox at h;cases i with
 |zero=>
  obtain h|h:=dI _ _▸h
  .refine aZ ⟨_,?_,h⟩;rw[bD]
  exact bC h
 |succ j=>
  obtain h|h:=dI _ _▸h
  .refine aZ ⟨_,?_,h⟩;rw[bD]
  have d:j<J xs[b].2:=c;rw[aC d]at h;exact bC ⟨xs[b],xs[b].2[j],aC a,aC d,YN.1<|fV h⟩
theorem OD.to_{b i u:N}(j:u<V)(m:b<J xs)(h:OD xs u b i):u∈Uq xs xs[b] V b i:=by
 obtain⟨x,e,n,h⟩:=h;have ex:xs[b]=x:=(cV.1 e).2;unfold Uq;refine fG.2 ⟨bE.2 j,?_⟩;unfold Ox;rw[ex];have hq:∀q:Bool,(q=So↔UV xs u b)->∀d:Decidable (UV xs u b),@decide (UV xs u b) d=q:=λq hq d=>by
  rw[eQ,bD,hq]
 obtain h|⟨q,g,c⟩:=h
 .cases i with
  |zero=>
   have h:Yo xs b u=So:=h;rw[dI];exact aZ h
  |succ l=>
   obtain⟨o,y,a,f,k⟩:=h;rw[e]at a;cases a;rw[dI];refine aZ ?_;rw[f];exact eB<|YN.2 k
 rw[hq q g];cases i with
 |zero=>rw[dI];exact bC c
 |succ l=>rw[dI];exact bC c
include hv hr hns
theorem WG{u d n b m:N}(a:Wl xs u d n)(h:OD xs u b m):JO (X8 xs) d b/\(d=b->n<=m)/\(d≠b->Ol xs u b):=by
 let⟨x,f,l,h⟩:=h;let⟨c,ex⟩:=cV.1 f;have k:d<J xs:=by
  let⟨z,o,_⟩:=a.mem;exact(cV.1 o).1
 obtain h|⟨q,i,j⟩:=h
 .let⟨e1,e2⟩:=Wl.one hv a h;subst e1 e2;exact⟨Zd<|hr d c,λ_=>aA,λq=>Sz R q⟩
 subst ex;by_cases e1:d=b
 .subst e1
  refine⟨Zd<|hr d c,λ_=>?_,λq=>Sz R q⟩;apply dQ;intro t;have r:Yo xs d u=Sn:=by
   cases ep:Yo xs d u with
   |false=>rfl
   |true=>have:=(Wl.one hv (k:=0) ep a).2;omega
  have e:=qP c i l j r λs y p g=>VZ hv a (aZ O) f g;exact(vE hv hr hns a k e).2 R
 have e:=qP c i l j (qU hv a λq=>e1 q.symm) λs y p g=>VZ hv a (bC λq=>e1 q.symm) f g;exact⟨(vE hv hr hns a k e).1,λq=>Sz q e1,λ_=>e⟩
theorem DP(F:UF xs){u d k w e m f j:N}(b:Wl xs u d k)(g:Wl xs w e m)(s:OD xs u f j)(K:OD xs w f j)(o:JO (X8 xs) d e)(i:d=e->k<=m):OD xs u e m:=by
 have K_:=hv;let⟨J_,N_,L⟩:=WG hv hr hns b s;let⟨l,M,_⟩:=WG hv hr hns g K;let⟨z,a,_⟩:=g.mem;have L_:=(cV.1 a).1;have r:m<=J z.2:=by
  cases m with
  |zero=>exact aN
  |succ t=>
   let⟨P_,y,n,c,_⟩:=g;rw[a]at n;cases n;exact(cV.1 c).1
 refine⟨z,a,r,?_⟩;by_cases p:d=e/\k=m
 .obtain⟨rfl,rfl⟩:=p;exact bC b
 right;by_cases e1:e=f
 .subst e1;have P:=M R;let⟨O_,ex,B,h⟩:=s;rw[a]at ex;cases ex;obtain h|⟨q,v,x⟩:=h
  .let⟨q1,q2⟩:=Wl.one hv b h;have:=i q1;exact Sz ⟨q1,O⟩ p
  refine⟨q,v,Vk j P B x λt y C M_ c=>VZ hv b ?_ a c⟩;by_cases q1:d=e
  .right;have:=i q1;omega
  left;exact λq=>q1 q.symm
 have T:d≠f:=λq=>by
  subst q;exact e1<|Z1 l o
 have W:=EB hv F b o l e1<|L T;refine⟨So,⟨λ_=>W,λ_=>R⟩,Vk (J z.2) r aA ?_ λt y C _ c=>VZ hv b ?_ a c⟩;·rw[WT _ _<|aA];simp
 by_cases q1:d=e
 .right;have:=i q1;omega
 left;exact λq=>q1 q.symm
end
end
def P2(C:Ym)(l:Wa)(c j:N):Prop:=∀i (h:i<J l),i<j->C l[i]≠(c:I)
theorem Mp{C:Ym}:P2 C s c 0:=λi _ h=>Sz h O
def Ap(C:Ym)(l:Wa)(c:N):Prop:=∀a,a < c->∃u∈l,C u=(a:I)
def Pw(C:Ym)(l:Wa)(c j:N)(b:Bool):Prop:=(b=So->P2 C l c j)/\(b=Sn->∃u∈l,C u=(c:I))
theorem yH(y:Uy)(M:N)(C:Ym)(x:Uy)(c:N)(w:Ub)(F:Q (∀u,u<n->∃b o,y=S (A b o)/\E w (A b<|o+u)=S (H<|C u)))(ha:Q (∀i (h:i<J s),∃b o,x=S (A b o)/\E w (A b<|o+i)=S (H (s[i]:I))))(k:Q (m=J s))(R_:m<=1048576)(P:Q (∀u∈s,u<n)):
 Sk prog 45 #[X y n M,X x m c] w λe K=>e=Rt (H (Nx C s:I))/\K=w:=by
 go_in
 go_wp2
 go_loop [5] (λi=>∃q:N,q<=m/\i=H q/\Q (Ap C s q)) λi=>m-(intOf i).toNat
 case atStart=>exact⟨0,aN,R,Y λp h=>Sz h O⟩
 obtain⟨q,hq,rfl,l⟩:=hrel;by_cases Q_:q<m
 .go_wp2
  go_loop [6,7] (λb i=>∃(a:Bool)(j:N),b=Sb a/\j<=m/\i=H j/\Q (Pw C s q j a)) λ_ i=>m-(intOf i).toNat
  case atStart=>exact⟨So,0,R,aN,R,Y ⟨λ_=>Mp,λh=>by cases h⟩⟩
  obtain⟨a,j,rfl,O_,rfl,d⟩:=hrel;by_cases T:j<m
  .have z:j<J s:=k.o▸T
   obtain⟨b,o,rfl,L_⟩:=ha j z;have t:=aH z;have v:=P _ t;obtain⟨b2,T_,rfl,e1⟩:=F _ v;have V:Q (C s[j]=(q:I)->Pw C s q (j+1) Sn):=Y (λe=>⟨λh=>(by cases h),λ_=>⟨_,t,e⟩⟩);have B:Q (C s[j]≠(q:I)->Pw C s q (j+1) a):=Y (λe=>⟨λh i g M_=>by
    by_cases e2:i=j;·subst e2;exact e
    exact d.1 h i g O,d.2⟩)
   generalize s[j]=u at*;generalize C u=L at*;have P_:(j:I)<(m:I):=O;have S_:(u:I)<(n:I):=O;by_cases r:L=(q:I)
   .subst r;go_wp2;exact⟨⟨Sn,j+1,R,O,gM,Y<|V.o R⟩,SA⟩
   have N_:(L==(q:I))=Sn:=by rw[iS];exact r
   go_wp2;exact⟨⟨a,j+1,R,O,gM,Y<|B.o r⟩,SA⟩
  have W:j=m:=O;subst W;cases a with
  |true=>
   have f:Q (Nx C s=q):=Y (ry ⟨λu v e=>by
    obtain⟨i,g,rfl⟩:=bR v;exact d.1 R i g (k.o▸g) e,l⟩)
   go_wp2;go_ret;exact⟨by rw[f.o];rfl,R⟩
  |false=>
   have f:Q (Ap C s<|q+1):=Y (λp h=>by
    by_cases e:p=q;·subst e;exact d.2 R
    exact l p O)
   go_wp2;exact⟨⟨q+1,O,gM,f⟩,SA⟩
 have J_:q=m:=O
 subst J_;have f:Q (Nx C s=q):=Y (by
  have h:=wL (C:=C) (l:=s) (k.o▸l);rw[k.o];exact ry h)
 go_wp2;go_ret;exact⟨by rw[f.o];rfl,R⟩
section
attribute [local go_sem] Oper.semAt_some
structure OM(w6:Ub)(gT Kr:N)(R_:Vv)(U_:Ub):Prop where
 os:U_.4=w6.4
 tape:U_.2=w6.2
 output:U_.5=w6.5
 size:Z w6.1<=Z U_.1
 gl:gT<Z w6.1
 fr:∀q,q<Z w6.1->q≠gT->U_.1[q]?=w6.1[q]?
 st:∃T:Wk,Cp U_ gT Kr Kr T/\XA T/\∀c,c<64*Kr->(Xh T c=So↔R_ c)
section
variable {w6 U_ U': Ub} {gT Kr: N} {R_ R': N -> Prop}
theorem OM.far(h:OM w6 gT Kr R_ U_)(k:Sw (Z w6.1) U_ U'):OM w6 gT Kr R_ U':=by
 let⟨T,a,b⟩:=h.7;exact⟨G k.1 h.1,G k.2 h.2,G k.3 h.3,aJ h.4 k.4,h.5,λq q1 q2=>G (k.5 q q1) (h.6 q q1 q2),T,a.of_block<|k.5 _ h.5,b⟩
theorem OM.congr(h:OM w6 gT Kr R_ U_)(e:∀c,c<64*Kr->(R_ c↔R' c)):OM w6 gT Kr R' U_:=by
 let⟨T,b,d,f⟩:=h.7;exact⟨h.1,h.2,h.3,h.4,h.5,h.6,T,b,d,λc a=>(f c a).trans (e c a)⟩
theorem OM.own(w6:Ub)(gT Kr:N){a:Type}(R_:a->Vv):OwnFrom (Z w6.1) (λs U_=>OM w6 gT Kr (R_ s) U_):=λs d U_ row h k q=>by
 have:=h.4;exact h.far ⟨k.1,k.2,k.3,k.4,λb c=>k.5 b O λe=>by have:=(q b e.symm).1;omega⟩
theorem OM.cell(h:OM w6 gT Kr R_ U_){b o:N}{v:Uj}(c:b≠gT)(a:E w6 (A b o)=S v):E U_ (A b o)=S v:=G (Xc<|h.6 b (aI w6 _ a) c) a
theorem OM.turn(h:OM w6 gT Kr R_ U_){g:Wk}(k:U_.grownBy U' (S gT))(b:Cp U' gT Kr Kr g)(d:XA g)(a:∀c,c<64*Kr->(Xh g c=So↔R' c)):OM w6 gT Kr R' U':=by
 have f:=h.4;exact⟨G k.1 h.1,G k.2 h.2,G k.3 h.3,aJ h.4 k.4,h.5,λq q1 q2=>G (k.5 q O λe=>q2<|by injection e) (h.6 q q1 q2),g,b,d,a⟩
end
def jn(a:Wc)(l:Wa)(c:N):Prop:=∃v∈l,a[v]?=S (c:I)
theorem VA{z g C:N}{W:Wk}{P:Uy}{m:N}(T:N){s Kr:N}{k:Wc}{b1 aq:N}{w:Ub}(Q_:Q (Cp w z g C W))(ce:Q (XA W))(ha:Q (Xf w b1 aq P k))(hx:Q (m=J k))(hB:aq<=Z w.1)(hT:Q (Jn w))(hK:g<=100)(b7:Q (N1 m g W))(hr:s<=2000)(af:Q (Kr=(s+63)/64))(hc:Q (∀c∈k,c=-1\/0<=c/\c<s)):
 Sk prog 127 #[Sa #[Hl z g C],X P m T,H s] w λr n=>∃ab aa,r=Rt (Sa #[Hl ab Kr Kr])/\Z w.1<=ab/\Sw (Z w.1) w n/\Cp n ab Kr Kr aa/\XA aa/\∀c,c<64*Kr->(Xh aa c=So↔jn k (Mq W<|64*g) c):=by
 have HN:=Y λW=>As s W O;simp only[<-af.o]at HN;have cn:Kr<=100:=oN af.o;have ct:s<=64*Kr:=oN af.o;refine(bM (n:=8)).1 ?_;refine callsIn_of_wp_marks func127 R trivial ?_ R;simp only[ntmps127,xY,Nat.reduceAdd,Nat.reduceSub];gi_wp2
 have cj:=Q_.lt;have M_:(λf:Ub=>Q (Sw (Z w.1) w f)/\Z w.1+3<=Z f.1/\E f (A (Z w.1) 0)=S (Hl z g C)/\E f (A (Z w.1+1) 0)=S (X P m T)/\Q (f.rowIs (Z w.1+2) 209 1 λ_=>Hq)) (D (D (D w<|.cells #[Hl z g C] 113) (Sc #[X P m T] 35)) (Sc #[Hq] 209)):=⟨Y<|Xb (Xb (Xb Rf _) _) _,sP,SC,SC,(Y (by
  have h:=eK (D (D w<|.cells #[Hl z g C] 113) (Sc #[X P m T] 35)) #[Hq] 209 (λ_=>Hq) (λS_ K=>by match S_,K with|0,_=>rfl)
  rw[aO,aO]at h;exact h))⟩
 generalize D (D (D w _) _) _=w0 at*;let⟨az,cv,c3,c4,a4⟩:=M_;refine⟨trivial,(bM.2<|HN w0).mono ?_⟩;rintro r o⟨gT,rfl,cp,V,aj⟩;have cw:=V.4;have d3:=G (XU V O) c3;have d4:=G (XU V O) c4;have a0:=Y<|Xg az V;have a5:=Y<|a4.of_block (V.5 _ O);have a6:=Y aj;have cr:=aj.lt;have e3:=λob=>G (bP o ob (A (Z w.1) 0) (by show Z w.1<_;omega)) d3;clear V aj c3 c4 HN a4 az;gi_wp2;have M_:(λf:Ub=>Sw (Z o.1) o f/\Z o.1+1<=Z f.1/\E f (A (Z o.1) 0)=S (Hl gT Kr Kr)) (D o<|.cells #[Hl gT Kr Kr] 209):=⟨Xb Rf _,sP,SC⟩;generalize D o _=L at*;let⟨l,cz,c7⟩:=M_;clear e3;refine⟨trivial,(FO 7 (S ⟨z,0,U⟩) g C L).mono ?_⟩;rintro r B⟨rfl,u⟩;have ad:Sw (Z L.1) L B:=by rw[u];exact Xb Rf _
 have cx:Z L.1+1<=Z B.1:=by rw[u,aO];exact aA
 have a9:E B (A (Z L.1) 0)=S (Hl z g C):=by rw[u];simp[go_sem]
 have F:=Y<|Xg l ad;have p:=Y<|Xg a0 F;have f4:=G (XU F O) d4;have f7:=G (XU ad O) c7;have bp:=Y<|a5.of_block (F.5 _ O);have bq:=Y<|a6.of_block (F.5 _ O);have b4:(4: N)<Z w.1:=aI w _<|hT 0 vY;have b0:=Y<|Q_.of_block (p.5 z cj);have br:=Y<|hT.of_block (p.5 _ b4);have bl:=Y f4;have a2:=Y f7;have bi:=Y a9;clear l ad u c7 d3 d4 f4 f7 a9 a0 a5 a6;gi_wp2
 have bm:Q (OM B gT Kr (jn k []) B):=Y ⟨R,R,R,aA,oN F.4,λ_ _ _=>R,λ_=>0,⟨aA,λ_=>Hq,bq.congr λS_ K=>by rw[aU K]⟩,KW,λc _=>⟨λh=>by simp[Xh]at h,λh=>by let⟨v,b,_⟩:=h;simp at b⟩⟩;have c8:=F.4;refine wj (F:=Fence.wide) (n:=8) R vY (gf:=194) (lb:=#[Hn (Z L.1)]) R trivial (enters_of func194 vZ R) (DS (λq=>q=gT) bi b0 ce br hK (Y O) (Y O)) (λ_ _ _ _ h _ _=>h) (λh ck=>h.trans ck) (λW T_ V_ O_ b a j=>Zf.putObj W T_ V_ O_ b a j) Rf (λ_=>R)
  (λao U_=>OM B gT Kr (jn k ao) U_) (OM.own B gT Kr<|jn k) bm
  (λx a' U_=>a'=⟨#[Sa #[Hl z g C],X P m T,H s,Hn (Z w.1),Hn<|Z w.1+1,Su,Hn<|Z w.1+1+1,Hn (Z o.1),H x,H s,Sa #[Hl gT Kr Kr],Sa #[Hl z g C],.func (.func 194) #[] #[Hn (Z L.1)],H x,Su,Su,Su,Su,Su,Su,Su,Su,Su,Su,Su,Su,Su],[]⟩) (λ_ _ _ _ _ _ h _ _=>h) ?assign ?body ?done
 case assign=>
  intro T_ ao x U_ a7 d hP bc;have e:=Y d;have bo:=Y bc;clear d bc;gi_wp2;exact bo _ _ (KeepsOthers.refl _) (Zf.refl _) e hP R
 case body=>
  rintro T_ ao x a' U_ d hP rfl b6;have e:=Y d;have bh:=om.1 hP;have cf:=b7 x bh.1 bh.2;have al:x<J k:=by rw[<-hx.o];exact cf
  obtain⟨a8,V_,rfl,hb,ba⟩:=ha x al;have e0:=d.cell O<|G (XU p O) ba;have e4:=d.cell O bl;have e7:=d.cell O a2;have co:=hc _<|aH al;have Y_:=Y<|aC al;have ca:=d.4;generalize k[x]=ap at*;have c6:(x:I)<(m:I):=O;clear d ba b6;by_cases hy:ap=-1
  .subst hy;have cg:((-1:I) != -1)=Sn:=vY;gi_wp2;refine⟨KeepsOthers.refl _,Zf.refl _,e.congr λc _=>?_⟩;constructor;·rintro⟨v,b,a⟩;exact⟨v,dD _ b,a⟩
   rintro⟨v,b,a⟩;obtain j|j:=bU.1 b;·exact⟨v,j,a⟩
   rw[cS.1 j,Y_.o]at a;injection a with a;omega
  have cg:(ap != -1)=So:=by rw[jJ];exact hy
  obtain⟨t,rfl⟩:=bX (show 0<=ap by omega);have cd:t<64*Kr:=O;let⟨X_,I_,N_,P_⟩:=e.7;have HX:=Y I_;have bx:=Y N_;have bv:=Y P_;have ar:Q (∀i,Sw (Z U_.1) U_ i->Z U_.1+1<=Z i.1->E i (A (Z U_.1) 0)=S (H t)->Sk prog 170 #[Sa #[Hl gT Kr Kr],Hl (Z U_.1) 1 1] i λr n=>r=Rt (St #[])/\i.grownBy n (S gT)/\Cp n gT Kr Kr (E2 X_ [t])):=Y (λi b a j=>by
   refine AY gT Kr Kr 1 1 X_ (S ⟨Z U_.1,0,U⟩) [t] (Z U_.1) (Z U_.1+1) i (Y λS_ K=>?_) (Y R) vY (Y λz Q_=>by rw[cS.1 Q_];exact cd) O (Y N_) (Y<|I_.of_block (b.5 _ I_.lt)) a (oN e.5);have b5:S_=0:=by simp at K;exact K
   subst b5;exact⟨Z U_.1,0,R,⟨aA,O⟩,j⟩)
  clear I_ N_ P_;gi_wp2;refine Tc (λn=>E n (A (Z o.1) 0)=S (Hl gT Kr Kr)/\E n (A (Z w.1+1) 0)=S (Hm a8 V_ m T)/\E n (A a8<|V_+x)=S (H t)) λhHeld=>?_;refine Yi 0 ?_;refine Yi 1 ?_;refine Yi 2 ?_;refine Yi 3 ?_;refine Yi 4 ?_;refine Yc 5 λa7 hK=>?_;go_simp;have M_:(λf:Ub=>Sw (Z U_.1) U_ f/\Z U_.1+1<=Z f.1/\E f (A (Z U_.1) 0)=S (H t)) ((D U_<|.cells #[H t] 211).drew):=⟨(Xb Rf _).drew,(by simp[World.drew]),SC⟩;generalize (D U_ _).drew=i at*;let⟨l,ch,bd⟩:=M_;have E_:=Y l;have g0:=oB l e0<|aI U_ _ e0;have g4:=oB l e4<|aI U_ _ e4;have g7:=oB l e7<|aI U_ _ e7;have a1:=Y<|ar.o i l ch bd;clear ar l bd e0 e4 e7;refine hK _ _ ⟨g7,g4,g0⟩ λhHeld=>?_;clear hK;refine Yc 6 λa7 hK=>?_;go_simp;refine⟨trivial,(CallsIn.inRound T_<|bM.2 a1).mono ?_⟩;rintro r U3⟨rfl,y,u⟩;have q3:∀(L_ O_:N)(v:Uj),L_≠gT->E i (A L_ O_)=S v->E U3 (A L_ O_)=S v:=λL_ O_ v b a=>G (Xc<|y.5 L_ (aI i _ a) λr=>b<|by injection r) a;have Z_:Q (U_.grownBy U3<|some gT):=Y ⟨G y.1 E_.1,G y.2 E_.2,G y.3 E_.3,aJ E_.4 y.4,λq q1 q2=>G (y.5 q (aX q1 E_.4) q2) (E_.5 q q1)⟩;have bt:=Y u;refine hK _ _ ⟨q3 _ _ _ O g7,q3 _ _ _ O g4,q3 _ _ _ O g0⟩ λhHeld=>?_;clear hK y u q3 g0 g4 g7 a1
  try simp only[xX]
  refine ZV ?_;clear hHeld;gi_wp2;refine⟨Jc Z_ HX.obj,Zg Z_ R ca,e.turn Z_ bt (Zs [t] bx) λc b3=>?_⟩;rw[YR,dI,bv.o c b3,bD,cS];constructor
  .rintro(h|⟨v,b,a⟩);·exact⟨x,fB _<|cS.2 R,by rw[Y_.o,h]⟩
   exact⟨v,dD _ b,a⟩
  rintro⟨v,b,a⟩;obtain j|j:=bU.1 b;·exact aZ ⟨v,j,a⟩
  rw[cS.1 j,Y_.o]at a;injection a with a;exact bC (by have h4:=a;omega)
 rintro M xs U_ hD rfl d bb;have e:=Y d;have a3:=Y bb;have h7:=d.cell O a2;have ac:=bp.of_block<|d.6 (Z w.1+2) O O;have h6:=ac.cell (i:=0) vY;have cl:=ac.frozen 0;have ci:=d.4;clear d bb;have cm:=(aS.1 a3).1;gi_wp2
 have bn:Q ((Se U_ (A (Z w.1+2) 0) (Hl gT Kr Kr)).1[M]?=S (.deferred (S []))):=Y (G (Below.heap_setCell _ _ _ _<|by show M≠Z w.1+2;omega) a3);have b8:E ((Se U_ (A (Z w.1+2) 0) (Hl gT Kr Kr)).putObj M (.deferred U)) (A (Z w.1+2) 0)=S (Hl gT Kr Kr):=by
  refine G (bZ (a:=(A (Z w.1+2) 0)) (World.putObj_heap_other<|show Z w.1+2≠M by omega)) ?_;have:=(ac.set 0<|Hl gT Kr Kr).cell (i:=0) vY;simpa using this
 refine YK bn ⟨Sa #[Hl gT Kr Kr],by simp[results,results127,go_sem,b8],?_⟩;have be:∀q,q≠Z w.1+2->q≠M->((Se U_ (A (Z w.1+2) 0) (Hl gT Kr Kr)).putObj M (.deferred U)).1[q]?=U_.1[q]?:=λq q1 q2=>G (World.putObj_heap_other q2) (Below.heap_setCell _ _ _ _ q1);let⟨X_,I_,N_,P_⟩:=e.7;have cq:=e.5;refine⟨gT,X_,R,O,⟨G e.1 p.1,G e.2 p.2,G e.3 p.3,?_,λq hq=>G (be q O O) (G (e.6 q O O) (p.5 q hq))⟩,I_.of_block<|be gT O O,N_,P_⟩;have cb:=p.4;have bf:=(grownBy_putObj' (Se U_ (A (Z w.1+2) 0) (Hl gT Kr Kr)) M (.deferred U)).4;rw[Xd]at bf;exact aJ cb<|aJ ci bf
end
theorem BC{C:Ym}(h:HK w n m k C):Xf w 0 (Z w.1) (S ⟨n,0,U⟩) ((Rg m).map C):=λi a=>by
 simp only[bK,gI]at a;refine⟨n,0,R,⟨aN,h.lt⟩,?_⟩;simp only[cM,dW,aV];exact h.cell a
theorem CM{C:Ym}(d:∀u∈s,u<n)(c:N):jn ((Rg n).map C) s c↔∃u∈s,C u=(c:I):=by
 unfold jn;constructor
 .rintro⟨u,a,b⟩;exact⟨u,a,by have:=d u a;simpa [this]using b⟩
 rintro⟨u,a,b⟩;exact⟨u,a,by have:=d u a;simp[this,b]⟩
theorem wQ(h:N1 n m f):∀u∈Mq f (64*m),u<n:=λu a=>by
 unfold Mq at a;let⟨b,c⟩:=fG.1 a;exact h u (bE.1 b) c
def rB(C:Ym)(l:Wa)(c:N):Prop:=∀a,a < c->∃u∈l,C u=(a:I)
theorem Dl{b U_:N}{C:Ym}(hz:Q (Cp w k B g f))(a7:Q (XA f))(X_:Q (Jn w))(hK:B<=100)(ac:Q (N1 m B f))(hV:m<=2000)(z:Q (HK w j m i C))(hc:Q (∀u,u<m->C u=-1\/0<=C u/\C u<m))(s:n<m)(hn:Q (C n=-1))(V_:E w (A b 0)=S (Hl j m i))(h2:E w (A U_ 0)=S (H m))(a1:b≠j):
 Sk prog 136 #[H n,Sa #[Hl k B g],Hn b,Hn U_] w λe w'=>e=Rt (H (Nx C (Mq f<|64*B):I))/\w.grownBy w' (S j)/\HK w' j m i (Nn C (n,Mq f<|64*B)):=by
 let⟨a,W_⟩:∃a,a=(m+63)/64:=⟨_,R⟩;have K_:=Y (λaz (F:Sw (Z w.1) w az)=>VA i (Y<|hz.of_block (F.5 k hz.lt)) a7 (Y<|BC (z.of_block<|F.5 j z.lt)) (Y sP) aA (Y<|X_.of_block (F.5 _<|aI w _ (X_ 0 vY))) hK ac hV (Y W_) (Y (λc hm=>by
  obtain⟨u,M,rfl⟩:=aY.1 hm;exact hc u<|bE.1 M)))
 have ba:m<=64*a:=O;have bb:a<=100:=O;clear W_;have N_:=Y<|wQ ac;generalize Mq f (64*B)=K at*;have O_:Q (∀c,rB C K c->c<m):=Y λc y=>wI y N_ s hn;have l1:=aI w _ V_;have l2:=aI w _ h2;have a4:=z.lt
 go_in
 go_wp2_with fail
 refine(K_ _<|Xb Rf _).mono ?_;rintro e t⟨r,T,rfl,bf,P,Y_,aa,ab⟩;have bi:Z w.1+1<=Z t.1:=by have:=P.4;simpa using this
 have al:=Y<|Xg (Xb (Below.refl (Z w.1) w) (Sc #[Hl k B g] 113)) P;have R_:=Y Y_;have aq:=Y aa;have M_:=Y λc a2=>(ab c a2).trans (CM N_ c);clear P Y_ aa ab K_;go_wp2_with fail
 have a0:(λL:Ub=>Q (Sw (Z w.1) w L)/\Q (Cp L r a a T)/\E L (A (Z t.1) 0)=S (Hl r a a)/\Z t.1<Z L.1) (D t<|.cells #[Hl r a a] 209):=⟨Y<|Xb al _,Y<|R_.alloc _,SC,sP⟩;generalize D t _=w2 at*;let⟨l,S_,af,a6⟩:=a0;have ar:=Y af;clear af R_
 go_loopw [8] (λu wr=>∃c:N,u=H c/\Q (rB C K c)/\Q (Sw (Z w2.1) w2 wr)) λu _=>m-(intOf u).toNat
 case atStart=>exact⟨0,R,Y λx y=>Sz y O,Y<|Rf⟩
 obtain⟨c,rfl,V,o⟩:=hrel;have bd:=O_ c V;have hx:=oB o ar a6;have Z_:=S_.of_block<|o.5 r S_.lt;have p:=Y (A7 r a c T wr aq (Y (by
  let⟨_,a9,hX⟩:=Z_;exact hX.congr λa8 hi=>by rw[aU hi])) O O)
 have W:=oB o (G (l.cell (p:=A b 0) l1) V_) (by have:=l.4;show b<_;have:b<Z w.1:=l1;omega);have L_:=Y<|(z.of_block<|l.5 j a4).of_block (o.5 j<|oN l.4);clear Z_;cases hh:Xh T c with
 |true=>
  rw[hh]at p;have P_:Q (rB C K<|c+1):=Y (λx y=>by
   by_cases e:x=c
   .subst e;exact(M_ x O).1 hh
   exact V x O)
  have be:=O_ _ P_;clear hh;go_wp2_with fail
  refine p.mono ?_;rintro e q⟨rfl,h⟩;have d:=Y<|Xg o h;clear h p;go_wp2;exact⟨⟨c+1,gM,P_,d⟩,SA⟩
 |false=>
  rw[hh]at p;have ad:Nx C K=c:=ry ⟨λu M e=>by
   have:=(M_ c O).2 ⟨u,M,e⟩;rw[hh]at this;exact Sz this vY,V⟩
  have Q_:=Y ad;clear hh ad;go_wp2_with fail
  refine p.mono ?_;rintro e q⟨rfl,h⟩;have a5:=oB h W<|aI wr _ W;have v:=Y<|L_.of_block (h.5 j L_.lt);have d:=Y<|l.trans ((Xg o h).mono l.4);have yc:=v.cell s;have yf:=v.frozen n;clear h p W hx;go_wp2_with fail
  have bh:E (Se q (A j n) (H c)) (A b 0)=S (Hl j m i):=G (bH q (A j n) (A b 0) _ (by show j≠b;exact λe=>a1 e.symm)) a5;have a3:=(v.set n (c:I) s).cell s;rw[aU R]at a3;have ap:=Y<|v.set n (c:I) s;have ao:Q (w.grownBy (Se q (A j n) (H c)) (S j)):=Y ((⟨d.1,d.2,d.3,d.4,λaj H_ _=>d.5 aj H_⟩:w.grownBy q (S j)).trans ⟨R,R,R,SH,λaj _ H_=>Below.heap_setCell _ _ _ _ λe=>H_<|by rw[e]⟩);generalize Se q _ _=w4 at*;go_wp2;go_ret;refine⟨by rw[Q_.o];rfl,ao,ap.congr λa8 _=>?_⟩;unfold Nn;rw[Q_.o]
end Go.Proofs.YtnggdhnpjfigjaaGreatDoor
