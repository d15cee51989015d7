import Derived.Test.YthgmkangeikilaaGreatDoorPT0
namespace Go.Proofs.YthgmkangeikilaaGreatDoor
set_option maxHeartbeats 8000000
set_option maxRecDepth 1000000
open _root_ renaming Array.size->Z,List.length->J,Nat->N,Int->I,rfl->R,Option.some->S,Option.none->U,Bool.false->Sn,List.range->Rg,Bool.true->So,absurd->Sz,Decidable.decide->Jd,trivial->JV
open Go renaming World.cell?->E,World.alloc->D,World.setCell->Se,World.ownsRow->Sx,IntKind.i64->S6,RowKit.Below->Sw,Obj.cells->Sc,Ending.returned->Rt,Calls->Sk,RowKit.intOf->JB,undef->Su,results->JC
open Value renaming int->Si,slice->X,bool->Sb,agg->Sa,pointer->Sj
open Go.RowKit Go.Proofs.Tryz Go.Shelf
variable{T:I}{n m k B g i j c:N}{w v:Ub}{a A_:Uj}{p P:Uy}{h H_:Vu}{l:Wc}{x:Wi}{f F:Wk}{y:Wo}
section
structure ON(w:Ub)(base ns:N)(G_ m:Wk)(P:N->Tj)(U_:N->Vu):Prop where
 lt:∀s,s<ns->G_ s<base
 ne:∀s s',s<ns->s' < ns->s≠s'->G_ s≠G_ s'
 row:∀s,s<ns->w.rowIs (G_ s) 99 (m s) (U_ s)
 own:∀s i,s<ns->i<m s->Sx w base 2 1 (U_ s i) (J (P s i)) ((P s i).map (Si S6))
 dj:∀s i s' j,s<ns->s' < ns->i<m s->j<m s'->(s,i)≠(s',j)->(U_ s i).ownBlock=U\/(U_ s i).ownBlock≠(U_ s' j).ownBlock
section
variable{w w' w1:Ub}{base ns:N}{G_ m:N->N}{P P':N->N->Wc}{U_:N->N->Uj}
theorem ON.below(h:ON w base ns G_ m P U_)(k:Sw (Z w.1) w w'):ON w' base ns G_ m P U_:=by refine⟨h.1,h.2,λs a=>(h.3 s a).of_block (k.5 _ (h.3 s a).lt),λs i a d=>?_,h.5⟩;refine(h.4 s i a d).kept (row:=U) ⟨k.1,k.2,k.3,k.4,λb c _=>k.5 b c⟩ ?_;cases (U_ s i).ownBlock<;>simp
theorem ON.congr(h:ON w base ns G_ m P U_)(e:∀s i,s<ns->i<m s->P s i=P' s i):ON w base ns G_ m P' U_ :=
 ⟨h.1,h.2,h.3,λs i b a=>by rw[<-e s i b a];exact h.4 s i b a,h.5⟩
theorem ON.step(h:ON w base ns G_ m P U_){s t}(f:s<ns)(g:t<m s)(y)(c:Uj)(u:w.grownBy w1 (U_ s t).ownBlock)(z:Sx w1 base 2 1 c (J (P s t)+1) ((P s t).map (Si S6)++[Si S6 y]))(r:c.ownBlock=(U_ s t).ownBlock\/c.ownBlock=S (Z w.1)):
 ON (Se w1 ⟨G_ s,t,U⟩ c) base ns G_ m (λa i=>if (a,i)=(s,t)then P s t++[y]else P a i) (λa i=>if (a,i)=(s,t)then c else U_ a i):=by
 have x:=λa b=>(h.3 a b).of_block (u.5 _ (h.3 a b).lt λe=>by have:=((h.4 s t f g).lt _ e.symm).1;have:=h.1 a b;omega)
 have fresh:∀a q,a < ns->q<m a->(U_ a q).ownBlock=U\/(U_ a q).ownBlock≠S (Z w.1):=λa q b hq=>by
  by_cases e:(U_ a q).ownBlock=S (Z w.1);·have:=((h.4 a q b hq).lt _ e).2;omega
  exact aZ e
 refine⟨h.1,h.2,λa b=>?_,λa i b d=>?_,λs1 i s2 j l n d p v=>?_⟩
 .by_cases e:a=s
  .subst e;exact((x a b).set t c).congr (λi _=>by by_cases e2:i=t<;>simp[e2])
  exact((x a b).setOther (a:=(A (G_ s) t)) (λe2=>h.2 a s b f e e2) c).congr λi _=>by simp[e]
 .refine ke ?_ (h.1 s f) _;by_cases e:(a,i)=(s,t)
  .simp only[e,gG,aQ,bA,bO,bG,eH,fZ];exact z
  simp only[e,fD];exact(h.4 a i b d).kept u (h.5 a i s t b f d g e)
 by_cases e1:(s1,i)=(s,t)
 .have e2:¬(s2,j)=(s,t):=λe=>v<|G e1 e.symm;simp only[e1,gG,e2,fD];obtain q|q:=r
  .rw[q];exact h.5 s t s2 j f n g p λe=>e2 e.symm
  right
  rw[q];intro o;obtain k|k:=fresh s2 j n p;·rw[k]at o;cases o
  exact k o.symm
 simp only[e1,fD];by_cases e2:(s2,j)=(s,t)
 .simp only[e2,gG];obtain q|q:=r;·rw[q];exact h.5 s1 i s t l f d g e1
  rw[q];exact fresh s1 i l d
 simp only[e2,fD];exact h.5 s1 i s2 j l n d p v
theorem ON.other(h:ON w base ns G_ m P U_){b T q:N}{f:Vu}(l:w.rowIs b T q f)(k:T≠2){s i}(o:s<ns)(n:i<m s):(U_ s i).ownBlock≠S b:=λe=>by
 let⟨c,d,_⟩:=l;rcases(h.4 s i o n).2 with⟨e1,_⟩|⟨g,cap,cur,e1,_,a,_⟩;·rw[e1]at e;cases e
 rw[e1]at e;injection e with e;have e:g=b:=e;subst e;rw[show w.1[g]?=_ from d]at a;injection a with a;injection a with _ j;exact k j
theorem ON.ints(h:ON w base ns G_ m P U_){s}(a:s<ns){L}(e:L<=G_ s):XR w L (Z w.1) (S ⟨G_ s,0,U⟩) ((Rg<|m s).map (P s)):=λi b=>by
 simp only[bK,gI]at b;let⟨d,c,f,ha⟩:=Xk<|h.4 s i a b;refine⟨G_ s,0,R,⟨e,(h.3 s a).lt⟩,d,c,?_,?_⟩
 .simp only[cM,dW,aV];rw[(h.3 s a).cell b,f]
 simp only[cM,dW];exact ha.mono (oN<|h.1 s a) aA
end
structure OA(w3 wr:Ub)(ns:N)(G_ m:Wk)(P:N->Tj):Prop where
 os:wr.4=w3.4
 tape:wr.2=w3.2
 output:wr.5=w3.5
 size:Z w3.1<=Z wr.1
 fr:∀q,q<Z w3.1->(∀s,s<ns->q≠G_ s)->wr.1[q]?=w3.1[q]?
 db:∃U_,ON wr (Z w3.1) ns G_ m P U_
section
variable{w3 wr wr' w8:Ub}{ns:N}{G_ m:N->N}{P P':N->N->Wc}
theorem OA.below(h:OA w3 wr ns G_ m P)(k:Sw (Z wr.1) wr wr'):OA w3 wr' ns G_ m P:=by let⟨U_,c⟩:=h.6;have:=h.4;exact⟨G k.1 h.1,G k.2 h.2,G k.3 h.3,aJ h.4 k.4,λq a b=>G (k.5 q O) (h.5 q a b),U_,c.below k⟩
theorem OA.congr(h:OA w3 wr ns G_ m P)(e:∀s i,s<ns->i<m s->P s i=P' s i):OA w3 wr ns G_ m P':=by let⟨U_,a⟩:=h.6;exact⟨h.1,h.2,h.3,h.4,h.5,U_,a.congr e⟩
theorem OA.cell(h:OA w3 wr ns G_ m P){b o}{v:Uj}(c:∀s,s<ns->b≠G_ s)(a:E w3 (A b o)=S v):E wr (A b o)=S v:=G (Xc<|h.5 b (aI w3 _ a) c) a
theorem OA.push{U_:N->Vu}{s t j x}{b:Uj}(h:OA w3 wr ns G_ m P)(e:ON wr (Z w3.1) ns G_ m P U_)(d:s<ns)(n:t<m s)(c:(D wr.drew j).grownBy w8 (U_ s t).ownBlock)(K:Sx w8 (Z w3.1) 2 1 b (J (P s t)+1) ((P s t).map (Si S6)++[Si S6 x]))(C:b.ownBlock=(U_ s t).ownBlock\/b.ownBlock=S (Z wr.1+1)):
 OA w3 (Se w8 ⟨G_ s,t,U⟩ b) ns G_ m (λy v=>if (y,v)=(s,t)then P s t++[x]else P y v)/\E w8 ⟨G_ s,t,U⟩=S (U_ s t)/\w8.frozen? ⟨G_ s,t,U⟩=Sn/\(∀q,q<Z wr.1->q≠G_ s->(U_ s t).ownBlock≠S q->w8.1[q]?=wr.1[q]?/\(Se w8 ⟨G_ s,t,U⟩ b).1[q]?=wr.1[q]?)/\Z wr.1<=Z (Se w8 ⟨G_ s,t,U⟩ b).1:=by
 have T:=h.4;have F:=c.4;have B:Z (D wr.drew j).1=Z wr.1+1:=aO _ _;have p:∀k,k<Z wr.1->(D wr.drew j).1[k]?=wr.1[k]?:=λk r=>gF wr.drew _ _ r;have L:ON (D wr.drew j) (Z w3.1) ns G_ m P U_:=e.below ⟨R,R,R,O,p⟩;have M:=L.step d n x b c K (by rw[B];exact C);have u:∀k,k<Z w3.1->(U_ s t).ownBlock≠S k:=λk r l=>by have:=((e.4 s t d n).lt k l).1;omega
 have i:∀k,k<Z wr.1->(U_ s t).ownBlock≠S k->w8.1[k]?=wr.1[k]?:=λk a g=>G (c.5 k O λl=>g l.symm) (p k a);have z:=e.1 s d;have o:=i (G_ s) O (u _ z);refine⟨⟨G c.1 h.1,G c.2 h.2,G c.3 h.3,SF,λq a f=>?_,_,M⟩,G (Xc o) ((e.3 s d).cell n),G (bJ o) ((e.3 s d).frozen t),λq a f g=>⟨i q a g,G (cY f) (i q a g)⟩,SF⟩;exact G (cY<|f s d) (G (i q O<|u q a) (h.5 q a f))
end
end
noncomputable def UU(a:List Xe)(v b i:N):List I:=match a[b]? with
 |none=>[]
 |some x=>Xi<|Uq a x v b i
open Classical in
noncomputable def N2(a:List Xe)(b i v:N):Bool:=match a[b]? with
 |none=>Sn
 |some x=>Ox a x b i v<|Jd (UV a v b)
theorem De:UU x 0 n m=[]:=by unfold UU;cases x[n]?<;>rfl
theorem um:UU x (n+1) m k=if N2 x m k n=So then UU x n m k++[(n:I)]else UU x n m k:=by
 unfold UU N2;cases x[m]? with
 |none=>simp
 |some a=>
  simp only;unfold Uq;rw[dN,eU];by_cases h:Ox x a m k n (@decide (UV x n m) (Classical.propDecidable _))=So
  .rw[aU h];simp[h,Xi]
  rw[aM h];simp[h]
theorem qy(a:Wi)(v b i):J (UU a v b i)<=v:=by
 unfold UU;cases a[b]? with
 |none=>exact aN
 |some x=>
  simp only[Xi,bK];unfold Uq;exact aJ (fJ _ _) sP
noncomputable def pQ(a:Wi)(v b i:N)(s j:N):Wc:=if s<b\/s=b/\j<i then UU a (v+1) s j else UU a v s j
theorem E4(a v s j):pQ a v 0 0 s j=UU a v s j:=by unfold pQ;rw[aM O]
theorem FC(a:k<m):pQ x n m 0 k B=UU x (n+1) k B:=by unfold pQ;rw[aU<|bC a]
theorem Es(a:B=k->g<m):pQ x n k m B g=pQ x n (k+1) 0 B g:=by
 unfold pQ;by_cases h:B<k+1;·rw[aU (by by_cases e:B=k;(· exact aZ ⟨e,a e⟩);(· exact bC O)),aU<|bC h]
 rw[aM O,aM O]
theorem Gh(h:N2 x m k n=Sn)(s j):pQ x n m k s j=pQ x n m (k+1) s j:=by
 unfold pQ;by_cases e:s=m/\j=k
 .obtain⟨rfl,rfl⟩:=e;rw[aM O,aU O,um,h];simp
 by_cases a:s<m\/s=m/\j<k;·rw[aU a,aU O]
 rw[aM a,aM O]
theorem FI(h:N2 x m k n=So)(s j):(if (s,j)=(m,k)then pQ x n m k m k++[(n:I)]else pQ x n m k s j)=pQ x n m (k+1) s j:=by
 by_cases e:(s,j)=(m,k)
 .rw[aU e];injection e with e1 e2;subst e1 e2;unfold pQ;rw[aM O,aU O,um,aU h]
 rw[aM e];have b:¬(s=m/\j=k):=λh=>e (by rw[h.1,h.2]);unfold pQ;by_cases a:s<m\/s=m/\j<k;·rw[aU a,aU O]
 rw[aM a,aM O]
theorem FG(a v b i s j):J (pQ a v b i s j)<=v+1:=by
 unfold pQ;split;·exact qy _ _ _ _
 have:=qy a v s j;omega
structure PC(w2 wr:Ub)(u:Uj)(b:N)(m:Wk)(G_:Wk):Prop where
 low:Sw (Z w2.1) w2 wr
 own:Sx wr (Z w2.1) 96 1 u b ((Rg b).map λs=>X (S ⟨G_ s,0,U⟩) (m s) (m s))
 row:∀s,s<b->Z w2.1<=G_ s/\wr.rowIs (G_ s) 99 (m s) λ_=>X U 0 0
 ne:∀s s',s<b->s' < b->s≠s'->G_ s≠G_ s'
theorem PC.start(a m):PC a (D a<|Sc #[] 96) (X (S ⟨Z a.1,0,U⟩) 0 0) 0 m (λ_=>0):=⟨Xb Rf _,eI (base:=Z a.1) (e:=96) (size:=1) a #[] 0 sP sP R,λs h=>Sz h O,λs b h=>Sz h O⟩
theorem PC.push{wr}{u':Uj}{K}(h:PC w wr a n f F)(d:(D (D wr<|Sc (madeCells #[X U 0 0] (f n)) 99) K).grownBy v a.ownBlock)(L:Sx v (Z w.1) 96 1 u' (n+1) ((Rg n).map (λs=>X (S ⟨F s,0,U⟩) (f s) (f s))++[X (S ⟨Z wr.1,0,U⟩) (f n) (f n)])):
 PC w v u' (n+1) f (λs=>if s=n then Z wr.1 else F s):=by
 have C:=h.1.4;have x:=d.4;rw[aO,aO]at x;have z:∀q T t o,wr.rowIs q T t o->T≠96->a.ownBlock≠S q:=λq T t o i u e=>by
  let⟨c,j,_⟩:=i;obtain⟨e1,_⟩|⟨g,cap,cur,e1,_,b,_⟩:=h.2.2;·rw[e1]at e;cases e
  rw[e1]at e;injection e with e;have e:g=q:=e;subst e;rw[show wr.1[g]?=_ from j]at b;injection b with b;injection b with _ l;exact u l
 have B:=λq e=>(h.2.lt q e).2;have r:∀q,q<Z wr.1->a.ownBlock≠S q->v.1[q]?=wr.1[q]?:=λq j b=>G (d.5 q (by rw[aO,aO];omega) λe=>b e.symm) (G (gF _ _ _<|by rw[aO];omega) (gF _ _ _ j));have y:v.1[Z wr.1]?=(D wr<|Sc (madeCells #[Hq] (f n)) 99).1[Z wr.1]?:=G (d.5 _ (by rw[aO,aO];omega) λe=>by have:=B _ e.symm;omega) (gF _ _ _<|by rw[aO];omega);refine⟨⟨G d.1 h.1.1,G d.2 h.1.2,G d.3 h.1.3,O,λq hq=>G (r q O λe=>by have:=(h.2.lt q e).1;omega) (h.1.5 q hq)⟩,?_,λs k=>?_,λs m j b l=>?_⟩
 .rw[dN,bG,eH,fZ,aU R,gH (g:=λs=>Hl (F s) (f s) (f s)) λs k=>by rw[aM<|oN (bE.1 k)]];exact L
 .by_cases e:s=n
  .subst e;rw[aU R];exact⟨C,(dG wr Hq (f s) 99).of_block y⟩
  rw[aM e];have i:=h.3 s O;exact⟨i.1,i.2.of_block<|r _ i.2.lt (z _ _ _ _ i.2 vY)⟩
 have p:=λs k=>(h.3 s k).2.lt;by_cases e1:s=n
 .have:=p m O;rw[aU e1,aM O];omega
 by_cases e2:m=n
 .have:=p s O;rw[aM e1,aU e2];omega
 rw[aM e1,aM e2];exact h.4 s m O O l
section
open Classical in
noncomputable def OP(xs:List Xe)(b v k:N):Bool:=match xs[b]? with
 |none=>Sn
 |some x=>JT x v (Jd (UV xs v b)) k
section
variable{xs:Wi}{b v:N}
theorem C6:N2 xs b 0 v=(OP xs b v 0||Yo xs b v):=by
 unfold N2 OP Yo;cases h:xs[b]? with
 |none=>rfl
 |some x=>simp only[Ox,Yo,h]
theorem Dv{j}(a:j<J (Tu xs b)):N2 xs b (j+1) v=(OP xs b v (j+1)||Jd ((Tu xs b)[j]=(v:I))):=by
 have c:=a;revert a;unfold N2 OP Tu at*;cases h:xs[b]? with
 |none=>intro a;exact Sz a sP
 |some x=>
  intro a;simp only[Z2,bK]at a;simp only[Ox,Z2,cM];rw[aC a]
open Classical in
theorem E7(a:b<J xs){q}(hq:q=So↔UV xs v b):OP xs b v (J (Tu xs b))=(q||Cg (PA xs b) (v:I)):=by
 have e:(@decide (UV xs v b) (Classical.propDecidable _))=q:=by rw[eQ,hq,bD]
 unfold OP Tu PA;rw[aC a];simp only[Z2,bK];rw[WT _ _<|aA,e,nF]
theorem Do{j}(a:j<J (Tu xs b))(c:j<J (OW xs b)):OP xs b v j=(Cg (OW xs b)[j] (v:I)||(OP xs b v (j+1)&&! Jd ((Tu xs b)[j]=(v:I)))):=by
 revert a c;unfold OP Tu OW;cases h:xs[b]? with
 |none=>intro a;exact Sz a sP
 |some x=>
  intro a c;simp only[Z2,bK]at a;simp only[Z2,Jv,cM];exact qe _ _ a
open Classical in
theorem ET(a:b<J xs):OP xs b v 0=So↔Wh xs v b:=by unfold OP;rw[aC a];exact vk a<|by rw[bD]
theorem FE:J (OW xs b)=J (Tu xs b):=by
 unfold OW Tu;cases xs[b]? with
 |none=>rfl
 |some x=>simp[Jv,Z2]
end
theorem DY(xs:Wi)(b):∀l∈OW xs b,J l<=2:=λl a=>by
 unfold OW at a;cases h:xs[b]? with
 |none=>rw[h]at a;exact Sz a eA
 |some x=>
  rw[h]at a;let⟨y,_,c⟩:=aY.1 a;rw[<-c];exact oU y
structure Ob(wb wr:Ub)(gl n:N)(lv:Ys)(gi m:N)(f:Ys):Prop where
 low:Sw (Z wb.1) wb wr
 gll:gl<Z wb.1
 lr:wr.rowIs gl 4 n λz=>Sb (lv z)
 ge:Z wb.1<=gi
 ir:wr.rowIs gi 4 m λz=>Sb (f z)
section
variable{wb wr w':Ub}{gl n gi m:N}{lv f f':N->Bool}
theorem Ob.below(h:Ob wb wr gl n lv gi m f)(k:Sw (Z wr.1) wr w'):Ob wb w' gl n lv gi m f:=⟨Xg h.1 k,h.2,h.3.of_block<|k.5 _ h.3.lt,h.4,h.5.of_block<|k.5 _ h.5.lt⟩
theorem Ob.congr(h:Ob wb wr gl n lv gi m f)(e:∀z,z<m->f z=f' z):Ob wb wr gl n lv gi m f':=⟨h.1,h.2,h.3,h.4,UC (C:=Sb) h.5 e⟩
theorem Ob.set(h:Ob wb wr gl n lv gi m f)(k q):Ob wb (Se wr ⟨gi,k,U⟩ (Sb q)) gl n lv gi m (λz=>if z=k then q else f z):=by have:=h.4;have:=h.2;exact⟨h.1.setCell (by show Z wb.1<=gi;omega) _,h.2,h.3.setOther (by show gl≠gi;omega) _,h.4,TS (C:=Sb) h.5 k q⟩
end
noncomputable def Oo(xs:Wi)(b v k z:N):Bool:=Jd (k<z)&&N2 xs b z v
theorem Fd{xs b v k z}(a:z<k+1):Oo xs b v k z=Sn:=by unfold Oo;simp;omega
theorem Dy{xs:Wi}{b v j q}(hq:q=N2 xs b (j+1) v)(z):(if z=j+1 then q else Oo xs b v (j+1) z)=Oo xs b v j z:=by
 unfold Oo;by_cases e:z=j+1
 .subst e;rw[aU R,hq];simp
 rw[aM e];by_cases h:j<z;·rw[eB h,eB<|show j+1<z by omega]
 rw[dJ h,dJ<|show ¬j+1<z by omega]
theorem Em{xs:Wi}{b v q}(hq:q=N2 xs b 0 v)(z):(if z=0 then q else Oo xs b v 0 z)=N2 xs b z v:=by
 by_cases e:z=0;·subst e;rw[aU R,hq]
 rw[aM e];unfold Oo;rw[eB (show 0<z by omega),rS]
def Gw(w w':Ub)(n V:N)(xs:Wi)(e:Ending):Prop:=∃(a c:N)(d:Wk),e=Rt (X (S ⟨a,0,U⟩) n c)/\Sw (Z w.1) w w'/\Z w.1<=a/\∀s,s<n->E w' ⟨a,s,U⟩=S (X (S ⟨d s,0,U⟩) (J (Tu xs s)+1) (J (Tu xs s)+1))/\Z w.1<=d s/\XR w' (Z w.1) (Z w'.1) (S ⟨d s,0,U⟩) ((Rg<|J (Tu xs s)+1).map (UU xs V s))
end
def Zj(k:N):Code->Option Code
 |.region i ops d=>if i=k then S (.region i ops d)else U
 |.seq x y=>match Zj k x with
  |some c=>S c
  |none=>Zj k y
 |.block _ c=>Zj k c
 |.scope c=>Zj k c
 |.loop c=>Zj k c
 |.cond _ x y=>match Zj k x with
  |some c=>S c
  |none=>Zj k y
 |_=>U
noncomputable def Gj:Code:=(f49.9.bind<|Zj 27).getD .skip
theorem F4(V d v u e)(lv:Ys)(c l h){wr}{t:Yt}{c0 c1 c2 c3 c5 W ab a0 bo b5 ce cf ch ci cj ck cl cm cn co cp cq cr cs ct cv cw cx cz c6 c7 c9 da db dc dd df di dj dk dl:Uj}(dn ds du dw dz d0 ea eb ec ed ee ef eg ei ej ek el em en eo ep eq er es et eu ev ey ez e0 e6 e7 e8 e9 fa fb fc fe fi fj fl fn fq fr fs fx fz f0 f4 f5 f6 f7 ga P R_ S_ T_ U_ W_ X_ Y_ Z_ aa ac ad af aj al ao ap aq ar az a1 a2 a3 a4 a5 a6 a7 a8 a9 ba bb bc bd be bf bh bi bl bm bn bp bq br bt bv bx b0 b1 b3 b4 b6 b7 b8 ca cb cc cd g3 g4 g5 g6 g7 g9 hb hc hd he hf hg hh hi hj hk hl hm hn ho cg)(hQ:Q (∀c_ (N_:Act) t_ n w_,t (.panic c_) (N_.put (S t_) n) w_->t (.panic c_) N_ w_))(hv:n<V)(hV:V<=2000)(b:g<m)(iv:i<d+1)(L_:Q (l g=d+1))(o:Q (OA h wr m c l<|pQ e n g i))(F:Q (wr.rowIs v 4 m λz=>Sb (lv z)))(L:Q (wr.rowIs u 4 (d+1) λz=>Sb (N2 e g z n)))(g1:Q (N2 e g i n=So))(gz:Q (E h ⟨B,g,U⟩=S (X (S ⟨c g,0,U⟩) (l g) (l g))))(M_:Q (∀s,s<m->B≠c s))(jf:B<Z h.1)(gq:Q (Z h.1<=v))(gp:Q (Z h.1<=u))(hN:Q (∀(hr ht hw hx hy hz h0 h1 h2 h3 h4 h5 h6 h7 h8 h9 ia ib ic ih:Uj)(w:Ub),Q (OA h w m c l<|pQ e n g (i+1))->Q (w.rowIs v 4 m λz=>Sb (lv z))->Q (w.rowIs u 4 (d+1) λz=>Sb (N2 e g z n))->t .normal ⟨#[c0,c1,c2,c3,X (S ⟨B,0,U⟩) m k,c5,Si S6 (n:I),a,Si S6 (g:I),A_,W,ab,a0,Si S6 (i:I),bo,b5,ce,cf,ch,ci,cj,ck,cl,cm,cn,co,cp,cq,cr,cs,ct,cv,cw,cx,cz,c6,c7,c9,da,db,dc,dd,df,di,dj,dk,dl,dn,ds,du,dw,dz,d0,ea,eb,ec,ed,ee,ef,eg,ei,ej,ek,el,em,en,eo,ep,eq,er,es,et,eu,ev,ey,ez,e0,e6,e7,e8,e9,fa,fb,fc,fe,fi,fj,fl,fn,fq,fr,fs,fx,fz,f0,f4,f5,f6,f7,ga,P,R_,S_,T_,U_,W_,X_,Y_,Z_,aa,ac,ad,af,aj,al,ao,ap,aq,ar,az,a1,a2,a3,a4,a5,a6,a7,a8,a9,ba,bb,bc,bd,be,bf,bh,bi,bl,bm,bn,bp,bq,br,bt,bv,bx,b0,b1,b3,b4,b6,b7,b8,ca,cb,cc,cd,hr,ht,hw,hx,hy,hz,h0,h1,h2,h3,h4,h5,h6,h7,h8,h9,ia,ib,ic,ih,cg],[]⟩ w)):
 Code.wp prog Gj t ⟨#[c0,c1,c2,c3,X (S ⟨B,0,U⟩) m k,c5,Si S6 (n:I),a,Si S6 (g:I),A_,W,ab,a0,Si S6 (i:I),bo,b5,ce,cf,ch,ci,cj,ck,cl,cm,cn,co,cp,cq,cr,cs,ct,cv,cw,cx,cz,c6,c7,c9,da,db,dc,dd,df,di,dj,dk,dl,dn,ds,du,dw,dz,d0,ea,eb,ec,ed,ee,ef,eg,ei,ej,ek,el,em,en,eo,ep,eq,er,es,et,eu,ev,ey,ez,e0,e6,e7,e8,e9,fa,fb,fc,fe,fi,fj,fl,fn,fq,fr,fs,fx,fz,f0,f4,f5,f6,f7,ga,P,R_,S_,T_,U_,W_,X_,Y_,Z_,aa,ac,ad,af,aj,al,ao,ap,aq,ar,az,a1,a2,a3,a4,a5,a6,a7,a8,a9,ba,bb,bc,bd,be,bf,bh,bi,bl,bm,bn,bp,bq,br,bt,bv,bx,b0,b1,b3,b4,b6,b7,b8,ca,cb,cc,cd,g3,g4,g5,g6,g7,g9,hb,hc,hd,he,hf,hg,hh,hi,hj,hk,hl,hm,hn,ho,cg],[]⟩ wr:=by
 conv=>arg 2;whnf
 have j0:(i:I)<=(d:I):=O;have j1:(i:I)<(d:I)+1:=O;have jv:(g:I)<(m:I):=O;have f:i<l g:=by rw[L_.o];exact iv
 obtain⟨g2,j⟩:=o.6;obtain⟨ua,uc,C,_⟩:=Xk<|j.4 g i b f;have p:=Y j;have M:=Y C;obtain⟨D_,y⟩:∃i6,i6=J (pQ e n g i g i):=⟨_,R⟩;have j2:D_<=2001:=oN<|FG e n g i g i;have q:=Y y;have g0:=Y (by have gb:=j.4 g i b f;rw[C,<-y]at gb;exact gb);have eG:E wr ⟨c g,i,U⟩=S (X ua D_ uc):=by rw[(j.3 g b).cell f,C,y]
 have r:=o.cell (λs hs=>M_ s hs) gz;rw[L_.o]at r;have j3:=o.4;have jl:=j.1 g b;have js:c g<Z wr.1:=O;have io:=M_ g b;have ir:B<Z wr.1:=aI wr _ r;have gt:=Y<|p.other F vY b f;have gs:=Y<|p.other L vY b f;have gv:Q ((g2 g i).ownBlock≠S B):=Y (λil=>by have:=((p.4 g i b f).lt _ il).1;omega);clear j C y;refine Y7 (λw'=>E w' ⟨B,g,U⟩=S (X (S ⟨c g,0,U⟩) (d+1) (d+1))) λig=>?_;refine X0 0 ?_;refine X0 1 ?_;refine X0 2 ?_;refine X0 3 ?_;refine X0 4 ?_;refine X0 5 ?_;refine X0 6 ?_;refine X0 7 ?_;refine X0 8 ?_;refine X0 9 ?_;refine X0 10 ?_;refine X0 11 ?_;refine X0 12 ?_;refine X0 13 ?_;refine X0 15 ?_;refine eS (rs:=[14,16]) vZ sP ?_;refine(bQ R (λK hK=>?_) (bQ R (λK hK=>?_) dY));go_simp;refine hK _ _ kP λig=>?_;clear hK
 try simp only[xX]
 refine Xs 16 λK hK=>?_;go_simp;refine hK _ _ kP λig=>?_;clear hK;rotate_left;go_simp;refine hK _ _ kP λig=>?_;clear hK
 try simp only[xX]
 refine Xs 14 λK hK=>?_;go_simp;refine hK _ _ kP λig=>?_;clear hK
 all_goals (
  refine Xs 17 λK hK=>?_;refine YI RH (g0.drew) ?_
  intro v8 w8 T gf _ ge;obtain⟨g8,c8,rfl,_,_⟩:=Xm T O;obtain⟨gd,hp,jj,x,i4⟩:=o.push (x:=(n:I)) (s:=g) (t:=i) p b f (by rw[M.o,<-q.o];exact gf) (by rw[<-q.o];exact T) (by rw[M.o,<-q.o];simpa using ge);rw[M.o,<-q.o]at hp;have q1:=x B ir io gv;have q2:=x v F.lt (oN gq.o) gt;have q3:=x u L.lt (oN gp.o) gs;have z6:=G (Xc (o:=g) q1.1) r;have z7:=G (Xc (o:=g) q1.2) r;have gg:=Y (gd.congr λs i5 _ _=>FI g1 s i5);have gh:=Y<|F.of_block q2.2;have gr:=Y<|L.of_block q3.2;clear T gf ge gd x i4 q1 q2 q3;refine hK _ _ z6 λig=>?_;clear hK;refine X0 18 ?_;refine X0 19 ?_;refine Xs 20 λK hK=>?_;go_simp;refine hK _ _ z7 λig=>?_;clear hK;refine Yq ?_;exact hN _ _ _ _ _ _ _ _ _ _ _ _ _ _ _ _ _ _ _ _ _ gg gh gr)
theorem Qe:(prog.info? 96).map (λi=>(i.8,i.3,i.4))=S (S<|Sa #[Hq],1,24):=vZ
theorem oX(a:Jy n x)(b):J (Tu x b)<=4000:=by
 unfold Tu;cases h:x[b]? with
 |none=>exact aN
 |some c=>simp only[Z2,bK];exact(a.10 c<|eN h).1
theorem qm(c_)(ha:Q (Xp w k B p x))(M:Q (m=J x))(hB:B<=Z w.1)(g:Q (Jy n x)):
 Sk prog 49 #[Sa #[H n,X p m c_]] w λl w'=>Gw w w' m n x l:=by
 have hn:m<=1000:=oP M.o g.1.2;have hV:=g.2;have a9:Sw (Z w.1) w (D w<|Sc #[Si S6 (n:I),X p m c_] 45):=Xb Rf _;have b5:=Y<|uf n p m c_ x k B _ (Y<|ha.keep (a9.mono hB)) M (oN a9.4) g;have cq:E (D w<|Sc #[Si S6 (n:I),X p m c_] 45) ⟨Z w.1,0,U⟩=S (Si S6 (n:I)):=by simp[go_sem]
 go_in
 go_wp2_with fail
 refine b5.mono ?_;rintro l N_⟨af,cf,rfl,bn,cn⟩;have dn:=Y<|Xg a9 bn;have g0:=oB bn cq sP;have bc:=Y cn;have eq:Z w.1<Z N_.1:=aI N_ _ g0;clear bn a9 cq b5 cn;obtain⟨K,of,ds⟩:∃K of,af=S ⟨K,of,U⟩:=by obtain⟨b,es,_,l,_⟩:=bc 0<|oP M.o g.1.1;exact⟨b,es,l⟩
 subst ds;have aj:=Y bc.at_;clear bc;go_wp2_with fail
 obtain⟨o,hm⟩:∃o:Wk,o=λs=>J (Tu x s)+1:=⟨_,R⟩;have bi:Q (∀s,o s=J (Tu x s)+1):=Y (λs=>by rw[hm]);have eu:Q (∀s,o s<=4001):=Y (λs=>by rw[hm];have:=oX g s;show J (Tu x s)+1<=4001;omega);clear hm;have ch:=Y<|PC.start N_ o;generalize D N_ _=w2 at*
 go_loopw [4,5] (λc6 i wr=>∃(b:N)(c:Wk),b<=m/\i=Si S6 b/\Q (PC N_ wr c6 b o c)) λ_ i _=>m-(JB i).toNat
 .exact⟨0,λ_=>0,aN,R,ch⟩
 obtain⟨b,c,hb,rfl,r⟩:=hrel;clear ch;by_cases Q_:b<m
 .have ab:b<J x:=oN M.o;obtain⟨a0,n0,a1,n1,a2,n2,a3,n3,a4,a,a5,n5,c0,c1,c2,c3,c4,c5,dw,_,_,_,_,x4,_,_,_,_,eg,_,P_⟩:=YQ.row g aj r.1 ab;have dj:Q (a+1=o b):=Y (by rw[bi.o,P_.d.1]);have ba:=J9 (P:=prog) 88 99 (Sa #[X U 0 0]) 1 24 underlying88 Qd (a+1) O O;rw[show((a+1:N):I)=(a:I)+1 by omega]at ba;have el:S6.wrap ((a:I)+1)=(a:I)+1:=by rw[dF];omega
  have HO:=Y r.2;have aa:K<Z wr.1:=aI wr _ x4;clear P_;go_wp2_with (at_builtin;refine YC Qe (HO.alloc _) ?_ (hs:=by have:=r.1.4;simp;omega))
  intro v8 T_ bq bo _ du;rw[dj.o]at bq bo;have dk:=Y<|r.push bo bq;clear bq bo du;go_wp2;exact⟨⟨b+1,_,O,gM,dk⟩,SA⟩
 have dz:m=b:=O;subst dz;have ef:0<m:=oP M.o g.1.1
 obtain⟨Z_,cO,rfl,_,_⟩:=Xm r.2 ef;have cb:Q (∀s,s<m->E wr ⟨Z_,s,U⟩=S (X (S ⟨c s,0,U⟩) (o s) (o s))):=Y (λs d=>by exact Jj r.2 (j:=s) (by simp[d]))
 have cg:=Y<|r.2.lt Z_ R;have ce:Q (∀s,s<m->Z_≠c s):=Y (λs d l=>by
  obtain⟨cc,C,_⟩:=(r.3 s d).2;obtain⟨e1,_⟩|⟨g_,cap,cur,e1,_,u,_⟩:=r.2.2;·cases e1
  injection e1 with e1
  injection e1 with e1;injection e1 with e1;subst e1;rw[l,show wr.1[c s]?=_ from C]at u;injection u with u;injection u with _ h3;exact Sz h3 vY)
 have b3:Q (OA wr wr m c o λs i=>UU x 0 s i):=Y ⟨R,R,R,aA,λ_ _ _=>R,λ_ _=>X U 0 0,⟨λs d=>(r.3 s d).2.lt,r.4,λs d=>(r.3 s d).2,λs i _ _=>by rw[De];exact dA,λs i s' j _ _ _ _ _=>bC R⟩⟩;have be:=Y λs d=>(r.3 s d).1;have ad:=Y r.1;have g1:=r.1.4;clear r hb Q_;go_wp2_with fail
 generalize wr=S_ at*;have al:Q (∀wr cj,OA S_ wr m c o cj->Sw (Z N_.1) N_ wr):=Y λwr cj C_=>⟨G C_.1 ad.1,G C_.2 ad.2,G C_.3 ad.3,oN C_.4,λq hq=>G (C_.5 q O λs d=>by have:=be s d;omega) (ad.5 q hq)⟩
 go_loopw [6] (λi wr=>∃v:N,v<=n/\i=Si S6 v/\Q (OA S_ wr m c o λs i=>UU x v s i)) λi _=>n-(JB i).toNat
 .exact⟨0,aN,R,b3⟩
 clear b3;obtain⟨v,gt,rfl,V⟩:=hrel;have k0:=oB (al _ _ V) g0 eq;by_cases ee:v<n
 .have bt:=Y<|BS v cf (Y<|aj.keep (al _ _ V)) M g;go_wp2_with fail
  refine bt.mono ?_;rintro l w4⟨L,rfl,co,ct,F,cx,cw⟩;have b4:=Y ((V.below co).congr λs i _ _=>(E4 x v s i).symm);have U_:=Y cx;have b6:=Y cw;have c9:=Y<|aJ V.4 ct;clear co ct cx cw V bt k0;go_wp2_with fail
  generalize wr=wo at*
  go_loopw [8] (λi wr=>∃b:N,b<=m/\i=Si S6 b/\Q (OA S_ wr m c o<|pQ x v b 0)/\Q (wr.rowIs L 4 m λz=>Sb (F z))) λi _=>m-(JB i).toNat
  .exact⟨0,aN,R,b4,U_⟩
  clear b4 U_;obtain⟨b,hb,rfl,aq,U_⟩:=hrel;by_cases Q_:b<m
  .have ab:b<J x:=oN M.o;have R_:=Y<|al.o _ _ aq;obtain⟨a0,n0,a1,n1,a2,n2,a3,n3,a4,a,a5,n5,c0,c1,c2,c3,c4,c5,dw,_,x1,_,x3,x4,x5,_,gr,_,eg,gs,P_⟩:=YQ.row g aj R_ ab;have O_:=Y P_;have bv:=Y P_.d.1;have ca:Q (o b=a+1):=Y (by rw[bi.o,<-P_.d.1]);have ba:=fM (P:=prog) 89 4 (Sb Sn) 1 underlying89 Q7 R S6 S6 (a+1) O O;rw[show((a+1:N):I)=(a:I)+1 by omega]at ba;have el:S6.wrap ((a:I)+1)=(a:I)+1:=by rw[dF];omega
   have aa:K<Z wr.1:=aI wr _ x4;clear P_
   go_upto_region 16 with fail
   have V_:Q (Ob wr (D wr<|Sc (madeCells #[Sb Sn] (a+1)) 4) L m F (Z wr.1) (a+1) (Oo x b v a)):=Y ⟨Xb Rf _,U_.lt,U_.alloc _,aA,UC (C:=Sb) (dG wr (Sb Sn) (a+1) 4) λz hz=>(Fd hz).symm⟩;generalize ej:D wr (Sc (madeCells #[Sb Sn] (a+1)) 4)=w5 at*;clear ej
   go_cut [11]from 44 to 176 λcc T=>cc=Sb (OP x b v a)/\Q (Ob wr T L m F (Z wr.1) (a+1) (Oo x b v a))
   case first=>
    have b7:=Y<|A8 cf (Y<|aj.keep (Xg R_ V_.1)) M g Q_ (Y V_.3) b6;go_wp2_with fail
    refine b7.mono ?_;rintro l w6⟨s,rfl,cz,cp⟩;have X_:=Y<|V_.below cp;have a7:=Y<|E7 ab cz;rw[<-bv.o]at a7;have y5:=oB X_.1 x5 aa;have da:=Y (YF a5 c5 (v:I) (PA x b) 0 (Z w6.1) w6 (Y<|(O_.u.2.keepS λq _ u=>X_.1.5 q<|oN R_.4).mono aA (oP X_.1.4 R_.4)) (Y O_.u.1) O);clear cp cz V_ b7;cases s with
    |true=>
     go_wp2;go_meet;exact⟨by rw[a7.o,Bool.true_or],X_⟩
    |false=>
     rw[jV]at a7;go_wp2_with fail
     refine YU da λT_ y=>?_;have Y_:=y.symm;subst Y_;rw[<-a7.o];go_wp2;go_meet;exact⟨R,X_⟩
   obtain⟨rfl,f⟩:=hcut;clear V_ x5 ba;have et:=R_;have g2:=R_.4;generalize wr=e at*;go_wp2
   go_loopw [11,12] (λnw i T=>∃h:N,h<=a/\i=Si S6 h/\nw=Sb (OP x b v h)/\Q (Ob e T L m F (Z e.1) (a+1) (Oo x b v h))) λ_ i _=>(JB i).toNat
   .exact⟨a,aA,R,R,f⟩
   clear f;obtain⟨h,hk,rfl,rfl,f⟩:=hrel;cases h with
   |succ j=>
    have hj:j<J (Tu x b):=oN bv.o;have bp:j<J (OW x b):=by rw[FE];exact hj
    have t:=Y<|Dv (xs:=x) (b:=b) (v:=v) hj;have W:=Y<|Do (xs:=x) (b:=b) (v:=v) hj bp;obtain⟨bd,od,ed,f6,cd⟩:=O_.d.2 j hj;obtain⟨br,or,er,gb,ar,cr,cl,cm⟩:=O_.r.2 j bp;have dl:Q (J ((OW x b)[j])<=1048576):=Y<|aJ (DY x b _<|aH bp) vY;subst ed er;generalize (Tu x b)[j]=bm at*;generalize (OW x b)[j]=rj at*;have z4:=oB f.1 x4 aa;have z3:=oB f.1 x3 aa;have zd:=G (XU f.1 O) cd;have zr:=G (XU f.1 O) cl;have bh:=Y λW_ (hW:Sw (Z e.1) e W_)=>YF ar cr (v:I) rj 0 (Z W_.1) W_ (Y<|(cm.keep (λq C u=>hW.5 q C) hW.4).at_) (Y R) dl;have ci:=f.5.cell (i:=j+1) O;have fi:=f.5.frozen<|j+1;have gv:S6.wrap ((j:I)+1-1)=(j:I):=by rw[dF];omega
    have gz:S6.wrap (j:I)=(j:I):=by rw[dF];omega
    have gh:(j:I)<(a:I):=O;have gi:(j:I)<(n3:I):=oN O_.r.1;have gg:(j:I)+1<(a:I)+1:=O;have f7:bd<Z wr.1:=aI wr _ zd;have gd:br<Z wr.1:=aI wr _ zr;have ga:K<Z wr.1:=aI wr _ z4;have ac:K≠Z e.1/\bd≠Z e.1/\br≠Z e.1:=O;have cs:=ac.1;have d0:=ac.2.1;have ea:=ac.2.2;clear cd cl cm ac;have g3:=λq=>G (bH wr ⟨Z e.1,j+1,U⟩ ⟨K,of+b*6+3,U⟩ q (kA cs)) z3;have g4:=λq=>G (bH wr ⟨Z e.1,j+1,U⟩ ⟨K,of+b*6+4,U⟩ q (kA cs)) z4;have g5:=λq=>G (bH wr ⟨Z e.1,j+1,U⟩ ⟨bd,od+j,U⟩ q (kA d0)) zd;have g6:=λq=>G (bH wr ⟨Z e.1,j+1,U⟩ ⟨br,or+j,U⟩ q (kA ea)) zr;generalize OP x b v (j+1)=nw at*;have P:Q (∀(q q':Bool),q=N2 x b (j+1) v->q'=OP x b v j->(Sb q':Uj)=Sb (OP x b v j)/\Ob e (Se wr ⟨Z e.1,j+1,U⟩ (Sb q)) L m F (Z e.1) (a+1) (Oo x b v j)):=Y (λq q' C u=>⟨by rw[u],(f.set (j+1) q).congr λz _=>Dy C z⟩);have bl:=Y λq=>(f.set (j+1) q).1;by_cases hd:bm=(v:I)
    .subst hd;rw[eB R]at t W;cases nw
     all_goals (
      go_wp2_with fail
      refine YU (bh _<|bl So) λT_ y=>?_;subst y;generalize Cg rj (v:I)=hr at*;cases hr with
      |true=>
       go_wp2_with fail
       obtain⟨e1,e2⟩:=P So So (by rw[t.o];rfl) (by rw[W.o];rfl);exact⟨⟨j,O,gM,e1,Y e2⟩,SL⟩
      |false=>
       go_wp2_with fail
       obtain⟨e1,e2⟩:=P So Sn (by rw[t.o];rfl) (by rw[W.o];rfl);exact⟨⟨j,O,gM,e1,Y e2⟩,SL⟩)
    rw[dJ hd]at t W;have ge:(bm==(v:I))=Sn:=by simpa using hd
    have gf:(bm != (v:I))=So:=by simpa using hd
    cases nw with
    |true=>
     go_wp2_with fail
     refine YU (bh _<|bl So) λT_ y=>?_;subst y;generalize Cg rj (v:I)=hr at*;cases hr with
     |true=>
      go_wp2_with fail
      obtain⟨e1,e2⟩:=P So So (by rw[t.o];rfl) (by rw[W.o];rfl);exact⟨⟨j,O,gM,e1,Y e2⟩,SL⟩
     |false=>
      go_wp2_with fail
      obtain⟨e1,e2⟩:=P So So (by rw[t.o];rfl) (by rw[W.o];rfl);exact⟨⟨j,O,gM,e1,Y e2⟩,SL⟩
    |false=>
     go_wp2_with fail
     refine YU (bh _<|bl Sn) λT_ y=>?_;subst y;generalize Cg rj (v:I)=hr at*;cases hr with
     |true=>
      go_wp2_with fail
      obtain⟨e1,e2⟩:=P Sn So (by rw[t.o];rfl) (by rw[W.o];rfl);exact⟨⟨j,O,gM,e1,Y e2⟩,SL⟩
     |false=>
      go_wp2_with fail
      obtain⟨e1,e2⟩:=P Sn Sn (by rw[t.o];rfl) (by rw[W.o];rfl);exact⟨⟨j,O,gM,e1,Y e2⟩,SL⟩
   |zero=>
    clear x3 x4
    go_upto_region 22 with fail
    have b0:=Y λW_ (hW:Sw (Z e.1) e W_)=>YF a1 c1 (v:I) (Of x b) 0 (Z W_.1) W_ (Y<|(O_.p.2.keepS λq _ u=>hW.5 q O).mono aA (oN hW.4)) (Y O_.p.1) O;have a6:Q (N2 x b 0 v=(F b||Cg (Of x b) (v:I))):=Y (by rw[C6,qH];congr 1;rw[eQ,ET ab,b6.o b Q_])
    go_cut []from 44 to 176 λT=>Q<|Ob e T L m F (Z e.1) (a+1) λz=>N2 x b z v
    case first=>
     have kl:=f.3.cell Q_;have ci:=f.5.cell (i:=0) O;have fi:=f.5.frozen 0;have z1:=oB f.1 x1 aa;have P:=Y λq C=>(f.set 0 q).congr λz _=>Em C z;have bb:=Y<|b0.o _ f.1;generalize Cg (Of x b) (v:I)=ph at*;generalize F b=lb at*;cases lb with
     |false=>
      go_wp2_with fail
      refine YU bb λT_ y=>?_;have Y_:=y.symm;subst Y_;go_wp2;go_meet;exact Y<|P.o _ (by rw[a6.o];rfl)
     |true=>
      go_wp2_with fail
      refine YU bb λT_ y=>?_;have Y_:=y.symm;subst Y_;cases ph with
      |false=>
       go_wp2;go_meet;exact Y<|P.o _ (by rw[a6.o];rfl)
      |true=>
       go_wp2_with fail
       refine YU bb λw9 ek=>?_;have e9:=ek.symm;subst e9;go_wp2;go_meet;exact Y<|P.o _ (by rw[a6.o];rfl)
    have a8:=hcut;have b8:=Y<|aq.below a8.1;have bx:=Y a8.3;have b1:=Y a8.5;have ac:=a8.5.lt;clear hcut f b0 a6 x1;have ep:=aq.4;go_wp2_with fail
    generalize wr=wp at*
    go_loopw [13] (λi T=>∃h:N,h<=a+1/\i=Si S6 h/\Q (OA S_ T m c o<|pQ x v b h)/\Q (T.rowIs L 4 m λz=>Sb (F z))/\Q (T.rowIs (Z e.1) 4 (a+1) λz=>Sb (N2 x b z v))) λi _=>a+1-(JB i).toNat
    .exact⟨0,aN,R,b8,bx,b1⟩
    clear b8 bx b1;obtain⟨h,hk,rfl,az,ao,ap⟩:=hrel;by_cases cv:h<a+1
    .have ck:=ap.cell cv;have gp:(h:I)<=(a:I):=O;have gq:(h:I)<(a:I)+1:=O;cases hps:N2 x b h v with
     |false=>
      rw[hps]at ck;have t:=Y hps;clear hps;go_wp2;exact⟨⟨h+1,O,gM,Y (az.congr λs i _ _=>Gh t s i),ao,ap⟩,SA⟩
     |true=>
      rw[hps]at ck;have t:=Y hps;clear hps;go_wp2_with fail
      refine F4 n a L (Z e.1) x F c o S_ _ _ _ _ _ _ _ _ _ _ _ _ _ _ _ _ _ _ _ _ _ _ _ _ _ _ _ _ _ _ _ _ _ _ _ _ _ _ _ _ _ _ _ _ _ _ _ _ _ _ _ _ _ _ _ _ _ _ _ _ _ _ _ _ _ _ _ _ _ _ _ _ _ _ _ _ _ _ _ _ _ _ _ _ _ _ _ _ _ _ _ _ _ _ _ _ _ _ _ _ _ _ _ _ _ _ _ _ _ _ _ _ _ _ _ _ _ _ _ _ _ _ _ _ _ _ _ _ _ _ _ (Y λ_ _ _ _ _ C_=>C_) ee hV Q_ cv ca az ao ap t (Y<|cb.o b Q_) ce cg.2 c9 (Y ep) (Y ?_);intro ey ez e0 e6 e7 fa fb fc fe fj fl fn fq fr fs fx fz f0 f4 f5 w9 c7 c8 db;clear az ao ap ck;go_wp2;exact⟨⟨h+1,O,gM,c7,c8,db⟩,SA⟩
    have ec:h=a+1:=O;subst ec;have di:=Y (az.congr λs i _ hi=>Es (m:=a+1) λl=>by subst l;rw[<-ca.o];exact hi);go_wp2;exact⟨⟨b+1,O,gM,di,ao⟩,SA⟩
  have dc:Q (OA S_ wr m c o λs i=>UU x (v+1) s i):=Y (aq.congr λs i d _=>by rw[show b=m by omega];exact FC d);go_wp2;exact⟨⟨v+1,O,gM,dc⟩,SA⟩
 have ei:v=n:=O
 subst ei;have df:Q (∀s,s<m->E wr ⟨Z_,s,U⟩=S (X (S ⟨c s,0,U⟩) (J (Tu x s)+1) (J (Tu x s)+1))/\Z w.1<=c s/\XR wr (Z w.1) (Z wr.1) (S ⟨c s,0,U⟩) ((Rg<|J (Tu x s)+1).map (UU x v s))):=Y (λs d=>by obtain⟨ev,hU⟩:=V.6;have C:=V.cell (λs d=>ce s d) (cb s d);have u:=hU.ints d (L:=Z w.1) (oN<|be s d);rw[bi.o]at C u;exact⟨C,oN<|be s d,u⟩)
 have dd:=Y<|al.o _ _ V;go_wp2;go_ret;exact⟨Z_,cO,c,R,dn.trans<|dd.mono O,oN cg.1,df⟩
section
attribute [local go_sem] Oper.semAt_some
theorem KO(V W n c f cg bv w)(ha:Q (Xp w cg bv W f))(hx:Q (n=J f))(hB:bv<=Z w.1)(ho:Q (Jy V f))(ck:Q (Yy w))(cl:Q (Yb w)):
 Sk prog 66 #[Sa #[H V,X W n c]] w λe l=>∃(b h:N)(gi go ci:Wk)(U_ WX:Vp),e=Rt (Sa #[Hl b n n,Hl h n n])/\Po w l n ((V+63)/64) f b h gi go ci U_ WX:=by
 have hn:n<=1000:=oP hx.o ho.1.2;have hV:=ho.2;have p5:=J9 (P:=prog) 127 126 (Sa #[X U 0 0]) 1 24 underlying127 Q9 n O O;have em:=Y λL (hX:Sw (Z w.1) w L)=>A6 c (Y<|ha.keep (hX.mono hB)) hx (oN hX.4) ho;have pk:(V+63)/64<=32:=O;have pn:V<=64*((V+63)/64):=O;obtain⟨a,cn⟩:∃q,q=(V+63)/64:=⟨_,R⟩;rw[<-cn]at pk pn;simp only[<-cn]at em;have ei:=Y cn.symm;clear cn;refine(bM (n:=8)).1 ?_;refine callsIn_of_wp_marks func66 R JV ?_ R;simp only[ntmps66,xY,Nat.reduceAdd,Nat.reduceSub];gi_wp2
 rename_i Kc ej;have a0:(λC:Ub=>Sw (Z w.1) w C/\Z C.1=Z w.1+2/\E C ⟨Z w.1,0,U⟩=S (Si S6 V)/\E C ⟨Z w.1,1,U⟩=S (X W n c)/\E C ⟨Z w.1+1,0,U⟩=S (X U 0 0)/\E C ⟨Z w.1+1,1,U⟩=S (X U 0 0)/\(∀q,C.frozen? ⟨Z w.1+1,q,U⟩=Sn)) (D (D w<|Sc #[Si S6 V,X W n c] 45) (Sc #[X U 0 0,X U 0 0] 129)):=⟨Xb (Xb Rf _) _,sP,SC,SC,SC,SC,(λq=>by simp[go_sem])⟩;generalize D (D w _) _=w1 at*;obtain⟨b6,hz,i4,i5,kq,ks,ku⟩:=a0;have bc:=Y b6;have hm:=Y hz;have p2:Z w.1+1<Z w1.1:=O;have g4:=Y kq;have g5:=Y ks;have g7:=Y ku;have ce:=Y λL (hX:Sw (Z w1.1) w1 L)=>em.o L<|Xg bc.o hX;clear b6 kq ks ku hz;have ow:Q (∀(b j h:N)(go:Wk)(E_:Vp)(M:Ub),Pp w M V W n c a f b j h go E_->Kc ⟨#[Sa #[Si S6 V,X W n c],Sj (S ⟨Z w.1,0,U⟩),Sj (S ⟨Z w.1+1,0,U⟩),Si S6 n,Sj (S ⟨j,0,U⟩),Su,Su,Su,Su,Su,Su,Su,Su,Su,Su,Su,Sj (S ⟨Z w.1,1,U⟩),X W n c,Si S6 n,Si S6 n,X (S ⟨b,0,U⟩) n n,Sa #[Si S6 V,X W n c],X (S ⟨h,0,U⟩) n n,Sa #[X (S ⟨b,0,U⟩) n n,X (S ⟨h,0,U⟩) n n],Su,Su,Su,Su,Su,Su,Su,Su,Su,Su,Su,Su,Su,Su,Su,Su,Su,Su,Su,Su,Su,Su,Su,Su,Su,Su,Su,Su,Su,Su,Su,Su,Su,Su,Su,Su,Su,Su,Su,Su,Su,Su,Su,Su,Su,Su,Su,Su,Su,Su,Su,Su,Su,Su,Su,Su,Su,Su,Su,Su,Su,Su,Su,Su,Su,Su,Su,Su,Su,Su,Su,Su,Su,Su,Su,Su,Su,Su,Su,Su,Su,Su,Su,Su,Su,Su,Su,Su,Su,Su,Su,Su,Su,Su,Su,Su,Su,Su,Su,Su,Su,Su,Su],[]⟩ M):=Y (by as_aux_lemma=>
  intro b j h go E_ M hA;apply ej;have HA:=Y hA;have cf:=Y hA.wd;have op:=Y hA.12;have g0:=hA.2;have g1:=hA.3;have sc:=hA.1.4;have az:Z w.1<Z M.1:=aI M _ g0;have rs:=fM (P:=prog) 136 23 (X U 0 0) 24 underlying136 RG R S6 S6 n O O;clear hA ej i4 i5 bc p5 p2;gi_wp2;refine⟨JV,(bM.2<|Ti n V M hn O).mono ?_⟩;rw[ei.o];rintro e d⟨T,H_,rfl,h9,b4,kv,jv⟩;have f6:=Y b4;have g8:=Y kv;have gh:=Y jv;have hs:=oB b4 g0 az;have hw:=oB b4 g1 az;have rt:=b4.4;have h0:Z w.1<Z d.1:=O;have hu:=λI_=>G (bP d I_ ⟨Z w.1,0,U⟩ h0) hs;have hy:=λI_=>G (bP d I_ ⟨Z w.1,1,U⟩ h0) hw;have ph:=λI_ o=>G (bP (D d I_) o ⟨Z w.1,0,U⟩ (by rw[aO];show Z w.1<_;omega)) (hu I_);have pi:=λI_ o=>G (bP (D d I_) o ⟨Z w.1,1,U⟩ (by rw[aO];show Z w.1<_;omega)) (hy I_);clear b4 kv jv g0 g1;gi_wp2;have e6:Z (D (D d<|Sc #[X (S ⟨T,0,U⟩) n n] 127) (Sc (madeCells #[X U 0 0] n) 23)).1=Z d.1+2:=sP;refine⟨JV,(bM.2<|Ki V W c hn).mono ?_⟩;rw[e6];rintro e P⟨L_,Z_,rfl,i1,js,er,ky⟩;have en:=Y<|Cr HA.o h9 f6.o g8.o gh.o i1 js er ky;have rv:Z d.1+2<=Z P.1:=by have:=er.4;rw[e6]at this;exact this
  clear e6 i1 js er ky hu hy ph pi hs hw h9;have q6:(n+63)/64<=16:=O;have p6:n<=64*((n+63)/64):=O;generalize (n+63)/64=K2 at*;have N_:=Y en.1;have ef:=Y en.2;have g1:Cl P (Z w.1) 1 (X W n c):=ef.4;gi_wp2;clear g1;refine nH (λaa wr=>∃(k:N)(ds:Wa)(r:PE)(u8 u9 l6 ma mb mc md u41 u42 mg ml mo mr mv mw mx mz u51 fb fc fe fi fj fl fn fq fs fx:Uj),k<=n/\aa=⟨#[Sa #[Si S6 V,X W n c],Sj (S ⟨Z w.1,0,U⟩),Sj (S ⟨Z w.1+1,0,U⟩),Si S6 n,Sj (S ⟨j,0,U⟩),Sj (S ⟨Z d.1,0,U⟩),X (S ⟨Z d.1+1,0,U⟩) n n,Sj (S ⟨L_,0,U⟩),u8,u9,Su,Su,Su,Su,Su,Su,Sj (S ⟨Z w.1,1,U⟩),X W n c,Si S6 n,Si S6 n,X (S ⟨b,0,U⟩) n n,Sa #[Si S6 V,X W n c],X (S ⟨h,0,U⟩) n n,Sa #[X (S ⟨b,0,U⟩) n n,X (S ⟨h,0,U⟩) n n],Si S6 n,Sj (S ⟨Z w.1,0,U⟩),Si S6 V,X (S ⟨T,0,U⟩) n n,Si S6 n,X (S ⟨Z d.1+1,0,U⟩) n n,Sa #[Si S6 V,X W n c],Sj (S ⟨L_,0,U⟩),Sj (S ⟨Z w.1,1,U⟩),X W n c,Si S6 n,Si S6 k,l6,ma,mb,mc,md,u41,u42,mg,ml,mo,mr,mv,mw,mx,mz,u51,Su,Su,Su,Su,Su,Su,Su,Su,Su,Su,Su,Su,Su,Su,Su,Su,Su,Su,Su,Su,Su,Su,Su,Su,Su,fb,fc,fe,fi,fj,fl,fn,fq,fs,fx,Su,Su,Su,Su,Su,Su,Su,Su,Su,Su,Su,Su,Su,Su,Su,Su,Su,Su,Su,Su,Su,Su,Su,Su,Su,Su,Su,Su,Su,Su,Su,Su,Su,Su,Su,Su,Su,Su,Su,Su],O7 ds⟩/\Q (Oi (⟨w,V,n,c,a,K2,W,f,b,j,h,Z d.1,T,Z d.1+1,L_,Z_,Z M.1,Z d.1,Z P.1,go,H_,E_⟩:VD) wr k r)/\Q (O2 (⟨w,V,n,c,a,K2,W,f,b,j,h,Z d.1,T,Z d.1+1,L_,Z_,Z M.1,Z d.1,Z P.1,go,H_,E_⟩:VD) k r)/\Q (ZJ wr (Z P.1) ds)) (λaa _=>n-(JB<|aa.1.getD 35 Su).toNat) ?_ ?_;·exact⟨0,[],_,_,_,_,_,_,_,_,_,_,_,_,_,_,_,_,_,_,_,_,_,_,_,_,_,_,_,_,_,aN,R,ef,Y<|CN _,Y ⟨iU,λ_ t=>Sz t eA,λ_ t=>Sz t eA⟩⟩
  rintro aa wr⟨k,ds,r,u8,u9,l6,ma,mb,mc,md,u41,u42,mg,ml,mo,mr,mv,mw,mx,mz,u51,fb,fc,fe,fi,fj,fl,fn,fq,fs,fx,hk,rfl,P_,HQ,HM⟩;by_cases B:k<n
  .have a3:k<J f:=oN hx.o;have kc:Sw (Z w.1) w wr:=P_.1;obtain⟨S_,I_,ea,ra,hc⟩:=(ha.keep<|kc.mono hB) k a3;subst ea;obtain⟨pa,pc,ia,ic,e0,e1,⟨e2,e3,e4,e5⟩,kl,j2⟩:=hc;have g2:=Y kl;have gq:=Y j2;clear kl j2;have kk:=ho.4 f[k] (aH a3);have el:=Y<|ho.10 f[k] (aH a3);have gv:=Y<|ho.3 f[k] (aH a3);obtain⟨L,hX⟩:∃L,L=f[k]:=⟨_,R⟩;rw[<-hX]at e0 e1 e2 e3 e4 e5 g2 gq kk el gv;have HX:=Y hX;clear hX;gi_wp2
   have a0:(λC:Ub=>Sw (Z wr.1) wr C/\Z C.1=Z wr.1+2/\E C ⟨Z wr.1,0,U⟩=S (Si S6 k)/\(∀q v,#[X pa (J L.1) pc,X ia (J L.2) ic,Si S6 L.3.1,Si S6 L.3.a,Si S6 L.3.3,Si S6 L.3.4][q]?=S v->E C ⟨Z wr.1+1,q,U⟩=S v)) (D (D wr<|Sc #[Si S6 k] 3) (Sc #[X pa (J L.1) pc,X ia (J L.2) ic,Si S6 L.3.1,Si S6 L.3.a,Si S6 L.3.3,Si S6 L.3.4] 81)):=⟨Xb (Xb Rf _) _,sP,SC,(λq v t=>by have:=eC (D wr<|Sc #[Si S6 k] 3) #[X pa (J L.1) pc,X ia (J L.2) ic,Si S6 L.3.1,Si S6 L.3.a,Si S6 L.3.3,Si S6 L.3.4] 81 q;rw[aO]at this;rw[this];exact t)⟩
   generalize D (D wr _) _=wq at*;obtain⟨bf,le,ko,aq⟩:=a0;have a8:=Y bf;have g3:=Y aq;have q0:=Y le;have pl:Z P.1<=Z wr.1:=P_.2;have sg:Z wr.1+1<Z wq.1:=O;have sL:Z w.1+2<=j/\j<Z M.1:=N_.2;have sG:Z w.1+2<=b/\b<Z M.1:=N_.1;have sO:Z w.1+2<=h/\h<Z M.1:=N_.3;have sD:Z M.1<=T/\T<Z d.1:=N_.9;have l3:Cl wr j 0 (X (S ⟨b,0,U⟩) n n):=P_.8;have l4:Cl wr j 1 (X (S ⟨h,0,U⟩) n n):=P_.9;have lw:Cl wr h k (X (S ⟨go k,0,U⟩) a a):=P_.o.o.1.cell B;have m0:=G (XU bf O) l3;have m1:=G (XU bf O) l4;have m2:=G (XU bf O) lw;have gf:=Y<|Kk (go k) a a (E_ k) wq.drew (Y ((P_.o.o.2 k B).of_block (bf.5 _ (P_.o.o.2 k B).lt)).drew) O;clear bf aq le e0 e1 e2 e3 e4 e5 l3 l4 lw;refine Tc (λl=>E l ⟨j,0,U⟩=S (X (S ⟨b,0,U⟩) n n)/\E l ⟨j,1,U⟩=S (X (S ⟨h,0,U⟩) n n)/\E l ⟨Z wr.1,0,U⟩=S (Si S6 k)/\E l ⟨h,k,U⟩=S (X (S ⟨go k,0,U⟩) a a)) λig=>?_;refine Yi 0 ?_;refine Yi 1 ?_;refine Yi 2 ?_;refine Yi 3 ?_;refine Yi 4 ?_;refine Yi 5 ?_;refine Yi 6 ?_;refine Yi 7 ?_;refine Yc 8 λK hK=>?_;go_simp;refine⟨JV,(bM.2 gf.o).mono ?_⟩;rintro e wc⟨u,J_,rfl,jj,be,k7⟩;have ap:Sw (Z wq.1) wq wc:=⟨be.1,be.2,be.3,be.4,be.5⟩;have rd:Z wq.1<=u:=jj;have hf:=Y k7;have a7:=Y ap;have n0:=G (XU ap O) m0;have n1:=G (XU ap O) m1;have n2:=G (XU ap O) m2;have nb:=G (XU ap O) ko;have lc:=ap.4;have cc:Q (wc.rowIs b 126 n λi=>if i<k then X (S ⟨r.1 i,0,U⟩) a (r.2 i)else X U 0 0):=Y ((P_.12.of_block<|a8.5 _ P_.12.lt).of_block (ap.5 _<|by show b<_;omega));clear ap be k7 jj m0 m1 m2;refine hK _ _ ⟨n0,n1,nb,n2⟩ λig=>?_;clear hK;refine Yi 9 ?_;have gk:Cl wc b k (X U 0 0):=G (cc.cell B) sP;have gz:=cc.frozen k;refine Yc 10 λK hK=>?_;go_simp;have i3:b≠j:=N_.5;have pq:b≠h:=N_.6;have o0:=G (bH wc ⟨b,k,U⟩ ⟨j,0,U⟩ (X (S ⟨u,0,U⟩) a J_) i3) n0;have o1:=G (bH wc ⟨b,k,U⟩ ⟨j,1,U⟩ (X (S ⟨u,0,U⟩) a J_) i3) n1;have o2:=G (bH wc ⟨b,k,U⟩ ⟨h,k,U⟩ (X (S ⟨u,0,U⟩) a J_) pq) n2;have ob:=G (bH wc ⟨b,k,U⟩ ⟨Z wr.1,0,U⟩ (X (S ⟨u,0,U⟩) a J_) (by show b≠Z wr.1;omega)) nb;refine hK _ _ ⟨o0,o1,ob,o2⟩ λig=>?_;clear hK gk gz ig
   refine ZV ?_;have a6:∀q v,#[X pa (J L.1) pc,X ia (J L.2) ic,Si S6 L.3.1,Si S6 L.3.a,Si S6 L.3.3,Si S6 L.3.4][q]?=S v->E (Se wc ⟨b,k,U⟩ (X (S ⟨u,0,U⟩) a J_)) ⟨Z wr.1+1,q,U⟩=S v:=λq v t=>G (bH wc ⟨b,k,U⟩ ⟨Z wr.1+1,q,U⟩ _ (by show b≠Z wr.1+1;omega)) (oB a7 (g3.o q v t) O);have ed:Q ((Se wc ⟨b,k,U⟩ (X (S ⟨u,0,U⟩) a J_)).rowIs b 126 n λi=>if i=k then X (S ⟨u,0,U⟩) a J_ else if i<k then X (S ⟨r.1 i,0,U⟩) a (r.2 i)else X U 0 0):=Y<|cc.set k _;have hh:Q (Cp (Se wc ⟨b,k,U⟩ (X (S ⟨u,0,U⟩) a J_)) u a J_ (E_ k)):=Y (hf.setOther (by show u≠b;omega) _);have gg:Q (∀q,q<Z wr.1->q≠b->(Se wc ⟨b,k,U⟩ (X (S ⟨u,0,U⟩) a J_)).1[q]?=wr.1[q]?):=Y λq m s=>G (cY s) (G (a7.5 q O) (a8.5 q m));have d0:Q ((Se wc ⟨b,k,U⟩ (X (S ⟨u,0,U⟩) a J_)).4=wr.4/\(Se wc ⟨b,k,U⟩ (X (S ⟨u,0,U⟩) a J_)).2=wr.2/\(Se wc ⟨b,k,U⟩ (X (S ⟨u,0,U⟩) a J_)).5=wr.5):=Y ⟨G a7.1 a8.1,G a7.2 a8.2,G a7.3 a8.3⟩;have sl:Z wq.1<=Z (Se wc ⟨b,k,U⟩ (X (S ⟨u,0,U⟩) a J_)).1:=by rw[Xd];exact lc
   clear n0 n1 n2 nb ko lc;generalize Se wc _ _=ws at*;have x0:=a6 0 _ R;have x1:=a6 1 _ R;have x2:=a6 2 _ R;have x3:=a6 3 _ R;have x4:=a6 4 _ R;have x5:=a6 5 _ R;clear a6;gi_wp2;have ec:=Y hh.lt;have sq:Z M.1<=H_ k/\H_ k<Z d.1:=N_.a6 k B;refine⟨JV,(tT Fence.wide 7 JV R ws).mono ?_⟩;rintro e O_⟨rfl,cs⟩;have af:Sw (Z ws.1) ws O_:=by rw[cs];exact Xb Rf _
   have la:Z O_.1=Z ws.1+1:=by rw[cs];simp
   have a1:∀q v,#[X pa (J L.1) pc,X ia (J L.2) ic,Si S6 L.3.1,Si S6 L.3.a,Si S6 L.3.3,Si S6 L.3.4][q]?=S v->E O_ ⟨Z ws.1,q,U⟩=S v:=λq v t=>by rw[cs,eC];exact t
   have bx:=Y af;have qz:=Y la;have qf:Z ws.1<Z O_.1:=O;have ek:=Y λq hq=>G (af.5 q O) (G (gg.o q O O) (kc.5 q hq));have al:=Y λq m s=>G (af.5 q O) (gg.o q m s);have oi:Q (P0 L cg bv (Z ws.1) (Z O_.1) O_):=Y ⟨ck.of_block (ek.o _ ck.1) O,cl.of_block (ek.o _ cl.1) O,⟨pa,pc,ia,ic,a1 0 _ R,a1 1 _ R,⟨a1 2 _ R,a1 3 _ R,a1 4 _ R,a1 5 _ R⟩,g2.keepS λq _ s=>(al.o q O O),gq.keepS λq _ s=>(al.o q O O)⟩,qf,O,oN ck.1,oN cl.1⟩;have nn:Q (OO O_ u (H_ k) a J_ (E_ k) [] O_):=Y ⟨R,R,R,aA,λ_ _ _ _=>R,hh.of_block<|af.5 _ ec.o,by have m:=P_.16.2 k B;have s:=HQ.2 k a3;rw[aM O]at s;rw[s]at m;exact m.of_block<|al.o _ (by show H_ k<_;omega) (by show H_ k≠_;omega)⟩
   have oq:=cf;have gp:Q (T≠H_ k):=Y (P_.16.o k B).symm;have a2:u<Z O_.1:=oN ec.o;have jl:H_ k<Z O_.1:=O;have y0:=G (XU af O) o0;have y1:=G (XU af O) o1;have yb:=G (XU af O) ob;have yg:Cl O_ b k (X (S ⟨u,0,U⟩) a J_):=G (af.cell (p:=⟨b,k,U⟩) (by show b<_;omega)) (G (ed.cell B) sP);have yd:Cl O_ (Z d.1) 0 (X (S ⟨T,0,U⟩) n n):=G (Xc<|al.o _ O O) P_.d0;have na:Cl O_ T k (X (S ⟨H_ k,0,U⟩) a a):=G (Xc<|al.o T O O) (P_.16.1.cell B);clear cs a1 la af o0 o1 o2 ob;gi_wp2
   refine wj (F:=Fence.wide) (n:=8) R vY (gf:=168) (lb:=#[Sj (S ⟨Z ws.1,0,U⟩)]) R JV (enters_of func168 vZ R) (BM (λq=>q=u\/q=H_ k) (Pn V) oi (Y ?m1) (Y ?m2) (Y ?m3) (Y ?m4) (Y ?m5) gv kk el.1 el.2 (Y<|by rw[HX.o];exact qF ho.o<|aH a3)) (qn _ _ _) (λt k=>t.trans k) (λW_ bn I_ o m s T_=>Zf.putObj W_ bn I_ o m s T_) Rf (λ_=>R)
    (OO O_ u (H_ k) a J_ (E_ k)) (OO.own a2 jl) nn.o
    (λp a' o3=>∃(bp:N)(cw cx cz c6 c7 c8 c9 da db dc dd df di dj dk dl dn du:Uj),a'=⟨#[Sa #[Si S6 V,X (S ⟨S_,I_,U⟩) n c],Sj (S ⟨Z w.1,0,U⟩),Sj (S ⟨Z w.1+1,0,U⟩),Si S6 n,Sj (S ⟨j,0,U⟩),Sj (S ⟨Z d.1,0,U⟩),X (S ⟨Z d.1+1,0,U⟩) n n,Sj (S ⟨L_,0,U⟩),Sj (S ⟨Z wr.1,0,U⟩),Sj (S ⟨Z wr.1+1,0,U⟩),Su,Sj (S ⟨bp,0,U⟩),Su,Su,Su,Su,Sj (S ⟨Z w.1,1,U⟩),X (S ⟨S_,I_,U⟩) n c,Si S6 n,Si S6 n,X (S ⟨b,0,U⟩) n n,Sa #[Si S6 V,X (S ⟨S_,I_,U⟩) n c],X (S ⟨h,0,U⟩) n n,Sa #[X (S ⟨b,0,U⟩) n n,X (S ⟨h,0,U⟩) n n],Si S6 n,Sj (S ⟨Z w.1,0,U⟩),Si S6 V,X (S ⟨T,0,U⟩) n n,Si S6 n,X (S ⟨Z d.1+1,0,U⟩) n n,Sa #[Si S6 V,X (S ⟨S_,I_,U⟩) n c],Sj (S ⟨L_,0,U⟩),Sj (S ⟨Z w.1,1,U⟩),X (S ⟨S_,I_,U⟩) n c,Si S6 n,Si S6 k,cw,cx,cz,c6,c7,c8,c9,da,db,dc,dd,df,di,dj,dk,dl,dn,du,Su,Su,Su,Su,Su,Su,Su,Su,Su,Su,Su,Su,Su,Su,Su,Su,Su,Su,Su,Su,Su,Su,Su,fb,fc,fe,fi,fj,fl,fn,fq,fs,fx,Su,Su,Su,Su,Su,Su,Su,Su,Su,Su,Su,Su,Su,Su,Su,Su,Su,Su,Su,Su,Su,Su,Su,Su,Su,Su,Su,Su,Su,Su,Su,Su,Su,Su,Su,Su,Su,Su,Su,Su],[]⟩/\PM (Z O_.1) bp p o3) ?ownA ?assign ?body ?done
   case m1=>intro q m s T_;omega
   case m2=>intro T_;have:=ec.o;omega
   case m3=>intro q m T_;omega
   case m4=>intro T_;have:=ck.1;omega
   case m5=>intro T_;have:=cl.1;omega
   case ownA=>
    rintro p a' _ br V row⟨bp,cw,cx,cz,c6,c7,c8,c9,da,db,dc,dd,df,di,dj,dk,dl,dn,du,e,hp⟩ pe q;exact⟨bp,cw,cx,cz,c6,c7,c8,c9,da,db,dc,dd,df,di,dj,dk,dl,dn,du,e,PM.own (n:=Z O_.1) () br V row hp pe q⟩
   case assign=>
    intro bn b8 p W_ K Q_ hP io;have ad:=Y Q_;have ba:=Y hP;have nz:=Y io;clear Q_ hP io;unfold pf;gi_wp2;have b5:Sw (Z W_.1) W_ (D W_<|Sc #[X p.2 (J p.4) p.3,X p.5 (J p.7) p.6] 216):=Xb Rf _;refine nz.o _ _ ⟨b5.4,λk I_ m _=>G (b5.5 k (aS.1 m).1) m⟩ (Z4 b5 ad.4) (OO.below a2 jl ad.o b5) (tA ba.o b5) ⟨Z W_.1,_,_,_,_,_,_,_,_,_,_,_,_,_,_,_,_,_,_,R,ad.4,?_,?_⟩;·simp[go_sem]
    simp[go_sem]
   case body=>
    rintro bn b8 p a' W_ Q_ hP⟨bp,cw,cx,cz,c6,c7,c8,c9,da,db,dc,dd,df,di,dj,dk,dl,dn,du,rfl,cp⟩ _;have ad:=Y Q_;have ba:=Y hP;have lb:=Q_.4;have j0:Z wr.1+1<u:=O;have z0:=G (Xc<|Q_.5 j O O O) y0;have zb:=G (Xc<|Q_.5 (Z wr.1) O O O) yb;have zg:=G (Xc<|Q_.5 b O O O) yg;have zd:=G (Xc<|Q_.5 (Z d.1) O O O) yd;have zk:=G (Xc<|Q_.5 T O O gp.o) na;have p0:=cp.2;have p1:=cp.3;have rb:=cp.1;have rc:bp<Z W_.1:=aI W_ _ p0;have bb:=Y ba.1;have gt:Q ((X9 p.7).map Int.ofNat=p.7):=Y (Kv λv hv=>(bb.2.1 v hv).1);have n6:Q ((X9 p.4).map Int.ofNat=p.4):=Y (Kv λv hv=>(bb.1 v hv).1);have gr:Q (∀ab∈X9 p.7,ab<64*a):=Y (λab ht=>by obtain⟨fz,hz,rfl⟩:=aY.1 ht;have:=bb.2.1 fz hz;omega)
    have n3:Q (∀ab∈X9 p.4,ab<64*a):=Y (λab ht=>by obtain⟨fz,hz,rfl⟩:=aY.1 ht;have:=bb.1 fz hz;omega)
    have ka:J p.7<=4000:=bb.2.2.2;have p4:J p.4<=4000:=bb.2.2.1;have ep:Q (XA<|(b8.map Pl.dat).foldl Ut (E_ k)):=Y<|Ec (oq.o k);have hl:Q (XA<|(b8.map Pl.dat).foldl Uo λ_=>0):=Y<|uG JW;obtain⟨F1,az⟩:∃F,F=(b8.map Pl.dat).foldl Ut (E_ k):=⟨_,R⟩;obtain⟨F2,cj⟩:∃F,F=(b8.map Pl.dat).foldl Uo (λ_=>0):=⟨_,R⟩;rw[<-az]at ep;rw[<-cj]at hl;have ni:=Y az;have y:=Y cj;have bc:Q (Cp W_ u a J_ F1):=Y (by rw[az];exact ad.6);have eo:Q (Cp W_ (H_ k) a a F2):=Y (by rw[cj];exact ad.7);clear Q_ hP cp az cj;have ga:=Y (JL p.6 p.5 (Z O_.1) W_.drew (Y<|by rw[gt.o];exact ba.2.2) (Y<|by simp[X9]) ka gr O ep (Y bc.drew) aA O);gi_wp2;refine Tc (λl=>E l ⟨j,0,U⟩=S (X (S ⟨b,0,U⟩) n n)/\E l ⟨Z wr.1,0,U⟩=S (Si S6 k)/\E l ⟨b,k,U⟩=S (X (S ⟨u,0,U⟩) a J_)/\E l ⟨bp,1,U⟩=S (X p.5 (J p.7) p.6)) λig=>?_;refine Yi 0 ?_;refine Yi 1 ?_;refine Yi 2 ?_;refine Yi 3 ?_;refine Yi 4 ?_;refine Yi 5 ?_;refine Yi 6 ?_;refine Yc 7 λK hK=>?_;go_simp;refine⟨JV,(CallsIn.inRound bn<|bM.2 ga.o).mono ?_⟩;rintro e V1⟨rfl,bh,b6⟩;have k1:W_.grownBy V1 (S u):=⟨bh.1,bh.2,bh.3,bh.4,bh.5⟩;have a9:=Y k1;have hj:=Y b6;have q1:∀(g o:N)(v:Uj),g≠u->E W_ ⟨g,o,U⟩=S v->E V1 ⟨g,o,U⟩=S v:=λg o v m s=>G (Xc<|k1.5 g (aI W_ _ s) λe=>m<|by injection e) s;have f0:=q1 _ _ _ O z0;have bq:=q1 _ _ _ O zb;have f4:=q1 _ _ _ O zg;have ca:=q1 _ _ _ O zd;have cb:=q1 _ _ _ O zk;have lv:=q1 _ _ _ O p0;have bo:=q1 _ _ _ O p1;have r3:=k1.4;clear k1 bh b6 q1 z0 zb zg zd zk p0 p1;refine hK _ _ ⟨f0,bq,f4,bo⟩ λig=>?_;clear hK ig;refine ZV ?_;have ns:=Y<|YZ ba.2.1 a9.o a2;have gb:=Y (ZG u a J_ (J p.4) p.3 (Js F1<|X9 p.7) p.2 (X9 p.4) (Z O_.1) (Z V1.1) V1.drew (Y<|by rw[n6.o];exact ns.o) (Y<|by simp[X9]) p4 n3 O (Y<|JX _ ep.o) (Y hj.drew) aA O);gi_wp2;refine Tc (λl=>E l ⟨j,0,U⟩=S (X (S ⟨b,0,U⟩) n n)/\E l ⟨Z wr.1,0,U⟩=S (Si S6 k)/\E l ⟨b,k,U⟩=S (X (S ⟨u,0,U⟩) a J_)/\E l ⟨bp,0,U⟩=S (X p.2 (J p.4) p.3)) λig=>?_;refine Yi 0 ?_;refine Yi 1 ?_;refine Yi 2 ?_;refine Yi 3 ?_;refine Yi 4 ?_;refine Yi 5 ?_;refine Yi 6 ?_;refine Yc 7 λK hK=>?_;go_simp;refine⟨JV,(CallsIn.inRound bn<|bM.2 gb.o).mono ?_⟩;rintro e V2⟨rfl,bi,k5⟩;have k2:V1.grownBy V2 (S u):=⟨bi.1,bi.2,bi.3,bi.4,bi.5⟩;have b0:=Y k2;have os:=Y k5;have q1:∀(g o:N)(v:Uj),g≠u->E V1 ⟨g,o,U⟩=S v->E V2 ⟨g,o,U⟩=S v:=λg o v m s=>G (Xc<|k2.5 g (aI V1 _ s) λe=>m<|by injection e) s;have z0:=q1 _ _ _ O f0;have zb:=q1 _ _ _ O bq;have zg:=q1 _ _ _ O f4;have zd:=q1 _ _ _ O ca;have zk:=q1 _ _ _ O cb;have p0:=q1 _ _ _ O lv;have p1:=q1 _ _ _ O bo;have r4:=k2.4;clear k2 bi k5 q1 f0 bq f4 ca cb lv bo;refine hK _ _ ⟨z0,zb,zg,p0⟩ λig=>?_;clear hK ig;refine ZV ?_;have no:=Y<|YZ (YZ ba.2.2 a9.o a2) b0.o a2;have hg:=Y ((eo.of_block<|a9.5 _ eo.lt λe=>by injection e with e;omega).of_block (b0.5 _ (oN eo.lt) λe=>by injection e with e;omega));have ge:=Y (ZG (H_ k) a a (J p.7) p.6 F2 p.5 (X9 p.7) (Z O_.1) (Z V2.1) V2.drew (Y<|by rw[gt.o];exact no.o) (Y<|by simp[X9]) ka gr O hl (Y hg.drew) aA O);gi_wp2;refine Tc (λl=>E l ⟨Z d.1,0,U⟩=S (X (S ⟨T,0,U⟩) n n)/\E l ⟨Z wr.1,0,U⟩=S (Si S6 k)/\E l ⟨T,k,U⟩=S (X (S ⟨H_ k,0,U⟩) a a)/\E l ⟨bp,1,U⟩=S (X p.5 (J p.7) p.6)) λig=>?_;refine Yi 0 ?_;refine Yi 1 ?_;refine Yi 2 ?_;refine Yi 3 ?_;refine Yi 4 ?_;refine Yi 5 ?_;refine Yc 6 λK hK=>?_;go_simp;refine⟨JV,(CallsIn.inRound bn<|bM.2 ge.o).mono ?_⟩;rintro e V3⟨rfl,bl,k6⟩;have k3:V2.grownBy V3 (S<|H_ k):=⟨bl.1,bl.2,bl.3,bl.4,bl.5⟩;have eg:=Y k3;have ov:=Y k6;have q1:∀(g o:N)(v:Uj),g≠H_ k->E V2 ⟨g,o,U⟩=S v->E V3 ⟨g,o,U⟩=S v:=λg o v m s=>G (Xc<|k3.5 g (aI V2 _ s) λe=>m<|by injection e) s;have ib:=gp.o;have bq:=q1 _ _ _ O zb;have ca:=q1 _ _ _ O zd;have cb:=q1 _ _ _ ib zk;have bo:=q1 _ _ _ O p1;have r7:=k3.4;clear k3 bl k6 q1 z0 zb zg zd zk p0 p1 ib;refine hK _ _ ⟨ca,bq,cb,bo⟩ λig=>?_;clear hK ig;refine ZV ?_;clear ca bq cb bo;gi_wp2;refine⟨((Jc a9.o bc.obj).trans (Jc b0.o hj.obj)).trans (Jc eg.o hg.obj),((Zg a9.o (bC R) lb).trans (Zg b0.o (bC R) O)).trans (Zg eg.o (aZ R) O),ad.next a2 O a9.o b0.o eg.o ?_ ?_⟩;·rw[<-ni.o];exact os.o
    rw[<-y.o];exact ov.o
   rintro R_ ps W_ hD hS Q_ il;have od:=Y hS;have ad:=Y Q_;have nw:=Y il;have ne:=Y hD;have lb:=Q_.4;have j0:Z wr.1+1<u:=O;have q5:Z d.1+1<Z wr.1:=O;have zb:=G (Xc<|Q_.5 (Z wr.1) O O O) yb;have b7:∀q v,E ws ⟨Z wr.1+1,q,U⟩=S v->E W_ ⟨Z wr.1+1,q,U⟩=S v:=λq v t=>G (Xc<|Q_.5 (Z wr.1+1) O O O) (G (XU bx.o O) t);have t2:=b7 2 _ x2;have t3:=b7 3 _ x3;have t4:=b7 4 _ x4;have t5:=b7 5 _ x5;have gl:Q (W_.rowIs (Z d.1+1) 23 n λi=>if i<k then r.5 i else X U 0 0):=Y<|(P_.17.of_block<|al.o (Z d.1+1) O O).of_block (Q_.5 (Z d.1+1) O O O);have hd:=Y<|J4 L.3 W_.drew;clear Q_ hS il y0 y1 yb yg yd na x0 x1 x2 x3 x4 x5 b7;gi_wp2;refine Tc (λl=>E l ⟨Z wr.1,0,U⟩=S (Si S6 k)/\E l ⟨Z wr.1+1,2,U⟩=S (Si S6 L.3.1)/\E l ⟨Z wr.1+1,3,U⟩=S (Si S6 L.3.a)/\E l ⟨Z wr.1+1,4,U⟩=S (Si S6 L.3.3)/\E l ⟨Z wr.1+1,5,U⟩=S (Si S6 L.3.4)) λig=>?_;refine Yi 0 ?_;refine Yi 1 ?_;refine Yi 2 ?_;refine Yi 3 ?_;refine Yc 4 λK hK=>?_;go_simp;refine⟨JV,(bM.2 hd.o).mono ?_⟩;rintro e w5⟨a5,c5,rfl,bd,j1⟩;have aj:Sw (Z W_.1) W_ w5:=⟨bd.1,bd.2,bd.3,bd.4,bd.5⟩;have dz:=Y aj;have np:Q (Xf w5 (Z W_.1) (Z w5.1) a5 L.3.tg):=Y j1;have dw:=G (XU aj O) zb;have e7:=G (XU aj O) t2;have e8:=G (XU aj O) t3;have e9:=G (XU aj O) t4;have fa:=G (XU aj O) t5;have eu:=gl.of_block<|aj.5 _ gl.lt;have gk:Cl w5 (Z d.1+1) k (X U 0 0):=G (eu.cell B) sP;have gz:=eu.frozen k;have r0:=aj.4;clear aj bd j1 eu zb t2 t3 t4 t5;refine hK _ _ ⟨dw,e7,e8,e9,fa⟩ λig=>?_;clear hK;refine Yi 5 ?_;have a4:∀(g o:N)(v:Uj),g≠Z d.1+1->E w5 ⟨g,o,U⟩=S v->E (Se w5 ⟨Z d.1+1,k,U⟩ (X a5 (J L.3.tg) c5)) ⟨g,o,U⟩=S v:=λg o v m s=>G (bH w5 ⟨Z d.1+1,k,U⟩ ⟨g,o,U⟩ _ λe=>m e.symm) s;refine Yc 6 λK hK=>?_;go_simp;refine hK _ _ ⟨a4 _ _ _ O dw,a4 _ _ _ O e7,a4 _ _ _ O e8,a4 _ _ _ O e9,a4 _ _ _ O fa⟩ λig=>?_;clear hK gk gz ig
   refine ZV ?_;have qv:=a4 _ _ _ O dw;clear dw e7 e8 e9 fa a4;have g9:Q (YW (Se w5 ⟨Z d.1+1,k,U⟩ (X a5 (J L.3.tg) c5)) L_ Z_ (Z P.1) K2 (S ⟨S_,I_,U⟩) n c r.6 r.7 r.8):=Y<|B9 (p:=(⟨w,V,n,c,a,K2,S ⟨S_,I_,U⟩,f,b,j,h,Z d.1,T,Z d.1+1,L_,Z_,Z M.1,Z d.1,Z P.1,go,H_,E_⟩:VD)) (u5:=X a5 (J L.3.tg) c5) P_.o N_.o B al.o O O ad.o dz.o;have f7:Q (Xp (Se w5 ⟨Z d.1+1,k,U⟩ (X a5 (J L.3.tg) c5)) cg bv (S ⟨S_,I_,U⟩) f):=Y (ha.keepS λq _ s=>G (cY<|by show q≠Z d.1+1;omega) (G (dz.5 q O) (G (ad.5 q O O O) (ek.o q O))));have ok:Q (∀qs∈f,∀ab∈qs.3.tg,0<=ab/\ab<(n:I)):=Y (by rw[hx.o];exact ho.1.3);have he:=Y (VY L_ Z_ (Z P.1) c (S ⟨S_,I_,U⟩) cg bv hx hn p6 O (by have:Z d.1+2<=L_/\L_<Z P.1:=N_.a9;omega) (by have:Z d.1+2<=Z_/\Z_<Z P.1:=N_.14;omega) O ok n k r.6 r.7 r.8 _ g9 f7 B (Y<|ZA _ _) (Y HQ.6) HQ.7);gi_wp2;refine⟨JV,(bM.2 he.o).mono ?_⟩;rintro e w7⟨rfl,v',jf,kw⟩;obtain⟨d',ih,i0,ir⟩:=Oi.round (p:=(⟨w,V,n,c,a,K2,S ⟨S_,I_,U⟩,f,b,j,h,Z d.1,T,Z d.1+1,L_,Z_,Z M.1,Z d.1,Z P.1,go,H_,E_⟩:VD)) (c5:=c5) P_.o N_.o HQ.o HM.o B a3 (by show ∀S_,S_<n->∀ab∈X8 f S_,ab<n;rw[hx.o];exact ho.1.tg) al.o ⟨G bx.1 d0.1,G bx.2 d0.2.1,G bx.3 d0.2.2⟩ O O a2 (ed.of_block<|bx.5 _ ed.lt) ad.o od.o HX.o ne.o nw.o dz.o np.o jf kw;have nv:=Y ih;have n7:=Y i0;have n4:=Y ir;clear jf kw ih i0 ir qv;gi_wp2;exact⟨⟨k+1,R_::ds,d',_,_,_,_,_,_,_,_,_,_,_,_,_,_,_,_,_,_,_,_,_,_,_,_,_,_,_,_,O,R,nv,n7,n4⟩,SA⟩
  have j4:k=n:=O;clear B;have b1:=Y (by have t:=P_.o;rw[j4]at t;exact t);have n8:=Y (by have t:=HQ.o;rw[j4]at t;exact t);clear P_ HQ;have pl:Z P.1<=Z wr.1:=b1.2;obtain⟨gL,cL,k4,k0⟩:=Oi.spread (p:=(⟨w,V,n,c,a,K2,W,f,b,j,h,Z d.1,T,Z d.1+1,L_,Z_,Z M.1,Z d.1,Z P.1,go,H_,E_⟩:VD)) b1.o N_.o n8.o HM.o ho.o hx.o cf.o (by show a<=100;omega);have hb:=Y k0;have s2:E wr ⟨L_,2,U⟩=S (X (S ⟨gL,0,U⟩) (J r.8) cL):=by rw[<-k4];exact b1.19.3
  have s0:Cl wr j 0 (X (S ⟨b,0,U⟩) n n):=b1.8;have s3:Cl wr (Z d.1) 0 (X (S ⟨T,0,U⟩) n n):=b1.d0;have sB:Z d.1+2<=L_/\L_<Z P.1:=N_.a9;have sL:Z w.1+2<=j/\j<Z M.1:=N_.2;have sG:Z w.1+2<=b/\b<Z M.1:=N_.1;have sO:Z w.1+2<=h/\h<Z M.1:=N_.3;have sD:Z M.1<=T/\T<Z d.1:=N_.9;clear k0 k4;gi_wp2;refine Tc (λl=>E l ⟨L_,2,U⟩=S (X (S ⟨gL,0,U⟩) (J r.8) cL)/\E l ⟨j,0,U⟩=S (X (S ⟨b,0,U⟩) n n)/\E l ⟨Z d.1,0,U⟩=S (X (S ⟨T,0,U⟩) n n)) λig=>?_;refine Yi 0 ?_;refine Yi 1 ?_;refine Yi 2 ?_;refine Yi 3 ?_;refine Yi 4 ?_;refine Yi 5 ?_;refine Yi 6 ?_;refine Yi 7 ?_;refine Yc 8 λK hK=>?_;go_simp;refine⟨JV,(bM.2 hb.o).mono ?_⟩;rintro e w8⟨rfl,⟨U_,i6⟩,kb⟩;have y:=Y i6;have co:=λq hq=>kb q O hq;have u2:=G (Xc<|co L_ sB.2) s2;have u0:=G (Xc<|co j O) s0;have u3:=G (Xc<|co (Z d.1) O) s3;clear i6 kb co s0 s2 s3;refine hK _ _ ⟨u2,u0,u3⟩ λig=>?_;clear hK ig;refine ZV ?_;have v0:Cl w8 (Z w.1) 0 (Si S6 V):=y.3;clear u2 u0 u3;gi_wp2;refine⟨JV,(bM.2<|Ty V w8 O).mono ?_⟩;rw[ei.o];rintro e w9⟨gN,rfl,rj,es,kt⟩;have nc:=Y es;have oc:=Y<|Cp.of_row kt;have r2:=es.4;have r1:Z P.1<=Z w8.1:=y.2;clear es kt v0;gi_wp2;have a0:(λC:Ub=>Sw (Z w8.1) w8 C/\Z w9.1<Z C.1/\E C ⟨Z w9.1,0,U⟩=S (X (S ⟨gN,0,U⟩) a a)/\Q (Cp C gN a a λ_=>0)) (D w9<|Sc #[X (S ⟨gN,0,U⟩) a a] 126):=⟨Xg nc.o<|Xb Rf _,sP,SC,Y<|oc.alloc _⟩;generalize D w9 _=W2 at*;obtain⟨et,sa,i2,g6⟩:=a0;have ac:=Y et;have nd:=Y i2;have ao:Q (∀i,i<n->Z w.1+2<=go i/\go i<Z M.1):=Y λi z=>N_.4 i z;have ar:Q (∀i,i<n->go i≠b/\go i≠j):=Y λi z=>N_.8 i z;have sb:=et.4;clear et i2;generalize wr=wo at*
  gi_loopw [100] (λi wr=>∃q:N,q<=n/\i=Si S6 q/\Q (OY (⟨w,V,n,c,a,K2,W,f,b,j,h,Z d.1,T,Z d.1+1,L_,Z_,Z M.1,Z d.1,Z P.1,go,H_,E_⟩:VD) r.1 r.2 ds U_ W2 gN wr q 0)) λi _=>n-(JB i).toNat
  .exact⟨0,aN,R,Y<|OY.start y.o ac.o⟩
  case round=>
   obtain⟨q,hq,rfl,H3⟩:=hrel;have sm:=H3.4;by_cases B:q<n
   .have aq:q<J f:=oN hx.o
    obtain⟨a',c',kf,j3⟩:=y.13 q B;have kn:E wr ⟨Z d.1+1,q,U⟩=S (X a' (J (N6 f q)) c'):=by rw[<-kf];exact G (Xc<|H3.5 (Z d.1+1) O (λi z e=>by have:=ao.o i z;have e':Z d.1+1=go i:=e;omega)) (oB ac (y.12.cell B) O)
    have nr:Q (Yv w8 (λS_=>Z P.1<=S_) a' (N6 f q)):=Y j3;have b3:Q (J (N6 f q)=J (X8 f q)):=Y (by rw[VS aq,Km aq,bK]);have pv:J (N6 f q)<=2:=by rw[VS aq];exact KJ _
    have oo:Q (∀x (t:x<J (N6 f q)),(N6 f q)[x]=(((X8 f q)[x]'(by rw[<-b3.o];exact t):N):I)/\(X8 f q)[x]'(by rw[<-b3.o];exact t)<n):=Y (λx t=>by
     have m:=WM ho.1 aq;have T_:x<J (X8 f q):=by rw[<-b3.o];exact t
     refine⟨?_,by rw[hx.o];exact ho.1.tg q aq _<|aH T_⟩;simp only[<-m,Xi,cM];rfl)
    clear kf j3;obtain⟨nt,ev⟩:∃qq,qq=J (N6 f q):=⟨_,R⟩;rw[<-ev]at kn pv;have gs:=Y ev;clear ev;gi_wp2;clear kn;generalize wr=wy at*
    gi_loopw [108] (λi wr=>∃x:N,x<=nt/\i=Si S6 x/\Q (OY (⟨w,V,n,c,a,K2,W,f,b,j,h,Z d.1,T,Z d.1+1,L_,Z_,Z M.1,Z d.1,Z P.1,go,H_,E_⟩:VD) r.1 r.2 ds U_ W2 gN wr q x)) λi _=>nt-(JB i).toNat
    .exact⟨0,aN,R,H3⟩
    obtain⟨x,hr,rfl,H4⟩:=hrel;have sn:=H4.4;by_cases p3:x<nt
    .have ey:x<J (N6 f q):=by rw[<-gs.o];exact p3
     have qc:x<J (X8 f q):=by rw[<-b3.o];exact ey
     obtain⟨bt,ot,rfl,po,cm⟩:=nr.o x ey;have hv:=oo.o x ey;rw[hv.1]at cm;have oj:Q ((X8 f q)[x]=(X8 f q)[x]):=Y R;obtain⟨M_,cr⟩:∃ab,ab=(X8 f q)[x]:=⟨_,R⟩;have cq:M_<n:=by rw[cr];exact hv.2
     rw[<-cr]at cm;have on:=Y cr;clear hv cr;have fr:∀(g o:N)(v:Uj),g < Z W2.1->(∀i,i<n->g≠go i)->E W2 ⟨g,o,U⟩=S v->E wr ⟨g,o,U⟩=S v:=λg o v m s T_=>G (Xc<|H4.5 g m s) T_;have k1:=fr bt (ot+x) _ O (λi z e=>by have:=ao.o i z;omega) (oB ac cm po.2);have cv:Cl wr j 1 (X (S ⟨h,0,U⟩) n n):=fr j 1 _ O (λi z e=>(ar.o i z).2 e.symm) (G (XU ac.o O) y.8);have ct:Cl wr j 0 (X (S ⟨b,0,U⟩) n n):=fr j 0 _ O (λi z e=>(ar.o i z).2 e.symm) (G (XU ac.o O) y.7);have li:Cl wr h q (X (S ⟨go q,0,U⟩) a a):=H4.o.o.1.cell B;have lg:Cl wr b M_ (X (S ⟨r.1 M_,0,U⟩) a (r.2 M_)):=fr b M_ _ O (λi z e=>(ar.o i z).1 e.symm) (oB ac (y.10.1.cell cq) O);have kx:=fr (Z w9.1) 0 _ O (λi z e=>by have:=ao.o i z;omega) nd.o;have ri:Z P.1<=r.1 M_:=y.11 M_ cq;have pr:=(y.10.2 M_ cq).lt;have nk:Q (Cp wr (r.1 M_) a (r.2 M_) (U_ M_)):=Y ((y.10.2 M_ cq).of_block (G (H4.5 (r.1 M_) O (λi z e=>by have:=ao.o i z;have e':r.1 M_=go i:=e;omega)) (ac.5 _ pr)));have nl:=Y (g6.of_block<|H4.5 gN (oN g6.lt) (λi z e=>by have:=ao.o i z;have e':gN=go i:=e;omega));have nm:Q (Cp wr (go q) a a (Vq f U_ E_ q x q)):=Y<|H4.o.o.2 q B;have j0:=ao.o q B;have f5:=Y (Tv (go q) (r.1 M_) gN a a (r.2 M_) a (Vq f U_ E_ q x q) (U_ M_) (λ_=>0) wr.drew (Y<|vm y.wi cf.o q x q) (Y<|y.wi M_) (Y JW) O (Y nm.drew) (Y nk.drew) (Y nl.drew) O (Y λe=>O));clear fr cm;gi_wp2;refine Tc (λl=>E l ⟨j,1,U⟩=S (X (S ⟨h,0,U⟩) n n)/\E l ⟨h,q,U⟩=S (X (S ⟨go q,0,U⟩) a a)/\E l ⟨j,0,U⟩=S (X (S ⟨b,0,U⟩) n n)/\E l ⟨b,M_,U⟩=S (X (S ⟨r.1 M_,0,U⟩) a (r.2 M_))/\E l ⟨Z w9.1,0,U⟩=S (X (S ⟨gN,0,U⟩) a a)) λig=>?_;refine Yi 0 ?_;refine Yi 1 ?_;refine Yi 2 ?_;refine Yi 3 ?_;refine Yi 4 ?_;refine Yi 5 ?_;refine Yi 6 ?_;refine Yi 7 ?_;refine Yi 8 ?_;refine Yi 9 ?_;refine Yi 10 ?_;refine Yc 11 λK hK=>?_;go_simp;refine⟨JV,(bM.2 f5.o).mono ?_⟩;rintro e wz⟨rfl,bm,k8⟩;have kz:wr.grownBy wz (S<|go q):=⟨bm.1,bm.2,bm.3,bm.4,bm.5⟩;have H5:=Y (H4.next B qc kz<|by show Cp wz (go q) a a (NR (Vq f U_ E_ q x q) (U_ (X8 f q)[x]) λ_=>0);rw[<-on.o];exact k8);have q1:∀(g o:N)(v:Uj),g≠go q->E wr ⟨g,o,U⟩=S v->E wz ⟨g,o,U⟩=S v:=λg o v m s=>G (Xc<|kz.5 g (aI wr _ s) λe=>m<|by injection e) s;have l1:=q1 _ _ _ (λe=>(ar.o q B).2 e.symm) cv;have l0:=q1 _ _ _ (λe=>(ar.o q B).2 e.symm) ct;have lu:=q1 _ _ _ (λe=>H4.o.o.o q B e.symm) li;have lr:=q1 _ _ _ (λe=>(ar.o q B).1 e.symm) lg;have lx:=q1 _ _ _ O kx;clear kz bm k8 q1 k1 cv ct li lg kx;refine hK _ _ ⟨l1,lu,l0,lr,lx⟩ λig=>?_;clear hK ig;refine ZV ?_;clear l1 lu l0 lr lx;gi_wp2;exact⟨⟨x+1,O,gM,H5⟩,SA⟩
    have qa:x=nt:=O;gi_wp2;exact⟨⟨q+1,O,gM,Y<|H4.row (by show J (X8 f q)<=x;rw[qa,gs.o,b3.o];exact aA)⟩,SA⟩
   have p7:q=n:=O;have H6:=Y (by have t:=H3.o;rw[p7]at t;exact t);have fr:∀(g:N),g < Z W2.1->(∀i,i<n->g≠go i)->wr.1[g]?=W2.1[g]?:=λg m s=>H6.5 g m s;have eq:=G (fr j O λi z e=>(ar.o i z).2 e.symm) (ac.5 j O);have ch:=G (fr (Z w.1+1) O λi z e=>by have:=ao.o i z;omega) (ac.5 (Z w.1+1) O);have ct:Cl wr j 0 (X (S ⟨b,0,U⟩) n n):=G (Xc eq) y.7;have cv:Cl wr j 1 (X (S ⟨h,0,U⟩) n n):=G (Xc eq) y.8;have lk:=G (Xc ch) y.4;have lo:=G (Xc ch) y.5;have ql:∀o,wr.frozen? ⟨Z w.1+1,o,U⟩=Sn:=λo=>by rw[bJ (a:=⟨Z w.1+1,o,U⟩) ch];exact y.6 o
   have lp:∀l5,E (Se wr ⟨Z w.1+1,0,U⟩ l5) ⟨Z w.1+1,1,U⟩=S (X U 0 0):=λl5=>G (cJ sP) lo
   have n5:Q (∀R_∈ds,wr.1[R_]?=S (.deferred (S []))):=Y (λR_ hD=>by have m:=y.14.3 R_ hD;have s:Z P.1<=R_:=y.14.2 R_ hD;have T_:=(aS.1 m).1;exact G (fr R_ O λi z e=>by have:=ao.o i z;omega) (G (ac.5 R_ T_) m))
   have si:=H6.4;have ro:Z w.1+1<Z wr.1:=O;clear fr eq ch;gi_wp2;have a0:(λC:Ub=>E C ⟨Z w.1+1,0,U⟩=S (X (S ⟨b,0,U⟩) n n)/\E C ⟨Z w.1+1,1,U⟩=S (X (S ⟨h,0,U⟩) n n)/\(∀q',q'≠Z w.1+1->C.1[q']?=wr.1[q']?)/\Z C.1=Z wr.1/\(C.4=wr.4/\C.2=wr.2/\C.5=wr.5)) (Se (Se wr ⟨Z w.1+1,0,U⟩ (X (S ⟨b,0,U⟩) n n)) ⟨Z w.1+1,1,U⟩ (X (S ⟨h,0,U⟩) n n)):=⟨(G (cJ sP) (iL wr _ _<|by rw[lk];rfl)),(iL _ _ _<|by rw[lp];rfl),(λq' m=>G (cY m) (cY m)),(by rw[Xd,Xd]),⟨R,R,R⟩⟩;generalize Se (Se wr _ _) _ _=wE at*;obtain⟨o6,pb,eb,ez,ee⟩:=a0;have nh:=Y ez;have iv:∀R_∈ds,Z P.1<=R_:=λR_ hD=>y.14.2 R_ hD;have cd:=Y iv;clear ct cv lk lo ql lp ez iv;refine JZ (B:=Z P.1) ds wE ⟨y.14.1,cd.o,λR_ hD=>G (eb R_<|oN (cd.o R_ hD)) (n5.o R_ hD)⟩ λW' m s T_ h4 h5=>?_;have kd:Z w.1+1∉ds:=λt=>by have:=cd.o _ t;omega
   have o4:=G (Xc<|h5 _ kd) o6;have o5:=G (Xc<|h5 _ kd) pb;refine⟨Sa #[X (S ⟨b,0,U⟩) n n,X (S ⟨h,0,U⟩) n n],?_,b,h,r.1,go,r.2,U_,Vq f U_ E_ n 0,R,?_⟩;·simp[JC,results66,go_sem,o4,o5]
   have hr:=OY.res (p:=(⟨w,V,n,c,a,K2,W,f,b,j,h,Z d.1,T,Z d.1+1,L_,Z_,Z M.1,Z d.1,Z P.1,go,H_,E_⟩:VD)) (w':=W') H6.o y.o N_.o ac.o hx.o cf.o op.o (λq' q1 q2 q3=>G (h5 q' λt=>?_) (eb q' q2)) (G m ee.1) (G s ee.2.1) (G T_ ee.2.2) (oN nh.o);·rw[ei.o];exact hr
   obtain q3|⟨i,z,e⟩:=q3
   .have h6:=cd.o q' t;have so:q' < Z P.1:=q3;omega
   have h6:=y.14.3 q' t
   obtain⟨ob,h7,h8⟩:=(y.10.2 i z).obj;rw[<-e,h6]at h7;injection h7 with h7;rw[<-h7]at h8;cases h8)
 clear ej;have F:OB w w1 w1.drew V W n c a f U U U:=⟨(Rf).drew,i4,i5,O,nofun,nofun,nofun,nofun,nofun,nofun⟩;refine Tc (λl=>E l ⟨Z w.1,0,U⟩=S (Si S6 V)/\E l ⟨Z w.1,1,U⟩=S (X W n c)) λig=>?_;generalize w1.drew=wd at*;refine Yi 0 ?_;refine Yi 2 ?_;refine YM (rs:=[1,3,5]) vZ sP (Xu.cons R (λK hK=>?_) (Xu.cons R (λK hK=>?_) (Xu.cons R (λK hK=>?_) Xu.nil)))
 all_goals
  go_simp
  first
   |refine F.mkS (K:=K) λM F=>?_
   |refine F.lbS (K:=K) λM F=>?_
   |(refine⟨JV,(bM.2<|F.caS (ce.o _ F.1)).mono ?_⟩;rintro e M⟨h,go,E_,rfl,F⟩)
  refine hK _ _ F.kp λig=>?_;clear hK
 refine YM (rs:=[3,5]) vZ sP (Xu.cons R (λK hK=>?_) (Xu.cons R (λK hK=>?_) Xu.nil));rotate_left 2;refine YM (rs:=[1,5]) vZ sP (Xu.cons R (λK hK=>?_) (Xu.cons R (λK hK=>?_) Xu.nil));rotate_left 2;refine YM (rs:=[1,3]) vZ sP (Xu.cons R (λK hK=>?_) (Xu.cons R (λK hK=>?_) Xu.nil))
 all_goals
  go_simp
  first
   |refine F.mkS (K:=K) λM F=>?_
   |refine F.lbS (K:=K) λM F=>?_
   |(refine⟨JV,(bM.2<|F.caS (ce.o _ F.1)).mono ?_⟩;rintro e M⟨h,go,E_,rfl,F⟩)
  refine hK _ _ F.kp λig=>?_;clear hK
 refine YM (rs:=[3]) vZ sP (Xu.cons R (λK hK=>?_) Xu.nil);rotate_left;refine YM (rs:=[1]) vZ sP (Xu.cons R (λK hK=>?_) Xu.nil);rotate_left;refine Yi 4 ?_;refine YM (rs:=[5]) vZ sP (Xu.cons R (λK hK=>?_) Xu.nil);rotate_left;refine YM (rs:=[3]) vZ sP (Xu.cons R (λK hK=>?_) Xu.nil);rotate_left;refine Yi 4 ?_;refine YM (rs:=[5]) vZ sP (Xu.cons R (λK hK=>?_) Xu.nil);rotate_left;refine YM (rs:=[1]) vZ sP (Xu.cons R (λK hK=>?_) Xu.nil);rotate_left
 all_goals
  go_simp
  first
   |refine F.mkS (K:=K) λM F=>?_
   |refine F.lbS (K:=K) λM F=>?_
   |(refine⟨JV,(bM.2<|F.caS (ce.o _ F.1)).mono ?_⟩;rintro e M⟨h,go,E_,rfl,F⟩)
  refine hK _ _ F.kp λig=>?_;clear hK
 refine Yi 4 ?_;rotate_left;refine Yi 4 ?_;rotate_left;rotate_left;refine Yi 4 ?_;rotate_left;rotate_left;refine Yi 4 ?_;rotate_left
 all_goals
  refine Yc 6 λK hK=>?_;obtain⟨l0,l1,lz,l2⟩:=F.lbc;go_simp;clear l0 l1 lz l2;have br:=F.fin bc.o hm.o g4.o g5.o g7.o;refine hK _ _ ⟨br.2,br.3⟩ λig=>?_;clear hK;refine ZV ?_;exact ow.o _ _ _ _ _ _ br
end
theorem Qa:(prog.info? 60).map (λi=>(i.8,i.3,i.4))=S (S<|Sa #[Hq,H 0,H 0,H 0,H 0],5,56):=vZ
def kr:Code->List Code
 |.loop c=>[c]
 |.seq a b=>kr a++kr b
 |.block _ c=>kr c
 |.scope c=>kr c
 |.cond _ a b=>kr a++kr b
 |_=>[]
noncomputable def Ao:Code:=(kr<|f23.9.getD .skip).getD 0 .skip
noncomputable def Nb:Code:=(kr Ao).getD 0 .skip
theorem zY(T:Type):∀(a:List T)(k:N)(f:N->T),(∀i (h:i<J a),f (k+i)=a[i])->a=(List.range' k (J a)).map f
 |[],_,_,_=>R
 |x::a,k,f,h=>by rw[bA,List.range'_succ,eH];have b:=h 0 sP;rw[fW,eM]at b;rw[b];congr 1;exact zY T a (k+1) f λi c=>by have:=h (i+1) SK;rwa[fO,show k+(i+1)=k+1+i by omega]at this
theorem Lw:(List.range' 13 155).map h=(h 13::h 14::h 15::h 16::h 17::h 18::h 19::h 20::h 21::h 22::h 23::h 24::h 25::h 26::h 27::h 28::h 29::h 30::h 31::h 32::h 33::h 34::h 35::h 36::h 37::h 38::h 39::h 40::h 41::h 42::h 43::h 44::h 45::h 46::h 47::h 48::h 49::h 50::h 51::h 52::h 53::h 54::h 55::h 56::h 57::h 58::h 59::h 60::h 61::h 62::h 63::h 64::h 65::h 66::h 67::h 68::h 69::h 70::h 71::h 72::h 73::h 74::h 75::h 76::h 77::h 78::h 79::h 80::h 81::h 82::h 83::h 84::h 85::h 86::h 87::h 88::h 89::h 90::h 91::h 92::h 93::h 94::h 95::h 96::h 97::h 98::h 99::h 100::h 101::h 102::h 103::h 104::h 105::h 106::h 107::h 108::h 109::h 110::h 111::h 112::h 113::h 114::h 115::h 116::h 117::h 118::h 119::h 120::h 121::h 122::h 123::h 124::h 125::h 126::h 127::h 128::h 129::h 130::h 131::h 132::h 133::h 134::h 135::h 136::h 137::h 138::h 139::h 140::h 141::h 142::h 143::h 144::h 145::h 146::h 147::h 148::h 149::h 150::h 151::h 152::h 153::h 154::h 155::h 156::h 157::h 158::h 159::h 160::h 161::h 162::h 163::h 164::h 165::h 166::h 167::[]):=R
theorem qd(h:J y=155):∃f:Vu,y=(f 13::f 14::f 15::f 16::f 17::f 18::f 19::f 20::f 21::f 22::f 23::f 24::f 25::f 26::f 27::f 28::f 29::f 30::f 31::f 32::f 33::f 34::f 35::f 36::f 37::f 38::f 39::f 40::f 41::f 42::f 43::f 44::f 45::f 46::f 47::f 48::f 49::f 50::f 51::f 52::f 53::f 54::f 55::f 56::f 57::f 58::f 59::f 60::f 61::f 62::f 63::f 64::f 65::f 66::f 67::f 68::f 69::f 70::f 71::f 72::f 73::f 74::f 75::f 76::f 77::f 78::f 79::f 80::f 81::f 82::f 83::f 84::f 85::f 86::f 87::f 88::f 89::f 90::f 91::f 92::f 93::f 94::f 95::f 96::f 97::f 98::f 99::f 100::f 101::f 102::f 103::f 104::f 105::f 106::f 107::f 108::f 109::f 110::f 111::f 112::f 113::f 114::f 115::f 116::f 117::f 118::f 119::f 120::f 121::f 122::f 123::f 124::f 125::f 126::f 127::f 128::f 129::f 130::f 131::f 132::f 133::f 134::f 135::f 136::f 137::f 138::f 139::f 140::f 141::f 142::f 143::f 144::f 145::f 146::f 147::f 148::f 149::f 150::f 151::f 152::f 153::f 154::f 155::f 156::f 157::f 158::f 159::f 160::f 161::f 162::f 163::f 164::f 165::f 166::f 167::[]):=by have e:=zY Uj y 13 (λi=>y.getD (i-13) Su) (λi a=>by simp[a]);rw[h]at e;exact⟨λi=>y.getD (i-13) Su,G e<|Lw⟩
structure QE where
 j:N
 tl:Wo
theorem QK{V:Yt}(bc){Lc X_ u R_}{N_ S_:List ag}{o}{d:Vr}{U_}(ia:Uy)(ic){c0 c2 c4 c5 c6 c7 M c9:Uj}(hQ:Q (∀c (a1:Act) t_ z w,V (.panic c) (a1.put (S t_) z) w->V (.panic c) a1 w))(hB:g<=Z w.1)(hc:Q (Xf w Lc X_ p l))(a5:Q (i=J l))(af:Q (i=n))(a2:X_<=Z w.1)(bt:u<B)(a0:Q (∀W,Sw (Z w.1) w W->E W (A m<|k+u*6+1)=S (X ia (J d) ic)/\YY W bc g ia d))(ba:Q (∀a9∈d,(∀z∈Iw a9,0<=z/\z<n)/\(∀z∈BW a9,0<=z/\z<n)))(bv:J d<=1048576)(a6:∀(y:Wo)(r:Ub),J y=155->Q (Oz w r (n:I) (S ⟨m,k,U⟩) B c T R_ a A_ N_ S_ h H_ o ((d.map<|ZR l).take (J d)) U_)->V (.exit 2) ⟨(c0::X p i j::c2::Hn (Z w.1)::c4::c5::c6::c7::M::c9::H u::Hn o::H ((J d:N):I)::y).toArray,[]⟩ r){wr}(C:J y=155)(v:Q (Oz w wr (n:I) (S ⟨m,k,U⟩) B c T R_ a A_ N_ S_ h H_ o ((d.map<|ZR l).take 0) U_)):
 Code.wp prog (Code.loop Nb) V ⟨(c0::X p i j::c2::Hn (Z w.1)::c4::c5::c6::c7::M::c9::H u::Hn o::H ((0:N):I)::y).toArray,[]⟩ wr:=by
 have HX:=Y a6;clear a6;have br:(0:I)<=u:=O;have bx:(u:I)<B:=O;refine iY (λO_ wr=>∃P:QE,O_=⟨(c0::X p i j::c2::Hn (Z w.1)::c4::c5::c6::c7::M::c9::H u::Hn o::H ((P.j:N):I)::P.2).toArray,[]⟩/\J P.2=155/\P.j<=J d/\Q (Oz w wr n (S ⟨m,k,U⟩) B c T R_ a A_ N_ S_ h H_ o ((d.map<|ZR l).take P.j) U_)) (λO_ _=>J d-(JB<|O_.1.getD 12 Su).toNat) ⟨⟨0,y⟩,R,C,aN,v⟩ ?_;clear C;rintro O_ wr⟨⟨b,y⟩,rfl,C,hj,HQ⟩;dsimp only at C hj HQ |-
 conv=>arg 2;whnf
 obtain⟨bq,rfl⟩:=qd C;clear C;let⟨b3,xv,x⟩:=HQ.o;have f:=Y x;clear f;let⟨k1,bh⟩:=a0 wr x.s.1;have f1:Cl wr (Z w.1) 1 (Hm m k B c):=ZY x.s.2 R;by_cases aj:b<J d;rotate_left
 .have bi:¬(b:I)<J d:=O;have bl:b=J d:=O;subst bl;go_wp2_with fail
  exact HX _ _ R HQ
 have bi:(b:I)<J d:=O
 obtain⟨e,q,rfl,⟨_,b0⟩,be⟩:=bh b aj;have HJ:Q ((d.map<|ZR l).take (b+1)=(d.map<|ZR l).take b++[ZR l d[b]]):=Y (by rw[bN<|by simpa using aj];simp)
 have aa:Q (J ((d.map<|ZR l).take b)=b):=Y (by rw[dH,bK];omega);have Z_:=Y<|ba.o _ (aH aj);generalize d[b]=t at*;let⟨g0,g1,g2,g3,g4⟩:=be;let⟨I_,J_,a8⟩:=x.5.form;rw[aa.o]at a8;subst a8;have L_:=Y x;have x0:Cl wr o 0 (X I_ b J_):=ZY x.2 R;have M_:Q (∀W,Bx W (Z w.1) #[H n,Hm m k B c] 45->Sw (Z w.1) w W->E W (A (Z w.1) 1)=S (Hm m k B c)/\E W (A m<|k+u*6+1)=S (Hm e q (J d) ic)/\E W (A e<|q+b*5)=S (H t.1)/\E W (A e<|q+b*5+1)=S (H t.2)/\E W (A e<|q+b*5+2)=S (H t.a)/\E W (A e<|q+b*5+3)=S (H t.b)/\E W (A e<|q+b*5+4)=S (H t.5)):=Y (λW hF hW=>by
  have j:=λL=>G (hW.cell (p:=A e L) (show e<Z w.1 by omega)) (L_.s.1.cell (p:=A e L) (show e<Z w.1 by omega)).symm
  exact⟨ZY hF R,(a0 W hW).1,G (j _) g0,G (j _) g1,G (j _) g2,G (j _) g3,G (j _) g4⟩)
 have ac:=Y<|L_.calm (dC (Z wr.1) wr).drew;have ar:=Y<|hc.keep (ac.s.1.mono a2);have a3:X_<=Z wr.drew.1:=aJ a2 L_.s.1.4;have az:Q (dB t.1=So->0<=t.2/\t.2<i):=Y (λv=>by have:=Z_.2 t.2 (by simp[BW,v]);rw[af.o];exact this);have ap:Q (aB t.1=So->0<=t.a/\t.a<i):=Y (λv=>by have:=Z_.1 t.a (by simp[Iw,v]);rw[af.o];exact this);have aq:Q (bB t.1=So->0<=t.b/\t.b<i):=Y (λv=>by have:=Z_.1 t.b (by simp[Iw,v]);rw[af.o];exact this);have b1:=L_.s.1.4;clear x;go_wp2;refine Y7 (λr=>E r (A (Z w.1) 1)=S (Hm m k B c)/\E r (A m<|k+u*6+1)=S (Hm e q (J d) ic)/\E r (A e<|q+b*5)=S (H t.1)/\E r (A e<|q+b*5+1)=S (H t.2)/\E r (A e<|q+b*5+2)=S (H t.a)/\E r (A e<|q+b*5+3)=S (H t.b)/\E r (A e<|q+b*5+4)=S (H t.5)) λig=>?_;refine X0 0 ?_;refine X0 2 ?_;refine X0 3 ?_;refine X0 4 ?_;refine X0 5 ?_;refine X0 6 ?_;refine X0 7 ?_;refine X0 8 ?_;refine X0 9 ?_;refine X0 10 ?_;refine X0 11 ?_;refine eS (rs:=[1,12]) vZ sP ?_;refine(bQ R (λK hK=>?_) (bQ R (λK hK=>?_) dY))
 focus
  go_simp;refine hK _ _ kP λig=>?_;clear hK
  refine Xs 12 λK hK=>?_;go_simp
  go_at_call 53
  refine YU (yL ar a5 a3 az ap aq ) λs F=>?_;have f:=Y<|ac.calm F;have s1:=M_ s f.s.2 f.s.1;have V_:Cl s o 0 (X I_ b J_):=ZY f.2 R;have x2:=λL=>G (bP s L (A o 0) f.2.lt) V_;clear F;dsimp only;refine hK _ _ s1 λig=>?_;clear hK;refine Xs 13 λK hK=>?_;go_simp;refine hK _ _ kP λig=>?_;clear hK
 rotate_left
 focus
  go_simp
  go_at_call 53
  refine YU (yL ar a5 a3 az ap aq ) λs F=>?_;have f:=Y<|ac.calm F;have s1:=M_ s f.s.2 f.s.1;have V_:Cl s o 0 (X I_ b J_):=ZY f.2 R;have x2:=λL=>G (bP s L (A o 0) f.2.lt) V_;clear F;dsimp only;refine hK _ _ s1 λig=>?_;clear hK
  refine eS (rs:=[1,13]) vZ sP ?_;refine(bQ R (λK hK=>?_) (bQ R (λK hK=>?_) dY))
  focus
   go_simp;refine hK _ _ kP λig=>?_;clear hK
   refine Xs 13 λK hK=>?_;go_simp;refine hK _ _ kP λig=>?_;clear hK
  rotate_left
  focus
   go_simp;refine hK _ _ kP λig=>?_;clear hK
   refine Xs 1 λK hK=>?_;go_simp;refine hK _ _ kP λig=>?_;clear hK
 all_goals (
  have ab:=Y<|f.calm (Xb (dC (Z s.1) s) (Sc #[H (ZR l t).1,H (ZR l t).2,H (ZR l t).a,H (ZR l t).b,H (ZR l t).5] 62));refine Xs 14 λK hK=>?_;refine YD RB (by have:=ab.5.1;rw[aa.o]at this;exact this) (XE<|World.alloc_heap_new _ _) (by intro b4 hu;simp at hu;obtain rfl|rfl|rfl|rfl|rfl:=hu<;>rfl) ?_ (hs:=by have:=f.s.1.4;simp;omega)
  intro v8 w8 al a7 _ a4;let⟨bp,P_,ao,ad⟩:=ab.push [ZR l t] a7 (by rw[aa.o];exact al) a4;obtain⟨g8,M,rfl,_,_⟩:=Xm al O;have s8:=M_ w8 ad.2 ad.1;have s9:=M_ _ P_.s.2 P_.s.1;have k0:Cl w8 o 0 (X I_ b J_):=ZY ao R;have kz:=Bx.thaw ao;have bb:Q (Oz w (Se w8 (A o 0) (Hl g8 (b+1) M)) n (S ⟨m,k,U⟩) B c T R_ a A_ N_ S_ h H_ o ((d.map<|ZR l).take (b+1)) U_):=Y ⟨bp,_,by rw[HJ.o];exact P_⟩;clear al a7 a4 P_ ao ad x0 V_ x2 f;refine hK _ _ s8 λig=>?_;clear hK;refine X0 15 ?_;refine Xs 16 λK hK=>?_;go_simp;refine hK _ _ s9 λig=>?_;clear hK;refine Yq ?_;clear ig k0 kz s8 s9;go_wp2;refine⟨⟨⟨b+1,_⟩,R,R,(by show b+1<=J d;omega),bb⟩,SA⟩)
theorem rP(b):∀(a:Wi)(i k:N)(h:k<J a),b∈a[k].3.tg->((i+k:N):I)∈AQ a i b
 |[],_,_,h,_=>Sz h sP
 |x::a,i,k,h,hb=>by
  rw[AQ,bU];cases k with
  |zero=>left;simp only[eM]at hb;simp[hb]
  |succ k=>
   right;have:=rP b a (i+1) k SI (by simpa using hb);rwa[show i+1+k=i+(k+1) by omega]at this
theorem m8(a):J (dp a)<=128:=by
 by_cases b:bw a=So
 .let⟨c,d⟩:=rK b;unfold dp;rw[aU b];refine aJ (oC _ _) ?_;have:J (bu a)<=J a:=fJ _ _;omega
 unfold dp;rw[aM b];exact aN
structure QI where
 b:N
 sv:Uj
 tl:Wo
theorem An(h:J y=157):∃a d:Uj,∃c,y=a::d:: c/\J c=155:=by
 match y,h with
 |a::b::y,h=>exact⟨a,b,y,R,SI⟩
structure QJ(w:Ub)(V:N)(gb ob n:N)(xs:Wi)(L B:N)(b:N)(X_:Xe)(ia:Uy)(ic:N):Prop where
 kw:∀W,Sw (Z w.1) w W->(E W ⟨gb,ob+b*6+1,U⟩=S (X ia (J X_.2) ic)/\YY W L B ia X_.2)/\E W ⟨gb,ob+b*6+2,U⟩=S (Si S6 X_.3.1)/\E W ⟨gb,ob+b*6+2+1,U⟩=S (Si S6 X_.3.a)/\E W ⟨gb,ob+b*6+2+2,U⟩=S (Si S6 X_.3.3)/\E W ⟨gb,ob+b*6+2+3,U⟩=S (Si S6 X_.3.4)
 oi:∀y∈X_.2,(∀v∈Iw y,0<=v/\v<V)/\(∀v∈BW y,0<=v/\v<V)
 ln:J X_.1<=1048576/\J X_.2<=1048576
 kd:1<=X_.3.1/\X_.3.1<=3
 rt:∀v∈Id X_.3,0<=v/\v<V
 pr:∀t:I,t∈X_.3.tg->(0<=t/\t<J xs)/\(b:I)∈AQ xs 0 t
theorem MR(ha:Xp w k B p x)(q:B<=Z w.1)(d:Jy m x)(u:∀o∈x,J o.1<=1048576/\J o.2<=1048576)(a:g<J x):∃b e f h,p=S (A b e)/\b<Z w.1/\QJ w m b e n x k B g x[g] f h:=by obtain⟨b,e,rfl,⟨_,z⟩,r⟩:=ha g a;let⟨A_,C,f,h,_,e1,⟨e2,e3,e4,e5⟩,_,s⟩:=r;refine⟨b,e,f,h,R,O,λW i=>?_,λy l=>⟨d.5 _ (aH a) y l,d.6 _ (aH a) y l⟩,u _<|aH a,d.4 _<|aH a,d.7 _<|aH a,λt j=>⟨d.1.3 _ (aH a) t j,by have:=rP t x 0 g a j;simpa using this⟩⟩;have c:=λv=>i.cell (p:=A b v) (show b<Z w.1 by omega);exact⟨⟨G (c _) e1,s.keep<|i.mono q⟩,G (c _) e2,G (c _) e3,G (c _) e4,G (c _) e5⟩
theorem QL{bv:Yt}{Lc Bc C}{c0 c2 c4 c5:Uj}(hQ:Q (∀c (p:Act) t_ v_ w,bv (.panic c) (p.put (S t_) v_) w->bv (.panic c) p w))(ha:Q (Xp w k B p x))(L:Q (m=J x))(hB:B<=Z w.1)(ho:Q (Jy n x))(b4:Q (∀M∈x,J M.1<=1048576/\J M.2<=1048576))(hc:Q (Xf w Lc Bc P l))(ba:Q (i=J l))(bh:Q (i=n))(bf:Bc<=Z w.1)(dc:∀(A_:Uj)(y:Wo)(w':Ub),J y=157->Q (PQ w w' (n:I) p m c T C A_ (ae l x m).1 (ae l x m).2)->bv (.exit 0) ⟨(c0::X P i j::c2::Hn (Z w.1)::c4::c5::a::Hn C::H m::A_::H ((m:N):I)::y).toArray,[]⟩ w'){wr}(hl:J y=157)(N_:Q (PQ w wr (n:I) p m c T C A_ (ae l x 0).1 (ae l x 0).2)):
 Code.wp prog (Code.loop Ao) bv ⟨(c0::X P i j::c2::Hn (Z w.1)::c4::c5::a::Hn C::H m::A_::H ((0:N):I)::y).toArray,[]⟩ wr:=by
 have O_:=Y dc;clear dc;have fs:m<=1000:=oP L.o ho.1.2;refine iY (λa' wr=>∃M:QI,a'=⟨(c0::X P i j::c2::Hn (Z w.1)::c4::c5::a::Hn C::H m::M.2::H ((M.b:N):I)::M.3).toArray,[]⟩/\J M.3=157/\M.b<=m/\Q (PQ w wr n p m c T C M.2 (ae l x M.b).1 (ae l x M.b).2)) (λa' _=>m-(JB<|a'.1.getD 10 Su).toNat) ⟨⟨0,A_,y⟩,R,hl,aN,N_⟩ ?_;clear hl;rintro a' wr⟨⟨b,A_,y⟩,rfl,hl,eq,HH⟩;dsimp only at hl eq HH |-
 conv=>arg 2;whnf
 obtain⟨fa,fb,e9,rfl,bi⟩:=An hl;obtain⟨en,rfl⟩:=qd bi;clear hl bi;by_cases et:b<m;rotate_left
 .have fe:¬(b:I)<m:=O;have ep:b=m:=O;subst ep;go_wp2_with fail
  exact O_ _ _ _ R HH
 have b0:b<J x:=oN L.o;have fr:(b:I)<m:=O;have fc:(0:I)<=b:=O;obtain⟨F,t,ia,ic,rfl,fq,db⟩:=MR (n:=m) ha hB ho b4 b0;have aj:=Y db;have ei:=Y<|ou l x b b0;have br:=Y<|ll l x b (dU b0);have c9:=Y<|oz l x b (dU b0);obtain⟨V,Z_,U_,V_,hS,dj⟩:=HH.o;have al:=Y dj;have HS:=Y hS;clear hS dj HH db;generalize x[b]=em at*;obtain⟨ps,u,d⟩:=em;obtain⟨⟨k1,_⟩,k2,k3,k4,k5⟩:=aj.1 wr HS.1;dsimp only at k1 k2 k3 k4 k5;have f1:Cl wr (Z w.1) 1 (Hm F t m c):=ZY HS.2 R;have f4:Z w.1<Z wr.1:=HS.2.lt;have er:F<Z wr.1:=O;go_wp2;have da:Q (Oz w (D wr<|Sc #[Hq,H d.1,H d.a,H d.3,H d.4] 60) n (S ⟨F,t,U⟩) m c T C Z_ A_ (ae l x b).1 (ae l x b).2 U_ V_ (Z wr.1) ((u.map<|ZR l).take 0) d):=Y ⟨V,Hq,HS.calm<|Xb Rf _,Bx.new _ _ _,HS.1.4,HS.8 _<|aA,⟨dA,λb h=>by cases h⟩⟩;generalize D wr _=wx at*;clear k1 k2 k3 k4 k5 f1 er;generalize Z wr.1=o at*;refine QK k ia ic (by exact Y λ_ _ _ _ _ N_=>hQ _ _ _ _ _ N_) hB hc ba bh bf et (Y λW_ hW=>(aj.1 W_ hW).1) (Y aj.2) aj.3.2 ?_ (by rfl) da;intro e9 X_ bi a3;obtain⟨en,rfl⟩:=qd bi;rw[aW sP]at a3;clear bi;have z1:E X_ (A o 1)=S (H d.1):=by obtain⟨V,Y_,e⟩:=a3.o;exact ZY e.2 R
 go_upto_if 76 with fail
 clear z1
 go_cut []from 14 to 167 λwx=>Q<|Oz w wx n (S ⟨F,t,U⟩) m c T C Z_ A_ (ae l x b).1 (ae l x b).2 U_ V_ o (u.map<|ZR l) (NN l d)
 case first=>
  by_cases q:d.1=1
  .have b3:(d.1 != 1)=Sn:=by simpa using q
   have W:Q (NN l d=d):=Y (by unfold NN;rw[aU q]);clear q;go_wp2;go_meet;rw[W.o];exact a3
  have b3:(d.1 != 1)=So:=by simpa using q
  obtain⟨V,Y_,e⟩:=a3.o;have eu:=aj.5 d.a (by unfold Id;simp[q]);obtain⟨bb,f5,cv,hv,hq,rfl,fi,fj⟩:=jq (hc.keep<|e.s.1.mono bf) eu.1 (oP ba.o bh.o);have fz:(cv:I)<i:=oN ba.o;have fx:(0:I)<=cv:=O;have y2:E X_ (A o 2)=S (H cv):=by rw[<-hv];exact ZY e.2 R
  have yz:=Bx.thaw e.2;have W:Q (Oz w (Se X_ (A o 2) (H<|Kp l d.a)) n (S ⟨F,t,U⟩) m c T C Z_ A_ (ae l x b).1 (ae l x b).2 U_ V_ o (u.map<|ZR l) (NN l d)):=Y ⟨V,Y_,e.te 2 (Kp l d.a) (by unfold NN;rw[aM q];rfl)⟩;have HV:=Y hv;clear e hv q a3;generalize Kp l d.a=za at*;go_wp2;go_meet;exact W
 have bc:=hcut;clear hcut a3;generalize wc=X_ at*;have cd:Q ((NN l d).1=d.1/\(NN l d).3=d.3/\(NN l d).4=d.4):=Y ⟨R,R,R⟩;have z1:E X_ (A o 1)=S (H d.1):=by obtain⟨V,Y_,e⟩:=bc.o;rw[<-cd.1];exact ZY e.2 R
 go_upto_if 88 with fail
 clear z1
 go_cut []from 14 to 167 λwx=>Q<|Oz w wx n (S ⟨F,t,U⟩) m c T C Z_ A_ (ae l x b).1 (ae l x b).2 U_ V_ o (u.map (ZR l)++(if d.1=1 then NL l x b d.3 else [])) (NN l d)
 case first=>
  by_cases q:d.1=1;rotate_left
  .have b3:(d.1==1)=Sn:=by simpa using q
   have W:Q (u.map (ZR l)++(if d.1=1 then NL l x b d.3 else [])=u.map (ZR l)):=Y (by rw[aM q,fF]);clear q;go_wp2;go_meet;rw[W.o];exact bc
  have b3:(d.1==1)=So:=by simpa using q
  simp only[b3];obtain⟨tq,b8⟩:∃tq:N,d.3=(tq:I):=⟨d.3.toNat,by have:=(aj.6 d.3<|by simp[Yj.tg,q]).1;omega⟩;have b5:=aj.6 d.3 (by simp[Yj.tg,q]);rw[b8]at b5;have c7:Q ((if d.1=1 then NL l x b d.3 else [])=NL l x b tq):=Y (by rw[aU q,b8]);have d0:=Y b5.2;have ey:tq<m:=oP L.o b5.1;obtain⟨V,Y_,e⟩:=bc.o;obtain⟨xa,xc,bo⟩:=e.5.form;rw[bK]at bo;subst bo;have ek:=Y e;have bd:Q (∀W_ dn,Bx W_ (Z w.1) #[H n,Hm F t m c] 45->Bx W_ o #[dn,H (NN l d).1,H (NN l d).a,H (NN l d).3,H (NN l d).4] 60->E W_ (A (Z w.1) 0)=S (H n)/\E W_ (A (Z w.1) 1)=S (Hm F t m c)/\E W_ (A o 3)=S (H tq)):=Y (λW_ dn hF eo=>⟨ZY hF R,ZY hF R,by rw[<-b8,<-cd.2.1];exact ZY eo R⟩);obtain⟨y0,y1,y3⟩:=bd _ _ e.s.2 e.2;have x0:Cl X_ o 0 (X xa (J u) xc):=ZY e.2 R;have cb:=Y λW_ (S_:Sw (Z w.1) w W_)=>sj c j (Y<|ha.keep (S_.mono hB)) L (oN S_.4) ho (Y λM L=>(b4 M L).1) (Y<|hc.keep (S_.mono bf)) ba bh (oN S_.4) ey d0;have bt:=Y<|ek.calm (dC (Z X_.1) X_).drew;clear e b8 q b5 bc;obtain⟨CP,bx⟩:∃CP,CP=NL l x b (tq:I):=⟨_,R⟩;obtain⟨cl,b1⟩:∃cl,cl=J CP:=⟨_,R⟩;have a0:cl<=128:=by rw[b1,bx];exact m8 _
  rw[<-bx,<-b1]at cb;rw[<-bx]at c7;have cx:=Y b1;have ez:=aj.3.2;dsimp only at ez;clear bx b1;go_wp2;refine Y7 (λw'=>E w' (A (Z w.1) 0)=S (H n)/\E w' (A (Z w.1) 1)=S (Hm F t m c)/\E w' (A o 3)=S (H tq)) λig=>?_;refine X0 0 ?_;refine X0 2 ?_;refine X0 3 ?_;refine X0 4 ?_;refine X0 5 ?_;refine X0 6 ?_;refine X0 7 ?_;refine eS (rs:=[1,8]) vZ sP ?_;refine(bQ R (λbe hK=>?_) (bQ R (λbe hK=>?_) dY))
  focus
   go_simp;refine hK _ _ kP λig=>?_;clear hK
   refine Xs 8 λbe hK=>?_;go_simp
   go_at_call 54
   refine(cb _ bt.s.1).mono ?_;rintro h w5⟨v5,rfl,af,ac,Q_⟩;have z:=Y<|bt.calm ac;have s5:=bd _ _ z.s.2 z.2;have x5:Cl w5 o 0 (X xa (J u) xc):=ZY z.2 R;obtain⟨v,K,rfl⟩:∃v K,v5=Hl v cl K:=by
    obtain⟨h,_,_⟩|⟨v,K,h,_⟩:=Vc Q_;·exact Sz h af
    exact⟨v,K,h⟩
   have aq:=Y Q_;clear ac Q_ af;dsimp only;refine hK _ _ s5 λig=>?_;clear hK
  rotate_left
  focus
   go_simp
   go_at_call 54
   refine(cb _ bt.s.1).mono ?_;rintro h w5⟨v5,rfl,af,ac,Q_⟩;have z:=Y<|bt.calm ac;have s5:=bd _ _ z.s.2 z.2;have x5:Cl w5 o 0 (X xa (J u) xc):=ZY z.2 R;obtain⟨v,K,rfl⟩:∃v K,v5=Hl v cl K:=by
    obtain⟨h,_,_⟩|⟨v,K,h,_⟩:=Vc Q_;·exact Sz h af
    exact⟨v,K,h⟩
   have aq:=Y Q_;clear ac Q_ af;dsimp only;refine hK _ _ s5 λig=>?_;clear hK
   refine Xs 1 λbe hK=>?_;go_simp;refine hK _ _ kP λig=>?_;clear hK
  all_goals (
   refine Xs 9 λbe hK=>?_;refine YD (news:=ZP CP) RB (by have:=z.5.1;rw[bK]at this;exact this) ?s2 (l7 _) ?_ (hl:=by rw[iR,cx.o]) (hs:=by exact z.s.1.4)
   case s2=>
    intro dl cw hu;have:=Jj aq hu;cases dl with
    |zero=>simpa [Addr.add]using this
    |succ dl=>simpa [Addr.add]using this
   intro v8 w8 L_ ad a1 ab;obtain⟨a2,R_,ca,a7⟩:=z.push CP ad (by rw[bK,<-cx.o];exact L_) ab;obtain⟨a8,c8,rfl⟩:∃a8 c8,v8=X a8 (J u+cl) c8:=by
    obtain⟨h,N_,_⟩|⟨g,c,h,_⟩:=Vc L_;·exact⟨U,0,by rw[h,N_]⟩
    exact⟨_,_,h⟩
   have s8:=bd _ _ a7.2 ca;have s9:=bd _ _ R_.s.2 R_.2;have k0:Cl w8 o 0 (X xa (J u) xc):=ZY ca R;have kz:=Bx.thaw ca;have el:Q (Oz w (Se w8 (A o 0) (X a8 (J u+cl) c8)) n (S ⟨F,t,U⟩) m c T C Z_ A_ (ae l x b).1 (ae l x b).2 U_ V_ o (u.map (ZR l)++(if d.1=1 then NL l x b d.3 else [])) (NN l d)):=Y ⟨a2,_,by rw[c7.o];exact R_⟩;clear L_ ad a1 ab R_ ca a7 x0 x5 z aq;refine hK _ _ s8 λig=>?_;clear hK;refine X0 10 ?_;refine Xs 11 λbe hK=>?_;go_simp;refine hK _ _ s9 λig=>?_;clear hK;refine Yq ?_;clear ig k0 kz s8 s9;go_wp2
   go_meet;exact el)
 have a4:=hcut;clear hcut bc;generalize wc=X_ at*;obtain⟨IS,ch⟩:∃IS,IS=u.map (ZR l)++(if d.1=1 then NL l x b d.3 else []):=⟨_,R⟩;rw[<-ch]at a4;have dz:=Y ch;clear ch;have z1:E X_ (A o 1)=S (H d.1):=by obtain⟨V,Y_,e⟩:=a4.o;rw[<-cd.1];exact ZY e.2 R
 go_upto_if 103 with fail
 clear z1
 go_cut [9]from 13 to 167 λA_ wx=>Q (O9 w wx n (S ⟨F,t,U⟩) m c T C Z_ A_ (ae l x b).1 U_ o ((ae l x b).2++(Nk l x b ⟨ps,u,d⟩ (J x+J (ae l x b).2)).2) IS (Nk l x b ⟨ps,u,d⟩ (J x+J (ae l x b).2)).1.2)/\Q (A_≠Hq)
 case first=>
  by_cases K_:d.1=2;rotate_left
  .have df:(d.1==2)=Sn:=by simpa using K_
   have HR:Q ((Nk l x b ⟨ps,u,d⟩ (J x+J (ae l x b).2)).1.2=NN l d/\(Nk l x b ⟨ps,u,d⟩ (J x+J (ae l x b).2)).2=[]):=Y (by
    unfold Nk;dsimp only;by_cases q:d.1=1;·rw[aU q];exact⟨R,R⟩
    rw[aM q,aM K_];exact⟨R,R⟩)
   clear K_;go_wp2;go_meet;rw[HR.1,HR.2,fF];obtain⟨V,Y_,e⟩:=a4.o;exact⟨Y ⟨V,Y_,V_,e⟩,al⟩
  have df:(d.1==2)=So:=by simpa using K_
  simp only[df];have co:=aj.6 d.3 (by simp[Yj.tg,K_]);have cp:=aj.6 d.4 (by simp[Yj.tg,K_]);obtain⟨f,b6⟩:∃f:N,d.3=(f:I):=⟨d.3.toNat,O⟩;obtain⟨s,b7⟩:∃s:N,d.4=(s:I):=⟨d.4.toNat,O⟩;rw[b6]at co;rw[b7]at cp;obtain⟨za,ct⟩:∃za,za=Kp l d.a:=⟨_,R⟩;have HZ:Q (O9 w X_ n (S ⟨F,t,U⟩) m c T C Z_ A_ (ae l x b).1 U_ o (ae l x b).2 IS ⟨2,za,(f:I),(s:I)⟩):=Y (by
   obtain⟨V,Y_,e⟩:=a4.o;have h:NN l d=⟨2,za,(f:I),(s:I)⟩:=by unfold NN;rw[aM O,K_,b6,b7,ct]
   rw[h]at e;exact⟨V,Y_,V_,e⟩)
  have HR:Q ((Nk l x b ⟨ps,u,d⟩ (J x+J (ae l x b).2)).1.2=⟨2,za,(ah l x b f (J x+J (ae l x b).2)).1,(ah l x b s ((J x+J (ae l x b).2)+J (ah l x b f (J x+J (ae l x b).2)).2)).1⟩/\(Nk l x b ⟨ps,u,d⟩ (J x+J (ae l x b).2)).2=(ah l x b f (J x+J (ae l x b).2)).2++(ah l x b s ((J x+J (ae l x b).2)+J (ah l x b f (J x+J (ae l x b).2)).2)).2):=Y (by unfold Nk;dsimp only;rw[aM O,aU K_,K_,b6,b7,ct];exact⟨R,R⟩)
  have cz:=Y λW_ (S_:Sw (Z w.1) w W_)=>sj c j (Y<|ha.keep (S_.mono hB)) L (oN S_.4) ho (Y λM L=>(b4 M L).1) (Y<|hc.keep (S_.mono bf)) ba bh (oN S_.4) (oN L.o) (Y co.2);obtain⟨bp,a5⟩:∃CP,CP=NL l x b (f:I):=⟨_,R⟩;obtain⟨ar,a0⟩:∃cl,cl=J bp:=⟨_,R⟩;have fl:ar<=128:=by rw[a0,a5];exact m8 _
  have eb:Q (ar=0->(ah l x b f (J x+J (ae l x b).2)).1=(f:I)/\(ah l x b f (J x+J (ae l x b).2)).2=[]):=Y (λN_=>by have:NL l x b f=[]:=List.length_eq_zero_iff.1 (by rw[<-a5,<-a0];exact N_);unfold ah;rw[aU this];exact⟨R,R⟩)
  have ec:Q (ar≠0->(ah l x b f (J x+J (ae l x b).2)).1=(((J x+J (ae l x b).2):N):I)/\(ah l x b f (J x+J (ae l x b).2)).2=[⟨bp,⟨1,0,(f:I),0⟩⟩]):=Y (λN_=>by
   have:¬NL l x b f=[]:=λh=>N_<|by rw[a0,a5,h];rfl
   unfold ah;rw[aM this,a5];exact⟨R,R⟩)
  have ef:Q (J ((ae l x b).2)<=2001):=Y (by have q:=c9.o;have K_:=m6 l x b f (J x+J (ae l x b).2);have:=L.o;omega)
  rw[<-a5,<-a0]at cz;have ds:=Y a0;clear a5 a0;have c6:=Y λW_ (S_:Sw (Z w.1) w W_)=>sj c j (Y<|ha.keep (S_.mono hB)) L (oN S_.4) ho (Y λM L=>(b4 M L).1) (Y<|hc.keep (S_.mono bf)) ba bh (oN S_.4) (oN L.o) (Y cp.2);obtain⟨bq,a6⟩:∃CP,CP=NL l x b (s:I):=⟨_,R⟩;obtain⟨az,a9⟩:∃cl,cl=J bq:=⟨_,R⟩;have fn:az<=128:=by rw[a9,a6];exact m8 _
  have ed:Q (az=0->(ah l x b s ((J x+J (ae l x b).2)+J (ah l x b f (J x+J (ae l x b).2)).2)).1=(s:I)/\(ah l x b s ((J x+J (ae l x b).2)+J (ah l x b f (J x+J (ae l x b).2)).2)).2=[]):=Y (λN_=>by have:NL l x b s=[]:=List.length_eq_zero_iff.1 (by rw[<-a6,<-a9];exact N_);unfold ah;rw[aU this];exact⟨R,R⟩)
  have ee:Q (az≠0->(ah l x b s ((J x+J (ae l x b).2)+J (ah l x b f (J x+J (ae l x b).2)).2)).1=((((J x+J (ae l x b).2)+J (ah l x b f (J x+J (ae l x b).2)).2):N):I)/\(ah l x b s ((J x+J (ae l x b).2)+J (ah l x b f (J x+J (ae l x b).2)).2)).2=[⟨bq,⟨1,0,(s:I),0⟩⟩]):=Y (λN_=>by
   have:¬NL l x b s=[]:=λh=>N_<|by rw[a9,a6,h];rfl
   unfold ah;rw[aM this,a6];exact⟨R,R⟩)
  have eg:Q (J (((ae l x b).2++(ah l x b f (J x+J (ae l x b).2)).2))<=2001):=Y (by have q:=c9.o;have K_:=m6 l x b f (J x+J (ae l x b).2);have:=L.o;rw[aQ];omega)
  rw[<-a6,<-a9]at c6;have du:=Y a9;clear a6 a9;clear co cp b6 b7 ct K_ a4;obtain⟨V,Y_,V_,e⟩:=HZ.o;have f0:Cl X_ (Z w.1) 0 (H n):=ZY e.s.2 R;have f1:Cl X_ (Z w.1) 1 (Hm F t m c):=ZY e.s.2 R;have z3:Cl X_ o 3 (H f):=ZY e.2 R;have O_:=Y e;go_wp2_with fail
  refine(cz _ e.s.1).mono ?_;rintro h w5⟨v5,rfl,af,ac,Q_⟩;obtain⟨v,K,rfl⟩:∃v K,v5=Hl v ar K:=by
   obtain⟨h,_,_⟩|⟨v,K,h,_⟩:=Vc Q_;·exact Sz h af
   exact⟨v,K,h⟩
  have ap:=Y ac;have aq:=Y Q_;clear e ac Q_ af f0 f1 z3
  go_upto_if 113 with fail
  go_cut [9]from 13 to 167 λA_ wx=>Q (O9 w wx n (S ⟨F,t,U⟩) m c T C Z_ A_ (ae l x b).1 U_ o ((ae l x b).2++(ah l x b f (J x+J (ae l x b).2)).2) IS ⟨2,za,(ah l x b f (J x+J (ae l x b).2)).1,(s:I)⟩)/\Q (A_≠Hq)
  case first=>
   by_cases h0:ar=0
   .have cj:¬(0:I)<ar:=O;have W:=Y<|eb.o h0;have cf:Q (O9 w w5 n (S ⟨F,t,U⟩) m c T C Z_ A_ (ae l x b).1 U_ o (ae l x b).2 IS ⟨2,za,(f:I),(s:I)⟩):=Y ⟨V,Y_,V_,O_.calm ap⟩;clear h0;go_wp2;go_meet;rw[W.1,W.2,fF];exact⟨cf,al⟩
   have cj:(0:I)<ar:=O
   have W:=Y<|ec.o h0;obtain⟨e8,bl,bm⟩:=Xv.fresh (lab:=V) (L:=(4,J (ae l x b).2,0)) ap aq O_.s.1.4 O_.s.8;have z:=Y<|O_.spT ap bm;have cc:=Y bl;obtain⟨sa,sc,bn⟩:∃sa sc,A_=X sa (J (ae l x b).2) sc:=by
    obtain⟨h,N_,_⟩|⟨g,c,h,_⟩:=Vc z.s.s.1.1;·exact Sz h al
    exact⟨_,_,h⟩
   obtain⟨r,ao⟩:∃r,r=J (ae l x b).2:=⟨_,R⟩;have ev:r<=2001:=by rw[ao];have:=ef.o;omega
   rw[<-ao]at bn;have aa:=Y ao;subst bn;have z3:Cl w5 o 3 (H f):=ZY z.2 R;have dk:=z.s.1.4;clear bl bm h0 ao;go_wp2_with (at_builtin;refine YC (n:=J (ae l x b).2) (xs:=NH V_ (ae l x b).2) Qa z.s.s.1.1 ?_ (by rw[<-aa.o];omega))
   intro v8 w8 L_ ad a1 ab;rw[<-aa.o]at L_;obtain⟨a2,R_⟩:=z.side ⟨bp,⟨1,0,(f:I),0⟩⟩ (by rw[<-ds.o];exact cc) ad (by rw[<-aa.o];exact L_) (by rw[aO];exact ab);obtain⟨g8,c8,rfl,_,_⟩:=Xm L_ O;have k0:Cl w8 o 3 (H f):=ZY R_.2 R;have kz:=Bx.thaw R_.2;have e1:S6.wrap ((m:I)+((r:I)+1))=(m:I)+((r:I)+1):=by rw[dF];omega
   have e2:S6.wrap ((m:I)+((r:I)+1)-1)=(m:I)+r:=by rw[dF];omega
   have cg:Q (O9 w (Se w8 (A o 3) (H<|(m:I)+r)) n (S ⟨F,t,U⟩) m c T C Z_ (Hl g8 (r+1) c8) (ae l x b).1 U_ o ((ae l x b).2++[⟨bp,⟨1,0,(f:I),0⟩⟩]) IS ⟨2,za,(m:I)+r,(s:I)⟩):=Y ⟨a2,_,_,(R_.te 3 ((m:I)+r) R)⟩;have ce:Q ((Hl g8 (r+1) c8)≠Hq):=Y sP;clear L_ ad a1 ab R_ z3;go_wp2
   go_meet;have cn:(((J x+J (ae l x b).2):N):I)=(m:I)+r:=by have q:=aa.o;have K_:=L.o;omega
   rw[W.1,W.2,cn];exact⟨cg,ce⟩
  obtain⟨HZ,al⟩:=hcut;clear O_ ap aq;generalize wc=w6 at*;generalize u9=A_ at*;obtain⟨V,Y_,V_,e⟩:=HZ.o;have f0:Cl w6 (Z w.1) 0 (H n):=ZY e.s.2 R;have f1:Cl w6 (Z w.1) 1 (Hm F t m c):=ZY e.s.2 R;have z3:Cl w6 o 4 (H s):=ZY e.2 R;have O_:=Y e;go_wp2_with fail
  refine(c6 _ e.s.1).mono ?_;rintro h w5⟨v5,rfl,af,ac,Q_⟩;obtain⟨v,K,rfl⟩:∃v K,v5=Hl v az K:=by
   obtain⟨h,_,_⟩|⟨v,K,h,_⟩:=Vc Q_;·exact Sz h af
   exact⟨v,K,h⟩
  have ap:=Y ac;have aq:=Y Q_;clear e ac Q_ af f0 f1 z3
  go_upto_if 139 with fail
  go_cut [9]from 13 to 167 λA_ wx=>Q (O9 w wx n (S ⟨F,t,U⟩) m c T C Z_ A_ (ae l x b).1 U_ o (((ae l x b).2++(ah l x b f (J x+J (ae l x b).2)).2)++(ah l x b s ((J x+J (ae l x b).2)+J (ah l x b f (J x+J (ae l x b).2)).2)).2) IS ⟨2,za,(ah l x b f (J x+J (ae l x b).2)).1,(ah l x b s ((J x+J (ae l x b).2)+J (ah l x b f (J x+J (ae l x b).2)).2)).1⟩)/\Q (A_≠Hq)
  case first=>
   by_cases h0:az=0
   .have cj:¬(0:I)<az:=O;have W:=Y<|ed.o h0;have cf:Q (O9 w w5 n (S ⟨F,t,U⟩) m c T C Z_ A_ (ae l x b).1 U_ o ((ae l x b).2++(ah l x b f (J x+J (ae l x b).2)).2) IS ⟨2,za,(ah l x b f (J x+J (ae l x b).2)).1,(s:I)⟩):=Y ⟨V,Y_,V_,O_.calm ap⟩;clear h0;go_wp2;go_meet;rw[W.1,W.2,fF];exact⟨cf,al⟩
   have cj:(0:I)<az:=O
   have W:=Y<|ee.o h0;obtain⟨e8,bl,bm⟩:=Xv.fresh (lab:=V) (L:=(4,J ((ae l x b).2++(ah l x b f (J x+J (ae l x b).2)).2),0)) ap aq O_.s.1.4 O_.s.8;have z:=Y<|O_.spT ap bm;have cc:=Y bl;obtain⟨sa,sc,bn⟩:∃sa sc,A_=X sa (J ((ae l x b).2++(ah l x b f (J x+J (ae l x b).2)).2)) sc:=by
    obtain⟨h,N_,_⟩|⟨g,c,h,_⟩:=Vc z.s.s.1.1;·exact Sz h al
    exact⟨_,_,h⟩
   obtain⟨r,ao⟩:∃r,r=J ((ae l x b).2++(ah l x b f (J x+J (ae l x b).2)).2):=⟨_,R⟩;have ev:r<=2001:=by rw[ao];have:=eg.o;omega
   rw[<-ao]at bn;have aa:=Y ao;subst bn;have z3:Cl w5 o 4 (H s):=ZY z.2 R;have dk:=z.s.1.4;clear bl bm h0 ao;go_wp2_with (at_builtin;refine YC (n:=J ((ae l x b).2++(ah l x b f (J x+J (ae l x b).2)).2)) (xs:=NH V_<|(ae l x b).2++(ah l x b f (J x+J (ae l x b).2)).2) Qa z.s.s.1.1 ?_ (by rw[<-aa.o];omega))
   intro v8 w8 L_ ad a1 ab;rw[show J (ae l x b).2+J (ah l x b f (J x+J (ae l x b).2)).2=r by have:=aa.o;rw[aQ]at this;omega]at L_;obtain⟨a2,R_⟩:=z.side ⟨bq,⟨1,0,(s:I),0⟩⟩ (by rw[<-du.o];exact cc) ad (by rw[<-aa.o];exact L_) (by rw[aO];exact ab);obtain⟨g8,c8,rfl,_,_⟩:=Xm L_ O;have k0:Cl w8 o 4 (H s):=ZY R_.2 R;have kz:=Bx.thaw R_.2;have e1:S6.wrap ((m:I)+((r:I)+1))=(m:I)+((r:I)+1):=by rw[dF];omega
   have e2:S6.wrap ((m:I)+((r:I)+1)-1)=(m:I)+r:=by rw[dF];omega
   have cg:Q (O9 w (Se w8 (A o 4) (H<|(m:I)+r)) n (S ⟨F,t,U⟩) m c T C Z_ (Hl g8 (r+1) c8) (ae l x b).1 U_ o (((ae l x b).2++(ah l x b f (J x+J (ae l x b).2)).2)++[⟨bq,⟨1,0,(s:I),0⟩⟩]) IS ⟨2,za,(ah l x b f (J x+J (ae l x b).2)).1,(m:I)+r⟩):=Y ⟨a2,_,_,(R_.te 4 ((m:I)+r) R)⟩;have ce:Q ((Hl g8 (r+1) c8)≠Hq):=Y sP;clear L_ ad a1 ab R_ z3;go_wp2
   go_meet;have cn:((((J x+J (ae l x b).2)+J (ah l x b f (J x+J (ae l x b).2)).2):N):I)=(m:I)+r:=by have q:=aa.o;have K_:=L.o;rw[aQ]at q;omega
   rw[W.1,W.2,cn];exact⟨cg,ce⟩
  obtain⟨HZ,al⟩:=hcut;go_wp2;go_meet;rw[HR.1,HR.2,<-cK];exact⟨HZ,al⟩
 obtain⟨HZ,al⟩:=hcut;clear a4;generalize wc=w6 at*;generalize u9=A_ at*;obtain⟨V,Y_,V_,e⟩:=HZ.o;have ea:Q ((Nk l x b ⟨ps,u,d⟩ (J x+J (ae l x b).2)).1=⟨IS,(Nk l x b ⟨ps,u,d⟩ (J x+J (ae l x b).2)).1.2⟩):=Y (by
  rw[dz.o];unfold Nk;dsimp only;by_cases q:d.1=1;·rw[aU q,aU q]
  by_cases K_:d.1=2;·rw[aM q,aM q,aU K_,fF]
  rw[aM q,aM q,aM K_,fF])
 obtain⟨T9,ci⟩:∃T9,T9=(Nk l x b ⟨ps,u,d⟩ (J x+J (ae l x b).2)).1.2:=⟨_,R⟩;rw[<-ci]at e;obtain⟨ma,mc,di⟩:=e.s.m.1.form;rw[br.o]at di;obtain⟨xa,xc,bo⟩:=e.5.form;obtain⟨il,dd⟩:∃il,il=J IS:=⟨_,R⟩;rw[<-dd]at bo;subst di;subst bo;have m1:Cl w6 C 1 (X ma b mc):=ZY e.s.4 R;have y0:Cl w6 o 0 (X xa il xc):=ZY e.2 R;have y1:Cl w6 o 1 (H T9.1):=ZY e.2 R;have y2:Cl w6 o 2 (H T9.a):=ZY e.2 R;have y3:Cl w6 o 3 (H T9.3):=ZY e.2 R;have y4:Cl w6 o 4 (H T9.4):=ZY e.2 R;have O_:=Y e;have dk:=e.s.1.4;have ej:=Y ci;clear e ci dd;go_wp2_with (at_builtin;refine YC (n:=J (ae l x b).1) (xs:=NH U_ (ae l x b).1) Qa O_.s.m.1.1 ?_ (by rw[br.o];omega))
 intro v8 w8 L_ ad a1 ab;obtain⟨a2,a7,cm⟩:=O_.done ad L_ (by rw[aO];exact ab);obtain⟨g8,c8,rfl,_,_⟩:=Xm L_ O;rw[br.o]at a7 |-;have k0:Cl w8 C 1 (X ma b mc):=ZY cm R;have kz:=Bx.thaw cm;have dw:Q (PQ w (Se w8 (A C 1) (Hl g8 (b+1) c8)) n (S ⟨F,t,U⟩) m c T C A_ (ae l x<|b+1).1 (ae l x<|b+1).2):=Y ⟨a2,_,_,_,by rw[ei.o,ea.o,<-ej.o];exact a7,al⟩;clear L_ ad a1 ab a7 cm m1 y0 y1 y2 y3 y4;go_wp2_with fail
 refine⟨⟨⟨b+1,A_,_⟩,R,R,(by show b+1<=m;omega),dw⟩,SA⟩
section
theorem M3{w:Ub}{d}{b:List ag}{kv}{a:Uy}{n c}(p:Sx w d 60 5 (X a n c) (J b) (NH kv b))(o:∀i (x:i<J b),Sx w d 62 5 (kv i) (J b[i].1) (ZP b[i].1)):d7 w d (Z w.1) a b:=λi j=>by
 have f:Xv w (λ_=>(0,0,0)) (0,0,0) d 60 5 (X a n c) (J b) (NH kv b):=⟨p,λ_ _=>R⟩;have g:Xv w (λ_=>(0,0,0)) (0,0,0) d 62 5 (kv i) (J b[i].1) (ZP b[i].1):=⟨o i j,λ_ _=>R⟩;let⟨m,v,l⟩:=f.got O;cases l;let⟨r,s,h⟩:=g.form;rw[h]at g;have e:=λt u hq q=>lq (q:=t) (u:=u) f j hq q;refine⟨m,0,R,f.blk.1,r,s,?_,⟨?_,?_,?_,?_⟩,g.inss⟩;·rw[aV];exact e 0 _ O<|by rw[<-h];rfl
 .rw[aV];exact e 1 _ O R
 .rw[aV];exact e 2 _ O R
 .rw[aV];exact e 3 _ O R
 rw[aV];exact e 4 _ O R
theorem rR{b:Type}(f:N->b->Wo):∀(M S_:List b)(k:N),Yu f k (M++S_)=Yu f k M++Yu f (k+J M) S_
 |[],S_,k=>by simp[Yu]
 |m::M,S_,k=>by show f k m++Yu f (k+1) (M++S_)=f k m++Yu f (k+1) M++_;rw[rR f M S_<|k+1,cK,bA,show k+1+J M=k+(J M+1) by omega]
theorem rW{b:Type}(f g:N->b->Wo):∀(S_:List b)(k j:N),(∀i x,f (k+i) x=g (j+i) x)->Yu f k S_=Yu g j S_
 |[],_,_,_=>R
 |x::S_,k,j,h=>by show f k x++Yu f (k+1) S_=g j x++Yu g (j+1) S_;rw[show f k x=g j x from h 0 x,rW f g S_ (k+1) (j+1) λi x=>by rw[show k+1+i=k+(i+1) by omega,show j+1+i=j+(i+1) by omega];exact h _ x]
theorem Mz{iv jv}{M S_:List ag}:NH (λi=>if i<J M then iv i else jv (i-J M)) (M++S_)=NH iv M++NH jv S_:=by unfold NH;rw[rR,aV,rW (λi (x:ag)=>Nf (if i<J M then iv i else jv (i-J M)) x.2) (λi x=>Nf (jv i) x.2) S_ (J M) 0 λi x=>by show Nf (if J M+i<J M then _ else _) _=_;rw[aM O,uB,aV]];rw[show Yu (λi (x:ag)=>Nf (if i<J M then iv i else jv (i-J M)) x.2) 0 M=NH iv M from rQ (iv:=λi=>if i<J M then iv i else jv (i-J M)) λi b=>aU b];rfl
theorem ME{w}{lab:N->N×N×N}{f v K J_}{S_:List ag}{jv}(h:Nh w lab f v K J_ S_ jv):∀u∈NH jv S_,u.oneCell'=So:=by
 intro u j;obtain⟨p,i,rfl⟩:=bR j;have m:=pE jv S_;have b:p/5<J S_:=O;have e:=Xz (sz:=5) (f:=λl (x:ag)=>Nf (jv l) x.2) (λ_ _=>R) 0 S_ (p/5) b (p%5) (dS _ O);rw[show p/5*5+p%5=p by omega,aV]at e;have e2:(Nf (jv<|p/5) S_[p/5].2)[p%5]?=S (NH jv S_)[p]:=by rw[<-e];exact aC i
 let⟨a,c,g⟩:=(h.2 _ b).form;have d:=eN e2;simp only[Nf,cH,eA,lL]at d;obtain q|q|q|q|q:=d<;>rw[q]<;>first|rfl|(rw[g];rfl)
variable{w wr w8:Ub}{lab:N->N×N×N}{V:I}{a:Uy}{n c:N}{k:I}{mb:N}{mv sv v8:Uj}{M S_:List ag}{iv jv:N->Uj}
theorem Om.fin(h:Om w wr lab V a n c k mb mv sv M S_ iv jv)(g:wr.grownBy w8 mv.ownBlock)(K:Sx w8 (Z w.1) 60 5 v8 (J M+J S_) (NH iv M++NH jv S_))(P:v8.ownBlock=mv.ownBlock\/v8.ownBlock=S (Z wr.1)):
 Bx w8 mb #[Si S6 k,mv] 38/\Bx (Se w8 ⟨mb,1,U⟩ v8) mb #[Si S6 k,v8] 38/\Bx (Se w8 ⟨mb,1,U⟩ v8) (Z w.1+1) #[Si S6 0,X U 0 0] 38/\Z w.1+1≠mb /\
 Sw (Z w.1) w (Se (Se (Se w8 ⟨mb,1,U⟩ v8) ⟨Z w.1+1,0,U⟩ (Si S6 k)) ⟨Z w.1+1,1,U⟩ v8)/\∀r t s,v8=X r t s->d7 (Se (Se (Se w8 ⟨mb,1,U⟩ v8) ⟨Z w.1+1,0,U⟩ (Si S6 k)) ⟨Z w.1+1,1,U⟩ v8) (Z w.1) (Z (Se (Se (Se w8 ⟨mb,1,U⟩ v8) ⟨Z w.1+1,0,U⟩ (Si S6 k)) ⟨Z w.1+1,1,U⟩ v8).1) r (M++S_):=by
 let⟨f,T,j⟩:=h.m.1.grow g K P h.8;have o:∀b,lab b=(0,0,0)->lab b≠(1,0,0):=λb e q=>by rw[e]at q;simp at q
 have F:Sw (Z w.1) wr w8:=⟨g.1,g.2,g.3,g.4,λq hq=>g.5 q (aX hq h.1.4) λe=>by have:=(h.m.1.1.lt q e.symm).1;omega⟩;have R_:=h.5;have W:=G (j.2 _ O h.3.lt<|o _ h.9.2.1).2 h.9.2.1;have K_:=G (j.2 _ O h.4.lt<|o _ h.9.2.2).2 h.9.2.2;have v:=h.4.sp j O<|o _ h.9.2.2;have I_:=h.3.sp j O<|o _ h.9.2.1;have C_:=λi m=>(h.m.2 i m).sp j (λb e q=>by rw[e]at q;simp at q);have D_:=λi m=>(h.s.2 i m).sp j (λb e q=>by rw[e]at q;simp at q);have N_:∀b L,f b=L->L≠(0,0,0)->b≠mb:=λb L e d q=>d (by rw[<-e,q];exact K_);have y:∀b L,f b=L->L≠(0,0,0)->b≠Z w.1+1:=λb L e d q=>d (by rw[<-e,q];exact W);have O_:=XW.put (w:=w8) (lab:=f) (base:=Z w.1) mb 1 v8;have P_:=XW.put (w:=Se w8 (A mb 1) v8) (lab:=f) (base:=Z w.1) (Z w.1+1) 0 (H k);have Q_:=XW.put (w:=Se (Se w8 (A mb 1) v8) (A (Z w.1+1) 0) (H k)) (lab:=f) (base:=Z w.1) (Z w.1+1) 1 v8;have p:∀{L:N×N×N}{C z x:N}{B:Uj}{u:Wo},L≠(0,0,0)->Xv w8 f L (Z w.1) C z B x u->Xv (Se (Se (Se w8 (A mb 1) v8) (A (Z w.1+1) 0) (H k)) (A (Z w.1+1) 1) v8) f L (Z w.1) C z B x u:=λd h=>((h.sp O_ λb e=>N_ b _ e d).sp P_ λb e=>y b _ e d).sp Q_ λb e=>y b _ e d;refine⟨v,v.set 1 v8,I_.other λe=>O,O,(((h.1.trans F).setCell (p:=A mb 1) (by show Z w.1<=mb;omega) _).setCell (p:=A (Z w.1+1) 0) sP _).setCell (p:=A (Z w.1+1) 1) sP _,?_⟩;rintro r t s rfl;have e1:J (M++S_)=J M+J S_:=aQ;refine M3 (kv:=λi=>if i<J M then iv i else jv (i-J M)) (n:=t) (c:=s) ?_ λi m=>?_;·rw[Mz,e1];exact(p sP T).1
 by_cases l:i<J M
 .simp only[aU l,fA l];exact(p sP<|C_ i l).1
 simp only[aM l,fN<|Nat.le_of_not_lt l];exact(p sP<|D_ (i-J M) O).1
theorem Mx{V a n c b ap B t s K d Lc C k w}(ha:Q (Xp w ap B a b))(z:Q (n=J b))(hB:B<=Z w.1)(L:Q (Jy V b))(a2:Q (∀aa∈b,J aa.1<=1048576/\J aa.2<=1048576))(hc:Q (Xf w Lc C t d))(a0:Q (s=J d))(az:Q (s=V))(ar:C<=Z w.1)(hk:1<=k/\k<=64)(P:Q (∀W,Sw (Z w.1) w W->Sk prog 52 #[Sa #[H V,X a n c],X t s K,H k] W λe o=>e=Rt (Sb So)/\Sw (Z W.1) W o)):
 Sk prog 23 #[Sa #[H V,X a n c],X t s K,H k] w λe o=>∃T vc,e=Rt (Sa #[H k,X T (J (NK d b)) vc])/\Sw (Z w.1) w o/\d7 o (Z w.1) (Z o.1) T (NK d b):=by
 have h1:¬k<1:=O;have h2:¬64<k:=O;have bc:n<=1000:=oP z.o L.1.2
 go_in
 go_wp2_with fail
 refine YU (P _<|Xb (Xb Rf _) _) λf q=>?_;have hF:=((Bx.new w #[H V,X a n c] 45).box _).keep (q.5 _<|by simp;omega);have u:=(by have:=Bx.new (D w<|Sc #[H V,X a n c] 45) #[H 0,Hq] 38;rw[aO]at this;exact this.keep<|q.5 _ sP);have hz:=u.lt;have bf:Z w.1<Z f.1:=O;have D_:=Y<|Xg (Xb (Xb (dC (Z w.1) w) _) _) q;have f1:Cl f (Z w.1) 1 (X a n c):=ZY hF R;have F_:Q (PQ w (D (D f<|Sc #[H k,Hq] 38) (Sc #[] 60)) (V:I) a n c k (Z f.1) (Hl (Z f.1+1) 0 0) (ae d b 0).1 (ae d b 0).2):=Y (by
  refine⟨λY_=>if Y_=Z f.1+1 then (2,0,0)else (0,0,0),Hq,λ_=>Hq,λ_=>Hq,⟨D_.trans<|(Xb (Xb Rf _) _).mono D_.4,(hF.box _).box _,(u.box _).box _,(Bx.new _ _ _).box _,hz,Nh.nil,⟨⟨?_,λaq e=>?_⟩,λbh l=>Sz l<|wA _⟩,λY_ hq=>aM (by simp at hq;omega),aM O,aM O,aM O⟩,sP⟩
  .have:=eI (base:=Z w.1) (e:=60) (size:=5) (D f<|Sc #[H k,Hq] 38) #[] 0 SB sP R;rw[aO]at this;exact this
  have:aq=Z f.1+1:=by injection e with e;exact e.symm
  exact aU this)
 clear q hF u P;go_wp2;clear f1;generalize D (D f _) _=w2 at*;generalize Z f.1=mb at*;have a4:=z.o;refine QL (by exact Y λ_ _ _ _ _ l=>l) ha z hB L a2 hc a0 az ar ?_ (by rfl) F_;intro sv tl w3 O_ E_;obtain⟨a9,ba,bi,rfl,P_⟩:=An O_;obtain⟨bb,rfl⟩:=qd P_;clear F_ O_ P_;let⟨lab,mv,iv,jv,j,T_⟩:=E_.o;have G_:=Y<|ll d b n O;have I_:=Y<|oz d b n O;have af:Q (NK d b=(ae d b n).1++(ae d b n).2):=Y (by unfold NK;rw[<-a4]);generalize (ae d b n).1=M at*;generalize (ae d b n).2=S_ at*;obtain⟨U_,X_,rfl⟩:=j.m.1.form;let⟨i,c2,e⟩:∃i c2,sv=Hl i (J S_) c2:=by
  obtain⟨e,_,_⟩|⟨i,c,e,_,_⟩:=Vc j.s.1.1;·exact Sz e T_
  exact⟨i,c,e⟩
 subst e;have m1:Cl w3 mb 1 (X U_ (J M) X_):=ZY j.4 R;have p:=Y j;have be:=j.1.4;clear j T_ E_;have al:Q (∀(m:N)(F:Uj),(NH jv S_)[m]?=S F->E w3 (((A i 0):Addr).add m)=S F):=Y (by
  intro m F hu;have:=Jj p.s.1.1 hu;cases m with
  |zero=>simpa [Addr.add]using this
  |succ m=>simpa [Addr.add]using this)
 have ao:=Y<|ME p.s;have ad:=Y<|pE jv S_;go_wp2_with (at_builtin;refine YB (n:=J M) (xs:=NH iv M) Qa p.m.1.1 al ao ?_ (hl:=by exact ad) (hb:=by have:=G_.o;have:=I_.o;omega))
 intro v8 w8 y N_ a3 K_;let⟨v,x,r,bd,Q_,L_⟩:=p.fin N_ y K_;obtain⟨g,h,rfl⟩:∃g h,v8=X g (J M+J S_) h:=by
  obtain⟨e,l,_⟩|⟨i,c,e,_⟩:=Vc y;·exact⟨U,0,by rw[e,l]⟩
  exact⟨_,_,e⟩
 have k0:Cl w8 mb 1 (X U_ (J M) X_):=ZY v R;have kz:=Bx.thaw v;have aj:=Y Q_;have ab:=Y<|L_ _ _ _ R;have q0:E (Se w8 (A mb 1) (X g (J M+J S_) h)) (A mb 0)=S (H k):=ZY x R;have q1:E (Se w8 (A mb 1) (X g (J M+J S_) h)) (A mb 1)=S (X g (J M+J S_) h):=ZY x R;have r0:E (Se w8 (A mb 1) (X g (J M+J S_) h)) (A (Z w.1+1) 0)=S (H 0):=ZY r R;have r1:E (Se w8 (A mb 1) (X g (J M+J S_) h)) (A (Z w.1+1) 1)=S Hq:=ZY r R;have rz:=Bx.thaw r;clear v x r Q_ L_ y N_ a3 K_ m1;go_wp2_with fail
 refine YL (v:=Sa #[H k,X g (J M+J S_) h]) ?_;rw[af.o,aQ];exact⟨_,_,R,aj,ab⟩
end
