import Derived.Test.YtffcajcgkblkoaaGreatDoorDFP
import Derived.Lib.AppendZerosOnto
import Derived.Lib.Walk
import Derived.Lib.SliceRun
import Derived.Deep.LoopGhost
import Derived.WalkMore
import Derived.Deep.QuietTactic
namespace Go.Proofs.YtffcajcgkblkoaaGreatDoor
set_option maxHeartbeats 4000000
set_option maxRecDepth 100000
open Go.RowKit Go.Proofs.Tryz
variable{r:Bool}{t T z:Int}{l L:List Int}{s:List Nat}{y:List Value}{x:List Xe}{n m k B g i:Nat}{f F:Nat->Nat}{M:Nat->Nat->Nat}{d:Nat->Prop}{h:Nat->Value}{p:Option Addr}{a:Value}{w v u:World}{q:Xe}
def XR(w:World)(L B:Nat)(d:Option Addr)(a:List (List Int)):Prop :=
 ∀i (h:i<a.length),∃b o,d=some ⟨b,o,none⟩/\(L<=b/\b<B)/\∃c e,w.cell? ⟨b,o+i,none⟩=some (.slice c a[i].length e)/\Xf w L B c a[i]
theorem XR.keepS{c:List (List Int)}(h:XR w n m p c)(k:YA n m w v):XR v n m p c:=λl j=>by
 let⟨b,o,f,a,d,e,g,i⟩:=h l j;exact⟨b,o,f,a,d,e,(Xc<|k b a.1 a.2).trans g,i.keepS k⟩
theorem XR.keep{w':World}{a:List (List Int)}(h:XR w n B p a)(k:Below B w w'):XR w' n B p a:=h.keepS<|YA.of_below k
theorem XR.mono{a:List (List Int)}(h:XR w n m p a)(o:k<=n)(l:m<=B):XR w k B p a:=λj i=>by
 let⟨b,q,e,r,c,d,f,g⟩:=h j i;exact⟨b,q,e,oM,c,d,f,g.mono o l⟩
def YT(w:World)(G n:Nat)(P:Nat->List Int)(U:Nat->Value):Prop :=
 w.rowIs G 27 n U/\(∀i,i<n->w.ownsRow (G+1) 2 1 (U i) (P i).length ((P i).map (Value.int .i64)))/\(∀i j,i<n->j<n->i≠j->(U i).ownBlock=none\/(U i).ownBlock≠(U j).ownBlock)
theorem YT.alloc{P:Nat->List Int}(a:YT w n m P h)(o:Obj):YT (w.alloc o) n m P h:=⟨a.1.alloc o,λi b=>(a.2.1 i b).alloc o,a.2.2⟩
theorem YT.below{P:Nat->List Int}(a:YT w n m P h)(k:Below w.heap.size w v):YT v n m P h:=by
 refine⟨a.1.of_block<|k.block _ a.1.lt,λi d=>?_,a.2.2⟩;refine(a.2.1 i d).kept (row:=none) ⟨k.os,k.tape,k.output,k.size,λb c _=>k.block b c⟩ ?_;cases (h i).ownBlock<;>simp
theorem YT.congr{P P':Nat->List Int}(a:YT w n m P h)(e:∀i,i<m->P i=P' i):YT w n m P' h :=
 ⟨a.1,λi b=>by rw[<-e i b];exact a.2.1 i b,a.2.2⟩
theorem YT.step{P:Nat->List Int}(a:YT w n m P h)(s:k<m)(x:Int)(d:Value)(r:w.grownBy v (h k).ownBlock)
 (u:v.ownsRow (n+1) 2 1 d ((P k).length+1) ((P k).map (Value.int .i64)++[.int .i64 x])) (p:d.ownBlock=(h k).ownBlock\/d.ownBlock=some w.heap.size) :
 YT (v.setCell ⟨n,k,none⟩ d) n m (λi=>if i=k then P k++[x]else P i) (λi=>if i=k then d else h i):=by
 have y:=a.1.of_block (r.block _ a.1.lt λe=>by have:=((a.2.1 k s).lt _ e.symm).1;omega);refine⟨y.set k d,λi b=>?_,λi j b g f=>?_⟩
 .refine ownsRow_setCell_below ?_ (by dsimp only;omega) _;by_cases e:i=k
  .subst e;simp only[gG,aQ,bA,bO,bG,eH,fZ];exact u
  simp only[e,fD];exact(a.2.1 i b).kept r (a.2.2 i k b s e)
 have fresh:∀c,c<m->(h c).ownBlock=none\/(h c).ownBlock≠some w.heap.size:=λc t=>by
  by_cases e:(h c).ownBlock=some w.heap.size;·have:=((a.2.1 c t).lt _ e).2;omega
  exact aZ e
 by_cases e1:i=k
 .subst e1;have e2:¬j=i:=λe=>f e.symm;simp only[gG,e2,fD];rcases p with q|q;·rw[q];exact a.2.2 i j b g f
  right
  rw[q];intro o;rcases fresh j g with l|l;·rw[l]at o;cases o
  exact l o.symm
 simp only[e1,fD];by_cases e2:j=k
 .subst e2;simp only[gG];rcases p with q|q;·rw[q];exact a.2.2 i j b g f
  rw[q];exact fresh i b
 simp only[e2,fD];exact a.2.2 i j b g f
theorem YT.ints{P:Nat->List Int}(a:YT w n m P h):XR w n w.heap.size (some ⟨n,0,none⟩) ((List.range m).map P):=λi b=>by
 simp only[bK,gI]at b;let⟨d,c,e,ha⟩:=Xk<|a.2.1 i b;refine⟨n,0,rfl,⟨aA _,a.1.lt⟩,d,c,?_,?_⟩
 .simp only[cM,dW,aV];rw[a.1.cell b,e]
 simp only[cM,dW];exact ha.mono oM<|aA _
theorem Ny:(prog.info? 27).map (λi=>(i.zero,i.size,i.bytes))=some (some Hq,1,24):=kR
theorem YT.born(w:World)(n:Nat):YT (w.alloc<|.cells (madeCells #[.slice none 0 0] n) 27) w.heap.size n (λ_=>[]) (λ_=>.slice none 0 0) :=
 ⟨dG _ _ _ _,λ_ _=>dA _ _ _ _,λ_ _ _ _ _=>bC rfl⟩
structure bg(t:Nat)(w:World)(G n K:Nat)(gs cp:Nat->Nat)(Ws:Nat->Nat->Nat):Prop where
 row:w.rowIs G t n λi=>.slice (some ⟨gs i,0,none⟩) K (cp i)
 set:∀i,i<n->Bf w (gs i) K (cp i) (Ws i)
 inj:∀i j,i<n->j<n->gs i=gs j->i=j
 o:∀i,i<n->gs i≠G
abbrev Ye(w:World)(G n K:Nat)(a:Nat->Nat):=bg 84 w G n K a λ_=>K
abbrev XK:=bg 59
theorem Np:(prog.info? 84).map (λi=>(i.zero,i.size,i.bytes))=some (some<|.agg #[Hq],1,24):=kR
theorem Nq:(prog.info? 59).map (λi=>(i.zero,i.size,i.bytes))=some (some<|.agg #[Hq],1,24):=kR
theorem J9{P:Program}(t e:TypeId)(z:Value)(size bytes:Nat)(f:P.underlying t=some (.slice e))(c:(P.info? e).map (λi=>(i.zero,i.size,i.bytes))=some (some z,size,bytes))
 (n:Nat) (k:bytes*n<=281474976710656) (j:n<=9223372036854775807) (w:World) :
 (Instr.makeSlice t (.int .i64 (n:Int)) (.int .i64 (n:Int))).run P w=.ok (.slice (some ⟨w.heap.size,0,none⟩) n n) (w.alloc<|.cells (madeCells z.cells<|n*size) e):=by
 let⟨i,b,hq⟩:=Option.map_eq_some_iff.1 c;simp only[jC]at hq;let⟨g,d,a⟩:=hq;have h:=run_make (P:=P) w t e i z f b g .i64 .i64 (n:Int) (n:Int) oM (Int.le_refl _) (by rw[a,<-Int.natCast_mul];omega) oM;simp only[dM,d]at h;exact h
structure j9(t:Nat)(w wr:World)(G n K q:Nat)(gs:Nat->Nat):Prop where
 low:Below w.heap.size w wr
 base:w.heap.size<=G
 row:wr.rowIs G t n λi=>if i<q then .slice (some ⟨gs i,0,none⟩) K K else .slice none 0 0
 set:∀i,i<q->wr.rowIs (gs i) 154 K λ_=>.int .u64 ((0:Nat):Int)
 inj:∀i j,i<q->j<q->gs i=gs j->i=j
 up:∀i,i<q->G<gs i
theorem j9.next{wr:World}(h:j9 n w wr m k B g f)(hq:g<k)(c:Below wr.heap.size wr v)(q:wr.heap.size<=i)(p:v.rowIs i 154 B λ_=>.int .u64 ((0:Nat):Int)) :
 j9 n w (v.setCell ⟨m,g,none⟩ (.slice (some ⟨i,0,none⟩) B B)) m k B (g+1) (λa=>if a=g then i else f a)/\v.cell? ⟨m,g,none⟩=some (.slice none 0 0)/\v.frozen? ⟨m,g,none⟩=false:=by
 have o:=h.row.lt;have l:=h.row.of_block<|c.block m o;have d:=λa b=>(h.set a b).lt;refine⟨⟨(h.low.trans<|c.mono h.low.size).setCell h.base _,h.base,(l.set g _).congr λa _=>?_,λa b=>?_,λa j b r e=>?_,λa b=>?_⟩,(l.cell hq).trans sP,l.frozen g⟩
 .by_cases e:a=g;·subst e;simp
  rw[aM e];by_cases e2:a<g;·rw[aU e2,aU oM];simp[e]
  rw[aM e2,aM oM]
 .by_cases e:a=g;·rw[aU e];exact p.setOther (by show i≠m;omega) _
  rw[aM e];have:=h.up a oM;exact((h.set a oM).of_block (c.block _<|d a oM)).setOther (by show f a≠m;omega) _
 .by_cases e1:a=g
  .by_cases e2:j=g;·rw[e1,e2]
   rw[aU e1,aM e2]at e;have:=d j oM;omega
  by_cases e2:j=g
  .rw[aM e1,aU e2]at e;have:=d a oM;omega
  rw[aM e1,aM e2]at e;exact h.inj a j oM oM e
 by_cases e:a=g
 .show m<if a=g then i else f a
  rw[aU e];omega
 show m<if a=g then i else f a
 rw[aM e];exact h.up a oM
theorem Mn(h fn t e:Nat)(f:(h=81/\fn=86/\t=59/\e=87)\/h=134/\fn=77/\t=84/\e=211)(n d:Nat)(w:World)(E:n<=1000)(B:d<=60000) :
 Calls prog h #[Hp n,Hp d] w λg p=>∃G c,g=.returned (Hl G n n)/\w.heap.size<=G/\Below w.heap.size w p/\bg t p G n ((d+63)/64) c (λ_=>(d+63)/64) (λ_ _=>0)/\(∀i,i<n->w.heap.size<=c i):=by
 have m:∀(_:e=e),_:=λ_=>J9 (P:=prog) e t (.agg #[Hq]) 1 24 (by rcases f with⟨_,_,rfl,rfl⟩|⟨_,_,rfl,rfl⟩;exact underlying87;exact underlying211) (by rcases f with⟨_,_,rfl,rfl⟩|⟨_,_,rfl,rfl⟩;exact Nq;exact Np) n oM oM;replace m:=m rfl;have r:=Xa<|dG w Hq n t;have s:=Xa (λW=>MP fn (by rcases f with j|j<;>simp[j.2.1]) d W B);generalize (d+63)/64=K at*;rcases f with⟨rfl,rfl,rfl,rfl⟩|⟨rfl,rfl,rfl,rfl⟩
 go_in
 rotate_left
 go_in
 rotate_left
 all_goals (
  go_wp2
  go_loopw [11] (λu wr=>∃q:Nat,q<=n/\u=Hp q/\∃c,Hs<|j9 _ w wr w.heap.size n K q c) λu _=>n-(intOf u).toNat
  case atStart=>exact⟨0,aN _,rfl,λ_=>0,Xa ⟨Xb (Below.refl _ _) _,aA _,by simpa [Value.cells]using r.o,λi a=>absurd a oM,λi H a=>absurd a oM,λi a=>absurd a oM⟩⟩
  case round=>
   obtain⟨q,hq,rfl,c,b⟩:=hrel;by_cases z:q<n
   .go_wp2_with fail
    refine(s wr).mono ?_;rintro g I⟨C,rfl,y,l,o⟩;have x:=b.next z l y o;let⟨k,D,F⟩:=x;have v:=Xa k;go_wp2;exact⟨⟨q+1,oM,gM,_,v⟩,by simp[intOf];omega⟩
   have A:q=n:=oM;subst A;go_wp2;go_ret
   refine⟨_,c,rfl,aA _,b.low,⟨b.row.congr λi a=>by rw[aU a],λi a=>Bf.of_row<|b.set i a,b.inj,λi a g=>by have:=b.up i a;omega⟩,λi a=>by have:=b.up i a;omega⟩)
abbrev Th:=@Mn 134 77 84 211<|aZ ⟨rfl,rfl,rfl,rfl⟩
abbrev Ti:=@Mn 81 86 59 87<|bC ⟨rfl,rfl,rfl,rfl⟩
def jf(L a:List Int)(i:Nat):Prop:=a.length=L.length/\∀k (h:k<L.length),a[k]?=some (if k<i\/L.length<=k+i then L[L.length-1-k]else L[k])
theorem BK(L:List Int):jf L L 0:=⟨rfl,λk h=>by rw[aM oM,aC h]⟩
theorem A7(h:jf l L n)(b:l.length<=2*n+1):L=l.reverse:=by
 refine iG λk=>?_;by_cases a:k<l.length
 .rw[h.2 k a,List.getElem?_reverse a,aC oM];split;·rfl
  have e:l.length-1-k=k:=oM;simp only[e]
 rw[dK (by rw[h.1];omega),dK<|by rw[jQ];omega]
theorem Bh(h:jf l L n)(d:2*n+1<l.length)(a:n<L.length)(b:l.length-1-n<L.length):jf l ((L.set n L[l.length-1-n]).set (l.length-1-n) L[n]) (n+1):=by
 refine⟨by rw[bL,bL];exact h.1,λk c=>?_⟩;have e1:=h.2 n oM;have e2:=h.2 (l.length-1-n) oM;rw[aC a,aM oM]at e1;rw[aC b,aM oM]at e2;injection e1 with e1;injection e2 with e2;rw[kG,bL];by_cases c1:l.length-1-n=k
 .subst c1;rw[aU rfl,aU b,aU oM,e1];have e:l.length-1-(l.length-1-n)=n:=oM;simp only[e]
 rw[aM c1,kG];by_cases c2:n=k
 .subst c2;rw[aU rfl,aU a,aU oM,e2]
 rw[aM c2,h.2 k c];by_cases c3:k<n\/l.length<=k+n;·rw[aU c3,aU oM]
 rw[aM c3,aM oM]
theorem TM(g n c B:Nat)(L:List Int)(w:World)(O:n<=1000000)(r:Hs (n=L.length))(D:Hs (w.ownsRow B 2 1 (Hl g n c) n (L.map<|Value.int .i64))) :
 Calls prog 93 #[Hl g n c] w λe s=>e=.returned (.tuple #[])/\w.grownBy s (some g)/\s.ownsRow B 2 1 (Hl g n c) n (L.reverse.map<|Value.int .i64):=by
 go_in
 go_wp2
 go_loopw [2,3] (λu v wr=>∃(i:Nat)(a:List Int),u=Hp i/\v=Hp ((n:Int)-1-i)/\2*i<=n/\Hs (jf L a i)/\Hs (w.grownBy wr<|some g)/\Hs (wr.ownsRow B 2 1 (Hl g n c) n (a.map<|Value.int .i64))) λu _ _=>n-(intOf u).toNat
 case atStart=>exact⟨0,L,rfl,gM,oM,Xa<|BK L,Xa ⟨rfl,rfl,rfl,aA _,λ_ _ _=>rfl⟩,D⟩
 obtain⟨i,a,rfl,rfl,I,d,k,b⟩:=hrel;by_cases N:2*i+1<n
 .have A:=r.o;have C:=d.1;let⟨j,f⟩:∃j:Nat,(n:Int)-1-i=j:=⟨n-1-i,oM⟩;have h:j=L.length-1-i:=oM;have o:i<a.length:=oM;have y:L.length-1-i<a.length:=oM;have z:j<a.length:=oM;have m:=Xa<|Bh d oM o y;have e1:=Jj b (j:=i) (u:=Hp a[i]) (by simp[o]);have e2:=Jj b (j:=j) (u:=Hp a[j]) (by simp[z]);have P:=BJ b;have l:Hs (a[L.length-1-i]=a[j]):=Xa (by simp only[h]);rw[l.o,<-h]at m;have J:i<j:=oM;have M:j<n:=oM;have K:i<n:=oM;have p:(j:Int)-1=(n:Int)-1-(i+1:Nat):=oM;have x:=Xa p;have H:∀v,(wr.setCell (Hk g i) v).cell? (Hk g j)=some (Hp a[j]):=λv=>(XL _ _ oM _).trans e2;clear A C h p l;rw[f];generalize a[i]=F at*;generalize a[j]=G at*;go_wp2;go_region;go_wp2;have E:wr.grownBy ((wr.setCell (Hk g i) (Hp G)).setCell (Hk g j) (Hp F)).drew (some g):=⟨rfl,rfl,rfl,by simp[World.setCell,World.drew],λQ _ q=>(Below.heap_setCell _ _ _ _ λe=>q<|by rw[e]).trans (Below.heap_setCell _ _ _ _ λe=>q<|by rw[e])⟩;refine⟨⟨i+1,_,gM,by rw[x.o],oM,m,Xa (k.andThen E λj f=>by cases f;exact aZ rfl),Xa ?_⟩,by simp[intOf];omega⟩;rw[mN,mN];exact n9 (n9 b _) _
 have t:=Xa<|A7 d (oN r.o);go_wp2
 go_end0
 exact⟨rfl,k,by rw[<-t.o];exact b⟩
theorem vN(b o n c:Nat)(a:List Int)(L B:Nat)(w:World)(s:Hs (Xf w L B (some ⟨b,o,none⟩) a))(t:Hs (n=a.length))(A:n<=1000000000)(q:B<=w.heap.size) :
 Calls prog 119 #[Hm b o n c] w λp j=>∃v,p=.returned v/\Below w.heap.size w j/\v≠Hq/\j.ownsRow w.heap.size 2 1 v a.length (a.map<|Value.int .i64):=by
 let⟨z,r,u,x,y⟩:=fX Nv;have C:∀(w:World)(d:Option Addr)(n c f e:Nat),(binOp .eql 27 (.slice d n c) (.slice none f e)).run prog w=.ok (.bool d.isNone) w:=λw d n c f e=>Lib.run_eql_slice_nil w _ _ d n c f e underlying27
 go_in
 go_wp2_with (at_builtin;refine nG rfl λK hK=>JD _ _ 27 rfl w.heap.size 2 z underlying27 r u x y (Hl w.heap.size 0 0) [] rfl (by simpa using World.ownsRow_lit (base:=w.heap.size) (e:=2) (size:=1) w #[] 0 sP sP rfl) sP (some ⟨b,o,none⟩) n c a L B rfl t (s.keep<|(Xb (Below.refl w.heap.size w) _).mono q) (by simp;omega) sP ?_)
 intro v1 D i g h;have k:=Xa (g.below (by simpa using World.ownsRow_lit (base:=w.heap.size) (e:=2) (size:=1) w #[] 0 sP sP rfl:(w.alloc<|.cells #[] 2).ownsRow w.heap.size 2 1 (Hl w.heap.size 0 0) 0 []) (Xb (Below.refl _ _) _) sP);have m:=Xa i;have l:=Xa h;refine hK _ _ ?_;go_wp2;go_ret;exact⟨_,rfl,k,l,m⟩
def dy(a b:World):Prop:=a=b
theorem xr(n:Nat)(w:World)(o:n<=1000000) :
 Calls prog 133 #[Hq,Hp n] w λi f=>∃v,i=.returned v/\Below w.heap.size w f/\(0<n->v≠Hq)/\f.ownsRow w.heap.size 2 1 v 0 []:=by
 let⟨e,l,m,p,d⟩:=fX Nv;by_cases j:n=0
 .subst j
  go_in
  go_wp2;go_ret;exact⟨_,rfl,Below.refl _ _,λh=>absurd h oM,dA _ _ _ _⟩
 have c:∀b,(Builtin.append_ #[27,3] b #[Hq,Hp n]).run prog w =
  .ok (Hl w.heap.size (0+n) (grownCap w (0+n) 0 2)) (w.drew.alloc<|.cells (([]:List Value).toArray++Builtin.zeroCells (Hp 0).cells n++Builtin.zeroCells (Hp 0).cells (grownCap w (0+n) 0 2 - (0+n))) 2):=λb=>
  Lib.run_append_grow_zeros w 27 3 b 2 e (Hp 0) .i64 .i64 underlying27 underlying3 l m none 0 0 [] (run_firstCells_none w.drew e.size 0 0 0) n oM oM oM oM (by rw[d];omega) (by rw[d];exact growslice_fits oM oM)
 have k:0+n<=grownCap w (0+n) 0 2:=grownCap_ge w _ _ _;have a:=grownCap_le_maxLen w (0+n) 0 2 (by unfold maxLen;omega);rw[aV]at c k a;have g:Hs (∀W:World,(W.alloc<|.cells (([]:List Value).toArray++Builtin.zeroCells (Hp 0).cells n++Builtin.zeroCells (Hp 0).cells (grownCap w n 0 2 - n)) 2).ownsRow W.heap.size 2 1 (Hl W.heap.size 0<|grownCap w n 0 2) 0 []):=Xa (λW=>World.ownsRow_made W _ _ (aA _) a (by simp[size_zeroCells,Value.cells];omega));generalize ([]:List Value).toArray++Builtin.zeroCells (Hp 0).cells n++Builtin.zeroCells (Hp 0).cells (grownCap w n 0 2 - n)=cells at*;generalize grownCap w n 0 2=G at*;unfold maxLen at a
 go_in
 go_wp2_with (at_builtin;refine Lib.wpList_append_run _ rfl _ _ _ _ rfl _ _ rfl rfl _ _ (c _) ?_)
 all_goals (go_ret;exact⟨_,rfl,Xb (Below.refl _ _).drew _,λ_ h=>(by cases h),g w.drew⟩)
theorem Wb(i c c1 e c2:Nat)(p q:Option Addr)(a d:List Int)(y k z l:Nat)(w:World)(T:Hs (Xf w y k p a))(U:Hs (Xf w z l q d))(e1:Hs (c=a.length))(e2:Hs (e=d.length))(aa:c<=1000)(ab:e<=1000)(Y:0<c+e)(V:k<=w.heap.size)(W:l<=w.heap.size)(K:w.cell? (Hk i 0)=some (.slice p c c1))(q1:w.cell? (Hk i 1)=some (.slice q e c2)) :
 Calls prog 120 #[Hl i 2 2] w λA L=>∃v,A=.returned v/\Below w.heap.size w L/\L.ownsRow w.heap.size 2 1 v (a++d).length ((a++d).map (Value.int .i64)):=by
 obtain⟨J,D,G,H,I⟩:=fX Nv;have N:=Xa<|xr (c+e) w oM
 go_in
 go_wp2
 go_loopw [3,11] (λt u wr=>dy wr w/\((t=Hp 0/\u=Hp 0)\/(t=Hp c/\u=Hp 1)\/(t=Hp ((c+e:Nat):Int)/\u=Hp 2))) λ_ u _=>2-(intOf u).toNat
 case atStart=>exact⟨rfl,bC ⟨rfl,rfl⟩⟩
 obtain⟨r,s⟩:=hrel;unfold dy at r;have X:=r.symm;subst X;rcases s with⟨rfl,rfl⟩|⟨rfl,rfl⟩|⟨rfl,rfl⟩
 .go_wp2;exact⟨⟨rfl,aZ<|bC ⟨rfl,rfl⟩⟩,by simp[intOf]⟩
 .go_wp2;exact⟨⟨rfl,aZ<|aZ ⟨gM,rfl⟩⟩,by simp[intOf]⟩
 go_wp2_with fail
 refine N.mono ?_;rintro A w1⟨v,rfl,B,E,F⟩;have M:=Xa B;have R:=Xa F;have Q:=Xa<|E Y;have C:i<w.heap.size:=aI _ _ K;go_wp2
 go_loopw [6,27] (λv u j=>Hs (Below w.heap.size w j)/\Hs (v≠Hq)/\((u=Hp 0/\Hs (j.ownsRow w.heap.size 2 1 v ([]:List Int).length (([]:List Int).map (Value.int .i64))))\/(u=Hp 1/\Hs (j.ownsRow w.heap.size 2 1 v a.length<|a.map (Value.int .i64)))\/(u=Hp 2/\Hs (j.ownsRow w.heap.size 2 1 v (a++d).length ((a++d).map (Value.int .i64)))))) λ_ u _=>2-(intOf u).toNat
 case atStart=>exact⟨M,Q,bC ⟨rfl,R⟩⟩
 obtain⟨b,x,s⟩:=hrel;have aj:=oB b K C;have al:=oB b q1 C;have af:=b.size;have ac:a.length<=1000:=oN e1.o;have ad:d.length<=1000:=oN e2.o;rcases s with⟨rfl,HOq⟩|⟨rfl,HOq⟩|⟨rfl,HOq⟩
 .have O:=Xa<|T.keep (b.mono V);go_wp2_with (at_builtin;refine nG rfl λS hK=>JD _ _ 27 rfl w.heap.size 2 J underlying27 D G H I _ [] rfl HOq x p c c1 a y k rfl e1 O (by simp;omega) oM ?_)
  intro v2 Z h f g;have m:=Xa<|f.below HOq b oM;have o:=Xa h;have n:=Xa g;refine hK _ _ ?_;go_wp2;exact⟨⟨m,n,aZ<|bC ⟨rfl,o⟩⟩,by simp[intOf]⟩
 .have P:=Xa<|U.keep (b.mono W);go_wp2_with (at_builtin;refine nG rfl λS hK=>JD _ _ 27 rfl w.heap.size 2 J underlying27 D G H I _ a rfl HOq x q e c2 d z l rfl e2 P oM oM ?_)
  intro v2 Z h f g;have m:=Xa<|f.below HOq b oM;have o:=Xa h;have n:=Xa g;refine hK _ _ ?_;go_wp2;exact⟨⟨m,n,aZ<|aZ ⟨rfl,Xa<|by rw[aQ,bG];exact o⟩⟩,by simp[intOf]⟩
 go_wp2;go_ret;exact⟨_,rfl,b,HOq⟩
structure U8(w w':World)(n:Nat)(gs:Nat->Nat):Prop where
 os:w'.os=w.os
 tape:w'.tape=w.tape
 output:w'.output=w.output
 size:w.heap.size<=w'.heap.size
 block:∀k,k<w.heap.size->(∀i,i<n->k≠gs i)->w'.heap[k]?=w.heap[k]?
theorem U8.refl(w:World)(n:Nat)(a:Nat->Nat):U8 w w n a:=⟨rfl,rfl,rfl,aA _,λ_ _ _=>rfl⟩
theorem U8.below(h:U8 w v n f)(k:Below v.heap.size v u):U8 w u n f:=⟨k.os.trans h.os,k.tape.trans h.tape,k.output.trans h.output,aJ h.size k.size,λj a b=>(k.block j<|aX a h.size).trans (h.block j a b)⟩
theorem U8.grown{b:Nat}(h:U8 w v n f)(k:v.grownBy u (some<|f b))(d:b<n):U8 w u n f:=⟨k.os.trans h.os,k.tape.trans h.tape,k.output.trans h.output,aJ h.size k.size,λj a c=>(k.block j (aX a h.size) λe=>c b d<|by injection e).trans (h.block j a c)⟩
def Xi(l:List Nat):List Int:=l.map Int.ofNat
def Yv(w:World)(P:Nat->Prop)(c:Option Addr)(a:List Int):Prop :=
 ∀i (h:i<a.length),∃b o,c=some ⟨b,o,none⟩/\(P b/\b<w.heap.size)/\w.cell? ⟨b,o+i,none⟩=some (.int .i64 a[i])
def TA(w:World)(P:Nat->Prop)(d:Option Addr)(a:List (List Int)):Prop :=
 ∀i (h:i<a.length),∃b o,d=some ⟨b,o,none⟩/\(P b/\b<w.heap.size)/\∃c e,w.cell? ⟨b,o+i,none⟩=some (.slice c a[i].length e)/\Yv w P c a[i]
theorem bg.keep{w':World}(h:bg n w m k B f F M)(b:Below w.heap.size w w'):bg n w' m k B f F M :=
 ⟨h.row.of_block<|b.block _ h.row.lt,λi a=>(h.set i a).of_block (b.block _ (h.set i a).lt),h.inj,h.o⟩
theorem bg.wrote{b:Nat}{c:Nat->Nat}(h:bg n w m k B f F M)(d:b<k)(g:w.grownBy v (some<|f b))(j:Bf v (f b) B (F b) c):bg n v m k B f F (λi=>if i=b then c else M i):=by
 refine⟨h.row.of_block (g.block _ h.row.lt λe=>h.o b d<|by injection e with e;exact e.symm),λi a=>?_,h.inj,h.o⟩;by_cases e:i=b
 .subst e;simpa using j
 simp only[aM e];exact(h.set i a).of_block (g.block _ (h.set i a).lt λe2=>e<|by injection e2 with e2;exact h.inj i b a d e2)
theorem bg.apart{b:Nat->Nat}(h:bg n w m k B F b M)(c:U8 w v k f)(d:∀i,i<k->m≠f i)(e:∀i j,i<k->j<k->F i≠f j):bg n v m k B F b M :=
 ⟨h.row.of_block<|c.block _ h.row.lt d,λi a=>(h.set i a).of_block (c.block _ (h.set i a).lt λj g=>e i j a g),h.inj,h.o⟩
theorem Mt(az fa t:Nat)(hf:(az=85/\fa=87)\/az=135/\fa=144)(P X m c0:Nat)(a:List Nat)(L1 Z:Nat)(sa:Option Addr)(ns cs:Nat)(c:List (List Nat))(G H n K:Nat)(d ac s ay:Nat->Nat)(I T:Nat->Nat->Nat)(w:World)
 (cb:Hs (Xf w L1 Z (some ⟨P,X,none⟩) (Xi a))) (h0:Hs (m=a.length)) (b7:m<=1000) (e8:0<m) (eq:Hs (TA w (λl=>∀i,i<n->l≠d i) sa (c.map Xi))) (hs:Hs (ns=c.length)) (ei:Hs (c.length=n)) (hK:K<=100)
 (bp:Z<=w.heap.size) (HI:Hs (bg t w G n K d s I)) (HT:Hs (bg t w H n K ac ay T)) (et:Hs (XQ I)) (V:Hs (XQ T))
 (d3:Hs (∀i,i<n->H≠d i)) (d4:Hs (∀i ci,i<n->ci<n->ac i≠d ci))
 (ho:Hs (∀b∈a,b<n)) (ep:Hs (∀cj∈c,cj.length<=2000/\∀t∈cj,t<n)) :
 Calls prog az #[Hm P X m c0,.slice sa ns cs,Hl G n n,Hl H n n] w λe M=>e=.returned (.tuple #[])/\U8 w M n d/\∃Ws,XQ Ws/\bg t M G n K d s Ws/\∀b,b<n->∀x,x<64*K->(Xh (Ws b) x=true↔Sp I T (·∈a) (λb=>c.getD b []) b x):=by
 have cr:=Xa (Mx fa (by rcases hf with h|h<;>simp[h.2]));rcases hf with⟨rfl,rfl⟩|⟨rfl,rfl⟩
 go_in
 rotate_left
 go_in
 rotate_left
 all_goals (
  go_wp2_with fail
  go_step3
  go_wp2_with fail
  refine(vN P X m c0 (Xi a) L1 Z w cb (Xa (by have:=h0.o;simp[Xi];omega)) oM bp).mono ?_;rintro e w1⟨v1,rfl,bv,eg,a2⟩;obtain⟨g1,L,rfl,b1,e6⟩:=Xm a2 (by have:=h0.o;simp[Xi];omega);have aj:=Xa bv;have ap:=Xa a2;have Q:(Xi a).length=m:=by have:=h0.o;simp[Xi];omega
  rw[Q]at ap;go_wp2_with fail
  have e0:=b1.2;have ez:=b1.1;refine(TM g1 m L w.heap.size (Xi a) w1 oM (Xa Q.symm) ap).mono ?_;rintro e y⟨rfl,b3,ca⟩;have a8:=Xa (aj.grown b3 aj.size λl e=>by cases e;omega);have bd:=Xa ca;go_wp2_with fail
  have ea:(λx9:World=>Hs (Below y.heap.size y x9)/\x9.cell? (Hk y.heap.size 0)=some (Hm P X m c0)/\x9.cell? (Hk y.heap.size 1)=some (Hl g1 m L)) (y.alloc<|.cells #[Hm P X m c0,Hl g1 m L] 27):=⟨Xa<|Xb (Below.refl _ _) _,sP,sP⟩;generalize y.alloc _=wa at*;let⟨ab,af,cc⟩:=ea;have aa:=Xa<|Xg a8 ab;have A:(Xi a).reverse.length=m:=by rw[jQ];exact Q
  have bb:Hs (Xf wa w.heap.size y.heap.size (some ⟨g1,0,none⟩) (Xi a).reverse):=Xa (by
   have h:=bd.o;rw[<-A]at h;let⟨a',c',e',ef⟩:=Xk h;injection e' with e1;subst e1;exact ef.keep ab)
  refine(Wb y.heap.size m c0 m L _ _ (Xi a) (Xi a).reverse L1 Z w.heap.size y.heap.size wa (Xa<|cb.keep (aa.mono bp)) bb (Xa Q.symm) (Xa A.symm) b7 b7 oM (oN aa.size) ab.size af cc).mono ?_;rintro e Y⟨v3,rfl,a1,a4⟩;have f:=Xa<|Xg aa a1;have eR:Xi a++(Xi a).reverse=Xi (a++a.reverse):=by simp[Xi]
  rw[eR]at a4;have eb:(a++a.reverse).length=2*m:=by have:=h0.o;simp;omega
  have a0:Hs (∀b,b∈a++a.reverse↔b∈a):=Xa λb=>sP;generalize a++a.reverse=R at*;have b8:(Xi R).length=R.length:=by simp[Xi]
  let⟨a3,c3,e3,b4⟩:=Xk a4;rw[b8]at e3;subst e3;have c7:=Xa b4;have d0:Hs (wa.heap.size<=Y.heap.size/\w.heap.size<=wa.heap.size):=Xa ⟨a1.size,aa.size⟩;have dj:=Xa<|HI.keep (f);have ds:=Xa<|HT.keep (f);have bq:0<R.length:=oM;have ev:R.length<=2000:=oM;have cx:=Xa λi D=>(HI.set i D).lt;go_wp2_with fail
  go_step3
  go_wp2
  go_loopg [10] (JI I K n) λl qv wr=>∃(q:Nat)(W:Nat->Nat->Nat),qv=Hp q/\q<R.length/\Hs (U8 Y wr n d)/\Hs (bg t wr G n K d s W)/\Hs (XQ W)/\Hs (JI W K n<=l)/\Hs (∀b x,Xh (I b) x=true->Xh (W b) x=true)/\Hs (∀b x,Xh (W b) x=true->Sp I T (·∈a) (λb=>c.getD b []) b x)/\Hs (Lg T K (λb=>c.getD b []) W R q 0)
  case atStart=>exact⟨0,I,rfl,bq,Xa<|U8.refl _ _ _,dj,et,Xa<|aA _,Xa λ_ _ h=>h,Xa λ_ _ h=>Sp.init h,Xa Vz⟩
  case round=>
   obtain⟨q0,W0,rfl,af,co,di,dw,c9,c6,dn,ck⟩:=hrel;go_wp2_with fail
   generalize wr=wo at*
   go_loopw [10,26] (λqv F wr=>∃(q p:Nat)(W:Nat->Nat->Nat),qv=Hp q/\q<R.length/\F=Hp p/\p<=R.length/\Hs (U8 Y wr n d)/\Hs (bg t wr G n K d s W)/\Hs (XQ W)/\Hs (JI W K n<gk\/(JI W K n<=gk/\q=q0+p))/\Hs (∀b x,Xh (I b) x=true->Xh (W b) x=true)/\Hs (∀b x,Xh (W b) x=true->Sp I T (·∈a) (λb=>c.getD b []) b x)/\Hs (Lg T K (λb=>c.getD b []) W R q p)) λ_ F _=>R.length-(intOf F).toNat
   case atStart=>exact⟨q0,0,W0,rfl,af,rfl,aN _,co,di,dw,Xa<|aZ ⟨c9,oM⟩,c6,dn,ck⟩
   case round=>
    obtain⟨q,p,W,rfl,hq,rfl,hp,z,HS,B,HM,bc,bi,HC⟩:=hrel;by_cases S:p<R.length
    .obtain⟨br,e9,rfl,ee,bo⟩:=c7 p (by simpa [Xi]using S);have cv:Hs (U8 w wr n d):=Xa ⟨z.os.trans f.os,z.tape.trans f.tape,z.output.trans f.output,aJ f.size z.size,λl u C=>(z.block l (aX u f.size) C).trans (f.block l u)⟩;have er:=(Xc (z.block br ee.2 λi D e=>by have:=cx i D;have:=d0.o;omega)).trans bo;have bt:(Xi R)[p]'(by simpa [Xi]using S)=((R[p]:Nat):Int):=by simp[Xi]
     rw[bt]at er;have o:=ho _<|(a0 _).1 (aH S);have ed:=Xa<|(a0 _).1 (aH S);have ad:R[p]<c.length:=oN ei.o;let⟨bs,os,em,bx,d1,eu,es,b6⟩:=eq R[p] (by simpa using ad);subst em;have d2:=(Xc<|cv.block bs bx.2 bx.1).trans es;have cf:((c.map Xi)[R[p]]'(by simpa using ad)).length=c[R[p]].length:=by simp[Xi]
     rw[cf]at d2;have bf:=Xa<|ep.o c[R[p]] (aH ad);have e7:=bf.1;have ba:Hs (c.getD R[p] []=c[R[p]]):=Xa (by simp[ad]);have cm:Hs (∀W',(∀i x,x<64*K->Xh (W' i) x=Xh (W i) x)->MB T K (λb=>c.getD b []) W R[p]->Lg T K (λb=>c.getD b []) W' R (q+1) (p+1)):=Xa λW' e hb=>xM HC e S hb;have ey:R[p]<ns:=oN hs.o;have c8:Hs (Yv w (λl=>∀i,i<n->l≠d i) d1 (Xi c[R[p]])):=Xa (by simpa using b6);generalize ec:R[p]=b at*;generalize c[b]=g at*;go_wp2_with fail
     generalize wr=fb at*
     go_loopw [13,35] (λgv F wq=>∃r:Nat,r<=g.length/\F=Hp r/\gv=.bool (D2 T K b (g.take r) (W,false)).2/\Hs (U8 Y wq n d)/\Hs (bg t wq G n K d s (D2 T K b (g.take r) (W,false)).1)) λ_ F _=>g.length-(intOf F).toNat
     case atStart=>exact⟨0,aN _,rfl,rfl,z,HS⟩
     obtain⟨r,hr,rfl,rfl,j,k⟩:=hrel;by_cases A:r<g.length
     .have cw:Hs (U8 w wr n d):=Xa ⟨j.os.trans f.os,j.tape.trans f.tape,j.output.trans f.output,aJ f.size j.size,λl u C=>(j.block l (aX u f.size) C).trans (f.block l u)⟩;obtain⟨b5,o5,rfl,bw,bn⟩:=c8 r (by simpa [Xi]using A);have e5:=(Xc<|cw.block b5 bw.2 bw.1).trans bn;have cg:(Xi g)[r]'(by simpa [Xi]using A)=((g[r]:Nat):Int):=by simp[Xi]
      rw[cg]at e5;have a6:=bf.2 _<|aH A;have ar:=Xa<|ds.apart j d3 d4;have bl:=Xa<|we (T:=T) (K:=K) (b:=b) A (W,false);have bm:=Xa<|TG (T:=T) (K:=K) (b:=b) (g.take r) (W,false) B;generalize g[r]=v at*;generalize D2 T K b (g.take r) (W,false)=sq at*;let⟨O,gq⟩:=sq;dsimp only at*;have L:=k.row.cell o;have k2:=k.row.cell a6;have k3:=ar.row.cell o;have a7:=Xa (cr.o (d b) (d v) (ac b) K (s b) (s v) (ay b) (O b) (O v) (T b) wr.drew (Xa<|bm.o b) (Xa<|bm.o v) (Xa<|V.o b) oM (Xa<|(k.set b o).drew) (Xa<|(k.set v a6).drew) (Xa<|(ar.set b o).drew) (d4 b b o o) (Xa λe=>by rw[k.inj v b a6 o e]));have dl:Hs (bg t wr.drew G n K d s O):=Xa ⟨k.row,λi D=>(k.set i D).drew,k.inj,k.o.o⟩;have ct:Hs (U8 Y wr.drew n d):=Xa ⟨j.os,j.tape,j.output,j.size,j.block⟩;have ao:Hs (G<wr.heap.size/\H<wr.heap.size):=Xa ⟨k.row.lt,ar.row.lt⟩;generalize G8 (O b) (O v) (T b) K=g5 at*;go_wp2_with fail
      refine Y7 (λM=>M.cell? (Hk G b)=some (Hl (d b) K (s b))/\M.cell? (Hk G v)=some (Hl (d v) K (s v))/\M.cell? (Hk H b)=some (Hl (ac b) K (ay b))) λhHeld=>?_;refine Xn 0 ?_;refine Xn 1 ?_;refine Xn 2 ?_;refine Xn 3 ?_;refine Xn 4 ?_;refine Xn 5 ?_;refine Xn 6 ?_;refine Xn 7 ?_;refine Xn 8 ?_;refine Xn 9 ?_;refine Xn 10 ?_;refine Xn 11 ?_;refine Xs 12 λK hK=>?_;go_simp
      first|go_at_call 87|go_at_call 144
      refine a7.mono ?_;rintro e w5⟨rfl,J,ce⟩;have dk:=Xa<|dl.wrote o J ce;have cq:=Xa<|ct.grown J o;have j1:=(Xc<|J.block G ao.1 λe=>k.o.o b o<|by injection e with e;exact e.symm).trans L;have j2:=(Xc<|J.block G ao.1 λe=>k.o.o b o<|by injection e with e;exact e.symm).trans k2;have j3:=(Xc<|J.block H ao.2 λe=>d3 b o<|by injection e).trans k3;refine hK _ _ ⟨j1,j2,j3⟩ λhHeld=>?_;refine Xn 13 ?_;cases g5
      focus
       refine wpAnyH_take (i:=14) (v:=?_) rfl kR kR kR (λ_ _ _ h=>h) (bC ⟨by rfl,?_⟩) (by assumption) ?_;rotate_left;intro w hSw;(try dsimp only at hSw);go_simp;try with_reducible rfl
      rotate_left
      focus
       refine wpAnyH_take (i:=14) (v:=undef) rfl kR kR kR (λ_ _ _ h=>h) (aZ ⟨by rfl,rfl⟩) (by assumption) ?_
      all_goals (
       simp only[xX];refine Xn 15 ?_;refine Xn 16 ?_;refine Yq ?_;go_wp2
       exact⟨⟨r+1,oM,gM,by rw[bl.o];rfl,Xa cq.o,Xa<|by rw[bl.o];exact dk⟩,by simp[intOf];omega⟩)
     have el:r=g.length:=oM;have du:Hs (g.take r=g):=Xa<|aW oM;rw[du.o]at k |-;have ax:=Xa<|TG (T:=T) (K:=K) (b:=b) g (W,false) B;have dc:=Xa<|JJ (T:=T) (K:=K) (b:=b) V g (W,false) B;have aq:=Xa (T9 (I:=I) (T:=T) (K:=K) (b:=b) (ord:=(·∈a)) (src:=λb=>c.getD b []) V ed g (W,false) B (λt U=>by show t∈c.getD b [];rw[ba.o];exact U) bi);have df:=Xa<|T6 (T:=T) (K:=K) (b:=b) V g (W,false) B;have cz:=Xa<|UB (T:=T) (K:=K) (b:=b) V g (W,false) B rfl;have dd:=Xa λi (D:i≠b)=>TN (T:=T) (K:=K) D g (W,false);generalize D2 T K b g (W,false)=sq at*;let⟨N,d5⟩:=sq;dsimp only at*;have al:=Xa λb x h=>dc b x<|bc b x h;cases d5 with
     |true=>
      have da:=Xa<|pM (K:=K) dd (cz rfl) n o;go_wp2;exact⟨⟨0,p+1,N,rfl,bq,gM,oM,j,k,ax,Xa (bC (by have:=da.o;rcases HM.o with h|h<;>omega)),al,aq,Xa Vz⟩,by simp[intOf];omega⟩
     |false=>
      let⟨a5,bz⟩:=df rfl;have a9:=Xa (cm.o N a5 (λt U x E=>by have ch:t∈c.getD b []:=U;rw[ba.o]at ch;exact bz t ch x E));have db:=Xa (Vo n λi _=>Vl _ λx E=>a5 i x E);by_cases cd:q+1=R.length
      .have ek:(((q:Int)+1)==(R.length:Int))=true:=by simp;omega
       have cl:Hs (Lg T K (λb=>c.getD b []) N R R.length (p+1)):=Xa (by rw[<-cd];exact a9);go_wp2
       go_end0
       refine⟨rfl,⟨j.os.trans f.os,j.tape.trans f.tape,j.output.trans f.output,aJ f.size j.size,λl u C=>(j.block l (aX u f.size) C).trans (f.block l u)⟩,N,ax,k,λb _ x E=>?_⟩;exact We al aq (λb hb t U x E u C=>yJ cl oM ((a0 b).2 hb) t U x E u C) b x E
      have ek:(((q:Int)+1)==(R.length:Int))=false:=by simp;omega
      go_wp2;exact⟨⟨q+1,p+1,N,gM,oM,gM,oM,j,k,ax,Xa (by rw[db.o];rcases HM.o with h|⟨h,h'⟩;exact bC h;exact aZ ⟨h,oM⟩),al,aq,a9⟩,by simp[intOf];omega⟩
    have ej:p=R.length:=oM;subst ej;go_wp2_with fail
    go_roundg (JI W K n)
    case measure=>rcases HM.o with h|⟨_,h⟩;exact h;omega
    case rel=>exact⟨q,W,rfl,hq,z,HS,B,Xa<|aA _,bc,bi,Xa<|xH HC hq⟩)
theorem NB{f:List (List Int)}(j:XR w n m p f)(a:∀b,n<=b->b<m->d b/\b<w.heap.size):TA w d p f:=λq l=>by
 let⟨b,s,i,c,g,h,e2,k⟩:=j q l;refine⟨b,s,i,a b c.1 c.2,g,h,e2,λr o=>?_⟩;let⟨b2,t,e3,e,e4⟩:=k r o;exact⟨b2,t,e3,a b2 e.1 e.2,e4⟩
theorem wk(k o d c0:Nat)(e:List Nat)(q g:Nat)(p:Option Addr)(m s:Nat)(c:List (List Nat))(r h:Nat)(G f n K:Nat)(a l:Nat->Nat)(I T:Nat->Nat->Nat)(w:World)
 (O:Hs (Xf w q g (some ⟨k,o,none⟩) (Xi e))) (E:Hs (d=e.length)) (J:d<=1000) (L:0<d) (R:Hs (XR w r h p<|c.map Xi)) (P:Hs (m=c.length)) (M:Hs (c.length=n)) (hK:K<=100)
 (F:g<=w.heap.size) (Y:h<=w.heap.size) (z:Hs (Ye w G n K a I)) (A:Hs (Ye w f n K l T)) (S:Hs (XQ I)) (U:Hs (XQ T))
 (B:Hs (∀i,i<n->¬(r<=a i/\a i<h))) (C:Hs (∀i,i<n->f≠a i)) (D:Hs (∀i u,i<n->u<n->l i≠a u))
 (N:Hs (∀b∈e,b<n)) (Q:Hs (∀v∈c,v.length<=2000/\∀V∈v,V<n)) :
 Calls prog 135 #[Hm k o d c0,.slice p m s,Hl G n n,Hl f n n] w λt y=>t=.returned (.tuple #[])/\U8 w y n a/\∃j,XQ j/\Ye y G n K a j/\∀b,b<n->∀x,x<64*K->(Xh (j b) x=true↔Sp I T (·∈e) (λb=>c.getD b []) b x) :=
 (Mt _ 144 84 (aZ ⟨rfl,rfl⟩) k o d c0 e q g p m s c G f n K a l _ _ I T w O E J L (Xa<|NB R λb W X=>⟨λi H t=>B i H oM,oM⟩) P M hK F z A S U C D N Q)
abbrev wg:=@Mt 85 87 59<|bC ⟨rfl,rfl⟩
def jk(o:Option Nat):Int:=match o with
 |some a=>(a:Int)
 |none=>-1
def Uv(d:Nat->Nat)(b:Nat)(c:Option Nat)(a:Nat):Option Nat:=if a≠b/\(c=none\/∃k,c=some k/\d a > d k)then some a else c
theorem y8{cnt:Nat->Nat}{b:Nat}(h:n<s.length):Hj cnt b (s.take<|n+1)=Uv cnt b (Hj cnt b<|s.take n) s[n]:=by
 unfold Hj Uv;rw[bN h,dT];rfl
def G9(a:List (List Nat))(b:Nat):Int:=jk<|Hj (λc=>(a.getD c []).length) b (a.getD b [])
theorem BG{b:Nat}:∀(g:List Nat){a:Nat},Hj f b g=some a->a∈g:=λg=>by
 have j:∀(l:List Nat)(e:Option Nat)(a:Nat),l.foldl (λe a=>if a≠b/\(e=none\/∃k,e=some k/\f a > f k)then some a else e) e=some a->e=some a\/a∈l:=λl=>by
  induction l with
  |nil=>intro e a h;exact bC h
  |cons c l i=>
   intro e a h;rw[iM]at h;rcases i _ a h with d|d
   .split at d
    .injection d with d;exact aZ<|by rw[d];exact cI
    exact bC d
   exact aZ<|cN _ d
 intro a h;rcases j g none a h with d|d;·cases d
 exact d
theorem B5(h:w.ownsRow n m k a B y)(e:v.heap=w.heap):v.ownsRow n m k a B y:=by
 unfold World.ownsRow at*;rw[e];exact h
theorem Ag(E:Option Addr)(n dc:Nat)(a:List (List Nat))(T B:Nat)(w:World)(hd:Hs (XR w T B E<|a.map Xi))(K:Hs (n=a.length))(hn:n<=1000)(hB:B<=w.heap.size)(J:Hs (∀ad∈a,ad.length<=1000/\∀d∈ad,d<n)) :
 Calls prog 66 #[.slice E n dc] w λo r=>∃y,o=.returned y/\Below w.heap.size w r/\r.ownsRow w.heap.size 2 1 y n (((List.range n).map (G9 a)).map (Value.int .i64)):=by
 let⟨i0,a3,a6,a7,a8⟩:=Xq Nv
 go_in
 go_wp2
 go_loopw [3,4] (λy u wr=>∃b:Nat,b<=n/\u=Hp b/\Hs (Below w.heap.size w wr)/\Hs (wr.ownsRow w.heap.size 2 1 y b<|((List.range b).map (G9 a)).map (Value.int .i64))) λ_ u _=>n-(intOf u).toNat
 case atStart=>exact⟨0,aN _,rfl,Xa<|Xb (Below.refl _ _) _,Xa (by
  have:=eI (base:=w.heap.size) (e:=2) (size:=1) w #[] 0 sP sP rfl;simpa using this)⟩
 obtain⟨b,hb,rfl,N,R⟩:=hrel;by_cases bm:b<n
 .have H:b<a.length:=oN K.o
  have A:Hs (∀t (i:t<a.length),∃g l h m,E=some (Hk g l)/\g<B/\w.cell? (Hk g<|l+t)=some (.slice h a[t].length m)/\Xf w T B h (Xi a[t])):=Xa (λt i=>by
   let⟨g,l,o,Y,h,m,e1,e2⟩:=hd t (by simpa using i);have e3:(a.map Xi)[t]'(by simpa using i)=Xi a[t]:=sP;rw[e3]at e1 e2;exact⟨g,l,h,m,o,Y.2,by rw[e1];simp[Xi],e2⟩)
  obtain⟨g,l,ab,cb,rfl,Y,F,x⟩:=A b H;have Q:Hs (∀t (i:t<a.length),∃h m,w.cell? (Hk g<|l+t)=some (.slice h a[t].length m)):=Xa (λt i=>by
   let⟨a9,bo,h,m,o,_,e1,_⟩:=A t i;injection o with o;injection o with e4 e5;subst e4 e5;exact⟨h,m,e1⟩)
  have C:=Xa<|J.o a[b] (aH H);have bl:=C.1;have aq:=Xa x;have ap:Hs (a.getD b []=a[b]):=Xa (by simp[H]);have ao:=Xa F;generalize a[b]=e at*;go_wp2_with fail
  generalize wr=wo at*
  go_loopw [5,6] (λU u wq=>∃j:Nat,j<=e.length/\u=Hp j/\U=Hp (jk<|Hj (λd=>(a.getD d []).length) b (e.take j))/\Hs (Below w.heap.size w wq)/\Hs (wq.heap=wo.heap)) λ_ u _=>e.length-(intOf u).toNat
  case atStart=>exact⟨0,aN _,rfl,rfl,N,Xa rfl⟩
  obtain⟨j,hj,rfl,rfl,f,s⟩:=hrel;have F:=(XU f oM).trans ao;by_cases v:j<e.length
  .obtain⟨U,ov,rfl,bb,V⟩:=aq j (by simpa [Xi]using v);have ej:=(XU f oM).trans V;have e3:(Xi e)[j]'(by simpa [Xi]using v)=((e[j]:Nat):Int):=by simp[Xi]
   rw[e3]at ej;have ba:=C.2 e[j] (aH v);have z:=Xa (y8 (cnt:=λd=>(a.getD d []).length) (b:=b) v);have al:Hs (∀k,Hj (λd=>(a.getD d []).length) b (e.take j)=some k->k<n):=Xa λk i=>C.2 k<|iO (BG _ i);generalize e[j]=c at*;generalize Hj (λd=>(a.getD d []).length) b (e.take j)=bs at*;have G:c<a.length:=oN K.o;let⟨a1,c1,W⟩:=Q c G;have e1:=(XU f oM).trans W;have O:Hs ((a.getD c []).length=a[c].length):=Xa (by simp[G]);have bf:=(J a[c] (aH G)).1;by_cases q:c=b
   .have p:Hs (Uv (λd=>(a.getD d []).length) b bs c=bs):=Xa (by unfold Uv;rw[aM λk=>k.1 q]);have q1:((c:Int)==(b:Int))=true:=by simp[q]
    have q2:((c:Int) != (b:Int))=false:=by simp[q]
    go_wp2_with fail
    refine Y7 (λ_=>True) λhHeld=>?_;refine Xn 0 ?_;refine Xn 1 ?_;refine Xn 2 ?_;refine Xn 3 ?_;refine KH 4 ?_;refine KH 5 ?_;refine KH 6 ?_;refine KH 7 ?_;refine KH 8 ?_;refine KH 9 ?_;refine KH 10 ?_;refine KH 11 ?_;refine KH 12 ?_;refine KH 13 ?_;refine KH 14 ?_;refine KH 15 ?_;refine KH 16 ?_;refine KH 17 ?_;refine KH 18 ?_;refine KH 19 ?_;refine KH 20 ?_;refine Xn 21 ?_;refine Yq ?_;go_wp2;exact⟨⟨j+1,oM,gM,by rw[z.o,p.o],Xa f.drew,Xa s.o⟩,by simp[intOf];omega⟩
   have q1:((c:Int)==(b:Int))=false:=by simp;omega
   have q2:((c:Int) != (b:Int))=true:=by simp;omega
   cases bs with
   |none=>
    have p:Hs (Uv (λd=>(a.getD d []).length) b none c=some c):=Xa (by unfold Uv;rw[aU ⟨q,bC rfl⟩]);have D:Hs (jk none=-1):=Xa rfl;rw[D.o];go_wp2_with fail
    refine Y7 (λ_=>True) λhHeld=>?_;refine Xn 0 ?_;refine Xn 1 ?_;refine Xn 2 ?_;refine Xn 3 ?_;refine Xn 4 ?_;refine Xn 5 ?_;refine Xn 6 ?_;refine KH 7 ?_;refine KH 8 ?_;refine KH 9 ?_;refine KH 10 ?_;refine KH 11 ?_;refine KH 12 ?_;refine KH 13 ?_;refine KH 14 ?_;refine KH 15 ?_;refine KH 16 ?_;refine KH 17 ?_;refine KH 18 ?_;refine KH 19 ?_;refine Xn 20 ?_;refine Xn 21 ?_;refine Yq ?_;go_wp2;exact⟨⟨j+1,oM,gM,by rw[z.o,p.o];rfl,Xa f.drew,Xa s.o⟩,by simp[intOf];omega⟩
   |some k=>
    have bc:=al k rfl;have I:k<a.length:=oN K.o;let⟨a2,c2,X⟩:=Q k I;have e2:=(XU f oM).trans X;have P:Hs ((a.getD k []).length=a[k].length):=Xa (by simp[I]);have bi:=(J a[k] (aH I)).1;have D:Hs (jk (some k)=(k:Int)):=Xa rfl;rw[D.o];by_cases aa:a[c].length > a[k].length
    focus
     have p:Hs (Uv (λd=>(a.getD d []).length) b (some k) c=some c):=Xa<|by unfold Uv;rw[aU ⟨q,aZ ⟨k,rfl,by show(a.getD c []).length > (a.getD k []).length;rw[O.o,P.o];exact aa⟩⟩]
    rotate_left
    focus
     have p:Hs (Uv (λd=>(a.getD d []).length) b (some k) c=some k):=Xa (by
      unfold Uv;rw[aM (λL=>by
       rcases L.2 with L|⟨bp,M,q4⟩;·cases L
       injection M with M
       subst M;have q5:(a.getD c []).length > (a.getD k []).length:=q4;rw[O.o,P.o]at q5;exact aa q5)])
    all_goals (
     generalize a[c].length=la at*;generalize a[k].length=lk at*;go_wp2_with fail
     refine Y7 (λr=>r.cell? (Hk g<|l+c)=some (.slice a1 la c1)/\r.cell? (Hk g<|l+k)=some (.slice a2 lk c2)) λhHeld=>?_;refine Xn 0 ?_;refine Xn 1 ?_;refine Xn 2 ?_;refine Xn 3 ?_;refine Xn 4 ?_;refine Xn 5 ?_;refine Xn 6 ?_;refine Xn 7 ?_;refine Xn 8 ?_;refine Xn 9 ?_;refine Xn 10 ?_;refine Xn 11 ?_;refine Xn 12 ?_;refine Xn 13 ?_;refine Xn 14 ?_;refine Xn 15 ?_;refine Xn 16 ?_;refine Xn 17 ?_;refine Xn 18 ?_;refine Xn 19 ?_;refine Xn 20 ?_;refine Xn 21 ?_;refine Yq ?_;go_wp2
     exact⟨⟨j+1,oM,gM,by rw[z.o,p.o];rfl,Xa f.drew,Xa s.o⟩,by simp[intOf];omega⟩)
  have a4:j=e.length:=oM;subst a4;have ar:Hs (jk (Hj (λd=>(a.getD d []).length) b (e.take e.length))=G9 a b):=Xa (by unfold G9;rw[gC,ap.o]);rw[ar.o];have S:=Xa<|B5 R s;have bn:=f.size;have ay:Hs (((List.range<|b+1).map (G9 a)).map (Value.int .i64)=((List.range b).map (G9 a)).map (Value.int .i64)++[Hp<|G9 a b]):=Xa (by rw[dN];simp);generalize G9 a b=x at*;go_wp2_with (at_builtin;refine bT _ rfl _ _ 27 rfl w.heap.size 2 i0 (Hp 0) 1 8 underlying27 a3 a6 a7 a8 rfl vZ _ _ _ rfl (S.alloc _) (Hk wr.heap.size 0) 1 1 [Hp x] rfl rfl ?c1 ?c2 ?c3 ?c4 ?c5 ?_)
  case c1=>exact Yf _ _ _
  case c2=>intro u hu;simp at hu;subst hu;rfl
  case c3=>unfold maxLen;omega
  case c4=>omega
  case c5=>simp;omega
  intro v8 w8 ac Z a5 az;have af:=Xa (Xy (Below.alloc f oM _) Z (S.alloc _) (aA _) (by simp;omega));have ax:Hs (w8.ownsRow w.heap.size 2 1 v8 (b+1) (((List.range<|b+1).map (G9 a)).map (Value.int .i64))):=Xa (by rw[ay.o,jO];exact ac);go_wp2;exact⟨⟨b+1,oM,gM,af,ax⟩,by simp[intOf];omega⟩
 have a0:b=n:=oM;subst a0;go_wp2;go_ret;exact⟨_,rfl,N,R⟩
section
variable {tg: Nat -> List Nat}
open Classical in
noncomputable def Zq(tg:Nat->List Nat)(n b:Nat):List Nat:=(List.range n).filter λa=>decide (JO tg a b)
theorem Jo{n a b:Nat}:a∈Zq tg n b↔a<n/\JO tg a b:=by
 unfold Zq;simp
theorem Dx(n b:Nat):(Zq tg n b).Nodup:=List.nodup_range.sublist jR
theorem VU{n a c:Nat}(ha:a<n)(h:JO tg c a)(g:c≠a):(Zq tg n c).length<(Zq tg n a).length:=by
 have d:a∉Zq tg n c:=λk=>g<|Z1 h (Jo.1 k).2
 have e:=fL.2 ⟨d,Dx n c⟩;have f:(a::Zq tg n c) ⊆ Zq tg n a:=λx b=>by
  rcases cH.1 b with rfl|b;·exact Jo.2 ⟨ha,Zd h.rb⟩
  let⟨i,j⟩:=Jo.1 b;exact Jo.2 ⟨i,J8 j h⟩
 have:=kV e f;simp only[bA]at this;omega
theorem Uk{n b:Nat}(a:b<n):((List.range n).map (Zq tg n)).getD b []=Zq tg n b:=by simp[a]
theorem yx{n a b:Nat}(e:∀x,Re tg x->x<n)(h:Ll tg a b):G9 ((List.range n).map (Zq tg n)) b=(a:Int):=by
 have f:=e b h.dom.rb;have d:=e a h.dom.ra;have m:Hj (λa=>(((List.range n).map (Zq tg n)).getD a []).length) b (Zq tg n b)=some a:=by
  refine ze (Jo.2 ⟨d,h.dom⟩) h.ne λc g j i=>?_;let⟨k,l⟩:=Jo.1 g;rw[Uk k,Uk d];exact VU d (h.near c l j) i
 unfold G9;rw[Uk f,m];rfl
theorem yo{n b:Nat}(d:b<n)(h:∀c,JO tg c b->c=b):G9 ((List.range n).map (Zq tg n)) b=-1:=by
 unfold G9;rw[Uk d,yV λa ha=>h a (Jo.1 ha).2];rfl
end
section
variable {tg: Nat -> List Nat}
structure YX(tg:Nat->List Nat)(n:Nat)(P:List Int):Prop where
 len:P.length=n
 get:∀b,b<n->(∃a:Nat,Ll tg a b/\P.getD b 0=(a:Int))\/((∀c,JO tg c b->c=b)/\P.getD b 0=-1)
theorem zM{n:Nat}{P Q:List Int}(h:YX tg n P)(k:YX tg n Q):P=Q:=by
 apply mG (h.len.trans k.len.symm);intro i d e;have e1:P.getD i 0=P[i]:=by simp[d]
 have e2:Q.getD i 0=Q[i]:=by simp[e]
 rw[<-e1,<-e2];have b:i<n:=by rw[<-h.len];exact d
 rcases h.get i b with⟨a,ha,ea⟩|⟨ha,ea⟩
 .rcases k.get i b with⟨c,hc,ec⟩|⟨hc,ec⟩;·rw[ea,ec,Dh ha hc]
  exact absurd (hc a ha.dom) ha.ne
 rcases k.get i b with⟨c,hc,ec⟩|⟨hc,ec⟩;·exact absurd (ha c hc.dom) hc.ne
 rw[ea,ec]
open Classical in
theorem Wf{n:Nat}(g:∀x,Re tg x->x<n)(f:∀b,b<n->(∃a,Ll tg a b)\/∀c,JO tg c b->c=b):YX tg n ((List.range n).map (G9<|(List.range n).map (Zq tg n))):=by
 refine⟨sP,λb d=>?_⟩;have e:((List.range n).map (G9<|(List.range n).map (Zq tg n))).getD b 0=G9 ((List.range n).map (Zq tg n)) b:=by simp[d]
 rw[e];rcases f b d with⟨a,ha⟩|h;·exact bC ⟨a,ha,yx g ha⟩
 exact aZ ⟨h,yo d h⟩
def IV(P:List Int)(b:Nat):List Nat:=(List.range P.length).filter λc=>P.getD c 0==(b:Int)
def XT(P:List Int):Nat->Nat->List Nat
 |0,b=>[b]
 |m+1,b=>b::(IV P b).flatMap (XT P m)
theorem nY{P:List Int}{b c:Nat}:c∈IV P b↔c<P.length/\P.getD c 0=(b:Int):=by
 unfold IV;rw[fG,bE,iA]
theorem Kf{n:Nat}{P:List Int}(h:YX tg n P){b c:Nat}(f:c∈IV P b):Ll tg b c:=by
 let⟨e,d⟩:=nY.1 f;rcases h.get c (by rw[<-h.len];exact e)with⟨a,ha,ea⟩|⟨_,ea⟩
 .rw[ea]at d;have:a=b:=oM;rw[<-this];exact ha
 rw[ea]at d;omega
theorem DC{P:List Int}{b:Nat}:(IV P b).length<=P.length:=aJ (fJ _ _) sP
theorem Ji{n:Nat}{P:List Int}(h:YX tg n P):∀(m b x:Nat),Re tg b->x∈XT P m b->JO tg b x
 |0,b,x,hb,a=>by
  have:x=b:=by simpa [XT]using a
  rw[this];exact Zd hb
 |m+1,b,x,hb,a=>by
  rw[XT,cH]at a;rcases a with rfl|a;·exact Zd hb
  let⟨c,e,a⟩:=bV.1 a;have d:=Kf h e;exact J8 d.dom<|Ji h m c x d.dom.rb a
theorem oz{r:Nat}{P:List Int}(h:YX tg r P):∀(m b:Nat),Re tg b->(XT P m b).Nodup
 |0,b,_=>by simp[XT]
 |m+1,b,hb=>by
  rw[XT,fL];refine⟨λd=>?_,?_⟩
  .obtain⟨c,a,d⟩:=bV.1 d;have g:=Kf h a;exact g.ne<|Z1 g.dom (Ji h m c b g.dom.rb d)
  unfold List.Nodup;rw[iK];refine⟨λc a=>oz h m c (Kf h a).dom.rb,?_⟩;have p:(IV P b).Nodup:=List.nodup_range.sublist jR;refine jT (λ{c i} a o j x d y q f=>?_) p;subst f;have e:=Kf h a;have id:=Kf h o;have l:=Ji h m c x e.dom.rb d;have n:=Ji h m i x id.dom.rb q;rcases TY l n with k|k;·exact e.ne<|Z1 e.dom (id.near c k j)
  exact id.ne<|Z1 id.dom (e.near i k λf=>j f.symm)
theorem sV{n:Nat}{P:List Int}(h:YX tg n P)(c:∀x,Re tg x->x<n)(m b:Nat)(a:Re tg b):(XT P m b).length<=n:=YS (oz h m b a) λx d=>c x (Ji h m b x a d).rb
theorem nR{n:Nat}{P:List Int}(h:YX tg n P)(e:∀x,Re tg x->x<n){b c:Nat}(d:c∈IV P b):(Zq tg n b).length<(Zq tg n c).length:=by
 have a:=Kf h d;exact VU (e c a.dom.rb) a.dom a.ne
theorem oL(n b:Nat):(Zq tg n b).length<=n:=aJ (fJ _ _) sP
theorem tc{n:Nat}{P:List Int}(h:YX tg n P)(e:∀x,Re tg x->x<n){b:Nat}(d:Re tg b)(g:b≠0):∃c:Nat,P.getD b 0=(c:Int)/\c<n/\Re tg c/\(Zq tg n c).length<(Zq tg n b).length/\∀a,a≠b->(JO tg a b↔JO tg a c):=by
 rcases h.get b (e b d)with⟨c,hc,ec⟩|⟨hc,_⟩;·exact⟨c,ec,e c hc.dom.ra,hc.dom.ra,VU (e b d) hc.dom hc.ne,λa i=>⟨λk=>hc.near a k i,λk=>J8 k hc.dom⟩⟩
 exact absurd (hc 0<|Aj d) λf=>g f.symm
end
def L3(b:Nat):List Nat:=(List.range b).filter λx=>x != 0
def IG(b:Nat):Nat->Nat->Nat:=λi=>if i=0 then C3 (λ_=>0) (L3 b)else λ_=>0
def If(b:Nat):Nat->Nat->Nat:=λi=>if i<b then YH (λ_=>0) i else λ_=>0
theorem KW:XA (λ_=>0):=λ_=>(by decide:0<18446744073709551616)
theorem AT:L3 1=[]:=rfl
theorem B4{b:Nat}(h:b≠0):L3 (b+1)=L3 b++[b]:=by
 unfold L3;rw[dN,eU];simp[h]
theorem CG{b:Nat}:n∈L3 b↔n<b/\n≠0:=by simp[L3]
theorem tC(b:Nat):XQ (IG b):=λi=>by
 unfold IG;split;·exact Zs _ KW
 exact KW
theorem tA(b:Nat):XQ (If b):=λi=>by
 unfold If;split;·exact jz KW i
 exact KW
theorem C6{b:Nat}(a:m<n):Xh (IG n b) m=true↔b=0/\m≠0:=by
 unfold IG;by_cases e:b=0
 .rw[aU e,YR,Z3,jU,bD,CG];exact⟨λh=>⟨e,h.2⟩,λh=>⟨a,h.2⟩⟩
 rw[aM e,Z3];exact⟨λh=>(by cases h),λh=>absurd h.1 e⟩
theorem Ct{b:Nat}(a:b<n):Xh (If n b) m=true↔m=b:=by
 unfold If;rw[aU a,Z8,Z3,jU,bD]
theorem zo:IG 1=λi=>IG 0 i:=by funext i;unfold IG;rw[AT];rfl
theorem Be{b:Nat}(h:b≠0):(λi=>if i=0 then C3 (IG b 0) [b]else IG b i)=IG (b+1):=by
 funext i;unfold IG;by_cases e:i=0
 .subst e;simp only[gG];rw[B4 h];unfold C3;rw[dT]
 simp only[aM e]
theorem AY(b:Nat):(λi=>if i=b then C3 (If b b) [b]else If b i)=If (b+1):=by
 funext i;unfold If;by_cases e:i=b
 .subst e;simp only[gG,Nat.lt_irrefl,fD];rw[aU<|iJ _];rfl
 simp only[aM e];by_cases h:i<b;·rw[aU h,aU oM]
 rw[aM h,aM oM]
theorem bg.grown{b:Nat}(h:bg n w m k B f F M)(c:w.grownBy v (some b))(d:m≠b)(g:∀i,i<k->f i≠b):bg n v m k B f F M :=
 ⟨h.row.of_block (c.block _ h.row.lt λe=>d<|by injection e),λi a=>(h.set i a).of_block (c.block _ (h.set i a).lt λe=>g i a<|by injection e),h.inj,h.o⟩
theorem xf(Y:Option Addr)(n pc U X B c0:Nat)(D:List (List Nat))(C:List Nat)(L1 L L2 M:Nat)(w:World)(bz:Hs (XR w L2 M Y<|D.map Xi))(hs:Hs (n=D.length))(bw:Hs (Xf w L1 L (some ⟨U,X,none⟩) (Xi C)))(h0:Hs (B=C.length))(hn:n<=1000)(h:0<n)(bt:B<=1000)(bv:0<B)(bn:L<=w.heap.size)(bo:M<=w.heap.size)(ho:Hs (∀b∈C,b<n))(bx:Hs (∀a7∈D,a7.length<=2000/\∀E∈a7,E<n)) :
 Calls prog 125 #[.slice Y n pc,Hm U X B c0] w λe w'=>∃G g y,e=.returned (Hl G n n)/\Below w.heap.size w w'/\Ye w' G n ((n+63)/64) g y/\XQ y/\∀b,b<n->∀H,H<n->(Xh (y b) H=true↔Sp (IG n) (If n) (·∈C) (λb=>D.getD b []) b H):=by
 have b7:(n+63)/64<=16:=oM;have b8:n<=64*((n+63)/64):=oM;have af:=Xa<|Th n n w hn oM;have aj:=Xa λbm=>Th n n bm hn oM;generalize (n+63)/64=K at*
 go_in
 go_wp2_with fail
 refine af.mono ?_;rintro e w1⟨G,g,rfl,hG,ax,a1,a4⟩;have N:=Xa ax;have I:=Xa a1;go_wp2_with fail
 refine(aj w1).mono ?_;rintro e F⟨s,k,rfl,b5,V,a2,a5⟩;have aa:=Xa<|Xg N V;have ao:=Xa<|I.keep V;have aq:=Xa a2;have b6:=I.row.lt;have ac:=Xa λi a=>(I.set i a).lt;have S:=Xa a4;have bb:=Xa N.size;have T:=Xa a5;go_wp2_with fail
 have P:Hs (∀i J,i<n->J<n->k i≠g J):=Xa (λi J a hj e=>by have:=ac J hj;have:=T i a;omega);have ba:Hs (∀i,i<n->G≠k i):=Xa (λi a e=>by have:=T i a;omega);have ab:Hs (∀i,i<n->s≠g i):=Xa (λi a e=>by have:=ac i a;omega);have ad:Hs (Ye F G n K g<|IG 0):=Xa (by
  have e:(λ_ _=>0:Nat->Nat->Nat)=IG 0:=by funext i;unfold IG;split<;>rfl
  rw[<-e];exact ao)
 have ap:Hs (Ye F s n K k<|If 0):=Xa (by
  have e:(λ_ _=>0:Nat->Nat->Nat)=If 0:=by funext i;unfold If;rw[aM oM]
  rw[<-e];exact aq)
 go_loopw [18] (λZ wr=>∃b:Nat,b<=n/\Z=Hp b/\Hs (Below w.heap.size w wr)/\Hs (F.heap.size<=wr.heap.size)/\Hs (Ye wr G n K g<|IG b)/\Hs (Ye wr s n K k<|If b)) λZ _=>n-(intOf Z).toNat
 case atStart=>exact⟨0,aN _,rfl,aa,Xa<|aA _,ad,ap⟩
 obtain⟨b,hb,rfl,f,HZ,t,x⟩:=hrel;by_cases m:b<n
 .have k1:=x.row.cell m;have W:=t.row.cell h;go_wp2_with fail
  have v:Hs (Xf (wr.alloc<|.cells #[Hp b] 139) wr.heap.size (wr.heap.size+1) (some ⟨wr.heap.size,0,none⟩) ([b].map Int.ofNat)):=Xa<|UY wr b _;have al:Hs (∀E∈[b],E<64*K):=Xa (λE ht=>by
   have:E=b:=by simpa using ht
   omega)
  have p:=Xa<|x.keep (Xb (Below.refl _ _) (.cells #[Hp b] 139));have o:=Xa<|t.keep (Xb (Below.refl _ _) (.cells #[Hp b] 139));have j:=Xa<|Xb f (.cells #[Hp b] 139);have b1:wr.heap.size+1<=(wr.alloc<|.cells #[Hp b] 139).heap.size:=sP;have cc:=(x.set b m).lt;have ca:=(t.set 0 h).lt;generalize wr.alloc _=wa at*;refine(Tz (k b) K K 1 1 (If b b) _ [b] wr.heap.size (wr.heap.size+1) wa v (Xa rfl) oM al oM (Xa<|tA b b) (Xa<|p.set b m) b1 oM).mono ?_;rintro e d⟨rfl,z,az⟩;have R:Hs (Ye d s n K k<|If (b+1)):=Xa (by rw[<-AY];exact p.wrote m z az);have u:=Xa (o.grown z (ba b m) λi a e=>P b i m a e.symm);have O:=Xa (j.grown z j.size λr e=>by cases e;have:=T b m;have:=bb.o;omega);have ar:Hs (F.heap.size<=d.heap.size):=Xa<|oP z.size HZ.o;by_cases l:b=0
  .have Q:Hs (Ye d G n K g<|IG (b+1)):=Xa (by subst l;rw[zo];exact u);have bp:((b:Int)==0)=true:=by simp[l]
   have bq:((b:Int) != 0)=false:=by simp[l]
   go_wp2;exact⟨⟨b+1,oM,gM,O,ar,Q,R⟩,by simp[intOf];omega⟩
  have bp:((b:Int)==0)=false:=by simp[l]
  have bq:((b:Int) != 0)=true:=by simp[l]
  have W:=u.row.cell h;go_wp2_with fail
  have v:Hs (Xf (d.alloc<|.cells #[Hp b] 139) d.heap.size (d.heap.size+1) (some ⟨d.heap.size,0,none⟩) ([b].map Int.ofNat)):=Xa<|UY d b _;have p:=Xa<|R.keep (Xb (Below.refl _ _) (.cells #[Hp b] 139));have o:=Xa<|u.keep (Xb (Below.refl _ _) (.cells #[Hp b] 139));have j:=Xa<|Xb O (.cells #[Hp b] 139);have b3:d.heap.size+1<=(d.alloc<|.cells #[Hp b] 139).heap.size:=sP;have cb:=(u.set 0 h).lt;generalize d.alloc _=wb at*;refine(Tz (g 0) K K 1 1 (IG b 0) _ [b] d.heap.size (d.heap.size+1) wb v (Xa rfl) oM al oM (Xa<|tC b 0) (Xa<|o.set 0 h) b3 oM).mono ?_;rintro e w6⟨rfl,A,a0⟩;have Q:Hs (Ye w6 G n K g<|IG (b+1)):=Xa (by rw[<-Be l];exact o.wrote h A a0);have bf:=Xa (p.grown A (ab 0 h) λi a=>P i 0 a h);have a8:=Xa (j.grown A j.size λr e=>by cases e;exact S 0 h);have bl:Hs (F.heap.size<=w6.heap.size):=Xa<|oP A.size ar.o;go_wp2;exact⟨⟨b+1,oM,gM,a8,bl,Q,bf⟩,by simp[intOf];omega⟩
 have br:b=n:=oM;subst br;go_wp2_with fail
 refine(wk U X B c0 C L1 L Y b pc D L2 M G s b K g k (IG b) (If b) wr (Xa<|bw.keep (f.mono bn)) h0 bt bv (Xa<|bz.keepS λr _ h2=>(f.mono bo).block r h2) hs (Xa hs.symm) oM (oN f.size) (oN f.size) t x (Xa<|tC b) (Xa<|tA b) (Xa λi a b4=>by have:=S i a;omega) ab P ho bx).mono ?_;rintro e w7⟨rfl,q,y,a6,a3,ay⟩;have a9:Hs (Below w.heap.size w w7):=Xa ⟨q.os.trans f.os,q.tape.trans f.tape,q.output.trans f.output,aJ f.size q.size,λr hk=>(q.block r (oN f.size) λi a e=>by have:=S i a;omega).trans (f.block r hk)⟩;have bd:=Xa a3;have bi:=Xa a6;have bc:=Xa ay;go_wp2;go_ret;exact⟨G,g,y,rfl,a9,bd,bi,λc hc H hx=>bc c hc H oM⟩
section
def VB(b:Nat->Nat->Nat)(a:List Nat):Nat->Nat->Int
 |0,_=>-1
 |i+1,z=>match (a.take i).reverse.find? (λc=>!Xh (b<|a.getD i 0) c)with
  |some c=>if z=a.getD i 0 then (c:Int)else VB b a i z
  |none=>VB b a i z
theorem rM{c:Nat->Nat->Nat}{a:List Nat}{i b:Nat}(h:(a.take i).reverse.find? (λb=>!Xh (c<|a.getD i 0) b)=some b)(z:Nat):VB c a (i+1) z=if z=a.getD i 0 then (b:Int)else VB c a i z:=by
 rw[VB,h]
theorem rh{b:Nat->Nat->Nat}{a:List Nat}{i:Nat}(h:(a.take i).reverse.find? (λc=>!Xh (b<|a.getD i 0) c)=none)(z:Nat):VB b a (i+1) z=VB b a i z:=by
 rw[VB,h]
theorem tI{b:List Nat}{N:Nat}(g:∀z∈b,z<N)(d:0<N){a:Nat}(c:a<=b.length):(K7 (WF g d) a 0).map (λx=>x.1.2)=(b.take a).reverse:=by
 apply mG;·simp[K7,c]
 intro j e h;have i:j<a:=by simpa [K7]using e
 have f:a-1-j<b.length:=oM;simp[K7,WF,jZ c,aC f]
theorem tQ{b:Type}(f:Nat->b){len:Nat}:∀(k:Nat),k<=len->∃r,K7 f len 0=K7 f len k++r
 |0,_=>⟨[],sP⟩
 |k+1,h=>by
  obtain⟨r,a⟩:=tQ f (len:=len) k oM;exact⟨f k::r,by rw[a,nU f<|show k<len from h];simp⟩
theorem AB{d:List Nat}{N:Nat}(b:∀z∈d,z<N)(a:0<N){len k:Nat}(h:len<=d.length)(g:k<=len){p:Nat->Bool}{c:List (Pb N)}{x:Pb N}(e:c++[x]=K7 (WF b a) len k)(i:∀y∈c,p y.1.2=false)(m:p x.1.2=true):(d.take len).reverse.find? p=some x.1.2:=by
 let⟨r,j⟩:=tQ (WF b a) k g;rw[<-tI b a h,j,<-e,bG,bG,List.find?_append,List.find?_append];have f:(c.map λx=>x.1.2).find? p=none:=by
  rw[lS];intro y n;obtain⟨u,l,rfl⟩:=aY.1 n;rw[i u l];decide
 rw[f];simp[m]
theorem Ae{a:List Nat}{N:Nat}(c:∀z∈a,z<N)(b:0<N){len:Nat}(d:len<=a.length){p:Nat->Bool}(e:∀y∈K7 (WF c b) len 0,p y.1.2=false):(a.take len).reverse.find? p=none:=by
 rw[<-tI c b d,lS];intro y g;obtain⟨u,f,rfl⟩:=aY.1 g;rw[e u f];decide
theorem nu{Ws:Nat->Nat->Nat}{a:List Nat}{b:Nat}:∀(i:Nat),i<=a.length->(∀j,j<i->a.getD j 0≠b)->VB Ws a i b=-1
 |0,_,_=>rfl
 |i+1,hi,h=>by
  have c:=nu (Ws:=Ws) i oM λj d=>h j oM;rw[VB];split;·rw[aM λe=>h i oM e.symm];exact c
  exact c
theorem rI{Ws:Nat->Nat->Nat}{ord:List Nat}{b i:Nat}:∀(m:Nat),(∀j,i<=j->j<i+m->ord.getD j 0≠b)->VB Ws ord (i+m) b=VB Ws ord i b
 |0,_=>rfl
 |m+1,h=>by
  have c:=rI (Ws:=Ws) (i:=i) m λj a d=>h j a oM;rw[<-c,<-Nat.add_assoc,VB];split;·rw[aM λe=>h (i+m) oM oM e.symm]
  rfl
variable {tg: Nat -> List Nat}
theorem UR{n:Nat}{Ws:Nat->Nat->Nat}{o:List Nat}(t:o.Nodup)(l:∀x,x∈o↔Re tg x)(w:∀x,Re tg x->x<n)(y:∀x a,JO tg a x->a≠x->LE o a x)(A:∀b,b<n->∀x,x<n->(Xh (Ws b) x=true↔Av tg x b)):YX tg n ((List.range n).map (VB Ws o o.length)):=by
 refine⟨sP,λb r=>?_⟩;have f:((List.range n).map (VB Ws o o.length)).getD b 0=VB Ws o o.length b:=by simp[r]
 rw[f];by_cases m:b∈o
 .let⟨i,g,e⟩:=bR m;have u:=gY.1 (show o.Pairwise (·≠·)from t);have h:∀j (d:j<o.length),o.getD j 0=o[j]:=λj d=>by simp[d]
  have p:VB Ws o o.length b=VB Ws o (i+1) b:=by
   have:=rI (Ws:=Ws) (ord:=o) (b:=b) (i:=i+1) (o.length-(i+1)) (λj p q=>by
    have d:j<o.length:=oM;rw[h j d,<-e];exact λf=>u i j g d oM f.symm)
   rw[show i+1+(o.length-(i+1))=o.length by omega]at this;exact this
  have q:VB Ws o i b=-1:=nu i oM (λj d=>by
   have s:j<o.length:=oM;rw[h j s,<-e];exact u j i s g d)
  have z:∀a∈o,(!Xh (Ws<|o.getD i 0) a)=true↔¬Av tg a o[i]:=λa ha=>by
   rw[h i g,<-A o[i] (by rw[e];exact r) a (w a<|(l a).1 ha)];simp
  have k:=zY t l y g z;rw[p];cases hf:(o.take i).reverse.find? (λa=>!Xh (Ws<|o.getD i 0) a)with
  |some a=>
   rw[hf]at k;rw[rM hf,h i g,e,aU rfl];exact bC ⟨a,by rw[<-e];exact k,rfl⟩
  |none=>
   rw[hf]at k;rw[rh hf,q];exact aZ ⟨by rw[<-e];exact k,rfl⟩
 refine aZ ⟨λc v=>absurd ((l b).2 v.rb) m,nu _ (aA _) λj d f=>m ?_⟩;have:o.getD j 0=o[j]:=by simp[d]
 rw[<-f,this];exact aH d
end
theorem Ww(a:List Ph)(p:Ph):XZ (a++[p])=XZ a+(1+p.args.length):=by simp[XZ]
theorem Ux(a:List Xe)(x:Xe):Xo (a++[x])=Xo a+(1+x.is.length+XZ x.ps):=by simp[Xo,Ul]
theorem pY(a:List Ph):a.length<=XZ a:=by
 induction a with
 |nil=>simp
 |cons p a b=>simp only[XZ,eH,kX,bA]at b |-;omega
theorem Wm(a:List Ph)(k:Nat):XZ (a.take k)<=XZ a:=Tw _ _ _
theorem Up(a:List Xe)(k:Nat):Xo (a.take k)<=Xo a:=Tw _ _ _
theorem pO(v:Int)(d:Option Addr)(n c:Nat)(a:List Xe)(L B:Nat)(w:World)(ha:Hs (Xp w L B d a))(x:Hs (n=a.length))(hn:n<=1048576)(hs:Xo a<=1048576)(z:B<=w.heap.size) :
 Calls prog 44 #[.agg #[Hp v,.slice d n c]] w λe A=>e=.returned (Hp<|Xo a)/\Below w.heap.size w A:=by
 go_in
 go_wp2;have p:=Xb (Below.refl w.heap.size w) (.cells #[Hp v,.slice d n c] 25);have V:(w.alloc<|.cells #[Hp v,.slice d n c] 25).cell? (Hk w.heap.size 1)=some (.slice d n c):=sP;generalize w.alloc _=w1 at*
 go_loop [3,4] (λu i=>∃k:Nat,k<=n/\i=Hp k/\u=Hp (Xo (a.take k):Nat)) λ_ i=>n-(intOf i).toNat
 case atStart=>exact⟨0,aN _,rfl,rfl⟩
 obtain⟨k,Y,rfl,rfl⟩:=hrel;by_cases Z:k<n
 .have s:k<a.length:=oN x.o;obtain⟨b,ac,rfl,⟨_,R⟩,q⟩:=ha k s;let⟨pa,pc,ia,ic,K,e1,_,t,_⟩:=q.keep (p.mono z) oM;have y:=Xa t;have f:Hs (Xo (a.take<|k+1)=Xo (a.take k)+(1+a[k].is.length+XZ a[k].ps)):=by show _=_;rw[X7 _ _ s,Ux]
  have g:=Up a<|k+1;have C:=Xa g;have O:Xo (a.take k)+(1+a[k].is.length+XZ a[k].ps)<=1048576:=oN f.o;have ab:a[k].ps.length<=1048576:=oN<|pY a[k].ps;clear q t g;generalize a[k]=X at*;generalize m:Xo (a.take k)=S at*;have F:=Xa m;clear m;go_wp2
  go_loop [3,5] (λu i=>∃j:Nat,j<=X.ps.length/\i=Hp j/\u=Hp (S+(1+X.is.length)+XZ (X.ps.take j):Nat)) λ_ i=>X.ps.length-(intOf i).toNat
  case atStart=>exact⟨0,aN _,rfl,by simp[XZ];try omega⟩
  obtain⟨j,W,rfl,rfl⟩:=hrel;by_cases r:j<X.ps.length
  .obtain⟨I,o',rfl,⟨_,U⟩,H,J,M,N,_⟩:=y j r;have h:Hs (XZ (X.ps.take<|j+1)=XZ (X.ps.take j)+(1+X.ps[j].args.length)):=by show _=_;rw[X7 _ _ r,Ww]
   have l:=Wm X.ps<|j+1;have Q:XZ (X.ps.take j)+(1+X.ps[j].args.length)<=XZ X.ps:=oN h.o;have D:=Xa l;clear l;generalize X.ps[j]=P at*;generalize o:XZ (X.ps.take j)=T at*;have G:=Xa o;clear o;go_wp2
   go_round
   case rel=>exact⟨j+1,oM,gM,by rw[h.o];go_num⟩
   simp[intOf];omega
  have e:=aW (l:=X.ps) (i:=j) oM;have E:=Xa e;clear e;go_wp2
  go_round
  case rel=>exact⟨k+1,oM,gM,by rw[f.o,E.o];go_num⟩
  simp[intOf];omega
 have e:=aW (l:=a) (i:=k) (oN x.o);have E:=Xa e;clear e;go_wp2;go_ret;exact⟨Cf (by rw[E.o]),p⟩
theorem pW{F:Fn}(a:0<=F.values)(b:F.values<=2000)(c:1<=F.blocks.length)(d:F.blocks.length<=1000)(e:Xo F.blocks<=4000):Y6 F=true:=by simp[Y6, *]
theorem UE{F:Fn}(a:4000<Xo F.blocks):Y6 F=false:=by simp[Y6];omega
theorem Wt{F:Fn}(h:¬(0<=F.values/\F.values<=2000/\1<=F.blocks.length/\F.blocks.length<=1000)):Y6 F=false:=by simp[Y6];omega
theorem Uz(v:Int)(x:Option Addr)(n c:Nat)(a:List Xe)(T B:Nat)(w:World)(ha:Hs (Xp w T B x a))(l:Hs (n=a.length))(hn:n<=1048576)(hs:Xo a<=1048576)(hB:B<=w.heap.size) :
 Calls prog 72 #[.agg #[Hp v,.slice x n c]] w λe w'=>e=.returned (.bool (Y6 ⟨v,a⟩))/\Below w.heap.size w w':=by
 by_cases I:0<=v/\v<=2000/\1<=n/\n<=1000
 .let⟨Z,m,y,d3⟩:=I
  go_in
  go_wp2
  go_loopw [3,31] (λu i wr=>∃k:Nat,k<=n/\i=Hp k/\u=Hp (Xo (a.take k):Nat)/\Xo (a.take k)<=4000/\Below w.heap.size w wr) λ_ i _=>n-(intOf i).toNat
  case atStart=>exact⟨0,aN _,rfl,rfl,by simp[Xo],Xb (Below.refl _ _) _⟩
  obtain⟨k,hk,rfl,rfl,L,h⟩:=hrel;by_cases ap:k<n
  .have K:k<a.length:=oN l.o;obtain⟨b,ax,rfl,⟨_,al⟩,H⟩:=ha k K;let⟨P,Q,N,O,e0,e1,⟨e2,e3,e4,e5⟩,M,_⟩:=H.keep (h.mono hB) oM;have R:=Xa<|M.keep (Xb (Below.refl wr.heap.size wr) (.cells #[.slice P a[k].ps.length Q,.slice N a[k].is.length O,Hp a[k].te.kind,Hp a[k].te.a,Hp a[k].te.to,Hp a[k].te.els] 46) |>.mono (oN h.size));have g:Hs (Xo (a.take<|k+1)=Xo (a.take k)+(1+a[k].is.length+XZ a[k].ps)):=by show _=_;rw[X7 _ _ K,Ux]
   have C:=Up a<|k+1;have t:=Xa C;have af:Xo (a.take k)+(1+a[k].is.length+XZ a[k].ps)<=1048576:=oN g.o;have aq:a[k].ps.length<=1048576:=oN<|pY a[k].ps;have p:=Xa<|Xb h (.cells #[.slice P a[k].ps.length Q,.slice N a[k].is.length O,Hp a[k].te.kind,Hp a[k].te.a,Hp a[k].te.to,Hp a[k].te.els] 46);have ar:=h.size;generalize a[k]=X at*;generalize F:Xo (a.take k)=S at*;have HS:=Xa F;go_wp2
   go_loopw [3,44] (λu i wi=>∃j:Nat,j<=X.ps.length/\i=Hp j/\u=Hp (S+(1+X.is.length)+XZ (X.ps.take j):Nat)/\Below w.heap.size w wi) λ_ i _=>X.ps.length-(intOf i).toNat
   case atStart=>exact⟨0,aN _,rfl,by simp[XZ];try omega,p⟩
   obtain⟨j,hj,rfl,rfl,f⟩:=hrel;by_cases J:j<X.ps.length
   .obtain⟨d,o,rfl,⟨_,ao⟩,W,Y,z,A,_⟩:=R j J
    have ac:wr.cell? (Hk d<|o + j*2)=some (Hp X.ps[j].dst):=by
     have s:=(p.cell (p:=Hk d<|o + j*2) (by show d < _;omega));exact oB f (s.symm.trans z) (by show d < _;omega)
    have ad:wr.cell? (Hk d<|o + j*2+1)=some (.slice W X.ps[j].args.length Y):=by
     have s:=(p.cell (p:=Hk d<|o + j*2+1) (by show d < _;omega));exact oB f (s.symm.trans A) (by show d < _;omega)
    have D:Hs (XZ (X.ps.take<|j+1)=XZ (X.ps.take j)+(1+X.ps[j].args.length)):=by show _=_;rw[X7 _ _ J,Ww]
    have h4:=Wm X.ps<|j+1;have aj:XZ (X.ps.take j)+(1+X.ps[j].args.length)<=XZ X.ps:=oN D.o;generalize X.ps[j]=U at*;generalize G:XZ (X.ps.take j)=V at*;have HT:=Xa G;by_cases r:4000<S+(1+X.is.length)+(V+(1+U.args.length))
    .go_wp2;go_ret;exact⟨Xl (UE (by have:=g.o;have:=t.o;show 4000<Xo a;omega)).symm,Xb f _⟩
    go_wp2;exact⟨⟨j+1,oM,gM,by rw[D.o];go_num,Xb f _⟩,by simp[intOf];omega⟩
   have E:=Xa<|aW (l:=X.ps) (i:=j) oM;by_cases r:4000<S+(1+X.is.length)+XZ (X.ps.take j)
   .go_wp2;go_ret;exact⟨Xl (UE (by have:=g.o;have:=t.o;have e:=E.o;rw[e]at r;show 4000<Xo a;omega)).symm,f⟩
   go_wp2;have e:=E.o;rw[e]at r |-;exact⟨⟨k+1,oM,gM,by rw[g.o];go_num,by rw[g.o];omega,f⟩,by simp[intOf];omega⟩
  go_wp2;go_ret;have e:=aW (l:=a) (i:=k) (oN l.o);rw[e]at L;exact⟨Xl (pW Z m (by have:=l.o;show 1<=a.length;omega) (by have:=l.o;show a.length<=1000;omega) L).symm,h⟩
 have hR:Hs (Y6 ⟨v,a⟩=false):=Wt (F:=⟨v,a⟩) (by have:=l.o;show ¬(0<=v/\v<=2000/\1<=a.length/\a.length<=1000);omega);have ab:v<0\/(0<=v/\2000<v)\/(0<=v/\v<=2000/\n<1)\/(0<=v/\v<=2000/\1<=n/\1000<n):=oM;rcases ab with q|⟨q,m⟩|⟨q,m,y⟩|⟨q,m,y,d3⟩
 all_goals
  go_in
  go_wp2;go_ret;exact⟨Xl hR.symm,Xb (Below.refl _ _) _⟩
theorem AK{F:Fn}(a:k<F.blocks.length)(h:Jf F.values F.blocks.length F.blocks[k].te=false):J2 F=false:=JN a h
theorem wm(v:Int)(l:Option Addr)(n c:Nat)(a:List Xe)(L B:Nat)(w:World)(ha:Hs (Xp w L B l a))(h:Hs (n=a.length))(T:n<=1048576)(D:B<=w.heap.size)(E:Hs (T7 w)) :
 Calls prog 73 #[.agg #[Hp v,.slice l n c]] w λe N=>e=.returned (.bool (J2 ⟨v,a⟩))/\Below w.heap.size w N:=by
 have Q:∀t,(w.alloc t).heap.size=w.heap.size+1:=λt=>sP
 go_in
 go_wp2
 go_loopw [9] (λs wr=>∃k:Nat,k<=n/\s=Hp k/\Below w.heap.size w wr/\w.heap.size<wr.heap.size/\wr.cell? (Hk w.heap.size 0)=some (Hp v)/\wr.cell? (Hk w.heap.size 1)=some (.slice l n c)/\Hs ((a.take k).all (λx=>Jf v a.length x.te)=true)) λs _=>n-(intOf s).toNat
 case atStart=>exact⟨0,aN _,rfl,Xb (Below.refl _ _) _,sP,sP,sP,rfl⟩
 obtain⟨k,R,rfl,g,A,F,G,u⟩:=hrel;by_cases S:k<n
 .have q:k<a.length:=oN h.o;obtain⟨b,t,rfl,⟨_,P⟩,y⟩:=ha k q;let⟨W,Y,U,V,O,e1,⟨e2,e3,e4,e5⟩,_,_⟩:=y.keep (g.mono D) oM;have j:=Xa<|E.keep g;have z:=Xa λm=>AK (F:=⟨v,a⟩) (k:=k) q m;have C:=Xa λm=>XY (p:=λx:Xe=>Jf v a.length x.te) q u m;rw[<-h.o]at C;clear y;generalize a[k]=X at*;have K:X.te=⟨X.te.kind,X.te.a,X.te.to,X.te.els⟩:=rfl;have o:Hs (Jf v n X.te=(Zu v 1 n ⟨X.te.kind,X.te.a,X.te.to,X.te.els⟩&&!(X.te.kind==2&&X.te.to==X.te.els))):=rfl;clear K;cases hr:Zu v 1 n ⟨X.te.kind,X.te.a,X.te.to,X.te.els⟩
  .have f:=Xa hr;clear hr;go_wp2_with fail
   refine(Kn _ _ _ _ _ _ _ _ ?q1).mono ?_
   case q1=>exact j.keep<|Xb (Xb (Below.refl _ _) _) _
   rintro e i⟨rfl,d⟩;rw[Xw f];go_wp2;go_ret;exact⟨Xl (Xw z (by have e:=h.o;show Jf v a.length X.te=false;rw[<-e,o.o,f.o];rfl)).symm,Xg (Xb (Xb g _) _) d⟩
  have f:=Xa hr;clear hr;by_cases hq:X.te.kind=2/\X.te.to=X.te.els
  .have q1:(X.te.kind==2)=true:=by simp[hq.1]
   have q2:(X.te.to==X.te.els)=true:=by simp[hq.2]
   clear hq;go_wp2_with fail
   refine(Kn _ _ _ _ _ _ _ _ ?q1).mono ?_
   case q1=>exact j.keep<|Xb (Xb (Below.refl _ _) _) _
   rintro e i⟨rfl,d⟩;rw[Xw f];have r:=d.size;simp at r;let⟨H,I⟩:=Hg d;have M:wr.heap.size+1<i.heap.size:=oM;go_wp2;go_ret;exact⟨Xl (Xw z (by have e:=h.o;show Jf v a.length X.te=false;rw[<-e,o.o,f.o,q1,q2];rfl)).symm,Xg (Xb (Xb g _) _) d⟩
  have J:(X.te.kind==2)=false\/((X.te.kind==2)=true/\(X.te.to==X.te.els)=false):=by simp only[iS,iA];omega
  clear hq;rcases J with q1|⟨q1,q2⟩
  all_goals
   go_wp2_with fail
   refine(Kn _ _ _ _ _ _ _ _ ?q1).mono ?_
   case q1=>exact j.keep<|Xb (Xb (Below.refl _ _) _) _
   rintro e i⟨rfl,d⟩;rw[Xw f];have r:=d.size;simp at r;let⟨H,I⟩:=Hg d;have M:wr.heap.size+1<i.heap.size:=oM;go_wp2;have p:=Xg (Xb (Xb (Below.refl wr.heap.size wr) _) _) d;exact⟨⟨k+1,oM,gM,Xg g p,oM,oB p F A,oB p G A,by
    have e:=h.o;rw[<-e];exact Xw C (by show Jf v n X.te=true;rw[o.o,f.o];first|rw[q1];rfl|rw[q1,q2];rfl)⟩,by simp[intOf];omega⟩
 go_wp2;go_ret;exact⟨Xl (YE (xs:=a) (k:=k) (oN h.o) u).symm,g⟩
theorem W4(v:Int)(r:Option Addr)(n c:Nat)(a:List Xe)(L B:Nat)(w:World)(ha:Hs (Xp w L B r a))(A:Hs (n=a.length))(hn:n<=1048576)(I:Hs (∀x∈a,x.is.length<=1048576))(F:B<=w.heap.size)(G:Hs (Uw w)) :
 Calls prog 74 #[.agg #[Hp v,.slice r n c]] w λl R=>l=.returned (.bool (Z0 ⟨v,a⟩))/\Below w.heap.size w R:=by
 go_in
 go_wp2
 go_loopw [10] (λi wr=>∃k:Nat,k<=n/\i=Hp k/\Below w.heap.size w wr/\w.heap.size<wr.heap.size/\wr.cell? (Hk w.heap.size 0)=some (Hp v)/\Hs ((a.take k).all (λx=>x.is.all<|Yw v 10)=true)) λi _=>n-(intOf i).toNat
 case atStart=>exact⟨0,aN _,rfl,Xb (Below.refl _ _) _,sP,sP,rfl⟩
 obtain⟨k,hk,rfl,g,M,H,s⟩:=hrel;by_cases ad:k<n
 .have f:k<a.length:=oN A.o;obtain⟨b,aj,rfl,⟨_,aa⟩,u⟩:=ha k f;let⟨pa,pc,ia,ic,D,e1,⟨e2,e3,e4,e5⟩,_,z⟩:=u.keep (g.mono F) oM;have J:=Xa λh=>JN (p:=λx:Xe=>x.is.all<|Yw v 10) (xs:=a) (k:=k) f h;have O:=Xa λh=>XY (p:=λx:Xe=>x.is.all<|Yw v 10) f s h;have ac:=I _<|aH f;have C:=Xa z;have af:=g.size;generalize a[k]=X at*;go_wp2
  go_loopw [17] (λi T=>∃j:Nat,j<=X.is.length/\i=Hp j/\Below wr.heap.size wr T/\Hs ((X.is.take j).all (Yw v 10)=true)) λi _=>X.is.length-(intOf i).toNat
  case atStart=>exact⟨0,aN _,rfl,Xb (Below.refl _ _) _,rfl⟩
  obtain⟨j,hj,rfl,e,t⟩:=hrel;have m:=Xg g e;have E:=oB e H M;have N:w.heap.size<wr.heap.size:=oN e.size;by_cases p:j<X.is.length
  .obtain⟨U,o',rfl,⟨_,ab⟩,y⟩:=C j p;let⟨V,W,Y,Z,g4⟩:=y.keep e oM;have q:=Xa<|G.keep m;have K:=Xa λh=>JN (p:=Yw v 10) (xs:=X.is) (k:=j) p h;have Q:=Xa λh=>XY (p:=Yw v 10) p t h;generalize X.is[j]=P at*;cases hr:Yw v 10 ⟨P.op,P.dst,P.a,P.b,P.imm⟩
   .have d:=Xa hr;go_wp2_with fail
    refine(TI _ _ _ _ _ _ _ ?q1).mono ?_
    case q1=>exact q.keep<|Xb (Below.refl _ _) _
    rintro l S⟨rfl,o⟩;rw[Xw d];go_wp2;go_ret;exact⟨Xl (Xw J<|Xw K d).symm,Xg (Xb m _) o⟩
   have d:=Xa hr;go_wp2_with fail
   refine(TI _ _ _ _ _ _ _ ?q1).mono ?_
   case q1=>exact q.keep<|Xb (Below.refl _ _) _
   rintro l S⟨rfl,o⟩;rw[Xw d];go_wp2;exact⟨⟨j+1,oM,gM,Xg (Xb e _) o,Xw Q d⟩,by simp[intOf];omega⟩
  go_wp2;exact⟨⟨k+1,oM,gM,m,N,E,Xw O<|YE (xs:=X.is) (k:=j) oM t⟩,by simp[intOf];omega⟩
 go_wp2;go_ret;exact⟨Xl (YE (xs:=a) (k:=k) (oN A.o) s).symm,g⟩
def Ii(w:World)(G m:Nat)(D:List Int):Prop:=∃f,w.rowIs G 2 m f/\∀i,i<m->f i=.int .i64 (E9 D i:Nat)
theorem Ii.below(h:Ii w n m l)(k:Below w.heap.size w v):Ii v n m l:=by
 let⟨f,a,b⟩:=h;exact⟨f,a.of_block<|k.block _ a.lt,b⟩
theorem Ii.lt(h:Ii w n m l):n<w.heap.size:=by
 let⟨f,a,_⟩:=h;exact a.lt
theorem Ii.cell(h:Ii w n m l)(b:k<m):w.cell? (Hk n k)=some (Hp (E9 l k:Nat))/\w.frozen? (Hk n k)=false:=by
 let⟨f,a,c⟩:=h;exact⟨by rw[a.cell b,c k b],a.frozen k⟩
theorem wM(D:List Int)(x v:Int):E9 (D++[x]) v=E9 D v+if x=v then 1 else 0:=by
 simp only[E9,eU,aQ];by_cases h:x=v<;>simp[h]
theorem WZ(D:List Int)(v:Int):E9 D v<=D.length:=fJ _ _
theorem Ii.step(h:Ii w n m l)(d:t=((E9 l k:Nat):Int)+1):Ii (w.setCell ⟨n,k,none⟩ (.int .i64 t)) n m (l++[(k:Int)]):=by
 let⟨f,a,b⟩:=h;refine⟨_,a.set k _,λi c=>?_⟩;rw[wM];by_cases e:i=k
 .subst e;simp[d]
 have e2:¬(k:Int)=(i:Int):=oM;simp only[e,fD,e2,fW];exact b i c
theorem Ii.born(w:World)(m:Nat):Ii (w.alloc<|.cells (madeCells #[.int .i64 0] m) 2) w.heap.size m []:=⟨_,dG _ _ _ _,λi _=>by simp[E9]⟩
def uf(a:List Xe)(m:Nat):Prop:=∀x∈a,(∀p∈x.ps,0<=p.dst/\p.dst<(m:Int))/\∀y∈x.is,1<=y.op/\y.op<=10/\(dB y.op=true->0<=y.dst/\y.dst<(m:Int))
theorem WE(m:Nat)(J:Option Addr)(n c:Nat)(a:List Xe)(L B:Nat)(w:World)(ha:Hs (Xp w L B J a))(hx:Hs (n=a.length))(hn:n<=1048576)(hm:m<=2000)(hs:Hs (Xx a<=1048576))(hB:B<=w.heap.size)(hT:Hs (Uw w))(hd:Hs (uf a m)) :
 Calls prog 76 #[.agg #[Hp m,.slice J n c]] w λy w'=>y=.returned (.bool (JM ⟨m,a⟩))/\Below w.heap.size w w':=by
 have a7:=fM (P:=prog) 27 2 (Hp 0) 8 underlying27 Nv rfl .i64 .i64 m oM oM
 go_in
 go_wp2
 go_loopw [18] (λi wr=>∃k:Nat,k<=n/\i=Hp k/\Below w.heap.size w wr/\Hs (Ii wr (w.heap.size+1) m (BX<|a.take k))) λi _=>n-(intOf i).toNat
 case atStart=>exact⟨0,aN _,rfl,Xb (Xb (Below.refl _ _) _) _,by have:=Ii.born (w.alloc<|.cells #[Hp m,.slice J n c] 25) m;rw[aO]at this;exact this⟩
 obtain⟨k,hk,rfl,u,A⟩:=hrel;by_cases a6:k<n
 .have C:k<a.length:=oN hx.o
  obtain⟨b,ba,rfl,⟨_,a3⟩,R⟩:=ha k C;have HC:=Xa R;have a0:Hs (BX (a.take<|k+1)=BX (a.take k)++(XG a[k].ps++XI a[k].is)):=by
   show _=_;rw[X7 _ _ C,U0];rfl
  have a4:(BX<|a.take k).length+(a[k].ps.length+JG a[k].ps+a[k].is.length)<=1048576:=by
   have z:=UX a<|k+1;rw[X7 _ _ C,Vm]at z;have h2:=KP<|a.take k;have h:=hs.o;have h4:ZZ a[k]=a[k].ps.length+JG a[k].ps+a[k].is.length:=rfl;omega
  have a8:a[k].ps.length<=1048576:=oM;have a5:a[k].is.length<=1048576:=oM;let⟨af,aj⟩:=hd _<|aH C;have ap:=Xa af;have aq:=Xa aj;let⟨pa,pc,F,ic,e0,e1,⟨e2,e3,e4,e5⟩,hp,hi⟩:=R.keep (u.mono hB) oM;have Y:=Xa hp;have V:=Xa hi;have r:=Xa<|A.below (Xb (Below.refl wr.heap.size wr) (.cells #[.slice pa a[k].ps.length pc,.slice F a[k].is.length ic,Hp a[k].te.kind,Hp a[k].te.a,Hp a[k].te.to,Hp a[k].te.els] 46));have a1:=A.lt;generalize hX:a[k]=X at*;generalize BX (a.take k)=D at*;have a9:=u.size;go_wp2;generalize Z:wr.heap.size=M at*;have W:=Xa Z
  go_loopw [25] (λi d=>∃j:Nat,j<=X.ps.length/\i=Hp j/\Below w.heap.size w d/\M<d.heap.size/\d.cell? (Hk M 1)=some (.slice F X.is.length ic)/\Hs (Ii d (w.heap.size+1) m (D++XG (X.ps.take j)))/\Hs (Jw d L B pa X.ps)/\Hs (YY d L B F X.is)) λi _=>X.ps.length-(intOf i).toNat
  case atStart=>
   have ax:=Xw W;subst ax;exact⟨0,aN _,rfl,Xb u _,sP,sP,by show Ii _ _ _ _;simpa [XG]using r.o,Y.keep (Xb (Below.refl wr.heap.size wr) _ |>.mono oM),V.keep (Xb (Below.refl wr.heap.size wr) _ |>.mono oM)⟩
  obtain⟨j,hj,rfl,f,E,ad,s,S,l⟩:=hrel;have al:=f.size;by_cases e:j<X.ps.length
  .obtain⟨b',o',rfl,⟨_,ay⟩,aa,cc,N,O,_⟩:=S j e;have h:Hs (D++XG (X.ps.take<|j+1)=(D++XG (X.ps.take j))++[X.ps[j].dst]):=by show _=_;rw[X7 _ _ e,Wj,cK]
   have hl:(D++XG (X.ps.take j)).length<=1048576:=by simp[XG];omega
   let⟨H,q1⟩:=ap _<|aH e;generalize X.ps[j]=P at*;generalize D++XG (X.ps.take j)=v at*;let⟨K,ar⟩:=P;dsimp only at H q1 N O h;obtain⟨t,rfl⟩:=bX H;have T:t<m:=oM;have g:=s.below<|Xb (Below.refl wr.heap.size wr) (.cells #[Hp t,.slice aa ar.length cc] 106);let⟨k0,U⟩:=g.cell T;have az:=WZ v t;have x:=Xa g;generalize hQ:E9 v t=Q at*;have o:=Xa hQ;go_wp2;refine⟨⟨j+1,oM,gM,(Xb f _).setCell (by dsimp only;omega) _,by rw[Xd];simp;omega,?_,?_,?_,?_⟩,by simp[intOf];omega⟩
   .rw[cJ _ _ _ _<|by intro y;cases y;omega];exact oB (Xb (Below.refl wr.heap.size wr) _) ad E
   .rw[h.o];exact x.step<|by rw[o.o]
   .exact S.keepS<|(YA.of_below (Xb (Below.refl wr.heap.size wr) _ |>.mono oM)).setCell (aZ<|by dsimp only;omega) _
   exact l.keepS<|(YA.of_below (Xb (Below.refl wr.heap.size wr) _ |>.mono oM)).setCell (aZ<|by dsimp only;omega) _
  have p:=Xa<|aW (l:=X.ps) (i:=j) oM;go_wp2
  go_loopw [40] (λi d=>∃j:Nat,j<=X.is.length/\i=Hp j/\Below w.heap.size w d/\M<d.heap.size/\Hs (Ii d (w.heap.size+1) m (D++XG X.ps++XI (X.is.take j)))/\Hs (YY d L B F X.is)) λi _=>X.is.length-(intOf i).toNat
  case atStart=>exact⟨0,aN _,rfl,f,E,by have:=s.o;rw[p.o]at this;show Ii _ _ _ _;simpa [XI]using this,l⟩
  obtain⟨j,hj,rfl,f,E,s,l⟩:=hrel;have al:=f.size;by_cases e:j<X.is.length
  .obtain⟨b',o',rfl,⟨_,ay⟩,N,O,g2,g3,g4⟩:=l j e;have h:Hs (D++XG X.ps++XI (X.is.take<|j+1)=(D++XG X.ps++XI (X.is.take j))++(if dB X.is[j].op then [X.is[j].dst]else [])):=by show _=_;rw[X7 _ _ e,Vx,<-cK]
   have hl:(D++XG X.ps++XI (X.is.take j)).length<=1048576:=by have:=TP<|X.is.take j;simp[XG]at this |-;omega
   let⟨H,q1,q2⟩:=aq _<|aH e;generalize X.is[j]=P at*;generalize D++XG X.ps++XI (X.is.take j)=v at*;let⟨op,K,pA,pB,pI⟩:=P;dsimp only at H q1 q2 N O g2 g3 g4 h;obtain⟨G,rfl⟩:=bX (show 0<=op by omega);have ab:=hT.keep<|Xb f (.cells #[Hp G,Hp K,Hp pA,Hp pB,Hp pI] 48);let⟨bb,_,c1,_,_,_⟩:=ab.2 G oM oM;have a2:0<wr.heap.size:=oM;have g:=s.below<|Xb (Below.refl wr.heap.size wr) (.cells #[Hp G,Hp K,Hp pA,Hp pB,Hp pI] 48);cases hdb:dB G
   .rw[hdb]at c1;have I:=Xa hdb;have x:=Xa g;go_wp2;refine⟨⟨j+1,oM,gM,Xb f _,by simp;omega,?_,?_⟩,by simp[intOf];omega⟩
    .rw[h.o,I.o];show Ii _ _ _ _;simpa using x.o
    exact l.keepS<|YA.of_below (Xb (Below.refl wr.heap.size wr) _ |>.mono oM)
   let⟨q3,q4⟩:=q2 hdb;rw[hdb]at c1;have I:=Xa hdb;obtain⟨t,rfl⟩:=bX q3;have T:t<m:=oM;let⟨k0,U⟩:=g.cell T;have az:=WZ v t;have x:=Xa g;generalize hQ:E9 v t=Q at*;have o:=Xa hQ;go_wp2;refine⟨⟨j+1,oM,gM,(Xb f _).setCell (by dsimp only;omega) _,by rw[Xd];simp;omega,?_,?_⟩,by simp[intOf];omega⟩
   .rw[h.o,I.o,aU rfl];exact x.step<|by rw[o.o]
   exact l.keepS<|(YA.of_below (Xb (Below.refl wr.heap.size wr) _ |>.mono oM)).setCell (aZ<|by dsimp only;omega) _
  have p:=Xa<|aW (l:=X.is) (i:=j) oM;go_wp2;exact⟨⟨k+1,oM,gM,f,by have:=s.o;rw[p.o]at this;rw[a0.o,<-cK];exact this⟩,by simp[intOf];omega⟩
 have p:=Xa<|aW (l:=a) (i:=k) (oN hx.o);have r:=A.o;rw[p.o]at r;have ao:=Xa r;go_wp2
 go_loop [60] (λi=>∃j:Nat,j<=m/\i=Hp j/\Hs (∀q,q<j->E9 (BX a) (q:Nat)=1)) λi=>m-(intOf i).toNat
 case atStart=>exact⟨0,aN _,rfl,λq hq=>absurd hq oM⟩
 obtain⟨j,hj,rfl,ac⟩:=hrel;by_cases e:j<m
 .let⟨k0,U⟩:=ao.cell e;generalize hQ:E9 (BX a) (j:Nat)=Q at*;have o:=Xa hQ;by_cases z:Q=1
  .subst z;go_wp2
   go_round
   case rel=>exact⟨j+1,oM,gM,λq hq=>if y:q=j then by subst y;exact o else ac q oM⟩
   simp[intOf];omega
  have h2:((Q:Int) != 1)=true:=by rw[jJ];omega
  have H1:=Xa z;go_wp2;go_ret
  exact⟨Xl (by
   symm;unfold JM;rw[lZ];exact⟨j,by simpa using e,by simp only[o.o,iA];exact H1⟩),u⟩
 go_wp2;go_ret
 exact⟨Xl (by
  symm;unfold JM;rw[dV];intro q hq;rw[iA];exact ac q<|by simp at hq;omega),u⟩
def iy(a:List Xe)(n:Nat):Prop:=∀x∈a,(∀t∈x.te.tg,0<=t/\t<(n:Int))/\x.te.tg.Nodup
def Yk(b:List Xe)(k:Nat)(a:List Int)(i:Nat):List Int:=AQ (b.take k) 0 i++(if a.contains (i:Int)then [(k:Int)]else [])
theorem J5(a:List Xe)(k i:Nat):Yk a k [] i=AQ (a.take k) 0 i:=by simp[Yk]
theorem TD(a:List Xe)(k i:Nat)(b:k<a.length):Yk a k a[k].te.tg i=AQ (a.take<|k+1) 0 i:=by
 unfold Yk;rw[X7 _ _ b,ZK];simp[jZ<|dU b]
theorem Uu(b:List Xe)(k i:Nat)(a:List Int)(t:Nat)(h:(t:Int)∉a):Yk b k (a++[(t:Int)]) i=if i=t then Yk b k a t++[(k:Int)]else Yk b k a i:=by
 unfold Yk;by_cases e:i=t
 .subst e;simp[h]
 have c:(a++[(t:Int)]).contains (i:Int)=a.contains (i:Int):=by
  rw[eQ];simp only[eY,bU,cS];constructor
  .rintro(h|h);·exact h
   omega
  exact bC
 rw[aM e,c]
theorem UW(a:List Xe)(k i:Nat)(b:List Int)(h:k<=a.length):(Yk a k b i).length<=k+1:=by
 unfold Yk;have:=YO (i:Int) (a.take k) 0;simp only[dH]at this;rw[aQ];split<;>simp<;>omega
theorem KF(ab:Int)(A:Option Addr)(n c:Nat)(d:List Xe)(al L:Nat)(w:World)(ha:Hs (Xp w al L A d))(K:Hs (n=d.length))(hn:n<=1048576)(hB:L<=w.heap.size)(f:Hs (iy d n)) :
 Calls prog 24 #[.agg #[Hp ab,.slice A n c]] w λh w'=>∃U,h=.returned (Hl (w.heap.size+1) n n)/\Below w.heap.size w w'/\YT w' (w.heap.size+1) n (λi:Nat=>AQ d 0 (i:Int)) U:=by
 obtain⟨i0,ax,a7,a8,a9⟩:=fX Nv;have bp:=fM (P:=prog) 71 27 Hq 24 underlying71 Ny rfl .i64 .i64 n oM oM
 go_in
 go_wp2
 go_loopw [15] (λi wr=>∃k:Nat,k<=n/\i=Hp k/\Below w.heap.size w wr/\Hs (∃U,YT wr (w.heap.size+1) n (Yk d k []) U)) λi _=>n-(intOf i).toNat
 case atStart=>exact⟨0,aN _,rfl,Xb (Xb (Below.refl _ _) _) _,⟨_,by have:=YT.born (w.alloc<|.cells #[Hp ab,.slice A n c] 25) n;rw[aO]at this;exact this⟩⟩
 obtain⟨k,hk,rfl,v,u⟩:=hrel;by_cases bo:k<n
 .have E:k<d.length:=oN K.o;obtain⟨b,bz,rfl,⟨_,bi⟩,R⟩:=ha k E;obtain⟨pa,pc,ia,ic,e0,e1,⟨e2,e3,e4,e5⟩,_,_⟩:=R.keep (v.mono hB) oM;have a6:=Xa λi=>TD d k i E;obtain⟨S,T⟩:=f _<|aH E;have af:=Xa S;have aj:=Xa T;generalize d[k]=X at*;go_wp2_with fail
  refine(J4 X.te _).mono ?_;rintro h o⟨a1,c1,rfl,P,V⟩;have Q:=Xg (Xb (Below.refl wr.heap.size wr) _) P;have ba:=P.size;simp at ba;have bw:wr.heap.size<o.heap.size:=oM;have N:=Xa V;have bf:w.heap.size+1<wr.heap.size:=by obtain⟨U,e⟩:=u.o;exact e.1.lt
  have HR:Hs (∃U,YT o (w.heap.size+1) n (Yk d k []) U/\∀i g,i<n->(U i).ownBlock=some g->g<=wr.heap.size\/o.heap.size<=g):=by
   obtain⟨U,e⟩:=u.o;exact⟨U,e.below Q,λi g s f=>by have:=((e.2.1 i s).lt g f).2;omega⟩
  have HW:=Xa<|Xg v Q;have bv:X.te.tg.length<=2:=by unfold Yj.tg;split<;>(try split)<;>simp
  generalize hT:X.te.tg=a at*;simp only[aO]at N;generalize hM:wr.heap.size=M at*;go_wp2
  go_loopw [24] (λi y=>∃j:Nat,j<=a.length/\i=Hp j/\Below w.heap.size w y/\o.heap.size<=y.heap.size/\Hs (Xf y (M+1) o.heap.size a1 a)/\Hs (∃U,YT y (w.heap.size+1) n (Yk d k<|a.take j) U/\∀i g,i<n->(U i).ownBlock=some g->g<=M\/o.heap.size<=g)) λi _=>a.length-(intOf i).toNat
  case atStart=>exact⟨0,aN _,rfl,HW,aA _,N,HR⟩
  obtain⟨j,r,rfl,J,br,W,G⟩:=hrel;by_cases D:j<a.length
  .obtain⟨b',o',rfl,_,bm⟩:=W j D
   obtain⟨a3,bt⟩:=af _<|aH D;have a0:Hs (a[j]∉a.take j):=by
    intro hm;obtain⟨bx,az,Y⟩:=bR hm;simp only[dH]at az;rw[jG]at Y;have:=(List.getElem_inj aj).1 Y;omega
   have a4:Hs (a.take (j+1)=a.take j++[a[j]]):=X7 _ _ D;obtain⟨U,e,O⟩:=G.o;have z:=Xa O;obtain⟨t,a5⟩:=bX a3;generalize a[j]=bd at*;subst a5;have m:t<n:=oM;have ap:=e.1.cell m;have aq:=e.1.frozen t;have bq:=UW d k t (a.take j) (oN K.o);have l:=Xa e;go_wp2_with (at_builtin;refine bT _ rfl _ _ 27 rfl (w.heap.size+1+1) 2 i0 (Hp 0) 1 8 underlying27 ax a7 a8 a9 rfl vZ _ _ _ rfl ((l.alloc _).2.1 t m) (Hk wr.heap.size 0) 1 1 [Hp k] rfl rfl ?c1 ?c2 ?c3 ?c4 ?c5 ?_)
   case c1=>
    intro j bb r
    match j,r with
    |0,r=>simp at r;subst r;simp[Addr.add]
   case c2=>intro bb Z;simp at Z;subst Z;rfl
   case c3=>unfold maxLen;omega
   case c4=>omega
   case c5=>have:=l.1.lt;simp;omega
   intro v1 x F p _ B;obtain⟨av,cv,I,_⟩:=Xk (xs:=Yk d k (a.take j) t++[(k:Int)]) (by rw[Yl];exact F);have a2:=Xa ((l.alloc<|.cells #[Hp k] 2).step m k v1 p F (by rw[aO];exact B));have C:x.heap[w.heap.size+1]?=(wr.alloc<|.cells #[Hp k] 2).heap[w.heap.size+1]?:=YJ p ((l.alloc<|.cells #[Hp k] 2).2.1 t m) oM (by have:=l.1.lt;simp;omega);have ao:=Xa (Xy (Xb J<|.cells #[Hp k] 2) p ((l.alloc<|.cells #[Hp k] 2).2.1 t m) oM (by have:=J.size;simp;omega));have bl:x.cell? (Hk (w.heap.size+1) t)=some (U t):=by rw[Xc C];exact((l.alloc<|.cells #[Hp k] 2).1).cell m
   have bn:x.frozen? (Hk (w.heap.size+1) t)=false:=by rw[bJ (w:=wr.alloc<|.cells #[Hp k] 2) (a:=(Hk (w.heap.size+1) t)) C];exact((l.alloc<|.cells #[Hp k] 2).1).frozen t
   have ar:=p.size;simp at ar;have H:YA (M+1) o.heap.size wr x:=λq q1 q2=>(p.block q (by simp;omega) λh=>by have:=z t q m h.symm;omega).trans (Below.heap_alloc _ _ _ oM);have bc:=Xa H;have ay:=Xa<|W.keepS H;have ad:=Xa B;have HV:=Xa I;rw[I];go_wp2;have aa:=HV.o;rw[aQ,bA,bO,aV]at aa;rw[<-aa];refine⟨⟨j+1,oM,gM,ao.setCell (by dsimp only;omega) _,by rw[Xd];omega,ay.keepS ((YA.refl _ _ _).setCell (bC<|by dsimp only;omega) _),⟨_,(a2).congr λi _=>?_,λi g s f=>?_⟩⟩,by simp[intOf];omega⟩;·rw[a4.o,Uu d k i (a.take j) t a0.o]
   by_cases h:i=t
   .subst h;simp only[gG]at f;rcases ad.o with q|q;·exact z i g s<|by rw[<-q];exact f
    rw[q]at f;have:=gQ f;omega
   simp only[h,fD]at f;exact z i g s f
  have ac:=Xa<|aW (l:=a) (i:=j) oM;go_wp2;refine⟨⟨k+1,oM,gM,J,?_⟩,by simp[intOf];omega⟩;obtain⟨U,e,_⟩:=G.o;exact⟨U,e.congr λi _=>by rw[ac.o,a6.o,J5]⟩
 go_wp2;go_ret;obtain⟨U,e⟩:=u.o;have h:=aW (l:=d) (i:=k) (oN K.o);exact⟨U,rfl,v,e.congr (P':=λi:Nat=>AQ d 0 (i:Int)) λi _=>by rw[J5,h]⟩
theorem VG(v:Int)(d:Option Addr)(n c:Nat)(a:List Xe)(L B:Nat)(w:World)(ha:Hs (Xp w L B d a))(m:Hs (n=a.length))(l:n<=1048576)(i:B<=w.heap.size)(k:Hs (iy a n)) :
 Calls prog 24 #[.agg #[Hp v,.slice d n c]] w λf b=>∃e g,f=.returned (.slice e n g)/\Below w.heap.size w b/\XR b w.heap.size b.heap.size e ((List.range n).map λo:Nat=>AQ a 0 (o:Int)) :=
 (KF v d n c a L B w ha m l i k).mono (by
  rintro f b⟨U,rfl,j,h⟩;exact⟨_,_,rfl,j,h.ints.mono oM<|aA _⟩)
theorem Zr(d:Int->Nat->Ph->Bool)(F:Fn):∀(b:List Xe)(a:Nat),Zi d F b a=true↔∀j (h:j<b.length),b[j].ps.all (d F.values (F.preds ((a+j:Nat):Int)).length)=true
 |[],_=>by simp[Zi]
 |x::b,a=>by
  simp only[Zi,bY,Zr d F b<|a+1];constructor
  .rintro⟨f,g⟩ j c;cases j with
   |zero=>exact f
   |succ j=>
    have:=g j (by simpa using c);have e:a+1+j=a+(j+1):=oM;rw[e]at this;exact this
  intro h;refine⟨h 0 sP,λj c=>?_⟩;have:=h (j+1) (by simpa using c);have e:a+1+j=a+(j+1):=oM;rw[e];exact this
theorem Wg(a:Int->Nat->Ph->Bool)(F:Fn)(c:k<F.blocks.length)(h:F.blocks[k].ps.all (a F.values (F.preds (k:Int)).length)=false):Zi a F F.blocks 0=false:=by
 rw[lY];intro b;have:=(Zr a F F.blocks 0).1 b k c;rw[aV,h]at this;cases this
theorem wB(v:Int)(x:Option Addr)(n c:Nat)(a:List Xe)(O F:Nat)(w:World)(ha:Hs (Xp w O F x a))(D:Hs (n=a.length))(hn:n<=1048576)(hl:Hs (∀ax∈a,ax.ps.length<=1048576/\∀bc∈ax.ps,bc.args.length<=1048576))(hB:F<=w.heap.size)(hg:Hs (iy a n)) :
 Calls prog 75 #[.agg #[Hp v,.slice x n c]] w λl w'=>l=.returned (.bool (KL ⟨v,a⟩))/\Below w.heap.size w w':=by
 go_in
 go_wp2_with fail
 refine(VG v x n c a O F _ ?q1 D hn ?q2 hg).mono ?_
 case q1=>exact ha.keep (Xb (Below.refl _ _) _ |>.mono hB)
 case q2=>simp;omega
 rintro l o⟨pa,pc,rfl,y,ar⟩;have J:=Xg (Xb (Below.refl w.heap.size w) _) y;have ba:=y.size;simp at ba;let⟨K,a2⟩:=Hg y;have k0:o.cell? (Hk w.heap.size 0)=some (Hp v):=by rw[K _ _ sP];simp
 have k1:o.cell? (Hk w.heap.size 1)=some (.slice x n c):=by rw[K _ _ sP];simp
 have HA:=Xa<|ha.keep (J.mono hB);have a1:=Xa ar;have p:=Xa J;clear K a2 ar y ha J;go_wp2
 go_loopw [15] (λi wr=>∃k:Nat,k<=n/\i=Hp k/\Below o.heap.size o wr/\Hs (∀j (h:j<a.length),j<k->a[j].ps.all (ZX v (AQ a 0 (j:Int)).length)=true)) λi _=>n-(intOf i).toNat
 case atStart=>exact⟨0,aN _,rfl,Below.refl _ _,λj _ h=>absurd h oM⟩
 obtain⟨k,hk,rfl,e,ad⟩:=hrel;by_cases a4:k<n
 .have L:k<a.length:=oN D.o;obtain⟨b,bw,rfl,⟨_,bl⟩,hc⟩:=HA k L;let⟨bx,bz,ia,ic,S,T,⟨U,V,W,Y⟩,hp,_⟩:=hc;have e0:=(XU e oM).trans S;have e1:=(XU e oM).trans T;have e2:=(XU e oM).trans U;have e3:=(XU e oM).trans V;have e4:=(XU e oM).trans W;have e5:=(XU e oM).trans Y;let⟨bp,ap⟩:=hl _<|aH L;have a0:=Xa ap;have a5:Hs (a[k].ps.all (ZX v (AQ a 0 (k:Int)).length)=false->KL ⟨v,a⟩=false):=λh=>Wg ZX ⟨v,a⟩ (k:=k) L h;have aq:k<((List.range n).map λi:Nat=>AQ a 0 (i:Int)).length:=by simpa using a4
  obtain⟨gb,go,rfl,⟨_,bn⟩,a',c',s,a3⟩:=a1 k aq;simp only[cM,dW]at s;have HP:=Xa hp;have bq:(AQ a 0 (k:Int)).length<=1048576:=oP (YO (k:Int) a 0) D.o
  have ay:=Xa s;have bv:=e.size;have a7:Hs (a[k].ps.all (ZX v (AQ a 0 (k:Int)).length)=true->∀j (h:j<a.length),j<k+1->a[j].ps.all (ZX v (AQ a 0 (j:Int)).length)=true) :=
   λh j A bo=>if l:j=k then by subst l;exact h else ad j A oM
  clear hp ap s a3 aq S T U V W Y;generalize a[k]=X at*;generalize AQ a 0 (k:Int)=f at*;go_wp2;generalize hM:wr.heap.size=bd at*;have HM:=Xa hM;clear hM
  go_loopw [23] (λi wi=>∃j:Nat,j<=X.ps.length/\i=Hp j/\Below o.heap.size o wi/\Hs ((X.ps.take j).all (ZX v f.length)=true)) λi _=>X.ps.length-(intOf i).toNat
  case atStart=>exact⟨0,aN _,rfl,Xb e _,rfl⟩
  obtain⟨j,A,rfl,d,af⟩:=hrel;have s:=(XU d oM).trans ay;have bb:=(XU d oM).trans k0;by_cases B:j<X.ps.length
  .obtain⟨b',o',rfl,⟨_,bm⟩,Q,R,Z,g1,hi⟩:=HP j B;have e6:=(XU d oM).trans Z;have e7:=(XU d oM).trans g1;have bf:=a0 _<|aH B;have C:=Xa λh=>Xw a5<|JN (p:=ZX v f.length) (xs:=X.ps) (k:=j) B h;have a8:=Xa λh=>XY (p:=ZX v f.length) B af h;have az:=Xa hi;clear Z g1 hi;generalize X.ps[j]=P at*;have br:w.heap.size<wr.heap.size:=oN d.size;have bt:gb<wr.heap.size:=oN d.size;have t:Hs (ZX v f.length P=(Tp true P.dst 0 v&&(decide (1<=P.args.length)&&decide (P.args.length=f.length)&&P.args.all (To 0 v)))):=rfl;cases hf:Tp true P.dst 0 v
   .have r:=Xa hf;go_wp2
    go_quiet ((go_at_call 113;exact Calls.quiet_of_same<|Yp _ _ _ _ _))
    go_wp2;go_ret;exact⟨Xl (Xw C<|by rw[t.o,r.o];rfl).symm,Xg p<|iX (Xb d _) _⟩
   have r:=Xa hf;by_cases m:P.args.length=0
   .have ab:((P.args.length:Int)==0)=true:=by simp[m]
    have G:=Xa m;clear m;go_wp2
    go_quiet ((go_at_call 113;exact Calls.quiet_of_same<|Yp _ _ _ _ _))
    go_wp2;go_ret;exact⟨Xl (Xw C<|by rw[t.o,r.o,G.o];rfl).symm,Xg p<|iX (Xb d _) _⟩
   have ab:((P.args.length:Int)==0)=false:=by rw[iS];omega
   have G:=Xa m;clear m;by_cases g:P.args.length=f.length
   .have ac:((P.args.length:Int) != (f.length:Int))=false:=by simp[g]
    have H:=Xa g;clear g;go_wp2
    go_quiet ((go_at_call 113;exact Calls.quiet_of_same<|Yp _ _ _ _ _))
    go_wp2;have z:=iX (Xb d<|.cells #[Hp P.dst,.slice Q P.args.length R] 106) nq;generalize (wr.alloc<|.cells #[Hp P.dst,.slice Q P.args.length R] 106).drewN nq=w9 at*;have r0:=(XU z oM).trans k0;clear hf ab ac s bb e6 e7
    go_loop [53] (λi=>∃q:Nat,q<=P.args.length/\i=Hp q/\Hs ((P.args.take q).all (To 0 v)=true)) λi=>P.args.length-(intOf i).toNat
    case atStart=>exact⟨0,aN _,rfl,rfl⟩
    obtain⟨q,hq,rfl,aj⟩:=hrel;by_cases M:q<P.args.length
    .obtain⟨b2,o2,rfl,⟨_,bi⟩,al⟩:=az q M;have r1:=(XU z oM).trans al;have a6:=Xa λh=>JN (p:=To 0 v) (xs:=P.args) (k:=q) M h;have a9:=Xa λh=>XY (p:=To 0 v) M aj h;clear al;generalize P.args[q]=E at*;have ao:Hs (Tp true E 0 v=To 0 v E):=rfl;cases hr:Tp true E 0 v
     .have I:=Xa hr;go_wp2_with (go_at_call 113;refine(Yp _ _ _ _ _).mono ?_;rintro l N⟨rfl,u⟩;rw[u];clear u N)
      go_ret;exact⟨Xl (Xw C<|by rw[t.o,Xw a6<|by rw[<-ao.o];exact I];simp).symm,Xg p z⟩
     have I:=Xa hr;go_wp2_with (go_at_call 113;refine(Yp _ _ _ _ _).mono ?_;rintro l N⟨rfl,u⟩;rw[u];clear u N)
     go_round
     case rel=>exact⟨q+1,oM,gM,Xw a9<|by rw[<-ao.o];exact I⟩
     simp[intOf];omega
    go_wp2
    exact⟨⟨j+1,oM,gM,z,Xw a8 (by
     have g:=H.o;have m:=G.o;rw[t.o,r.o,eB g,eB (p:=1<=P.args.length) oM,YE (xs:=P.args) (k:=q) oM aj.o];rfl)⟩,by simp[intOf];omega⟩
   have ac:((P.args.length:Int) != (f.length:Int))=true:=by rw[jJ];omega
   have H:=Xa g;clear g;go_wp2
   go_quiet ((go_at_call 113;exact Calls.quiet_of_same<|Yp _ _ _ _ _))
   go_wp2;go_ret;exact⟨Xl (Xw C<|by rw[t.o,r.o,dJ H.o];simp).symm,Xg p<|iX (Xb d _) _⟩
  go_wp2;exact⟨⟨k+1,oM,gM,d,Xw a7<|YE (xs:=X.ps) (k:=j) oM af⟩,by simp[intOf];omega⟩
 go_wp2;go_ret
 exact⟨Xl (by
  symm;exact(Zr ZX ⟨v,a⟩ a 0).2 λj A=>by rw[aV];exact ad j A<|oN D.o),Xg p e⟩
theorem Vi(h:J2 ⟨t,x⟩=true):iy x x.length:=by
 intro a i;have d:Jf t x.length a.te=true:=dV.1 h a i;simp only[Jf,Zu,bY,bD]at d;let⟨⟨⟨⟨⟨j,k⟩,l⟩,b⟩,f⟩,c⟩:=d;have g:a.te.kind=1\/a.te.kind=2\/a.te.kind=3:=oM;rcases g with e|e|e
 .simp only[e,Tp]at b;simp[Yj.tg,e]at b |-;omega
 .simp only[e,Tp]at b f c;simp[Yj.tg,e]at b f c |-;refine⟨?_,c⟩;omega
 simp[Yj.tg,e]
theorem yU(h:Z0 ⟨n,x⟩=true)(l:KL ⟨n,x⟩=true):uf x n:=by
 intro m d;constructor
 .intro p i;obtain⟨k,g,rfl⟩:=bR d;have a:=(Zr ZX ⟨n,x⟩ x 0).1 l k g;have b:=dV.1 a p i;simp only[ZX,Tp,bY,bD,gG]at b;exact b.1
 intro y j;have a:=dV.1 (dV.1 h m d) y j;simp only[Yw,bY,bD]at a;let⟨⟨⟨⟨⟨b,e⟩,c⟩,_⟩,_⟩,_⟩:=a;refine⟨b,e,λf=>?_⟩;rw[f]at c;simpa [Tp]using c
theorem V7(a:List Xe):Xo a=a.length+Xx a:=by
 induction a with
 |nil=>rfl
 |cons x a b=>
  have d:Xo (x::a)=Ul x+Xo a:=by simp[Xo]
  have e:Xx (x::a)=ZZ x+Xx a:=by simp[Xx]
  have f:XZ x.ps=x.ps.length+JG x.ps:=by
   generalize x.ps=c
   induction c with
   |nil=>rfl
   |cons p c b=>simp only[XZ,JG,eH,kX,bA]at b |-;omega
  rw[d,e,b,bA];simp only[Ul,ZZ];omega
theorem Ea(h:q∈x):q.ps.length+JG q.ps+q.is.length<=Xx x:=by
 induction x with
 |nil=>cases h
 |cons y a c=>
  have b:Xx (y::a)=ZZ y+Xx a:=by simp[Xx]
  rcases cH.1 h with rfl|h;·rw[b];simp only[ZZ];omega
  have:=c h;omega
theorem EP{a:List Ph}{p:Ph}(h:p∈a):p.args.length<=JG a:=by
 induction a with
 |nil=>cases h
 |cons y b c=>
  have d:JG (y::b)=y.args.length+JG b:=by simp[JG]
  rcases cH.1 h with rfl|h;·omega
  have:=c h;omega
theorem pH(h:x.length+Xx x<=1048576):DR x:=λd b=>by
 have c:=Ea b;exact⟨oM,oM,λp a=>by have:=EP a;omega⟩
theorem JK(v:Int)(d:Option Addr)(n c:Nat)(a:List Xe)(L B:Nat)(w:World)(ha:Hs (Xp w L B d a))(h:Hs (n=a.length))(x:Hs (a.length+Xx a<=1048576))(K:B<=w.heap.size)(X:Hs (Uw w))(hT:Hs (T7 w)) :
 Calls prog 31 #[.agg #[Hp v,.slice d n c]] w λi w'=>i=.returned (.bool (XJ ⟨v,a⟩))/\Below w.heap.size w w':=by
 have o:n<=1048576:=oP h.o x.o;have N:Xo a<=1048576:=by rw[V7];exact x
 have A:=Xa<|pH x;have u:=λaj=>ha.keep<|(Xb (Below.refl w.heap.size w) aj).mono K;have G:=Xa N;have r:Hs (XJ ⟨v,a⟩=(Y6 ⟨v,a⟩&&J2 ⟨v,a⟩&&Z0 ⟨v,a⟩&&KL ⟨v,a⟩&&JM ⟨v,a⟩)):=rfl;cases h1:Y6 ⟨v,a⟩
 .have b:=Xa h1;have t:=Xa u
  go_in
  go_wp2_with fail
  refine(Uz v d n c a L B _ (Xw t _) h o G (by simp;omega)).mono ?_;rintro i C⟨rfl,l⟩;rw[Xw b];go_wp2;go_ret;exact⟨Xl (by rw[r.o,b.o];rfl),Xg (Xb (Below.refl _ _) _) l⟩
 have b:=Xa h1;have t:=Xa u;have P:0<=v/\v<=2000:=by
  have k:=b.o;simp only[Y6,bY,bD]at k;omega
 obtain⟨m,rfl⟩:=bX P.1;have hm:m<=2000:=oM
 go_in
 go_wp2_with fail
 refine(Uz m d n c a L B _ (Xw t _) h o G (by simp;omega)).mono ?_;rintro i C⟨rfl,l⟩;rw[Xw b];let⟨z,ad⟩:=Hg l;have Q:C.cell? (Hk w.heap.size 0)=some (Hp m):=by rw[z _ _ sP];simp
 have S:C.cell? (Hk w.heap.size 1)=some (.slice d n c):=by rw[z _ _ sP];simp
 have p:=Xg (Xb (Below.refl w.heap.size w) _) l;have af:=l.size;simp at af;have H:=Xa<|ha.keep (p.mono K);have Y:=Xa<|X.keep p;have ab:=Xa<|hT.keep p;have D:=Xa p;go_wp2_with fail
 refine(wm m d n c a L B _ H h o oM ab).mono ?_;rintro i w2⟨rfl,e⟩;cases h2:J2 ⟨m,a⟩
 .have j:=Xa h2;go_wp2;go_ret;exact⟨Xl (by rw[r.o,b.o,j.o];rfl),Xg D e⟩
 have j:=Xa h2;have O:=Xa<|Vi j;rw[<-h.o]at O;have R:=(XU e oM).trans Q;have T:=(XU e oM).trans S;have al:=e.size;have I:=Xa<|H.keep (e.mono oM);have M:=Xa<|Y.keep e;have E:=Xa<|Xg D e;go_wp2_with fail
 refine(W4 m d n c a L B _ I h o (λy k=>(A y k).2.1) oM M).mono ?_;rintro i w3⟨rfl,f⟩;cases h3:Z0 ⟨m,a⟩
 .have q:=Xa h3;go_wp2;go_ret;exact⟨Xl (by rw[r.o,b.o,j.o,q.o];rfl),Xg E f⟩
 have q:=Xa h3;have U:=(XU f oM).trans R;have q1:=(XU f oM).trans T;have ao:=f.size;have J:=Xa<|I.keep (f.mono oM);have Z:=Xa<|M.keep f;have F:=Xa<|Xg E f;go_wp2_with fail
 refine(wB m d n c a L B _ J h o (λy k=>⟨(A y k).1,(A y k).2.2⟩) oM O).mono ?_;rintro i w4⟨rfl,g⟩;cases h4:KL ⟨m,a⟩
 .have s:=Xa h4;go_wp2;go_ret;exact⟨Xl (by rw[r.o,b.o,j.o,q.o,s.o];rfl),Xg F g⟩
 have s:=Xa h4;have r0:=(XU g oM).trans U;have r1:=(XU g oM).trans q1;have ap:=g.size;have W:=Xa<|J.keep (g.mono oM);have aa:=Xa<|Z.keep g;have V:=Xa<|Xg F g;go_wp2_with fail
 refine(WE m d n c a L B _ W h o hm (show Xx a<=1048576 by have:=x.o;omega) oM aa (yU q s)).mono ?_;rintro i w5⟨rfl,ac⟩;go_wp2;go_ret;exact⟨Xl (by rw[r.o,b.o,j.o,q.o,s.o];simp),Xg V ac⟩
def XX(a:List Xe)(k b:Nat):List Nat:=(List.range k).filter λj=>decide (b∈X8 a j)
theorem qH{a:List Xe}(d:∀x∈a,∀t∈x.te.tg,0<=t)(b:Nat):∀(k:Nat),k<=a.length->AQ (a.take k) 0 (b:Int)=Xi (XX a k b)
 |0,_=>by simp[AQ,XX,Xi]
 |k+1,g=>by
  have c:k<a.length:=g;rw[bN c,ZK,qH d b k oM];have i:(a.take k).length=k:=by simp;omega
  have f:a[k].te.tg.contains (b:Int)=decide (b∈X8 a k):=by
   rw[Km c,eQ,eY,bD,aY];constructor;·exact λh=>⟨_,h,sP⟩
   rintro⟨t,e,j⟩;have l:=d _ (aH c) t e;have:t=(b:Int):=oM;rw[<-this];exact e
  rw[f,i];unfold XX;rw[dN,eU,iW,jX];by_cases h:b∈X8 a k;·rw[aU (by simpa using h),aU<|by simpa using h];simp[Xi]
  rw[aM (by simpa using h),aM<|by simpa using h];simp[Xi]
theorem K9(a:∀c∈x,∀t∈c.te.tg,0<=t)(b:Nat):AQ x 0 (b:Int)=Xi (XX x x.length b):=by
 have:=qH a b x.length<|aA _;rwa[gC]at this
theorem Uf{b:Nat}:m∈XX x n b↔m<n/\b∈X8 x m:=by
 unfold XX;rw[fG,bE,bD]
theorem qr{xs:List Xe}{b:Nat}:(XX xs n b).length<=n:=aJ (fJ _ _) sP
def Zp(a:List Xe):(Nat->Nat)×List Nat:=C2 (X8 a) a.length 0 (λ_=>0,[])
def Ja(a:List Xe):List Nat:=(Zp a).2.reverse
structure UF(xs:List Xe):Prop where
 n1:1<=xs.length
 n2:xs.length<=1000
 tgt:∀x∈xs,∀t∈x.te.tg,0<=t/\t<xs.length
 ok:iy xs xs.length
theorem Wz(h:XJ ⟨t,x⟩=true):UF x:=by
 simp only[XJ,bY]at h;let⟨⟨⟨⟨a,c⟩,_⟩,_⟩,_⟩:=h;simp only[Y6,bY,bD]at a;have b:=Vi c;exact⟨a.1.1.2,a.1.2,λe d=>(b e d).1,b⟩
theorem UF.tg(h:UF x):∀b,b<x.length->∀t∈X8 x b,t<x.length:=λb a t c=>by
 rw[Km a]at c;obtain⟨z,d,rfl⟩:=aY.1 c;have:=h.tgt _ (aH a) z d;omega
theorem UF.re(h:UF x):∀a,Re (X8 x) a->a<x.length:=λa c=>by
 induction c with
 |root=>exact h.n1
 |step _ b d=>exact h.tg _ d _ b
theorem UF.top(h:UF x):(∀a,a∈Ja x↔Re (X8 x) a)/\(∀a,Xh (Zp x).1 a=true↔Re (X8 x) a)/\(Ja x).Nodup/\∀a b,JO (X8 x) b a->b≠a->LE (Ja x) b a:=by
 let⟨d,f,g,i⟩:=Dd h.tg h.n1<|aA x.length;refine⟨λa=>?_,f,?_,λa b j c=>xt<|i a b j c⟩
 .show a∈(Zp x).2.reverse↔_;rw[kU];exact d a
 show((Zp x).2.reverse).Nodup;exact List.pairwise_reverse.2<|g.imp λc e=>c e.symm
theorem UF.av(h:UF x)(f:∀b,b<x.length->∀a,a<x.length->(Xh (M b) a=true↔Sp (IG x.length) (If x.length) (·∈Ja x) (λb=>((List.range x.length).map (XX x x.length)).getD b []) b a)):∀b,b<x.length->∀a,a<x.length->(Xh (M b) a=true↔Av (X8 x) a b):=λb c a d=>by
 rw[f b c a d];refine EG (n:=x.length) (λb a d=>C6 d) (λb a _ c=>Ct c) (λb=>h.top.1 b) h.re (λb s c=>?_) d;have e:((List.range x.length).map (XX x x.length)).getD b []=XX x x.length b:=by simp[c]
 rw[e];exact Uf
theorem UF.idm(h:UF x){Ws:Nat->Nat->Nat}(c:∀b,b<x.length->∀a,a<x.length->(Xh (Ws b) a=true↔Sp (IG x.length) (If x.length) (·∈Ja x) (λb=>((List.range x.length).map (XX x x.length)).getD b []) b a)):YX (X8 x) x.length ((List.range x.length).map (VB Ws (Ja x) (Ja x).length)):=UR h.top.2.2.1 h.top.1 h.re h.top.2.2.2<|h.av c
theorem UF.ord_len(h:UF x):0<(Ja x).length/\(Ja x).length<=x.length/\∀b∈Ja x,b<x.length :=
 ⟨eJ<|(h.top.1 0).2 Re.root,YS h.top.2.2.1 λa d=>h.re a<|(h.top.1 a).1 d,λb c=>h.re b<|(h.top.1 b).1 c⟩
theorem AH{tg:Nat->List Nat}(h:YX tg n l)(c:∀x,Re tg x->x<n):∀p∈l,-1<=p/\p<n:=λp d=>by
 obtain⟨i,b,rfl⟩:=bR d;have e:l.getD i 0=l[i]:=by simp[b]
 rw[<-e];rcases h.get i (by rw[<-h.len];exact b)with⟨a,ha,ea⟩|⟨_,ea⟩
 .have:=c a ha.dom.ra;omega
 omega
structure Jy(V:Nat)(xs:List Xe):Prop where
 okf:UF xs
 vle:V<=2000
 ops:∀x∈xs,∀y∈x.is,1<=y.op/\y.op<=13
 kind:∀x∈xs,1<=x.te.kind/\x.te.kind<=3
 rdi:∀x∈xs,∀y∈x.is,∀v∈Ft y,0<=v/\v<V
 wri:∀x∈xs,∀y∈x.is,∀v∈BW y,0<=v/\v<V
 rdt:∀x∈xs,∀v∈G2 x.te,0<=v/\v<V
 phd:∀x∈xs,∀p∈x.ps,0<=p.dst/\p.dst<V
 pha:∀t (h:t<xs.length),∀p∈xs[t].ps,p.args.length=(AQ xs 0 (t:Int)).length/\∀a∈p.args,0<=a/\a<V
 lens:∀x∈xs,x.is.length<=4000/\x.ps.length<=4000
theorem Vb(h:Tp r t T z=true)(a:r=true):T<=t/\t<z:=by
 subst a;simpa [Tp]using h
theorem wW(h:q∈x):Ul q<=Xo x:=by
 unfold Xo
 induction x with
 |nil=>cases h
 |cons y b a=>
  rcases cH.1 h with rfl|h;·simp
  have:=a h;simp;omega
theorem tN:∀a:List Ph,a.length<=XZ a
 |[]=>aA _
 |p::a=>by have:=tN a;simp[XZ]at*;omega
theorem XH(h:XJ ⟨(n:Int),x⟩=true):Jy n x:=by
 have w:=Wz h;simp only[XJ,bY]at h;let⟨⟨⟨⟨j,o⟩,q⟩,r⟩,_⟩:=h;simp only[Y6,bY,bD]at j;have f:∀b∈x,∀y∈b.is,Yw (n:Int) 10 y=true:=λb c y d=>dV.1 (dV.1 q b c) y d
 have l:∀b∈x,Zu (n:Int) 1 x.length b.te=true:=λb c=>by
  have:=dV.1 o b c;simp only[Jf,bY]at this;exact this.1
 have k:=(Zr ZX ⟨(n:Int),x⟩ x 0).1 r;refine⟨w,oM,λb c y d=>?_,λb c=>?_,λb c y d v a=>?_,λb c y d v a=>?_,λb c v a=>?_,λb c p g=>?_,λt i p g=>?_,λb c=>?_⟩
 .have:=f b c y d;simp only[Yw,bY,bD]at this;omega
 .have:=l b c;simp only[Zu,bY,bD]at this;omega
 .have:=f b c y d;simp only[Yw,bY]at this;let⟨⟨⟨⟨_,_⟩,ha⟩,s⟩,_⟩:=this;unfold Ft at a;rcases bU.1 a with a|a
  .by_cases e:aB y.op=true
   .rw[aU e]at a;have e2:v=y.a:=by simpa using a
    rw[e2];exact Vb ha e
   rw[aM e]at a;cases a
  by_cases e:bB y.op=true
  .rw[aU e]at a;have e2:v=y.b:=by simpa using a
   rw[e2];exact Vb s e
  rw[aM e]at a;cases a
 .have:=f b c y d;simp only[Yw,bY]at this;let⟨⟨⟨⟨_,u⟩,_⟩,_⟩,_⟩:=this;unfold BW at a;by_cases e:dB y.op=true
  .rw[aU e]at a;have e2:v=y.dst:=by simpa using a
   rw[e2];exact Vb u e
  rw[aM e]at a;cases a
 .have:=l b c;simp only[Zu,bY]at this;let⟨⟨⟨_,ha⟩,_⟩,_⟩:=this;unfold G2 at a;by_cases e:(b.te.kind != 1)=true
  .rw[aU e]at a;have e2:v=b.te.a:=by simpa using a
   rw[e2];exact Vb ha e
  rw[aM e]at a;cases a
 .obtain⟨t,i,rfl⟩:=bR c;have:=dV.1 (k t i) p g;simp only[ZX,bY]at this;exact Vb this.1 rfl
 .have:=dV.1 (k t i) p g;simp only[ZX,Jt,bY,bD,dV]at this;rw[aV]at this;exact⟨this.2.1.2,λm ha=>this.2.2 m ha⟩
 have:=wW c;have z:=j.2;have:=tN b.ps;unfold Ul at*;omega
def X9(l:List Int):List Nat:=l.map Int.toNat
theorem Kv(h:∀v∈l,0<=v):(X9 l).map Int.ofNat=l:=by
 unfold X9;rw[jO]
 conv=>rhs;rw[<-List.map_id l]
 apply gH;intro v a;have:=h v a;simp[Function.comp];omega
theorem YV(h:∀v∈l,0<=v):n∈X9 l↔(n:Int)∈l:=by
 unfold X9;rw[aY];constructor
 .rintro⟨v,a,rfl⟩;have:=h v a;rw[show((v.toNat:Nat):Int)=v by omega];exact a
 intro b;exact⟨_,b,oM⟩
def LH(a:List Xe)(t:Nat)(b:List Ph):List (Nat×Nat):=b.flatMap λp=>(XX a a.length t).zip (X9 p.args)
def MO(a:List Xe)(t:Nat):List (Nat×Nat):=(a[t]?).elim [] λx=>LH a t x.ps
def IE(a:List Xe)(k:Nat):List (Nat×Nat):=(List.range k).flatMap (MO a)
structure Lp(w2 wr:World)(G n K:Nat)(gs:Nat->Nat)(Ws:Nat->Nat->Nat)(E:List (Nat×Nat)):Prop where
 sets:XK wr G n K gs (λ_=>K) Ws
 wd:XQ Ws
 fr:U8 w2 wr n gs
 has:∀b,b<n->∀v,Xh (Ws b) v=true↔(b,v)∈E
def Li(c wr:World)(G n K:Nat)(b:Nat->Nat)(E:List (Nat×Nat)):Prop:=∃a,Lp c wr G n K b a E
theorem Lp.below{wr:World}{E:List (Nat×Nat)}(h:Lp w wr n m k f M E)(a:Below wr.heap.size wr v):Lp w v n m k f M E:=⟨h.sets.keep a,h.wd,h.fr.below a,h.has⟩
theorem Li.below{wr:World}{E:List (Nat×Nat)}(h:Li w wr n m k f E)(b:Below wr.heap.size wr v):Li w v n m k f E:=by
 let⟨a,h⟩:=h;exact⟨a,h.below b⟩
theorem Lp.add{wr:World}{E:List (Nat×Nat)}(h:Lp w wr n m k f M E)(c:B<m)(d:wr.grownBy v (some<|f B))(j:Bf v (f B) k k (C3 (M B) [g])):Lp w v n m k f (λi=>if i=B then C3 (M B) [g]else M i) (E++[(B,g)]):=by
 refine⟨h.sets.wrote c d j,λi=>?_,h.fr.grown d c,λb a x=>?_⟩
 .by_cases e:i=B;·simp only[aU e];exact Zs _<|h.wd B
  simp only[aM e];exact h.wd i
 by_cases e:b=B
 .subst e;simp only[gG,bU,cS,jC,true_and];rw[YR,dI,bD,cS,h.has b a x];exact or_comm
 simp only[aM e,bU,cS,jC];rw[h.has b a x];exact⟨bC,λh=>h.elim id λh=>absurd h.1 e⟩
theorem BZ{xs:List Xe}(h:n<xs.length):IE xs (n+1)=IE xs n++LH xs n xs[n].ps:=by
 unfold IE;rw[dN,eZ];simp[MO,h]
theorem BA{xs:List Xe}{t:Nat}{a:List Ph}(h:n<a.length):LH xs t (a.take<|n+1)=LH xs t (a.take n)++(XX xs xs.length t).zip (X9 a[n].args):=by
 unfold LH;rw[X7 _ _ h,eZ];simp
theorem xg(V:Nat)(y:Option Addr)(n c:Nat)(a:List Xe)(M B:Nat)(w:World)(ha:Hs (Xp w M B y a))(s:Hs (n=a.length))(hB:B<=w.heap.size)(A:Hs (Jy V a)) :
 Calls prog 80 #[.agg #[Hp V,.slice y n c]] w λl w'=>∃G g x,l=.returned (Hl G n n)/\w.heap.size<=G/\Below w.heap.size w w'/\XK w' G n ((V+63)/64) g (λ_=>(V+63)/64) x/\(∀i,i<n->w.heap.size<=g i)/\XQ x/\∀b,b<n->∀ab,Xh (x b) ab=true↔(b,ab)∈IE a n:=by
 have hn:n<=1000:=oP s.o A.okf.n2;have hV:=A.vle;have aj:=Xa λW=>Ti n V W hn oM;have ar:=Xa (λW (e:Below w.heap.size w W)=>KF (V:Int) y n c a M B W (Xa<|ha.keep (e.mono hB)) s oM (oN e.size) (Xa<|by rw[s.o];exact A.okf.ok));have hK:(V+63)/64<=32:=oM;have cj:V<=64*((V+63)/64):=oM;generalize (V+63)/64=K at*
 go_in
 go_wp2_with fail
 refine(aj _).mono ?_;rintro l R⟨G,g,rfl,hG,N,P,a5⟩;have ad:Hs (Below w.heap.size w<|w.alloc (.cells #[Hp V,.slice y n c] 25)):=Xa<|Xb (Below.refl _ _) _;have q0:=(N.cell (p:=Hk w.heap.size 0) (by show w.heap.size<_;simp)).trans (by simp[go_sem]:(w.alloc<|.cells #[Hp V,.slice y n c] 25).cell? (Hk w.heap.size 0)=some (Hp V));have q1:=(N.cell (p:=Hk w.heap.size 1) (by show w.heap.size<_;simp)).trans (by simp[go_sem]:(w.alloc<|.cells #[Hp V,.slice y n c] 25).cell? (Hk w.heap.size 1)=some (.slice y n c));have J:=Xa<|Xg ad N;have ax:=Xa P;have ch:w.heap.size<G:=by simp at hG;omega
 have u:Hs (∀i,i<n->w.heap.size<g i/\g i<R.heap.size):=Xa (λi h=>⟨by have:=a5 i h;simp at this;omega,(P.set i h).lt⟩);have ci:=P.row.lt;have cs:=J.size;have ce:w.heap.size<R.heap.size:=oM;have al:=Xa<|ar.o R J;clear N P a5 hG aj ar ad;go_wp2_with fail
 refine al.mono ?_;rintro l p⟨cg,rfl,E,bb⟩;have t:=Xa<|Xg J E;have bw:=Xa bb.ints;have bo:Hs (Li p p G n K g []):=Xa ⟨_,ax.keep E,λ_=>λ_=>vZ,U8.refl _ _ _,λb _ ab=>by simp[Z3]⟩;have cw:=oB E q1 ce;have ct:=E.size;clear E bb al ax q0 q1 J;have bl:=Xa<|ha.keep (t.mono hB);go_wp2
 go_loopw [22] (λi wr=>∃k:Nat,k<=n/\i=Hp k/\Hs (Li p wr G n K g<|IE a k)) λi _=>n-(intOf i).toNat
 case atStart=>exact⟨0,aN _,rfl,bo⟩
 obtain⟨k,hk,rfl,d⟩:=hrel;by_cases cb:k<n
 .have O:k<a.length:=oN s.o;obtain⟨b,cv,rfl,a2,hc⟩:=bl k O;have m:=d.elim λ_ T=>T.fr;have r:Hs (YA M B p wr):=Xa (λi C D=>m.block i oM λj z l=>by have:=u j z;omega);let⟨pa,pc,ia,ic,e0,e1,⟨e2,e3,e4,e5⟩,a9,_⟩:=hc.keepS r<|r b a2.1 a2.2;have aq:=Xa a9;have br:=Xa<|BZ (xs:=a) O;have bt:=Xa<|A.pha k O;have ao:=Xa (K9 (λcf s I ht=>(A.okf.tgt cf s I ht).1) k);have F:=(A.lens a[k] (aH O)).2;clear hc a9 m;generalize a[k]=X at*;go_wp2_with fail
  have bp:Hs (Li p (wr.alloc<|.cells #[.slice pa X.ps.length pc,.slice ia X.is.length ic,Hp X.te.kind,Hp X.te.a,Hp X.te.to,Hp X.te.els] 46) G n K g (IE a k)):=Xa<|d.below (Xb (Below.refl _ _) _);have bv:=Xa (aq.keepS λi C D=>(r i C D).symm);clear aq r e0 e1 e2 e3 e4 e5 d;generalize wr=wo at*
  go_loopw [30] (λi wr=>∃j:Nat,j<=X.ps.length/\i=Hp j/\Hs (Li p wr G n K g<|IE a k++LH a k (X.ps.take j))) λi _=>X.ps.length-(intOf i).toNat
  case atStart=>exact⟨0,aN _,rfl,Xa<|by rw[show IE a k++LH a k (X.ps.take 0)=IE a k by simp[LH]];exact bp⟩
  obtain⟨j,z,rfl,d⟩:=hrel;by_cases Y:j<X.ps.length
  .have m:=d.elim λ_ T=>T.fr;have r:Hs (YA M B p wr):=Xa (λi C D=>m.block i oM λj z l=>by have:=u j z;omega);obtain⟨b2,o2,rfl,cl,ap,cp,f0,f1,a0⟩:=(bv.keepS r) j Y;have bm:=Xa (a0.keepS λi C D=>(r i C D).symm);have bz:=Xa<|BA (xs:=a) (t:=k) Y;let⟨ay,a1⟩:=bt X.ps[j] (aH Y);have bn:=Xa a1;clear m a0 a1;generalize X.ps[j]=f at*;have cq:(XX a a.length k).length<=n:=oP (qr (xs:=a) (n:=a.length) (b:=k)) s.o;have az:f.args.length=(XX a a.length k).length:=by rw[ay,ao.o];simp[Xi]
   have ac:=Xa az;have ck:f.args.length<=1000:=oM;clear ay az;go_wp2_with fail
   have bq:Hs (Li p (wr.alloc<|.cells #[Hp f.dst,.slice ap f.args.length cp] 106) G n K g (IE a k++LH a k (X.ps.take j))):=Xa<|d.below (Xb (Below.refl _ _) _);clear d f0 f1 r;generalize wr=cx at*
   go_loopw [37] (λi wr=>∃q:Nat,q<=f.args.length/\i=Hp q/\Hs (Li p wr G n K g<|IE a k++LH a k (X.ps.take j)++((XX a a.length k).zip (X9 f.args)).take q)) λi _=>f.args.length-(intOf i).toNat
   case atStart=>exact⟨0,aN _,rfl,Xa<|by rw[lK,fF];exact bq⟩
   obtain⟨q,hq,rfl,d⟩:=hrel;by_cases a7:q<f.args.length
   .let⟨x,e⟩:=d.o;have m:=e.fr;obtain⟨b3,o3,rfl,cm,r0⟩:=bm q a7;have bf:=(Xc (m.block b3 oM λi h l=>by have:=u i h;omega)).trans r0;let⟨b4,o4,e4,b6,a4,c4,r1,U⟩:=bw k (by simpa using cb);injection e4 with e4;injection e4 with e5 e6;subst e5;subst e6;have Q:=(Xc (m.block (R.heap.size+1) b6.2 λi h l=>by have:=u i h;omega)).trans r1;simp only[cM,dW,ao.o]at Q U;have Z:q<(XX a a.length k).length:=oN ac.o;let⟨b5,o5,e7,b7,r2⟩:=U q (by simpa [Xi]using Z);subst e7;have bi:=(Xc (m.block b5 b7.2 λi h l=>by have:=u i h;omega)).trans r2;have ba:(Xi<|XX a a.length k)[q]'(by simpa [Xi]using Z)=(((XX a a.length k)[q]:Nat):Int):=by simp[Xi]
    rw[ba]at bi;have F:(XX a a.length k)[q]<n:=oP ((Uf.1<|aH Z).1) s.o
    have aa:=bn f.args[q] (aH a7);have v:Hs (((XX a a.length k).zip (X9 f.args)).take (q+1)=((XX a a.length k).zip (X9 f.args)).take q++[((XX a a.length k)[q],f.args[q].toNat)]):=Xa (by
     rw[X7 _ _<|by simp[X9];omega];simp[X9])
    let⟨o,bd⟩:=bX aa.1;rw[bd]at bf aa v;simp only[dM]at v;have a6:(Xi<|XX a a.length k).length=(XX a a.length k).length:=by simp[Xi]
    rw[a6,aV]at Q;have a8:=ac.o;rw[<-a8]at Q;have L:=Xa e;clear e m r0 r1 r2 U ba bd d a8 a6;generalize (XX a a.length k)[q]=H at*;have b1:=L.sets.row.cell F;have cr:o<V:=oM;clear aa;go_wp2_with fail
    have S:=Xa<|L.below (Xb (Below.refl _ _) (.cells #[Hp o] 56));have co:=(L.sets.set H F).lt;have cd:wr.heap.size+1<=(wr.alloc<|.cells #[Hp o] 56).heap.size:=sP;have af:Hs (Xf (wr.alloc<|.cells #[Hp o] 56) wr.heap.size (wr.heap.size+1) (some ⟨wr.heap.size,0,none⟩) ([o].map Int.ofNat)):=Xa<|UY wr o _;have bx:∀I∈[o],I<64*K:=λI ht=>by
     have l:I=o:=by simpa using ht
     omega
    refine(ZG (g H) K K 1 1 (x H) _ [o] wr.heap.size (wr.heap.size+1) _ af (Xa rfl) oM (Xa bx) oM (Xa<|L.wd H) (Xa<|S.sets.set H F) cd oM).mono ?_;rintro l w5⟨rfl,a3,bc⟩;have b0:=Xa<|S.add F a3 bc;clear a3 bc S af b1 bf Q bi;go_wp2;exact⟨⟨q+1,oM,gM,Xa ⟨_,by rw[v.o,<-cK];exact b0⟩⟩,by simp[intOf];omega⟩
   have cc:q=f.args.length:=oM;have v:Hs (((XX a a.length k).zip (X9 f.args)).take q=(XX a a.length k).zip (X9 f.args)):=Xa (aW<|by simp[X9];omega);rw[v.o]at d;clear cc;go_wp2;exact⟨⟨j+1,oM,gM,Xa<|by rw[bz.o,<-cK];exact d⟩,by simp[intOf];omega⟩
  have b8:j=X.ps.length:=oM;have v:Hs (X.ps.take j=X.ps):=Xa<|aW oM;rw[v.o]at d;clear b8;go_wp2;exact⟨⟨k+1,oM,gM,Xa<|by rw[br.o];exact d⟩,by simp[intOf];omega⟩
 have ca:k=n:=oM;subst ca;go_wp2;go_ret;let⟨x,e⟩:=d.o;refine⟨G,g,x,rfl,oM,⟨e.fr.os.trans t.os,e.fr.tape.trans t.tape,e.fr.output.trans t.output,aJ t.size e.fr.size,λi h=>(e.fr.block i (oN t.size) λj z l=>by have:=u j z;omega).trans (t.block i h)⟩,e.sets,λi h=>by have:=u i h;omega,e.wd,e.has⟩
end Go.Proofs.YtffcajcgkblkoaaGreatDoor
