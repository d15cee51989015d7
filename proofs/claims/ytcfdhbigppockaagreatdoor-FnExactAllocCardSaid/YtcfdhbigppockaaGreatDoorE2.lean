import Derived.OwnWalk
import Derived.Lib.ItoaMem
import Derived.Lib.UnsafeStr
import Derived.Test.YtcfdhbigppockaaGreatDoorPure
import Derived.Laws.OwnMore
import Derived.RangeFuncNested
import Derived.RangeFuncBound
import Derived.RangeFuncCalls
import Derived.RangeFuncLeaves
import Derived.Shelf.Abstract
import Derived.Shelf.RegionOpen
import Derived.OwnWalkIn
import Derived.TacticsInMore
import Derived.LoopNIn
import Derived.LoopIn
import Derived.Deep.QuietTactic
import Derived.Laws.CopyOwn
import Derived.ProofKit
import Derived.Lib.SmallJoins
namespace Go.Proofs.YtcfdhbigppockaaGreatDoor
set_option maxHeartbeats 4000000
set_option maxRecDepth 100000
open Go.RowKit Go.Proofs.Tryz Go.Shelf
variable{t T:Int}{n m k B g i j c:Nat}{w v u:Ub}{a A:Uj}{p:Uy}{h:Vu}{s:Wa}{l:Wc}{x:Wi}{f F:Wk}{y:Wo}{q:Xe}{R:Yh}
structure Gr(w w':Ub)(u v:Uj):Prop where
 grown:w.grownBy w' u.ownBlock
 own:∀g,v.ownBlock=some g->w.1.size<=g\/u.ownBlock=some g
theorem Gr.refl(w:Ub)(u:Uj):Gr w w u u:=⟨⟨rfl,rfl,rfl,aA,λ_ _ _=>rfl⟩,λ_ h=>aZ h⟩
theorem Gr.below(h:Gr w v a A)(e:w.ownsRow n m k a B y)(c:Below n u w)(b:n<=w.1.size):Below n u v :=
 c.grown h.1 b λf d=>(e.lt f d).1
def Pz(x:Yg)(c:UInt8):Wc:=if c=100 then [x.2]else if c=97 then [x.a]else if c=98 then [x.b]else if c=105 then [x.5]else []
theorem BE:(l++[t]).map (Value.int .i64)=l.map (Value.int .i64)++[Hp t]:=sP
theorem Wj{a:Za}{p:Ph}:XG (a++[p])=XG a++[p.1]:=by simp[XG]
theorem Vx{a:Vr}{p:Yg}:XI (a++[p])=XI a++(if dB p.1 then [p.2]else []):=by
 simp only[XI,eU,bG];congr 1;cases h:dB p.1<;>simp[h]
theorem U0:BX (x++[q])=BX x++Z6 q:=by simp[BX]
theorem TP(a:Vr):(XI a).length<=a.length:=by simp only[XI,bK];exact fJ _ _
theorem KP(a:Wi):(BX a).length<=Xx a:=by
 induction a with
 |nil=>simp[BX]
 |cons x a e=>
  have b:BX (x::a)=Z6 x++BX a:=by simp[BX]
  have c:Xx (x::a)=ZZ x+Xx a:=by simp[Xx]
  have d:(Z6 x).length<=ZZ x:=by
   simp only[Z6,XG,aQ,bK,ZZ];have:=TP x.2;omega
  rw[b,c,aQ];omega
theorem uZ{wr:Ub}(g:Below w.1.size w wr)(f:w.1.size<wr.1.size)(e:wr.cell? ⟨w.1.size,1,none⟩=some (.slice p m c))(o:Obj)(d:wr.ownsRow (w.1.size+1) 2 1 a n y)(b:(wr.alloc o).grownBy v a.ownBlock):
 Below w.1.size w v/\w.1.size<v.1.size/\v.cell? ⟨w.1.size,1,none⟩=some (.slice p m c)/\wr.1.size<=v.1.size:=by
 have h:=b.4;simp at h;refine⟨Xy (Xb g _) b (d.alloc _) oM (by simp;omega),oM,?_,oM⟩;exact(Xc<|YJ b (d.alloc _) (b:=w.1.size) oM (by simp;omega)).trans (oB (Xb (Below.refl wr.1.size wr) _) e f)
theorem BU(ha:Hs (Xp w m k p x))(V:Hs (n=x.length))(hn:n<=1048576)(hs:Hs (Xx x<=1048576))(hB:k<=w.1.size):
 Calls prog 69 #[.agg #[Hp t,.slice p n c]] w λo I=>∃M c',o=.returned (.slice M (BX x).length c')/\Below w.1.size w I/\Xf I w.1.size I.1.size M (BX x):=by
 let⟨i0,S,W,Y,Z⟩:=fX RH
 go_in
 go_wp2
 go_loopw [3,4] (λu i wr=>∃a:Nat,a<=n/\i=Hp a/\Below w.1.size w wr/\w.1.size<wr.1.size/\wr.cell? (Hk w.1.size 1)=some (.slice p n c)/\wr.ownsRow (w.1.size+1) 2 1 u (BX<|x.take a).length ((BX<|x.take a).map (Value.int .i64))) λ_ i _=>n-(intOf i).toNat
 case atStart=>exact⟨0,aN,rfl,Xb (Xb (Below.refl _ _) _) _,by simp;omega,sP,K5 _ _⟩
 obtain⟨a,hk,rfl,U,al,ad,C⟩:=hrel;by_cases ar:a<n
 .have H:a<x.length:=oN V.o
  obtain⟨N,ab,rfl,⟨_,ao⟩,Q⟩:=ha a H;have L:=Xa Q;have aj:Hs (BX (x.take<|a+1)=BX (x.take a)++(XG x[a].1++XI x[a].2)):=by
   show _=_;rw[X7 H,U0];rfl
  have ap:(BX<|x.take a).length+(x[a].1.length+JG x[a].1+x[a].2.length)<=1048576:=by
   have h1:=UX x<|a+1;rw[X7 H,Vm]at h1;have h2:=KP<|x.take a;have r:=hs.o;have h4:ZZ x[a]=x[a].1.length+JG x[a].1+x[a].2.length:=rfl;omega
  have az:x[a].1.length<=1048576:=oM;have aq:x[a].2.length<=1048576:=oM;have HO:=Xa C;clear C Q;generalize hX:x[a]=X at*;clear hX;generalize BX (x.take a)=D at*;let⟨pa,pc,ia,ic,O,e1,_,T,R⟩:=L.o;have HP:=Xa T;have HI:=Xa R;have E0:=Xa O;have K:=Xa e1;clear O e1 T R L;go_wp2
  go_loopw [3,5] (λu i g=>∃j:Nat,j<=X.1.length/\i=Hp j/\Below w.1.size w g/\w.1.size<g.1.size/\g.cell? (Hk w.1.size 1)=some (Hm N ab n c)/\g.ownsRow (w.1.size+1) 2 1 u (D++XG (X.1.take j)).length ((D++XG (X.1.take j)).map (Value.int .i64))) λ_ i _=>X.1.length-(intOf i).toNat
  case atStart=>exact⟨0,aN,rfl,U,al,ad,by simpa [XG]using HO.o⟩
  obtain⟨j,e,rfl,b,l,h,f⟩:=hrel;have f0:=(XU b oM).trans E0;have f1:=(XU b oM).trans K;by_cases s:j<X.1.length
  .obtain⟨b',o',rfl,⟨_,ac⟩,aa,cc,q,A,_⟩:=HP j s;have e2:=(XU b oM).trans q;have r:Hs (D++XG (X.1.take<|j+1)=(D++XG (X.1.take j))++[X.1[j].1]):=by show _=_;rw[X7 s,Wj,cK]
   have hl:(D++XG (X.1.take j)).length<=1048576:=by simp[XG];omega
   clear q A;generalize X.1[j]=P at*;generalize D++XG (X.1.take j)=D1 at*;have d:=Xa f;clear f f1;go_wp2_with (at_builtin;refine fT _ rfl _ _ 41 rfl (w.1.size+1) 2 i0 (Hp 0) 1 8 underlying41 S W Y Z rfl vY _ _ _ rfl (d.alloc _) (Hk wr.1.size 0) 1 1 [Hp P.1] rfl rfl ?c1 ?c2 ?c3 ?c4 ?c5 ?_)
   case c1=>
    intro j u e
    match j,e with
    |0,e=>simp at e;subst e;simp[Addr.add]
   case c2=>intro u y;simp at y;subst y;rfl
   case c3=>unfold maxLen;omega
   case c4=>omega
   case c5=>simp;omega
   intro v1 w1 v G _;have F:=Xa v;clear v;go_wp2;let⟨q1,q2,q3,_⟩:=uZ b l h _ d G;exact⟨⟨j+1,oM,gM,q1,q2,q3,by rw[r.o,Yl];simpa using F.o⟩,by simp[intOf];omega⟩
  have B:=Xa<|aW (l:=X.1) (i:=j) oM;have d:=Xa f;clear f;go_wp2
  go_loopw [3,6] (λu i g=>∃j:Nat,j<=X.2.length/\i=Hp j/\Below w.1.size w g/\w.1.size<g.1.size/\g.cell? (Hk w.1.size 1)=some (Hm N ab n c)/\g.ownsRow (w.1.size+1) 2 1 u (D++XG X.1++XI (X.2.take j)).length ((D++XG X.1++XI (X.2.take j)).map (Value.int .i64))) λ_ i _=>X.2.length-(intOf i).toNat
  case atStart=>exact⟨0,aN,rfl,b,l,h,by have:=d.o;rw[B.o]at this;simpa [XI]using this⟩
  clear b l h f0 f1 d B;obtain⟨j,e,rfl,b,l,h,f⟩:=hrel;have f1:=(XU b oM).trans K;by_cases s:j<X.2.length
  .obtain⟨b',o',rfl,⟨_,ac⟩,q,A,_,_,_⟩:=HI j s;have e2:=(XU b oM).trans q;have e3:=(XU b oM).trans A;have r:Hs (D++XG X.1++XI (X.2.take<|j+1)=(D++XG X.1++XI (X.2.take j))++(if dB X.2[j].1 then [X.2[j].2]else [])):=by show _=_;rw[X7 s,Vx,<-cK]
   have hl:(D++XG X.1++XI (X.2.take j)).length<=1048576:=by have:=TP<|X.2.take j;simp[XG]at this |-;omega
   clear q A;generalize X.2[j]=P at*;generalize D++XG X.1++XI (X.2.take j)=D1 at*;have d:=Xa f;clear f;cases hd:dB P.1
   .have E:=Xa hd;go_wp2_with (go_at_call 37;refine(nZ _ _).mono ?_;rintro o J⟨rfl,z⟩;rw[z];clear z J)
    exact⟨⟨j+1,oM,gM,b,l,h,by rw[r.o,E.o];simpa using d.o⟩,by simp[intOf];omega⟩
   have E:=Xa hd;go_wp2_with (first|(go_at_call 37;refine(nZ _ _).mono ?_;rintro o J⟨rfl,z⟩;rw[z];clear z J)|(at_builtin;refine fT _ rfl _ _ 41 rfl (w.1.size+1) 2 i0 (Hp 0) 1 8 underlying41 S W Y Z rfl vY _ _ _ rfl (d.alloc _) (Hk wr.1.size 0) 1 1 [Hp P.2] rfl rfl ?c1 ?c2 ?c3 ?c4 ?c5 ?_))
   case c1=>
    intro j u e
    match j,e with
    |0,e=>simp at e;subst e;simp[Addr.add]
   case c2=>intro u y;simp at y;subst y;rfl
   case c3=>unfold maxLen;omega
   case c4=>omega
   case c5=>simp;omega
   intro v1 w1 v G _;have F:=Xa v;clear v;go_wp2;let⟨q1,q2,q3,_⟩:=uZ b l h _ d G;exact⟨⟨j+1,oM,gM,q1,q2,q3,by rw[r.o,E.o,aU rfl,Yl];simpa using F.o⟩,by simp[intOf];omega⟩
  have B:=Xa<|aW (l:=X.2) (i:=j) oM;have d:=Xa f;clear f;go_wp2;exact⟨⟨a+1,oM,gM,b,l,h,by have:=d.o;rw[B.o]at this;rw[aj.o,<-cK];exact this⟩,by simp[intOf];omega⟩
 go_wp2;go_ret;have o:=aW (l:=x) (i:=a) (oN V.o);rw[o]at C;obtain⟨a1,c1,rfl,af⟩:=Xk C;exact⟨_,_,rfl,U,af.mono oM<|aA⟩
theorem Um{P:Yh}(d:Nat)(t j e:TypeId)(i:TypeInfo)(h:Nat)(b:P.underlying t=some (.slice e))(a:P.info? e=some i)(v:Uj)(n c:Nat)(k:Wo)(f:w.ownsRow d e h v n k):
 (Builtin.append_ #[t,t] j #[v,.slice none 0 c]).run P w=.ok v w:=by
 obtain⟨rfl,rfl⟩|⟨g,cap,cur,rfl,_,_,hnc,_⟩:=f.2;·simp[Builtin.append_,run_underlying b,sizeOf,typeInfo,a,Builtin.lenOf,Builtin.firstCells]
 simp[Builtin.append_,run_underlying b,sizeOf,typeInfo,a,Builtin.lenOf,Builtin.firstCells,hnc,storeCells]
theorem Cj{b:Addr}(f:Xf w n m (some b) l):∀j u,(l.map<|Value.int .i64)[j]?=some u->w.cell? (b.add j)=some u:=by
 intro j u a;have c:j<l.length:=by
  obtain h|h:=mL j l.length;·exact h
  rw[dK<|by simpa using h]at a;cases a
 obtain⟨g,o,e,-,d⟩:=f j c;cases e;rw[dX,aC c]at a;cases a;rw[mK];exact d
theorem JD{o:Oper}{k:Act}{K:Tf}{Q:Yt}(C x:Operand)(t:TypeId)(u:o.2=.call { callee:=.builtin .append,args:=#[C,x],argTypes:=#[t,t] })(g:Nat)(e:TypeId)(i:TypeInfo)(z:R.underlying t=some (.slice e))(r:R.info? e=some i)(S:i.8=some (Hp 0))(O:i.3=1)(J:i.4=8)(v:Uj)(b:Wc)(y:k.eval C=v)(p:w.ownsRow g e 1 v b.length (b.map<|Value.int .i64))(s:v≠Hq)(f:Uy)(m c:Nat)(a:Wc)(L D:Nat)(B:k.eval x=.slice f m c)(n:m=a.length)(A:Xf w L D f a)(U:b.length+m<=1000000000000)(I:g<=w.1.size)(q:∀d j,j.ownsRow g e 1 d (b++a).length ((b++a).map (Value.int .i64))->Gr w j v d->d≠Hq->K (k.put o.1 d) j):
 o.wp R k w K Q:=by
 cases f with
 |none=>
  have H:a=[]:=by
   cases a with
   |nil=>rfl
   |cons x V=>let⟨_,_,e,_⟩:=A 0 sP;cases e
  subst H;subst n;have N:=Um (P:=R) (w:=w) g t o.3 e i 1 z r v b.length c _ p;unfold Oper.wp execOp;simp only[u,resolve,invoke,builtin,lG,lH,jE,jN,eH,fZ,y,B,bO,N];exact q v w (by simpa using p) (Gr.refl _ _) s
 |some f=>
  let⟨d,j,M,E,F,G,h⟩:=kI (P:=R) w g t o.3 e i (Hp 0) 1 8 z r S O J rfl vY v b.length _ p f m c (a.map<|Value.int .i64) (by simp[n]) (Cj A) (by intro W P;obtain⟨X,-,rfl⟩:=aY.1 P;rfl) (by unfold maxLen;omega) oM I;unfold Oper.wp execOp;simp only[u,resolve,invoke,builtin,lG,lH,jE,jN,eH,fZ,y,B,M];refine q d j (by rw[aQ,bG,<-n];exact E) ⟨F,λT l=>?_⟩ λe=>s (G.1 e).1;obtain h|h:=h;·exact aZ (h▸l)
  rw[h]at l;cases l;exact bC<|aA
theorem RF:(prog.info? 109).map (λi=>(i.8,i.3,i.4))=some (some<|Hp 0,1,8):=vZ
theorem Yz(a c:Nat)(ha:Hs (Xf w n m p l))(t:Hs (a=l.length))(R:a<=100000)(M:m<=w.1.size):
 Calls prog 148 #[.slice p a c] w λB f=>∃g A,B=.returned (.slice g l.length A)/\Below w.1.size w f/\Xf f w.1.size f.1.size g l:=by
 let⟨H,C,E,F,G⟩:=fX RF;have y:Hs ((w.alloc<|.cells #[] 109).ownsRow w.1.size 109 1 (Hl w.1.size 0 0) 0 []):=Xa<|eI (base:=w.1.size) (e:=109) (size:=1) w #[] 0 sP sP rfl
 go_in
 go_wp2
 go_loopw [3,9] (λu i wr=>∃k:Nat,k<=a/\i=Hp k/\Below w.1.size w wr/\Hs (wr.ownsRow w.1.size 109 1 u k<|(l.take k).map (Value.int .i64))) λ_ i _=>a-(intOf i).toNat
 case atStart=>exact⟨0,aN,rfl,Xb (Below.refl _ _) _,y⟩
 obtain⟨k,P,rfl,d,e⟩:=hrel;by_cases Q:k<a
 .have o:k<l.length:=oN t.o;obtain⟨L,T,rfl,⟨_,N⟩,h⟩:=ha k o;have O:=(XU d oM).trans h;have x:=Xa<|X7 o;generalize l[k]=J at*;have S:=d.4;go_wp2_with (at_builtin;refine fT _ rfl _ _ 182 rfl w.1.size 109 H (Hp 0) 1 8 underlying182 C E F G rfl vY _ _ _ rfl (e.alloc _) (Hk wr.1.size 0) 1 1 [Hp J] rfl rfl ?c1 ?c2 ?c3 ?c4 ?c5 ?_)
  case c1=>
   intro I u b
   match I,b with
   |0,b=>simp at b;subst b;simp[Addr.add]
  case c2=>intro u s;simp at s;subst s;rfl
  case c3=>unfold maxLen;omega
  case c4=>omega
  case c5=>simp;omega
  intro v1 U r j _;have z:=Xa r;have v:=Xa (Xy (Xb d _) j (e.alloc _) aA (by simp;omega));go_wp2;exact⟨⟨k+1,oM,gM,v,Xa<|by rw[x.o,Yl,List.map_take];exact z⟩,by simp[intOf];omega⟩
 go_wp2;go_ret;have q:=e.o;rw[aW (l:=l) (i:=k) (oN t.o)]at q;obtain⟨K,c1,rfl,D⟩:=Xk q;exact⟨_,_,rfl,d,D⟩
section
attribute [local go_sem] Oper.semAt_some
def K7{a:Type}(f:Nat->a)(len k:Nat):List a:=(List.range<|len-k).map λj=>f<|len-1-j
theorem qK{a:Type}(f:Nat->a){len:Nat}(h:n<len):K7 f len n=K7 f len (n+1)++[f n]:=by
 unfold K7;have e:len-n=(len-(n+1))+1:=oM;rw[e,dN,bG];have e2:len-1-(len-(n+1))=n:=oM;simp[e2]
theorem DX{a:Type}(f:Nat->a){len:Nat}:K7 f len len=[]:=by simp[K7]
theorem FH{a:Type}(f:Nat->a){len:Nat}:(K7 f len n).length=len-n:=by simp[K7]
abbrev Pb(N:Nat):={ x:Nat×Nat // x.2<N }
theorem Ez(b:∀z∈s,z<n)(a:0<n)(j:Nat):s[j]?.getD 0<n:=by
 by_cases h:j<s.length;·rw[aC h];exact b _<|aH h
 rw[dK oM];exact a
def WF{a:Wa}{N:Nat}(c:∀z∈a,z<N)(b:0<N)(j:Nat):Pb N:=⟨(j,a[j]?.getD 0),Ez c b j⟩
theorem FT(F:Fence)(n:Nat)(y:F.1 213)(M:F.4=none)(U:1<=n)(r g f h s len v:Nat)(u:Wa)(N:Nat)(d:∀z∈u,z<N)(c:0<N)(V:len<=1000000)(H:h<f)(J o:List (Pb N)->Vy)(G:∀a x W,J a W->a.length<len->YieldAt F (n-1) prog r #[Hp (x.1.1:Int),Hp (x.1.2:Int)] W λe b=>
  (e=.returned (.bool true)/\J (a++[x]) b/\Below f W b)\/(e=.returned (.bool false)/\o (a++[x]) b))(W:Ub)(B:W.cell? (Hk g 0)=some (Hm h s len v))(A:g<f)(I:∀m,m<len->W.cell? (Hk h<|s+m)=some (Hp ((u[m]?.getD 0:Nat):Int)))(w:J [] W):
 CallsIn F n prog 213 #[.func (.yield r) #[] #[],Hn g] W λe b=>(∃P,e=.returned P) /\
  ((∃t,t=K7 (WF d c) len 0/\J t b)\/(∃a,(∃k,k<len/\a=K7 (WF d c) len k)/\o a b)):=by
 refine iD func213 rfl y ?_ M;simp only[ntmps213,xY,Nat.reduceAdd,Nat.reduceSub];gi_wp2
 gi_loopw [3] (λl wr=>∃(k:Nat)(z:Int),k<=len/\l=Hp z/\z+1=(k:Int)/\J (K7 (WF d c) len k) wr/\Below f W wr)
  (λl _=>(intOf l+1).toNat)
 case atStart=>exact⟨len,_,aA,rfl,oM,by rw[DX];exact w,Below.refl _ _⟩
 obtain⟨k,z,K,rfl,X,p,i⟩:=hrel;have S:=oB i B A;cases k with
 |zero=>
  have j:z=-1:=oM;subst j;gi_wp2
  go_end0
  exact⟨⟨_,rfl⟩,.inl ⟨_,rfl,p⟩⟩
 |succ q=>
  have j:z=(q:Int):=oM;subst j;have hq:q<len:=K;have T:=oB i (I q hq) H;let⟨R,tmps,assign,body,O,E⟩:=G _ (WF d c q) wr p (by rw[FH];omega);dsimp only[WF]at O;gi_wp2;refine E.mono ?_;rintro e Q (⟨rfl,C,L⟩|⟨rfl,D⟩)
  .gi_wp2
   go_roundw
   case rel=>exact⟨q,_,oM,rfl,oM,by rw[qK _ hq];exact C,i.trans L⟩
   simp[intOf]
  gi_wp2;refine cC (gV rfl _ _ _) rfl ?_;exact⟨⟨_,rfl⟩,.inr ⟨_,⟨q,hq,(qK _ hq).symm⟩,D⟩⟩
theorem Ba(F:Fence)(n:Nat)(b:F.1 192)(c:F.4=none)(len a:Nat):
 CallsIn F n prog 192 #[.slice p len a] w λe d=>e=.returned (.func (.func 213) #[] #[.pointer (some ⟨w.1.size,0,none⟩)])/\d=w.alloc (.cells #[.slice p len a] 41):=by
 refine iD func192 rfl b ?_ c;simp only[ntmps192,xY,Nat.reduceAdd,Nat.reduceSub];gi_wp2;go_ret;exact⟨rfl,rfl⟩
theorem AA(F:Fence)(c:Nat)(o:F.1 213)(y:F.4=none)(u:1<=c){len:Nat}(b:∀D∈s,D<g)(a:0<g)(v:len<=1000000)(d:n<w.1.size)(f:m<w.1.size)(r:w.cell? (Hk n 0)=some (Hm m k len B))(p:∀j,j<len->w.cell? (Hk m<|k+j)=some (Hp ((s[j]?.getD 0:Nat):Int))):
 SeqStopsK F c prog 213 #[Hn n] (λx:Pb g=>#[Hp (x.1.1:Int),Hp (x.1.2:Int)]) (Below w.1.size) (λC=>C=K7 (WF b a) len 0)
  (λA=>∃h,h<len/\A=K7 (WF b a) len h) len w:=λz J i W e _ _ q l=>
 FT F c o y u z n w.1.size m k len B s g b a v f J i q W (oB e r d) d (λj t=>oB e (p j t) f) l
end
section
structure Cp(w:Ub)(g K C:Nat)(W:Wk):Prop where
 le:K<=C
 ex:∃T:Vu,w.rowIs g 189 C λi=>if i<K then .int .u64 (W i)else T i
namespace Cp
variable {w: Ub} {g K C: Nat} {W W': Nat -> Nat}
theorem lt(h:Cp w g K C W):g<w.1.size:=by
 let⟨_,T,h⟩:=h;exact h.lt
theorem cell(h:Cp w g K C W){i:Nat}(a:i<K):w.cell? (Hk g i)=some (.int .u64 (W i)):=by
 let⟨b,T,h⟩:=h;have:=h.cell (i:=i) oM;rwa[aU a]at this
theorem frozen(h:Cp w g K C W)(i:Nat):w.frozen? (Hk g i)=false:=by
 let⟨_,T,h⟩:=h;exact h.frozen i
theorem congr(h:Cp w g K C W)(e:∀i,i<K->W i=W' i):Cp w g K C W':=by
 let⟨b,T,h⟩:=h;refine⟨b,T,h.congr λi _=>?_⟩;by_cases a:i<K;·rw[aU a,aU a,e i a]
 rw[aM a,aM a]
theorem of_block{a:Ub}(h:Cp w g K C W)(e:a.1[g]?=w.1[g]?):Cp a g K C W:=by
 let⟨b,T,h⟩:=h;exact⟨b,T,h.of_block e⟩
theorem set(h:Cp w g K C W)(i v:Nat)(b:i<K):Cp (w.setCell ⟨g,i,none⟩ (.int .u64 (v:Int))) g K C (λj=>if j=i then v else W j):=by
 let⟨a,T,h⟩:=h;refine⟨a,T,(h.set i _).congr λj _=>?_⟩;by_cases e:j=i;·rw[aU e,aU oM,aU e]
 rw[aM e,aM e]
theorem setOther(h:Cp w g K C W){a:Addr}(ha:g≠a.1)(v:Uj):Cp (w.setCell a v) g K C W:=by
 let⟨b,T,h⟩:=h;exact⟨b,T,h.setOther ha v⟩
theorem alloc(h:Cp w g K C W)(o:Obj):Cp (w.alloc o) g K C W:=by
 let⟨a,T,h⟩:=h;exact⟨a,T,h.alloc o⟩
theorem drew(h:Cp w g K C W):Cp w.drew g K C W:=by
 let⟨a,T,h⟩:=h;exact⟨a,T,h.drew⟩
theorem of_row(h:w.rowIs g 189 K λi=>.int .u64 (W i)):Cp w g K K W :=
 ⟨aA,λ_=>.int .u64 0,h.congr λi a=>by rw[aU a]⟩
theorem to_row(h:Cp w g K K W):w.rowIs g 189 K (λi=>.int .u64 (W i)):=by
 let⟨_,T,h⟩:=h;exact h.congr λi a=>by rw[aU a]
theorem of_own{c:Nat}{v:Uj}{a:Wa}(h:w.ownsRow c 189 1 v a.length (a.map λx:Nat=>Value.int .u64 (x:Int)))(p:v≠.slice none 0 0):∃g C,v=.slice (some ⟨g,0,none⟩) a.length C/\c<=g/\Cp w g a.length C (λi=>a.getD i 0):=by
 obtain⟨o,h|⟨g,k,b,rfl,m,n,l,_,f,j⟩⟩:=h;·exact absurd h.1 p
 simp only[iN]at o f j;refine⟨g,k,rfl,m,l,λi=>b[i]?.getD (.int .u64 0),b,n,f,λi q=>?_⟩;show b[i]?=some (if i<a.length then Value.int .u64 ((a.getD i 0:Nat):Int)else b[i]?.getD (.int .u64 0));by_cases e:i<a.length
 .rw[aU e];have d:(b.1.take a.length)[i]?=some (Value.int .u64 (a[i]:Nat)):=by rw[j];simp[e]
  rw[fH e]at d;have e2:a.getD i 0=a[i]:=by simp[e]
  rw[e2];simpa using d
 rw[aM e];have:i<b.size:=oM;simp[this]
end Cp
end
theorem Qg:(prog.info? 189).map (λi=>(i.8,i.3,i.4))=some (some<|.int .u64 0,1,8):=vZ
theorem P5(f:Nat)(h:f=96\/f=121)(g K x:Nat)(W:Wk)(w:Ub)(d:Hs (XA W))(b:Hs (w.rowIs g 189 K λj=>.int .u64 (W j)))(u:x<64*K)(hK:K<=1000):Calls prog f #[.agg #[Hl g K K],Hp x] w λe k=>e=.returned (.bool (Xh W x))/\Below w.1.size w k:=by
 have n:=rh x;have p:=rg x;have hq:x/64<K:=oM;have s:x%64<64:=dS _ vY;have a:=b.cell hq;have i:=b.lt;have q:=λo=>oB (Xb (Below.refl w.1.size w) o) a i;have c:Hs ((bits .and .u64 ((W (x/64):Int)/2^(x%64)) 1==1)=Xh W x):=Xa<|ux (d _);generalize r:x/64=l at*;generalize t:x%64=v at*;generalize W l=m at*;obtain rfl|rfl:=h
 go_in
 rotate_left
 go_in
 rotate_left
 all_goals (
  go_wp2;go_ret
  exact⟨AM c,Xb (Below.refl _ _) _⟩)
theorem Ps(f:Nat)(c:f=106\/f=95\/f=156)(a:Nat)(w:Ub)(k:a<=60000):Calls prog f #[Hp a] w λe b=>∃g,e=.returned (.agg #[Hl g ((a+63)/64) ((a+63)/64)])/\w.1.size<=g/\Below w.1.size w b/\b.rowIs g 189 ((a+63)/64) (λ_=>.int .u64 ((0:Nat):Int)):=by
 have i:=fM (P:=prog) 98 189 (.int .u64 0) 8 underlying98 Qg rfl .i64 .i64 ((a+63)/64) oM oM;have hq:((a:Int)+63).tdiv 64=(((a+63)/64:Nat):Int):=by rw[fY oM];omega
 have j:((a:Int)+64-1)=(a:Int)+63:=oM;have hK:(a+63)/64<=1000:=oM;generalize (a+63)/64=K at*;obtain rfl|rfl|rfl:=c
 go_in
 rotate_left
 go_in
 rotate_left
 go_in
 rotate_left
 all_goals (
  go_wp2;refine cC (v:=.agg #[Hl (w.1.size+1) K K]) (by first|(simp[results,results106,go_sem];done)|(simp[results,results95,go_sem];done)|(simp[results,results156,go_sem];done)) rfl ?_;refine⟨w.1.size+1,rfl,oM,Xb (Xb (Below.refl _ _) _) _,?_⟩;have d:=λh=>by
   have:=dG (w.alloc h) (.int .u64 0) K 189;rwa[aO]at this
  exact d _)
theorem Pu(f:Nat)(G:f=104\/f=97\/f=158)(g K C n c:Nat)(W:Wk)(m:Uy)(a:Wa)(L B:Nat)(w:Ub)(ha:Hs (Xf w L B m<|a.map Int.ofNat))(v:Hs (n=a.length))(hn:n<=4000)(N:Hs (∀t∈a,t<64*K))(hK:K<=1000)(F:Hs (XA W))(s:Hs (Cp w g K C W))(X:B<=w.1.size)(aa:¬(L<=g/\g<B)):
 Calls prog f #[.agg #[Hl g K C],.slice m n c] w λe x=>e=.returned (.tuple #[])/\w.grownBy x (some g)/\Cp x g K C (E2 W a):=by
 obtain rfl|rfl|rfl:=G
 go_in
 rotate_left
 go_in
 rotate_left
 go_in
 rotate_left
 all_goals (
  go_wp2;have hg:=s.lt
  go_loopw [8] (λu wr=>∃q:Nat,q<=n/\u=Hp q/\Hs (w.grownBy wr<|some g)/\wr.cell? (Hk w.1.size 0)=some (Hl g K C)/\Hs (Cp wr g K C<|E2 W (a.take q))) λu _=>n-(intOf u).toNat
  case atStart=>exact⟨0,aN,rfl,Xa<|bW _ _ _,sP,Xa<|s.alloc _⟩
  case round=>
   obtain⟨q,hq,rfl,h,M,b⟩:=hrel;by_cases ab:q<n
   .have l:q<a.length:=oN v.o
    obtain⟨o,P,rfl,Y,p⟩:=ha q (by simpa using l);have k:=(Xc<|h.5 o oM λe=>by injection e with e;omega).trans p;rw[cM]at k;have af:=N _<|aH l;have A:=Xa<|VW (W:=W) l;have D:=Xa<|Zs (a.take q) F;generalize a[q]=t at*;have U:=rh t;have V:=rg t;have R:Cl wr o (P+q) (Hp t):=k;generalize E2 W (a.take q)=j at*;have r:t/64<K:=oM;have J:t%64<64:=dS _ vY;have S:=b.cell r;have T:=b.frozen;have z:=Xa<|tZ J (D<|t/64);have y:Hs (∀i,(if i=t/64 then j (t/64)|||2^(t%64)else j i)=E2 W (a.take<|q+1) i):=Xa (λi=>by
     rw[A.o];unfold YH;by_cases e:i=t/64;·rw[aU e,aU e,e]
     rw[aM e,aM e])
    generalize Z:t/64=d at*;generalize ac:t%64=Q at*;go_wp2;go_region;go_wp2;rw[z.o];have O:wr.grownBy (wr.setCell (Hk g d) (.int .u64 ((j d|||2^Q:Nat):Int))).drew (some g):=⟨rfl,rfl,rfl,by simp[World.setCell,World.drew],λal _ I=>Below.heap_setCell _ _ _ _ λe=>I<|by rw[e]⟩;refine⟨⟨q+1,oM,gM,Xa (h.andThen O λaj H=>by cases H;exact aZ rfl),?_,Xa ?_⟩,by simp[intOf];omega⟩;·exact(bH wr (Hk g d) (Hk w.1.size 0) _ (by show g≠w.1.size;omega)).trans M
    refine Cp.drew ((b.set d _ r).congr λi _=>?_);rw[<-y.o i]
   have ad:q=n:=oM;have E:Hs (a.take q=a):=Xa<|aW (oN v.o);rw[E.o]at b;go_wp2
   go_end0
   exact⟨rfl,h,b⟩)
theorem P8(l:Nat)(L:l=107\/l=225)(g b c K C n k:Nat)(S O T:Wk)(w:Ub)(r:Hs (XA S))(m:Hs (XA O))(I:Hs (XA T))(hK:K<=1000)(z:Hs (Cp w g K C S))(y:Hs (Cp w b K n O))(A:Hs (Cp w c K k T))(H:c≠g)(R:Hs (b=g->S=O)):
 Calls prog l #[.agg #[Hl g K C],.agg #[Hl b K n],.agg #[Hl c K k]] w λe B=>e=.returned (.bool (Ix S O T K))/\w.grownBy B (some g)/\Cp B g K C (NR S O T):=by
 obtain rfl|rfl:=L
 go_in
 rotate_left
 go_in
 rotate_left
 all_goals (
  go_wp2;have l1:=z.lt;have Y:=y.lt;have Z:=A.lt
  go_loopw [7,14] (λG u wr=>∃q:Nat,q<=K/\u=Hp q/\G=.bool (Ix S O T q)/\Hs (w.grownBy wr<|some g)/\wr.cell? (Hk w.1.size 0)=some (Hl g K C)/\wr.cell? (Hk (w.1.size+2) 0)=some (Hl c K k)/\Hs (Cp wr g K C λi=>if i<q then NR S O T i else S i)) λ_ u _=>K-(intOf u).toNat
  case atStart=>exact⟨0,aN,rfl,by rw[AK],Xa (((bW w _ _).andThen (bW _ _ _) λv d=>aZ d).andThen (bW _ _ _) λv d=>aZ d),by simp[go_sem],by simp[go_sem],Xa<|(((z.alloc _).alloc _).alloc _).congr λi _=>sP⟩
  case round=>
   obtain⟨q,hq,rfl,rfl,f,U,V,h⟩:=hrel;by_cases j:q<K
   .have e1:Cl wr g q (.int .u64 (S q)):=(h.cell j).trans sP
    have e3:=(Xc<|f.5 c Z λe=>H<|by injection e).trans (A.cell j);have e2:wr.cell? (Hk b q)=some (.int .u64 (O q)):=by
     by_cases e:b=g;·rw[<-R.o e,e];exact e1
     exact(Xc<|f.5 b Y λE=>e<|by injection E).trans (y.cell j)
    have ez:=h.frozen;have aa:=kM (O q) (T q) (m q) (I q);have P:O q&&&(18446744073709551615-T q)<18446744073709551616:=iC jB<|m q;have ab:bits .andNot .u64 ((O q&&&(18446744073709551615-T q):Nat):Int) (S q:Int)=((NT S O T q:Nat):Int):=kM _ (S q) P (r q);have ac:bits .or .u64 (S q:Int) ((NT S O T q:Nat):Int)=((NR S O T q:Nat):Int):=u64_or_nat _ _ (r q) (WR m q);have o:=Xa<|AL S O T q;have W:g≠w.1.size:=oM;have X:g≠w.1.size+2:=oM;have p:Hs (Cp (wr.setCell (Hk g q) (.int .u64 (NR S O T q:Int))) g K C λi=>if i<q+1 then NR S O T i else S i):=Xa ((h.set q _ j).congr (λi _=>by
     by_cases e:i=q;·subst e;simp
     rw[aM e];by_cases e2:i<q;·rw[aU e2,aU oM]
     rw[aM e2,aM oM]))
    have x:wr.grownBy (wr.setCell (Hk g q) (.int .u64 (NR S O T q:Int))) (some g):=⟨rfl,rfl,rfl,by simp[World.setCell],λaf _ N=>Below.heap_setCell _ _ _ _ λe=>N<|by rw[e]⟩;have a:=Xa (f.andThen x λv d=>by cases d;exact aZ rfl);have s:=(bH wr (Hk g q) (Hk w.1.size 0) (.int .u64 (NR S O T q:Int)) W).trans U;have t:=(bH wr (Hk g q) (Hk (w.1.size+2) 0) (.int .u64 (NR S O T q:Int)) X).trans V;generalize J:O q&&&(18446744073709551615-T q)=ad at*;generalize NR S O T q=Bq at*;generalize NT S O T q=D at*;generalize S q=Sq at*;generalize O q=Oq at*;generalize T q=Tq at*;generalize Ix S O T q=F at*;cases F with
    |true=>
     go_wp2;go_region;go_wp2;exact⟨⟨q+1,oM,gM,by rw[o.o];rfl,Xa ⟨a.1,a.2,a.3,a.4,a.5⟩,s,t,Xa p.drew⟩,by simp[intOf];omega⟩
    |false=>
     go_wp2;go_region;go_wp2;exact⟨⟨q+1,oM,gM,by rw[o.o];cases D<;>rfl,Xa ⟨a.1,a.2,a.3,a.4,a.5⟩,s,t,Xa p.drew⟩,by simp[intOf];omega⟩
   have Q:q=K:=oM;subst Q;go_wp2;go_ret
   exact⟨rfl,f,h.congr λi M=>by rw[aU M]⟩)
abbrev Ty:=@Ps 106<|bC rfl
abbrev ZG:=@Pu 104<|bC rfl
abbrev Tv:=@P8 107<|bC rfl
abbrev Jm:=@P5 96<|bC rfl
abbrev Tt:=@Ps 95<|aZ (bC rfl)
abbrev Tz:=@Pu 97<|aZ (bC rfl)
theorem TW(h:w.ownsRow n m k a g y)(b:w.grownBy v (some B))(c:B<n):v.ownsRow n m k a g y :=
 h.kept b (by
  cases e:a.ownBlock with
  |none=>exact bC rfl
  |some d=>exact aZ λe2=>by cases e2;have:=(h.lt _ e).1;omega)
theorem pj(h:w.ownsRow n m k (Hl B g c) g y)(j:v.1[B]?=w.1[B]?):v.ownsRow n m k (Hl B g c) g y:=by
 obtain⟨a,h|⟨o,l,b,e,f,i,d⟩⟩:=h;·exact⟨a,bC h⟩
 cases e;exact⟨a,aZ ⟨B,c,b,rfl,f,j.trans i,d⟩⟩
theorem qO(h:w.ownsRow n m k (.slice (some ⟨B,0,none⟩) g c) g y)(u:Uj):(w.setCell ⟨B,i,none⟩ u).ownsRow n m k (.slice (some ⟨B,0,none⟩) g c) g (y.set i u):=by
 obtain⟨l,b|⟨s,r,a,e,f,j,d,o,p,q⟩⟩:=h;·cases b.1
 cases e;refine⟨by rw[bL];exact l,aZ ⟨B,c,a.setIfInBounds i u,rfl,f,?_,d,o,by rw[jS];exact p,?_⟩⟩;·exact heap_setCell_same w B i a m u j
 rw[Array.toList_setIfInBounds,List.take_set,q]
theorem Xm(h:w.ownsRow n m k a B y)(b:0<B):∃g c,a=.slice (some ⟨g,0,none⟩) B c/\(n<=g/\g<w.1.size)/\B<=c:=by
 obtain⟨_,m,_⟩|h:=Vc h;·omega
 exact h
theorem Zv(h:0<=t):∃m:Nat,t=m:=⟨t.toNat,oM⟩
def Je(L:Wa):Wo:=L.map λ(x:Nat)=>Value.int .i64 (x:Int)
theorem VP:Je (s++[n])=Je s++[Hp n]:=by simp[Je]
theorem UY(w:Ub)(b:Nat):Xf (w.alloc<|.cells #[.int .i64 (b:Int)] n) w.1.size (w.1.size+1) (some ⟨w.1.size,0,none⟩) ([b].map Int.ofNat):=λi a=>by
 have:i=0:=by simpa using a
 subst this;exact⟨_,0,rfl,⟨aA,iJ⟩,sP⟩
theorem KJ(t:Yj):t.tg.length<=2:=by
 unfold Yj.tg;split;·simp
 split<;>simp
structure YW(w:Ub)(bS gS BL K:Nat)(ab:Uy)(nb cb:Nat)(W:Wk)(v:Uj)(L:Wa):Prop where
 c0:w.cell? ⟨bS,0,none⟩=some (.slice ab nb cb)
 c1:w.cell? ⟨bS,1,none⟩=some (.slice (some ⟨gS,0,none⟩) K K)
 c2:w.cell? ⟨bS,2,none⟩=some v
 thaw:∀q,w.frozen? ⟨bS,q,none⟩=false
 row:w.rowIs gS 189 K λi=>.int .u64 (W i)
 own:w.ownsRow BL 2 1 v L.length (Je L)
 lb:bS<BL
 lg:gS<BL
 ne:bS≠gS
 sz:BL<=w.1.size
structure Vh(w w':Ub)(bS gS:Nat)(v v':Uj):Prop where
 os:w'.4=w.4
 tape:w'.2=w.2
 output:w'.5=w.5
 size:w.1.size<=w'.1.size
 block:∀k,k<w.1.size->k≠bS->k≠gS->some k≠v.ownBlock->w'.1[k]?=w.1[k]?
 own:v'.ownBlock=v.ownBlock\/∀k,v'.ownBlock=some k->w.1.size<=k
theorem Vh.refl(w:Ub)(a b:Nat)(v:Uj):Vh w w a b v v:=⟨rfl,rfl,rfl,aA,λ_ _ _ _ _=>rfl,bC rfl⟩
theorem Vh.trans{v1 v2:Uj}(h:Vh w v n m a v1)(k:Vh v u n m v1 v2):Vh w u n m a v2:=by
 refine⟨k.1.trans h.1,k.2.trans h.2,k.3.trans h.3,aJ h.4 k.4,λj d f g i=>?_,?_⟩
 .refine(k.5 j (aX d h.4) f g λe=>?_).trans (h.5 j d f g i);obtain b|b:=h.6;·exact i<|by rw[e,b]
  have:=b j e.symm;omega
 obtain c|c:=k.6
 .rcases h.6 with b|b;·exact bC<|c.trans b
  exact aZ λj e=>b j<|by rw[<-c];exact e
 exact aZ λj e=>aJ h.4<|c j e
theorem Vh.of_below(h:Below w.1.size w v):Vh w v n m a a:=⟨h.1,h.2,h.3,h.4,λk b _ _ _=>h.5 k b,bC rfl⟩
theorem Vh.of_grown(h:w.grownBy v (some m)):Vh w v n m a a:=⟨h.1,h.2,h.3,h.4,λk b _ c _=>h.5 k b λe=>c (by injection e),bC rfl⟩
theorem YW.below(h:YW w n m k B p g i f a s)(b:Below w.1.size w v):YW v n m k B p g i f a s:=by
 have l:=h.sz;have d:=b.5 n<|oN h.7;have c:∀q,v.cell? (Hk n q)=w.cell? (Hk n q):=λq=>bZ d;refine⟨(c 0).trans h.1,(c 1).trans h.2,(c 2).trans h.3,λq=>(bJ d).trans (h.4 q),h.5.of_block<|b.5 m (oN h.8),?_,h.7,h.8,h.9,aJ l b.4⟩;refine h.6.kept (row:=none) ⟨b.1,b.2,b.3,b.4,λj e _=>b.5 j e⟩ ?_;cases a.ownBlock with
 |none=>exact bC rfl
 |some j=>exact aZ sP
theorem YW.seen(h:YW w n m k B p g i f a s)(c:w.grownBy v (some m))(j:v.rowIs m 189 B λo=>.int .u64 (F o)):YW v n m k B p g i F a s:=by
 have l:=h.sz;have d:=c.5 n (oN h.7) (λe=>h.9<|by injection e);have b:∀q,v.cell? (Hk n q)=w.cell? (Hk n q):=λq=>bZ d;exact⟨(b 0).trans h.1,(b 1).trans h.2,(b 2).trans h.3,λq=>(bJ d).trans (h.4 q),j,TW h.6 c h.8,h.7,h.8,h.9,aJ l c.4⟩
theorem YW.push{r:Obj}(h:YW w n m k B p g i f a s)(c:(w.alloc r).grownBy v a.ownBlock)(H:v.ownsRow k 2 1 A (s.length+1) (Je s++[.int .i64 (j:Int)]))(F:A.ownBlock=a.ownBlock\/A.ownBlock=some (w.1.size+1)):
 YW (v.setCell ⟨n,2,none⟩ A) n m k B p g i f A (s++[j])/\Vh w (v.setCell ⟨n,2,none⟩ A) n m a A/\v.cell? ⟨n,2,none⟩=some a/\v.frozen? ⟨n,2,none⟩=false:=by
 have L:=h.sz;have o:=h.7;have y:=h.8;have K:(w.alloc r).1.size=w.1.size+1:=aO _ _;have J:=c.4;have z:∀b,b<k->some b≠a.ownBlock:=λb x e=>by have:=(h.6.lt b e.symm).1;omega
 have ha:∀b,b<w.1.size->(w.alloc r).1[b]?=w.1[b]?:=λb x=>Below.heap_alloc _ _ _ x;have u:=(c.5 n oM<|z _ o).trans (ha _ oM);have G:=(c.5 m oM<|z _ y).trans (ha _ oM);have d:∀q,v.cell? (Hk n q)=w.cell? (Hk n q):=λq=>bZ u;have t:=λq=>(bJ u).trans (h.4 q);refine⟨⟨(XL _ _ oM _).trans ((d 0).trans h.1),(XL _ _ oM _).trans ((d 1).trans h.2),fQ _ _ _<|(d 2).trans h.3,λq=>by rw[eX];exact t q,(h.5.of_block G).setOther (λe=>h.9 e.symm) _,?_,o,y,h.9,by rw[Xd];omega⟩,⟨?_,?_,?_,by rw[Xd];omega,λb C D I E=>?_,?_⟩,(d 2).trans h.3,t 2⟩
 .rw[VP,aQ];exact ownsRow_setCell_below H o _
 .exact c.1
 .exact c.2
 .exact c.3
 .rw[Below.heap_setCell _ _ _ _ D];exact(c.5 b oM E).trans (ha b C)
 obtain e|e:=F;·exact bC e
 exact aZ λb l=>by rw[e]at l;injection l with l;omega
theorem Vh.blks(d:Vh w v n m a A)(h:YW w n m k B p g i f a s)(q:Xp w j c p x)(l:¬(j<=n/\n<c))(o:¬(j<=m/\m<c))(r:c<=k):Xp v j c p x:=by
 have t:=h.sz;exact q.keepS λb u y=>d.5 b oM (λe=>l oM) (λe=>o oM) λe=>by have:=(h.6.lt b e.symm).1;omega
theorem VY(g d u:Nat)(E:Nat)(D:Uy)(R B:Nat)(bd:Hs (m=x.length))(hn:m<=1000)(hK:m<=64*n)(ck:n<=100)(S:¬(R<=g/\g<B))(T:¬(R<=d/\d<B))(U:B<=u)(hT:Hs (∀aa∈x,∀t∈aa.3.tg,0<=t/\t<m)):
 ∀(c b:Nat)(W:Wk)(v:Uj)(L:Wa)(w:Ub),Hs (YW w g d u n D m E W v L)->Hs (Xp w R B D x)->b<m->Hs (XB W m<=c)->Hs (XA W)->L.length+XB W m<=m ->
 Calls prog 45 #[Hn g,Hp b] w λi w'=>i=.returned (.tuple #[])/\∃r,Vh w w' g d v r/\YW w' g d u n D m E (C9 (X8 x) c b (W,L)).1 r (C9 (X8 x) c b (W,L)).2:=by
 let⟨i0,b6,cc,cd,ce⟩:=Xq RH;intro c
 induction c with
 |zero=>
  intro b W v L w f J F Q z hL;have HH:Hs (Xh W b=true):=Xa<|T8 (oN Q.o) F;have h:=Xa<|Jm d n b W w z (Xa f.5) oM oM;rw[HH.o]at h;have c1:=f.2
  go_in
  go_wp2_with fail
  refine h.mono ?_;rintro i e⟨rfl,j⟩;have k:=Xa<|f.below j;have y:Hs (Vh w e g d v v):=Xa<|Vh.of_below j;clear j h c1;go_wp2_with fail
  refine cC (v:=.tuple #[]) (by simp[results,results45,go_sem]) rfl ?_;exact⟨rfl,v,y,k⟩
 |succ c ih=>
  intro b W v L w f J F Q z hL;have IH:=Xa ih;clear ih;cases hh:Xh W b with
  |true=>
   have ap:=Xa hh;clear hh;have h:=Xa<|Jm d n b W w z (Xa f.5) oM oM;rw[ap.o]at h;have c1:=f.2
   go_in
   go_wp2_with fail
   refine h.mono ?_;rintro i e⟨rfl,j⟩;have k:=Xa<|f.below j;have y:Hs (Vh w e g d v v):=Xa<|Vh.of_below j;clear j h c1;go_wp2_with fail
   refine cC (v:=.tuple #[]) (by simp[results,results45,go_sem]) rfl ?_;rw[Vd (s:=(W,L)) ap.o];exact⟨rfl,v,y,k⟩
  |false=>
   have O:=Xa hh;clear hh;have c0:=f.1;have c1:=f.2;have c2:=f.3;have h:=Xa<|Jm d n b W w z (Xa f.5) oM oM;rw[O.o]at h
   go_in
   go_wp2_with fail
   refine h.mono ?_;rintro i e⟨rfl,j⟩;have k:=Xa<|f.below j;have y:Hs (Vh w e g d v v):=Xa<|Vh.of_below j;clear j h c0 c1 c2;have c0:=k.1;have c1:=k.2;go_wp2_with fail
   have P:=Xa<|k.below (Xb (Below.refl _ _) (.cells #[Hp b] 172));have aj:Hs (Vh e (e.alloc<|.cells #[Hp b] 172) g d v v):=Xa<|Vh.of_below (Xb (Below.refl _ _) _);have aq:Hs (Xf (e.alloc<|.cells #[Hp b] 172) e.1.size (e.1.size+1) (some ⟨e.1.size,0,none⟩) ([b].map Int.ofNat)):=Xa<|UY e b;have be:e.1.size+1<=(e.alloc<|.cells #[Hp b] 172).1.size:=sP;have b5:d<e.1.size:=oP k.8 k.sz
   generalize e.alloc _=wa at*;have bp:Hs (∀t∈[b],t<64*n):=Xa (λt o=>by
    have:t=b:=by simpa using o
    omega)
   refine(Tz d n n 1 1 W _ [b] e.1.size (e.1.size+1) wa aq (Xa rfl) oM bp oM z (Xa<|Cp.of_row P.5) be oM).mono ?_;rintro i I⟨rfl,V,ba⟩;have l:Hs (YW I g d u n D m E (YH W b) v L):=Xa<|P.seen V ba.to_row;have M:=Xa<|(y.trans aj).trans (Vh.of_grown V);have ad:=Xa<|M.blks f J S T U;have a2:=Xa<|Tb (W:=W) (n:=m) F O;have K:=Xa<|nY (tg:=X8 x) (m:=c) (s:=(W,L)) O;clear V ba P aj aq y k be b5 c0 c1;have A:b<x.length:=oN bd.o;obtain⟨bb,cg,rfl,cm,pa,pc,ia,ic,-,-,⟨t0,t1,t2,t3⟩,-,-⟩:=ad b A;have c0:=l.1;have a1:=Xa<|hT.o _ (aH A);rw[Km A]at K;dsimp only at K;generalize x[b].3=tm at*;go_wp2_with fail
   refine(J4 tm I).mono ?_;rintro i w3⟨ci,cj,rfl,G,a7⟩;have ar:=Xa<|l.below G;have af:=Xa<|M.trans (Vh.of_below G);have bl:=Xa a7;have bf:=Xa<|af.blks f J S T U;have ch:=Xa G.4;have bm:=Xa λcf i=>(l.6.lt cf i).2;have ao:Hs (d<I.1.size/\g<I.1.size):=Xa ⟨oP l.8 l.sz,oP l.7 l.sz⟩;clear G a7 t0 t1 t2 t3 c0 ad l M;have cr:=KJ tm;generalize ca:tm.tg=a at*;clear ca;have bv:Hs (∀t∈a.map Int.toNat,t<m):=Xa (λt o=>by
    obtain⟨ac,Z,rfl⟩:=aY.1 o;have:=a1 ac Z;omega)
   have br:Hs (∀b,b<m->∀t∈X8 x b,t<m):=Xa (λb F t o=>by
    have A:b<x.length:=oN bd.o
    rw[Km A]at o;obtain⟨ac,Z,rfl⟩:=aY.1 o;have:=hT _ (aH A) ac Z;omega)
   have b0:=Xa<|oV z b;have b3:XB (YH W b) m<=c:=oP Q.o a2.o;have cl:L.length+XB (YH W b) m+1<=m:=oN a2.o;go_wp2
   go_loopw [29] (λH wr=>∃q:Nat,q<=a.length/\H=Hp q/\∃r,Hs (Vh w3 wr g d v r)/\Hs (YW wr g d u n (some ⟨bb,cg,none⟩) m E (((a.map Int.toNat).take q).foldl (λs t=>C9 (X8 x) c t s) (YH W b,L)).1 r (((a.map Int.toNat).take q).foldl (λs t=>C9 (X8 x) c t s) (YH W b,L)).2)) λH _=>a.length-(intOf H).toNat
   case atStart=>exact⟨0,aN,rfl,v,Xa<|Vh.refl _ _ _ _,ar⟩
   obtain⟨q,hq,rfl,r,C,p⟩:=hrel;have N:Hs ((((a.map Int.toNat).take q).foldl (λs t=>C9 (X8 x) c t s) (YH W b,L)).2.length+XB (((a.map Int.toNat).take q).foldl (λs t=>C9 (X8 x) c t s) (YH W b,L)).1 m<=L.length+XB (YH W b) m):=Xa (DF (X8 x) br c _ λt o=>bv t<|iO o);by_cases X:q<a.length
   .obtain⟨bt,ot,rfl,b4,a3⟩:=bl q X;have et:=(Xc (C.5 bt b4.2 (oN ao.o) (oN ao.o) λi=>by have:=bm bt i.symm;omega)).trans a3;have b8:=a1 a[q] (aH X);have a0:Hs ((a.map Int.toNat).take (q+1)=(a.map Int.toNat).take q++[a[q].toNat]):=Xa (by rw[bN (by simpa using X),cM]);have b1:=Xa<|Ei (X8 x) c ((a.map Int.toNat).take q) (YH W b,L) b0;have bh:=Xa<|C.blks ar bf S T U;have bx:Hs (XB (((a.map Int.toNat).take q).foldl (λs t=>C9 (X8 x) c t s) (YH W b,L)).1 m<=c):=Xa (aJ (JY m λaa hx=>Ue (X8 x) c _ (YH W b,L) aa hx) b3);have al:Hs (((a.map Int.toNat).take (q+1)).foldl (λs t=>C9 (X8 x) c t s) (YH W b,L)=C9 (X8 x) c a[q].toNat (((a.map Int.toNat).take q).foldl (λs t=>C9 (X8 x) c t s) (YH W b,L))):=Xa (by rw[a0.o,dT];rfl);clear a3 a0;generalize a[q]=tq at*;obtain⟨tn,rfl⟩:=Zv b8.1;rw[dM]at al;have HC:=Xa<|IH.o tn _ r _ wr p bh oM bx b1 (oN N.o);generalize ((a.map Int.toNat).take q).foldl (λs t=>C9 (X8 x) c t s) (YH W b,L)=sq at*;let⟨Wq,Lq⟩:=sq;dsimp only at*;go_wp2_with fail
    refine HC.mono ?_;rintro i w5⟨rfl,v5,a5,bc⟩;have bi:=Xa<|C.trans a5;have bq:=Xa bc;clear a5 bc HC;go_wp2;exact⟨⟨q+1,oM,gM,v5,bi,Xa<|by rw[al.o];exact bq⟩,by simp[intOf];omega⟩
   have cq:q=a.length:=oM;have az:Hs ((a.map Int.toNat).take q=a.map Int.toNat):=Xa (aW<|by simp;omega);rw[az.o]at p N;generalize (a.map Int.toNat).foldl (λs t=>C9 (X8 x) c t s) (YH W b,L)=sq at*;let⟨Wq,Lq⟩:=sq;dsimp only at*;clear az;have c2:=p.3;have zz:=p.4 2;have cn:Lq.length<=1000:=oN N.o;have cs:=p.sz;go_wp2_with (at_builtin;refine bT _ rfl _ _ 41 rfl u 2 i0 (Hp 0) 1 8 underlying41 b6 cc cd ce rfl vY _ _ _ rfl (p.6.alloc _) (Hk wr.1.size 0) 1 1 [Hp b] rfl rfl ?c1 ?c2 ?c3 ?c4 ?c5 ?_)
   case c1=>exact Yf _ _ _
   case c2=>intro H hu;simp at hu;subst hu;rfl
   case c3=>unfold maxLen;omega
   case c4=>omega
   case c5=>simp;omega
   intro v8 w8 Y a6 b7 a4;let⟨a8,a9,co,cp⟩:=p.push a6 Y a4;obtain⟨g8,k8,rfl,-,-⟩:=Xm Y oM;have bn:=Xa a8;have bo:=Xa a9;clear a8 a9 Y a6 b7 a4;go_wp2
   go_end0
   exact⟨rfl,_,(af.trans C).trans bo,by rw[K.o];exact bn⟩
inductive OR (tg:Nat->List Nat) (z:Int):Nat->Prop
 |root:z≠0->OR tg z 0
 |step {b t:Nat}:OR tg z b->t∈tg b->(t:Int)≠z->OR tg z t
theorem Fc{tg:Yr}:OR tg n m↔Av tg n m:=by
 constructor
 .intro h
  induction h with
  |root h=>exact Av.root λe=>h oM
  |step _ b a c=>exact Av.step c b λe=>a oM
 intro h
 induction h with
 |root h=>exact OR.root λe=>h oM
 |step _ b a c=>exact OR.step c b λe=>a oM
theorem rf{tg:Yr}(c:t<0):OR tg t n↔Re tg n:=by
 constructor
 .intro h
  induction h with
  |root _=>exact Re.root
  |step _ a _ b=>exact Re.step b a
 intro h
 induction h with
 |root=>exact OR.root oM
 |step _ a b=>exact OR.step b a oM
structure PU(tg:Yr)(n:Nat)(z:Int)(F:Wa)(i:Nat):Prop where
 nd:F.Nodup
 av:∀x∈F,OR tg z x
 lt:∀x∈F,x<n
 root:z≠0->0∈F
 nil:z=0->F=[]
 cl:∀k (h:k<F.length),k<i->∀t∈tg F[k],(t:Int)≠z->t=0\/t∈F
theorem YS(h:s.Nodup)(a:∀x∈s,x<n):s.length<=n:=by
 have:=kV h (l₂:=List.range n) λx b=>bE.2<|a x b;simpa using this
theorem Ek{tg:Yr}(h:PU tg n t s m)(q:s.length<=m)(x:Nat):x∈s↔OR tg t x:=by
 refine⟨h.2 x,λi=>?_⟩
 induction i with
 |root b=>exact h.4 b
 |@step o l p g f j=>
  let⟨k,a,e⟩:=bR j;obtain c|d:=h.6 k a oM l (by rw[e];exact g) f
  .rw[c];refine h.4 λb=>?_;rw[h.5 b]at a;exact absurd a sP
  exact d
def XR(w:Ub)(L B:Nat)(d:Uy)(a:Tm):Prop :=
 ∀i (h:i<a.length),∃b o,d=some ⟨b,o,none⟩/\(L<=b/\b<B)/\∃c e,w.cell? ⟨b,o+i,none⟩=some (.slice c a[i].length e)/\Xf w L B c a[i]
theorem XR.keepS{w':Ub}{c:Tm}(h:XR w n m p c)(k:YA n m w w'):XR w' n m p c:=λl j=>by
 let⟨b,o,f,a,d,e,g,i⟩:=h l j;exact⟨b,o,f,a,d,e,(Xc<|k b a.1 a.2).trans g,i.keepS k⟩
theorem XR.keep{w':Ub}{a:Tm}(h:XR w n m p a)(k:Below m w w'):XR w' n m p a:=h.keepS<|YA.of_below k
theorem XR.mono{a:Tm}(h:XR w n m p a)(o:k<=n)(l:m<=B):XR w k B p a:=λj i=>by
 let⟨c,q,e,r,b,d,f,g⟩:=h j i;exact⟨c,q,e,oM,b,d,f,g.mono o l⟩
def YT(w:Ub)(G n:Nat)(P:Tj)(U:Vu):Prop :=
 w.rowIs G 41 n U/\(∀i,i<n->w.ownsRow (G+1) 2 1 (U i) (P i).length ((P i).map (Value.int .i64)))/\(∀i j,i<n->j<n->i≠j->(U i).ownBlock=none\/(U i).ownBlock≠(U j).ownBlock)
theorem YT.alloc{P:Tj}(a:YT w n m P h)(o:Obj):YT (w.alloc o) n m P h:=⟨a.1.alloc o,λi b=>(a.2.1 i b).alloc o,a.2.2⟩
theorem YT.below{P:Tj}(a:YT w n m P h)(k:Below w.1.size w v):YT v n m P h:=by
 refine⟨a.1.of_block<|k.5 _ a.1.lt,λi d=>?_,a.2.2⟩;refine(a.2.1 i d).kept (row:=none) ⟨k.1,k.2,k.3,k.4,λb c _=>k.5 b c⟩ ?_;cases (h i).ownBlock<;>simp
theorem YT.congr{P P':Tj}(a:YT w n m P h)(e:∀i,i<m->P i=P' i):YT w n m P' h :=
 ⟨a.1,λi b=>by rw[<-e i b];exact a.2.1 i b,a.2.2⟩
theorem YT.step{P:Tj}(a:YT w n m P h)(s:k<m)(x:Int)(d:Uj)(r:w.grownBy v (h k).ownBlock)(u:v.ownsRow (n+1) 2 1 d ((P k).length+1) ((P k).map (Value.int .i64)++[.int .i64 x]))(p:d.ownBlock=(h k).ownBlock\/d.ownBlock=some w.1.size):
 YT (v.setCell ⟨n,k,none⟩ d) n m (λi=>if i=k then P k++[x]else P i) (λi=>if i=k then d else h i):=by
 have y:=a.1.of_block (r.5 _ a.1.lt λe=>by have:=((a.2.1 k s).lt _ e.symm).1;omega);refine⟨y.set k d,λi b=>?_,λi j b g f=>?_⟩
 .refine ownsRow_setCell_below ?_ (by dsimp only;omega) _;by_cases e:i=k
  .subst e;simp only[gG,aQ,bA,bO,bG,eH,fZ];exact u
  simp only[e,fD];exact(a.2.1 i b).kept r (a.2.2 i k b s e)
 have fresh:∀c,c<m->(h c).ownBlock=none\/(h c).ownBlock≠some w.1.size:=λc t=>by
  by_cases e:(h c).ownBlock=some w.1.size;·have:=((a.2.1 c t).lt _ e).2;omega
  exact aZ e
 by_cases e1:i=k
 .subst e1;have e2:¬j=i:=λe=>f e.symm;simp only[gG,e2,fD];obtain q|q:=p;·rw[q];exact a.2.2 i j b g f
  right
  rw[q];intro o;obtain l|l:=fresh j g;·rw[l]at o;cases o
  exact l o.symm
 simp only[e1,fD];by_cases e2:j=k
 .subst e2;simp only[gG];obtain q|q:=p;·rw[q];exact a.2.2 i j b g f
  rw[q];exact fresh i b
 simp only[e2,fD];exact a.2.2 i j b g f
theorem YT.ints{P:Tj}(a:YT w n m P h):XR w n w.1.size (some ⟨n,0,none⟩) ((List.range m).map P):=λi b=>by
 simp only[bK,gI]at b;let⟨d,c,e,ha⟩:=Xk<|a.2.1 i b;refine⟨n,0,rfl,⟨aA,a.1.lt⟩,d,c,?_,?_⟩
 .simp only[cM,dW,aV];rw[a.1.cell b,e]
 simp only[cM,dW];exact ha.mono oM<|aA
theorem RG:(prog.info? 41).map (λi=>(i.8,i.3,i.4))=some (some Hq,1,24):=vZ
theorem YT.born(w:Ub)(n:Nat):YT (w.alloc<|.cells (madeCells #[.slice none 0 0] n) 41) w.1.size n (λ_=>[]) (λ_=>.slice none 0 0) :=
 ⟨dG _ _ _ _,λ_ _=>dA,λ_ _ _ _ _=>bC rfl⟩
theorem Ww{a:Za}{p:Ph}:XZ (a++[p])=XZ a+(1+p.2.length):=by simp[XZ]
theorem Ux:Xo (x++[q])=Xo x+(1+q.2.length+XZ q.1):=by simp[Xo,Ul]
theorem tI(a:Za):a.length<=XZ a:=by
 induction a with
 |nil=>simp
 |cons p a b=>simp only[XZ,eH,kX,bA]at b |-;omega
theorem Wm(a:Za)(k:Nat):XZ (a.take k)<=XZ a:=Tw _ _ _
theorem Up(a:Wi)(k:Nat):Xo (a.take k)<=Xo a:=Tw _ _ _
theorem tB(L B:Nat)(ha:Hs (Xp w L B p x))(s:Hs (n=x.length))(hn:n<=1048576)(hs:Xo x<=1048576)(y:B<=w.1.size):
 Calls prog 65 #[.agg #[Hp t,.slice p n c]] w λe z=>e=.returned (Hp<|Xo x)/\Below w.1.size w z:=by
 go_in
 go_wp2;have l:=Xb (Below.refl w.1.size w) (.cells #[Hp t,.slice p n c] 37);have V:(w.alloc<|.cells #[Hp t,.slice p n c] 37).cell? (Hk w.1.size 1)=some (.slice p n c):=sP;generalize w.alloc _=w1 at*
 go_loop [3,4] (λu i=>∃k:Nat,k<=n/\i=Hp k/\u=Hp (Xo (x.take k):Nat)) λ_ i=>n-(intOf i).toNat
 case atStart=>exact⟨0,aN,rfl,rfl⟩
 obtain⟨k,Y,rfl,rfl⟩:=hrel;by_cases Z:k<n
 .have q:k<x.length:=oN s.o;obtain⟨H,ac,rfl,⟨_,R⟩,m⟩:=ha k q;let⟨pa,pc,ia,ic,K,e1,_,r,_⟩:=m.keep (l.mono y) oM;have v:=Xa r;have a:Hs (Xo (x.take<|k+1)=Xo (x.take k)+(1+x[k].2.length+XZ x[k].1)):=by show _=_;rw[X7 q,Ux]
  have b:=Up x<|k+1;have A:=Xa b;have O:Xo (x.take k)+(1+x[k].2.length+XZ x[k].1)<=1048576:=oN a.o;have ab:x[k].1.length<=1048576:=oN<|tI x[k].1;clear m r b;generalize x[k]=X at*;generalize g:Xo (x.take k)=S at*;have D:=Xa g;clear g;go_wp2
  go_loop [3,5] (λu i=>∃j:Nat,j<=X.1.length/\i=Hp j/\u=Hp (S+(1+X.2.length)+XZ (X.1.take j):Nat)) λ_ i=>X.1.length-(intOf i).toNat
  case atStart=>exact⟨0,aN,rfl,by simp[XZ];try omega⟩
  obtain⟨j,W,rfl,rfl⟩:=hrel;by_cases o:j<X.1.length
  .obtain⟨I,o',rfl,⟨_,U⟩,G,J,M,N,_⟩:=v j o;have d:Hs (XZ (X.1.take<|j+1)=XZ (X.1.take j)+(1+X.1[j].2.length)):=by show _=_;rw[X7 o,Ww]
   have f:=Wm X.1<|j+1;have Q:XZ (X.1.take j)+(1+X.1[j].2.length)<=XZ X.1:=oN d.o;have C:=Xa f;clear f;generalize X.1[j]=P at*;generalize h:XZ (X.1.take j)=T at*;have F:=Xa h;clear h;go_wp2
   go_round
   case rel=>exact⟨j+1,oM,gM,by rw[d.o];go_num⟩
   simp[intOf];omega
  have e:=aW (l:=X.1) (i:=j) oM;have E:=Xa e;clear e;go_wp2
  go_round
  case rel=>exact⟨k+1,oM,gM,by rw[a.o,E.o];go_num⟩
  simp[intOf];omega
 have e:=aW (l:=x) (i:=k) (oN s.o);have E:=Xa e;clear e;go_wp2;go_ret;exact⟨f9 (by rw[E.o]),l⟩
theorem tG{F:Fn}(a:0<=F.1)(b:F.1<=2000)(c:1<=F.2.length)(d:F.2.length<=1000)(e:Xo F.2<=4000):Y6 F=true:=by simp[Y6, *]
theorem UE{F:Fn}(a:4000<Xo F.2):Y6 F=false:=by simp[Y6];omega
theorem Wt{F:Fn}(h:¬(0<=F.1/\F.1<=2000/\1<=F.2.length/\F.2.length<=1000)):Y6 F=false:=by simp[Y6];omega
theorem Uz(ha:Hs (Xp w m k p x))(h:Hs (n=x.length))(hn:n<=1048576)(hs:Xo x<=1048576)(Y:k<=w.1.size):
 Calls prog 90 #[.agg #[Hp t,.slice p n c]] w λe w'=>e=.returned (.bool (Y6 ⟨t,x⟩))/\Below w.1.size w w':=by
 by_cases G:0<=t/\t<=2000/\1<=n/\n<=1000
 .let⟨V,d1,d2,d3⟩:=G
  go_in
  go_wp2
  go_loopw [3,31] (λu i wr=>∃a:Nat,a<=n/\i=Hp a/\u=Hp (Xo (x.take a):Nat)/\Xo (x.take a)<=4000/\Below w.1.size w wr) λ_ i _=>n-(intOf i).toNat
  case atStart=>exact⟨0,aN,rfl,rfl,by simp[Xo],Xb (Below.refl _ _) _⟩
  obtain⟨a,hk,rfl,rfl,J,g⟩:=hrel;by_cases aq:a<n
  .have I:a<x.length:=oN h.o;obtain⟨ac,a0,rfl,⟨_,ao⟩,F⟩:=ha a I;let⟨N,O,L,M,e0,e1,⟨e2,e3,e4,e5⟩,K,_⟩:=F.keep (g.mono Y) oM;have P:=Xa<|K.keep (Xb (Below.refl wr.1.size wr) (.cells #[.slice N x[a].1.length O,.slice L x[a].2.length M,Hp x[a].3.1,Hp x[a].3.a,Hp x[a].3.3,Hp x[a].3.4] 60) |>.mono (oN g.4));have f:Hs (Xo (x.take<|a+1)=Xo (x.take a)+(1+x[a].2.length+XZ x[a].1)):=by show _=_;rw[X7 I,Ux]
   have A:=Up x<|a+1;have v:=Xa A;have aj:Xo (x.take a)+(1+x[a].2.length+XZ x[a].1)<=1048576:=oN f.o;have ar:x[a].1.length<=1048576:=oN<|tI x[a].1;have o:=Xa<|Xb g (.cells #[.slice N x[a].1.length O,.slice L x[a].2.length M,Hp x[a].3.1,Hp x[a].3.a,Hp x[a].3.3,Hp x[a].3.4] 60);have az:=g.4;clear F K A;generalize x[a]=X at*;generalize C:Xo (x.take a)=S at*;have HS:=Xa C;clear C;go_wp2
   go_loopw [3,44] (λu i wi=>∃j:Nat,j<=X.1.length/\i=Hp j/\u=Hp (S+(1+X.2.length)+XZ (X.1.take j):Nat)/\Below w.1.size w wi) λ_ i _=>X.1.length-(intOf i).toNat
   case atStart=>exact⟨0,aN,rfl,by simp[XZ];try omega,o⟩
   obtain⟨j,hj,rfl,rfl,d⟩:=hrel;by_cases H:j<X.1.length
   .obtain⟨b,l,rfl,⟨_,ap⟩,R,U,y,z,_⟩:=P j H
    have ad:wr.cell? (Hk b<|l + j*2)=some (Hp X.1[j].1):=by
     have s:=(o.cell (p:=Hk b<|l + j*2) (by show b < _;omega));exact oB d (s.symm.trans y) (by show b < _;omega)
    have af:wr.cell? (Hk b<|l + j*2+1)=some (.slice R X.1[j].2.length U):=by
     have s:=(o.cell (p:=Hk b<|l + j*2+1) (by show b < _;omega));exact oB d (s.symm.trans z) (by show b < _;omega)
    have B:Hs (XZ (X.1.take<|j+1)=XZ (X.1.take j)+(1+X.1[j].2.length)):=by show _=_;rw[X7 H,Ww]
    have W:=Wm X.1<|j+1;have al:XZ (X.1.take j)+(1+X.1[j].2.length)<=XZ X.1:=oN B.o;clear W y z;generalize X.1[j]=Q at*;generalize D:XZ (X.1.take j)=T at*;have HT:=Xa D;clear D;by_cases r:4000<S+(1+X.2.length)+(T+(1+Q.2.length))
    .go_wp2;go_ret;exact⟨Xl (UE (by have:=f.o;have:=v.o;show 4000<Xo x;omega)).symm,Xb d _⟩
    go_wp2;exact⟨⟨j+1,oM,gM,by rw[B.o];go_num,Xb d _⟩,by simp[intOf];omega⟩
   have E:=Xa<|aW (l:=X.1) (i:=j) oM;by_cases r:4000<S+(1+X.2.length)+XZ (X.1.take j)
   .go_wp2;go_ret;exact⟨Xl (UE (by have:=f.o;have:=v.o;have e:=E.o;rw[e]at r;show 4000<Xo x;omega)).symm,d⟩
   go_wp2;have e:=E.o;rw[e]at r |-;exact⟨⟨a+1,oM,gM,by rw[f.o];go_num,by rw[f.o];omega,d⟩,by simp[intOf];omega⟩
  go_wp2;go_ret;have e:=aW (l:=x) (i:=a) (oN h.o);rw[e]at J;exact⟨Xl (tG V d1 (by have:=h.o;show 1<=x.length;omega) (by have:=h.o;show x.length<=1000;omega) J).symm,g⟩
 have Z:Hs (Y6 ⟨t,x⟩=false):=Wt (F:=⟨t,x⟩) (by have:=h.o;show ¬(0<=t/\t<=2000/\1<=x.length/\x.length<=1000);omega);have ab:t<0\/(0<=t/\2000<t)\/(0<=t/\t<=2000/\n<1)\/(0<=t/\t<=2000/\1<=n/\1000<n):=oM;clear G;obtain q|⟨q,d1⟩|⟨q,d1,d2⟩|⟨q,d1,d2,d3⟩:=ab
 all_goals
  go_in
  go_wp2;go_ret;exact⟨Xl Z.symm,Xb (Below.refl _ _) _⟩
theorem Dj{F:Fn}(a:k<F.2.length)(h:Jf F.1 F.2.length F.2[k].3=false):J2 F=false:=JN a h
theorem AD(ha:Hs (Xp w m k p x))(g:Hs (n=x.length))(T:n<=1048576)(D:k<=w.1.size)(E:Hs (T7 w)):
 Calls prog 91 #[.agg #[Hp t,.slice p n c]] w λe M=>e=.returned (.bool (J2 ⟨t,x⟩))/\Below w.1.size w M:=by
 have Q:∀u,(w.alloc u).1.size=w.1.size+1:=λu=>sP
 go_in
 go_wp2
 go_loopw [9] (λs wr=>∃a:Nat,a<=n/\s=Hp a/\Below w.1.size w wr/\w.1.size<wr.1.size/\wr.cell? (Hk w.1.size 0)=some (Hp t)/\wr.cell? (Hk w.1.size 1)=some (.slice p n c)/\Hs ((x.take a).all (λv=>Jf t x.length v.3)=true)) λs _=>n-(intOf s).toNat
 case atStart=>exact⟨0,aN,rfl,Xb (Below.refl _ _) _,sP,sP,sP,rfl⟩
 obtain⟨a,R,rfl,f,B,F,G,y⟩:=hrel;by_cases S:a<n
 .have q:a<x.length:=oN g.o;obtain⟨N,u,rfl,⟨_,P⟩,z⟩:=ha a q;let⟨W,Y,U,V,O,e1,⟨e2,e3,e4,e5⟩,_,_⟩:=z.keep (f.mono D) oM;have i:=Xa<|E.keep f;have A:=Xa λj=>Dj (F:=⟨t,x⟩) (k:=a) q j;have C:=Xa λj=>XY (p:=λv:Xe=>Jf t x.length v.3) q y j;rw[<-g.o]at C;clear z;generalize x[a]=X at*;have K:X.3=⟨X.3.1,X.3.a,X.3.3,X.3.4⟩:=rfl;have l:Hs (Jf t n X.3=(Zu t 1 n ⟨X.3.1,X.3.a,X.3.3,X.3.4⟩&&!(X.3.1==2&&X.3.3==X.3.4))):=rfl;clear K;cases hr:Zu t 1 n ⟨X.3.1,X.3.a,X.3.3,X.3.4⟩
  .have d:=Xa hr;clear hr;go_wp2_with fail
   refine(Kn ?q1).mono ?_
   case q1=>exact i.keep<|Xb (Xb (Below.refl _ _) _) _
   rintro e h⟨rfl,b⟩;rw[Xw d];go_wp2;go_ret;exact⟨Xl (Xw A (by have e:=g.o;show Jf t x.length X.3=false;rw[<-e,l.o,d.o];rfl)).symm,Xg (Xb (Xb f _) _) b⟩
  have d:=Xa hr;clear hr;by_cases hq:X.3.1=2/\X.3.3=X.3.4
  .have q1:(X.3.1==2)=true:=by simp[hq.1]
   have q2:(X.3.3==X.3.4)=true:=by simp[hq.2]
   clear hq;go_wp2_with fail
   refine(Kn ?q1).mono ?_
   case q1=>exact i.keep<|Xb (Xb (Below.refl _ _) _) _
   rintro e h⟨rfl,b⟩;rw[Xw d];have r:=b.4;simp at r;let⟨H,I⟩:=NC b;have L:wr.1.size+1<h.1.size:=oM;go_wp2;go_ret;exact⟨Xl (Xw A (by have e:=g.o;show Jf t x.length X.3=false;rw[<-e,l.o,d.o,q1,q2];rfl)).symm,Xg (Xb (Xb f _) _) b⟩
  have J:(X.3.1==2)=false\/((X.3.1==2)=true/\(X.3.3==X.3.4)=false):=by simp only[iS,iA];omega
  clear hq;obtain q1|⟨q1,q2⟩:=J
  all_goals
   go_wp2_with fail
   refine(Kn ?q1).mono ?_
   case q1=>exact i.keep<|Xb (Xb (Below.refl _ _) _) _
   rintro e h⟨rfl,b⟩;rw[Xw d];have r:=b.4;simp at r;let⟨H,I⟩:=NC b;have L:wr.1.size+1<h.1.size:=oM;go_wp2;have o:=Xg (Xb (Xb (Below.refl wr.1.size wr) _) _) b;exact⟨⟨a+1,oM,gM,Xg f o,oM,oB o F B,oB o G B,by
    have e:=g.o;rw[<-e];exact Xw C (by show Jf t n X.3=true;rw[l.o,d.o];first|rw[q1];rfl|rw[q1,q2];rfl)⟩,by simp[intOf];omega⟩
 go_wp2;go_ret;exact⟨Xl (YE (xs:=x) (k:=a) (oN g.o) y).symm,f⟩
theorem W4(ha:Hs (Xp w m k p x))(B:Hs (n=x.length))(hn:n<=1048576)(I:Hs (∀b∈x,b.2.length<=1048576))(F:k<=w.1.size)(G:Hs (Uw w)):
 Calls prog 92 #[.agg #[Hp t,.slice p n c]] w λl Q=>l=.returned (.bool (Z0 ⟨t,x⟩))/\Below w.1.size w Q:=by
 go_in
 go_wp2
 go_loopw [10] (λi wr=>∃a:Nat,a<=n/\i=Hp a/\Below w.1.size w wr/\w.1.size<wr.1.size/\wr.cell? (Hk w.1.size 0)=some (Hp t)/\Hs ((x.take a).all (λb=>b.2.all<|Yw t 10)=true)) λi _=>n-(intOf i).toNat
 case atStart=>exact⟨0,aN,rfl,Xb (Below.refl _ _) _,sP,sP,rfl⟩
 obtain⟨a,hk,rfl,g,L,H,u⟩:=hrel;by_cases ad:a<n
 .have f:a<x.length:=oN B.o;obtain⟨T,aj,rfl,⟨_,aa⟩,y⟩:=ha a f;let⟨pa,pc,ia,ic,D,e1,⟨e2,e3,e4,e5⟩,_,A⟩:=y.keep (g.mono F) oM;have J:=Xa λh=>JN (p:=λb:Xe=>b.2.all<|Yw t 10) (xs:=x) (k:=a) f h;have N:=Xa λh=>XY (p:=λb:Xe=>b.2.all<|Yw t 10) f u h;have ac:=I _<|aH f;have C:=Xa A;have af:=g.4;generalize x[a]=X at*;go_wp2
  go_loopw [17] (λi S=>∃j:Nat,j<=X.2.length/\i=Hp j/\Below wr.1.size wr S/\Hs ((X.2.take j).all (Yw t 10)=true)) λi _=>X.2.length-(intOf i).toNat
  case atStart=>exact⟨0,aN,rfl,Xb (Below.refl _ _) _,rfl⟩
  obtain⟨j,hj,rfl,e,v⟩:=hrel;have o:=Xg g e;have E:=oB e H L;have M:w.1.size<wr.1.size:=oN e.4;by_cases r:j<X.2.length
  .obtain⟨U,o',rfl,⟨_,ab⟩,z⟩:=C j r;let⟨V,W,Y,Z,g4⟩:=z.keep e oM;have s:=Xa<|G.keep o;have K:=Xa λh=>JN (p:=Yw t 10) (xs:=X.2) (k:=j) r h;have O:=Xa λh=>XY (p:=Yw t 10) r v h;generalize X.2[j]=P at*;cases hr:Yw t 10 ⟨P.1,P.2,P.a,P.b,P.5⟩
   .have d:=Xa hr;go_wp2_with fail
    refine(TI ?q1).mono ?_
    case q1=>exact s.keep<|Xb (Below.refl _ _) _
    rintro l R⟨rfl,q⟩;rw[Xw d];go_wp2;go_ret;exact⟨Xl (Xw J<|Xw K d).symm,Xg (Xb o _) q⟩
   have d:=Xa hr;go_wp2_with fail
   refine(TI ?q1).mono ?_
   case q1=>exact s.keep<|Xb (Below.refl _ _) _
   rintro l R⟨rfl,q⟩;rw[Xw d];go_wp2;exact⟨⟨j+1,oM,gM,Xg (Xb e _) q,Xw O d⟩,by simp[intOf];omega⟩
  go_wp2;exact⟨⟨a+1,oM,gM,o,M,E,Xw N<|YE (xs:=X.2) (k:=j) oM v⟩,by simp[intOf];omega⟩
 go_wp2;go_ret;exact⟨Xl (YE (xs:=x) (k:=a) (oN B.o) u).symm,g⟩
def N5(w:Ub)(G m:Nat)(D:Wc):Prop:=∃f,w.rowIs G 2 m f/\∀i,i<m->f i=.int .i64 (F5 D i:Nat)
theorem N5.below(h:N5 w n m l)(k:Below w.1.size w v):N5 v n m l:=by
 let⟨f,a,b⟩:=h;exact⟨f,a.of_block<|k.5 _ a.lt,b⟩
theorem N5.lt(h:N5 w n m l):n<w.1.size:=by
 let⟨f,a,_⟩:=h;exact a.lt
theorem N5.cell(h:N5 w n m l)(b:k<m):w.cell? (Hk n k)=some (Hp (F5 l k:Nat))/\w.frozen? (Hk n k)=false:=by
 let⟨f,a,c⟩:=h;exact⟨by rw[a.cell b,c k b],a.frozen k⟩
theorem AN:F5 (l++[t]) T=F5 l T+if t=T then 1 else 0:=by
 simp only[F5,eU,aQ];by_cases h:t=T<;>simp[h]
theorem WZ(D:Wc)(v:Int):F5 D v<=D.length:=fJ _ _
theorem N5.step(h:N5 w n m l)(d:t=((F5 l k:Nat):Int)+1):N5 (w.setCell ⟨n,k,none⟩ (.int .i64 t)) n m (l++[(k:Int)]):=by
 let⟨f,a,b⟩:=h;refine⟨_,a.set k _,λi c=>?_⟩;rw[AN];by_cases e:i=k
 .subst e;simp[d]
 have e2:¬(k:Int)=(i:Int):=oM;simp only[e,fD,e2,fW];exact b i c
theorem N5.born(w:Ub)(m:Nat):N5 (w.alloc<|.cells (madeCells #[.int .i64 0] m) 2) w.1.size m []:=⟨_,dG _ _ _ _,λi _=>by simp[F5]⟩
def wU(a:Wi)(m:Nat):Prop:=∀x∈a,(∀p∈x.1,0<=p.1/\p.1<(m:Int))/\∀y∈x.2,1<=y.1/\y.1<=10/\(dB y.1=true->0<=y.2/\y.2<(m:Int))
theorem WE(ha:Hs (Xp w k B p x))(hx:Hs (m=x.length))(hn:m<=1048576)(hm:n<=2000)(hs:Hs (Xx x<=1048576))(hB:B<=w.1.size)(hT:Hs (Uw w))(hd:Hs (wU x n)):
 Calls prog 94 #[.agg #[Hp n,.slice p m c]] w λz w'=>z=.returned (.bool (JM ⟨n,x⟩))/\Below w.1.size w w':=by
 have a9:=fM (P:=prog) 41 2 (Hp 0) 8 underlying41 RH rfl .i64 .i64 n oM oM
 go_in
 go_wp2
 go_loopw [18] (λi wr=>∃a:Nat,a<=m/\i=Hp a/\Below w.1.size w wr/\Hs (N5 wr (w.1.size+1) n (BX<|x.take a))) λi _=>m-(intOf i).toNat
 case atStart=>exact⟨0,aN,rfl,Xb (Xb (Below.refl _ _) _) _,by have:=N5.born (w.alloc<|.cells #[Hp n,.slice p m c] 37) n;rw[aO]at this;exact this⟩
 obtain⟨a,hk,rfl,u,C⟩:=hrel;by_cases a8:a<m
 .have E:a<x.length:=oN hx.o
  obtain⟨a2,bc,rfl,⟨_,a5⟩,O⟩:=ha a E;have HC:=Xa O;have a1:Hs (BX (x.take<|a+1)=BX (x.take a)++(XG x[a].1++XI x[a].2)):=by
   show _=_;rw[X7 E,U0];rfl
  have a6:(BX<|x.take a).length+(x[a].1.length+JG x[a].1+x[a].2.length)<=1048576:=by
   have A:=UX x<|a+1;rw[X7 E,Vm]at A;have h2:=KP<|x.take a;have g:=hs.o;have h4:ZZ x[a]=x[a].1.length+JG x[a].1+x[a].2.length:=rfl;omega
  have ba:x[a].1.length<=1048576:=oM;have a7:x[a].2.length<=1048576:=oM;let⟨ad,af⟩:=hd _<|aH E;have ao:=Xa ad;have ap:=Xa af;let⟨pa,pc,G,ic,e0,e1,⟨e2,e3,e4,e5⟩,hp,hi⟩:=O.keep (u.mono hB) oM;have W:=Xa hp;have U:=Xa hi;have r:=Xa<|C.below (Xb (Below.refl wr.1.size wr) (.cells #[.slice pa x[a].1.length pc,.slice G x[a].2.length ic,Hp x[a].3.1,Hp x[a].3.a,Hp x[a].3.3,Hp x[a].3.4] 60));have a3:=C.lt;clear O HC ad af hp hi C;generalize hX:x[a]=X at*;clear hX;generalize BX (x.take a)=D at*;have bb:=u.4;go_wp2;generalize Y:wr.1.size=M at*;have V:=Xa Y;clear Y e0 e1 e2 e3 e4 e5
  go_loopw [25] (λi b=>∃j:Nat,j<=X.1.length/\i=Hp j/\Below w.1.size w b/\M<b.1.size/\b.cell? (Hk M 1)=some (.slice G X.2.length ic)/\Hs (N5 b (w.1.size+1) n (D++XG (X.1.take j)))/\Hs (Jw b k B pa X.1)/\Hs (YY b k B G X.2)) λi _=>X.1.length-(intOf i).toNat
  case atStart=>
   have aq:=Xw V;subst aq;exact⟨0,aN,rfl,Xb u _,sP,sP,by show N5 _ _ _ _;simpa [XG]using r.o,W.keep (Xb (Below.refl wr.1.size wr) _ |>.mono oM),U.keep (Xb (Below.refl wr.1.size wr) _ |>.mono oM)⟩
  clear r W U u V;obtain⟨j,hj,rfl,e,F,ac,s,R,h⟩:=hrel;have aj:=e.4;by_cases d:j<X.1.length
  .obtain⟨b',o',rfl,⟨_,az⟩,aa,cc,L,N,_⟩:=R j d;have g:Hs (D++XG (X.1.take<|j+1)=(D++XG (X.1.take j))++[X.1[j].1]):=by show _=_;rw[X7 d,Wj,cK]
   have hl:(D++XG (X.1.take j)).length<=1048576:=by simp[XG];omega
   let⟨I,q1⟩:=ao _<|aH d;generalize X.1[j]=P at*;generalize D++XG (X.1.take j)=v at*;let⟨K,ar⟩:=P;dsimp only at I q1 L N g;obtain⟨t,rfl⟩:=bX I;have S:t<n:=oM;have f:=s.below<|Xb (Below.refl wr.1.size wr) (.cells #[Hp t,.slice aa ar.length cc] 62);let⟨k0,T⟩:=f.cell S;have a0:=WZ v t;have y:=Xa f;clear f;generalize hQ:F5 v t=Q at*;have l:=Xa hQ;clear hQ;go_wp2;refine⟨⟨j+1,oM,gM,(Xb e _).setCell (by dsimp only;omega) _,by rw[Xd];simp;omega,?_,?_,?_,?_⟩,by simp[intOf];omega⟩
   .rw[cJ<|by intro z;cases z;omega];exact oB (Xb (Below.refl wr.1.size wr) _) ac F
   .rw[g.o];exact y.step<|by rw[l.o]
   .exact R.keepS<|(YA.of_below (Xb (Below.refl wr.1.size wr) _ |>.mono oM)).setCell (aZ<|by dsimp only;omega) _
   exact h.keepS<|(YA.of_below (Xb (Below.refl wr.1.size wr) _ |>.mono oM)).setCell (aZ<|by dsimp only;omega) _
  have o:=Xa<|aW (l:=X.1) (i:=j) oM;go_wp2
  go_loopw [40] (λi b=>∃j:Nat,j<=X.2.length/\i=Hp j/\Below w.1.size w b/\M<b.1.size/\Hs (N5 b (w.1.size+1) n (D++XG X.1++XI (X.2.take j)))/\Hs (YY b k B G X.2)) λi _=>X.2.length-(intOf i).toNat
  case atStart=>exact⟨0,aN,rfl,e,F,by have:=s.o;rw[o.o]at this;show N5 _ _ _ _;simpa [XI]using this,h⟩
  clear e F ac s R h o aj;obtain⟨j,hj,rfl,e,F,s,h⟩:=hrel;have aj:=e.4;by_cases d:j<X.2.length
  .obtain⟨b',o',rfl,⟨_,az⟩,L,N,g2,g3,g4⟩:=h j d;have g:Hs (D++XG X.1++XI (X.2.take<|j+1)=(D++XG X.1++XI (X.2.take j))++(if dB X.2[j].1 then [X.2[j].2]else [])):=by show _=_;rw[X7 d,Vx,<-cK]
   have hl:(D++XG X.1++XI (X.2.take j)).length<=1048576:=by have:=TP<|X.2.take j;simp[XG]at this |-;omega
   let⟨I,q1,q2⟩:=ap _<|aH d;generalize X.2[j]=P at*;generalize D++XG X.1++XI (X.2.take j)=v at*;let⟨op,K,pA,pB,pI⟩:=P;dsimp only at I q1 q2 L N g2 g3 g4 g;obtain⟨H,rfl⟩:=bX (show 0<=op by omega);have Z:=hT.keep<|Xb e (.cells #[Hp H,Hp K,Hp pA,Hp pB,Hp pI] 66);let⟨bd,_,c1,_,_,_⟩:=Z.2 H oM oM;have a4:0<wr.1.size:=oM;have f:=s.below<|Xb (Below.refl wr.1.size wr) (.cells #[Hp H,Hp K,Hp pA,Hp pB,Hp pI] 66);clear Z;cases hdb:dB H
   .rw[hdb]at c1;have J:=Xa hdb;have y:=Xa f;clear hdb f q2;go_wp2;refine⟨⟨j+1,oM,gM,Xb e _,by simp;omega,?_,?_⟩,by simp[intOf];omega⟩
    .rw[g.o,J.o];show N5 _ _ _ _;simpa using y.o
    exact h.keepS<|YA.of_below (Xb (Below.refl wr.1.size wr) _ |>.mono oM)
   let⟨q3,q4⟩:=q2 hdb;rw[hdb]at c1;have J:=Xa hdb;obtain⟨t,rfl⟩:=bX q3;have S:t<n:=oM;let⟨k0,T⟩:=f.cell S;have a0:=WZ v t;have y:=Xa f;clear hdb f q2;generalize hQ:F5 v t=Q at*;have l:=Xa hQ;clear hQ;go_wp2;refine⟨⟨j+1,oM,gM,(Xb e _).setCell (by dsimp only;omega) _,by rw[Xd];simp;omega,?_,?_⟩,by simp[intOf];omega⟩
   .rw[g.o,J.o,aU rfl];exact y.step<|by rw[l.o]
   exact h.keepS<|(YA.of_below (Xb (Below.refl wr.1.size wr) _ |>.mono oM)).setCell (aZ<|by dsimp only;omega) _
  have o:=Xa<|aW (l:=X.2) (i:=j) oM;go_wp2;exact⟨⟨a+1,oM,gM,e,by have:=s.o;rw[o.o]at this;rw[a1.o,<-cK];exact this⟩,by simp[intOf];omega⟩
 have o:=Xa<|aW (l:=x) (i:=a) (oN hx.o);have r:=C.o;rw[o.o]at r;have al:=Xa r;clear r C;go_wp2
 go_loop [60] (λi=>∃j:Nat,j<=n/\i=Hp j/\Hs (∀q,q<j->F5 (BX x) (q:Nat)=1)) λi=>n-(intOf i).toNat
 case atStart=>exact⟨0,aN,rfl,λq hq=>absurd hq oM⟩
 obtain⟨j,hj,rfl,ab⟩:=hrel;by_cases d:j<n
 .let⟨k0,T⟩:=al.cell d;generalize hQ:F5 (BX x) (j:Nat)=Q at*;have l:=Xa hQ;clear hQ T;by_cases A:Q=1
  .subst A;go_wp2
   go_round
   case rel=>exact⟨j+1,oM,gM,λq hq=>if z:q=j then by subst z;exact l else ab q oM⟩
   simp[intOf];omega
  have h2:((Q:Int) != 1)=true:=by rw[jJ];omega
  have H1:=Xa A;clear A;go_wp2;go_ret
  exact⟨Xl (by
   symm;unfold JM;rw[lZ];exact⟨j,by simpa using d,by simp only[l.o,iA];exact H1⟩),u⟩
 go_wp2;go_ret
 exact⟨Xl (by
  symm;unfold JM;rw[dV];intro q hq;rw[iA];exact ab q<|by simp at hq;omega),u⟩
def mp(a:Wi)(n:Nat):Prop:=∀x∈a,(∀t∈x.3.tg,0<=t/\t<(n:Int))/\x.3.tg.Nodup
def Yk(b:Wi)(k:Nat)(a:Wc)(i:Nat):Wc:=AQ (b.take k) 0 i++(if a.contains (i:Int)then [(k:Int)]else [])
theorem J5:Yk x n [] m=AQ (x.take n) 0 m:=by simp[Yk]
theorem TD(i:Nat)(a:n<x.length):Yk x n x[n].3.tg i=AQ (x.take<|n+1) 0 i:=by
 unfold Yk;rw[X7 a,ZK];simp[jZ<|dU a]
theorem Uu(a:Wi)(k i:Nat)(h:(n:Int)∉l):Yk a k (l++[(n:Int)]) i=if i=n then Yk a k l n++[(k:Int)]else Yk a k l i:=by
 unfold Yk;by_cases e:i=n
 .subst e;simp[h]
 have b:(l++[(n:Int)]).contains (i:Int)=l.contains (i:Int):=by
  rw[eQ];simp only[eY,bU,cS];constructor
  .rintro(h|h);·exact h
   omega
  exact bC
 rw[aM e,b]
theorem UW(a:Wi)(k i:Nat)(b:Wc)(h:k<=a.length):(Yk a k b i).length<=k+1:=by
 unfold Yk;have:=YO (i:Int) (a.take k) 0;simp only[dH]at this;rw[aQ];split<;>simp<;>omega
theorem KF(ab:Int)(c:Nat)(ha:Hs (Xp w m k p x))(L:Hs (n=x.length))(hn:n<=1048576)(hB:k<=w.1.size)(e:Hs (mp x n)):
 Calls prog 50 #[.agg #[Hp ab,.slice p n c]] w λf w'=>∃U,f=.returned (Hl (w.1.size+1) n n)/\Below w.1.size w w'/\YT w' (w.1.size+1) n (λi:Nat=>AQ x 0 (i:Int)) U:=by
 obtain⟨i0,ar,a8,a9,ba⟩:=fX RH;have bp:=fM (P:=prog) 113 41 Hq 24 underlying113 RG rfl .i64 .i64 n oM oM
 go_in
 go_wp2
 go_loopw [15] (λi wr=>∃a:Nat,a<=n/\i=Hp a/\Below w.1.size w wr/\Hs (∃U,YT wr (w.1.size+1) n (Yk x a []) U)) λi _=>n-(intOf i).toNat
 case atStart=>exact⟨0,aN,rfl,Xb (Xb (Below.refl _ _) _) _,⟨_,by have:=YT.born (w.alloc<|.cells #[Hp ab,.slice p n c] 37) n;rw[aO]at this;exact this⟩⟩
 obtain⟨a,hk,rfl,y,v⟩:=hrel;by_cases bo:a<n
 .have F:a<x.length:=oN L.o;obtain⟨bf,b1,rfl,⟨_,bi⟩,R⟩:=ha a F;obtain⟨pa,pc,ia,ic,e0,e1,⟨e2,e3,e4,e5⟩,_,_⟩:=R.keep (y.mono hB) oM;have a7:=Xa λi=>TD i F;obtain⟨S,T⟩:=e _<|aH F;have af:=Xa S;have aj:=Xa T;clear R S T;generalize x[a]=X at*;go_wp2_with fail
  refine(J4 X.3 _).mono ?_;rintro f o⟨a1,c1,rfl,P,V⟩;have Q:=Xg (Xb (Below.refl wr.1.size wr) _) P;have bb:=P.4;simp at bb;have bx:wr.1.size<o.1.size:=oM;have N:=Xa V;have bh:w.1.size+1<wr.1.size:=by obtain⟨U,d⟩:=v.o;exact d.1.lt
  have HR:Hs (∃U,YT o (w.1.size+1) n (Yk x a []) U/\∀i g,i<n->(U i).ownBlock=some g->g<=wr.1.size\/o.1.size<=g):=by
   obtain⟨U,d⟩:=v.o;exact⟨U,d.below Q,λi g u e=>by have:=((d.2.1 i u).lt g e).2;omega⟩
  have HW:=Xa<|Xg y Q;have bv:X.3.tg.length<=2:=by unfold Yj.tg;split<;>(try split)<;>simp
  generalize hT:X.3.tg=b at*;clear hT V v e0 e1 e2 e3 e4 e5 y;simp only[aO]at N;generalize hM:wr.1.size=M at*;clear hM;go_wp2
  go_loopw [24] (λi A=>∃j:Nat,j<=b.length/\i=Hp j/\Below w.1.size w A/\o.1.size<=A.1.size/\Hs (Xf A (M+1) o.1.size a1 b)/\Hs (∃U,YT A (w.1.size+1) n (Yk x a<|b.take j) U/\∀i g,i<n->(U i).ownBlock=some g->g<=M\/o.1.size<=g)) λi _=>b.length-(intOf i).toNat
  case atStart=>exact⟨0,aN,rfl,HW,aA,N,HR⟩
  obtain⟨j,s,rfl,K,br,W,H⟩:=hrel;by_cases E:j<b.length
  .obtain⟨b',o',rfl,_,bm⟩:=W j E
   obtain⟨a4,bt⟩:=af _<|aH E;have a2:Hs (b[j]∉b.take j):=by
    intro hm;obtain⟨b0,a0,Y⟩:=bR hm;simp only[dH]at a0;rw[jG]at Y;have:=(List.getElem_inj aj).1 Y;omega
   have a5:Hs (b.take (j+1)=b.take j++[b[j]]):=X7 E;obtain⟨U,d,O⟩:=H.o;have B:=Xa O;clear O;obtain⟨t,a6⟩:=bX a4;generalize b[j]=be at*;subst a6;have l:t<n:=oM;have ao:=d.1.cell l;have ap:=d.1.frozen t;have bq:=UW x a t (b.take j) (oN L.o);have h:=Xa d;clear d H;go_wp2_with (at_builtin;refine bT _ rfl _ _ 41 rfl (w.1.size+1+1) 2 i0 (Hp 0) 1 8 underlying41 ar a8 a9 ba rfl vY _ _ _ rfl ((h.alloc _).2.1 t l) (Hk wr.1.size 0) 1 1 [Hp a] rfl rfl ?c1 ?c2 ?c3 ?c4 ?c5 ?_)
   case c1=>
    intro j bc s
    match j,s with
    |0,s=>simp at s;subst s;simp[Addr.add]
   case c2=>intro bc Z;simp at Z;subst Z;rfl
   case c3=>unfold maxLen;omega
   case c4=>omega
   case c5=>have:=h.1.lt;simp;omega
   intro v1 z G q _ C;obtain⟨av,cv,J,_⟩:=Xk (xs:=Yk x a (b.take j) t++[(a:Int)]) (by rw[Yl];exact G);have a3:=Xa ((h.alloc<|.cells #[Hp a] 2).step l a v1 q G (by rw[aO];exact C));have D:z.1[w.1.size+1]?=(wr.alloc<|.cells #[Hp a] 2).1[w.1.size+1]?:=YJ q ((h.alloc<|.cells #[Hp a] 2).2.1 t l) oM (by have:=h.1.lt;simp;omega);have al:=Xa (Xy (Xb K<|.cells #[Hp a] 2) q ((h.alloc<|.cells #[Hp a] 2).2.1 t l) oM (by have:=K.4;simp;omega));have bl:z.cell? (Hk (w.1.size+1) t)=some (U t):=by rw[Xc D];exact((h.alloc<|.cells #[Hp a] 2).1).cell l
   have bn:z.frozen? (Hk (w.1.size+1) t)=false:=by rw[bJ (w:=wr.alloc<|.cells #[Hp a] 2) (a:=(Hk (w.1.size+1) t)) D];exact((h.alloc<|.cells #[Hp a] 2).1).frozen t
   have aq:=q.4;simp at aq;have I:YA (M+1) o.1.size wr z:=λr q1 q2=>(q.5 r (by simp;omega) λf=>by have:=B t r l f.symm;omega).trans (Below.heap_alloc _ _ _ oM);have bd:=Xa I;have az:=Xa<|W.keepS I;have ad:=Xa C;have HV:=Xa J;clear I;clear G q C D ao ap;rw[J];clear J;go_wp2;have aa:=HV.o;rw[aQ,bA,bO,aV]at aa;rw[<-aa];refine⟨⟨j+1,oM,gM,al.setCell (by dsimp only;omega) _,by rw[Xd];omega,az.keepS ((YA.refl _ _ _).setCell (bC<|by dsimp only;omega) _),⟨_,(a3).congr λi _=>?_,λi g u e=>?_⟩⟩,by simp[intOf];omega⟩;·rw[a5.o,Uu x a i a2.o]
   by_cases f:i=t
   .subst f;simp only[gG]at e;obtain r|r:=ad.o;·exact B i g u<|by rw[<-r];exact e
    rw[r]at e;have:=gQ e;omega
   simp only[f,fD]at e;exact B i g u e
  have ac:=Xa<|aW (l:=b) (i:=j) oM;go_wp2;refine⟨⟨a+1,oM,gM,K,?_⟩,by simp[intOf];omega⟩;obtain⟨U,d,_⟩:=H.o;exact⟨U,d.congr λi _=>by rw[ac.o,a7.o,J5]⟩
 go_wp2;go_ret;obtain⟨U,d⟩:=v.o;have f:=aW (l:=x) (i:=a) (oN L.o);exact⟨U,rfl,y,d.congr (P':=λi:Nat=>AQ x 0 (i:Int)) λi _=>by rw[J5,f]⟩
theorem VG(v:Int)(c:Nat)(L B:Nat)(ha:Hs (Xp w L B p x))(k:Hs (n=x.length))(j:n<=1048576)(f:B<=w.1.size)(i:Hs (mp x n)):
 Calls prog 50 #[.agg #[Hp v,.slice p n c]] w λe a=>∃b d,e=.returned (.slice b n d)/\Below w.1.size w a/\XR a w.1.size a.1.size b ((List.range n).map λl:Nat=>AQ x 0 (l:Int)) :=
 (KF v c ha k j f i).mono (by
  rintro e a⟨U,rfl,g,h⟩;exact⟨_,_,rfl,g,h.ints.mono oM<|aA⟩)
theorem Zr(d:Int->Nat->Ph->Bool)(F:Fn):∀(b:Wi)(a:Nat),Zi d F b a=true↔∀j (h:j<b.length),b[j].1.all (d F.1 (F.preds ((a+j:Nat):Int)).length)=true
 |[],_=>by simp[Zi]
 |x::b,a=>by
  simp only[Zi,bY,Zr d F b<|a+1];constructor
  .rintro⟨f,g⟩ j c;cases j with
   |zero=>exact f
   |succ j=>
    have:=g j (by simpa using c);have e:a+1+j=a+(j+1):=oM;rw[e]at this;exact this
  intro h;refine⟨h 0 sP,λj c=>?_⟩;have:=h (j+1) (by simpa using c);have e:a+1+j=a+(j+1):=oM;rw[e];exact this
theorem Wg(a:Int->Nat->Ph->Bool)(F:Fn)(c:k<F.2.length)(h:F.2[k].1.all (a F.1 (F.preds (k:Int)).length)=false):Zi a F F.2 0=false:=by
 rw[lY];intro b;have:=(Zr a F F.2 0).1 b k c;rw[aV,h]at this;cases this
theorem AG(ha:Hs (Xp w m k p x))(E:Hs (n=x.length))(hn:n<=1048576)(hl:Hs (∀ap∈x,ap.1.length<=1048576/\∀bb∈ap.1,bb.2.length<=1048576))(W:k<=w.1.size)(hg:Hs (mp x n)):
 Calls prog 93 #[.agg #[Hp t,.slice p n c]] w λg w'=>g=.returned (.bool (KL ⟨t,x⟩))/\Below w.1.size w w':=by
 go_in
 go_wp2_with fail
 refine(VG t c m k ?q1 E hn ?q2 hg).mono ?_
 case q1=>exact ha.keep (Xb (Below.refl _ _) _ |>.mono W)
 case q2=>simp;omega
 rintro g o⟨pa,pc,rfl,z,ao⟩;have J:=Xg (Xb (Below.refl w.1.size w) _) z;have a9:=z.4;simp at a9;let⟨K,a1⟩:=NC z;have k0:o.cell? (Hk w.1.size 0)=some (Hp t):=by rw[K _ _ sP];simp
 have k1:o.cell? (Hk w.1.size 1)=some (.slice p n c):=by rw[K _ _ sP];simp
 have HA:=Xa<|ha.keep (J.mono W);have a0:=Xa ao;have r:=Xa J;clear K a1 ao z ha J;go_wp2
 go_loopw [15] (λi wr=>∃a:Nat,a<=n/\i=Hp a/\Below o.1.size o wr/\Hs (∀j (h:j<x.length),j<a->x[j].1.all (ZX t (AQ x 0 (j:Int)).length)=true)) λi _=>n-(intOf i).toNat
 case atStart=>exact⟨0,aN,rfl,Below.refl _ _,λj _ h=>absurd h oM⟩
 obtain⟨a,hk,rfl,d,Z⟩:=hrel;by_cases a3:a<n
 .have L:a<x.length:=oN E.o;obtain⟨bd,bt,rfl,⟨_,bh⟩,hc⟩:=HA a L;let⟨bv,bx,ia,ic,R,d1,⟨d2,d3,d4,d5⟩,hp,_⟩:=hc;have e0:=(XU d oM).trans R;have e1:=(XU d oM).trans d1;have e2:=(XU d oM).trans d2;have e3:=(XU d oM).trans d3;have e4:=(XU d oM).trans d4;have e5:=(XU d oM).trans d5;let⟨bn,aj⟩:=hl _<|aH L;have az:=Xa aj;have a4:Hs (x[a].1.all (ZX t (AQ x 0 (a:Int)).length)=false->KL ⟨t,x⟩=false):=λh=>Wg ZX ⟨t,x⟩ (k:=a) L h;have al:a<((List.range n).map λi:Nat=>AQ x 0 (i:Int)).length:=by simpa using a3
  obtain⟨gb,go,rfl,⟨_,bl⟩,a',c',u,a2⟩:=a0 a al;simp only[cM,dW]at u;have HP:=Xa hp;have bo:(AQ x 0 (a:Int)).length<=1048576:=oP (YO (a:Int) x 0) E.o
  have aq:=Xa u;have br:=d.4;have a6:Hs (x[a].1.all (ZX t (AQ x 0 (a:Int)).length)=true->∀j (h:j<x.length),j<a+1->x[j].1.all (ZX t (AQ x 0 (j:Int)).length)=true) :=
   λh j B bm=>if g:j=a then by subst g;exact h else Z j B oM
  clear hp aj u a2 al R d1 d2 d3 d4 d5;generalize x[a]=X at*;generalize AQ x 0 (a:Int)=e at*;go_wp2;generalize Y:wr.1.size=bc at*;have HM:=Xa Y;clear Y
  go_loopw [23] (λi wi=>∃j:Nat,j<=X.1.length/\i=Hp j/\Below o.1.size o wi/\Hs ((X.1.take j).all (ZX t e.length)=true)) λi _=>X.1.length-(intOf i).toNat
  case atStart=>exact⟨0,aN,rfl,Xb d _,rfl⟩
  obtain⟨j,B,rfl,b,ab⟩:=hrel;have u:=(XU b oM).trans aq;have ba:=(XU b oM).trans k0;by_cases C:j<X.1.length
  .obtain⟨b',o',rfl,⟨_,bi⟩,O,Q,S,T,hi⟩:=HP j C;have e6:=(XU b oM).trans S;have e7:=(XU b oM).trans T;have be:=az _<|aH C;have D:=Xa λh=>Xw a4<|JN (p:=ZX t e.length) (xs:=X.1) (k:=j) C h;have a7:=Xa λh=>XY (p:=ZX t e.length) C ab h;have ar:=Xa hi;clear S T hi;generalize X.1[j]=P at*;have bp:w.1.size<wr.1.size:=oN b.4;have bq:gb<wr.1.size:=oN b.4;have v:Hs (ZX t e.length P=(Tp true P.1 0 t&&(decide (1<=P.2.length)&&decide (P.2.length=e.length)&&P.2.all (To 0 t)))):=rfl;cases hf:Tp true P.1 0 t
   .have s:=Xa hf;go_wp2
    go_quiet ((go_at_call 145;exact Calls.quiet_of_same<|Yp))
    go_wp2;go_ret;exact⟨Xl (Xw D<|by rw[v.o,s.o];rfl).symm,Xg r<|iX (Xb b _) _⟩
   have s:=Xa hf;by_cases l:P.2.length=0
   .have U:((P.2.length:Int)==0)=true:=by simp[l]
    have G:=Xa l;clear l;go_wp2
    go_quiet ((go_at_call 145;exact Calls.quiet_of_same<|Yp))
    go_wp2;go_ret;exact⟨Xl (Xw D<|by rw[v.o,s.o,G.o];rfl).symm,Xg r<|iX (Xb b _) _⟩
   have U:((P.2.length:Int)==0)=false:=by rw[iS];omega
   have G:=Xa l;clear l;by_cases f:P.2.length=e.length
   .have V:((P.2.length:Int) != (e.length:Int))=false:=by simp[f]
    have H:=Xa f;clear f;go_wp2
    go_quiet ((go_at_call 145;exact Calls.quiet_of_same<|Yp))
    go_wp2;have A:=iX (Xb b<|.cells #[Hp P.1,.slice O P.2.length Q] 62) nq;generalize (wr.alloc<|.cells #[Hp P.1,.slice O P.2.length Q] 62).drewN nq=w9 at*;have r0:=(XU A oM).trans k0;clear hf U V u ba e6 e7
    go_loop [53] (λi=>∃q:Nat,q<=P.2.length/\i=Hp q/\Hs ((P.2.take q).all (To 0 t)=true)) λi=>P.2.length-(intOf i).toNat
    case atStart=>exact⟨0,aN,rfl,rfl⟩
    obtain⟨q,hq,rfl,ac⟩:=hrel;by_cases M:q<P.2.length
    .obtain⟨b2,o2,rfl,⟨_,bf⟩,ad⟩:=ar q M;have r1:=(XU A oM).trans ad;have a5:=Xa λh=>JN (p:=To 0 t) (xs:=P.2) (k:=q) M h;have a8:=Xa λh=>XY (p:=To 0 t) M ac h;clear ad;generalize P.2[q]=F at*;have af:Hs (Tp true F 0 t=To 0 t F):=rfl;cases hr:Tp true F 0 t
     .have I:=Xa hr;go_wp2_with (go_at_call 145;refine(Yp).mono ?_;rintro g N⟨rfl,y⟩;rw[y];clear y N)
      go_ret;exact⟨Xl (Xw D<|by rw[v.o,Xw a5<|by rw[<-af.o];exact I];simp).symm,Xg r A⟩
     have I:=Xa hr;go_wp2_with (go_at_call 145;refine(Yp).mono ?_;rintro g N⟨rfl,y⟩;rw[y];clear y N)
     go_round
     case rel=>exact⟨q+1,oM,gM,Xw a8<|by rw[<-af.o];exact I⟩
     simp[intOf];omega
    go_wp2
    exact⟨⟨j+1,oM,gM,A,Xw a7 (by
     have f:=H.o;have l:=G.o;rw[v.o,s.o,eB f,eB (p:=1<=P.2.length) oM,YE (xs:=P.2) (k:=q) oM ac.o];rfl)⟩,by simp[intOf];omega⟩
   have V:((P.2.length:Int) != (e.length:Int))=true:=by rw[jJ];omega
   have H:=Xa f;clear f;go_wp2
   go_quiet ((go_at_call 145;exact Calls.quiet_of_same<|Yp))
   go_wp2;go_ret;exact⟨Xl (Xw D<|by rw[v.o,s.o,dJ H.o];simp).symm,Xg r<|iX (Xb b _) _⟩
  go_wp2;exact⟨⟨a+1,oM,gM,b,Xw a6<|YE (xs:=X.1) (k:=j) oM ab⟩,by simp[intOf];omega⟩
 go_wp2;go_ret
 exact⟨Xl (by
  symm;exact(Zr ZX ⟨t,x⟩ x 0).2 λj B=>by rw[aV];exact Z j B<|oN E.o),Xg r d⟩
theorem Tg(e d o:Nat)(r:Nat)(v:Uj)(W:Ub)(A:W.rowIs n 2 k h)(G:m<=k)(E:v.oneCell'=true)(q:g=Nat.min B (k-m))(C:∀j,j<g->W.cell? (Hk d<|o+j)=some v):
 ∃b,Sem.run prog (Builtin.copy_ #[41,41] 3 #[Hm n m (k-m) e,Hm d o B r]) W=.ok (goInt g) b/\W.grownBy b (some n)/\b.rowIs n 2 k (λi=>if m<=i/\i<m+g then v else h i):=by
 let⟨c,l,w,x⟩:=A;have H:g<=k-m:=q▸kQ _ _
 have f:=run_copy_row (P:=prog) W 41 41 3 2 n m (k-m) e (Hk d o) B r c 2 (List.replicate g v) underlying41 vZ l (kN▸q) (λj F a=>by
  rw[mI]at a;split at a
  .rename_i z;injection a with a;rw[<-a];rw[mK];exact C j z
  cases a) (by rw[kN];omega) λF D=>(List.eq_of_mem_replicate D)▸E
 rw[kN]at f;refine⟨_,f,⟨rfl,rfl,rfl,sP,λj _ a=>setRow_other _ _ _ _ λu=>a<|by rw[u]⟩,⟨_,setRow_heap _ _ _ _ _ _ l,?_,λi y=>?_⟩⟩;·simp[w];omega
 have p:=x i y;simp only[List.getElem?_toArray];by_cases s:i<m
 .rw[aM oM,dL (by simp;omega),dL (by simp;omega),fH s];simpa using p
 by_cases t:i<m+g
 .rw[aU ⟨oM,t⟩,dL (by simp;omega),eV<|by simp;omega];simp[mI];omega
 rw[aM oM,eV (by simp;omega),jA];have:m+g+(i-(List.take m c.1++List.replicate g v).length)=i:=by simp;omega
 rw[this];simpa using p
theorem CK(a:n<=2000):bits .and .u64 (n:Int) 4294967295=(n:Int):=by
 have h:n&&&4294967295=n:=by
  have:=kO n 32;rw[show(2^32-1:Nat)=4294967295 from rfl]at this;rw[this];omega
 rw[show(4294967295:Int)=((4294967295:Nat):Int)from rfl,jH _ _ oM vY,h]
theorem CC(w:Ub)(a:n<=2000):
 Calls prog 190 #[.int .u64 1,.int .u64 n] w λe b=>e=.returned (.tuple #[.int .u64 0,.int .u64 n])/\b=w:=by
 have d:bits .and .u64 1 4294967295=1:=vY;have c:bits .and .u64 0 4294967295=0:=vY;have f:=CK a;have g:(n:Int)/4294967296=0:=oM;have i:IntKind.u64.wrap (n:Int)=n:=by simp[IntKind.wrap,IntKind.bits,IntKind.signed];omega
 have h:IntKind.u64.wrap 0=0:=vY
 go_in
 go_wp2_with fail
 refine cC (v:=.tuple #[.int .u64 0,.int .u64 n]) (by simp[results,results190,go_sem]) rfl ⟨rfl,rfl⟩
theorem EW(w:Ub)(b:n<=2000):
 Calls prog 162 #[.int .u64 1,.int .u64 n] w λe c=>e=.returned (.tuple #[.int .u64 0,.int .u64 n])/\c=w:=by
 have a:=Xa λW=>CC W b
 go_in
 go_wp2_with fail
 refine(a _).mono ?_;rintro e d⟨rfl,rfl⟩;go_wp2_with fail
 refine cC (v:=.tuple #[.int .u64 0,.int .u64 n]) (by simp[results,results162,go_sem]) rfl ⟨rfl,rfl⟩
theorem vb(g n:Nat)(w:Ub)(S:n<=2000)(x:w.cell? (Hk g 0)=some (Hp (-1)))(M:g<w.1.size):
 Calls prog 119 #[Hl g 1 1,Hp n] w λe F=>∃h,e=.returned (Hl h n n)/\w.1.size<=h/\Below w.1.size w F/\F.rowIs h 2 n (λ_=>Hp (-1)):=by
 have I:=Xa λW=>EW W S;have Y:=fM (P:=prog) 41 2 (Hp 0) 8 underlying41 RH rfl .i64 .i64 n oM oM;let⟨a,d⟩:∃a,a=Nat.min 1 (n-0):=⟨_,rfl⟩;have R:a<=1:=d▸mQ _ _;have A:a<=n:=by have:=kQ 1<|n-0;rw[d];omega
 have B:0<n->1<=a:=λt=>d▸Nat.le_min.2 ⟨aA,oM⟩
 let⟨K,l,y,C⟩:=Tg n g 0 1 (Hp (-1)) (w.alloc<|.cells (madeCells #[Hp 0] n) 2) (dG w (Hp 0) n 2) aN rfl d (λo O=>by
  have:o=0:=oM;subst this;exact(bP _ _ _ M).trans x)
 rw[Nat.sub_zero]at l;have s:=Xa C;have q:=Xa y;clear C y d
 go_in
 go_wp2_with fail
 refine(I _).mono ?_;rintro e T⟨rfl,E⟩;rw[E];clear E T;go_wp2_with fail
 generalize decide ((n:Int)<0)=U;generalize decide (9223372036854775807<(n:Int))=V;have r:Hs (K.rowIs w.1.size 2 n λi=>Hp<|if i<a then -1 else 0):=Xa (s.congr (λi _=>by by_cases t:i<a<;>simp[t]));have p:=Xa ((Xb (Below.refl _ w) _).grown q sP λk e=>by cases e;exact aA);clear s q l x
 go_loopw [8] (λu wr=>∃k:Nat,(0<n->1<=k)/\k<=n/\u=Hp k/\Hs (Below w.1.size w wr)/\Hs (wr.rowIs w.1.size 2 n λi=>Hp<|if i<k then -1 else 0)) λu _=>n-(intOf u).toNat
 case atStart=>exact⟨a,B,A,rfl,p,r⟩
 clear p r;obtain⟨k,P,Q,rfl,f,b⟩:=hrel;by_cases X:k<n
 .let⟨m,c⟩:∃m,m=Nat.min k (n-k):=⟨_,rfl⟩;have R:m<=k:=c▸mQ _ _;have A:m<=n-k:=c▸kQ _ _;have B:0<m:=c▸Nat.lt_min.2 ⟨P oM,oM⟩
  let⟨L,l,z,D⟩:=Tg (n-k) w.1.size 0 n (Hp (-1)) wr.drew b Q rfl c (λo O=>by
   rw[aV];have:=b.cell (i:=o) oM;rw[aU oM]at this;exact this)
  have J:Hs (L.rowIs w.1.size 2 n λi=>Hp<|if i<k+m then -1 else 0):=Xa (D.congr (λi _=>by
   by_cases j:i<k
   .simp[j];omega
   by_cases v:i<k+m;·simp[j,v]
   simp[j,v]))
  have G:=Xa (f.drew.grown z f.4 λk e=>by cases e;exact aA);clear f b D z c;go_wp2;go_region;go_wp2;exact⟨⟨k+m,λ_=>oM,oM,gM,G,J⟩,by simp[intOf];omega⟩
 have:k=n:=oM;subst this;have H:Hs (wr.rowIs w.1.size 2 k λ_=>Hp (-1)):=Xa (b.congr λi N=>by simp[N]);clear b;go_wp2;go_ret;exact⟨_,rfl,aA,f,H⟩
theorem BK(b:Nat)(w:Ub)(f:n<=1000)(_h0:0<n)(d:w.cell? (Hk b 0)=some (Hp (-1)))(c:b<w.1.size):
 Calls prog 119 #[Hl b 1 1,Hp n] w λe a=>∃g,e=.returned (Hl g n n)/\w.1.size<=g/\Below w.1.size w a/\a.rowIs g 2 n (λ_=>Hp (-1)) :=
 vb b n w oM d c
section
open Go.Deep
variable {H: Type} {enc: TypeId×Uj -> H} {P: Yh} {w: Ub} {base: Nat} {spare: Nat -> Bool} {held: Bool}
theorem Jh{a:Addr}{v:Uj}(h:w.cell? a=some v):a.1<w.1.size:=by
 unfold World.cell? at h;split at h
 .rename_i c _ _ b;exact(aS.1 b).1
 cases h
theorem BT{α:Type}[Inhabited α]{z k:TypeId}{C s:Nat}{t:Wo}{x:DataW H×List MemPlace}(L:P.underlying z=some (.slice k))(J:P.cellsOf k=s)(v:0<s)(Q:Nat->Nat->α->Prop)(hQ:∀b o a p A,(∀j,j<s->w.cell? (Hk b<|o+j)=a[j]?)->a.length=s->DataW.trod enc P w base spare held p k a=some A->∃x,Q b o x)(E:DataW.trod enc P w base spare held C z t=some x):
 ∃(h:Uy)(q:List α)(c:Nat),t=[.slice h q.length c]/\q.length<=maxLen/\∀i (d:i<q.length),∃b o,h=some (Hk b o)/\b<w.1.size/\Q b (o+i*s) q[i]:=by
 obtain⟨rfl,_⟩|⟨h,len,cap,m,p,D,Pl,rfl,_,hl,hm,hmm,_,n⟩:=open_slice L E;·exact⟨none,[],0,rfl,aN,λi d=>absurd d sP⟩
 rw[J]at n;have M:len<=m:=by rw[hmm];split<;>omega
 have r:∀i,i<len->∃a,a.length=s/\(∀j,j<s->w.cell? ((h.add<|i*s).add j)=a[j]?)/\DataW.trod enc P w base spare held p k a=some (D i,Pl i):=λi d=>by
  obtain⟨a,f,e⟩:=n i oM;obtain⟨_,g,l⟩:=World.cells?_some f;exact⟨a,g,l,e⟩
 obtain⟨b,o,y⟩:=h;by_cases I:len=0
 .subst I;exact⟨some ⟨b,o,y⟩,[],cap,rfl,aN,λi d=>absurd d sP⟩
 have K:y=none:=by
  obtain⟨a,f,e,_⟩:=r 0 oM;have g:=e 0 v;rw[aC oM]at g;simpa [Addr.add]using World.cell?_spot g
 subst K;obtain⟨B,F⟩:=choose_lt (α:=α) (n:=len) (p:=λi x=>b<w.1.size/\Q b (o+i*s) x) (λi d=>by
  obtain⟨a,f,e,g⟩:=r i d;have l:=λj G=>by
   have:=e j G;rw[Addr.add_mid,Addr.add_mid]at this;exact this
  obtain⟨x,n⟩:=hQ b (o+i*s) a p _ l f g;have u:=l 0 v;rw[aC oM]at u;exact⟨x,Jh u,n⟩)
 refine⟨some<|Hk b o,(List.range len).map B,cap,sP,by simp;omega,λi d=>?_⟩;simp only[bK,gI]at d;obtain⟨f,e⟩:=F i d;exact⟨b,o,rfl,f,by simpa using e⟩
end
end Go.Proofs.YtcfdhbigppockaaGreatDoor
