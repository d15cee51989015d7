import Derived.Test.YtghnlncgiihhgaaGreatDoorTZ1
namespace Go.Proofs.YtghnlncgiihhgaaGreatDoor
set_option maxHeartbeats 4000000
set_option maxRecDepth 1000000
open Go.RowKit Go.Proofs.Tryz Go.Shelf
variable{r:Bool}{x:List Xe}{n m k B g i j c:Nat}{f F:Nat->Nat}{p:Option Addr}{R:Program}{a:Value}{w v:World}
def SmX(a b:World):Prop:=a=b
def LoS(c:List Xe)(v b:Nat)(w:World)(e:Ending)(a:World):Prop:=∃s:Bool,e=.returned (.bool s)/\(s=true↔UV c v b)/\Below w.heap.size w a
theorem sK(V v n W I of K b:Nat)(a:List Xe)(A:Nat->Bool)(w:World)(hF:Hid (YQ w (some ⟨I,of,none⟩) a))(x:Hid (n=a.length))(k:Hid (Jy V a))(hb:b<n)(d:Hid (w.rowIs K 4 n (fun z=>.bool (A z))))(ac:Hid (∀z,z<n->(A z=true↔Wh a v z))) :
 Calls prog 53 #[.slice (some ⟨I,of,none⟩) n W,.slice (some ⟨K,0,none⟩) n n,.int .i64 (v:Int),.int .i64 (b:Int)] w fun e w'=>LoS a v b w e w':=by
 have hn:n<=1000:=oP x.out k.okf.n2
 have L:b<a.length:=oN x.out
 obtain⟨a0,B,a1,n1,U,n2,a3,n3,a4,n4,a5,n5,c0,c1,c2,c3,c4,c5,af,x0,_,x2,_,_,_,ap,_,aq,_,_,i⟩:=YQ.row k hF (Below.refl w.heap.size w) L;have p:=Xa i.t;have f:=Xa (nz U n2 c2 (v:Int) (XP a b) 0 w.heap.size w (Xa i.e.2) (Xa i.e.1) oM);clear i;cases hed:hasI (XP a b) (v:Int)with
 | true =>
  have o:Hid (UV a v b):=Xa (bC (XD.1 hed));rw[hed]at f;clear hed
  go_in
  go_wp2_with fail
  refine f.mono ?_;rintro e w3 ⟨rfl,u⟩;have e3:=u.symm;subst e3
  go_wp2
  go_ret
  exact⟨true,rfl,⟨fun _=>o,fun _=>rfl⟩,Below.refl _ _⟩
 | false =>
  have S:Hid (¬(v:Int)∈XP a b):=Xa (fun h=>by rw[XD.2 h]at hed;cases hed);rw[hed]at f;clear hed
  go_in
  go_wp2_with fail
  refine f.mono ?_;rintro e w3 ⟨rfl,u⟩;have e3:=u.symm;subst e3;clear f
  go_wp2
  go_loopw [9] (fun y wr=>∃j:Nat,j<=B/\y=.int .i64 j/\Hid (SmX wr w)/\Hid (∀r,r<j->∀t,(X8 a b)[r]?=some t->¬Lin a v t)) (fun y _=>B-(intOf y).toNat)
  case atStart=>exact⟨0,aN _,rfl,Xa rfl,Xa (fun r d=>absurd d oM)⟩
  case round =>
   obtain⟨j,hj,rfl,H,F⟩:=hrel;have Z:=Eq.symm H;clear H;subst Z;by_cases ab:j<B
   ·have s:j<(X8 a b).length:=by rw[<-p.1];exact ab
    have aa:j<(Xi (X8 a b)).length:=by simp[Xi];exact s
    obtain⟨bt,ot,rfl,⟨_,aj⟩,M⟩:=p.2 j aa;have J:(Xi (X8 a b))[j]=(((X8 a b)[j]:Nat):Int):=by simp[Xi]
    rw[J]at M;have m:=aH s;have O:=k.okf.tg _ L _ m;have C:=Xa (aC s);obtain⟨t,l⟩:∃t,t=(X8 a b)[j]:=⟨_,rfl⟩;rw[<-l]at M m O C;have T:=Xa m;have N:t<n:=oN x.out
    have P:=d.cell N;have D:=Xa (ac.out t N);obtain⟨d0,m0,X,m1,d2,m2,d3,m3,d4,m4,d5,m5,f0,f1,f2,f3,f4,f5,_,_,t1,_,_,_,_,_,al,_,_,_,q⟩:=YQ.row k hF (Below.refl w.heap.size w) O;have Q:=Xa (YF X m1 f1 (v:Int) (phL a t) 0 w.heap.size w (Xa q.p.2) (Xa q.p.1) oM);have G:=Xa (jc a t v);clear m l J q;have E:Hid (¬Lin a v t->∀r,r<j+1->∀t,(X8 a b)[r]?=some t->¬Lin a v t):=Xa (fun h r d z g=>by
     by_cases e:r=j
     ·subst e
      rw[C.out]at g;injection g with g;subst g;exact h
     ·exact F r oM z g)
    cases hlt':A t with
    | false =>
     rw[hlt']at P;have c:=Xa (E.out (fun h=>by rw[D.2 h.2]at hlt';cases hlt'));clear hlt'
     go_wp2
     exact⟨⟨j+1,oM,gM,Xa rfl,c⟩,by simp[intOf];omega⟩
    | true =>
     rw[hlt']at P;have R:=Xa (D.1 hlt');clear hlt'
     go_wp2_with fail
     refine Q.mono ?_;rintro e w8 ⟨rfl,ad⟩;have Y:=ad.symm;subst Y;cases hph:hasI (phL a t) (v:Int)with
     | true =>
      have c:=Xa (E.out (fun h=>by have:=h.1;rw[G.out,hph]at this;cases this));clear hph
      go_wp2_with fail
      refine⟨?_,by simp[intOf];omega⟩
      first
       | exact⟨j+1,oM,gM,Xa rfl,c⟩
       | ((repeat apply gP);refine⟨?_,rfl⟩;exact⟨j+1,oM,gM,Xa rfl,c⟩)
     | false =>
      have o:Hid (UV a v b):=Xa (aZ ⟨t,T,by rw[G.out];exact hph,R⟩);clear hph
      go_wp2
      go_ret
      exact⟨true,rfl,⟨fun _=>o,fun _=>rfl⟩,Below.refl _ _⟩
   ·have c:Hid (¬UV a v b):=Xa (by
     rintro(h | ⟨t,l,h⟩)
     ·exact S h
     ·obtain⟨r,d,e⟩:=bR l
      exact F r (oN p.1) t (by rw[aC d,e]) h)
    go_wp2
    go_ret
    exact⟨false,rfl,⟨fun h=>(by cases h),fun h=>absurd h c⟩,Below.refl _ _⟩
theorem rV{l:Array Oper}{o:Oper}{b:Act}{K:Act->World->Prop}{Q:Exit->Act->World->Prop}{E:Prop}(H:o.guard=none)(s x:Operand)(t:TypeId)
 (M:o.op=.call { callee:=.builtin .append,args:=#[s,x],argTypes:=#[t,t] })
 (f:Nat) (e:TypeId) (i:TypeInfo) (z:Value) (size bytes:Nat) (U:R.underlying t=some (.slice e)) (I:R.info? e=some i) (X:i.zero=some z)
 (S:i.size=size) (F:i.bytes=bytes) (Y:z.cells.size=size) (T:0<size)
 (v:Value) (n:Nat) (h:List Value) (P:b.eval s=v) (N:w.ownsRow f e size v n h)
 (g:Addr) (m j:Nat) (c:List Value) (W:b.eval x=.slice (some g) m j) (J:c.length=m*size) (L:∀k u,c[k]?=some u->w.cell? (g.add k)=some u) (q:∀u∈c,u.oneCell'=true)
 (C:n+m<=maxLen) (G:(n+m)*bytes<=140737488355328) (D:f<=w.heap.size)
 (p:∀a d,d.ownsRow f e size a (n+m) (h++c)->w.grownBy d v.ownBlock->(a=.slice none 0 0↔v=.slice none 0 0/\m=0)->(a.ownBlock=v.ownBlock\/a.ownBlock=some w.heap.size)->K (b.put o.dst a) d) :
 if Region.wanted o (yielded l b.tmps)=true then Oper.wp R o b w K Q else E:=by
 have V:Region.wanted o (yielded l b.tmps)=true:=by simp[Region.wanted,H]
 rw[aU V];obtain⟨a,d,O,r,y,A,B⟩:=kI (P:=R) w f t o.type e i z size bytes U I X S F Y T v n h N g m j c J L q C G D;unfold Oper.wp execOp;simp only[M,resolve,invoke,builtin,lG,lH,jE,jN,eH,fZ,P,W,O];exact p a d r y A B
section
structure MbS(w:World)(base ns:Nat)(G m:Nat->Nat)(P:Nat->Nat->List Int)(U:Nat->Nat->Value):Prop where
 lt:∀s,s<ns->G s<base
 ne:∀s s',s<ns->s' < ns->s≠s'->G s≠G s'
 row:∀s,s<ns->w.rowIs (G s) 55 (m s) (U s)
 own:∀s i,s<ns->i<m s->w.ownsRow base 2 1 (U s i) (P s i).length ((P s i).map (Value.int .i64))
 dj:∀s i s' j,s<ns->s' < ns->i<m s->j<m s'->(s,i)≠(s',j)->(U s i).ownBlock=none\/(U s i).ownBlock≠(U s' j).ownBlock
section
variable {w w' w1 : World} {base ns : Nat} {G m : Nat -> Nat} {P P' : Nat -> Nat -> List Int} {U : Nat -> Nat -> Value}
theorem MbS.below(h:MbS w base ns G m P U)(k:Below w.heap.size w w'):MbS w' base ns G m P U:=by
 refine⟨h.lt,h.ne,fun s a=>(h.row s a).of_block (k.block _ (h.row s a).lt),fun s i a d=>?_,h.dj⟩;refine(h.own s i a d).kept (row:=none) ⟨k.os,k.tape,k.output,k.size,fun b c _=>k.block b c⟩ ?_;cases (U s i).ownBlock<;>simp
theorem MbS.congr(h:MbS w base ns G m P U)(e:∀s i,s<ns->i<m s->P s i=P' s i):MbS w base ns G m P' U :=
 ⟨h.lt,h.ne,h.row,fun s i b a=>by rw[<-e s i b a];exact h.own s i b a,h.dj⟩
theorem MbS.step(h:MbS w base ns G m P U){s t:Nat}(f:s<ns)(g:t<m s)(y:Int)(c:Value)(u:w.grownBy w1 (U s t).ownBlock)
 (z:w1.ownsRow base 2 1 c ((P s t).length+1) ((P s t).map (Value.int .i64)++[.int .i64 y])) (r:c.ownBlock=(U s t).ownBlock\/c.ownBlock=some w.heap.size) :
 MbS (w1.setCell ⟨G s,t,none⟩ c) base ns G m (fun a i=>if (a,i)=(s,t)then P s t++[y]else P a i) (fun a i=>if (a,i)=(s,t)then c else U a i):=by
 have x:=fun a b=>(h.row a b).of_block (u.block _ (h.row a b).lt (fun e=>by have:=((h.own s t f g).lt _ e.symm).1;have:=h.lt a b;omega))
 have fresh:∀a q,a < ns->q<m a->(U a q).ownBlock=none\/(U a q).ownBlock≠some w.heap.size:=fun a q b hq=>by
  by_cases e:(U a q).ownBlock=some w.heap.size
  ·have:=((h.own a q b hq).lt _ e).2;omega
  ·exact aZ e
 refine⟨h.lt,h.ne,fun a b=>?_,fun a i b d=>?_,fun s1 i s2 j l n d p v=>?_⟩
 ·by_cases e:a=s
  ·subst e
   exact((x a b).set t c).congr (fun i _=>by by_cases e2:i=t<;>simp[e2])
  ·exact((x a b).setOther (a:=⟨G s,t,none⟩) (fun e2=>h.ne a s b f e e2) c).congr (fun i _=>by simp[e])
 ·refine ownsRow_setCell_below ?_ (h.lt s f) _
  by_cases e:(a,i)=(s,t)
  ·simp only[e,gG,aQ,bA,bO,bG,eH,fZ]
   exact z
  ·simp only[e,fD]
   exact(h.own a i b d).kept u (h.dj a i s t b f d g e)
 ·by_cases e1:(s1,i)=(s,t)
  ·have e2:¬(s2,j)=(s,t):=fun e=>v (e1.trans e.symm)
   simp only[e1,gG,e2,fD];rcases r with q | q
   ·rw[q]
    exact h.dj s t s2 j f n g p (fun e=>e2 e.symm)
   ·right
    rw[q];intro o;rcases fresh s2 j n p with k | k
    ·rw[k]at o;cases o
    ·exact k o.symm
  ·simp only[e1,fD]
   by_cases e2:(s2,j)=(s,t)
   ·simp only[e2,gG]
    rcases r with q | q
    ·rw[q];exact h.dj s1 i s t l f d g e1
    ·rw[q];exact fresh s1 i l d
   ·simp only[e2,fD]
    exact h.dj s1 i s2 j l n d p v
theorem MbS.other(h:MbS w base ns G m P U){b T q:Nat}{f:Nat->Value}(k:w.rowIs b T q f)(j:T≠2){s i:Nat}(n:s<ns)(l:i<m s):(U s i).ownBlock≠some b:=fun e=>by
 obtain⟨o,c,_⟩:=k;rcases(h.own s i n l).2 with⟨e1,_⟩ | ⟨g,cap,cur,e1,_,a,_⟩
 ·rw[e1]at e;cases e
 ·rw[e1]at e
  injection e with e;have e:g=b:=e;subst e;rw[show w.heap[g]?=_ from c]at a;injection a with a;injection a with _ d;exact j d
theorem MbS.ints(h:MbS w base ns G m P U){s:Nat}(a:s<ns){L:Nat}(e:L<=G s):XR w L w.heap.size (some ⟨G s,0,none⟩) ((List.range (m s)).map (P s)):=fun i b=>by
 simp only[bK,gI]at b;obtain⟨c,d,f,ha⟩:=Xk (h.own s i a b);refine⟨G s,0,rfl,⟨e,(h.row s a).lt⟩,c,d,?_,?_⟩
 ·simp only[cM,dW,aV]
  rw[(h.row s a).cell b,f]
 ·simp only[cM,dW]
  exact ha.mono (oN (h.lt s a)) (aA _)
end
structure LvM(w3 wr:World)(ns:Nat)(G m:Nat->Nat)(P:Nat->Nat->List Int):Prop where
 os:wr.os=w3.os
 tape:wr.tape=w3.tape
 output:wr.output=w3.output
 size:w3.heap.size<=wr.heap.size
 fr:∀q,q<w3.heap.size->(∀s,s<ns->q≠G s)->wr.heap[q]?=w3.heap[q]?
 db:∃U,MbS wr w3.heap.size ns G m P U
section
variable {w3 wr wr' w8 : World} {ns : Nat} {G m : Nat -> Nat} {P P' : Nat -> Nat -> List Int}
theorem LvM.below(h:LvM w3 wr ns G m P)(k:Below wr.heap.size wr wr'):LvM w3 wr' ns G m P:=by
 obtain⟨U,c⟩:=h.db;have:=h.size;exact⟨k.os.trans h.os,k.tape.trans h.tape,k.output.trans h.output,aJ h.size k.size,fun q a b=>(k.block q oM).trans (h.fr q a b),U,c.below k⟩
theorem LvM.congr(h:LvM w3 wr ns G m P)(e:∀s i,s<ns->i<m s->P s i=P' s i):LvM w3 wr ns G m P':=by
 obtain⟨U,a⟩:=h.db;exact⟨h.os,h.tape,h.output,h.size,h.fr,U,a.congr e⟩
theorem LvM.cell(h:LvM w3 wr ns G m P){b o:Nat}{v:Value}(c:∀s,s<ns->b≠G s)(a:w3.cell? ⟨b,o,none⟩=some v):wr.cell? ⟨b,o,none⟩=some v:=(Xc (h.fr b (aI w3 _ a) c)).trans a
theorem LvM.push{U:Nat->Nat->Value}{s t:Nat}{j:Obj}{x:Int}{b:Value}(h:LvM w3 wr ns G m P)(e:MbS wr w3.heap.size ns G m P U)(d:s<ns)(n:t<m s)(c:(wr.drew.alloc j).grownBy w8 (U s t).ownBlock)(D:w8.ownsRow w3.heap.size 2 1 b ((P s t).length+1) ((P s t).map (Value.int .i64)++[.int .i64 x]))(C:b.ownBlock=(U s t).ownBlock\/b.ownBlock=some (wr.heap.size+1)) :
 LvM w3 (w8.setCell ⟨G s,t,none⟩ b) ns G m (fun y v=>if (y,v)=(s,t)then P s t++[x]else P y v)/\w8.cell? ⟨G s,t,none⟩=some (U s t)/\w8.frozen? ⟨G s,t,none⟩=false/\(∀q,q<wr.heap.size->q≠G s->(U s t).ownBlock≠some q->w8.heap[q]?=wr.heap[q]?/\(w8.setCell ⟨G s,t,none⟩ b).heap[q]?=wr.heap[q]?)/\wr.heap.size<=(w8.setCell ⟨G s,t,none⟩ b).heap.size:=by
 have H:=h.size;have F:=c.size;have B:(wr.drew.alloc j).heap.size=wr.heap.size+1:=aO _ _;have p:∀k,k<wr.heap.size->(wr.drew.alloc j).heap[k]?=wr.heap[k]?:=fun k r=>Below.heap_alloc wr.drew _ _ r
 have A:MbS (wr.drew.alloc j) w3.heap.size ns G m P U:=e.below ⟨rfl,rfl,rfl,oM,p⟩;have E:=A.step d n x b c D (by rw[B];exact C);have u:∀k,k<w3.heap.size->(U s t).ownBlock≠some k:=fun k r l=>by have:=((e.own s t d n).lt k l).1;omega
 have i:∀k,k<wr.heap.size->(U s t).ownBlock≠some k->w8.heap[k]?=wr.heap[k]?:=fun k a g=>(c.block k oM (fun l=>g l.symm)).trans (p k a)
 have z:=e.lt s d;have o:=i (G s) oM (u _ z);refine⟨⟨c.os.trans h.os,c.tape.trans h.tape,c.output.trans h.output,by rw[Xd];omega,fun q a f=>?_,_,E⟩,(Xc o).trans ((e.row s d).cell n),(bJ o).trans ((e.row s d).frozen t),fun q a f g=>⟨i q a g,(Below.heap_setCell _ _ _ _ f).trans (i q a g)⟩,by rw[Xd];omega⟩;exact(Below.heap_setCell _ _ _ _ (f s d)).trans ((i q oM (u q a)).trans (h.fr q a f))
end
end
def JT(x:Xe)(v:Nat)(q:Bool)(j:Nat):Bool:=decide (Ya (v:Int) (hasI (rdT x.te) (v:Int)||q) (x.is.drop j)=1)
theorem WT(x:Xe)(v:Nat)(q:Bool)(a:x.is.length<=n):JT x v q n=(hasI (rdT x.te) (v:Int)||q):=by
 unfold JT;rw[mP a];unfold Ya;cases (hasI (rdT x.te) (v:Int)||q)<;>simp
theorem gu(x:Xe)(v:Nat)(q:Bool)(b:n<x.is.length):JT x v q n=(hasI (rdI x.is[n]) (v:Int)||(JT x v q (n+1) && !decide (defI x.is[n]=(v:Int)))):=by
 unfold JT;rw[gZ b];generalize x.is.drop (n+1)=c;show decide ((if hasI (rdI x.is[n]) (v:Int)then 1 else if defI x.is[n]=(v:Int)then 2 else Ya (v:Int) _ c)=1)=_;by_cases e1:hasI (rdI x.is[n]) (v:Int)=true
 ·rw[aU e1,e1];simp
 ·rw[aM e1]
  have a:hasI (rdI x.is[n]) (v:Int)=false:=by simpa using e1
  rw[a];by_cases e2:defI x.is[n]=(v:Int)
  ·rw[aU e2];simp[e2]
  ·rw[aM e2];simp[e2]
def PsP(a:List Xe)(x:Xe)(b i v:Nat)(q:Bool):Bool:=match i with
 | 0=>JT x v q 0||Yo a b v
 | j+1=>JT x v q (j+1)||(match x.is[j]? with
  | none=>false
  | some y=>decide (defI y=(v:Int)))
theorem kr{v:Int}{f d:Bool}(h:f=true->d=true):∀(a:List Yg),Ya v f a=1->Ya v d a=1
 | [],b=>by
  unfold Ya at b |-;cases hf:f with
  | true=>rw[h hf];rfl
  | false=>rw[hf]at b;cases b
 | y::a,b=>by
  show(if hasI (rdI y) v then 1 else if defI y=v then 2 else Ya v d a)=1;have c:(if hasI (rdI y) v then 1 else if defI y=v then 2 else Ya v f a)=1:=b;by_cases e1:hasI (rdI y) v=true
  ·rw[aU e1]
  ·rw[aM e1]at c |-
   by_cases e2:defI y=v
   ·rw[aU e2]at c;cases c
   ·rw[aM e2]at c |-
    exact kr h a c
theorem li{v:Int}{f f':Bool}:∀(a:List Yg),Ya v f a=2->Ya v f' a=2
 | [],c=>by
  unfold Ya at c;cases f<;>cases c
 | y::a,c=>by
  show(if hasI (rdI y) v then 1 else if defI y=v then 2 else Ya v f' a)=2;have b:(if hasI (rdI y) v then 1 else if defI y=v then 2 else Ya v f a)=2:=c;by_cases e1:hasI (rdI y) v=true
  ·rw[aU e1]at b;cases b
  ·rw[aM e1]at b |-
   by_cases e2:defI y=v
   ·rw[aU e2]
   ·rw[aM e2]at b |-
    exact li a b
theorem nm{v:Int}{f f':Bool}:∀(b:List Yg),Ya v f b=0->f=false/\(Ya v f' b=1↔f'=true)
 | [],c=>by
  unfold Ya at c |-;cases f
  ·exact⟨rfl,by cases f'<;>simp⟩
  ·cases c
 | y::b,c=>by
  have a:(if hasI (rdI y) v then 1 else if defI y=v then 2 else Ya v f b)=0:=c;by_cases e1:hasI (rdI y) v=true
  ·rw[aU e1]at a;cases a
  ·rw[aM e1]at a
   by_cases e2:defI y=v
   ·rw[aU e2]at a;cases a
   ·rw[aM e2]at a
    have d:=nm (f':=f') b a;refine⟨d.1,?_⟩;show(if hasI (rdI y) v then 1 else if defI y=v then 2 else Ya v f' b)=1↔_;rw[aM e1,aM e2];exact d.2
theorem pU{b:Nat}(e:b<x.length)(hq:r=true↔UV x n b):JT x[b] n r 0=true↔Wh x n b:=by
 unfold JT;rw[List.drop_zero,bD];have f:barB x b n=Ya (n:Int) (hasI (rdT x[b].te) (n:Int)||hasI (XP x b) (n:Int)) x[b].is:=by unfold barB bareM;rw[aC e]
 have v:=i8 x b n;have q:=fun h=>hq.2 (bC (XD.1 h))
 have s:barB x b n=0\/barB x b n=1\/barB x b n=2:=oM;rcases s with c | j | d
 ·have i:=c
  rw[f]at i;have m:=nm (f':=hasI (rdT x[b].te) (n:Int)||r) x[b].is i;rw[m.2];have g:hasI (rdT x[b].te) (n:Int)=false/\hasI (XP x b) (n:Int)=false:=by simpa using m.1
  rw[g.1,jV,hq];constructor
  ·rintro(h | ⟨t,u,h⟩)
   ·rw[XD.2 h]at g;cases g.2
   ·exact Wh.step e c u h.1 h.2
  ·intro h
   cases h with
   | here _ a=>rw[c]at a;cases a
   | @step _ t _ _ a o p=>exact aZ ⟨t,a,o,p⟩
 ·have k:=j
  rw[f]at k;refine⟨fun _=>Wh.here e j,fun _=>kr (fun h=>?_) _ k⟩;rcases dI _ _ ▸ h with a | a
  ·rw[a];rfl
  ·rw[q a];simp
 ·have l:=d
  rw[f]at l;rw[li (f':=hasI (rdT x[b].te) (n:Int)||r) _ l];constructor
  ·intro h;cases h
  ·intro h
   cases h with
   | here _ a=>rw[d]at a;cases a
   | step _ a _ _ _=>rw[d]at a;cases a
def sdA(W:Nat->Nat)(q:Nat × List Int × List Int):Nat->Nat:=addsN W (X9 q.2.2)
def VI(W:Nat->Nat)(q:Nat × List Int × List Int):Nat->Nat:=addsN (delsN (sdA W q) (X9 q.2.2)) (X9 q.2.1)
def sdE(m:Nat)(W:Nat->Nat)(q:Nat × List Int × List Int):List (Nat × (Nat->Nat)):=if q.1<=m then [(q.1,sdA W q)]else []
def TZ(m:Nat):(Nat->Nat)->List (Nat × List Int × List Int)->List (Nat × (Nat->Nat))
 | _,[]=>[]
 | W,q::l=>sdE m W q++TZ m (VI W q) l
theorem Ky(m:Nat)(q:Nat × List Int × List Int):∀(l:List (Nat × List Int × List Int))(W:Nat->Nat),TZ m W (l++[q])=TZ m W l++sdE m (l.foldl VI W) q
 | [],W=>by simp[TZ]
 | p::l,W=>by
  show sdE m W p++TZ m (VI W p) (l++[q])=(sdE m W p++TZ m (VI W p) l)++sdE m (l.foldl VI (VI W p)) q;rw[Ky m q l,cK]
theorem A7(h:XA f)(q:Nat × List Int × List Int):XA (sdA f q)/\XA (VI f q):=by
 have a:XA (sdA f q):=Zs _ h;exact⟨a,Zs _ (JX _ a)⟩
theorem wP(l:List (Nat × List Int × List Int))(h:XA f):XA (l.foldl VI f):=by
 induction l generalizing f with
 | nil=>exact h
 | cons q l a=>exact a (A7 h q).2
theorem jf(m:Nat):∀(l:List (Nat × List Int × List Int))(W:Nat->Nat),(TZ m W l).length<=l.length
 | [],_=>aA _
 | q::l,W=>by
  have:=jf m l (VI W q);have h:(sdE m W q).length<=1:=by unfold sdE;split<;>simp
  show(sdE m W q++TZ m (VI W q) l).length<=l.length+1;rw[aQ];omega
structure Sd where
 i:Nat
 C:Nat
 W:Nat->Nat
def Sd.dat(p:Sd):Nat × (Nat->Nat):=(p.i,p.W)
def kg(a z:Nat)(p:Sd):Array Value:=#[.int .i64 (p.i:Int),.agg #[.slice (some ⟨z,0,none⟩) a p.C]]
def rD(a z:Nat)(p:Sd)(V:World):Prop:=WsAt V z a p.C p.W/\XA p.W
structure SdI(W:World)(n₁ l Bl Bx gl Kw C1 m:Nat)(ia:Option Addr)(ic:Nat)(W0:Nat->Nat)(J:Nat->List Sd->World->Prop)(pre:List Pl)(V:World):Prop where
 js:∃ss:List Sd,ss.map Sd.dat=TZ m W0 (pre.map Pl.dat)/\J gl ss V
 y:V.cell? ⟨W.heap.size,0,none⟩=some (.func (.yield l) #[] #[])
 lv:V.cell? ⟨Bl,0,none⟩=some (.slice (some ⟨gl,0,none⟩) Kw C1)
 ws:WsAt V gl Kw C1 ((pre.map Pl.dat).foldl VI W0)
 bx:V.cell? ⟨Bx,1,none⟩=some (.slice ia m ic)
 sz:n₁<=V.heap.size
theorem SdI.own{Bx:Nat}{J:Nat->List Sd->World->Prop}(t:∀C,OwnFrom w.heap.size (J C))(u:w.heap.size<n)(x:k<n)(y:Bx<n)(v:B<n):OwnFrom n (SdI w n m k Bx B g i j p c f J):=fun E A V row h d q=>by
 have z:=h.sz;have a:∀b,b<n->V.heap[b]?=A.heap[b]?:=fun b D=>d.block b oM (fun e=>by have:=(q b e.symm).1;omega)
 obtain⟨l,o,s⟩:=h.js;exact⟨⟨l,o,t B l A V row s d (fun r e=>⟨oN ((q r e).1),(q r e).2⟩)⟩,(Xc (a _ u)).trans h.y,(Xc (a _ x)).trans h.lv,h.ws.of_block (a _ v),(Xc (a _ y)).trans h.bx,aJ z d.size⟩
def stF(x:Xe)(a:Nat->Nat):Nat->Nat:=VI a (x.is.length+1,rdT x.te,[])
def stB(x:Xe)(a:Nat->Nat)(k:Nat):Nat->Nat:=((Us x.is.length k).map (VH x)).foldl VI (stF x a)
theorem iw(W:Nat->Nat)(q:Nat × List Int × List Int)(v:Nat):Xh (sdA W q) v=(decide (v∈X9 q.2.2)||Xh W v):=by
 unfold sdA;rw[YR]
theorem qd(W:Nat->Nat)(q:Nat × List Int × List Int)(v:Nat):Xh (VI W q) v=(decide (v∈X9 q.2.1)||(decide (v ∉ X9 q.2.2)&&Xh W v)):=by
 unfold VI;rw[YR,Kt,iw];by_cases h:v∈X9 q.2.2<;>simp[h]
theorem wY(x:Xe)(a:Nat->Nat)(b:n<x.is.length):stB x a n=VI (stB x a (n+1)) (VH x ⟨n,b⟩):=by
 unfold stB;rw[TJ b,bG,dT];rfl
theorem jr{x:Xe}{a:Nat->Nat}{v:Nat}{q:Bool}(hq:Xh a v=q)(g:∀y∈x.is,(∀v∈rdI y,0<=v)/\∀v∈writesI y,0<=v)(f:∀v∈rdT x.te,0<=v):∀d k,k+d=x.is.length->Xh (stB x a k) v=JT x v q k
 | 0,k,b=>by
  have b:k=x.is.length:=oM;subst b;rw[WT x v q (aA _)];unfold stB;rw[Ua];show Xh (VI a (x.is.length+1,rdT x.te,[])) v=_;rw[qd,hq,eQ,dI,dI,bD,YV f,XD];simp[X9]
 | d+1,k,b=>by
  have c:k<x.is.length:=oM;have h:=jr hq g f d (k+1) oM;have e:=g x.is[k] (aH c);rw[wY x a c,qd,h,gu x v q c];show(decide (v∈X9 (rdI x.is[k]))||(decide (v ∉ X9 (writesI x.is[k]))&&JT x v q (k+1)))=_;have e1:decide (v∈X9 (rdI x.is[k]))=hasI (rdI x.is[k]) (v:Int):=by rw[eQ,bD,YV e.1,XD]
  have e2:decide (v ∉ X9 (writesI x.is[k]))=!decide (defI x.is[k]=(v:Int)):=by
   rw[eQ];simp only[bD,lV,fC,YV e.2,YN]
  rw[e1,e2,Bool.and_comm]
theorem qg(x:Xe)(a:Nat->Nat):∀d k,k+d=x.is.length->TZ x.is.length (stF x a) ((Us x.is.length k).map (VH x))=(Us x.is.length k).map fun j:Fin x.is.length=>((j:Nat)+1,sdA (stB x a ((j:Nat)+1)) (VH x j))
 | 0,k,b=>by
  have b:k=x.is.length:=oM;subst b;rw[Ua];rfl
 | d+1,k,b=>by
  have c:k<x.is.length:=oM;have e:=qg x a d (k+1) oM;rw[TJ c,bG,bG,eH,fZ,Ky,e];congr 1;unfold sdE;rw[aU (show(VH x ⟨k,c⟩).1<=x.is.length from c)];rfl
theorem it(x:Xe)(a:Nat->Nat):TZ x.is.length a (plL x)=((Us x.is.length 0).map fun j:Fin x.is.length=>((j:Nat)+1,sdA (stB x a ((j:Nat)+1)) (VH x j)))++[(0,sdA (stB x a 0) (0,[],x.ps.map Ph.dst))]:=by
 unfold plL;show sdE x.is.length a (x.is.length+1,rdT x.te,[])++TZ x.is.length (stF x a) ((Us x.is.length 0).map (VH x)++[(0,[],x.ps.map Ph.dst)])=_;rw[Ky,qg x a x.is.length 0 oM];have e1:sdE x.is.length a (x.is.length+1,rdT x.te,[])=[]:=by
  unfold sdE;rw[aM sP]
 have e2:sdE x.is.length (((Us x.is.length 0).map (VH x)).foldl VI (stF x a)) (0,[],x.ps.map Ph.dst)=[(0,sdA (stB x a 0) (0,[],x.ps.map Ph.dst))]:=by
  unfold sdE;rw[aU (aN _)];rfl
 rw[e1,e2];rfl
theorem BB(g:Jy n x){b:Nat}(l:b<x.length)(hq:Xh f m=r)(h:(k,F)∈TZ x[b].is.length f (plL x[b])):k<=x[b].is.length/\Xh F m=PsP x x[b] b k m r:=by
 have d:=aH l;have c:∀y∈x[b].is,(∀m∈rdI y,0<=m)/\∀m∈writesI y,0<=m:=fun y c=>⟨fun z a=>(g.rdi _ d y c z a).1,fun z a=>(g.wri _ d y c z a).1⟩
 have o:=fun z a=>(g.rdt _ d z a).1
 rw[it]at h;rcases bU.1 h with h | h
 ·obtain⟨j,_,e⟩:=aY.1 h
  have e1:(j:Nat)+1=k:=fI Prod.fst e;have e2:sdA (stB x[b] f ((j:Nat)+1)) (VH x[b] j)=F:=fI Prod.snd e;subst e1 e2;have i:=j.isLt;refine⟨i,?_⟩;rw[iw,jr hq c o (x[b].is.length-(j+1)) (j+1) oM];show _=(JT x[b] m r ((j:Nat)+1)||(match x[b].is[(j:Nat)]? with
   | none=>false
   | some y=>decide (defI y=(m:Int))))
  rw[aC i,nF];congr 1;rw[eQ,bD,bD,YN];exact YV (c _ (aH i)).2
 ·have e:=cS.1 h
  have e1:k=0:=fI Prod.fst e;have e2:F=sdA (stB x[b] f 0) (0,[],x[b].ps.map Ph.dst):=fI Prod.snd e;subst e1 e2;refine⟨aN _,?_⟩;rw[iw,jr hq c o x[b].is.length 0 oM];show _=(JT x[b] m r 0||Yo x b m);rw[nF];congr 1;unfold Yo;rw[aC l,eQ,bD];show m∈X9 (x[b].ps.map Ph.dst)↔hasI (x[b].ps.map Ph.dst) (m:Int)=true;rw[XD];exact YV (fun z a=>by obtain⟨q,p,rfl⟩:=aY.1 a;exact(g.phd _ d q p).1)
theorem qP(e:Jy n x){b:Nat}(f:b<x.length)(hq:r=true->m<n)(h:JT x[b] m r k=true):m<n:=by
 have d:=aH f;unfold JT at h;rcases TV _ (fV h)with a | ⟨y,g,a⟩
 ·rcases dI _ _ ▸ a with c | c
  ·have:=(e.rdt _ d _ (XD.1 c)).2;omega
  ·exact hq c
 ·have:=(e.rdi _ d y (List.mem_of_mem_drop g) _ a).2;omega
theorem Cf(d:Jy n x){b:Nat}(c:b<x.length)(hq:r=true->m<n)(h:PsP x x[b] b k m r=true):m<n:=by
 have e:=aH c;cases k with
 | zero =>
  rcases dI _ _ ▸ (show(JT x[b] m r 0||Yo x b m)=true from h)with a | a
  ·exact qP d c hq a
  ·unfold Yo at a
   rw[aC c]at a;obtain⟨p,i,l⟩:=aY.1 (XD.1 a);have:=(d.phd _ e p i).2;omega
 | succ j =>
  have f:(JT x[b] m r (j+1)||(match x[b].is[j]? with
   | none=>false
   | some y=>decide (defI y=(m:Int))))=true:=h
  rcases dI _ _ ▸ f with a | a
  ·exact qP d c hq a
  ·cases hj:x[b].is[j]? with
   | none=>rw[hj]at a;cases a
   | some y =>
    rw[hj]at a;have g:=YN.1 (fV a);have:=(d.wri _ e y (eN hj) _ g).2;omega
open Classical in
noncomputable def Uq(a:List Xe)(x:Xe)(V b i:Nat):List Nat:=(List.range V).filter fun v=>PsP a x b i v (decide (UV a v b))
open Classical in
theorem rq(c:Jy n x){b:Nat}(a:b<x.length)(l:n<=m)(hq:∀v,v<m->(Xh f v=true↔UV x v b)){W:Nat->Nat}(h:(i,W)∈TZ x[b].is.length f (plL x[b])):lsN W m=Uq x x[b] n b i:=by
 have e:∀v,v<m->Xh W v=PsP x x[b] b i v (decide (UV x v b)):=fun v d=>(BB c a (by rw[eQ,hq v d,bD]) h).2
 rw[iz l (fun v o g=>by
  rw[<-gU,e v g];intro j;have:=Cf c a (fun k=>(fV k:UV x v b).val c a) j;omega)]
 unfold lsN Uq;apply lW;intro v d;have:=bE.1 d;exact e v oM
noncomputable def UU(a:List Xe)(v b i:Nat):List Int:=match a[b]? with
 | none=>[]
 | some x=>Xi (Uq a x v b i)
open Classical in
noncomputable def psB(a:List Xe)(b i v:Nat):Bool:=match a[b]? with
 | none=>false
 | some x=>PsP a x b i v (decide (UV a v b))
theorem wD(a:List Xe)(b i:Nat):UU a 0 b i=[]:=by
 unfold UU;cases a[b]?<;>rfl
theorem ox(a:List Xe)(v b i:Nat):UU a (v+1) b i=if psB a b i v=true then UU a v b i++[(v:Int)]else UU a v b i:=by
 unfold UU psB;cases a[b]? with
 | none=>simp
 | some x =>
  simp only;unfold Uq;rw[dN,eU];by_cases h:PsP a x b i v (@decide (UV a v b) (Classical.propDecidable _))=true
  ·rw[aU h]
   simp[h,Xi]
  ·rw[aM h]
   simp[h]
theorem ix(a:List Xe)(v b i:Nat):(UU a v b i).length<=v:=by
 unfold UU;cases a[b]? with
 | none=>exact aN _
 | some x =>
  simp only[Xi,bK];unfold Uq;exact aJ (fJ _ _) sP
noncomputable def pQ(a:List Xe)(v b i:Nat)(s j:Nat):List Int:=if s<b\/s=b/\j<i then UU a (v+1) s j else UU a v s j
theorem Aw(a:List Xe)(v:Nat)(s j:Nat):pQ a v 0 0 s j=UU a v s j:=by
 unfold pQ;rw[aM oM]
theorem Ba(b:List Xe)(v a:Nat)(j:Nat)(c:n<a):pQ b v a 0 n j=UU b (v+1) n j:=by
 unfold pQ;rw[aU (bC c)]
theorem zo{b:Nat}(a:k=b->B<m):pQ x n b m k B=pQ x n (b+1) 0 k B:=by
 unfold pQ;by_cases h:k<b+1
 ·rw[aU (by by_cases e:k=b;(· exact aZ ⟨e,a e⟩);(· exact bC oM)),aU (bC h)]
 ·rw[aM oM,aM oM]
theorem B6{b:Nat}(h:psB x b m n=false)(s j:Nat):pQ x n b m s j=pQ x n b (m+1) s j:=by
 unfold pQ;by_cases e:s=b/\j=m
 ·obtain⟨rfl,rfl⟩:=e
  rw[aM oM,aU oM,ox,h];simp
 ·by_cases a:s<b\/s=b/\j<m
  ·rw[aU a,aU oM]
  ·rw[aM a,aM oM]
theorem Bj{b:Nat}(h:psB x b m n=true)(s j:Nat):(if (s,j)=(b,m)then pQ x n b m b m++[(n:Int)]else pQ x n b m s j)=pQ x n b (m+1) s j:=by
 by_cases e:(s,j)=(b,m)
 ·rw[aU e]
  injection e with e1 e2;subst e1 e2;unfold pQ;rw[aM oM,aU oM,ox,aU h]
 ·rw[aM e]
  have c:¬(s=b/\j=m):=fun h=>e (by rw[h.1,h.2])
  unfold pQ;by_cases a:s<b\/s=b/\j<m
  ·rw[aU a,aU oM]
  ·rw[aM a,aM oM]
theorem Bh(a:List Xe)(v b i s j:Nat):(pQ a v b i s j).length<=v+1:=by
 unfold pQ;split
 ·exact ix _ _ _ _
 ·have:=ix a v s j;omega
structure RwS(w2 wr:World)(u:Value)(b:Nat)(m:Nat->Nat)(G:Nat->Nat):Prop where
 low:Below w2.heap.size w2 wr
 own:wr.ownsRow w2.heap.size 53 1 u b ((List.range b).map fun s=>.slice (some ⟨G s,0,none⟩) (m s) (m s))
 row:∀s,s<b->w2.heap.size<=G s/\wr.rowIs (G s) 55 (m s) (fun _=>.slice none 0 0)
 ne:∀s s',s<b->s' < b->s≠s'->G s≠G s'
theorem RwS.start(a:World)(m:Nat->Nat):RwS a (a.alloc (.cells #[] 53)) (.slice (some ⟨a.heap.size,0,none⟩) 0 0) 0 m (fun _=>0):=⟨Xb (Below.refl _ _) _,eI (base:=a.heap.size) (e:=53) (size:=1) a #[] 0 sP sP rfl,fun s h=>absurd h oM,fun s b h=>absurd h oM⟩
theorem RwS.push{wr:World}{u':Value}{b:Nat}{C:Obj}(h:RwS w wr a b f F)(d:((wr.alloc (.cells (madeCells #[.slice none 0 0] (f b)) 55)).alloc C).grownBy v a.ownBlock)(z:v.ownsRow w.heap.size 53 1 u' (b+1) ((List.range b).map (fun s=>Value.slice (some ⟨F s,0,none⟩) (f s) (f s))++[.slice (some ⟨wr.heap.size,0,none⟩) (f b) (f b)])) :
 RwS w v u' (b+1) f (fun s=>if s=b then wr.heap.size else F s):=by
 have B:=h.low.size;have u:=d.size;rw[aO,aO]at u;have y:∀q T r n,wr.rowIs q T r n->T≠53->a.ownBlock≠some q:=fun q T r n i t e=>by
  obtain⟨D,j,_⟩:=i;rcases h.own.2 with⟨e1,_⟩ | ⟨g,cap,cur,e1,_,c,_⟩
  ·rw[e1]at e;cases e
  ·rw[e1]at e
   injection e with e;have e:g=q:=e;subst e;rw[show wr.heap[g]?=_ from j]at c;injection c with c;injection c with _ l;exact t l
 have A:=fun q e=>(h.own.lt q e).2
 have p:∀q,q<wr.heap.size->a.ownBlock≠some q->v.heap[q]?=wr.heap[q]?:=fun q j c=>(d.block q (by rw[aO,aO];omega) (fun e=>c e.symm)).trans ((Below.heap_alloc _ _ _ (by rw[aO];omega)).trans (Below.heap_alloc _ _ _ j))
 have x:v.heap[wr.heap.size]?=(wr.alloc (.cells (madeCells #[.slice none 0 0] (f b)) 55)).heap[wr.heap.size]?:=(d.block _ (by rw[aO,aO];omega) (fun e=>by have:=A _ e.symm;omega)).trans (Below.heap_alloc _ _ _ (by rw[aO];omega));refine⟨⟨d.os.trans h.low.os,d.tape.trans h.low.tape,d.output.trans h.low.output,oM,fun q hq=>(p q oM (fun e=>by have:=(h.own.lt q e).1;omega)).trans (h.low.block q hq)⟩,?_,fun s k=>?_,fun s m j c l=>?_⟩
 ·rw[dN,bG,eH,fZ,aU rfl,gH (g:=fun s=>Value.slice (some ⟨F s,0,none⟩) (f s) (f s)) (fun s k=>by rw[aM (oN (bE.1 k))])]
  exact z
 ·by_cases e:s=b
  ·subst e
   rw[aU rfl];exact⟨B,(dG wr (.slice none 0 0) (f s) 55).of_block x⟩
  ·rw[aM e]
   have i:=h.row s oM;exact⟨i.1,i.2.of_block (p _ i.2.lt (y _ _ _ _ i.2 vY))⟩
 ·have o:=fun s k=>(h.row s k).2.lt
  by_cases e1:s=b
  ·have:=o m oM
   rw[aU e1,aM oM];omega
  ·by_cases e2:m=b
   ·have:=o s oM
    rw[aM e1,aU e2];omega
   ·rw[aM e1,aM e2]
    exact h.ne s m oM oM l
section
open Classical in
noncomputable def nwB(xs:List Xe)(b v k:Nat):Bool:=match xs[b]? with
 | none=>false
 | some x=>JT x v (decide (UV xs v b)) k
section
variable {xs : List Xe} {b v : Nat}
theorem wg:psB xs b 0 v=(nwB xs b v 0||Yo xs b v):=by
 unfold psB nwB Yo;cases h:xs[b]? with
 | none=>rfl
 | some x=>simp only[PsP,Yo,h]
theorem xf{j:Nat}(a:j<(Tu xs b).length):psB xs b (j+1) v=(nwB xs b v (j+1)||decide ((Tu xs b)[j]=(v:Int))):=by
 have c:=a;revert a;unfold psB nwB Tu at *;cases h:xs[b]? with
 | none=>intro a;exact absurd a sP
 | some x =>
  intro a;simp only[Z2,bK]at a;simp only[PsP,Z2,cM];rw[aC a]
open Classical in
theorem Az(a:b<xs.length){q:Bool}(hq:q=true↔UV xs v b):nwB xs b v (Tu xs b).length=(q||hasI (rtL xs b) (v:Int)):=by
 have e:(@decide (UV xs v b) (Classical.propDecidable _))=q:=by rw[eQ,hq,bD]
 unfold nwB Tu rtL;rw[aC a];simp only[Z2,bK];rw[WT _ _ _ (aA _),e,nF]
theorem wT{j:Nat}(a:j<(Tu xs b).length)(c:j<(rdL xs b).length):nwB xs b v j=(hasI (rdL xs b)[j] (v:Int)||(nwB xs b v (j+1) && !decide ((Tu xs b)[j]=(v:Int)))):=by
 revert a c;unfold nwB Tu rdL;cases h:xs[b]? with
 | none=>intro a;exact absurd a sP
 | some x =>
  intro a c;simp only[Z2,bK]at a;simp only[Z2,Jv,cM];exact gu _ _ _ a
open Classical in
theorem Am(a:b<xs.length):nwB xs b v 0=true↔Wh xs v b:=by
 unfold nwB;rw[aC a];exact pU a (by rw[bD])
theorem Be:(rdL xs b).length=(Tu xs b).length:=by
 unfold rdL Tu;cases xs[b]? with
 | none=>rfl
 | some x=>simp[Jv,Z2]
end
theorem yB(xs:List Xe)(b:Nat):∀l∈rdL xs b,l.length<=2:=fun l a=>by
 unfold rdL at a;cases h:xs[b]? with
 | none=>rw[h]at a;exact absurd a eA
 | some x =>
  rw[h]at a;obtain⟨y,_,c⟩:=aY.1 a;rw[<-c];exact ew y
structure InX(wb wr:World)(gl n:Nat)(lv:Nat->Bool)(gi m:Nat)(f:Nat->Bool):Prop where
 low:Below wb.heap.size wb wr
 gll:gl<wb.heap.size
 lr:wr.rowIs gl 4 n (fun z=>.bool (lv z))
 ge:wb.heap.size<=gi
 ir:wr.rowIs gi 4 m (fun z=>.bool (f z))
section
variable {wb wr w' : World} {gl n gi m : Nat} {lv f f' : Nat -> Bool}
theorem InX.below(h:InX wb wr gl n lv gi m f)(k:Below wr.heap.size wr w'):InX wb w' gl n lv gi m f:=⟨Xg h.low k,h.gll,h.lr.of_block (k.block _ h.lr.lt),h.ge,h.ir.of_block (k.block _ h.ir.lt)⟩
theorem InX.congr(h:InX wb wr gl n lv gi m f)(e:∀z,z<m->f z=f' z):InX wb wr gl n lv gi m f':=⟨h.low,h.gll,h.lr,h.ge,UC (C:=Value.bool) h.ir e⟩
theorem InX.set(h:InX wb wr gl n lv gi m f)(k:Nat)(q:Bool):InX wb (wr.setCell ⟨gi,k,none⟩ (.bool q)) gl n lv gi m (fun z=>if z=k then q else f z):=by
 have:=h.ge;have:=h.gll;exact⟨h.low.setCell (by show wb.heap.size<=gi;omega) _,h.gll,h.lr.setOther (by show gl≠gi;omega) _,h.ge,TS (C:=Value.bool) h.ir k q⟩
end
noncomputable def inF(xs:List Xe)(b v k z:Nat):Bool:=decide (k<z)&&psB xs b z v
theorem AE{xs:List Xe}{b v k:Nat}{z:Nat}(a:z<k+1):inF xs b v k z=false:=by unfold inF;simp;omega
theorem xk{xs:List Xe}{b v j:Nat}{q:Bool}(hq:q=psB xs b (j+1) v)(z:Nat):(if z=j+1 then q else inF xs b v (j+1) z)=inF xs b v j z:=by
 unfold inF;by_cases e:z=j+1
 ·subst e
  rw[aU rfl,hq];simp
 ·rw[aM e]
  by_cases h:j<z
  ·rw[eB h,eB (show j+1<z by omega)]
  ·rw[dJ h,dJ (show ¬j+1<z by omega)]
theorem y9{xs:List Xe}{b v:Nat}{q:Bool}(hq:q=psB xs b 0 v)(z:Nat):(if z=0 then q else inF xs b v 0 z)=psB xs b z v:=by
 by_cases e:z=0
 ·subst e;rw[aU rfl,hq]
 ·rw[aM e]
  unfold inF;rw[eB (show 0<z by omega),Bool.true_and]
def CE(w w':World)(n V:Nat)(xs:List Xe)(e:Ending):Prop:=∃(a c:Nat)(G:Nat->Nat),e=.returned (.slice (some ⟨a,0,none⟩) n c)/\Below w.heap.size w w'/\w.heap.size<=a/\∀s,s<n->w'.cell? ⟨a,s,none⟩=some (.slice (some ⟨G s,0,none⟩) ((Tu xs s).length+1) ((Tu xs s).length+1))/\w.heap.size<=G s/\XR w' w.heap.size w'.heap.size (some ⟨G s,0,none⟩) ((List.range ((Tu xs s).length+1)).map (UU xs V s))
end
def Zj(k:Nat):Code->Option Code
 | .region i ops d=>if i=k then some (.region i ops d)else none
 | .seq x y=>match Zj k x with
  | some c=>some c
  | none=>Zj k y
 | .block _ c=>Zj k c
 | .scope c=>Zj k c
 | .loop c=>Zj k c
 | .cond _ x y=>match Zj k x with
  | some c=>some c
  | none=>Zj k y
 | _=>none
noncomputable def Ca:Code:=(f22.body.bind (Zj 27)).getD .skip
theorem BP(V v n cO a b k e r q:Nat)(f:List Xe)(lv:Nat->Bool)(G m:Nat->Nat)(h wr:World)(Q:Exit->Act->World->Prop)(c0 c1 c2 c3 c5 c7 c9 L Y ar bm bz b7 b8 ca cb cc cd ce cf ch ci cj ck cl cp cq cr cs ct cv cw cx cz c6 da db dc dd df di dj dk dl dn ds du dw d0 d1 d2 d3 d4 d5 ea eb ec ed ee ef eg ei ej ek el em ep eq er es et eu ev ey ez e0 e6 e7 e8 e9 fa fb fc fe fi fl fq fr fs fx fz f0 f7 ga gb gc M N O P R S T U W X Z aa ab ac ad af aj al ap aq ax ay az a0 a1 a2 a3 a4 a5 a6 a7 a8 a9 ba bb bc bd bf bi bl bn bo bp bq br bs bt bv bw bx b0 b1 b2 b3 b4 b5 b6 g4 g5 g6 g7 g9 hb hc hd he hf hg hh hi hj hk hl hm hn ho hp b9:Value)
 (hQ:Hid (∀c (J:Act) t v w,Q (.panic c) (J.put (some t) v) w->Q (.panic c) J w)) (hv:v<V) (hV:V<=2000) (d:b<n) (i1:k<e+1) (H:Hid (m b=e+1)) (j:Hid (LvM h wr n G m (pQ f v b k))) (C:Hid (wr.rowIs r 4 n (fun z=>.bool (lv z)))) (D:Hid (wr.rowIs q 4 (e+1) (fun z=>.bool (psB f b z v)))) (g2:Hid (psB f b k v=true))
 (g0:Hid (h.cell? ⟨a,b,none⟩=some (.slice (some ⟨G b,0,none⟩) (m b) (m b)))) (I:Hid (∀s,s<n->a≠G s)) (j0:a<h.heap.size) (gs:Hid (h.heap.size<=r)) (gr:Hid (h.heap.size<=q))
 (hN:Hid (∀(ht hw hx hy hz h0 h1 h2 h3 h4 h5 h6 h7 h8 h9 ia ib ic ih il:Value)(B:World),Hid (LvM h B n G m (pQ f v b (k+1)))->Hid (B.rowIs r 4 n (fun z=>.bool (lv z)))->Hid (B.rowIs q 4 (e+1) (fun z=>.bool (psB f b z v)))->Q .normal ⟨#[c0,c1,c2,c3,.slice (some ⟨a,0,none⟩) n cO,c5,.int .i64 (v:Int),c7,.int .i64 (b:Int),c9,L,Y,ar,.int .i64 (k:Int),bm,bz,b7,b8,ca,cb,cc,cd,ce,cf,ch,ci,cj,ck,cl,cp,cq,cr,cs,ct,cv,cw,cx,cz,c6,da,db,dc,dd,df,di,dj,dk,dl,dn,ds,du,dw,d0,d1,d2,d3,d4,d5,ea,eb,ec,ed,ee,ef,eg,ei,ej,ek,el,em,ep,eq,er,es,et,eu,ev,ey,ez,e0,e6,e7,e8,e9,fa,fb,fc,fe,fi,fl,fq,fr,fs,fx,fz,f0,f7,ga,gb,gc,M,N,O,P,R,S,T,U,W,X,Z,aa,ab,ac,ad,af,aj,al,ap,aq,ax,ay,az,a0,a1,a2,a3,a4,a5,a6,a7,a8,a9,ba,bb,bc,bd,bf,bi,bl,bn,bo,bp,bq,br,bs,bt,bv,bw,bx,b0,b1,b2,b3,b4,b5,b6,ht,hw,hx,hy,hz,h0,h1,h2,h3,h4,h5,h6,h7,h8,h9,ia,ib,ic,ih,il,b9],[]⟩ B)) :
 Code.wp prog Ca Q ⟨#[c0,c1,c2,c3,.slice (some ⟨a,0,none⟩) n cO,c5,.int .i64 (v:Int),c7,.int .i64 (b:Int),c9,L,Y,ar,.int .i64 (k:Int),bm,bz,b7,b8,ca,cb,cc,cd,ce,cf,ch,ci,cj,ck,cl,cp,cq,cr,cs,ct,cv,cw,cx,cz,c6,da,db,dc,dd,df,di,dj,dk,dl,dn,ds,du,dw,d0,d1,d2,d3,d4,d5,ea,eb,ec,ed,ee,ef,eg,ei,ej,ek,el,em,ep,eq,er,es,et,eu,ev,ey,ez,e0,e6,e7,e8,e9,fa,fb,fc,fe,fi,fl,fq,fr,fs,fx,fz,f0,f7,ga,gb,gc,M,N,O,P,R,S,T,U,W,X,Z,aa,ab,ac,ad,af,aj,al,ap,aq,ax,ay,az,a0,a1,a2,a3,a4,a5,a6,a7,a8,a9,ba,bb,bc,bd,bf,bi,bl,bn,bo,bp,bq,br,bs,bt,bv,bw,bx,b0,b1,b2,b3,b4,b5,b6,g4,g5,g6,g7,g9,hb,hc,hd,he,hf,hg,hh,hi,hj,hk,hl,hm,hn,ho,hp,b9],[]⟩ wr:=by
 conv=>arg 2;whnf
 have kb:(k:Int)<=(e:Int):=oM;have kc:(k:Int)<(e:Int)+1:=oM;have ka:(b:Int)<(n:Int):=oM;have g:k<m b:=by rw[H.out];exact i1
 obtain⟨g3,i⟩:=j.db;obtain⟨ua,uc,y,_⟩:=Xk (i.own b k d g);have l:=Xa i;have E:=Xa y;obtain⟨A,x⟩:∃js,js=(pQ f v b k b k).length:=⟨_,rfl⟩;have kd:A<=2001:=oN (Bh f v b k b k)
 have o:=Xa x;have g1:=Xa (by have gd:=i.own b k d g;rw[y,<-x]at gd;exact gd);have eG:wr.cell? ⟨G b,k,none⟩=some (.slice ua A uc):=by rw[(i.row b d).cell g,y,x]
 have p:=j.cell (fun s hs=>I s hs) g0;rw[H.out]at p;have kf:=j.size;have j2:=i.lt b d;have j3:G b<wr.heap.size:=oM;have iv:=I b d;have i0:a<wr.heap.size:=aI wr _ p;have gx:=Xa (l.other C vY d g);have gv:=Xa (l.other D vY d g);have gz:Hid ((g3 b k).ownBlock≠some a):=Xa (fun ir=>by have:=((l.own b k d g).lt _ ir).1;omega);obtain⟨m0,i2,i3,i4,i5⟩:=Xq Tryz.info2';clear i y x;refine Y7 (fun w'=>w'.cell? ⟨a,b,none⟩=some (.slice (some ⟨G b,0,none⟩) (e+1) (e+1))) (fun hHeld=>?_);refine X0 0 ?_;refine X0 1 ?_;refine X0 2 ?_;refine X0 3 ?_;refine X0 4 ?_;refine X0 5 ?_;refine X0 6 ?_;refine X0 7 ?_;refine X0 8 ?_;refine X0 9 ?_;refine X0 10 ?_;refine X0 11 ?_;refine X0 12 ?_;refine X0 13 ?_;refine X0 15 ?_;refine eS (rs:=[14,16]) vZ sP ?_;refine(bQ rfl (fun K hK=>?_) (bQ rfl (fun K hK=>?_) dY));go_simp;refine hK _ _ kP (fun hHeld=>?_);clear hK
 try simp only[xX]
 refine Xs 16 (fun K hK=>?_);go_simp;refine hK _ _ kP (fun hHeld=>?_);clear hK;rotate_left;go_simp;refine hK _ _ kP (fun hHeld=>?_);clear hK
 try simp only[xX]
 refine Xs 14 (fun K hK=>?_);go_simp;refine hK _ _ kP (fun hHeld=>?_);clear hK
 all_goals (
  refine Xs 17 (fun K hK=>?_);refine rV rfl _ _ 27 rfl h.heap.size 2 m0 (.int .i64 0) 1 8 underlying27 i2 i3 i4 i5 rfl vY (.slice ua A uc) A ((pQ f v b k b k).map (Value.int .i64)) rfl ?s1 ⟨wr.heap.size,0,none⟩ 1 1 [.int .i64 (v:Int)] rfl rfl ?s2 ?s3 ?s4 ?s5 ?s6 ?_
  case s1=>exact(g1.drew).alloc _
  case s2=>exact Yf _ _ _
  case s3=>intro kk hu;simp at hu;subst hu;rfl
  case s4=>unfold maxLen;omega
  case s5=>omega
  case s6=>simp;omega
  intro v8 w8 F gg _ gf;obtain⟨g8,c8,rfl,_,_⟩:=Xm F oM;obtain⟨ge,hr,j1,u,i6⟩:=j.push (x:=(v:Int)) (s:=b) (t:=k) l d g (by rw[E.out,<-o.out];exact gg) (by rw[<-o.out];exact F) (by rw[E.out,<-o.out];simpa using gf);rw[E.out,<-o.out]at hr;have q1:=u a i0 iv gz;have q2:=u r C.lt (oN gs.out) gx;have q3:=u q D.lt (oN gr.out) gv;have z6:=(Xc (o:=b) q1.1).trans p;have z7:=(Xc (o:=b) q1.2).trans p;have gp:=Xa (ge.congr (fun s jj _ _=>Bj g2 s jj));have gq:=Xa (C.of_block q2.2);have gt:=Xa (D.of_block q3.2);clear F gg gf ge u i6 q1 q2 q3;refine hK _ _ z6 (fun hHeld=>?_);clear hK;refine X0 18 ?_;refine X0 19 ?_;refine Xs 20 (fun K hK=>?_);go_simp;refine hK _ _ z7 (fun hHeld=>?_);clear hK;refine Yq ?_;exact hN _ _ _ _ _ _ _ _ _ _ _ _ _ _ _ _ _ _ _ _ _ gp gq gt)
end Go.Proofs.YtghnlncgiihhgaaGreatDoor
