import Derived.Test.YtffcajcgkblkoaaGreatDoorPL2
import Derived.Test.YtffcajcgkblkoaaGreatDoorDG1
namespace Go.Proofs.YtffcajcgkblkoaaGreatDoor
set_option maxHeartbeats 4000000
set_option maxRecDepth 100000
open Go.RowKit Go.Shelf Go.Proofs.Tryz
variable{E:Array Value}{t T:Int}{l:List Int}{s:List Nat}{y:List Value}{x:List Xe}{n m k B g i j c:Nat}{f:Nat->Nat}{M:Nat->Nat->Nat}{d:Nat->Prop}{p:Option Addr}{a:Value}{w v u W V:World}{q:Xe}
theorem pt(h:Xf w n m p l){v:Int}(f:0<=v)(g:v<l.length):∃b o k,v=((k:Nat):Int)/\k<l.length/\p=some (Hk b o)/\(n<=b/\b<m)/\w.cell? (Hk b<|o+k)=some (Hp<|Ht l v):=by
 obtain⟨k,rfl⟩:∃k:Nat,v=(k:Int):=⟨v.toNat,oM⟩;have a:k<l.length:=oM;let⟨b,o,e,c,d⟩:=h k a;refine⟨b,o,k,rfl,a,e,c,?_⟩;unfold Ht;rw[dM,bF,aC a];exact d
theorem pf{b:Nat}(h:Bx w b E n)(l:w.ownsRow k m B a g y)(j:n≠m):some b≠a.ownBlock:=by
 intro c;obtain⟨s,⟨e,_⟩|⟨d,o,p,e1,r,i,q⟩⟩:=l;·subst e;cases c
 subst e1;have:b=d:=by injection c
 subst this;unfold Bx at h;rw[i]at h;injection h with h;injection h with _ f;exact j f.symm
section
def IT(i:Value)(t:Yj):List Value:=[i,.int .i64 t.kind,.int .i64 t.a,.int .i64 t.to,.int .i64 t.els]
def H9(iv:Nat->Value)(xs:List ag):List Value:=Yu (λi x=>IT (iv i) x.te) 0 xs
theorem Gc{iv:Nat->Value}(xs:List ag)(x:ag):H9 iv (xs++[x])=H9 iv xs++IT (iv xs.length) x.te:=by
 unfold H9;rw[Zo,aV]
theorem uP{iv jv:Nat->Value}{xs:List ag}(h:∀i,i<xs.length->iv i=jv i):H9 iv xs=H9 jv xs:=by
 unfold H9;have e:∀(a:List ag)(k:Nat),(∀i,i<a.length->iv (k+i)=jv (k+i))->Yu (λi x=>IT (iv i) x.te) k a=Yu (λi x=>IT (jv i) x.te) k a:=by
  intro a
  induction a with
  |nil=>intro k _;rfl
  |cons y r d=>
   intro k c;show IT (iv k) y.te++Yu _ (k+1) r=IT (jv k) y.te++Yu _ (k+1) r;rw[show iv k=jv k from c 0 sP,d (k+1) λi b=>by have:=c (i+1) (by simpa using b);rwa[show k+(i+1)=k+1+i by omega]at this]
 exact e xs 0 λi b=>by rw[aV];exact h i b
theorem vz(iv:Nat->Value)(xs:List ag):(H9 iv xs).length=xs.length*5:=Zn (sz:=5) (λ_ _=>rfl) _ _
variable {w w': World} {lab lab': Nat -> Nat×Nat×Nat} {base: Nat} {ok: Nat -> Prop}
theorem Xv.fresh{L:Nat×Nat×Nat}{t g n:Nat}{v:Value}{d:List Value}(a:Below w.heap.size w w')(c:w'.ownsRow w.heap.size t g v n d)(s:base<=w.heap.size)(p:∀b,w.heap.size<=b->lab b=(0,0,0)) :
 ∃lab',Xv w' lab' L base t g v n d/\XW w w' lab lab' base (λ_=>True):=by
 refine⟨λb=>if v.ownBlock=some b then L else lab b,⟨?_,λb e=>aU e⟩,a.size,λb r l _=>⟨a.block b l,aM λe=>?_⟩,λ_ b m=>(aM λe=>?_).trans (p b<|aJ a.size m)⟩
 .obtain⟨f,k|⟨j,h,i,e,u,q,o⟩⟩:=c;·exact⟨f,bC k⟩
  exact⟨f,aZ ⟨j,h,i,e,oM,q,o⟩⟩
 .have:=(c.lt b e).1;omega
 have:=(c.lt b e).2;omega
structure IB(w:World)(lab:Nat->Nat×Nat×Nat)(base:Nat)(v:Value)(K J:Nat)(xs:List ag)(iv:Nat->Value):Prop where
 blks:Xv w lab (K,0,0) base 43 5 v xs.length (H9 iv xs)
 ins:∀i (h:i<xs.length),Xv w lab (J,i,0) base 48 5 (iv i) xs[i].is.length (ZP xs[i].is)
variable {v v': Value} {K J: Nat} {xs: List ag} {iv: Nat -> Value}
theorem IB.nil:IB w lab base Hq K J [] iv:=⟨⟨dA _ _ _ _,λb e=>by cases e⟩,λi h=>absurd h<|Nat.not_lt_zero _⟩
theorem IB.sp(h:IB w lab base v K J xs iv)(k:XW w w' lab lab' base ok)(d:∀b,lab b=(K,0,0)->ok b)(c:∀b i,i<xs.length->lab b=(J,i,0)->ok b):IB w' lab' base v K J xs iv :=
 ⟨h.blks.sp k d,λi a=>(h.ins i a).sp k λb e=>c b i a e⟩
theorem IB.push(h:IB w lab base v K J xs iv)(g:K≠J)(x:ag){q:Value}(hq:Xv w lab (J,xs.length,0) base 48 5 q x.is.length (ZP x.is))(l:w.grownBy w' v.ownBlock)(m:w'.ownsRow base 43 5 v' (xs.length+1) (H9 iv xs++IT q x.te))(j:v'.ownBlock=v.ownBlock\/v'.ownBlock=some w.heap.size)(k:∀b,w.heap.size<=b->lab b=(0,0,0)) :
 ∃lab',IB w' lab' base v' K J (xs++[x]) (λi=>if i=xs.length then q else iv i)/\XW w w' lab lab' base (λb=>lab b≠(K,0,0)):=by
 let⟨lab',n,a⟩:=h.blks.grow l m j k;have f:∀i b,lab b=(J,i,0)->lab b≠(K,0,0):=λi b e q=>g (by rw[e]at q;injection q with q;exact q.symm);refine⟨lab',⟨?_,λi c=>?_⟩,a⟩
 .have e:H9 (λi=>if i=xs.length then q else iv i) (xs++[x])=H9 iv xs++IT q x.te:=by
   rw[Gc,aU rfl,uP (jv:=iv) λi c=>aM oM]
  rw[e,aQ,List.length_singleton];exact n
 by_cases e:i=xs.length
 .subst e;rw[aU rfl];have e2:(xs++[x])[xs.length]=x:=sP;rw[e2];exact hq.sp a λb e=>f _ b e
 rw[aM e];have d:i<xs.length:=by rw[aQ,List.length_singleton]at c;omega
 rw[fA d];exact(h.ins i d).sp a λb e=>f _ b e
theorem jr{g n c i:Nat}(h:Xv w lab (K,0,0) base 43 5 (Hl g n c) n (H9 iv xs))(a:i<xs.length){q:Nat}{u:Value}(hq:q<5)(b:(IT (iv i) xs[i].te)[q]?=some u):w.cell? (Hk g<|i*5+q)=some u:=h.cell (by
 unfold H9;rw[Xz (sz:=5) (λ_ _=>rfl) 0 xs i a q hq,aV];exact b)
theorem o9:∀(a:List Yg)(k:Nat),ZP a=Yu (λ_ x=>[.int .i64 x.op,.int .i64 x.dst,.int .i64 x.a,.int .i64 x.b,.int .i64 x.imm]) k a
 |[],_=>rfl
 |y::r,k=>by rw[pi,o9 r<|k+1];rfl
theorem Xv.inss{L:Nat×Nat×Nat}{d:Option Addr}{n c:Nat}{a:List Yg}(h:Xv w lab L base 48 5 (.slice d n c) a.length (ZP a)):YY w base w.heap.size d a:=λi f=>by
 let⟨g,k,e⟩:=h.got oM;cases e;have b:∀q u,q<5->([Hp a[i].op,Hp a[i].dst,Hp a[i].a,Hp a[i].b,Hp a[i].imm]:List Value)[q]?=some u->w.cell? (Hk g<|i*5+q)=some u:=λq u hq j=>h.cell (by
  rw[o9 a 0,Xz (sz:=5) (λ_ _=>rfl) 0 a i f q hq];exact j)
 refine⟨g,0,rfl,h.blk.1,?_⟩;rw[aV];exact⟨b 0 _ oM rfl,b 1 _ oM rfl,b 2 _ oM rfl,b 3 _ oM rfl,b 4 _ oM rfl⟩
theorem IB.at_{d:Option Addr}{o c:Nat}(h:IB w lab base (.slice d o c) K J xs iv):dp w base w.heap.size d xs:=λi b=>by
 let⟨k,p,j⟩:=h.blks.got oM;cases j;have f:=h.blks;let⟨m,n,e⟩:=(h.ins i b).form;have g:=h.ins i b;rw[e]at g;have a:=λq u hq l=>jr (q:=q) (u:=u) f b hq l;refine⟨k,0,rfl,f.blk.1,m,n,?_,⟨?_,?_,?_,?_⟩,g.inss⟩;·rw[aV];exact a 0 _ oM<|by rw[<-e];rfl
 .rw[aV];exact a 1 _ oM rfl
 .rw[aV];exact a 2 _ oM rfl
 .rw[aV];exact a 3 _ oM rfl
 rw[aV];exact a 4 _ oM rfl
end
section
structure Ip(xs:List Xe)(v:Nat)(td:List Nat)(i:Nat):Prop where
 nd:td.Nodup
 op:∀x∈td,IF xs v x
 z:0∈td
 dn:∀j (h:j<td.length),j<i->Yo xs td[j] v=true\/(Cp xs td[j] v≠1/\(Cp xs td[j] v=0->∀t∈X8 xs td[j],t∈td))
section
variable {xs: List Xe} {v: Nat} {td: List Nat} {i: Nat}
theorem yX:Ip xs v [0] 0:=⟨sP,λx a=>by rw[cS.1 a];exact IF.root,sP,λj _ h=>absurd h oM⟩
theorem Ip.go(h:Ip xs v td i)(c:i<td.length)(a:Yo xs td[i] v=true\/(Cp xs td[i] v≠1/\(Cp xs td[i] v=0->∀t∈X8 xs td[i],t∈td))):Ip xs v td (i+1) :=
 ⟨h.nd,h.op,h.z,λj b d=>if e:j=i then by subst e;exact a else h.dn j b oM⟩
theorem Ip.push(h:Ip xs v td i)(g:i<td.length)(m:Yo xs td[i] v=false)(d:Cp xs td[i] v=0){t:Nat}(n:t∈X8 xs td[i])(l:t∉td):Ip xs v (td++[t]) i:=by
 refine⟨?_,λx a=>?_,by simp[h.z],λj r k=>?_⟩
 .rw[gW];exact⟨h.nd,sP,λp ha b f=>by rw[cS.1 f];exact λe=>l<|by rw[<-e];exact ha⟩
 .rcases bU.1 a with a|a;·exact h.op x a
  rw[cS.1 a];exact IF.step (h.op _<|aH g) m d n
 have c:j<td.length:=oM;rw[fA c];rcases h.dn j c k with q|⟨q1,q2⟩;·exact bC q
 exact aZ ⟨q1,λe u o=>dD _<|q2 e u o⟩
theorem Ip.none(h:Ip xs v td i)(l:td.length<=i):¬Ic xs v:=by
 rintro⟨b,c,d,e⟩;have f:∀b,IF xs v b->b∈td:=λb c=>by
  induction c with
  |root=>exact h.z
  |step _ q1 q2 k g=>
   obtain⟨j,a,rfl⟩:=bR g;rcases h.dn j a oM with q|q;·rw[q]at q1;cases q1
   exact q.2 q2 _ k
 obtain⟨j,a,rfl⟩:=bR<|f b c;rcases h.dn j a oM with q|q;·rw[q]at d;cases d
 exact q.1 e
theorem Ip.hit(h:Ip xs v td i)(b:i<td.length)(c:Yo xs td[i] v=false)(a:Cp xs td[i] v=1):Ic xs v:=⟨_,h.op _<|aH b,c,a⟩
theorem Ip.lt(h:Ip xs v td i)(a:UF xs):∀x∈td,x<xs.length:=λx b=>(h.op x b).lt a
end
end
theorem zn{go:Nat->Nat}(h:MT w v n p m c k x B g i go M)(J:v.heap.size<=j)(D:Below v.heap.size v u)(t:XK u j m k f (λ_=>k) λ_ _=>0)(N:∀b,b<m->v.heap.size<=f b)
 {l o:Nat} (K:u.heap.size+2<=l) (L:u.heap.size+2<=o) (q:Below (u.heap.size+2) ((u.alloc<|.cells #[.slice (some ⟨j,0,none⟩) m m] 87).alloc (.cells (madeCells #[.slice none 0 0] m) 27)) W) (r:YW W l o W.heap.size ((m+63)/64) p m c (λ_=>0) (.slice none 0 0) []) :
 MG ⟨w,n,m,c,k,(m+63)/64,p,x,B,g,i,u.heap.size,j,u.heap.size+1,l,o,v.heap.size,u.heap.size,W.heap.size,go,f,M⟩/\LN ⟨w,n,m,c,k,(m+63)/64,p,x,B,g,i,u.heap.size,j,u.heap.size+1,l,o,v.heap.size,u.heap.size,W.heap.size,go,f,M⟩ W 0 ⟨λ_=>0,λ_=>0,λ_ _=>0,λ_ _=>0,λ_=>.slice none 0 0,λ_=>0,.slice none 0 0,[]⟩:=by
 have S:=D.size;have Q:((u.alloc<|.cells #[.slice (some ⟨j,0,none⟩) m m] 87).alloc (.cells (madeCells #[.slice none 0 0] m) 27)).heap.size=u.heap.size+2:=sP;have I:Below u.heap.size u ((u.alloc<|.cells #[.slice (some ⟨j,0,none⟩) m m] 87).alloc (.cells (madeCells #[.slice none 0 0] m) 27)):=Xb (Xb (Below.refl _ _) _) _;have T:u.heap.size+2<=W.heap.size:=oN q.size
 have C:=I.trans<|q.mono oM;have e:=Xg D C;have R:=h.low.size;have y:=h.gi.lt;have z:=aI v _ h.l0;have H:=h.o.row.lt;have F:=h.b1;have b2:=h.b2;have G:=h.b3;have O:((u.alloc<|.cells #[.slice (some ⟨j,0,none⟩) m m] 87).alloc (.cells (madeCells #[.slice none 0 0] m) 27)).rowIs (u.heap.size+1) 27 m (λ_=>.slice none 0 0):=by
  have:=dG (u.alloc<|.cells #[.slice (some ⟨j,0,none⟩) m m] 87) (.slice none 0 0) m 27;rwa[aO]at this
 have d:∀s:Addr,s.block<v.heap.size->W.cell? s=v.cell? s:=λs P=>e.cell P;have A:g<v.heap.size:=z;refine⟨⟨⟨F,y⟩,⟨b2,z⟩,⟨G,H⟩,λb a=>⟨h.b4 b a,(h.o.set b a).lt⟩,h.d1,h.d2,h.d3,h.d4,⟨J,t.row.lt⟩,λb a=>⟨N b a,(t.set b a).lt⟩,rfl,rfl,⟨K,r.lb⟩,⟨L,r.lg⟩,r.ne⟩,?_⟩;refine⟨Xg h.low e,aA _,(d _<|by show w.heap.size<_;omega).trans h.f0,(d _<|by show w.heap.size<_;omega).trans h.f1,(d _<|by show w.heap.size+1<_;omega).trans h.r0,(d _<|by show w.heap.size+1<_;omega).trans h.r1,λE=>(e.frozen (p:=Hk (w.heap.size+1) E) (by show w.heap.size+1<_;omega)).trans (h.rz E),(d _ A).trans h.l0,(d _ A).trans h.l1,(q.cell (p:=Hk u.heap.size 0) (by show u.heap.size<_;omega)).trans (by simp[go_sem]),h.o.keep e,(h.gi.of_block<|e.block _ y).congr λb _=>sP,λb a=>absurd a oM,λb U a=>absurd a oM,λb a=>absurd a oM,t.keep C,(O.of_block<|q.block _ oM).congr λb _=>sP,λb a=>absurd a oM,r,λb a=>absurd a oM⟩
structure Iz(w4:World)(gB gD Kw CB:Nat)(W0:Nat->Nat)(pre:List Pl)(V:World):Prop where
 os:V.os=w4.os
 tape:V.tape=w4.tape
 output:V.output=w4.output
 size:w4.heap.size<=V.heap.size
 fr:∀q,q<w4.heap.size->q≠gB->q≠gD->V.heap[q]?=w4.heap[q]?
 ws:Bf V gB Kw CB ((pre.map Pl.dat).foldl Ut W0)
 wd:Bf V gD Kw Kw ((pre.map Pl.dat).foldl Uo λ_=>0)
theorem Iz.own{gB:Nat}(j:gB<w.heap.size)(l:n<w.heap.size):OwnFrom w.heap.size (Iz w gB n m k f):=λr A V row h a q=>by
 have o:=h.size;have c:∀b,b<w.heap.size->V.heap[b]?=A.heap[b]?:=λb p=>a.block b oM (λe=>by have:=(q b e.symm).1;omega);exact⟨a.os.trans h.os,a.tape.trans h.tape,a.output.trans h.output,aJ o a.size,λb d g i=>(c b d).trans (h.fr b d g i),h.ws.of_block<|c gB j,h.wd.of_block<|c n l⟩
theorem Iz.below{gB:Nat}(b:gB<w.heap.size)(c:n<w.heap.size){a:List Pl}(h:Iz w gB n m k f a v)(d:Below v.heap.size v u):Iz w gB n m k f a u:=XO (Iz.own b c) h d
theorem B8(l:List (Nat×List Int×List Int))(h:XA f):XA (l.foldl Ut f):=by
 induction l generalizing f with
 |nil=>exact h
 |cons q l a=>exact a<|Zs _ (JX _ h)
theorem Iz.next{gB CB:Nat}{d:List Pl}(h:Iz w gB n m CB f d v)(l:gB<w.heap.size)(j:gB≠n){p:Pl}
 (b:v.grownBy u (some gB)) (c:u.grownBy W (some gB)) (a:W.grownBy V (some n)) (k:Bf W gB m CB (Ut ((d.map Pl.dat).foldl Ut f) p.dat)) (i:Bf V n m m (Uo ((d.map Pl.dat).foldl Uo λ_=>0) p.dat)):Iz w gB n m CB f (d++[p]) V:=by
 have o:=h.size;have r:=b.size;have s:=c.size;have t:=a.size;refine⟨a.os.trans<|c.os.trans (b.os.trans h.os),a.tape.trans<|c.tape.trans (b.tape.trans h.tape),a.output.trans<|c.output.trans (b.output.trans h.output),oM,λq q1 q2 g=>?_,?_,?_⟩;·exact(a.block q oM λe=>g<|by injection e).trans ((c.block q oM λe=>q2<|by injection e).trans ((b.block q oM λe=>q2<|by injection e).trans (h.fr q q1 q2 g)))
 .rw[bG,dT];exact k.of_block<|a.block gB oM λe=>j<|by injection e
 rw[bG,dT];exact i
theorem pR{row:Option Nat}(h:Xf w n w.heap.size p l)(k:w.grownBy v row)(t:∀r,row=some r->m<=r/\∃o:Obj,w.heap[r]?=some o/\o.isCells=false):Xf v n v.heap.size p l:=λq j=>by
 let⟨b,o,f,c,e⟩:=h q j;refine⟨b,o,f,⟨c.1,aX c.2 k.size⟩,(Xc<|k.block b c.2 λe2=>?_).trans e⟩;let⟨s,g,i⟩:=Yn e;let⟨_,u,a,d⟩:=t b e2.symm;rw[show w.heap[b]?=some s from g]at a;injection a with a;subst a;rw[i]at d;cases d
theorem mj(n b:Nat)(a:Nat×List Int×List Int->Prop):OwnFrom n (ji b a):=λ_ _ _ _ h k q=>⟨h.1,pR h.2.1 k q,pR h.2.2 k q⟩
theorem pN{a:Nat×List Int×List Int->Prop}{p:Pl}(h:ji n a p w)(k:Below w.heap.size w v):ji n a p v:=XO (mj 0 n a) h k
theorem YZ(h:Xf w m w.heap.size p l)(k:w.grownBy v (some n))(f:n<m):Xf v m v.heap.size p l:=λi d=>by
 let⟨b,o,e,a,c⟩:=h i d;exact⟨b,o,e,⟨a.1,aX a.2 k.size⟩,(Xc<|k.block b a.2 λe2=>by injection e2 with e2;omega).trans c⟩
structure L8(n₀ bp:Nat)(p:Pl)(V:World):Prop where
 ge:n₀<=bp
 c0:V.cell? ⟨bp,0,none⟩=some (.slice p.ua p.us.length p.uc)
 c1:V.cell? ⟨bp,1,none⟩=some (.slice p.da p.ds.length p.dc)
theorem L8.own{p:Pl}:OwnFrom n (λ(_:Unit) V=>L8 m k p V):=λ_ A V row h g q=>by
 have d:V.heap[k]?=A.heap[k]?:=by
  let⟨o,b,f⟩:=Yn h.c0;refine g.block k (aS.1 b).1 λe=>?_;let⟨_,i,a,c⟩:=q k e.symm;rw[show A.heap[k]?=some o from b]at a;injection a with a;subst a;rw[f]at c;cases c
 exact⟨h.ge,(Xc d).trans h.c0,(Xc d).trans h.c1⟩
theorem Zg(k:w.grownBy v (some m))(c:d m)(g:n<=w.heap.size):Zf n d w v :=
 ⟨k.size,λi f a=>k.block i oM (λe=>a<|by injection e with e;rw[e];exact c),λi o a b _=>(k.block i (aS.1 b).1 λe=>a<|by injection e with e;rw[e];exact c).trans b⟩
theorem Jc(k:w.grownBy v (some n))(c:∃o:Obj,w.heap[n]?=some o/\o.isCells=true):KeepsOthers w v :=
 KeepsOthers.of_grownBy k (λj o e h=>by
  let⟨d,a,b⟩:=c;injection e with e;subst e;rw[a]at h;injection h with h;rw[<-h];exact b)
theorem Bf.obj(h:Bf w n m k f):∃o:Obj,w.heap[n]?=some o/\o.isCells=true:=by
 let⟨_,T,c,a,_⟩:=h;exact⟨_,a,rfl⟩
theorem zI{wr:World}(h:ZJ wr n s)(d:n<=wr.heap.size)(e:wr.heap.size<=m)(hK:w.heap[m]?=some (.deferred (some [])))(b:∀k,n<=k->wr.heap[k]?=some (.deferred (some []))->w.heap[k]?=wr.heap[k]?):ZJ w n (m::s):=by
 have c:=λk a=>(aS.1<|h.obj k a).1;refine⟨fL.2 ⟨λk=>by have:=c m k;omega,h.nd⟩,λk a=>?_,λk a=>?_⟩
 .rcases cH.1 a with rfl|a;·omega
  exact h.ge k a
 rcases cH.1 a with rfl|a;·exact hK
 exact(b k (h.ge k a) (h.obj k a)).trans (h.obj k a)
def MW(V:Nat)(q:Nat×List Int×List Int):Prop:=(∀v∈q.2.1,0<=v/\v<V)/\(∀v∈q.2.2,0<=v/\v<V)/\q.2.1.length<=4000/\q.2.2.length<=4000
theorem nM(a:Jy n x)(c:q∈x):∀d∈Hw q,MW n d:=λd hq=>by
 unfold Hw at hq;have h:(G2 q.te).length<=1:=by unfold G2;split<;>simp
 rcases cH.1 hq with rfl|hq;·exact⟨a.rdt q c,λv b=>absurd b eA,by show(G2 q.te).length<=_;omega,sP⟩
 rcases bU.1 hq with hq|hq
 .obtain⟨j,_,rfl⟩:=aY.1 hq;have f:=jx q.is[j];have g:(BW q.is[j]).length<=1:=by unfold BW;split<;>simp
  exact⟨a.rdi q c _<|aH _,a.wri q c _<|aH _,by show(Ft q.is[j]).length<=_;omega,by show(BW q.is[j]).length<=_;omega⟩
 rw[cS.1 hq];refine⟨λv b=>absurd b eA,λv b=>?_,sP,?_⟩
 .obtain⟨p,e,rfl⟩:=aY.1 b;exact a.phd q c p e
 show(q.ps.map Ph.dst).length<=_;rw[bK];exact(a.lens q c).2
structure MU(w w':World)(n Kw:Nat)(xs:List Xe)(Gi Go:Nat)(gi go ci:Nat->Nat)(WI WX:Nat->Nat->Nat):Prop where
 low:Below w.heap.size w w'
 si:XK w' Gi n Kw gi ci WI
 so:XK w' Go n Kw go (λ_=>Kw) WX
 wi:XQ WI
 wx:XQ WX
 b1:w.heap.size<=Gi/\w.heap.size<=Go
 b2:∀i,i<n->w.heap.size<=gi i/\w.heap.size<=go i
 inn:∃(I T W0:Nat->Nat->Nat)(ord:List Nat),(∀i (h:i<xs.length),I i=I4 xs[i] (W0 i))/\(∀i (h:i<xs.length),T i=I6 xs[i])/\(∀b,b<xs.length->∀v,Xh (W0 b) v=true↔(b,v)∈IE xs xs.length)/\(∀b,b<xs.length->b∈ord)/\(∀b,b<n->∀x,x<64*Kw->(Xh (WI b) x=true↔Sp I T (·∈ord) (X8 xs) b x))/\∀b,b<n->∀x,(Xh (WX b) x=true↔Xh (W0 b) x=true\/∃t∈X8 xs b,Xh (WI t) x=true)
section
theorem zB{w:World}{b e s:Nat}{v:Value}{n:Nat}{i:List Value}(h:w.ownsRow b e s v n i){g:Nat}(a:v.ownBlock=some g):∃o:Obj,w.heap[g]?=some o/\o.isCells=true:=by
 obtain⟨_,h|⟨c,j,l,rfl,_,f,_⟩⟩:=h;·rw[h.1]at a;cases a
 have e:c=g:=by simpa [Value.ownBlock]using a
 subst e;exact⟨_,f,rfl⟩
theorem YW.same{w b:World}{a c f K:Nat}{i:Option Addr}{m j:Nat}{W:Nat->Nat}{v:Value}{L:List Nat}(h:YW w a c f K i m j W v L)(l:b.heap[a]?=w.heap[a]?)(n:b.heap[c]?=w.heap[c]?)(o:∀g,v.ownBlock=some g->b.heap[g]?=w.heap[g]?)(r:w.heap.size<=b.heap.size):YW b a c f K i m j W v L:=by
 have e:∀q,b.cell? (Hk a q)=w.cell? (Hk a q):=λq=>bZ l;exact⟨(e 0).trans h.c0,(e 1).trans h.c1,(e 2).trans h.c2,λq=>(bJ l).trans (h.thaw q),h.row.of_block n,Zl h.own o,h.lb,h.lg,h.ne,aJ h.sz r⟩
section
variable {p: VD} {wr w4 W w5: World} {k: Nat} {d: Lu} {gB CB: Nat} {ps: List Pl} {u5: Value}
theorem rq(g:∀q,q<wr.heap.size->q≠p.Gi->w4.heap[q]?=wr.heap[q]?)(j:wr.heap.size<=w4.heap.size)(i:wr.heap.size<=gB)(a:Iz w4 gB (p.gd k) p.Kw CB (p.WO k) ps W)(h:Below W.heap.size W w5) :
 ∀q,q<wr.heap.size->q≠p.Gi->q≠p.gd k->q≠p.Gn->(w5.setCell ⟨p.Gn,k,none⟩ u5).heap[q]?=wr.heap[q]?:=λq b c e f=>by
 have:=a.size;exact(Below.heap_setCell _ _ _ _ f).trans ((h.block q oM).trans ((a.fr q oM oM e).trans (g q b c)))
theorem yK(h:LN p wr k d)(s:MG p)(j:k<p.n)(f:∀q,q<wr.heap.size->q≠p.Gi->w4.heap[q]?=wr.heap[q]?)(l:wr.heap.size<=w4.heap.size)(i:wr.heap.size<=gB)(b:Iz w4 gB (p.gd k) p.Kw CB (p.WO k) ps W)(c:Below W.heap.size W w5) :
 YW (w5.setCell ⟨p.Gn,k,none⟩ u5) p.bS p.gS p.M p.K2 p.a p.n p.c d.Ws d.vS d.Lf:=by
 have v:=h.sz;have a:=rq (u5:=u5) f l i b c;have m:=s.a1;have o:=s.a5;have r:=s.a6 k j;have t:=s.a8;have u:=s.a9;have n:=s.a10;have w:=b.size;have x:=c.size;refine h.sea.same (a _ oM oM oM oM) (a _ oM oM oM oM) (λg e=>?_) (by rw[Xd];omega);have:=h.sea.own.lt g e;exact a g oM oM oM oM
theorem LN.round{l:World}{X:Xe}{D:Nat}{E:List Nat}{m:Option Addr}{c5:Nat}{u:Value}(o:LN p wr k d)(s:MG p)(hq:Lk p k d)(hm:ZJ wr p.M E)(z:k<p.n)(J:k<p.xs.length)(ht:∀b,b<p.n->∀al∈X8 p.xs b,al<p.n)
 (F:∀q,q<wr.heap.size->q≠p.Gi->w4.heap[q]?=wr.heap[q]?) (w:w4.os=wr.os/\w4.tape=wr.tape/\w4.output=wr.output) (af:wr.heap.size<=w4.heap.size) (y:wr.heap.size<=gB) (aq:gB<w4.heap.size)
 (T:w4.rowIs p.Gi 59 p.n λi=>if i=k then .slice (some ⟨gB,0,none⟩) p.Kw CB else if i<k then .slice (some ⟨d.gi i,0,none⟩) p.Kw (d.ci i)else .slice none 0 0)
 (c:Iz w4 gB (p.gd k) p.Kw CB (p.WO k) ps W) (H:ps.map Pl.dat=Hw X) (x:X=p.xs[k]) (hD:w4.heap.size<=D) (G:W.heap[D]?=some (.deferred (some [])))
 (f:Below W.heap.size W w5) (aa:Xf w5 W.heap.size w5.heap.size m X.te.tg)
 (a:Vh (w5.setCell ⟨p.Gn,k,none⟩ (.slice m X.te.tg.length c5)) l p.bS p.gS d.vS u) (hs:YW l p.bS p.gS p.M p.K2 p.a p.n p.c (C2 (X8 p.xs) p.n k (d.Ws,d.Lf)).1 u (C2 (X8 p.xs) p.n k (d.Ws,d.Lf)).2) :
 ∃C,LN p l (k+1) C/\Lk p (k+1) C/\ZJ l p.M (D::E):=by
 have hz:=o.sz;have O:=rq (u5:=.slice m X.te.tg.length c5) F af y c f;have a1:=s.a1;have ap:=s.a5;have a6:=s.a6 k z;have a8:=s.a8;have a9:=s.a9;have ao:=s.a10;have ar:=c.size;have ax:=f.size;have aj:=a.size;rw[Xd]at aj;have t:=λg e=>o.sea.own.lt g e
 have L:∀g,u.ownBlock=some g->d.vS.ownBlock=some g\/w5.heap.size<=g:=λg e=>by
  rcases a.own with q|q;·exact bC<|by rw[<-q];exact e
  have:=q g e;rw[Xd]at this;exact aZ this
 have R:=(aS.1 G).1;have B:∀q,wr.heap.size<=q->q<w5.heap.size->l.heap[q]?=w5.heap[q]?:=λq r h=>(a.block q (by rw[Xd];exact h) oM oM λe=>by have:=t q e.symm;omega).trans (Below.heap_setCell _ _ _ _<|by show q≠p.Gn;omega);have M:∀q,q<wr.heap.size->q≠p.Gn->q≠p.bS->q≠p.gS->some q≠d.vS.ownBlock->l.heap[q]?=W.heap[q]?:=λq r h j n v=>(a.block q (by rw[Xd];omega) j n v).trans ((Below.heap_setCell _ _ _ _ h).trans (f.block q oM));have A:∀q,q<p.M->some q≠d.vS.ownBlock:=λq hq e=>by have:=t q e.symm;omega
 have I:=λq r h j n v P Q=>(a.block q (by rw[Xd];omega) v P Q).trans (O q r h j n);have ad:(ps.map Pl.dat).foldl Ut (p.WO k)=I4 p.xs[k] (p.WO k):=by rw[H,<-x];rfl
 have ac:(ps.map Pl.dat).foldl Uo (λ_=>0)=I6 p.xs[k]:=by rw[H,<-x];rfl
 have Z:Bf l gB p.Kw CB (I4 p.xs[k] (p.WO k)):=by
  rw[<-ad];exact c.ws.of_block<|(B gB y oM).trans (f.block gB oM)
 have S:Bf l (p.gd k) p.Kw p.Kw (I6 p.xs[k]):=by
  rw[<-ac];exact c.wd.of_block<|M _ oM oM oM oM (A _ oM)
 have U:=(T.of_block<|c.fr p.Gi oM oM oM).of_block (M p.Gi oM oM oM oM<|A _ oM);have V:w5.rowIs p.Gn 27 p.n (λi=>if i<k then d.nx i else Hq):=by
  refine((o.nxr.of_block<|F p.Gn oM oM).of_block (c.fr p.Gn oM oM oM)).of_block (f.block p.Gn oM)
 have Y:=(V.set k<|.slice m X.te.tg.length c5).of_block (a.block p.Gn (by rw[Xd];omega) oM oM (A _ oM));have K:Ih p.xs k=X.te.tg:=by rw[VS J,x]
 refine⟨_,o.next s z (gB:=gB) (CB:=CB) (I':=I4 p.xs[k] (p.WO k)) (D':=I6 p.xs[k]) (nk:=.slice m X.te.tg.length c5) (v':=u) (Ws':=(C2 (X8 p.xs) p.n k (d.Ws,d.Lf)).1) (Lf':=(C2 (X8 p.xs) p.n k (d.Ws,d.Lf)).2) (a.os.trans<|f.os.trans (c.os.trans w.1)) (a.tape.trans<|f.tape.trans (c.tape.trans w.2.1)) (a.output.trans<|f.output.trans (c.output.trans w.2.2)) oM I y Z U S Y ⟨m,c5,by rw[K],?_⟩ hs ?_ ?_,hq.next z ht _ _ _ _ J rfl rfl,zI hm hz oM ?_ ?_⟩
 .rw[K];intro i hi;let⟨b,N,e,hb,hc⟩:=aa i hi;refine⟨b,N,e,⟨⟨oM,oM,λe2=>?_⟩,oM⟩,(Xc<|B b oM hb.2).trans hc⟩;rcases L b e2.symm with q|q;·have:=t b q;omega
  omega
 .rcases a.own with q|q;·exact bC q
  exact aZ λg e=>by have:=q g e;rw[Xd]at this;omega
 .intro e;rcases L gB e.symm with q|q;·have:=t gB q;omega
  omega
 .exact(B D oM oM).trans ((f.block D R).trans G)
 intro q r h;have ab:=(aS.1 h).1;refine I q ab oM oM oM oM oM λe=>?_;let⟨N,j,n⟩:=zB o.sea.own e.symm;rw[h]at j;injection j with j;rw[<-j]at n;cases n
end
end
section
structure TH(W1:World)(G:Nat)(wr:World)(u:Value)(l:List Int):Prop where
 os:wr.os=W1.os
 tape:wr.tape=W1.tape
 output:wr.output=W1.output
 size:W1.heap.size<=wr.heap.size
 fr:∀q,q<W1.heap.size->q≠G->wr.heap[q]?=W1.heap[q]?
 own:wr.ownsRow G 2 1 u l.length (l.map<|Value.int .i64)
 here:∀g,u.ownBlock=some g->g=G\/W1.heap.size<=g
section
variable {W1 wr w2: World} {G: Nat} {u u': Value} {l: List Int}
theorem TH.start(h:W1.ownsRow G 2 1 u 0 [])(a:∀g,u.ownBlock=some g->g=G):TH W1 G W1 u []:=⟨rfl,rfl,rfl,aA _,λ_ _ _=>rfl,h,λg e=>bC<|a g e⟩
theorem TH.push{x:Int}(h:TH W1 G wr u l)(a:wr.grownBy w2 u.ownBlock)(f:w2.ownsRow G 2 1 u' (l.length+1) (l.map (Value.int .i64)++[Hp x]))(d:u'.ownBlock=u.ownBlock\/u'.ownBlock=some wr.heap.size):TH W1 G w2 u' (l++[x]):=by
 have i:=h.size;refine⟨a.os.trans h.os,a.tape.trans h.tape,a.output.trans h.output,aJ i a.size,λq c b=>(a.block q oM λe=>?_).trans (h.fr q c b),?_,λg e=>?_⟩
 .rcases h.here q e.symm with k|k;·exact b k
  omega
 .rw[Yl,aQ];exact f
 rcases d with k|k;·exact h.here g<|by rw[<-k];exact e
 rw[k]at e;injection e with e;exact aZ oM
theorem TH.below(h:TH W1 G wr u l)(k:Below wr.heap.size wr w2):TH W1 G w2 u l :=
 ⟨k.os.trans h.os,k.tape.trans h.tape,k.output.trans h.output,aJ h.size k.size,λq a b=>(k.block q<|aX a h.size).trans (h.fr q a b),Zl h.own λg e=>k.block g (h.own.lt g e).2,h.here⟩
theorem TH.alloc(h:TH W1 G wr u l)(o:Obj):TH W1 G (wr.alloc o) u l:=h.below<|Xb (Below.refl _ _) o
theorem TH.cell(h:TH W1 G wr u l){b o:Nat}{v:Value}(c:b≠G)(a:W1.cell? (Hk b o)=some v):wr.cell? (Hk b o)=some v:=(Xc<|h.fr b (aI W1 _ a) c).trans a
end
end
theorem wF(t:Yj)(w:World) :
 Calls prog 102 #[.agg #[Hp t.kind,Hp t.a,Hp t.to,Hp t.els]] w λj e=>∃f c,j=.returned (.slice f (G2 t).length c)/\Below w.heap.size w e/\Xf e w.heap.size e.heap.size f (G2 t):=by
 let⟨d,h,tg,k⟩:=t;by_cases a:d=1
 .subst a
  go_in
  go_wp2;go_ret;exact⟨_,_,rfl,Xb (Xb (Below.refl _ _) _) _,λi b=>absurd b<|by simp[G2]⟩
 have e1:(d==1)=false:=by simp[a]
 have g:G2 ⟨d,h,tg,k⟩=[h]:=by simp[G2,a]
 rw[g]
 go_in
 go_wp2;go_ret;refine⟨_,_,rfl,Xb (Xb (Below.refl _ _) _) _,λi b=>?_⟩
 match i,b with
 |0,_=>exact⟨_,_,rfl,⟨sP,sP⟩,sP⟩
theorem Wv(z:Yg)(w:World) :
 Calls prog 104 #[iq z] w λt N=>∃Q c,t=.returned (.slice Q (Ft z).length c)/\Below w.heap.size w N/\Xf N w.heap.size N.heap.size Q (Ft z):=by
 obtain⟨K,F,H,I,J⟩:=fX Nv;obtain⟨b,l,f,d,m⟩:=z;have V:=Xa λW=>kh b W;have O:=Xa λW=>oH b W;have s:Hs (Ft ⟨b,l,f,d,m⟩=(if aB b then [f]else [])++(if bB b then [d]else [])):=Xa rfl;generalize Ft ⟨b,l,f,d,m⟩=rs at*;generalize aB b=Z at*;generalize bB b=T at*;unfold iq
 go_in
 go_wp2_with fail
 refine(V _).mono ?_;rintro t r⟨rfl,h⟩;rw[h];have D:Hs (Below w.heap.size w<|(w.alloc<|.cells #[Hp b,Hp l,Hp f,Hp d,Hp m] 48).alloc (.cells #[] 2)):=Xa<|Xb (Xb (Below.refl _ _) _) _;have k:=Xa<|K5 w (.cells #[Hp b,Hp l,Hp f,Hp d,Hp m] 48);have Y:(λU:World=>w.heap.size<U.heap.size/\(∀L M,#[Hp b,Hp l,Hp f,Hp d,Hp m][L]?=some M->U.cell? (Hk w.heap.size L)=some M)) ((w.alloc<|.cells #[Hp b,Hp l,Hp f,Hp d,Hp m] 48).alloc (.cells #[] 2)):=⟨(by simp;omega),(λL M X=>by
  rw[bP _ _ _ sP];rw[eC];exact X)⟩
 generalize (w.alloc _).alloc _=W at*;obtain⟨G,v⟩:=Y;have c0:=v 0 _ rfl;have c2:=v 2 _ rfl;have c3:=v 3 _ rfl;have aa:=Xa G;cases Z with
 |false=>
  go_wp2_with fail
  refine(O _).mono ?_;rintro t r⟨rfl,h⟩;rw[h];cases T with
  |false=>
   go_wp2;go_ret;have e:=s.o;simp at e;subst e;obtain⟨i,c1,e1,j⟩:=Xk (xs:=([]:List Int)) (by simpa using k.o);exact⟨i,c1,fI Ending.returned e1,D,j.mono oM<|aA _⟩
  |true=>
   go_wp2_with (at_builtin;refine fT _ rfl _ _ 27 rfl (w.heap.size+1) 2 K (Hp 0) 1 8 underlying27 F H I J rfl vZ _ _ _ rfl (k.alloc _) (Hk W.heap.size 0) 1 1 [Hp d] rfl rfl ?c1 ?c2 ?c3 ?c4 ?c5 ?_)
   case c1=>
    intro q u a
    match q,a with
    |0,a=>simp at a;subst a;simp[Addr.add]
   case c2=>intro u g;simp at g;subst g;rfl
   case c3=>unfold maxLen;(try simp);(try omega)
   case c4=>simp
   case c5=>simp;omega
   intro v1 w9 p o _;have n:=Xy (Xb D _) o (k.alloc _) oM (by simp;omega);have A:=Xa n;have C:=Xa p;go_wp2;go_ret;have e:=s.o;simp at e;subst e;obtain⟨i,c1,e1,j⟩:=Xk (xs:=([]:List Int)++[d]) (by simpa using C.o);exact⟨i,c1,fI Ending.returned e1,A,j.mono oM<|aA _⟩
 |true=>
  go_wp2_with (at_builtin;refine fT _ rfl _ _ 27 rfl (w.heap.size+1) 2 K (Hp 0) 1 8 underlying27 F H I J rfl vZ _ _ _ rfl (k.alloc _) (Hk W.heap.size 0) 1 1 [Hp f] rfl rfl ?c1 ?c2 ?c3 ?c4 ?c5 ?_)
  case c1=>
   intro q u a
   match q,a with
   |0,a=>simp at a;subst a;simp[Addr.add]
  case c2=>intro u g;simp at g;subst g;rfl
  case c3=>unfold maxLen;(try simp);(try omega)
  case c4=>simp
  case c5=>simp;omega
  intro v0 y S x _;have R:=Xy (Xb D _) x (k.alloc _) oM (by simp;omega);have E:=YJ x (k.alloc _) (b:=w.heap.size) oM (by simp;omega);have d3:Cl y w.heap.size 3 (Hp d):=(Xc E).trans ((bP W _ (Hk w.heap.size 3) G).trans c3);have d0:Cl y w.heap.size 0 (Hp b):=(Xc E).trans ((bP W _ (Hk w.heap.size 0) G).trans c0);have P:=Xa R;have B:=Xa (by simpa using S);have ab:w.heap.size<y.heap.size:=by have:=x.size;simp at this;omega
  go_wp2_with fail
  refine(O _).mono ?_;rintro t r⟨rfl,h⟩;rw[h];cases T with
  |false=>
   go_wp2;go_ret;have e:=s.o;simp at e;subst e;obtain⟨i,c1,e1,j⟩:=Xk (xs:=[f]) (by simpa using B.o);exact⟨i,c1,fI Ending.returned e1,P,j.mono oM<|aA _⟩
  |true=>
   go_wp2_with (at_builtin;refine fT _ rfl _ _ 27 rfl (w.heap.size+1) 2 K (Hp 0) 1 8 underlying27 F H I J rfl vZ _ _ _ rfl (B.alloc _) (Hk y.heap.size 0) 1 1 [Hp d] rfl rfl ?c1 ?c2 ?c3 ?c4 ?c5 ?_)
   case c1=>
    intro q u a
    match q,a with
    |0,a=>simp at a;subst a;simp[Addr.add]
   case c2=>intro u g;simp at g;subst g;rfl
   case c3=>unfold maxLen;(try simp);(try omega)
   case c4=>simp
   case c5=>simp;omega
   intro v1 w9 p o _;have n:=Xy (Xb P _) o (B.alloc _) oM (by simp;omega);have A:=Xa n;have C:=Xa p;go_wp2;go_ret;have e:=s.o;simp at e;subst e;obtain⟨i,c1,e1,j⟩:=Xk (xs:=[f]++[d]) (by simpa using C.o);exact⟨i,c1,fI Ending.returned e1,A,j.mono oM<|aA _⟩
theorem xL(h:Option Addr)(n s:Nat)(a:List Ph)(v1 v2 v3 v4 v5:Value)(L B:Nat)(w:World)(F:Hs (Jw w L B h a))(r:Hs (n=a.length))(W:n<=4000)(y:B<=w.heap.size) :
 Calls prog 101 #[.agg #[.slice h n s,v1,v2,v3,v4,v5]] w λx j=>∃l c,x=.returned (.slice l (a.map Ph.dst).length c)/\Below w.heap.size w j/\Xf j w.heap.size j.heap.size l (a.map Ph.dst):=by
 let⟨M,D,I,J,K⟩:=fX Nv
 go_in
 go_wp2
 go_loopw [3,4] (λu i wr=>∃k:Nat,k<=n/\i=Hp k/\Hs (Below w.heap.size w wr)/\w.heap.size<wr.heap.size/\wr.cell? (Hk w.heap.size 0)=some (.slice h n s)/\Hs (wr.ownsRow (w.heap.size+1) 2 1 u k (((a.map Ph.dst).take k).map (Value.int .i64)))) λ_ i _=>n-(intOf i).toNat
 case atStart=>exact⟨0,aN _,rfl,Xa<|Xb (Xb (Below.refl _ _) _) _,by simp;omega,sP,Xa<|K5 _ _⟩
 obtain⟨k,U,rfl,f,G,C,d⟩:=hrel;by_cases V:k<n
 .have m:k<a.length:=oN r.o;obtain⟨b,Y,rfl,⟨_,S⟩,ha,T,Q,R,_⟩:=(F.keep<|f.mono y) k m;have t:Hs ((a.map Ph.dst).take (k+1)=(a.map Ph.dst).take k++[a[k].dst]):=Xa (by rw[X7 _ _<|by simpa using m];simp);generalize a[k]=X at*;generalize (a.map Ph.dst).take k=P at*;go_wp2_with (at_builtin;refine fT _ rfl _ _ 27 rfl (w.heap.size+1) 2 M (Hp 0) 1 8 underlying27 D I J K rfl vZ _ _ _ rfl (d.alloc _) (Hk wr.heap.size 0) 1 1 [Hp X.dst] rfl rfl ?c1 ?c2 ?c3 ?c4 ?c5 ?_)
  case c1=>
   intro N u e
   match N,e with
   |0,e=>simp at e;subst e;simp[Addr.add]
  case c2=>intro u q;simp at q;subst q;rfl
  case c3=>unfold maxLen;omega
  case c4=>omega
  case c5=>simp;omega
  intro Z w1 p g _;have v:=Xa p;go_wp2;have z:=Xy (Xb f _) g (d.alloc _) oM (by simp;omega);have A:=YJ g (d.alloc _) (b:=w.heap.size) oM (by simp;omega);have H:=g.size;simp at H;exact⟨⟨k+1,oM,gM,Xa z,oM,(Xc A).trans ((bP wr _ (Hk w.heap.size 0) G).trans C),Xa<|by rw[t.o,Yl];exact v⟩,by simp[intOf];omega⟩
 go_wp2;go_ret;have o:=d.o;rw[aW (by have:=r.o;simp;omega)]at o;obtain⟨O,c1,rfl,E⟩:=Xk o;exact⟨_,_,rfl,f,E.mono oM<|aA _⟩
def LL(b:List Int)(a:List Ph)(p:Int)(i:Nat):List Int:=(List.range i).flatMap λi=>if b.getD i 0=p then a.map (λh=>h.args.getD i 0)else []
theorem rK(b:List Int)(a:List Ph)(p:Int)(i:Nat):LL b a p (i+1)=LL b a p i++(if b.getD i 0=p then a.map (λh=>h.args.getD i 0)else []):=by
 unfold LL;rw[dN,eZ];simp
theorem nX(b:List Int)(a:List Ph)(p:Int):∀i,(LL b a p i).length<=i*a.length
 |0=>by simp[LL]
 |i+1=>by
  have:=nX b a p i;rw[rK,aQ,Nat.succ_mul];split;·rw[bK];omega
  simp;omega
theorem wL(V:Nat)(a2:Option Addr)(n c:Nat)(p:Int)(t:Nat)(d:List Xe)(az I:Nat)(w:World)(ha:Hs (Xp w az I a2 d))(F:Hs (n=d.length))(hB:I<=w.heap.size)(Y:Hs (Jy V d))(ct:t<n) :
 Calls prog 103 #[.agg #[Hp V,.slice a2 n c],Hp p,Hp t] w λi w'=>∃l c',i=.returned (.slice (some l) (HK d p (t:Int)).length c')/\Below w.heap.size w w'/\Xf w' w.heap.size w'.heap.size (some l) (HK d p (t:Int)):=by
 let⟨i0,b7,ce,cf,ch⟩:=fX Nv;have hn:n<=1000:=oP F.o Y.okf.n2;have E:t<d.length:=oN F.o;obtain⟨b,o,rfl,⟨cr,cq⟩,hc⟩:=ha t E;let⟨pa,pc,ia,ic,q0,_,_,bd,_⟩:=hc;have bv:=Xa bd;have bt:=Xa<|Y.pha t E;have U:=(Y.lens _<|aH E).2;have K:Hs (HK d p (t:Int)=if d[t].ps=[]then []else LL (AQ d 0 (t:Int)) d[t].ps p (AQ d 0 (t:Int)).length):=Xa (by unfold HK LL;rw[dM,aC E]);have ax:=Xa λa0 (hW:Below w.heap.size w a0)=>ZE (V:Int) (some ⟨b,o,none⟩) n c (t:Int) d az I a0 (Xa<|ha.keep (hW.mono hB)) F oM (oN hW.size);have bf:=YO (t:Int) d 0;have bi:(AQ d 0 (t:Int)).length<=1000:=oN F.o;generalize AQ d 0 (t:Int)=e at*;generalize HK d p (t:Int)=ed at*;generalize d[t].ps=a at*;have R:b<w.heap.size:=oM;have qa:=λo1 o2=>oB (Xb (Xb (Below.refl w.heap.size w) o1) o2) q0 R
 go_in
 by_cases z:a.length=0
 .have C:=iE z;have he:ed=[]:=by rw[K.o,aU C]
  have bm:Hs (Below w.heap.size w<|(w.alloc<|.cells #[Hp V,Hm b o n c] 25).alloc (.cells #[] 2)):=Xa<|Xb (Xb (Below.refl _ _) _) _;simp only[z]at qa;go_wp2;go_ret;rw[he];exact⟨_,_,rfl,bm,λr S=>absurd S sP⟩
 have b4:((a.length:Int)==0)=false:=by simp[z]
 have C:a≠[]:=λi=>z (by rw[i];rfl);have aj:Hs (ed=LL e a p e.length):=Xa (by rw[K.o,aM C]);have ar:=Xa<|K5 w (.cells #[Hp V,Hm b o n c] 25);have J:Hs (Below w.heap.size w<|(w.alloc<|.cells #[Hp V,Hm b o n c] 25).alloc (.cells #[] 2)):=Xa<|Xb (Xb (Below.refl _ _) _) _;have ab:((w.alloc<|.cells #[Hp V,Hm b o n c] 25).alloc (.cells #[] 2)).heap.size=w.heap.size+2:=sP;have a6:((w.alloc<|.cells #[Hp V,Hm b o n c] 25).alloc (.cells #[] 2)).cell? (Hk w.heap.size 1)=some (Hm b o n c):=sP;go_wp2_with fail
 refine(ax _ J).mono ?_;rintro i H⟨a1,c1,rfl,q,T⟩;rw[ab]at q T;have cg:=q.size;rw[ab]at cg;have j:=Xa<|J.trans (q.mono oM);have a7:=(XU q oM).trans a6;have bq:=Xa T;have ao:Hs (TH H (w.heap.size+1) H (Hl (w.heap.size+1) 0 0) []):=Xa (TH.start (Zl ar (λy i=>by
  have P:w.heap.size+1=y:=by simpa [Value.ownBlock]using i
  subst P;exact q.block _ oM)) (λy i=>by
  have P:w.heap.size+1=y:=by simpa [Value.ownBlock]using i
  exact P.symm))
 have ay:=(j.cell (p:=Hk b<|o+t*6) R).trans (by have:=qa (.cells #[] 0) (.cells #[] 0);exact((Xb (Xb (Below.refl w.heap.size w) _) _).cell (p:=Hk b<|o+t*6) R).symm.trans this);have M:=Xa ay;have al:=Xa a7;have bw:=Xa<|bv.keep (j.mono hB);have bn:=aj;let⟨np,B⟩:∃m,m=e.length:=⟨_,rfl⟩;rw[<-B]at bi;have aq:=Xa B;let⟨G,X⟩:∃m,m=a.length:=⟨_,rfl⟩;rw[<-X]at M U b4;have L:=Xa X;rw[<-B];go_wp2
 go_loopw [7,9] (λu r wr=>∃k:Nat,k<=np/\r=Hp k/\Hs (TH H (w.heap.size+1) wr u (LL e a p k))/\Hs (u≠Hq)) λ_ r _=>np-(intOf r).toNat
 case atStart=>exact⟨0,aN _,rfl,ao,Xa sP⟩
 obtain⟨k,hk,rfl,f,O⟩:=hrel;by_cases ca:k<np
 .have ba:k<e.length:=by rw[<-aq.o];exact ca
  obtain⟨b1,o1,rfl,⟨cj,ck⟩,a4⟩:=bq k ba;have k1:=f.cell oM a4;have kf:=f.cell oM al;have kq:=f.cell oM M;have x:Hs (LL e a p (k+1)=LL e a p k++(if e[k]=p then a.map (λh=>h.args.getD k 0)else [])):=Xa (by rw[rK];congr 1;rw[bF,aC ba];rfl);have br:Hs ((LL e a p k).length<=4000000):=Xa (aJ (nX e a p k) (aJ (lO (show k<=1000 by omega) (show a.length<=4000 by rw[<-L.o];exact U)) vZ));generalize e[k]=v at*;by_cases D:v=p
  .subst D;have N:=Xa (by have h:=x.o;rw[aU rfl]at h;exact h);have b6:(v==v)=true:=sP;generalize LL e a v k=Q at*;go_wp2_with fail
   generalize wr=wo at*
   go_loopw [7,10] (λu af wr=>∃m:Nat,m<=G/\af=Hp m/\Hs (TH H (w.heap.size+1) wr u (Q++(a.map λh=>h.args.getD k 0).take m))/\Hs (u≠Hq)) λ_ r _=>G-(intOf r).toNat
   case atStart=>exact⟨0,aN _,rfl,Xa (by simpa using f.o),O⟩
   obtain⟨m,hm,rfl,g,bz⟩:=hrel;have kf:=g.cell oM al;have kq:=g.cell oM M;by_cases cb:m<G
   .have W:m<a.length:=by rw[<-L.o];exact cb
    obtain⟨b2,o2,rfl,⟨cl,cm⟩,aa,ac,g0,g1,gi⟩:=bw m W;have b5:=(bt a[m] (aH W)).1;have a9:k<a[m].args.length:=oM;obtain⟨b3,o3,rfl,⟨co,cp⟩,g3⟩:=gi k a9;have m1:=g.cell oM g1;have m3:=g.cell oM g3;have bx:Hs ((a.map λh=>h.args.getD k 0).take (m+1)=(a.map λh=>h.args.getD k 0).take m++[a[m].args[k]]):=Xa (by rw[X7 _ _<|by simpa using W];simp[a9]);have ap:Hs ((Q++(a.map λh=>h.args.getD k 0).take m).length<=4004000):=Xa (by have:=br.o;rw[aQ,dH];omega);have cs:(k:Int)<(a[m].args.length:Int):=oM;generalize (a.map λh=>h.args.getD k 0).take m=tm at*;generalize a[m].args[k]=av at*;generalize a[m].args.length=la at*;generalize a5:Q++tm=el at*;have bo:=Xa a5;go_wp2_with (at_builtin;refine bT _ rfl _ _ 27 rfl (w.heap.size+1) 2 i0 (Hp 0) 1 8 underlying27 b7 ce cf ch rfl vZ _ _ _ rfl (g.own.alloc _) (Hk wr.heap.size 0) 1 1 [Hp av] rfl rfl ?c1 ?c2 ?c3 ?c4 ?c5 ?_)
    case c1=>
     intro af u A
     match af,A with
     |0,A=>simp at A;subst A;simp[Addr.add]
    case c2=>intro u hu;simp at hu;subst hu;rfl
    case c3=>have:=ap.o;unfold maxLen;omega
    case c4=>have:=ap.o;omega
    case c5=>have:=g.size;simp;omega
    intro u1 w2 bc a8 bb a3;have bp:=Xa ((g.alloc _).push (x:=av) a8 bc (by rw[aO];exact a3));have b0:Hs (u1≠Hq):=Xa bb;go_wp2;exact⟨⟨m+1,oM,gM,Xa (by rw[bx.o,<-cK,bo.o];exact bp),b0⟩,by simp[intOf];omega⟩
   have cd:G<=m:=oM;go_wp2;exact⟨⟨k+1,oM,gM,Xa (by rw[N.o];have h:=g.o;rw[aW<|by rw[bK,<-L.o];exact cd]at h;exact h),bz⟩,by simp[intOf];omega⟩
  have N:=Xa (by have h:=x.o;rw[aM D,fF]at h;exact h);have b6:(v==p)=false:=by simp[D]
  go_wp2;exact⟨⟨k+1,oM,gM,Xa (by rw[N.o];exact f),O⟩,by simp[intOf];omega⟩
 have b8:k=e.length:=oN aq.o;go_wp2;go_ret;have Z:=f.own;rw[b8,<-bn.o]at Z;let⟨l,cc,e2,S⟩:=Xk Z;cases l with
 |none=>
  exfalso;rcases Vc Z with⟨s,_,_⟩|s;·exact O s
  let⟨y,ci,s,_⟩:=s;rw[s]at e2;injection e2 with e2;cases e2
 |some l=>
  refine⟨l,cc,fI Ending.returned e2,⟨f.os.trans j.os,f.tape.trans j.tape,f.output.trans j.output,aJ j.size f.size,λbl hq=>(f.fr bl oM oM).trans (j.block bl hq)⟩,S.mono oM<|aA _⟩
theorem F8(e:Jy n x)(a:k<x.length)(g:(m:Int)∈AQ x 0 (k:Int)):∀q∈Ha (de (AQ x 0 (k:Int)) (m:Int)) (ik x (k:Int)),(0<=q.1/\q.1<n)/\(0<=q.2/\q.2<n):=by
 intro q hq;rw[vt x a]at hq;unfold Ha at hq;obtain⟨h,c,rfl⟩:=aY.1 hq;have b:=e.pha k a h c;have f:=pq g;refine⟨e.phd _ (aH a) h c,?_⟩;have d:de (AQ x 0 (k:Int)) (m:Int)<h.args.length:=by rw[b.1];exact f
 rw[bF,aC d];exact b.2 _<|aH d
theorem FP(d:Option Addr)(n c:Nat)(p:Int)(a:List Int)(L B:Nat)(w:World)(ha:Hs (Xf w L B d a))(m:Hs (n=a.length))(u:n<=1048576)(l:Hs (p∈a)) :
 Calls prog 127 #[.slice d n c,Hp p] w λe o=>e=.returned (Hp<|de a p)/\o=w:=by
 have j:=pq l;have g:=Gv j;generalize q:de a p=I at*
 go_in
 go_wp2
 go_loopw [8] (λi wr=>∃k:Nat,k<=I/\i=Hp k/\wr=w) λi _=>n-(intOf i).toNat
 case atStart=>exact⟨0,aN _,rfl,rfl⟩
 obtain⟨k,s,rfl,rfl⟩:=hrel;have f:k<a.length:=oM;have t:k<n:=oN m.o;obtain⟨b,v,rfl,_,h⟩:=ha k f;by_cases e:k=I
 .subst e;rw[g]at h;go_wp2;go_ret;exact⟨rfl,rfl⟩
 have r:(p==a[k])=false:=GH oM f;generalize a[k]=X at*;go_wp2;exact⟨⟨k+1,oM,gM,trivial⟩,by simp[intOf];omega⟩
def ff(w:World)(L B:Nat)(c:Option Addr)(a:List (Int×Int)):Prop :=
 ∀i (h:i<a.length),∃b o,c=some ⟨b,o,none⟩/\(L<=b/\b<B)/\w.cell? ⟨b,o+i*2,none⟩=some (.int .i64 a[i].1)/\w.cell? ⟨b,o+i*2+1,none⟩=some (.int .i64 a[i].2)
theorem ff.keepS{c:List (Int×Int)}(h:ff w n m p c)(k:YA n m w v):ff v n m p c:=λi g=>by
 let⟨b,o,e,a,d,f⟩:=h i g;exact⟨b,o,e,a,(Xc<|k b a.1 a.2).trans d,(Xc<|k b a.1 a.2).trans f⟩
theorem ff.mono{a:List (Int×Int)}(h:ff w n m p a)(l:k<=n)(j:m<=B):ff w k B p a:=λi f=>by
 let⟨b,o,e,g,c,d⟩:=h i f;exact⟨b,o,e,oM,c,d⟩
def dz:List (Int×Int)->List Value
 |[]=>[]
 |t::ts=>.int .i64 t.1::.int .i64 t.2::dz ts
theorem FF(a:List (Int×Int))(t:Int×Int):dz (a++[t])=dz a++[Hp t.1,Hp t.2]:=by
 induction a with
 |nil=>rfl
 |cons x a b=>simp[dz,b]
theorem uJ:∀(a:List (Int×Int))(i:Nat)(h:i<a.length),(dz a)[i*2]?=some (Hp a[i].1)/\(dz a)[i*2+1]?=some (Hp a[i].2)
 |[],i,h=>absurd h sP
 |t::a,0,_=>by simp[dz]
 |t::a,i+1,h=>by
  have:=uJ a i (by simpa using h);rw[show(i+1)*2=i*2+1+1 by omega];simpa [dz]using this
theorem FX(b j:Nat):((Hk b 0):Addr).add j=(Hk b<|0+j):=by unfold Addr.add;split<;>simp_all
theorem FC{b:List (Int×Int)}(h:w.ownsRow n m 2 (.slice p k B) g (dz b)):ff w n w.heap.size p b:=λi j=>by
 let⟨d,e⟩:=uJ b i j;cases p with
 |none=>
  exfalso;rcases h.2 with⟨_,e2⟩|⟨_,_,_,e2,_⟩
  .have l:=h.1;have:i*2<(dz b).length:=(cV.1 d).1;omega
  injection e2 with e3;injection e3
 |some a=>
  have c:(Value.slice (some a) k B).ownBlock=some a.block:=rfl;have f:=h.lt _ c;have e2:a=(Hk a.block 0):=by
   rcases h.2 with⟨e3,_⟩|⟨_,_,_,e3,_⟩;·injection e3 with e4;injection e4
   injection e3 with e4;injection e4 with e4;rw[e4]
  have c1:=h.cells c _ _ d;have c2:=h.cells c _ _ e;rw[FX]at c1 c2;exact⟨a.block,0,fI some e2,f,c1,c2⟩
structure i7(w:World)(E:Nat)(t:Int)(ta:Option Addr)(nt ct:Nat)(ts:List (Int×Int)):Prop where
 c0:w.cell? ⟨E,0,none⟩=some (.int .i64 t)
 c1:w.cell? ⟨E,1,none⟩=some (.slice ta nt ct)
 fz:∀o,w.frozen? ⟨E,o,none⟩=false
 own:w.ownsRow (E+1) 190 2 (.slice ta nt ct) nt (dz ts)
theorem i7.push{c:List (Int×Int)}(h:i7 w n t p m k c)(d:Below w.heap.size w v)(i:n<w.heap.size){x:Int}
 (f:u.ownsRow (n+1) 190 2 (.slice (some ⟨B,0,none⟩) (m+1) g) (m+1) (dz c++[.int .i64 x,.int .i64 T])) (j:v.grownBy u (Value.slice p m k).ownBlock) :
 i7 (u.setCell ⟨n,1,none⟩ (.slice (some ⟨B,0,none⟩) (m+1) g)) n t (some ⟨B,0,none⟩) (m+1) g (c++[(x,T)]):=by
 have q:=d.size;have a:=(j.block n oM λe=>by have:=(h.own.lt _ e.symm).1;omega).trans (d.block n i);have l:=f.lt B rfl;refine⟨?_,?_,λo=>(eX _ _ _ _).trans ((bJ a).trans (h.fz o)),?_⟩
 .rw[cJ _ _ _ _<|by intro e;injection e with _ e;omega];exact(Xc a).trans h.c0
 .exact fQ _ _ _<|(Xc a).trans h.c1
 rw[FF];exact Zl f λb e=>Below.heap_setCell _ _ _ _ λe2=>by injection e with e;dsimp only at e e2;omega
theorem Ng:(prog.info? 190).map (λi=>(i.zero,i.size,i.bytes))=some (some<|.agg #[Hp 0,Hp 0],2,16):=kR
theorem o7{row:Option Nat}(a:w.grownBy v row)(b:k<w.heap.size)(c:some k≠row):(∀o,v.cell? (Hk k o)=w.cell? (Hk k o))/\(∀o,v.frozen? (Hk k o)=w.frozen? (Hk k o)) :=
 ⟨λo=>a.cell_far (Hk k o) b c,λo=>a.frozen_far (Hk k o) b c⟩
theorem Fu(v:Int)(ac:Option Addr)(n c:Nat)(pa:Option Addr)(V pc:Nat)(D t:Nat)(F:List Xe)(E:List (List Int))(X:Xe)(l:List Int)(nv:Int)(a2 Z L2 N:Nat)(w:World)
 (ha:Hs (Xp w a2 Z ac F)) (hx:Hs (n=F.length)) (hB:Z<=w.heap.size) (hp:Hs (XR w L2 N pa E)) (bi:Hs (V=E.length)) (a3:N<=w.heap.size) (ht:t<n) (b8:t<V)
 (hX:Hs (∀A:t<F.length,F[t]=X)) (bm:Hs (∀A:t<E.length,E[t]=l)) (bf:l.length<=1048576) (b6:X.ps.length<=1048576) (hm:Hs ((D:Int)∈l)) (bd:Hs (∀r (A:r<X.ps.length),ZX nv l.length X.ps[r]=true)) :
 Calls prog 106 #[.agg #[Hp v,.slice ac n c],.slice pa V pc,Hp D,Hp t] w
  λf p=>∃a d,f=.returned (.agg #[Hp t,.slice a X.ps.length d])/\Below w.heap.size w p/\ff p w.heap.size p.heap.size a (Ha (de l D) X.ps):=by
 have ay:t<F.length:=oN hx.o;have ax:t<E.length:=oN bi.o;let⟨i0,a9,bn,bo,bp⟩:=fX Ng;obtain⟨b,o,rfl,⟨_,b1⟩,hc⟩:=ha t ay;rw[hX.o ay]at hc;obtain⟨fa,fc,ia,ic,e0,-,-,aq,-⟩:=hc;obtain⟨b2,o2,rfl,⟨_,bz⟩,qa,qc,W,hq⟩:=hp t ax;rw[bm.o ax]at W hq;have s:=λx y z=>Xb (Xb (Xb (Below.refl w.heap.size w) x) y) z;have E0:=λx y z=>oB (s x y z) e0 oM;have Q0:=λx y z=>oB (s x y z) W oM;have HQ:=λx y z=>Xa<|hq.keep ((s x y z).mono a3);have hI:=Xa<|pq hm;have a1:=Xa aq;have b7:w.heap.size+1+1+1<=w.heap.size+1+1+1:=aA _;clear aq hq;have ST:∀x,i7 (((w.alloc x).alloc (.cells #[Hp 0,Hq] 187)).alloc (.cells #[Hp t,Hq] 187)) (w.heap.size+1+1) t none 0 0 []:=λx=>⟨by simp[go_sem],by simp[go_sem],λo=>by simp[go_sem],dA _ _ _ _⟩
 go_in
 go_wp2_with (go_at_call 127;refine(FP qa l.length qc D l L2 N _ (HQ _ _ _) rfl bf hm).mono ?_;rintro f e⟨rfl,rfl⟩)
 generalize a4:de l D=I at*;have ao:=s (.cells #[Hp v,Hm b o n c] 25) (.cells #[Hp 0,Hq] 187) (.cells #[Hp t,Hq] 187);have ar:=ST<|.cells #[Hp v,Hm b o n c] 25;have Y:((w.alloc<|.cells #[Hp v,Hm b o n c] 25).alloc (.cells #[Hp 0,Hq] 187)).alloc (.cells #[Hp t,Hq] 187)=((w.alloc<|.cells #[Hp v,Hm b o n c] 25).alloc (.cells #[Hp 0,Hq] 187)).alloc (.cells #[Hp t,Hq] 187):=rfl;clear Y ST s HQ Q0 W;have a5:∀o,(((w.alloc<|.cells #[Hp v,Hm b o n c] 25).alloc (.cells #[Hp 0,Hq] 187)).alloc (.cells #[Hp t,Hq] 187)).frozen? (Hk (w.heap.size+1) o)=false:=λo=>by simp[go_sem]
 go_loopw [28] (λr wr=>∃(k:Nat)(a:Option Addr)(d:Nat),k<=X.ps.length/\r=Hp k/\Hs (Below w.heap.size w wr)/\w.heap.size+1+1+1<=wr.heap.size/\Hs (i7 wr (w.heap.size+1+1) t a k d (Ha I<|X.ps.take k))/\Hs (wr.cell? (Hk (w.heap.size+1) 0)=some (Hp 0)/\wr.cell? (Hk (w.heap.size+1) 1)=some Hq/\∀o,wr.frozen? (Hk (w.heap.size+1) o)=false)) λr _=>X.ps.length-(intOf r).toNat
 case atStart=>exact⟨0,none,0,aN _,rfl,Xa ao,sP,Xa (by simpa [Ha]using ar),Xa ⟨by simp[go_sem],by simp[go_sem],λo=>by simp[go_sem]⟩⟩
 obtain⟨k,a,d,hk,rfl,C,ca,g,M⟩:=hrel;clear ao ar a5 E0 e0;by_cases P:k<X.ps.length
 .obtain⟨b',o',rfl,⟨_,bx⟩,aa,cc,g0,g1,aj⟩:=a1 k P;let⟨⟨d0,d1⟩,a6,a8⟩:=FL<|bd k P;have R:Ha I (X.ps.take<|k+1)=Ha I (X.ps.take k)++[(X.ps[k].dst,X.ps[k].args.getD I 0)]:=by unfold Ha;rw[X7 _ _ P,bG];rfl
  have ad:I<X.ps[k].args.length:=oN hI.o;have af:X.ps[k].args.getD I 0=X.ps[k].args[I]:=by simp[ad]
  rw[af]at R;obtain⟨h,U,rfl,⟨_,b0⟩,h3⟩:=aj I ad;have G0:=(XU C oM).trans g0;have G1:=(XU C oM).trans g1;have G3:=(XU C oM).trans h3;have az:=Xa R;have bw:X.ps[k].args.length<=1048576:=oM;clear R af aj a8 a6 h3 g0 g1;generalize X.ps[k].args[I]=G at*;generalize X.ps[k].args.length=al at*;generalize X.ps[k].dst=u at*;generalize Ha I (X.ps.take k)=TS at*;have c3:=λx y=>oB (Xb (Xb (Below.refl wr.heap.size wr) x).drew y) G3 oM;have m1:=λx y=>oB (Xb (Xb (Below.refl wr.heap.size wr) x).drew y) g.c1 oM;have mz:=λx y o=>((Xb (Xb (Below.refl wr.heap.size wr) x).drew y).frozen (p:=Hk (w.heap.size+1+1) o) (by show w.heap.size+1+1<_;omega)).trans (g.fz o);have br:=λx=>oB ((Xb (Below.refl wr.heap.size wr) x).drew) g.c1 oM;have m2:∀x y,((wr.alloc x).alloc y).cell? (Hk (w.heap.size+1+1) 1)=some (.slice a k d):=m1;have m3:∀x,(wr.alloc x).cell? (Hk (w.heap.size+1+1) 1)=some (.slice a k d):=br;have ab:=λx y=>Zl g.own λb f=>((Xb (Xb (Below.refl wr.heap.size wr) x).drew y).block b (g.own.lt b f).2);have bc:∀q,wr.heap.size<=q->some q≠(Value.slice a k d).ownBlock:=λq hq f=>by have:=(g.own.lt q f.symm).2;omega
  have Q:∀q,q<w.heap.size+1+1+1->some q≠(Value.slice a k d).ownBlock:=λq hq f=>by have:=(g.own.lt q f.symm).1;omega
  have HP:∀(x y:Obj)(j i:Nat)(e:World),e.ownsRow (w.heap.size+1+1+1) 190 2 (Hl j (k+1) i) (k+1) (dz TS++[Hp u,Hp G])->(((wr.alloc x).drew).alloc y).grownBy e (Value.slice a k d).ownBlock ->
   i7 (e.setCell (Hk (w.heap.size+1+1) 1) (Hl j (k+1) i)) (w.heap.size+1+1) t (some ⟨j,0,none⟩) (k+1) i (TS++[(u,G)])/\Below w.heap.size w e/\e.heap[w.heap.size+1]?=wr.heap[w.heap.size+1]?/\wr.heap.size<=e.heap.size:=λx y j i e ho L=>by
   have J:=Xb (Xb (Below.refl wr.heap.size wr) x).drew y;have b5:=L.size;have b4:=J.size;exact⟨g.push J oM ho L,Xy (C.trans<|J.mono oM) L (ab x y) oM oM,(L.block _ oM<|Q _ oM).trans (J.block _ oM),oM⟩
  have n1:wr.heap.size≠h:=oM;have n2:h≠wr.heap.size:=oM;have n3:w.heap.size+1+1≠h:=oM;have n4:h≠w.heap.size+1+1:=oM;have n5:w.heap.size+1+1≠wr.heap.size:=oM;have n6:wr.heap.size≠w.heap.size+1+1:=oM;have bv:=hI.o;go_wp2;refine Y7 (λp=>p.cell? (Hk wr.heap.size 0)=some (Hp u)/\p.cell? (Hk wr.heap.size 1)=some (Hm h U al cc)/\p.cell? (Hk h<|U+I)=some (Hp G)) λhHeld=>?_;refine Xn 0 ?_;refine Xn 2 ?_;refine Xn 3 ?_;refine Xn 4 ?_;refine Xn 5 ?_;refine Xn 6 ?_;refine Xn 7 ?_;refine Xn 8 ?_;refine Xn 9 ?_;refine eS (rs:=[1,10]) kR sP ?_;refine(bQ rfl (λK hK=>?_) (bQ rfl (λK hK=>?_) dY))
  focus
   go_simp;refine hK _ _ (by first|exact hHeld|((try dsimp only);go_keep)) λhHeld=>?_;clear hK
   try simp only[xX]
   refine eS (rs:=[10]) kR sP ?_
  rotate_left
  focus
   go_simp;refine hK _ _ (by first|exact hHeld|((try dsimp only);go_keep)) λhHeld=>?_;clear hK
   try simp only[xX]
   refine eS (rs:=[1]) kR sP ?_
  all_goals (
   refine bQ rfl (λK hK=>?_) dY;go_simp;refine hK _ _ (by first|exact hHeld|((try dsimp only);go_keep)) λhHeld=>?_;clear hK
   try simp only[xX]
   refine Xs 11 λK hK=>?_;refine step_append_lies _ rfl (.tmp 33) (.tmp 42) 185 rfl (w.heap.size+1+1+1) 190 i0 (.agg #[Hp 0,Hp 0]) 2 16 underlying185 a9 bn bo bp rfl vZ (.slice a k d) k (dz TS) (by simp[Act.eval]) (ab _ _) (Hk (wr.heap.size+1) 0) 1 1 [Hp u,Hp G] (by simp[Act.eval]) rfl ?_ (by intro bt hu;simp at hu;rcases hu with rfl|rfl<;>rfl) vZ (by unfold maxLen;omega) oM (by simp;omega) (wr.heap.size+1+1) sP ?_
   .intro bq bt m
    match bq,m with
    |0,m=>simp at m;subst m;simp[Addr.add,go_sem]
    |1,m=>simp at m;subst m;simp[Addr.add,go_sem]
   intro j i e ap B a7 bb;have H:=Xa<|HP _ _ j i e ap B;obtain⟨O,-⟩:=o7 B (k:=wr.heap.size) (by simp<;>omega) (bc _ oM);obtain⟨f3,-⟩:=o7 B (k:=h) (by simp<;>omega) (Q _ oM);let⟨f1,e1⟩:=o7 B (k:=w.heap.size+1+1) (by simp<;>omega) (Q _ oM);have kx:Cl e wr.heap.size 0 (Hp u):=(O 0).trans (by simp[go_sem]);have ky:Cl e wr.heap.size 1 (Hm h U al cc):=(O 1).trans (by simp[go_sem]);have kz:=(f3 _).trans (c3 _ _);have k1:=(f1 1).trans (m1 _ _);have z1:=λo=>(e1 o).trans (mz _ _ o)
   clear O f1 f3 e1 ap B a7 bb;refine hK _ _ (by first|exact hHeld|((try dsimp only);go_keep)) λhHeld=>?_;clear hK;refine Xn 12 ?_;refine Xs 13 λK hK=>?_;go_simp;refine hK _ _ (by first|exact hHeld|((try dsimp only);go_keep)) λhHeld=>?_;clear hK;refine Yq ?_;go_wp2;have S:(e.setCell (Hk (w.heap.size+1+1) 1) (Hl j (k+1) i)).heap[w.heap.size+1]?=wr.heap[w.heap.size+1]?:=(Below.heap_setCell _ _ _ _<|by show w.heap.size+1≠w.heap.size+1+1;omega).trans H.2.2.1;exact⟨⟨k+1,some<|Hk j 0,i,oM,gM,Xa (H.2.1.setCell (by show w.heap.size<=w.heap.size+1+1;omega) _),by have:=H.2.2.2;simp only[Xd];omega,Xa (by rw[az.o];exact H.1),Xa ⟨(Xc S).trans M.1,(Xc S).trans M.2.1,λo=>(bJ S).trans (M.2.2 o)⟩⟩,by simp[intOf];omega⟩)
 have ba:k=X.ps.length:=oM;subst ba;let⟨m0,m1,mz,T⟩:=g.o;let⟨Y,r1,rz⟩:=M.o;have HO:=λx y=>Zl (w':=(wr.setCell (Hk (w.heap.size+1) 0) x).setCell (Hk (w.heap.size+1) 1) y) T (λb f=>by have:=(T.lt b f).1;rw[Below.heap_setCell _ _ _ _ (by dsimp only;omega),Below.heap_setCell _ _ _ _<|by dsimp only;omega]);have a0:=Xa HO;clear HO T;go_wp2;refine cC (v:=.agg #[Hp t,.slice a X.ps.length d]) (by simp[results,results106,go_sem,Y,r1]) rfl ⟨a,d,rfl,(C.setCell (by show w.heap.size<=w.heap.size+1;omega) _).setCell (by show w.heap.size<=w.heap.size+1;omega) _,?_⟩;have A:=FC<|a0 (Hp t) (.slice a X.ps.length d);rw[gC]at A;rw[a4];exact A.mono oM<|aA _
section
theorem vH{w:World}{b d t e:Nat}{f g:Array Value}(h:Bx w b f t)(k:Bx w d g e)(j:t≠e):b≠d:=λi=>by
 subst i;unfold Bx at h k;rw[h]at k;injection k with k;injection k with _ k;exact j k
theorem XW.below{w w':World}{lab:Nat->Nat×Nat×Nat}{d:Nat}(h:Below w.heap.size w w'):XW w w' lab lab d (λ_=>True) :=
 ⟨h.size,λb _ e _=>⟨h.block b e,rfl⟩,λg b f=>g b<|aJ h.size f⟩
variable {w wr w': World} {lab lab': Nat -> Nat×Nat×Nat} {V: Int} {a: Option Addr} {n c: Nat} {k: Int} {mb: Nat} {mv sv: Value} {M S: List ag} {iv jv: Nat -> Value} {ok: Nat -> Prop}
variable {xb: Nat} {xv v8: Value} {is: List Yg} {t: Yj} {w8: World}
end
theorem Nj:(prog.info? 43).map (λi=>(i.zero,i.size,i.bytes))=some (some<|.agg #[Hq,Hp 0,Hp 0,Hp 0,Hp 0],5,56):=kR
theorem uL(b:Int):∀(a:List Xe)(i k:Nat)(h:k<a.length),b∈a[k].te.tg->((i+k:Nat):Int)∈AQ a i b
 |[],_,_,h,_=>absurd h sP
 |x::a,i,k,h,hb=>by
  rw[AQ,bU];cases k with
  |zero=>left;simp only[eM]at hb;simp[hb]
  |succ k=>
   right;have:=uL b a (i+1) k (by simpa using h) (by simpa using hb);rwa[show i+1+k=i+(k+1) by omega]at this
theorem pE(a:List Mv):(dv a).length<=128:=by
 by_cases b:cy a=true
 .let⟨c,d⟩:=uG b;unfold dv;rw[aU b];refine aJ (oY _ _) ?_;have:(dg a).length<=a.length:=fJ _ _;omega
 unfold dv;rw[aM b];exact aN _
section
theorem uR{b:Type}(f:Nat->b->List Value):∀(M S:List b)(k:Nat),Yu f k (M++S)=Yu f k M++Yu f (k+M.length) S
 |[],S,k=>by simp[Yu]
 |m::M,S,k=>by
  show f k m++Yu f (k+1) (M++S)=f k m++Yu f (k+1) M++_;rw[uR f M S<|k+1,cK,bA,show k+1+M.length=k+(M.length+1) by omega]
theorem uS{b:Type}(f g:Nat->b->List Value):∀(S:List b)(k j:Nat),(∀i x,f (k+i) x=g (j+i) x)->Yu f k S=Yu g j S
 |[],_,_,_=>rfl
 |x::S,k,j,h=>by
  show f k x++Yu f (k+1) S=g j x++Yu g (j+1) S;rw[show f k x=g j x from h 0 x,uS f g S (k+1) (j+1) λi x=>by rw[show k+1+i=k+(i+1) by omega,show j+1+i=j+(i+1) by omega];exact h _ x]
variable {w wr w8: World} {lab: Nat -> Nat×Nat×Nat} {V: Int} {a: Option Addr} {n c: Nat} {k: Int} {mb: Nat} {mv sv v8: Value} {M S: List ag} {iv jv: Nat -> Value}
end
def fu(a:List Int):Option Value->Value
 |some (.int .i64 z)=>.int .i64 (Ht a z)
 |_=>.int .i64 0
def recW(cs:List Int)(g:Nat)(a:List Nat)(w:World):World:=a.foldl (λW o=>W.drew.setCell ⟨g,o,none⟩ (fu cs<|W.cell? ⟨g,o,none⟩)) w
theorem Qz(a:List Int)(g:Nat)(b:List Nat)(o:Nat)(w:World):recW a g (b++[o]) w=(recW a g b w).drew.setCell ⟨g,o,none⟩ (fu a<|(recW a g b w).cell? ⟨g,o,none⟩):=by
 unfold recW;rw[dT];rfl
theorem jp(c:List Int)(g:Nat){b:Nat}(d:b≠g):∀(a:List Nat)(w:World),(recW c g a w).heap[b]?=w.heap[b]?
 |[],_=>rfl
 |o::a,w=>by
  show(recW c g a _).heap[b]?=_;rw[jp c g d a];exact Below.heap_setCell w.drew _ _ _ d
theorem lh(c:List Int)(g:Nat){B:Nat}(d:B<=g):∀(a:List Nat){b w:World},Below B b w->B<=b.heap.size->Below B b (recW c g a w)
 |[],_,_,h,_=>h
 |o::a,_,_,h,hB=>lh c g d a (h.drew.setCell (p:=⟨g,o,none⟩) d _) hB
def io(a:List Int)(b:List Nat)(A:List Value):List Value:=b.foldl (λA o=>A.set o<|fu a A[o]?) A
theorem Xv.recW{e:Nat->Nat×Nat×Nat}{L:Nat×Nat×Nat}{d t f g n c:Nat}{cs:List Int}:∀(a:List Nat){w:World}{A:List Value},Xv w e L d t f (Hl g n c) n A->(∀o∈a,o<A.length)->Xv (recW cs g a w) e L d t f (Hl g n c) n (io cs a A)
 |[],_,_,h,_=>h
 |o::a,w,A,h,hl=>by
  have l:Xv w.drew e L d t f (Hl g n c) n A:=h.keep λb _ _ j=>⟨rfl,j⟩;have i:=hl o sP;have k:w.cell? ⟨g,o,none⟩=A[o]?:=by rw[aC i];exact h.cell<|aC i
  have m:=l.set o<|fu cs A[o]?;have:=Xv.recW a m (cs:=cs) (λq hq=>by rw[bL];exact hl q<|by simp[hq]);show Xv (Go.Proofs.YtffcajcgkblkoaaGreatDoor.recW cs g a (w.drew.setCell ⟨g,o,none⟩ (fu cs<|w.cell? ⟨g,o,none⟩))) _ _ _ _ _ _ _ _;rw[k];exact this
theorem uF(e g:Nat)(D f1 f3 f4 f5:Value)(i:Option Addr)(h k:Nat)(b:List Int)(S x:Nat)(E:Option Addr)(n c:Nat)(a:List Nat)(L B:Nat)(w:World)(H:Hs (Bx w e #[D,f1,.slice i h k,f3,f4,f5] 74))(I:e≠g)(V:Hs (Xf w S x i b))(W:Hs (h=b.length))(U:x<=g)(aq:g<L)(hB:B<=w.heap.size)(hL:L<=B)
 (Y:Hs (Zx w L B E<|a.map λo=>Tx<|Hk g o)) (J:Hs (n=a.length)) (a1:n<=1000) (hz:∀q,w.frozen? (Hk g q)=false)
 (Z:Hs (∀j (l:j<a.length),∃z:Nat,(recW b g (a.take j) w).cell? (Hk g<|a[j])=some (Hp z)/\z<b.length)) :
 Calls prog 59 #[Hn e,.slice E n c] w λs p=>s=.returned (.tuple #[])/\p=recW b g a w:=by
 have az:=H.lt;have Q:Hs (∀j q,(recW b g (a.take j) w).frozen? (Hk g q)=false):=Xa (λj q=>by
  have ad:∀(a:List Nat)(w:World),(∀q,w.frozen? (Hk g q)=false)->(recW b g a w).frozen? (Hk g q)=false:=by
   intro a
   induction a with
   |nil=>intro w l;exact l q
   |cons o a ih=>intro w l;exact ih _ λq=>by rw[eX];exact l q
  exact ad _ w hz)
 go_in
 go_wp2
 go_loopw [8] (λu wr=>∃j:Nat,j<=n/\u=Hp j/\Hs (wr=recW b g (a.take j) w)) λu _=>n-(intOf u).toNat
 case atStart=>exact⟨0,aN _,rfl,Xa rfl⟩
 obtain⟨j,hj,rfl,d⟩:=hrel;by_cases a0:j<n
 .have t:j<a.length:=oN J.o;have A:Hs (recW b g (a.take<|j+1) w=(recW b g (a.take j) w).drew.setCell (Hk g<|a[j]) (fu b<|(recW b g (a.take j) w).cell? (Hk g<|a[j]))):=Xa (by rw[bN t,Qz]);let⟨z,N,a4⟩:=Z j t;obtain⟨v,po,rfl,⟨a2,a3⟩,m⟩:=Y j (by simpa using t);rw[cM]at m;unfold Tx at m;have M:=(fI (λ(o:Option Obj)=>o) (jp b g (b:=v) oM (a.take j) w));have F:Bx wr e #[D,f1,.slice i h k,f3,f4,f5] 74:=H.keep (by rw[d.o];exact jp b g I _ _);have l2:Cl wr e 2 (.slice i h k):=Bx.cell F rfl;have G:Below g w wr:=by rw[d.o];exact lh b g (aA _) _ (Below.refl _ _) oM
  have kp:wr.cell? (Hk v<|po+j)=some (Ho g<|a[j]):=by rw[<-m];exact Xc<|by rw[d.o];exact M
  obtain⟨r,C,f,aa,ax,rfl,af,aj⟩:=pt (V.keep<|G.mono U) (v:=(z:Int)) oM oM;have ab:f=z:=oM;subst ab;have O:wr.cell? (Hk g<|a[j])=some (Hp f):=by rw[d.o];exact N
  have y:Hs (recW b g (a.take<|j+1) w=wr.drew.setCell (Hk g<|a[j]) (Hp<|Ht b (f:Int))):=Xa (by rw[A.o,<-d.o,O];rfl);have ay:(f:Int)<(h:Int):=oN W.o;have T:wr.frozen? (Hk g<|a[j])=false:=by rw[d.o];exact Q j _
  have ap:g≠v:=oM;have ao:g≠r:=oM;have al:g≠e:=λs=>I s.symm;generalize Ht b (f:Int)=z1 at*;let⟨P,K⟩:∃P,P=a[j]:=⟨_,rfl⟩;rw[<-K]at kp O y T;clear F G M m N A K aa;go_wp2;refine Y7 (λp=>p.cell? (Hk e 2)=some (Hm r C h k)/\p.cell? (Hk r<|C+f)=some (Hp z1)) λhHeld=>?_;refine Xn 0 ?_;refine Xn 1 ?_;refine Xn 2 ?_;refine Xn 3 ?_;refine Xn 4 ?_;refine Xn 5 ?_;refine Xn 6 ?_;refine Xs 7 λR hK=>?_;go_simp;refine hK _ _ kP λhHeld=>?_;clear hK;refine Xn 8 ?_;refine Xn 9 ?_;refine Xn 10 ?_;refine Xs 11 λR hK=>?_;go_simp;refine hK _ _ kP λhHeld=>?_;clear hK;refine Yq ?_;clear hHeld;go_wp2;exact⟨⟨j+1,oM,gM,Xa y.symm⟩,by simp[intOf];omega⟩
 have X:j=a.length:=oN J.o;have ar:¬(j:Int)<(n:Int):=oM;go_wp2_with fail
 refine bodyPost_end (v:=.tuple #[]) (by simp[results,results59,go_sem]) rfl ⟨rfl,?_⟩;rw[d.o,X,gC]
section
open Go.Lib
theorem Fo(b o k:Nat)(w:World)(z:w.cell? (Hk b o)=some (Hp k))(G:1<=k)(H:k<=13)(v:Hs (Yy w)) :
 Calls prog 60 #[Ho b o] w λg h=>∃A,g=.returned A/\Below w.heap.size w h/\h.ownsRow w.heap.size 176 1 A (Yd [dB (k:Int),aB (k:Int),bB (k:Int)] [(Hk b<|o+1),(Hk b<|o+2),(Hk b<|o+3)]).length ((Yd [dB (k:Int),aB (k:Int),bB (k:Int)] [(Hk b<|o+1),(Hk b<|o+2),(Hk b<|o+3)]).map Tx):=by
 obtain⟨c0,c1,c2,c3,c4⟩:=v.2 k G H;have Q:=v.1;have O:b<w.heap.size:=aI w _ z;generalize dB (k:Int)=e at*;generalize aB (k:Int)=c at*;generalize bB (k:Int)=d at*;generalize iB (k:Int)=M at*
 go_in
 go_wp2_with fail
 have I:(λi:World=>i.heap.size=w.heap.size+1/\i.cell? (Hk w.heap.size 1)=some (.bool e)/\i.cell? (Hk w.heap.size 2)=some (.bool c)/\i.cell? (Hk w.heap.size 3)=some (.bool d)/\Hs (Below w.heap.size w i)) (w.alloc<|.cells #[.string (K8<|mp k),.bool e,.bool c,.bool d,.bool M] 174):=⟨sP,sP,sP,sP,Xa<|Xb (Below.refl _ _) _⟩;generalize w.alloc _=a at*;obtain⟨e1,D,E,F,r⟩:=I;clear z c0 c1 c2 c3 c4;have N:=Xa e1;have p:w.heap.size<a.heap.size:=oM;clear e1;have n:Hs (∀(m j:Option Addr)(W:World),Below a.heap.size a W->Zx W a.heap.size W.heap.size m ([e,c,d].map Value.bool)->Zx W a.heap.size W.heap.size j ([(Hk b<|o+1),(Hk b<|o+2),(Hk b<|o+3)].map Tx)->Calls prog 100 #[.slice m 3 3,.slice j 3 3] W λg f=>∃v5,g=.returned v5/\f.cell? (Hk w.heap.size 1)=some (.bool e)/\f.cell? (Hk w.heap.size 2)=some (.bool c)/\f.cell? (Hk w.heap.size 3)=some (.bool d) /\
  Hs (Below w.heap.size w f)/\Hs (f.ownsRow w.heap.size 176 1 v5 (Yd [e,c,d] [(Hk b<|o+1),(Hk b<|o+2),(Hk b<|o+3)]).length ((Yd [e,c,d] [(Hk b<|o+1),(Hk b<|o+2),(Hk b<|o+3)]).map Tx))):=Xa (λm j W t J L=>by
  have P:=t.size;refine(UA m j 3 3 [e,c,d] [(Hk b<|o+1),(Hk b<|o+2),(Hk b<|o+3)] a.heap.size W.heap.size W (aA _) (Xa J) (Xa L) (Xa rfl) sP).mono ?_;rintro g f⟨v5,rfl,u,K⟩;have s5:=u.size;have l:=Xg t u;exact⟨v5,rfl,oB l D p,oB l E p,oB l F p,Xa<|r.trans (l.mono oM),Xa<|Zk K oM⟩)
 have e2:∀x y,((a.alloc x).alloc y).drew.heap.size=a.heap.size+2:=λx y=>by show((a.alloc x).alloc y).heap.size=_;simp
 have B:=Xa (n.o (some ⟨a.heap.size,0,none⟩) (some ⟨a.heap.size+1,0,none⟩) ((a.alloc<|.cells #[.bool e,.bool c,.bool d] 4).alloc (.cells #[Ho b<|o+1,Ho b<|o+2,Ho b<|o+3] 176)).drew (Xb (Xb (Below.refl a.heap.size a) _) _).drew (by rw[e2];exact J7 a [.bool e,.bool c,.bool d] 4 [Ho b<|o+1,Ho b<|o+2,Ho b<|o+3] 176) (by rw[e2];exact J6 a [Ho b<|o+1,Ho b<|o+2,Ho b<|o+3] 176 [.bool e,.bool c,.bool d] 4));have C:=Xa (n.o (some ⟨a.heap.size+1,0,none⟩) (some ⟨a.heap.size,0,none⟩) ((a.alloc<|.cells #[Ho b<|o+1,Ho b<|o+2,Ho b<|o+3] 176).alloc (.cells #[.bool e,.bool c,.bool d] 4)).drew (Xb (Xb (Below.refl a.heap.size a) _) _).drew (by rw[e2];exact J6 a [.bool e,.bool c,.bool d] 4 [Ho b<|o+1,Ho b<|o+2,Ho b<|o+3] 176) (by rw[e2];exact J7 a [Ho b<|o+1,Ho b<|o+2,Ho b<|o+3] 176 [.bool e,.bool c,.bool d] 4));clear n r e2
 go_region_held3 (λh=>h.cell? (Hk w.heap.size 1)=some (.bool e)/\h.cell? (Hk w.heap.size 2)=some (.bool c)/\h.cell? (Hk w.heap.size 3)=some (.bool d)) (go_keep)
  (first
   |(go_at_call 100;with_reducible refine B.o.mono ?_;rintro g f⟨v5,rfl,f1,f2,f3,q,s⟩)
   |(go_at_call 100;with_reducible refine C.o.mono ?_;rintro g f⟨v5,rfl,f1,f2,f3,q,s⟩))
 all_goals
  go_wp2;go_ret;exact⟨_,rfl,q,s⟩
theorem Gp{c:Addr}{a:List Yg}(h:YY w n m (some c) a):∀(j:Nat)(u:Value),(ZP a)[j]?=some u->w.cell? (c.add j)=some u:=by
 intro j u b;have f:j<(ZP a).length:=by
  rcases mL j (ZP a).length with h|h;·exact h
  rw[dK h]at b;cases b
 have d:j/5<a.length:=by rw[i8]at f;omega
 let⟨g,o,e,_,c0,c1,c2,c3,c4⟩:=h (j/5) d;cases e;have e2:=Xz (sz:=5) (f:=λ_ (x:Yg)=>[Hp x.op,Hp x.dst,Hp x.a,Hp x.b,Hp x.imm]) (λ_ _=>rfl) 0 a (j/5) d (j%5) (dS _ oM);rw[<-o9 a 0,show j/5*5+j%5=j by omega,b]at e2;have ha:((Hk g o):Addr).add j=(Hk g<|o+j):=by cases j<;>simp[Addr.add]
 rw[ha];have i:j%5=0\/j%5=1\/j%5=2\/j%5=3\/j%5=4:=oM;rcases i with q|q|q|q|q<;>rw[q]at e2<;>cases e2;·rw[show o+j=o+j/5*5 by omega];exact c0
 .rw[show o+j=o+j/5*5+1 by omega];exact c1
 .rw[show o+j=o+j/5*5+2 by omega];exact c2
 .rw[show o+j=o+j/5*5+3 by omega];exact c3
 rw[show o+j=o+j/5*5+4 by omega];exact c4
theorem FA(b:Option Addr)(n c:Nat)(a:List Yg)(L B:Nat)(w:World)(j:Hs (YY w L B b a))(k:Hs (n=a.length))(I:n<=1048576)(u:B<=w.heap.size) :
 Calls prog 58 #[.slice b n c] w λe l=>∃v,e=.returned v/\Below w.heap.size w l/\l.ownsRow w.heap.size 48 5 v a.length (ZP a):=by
 let⟨E,y,A,C,D⟩:=fX Nm;have K:∀(w:World)(b:Option Addr)(n c f d:Nat),(binOp .eql 38 (.slice b n c) (.slice none f d)).run prog w=.ok (.bool b.isNone) w:=λw b n c f d=>Lib.run_eql_slice_nil w _ _ b n c f d underlying38;cases b with
 |none=>
  have t:a=[]:=by
   cases a with
   |nil=>rfl
   |cons N M=>let⟨H,J,e,_⟩:=j 0 sP;cases e
  subst t
  go_in
  go_wp2;go_ret;exact⟨_,rfl,Below.refl _ _,dA _ _ _ _⟩
 |some s=>
  have r:=Xa<|vA a;have o:=Xa<|i8 a;have g:Hs ((w.alloc<|.cells #[] 48).ownsRow w.heap.size 48 5 (Hl w.heap.size 0 0) 0 []):=Xa (by
   have:=eI (base:=w.heap.size) (e:=48) (size:=5) w #[] 0 sP sP rfl;simpa using this)
  have p:=Xa<|Gp (j.keep<|Below.alloc (Below.refl B w) u (.cells #[] 48))
  go_in
  go_wp2_with (at_builtin;refine bT _ rfl _ _ 38 rfl w.heap.size 48 E (.agg #[Hp 0,Hp 0,Hp 0,Hp 0,Hp 0]) 5 40 underlying38 y A C D rfl vZ _ 0 [] rfl g s n c (ZP a) rfl ?v1 p ?v2 ?v3 ?v4 ?v5 ?_)
  case v1=>rw[o.o,k.o]
  case v2=>exact r
  case v3=>unfold maxLen;omega
  case v4=>omega
  case v5=>simp
  intro F G i h z x;have m:=Xa<|Xy (Below.alloc (Below.refl _ _) (aA _) _) h g (aA _) sP;have q:Hs (G.ownsRow w.heap.size 48 5 F a.length<|ZP a):=Xa (by rw[<-k.o];simpa using i);go_wp2;go_ret;exact⟨_,rfl,m,q⟩
end
def E1:List Bool->List Nat->List Nat
 |k::ks,p::ps=>if k then p::E1 ks ps else E1 ks ps
 |_,_=>[]
theorem o8(g:Nat):∀(a:List Bool)(b:List Nat),(Yd a<|b.map λo=>⟨g,o,none⟩).map Tx=(E1 a b).map λo=>Tx ⟨g,o,none⟩
 |[],_=>by simp[Yd,E1]
 |k::a,[]=>by simp[Yd,E1]
 |k::a,o::b=>by cases k<;>simp[Yd,E1,o8 g a b]
theorem vk(a:List Int)(P:List Value):∀(b:List Nat)(R:List Value),io a (b.map λo=>P.length+o) (P++R)=P++io a b R
 |[],_=>rfl
 |o::b,R=>by
  show io a (b.map λo=>P.length+o) ((P++R).set (P.length+o) (fu a (P++R)[P.length+o]?))=P++io a b (R.set o<|fu a R[o]?);rw[List.set_append_right _ _ oM,eV oM,Nat.add_sub_cancel_left,vk a P b]
theorem Gj(a:List Int)(x:Yg)(S:List Value):io a (E1 [dB x.op,aB x.op,bB x.op] [1,2,3]) (Yg.cells x++S)=Yg.cells (ZR a x)++S:=by
 unfold ZR Yg.cells;cases dB x.op<;>cases aB x.op<;>cases bB x.op<;>rfl
theorem uK(A:List Yg)(x:Yg)(B:List Yg):ZP (A++x::B)=ZP A++(Yg.cells x++ZP B):=by rw[ll,pi];rfl
theorem Gu(a:List Int)(A:List Yg)(x:Yg)(B:List Yg):io a (E1 [dB x.op,aB x.op,bB x.op] [A.length*5+1,A.length*5+2,A.length*5+3]) (ZP (A++x::B))=ZP (A++ZR a x::B):=by
 have e:E1 [dB x.op,aB x.op,bB x.op] [A.length*5+1,A.length*5+2,A.length*5+3]=(E1 [dB x.op,aB x.op,bB x.op] [1,2,3]).map λo=>(ZP A).length+o:=by
  rw[i8];cases dB x.op<;>cases aB x.op<;>cases bB x.op<;>rfl
 rw[e,uK,vk,Gj,<-uK]
theorem uH(b:List Int)(g:Nat){q:Nat}:∀(a:List Nat)(w:World),q∉a->(recW b g a w).cell? (Hk g q)=w.cell? (Hk g q)
 |[],_,_=>rfl
 |o::a,w,h=>by
  show(recW b g a _).cell? _=_;rw[uH b g a _ λc=>h<|cN _ c];have:o≠q:=λe=>h (by rw[e];exact cI);exact cJ w.drew _ _ _ λe=>this<|by injection e
theorem vC{cs:List Int}(h:∀o∈s,∃z:Nat,w.cell? (Hk g o)=some (Hp z)/\z<cs.length)(c:s.Nodup):∀j (h:j<s.length),∃z:Nat,(recW cs g (s.take j) w).cell? (Hk g<|s[j])=some (Hp z)/\z<cs.length:=λj f=>by
 let⟨z,a,b⟩:=h _<|aH f;refine⟨z,?_,b⟩;rw[uH cs g _ _ λi=>?_];·exact a
 let⟨k,d,e⟩:=bR i;rw[jG]at e;rw[dH]at d;have:=(List.getElem_inj c).1 e;omega
theorem GR(g:n=l.length){x:Yg}(a:∀v∈Ft x,0<=v/\v<n)(c:∀v∈BW x,0<=v/\v<n)(e:Jk w m k x):∀q∈E1 [dB x.op,aB x.op,bB x.op] [k+1,k+2,k+3],∃z:Nat,w.cell? (Hk m q)=some (Hp z)/\z<l.length:=by
 let⟨_,c1,c2,c3,_⟩:=e;have b:∀(v:Int)(q:Nat),w.cell? (Hk m q)=some (Hp v)->0<=v/\v<n->∃z:Nat,w.cell? (Hk m q)=some (Hp z)/\z<l.length:=λv q d h=>⟨v.toNat,by rw[d];congr 2;omega,oM⟩
 unfold Ft at a;unfold BW at c;intro q hq;have f:(dB x.op=true/\q=k+1)\/(aB x.op=true/\q=k+2)\/(bB x.op=true/\q=k+3):=by
  revert hq;cases dB x.op<;>cases aB x.op<;>cases bB x.op<;>simp[E1]
 rcases f with⟨hu,rfl⟩|⟨hu,rfl⟩|⟨hu,rfl⟩;·exact b _ _ c1<|c _ (by simp[hu])
 .exact b _ _ c2<|a _ (by simp[hu])
 exact b _ _ c3<|a _ (by simp[hu])
theorem Fx(a b c:Bool)(o:Nat):(E1 [a,b,c] [o+1,o+2,o+3]).Nodup:=by
 cases a<;>cases b<;>cases c<;>simp[E1]
theorem Gs(a b c:Bool)(o:Nat):∀q∈E1 [a,b,c] [o+1,o+2,o+3],o<q/\q<o+4:=by
 cases a<;>cases b<;>cases c<;>simp[E1]<;>omega
structure MV(w0 wr:World)(base ob:Nat)(v:Value)(t:Yj)(ys:List Yg):Prop where
 low:Below base w0 wr
 bx:Bx wr ob #[v,.int .i64 t.kind,.int .i64 t.a,.int .i64 t.to,.int .i64 t.els] 43
 row:wr.ownsRow base 48 5 v ys.length (ZP ys)
 ne:v.ownBlock≠some ob
 le:base<=ob
theorem FG(lb ao:Nat)(f0 f1 f3 f4 f5:Value)(ac:Option Addr)(nc cc:Nat)(d:List Int)(Lc Bc:Nat)(pv:Value)(A:Option Addr)(n E:Nat)(c:List Yg)(k:Nat)(m o te:Int)(bv ay:Nat)(w:World)(a7:Hs (Bx w lb #[f0,f1,.slice ac nc cc,f3,f4,f5] 74))(hc:Hs (Xf w Lc Bc ac d))(bz:Hs (nc=d.length))(bx:Hs (ao=d.length))(bw:Bc<=w.heap.size)(hB:ay<=w.heap.size)
 (hi:Hs (YY w bv ay A c)) (z:Hs (n=c.length)) (ct:n<=4000) (hO:Hs (Yy w)) (hT:Hs (Yb w)) (ci:Hs (∀aj∈c,1<=aj.op/\aj.op<=13)) (ck:Hs (∀aj∈c,(∀v∈Ft aj,0<=v/\v<ao)/\(∀v∈BW aj,0<=v/\v<ao))) (ce:1<=k) (cf:k<=3) (cl:Hs (∀v∈G2 ⟨k,m,o,te⟩,0<=v/\v<ao)) :
 Calls prog 25 #[Hn lb,.agg #[pv,.slice A n E,Hp k,Hp m,Hp o,Hp te]] w λg f=>∃v,g=.returned (.agg #[v,Hp k,Hp (II d ⟨k,m,o,te⟩).a,Hp o,Hp te])/\Below w.heap.size w f/\f.ownsRow w.heap.size 48 5 v n (ZP<|c.map (ZR d)):=by
 have bm:=Xa λW (Q:Below w.heap.size w W)=>FA A n E c bv ay W (Xa<|hi.keep (Q.mono hB)) z oM (oN Q.size)
 go_in
 go_wp2_with fail
 have ca:(λx9:World=>Hs (Below w.heap.size w x9)/\Bx x9 w.heap.size #[pv,.slice A n E,Hp k,Hp m,Hp o,Hp te] 46/\Bx x9 (w.heap.size+1) #[Hq,Hp 0,Hp 0,Hp 0,Hp 0] 43/\Hs (x9.heap.size=w.heap.size+2)) ((w.alloc<|.cells #[pv,.slice A n E,Hp k,Hp m,Hp o,Hp te] 46).alloc (.cells #[Hq,Hp 0,Hp 0,Hp 0,Hp 0] 43)):=⟨Xa<|Xb (Xb (Below.refl _ _) _) _,(Bx.new _ _ _).box _,((by have:=Bx.new (w.alloc<|.cells #[pv,.slice A n E,Hp k,Hp m,Hp o,Hp te] 46) #[Hq,Hp 0,Hp 0,Hp 0,Hp 0] 43;rw[aO]at this;exact this)),(Xa sP)⟩;generalize (w.alloc _).alloc _=a at*;obtain⟨az,R,K,br⟩:=ca;have af:w.heap.size<a.heap.size:=oN br.o;have c1:Cl a w.heap.size 1 (.slice A n E):=Bx.cell R rfl;have c2:Cl a w.heap.size 2 (Hp k):=Bx.cell R rfl;have c3:Cl a w.heap.size 3 (Hp m):=Bx.cell R rfl;have c4:Cl a w.heap.size 4 (Hp o):=Bx.cell R rfl;have c5:Cl a w.heap.size 5 (Hp te):=Bx.cell R rfl;have HR:=Xa K
 go_cut [5]from 7 to 31 λc5 wx=>∃(e:Nat)(v:Value),c5=Hn e/\Hs (MV a wx a.heap.size e v ⟨k,m,o,te⟩ c)
 case first=>
  have a6:Hs (∀W,Below a.heap.size a W->Calls prog 58 #[.slice A n E] W λg f=>∃i h,g=.returned (.slice i n h)/\f.cell? (Hk w.heap.size 1)=some (.slice A n E)/\f.cell? (Hk w.heap.size 2)=some (Hp k)/\f.cell? (Hk w.heap.size 3)=some (Hp m)/\f.cell? (Hk w.heap.size 4)=some (Hp o)/\f.cell? (Hk w.heap.size 5)=some (Hp te)/\w.heap.size<f.heap.size/\Hs (Below W.heap.size W f)/\Hs (f.ownsRow W.heap.size 48 5 (.slice i n h) c.length (ZP c))):=Xa (λW Q=>by
   have hs:=Q.size;refine(bm W<|az.trans (Q.mono oM)).mono ?_;rintro g l⟨v5,rfl,r,x⟩;have y:=Xg Q r;obtain⟨i,h,rfl⟩:∃i h,v5=.slice i c.length h:=(Xv.form (lab:=λ_=>(0,0,0)) (L:=(0,0,0)) ⟨x,λ_ _=>rfl⟩);rw[<-z.o]at x |-;exact⟨i,h,rfl,oB y c1 af,oB y c2 af,oB y c3 af,oB y c4 af,oB y c5 af,oN y.size,Xa r,Xa<|by rw[z.o]at x;rw[z.o];exact x⟩)
  have HA:=Xa<|a6.o a.drew (Below.refl a.heap.size a).drew;have aq:Bx (a.alloc<|.cells #[Hq,Hp 0,Hp 0,Hp 0,Hp 0] 43).drew a.heap.size #[Hq,Hp 0,Hp 0,Hp 0,Hp 0] 43:=Bx.new a _ _;have p:=Xa ((a6 (a.alloc<|.cells #[Hq,Hp 0,Hp 0,Hp 0,Hp 0] 43).drew ((Below.refl a.heap.size a).alloc (aA _) _).drew).mono (R':=λg f=>∃i h,g=.returned (.slice i n h)/\f.cell? (Hk w.heap.size 1)=some (.slice A n E)/\f.cell? (Hk w.heap.size 2)=some (Hp k)/\f.cell? (Hk w.heap.size 3)=some (Hp m)/\f.cell? (Hk w.heap.size 4)=some (Hp o)/\f.cell? (Hk w.heap.size 5)=some (Hp te)/\w.heap.size<f.heap.size/\(f.cell? (Hk a.heap.size 0)=some Hq/\f.cell? (Hk a.heap.size 1)=some (Hp 0)/\f.cell? (Hk a.heap.size 2)=some (Hp 0)/\f.cell? (Hk a.heap.size 3)=some (Hp 0)/\f.cell? (Hk a.heap.size 4)=some (Hp 0)/\∀q,f.frozen? (Hk a.heap.size q)=false)/\Hs (Below (a.alloc<|.cells #[Hq,Hp 0,Hp 0,Hp 0,Hp 0] 43).drew.heap.size (a.alloc<|.cells #[Hq,Hp 0,Hp 0,Hp 0,Hp 0] 43).drew f)/\Hs (f.ownsRow (a.alloc<|.cells #[Hq,Hp 0,Hp 0,Hp 0,Hp 0] 43).drew.heap.size 48 5 (.slice i n h) c.length (ZP c))) (by
   rintro g l⟨i,h,rfl,f1,f2,f3,f4,f5,bb,s,P⟩;have H:=aq.keep<|s.block _ aq.lt;exact⟨i,h,rfl,f1,f2,f3,f4,f5,bb,⟨Bx.cell H rfl,Bx.cell H rfl,Bx.cell H rfl,Bx.cell H rfl,Bx.cell H rfl,Bx.thaw H⟩,s,P⟩))
  have cv:a.heap.size≠w.heap.size:=oM;have cw:w.heap.size≠a.heap.size:=oM;have bp:=Xa aq
  go_region_held3 (λf=>f.cell? (Hk w.heap.size 1)=some (.slice A n E)/\f.cell? (Hk w.heap.size 2)=some (Hp k)/\f.cell? (Hk w.heap.size 3)=some (Hp m)/\f.cell? (Hk w.heap.size 4)=some (Hp o)/\f.cell? (Hk w.heap.size 5)=some (Hp te)) (go_keep)
   (first
    |(go_at_call 58;with_reducible refine HA.o.mono ?_;rintro g l⟨i,h,rfl,f1,f2,f3,f4,f5,bb,s,P⟩)
    |(go_at_call 58;with_reducible refine p.o.mono ?_;rintro g l⟨i,h,rfl,f1,f2,f3,f4,f5,bb,⟨z0,z1,z2,z3,z4,zz⟩,s,P⟩))
  .go_wp2;go_meet;have y:=Xg (Below.refl a.heap.size a).drew s;exact⟨_,_,rfl,Xa ⟨y.alloc y.size _,Bx.new _ _ _,World.ownsRow.alloc (w:=l) P _,λg=>by have:=(P.lt _ g).2;omega,y.size⟩⟩
  go_wp2;go_meet;have y:=(((Below.refl a.heap.size a).alloc (aA _) _).drew).trans (s.mono<|by show _<=(a.alloc _).heap.size;simp);have H:=bp.keep<|s.block _ bp.lt;have cm:(a.alloc<|.cells #[Hq,Hp 0,Hp 0,Hp 0,Hp 0] 43).drew.heap.size=a.heap.size+1:=by show(a.alloc _).heap.size=_;simp
  have a2:=P.o;rw[cm]at a2;have J:a.heap.size<a.heap.size+1:=iJ _;exact⟨_,_,rfl,Xa ⟨((((y.setCell (p:=Hk a.heap.size 0) (aA _) _).setCell (p:=Hk a.heap.size 1) (aA _) _).setCell (p:=Hk a.heap.size 2) (aA _) _).setCell (p:=Hk a.heap.size 3) (aA _) _).setCell (p:=Hk a.heap.size 4) (aA _) _,((((H.set 0<|.slice i n h).set 1 (Hp k)).set 2 (Hp m)).set 3 (Hp o)).set 4 (Hp te),Zk (ownsRow_setCell_below (ownsRow_setCell_below (ownsRow_setCell_below (ownsRow_setCell_below (ownsRow_setCell_below a2 (a:=(Hk a.heap.size 0)) J _) (a:=(Hk a.heap.size 1)) J _) (a:=(Hk a.heap.size 2)) J _) (a:=(Hk a.heap.size 3)) J _) (a:=(Hk a.heap.size 4)) J _) (gX _),λg=>by have:=(a2.lt _ g).1;omega,aA _⟩⟩
 obtain⟨e,v,rfl,U⟩:=hcut;obtain⟨i,h,rfl⟩:∃i h,v=.slice i c.length h:=Xv.form (lab:=λ_=>(0,0,0)) (L:=(0,0,0)) ⟨U.row,λ_ _=>rfl⟩;rw[<-z.o]at U;have o0:Cl wc e 0 (.slice i n h):=Bx.cell U.bx rfl;go_wp2
 go_loopw [16] (λbf wr=>∃j:Nat,j<=n/\bf=Hp j/\Hs (MV a wr a.heap.size e (.slice i n h) ⟨k,m,o,te⟩ ((c.take j).map (ZR d)++c.drop j))) λbf _=>n-(intOf bf).toNat
 case atStart=>exact⟨0,aN _,rfl,by simpa using U⟩
 obtain⟨j,hj,rfl,p⟩:=hrel;have o0:Cl wr e 0 (.slice i n h):=Bx.cell p.bx rfl;have D:=Xa<|az.trans (p.low.mono oM);have b1:=p.le;have a9:=p.bx.lt;have b0:=a7.lt;by_cases J:j<n
 .have ap:j<c.length:=oN z.o
  have cr:(j:Int)<(n:Int):=oM;have co:=ci _<|aH ap;have bd:=ck _<|aH ap;have HE:Hs ((c.take j).map (ZR d)++c.drop j=(c.take j).map (ZR d)++c[j]::c.drop (j+1)):=Xa (by rw[gZ ap]);have bn:Hs ((c.take<|j+1).map (ZR d)++c.drop (j+1)=(c.take j).map (ZR d)++ZR d c[j]::c.drop (j+1)):=Xa (by rw[bN ap,bG,cK];rfl);have al:Hs (((c.take j).map (ZR d)).length=j):=Xa (by rw[bK,dH];omega);have L:Hs (((c.take j).map (ZR d)++c.drop j).length=n):=Xa (by rw[aQ,al.o,mF];have:=z.o;omega);obtain⟨t,c',he⟩:=Xv.got (lab:=λ_=>(0,0,0)) (L:=(0,0,0)) ⟨p.row,λ_ _=>rfl⟩ (by rw[L.o];omega);rw[L.o]at he;cases he;have ba:Xv wr (λ_=>(0,0,0)) (0,0,0) a.heap.size 48 5 (Hl t n h) n (ZP<|(c.take j).map (ZR d)++c.drop j):=⟨by have:=p.row;rw[L.o]at this;exact this,λ_ _=>rfl⟩;have I:Jk wr t (j*5) c[j]:=by
   obtain⟨g',o',e',_,I⟩:=Xv.inss (n:=n) (by rw[L.o];exact ba) j (by rw[L.o];exact J);cases e';rw[aV]at I;have e9:((c.take j).map (ZR d)++c.drop j)[j]'(by rw[L.o];exact J)=c[j]:=by
    rw[fN (by rw[al.o];exact aA _),List.getElem_drop];simp only[al.o,kL,fW]
   rw[e9]at I;exact I
  have bq:=Xa ba;have HI:=Xa I;have a0:=Xa<|GR bx bd.1 bd.2 I;have a3:=Xa<|Gu d ((c.take j).map (ZR d)) c[j] (c.drop<|j+1);rw[al.o,<-HE.o,<-bn.o]at a3;have q0:=I.1;generalize c[j]=b3 at*;obtain⟨u,cg⟩:∃u:Nat,b3.op=(u:Int):=⟨b3.op.toNat,oM⟩;rw[cg]at q0 co a0 a3;have a8:=(bq.blk).1;go_wp2_with fail
  refine(Fo t (j*5) u wr q0 oM oM (Xa<|hO.keep D hO.1)).mono ?_;rintro g l⟨v5,rfl,r,x⟩;rw[show([(Hk t<|j*5+1),(Hk t<|j*5+2),(Hk t<|j*5+3)]:List Addr)=[j*5+1,j*5+2,j*5+3].map λbi=>(Hk t bi)from rfl,o8]at x;obtain⟨a5,c5,rfl,ad⟩:=UO x;rw[bK];have s:=Xa r;have X:=Xa<|a7.keep ((r.block _<|oN D.size).trans (D.block _ b0));have a4:=Xa (bq.keep λb _ Z g=>⟨r.block b Z,g⟩);have G:=Xa<|p.bx.keep (r.block _ a9);have T:=Xa<|hc.keep ((D.trans<|r.mono (oN D.size)).mono bw);have V:=Xa (vC (cs:=d) (g:=t) (w:=l) (λq hq=>by
   obtain⟨ax,M,Z⟩:=a0 q hq;exact⟨ax,oB r M a8.2,Z⟩) (Fx _ _ _ _))
  have Y:=Xa ad;have a1:Hs ((E1 [dB (u:Int),aB (u:Int),bB (u:Int)] [j*5+1,j*5+2,j*5+3]).length<=3):=Xa (by cases dB (u:Int)<;>cases aB (u:Int)<;>cases bB (u:Int)<;>simp[E1]);have b5:=Xa<|Gs (dB (u:Int)) (aB (u:Int)) (bB (u:Int)) (j*5);generalize E1 [dB (u:Int),aB (u:Int),bB (u:Int)] [j*5+1,j*5+2,j*5+3]=B at*;go_wp2_with fail
  with_reducible refine(uF lb t f0 f1 f3 f4 f5 ac nc cc d Lc Bc a5 B.length c5 B wr.heap.size l.heap.size l X oM T bz oM a8.2 (aA _) s.o.size Y (Xa rfl) (oN a1.o) (λq=>a4.o.thaw q) V).mono ?_
  rintro g w6⟨rfl,rfl⟩;have b4:Hs (MV a (recW d t B l) a.heap.size e (Hl t n h) ⟨k,m,o,te⟩ ((c.take<|j+1).map (ZR d)++c.drop (j+1))):=Xa (by
   have cb:t≠e:=λg=>p.ne (by rw[<-g];rfl);have ch:((c.take<|j+1).map (ZR d)++c.drop (j+1)).length=n:=by rw[aQ,bK,dH,mF];have:=z.o;omega
   refine⟨lh d t a8.1 B (p.low.trans<|s.mono p.low.size) (aA _),G.keep (jp d t (λg=>cb g.symm) B l),?_,p.ne,b1⟩;rw[ch,<-a3.o];exact(a4.recW B λq hq=>by have:=b5 q hq;rw[i8,L.o];omega).own)
  generalize recW d t B l=C at*;go_wp2;exact⟨⟨j+1,oM,gM,b4⟩,by simp[intOf];omega⟩
 have cd:j=n:=oM
 have cq:¬(j:Int)<(n:Int):=oM;have F:Hs (MV a wr a.heap.size e (.slice i n h) ⟨k,m,o,te⟩ (c.map<|ZR d)):=Xa (by
  have:=p.o;rw[cd,z.o,gC,List.drop_length,fF]at this;rw[z.o];exact this)
 go_wp2_with fail
 have bt:Hs (Va wr e 1 ⟨k,m,o,te⟩):=Xa ⟨Bx.cell F.bx rfl,Bx.cell F.bx rfl,Bx.cell F.bx rfl,Bx.cell F.bx rfl⟩;refine(qd e 1 k m o te wr bt ce cf<|Xa (hT.keep D hT.1)).mono ?_;rintro g l⟨v5,rfl,r,x⟩;rw[show([(Hk e<|1+1)]:List Addr)=[2].map λbi=>(Hk e bi)from rfl,o8]at x;obtain⟨a5,c5,rfl,ad⟩:=UO x;rw[bK];have s:=Xa r;have X:=Xa<|a7.keep ((r.block _<|oN D.size).trans (D.block _ b0));have G:=Xa<|F.bx.keep (r.block _ a9);have T:=Xa<|hc.keep ((D.trans<|r.mono (oN D.size)).mono bw);have Y:=Xa ad;have bl:Cl l e 2 (Hp m):=Bx.cell G rfl;have V:Hs (∀q (cp:q<(E1 [(k:Int) != 1] [2]).length),∃ax:Nat,(recW d e ((E1 [(k:Int) != 1] [2]).take q) l).cell? (Hk e (E1 [(k:Int) != 1] [2])[q])=some (Hp ax)/\ax<d.length):=Xa (vC (λq hq=>by
  have K:=cl.o;unfold G2 at K;cases S:((k:Int) != 1)with
  |false=>rw[S]at hq;simp[E1]at hq
  |true=>
   rw[S]at hq K;have cj:q=2:=by simpa [E1]using hq
   subst cj;have M:=K m sP;exact⟨m.toNat,by rw[bl];congr 2;omega,oN bx.o⟩) (by cases ((k:Int) != 1)<;>simp[E1]))
 have O:Hs (Bx (recW d e (E1 [(k:Int) != 1] [2]) l) e #[.slice i n h,Hp k,Hp (II d ⟨k,m,o,te⟩).a,Hp o,Hp te] 43):=Xa (by
  unfold II;by_cases M:(k:Int)=1
  .have S:((k:Int) != 1)=false:=by simp[M]
   rw[S];simp only[aU M];exact G
  have S:((k:Int) != 1)=true:=by simp[M]
  rw[S];simp only[aM M];show Bx (l.drew.setCell (Hk e 2) (fu d<|l.cell? (Hk e 2))) e _ _;rw[bl];exact Bx.set (w:=l.drew) G 2 (Hp<|Ht d m))
 have bo:Hs (Below a.heap.size a<|recW d e (E1 [(k:Int) != 1] [2]) l):=Xa<|lh d e b1 _ (F.low.trans<|s.mono F.low.size) (aA _);have b7:Hs ((recW d e (E1 [(k:Int) != 1] [2]) l).ownsRow a.heap.size 48 5 (.slice i n h) n (ZP<|c.map (ZR d))):=Xa (by
  have K:Xv wr (λb=>if b=e then (1,0,0)else (0,0,0)) (0,0,0) a.heap.size 48 5 (.slice i n h) (c.map<|ZR d).length (ZP<|c.map (ZR d)):=⟨F.row,λb g=>aM λq=>F.ne<|by rw[<-q];exact g⟩;have:=(K.keep (w':=recW d e (E1 [(k:Int) != 1] [2]) l) λb _ Z g=>⟨(jp d e (λq=>by rw[aU q]at g;simp at g) _ l).trans (s.block b Z),g⟩).own;rw[bK,<-z.o]at this;exact this)
 have a1:Hs ((E1 [(k:Int) != 1] [2]).length<=3):=Xa (by cases ((k:Int) != 1)<;>simp[E1]);have b6:=Xa<|Bx.thaw G;generalize E1 [(k:Int) != 1] [2]=B at*;obtain⟨ar,bc⟩:∃ar,(II d ⟨k,m,o,te⟩).a=ar:=⟨_,rfl⟩;rw[bc]at O;have b8:=Xa bc;go_wp2_with fail
 with_reducible refine(uF lb e f0 f1 f3 f4 f5 ac nc cc d Lc Bc a5 B.length c5 B wr.heap.size l.heap.size l X oM T bz oM a9 (aA _) s.o.size Y (Xa rfl) (oN a1.o) b6.o V).mono ?_
 rintro g w6⟨rfl,rfl⟩;generalize recW d e B l=C at*;have o0:Cl C e 0 (.slice i n h):=Bx.cell O rfl;have o1:Cl C e 1 (Hp k):=Bx.cell O rfl;have o2:Cl C e 2 (Hp ar):=Bx.cell O rfl;have o3:Cl C e 3 (Hp o):=Bx.cell O rfl;have o4:Cl C e 4 (Hp te):=Bx.cell O rfl;have N:=HR.keep<|bo.block _ HR.lt;have r0:Cl C (w.heap.size+1) 0 Hq:=Bx.cell N rfl;have r1:Cl C (w.heap.size+1) 1 (Hp 0):=Bx.cell N rfl;have r2:Cl C (w.heap.size+1) 2 (Hp 0):=Bx.cell N rfl;have r3:Cl C (w.heap.size+1) 3 (Hp 0):=Bx.cell N rfl;have r4:Cl C (w.heap.size+1) 4 (Hp 0):=Bx.cell N rfl;have rz:=Bx.thaw N;go_wp2_with fail
 refine cC (v:=.agg #[.slice i n h,Hp k,Hp ar,Hp o,Hp te]) (by simp[results,results25,go_sem,r0,r1,r2,r3,r4]) rfl ?_;have ab:w.heap.size+1<a.heap.size:=oN br.o;have aa:w.heap.size<=w.heap.size+1:=gX _;rw[b8.o];exact⟨_,rfl,(((((az.trans<|bo.mono oM).setCell (p:=Hk (w.heap.size+1) 0) aa _).setCell (p:=Hk (w.heap.size+1) 1) aa _).setCell (p:=Hk (w.heap.size+1) 2) aa _).setCell (p:=Hk (w.heap.size+1) 3) aa _).setCell (p:=Hk (w.heap.size+1) 4) aa _,Zk (ownsRow_setCell_below (ownsRow_setCell_below (ownsRow_setCell_below (ownsRow_setCell_below (ownsRow_setCell_below b7 (a:=(Hk (w.heap.size+1) 0)) ab _) (a:=(Hk (w.heap.size+1) 1)) ab _) (a:=(Hk (w.heap.size+1) 2)) ab _) (a:=(Hk (w.heap.size+1) 3)) ab _) (a:=(Hk (w.heap.size+1) 4)) ab _) oM⟩
end Go.Proofs.YtffcajcgkblkoaaGreatDoor
