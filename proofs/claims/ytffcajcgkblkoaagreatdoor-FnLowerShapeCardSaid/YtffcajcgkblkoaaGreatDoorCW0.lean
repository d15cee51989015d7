import Derived.Test.YtffcajcgkblkoaaGreatDoorAL1
import Derived.Test.YtffcajcgkblkoaaGreatDoorTN1
namespace Go.Proofs.YtffcajcgkblkoaaGreatDoor
set_option maxHeartbeats 4000000
set_option maxRecDepth 1000000
open Go.RowKit Go.Proofs.Tryz Go.Shelf
variable{t T:Int}{l L:List Int}{s:List Nat}{y:List Value}{x:List Xe}{n m k B g i j c:Nat}{f:Nat->Nat}{d:Nat->Prop}{p:Option Addr}{a A:Value}{w v u:World}{q:Xe}
section
structure Hb(w:World)(g K C:Nat)(W:Nat->Int):Prop where
 le:K<=C
 ex:∃T:Nat->Value,w.rowIs g 2 C λi=>if i<K then .int .i64 (W i)else T i
namespace Hb
variable {w: World} {g K C: Nat} {W W': Nat -> Int}
theorem lt(h:Hb w g K C W):g<w.heap.size:=by
 let⟨_,T,h⟩:=h;exact h.lt
theorem cell(h:Hb w g K C W){i:Nat}(a:i<K):w.cell? (Hk g i)=some (Hp<|W i):=by
 let⟨b,T,h⟩:=h;have:=h.cell (i:=i) oM;rwa[aU a]at this
theorem frozen(h:Hb w g K C W)(i:Nat):w.frozen? (Hk g i)=false:=by
 let⟨_,T,h⟩:=h;exact h.frozen i
theorem congr(h:Hb w g K C W)(e:∀i,i<K->W i=W' i):Hb w g K C W':=by
 let⟨b,T,h⟩:=h;refine⟨b,T,h.congr λi _=>?_⟩;by_cases a:i<K;·rw[aU a,aU a,e i a]
 rw[aM a,aM a]
theorem of_block{a:World}(h:Hb w g K C W)(e:a.heap[g]?=w.heap[g]?):Hb a g K C W:=by
 let⟨b,T,h⟩:=h;exact⟨b,T,h.of_block e⟩
theorem set(h:Hb w g K C W)(i:Nat)(v:Int)(b:i<K):Hb (w.setCell ⟨g,i,none⟩ (.int .i64 v)) g K C (λj=>if j=i then v else W j):=by
 let⟨a,T,h⟩:=h;refine⟨a,T,(h.set i _).congr λj _=>?_⟩;by_cases e:j=i;·rw[aU e,aU oM,aU e]
 rw[aM e,aM e]
theorem setOther(h:Hb w g K C W){a:Addr}(ha:g≠a.block)(v:Value):Hb (w.setCell a v) g K C W:=by
 let⟨b,T,h⟩:=h;exact⟨b,T,h.setOther ha v⟩
theorem alloc(h:Hb w g K C W)(o:Obj):Hb (w.alloc o) g K C W:=by
 let⟨a,T,h⟩:=h;exact⟨a,T,h.alloc o⟩
theorem of_row(h:w.rowIs g 2 K λi=>Hp<|W i):Hb w g K K W :=
 ⟨aA _,λ_=>Hp 0,h.congr λi a=>by rw[aU a]⟩
theorem of_own{c:Nat}{v:Value}{a:List Int}(h:w.ownsRow c 2 1 v a.length (a.map<|Value.int .i64))(p:v≠.slice none 0 0):∃g C,v=.slice (some ⟨g,0,none⟩) a.length C/\c<=g/\Hb w g a.length C (λi=>a.getD i 0):=by
 obtain⟨o,h|⟨g,k,b,rfl,m,n,l,_,f,j⟩⟩:=h;·exact absurd h.1 p
 simp only[iN]at o f j;refine⟨g,k,rfl,m,l,λi=>b[i]?.getD (Hp 0),b,n,f,λi q=>?_⟩;show b[i]?=some (if i<a.length then Hp (a.getD i 0)else b[i]?.getD (Hp 0));by_cases e:i<a.length
 .rw[aU e];have d:(b.toList.take a.length)[i]?=some (Hp a[i]):=by rw[j];simp[e]
  rw[fH e]at d;have e2:a.getD i 0=a[i]:=by simp[e]
  rw[e2];simpa using d
 rw[aM e];have:i<b.size:=oM;simp[this]
end Hb
end
structure f6(C:Nat->Int)(l:List Nat)(c:Nat):Prop where
 free:∀u∈l,C u≠(c:Int)
 low:∀c',c' < c->∃u∈l,C u=(c':Int)
theorem f6.one{C:Nat->Int}(h:f6 C s c)(k:f6 C s n):c=n:=by
 rcases mA c n with e|e|e
 .let⟨u,a,b⟩:=k.low c e;exact absurd b<|h.free u a
 .exact e
 let⟨u,a,b⟩:=h.low n e;exact absurd b<|k.free u a
theorem CJ{C:Nat->Int}{l:List Nat}(h:∀a,a < c->∃u∈l,C u=(a:Int)):c<=l.length:=by
 have b:=K3 (A:=List.range c) (B:=l.map λu=>(C u).toNat) kS (λx f=>by
  let⟨u,d,e⟩:=h x<|bE.1 f;exact aY.2 ⟨u,d,by rw[e];rfl⟩)
 simpa using b
theorem CI{C:Nat->Int}(h:∀a,a < s.length->∃u∈s,C u=(a:Int)):f6 C s s.length:=by
 refine⟨λu b e=>?_,h⟩;have:=CJ (C:=C) (l:=s) (c:=s.length+1) (λa c=>by
  by_cases e2:a=s.length;·subst e2;exact⟨u,b,e⟩
  exact h a oM)
 omega
theorem tS{C:Nat->Int}(h:∀a,a < c->∃u∈s,C u=(a:Int))(f:∀u∈s,u<n)(j:m<n)(d:C m=-1):c<n:=by
 have b:=K3 (A:=List.range c) (B:=((List.range n).erase m).map λu=>(C u).toNat) kS (λx k=>by
  let⟨u,i,e⟩:=h x<|bE.1 k;have g:u≠m:=λe2=>by rw[e2,d]at e;omega
  exact aY.2 ⟨u,(iF g).2 (bE.2<|f u i),by rw[e];rfl⟩)
 rw[bK,fP<|bE.2 j,gI,gI]at b;omega
open Classical in
theorem uo(C:Nat->Int)(l:List Nat):∃c,f6 C l c:=by
 by_cases j:∀a,a < l.length->∃u∈l,C u=(a:Int);·exact⟨_,CI j⟩
 have m:∃c,¬∃u∈l,C u=((c:Nat):Int):=by
  apply dQ;intro b;exact j λa _=>dQ λd=>b ⟨a,d⟩
 have p:∀n c,c<=n->(¬∃u∈l,C u=((c:Nat):Int))->∃c,f6 C l c:=by
  intro n
  induction n with
  |zero=>
   intro c f h;exact⟨c,λu i e=>h ⟨u,i,e⟩,λa g=>absurd g oM⟩
  |succ n o=>
   intro c f h;by_cases k:∀a,a < c->∃u∈l,C u=(a:Int);·exact⟨c,λu i e=>h ⟨u,i,e⟩,k⟩
   have:∃a,a < c/\¬∃u∈l,C u=((a:Nat):Int):=by
    apply dQ;intro b;exact k λa g=>dQ λd=>b ⟨a,g,d⟩
   let⟨a,q,b⟩:=this;exact o a oM b
 let⟨c,f⟩:=m;exact p c c (aA _) f
noncomputable def LR(C:Nat->Int)(l:List Nat):Nat:=Classical.choose<|uo C l
theorem ke(C:Nat->Int)(l:List Nat):f6 C l (LR C l):=gJ<|uo C l
theorem DK{C:Nat->Int}(h:f6 C s c):LR C s=c:=(ke C s).one h
noncomputable def IC(C:Nat->Int)(s:Nat×List Nat):Nat->Int:=λu=>if u=s.1 then (LR C s.2:Int)else C u
noncomputable def Kq(C:Nat->Int)(a:List (Nat×List Nat)):Nat->Int:=a.foldl IC C
theorem Ay(C:Nat->Int)(a:List (Nat×List Nat))(s:Nat×List Nat):Kq C (a++[s])=IC (Kq C a) s:=by unfold Kq;rw[dT];rfl
noncomputable def IX(a:List Xe)(V b:Nat)(x:Xe)(k:Nat):List (Nat×List Nat):=(x.ps.take k).map λp=>(p.dst.toNat,Uq a x V b 0)
noncomputable def VC(a:List Xe)(V b:Nat)(x:Xe):Nat->List (Nat×List Nat)
 |0=>[]
 |k+1=>VC a V b x k++match x.is[k]? with
  |none=>[]
  |some y=>(BW y).map λv=>(v.toNat,Uq a x V b<|k+1)
noncomputable def LK(a:List Xe)(V b:Nat):List (Nat×List Nat):=match a[b]? with
 |none=>[]
 |some x=>IX a V b x x.ps.length++VC a V b x x.is.length
noncomputable def Ko(b:List Xe)(V:Nat)(a:List Nat):List (Nat×List Nat):=a.flatMap<|LK b V
theorem rJ(a:List Xe)(V:Nat)(c:List Nat)(b:Nat):Ko a V (c++[b])=Ko a V c++LK a V b:=by unfold Ko;rw[eZ];simp
noncomputable def Hy(C:Nat->Int):Nat->Int
 |0=>0
 |V+1=>max (Hy C V) (C V+1)
theorem ry(P:List Int)(m b:Nat):b∈XT P m b:=by
 cases m<;>simp[XT]
theorem p9{tg:Nat->List Nat}{n:Nat}{P:List Int}(h:YX tg n P)(d:∀x,Re tg x->x<n):∀(m b c x:Nat),n<=(Zq tg n b).length+m->c∈XT P m b->x∈IV P c->x∈XT P m b
 |0,b,c,x,hm,a,hx=>by
  have:c=b:=by simpa [XT]using a
  subst this;have g:=nR h d hx;have i:=oL (tg:=tg) n x;omega
 |m+1,b,c,x,hm,a,hx=>by
  rw[XT,cH]at a;rw[XT,cH];rcases a with rfl|a;·exact aZ<|bV.2 ⟨x,hx,ry P m x⟩
  let⟨e,f,a⟩:=bV.1 a;have g:=nR h d f;exact aZ<|bV.2 ⟨e,f,p9 h d m e c x oM a hx⟩
theorem sX{tg:Nat->List Nat}{n:Nat}{P:List Int}(h:YX tg n P)(a:∀x,Re tg x->x<n):∀(k x:Nat),(Zq tg n x).length<=k->Re tg x->x∈XT P n 0
 |k,x,hk,hx=>by
  by_cases b:x=0;·subst b;exact ry P n 0
  obtain⟨c,e1,e2,e3,e4,_⟩:=tc h a hx b
  match k,hk with
  |0,hk=>omega
  |k+1,hk=>exact p9 h a n 0 c x oM (sX h a k c oM e3) (nY.2 ⟨by rw[h.len];exact a x hx,e1⟩)
theorem Ak(c:UF x)(b:YX (X8 x) x.length l)(d:Jq x):(XT l x.length 0).Perm (List.range x.length):=by
 rw[List.perm_iff_count];intro a;rw[(oz b x.length 0 Re.root).count,List.nodup_range.count];have:a∈XT l x.length 0↔a∈List.range x.length:=by
  rw[bE];constructor
  .intro h;exact c.re a (Ji b x.length 0 a Re.root h).rb
  intro h;exact sX b c.re _ a (aA _) (d a h)
 by_cases e:a∈XT l x.length 0;·rw[aU e,aU<|this.1 e]
 rw[aM e,aM λh=>e<|this.2 h]
theorem TX(h:E5 t x=0):XJ ⟨t,x⟩=true/\Jq x:=by
 unfold E5 at h;by_cases a:XJ ⟨t,x⟩=false;·rw[aU a]at h;omega
 rw[aM a]at h;by_cases b:¬Jq x;·rw[aU b]at h;omega
 exact⟨by simpa using a,Classical.not_not.1 b⟩
def Iq(a:List (Nat×List Nat)):List Int:=a.map λs=>(s.1:Int)
theorem EO(a:Jy n x)(d:q∈x)(b:Nat):Iq (IX x n b q q.ps.length)=XG q.ps:=by
 unfold Iq IX XG;rw[gC,jO];apply gH;intro p c;have:=(a.phd q d p c).1;simp only[Function.comp];omega
theorem uu{V:Nat}{a:List Xe}(d:Jy V a){x:Xe}(e:x∈a)(b:Nat):∀k,k<=x.is.length->Iq (VC a V b x k)=XI (x.is.take k)
 |0,_=>by simp[Iq,VC,XI]
 |k+1,g=>by
  have i:=uu d e b k oM;have c:k<x.is.length:=g;have f:XI (x.is.take<|k+1)=XI (x.is.take k)++BW x.is[k]:=by
   rw[kJ,aC c];unfold XI BW;rw[eU,bG,Option.toList_some,iW,jX];cases dB x.is[k].op<;>rfl
  rw[f,<-i,VC,aC c];unfold Iq;rw[bG,jO];congr 1;have:∀v∈BW x.is[k],((λs:Nat×List Nat=>(s.1:Int)) ∘ λv:Int=>(v.toNat,Uq a x V b<|k+1)) v=v:=λv h=>by
   have:=(d.wri x e _ (aH c) v h).1;simp only[Function.comp];omega
  rw[gH this,List.map_id''];intro j;rfl
theorem tP(d:Jy n x){b:Nat}(a:b<x.length):Iq (LK x n b)=Z6 x[b]:=by
 unfold LK;rw[aC a];have e:=EO d (aH a) b;have c:=uu d (aH a) b x[b].is.length (aA _);rw[gC]at c;show Iq (IX x n b x[b] x[b].ps.length++VC x n b x[b] x[b].is.length)=_;unfold Iq at*;rw[bG,e,c];rfl
theorem q8{V:Nat}{a:List Xe}(c:Jy V a):∀k,k<=a.length->Iq (Ko a V<|List.range k)=BX (a.take k)
 |0,_=>by simp[Iq,Ko,BX]
 |k+1,e=>by
  have f:=q8 c k oM;have b:k<a.length:=e;rw[dN,rJ,kJ,aC b];have d:=tP c b;unfold Iq at*;rw[bG,f,d];unfold BX;rw[eZ,Option.toList_some,jF,List.flatMap_nil,fF]
theorem EN(d:XJ ⟨(n:Int),x⟩=true)(t:Jq x)(q:YX (X8 x) x.length l) :
 (Iq<|Ko x n (XT l x.length 0)).Nodup/\∀u:Nat,u<n->(u:Int)∈Iq (Ko x n<|XT l x.length 0):=by
 have c:=XH d;have m:(Iq<|Ko x n (XT l x.length 0)).Perm (BX x):=by
  have b:=q8 c x.length<|aA _;rw[gC]at b;rw[<-b];unfold Iq Ko;exact(List.Perm.flatMap_right _<|Ak c.okf q t).map _
 have k:JM ⟨(n:Int),x⟩=true:=by
  unfold XJ at d;simp only[bY]at d;exact d.2
 have j:∀u:Nat,u<n->(BX x).count (u:Int)=1:=λu g=>by
  unfold JM at k;have:=dV.1 k u (bE.2<|by simpa using g);rw[iA,mn]at this;exact this
 have r:∀f∈BX x,0<=f/\f<(n:Int):=λf a=>by
  let⟨p,o,a⟩:=bV.1 a;rcases bU.1 a with a|a
  .obtain⟨w,s,rfl⟩:=aY.1 a;exact c.phd p o w s
  obtain⟨y,v,rfl⟩:=aY.1 a;let⟨b,i⟩:=fG.1 v;exact c.wri p o y b y.dst<|by unfold BW;rw[i];simp
 constructor
 .rw[mY];intro e;rw[m.count_eq];by_cases h:e∈BX x
  .let⟨b,i⟩:=r e h;have:=j e.toNat oM;rw[fR b]at this;omega
  rw[kZ h];omega
 intro u g;rw[m.mem_iff];apply kE.1;rw[j u g];decide
structure iw(V:Nat)(ss:List (Nat×List Nat)):Prop where
 lt:∀s∈ss,s.1<V
 nd:∀pre s post,ss=pre++s::post->∀t∈pre,t.1≠s.1
 all:∀u,u<V->∃s∈ss,s.1=u
theorem tu(j:XJ ⟨(n:Int),x⟩=true)(q:Jq x)(m:YX (X8 x) x.length l):iw n (Ko x n<|XT l x.length 0):=by
 let⟨c,f⟩:=EN j q m;have h:=XH j;refine⟨λs a=>?_,λC s B e z t=>?_,λA u=>?_⟩
 .let⟨b,_,a⟩:=bV.1 a;unfold LK at a;cases hb:x[b]? with
  |none=>rw[hb]at a;cases a
  |some d=>
   have k:d∈x:=eN hb;have o:=(cV.1 hb).1;have r:((s.1:Nat):Int)∈Z6 d:=by
    have i:=tP h o;rw[(cV.1 hb).2]at i;rw[<-i];unfold LK Iq;exact aY.2 ⟨s,a,rfl⟩
   rcases bU.1 r with g|g
   .let⟨w,p,e⟩:=aY.1 g;have:=h.phd d k w p;have e:=e;omega
   let⟨y,v,e⟩:=aY.1 g;let⟨c,f⟩:=fG.1 v;have:=h.wri d k y c y.dst (by unfold BW;rw[f];simp);have e:=e;omega
 .rw[e]at c;unfold Iq at c;rw[bG,eH]at c;have:=(gW.1 c).2.2 _ (aY.2 ⟨z,t,rfl⟩) _ cI;exact λe=>this<|by rw[e]
 let⟨s,a,e⟩:=aY.1<|f A u;exact⟨s,a,oM⟩
theorem TE{v:Nat}:∀(a:List (Nat×List Nat))(C:Nat->Int),(∀s∈a,s.1≠v)->Kq C a v=C v
 |[],_,_=>rfl
 |s::a,C,h=>by
  have c:=TE a (IC C s) λt b=>h t<|cN _ b;show Kq (IC C s) a v=_;rw[c];unfold IC;rw[aM λe=>h s cI e.symm]
theorem UP{v:Nat}:∀(a:List (Nat×List Nat))(C:Nat->Int),(0<=C v\/∃s∈a,s.1=v)->0<=Kq C a v
 |[],_,h=>by
  rcases h with h|⟨s,h,_⟩;·exact h
  cases h
 |s::a,C,h=>by
  show 0<=Kq (IC C s) a v;refine UP a (IC C s) ?_;by_cases e:v=s.1
  .left
   unfold IC;rw[aU e];omega
  rcases h with h|⟨t,b,e2⟩
  .left
   unfold IC;rw[aM e];exact h
  rcases cH.1 b with rfl|b;·exact absurd e2.symm e
  exact aZ ⟨t,b,e2⟩
theorem UJ(C:Nat->Int):∀V,0<=Hy C V
 |0=>by simp[Hy]
 |V+1=>by have:=UJ C V;rw[Hy];omega
theorem sN{C:Nat->Int}{v:Nat}{x:Int}:∀V,V<=v->Hy (λu=>if u=v then x else C u) V=Hy C V
 |0,_=>rfl
 |V+1,h=>by
  rw[Hy,Hy,sN V oM,aM oM]
theorem sY{C:Nat->Int}{v:Nat}{x:Int}(a:C v=-1):∀V,v<V->Hy (λu=>if u=v then x else C u) V=max (Hy C V) (x+1)
 |V+1,h=>by
  rw[Hy,Hy];by_cases e:V=v
  .subst e;have:=UJ C V;rw[aU rfl,sN V<|aA _,a];omega
  rw[aM e,sY a V oM];omega
theorem qG:∀V,Hy (λ_=>-1) V=0
 |0=>rfl
 |V+1=>by rw[Hy,qG V];decide
section
def Wl(xs:List Xe)(u b:Nat):Nat->Prop
 |0=>Yo xs b u=true
 |j+1=>∃x y,xs[b]?=some x/\x.is[j]?=some y/\(u:Int)∈BW y
theorem Vs(a:List Yg):XI a=a.flatMap BW:=by
 induction a with
 |nil=>rfl
 |cons y a b=>
  have:XI (y::a)=BW y++XI a:=by
   unfold XI BW;rw[iW];cases dB y.op<;>rfl
  rw[this,b,jF]
theorem rr{xs:List Xe}{b u:Nat}(h:Yo xs b u=true):∃x,xs[b]?=some x/\(u:Int)∈XG x.ps:=by
 unfold Yo at h;cases e:xs[b]? with
 |none=>rw[e]at h;cases h
 |some x=>rw[e]at h;exact⟨x,rfl,XD.1 h⟩
theorem CA{V:Nat}{xs:List Xe}(hv:XJ ⟨(V:Int),xs⟩=true):(BX xs).Nodup/\(∀d∈BX xs,0<=d/\d<(V:Int))/\∀u:Nat,u<V->(u:Int)∈BX xs:=by
 have j:=XH hv;have k:JM ⟨(V:Int),xs⟩=true:=by
  unfold XJ at hv;simp only[bY]at hv;exact hv.2
 have g:∀u:Nat,u<V->(BX xs).count (u:Int)=1:=λu e=>by
  unfold JM at k;have:=dV.1 k u (bE.2<|by simpa using e);rw[iA,mn]at this;exact this
 have i:∀d∈BX xs,0<=d/\d<(V:Int):=λd a=>by
  let⟨x,l,a⟩:=bV.1 a;rcases bU.1 a with a|a
  .obtain⟨p,m,rfl⟩:=aY.1 a;exact j.phd x l p m
  obtain⟨y,n,rfl⟩:=aY.1 a;let⟨c,f⟩:=fG.1 n;exact j.wri x l y c y.dst<|by unfold BW;rw[f];simp
 refine⟨?_,i,λu e=>kE.1<|by rw[g u e];decide⟩;rw[mY];intro b;by_cases h:b∈BX xs
 .let⟨c,f⟩:=i b h;have:=g b.toNat oM;rw[fR c]at this;omega
 rw[kZ h];omega
theorem Wl.mem{xs:List Xe}{u b k:Nat}(h:Wl xs u b k):∃x,xs[b]?=some x/\(u:Int)∈Z6 x:=by
 cases k with
 |zero=>
  let⟨x,e,a⟩:=rr h;exact⟨x,e,dD _ a⟩
 |succ j=>
  let⟨x,y,e,e2,a⟩:=h;refine⟨x,e,fB _ ?_⟩;rw[Vs];exact bV.2 ⟨y,eN e2,a⟩
theorem qU{a n:Type}{f:a->List n}{l:List a}(h:(l.flatMap f).Nodup){i j:Nat}{c b:a}(o:l[i]?=some c)(p:l[j]?=some b){z:n}(ha:z∈f c)(k:z∈f b):i=j:=by
 unfold List.Nodup at h;rw[iK]at h;let⟨d,e1⟩:=cV.1 o;let⟨g,e2⟩:=cV.1 p;have m:=gY.1 h.2;rcases mA i j with e|e|e;·exact absurd rfl<|m i j d g e z (by rw[e1];exact ha) z (by rw[e2];exact k)
 .exact e
 exact absurd rfl<|m j i g d e z (by rw[e2];exact k) z (by rw[e1];exact ha)
theorem Wl.one{V:Nat}{xs:List Xe}(hv:XJ ⟨(V:Int),xs⟩=true){u b k b' k':Nat}(l:Wl xs u b k)(f:Wl xs u b' k'):b=b'/\k=k':=by
 have g:=(CA hv).1;let⟨x,e,v⟩:=l.mem;let⟨D,h,w⟩:=f.mem;have t:=qU (f:=Z6) g e h v w;subst t;rw[e]at h;cases h;refine⟨rfl,?_⟩;have m:(Z6 x).Nodup:=by
  unfold List.Nodup BX at g;rw[iK]at g;exact g.1 x<|eN e
 unfold Z6 at m;rw[gW]at m;let⟨_,p,o⟩:=m;rw[Vs]at p o;have r:∀{k},Wl xs u b k->k=0->(u:Int)∈XG x.ps:=λ{k} q i=>by
  subst i;let⟨C,d,A⟩:=rr q;rw[e]at d;cases d;exact A
 have n:∀{k},Wl xs u b k->∀j,k=j+1->∃y,x.is[j]?=some y/\(u:Int)∈BW y:=λ{k} q j i=>by
  subst i;let⟨C,y,d,a,c⟩:=q;rw[e]at d;cases d;exact⟨y,a,c⟩
 cases k with
 |zero=>
  cases k' with
  |zero=>rfl
  |succ j=>
   let⟨y,a,c⟩:=n f j rfl;exact absurd rfl<|o _ (r l rfl) _ (bV.2 ⟨y,eN a,c⟩)
 |succ B=>
  let⟨y,a,c⟩:=n l B rfl;cases k' with
  |zero=>exact absurd rfl<|o _ (r f rfl) _ (bV.2 ⟨y,eN a,c⟩)
  |succ j=>
   let⟨E,s,z⟩:=n f j rfl;rw[qU (f:=BW) p a s c z]
theorem Vk{x:Xe}{u:Nat}{q:Bool}{k:Nat}:∀i,k<=i->i<=x.is.length->JT x u q i=true->(∀j y,k<=j->j<i->x.is[j]?=some y->(u:Int)∉BW y)->JT x u q k=true
 |0,hk,_,h,_=>by
  have:k=0:=oM;subst this;exact h
 |i+1,hk,hi,h,hn=>by
  by_cases e:k=i+1;·subst e;exact h
  refine Vk i oM oM ?_ λj y a d=>hn j y a oM;rw[lP x u q (show i<x.is.length from hi),h];have b:=hn i x.is[i] oM oM (aC _);have c:¬Fa x.is[i]=(u:Int):=λe=>b<|YN.1 e;simp[c]
theorem n8{xs:List Xe}(hns:¬∃x,Ic xs x){u b:Nat}(d:IF xs u b)(h:LM xs u b):False:=by
 obtain⟨c,e⟩:=h
 induction e with
 |here _ a=>exact hns ⟨u,_,d,c,a⟩
 |step _ a f g _ i=>exact i (IF.step d c a f) g
theorem Ca{xs:List Xe}{d b:Nat}(h:Re (X8 xs) b):Av (X8 xs) d b\/d=0\/∃p,Av (X8 xs) d p/\d∈X8 xs p:=by
 induction h with
 |root=>
  by_cases e:d=0;·exact aZ<|bC e
  exact bC<|Av.root e
 |@step c t _ f a=>
  rcases a with a|a
  .by_cases e:t=d;·subst e;exact aZ<|aZ ⟨c,a,f⟩
   exact bC<|Av.step a f e
  exact aZ a
theorem oe{xs:List Xe}{u b:Nat}(d:b<xs.length){q:Bool}(hq:q=true↔UV xs u b){i:Nat}(e:i<=xs[b].is.length)(h:JT xs[b] u q i=true)(g:Yo xs b u=false)(f:∀j y,j<i->xs[b].is[j]?=some y->(u:Int)∉BW y):LM xs u b :=
 ⟨g,(sk d hq).1 (Vk i (aN _) e h λj y _ a c=>f j y a c)⟩
section
variable {V: Nat} {xs: List Xe} (hv: XJ ⟨(V: Int), xs⟩ = true) (hr: Jq xs) (hns: ¬ ∃ x, Ic xs x)
include hv
theorem ou{u d k b:Nat}(a:Wl xs u d k)(c:b≠d):Yo xs b u=false:=by
 cases e:Yo xs b u with
 |false=>rfl
 |true=>exact absurd (Wl.one hv (k:=0) e a).1 c
theorem VZ{u d k b j:Nat}(c:Wl xs u d k)(f:b≠d\/j+1≠k){x:Xe}{y:Yg}(e:xs[b]?=some x)(a:x.is[j]?=some y):(u:Int)∉BW y:=λh=>by
 have:=Wl.one hv (k:=j+1) ⟨x,y,e,a,h⟩ c;omega
theorem Eh{u d k b:Nat}(a:Wl xs u d k)(f:b≠d):Cp xs b u≠2:=by
 unfold Cp;cases e:xs[b]? with
 |none=>simp
 |some x=>
  show Hd x (XP xs b) (u:Int)≠2;unfold Hd;refine Ud _ λy g h=>?_;obtain⟨j,c,rfl⟩:=bR g;exact VZ hv a (bC f) e (aC c) h
theorem tF(hns:¬∃x,Ic xs x){u e n b:Nat}(i:Wl xs u e n)(k:Av (X8 xs) e b):IF xs u b/\Yo xs b u=false/\Cp xs b u=0:=by
 have j:∀b,b≠e->IF xs u b->Yo xs b u=false/\Cp xs b u=0:=λb a d=>by
  have h:=ou hv i a;have o:=Eh hv i a;have p:=ny xs b u;refine⟨h,?_⟩;by_cases f:Cp xs b u=1;·exact absurd ⟨u,b,d,h,f⟩ hns
  omega
 induction k with
 |root l=>exact⟨IF.root,j 0 (λf=>l f.symm) IF.root⟩
 |@step c t q m a g=>
  have d:=IF.step g.1 g.2.1 g.2.2 m;exact⟨d,j t a d⟩
include hr hns
theorem sT{u d n b:Nat}(e:Wl xs u d n)(m:d<xs.length)(h:LM xs u b):JO (X8 xs) d b/\d≠b:=by
 have c:=h.2.lt;have f:¬Av (X8 xs) d b:=λha=>n8 hns (tF hv hns e ha).1 h;refine⟨⟨hr d m,hr b c,f⟩,λg=>?_⟩;subst g;rcases Ca (d:=d) (hr d c)with a|a|⟨p,a,i⟩;·exact f a
 .subst a;exact n8 hns IF.root h
 obtain⟨j,k,l⟩:=tF hv hns e a;exact n8 hns (IF.step j k l i) h
omit hr hns
theorem CY{u d k b:Nat}(c:Wl xs u d k)(e:b≠d)(a:b<xs.length)(h:UV xs u b):LM xs u b:=by
 refine oe a (q:=true) ⟨λ_=>h,λ_=>rfl⟩ (aA _) ?_ (ou hv c e) λj y _ f=>VZ hv c (bC e) (aC a) f;rw[WT _ _ _<|aA _];simp
theorem Ec(o:UF xs){u d p e:Nat}(l:Wl xs u d p)(m:e<xs.length){c:Nat}(h:Sf (X8 xs) d e e c)(j:c≠e)(n:LM xs u c):UV xs u e:=by
 have lt:∀{c},Sf (X8 xs) d e e c->c<xs.length:=λ{c} h=>by
  induction h with
  |here=>exact m
  |step _ a _ _ b=>exact o.tg _ b _ a
 induction h with
 |here=>exact absurd rfl j
 |@step c t g a q r b=>
  have f:UV xs u c:=aZ ⟨t,a,n⟩;by_cases e1:c=e;·rw[<-e1];exact f
  have k:c≠d:=by
   cases g with
   |here=>exact absurd rfl e1
   |step _ _ i _=>exact i
  exact b e1<|CY hv l k (lt g) f
theorem CN(f:UF xs){u d o e b:Nat}(i:Wl xs u d o)(a:JO (X8 xs) d e)(c:JO (X8 xs) e b)(n:e≠b)(l:LM xs u b):UV xs u e:=by
 have k:=f.re e a.rb;have j:=J8 a c;have g:=λh=>Ec hv f i k h (λq=>n q.symm) l;rcases su (a:=d) (b:=e) c.rb with⟨h3,_⟩|h3|h3;·exact absurd h3 j.no
 .by_cases q:d=e;·subst q;exact g h3
  have:Av (X8 xs) e d:=dQ λm=>q<|Z1 a ⟨a.rb,a.ra,m⟩;exact absurd (oG h3 (aZ rfl) this) c.no
 exact g h3
def In(xs:List Xe)(u b i:Nat):Prop:=∃x,xs[b]?=some x/\i<=x.is.length/\(Wl xs u b i\/∃q:Bool,(q=true↔UV xs u b)/\JT x u q i=true)
omit hv
open Classical in
theorem In.of{b i u:Nat}(a:b<xs.length)(c:i<=xs[b].is.length)(h:u∈Uq xs xs[b] V b i):In xs u b i:=by
 unfold Uq at h;obtain⟨_,h⟩:=fG.1 h;refine⟨xs[b],aC a,c,?_⟩;unfold Ld at h;cases i with
 |zero=>
  rcases dI _ _▸h with h|h
  .refine aZ ⟨_,?_,h⟩;rw[bD]
  exact bC h
 |succ j=>
  rcases dI _ _▸h with h|h
  .refine aZ ⟨_,?_,h⟩;rw[bD]
  have d:j<xs[b].is.length:=c;rw[aC d]at h;exact bC ⟨xs[b],xs[b].is[j],aC a,aC d,YN.1<|fV h⟩
theorem In.to_{b i u:Nat}(j:u<V)(m:b<xs.length)(h:In xs u b i):u∈Uq xs xs[b] V b i:=by
 obtain⟨x,e,n,h⟩:=h;have ex:xs[b]=x:=(cV.1 e).2;unfold Uq;refine fG.2 ⟨bE.2 j,?_⟩;unfold Ld;rw[ex];have hq:∀q:Bool,(q=true↔UV xs u b)->∀d:Decidable (UV xs u b),@decide (UV xs u b) d=q:=λq hq d=>by
  rw[eQ,bD,hq]
 rcases h with h|⟨q,g,c⟩
 .cases i with
  |zero=>
   have h:Yo xs b u=true:=h;rw[dI];exact aZ h
  |succ l=>
   obtain⟨o,y,a,f,k⟩:=h;rw[e]at a;cases a;rw[dI];refine aZ ?_;rw[f];exact eB<|YN.2 k
 rw[hq q g];cases i with
 |zero=>rw[dI];exact bC c
 |succ l=>rw[dI];exact bC c
include hv hr hns
theorem WG{u d n b m:Nat}(a:Wl xs u d n)(h:In xs u b m):JO (X8 xs) d b/\(d=b->n<=m)/\(d≠b->LM xs u b):=by
 let⟨x,f,l,h⟩:=h;let⟨c,ex⟩:=cV.1 f;have k:d<xs.length:=by
  let⟨z,o,_⟩:=a.mem;exact(cV.1 o).1
 rcases h with h|⟨q,i,j⟩
 .let⟨e1,e2⟩:=Wl.one hv a h;subst e1 e2;exact⟨Zd<|hr d c,λ_=>aA _,λq=>absurd rfl q⟩
 subst ex;by_cases e1:d=b
 .subst e1
  refine⟨Zd<|hr d c,λ_=>?_,λq=>absurd rfl q⟩;apply dQ;intro t;have r:Yo xs d u=false:=by
   cases ep:Yo xs d u with
   |false=>rfl
   |true=>have:=(Wl.one hv (k:=0) ep a).2;omega
  have e:=oe c i l j r λs y p g=>VZ hv a (aZ oM) f g;exact(sT hv hr hns a k e).2 rfl
 have e:=oe c i l j (ou hv a λq=>e1 q.symm) λs y p g=>VZ hv a (bC λq=>e1 q.symm) f g;exact⟨(sT hv hr hns a k e).1,λq=>absurd q e1,λ_=>e⟩
theorem BH(F:UF xs){u d k w e m b j:Nat}(c:Wl xs u d k)(g:Wl xs w e m)(s:In xs u b j)(G:In xs w b j)(o:JO (X8 xs) d e)(i:d=e->k<=m):In xs u e m:=by
 have K:=hv;let⟨J,N,H⟩:=WG hv hr hns c s;let⟨l,I,_⟩:=WG hv hr hns g G;let⟨z,a,_⟩:=g.mem;have L:=(cV.1 a).1;have r:m<=z.is.length:=by
  cases m with
  |zero=>exact aN _
  |succ t=>
   let⟨P,y,n,f,_⟩:=g;rw[a]at n;cases n;exact(cV.1 f).1
 refine⟨z,a,r,?_⟩;by_cases p:d=e/\k=m
 .obtain⟨rfl,rfl⟩:=p;exact bC c
 right;by_cases e1:e=b
 .subst e1;have E:=I rfl;let⟨O,ex,B,h⟩:=s;rw[a]at ex;cases ex;rcases h with h|⟨q,v,x⟩
  .let⟨q1,q2⟩:=Wl.one hv c h;have:=i q1;exact absurd ⟨q1,oM⟩ p
  refine⟨q,v,Vk j E B x λt y C M f=>VZ hv c ?_ a f⟩;by_cases q1:d=e
  .right;have:=i q1;omega
  left;exact λq=>q1 q.symm
 have A:d≠b:=λq=>by
  subst q;exact e1<|Z1 l o
 have D:=CN hv F c o l e1<|H A;refine⟨true,⟨λ_=>D,λ_=>rfl⟩,Vk z.is.length r (aA _) ?_ λt y C _ f=>VZ hv c ?_ a f⟩;·rw[WT _ _ _<|aA _];simp
 by_cases q1:d=e
 .right;have:=i q1;omega
 left;exact λq=>q1 q.symm
end
end
section
theorem ru{tg:Nat->List Nat}{r:Nat}{P:List Int}(h:YX tg r P):∀(m b:Nat),Re tg b->(XT P m b).Pairwise λc e=>¬JO tg e c
 |0,b,_=>by simp[XT]
 |m+1,b,hb=>by
  rw[XT,List.pairwise_cons];refine⟨λx d i=>?_,?_⟩
  .obtain⟨c,a,d⟩:=bV.1 d;have j:=Kf h a;exact j.ne<|Z1 j.dom (J8 (Ji h m c x j.dom.rb d) i)
  rw[iK];refine⟨λc a=>ru h m c (Kf h a).dom.rb,?_⟩;have p:(IV P b).Nodup:=List.nodup_range.sublist jR;refine jT (λ{c e} a i l x d y q g=>?_) p;have f:=Kf h a;have id:=Kf h i;have n:=Ji h m c x f.dom.rb d;have o:=J8 (Ji h m e y id.dom.rb q) g;rcases TY n o with k|k;·exact f.ne<|Z1 f.dom (id.near c k l)
  exact id.ne<|Z1 id.dom (f.near e k λg=>l g.symm)
structure ME(V:Nat)(xs:List Xe)(b k:Nat)(s:Nat×List Nat):Prop where
 lt:s.1<V
 df:Wl xs s.1 b k
 bn:b<xs.length
 kn:∀x,xs[b]?=some x->k<=x.is.length
 st:∀x,xs[b]?=some x->s.2=Uq xs x V b k
theorem WL{V:Nat}{xs:List Xe}(d:Jy V xs){b:Nat}{x:Xe}(e:xs[b]?=some x){s:Nat×List Nat}(h:s∈IX xs V b x x.ps.length):ME V xs b 0 s:=by
 unfold IX at h;rw[gC]at h;obtain⟨p,c,rfl⟩:=aY.1 h;have f:=eN e;have g:=d.phd x f p c;refine⟨by show p.dst.toNat<V;omega,?_,(cV.1 e).1,λ_ _=>aN _,λz a=>by rw[e]at a;cases a;rfl⟩;show Yo xs b p.dst.toNat=true;unfold Yo;rw[e];exact XD.2<|aY.2 ⟨p,c,oM⟩
theorem UZ{V:Nat}{xs:List Xe}(c:Jy V xs){b:Nat}{x:Xe}(e:xs[b]?=some x):∀(k:Nat){s:Nat×List Nat},s∈VC xs V b x k->∃j,j<k/\ME V xs b (j+1) s
 |0,s,h=>by cases h
 |k+1,s,h=>by
  rw[VC]at h;rcases bU.1 h with h|h
  .obtain⟨j,g,h⟩:=UZ c e k h;exact⟨j,oM,h⟩
  cases ey:x.is[k]? with
  |none=>rw[ey]at h;cases h
  |some y=>
   rw[ey]at h;obtain⟨v,hv,rfl⟩:=aY.1 h;have d:=c.wri x (eN e) y (eN ey) v hv;have f:=(cV.1 ey).1;refine⟨k,iJ _,by show v.toNat<V;omega,⟨x,y,e,ey,?_⟩,(cV.1 e).1,λz a=>by rw[e]at a;cases a;exact f,λz a=>by rw[e]at a;cases a;rfl⟩;show((v.toNat:Nat):Int)∈BW y;rw[fR d.1];exact hv
theorem ol{V:Nat}{xs:List Xe}(a:Jy V xs){b:Nat}{s:Nat×List Nat}(h:s∈LK xs V b):∃k,ME V xs b k s:=by
 unfold LK at h;cases e:xs[b]? with
 |none=>rw[e]at h;cases h
 |some x=>
  rw[e]at h;rcases bU.1 h with h|h;·exact⟨0,WL a e h⟩
  let⟨j,_,h⟩:=UZ a e _ h;exact⟨j+1,h⟩
def MK(xs:List Xe)(s t:Nat×List Nat):Prop:=∀b i,In xs s.1 b i->In xs t.1 b i->s.1∈t.2
section
variable {V: Nat} {xs: List Xe} (hv: XJ ⟨(V: Int), xs⟩ = true) (hr: Jq xs) (hns: ¬ ∃ x, Ic xs x)
include hv hr hns
theorem j7{d k e m:Nat}{s t:Nat×List Nat}(c:ME V xs d k s)(a:ME V xs e m t)(j:∀b,JO (X8 xs) d b->JO (X8 xs) e b->JO (X8 xs) d e)(l:d=e->k<=m):MK xs s t:=λb o f g=>by
 have n:=XH hv;have i:=j b (WG hv hr hns c.df f).1 (WG hv hr hns a.df g).1;have h:=BH hv hr hns n.okf c.df a.df f g i l;rw[a.st _<|aC a.bn];exact In.to_ c.lt a.bn h
theorem rp{b:Nat}{x:Xe}(e:xs[b]?=some x):∀k,(VC xs V b x k).Pairwise (MK xs)
 |0=>lU
 |k+1=>by
  have d:=XH hv;rw[VC,kY];refine⟨rp e k,?_,λs c t a=>?_⟩
  .cases ey:x.is[k]? with
   |none=>exact lU
   |some y=>
    show(List.map _<|BW y).Pairwise _;unfold BW;cases dB y.op<;>simp
  obtain⟨n,j,c⟩:=UZ d e k c
  obtain⟨i,l,f⟩:=UZ d e (k+1) (s:=t) (by rw[VC];exact fB _ a);have m:i=k:=by
   cases ey:x.is[k]? with
   |none=>rw[ey]at a;cases a
   |some y=>
    rw[ey]at a;obtain⟨v,g,rfl⟩:=aY.1 a;have h:=d.wri x (eN e) y (eN ey) v g;have:=(Wl.one hv f.df (b':=b) (k':=k+1) ⟨x,y,e,ey,by show((v.toNat:Nat):Int)∈_;rw[fR h.1];exact g⟩).2;omega
  exact j7 hv hr hns c f (λ_ _ _=>Zd<|hr b c.bn) λ_=>oM
theorem Bn(b:Nat):(LK xs V b).Pairwise (MK xs):=by
 have c:=XH hv;unfold LK;cases e:xs[b]? with
 |none=>exact lU
 |some x=>
  show(_++_:List _).Pairwise _;rw[kY];refine⟨?_,rp hv hr hns e _,λs h t i=>?_⟩
  .rw[gY];intro k j f g _;have a:=WL c e<|aH f;have d:=WL c e<|aH g;exact j7 hv hr hns a d (λ_ _ _=>Zd<|hr b a.bn) λ_=>aA _
  have a:=WL c e h;let⟨j,_,d⟩:=UZ c e _ i;exact j7 hv hr hns a d (λ_ _ _=>Zd<|hr b a.bn) λ_=>aN _
theorem B3{P:List Int}(k:YX (X8 xs) xs.length P):(Ko xs V<|XT P xs.length 0).Pairwise (MK xs):=by
 have f:=XH hv;unfold Ko;rw[iK];refine⟨λb _=>Bn hv hr hns b,?_⟩;refine(ru k xs.length 0 Re.root).imp λ{c l} e s a t d=>?_;let⟨m,a⟩:=ol f a;let⟨n,d⟩:=ol f d;refine j7 hv hr hns a d (λb i j=>?_) λg=>?_
 .rcases TY i j with h|h;·exact h
  exact absurd h e
 subst g;exact absurd (Zd<|hr c a.bn) e
end
theorem rc{V:Nat}{d:List (Nat×List Nat)}(h:iw V d){b c:List (Nat×List Nat)}{t:Nat×List Nat}(e:d=b++t::c){s:Nat×List Nat}(a:s∈b++[t]):∀r∈c,r.1≠s.1:=λr hr=>by
 obtain⟨f,g,rfl⟩:=kD hr;have:=h.nd (b++t::f) r g (by rw[e];simp) s (by
  rcases bU.1 a with a|a;·exact dD _ a
  rw[cS.1 a];exact fB _ cI)
 exact λq=>this q.symm
theorem ub{V:Nat}{c:List (Nat×List Nat)}(h:iw V c){a b:List (Nat×List Nat)}{t:Nat×List Nat}(e:c=a++t::b)(C:Nat->Int):Kq C c t.1=(LR (Kq C a) t.2:Int)/\(∀s∈a,Kq C c s.1=Kq C a s.1)/\Kq C a t.1=C t.1:=by
 have e1:Kq C c=Kq (IC (Kq C a) t) b:=by rw[e];unfold Kq;rw[dT];rfl
 refine⟨?_,λs d=>?_,TE a C λs d=>h.nd a t b e s d⟩
 .rw[e1,TE b _<|rc h e (fB _<|cS.2 rfl)];unfold IC;rw[aU rfl]
 rw[e1,TE b _<|rc h e (dD _ d)];unfold IC;rw[aM<|h.nd a t b e s d]
theorem Eu{V:Nat}{xs:List Xe}{c:List (Nat×List Nat)}(h:iw V c)(k:c.Pairwise (MK xs))(C:Nat->Int){u w b i:Nat}(o:u<V)(p:w<V)(m:u≠w)(g:In xs u b i)(j:In xs w b i):Kq C c u≠Kq C c w:=by
 have l:∀(s t:Nat×List Nat)(d f:List (Nat×List Nat)),c=d++t::f->s∈d->In xs s.1 b i->In xs t.1 b i->Kq C c s.1≠Kq C c t.1:=λs t d f e a q r=>by
  let⟨q1,q2,_⟩:=ub h e C;rw[q1,q2 s a];rw[e,kY]at k;exact(ke _ _).free s.1 (k.2.2 s a t cI b i q r)
 obtain⟨s,a,rfl⟩:=h.all u o;obtain⟨t,n,rfl⟩:=h.all w p;let⟨d,f,e⟩:=kD n;rw[e]at a;rcases bU.1 a with a|a;·exact l s t d f e a g j
 rcases cH.1 a with a|a;·exact absurd (by rw[a]) m
 let⟨v,x,e2⟩:=kD a;exact λy=>l t s (d++t::v) x (by rw[e,e2];simp) (fB _ cI) j g y.symm
theorem DE{V:Nat}{b:List (Nat×List Nat)}(h:iw V b){t:Nat×List Nat}(j:t∈b)(d:t.1∈t.2):Kq (λ_=>-1) b t.1+1<=t.2.length:=by
 let⟨a,n,e⟩:=kD j;let⟨q1,_,m⟩:=ub h e λ_=>-1;rw[q1];have g:=(ke (Kq (λ_=>-1) a) t.2).low;generalize LR (Kq (λ_=>-1) a) t.2=c at*;have f:=K3 (A:=List.range c) (B:=(t.2.erase t.1).map λu=>(Kq (λ_=>-1) a u).toNat) kS (λx l=>by
  let⟨u,k,e⟩:=g x<|bE.1 l;have i:u≠t.1:=λe2=>by rw[e2,m]at e;omega
  exact aY.2 ⟨u,(iF i).2 k,by rw[e];rfl⟩)
 rw[bK,fP d,gI]at f;have:=eJ d;omega
theorem tG{C:Nat->Int}{M:Int}(a:0<=M):∀V,(∀u,u<V->C u+1<=M)->Hy C V<=M
 |0,_=>a
 |V+1,h=>by
  rw[Hy];have b:=tG a V λu d=>h u oM;have c:=h V<|iJ _;omega
theorem oC{C:Nat->Int}{u:Nat}:∀V,u<V->C u+1<=Hy C V
 |V+1,h=>by
  rw[Hy];by_cases e:u=V;·subst e;omega
  have:=oC (C:=C) V (show u<V by omega);omega
theorem sF{xs:List Xe}{V:Nat}{l:List Nat}(h:l∈Zw xs V xs.length):∃(b:Nat)(f:b<xs.length)(i:Nat),i<=xs[b].is.length/\l=Uq xs xs[b] V b i:=by
 let⟨s,a,c⟩:=bV.1 h;have a:=bE.1 a;let⟨i,d,e⟩:=(Jr a).1 c;exact⟨s,a,i,d,e⟩
theorem tU(xs:List Xe)(x:Xe)(V b i:Nat):(Uq xs x V b i).Nodup:=by
 unfold Uq;exact List.nodup_range.sublist jR
theorem DY{xs:List Xe}{V:Nat}{l:List Nat}(h:l∈Zw xs V xs.length):l.length<=IA (Zw xs V xs.length):=(TL _ _).1 (aA _) l h
theorem C4{V:Nat}{xs:List Xe}{P:List Int}(hv:XJ ⟨(V:Int),xs⟩=true)(hr:Jq xs)(hns:¬∃x,Ic xs x)(j:YX (X8 xs) xs.length P) :
 Hy (Kq (λ_=>-1) (Ko xs V<|XT P xs.length 0)) V=(IA (Zw xs V xs.length):Int)/\(∀l∈Zw xs V xs.length,(l.map λu=>(Kq (λ_=>-1) (Ko xs V<|XT P xs.length 0) u).toNat).Nodup)/\∀u,u<V->0<=Kq (λ_=>-1) (Ko xs V<|XT P xs.length 0) u:=by
 have C:=XH hv;have i:=tu hv hr j;have D:=B3 hv hr hns j;have g:∀u,u<V->0<=Kq (λ_=>-1) (Ko xs V<|XT P xs.length 0) u:=λu c=>UP _ _<|aZ (i.all u c)
 have E:∀v∈Ko xs V (XT P xs.length 0),∃b k,ME V xs b k v:=λv a=>by
  let⟨b,_,a⟩:=bV.1 a;let⟨k,a⟩:=ol C a;exact⟨b,k,a⟩
 generalize K:Ko xs V (XT P xs.length 0)=e at*;have p:∀l∈Zw xs V xs.length,(l.map λu=>(Kq (λ_=>-1) e u).toNat).Nodup:=λl d=>by
  obtain⟨b,m,G,n,rfl⟩:=sF d;show List.Pairwise _ _;rw[List.pairwise_map];refine jT (λ{u H} c r B I=>?_) (tU xs xs[b] V b G);have f:=JF d c;have s:=JF d r;have:=Eu i D (λ_=>-1) f s B (In.of m n c) (In.of m n r);have w:=g u f;have y:=g H s;omega
 refine⟨?_,p,g⟩;have w:Hy (Kq (λ_=>-1) e) V<=(IA (Zw xs V xs.length):Int):=tG oM V (λu c=>by
  obtain⟨t,q,rfl⟩:=i.all u c;let⟨b,k,a⟩:=E t q;have e2:=a.st _<|aC a.bn;have o:=a.kn _<|aC a.bn;have A:t.1∈t.2:=by
   rw[e2];exact In.to_ a.lt a.bn ⟨xs[b]'a.bn,aC a.bn,o,bC a.df⟩
  have h:=DE i q A;have z:=DY<|bV.2 ⟨b,bE.2 a.bn,(Jr a.bn).2 ⟨k,o,e2⟩⟩;omega)
 have y:IA (Zw xs V xs.length)<=(Hy (Kq (λ_=>-1) e) V).toNat:=(TL _ _).2 (λl d=>by
  have h:=YS (p l d) (n:=(Hy (Kq (λ_=>-1) e) V).toNat) (λx F=>by
   obtain⟨u,c,rfl⟩:=aY.1 F;have f:=JF d c;have z:=oC (C:=Kq (λ_=>-1) e) V f;have J:=g u f;omega)
  rw[bK]at h;exact h)
 have h:=UJ (Kq (λ_=>-1) e) V;omega
theorem sW{xs:List Xe}{V:Nat}:IA (Zw xs V xs.length)<=V:=(TL _ _).2 (λl a=>by
 obtain⟨b,d,i,_,rfl⟩:=sF a;exact YS (tU _ _ _ _ _) λu c=>JF a c)
end
structure NE(F:Fn)(w w':World)(a:Option Addr)(m:Nat):Prop where
 len:m=F.blocks.length
 low:Below w.heap.size w w'
 at_:Xp w' w.heap.size w'.heap.size a F.blocks
 tot:F.blocks.length+Xx F.blocks<=1048576
theorem zX(i:Option Addr)(n c:Nat)(bs:List UInt8)(L B:Nat)(w:World)(ha:Hs (Yx w L B i bs))(E:Hs (n=bs.length))(D:n<=1048576)(A:B<=w.heap.size) :
 Calls prog 4 #[.slice i n c] w λj G=>∃e m f,j=.returned (.agg #[Hp (IL<|WB bs).values,.slice e m f])/\NE (IL<|WB bs) w G e m:=by
 have p:=Xa<|ha.keep (Below.alloc (Below.refl B w) A (.cells #[Hp 0,Hq] 25))
 go_in
 go_wp2_with fail
 refine(xV i n c bs L B _ p E D<|by simp;omega).mono ?_;rintro j b⟨rfl,k,l,o⟩;rw[aO]at k l o |-;have v:Hs (ZQ b (w.heap.size+1) b.heap.size (WB bs)):=Xa ⟨o,Du bs,l,aA _⟩;have r:=Xa k;have J:w.heap.size+2<=b.heap.size:=oM;clear k l o p;go_wp2_with fail
 refine(yZ (w.heap.size+1) b.heap.size (WB bs) b v).mono ?_;rintro j d⟨⟨e,m,f,rfl,s,t⟩,u⟩;have x:=Xa s;have a:=Xa t;have y:=Xa u;clear s t u;have h:Hs (Bx d w.heap.size #[Hp 0,Hq] 25):=Xa<|((Bx.new w _ _).keep (r.block _ oM)).keep (a.low _ oM oM);have z:Cl d w.heap.size 0 (Hp 0):=Bx.cell h.o rfl;have f1:Cl d w.heap.size 1 Hq:=Bx.cell h.o rfl;have H:=Bx.thaw h.o;go_wp2;refine cC (v:=.agg #[Hp (IL<|WB bs).values,.slice e m f]) (by simp[results,results4,go_sem,z,f1]) rfl ⟨e,m,f,rfl,x.o,?_,?_,y.o⟩
 .have g:Below w.heap.size w b:=(Below.alloc (Below.refl _ _) (aA _) _).trans (r.mono oM);have F:Below w.heap.size w d:=⟨a.os.trans g.os,a.tape.trans g.tape,a.output.trans g.output,aJ g.size a.size,λq hq=>(a.low q oM oM).trans (g.block q hq)⟩;exact(F.setCell (p:=Hk w.heap.size 0) (aA _) _).setCell (p:=Hk w.heap.size 1) (aA _) _
 have C:YA b.heap.size d.heap.size d ((d.setCell (Hk w.heap.size 0) (Hp (IL<|WB bs).values)).setCell (Hk w.heap.size 1) (.slice e m f)):=λq I _=>by
  have hq:q≠w.heap.size:=oM;exact(Below.heap_setCell _ _ _ _ hq).trans (Below.heap_setCell _ _ _ _ hq)
 exact(a.at_.keepS C).mono oM (by simp[World.setCell])
theorem vU(o:Option Addr)(n c:Nat)(a:List Int)(L B:Nat)(w:World)(ha:Hs (Xf w L B o a))(j:Hs (n=a.length))(W:n<=1048576)(Q:B<=w.heap.size) :
 Calls prog 10 #[.slice o n c] w λe y=>∃g C,e=.returned (Hl g n C)/\Below w.heap.size w y/\w.heap.size<=g/\Hb y g n C (λi=>a.getD i 0):=by
 let⟨N,H,J,K,M⟩:=fX Nv
 go_in
 go_wp2
 go_loopw [3,4] (λu i wr=>∃k:Nat,k<=n/\i=Hp k/\Hs (Below w.heap.size w wr)/\Hs (wr.ownsRow w.heap.size 2 1 u k ((a.take k).map (Value.int .i64))/\u≠Hq)) λ_ i _=>n-(intOf i).toNat
 case atStart=>
  refine⟨0,aN _,rfl,Xa<|Xb (Below.refl _ _) _,Xa ⟨?_,sP⟩⟩;exact eI (base:=w.heap.size) (e:=2) (size:=1) w #[] 0 sP sP rfl
 obtain⟨k,T,rfl,h,d⟩:=hrel;by_cases V:k<n
 .have s:k<a.length:=oN j.o;obtain⟨b,Y,rfl,⟨_,R⟩,q⟩:=ha.o k s;have S:=(XU h.o oM).trans q;have D:Hs (a.take (k+1)=a.take k++[a[k]]):=Xa<|X7 _ _ s;have U:(a.take k).length=k:=by rw[dH];omega
  have X:=h.size;generalize a[k]=P at*;generalize a.take k=Z at*;go_wp2_with (at_builtin;refine fT _ rfl _ _ 27 rfl w.heap.size 2 N (Hp 0) 1 8 underlying27 H J K M rfl vZ _ _ _ rfl (d.1.alloc _) (Hk wr.heap.size 0) 1 1 [Hp P] rfl rfl ?c1 ?c2 ?c3 ?c4 ?c5 ?_)
  case c1=>
   intro O u f
   match O,f with
   |0,f=>simp at f;subst f;simp[Addr.add]
  case c2=>intro u x;simp at x;subst x;rfl
  case c3=>unfold maxLen;omega
  case c4=>omega
  case c5=>simp;omega
  intro v1 w1 v r t;have F:=Xa v;have z:=Xa (Xy (Xb h.o _) r (d.1.alloc _) (aA _) (by simp;omega));have E:Hs (v1≠Hq):=Xa t;go_wp2;exact⟨⟨k+1,oM,gM,z,Xa ⟨by rw[D.o,Yl];simpa using F.o,E.o⟩⟩,by simp[intOf];omega⟩
 have I:k=n:=oM;subst I;have e:=aW (l:=a) (i:=k) (oN j.o);have m:=d.1;rw[e,j.o]at m;let⟨g,C,p,G,l⟩:=Hb.of_own m d.2;rw[<-j.o]at p l;have A:=Xa l;subst p;go_wp2;go_ret;exact⟨g,C,rfl,h.o,G,A.o⟩
theorem Hb.ints{D:Nat->Int}(h:Hb w n m k D):Xf w 0 w.heap.size (some ⟨n,0,none⟩) ((List.range m).map D):=λi a=>by
 simp only[bK,gI]at a;refine⟨n,0,rfl,⟨aN _,h.lt⟩,?_⟩;simp only[cM,dW,aV];exact h.cell a
structure LC(w wr:World)(Bd fb cb:Nat)(V:Int)(xs:List Xe)(a1:Option Addr)(m1 c1 g Vn:Nat)(ct:Int)(D:Nat->Int):Prop where
 low:Below w.heap.size w wr
 wb:w.heap.size<=Bd
 bd:Bd<=wr.heap.size
 fl:fb<Bd
 cl:cb<Bd
 gl:g<Bd
 fbx:Bx wr fb #[.int .i64 V,.slice a1 m1 c1] 25
 cbx:Bx wr cb #[.int .i64 0,.slice (some ⟨g,0,none⟩) Vn Vn,.int .i64 ct] 29
 at_:Xp wr 0 Bd a1 xs
 ia:Hb wr g Vn Vn D
theorem LC.keep{wr w':World}{m1 c1:Nat}{D:Nat->Int}(h:LC w wr n m k t x p m1 c1 B g T D)(a:Below n wr w'):LC w w' n m k t x p m1 c1 B g T D :=
 ⟨h.low.trans<|a.mono h.wb,h.wb,aJ h.bd a.size,h.fl,h.cl,h.gl,h.fbx.keep<|a.block _ h.fl,h.cbx.keep<|a.block _ h.cl,h.at_.keep a,h.ia.of_block<|a.block _ h.gl⟩
theorem LC.next{wr:World}{m1 c1:Nat}{D:Nat->Int}(h:LC w wr n m k t x p m1 c1 B g T D)(a:Below wr.heap.size wr v):LC w v n m k t x p m1 c1 B g T D:=h.keep<|a.mono h.bd
theorem LC.drew{wr:World}{m1 c1:Nat}{D:Nat->Int}(h:LC w wr n m k t x p m1 c1 B g T D):LC w wr.drew n m k t x p m1 c1 B g T D:=h.keep (Below.refl _ _).drew
theorem LC.cells{wr:World}{m1 c1:Nat}{D:Nat->Int}(h:LC w wr n m k t x p m1 c1 g B T D):wr.cell? (Hk k 0)=some (Hp 0)/\wr.cell? (Hk k 1)=some (Hl g B B)/\wr.cell? (Hk k 2)=some (Hp T)/\wr.cell? (Hk m 0)=some (Hp t)/\wr.cell? (Hk m 1)=some (.slice p m1 c1) :=
 ⟨Bx.cell h.cbx rfl,Bx.cell h.cbx rfl,Bx.cell h.cbx rfl,Bx.cell h.fbx rfl,Bx.cell h.fbx rfl⟩
theorem Co(h:XJ ⟨t,x⟩=true):∃n:Nat,t=(n:Int):=by
 simp only[XJ,bY]at h;let⟨⟨⟨⟨a,_⟩,_⟩,_⟩,_⟩:=h;simp only[Y6,bY,bD]at a;exact bX a.1.1.1.1
noncomputable def Le(V:Nat)(a:List Xe):Nat->Int:=Kq (λ_=>-1) (Ko a V<|XT ((List.range a.length).map (G9<|(List.range a.length).map (Zq (X8 a) a.length))) a.length 0)
theorem CC(h:E5 (n:Int) x=0):Hy (Le n x) n=(IA (Zw x n x.length):Int)/\Lr (n:Int) x ((List.range n).map (Le n x)) (Hy (Le n x) n):=by
 let⟨d,f⟩:=TX h;have e:=XH d;have q:¬∃s,Ic x s:=λo=>by
  rw[lT d f o]at h;omega
 let⟨i,k,m⟩:=C4 d f q e.okf.model;have j:Hy (Le n x) n=(IA (Zw x n x.length):Int):=i;have v:=@sW x n;have t:=e.vle;refine⟨j,h,oM,oM,sP,λc p=>?_,λl b=>?_⟩
 .obtain⟨u,a,rfl⟩:=aY.1 p;have a:=bE.1 a;have:=oC (C:=Le n x) n a;exact⟨m u a,oM⟩
 have g:l.map (US<|(List.range n).map (Le n x))=l.map λu=>(Le n x u).toNat:=by
  apply gH;intro u a;have r:u<n:=JF b a;unfold US Hh;rw[bF,dX,iQ r];rfl
 rw[dM]at b;rw[g];exact k l b
abbrev vV:=@MP 90<|aZ (aZ rfl)
abbrev wY:=@Mg 92<|aZ (aZ rfl)
abbrev wA:=@Mi 56<|aZ rfl
abbrev xh:=@Ml 39<|aZ rfl
section
attribute [local go_sem] Oper.semAt_some
theorem Bp{p q:Nat}(h:p<=q)(a:n∈Hc f p):n∈Hc f q:=by
 have:=jo.1 a;exact jo.2 ⟨oM,this.2⟩
theorem BM(l i b C:Nat)(W:Nat->Nat)(g:Nat->Prop)(w:World)(K:w.cell? (Hk l 0)=some (Hl i b C))(F:Hs (Bf w i b C W))(L:Hs (XA W))(A:Hs (Jn w))(hK:b<=100)(Z:Hs (¬g i))(aa:Hs (¬g 2)) :
 ld Fence.wide 7 prog 123 #[Hn l] (λx:Nat=>#[Hp x]) (λx _=>x∈Hc W (64*b)) (Zf w.heap.size g) (λxs=>xs=Hc W (64*b)) (Hc W<|64*b).length w:=by
 intro a0 J s m hl u B f;have r:=Xa B;have HJ:=Xa u;have P:=Xa f;have Y:l<w.heap.size:=aI w _ K;have ar:=oB m K Y;have Q:=Xa<|F.of_block (m.block i F.lt);have ab:(2: Nat)<w.heap.size:=aI w _<|A 0 vZ;have V:=Xa<|A.of_block (m.block _ ab);refine iD func123 rfl trivial ?_ rfl;simp only[ntmps123,xY,Nat.reduceAdd,Nat.reduceSub];gi_wp2
 gi_loopw [8] (λo wr=>∃k:Nat,k<=b/\o=Hp k/\Hs (J (Hc W<|64*k) wr)/\Zf w.heap.size g s wr) λo _=>b-(intOf o).toNat
 case atStart=>exact⟨0,aN _,rfl,Xa (by rw[Nat.mul_zero];exact P),Zf.refl _⟩
 obtain⟨k,hk,rfl,d,n⟩:=hrel;by_cases ad:k<b
 .have D:=n.cell (Q.cell ad) Z;have c:=Xa<|fk.start L k;have aj:=L k;generalize al:W k=yk at D c aj;generalize wr=wo at*;have aq:IntKind.i64.wrap ((k:Int)*64)=(k:Int)*64:=by rw[dF];omega
  have e:=Xa n;gi_wp2
  gi_loopw [4] (λy wr=>∃a p:Nat,y=.int .u64 a/\Hs (fk W k p a)/\Hs (J (Hc W<|64*k+p) wr)/\Hs (Zf w.heap.size g s wr)) λy _=>(intOf y).toNat
  case atStart=>exact⟨yk,0,rfl,c,d,e⟩
  obtain⟨a,p,rfl,c,d,e⟩:=hrel;have N:=c.lt;by_cases f:a=0
  .subst f;gi_wp2;exact⟨⟨k+1,oM,gM,Xa (by rw[c.done];exact d),e⟩,by simp[intOf];omega⟩
  let⟨O,j,n3,n4⟩:=c.next f;have T:=Xa O;have U:=Xa j;have az:((a:Int)==0)=false:=by simp;omega
  have ax:IntKind.u64.wrap ((a:Int)-1)=((a-1:Nat):Int):=by rw[iV];omega
  have ay:=bits_and_u64_nat a (a-1) N oM;have q:=Xa<|DD a N f wr (Xa<|V.of_block (e.low _ oM aa));have H:(Hc W<|64*k+p).length<(Hc W<|64*b).length:=by
   have t:=fI List.length j;have h2:=DT (W:=W) (p:=64*k+(Lib.ctz 64 a+1)) (q:=64*b) oM;rw[aQ]at t;simp at t;omega
  have I:64*k+Lib.ctz 64 a∈Hc W (64*b):=Bp (q:=64*b) (p:=64*k+(Lib.ctz 64 a+1)) oM (by rw[j];simp);let⟨fn,tmps,ao,bo,M,z⟩:=r _ (64*k+Lib.ctz 64 a) wr d I H;generalize Lib.ctz 64 a=h at*;generalize a&&&(a-1)=yn at*;have ap:IntKind.i64.wrap ((k:Int)*64+(h:Int))=(k:Int)*64+(h:Int):=by rw[dF];omega
  have E:(((64*k+h:Nat)):Int)=(k:Int)*64+(h:Int):=oM;rw[E]at M;gi_wp2;refine⟨trivial,(bM.2 q).mono ?_⟩;rintro X w1⟨rfl,af⟩;subst af;gi_wp2;refine z.mono ?_;rintro X W3⟨rfl,v,G,_⟩;have R:=Xa v;have S:=Xa<|e.trans G;gi_wp2;exact⟨⟨yn,h+1,rfl,T,Xa (by rw[U.o];exact R),S⟩,by simp[intOf];omega⟩
 have ac:k=b:=oM;gi_wp2
 go_end0
 exact⟨⟨_,rfl⟩,_,rfl,by rw[<-ac];exact d⟩
end
section
attribute [local go_sem] Oper.semAt_some
structure Iv(w6:World)(gT Kr:Nat)(R:Nat->Prop)(U:World):Prop where
 os:U.os=w6.os
 tape:U.tape=w6.tape
 output:U.output=w6.output
 size:w6.heap.size<=U.heap.size
 gl:gT<w6.heap.size
 fr:∀q,q<w6.heap.size->q≠gT->U.heap[q]?=w6.heap[q]?
 st:∃T:Nat->Nat,Bf U gT Kr Kr T/\XA T/\∀c,c<64*Kr->(Xh T c=true↔R c)
section
variable {w6 U U': World} {gT Kr: Nat} {R R': Nat -> Prop}
theorem Iv.far(h:Iv w6 gT Kr R U)(k:Below w6.heap.size U U'):Iv w6 gT Kr R U':=by
 let⟨T,a,b⟩:=h.st;exact⟨k.os.trans h.os,k.tape.trans h.tape,k.output.trans h.output,aJ h.size k.size,h.gl,λq q1 q2=>(k.block q q1).trans (h.fr q q1 q2),T,a.of_block<|k.block _ h.gl,b⟩
theorem Iv.congr(h:Iv w6 gT Kr R U)(e:∀c,c<64*Kr->(R c↔R' c)):Iv w6 gT Kr R' U:=by
 let⟨T,b,d,f⟩:=h.st;exact⟨h.os,h.tape,h.output,h.size,h.gl,h.fr,T,b,d,λc a=>(f c a).trans (e c a)⟩
theorem Iv.own(w6:World)(gT Kr:Nat){a:Type}(R:a->Nat->Prop):OwnFrom w6.heap.size (λs U=>Iv w6 gT Kr (R s) U):=λs A U row h k q=>by
 have:=h.size;exact h.far ⟨k.os,k.tape,k.output,k.size,λb c=>k.block b oM λe=>by have:=(q b e.symm).1;omega⟩
theorem Iv.cell(h:Iv w6 gT Kr R U){b o:Nat}{v:Value}(c:b≠gT)(a:w6.cell? (Hk b o)=some v):U.cell? (Hk b o)=some v:=(Xc<|h.fr b (aI w6 _ a) c).trans a
theorem Iv.turn(h:Iv w6 gT Kr R U){X:Nat->Nat}(k:U.grownBy U' (some gT))(b:Bf U' gT Kr Kr X)(d:XA X)(a:∀c,c<64*Kr->(Xh X c=true↔R' c)):Iv w6 gT Kr R' U':=by
 have f:=h.size;exact⟨k.os.trans h.os,k.tape.trans h.tape,k.output.trans h.output,aJ h.size k.size,h.gl,λq q1 q2=>(k.block q oM λe=>q2<|by injection e).trans (h.fr q q1 q2),X,b,d,a⟩
end
def ft(a:List Int)(l:List Nat)(c:Nat):Prop:=∃v∈l,a[v]?=some (c:Int)
theorem VA(z g C:Nat)(W:Nat->Nat)(H:Option Addr)(n I t Kr:Nat)(l:List Int)(bz ar:Nat)(w:World)(S:Hs (Bf w z g C W))(cb:Hs (XA W))(ha:Hs (Xf w bz ar H l))(hx:Hs (n=l.length))(hB:ar<=w.heap.size)(hT:Hs (Jn w))(hK:g<=100)(b5:Hs (Ib n g W))(hr:t<=2000)(aj:Hs (Kr=(t+63)/64))(hc:Hs (∀c∈l,c=-1\/0<=c/\c<t)) :
 Calls prog 38 #[.agg #[Hl z g C],.slice H n I,Hp t] w λs o=>∃ac ab,s=.returned (.agg #[Hl ac Kr Kr])/\w.heap.size<=ac/\Below w.heap.size w o/\Bf o ac Kr Kr ab/\XA ab/\∀c,c<64*Kr->(Xh ab c=true↔ft l (Hc W<|64*g) c):=by
 have HN:=Xa λW=>vV t W oM;simp only[<-aj.o]at HN;have cl:Kr<=100:=oN aj.o;have cr:t<=64*Kr:=oN aj.o;refine(bM (n:=8)).1 ?_;refine callsIn_of_wp_marks func38 rfl trivial ?_ rfl;simp only[ntmps38,xY,Nat.reduceAdd,Nat.reduceSub];gi_wp2
 have ch:=S.lt;have N:(λi:World=>Hs (Below w.heap.size w i)/\w.heap.size+3<=i.heap.size/\i.cell? (Hk w.heap.size 0)=some (Hl z g C)/\i.cell? (Hk (w.heap.size+1) 0)=some (.slice H n I)/\Hs (i.rowIs (w.heap.size+2) 93 1 λ_=>Hq)) (((w.alloc<|.cells #[Hl z g C] 59).alloc (.cells #[.slice H n I] 27)).alloc (.cells #[Hq] 93)):=⟨Xa<|Xb (Xb (Xb (Below.refl _ _) _) _) _,sP,(by simp[go_sem]),(by simp[go_sem]),(Xa (by
  have h:=eK ((w.alloc<|.cells #[Hl z g C] 59).alloc (.cells #[.slice H n I] 27)) #[Hq] 93 (λ_=>Hq) (λT L=>by match T,L with|0,_=>rfl)
  rw[aO,aO]at h;exact h))⟩
 generalize ((w.alloc _).alloc _).alloc _=w0 at*;let⟨ay,ct,c3,c4,a3⟩:=N;refine⟨trivial,(bM.2<|HN w0).mono ?_⟩;rintro s p⟨gT,rfl,co,K,al⟩;have cv:=K.size;have d3:=(XU K oM).trans c3;have d4:=(XU K oM).trans c4;have az:=Xa<|Xg ay K;have a4:=Xa<|a3.of_block (K.block _ oM);have a5:=Xa al;have cq:=al.lt;have e3:=λob=>(bP p ob (Hk w.heap.size 0) (by show w.heap.size<_;omega)).trans d3;clear K al c3 c4 HN a3 ay;gi_wp2;have N:(λi:World=>Below p.heap.size p i/\p.heap.size+1<=i.heap.size/\i.cell? (Hk p.heap.size 0)=some (Hl gT Kr Kr)) (p.alloc<|.cells #[Hl gT Kr Kr] 93):=⟨Xb (Below.refl _ _) _,sP,(by simp[go_sem])⟩;generalize p.alloc _=y at*;let⟨m,cx,c7⟩:=N;clear e3;refine⟨trivial,(Eg 7 (some ⟨z,0,none⟩) g C y).mono ?_⟩;rintro s A⟨rfl,B⟩;have af:Below y.heap.size y A:=by rw[B];exact Xb (Below.refl _ _) _
 have cw:y.heap.size+1<=A.heap.size:=by rw[B,aO];exact aA _
 have a7:A.cell? (Hk y.heap.size 0)=some (Hl z g C):=by rw[B];simp[go_sem]
 have G:=Xa<|Xg m af;have r:=Xa<|Xg az G;have f4:=(XU G oM).trans d4;have f7:=(XU af oM).trans c7;have bp:=Xa<|a4.of_block (G.block _ oM);have bq:=Xa<|a5.of_block (G.block _ oM);have b1:(2: Nat)<w.heap.size:=aI w _<|hT 0 vZ;have bx:=Xa<|S.of_block (r.block z ch);have br:=Xa<|hT.of_block (r.block _ b1);have bl:=Xa f4;have a1:=Xa f7;have bi:=Xa a7;clear m af B c7 d3 d4 f4 f7 a7 az a4 a5;gi_wp2
 have bm:Hs (Iv A gT Kr (ft l []) A):=Xa ⟨rfl,rfl,rfl,aA _,oN G.size,λ_ _ _=>rfl,λ_=>0,⟨aA _,λ_=>Hq,bq.congr λT L=>by rw[aU L]⟩,KW,λc _=>⟨λh=>by simp[Xh]at h,λh=>by let⟨v,d,_⟩:=h;simp at d⟩⟩;have c6:=G.size;refine tH (F:=Fence.wide) (n:=8) rfl vZ (gf:=123) (lb:=#[Hn y.heap.size]) rfl trivial (enters_of func123 kR rfl) (BM y.heap.size z g C W (λq=>q=gT) A bi bx cb br hK (Xa oM) (Xa oM)) (λ_ _ _ _ h _ _=>h) (λh ci=>h.trans ci) (λW V Y P d a k=>Zf.putObj W V Y P d a k) (Below.refl _ _) (λ_=>rfl)
  (λap U=>Iv A gT Kr (ft l ap) U) (Iv.own A gT Kr<|ft l) bm
  (λx a' U=>a'=⟨#[.agg #[Hl z g C],.slice H n I,Hp t,Hn w.heap.size,Hn<|w.heap.size+1,undef,Hn<|w.heap.size+1+1,Hn p.heap.size,Hp x,Hp t,.agg #[Hl gT Kr Kr],.agg #[Hl z g C],.func (.func 123) #[] #[Hn y.heap.size],Hp x,undef,undef,undef,undef,undef,undef,undef,undef,undef,undef,undef,undef,undef],[]⟩) (λ_ _ _ _ _ _ h _ _=>h) ?assign ?body ?done
 case assign=>
  intro V ap x U a6 e hP ba;have f:=Xa e;have bo:=Xa ba;clear e ba;gi_wp2;exact bo _ _ (KeepsOthers.refl _) (Zf.refl _) f hP rfl
 case body=>
  rintro V ap x a' U e hP rfl b4;have f:=Xa e;have bf:=jo.1 hP;have cd:=b5 x bf.1 bf.2;have ao:x<l.length:=by rw[<-hx.o];exact cd
  obtain⟨b,Y,rfl,hb,a8⟩:=ha x ao;have e0:=e.cell oM<|(XU r oM).trans a8;have e4:=e.cell oM bl;have e7:=e.cell oM a1;have cm:=hc _<|aH ao;have HG:=Xa<|aC ao;have b7:=e.size;generalize l[x]=aq at*;have cz:(x:Int)<(n:Int):=oM;clear e a8 b4;by_cases hy:aq=-1
  .subst hy;have ce:((-1:Int) != -1)=false:=vZ;gi_wp2;refine⟨KeepsOthers.refl _,Zf.refl _,f.congr λc _=>?_⟩;constructor;·rintro⟨v,d,a⟩;exact⟨v,dD _ d,a⟩
   rintro⟨v,d,a⟩;rcases bU.1 d with k|k;·exact⟨v,k,a⟩
   rw[cS.1 k,HG.o]at a;injection a with a;omega
  have ce:(aq != -1)=true:=by rw[jJ];exact hy
  obtain⟨u,rfl⟩:=bX (show 0<=aq by omega);have ca:u<64*Kr:=oM;let⟨X,J,O,Q⟩:=f.st;have HX:=Xa J;have bw:=Xa O;have bv:=Xa Q;have ax:Hs (∀j,Below U.heap.size U j->U.heap.size+1<=j.heap.size->j.cell? (Hk U.heap.size 0)=some (Hp u)->Calls prog 92 #[.agg #[Hl gT Kr Kr],Hl U.heap.size 1 1] j λs o=>s=.returned (.tuple #[])/\j.grownBy o (some gT)/\Bf o gT Kr Kr (C3 X [u])):=Xa (λj d a k=>by
   refine wY gT Kr Kr 1 1 X (some ⟨U.heap.size,0,none⟩) [u] U.heap.size (U.heap.size+1) j (Xa λT L=>?_) (Xa rfl) vZ (Xa λz S=>by rw[cS.1 S];exact ca) oM (Xa O) (Xa<|J.of_block (d.block _ J.lt)) a (oN f.gl);have b3:T=0:=by simp at L;exact L
   subst b3;exact⟨U.heap.size,0,rfl,⟨aA _,oM⟩,k⟩)
  clear J O Q;gi_wp2;refine Tc (λo=>o.cell? (Hk p.heap.size 0)=some (Hl gT Kr Kr)/\o.cell? (Hk (w.heap.size+1) 0)=some (Hm b Y n I)/\o.cell? (Hk b<|Y+x)=some (Hp u)) λhHeld=>?_;refine Yi 0 ?_;refine Yi 1 ?_;refine Yi 2 ?_;refine Yi 3 ?_;refine Yi 4 ?_;refine Yc 5 λa6 hK=>?_;go_simp;have N:(λi:World=>Below U.heap.size U i/\U.heap.size+1<=i.heap.size/\i.cell? (Hk U.heap.size 0)=some (Hp u)) ((U.alloc<|.cells #[Hp u] 95).drew):=⟨(Xb (Below.refl _ _) _).drew,(by simp[World.drew]),(by simp[go_sem])⟩;generalize (U.alloc _).drew=j at*;let⟨m,cf,bb⟩:=N;have F:=Xa m;have g0:=oB m e0<|aI U _ e0;have g4:=oB m e4<|aI U _ e4;have g7:=oB m e7<|aI U _ e7;have a0:=Xa<|ax.o j m cf bb;clear ax m bb e0 e4 e7;refine hK _ _ ⟨g7,g4,g0⟩ λhHeld=>?_;clear hK;refine Yc 6 λa6 hK=>?_;go_simp;refine⟨trivial,(CallsIn.inRound V<|bM.2 a0).mono ?_⟩;rintro s U3⟨rfl,E,B⟩;have Z:∀(M P:Nat)(v:Value),M≠gT->j.cell? (Hk M P)=some v->U3.cell? (Hk M P)=some v:=λM P v d a=>(Xc<|E.block M (aI j _ a) λs=>d<|by injection s).trans a;have aa:Hs (U.grownBy U3<|some gT):=Xa ⟨E.os.trans F.os,E.tape.trans F.tape,E.output.trans F.output,aJ F.size E.size,λq q1 q2=>(E.block q (aX q1 F.size) q2).trans (F.block q q1)⟩;have bt:=Xa B;refine hK _ _ ⟨Z _ _ _ oM g7,Z _ _ _ oM g4,Z _ _ _ oM g0⟩ λhHeld=>?_;clear hK E B Z g0 g4 g7 a0
  try simp only[xX]
  refine ZV ?_;clear hHeld;gi_wp2;refine⟨Jc aa HX.obj,Zg aa rfl b7,f.turn aa bt (Zs [u] bw) λc b0=>?_⟩;rw[YR,dI,bv.o c b0,bD,cS];constructor
  .rintro(h|⟨v,d,a⟩);·exact⟨x,fB _<|cS.2 rfl,by rw[HG.o,h]⟩
   exact⟨v,dD _ d,a⟩
  rintro⟨v,d,a⟩;rcases bU.1 d with k|k;·exact aZ ⟨v,k,a⟩
  rw[cS.1 k,HG.o]at a;injection a with a;exact bC (by have h4:=a;omega)
 rintro D xs U hD rfl e a9;have f:=Xa e;have a2:=Xa a9;have h7:=e.cell oM a1;have ad:=bp.of_block<|e.fr (w.heap.size+2) oM oM;have h6:=ad.cell (i:=0) vZ;have cj:=ad.frozen 0;have cg:=e.size;clear e a9;have ck:=(aS.1 a2).1;gi_wp2
 have bn:Hs ((U.setCell (Hk (w.heap.size+2) 0) (Hl gT Kr Kr)).heap[D]?=some (.deferred (some []))):=Xa ((Below.heap_setCell _ _ _ _<|by show D≠w.heap.size+2;omega).trans a2);have b6:((U.setCell (Hk (w.heap.size+2) 0) (Hl gT Kr Kr)).putObj D (.deferred none)).cell? (Hk (w.heap.size+2) 0)=some (Hl gT Kr Kr):=by
  refine(bZ (a:=(Hk (w.heap.size+2) 0)) (World.putObj_heap_other<|show w.heap.size+2≠D by omega)).trans ?_;have:=(ad.set 0<|Hl gT Kr Kr).cell (i:=0) vZ;simpa using this
 refine YK bn ⟨.agg #[Hl gT Kr Kr],by simp[results,results38,go_sem,b6],?_⟩;have bc:∀q,q≠w.heap.size+2->q≠D->((U.setCell (Hk (w.heap.size+2) 0) (Hl gT Kr Kr)).putObj D (.deferred none)).heap[q]?=U.heap[q]?:=λq q1 q2=>(World.putObj_heap_other q2).trans (Below.heap_setCell _ _ _ _ q1);let⟨X,J,O,Q⟩:=f.st;have cp:=f.gl;refine⟨gT,X,rfl,oM,⟨f.os.trans r.os,f.tape.trans r.tape,f.output.trans r.output,?_,λq hq=>(bc q oM oM).trans ((f.fr q oM oM).trans (r.block q hq))⟩,J.of_block<|bc gT oM oM,O,Q⟩;have b8:=r.size;have bd:=(grownBy_putObj' (U.setCell (Hk (w.heap.size+2) 0) (Hl gT Kr Kr)) D (.deferred none)).size;rw[Xd]at bd;exact aJ b8<|aJ cg bd
end
theorem xZ{C:Nat->Int}(h:Hb w n m k C):Xf w 0 w.heap.size (some ⟨n,0,none⟩) ((List.range m).map C):=λi a=>by
 simp only[bK,gI]at a;refine⟨n,0,rfl,⟨aN _,h.lt⟩,?_⟩;simp only[cM,dW,aV];exact h.cell a
theorem z9{C:Nat->Int}(d:∀u∈s,u<n)(c:Nat):ft ((List.range n).map C) s c↔∃u∈s,C u=(c:Int):=by
 unfold ft;constructor
 .rintro⟨u,a,b⟩;exact⟨u,a,by have:=d u a;simpa [this]using b⟩
 rintro⟨u,a,b⟩;exact⟨u,a,by have:=d u a;simp[this,b]⟩
theorem tW(h:Ib n m f):∀u∈Hc f (64*m),u<n:=λu a=>by
 unfold Hc at a;let⟨b,c⟩:=fG.1 a;exact h u (bE.1 b) c
def oS(C:Nat->Int)(l:List Nat)(c:Nat):Prop:=∀a,a < c->∃u∈l,C u=(a:Int)
theorem AO(v V z b q m g d R:Nat)(W:Nat->Nat)(C:Nat->Int)(w:World)(hz:Hs (Bf w z b q W))(a5:Hs (XA W))(Y:Hs (Jn w))(hK:b<=100)(ad:Hs (Ib V b W))(hV:V<=2000)(x:Hs (Hb w g V m C))(hc:Hs (∀u,u<V->C u=-1\/0<=C u/\C u<V))(o:v<V)(hn:Hs (C v=-1))(S:w.cell? (Hk d 0)=some (Hl g V m))(h2:w.cell? (Hk R 0)=some (Hp V))(az:d≠g) :
 Calls prog 37 #[Hp v,.agg #[Hl z b q],Hn d,Hn R] w λe w'=>e=.returned (Hp (LR C (Hc W<|64*b):Int))/\w.grownBy w' (some g)/\Hb w' g V m (IC C (v,Hc W<|64*b)):=by
 let⟨a,X⟩:∃a,a=(V+63)/64:=⟨_,rfl⟩;have I:=Xa (λU (D:Below w.heap.size w U)=>VA z b q W (some ⟨g,0,none⟩) V m V a ((List.range V).map C) 0 U.heap.size U (Xa<|hz.of_block (D.block z hz.lt)) a5 (Xa<|xZ (x.of_block<|D.block g x.lt)) (Xa sP) (aA _) (Xa<|Y.of_block (D.block _<|aI w _ (Y 0 vZ))) hK ad hV (Xa X) (Xa (λc hm=>by
  obtain⟨u,H,rfl⟩:=aY.1 hm;exact hc u<|bE.1 H)))
 have a8:V<=64*a:=oM;have a9:a<=100:=oM;clear X;have L:=Xa<|tW ad;generalize Hc W (64*b)=y at*;have M:Hs (∀c,oS C y c->c<V):=Xa λc t=>tS t L o hn;have l1:=aI w _ S;have l2:=aI w _ h2;have a2:=x.lt
 go_in
 go_wp2_with fail
 refine(I _<|Xb (Below.refl _ _) _).mono ?_;rintro e p⟨n,T,rfl,bd,E,Z,ab,ac⟩;have bi:w.heap.size+1<=p.heap.size:=by have:=E.size;simpa using this
 have ao:=Xa<|Xg (Xb (Below.refl w.heap.size w) (.cells #[Hl z b q] 59)) E;have P:=Xa Z;have ar:=Xa ab;have K:=Xa λc a0=>(ac c a0).trans (z9 L c);clear E Z ab ac I;go_wp2_with fail
 have ay:(λA:World=>Hs (Below w.heap.size w A)/\Hs (Bf A n a a T)/\A.cell? (Hk p.heap.size 0)=some (Hl n a a)/\p.heap.size<A.heap.size) (p.alloc<|.cells #[Hl n a a] 93):=⟨Xa<|Xb ao _,Xa<|P.alloc _,(by simp[go_sem]),sP⟩;generalize p.alloc _=w2 at*;let⟨i,Q,aj,a4⟩:=ay;have ax:=Xa aj;clear aj P
 go_loopw [8] (λu wr=>∃c:Nat,u=Hp c/\Hs (oS C y c)/\Hs (Below w2.heap.size w2 wr)) λu _=>V-(intOf u).toNat
 case atStart=>exact⟨0,rfl,Xa λs t=>absurd t oM,Xa<|Below.refl _ _⟩
 obtain⟨c,rfl,B,j⟩:=hrel;have ba:=M c B;have hx:=oB j ax a4;have aa:=Q.of_block<|j.block n Q.lt;have k:=Xa (xh n a c T wr ar (Xa (by
  let⟨_,a7,hX⟩:=aa;exact hX.congr λa6 hi=>by rw[aU hi])) oM oM)
 have G:=oB j ((i.cell (p:=Hk d 0) l1).trans S) (by have:=i.size;show d<_;have:d<w.heap.size:=l1;omega);have J:=Xa<|(x.of_block<|i.block g a2).of_block (j.block g<|oN i.size);clear aa;cases hh:Xh T c with
 |true=>
  rw[hh]at k;have N:Hs (oS C y<|c+1):=Xa (λs t=>by
   by_cases e:s=c
   .subst e;exact(K s oM).1 hh
   exact B s oM)
  have bb:=M _ N;clear hh;go_wp2_with fail
  refine k.mono ?_;rintro e l⟨rfl,h⟩;have f:=Xa<|Xg j h;clear h k;go_wp2;exact⟨⟨c+1,gM,N,f⟩,by simp[intOf];omega⟩
 |false=>
  rw[hh]at k;have af:LR C y=c:=DK ⟨λu H e=>by
   have:=(K c oM).2 ⟨u,H,e⟩;rw[hh]at this;exact absurd this vZ,B⟩
  have O:=Xa af;clear hh af;go_wp2_with fail
  refine k.mono ?_;rintro e l⟨rfl,h⟩;have a3:=oB h G<|aI wr _ G;have r:=Xa<|J.of_block (h.block g J.lt);have f:=Xa<|i.trans ((Xg j h).mono i.size);have yc:=r.cell o;have yf:=r.frozen v;clear h k G hx;go_wp2_with fail
  have bf:(l.setCell (Hk g v) (Hp c)).cell? (Hk d 0)=some (Hl g V m):=(bH l (Hk g v) (Hk d 0) _ (by show g≠d;exact λe=>az e.symm)).trans a3;have a1:=(r.set v (c:Int) o).cell o;rw[aU rfl]at a1;have aq:=Xa<|r.set v (c:Int) o;have ap:Hs (w.grownBy (l.setCell (Hk g v) (Hp c)) (some g)):=Xa ((⟨f.os,f.tape,f.output,f.size,λal F _=>f.block al F⟩:w.grownBy l (some g)).trans ⟨rfl,rfl,rfl,by simp[World.setCell],λal _ F=>Below.heap_setCell _ _ _ _ λe=>F<|by rw[e]⟩);generalize l.setCell _ _=w4 at*;go_wp2;go_ret;refine⟨by rw[O.o];rfl,ap,aq.congr λa6 _=>?_⟩;unfold IC;rw[O.o]

theorem TH.start1(h:w.ownsRow n 2 1 a l.length (l.map<|Value.int .i64))(b:∀g,a.ownBlock=some g->g=n):TH w n w a l:=⟨rfl,rfl,rfl,aA _,λ_ _ _=>rfl,h,λg e=>bC<|b g e⟩
theorem TH.low{wr:World}(h:TH v n wr a l)(k:Below n w v)(b:n<=v.heap.size):Below n w wr :=
 ⟨h.os.trans k.os,h.tape.trans k.tape,h.output.trans k.output,aJ k.size h.size,λq hq=>(h.fr q oM oM).trans (k.block q hq)⟩
theorem zF(h:w.ownsRow n m k (Hl B g c) i y):w.ownsRow B m k (Hl B g c) i y:=by
 obtain⟨f,h|⟨d,a,b,e1,j,e⟩⟩:=h;·exact absurd h.1 sP
 have e2:B=d:=by
  injection e1 with e1;injection e1 with e1;injection e1
 subst e2;exact⟨f,aZ ⟨B,a,b,e1,aA _,e⟩⟩
theorem TH.rebase{wr:World}(h:TH w n wr (Hl m k c) l)(b:Below wr.heap.size wr v):TH v m v (Hl m k c) l :=
 TH.start1 (zF<|Zl h.own λq e=>b.block q (h.own.lt q e).2) (λq e=>by
  have a:m=q:=by simpa [Value.ownBlock]using e
  exact a.symm)
theorem TH.join{wr:World}(h:TH w n wr a l)(k:Below wr.heap.size wr v)(c:a.ownBlock=some m)(b:TH v m u A L):TH w n u A L:=by
 have f:=h.size;have g:=k.size;have d:=h.own.lt m c;refine⟨b.os.trans<|k.os.trans h.os,b.tape.trans<|k.tape.trans h.tape,b.output.trans<|k.output.trans h.output,oN b.size,λq q1 q2=>(b.fr q oM λe=>?_).trans ((k.block q oM).trans (h.fr q q1 q2)),Zk b.own d.1,λq e=>?_⟩
 .rcases h.here m c with e2|e2;·exact q2<|e.trans e2
  omega
 rcases b.here q e with e2|e2;·rw[e2];exact h.here m c
 exact aZ oM
def EV(w:World)(V:Nat)(b:List Xe)(e:Ending)(a:World):Prop:=∃s:Bool,e=.returned (.bool s)/\(s=true↔∀v,v<V->¬Ic b v)/\Below w.heap.size w a
theorem yv(V:Nat)(G:Option Addr)(n c:Nat)(a:List Xe)(cz ba:Nat)(w:World)(ha:Hs (Xp w cz ba G a))(L:Hs (n=a.length))(hB:ba<=w.heap.size)(i:Hs (Jy V a)) :
 Calls prog 20 #[.agg #[Hp V,.slice G n c]] w λf w'=>EV w V a f w':=by
 let⟨m0,e8,e9,fa,fb⟩:=Xq Nv;have hn:n<=1000:=oP L.o i.okf.n2;have gl:0<n:=oP L.o i.okf.n1;have hV:=i.vle;have bp:Below w.heap.size w (w.alloc<|.cells #[Hp V,.slice G n c] 25):=Xb (Below.refl _ _) _;have c7:(w.alloc<|.cells #[Hp V,.slice G n c] 25).cell? (Hk w.heap.size 0)=some (Hp V):=sP;have b1:w.heap.size<(w.alloc<|.cells #[Hp V,.slice G n c] 25).heap.size:=sP;have ci:=Xa<|qR V G n c a cz ba (w.alloc<|.cells #[Hp V,.slice G n c] 25) (Xa<|ha.keep (bp.mono hB)) L oM i
 go_in
 go_wp2_with fail
 refine ci.mono ?_;rintro f w1⟨af,cf,rfl,a6,hF⟩;have d2:=Xa hF.at_;have b3:=Xa<|Xg bp a6;have g0:=oB a6 c7 b1;have ga:=aX b1 a6.size;have d3:=Xa g0;clear hF a6 bp c7 b1 ci g0;go_wp2
 go_loopw [4] (λM wr=>∃v:Nat,v<=V/\M=Hp v/\Hs (Below w1.heap.size w1 wr)/\Hs (∀d,d < v->¬Ic a d)) λM _=>V-(intOf M).toNat
 case atStart=>exact⟨0,aN _,rfl,Xa<|Below.refl _ _,Xa λd h=>absurd h oM⟩
 obtain⟨v,hv,rfl,HB,cq⟩:=hrel;have k0:=oB HB d3 ga;have ds:=HB.size;by_cases e6:v<V
 .go_wp2_with fail
  have br:Below wr.heap.size wr (wr.alloc<|.cells #[Hp 0] 2):=Xb (Below.refl _ _) _;have ca:Hs (TH (wr.alloc<|.cells #[Hp 0] 2) wr.heap.size (wr.alloc<|.cells #[Hp 0] 2) (Hl wr.heap.size 1 1) (Xi [0])):=Xa (TH.start1 (by
   have h:=eI (base:=wr.heap.size) (e:=2) (size:=1) wr #[Hp 0] 1 (aA _) (by unfold maxLen;omega) rfl;exact h) (λeu f=>by
   have e':wr.heap.size=eu:=by simpa [Value.ownBlock]using f
   exact e'.symm))
  have dw:=Xa br;have gs:wr.heap.size<(wr.alloc<|.cells #[Hp 0] 2).heap.size:=sP;clear br k0;generalize wr.alloc _=wt at*;generalize wr=wo at*
  go_loopw [5,6] (λap M wr=>∃(q:Nat)(F:List Nat),q<=F.length/\M=Hp q/\Hs (Ip a v F q)/\Hs (TH wt wo.heap.size wr ap<|Xi F)) λ_ M _=>n-(intOf M).toNat
  case atStart=>exact⟨0,[0],sP,rfl,Xa yX,ca⟩
  clear ca;obtain⟨q,F,hq,rfl,s,p⟩:=hrel;have cj:Hs (∀gc∈F,gc<n):=Xa (by rw[L.o];exact s.lt i.okf);have ev:=YS s.nd cj;let⟨aF,cF,eF,c9⟩:=Xk p.own;have bx:(Xi F).length=F.length:=by simp[Xi]
  let⟨l,gd,az,bw,_⟩:=Xm p.own (by rw[bx];exact eJ s.z);rw[bx]at eF az;have ep:aF=some (Hk l 0):=by
   rw[eF]at az;injection az
  subst ep;clear az;subst eF;have ed:=Xa c9;have gf:=bw.1;have gg:=bw.2;clear bw;have cl:=Xa<|p.low dw oM;let⟨lF,al⟩:∃m,m=F.length:=⟨_,rfl⟩;rw[<-al]at hq ev;rw[<-al];rw[<-al]at p;have ck:=Xa al;clear c9 bx al;by_cases e7:q<lF
  .have U:q<F.length:=by rw[<-ck.o];exact e7
   have fx:q<(Xi F).length:=by simp[Xi];exact U
   let⟨bq,oq,eb,ge,a7⟩:=ed q fx;injection eb with eb;injection eb with er es;subst er es;rw[aV]at a7;have eq:(Xi F)[q]=((F[q]:Nat):Int):=by simp[Xi]
   rw[eq]at a7;have f0:=cj _<|aH U;have x:F[q]<a.length:=oN L.o;have B:=Xa<|HB.trans (cl.mono ds);obtain⟨bf,of,us,rfl,ey,dk,u⟩:=d2 F[q] x;have K:=λj' T=>oB B (dk j' T) ey
   have b6:=Xa (u.keep (λb' o _=>B.block b' o) B.size);clear dk;let⟨O,c0,e0,i0⟩:=u.e0;let⟨H,c1,e1,i1⟩:=u.e1;let⟨P,c2,e2,_⟩:=u.e2;let⟨Q,c3,e3,_⟩:=u.e3;let⟨R,c4,e4,_⟩:=u.e4;let⟨S,c5,e5,_⟩:=u.e5;have u0:=K 0 vZ;have u1:=K 1 vZ;have u2:=K 2 vZ;have u3:=K 3 vZ;have u4:=K 4 vZ;have u5:=K 5 vZ;simp only[fW]at u0;rw[e0]at u0;rw[e1]at u1;rw[e2]at u2;rw[e3]at u3;rw[e4]at u4;rw[e5]at u5;have bc:=Xa e2;have bd:=Xa e3;have bi:=Xa e4;have bl:=Xa e5;have ce:=Xa i0;have cg:=Xa i1;have bn:=Xa<|i.lens a[F[q]] (aH x);have ax:Hs (Yo a F[q] v=Bs (a[F[q]].ps.map Ph.dst) (v:Int)):=Xa (by unfold Yo;rw[aC x]);have ar:Hs (Cp a F[q] v=Hd a[F[q]] (XP a F[q]) (v:Int)):=Xa (by unfold Cp;rw[aC x]);have ay:Hs (a[F[q]].te.tg=Xi (X8 a F[q])):=Xa (by rw[WM i.okf x,VS x]);have ek:Hs (∀z∈X8 a F[q],z<n):=Xa (by rw[L.o];exact i.okf.tg _ x);have bm:Hs ((XP a F[q]).length<=8000000):=Xa (by
    unfold XP;rw[aC x];have o:=V8 i ((F[q]:Nat):Int) a[F[q]].te.tg;have h2:=KJ a[F[q]].te;simp only;omega)
   let⟨t,ht⟩:∃t,t=F[q]:=⟨_,rfl⟩;let⟨X,hX⟩:∃X,X=a[F[q]]:=⟨_,rfl⟩;let⟨E,hE⟩:∃E,E=XP a F[q]:=⟨_,rfl⟩;rw[<-hX,<-hE]at b6 ar;rw[<-hX]at u0 u1 u3 u4 u5 bd bi bl ce cg bn ax ay;rw[<-hE]at u2 bc bm;rw[<-ht]at a7 f0 u0 u1 u2 u3 u4 u5 ax ar ay ek;have N:=Xa ht;clear K u eq ht hX hE e0 e1 e2 e3 e4 e5 i0 i1;let⟨g,a8⟩:∃m,m=X.te.tg.length:=⟨_,rfl⟩;let⟨y,a9⟩:∃m,m=(X.ps.map Ph.dst).length:=⟨_,rfl⟩;rw[<-a8]at u0;rw[<-a9]at u1;have gm:g<=2:=by rw[a8];exact KJ _
   have gp:y<=4000:=by rw[a9,bK];exact bn.2
   have cp:=Xa a8;have ef:=Xa a9;clear a8 a9;have d1:=bm;clear bm;generalize fl:E.length=Y at u2 bc;clear fl;generalize fq:(Jv X).length=Z at u3 bd;generalize fr:(Z2 X).length=n4 at u4 bi;generalize fs:(G2 X.te).length=n5 at u5 bl;clear fq fr fs;have I:Below wr.heap.size wr (wr.alloc<|.cells #[.slice O g c0,.slice H y c1,.slice P Y c2,.slice Q Z c3,.slice R n4 c4,.slice S n5 c5] 117):=Xb (Below.refl _ _) _;have J:∀q' d,#[Value.slice O g c0,.slice H y c1,.slice P Y c2,.slice Q Z c3,.slice R n4 c4,.slice S n5 c5][q']?=some d->(wr.alloc<|.cells #[.slice O g c0,.slice H y c1,.slice P Y c2,.slice Q Z c3,.slice R n4 c4,.slice S n5 c5] 117).cell? (Hk wr.heap.size q')=some d:=λq' d h=>by
    rw[eC];exact h
   have gb:wr.heap.size<(wr.alloc<|.cells #[.slice O g c0,.slice H y c1,.slice P Y c2,.slice Q Z c3,.slice R n4 c4,.slice S n5 c5] 117).heap.size:=sP;go_wp2_with fail
   clear u0 u1 u2 u3 u4 u5 a7;generalize wr.alloc _=A at*;have x0:Cl A wr.heap.size 0 (.slice O g c0):=J 0 _ rfl;have x1:Cl A wr.heap.size 1 (.slice H y c1):=J 1 _ rfl;have x2:Cl A wr.heap.size 2 (.slice P Y c2):=J 2 _ rfl;have x3:Cl A wr.heap.size 3 (.slice Q Z c3):=J 3 _ rfl;have x4:Cl A wr.heap.size 4 (.slice R n4 c4):=J 4 _ rfl;have x5:Cl A wr.heap.size 5 (.slice S n5 c5):=J 5 _ rfl;have d0:=Xa I;have cb:=Xa<|p.below I;have ec:=Xa<|(cg.at_.keep B).keep (I.mono oM);have ea:=Xa<|(ce.at_.keep B).keep (I.mono oM);have b7:=Xa (b6.keep (λb' o _=>I.block b' o) I.size);have cc:=Xa<|YF H y c1 (v:Int) (X.ps.map Ph.dst) 0 w1.heap.size A ec ef oM;have b4:=Xa<|rd X E us (v:Int) A b7 (Xa bn.1) d1 (.slice O g c0) (.slice H y c1) (.slice P Y c2) (.slice Q Z c3) (.slice R n4 c4) (.slice S n5 c5) bc bd bi bl;clear I J;refine cc.mono ?_;rintro f w3⟨rfl,dl⟩;rw[dl];clear dl cc;cases hph:Bs (X.ps.map Ph.dst) (v:Int)with
   |true=>
    have k:Hs (Ip a v F<|q+1):=Xa (s.go U<|bC (by rw[<-N.o,ax.o];exact hph));clear hph;go_wp2_with fail
    refine⟨?_,by simp[intOf];omega⟩
    first
     |exact⟨q+1,F,oM,gM,k,cb⟩
     |((repeat apply gP);refine⟨?_,rfl⟩;exact⟨q+1,F,oM,gM,k,cb⟩)
   |false=>
    have ct:Hs (Yo a t v=false):=Xa (by rw[ax.o];exact hph);clear hph;go_wp2_with fail
    refine b4.mono ?_;rintro f w4⟨rfl,ad⟩;have aq:=Xa<|Xg d0 ad;have y0:=oB ad x0 gb;have d5:=Xa<|ea.keep (ad.mono oM);have gr:=ad.size;have dc:=Vg (v:=(v:Int)) (fin:=Bs (G2 X.te) (v:Int)||Bs E (v:Int)) X.is;have gi:Hd X E (v:Int)<=2:=dc;generalize fc:Hd X E (v:Int)=mt at*;have ab:=Xa ar.o;clear fc ar dc ad x0 x1 x2 x3 x4 x5 b4 b7;have ez:mt=0\/mt=1\/mt=2:=oM;rcases ez with rfl|rfl|rfl
    .have f7:wr.heap.size≠l:=oM;have C:=Xa<|p.rebase aq;have em:=Xa y0;have ej:Hs (F[q]?=some t):=Xa (by rw[aC U,N.o]);have el:Hs (w1.heap.size<=l):=Xa oM;have cr:Hs ((X8 a t).length=g):=Xa (by rw[cp.o,ay.o];simp[Xi]);have ei:Hs ((Hl l lF cF).ownBlock=some l):=Xa rfl;go_wp2_with fail
     clear y0;generalize wr=wp at*
     go_loopw [5,9] (λap ao wr=>∃(m:Nat)(b:List Nat),m<=g/\ao=Hp m/\Hs (Ip a v b q)/\Hs (b[q]?=some t)/\Hs (∀r (h:r<(X8 a t).length),r<m->(X8 a t)[r]∈b)/\Hs (TH w4 l wr ap<|Xi b)) λ_ ao _=>g-(intOf ao).toNat
     case atStart=>exact⟨0,F,aN _,rfl,s,ej,Xa λr _ h=>absurd h oM,C⟩
     clear C;obtain⟨m,b,hm,rfl,k,ac,bb,j⟩:=hrel;have z0:=j.cell f7 em;have bz:=(cV.1 ac).1;have aa:Hs (b[q]=t):=Xa (cV.1 ac).2;by_cases db:m<g
     .have fi:m<X.te.tg.length:=by rw[<-cp.o];exact db
      have fe:m<(X8 a t).length:=by rw[cr.o];exact db
      obtain⟨bt,ot,rfl,⟨_,br⟩,bv⟩:=d5 m fi;have di:X.te.tg[m]=(((X8 a t)[m]:Nat):Int):=by simp only[ay.o,Xi,cM];rfl
      rw[di]at bv;have zt:=j.cell (oN el.o) bv;let⟨aG,cG,eG,da⟩:=Xk j.own;have dd:(Xi b).length=b.length:=by simp[Xi]
      have ee:=Xa (aJ (YS k.nd λz W=>by have:=k.lt i.okf z W;have:=L.o;show z<n;omega) hn);let⟨e,b0⟩:∃z,z=(X8 a t)[m]:=⟨_,rfl⟩;rw[<-b0]at zt;have bo:=Xa b0;let⟨l2,aj⟩:∃z,z=(Xi b).length:=⟨_,rfl⟩;rw[<-aj]at eG;subst eG;have gh:l2<=1000:=by rw[aj,dd];exact ee
      have cd:=Xa<|YF aG l2 cG (e:Int) (Xi b) l wr.heap.size wr (Xa da) (Xa aj) oM;have ch:=Xa aj;clear bv di da dd b0 aj;go_wp2_with fail
      refine cd.mono ?_;rintro f w5⟨rfl,dn⟩;rw[dn];clear dn cd;cases hh:Bs (Xi b) (e:Int)with
      |true=>
       have cm:Hs (∀r (h:r<(X8 a t).length),r<m+1->(X8 a t)[r]∈b):=Xa (λr hr fz=>by
        by_cases f:r=m
        .subst f;rw[<-bo.o];have o:=XD.1 hh;let⟨z,W,e2⟩:=aY.1 o;have:z=e:=by have e3:(z:Int)=(e:Int):=e2;omega
         rw[<-this];exact W
        exact bb r hr oM)
       clear hh;go_wp2_with fail
       refine⟨?_,by simp[intOf];omega⟩
       first
        |exact⟨m+1,b,oM,gM,k,ac,cm,j⟩
        |((repeat apply gP);refine⟨?_,rfl⟩;exact⟨m+1,b,oM,gM,k,ac,cm,j⟩)
      |false=>
       have eg:Hs (e∉b):=Xa (λh=>by
        have o:Bs (Xi b) (e:Int)=true:=XD.2<|aY.2 ⟨e,h,rfl⟩;rw[hh]at o;cases o)
       have cv:=Xa (k.push bz (by rw[aa.o];exact ct) (by rw[aa.o];exact ab) (by rw[aa.o,bo.o];exact aH fe) eg);have cx:Hs ((b++[e])[q]?=some t):=Xa (by rw[dL bz];exact ac);have co:Hs (∀r (h:r<(X8 a t).length),r<m+1->(X8 a t)[r]∈b++[e]):=Xa (λr hr fz=>by
        by_cases f:r=m
        .subst f;rw[<-bo.o];simp
        exact dD _<|bb r hr oM)
       clear hh;go_wp2_with (at_builtin;refine bT _ rfl _ _ 27 rfl l 2 m0 (Hp 0) 1 8 underlying27 e8 e9 fa fb rfl vZ _ _ _ rfl (j.own.alloc _) (Hk wr.heap.size 0) 1 1 [Hp e] rfl rfl ?c1 ?c2 ?c3 ?c4 ?c5 ?_)
       case c1=>
        intro j' u' T
        match j',T with
        |0,T=>simp at T;subst T;simp[Addr.add]
       case c2=>intro u' dj;simp at dj;subst dj;rfl
       case c3=>have:=ch.o;unfold maxLen;omega
       case c4=>have:=ch.o;omega
       case c5=>have:=j.size;simp;omega
       intro u9 w9 df c8 _ c6;have d4:=Xa ((j.alloc _).push (x:=(e:Int)) c8 df (by rw[aO];exact c6));have b8:=Xa (by have h:=d4.o;rw[show Xi b++[(e:Int)]=Xi (b++[e]) by simp[Xi]]at h;exact h);clear df c8 c6 z0 zt;go_wp2_with fail
       refine⟨?_,by simp[intOf];omega⟩
       first
        |exact⟨m+1,b++[e],oM,gM,cv,cx,co,b8⟩
        |((repeat apply gP);refine⟨?_,rfl⟩;exact⟨m+1,b++[e],oM,gM,cv,cx,co,b8⟩)
     have D:Hs (Ip a v b<|q+1):=Xa (k.go bz (aZ ⟨by rw[aa.o,ab.o];decide,λ_ z W=>by
      rw[aa.o]at W;obtain⟨r,hr,rfl⟩:=bR W;exact bb r hr<|oN cr.o⟩))
     have HJ:=Xa<|p.join aq ei j;go_wp2_with fail
     refine⟨?_,by simp[intOf];omega⟩
     first
      |exact⟨q+1,b,oM,gM,D,HJ⟩
      |((repeat apply gP);refine⟨?_,rfl⟩;exact⟨q+1,b,oM,gM,D,HJ⟩)
    .have du:=Xa (s.hit U (by rw[<-N.o];exact ct) (by rw[<-N.o];exact ab));go_wp2;go_ret;exact⟨false,rfl,⟨λh=>(by cases h),λh=>absurd du<|h v e6⟩,b3.trans<|(B.trans<|aq.mono (oN B.size)).mono oM⟩
    have D:=Xa (s.go U<|aZ ⟨by rw[<-N.o,ab.o];decide,λh=>by rw[<-N.o,ab.o]at h;cases h⟩);have C:=Xa<|p.below aq;go_wp2_with fail
    generalize wr=wp at*
    go_loopw [5,9] (λap ao wr=>ap=Hl l lF cF/\ao=Hp 0/\Hs (dy wr w4)) λ_ _ _=>0
    case atStart=>exact⟨rfl,rfl,Xa rfl⟩
    obtain⟨rfl,rfl,cw⟩:=hrel;have et:wr=w4:=cw.o;clear cw;subst et;by_cases h0:0<g
    .go_wp2_with fail
     refine⟨?_,by simp[intOf];omega⟩
     first
      |exact⟨q+1,F,oM,gM,D,C⟩
      |((repeat apply gP);refine⟨?_,rfl⟩;exact⟨q+1,F,oM,gM,D,C⟩)
    go_wp2_with fail
    refine⟨?_,by simp[intOf];omega⟩
    first
     |exact⟨q+1,F,oM,gM,D,C⟩
     |((repeat apply gP);refine⟨?_,rfl⟩;exact⟨q+1,F,oM,gM,D,C⟩)
  have cs:Hs (∀d,d < v+1->¬Ic a d):=Xa (λd gq=>by
   by_cases f:d=v
   .subst f;exact s.none<|oN ck.o
   exact cq d oM)
  have b5:=Xa<|HB.trans (cl.mono ds);go_wp2_with fail
  refine⟨?_,by simp[intOf];omega⟩
  first
   |exact⟨v+1,oM,gM,b5,cs⟩
   |((repeat apply gP);refine⟨?_,rfl⟩;exact⟨v+1,oM,gM,b5,cs⟩)
 have HS:Hs (∀d,d < V->¬Ic a d):=Xa λd h=>cq d oM;go_wp2;go_ret;exact⟨true,rfl,⟨λ_=>HS,λ_=>rfl⟩,b3.trans<|HB.mono oM⟩
theorem KT(v:Int)(b:Option Addr)(n c:Nat)(a:List Xe)(L B:Nat)(w:World)(ha:Hs (Xp w L B b a))(f:Hs (n=a.length))(hs:Hs (a.length+Xx a<=1048576))(G:B<=w.heap.size) :
 Calls prog 6 #[.agg #[Hp v,.slice b n c]] w λl y=>l=.returned (Hp<|E5 v a)/\Below w.heap.size w y:=by
 have g:=Xa λW (d:Below w.heap.size w W)=>Tr v b n c a L B W (Xa<|ha.keep (d.mono G)) f hs (oN d.size);have af:=Xa<|WY ⟨v,a⟩;rw[<-af.o]at g;have i:Below w.heap.size w (w.alloc<|.cells #[Hp v,.slice b n c] 25):=Xb (Below.refl _ _) _;have H:(w.alloc<|.cells #[Hp v,.slice b n c] 25).cell? (Hk w.heap.size 0)=some (Hp v):=sP;have I:(w.alloc<|.cells #[Hp v,.slice b n c] 25).cell? (Hk w.heap.size 1)=some (.slice b n c):=sP;have p:w.heap.size<(w.alloc<|.cells #[Hp v,.slice b n c] 25).heap.size:=sP;cases hv:XJ ⟨v,a⟩with
 |false=>
  rw[hv]at g;rw[Uh hv];clear hv
  go_in
  go_wp2_with fail
  refine(g _ i).mono ?_;rintro l z⟨rfl,e⟩;have r:=Xa<|Xg i e;clear e g i H I p;go_wp2;go_ret;exact⟨rfl,r⟩
 |true=>
  rw[hv]at g;have D:=Xa hv;have Z:0<=v:=by
   simp only[XJ,Y6,bY,bD]at hv;omega
  obtain⟨V,rfl⟩:=bX Z;have h:=Xa<|XH hv;have hn:n<=1000:=oP f.o h.okf.n2;have ar:0<n:=oP f.o h.okf.n1;generalize aa:E5 (V:Int) a=K;have E:=Xa aa;clear hv Z aa;have ac:=Xa (λW (d:Below w.heap.size w W)=>qt (V:Int) b n c (-1) a L B W (Xa<|ha.keep (d.mono G)) f oM oM (oN d.size) (Xa<|by rw[f.o];exact h.okf.tgt));have ad:=Xa λW (d:Below w.heap.size w W)=>yv V b n c a L B W (Xa<|ha.keep (d.mono G)) f (oN d.size) h
  go_in
  go_wp2_with fail
  refine(g _ i).mono ?_;rintro l z⟨rfl,e⟩;have r:=Xa<|Xg i e;have Q:=oB e H p;have R:=oB e I p;have ab:=aX p e.size;clear e i H I p g;go_wp2_with fail
  refine Y7 (λy=>y.cell? (Hk w.heap.size 0)=some (Hp V)/\y.cell? (Hk w.heap.size 1)=some (.slice b n c)) λhHeld=>?_;refine Xn 0 ?_;refine Xn 3 ?_;refine Xn 4 ?_;refine Xn 5 ?_;refine Xs 1 λap hK=>?_;go_simp;refine(ac z.drew r.drew).mono ?_;rintro l w2⟨v2,F,rfl,j,J,X,T⟩;have t:Below z.heap.size z w2:=⟨j.os,j.tape,j.output,j.size,j.block⟩;rw[show Je F=(Xi F).map (Value.int .i64) by simp[Je,Xi]]at J;let⟨aF,cF,e2,_⟩:=Xk J;have U:(Xi F).length=F.length:=by simp[Xi]
  have C:=Xa (rE h.okf X λx=>(T x).trans (se vZ));rw[U]at e2;subst e2;let⟨q,u⟩:∃al,al=F.length:=⟨_,rfl⟩;rw[<-u];have N:Hs (q=n↔Jq a):=Xa (by rw[u,f.o];exact C.2);have aq:q<=n:=by rw[u,f.o];exact C.1
  have A:=Xa<|Xg r t;have k0:=oB t Q ab;have k1:=oB t R ab;clear t j J X T U u C Q R;refine hK _ _ ⟨k0,k1⟩ λhHeld=>?_;clear hK;refine Xn 2 ?_;by_cases o:q=n
  .have M:=Xa<|N.1 o;have aj:((q:Int) != (n:Int))=false:=by simp[o]
   clear o;refine Xn 6 ?_;refine Yq ?_;clear hHeld;go_wp2_with fail
   refine(ad w2 A).mono ?_;rintro l w3⟨ao,rfl,Y,S⟩;have O:=Xa<|Xg A S;have P:=Xa Y;clear Y S;cases ao with
   |true=>
    have k:Hs (K=0):=Xa (by rw[<-E.o];exact rD D M (λm=>by
     let⟨x,s⟩:=m;exact P.1 rfl x (tR h s) s))
    go_wp2;go_ret;exact⟨by rw[k.o];rfl,O⟩
   |false=>
    have k:Hs (K=11):=Xa (by rw[<-E.o];exact lT D M (dQ λm=>by
     have:=P.2 λx _ s=>m ⟨x,s⟩;cases this))
    go_wp2;go_ret;exact⟨by rw[k.o];rfl,O⟩
  have k:Hs (K=10):=Xa (by rw[<-E.o];exact qP D λm=>o<|N.2 m);have aj:((q:Int) != (n:Int))=true:=by simp;omega
  clear o;refine Xn 6 ?_;refine Yq ?_;clear hHeld;go_wp2;go_ret;exact⟨by rw[k.o];rfl,A⟩
section
section
variable {w4 wr wr': World} {g V cap: Nat} {C C': Nat -> Int}
end
theorem AV{a:List Xe}{V b:Nat}{x:Xe}{i d:Nat}(e:i<x.ps.length)(c:x.ps[i].dst=(d:Int)):IX a V b x (i+1)=IX a V b x i++[(d,Uq a x V b 0)]:=by
 unfold IX;rw[kJ,aC e,bG];simp[c]
theorem sc{a:List Xe}{V b:Nat}{x:Xe}{i d:Nat}(e:i<x.is.length)(f:dB x.is[i].op=true)(c:x.is[i].dst=(d:Int)):VC a V b x (i+1)=VC a V b x i++[(d,Uq a x V b<|i+1)]:=by
 rw[VC,aC e];simp[BW,f,c]
theorem El{a:List Xe}{V b:Nat}{x:Xe}{i:Nat}(c:i<x.is.length)(d:dB x.is[i].op=false):VC a V b x (i+1)=VC a V b x i:=by
 rw[VC,aC c];simp[BW,d]
def LU(a b c:Value):Nat->Value
 |0=>a
 |1=>b
 |_=>c
end
structure ZH(M:Nat->Prop)(U U':World):Prop where
 os:U'.os=U.os
 tape:U'.tape=U.tape
 output:U'.output=U.output
 size:U.heap.size<=U'.heap.size
 fr:∀q,q<U.heap.size->¬M q->U'.heap[q]?=U.heap[q]?
theorem ZH.refl(M:Nat->Prop)(U:World):ZH M U U:=⟨rfl,rfl,rfl,aA _,λ_ _ _=>rfl⟩
theorem ZH.trans(h:ZH d w v)(k:ZH d v u):ZH d w u :=
 ⟨k.os.trans h.os,k.tape.trans h.tape,k.output.trans h.output,aJ h.size k.size,λq a b=>(k.fr q (aX a h.size) b).trans (h.fr q a b)⟩
theorem ZH.of_below{M:Nat->Prop}(h:Below w.heap.size w v):ZH M w v:=⟨h.os,h.tape,h.output,h.size,λq a _=>h.block q a⟩
theorem ZH.of_grown(h:w.grownBy v (some n))(c:d n):ZH d w v:=⟨h.os,h.tape,h.output,h.size,λq a b=>h.block q a λe=>b<|by injection e with e;rw[e];exact c⟩
theorem ZH.set{M:Nat->Prop}(A:World)(p:Addr)(v:Value)(b:M p.block):ZH M A (A.setCell p v):=⟨rfl,rfl,rfl,by simp[World.setCell],λq _ a=>Below.heap_setCell _ _ _ _ λe=>a<|by rw[e];exact b⟩
theorem ZH.cell(h:ZH d w v){p:Addr}(c:¬d p.block)(b:w.cell? p=some a):v.cell? p=some a:=(bZ<|h.fr _ (aI w _ b) c).trans b
structure Lh(V cap gp go bo bp bc bv:Nat)(C:Nat->Int)(U:World):Prop where
 row:Hb U gp V cap C
 o:Hb U go V V λu=>if C u=-1 then 0 else C u
 box:U.rowIs bo 29 3 (LU (.int .i64 0) (.slice (some ⟨go,0,none⟩) V V) (.int .i64 (Hy C V)))
 pick:U.cell? ⟨bp,0,none⟩=some (.func (.func 37) #[] #[.pointer (some ⟨bc,0,none⟩),.pointer (some ⟨bv,0,none⟩)])
 cc:U.cell? ⟨bc,0,none⟩=some (.slice (some ⟨gp,0,none⟩) V cap)
 cv:U.cell? ⟨bv,0,none⟩=some (.int .i64 (V:Int))
 rng:∀u,u<V->C u=-1\/0<=C u/\C u<V
 n1:gp≠go
 n2:bo≠gp/\bo≠go
 n3:bp≠gp/\bp≠go/\bp≠bo
 n4:bc≠gp/\bc≠go/\bc≠bo
 n5:bv≠gp/\bv≠go/\bv≠bo
def MF(b go a q:Nat):Prop:=q=b\/q=go\/q=a
theorem Lh.far{go:Nat}{C:Nat->Int}(h:Lh n m k go B g i j C w)(a:Below w.heap.size w v):Lh n m k go B g i j C v :=
 ⟨h.row.of_block<|a.block _ h.row.lt,h.o.of_block<|a.block _ h.o.lt,h.box.of_block<|a.block _ h.box.lt,oB a h.pick<|aI w _ h.pick,oB a h.cc<|aI w _ h.cc,oB a h.cv<|aI w _ h.cv,h.rng,h.n1,h.n2,h.n3,h.n4,h.n5⟩
theorem Cn(v V z c n y f go d t s x:Nat)(W:Nat->Nat)(C:Nat->Int)(w:World)(L:Hs (Bf w z c n W))(aa:Hs (XA W))(I:Hs (Jn w))(hK:c<=100)(J:Hs (Ib V c W))(X:V<=2000)(a:Hs (Lh V y f go d t s x C w))(l:v<V)(B:Hs (C v=-1)) :
 Calls prog 17 #[Hp v,.agg #[Hl z c n],Hn t,Hn d] w λe M=>e=.returned (.tuple #[])/\ZH (MF f go d) w M/\Lh V y f go d t s x (IC C (v,Hc W<|64*c)) M:=by
 have G:=Xa λU (i:Below w.heap.size w U)=>AO v V z c n y f s x W C U (Xa<|L.of_block (i.block z L.lt)) aa (Xa<|I.of_block (i.block _<|aI w _ (I 0 vZ))) hK J X (Xa (a.far i).row) (Xa a.rng) l B (a.far i).cc (a.far i).cv a.n4.1;have eg:∀args w,(callFunc 37 args).run prog w=.ok (.enter 37 args) w:=enters_of func37 kR rfl;have c1:=a.pick;have l1:=aI w _ c1;have H:=Xa<|tS (ke C _).low (tW J) l B;have T:Hs (∀u,u<V->IC C (v,Hc W<|64*c) u=-1\/0<=IC C (v,Hc W<|64*c) u/\IC C (v,Hc W<|64*c) u<V):=Xa (λu Z=>by
  unfold IC;by_cases e:u=v
  .rw[aU e]
   right;have:=H.o;show 0<=((LR C (Hc W<|64*c):Nat):Int)/\((LR C (Hc W<|64*c):Nat):Int)<V;omega
  rw[aM e];exact a.rng u Z)
 have Q:Hs (∀u,(λu=>if u=v then (LR C (Hc W<|64*c):Int)else (if C u=-1 then 0 else C u)) u=(λu=>if IC C (v,Hc W<|64*c) u=-1 then 0 else IC C (v,Hc W<|64*c) u) u):=Xa (λu=>by
  unfold IC;by_cases e:u=v
  .simp only[e,gG];rw[aM oM]
  simp only[e,fD])
 have O:Hs (Hy (IC C (v,Hc W<|64*c)) V=max (Hy C V) ((LR C (Hc W<|64*c):Int)+1)):=Xa<|sY (C:=C) (v:=v) B V l;generalize IC C (v,Hc W<|64*c)=C' at*;generalize LR C (Hc W<|64*c)=g at*;have aj:=H.o;have ao:IntKind.i64.wrap ((g:Int)+1)=(g:Int)+1:=by rw[dF];omega
 have j:=a.n2;have ad:=a.row.lt;have af:=a.o.o.lt;have ac:=a.box.lt
 go_in
 go_wp2_with fail
 have p:Below w.heap.size w (w.alloc<|.cells #[Hl z c n] 59):=Xb (Below.refl _ _) _;have h:=Xa<|a.far p;generalize w.alloc _=w0 at*;refine(G _ p).mono ?_;rintro e m⟨rfl,q,K⟩;have N:Hs (ZH (MF f go d) w m):=Xa<|(ZH.of_below p).trans (ZH.of_grown q<|bC rfl);have R:=Xa K;have o:=Xa (h.box.of_block<|q.block d h.box.lt λe=>j.1<|by injection e);have r:=Xa (h.o.o.of_block<|q.block go h.o.o.lt λe=>a.n1<|by injection e with e;exact e.symm);clear h p q K G c1 l1;have q1:=o.cell (i:=1) vZ;have q2:=o.cell (i:=2) vZ;have qf:=o.frozen 2;have y1:=r.cell l;have yf:=r.frozen v;simp only[LU]at q1 q2;have al:(v:Int)<(V:Int):=oM;have s2:(m.setCell (Hk go v) (Hp g)).cell? (Hk d 2)=some (Hp<|Hy C V):=(bH m (Hk go v) (Hk d 2) _ (by show go≠d;exact λe=>j.2 e.symm)).trans q2;have E:=Xa (o.setOther (a:=(Hk go v)) (by show d≠go;exact j.2) (Hp g));have P:=Xa ((r.set v (g:Int) l).congr λu _=>Q u);have S:=Xa (R.setOther (a:=(Hk go v)) (by show f≠go;exact a.n1) (Hp g));have F:Hs (ZH (MF f go d) w (m.setCell (Hk go v) (Hp g))):=Xa<|N.trans (ZH.set _ _ _<|aZ (bC rfl));have ap:=E.frozen 2;generalize Hy C V=kc at*;go_wp2
 go_end0
 refine⟨rfl,F.trans<|ZH.set _ _ _ (aZ<|aZ rfl),?_⟩;have hF:=F.trans<|ZH.set (M:=MF f go d) (m.setCell (Hk go v) (Hp g)) (Hk d 2) (Hp<|max kc ((g:Int)+1)) (aZ<|aZ rfl);have D:∀b,b≠f/\b≠go/\b≠d->¬MF f go d b:=λb A k=>by
  rcases k with k|k|k;·exact A.1 k
  .exact A.2.1 k
  exact A.2.2 k
 refine⟨S.setOther (by show f≠d;exact λe=>j.1 e.symm) _,P.setOther (by show go≠d;exact λe=>j.2 e.symm) _,(E.set 2 _).congr λab Y=>?_,hF.cell (D _ a.n3) a.pick,hF.cell (D _ a.n4) a.cc,hF.cell (D _ a.n5) a.cv,T,a.n1,a.n2,a.n3,a.n4,a.n5⟩;rw[O.o]
 match ab,Y with
 |0,_=>rfl
 |1,_=>rfl
 |2,_=>rfl
theorem xQ(V:Nat)(w:World)(n:V<=2000) :
 Calls prog 15 #[Hp V] w λg e=>∃b c a,g=.returned (.func (.func 37) #[] #[Hn b,Hn c])/\Below w.heap.size w e/\w.heap.size<=a/\w.heap.size<=b/\w.heap.size<=c/\b≠a/\c≠a/\Hb e a V V (λ_=>-1)/\e.cell? (Hk b 0)=some (Hl a V V)/\e.cell? (Hk c 0)=some (Hp V):=by
 go_in
 go_wp2_with fail
 have h:Below w.heap.size w ((w.alloc<|.cells #[Hp V] 2).alloc (.cells #[Hp (-1)] 2)):=Xb (Xb (Below.refl _ _) _) _;have i:((w.alloc<|.cells #[Hp V] 2).alloc (.cells #[Hp (-1)] 2)).heap.size=w.heap.size+2:=sP;have c0:((w.alloc<|.cells #[Hp V] 2).alloc (.cells #[Hp (-1)] 2)).cell? (Hk w.heap.size 0)=some (Hp V):=by simp[go_sem]
 have c1:((w.alloc<|.cells #[Hp V] 2).alloc (.cells #[Hp (-1)] 2)).cell? (Hk (w.heap.size+1) 0)=some (Hp (-1)):=by simp[go_sem]
 refine(rV (w.heap.size+1) V _ n c1 sP).mono ?_;rintro g j⟨m,rfl,o,d,f⟩;rw[i]at o;have k:=Xa<|Xg h d;have l:=Xa f;have p:=(XU d oM).trans c0;have r:w.heap.size+2<=j.heap.size:=oN d.size;have q:=f.lt;go_wp2;go_ret;exact⟨j.heap.size,w.heap.size,m,rfl,Xb k _,oM,oM,aA _,oM,oM,Hb.of_row<|l.alloc _,by simp[go_sem],(bP _ _ _<|by show w.heap.size<_;omega).trans p⟩
def J3(k:Nat):Code->Option Code
 |.seq x y=>match J3 k x with
  |some c=>some c
  |none=>J3 k y
 |.block i c=>if i=k then some c else J3 k c
 |.scope c=>J3 k c
 |.loop c=>J3 k c
 |.cond _ x y=>match J3 k x with
  |some c=>some c
  |none=>J3 k y
 |_=>none
noncomputable def Nc:Code:=(f16.body.bind<|J3 4).getD .skip
noncomputable def NC:Code:=(f16.body.bind<|J3 6).getD .skip
theorem ZH.drew(h:ZH d w v):ZH d w v.drew:=h.trans<|ZH.of_below (Below.refl _ _).drew
theorem EA(bs G n o z s r p a pc:Nat)(x:Option Addr)(d:List Ph)(L B:Nat)(M:Nat->Prop)(b:Nat->World->Prop)(U:World)(Q:Exit->Act->World->Prop)(ds:List Deferred)(c0 c2 c3 c4 c5 c6 c7 c9 I J cs K N O P R S T V W X Y Z aa ab ac ad af aj al ao ap aq ar ax ay az a0 a1 a2 a3 a4 a5 a6 a7 a8 a9 ba bb bc ct cv cw cx c8 da db dc df di dj bd bf bi bl bm bn bq br bt bv bw bx bz b0 b1 b3 b4 b5 b6 b7 b8 ca cb cc cd:Value)
 (hQ:Hs (∀c (H:Act) t v w,Q (.panic c) (H.put (some t) v) w->Q (.panic c) H w))
 (ek:Hs (Jw U L B x d)) (ej:Hs (a=d.length)) (eq:a<=4000) (hM:Hs (∀q,L<=q->q<B->¬M q)) (cg:Hs (¬M bs)) (hG:Hs (¬M G)) (ee:Hs (∀q,M q->q<U.heap.size))
 (h:U.cell? (Hk bs 0)=some (Hl G (n+1) (n+1))) (j:U.cell? (Hk G 0)=some (Hl z o s))
 (hJ:Hs (∀i A e,b i A->Below A.heap.size A e->b i e))
 (el:Hs (∀i (cf:i<d.length) A,ZH M U A->b i A->Calls prog 17 #[Hp d[i].dst,.agg #[Hl z o s],Hn r,Hn p] A λce e=>ce=.returned (.tuple #[])/\ZH M A e/\b (i+1) e))
 (h0:Hs (b 0 U))
 (hN:Hs (∀(dk dn du dw d2 d3 d4 d5 ea eb ec ed:Value)(A:World),ZH M U A->b a A->Q (.exit 4) ⟨#[c0,.func (.func 17) #[] #[Hn r,Hn p],c2,c3,c4,c5,c6,c7,Hn bs,c9,I,J,dk,K,N,O,P,R,S,T,V,W,X,Y,Z,aa,ab,ac,ad,af,aj,al,ao,ap,aq,ar,ax,ay,az,a0,a1,a2,a3,a4,a5,a6,a7,a8,a9,ba,bb,bc,.slice x a pc,Hp a,Hp a,dn,du,dw,d2,d3,d4,d5,ea,eb,ec,ed,bd,bf,bi,bl,bm,bn,bq,br,bt,bv,bw,bx,bz,b0,b1,b3,b4,b5,b6,b7,b8,ca,cb,cc,cd],ds⟩ A)) :
 Code.wp prog Nc Q ⟨#[c0,.func (.func 17) #[] #[Hn r,Hn p],c2,c3,c4,c5,c6,c7,Hn bs,c9,I,J,cs,K,N,O,P,R,S,T,V,W,X,Y,Z,aa,ab,ac,ad,af,aj,al,ao,ap,aq,ar,ax,ay,az,a0,a1,a2,a3,a4,a5,a6,a7,a8,a9,ba,bb,bc,.slice x a pc,Hp a,Hp 0,ct,cv,cw,cx,c8,da,db,dc,df,di,dj,bd,bf,bi,bl,bm,bn,bq,br,bt,bv,bw,bx,bz,b0,b1,b3,b4,b5,b6,b7,b8,ca,cb,cc,cd],ds⟩ U:=by
 conv=>arg 2;whnf
 dsimp only;have eg:∀args w,(callFunc 17 args).run prog w=.ok (.enter 17 args) w:=enters_of func17 kR rfl;have cp:=Xa h;have cq:=Xa j
 go_loopw [54] (λi wx=>∃u:Nat,u<=a/\i=Hp u/\Hs (ZH M U wx)/\Hs (b u wx)) λi _=>a-(intOf i).toNat
 case atStart=>exact⟨0,aN _,rfl,Xa<|ZH.refl _ _,h0⟩
 obtain⟨i,hi,rfl,f,D⟩:=hrel;by_cases ei:i<a
 .have ch:i<d.length:=by rw[<-ej.o];exact ei
  obtain⟨pb,po,rfl,m,cj,ck,d0,d1,_⟩:=ek.o i ch;have e0:=f.cell (hM.o pb m.1 m.2) d0;have e1:=f.cell (hM.o pb m.1 m.2) d1;have F:=Xa<|el.o i ch;generalize d[i].dst=l at*;generalize d[i].args.length=dl at*;have ep:(i:Int)<(a:Int):=oM;have C:Hs (Below wr.heap.size wr<|wr.alloc (.cells #[Hp l,.slice cj dl ck] 106)):=Xa<|Xb (Below.refl _ _) _;have k:=Xa<|f.trans (ZH.of_below C.o);have co:=Xa<|hJ.o _ _ _ D.o C.o;have x0:(wr.alloc<|.cells #[Hp l,.slice cj dl ck] 106).cell? (Hk wr.heap.size 0)=some (Hp l):=by simp[go_sem]
  have cr:Hs (¬M wr.heap.size):=Xa (λcf=>by have:=ee.o _ cf;have:=f.size;omega);go_wp2_with fail
  generalize wr.alloc _=w5 at*;generalize wr.heap.size=xb at*;have h:=k.cell cg.o cp.o;have j:=k.cell hG.o cq.o;have E:=Xa<|F.o w5.drew k.drew (hJ.o _ _ _ co.o (Below.refl _ _).drew);refine Y7 (λy=>y.cell? (Hk xb 0)=some (Hp l)/\y.cell? (Hk bs 0)=some (Hl G (n+1) (n+1))/\y.cell? (Hk G 0)=some (Hl z o s)) λhHeld=>?_;refine X0 0 ?_;refine X0 1 ?_;refine X0 2 ?_;refine X0 3 ?_;refine X0 4 ?_;refine X0 5 ?_;refine Xs 6 λem hK=>?_;go_simp;refine E.mono ?_;rintro ce w6⟨rfl,g,ci⟩;have cl:=Xa<|k.drew.trans g;have cm:=Xa ci;refine hK _ _ ⟨g.cell cr.o x0,g.cell cg.o h,g.cell hG.o j⟩ λhHeld=>?_;refine Yq ?_;go_wp2;exact⟨⟨i+1,oM,gM,cl,cm⟩,by simp[intOf];omega⟩
 have ef:i=a:=oM;subst ef;go_wp2_with fail
 exact hN.o _ _ _ _ _ _ _ _ _ _ _ _ _ f.o D.o
theorem Ex(bs G V F E a ic:Nat)(zs cw:Nat->Nat)(J:Option Addr)(d:List Yg)(W N:Nat)(M:Nat->Prop)(b:Nat->World->Prop)(U:World)(X:Exit->Act->World->Prop)(ds:List Deferred)(c0 c2 c3 c4 c5 c6 c7 c9 Y Z aa ct cz ab c8 ac ad af aj al ao ap aq ar ax ay az a0 a1 a2 a3 a4 a5 a6 a7 a8 a9 ba bb bc bd bf bi bl bm bn bq br bt bv bw bx bz b0 b1 b3 b4 b5 b6 b7 b8 ca cb cc cd dc df dj dk dl dn du dw d5 ea eb ec ed ee ef ei ej ek el em ce:Value)
 (gb:Hs (YY U W N J d)) (gf:Hs (a=d.length)) (gt:a<=4000) (hM:Hs (∀K,W<=K->K<N->¬M K)) (ga:Hs (¬M bs)) (hG:Hs (¬M G))
 (B:U.cell? (Hk bs 0)=some (Hl G (a+1) (a+1))) (sg:Hs (∀i,i<=a->U.cell? (Hk G i)=some (Hl (zs i) V (cw i))))
 (gi:Hs (∀C∈d,1<=C.op/\C.op<=13)) (f7:Hs (∀A,ZH M U A->Yy A))
 (hJ:Hs (∀i A l,b i A->Below A.heap.size A l->b i l))
 (gl:Hs (∀i (f0:i<d.length),dB d[i].op=true->∀A,ZH M U A->b i A->Calls prog 17 #[Hp d[i].dst,.agg #[Hl (zs<|i+1) V (cw<|i+1)],Hn F,Hn E] A λr l=>r=.returned (.tuple #[])/\ZH M A l/\b (i+1) l))
 (gg:Hs (∀i (f0:i<d.length),dB d[i].op=false->∀A,b i A->b (i+1) A))
 (h0:Hs (b 0 U))
 (hN:Hs (∀(ep eq er es et eu ev ey ez e7 e8 e9 fa fb fc fe fi fl fq fr fs fx fz:Value)(A:World),ZH M U A->b a A->X (.exit 6) ⟨#[c0,.func (.func 17) #[] #[Hn F,Hn E],c2,c3,c4,c5,c6,c7,Hn bs,c9,Y,Z,aa,ep,eq,ab,er,ac,ad,af,aj,al,ao,ap,aq,ar,ax,ay,az,a0,a1,a2,a3,a4,a5,a6,a7,a8,a9,ba,bb,bc,bd,bf,bi,bl,bm,bn,bq,br,bt,bv,bw,bx,bz,b0,b1,b3,b4,b5,b6,b7,b8,ca,cb,cc,cd,.slice J a ic,Hp a,Hp a,es,et,eu,ev,ey,ez,e7,e8,e9,fa,fb,fc,fe,fi,fl,fq,fr,fs,fx,fz,ce],ds⟩ A)) :
 Code.wp prog NC X ⟨#[c0,.func (.func 17) #[] #[Hn F,Hn E],c2,c3,c4,c5,c6,c7,Hn bs,c9,Y,Z,aa,ct,cz,ab,c8,ac,ad,af,aj,al,ao,ap,aq,ar,ax,ay,az,a0,a1,a2,a3,a4,a5,a6,a7,a8,a9,ba,bb,bc,bd,bf,bi,bl,bm,bn,bq,br,bt,bv,bw,bx,bz,b0,b1,b3,b4,b5,b6,b7,b8,ca,cb,cc,cd,.slice J a ic,Hp a,Hp 0,dc,df,dj,dk,dl,dn,du,dw,d5,ea,eb,ec,ed,ee,ef,ei,ej,ek,el,em,ce],ds⟩ U:=by
 conv=>arg 2;whnf
 dsimp only;have eg:∀args cj,(callFunc 17 args).run prog cj=.ok (.enter 17 args) cj:=enters_of func17 kR rfl;have cr:=Xa B;clear B
 go_loopw [69] (λi c=>∃I:Nat,I<=a/\i=Hp I/\Hs (ZH M U c)/\Hs (b I c)) λi _=>a-(intOf i).toNat
 case atStart=>exact⟨0,aN _,rfl,Xa<|ZH.refl _ _,h0⟩
 obtain⟨i,hi,rfl,g,R⟩:=hrel;by_cases ge:i<a
 .have y:i<d.length:=by rw[<-gf.o];exact ge
  obtain⟨pb,po,rfl,ci,d0,d1,d2,d3,d4⟩:=gb.o i y;have t:=hM.o pb ci.1 ci.2;have e0:=g.cell t d0;have e1:=g.cell t d1;have e2:=g.cell t d2;have e3:=g.cell t d3;have e4:=g.cell t d4;have gh:=gi.o _<|aH y;have v:=Xa<|gl.o i y;have u:=Xa<|gg.o i y;generalize d[i]=C at*;let⟨op,f,o,p,q⟩:=C;simp only at e0 e1 e2 e3 e4 gh v u;let⟨k,gd⟩:=bX (show 0<=op by omega);subst gd;have gq:(i:Int)<(a:Int):=oM;clear d0 d1 d2 d3 d4;have D:Hs (Below wr.heap.size wr<|wr.alloc (.cells #[Hp k,Hp f,Hp o,Hp p,Hp q] 48)):=Xa<|Xb (Below.refl _ _) _;have P:=Xa<|g.trans (ZH.of_below D.o);have cp:=Xa<|hJ.o _ _ _ R.o D.o;have Q:Hs (Jk (wr.alloc<|.cells #[Hp k,Hp f,Hp o,Hp p,Hp q] 48) wr.heap.size 0 ⟨k,f,o,p,q⟩):=Xa ⟨by simp[go_sem],by simp[go_sem],by simp[go_sem],by simp[go_sem],by simp[go_sem]⟩;go_wp2_with fail
  generalize (wr.alloc _)=L at*;generalize wr.heap.size=xb at*;have T:=Xa<|UH xb k f o p q L Q oM oM (Xa<|f7.o _ P.o);clear e0 e1 e2 e3 e4 Q D;refine T.mono ?_;rintro r w6⟨v6,rfl,x,z⟩;have O:=Xa<|P.trans (ZH.of_below x);have S:=Xa<|hJ.o _ _ _ cp.o x;clear T;cases hu:dB (k:Int)with
  |false=>
   let⟨av,n,w,_⟩:=Xk z;rw[show(BW ⟨(k:Int),f,o,p,q⟩).length=0 by unfold BW;rw[hu];rfl]at w;subst w;have cq:=Xa<|u.o hu;clear hu x z v u;go_wp2_with fail
   generalize wr=wv at*
   go_loopw [76] (λj c=>j=Hp 0/\Hs (ZH M U c)/\Hs (b i c)) λ_ _=>0
   case atStart=>exact⟨rfl,O,S⟩
   obtain⟨rfl,e,m⟩:=hrel;go_wp2;exact⟨⟨i+1,oM,gM,e,Xa<|cq.o _ m.o⟩,by simp[intOf];omega⟩
  |true=>
   have s:w6.ownsRow L.heap.size 2 1 v6 1 [Hp f]:=by
    have:=z;unfold BW at this;rw[hu]at this;exact this
   let⟨h,n,w,gp,cf⟩:∃h n,v6=Hl h 1 n/\L.heap.size<=h/\w6.cell? (Hk h 0)=some (Hp f):=by
    let⟨h,n,r,H,_⟩:=Xm s oM;subst r;exact⟨h,n,rfl,H.1,Jj s rfl⟩
   subst w;have cl:=Xa cf;have cs:=Xa λA s H=>v.o hu A s H;clear hu x z s v u cf;go_wp2_with fail
   generalize wr=wv at*
   go_loopw [76] (λj c=>(j=Hp 0/\Hs (ZH M U c)/\Hs (b i c)/\Hs (c.cell? (Hk h 0)=some (Hp f)))\/(j=Hp 1/\Hs (ZH M U c)/\Hs (b (i+1) c))) λj _=>1-(intOf j).toNat
   case atStart=>exact bC ⟨rfl,O,S,cl⟩
   rcases hrel with⟨rfl,e,m,HCx⟩|⟨rfl,e,m⟩
   .have B:=e.cell ga.o cr.o;have gm:=e.cell hG.o<|sg.o (i+1) oM;have cx:=HCx.o;have gx:IntKind.i64.wrap ((i:Int)+1)=(i:Int)+1:=by rw[dF];omega
    have gr:0<=(i:Int)+1:=oM;have gs:(i:Int)+1<(a:Int)+1:=oM;have ck:=Xa<|cs.o wr e.o m.o;go_wp2_with fail
    refine ck.mono ?_;rintro r w7⟨rfl,cg,ch⟩;have cm:=Xa<|e.trans cg;have co:=Xa ch;clear cg ch B gm cx;go_wp2_with fail
    exact⟨aZ ⟨gM,cm,co⟩,by simp[intOf]⟩
   go_wp2;exact⟨⟨i+1,oM,gM,e,m⟩,by simp[intOf];omega⟩
 have gc:i=a:=oM;subst gc;go_wp2_with fail
 exact hN.o _ _ _ _ _ _ _ _ _ _ _ _ _ _ _ _ _ _ _ _ _ _ _ _ g.o R.o
section
structure IZ(V:Nat)(w6:World)(G m Kw z:Nat)(pre:List Sd)(U:World):Prop where
 os:U.os=w6.os
 tape:U.tape=w6.tape
 output:U.output=w6.output
 size:w6.heap.size<=U.heap.size
 fr:∀q,q<w6.heap.size->q≠G->U.heap[q]?=w6.heap[q]?
 zl:w6.heap.size<=z/\z<U.heap.size
 gl:G<w6.heap.size
 db:∃T:Nat->Value,U.rowIs G 59 m T/\∀i,i<m->(∀q∈pre,q.i≠i)\/∃q∈pre,q.i=i/\(XA q.W/\Ib V Kw q.W)/\∃zi ci,T i=.slice (some ⟨zi,0,none⟩) Kw ci/\(w6.heap.size<=zi/\zi≠z)/\Bf U zi Kw ci q.W
section
variable {V: Nat} {w6 U U' U5: World} {G m Kw z: Nat} {pre: List Sd}
theorem Bf.cells{w:World}{g K C:Nat}{W:Nat->Nat}(h:Bf w g K C W):∃o,w.heap[g]?=some o/\o.isCells=true:=by
 let⟨_,T,c,a,_⟩:=h;exact⟨_,a,rfl⟩
theorem IZ.row(h:IZ V w6 G m Kw z pre U){r:Nat}(u:w6.heap.size<=r)(k:U.grownBy U' (some r))(b:r=z\/∃o:Obj,U.heap[r]?=some o/\o.isCells=false):IZ V w6 G m Kw z pre U':=by
 let⟨T,c,i⟩:=h.db;have j:=h.gl;refine⟨k.os.trans h.os,k.tape.trans h.tape,k.output.trans h.output,aJ h.size k.size,λq q1 q2=>(k.block q (oN h.size) λe=>by injection e with e;omega).trans (h.fr q q1 q2),⟨h.zl.1,aX h.zl.2 k.size⟩,j,T,c.of_block (k.block G c.lt λe=>by injection e with e;omega),λn l=>?_⟩;rcases i n l with e|⟨q,q1,q2,t,f,g,e1,e2,e3⟩;·exact bC e
 refine aZ ⟨q,q1,q2,t,f,g,e1,e2,e3.of_block<|k.block f e3.lt λe=>?_⟩;injection e with e;rcases b with b|⟨o,p,s⟩;·exact e2.2<|by rw[e];exact b
 let⟨v,a,d⟩:=e3.cells;rw[e,p]at a;injection a with a;subst a;rw[s]at d;cases d
theorem IZ.below(h:IZ V w6 G m Kw z pre U)(k:Below U.heap.size U U'):IZ V w6 G m Kw z pre U':=by
 let⟨T,a,d⟩:=h.db;refine⟨k.os.trans h.os,k.tape.trans h.tape,k.output.trans h.output,aJ h.size k.size,λq q1 q2=>(k.block q<|oN h.size).trans (h.fr q q1 q2),⟨h.zl.1,aX h.zl.2 k.size⟩,h.gl,T,a.of_block<|k.block G a.lt,λi f=>?_⟩;rcases d i f with e|⟨q,q1,q2,g,b,c,e1,e2,e3⟩;·exact bC e
 exact aZ ⟨q,q1,q2,g,b,c,e1,e2,e3.of_block<|k.block b e3.lt⟩
theorem IZ.turn(h:IZ V w6 G m Kw z pre U)(k:U.grownBy U' (some z)):IZ V w6 G m Kw z pre U':=h.row h.zl.1 k<|bC rfl
theorem IZ.own(V:Nat)(w6:World)(G m Kw z:Nat):OwnFrom w6.heap.size (IZ V w6 G m Kw z):=λpre U U' row h k q=>by
 cases row with
 |none=>exact h.below ⟨k.os,k.tape,k.output,k.size,λb f=>k.block b f λe=>by cases e⟩
 |some r=>
  let⟨a,o,c,d⟩:=q r rfl;exact h.row a k<|aZ ⟨o,c,d⟩
theorem IZ.push(h:IZ V w6 G m Kw z pre U){s:Sd}(n:XA s.W/\Ib V Kw s.W)(p:Below U.heap.size U U5){b c:Nat}(u:U.heap.size<=b)(o:Bf U5 b Kw c s.W):IZ V w6 G m Kw z (pre++[s]) (U5.setCell ⟨G,s.i,none⟩ (.slice (some ⟨b,0,none⟩) Kw c)):=by
 have a:=h.below p;let⟨T,g,j⟩:=a.db;have k:=h.gl;have t:=h.size;have v:=h.zl;refine⟨a.os,a.tape,a.output,by rw[Xd];exact a.size,λq q1 q2=>(Below.heap_setCell _ _ _ _ q2).trans (a.fr q q1 q2),⟨a.zl.1,by rw[Xd];exact a.zl.2⟩,k,λi=>if i=s.i then Hl b Kw c else T i,(g.set s.i _).congr (λi _=>by by_cases e:i=s.i<;>simp[e]),λi l=>?_⟩;by_cases e:i=s.i;·refine aZ ⟨s,sP,e.symm,n,b,c,by simp only[e,gG],⟨oM,oM⟩,o.setOther (by show b≠G;omega) _⟩
 rcases j i l with e1|⟨q,q1,q2,r,d,f,e1,e2,e3⟩
 .refine bC λq hq=>?_;rcases bU.1 hq with hq|hq;·exact e1 q hq
  rw[cS.1 hq];exact λe3=>e e3.symm
 exact aZ ⟨q,dD _ q1,q2,r,d,f,by simp only[e,fD];exact e1,e2,e3.setOther (by show d≠G;omega) _⟩
theorem IZ.cell(h:IZ V w6 G m Kw z pre U){b o:Nat}{v:Value}(c:b≠G)(a:w6.cell? (Hk b o)=some v):U.cell? (Hk b o)=some v:=(Xc<|h.fr b (aI w6 _ a) c).trans a
theorem IZ.done{a:List Xe}(B:Jy V a){k:Nat}(y:k<a.length){c:Nat->Nat}(x:V<=64*Kw)(hq:∀v,v<64*Kw->(Xh c v=true↔UV a v k)){s:List Sd}(p:s.map Sd.dat=TZ a[k].is.length c (Hw a[k]))(h:IZ V w6 G (a[k].is.length+1) Kw z s U) :
 ∃(l n:Nat->Nat)(e:Nat->Nat->Nat),∀i,i<=a[k].is.length->U.cell? (Hk G i)=some (Hl (l i) Kw (n i))/\w6.heap.size<=l i/\Bf U (l i) Kw (n i) (e i)/\XA (e i)/\Ib V Kw (e i)/\Hc (e i) (64*Kw)=Uq a a[k] V k i:=by
 let⟨T,u,w⟩:=h.db;have g:∀i,∃b f d,i<=a[k].is.length->U.cell? (Hk G i)=some (Hl b Kw f)/\w6.heap.size<=b/\Bf U b Kw f d/\XA d/\Ib V Kw d/\Hc d (64*Kw)=Uq a a[k] V k i:=λi=>by
  by_cases j:i<=a[k].is.length
  .rcases w i oM with t|⟨q,q1,q2,r,b,f,e1,e2,e3⟩
   .let⟨W,o⟩:=Ep a[k] c (i:=i) oM;rw[<-p]at o;let⟨q,q1,q2⟩:=aY.1 o;exact absurd (fI Prod.fst q2) (t q q1)
   refine⟨b,f,q.W,λ_=>⟨by rw[u.cell oM,e1],e2.1,e3,r.1,r.2,?_⟩⟩
   have A:(i,q.W)∈TZ a[k].is.length c (Hw a[k]):=by
    rw[<-p,<-q2];exact aY.2 ⟨q,q1,rfl⟩
   rw[uj B y x hq A]
  exact⟨0,0,λ_=>0,λh=>absurd h j⟩
 refine⟨λi=>Classical.choose<|g i,λi=>Classical.choose<|gJ (g i),λi=>Classical.choose<|gJ (gJ<|g i),λi j=>gJ (gJ<|gJ (g i)) j⟩
end
theorem tj{b:List Xe}{V:Nat}{a:List Nat}{k:Nat}(g:k<a.length)(d:a[k]<b.length):∃f,Ko b V a=Ko b V (a.take k)++(IX b V a[k] b[a[k]] b[a[k]].ps.length++VC b V a[k] b[a[k]] b[a[k]].is.length)++f:=by
 have e:a=a.take k++a[k]::a.drop (k+1):=by rw[mO,hH]
 refine⟨Ko b V<|a.drop (k+1),?_⟩;have c:LK b V a[k]=IX b V a[k] b[a[k]] b[a[k]].ps.length++VC b V a[k] b[a[k]] b[a[k]].is.length:=by
  unfold LK;rw[aC d]
 rw[<-c];unfold Ko
 conv=>lhs;rw[e]
 rw[eZ,jF,List.append_assoc]
theorem DH{xs:List Xe}{V b:Nat}{x:Xe}{i:Nat}(a:i<x.ps.length):∃r,IX xs V b x x.ps.length=IX xs V b x i++(x.ps[i].dst.toNat,Uq xs x V b 0)::r:=by
 refine⟨(x.ps.drop<|i+1).map λp=>(p.dst.toNat,Uq xs x V b 0),?_⟩;have e:x.ps=x.ps.take i++x.ps[i]::x.ps.drop (i+1):=by rw[mO,hH]
 unfold IX;rw[gC]
 conv=>lhs;rw[e]
 rw[bG,eH]
theorem tE{xs:List Xe}{V b:Nat}{x:Xe}:∀(m i:Nat),∃r,VC xs V b x (i+m)=VC xs V b x i++r
 |0,i=>⟨[],sP⟩
 |m+1,i=>by
  obtain⟨r,a⟩:=tE (xs:=xs) (V:=V) (b:=b) (x:=x) m i;rw[<-Nat.add_assoc,VC,a];exact⟨_,List.append_assoc _ _ _⟩
theorem EH{xs:List Xe}{V:Nat}{a:List Nat}{k:Nat}(d:k<a.length)(b:a[k]<xs.length){i:Nat}(c:i<xs[a[k]].ps.length):∃g,Ko xs V a=(Ko xs V (a.take k)++IX xs V a[k] xs[a[k]] i)++(xs[a[k]].ps[i].dst.toNat,Uq xs xs[a[k]] V a[k] 0)::g:=by
 let⟨e,e1⟩:=tj (V:=V) d b;let⟨f,e2⟩:=DH (xs:=xs) (V:=V) (b:=a[k]) c;rw[e1,e2];exact⟨f++VC xs V a[k] xs[a[k]] xs[a[k]].is.length++e,by simp[List.append_assoc]⟩
theorem ES{xs:List Xe}{V:Nat}{a:List Nat}{k:Nat}(f:k<a.length)(b:a[k]<xs.length){i d:Nat}(e:i<xs[a[k]].is.length)(g:dB xs[a[k]].is[i].op=true)(c:xs[a[k]].is[i].dst=(d:Int)):∃l,Ko xs V a=(Ko xs V (a.take k)++IX xs V a[k] xs[a[k]] xs[a[k]].ps.length++VC xs V a[k] xs[a[k]] i)++(d,Uq xs xs[a[k]] V a[k] (i+1))::l:=by
 let⟨h,e1⟩:=tj (V:=V) f b;let⟨j,e2⟩:=tE (xs:=xs) (V:=V) (b:=a[k]) (x:=xs[a[k]]) (xs[a[k]].is.length-(i+1)) (i+1);rw[show i+1+(xs[a[k]].is.length-(i+1))=xs[a[k]].is.length by omega,sc e g c]at e2;rw[e1,e2];exact⟨j++h,by simp[List.append_assoc]⟩
theorem CZ{xs:List Xe}{V:Nat}{a:List Nat}{k:Nat}(c:k<a.length)(b:a[k]<xs.length):Ko xs V (a.take<|k+1)=Ko xs V (a.take k)++IX xs V a[k] xs[a[k]] xs[a[k]].ps.length++VC xs V a[k] xs[a[k]] xs[a[k]].is.length:=by
 rw[kJ,aC c];show Ko xs V (a.take k++[a[k]])=_;rw[rJ];unfold LK;rw[aC b,List.append_assoc]
end
end Go.Proofs.YtffcajcgkblkoaaGreatDoor
