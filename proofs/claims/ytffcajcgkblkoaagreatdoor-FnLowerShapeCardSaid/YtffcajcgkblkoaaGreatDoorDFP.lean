import Derived.Test.YtffcajcgkblkoaaGreatDoorSQ1
namespace Go.Proofs.YtffcajcgkblkoaaGreatDoor
set_option maxHeartbeats 2000000
set_option maxRecDepth 100000
open Go.RowKit Go.Shelf Go.Proofs.Tryz
variable{t:Int}{l:List Int}{s S:List Nat}{y:List Value}{x:List Xe}{n m k B g i j c:Nat}{D:Nat->List Nat}{f F:Nat->Nat}{M N:Nat->Nat->Nat}{d:Nat->Prop}{p:Option Addr}{R:Program}{a A:Value}{w v u:World}
def C2(tg:Nat->List Nat):Nat->Nat->(Nat->Nat)×List Nat->(Nat->Nat)×List Nat
 |0,_,s=>s
 |m+1,b,s=>if Xh s.1 b=true then s else
  (((tg b).foldl (λs t=>C2 tg m t s) (YH s.1 b,s.2)).1,((tg b).foldl (λs t=>C2 tg m t s) (YH s.1 b,s.2)).2++[b])
def X8(a:List Xe)(b:Nat):List Nat:=match a[b]? with
 |some x=>x.te.tg.map Int.toNat
 |none=>[]
theorem Km{b:Nat}(h:b<x.length):X8 x b=x[b].te.tg.map Int.toNat:=by
 unfold X8;rw[aC h]
def XB(W:Nat->Nat)(n:Nat):Nat:=((List.range n).filter λx=>!Xh W x).length
theorem JY(n:Nat)(h:∀x,Xh f x=true->Xh F x=true):XB F n<=XB f n:=by
 unfold XB;rw[<-gK,<-gK];refine List.countP_mono_left λx _ a=>?_;cases h1:Xh f x with
 |false=>rfl
 |true=>rw[h x h1]at a;cases a
theorem T8{b:Nat}(h:XB f n=0)(a:b<n):Xh f b=true:=by
 unfold XB at h;have:=mJ.1 (List.length_eq_zero_iff.1 h) b (bE.2 a);simpa using this
theorem Tb{W:Nat->Nat}{b:Nat}(f:b<n)(g:Xh W b=false):XB (YH W b) n+1<=XB W n:=by
 have i:∀n,XB (YH W b) n+(if b<n then 1 else 0)<=XB W n:=λn=>by
  induction n with
  |zero=>simp[XB]
  |succ n a=>
   unfold XB at*;rw[dN,eU,eU,aQ,aQ];by_cases e:n=b
   .subst e;rw[aM oM]at a;rw[aU oM];have d:([n].filter λx=>!Xh (YH W n) x).length=0:=by simp[Z8]
    have j:([n].filter λx=>!Xh W x).length=1:=by simp[g]
    omega
   have d:([n].filter λx=>!Xh (YH W b) x).length=([n].filter λx=>!Xh W x).length:=by
    congr 1;refine lW λx h=>?_;have:x=n:=by simpa using h
    subst this;rw[Z8,dJ e,jV]
   by_cases c:b<n;·rw[aU c]at a;rw[aU oM];omega
   rw[aM c]at a;rw[aM oM];omega
 have:=i n;rw[aU f]at this;exact this
theorem KB(tg:Nat->List Nat):∀(m b:Nat)(s:(Nat->Nat)×List Nat)(x:Nat),Xh s.1 x=true->Xh (C2 tg m b s).1 x=true
 |0,_,_,_,h=>h
 |m+1,b,s,x,h=>by
  rw[C2];split;·exact h
  have c:∀(l:List Nat)(s:(Nat->Nat)×List Nat),Xh s.1 x=true->Xh (l.foldl (λs t=>C2 tg m t s) s).1 x=true:=λl=>by
   induction l with
   |nil=>intro s h;exact h
   |cons t l a=>intro s h;exact a _<|KB tg m t s x h
  exact c _ _<|by rw[Z8,h];simp
theorem j4(tg:Nat->List Nat):∀(m b:Nat)(s:(Nat->Nat)×List Nat),XA s.1->XA (C2 tg m b s).1
 |0,_,_,h=>h
 |m+1,b,s,h=>by
  rw[C2];split;·exact h
  have c:∀(l:List Nat)(s:(Nat->Nat)×List Nat),XA s.1->XA (l.foldl (λs t=>C2 tg m t s) s).1:=λl=>by
   induction l with
   |nil=>intro s h;exact h
   |cons t l a=>intro s h;exact a _<|j4 tg m t s h
  exact c _ _<|jz h b
theorem Ue(tg:Nat->List Nat)(m:Nat)(l:List Nat)(s:(Nat->Nat)×List Nat)(x:Nat)(h:Xh s.1 x=true):Xh (l.foldl (λs t=>C2 tg m t s) s).1 x=true:=by
 induction l generalizing s with
 |nil=>exact h
 |cons t l a=>exact a _<|KB tg m t s x h
theorem Cj(tg:Nat->List Nat)(m:Nat)(l:List Nat)(s:(Nat->Nat)×List Nat)(h:XA s.1):XA (l.foldl (λs t=>C2 tg m t s) s).1:=by
 induction l generalizing s with
 |nil=>exact h
 |cons t l a=>exact a _<|j4 tg m t s h
theorem nL(tg:Nat->List Nat)(n:Nat)(a:∀b,b<n->∀t∈tg b,t<n):∀(m b:Nat)(s:(Nat->Nat)×List Nat),b<n->(C2 tg m b s).2.length+XB (C2 tg m b s).1 n<=s.2.length+XB s.1 n
 |0,_,_,_=>aA _
 |m+1,b,s,hb=>by
  rw[C2];split;·exact aA _
  rename_i d;have e:Xh s.1 b=false:=by simpa using d
  have j:=Tb hb e;have i:∀(l:List Nat)(s:(Nat->Nat)×List Nat),(∀t∈l,t<n)->(l.foldl (λs t=>C2 tg m t s) s).2.length+XB (l.foldl (λs t=>C2 tg m t s) s).1 n<=s.2.length+XB s.1 n:=λl=>by
   induction l with
   |nil=>intro s _;exact aA _
   |cons t l g=>
    intro s h;exact aJ (g _ λx f=>h x<|cN _ f) (nL tg n a m t s<|h t cI)
  have c:=i (tg b) (YH s.1 b,s.2) (a b hb);rw[aQ];dsimp only at c |-;simp only[bA,bO];omega
theorem Bk(tg:Nat->List Nat)(n:Nat)(a:∀b,b<n->∀t∈tg b,t<n)(m:Nat)(l:List Nat)(s:(Nat->Nat)×List Nat)(h:∀t∈l,t<n):(l.foldl (λs t=>C2 tg m t s) s).2.length+XB (l.foldl (λs t=>C2 tg m t s) s).1 n<=s.2.length+XB s.1 n:=by
 induction l generalizing s with
 |nil=>exact aA _
 |cons t l d=>exact aJ (d _ λx c=>h x<|cN _ c) (nL tg n a m t s<|h t cI)
theorem jd{tg:Nat->List Nat}{b:Nat}{s:(Nat->Nat)×List Nat}(h:Xh s.1 b=false):C2 tg (m+1) b s=(((tg b).foldl (λs t=>C2 tg m t s) (YH s.1 b,s.2)).1,((tg b).foldl (λs t=>C2 tg m t s) (YH s.1 b,s.2)).2++[b]):=by
 rw[C2,aM<|by rw[h];decide]
theorem Vd{tg:Nat->List Nat}{b:Nat}{s:(Nat->Nat)×List Nat}(h:Xh s.1 b=true):C2 tg n b s=s:=by
 cases n with
 |zero=>rfl
 |succ n=>rw[C2,aU h]
inductive Sp (I:Nat->Nat->Nat) (T:Nat->Nat->Nat) (ord:Nat->Prop) (src:Nat->List Nat):Nat->Nat->Prop
 |init {b x:Nat}:Xh (I b) x=true->Sp I T ord src b x
 |take {b s x:Nat}:ord b->s∈src b->Sp I T ord src s x->Xh (T b) x=false->Sp I T ord src b x
def ZB(T:Nat->Nat->Nat)(b s:Nat)(W:Nat->Nat->Nat):Nat->Nat->Nat:=λi=>if i=b then Hv (W b) (W s) (T b)else W i
def D2(T:Nat->Nat->Nat)(K b:Nat)(l:List Nat)(s:(Nat->Nat->Nat)×Bool):(Nat->Nat->Nat)×Bool :=
 l.foldl (λs t=>(ZB T b t s.1,G8 (s.1 b) (s.1 t) (T b) K||s.2)) s
theorem we{T:Nat->Nat->Nat}{K b:Nat}(h:n<s.length)(a:(Nat->Nat->Nat)×Bool):D2 T K b (s.take<|n+1) a=(ZB T b s[n] (D2 T K b (s.take n) a).1,G8 ((D2 T K b (s.take n) a).1 b) ((D2 T K b (s.take n) a).1 s[n]) (T b) K||(D2 T K b (s.take n) a).2):=by
 unfold D2;rw[bN h,dT];rfl
def XQ(W:Nat->Nat->Nat):Prop:=∀i,XA<|W i
theorem Uc(b s:Nat)(h:XQ N):XQ (ZB M b s N):=λi=>by
 unfold ZB;split;·exact oD (h b) (h s)
 exact h i
theorem Ts(b s:Nat)(h:XQ N)(a:XQ M)(i x:Nat):Xh (ZB M b s N i) x=(Xh (N i) x||(decide (i=b)&&Xh (N s) x&&!Xh (M b) x)):=by
 unfold ZB;by_cases e:i=b
 .subst e;rw[aU rfl,sS (h i) (a i)];simp
 rw[aM e];simp[e]
theorem TG{T:Nat->Nat->Nat}{K b:Nat}:∀(l:List Nat)(s:(Nat->Nat->Nat)×Bool),XQ s.1->XQ (D2 T K b l s).1
 |[],_,h=>h
 |t::l,_,h=>TG l _<|Uc b t h
theorem JJ{T:Nat->Nat->Nat}{K b:Nat}(a:XQ T):∀(l:List Nat)(s:(Nat->Nat->Nat)×Bool),XQ s.1->∀i x,Xh (s.1 i) x=true->Xh ((D2 T K b l s).1 i) x=true
 |[],_,_,_,_,h=>h
 |t::l,s,hs,i,x,h=>JJ a l _ (Uc b t hs) i x (by show Xh (ZB T b t s.1 i) x=true;rw[Ts b t hs a,h];rfl)
theorem T9{I T:Nat->Nat->Nat}{K b:Nat}{ord:Nat->Prop}{src:Nat->List Nat}(c:XQ T)(d:ord b):∀(l:List Nat)(s:(Nat->Nat->Nat)×Bool),XQ s.1->(∀t∈l,t∈src b)->(∀i x,Xh (s.1 i) x=true->Sp I T ord src i x)->∀i x,Xh ((D2 T K b l s).1 i) x=true->Sp I T ord src i x
 |[],_,_,_,h=>h
 |t::l,s,hs,hl,h=>T9 c d l _ (Uc b t hs) (λu g=>hl u<|cN _ g) (λi x j=>by
  have a:Xh (ZB T b t s.1 i) x=true:=j;rw[Ts b t hs c]at a;cases hi:Xh (s.1 i) x with
  |true=>exact h i x hi
  |false=>
   rw[hi]at a;simp only[jV,bY,bD,lV]at a;obtain⟨⟨rfl,e⟩,f⟩:=a;exact Sp.take d (hl t cI) (h t x e) f)
theorem WW{T:Nat->Nat->Nat}{K b:Nat}:∀(l:List Nat)(s:(Nat->Nat->Nat)×Bool),s.2=true->(D2 T K b l s).2=true
 |[],_,h=>h
 |t::l,s,h=>WW l _<|by show(_||s.2)=true;rw[h];simp
theorem T6{T:Nat->Nat->Nat}{K b:Nat}(f:XQ T):∀(l:List Nat)(s:(Nat->Nat->Nat)×Bool),XQ s.1->(D2 T K b l s).2=false->(∀i x,x<64*K->Xh ((D2 T K b l s).1 i) x=Xh (s.1 i) x)/\∀t∈l,∀x,x<64*K->Xh (s.1 t) x=true->Xh (T b) x=false->Xh (s.1 b) x=true
 |[],_,_,_=>⟨λ_ _ _=>rfl,λt p=>by cases p⟩
 |t::l,s,hs,hq=>by
  have k:(G8 (s.1 b) (s.1 t) (T b) K||s.2)=false:=by
   cases e:(G8 (s.1 b) (s.1 t) (T b) K||s.2)with
   |false=>rfl
   |true=>have:=WW (T:=T) (K:=K) (b:=b) l (ZB T b t s.1,G8 (s.1 b) (s.1 t) (T b) K||s.2) e;rw[show D2 T K b (t::l) s=D2 T K b l (ZB T b t s.1,G8 (s.1 b) (s.1 t) (T b) K||s.2)from rfl,this]at hq;cases hq
  have o:G8 (s.1 b) (s.1 t) (T b) K=false:=by
   cases e:G8 (s.1 b) (s.1 t) (T b) K with
   |false=>rfl
   |true=>rw[e]at k;cases k
  have j:∀x,x<64*K->Xh (s.1 t) x=true->Xh (T b) x=false->Xh (s.1 b) x=true:=λx a c d=>Ci (hs b) (f b) o a c d
  have g:∀i x,x<64*K->Xh (ZB T b t s.1 i) x=Xh (s.1 i) x:=λi x a=>by
   rw[Ts b t hs f];by_cases e:i=b
   .subst e;cases c:Xh (s.1 t) x with
    |false=>simp
    |true=>
     cases d:Xh (T i) x with
     |true=>simp
     |false=>rw[j x a c d];rfl
   simp[e]
  let⟨c,d⟩:=T6 f l (ZB T b t s.1,G8 (s.1 b) (s.1 t) (T b) K||s.2) (Uc b t hs) hq;refine⟨λi x a=>(c i x a).trans (g i x a),λu h x a n m=>?_⟩;rcases cH.1 h with rfl|h;·exact j x a n m
  have:=d u h x a (by rw[g u x a];exact n) m;rw[g b x a]at this;exact this
theorem UB{T:Nat->Nat->Nat}{K b:Nat}(a:XQ T):∀(l:List Nat)(s:(Nat->Nat->Nat)×Bool),XQ s.1->s.2=false->(D2 T K b l s).2=true->XB ((D2 T K b l s).1 b) (64*K)<XB (s.1 b) (64*K)
 |[],s,_,h0,h1=>by rw[show D2 T K b [] s=s from rfl,h0]at h1;cases h1
 |t::l,s,hs,h0,h1=>by
  cases hg:G8 (s.1 b) (s.1 t) (T b) K with
  |false=>
   have f:D2 T K b (t::l) s=D2 T K b l (ZB T b t s.1,false):=by show D2 T K b l (ZB T b t s.1,G8 (s.1 b) (s.1 t) (T b) K||s.2)=_;rw[hg,h0];rfl
   rw[f]at h1 |-;refine aX (UB a l (ZB T b t s.1,false) (Uc b t hs) rfl h1) ?_;exact JY _ λx e=>by show Xh (ZB T b t s.1 b) x=true;rw[Ts b t hs a,e];rfl
  |true=>
   let⟨x,e,g,h,i⟩:=BQ (hs b) (hs t) (a b) hg;have m:∀c:Nat->Nat,(∀y,Xh (s.1 b) y=true->Xh c y=true)->Xh c x=true->XB c (64*K)<XB (s.1 b) (64*K):=λc j k=>by
    have n:=Tb e i;have o:XB c (64*K)<=XB (YH (s.1 b) x) (64*K):=JY _ (λy d=>by
     rw[Z8]at d;cases hyx:decide (y=x)with
     |true=>rw[fV hyx];exact k
     |false=>rw[hyx,jV]at d;exact j y d)
    omega
   refine m _ (λy d=>JJ a (t::l) s hs b y d) ?_;refine JJ a l (ZB T b t s.1,G8 (s.1 b) (s.1 t) (T b) K||s.2) (Uc b t hs) b x ?_;show Xh (ZB T b t s.1 b) x=true;rw[Ts b t hs a,g,h];simp
theorem TN{T:Nat->Nat->Nat}{K b i:Nat}(h:i≠b):∀(l:List Nat)(s:(Nat->Nat->Nat)×Bool),(D2 T K b l s).1 i=s.1 i
 |[],_=>rfl
 |t::l,s=>(TN h l _).trans (by show ZB T b t s.1 i=_;unfold ZB;rw[aM h])
theorem We{W:Nat->Nat->Nat}(e:∀b x,Xh (M b) x=true->Xh (W b) x=true)(f:∀b x,Xh (W b) x=true->Sp M N d D b x)(c:∀b,d b->∀t∈D b,∀x,x<64*n->Xh (W t) x=true->Xh (N b) x=false->Xh (W b) x=true)(b x:Nat)(a:x<64*n):Xh (W b) x=true↔Sp M N d D b x:=by
 refine⟨f b x,λh=>?_⟩
 induction h with
 |init h=>exact e _ _ h
 |take g i _ j k=>exact c _ g _ i _ a (k a) j
theorem Vl(n:Nat)(h:∀x,x<n->Xh F x=Xh f x):XB F n=XB f n:=by
 unfold XB;congr 1;exact lW λx a=>by rw[h x<|bE.1 a]
def JI(W:Nat->Nat->Nat)(K:Nat):Nat->Nat
 |0=>0
 |n+1=>JI W K n+XB (W n) (64*K)
theorem Vo{W a:Nat->Nat->Nat}{K:Nat}:∀n,(∀i,i<n->XB (a i) (64*K)=XB (W i) (64*K))->JI a K n=JI W K n
 |0,_=>rfl
 |n+1,h=>by rw[JI,JI,Vo n λi b=>h i oM,h n oM]
theorem pM{W a:Nat->Nat->Nat}{K b:Nat}(c:∀i,i≠b->a i=W i)(d:XB (a b) (64*K)<XB (W b) (64*K)):∀n,b<n->JI a K n<JI W K n
 |0,h=>absurd h oM
 |n+1,h=>by
  rw[JI,JI];by_cases e:n=b
  .subst e;rw[Vo n λi f=>by rw[c i oM]];omega
  rw[c n e];have:=pM c d n oM;omega
def MB(T:Nat->Nat->Nat)(K:Nat)(a:Nat->List Nat)(W:Nat->Nat->Nat)(b:Nat):Prop:=∀t∈a b,∀x,x<64*K->Xh (W t) x=true->Xh (T b) x=false->Xh (W b) x=true
theorem Ch{a:Nat->Nat->Nat}{b:Nat}(h:MB M n D N b)(e:∀i x,x<64*n->Xh (a i) x=Xh (N i) x):MB M n D a b:=λt g x d c f=>by
 rw[e _ _ d]at c |-;exact h t g x d c f
def Lg(T:Nat->Nat->Nat)(K:Nat)(a:Nat->List Nat)(W:Nat->Nat->Nat)(R:List Nat)(q p:Nat):Prop:=∀j,j<q->MB T K a W (R.getD ((p+R.length-1-j)%R.length) 0)
theorem Vz:Lg M n D N s 0 m:=λj a=>absurd a oM
theorem xM{a:Nat->Nat->Nat}(h:Lg M n D N s m k)(e:∀i x,x<64*n->Xh (a i) x=Xh (N i) x)(b:k<s.length)(c:MB M n D N s[k]):Lg M n D a s (m+1) (k+1):=λj d=>by
 refine Ch ?_ e;cases j with
 |zero=>
  have:(k+1+s.length-1-0)%s.length=k:=by
   rw[show k+1+s.length-1-0=k+s.length by omega,kH,jM b]
  rw[this,show s.getD k 0=s[k] by simp[b]];exact c
 |succ j=>
  rw[show k+1+s.length-1-(j+1)=k+s.length-1-j by omega];exact h j oM
theorem xH(h:Lg M n D N s m s.length)(hq:m<s.length):Lg M n D N s m 0:=λj a=>by
 have:=h j a;rw[show s.length+s.length-1-j=(0+s.length-1-j)+s.length by omega,kH]at this;exact this
theorem yJ(h:Lg M n D N s s.length m)(f:m<=s.length){b:Nat}(d:b∈s):MB M n D N b:=by
 obtain⟨i,a,rfl⟩:=bR d;have e:(m+s.length-1-(m+s.length-1-i)%s.length)%s.length=i:=by
  by_cases c:i+1<=m
  .have e1:(m+s.length-1-i)%s.length=m-1-i:=by
    rw[show m+s.length-1-i=(m-1-i)+s.length by omega,kH,jM oM]
   rw[e1,show m+s.length-1-(m-1-i)=i+s.length by omega,kH,jM a]
  have e1:(m+s.length-1-i)%s.length=m+s.length-1-i:=jM oM;rw[e1,show m+s.length-1-(m+s.length-1-i)=i by omega,jM a]
 have:=h ((m+s.length-1-i)%s.length) (dS _ oM);rw[e,show s.getD i 0=s[i] by simp[a]]at this;exact this
section
inductive Av (tg:Nat->List Nat) (a:Nat):Nat->Prop
 |root:a≠0->Av tg a 0
 |step {b t:Nat}:Av tg a b->t∈tg b->t≠a->Av tg a t
inductive Re (tg:Nat->List Nat):Nat->Prop
 |root:Re tg 0
 |step {b t:Nat}:Re tg b->t∈tg b->Re tg t
structure JO(tg:Nat->List Nat)(a b:Nat):Prop where
 ra:Re tg a
 rb:Re tg b
 no:¬Av tg a b
variable {tg: Nat -> List Nat}
theorem oJ{a b:Nat}(h:Av tg a b):Re tg b:=by
 induction h with
 |root=>exact Re.root
 |step _ c _ d=>exact Re.step d c
theorem uk{a b:Nat}(h:Av tg a b):b≠a:=by
 cases h with
 |root h=>exact λe=>h e.symm
 |step _ _ h=>exact h
theorem Zd{b:Nat}(h:Re tg b):JO tg b b:=⟨h,h,λe=>uk e rfl⟩
theorem Aj{b:Nat}(h:Re tg b):JO tg 0 b:=⟨Re.root,h,λe=>by
 have:∀{c},Av tg 0 c->False:=λa=>by
  induction a with
  |root h=>exact h rfl
  |step _ _ _ d=>exact d
 exact this e⟩
theorem DL{x a b:Nat}(i:Av tg x b)(g:¬Av tg a b):Av tg x a:=by
 induction i with
 |root d=>
  have:a=0:=dQ λe=>g<|Av.root e;rw[this];exact Av.root d
 |@step c t j h d k=>
  by_cases f:Av tg a c
  .have:t=a:=dQ λe=>g<|Av.step f h e;rw[<-this];exact Av.step j h d
  exact k f
theorem J8{a b c:Nat}(h:JO tg a b)(k:JO tg b c):JO tg a c:=⟨h.ra,k.rb,λe=>h.no<|DL e k.no⟩
theorem AW{a b:Nat}(f:a≠b){c:Nat}(h:Re tg c):(Av tg a c/\Av tg b c)\/Av tg b a\/Av tg a b:=by
 induction h with
 |root=>
  by_cases ha:a=0;·subst ha;exact aZ<|bC (Av.root λe=>f e.symm)
  by_cases j:b=0;·subst j;exact aZ<|aZ (Av.root ha)
  exact bC ⟨Av.root ha,Av.root j⟩
 |@step c t _ d k=>
  rcases k with⟨h1,h2⟩|h|h
  .by_cases g:t=a;·subst g;exact aZ<|bC (Av.step h2 d f)
   by_cases i:t=b;·subst i;exact aZ<|aZ (Av.step h1 d λe=>f e.symm)
   exact bC ⟨Av.step h1 d g,Av.step h2 d i⟩
  .exact aZ<|bC h
  exact aZ<|aZ h
theorem Z1{a b:Nat}(h:JO tg a b)(k:JO tg b a):a=b:=dQ (λe=>by
 rcases AW e h.rb with⟨_,h2⟩|h2|h2;·exact uk h2 rfl
 .exact k.no h2
 exact h.no h2)
inductive Sf (tg:Nat->List Nat) (a b x:Nat):Nat->Prop
 |here:Sf tg a b x x
 |step {c t:Nat}:Sf tg a b x c->t∈tg c->t≠a->t≠b->Sf tg a b x t
theorem su{a b c:Nat}(h:Re tg c):(Av tg a c/\Av tg b c)\/Sf tg a b a c\/Sf tg a b b c:=by
 induction h with
 |root=>
  by_cases ha:a=0;·subst ha;exact aZ<|bC Sf.here
  by_cases g:b=0;·subst g;exact aZ<|aZ Sf.here
  exact bC ⟨Av.root ha,Av.root g⟩
 |@step c t _ f i=>
  by_cases d:t=a;·subst d;exact aZ<|bC Sf.here
  by_cases e:t=b;·subst e;exact aZ<|aZ Sf.here
  rcases i with⟨h1,h2⟩|h|h;·exact bC ⟨Av.step h1 f d,Av.step h2 f e⟩
  .exact aZ<|bC (Sf.step h f d e)
  exact aZ<|aZ (Sf.step h f d e)
theorem oG{a b x c y:Nat}(h:Sf tg a b x c)(i:y=a\/y=b)(g:Av tg y x):Av tg y c:=by
 induction h with
 |here=>exact g
 |step _ f d e j=>exact Av.step j f (by rcases i with rfl|rfl;exact d;exact e)
theorem TY{a b c:Nat}(h:JO tg a c)(k:JO tg b c):JO tg a b\/JO tg b a:=by
 rcases su (a:=a) (b:=b) h.rb with⟨h1,_⟩|h1|h1;·exact absurd h1 h.no
 .exact aZ ⟨k.ra,h.ra,λe=>k.no<|oG h1 (aZ rfl) e⟩
 exact bC ⟨h.ra,k.ra,λe=>h.no<|oG h1 (bC rfl) e⟩
theorem EG{n:Nat}{I T:Nat->Nat->Nat}{q:Nat->Prop}{r:Nat->List Nat}(j:∀b x,x<n->(Xh (I b) x=true↔b=0/\x≠0))(k:∀b x,x<n->b<n->(Xh (T b) x=true↔x=b))(o:∀b,q b↔Re tg b)(d:∀b,Re tg b->b<n)(p:∀b s,b<n->(s∈r b↔s<n/\b∈tg s)){b x:Nat}(c:x<n):Sp I T q r b x↔Av tg x b:=by
 constructor
 .intro h
  induction h with
  |init h=>
   obtain⟨rfl,u⟩:=(j _ _ c).1 h;exact Av.root u
  |@take b s x f w _ a i=>
   have l:=d b<|(o b).1 f;refine Av.step (i c) ((p b s l).1 w).2 λe=>?_;have:=(k b x c l).2 e.symm;rw[this]at a;cases a
 intro h
 induction h with
 |root h=>exact Sp.init<|(j 0 x c).2 ⟨rfl,h⟩
 |@step b t f a v i=>
  have m:=oJ f;have g:=Re.step m a;refine Sp.take ((o t).2 g) ((p t b<|d t g).2 ⟨d b m,a⟩) i ?_;cases e:Xh (T t) x with
  |false=>rfl
  |true=>exact absurd ((k t x c<|d t g).1 e) λe=>v e.symm
end
section
variable {tg: Nat -> List Nat}
def LE(l:List Nat)(x c:Nat):Prop:=∃a b,l=a++b/\x∈a/\c∈b
theorem CS{l r:List Nat}{x a:Nat}(h:LE l x a):LE (l++r) x a:=by
 obtain⟨d,e,rfl,b,c⟩:=h;exact⟨d,e++r,sP,b,by simp[c]⟩
theorem BR{l:List Nat}{x b:Nat}(h:x∈l):LE (l++[b]) x b:=⟨l,[b],rfl,h,sP⟩
def MI(tg:Nat->List Nat)(P:List Nat)(b:Nat):Prop:=∀a,JO tg a b->a≠b->a∈P
theorem Bt:MI tg [] 0:=λ_ h a=>absurd (Av.root a) h.no
theorem B7{P:List Nat}{b t:Nat}(h:MI tg P b)(c:Re tg b)(f:t∈tg b):MI tg (b::P) t:=λa ha d=>by
 by_cases e:a=b;·rw[e];exact cI
 exact cN _<|h a ⟨ha.ra,c,λk=>ha.no<|Av.step k f λe2=>d e2.symm⟩ e
structure fm(tg:Nat->List Nat)(P:List Nat)(s:(Nat->Nat)×List Nat):Prop where
 seen:∀x∈s.2,Xh s.1 x=true
 nd:s.2.Nodup
 all:∀x,Xh s.1 x=true->x∈s.2\/x∈P
 stk:∀x∈P,x∉s.2/\Xh s.1 x=true
 ord:∀x∈s.2,∀a,JO tg a x->a≠x->a∈P\/LE s.2 x a
 re:∀x∈s.2,Re tg x
 cl:∀x∈s.2,∀t∈tg x,Xh s.1 t=true
theorem zj{P:List Nat}{s:(Nat->Nat)×List Nat}{b:Nat}(h:fm tg P s)(d:Xh s.1 b=false):fm tg (b::P) (YH s.1 b,s.2):=by
 have mono:∀x,Xh s.1 x=true->Xh (YH s.1 b) x=true:=λx a=>by rw[Z8,a];simp
 refine⟨λx a=>mono x<|h.seen x a,h.nd,λx a=>?_,λx a=>?_,λx a f ha g=>?_,h.re,λx a t i=>mono t<|h.cl x a t i⟩
 .rw[Z8]at a;by_cases e:x=b;·exact aZ<|by rw[e];exact cI
  rw[dJ e,jV]at a;rcases h.all x a with c|c;·exact bC c
  exact aZ<|cN _ c
 .rcases cH.1 a with rfl|a;·exact⟨λk=>(by rw[h.seen _ k]at d;cases d),by rw[Z8];simp⟩
  exact⟨(h.stk x a).1,mono x (h.stk x a).2⟩
 rcases h.ord x a f ha g with c|c;·exact bC<|cN _ c
 exact aZ c
theorem BP{P:List Nat}{s:(Nat->Nat)×List Nat}{b:Nat}(h:fm tg (b::P) s)(m:b∉P)(o:Re tg b)(p:MI tg P b)(n:∀t∈tg b,Xh s.1 t=true):fm tg P (s.1,s.2++[b]):=by
 have g:=h.stk b cI;refine⟨λx c=>?_,?_,λx c=>?_,λx c=>?_,λx c f ha i=>?_,λx c=>?_,λx c t e=>?_⟩
 .rcases bU.1 c with a|a;·exact h.seen x a
  have:x=b:=by simpa using a
  rw[this];exact g.2
 .rw[gW];refine⟨h.nd,sP,λx c y q l=>?_⟩;have:y=b:=by simpa using q
  rw[l,this]at c;exact g.1 c
 .rcases h.all x c with a|a;·exact bC<|dD _ a
  rcases cH.1 a with rfl|a;·exact bC sP
  exact aZ a
 .have j:=h.stk x<|cN _ c;refine⟨λk=>?_,j.2⟩;rcases bU.1 k with k|k;·exact j.1 k
  have:x=b:=by simpa using k
  rw[this]at c;exact m c
 .rcases bU.1 c with a|a
  .rcases h.ord x a f ha i with d|d
   .rcases cH.1 d with rfl|d;·exact aZ<|BR a
    exact bC d
   exact aZ<|CS d
  have:x=b:=by simpa using a
  subst this;exact bC<|p f ha i
 .rcases bU.1 c with a|a;·exact h.re x a
  have:x=b:=by simpa using a
  rw[this];exact o
 rcases bU.1 c with a|a;·exact h.cl x a t e
 have:x=b:=by simpa using a
 rw[this]at e;exact n t e
theorem rv{n:Nat}(h:∀b,b<n->∀t∈tg b,t<n):∀(m b:Nat)(s:(Nat->Nat)×List Nat)(P:List Nat),b<n->XB s.1 n<=m->Re tg b->MI tg P b->fm tg P s->fm tg P (C2 tg m b s)/\Xh (C2 tg m b s).1 b=true
 |0,b,s,P,hb,a,_,_,hi=>⟨hi,T8 (n:=n) (Nat.le_zero.1 a) hb⟩
 |m+1,b,s,P,hb,a,hr,hs,hi=>by
  cases hh:Xh s.1 b with
  |true=>rw[Vd hh];exact⟨hi,hh⟩
  |false=>
   rw[jd hh];have j:b∉P:=λp=>by rw[(hi.stk b p).2]at hh;cases hh
   have w:=Tb hb hh;have v:∀(l:List Nat)(s1:(Nat->Nat)×List Nat),(∀t∈l,t∈tg b)->XB s1.1 n<=m->fm tg (b::P) s1->fm tg (b::P) (l.foldl (λs t=>C2 tg m t s) s1)/\∀t∈l,Xh (l.foldl (λs t=>C2 tg m t s) s1).1 t=true:=λl=>by
    induction l with
    |nil=>intro s1 _ _ d;exact⟨d,λt c=>by cases c⟩
    |cons t l o=>
     intro s1 g d i;have c:=g t cI;let⟨e,f⟩:=rv h m t s1 (b::P) (h b hb t c) d (Re.step hr c) (B7 hs hr c) i;let⟨q,r⟩:=o (C2 tg m t s1) (λu a=>g u<|cN _ a) (aJ (JY n λx k=>KB tg m t s1 x k) d) e;refine⟨q,λu a=>?_⟩;rcases cH.1 a with rfl|a;·exact Ue tg m l _ _ f
     exact r u a
   let⟨e,f⟩:=v (tg b) (YH s.1 b,s.2) (λt c=>c) (by show XB (YH s.1 b) n<=m;omega) (zj hi hh);refine⟨BP e j hr hs f,?_⟩;exact Ue tg m (tg b) (YH s.1 b,s.2) b (by show Xh (YH s.1 b) b=true;rw[Z8];simp)
theorem ZA(W:Nat->Nat)(n:Nat):XB W n<=n:=aJ (fJ _ _) sP
theorem Dd{n:Nat}(l:∀b,b<n->∀t∈tg b,t<n)(g:0<n){m:Nat}(k:n<=m) :
 (∀x,x∈(C2 tg m 0 (λ_=>0,[])).2↔Re tg x)/\(∀x,Xh (C2 tg m 0 (λ_=>0,[])).1 x=true↔Re tg x)/\(C2 tg m 0 (λ_=>0,[])).2.Nodup/\∀x d,JO tg d x->d≠x->LE (C2 tg m 0 (λ_=>0,[])).2 x d:=by
 have j:fm tg [] (λ_=>0,[]):=⟨λx a=>(by cases a),iU,λx a=>(by rw[Z3]at a;cases a),λx a=>(by cases a),λx a=>(by cases a),λx a=>(by cases a),λx a=>(by cases a)⟩;let⟨c,i⟩:=rv l m 0 (λ_=>0,[]) [] g (aJ (ZA _ _) k) Re.root Bt j;generalize C2 tg m 0 (λ_=>0,[])=s at*;have e:∀x,Xh s.1 x=true->x∈s.2:=λx a=>by
  rcases c.all x a with h|h;·exact h
  cases h
 have f:∀x,Re tg x->Xh s.1 x=true:=λx a=>by
  induction a with
  |root=>exact i
  |step _ p q=>exact c.cl _ (e _ q) _ p
 refine⟨λx=>⟨c.re x,λh=>e x<|f x h⟩,λx=>⟨λh=>c.re x<|e x h,f x⟩,c.nd,λx d ha o=>?_⟩;rcases c.ord x (e x<|f x ha.rb) d ha o with h|h;·cases h
 exact h
end
section
variable {tg: Nat -> List Nat}
structure Ll(tg:Nat->List Nat)(a b:Nat):Prop where
 dom:JO tg a b
 ne:a≠b
 near:∀c,JO tg c b->c≠b->JO tg c a
theorem Dh{a c b:Nat}(h:Ll tg a b)(k:Ll tg c b):a=c:=Z1 (k.near a h.dom h.ne) (h.near c k.dom k.ne)
theorem xt{l:List Nat}{x a:Nat}(h:LE l x a):LE l.reverse a x:=by
 obtain⟨d,e,rfl,b,c⟩:=h;exact⟨e.reverse,d.reverse,sP,by simpa using c,by simpa using b⟩
theorem mf{l:List Nat}(d:l.Nodup){i:Nat}(j:i<l.length){x:Nat}(h:LE l x l[i]):x∈l.take i:=by
 let⟨a,n,e,f,g⟩:=h;have k:a.length<=i:=Nat.le_of_not_lt (λb=>by
  have m:l[i]∈a:=by
   have:l[i]=a[i]:=by
    have c:l[i]?=(a++n)[i]?:=by rw[<-e]
    rw[aC j,dL b,aC b]at c;injection c
   rw[this];exact aH b
  rw[e,gW]at d;exact d.2.2 _ m _ g rfl)
 rw[e,List.take_append];rw[aW k];exact dD _ f
theorem AG{l:List Nat}{p:Nat->Bool}{a:Nat}(h:l.reverse.find? p=some a):p a=true/\a∈l/\∀c∈l,p c=true->c=a\/LE l c a:=by
 rw[List.find?_eq_some_iff_append]at h;let⟨k,f,bs,i,j⟩:=h;have b:l=bs.reverse++[a]++f.reverse:=by
  have:=fI List.reverse i;simpa using this
 refine⟨k,by rw[b];simp,λc g m=>?_⟩;rw[b]at g;rcases bU.1 g with d|d
 .rcases bU.1 d with e|e;·exact aZ ⟨bs.reverse,[a]++f.reverse,by rw[b,cK],e,sP⟩
  exact bC<|by simpa using e
 have:=j c (by simpa using d);rw[m]at this;cases this
theorem zY{o:List Nat}(d:o.Nodup)(z:∀x,x∈o↔Re tg x)(B:∀x a,JO tg a x->a≠x->LE o a x){i:Nat}(t:i<o.length){p:Nat->Bool}(C:∀a∈o,p a=true↔¬Av tg a o[i]) :
 match (o.take i).reverse.find? p with
 |some a=>Ll tg a o[i]
 |none=>∀c,JO tg c o[i]->c=o[i]:=by
 have S:=(z _).1 (aH t);have s:∀a,a∈o->(p a=true↔JO tg a o[i]):=λa ha=>⟨λn=>⟨(z a).1 ha,S,(C a ha).1 n⟩,λn=>(C a ha).2 n.no⟩;have aa:(o.take i).Nodup:=d.sublist<|List.take_sublist _ _;have y:∀c,JO tg c o[i]->c≠o[i]->c∈o.take i:=λc b h=>mf d t<|B o[i] c b h
 have Z:o[i]∉o.take i:=λk=>by
  have e:=(hH i o).symm;have W:o[i]∈o.drop i:=by rw[gZ t];exact cI
  rw[e,gW]at d;exact d.2.2 _ k _ W rfl
 cases hf:(o.take i).reverse.find? p with
 |some a=>
  let⟨L,r,M⟩:=AG hf;have R:=iO r;have l:=(s a R).1 L;have Q:a≠o[i]:=λe=>Z (by rw[<-e];exact r);refine⟨l,Q,λc b h=>?_⟩;have f:=y c b h;rcases M c f ((s c<|iO f).2 b)with e|T;·rw[e];exact Zd l.ra
  by_cases v:c=a;·rw[v];exact Zd l.ra
  rcases TY b l with k|k;·exact k
  -- a dominates c: then a stands ahead of c
  exfalso;have N:=B c a k λe=>v e.symm;have V:=bR r;let⟨j,X,H⟩:=V;have u:j<o.length:=by rw[dH]at X;omega
  have m:o[j]=a:=by rw[<-H,jG]
  have O:c∈o.take j:=by
   have U:LE o c o[j]:=by
    rw[m];let⟨l1,l2,e,k1,k2⟩:=T;exact⟨l1,l2++o.drop i,by rw[<-cK,<-e,hH],k1,dD _ k2⟩
   exact mf d u U
  let⟨G,A,I⟩:=bR O;have Y:G<o.length:=by rw[dH]at A;omega
  have J:o[G]=c:=by rw[<-I,jG]
  have P:=mf d Y (by rw[J];exact N);let⟨q,E,K⟩:=bR P;have D:q<o.length:=by rw[dH]at E;omega
  have w:o[q]=a:=by rw[<-K,jG]
  have ab:q=j:=by
   have F:=gY.1 (show o.Pairwise (·≠·)from d);rcases mA q j with g|g|g;·exact absurd (w.trans m.symm) (F q j D u g)
   .exact g
   exact absurd (m.trans w.symm) (F j q u D g)
  rw[dH]at A E;omega
 |none=>
  intro c b;refine dQ λh=>?_;have f:=y c b h;have:=lS.1 hf c (by simpa using f);exact this<|(s c<|iO f).2 b
def Hj(d:Nat->Nat)(b:Nat)(e:List Nat):Option Nat:=e.foldl (λc a=>if a≠b/\(c=none\/∃k,c=some k/\d a > d k)then some a else c) none
theorem yV{d:Nat->Nat}{b:Nat}{e:List Nat}(h:∀a∈e,a=b):Hj d b e=none:=by
 unfold Hj;have i:∀(l:List Nat),(∀a∈l,a=b)->l.foldl (λc a=>if a≠b/\(c=none\/∃k,c=some k/\d a > d k)then some a else c) none=none:=λl=>by
  induction l with
  |nil=>intro _;rfl
  |cons a l g=>
   intro h;rw[iM,aM λk=>k.1<|h a cI];exact g λx f=>h x<|cN _ f
 exact i e h
theorem ze{e:Nat->Nat}{a b:Nat}{m:List Nat}(ha:a∈m)(w:a≠b)(v:∀c∈m,c≠b->c≠a->e c<e a):Hj e b m=some a:=by
 unfold Hj;have y:∀(l:List Nat)(d:Option Nat),(∀c∈l,c≠b->c≠a->e c<e a)->(d=none\/∃k,d=some k/\(k=a\/e k<e a))->(d=some a\/a∈l)->l.foldl (λd a=>if a≠b/\(d=none\/∃k,d=some k/\e a > e k)then some a else d) d=some a:=λl=>by
  induction l with
  |nil=>
   intro d _ _ h;rcases h with h|h;·exact h
   cases h
  |cons c l p=>
   intro d t j h;rw[iM];have o:=λz x=>t z<|cN _ x;by_cases q:c=a
   .subst q;by_cases s:d=some c
    .subst s;rw[aM λk=>by rcases k.2 with k|⟨r,f,g⟩;cases k;injection f with f;rw[f]at g;omega];exact p _ o j<|bC rfl
    rw[aU ⟨w,by rcases j with j|⟨r,f,g⟩;exact bC j;exact aZ ⟨r,f,by rcases g with g|g;exact absurd (f.trans<|by rw[g]) s;exact g⟩⟩];exact p _ o (aZ ⟨c,rfl,bC rfl⟩) (bC rfl)
   have i:d=some a\/a∈l:=by
    rcases h with h|h;·exact bC h
    rcases cH.1 h with h|h;·exact absurd h.symm q
    exact aZ h
   by_cases n:c≠b/\(d=none\/∃k,d=some k/\e c > e k)
   .rw[aU n];have u:=t c cI n.1 q;refine p _ o (aZ ⟨c,rfl,aZ u⟩) ?_;rcases i with i|i
    .exfalso;rcases n.2 with k|⟨r,f,g⟩;·rw[i]at k;cases k
     rw[i]at f;injection f with f;rw[<-f]at g;omega
    exact aZ i
   rw[aM n];exact p _ o j i
 exact y m none v (bC rfl) (aZ ha)
end
section
attribute [local go_sem] Oper.semAt_some
def K7{b:Type}(f:Nat->b)(a k:Nat):List b:=(List.range<|a-k).map λj=>f<|a-1-j
theorem nU{a:Type}(f:Nat->a)(h:m<n):K7 f n m=K7 f n (m+1)++[f m]:=by
 unfold K7;have e:n-m=(n-(m+1))+1:=oM;rw[e,dN,bG];have e2:n-1-(n-(m+1))=m:=oM;simp[e2]
theorem BS{b:Type}(f:Nat->b)(a:Nat):K7 f a a=[]:=by simp[K7]
theorem D6{b:Type}(f:Nat->b)(a k:Nat):(K7 f a k).length=a-k:=by simp[K7]
abbrev Pb(N:Nat):={ x:Nat×Nat // x.2<N }
theorem CL(b:∀z∈s,z<n)(a:0<n)(j:Nat):s[j]?.getD 0<n:=by
 by_cases h:j<s.length;·rw[aC h];exact b _<|aH h
 rw[dK oM];exact a
def WF{a:List Nat}{N:Nat}(c:∀z∈a,z<N)(b:0<N)(j:Nat):Pb N:=⟨(j,a[j]?.getD 0),CL c b j⟩
theorem Ek(F:Fence)(o:Nat)(A:F.fn 136)(O:F.round=none)(U:1<=o)(s i h b t a w:Nat)(v:List Nat)(N:Nat)(g:∀z∈v,z<N)(f:0<N)(V:a<=1000000)(I:b<h)(J p:List (Pb N)->World->Prop)
 (H:∀c x W,J c W->c.length<a->YieldAt F (o-1) prog s #[Hp (x.1.1:Int),Hp (x.1.2:Int)] W λe d=>
  (e=.returned (.bool true)/\J (c++[x]) d/\Below h W d)\/(e=.returned (.bool false)/\p (c++[x]) d))
 (W:World) (C:W.cell? (Hk i 0)=some (Hm b t a w)) (B:i<h) (K:∀n,n<a->W.cell? (Hk b<|t+n)=some (Hp ((v[n]?.getD 0:Nat):Int))) (y:J [] W) :
 CallsIn F o prog 136 #[.func (.yield s) #[] #[],Hn i] W λe d=>(∃Q,e=.returned Q) /\
  ((∃u,u=K7 (WF g f) a 0/\J u d)\/(∃c,(∃k,k<a/\c=K7 (WF g f) a k)/\p c d)):=by
 refine iD func136 rfl A ?_ O;simp only[ntmps136,xY,Nat.reduceAdd,Nat.reduceSub];gi_wp2
 gi_loopw [3] (λm wr=>∃(k:Nat)(z:Int),k<=a/\m=Hp z/\z+1=(k:Int)/\J (K7 (WF g f) a k) wr/\Below h W wr)
  (λm _=>(intOf m+1).toNat)
 case atStart=>exact⟨a,_,aA _,rfl,oM,by rw[BS];exact y,Below.refl _ _⟩
 obtain⟨k,z,L,rfl,X,r,j⟩:=hrel;have S:=oB j C B;cases k with
 |zero=>
  have l:z=-1:=oM;subst l;gi_wp2
  go_end0
  exact⟨⟨_,rfl⟩,.inl ⟨_,rfl,r⟩⟩
 |succ q=>
  have l:z=(q:Int):=oM;subst l;have hq:q<a:=L;have T:=oB j (K q hq) I;let⟨fn,tmps,assign,body,P,G⟩:=H _ (WF g f q) wr r (by rw[D6];omega);dsimp only[WF]at P;gi_wp2;refine G.mono ?_;rintro e R (⟨rfl,D,M⟩|⟨rfl,E⟩)
  .gi_wp2
   go_roundw
   case rel=>exact⟨q,_,oM,rfl,oM,by rw[nU _ hq];exact D,j.trans M⟩
   simp[intOf]
  gi_wp2;refine cC (gV rfl _ _ _) rfl ?_;exact⟨⟨_,rfl⟩,.inr ⟨_,⟨q,hq,(nU _ hq).symm⟩,E⟩⟩
theorem xq(F:Fence)(n:Nat)(d:F.fn 126)(f:F.round=none)(a:Option Addr)(c b:Nat)(w:World) :
 CallsIn F n prog 126 #[.slice a c b] w λe g=>e=.returned (.func (.func 136) #[] #[.pointer (some ⟨w.heap.size,0,none⟩)])/\g=w.alloc (.cells #[.slice a c b] 27):=by
 refine iD func126 rfl d ?_ f;simp only[ntmps126,xY,Nat.reduceAdd,Nat.reduceSub];gi_wp2;go_ret;exact⟨rfl,rfl⟩
theorem wh(F:Fence)(n:Nat)(q:F.fn 136)(z:F.round=none)(v:1<=n)(c b f a h:Nat)(g:List Nat)(N:Nat)(e:∀D∈g,D<N)(d:0<N)(y:a<=1000000)(w:World)(i:c<w.heap.size)(l:b<w.heap.size)
 (t:w.cell? (Hk c 0)=some (Hm b f a h)) (r:∀j,j<a->w.cell? (Hk b<|f+j)=some (Hp ((g[j]?.getD 0:Nat):Int))) :
 SeqStopsK F n prog 136 #[Hn c] (λx:Pb N=>#[Hp (x.1.1:Int),Hp (x.1.2:Int)]) (Below w.heap.size) (λC=>C=K7 (WF e d) a 0)
  (λB=>∃m,m<a/\B=K7 (WF e d) a m) a w:=λA J o W k _ _ s p=>
 Ek F n q z v A c w.heap.size b f a h g N e d y l J o s W (oB k t i) i (λj u=>oB k (r j u) l) p
end
abbrev Jm:=@Ml 78<|bC rfl
abbrev Tt:=@MP 77<|aZ (bC rfl)
abbrev Tz:=@Mg 79<|aZ (bC rfl)
structure Sr where
 code:List UInt8
 pos:Nat
 mix:Int
 size:Int
def Ax(s:Sr)(n:Int):Int×Sr :=
 if n<=1 then (0,s)
 else if s.pos<s.code.length/\n<=256 then (((s.code.getD s.pos 0).toNat:Int)%n,{ s with pos:=s.pos+1 })
 else ((s.mix*1103+12347)%1000003/3%n,{ s with mix:=(s.mix*1103+12347)%1000003 })
structure Jb(s:Sr):Prop where
 len:s.code.length<=4000
 pos:s.pos<=s.code.length
 mix:0<=s.mix/\s.mix<1000003
 size:1<=s.size/\s.size<=7
theorem Y8{s:Sr}(h:Jb s)(n:Int):Jb (Ax s n).2:=by
 unfold Ax;split;·exact h
 split
 .rename_i a;exact⟨h.len,a.1,h.mix,h.size⟩
 refine⟨h.len,h.pos,?_,h.size⟩;show 0<=(s.mix*1103+12347)%1000003/\(s.mix*1103+12347)%1000003<1000003;omega
theorem XE(s:Sr){n:Int}(h:1<=n):0<=(Ax s n).1/\(Ax s n).1<n:=by
 unfold Ax;split;·exact⟨Int.le_refl _,by show(0:Int)<n;omega⟩
 split;·exact⟨mR _ oM,lM _ oM⟩
 exact⟨mR _ oM,lM _ oM⟩
structure Jg(w:World)(b L B:Nat)(s:Sr):Prop where
 c0:∃a c,w.cell? ⟨b,0,none⟩=some (.slice a s.code.length c)/\Yx w L B a s.code
 c1:w.cell? ⟨b,1,none⟩=some (.int .i64 s.pos)
 c2:w.cell? ⟨b,2,none⟩=some (.int .i64 s.mix)
 c3:w.cell? ⟨b,3,none⟩=some (.int .i64 s.size)
 thaw:∀q,w.frozen? ⟨b,q,none⟩=false
 o:¬(L<=b/\b<B)
theorem VQ{b:Nat}{bs:List UInt8}(v:Value)(a:Yx w m k p bs)(c:¬(m<=b/\b<k)):Yx (w.setCell ⟨b,n,none⟩ v) m k p bs:=a.keepS λd f g=>Below.heap_setCell _ _ _ _<|by show d≠b;intro e;exact c oM
theorem XL(w:World)(b:Nat)(h:n≠m)(v:Value):(w.setCell ⟨b,n,none⟩ v).cell? ⟨b,m,none⟩=w.cell? ⟨b,m,none⟩:=cJ _ _ _ _<|by intro e;injection e with _ e2;exact h e2
theorem Jg.mix{b:Nat}{s:Sr}(h:Jg w b n m s)(a:Int):Jg (w.setCell ⟨b,2,none⟩ (.int .i64 a)).drew b n m { s with mix:=a }:=by
 let⟨d,c,e,f⟩:=h.c0;exact⟨⟨d,c,(XL w b oM _).trans e,VQ _ f h.o⟩,(XL w b oM _).trans h.c1,fQ w _ _ h.c2,(XL w b oM _).trans h.c3,λq=>by show(w.setCell _ _).frozen? _=false;rw[eX];exact h.thaw q,h.o⟩
theorem Jg.pos{b:Nat}{s:Sr}(h:Jg w b n m s)(a:Nat):Jg (w.setCell ⟨b,1,none⟩ (.int .i64 a)).drew b n m { s with pos:=a }:=by
 let⟨d,c,e,f⟩:=h.c0;exact⟨⟨d,c,(XL w b oM _).trans e,VQ _ f h.o⟩,fQ w _ _ h.c1,(XL w b oM _).trans h.c2,(XL w b oM _).trans h.c3,λq=>by show(w.setCell _ _).frozen? _=false;rw[eX];exact h.thaw q,h.o⟩
theorem Jg.drew{b:Nat}{s:Sr}(h:Jg w b n m s):Jg w.drew b n m s:=⟨h.c0,h.c1,h.c2,h.c3,h.thaw,h.o⟩
theorem VN(w:World)(b q:Nat)(v:Value):w.grownBy (w.setCell ⟨b,q,none⟩ v).drew (some b):=⟨rfl,rfl,rfl,by simp[World.setCell,World.drew],λk _ a=>Below.heap_setCell _ _ _ _ λe=>a<|by rw[e]⟩
theorem Bv(b L B:Nat)(s:Sr)(n:Int)(w:World)(a:Hs (Jg w b L B s))(k:Hs (Jb s))(M:n<=1000000)(N:-1000000<=n) :
 Calls prog 27 #[Hn b,Hp n] w λy t=>y=.returned (Hp (Ax s n).1)/\Jg t b L B (Ax s n).2/\w.grownBy t (some b):=by
 let⟨E,c,G,o⟩:=a.c0;have e1:=a.c1;have e2:=a.c2;have R:=a.thaw 1;have S:=a.thaw 2;have u:=Xa o;have O:=k.pos;have J:=k.len;have K:=k.mix;have d:Hs (Ax s n=if n<=1 then (0,s)else if s.pos<s.code.length/\n<=256 then (((s.code.getD s.pos 0).toNat:Int)%n,{ s with pos:=s.pos+1 })else ((s.mix*1103+12347)%1000003/3%n,{ s with mix:=(s.mix*1103+12347)%1000003 })):=Xa rfl;by_cases i:n<=1
 .have e:Hs (Ax s n=(0,s)):=Xa<|by rw[d.o,aU i]
  go_in
  go_wp2;go_ret;rw[e.o];exact⟨rfl,a,⟨rfl,rfl,rfl,aA _,λ_ _ _=>rfl⟩⟩
 by_cases f:s.pos<s.code.length/\n<=256
 .have e:Hs (Ax s n=(((s.code.getD s.pos 0).toNat:Int)%n,{ s with pos:=s.pos+1 })):=Xa (by rw[d.o,aM i,aU f]);let⟨h,j⟩:=f;obtain⟨F,Q,rfl,z,I⟩:=u s.pos h;have v:Hs (s.code.getD s.pos 0=s.code[s.pos]):=Xa (by simp[h]);have H:s.code[s.pos].toNat<256:=lQ _;have D:=Xa a.o;generalize s.code[s.pos]=x at*;generalize A:x.toNat=l at*;have C:((l:Nat):Int).tmod n=(l:Int)%n:=eW oM;have q:(s.pos:Int)<(s.code.length:Int):=oM;generalize p:s.code.length=m at*
  go_in
  go_wp2;go_region;go_wp2;go_region;go_wp2;go_ret;rw[e.o];have r:=(a.pos<|s.pos+1).drew;have g:=(VN w b 1<|Hp ((s.pos+1:Nat):Int));rw[kB]at r g;refine⟨?_,r,⟨g.os,g.tape,g.output,g.size,g.block⟩⟩;rw[v.o,A];rfl
 have e:Hs (Ax s n=((s.mix*1103+12347)%1000003/3%n,{ s with mix:=(s.mix*1103+12347)%1000003 })):=Xa (by rw[d.o,aM i,aM f]);have C:(s.mix*1103+12347).tmod 1000003=(s.mix*1103+12347)%1000003:=eW oM;have hq:((s.mix*1103+12347)%1000003).tdiv 3=(s.mix*1103+12347)%1000003/3:=fY oM;have P:((s.mix*1103+12347)%1000003/3).tmod n=(s.mix*1103+12347)%1000003/3%n:=eW oM;by_cases h:s.pos<s.code.length
 .have j:¬n<=256:=λj=>f ⟨h,j⟩;have q:(s.pos:Int)<(s.code.length:Int):=oM;generalize p:s.code.length=m at*
  go_in
  go_wp2;go_region;go_wp2;go_ret;rw[e.o];exact⟨rfl,a.mix _,VN _ _ _ _⟩
 clear f;have q:¬(s.pos:Int)<(s.code.length:Int):=oM;generalize p:s.code.length=m at*
 go_in
 go_wp2;go_region;go_wp2;go_ret;rw[e.o];exact⟨rfl,a.mix _,VN _ _ _ _⟩
def JV(c:List UInt8)(m:Int):Int:=c.foldl (λm b=>(m*257+(b.toNat:Int)+1)%1000003) m
def WB(bs:List UInt8):Sr:=⟨bs.take 4000,0,JV (bs.take 4000) (((bs.length%1000:Nat):Int)+29),if 1+(((bs.take 4000).length:Nat):Int)/50 > 7 then 7 else 1+(((bs.take 4000).length:Nat):Int)/50⟩
theorem WP:∀(c:List UInt8)(m:Int),0<=m->m<1000003->0<=JV c m/\JV c m<1000003
 |[],m,h0,h1=>⟨h0,h1⟩
 |b::c,m,h0,h1=>WP c _ (mR _ vZ) (lM _ vZ)
theorem xx(c:List UInt8)(m:Int)(j:Nat)(h:j<c.length):JV (c.take<|j+1) m=(JV (c.take j) m*257+(c[j].toNat:Int)+1)%1000003:=by
 unfold JV;rw[bN h,dT];rfl
theorem Du(bs:List UInt8):Jb (WB bs):=by
 refine⟨?_,aN _,WP _ _ oM (by have:=dS bs.length (show 0<1000 by decide);omega),?_⟩
 .show(bs.take 4000).length<=4000;rw[dH];omega
 unfold WB;dsimp only;split<;>omega
theorem rm{T:Type}(a:List T)(d:T)(h:n<a.length):a.getD n d∈a:=by
 rw[show a.getD n d=a[n] by simp[h]];exact aH h
theorem Nu:(prog.info? 5).map (λi=>(i.zero,i.size,i.bytes))=some (some<|.int .u8 0,1,1):=kR
theorem Xq{b:Nat}(h:(R.info? n).map (λi=>(i.zero,i.size,i.bytes))=some (some a,m,b)):∃i,R.info? n=some i/\i.zero=some a/\i.size=m/\i.bytes=b:=by
 cases hi:R.info? n with
 |none=>rw[hi]at h;cases h
 |some i=>
  rw[hi]at h;simp only[jY,Option.some.injEq,jC]at h;exact⟨i,rfl,h.1,h.2.1,h.2.2⟩
structure fo(w wr:World)(bs:List UInt8)(j:Nat)(v:Value):Prop where
 low:Below w.heap.size w wr
 size:w.heap.size+1<=wr.heap.size
 c0:wr.cell? ⟨w.heap.size,0,none⟩=some v
 c1:wr.cell? ⟨w.heap.size,1,none⟩=some (.int .i64 0)
 c2:wr.cell? ⟨w.heap.size,2,none⟩=some (.int .i64 0)
 c3:wr.cell? ⟨w.heap.size,3,none⟩=some (.int .i64 0)
 thaw:∀q,wr.frozen? ⟨w.heap.size,q,none⟩=false
 own:wr.ownsRow (w.heap.size+1) 5 1 v j (JS<|bs.take j)
theorem fo.drew{wr:World}{bs:List UInt8}(h:fo w wr bs n a):fo w wr.drew bs n a:=⟨h.low.drew,h.size,h.c0,h.c1,h.c2,h.c3,h.thaw,h.own⟩
theorem fo.step{wr:World}{bs:List UInt8}(h:fo w wr bs n a)(m:n<bs.length)(d:wr.grownBy v none)(f:v.grownBy u a.ownBlock)
 (k:u.ownsRow (w.heap.size+1) 5 1 A (n+1) (JS (bs.take n)++[.int .u8 (bs[n].toNat:Int)])):fo w (u.setCell ⟨w.heap.size,0,none⟩ A) bs (n+1) A/\Below w.heap.size w u/\(∀q,u.frozen? ⟨w.heap.size,q,none⟩=false)/\u.cell? ⟨w.heap.size,0,none⟩=some a/\∃g c,A=.slice (some ⟨g,0,none⟩) (n+1) c:=by
 have o:some w.heap.size≠a.ownBlock:=λe=>by have:=(h.own.lt _ e.symm).1;omega
 have r:=h.size;have j:=(f.block _ (oN d.size) o).trans (d.block _ oM sP);have l:=((h.low.grown d oM λp e=>by cases e).grown f (oN d.size) λp e=>by have:=(h.own.lt _ e).1;omega);have b:∀q,u.cell? (Hk w.heap.size q)=wr.cell? (Hk w.heap.size q):=λq=>bZ j;have i:=λq=>(bJ j).trans (h.thaw q);refine⟨⟨l.setCell (aA _) _,?_,fQ _ _ _<|(b 0).trans h.c0,(XL _ _ oM _).trans ((b 1).trans h.c1),(XL _ _ oM _).trans ((b 2).trans h.c2),(XL _ _ oM _).trans ((b 3).trans h.c3),λq=>by rw[eX];exact i q,?_⟩,l,i,(b 0).trans h.c0,?_⟩;·rw[Xd];have:=d.size;have:=f.size;omega
 .refine ownsRow_setCell_below ?_ (by show w.heap.size<_;omega) _;rw[bN m,wX];exact k
 rcases k.2 with⟨_,h0⟩|⟨g,cap,_,e,_⟩;·omega
 exact⟨g,cap,e⟩
theorem Yx.wide{bs:List UInt8}(h:Yx w n m p bs)(d:k<=n)(f:m<=B):Yx w k B p bs:=λi c=>by
 let⟨b,o,e,g,a⟩:=h i c;exact⟨b,o,e,oM,a⟩
theorem fo.done{wr:World}{bs:List UInt8}(h:fo w wr bs n a)(l:bs.take n=bs.take 4000):∃d c,a=.slice d (bs.take 4000).length c/\Jg wr w.heap.size (w.heap.size+1) wr.heap.size ⟨bs.take 4000,0,0,0⟩:=by
 have g:=h.own;rw[l]at g;obtain⟨d,c,L,B,i,f,-,j⟩:=xo g;subst i;refine⟨d,c,rfl,⟨⟨d,c,h.c0,?_⟩,h.c1,h.c2,h.c3,h.thaw,oM⟩⟩;rcases j with⟨rfl,rfl⟩|⟨rfl,h1,e⟩;·exact λm k=>by let⟨b,o,_,e,_⟩:=f m k;omega
 exact f.wide h1 e
theorem Jg.undrew{b:Nat}{s:Sr}(h:Jg w.drew b n m s):Jg w b n m s:=⟨h.c0,h.c1,h.c2,h.c3,h.thaw,h.o⟩
theorem Jg.siz{b:Nat}{s:Sr}(h:Jg w b n m s)(a:Int):Jg (w.setCell ⟨b,3,none⟩ (.int .i64 a)) b n m { s with size:=a }:=by
 let⟨d,c,e,f⟩:=h.c0;exact⟨⟨d,c,(XL w b oM _).trans e,VQ _ f h.o⟩,(XL w b oM _).trans h.c1,(XL w b oM _).trans h.c2,fQ w _ _ h.c3,λq=>by show(w.setCell _ _).frozen? _=false;rw[eX];exact h.thaw q,h.o⟩
theorem xy(w:World)(o:Obj):w.grownBy (w.alloc o).drew none:=⟨rfl,rfl,rfl,(bW w o none).size,λk a b=>(bW w o none).block k a b⟩
theorem Yf(w:World)(u:Value)(b:Nat):∀j x,([u]:List Value)[j]?=some x->(w.alloc<|.cells #[u] b).cell? ((⟨w.heap.size,0,none⟩:Addr).add j)=some x:=λj x a=>by
 have ha:((Hk w.heap.size 0):Addr).add j=(Hk w.heap.size j):=by unfold Addr.add;split<;>simp_all
 rw[ha]
 match j,a with
 |0,a=>simpa using a
 |j+1,a=>cases a
theorem xV(I:Option Addr)(n c:Nat)(bs:List UInt8)(ad B:Nat)(w:World)(ha:Hs (Yx w ad B I bs))(y:Hs (n=bs.length))(hn:n<=1048576)(hB:B<=w.heap.size) :
 Calls prog 13 #[.slice I n c] w λaj g=>aj=.returned (Hn w.heap.size)/\Below w.heap.size w g/\w.heap.size+1<=g.heap.size/\Jg g w.heap.size (w.heap.size+1) g.heap.size (WB bs):=by
 let⟨i0,ax,a2,a3,a4⟩:=Xq Nu
 go_in
 go_wp2
 go_loopw [4] (λu wr=>∃j:Nat,j<=n/\j<=4000/\u=Hp j/\∃v,Hs<|fo w wr bs j v) λu _=>n-(intOf u).toNat
 case atStart=>exact⟨0,aN _,aN _,rfl,Hq,Xa (by
  refine⟨Xb (Below.refl _ _) _,sP,by simp[go_sem],by simp[go_sem],by simp[go_sem],by simp[go_sem],λbf=>by simp[go_sem],?_⟩;rw[lK];exact dA _ _ _ _)⟩
 obtain⟨j,hj,a9,rfl,v,a⟩:=hrel;by_cases S:j<n/\j<4000
 .let⟨S,az⟩:=S;have Q:j<bs.length:=oN y.o;obtain⟨b,Z,rfl,ao,t⟩:=ha j Q;have ej:=(XU a.low oM).trans t;have a1:=a.size;have k:=a.c0;have a5:∀ob,(wr.alloc ob).cell? (Hk w.heap.size 0)=some v:=λob=>(bP _ _ _<|by show w.heap.size<_;omega).trans k;have ap:b≠w.heap.size:=oM;have aa:Hs (∀o,Below w.heap.size w o->o.cell? (Hk b<|Z+j)=some (.int .u8 (bs[j].toNat:Int))):=Xa λo h8=>(XU h8 oM).trans t;clear t;go_wp2;refine Y7 (λg=>g.cell? (Hk b<|Z+j)=some (.int .u8 (bs[j].toNat:Int))) λhHeld=>?_;refine Xn 0 ?_;refine Xn 2 ?_;refine Xn 3 ?_;refine Xn 4 ?_;refine Xn 5 ?_;refine eS (rs:=[1,6]) kR sP ?_;refine(bQ rfl (λK hK=>?_) (bQ rfl (λK hK=>?_) dY));go_simp;refine hK _ _ kP λhHeld=>?_;clear hK
  try simp only[xX]
  refine Xs 6 λK hK=>?_;rotate_left;go_simp;refine hK _ _ kP λhHeld=>?_;clear hK;refine Xs 1 λK hK=>?_
  all_goals (
   go_simp;refine hK _ _ kP λhHeld=>?_;clear hK;refine Xs 7 λK hK=>?_;refine dm rfl (.tmp 18) (.tmp 23) 22 rfl (w.heap.size+1) 5 i0 (.int .u8 0) 1 1 underlying22 ax a2 a3 a4 rfl vZ v j (JS<|bs.take j) (by simp[Act.eval]) (a.drew.own.alloc _) (Hk wr.heap.size 0) 1 1 [.int .u8 (bs[j].toNat:Int)] (by simp[Act.eval]) rfl (Yf _ _ _) (by intro u W;simp at W;subst W;rfl) (by unfold maxLen;omega) oM (by(try simp);omega) ?_;rintro v8 o U P - -;have ab:=a.step Q (xy wr _) P U;obtain⟨V,R,O,a7,g8,c8,rfl⟩:=ab;have ac:=Xa V;have al:=aa _ R;have a8:=O 0;clear U P V R O;refine hK _ _ kP λhHeld=>?_;clear hK;refine Xn 8 ?_;refine Xs 9 λK hK=>?_;go_simp;refine hK _ _ ((bH _ _ _ _<|kA ap).trans al) λhHeld=>?_;clear hK;refine Yq ?_;go_wp2;exact⟨⟨j+1,oM,oM,gM,_,Xa ac.o⟩,by simp[intOf];omega⟩)
 have D:Hs (bs.take j=bs.take 4000):=Xa (by
  have:=y.o;by_cases h4:j=4000;·rw[h4]
  rw[aW oM,aW oM])
 obtain⟨av,cv,rfl,N⟩:=a.done D;have l:=Xa N;have F:=Xa a.low;have H:=Xa a.size;have HX:=Xa (show(((n:Int)%1000)+29)=(((bs.length%1000:Nat):Int)+29) by have:=y.o;omega);clear N D a;have k:=l.c2;have e2:=l.c2;have z2:=l.thaw 2;dsimp only at e2;rcases(by omega:(j<n/\¬j<4000)\/¬j<n)with⟨hlt1,az⟩|hlt1
 all_goals (
  go_wp2;clear e2 z2 k;generalize wr=z at*
  go_loopw [5] (λu A=>∃i:Nat,i<=(bs.take 4000).length/\u=Hp i/\Hs (Below w.heap.size w A)/\Hs (A.heap.size=z.heap.size)/\Hs (Jg A w.heap.size (w.heap.size+1) z.heap.size ⟨bs.take 4000,0,JV ((bs.take 4000).take i) (((bs.length%1000:Nat):Int)+29),0⟩)) λu _=>(bs.take 4000).length-(intOf u).toNat
  case atStart=>exact⟨0,aN _,rfl,Xa<|F.setCell (aA _) _,Xa<|Xd _ _ _,Xa (by
   rw[lK,HX.o];exact(l.mix<|((bs.length%1000:Nat):Int)+29).undrew)⟩
  case round=>
   obtain⟨i,hi,rfl,p,h,e⟩:=hrel;let⟨aq,cq,k,x⟩:=e.c0;have e2:=e.c2;have e3:=e.c3;have z2:=e.thaw 2;have z3:=e.thaw 3;dsimp only at k e2 e3 x;have bc:=WP ((bs.take 4000).take i) (((bs.length%1000:Nat):Int)+29) oM (by have:=dS bs.length (show 0<1000 by decide);omega);have r:Hs (∀m:i<(bs.take 4000).length,JV ((bs.take 4000).take (i+1)) (((bs.length%1000:Nat):Int)+29)=(JV ((bs.take 4000).take i) (((bs.length%1000:Nat):Int)+29)*257+((bs.take 4000)[i].toNat:Int)+1)%1000003):=Xa λm=>xx _ _ i m;have q:Hs (i=(bs.take 4000).length->JV ((bs.take 4000).take i) (((bs.length%1000:Nat):Int)+29)=JV (bs.take 4000) (((bs.length%1000:Nat):Int)+29)):=Xa (λm=>by rw[m,gC]);have f:Hs (WB bs=⟨bs.take 4000,0,JV (bs.take 4000) (((bs.length%1000:Nat):Int)+29),if 1+(((bs.take 4000).length:Nat):Int)/50 > 7 then 7 else 1+(((bs.take 4000).length:Nat):Int)/50⟩):=Xa rfl;have ba:(bs.take 4000).length<=4000:=by rw[dH];omega
   generalize (((bs.length%1000:Nat):Int)+29)=X at*;generalize a0:JV ((bs.take 4000).take i) X=Y at*;generalize bs.take 4000=d at*;have C:=Xa x;clear x a0;by_cases T:i<d.length
   .obtain⟨bq,oq,rfl,ao,ec⟩:=C i T;have HM:=Xa<|r.o T;have a6:d[i].toNat<256:=lQ _;generalize d[i]=af at*;generalize af.toNat=J at*;have bd:(Y*257+(J:Int)+1).tmod 1000003=(Y*257+(J:Int)+1)%1000003:=eW oM;have bb:(i:Int)<(d.length:Int):=oM;clear r q f;generalize ar:d.length=L at*;go_wp2;go_region;go_wp2;exact⟨⟨i+1,oM,gM,Xa (p.setCell (aA _) _).drew,Xa<|(Xd _ _ _).trans h,Xa<|by rw[HM.o];exact e.mix _⟩,by simp[intOf];omega⟩
   have ay:i=d.length:=oM;have E:Hs (Jg wr w.heap.size (w.heap.size+1) z.heap.size ⟨d,0,JV d X,0⟩):=Xa (by rw[<-q.o ay];exact e);have G:=f;clear q r e C f;have f:=G;clear G;generalize ar:d.length=L at*;have a1:=F.size;by_cases M:1+(L:Int)/50 > 7
   .have s:=Xa (f.trans<|by rw[aU M]);go_wp2;go_ret;refine⟨rfl,(p.setCell (aA _) _).setCell (aA _) _,?_,?_⟩;·rw[Xd,Xd,h.o];exact H
    rw[Xd,Xd,h.o,s.o];exact(E.siz _).siz _
   have s:=Xa (f.trans<|by rw[aM M]);go_wp2;go_ret;refine⟨rfl,p.setCell (aA _) _,?_,?_⟩;·rw[Xd,h.o];exact H
   rw[Xd,h.o,s.o]
   exact E.siz _)
theorem Jg.block{b:Nat}{s:Sr}(h:Jg w b n m s)(d:v.heap[b]?=w.heap[b]?)(i:∀k,n<=k->k<m->v.heap[k]?=w.heap[k]?):Jg v b n m s:=by
 let⟨e,c,f,g⟩:=h.c0;have a:∀q,v.cell? (Hk b q)=w.cell? (Hk b q):=λq=>bZ d;exact⟨⟨e,c,(a 0).trans f,g.keepS i⟩,(a 1).trans h.c1,(a 2).trans h.c2,(a 3).trans h.c3,λq=>(bJ d).trans (h.thaw q),h.o⟩
theorem TW{b:Nat}(h:w.ownsRow n m k a B y)(c:w.grownBy v (some b))(d:b<n):v.ownsRow n m k a B y :=
 h.kept c (by
  cases e:a.ownBlock with
  |none=>exact bC rfl
  |some f=>exact aZ λe2=>by cases e2;have:=(h.lt _ e).1;omega)
theorem Db(h:w.ownsRow n m k (Hl B g c) g y)(j:v.heap[B]?=w.heap[B]?):v.ownsRow n m k (Hl B g c) g y:=by
 obtain⟨a,h|⟨o,l,b,e,f,i,d⟩⟩:=h;·exact⟨a,bC h⟩
 cases e;exact⟨a,aZ ⟨B,c,b,rfl,f,j.trans i,d⟩⟩
theorem n9(h:w.ownsRow n m k (.slice (some ⟨B,0,none⟩) g c) g y)(u:Value):(w.setCell ⟨B,i,none⟩ u).ownsRow n m k (.slice (some ⟨B,0,none⟩) g c) g (y.set i u):=by
 obtain⟨l,b|⟨s,r,a,e,f,j,d,o,p,q⟩⟩:=h;·cases b.1
 cases e;refine⟨by rw[bL];exact l,aZ ⟨B,c,a.setIfInBounds i u,rfl,f,?_,d,o,by rw[jS];exact p,?_⟩⟩;·exact heap_setCell_same w B i a m u j
 rw[Array.toList_setIfInBounds,List.take_set,q]
theorem Xm(h:w.ownsRow n m k a B y)(b:0<B):∃g c,a=.slice (some ⟨g,0,none⟩) B c/\(n<=g/\g<w.heap.size)/\B<=c:=by
 rcases Vc h with⟨_,m,_⟩|h;·omega
 exact h
theorem Zv{x:Int}(h:0<=x):∃m:Nat,x=m:=⟨x.toNat,oM⟩
def Je(L:List Nat):List Value:=L.map λ(x:Nat)=>Value.int .i64 (x:Int)
theorem VP(L:List Nat)(x:Nat):Je (L++[x])=Je L++[Hp x]:=by simp[Je]
theorem UY(w:World)(b c:Nat):Xf (w.alloc<|.cells #[.int .i64 (b:Int)] c) w.heap.size (w.heap.size+1) (some ⟨w.heap.size,0,none⟩) ([b].map Int.ofNat):=λi a=>by
 have:i=0:=by simpa using a
 subst this;exact⟨_,0,rfl,⟨aA _,iJ _⟩,sP⟩
theorem KJ(t:Yj):t.tg.length<=2:=by
 unfold Yj.tg;split;·simp
 split<;>simp
structure YW(w:World)(bS gS BL K:Nat)(ab:Option Addr)(nb cb:Nat)(W:Nat->Nat)(v:Value)(L:List Nat):Prop where
 c0:w.cell? ⟨bS,0,none⟩=some (.slice ab nb cb)
 c1:w.cell? ⟨bS,1,none⟩=some (.slice (some ⟨gS,0,none⟩) K K)
 c2:w.cell? ⟨bS,2,none⟩=some v
 thaw:∀q,w.frozen? ⟨bS,q,none⟩=false
 row:w.rowIs gS 154 K λi=>.int .u64 (W i)
 own:w.ownsRow BL 2 1 v L.length (Je L)
 lb:bS<BL
 lg:gS<BL
 ne:bS≠gS
 sz:BL<=w.heap.size
structure Vh(w w':World)(bS gS:Nat)(v v':Value):Prop where
 os:w'.os=w.os
 tape:w'.tape=w.tape
 output:w'.output=w.output
 size:w.heap.size<=w'.heap.size
 block:∀k,k<w.heap.size->k≠bS->k≠gS->some k≠v.ownBlock->w'.heap[k]?=w.heap[k]?
 own:v'.ownBlock=v.ownBlock\/∀k,v'.ownBlock=some k->w.heap.size<=k
theorem Vh.refl(w:World)(a b:Nat)(v:Value):Vh w w a b v v:=⟨rfl,rfl,rfl,aA _,λ_ _ _ _ _=>rfl,bC rfl⟩
theorem Vh.trans{v1 v2:Value}(h:Vh w v n m a v1)(k:Vh v u n m v1 v2):Vh w u n m a v2:=by
 refine⟨k.os.trans h.os,k.tape.trans h.tape,k.output.trans h.output,aJ h.size k.size,λj d f g i=>?_,?_⟩
 .refine(k.block j (aX d h.size) f g λe=>?_).trans (h.block j d f g i);rcases h.own with b|b;·exact i<|by rw[e,b]
  have:=b j e.symm;omega
 rcases k.own with c|c
 .rcases h.own with b|b;·exact bC<|c.trans b
  exact aZ λj e=>b j<|by rw[<-c];exact e
 exact aZ λj e=>aJ h.size<|c j e
theorem Vh.of_below(h:Below w.heap.size w v):Vh w v n m a a:=⟨h.os,h.tape,h.output,h.size,λk b _ _ _=>h.block k b,bC rfl⟩
theorem Vh.of_grown(h:w.grownBy v (some m)):Vh w v n m a a:=⟨h.os,h.tape,h.output,h.size,λk b _ c _=>h.block k b λe=>c (by injection e),bC rfl⟩
theorem YW.below(h:YW w n m k B p g i f a s)(b:Below w.heap.size w v):YW v n m k B p g i f a s:=by
 have l:=h.sz;have d:=b.block n<|oN h.lb;have c:∀q,v.cell? (Hk n q)=w.cell? (Hk n q):=λq=>bZ d;refine⟨(c 0).trans h.c0,(c 1).trans h.c1,(c 2).trans h.c2,λq=>(bJ d).trans (h.thaw q),h.row.of_block<|b.block m (oN h.lg),?_,h.lb,h.lg,h.ne,aJ l b.size⟩;refine h.own.kept (row:=none) ⟨b.os,b.tape,b.output,b.size,λj e _=>b.block j e⟩ ?_;cases a.ownBlock with
 |none=>exact bC rfl
 |some j=>exact aZ sP
theorem YW.seen(h:YW w n m k B p g i f a s)(c:w.grownBy v (some m))(j:v.rowIs m 154 B λo=>.int .u64 (F o)):YW v n m k B p g i F a s:=by
 have l:=h.sz;have d:=c.block n (oN h.lb) (λe=>h.ne<|by injection e);have b:∀q,v.cell? (Hk n q)=w.cell? (Hk n q):=λq=>bZ d;exact⟨(b 0).trans h.c0,(b 1).trans h.c1,(b 2).trans h.c2,λq=>(bJ d).trans (h.thaw q),j,TW h.own c h.lg,h.lb,h.lg,h.ne,aJ l c.size⟩
theorem YW.push{b:Nat}{r:Obj}(h:YW w n m k B p g i f a s)(d:(w.alloc r).grownBy v a.ownBlock)(H:v.ownsRow k 2 1 A (s.length+1) (Je s++[.int .i64 (b:Int)]))(F:A.ownBlock=a.ownBlock\/A.ownBlock=some (w.heap.size+1)) :
 YW (v.setCell ⟨n,2,none⟩ A) n m k B p g i f A (s++[b])/\Vh w (v.setCell ⟨n,2,none⟩ A) n m a A/\v.cell? ⟨n,2,none⟩=some a/\v.frozen? ⟨n,2,none⟩=false:=by
 have L:=h.sz;have o:=h.lb;have y:=h.lg;have K:(w.alloc r).heap.size=w.heap.size+1:=aO _ _;have J:=d.size;have z:∀c,c<k->some c≠a.ownBlock:=λc x e=>by have:=(h.own.lt c e.symm).1;omega
 have ha:∀c,c<w.heap.size->(w.alloc r).heap[c]?=w.heap[c]?:=λc x=>Below.heap_alloc _ _ _ x;have u:=(d.block n oM<|z _ o).trans (ha _ oM);have G:=(d.block m oM<|z _ y).trans (ha _ oM);have j:∀q,v.cell? (Hk n q)=w.cell? (Hk n q):=λq=>bZ u;have t:=λq=>(bJ u).trans (h.thaw q);refine⟨⟨(XL _ _ oM _).trans ((j 0).trans h.c0),(XL _ _ oM _).trans ((j 1).trans h.c1),fQ _ _ _<|(j 2).trans h.c2,λq=>by rw[eX];exact t q,(h.row.of_block G).setOther (λe=>h.ne e.symm) _,?_,o,y,h.ne,by rw[Xd];omega⟩,⟨?_,?_,?_,by rw[Xd];omega,λc C D I E=>?_,?_⟩,(j 2).trans h.c2,t 2⟩
 .rw[VP,aQ];exact ownsRow_setCell_below H o _
 .exact d.os
 .exact d.tape
 .exact d.output
 .rw[Below.heap_setCell _ _ _ _ D];exact(d.block c oM E).trans (ha c C)
 rcases F with e|e;·exact bC e
 exact aZ λc l=>by rw[e]at l;injection l with l;omega
theorem Vh.blks(d:Vh w v n m a A)(h:YW w n m k B p g i f a s)(q:Xp w j c p x)(l:¬(j<=n/\n<c))(o:¬(j<=m/\m<c))(r:c<=k):Xp v j c p x:=by
 have t:=h.sz;exact q.keepS λb u y=>d.block b oM (λe=>l oM) (λe=>o oM) λe=>by have:=(h.own.lt b e.symm).1;omega
theorem VY(h e u K a D:Nat)(C:Option Addr)(d:List Xe)(R A:Nat)(ba:Hs (a=d.length))(hn:a<=1000)(hK:a<=64*K)(ci:K<=100)(S:¬(R<=h/\h<A))(T:¬(R<=e/\e<A))(U:A<=u)(hT:Hs (∀aa∈d,∀t∈aa.te.tg,0<=t/\t<a)) :
 ∀(m b:Nat)(W:Nat->Nat)(v:Value)(L:List Nat)(w:World),Hs (YW w h e u K C a D W v L)->Hs (Xp w R A C d)->b<a->Hs (XB W a<=m)->Hs (XA W)->L.length+XB W a<=a ->
 Calls prog 33 #[Hn h,Hp b] w λj w'=>j=.returned (.tuple #[])/\∃r,Vh w w' h e v r/\YW w' h e u K C a D (C2 (X8 d) m b (W,L)).1 r (C2 (X8 d) m b (W,L)).2:=by
 let⟨i0,b4,b8,ca,cc⟩:=Xq Nv;intro m
 induction m with
 |zero=>
  intro b W v L w g I E Q y hL;have HH:Hs (Xh W b=true):=Xa<|T8 (oN Q.o) E;have i:=Xa<|Jm e K b W w y (Xa g.row) oM oM;rw[HH.o]at i;have c1:=g.c1
  go_in
  go_wp2_with fail
  refine i.mono ?_;rintro j f⟨rfl,k⟩;have l:=Xa<|g.below k;have x:Hs (Vh w f h e v v):=Xa<|Vh.of_below k;go_wp2_with fail
  refine cC (v:=.tuple #[]) (by simp[results,results33,go_sem]) rfl ?_;exact⟨rfl,v,x,l⟩
 |succ m ih=>
  intro b W v L w g I E Q y hL;have IH:=Xa ih;cases hh:Xh W b with
  |true=>
   have ap:=Xa hh;have i:=Xa<|Jm e K b W w y (Xa g.row) oM oM;rw[ap.o]at i;have c1:=g.c1
   go_in
   go_wp2_with fail
   refine i.mono ?_;rintro j f⟨rfl,k⟩;have l:=Xa<|g.below k;have x:Hs (Vh w f h e v v):=Xa<|Vh.of_below k;go_wp2_with fail
   refine cC (v:=.tuple #[]) (by simp[results,results33,go_sem]) rfl ?_;rw[Vd (s:=(W,L)) ap.o];exact⟨rfl,v,x,l⟩
  |false=>
   have O:=Xa hh;have c0:=g.c0;have c1:=g.c1;have c2:=g.c2;have i:=Xa<|Jm e K b W w y (Xa g.row) oM oM;rw[O.o]at i
   go_in
   go_wp2_with fail
   refine i.mono ?_;rintro j f⟨rfl,k⟩;have l:=Xa<|g.below k;have x:Hs (Vh w f h e v v):=Xa<|Vh.of_below k;have c0:=l.c0;have c1:=l.c1;go_wp2_with fail
   have P:=Xa<|l.below (Xb (Below.refl _ _) (.cells #[Hp b] 139));have aj:Hs (Vh f (f.alloc<|.cells #[Hp b] 139) h e v v):=Xa<|Vh.of_below (Xb (Below.refl _ _) _);have aq:Hs (Xf (f.alloc<|.cells #[Hp b] 139) f.heap.size (f.heap.size+1) (some ⟨f.heap.size,0,none⟩) ([b].map Int.ofNat)):=Xa<|UY f b _;have bc:f.heap.size+1<=(f.alloc<|.cells #[Hp b] 139).heap.size:=sP;have b3:e<f.heap.size:=oP l.lg l.sz
   generalize f.alloc _=wa at*;have bp:Hs (∀t∈[b],t<64*K):=Xa (λt o=>by
    have:t=b:=by simpa using o
    omega)
   refine(Tz e K K 1 1 W _ [b] f.heap.size (f.heap.size+1) wa aq (Xa rfl) oM bp oM y (Xa<|Bf.of_row P.row) bc oM).mono ?_;rintro j H⟨rfl,V,a8⟩;have n:Hs (YW H h e u K C a D (YH W b) v L):=Xa<|P.seen V a8.to_row;have M:=Xa<|(x.trans aj).trans (Vh.of_grown V);have ad:=Xa<|M.blks g I S T U;have a0:=Xa<|Tb (W:=W) (n:=a) E O;have J:=Xa<|jd (tg:=X8 d) (m:=m) (s:=(W,L)) O;have z:b<d.length:=oN ba.o;obtain⟨bb,ce,rfl,ck,pa,pc,ia,ic,-,-,⟨t0,t1,t2,t3⟩,-,-⟩:=ad b z;have c0:=n.c0;have az:=Xa<|hT.o _ (aH z);rw[Km z]at J;dsimp only at J;generalize d[b].te=tm at*;go_wp2_with fail
   refine(J4 tm H).mono ?_;rintro j w3⟨cg,ch,rfl,F,a5⟩;have ar:=Xa<|n.below F;have af:=Xa<|M.trans (Vh.of_below F);have bl:=Xa a5;have bd:=Xa<|af.blks g I S T U;have cf:=Xa F.size;have bm:=Xa λcd j=>(n.own.lt cd j).2;have ao:Hs (e<H.heap.size/\h<H.heap.size):=Xa ⟨oP n.lg n.sz,oP n.lb n.sz⟩;have cq:=KJ tm;generalize b7:tm.tg=c at*;have bv:Hs (∀t∈c.map Int.toNat,t<a):=Xa (λt o=>by
    obtain⟨ac,Z,rfl⟩:=aY.1 o;have:=az ac Z;omega)
   have br:Hs (∀b,b<a->∀t∈X8 d b,t<a):=Xa (λb E t o=>by
    have z:b<d.length:=oN ba.o
    rw[Km z]at o;obtain⟨ac,Z,rfl⟩:=aY.1 o;have:=hT _ (aH z) ac Z;omega)
   have bx:=Xa<|jz y b;have b0:XB (YH W b) a<=m:=oP Q.o a0.o;have cj:L.length+XB (YH W b) a+1<=a:=oN a0.o;go_wp2
   go_loopw [29] (λG wr=>∃q:Nat,q<=c.length/\G=Hp q/\∃r,Hs (Vh w3 wr h e v r)/\Hs (YW wr h e u K (some ⟨bb,ce,none⟩) a D (((c.map Int.toNat).take q).foldl (λs t=>C2 (X8 d) m t s) (YH W b,L)).1 r (((c.map Int.toNat).take q).foldl (λs t=>C2 (X8 d) m t s) (YH W b,L)).2)) λG _=>c.length-(intOf G).toNat
   case atStart=>exact⟨0,aN _,rfl,v,Xa<|Vh.refl _ _ _ _,ar⟩
   obtain⟨q,hq,rfl,r,B,p⟩:=hrel;have N:Hs ((((c.map Int.toNat).take q).foldl (λs t=>C2 (X8 d) m t s) (YH W b,L)).2.length+XB (((c.map Int.toNat).take q).foldl (λs t=>C2 (X8 d) m t s) (YH W b,L)).1 a<=L.length+XB (YH W b) a):=Xa (Bk (X8 d) a br m _ _ λt o=>bv t<|iO o);by_cases X:q<c.length
   .obtain⟨bt,ot,rfl,b1,a1⟩:=bl q X;have et:=(Xc (B.block bt b1.2 (oN ao.o) (oN ao.o) λj=>by have:=bm bt j.symm;omega)).trans a1;have b6:=az c[q] (aH X);have ay:Hs ((c.map Int.toNat).take (q+1)=(c.map Int.toNat).take q++[c[q].toNat]):=Xa (by rw[bN (by simpa using X),cM]);have bz:=Xa<|Cj (X8 d) m ((c.map Int.toNat).take q) (YH W b,L) bx;have bf:=Xa<|B.blks ar bd S T U;have bw:Hs (XB (((c.map Int.toNat).take q).foldl (λs t=>C2 (X8 d) m t s) (YH W b,L)).1 a<=m):=Xa (aJ (JY a λaa hx=>Ue (X8 d) m _ (YH W b,L) aa hx) b0);have al:Hs (((c.map Int.toNat).take (q+1)).foldl (λs t=>C2 (X8 d) m t s) (YH W b,L)=C2 (X8 d) m c[q].toNat (((c.map Int.toNat).take q).foldl (λs t=>C2 (X8 d) m t s) (YH W b,L))):=Xa (by rw[ay.o,dT];rfl);generalize c[q]=tq at*;obtain⟨tn,rfl⟩:=Zv b6.1;rw[dM]at al;have HC:=Xa<|IH.o tn _ r _ wr p bf oM bw bz (oN N.o);generalize ((c.map Int.toNat).take q).foldl (λs t=>C2 (X8 d) m t s) (YH W b,L)=sq at*;let⟨Wq,Lq⟩:=sq;dsimp only at*;go_wp2_with fail
    refine HC.mono ?_;rintro j w5⟨rfl,v5,a3,a9⟩;have bi:=Xa<|B.trans a3;have bq:=Xa a9;go_wp2;exact⟨⟨q+1,oM,gM,v5,bi,Xa<|by rw[al.o];exact bq⟩,by simp[intOf];omega⟩
   have cp:q=c.length:=oM;have ax:Hs ((c.map Int.toNat).take q=c.map Int.toNat):=Xa (aW<|by simp;omega);rw[ax.o]at p N;generalize (c.map Int.toNat).foldl (λs t=>C2 (X8 d) m t s) (YH W b,L)=sq at*;let⟨Wq,Lq⟩:=sq;dsimp only at*;have c2:=p.c2;have zz:=p.thaw 2;have cl:Lq.length<=1000:=oN N.o;have cr:=p.sz;go_wp2_with (at_builtin;refine bT _ rfl _ _ 27 rfl u 2 i0 (Hp 0) 1 8 underlying27 b4 b8 ca cc rfl vZ _ _ _ rfl (p.own.alloc _) (Hk wr.heap.size 0) 1 1 [Hp b] rfl rfl ?c1 ?c2 ?c3 ?c4 ?c5 ?_)
   case c1=>exact Yf _ _ _
   case c2=>intro G hu;simp at hu;subst hu;rfl
   case c3=>unfold maxLen;omega
   case c4=>omega
   case c5=>simp;omega
   intro v8 w8 Y a4 b5 a2;let⟨a6,a7,cm,co⟩:=p.push a4 Y a2;obtain⟨g8,k8,rfl,-,-⟩:=Xm Y oM;have bn:=Xa a6;have bo:=Xa a7;go_wp2
   go_end0
   exact⟨rfl,_,(af.trans B).trans bo,by rw[J.o];exact bn⟩
inductive Iw (tg:Nat->List Nat) (z:Int):Nat->Prop
 |root:z≠0->Iw tg z 0
 |step {b t:Nat}:Iw tg z b->t∈tg b->(t:Int)≠z->Iw tg z t
theorem Dv{tg:Nat->List Nat}{b:Nat}:Iw tg n b↔Av tg n b:=by
 constructor
 .intro h
  induction h with
  |root h=>exact Av.root λe=>h oM
  |step _ c a d=>exact Av.step d c λe=>a oM
 intro h
 induction h with
 |root h=>exact Iw.root λe=>h oM
 |step _ c a d=>exact Iw.step d c λe=>a oM
theorem se{tg:Nat->List Nat}(d:t<0){b:Nat}:Iw tg t b↔Re tg b:=by
 constructor
 .intro h
  induction h with
  |root _=>exact Re.root
  |step _ a _ c=>exact Re.step c a
 intro h
 induction h with
 |root=>exact Iw.root oM
 |step _ a c=>exact Iw.step c a oM
structure MH(tg:Nat->List Nat)(n:Nat)(z:Int)(F:List Nat)(i:Nat):Prop where
 nd:F.Nodup
 av:∀x∈F,Iw tg z x
 lt:∀x∈F,x<n
 root:z≠0->0∈F
 nil:z=0->F=[]
 cl:∀k (h:k<F.length),k<i->∀t∈tg F[k],(t:Int)≠z->t=0\/t∈F
theorem YS(h:s.Nodup)(a:∀x∈s,x<n):s.length<=n:=by
 have:=kV h (l₂:=List.range n) λx b=>bE.2<|a x b;simpa using this
theorem Cm{tg:Nat->List Nat}(h:MH tg n t s m)(q:s.length<=m)(x:Nat):x∈s↔Iw tg t x:=by
 refine⟨h.av x,λj=>?_⟩
 induction j with
 |root c=>exact h.root c
 |@step b o p i g k=>
  let⟨l,a,e⟩:=bR k;rcases h.cl l a oM o (by rw[e];exact i) g with d|f
  .rw[d];refine h.root λc=>?_;rw[h.nil c]at a;exact absurd a sP
  exact f
theorem TS{T:Type}{C:T->Value}{f:Nat->T}(h:w.rowIs n m k λz=>C<|f z)(r:Nat)(v:T):(w.setCell ⟨n,r,none⟩ (C v)).rowIs n m k (λz=>C<|if z=r then v else f z) :=
 (h.set r<|C v).congr (λz _=>by by_cases e:z=r<;>simp[e])
theorem UC{T:Type}{C:T->Value}{f a:Nat->T}(h:w.rowIs n m k λz=>C<|f z)(e:∀z,z<k->f z=a z):w.rowIs n m k (λz=>C<|a z):=h.congr λz b=>by rw[e z b]
theorem No:(prog.info? 4).map (λi=>(i.zero,i.size,i.bytes))=some (some<|.bool false,1,1):=kR
structure Ln(tg:Nat->List Nat)(n:Nat)(z:Int)(F F':List Nat)(i q:Nat)(ts:List Int):Prop where
 pre:∃E,F'=F++E
 nd:F'.Nodup
 av:∀x∈F',Iw tg z x
 lt:∀x∈F',x<n
 now:∀k (h:k<ts.length),k<q->ts[k]≠z->ts[k]=0\/ts[k].toNat∈F'
theorem Ad{tg:Nat->List Nat}(h:MH tg n t s m):Ln tg n t s s m 0 l:=⟨⟨[],sP⟩,h.nd,h.av,h.lt,λk _ a=>absurd a oM⟩
theorem Au{tg:Nat->List Nat}(h:Ln tg n t s S m k l)(hq:k<l.length)(f:l[k]=t\/l[k]=0\/l[k].toNat∈S):Ln tg n t s S m (k+1) l:=⟨h.pre,h.nd,h.av,h.lt,λc d g b=>by
 by_cases e:c=k
 .subst e;rcases f with a|a|a;·exact absurd a b
  .exact bC a
  exact aZ a
 exact h.now c d oM b⟩
theorem AZ{tg:Nat->List Nat}(h:Ln tg n t s S m k l)(hq:k<l.length)(j:l[k]=B)(u:B<n)(q:(B:Int)≠t)(g:B∉S)(d:m<s.length)(o:B∈tg s[m]):Ln tg n t s (S++[B]) m (k+1) l:=by
 let⟨E,e⟩:=h.pre;refine⟨⟨E++[B],by rw[e,cK]⟩,?_,λx b=>?_,λx b=>?_,λc f r i=>?_⟩
 .rw[gW]
  exact⟨h.nd,sP,λx b y p e2=>g (by
   have:y=B:=by simpa using p
   rw[<-this,<-e2];exact b)⟩
 .rcases bU.1 b with a|a;·exact h.av x a
  have:x=B:=by simpa using a
  rw[this];exact Iw.step (h.av s[m] (by rw[e];exact dD _<|aH d)) o q
 .rcases bU.1 b with a|a;·exact h.lt x a
  have:x=B:=by simpa using a
  omega
 by_cases e2:c=k
 .subst e2;exact aZ<|by rw[j];simp
 rcases h.now c f oM i with a|a;·exact bC a
 exact aZ<|dD _ a
theorem Ai{tg:Nat->List Nat}(h:Ln tg n t s S m k l)(j:MH tg n t s m)(A:t≠0)(C:m<s.length)(hq:l.length<=k)(y:tg s[m]=l.map Int.toNat)(u:∀d∈l,0<=d):MH tg n t S (m+1):=by
 let⟨E,g⟩:=h.pre;have o:∀x∈s,x∈S:=λx z=>by rw[g];exact dD _ z
 refine⟨h.nd,h.av,h.lt,λf=>o 0<|j.root f,λf=>absurd f A,λb w D d c p=>?_⟩;have e:b<s.length:=oM;have r:S[b]=s[b]:=by
  have i:S[b]?=(s++E)[b]?:=by rw[g]
  rw[aC w,dL e,aC e]at i;injection i
 rw[r]at c;by_cases e2:b=m
 .subst e2;rw[y]at c;obtain⟨G,q,rfl⟩:=aY.1 c;obtain⟨B,v,rfl⟩:=bR q;have F:=u _ q;rcases h.now B v oM (λe3=>p oM)with a|a;·exact bC<|by rw[a];rfl
  exact aZ a
 rcases j.cl b e oM d c p with a|a;·exact bC a
 exact aZ<|o d a
theorem y7(w:World)(n:Nat)(c:0<n):(w.alloc<|.cells ((madeCells #[.bool false] n).setIfInBounds 0 (.bool true)) 4).rowIs w.heap.size 4 n (λx=>.bool (decide (x=0\/x∈[0]))):=by
 have h:=eK w ((madeCells #[.bool false] n).setIfInBounds 0 (.bool true)) 4 (λx=>.bool (decide (x=0\/x∈[0]))) (λi a=>by
  rw[jS,nA]at a;rw[Array.getElem?_setIfInBounds];by_cases e:0=i;·subst e;simp[c,nA]
  have b:¬i=0:=λh=>e h.symm
  have e1:=Nat.mod_one i;simp[e,b,madeCells,a,e1])
 rw[jS,nA]at h;exact h
theorem qt(vl:Int)(E:Option Addr)(n c:Nat)(z:Int)(g:List Xe)(cm ay:Nat)(w:World)(ha:Hs (Xp w cm ay E g))(X:Hs (n=g.length))(hn:n<=1000)(bp:0<n)(hB:ay<=w.heap.size)(hT:Hs (∀x∈g,∀t∈x.te.tg,0<=t/\t<n)) :
 Calls prog 19 #[.agg #[Hp vl,.slice E n c],Hp z] w λe o=>∃v F,e=.returned v/\Below w.heap.size w o/\o.ownsRow w.heap.size 2 1 v F.length (Je F)/\F.Nodup/\∀x,x∈F↔Iw (X8 g) z x:=by
 let⟨i0,bm,bx,bz,b0⟩:=Xq Nv;have dw:=fM (P:=prog) 97 4 (.bool false) 1 underlying97 No rfl .i64 .i64 n oM oM;have aa:=λco=>(dG co (.bool false) n 4).cell bp;by_cases M:z=0
 .subst M;have aq:=λo1 o2=>aa<|(w.alloc o1).alloc o2;simp only[aO]at aq
  go_in
  go_wp2
  go_loopw [5,7] (λv u wr=>v=Hl (w.heap.size+1) 0 0/\u=Hp 0/\Hs (Below w.heap.size w wr)/\Hs (w.heap.size+1<wr.heap.size)/\Hs (wr.ownsRow w.heap.size 2 1 (Hl (w.heap.size+1) 0 0) 0 [])) λ_ _ _=>0
  case atStart=>exact⟨rfl,rfl,Xa<|Xb (Xb (Xb (Below.refl _ _) _) _) _,Xa sP,Xa (World.ownsRow.alloc (by
   have h:=eI (base:=w.heap.size) (e:=2) (size:=1) (w.alloc<|.cells #[Hp vl,.slice E n c] 25) #[] 0 sP sP rfl;rw[aO]at h;exact h) _)⟩
  obtain⟨rfl,rfl,P,HZ,p⟩:=hrel;go_wp2;go_ret
  refine⟨_,[],rfl,P,p,iU,λx=>⟨λh=>(by cases h),λh=>?_⟩⟩;exfalso;have:∀{c},Iw (X8 g) 0 c->False:=λhc=>by
   induction hc with
   |root h=>exact h rfl
   |step _ _ _ ih=>exact ih
  exact this h
 have d3:(z==0)=false:=by simpa using M
 go_in
 go_wp2_with (at_builtin;refine bT _ rfl _ _ 27 rfl (w.heap.size+1) 2 i0 (Hp 0) 1 8 underlying27 bm bx bz b0 rfl vZ _ _ _ rfl (World.ownsRow.alloc (K5 w _) _) (Hk (w.heap.size+2) 0) 1 1 [Hp 0] rfl rfl ?c1 ?c2 ?c3 ?c4 ?c5 ?_)
 case c1=>
  have h:=Yf ((w.alloc<|.cells #[Hp vl,.slice E n c] 25).alloc (.cells #[] 2)) (Hp 0) 2;simpa using h
 case c2=>intro u W;simp at W;subst W;rfl
 case c3=>unfold maxLen;omega
 case c4=>omega
 case c5=>simp
 intro v1 j ax ab cz cq;have bi:Cl j w.heap.size 1 (.slice E n c):=(Xc<|ab.block w.heap.size (by simp;omega) (by simp[Value.ownBlock])).trans (by simp[go_sem]);have az:=Xa ((Xb (Xb (Xb (Below.refl _ _) _) _) _).grown ab (by simp;omega) λk e=>by simp[Value.ownBlock]at e;omega);have ad:Hs (w.heap.size+2<j.heap.size):=Xa (by have:=ab.size;simp only[aO]at this;omega);obtain⟨g1,k1,rfl,bl,du⟩:=Xm ax oM;have a5:Hs (j.ownsRow (w.heap.size+1) 2 1 (Hl g1 (0+1) k1) [0].length (Je [0])):=Xa ax;have cs:=bl.2;have aq:=aa j;go_wp2_with fail
 have cg:=Xa<|y7 j n bp;have cc:=Xa<|a5.alloc (.cells ((madeCells #[.bool false] n).setIfInBounds 0 (.bool true)) 4);have b1:Hs (Below w.heap.size w<|j.alloc (.cells ((madeCells #[.bool false] n).setIfInBounds 0 (.bool true)) 4)):=Xa<|Xb az _;have b5:Hs ((j.alloc<|.cells ((madeCells #[.bool false] n).setIfInBounds 0 (.bool true)) 4).cell? (Hk w.heap.size 1)=some (.slice E n c)):=Xa ((bP _ _ _ (by have:=ad.o;show w.heap.size<_;omega)).trans bi);have b6:Hs (g1≠j.heap.size):=Xa oM;have b7:Hs (w.heap.size+1<j.heap.size):=Xa<|oN ad.o;generalize j.alloc _=w2 at*;generalize j.heap.size=d at*
 go_loopw [5,7] (λv u wr=>∃(F:List Nat)(i:Nat),u=Hp i/\i<=F.length/\Hs (MH (X8 g) n z F i)/\Hs (Below w.heap.size w wr)/\Hs (wr.cell? (Hk w.heap.size 1)=some (.slice E n c))/\Hs (wr.rowIs d 4 n λx=>.bool (decide (x=0\/x∈F)))/\Hs (v.ownBlock≠some d)/\Hs (wr.ownsRow (w.heap.size+1) 2 1 v F.length (Je F))) λ_ u _=>n+1-(intOf u).toNat
 case atStart=>exact⟨[0],0,rfl,aN _,Xa ⟨sP,λx X=>by
  have:x=0:=by simpa using X
  subst this;exact Iw.root M,λx X=>by
  have:x=0:=by simpa using X
  omega,λ_=>sP,λh=>absurd h M,λk _ hk=>absurd hk oM⟩,b1,b5,cg,Xa (by simp[Value.ownBlock];exact b6),cc⟩
 obtain⟨F,i,rfl,hi,r,P,HC,HS,HN,p⟩:=hrel;have dj:=YS r.nd r.lt;by_cases ac:i<F.length
 .obtain⟨gv,kv,rfl,ct,cx⟩:=Xm p oM;have di:=r.lt F[i] (aH ac);have al:F[i]<g.length:=oN X.o;have ef:=Jj p (j:=i) (u:=Hp (F[i]:Int)) (by simp[Je,ac]);have df:=hB;obtain⟨y,N,rfl,dl,pa,pc,ia,ic,-,-,⟨t0,t1,t2,t3⟩,-,-⟩:=(ha.keep<|P.mono hB) F[i] al;have bd:=HC.o;have ba:=Xa<|hT.o _ (aH al);have a9:=Xa<|Km al;have bw:=p.lt gv rfl;generalize bf:F[i]=G at*;have a2:=Xa bf;generalize g[G].te=B at*;have D:Hs (w.heap.size+1<=wr.heap.size/\d<wr.heap.size):=Xa ⟨oM,HS.lt⟩;go_wp2_with fail
  refine Y7 (λo=>o.cell? (Hk w.heap.size 1)=some (Hm y N n c)/\o.cell? (Hk gv i)=some (Hp G)/\o.cell? (Hk y<|N+G*6+2)=some (Hp B.kind)/\o.cell? (Hk y<|N+G*6+2+1)=some (Hp B.a)/\o.cell? (Hk y<|N+G*6+2+2)=some (Hp B.to)/\o.cell? (Hk y<|N+G*6+2+3)=some (Hp B.els)) λhHeld=>?_;refine Xn 0 ?_;refine Xn 1 ?_;refine Xn 2 ?_;refine Xn 3 ?_;refine Xn 4 ?_;refine Xn 5 ?_;refine Xn 6 ?_;refine Xn 7 ?_;refine Xn 8 ?_;refine Xs 9 λdb hK=>?_;go_simp
  go_at_call 50
  refine(ZO B _).mono ?_;rintro e C⟨bc,dc,rfl,K,bn⟩;have l:Below wr.heap.size wr C:=⟨K.os,K.tape,K.output,K.size,K.block⟩;have ap:y<wr.heap.size:=oN D.o;have Y:=λq=>l.cell (p:=Hk y q) ap;refine hK _ _ ⟨oB l bd (by have:=D.o;show w.heap.size<_;omega),oB l ef bw.2,(Y _).trans t0,(Y _).trans t1,(Y _).trans t2,(Y _).trans t3⟩ λhHeld=>?_
  try simp only[xX]
  refine Xn 10 ?_;refine Yq ?_;have bo:Xf C wr.heap.size C.heap.size bc B.tg:=bn;have a0:=Xa<|Xg P l;have a1:=Xa (oB l HC (by have:=D.o;show w.heap.size<_;omega));have a7:=Xa<|HS.of_block (l.block d D.2);have a6:=Xa<|Db p (l.block gv bw.2);have a4:=Xa bo;have ck:=Xa l.size;generalize bv:B.tg=f at*;have d0:f.length<=2:=by rw[<-bv];exact KJ B
  go_wp2_with fail
  generalize wr=wo at*
  go_loopw [5,9] (λv u O=>∃(b:List Nat)(q:Nat),u=Hp q/\q<=f.length/\Hs (Ln (X8 g) n z F b i q f)/\Hs (Below w.heap.size w O)/\Hs (O.cell? (Hk w.heap.size 1)=some (Hm y N n c))/\Hs (O.rowIs d 4 n λx=>.bool (decide (x=0\/x∈b)))/\Hs (v.ownBlock≠some d)/\Hs (Xf O wo.heap.size C.heap.size bc f)/\Hs (∀k,v.ownBlock=some k->k<wo.heap.size\/C.heap.size<=k)/\Hs (C.heap.size<=O.heap.size)/\Hs (O.ownsRow (w.heap.size+1) 2 1 v b.length (Je b))) λ_ u _=>f.length-(intOf u).toNat
  case atStart=>exact⟨F,0,rfl,aN _,Xa<|Ad r,a0,a1,a7,HN,a4,Xa (λk e=>by
   simp only[Value.ownBlock,Option.some.injEq]at e;exact bC oM),Xa<|aA _,a6⟩
  obtain⟨b,q,rfl,hq,H,Q,R,s,I,S,Z,af,J⟩:=hrel;have dk:=YS H.nd H.lt;by_cases V:q<f.length
  .obtain⟨bt,ot,rfl,dn,et⟩:=S q V;have c8:=ba f[q] (aH V);have a8:=Xa<|Au H V;have cj:Hs (∀t:Nat,f[q]=(t:Int)->t∈X8 g G):=Xa (λt e=>by rw[a9.o];exact aY.2 ⟨f[q],aH V,by rw[e];rfl⟩);have ci:Hs (∀t:Nat,f[q]=(t:Int)->t<n->(t:Int)≠z->t∉b->t∈X8 g F[i]->Ln (X8 g) n z F (b++[t]) i (q+1) f):=Xa λt e1 e2 e3 e4 e5=>AZ H V e1 e2 e3 e4 ac e5;generalize f[q]=tq at*;obtain⟨a,rfl⟩:=Zv c8.1;have br:a<n:=oM;have aj:=s.cell br;have dd:=s.frozen;by_cases m:(a:Int)=z
   .have hb:((a:Int)==z)=true:=by simpa using m
    have cr:((a:Int) != z)=false:=by simp[m]
    have T:=Xa<|a8.o (bC m);go_wp2;exact⟨⟨b,q+1,gM,oM,T,Q,R,s,I,S,Z,af,J⟩,by simp[intOf];omega⟩
   have hb:((a:Int)==z)=false:=by simpa using m
   have cr:((a:Int) != z)=true:=by simp[m]
   by_cases L:a=0\/a∈b
   .rw[eB L]at aj;have T:=Xa (a8.o<|aZ (by rcases L with h|h;exact bC oM;exact aZ<|by simpa using h));go_wp2;exact⟨⟨b,q+1,gM,oM,T,Q,R,s,I,S,Z,af,J⟩,by simp[intOf];omega⟩
   rw[dJ L]at aj
   have T:=Xa (ci.o a rfl br m (λh=>L<|aZ h) (by rw[a2.o];exact cj a rfl));have ch:Hs (∀x,x<n->(if x=a then true else decide (x=0\/x∈b))=decide (x=0\/x∈b++[a])):=Xa (λx _=>by
    by_cases e:x=a;·subst e;simp
    simp[e])
   have d2:=af.o;have c9:bt≠d:=oN D.2;have d4:d≠bt:=λe=>c9 e.symm;have ap:bt<wr.heap.size:=oM;have a3:=Xa s.lt;have d1:w.heap.size+1<=wr.heap.size:=oP D.o ck.o;go_wp2_with (at_builtin;refine bT _ rfl _ _ 27 rfl (w.heap.size+1) 2 i0 (Hp 0) 1 8 underlying27 bm bx bz b0 rfl vZ _ _ _ rfl ((fS J (a:=(Hk d a)) I (.bool true)).alloc _) (Hk wr.heap.size 0) 1 1 [Hp a] rfl rfl ?c1 ?c2 ?c3 ?c4 ?c5 ?_)
   case c1=>
    have h:=Yf (wr.setCell (Hk d a) (.bool true)) (Hp a) 2;rw[Xd]at h;exact h
   case c2=>intro u W;simp at W;subst W;rfl
   case c3=>unfold maxLen;omega
   case c4=>omega
   case c5=>rw[aO,Xd];omega
   intro v8 w8 bq U c6 ao;have c7:=U.size;rw[aO,Xd]at c7;have blk:∀k,k<wr.heap.size->k≠d->(∀A,u5.ownBlock=some A->k≠A)->w8.heap[k]?=wr.heap[k]?:=λk h1 h2 h3=>by
    refine(U.block k (by rw[aO,Xd];omega) λe=>h3 k e.symm rfl).trans ?_;rw[Below.heap_alloc _ _ _<|by rw[Xd];exact h1];exact Below.heap_setCell _ _ _ _ h2
   have ar:=λA e=>(J.lt A e).1
   have ds:=b7.o;have b3:=Xa (((Below.alloc (Q.setCell (by show w.heap.size<=d;omega) _) (by rw[Xd];omega) _).grown U (by rw[aO,Xd];omega) λk e=>by have:=ar k e;omega));have b4:=Xa ((Xc (blk w.heap.size oM oM λA e=>by have:=ar A e;omega)).trans R);have cf:=Xa (UC (C:=Value.bool) (((TS (C:=Value.bool) s a true).alloc _).of_block (U.block d (by rw[aO,Xd];have:=a3.o;omega) λe=>I e.symm)) ch);have cb:Hs (v8.ownBlock≠some d):=Xa (λe=>by
    rcases ao with h|h;·exact I<|h.symm.trans e
    rw[e]at h;injection h with h;have:=a3.o;omega)
   have b8:=Xa (S.keepS λk h1 h2=>blk k oM (oN D.2) λA e=>by rcases Z.o A e with h|h<;>omega);have ca:Hs (∀k,v8.ownBlock=some k->k<wo.heap.size\/C.heap.size<=k):=Xa (λk e=>by
    rcases ao with h|h;·exact Z k<|h.symm.trans e
    rw[e]at h;injection h with h;exact aZ oM)
   have cl:Hs (C.heap.size<=w8.heap.size):=Xa oM;have cd:Hs (w8.ownsRow (w.heap.size+1) 2 1 v8 (b++[a]).length (Je<|b++[a])):=Xa (by rw[VP,aQ];exact bq);go_wp2;exact⟨⟨b++[a],q+1,gM,oM,T,b3,b4,cf,cb,b8,ca,cl,cd⟩,by simp[intOf];omega⟩
  have ce:=Xa (Ai H r M ac oM (by rw[a2.o];exact a9) λt ht=>(ba t ht).1);have cw:i+1<=b.length:=by let⟨da,e⟩:=H.pre;rw[e,aQ];omega
  go_wp2;exact⟨⟨b,i+1,gM,cw,ce,Q,R,s,I,J⟩,by simp[intOf];omega⟩
 have cv:i=F.length:=oM;subst cv;have cp:=eJ<|r.root M;obtain⟨gv,kv,rfl,ct,cx⟩:=Xm p cp;go_wp2;go_ret;exact⟨_,F,rfl,P,Zk p oM,r.nd,Cm r<|aA _⟩
end Go.Proofs.YtffcajcgkblkoaaGreatDoor
