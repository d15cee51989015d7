import Derived.Test.YtghnlncgiihhgaaGreatDoorTA
import Derived.Laws.BitsAllLaws
namespace Go.Proofs.YtghnlncgiihhgaaGreatDoor
open Go.RowKit
variable{r:Bool}{s:List Nat}{x:List Xe}{n m k:Nat}{D:Nat->List Nat}{f F:Nat->Nat}{M N:Nat->Nat->Nat}{d:Nat->Prop}
def Xh(W:Nat->Nat)(x:Nat):Bool:=(W (x / 64)).testBit (x % 64)
def YH(W:Nat->Nat)(x:Nat):Nat->Nat:=fun i=>if i=x / 64 then W i ||| 2 ^ (x % 64)else W i
def XA(W:Nat->Nat):Prop:=∀i,W i<18446744073709551616
theorem Z3(x:Nat):Xh (fun _=>0) x=false:=by simp[Xh]
theorem Z8(W:Nat->Nat)(x y:Nat):Xh (YH W x) y=(decide (y=x)||Xh W y):=by
 unfold Xh YH;by_cases h:y / 64=x / 64
 ·rw[aU h,Nat.testBit_or,nE]
  by_cases e:x % 64=y % 64
  ·have:y=x:=oM
   simp[this]
  ·have:¬y=x:=fun a=>e (by rw[a])
   simp[this,e]
 ·rw[aM h]
  have:¬y=x:=fun a=>h (by rw[a])
  simp[this]
theorem ff(h:XA f)(x:Nat):XA (YH f x):=fun i=>by
 unfold YH;split
 ·exact Nat.or_lt_two_pow (n:=64) (h i) (lB vY (dS _ vY))
 ·exact h i
def moreN(S O T:Nat->Nat)(i:Nat):Nat:=(O i &&& (18446744073709551615-T i)) &&& (18446744073709551615-S i)
def butN(S O T:Nat->Nat)(i:Nat):Nat:=S i ||| moreN S O T i
theorem iy(ha:n<18446744073709551616)(a:m<64):(18446744073709551615-n).testBit m=!n.testBit m:=by
 have:=Nat.testBit_two_pow_sub_succ (n:=64) (x:=n) ha m;rw[show 18446744073709551615-n=2 ^ 64-(n+1) by omega,this];simp[a]
theorem WU{O:Nat->Nat}(b:XA f)(c:XA F)(i:Nat)(a:n<64):(moreN f O F i).testBit n=((O i).testBit n && !(F i).testBit n && !(f i).testBit n):=by
 unfold moreN;rw[jW,jW,iy (c i) a,iy (b i) a]
theorem WR{S T:Nat->Nat}(a:XA f)(i:Nat):moreN S f T i<18446744073709551616:=iC (aJ jB jB) (a i)
theorem jz{T:Nat->Nat}(b:XA f)(a:XA F):XA (butN f F T):=fun i=>Nat.or_lt_two_pow (n:=64) (b i) (WR a i)
theorem qm{T:Nat->Nat}(a:XA f)(b:XA T)(x:Nat):Xh (butN f F T) x=(Xh f x||(Xh F x && !Xh T x)):=by
 unfold Xh butN;rw[Nat.testBit_or,WU a b _ (dS _ vY)];cases (f (x / 64)).testBit (x % 64)<;>simp
theorem uU{T:Nat->Nat}(e:XA f)(d:XA F)(g:XA T)(i:Nat)(h:moreN f F T i≠0):∃x,x / 64=i/\Xh F x=true/\Xh T x=false/\Xh f x=false:=by
 obtain⟨t,a⟩:=Nat.exists_testBit_of_ne_zero h;have c:t<64:=by
  rcases mL t 64 with b | b
  ·exact b
  ·have:=Nat.testBit_lt_two_pow (aX (WR (S:=f) (T:=T) d i) (Nat.pow_le_pow_right vY b:2 ^ 64<=2 ^ t))
   rw[this]at a;cases a
 rw[WU e g _ c]at a;simp only[bY,lV]at a;refine⟨64*i+t,oM,?_,?_,?_⟩
 ·unfold Xh;rw[show(64*i+t) / 64=i by omega,show(64*i+t) % 64=t by omega];exact a.1.1
 ·unfold Xh;rw[show(64*i+t) / 64=i by omega,show(64*i+t) % 64=t by omega];exact a.1.2
 ·unfold Xh;rw[show(64*i+t) / 64=i by omega,show(64*i+t) % 64=t by omega];exact a.2
theorem un{T:Nat->Nat}(c:XA f)(d:XA T)(h:moreN f F T (n / 64)=0)(a:Xh F n=true)(b:Xh T n=false):Xh f n=true:=by
 have:=WU (O:=F) c d (n / 64) (dS n (show 0<64 by decide));rw[h,Nat.zero_testBit]at this;unfold Xh at *;rw[a,b]at this;cases hs:(f (n / 64)).testBit (n % 64)with
 | true=>rfl
 | false=>rw[hs]at this;cases this
def grewN(S O T:Nat->Nat)(K:Nat):Bool:=(List.range K).any fun i=>moreN S O T i != 0
theorem mi(S O T:Nat->Nat):grewN S O T 0=false:=rfl
theorem m6(S O T:Nat->Nat)(K:Nat):grewN S O T (K+1)=(grewN S O T K||(moreN S O T K != 0)):=by
 unfold grewN;rw[dN,List.any_append];simp
theorem yp{T:Nat->Nat}(c:XA f)(b:XA F)(d:XA T)(h:grewN f F T n=true):∃x,x<64*n/\Xh F x=true/\Xh T x=false/\Xh f x=false:=by
 obtain⟨i,e,g⟩:=List.any_eq_true.1 h;obtain⟨x,j,a⟩:=uU c b d i (by simpa using g);have:=bE.1 e;exact⟨x,oM,a⟩
theorem yW{T:Nat->Nat}(c:XA f)(d:XA T)(h:grewN f F T n=false)(e:m<64*n)(a:Xh F m=true)(b:Xh T m=false):Xh f m=true:=by
 refine un c d ?_ a b;have:=List.any_eq_false.1 h (m / 64) (bE.2 oM);simpa using this
def addsN(W:Nat->Nat)(a:List Nat):Nat->Nat:=a.foldl YH W
theorem VW{W:Nat->Nat}(h:n<s.length):addsN W (s.take (n+1))=YH (addsN W (s.take n)) s[n]:=by
 unfold addsN;rw[bN h,dT];rfl
theorem Zs:∀(a:List Nat){W:Nat->Nat},XA W->XA (addsN W a)
 | [],_,h=>h
 | t::a,_,h=>Zs a (ff h t)
theorem YR:∀(a:List Nat)(W:Nat->Nat)(y:Nat),Xh (addsN W a) y=(decide (y∈a)||Xh W y)
 | [],W,y=>by simp[addsN]
 | t::a,W,y=>by
  show Xh (addsN (YH W t) a) y=_;rw[YR a,Z8];by_cases b:y=t
  ·simp[b]
  ·by_cases c:y∈a<;>simp[b,c]
theorem nK{b:Bool}(h:r=b):Ending.returned (.bool r)=Ending.returned (.bool b):=by rw[h]
theorem dp(x:Nat):(x:Int).tdiv 64=((x / 64:Nat):Int):=by rw[fY oM];omega
theorem dh(x:Nat):(x:Int).tmod 64=((x % 64:Nat):Int):=by rw[eW oM];omega
theorem oJ(b:n<18446744073709551616):(bits .and .u64 ((n:Int) / 2 ^ m) 1==1)=n.testBit m:=by
 have hq:n / 2 ^ m<18446744073709551616:=iC (Nat.div_le_self _ _) b;have e:((n:Int) / 2 ^ m)=((n / 2 ^ m:Nat):Int):=sP;rw[e,show(1:Int)=((1:Nat):Int) from rfl,jH _ _ hq vY,Nat.and_one_is_mod,Nat.testBit_eq_decide_div_mod_eq];by_cases h:n / 2 ^ m % 2=1
 ·simp[h]
 ·have a:n / 2 ^ m % 2=0:=oM
  simp[a]
theorem je(c:m<64)(b:n<18446744073709551616):bits .or .u64 (n:Int) (IntKind.u64.wrap (2 ^ m))=((n ||| 2 ^ m:Nat):Int):=by
 have a:2 ^ m<18446744073709551616:=aX (lB vY c) vY;have e:IntKind.u64.wrap (2 ^ m)=((2 ^ m:Nat):Int):=by
  rw[iV];have:((2 ^ m:Nat):Int)=(2:Int) ^ m:=sP;rw[<-this];exact mB (kF _) (Int.ofNat_lt.2 a)
 rw[e,u64_or_nat _ _ b a]
def dfsV(tg:Nat->List Nat):Nat->Nat->(Nat->Nat) × List Nat->(Nat->Nat) × List Nat
 | 0,_,s=>s
 | m+1,b,s=>if Xh s.1 b=true then s else
  (((tg b).foldl (fun s t=>dfsV tg m t s) (YH s.1 b,s.2)).1,((tg b).foldl (fun s t=>dfsV tg m t s) (YH s.1 b,s.2)).2++[b])
def X8(a:List Xe)(b:Nat):List Nat:=match a[b]? with
 | some x=>x.te.tg.map Int.toNat
 | none=>[]
theorem Km{b:Nat}(h:b<x.length):X8 x b=x[b].te.tg.map Int.toNat:=by
 unfold X8;rw[aC h]
def XB(W:Nat->Nat)(n:Nat):Nat:=((List.range n).filter fun x=>!Xh W x).length
theorem JY(n:Nat)(h:∀x,Xh f x=true->Xh F x=true):XB F n<=XB f n:=by
 unfold XB;rw[<-gK,<-gK];refine List.countP_mono_left (fun x _ a=>?_);cases h1:Xh f x with
 | false=>rfl
 | true=>rw[h x h1]at a;cases a
theorem T8{b:Nat}(h:XB f n=0)(a:b<n):Xh f b=true:=by
 unfold XB at h;have:=mJ.1 (List.length_eq_zero_iff.1 h) b (bE.2 a);simpa using this
theorem Tb{W:Nat->Nat}{b:Nat}(f:b<n)(g:Xh W b=false):XB (YH W b) n+1<=XB W n:=by
 have i:∀n,XB (YH W b) n+(if b<n then 1 else 0)<=XB W n:=fun n=>by
  induction n with
  | zero=>simp[XB]
  | succ n a =>
   unfold XB at *;rw[dN,eU,eU,aQ,aQ];by_cases e:n=b
   ·subst e
    rw[aM oM]at a;rw[aU oM];have d:([n].filter fun x=>!Xh (YH W n) x).length=0:=by simp[Z8]
    have j:([n].filter fun x=>!Xh W x).length=1:=by simp[g]
    omega
   ·have d:([n].filter fun x=>!Xh (YH W b) x).length=([n].filter fun x=>!Xh W x).length:=by
     congr 1;refine lW (fun x h=>?_);have:x=n:=by simpa using h
     subst this;rw[Z8,dJ e,jV]
    by_cases c:b<n
    ·rw[aU c]at a;rw[aU oM];omega
    ·rw[aM c]at a;rw[aM oM];omega
 have:=i n;rw[aU f]at this;exact this
theorem KB(tg:Nat->List Nat):∀(m b:Nat)(s:(Nat->Nat) × List Nat)(x:Nat),Xh s.1 x=true->Xh (dfsV tg m b s).1 x=true
 | 0,_,_,_,h=>h
 | m+1,b,s,x,h=>by
  rw[dfsV];split
  ·exact h
  ·have c:∀(l:List Nat)(s:(Nat->Nat) × List Nat),Xh s.1 x=true->Xh (l.foldl (fun s t=>dfsV tg m t s) s).1 x=true:=fun l=>by
    induction l with
    | nil=>intro s h;exact h
    | cons t l a=>intro s h;exact a _ (KB tg m t s x h)
   exact c _ _ (by rw[Z8,h];simp)
theorem fg(tg:Nat->List Nat):∀(m b:Nat)(s:(Nat->Nat) × List Nat),XA s.1->XA (dfsV tg m b s).1
 | 0,_,_,h=>h
 | m+1,b,s,h=>by
  rw[dfsV];split
  ·exact h
  ·have c:∀(l:List Nat)(s:(Nat->Nat) × List Nat),XA s.1->XA (l.foldl (fun s t=>dfsV tg m t s) s).1:=fun l=>by
    induction l with
    | nil=>intro s h;exact h
    | cons t l a=>intro s h;exact a _ (fg tg m t s h)
   exact c _ _ (ff h b)
theorem Ue(tg:Nat->List Nat)(m:Nat)(l:List Nat)(s:(Nat->Nat) × List Nat)(x:Nat)(h:Xh s.1 x=true):Xh (l.foldl (fun s t=>dfsV tg m t s) s).1 x=true:=by
 induction l generalizing s with
 | nil=>exact h
 | cons t l a=>exact a _ (KB tg m t s x h)
theorem yX(tg:Nat->List Nat)(m:Nat)(l:List Nat)(s:(Nat->Nat) × List Nat)(h:XA s.1):XA (l.foldl (fun s t=>dfsV tg m t s) s).1:=by
 induction l generalizing s with
 | nil=>exact h
 | cons t l a=>exact a _ (fg tg m t s h)
theorem ja(tg:Nat->List Nat)(n:Nat)(a:∀b,b<n->∀t∈tg b,t<n):∀(m b:Nat)(s:(Nat->Nat) × List Nat),b<n->(dfsV tg m b s).2.length+XB (dfsV tg m b s).1 n<=s.2.length+XB s.1 n
 | 0,_,_,_=>aA _
 | m+1,b,s,hb=>by
  rw[dfsV];split
  ·exact aA _
  ·rename_i d
   have e:Xh s.1 b=false:=by simpa using d
   have j:=Tb hb e;have i:∀(l:List Nat)(s:(Nat->Nat) × List Nat),(∀t∈l,t<n)->(l.foldl (fun s t=>dfsV tg m t s) s).2.length+XB (l.foldl (fun s t=>dfsV tg m t s) s).1 n<=s.2.length+XB s.1 n:=fun l=>by
    induction l with
    | nil=>intro s _;exact aA _
    | cons t l g =>
     intro s h;exact aJ (g _ (fun x f=>h x (cN _ f))) (ja tg n a m t s (h t cI))
   have c:=i (tg b) (YH s.1 b,s.2) (a b hb);rw[aQ];dsimp only at c |-;simp only[bA,bO];omega
theorem xz(tg:Nat->List Nat)(n:Nat)(a:∀b,b<n->∀t∈tg b,t<n)(m:Nat)(l:List Nat)(s:(Nat->Nat) × List Nat)(h:∀t∈l,t<n):(l.foldl (fun s t=>dfsV tg m t s) s).2.length+XB (l.foldl (fun s t=>dfsV tg m t s) s).1 n<=s.2.length+XB s.1 n:=by
 induction l generalizing s with
 | nil=>exact aA _
 | cons t l d=>exact aJ (d _ (fun x c=>h x (cN _ c))) (ja tg n a m t s (h t cI))
theorem dx{tg:Nat->List Nat}{b:Nat}{s:(Nat->Nat) × List Nat}(h:Xh s.1 b=false):dfsV tg (m+1) b s=(((tg b).foldl (fun s t=>dfsV tg m t s) (YH s.1 b,s.2)).1,((tg b).foldl (fun s t=>dfsV tg m t s) (YH s.1 b,s.2)).2++[b]):=by
 rw[dfsV,aM (by rw[h];decide)]
theorem Vd{tg:Nat->List Nat}{b:Nat}{s:(Nat->Nat) × List Nat}(h:Xh s.1 b=true):dfsV tg n b s=s:=by
 cases n with
 | zero=>rfl
 | succ n=>rw[dfsV,aU h]
inductive Sp (I:Nat->Nat->Nat) (T:Nat->Nat->Nat) (ord:Nat->Prop) (src:Nat->List Nat):Nat->Nat->Prop
 | init {b x:Nat}:Xh (I b) x=true->Sp I T ord src b x
 | take {b s x:Nat}:ord b->s∈src b->Sp I T ord src s x->Xh (T b) x=false->Sp I T ord src b x
def ZB(T:Nat->Nat->Nat)(b s:Nat)(W:Nat->Nat->Nat):Nat->Nat->Nat:=fun i=>if i=b then butN (W b) (W s) (T b)else W i
def takesN(T:Nat->Nat->Nat)(K b:Nat)(l:List Nat)(s:(Nat->Nat->Nat) × Bool):(Nat->Nat->Nat) × Bool :=
 l.foldl (fun s t=>(ZB T b t s.1,grewN (s.1 b) (s.1 t) (T b) K||s.2)) s
theorem lm{T:Nat->Nat->Nat}{K b:Nat}(h:n<s.length)(a:(Nat->Nat->Nat) × Bool):takesN T K b (s.take (n+1)) a=(ZB T b s[n] (takesN T K b (s.take n) a).1,grewN ((takesN T K b (s.take n) a).1 b) ((takesN T K b (s.take n) a).1 s[n]) (T b) K||(takesN T K b (s.take n) a).2):=by
 unfold takesN;rw[bN h,dT];rfl
def XQ(W:Nat->Nat->Nat):Prop:=∀i,XA (W i)
theorem Uc(b s:Nat)(h:XQ N):XQ (ZB M b s N):=fun i=>by
 unfold ZB;split
 ·exact jz (h b) (h s)
 ·exact h i
theorem Ts(b s:Nat)(h:XQ N)(a:XQ M)(i x:Nat):Xh (ZB M b s N i) x=(Xh (N i) x||(decide (i=b)&&Xh (N s) x && !Xh (M b) x)):=by
 unfold ZB;by_cases e:i=b
 ·subst e
  rw[aU rfl,qm (h i) (a i)];simp
 ·rw[aM e];simp[e]
theorem TG{T:Nat->Nat->Nat}{K b:Nat}:∀(l:List Nat)(s:(Nat->Nat->Nat) × Bool),XQ s.1->XQ (takesN T K b l s).1
 | [],_,h=>h
 | t::l,_,h=>TG l _ (Uc b t h)
theorem JJ{T:Nat->Nat->Nat}{K b:Nat}(a:XQ T):∀(l:List Nat)(s:(Nat->Nat->Nat) × Bool),XQ s.1->∀i x,Xh (s.1 i) x=true->Xh ((takesN T K b l s).1 i) x=true
 | [],_,_,_,_,h=>h
 | t::l,s,hs,i,x,h=>JJ a l _ (Uc b t hs) i x (by show Xh (ZB T b t s.1 i) x=true;rw[Ts b t hs a,h];rfl)
theorem T9{I T:Nat->Nat->Nat}{K b:Nat}{ord:Nat->Prop}{src:Nat->List Nat}(c:XQ T)(d:ord b):∀(l:List Nat)(s:(Nat->Nat->Nat) × Bool),XQ s.1->(∀t∈l,t∈src b)->(∀i x,Xh (s.1 i) x=true->Sp I T ord src i x)->∀i x,Xh ((takesN T K b l s).1 i) x=true->Sp I T ord src i x
 | [],_,_,_,h=>h
 | t::l,s,hs,hl,h=>T9 c d l _ (Uc b t hs) (fun u g=>hl u (cN _ g)) (fun i x j=>by
  have a:Xh (ZB T b t s.1 i) x=true:=j;rw[Ts b t hs c]at a;cases hi:Xh (s.1 i) x with
  | true=>exact h i x hi
  | false =>
   rw[hi]at a;simp only[jV,bY,bD,lV]at a;obtain⟨⟨rfl,e⟩,f⟩:=a;exact Sp.take d (hl t cI) (h t x e) f)
theorem WW{T:Nat->Nat->Nat}{K b:Nat}:∀(l:List Nat)(s:(Nat->Nat->Nat) × Bool),s.2=true->(takesN T K b l s).2=true
 | [],_,h=>h
 | t::l,s,h=>WW l _ (by show(_||s.2)=true;rw[h];simp)
theorem T6{T:Nat->Nat->Nat}{K b:Nat}(f:XQ T):∀(l:List Nat)(s:(Nat->Nat->Nat) × Bool),XQ s.1->(takesN T K b l s).2=false->(∀i x,x<64*K->Xh ((takesN T K b l s).1 i) x=Xh (s.1 i) x)/\∀t∈l,∀x,x<64*K->Xh (s.1 t) x=true->Xh (T b) x=false->Xh (s.1 b) x=true
 | [],_,_,_=>⟨fun _ _ _=>rfl,fun t p=>by cases p⟩
 | t::l,s,hs,hq=>by
  have k:(grewN (s.1 b) (s.1 t) (T b) K||s.2)=false:=by
   cases e:(grewN (s.1 b) (s.1 t) (T b) K||s.2)with
   | false=>rfl
   | true=>have:=WW (T:=T) (K:=K) (b:=b) l (ZB T b t s.1,grewN (s.1 b) (s.1 t) (T b) K||s.2) e;rw[show takesN T K b (t::l) s=takesN T K b l (ZB T b t s.1,grewN (s.1 b) (s.1 t) (T b) K||s.2) from rfl,this]at hq;cases hq
  have o:grewN (s.1 b) (s.1 t) (T b) K=false:=by
   cases e:grewN (s.1 b) (s.1 t) (T b) K with
   | false=>rfl
   | true=>rw[e]at k;cases k
  have j:∀x,x<64*K->Xh (s.1 t) x=true->Xh (T b) x=false->Xh (s.1 b) x=true:=fun x a c d=>yW (hs b) (f b) o a c d
  have g:∀i x,x<64*K->Xh (ZB T b t s.1 i) x=Xh (s.1 i) x:=fun i x a=>by
   rw[Ts b t hs f];by_cases e:i=b
   ·subst e
    cases c:Xh (s.1 t) x with
    | false=>simp
    | true =>
     cases d:Xh (T i) x with
     | true=>simp
     | false=>rw[j x a c d];rfl
   ·simp[e]
  obtain⟨c,d⟩:=T6 f l (ZB T b t s.1,grewN (s.1 b) (s.1 t) (T b) K||s.2) (Uc b t hs) hq;refine⟨fun i x a=>(c i x a).trans (g i x a),fun u h x a n m=>?_⟩;rcases cH.1 h with rfl | h
  ·exact j x a n m
  ·have:=d u h x a (by rw[g u x a];exact n) m
   rw[g b x a]at this;exact this
theorem UB{T:Nat->Nat->Nat}{K b:Nat}(a:XQ T):∀(l:List Nat)(s:(Nat->Nat->Nat) × Bool),XQ s.1->s.2=false->(takesN T K b l s).2=true->XB ((takesN T K b l s).1 b) (64*K)<XB (s.1 b) (64*K)
 | [],s,_,h0,h1=>by rw[show takesN T K b [] s=s from rfl,h0]at h1;cases h1
 | t::l,s,hs,h0,h1=>by
  cases hg:grewN (s.1 b) (s.1 t) (T b) K with
  | false =>
   have f:takesN T K b (t::l) s=takesN T K b l (ZB T b t s.1,false):=by show takesN T K b l (ZB T b t s.1,grewN (s.1 b) (s.1 t) (T b) K||s.2)=_;rw[hg,h0];rfl
   rw[f]at h1 |-;refine aX (UB a l (ZB T b t s.1,false) (Uc b t hs) rfl h1) ?_;exact JY _ (fun x e=>by show Xh (ZB T b t s.1 b) x=true;rw[Ts b t hs a,e];rfl)
  | true =>
   obtain⟨x,e,g,h,i⟩:=yp (hs b) (hs t) (a b) hg;have m:∀c:Nat->Nat,(∀y,Xh (s.1 b) y=true->Xh c y=true)->Xh c x=true->XB c (64*K)<XB (s.1 b) (64*K):=fun c j k=>by
    have n:=Tb e i;have o:XB c (64*K)<=XB (YH (s.1 b) x) (64*K):=JY _ (fun y d=>by
     rw[Z8]at d;cases hyx:decide (y=x)with
     | true=>rw[fV hyx];exact k
     | false=>rw[hyx,jV]at d;exact j y d)
    omega
   refine m _ (fun y d=>JJ a (t::l) s hs b y d) ?_;refine JJ a l (ZB T b t s.1,grewN (s.1 b) (s.1 t) (T b) K||s.2) (Uc b t hs) b x ?_;show Xh (ZB T b t s.1 b) x=true;rw[Ts b t hs a,g,h];simp
theorem TN{T:Nat->Nat->Nat}{K b i:Nat}(h:i≠b):∀(l:List Nat)(s:(Nat->Nat->Nat) × Bool),(takesN T K b l s).1 i=s.1 i
 | [],_=>rfl
 | t::l,s=>(TN h l _).trans (by show ZB T b t s.1 i=_;unfold ZB;rw[aM h])
theorem We{W:Nat->Nat->Nat}(e:∀b x,Xh (M b) x=true->Xh (W b) x=true)(f:∀b x,Xh (W b) x=true->Sp M N d D b x)(c:∀b,d b->∀t∈D b,∀x,x<64*n->Xh (W t) x=true->Xh (N b) x=false->Xh (W b) x=true)(b x:Nat)(a:x<64*n):Xh (W b) x=true↔Sp M N d D b x:=by
 refine⟨f b x,fun h=>?_⟩
 induction h with
 | init h=>exact e _ _ h
 | take g i _ j k=>exact c _ g _ i _ a (k a) j
theorem Vl(n:Nat)(h:∀x,x<n->Xh F x=Xh f x):XB F n=XB f n:=by
 unfold XB;congr 1;exact lW (fun x a=>by rw[h x (bE.1 a)])
def JI(W:Nat->Nat->Nat)(K:Nat):Nat->Nat
 | 0=>0
 | n+1=>JI W K n+XB (W n) (64*K)
theorem Vo{W a:Nat->Nat->Nat}{K:Nat}:∀n,(∀i,i<n->XB (a i) (64*K)=XB (W i) (64*K))->JI a K n=JI W K n
 | 0,_=>rfl
 | n+1,h=>by rw[JI,JI,Vo n (fun i b=>h i oM),h n oM]
theorem ig{W a:Nat->Nat->Nat}{K b:Nat}(c:∀i,i≠b->a i=W i)(d:XB (a b) (64*K)<XB (W b) (64*K)):∀n,b<n->JI a K n<JI W K n
 | 0,h=>absurd h oM
 | n+1,h=>by
  rw[JI,JI];by_cases e:n=b
  ·subst e
   rw[Vo n (fun i f=>by rw[c i oM])];omega
  ·rw[c n e]
   have:=ig c d n oM;omega
def ClB(T:Nat->Nat->Nat)(K:Nat)(a:Nat->List Nat)(W:Nat->Nat->Nat)(b:Nat):Prop:=∀t∈a b,∀x,x<64*K->Xh (W t) x=true->Xh (T b) x=false->Xh (W b) x=true
theorem yV{a:Nat->Nat->Nat}{b:Nat}(h:ClB M n D N b)(e:∀i x,x<64*n->Xh (a i) x=Xh (N i) x):ClB M n D a b:=fun t g x d c f=>by
 rw[e _ _ d]at c |-;exact h t g x d c f
def ClQ(T:Nat->Nat->Nat)(K:Nat)(a:Nat->List Nat)(W:Nat->Nat->Nat)(R:List Nat)(q p:Nat):Prop:=∀j,j<q->ClB T K a W (R.getD ((p+R.length-1-j) % R.length) 0)
theorem Vz:ClQ M n D N s 0 m:=fun j a=>absurd a oM
theorem pG{a:Nat->Nat->Nat}(h:ClQ M n D N s m k)(e:∀i x,x<64*n->Xh (a i) x=Xh (N i) x)(b:k<s.length)(c:ClB M n D N s[k]):ClQ M n D a s (m+1) (k+1):=fun j d=>by
 refine yV ?_ e;cases j with
 | zero =>
  have:(k+1+s.length-1-0) % s.length=k:=by
   rw[show k+1+s.length-1-0=k+s.length by omega,kH,jM b]
  rw[this,show s.getD k 0=s[k] by simp[b]];exact c
 | succ j =>
  rw[show k+1+s.length-1-(j+1)=k+s.length-1-j by omega];exact h j oM
theorem pf(h:ClQ M n D N s m s.length)(hq:m<s.length):ClQ M n D N s m 0:=fun j a=>by
 have:=h j a;rw[show s.length+s.length-1-j=(0+s.length-1-j)+s.length by omega,kH]at this;exact this
theorem qo(h:ClQ M n D N s s.length m)(f:m<=s.length){b:Nat}(c:b∈s):ClB M n D N b:=by
 obtain⟨i,a,rfl⟩:=bR c;have d:(m+s.length-1-(m+s.length-1-i) % s.length) % s.length=i:=by
  by_cases e:i+1<=m
  ·have e1:(m+s.length-1-i) % s.length=m-1-i:=by
    rw[show m+s.length-1-i=(m-1-i)+s.length by omega,kH,jM oM]
   rw[e1,show m+s.length-1-(m-1-i)=i+s.length by omega,kH,jM a]
  ·have e1:(m+s.length-1-i) % s.length=m+s.length-1-i:=jM oM
   rw[e1,show m+s.length-1-(m+s.length-1-i)=i by omega,jM a]
 have:=h ((m+s.length-1-i) % s.length) (dS _ oM);rw[d,show s.getD i 0=s[i] by simp[a]]at this;exact this
section
inductive Av (tg:Nat->List Nat) (a:Nat):Nat->Prop
 | root:a≠0->Av tg a 0
 | step {b t:Nat}:Av tg a b->t∈tg b->t≠a->Av tg a t
inductive Re (tg:Nat->List Nat):Nat->Prop
 | root:Re tg 0
 | step {b t:Nat}:Re tg b->t∈tg b->Re tg t
structure JO(tg:Nat->List Nat)(a b:Nat):Prop where
 ra:Re tg a
 rb:Re tg b
 no:¬Av tg a b
variable {tg : Nat -> List Nat}
theorem j7{a b:Nat}(h:Av tg a b):Re tg b:=by
 induction h with
 | root=>exact Re.root
 | step _ c _ d=>exact Re.step d c
theorem rr{a b:Nat}(h:Av tg a b):b≠a:=by
 cases h with
 | root h=>exact fun e=>h e.symm
 | step _ _ h=>exact h
theorem Zd{b:Nat}(h:Re tg b):JO tg b b:=⟨h,h,fun e=>rr e rfl⟩
theorem vN{b:Nat}(h:Re tg b):JO tg 0 b:=⟨Re.root,h,fun e=>by
 have:∀{c},Av tg 0 c->False:=fun a=>by
  induction a with
  | root h=>exact h rfl
  | step _ _ _ d=>exact d
 exact this e⟩
theorem AT{x a b:Nat}(i:Av tg x b)(f:¬Av tg a b):Av tg x a:=by
 induction i with
 | root c =>
  have:a=0:=dQ (fun e=>f (Av.root e));rw[this];exact Av.root c
 | @step h t j g c k =>
  by_cases d:Av tg a h
  ·have:t=a:=dQ (fun e=>f (Av.step d g e))
   rw[<-this];exact Av.step j g c
  ·exact k d
theorem J8{a b c:Nat}(h:JO tg a b)(k:JO tg b c):JO tg a c:=⟨h.ra,k.rb,fun e=>h.no (AT e k.no)⟩
theorem wX{a b:Nat}(f:a≠b){c:Nat}(h:Re tg c):(Av tg a c/\Av tg b c)\/Av tg b a\/Av tg a b:=by
 induction h with
 | root =>
  by_cases ha:a=0
  ·subst ha;exact aZ (bC (Av.root (fun e=>f e.symm)))
  ·by_cases j:b=0
   ·subst j;exact aZ (aZ (Av.root ha))
   ·exact bC ⟨Av.root ha,Av.root j⟩
 | @step c t _ d k =>
  rcases k with⟨h1,h2⟩ | h | h
  ·by_cases g:t=a
   ·subst g;exact aZ (bC (Av.step h2 d f))
   ·by_cases i:t=b
    ·subst i;exact aZ (aZ (Av.step h1 d (fun e=>f e.symm)))
    ·exact bC ⟨Av.step h1 d g,Av.step h2 d i⟩
  ·exact aZ (bC h)
  ·exact aZ (aZ h)
theorem Z1{a b:Nat}(h:JO tg a b)(k:JO tg b a):a=b:=dQ (fun e=>by
 rcases wX e h.rb with⟨_,h2⟩ | h2 | h2
 ·exact rr h2 rfl
 ·exact k.no h2
 ·exact h.no h2)
inductive Sf (tg:Nat->List Nat) (a b x:Nat):Nat->Prop
 | here:Sf tg a b x x
 | step {c t:Nat}:Sf tg a b x c->t∈tg c->t≠a->t≠b->Sf tg a b x t
theorem pX{a b c:Nat}(h:Re tg c):(Av tg a c/\Av tg b c)\/Sf tg a b a c\/Sf tg a b b c:=by
 induction h with
 | root =>
  by_cases ha:a=0
  ·subst ha;exact aZ (bC Sf.here)
  ·by_cases g:b=0
   ·subst g;exact aZ (aZ Sf.here)
   ·exact bC ⟨Av.root ha,Av.root g⟩
 | @step c t _ f i =>
  by_cases d:t=a
  ·subst d;exact aZ (bC Sf.here)
  ·by_cases e:t=b
   ·subst e;exact aZ (aZ Sf.here)
   ·rcases i with⟨h1,h2⟩ | h | h
    ·exact bC ⟨Av.step h1 f d,Av.step h2 f e⟩
    ·exact aZ (bC (Sf.step h f d e))
    ·exact aZ (aZ (Sf.step h f d e))
theorem j4{a b x c y:Nat}(h:Sf tg a b x c)(i:y=a\/y=b)(g:Av tg y x):Av tg y c:=by
 induction h with
 | here=>exact g
 | step _ f d e j=>exact Av.step j f (by rcases i with rfl | rfl;exact d;exact e)
theorem TY{a b c:Nat}(h:JO tg a c)(k:JO tg b c):JO tg a b\/JO tg b a:=by
 rcases pX (a:=a) (b:=b) h.rb with⟨h1,_⟩ | h1 | h1
 ·exact absurd h1 h.no
 ·exact aZ ⟨k.ra,h.ra,fun e=>k.no (j4 h1 (aZ rfl) e)⟩
 ·exact bC ⟨h.ra,k.ra,fun e=>h.no (j4 h1 (bC rfl) e)⟩
theorem B4{n:Nat}{I T:Nat->Nat->Nat}{q:Nat->Prop}{r:Nat->List Nat}(j:∀b x,x<n->(Xh (I b) x=true↔b=0/\x≠0))(k:∀b x,x<n->b<n->(Xh (T b) x=true↔x=b))(o:∀b,q b↔Re tg b)(d:∀b,Re tg b->b<n)(p:∀b s,b<n->(s∈r b↔s<n/\b∈tg s)){b x:Nat}(c:x<n):Sp I T q r b x↔Av tg x b:=by
 constructor
 ·intro h
  induction h with
  | init h =>
   obtain⟨rfl,u⟩:=(j _ _ c).1 h;exact Av.root u
  | @take b s x f w _ a i =>
   have l:=d b ((o b).1 f);refine Av.step (i c) ((p b s l).1 w).2 (fun e=>?_);have:=(k b x c l).2 e.symm;rw[this]at a;cases a
 ·intro h
  induction h with
  | root h=>exact Sp.init ((j 0 x c).2 ⟨rfl,h⟩)
  | @step b t f a v i =>
   have m:=j7 f;have g:=Re.step m a;refine Sp.take ((o t).2 g) ((p t b (d t g)).2 ⟨d b m,a⟩) i ?_;cases e:Xh (T t) x with
   | false=>rfl
   | true=>exact absurd ((k t x c (d t g)).1 e) (fun e=>v e.symm)
end
section
variable {tg : Nat -> List Nat}
def Bef(l:List Nat)(x c:Nat):Prop:=∃a b,l=a++b/\x∈a/\c∈b
theorem zO{l r:List Nat}{x a:Nat}(h:Bef l x a):Bef (l++r) x a:=by
 obtain⟨d,e,rfl,b,c⟩:=h;exact⟨d,e++r,sP,b,by simp[c]⟩
theorem yv{l:List Nat}{x b:Nat}(h:x∈l):Bef (l++[b]) x b:=⟨l,[b],rfl,h,sP⟩
def Stk(tg:Nat->List Nat)(P:List Nat)(b:Nat):Prop:=∀a,JO tg a b->a≠b->a∈P
theorem xI:Stk tg [] 0:=fun _ h a=>absurd (Av.root a) h.no
theorem yK{P:List Nat}{b t:Nat}(h:Stk tg P b)(c:Re tg b)(f:t∈tg b):Stk tg (b::P) t:=fun a ha d=>by
 by_cases e:a=b
 ·rw[e];exact cI
 ·exact cN _ (h a ⟨ha.ra,c,fun k=>ha.no (Av.step k f (fun e2=>d e2.symm))⟩ e)
structure an(tg:Nat->List Nat)(P:List Nat)(s:(Nat->Nat) × List Nat):Prop where
 seen:∀x∈s.2,Xh s.1 x=true
 nd:s.2.Nodup
 all:∀x,Xh s.1 x=true->x∈s.2\/x∈P
 stk:∀x∈P,x ∉ s.2/\Xh s.1 x=true
 ord:∀x∈s.2,∀a,JO tg a x->a≠x->a∈P\/Bef s.2 x a
 re:∀x∈s.2,Re tg x
 cl:∀x∈s.2,∀t∈tg x,Xh s.1 t=true
theorem uv{P:List Nat}{s:(Nat->Nat) × List Nat}{b:Nat}(h:an tg P s)(d:Xh s.1 b=false):an tg (b::P) (YH s.1 b,s.2):=by
 have mono:∀x,Xh s.1 x=true->Xh (YH s.1 b) x=true:=fun x a=>by rw[Z8,a];simp
 refine⟨fun x a=>mono x (h.seen x a),h.nd,fun x a=>?_,fun x a=>?_,fun x a f ha g=>?_,h.re,fun x a t i=>mono t (h.cl x a t i)⟩
 ·rw[Z8]at a
  by_cases e:x=b
  ·exact aZ (by rw[e];exact cI)
  ·rw[dJ e,jV]at a
   rcases h.all x a with c | c
   ·exact bC c
   ·exact aZ (cN _ c)
 ·rcases cH.1 a with rfl | a
  ·exact⟨fun k=>(by rw[h.seen _ k]at d;cases d),by rw[Z8];simp⟩
  ·exact⟨(h.stk x a).1,mono x (h.stk x a).2⟩
 ·rcases h.ord x a f ha g with c | c
  ·exact bC (cN _ c)
  ·exact aZ c
theorem yo{P:List Nat}{s:(Nat->Nat) × List Nat}{b:Nat}(h:an tg (b::P) s)(m:b ∉ P)(o:Re tg b)(p:Stk tg P b)(n:∀t∈tg b,Xh s.1 t=true):an tg P (s.1,s.2++[b]):=by
 have g:=h.stk b cI;refine⟨fun x c=>?_,?_,fun x c=>?_,fun x c=>?_,fun x c f ha i=>?_,fun x c=>?_,fun x c t e=>?_⟩
 ·rcases bU.1 c with a | a
  ·exact h.seen x a
  ·have:x=b:=by simpa using a
   rw[this];exact g.2
 ·rw[gW]
  refine⟨h.nd,sP,fun x c y q l=>?_⟩;have:y=b:=by simpa using q
  rw[l,this]at c;exact g.1 c
 ·rcases h.all x c with a | a
  ·exact bC (dD _ a)
  ·rcases cH.1 a with rfl | a
   ·exact bC sP
   ·exact aZ a
 ·have j:=h.stk x (cN _ c)
  refine⟨fun k=>?_,j.2⟩;rcases bU.1 k with k | k
  ·exact j.1 k
  ·have:x=b:=by simpa using k
   rw[this]at c;exact m c
 ·rcases bU.1 c with a | a
  ·rcases h.ord x a f ha i with d | d
   ·rcases cH.1 d with rfl | d
    ·exact aZ (yv a)
    ·exact bC d
   ·exact aZ (zO d)
  ·have:x=b:=by simpa using a
   subst this;exact bC (p f ha i)
 ·rcases bU.1 c with a | a
  ·exact h.re x a
  ·have:x=b:=by simpa using a
   rw[this];exact o
 ·rcases bU.1 c with a | a
  ·exact h.cl x a t e
  ·have:x=b:=by simpa using a
   rw[this]at e;exact n t e
theorem o8{n:Nat}(h:∀b,b<n->∀t∈tg b,t<n):∀(m b:Nat)(s:(Nat->Nat) × List Nat)(P:List Nat),b<n->XB s.1 n<=m->Re tg b->Stk tg P b->an tg P s->an tg P (dfsV tg m b s)/\Xh (dfsV tg m b s).1 b=true
 | 0,b,s,P,hb,a,_,_,hi=>⟨hi,T8 (n:=n) (Nat.le_zero.1 a) hb⟩
 | m+1,b,s,P,hb,a,hr,hs,hi=>by
  cases hh:Xh s.1 b with
  | true=>rw[Vd hh];exact⟨hi,hh⟩
  | false =>
   rw[dx hh];have j:b ∉ P:=fun p=>by rw[(hi.stk b p).2]at hh;cases hh
   have w:=Tb hb hh;have v:∀(l:List Nat)(s1:(Nat->Nat) × List Nat),(∀t∈l,t∈tg b)->XB s1.1 n<=m->an tg (b::P) s1->an tg (b::P) (l.foldl (fun s t=>dfsV tg m t s) s1)/\∀t∈l,Xh (l.foldl (fun s t=>dfsV tg m t s) s1).1 t=true:=fun l=>by
    induction l with
    | nil=>intro s1 _ _ d;exact⟨d,fun t c=>by cases c⟩
    | cons t l o =>
     intro s1 g d i;have c:=g t cI;obtain⟨e,f⟩:=o8 h m t s1 (b::P) (h b hb t c) d (Re.step hr c) (yK hs hr c) i;obtain⟨q,r⟩:=o (dfsV tg m t s1) (fun u a=>g u (cN _ a)) (aJ (JY n (fun x k=>KB tg m t s1 x k)) d) e;refine⟨q,fun u a=>?_⟩;rcases cH.1 a with rfl | a
     ·exact Ue tg m l _ _ f
     ·exact r u a
   obtain⟨e,f⟩:=v (tg b) (YH s.1 b,s.2) (fun t c=>c) (by show XB (YH s.1 b) n<=m;omega) (uv hi hh);refine⟨yo e j hr hs f,?_⟩;exact Ue tg m (tg b) (YH s.1 b,s.2) b (by show Xh (YH s.1 b) b=true;rw[Z8];simp)
theorem ZA(W:Nat->Nat)(n:Nat):XB W n<=n:=aJ (fJ _ _) sP
theorem Aj{n:Nat}(l:∀b,b<n->∀t∈tg b,t<n)(g:0<n){m:Nat}(k:n<=m) :
 (∀x,x∈(dfsV tg m 0 (fun _=>0,[])).2↔Re tg x)/\(∀x,Xh (dfsV tg m 0 (fun _=>0,[])).1 x=true↔Re tg x)/\(dfsV tg m 0 (fun _=>0,[])).2.Nodup/\∀x d,JO tg d x->d≠x->Bef (dfsV tg m 0 (fun _=>0,[])).2 x d:=by
 have j:an tg [] (fun _=>0,[]):=⟨fun x a=>(by cases a),iU,fun x a=>(by rw[Z3]at a;cases a),fun x a=>(by cases a),fun x a=>(by cases a),fun x a=>(by cases a),fun x a=>(by cases a)⟩;obtain⟨c,i⟩:=o8 l m 0 (fun _=>0,[]) [] g (aJ (ZA _ _) k) Re.root xI j;generalize dfsV tg m 0 (fun _=>0,[])=s at *;have e:∀x,Xh s.1 x=true->x∈s.2:=fun x a=>by
  rcases c.all x a with h | h
  ·exact h
  ·cases h
 have f:∀x,Re tg x->Xh s.1 x=true:=fun x a=>by
  induction a with
  | root=>exact i
  | step _ p q=>exact c.cl _ (e _ q) _ p
 refine⟨fun x=>⟨c.re x,fun h=>e x (f x h)⟩,fun x=>⟨fun h=>c.re x (e x h),f x⟩,c.nd,fun x d ha o=>?_⟩;rcases c.ord x (e x (f x ha.rb)) d ha o with h | h
 ·cases h
 ·exact h
end
section
variable {tg : Nat -> List Nat}
structure Idm(tg:Nat->List Nat)(a b:Nat):Prop where
 dom:JO tg a b
 ne:a≠b
 near:∀c,JO tg c b->c≠b->JO tg c a
theorem An{a c b:Nat}(h:Idm tg a b)(k:Idm tg c b):a=c:=Z1 (k.near a h.dom h.ne) (h.near c k.dom k.ne)
theorem sS{l:List Nat}{x a:Nat}(h:Bef l x a):Bef l.reverse a x:=by
 obtain⟨d,e,rfl,b,c⟩:=h;exact⟨e.reverse,d.reverse,sP,by simpa using c,by simpa using b⟩
theorem ij{l:List Nat}(d:l.Nodup){i:Nat}(j:i<l.length){x:Nat}(h:Bef l x l[i]):x∈l.take i:=by
 obtain⟨a,n,e,f,g⟩:=h;have k:a.length<=i:=Nat.le_of_not_lt (fun b=>by
  have m:l[i]∈a:=by
   have:l[i]=a[i]:=by
    have c:l[i]?=(a++n)[i]?:=by rw[<-e]
    rw[aC j,dL b,aC b]at c;injection c
   rw[this];exact aH b
  rw[e,gW]at d;exact d.2.2 _ m _ g rfl)
 rw[e,List.take_append];rw[aW k];exact dD _ f
theorem wH{l:List Nat}{p:Nat->Bool}{a:Nat}(h:l.reverse.find? p=some a):p a=true/\a∈l/\∀c∈l,p c=true->c=a\/Bef l c a:=by
 rw[List.find?_eq_some_iff_append]at h;obtain⟨m,f,g,j,k⟩:=h;have b:l=g.reverse++[a]++f.reverse:=by
  have:=fI List.reverse j;simpa using this
 refine⟨m,by rw[b];simp,fun c i n=>?_⟩;rw[b]at i;rcases bU.1 i with d | d
 ·rcases bU.1 d with e | e
  ·exact aZ ⟨g.reverse,[a]++f.reverse,by rw[b,cK],e,sP⟩
  ·exact bC (by simpa using e)
 ·have:=k c (by simpa using d)
  rw[n]at this;cases this
theorem vy{o:List Nat}(d:o.Nodup)(z:∀x,x∈o↔Re tg x)(B:∀x a,JO tg a x->a≠x->Bef o a x){i:Nat}(t:i<o.length){p:Nat->Bool}(C:∀a∈o,p a=true↔¬Av tg a o[i]) :
 match (o.take i).reverse.find? p with
 | some a=>Idm tg a o[i]
 | none=>∀c,JO tg c o[i]->c=o[i]:=by
 have S:=(z _).1 (aH t);have s:∀a,a∈o->(p a=true↔JO tg a o[i]):=fun a ha=>⟨fun n=>⟨(z a).1 ha,S,(C a ha).1 n⟩,fun n=>(C a ha).2 n.no⟩
 have aa:(o.take i).Nodup:=d.sublist (List.take_sublist _ _);have y:∀c,JO tg c o[i]->c≠o[i]->c∈o.take i:=fun c b h=>ij d t (B o[i] c b h)
 have Z:o[i] ∉ o.take i:=fun k=>by
  have e:=(hH i o).symm;have W:o[i]∈o.drop i:=by rw[gZ t];exact cI
  rw[e,gW]at d;exact d.2.2 _ k _ W rfl
 cases hf:(o.take i).reverse.find? p with
 | some a =>
  obtain⟨L,r,M⟩:=wH hf;have R:=iO r;have l:=(s a R).1 L;have Q:a≠o[i]:=fun e=>Z (by rw[<-e];exact r)
  refine⟨l,Q,fun c b h=>?_⟩;have f:=y c b h;rcases M c f ((s c (iO f)).2 b)with e | T
  ·rw[e];exact Zd l.ra
  ·by_cases v:c=a
   ·rw[v];exact Zd l.ra
   ·rcases TY b l with k | k
    ·exact k
    ·-- a dominates c: then a stands ahead of c
     exfalso;have N:=B c a k (fun e=>v e.symm);have V:=bR r;obtain⟨j,X,H⟩:=V;have u:j<o.length:=by rw[dH]at X;omega
     have m:o[j]=a:=by rw[<-H,jG]
     have O:c∈o.take j:=by
      have U:Bef o c o[j]:=by
       rw[m];obtain⟨l1,l2,e,k1,k2⟩:=T;exact⟨l1,l2++o.drop i,by rw[<-cK,<-e,hH],k1,dD _ k2⟩
      exact ij d u U
     obtain⟨G,A,I⟩:=bR O;have Y:G<o.length:=by rw[dH]at A;omega
     have J:o[G]=c:=by rw[<-I,jG]
     have P:=ij d Y (by rw[J];exact N);obtain⟨q,E,K⟩:=bR P;have D:q<o.length:=by rw[dH]at E;omega
     have w:o[q]=a:=by rw[<-K,jG]
     have ab:q=j:=by
      have F:=gY.1 (show o.Pairwise (·≠·) from d);rcases mA q j with g | g | g
      ·exact absurd (w.trans m.symm) (F q j D u g)
      ·exact g
      ·exact absurd (m.trans w.symm) (F j q u D g)
     rw[dH]at A E;omega
 | none =>
  intro c b;refine dQ (fun h=>?_);have f:=y c b h;have:=lS.1 hf c (by simpa using f);exact this ((s c (iO f)).2 b)
def bestP(d:Nat->Nat)(b:Nat)(e:List Nat):Option Nat:=e.foldl (fun c a=>if a≠b/\(c=none\/∃k,c=some k/\d a > d k)then some a else c) none
theorem ue{d:Nat->Nat}{b:Nat}{e:List Nat}(h:∀a∈e,a=b):bestP d b e=none:=by
 unfold bestP;have i:∀(l:List Nat),(∀a∈l,a=b)->l.foldl (fun c a=>if a≠b/\(c=none\/∃k,c=some k/\d a > d k)then some a else c) none=none:=fun l=>by
  induction l with
  | nil=>intro _;rfl
  | cons a l g =>
   intro h;rw[iM,aM (fun k=>k.1 (h a cI))];exact g (fun x f=>h x (cN _ f))
 exact i e h
theorem ut{e:Nat->Nat}{a b:Nat}{m:List Nat}(ha:a∈m)(w:a≠b)(v:∀c∈m,c≠b->c≠a->e c<e a):bestP e b m=some a:=by
 unfold bestP;have y:∀(l:List Nat)(d:Option Nat),(∀c∈l,c≠b->c≠a->e c<e a)->(d=none\/∃k,d=some k/\(k=a\/e k<e a))->(d=some a\/a∈l)->l.foldl (fun d a=>if a≠b/\(d=none\/∃k,d=some k/\e a > e k)then some a else d) d=some a:=fun l=>by
  induction l with
  | nil =>
   intro d _ _ h;rcases h with h | h
   ·exact h
   ·cases h
  | cons c l p =>
   intro d t j h;rw[iM];have o:=fun z x=>t z (cN _ x)
   by_cases q:c=a
   ·subst q
    by_cases s:d=some c
    ·subst s
     rw[aM (fun k=>by rcases k.2 with k | ⟨r,f,g⟩;cases k;injection f with f;rw[f]at g;omega)];exact p _ o j (bC rfl)
    ·rw[aU ⟨w,by rcases j with j | ⟨r,f,g⟩;exact bC j;exact aZ ⟨r,f,by rcases g with g | g;exact absurd (f.trans (by rw[g])) s;exact g⟩⟩]
     exact p _ o (aZ ⟨c,rfl,bC rfl⟩) (bC rfl)
   ·have i:d=some a\/a∈l:=by
     rcases h with h | h
     ·exact bC h
     ·rcases cH.1 h with h | h
      ·exact absurd h.symm q
      ·exact aZ h
    by_cases n:c≠b/\(d=none\/∃k,d=some k/\e c > e k)
    ·rw[aU n]
     have u:=t c cI n.1 q;refine p _ o (aZ ⟨c,rfl,aZ u⟩) ?_;rcases i with i | i
     ·exfalso
      rcases n.2 with k | ⟨r,f,g⟩
      ·rw[i]at k;cases k
      ·rw[i]at f;injection f with f;rw[<-f]at g;omega
     ·exact aZ i
    ·rw[aM n]
     exact p _ o j i
 exact y m none v (bC rfl) (aZ ha)
end
end Go.Proofs.YtghnlncgiihhgaaGreatDoor
