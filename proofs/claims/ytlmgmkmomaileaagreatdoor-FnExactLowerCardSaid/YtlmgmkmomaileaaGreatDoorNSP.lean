import Derived.Test.YtlmgmkmomaileaaGreatDoorTO
import Derived.Laws.BitsAllLaws
namespace Go.Proofs.YtlmgmkmomaileaaGreatDoor
open Go.RowKit
def Xg(W:Nat->Nat)(x:Nat):Bool:=(W (x / 64)).testBit (x % 64)
def Y0(W:Nat->Nat)(x:Nat):Nat->Nat:=fun i=>if i=x / 64 then W i ||| 2 ^ (x % 64)else W i
def XA(W:Nat->Nat):Prop:=∀i,W i<18446744073709551616
theorem KW(x:Nat):Xg (fun _=>0) x=false:=by simp[Xg]
theorem Z4(W:Nat->Nat)(x y:Nat):Xg (Y0 W x) y=(decide (y=x)||Xg W y):=by
 unfold Xg Y0;by_cases h:y / 64=x / 64
 ·rw[if_pos h,Nat.testBit_or,Nat.testBit_two_pow]
  by_cases e:x % 64=y % 64
  ·have:y=x:=oM
   simp[this]
  ·have:¬y=x:=fun h2=>e (by rw[h2])
   simp[this,e]
 ·rw[if_neg h]
  have:¬y=x:=fun h2=>h (by rw[h2])
  simp[this]
theorem Zey{W:Nat->Nat}(h:XA W)(x:Nat):XA (Y0 W x):=fun i=>by
 unfold Y0;split
 ·exact Nat.or_lt_two_pow (n:=64) (h i) (Nat.pow_lt_pow_right dC (Nat.mod_lt _ dC))
 ·exact h i
def moreN(S O T:Nat->Nat)(i:Nat):Nat:=(O i &&& (18446744073709551615-T i)) &&& (18446744073709551615-S i)
def butN(S O T:Nat->Nat)(i:Nat):Nat:=S i ||| moreN S O T i
theorem Zbf{a t:Nat}(ha:a<18446744073709551616)(ht:t<64):(18446744073709551615-a).testBit t=!a.testBit t:=by
 have:=Nat.testBit_two_pow_sub_succ (n:=64) (x:=a) ha t;rw[show 18446744073709551615-a=2 ^ 64-(a+1) by omega,this];simp[ht]
theorem Wl{S O T:Nat->Nat}(hS:XA S)(hT:XA T)(i:Nat){t:Nat}(ht:t<64):(moreN S O T i).testBit t=((O i).testBit t && !(T i).testBit t && !(S i).testBit t):=by
 unfold moreN;rw[Nat.testBit_and,Nat.testBit_and,Zbf (hT i) ht,Zbf (hS i) ht]
theorem Zbi{S O T:Nat->Nat}(hO:XA O)(i:Nat):moreN S O T i<18446744073709551616:=Nat.lt_of_le_of_lt (Nat.le_trans Nat.and_le_left Nat.and_le_left) (hO i)
theorem ZdS{S O T:Nat->Nat}(hS:XA S)(hO:XA O):XA (butN S O T):=fun i=>Nat.or_lt_two_pow (n:=64) (hS i) (Zbi hO i)
theorem Ze3{S O T:Nat->Nat}(hS:XA S)(hT:XA T)(x:Nat):Xg (butN S O T) x=(Xg S x||(Xg O x && !Xg T x)):=by
 unfold Xg butN;rw[Nat.testBit_or,Wl hS hT _ (Nat.mod_lt _ dC)];cases (S (x / 64)).testBit (x % 64)<;>simp
theorem ZfK{S O T:Nat->Nat}(hS:XA S)(hO:XA O)(hT:XA T)(i:Nat)(h:moreN S O T i≠0):∃x,x / 64=i/\Xg O x=true/\Xg T x=false/\Xg S x=false:=by
 obtain⟨t,ht⟩:=Nat.exists_testBit_of_ne_zero h;have h64:t<64:=by
  rcases Nat.lt_or_ge t 64 with h1 | h1
  ·exact h1
  ·have:=Nat.testBit_lt_two_pow (Nat.lt_of_lt_of_le (Zbi (S:=S) (T:=T) hO i) (Nat.pow_le_pow_right dC h1:2 ^ 64<=2 ^ t))
   rw[this]at ht;cases ht
 rw[Wl hS hT _ h64]at ht;simp only[Bool.and_eq_true,Bool.not_eq_true']at ht;refine⟨64*i+t,oM,?_,?_,?_⟩
 ·unfold Xg;rw[show(64*i+t) / 64=i by omega,show(64*i+t) % 64=t by omega];exact ht.1.1
 ·unfold Xg;rw[show(64*i+t) / 64=i by omega,show(64*i+t) % 64=t by omega];exact ht.1.2
 ·unfold Xg;rw[show(64*i+t) / 64=i by omega,show(64*i+t) % 64=t by omega];exact ht.2
theorem ZfL{S O T:Nat->Nat}(hS:XA S)(hT:XA T){x:Nat}(h:moreN S O T (x / 64)=0)(h1:Xg O x=true)(h2:Xg T x=false):Xg S x=true:=by
 have:=Wl (O:=O) hS hT (x / 64) (Nat.mod_lt x (show 0<64 by decide));rw[h,Nat.zero_testBit]at this;unfold Xg at *;rw[h1,h2]at this;cases hs:(S (x / 64)).testBit (x % 64)with
 | true=>rfl
 | false=>rw[hs]at this;cases this
def grewN(S O T:Nat->Nat)(K:Nat):Bool:=(List.range K).any fun i=>moreN S O T i != 0
theorem Zfm(S O T:Nat->Nat):grewN S O T 0=false:=rfl
theorem Zgj(S O T:Nat->Nat)(K:Nat):grewN S O T (K+1)=(grewN S O T K||(moreN S O T K != 0)):=by
 unfold grewN;rw[List.range_succ,List.any_append];simp
theorem ZhT{S O T:Nat->Nat}{K:Nat}(hS:XA S)(hO:XA O)(hT:XA T)(h:grewN S O T K=true):∃x,x<64*K/\Xg O x=true/\Xg T x=false/\Xg S x=false:=by
 obtain⟨i,hi,hm⟩:=List.any_eq_true.1 h;obtain⟨x,h1,h2⟩:=ZfK hS hO hT i (by simpa using hm);have:=List.mem_range.1 hi;exact⟨x,oM,h2⟩
theorem Zja{S O T:Nat->Nat}{K:Nat}(hS:XA S)(hT:XA T)(h:grewN S O T K=false){x:Nat}(hx:x<64*K)(h1:Xg O x=true)(h2:Xg T x=false):Xg S x=true:=by
 refine ZfL hS hT ?_ h1 h2;have:=List.any_eq_false.1 h (x / 64) (List.mem_range.2 oM);simpa using this
def addsN(W:Nat->Nat)(ts:List Nat):Nat->Nat:=ts.foldl Y0 W
theorem UY{W:Nat->Nat}{ts:List Nat}{q:Nat}(h:q<ts.length):addsN W (ts.take (q+1))=Y0 (addsN W (ts.take q)) ts[q]:=by
 unfold addsN;rw[List.take_succ_eq_append_getElem h,List.foldl_append];rfl
theorem Zs:∀(ts:List Nat){W:Nat->Nat},XA W->XA (addsN W ts)
 | [],_,h=>h
 | t::ts,_,h=>Zs ts (Zey h t)
theorem Zl:∀(ts:List Nat)(W:Nat->Nat)(y:Nat),Xg (addsN W ts) y=(decide (y∈ts)||Xg W y)
 | [],W,y=>by simp[addsN]
 | t::ts,W,y=>by
  show Xg (addsN (Y0 W t) ts) y=_;rw[Zl ts,Z4];by_cases h1:y=t
  ·simp[h1]
  ·by_cases h2:y∈ts<;>simp[h1,h2]
theorem ZfP{a b:Bool}(h:a=b):Ending.returned (.bool a)=Ending.returned (.bool b):=by rw[h]
theorem Zhy(x:Nat):(x:Int).tdiv 64=((x / 64:Nat):Int):=by rw[Int.tdiv_eq_ediv_of_nonneg oM];omega
theorem Zif(x:Nat):(x:Int).tmod 64=((x % 64:Nat):Int):=by rw[Int.tmod_eq_emod_of_nonneg oM];omega
theorem Zia{W t:Nat}(hW:W<18446744073709551616):(bits .and .u64 ((W:Int) / 2 ^ t) 1==1)=W.testBit t:=by
 have hq:W / 2 ^ t<18446744073709551616:=Nat.lt_of_le_of_lt (Nat.div_le_self _ _) hW;have e:((W:Int) / 2 ^ t)=((W / 2 ^ t:Nat):Int):=sP;rw[e,show(1:Int)=((1:Nat):Int) from rfl,u64_and_nat _ _ hq dC,Nat.and_one_is_mod,Nat.testBit_eq_decide_div_mod_eq];by_cases h:W / 2 ^ t % 2=1
 ·simp[h]
 ·have h0:W / 2 ^ t % 2=0:=oM
  simp[h0]
theorem Zb8{W t:Nat}(ht:t<64)(hW:W<18446744073709551616):bits .or .u64 (W:Int) (IntKind.u64.wrap (2 ^ t))=((W ||| 2 ^ t:Nat):Int):=by
 have h2:2 ^ t<18446744073709551616:=Nat.lt_of_lt_of_le (Nat.pow_lt_pow_right dC ht) dC;have e:IntKind.u64.wrap (2 ^ t)=((2 ^ t:Nat):Int):=by
  rw[IntKind.wrap_u64];have:((2 ^ t:Nat):Int)=(2:Int) ^ t:=sP;rw[<-this];exact Int.emod_eq_of_lt (Int.natCast_nonneg _) (Int.ofNat_lt.2 h2)
 rw[e,u64_or_nat _ _ hW h2]
end Go.Proofs.YtlmgmkmomaileaaGreatDoor
namespace Go.Proofs.YtlmgmkmomaileaaGreatDoor
def dfsV(tg:Nat->List Nat):Nat->Nat->(Nat->Nat) × List Nat->(Nat->Nat) × List Nat
 | 0,_,s=>s
 | m+1,b,s=>if Xg s.1 b=true then s else
  (((tg b).foldl (fun s t=>dfsV tg m t s) (Y0 s.1 b,s.2)).1,((tg b).foldl (fun s t=>dfsV tg m t s) (Y0 s.1 b,s.2)).2++[b])
def XV(xs:List Xh)(b:Nat):List Nat:=match xs[b]? with
 | some x=>x.term.targets.map Int.toNat
 | none=>[]
theorem Kq{xs:List Xh}{b:Nat}(h:b<xs.length):XV xs b=xs[b].term.targets.map Int.toNat:=by
 unfold XV;rw[List.getElem?_eq_getElem h]
def Xx(W:Nat->Nat)(n:Nat):Nat:=((List.range n).filter fun x=>!Xg W x).length
theorem Jz{W W':Nat->Nat}(n:Nat)(h:∀x,Xg W x=true->Xg W' x=true):Xx W' n<=Xx W n:=by
 unfold Xx;rw[<-List.countP_eq_length_filter,<-List.countP_eq_length_filter];refine List.countP_mono_left (fun x _ hx=>?_);cases h1:Xg W x with
 | false=>rfl
 | true=>rw[h x h1]at hx;cases hx
theorem KU{W:Nat->Nat}{n b:Nat}(h:Xx W n=0)(hb:b<n):Xg W b=true:=by
 unfold Xx at h;have:=List.filter_eq_nil_iff.1 (List.length_eq_zero_iff.1 h) b (List.mem_range.2 hb);simpa using this
theorem Kl{W:Nat->Nat}{n b:Nat}(hb:b<n)(hs:Xg W b=false):Xx (Y0 W b) n+1<=Xx W n:=by
 have key:∀n,Xx (Y0 W b) n+(if b<n then 1 else 0)<=Xx W n:=fun n=>by
  induction n with
  | zero=>simp[Xx]
  | succ n ih =>
   unfold Xx at *;rw[List.range_succ,List.filter_append,List.filter_append,List.length_append,List.length_append];by_cases e:n=b
   ·subst e
    rw[if_neg oM]at ih;rw[if_pos oM];have h1:([n].filter fun x=>!Xg (Y0 W n) x).length=0:=by simp[Z4]
    have h2:([n].filter fun x=>!Xg W x).length=1:=by simp[hs]
    omega
   ·have h1:([n].filter fun x=>!Xg (Y0 W b) x).length=([n].filter fun x=>!Xg W x).length:=by
     congr 1;refine List.filter_congr (fun x hx=>?_);have:x=n:=by simpa using hx
     subst this;rw[Z4,decide_eq_false e,Bool.false_or]
    by_cases hl:b<n
    ·rw[if_pos hl]at ih;rw[if_pos oM];omega
    ·rw[if_neg hl]at ih;rw[if_neg oM];omega
 have:=key n;rw[if_pos hb]at this;exact this
theorem JI(tg:Nat->List Nat):∀(m b:Nat)(s:(Nat->Nat) × List Nat)(x:Nat),Xg s.1 x=true->Xg (dfsV tg m b s).1 x=true
 | 0,_,_,_,h=>h
 | m+1,b,s,x,h=>by
  rw[dfsV];split
  ·exact h
  ·have key:∀(l:List Nat)(s:(Nat->Nat) × List Nat),Xg s.1 x=true->Xg (l.foldl (fun s t=>dfsV tg m t s) s).1 x=true:=fun l=>by
    induction l with
    | nil=>intro s h;exact h
    | cons t l ih=>intro s h;exact ih _ (JI tg m t s x h)
   exact key _ _ (by rw[Z4,h];simp)
theorem ZdZ(tg:Nat->List Nat):∀(m b:Nat)(s:(Nat->Nat) × List Nat),XA s.1->XA (dfsV tg m b s).1
 | 0,_,_,h=>h
 | m+1,b,s,h=>by
  rw[dfsV];split
  ·exact h
  ·have key:∀(l:List Nat)(s:(Nat->Nat) × List Nat),XA s.1->XA (l.foldl (fun s t=>dfsV tg m t s) s).1:=fun l=>by
    induction l with
    | nil=>intro s h;exact h
    | cons t l ih=>intro s h;exact ih _ (ZdZ tg m t s h)
   exact key _ _ (Zey h b)
theorem Tp(tg:Nat->List Nat)(m:Nat)(l:List Nat)(s:(Nat->Nat) × List Nat)(x:Nat)(h:Xg s.1 x=true):Xg (l.foldl (fun s t=>dfsV tg m t s) s).1 x=true:=by
 induction l generalizing s with
 | nil=>exact h
 | cons t l ih=>exact ih _ (JI tg m t s x h)
theorem Zi3(tg:Nat->List Nat)(m:Nat)(l:List Nat)(s:(Nat->Nat) × List Nat)(h:XA s.1):XA (l.foldl (fun s t=>dfsV tg m t s) s).1:=by
 induction l generalizing s with
 | nil=>exact h
 | cons t l ih=>exact ih _ (ZdZ tg m t s h)
theorem Zbh(tg:Nat->List Nat)(n:Nat)(ht:∀b,b<n->∀t∈tg b,t<n):∀(m b:Nat)(s:(Nat->Nat) × List Nat),b<n->(dfsV tg m b s).2.length+Xx (dfsV tg m b s).1 n<=s.2.length+Xx s.1 n
 | 0,_,_,_=>Nat.le_refl _
 | m+1,b,s,hb=>by
  rw[dfsV];split
  ·exact Nat.le_refl _
  ·rename_i hs
   have hs':Xg s.1 b=false:=by simpa using hs
   have h1:=Kl hb hs';have key:∀(l:List Nat)(s:(Nat->Nat) × List Nat),(∀t∈l,t<n)->(l.foldl (fun s t=>dfsV tg m t s) s).2.length+Xx (l.foldl (fun s t=>dfsV tg m t s) s).1 n<=s.2.length+Xx s.1 n:=fun l=>by
    induction l with
    | nil=>intro s _;exact Nat.le_refl _
    | cons t l ih =>
     intro s h;exact Nat.le_trans (ih _ (fun x hx=>h x (List.mem_cons_of_mem _ hx))) (Zbh tg n ht m t s (h t List.mem_cons_self))
   have h2:=key (tg b) (Y0 s.1 b,s.2) (ht b hb);rw[List.length_append];dsimp only at h2 |-;simp only[List.length_cons,List.length_nil];omega
theorem ZhS(tg:Nat->List Nat)(n:Nat)(ht:∀b,b<n->∀t∈tg b,t<n)(m:Nat)(l:List Nat)(s:(Nat->Nat) × List Nat)(h:∀t∈l,t<n):(l.foldl (fun s t=>dfsV tg m t s) s).2.length+Xx (l.foldl (fun s t=>dfsV tg m t s) s).1 n<=s.2.length+Xx s.1 n:=by
 induction l generalizing s with
 | nil=>exact Nat.le_refl _
 | cons t l ih=>exact Nat.le_trans (ih _ (fun x hx=>h x (List.mem_cons_of_mem _ hx))) (Zbh tg n ht m t s (h t List.mem_cons_self))
theorem VT{tg:Nat->List Nat}{m b:Nat}{s:(Nat->Nat) × List Nat}(h:Xg s.1 b=false):dfsV tg (m+1) b s=(((tg b).foldl (fun s t=>dfsV tg m t s) (Y0 s.1 b,s.2)).1,((tg b).foldl (fun s t=>dfsV tg m t s) (Y0 s.1 b,s.2)).2++[b]):=by
 rw[dfsV,if_neg (by rw[h];decide)]
theorem UA{tg:Nat->List Nat}{m b:Nat}{s:(Nat->Nat) × List Nat}(h:Xg s.1 b=true):dfsV tg m b s=s:=by
 cases m with
 | zero=>rfl
 | succ m=>rw[dfsV,if_pos h]
inductive Sp (I:Nat->Nat->Nat) (T:Nat->Nat->Nat) (ord:Nat->Prop) (src:Nat->List Nat):Nat->Nat->Prop
 | init {b x:Nat}:Xg (I b) x=true->Sp I T ord src b x
 | take {b s x:Nat}:ord b->s∈src b->Sp I T ord src s x->Xg (T b) x=false->Sp I T ord src b x
def Zx(T:Nat->Nat->Nat)(b s:Nat)(W:Nat->Nat->Nat):Nat->Nat->Nat:=fun i=>if i=b then butN (W b) (W s) (T b)else W i
def takesN(T:Nat->Nat->Nat)(K b:Nat)(l:List Nat)(s:(Nat->Nat->Nat) × Bool):(Nat->Nat->Nat) × Bool :=
 l.foldl (fun s t=>(Zx T b t s.1,grewN (s.1 b) (s.1 t) (T b) K||s.2)) s
theorem Zd8{T:Nat->Nat->Nat}{K b:Nat}{l:List Nat}{q:Nat}(h:q<l.length)(s:(Nat->Nat->Nat) × Bool):takesN T K b (l.take (q+1)) s=(Zx T b l[q] (takesN T K b (l.take q) s).1,grewN ((takesN T K b (l.take q) s).1 b) ((takesN T K b (l.take q) s).1 l[q]) (T b) K||(takesN T K b (l.take q) s).2):=by
 unfold takesN;rw[List.take_succ_eq_append_getElem h,List.foldl_append];rfl
def XX(W:Nat->Nat->Nat):Prop:=∀i,XA (W i)
theorem Tr{T W:Nat->Nat->Nat}(b s:Nat)(h:XX W):XX (Zx T b s W):=fun i=>by
 unfold Zx;split
 ·exact ZdS (h b) (h s)
 ·exact h i
theorem KL{T W:Nat->Nat->Nat}(b s:Nat)(h:XX W)(hT:XX T)(i x:Nat):Xg (Zx T b s W i) x=(Xg (W i) x||(decide (i=b)&&Xg (W s) x && !Xg (T b) x)):=by
 unfold Zx;by_cases e:i=b
 ·subst e
  rw[if_pos rfl,Ze3 (h i) (hT i)];simp
 ·rw[if_neg e];simp[e]
theorem Wx{T:Nat->Nat->Nat}{K b:Nat}:∀(l:List Nat)(s:(Nat->Nat->Nat) × Bool),XX s.1->XX (takesN T K b l s).1
 | [],_,h=>h
 | t::l,_,h=>Wx l _ (Tr b t h)
theorem Kf{T:Nat->Nat->Nat}{K b:Nat}(hT:XX T):∀(l:List Nat)(s:(Nat->Nat->Nat) × Bool),XX s.1->∀i x,Xg (s.1 i) x=true->Xg ((takesN T K b l s).1 i) x=true
 | [],_,_,_,_,h=>h
 | t::l,s,hs,i,x,h=>Kf hT l _ (Tr b t hs) i x (by show Xg (Zx T b t s.1 i) x=true;rw[KL b t hs hT,h];rfl)
theorem Vj{I T:Nat->Nat->Nat}{K b:Nat}{ord:Nat->Prop}{src:Nat->List Nat}(hT:XX T)(hb:ord b):∀(l:List Nat)(s:(Nat->Nat->Nat) × Bool),XX s.1->(∀t∈l,t∈src b)->(∀i x,Xg (s.1 i) x=true->Sp I T ord src i x)->∀i x,Xg ((takesN T K b l s).1 i) x=true->Sp I T ord src i x
 | [],_,_,_,h=>h
 | t::l,s,hs,hl,h=>Vj hT hb l _ (Tr b t hs) (fun u hu=>hl u (List.mem_cons_of_mem _ hu)) (fun i x hx=>by
  have hx':Xg (Zx T b t s.1 i) x=true:=hx;rw[KL b t hs hT]at hx';cases hi:Xg (s.1 i) x with
  | true=>exact h i x hi
  | false =>
   rw[hi]at hx';simp only[Bool.false_or,Bool.and_eq_true,decide_eq_true_eq,Bool.not_eq_true']at hx';obtain⟨⟨rfl,h2⟩,h3⟩:=hx';exact Sp.take hb (hl t List.mem_cons_self) (h t x h2) h3)
theorem Zab{T:Nat->Nat->Nat}{K b:Nat}:∀(l:List Nat)(s:(Nat->Nat->Nat) × Bool),s.2=true->(takesN T K b l s).2=true
 | [],_,h=>h
 | t::l,s,h=>Zab l _ (by show(_||s.2)=true;rw[h];simp)
theorem Vm{T:Nat->Nat->Nat}{K b:Nat}(hT:XX T):∀(l:List Nat)(s:(Nat->Nat->Nat) × Bool),XX s.1->(takesN T K b l s).2=false->(∀i x,x<64*K->Xg ((takesN T K b l s).1 i) x=Xg (s.1 i) x)/\∀t∈l,∀x,x<64*K->Xg (s.1 t) x=true->Xg (T b) x=false->Xg (s.1 b) x=true
 | [],_,_,_=>⟨fun _ _ _=>rfl,fun t ht=>by cases ht⟩
 | t::l,s,hs,hq=>by
  have hg:(grewN (s.1 b) (s.1 t) (T b) K||s.2)=false:=by
   cases e:(grewN (s.1 b) (s.1 t) (T b) K||s.2)with
   | false=>rfl
   | true=>have:=Zab (T:=T) (K:=K) (b:=b) l (Zx T b t s.1,grewN (s.1 b) (s.1 t) (T b) K||s.2) e;rw[show takesN T K b (t::l) s=takesN T K b l (Zx T b t s.1,grewN (s.1 b) (s.1 t) (T b) K||s.2) from rfl,this]at hq;cases hq
  have hg1:grewN (s.1 b) (s.1 t) (T b) K=false:=by
   cases e:grewN (s.1 b) (s.1 t) (T b) K with
   | false=>rfl
   | true=>rw[e]at hg;cases hg
  have hcl:∀x,x<64*K->Xg (s.1 t) x=true->Xg (T b) x=false->Xg (s.1 b) x=true:=fun x hx h1 h2=>Zja (hs b) (hT b) hg1 hx h1 h2
  have hsame:∀i x,x<64*K->Xg (Zx T b t s.1 i) x=Xg (s.1 i) x:=fun i x hx=>by
   rw[KL b t hs hT];by_cases e:i=b
   ·subst e
    cases h1:Xg (s.1 t) x with
    | false=>simp
    | true =>
     cases h2:Xg (T i) x with
     | true=>simp
     | false=>rw[hcl x hx h1 h2];rfl
   ·simp[e]
  obtain⟨h1,h2⟩:=Vm hT l (Zx T b t s.1,grewN (s.1 b) (s.1 t) (T b) K||s.2) (Tr b t hs) hq;refine⟨fun i x hx=>(h1 i x hx).trans (hsame i x hx),fun u hu x hx hxu hxT=>?_⟩;rcases List.mem_cons.1 hu with rfl | hu
  ·exact hcl x hx hxu hxT
  ·have:=h2 u hu x hx (by rw[hsame u x hx];exact hxu) hxT
   rw[hsame b x hx]at this;exact this
theorem Wz{T:Nat->Nat->Nat}{K b:Nat}(hT:XX T):∀(l:List Nat)(s:(Nat->Nat->Nat) × Bool),XX s.1->s.2=false->(takesN T K b l s).2=true->Xx ((takesN T K b l s).1 b) (64*K)<Xx (s.1 b) (64*K)
 | [],s,_,h0,h1=>by rw[show takesN T K b [] s=s from rfl,h0]at h1;cases h1
 | t::l,s,hs,h0,h1=>by
  cases hg:grewN (s.1 b) (s.1 t) (T b) K with
  | false =>
   have e:takesN T K b (t::l) s=takesN T K b l (Zx T b t s.1,false):=by show takesN T K b l (Zx T b t s.1,grewN (s.1 b) (s.1 t) (T b) K||s.2)=_;rw[hg,h0];rfl
   rw[e]at h1 |-;refine Nat.lt_of_lt_of_le (Wz hT l (Zx T b t s.1,false) (Tr b t hs) rfl h1) ?_;exact Jz _ (fun x hx=>by show Xg (Zx T b t s.1 b) x=true;rw[KL b t hs hT,hx];rfl)
  | true =>
   obtain⟨x,hx,h2,h3,h4⟩:=ZhT (hs b) (hs t) (hT b) hg;have key:∀W':Nat->Nat,(∀y,Xg (s.1 b) y=true->Xg W' y=true)->Xg W' x=true->Xx W' (64*K)<Xx (s.1 b) (64*K):=fun W' hm hw=>by
    have h5:=Kl hx h4;have h6:Xx W' (64*K)<=Xx (Y0 (s.1 b) x) (64*K):=Jz _ (fun y hy=>by
     rw[Z4]at hy;cases hyx:decide (y=x)with
     | true=>rw[of_decide_eq_true hyx];exact hw
     | false=>rw[hyx,Bool.false_or]at hy;exact hm y hy)
    omega
   refine key _ (fun y hy=>Kf hT (t::l) s hs b y hy) ?_;refine Kf hT l (Zx T b t s.1,grewN (s.1 b) (s.1 t) (T b) K||s.2) (Tr b t hs) b x ?_;show Xg (Zx T b t s.1 b) x=true;rw[KL b t hs hT,h2,h3];simp
theorem Vr{T:Nat->Nat->Nat}{K b i:Nat}(h:i≠b):∀(l:List Nat)(s:(Nat->Nat->Nat) × Bool),(takesN T K b l s).1 i=s.1 i
 | [],_=>rfl
 | t::l,s=>(Vr h l _).trans (by show Zx T b t s.1 i=_;unfold Zx;rw[if_neg h])
theorem Zdr{I T W:Nat->Nat->Nat}{K:Nat}{ord:Nat->Prop}{src:Nat->List Nat}(hI:∀b x,Xg (I b) x=true->Xg (W b) x=true)(hS:∀b x,Xg (W b) x=true->Sp I T ord src b x)(hC:∀b,ord b->∀t∈src b,∀x,x<64*K->Xg (W t) x=true->Xg (T b) x=false->Xg (W b) x=true)(b x:Nat)(hx:x<64*K):Xg (W b) x=true↔Sp I T ord src b x:=by
 refine⟨hS b x,fun h=>?_⟩
 induction h with
 | init h=>exact hI _ _ h
 | take hb hs _ ht ih=>exact hC _ hb _ hs _ hx (ih hx) ht
theorem Zbo{W W':Nat->Nat}(n:Nat)(h:∀x,x<n->Xg W' x=Xg W x):Xx W' n=Xx W n:=by
 unfold Xx;congr 1;exact List.filter_congr (fun x hx=>by rw[h x (List.mem_range.1 hx)])
def Tx(W:Nat->Nat->Nat)(K:Nat):Nat->Nat
 | 0=>0
 | n+1=>Tx W K n+Xx (W n) (64*K)
theorem Wf{W W':Nat->Nat->Nat}{K:Nat}:∀n,(∀i,i<n->Xx (W' i) (64*K)=Xx (W i) (64*K))->Tx W' K n=Tx W K n
 | 0,_=>rfl
 | n+1,h=>by rw[Tx,Tx,Wf n (fun i hi=>h i oM),h n oM]
theorem Zc1{W W':Nat->Nat->Nat}{K b:Nat}(ho:∀i,i≠b->W' i=W i)(hb:Xx (W' b) (64*K)<Xx (W b) (64*K)):∀n,b<n->Tx W' K n<Tx W K n
 | 0,h=>absurd h oM
 | n+1,h=>by
  rw[Tx,Tx];by_cases e:n=b
  ·subst e
   rw[Wf n (fun i hi=>by rw[ho i oM])];omega
  ·rw[ho n e]
   have:=Zc1 ho hb n oM;omega
def ClB(T:Nat->Nat->Nat)(K:Nat)(src:Nat->List Nat)(W:Nat->Nat->Nat)(b:Nat):Prop:=∀t∈src b,∀x,x<64*K->Xg (W t) x=true->Xg (T b) x=false->Xg (W b) x=true
theorem Zji{T:Nat->Nat->Nat}{K:Nat}{src:Nat->List Nat}{W W':Nat->Nat->Nat}{b:Nat}(h:ClB T K src W b)(e:∀i x,x<64*K->Xg (W' i) x=Xg (W i) x):ClB T K src W' b:=fun t ht x hx h1 h2=>by
 rw[e _ _ hx]at h1 |-;exact h t ht x hx h1 h2
def ClQ(T:Nat->Nat->Nat)(K:Nat)(src:Nat->List Nat)(W:Nat->Nat->Nat)(R:List Nat)(q p:Nat):Prop:=∀j,j<q->ClB T K src W (R.getD ((p+R.length-1-j) % R.length) 0)
theorem Zcm{T:Nat->Nat->Nat}{K:Nat}{src:Nat->List Nat}{W:Nat->Nat->Nat}{R:List Nat}{p:Nat}:ClQ T K src W R 0 p:=fun j hj=>absurd hj oM
theorem ZhM{T:Nat->Nat->Nat}{K:Nat}{src:Nat->List Nat}{W W':Nat->Nat->Nat}{R:List Nat}{q p:Nat}(h:ClQ T K src W R q p)(e:∀i x,x<64*K->Xg (W' i) x=Xg (W i) x)(hp:p<R.length)(hb:ClB T K src W R[p]):ClQ T K src W' R (q+1) (p+1):=fun j hj=>by
 refine Zji ?_ e;cases j with
 | zero =>
  have:(p+1+R.length-1-0) % R.length=p:=by
   rw[show p+1+R.length-1-0=p+R.length by omega,Nat.add_mod_right,Nat.mod_eq_of_lt hp]
  rw[this,show R.getD p 0=R[p] by simp[hp]];exact hb
 | succ j =>
  rw[show p+1+R.length-1-(j+1)=p+R.length-1-j by omega];exact h j oM
theorem Zh2{T:Nat->Nat->Nat}{K:Nat}{src:Nat->List Nat}{W:Nat->Nat->Nat}{R:List Nat}{q:Nat}(h:ClQ T K src W R q R.length)(hq:q<R.length):ClQ T K src W R q 0:=fun j hj=>by
 have:=h j hj;rw[show R.length+R.length-1-j=(0+R.length-1-j)+R.length by omega,Nat.add_mod_right]at this;exact this
theorem Zjt{T:Nat->Nat->Nat}{K:Nat}{src:Nat->List Nat}{W:Nat->Nat->Nat}{R:List Nat}{p:Nat}(h:ClQ T K src W R R.length p)(hp:p<=R.length){b:Nat}(hb:b∈R):ClB T K src W b:=by
 obtain⟨i,hi,rfl⟩:=List.getElem_of_mem hb;have key:(p+R.length-1-(p+R.length-1-i) % R.length) % R.length=i:=by
  by_cases c:i+1<=p
  ·have e1:(p+R.length-1-i) % R.length=p-1-i:=by
    rw[show p+R.length-1-i=(p-1-i)+R.length by omega,Nat.add_mod_right,Nat.mod_eq_of_lt oM]
   rw[e1,show p+R.length-1-(p-1-i)=i+R.length by omega,Nat.add_mod_right,Nat.mod_eq_of_lt hi]
  ·have e1:(p+R.length-1-i) % R.length=p+R.length-1-i:=Nat.mod_eq_of_lt oM
   rw[e1,show p+R.length-1-(p+R.length-1-i)=i by omega,Nat.mod_eq_of_lt hi]
 have:=h ((p+R.length-1-i) % R.length) (Nat.mod_lt _ oM);rw[key,show R.getD i 0=R[i] by simp[hi]]at this;exact this
end Go.Proofs.YtlmgmkmomaileaaGreatDoor
namespace Go.Proofs.YtlmgmkmomaileaaGreatDoor
inductive Av (tg:Nat->List Nat) (a:Nat):Nat->Prop
 | root:a≠0->Av tg a 0
 | step {b t:Nat}:Av tg a b->t∈tg b->t≠a->Av tg a t
inductive Re (tg:Nat->List Nat):Nat->Prop
 | root:Re tg 0
 | step {b t:Nat}:Re tg b->t∈tg b->Re tg t
structure Dom(tg:Nat->List Nat)(a b:Nat):Prop where
 ra:Re tg a
 rb:Re tg b
 no:¬Av tg a b
variable {tg : Nat -> List Nat}
end Go.Proofs.YtlmgmkmomaileaaGreatDoor
namespace Go.Proofs.YtlmgmkmomaileaaGreatDoor
variable {tg : Nat -> List Nat}
def Bef(l:List Nat)(x a:Nat):Prop:=∃l1 l2,l=l1++l2/\x∈l1/\a∈l2
theorem Zir{l r:List Nat}{x a:Nat}(h:Bef l x a):Bef (l++r) x a:=by
 obtain⟨l1,l2,rfl,h1,h2⟩:=h;exact⟨l1,l2++r,sP,h1,by simp[h2]⟩
theorem ZhE{l:List Nat}{x b:Nat}(h:x∈l):Bef (l++[b]) x b:=⟨l,[b],rfl,h,sP⟩
def Stk(tg:Nat->List Nat)(P:List Nat)(b:Nat):Prop:=∀a,Dom tg a b->a≠b->a∈P
theorem Zg5:Stk tg [] 0:=fun _ h hne=>absurd (Av.root hne) h.no
theorem Zgy{P:List Nat}{b t:Nat}(h:Stk tg P b)(hb:Re tg b)(ht:t∈tg b):Stk tg (b::P) t:=fun a ha hne=>by
 by_cases e:a=b
 ·rw[e];exact List.mem_cons_self
 ·exact List.mem_cons_of_mem _ (h a ⟨ha.ra,hb,fun k=>ha.no (Av.step k ht (fun e2=>hne e2.symm))⟩ e)
structure Zbm(tg:Nat->List Nat)(P:List Nat)(s:(Nat->Nat) × List Nat):Prop where
 seen:∀x∈s.2,Xg s.1 x=true
 nd:s.2.Nodup
 all:∀x,Xg s.1 x=true->x∈s.2\/x∈P
 stk:∀x∈P,x ∉ s.2/\Xg s.1 x=true
 ord:∀x∈s.2,∀a,Dom tg a x->a≠x->a∈P\/Bef s.2 x a
 re:∀x∈s.2,Re tg x
 cl:∀x∈s.2,∀t∈tg x,Xg s.1 t=true
theorem ZfY{P:List Nat}{s:(Nat->Nat) × List Nat}{b:Nat}(h:Zbm tg P s)(hb:Xg s.1 b=false):Zbm tg (b::P) (Y0 s.1 b,s.2):=by
 have mono:∀x,Xg s.1 x=true->Xg (Y0 s.1 b) x=true:=fun x hx=>by rw[Z4,hx];simp
 refine⟨fun x hx=>mono x (h.seen x hx),h.nd,fun x hx=>?_,fun x hx=>?_,fun x hx a ha hne=>?_,h.re,fun x hx t ht=>mono t (h.cl x hx t ht)⟩
 ·rw[Z4]at hx
  by_cases e:x=b
  ·exact Or.inr (by rw[e];exact List.mem_cons_self)
  ·rw[decide_eq_false e,Bool.false_or]at hx
   rcases h.all x hx with h1 | h1
   ·exact Or.inl h1
   ·exact Or.inr (List.mem_cons_of_mem _ h1)
 ·rcases List.mem_cons.1 hx with rfl | hx
  ·exact⟨fun k=>(by rw[h.seen _ k]at hb;cases hb),by rw[Z4];simp⟩
  ·exact⟨(h.stk x hx).1,mono x (h.stk x hx).2⟩
 ·rcases h.ord x hx a ha hne with h1 | h1
  ·exact Or.inl (List.mem_cons_of_mem _ h1)
  ·exact Or.inr h1
theorem Zin{P:List Nat}{s:(Nat->Nat) × List Nat}{b:Nat}(h:Zbm tg (b::P) s)(hP:b ∉ P)(hr:Re tg b)(hs:Stk tg P b)(hc:∀t∈tg b,Xg s.1 t=true):Zbm tg P (s.1,s.2++[b]):=by
 have hb:=h.stk b List.mem_cons_self;refine⟨fun x hx=>?_,?_,fun x hx=>?_,fun x hx=>?_,fun x hx a ha hne=>?_,fun x hx=>?_,fun x hx t ht=>?_⟩
 ·rcases List.mem_append.1 hx with h1 | h1
  ·exact h.seen x h1
  ·have:x=b:=by simpa using h1
   rw[this];exact hb.2
 ·rw[List.nodup_append]
  refine⟨h.nd,sP,fun x hx y hy e=>?_⟩;have:y=b:=by simpa using hy
  rw[e,this]at hx;exact hb.1 hx
 ·rcases h.all x hx with h1 | h1
  ·exact Or.inl (List.mem_append_left _ h1)
  ·rcases List.mem_cons.1 h1 with rfl | h1
   ·exact Or.inl sP
   ·exact Or.inr h1
 ·have hx':=h.stk x (List.mem_cons_of_mem _ hx)
  refine⟨fun k=>?_,hx'.2⟩;rcases List.mem_append.1 k with k | k
  ·exact hx'.1 k
  ·have:x=b:=by simpa using k
   rw[this]at hx;exact hP hx
 ·rcases List.mem_append.1 hx with h1 | h1
  ·rcases h.ord x h1 a ha hne with h2 | h2
   ·rcases List.mem_cons.1 h2 with rfl | h2
    ·exact Or.inr (ZhE h1)
    ·exact Or.inl h2
   ·exact Or.inr (Zir h2)
  ·have:x=b:=by simpa using h1
   subst this;exact Or.inl (hs a ha hne)
 ·rcases List.mem_append.1 hx with h1 | h1
  ·exact h.re x h1
  ·have:x=b:=by simpa using h1
   rw[this];exact hr
 ·rcases List.mem_append.1 hx with h1 | h1
  ·exact h.cl x h1 t ht
  ·have:x=b:=by simpa using h1
   rw[this]at ht;exact hc t ht
theorem Zda{n:Nat}(hn:∀b,b<n->∀t∈tg b,t<n):∀(m b:Nat)(s:(Nat->Nat) × List Nat)(P:List Nat),b<n->Xx s.1 n<=m->Re tg b->Stk tg P b->Zbm tg P s->Zbm tg P (dfsV tg m b s)/\Xg (dfsV tg m b s).1 b=true
 | 0,b,s,P,hb,hu,_,_,hi=>⟨hi,KU (n:=n) (Nat.le_zero.1 hu) hb⟩
 | m+1,b,s,P,hb,hu,hr,hs,hi=>by
  cases hh:Xg s.1 b with
  | true=>rw[UA hh];exact⟨hi,hh⟩
  | false =>
   rw[VT hh];have hP:b ∉ P:=fun k=>by rw[(hi.stk b k).2]at hh;cases hh
   have hu1:=Kl hb hh;have key:∀(l:List Nat)(s1:(Nat->Nat) × List Nat),(∀t∈l,t∈tg b)->Xx s1.1 n<=m->Zbm tg (b::P) s1->Zbm tg (b::P) (l.foldl (fun s t=>dfsV tg m t s) s1)/\∀t∈l,Xg (l.foldl (fun s t=>dfsV tg m t s) s1).1 t=true:=fun l=>by
    induction l with
    | nil=>intro s1 _ _ h1;exact⟨h1,fun t ht=>by cases ht⟩
    | cons t l ih =>
     intro s1 hl h1 h2;have ht:=hl t List.mem_cons_self;obtain⟨k1,k2⟩:=Zda hn m t s1 (b::P) (hn b hb t ht) h1 (Re.step hr ht) (Zgy hs hr ht) h2;obtain⟨k3,k4⟩:=ih (dfsV tg m t s1) (fun u hu=>hl u (List.mem_cons_of_mem _ hu)) (Nat.le_trans (Jz n (fun x hx=>JI tg m t s1 x hx)) h1) k1;refine⟨k3,fun u hu=>?_⟩;rcases List.mem_cons.1 hu with rfl | hu
     ·exact Tp tg m l _ _ k2
     ·exact k4 u hu
   obtain⟨k1,k2⟩:=key (tg b) (Y0 s.1 b,s.2) (fun t ht=>ht) (by show Xx (Y0 s.1 b) n<=m;omega) (ZfY hi hh);refine⟨Zin k1 hP hr hs k2,?_⟩;exact Tp tg m (tg b) (Y0 s.1 b,s.2) b (by show Xg (Y0 s.1 b) b=true;rw[Z4];simp)
theorem Jf(W:Nat->Nat)(n:Nat):Xx W n<=n:=Nat.le_trans (List.length_filter_le _ _) sP
theorem Zjo{n:Nat}(hn:∀b,b<n->∀t∈tg b,t<n)(h0:0<n){m:Nat}(hm:n<=m) :
 (∀x,x∈(dfsV tg m 0 (fun _=>0,[])).2↔Re tg x)/\(∀x,Xg (dfsV tg m 0 (fun _=>0,[])).1 x=true↔Re tg x)/\(dfsV tg m 0 (fun _=>0,[])).2.Nodup/\∀x a,Dom tg a x->a≠x->Bef (dfsV tg m 0 (fun _=>0,[])).2 x a:=by
 have hi:Zbm tg [] (fun _=>0,[]):=⟨fun x hx=>(by cases hx),List.nodup_nil,fun x hx=>(by rw[KW]at hx;cases hx),fun x hx=>(by cases hx),fun x hx=>(by cases hx),fun x hx=>(by cases hx),fun x hx=>(by cases hx)⟩;obtain⟨h1,h2⟩:=Zda hn m 0 (fun _=>0,[]) [] h0 (Nat.le_trans (Jf _ _) hm) Re.root Zg5 hi;generalize dfsV tg m 0 (fun _=>0,[])=s at *;have hs:∀x,Xg s.1 x=true->x∈s.2:=fun x hx=>by
  rcases h1.all x hx with h | h
  ·exact h
  ·cases h
 have hr:∀x,Re tg x->Xg s.1 x=true:=fun x hx=>by
  induction hx with
  | root=>exact h2
  | step _ ht ih=>exact h1.cl _ (hs _ ih) _ ht
 refine⟨fun x=>⟨h1.re x,fun h=>hs x (hr x h)⟩,fun x=>⟨fun h=>h1.re x (hs x h),hr x⟩,h1.nd,fun x a ha hne=>?_⟩;rcases h1.ord x (hs x (hr x ha.rb)) a ha hne with h | h
 ·cases h
 ·exact h
end Go.Proofs.YtlmgmkmomaileaaGreatDoor
namespace Go.Proofs.YtlmgmkmomaileaaGreatDoor
variable {tg : Nat -> List Nat}
theorem ZcU{l:List Nat}{x a:Nat}(h:Bef l x a):Bef l.reverse a x:=by
 obtain⟨l1,l2,rfl,h1,h2⟩:=h;exact⟨l2.reverse,l1.reverse,sP,by simpa using h2,by simpa using h1⟩
end Go.Proofs.YtlmgmkmomaileaaGreatDoor
