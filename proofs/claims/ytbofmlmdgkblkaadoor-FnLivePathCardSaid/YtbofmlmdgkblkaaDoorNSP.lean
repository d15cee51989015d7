import Derived.Laws.BitsAllLaws
import Derived.Test.YtbofmlmdgkblkaaDoorPure
namespace Go.Proofs.YtbofmlmdgkblkaaDoor
open Go.RowKit
def Xf(W:Nat->Nat)(x:Nat):Bool:=(W (x / 64)).testBit (x % 64)
def Y9(W:Nat->Nat)(x:Nat):Nat->Nat:=fun i=>if i=x / 64 then W i ||| 2 ^ (x % 64)else W i
def XK(W:Nat->Nat):Prop:=∀i,W i<18446744073709551616
theorem Jj(x:Nat):Xf (fun _=>0) x=false:=by simp[Xf]
theorem Z5(W:Nat->Nat)(x y:Nat):Xf (Y9 W x) y=(decide (y=x)||Xf W y):=by
 unfold Xf Y9;by_cases h:y / 64=x / 64
 ·rw[if_pos h,Nat.testBit_or,Nat.testBit_two_pow]
  by_cases e:x % 64=y % 64
  ·have:y=x:=by omega
   simp[this]
  ·have:¬y=x:=fun h2=>e (by rw[h2])
   simp[this,e]
 ·rw[if_neg h]
  have:¬y=x:=fun h2=>h (by rw[h2])
  simp[this]
theorem Zc0{W:Nat->Nat}(h:XK W)(x:Nat):XK (Y9 W x):=fun i=>by
 unfold Y9;split
 ·exact Nat.or_lt_two_pow (n:=64) (h i) (Nat.pow_lt_pow_right (by decide) (Nat.mod_lt _ (by decide)))
 ·exact h i
def moreN(S O T:Nat->Nat)(i:Nat):Nat:=(O i &&& (18446744073709551615-T i)) &&& (18446744073709551615-S i)
def butN(S O T:Nat->Nat)(i:Nat):Nat:=S i ||| moreN S O T i
theorem Zao{a t:Nat}(ha:a<18446744073709551616)(ht:t<64):(18446744073709551615-a).testBit t=!a.testBit t:=by
 have:=Nat.testBit_two_pow_sub_succ (n:=64) (x:=a) ha t;rw[show 18446744073709551615-a=2 ^ 64-(a+1) by omega,this];simp[ht]
theorem VA{S O T:Nat->Nat}(hS:XK S)(hT:XK T)(i:Nat){t:Nat}(ht:t<64):(moreN S O T i).testBit t=((O i).testBit t && !(T i).testBit t && !(S i).testBit t):=by
 unfold moreN;rw[Nat.testBit_and,Nat.testBit_and,Zao (hT i) ht,Zao (hS i) ht]
theorem Zaw{S O T:Nat->Nat}(hO:XK O)(i:Nat):moreN S O T i<18446744073709551616:=Nat.lt_of_le_of_lt (Nat.le_trans Nat.and_le_left Nat.and_le_left) (hO i)
theorem Zc7{S O T:Nat->Nat}(hS:XK S)(hO:XK O):XK (butN S O T):=fun i=>Nat.or_lt_two_pow (n:=64) (hS i) (Zaw hO i)
theorem ZcR{S O T:Nat->Nat}(hS:XK S)(hT:XK T)(x:Nat):Xf (butN S O T) x=(Xf S x||(Xf O x && !Xf T x)):=by
 unfold Xf butN;rw[Nat.testBit_or,VA hS hT _ (Nat.mod_lt _ (by decide))];cases (S (x / 64)).testBit (x % 64)<;>simp
theorem Zd0{S O T:Nat->Nat}(hS:XK S)(hO:XK O)(hT:XK T)(i:Nat)(h:moreN S O T i≠0):∃x,x / 64=i/\Xf O x=true/\Xf T x=false/\Xf S x=false:=by
 obtain⟨t,ht⟩:=Nat.exists_testBit_of_ne_zero h;have h64:t<64:=by
  rcases Nat.lt_or_ge t 64 with h1 | h1
  ·exact h1
  ·have:=Nat.testBit_lt_two_pow (Nat.lt_of_lt_of_le (Zaw (S:=S) (T:=T) hO i) (Nat.pow_le_pow_right (by decide) h1:2 ^ 64<=2 ^ t))
   rw[this]at ht;cases ht
 rw[VA hS hT _ h64]at ht;simp only[Bool.and_eq_true,Bool.not_eq_true']at ht;refine⟨64*i+t,by omega,?_,?_,?_⟩
 ·unfold Xf;rw[show(64*i+t) / 64=i by omega,show(64*i+t) % 64=t by omega];exact ht.1.1
 ·unfold Xf;rw[show(64*i+t) / 64=i by omega,show(64*i+t) % 64=t by omega];exact ht.1.2
 ·unfold Xf;rw[show(64*i+t) / 64=i by omega,show(64*i+t) % 64=t by omega];exact ht.2
theorem ZdS{S O T:Nat->Nat}(hS:XK S)(hT:XK T){x:Nat}(h:moreN S O T (x / 64)=0)(h1:Xf O x=true)(h2:Xf T x=false):Xf S x=true:=by
 have:=VA (O:=O) hS hT (x / 64) (Nat.mod_lt x (show 0<64 by decide));rw[h,Nat.zero_testBit]at this;unfold Xf at *;rw[h1,h2]at this;cases hs:(S (x / 64)).testBit (x % 64)with
 | true=>rfl
 | false=>rw[hs]at this;cases this
def grewN(S O T:Nat->Nat)(K:Nat):Bool:=(List.range K).any fun i=>moreN S O T i != 0
theorem ZdM(S O T:Nat->Nat):grewN S O T 0=false:=rfl
theorem ZdH(S O T:Nat->Nat)(K:Nat):grewN S O T (K+1)=(grewN S O T K||(moreN S O T K != 0)):=by
 unfold grewN;rw[List.range_succ,List.any_append];simp
theorem Ze9{S O T:Nat->Nat}{K:Nat}(hS:XK S)(hO:XK O)(hT:XK T)(h:grewN S O T K=true):∃x,x<64*K/\Xf O x=true/\Xf T x=false/\Xf S x=false:=by
 obtain⟨i,hi,hm⟩:=List.any_eq_true.1 h;obtain⟨x,h1,h2⟩:=Zd0 hS hO hT i (by simpa using hm);have:=List.mem_range.1 hi;exact⟨x,by omega,h2⟩
theorem Zgx{S O T:Nat->Nat}{K:Nat}(hS:XK S)(hT:XK T)(h:grewN S O T K=false){x:Nat}(hx:x<64*K)(h1:Xf O x=true)(h2:Xf T x=false):Xf S x=true:=by
 refine ZdS hS hT ?_ h1 h2;have:=List.any_eq_false.1 h (x / 64) (List.mem_range.2 (by omega));simpa using this
def addsN(W:Nat->Nat)(ts:List Nat):Nat->Nat:=ts.foldl Y9 W
theorem Wv{W:Nat->Nat}{ts:List Nat}{q:Nat}(h:q<ts.length):addsN W (ts.take (q+1))=Y9 (addsN W (ts.take q)) ts[q]:=by
 unfold addsN;rw[List.take_succ_eq_append_getElem h,List.foldl_append];rfl
theorem ZL:∀(ts:List Nat){W:Nat->Nat},XK W->XK (addsN W ts)
 | [],_,h=>h
 | t::ts,_,h=>ZL ts (Zc0 h t)
theorem YV:∀(ts:List Nat)(W:Nat->Nat)(y:Nat),Xf (addsN W ts) y=(decide (y∈ts)||Xf W y)
 | [],W,y=>by simp[addsN]
 | t::ts,W,y=>by
  show Xf (addsN (Y9 W t) ts) y=_;rw[YV ts,Z5];by_cases h1:y=t
  ·simp[h1]
  ·by_cases h2:y∈ts<;>simp[h1,h2]
theorem Zdq{a b:Bool}(h:a=b):Ending.returned (.bool a)=Ending.returned (.bool b):=by rw[h]
theorem ZgD(x:Nat):(x:Int).tdiv 64=((x / 64:Nat):Int):=by rw[Int.tdiv_eq_ediv_of_nonneg (by omega)];omega
theorem Zgh(x:Nat):(x:Int).tmod 64=((x % 64:Nat):Int):=by rw[Int.tmod_eq_emod_of_nonneg (by omega)];omega
theorem Zf3{W t:Nat}(hW:W<18446744073709551616):(bits .and .u64 ((W:Int) / 2 ^ t) 1==1)=W.testBit t:=by
 have hq:W / 2 ^ t<18446744073709551616:=Nat.lt_of_le_of_lt (Nat.div_le_self _ _) hW;have e:((W:Int) / 2 ^ t)=((W / 2 ^ t:Nat):Int):=by simp
 rw[e,show(1:Int)=((1:Nat):Int) from rfl,u64_and_nat _ _ hq (by decide),Nat.and_one_is_mod,Nat.testBit_eq_decide_div_mod_eq];by_cases h:W / 2 ^ t % 2=1
 ·simp[h]
 ·have h0:W / 2 ^ t % 2=0:=by omega
  simp[h0]
theorem Zdb{W t:Nat}(ht:t<64)(hW:W<18446744073709551616):bits .or .u64 (W:Int) (IntKind.u64.wrap (2 ^ t))=((W ||| 2 ^ t:Nat):Int):=by
 have h2:2 ^ t<18446744073709551616:=Nat.lt_of_lt_of_le (Nat.pow_lt_pow_right (by decide) ht) (by decide);have e:IntKind.u64.wrap (2 ^ t)=((2 ^ t:Nat):Int):=by
  rw[IntKind.wrap_u64];have:((2 ^ t:Nat):Int)=(2:Int) ^ t:=by simp
  rw[<-this];exact Int.emod_eq_of_lt (Int.natCast_nonneg _) (Int.ofNat_lt.2 h2)
 rw[e,u64_or_nat _ _ hW h2]
end Go.Proofs.YtbofmlmdgkblkaaDoor
namespace Go.Proofs.YtbofmlmdgkblkaaDoor
def dfsV(tg:Nat->List Nat):Nat->Nat->(Nat->Nat) × List Nat->(Nat->Nat) × List Nat
 | 0,_,s=>s
 | m+1,b,s=>if Xf s.1 b=true then s else
  (((tg b).foldl (fun s t=>dfsV tg m t s) (Y9 s.1 b,s.2)).1,((tg b).foldl (fun s t=>dfsV tg m t s) (Y9 s.1 b,s.2)).2++[b])
def XW(xs:List Xg)(b:Nat):List Nat:=match xs[b]? with
 | some x=>x.term.targets.map Int.toNat
 | none=>[]
theorem Jt{xs:List Xg}{b:Nat}(h:b<xs.length):XW xs b=xs[b].term.targets.map Int.toNat:=by
 unfold XW;rw[List.getElem?_eq_getElem h]
def X8(W:Nat->Nat)(n:Nat):Nat:=((List.range n).filter fun x=>!Xf W x).length
theorem J1{W W':Nat->Nat}(n:Nat)(h:∀x,Xf W x=true->Xf W' x=true):X8 W' n<=X8 W n:=by
 unfold X8;rw[<-List.countP_eq_length_filter,<-List.countP_eq_length_filter];refine List.countP_mono_left (fun x _ hx=>?_);cases h1:Xf W x with
 | false=>rfl
 | true=>rw[h x h1]at hx;cases hx
theorem Kv{W:Nat->Nat}{n b:Nat}(h:X8 W n=0)(hb:b<n):Xf W b=true:=by
 unfold X8 at h;have:=List.filter_eq_nil_iff.1 (List.length_eq_zero_iff.1 h) b (List.mem_range.2 hb);simpa using this
theorem JR{W:Nat->Nat}{n b:Nat}(hb:b<n)(hs:Xf W b=false):X8 (Y9 W b) n+1<=X8 W n:=by
 have key:∀n,X8 (Y9 W b) n+(if b<n then 1 else 0)<=X8 W n:=fun n=>by
  induction n with
  | zero=>simp[X8]
  | succ n ih =>
   unfold X8 at *;rw[List.range_succ,List.filter_append,List.filter_append,List.length_append,List.length_append];by_cases e:n=b
   ·subst e
    rw[if_neg (by omega)]at ih;rw[if_pos (by omega)];have h1:([n].filter fun x=>!Xf (Y9 W n) x).length=0:=by simp[Z5]
    have h2:([n].filter fun x=>!Xf W x).length=1:=by simp[hs]
    omega
   ·have h1:([n].filter fun x=>!Xf (Y9 W b) x).length=([n].filter fun x=>!Xf W x).length:=by
     congr 1;refine List.filter_congr (fun x hx=>?_);have:x=n:=by simpa using hx
     subst this;rw[Z5,decide_eq_false e,Bool.false_or]
    by_cases hl:b<n
    ·rw[if_pos hl]at ih;rw[if_pos (by omega)];omega
    ·rw[if_neg hl]at ih;rw[if_neg (by omega)];omega
 have:=key n;rw[if_pos hb]at this;exact this
theorem JB(tg:Nat->List Nat):∀(m b:Nat)(s:(Nat->Nat) × List Nat)(x:Nat),Xf s.1 x=true->Xf (dfsV tg m b s).1 x=true
 | 0,_,_,_,h=>h
 | m+1,b,s,x,h=>by
  rw[dfsV];split
  ·exact h
  ·have key:∀(l:List Nat)(s:(Nat->Nat) × List Nat),Xf s.1 x=true->Xf (l.foldl (fun s t=>dfsV tg m t s) s).1 x=true:=fun l=>by
    induction l with
    | nil=>intro s h;exact h
    | cons t l ih=>intro s h;exact ih _ (JB tg m t s x h)
   exact key _ _ (by rw[Z5,h];simp)
theorem ZbS(tg:Nat->List Nat):∀(m b:Nat)(s:(Nat->Nat) × List Nat),XK s.1->XK (dfsV tg m b s).1
 | 0,_,_,h=>h
 | m+1,b,s,h=>by
  rw[dfsV];split
  ·exact h
  ·have key:∀(l:List Nat)(s:(Nat->Nat) × List Nat),XK s.1->XK (l.foldl (fun s t=>dfsV tg m t s) s).1:=fun l=>by
    induction l with
    | nil=>intro s h;exact h
    | cons t l ih=>intro s h;exact ih _ (ZbS tg m t s h)
   exact key _ _ (Zc0 h b)
theorem KE(tg:Nat->List Nat)(m:Nat)(l:List Nat)(s:(Nat->Nat) × List Nat)(x:Nat)(h:Xf s.1 x=true):Xf (l.foldl (fun s t=>dfsV tg m t s) s).1 x=true:=by
 induction l generalizing s with
 | nil=>exact h
 | cons t l ih=>exact ih _ (JB tg m t s x h)
theorem Zg6(tg:Nat->List Nat)(m:Nat)(l:List Nat)(s:(Nat->Nat) × List Nat)(h:XK s.1):XK (l.foldl (fun s t=>dfsV tg m t s) s).1:=by
 induction l generalizing s with
 | nil=>exact h
 | cons t l ih=>exact ih _ (ZbS tg m t s h)
theorem Za8(tg:Nat->List Nat)(n:Nat)(ht:∀b,b<n->∀t∈tg b,t<n):∀(m b:Nat)(s:(Nat->Nat) × List Nat),b<n->(dfsV tg m b s).2.length+X8 (dfsV tg m b s).1 n<=s.2.length+X8 s.1 n
 | 0,_,_,_=>Nat.le_refl _
 | m+1,b,s,hb=>by
  rw[dfsV];split
  ·exact Nat.le_refl _
  ·rename_i hs
   have hs':Xf s.1 b=false:=by simpa using hs
   have h1:=JR hb hs';have key:∀(l:List Nat)(s:(Nat->Nat) × List Nat),(∀t∈l,t<n)->(l.foldl (fun s t=>dfsV tg m t s) s).2.length+X8 (l.foldl (fun s t=>dfsV tg m t s) s).1 n<=s.2.length+X8 s.1 n:=fun l=>by
    induction l with
    | nil=>intro s _;exact Nat.le_refl _
    | cons t l ih =>
     intro s h;exact Nat.le_trans (ih _ (fun x hx=>h x (List.mem_cons_of_mem _ hx))) (Za8 tg n ht m t s (h t List.mem_cons_self))
   have h2:=key (tg b) (Y9 s.1 b,s.2) (ht b hb);rw[List.length_append];dsimp only at h2 |-;simp only[List.length_cons,List.length_nil];omega
theorem Zf8(tg:Nat->List Nat)(n:Nat)(ht:∀b,b<n->∀t∈tg b,t<n)(m:Nat)(l:List Nat)(s:(Nat->Nat) × List Nat)(h:∀t∈l,t<n):(l.foldl (fun s t=>dfsV tg m t s) s).2.length+X8 (l.foldl (fun s t=>dfsV tg m t s) s).1 n<=s.2.length+X8 s.1 n:=by
 induction l generalizing s with
 | nil=>exact Nat.le_refl _
 | cons t l ih=>exact Nat.le_trans (ih _ (fun x hx=>h x (List.mem_cons_of_mem _ hx))) (Za8 tg n ht m t s (h t List.mem_cons_self))
theorem V0{tg:Nat->List Nat}{m b:Nat}{s:(Nat->Nat) × List Nat}(h:Xf s.1 b=false):dfsV tg (m+1) b s=(((tg b).foldl (fun s t=>dfsV tg m t s) (Y9 s.1 b,s.2)).1,((tg b).foldl (fun s t=>dfsV tg m t s) (Y9 s.1 b,s.2)).2++[b]):=by
 rw[dfsV,if_neg (by rw[h];decide)]
theorem Ua{tg:Nat->List Nat}{m b:Nat}{s:(Nat->Nat) × List Nat}(h:Xf s.1 b=true):dfsV tg m b s=s:=by
 cases m with
 | zero=>rfl
 | succ m=>rw[dfsV,if_pos h]
inductive Sp (I:Nat->Nat->Nat) (T:Nat->Nat->Nat) (ord:Nat->Prop) (src:Nat->List Nat):Nat->Nat->Prop
 | init {b x:Nat}:Xf (I b) x=true->Sp I T ord src b x
 | take {b s x:Nat}:ord b->s∈src b->Sp I T ord src s x->Xf (T b) x=false->Sp I T ord src b x
def Zo(T:Nat->Nat->Nat)(b s:Nat)(W:Nat->Nat->Nat):Nat->Nat->Nat:=fun i=>if i=b then butN (W b) (W s) (T b)else W i
def takesN(T:Nat->Nat->Nat)(K b:Nat)(l:List Nat)(s:(Nat->Nat->Nat) × Bool):(Nat->Nat->Nat) × Bool :=
 l.foldl (fun s t=>(Zo T b t s.1,grewN (s.1 b) (s.1 t) (T b) K||s.2)) s
theorem Zci{T:Nat->Nat->Nat}{K b:Nat}{l:List Nat}{q:Nat}(h:q<l.length)(s:(Nat->Nat->Nat) × Bool):takesN T K b (l.take (q+1)) s=(Zo T b l[q] (takesN T K b (l.take q) s).1,grewN ((takesN T K b (l.take q) s).1 b) ((takesN T K b (l.take q) s).1 l[q]) (T b) K||(takesN T K b (l.take q) s).2):=by
 unfold takesN;rw[List.take_succ_eq_append_getElem h,List.foldl_append];rfl
def XV(W:Nat->Nat->Nat):Prop:=∀i,XK (W i)
theorem KN{T W:Nat->Nat->Nat}(b s:Nat)(h:XV W):XV (Zo T b s W):=fun i=>by
 unfold Zo;split
 ·exact Zc7 (h b) (h s)
 ·exact h i
theorem KB{T W:Nat->Nat->Nat}(b s:Nat)(h:XV W)(hT:XV T)(i x:Nat):Xf (Zo T b s W i) x=(Xf (W i) x||(decide (i=b)&&Xf (W s) x && !Xf (T b) x)):=by
 unfold Zo;by_cases e:i=b
 ·subst e
  rw[if_pos rfl,ZcR (h i) (hT i)];simp
 ·rw[if_neg e];simp[e]
theorem Vj{T:Nat->Nat->Nat}{K b:Nat}:∀(l:List Nat)(s:(Nat->Nat->Nat) × Bool),XV s.1->XV (takesN T K b l s).1
 | [],_,h=>h
 | t::l,_,h=>Vj l _ (KN b t h)
theorem JZ{T:Nat->Nat->Nat}{K b:Nat}(hT:XV T):∀(l:List Nat)(s:(Nat->Nat->Nat) × Bool),XV s.1->∀i x,Xf (s.1 i) x=true->Xf ((takesN T K b l s).1 i) x=true
 | [],_,_,_,_,h=>h
 | t::l,s,hs,i,x,h=>JZ hT l _ (KN b t hs) i x (by show Xf (Zo T b t s.1 i) x=true;rw[KB b t hs hT,h];rfl)
theorem UG{I T:Nat->Nat->Nat}{K b:Nat}{ord:Nat->Prop}{src:Nat->List Nat}(hT:XV T)(hb:ord b):∀(l:List Nat)(s:(Nat->Nat->Nat) × Bool),XV s.1->(∀t∈l,t∈src b)->(∀i x,Xf (s.1 i) x=true->Sp I T ord src i x)->∀i x,Xf ((takesN T K b l s).1 i) x=true->Sp I T ord src i x
 | [],_,_,_,h=>h
 | t::l,s,hs,hl,h=>UG hT hb l _ (KN b t hs) (fun u hu=>hl u (List.mem_cons_of_mem _ hu)) (fun i x hx=>by
  have hx':Xf (Zo T b t s.1 i) x=true:=hx;rw[KB b t hs hT]at hx';cases hi:Xf (s.1 i) x with
  | true=>exact h i x hi
  | false =>
   rw[hi]at hx';simp only[Bool.false_or,Bool.and_eq_true,decide_eq_true_eq,Bool.not_eq_true']at hx';obtain⟨⟨rfl,h2⟩,h3⟩:=hx';exact Sp.take hb (hl t List.mem_cons_self) (h t x h2) h3)
theorem VW{T:Nat->Nat->Nat}{K b:Nat}:∀(l:List Nat)(s:(Nat->Nat->Nat) × Bool),s.2=true->(takesN T K b l s).2=true
 | [],_,h=>h
 | t::l,s,h=>VW l _ (by show(_||s.2)=true;rw[h];simp)
theorem UA{T:Nat->Nat->Nat}{K b:Nat}(hT:XV T):∀(l:List Nat)(s:(Nat->Nat->Nat) × Bool),XV s.1->(takesN T K b l s).2=false->(∀i x,x<64*K->Xf ((takesN T K b l s).1 i) x=Xf (s.1 i) x)/\∀t∈l,∀x,x<64*K->Xf (s.1 t) x=true->Xf (T b) x=false->Xf (s.1 b) x=true
 | [],_,_,_=>⟨fun _ _ _=>rfl,fun t ht=>by cases ht⟩
 | t::l,s,hs,hq=>by
  have hg:(grewN (s.1 b) (s.1 t) (T b) K||s.2)=false:=by
   cases e:(grewN (s.1 b) (s.1 t) (T b) K||s.2)with
   | false=>rfl
   | true=>have:=VW (T:=T) (K:=K) (b:=b) l (Zo T b t s.1,grewN (s.1 b) (s.1 t) (T b) K||s.2) e;rw[show takesN T K b (t::l) s=takesN T K b l (Zo T b t s.1,grewN (s.1 b) (s.1 t) (T b) K||s.2) from rfl,this]at hq;cases hq
  have hg1:grewN (s.1 b) (s.1 t) (T b) K=false:=by
   cases e:grewN (s.1 b) (s.1 t) (T b) K with
   | false=>rfl
   | true=>rw[e]at hg;cases hg
  have hcl:∀x,x<64*K->Xf (s.1 t) x=true->Xf (T b) x=false->Xf (s.1 b) x=true:=fun x hx h1 h2=>Zgx (hs b) (hT b) hg1 hx h1 h2
  have hsame:∀i x,x<64*K->Xf (Zo T b t s.1 i) x=Xf (s.1 i) x:=fun i x hx=>by
   rw[KB b t hs hT];by_cases e:i=b
   ·subst e
    cases h1:Xf (s.1 t) x with
    | false=>simp
    | true =>
     cases h2:Xf (T i) x with
     | true=>simp
     | false=>rw[hcl x hx h1 h2];rfl
   ·simp[e]
  obtain⟨h1,h2⟩:=UA hT l (Zo T b t s.1,grewN (s.1 b) (s.1 t) (T b) K||s.2) (KN b t hs) hq;refine⟨fun i x hx=>(h1 i x hx).trans (hsame i x hx),fun u hu x hx hxu hxT=>?_⟩;rcases List.mem_cons.1 hu with rfl | hu
  ·exact hcl x hx hxu hxT
  ·have:=h2 u hu x hx (by rw[hsame u x hx];exact hxu) hxT
   rw[hsame b x hx]at this;exact this
theorem Vp{T:Nat->Nat->Nat}{K b:Nat}(hT:XV T):∀(l:List Nat)(s:(Nat->Nat->Nat) × Bool),XV s.1->s.2=false->(takesN T K b l s).2=true->X8 ((takesN T K b l s).1 b) (64*K)<X8 (s.1 b) (64*K)
 | [],s,_,h0,h1=>by rw[show takesN T K b [] s=s from rfl,h0]at h1;cases h1
 | t::l,s,hs,h0,h1=>by
  cases hg:grewN (s.1 b) (s.1 t) (T b) K with
  | false =>
   have e:takesN T K b (t::l) s=takesN T K b l (Zo T b t s.1,false):=by show takesN T K b l (Zo T b t s.1,grewN (s.1 b) (s.1 t) (T b) K||s.2)=_;rw[hg,h0];rfl
   rw[e]at h1 |-;refine Nat.lt_of_lt_of_le (Vp hT l (Zo T b t s.1,false) (KN b t hs) rfl h1) ?_;exact J1 _ (fun x hx=>by show Xf (Zo T b t s.1 b) x=true;rw[KB b t hs hT,hx];rfl)
  | true =>
   obtain⟨x,hx,h2,h3,h4⟩:=Ze9 (hs b) (hs t) (hT b) hg;have key:∀W':Nat->Nat,(∀y,Xf (s.1 b) y=true->Xf W' y=true)->Xf W' x=true->X8 W' (64*K)<X8 (s.1 b) (64*K):=fun W' hm hw=>by
    have h5:=JR hx h4;have h6:X8 W' (64*K)<=X8 (Y9 (s.1 b) x) (64*K):=J1 _ (fun y hy=>by
     rw[Z5]at hy;cases hyx:decide (y=x)with
     | true=>rw[of_decide_eq_true hyx];exact hw
     | false=>rw[hyx,Bool.false_or]at hy;exact hm y hy)
    omega
   refine key _ (fun y hy=>JZ hT (t::l) s hs b y hy) ?_;refine JZ hT l (Zo T b t s.1,grewN (s.1 b) (s.1 t) (T b) K||s.2) (KN b t hs) b x ?_;show Xf (Zo T b t s.1 b) x=true;rw[KB b t hs hT,h2,h3];simp
theorem UE{T:Nat->Nat->Nat}{K b i:Nat}(h:i≠b):∀(l:List Nat)(s:(Nat->Nat->Nat) × Bool),(takesN T K b l s).1 i=s.1 i
 | [],_=>rfl
 | t::l,s=>(UE h l _).trans (by show Zo T b t s.1 i=_;unfold Zo;rw[if_neg h])
theorem Zbx{I T W:Nat->Nat->Nat}{K:Nat}{ord:Nat->Prop}{src:Nat->List Nat}(hI:∀b x,Xf (I b) x=true->Xf (W b) x=true)(hS:∀b x,Xf (W b) x=true->Sp I T ord src b x)(hC:∀b,ord b->∀t∈src b,∀x,x<64*K->Xf (W t) x=true->Xf (T b) x=false->Xf (W b) x=true)(b x:Nat)(hx:x<64*K):Xf (W b) x=true↔Sp I T ord src b x:=by
 refine⟨hS b x,fun h=>?_⟩
 induction h with
 | init h=>exact hI _ _ h
 | take hb hs _ ht ih=>exact hC _ hb _ hs _ hx (ih hx) ht
theorem Zat{W W':Nat->Nat}(n:Nat)(h:∀x,x<n->Xf W' x=Xf W x):X8 W' n=X8 W n:=by
 unfold X8;congr 1;exact List.filter_congr (fun x hx=>by rw[h x (List.mem_range.1 hx)])
def KX(W:Nat->Nat->Nat)(K:Nat):Nat->Nat
 | 0=>0
 | n+1=>KX W K n+X8 (W n) (64*K)
theorem Vo{W W':Nat->Nat->Nat}{K:Nat}:∀n,(∀i,i<n->X8 (W' i) (64*K)=X8 (W i) (64*K))->KX W' K n=KX W K n
 | 0,_=>rfl
 | n+1,h=>by rw[KX,KX,Vo n (fun i hi=>h i (by omega)),h n (by omega)]
theorem ZaR{W W':Nat->Nat->Nat}{K b:Nat}(ho:∀i,i≠b->W' i=W i)(hb:X8 (W' b) (64*K)<X8 (W b) (64*K)):∀n,b<n->KX W' K n<KX W K n
 | 0,h=>absurd h (by omega)
 | n+1,h=>by
  rw[KX,KX];by_cases e:n=b
  ·subst e
   rw[Vo n (fun i hi=>by rw[ho i (by omega)])];omega
  ·rw[ho n e]
   have:=ZaR ho hb n (by omega);omega
def ClB(T:Nat->Nat->Nat)(K:Nat)(src:Nat->List Nat)(W:Nat->Nat->Nat)(b:Nat):Prop:=∀t∈src b,∀x,x<64*K->Xf (W t) x=true->Xf (T b) x=false->Xf (W b) x=true
theorem ZgT{T:Nat->Nat->Nat}{K:Nat}{src:Nat->List Nat}{W W':Nat->Nat->Nat}{b:Nat}(h:ClB T K src W b)(e:∀i x,x<64*K->Xf (W' i) x=Xf (W i) x):ClB T K src W' b:=fun t ht x hx h1 h2=>by
 rw[e _ _ hx]at h1 |-;exact h t ht x hx h1 h2
def ClQ(T:Nat->Nat->Nat)(K:Nat)(src:Nat->List Nat)(W:Nat->Nat->Nat)(R:List Nat)(q p:Nat):Prop:=∀j,j<q->ClB T K src W (R.getD ((p+R.length-1-j) % R.length) 0)
theorem Zbq{T:Nat->Nat->Nat}{K:Nat}{src:Nat->List Nat}{W:Nat->Nat->Nat}{R:List Nat}{p:Nat}:ClQ T K src W R 0 p:=fun j hj=>absurd hj (by omega)
theorem ZeJ{T:Nat->Nat->Nat}{K:Nat}{src:Nat->List Nat}{W W':Nat->Nat->Nat}{R:List Nat}{q p:Nat}(h:ClQ T K src W R q p)(e:∀i x,x<64*K->Xf (W' i) x=Xf (W i) x)(hp:p<R.length)(hb:ClB T K src W R[p]):ClQ T K src W' R (q+1) (p+1):=fun j hj=>by
 refine ZgT ?_ e;cases j with
 | zero =>
  have:(p+1+R.length-1-0) % R.length=p:=by
   rw[show p+1+R.length-1-0=p+R.length by omega,Nat.add_mod_right,Nat.mod_eq_of_lt hp]
  rw[this,show R.getD p 0=R[p] by simp[hp]];exact hb
 | succ j =>
  rw[show p+1+R.length-1-(j+1)=p+R.length-1-j by omega];exact h j (by omega)
theorem ZeN{T:Nat->Nat->Nat}{K:Nat}{src:Nat->List Nat}{W:Nat->Nat->Nat}{R:List Nat}{q:Nat}(h:ClQ T K src W R q R.length)(hq:q<R.length):ClQ T K src W R q 0:=fun j hj=>by
 have:=h j hj;rw[show R.length+R.length-1-j=(0+R.length-1-j)+R.length by omega,Nat.add_mod_right]at this;exact this
theorem Zg1{T:Nat->Nat->Nat}{K:Nat}{src:Nat->List Nat}{W:Nat->Nat->Nat}{R:List Nat}{p:Nat}(h:ClQ T K src W R R.length p)(hp:p<=R.length){b:Nat}(hb:b∈R):ClB T K src W b:=by
 obtain⟨i,hi,rfl⟩:=List.getElem_of_mem hb;have key:(p+R.length-1-(p+R.length-1-i) % R.length) % R.length=i:=by
  by_cases c:i+1<=p
  ·have e1:(p+R.length-1-i) % R.length=p-1-i:=by
    rw[show p+R.length-1-i=(p-1-i)+R.length by omega,Nat.add_mod_right,Nat.mod_eq_of_lt (by omega)]
   rw[e1,show p+R.length-1-(p-1-i)=i+R.length by omega,Nat.add_mod_right,Nat.mod_eq_of_lt hi]
  ·have e1:(p+R.length-1-i) % R.length=p+R.length-1-i:=Nat.mod_eq_of_lt (by omega)
   rw[e1,show p+R.length-1-(p+R.length-1-i)=i by omega,Nat.mod_eq_of_lt hi]
 have:=h ((p+R.length-1-i) % R.length) (Nat.mod_lt _ (by omega));rw[key,show R.getD i 0=R[i] by simp[hi]]at this;exact this
end Go.Proofs.YtbofmlmdgkblkaaDoor
namespace Go.Proofs.YtbofmlmdgkblkaaDoor
inductive Av (tg:Nat->List Nat) (a:Nat):Nat->Prop
 | root:a≠0->Av tg a 0
 | step {b t:Nat}:Av tg a b->t∈tg b->t≠a->Av tg a t
inductive Re (tg:Nat->List Nat):Nat->Prop
 | root:Re tg 0
 | step {b t:Nat}:Re tg b->t∈tg b->Re tg t
structure Kk(tg:Nat->List Nat)(a b:Nat):Prop where
 ra:Re tg a
 rb:Re tg b
 no:¬Av tg a b
variable {tg : Nat -> List Nat}
theorem Zhk{a b:Nat}(h:Av tg a b):Re tg b:=by
 induction h with
 | root=>exact Re.root
 | step _ ht _ ih=>exact Re.step ih ht
theorem Zhg{a b:Nat}(h:Av tg a b):b≠a:=by
 cases h with
 | root h=>exact fun e=>h e.symm
 | step _ _ h=>exact h
theorem JH{b:Nat}(h:Re tg b):Kk tg b b:=⟨h,h,fun e=>Zhg e rfl⟩
theorem Zex{b:Nat}(h:Re tg b):Kk tg 0 b:=⟨Re.root,h,fun e=>by
 have:∀{c},Av tg 0 c->False:=fun hc=>by
  induction hc with
  | root h=>exact h rfl
  | step _ _ _ ih=>exact ih
 exact this e⟩
theorem Zia{x a b:Nat}(h:Av tg x b)(hn:¬Av tg a b):Av tg x a:=by
 induction h with
 | root hx =>
  have:a=0:=Classical.byContradiction (fun e=>hn (Av.root e));rw[this];exact Av.root hx
 | @step c t hc ht hx ih =>
  by_cases h1:Av tg a c
  ·have:t=a:=Classical.byContradiction (fun e=>hn (Av.step h1 ht e))
   rw[<-this];exact Av.step hc ht hx
  ·exact ih h1
theorem Um{a b c:Nat}(h:Kk tg a b)(k:Kk tg b c):Kk tg a c:=⟨h.ra,k.rb,fun e=>h.no (Zia e k.no)⟩
theorem ZeB{a b:Nat}(hab:a≠b){c:Nat}(h:Re tg c):(Av tg a c/\Av tg b c)\/Av tg b a\/Av tg a b:=by
 induction h with
 | root =>
  by_cases ha:a=0
  ·subst ha;exact Or.inr (Or.inl (Av.root (fun e=>hab e.symm)))
  ·by_cases hb:b=0
   ·subst hb;exact Or.inr (Or.inr (Av.root ha))
   ·exact Or.inl ⟨Av.root ha,Av.root hb⟩
 | @step c t _ ht ih =>
  rcases ih with⟨h1,h2⟩ | h | h
  ·by_cases ea:t=a
   ·subst ea;exact Or.inr (Or.inl (Av.step h2 ht hab))
   ·by_cases eb:t=b
    ·subst eb;exact Or.inr (Or.inr (Av.step h1 ht (fun e=>hab e.symm)))
    ·exact Or.inl ⟨Av.step h1 ht ea,Av.step h2 ht eb⟩
  ·exact Or.inr (Or.inl h)
  ·exact Or.inr (Or.inr h)
theorem TC{a b:Nat}(h:Kk tg a b)(k:Kk tg b a):a=b:=Classical.byContradiction (fun e=>by
 rcases ZeB e h.rb with⟨_,h2⟩ | h2 | h2
 ·exact Zhg h2 rfl
 ·exact k.no h2
 ·exact h.no h2)
inductive Sf (tg:Nat->List Nat) (a b x:Nat):Nat->Prop
 | here:Sf tg a b x x
 | step {c t:Nat}:Sf tg a b x c->t∈tg c->t≠a->t≠b->Sf tg a b x t
theorem ZgN{a b c:Nat}(h:Re tg c):(Av tg a c/\Av tg b c)\/Sf tg a b a c\/Sf tg a b b c:=by
 induction h with
 | root =>
  by_cases ha:a=0
  ·subst ha;exact Or.inr (Or.inl Sf.here)
  ·by_cases hb:b=0
   ·subst hb;exact Or.inr (Or.inr Sf.here)
   ·exact Or.inl ⟨Av.root ha,Av.root hb⟩
 | @step c t _ ht ih =>
  by_cases ea:t=a
  ·subst ea;exact Or.inr (Or.inl Sf.here)
  ·by_cases eb:t=b
   ·subst eb;exact Or.inr (Or.inr Sf.here)
   ·rcases ih with⟨h1,h2⟩ | h | h
    ·exact Or.inl ⟨Av.step h1 ht ea,Av.step h2 ht eb⟩
    ·exact Or.inr (Or.inl (Sf.step h ht ea eb))
    ·exact Or.inr (Or.inr (Sf.step h ht ea eb))
theorem Zhe{a b x c y:Nat}(h:Sf tg a b x c)(hy:y=a\/y=b)(hx:Av tg y x):Av tg y c:=by
 induction h with
 | here=>exact hx
 | step _ ht h1 h2 ih=>exact Av.step ih ht (by rcases hy with rfl | rfl;exact h1;exact h2)
theorem Zae{a b c:Nat}(h:Kk tg a c)(k:Kk tg b c):Kk tg a b\/Kk tg b a:=by
 rcases ZgN (a:=a) (b:=b) h.rb with⟨h1,_⟩ | h1 | h1
 ·exact absurd h1 h.no
 ·exact Or.inr ⟨k.ra,h.ra,fun e=>k.no (Zhe h1 (Or.inr rfl) e)⟩
 ·exact Or.inl ⟨h.ra,k.ra,fun e=>h.no (Zhe h1 (Or.inl rfl) e)⟩
end Go.Proofs.YtbofmlmdgkblkaaDoor
namespace Go.Proofs.YtbofmlmdgkblkaaDoor
variable {tg : Nat -> List Nat}
def Bef(l:List Nat)(x a:Nat):Prop:=∃l1 l2,l=l1++l2/\x∈l1/\a∈l2
theorem ZgE{l r:List Nat}{x a:Nat}(h:Bef l x a):Bef (l++r) x a:=by
 obtain⟨l1,l2,rfl,h1,h2⟩:=h;exact⟨l1,l2++r,by simp,h1,by simp[h2]⟩
theorem Zev{l:List Nat}{x b:Nat}(h:x∈l):Bef (l++[b]) x b:=⟨l,[b],rfl,h,by simp⟩
def Stk(tg:Nat->List Nat)(P:List Nat)(b:Nat):Prop:=∀a,Kk tg a b->a≠b->a∈P
theorem ZfR:Stk tg [] 0:=fun _ h hne=>absurd (Av.root hne) h.no
theorem ZeU{P:List Nat}{b t:Nat}(h:Stk tg P b)(hb:Re tg b)(ht:t∈tg b):Stk tg (b::P) t:=fun a ha hne=>by
 by_cases e:a=b
 ·rw[e];exact List.mem_cons_self
 ·exact List.mem_cons_of_mem _ (h a ⟨ha.ra,hb,fun k=>ha.no (Av.step k ht (fun e2=>hne e2.symm))⟩ e)
structure Za6(tg:Nat->List Nat)(P:List Nat)(s:(Nat->Nat) × List Nat):Prop where
 seen:∀x∈s.2,Xf s.1 x=true
 nd:s.2.Nodup
 all:∀x,Xf s.1 x=true->x∈s.2\/x∈P
 stk:∀x∈P,x ∉ s.2/\Xf s.1 x=true
 ord:∀x∈s.2,∀a,Kk tg a x->a≠x->a∈P\/Bef s.2 x a
 re:∀x∈s.2,Re tg x
 cl:∀x∈s.2,∀t∈tg x,Xf s.1 t=true
theorem Zeb{P:List Nat}{s:(Nat->Nat) × List Nat}{b:Nat}(h:Za6 tg P s)(hb:Xf s.1 b=false):Za6 tg (b::P) (Y9 s.1 b,s.2):=by
 have mono:∀x,Xf s.1 x=true->Xf (Y9 s.1 b) x=true:=fun x hx=>by rw[Z5,hx];simp
 refine⟨fun x hx=>mono x (h.seen x hx),h.nd,fun x hx=>?_,fun x hx=>?_,fun x hx a ha hne=>?_,h.re,fun x hx t ht=>mono t (h.cl x hx t ht)⟩
 ·rw[Z5]at hx
  by_cases e:x=b
  ·exact Or.inr (by rw[e];exact List.mem_cons_self)
  ·rw[decide_eq_false e,Bool.false_or]at hx
   rcases h.all x hx with h1 | h1
   ·exact Or.inl h1
   ·exact Or.inr (List.mem_cons_of_mem _ h1)
 ·rcases List.mem_cons.1 hx with rfl | hx
  ·exact⟨fun k=>(by rw[h.seen _ k]at hb;cases hb),by rw[Z5];simp⟩
  ·exact⟨(h.stk x hx).1,mono x (h.stk x hx).2⟩
 ·rcases h.ord x hx a ha hne with h1 | h1
  ·exact Or.inl (List.mem_cons_of_mem _ h1)
  ·exact Or.inr h1
theorem ZfF{P:List Nat}{s:(Nat->Nat) × List Nat}{b:Nat}(h:Za6 tg (b::P) s)(hP:b ∉ P)(hr:Re tg b)(hs:Stk tg P b)(hc:∀t∈tg b,Xf s.1 t=true):Za6 tg P (s.1,s.2++[b]):=by
 have hb:=h.stk b List.mem_cons_self;refine⟨fun x hx=>?_,?_,fun x hx=>?_,fun x hx=>?_,fun x hx a ha hne=>?_,fun x hx=>?_,fun x hx t ht=>?_⟩
 ·rcases List.mem_append.1 hx with h1 | h1
  ·exact h.seen x h1
  ·have:x=b:=by simpa using h1
   rw[this];exact hb.2
 ·rw[List.nodup_append]
  refine⟨h.nd,by simp,fun x hx y hy e=>?_⟩;have:y=b:=by simpa using hy
  rw[e,this]at hx;exact hb.1 hx
 ·rcases h.all x hx with h1 | h1
  ·exact Or.inl (List.mem_append_left _ h1)
  ·rcases List.mem_cons.1 h1 with rfl | h1
   ·exact Or.inl (by simp)
   ·exact Or.inr h1
 ·have hx':=h.stk x (List.mem_cons_of_mem _ hx)
  refine⟨fun k=>?_,hx'.2⟩;rcases List.mem_append.1 k with k | k
  ·exact hx'.1 k
  ·have:x=b:=by simpa using k
   rw[this]at hx;exact hP hx
 ·rcases List.mem_append.1 hx with h1 | h1
  ·rcases h.ord x h1 a ha hne with h2 | h2
   ·rcases List.mem_cons.1 h2 with rfl | h2
    ·exact Or.inr (Zev h1)
    ·exact Or.inl h2
   ·exact Or.inr (ZgE h2)
  ·have:x=b:=by simpa using h1
   subst this;exact Or.inl (hs a ha hne)
 ·rcases List.mem_append.1 hx with h1 | h1
  ·exact h.re x h1
  ·have:x=b:=by simpa using h1
   rw[this];exact hr
 ·rcases List.mem_append.1 hx with h1 | h1
  ·exact h.cl x h1 t ht
  ·have:x=b:=by simpa using h1
   rw[this]at ht;exact hc t ht
theorem Zb2{n:Nat}(hn:∀b,b<n->∀t∈tg b,t<n):∀(m b:Nat)(s:(Nat->Nat) × List Nat)(P:List Nat),b<n->X8 s.1 n<=m->Re tg b->Stk tg P b->Za6 tg P s->Za6 tg P (dfsV tg m b s)/\Xf (dfsV tg m b s).1 b=true
 | 0,b,s,P,hb,hu,_,_,hi=>⟨hi,Kv (n:=n) (Nat.le_zero.1 hu) hb⟩
 | m+1,b,s,P,hb,hu,hr,hs,hi=>by
  cases hh:Xf s.1 b with
  | true=>rw[Ua hh];exact⟨hi,hh⟩
  | false =>
   rw[V0 hh];have hP:b ∉ P:=fun k=>by rw[(hi.stk b k).2]at hh;cases hh
   have hu1:=JR hb hh;have key:∀(l:List Nat)(s1:(Nat->Nat) × List Nat),(∀t∈l,t∈tg b)->X8 s1.1 n<=m->Za6 tg (b::P) s1->Za6 tg (b::P) (l.foldl (fun s t=>dfsV tg m t s) s1)/\∀t∈l,Xf (l.foldl (fun s t=>dfsV tg m t s) s1).1 t=true:=fun l=>by
    induction l with
    | nil=>intro s1 _ _ h1;exact⟨h1,fun t ht=>by cases ht⟩
    | cons t l ih =>
     intro s1 hl h1 h2;have ht:=hl t List.mem_cons_self;obtain⟨k1,k2⟩:=Zb2 hn m t s1 (b::P) (hn b hb t ht) h1 (Re.step hr ht) (ZeU hs hr ht) h2;obtain⟨k3,k4⟩:=ih (dfsV tg m t s1) (fun u hu=>hl u (List.mem_cons_of_mem _ hu)) (Nat.le_trans (J1 n (fun x hx=>JB tg m t s1 x hx)) h1) k1;refine⟨k3,fun u hu=>?_⟩;rcases List.mem_cons.1 hu with rfl | hu
     ·exact KE tg m l _ _ k2
     ·exact k4 u hu
   obtain⟨k1,k2⟩:=key (tg b) (Y9 s.1 b,s.2) (fun t ht=>ht) (by show X8 (Y9 s.1 b) n<=m;omega) (Zeb hi hh);refine⟨ZfF k1 hP hr hs k2,?_⟩;exact KE tg m (tg b) (Y9 s.1 b,s.2) b (by show Xf (Y9 s.1 b) b=true;rw[Z5];simp)
theorem KJ(W:Nat->Nat)(n:Nat):X8 W n<=n:=Nat.le_trans (List.length_filter_le _ _) (by simp)
theorem ZgM{n:Nat}(hn:∀b,b<n->∀t∈tg b,t<n)(h0:0<n){m:Nat}(hm:n<=m) :
 (∀x,x∈(dfsV tg m 0 (fun _=>0,[])).2↔Re tg x)/\(∀x,Xf (dfsV tg m 0 (fun _=>0,[])).1 x=true↔Re tg x)/\(dfsV tg m 0 (fun _=>0,[])).2.Nodup/\∀x a,Kk tg a x->a≠x->Bef (dfsV tg m 0 (fun _=>0,[])).2 x a:=by
 have hi:Za6 tg [] (fun _=>0,[]):=⟨fun x hx=>(by cases hx),List.nodup_nil,fun x hx=>(by rw[Jj]at hx;cases hx),fun x hx=>(by cases hx),fun x hx=>(by cases hx),fun x hx=>(by cases hx),fun x hx=>(by cases hx)⟩;obtain⟨h1,h2⟩:=Zb2 hn m 0 (fun _=>0,[]) [] h0 (Nat.le_trans (KJ _ _) hm) Re.root ZfR hi;generalize dfsV tg m 0 (fun _=>0,[])=s at *;have hs:∀x,Xf s.1 x=true->x∈s.2:=fun x hx=>by
  rcases h1.all x hx with h | h
  ·exact h
  ·cases h
 have hr:∀x,Re tg x->Xf s.1 x=true:=fun x hx=>by
  induction hx with
  | root=>exact h2
  | step _ ht ih=>exact h1.cl _ (hs _ ih) _ ht
 refine⟨fun x=>⟨h1.re x,fun h=>hs x (hr x h)⟩,fun x=>⟨fun h=>h1.re x (hs x h),hr x⟩,h1.nd,fun x a ha hne=>?_⟩;rcases h1.ord x (hs x (hr x ha.rb)) a ha hne with h | h
 ·cases h
 ·exact h
end Go.Proofs.YtbofmlmdgkblkaaDoor
namespace Go.Proofs.YtbofmlmdgkblkaaDoor
variable {tg : Nat -> List Nat}
structure Idm(tg:Nat->List Nat)(a b:Nat):Prop where
 dom:Kk tg a b
 ne:a≠b
 near:∀c,Kk tg c b->c≠b->Kk tg c a
theorem Zba{l:List Nat}{x a:Nat}(h:Bef l x a):Bef l.reverse a x:=by
 obtain⟨l1,l2,rfl,h1,h2⟩:=h;exact⟨l2.reverse,l1.reverse,by simp,by simpa using h2,by simpa using h1⟩
theorem VV{l:List Nat}(hn:l.Nodup){i:Nat}(hi:i<l.length){x:Nat}(h:Bef l x l[i]):x∈l.take i:=by
 obtain⟨l1,l2,e,h1,h2⟩:=h;have hl:l1.length<=i:=Nat.le_of_not_lt (fun hlt=>by
  have k1:l[i]∈l1:=by
   have:l[i]=l1[i]:=by
    have h3:l[i]?=(l1++l2)[i]?:=by rw[<-e]
    rw[List.getElem?_eq_getElem hi,List.getElem?_append_left hlt,List.getElem?_eq_getElem hlt]at h3;injection h3
   rw[this];exact List.getElem_mem hlt
  rw[e,List.nodup_append]at hn;exact hn.2.2 _ k1 _ h2 rfl)
 rw[e,List.take_append];rw[List.take_of_length_le hl];exact List.mem_append_left _ h1
theorem Zfy{l:List Nat}{p:Nat->Bool}{a:Nat}(h:l.reverse.find? p=some a):p a=true/\a∈l/\∀c∈l,p c=true->c=a\/Bef l c a:=by
 rw[List.find?_eq_some_iff_append]at h;obtain⟨hp,az,bs,e,hb⟩:=h;have el:l=bs.reverse++[a]++az.reverse:=by
  have:=congrArg List.reverse e;simpa using this
 refine⟨hp,by rw[el];simp,fun c hc hpc=>?_⟩;rw[el]at hc;rcases List.mem_append.1 hc with h1 | h1
 ·rcases List.mem_append.1 h1 with h2 | h2
  ·exact Or.inr ⟨bs.reverse,[a]++az.reverse,by rw[el,List.append_assoc],h2,by simp⟩
  ·exact Or.inl (by simpa using h2)
 ·have:=hb c (by simpa using h1)
  rw[hpc]at this;cases this
theorem Zek{o:List Nat}(hn:o.Nodup)(hm:∀x,x∈o↔Re tg x)(ho:∀x a,Kk tg a x->a≠x->Bef o a x){i:Nat}(hi:i<o.length){p:Nat->Bool}(hp:∀a∈o,p a=true↔¬Av tg a o[i]) :
 match (o.take i).reverse.find? p with
 | some a=>Idm tg a o[i]
 | none=>∀c,Kk tg c o[i]->c=o[i]:=by
 have hb:Re tg o[i]:=(hm _).1 (List.getElem_mem hi);have hdom:∀a,a∈o->(p a=true↔Kk tg a o[i]):=fun a ha=>⟨fun h=>⟨(hm a).1 ha,hb,(hp a ha).1 h⟩,fun h=>(hp a ha).2 h.no⟩
 have hnd:(o.take i).Nodup:=hn.sublist (List.take_sublist _ _);have hin:∀c,Kk tg c o[i]->c≠o[i]->c∈o.take i:=fun c hc hne=>VV hn hi (ho o[i] c hc hne)
 have hni:o[i] ∉ o.take i:=fun k=>by
  have e:o=o.take i++o.drop i:=(List.take_append_drop i o).symm;have hd:o[i]∈o.drop i:=by rw[List.drop_eq_getElem_cons hi];exact List.mem_cons_self
  rw[e,List.nodup_append]at hn;exact hn.2.2 _ k _ hd rfl
 cases hf:(o.take i).reverse.find? p with
 | some a =>
  obtain⟨h1,h2,h3⟩:=Zfy hf;have hao:a∈o:=List.mem_of_mem_take h2;have hda:=(hdom a hao).1 h1;have hane:a≠o[i]:=fun e=>hni (by rw[<-e];exact h2)
  refine⟨hda,hane,fun c hc hne=>?_⟩;have hct:=hin c hc hne;rcases h3 c hct ((hdom c (List.mem_of_mem_take hct)).2 hc)with e | hbf
  ·rw[e];exact JH hda.ra
  ·by_cases eca:c=a
   ·rw[eca];exact JH hda.ra
   ·rcases Zae hc hda with k | k
    ·exact k
    ·-- a dominates c: then a stands ahead of c
     exfalso;have h4:=ho c a k (fun e=>eca e.symm);have hci:∃j,∃hj:j<(o.take i).length,(o.take i)[j]=a:=List.getElem_of_mem h2;obtain⟨j,hj,ej⟩:=hci;have hjo:j<o.length:=by rw[List.length_take]at hj;omega
     have ej':o[j]=a:=by rw[<-ej,List.getElem_take]
     have h5:c∈o.take j:=by
      have hbo:Bef o c o[j]:=by
       rw[ej'];obtain⟨l1,l2,e,k1,k2⟩:=hbf;exact⟨l1,l2++o.drop i,by rw[<-List.append_assoc,<-e,List.take_append_drop],k1,List.mem_append_left _ k2⟩
      exact VV hn hjo hbo
     obtain⟨m,hmm,em⟩:=List.getElem_of_mem h5;have hmo:m<o.length:=by rw[List.length_take]at hmm;omega
     have em':o[m]=c:=by rw[<-em,List.getElem_take]
     have h6:a∈o.take m:=VV hn hmo (by rw[em'];exact h4);obtain⟨q,hqq,eq⟩:=List.getElem_of_mem h6;have hqo:q<o.length:=by rw[List.length_take]at hqq;omega
     have eq':o[q]=a:=by rw[<-eq,List.getElem_take]
     have hqj:q=j:=by
      have key:=List.pairwise_iff_getElem.1 (show o.Pairwise (·≠·) from hn);rcases Nat.lt_trichotomy q j with hl | hl | hl
      ·exact absurd (eq'.trans ej'.symm) (key q j hqo hjo hl)
      ·exact hl
      ·exact absurd (ej'.trans eq'.symm) (key j q hjo hqo hl)
     rw[List.length_take]at hmm hqq;omega
 | none =>
  intro c hc;refine Classical.byContradiction (fun hne=>?_);have hct:=hin c hc hne;have:=List.find?_eq_none.1 hf c (by simpa using hct);exact this ((hdom c (List.mem_of_mem_take hct)).2 hc)
def bestP(cnt:Nat->Nat)(b:Nat)(ds:List Nat):Option Nat:=ds.foldl (fun best a=>if a≠b/\(best=none\/∃k,best=some k/\cnt a > cnt k)then some a else best) none
theorem Zdv{cnt:Nat->Nat}{b:Nat}{ds:List Nat}(h:∀a∈ds,a=b):bestP cnt b ds=none:=by
 unfold bestP;have key:∀(l:List Nat),(∀a∈l,a=b)->l.foldl (fun best a=>if a≠b/\(best=none\/∃k,best=some k/\cnt a > cnt k)then some a else best) none=none:=fun l=>by
  induction l with
  | nil=>intro _;rfl
  | cons a l ih =>
   intro h;rw[List.foldl_cons,if_neg (fun k=>k.1 (h a List.mem_cons_self))];exact ih (fun x hx=>h x (List.mem_cons_of_mem _ hx))
 exact key ds h
theorem ZdI{cnt:Nat->Nat}{a b:Nat}{ds:List Nat}(ha:a∈ds)(hne:a≠b)(hmax:∀c∈ds,c≠b->c≠a->cnt c<cnt a):bestP cnt b ds=some a:=by
 unfold bestP;have key:∀(l:List Nat)(best:Option Nat),(∀c∈l,c≠b->c≠a->cnt c<cnt a)->(best=none\/∃k,best=some k/\(k=a\/cnt k<cnt a))->(best=some a\/a∈l)->l.foldl (fun best a=>if a≠b/\(best=none\/∃k,best=some k/\cnt a > cnt k)then some a else best) best=some a:=fun l=>by
  induction l with
  | nil =>
   intro best _ _ h;rcases h with h | h
   ·exact h
   ·cases h
  | cons c l ih =>
   intro best hm hb h;rw[List.foldl_cons];have hm':∀c∈l,c≠b->c≠a->cnt c<cnt a:=fun x hx=>hm x (List.mem_cons_of_mem _ hx)
   by_cases hca:c=a
   ·subst hca
    by_cases hbc:best=some c
    ·subst hbc
     rw[if_neg (fun k=>by rcases k.2 with k | ⟨q,k1,k2⟩;cases k;injection k1 with k1;rw[k1]at k2;omega)];exact ih _ hm' hb (Or.inl rfl)
    ·rw[if_pos ⟨hne,by rcases hb with hb | ⟨q,k1,k2⟩;exact Or.inl hb;exact Or.inr ⟨q,k1,by rcases k2 with k2 | k2;exact absurd (k1.trans (by rw[k2])) hbc;exact k2⟩⟩]
     exact ih _ hm' (Or.inr ⟨c,rfl,Or.inl rfl⟩) (Or.inl rfl)
   ·have h':best=some a\/a∈l:=by
     rcases h with h | h
     ·exact Or.inl h
     ·rcases List.mem_cons.1 h with h | h
      ·exact absurd h.symm hca
      ·exact Or.inr h
    by_cases hc:c≠b/\(best=none\/∃k,best=some k/\cnt c > cnt k)
    ·rw[if_pos hc]
     have hlt:=hm c List.mem_cons_self hc.1 hca;refine ih _ hm' (Or.inr ⟨c,rfl,Or.inr hlt⟩) ?_;rcases h' with h' | h'
     ·exfalso
      rcases hc.2 with k | ⟨q,k1,k2⟩
      ·rw[h']at k;cases k
      ·rw[h']at k1;injection k1 with k1;rw[<-k1]at k2;omega
     ·exact Or.inr h'
    ·rw[if_neg hc]
     exact ih _ hm' hb h'
 exact key ds none hmax (Or.inl rfl) (Or.inr ha)
end Go.Proofs.YtbofmlmdgkblkaaDoor
