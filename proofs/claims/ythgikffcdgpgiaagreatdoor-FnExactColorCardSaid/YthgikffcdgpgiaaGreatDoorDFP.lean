import Derived.RangeFuncNested
import Derived.RangeFuncBound
import Derived.RangeFuncCalls
import Derived.RangeFuncLeaves
import Derived.Shelf.Abstract
import Derived.Shelf.RegionOpen
import Derived.OwnWalkIn
import Derived.TacticsInMore
import Derived.LoopNIn
import Derived.LoopIn
import Derived.Test.YthgikffcdgpgiaaGreatDoorW6b
namespace Go.Proofs.YthgikffcdgpgiaaGreatDoor
set_option maxHeartbeats 2000000
set_option maxRecDepth 100000
open Go.RowKit Go.Shelf
def dfsV(tg:Nat->List Nat):Nat->Nat->(Nat->Nat) × List Nat->(Nat->Nat) × List Nat
 | 0,_,s=>s
 | m+1,b,s=>if Xf s.1 b=true then s else
  (((tg b).foldl (fun s t=>dfsV tg m t s) (Yn s.1 b,s.2)).1,((tg b).foldl (fun s t=>dfsV tg m t s) (Yn s.1 b,s.2)).2++[b])
def Xx(xs:List Xi)(b:Nat):List Nat:=match xs[b]? with
 | some x=>x.term.targets.map Int.toNat
 | none=>[]
theorem Jo{xs:List Xi}{b:Nat}(h:b<xs.length):Xx xs b=xs[b].term.targets.map Int.toNat:=by
 unfold Xx;rw[List.getElem?_eq_getElem h]
def Xv(W:Nat->Nat)(n:Nat):Nat:=((List.range n).filter fun x=>!Xf W x).length
theorem ZL{W W':Nat->Nat}(n:Nat)(h:∀x,Xf W x=true->Xf W' x=true):Xv W' n<=Xv W n:=by
 unfold Xv;rw[<-List.countP_eq_length_filter,<-List.countP_eq_length_filter];refine List.countP_mono_left (fun x _ hx=>?_);cases h1:Xf W x with
 | false=>rfl
 | true=>rw[h x h1]at hx;cases hx
theorem JZ{W:Nat->Nat}{n b:Nat}(h:Xv W n=0)(hb:b<n):Xf W b=true:=by
 unfold Xv at h;have:=List.filter_eq_nil_iff.1 (List.length_eq_zero_iff.1 h) b (List.mem_range.2 hb);simpa using this
theorem J4{W:Nat->Nat}{n b:Nat}(hb:b<n)(hs:Xf W b=false):Xv (Yn W b) n+1<=Xv W n:=by
 have key:∀n,Xv (Yn W b) n+(if b<n then 1 else 0)<=Xv W n:=fun n=>by
  induction n with
  | zero=>simp[Xv]
  | succ n ih =>
   unfold Xv at *;rw[List.range_succ,List.filter_append,List.filter_append,List.length_append,List.length_append];by_cases e:n=b
   ·subst e
    rw[if_neg oM]at ih;rw[if_pos oM];have h1:([n].filter fun x=>!Xf (Yn W n) x).length=0:=by simp[YR]
    have h2:([n].filter fun x=>!Xf W x).length=1:=by simp[hs]
    omega
   ·have h1:([n].filter fun x=>!Xf (Yn W b) x).length=([n].filter fun x=>!Xf W x).length:=by
     congr 1;refine List.filter_congr (fun x hx=>?_);have:x=n:=by simpa using hx
     subst this;rw[YR,decide_eq_false e,Bool.false_or]
    by_cases hl:b<n
    ·rw[if_pos hl]at ih;rw[if_pos oM];omega
    ·rw[if_neg hl]at ih;rw[if_neg oM];omega
 have:=key n;rw[if_pos hb]at this;exact this
theorem Jc(tg:Nat->List Nat):∀(m b:Nat)(s:(Nat->Nat) × List Nat)(x:Nat),Xf s.1 x=true->Xf (dfsV tg m b s).1 x=true
 | 0,_,_,_,h=>h
 | m+1,b,s,x,h=>by
  rw[dfsV];split
  ·exact h
  ·have key:∀(l:List Nat)(s:(Nat->Nat) × List Nat),Xf s.1 x=true->Xf (l.foldl (fun s t=>dfsV tg m t s) s).1 x=true:=fun l=>by
    induction l with
    | nil=>intro s h;exact h
    | cons t l ih=>intro s h;exact ih _ (Jc tg m t s x h)
   exact key _ _ (by rw[YR,h];simp)
theorem Zac(tg:Nat->List Nat):∀(m b:Nat)(s:(Nat->Nat) × List Nat),Xw s.1->Xw (dfsV tg m b s).1
 | 0,_,_,h=>h
 | m+1,b,s,h=>by
  rw[dfsV];split
  ·exact h
  ·have key:∀(l:List Nat)(s:(Nat->Nat) × List Nat),Xw s.1->Xw (l.foldl (fun s t=>dfsV tg m t s) s).1:=fun l=>by
    induction l with
    | nil=>intro s h;exact h
    | cons t l ih=>intro s h;exact ih _ (Zac tg m t s h)
   exact key _ _ (Zav h b)
theorem Km(tg:Nat->List Nat)(m:Nat)(l:List Nat)(s:(Nat->Nat) × List Nat)(x:Nat)(h:Xf s.1 x=true):Xf (l.foldl (fun s t=>dfsV tg m t s) s).1 x=true:=by
 induction l generalizing s with
 | nil=>exact h
 | cons t l ih=>exact ih _ (Jc tg m t s x h)
theorem ZgS(tg:Nat->List Nat)(m:Nat)(l:List Nat)(s:(Nat->Nat) × List Nat)(h:Xw s.1):Xw (l.foldl (fun s t=>dfsV tg m t s) s).1:=by
 induction l generalizing s with
 | nil=>exact h
 | cons t l ih=>exact ih _ (Zac tg m t s h)
theorem WR(tg:Nat->List Nat)(n:Nat)(ht:∀b,b<n->∀t∈tg b,t<n):∀(m b:Nat)(s:(Nat->Nat) × List Nat),b<n->(dfsV tg m b s).2.length+Xv (dfsV tg m b s).1 n<=s.2.length+Xv s.1 n
 | 0,_,_,_=>Nat.le_refl _
 | m+1,b,s,hb=>by
  rw[dfsV];split
  ·exact Nat.le_refl _
  ·rename_i hs
   have hs':Xf s.1 b=false:=by simpa using hs
   have h1:=J4 hb hs';have key:∀(l:List Nat)(s:(Nat->Nat) × List Nat),(∀t∈l,t<n)->(l.foldl (fun s t=>dfsV tg m t s) s).2.length+Xv (l.foldl (fun s t=>dfsV tg m t s) s).1 n<=s.2.length+Xv s.1 n:=fun l=>by
    induction l with
    | nil=>intro s _;exact Nat.le_refl _
    | cons t l ih =>
     intro s h;exact Nat.le_trans (ih _ (fun x hx=>h x (List.mem_cons_of_mem _ hx))) (WR tg n ht m t s (h t List.mem_cons_self))
   have h2:=key (tg b) (Yn s.1 b,s.2) (ht b hb);rw[List.length_append];dsimp only at h2 |-;simp only[List.length_cons,List.length_nil];omega
theorem ZfW(tg:Nat->List Nat)(n:Nat)(ht:∀b,b<n->∀t∈tg b,t<n)(m:Nat)(l:List Nat)(s:(Nat->Nat) × List Nat)(h:∀t∈l,t<n):(l.foldl (fun s t=>dfsV tg m t s) s).2.length+Xv (l.foldl (fun s t=>dfsV tg m t s) s).1 n<=s.2.length+Xv s.1 n:=by
 induction l generalizing s with
 | nil=>exact Nat.le_refl _
 | cons t l ih=>exact Nat.le_trans (ih _ (fun x hx=>h x (List.mem_cons_of_mem _ hx))) (WR tg n ht m t s (h t List.mem_cons_self))
theorem Vo{tg:Nat->List Nat}{m b:Nat}{s:(Nat->Nat) × List Nat}(h:Xf s.1 b=false):dfsV tg (m+1) b s=(((tg b).foldl (fun s t=>dfsV tg m t s) (Yn s.1 b,s.2)).1,((tg b).foldl (fun s t=>dfsV tg m t s) (Yn s.1 b,s.2)).2++[b]):=by
 rw[dfsV,if_neg (by rw[h];decide)]
theorem Tl{tg:Nat->List Nat}{m b:Nat}{s:(Nat->Nat) × List Nat}(h:Xf s.1 b=true):dfsV tg m b s=s:=by
 cases m with
 | zero=>rfl
 | succ m=>rw[dfsV,if_pos h]
inductive Sp (I:Nat->Nat->Nat) (T:Nat->Nat->Nat) (ord:Nat->Prop) (src:Nat->List Nat):Nat->Nat->Prop
 | init {b x:Nat}:Xf (I b) x=true->Sp I T ord src b x
 | take {b s x:Nat}:ord b->s∈src b->Sp I T ord src s x->Xf (T b) x=false->Sp I T ord src b x
def YV(T:Nat->Nat->Nat)(b s:Nat)(W:Nat->Nat->Nat):Nat->Nat->Nat:=fun i=>if i=b then butN (W b) (W s) (T b)else W i
def takesN(T:Nat->Nat->Nat)(K b:Nat)(l:List Nat)(s:(Nat->Nat->Nat) × Bool):(Nat->Nat->Nat) × Bool :=
 l.foldl (fun s t=>(YV T b t s.1,grewN (s.1 b) (s.1 t) (T b) K||s.2)) s
theorem Uw{T:Nat->Nat->Nat}{K b:Nat}{l:List Nat}{q:Nat}(h:q<l.length)(s:(Nat->Nat->Nat) × Bool):takesN T K b (l.take (q+1)) s=(YV T b l[q] (takesN T K b (l.take q) s).1,grewN ((takesN T K b (l.take q) s).1 b) ((takesN T K b (l.take q) s).1 l[q]) (T b) K||(takesN T K b (l.take q) s).2):=by
 unfold takesN;rw[List.take_succ_eq_append_getElem h,List.foldl_append];rfl
def XA(W:Nat->Nat->Nat):Prop:=∀i,Xw (W i)
theorem Ki{T W:Nat->Nat->Nat}(b s:Nat)(h:XA W):XA (YV T b s W):=fun i=>by
 unfold YV;split
 ·exact Zc1 (h b) (h s)
 ·exact h i
theorem JY{T W:Nat->Nat->Nat}(b s:Nat)(h:XA W)(hT:XA T)(i x:Nat):Xf (YV T b s W i) x=(Xf (W i) x||(decide (i=b)&&Xf (W s) x && !Xf (T b) x)):=by
 unfold YV;by_cases e:i=b
 ·subst e
  rw[if_pos rfl,Zde (h i) (hT i)];simp
 ·rw[if_neg e];simp[e]
theorem JV{T:Nat->Nat->Nat}{K b:Nat}:∀(l:List Nat)(s:(Nat->Nat->Nat) × Bool),XA s.1->XA (takesN T K b l s).1
 | [],_,h=>h
 | t::l,_,h=>JV l _ (Ki b t h)
theorem Z6{T:Nat->Nat->Nat}{K b:Nat}(hT:XA T):∀(l:List Nat)(s:(Nat->Nat->Nat) × Bool),XA s.1->∀i x,Xf (s.1 i) x=true->Xf ((takesN T K b l s).1 i) x=true
 | [],_,_,_,_,h=>h
 | t::l,s,hs,i,x,h=>Z6 hT l _ (Ki b t hs) i x (by show Xf (YV T b t s.1 i) x=true;rw[JY b t hs hT,h];rfl)
theorem JK{I T:Nat->Nat->Nat}{K b:Nat}{ord:Nat->Prop}{src:Nat->List Nat}(hT:XA T)(hb:ord b):∀(l:List Nat)(s:(Nat->Nat->Nat) × Bool),XA s.1->(∀t∈l,t∈src b)->(∀i x,Xf (s.1 i) x=true->Sp I T ord src i x)->∀i x,Xf ((takesN T K b l s).1 i) x=true->Sp I T ord src i x
 | [],_,_,_,h=>h
 | t::l,s,hs,hl,h=>JK hT hb l _ (Ki b t hs) (fun u hu=>hl u (List.mem_cons_of_mem _ hu)) (fun i x hx=>by
  have hx':Xf (YV T b t s.1 i) x=true:=hx;rw[JY b t hs hT]at hx';cases hi:Xf (s.1 i) x with
  | true=>exact h i x hi
  | false =>
   rw[hi]at hx';simp only[Bool.false_or,Bool.and_eq_true,decide_eq_true_eq,Bool.not_eq_true']at hx';obtain⟨⟨rfl,h2⟩,h3⟩:=hx';exact Sp.take hb (hl t List.mem_cons_self) (h t x h2) h3)
theorem UF{T:Nat->Nat->Nat}{K b:Nat}:∀(l:List Nat)(s:(Nat->Nat->Nat) × Bool),s.2=true->(takesN T K b l s).2=true
 | [],_,h=>h
 | t::l,s,h=>UF l _ (by show(_||s.2)=true;rw[h];simp)
theorem Kb{T:Nat->Nat->Nat}{K b:Nat}(hT:XA T):∀(l:List Nat)(s:(Nat->Nat->Nat) × Bool),XA s.1->(takesN T K b l s).2=false->(∀i x,x<64*K->Xf ((takesN T K b l s).1 i) x=Xf (s.1 i) x)/\∀t∈l,∀x,x<64*K->Xf (s.1 t) x=true->Xf (T b) x=false->Xf (s.1 b) x=true
 | [],_,_,_=>⟨fun _ _ _=>rfl,fun t ht=>by cases ht⟩
 | t::l,s,hs,hq=>by
  have hg:(grewN (s.1 b) (s.1 t) (T b) K||s.2)=false:=by
   cases e:(grewN (s.1 b) (s.1 t) (T b) K||s.2)with
   | false=>rfl
   | true=>have:=UF (T:=T) (K:=K) (b:=b) l (YV T b t s.1,grewN (s.1 b) (s.1 t) (T b) K||s.2) e;rw[show takesN T K b (t::l) s=takesN T K b l (YV T b t s.1,grewN (s.1 b) (s.1 t) (T b) K||s.2) from rfl,this]at hq;cases hq
  have hg1:grewN (s.1 b) (s.1 t) (T b) K=false:=by
   cases e:grewN (s.1 b) (s.1 t) (T b) K with
   | false=>rfl
   | true=>rw[e]at hg;cases hg
  have hcl:∀x,x<64*K->Xf (s.1 t) x=true->Xf (T b) x=false->Xf (s.1 b) x=true:=fun x hx h1 h2=>Zhe (hs b) (hT b) hg1 hx h1 h2
  have hsame:∀i x,x<64*K->Xf (YV T b t s.1 i) x=Xf (s.1 i) x:=fun i x hx=>by
   rw[JY b t hs hT];by_cases e:i=b
   ·subst e
    cases h1:Xf (s.1 t) x with
    | false=>simp
    | true =>
     cases h2:Xf (T i) x with
     | true=>simp
     | false=>rw[hcl x hx h1 h2];rfl
   ·simp[e]
  obtain⟨h1,h2⟩:=Kb hT l (YV T b t s.1,grewN (s.1 b) (s.1 t) (T b) K||s.2) (Ki b t hs) hq;refine⟨fun i x hx=>(h1 i x hx).trans (hsame i x hx),fun u hu x hx hxu hxT=>?_⟩;rcases List.mem_cons.1 hu with rfl | hu
  ·exact hcl x hx hxu hxT
  ·have:=h2 u hu x hx (by rw[hsame u x hx];exact hxu) hxT
   rw[hsame b x hx]at this;exact this
theorem KS{T:Nat->Nat->Nat}{K b:Nat}(hT:XA T):∀(l:List Nat)(s:(Nat->Nat->Nat) × Bool),XA s.1->s.2=false->(takesN T K b l s).2=true->Xv ((takesN T K b l s).1 b) (64*K)<Xv (s.1 b) (64*K)
 | [],s,_,h0,h1=>by rw[show takesN T K b [] s=s from rfl,h0]at h1;cases h1
 | t::l,s,hs,h0,h1=>by
  cases hg:grewN (s.1 b) (s.1 t) (T b) K with
  | false =>
   have e:takesN T K b (t::l) s=takesN T K b l (YV T b t s.1,false):=by show takesN T K b l (YV T b t s.1,grewN (s.1 b) (s.1 t) (T b) K||s.2)=_;rw[hg,h0];rfl
   rw[e]at h1 |-;refine Nat.lt_of_lt_of_le (KS hT l (YV T b t s.1,false) (Ki b t hs) rfl h1) ?_;exact ZL _ (fun x hx=>by show Xf (YV T b t s.1 b) x=true;rw[JY b t hs hT,hx];rfl)
  | true =>
   obtain⟨x,hx,h2,h3,h4⟩:=ZfM (hs b) (hs t) (hT b) hg;have key:∀W':Nat->Nat,(∀y,Xf (s.1 b) y=true->Xf W' y=true)->Xf W' x=true->Xv W' (64*K)<Xv (s.1 b) (64*K):=fun W' hm hw=>by
    have h5:=J4 hx h4;have h6:Xv W' (64*K)<=Xv (Yn (s.1 b) x) (64*K):=ZL _ (fun y hy=>by
     rw[YR]at hy;cases hyx:decide (y=x)with
     | true=>rw[of_decide_eq_true hyx];exact hw
     | false=>rw[hyx,Bool.false_or]at hy;exact hm y hy)
    omega
   refine key _ (fun y hy=>Z6 hT (t::l) s hs b y hy) ?_;refine Z6 hT l (YV T b t s.1,grewN (s.1 b) (s.1 t) (T b) K||s.2) (Ki b t hs) b x ?_;show Xf (YV T b t s.1 b) x=true;rw[JY b t hs hT,h2,h3];simp
theorem Kf{T:Nat->Nat->Nat}{K b i:Nat}(h:i≠b):∀(l:List Nat)(s:(Nat->Nat->Nat) × Bool),(takesN T K b l s).1 i=s.1 i
 | [],_=>rfl
 | t::l,s=>(Kf h l _).trans (by show YV T b t s.1 i=_;unfold YV;rw[if_neg h])
theorem TY{I T W:Nat->Nat->Nat}{K:Nat}{ord:Nat->Prop}{src:Nat->List Nat}(hI:∀b x,Xf (I b) x=true->Xf (W b) x=true)(hS:∀b x,Xf (W b) x=true->Sp I T ord src b x)(hC:∀b,ord b->∀t∈src b,∀x,x<64*K->Xf (W t) x=true->Xf (T b) x=false->Xf (W b) x=true)(b x:Nat)(hx:x<64*K):Xf (W b) x=true↔Sp I T ord src b x:=by
 refine⟨hS b x,fun h=>?_⟩
 induction h with
 | init h=>exact hI _ _ h
 | take hb hs _ ht ih=>exact hC _ hb _ hs _ hx (ih hx) ht
theorem Tn{W W':Nat->Nat}(n:Nat)(h:∀x,x<n->Xf W' x=Xf W x):Xv W' n=Xv W n:=by
 unfold Xv;congr 1;exact List.filter_congr (fun x hx=>by rw[h x (List.mem_range.1 hx)])
def ZD(W:Nat->Nat->Nat)(K:Nat):Nat->Nat
 | 0=>0
 | n+1=>ZD W K n+Xv (W n) (64*K)
theorem Tb{W W':Nat->Nat->Nat}{K:Nat}:∀n,(∀i,i<n->Xv (W' i) (64*K)=Xv (W i) (64*K))->ZD W' K n=ZD W K n
 | 0,_=>rfl
 | n+1,h=>by rw[ZD,ZD,Tb n (fun i hi=>h i oM),h n oM]
theorem UQ{W W':Nat->Nat->Nat}{K b:Nat}(ho:∀i,i≠b->W' i=W i)(hb:Xv (W' b) (64*K)<Xv (W b) (64*K)):∀n,b<n->ZD W' K n<ZD W K n
 | 0,h=>absurd h oM
 | n+1,h=>by
  rw[ZD,ZD];by_cases e:n=b
  ·subst e
   rw[Tb n (fun i hi=>by rw[ho i oM])];omega
  ·rw[ho n e]
   have:=UQ ho hb n oM;omega
def ClB(T:Nat->Nat->Nat)(K:Nat)(src:Nat->List Nat)(W:Nat->Nat->Nat)(b:Nat):Prop:=∀t∈src b,∀x,x<64*K->Xf (W t) x=true->Xf (T b) x=false->Xf (W b) x=true
theorem Zgp{T:Nat->Nat->Nat}{K:Nat}{src:Nat->List Nat}{W W':Nat->Nat->Nat}{b:Nat}(h:ClB T K src W b)(e:∀i x,x<64*K->Xf (W' i) x=Xf (W i) x):ClB T K src W' b:=fun t ht x hx h1 h2=>by
 rw[e _ _ hx]at h1 |-;exact h t ht x hx h1 h2
def ClQ(T:Nat->Nat->Nat)(K:Nat)(src:Nat->List Nat)(W:Nat->Nat->Nat)(R:List Nat)(q p:Nat):Prop:=∀j,j<q->ClB T K src W (R.getD ((p+R.length-1-j) % R.length) 0)
theorem Te{T:Nat->Nat->Nat}{K:Nat}{src:Nat->List Nat}{W:Nat->Nat->Nat}{R:List Nat}{p:Nat}:ClQ T K src W R 0 p:=fun j hj=>absurd hj oM
theorem Zb9{T:Nat->Nat->Nat}{K:Nat}{src:Nat->List Nat}{W W':Nat->Nat->Nat}{R:List Nat}{q p:Nat}(h:ClQ T K src W R q p)(e:∀i x,x<64*K->Xf (W' i) x=Xf (W i) x)(hp:p<R.length)(hb:ClB T K src W R[p]):ClQ T K src W' R (q+1) (p+1):=fun j hj=>by
 refine Zgp ?_ e;cases j with
 | zero =>
  have:(p+1+R.length-1-0) % R.length=p:=by
   rw[show p+1+R.length-1-0=p+R.length by omega,Nat.add_mod_right,Nat.mod_eq_of_lt hp]
  rw[this,show R.getD p 0=R[p] by simp[hp]];exact hb
 | succ j =>
  rw[show p+1+R.length-1-(j+1)=p+R.length-1-j by omega];exact h j oM
theorem ZbF{T:Nat->Nat->Nat}{K:Nat}{src:Nat->List Nat}{W:Nat->Nat->Nat}{R:List Nat}{q:Nat}(h:ClQ T K src W R q R.length)(hq:q<R.length):ClQ T K src W R q 0:=fun j hj=>by
 have:=h j hj;rw[show R.length+R.length-1-j=(0+R.length-1-j)+R.length by omega,Nat.add_mod_right]at this;exact this
theorem Zdp{T:Nat->Nat->Nat}{K:Nat}{src:Nat->List Nat}{W:Nat->Nat->Nat}{R:List Nat}{p:Nat}(h:ClQ T K src W R R.length p)(hp:p<=R.length){b:Nat}(hb:b∈R):ClB T K src W b:=by
 obtain⟨i,hi,rfl⟩:=List.getElem_of_mem hb;have key:(p+R.length-1-(p+R.length-1-i) % R.length) % R.length=i:=by
  by_cases c:i+1<=p
  ·have e1:(p+R.length-1-i) % R.length=p-1-i:=by
    rw[show p+R.length-1-i=(p-1-i)+R.length by omega,Nat.add_mod_right,Nat.mod_eq_of_lt oM]
   rw[e1,show p+R.length-1-(p-1-i)=i+R.length by omega,Nat.add_mod_right,Nat.mod_eq_of_lt hi]
  ·have e1:(p+R.length-1-i) % R.length=p+R.length-1-i:=Nat.mod_eq_of_lt oM
   rw[e1,show p+R.length-1-(p+R.length-1-i)=i by omega,Nat.mod_eq_of_lt hi]
 have:=h ((p+R.length-1-i) % R.length) (Nat.mod_lt _ oM);rw[key,show R.getD i 0=R[i] by simp[hi]]at this;exact this
section
inductive Av (tg:Nat->List Nat) (a:Nat):Nat->Prop
 | root:a≠0->Av tg a 0
 | step {b t:Nat}:Av tg a b->t∈tg b->t≠a->Av tg a t
inductive Re (tg:Nat->List Nat):Nat->Prop
 | root:Re tg 0
 | step {b t:Nat}:Re tg b->t∈tg b->Re tg t
structure JF(tg:Nat->List Nat)(a b:Nat):Prop where
 ra:Re tg a
 rb:Re tg b
 no:¬Av tg a b
variable {tg : Nat -> List Nat}
theorem ZeS{a b:Nat}(h:Av tg a b):Re tg b:=by
 induction h with
 | root=>exact Re.root
 | step _ ht _ ih=>exact Re.step ih ht
theorem Zhs{a b:Nat}(h:Av tg a b):b≠a:=by
 cases h with
 | root h=>exact fun e=>h e.symm
 | step _ _ h=>exact h
theorem Kg{b:Nat}(h:Re tg b):JF tg b b:=⟨h,h,fun e=>Zhs e rfl⟩
theorem Zfy{b:Nat}(h:Re tg b):JF tg 0 b:=⟨Re.root,h,fun e=>by
 have:∀{c},Av tg 0 c->False:=fun hc=>by
  induction hc with
  | root h=>exact h rfl
  | step _ _ _ ih=>exact ih
 exact this e⟩
theorem ZhK{x a b:Nat}(h:Av tg x b)(hn:¬Av tg a b):Av tg x a:=by
 induction h with
 | root hx =>
  have:a=0:=Classical.byContradiction (fun e=>hn (Av.root e));rw[this];exact Av.root hx
 | @step c t hc ht hx ih =>
  by_cases h1:Av tg a c
  ·have:t=a:=Classical.byContradiction (fun e=>hn (Av.step h1 ht e))
   rw[<-this];exact Av.step hc ht hx
  ·exact ih h1
theorem TA{a b c:Nat}(h:JF tg a b)(k:JF tg b c):JF tg a c:=⟨h.ra,k.rb,fun e=>h.no (ZhK e k.no)⟩
theorem ZeC{a b:Nat}(hab:a≠b){c:Nat}(h:Re tg c):(Av tg a c/\Av tg b c)\/Av tg b a\/Av tg a b:=by
 induction h with
 | root =>
  by_cases ha:a=0
  ·subst ha;exact Or.inr (Or.inl (Av.root (fun e=>hab e.symm)))
  ·by_cases hb:b=0
   ·subst hb;exact Or.inr (Or.inr (Av.root ha))
   ·exact Or.inl ⟨Av.root ha,Av.root hb⟩
 | @step c t _ ht ih =>
  rcases ih with⟨h1,h2⟩ | h | h
  ·by_cases ea:t=a
   ·subst ea;exact Or.inr (Or.inl (Av.step h2 ht hab))
   ·by_cases eb:t=b
    ·subst eb;exact Or.inr (Or.inr (Av.step h1 ht (fun e=>hab e.symm)))
    ·exact Or.inl ⟨Av.step h1 ht ea,Av.step h2 ht eb⟩
  ·exact Or.inr (Or.inl h)
  ·exact Or.inr (Or.inr h)
theorem JT{a b:Nat}(h:JF tg a b)(k:JF tg b a):a=b:=Classical.byContradiction (fun e=>by
 rcases ZeC e h.rb with⟨_,h2⟩ | h2 | h2
 ·exact Zhs h2 rfl
 ·exact k.no h2
 ·exact h.no h2)
inductive Sf (tg:Nat->List Nat) (a b x:Nat):Nat->Prop
 | here:Sf tg a b x x
 | step {c t:Nat}:Sf tg a b x c->t∈tg c->t≠a->t≠b->Sf tg a b x t
theorem Zgu{a b c:Nat}(h:Re tg c):(Av tg a c/\Av tg b c)\/Sf tg a b a c\/Sf tg a b b c:=by
 induction h with
 | root =>
  by_cases ha:a=0
  ·subst ha;exact Or.inr (Or.inl Sf.here)
  ·by_cases hb:b=0
   ·subst hb;exact Or.inr (Or.inr Sf.here)
   ·exact Or.inl ⟨Av.root ha,Av.root hb⟩
 | @step c t _ ht ih =>
  by_cases ea:t=a
  ·subst ea;exact Or.inr (Or.inl Sf.here)
  ·by_cases eb:t=b
   ·subst eb;exact Or.inr (Or.inr Sf.here)
   ·rcases ih with⟨h1,h2⟩ | h | h
    ·exact Or.inl ⟨Av.step h1 ht ea,Av.step h2 ht eb⟩
    ·exact Or.inr (Or.inl (Sf.step h ht ea eb))
    ·exact Or.inr (Or.inr (Sf.step h ht ea eb))
theorem Zhv{a b x c y:Nat}(h:Sf tg a b x c)(hy:y=a\/y=b)(hx:Av tg y x):Av tg y c:=by
 induction h with
 | here=>exact hx
 | step _ ht h1 h2 ih=>exact Av.step ih ht (by rcases hy with rfl | rfl;exact h1;exact h2)
theorem VQ{a b c:Nat}(h:JF tg a c)(k:JF tg b c):JF tg a b\/JF tg b a:=by
 rcases Zgu (a:=a) (b:=b) h.rb with⟨h1,_⟩ | h1 | h1
 ·exact absurd h1 h.no
 ·exact Or.inr ⟨k.ra,h.ra,fun e=>k.no (Zhv h1 (Or.inr rfl) e)⟩
 ·exact Or.inl ⟨h.ra,k.ra,fun e=>h.no (Zhv h1 (Or.inl rfl) e)⟩
theorem ZiK{n:Nat}{I T:Nat->Nat->Nat}{ord:Nat->Prop}{src:Nat->List Nat}(hI:∀b x,x<n->(Xf (I b) x=true↔b=0/\x≠0))(hT:∀b x,x<n->b<n->(Xf (T b) x=true↔x=b))(ho:∀b,ord b↔Re tg b)(hon:∀b,Re tg b->b<n)(hs:∀b s,b<n->(s∈src b↔s<n/\b∈tg s)){b x:Nat}(hx:x<n):Sp I T ord src b x↔Av tg x b:=by
 constructor
 ·intro h
  induction h with
  | init h =>
   obtain⟨rfl,h2⟩:=(hI _ _ hx).1 h;exact Av.root h2
  | @take b s x hb hs' _ ht ih =>
   have hbn:=hon b ((ho b).1 hb);refine Av.step (ih hx) ((hs b s hbn).1 hs').2 (fun e=>?_);have:=(hT b x hx hbn).2 e.symm;rw[this]at ht;cases ht
 ·intro h
  induction h with
  | root h=>exact Sp.init ((hI 0 x hx).2 ⟨rfl,h⟩)
  | @step b t hb ht hne ih =>
   have hbr:=ZeS hb;have htr:=Re.step hbr ht;refine Sp.take ((ho t).2 htr) ((hs t b (hon t htr)).2 ⟨hon b hbr,ht⟩) ih ?_;cases e:Xf (T t) x with
   | false=>rfl
   | true=>exact absurd ((hT t x hx (hon t htr)).1 e) (fun e=>hne e.symm)
end
section
variable {tg : Nat -> List Nat}
def Bef(l:List Nat)(x a:Nat):Prop:=∃l1 l2,l=l1++l2/\x∈l1/\a∈l2
theorem Zhb{l r:List Nat}{x a:Nat}(h:Bef l x a):Bef (l++r) x a:=by
 obtain⟨l1,l2,rfl,h1,h2⟩:=h;exact⟨l1,l2++r,sP,h1,by simp[h2]⟩
theorem Zfu{l:List Nat}{x b:Nat}(h:x∈l):Bef (l++[b]) x b:=⟨l,[b],rfl,h,sP⟩
def Stk(tg:Nat->List Nat)(P:List Nat)(b:Nat):Prop:=∀a,JF tg a b->a≠b->a∈P
theorem ZeQ:Stk tg [] 0:=fun _ h hne=>absurd (Av.root hne) h.no
theorem Zf2{P:List Nat}{b t:Nat}(h:Stk tg P b)(hb:Re tg b)(ht:t∈tg b):Stk tg (b::P) t:=fun a ha hne=>by
 by_cases e:a=b
 ·rw[e];exact List.mem_cons_self
 ·exact List.mem_cons_of_mem _ (h a ⟨ha.ra,hb,fun k=>ha.no (Av.step k ht (fun e2=>hne e2.symm))⟩ e)
structure WF(tg:Nat->List Nat)(P:List Nat)(s:(Nat->Nat) × List Nat):Prop where
 seen:∀x∈s.2,Xf s.1 x=true
 nd:s.2.Nodup
 all:∀x,Xf s.1 x=true->x∈s.2\/x∈P
 stk:∀x∈P,x ∉ s.2/\Xf s.1 x=true
 ord:∀x∈s.2,∀a,JF tg a x->a≠x->a∈P\/Bef s.2 x a
 re:∀x∈s.2,Re tg x
 cl:∀x∈s.2,∀t∈tg x,Xf s.1 t=true
theorem Zeh{P:List Nat}{s:(Nat->Nat) × List Nat}{b:Nat}(h:WF tg P s)(hb:Xf s.1 b=false):WF tg (b::P) (Yn s.1 b,s.2):=by
 have mono:∀x,Xf s.1 x=true->Xf (Yn s.1 b) x=true:=fun x hx=>by rw[YR,hx];simp
 refine⟨fun x hx=>mono x (h.seen x hx),h.nd,fun x hx=>?_,fun x hx=>?_,fun x hx a ha hne=>?_,h.re,fun x hx t ht=>mono t (h.cl x hx t ht)⟩
 ·rw[YR]at hx
  by_cases e:x=b
  ·exact Or.inr (by rw[e];exact List.mem_cons_self)
  ·rw[decide_eq_false e,Bool.false_or]at hx
   rcases h.all x hx with h1 | h1
   ·exact Or.inl h1
   ·exact Or.inr (List.mem_cons_of_mem _ h1)
 ·rcases List.mem_cons.1 hx with rfl | hx
  ·exact⟨fun k=>(by rw[h.seen _ k]at hb;cases hb),by rw[YR];simp⟩
  ·exact⟨(h.stk x hx).1,mono x (h.stk x hx).2⟩
 ·rcases h.ord x hx a ha hne with h1 | h1
  ·exact Or.inl (List.mem_cons_of_mem _ h1)
  ·exact Or.inr h1
theorem ZfN{P:List Nat}{s:(Nat->Nat) × List Nat}{b:Nat}(h:WF tg (b::P) s)(hP:b ∉ P)(hr:Re tg b)(hs:Stk tg P b)(hc:∀t∈tg b,Xf s.1 t=true):WF tg P (s.1,s.2++[b]):=by
 have hb:=h.stk b List.mem_cons_self;refine⟨fun x hx=>?_,?_,fun x hx=>?_,fun x hx=>?_,fun x hx a ha hne=>?_,fun x hx=>?_,fun x hx t ht=>?_⟩
 ·rcases List.mem_append.1 hx with h1 | h1
  ·exact h.seen x h1
  ·have:x=b:=by simpa using h1
   rw[this];exact hb.2
 ·rw[List.nodup_append]
  refine⟨h.nd,sP,fun x hx y hy e=>?_⟩;have:y=b:=by simpa using hy
  rw[e,this]at hx;exact hb.1 hx
 ·rcases h.all x hx with h1 | h1
  ·exact Or.inl (List.mem_append_left _ h1)
  ·rcases List.mem_cons.1 h1 with rfl | h1
   ·exact Or.inl sP
   ·exact Or.inr h1
 ·have hx':=h.stk x (List.mem_cons_of_mem _ hx)
  refine⟨fun k=>?_,hx'.2⟩;rcases List.mem_append.1 k with k | k
  ·exact hx'.1 k
  ·have:x=b:=by simpa using k
   rw[this]at hx;exact hP hx
 ·rcases List.mem_append.1 hx with h1 | h1
  ·rcases h.ord x h1 a ha hne with h2 | h2
   ·rcases List.mem_cons.1 h2 with rfl | h2
    ·exact Or.inr (Zfu h1)
    ·exact Or.inl h2
   ·exact Or.inr (Zhb h2)
  ·have:x=b:=by simpa using h1
   subst this;exact Or.inl (hs a ha hne)
 ·rcases List.mem_append.1 hx with h1 | h1
  ·exact h.re x h1
  ·have:x=b:=by simpa using h1
   rw[this];exact hr
 ·rcases List.mem_append.1 hx with h1 | h1
  ·exact h.cl x h1 t ht
  ·have:x=b:=by simpa using h1
   rw[this]at ht;exact hc t ht
theorem Zbk{n:Nat}(hn:∀b,b<n->∀t∈tg b,t<n):∀(m b:Nat)(s:(Nat->Nat) × List Nat)(P:List Nat),b<n->Xv s.1 n<=m->Re tg b->Stk tg P b->WF tg P s->WF tg P (dfsV tg m b s)/\Xf (dfsV tg m b s).1 b=true
 | 0,b,s,P,hb,hu,_,_,hi=>⟨hi,JZ (n:=n) (Nat.le_zero.1 hu) hb⟩
 | m+1,b,s,P,hb,hu,hr,hs,hi=>by
  cases hh:Xf s.1 b with
  | true=>rw[Tl hh];exact⟨hi,hh⟩
  | false =>
   rw[Vo hh];have hP:b ∉ P:=fun k=>by rw[(hi.stk b k).2]at hh;cases hh
   have hu1:=J4 hb hh;have key:∀(l:List Nat)(s1:(Nat->Nat) × List Nat),(∀t∈l,t∈tg b)->Xv s1.1 n<=m->WF tg (b::P) s1->WF tg (b::P) (l.foldl (fun s t=>dfsV tg m t s) s1)/\∀t∈l,Xf (l.foldl (fun s t=>dfsV tg m t s) s1).1 t=true:=fun l=>by
    induction l with
    | nil=>intro s1 _ _ h1;exact⟨h1,fun t ht=>by cases ht⟩
    | cons t l ih =>
     intro s1 hl h1 h2;have ht:=hl t List.mem_cons_self;obtain⟨k1,k2⟩:=Zbk hn m t s1 (b::P) (hn b hb t ht) h1 (Re.step hr ht) (Zf2 hs hr ht) h2;obtain⟨k3,k4⟩:=ih (dfsV tg m t s1) (fun u hu=>hl u (List.mem_cons_of_mem _ hu)) (Nat.le_trans (ZL n (fun x hx=>Jc tg m t s1 x hx)) h1) k1;refine⟨k3,fun u hu=>?_⟩;rcases List.mem_cons.1 hu with rfl | hu
     ·exact Km tg m l _ _ k2
     ·exact k4 u hu
   obtain⟨k1,k2⟩:=key (tg b) (Yn s.1 b,s.2) (fun t ht=>ht) (by show Xv (Yn s.1 b) n<=m;omega) (Zeh hi hh);refine⟨ZfN k1 hP hr hs k2,?_⟩;exact Km tg m (tg b) (Yn s.1 b,s.2) b (by show Xf (Yn s.1 b) b=true;rw[YR];simp)
theorem YT(W:Nat->Nat)(n:Nat):Xv W n<=n:=Nat.le_trans (List.length_filter_le _ _) sP
theorem ZgE{n:Nat}(hn:∀b,b<n->∀t∈tg b,t<n)(h0:0<n){m:Nat}(hm:n<=m) :
 (∀x,x∈(dfsV tg m 0 (fun _=>0,[])).2↔Re tg x)/\(∀x,Xf (dfsV tg m 0 (fun _=>0,[])).1 x=true↔Re tg x)/\(dfsV tg m 0 (fun _=>0,[])).2.Nodup/\∀x a,JF tg a x->a≠x->Bef (dfsV tg m 0 (fun _=>0,[])).2 x a:=by
 have hi:WF tg [] (fun _=>0,[]):=⟨fun x hx=>(by cases hx),List.nodup_nil,fun x hx=>(by rw[Ze]at hx;cases hx),fun x hx=>(by cases hx),fun x hx=>(by cases hx),fun x hx=>(by cases hx),fun x hx=>(by cases hx)⟩;obtain⟨h1,h2⟩:=Zbk hn m 0 (fun _=>0,[]) [] h0 (Nat.le_trans (YT _ _) hm) Re.root ZeQ hi;generalize dfsV tg m 0 (fun _=>0,[])=s at *;have hs:∀x,Xf s.1 x=true->x∈s.2:=fun x hx=>by
  rcases h1.all x hx with h | h
  ·exact h
  ·cases h
 have hr:∀x,Re tg x->Xf s.1 x=true:=fun x hx=>by
  induction hx with
  | root=>exact h2
  | step _ ht ih=>exact h1.cl _ (hs _ ih) _ ht
 refine⟨fun x=>⟨h1.re x,fun h=>hs x (hr x h)⟩,fun x=>⟨fun h=>h1.re x (hs x h),hr x⟩,h1.nd,fun x a ha hne=>?_⟩;rcases h1.ord x (hs x (hr x ha.rb)) a ha hne with h | h
 ·cases h
 ·exact h
end
section
variable {tg : Nat -> List Nat}
structure Idm(tg:Nat->List Nat)(a b:Nat):Prop where
 dom:JF tg a b
 ne:a≠b
 near:∀c,JF tg c b->c≠b->JF tg c a
theorem Zgi{a a' b:Nat}(h:Idm tg a b)(k:Idm tg a' b):a=a':=JT (k.near a h.dom h.ne) (h.near a' k.dom k.ne)
theorem Zby{l:List Nat}{x a:Nat}(h:Bef l x a):Bef l.reverse a x:=by
 obtain⟨l1,l2,rfl,h1,h2⟩:=h;exact⟨l2.reverse,l1.reverse,sP,by simpa using h2,by simpa using h1⟩
theorem UM{l:List Nat}(hn:l.Nodup){i:Nat}(hi:i<l.length){x:Nat}(h:Bef l x l[i]):x∈l.take i:=by
 obtain⟨l1,l2,e,h1,h2⟩:=h;have hl:l1.length<=i:=Nat.le_of_not_lt (fun hlt=>by
  have k1:l[i]∈l1:=by
   have:l[i]=l1[i]:=by
    have h3:l[i]?=(l1++l2)[i]?:=by rw[<-e]
    rw[List.getElem?_eq_getElem hi,List.getElem?_append_left hlt,List.getElem?_eq_getElem hlt]at h3;injection h3
   rw[this];exact List.getElem_mem hlt
  rw[e,List.nodup_append]at hn;exact hn.2.2 _ k1 _ h2 rfl)
 rw[e,List.take_append];rw[List.take_of_length_le hl];exact List.mem_append_left _ h1
theorem Zf6{l:List Nat}{p:Nat->Bool}{a:Nat}(h:l.reverse.find? p=some a):p a=true/\a∈l/\∀c∈l,p c=true->c=a\/Bef l c a:=by
 rw[List.find?_eq_some_iff_append]at h;obtain⟨hp,az,bs,e,hb⟩:=h;have el:l=bs.reverse++[a]++az.reverse:=by
  have:=congrArg List.reverse e;simpa using this
 refine⟨hp,by rw[el];simp,fun c hc hpc=>?_⟩;rw[el]at hc;rcases List.mem_append.1 hc with h1 | h1
 ·rcases List.mem_append.1 h1 with h2 | h2
  ·exact Or.inr ⟨bs.reverse,[a]++az.reverse,by rw[el,List.append_assoc],h2,sP⟩
  ·exact Or.inl (by simpa using h2)
 ·have:=hb c (by simpa using h1)
  rw[hpc]at this;cases this
theorem ZdZ{o:List Nat}(hn:o.Nodup)(hm:∀x,x∈o↔Re tg x)(ho:∀x a,JF tg a x->a≠x->Bef o a x){i:Nat}(hi:i<o.length){p:Nat->Bool}(hp:∀a∈o,p a=true↔¬Av tg a o[i]) :
 match (o.take i).reverse.find? p with
 | some a=>Idm tg a o[i]
 | none=>∀c,JF tg c o[i]->c=o[i]:=by
 have hb:Re tg o[i]:=(hm _).1 (List.getElem_mem hi);have hdom:∀a,a∈o->(p a=true↔JF tg a o[i]):=fun a ha=>⟨fun h=>⟨(hm a).1 ha,hb,(hp a ha).1 h⟩,fun h=>(hp a ha).2 h.no⟩
 have hnd:(o.take i).Nodup:=hn.sublist (List.take_sublist _ _);have hin:∀c,JF tg c o[i]->c≠o[i]->c∈o.take i:=fun c hc hne=>UM hn hi (ho o[i] c hc hne)
 have hni:o[i] ∉ o.take i:=fun k=>by
  have e:o=o.take i++o.drop i:=(List.take_append_drop i o).symm;have hd:o[i]∈o.drop i:=by rw[List.drop_eq_getElem_cons hi];exact List.mem_cons_self
  rw[e,List.nodup_append]at hn;exact hn.2.2 _ k _ hd rfl
 cases hf:(o.take i).reverse.find? p with
 | some a =>
  obtain⟨h1,h2,h3⟩:=Zf6 hf;have hao:a∈o:=List.mem_of_mem_take h2;have hda:=(hdom a hao).1 h1;have hane:a≠o[i]:=fun e=>hni (by rw[<-e];exact h2)
  refine⟨hda,hane,fun c hc hne=>?_⟩;have hct:=hin c hc hne;rcases h3 c hct ((hdom c (List.mem_of_mem_take hct)).2 hc)with e | hbf
  ·rw[e];exact Kg hda.ra
  ·by_cases eca:c=a
   ·rw[eca];exact Kg hda.ra
   ·rcases VQ hc hda with k | k
    ·exact k
    ·-- a dominates c: then a stands ahead of c
     exfalso;have h4:=ho c a k (fun e=>eca e.symm);have hci:∃j,∃hj:j<(o.take i).length,(o.take i)[j]=a:=List.getElem_of_mem h2;obtain⟨j,hj,ej⟩:=hci;have hjo:j<o.length:=by rw[List.length_take]at hj;omega
     have ej':o[j]=a:=by rw[<-ej,List.getElem_take]
     have h5:c∈o.take j:=by
      have hbo:Bef o c o[j]:=by
       rw[ej'];obtain⟨l1,l2,e,k1,k2⟩:=hbf;exact⟨l1,l2++o.drop i,by rw[<-List.append_assoc,<-e,List.take_append_drop],k1,List.mem_append_left _ k2⟩
      exact UM hn hjo hbo
     obtain⟨m,hmm,em⟩:=List.getElem_of_mem h5;have hmo:m<o.length:=by rw[List.length_take]at hmm;omega
     have em':o[m]=c:=by rw[<-em,List.getElem_take]
     have h6:a∈o.take m:=UM hn hmo (by rw[em'];exact h4);obtain⟨q,hqq,eq⟩:=List.getElem_of_mem h6;have hqo:q<o.length:=by rw[List.length_take]at hqq;omega
     have eq':o[q]=a:=by rw[<-eq,List.getElem_take]
     have hqj:q=j:=by
      have key:=List.pairwise_iff_getElem.1 (show o.Pairwise (·≠·) from hn);rcases Nat.lt_trichotomy q j with hl | hl | hl
      ·exact absurd (eq'.trans ej'.symm) (key q j hqo hjo hl)
      ·exact hl
      ·exact absurd (ej'.trans eq'.symm) (key j q hjo hqo hl)
     rw[List.length_take]at hmm hqq;omega
 | none =>
  intro c hc;refine Classical.byContradiction (fun hne=>?_);have hct:=hin c hc hne;have:=List.find?_eq_none.1 hf c (by simpa using hct);exact this ((hdom c (List.mem_of_mem_take hct)).2 hc)
def bestP(cnt:Nat->Nat)(b:Nat)(ds:List Nat):Option Nat:=ds.foldl (fun best a=>if a≠b/\(best=none\/∃k,best=some k/\cnt a > cnt k)then some a else best) none
theorem ZdO{cnt:Nat->Nat}{b:Nat}{ds:List Nat}(h:∀a∈ds,a=b):bestP cnt b ds=none:=by
 unfold bestP;have key:∀(l:List Nat),(∀a∈l,a=b)->l.foldl (fun best a=>if a≠b/\(best=none\/∃k,best=some k/\cnt a > cnt k)then some a else best) none=none:=fun l=>by
  induction l with
  | nil=>intro _;rfl
  | cons a l ih =>
   intro h;rw[List.foldl_cons,if_neg (fun k=>k.1 (h a List.mem_cons_self))];exact ih (fun x hx=>h x (List.mem_cons_of_mem _ hx))
 exact key ds h
theorem Zeo{cnt:Nat->Nat}{a b:Nat}{ds:List Nat}(ha:a∈ds)(hne:a≠b)(hmax:∀c∈ds,c≠b->c≠a->cnt c<cnt a):bestP cnt b ds=some a:=by
 unfold bestP;have key:∀(l:List Nat)(best:Option Nat),(∀c∈l,c≠b->c≠a->cnt c<cnt a)->(best=none\/∃k,best=some k/\(k=a\/cnt k<cnt a))->(best=some a\/a∈l)->l.foldl (fun best a=>if a≠b/\(best=none\/∃k,best=some k/\cnt a > cnt k)then some a else best) best=some a:=fun l=>by
  induction l with
  | nil =>
   intro best _ _ h;rcases h with h | h
   ·exact h
   ·cases h
  | cons c l ih =>
   intro best hm hb h;rw[List.foldl_cons];have hm':∀c∈l,c≠b->c≠a->cnt c<cnt a:=fun x hx=>hm x (List.mem_cons_of_mem _ hx)
   by_cases hca:c=a
   ·subst hca
    by_cases hbc:best=some c
    ·subst hbc
     rw[if_neg (fun k=>by rcases k.2 with k | ⟨q,k1,k2⟩;cases k;injection k1 with k1;rw[k1]at k2;omega)];exact ih _ hm' hb (Or.inl rfl)
    ·rw[if_pos ⟨hne,by rcases hb with hb | ⟨q,k1,k2⟩;exact Or.inl hb;exact Or.inr ⟨q,k1,by rcases k2 with k2 | k2;exact absurd (k1.trans (by rw[k2])) hbc;exact k2⟩⟩]
     exact ih _ hm' (Or.inr ⟨c,rfl,Or.inl rfl⟩) (Or.inl rfl)
   ·have h':best=some a\/a∈l:=by
     rcases h with h | h
     ·exact Or.inl h
     ·rcases List.mem_cons.1 h with h | h
      ·exact absurd h.symm hca
      ·exact Or.inr h
    by_cases hc:c≠b/\(best=none\/∃k,best=some k/\cnt c > cnt k)
    ·rw[if_pos hc]
     have hlt:=hm c List.mem_cons_self hc.1 hca;refine ih _ hm' (Or.inr ⟨c,rfl,Or.inr hlt⟩) ?_;rcases h' with h' | h'
     ·exfalso
      rcases hc.2 with k | ⟨q,k1,k2⟩
      ·rw[h']at k;cases k
      ·rw[h']at k1;injection k1 with k1;rw[<-k1]at k2;omega
     ·exact Or.inr h'
    ·rw[if_neg hc]
     exact ih _ hm' hb h'
 exact key ds none hmax (Or.inl rfl) (Or.inr ha)
end
section
attribute [local go_sem] Oper.semAt_some
def Jk{α:Type}(f:Nat->α)(len k:Nat):List α:=(List.range (len-k)).map fun j=>f (len-1-j)
theorem Wz{α:Type}(f:Nat->α){len q:Nat}(h:q<len):Jk f len q=Jk f len (q+1)++[f q]:=by
 unfold Jk;have e:len-q=(len-(q+1))+1:=oM;rw[e,List.range_succ,List.map_append];have e2:len-1-(len-(q+1))=q:=oM;simp[e2]
theorem ZeE{α:Type}(f:Nat->α)(len:Nat):Jk f len len=[]:=by simp[Jk]
theorem Zij{α:Type}(f:Nat->α)(len k:Nat):(Jk f len k).length=len-k:=by simp[Jk]
abbrev Pb(N:Nat):={ x:Nat × Nat // x.2<N }
theorem ZgT{zs:List Nat}{N:Nat}(hz:∀z∈zs,z<N)(h0:0<N)(j:Nat):zs[j]?.getD 0<N:=by
 by_cases h:j<zs.length
 ·rw[List.getElem?_eq_getElem h];exact hz _ (List.getElem_mem h)
 ·rw[List.getElem?_eq_none oM];exact h0
def Ug{zs:List Nat}{N:Nat}(hz:∀z∈zs,z<N)(h0:0<N)(j:Nat):Pb N:=⟨(j,zs[j]?.getD 0),ZgT hz h0 j⟩
theorem Ziu(F:Fence)(n:Nat)(h8:F.fn 144)(hro:F.round=none)(hn:1<=n)(l Bs n₀ b off len cap:Nat)(zs:List Nat)(N:Nat)(hz:∀z∈zs,z<N)(h0N:0<N)(hreach:len<=1000000)(hb:b<n₀)(J Jx:List (Pb N)->World->Prop)
 (hY:∀pre x W,J pre W->pre.length<len->YieldAt F (n-1) Tryz.prog l #[.int .i64 (x.1.1:Int),.int .i64 (x.1.2:Int)] W fun e W' =>
  (e=.returned (.bool true)/\J (pre++[x]) W'/\Below n₀ W W')\/(e=.returned (.bool false)/\Jx (pre++[x]) W'))
 (W:World) (hBs:W.cell? ⟨Bs,0,none⟩=some (.slice (some ⟨b,off,none⟩) len cap)) (hBl:Bs<n₀) (hc:∀j,j<len->W.cell? ⟨b,off+j,none⟩=some (.int .i64 ((zs[j]?.getD 0:Nat):Int))) (h0:J [] W) :
 CallsIn F n Tryz.prog 144 #[.func (.yield l) #[] #[],.pointer (some ⟨Bs,0,none⟩)] W fun e W'=>(∃v,e=.returned v) /\
  ((∃ys,ys=Jk (Ug hz h0N) len 0/\J ys W')\/(∃pre,(∃k,k<len/\pre=Jk (Ug hz h0N) len k)/\Jx pre W')):=by
 refine callsIn_of_wp Tryz.func144 rfl h8 ?_ hro;simp only[Tryz.ntmps144,List.size_toArray,List.length_cons,List.length_nil,Nat.reduceAdd,Nat.reduceSub,Array.replicate_succ,Array.replicate_zero,List.push_toArray,List.append_toArray,List.nil_append,List.cons_append]
 gi_wp2
 gi_loopw [3] (fun i wr=>∃(k:Nat)(z:Int),k<=len/\i=.int .i64 z/\z+1=(k:Int)/\J (Jk (Ug hz h0N) len k) wr/\Below n₀ W wr)
  (fun i _=>(intOf i+1).toNat)
 case atStart=>exact⟨len,_,Nat.le_refl _,rfl,oM,by rw[ZeE];exact h0,Below.refl _ _⟩
 case round =>
  obtain⟨k,z,hk,rfl,hzk,hJs,hnx⟩:=hrel;have hBs':=(hnx.cell (p:=⟨Bs,0,none⟩) hBl).trans hBs;cases k with
  | zero =>
   have hz1:z=-1:=oM;subst hz1
   gi_wp2
   go_end0
   exact⟨⟨_,rfl⟩,.inl ⟨_,rfl,hJs⟩⟩
  | succ q =>
   have hz1:z=(q:Int):=oM;subst hz1;have hq:q<len:=hk;have hcx:wr.cell? ⟨b,off+q,none⟩=some (.int .i64 ((zs[q]?.getD 0:Nat):Int)):=(hnx.cell (p:=⟨b,off+q,none⟩) hb).trans (hc q hq);obtain⟨fn,tmps,assign,body,hy,hR⟩:=hY _ (Ug hz h0N q) wr hJs (by rw[Zij];omega);dsimp only[Ug]at hy
   gi_wp2
   refine hR.mono ?_;rintro e W3 (⟨rfl,hJ3,hk3⟩ | ⟨rfl,hJx3⟩)
   ·gi_wp2
    go_roundw
    case rel=>exact⟨q,_,oM,rfl,oM,by rw[Wz _ hq];exact hJ3,hnx.trans hk3⟩
    case measure=>simp[intOf]
   ·gi_wp2
    refine bodyPost_ret (results_none rfl _ _ _) rfl ?_;exact⟨⟨_,rfl⟩,.inr ⟨_,⟨q,hq,(Wz _ hq).symm⟩,hJx3⟩⟩
theorem Zbw(F:Fence)(n:Nat)(h6:F.fn 134)(hro:F.round=none)(a:Option Addr)(len cap:Nat)(w:World) :
 CallsIn F n Tryz.prog 134 #[.slice a len cap] w fun e w'=>e=.returned (.func (.func 144) #[] #[.pointer (some ⟨w.heap.size,0,none⟩)])/\w'=w.alloc (.cells #[.slice a len cap] 26):=by
 refine callsIn_of_wp Tryz.func134 rfl h6 ?_ hro;simp only[Tryz.ntmps134,List.size_toArray,List.length_cons,List.length_nil,Nat.reduceAdd,Nat.reduceSub,Array.replicate_succ,Array.replicate_zero,List.push_toArray,List.append_toArray,List.nil_append,List.cons_append]
 gi_wp2
 go_ret
 exact⟨rfl,rfl⟩
theorem UO(F:Fence)(n:Nat)(h8:F.fn 144)(hro:F.round=none)(hn:1<=n)(Bs b off len cap:Nat)(zs:List Nat)(N:Nat)(hz:∀z∈zs,z<N)(h0N:0<N)(hreach:len<=1000000)(w:World)(hBs:Bs<w.heap.size)(hb:b<w.heap.size)
 (hc:w.cell? ⟨Bs,0,none⟩=some (.slice (some ⟨b,off,none⟩) len cap)) (hI:∀j,j<len->w.cell? ⟨b,off+j,none⟩=some (.int .i64 ((zs[j]?.getD 0:Nat):Int))) :
 SeqStopsK F n Tryz.prog 144 #[.pointer (some ⟨Bs,0,none⟩)] (fun x:Pb N=>#[Value.int .i64 (x.1.1:Int),Value.int .i64 (x.1.2:Int)]) (Below w.heap.size) (fun ys=>ys=Jk (Ug hz h0N) len 0)
  (fun pre=>∃k,k<len/\pre=Jk (Ug hz h0N) len k) len w:=fun l J Jx W hW _ _ hY h0 =>
 Ziu F n h8 hro hn l Bs w.heap.size b off len cap zs N hz h0N hreach hb J Jx hY W ((hW.cell (p:=⟨Bs,0,none⟩) hBs).trans hc) hBs (fun j hj=>(hW.cell (p:=⟨b,off+j,none⟩) hb).trans (hI j hj)) h0
end
end Go.Proofs.YthgikffcdgpgiaaGreatDoor
