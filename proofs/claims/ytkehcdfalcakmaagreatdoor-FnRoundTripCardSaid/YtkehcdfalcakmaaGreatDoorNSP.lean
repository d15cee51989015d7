import Derived.Laws.BitsAllLaws
import Derived.Test.YtkehcdfalcakmaaGreatDoorPure
namespace Go.Proofs.YtkehcdfalcakmaaGreatDoor
open Go.RowKit
def XS(W:Nat->Nat)(x:Nat):Bool:=(W (x / 64)).testBit (x % 64)
def Kc(W:Nat->Nat)(x:Nat):Nat->Nat:=fun i=>if i=x / 64 then W i ||| 2 ^ (x % 64)else W i
theorem KG(x:Nat):XS (fun _=>0) x=false:=by simp[XS]
theorem Jl(W:Nat->Nat)(x y:Nat):XS (Kc W x) y=(decide (y=x)||XS W y):=by
 unfold XS Kc;by_cases h:y / 64=x / 64
 ·rw[if_pos h,Nat.testBit_or,Nat.testBit_two_pow]
  by_cases e:x % 64=y % 64
  ·have:y=x:=by omega
   simp[this]
  ·have:¬y=x:=fun h2=>e (by rw[h2])
   simp[this,e]
 ·rw[if_neg h]
  have:¬y=x:=fun h2=>h (by rw[h2])
  simp[this]
def Wx(W:Nat->Nat)(ts:List Nat):Nat->Nat:=ts.foldl Kc W
theorem VD:∀(ts:List Nat)(W:Nat->Nat)(y:Nat),XS (Wx W ts) y=(decide (y∈ts)||XS W y)
 | [],W,y=>by simp[Wx]
 | t::ts,W,y=>by
  show XS (Wx (Kc W t) ts) y=_;rw[VD ts,Jl];by_cases h1:y=t
  ·simp[h1]
  ·by_cases h2:y∈ts<;>simp[h1,h2]
end Go.Proofs.YtkehcdfalcakmaaGreatDoor
namespace Go.Proofs.YtkehcdfalcakmaaGreatDoor
def dfsV(tg:Nat->List Nat):Nat->Nat->(Nat->Nat) × List Nat->(Nat->Nat) × List Nat
 | 0,_,s=>s
 | m+1,b,s=>if XS s.1 b=true then s else
  (((tg b).foldl (fun s t=>dfsV tg m t s) (Kc s.1 b,s.2)).1,((tg b).foldl (fun s t=>dfsV tg m t s) (Kc s.1 b,s.2)).2++[b])
def Ji(xs:List Xf)(b:Nat):List Nat:=match xs[b]? with
 | some x=>x.term.targets.map Int.toNat
 | none=>[]
theorem Zci{xs:List Xf}{b:Nat}(h:b<xs.length):Ji xs b=xs[b].term.targets.map Int.toNat:=by
 unfold Ji;rw[List.getElem?_eq_getElem h]
def Zw(W:Nat->Nat)(n:Nat):Nat:=((List.range n).filter fun x=>!XS W x).length
theorem ZbP{W W':Nat->Nat}(n:Nat)(h:∀x,XS W x=true->XS W' x=true):Zw W' n<=Zw W n:=by
 unfold Zw;rw[<-List.countP_eq_length_filter,<-List.countP_eq_length_filter];refine List.countP_mono_left (fun x _ hx=>?_);cases h1:XS W x with
 | false=>rfl
 | true=>rw[h x h1]at hx;cases hx
theorem ZbE{W:Nat->Nat}{n b:Nat}(h:Zw W n=0)(hb:b<n):XS W b=true:=by
 unfold Zw at h;have:=List.filter_eq_nil_iff.1 (List.length_eq_zero_iff.1 h) b (List.mem_range.2 hb);simpa using this
theorem Zcs{W:Nat->Nat}{n b:Nat}(hb:b<n)(hs:XS W b=false):Zw (Kc W b) n+1<=Zw W n:=by
 have key:∀n,Zw (Kc W b) n+(if b<n then 1 else 0)<=Zw W n:=fun n=>by
  induction n with
  | zero=>simp[Zw]
  | succ n ih =>
   unfold Zw at *;rw[List.range_succ,List.filter_append,List.filter_append,List.length_append,List.length_append];by_cases e:n=b
   ·subst e
    rw[if_neg (by omega)]at ih;rw[if_pos (by omega)];have h1:([n].filter fun x=>!XS (Kc W n) x).length=0:=by simp[Jl]
    have h2:([n].filter fun x=>!XS W x).length=1:=by simp[hs]
    omega
   ·have h1:([n].filter fun x=>!XS (Kc W b) x).length=([n].filter fun x=>!XS W x).length:=by
     congr 1;refine List.filter_congr (fun x hx=>?_);have:x=n:=by simpa using hx
     subst this;rw[Jl,decide_eq_false e,Bool.false_or]
    by_cases hl:b<n
    ·rw[if_pos hl]at ih;rw[if_pos (by omega)];omega
    ·rw[if_neg hl]at ih;rw[if_neg (by omega)];omega
 have:=key n;rw[if_pos hb]at this;exact this
theorem VC(tg:Nat->List Nat):∀(m b:Nat)(s:(Nat->Nat) × List Nat)(x:Nat),XS s.1 x=true->XS (dfsV tg m b s).1 x=true
 | 0,_,_,_,h=>h
 | m+1,b,s,x,h=>by
  rw[dfsV];split
  ·exact h
  ·have key:∀(l:List Nat)(s:(Nat->Nat) × List Nat),XS s.1 x=true->XS (l.foldl (fun s t=>dfsV tg m t s) s).1 x=true:=fun l=>by
    induction l with
    | nil=>intro s h;exact h
    | cons t l ih=>intro s h;exact ih _ (VC tg m t s x h)
   exact key _ _ (by rw[Jl,h];simp)
theorem WA(tg:Nat->List Nat)(m:Nat)(l:List Nat)(s:(Nat->Nat) × List Nat)(x:Nat)(h:XS s.1 x=true):XS (l.foldl (fun s t=>dfsV tg m t s) s).1 x=true:=by
 induction l generalizing s with
 | nil=>exact h
 | cons t l ih=>exact ih _ (VC tg m t s x h)
theorem ZhD{tg:Nat->List Nat}{m b:Nat}{s:(Nat->Nat) × List Nat}(h:XS s.1 b=false):dfsV tg (m+1) b s=(((tg b).foldl (fun s t=>dfsV tg m t s) (Kc s.1 b,s.2)).1,((tg b).foldl (fun s t=>dfsV tg m t s) (Kc s.1 b,s.2)).2++[b]):=by
 rw[dfsV,if_neg (by rw[h];decide)]
theorem Zge{tg:Nat->List Nat}{m b:Nat}{s:(Nat->Nat) × List Nat}(h:XS s.1 b=true):dfsV tg m b s=s:=by
 cases m with
 | zero=>rfl
 | succ m=>rw[dfsV,if_pos h]
inductive Sp (I:Nat->Nat->Nat) (T:Nat->Nat->Nat) (ord:Nat->Prop) (src:Nat->List Nat):Nat->Nat->Prop
 | init {b x:Nat}:XS (I b) x=true->Sp I T ord src b x
 | take {b s x:Nat}:ord b->s∈src b->Sp I T ord src s x->XS (T b) x=false->Sp I T ord src b x
end Go.Proofs.YtkehcdfalcakmaaGreatDoor
namespace Go.Proofs.YtkehcdfalcakmaaGreatDoor
inductive Av (tg:Nat->List Nat) (a:Nat):Nat->Prop
 | root:a≠0->Av tg a 0
 | step {b t:Nat}:Av tg a b->t∈tg b->t≠a->Av tg a t
inductive Re (tg:Nat->List Nat):Nat->Prop
 | root:Re tg 0
 | step {b t:Nat}:Re tg b->t∈tg b->Re tg t
structure K9(tg:Nat->List Nat)(a b:Nat):Prop where
 ra:Re tg a
 rb:Re tg b
 no:¬Av tg a b
variable {tg : Nat -> List Nat}
theorem ZfJ{a b:Nat}(h:Av tg a b):Re tg b:=by
 induction h with
 | root=>exact Re.root
 | step _ ht _ ih=>exact Re.step ih ht
theorem Zhn{a b:Nat}(h:Av tg a b):b≠a:=by
 cases h with
 | root h=>exact fun e=>h e.symm
 | step _ _ h=>exact h
theorem TZ{b:Nat}(h:Re tg b):K9 tg b b:=⟨h,h,fun e=>Zhn e rfl⟩
theorem ZfA{b:Nat}(h:Re tg b):K9 tg 0 b:=⟨Re.root,h,fun e=>by
 have:∀{c},Av tg 0 c->False:=fun hc=>by
  induction hc with
  | root h=>exact h rfl
  | step _ _ _ ih=>exact ih
 exact this e⟩
theorem ZhF{x a b:Nat}(h:Av tg x b)(hn:¬Av tg a b):Av tg x a:=by
 induction h with
 | root hx =>
  have:a=0:=Classical.byContradiction (fun e=>hn (Av.root e));rw[this];exact Av.root hx
 | @step c t hc ht hx ih =>
  by_cases h1:Av tg a c
  ·have:t=a:=Classical.byContradiction (fun e=>hn (Av.step h1 ht e))
   rw[<-this];exact Av.step hc ht hx
  ·exact ih h1
theorem WU{a b c:Nat}(h:K9 tg a b)(k:K9 tg b c):K9 tg a c:=⟨h.ra,k.rb,fun e=>h.no (ZhF e k.no)⟩
theorem ZfT{a b:Nat}(hab:a≠b){c:Nat}(h:Re tg c):(Av tg a c/\Av tg b c)\/Av tg b a\/Av tg a b:=by
 induction h with
 | root =>
  by_cases ha:a=0
  ·subst ha;exact Or.inr (Or.inl (Av.root (fun e=>hab e.symm)))
  ·by_cases hb:b=0
   ·subst hb;exact Or.inr (Or.inr (Av.root ha))
   ·exact Or.inl ⟨Av.root ha,Av.root hb⟩
 | @step c t _ ht ih =>
  rcases ih with⟨h1,h2⟩ | h | h
  ·by_cases ea:t=a
   ·subst ea;exact Or.inr (Or.inl (Av.step h2 ht hab))
   ·by_cases eb:t=b
    ·subst eb;exact Or.inr (Or.inr (Av.step h1 ht (fun e=>hab e.symm)))
    ·exact Or.inl ⟨Av.step h1 ht ea,Av.step h2 ht eb⟩
  ·exact Or.inr (Or.inl h)
  ·exact Or.inr (Or.inr h)
theorem Zff{a b:Nat}(h:K9 tg a b)(k:K9 tg b a):a=b:=Classical.byContradiction (fun e=>by
 rcases ZfT e h.rb with⟨_,h2⟩ | h2 | h2
 ·exact Zhn h2 rfl
 ·exact k.no h2
 ·exact h.no h2)
inductive Sf (tg:Nat->List Nat) (a b x:Nat):Nat->Prop
 | here:Sf tg a b x x
 | step {c t:Nat}:Sf tg a b x c->t∈tg c->t≠a->t≠b->Sf tg a b x t
theorem ZgD{a b c:Nat}(h:Re tg c):(Av tg a c/\Av tg b c)\/Sf tg a b a c\/Sf tg a b b c:=by
 induction h with
 | root =>
  by_cases ha:a=0
  ·subst ha;exact Or.inr (Or.inl Sf.here)
  ·by_cases hb:b=0
   ·subst hb;exact Or.inr (Or.inr Sf.here)
   ·exact Or.inl ⟨Av.root ha,Av.root hb⟩
 | @step c t _ ht ih =>
  by_cases ea:t=a
  ·subst ea;exact Or.inr (Or.inl Sf.here)
  ·by_cases eb:t=b
   ·subst eb;exact Or.inr (Or.inr Sf.here)
   ·rcases ih with⟨h1,h2⟩ | h | h
    ·exact Or.inl ⟨Av.step h1 ht ea,Av.step h2 ht eb⟩
    ·exact Or.inr (Or.inl (Sf.step h ht ea eb))
    ·exact Or.inr (Or.inr (Sf.step h ht ea eb))
theorem Zhe{a b x c y:Nat}(h:Sf tg a b x c)(hy:y=a\/y=b)(hx:Av tg y x):Av tg y c:=by
 induction h with
 | here=>exact hx
 | step _ ht h1 h2 ih=>exact Av.step ih ht (by rcases hy with rfl | rfl;exact h1;exact h2)
theorem Ze5{a b c:Nat}(h:K9 tg a c)(k:K9 tg b c):K9 tg a b\/K9 tg b a:=by
 rcases ZgD (a:=a) (b:=b) h.rb with⟨h1,_⟩ | h1 | h1
 ·exact absurd h1 h.no
 ·exact Or.inr ⟨k.ra,h.ra,fun e=>k.no (Zhe h1 (Or.inr rfl) e)⟩
 ·exact Or.inl ⟨h.ra,k.ra,fun e=>h.no (Zhe h1 (Or.inl rfl) e)⟩
theorem Zif{n:Nat}{I T:Nat->Nat->Nat}{ord:Nat->Prop}{src:Nat->List Nat}(hI:∀b x,x<n->(XS (I b) x=true↔b=0/\x≠0))(hT:∀b x,x<n->b<n->(XS (T b) x=true↔x=b))(ho:∀b,ord b↔Re tg b)(hon:∀b,Re tg b->b<n)(hs:∀b s,b<n->(s∈src b↔s<n/\b∈tg s)){b x:Nat}(hx:x<n):Sp I T ord src b x↔Av tg x b:=by
 constructor
 ·intro h
  induction h with
  | init h =>
   obtain⟨rfl,h2⟩:=(hI _ _ hx).1 h;exact Av.root h2
  | @take b s x hb hs' _ ht ih =>
   have hbn:=hon b ((ho b).1 hb);refine Av.step (ih hx) ((hs b s hbn).1 hs').2 (fun e=>?_);have:=(hT b x hx hbn).2 e.symm;rw[this]at ht;cases ht
 ·intro h
  induction h with
  | root h=>exact Sp.init ((hI 0 x hx).2 ⟨rfl,h⟩)
  | @step b t hb ht hne ih =>
   have hbr:=ZfJ hb;have htr:=Re.step hbr ht;refine Sp.take ((ho t).2 htr) ((hs t b (hon t htr)).2 ⟨hon b hbr,ht⟩) ih ?_;cases e:XS (T t) x with
   | false=>rfl
   | true=>exact absurd ((hT t x hx (hon t htr)).1 e) (fun e=>hne e.symm)
end Go.Proofs.YtkehcdfalcakmaaGreatDoor
namespace Go.Proofs.YtkehcdfalcakmaaGreatDoor
variable {tg : Nat -> List Nat}
def Bef(l:List Nat)(x a:Nat):Prop:=∃l1 l2,l=l1++l2/\x∈l1/\a∈l2
theorem ZgK{l r:List Nat}{x a:Nat}(h:Bef l x a):Bef (l++r) x a:=by
 obtain⟨l1,l2,rfl,h1,h2⟩:=h;exact⟨l1,l2++r,by simp,h1,by simp[h2]⟩
theorem Zgg{l:List Nat}{x b:Nat}(h:x∈l):Bef (l++[b]) x b:=⟨l,[b],rfl,h,by simp⟩
def Stk(tg:Nat->List Nat)(P:List Nat)(b:Nat):Prop:=∀a,K9 tg a b->a≠b->a∈P
theorem ZeN:Stk tg [] 0:=fun _ h hne=>absurd (Av.root hne) h.no
theorem Zfe{P:List Nat}{b t:Nat}(h:Stk tg P b)(hb:Re tg b)(ht:t∈tg b):Stk tg (b::P) t:=fun a ha hne=>by
 by_cases e:a=b
 ·rw[e];exact List.mem_cons_self
 ·exact List.mem_cons_of_mem _ (h a ⟨ha.ra,hb,fun k=>ha.no (Av.step k ht (fun e2=>hne e2.symm))⟩ e)
structure ZaI(tg:Nat->List Nat)(P:List Nat)(s:(Nat->Nat) × List Nat):Prop where
 seen:∀x∈s.2,XS s.1 x=true
 nd:s.2.Nodup
 all:∀x,XS s.1 x=true->x∈s.2\/x∈P
 stk:∀x∈P,x ∉ s.2/\XS s.1 x=true
 ord:∀x∈s.2,∀a,K9 tg a x->a≠x->a∈P\/Bef s.2 x a
 re:∀x∈s.2,Re tg x
 cl:∀x∈s.2,∀t∈tg x,XS s.1 t=true
theorem ZdH{P:List Nat}{s:(Nat->Nat) × List Nat}{b:Nat}(h:ZaI tg P s)(hb:XS s.1 b=false):ZaI tg (b::P) (Kc s.1 b,s.2):=by
 have mono:∀x,XS s.1 x=true->XS (Kc s.1 b) x=true:=fun x hx=>by rw[Jl,hx];simp
 refine⟨fun x hx=>mono x (h.seen x hx),h.nd,fun x hx=>?_,fun x hx=>?_,fun x hx a ha hne=>?_,h.re,fun x hx t ht=>mono t (h.cl x hx t ht)⟩
 ·rw[Jl]at hx
  by_cases e:x=b
  ·exact Or.inr (by rw[e];exact List.mem_cons_self)
  ·rw[decide_eq_false e,Bool.false_or]at hx
   rcases h.all x hx with h1 | h1
   ·exact Or.inl h1
   ·exact Or.inr (List.mem_cons_of_mem _ h1)
 ·rcases List.mem_cons.1 hx with rfl | hx
  ·exact⟨fun k=>(by rw[h.seen _ k]at hb;cases hb),by rw[Jl];simp⟩
  ·exact⟨(h.stk x hx).1,mono x (h.stk x hx).2⟩
 ·rcases h.ord x hx a ha hne with h1 | h1
  ·exact Or.inl (List.mem_cons_of_mem _ h1)
  ·exact Or.inr h1
theorem ZeO{P:List Nat}{s:(Nat->Nat) × List Nat}{b:Nat}(h:ZaI tg (b::P) s)(hP:b ∉ P)(hr:Re tg b)(hs:Stk tg P b)(hc:∀t∈tg b,XS s.1 t=true):ZaI tg P (s.1,s.2++[b]):=by
 have hb:=h.stk b List.mem_cons_self;refine⟨fun x hx=>?_,?_,fun x hx=>?_,fun x hx=>?_,fun x hx a ha hne=>?_,fun x hx=>?_,fun x hx t ht=>?_⟩
 ·rcases List.mem_append.1 hx with h1 | h1
  ·exact h.seen x h1
  ·have:x=b:=by simpa using h1
   rw[this];exact hb.2
 ·rw[List.nodup_append]
  refine⟨h.nd,by simp,fun x hx y hy e=>?_⟩;have:y=b:=by simpa using hy
  rw[e,this]at hx;exact hb.1 hx
 ·rcases h.all x hx with h1 | h1
  ·exact Or.inl (List.mem_append_left _ h1)
  ·rcases List.mem_cons.1 h1 with rfl | h1
   ·exact Or.inl (by simp)
   ·exact Or.inr h1
 ·have hx':=h.stk x (List.mem_cons_of_mem _ hx)
  refine⟨fun k=>?_,hx'.2⟩;rcases List.mem_append.1 k with k | k
  ·exact hx'.1 k
  ·have:x=b:=by simpa using k
   rw[this]at hx;exact hP hx
 ·rcases List.mem_append.1 hx with h1 | h1
  ·rcases h.ord x h1 a ha hne with h2 | h2
   ·rcases List.mem_cons.1 h2 with rfl | h2
    ·exact Or.inr (Zgg h1)
    ·exact Or.inl h2
   ·exact Or.inr (ZgK h2)
  ·have:x=b:=by simpa using h1
   subst this;exact Or.inl (hs a ha hne)
 ·rcases List.mem_append.1 hx with h1 | h1
  ·exact h.re x h1
  ·have:x=b:=by simpa using h1
   rw[this];exact hr
 ·rcases List.mem_append.1 hx with h1 | h1
  ·exact h.cl x h1 t ht
  ·have:x=b:=by simpa using h1
   rw[this]at ht;exact hc t ht
theorem Zbu{n:Nat}(hn:∀b,b<n->∀t∈tg b,t<n):∀(m b:Nat)(s:(Nat->Nat) × List Nat)(P:List Nat),b<n->Zw s.1 n<=m->Re tg b->Stk tg P b->ZaI tg P s->ZaI tg P (dfsV tg m b s)/\XS (dfsV tg m b s).1 b=true
 | 0,b,s,P,hb,hu,_,_,hi=>⟨hi,ZbE (n:=n) (Nat.le_zero.1 hu) hb⟩
 | m+1,b,s,P,hb,hu,hr,hs,hi=>by
  cases hh:XS s.1 b with
  | true=>rw[Zge hh];exact⟨hi,hh⟩
  | false =>
   rw[ZhD hh];have hP:b ∉ P:=fun k=>by rw[(hi.stk b k).2]at hh;cases hh
   have hu1:=Zcs hb hh;have key:∀(l:List Nat)(s1:(Nat->Nat) × List Nat),(∀t∈l,t∈tg b)->Zw s1.1 n<=m->ZaI tg (b::P) s1->ZaI tg (b::P) (l.foldl (fun s t=>dfsV tg m t s) s1)/\∀t∈l,XS (l.foldl (fun s t=>dfsV tg m t s) s1).1 t=true:=fun l=>by
    induction l with
    | nil=>intro s1 _ _ h1;exact⟨h1,fun t ht=>by cases ht⟩
    | cons t l ih =>
     intro s1 hl h1 h2;have ht:=hl t List.mem_cons_self;obtain⟨k1,k2⟩:=Zbu hn m t s1 (b::P) (hn b hb t ht) h1 (Re.step hr ht) (Zfe hs hr ht) h2;obtain⟨k3,k4⟩:=ih (dfsV tg m t s1) (fun u hu=>hl u (List.mem_cons_of_mem _ hu)) (Nat.le_trans (ZbP n (fun x hx=>VC tg m t s1 x hx)) h1) k1;refine⟨k3,fun u hu=>?_⟩;rcases List.mem_cons.1 hu with rfl | hu
     ·exact WA tg m l _ _ k2
     ·exact k4 u hu
   obtain⟨k1,k2⟩:=key (tg b) (Kc s.1 b,s.2) (fun t ht=>ht) (by show Zw (Kc s.1 b) n<=m;omega) (ZdH hi hh);refine⟨ZeO k1 hP hr hs k2,?_⟩;exact WA tg m (tg b) (Kc s.1 b,s.2) b (by show XS (Kc s.1 b) b=true;rw[Jl];simp)
theorem Zd6(W:Nat->Nat)(n:Nat):Zw W n<=n:=Nat.le_trans (List.length_filter_le _ _) (by simp)
theorem ZgI{n:Nat}(hn:∀b,b<n->∀t∈tg b,t<n)(h0:0<n){m:Nat}(hm:n<=m) :
 (∀x,x∈(dfsV tg m 0 (fun _=>0,[])).2↔Re tg x)/\(∀x,XS (dfsV tg m 0 (fun _=>0,[])).1 x=true↔Re tg x)/\(dfsV tg m 0 (fun _=>0,[])).2.Nodup/\∀x a,K9 tg a x->a≠x->Bef (dfsV tg m 0 (fun _=>0,[])).2 x a:=by
 have hi:ZaI tg [] (fun _=>0,[]):=⟨fun x hx=>(by cases hx),List.nodup_nil,fun x hx=>(by rw[KG]at hx;cases hx),fun x hx=>(by cases hx),fun x hx=>(by cases hx),fun x hx=>(by cases hx),fun x hx=>(by cases hx)⟩;obtain⟨h1,h2⟩:=Zbu hn m 0 (fun _=>0,[]) [] h0 (Nat.le_trans (Zd6 _ _) hm) Re.root ZeN hi;generalize dfsV tg m 0 (fun _=>0,[])=s at *;have hs:∀x,XS s.1 x=true->x∈s.2:=fun x hx=>by
  rcases h1.all x hx with h | h
  ·exact h
  ·cases h
 have hr:∀x,Re tg x->XS s.1 x=true:=fun x hx=>by
  induction hx with
  | root=>exact h2
  | step _ ht ih=>exact h1.cl _ (hs _ ih) _ ht
 refine⟨fun x=>⟨h1.re x,fun h=>hs x (hr x h)⟩,fun x=>⟨fun h=>h1.re x (hs x h),hr x⟩,h1.nd,fun x a ha hne=>?_⟩;rcases h1.ord x (hs x (hr x ha.rb)) a ha hne with h | h
 ·cases h
 ·exact h
end Go.Proofs.YtkehcdfalcakmaaGreatDoor
namespace Go.Proofs.YtkehcdfalcakmaaGreatDoor
variable {tg : Nat -> List Nat}
structure Idm(tg:Nat->List Nat)(a b:Nat):Prop where
 dom:K9 tg a b
 ne:a≠b
 near:∀c,K9 tg c b->c≠b->K9 tg c a
theorem Zb4{l:List Nat}{x a:Nat}(h:Bef l x a):Bef l.reverse a x:=by
 obtain⟨l1,l2,rfl,h1,h2⟩:=h;exact⟨l2.reverse,l1.reverse,by simp,by simpa using h2,by simpa using h1⟩
theorem VS{l:List Nat}(hn:l.Nodup){i:Nat}(hi:i<l.length){x:Nat}(h:Bef l x l[i]):x∈l.take i:=by
 obtain⟨l1,l2,e,h1,h2⟩:=h;have hl:l1.length<=i:=Nat.le_of_not_lt (fun hlt=>by
  have k1:l[i]∈l1:=by
   have:l[i]=l1[i]:=by
    have h3:l[i]?=(l1++l2)[i]?:=by rw[<-e]
    rw[List.getElem?_eq_getElem hi,List.getElem?_append_left hlt,List.getElem?_eq_getElem hlt]at h3;injection h3
   rw[this];exact List.getElem_mem hlt
  rw[e,List.nodup_append]at hn;exact hn.2.2 _ k1 _ h2 rfl)
 rw[e,List.take_append];rw[List.take_of_length_le hl];exact List.mem_append_left _ h1
theorem Zf3{l:List Nat}{p:Nat->Bool}{a:Nat}(h:l.reverse.find? p=some a):p a=true/\a∈l/\∀c∈l,p c=true->c=a\/Bef l c a:=by
 rw[List.find?_eq_some_iff_append]at h;obtain⟨hp,az,bs,e,hb⟩:=h;have el:l=bs.reverse++[a]++az.reverse:=by
  have:=congrArg List.reverse e;simpa using this
 refine⟨hp,by rw[el];simp,fun c hc hpc=>?_⟩;rw[el]at hc;rcases List.mem_append.1 hc with h1 | h1
 ·rcases List.mem_append.1 h1 with h2 | h2
  ·exact Or.inr ⟨bs.reverse,[a]++az.reverse,by rw[el,List.append_assoc],h2,by simp⟩
  ·exact Or.inl (by simpa using h2)
 ·have:=hb c (by simpa using h1)
  rw[hpc]at this;cases this
theorem ZdL{o:List Nat}(hn:o.Nodup)(hm:∀x,x∈o↔Re tg x)(ho:∀x a,K9 tg a x->a≠x->Bef o a x){i:Nat}(hi:i<o.length){p:Nat->Bool}(hp:∀a∈o,p a=true↔¬Av tg a o[i]) :
 match (o.take i).reverse.find? p with
 | some a=>Idm tg a o[i]
 | none=>∀c,K9 tg c o[i]->c=o[i]:=by
 have hb:Re tg o[i]:=(hm _).1 (List.getElem_mem hi);have hdom:∀a,a∈o->(p a=true↔K9 tg a o[i]):=fun a ha=>⟨fun h=>⟨(hm a).1 ha,hb,(hp a ha).1 h⟩,fun h=>(hp a ha).2 h.no⟩
 have hnd:(o.take i).Nodup:=hn.sublist (List.take_sublist _ _);have hin:∀c,K9 tg c o[i]->c≠o[i]->c∈o.take i:=fun c hc hne=>VS hn hi (ho o[i] c hc hne)
 have hni:o[i] ∉ o.take i:=fun k=>by
  have e:o=o.take i++o.drop i:=(List.take_append_drop i o).symm;have hd:o[i]∈o.drop i:=by rw[List.drop_eq_getElem_cons hi];exact List.mem_cons_self
  rw[e,List.nodup_append]at hn;exact hn.2.2 _ k _ hd rfl
 cases hf:(o.take i).reverse.find? p with
 | some a =>
  obtain⟨h1,h2,h3⟩:=Zf3 hf;have hao:a∈o:=List.mem_of_mem_take h2;have hda:=(hdom a hao).1 h1;have hane:a≠o[i]:=fun e=>hni (by rw[<-e];exact h2)
  refine⟨hda,hane,fun c hc hne=>?_⟩;have hct:=hin c hc hne;rcases h3 c hct ((hdom c (List.mem_of_mem_take hct)).2 hc)with e | hbf
  ·rw[e];exact TZ hda.ra
  ·by_cases eca:c=a
   ·rw[eca];exact TZ hda.ra
   ·rcases Ze5 hc hda with k | k
    ·exact k
    ·-- a dominates c: then a stands ahead of c
     exfalso;have h4:=ho c a k (fun e=>eca e.symm);have hci:∃j,∃hj:j<(o.take i).length,(o.take i)[j]=a:=List.getElem_of_mem h2;obtain⟨j,hj,ej⟩:=hci;have hjo:j<o.length:=by rw[List.length_take]at hj;omega
     have ej':o[j]=a:=by rw[<-ej,List.getElem_take]
     have h5:c∈o.take j:=by
      have hbo:Bef o c o[j]:=by
       rw[ej'];obtain⟨l1,l2,e,k1,k2⟩:=hbf;exact⟨l1,l2++o.drop i,by rw[<-List.append_assoc,<-e,List.take_append_drop],k1,List.mem_append_left _ k2⟩
      exact VS hn hjo hbo
     obtain⟨m,hmm,em⟩:=List.getElem_of_mem h5;have hmo:m<o.length:=by rw[List.length_take]at hmm;omega
     have em':o[m]=c:=by rw[<-em,List.getElem_take]
     have h6:a∈o.take m:=VS hn hmo (by rw[em'];exact h4);obtain⟨q,hqq,eq⟩:=List.getElem_of_mem h6;have hqo:q<o.length:=by rw[List.length_take]at hqq;omega
     have eq':o[q]=a:=by rw[<-eq,List.getElem_take]
     have hqj:q=j:=by
      have key:=List.pairwise_iff_getElem.1 (show o.Pairwise (·≠·) from hn);rcases Nat.lt_trichotomy q j with hl | hl | hl
      ·exact absurd (eq'.trans ej'.symm) (key q j hqo hjo hl)
      ·exact hl
      ·exact absurd (ej'.trans eq'.symm) (key j q hjo hqo hl)
     rw[List.length_take]at hmm hqq;omega
 | none =>
  intro c hc;refine Classical.byContradiction (fun hne=>?_);have hct:=hin c hc hne;have:=List.find?_eq_none.1 hf c (by simpa using hct);exact this ((hdom c (List.mem_of_mem_take hct)).2 hc)
def bestP(cnt:Nat->Nat)(b:Nat)(ds:List Nat):Option Nat:=ds.foldl (fun best a=>if a≠b/\(best=none\/∃k,best=some k/\cnt a > cnt k)then some a else best) none
theorem Zd9{cnt:Nat->Nat}{b:Nat}{ds:List Nat}(h:∀a∈ds,a=b):bestP cnt b ds=none:=by
 unfold bestP;have key:∀(l:List Nat),(∀a∈l,a=b)->l.foldl (fun best a=>if a≠b/\(best=none\/∃k,best=some k/\cnt a > cnt k)then some a else best) none=none:=fun l=>by
  induction l with
  | nil=>intro _;rfl
  | cons a l ih =>
   intro h;rw[List.foldl_cons,if_neg (fun k=>k.1 (h a List.mem_cons_self))];exact ih (fun x hx=>h x (List.mem_cons_of_mem _ hx))
 exact key ds h
theorem Ze1{cnt:Nat->Nat}{a b:Nat}{ds:List Nat}(ha:a∈ds)(hne:a≠b)(hmax:∀c∈ds,c≠b->c≠a->cnt c<cnt a):bestP cnt b ds=some a:=by
 unfold bestP;have key:∀(l:List Nat)(best:Option Nat),(∀c∈l,c≠b->c≠a->cnt c<cnt a)->(best=none\/∃k,best=some k/\(k=a\/cnt k<cnt a))->(best=some a\/a∈l)->l.foldl (fun best a=>if a≠b/\(best=none\/∃k,best=some k/\cnt a > cnt k)then some a else best) best=some a:=fun l=>by
  induction l with
  | nil =>
   intro best _ _ h;rcases h with h | h
   ·exact h
   ·cases h
  | cons c l ih =>
   intro best hm hb h;rw[List.foldl_cons];have hm':∀c∈l,c≠b->c≠a->cnt c<cnt a:=fun x hx=>hm x (List.mem_cons_of_mem _ hx)
   by_cases hca:c=a
   ·subst hca
    by_cases hbc:best=some c
    ·subst hbc
     rw[if_neg (fun k=>by rcases k.2 with k | ⟨q,k1,k2⟩;cases k;injection k1 with k1;rw[k1]at k2;omega)];exact ih _ hm' hb (Or.inl rfl)
    ·rw[if_pos ⟨hne,by rcases hb with hb | ⟨q,k1,k2⟩;exact Or.inl hb;exact Or.inr ⟨q,k1,by rcases k2 with k2 | k2;exact absurd (k1.trans (by rw[k2])) hbc;exact k2⟩⟩]
     exact ih _ hm' (Or.inr ⟨c,rfl,Or.inl rfl⟩) (Or.inl rfl)
   ·have h':best=some a\/a∈l:=by
     rcases h with h | h
     ·exact Or.inl h
     ·rcases List.mem_cons.1 h with h | h
      ·exact absurd h.symm hca
      ·exact Or.inr h
    by_cases hc:c≠b/\(best=none\/∃k,best=some k/\cnt c > cnt k)
    ·rw[if_pos hc]
     have hlt:=hm c List.mem_cons_self hc.1 hca;refine ih _ hm' (Or.inr ⟨c,rfl,Or.inr hlt⟩) ?_;rcases h' with h' | h'
     ·exfalso
      rcases hc.2 with k | ⟨q,k1,k2⟩
      ·rw[h']at k;cases k
      ·rw[h']at k1;injection k1 with k1;rw[<-k1]at k2;omega
     ·exact Or.inr h'
    ·rw[if_neg hc]
     exact ih _ hm' hb h'
 exact key ds none hmax (Or.inl rfl) (Or.inr ha)
end Go.Proofs.YtkehcdfalcakmaaGreatDoor
