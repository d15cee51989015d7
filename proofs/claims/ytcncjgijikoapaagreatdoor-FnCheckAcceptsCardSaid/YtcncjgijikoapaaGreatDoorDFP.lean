import Derived.Test.YtcncjgijikoapaaGreatDoorOwn
import Derived.OrdersIn
import Derived.OrdersHeld
import Derived.OwnWalkIn
namespace Go.Proofs.YtcncjgijikoapaaGreatDoor
set_option maxHeartbeats 2000000
set_option maxRecDepth 100000
open _root_ renaming List.length->J,Nat->N,Bool.true->So,Bool.false->Sn,List.range->Rg,rfl->R,absurd->Sz,Decidable.decide->Jd,Option.some->S,Option.none->U,Array.size->Z,Int->I
open Go renaming World.setCell->Se,World.cell?->E,World.alloc->D,Obj.cells->Sc,Ending.returned->Rt,RowKit.Below->Sw,Calls->Sk,RowKit.intOf->JB,undef->Su,World.ownsRow->Sx
open Value renaming bool->Sb,slice->X,agg->Sa,pointer->Sj,string->Sg
open Go.RowKit Go.Proofs.Tryz
variable{t:I}{n m k c:N}{w:Ub}{p:Uy}{M N_:Vp}{d:Vv}{s:Wa}{x:Wi}{f F:Wk}{q:Xe}{D_:Yr}
def C9(tg:N->List N):N->N->(N->N)×List N->(N->N)×List N
 |0,_,s=>s
 |m+1,b,s=>if Xh s.1 b=So then s else
  (((tg b).foldl (λs t=>C9 tg m t s) (YH s.1 b,s.2)).1,((tg b).foldl (λs t=>C9 tg m t s) (YH s.1 b,s.2)).2++[b])
def X8(a:List Xe)(b:N):List N:=match a[b]? with
 |some x=>x.3.tg.map Int.toNat
 |none=>[]
theorem Km(h:n<J x):X8 x n=x[n].3.tg.map Int.toNat:=by unfold X8;rw[aC h]
def XB(W:Wk)(n:N):N:=J ((Rg n).filter λx=>!Xh W x)
theorem JY(n)(h:∀x,Xh f x=So->Xh F x=So):XB F n<=XB f n:=by
 unfold XB;rw[<-gK,<-gK];refine List.countP_mono_left λx _ a=>?_;cases h1:Xh f x with
 |false=>rfl
 |true=>rw[h x h1]at a;cases a
theorem T8(h:XB f n=0)(a:m<n):Xh f m=So:=by unfold XB at h;have:=mJ.1 (List.length_eq_zero_iff.1 h) m (bE.2 a);simpa using this
theorem Tb{W}(d:m<n)(f:Xh W m=Sn):XB (YH W m) n+1<=XB W n:=by
 have h:∀n,XB (YH W m) n+(if m<n then 1 else 0)<=XB W n:=λn=>by
  induction n with
  |zero=>simp[XB]
  |succ n a=>
   unfold XB at*;rw[dN,eU,eU,aQ,aQ];by_cases e:n=m
   .subst e;rw[aM O]at a;rw[aU O];have c:J ([n].filter λx=>!Xh (YH W n) x)=0:=by simp[Z8]
    have i:J ([n].filter λx=>!Xh W x)=1:=by simp[f]
    omega
   have c:J ([n].filter λx=>!Xh (YH W m) x)=J ([n].filter λx=>!Xh W x):=by
    congr 1;refine lW λx g=>?_;have:x=n:=by simpa using g
    subst this;rw[Z8,dJ e,jV]
   by_cases b:m<n;·rw[aU b]at a;rw[aU O];omega
   rw[aM b]at a;rw[aM O];omega
 have:=h n;rw[aU d]at this;exact this
theorem KB(tg:Yr):∀(m b:N)(s:Wk×Wa)(x:N),Xh s.1 x=So->Xh (C9 tg m b s).1 x=So
 |0,_,_,_,h=>h
 |m+1,b,s,x,h=>by
  rw[C9];split;·exact h
  have c:∀(l:Wa)(s:Wk×Wa),Xh s.1 x=So->Xh (l.foldl (λs t=>C9 tg m t s) s).1 x=So:=λl=>by
   induction l with
   |nil=>intro s h;exact h
   |cons t l a=>intro s h;exact a _<|KB tg m t s x h
  exact c _ _<|by rw[Z8,h];simp
theorem oW(tg:Yr):∀(m b:N)(s:Wk×Wa),XA s.1->XA (C9 tg m b s).1
 |0,_,_,h=>h
 |m+1,b,s,h=>by
  rw[C9];split;·exact h
  have c:∀(l:Wa)(s:Wk×Wa),XA s.1->XA (l.foldl (λs t=>C9 tg m t s) s).1:=λl=>by
   induction l with
   |nil=>intro s h;exact h
   |cons t l a=>intro s h;exact a _<|oW tg m t s h
  exact c _ _<|oV h b
theorem Ue(tg:Yr)(m)(l:Wa)(s:Wk×Wa)(x)(h:Xh s.1 x=So):Xh (l.foldl (λs t=>C9 tg m t s) s).1 x=So:=by
 induction l generalizing s with
 |nil=>exact h
 |cons t l a=>exact a _<|KB tg m t s x h
theorem Ei(tg:Yr)(m)(l:Wa)(s:Wk×Wa)(h:XA s.1):XA (l.foldl (λs t=>C9 tg m t s) s).1:=by
 induction l generalizing s with
 |nil=>exact h
 |cons t l a=>exact a _<|oW tg m t s h
theorem qE(tg:Yr){n}(a:∀b,b<n->∀t∈tg b,t<n):∀(m b:N)(s:Wk×Wa),b<n->J (C9 tg m b s).2+XB (C9 tg m b s).1 n<=J s.2+XB s.1 n
 |0,_,_,_=>aA
 |m+1,b,s,hb=>by
  rw[C9];split;·exact aA
  rename_i d;have e:Xh s.1 b=Sn:=by simpa using d
  have j:=Tb hb e;have i:∀(l:Wa)(s:Wk×Wa),(∀t∈l,t<n)->J (l.foldl (λs t=>C9 tg m t s) s).2+XB (l.foldl (λs t=>C9 tg m t s) s).1 n<=J s.2+XB s.1 n:=λl=>by
   induction l with
   |nil=>intro s _;exact aA
   |cons t l g=>
    intro s h;exact aJ (g _ λx f=>h x<|cN _ f) (qE tg a m t s<|h t cI)
  have c:=i (tg b) (YH s.1 b,s.2) (a b hb);rw[aQ];dsimp only at c |-;simp only[bA,bO];omega
theorem DF(tg:Yr)(c:∀b,b<n->∀t∈tg b,t<n)(m)(a:Wk×Wa)(h:∀t∈s,t<n):J (s.foldl (λa t=>C9 tg m t a) a).2+XB (s.foldl (λa t=>C9 tg m t a) a).1 n<=J a.2+XB a.1 n:=by
 induction s generalizing a with
 |nil=>exact aA
 |cons t s e=>exact aJ (e _ λx d=>h x<|cN _ d) (qE tg c m t a<|h t cI)
theorem nY{tg:Yr}{s:Wk×Wa}(h:Xh s.1 n=Sn):C9 tg (m+1) n s=(((tg n).foldl (λs t=>C9 tg m t s) (YH s.1 n,s.2)).1,((tg n).foldl (λs t=>C9 tg m t s) (YH s.1 n,s.2)).2++[n]):=by rw[C9,aM<|by rw[h];decide]
theorem Vd{tg:Yr}{s:Wk×Wa}(h:Xh s.1 m=So):C9 tg n m s=s:=by
 cases n with
 |zero=>rfl
 |succ n=>rw[C9,aU h]
inductive Sp (I_:N->N->N) (T:N->N->N) (ord:N->Prop) (src:N->List N):N->N->Prop
 |init {b x:N}:Xh (I_ b) x=So->Sp I_ T ord src b x
 |take {b s x:N}:ord b->s∈src b->Sp I_ T ord src s x->Xh (T b) x=Sn->Sp I_ T ord src b x
def ZB(T:Vp)(b s:N)(W:Vp):Vp:=λi=>if i=b then NR (W b) (W s) (T b)else W i
def E5(T:Vp)(K b:N)(l:Wa)(s:Vp×Bool):Vp×Bool :=
 l.foldl (λs t=>(ZB T b t s.1,Ix (s.1 b) (s.1 t) (T b) K||s.2)) s
theorem Ay{T K b}(h:n<J s)(a:Vp×Bool):E5 T K b (s.take<|n+1) a=(ZB T b s[n] (E5 T K b (s.take n) a).1,Ix ((E5 T K b (s.take n) a).1 b) ((E5 T K b (s.take n) a).1 s[n]) (T b) K||(E5 T K b (s.take n) a).2):=by unfold E5;rw[bN h,dT];rfl
def XQ(W:Vp):Prop:=∀i,XA<|W i
theorem Uc(b s)(h:XQ N_):XQ (ZB M b s N_):=λi=>by
 unfold ZB;split;·exact q8 (h b) (h s)
 exact h i
theorem Ts(b s)(h:XQ N_)(a:XQ M)(i x):Xh (ZB M b s N_ i) x=(Xh (N_ i) x||(Jd (i=b)&&Xh (N_ s) x&&!Xh (M b) x)):=by
 unfold ZB;by_cases e:i=b
 .subst e;rw[aU R,vD (h i) (a i)];simp
 rw[aM e];simp[e]
theorem TG{T:Vp}{K b:N}:∀(l:Wa)(s:Vp×Bool),XQ s.1->XQ (E5 T K b l s).1
 |[],_,h=>h
 |t::l,_,h=>TG l _<|Uc b t h
theorem JJ{T:Vp}{K b:N}(a:XQ T):∀(l:Wa)(s:Vp×Bool),XQ s.1->∀i x,Xh (s.1 i) x=So->Xh ((E5 T K b l s).1 i) x=So
 |[],_,_,_,_,h=>h
 |t::l,s,hs,i,x,h=>JJ a l _ (Uc b t hs) i x (by show Xh (ZB T b t s.1 i) x=So;rw[Ts b t hs a,h];rfl)
theorem T9{I_ T:Vp}{K b:N}{ord:Vv}{src:Yr}(c:XQ T)(d:ord b):∀(l:Wa)(s:Vp×Bool),XQ s.1->(∀t∈l,t∈src b)->(∀i x,Xh (s.1 i) x=So->Sp I_ T ord src i x)->∀i x,Xh ((E5 T K b l s).1 i) x=So->Sp I_ T ord src i x
 |[],_,_,_,h=>h
 |t::l,s,hs,hl,h=>T9 c d l _ (Uc b t hs) (λu g=>hl u<|cN _ g) (λi x j=>by
  have a:Xh (ZB T b t s.1 i) x=So:=j;rw[Ts b t hs c]at a;cases hi:Xh (s.1 i) x with
  |true=>exact h i x hi
  |false=>
   rw[hi]at a;simp only[jV,bY,bD,lV]at a;obtain⟨⟨rfl,e⟩,f⟩:=a;exact Sp.take d (hl t cI) (h t x e) f)
theorem WW{T:Vp}{K b:N}:∀(l:Wa)(s:Vp×Bool),s.2=So->(E5 T K b l s).2=So
 |[],_,h=>h
 |t::l,s,h=>WW l _<|by show(_||s.2)=So;rw[h];simp
theorem T6{T K b}(f:XQ T):∀(l:Wa)(s:Vp×Bool),XQ s.1->(E5 T K b l s).2=Sn->(∀i x,x<64*K->Xh ((E5 T K b l s).1 i) x=Xh (s.1 i) x)/\∀t∈l,∀x,x<64*K->Xh (s.1 t) x=So->Xh (T b) x=Sn->Xh (s.1 b) x=So
 |[],_,_,_=>⟨λ_ _ _=>R,λt p=>by cases p⟩
 |t::l,s,hs,hq=>by
  have k:(Ix (s.1 b) (s.1 t) (T b) K||s.2)=Sn:=by
   cases e:(Ix (s.1 b) (s.1 t) (T b) K||s.2)with
   |false=>rfl
   |true=>have:=WW (T:=T) (K:=K) (b:=b) l (ZB T b t s.1,Ix (s.1 b) (s.1 t) (T b) K||s.2) e;rw[show E5 T K b (t::l) s=E5 T K b l (ZB T b t s.1,Ix (s.1 b) (s.1 t) (T b) K||s.2)from R,this]at hq;cases hq
  have o:Ix (s.1 b) (s.1 t) (T b) K=Sn:=by
   cases e:Ix (s.1 b) (s.1 t) (T b) K with
   |false=>rfl
   |true=>rw[e]at k;cases k
  have j:∀x,x<64*K->Xh (s.1 t) x=So->Xh (T b) x=Sn->Xh (s.1 b) x=So:=λx a c d=>Eh (hs b) (f b) o a c d
  have g:∀i x,x<64*K->Xh (ZB T b t s.1 i) x=Xh (s.1 i) x:=λi x a=>by
   rw[Ts b t hs f];by_cases e:i=b
   .subst e;cases c:Xh (s.1 t) x with
    |false=>simp
    |true=>
     cases d:Xh (T i) x with
     |true=>simp
     |false=>rw[j x a c d];rfl
   simp[e]
  let⟨c,d⟩:=T6 f l (ZB T b t s.1,Ix (s.1 b) (s.1 t) (T b) K||s.2) (Uc b t hs) hq;refine⟨λi x a=>G (c i x a) (g i x a),λu h x a n m=>?_⟩;obtain rfl|h:=cH.1 h;·exact j x a n m
  have:=d u h x a (by rw[g u x a];exact n) m;rw[g b x a]at this;exact this
theorem UB{T K b}(a:XQ T):∀(l:Wa)(s:Vp×Bool),XQ s.1->s.2=Sn->(E5 T K b l s).2=So->XB ((E5 T K b l s).1 b) (64*K)<XB (s.1 b) (64*K)
 |[],s,_,h0,h1=>by rw[show E5 T K b [] s=s from R,h0]at h1;cases h1
 |t::l,s,hs,h0,h1=>by
  cases hg:Ix (s.1 b) (s.1 t) (T b) K with
  |false=>
   have f:E5 T K b (t::l) s=E5 T K b l (ZB T b t s.1,Sn):=by show E5 T K b l (ZB T b t s.1,Ix (s.1 b) (s.1 t) (T b) K||s.2)=_;rw[hg,h0];rfl
   rw[f]at h1 |-;refine aX (UB a l (ZB T b t s.1,Sn) (Uc b t hs) R h1) ?_;exact JY _ λx e=>by show Xh (ZB T b t s.1 b) x=So;rw[Ts b t hs a,e];rfl
  |true=>
   let⟨x,e,g,h,i⟩:=DV (hs b) (hs t) (a b) hg;have m:∀c:Wk,(∀y,Xh (s.1 b) y=So->Xh c y=So)->Xh c x=So->XB c (64*K)<XB (s.1 b) (64*K):=λc j k=>by
    have n:=Tb e i;have o:XB c (64*K)<=XB (YH (s.1 b) x) (64*K):=JY _ (λy d=>by
     rw[Z8]at d;cases hyx:Jd (y=x)with
     |true=>rw[fV hyx];exact k
     |false=>rw[hyx,jV]at d;exact j y d)
    omega
   refine m _ (λy d=>JJ a (t::l) s hs b y d) ?_;refine JJ a l (ZB T b t s.1,Ix (s.1 b) (s.1 t) (T b) K||s.2) (Uc b t hs) b x ?_;show Xh (ZB T b t s.1 b) x=So;rw[Ts b t hs a,g,h];simp
theorem TN{T:Vp}{K b i:N}(h:i≠b):∀(l:Wa)(s:Vp×Bool),(E5 T K b l s).1 i=s.1 i
 |[],_=>R
 |t::l,s=>G (TN h l _) (by show ZB T b t s.1 i=_;unfold ZB;rw[aM h])
theorem We{W:Vp}(c:∀m k,Xh (M m) k=So->Xh (W m) k=So)(e:∀m k,Xh (W m) k=So->Sp M N_ d D_ m k)(b:∀m,d m->∀t∈D_ m,∀k,k<64*n->Xh (W t) k=So->Xh (N_ m) k=Sn->Xh (W m) k=So)(a:k<64*n):Xh (W m) k=So↔Sp M N_ d D_ m k:=by
 refine⟨e m k,λh=>?_⟩
 induction h with
 |init h=>exact c _ _ h
 |take f g _ i j=>exact b _ f _ g _ a (j a) i
theorem Vl(h:∀x,x<n->Xh F x=Xh f x):XB F n=XB f n:=by unfold XB;congr 1;exact lW λx a=>by rw[h x<|bE.1 a]
def JI(W:N->N->N)(K:N):N->N
 |0=>0
 |n+1=>JI W K n+XB (W n) (64*K)
theorem Vo{W a:Vp}{K:N}:∀n,(∀i,i<n->XB (a i) (64*K)=XB (W i) (64*K))->JI a K n=JI W K n
 |0,_=>R
 |n+1,h=>by rw[JI,JI,Vo n λi b=>h i O,h n O]
theorem tx{W a:Vp}{K b}(c:∀i,i≠b->a i=W i)(d:XB (a b) (64*K)<XB (W b) (64*K)):∀n,b<n->JI a K n<JI W K n
 |0,h=>Sz h O
 |n+1,h=>by
  rw[JI,JI];by_cases e:n=b
  .subst e;rw[Vo n λi f=>by rw[c i O]];omega
  rw[c n e];have:=tx c d n O;omega
def PN(T:Vp)(K:N)(a:Yr)(W:Vp)(b:N):Prop:=∀t∈a b,∀x,x<64*K->Xh (W t) x=So->Xh (T b) x=Sn->Xh (W b) x=So
theorem Eg{a}(h:PN M n D_ N_ m)(e:∀i x,x<64*n->Xh (a i) x=Xh (N_ i) x):PN M n D_ a m:=λt f x c b d=>by rw[e _ _ c]at b |-;exact h t f x c b d
def Ov(T:Vp)(K:N)(a:Yr)(W:Vp)(b:Wa)(q p:N):Prop:=∀j,j<q->PN T K a W (b.getD ((p+J b-1-j)%J b) 0)
theorem Vz:Ov M n D_ N_ s 0 m:=λj a=>Sz a O
theorem Br{a}(h:Ov M n D_ N_ s m k)(e:∀i x,x<64*n->Xh (a i) x=Xh (N_ i) x)(b:k<J s)(c:PN M n D_ N_ s[k]):Ov M n D_ a s (m+1) (k+1):=λj d=>by
 refine Eg ?_ e;cases j with
 |zero=>
  have:(k+1+J s-1-0)%J s=k:=by rw[show k+1+J s-1-0=k+J s by omega,kH,jM b]
  rw[this,show s.getD k 0=s[k] by simp[b]];exact c
 |succ j=>
  rw[show k+1+J s-1-(j+1)=k+J s-1-j by omega];exact h j O
theorem Bj(h:Ov M n D_ N_ s m (J s))(hq:m<J s):Ov M n D_ N_ s m 0:=λj a=>by have:=h j a;rw[show J s+J s-1-j=(0+J s-1-j)+J s by omega,kH]at this;exact this
theorem B6(h:Ov M n D_ N_ s (J s) m)(e:m<=J s)(b:k∈s):PN M n D_ N_ k:=by
 obtain⟨i,a,rfl⟩:=bR b;have d:(m+J s-1-(m+J s-1-i)%J s)%J s=i:=by
  by_cases c:i+1<=m
  .have e1:(m+J s-1-i)%J s=m-1-i:=by
    rw[show m+J s-1-i=(m-1-i)+J s by omega,kH,jM O]
   rw[e1,show m+J s-1-(m-1-i)=i+J s by omega,kH,jM a]
  have e1:(m+J s-1-i)%J s=m+J s-1-i:=jM O;rw[e1,show m+J s-1-(m+J s-1-i)=i by omega,jM a]
 have:=h ((m+J s-1-i)%J s) (dS _ O);rw[d,show s.getD i 0=s[i] by simp[a]]at this;exact this
theorem TS{T:Type}{C:T->Uj}{f:N->T}(h:w.rowIs n m k λz=>C<|f z)(r v):(Se w ⟨n,r,U⟩ (C v)).rowIs n m k (λz=>C<|if z=r then v else f z) :=
 (h.set r<|C v).congr (λz _=>by by_cases e:z=r<;>simp[e])
theorem UC{T:Type}{C:T->Uj}{f a:N->T}(h:w.rowIs n m k λz=>C<|f z)(e:∀z,z<k->f z=a z):w.rowIs n m k (λz=>C<|a z):=h.congr λz b=>by rw[e z b]
theorem Q7:(prog.info? 4).map (λi=>(i.8,i.3,i.4))=S (S<|Sb Sn,1,1):=vZ
theorem Ww{a p}:XZ (a++[p])=XZ a+(1+J p.2):=by simp[XZ]
theorem Ux:Xo (x++[q])=Xo x+(1+J q.2+XZ q.1):=by simp[Xo,Ul]
theorem tI(a:Za):J a<=XZ a:=by
 induction a with
 |nil=>simp
 |cons p a b=>simp only[XZ,eH,kX,bA]at b |-;omega
theorem Wm(a k):XZ (a.take k)<=XZ a:=Tw _ _ _
theorem Up(a k):Xo (a.take k)<=Xo a:=Tw _ _ _
theorem tB(L B)(ha:Q (Xp w L B p x))(s:Q (n=J x))(hn:n<=1048576)(hs:Xo x<=1048576)(y:B<=Z w.1):
 Sk prog 84 #[Sa #[H t,X p n c]] w λe z=>e=Rt (H<|Xo x)/\Sw (Z w.1) w z:=by
 go_in
 go_wp2;have l:=Xb (dC (Z w.1) w) (Sc #[H t,X p n c] 25);have V:E (D w<|Sc #[H t,X p n c] 25) (A (Z w.1) 1)=S (X p n c):=sP;generalize D w _=w1 at*
 go_loop [3,4] (λu i=>∃k:N,k<=n/\i=H k/\u=H (Xo (x.take k):N)) λ_ i=>n-(JB i).toNat
 .exact⟨0,aN,R,R⟩
 obtain⟨k,M,rfl,rfl⟩:=hrel;by_cases P:k<n
 .have q:k<J x:=oN s.o;obtain⟨T,ac,rfl,⟨_,W⟩,m⟩:=ha k q;let⟨pa,pc,ia,ic,K_,e1,_,r,_⟩:=m.keep (l.mono y) O;have v:=Y r;have a:Q (Xo (x.take<|k+1)=Xo (x.take k)+(1+J x[k].2+XZ x[k].1)):=by show _=_;rw[X7 q,Ux]
  have b:=Up x<|k+1;have A_:=Y b;have O_:Xo (x.take k)+(1+J x[k].2+XZ x[k].1)<=1048576:=oN a.o;have ab:J x[k].1<=1048576:=oN<|tI x[k].1;clear m r b;generalize x[k]=C at*;generalize g:Xo (x.take k)=K at*;have D_:=Y g;clear g;go_wp2
  go_loop [3,5] (λu i=>∃j:N,j<=J C.1/\i=H j/\u=H (K+(1+J C.2)+XZ (C.1.take j):N)) λ_ i=>J C.1-(JB i).toNat
  .exact⟨0,aN,R,by simp[XZ];try omega⟩
  obtain⟨j,W_,rfl,rfl⟩:=hrel;by_cases o:j<J C.1
  .obtain⟨I_,o',rfl,⟨_,U_⟩,G_,J_,M_,N_,_⟩:=v j o;have d:Q (XZ (C.1.take<|j+1)=XZ (C.1.take j)+(1+J C.1[j].2)):=by show _=_;rw[X7 o,Ww]
   have f:=Wm C.1<|j+1;have Q_:XZ (C.1.take j)+(1+J C.1[j].2)<=XZ C.1:=oN d.o;have C_:=Y f;clear f;generalize C.1[j]=P_ at*;generalize h:XZ (C.1.take j)=T_ at*;have F_:=Y h;clear h;go_wp2
   go_round
   .exact⟨j+1,O,gM,by rw[d.o];go_num⟩
   simp[JB];omega
  have e:=aW (l:=C.1) (i:=j) O;have F:=Y e;clear e;go_wp2
  go_round
  .exact⟨k+1,O,gM,by rw[a.o,F.o];go_num⟩
  simp[JB];omega
 have e:=aW (l:=x) (i:=k) (oN s.o);have F:=Y e;clear e;go_wp2;go_ret;exact⟨f9 (by rw[F.o]),l⟩
theorem tG{F}(a:0<=F.1)(b:F.1<=2000)(c:1<=J F.2)(d:J F.2<=1000)(e:Xo F.2<=4000):Y6 F=So:=by simp[Y6, *]
theorem UE{F}(a:4000<Xo F.2):Y6 F=Sn:=by simp[Y6];omega
theorem Wt{F}(h:¬(0<=F.1/\F.1<=2000/\1<=J F.2/\J F.2<=1000)):Y6 F=Sn:=by simp[Y6];omega
theorem Uz(ha:Q (Xp w m k p x))(h:Q (n=J x))(hn:n<=1048576)(hs:Xo x<=1048576)(Y_:k<=Z w.1):
 Sk prog 94 #[Sa #[H t,X p n c]] w λe w'=>e=Rt (Sb (Y6 ⟨t,x⟩))/\Sw (Z w.1) w w':=by
 by_cases B:0<=t/\t<=2000/\1<=n/\n<=1000
 .let⟨V_,d1,d2,d3⟩:=B
  go_in
  go_wp2
  go_loopw [3,31] (λu i wr=>∃a:N,a<=n/\i=H a/\u=H (Xo (x.take a):N)/\Xo (x.take a)<=4000/\Sw (Z w.1) w wr) λ_ i _=>n-(JB i).toNat
  .exact⟨0,aN,R,R,by simp[Xo],Xb Rf _⟩
  obtain⟨a,hk,rfl,rfl,C,g⟩:=hrel;by_cases aq:a<n
  .have P:a<J x:=oN h.o;obtain⟨ac,a0,rfl,⟨_,ao⟩,F⟩:=ha a P;let⟨T,V,L,M,e0,e1,⟨e2,e3,e4,e5⟩,K,_⟩:=F.keep (g.mono Y_) O;have P_:=Y<|K.keep (Xb (dC (Z wr.1) wr) (Sc #[X T (J x[a].1) V,X L (J x[a].2) M,H x[a].3.1,H x[a].3.a,H x[a].3.3,H x[a].3.4] 52) |>.mono (oN g.4));have f:Q (Xo (x.take<|a+1)=Xo (x.take a)+(1+J x[a].2+XZ x[a].1)):=by show _=_;rw[X7 P,Ux]
   have W:=Up x<|a+1;have v:=Y W;have aj:Xo (x.take a)+(1+J x[a].2+XZ x[a].1)<=1048576:=oN f.o;have ar:J x[a].1<=1048576:=oN<|tI x[a].1;have o:=Y<|Xb g (Sc #[X T (J x[a].1) V,X L (J x[a].2) M,H x[a].3.1,H x[a].3.a,H x[a].3.3,H x[a].3.4] 52);have az:=g.4;clear F K W;generalize x[a]=y at*;generalize C_:Xo (x.take a)=z at*;have HS:=Y C_;clear C_;go_wp2
   go_loopw [3,44] (λu i wi=>∃j:N,j<=J y.1/\i=H j/\u=H (z+(1+J y.2)+XZ (y.1.take j):N)/\Sw (Z w.1) w wi) λ_ i _=>J y.1-(JB i).toNat
   .exact⟨0,aN,R,by simp[XZ];try omega,o⟩
   obtain⟨j,hj,rfl,rfl,d⟩:=hrel;by_cases H_:j<J y.1
   .obtain⟨b,l,rfl,⟨_,ap⟩,R_,U_,y_,z_,_⟩:=P_ j H_
    have ad:E wr (A b<|l + j*2)=S (H y.1[j].1):=by have s:=(o.cell (p:=A b<|l + j*2) (by show b < _;omega));exact oB d (G s.symm y_) (by show b < _;omega)
    have af:E wr (A b<|l + j*2+1)=S (X R_ (J y.1[j].2) U_):=by have s:=(o.cell (p:=A b<|l + j*2+1) (by show b < _;omega));exact oB d (G s.symm z_) (by show b < _;omega)
    have B_:Q (XZ (y.1.take<|j+1)=XZ (y.1.take j)+(1+J y.1[j].2)):=by show _=_;rw[X7 H_,Ww]
    have W_:=Wm y.1<|j+1;have al:XZ (y.1.take j)+(1+J y.1[j].2)<=XZ y.1:=oN B_.o;clear W_ y_ z_;generalize y.1[j]=Q_ at*;generalize D_:XZ (y.1.take j)=T_ at*;have HT:=Y D_;clear D_;by_cases r:4000<z+(1+J y.2)+(T_+(1+J Q_.2))
    .go_wp2;go_ret;exact⟨Xl (UE (by have:=f.o;have:=v.o;show 4000<Xo x;omega)).symm,Xb d _⟩
    go_wp2;exact⟨⟨j+1,O,gM,by rw[B_.o];go_num,Xb d _⟩,SA⟩
   have E_:=Y<|aW (l:=y.1) (i:=j) O;by_cases r:4000<z+(1+J y.2)+XZ (y.1.take j)
   .go_wp2;go_ret;exact⟨Xl (UE (by have:=f.o;have:=v.o;have e:=E_.o;rw[e]at r;show 4000<Xo x;omega)).symm,d⟩
   go_wp2;have e:=E_.o;rw[e]at r |-;exact⟨⟨a+1,O,gM,by rw[f.o];go_num,by rw[f.o];omega,d⟩,SA⟩
  go_wp2;go_ret;have e:=aW (l:=x) (i:=a) (oN h.o);rw[e]at C;exact⟨Xl (tG V_ d1 (by have:=h.o;show 1<=J x;omega) (by have:=h.o;show J x<=1000;omega) C).symm,g⟩
 have Z_:Q (Y6 ⟨t,x⟩=Sn):=Wt (F:=⟨t,x⟩) (by have:=h.o;show ¬(0<=t/\t<=2000/\1<=J x/\J x<=1000);omega);have ab:t<0\/(0<=t/\2000<t)\/(0<=t/\t<=2000/\n<1)\/(0<=t/\t<=2000/\1<=n/\1000<n):=O;clear B;obtain q|⟨q,d1⟩|⟨q,d1,d2⟩|⟨q,d1,d2,d3⟩:=ab
 all_goals
  go_in
  go_wp2;go_ret;exact⟨Xl Z_.symm,Xb Rf _⟩
theorem Dj{F}(a:k<J F.2)(h:Jf F.1 (J F.2) F.2[k].3=Sn):J2 F=Sn:=JN a h
theorem AD(ha:Q (Xp w m k p x))(g:Q (n=J x))(T_:n<=1048576)(T:k<=Z w.1)(V:Q (T7 w)):
 Sk prog 95 #[Sa #[H t,X p n c]] w λe M=>e=Rt (Sb (J2 ⟨t,x⟩))/\Sw (Z w.1) w M:=by
 have Q_:∀u,Z (D w u).1=Z w.1+1:=λu=>sP
 go_in
 go_wp2
 go_loopw [9] (λs wr=>∃a:N,a<=n/\s=H a/\Sw (Z w.1) w wr/\Z w.1<Z wr.1/\E wr (A (Z w.1) 0)=S (H t)/\E wr (A (Z w.1) 1)=S (X p n c)/\Q ((x.take a).all (λv=>Jf t (J x) v.3)=So)) λs _=>n-(JB s).toNat
 .exact⟨0,aN,R,Xb Rf _,sP,sP,sP,R⟩
 obtain⟨a,R_,rfl,f,B,F,W,y⟩:=hrel;by_cases S_:a<n
 .have q:a<J x:=oN g.o;obtain⟨N_,u,rfl,⟨_,P_⟩,z⟩:=ha a q;let⟨W_,Y_,U_,V_,O_,e1,⟨e2,e3,e4,e5⟩,_,_⟩:=z.keep (f.mono T) O;have i:=Y<|V.keep f;have P:=Y λj=>Dj (F:=⟨t,x⟩) (k:=a) q j;have C:=Y λj=>XY (p:=λv:Xe=>Jf t (J x) v.3) q y j;rw[<-g.o]at C;clear z;generalize x[a]=L at*;have K:L.3=⟨L.3.1,L.3.a,L.3.3,L.3.4⟩:=R;have l:Q (Jf t n L.3=(Zu t 1 n ⟨L.3.1,L.3.a,L.3.3,L.3.4⟩&&!(L.3.1==2&&L.3.3==L.3.4))):=R;clear K;cases hr:Zu t 1 n ⟨L.3.1,L.3.a,L.3.3,L.3.4⟩
  .have d:=Y hr;clear hr;go_wp2_with fail
   refine(Kn ?q1).mono ?_
   case q1=>exact i.keep<|Xb (Xb Rf _) _
   rintro e h⟨rfl,b⟩;rw[Xw d];go_wp2;go_ret;exact⟨Xl (Xw P (by have e:=g.o;show Jf t (J x) L.3=Sn;rw[<-e,l.o,d.o];rfl)).symm,Xg (Xb (Xb f _) _) b⟩
  have d:=Y hr;clear hr;by_cases hq:L.3.1=2/\L.3.3=L.3.4
  .have q1:(L.3.1==2)=So:=by simp[hq.1]
   have q2:(L.3.3==L.3.4)=So:=by simp[hq.2]
   clear hq;go_wp2_with fail
   refine(Kn ?q1).mono ?_
   case q1=>exact i.keep<|Xb (Xb Rf _) _
   rintro e h⟨rfl,b⟩;rw[Xw d];have r:=b.4;simp at r;let⟨H_,I_⟩:=NC b;have L_:Z wr.1+1<Z h.1:=O;go_wp2;go_ret;exact⟨Xl (Xw P (by have e:=g.o;show Jf t (J x) L.3=Sn;rw[<-e,l.o,d.o,q1,q2];rfl)).symm,Xg (Xb (Xb f _) _) b⟩
  have J_:(L.3.1==2)=Sn\/((L.3.1==2)=So/\(L.3.3==L.3.4)=Sn):=by simp only[iS,iA];omega
  clear hq;obtain q1|⟨q1,q2⟩:=J_
  all_goals
   go_wp2_with fail
   refine(Kn ?q1).mono ?_
   case q1=>exact i.keep<|Xb (Xb Rf _) _
   rintro e h⟨rfl,b⟩;rw[Xw d];have r:=b.4;simp at r;let⟨H_,I_⟩:=NC b;have L_:Z wr.1+1<Z h.1:=O;go_wp2;have o:=Xg (Xb (Xb (dC (Z wr.1) wr) _) _) b;exact⟨⟨a+1,O,gM,Xg f o,O,oB o F B,oB o W B,by have e:=g.o;rw[<-e];exact Xw C (by show Jf t n L.3=So;rw[l.o,d.o];first|rw[q1];rfl|rw[q1,q2];rfl)⟩,SA⟩
 go_wp2;go_ret;exact⟨Xl (YE (xs:=x) (k:=a) (oN g.o) y).symm,f⟩
theorem W4(ha:Q (Xp w m k p x))(B:Q (n=J x))(hn:n<=1048576)(C:Q (∀b∈x,J b.2<=1048576))(F:k<=Z w.1)(K:Q (Uw w)):
 Sk prog 96 #[Sa #[H t,X p n c]] w λl M=>l=Rt (Sb (Z0 ⟨t,x⟩))/\Sw (Z w.1) w M:=by
 go_in
 go_wp2
 go_loopw [10] (λi wr=>∃a:N,a<=n/\i=H a/\Sw (Z w.1) w wr/\Z w.1<Z wr.1/\E wr (A (Z w.1) 0)=S (H t)/\Q ((x.take a).all (λb=>b.2.all<|Yw t 10)=So)) λi _=>n-(JB i).toNat
 .exact⟨0,aN,R,Xb Rf _,sP,sP,R⟩
 obtain⟨a,hk,rfl,g,L,T,u⟩:=hrel;by_cases ad:a<n
 .have f:a<J x:=oN B.o;obtain⟨T_,aj,rfl,⟨_,aa⟩,y⟩:=ha a f;let⟨pa,pc,ia,ic,D_,e1,⟨e2,e3,e4,e5⟩,_,V⟩:=y.keep (g.mono F) O;have W:=Y λh=>JN (p:=λb:Xe=>b.2.all<|Yw t 10) (xs:=x) (k:=a) f h;have N_:=Y λh=>XY (p:=λb:Xe=>b.2.all<|Yw t 10) f u h;have ac:=C _<|aH f;have C_:=Y V;have af:=g.4;generalize x[a]=z at*;go_wp2
  go_loopw [17] (λi S_=>∃j:N,j<=J z.2/\i=H j/\Sw (Z wr.1) wr S_/\Q ((z.2.take j).all (Yw t 10)=So)) λi _=>J z.2-(JB i).toNat
  .exact⟨0,aN,R,Xb Rf _,R⟩
  obtain⟨j,hj,rfl,e,v⟩:=hrel;have o:=Xg g e;have E_:=oB e T L;have M_:Z w.1<Z wr.1:=oN e.4;by_cases r:j<J z.2
  .obtain⟨U_,o',rfl,⟨_,ab⟩,z_⟩:=C_ j r;let⟨V_,W_,Y_,Z_,g4⟩:=z_.keep e O;have s:=Y<|K.keep o;have K_:=Y λh=>JN (p:=Yw t 10) (xs:=z.2) (k:=j) r h;have O_:=Y λh=>XY (p:=Yw t 10) r v h;generalize z.2[j]=P at*;cases hr:Yw t 10 ⟨P.1,P.2,P.a,P.b,P.5⟩
   .have d:=Y hr;go_wp2_with fail
    refine(TI ?q1).mono ?_
    case q1=>exact s.keep<|Xb Rf _
    rintro l R_⟨rfl,q⟩;rw[Xw d];go_wp2;go_ret;exact⟨Xl (Xw W<|Xw K_ d).symm,Xg (Xb o _) q⟩
   have d:=Y hr;go_wp2_with fail
   refine(TI ?q1).mono ?_
   case q1=>exact s.keep<|Xb Rf _
   rintro l R_⟨rfl,q⟩;rw[Xw d];go_wp2;exact⟨⟨j+1,O,gM,Xg (Xb e _) q,Xw O_ d⟩,SA⟩
  go_wp2;exact⟨⟨a+1,O,gM,o,M_,E_,Xw N_<|YE (xs:=z.2) (k:=j) O v⟩,SA⟩
 go_wp2;go_ret;exact⟨Xl (YE (xs:=x) (k:=a) (oN B.o) u).symm,g⟩
def Zc(B:N):N:=(Rg 8).countP λi=>B.testBit i
def E1(f:N->N):N->N->N
 |0,_=>0
 |n+1,x=>f (x%256)+256*E1 f n (x/256)
def Wr(c:N):N->N
 |0=>0
 |n+1=>c+256*Wr c n
theorem KA(a:n<256)(d:c<256):(n+256*m)&&&(c+256*k)=(n&&&c)+256*(m&&&k):=by
 have b:n&&&c<2^8:=iC jB a;have e1:n+256*m=2^8*m+n:=O;have e2:c+256*k=2^8*k+c:=O;have e3:(n&&&c)+256*(m&&&k)=2^8*(m&&&k)+(n&&&c):=O;rw[e1,e2,e3];apply Nat.eq_of_testBit_eq;intro i;rw[jW,iH _ a,iH _ d,iH _ b];by_cases h:i<8;·simp[h]
 simp[h]
def f1(B:N):N:=(B/2&&&85)+(B&&&85)
def f2(B:N):N:=(B/4&&&51)+(B&&&51)
def f3(B:N):N:=(B/16+B)&&&15
theorem DJ:∀t,t<2->∀B,B<256->(B/2+128*t)&&&85=B/2&&&85:=by decide +kernel
theorem D4:∀t,t<4->∀B,B<256->(B/4+64*t)&&&51=B/4&&&51:=by decide +kernel
theorem kT:∀B,B<256->f1 B<256:=by decide +kernel
theorem rq:∀B,B<256->f2 B<256:=by decide +kernel
abbrev rC(B:N):Prop:=B%16<=4/\B/16<=4
theorem EV:∀B,B<256->rC (f2<|f1 B):=by decide +kernel
theorem CY:∀t,t<=4->∀B,B<256->rC B->B/16+16*t+B<256/\(B/16+16*t+B)&&&15=f3 B:=by decide +kernel
theorem Gt:∀B,B<256->f3 (f2<|f1 B)=Zc B:=by decide +kernel
theorem uo:∀B,B<256->Zc B<=8:=by decide +kernel
theorem oZ{f:Wk}(a:∀B,B<256->f B<256):∀n x,E1 f n x<256^n
 |0,_=>by simp[E1]
 |n+1,x=>by have b:=oZ a n<|x/256;have c:=a (x%256) (dS _ vY);simp only[E1,Nat.pow_succ];omega
theorem map_map{f h:Wk}(a:∀B,B<256->h B<256):∀n x,E1 f n (E1 h n x)=E1 (λB=>f<|h B) n x
 |0,_=>R
 |n+1,x=>by have b:=a (x%256) (dS _ vY);simp only[E1];have e1:(h (x%256)+256*E1 h n (x/256))%256=h (x%256):=O;have e2:(h (x%256)+256*E1 h n (x/256))/256=E1 h n (x/256):=O;rw[e1,e2,map_map a n]
theorem tP{f h:Wk}(e:∀B,B<256->f B=h B):∀n x,E1 f n x=E1 h n x
 |0,_=>R
 |n+1,x=>by simp only[E1];rw[e _<|dS _ vY,tP e n]
theorem wV:∀n x,(x/2&&&Wr 85 n)+(x&&&Wr 85 n)=E1 f1 n x
 |0,x=>by simp[Wr,E1]
 |n+1,x=>by
  have a:x%256<256:=dS _ vY;have ex:x=x%256+256*(x/256):=O;have d:x/2=(x%256/2+128*(x/256%2))+256*(x/256/2):=O;have e:=wV n<|x/256;simp only[E1,Wr];rw[<-e];have b:x/2&&&(85+256*Wr 85 n)=(x%256/2&&&85)+256*(x/256/2&&&Wr 85 n):=by rw[d,KA O vY,DJ _ (dS _ vY) _ a]
  have c:x&&&(85+256*Wr 85 n)=(x%256&&&85)+256*(x/256&&&Wr 85 n):=by
   conv=>lhs;rw[ex]
   exact KA a vY
  rw[b,c];unfold f1;omega
theorem wP:∀n x,(x/4&&&Wr 51 n)+(x&&&Wr 51 n)=E1 f2 n x
 |0,x=>by simp[Wr,E1]
 |n+1,x=>by
  have a:x%256<256:=dS _ vY;have ex:x=x%256+256*(x/256):=O;have d:x/4=(x%256/4+64*(x/256%4))+256*(x/256/4):=O;have e:=wP n<|x/256;simp only[E1,Wr];rw[<-e];have b:x/4&&&(51+256*Wr 51 n)=(x%256/4&&&51)+256*(x/256/4&&&Wr 51 n):=by rw[d,KA O vY,D4 _ (dS _ vY) _ a]
  have c:x&&&(51+256*Wr 51 n)=(x%256&&&51)+256*(x/256&&&Wr 51 n):=by
   conv=>lhs;rw[ex]
   exact KA a vY
  rw[b,c];unfold f2;omega
def VM:N->N->Prop
 |0,x=>x=0
 |n+1,x=>rC (x%256)/\VM n (x/256)
theorem vy:∀n x,VM n<|E1 (λB=>f2<|f1 B) n x
 |0,_=>R
 |n+1,x=>by have a:x%256<256:=dS _ vY;have d:=rq _<|kT _ a;have b:=EV _ a;have c:=vy n<|x/256;simp only[E1,VM];have e1:(f2 (f1<|x%256)+256*E1 (λB=>f2<|f1 B) n (x/256))%256=f2 (f1<|x%256):=O;have e2:(f2 (f1<|x%256)+256*E1 (λB=>f2<|f1 B) n (x/256))/256=E1 (λB=>f2<|f1 B) n (x/256):=O;rw[e1,e2];exact⟨b,c⟩
theorem EA:∀n x,VM n x->x%16<=4
 |0,x,h=>by simp only[VM]at h;omega
 |n+1,x,h=>by have:=h.1.1;omega
theorem wR:∀n x,VM n x->(x/16+x)&&&Wr 15 n=E1 f3 n x
 |0,x,_=>by simp[Wr,E1]
 |n+1,x,h=>by have c:x%256<256:=dS _ vY;have e:=wR n (x/256) h.2;have d:=EA n _ h.2;let⟨a,b⟩:=CY _ d _ c h.1;simp only[E1,Wr];rw[<-e,<-b];have ex:x/16+x=(x%256/16+16*(x/256%16)+x%256)+256*(x/256/16+x/256):=O;rw[ex,KA a vY]
def NZ(n x:N):N:=(Rg<|8*n).countP λi=>x.testBit i
theorem Bv:NZ (n+1) m=Zc (m%256)+NZ n (m/256):=by
 unfold NZ Zc;have e:8*(n+1)=8+8*n:=O;rw[e,lI,lN,List.countP_map];congr 1
 .apply kK;intro i a;have:i<8:=bE.1 a;have e2:(m%2^8).testBit i=m.testBit i:=by rw[Nat.testBit_mod_two_pow];simp[this]
  rw[show m%256=m%2^8 from R,e2]
 apply kK;intro i a;have e2:(m/2^8).testBit i=m.testBit (8+i):=by rw[Nat.testBit_div_two_pow,yy]
 rw[show m/256=m/2^8 from R,e2];rfl
def rA(f:N->N):N->N->N
 |0,_=>0
 |n+1,x=>f (x%256)+rA f n (x/256)
theorem uh:∀n x,NZ n x=rA Zc n x
 |0,_=>R
 |n+1,x=>by rw[Bv,uh n];rfl
section
section
variable {F: Fence} {n: N} {P: Yh} {ops: Array Oper} {Q_: Exit -> Act -> Ub -> Prop} {md: Region.Mode} {S_: Ub -> Prop}
def WQ(ops:Array Oper):Bool:=ops.1.all λo=>match o.2 with|.defer _=>Sn|_=>So
theorem KN(h:WQ ops=So){j:N}{o}(hj:ops[j]?=S o):∀c,o.2≠.defer c:=λc e=>by
 have hm:o∈ops.1:=by obtain⟨hlt,rfl⟩:=aS.1 hj;simp
 have:=dV.1 h o hm;rw[e]at this;cases this
def YG(P:Yh)(ops:Array Oper)(S_:Vy)(o:Oper)(v:Uj)(a:Act):Prop:=YieldsIf P ops S_ o v a/\∀w,o.about P w a.eval=U
theorem YG.wpOpIn{i:N}{o:Oper}{v:Uj}{a:Act}(hd:∀c,o.2≠.defer c)(hi:ops[i]?=S o)(hy:YG P ops S_ o v a){K:Tf}{w:Ub}(hS:S_ w)(h:K (a.put o.1 v) w):wpOpIn F n P ops Q_ i K a w:=by
 unfold Go.wpOpIn;simp only[hi];have hab:∀f,o.about P w a.eval=S f->F.1 f:=λf hf=>by rw[hy.2 w]at hf;cases hf
 obtain⟨hw,hv⟩|⟨hw,rfl⟩:=hy.1;·simp only[hw,gG,Oper.wpIn,Oper.semAt_plain F a.eval o hd,hv w hS,Oper.uponIn];exact⟨hab,h⟩
 simp only[hw,Bool.false_eq_true,fD];exact⟨hab,h⟩
theorem YG.of_same{o v a a'}(hy:YG P ops S_ o v a)(he:execOp a'.eval o=execOp a.eval o)(hw:Region.wanted o (yielded ops a'.1)=Region.wanted o (yielded ops a.1))(hb:∀w,o.about P w a'.eval=o.about P w a.eval):YG P ops S_ o v a' :=
 ⟨hy.1.of_same he hw,λw=>(hb w)▸hy.2 w⟩
theorem AR{j oi oj v}(hdj:∀c,oj.2≠.defer c)(hj:ops[j]?=S oj)(hap:oi.apart ops oj=So)(hsi:∀cs b,oi.2≠.select cs b)(hsj:∀cs b,oj.2≠.select cs b)(hQ:∀c a w,Q_ (.panic c) (a.put oi.1 v) w->Q_ (.panic c) a w){K:Tf}{a}{w:Ub}(hy:YG P ops S_ oi v a)(h:wpOpIn F n P ops Q_ j K (a.put oi.1 v) w):
 wpOpIn F n P ops Q_ j (λa' w'=>YG P ops S_ oi v a'/\K (a'.put oi.1 v) w') a w:=by
 let⟨h1,h2,h3⟩:=Oper.apart_spec hap;have keep:∀(a:Act),YG P ops S_ oi v a->∀u,YG P ops S_ oi v (a.put oj.1 u):=λa hy u=>
  hy.of_same (execOp_put oi hsi a oj.1 u h3) (wanted_put oi a oj.1 u h3) λw=>about_put oi w a oj.1 u h3
 have keepD:∀d,YG P ops S_ oi v { a with defers:=d::a.2 }:=λd=>hy.of_same R R λ_=>R;unfold wpOpIn at*;simp only[hj]at*;rw[wanted_put oj a oi.1 v h1,about_put oj w a oi.1 v h1]at h;split
 .rename_i hw;simp only[hw,gG]at h;unfold Oper.wpIn at*;rw[about_put oj w a oi.1 v h1]at h;refine⟨h.1,?_⟩;have h:=h.2;rw[Oper.semAt_plain F _ oj hdj,execOp_put oj hsj a oi.1 v h1]at h;rw[Oper.semAt_plain F _ oj hdj];generalize (execOp a.eval oj).run P w=r at*;cases r with
  |ok x w'=>
   cases x<;>simp only[Oper.uponIn]at h |-
   case value u=>exact⟨keep a hy u,(jP a v u h2)▸h⟩
   case skip=>exact⟨keep a hy _,(jP a v Su h2)▸h⟩
   case defer d=>
    refine⟨keep _ (keepD d) _,?_⟩;rw[<-jP _ v Su h2,<-Act.put_defers];exact h
   case enter f args=>
    refine⟨h.1,CallsIn.mono h.2 λe w'' he=>?_⟩;cases e with
    |returned u=>exact⟨keep a hy u,(jP a v u h2)▸he⟩
    |panicked c=>exact hQ _ _ _ he
    |outgrown=>exact he
   case row row args=>exact⟨h.1,RowsIn.mono h.2 λu w'' he=>⟨keep a hy u,(jP a v u h2)▸he⟩⟩
   case round l f tmps assign body=>
    refine⟨h.1,RoundIn.mono h.2 λe w'' he=>?_⟩;cases e with
    |returned u=>exact⟨keep a hy u,(jP a v u h2)▸he⟩
    |panicked c=>exact hQ _ _ _ he
    |outgrown=>exact he
  |halt x w'=>
   cases x<;>simp only[Oper.uponIn]at h |-
   case panic u=>exact hQ _ _ _ h
 rename_i hw;simp only[hw]at h;exact⟨h.1,keep a hy _,(jP a v Su h2)▸h.2⟩
def Y9(F:Fence)(n:N)(P:Program)(md:Region.Mode)(ops:Array Oper)(Q_:Exit->Act->World->Prop)(S_:World->Prop):N->Array Bool->Act->World->Prop
 |0,listed,a,w=>Region.ready md ops listed=[]/\Q_ .normal a w
 |fuel+1,listed,a,w=>
  (Region.ready md ops listed=[]->Q_ .normal a w) /\
  ∀i∈Region.ready md ops listed,wpOpIn F n P ops Q_ i (λa' w'=>S_ w'/\Y9 F n P md ops Q_ S_ fuel (listed.setIfInBounds i So) a' w') a w
theorem K6:∀(fuel:N)(listed:Zz)(a:Act)(w:Ub),Y9 F n P md ops Q_ S_ fuel listed a w->wpAnyIn F n P md ops Q_ fuel listed a w
 |0,_,_,_,h=>h
 |fuel+1,_,_,_,h=>⟨h.1,λi hi=>wpOpIn_mono (λa' w' h'=>K6 fuel _ a' w' h'.2) (h.2 i hi)⟩
theorem AE{i oi v}(hnd:WQ ops=So)(hi:ops[i]?=S oi)(hsel:∀(j:N)(o:Oper) cs b,ops[j]?=S o->o.2≠.select cs b)(hQ:∀c a w,Q_ (.panic c) (a.put oi.1 v) w->Q_ (.panic c) a w):
 ∀(fuel:N)(listed:Zz)(a:Act)(w:Ub),
  (∀j oj,ops[j]?=S oj->j≠i->listed.getD j So=Sn->(∀e∈oj.5,Region.binds md e=So->e.1≠i)->oi.apart ops oj=So) ->
  i∈Region.ready md ops listed->YG P ops S_ oi v a->S_ w ->
  Y9 F n P md ops Q_ S_ fuel (listed.setIfInBounds i So) (a.put oi.1 v) w->Y9 F n P md ops Q_ S_ (fuel+1) listed a w:=by
 intro fuel
 induction fuel with
 |zero=>
  intro listed a w _ hr hy hS d;refine⟨λh=>(by rw[h]at hr;cases hr),λj hj=>?_⟩;by_cases hji:j=i;·subst hji;exact hy.wpOpIn (KN hnd hi) hi hS ⟨hS,d⟩
  have:=ready_mono hj hji;rw[d.1]at this;cases this
 |succ fuel ih=>
  intro listed a w hfree hr hy hS d;refine⟨λh=>(by rw[h]at hr;cases hr),λj hj=>?_⟩;by_cases hji:j=i;·subst hji;exact hy.wpOpIn (KN hnd hi) hi hS ⟨hS,d⟩
  have h1:=d.2 j<|ready_mono hj hji
  let⟨hjun,oj,hoj,hall⟩:=mem_ready.1 hj;have hnot:∀e∈oj.5,Region.binds md e=So->e.1≠i:=λe he hb heq=>by
   have h1:=hall e he hb;have h0:=(mem_ready.1 hr).1;rw[heq]at h1;obtain h'|h':=mL i (Z listed);·simp[h']at h0 h1;rw[h0]at h1;cases h1
   simp[iI h']at h1
  have h2:=AR (KN hnd hoj) hoj (hfree j oj hoj hji hjun hnot) (λcs b=>hsel i oi cs b hi) (λcs b=>hsel j oj cs b hoj) hQ hy h1;have hfree':∀k ok,ops[k]?=S ok->k≠i->(listed.setIfInBounds j So).getD k So=Sn ->
   (∀e∈ok.5,Region.binds md e=So->e.1≠i)->oi.apart ops ok=So:=λk ok hk hki hun hno=>by
   refine hfree k ok hk hki ?_ hno;by_cases hjk:j=k;·subst hjk;exact hjun
   rw[getD_set_ne So hjk]at hun;exact hun
  refine wpOpIn_mono (λa' w' h3=>⟨h3.2.1,ih (listed.setIfInBounds j So) a' w' hfree' (ready_mono hr<|kA hji) h3.1 h3.2.1 ?_⟩) h2;rw[Array.setIfInBounds_comm _ _ hji];exact h3.2.2
theorem AW{i oi v fuel}{listed:Zz}{a w}(hi:ops[i]?=S oi)(hnd:WQ ops=So)(hs:Region.noSelect ops=So)(hf:Region.free md ops listed i=So)(hr:(Region.ready md ops listed).contains i=So)(hQ:∀c a w,Q_ (.panic c) (a.put oi.1 v) w->Q_ (.panic c) a w)(hy:YG P ops S_ oi v a)(hS:S_ w)(h:Y9 F n P md ops Q_ S_ fuel (listed.setIfInBounds i So) (a.put oi.1 v) w):Y9 F n P md ops Q_ S_ (fuel+1) listed a w :=
 AE hnd hi (Region.noSelect_spec hs) hQ fuel listed a w (Region.free_spec hi hf) (by simpa using hr) hy hS h
theorem AS{listed:Zz}{a:Act}{w:Ub}(hr:Region.ready md ops listed=[])(h:Q_ .normal a w):
 ∀fuel,Y9 F n P md ops Q_ S_ fuel listed a w
 |0=>⟨hr,h⟩
 |_+1=>⟨λ_=>h,by rw[hr];simp⟩
def Xu(F:Fence)(n:N)(P:Yh)(md:Region.Mode)(ops:Array Oper)(Q_:Yt)(S_:Vy)(fuel:N)(listed:Zz)(a:Act)(w:Ub)(rs:Wa):Prop :=
 ∀i∈rs,wpOpIn F n P ops Q_ i (λa' w'=>S_ w'/\Y9 F n P md ops Q_ S_ fuel (listed.setIfInBounds i So) a' w') a w
theorem Xu.nil{fuel listed a w}:Xu F n P md ops Q_ S_ fuel listed a w []:=λ_ h=>by cases h
theorem Xu.cons{fuel listed a}{w:Ub}{i o rs}(ho:ops[i]?=S o)(h:∀K':Tf,Shut (∀a w,S_ w->(S_ w->Y9 F n P md ops Q_ S_ fuel (listed.setIfInBounds i So) a w)->K' a w)->if Region.wanted o (yielded ops a.1)=So then Oper.wpIn F n P o a w K' Q_ else (∀f,o.about P w a.eval=S f->F.1 f)/\K' (a.put o.1 Su) w)(hs:Xu F n P md ops Q_ S_ fuel listed a w rs):Xu F n P md ops Q_ S_ fuel listed a w (i::rs):=λj hj=>by
 obtain rfl|hj:=cH.1 hj;·exact wpOpIn_step ho λK' hK=>h K' λa w hS hW=>hK a w ⟨hS,hW hS⟩
 exact hs j hj
theorem YM{rs:Wa}{fuel}{listed:Zz}{a w}(hr:Region.ready md ops listed=rs)(hne:rs≠[])(h:Xu F n P md ops Q_ S_ fuel listed a w rs):Y9 F n P md ops Q_ S_ (fuel+1) listed a w:=⟨λh0=>Sz (hr▸h0) hne,hr▸h⟩
def k9(Q_:Exit->Act->World->Prop):Exit->Act->World->Prop
 |.normal,a,w=>Q_ .normal a w
 |_,_,_=>False
theorem Tl{id a}{w:Ub}(hm:P.follows .mixedOrders=So)(hS:S_ w.drew)(h:S_ w.drew->Y9 F n P .any ops (k9 Q_) S_ (Z ops) (Array.replicate (Z ops) Sn) a w.drew):(Code.region id ops So).wpIn F n P Q_ a w :=
 wpIn_mono (wpIn_region_any (Q:=k9 Q_) hm (K6 _ _ _ _<|h hS)) λe _ _ h=>by cases e<;>first|exact h|exact h.elim
theorem AH{listed:Zz}{a w}(hr:Region.ready md ops listed=[])(h:Q_ .normal a w)(fuel):Y9 F n P md ops (k9 Q_) S_ fuel listed a w:=AS (Q_:=k9 Q_) hr (show k9 Q_ .normal a w from h) fuel
end
theorem Yi{F:Fence}{n:N}{P:Yh}{md:Region.Mode}{ops:Array Oper}{Q_:Yt}{S_:Vy}(i:N){oi:Oper}{v:Uj}{fuel:N}{listed:Zz}{a b:Act}{w:Ub}(h:Y9 F n P md ops Q_ S_ fuel (listed.setIfInBounds i So) b w)(hi:ops[i]?=S oi:=by exact rfl)(hw:Region.wanted oi (yielded ops a.1)=So:=by rfl)(hy:∀(w:Ub),S_ w->Sem.run P (execOp a.eval oi) w=Result.ok (Next.value v) w:=by intro w hSw;(try dsimp only at hSw);go_simp;try with_reducible rfl)(hp:a.put oi.1 v=b:=by(simp only[xX]);exact rfl)(hq:∀c a w,Q_ (.panic c) (a.put oi.1 v) w->Q_ (.panic c) a w:=by exact λ_ _ _ h=>h)(hz:∀w,oi.about P w a.eval=U:=by exact λ_=>rfl)(hnd:WQ ops=So:=by kernel_rfl)(hs:Region.noSelect ops=So:=by kernel_rfl)(hf:Region.free md ops listed i=So:=by kernel_rfl)(hr:(Region.ready md ops listed).contains i=So:=by kernel_rfl)(hS:S_ w:=by assumption):Y9 F n P md ops Q_ S_ (fuel+1) listed a w:=AW hi hnd hs hf hr hq ⟨bC ⟨hw,hy⟩,hz⟩ hS (hp▸h)
theorem Yc{F:Fence}{n:N}{P:Yh}{md:Region.Mode}{ops:Array Oper}{Q_:Yt}{S_:Vy}(i:N){oi:Oper}{fuel:N}{listed:Zz}{a:Act}{w:Ub}(h:∀K':Tf,Shut (∀a w,S_ w->∀{b:Act},(S_ w->Y9 F n P md ops Q_ S_ fuel (listed.setIfInBounds i So) b w)->(hp:a=b:=by(try simp only[xX]);exact rfl)->K' a w)->if Region.wanted oi (yielded ops a.1)=So then Oper.wpIn F n P oi a w K' Q_ else (∀f,oi.about P w a.eval=S f->F.1 f)/\K' (a.put oi.1 Su) w)(hi:ops[i]?=S oi:=by exact rfl)(hr:Region.ready md ops listed=[i]:=by kernel_rfl):Y9 F n P md ops Q_ S_ (fuel+1) listed a w:=YM (rs:=[i]) hr (by simp) (Xu.cons hi (λK hK=>h K λa w hs b k hp=>hK a w hs (hp▸k)) Xu.nil)
theorem Tc{F:Fence}{n:N}{P:Yh}{ops:Array Oper}{Q_:Yt}(S_:Vy){id:N}{a:Act}{w:Ub}(h:S_ w.drew->Y9 F n P .any ops (k9 Q_) S_ (Z ops) (Array.replicate (Z ops) Sn) a w.drew)(hS:S_ w.drew:=by first|with_reducible exact True.intro|((try dsimp only);go_keep))(hm:P.follows .mixedOrders=So:=by kernel_rfl):(Code.region id ops So).wpIn F n P Q_ a w:=Tl hm hS h
theorem ZV{F:Fence}{n:N}{P:Yh}{md:Region.Mode}{ops:Array Oper}{Q_:Yt}{S_:Vy}{listed:Zz}{a:Act}{w:Ub}{fuel:N}(h:Q_ .normal a w)(hr:Region.ready md ops listed=[]:=by kernel_rfl):Y9 F n P md ops (k9 Q_) S_ fuel listed a w:=AH hr h fuel
end
def Tx(p:Addr):Uj:=Sj (S p)
def Yd:List Bool->List Addr->List Addr
 |k::ks,p::ps=>if k then p::Yd ks ps else Yd ks ps
 |_,_=>[]
theorem BB(b a)(k:Bool)(p)(h:J b=J a):Yd (b++[k]) (a++[p])=Yd b a++(if k then [p]else []):=by
 induction b generalizing a with
 |nil=>cases a with
  |nil=>cases k<;>rfl
  |cons q r=>simp at h
 |cons x r c=>cases a with
  |nil=>simp at h
  |cons q s=>cases x<;>simp[Yd,c s<|by simpa using h]
theorem CS(b a):J (Yd b a)<=J a:=by
 induction b generalizing a with
 |nil=>simp[Yd]
 |cons x r c=>cases a with
  |nil=>simp[Yd]
  |cons q s=>have:=c s;cases x<;>simp[Yd]<;>omega
theorem QZ:(prog.info? 175).map (λi=>(i.8,i.3,i.4))=S (S<|Sj U,1,8):=vZ
theorem Ct{l v}:(l++[v]).map Tx=l.map Tx++[Tx v]:=sP
theorem BI(w:Ub):Sx (D w<|Sc #[] 175) (Z w.1) 175 1 (X (S ⟨Z w.1,0,U⟩) 0 0) 0 []:=by have:=eI (base:=Z w.1) (e:=175) (size:=1) w #[] 0 sP sP R;simpa using this
theorem UA(t j P C b a L B w)(l:B<=Z w.1)(s:Q (Zx w L B t<|b.map Sb))(F:Q (Zx w L B j<|a.map Tx))(p:Q (J b=J a))(V:J a<=1000):
 Sk prog 81 #[X t (J b) P,X j (J a) C] w λh x=>∃v,h=Rt v/\Sw (Z w.1) w x/\Sx x (Z w.1) 175 1 v (J (Yd b a)) ((Yd b a).map Tx):=by
 let⟨O_,F_,J_,M_,N_⟩:=fX QZ
 go_in
 go_wp2
 go_loopw [5,11] (λv i wr=>∃k:N,k<=J a/\i=H k/\Q (Sw (Z w.1) w wr)/\Q (Sx wr (Z w.1) 175 1 v (J (Yd (b.take k) (a.take k))) ((Yd (b.take k) (a.take k)).map Tx))) λ_ i _=>J a-(JB i).toNat
 .exact⟨0,aN,R,Y<|Xb Rf _,Y<|by simpa [Yd]using BI w⟩
 obtain⟨k,U_,rfl,c,d⟩:=hrel;have W_:=c.4;by_cases q:k<J a
 .have o:k<J b:=oN p.o;obtain⟨R_,X_,rfl,⟨_,S_⟩,M⟩:=(s.keepS<|ZU (c.mono l)) k (by simpa using o);obtain⟨b2,Y_,rfl,⟨_,T_⟩,m⟩:=(F.keepS<|ZU (c.mono l)) k (by simpa using q);rw[cM]at M m;unfold Tx at m;have g:Q (Yd (b.take<|k+1) (a.take<|k+1)=Yd (b.take k) (a.take k)++(if b[k]then [a[k]]else [])):=Y (by rw[bN o,bN q,BB _ _ _ _<|by simp only[dH];omega]);have f:Q (J (Yd (b.take k) (a.take k))+1<=2000):=Y (by have:=CS (b.take k) (a.take k);simp only[dH]at this;omega);generalize b[k]=K at*;generalize a[k]=u at*;cases K with
  |false=>
   have e:Q (Sx wr (Z w.1) 175 1 u5 (J (Yd (b.take<|k+1) (a.take<|k+1))) ((Yd (b.take<|k+1) (a.take<|k+1)).map Tx)):=Y (by rw[g.o];simpa using d.o);go_wp2;exact⟨⟨k+1,O,gM,c,e⟩,SA⟩
  |true=>
   have T:Q (Yd (b.take<|k+1) (a.take<|k+1)=Yd (b.take k) (a.take k)++[u]):=Y (by have:=g.o;simpa using this);go_wp2_with (at_builtin;refine YC QZ d ?_ (oN f.o))
   intro v1 W r n H_ D_;have e:Q (Sx W (Z w.1) 175 1 v1 (J (Yd (b.take<|k+1) (a.take<|k+1))) ((Yd (b.take<|k+1) (a.take<|k+1)).map Tx)):=Y (by rw[T.o,Ct,aQ];exact r);have y:=Y (Xy ((c).alloc O _) n (d.alloc _) aA SB);go_wp2;exact⟨⟨k+1,O,gM,y,e⟩,SA⟩
 have z:Q (Sx wr (Z w.1) 175 1 u5 (J (Yd b a)) ((Yd b a).map Tx)):=Y (by have:=d.o;have h:=p.o;rwa[aW O,aW O]at this);go_wp2;go_ret;exact⟨_,R,c,z⟩
def iB(a:I):Bool:=Jd (a<=2)
def gx(k:I):Wn:=if k=1 then [106,117,109,112]else if k=3 then [114,101,116]else [98,114,97,110,99,104]
def Yy(w:Ub):Prop:=1 < Z w.1/\∀k:N,1<=k->k<=13->E w ⟨1,k*5,U⟩=S (Sg (K8<|bz k))/\E w ⟨1,k*5+1,U⟩=S (Sb (dB k))/\E w ⟨1,k*5+2,U⟩=S (Sb (aB k)) /\
 E w ⟨1,k*5+3,U⟩=S (Sb (bB k))/\E w ⟨1,k*5+4,U⟩=S (Sb (iB k))
def Yb(w:Ub):Prop:=0 < Z w.1/\∀k:N,1<=k->k<=3->E w ⟨0,k*4,U⟩=S (Sg (K8<|gx k))/\E w ⟨0,k*4+1,U⟩=S (Sb ((k:I) != 1))/\E w ⟨0,k*4+2,U⟩=S (Sb ((k:I) != 3)) /\
 E w ⟨0,k*4+3,U⟩=S (Sb ((k:I)==2))
theorem Yy.keep{w':Ub}(h:Yy w)(k:Sw n w w')(c:1 < n):Yy w':=by refine⟨aX h.1 k.4,λi a b=>?_⟩;have e:=λo=>Xc (o:=o) (k.5 1 c);let⟨c0,c1,c2,c3,c4⟩:=h.2 i a b;exact⟨G (e _) c0,G (e _) c1,G (e _) c2,G (e _) c3,G (e _) c4⟩
theorem Yb.keep{w':Ub}(h:Yb w)(k:Sw n w w')(c:0 < n):Yb w':=by refine⟨aX h.1 k.4,λi a b=>?_⟩;have e:=λo=>Xc (o:=o) (k.5 0 c);let⟨c0,c1,c2,c3⟩:=h.2 i a b;exact⟨G (e _) c0,G (e _) c1,G (e _) c2,G (e _) c3⟩
theorem Yy.old(h:Yy w):Uw w:=⟨h.1,λk a b=>by let⟨c0,c1,c2,c3,c4⟩:=h.2 k a b;exact⟨_,c0,c1,c2,c3,_,c4⟩⟩
theorem Yb.old(h:Yb w):T7 w:=⟨h.1,λk a b=>by let⟨c0,c1,c2,c3⟩:=h.2 k a b;exact⟨_,c0,c1,c2,c3⟩⟩
theorem J7(w:Ub)(a)(t:TypeId)(d:Wo)(c:TypeId):Zx (D (D w<|Sc a.toArray t) (Sc d.toArray c)).drew (Z w.1) (Z w.1+2) (S ⟨Z w.1,0,U⟩) a:=λi b=>
 ⟨_,0,R,⟨aA,O⟩,by let⟨f,o,e,_,h⟩:=uk w a t i b;cases e;exact G (Xc<|gF _ _ _ sP) h⟩
theorem J6(w:Ub)(c)(t:TypeId)(b:Wo)(a:TypeId):Zx (D (D w<|Sc b.toArray a) (Sc c.toArray t)).drew (Z w.1) (Z w.1+2) (S ⟨Z w.1+1,0,U⟩) c:=λi d=>
 ⟨_,0,R,⟨O,O⟩,by let⟨f,o,e,_,h⟩:=uk (D w<|Sc b.toArray a) c t i d;have e1:Z (D w<|Sc b.toArray a).1=Z w.1+1:=sP;rw[e1]at e;cases e;exact h⟩
section
variable {w w' w1 w2: Ub} {B gv gh: N}
variable {t: N} {tv: Uj} {vals hp tr: Wc}
variable {r: N} {W: Ub}
theorem Hz{u x b a}(h:Tp u x b a=So)(c:u=So):b<=x/\x<a:=by subst c;simpa [Tp]using h
theorem GW{n k p}(h:ZX n k p=So):(0<=p.1/\p.1<n)/\J p.2=k/\∀a∈p.2,0<=a/\a<n:=by simp only[ZX,Jt,bY,bD,dV]at h;let⟨b,⟨e,c⟩,d⟩:=h;exact⟨Hz b R,c,d⟩
end
section
structure ag where
 is:Vr
 te:Yj
def jc(w:Ub)(L B b o:N)(x:ag):Prop :=
 ∃a c,E w ⟨b,o,U⟩=S (X a (J x.1) c)/\Va w b (o+1) x.2/\YY w L B a x.1
def d7(w:Ub)(L B:N)(c:Uy)(a:List ag):Prop :=
 ∀i (h:i<J a),∃b o,c=S ⟨b,o,U⟩/\(L<=b/\b<B)/\jc w L B b (o+i*5) a[i]
variable {w w': Ub} {L B: N}
theorem jc.keepS{b o}{x:ag}(h:jc w L B b o x)(k:YA L B w w')(e:w'.1[b]?=w.1[b]?):jc w' L B b o x:=by let⟨f,g,a,c,d⟩:=h;exact⟨f,g,G (Xc e) a,c.keepS e,d.keepS k⟩
theorem d7.keepS{b}{d:List ag}(h:d7 w L B b d)(k:YA L B w w'):d7 w' L B b d:=λi g=>by let⟨c,o,e,a,f⟩:=h i g;exact⟨c,o,e,a,f.keepS k<|k c a.1 a.2⟩
theorem jc.keep{b o}{x:ag}(h:jc w L B b o x)(k:Sw B w w')(a:b<B):jc w' L B b o x:=h.keepS (ZU k) (k.5 b a)
theorem d7.keep{a}{b:List ag}(h:d7 w L B a b)(k:Sw B w w'):d7 w' L B a b:=h.keepS<|ZU k
theorem jc.mono{b a c o}{x:ag}(h:jc w L B c o x)(l:b<=L)(k:B<=a):jc w b a c o x:=by let⟨g,i,d,e,f⟩:=h;exact⟨g,i,d,e,f.mono l k⟩
theorem d7.mono{b a c}{d:List ag}(h:d7 w L B c d)(l:b<=L)(k:B<=a):d7 w b a c d:=λj i=>by let⟨e,o,f,m,g⟩:=h j i;exact⟨e,o,f,O,g.mono l k⟩
def km(a:List ag):Prop:=∀x∈a,J x.1<=1048576
end
end Go.Proofs.YtcncjgijikoapaaGreatDoor
