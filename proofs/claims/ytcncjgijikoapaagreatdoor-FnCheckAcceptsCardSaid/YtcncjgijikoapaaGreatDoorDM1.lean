import Derived.Test.YtcncjgijikoapaaGreatDoorDFP
import Derived.Test.YtcncjgijikoapaaGreatDoorNSv
import Derived.Test.YtcncjgijikoapaaGreatDoorSA0
import Derived.Deep.LoopGhost
import Derived.WalkMore
namespace Go.Proofs.YtcncjgijikoapaaGreatDoor
set_option maxHeartbeats 4000000
set_option maxRecDepth 100000
open _root_ renaming Nat->N,rfl->R,absurd->Sz,Bool.true->So,Bool.false->Sn,List.length->J,Option.some->S,Option.none->U,Array.size->Z,Int->I,List.range->Rg,Decidable.decide->Jd
open Go renaming World.cell?->E,World.alloc->D,World.setCell->Se,World.ownsRow->Sx,IntKind.i64->S6,Obj.cells->Sc,Ending.returned->Rt,RowKit.Below->Sw,Calls->Sk,RowKit.intOf->JB,undef->Su
open Value renaming slice->X,int->Si,tuple->St,bool->Sb,agg->Sa
open Go.RowKit Go.Proofs.Tryz
variable{t:I}{n m k B g i j c:N}{w v u:Ub}{a A_:Uj}{p:Uy}{M:Vp}{d:Vv}{s S_:Wa}{l:Wc}{x:Wi}{f F:Wk}
section
inductive Av (tg:N->List N) (a:N):N->Prop
 |root:a≠0->Av tg a 0
 |step {b t:N}:Av tg a b->t∈tg b->t≠a->Av tg a t
inductive Re (tg:N->List N):N->Prop
 |root:Re tg 0
 |step {b t:N}:Re tg b->t∈tg b->Re tg t
structure JO(tg:Yr)(a b:N):Prop where
 ra:Re tg a
 rb:Re tg b
 no:¬Av tg a b
variable {tg: N -> Wa}
theorem rp{a b}(h:Av tg a b):Re tg b:=by
 induction h with
 |root=>exact Re.root
 |step _ c _ d=>exact Re.step d c
theorem wX{a b}(h:Av tg a b):b≠a:=by
 cases h with
 |root h=>exact λe=>h e.symm
 |step _ _ h=>exact h
theorem Zd{b}(h:Re tg b):JO tg b b:=⟨h,h,λe=>wX e R⟩
theorem CW{b}(h:Re tg b):JO tg 0 b:=⟨Re.root,h,λe=>by
 have:∀{c},Av tg 0 c->False:=λa=>by
  induction a with
  |root h=>exact h R
  |step _ _ _ d=>exact d
 exact this e⟩
theorem Fq{x a d}(i:Av tg x d)(g:¬Av tg a d):Av tg x a:=by
 induction i with
 |root b=>
  have:a=0:=dQ λe=>g<|Av.root e;rw[this];exact Av.root b
 |@step c t j h b k=>
  by_cases f:Av tg a c
  .have:t=a:=dQ λe=>g<|Av.step f h e;rw[<-this];exact Av.step j h b
  exact k f
theorem J8{a b c}(h:JO tg a b)(k:JO tg b c):JO tg a c:=⟨h.1,k.2,λe=>h.3<|Fq e k.3⟩
theorem Dr{a b}(f:a≠b){c}(h:Re tg c):(Av tg a c/\Av tg b c)\/Av tg b a\/Av tg a b:=by
 induction h with
 |root=>
  by_cases ha:a=0;·subst ha;exact aZ<|bC (Av.root λe=>f e.symm)
  by_cases j:b=0;·subst j;exact aZ<|aZ (Av.root ha)
  exact bC ⟨Av.root ha,Av.root j⟩
 |@step c t _ d k=>
  obtain⟨h1,h2⟩|h|h:=k
  .by_cases g:t=a;·subst g;exact aZ<|bC (Av.step h2 d f)
   by_cases i:t=b;·subst i;exact aZ<|aZ (Av.step h1 d λe=>f e.symm)
   exact bC ⟨Av.step h1 d g,Av.step h2 d i⟩
  .exact aZ<|bC h
  exact aZ<|aZ h
theorem Z1{a b}(h:JO tg a b)(k:JO tg b a):a=b:=dQ (λe=>by
 obtain⟨_,h2⟩|h2|h2:=Dr e h.2;·exact wX h2 R
 .exact k.3 h2
 exact h.3 h2)
inductive Sf (tg:N->List N) (a b x:N):N->Prop
 |here:Sf tg a b x x
 |step {c t:N}:Sf tg a b x c->t∈tg c->t≠a->t≠b->Sf tg a b x t
theorem vp{a b c}(h:Re tg c):(Av tg a c/\Av tg b c)\/Sf tg a b a c\/Sf tg a b b c:=by
 induction h with
 |root=>
  by_cases ha:a=0;·subst ha;exact aZ<|bC Sf.here
  by_cases g:b=0;·subst g;exact aZ<|aZ Sf.here
  exact bC ⟨Av.root ha,Av.root g⟩
 |@step c t _ f i=>
  by_cases d:t=a;·subst d;exact aZ<|bC Sf.here
  by_cases e:t=b;·subst e;exact aZ<|aZ Sf.here
  obtain⟨h1,h2⟩|h|h:=i;·exact bC ⟨Av.step h1 f d,Av.step h2 f e⟩
  .exact aZ<|bC (Sf.step h f d e)
  exact aZ<|aZ (Sf.step h f d e)
theorem rm{a b x c y}(h:Sf tg a b x c)(i:y=a\/y=b)(g:Av tg y x):Av tg y c:=by
 induction h with
 |here=>exact g
 |step _ f d e j=>exact Av.step j f (by obtain rfl|rfl:=i;exact d;exact e)
theorem TY{a b c}(h:JO tg a c)(k:JO tg b c):JO tg a b\/JO tg b a:=by
 obtain⟨h1,_⟩|h1|h1:=vp (a:=a) (b:=b) h.2;·exact Sz h1 h.3
 .exact aZ ⟨k.1,h.1,λe=>k.3<|rm h1 (aZ R) e⟩
 exact bC ⟨h.1,k.1,λe=>h.3<|rm h1 (bC R) e⟩
end
section
variable {tg: N -> Wa}
def Oh(l:Wa)(x c:N):Prop:=∃a b,l=a++b/\x∈a/\c∈b
theorem EF{l r x a}(h:Oh l x a):Oh (l++r) x a:=by obtain⟨d,e,rfl,b,c⟩:=h;exact⟨d,e++r,sP,b,by simp[c]⟩
theorem DW{l:Wa}{x b}(h:x∈l):Oh (l++[b]) x b:=⟨l,[b],R,h,sP⟩
def PZ(tg:Yr)(P:Wa)(b:N):Prop:=∀a,JO tg a b->a≠b->a∈P
theorem DI:PZ tg [] 0:=λ_ h a=>Sz (Av.root a) h.3
theorem Eb{P b t}(h:PZ tg P b)(c:Re tg b)(f:t∈tg b):PZ tg (b::P) t:=λa ha d=>by
 by_cases e:a=b;·rw[e];exact cI
 exact cN _<|h a ⟨ha.1,c,λk=>ha.3<|Av.step k f λe2=>d e2.symm⟩ e
structure jk(tg:Yr)(P:Wa)(s:Wk×Wa):Prop where
 seen:∀x∈s.2,Xh s.1 x=So
 nd:s.2.Nodup
 all:∀x,Xh s.1 x=So->x∈s.2\/x∈P
 stk:∀x∈P,x∉s.2/\Xh s.1 x=So
 ord:∀x∈s.2,∀a,JO tg a x->a≠x->a∈P\/Oh s.2 x a
 re:∀x∈s.2,Re tg x
 cl:∀x∈s.2,∀t∈tg x,Xh s.1 t=So
theorem Cq{P}{s:Wk×Wa}{c}(h:jk tg P s)(d:Xh s.1 c=Sn):jk tg (c::P) (YH s.1 c,s.2):=by
 have mono:∀x,Xh s.1 x=So->Xh (YH s.1 c) x=So:=λx a=>by rw[Z8,a];simp
 refine⟨λx a=>mono x<|h.1 x a,h.2,λx a=>?_,λx a=>?_,λx a f ha g=>?_,h.6,λx a t i=>mono t<|h.7 x a t i⟩
 .rw[Z8]at a;by_cases e:x=c;·exact aZ<|by rw[e];exact cI
  rw[dJ e,jV]at a;obtain b|b:=h.3 x a;·exact bC b
  exact aZ<|cN _ b
 .rcases cH.1 a with rfl|a;·exact⟨λk=>(by rw[h.1 _ k]at d;cases d),by rw[Z8];simp⟩
  exact⟨(h.4 x a).1,mono x (h.4 x a).2⟩
 obtain b|b:=h.5 x a f ha g;·exact bC<|cN _ b
 exact aZ b
theorem DU{P:Wa}{s:Wk×Wa}{c}(h:jk tg (c::P) s)(m:c∉P)(o:Re tg c)(p:PZ tg P c)(n:∀t∈tg c,Xh s.1 t=So):jk tg P (s.1,s.2++[c]):=by
 have g:=h.4 c cI;refine⟨λx b=>?_,?_,λx b=>?_,λx b=>?_,λx b f ha i=>?_,λx b=>?_,λx b t e=>?_⟩
 .rcases bU.1 b with a|a;·exact h.1 x a
  have:x=c:=by simpa using a
  rw[this];exact g.2
 .rw[gW];refine⟨h.2,sP,λx b y q l=>?_⟩;have:y=c:=by simpa using q
  rw[l,this]at b;exact g.1 b
 .rcases h.3 x b with a|a;·exact bC<|dD _ a
  obtain rfl|a:=cH.1 a;·exact bC sP
  exact aZ a
 .have j:=h.4 x<|cN _ b;refine⟨λk=>?_,j.2⟩;obtain k|k:=bU.1 k;·exact j.1 k
  have:x=c:=by simpa using k
  rw[this]at b;exact m b
 .rcases bU.1 b with a|a
  .rcases h.5 x a f ha i with d|d
   .rcases cH.1 d with rfl|d;·exact aZ<|DW a
    exact bC d
   exact aZ<|EF d
  have:x=c:=by simpa using a
  subst this;exact bC<|p f ha i
 .rcases bU.1 b with a|a;·exact h.6 x a
  have:x=c:=by simpa using a
  rw[this];exact o
 obtain a|a:=bU.1 b;·exact h.7 x a t e
 have:x=c:=by simpa using a
 rw[this]at e;exact n t e
theorem uM{n}(h:∀b,b<n->∀t∈tg b,t<n):∀(m b:N)(s:Wk×Wa)(P:Wa),b<n->XB s.1 n<=m->Re tg b->PZ tg P b->jk tg P s->jk tg P (C9 tg m b s)/\Xh (C9 tg m b s).1 b=So
 |0,b,s,P,hb,a,_,_,hi=>⟨hi,T8 (n:=n) (Nat.le_zero.1 a) hb⟩
 |m+1,b,s,P,hb,a,hr,hs,hi=>by
  cases hh:Xh s.1 b with
  |true=>rw[Vd hh];exact⟨hi,hh⟩
  |false=>
   rw[nY hh];have j:b∉P:=λp=>by rw[(hi.4 b p).2]at hh;cases hh
   have w:=Tb hb hh;have v:∀(l:Wa)(s1:Wk×Wa),(∀t∈l,t∈tg b)->XB s1.1 n<=m->jk tg (b::P) s1->jk tg (b::P) (l.foldl (λs t=>C9 tg m t s) s1)/\∀t∈l,Xh (l.foldl (λs t=>C9 tg m t s) s1).1 t=So:=λl=>by
    induction l with
    |nil=>intro s1 _ _ d;exact⟨d,λt c=>by cases c⟩
    |cons t l o=>
     intro s1 g d i;have c:=g t cI;let⟨e,f⟩:=uM h m t s1 (b::P) (h b hb t c) d (Re.step hr c) (Eb hs hr c) i;let⟨q,r⟩:=o (C9 tg m t s1) (λu a=>g u<|cN _ a) (aJ (JY n λx k=>KB tg m t s1 x k) d) e;refine⟨q,λu a=>?_⟩;obtain rfl|a:=cH.1 a;·exact Ue tg m l _ _ f
     exact r u a
   let⟨e,f⟩:=v (tg b) (YH s.1 b,s.2) (λt c=>c) (by show XB (YH s.1 b) n<=m;omega) (Cq hi hh);refine⟨DU e j hr hs f,?_⟩;exact Ue tg m (tg b) (YH s.1 b,s.2) b (by show Xh (YH s.1 b) b=So;rw[Z8];simp)
theorem ZA(W n):XB W n<=n:=aJ (fJ _ _) sP
theorem ER{n}(l:∀f,f<n->∀t∈tg f,t<n)(g:0<n){m}(k:n<=m):
 (∀x,x∈(C9 tg m 0 (λ_=>0,[])).2↔Re tg x)/\(∀x,Xh (C9 tg m 0 (λ_=>0,[])).1 x=So↔Re tg x)/\(C9 tg m 0 (λ_=>0,[])).2.Nodup/\∀x c,JO tg c x->c≠x->Oh (C9 tg m 0 (λ_=>0,[])).2 x c:=by
 have j:jk tg [] (λ_=>0,[]):=⟨λx a=>(by cases a),iU,λx a=>(by rw[Z3]at a;cases a),λx a=>(by cases a),λx a=>(by cases a),λx a=>(by cases a),λx a=>(by cases a)⟩;let⟨b,i⟩:=uM l m 0 (λ_=>0,[]) [] g (aJ (ZA _ _) k) Re.root DI j;generalize C9 tg m 0 (λ_=>0,[])=s at*;have d:∀x,Xh s.1 x=So->x∈s.2:=λx a=>by
  obtain h|h:=b.3 x a;·exact h
  cases h
 have e:∀x,Re tg x->Xh s.1 x=So:=λx a=>by
  induction a with
  |root=>exact i
  |step _ p q=>exact b.7 _ (d _ q) _ p
 refine⟨λx=>⟨b.6 x,λh=>d x<|e x h⟩,λx=>⟨λh=>b.6 x<|d x h,e x⟩,b.2,λx c ha o=>?_⟩;obtain h|h:=b.5 x (d x<|e x ha.2) c ha o;·cases h
 exact h
end
section
variable {tg: N -> Wa}
structure O6(tg:Yr)(a b:N):Prop where
 dom:JO tg a b
 ne:a≠b
 near:∀c,JO tg c b->c≠b->JO tg c a
theorem Be{l x a}(h:Oh l x a):Oh l.reverse a x:=by obtain⟨d,e,rfl,b,c⟩:=h;exact⟨e.reverse,d.reverse,sP,SK,SJ⟩
theorem qk{l:Wa}(d:l.Nodup){i}(j:i<J l){x}(h:Oh l x l[i]):x∈l.take i:=by
 let⟨a,n,e,f,g⟩:=h;have k:J a<=i:=Nat.le_of_not_lt (λb=>by
  have m:l[i]∈a:=by
   have:l[i]=a[i]:=by
    have c:l[i]?=(a++n)[i]?:=by rw[<-e]
    rw[aC j,dL b,aC b]at c;injection c
   rw[this];exact aH b
  rw[e,gW]at d;exact d.2.2 _ m _ g R)
 rw[e,List.take_append];rw[aW k];exact dD _ f
theorem Dg{l}{p:Ys}{a}(h:l.reverse.find? p=S a):p a=So/\a∈l/\∀c∈l,p c=So->c=a\/Oh l c a:=by
 rw[List.find?_eq_some_iff_append]at h;let⟨k,f,bs,i,j⟩:=h;have b:l=bs.reverse++[a]++f.reverse:=by have:=fI List.reverse i;simpa using this
 refine⟨k,by rw[b];simp,λc g m=>?_⟩;rw[b]at g;obtain d|d:=bU.1 g
 .rcases bU.1 d with e|e;·exact aZ ⟨bs.reverse,[a]++f.reverse,by rw[b,cK],e,sP⟩
  exact bC<|by simpa using e
 have:=j c (by simpa using d);rw[m]at this;cases this
theorem CJ{o:Wa}(d:o.Nodup)(z:∀x,x∈o↔Re tg x)(B:∀x a,JO tg a x->a≠x->Oh o a x){i:N}(t:i<J o){p:Ys}(C:∀a∈o,p a=So↔¬Av tg a o[i]):
 match (o.take i).reverse.find? p with
 |some a=>O6 tg a o[i]
 |none=>∀c,JO tg c o[i]->c=o[i]:=by
 have T:=(z _).1 (aH t);have s:∀a,a∈o->(p a=So↔JO tg a o[i]):=λa ha=>⟨λn=>⟨(z a).1 ha,T,(C a ha).1 n⟩,λn=>(C a ha).2 n.3⟩;have aa:(o.take i).Nodup:=d.sublist<|List.take_sublist _ _;have y:∀c,JO tg c o[i]->c≠o[i]->c∈o.take i:=λc b h=>qk d t<|B o[i] c b h
 have V:o[i]∉o.take i:=λk=>by have e:=(hH i o).symm;have W:o[i]∈o.drop i:=(gZ t)▸cI;rw[e,gW]at d;exact d.2.2 _ k _ W R
 cases hf:(o.take i).reverse.find? p with
 |some a=>
  let⟨L_,r,M_⟩:=Dg hf;have R_:=iO r;have l:=(s a R_).1 L_;have Q_:a≠o[i]:=λe=>V (e▸r);refine⟨l,Q_,λc b h=>?_⟩;have f:=y c b h;obtain e|T_:=M_ c f ((s c<|iO f).2 b);·rw[e];exact Zd l.1
  by_cases v:c=a;·rw[v];exact Zd l.1
  obtain k|k:=TY b l;·exact k
  -- a dominates c: then a stands ahead of c
  exfalso;have N_:=B c a k λe=>v e.symm;have V_:=bR r;let⟨j,X_,H_⟩:=V_;have u:j<J o:=by rw[dH]at X_;omega
  have m:o[j]=a:=by rw[<-H_,jG]
  have O_:c∈o.take j:=by
   have U_:Oh o c o[j]:=by rw[m];let⟨l1,l2,e,k1,k2⟩:=T_;exact⟨l1,l2++o.drop i,by rw[<-cK,<-e,hH],k1,dD _ k2⟩
   exact qk d u U_
  let⟨K,L,I_⟩:=bR O_;have Y_:K<J o:=by rw[dH]at L;omega
  have J_:o[K]=c:=by rw[<-I_,jG]
  have P_:=qk d Y_ (J_▸N_);let⟨q,M,K_⟩:=bR P_;have P:q<J o:=by rw[dH]at M;omega
  have w:o[q]=a:=by rw[<-K_,jG]
  have ab:q=j:=by
   have F:=gY.1 (show o.Pairwise (·≠·)from d);obtain g|g|g:=mA q j;·exact Sz (G w m.symm) (F q j P u g)
   .exact g
   exact Sz (G m w.symm) (F j q u P g)
  rw[dH]at L M;omega
 |none=>
  intro c b;refine dQ λh=>?_;have f:=y c b h;have:=lS.1 hf c (by simpa using f);exact this<|(s c<|iO f).2 b
def NI(c:Wk)(d:N)(e:Wa):Zm:=e.foldl (λb a=>if a≠d/\(b=U\/∃k,b=S k/\c a > c k)then S a else b) U
theorem Cf{d b e}(h:∀a∈e,a=b):NI d b e=U:=by
 unfold NI;have i:∀(l:Wa),(∀a∈l,a=b)->l.foldl (λc a=>if a≠b/\(c=U\/∃k,c=S k/\d a > d k)then S a else c) U=U:=λl=>by
  induction l with
  |nil=>intro _;rfl
  |cons a l g=>
   intro h;rw[iM,aM λk=>k.1<|h a cI];exact g λx f=>h x<|cN _ f
 exact i e h
theorem Co{d a i m}(ha:a∈m)(w:a≠i)(v:∀c∈m,c≠i->c≠a->d c<d a):NI d i m=S a:=by
 unfold NI;have y:∀(l:Wa)(b:Zm),(∀c∈l,c≠i->c≠a->d c<d a)->(b=U\/∃k,b=S k/\(k=a\/d k<d a))->(b=S a\/a∈l)->l.foldl (λb a=>if a≠i/\(b=U\/∃k,b=S k/\d a > d k)then S a else b) b=S a:=λl=>by
  induction l with
  |nil=>
   intro b _ _ h;obtain h|h:=h;·exact h
   cases h
  |cons c l p=>
   intro b t j h;rw[iM];have o:=λz x=>t z<|cN _ x;by_cases q:c=a
   .subst q;by_cases s:b=S c
    .subst s;rw[aM λk=>by obtain k|⟨r,e,f⟩:=k.2;cases k;injection e with e;rw[e]at f;omega];exact p _ o j<|bC R
    rw[aU ⟨w,by obtain j|⟨r,e,f⟩:=j;exact bC j;exact aZ ⟨r,e,by obtain f|f:=f;exact Sz (G e<|by rw[f]) s;exact f⟩⟩];exact p _ o (aZ ⟨c,R,bC R⟩) (bC R)
   have g:b=S a\/a∈l:=by
    obtain h|h:=h;·exact bC h
    obtain h|h:=cH.1 h;·exact Sz h.symm q
    exact aZ h
   by_cases n:c≠i/\(b=U\/∃k,b=S k/\d c > d k)
   .rw[aU n];have u:=t c cI n.1 q;refine p _ o (aZ ⟨c,R,aZ u⟩) ?_;obtain g|g:=g
    .exfalso;obtain k|⟨r,e,f⟩:=n.2;·rw[g]at k;cases k
     rw[g]at e;injection e with e;rw[<-e]at f;omega
    exact aZ g
   rw[aM n];exact p _ o j g
 exact y m U v (bC R) (aZ ha)
end
def Je(L:Wa):Wo:=L.map λ(x:N)=>Si S6 (x:I)
theorem VP:Je (s++[n])=Je s++[H n]:=by simp[Je]
theorem UY(w:Ub)(b:N):Xf (D w<|Sc #[Si S6 (b:I)] n) (Z w.1) (Z w.1+1) (S ⟨Z w.1,0,U⟩) ([b].map Int.ofNat):=λi a=>by
 have:i=0:=by simpa using a
 subst this;exact⟨_,0,R,⟨aA,iJ⟩,sP⟩
theorem KJ(t:Yj):J t.tg<=2:=by
 unfold Yj.tg;split;·simp
 split<;>simp
structure YW(w:Ub)(bS gS BL K:N)(ab:Uy)(nb cb:N)(W:Wk)(v:Uj)(L:Wa):Prop where
 c0:E w ⟨bS,0,U⟩=S (X ab nb cb)
 c1:E w ⟨bS,1,U⟩=S (X (S ⟨gS,0,U⟩) K K)
 c2:E w ⟨bS,2,U⟩=S v
 thaw:∀q,w.frozen? ⟨bS,q,U⟩=Sn
 row:w.rowIs gS 173 K λi=>Si .u64 (W i)
 own:Sx w BL 2 1 v (J L) (Je L)
 lb:bS<BL
 lg:gS<BL
 ne:bS≠gS
 sz:BL<=Z w.1
structure Vh(w w':Ub)(bS gS:N)(v v':Uj):Prop where
 os:w'.4=w.4
 tape:w'.2=w.2
 output:w'.5=w.5
 size:Z w.1<=Z w'.1
 block:∀k,k<Z w.1->k≠bS->k≠gS->S k≠v.ownBlock->w'.1[k]?=w.1[k]?
 own:v'.ownBlock=v.ownBlock\/∀k,v'.ownBlock=S k->Z w.1<=k
theorem Vh.refl(w a b v):Vh w w a b v v:=⟨R,R,R,aA,λ_ _ _ _ _=>R,bC R⟩
theorem Vh.trans{v1 v2}(h:Vh w v n m a v1)(k:Vh v u n m v1 v2):Vh w u n m a v2:=by
 refine⟨G k.1 h.1,G k.2 h.2,G k.3 h.3,aJ h.4 k.4,λj d f g i=>?_,?_⟩
 .refine G (k.5 j (aX d h.4) f g λe=>?_) (h.5 j d f g i);obtain b|b:=h.6;·exact i<|by rw[e,b]
  have:=b j e.symm;omega
 obtain c|c:=k.6
 .rcases h.6 with b|b;·exact bC<|G c b
  exact aZ λj e=>b j<|by rw[<-c];exact e
 exact aZ λj e=>aJ h.4<|c j e
theorem Vh.of_below(h:Sw (Z w.1) w v):Vh w v n m a a:=⟨h.1,h.2,h.3,h.4,λk b _ _ _=>h.5 k b,bC R⟩
theorem Vh.of_grown(h:w.grownBy v (S m)):Vh w v n m a a:=⟨h.1,h.2,h.3,h.4,λk b _ c _=>h.5 k b λe=>c (by injection e),bC R⟩
theorem YW.below(h:YW w n m k B p g i f a s)(b:Sw (Z w.1) w v):YW v n m k B p g i f a s:=by
 have l:=h.sz;have d:=b.5 n<|oN h.7;have c:∀q,E v (A n q)=E w (A n q):=λq=>bZ d;refine⟨G (c 0) h.1,G (c 1) h.2,G (c 2) h.3,λq=>G (bJ d) (h.4 q),h.5.of_block<|b.5 m (oN h.8),?_,h.7,h.8,h.9,aJ l b.4⟩;refine h.6.kept (row:=U) ⟨b.1,b.2,b.3,b.4,λj e _=>b.5 j e⟩ ?_;cases a.ownBlock with
 |none=>exact bC R
 |some j=>exact aZ sP
theorem YW.seen(h:YW w n m k B p g i f a s)(c:w.grownBy v (S m))(j:v.rowIs m 173 B λo=>Si .u64 (F o)):YW v n m k B p g i F a s:=by have l:=h.sz;have d:=c.5 n (oN h.7) (λe=>h.9<|by injection e);have b:∀q,E v (A n q)=E w (A n q):=λq=>bZ d;exact⟨G (b 0) h.1,G (b 1) h.2,G (b 2) h.3,λq=>G (bJ d) (h.4 q),j,TW h.6 c h.8,h.7,h.8,h.9,aJ l c.4⟩
theorem YW.push{r:Obj}(h:YW w n m k B p g i f a s)(c:(D w r).grownBy v a.ownBlock)(M:Sx v k 2 1 A_ (J s+1) (Je s++[Si S6 (j:I)]))(F:A_.ownBlock=a.ownBlock\/A_.ownBlock=S (Z w.1+1)):
 YW (Se v ⟨n,2,U⟩ A_) n m k B p g i f A_ (s++[j])/\Vh w (Se v ⟨n,2,U⟩ A_) n m a A_/\E v ⟨n,2,U⟩=S a/\v.frozen? ⟨n,2,U⟩=Sn:=by
 have L:=h.sz;have o:=h.7;have y:=h.8;have K:Z (D w r).1=Z w.1+1:=aO _ _;have W:=c.4;have z:∀b,b<k->S b≠a.ownBlock:=λb x e=>by have:=(h.6.lt b e.symm).1;omega
 have ha:∀b,b<Z w.1->(D w r).1[b]?=w.1[b]?:=λb x=>gF _ _ _ x;have u:=G (c.5 n O<|z _ o) (ha _ O);have P:=G (c.5 m O<|z _ y) (ha _ O);have d:∀q,E v (A n q)=E w (A n q):=λq=>bZ u;have t:=λq=>G (bJ u) (h.4 q);refine⟨⟨G (XL _ _ O _) (G (d 0) h.1),G (XL _ _ O _) (G (d 1) h.2),fQ _ _ _<|G (d 2) h.3,λq=>by rw[eX];exact t q,(h.5.of_block P).setOther (λe=>h.9 e.symm) _,?_,o,y,h.9,SF⟩,⟨?_,?_,?_,SF,λb C T I_ V=>?_,?_⟩,G (d 2) h.3,t 2⟩
 .rw[VP,aQ];exact ke M o _
 .exact c.1
 .exact c.2
 .exact c.3
 .rw[cY T];exact G (c.5 b O V) (ha b C)
 obtain e|e:=F;·exact bC e
 exact aZ λb l=>by rw[e]at l;injection l with l;omega
theorem Vh.blks(d:Vh w v n m a A_)(h:YW w n m k B p g i f a s)(q:Xp w j c p x)(l:¬(j<=n/\n<c))(o:¬(j<=m/\m<c))(r:c<=k):Xp v j c p x:=by have t:=h.sz;exact q.keepS λb u y=>d.5 b O (λe=>l O) (λe=>o O) λe=>by have:=(h.6.lt b e.symm).1;omega
theorem VY(g d u K M V B)(bd:Q (m=J x))(hn:m<=1000)(hK:m<=64*n)(ck:n<=100)(S_:¬(V<=g/\g<B))(T_:¬(V<=d/\d<B))(U_:B<=u)(hT:Q (∀aa∈x,∀t∈aa.3.tg,0<=t/\t<m)):
 ∀(c b:N)(W:Wk)(v:Uj)(L:Wa)(w:Ub),Q (YW w g d u n M m K W v L)->Q (Xp w V B M x)->b<m->Q (XB W m<=c)->Q (XA W)->J L+XB W m<=m ->
 Sk prog 51 #[Hn g,H b] w λi w'=>i=Rt (St #[])/\∃r,Vh w w' g d v r/\YW w' g d u n M m K (C9 (X8 x) c b (W,L)).1 r (C9 (X8 x) c b (W,L)).2:=by
 intro c
 induction c with
 |zero=>
  intro b W v L w f J_ F Q_ z hL;have HH:Q (Xh W b=So):=Y<|T8 (oN Q_.o) F;have h:=Y<|Jm d n b W w z (Y f.5) O O;rw[HH.o]at h;have c1:=f.2
  go_in
  go_wp2_with fail
  refine YU h λe j=>?_;have k:=Y<|f.below j;have y:Q (Vh w e g d v v):=Y<|Vh.of_below j;clear j h c1;go_wp2_with fail
  refine YL (v:=St #[]) ?_;exact⟨R,v,y,k⟩
 |succ c ih=>
  intro b W v L w f J_ F Q_ z hL;have IH:=Y ih;clear ih;cases hh:Xh W b with
  |true=>
   have ap:=Y hh;clear hh;have h:=Y<|Jm d n b W w z (Y f.5) O O;rw[ap.o]at h;have c1:=f.2
   go_in
   go_wp2_with fail
   refine YU h λe j=>?_;have k:=Y<|f.below j;have y:Q (Vh w e g d v v):=Y<|Vh.of_below j;clear j h c1;go_wp2_with fail
   refine YL (v:=St #[]) ?_;rw[Vd (s:=(W,L)) ap.o];exact⟨R,v,y,k⟩
  |false=>
   have O_:=Y hh;clear hh;have c0:=f.1;have c1:=f.2;have c2:=f.3;have h:=Y<|Jm d n b W w z (Y f.5) O O;rw[O_.o]at h
   go_in
   go_wp2_with fail
   refine YU h λe j=>?_;have k:=Y<|f.below j;have y:Q (Vh w e g d v v):=Y<|Vh.of_below j;clear j h c0 c1 c2;have c0:=k.1;have c1:=k.2;go_wp2_with fail
   have P_:=Y<|k.below (Xb Rf (Sc #[H b] 199));have aj:Q (Vh e (D e<|Sc #[H b] 199) g d v v):=Y<|Vh.of_below (Xb Rf _);have aq:Q (Xf (D e<|Sc #[H b] 199) (Z e.1) (Z e.1+1) (S ⟨Z e.1,0,U⟩) ([b].map Int.ofNat)):=Y<|UY e b;have be:Z e.1+1<=Z (D e<|Sc #[H b] 199).1:=sP;have b5:d<Z e.1:=oP k.8 k.sz
   generalize D e _=wa at*;have bp:Q (∀t∈[b],t<64*n):=Y (λt o=>by
    have:t=b:=by simpa using o
    omega)
   refine YU (Tz d n n 1 1 W _ [b] (Z e.1) (Z e.1+1) wa aq (Y R) O bp O z (Y<|Cp.of_row P_.5) be O) λP⟨V_,ba⟩=>?_;have l:Q (YW P g d u n M m K (YH W b) v L):=Y<|P_.seen V_ ba.to_row;have M_:=Y<|(y.trans aj).trans (Vh.of_grown V_);have ad:=Y<|M_.blks f J_ S_ T_ U_;have a2:=Y<|Tb (W:=W) (n:=m) F O_;have K_:=Y<|nY (tg:=X8 x) (m:=c) (s:=(W,L)) O_;clear V_ ba y k be b5 c0 c1;have A_:b<J x:=oN bd.o;obtain⟨bb,cg,rfl,cm,pa,pc,ia,ic,-,-,⟨t0,t1,t2,t3⟩,-,-⟩:=ad b A_;have c0:=l.1;have a1:=Y<|hT.o _ (aH A_);rw[Km A_]at K_;dsimp only at K_;generalize x[b].3=tm at*;go_wp2_with fail
   refine(J4 tm P).mono ?_;rintro i w3⟨ci,cj,rfl,T,a7⟩;have ar:=Y<|l.below T;have af:=Y<|M_.trans (Vh.of_below T);have bl:=Y a7;have bf:=Y<|af.blks f J_ S_ T_ U_;have ch:=Y T.4;have bm:=Y λcf i=>(l.6.lt cf i).2;have ao:Q (d<Z P.1/\g<Z P.1):=Y ⟨oP l.8 l.sz,oP l.7 l.sz⟩;clear T a7 t0 t1 t2 t3 c0;have cr:=KJ tm;generalize ca:tm.tg=a at*;clear ca;have bv:Q (∀t∈a.map Int.toNat,t<m):=Y (λt o=>by obtain⟨ac,Z_,rfl⟩:=aY.1 o;have:=a1 ac Z_;omega)
   have br:Q (∀b,b<m->∀t∈X8 x b,t<m):=Y (λb F t o=>by
    have A_:b<J x:=oN bd.o
    rw[Km A_]at o;obtain⟨ac,Z_,rfl⟩:=aY.1 o;have:=hT _ (aH A_) ac Z_;omega)
   have b0:=Y<|oV z b;have b3:XB (YH W b) m<=c:=oP Q_.o a2.o;have cl:J L+XB (YH W b) m+1<=m:=oN a2.o;go_wp2
   go_loopw [29] (λH_ wr=>∃q:N,q<=J a/\H_=H q/\∃r,Q (Vh w3 wr g d v r)/\Q (YW wr g d u n (S ⟨bb,cg,U⟩) m K (((a.map Int.toNat).take q).foldl (λs t=>C9 (X8 x) c t s) (YH W b,L)).1 r (((a.map Int.toNat).take q).foldl (λs t=>C9 (X8 x) c t s) (YH W b,L)).2)) λH_ _=>J a-(JB H_).toNat
   .exact⟨0,aN,R,v,Y<|Vh.refl _ _ _ _,ar⟩
   obtain⟨q,hq,rfl,r,C,p⟩:=hrel;have N_:Q (J (((a.map Int.toNat).take q).foldl (λs t=>C9 (X8 x) c t s) (YH W b,L)).2+XB (((a.map Int.toNat).take q).foldl (λs t=>C9 (X8 x) c t s) (YH W b,L)).1 m<=J L+XB (YH W b) m):=Y (DF (X8 x) br c _ λt o=>bv t<|iO o);by_cases X_:q<J a
   .obtain⟨bt,ot,rfl,b4,a3⟩:=bl q X_;have et:=G (Xc (C.5 bt b4.2 (oN ao.o) (oN ao.o) λi=>by have:=bm bt i.symm;omega)) a3;have b8:=a1 a[q] (aH X_);have a0:Q ((a.map Int.toNat).take (q+1)=(a.map Int.toNat).take q++[a[q].toNat]):=Y (by rw[bN (by simpa using X_),cM]);have b1:=Y<|Ei (X8 x) c ((a.map Int.toNat).take q) (YH W b,L) b0;have bh:=Y<|C.blks ar bf S_ T_ U_;have bx:Q (XB (((a.map Int.toNat).take q).foldl (λs t=>C9 (X8 x) c t s) (YH W b,L)).1 m<=c):=Y (aJ (JY m λaa hx=>Ue (X8 x) c _ (YH W b,L) aa hx) b3);have al:Q (((a.map Int.toNat).take (q+1)).foldl (λs t=>C9 (X8 x) c t s) (YH W b,L)=C9 (X8 x) c a[q].toNat (((a.map Int.toNat).take q).foldl (λs t=>C9 (X8 x) c t s) (YH W b,L))):=Y (by rw[a0.o,dT];rfl);clear a3;generalize a[q]=tq at*;obtain⟨tn,rfl⟩:=Zv b8.1;rw[dM]at al;have HC:=Y<|IH.o tn _ r _ wr p bh O bx b1 (oN N_.o);generalize ((a.map Int.toNat).take q).foldl (λs t=>C9 (X8 x) c t s) (YH W b,L)=sq at*;let⟨Wq,Lq⟩:=sq;dsimp only at*;go_wp2_with fail
    refine YU HC λw5⟨v5,a5,bc⟩=>?_;have bi:=Y<|C.trans a5;have bq:=Y bc;clear a5 bc;go_wp2;exact⟨⟨q+1,O,gM,v5,bi,Y<|by rw[al.o];exact bq⟩,SA⟩
   have cq:q=J a:=O;have az:Q ((a.map Int.toNat).take q=a.map Int.toNat):=Y (aW<|by simp;omega);rw[az.o]at p N_;generalize (a.map Int.toNat).foldl (λs t=>C9 (X8 x) c t s) (YH W b,L)=sq at*;let⟨Wq,Lq⟩:=sq;dsimp only at*;have c2:=p.3;have zz:=p.4 2;have cn:J Lq<=1000:=oN N_.o;have cs:=p.sz;go_wp2_with (at_builtin;refine YC RH p.6 ?_)
   intro v8 w8 Y_ a6 b7 a4;let⟨a8,a9,co,cp⟩:=p.push a6 Y_ a4;obtain⟨g8,k8,rfl,-,-⟩:=Xm Y_ O;have bn:=Y a8;have bo:=Y a9;clear a8 a9 Y_ a6 b7 a4;go_wp2
   go_end0
   exact⟨R,_,(af.trans C).trans bo,by rw[K_.o];exact bn⟩
inductive OR (tg:N->List N) (z:I):N->Prop
 |root:z≠0->OR tg z 0
 |step {b t:N}:OR tg z b->t∈tg b->(t:I)≠z->OR tg z t
theorem Fc{tg:Yr}:OR tg n m↔Av tg n m:=by
 constructor
 .intro h
  induction h with
  |root h=>exact Av.root λe=>h O
  |step _ b a c=>exact Av.step c b λe=>a O
 intro h
 induction h with
 |root h=>exact OR.root λe=>h O
 |step _ b a c=>exact OR.step c b λe=>a O
theorem rf{tg:Yr}(c:t<0):OR tg t n↔Re tg n:=by
 constructor
 .intro h
  induction h with
  |root _=>exact Re.root
  |step _ a _ b=>exact Re.step b a
 intro h
 induction h with
 |root=>exact OR.root O
 |step _ a b=>exact OR.step b a O
structure PU(tg:Yr)(n:N)(z:I)(F:Wa)(i:N):Prop where
 nd:F.Nodup
 av:∀x∈F,OR tg z x
 lt:∀x∈F,x<n
 root:z≠0->0∈F
 nil:z=0->F=[]
 cl:∀k (h:k<J F),k<i->∀t∈tg F[k],(t:I)≠z->t=0\/t∈F
theorem YS(h:s.Nodup)(a:∀x∈s,x<n):J s<=n:=by have:=kV h (l₂:=Rg n) λx b=>bE.2<|a x b;simpa using this
theorem Ek{tg}(h:PU tg n t s m)(q:J s<=m)(x):x∈s↔OR tg t x:=by
 refine⟨h.2 x,λi=>?_⟩
 induction i with
 |root b=>exact h.4 b
 |@step o l p g f j=>
  let⟨k,a,e⟩:=bR j;obtain c|d:=h.6 k a O l (by rw[e];exact g) f
  .rw[c];refine h.4 λb=>?_;rw[h.5 b]at a;exact Sz a sP
  exact d
structure O5(tg:Yr)(n:N)(z:I)(F F':Wa)(i q:N)(ts:Wc):Prop where
 pre:∃E_,F'=F++E_
 nd:F'.Nodup
 av:∀x∈F',OR tg z x
 lt:∀x∈F',x<n
 now:∀k (h:k<J ts),k<q->ts[k]≠z->ts[k]=0\/ts[k].toNat∈F'
theorem CQ{tg}(h:PU tg n t s m):O5 tg n t s s m 0 l:=⟨⟨[],sP⟩,h.1,h.2,h.3,λk _ a=>Sz a O⟩
theorem Da{tg}(h:O5 tg n t s S_ m k l)(hq:k<J l)(f:l[k]=t\/l[k]=0\/l[k].toNat∈S_):O5 tg n t s S_ m (k+1) l:=⟨h.1,h.2,h.3,h.4,λc d g b=>by
 by_cases e:c=k
 .subst e;obtain a|a|a:=f;·exact Sz a b
  .exact bC a
  exact aZ a
 exact h.5 c d O b⟩
theorem Du{tg}(h:O5 tg n t s S_ m k l)(hq:k<J l)(j:l[k]=B)(u:B<n)(q:(B:I)≠t)(g:B∉S_)(d:m<J s)(o:B∈tg s[m]):O5 tg n t s (S_++[B]) m (k+1) l:=by
 let⟨v,e⟩:=h.1;refine⟨⟨v++[B],by rw[e,cK]⟩,?_,λx b=>?_,λx b=>?_,λc f r i=>?_⟩
 .rw[gW]
  exact⟨h.2,sP,λx b y p e2=>g (by
   have:y=B:=by simpa using p
   rw[<-this,<-e2];exact b)⟩
 .rcases bU.1 b with a|a;·exact h.3 x a
  have:x=B:=by simpa using a
  rw[this];exact OR.step (h.3 s[m] (by rw[e];exact dD _<|aH d)) o q
 .rcases bU.1 b with a|a;·exact h.4 x a
  have:x=B:=by simpa using a
  omega
 by_cases e2:c=k
 .subst e2;exact aZ<|by rw[j];simp
 obtain a|a:=h.5 c f O i;·exact bC a
 exact aZ<|dD _ a
theorem CV{tg}(h:O5 tg n t s S_ m k l)(j:PU tg n t s m)(K:t≠0)(C:m<J s)(hq:J l<=k)(y:tg s[m]=l.map Int.toNat)(u:∀d∈l,0<=d):PU tg n t S_ (m+1):=by
 let⟨L,g⟩:=h.1;have o:∀x∈s,x∈S_:=λx z=>by rw[g];exact dD _ z
 refine⟨h.2,h.3,h.4,λf=>o 0<|j.4 f,λf=>Sz f K,λb w M d c p=>?_⟩;have e:b<J s:=O;have r:S_[b]=s[b]:=by
  have i:S_[b]?=(s++L)[b]?:=by rw[g]
  rw[aC w,dL e,aC e]at i;injection i
 rw[r]at c;by_cases e2:b=m
 .subst e2;rw[y]at c;obtain⟨P,q,rfl⟩:=aY.1 c;obtain⟨B,v,rfl⟩:=bR q;have F:=u _ q;obtain a|a:=h.5 B v O (λe3=>p O);·exact bC<|by rw[a];rfl
  exact aZ a
 obtain a|a:=j.6 b e O d c p;·exact bC a
 exact aZ<|o d a
theorem Ck(w:Ub)(c:0<n):(D w<|Sc ((madeCells #[Sb Sn] n).setIfInBounds 0 (Sb So)) 4).rowIs (Z w.1) 4 n (λx=>Sb (Jd (x=0\/x∈[0]))):=by
 have h:=eK w ((madeCells #[Sb Sn] n).setIfInBounds 0 (Sb So)) 4 (λx=>Sb (Jd (x=0\/x∈[0]))) (λi a=>by
  rw[jS,nA]at a;rw[Array.getElem?_setIfInBounds];by_cases e:0=i;·subst e;simp[c,nA]
  have b:¬i=0:=λh=>e h.symm
  have e1:=Nat.mod_one i;simp[e,b,madeCells,a,e1])
 rw[jS,nA]at h;exact h
theorem qt(vl:I)(c:N)(z:I)(ha:Q (Xp w m k p x))(Z_:Q (n=J x))(hn:n<=1000)(bp:0<n)(hB:k<=Z w.1)(hT:Q (∀b∈x,∀t∈b.3.tg,0<=t/\t<n)):
 Sk prog 44 #[Sa #[H vl,X p n c],H z] w λe s=>∃v F,e=Rt v/\Sw (Z w.1) w s/\Sx s (Z w.1) 2 1 v (J F) (Je F)/\F.Nodup/\∀b,b∈F↔OR (X8 x) z b:=by
 have dw:=fM (P:=prog) 159 4 (Sb Sn) 1 underlying159 Q7 R S6 S6 n O O;have ab:=λco=>(dG co (Sb Sn) n 4).cell bp;by_cases W:z=0
 .subst W;have ar:=λo1 o2=>ab<|D (D w o1) o2;simp only[aO]at ar;clear ab
  go_in
  go_wp2
  go_loopw [5,7] (λv u wr=>v=Hl (Z w.1+1) 0 0/\u=H 0/\Q (Sw (Z w.1) w wr)/\Q (Z w.1+1<Z wr.1)/\Q (Sx wr (Z w.1) 2 1 (Hl (Z w.1+1) 0 0) 0 [])) λ_ _ _=>0
  .exact⟨R,R,Y<|Xb (Xb (Xb Rf _) _) _,Y sP,Y (World.ownsRow.alloc (by have h:=eI (base:=Z w.1) (e:=2) (size:=1) (D w<|Sc #[H vl,X p n c] 25) #[] 0 sP sP R;rw[aO]at h;exact h) _)⟩
  obtain⟨rfl,rfl,R_,HZ,y⟩:=hrel;go_wp2;go_ret
  refine⟨_,[],R,R_,y,iU,λb=>⟨λh=>(by cases h),λh=>?_⟩⟩;exfalso;have:∀{c},OR (X8 x) 0 c->False:=λhc=>by
   induction hc with
   |root h=>exact h R
   |step _ _ _ ih=>exact ih
  exact this h
 have eb:(z==0)=Sn:=by simpa using W
 go_in
 go_wp2_with (at_builtin;refine YC RH (K5 w _) ?_)
 intro v1 l a0 ac cz cq;have bi:Cl l (Z w.1) 1 (X p n c):=G (Xc<|ac.5 (Z w.1) SB (by simp[Value.ownBlock])) SC;have a1:=Y ((Xb (Xb (Xb Rf _) _) _).grown ac SB λa e=>by simp[Value.ownBlock]at e;omega);have af:Q (Z w.1+2<Z l.1):=Y (by have:=ac.4;simp only[aO]at this;omega);obtain⟨g1,k1,rfl,bl,du⟩:=Xm a0 O;have a7:Q (Sx l (Z w.1+1) 2 1 (Hl g1 (0+1) k1) (J [0]) (Je [0])):=Y a0;have cs:=bl.2;clear a0 ac cz cq bl;have ar:=ab l;clear ab;go_wp2_with fail
 have ci:=Y<|Ck l bp;have ce:=Y<|a7.alloc (Sc ((madeCells #[Sb Sn] n).setIfInBounds 0 (Sb So)) 4);have b4:Q (Sw (Z w.1) w<|D l (Sc ((madeCells #[Sb Sn] n).setIfInBounds 0 (Sb So)) 4)):=Y<|Xb a1 _;have b7:Q (E (D l<|Sc ((madeCells #[Sb Sn] n).setIfInBounds 0 (Sb So)) 4) (A (Z w.1) 1)=S (X p n c)):=Y (G (bP _ _ _ (by have:=af.o;show Z w.1<_;omega)) bi);have b8:Q (g1≠Z l.1):=Y O;have ca:Q (Z w.1+1<Z l.1):=Y<|oN af.o;clear ar bi cs;generalize D l _=w2 at*;generalize Z l.1=g at*
 go_loopw [5,7] (λv u wr=>∃(F:Wa)(i:N),u=H i/\i<=J F/\Q (PU (X8 x) n z F i)/\Q (Sw (Z w.1) w wr)/\Q (E wr (A (Z w.1) 1)=S (X p n c))/\Q (wr.rowIs g 4 n λb=>Sb (Jd (b=0\/b∈F)))/\Q (v.ownBlock≠S g)/\Q (Sx wr (Z w.1+1) 2 1 v (J F) (Je F))) λ_ u _=>n+1-(JB u).toNat
 .exact⟨[0],0,R,aN,Y ⟨sP,λb Z_=>by
  have:b=0:=by simpa using Z_
  subst this;exact OR.root W,λb Z_=>by
  have:b=0:=by simpa using Z_
  omega,λ_=>sP,λh=>Sz h W,λa _ hk=>Sz hk O⟩,b4,b7,ci,Y (by simp[Value.ownBlock];exact b8),ce⟩
 obtain⟨F,i,rfl,hi,K,R_,HC,HS,HN,y⟩:=hrel;have dj:=YS K.1 K.3;by_cases ad:i<J F;rotate_left
 .have cv:i=J F:=O;subst cv;have cp:=eJ<|K.4 W;obtain⟨gv,kv,rfl,ct,cx⟩:=Xm y cp;go_wp2;go_ret;exact⟨_,F,R,R_,Zk y O,K.1,Ek K<|aA⟩
 obtain⟨gv,kv,rfl,ct,cx⟩:=Xm y O;have di:=K.3 F[i] (aH ad);have ao:F[i]<J x:=oN Z_.o;have ef:=Jj y (j:=i) (u:=H (F[i]:I)) (by simp[Je,ad]);have df:=hB;obtain⟨C,P_,rfl,dl,pa,pc,ia,ic,-,-,⟨t0,t1,t2,t3⟩,-,-⟩:=(ha.keep<|R_.mono hB) F[i] ao;have bf:=HC.o;have bd:=Y<|hT.o _ (aH ao);have bc:=Y<|Km ao;have bx:=y.lt gv R;generalize bh:F[i]=T at*;have a4:=Y bh;clear bh;generalize x[T].3=L at*;have V:Q (Z w.1+1<=Z wr.1/\g<Z wr.1):=Y ⟨O,HS.lt⟩;go_wp2_with fail
 refine Y7 (λs=>E s (A (Z w.1) 1)=S (Hm C P_ n c)/\E s (A gv i)=S (H T)/\E s (A C<|P_+T*6+2)=S (H L.1)/\E s (A C<|P_+T*6+2+1)=S (H L.a)/\E s (A C<|P_+T*6+2+2)=S (H L.3)/\E s (A C<|P_+T*6+2+3)=S (H L.4)) λig=>?_;refine Xn 0 ?_;(iterate 8 refine Rm ?_);refine Xs 9 λdb hK=>?_;go_simp
 go_at_call 89
 refine(ZO L _).mono ?_;rintro e M⟨be,dc,rfl,M_,bn⟩;have o:Sw (Z wr.1) wr M:=⟨M_.1,M_.2,M_.3,M_.4,M_.5⟩;have aq:C<Z wr.1:=oN V.o;have kc:=λq=>o.cell (p:=A C q) aq;refine hK _ _ ⟨oB o bf (by have:=V.o;show Z w.1<_;omega),oB o ef bx.2,G (kc _) t0,G (kc _) t1,G (kc _) t2,G (kc _) t3⟩ λig=>?_;clear hK kc aq
 refine Xn 10 ?_;refine Yq ?_;have bo:Xf M (Z wr.1) (Z M.1) be L.tg:=bn;have a2:=Y<|Xg R_ o;have a3:=Y (oB o HC (by have:=V.o;show Z w.1<_;omega));have a9:=Y<|HS.of_block (o.5 g V.2);have a8:=Y<|pj y (o.5 gv bx.2);have a6:=Y bo;have cm:=Y o.4;clear M_ bn o bo t0 t1 t2 t3 ef bf ig;generalize bv:L.tg=j at*;have dz:J j<=2:=by rw[<-bv];exact KJ L
 clear bv;go_wp2_with fail
 generalize wr=wo at*
 go_loopw [5,9] (λv u Q_=>∃(f:Wa)(q:N),u=H q/\q<=J j/\Q (O5 (X8 x) n z F f i q j)/\Q (Sw (Z w.1) w Q_)/\Q (E Q_ (A (Z w.1) 1)=S (Hm C P_ n c))/\Q (Q_.rowIs g 4 n λb=>Sb (Jd (b=0\/b∈f)))/\Q (v.ownBlock≠S g)/\Q (Xf Q_ (Z wo.1) (Z M.1) be j)/\Q (∀a,v.ownBlock=S a->a<Z wo.1\/Z M.1<=a)/\Q (Z M.1<=Z Q_.1)/\Q (Sx Q_ (Z w.1+1) 2 1 v (J f) (Je f))) λ_ u _=>J j-(JB u).toNat
 .exact⟨F,0,R,aN,Y<|CQ K,a2,a3,a9,HN,a6,Y (λa e=>by simp only[Value.ownBlock,Option.some.injEq]at e;exact bC O),Y<|aA,a8⟩
 obtain⟨f,q,rfl,hq,J_,S_,T_,B,K_,U_,aa,aj,L_⟩:=hrel;have dk:=YS J_.2 J_.4;by_cases X_:q<J j;rotate_left
 .have cg:=Y (CV J_ K W ad O (by rw[a4.o];exact bc) λt ht=>(bd t ht).1);have cw:i+1<=J f:=by let⟨da,e⟩:=J_.1;rw[e,aQ];omega
  go_wp2;exact⟨⟨f,i+1,gM,cw,cg,S_,T_,B,K_,L_⟩,SA⟩
 obtain⟨bt,ot,rfl,dn,et⟩:=U_ q X_;have c8:=bd j[q] (aH X_);have ba:=Y<|Da J_ X_;have cl:Q (∀t:N,j[q]=(t:I)->t∈X8 x T):=Y (λt e=>by rw[bc.o];exact aY.2 ⟨j[q],aH X_,by rw[e];rfl⟩);have ck:Q (∀t:N,j[q]=(t:I)->t<n->(t:I)≠z->t∉f->t∈X8 x F[i]->O5 (X8 x) n z F (f++[t]) i (q+1) j):=Y λt e1 e2 e3 e4 e5=>Du J_ X_ e1 e2 e3 e4 ad e5;generalize j[q]=tq at*;obtain⟨d,rfl⟩:=Zv c8.1;have br:d<n:=O;have al:=B.cell br;have dd:=B.frozen;by_cases r:(d:I)=z
 .have hb:((d:I)==z)=So:=by simpa using r
  have cr:((d:I) != z)=Sn:=by simp[r]
  have V_:=Y<|ba.o (bC r);clear r al;go_wp2;exact⟨⟨f,q+1,gM,O,V_,S_,T_,B,K_,U_,aa,aj,L_⟩,SA⟩
 have hb:((d:I)==z)=Sn:=by simpa using r
 have cr:((d:I) != z)=So:=by simp[r]
 by_cases N_:d=0\/d∈f
 .rw[eB N_]at al;have V_:=Y (ba.o<|aZ (by obtain h|h:=N_;exact bC O;exact aZ<|by simpa using h));clear N_ r;go_wp2;exact⟨⟨f,q+1,gM,O,V_,S_,T_,B,K_,U_,aa,aj,L_⟩,SA⟩
 rw[dJ N_]at al
 have V_:=Y (ck.o d R br r (λh=>N_<|aZ h) (by rw[a4.o];exact cl d R));have cj:Q (∀b,b<n->(if b=d then So else Jd (b=0\/b∈f))=Jd (b=0\/b∈f++[d])):=Y (λb _=>by
  by_cases e:b=d;·subst e;simp
  simp[e])
 clear N_ r;have ea:=aj.o;have c9:bt≠g:=oN V.2;have ec:g≠bt:=λe=>c9 e.symm;have aq:bt<Z wr.1:=O;have a5:=Y B.lt;have d0:Z w.1+1<=Z wr.1:=oP V.o cm.o;go_wp2_with (at_builtin;refine YC RH (fS L_ (a:=(A g d)) K_ (Sb So)) ?_)
 intro v8 w8 bq W_ c6 ap;have c7:=W_.4;rw[aO,Xd]at c7;have blk:∀a,a<Z wr.1->a≠g->(∀P,u5.ownBlock=S P->a≠P)->w8.1[a]?=wr.1[a]?:=λa h1 h2 h3=>by refine G (W_.5 a (by rw[aO,Xd];omega) λe=>h3 a e.symm R) ?_;rw[gF _ _ _<|by rw[Xd];exact h1];exact cY h2
 have az:=λP e=>(L_.lt P e).1
 have ds:=ca.o;have b5:=Y (((vT (S_.setCell (by show Z w.1<=g;omega) _) SF _).grown W_ (by rw[aO,Xd];omega) λa e=>by have:=az a e;omega));have b6:=Y (G (Xc (blk (Z w.1) O O λP e=>by have:=az P e;omega)) T_);have ch:=Y (UC (C:=Sb) (((TS (C:=Sb) B d So).alloc _).of_block (W_.5 g (by rw[aO,Xd];have:=a5.o;omega) λe=>K_ e.symm)) cj);have cd:Q (v8.ownBlock≠S g):=Y (λe=>by
  obtain h|h:=ap;·exact K_<|G h.symm e
  rw[e]at h;injection h with h;have:=a5.o;omega)
 have cb:=Y (U_.keepS λa h1 h2=>blk a O (oN V.2) λP e=>by obtain h|h:=aa.o P e<;>omega);have cc:Q (∀a,v8.ownBlock=S a->a<Z wo.1\/Z M.1<=a):=Y (λa e=>by
  obtain h|h:=ap;·exact aa a<|G h.symm e
  rw[e]at h;injection h with h;exact aZ O)
 have cn:Q (Z M.1<=Z w8.1):=Y O;have cf:Q (Sx w8 (Z w.1+1) 2 1 v8 (J (f++[d])) (Je<|f++[d])):=Y (by rw[VP,aQ];exact bq);clear bq W_ c6 ap blk az L_ B T_ S_ U_;go_wp2;exact⟨⟨f++[d],q+1,gM,O,V_,b5,b6,ch,cd,cb,cc,cn,cf⟩,SA⟩
structure cy(t:N)(w:Ub)(G_ n K:N)(gs cp:Wk)(Ws:Vp):Prop where
 row:w.rowIs G_ t n λi=>X (S ⟨gs i,0,U⟩) K (cp i)
 set:∀i,i<n->Cp w (gs i) K (cp i) (Ws i)
 inj:∀i j,i<n->j<n->gs i=gs j->i=j
 o:∀i,i<n->gs i≠G_
abbrev XK:=cy 86
theorem Q9:(prog.info? 86).map (λi=>(i.8,i.3,i.4))=S (S<|Sa #[Hq],1,24):=vZ
theorem J9{P:Yh}(t e:TypeId)(z:Uj)(a bytes)(g:P.underlying t=S (.slice e))(d:(P.info? e).map (λi=>(i.8,i.3,i.4))=S (S z,a,bytes))(n)(l:bytes*n<=281474976710656)(k:n<=9223372036854775807)(w:Ub):
 (Instr.makeSlice t (Si S6 (n:I)) (Si S6 (n:I))).run P w=.ok (X (S ⟨Z w.1,0,U⟩) n n) (D w<|Sc (madeCells z.cells<|n*a) e):=by
 let⟨i,c,hq⟩:=Option.map_eq_some_iff.1 d;simp only[jC]at hq;let⟨j,f,b⟩:=hq;have h:=run_make (P:=P) w t e i z g c j S6 S6 n n O (zP _) (by rw[b,<-Int.natCast_mul];omega) O;simp only[dM,f]at h;exact h
structure o7(t:N)(w wr:Ub)(G_ n K q:N)(gs:Wk):Prop where
 low:Sw (Z w.1) w wr
 base:Z w.1<=G_
 row:wr.rowIs G_ t n λi=>if i<q then X (S ⟨gs i,0,U⟩) K K else X U 0 0
 set:∀i,i<q->wr.rowIs (gs i) 173 K λ_=>Si .u64 ((0:N):I)
 inj:∀i j,i<q->j<q->gs i=gs j->i=j
 up:∀i,i<q->G_<gs i
theorem o7.next{wr}(h:o7 n w wr m k B g f)(hq:g<k)(c:Sw (Z wr.1) wr v)(q:Z wr.1<=i)(p:v.rowIs i 173 B λ_=>Si .u64 ((0:N):I)):
 o7 n w (Se v ⟨m,g,U⟩ (X (S ⟨i,0,U⟩) B B)) m k B (g+1) (λa=>if a=g then i else f a)/\E v ⟨m,g,U⟩=S (X U 0 0)/\v.frozen? ⟨m,g,U⟩=Sn:=by
 have o:=h.3.lt;have l:=h.3.of_block<|c.5 m o;have d:=λa b=>(h.4 a b).lt;refine⟨⟨(h.1.trans<|c.mono h.1.4).setCell h.2 _,h.2,(l.set g _).congr λa _=>?_,λa b=>?_,λa j b r e=>?_,λa b=>?_⟩,G (l.cell hq) sP,l.frozen g⟩
 .by_cases e:a=g;·subst e;simp
  rw[aM e];by_cases e2:a<g;·rw[aU e2,aU O];simp[e]
  rw[aM e2,aM O]
 .by_cases e:a=g;·rw[aU e];exact p.setOther (by show i≠m;omega) _
  rw[aM e];have:=h.6 a O;exact((h.4 a O).of_block (c.5 _<|d a O)).setOther (by show f a≠m;omega) _
 .by_cases e1:a=g
  .by_cases e2:j=g;·rw[e1,e2]
   rw[aU e1,aM e2]at e;have:=d j O;omega
  by_cases e2:j=g
  .rw[aM e1,aU e2]at e;have:=d a O;omega
  rw[aM e1,aM e2]at e;exact h.5 a j O O e
 by_cases e:a=g
 .show m<if a=g then i else f a
  rw[aU e];omega
 show m<if a=g then i else f a
 rw[aM e];exact h.6 a O
theorem Ti(n d:N)(w:Ub)(F:n<=1000)(C:d<=60000):
 Sk prog 103 #[H n,H d] w λg r=>∃e c,g=Rt (Hl e n n)/\Z w.1<=e/\Sw (Z w.1) w r/\cy 86 r e n ((d+63)/64) c (λ_=>(d+63)/64) (λ_ _=>0)/\(∀i,i<n->Z w.1<=c i):=by
 have o:=J9 (P:=prog) 120 86 (Sa #[Hq]) 1 24 underlying120 Q9 n O O;have s:=Y<|dG w Hq n 86;have v:=Y (λW=>Ps 109 sP d W C);generalize (d+63)/64=K at*
 go_in
 go_wp2
 go_loopw [11] (λu wr=>∃q:N,q<=n/\u=H q/\∃c,Q<|o7 _ w wr (Z w.1) n K q c) λu _=>n-(JB u).toNat
 .exact⟨0,aN,R,λ_=>0,Y ⟨Xb Rf _,aA,by simpa [Value.cells]using s.o,λi a=>Sz a O,λi j a=>Sz a O,λi a=>Sz a O⟩⟩
 case round=>
  obtain⟨q,hq,rfl,c,b⟩:=hrel;by_cases h:q<n
  .go_wp2_with fail
   refine(v wr).mono ?_;rintro g t⟨L,rfl,z,m,p⟩;have y:=b.next h m z p;let⟨l,M,P⟩:=y;have x:=Y l;go_wp2;exact⟨⟨q+1,O,gM,_,x⟩,SA⟩
  have B:q=n:=O;subst B;go_wp2;go_ret
  refine⟨_,c,R,aA,b.1,⟨b.3.congr λi a=>by rw[aU a],λi a=>Cp.of_row<|b.4 i a,b.5,λi a g=>by have:=b.6 i a;omega⟩,λi a=>by have:=b.6 i a;omega⟩
structure U8(w w':Ub)(n:N)(gs:Wk):Prop where
 os:w'.4=w.4
 tape:w'.2=w.2
 output:w'.5=w.5
 size:Z w.1<=Z w'.1
 block:∀k,k<Z w.1->(∀i,i<n->k≠gs i)->w'.1[k]?=w.1[k]?
theorem U8.refl(w n a):U8 w w n a:=⟨R,R,R,aA,λ_ _ _=>R⟩
theorem U8.below(h:U8 w v n f)(k:Sw (Z v.1) v u):U8 w u n f:=⟨G k.1 h.1,G k.2 h.2,G k.3 h.3,aJ h.4 k.4,λj a b=>G (k.5 j<|aX a h.4) (h.5 j a b)⟩
theorem U8.grown(h:U8 w v n f)(k:v.grownBy u (S<|f m))(c:m<n):U8 w u n f:=⟨G k.1 h.1,G k.2 h.2,G k.3 h.3,aJ h.4 k.4,λj a b=>G (k.5 j (aX a h.4) λe=>b m c<|by injection e) (h.5 j a b)⟩
def Xi(l:Wa):Wc:=l.map Int.ofNat
def Yv(w:Ub)(P:Vv)(c:Uy)(a:Wc):Prop :=
 ∀i (h:i<J a),∃b o,c=S ⟨b,o,U⟩/\(P b/\b<Z w.1)/\E w ⟨b,o+i,U⟩=S (Si S6 a[i])
def TA(w:Ub)(P:Vv)(d:Uy)(a:Tm):Prop :=
 ∀i (h:i<J a),∃b o,d=S ⟨b,o,U⟩/\(P b/\b<Z w.1)/\∃c e,E w ⟨b,o+i,U⟩=S (X c (J a[i]) e)/\Yv w P c a[i]
theorem cy.keep{w':Ub}(h:cy n w m k B f F M)(b:Sw (Z w.1) w w'):cy n w' m k B f F M :=
 ⟨h.1.of_block<|b.5 _ h.1.lt,λi a=>(h.2 i a).of_block (b.5 _ (h.2 i a).lt),h.3,h.o⟩
theorem cy.wrote{b}(h:cy n w m k B f F M)(c:g<k)(d:w.grownBy v (S<|f g))(j:Cp v (f g) B (F g) b):cy n v m k B f F (λi=>if i=g then b else M i):=by
 refine⟨h.1.of_block (d.5 _ h.1.lt λe=>h.o g c<|by injection e with e;exact e.symm),λi a=>?_,h.3,h.o⟩;by_cases e:i=g
 .subst e;simpa using j
 simp only[aM e];exact(h.2 i a).of_block (d.5 _ (h.2 i a).lt λe2=>e<|by injection e2 with e2;exact h.3 i g a c e2)
theorem cy.apart{b}(h:cy n w m k B F b M)(c:U8 w v k f)(d:∀i,i<k->m≠f i)(e:∀i j,i<k->j<k->F i≠f j):cy n v m k B F b M :=
 ⟨h.1.of_block<|c.5 _ h.1.lt d,λi a=>(h.2 i a).of_block (c.5 _ (h.2 i a).lt λj g=>e i j a g),h.3,h.o⟩
theorem P4(az fa t:N)(hf:(az=108/\fa=110)\/az=108/\fa=110)(Z_ o0 o c0 d L1 B1 sa ns cs)(a:List Wa)(L J_ n K c aa s ar P T w)(cb:Q (Xf w L1 B1 (S ⟨Z_,o0,U⟩) (Xi d)))(h0:Q (o=J d))(b7:o<=1000)(e7:0<o)(ep:Q (TA w (λl=>∀i,i<n->l≠c i) sa (a.map Xi)))(hs:Q (ns=J a))(ej:Q (J a=n))(hK:K<=100)(bn:B1<=Z w.1)(HI:Q (cy t w L n K c s P))(HT:Q (cy t w J_ n K aa ar T))(eq:Q (XQ P))(V_:Q (XQ T))(d3:Q (∀i,i<n->J_≠c i))(d4:Q (∀i ci,i<n->ci<n->aa i≠c ci))(ho:Q (∀b∈d,b<n))(eo:Q (∀cj∈a,J cj<=2000/\∀t∈cj,t<n)):
 Sk prog az #[Hm Z_ o0 o c0,X sa ns cs,Hl L n n,Hl J_ n n] w λe M=>e=Rt (St #[])/\U8 w M n c/\∃Ws,XQ Ws/\cy t M L n K c s Ws/\∀b,b<n->∀x,x<64*K->(Xh (Ws b) x=So↔Sp P T (·∈d) (λb=>a.getD b []) b x):=by
 have cq:=Y (P8 fa (by obtain h|h:=hf<;>simp[h.2]));obtain⟨rfl,rfl⟩|⟨rfl,rfl⟩:=hf
 go_in
 rotate_left
 go_in
 rotate_left
 all_goals (
  go_wp2_with fail
  go_step3
  go_wp2_with fail
  refine(Aq cb (Y (by have:=h0.o;simp[Xi];omega)) O bn).mono ?_;rintro e w1⟨v1,rfl,bq,ei,a2⟩;obtain⟨P_,k1,rfl,b1,e0⟩:=Xm a2 (by have:=h0.o;simp[Xi];omega);have ad:=Y bq;have al:=Y a2;have Q_:J (Xi d)=o:=by have:=h0.o;simp[Xi];omega
  rw[Q_]at al;clear bq a2 ei;go_wp2_with fail
  have ez:P_<Z w1.1:=b1.2;have ey:Z w.1<=P_:=b1.1;refine YU (TM O (Y Q_.symm) al) λB⟨b3,ca⟩=>?_;have a8:Q (Sw (Z w.1) w B):=Y (ad.grown b3 ad.4 λl e=>by cases e;omega);have bd:=Y ca;clear b3 ca;go_wp2_with fail
  have eb:(λx9:Ub=>Q (Sw (Z B.1) B x9)/\E x9 (A (Z B.1) 0)=S (Hm Z_ o0 o c0)/\E x9 (A (Z B.1) 1)=S (Hl P_ o k1)) (D B<|Sc #[Hm Z_ o0 o c0,Hl P_ o k1] 26):=⟨Y<|Xb Rf _,sP,sP⟩;generalize D B _=wa at*;let⟨Y_,ac,cc⟩:=eb;have X_:Q (Sw (Z w.1) w wa):=Y<|Xg a8 Y_;have V:J (Xi d).reverse=o:=by rw[jQ];exact Q_
  have bb:Q (Xf wa (Z w.1) (Z B.1) (S ⟨P_,0,U⟩) (Xi d).reverse):=Y (by have h:=bd.o;rw[<-V]at h;let⟨a',c',e',eg⟩:=Xk h;injection e' with e1;subst e1;exact eg.keep Y_)
  refine(Wb (Y<|cb.keep (X_.mono bn)) bb (Y Q_.symm) (Y V.symm) b7 b7 O (oN X_.4) Y_.4 ac cc).mono ?_;rintro e N_⟨v3,rfl,a1,a4⟩;have g:Q (Sw (Z w.1) w N_):=Y<|Xg X_ a1;have eR:Xi d++(Xi d).reverse=Xi (d++d.reverse):=by simp[Xi]
  rw[eR]at a4;have ec:J (d++d.reverse)=2*o:=by have:=h0.o;simp;omega
  have a0:Q (∀b,b∈d++d.reverse↔b∈d):=Y λb=>sP;generalize d++d.reverse=C at*;have b8:J (Xi C)=J C:=by simp[Xi]
  let⟨a3,c3,e3,b4⟩:=Xk a4;rw[b8]at e3;subst e3;have c6:=Y b4;have dw:Q (Z wa.1<=Z N_.1/\Z w.1<=Z wa.1):=Y ⟨a1.4,X_.4⟩;clear a1 a4 eR ac cc Y_ b4;have di:=Y<|HI.keep (g);have dn:=Y<|HT.keep (g);have bo:0<J C:=O;have eu:J C<=2000:=O;clear ec Q_ V b8;have cw:Q (∀i,i<n->c i<Z w.1):=Y λi E_=>(HI.2 i E_).lt;go_wp2_with fail
  go_step3
  go_wp2
  go_loopg [10] (JI P K n) λl qv wr=>∃(q:N)(W:Vp),qv=H q/\q<J C/\Q (U8 N_ wr n c)/\Q (cy t wr L n K c s W)/\Q (XQ W)/\Q (JI W K n<=l)/\Q (∀b x,Xh (P b) x=So->Xh (W b) x=So)/\Q (∀b x,Xh (W b) x=So->Sp P T (·∈d) (λb=>a.getD b []) b x)/\Q (Ov T K (λb=>a.getD b []) W C q 0)
  .exact⟨0,P,R,bo,Y<|U8.refl _ _ _,di,eq,Y<|aA,Y λ_ _ h=>h,Y λ_ _ h=>Sp.init h,Y Vz⟩
  case round=>
   obtain⟨q0,W0,rfl,ac,cn,df,du,c8,cz,dl,ck⟩:=hrel;go_wp2_with fail
   generalize wr=wo at*
   go_loopw [10,26] (λqv H_ wr=>∃(q p:N)(W:Vp),qv=H q/\q<J C/\H_=H p/\p<=J C/\Q (U8 N_ wr n c)/\Q (cy t wr L n K c s W)/\Q (XQ W)/\Q (JI W K n<gk\/(JI W K n<=gk/\q=q0+p))/\Q (∀b x,Xh (P b) x=So->Xh (W b) x=So)/\Q (∀b x,Xh (W b) x=So->Sp P T (·∈d) (λb=>a.getD b []) b x)/\Q (Ov T K (λb=>a.getD b []) W C q p)) λ_ H_ _=>J C-(JB H_).toNat
   .exact⟨q0,0,W0,R,ac,R,aN,cn,df,du,Y<|aZ ⟨c8,O⟩,cz,dl,ck⟩
   case round=>
    obtain⟨q,p,W,rfl,hq,rfl,hp,y,HS,C_,HM,bc,bf,HC⟩:=hrel;by_cases S_:p<J C
    .obtain⟨br,e8,rfl,ef,bm⟩:=c6 p (by simpa [Xi]using S_);have ct:Q (U8 w wr n c):=Y ⟨G y.1 g.1,G y.2 g.2,G y.3 g.3,aJ g.4 y.4,λl u D_=>G (y.5 l (aX u g.4) D_) (g.5 l u)⟩;have er:=G (Xc (y.5 br ef.2 λi E_ e=>by have:=cw i E_;have:=dw.o;omega)) bm;have bp:(Xi C)[p]'(by simpa [Xi]using S_)=((C[p]:N):I):=by simp[Xi]
     rw[bp]at er;have m:C[p]<n:=ho _<|(a0 _).1 (aH S_);have ee:Q (C[p]∈d):=Y<|(a0 _).1 (aH S_);have ab:C[p]<J a:=oN ej.o;let⟨bs,os,en,bv,dz,et,es,b6⟩:=ep C[p] (by simpa using ab);subst en;have d0:=G (Xc<|ct.5 bs bv.2 bv.1) es;have cf:J ((a.map Xi)[C[p]]'(by simpa using ab))=J a[C[p]]:=by simp[Xi]
     rw[cf]at d0;have be:=Y<|eo.o a[C[p]] (aH ab);have e6:=be.1;have ba:Q (a.getD C[p] []=a[C[p]]):=Y (by simp[ab]);have cm:Q (∀W',(∀i x,x<64*K->Xh (W' i) x=Xh (W i) x)->PN T K (λb=>a.getD b []) W C[p]->Ov T K (λb=>a.getD b []) W' C (q+1) (p+1)):=Y λW' e hb=>Br HC e S_ hb;have ev:C[p]<ns:=oN hs.o;have c7:Q (Yv w (λl=>∀i,i<n->l≠c i) dz (Xi a[C[p]])):=Y (by simpa using b6);clear bm es b6 bp cf;generalize ed:C[p]=b at*;clear ed;generalize a[b]=f at*;go_wp2_with fail
     generalize wr=e9 at*
     go_loopw [13,35] (λgv H_ wq=>∃r:N,r<=J f/\H_=H r/\gv=Sb (E5 T K b (f.take r) (W,Sn)).2/\Q (U8 N_ wq n c)/\Q (cy t wq L n K c s (E5 T K b (f.take r) (W,Sn)).1)) λ_ H_ _=>J f-(JB H_).toNat
     .exact⟨0,aN,R,R,y,HS⟩
     obtain⟨r,hr,rfl,rfl,j,k⟩:=hrel;by_cases V:r<J f
     .have cv:Q (U8 w wr n c):=Y ⟨G j.1 g.1,G j.2 g.2,G j.3 g.3,aJ g.4 j.4,λl u D_=>G (j.5 l (aX u g.4) D_) (g.5 l u)⟩;obtain⟨b5,o5,rfl,bt,bl⟩:=c7 r (by simpa [Xi]using V);have e5:=G (Xc<|cv.5 b5 bt.2 bt.1) bl;have cg:(Xi f)[r]'(by simpa [Xi]using V)=((f[r]:N):I):=by simp[Xi]
      rw[cg]at e5;have a6:f[r]<n:=be.2 _<|aH V;have ap:=Y<|dn.apart j d3 d4;have bh:=Y<|Ay (T:=T) (K:=K) (b:=b) V (W,Sn);have bi:=Y<|TG (T:=T) (K:=K) (b:=b) (f.take r) (W,Sn) C_;clear bl cg;generalize f[r]=v at*;generalize E5 T K b (f.take r) (W,Sn)=sq at*;let⟨O_,gq⟩:=sq;dsimp only at*;have k1:=k.1.cell m;have k2:=k.1.cell a6;have k3:=ap.1.cell m;have a7:=Y (cq.o (c b) (c v) (aa b) K (s b) (s v) (ar b) (O_ b) (O_ v) (T b) wr.drew (Y<|bi.o b) (Y<|bi.o v) (Y<|V_.o b) O (Y<|(k.2 b m).drew) (Y<|(k.2 v a6).drew) (Y<|(ap.2 b m).drew) (d4 b b m m) (Y λe=>by rw[k.3 v b a6 m e]));have dk:Q (cy t wr.drew L n K c s O_):=Y ⟨k.1,λi E_=>(k.2 i E_).drew,k.3,k.o.o⟩;have cr:Q (U8 N_ wr.drew n c):=Y ⟨j.1,j.2,j.3,j.4,j.5⟩;have aj:Q (L<Z wr.1/\J_<Z wr.1):=Y ⟨k.1.lt,ap.1.lt⟩;generalize Ix (O_ b) (O_ v) (T b) K=g5 at*;go_wp2_with fail
      refine Y7 (λM=>E M (A L b)=S (Hl (c b) K (s b))/\E M (A L v)=S (Hl (c v) K (s v))/\E M (A J_ b)=S (Hl (aa b) K (ar b))) λig=>?_;refine Xn 0 ?_;(iterate 11 refine Rm ?_);refine Xs 12 λK hK=>?_;go_simp
      first|go_at_call 110|go_at_call 110
      refine YU a7 λw5⟨L_,ce⟩=>?_;have dj:=Y<|dk.wrote m L_ ce;have co:=Y<|cr.grown L_ m;have j1:=G (Xc<|L_.5 L aj.1 λe=>k.o.o b m<|by injection e with e;exact e.symm) k1;have j2:=G (Xc<|L_.5 L aj.1 λe=>k.o.o b m<|by injection e with e;exact e.symm) k2;have j3:=G (Xc<|L_.5 J_ aj.2 λe=>d3 b m<|by injection e) k3;clear L_ ce;refine hK _ _ ⟨j1,j2,j3⟩ λig=>?_;clear hK;refine Xn 13 ?_;cases g5
      focus
       refine wpAnyH_take (i:=14) (v:=?_) R vZ vZ vZ (λ_ _ _ h=>h) (bC ⟨by rfl,?_⟩) (by assumption) ?_;rotate_left;intro w hSw;(try dsimp only at hSw);go_simp;try with_reducible rfl
      rotate_left
      focus
       refine wpAnyH_take (i:=14) (v:=Su) R vZ vZ vZ (λ_ _ _ h=>h) (aZ ⟨by rfl,R⟩) (by assumption) ?_
      all_goals (
       simp only[xX];refine Xn 15 ?_;refine Xn 16 ?_;refine Yq ?_;go_wp2
       exact⟨⟨r+1,O,gM,by rw[bh.o];rfl,Y co.o,Y<|by rw[bh.o];exact dj⟩,SA⟩)
     have em:r=J f:=O;have ds:Q (f.take r=f):=Y<|aW O;rw[ds.o]at k |-;clear em;have aq:=Y<|TG (T:=T) (K:=K) (b:=b) f (W,Sn) C_;have db:=Y<|JJ (T:=T) (K:=K) (b:=b) V_ f (W,Sn) C_;have ao:=Y (T9 (I_:=P) (T:=T) (K:=K) (b:=b) (ord:=(·∈d)) (src:=λb=>a.getD b []) V_ ee f (W,Sn) C_ (λt U_=>by show t∈a.getD b [];rw[ba.o];exact U_) bf);have dd:=Y<|T6 (T:=T) (K:=K) (b:=b) V_ f (W,Sn) C_;have cx:=Y<|UB (T:=T) (K:=K) (b:=b) V_ f (W,Sn) C_ R;have dc:=Y λi (E_:i≠b)=>TN (T:=T) (K:=K) E_ f (W,Sn);generalize E5 T K b f (W,Sn)=sq at*;let⟨z,ea⟩:=sq;dsimp only at*;have af:Q (∀b x,Xh (P b) x=So->Xh (z b) x=So):=Y λb x h=>db b x<|bc b x h;cases ea with
     |true=>
      have c9:=Y<|tx (K:=K) dc (cx R) n m;go_wp2;exact⟨⟨0,p+1,z,R,bo,gM,O,j,k,aq,Y (bC (by have:=c9.o;obtain h|h:=HM.o<;>omega)),af,ao,Y Vz⟩,SA⟩
     |false=>
      let⟨a5,bx⟩:=dd R;have a9:Q (Ov T K (λb=>a.getD b []) z C (q+1) (p+1)):=Y (cm.o z a5 (λt U_ x F=>by have ch:t∈a.getD b []:=U_;rw[ba.o]at ch;exact bx t ch x F));have da:Q (JI z K n=JI W K n):=Y (Vo n λi _=>Vl λx F=>a5 i x F);clear a5 bx;by_cases cd:q+1=J C
      .have el:(((q:I)+1)==(J C:I))=So:=SB
       have cl:Q (Ov T K (λb=>a.getD b []) z C (J C) (p+1)):=Y (by rw[<-cd];exact a9);clear cd;go_wp2
       go_end0
       refine⟨R,⟨G j.1 g.1,G j.2 g.2,G j.3 g.3,aJ g.4 j.4,λl u D_=>G (j.5 l (aX u g.4) D_) (g.5 l u)⟩,z,aq,k,λb _ x F=>?_⟩;exact We af ao (λb hb t U_ x F u D_=>B6 cl O ((a0 b).2 hb) t U_ x F u D_) F
      have el:(((q:I)+1)==(J C:I))=Sn:=SB
      go_wp2;exact⟨⟨q+1,p+1,z,gM,O,gM,O,j,k,aq,Y (by rw[da.o];obtain h|⟨h,h'⟩:=HM.o;exact bC h;exact aZ ⟨h,O⟩),af,ao,a9⟩,SA⟩
    have ek:p=J C:=O;subst ek;go_wp2_with fail
    go_roundg (JI W K n)
    case measure=>obtain h|⟨_,h⟩:=HM.o;exact h;omega
    case rel=>exact⟨q,W,R,hq,y,HS,C_,Y<|aA,bc,bf,Y<|Bj HC hq⟩)
abbrev Az:=@P4 108 110 86<|bC ⟨R,R⟩
end Go.Proofs.YtcncjgijikoapaaGreatDoor
