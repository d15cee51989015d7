import Derived.Lib.TrailingZeros
import Derived.Test.YthgmkangeikilaaGreatDoorDG5
import Derived.Shelf.Bytes.SlSplit
import Derived.Shelf.Bytes.SlSmallAll
import Derived.Lib.SmallJoins
namespace Go.Proofs.YthgmkangeikilaaGreatDoor
set_option maxHeartbeats 8000000
set_option maxRecDepth 1000000
open _root_ renaming List.length->J,Nat->N,Int->I,Array.size->Z,rfl->R,Option.some->S,Option.none->U,Bool.true->So,Bool.false->Sn,List.range->Rg,Decidable.decide->Jd,absurd->Sz,trivial->JV
open Value renaming slice->X,int->Si,agg->Sa,bool->Sb,pointer->Sj,tuple->St,string->Sg
open Go renaming IntKind.i64->S6,World.cell?->E,World.alloc->D,Obj.cells->Sc,Ending.returned->Rt,RowKit.Below->Sw,RowKit.intOf->JB,World.ownsRow->Sx,Calls->Sk,undef->Su,results->JC,World.setCell->Se
open Go.RowKit Go.Shelf Go.Proofs.Tryz
variable{r:Bool}{t T z:I}{n m k B g i j c:N}{w v u W V:Ub}{a A_:Uj}{p P:Uy}{M N_:Vp}{h:Vu}{d:Vv}{s:Wa}{l L:Wc}{x:Wi}{f F:Wk}{y:Wo}{q:Xe}{R_:Yh}{E_:Zh}
def nO(w:Ub)(L B:N)(k:I)(l:List ag)(b:Uj):Prop:=∃a n c,b=Sa #[Si S6 k,X a n c]/\d7 w L B a l/\n=J l/\n<=3000/\km l
def jy(w:Ub)(L B:N)(b d e k:I)(l:List ag)(f:Uj):Prop:=∃a n c,f=Sa #[Si S6 b,Si S6 d,Si S6 e,Si S6 k,X a n c]/\nO w L B k l (Sa #[Si S6 k,X a n c])
section
attribute [local go_sem] Oper.semAt_some
def K7{a:Type}(f:N->a)(len k:N):List a:=(Rg<|len-k).map λj=>f<|len-1-j
theorem qK{a:Type}(f:N->a){len}(h:n<len):K7 f len n=K7 f len (n+1)++[f n]:=by unfold K7;have e:len-n=(len-(n+1))+1:=O;rw[e,dN,bG];have e2:len-1-(len-(n+1))=n:=O;simp[e2]
theorem DX{a:Type}(f:N->a){len}:K7 f len len=[]:=by simp[K7]
theorem FH{a:Type}(f:N->a){len}:J (K7 f len n)=len-n:=by simp[K7]
abbrev Pb(a:N):={ x:N×N // x.2<a }
theorem Ez(b:∀z∈s,z<n)(a:0<n)(j:N):s[j]?.getD 0<n:=by
 by_cases h:j<J s;·rw[aC h];exact b _<|aH h
 rw[dK O];exact a
def WF{a:Wa}{d:N}(c:∀z∈a,z<d)(b:0<d)(j:N):Pb d:=⟨(j,a[j]?.getD 0),Ez c b j⟩
theorem FT(F n)(y:F.1 232)(M:F.4=U)(U_:1<=n)(r g f h s len v u K)(d:∀z∈u,z<K)(c:0<K)(V_:len<=1000000)(L:h<f)(C o:List (Pb K)->Vy)(P:∀a x W,C a W->J a<len->YieldAt F (n-1) prog r #[H (x.1.1:I),H (x.1.2:I)] W λe b=>
  (e=Rt (Sb So)/\C (a++[x]) b/\Sw f W b)\/(e=Rt (Sb Sn)/\o (a++[x]) b))(W:Ub)(B:E W (A g 0)=S (Hm h s len v))(T:g<f)(V:∀m,m<len->E W (A h<|s+m)=S (H ((u[m]?.getD 0:N):I)))(w:C [] W):
 CallsIn F n prog 232 #[.func (.yield r) #[] #[],Hn g] W λe b=>(∃P_,e=Rt P_) /\
  ((∃t,t=K7 (WF d c) len 0/\C t b)\/(∃a,(∃k,k<len/\a=K7 (WF d c) len k)/\o a b)):=by
 refine iD func232 R y ?_ M;simp only[ntmps232,xY,Nat.reduceAdd,Nat.reduceSub];gi_wp2
 gi_loopw [3] (λl wr=>∃(k:N)(z:I),k<=len/\l=H z/\z+1=(k:I)/\C (K7 (WF d c) len k) wr/\Sw f W wr)
  (λl _=>(JB l+1).toNat)
 .exact⟨len,_,aA,R,O,by rw[DX];exact w,Rf⟩
 obtain⟨k,z,K_,rfl,X_,p,i⟩:=hrel;have S_:=oB i B T;cases k with
 |zero=>
  have j:z=-1:=O;subst j;gi_wp2
  go_end0
  exact⟨⟨_,R⟩,.inl ⟨_,R,p⟩⟩
 |succ q=>
  have j:z=(q:I):=O;subst j;have hq:q<len:=K_;have T_:=oB i (V q hq) L;let⟨R_,tmps,assign,body,O_,E_⟩:=P _ (WF d c q) wr p (by rw[FH];omega);dsimp only[WF]at O_;gi_wp2;refine E_.mono ?_;rintro e Q_ (⟨rfl,C_,L_⟩|⟨rfl,D_⟩)
  .gi_wp2
   go_roundw
   .exact⟨q,_,O,R,O,by rw[qK _ hq];exact C_,i.trans L_⟩
   simp[JB]
  gi_wp2;refine cC (gV R _ _ _) R ?_;exact⟨⟨_,R⟩,.inr ⟨_,⟨q,hq,(qK _ hq).symm⟩,D_⟩⟩
theorem Ba(F n)(b:F.1 212)(c:F.4=U)(len a):
 CallsIn F n prog 212 #[X p len a] w λe d=>e=Rt (.func (.func 232) #[] #[Sj (S ⟨Z w.1,0,U⟩)])/\d=D w (Sc #[X p len a] 23):=by
 refine iD func212 R b ?_ c;simp only[ntmps212,xY,Nat.reduceAdd,Nat.reduceSub];gi_wp2;go_ret;exact⟨R,R⟩
theorem AA(F c)(o:F.1 232)(y:F.4=U)(u:1<=c){len}(b:∀K∈s,K<g)(a:0<g)(v:len<=1000000)(d:n<Z w.1)(f:m<Z w.1)(r:E w (A n 0)=S (Hm m k len B))(p:∀j,j<len->E w (A m<|k+j)=S (H ((s[j]?.getD 0:N):I))):
 SeqStopsK F c prog 232 #[Hn n] (λx:Pb g=>#[H (x.1.1:I),H (x.1.2:I)]) (Sw (Z w.1)) (λC=>C=K7 (WF b a) len 0)
  (λL=>∃h,h<len/\L=K7 (WF b a) len h) len w:=λz M i W e _ _ q l=>
 FT F c o y u z n (Z w.1) m k len B s g b a v f M i q W (oB e r d) d (λj t=>oB e (p j t) f) l
end
def oh(o:Option N):I:=match o with
 |some a=>(a:I)
 |none=>-1
def Uv(c:Wk)(d:N)(b:Zm)(a:N):Zm:=if a≠d/\(b=U\/∃k,b=S k/\c a > c k)then S a else b
theorem Cm{cnt b}(h:n<J s):NI cnt b (s.take<|n+1)=Uv cnt b (NI cnt b<|s.take n) s[n]:=by unfold NI Uv;rw[bN h,dT];rfl
def L0(a:List Wa)(b:N):I:=oh<|NI (λc=>J (a.getD c [])) b (a.getD b [])
theorem DO:∀(e:Wa){a:N},NI f n e=S a->a∈e:=λe=>by
 have i:∀(l:Wa)(d:Zm)(a:N),l.foldl (λd a=>if a≠n/\(d=U\/∃k,d=S k/\f a > f k)then S a else d) d=S a->d=S a\/a∈l:=λl=>by
  induction l with
  |nil=>intro d a h;exact bC h
  |cons c l g=>
   intro d a h;rw[iM]at h;obtain b|b:=g _ a h
   .split at b
    .injection b with b;exact aZ<|by rw[b];exact cI
    exact bC b
   exact aZ<|cN _ b
 intro a h;obtain b|b:=i e U a h;·cases b
 exact b
theorem D9(h:Sx w n m k a B y)(e:v.1=w.1):Sx v n m k a B y:=by unfold World.ownsRow at*;rw[e];exact h
theorem CT(L dc)(a:List Wa)(S_)(hd:Q (XR w S_ m L<|a.map Xi))(K:Q (n=J a))(hn:n<=1000)(hB:m<=Z w.1)(M:Q (∀ac∈a,J ac<=1000/\∀d∈ac,d<n)):
 Sk prog 94 #[X L n dc] w λp s=>∃z,p=Rt z/\Sw (Z w.1) w s/\Sx s (Z w.1) 2 1 z n (((Rg n).map (L0 a)).map (Si S6)):=by
 go_in
 go_wp2
 go_loopw [3,4] (λz u wr=>∃b:N,b<=n/\u=H b/\Q (Sw (Z w.1) w wr)/\Q (Sx wr (Z w.1) 2 1 z b<|((Rg b).map (L0 a)).map (Si S6))) λ_ u _=>n-(JB u).toNat
 .exact⟨0,aN,R,Y<|Xb Rf _,Y (by have:=eI (base:=Z w.1) (e:=2) (size:=1) w #[] 0 sP sP R;simpa using this)⟩
 obtain⟨b,hb,rfl,M_,Q_⟩:=hrel;by_cases bl:b<n;rotate_left
 .have a3:b=n:=O;subst a3;go_wp2;go_ret;exact⟨_,R,M_,Q_⟩
 have P:b<J a:=oN K.o
 have B:Q (∀t (i:t<J a),∃g l h o,L=S (A g l)/\g<m/\E w (A g<|l+t)=S (X h (J a[t]) o)/\Xf w S_ m h (Xi a[t])):=Y (λt i=>by let⟨g,l,p,X_,h,o,e1,e2⟩:=hd t (by simpa using i);have e3:(a.map Xi)[t]'(by simpa using i)=Xi a[t]:=sP;rw[e3]at e1 e2;exact⟨g,l,h,o,p,X_.2,by rw[e1];simp[Xi],e2⟩)
 obtain⟨g,l,ab,cb,rfl,X_,F,y⟩:=B b P;have P_:Q (∀t (i:t<J a),∃h o,E w (A g<|l+t)=S (X h (J a[t]) o)):=Y (λt i=>by let⟨ba,bn,h,o,p,_,e1,_⟩:=B t i;injection p with p;injection p with e4 e5;subst e4 e5;exact⟨h,o,e1⟩)
 have C:=Y<|M.o a[b] (aH P);have bi:=C.1;have ap:=Y y;have ao:Q (a.getD b []=a[b]):=Y (by simp[P]);have al:=Y F;clear y F B;generalize a[b]=e at*;go_wp2_with fail
 generalize wr=wo at*
 go_loopw [5,6] (λT_ u wq=>∃j:N,j<=J e/\u=H j/\T_=H (oh<|NI (λd=>J (a.getD d [])) b (e.take j))/\Q (Sw (Z w.1) w wq)/\Q (wq.1=wo.1)) λ_ u _=>J e-(JB u).toNat
 .exact⟨0,aN,R,R,M_,Y R⟩
 obtain⟨j,hj,rfl,rfl,f,v⟩:=hrel;have F:=G (XU f O) al;by_cases x:j<J e;rotate_left
 .have a5:j=J e:=O;subst a5;have aq:Q (oh (NI (λd=>J (a.getD d [])) b (e.take (J e)))=L0 a b):=Y (by unfold L0;rw[gC,ao.o]);rw[aq.o];have R_:=Y<|D9 Q_ v;have bm:=f.4;have az:Q (((Rg<|b+1).map (L0 a)).map (Si S6)=((Rg b).map (L0 a)).map (Si S6)++[H<|L0 a b]):=Y (by rw[dN];simp);generalize L0 a b=y at*;go_wp2_with (at_builtin;refine YC RH R_ ?_)
  intro v8 w8 aa Y_ a6 a0;have ad:=Y (Xy (vT f O _) Y_ (R_.alloc _) aA SB);have ar:Q (Sx w8 (Z w.1) 2 1 v8 (b+1) (((Rg<|b+1).map (L0 a)).map (Si S6))):=Y (by rw[az.o,jO];exact aa);clear aa Y_ a6 a0;go_wp2;exact⟨⟨b+1,O,gM,ad,ar⟩,SA⟩
 obtain⟨T_,ov,rfl,bc,U_⟩:=ap j (by simpa [Xi]using x);have ej:=G (XU f O) U_;have e3:(Xi e)[j]'(by simpa [Xi]using x)=((e[j]:N):I):=by simp[Xi]
 rw[e3]at ej;have bb:=C.2 e[j] (aH x);have T:=Y (Cm (cnt:=λd=>J (a.getD d [])) (b:=b) x);have af:Q (∀k,NI (λd=>J (a.getD d [])) b (e.take j)=S k->k<n):=Y λk i=>C.2 k<|iO (DO _ i);clear U_ e3;generalize e[j]=c at*;generalize NI (λd=>J (a.getD d [])) b (e.take j)=bs at*;have V:c<J a:=oN K.o;let⟨a1,c1,V_⟩:=P_ c V;have e1:=G (XU f O) V_;have N_:Q (J (a.getD c [])=J a[c]):=Y (by simp[V]);have bf:=(M a[c] (aH V)).1;clear V_;by_cases r:c=b
 .have q:Q (Uv (λd=>J (a.getD d [])) b bs c=bs):=Y (by unfold Uv;rw[aM λk=>k.1 r]);have q1:((c:I)==b)=So:=by simp[r]
  have q2:((c:I) != (b:I))=Sn:=by simp[r]
  clear r e1;go_wp2_with fail
  refine Y7 (λ_=>True) λig=>?_;refine Xn 0 ?_;(iterate 3 refine Rm ?_);refine KH 4 ?_;refine KH 5 ?_;refine KH 6 ?_;refine KH 7 ?_;refine KH 8 ?_;refine KH 9 ?_;refine KH 10 ?_;refine KH 11 ?_;refine KH 12 ?_;refine KH 13 ?_;refine KH 14 ?_;refine KH 15 ?_;refine KH 16 ?_;refine KH 17 ?_;refine KH 18 ?_;refine KH 19 ?_;refine KH 20 ?_;refine Xn 21 ?_;refine Yq ?_;go_wp2;exact⟨⟨j+1,O,gM,by rw[T.o,q.o],Y f.drew,Y v.o⟩,SA⟩
 have q1:((c:I)==b)=Sn:=SB
 have q2:((c:I) != (b:I))=So:=SB
 cases bs with
 |none=>
  have q:Q (Uv (λd=>J (a.getD d [])) b U c=S c):=Y (by unfold Uv;rw[aU ⟨r,bC R⟩]);have W:Q (oh U=-1):=Y R;rw[W.o];clear e1;go_wp2_with fail
  refine Y7 (λ_=>True) λig=>?_;refine Xn 0 ?_;(iterate 6 refine Rm ?_);refine KH 7 ?_;refine KH 8 ?_;refine KH 9 ?_;refine KH 10 ?_;refine KH 11 ?_;refine KH 12 ?_;refine KH 13 ?_;refine KH 14 ?_;refine KH 15 ?_;refine KH 16 ?_;refine KH 17 ?_;refine KH 18 ?_;refine KH 19 ?_;refine Xn 20 ?_;refine Xn 21 ?_;refine Yq ?_;go_wp2;exact⟨⟨j+1,O,gM,by rw[T.o,q.o];rfl,Y f.drew,Y v.o⟩,SA⟩
 |some k=>
  have be:=af k R;have I_:k<J a:=oN K.o;let⟨a2,c2,W_⟩:=P_ k I_;have e2:=G (XU f O) W_;have O_:Q (J (a.getD k [])=J a[k]):=Y (by simp[I_]);have bh:=(M a[k] (aH I_)).1;have W:Q (oh (S k)=(k:I)):=Y R;rw[W.o];clear W_;by_cases Z_:J a[c] > J a[k]
  focus
   have q:Q (Uv (λd=>J (a.getD d [])) b (S k) c=S c):=Y<|by unfold Uv;rw[aU ⟨r,aZ ⟨k,R,by show J (a.getD c []) > J (a.getD k []);rw[N_.o,O_.o];exact Z_⟩⟩]
  rotate_left
  focus
   have q:Q (Uv (λd=>J (a.getD d [])) b (S k) c=S k):=Y (by
    unfold Uv;rw[aM (λL_=>by
     obtain L_|⟨bo,q3,q4⟩:=L_.2;·cases L_
     injection q3 with q3
     subst q3;have q5:J (a.getD c []) > J (a.getD k []):=q4;rw[N_.o,O_.o]at q5;exact Z_ q5)])
  all_goals (
   generalize J a[c]=la at*;generalize J a[k]=lk at*;go_wp2_with fail
   refine Y7 (λs=>E s (A g<|l+c)=S (X a1 la c1)/\E s (A g<|l+k)=S (X a2 lk c2)) λig=>?_;refine Xn 0 ?_;(iterate 21 refine Rm ?_);refine Yq ?_;go_wp2
   exact⟨⟨j+1,O,gM,by rw[T.o,q.o];rfl,Y f.drew,Y v.o⟩,SA⟩)
section
variable{tg:N->Wa}
open Classical in
noncomputable def Zq(tg:Yr)(n b:N):Wa:=(Rg n).filter λa=>Jd (JO tg a b)
theorem Jo{n a b}:a∈Zq tg n b↔a<n/\JO tg a b:=by unfold Zq;simp
theorem Fe(n b):(Zq tg n b).Nodup:=List.nodup_range.sublist jR
theorem VU{n a c}(ha:a<n)(h:JO tg c a)(g:c≠a):J (Zq tg n c)<J (Zq tg n a):=by
 have d:a∉Zq tg n c:=λk=>g<|Z1 h (Jo.1 k).2
 have e:=fL.2 ⟨d,Fe n c⟩;have f:(a::Zq tg n c) ⊆ Zq tg n a:=λx b=>by
  obtain rfl|b:=cH.1 b;·exact Jo.2 ⟨ha,Zd h.2⟩
  let⟨i,j⟩:=Jo.1 b;exact Jo.2 ⟨i,J8 j h⟩
 have:=kV e f;simp only[bA]at this;omega
theorem Uk{n b}(a:b<n):((Rg n).map (Zq tg n)).getD b []=Zq tg n b:=by simp[a]
theorem BP{n a b}(e:∀x,Re tg x->x<n)(h:O6 tg a b):L0 ((Rg n).map (Zq tg n)) b=(a:I):=by
 have f:=e b h.1.2;have d:=e a h.1.1;have m:NI (λa=>J (((Rg n).map (Zq tg n)).getD a [])) b (Zq tg n b)=S a:=by refine Co (Jo.2 ⟨d,h.1⟩) h.2 λc g j i=>?_;let⟨k,l⟩:=Jo.1 g;rw[Uk k,Uk d];exact VU d (h.3 c l j) i
 unfold L0;rw[Uk f,m];rfl
theorem BJ{n b}(d:b<n)(h:∀c,JO tg c b->c=b):L0 ((Rg n).map (Zq tg n)) b=-1:=by unfold L0;rw[Uk d,Cf λa ha=>h a (Jo.1 ha).2];rfl
end
section
variable{tg:N->Wa}
structure YX(tg:Yr)(n:N)(P:Wc):Prop where
 len:J P=n
 get:∀b,b<n->(∃a:N,O6 tg a b/\P.getD b 0=(a:I))\/((∀c,JO tg c b->c=b)/\P.getD b 0=-1)
theorem vK{n P f}(h:YX tg n P)(k:YX tg n f):P=f:=by
 apply mG (G h.1 k.1.symm);intro i d e;have e1:P.getD i 0=P[i]:=by simp[d]
 have e2:f.getD i 0=f[i]:=by simp[e]
 rw[<-e1,<-e2];have b:i<n:=by rw[<-h.1];exact d
 obtain⟨a,ha,ea⟩|⟨ha,ea⟩:=h.2 i b
 .rcases k.2 i b with⟨c,hc,ec⟩|⟨hc,ec⟩;·rw[ea,ec,EU ha hc]
  exact Sz (hc a ha.1) ha.2
 obtain⟨c,hc,ec⟩|⟨hc,ec⟩:=k.2 i b;·exact Sz (ha c hc.1) hc.2
 rw[ea,ec]
open Classical in
theorem Wf{n}(g:∀x,Re tg x->x<n)(f:∀b,b<n->(∃a,O6 tg a b)\/∀c,JO tg c b->c=b):YX tg n ((Rg n).map (L0<|(Rg n).map (Zq tg n))):=by
 refine⟨sP,λb d=>?_⟩;have e:((Rg n).map (L0<|(Rg n).map (Zq tg n))).getD b 0=L0 ((Rg n).map (Zq tg n)) b:=by simp[d]
 rw[e];obtain⟨a,ha⟩|h:=f b d;·exact bC ⟨a,ha,BP g ha⟩
 exact aZ ⟨h,BJ d h⟩
def Nj(P:Wc)(b:N):Wa:=(Rg (J P)).filter λc=>P.getD c 0==(b:I)
def XT(P:List I):N->N->List N
 |0,b=>[b]
 |m+1,b=>b::(Nj P b).flatMap (XT P m)
theorem o8{P b c}:c∈Nj P b↔c<J P/\P.getD c 0=(b:I):=by unfold Nj;rw[fG,bE,iA]
theorem Kf{n P}(h:YX tg n P){b c}(f:c∈Nj P b):O6 tg b c:=by
 let⟨e,d⟩:=o8.1 f;obtain⟨a,ha,ea⟩|⟨_,ea⟩:=h.2 c (by rw[<-h.1];exact e)
 .rw[ea]at d;have:a=b:=O;rw[<-this];exact ha
 rw[ea]at d;omega
theorem Fi{P b}:J (Nj P b)<=J P:=aJ (fJ _ _) sP
theorem Ji{n P}(h:YX tg n P):∀(m b x:N),Re tg b->x∈XT P m b->JO tg b x
 |0,b,x,hb,a=>by
  have:x=b:=by simpa [XT]using a
  rw[this];exact Zd hb
 |m+1,b,x,hb,a=>by
  rw[XT,cH]at a;obtain rfl|a:=a;·exact Zd hb
  let⟨c,e,a⟩:=bV.1 a;have d:=Kf h e;exact J8 d.1<|Ji h m c x d.1.2 a
theorem qY{r P}(h:YX tg r P):∀(m b:N),Re tg b->(XT P m b).Nodup
 |0,b,_=>by simp[XT]
 |m+1,b,hb=>by
  rw[XT,fL];refine⟨λd=>?_,?_⟩
  .obtain⟨c,a,d⟩:=bV.1 d;have g:=Kf h a;exact g.2<|Z1 g.1 (Ji h m c b g.1.2 d)
  unfold List.Nodup;rw[iK];refine⟨λc a=>qY h m c (Kf h a).1.2,?_⟩;have p:(Nj P b).Nodup:=List.nodup_range.sublist jR;refine jT (λ{c i} a o j x d y q f=>?_) p;subst f;have e:=Kf h a;have id:=Kf h o;have l:=Ji h m c x e.1.2 d;have n:=Ji h m i x id.1.2 q;obtain k|k:=TY l n;·exact e.2<|Z1 e.1 (id.3 c k j)
  exact id.2<|Z1 id.1 (e.3 i k λf=>j f.symm)
theorem o9{n P}(h:YX tg n P)(c:∀x,Re tg x->x<n)(m){b}(a:Re tg b):J (XT P m b)<=n:=YS (qY h m b a) λx d=>c x (Ji h m b x a d).2
theorem qJ{n P}(h:YX tg n P)(e:∀x,Re tg x->x<n){b c}(d:c∈Nj P b):J (Zq tg n b)<J (Zq tg n c):=by have a:=Kf h d;exact VU (e c a.1.2) a.1 a.2
theorem rr(n b):J (Zq tg n b)<=n:=aJ (fJ _ _) sP
theorem B8{n P}(h:YX tg n P)(e:∀x,Re tg x->x<n){b}(d:Re tg b)(g:b≠0):∃c:N,P.getD b 0=(c:I)/\c<n/\Re tg c/\J (Zq tg n c)<J (Zq tg n b)/\∀a,a≠b->(JO tg a b↔JO tg a c):=by
 obtain⟨c,hc,ec⟩|⟨hc,_⟩:=h.2 b (e b d);·exact⟨c,ec,e c hc.1.1,hc.1.1,VU (e b d) hc.1 hc.2,λa i=>⟨λk=>hc.3 a k i,λk=>J8 k hc.1⟩⟩
 exact Sz (hc 0<|CW d) λf=>g f.symm
end
section
def VB(b:N->N->N)(a:List N):N->N->I
 |0,_=>-1
 |i+1,z=>match (a.take i).reverse.find? (λc=>!Xh (b<|a.getD i 0) c)with
  |some c=>if z=a.getD i 0 then (c:I)else VB b a i z
  |none=>VB b a i z
theorem uY{c:Vp}{a:Wa}{i b}(h:(a.take i).reverse.find? (λb=>!Xh (c<|a.getD i 0) b)=S b)(z):VB c a (i+1) z=if z=a.getD i 0 then (b:I)else VB c a i z:=by rw[VB,h]
theorem uC{b:Vp}{a:Wa}{i}(h:(a.take i).reverse.find? (λc=>!Xh (b<|a.getD i 0) c)=U)(z):VB b a (i+1) z=VB b a i z:=by rw[VB,h]
theorem wk{a:Wa}{i}(f:∀z∈a,z<i)(c:0<i){len}(b:len<=J a):(K7 (WF f c) len 0).map (λx=>x.1.2)=(a.take len).reverse:=by
 apply mG;·simp[K7,b]
 intro j d g;have h:j<len:=by simpa [K7]using d
 have e:len-1-j<J a:=O;simp[K7,WF,jZ b,aC e]
theorem wG{b:Type}(f:N->b){len}:∀(k:N),k<=len->∃r,K7 f len 0=K7 f len k++r
 |0,_=>⟨[],sP⟩
 |k+1,h=>by obtain⟨r,a⟩:=wG f (len:=len) k O;exact⟨f k::r,by rw[a,qK f<|show k<len from h];simp⟩
theorem Dc{d:Wa}{o}(b:∀z∈d,z<o)(a:0<o){len k}(h:len<=J d)(g:k<=len){p:Ys}{c x}(e:c++[x]=K7 (WF b a) len k)(i:∀y∈c,p y.1.2=Sn)(m:p x.1.2=So):(d.take len).reverse.find? p=S x.1.2:=by
 let⟨r,j⟩:=wG (WF b a) k g;rw[<-wk b a h,j,<-e,bG,bG,List.find?_append,List.find?_append];have f:(c.map λx=>x.1.2).find? p=U:=by rw[lS];intro y n;obtain⟨u,l,rfl⟩:=aY.1 n;rw[i u l];decide
 rw[f];simp[m]
theorem CR{a:Wa}{h}(c:∀z∈a,z<h)(b:0<h){len}(d:len<=J a){p:Ys}(e:∀y∈K7 (WF c b) len 0,p y.1.2=Sn):(a.take len).reverse.find? p=U:=by rw[<-wk c b d,lS];intro y g;obtain⟨u,f,rfl⟩:=aY.1 g;rw[e u f];decide
theorem qC{Ws:Vp}{a:Wa}{b}:∀(i:N),i<=J a->(∀j,j<i->a.getD j 0≠b)->VB Ws a i b=-1
 |0,_,_=>R
 |i+1,hi,h=>by
  have c:=qC (Ws:=Ws) i O λj d=>h j O;rw[VB];split;·rw[aM λe=>h i O e.symm];exact c
  exact c
theorem uU{Ws:Vp}{ord:Wa}{b i}:∀(m:N),(∀j,i<=j->j<i+m->ord.getD j 0≠b)->VB Ws ord (i+m) b=VB Ws ord i b
 |0,_=>R
 |m+1,h=>by
  have c:=uU (Ws:=Ws) (i:=i) m λj a d=>h j a O;rw[<-c,<-zZ,VB];split;·rw[aM λe=>h (i+m) O O e.symm]
  rfl
variable{tg:N->Wa}
theorem UR{n}{Ws:Vp}{o}(t:o.Nodup)(l:∀x,x∈o↔Re tg x)(w:∀x,Re tg x->x<n)(y:∀x a,JO tg a x->a≠x->Oh o a x)(B:∀b,b<n->∀x,x<n->(Xh (Ws b) x=So↔Av tg x b)):YX tg n ((Rg n).map (VB Ws o (J o))):=by
 refine⟨sP,λb r=>?_⟩;have f:((Rg n).map (VB Ws o (J o))).getD b 0=VB Ws o (J o) b:=by simp[r]
 rw[f];by_cases m:b∈o
 .let⟨i,g,e⟩:=bR m;have u:=gY.1 (show o.Pairwise (·≠·)from t);have h:∀j (d:j<J o),o.getD j 0=o[j]:=λj d=>by simp[d]
  have p:VB Ws o (J o) b=VB Ws o (i+1) b:=by
   have:=uU (Ws:=Ws) (ord:=o) (b:=b) (i:=i+1) (J o-(i+1)) (λj p q=>by have d:j<J o:=O;rw[h j d,<-e];exact λf=>u i j g d O f.symm)
   rw[show i+1+(J o-(i+1))=J o by omega]at this;exact this
  have q:VB Ws o i b=-1:=qC i O (λj d=>by have s:j<J o:=O;rw[h j s,<-e];exact u j i s g d)
  have z:∀a∈o,(!Xh (Ws<|o.getD i 0) a)=So↔¬Av tg a o[i]:=λa ha=>by rw[h i g,<-B o[i] (e▸r) a (w a<|(l a).1 ha)];simp
  have k:=CJ t l y g z;rw[p];cases hf:(o.take i).reverse.find? (λa=>!Xh (Ws<|o.getD i 0) a)with
  |some a=>
   rw[hf]at k;rw[uY hf,h i g,e,aU R];exact bC ⟨a,e▸k,R⟩
  |none=>
   rw[hf]at k;rw[uC hf,q];exact aZ ⟨e▸k,R⟩
 refine aZ ⟨λc v=>Sz ((l b).2 v.2) m,qC _ aA λj d f=>m ?_⟩;have:o.getD j 0=o[j]:=by simp[d]
 rw[<-f,this];exact aH d
end
def XX(a:Wi)(k b:N):Wa:=(Rg k).filter λj=>Jd (b∈X8 a j)
theorem tW{a:Wi}(d:∀x∈a,∀t∈x.3.tg,0<=t)(b:N):∀(k:N),k<=J a->AQ (a.take k) 0 (b:I)=Xi (XX a k b)
 |0,_=>by simp[AQ,XX,Xi]
 |k+1,g=>by
  have c:k<J a:=g;rw[bN c,ZK,tW d b k O];have i:J (a.take k)=k:=SB
  have f:a[k].3.tg.contains b=Jd (b∈X8 a k):=by
   rw[Km c,eQ,eY,bD,aY];constructor;·exact λh=>⟨_,h,sP⟩
   rintro⟨t,e,j⟩;have l:=d _ (aH c) t e;have:t=(b:I):=O;rw[<-this];exact e
  rw[f,i];unfold XX;rw[dN,eU,iW,jX];by_cases h:b∈X8 a k;·rw[aU SI,aU<|by simpa using h];simp[Xi]
  rw[aM SI,aM<|by simpa using h];simp[Xi]
theorem K9(a:∀c∈x,∀t∈c.3.tg,0<=t)(b:N):AQ x 0 (b:I)=Xi (XX x (J x) b):=by have:=tW a b (J x)<|aA;rwa[gC]at this
theorem Uf:k∈XX x n m↔k<n/\m∈X8 x k:=by unfold XX;rw[fG,bE,bD]
theorem tR{xs b}:J (XX xs n b)<=n:=aJ (fJ _ _) sP
def Zp(a:Wi):Wk×Wa:=C9 (X8 a) (J a) 0 (λ_=>0,[])
def Ja(a:Wi):Wa:=(Zp a).2.reverse
structure UF(xs:Wi):Prop where
 n1:1<=J xs
 n2:J xs<=1000
 tgt:∀x∈xs,∀t∈x.3.tg,0<=t/\t<J xs
 ok:mp xs (J xs)
theorem Wz(h:XJ ⟨t,x⟩=So):UF x:=by simp only[XJ,bY]at h;let⟨⟨⟨⟨a,c⟩,_⟩,_⟩,_⟩:=h;simp only[Y6,bY,bD]at a;have b:=Vi c;exact⟨a.1.1.2,a.1.2,λe d=>(b e d).1,b⟩
theorem UF.tg(h:UF x):∀b,b<J x->∀t∈X8 x b,t<J x:=λb a t c=>by rw[Km a]at c;obtain⟨z,d,rfl⟩:=aY.1 c;have:=h.3 _ (aH a) z d;omega
theorem UF.re(h:UF x):∀a,Re (X8 x) a->a<J x:=λa c=>by
 induction c with
 |root=>exact h.1
 |step _ b d=>exact h.tg _ d _ b
theorem UF.top(h:UF x):(∀a,a∈Ja x↔Re (X8 x) a)/\(∀a,Xh (Zp x).1 a=So↔Re (X8 x) a)/\(Ja x).Nodup/\∀a b,JO (X8 x) b a->b≠a->Oh (Ja x) b a:=by
 let⟨d,f,g,i⟩:=ER h.tg h.1<|@aA (J x);refine⟨λa=>?_,f,?_,λa b j c=>Be<|i a b j c⟩
 .show a∈(Zp x).2.reverse↔_;rw[kU];exact d a
 show((Zp x).2.reverse).Nodup;exact List.pairwise_reverse.2<|g.imp λc e=>c e.symm
theorem UF.av(h:UF x)(f:∀b,b<J x->∀a,a<J x->(Xh (M b) a=So↔Sp (Nt (J x)) (N7 (J x)) (·∈Ja x) (λb=>((Rg (J x)).map (XX x (J x))).getD b []) b a)):∀b,b<J x->∀a,a<J x->(Xh (M b) a=So↔Av (X8 x) a b):=λb c a d=>by
 rw[f b c a d];refine Gf (n:=J x) (λb a d=>EN d) (λb a _ c=>En c) (λb=>h.top.1 b) h.re (λb s c=>?_) d;have e:((Rg (J x)).map (XX x (J x))).getD b []=XX x (J x) b:=by simp[c]
 rw[e];exact Uf
theorem UF.idm(h:UF x){Ws:Vp}(c:∀b,b<J x->∀a,a<J x->(Xh (Ws b) a=So↔Sp (Nt (J x)) (N7 (J x)) (·∈Ja x) (λb=>((Rg (J x)).map (XX x (J x))).getD b []) b a)):YX (X8 x) (J x) ((Rg (J x)).map (VB Ws (Ja x) (J (Ja x)))):=UR h.top.2.2.1 h.top.1 h.re h.top.2.2.2<|h.av c
theorem UF.ord_len(h:UF x):0<J (Ja x)/\J (Ja x)<=J x/\∀b∈Ja x,b<J x :=
 ⟨eJ<|(h.top.1 0).2 Re.root,YS h.top.2.2.1 λa d=>h.re a<|(h.top.1 a).1 d,λb c=>h.re b<|(h.top.1 b).1 c⟩
theorem Dh{tg}(h:YX tg n l)(c:∀x,Re tg x->x<n):∀p∈l,-1<=p/\p<n:=λp d=>by
 obtain⟨i,b,rfl⟩:=bR d;have e:l.getD i 0=l[i]:=by simp[b]
 rw[<-e];obtain⟨a,ha,ea⟩|⟨_,ea⟩:=h.2 i (by rw[<-h.1];exact b)
 .have:=c a ha.1.1;omega
 omega
structure Jy(V:N)(xs:Wi):Prop where
 okf:UF xs
 vle:V<=2000
 ops:∀x∈xs,∀y∈x.2,1<=y.1/\y.1<=13
 kind:∀x∈xs,1<=x.3.1/\x.3.1<=3
 rdi:∀x∈xs,∀y∈x.2,∀v∈Iw y,0<=v/\v<V
 wri:∀x∈xs,∀y∈x.2,∀v∈BW y,0<=v/\v<V
 rdt:∀x∈xs,∀v∈Id x.3,0<=v/\v<V
 phd:∀x∈xs,∀p∈x.1,0<=p.1/\p.1<V
 pha:∀t (h:t<J xs),∀p∈xs[t].1,J p.2=J (AQ xs 0 (t:I))/\∀a∈p.2,0<=a/\a<V
 lens:∀x∈xs,J x.2<=4000/\J x.1<=4000
theorem Vb(h:Tp r t T z=So)(a:r=So):T<=t/\t<z:=by subst a;simpa [Tp]using h
theorem AX(h:q∈x):Ul q<=Xo x:=by
 unfold Xo
 induction x with
 |nil=>cases h
 |cons y b a=>
  obtain rfl|h:=cH.1 h;·simp
  have:=a h;simp;omega
theorem wB:∀a:Za,J a<=XZ a
 |[]=>aA
 |p::a=>by have:=wB a;simp[XZ]at*;omega
theorem XH(h:XJ ⟨(n:I),x⟩=So):Jy n x:=by
 have w:=Wz h;simp only[XJ,bY]at h;let⟨⟨⟨⟨j,o⟩,q⟩,r⟩,_⟩:=h;simp only[Y6,bY,bD]at j;have f:∀b∈x,∀y∈b.2,Yw n 10 y=So:=λb c y d=>dV.1 (dV.1 q b c) y d
 have l:∀b∈x,Zu n 1 (J x) b.3=So:=λb c=>by have:=dV.1 o b c;simp only[Jf,bY]at this;exact this.1
 have k:=(Zr ZX ⟨(n:I),x⟩ x 0).1 r;refine⟨w,O,λb c y d=>?_,λb c=>?_,λb c y d v a=>?_,λb c y d v a=>?_,λb c v a=>?_,λb c p g=>?_,λt i p g=>?_,λb c=>?_⟩
 .have:=f b c y d;simp only[Yw,bY,bD]at this;omega
 .have:=l b c;simp only[Zu,bY,bD]at this;omega
 .have:=f b c y d;simp only[Yw,bY]at this;let⟨⟨⟨⟨_,_⟩,ha⟩,s⟩,_⟩:=this;unfold Iw at a;obtain a|a:=bU.1 a
  .by_cases e:aB y.1=So
   .rw[aU e]at a;have e2:v=y.a:=by simpa using a
    rw[e2];exact Vb ha e
   rw[aM e]at a;cases a
  by_cases e:bB y.1=So
  .rw[aU e]at a;have e2:v=y.b:=by simpa using a
   rw[e2];exact Vb s e
  rw[aM e]at a;cases a
 .have:=f b c y d;simp only[Yw,bY]at this;let⟨⟨⟨⟨_,u⟩,_⟩,_⟩,_⟩:=this;unfold BW at a;by_cases e:dB y.1=So
  .rw[aU e]at a;have e2:v=y.2:=by simpa using a
   rw[e2];exact Vb u e
  rw[aM e]at a;cases a
 .have:=l b c;simp only[Zu,bY]at this;let⟨⟨⟨_,ha⟩,_⟩,_⟩:=this;unfold Id at a;by_cases e:(b.3.1 != 1)=So
  .rw[aU e]at a;have e2:v=b.3.a:=by simpa using a
   rw[e2];exact Vb ha e
  rw[aM e]at a;cases a
 .obtain⟨t,i,rfl⟩:=bR c;have:=dV.1 (k t i) p g;simp only[ZX,bY]at this;exact Vb this.1 R
 .have:=dV.1 (k t i) p g;simp only[ZX,Jt,bY,bD,dV]at this;rw[aV]at this;exact⟨this.2.1.2,λm ha=>this.2.2 m ha⟩
 have:=AX c;have z:=j.2;have:=wB b.1;unfold Ul at*;omega
def X9(l:Wc):Wa:=l.map Int.toNat
theorem Kv(h:∀v∈l,0<=v):(X9 l).map Int.ofNat=l:=by
 unfold X9;rw[jO]
 conv=>rhs;rw[<-List.map_id l]
 apply gH;intro v a;have:=h v a;simp[Function.comp];omega
theorem YV(h:∀v∈l,0<=v):n∈X9 l↔(n:I)∈l:=by
 unfold X9;rw[aY];constructor
 .rintro⟨v,a,rfl⟩;have:=h v a;rw[show((v.toNat:N):I)=v by omega];exact a
 intro b;exact⟨_,b,O⟩
def Og(a:Wi)(t:N)(b:Za):List (N×N):=b.flatMap λp=>(XX a (J a) t).zip (X9 p.2)
def PW(a:Wi)(t:N):List (N×N):=(a[t]?).elim [] λx=>Og a t x.1
def Nr(a:Wi)(k:N):List (N×N):=(Rg k).flatMap (PW a)
structure PF(w2 wr:Ub)(G_ n K:N)(gs:Wk)(Ws:Vp)(E_:List (N×N)):Prop where
 sets:XK wr G_ n K gs (λ_=>K) Ws
 wd:XQ Ws
 fr:U8 w2 wr n gs
 has:∀b,b<n->∀v,Xh (Ws b) v=So↔(b,v)∈E_
def O0(c wr:Ub)(d n K:N)(b:Wk)(e:List (N×N)):Prop:=∃a,PF c wr d n K b a e
theorem PF.below{wr}{b:List (N×N)}(h:PF w wr n m k f M b)(a:Sw (Z wr.1) wr v):PF w v n m k f M b:=⟨h.1.keep a,h.2,h.3.below a,h.4⟩
theorem O0.below{wr}{c:List (N×N)}(h:O0 w wr n m k f c)(b:Sw (Z wr.1) wr v):O0 w v n m k f c:=by let⟨a,h⟩:=h;exact⟨a,h.below b⟩
theorem PF.add{wr}{l:List (N×N)}(h:PF w wr n m k f M l)(c:B<m)(d:wr.grownBy v (S<|f B))(j:Cp v (f B) k k (E2 (M B) [g])):PF w v n m k f (λi=>if i=B then E2 (M B) [g]else M i) (l++[(B,g)]):=by
 refine⟨h.1.wrote c d j,λi=>?_,h.3.grown d c,λb a x=>?_⟩
 .by_cases e:i=B;·simp only[aU e];exact Zs _<|h.2 B
  simp only[aM e];exact h.2 i
 by_cases e:b=B
 .subst e;simp only[gG,bU,cS,jC,true_and];rw[YR,dI,bD,cS,h.4 b a x];exact or_comm
 simp only[aM e,bU,cS,jC];rw[h.4 b a x];exact⟨bC,λh=>h.elim id λh=>Sz h.1 e⟩
theorem D6{xs:Wi}(h:n<J xs):Nr xs (n+1)=Nr xs n++Og xs n xs[n].1:=by unfold Nr;rw[dN,eZ];simp[PW,h]
theorem DL{xs t}{a:Za}(h:n<J a):Og xs t (a.take<|n+1)=Og xs t (a.take n)++(XX xs (J xs) t).zip (X9 a[n].2):=by unfold Og;rw[X7 h,eZ];simp
theorem A6(c)(ha:Q (Xp w k B p x))(t:Q (m=J x))(hB:B<=Z w.1)(P:Q (Jy n x)):
 Sk prog 121 #[Sa #[H n,X p m c]] w λh w'=>∃L f z,h=Rt (Hl L m m)/\Z w.1<=L/\Sw (Z w.1) w w'/\XK w' L m ((n+63)/64) f (λ_=>(n+63)/64) z/\(∀i,i<m->Z w.1<=f i)/\XQ z/\∀T,T<m->∀ab,Xh (z T) ab=So↔(T,ab)∈Nr x m:=by
 have hn:m<=1000:=oP t.o P.1.2;have hV:=P.2;have aj:=Y λW_=>Ti m n W_ hn O;have ar:=Y (λW_ (d:Sw (Z w.1) w W_)=>KF n c (Y<|ha.keep (d.mono hB)) t O (oN d.4) (Y<|by rw[t.o];exact P.1.4));have hK:(n+63)/64<=32:=O;have cl:n<=64*((n+63)/64):=O;generalize (n+63)/64=K at*
 go_in
 go_wp2_with fail
 refine(aj _).mono ?_;rintro h S_⟨L,f,rfl,hG,O_,Q_,a7⟩;have ad:Q (Sw (Z w.1) w<|D w (Sc #[H n,X p m c] 45)):=Y<|Xb Rf _;have q0:=G (O_.cell (p:=A (Z w.1) 0) (by show Z w.1<_;simp)) (by simp[go_sem]:(w.alloc<|Sc #[H n,X p m c] 45).cell? (A w.heap.size 0)=S (H n));have q1:=G (O_.cell (p:=A (Z w.1) 1) (by show Z w.1<_;simp)) (by simp[go_sem]:(w.alloc<|Sc #[H n,X p m c] 45).cell? (A w.heap.size 1)=S (X p m c));have M:=Y<|Xg ad O_;have az:=Y Q_;have cj:Z w.1<L:=by simp at hG;omega
 have v:Q (∀i,i<m->Z w.1<f i/\f i<Z S_.1):=Y (λi g=>⟨by have:=a7 i g;simp at this;omega,(Q_.2 i g).lt⟩);have ck:=Q_.1.lt;have ct:=M.4;have cg:Z w.1<Z S_.1:=O;have al:=Y<|ar.o S_ M;clear O_ Q_ a7 hG;go_wp2_with fail
 refine al.mono ?_;rintro h r⟨ci,rfl,V,bd⟩;have u:=Y<|Xg M V;have bx:=Y bd.ints;have bo:Q (O0 r r L m K f []):=Y ⟨_,az.keep V,λ_=>λ_=>vY,U8.refl _ _ _,λT _ ab=>by simp[Z3]⟩;have cx:=oB V q1 cg;have cv:=V.4;clear V bd q0 q1;have bl:=Y<|ha.keep (u.mono hB);go_wp2
 go_loopw [22] (λi wr=>∃a:N,a<=m/\i=H a/\Q (O0 r wr L m K f<|Nr x a)) λi _=>m-(JB i).toNat
 .exact⟨0,aN,R,bo⟩
 obtain⟨a,hk,rfl,b⟩:=hrel;by_cases cd:a<m;rotate_left
 .have cc:a=m:=O;subst cc;go_wp2;go_ret;let⟨z,d⟩:=b.o;refine⟨L,f,z,R,O,⟨G d.3.1 u.1,G d.3.2 u.2,G d.3.3 u.3,aJ u.4 d.3.4,λi g=>G (d.3.5 i (oN u.4) λj C h=>by have:=v j C;omega) (u.5 i g)⟩,d.1,λi g=>by have:=v i g;omega,d.2,d.4⟩
 have P_:a<J x:=oN t.o;obtain⟨T,cw,rfl,a5,hc⟩:=bl a P_;have l:=b.elim λ_ U_=>U_.3;have s:Q (YA k B r wr):=Y (λi W F_=>l.5 i O λj C h=>by have:=v j C;omega);let⟨pa,pc,ia,ic,e0,e1,⟨e2,e3,e4,e5⟩,bb,_⟩:=hc.keepS s<|s T a5.1 a5.2;have aq:=Y bb;have br:=Y<|D6 (xs:=x) P_;have bt:=Y<|P.9 a P_;have ao:=Y (K9 (λch t L_ ht=>(P.1.3 ch t L_ ht).1) a);have I_:=(P.10 x[a] (aH P_)).2;clear hc bb l;generalize x[a]=F at*;go_wp2_with fail
 have bp:Q (O0 r (D wr<|Sc #[X pa (J F.1) pc,X ia (J F.2) ic,H F.3.1,H F.3.a,H F.3.3,H F.3.4] 81) L m K f (Nr x a)):=Y<|b.below (Xb Rf _);have bv:=Y (aq.keepS λi W F_=>(s i W F_).symm);clear s e0 e1 e2 e3 e4 e5 b;generalize wr=wo at*
 go_loopw [30] (λi wr=>∃j:N,j<=J F.1/\i=H j/\Q (O0 r wr L m K f<|Nr x a++Og x a (F.1.take j))) λi _=>J F.1-(JB i).toNat
 .exact⟨0,aN,R,Y<|by rw[show Nr x a++Og x a (F.1.take 0)=Nr x a by simp[Og]];exact bp⟩
 obtain⟨j,C,rfl,b⟩:=hrel;by_cases Y_:j<J F.1;rotate_left
 .have cb:j=J F.1:=O;have y:Q (F.1.take j=F.1):=Y<|aW O;rw[y.o]at b;clear cb;go_wp2;exact⟨⟨a+1,O,gM,Y<|by rw[br.o];exact b⟩,SA⟩
 have l:=b.elim λ_ U_=>U_.3;have s:Q (YA k B r wr):=Y (λi W F_=>l.5 i O λj C h=>by have:=v j C;omega);obtain⟨b2,o2,rfl,cn,ap,cp,f0,f1,a2⟩:=(bv.keepS s) j Y_;have bm:=Y (a2.keepS λi W F_=>(s i W F_).symm);have b1:=Y<|DL (xs:=x) (t:=a) Y_;let⟨a0,a3⟩:=bt F.1[j] (aH Y_);have bn:=Y a3;clear l a2 a3;generalize F.1[j]=e at*;have cr:J (XX x (J x) a)<=m:=oP (tR (xs:=x) (n:=J x) (b:=a)) t.o;have a1:J e.2=J (XX x (J x) a):=by rw[a0,ao.o];simp[Xi]
 have ac:=Y a1;have cm:J e.2<=1000:=O;clear a0 a1;go_wp2_with fail
 have bq:Q (O0 r (D wr<|Sc #[H e.1,X ap (J e.2) cp] 83) L m K f (Nr x a++Og x a (F.1.take j))):=Y<|b.below (Xb Rf _);clear b f0 f1 s;generalize wr=cz at*
 go_loopw [37] (λi wr=>∃q:N,q<=J e.2/\i=H q/\Q (O0 r wr L m K f<|Nr x a++Og x a (F.1.take j)++((XX x (J x) a).zip (X9 e.2)).take q)) λi _=>J e.2-(JB i).toNat
 .exact⟨0,aN,R,Y<|by rw[lK,fF];exact bq⟩
 obtain⟨q,hq,rfl,b⟩:=hrel;by_cases a9:q<J e.2
 .let⟨z,d⟩:=b.o;have l:=d.3;obtain⟨b3,o3,rfl,co,r0⟩:=bm q a9;have bh:=G (Xc (l.5 b3 O λi g h=>by have:=v i g;omega)) r0;let⟨b4,o4,e4,b8,a4,c4,r1,V_⟩:=bx a (by simpa using cd);injection e4 with e4;injection e4 with e5 e6;subst e5;subst e6;have R_:=G (Xc (l.5 (Z S_.1+1) b8.2 λi g h=>by have:=v i g;omega)) r1;simp only[cM,dW,ao.o]at R_ V_;have Z_:q<J (XX x (J x) a):=oN ac.o;let⟨b5,o5,e7,ca,r2⟩:=V_ q (by simpa [Xi]using Z_);subst e7;have bi:=G (Xc (l.5 b5 ca.2 λi g h=>by have:=v i g;omega)) r2;have bc:(Xi<|XX x (J x) a)[q]'(by simpa [Xi]using Z_)=(((XX x (J x) a)[q]:N):I):=by simp[Xi]
  rw[bc]at bi;have I_:(XX x (J x) a)[q]<m:=oP ((Uf.1<|aH Z_).1) t.o
  have aa:=bn e.2[q] (aH a9);have y:Q (((XX x (J x) a).zip (X9 e.2)).take (q+1)=((XX x (J x) a).zip (X9 e.2)).take q++[((XX x (J x) a)[q],e.2[q].toNat)]):=Y (by rw[X7<|by simp[X9];omega];simp[X9])
  let⟨o,bf⟩:=bX aa.1;rw[bf]at bh aa y;simp only[dM]at y;have a8:J (Xi<|XX x (J x) a)=J (XX x (J x) a):=by simp[Xi]
  rw[a8,aV]at R_;have ba:=ac.o;rw[<-ba]at R_;have N_:=Y d;clear d l r0 r1 r2 V_ bc bf b ba a8;generalize (XX x (J x) a)[q]=J_ at*;have b7:=N_.1.1.cell I_;have cs:o<n:=O;clear aa;go_wp2_with fail
  have T_:=Y<|N_.below (Xb Rf (Sc #[H o] 132));have cq:=(N_.1.2 J_ I_).lt;have cf:Z wr.1+1<=Z (D wr<|Sc #[H o] 132).1:=sP;have af:Q (Xf (D wr<|Sc #[H o] 132) (Z wr.1) (Z wr.1+1) (S ⟨Z wr.1,0,U⟩) ([o].map Int.ofNat)):=Y<|UY wr o;have b0:∀L_∈[o],L_<64*K:=λL_ ht=>by
   have h:L_=o:=by simpa using ht
   omega
  refine YU (ZG (f J_) K K 1 1 (z J_) _ [o] (Z wr.1) (Z wr.1+1) _ af (Y R) O (Y b0) O (Y<|N_.2 J_) (Y<|T_.1.2 J_ I_) cf O) λw5⟨a6,be⟩=>?_;have b6:=Y<|T_.add I_ a6 be;clear a6 be b7 bh R_ bi;go_wp2;exact⟨⟨q+1,O,gM,Y ⟨_,by rw[y.o,<-cK];exact b6⟩⟩,SA⟩
 have ce:q=J e.2:=O;have y:Q (((XX x (J x) a).zip (X9 e.2)).take q=(XX x (J x) a).zip (X9 e.2)):=Y (aW<|by simp[X9];omega);rw[y.o]at b;clear ce;go_wp2;exact⟨⟨j+1,O,gM,Y<|by rw[b1.o,<-cK];exact b⟩,SA⟩
section
attribute [local go_sem] Oper.semAt_some
theorem uy(cs Bx ch b5 O_)(Pd:N×Wc×Wc->Prop)(x L)(v:Q (UI x ch b5 Bx cs (Z L.1) L))(hM:Q (∀k,ch<=k->k<b5->¬O_ k))(bp:Q (¬O_ Bx))(a8:Q (∀k,Z L.1<=k->¬O_ k))(dl:Q (¬O_ 2))(dn:Q (¬O_ 1))(gt:Q (∀et∈x.2,1<=et.1/\et.1<=13))(hr:1<=x.3.1/\x.3.1<=3)(ho:J x.2<=4000)(hp:J x.1<=4000)(ci:Q (∀q∈NS x,Pd q)):
 lf Fence.wide 7 prog 168 #[Hn Bx] (λ_=>pf) (λ_=>og (Z L.1) Pd) (Zf cs O_) (λu=>u.map Pl.dat=NS x) (λu=>u.map Pl.dat <+: NS x) (J x.2+2) False False L:=by
 intro n J0 Jx W hW hl hJ dj _ _ hY h0;have HY:=Y λh x V=>hY (Z W.1) h x V<|aA;have X_:=Y<|hJ (Z W.1);have H0:=Y λV=>h0 (Z W.1) V<|aA;have HE:Q (∀u V,u.map Pl.dat=NS x->J0 (Z W.1) u V->(∃eu u,Z W.1<=eu/\u.map Pl.dat=NS x/\J0 eu u V)\/∃h,h.map Pl.dat <+: NS x/\Jx h V):=Y λu V f i=>.inl ⟨_,u,aA,f,i⟩;have cc:=Y dj;clear hY hJ h0 dj;generalize J0 (Z W.1)=f5 at HY X_ H0 HE;have bc:=hW.4;have fs:=Y<|v.below hW aA;refine callsIn_of_wp_marks func168 R JV ?_ R;simp only[ntmps168,xY,Nat.reduceAdd,Nat.reduceSub];gi_wp2;have gb:(λx9:Ub=>Q (Sw (Z W.1) W x9)/\E x9 (A (Z W.1) 0)=S (.func (.yield n) #[] #[])/\Z x9.1=Z W.1+1) (D W<|Sc #[.func (.yield n) #[] #[]] 293):=⟨Y<|Xb Rf _,SC,sP⟩;generalize D W _=wa at*;obtain⟨cw,b4,h8⟩:=gb;have cf:=Y<|fs.below cw.o bc;obtain⟨pa,pc,Q_,ic,e0,e1,t0,gz,gl⟩:=cf.3;simp only[aV]at e1 t0;clear e0 gz gl;obtain⟨k,hk⟩:=bX (show 0<=x.3.1 by omega);have gp:1<=k:=O;have gq:k<=3:=O;have HT:Q (Va wa Bx 2 ⟨(k:I),x.3.a,x.3.3,x.3.4⟩):=Y (by rw[<-hk];exact t0);have M:=Y<|BY wa.drew (Y HT.o) gp gq (Y cf.2);have eo:Id ⟨(k:I),x.3.a,x.3.3,x.3.4⟩=Id x.3:=by unfold Id;simp only;rw[<-hk]
 rw[eo]at M;have da:Q (J (Id x.3)<=1):=Y (by unfold Id;split<;>simp);clear eo t0;obtain⟨d,cq⟩:∃d,d=Id x.3:=⟨_,R⟩;rw[<-cq]at M da;have aq:=Y cq;clear cq;have hx:S6.wrap ((J x.2:I)+1)=(J x.2:I)+1:=by rw[dF];omega
 refine Tc (λB=>E B (A (Z W.1) 0)=S (.func (.yield n) #[] #[])/\E B (A Bx 1)=S (X Q_ (J x.2) ic)) λig=>?_;refine Yi 0 ?_;refine Yi 1 ?_;refine Yi 2 ?_;refine Yi 3 ?_;refine Yi 4 ?_;refine Yi 5 ?_;refine Yc 6 λN_ hK=>?_;go_simp;refine⟨JV,(bM.2 M.o).mono ?_⟩;rintro e w5⟨v5,rfl,af,em⟩;obtain⟨a5,c5,rfl,ed⟩:=Xk em;have br:Sw (Z wa.1) wa w5:=⟨af.1,af.2,af.3,af.4,af.5⟩;have ct:=Y br;have y5:=G (XU br O) b4;have i5:=oB br e1 (by have:=v.4;show Bx<_;omega);have e6:Q (Xf w5 (Z wa.1) (Z w5.1) a5 d):=Y ed;have M_:=Y<|Yz (J d) c5 e6 (Y R) (oN da.o) aA;clear af em ed M br;refine hK _ _ ⟨y5,i5⟩ λig=>?_;clear hK;refine Yc 7 λN_ hK=>?_;go_simp;refine⟨JV,(bM.2 M_.o).mono ?_⟩;rintro e w6⟨a6,c6,rfl,cj,ee⟩;have aj:=Y<|Xg ct.o cj;have y6:=G (XU aj.o O) b4;have i6:=oB aj e1 (by have:=v.4;show Bx<_;omega);have e7:=Y ee;have h6:=aj.4;have h7:=cj.4;have h5:=ct.4;clear cj ee M_ y5 i5;refine hK _ _ ⟨y6,i6⟩ λig=>?_;clear hK;refine Yi 8 ?_;have fr:=Y<|cf.below aj.o O;have fa:=Y<|H0.o w6 O (Xg cw.o aj.o);obtain⟨fn,tmps,df,bo,P_,r⟩:=HY.o [] ⟨J x.2+1,a6,c6,d,U,0,[]⟩ w6 fa.o ⟨ci.o _ (by show((J x.2+1:N),d,([]:Wc))∈NS x;rw[aq.o];exact cI),e7.mono O<|aA,λl hi=>Sz hi sP⟩ sP;have P:(Instr.yield n #[H<|(J x.2:I)+1,Sa #[X a6 (J d) c6,Hq]]).run prog w6=_:=P_;clear P_;refine Yc 9 λN_ hK=>?_;go_simp;refine r.mono ?_;rintro e p (⟨rfl,ar,z,bx⟩|⟨rfl,ar,z,bx⟩);rotate_left
 .have b8:=Y ar;have C:=z.cell y6<|a8.o _ bc;have i3:=z.cell i6 bp.o;clear ar z bx P r;refine hK _ _ ⟨C,i3⟩ λig=>?_;clear hK ig;have ig:(λB:Ub=>E B (A (Z W.1) 0)=S (.func (.yield n) #[] #[])/\E B (A Bx 1)=S (X Q_ (J x.2) ic)) p:=⟨C,i3⟩;refine Yi 10 ?_;refine ZV ?_;clear ig y6 i6 b4 e1;gi_wp2;exact⟨St #[],gV R _ _ _,⟨_,R⟩,.inr ⟨_,by show[((J x.2+1:N),d,([]:Wc))] <+: NS x;rw[aq.o];exact⟨_,R⟩,b8.o⟩⟩
 have b8:=Y ar;have hd:=Y z;have hb:=Y bx;have fj:=Y<|fr.kp z hM.o bp.o dl.o dn.o;have C:=z.cell y6<|a8.o _ bc;have i3:=z.cell i6 bp.o;have hz:=z.1;clear ar z bx P r;refine hK _ _ ⟨C,i3⟩ λig=>?_;clear hK ig
 have ig:(λB:Ub=>E B (A (Z W.1) 0)=S (.func (.yield n) #[] #[])/\E B (A Bx 1)=S (X Q_ (J x.2) ic)) p:=⟨C,i3⟩;refine Yi 10 ?_;refine ZV ?_;clear ig y6 i6 b4 e1;gi_wp2;refine⟨JV,(V6 Fence.wide 6 JV R Q_ (J x.2) ic p).mono ?_⟩;rintro e K⟨rfl,b3⟩;have w:Sw (Z p.1) p K:=by rw[b3];exact Xb Rf _
 have er:Z K.1=Z p.1+1:=by rw[b3];simp
 have ep:E K (A (Z p.1) 0)=S (X Q_ (J x.2) ic):=by rw[b3];simp[go_sem]
 have dc:=Y<|fj.below w O;have e9:=Y<|XO X_.o b8.o w;have y4:=G (XU w O) C;have ev:=Y w;have I3:=Y i3;clear b3 w C i3;have fl:=Y ep;have he:=Y er;have g5:Z W.1<Z K.1:=O;have fx:Q (Z p.1<Z K.1):=Y O;have L_:Q (Z L.1<=Z K.1):=Y O;have fz:=Y y4;clear ep er y4;gi_wp2
 have gd:¬O_ (Z p.1):=a8.o _ O;refine wpIn_rangeFunc_ownH (F:=Fence.wide) (n:=7) R vY (gf:=201) (lb:=#[Hn (Z p.1)]) R JV (enters_of func201 vZ R) (VE Fence.wide 6 JV R vY O_ O v.5 hM.o gd (aJ v.8 L_.o) fx.o fl.o (Y ?inss)) (λF k=>F.trans k) (λV R_ o o' f i g _=>Zf.putObj V R_ o o' (aJ v.8<|aJ L_.o f) i g) Rf (λ_=>R)
  (λh V=>∃a:List Pl,a.map Pl.dat=(J x.2+1,d,[])::h.map (VH x)/\f5 a V/\UI x ch b5 Bx cs (Z L.1) V/\E V (A (Z W.1) 0)=S (.func (.yield n) #[] #[])/\Z K.1<=Z V.1)
  (λc_ h V=>c_=.ret/\∃a:List Pl,a.map Pl.dat=(J x.2+1,d,[])::h.map (VH x)/\Jx a V)
  ?ownI ?ownX ?start
  (λj a' V=>∃b,a'=⟨#[.func (.yield n) #[] #[],Hn Bx,Hn (Z W.1),H ((j:N):I),Hn b,Su,Su,Su,.func (.yield n) #[] #[],Ho Bx 1,X Q_ (J x.2) ic,H (J x.2:I),H<|(J x.2:I)+1,Ho Bx 2,X a5 (J d) c5,X a6 (J d) c6,Sa #[X a6 (J d) c6,Hq],Sb So,Sb Sn,Ho Bx 1,X Q_ (J x.2) ic,.func (.func 201) #[] #[Hn (Z p.1)],H ((j:N):I),mj x.2[j],Su,Su,Su,Su,Su,Su,Su,Su,Su,Su,Su,Su,Su,Su,Su,Su,Su,Su,Su,Su,Su,Su,Su,Su,Su,Su,Su,Su,Su],[]⟩/\Z K.1<=b/\Jk V b 0 x.2[j]) ?ownA ?assign ?body ?done ?stop
 case inss=>
  obtain⟨g7,g8,es,g6,_,f1,_,_,f4⟩:=dc.3;simp only[aV]at f1;have gi:es=Q_:=by have g:=oB ev I3.o (by show Bx<_;have:=v.4;omega);rw[f1]at g;injection g with g;injection g
  rw[<-gi];exact f4
 case ownI=>
  rintro h S_ V row⟨a,m,T,c,t,p5⟩ k q;have dz:∀l,l<Z K.1->V.1[l]?=S_.1[l]?:=λl hi=>k.5 l O (λe=>by have:=(q l e.symm).1;omega);refine⟨a,m,X_.o a S_ V row T k λbd e=>⟨oN<|(q bd e).1,(q bd e).2⟩,c.same (λl hi=>dz l<|aX hi L_.o) k.4,?_,aJ p5 k.4⟩;exact G (Xc<|dz _ g5) t
 case ownX=>
  rintro c_ h S_ V row⟨rfl,a,p0,m⟩ k q;exact⟨R,a,p0,cc.o a S_ V row m k λbd e=>⟨oN<|(q bd e).1,(q bd e).2⟩⟩
 case start=>exact⟨[⟨J x.2+1,a6,c6,d,U,0,[]⟩],R,e9.o,dc.o,fz.o,aA⟩
 case ownA=>
  rintro j a' _ S_ V row⟨b,e,dw,y⟩ k q;have gf:V.1[b]?=S_.1[b]?:=by obtain⟨o,f,i⟩:=Yn y.1;refine k.5 b (aS.1 f).1 λe=>?_;obtain⟨_,o2,g,h4⟩:=q b e.symm;rw[show S_.1[b]?=S o from f]at g;injection g with g;subst g;rw[i]at h4;cases h4
  have s:=λo=>Xc (o:=o) gf;exact⟨b,e,dw,G (s _) y.1,G (s _) y.2.1,G (s _) y.2.2.1,G (s _) y.2.2.2.1,G (s _) y.2.2.2.2⟩
 case assign=>
  intro R_ h j V N_ hI hK;have HI:=Y hI;have fb:=Y hK;clear hI hK;unfold mj;gi_wp2;have Y_:Sw (Z V.1) V (D V<|Sc #[H x.2[j].1,H x.2[j].2,H x.2[j].a,H x.2[j].b,H x.2[j].5] 62):=Xb Rf _;obtain⟨a,m,T,c,t,p5⟩:=HI.o;refine fb.o _ _ ⟨Y_.4,λk o _ f _=>G (Y_.5 k (aS.1 f).1) f⟩ (Z4 Y_<|oP L_.o v.8) ⟨a,m,XO X_.o T Y_,c.below Y_<|oN L_.o,oB Y_ t O,aJ p5 Y_.4⟩ ⟨Z V.1,R,p5,?_⟩;exact⟨SC,SC,SC,SC,SC⟩
 case body=>
  rintro R_ h j a' V hm _⟨a,m,T,c,t,p5⟩ ⟨b,rfl,dw,y⟩ hn;have D_:=Y m;have cd:=Y T;have bm:=Y c;have gs:=gt.o x.2[j] (aH _);obtain⟨kk,b0⟩:=bX (show 0<=x.2[j].1 by omega);have eg:1<=kk:=O;have ei:kk<=13:=O;have ge:b<Z V.1:=aI V _ y.1;have ab:Q (Jk V b 0 ⟨(kk:I),x.2[j].2,x.2[j].a,x.2[j].b,x.2[j].5⟩):=Y (by rw[<-b0];exact y);have en:Iw ⟨(kk:I),x.2[j].2,x.2[j].a,x.2[j].b,x.2[j].5⟩=Iw x.2[j]:=by rw[<-b0]
  have eq:BW ⟨(kk:I),x.2[j].2,x.2[j].a,x.2[j].b,x.2[j].5⟩=BW x.2[j]:=by rw[<-b0]
  have M:=Y<|vf b kk x.2[j].2 x.2[j].a x.2[j].b x.2[j].5 V.drew (Y ab.o) eg ei (Y bm.1);have bn:Q (∀V',Sw (Z V.1) V V'->_):=Y (λV' (hV:Sw (Z V.1) V V')=>UH b x.2[j].2 x.2[j].a x.2[j].b x.2[j].5 V' (Y (by
   have s:=λo=>hV.cell (p:=A b o) ge
   exact⟨G (s _) ab.1,G (s _) ab.2.1,G (s _) ab.2.2.1,G (s _) ab.2.2.2.1,G (s _) ab.2.2.2.2⟩)) eg ei (Y (bm.below hV<|oN L_.o).1))
  rw[en]at M;simp only[eq]at bn;obtain⟨ui,b1⟩:∃I_,I_=Iw x.2[j]:=⟨_,R⟩;obtain⟨di,bv⟩:∃I_,I_=BW x.2[j]:=⟨_,R⟩;rw[<-b1]at M;simp only[<-bv]at bn;have cg:=Y b1;have b6:=Y bv;have hs:J ui<=2:=by rw[b1];exact oU _
  have hg:J di<=1:=by rw[bv];unfold BW;split<;>simp
  clear b1 bv en eq y m T c b0 gs;have ce:Q (J a<J x.2+1):=Y (by have F:=fI List.length D_.o;simp at F;omega)
  have hw:S6.wrap (((j:N):I)+1)=((j:N):I)+1:=by have:=j.2;rw[dF];omega
  gi_wp2;refine Tc (λB=>E B (A (Z W.1) 0)=S (.func (.yield n) #[] #[])) λig=>?_;refine Yi 0 ?_;refine Yi 1 ?_;refine Yi 2 ?_;refine Yc 3 λN_ hK=>?_;go_simp;refine⟨JV,(CallsIn.inRound R_<|bM.2 M.o).mono ?_⟩;rintro e V1⟨v1,rfl,ad,ek⟩;obtain⟨a1,c1,rfl,d0⟩:=Xk ek;have aa:Q (Sw (Z V.1) V V1):=Y ⟨ad.1,ad.2,ad.3,ad.4,ad.5⟩;have cz:Q (Xf V1 (Z V.1) (Z V1.1) a1 ui):=Y d0;have y1:=G (XU aa.o O) t;have M_:=Y<|Yz (J ui) c1 cz (Y R) O aA;clear ad ek d0 M;refine hK _ _ y1 λig=>?_;clear hK;refine Yc 4 λN_ hK=>?_;go_simp;refine⟨JV,(CallsIn.inRound R_<|bM.2 M_.o).mono ?_⟩;rintro e V2⟨a2,c2,rfl,ds,ea⟩;have bf:=Y<|Xg aa.o ds;have c7:=Y<|ea.mono aa.4 aA;have y2:=G (XU bf.o O) t;have dd:=Y<|bn.o V2 bf.o;clear ds ea M_ y1 aa;refine hK _ _ y2 λig=>?_;clear hK;refine Yc 5 λN_ hK=>?_;go_simp;refine⟨JV,(CallsIn.inRound R_<|bM.2 dd.o).mono ?_⟩;rintro e V3⟨v3,rfl,bq,el⟩;obtain⟨a3,c3,rfl,eb⟩:=Xk el;have c8:=Y<|(c7.keep bq).mono aA bq.4;have bh:=Y<|Xg bf.o bq;have c9:=Y eb;have C:=G (XU bh.o O) t;have M_:=Y<|Yz (J di) c3 c9 (Y R) O aA;clear bq el eb y2;refine hK _ _ C λig=>?_;clear hK;refine Yc 6 λN_ hK=>?_;go_simp;refine⟨JV,(CallsIn.inRound R_<|bM.2 M_.o).mono ?_⟩;rintro e V4⟨a4,c4,rfl,w,ec⟩;have ey:=Y<|(c8.keep w).mono aA w.4;have U_:=Y<|Xg bh.o w;have ez:=Y<|ec.mono bh.4 aA;have y4:=G (XU U_.o O) t;clear w ec M_ C;refine hK _ _ y4 λig=>?_;clear hK;refine Yi 7 ?_;have ac:Z L.1<=Z V.1:=oN L_.o;have fq:=Y<|bm.below U_.o ac;obtain⟨fn,tmps,df,bo,P_,r⟩:=KY (l':=R_) (m':=4) (HY.o a ⟨(j:N)+1,a2,c2,ui,a4,c4,di⟩ V4 (XO X_.o cd.o U_.o) ⟨ci.o _ (by have F:=t6 x j;unfold VH at F;rw[<-cg.o,<-b6.o]at F;exact F),ey.mono ac<|aA,ez.mono ac<|aA⟩ (oN ce.o));have P:(Instr.yield n #[H<|((j:N):I)+1,Sa #[X a2 (J ui) c2,X a4 (J di) c4]]).run prog V4=_:=P_;clear P_;refine Yc 8 λN_ hK=>?_;go_simp;refine r.mono ?_;rintro e V5 (⟨rfl,az,Z_,a9⟩|⟨rfl,az,Z_,a9⟩);rotate_left
  .have y5:=Z_.cell y4<|a8.o _ bc;have ca:=Y az;have bl:=Y Z_;have b7:=Y a9;clear az Z_ a9 P r;refine hK _ _ y5 λig=>?_;clear hK;refine Yi 9 ?_;refine ZV ?_;gi_wp2;have bb:=(Z4 U_.o<|aJ v.8 ac).trans bl.o;refine⟨⟨bb.1,λk o f i g=>b7.2 k o O (G (U_.5 k (aS.1 i).1) i) g⟩,R,a++[⟨(j:N)+1,a2,c2,ui,a4,c4,di⟩],?_,ca.o⟩;rw[bG,D_.o,bG];show _=(J x.2+1,d,[])::(h.map (VH x)++[VH x j]);rw[<-cW];congr 1;unfold VH Pl.dat;simp only[eH,fZ];rw[cg.o,b6.o]
  have y5:=Z_.cell y4<|a8.o _ bc;have ca:=Y az;have bl:=Y Z_;have b7:=Y a9;clear az Z_ a9 P r;refine hK _ _ y5 λig=>?_;clear hK
  refine Yi 9 ?_;refine ZV ?_;gi_wp2;have bb:=(Z4 U_.o<|aJ v.8 ac).trans bl.o;refine⟨⟨bb.1,λk o f i g=>b7.2 k o O (G (U_.5 k (aS.1 i).1) i) g⟩,bb,a++[⟨(j:N)+1,a2,c2,ui,a4,c4,di⟩],?_,ca.o,fq.kp bl.o hM.o bp.o dl.o dn.o,y5,aJ p5 bb.1⟩;rw[bG,D_.o,bG];show _=(J x.2+1,d,[])::(h.map (VH x)++[VH x j]);rw[<-cW];congr 1;unfold VH Pl.dat;simp only[eH,fZ];rw[cg.o,b6.o]
 case done=>
  rintro be ys V hD rfl⟨a,m,T,c,t,p5⟩ a7;have D_:=Y m;have cd:=Y T;have bm:=Y c;have ao:=Y a7;have fe:=Y t;obtain⟨g7,g8,es,g6,f0,f1,_,f3,_⟩:=c.3;have fi:=Y f3;have ga:Bx<Z V.1:=aI V _ f0;have f7:=λo=>G (bP V o (A Bx 0) ga) f0;have gv:Z W.1<Z V.1:=O;clear f1 f3 m T c a7 f0 t;obtain⟨i0,gh,g0,g3,g4⟩:=fX RF;gi_wp2;clear f7
  gi_loopw [38] (λl wr=>∃k:N,k<=J x.1/\l=H k/\Q (Sw (Z V.1) V wr)/\E wr (A (Z V.1) 0)=S Hq/\wr.frozen? (A (Z V.1) 1)=Sn/\∃I_,E wr (A (Z V.1) 1)=S I_/\Q (Sx wr (Z V.1+1) 132 1 I_ k (((x.1.map Ph.dst).take k).map (Si S6)))) λl _=>J x.1-(JB l).toNat
  .exact⟨0,aN,R,Y<|Xb Rf _,SC,SC,Hq,SC,Y<|dA⟩
  obtain⟨k,hh,rfl,T_,c0,z1,I_,c1,HO⟩:=hrel;by_cases ej:k<J x.1
  .obtain⟨f6,o,rfl,hf,ap,cp,f,i,_⟩:=fi.o k ej;have du:f6<Z V.1:=aI V _ f;have g1:=oB T_ f du;have g2:=oB T_ i du;have HN:Q ((x.1.map Ph.dst).take (k+1)=(x.1.map Ph.dst).take k++[x.1[k].1]):=Y (by rw[X7<|by simpa using ej];simp);have co:Z V.1<Z wr.1:=aI wr _ c0;clear f i;generalize x.1[k]=ph at*;generalize (x.1.map Ph.dst).take k=dk at*
   gi_wp2_with (gi_at_builtin;refine wpListIn_append_own _ R _ _ 214 R (Z V.1+1) 132 i0 (H 0) 1 8 underlying214 gh g0 g3 g4 R vY _ _ _ R ((HO.alloc _).alloc _) (A (Z wr.1+1) 0) 1 1 [H ph.1] R R ?c1 ?c2 ?c3 ?c4 ?c5 ?_)
   case c1=>
    intro j I_ hj
    match j,hj with
    |0,hj=>simp at hj;subst hj;simp[Addr.add,go_sem]
   case c2=>intro I_ hu;simp at hu;subst hu;rfl
   case c3=>unfold maxLen;omega
   case c4=>omega
   case c5=>simp;omega
   intro v1 w1 cn ck _;obtain⟨av,cv,hv,_⟩:=Xk (xs:=dk++[ph.1]) (by rw[Yl];exact cn);have HV:=Y hv;have db:=Y cn;have aa:=Y (Xy (Xb (Xb T_.o _) _) ck ((HO.alloc _).alloc _) O (by have:=T_.4;simp;omega));have bt:=YJ ck ((HO.alloc _).alloc _) (b:=Z V.1) O SB;have k0:=G (Xc bt) (oB (Xb (Xb (dC (Z wr.1) wr) _) _) c0 co);have k1:=G (Xc bt) (oB (Xb (Xb (dC (Z wr.1) wr) _) _) c1 co);have kz:w1.frozen? (A (Z V.1) 1)=Sn:=by rw[bJ (a:=(A (Z V.1) 1)) bt];exact G ((Xb (Xb (dC (Z wr.1) wr) _) _).frozen (p:=A (Z V.1) 1) co) z1
   clear cn ck bt c0 c1 z1;rw[hv];clear hv;gi_wp2;have cr:=HV.o;rw[aQ,bA,bO,aV]at cr;rw[<-cr];clear cr;refine⟨⟨k+1,O,gM,Y<|aa.setCell aA _,?_,?_,v1,?_,Y ?_⟩,SA⟩;·exact G (@cJ w1 (A (Z V.1) 1) (A (Z V.1) 0) v1 sP) k0
   .exact G (eX _ _ _ _) kz
   .exact iL w1 _ v1<|by rw[k1];rfl
   rw[HN.o,Yl];exact db.kept (row:=S (Z V.1)) ⟨R,R,R,SH,λk _ hk=>cY λe=>hk<|by rw[e]⟩ (aZ λe=>by have:=(db.lt _ e).1;omega)
  have gr:k=J x.1:=O;subst gr;have cm:=HO.o;rw[aW sP]at cm;obtain⟨av,cv,rfl,ef⟩:=Xk cm;have e8:=Y ef;have ac:Z L.1<=Z V.1:=oN L_.o
  have gg:=(aS.1 ao.o).1;have cx:=Y<|G (T_.5 be gg) ao.o;have yr:=oB T_ fe.o gv;have ce:Q (J a=J x.2+1):=Y (by have F:=fI List.length D_.o;simp[Vf]at F;omega)
  clear cm ef;obtain⟨fn,tmps,df,bo,P_,r⟩:=HY.o a ⟨0,U,0,[],av,cv,x.1.map Ph.dst⟩ wr (XO X_.o cd.o T_.o) ⟨ci.o _<|tE x,λl hi=>Sz hi sP,e8.mono O<|aA⟩ (oN ce.o);have P:(Instr.yield n #[H 0,Sa #[Hq,X av (J (x.1.map Ph.dst)) cv]]).run prog wr=_:=P_;rw[bK]at P c1;clear P_;gi_wp2;refine r.mono ?_;rintro e V9 (⟨rfl,a0,cl,ba⟩|⟨rfl,a0,cl,ba⟩);rotate_left
  .have cb:=Y a0;have al:=Y<|ba.2 be _ O cx.o R;clear a0 cl ba P r;gi_wp2;refine YK al.o ⟨St #[],gV R _ _ _,⟨_,R⟩,.inr ⟨a++[⟨0,U,0,[],av,cv,x.1.map Ph.dst⟩],?_,cc.putObj _ cb.o O al.o R⟩⟩;rw[bG,D_.o,aq.o];exact mD _
  have cb:=Y a0;have al:=Y<|ba.2 be _ O cx.o R;clear a0 cl ba P r;gi_wp2;refine YK al.o ⟨St #[],gV R _ _ _,⟨_,R⟩,HE.o (a++[⟨0,U,0,[],av,cv,x.1.map Ph.dst⟩]) _ ?_ (X_.putObj _ cb.o O al.o R)⟩;rw[bG,D_.o,aq.o];rfl
 rintro be c_ h V hD⟨q,hq⟩ ⟨rfl,a,p0,m⟩ a7;have fc:=Y p0;have HQ:=Y hq;clear p0 hq;have D_:=Y m;have ao:=Y a7;clear m a7;gi_wp2;refine YK ao.o ⟨St #[],gV R _ _ _,⟨_,R⟩,.inr ⟨a,?_,cc.putObj _ D_.o O ao.o R⟩⟩;rw[fc.o,aq.o,HQ.o];obtain⟨g9,ht⟩:=Bu (J x.2) q;refine⟨g9.map (VH x)++[(0,[],x.1.map Ph.dst)],?_⟩;unfold NS;rw[cW,<-cK,<-bG,ht]
end
theorem lf.seqN{c:Type}{F}{i:c->Zh}{g:c->Vy}{d:Ub->Vy}{K Sp:List c->Prop}(h:lf F n R_ m E_ (λ_=>i) (λ_=>g) d K Sp k False False w):pp F n R_ m E_ i g d K k w:=by
 intro L M W q t j r o;refine(h L (λ_=>M) (λ_ _=>False) W q t (λ_=>j) (λ_ _ _ _ h _ _=>h) (λf=>f.elim) (λf=>f.elim) (λz l B V _ b v u=>(r l B V b v u).mono λe P h=>bC h) λz V _ _ a=>j [] W V U o ⟨a.1,a.2,a.3,a.4,λy s _=>a.5 y s⟩ λT e=>by cases e).mono ?_;rintro e V⟨x,⟨z,C,_,p,b⟩|⟨l,_,f⟩⟩;·exact⟨x,C,p,b⟩
 exact f.elim
theorem BM{Bx}(a)(c:N×Wc×Wc->Prop)(b:Q (P0 q n m Bx (Z w.1) w))(d:Q (∀k,n<=k->k<m->¬a k))(h:Q (¬a Bx))(g:Q (∀k,Z w.1<=k->¬a k))(e:Q (¬a 2))(f:Q (¬a 1))(o:Q (∀y∈q.2,1<=y.1/\y.1<=13))(p:1<=q.3.1/\q.3.1<=3)(j:J q.2<=4000)(l:J q.1<=4000)(i:Q (∀r∈NS q,c r)):
 pp Fence.wide 7 prog 168 #[Hn Bx] pf (og (Z w.1) c) (Zf (Z w.1) a) (λs=>s.map Pl.dat=NS q) (J q.2+2) w :=
 lf.seqN (uy (Z w.1) Bx n m a c q w (Y ⟨b.1,b.2,b.3,b.4,b.5,b.6,b.7,aA⟩) d h g e f o p j l i)
section
attribute [local go_sem] Oper.semAt_some
def O7(a:Wa):List Deferred:=a.map λb=>{ target:=.collected b,args:=#[] }
structure ZJ(W:Ub)(B:N)(ds:Wa):Prop where
 nd:ds.Nodup
 ge:∀D_∈ds,B<=D_
 obj:∀D_∈ds,W.1[D_]?=S (.deferred (S []))
theorem U4{F n}{P:Yh}{d}{tmps:Zh}{o:Ending->Vy}{B}:∀(b:Wa)(W:Ub),ZJ W B b->B<=Z W.1->(∀a,Sw B W a->∃v,(JC d tmps).run P a=.ok v a/\o (Rt v) a)->LeavesInM F n P d tmps o (O7 b) .returning W
 |[],W,_,_,h=>h W<|Rf
 |l::b,W,hm,hB,h=>by refine⟨sP,bC ⟨l,_,R,run_takeDeferred<|hm.3 l cI,?_⟩⟩;have g:=hm.2 l cI;have f:Sw B W (W.putObj l<|.deferred U):=(dC B W).grown (grownBy_putObj' W l _) hB (λk e=>by cases e;exact g);refine U4 b _ ⟨(fL.1 hm.1).2,λk c=>hm.2 k<|cN _ c,λk c=>?_⟩ (aJ hB f.4) λa k=>h a<|f.trans k;exact G (World.putObj_heap_other λe=>(fL.1 hm.1).1 (by rw[<-e];exact c)) (hm.3 k<|cN _ c)
theorem uR{wr}(h:ZJ wr n s)(f:Z wr.1<=m)(hK:w.1[m]?=S (.deferred (S [])))(d:∀a,a<Z wr.1->a≠k->w.1[a]?=wr.1[a]?)(e:k<n/\n<=Z wr.1):ZJ w n (m::s):=by
 have c:=λa b=>(aS.1<|h.3 a b).1;refine⟨fL.2 ⟨λa=>by have:=c m a;omega,h.1⟩,λa b=>?_,λa b=>?_⟩
 .rcases cH.1 b with rfl|b;·omega
  exact h.2 a b
 obtain rfl|b:=cH.1 b;·exact hK
 exact G (d a (c a b) (oN<|h.2 a b)) (h.3 a b)
theorem Bk(L){c0}{aq:List Wa}{B2}(ci:Q (XR w j B2 p<|aq.map Xi))(K_:Q (n=J aq))(a8:Q (Xf w g i (S ⟨m,k,U⟩) (Xi s)))(h0:Q (B=J s))(hn:n<=1000)(aa:0<n)(dl:B<=1000)(dn:0<B)(en:B<=c0)(b0:i<=Z w.1)(dc:B2<=Z w.1)(N_:Q (∀M_∈s,M_<n))(ch:Q (∀U_∈aq,J U_<=2000/\∀ed∈U_,ed<n)):
 Sk prog 184 #[X p n L,Hm m k B c0] w λe w'=>∃a3 l,e=Rt (Hl a3 n n)/\Z w.1<=a3/\Sw (Z w.1) w w'/\w'.rowIs a3 2 n (λc=>H<|VB l s B c)/\∀M_,M_<n->∀x,x<n->(Xh (l M_) x=So↔Sp (Nt n) (N7 n) (·∈s) (λM_=>aq.getD M_ []) M_ x):=by
 have bb:=Y λW (hb:Sw (Z w.1) w W)=>A5 p L c0 j B2 (Y<|ci.keepS λb _ S_=>(hb.mono dc).5 b S_) K_ (Y<|a8.keep (hb.mono b0)) h0 hn aa dl dn (oN hb.4) (oN hb.4) N_ ch;have ei:(n+63)/64<=16:=O;have ej:n<=64*((n+63)/64):=O;generalize (n+63)/64=a2 at*;refine(bM (n:=4)).1 ?_;refine callsIn_of_wp_marks func184 R JV ?_ R;simp only[ntmps184,xY,Nat.reduceAdd,Nat.reduceSub];gi_wp2;refine⟨JV,(bM.2<|bb w Rf).mono ?_⟩;rintro e r⟨Q_,gs,l,rfl,a5,ap,cj,cd⟩;have bc:=Y a5;have bo:=Y ap;have da:=Y cj;have cz:=Y cd;have eg:=ap.1.lt;have cx:=Y λa hi=>(ap.2 a hi).lt;have ez:=a5.4;clear a5 ap cj cd;gi_wp2;refine⟨JV,(bM.2<|BK (Z r.1+1) (D (D r<|Sc #[Hl Q_ n n] 344) (Sc #[H (-1)] 2)) hn aa SC sP).mono ?_⟩;rintro e q⟨d,rfl,ca,Y_,a9⟩;have bd:=Y<|Xg (Xb (Xb bc _) _) Y_;have e0:Z r.1+2<=Z q.1:=by have:=Y_.4;simp at this;omega
 have et:Z r.1+2<=d:=by simp at ca;omega
 have eu:=a9.lt;have bp:=Y<|(bo.keep<|Xb (Xb Rf _) _).keep Y_;have bt:Cl q (Z r.1) 0 (Hl Q_ n n):=G (Y_.cell (p:=A (Z r.1) 0) (by show Z r.1<_;simp;omega)) SC;have bl:=Y a9;clear Y_ a9 ca;gi_wp2;have az:Q (Sw (Z w.1) w<|D q (Sc #[Hl d n n] 23)):=Y<|Xb bd _;have bm:Q ((D q<|Sc #[Hl d n n] 23).rowIs d 2 n λc=>H<|VB l s 0 c):=Y<|bl.alloc _;have c8:=Y<|bp.keep (Xb Rf (Sc #[Hl d n n] 23));have bv:E (D q<|Sc #[Hl d n n] 23) (A (Z r.1) 0)=S (Hl Q_ n n):=G (bP _ _ _<|by show Z r.1<_;omega) bt;have b3:E (D q<|Sc #[Hl d n n] 23) (A (Z q.1) 0)=S (Hl d n n):=SC
 have eb:Z q.1<Z (D q<|Sc #[Hl d n n] 23).1:=sP;clear bt;generalize D q _=P_ at*;have ct:=Y bv;have bf:=Y b3;have bi:=Y<|a8.keep (az.mono b0);have cl:=az.4;clear bv b3;refine nH (λT wr=>∃(a:N)(R_:Wa)(u7 u8 u21 u22 cn co cp cq cr cs u42:Uj),a<=B/\T=⟨#[X p n L,Hm m k B c0,Su,Su,Hq,Hn (Z r.1),Hn (Z q.1),u7,u8,Su,Su,X p n L,Hm m k B c0,Hl Q_ n n,Hl (Z r.1+1) 1 1,X p n L,H n,Hl d n n,Hm m k B c0,H B,H a,u21,u22,cn,co,cp,cq,cr,cs,Su,Su,Su,Su,Su,Su,Su,Su,Su,Su,Su,Su,Su,u42,Su],O7 R_⟩/\Q (P_.grownBy wr<|S d)/\Q (wr.rowIs d 2 n λc=>H<|VB l s a c)/\Q (ZJ wr (Z P_.1) R_)) (λT _=>B-(JB<|T.1.getD 20 Su).toNat) ?_ ?_;·exact⟨0,[],_,_,_,_,_,_,_,_,_,_,_,aN,R,Y<|lJ _ _,bm,Y ⟨iU,λ_ F=>(by cases F),λ_ F=>(by cases F)⟩⟩
 rintro T wr⟨a,R_,u7,u8,u21,u22,cn,co,cp,cq,cr,cs,u42,hi,rfl,M,HR,HM⟩;by_cases ev:a<B;rotate_left
 .have di:a=B:=O;subst di;have el:=G (bZ<|M.5 (Z q.1) eb λe=>by injection e with e;omega) bf;gi_wp2;refine U4 R_ wr HM M.4 λW' b7=>?_;refine⟨Hl d n n,by simp[JC,results184,go_sem],d,l,R,O,?_,?_,cz⟩;·exact(az.grown M cl λb e=>by cases e;omega).trans (b7.mono cl)
  exact HR.of_block<|b7.5 d O
 have al:a<J s:=oN h0.o;let⟨t,P,er,em,bq⟩:=bi a (by simpa [Xi]using al);have a6:=N_ _<|aH al;have du:(Xi s)[a]'(by simpa [Xi]using al)=((s[a]:N):I):=by simp[Xi]
 rw[du]at bq;obtain⟨rfl,rfl⟩:t=m/\P=k:=by injection er with er;injection er with e1 e2;exact⟨e1.symm,e2.symm⟩
 have dd:t<Z P_.1:=O;have V:t≠d:=O;have ep:=G (bZ<|M.5 t dd λe=>V<|by injection e) bq;have eq:a<=c0:=O;have cc:s.getD a 0=s[a]:=by simp[al]
 have ad:=Y cc;have ea:=M.4;have cb:d<Z P_.1/\Z P_.1<=Z wr.1:=⟨O,ea⟩;have bh:=Y cb;clear cc cb;gi_wp2;refine⟨JV,(Ba Fence.wide 3 JV R a c0).mono ?_⟩;rintro e v⟨rfl,ab⟩;rw[aO];have ck:Z v.1=Z wr.1+2:=by rw[ab];simp
 have b8:E v (A (Z wr.1) 0)=S (H ((s[a]:N):I)):=by rw[ab];simp[go_sem]
 have d0:E v (A (Z wr.1+1) 0)=S (Hm t P a c0):=by rw[ab];simp[go_sem]
 have o:Sw (Z wr.1) wr v:=by rw[ab];exact Xb (Xb Rf _) _
 clear ab;have a7:∀b,b<Z P_.1->b≠d->v.1[b]?=P_.1[b]?:=λb f V=>G (o.5 b O) (M.5 b f λe=>V<|by injection e)
 have dz:∀K,K<a->E v (A t<|P+K)=S (H ((s[K]?.getD 0:N):I)):=λK hj=>by
  let⟨b5,o5,e5,h5,e6⟩:=bi K (by simp[Xi];omega);injection e5 with e5;injection e5 with e1 e2;subst e1;subst e2;have dj:K<J s:=O;have dw:(Xi s)[K]'(by simp[Xi];omega)=((s[K]:N):I):=by simp[Xi]
  rw[dw]at e6;rw[aC dj,gR];exact G (bZ<|a7 t O O) e6
 have ce:=HR.of_block<|o.5 d O;have bn:=Y ce;have c9:Q (Ye v Q_ n a2 gs l):=Y ((c8.grown M O λK hj e=>by have:=cx K hj;omega).keep o);have bx:=G (bZ<|a7 (Z r.1) O O) ct;have b4:=G (bZ<|a7 (Z q.1) O O) bf;have cw:=Y b8;have cv:=Y bx;have c6:=Y b4;have ee:=Y ck;have e7:Z wr.1+2<=Z v.1:=O;clear ck b8 bx b4 ce;gi_wp2
 refine wpIn_rangeFunc_ownF (F:=Fence.wide) (n:=4) R vY (gf:=232) (lb:=#[Hn<|Z wr.1+1]) R JV (enters_of func232 vZ R) (AA Fence.wide 3 JV R vY N_ aa O O O d0 dz) belowK_t (belowK_b<|aA) Rf (λ_=>R)
  (λV_ W=>Sw (Z v.1) v W/\∀C∈V_,Xh (l s[a]) C.1.2=So)
  (λc_ V_ W=>c_=.exit 2/\∃ac x,V_=ac++[x]/\(∀C∈ac,Xh (l s[a]) C.1.2=So)/\Xh (l s[a]) x.1.2=Sn/\v.grownBy W (S d)/\W.rowIs d 2 n λc=>H<|if c=s[a]then (x.1.2:I)else VB l s a c)
  (λec W W' row K_ y O_=>⟨K_.1.grown y K_.1.4 λb e=>(O_ b e).1,K_.2⟩)
  (λc_ ec W W' row K_ y O_=>by let⟨hc,ac,x,e,h1,S_,T_,cg⟩:=K_;refine⟨hc,ac,x,e,h1,S_,⟨G y.1 T_.1,G y.2 T_.2,G y.3 T_.3,aJ T_.4 y.4,λb f V=>G (y.5 b (aX f T_.4) λe=>by have:=(O_ b e.symm).1;omega) (T_.5 b f V)⟩,cg.of_block (y.5 d cg.lt λe=>by have:=(O_ d e.symm).1;omega)⟩)
  ⟨Rf,λ_ F=>by cases F⟩
  (λx=>⟨#[X p n L,Hm t P B c0,Su,Su,Hq,Hn (Z r.1),Hn (Z q.1),H a,Hn (Z wr.1),Su,H (x.1.2:I),X p n L,Hm t P B c0,Hl Q_ n n,Hl (Z r.1+1) 1 1,X p n L,H n,Hl d n n,Hm t P B c0,H B,H a,Sb So,H a,Ho t<|P+a,H ((s[a]:N):I),Hm t P B c0,H a,Hm t P a c0,.func (.func 232) #[] #[Hn<|Z wr.1+1],H (x.1.1:I),H (x.1.2:I),Su,Su,Su,Su,Su,Su,Su,Su,Su,Su,Su,u42,Su],[]⟩) ?assign ?body ?done ?stop
 case assign=>
  intro U_ x W a2 hK;gi_wp2;exact hK
 case body=>
  rintro U_ V_ x W⟨z,X_⟩ _;have b1:=G (XU z O) cw;have db:=G (XU z O) cv;have b6:=G (XU z O) c6;have a4:=c9.keep z;have df:=a4.1.cell a6;have ey:=x.2;have ba:=Y X_;have h:=Y z;have cf:=bn.of_block<|z.5 d O;have aj:=Y cf;have af:=Y<|Jm (gs s[a]) a2 x.1.2 (l s[a]) W (Y<|da.o s[a]) (Y (a4.2 s[a] a6).to_row) O O;clear X_ z cf a4;cases hh:Xh (l s[a]) x.1.2 with
  |true=>
   have HH:=Y hh;rw[hh]at af;clear hh;gi_wp2;refine⟨JV,(CallsIn.inRound U_<|bM.2 af).mono ?_⟩;rintro e W5⟨rfl,I_⟩;have u:=Y I_;clear I_;gi_wp2
   exact⟨⟨u.4,λb cm f _=>G (u.5 b (aS.1 f).1) f⟩,u.mono h.4,Xg h u,λC hy=>by
    obtain F|F:=bU.1 hy;·exact ba C F
    have:C=x:=by simpa using F
    rw[this];exact HH⟩
  |false=>
   have HH:=Y hh;rw[hh]at af;clear hh;gi_wp2;refine⟨JV,(CallsIn.inRound U_<|bM.2 af).mono ?_⟩;rintro e W5⟨rfl,I_⟩;have ef:=oB I_ b1 (by show Z wr.1<_;have:=h.4;omega);have ek:=oB I_ b6 (by show Z q.1<_;have:=h.4;omega);have ao:=aj.of_block<|I_.5 d (oN h.4);have eo:=ao.cell a6;have es:=ao.frozen s[a];have c7:=Y ao;have u:=Y I_;clear I_ ao b1 b6 db df aj;gi_wp2;refine⟨⟨by rw[Xd];exact u.4,λb cm f N_=>?_⟩,R,V_,x,R,ba,HH,?_,?_⟩
   .have dk:=(aS.1 f).1;have h5:=G (u.5 b dk) f;exact(KeepsOthers.setCell W5 _ _).2 b cm h5 N_
   .exact((⟨(Xg h u).1,(Xg h u).2,(Xg h u).3,(Xg h u).4,λb f _=>(Xg h u).5 b f⟩:v.grownBy W5 (S d))).trans ⟨R,R,R,SH,λb _ f=>cY λe=>f<|by rw[e]⟩
   exact TS (C:=Si S6) c7 s[a] (x.1.2:I)
 case done=>
  rintro ar ys W hD rfl⟨z,X_⟩ hK;have Z_:=CR N_ aa (len:=a) O (p:=λT=>!Xh (l<|s.getD a 0) T) (λC hy=>by rw[ad.o,X_ C hy];rfl);have a0:=Y Z_;have h:=Y z;have a1:=Y hK;clear Z_ X_ z hK;gi_wp2;refine⟨⟨a+1,ar::R_,_,_,_,_,_,_,_,_,_,_,_,O,R,Y ?_,Y ?_,Y ?_⟩,SA⟩;·exact(M.trans ⟨o.1,o.2,o.3,o.4,λb f _=>o.5 b f⟩).trans ⟨h.1,h.2,h.3,h.4,λb f _=>h.5 b f⟩
  .exact(bn.of_block<|h.5 d O).congr λc _=>by rw[uC a0.o]
  exact uR HM O a1 (λb f V=>G (h.5 b O) (o.5 b f)) bh
 rintro ar c_ V_ W hD⟨b,f,rfl⟩ ⟨rfl,ac,x,e,h1,S_,y,O_⟩ hK;have Z_:=Dc N_ aa (len:=a) O (dU f) (p:=λT=>!Xh (l<|s.getD a 0) T) e.symm (λC hy=>by rw[ad.o,h1 C hy];rfl) (by rw[ad.o,S_];rfl);have a0:=Y Z_;have be:=Y y;have aj:=Y O_;have a1:=Y hK;clear Z_ h1 S_ y O_ hK e;gi_wp2;refine⟨⟨a+1,ar::R_,_,_,_,_,_,_,_,_,_,_,_,O,R,Y ?_,Y ?_,Y ?_⟩,SA⟩;·exact(M.trans ⟨o.1,o.2,o.3,o.4,λb f _=>o.5 b f⟩).trans be
 .exact aj.congr λc _=>by rw[uY a0.o,ad.o]
 exact uR HM O a1 (λb f V=>G (be.5 b O λe=>V<|by injection e) (o.5 b f)) bh
end
structure Pp(w Y_:Ub)(V:N)(a:Uy)(n c Kw:N)(xs:Wi)(Gi LB Go:N)(go:Wk)(WO:Vp):Prop where
 low:Sw (Z w.1) w Y_
 f0:E Y_ ⟨Z w.1,0,U⟩=S (Si S6 (V:I))
 f1:E Y_ ⟨Z w.1,1,U⟩=S (X a n c)
 r0:E Y_ ⟨Z w.1+1,0,U⟩=S (X U 0 0)
 r1:E Y_ ⟨Z w.1+1,1,U⟩=S (X U 0 0)
 rz:∀q,Y_.frozen? ⟨Z w.1+1,q,U⟩=Sn
 gi:Y_.rowIs Gi 126 n λ_=>X U 0 0
 l0:E Y_ ⟨LB,0,U⟩=S (X (S ⟨Gi,0,U⟩) n n)
 l1:E Y_ ⟨LB,1,U⟩=S (X (S ⟨Go,0,U⟩) n n)
 o:XK Y_ Go n Kw go (λ_=>Kw) WO
 wd:XQ WO
 has:∀b,b<n->∀v,Xh (WO b) v=So↔(b,v)∈Nr xs n
 b1:Z w.1+2<=Gi
 b2:Z w.1+2<=LB
 b3:Z w.1+2<=Go
 b4:∀i,i<n->Z w.1+2<=go i
 d1:Gi≠LB
 d2:Gi≠Go
 d3:LB≠Go
 d4:∀i,i<n->go i≠Gi/\go i≠LB
theorem tT(F n)(b:F.1 124)(c:F.4=U){v1 v2 v3 v4 v5:Uj}(w:Ub):
 CallsIn F n prog 124 #[Sa #[a,v1,v2,v3,v4,v5]] w λe d=>e=Rt (.func (.func 168) #[] #[Sj (S ⟨Z w.1,0,U⟩)])/\d=D w (Sc #[a,v1,v2,v3,v4,v5] 81):=by
 refine iD func124 R b ?_ c;simp only[ntmps124,xY,Nat.reduceAdd,Nat.reduceSub];gi_wp2;go_ret;exact⟨R,R⟩
theorem XK.setCell(h:XK w n m k f F M)(p)(v:Uj)(b:p.1≠n)(c:∀i,i<m->p.1≠f i):XK (Se w p v) n m k f F M :=
 ⟨h.1.setOther (λe=>b e.symm) v,λi a=>(h.2 i a).setOther (λe=>c i a e.symm) v,h.3,h.o⟩
theorem VR{go}(C:Sw (Z w.1) w v)(L_:Z v.1=Z w.1+2)(h:Sw (Z v.1) v u)(L:E v ⟨Z w.1,0,U⟩=S (Si S6 (n:I)))(f1:E v ⟨Z w.1,1,U⟩=S (X p m c))(P:E v ⟨Z w.1+1,0,U⟩=S (X U 0 0))(T:E v ⟨Z w.1+1,1,U⟩=S (X U 0 0))(rz:∀q,v.frozen? ⟨Z w.1+1,q,U⟩=Sn)(t:u.rowIs B 126 m λ_=>X U 0 0)(y:u.rowIs g 129 2 λ_=>X U 0 0)(z:XK u i m k go (λ_=>k) M)(K:XQ M)(V:∀j,j<m->∀s,Xh (M j) s=So↔(j,s)∈Nr x m)(W:Z w.1+2<=B)(b2:Z w.1+2<=g)(C_:Z w.1+2<=i)(D_:∀b,b<m->Z w.1+2<=go b)(a:i≠g/\B≠g/\B≠i/\∀b,b<m->go b≠B/\go b≠g):
 Pp w (Se (Se u ⟨g,0,U⟩ (X (S ⟨B,0,U⟩) m m)) ⟨g,1,U⟩ (X (S ⟨i,0,U⟩) m m)) n p m c k x B g i go M:=by
 have r:=(y.set 0<|Hl B m m).set 1 (Hl i m m);have f:∀d:Addr,d.1<Z v.1->d.1≠g->E (Se (Se u (A g 0) (Hl B m m)) (A g 1) (Hl i m m)) d=E v d:=λd F o=>
  G (bH _ _ _ _ λe=>o e.symm) (G (bH _ _ _ _ λe=>o e.symm) (h.cell F))
 refine⟨((Xg C h).setCell (by show Z w.1<=g;omega) _).setCell (by show Z w.1<=g;omega) _,G (f _ (by show Z w.1<_;omega) (by show Z w.1≠g;omega)) L,G (f _ (by show Z w.1<_;omega) (by show Z w.1≠g;omega)) f1,G (f _ (by show Z w.1+1<_;omega) (by show Z w.1+1≠g;omega)) P,G (f _ (by show Z w.1+1<_;omega) (by show Z w.1+1≠g;omega)) T,λq=>?_,(t.setOther a.2.1 _).setOther a.2.1 _,G (r.cell (i:=0) vY) sP,G (r.cell (i:=1) vY) sP,(z.setCell _ _ (λe=>a.1 e.symm) λb l e=>(a.2.2.2 b l).2 e.symm).setCell _ _ (λe=>a.1 e.symm) λb l e=>(a.2.2.2 b l).2 e.symm,K,V,W,b2,C_,D_,a.2.1,a.2.2.1,λe=>a.1 e.symm,a.2.2.2⟩;exact G (eX _ _ _ _) (G (eX _ _ _ _) (G (h.frozen (p:=A (Z w.1+1) q) (by show Z w.1+1<_;omega)) (rz q)))
structure VD where
 w:Ub
 V:N
 n:N
 c:N
 Kw:N
 K2:N
 a:Uy
 xs:Wi
 Gi:N
 LB:N
 Go:N
 DB:N
 Gd:N
 Gn:N
 bS:N
 gS:N
 sA:N
 s3:N
 M:N
 go:Wk
 gd:Wk
 WO:Vp
structure PE where
 gi:Wk
 ci:Wk
 WI:Vp
 WD:Vp
 nx:Vu
 Ws:Wk
 vS:Uj
 Lf:Wa
structure PO(p:VD):Prop where
 a1:Z p.w.1+2<=p.9/\p.9<p.sA
 a2:Z p.w.1+2<=p.LB/\p.LB<p.sA
 a3:Z p.w.1+2<=p.Go/\p.Go<p.sA
 a4:∀i,i<p.n->Z p.w.1+2<=p.go i/\p.go i<p.sA
 d1:p.9≠p.LB
 d2:p.9≠p.Go
 d3:p.LB≠p.Go
 d4:∀i,i<p.n->p.go i≠p.9/\p.go i≠p.LB
 a5:p.sA<=p.Gd/\p.Gd<p.s3
 a6:∀i,i<p.n->p.sA<=p.gd i/\p.gd i<p.s3
 a7:p.DB=p.s3
 a8:p.Gn=p.s3+1
 a9:p.s3+2<=p.bS/\p.bS<p.M
 a10:p.s3+2<=p.gS/\p.gS<p.M
 a11:p.bS≠p.gS
def N6(a:Wi)(i:N):Wc:=(a[i]?).elim [] λx=>x.3.tg
theorem VS(h:n<J x):N6 x n=x[n].3.tg:=by simp[N6,h]
structure Oi(p:VD)(W:Ub)(k:N)(d:PE):Prop where
 low:Sw (Z p.w.1) p.w W
 sz:p.M<=Z W.1
 f0:E W ⟨Z p.w.1,0,U⟩=S (Si S6 (p.V:I))
 f1:E W ⟨Z p.w.1,1,U⟩=S (X p.a p.n p.c)
 r0:E W ⟨Z p.w.1+1,0,U⟩=S (X U 0 0)
 r1:E W ⟨Z p.w.1+1,1,U⟩=S (X U 0 0)
 rz:∀q,W.frozen? ⟨Z p.w.1+1,q,U⟩=Sn
 l0:E W ⟨p.LB,0,U⟩=S (X (S ⟨p.9,0,U⟩) p.n p.n)
 l1:E W ⟨p.LB,1,U⟩=S (X (S ⟨p.Go,0,U⟩) p.n p.n)
 d0:E W ⟨p.DB,0,U⟩=S (X (S ⟨p.Gd,0,U⟩) p.n p.n)
 o:XK W p.Go p.n p.5 p.go (λ_=>p.5) p.WO
 inr:W.rowIs p.9 126 p.n λi=>if i<k then X (S ⟨d.1 i,0,U⟩) p.5 (d.2 i)else X U 0 0
 ins:∀i,i<k->Cp W (d.1 i) p.5 (d.2 i) (d.3 i)
 inj:∀i j,i<k->j<k->d.1 i=d.1 j->i=j
 igM:∀i,i<k->p.M<=d.1 i
 defs:XK W p.Gd p.n p.5 p.gd (λ_=>p.5) d.4
 nxr:W.rowIs p.Gn 23 p.n λi=>if i<k then d.5 i else X U 0 0
 nxs:∀i,i<k->∃a' c',d.5 i=X a' (J (N6 p.8 i)) c'/\Yv W (λb=>p.M<=b/\(∀j,j<k->b≠d.1 j)/\S b≠d.7.ownBlock) a' (N6 p.8 i)
 sea:YW W p.bS p.gS p.M p.6 p.a p.n p.c d.6 d.7 d.8
 giv:∀i,i<k->S (d.1 i)≠d.7.ownBlock
def ix{a:Type}(f:N->a)(k:N)(v:a):N->a:=λi=>if i=k then v else f i
theorem Zt{a:Type}(f:N->a)(v:a):ix f n v n=v:=by simp[ix]
theorem Zb{a:Type}(f:N->a)(v:a)(h:m≠n):ix f n v m=f m:=by simp[ix,h]
theorem Oi.next{p d}(h:Oi p w n d)(s:PO p)(B:n<p.n){gB CB I' D'}{nk v':Uj}{Ws' Lf'}(W:v.4=w.4)(T:v.2=w.2)(Q_:v.5=w.5)(L:Z w.1<=Z v.1)(M:∀q,q<Z w.1->q≠p.9->q≠p.gd n->q≠p.Gn->q≠p.bS->q≠p.gS->S q≠d.7.ownBlock->v.1[q]?=w.1[q]?)(ab:Z w.1<=gB)(O_:Cp v gB p.5 CB I')(M_:v.rowIs p.9 126 p.n λi=>if i=n then Hl gB p.5 CB else if i<n then Hl (d.1 i) p.5 (d.2 i)else Hq)(L_:Cp v (p.gd n) p.5 p.5 D')(N_:v.rowIs p.Gn 23 p.n λi=>if i=n then nk else if i<n then d.5 i else Hq)(P_:∃m u,nk=X m (J (N6 p.8 n)) u/\Yv v (λf=>Z w.1<=f/\f≠gB/\S f≠v'.ownBlock) m (N6 p.8 n))(S_:YW v p.bS p.gS p.M p.6 p.a p.n p.c Ws' v' Lf')(c:v'.ownBlock=d.7.ownBlock\/∀q,v'.ownBlock=S q->Z w.1<=q)(U_:S gB≠v'.ownBlock):
 Oi p v (n+1) ⟨ix d.1 n gB,ix d.2 n CB,ix d.3 n I',ix d.4 n D',ix d.5 n nk,Ws',v',Lf'⟩:=by
 have V_:=λq e=>(h.19.6.lt q e).1;have hM:=s.a9;have aa:=s.14;have hG:=s.9;have X_:=h.2;have W_:=h.1.4;have h7:=s.a7;have h8:=s.a8;have ac:=s.a6 n B;have k:∀q,q<p.M->q≠p.9->q≠p.gd n->q≠p.Gn->q≠p.bS->q≠p.gS->v.1[q]?=w.1[q]?:=λq t y K I_ J_ K_=>M q O y K I_ J_ K_ (λe=>by have:=V_ q e.symm;omega);have Y_:=s.1;have P:=s.2;have Z_:=s.3;have r:∀q o C,q<p.sA->q≠p.9->E w (A q o)=S C->E v (A q o)=S C:=λq o C t y z=>G (Xc<|k q O y O O O O) z;have V:∀q,p.M<=q->q<Z w.1->S q≠d.7.ownBlock->v.1[q]?=w.1[q]?:=λq t y K=>M q y O O O O O K;refine⟨⟨G W h.1.1,G T h.1.2,G Q_ h.1.3,aJ W_ L,λq hq=>G (k q O O O O O O) (h.1.5 q hq)⟩,aJ X_ L,r _ _ _ O O h.3,r _ _ _ O O h.4,r _ _ _ O O h.5,r _ _ _ O O h.6,λq=>?rz,r _ _ _ P.2 (λe=>s.5 e.symm) h.8,r _ _ _ P.2 (λe=>s.5 e.symm) h.9,G (Xc<|k p.DB O O O O O O) h.d0,?out,?inr,?ins,?inj,?igM,?defs,?nxr,?nxs,S_,?giv⟩
 case rz=>rw[bJ (a:=(A (Z p.w.1+1) q)) (k (Z p.w.1+1) O O O O O O)];exact h.7 q
 case out=>
  refine⟨h.o.1.of_block (k p.Go O (λe=>s.6 e.symm) O O O O),λi a=>?_,h.o.3,h.o.o⟩;have:=s.4 i a;exact(h.o.2 i a).of_block (k _ O (s.8 i a).1 O O O O)
 case inr=>
  refine M_.congr λi _=>?_;by_cases e:i=n;·rw[aU e,aU O,e];simp only[Zt]
  rw[aM e];by_cases e2:i<n;·rw[aU e2,aU O];simp only[Zb _ _ e]
  rw[aM e2,aM O]
 case ins=>
  intro i a;by_cases e:i=n;·subst e;simp only[Zt];exact O_
  have g:i<n:=O;simp only[Zb _ _ e];exact(h.13 i g).of_block (V _ (h.15 i g) (h.13 i g).lt (h.20 i g))
 case inj=>
  intro i j a F e;by_cases e1:i=n
  .by_cases e2:j=n;·omega
   simp only[e1,Zt,Zb _ _ e2]at e;have:=(h.13 j O).lt;omega
  by_cases e2:j=n
  .simp only[e2,Zt,Zb _ _ e1]at e;have:=(h.13 i O).lt;omega
  simp only[Zb _ _ e1,Zb _ _ e2]at e;exact h.14 i j O O e
 case igM=>
  intro i a;by_cases e:i=n;·subst e;simp only[Zt];omega
  simp only[Zb _ _ e];exact h.15 i O
 case defs=>
  refine⟨h.16.1.of_block (k p.Gd O O (λe=>h.16.o n B e.symm) O O O),λi a=>?_,h.16.3,h.16.o⟩;by_cases e:i=n;·subst e;simp only[Zt];exact L_
  simp only[Zb _ _ e];have:=s.a6 i a;exact(h.16.2 i a).of_block (k _ O O (λe2=>e<|h.16.3 i n a B e2) O O O)
 case nxr=>
  refine N_.congr λi _=>?_;by_cases e:i=n;·rw[aU e,aU O,e];simp only[Zt]
  rw[aM e];by_cases e2:i<n;·rw[aU e2,aU O];simp only[Zb _ _ e]
  rw[aM e2,aM O]
 case nxs=>
  intro i a;by_cases e:i=n
  .subst e;simp only[Zt];let⟨m,u,e1,t⟩:=P_;refine⟨m,u,e1,λq hq=>?_⟩;let⟨f,o,e2,b,z⟩:=t q hq;refine⟨f,o,e2,⟨⟨O,λj F=>?_,b.1.2.2⟩,b.2⟩,z⟩;by_cases x:j=i;·rw[x];simp only[Zt];exact b.1.2.1
   simp only[Zb _ _ x];have:=(h.13 j O).lt;omega
  have g:i<n:=O;simp only[Zb _ _ e];let⟨m,u,e1,t⟩:=h.18 i g;refine⟨m,u,e1,λq hq=>?_⟩;let⟨f,o,e2,b,z⟩:=t q hq;refine⟨f,o,e2,⟨⟨b.1.1,λj F=>?_,λl=>?_⟩,O⟩,G (Xc<|V f b.1.1 b.2 b.1.2.2) z⟩
  .by_cases x:j=n;·rw[x];simp only[Zt];omega
   simp only[Zb _ _ x];exact b.1.2.1 j O
  obtain c|c:=c;·rw[c]at l;exact b.1.2.2 l
  have:=c f l.symm;omega
 intro i a;by_cases e:i=n;·subst e;simp only[Zt];exact U_
 have g:i<n:=O;simp only[Zb _ _ e];intro l;obtain c|c:=c;·rw[c]at l;exact h.20 i g l
 have:=c _ l.symm;have:=(h.13 i g).lt;omega
theorem ve(tg:Yr):∀(m b:N)(s:Wk×Wa)(P:Wa),(∀x,Xh s.1 x=So->x∈s.2\/x∈P)->∀x,Xh (C9 tg m b s).1 x=So->x∈(C9 tg m b s).2\/x∈P
 |0,_,_,_,h=>h
 |m+1,b,s,P,h=>by
  by_cases e:Xh s.1 b=So;·rw[Vd e];exact h
  have i:Xh s.1 b=Sn:=by simpa using e
  have g:∀(l:Wa)(c:Wk×Wa),(∀x,Xh c.1 x=So->x∈c.2\/x∈b::P)->∀x,Xh (l.foldl (λs t=>C9 tg m t s) c).1 x=So->x∈(l.foldl (λs t=>C9 tg m t s) c).2\/x∈b::P:=by
   intro l
   induction l with
   |nil=>exact λ_ h=>h
   |cons t l k=>exact λc f=>k _<|ve tg m t c (b::P) f
  rw[nY i];intro x j;obtain a|a:=g (tg b) (YH s.1 b,s.2) (λy d=>by
   rw[Z8,dI,bD]at d;rcases d with rfl|d;·exact aZ sP
   rcases h y d with a|a;·exact bC a
   exact aZ<|by simp[a]) x j
  .exact bC<|by simp[a]
  obtain rfl|a:=cH.1 a;·exact bC sP
  exact aZ a
theorem vt(tg:Yr){n}(f:∀b,b<n->∀t∈tg b,t<n):∀(m b:N)(s:Wk×Wa),b<n->(∀x∈s.2,x<n)->∀x∈(C9 tg m b s).2,x<n
 |0,_,_,_,h=>h
 |m+1,b,s,hb,h=>by
  by_cases e:Xh s.1 b=So;·rw[Vd e];exact h
  have j:Xh s.1 b=Sn:=by simpa using e
  have i:∀(l:Wa)(c:Wk×Wa),(∀t∈l,t<n)->(∀x∈c.2,x<n)->∀x∈(l.foldl (λs t=>C9 tg m t s) c).2,x<n:=by
   intro l
   induction l with
   |nil=>exact λ_ _ h=>h
   |cons t l k=>exact λc d g=>k _ (λq hq=>d q<|by simp[hq]) (vt tg f m t c (d t sP) g)
  rw[nY j];intro x a;obtain a|a:=bU.1 a;·exact i (tg b) (YH s.1 b,s.2) (f b hb) h x a
  have:x=b:=by simpa using a
  omega
theorem BD(tg:Yr){s:Wk×Wa}(b:k<n)(d:XB s.1 n<=m):Xh (C9 tg m k s).1 k=So:=by
 cases m with
 |zero=>exact KB tg 0 k s k<|T8 O b
 |succ m=>
  by_cases a:Xh s.1 k=So;·exact KB tg _ k s k a
  have c:Xh s.1 k=Sn:=by simpa using a
  rw[nY c];exact Ue tg m _ _ k<|by rw[Z8];simp
def Ut(W:Wk)(q:N×Wc×Wc):Wk:=E2 (Js W<|X9 q.2.2) (X9 q.2.1)
def Uo(W:Wk)(q:N×Wc×Wc):Wk:=E2 W<|X9 q.2.2
def OS(x:Xe)(W:Wk):Wk:=(NS x).foldl Ut W
def OU(x:Xe):Wk:=(NS x).foldl Uo λ_=>0
theorem FR(h:XA f):XA (OS q f):=by
 unfold OS;generalize NS q=l
 induction l generalizing f with
 |nil=>exact h
 |cons b l a=>exact a<|Zs _ (JX _ h)
theorem JW:XA (λ_=>0):=λ_=>by show 0<_;decide
theorem uG{l:List (N×Wc×Wc)}(h:XA f):XA (l.foldl Uo f):=by
 induction l generalizing f with
 |nil=>exact h
 |cons q l a=>exact a<|Zs _ h
theorem Fg:XA (OU q):=uG JW
structure O2(p:VD)(k:N)(d:PE):Prop where
 wi:∀i (h:i<J p.8),i<k->d.3 i=OS p.8[i] (p.WO i)
 wd:∀i (h:i<J p.8),d.4 i=if i<k then OU p.8[i]else λ_=>0
 mem:∀x,Xh d.6 x=So->x∈d.8
 sn:∀i,i<k->Xh d.6 i=So
 lt:∀x∈d.8,x<p.n
 wok:XA d.6
 len:J d.8+XB d.6 p.n<=p.n
theorem CN(p):O2 p 0 ⟨λ_=>0,λ_=>0,λ_ _=>0,λ_ _=>0,λ_=>Hq,λ_=>0,Hq,[]⟩ :=
 ⟨λi _ h=>Sz h O,λi _=>sP,λx h=>by simp[Z3]at h,λi h=>Sz h O,λx h=>Sz h eA,JW,by simpa using ZA (λ_=>0) p.n⟩
theorem O2.next{p d}(h:O2 p n d)(c:n<p.n)(g:∀f,f<p.n->∀t∈X8 p.8 f,t<p.n)(k j nx v){I' D'}(s:n<J p.8)(m:I'=OS p.8[n] (p.WO n))(l:D'=OU p.8[n]):
 O2 p (n+1) ⟨k,j,ix d.3 n I',ix d.4 n D',nx,(C9 (X8 p.8) p.n n (d.6,d.8)).1,v,(C9 (X8 p.8) p.n n (d.6,d.8)).2⟩:=by
 refine⟨λi a r=>?_,λi a=>?_,λx o=>?_,λi a=>?_,?_,oW _ _ _ _ h.6,aJ (qE _ g _ _ _ c) h.7⟩
 .by_cases e:i=n;·subst e;simp only[Zt];exact m
  simp only[Zb _ _ e];exact h.1 i a O
 .by_cases e:i=n;·subst e;simp only[Zt];rw[aU O];exact l
  simp only[Zb _ _ e];rw[h.2 i a];by_cases e2:i<n;·rw[aU e2,aU O]
  rw[aM e2,aM O]
 .rcases ve (X8 p.8) p.n n (d.6,d.8) [] (λy q=>bC<|h.3 y q) x o with b|b;·exact b
  cases b
 .by_cases e:i=n;·subst e;exact BD _ c<|ZA _ _
  exact KB _ _ _ _ _<|h.4 i O
 exact vt _ g _ _ _ c h.5
def H7(y:Yg):I:=if dB y.1 then y.2 else -1
def Ya(v:I)(fin:Bool):List Yg->N
 |[]=>if fin then 1 else 0
 |y::ys=>if Cg (Iw y) v then 1 else if H7 y=v then 2 else Ya v fin ys
def NA(x:Xe)(a:Wc)(v:I):N:=Ya v (Cg (Id x.3) v||Cg a v) x.2
def pd(W:Wk)(y:Yg):Wk:=E2 (Js W<|X9 (BW y)) (X9<|Iw y)
theorem XD:Cg l t=So↔t∈l:=by unfold Cg;exact eY
theorem Cb{y}(a:∀v∈Iw y,0<=v)(b:∀v∈BW y,0<=v)(v):Xh (pd f y) v=So↔(v:I)∈Iw y\/((v:I)∉BW y/\Xh f v=So):=by unfold pd;rw[YR,Kt,dI,bD,YV a,bY,bD,YV b]
theorem YN{y}:H7 y=(n:I)↔(n:I)∈BW y:=by
 unfold H7 BW;by_cases e:dB y.1=So;·rw[aU e,aU e];simp[nJ]
 rw[aM e,aM e];simp
theorem xe{v W}:∀(a:Vr),(∀y∈a,(∀v∈Iw y,0<=v)/\∀v∈BW y,0<=v)->(Xh (a.foldr (λy c=>pd c y) W) v=So↔Ya (v:I) (Xh W v) a=1)
 |[],_=>by unfold Ya;cases h:Xh W v<;>simp[h]
 |y::a,hy=>by
  have e:=xe (v:=v) (W:=W) a λz d=>hy z<|cN _ d;have b:=hy y cI;rw[List.foldr_cons,Cb b.1 b.2,e];show _↔(if Cg (Iw y) (v:I)then 1 else if H7 y=(v:I)then 2 else Ya v (Xh W v) a)=1;by_cases e1:(v:I)∈Iw y;·rw[aU<|XD.2 e1];simp[e1]
  rw[aM λh=>e1<|XD.1 h];by_cases e2:(v:I)∈BW y;·rw[aU<|YN.2 e2];simp[e1,e2]
  rw[aM λh=>e2<|YN.1 h];simp[e1,e2]
theorem Ev{a b:Type}{l:List a}(g:Fin (J l)->b):(Us (J l) 0).map g=((List.finRange (J l)).map g).reverse:=by unfold Us;rw[aW sP,List.map_reverse]
theorem E8{a:Type}(l:List a):(List.finRange (J l)).map (λj=>l[j])=l:=by
 apply mG;·simp
 intro i b c;simp
theorem Ex:((Us (J q.2) 0).map (VH q)).foldl Ut f=q.2.foldr (λy a=>pd a y) f:=by
 rw[Ev,List.foldl_reverse]
 conv=>rhs;rw[<-E8 q.2]
 rw[List.foldr_map,List.foldr_map];rfl
theorem vB(h:∀y∈q.2,(∀n∈Iw y,0<=n)/\∀n∈BW y,0<=n)(d:∀n∈Id q.3,0<=n)(c:∀p∈q.1,0<=p.1):
 Xh (OS q f) n=So↔(n:I)∉q.1.map Ph.dst/\Ya (n:I) (Cg (Id q.3) (n:I)||Xh f n) q.2=1:=by
 unfold OS NS;rw[iM,dT,iM,List.foldl_nil,Ex];have b:∀n∈q.1.map Ph.dst,0<=n:=λn g=>by obtain⟨p,a,rfl⟩:=aY.1 g;exact c p a
 show Xh (E2 (Js _<|X9 (q.1.map Ph.dst)) (X9 [])) n=So↔_;rw[YR,Kt,dI,bD,bY,bD,YV b];rw[xe q.2 h];have e:Xh (Ut f (J q.2+1,Id q.3,[])) n=(Cg (Id q.3) (n:I)||Xh f n):=by show Xh (E2 (Js f<|X9 []) (X9<|Id q.3)) n=_;rw[YR,Kt,eQ,dI,dI,bD,YV d,XD];simp[X9]
 rw[e];simp[X9]
theorem WK(d:∀y∈q.2,∀n∈BW y,0<=n)(i:∀p∈q.1,0<=p.1):Xh (OU q) n=So↔(n:I)∈q.1.map Ph.dst\/∃y∈q.2,(n:I)∈BW y:=by
 have f:∀(l:List (N×Wc×Wc))(W:Wk),Xh (l.foldl Uo W) n=So↔Xh W n=So\/∃b∈l,n∈X9 b.2.2:=by
  intro l
  induction l with
  |nil=>intro W;simp
  |cons b l m=>
   intro W;rw[iM,m];unfold Uo;rw[YR,dI,bD];simp only[cH,exists_eq_or_imp];constructor
   .rintro((h|h)|h);·exact aZ<|bC h
    .exact bC h
    exact aZ<|aZ h
   rintro(h|h|h);·exact bC<|aZ h
   .exact bC<|bC h
   exact aZ h
 have c:∀n∈q.1.map Ph.dst,0<=n:=λn a=>by obtain⟨p,e,rfl⟩:=aY.1 a;exact i p e
 unfold OU;rw[f,Z3];unfold NS;constructor
 .rintro(h|⟨b,hq,a⟩);·cases h
  obtain rfl|hq:=cH.1 hq;·simp[X9]at a
  obtain hq|hq:=bU.1 hq
  .obtain⟨j,_,rfl⟩:=aY.1 hq;exact aZ ⟨q.2[j],aH _,(YV<|d _ (aH _)).1 a⟩
  rw[cS.1 hq]at a;exact bC<|(YV c).1 a
 rintro(h|⟨y,k,a⟩);·exact aZ ⟨_,tE q,(YV c).2 h⟩
 obtain⟨j,g,rfl⟩:=bR k;exact aZ ⟨_,t6 q ⟨j,g⟩,(YV<|d _ (aH _)).2 a⟩
theorem UQ{v:N}{fin}:∀(c:Vr),Ya (v:I) fin c=0->∀y∈c,(v:I)∉BW y
 |[],_,_,h=>by cases h
 |z::zs,h,y,b=>by
  have a:(if Cg (Iw z) (v:I)then 1 else if H7 z=(v:I)then 2 else Ya v fin zs)=0:=h;by_cases e1:Cg (Iw z) v=So;·rw[aU e1]at a;cases a
  rw[aM e1]at a;by_cases e2:H7 z=(v:I);·rw[aU e2]at a;cases a
  rw[aM e2]at a;obtain rfl|b:=cH.1 b;·exact λd=>e2<|YN.2 d
  exact UQ zs a y b
theorem Ud{v:N}{fin:Bool}:∀(a:Vr),(∀y∈a,(v:I)∉BW y)->Ya (v:I) fin a≠2
 |[],_=>by unfold Ya;split<;>simp
 |z::zs,h=>by
  show(if Cg (Iw z) (v:I)then 1 else if H7 z=(v:I)then 2 else Ya v fin zs)≠2;by_cases e1:Cg (Iw z) v=So;·rw[aU e1];simp
  rw[aM e1,aM λe2=>h z cI<|YN.1 e2];exact Ud zs λy b=>h y<|cN _ b
theorem Vg{v:I}{fin:Bool}:∀(a:Vr),Ya v fin a<=2
 |[]=>by unfold Ya;split<;>simp
 |z::zs=>by
  show(if Cg (Iw z) v then 1 else if H7 z=v then 2 else Ya v fin zs)<=2;split
  .decide
  split
  .decide
  exact Vg zs
theorem TV{v fin}:∀(c:Vr),Ya v fin c=1->fin=So\/∃y∈c,v∈Iw y
 |[],h=>by have a:(if fin then 1 else 0)=1:=h;cases fin<;>simp_all
 |z::zs,h=>by
  have a:(if Cg (Iw z) v then 1 else if H7 z=v then 2 else Ya v fin zs)=1:=h;by_cases e1:Cg (Iw z) v=So;·exact aZ ⟨z,cI,XD.1 e1⟩
  rw[aM e1]at a;by_cases e2:H7 z=v;·rw[aU e2]at a;cases a
  rw[aM e2]at a;obtain b|⟨y,d,b⟩:=TV zs a;·exact bC b
  exact aZ ⟨y,cN _ d,b⟩
def G2(a:List Xe)(p t:I):List I:=match a[t.toNat]? with
 |none=>[]
 |some x=>if x.1=[]then []else (Rg (J (AQ a 0 t))).flatMap λi=>if (AQ a 0 t).getD i 0=p then x.1.map (λh=>h.2.getD i 0)else []
def XP(a:List Xe)(b:N):List I:=match a[b]? with
 |none=>[]
 |some x=>x.3.tg.flatMap<|G2 a (b:I)
theorem KE(q:Jy n x)(l:m<J x):(k:I)∈XP x m↔(m,k)∈Nr x (J x):=by
 have j:=λL P t a=>(q.1.3 L P t a).1
 have T:(k:I)∈XP x m↔∃t:N,∃a:t<J x,∃i,i<J (XX x (J x) t)/\(XX x (J x) t).getD i 0=m/\∃p∈x[t].1,p.2.getD i 0=(k:I):=by
  unfold XP;rw[aC l];simp only[bV];constructor
  .rintro⟨t,a,d⟩;have u:=q.1.3 _ (aH l) t a;obtain⟨h,rfl⟩:=bX u.1;have y:h<J x:=oN u.2;refine⟨h,y,?_⟩;unfold G2 at d;rw[dM,aC y]at d;simp only at d;by_cases e:x[h].1=[];·rw[aU e]at d;cases d
   rw[aM e]at d;let⟨i,c,b⟩:=bV.1 d;rw[K9 j]at c b;have v:i<J (XX x (J x) h):=by simpa [Xi]using c
   by_cases e2:(Xi<|XX x (J x) h).getD i 0=(m:I)
   .rw[aU e2]at b;let⟨p,f,s⟩:=aY.1 b;refine⟨i,v,?_,p,f,s⟩;simp only[Xi,bF,dX,aC v,jY,gR]at e2 |-;have:((XX x (J x) h)[i]:I)=(m:I):=e2;omega
   rw[aM e2]at b;cases b
  rintro⟨t,a,i,c,g,p,b,f⟩
  have V:m∈XX x (J x) t:=by rw[<-g,bF,aC c];exact aH c
  have F:(t:I)∈x[m].3.tg:=by have:=(Uf.1 V).2;rw[Km l]at this;let⟨K,r,e⟩:=aY.1 this;have:=j _ (aH l) K r;rw[show(t:I)=K by omega];exact r
  refine⟨(t:I),F,?_⟩;unfold G2;rw[dM,aC a];simp only;rw[aM (λe=>by rw[e]at b;cases b),K9 j];refine bV.2 ⟨i,by simpa [Xi]using c,?_⟩;rw[aU (by simp only[Xi,bF,dX,aC c,jY,gR]at g |-;show((XX x (J x) t)[i]:I)=(m:I);rw[g])]
  exact aY.2 ⟨p,b,f⟩
 rw[T];unfold Nr PW Og;rw[bV];constructor
 .rintro⟨t,a,i,c,g,p,b,f⟩;refine⟨t,bE.2 a,?_⟩;rw[aC a];refine bV.2 ⟨p,b,?_⟩;have z:=(q.9 t a p b).1;rw[K9 j]at z;have W:J p.2=J (XX x (J x) t):=by simpa [Xi]using z
  have o:i<J p.2:=O;rw[bF,aC o]at f;rw[bF,aC c]at g;have r:i<J ((XX x (J x) t).zip (X9 p.2)):=by simp[X9];omega
  have e:((XX x (J x) t).zip (X9 p.2))[i]=(m,k):=by rw[List.getElem_zip];simp only[X9,cM];have B:(XX x (J x) t)[i]=m:=g;have C:p.2[i]=(k:I):=f;rw[B,C];rfl
  rw[<-e];exact aH r
 rintro⟨t,a,d⟩;have a:=bE.1 a;rw[aC a]at d;let⟨p,b,f⟩:=bV.1 (show _∈List.flatMap _ x[t].1 from d);let⟨i,c,e⟩:=bR f;rw[List.getElem_zip]at e;have w:i<J (XX x (J x) t):=by simp at c;omega
 have o:i<J p.2:=by simp[X9]at c;omega
 refine⟨t,a,i,w,?_,p,b,?_⟩
 .rw[bF,aC w];exact fI Prod.fst e
 rw[bF,aC o];have s:(X9 p.2)[i]'(by simp[X9];omega)=k:=fI Prod.snd e;simp only[X9,cM]at s;have:=(q.9 t a p b).2 p.2[i] (aH o);show p.2[i]=(k:I);omega
def C7(a:List Xe)(b v:N):N:=match a[b]? with
 |none=>0
 |some x=>NA x (XP a b) (v:I)
def Yo(a:List Xe)(b v:N):Bool:=match a[b]? with
 |none=>Sn
 |some x=>Cg (x.1.map Ph.dst) (v:I)
inductive Nu (xs:List Xe) (v:N):N->Prop
 |root:Nu xs v 0
 |step {b t:N}:Nu xs v b->Yo xs b v=Sn->C7 xs b v=0->t∈X8 xs b->Nu xs v t
def N4(a:Wi)(v:N):Prop:=∃b,Nu a v b/\Yo a b v=Sn/\C7 a b v=1
theorem Nu.lt(h:UF x)(a:Nu x n m):m<J x:=by
 induction a with
 |root=>exact h.1
 |step _ _ _ b c=>exact h.tg _ c _ b
theorem EX(d:Jy n x){q:Vp}(P:∀i (h:i<J x),M i=OS x[i] (q i))(C:∀i (h:i<J x),N_ i=OU x[i])(F:∀b,b<J x->∀m,Xh (q b) m=So↔(b,m)∈Nr x (J x)){ord:Vv}(T:∀b,b<J x->ord b){src:Yr}(K:∀b,b<J x->src b=X8 x b):
 Sp M N_ ord src 0 m↔N4 x m:=by
 have B:∀b,b<J x->(Xh (M b) m=So↔Yo x b m=Sn/\C7 x b m=1):=λb a=>by
  have g:=aH a;rw[P b a,vB (λy j=>⟨λz k=>(d.5 _ g y j z k).1,λz k=>(d.6 _ g y j z k).1⟩) (λz k=>(d.7 _ g z k).1) λp o=>(d.8 _ g p o).1];unfold Yo C7 NA;rw[aC a];simp only;have r:Xh (q b) m=Cg (XP x b) (m:I):=by rw[eQ,F b a,XD,KE d a]
  rw[r,<-gU,XD]
 have V:∀b,b<J x->Yo x b m=Sn->C7 x b m=0->Xh (N_ b) m=Sn:=λb a e c=>by
  have g:=aH a;rw[C b a,<-gU,WK (λy j z k=>(d.6 _ g y j z k).1) λp o=>(d.8 _ g p o).1];unfold Yo at e;unfold C7 NA at c;rw[aC a]at e c;simp only at e c;rintro(h|⟨y,j,h⟩);·rw[XD.2 h]at e;cases e
  exact UQ _ c y j h
 have W:∀b,b<J x->Xh (N_ b) m=Sn->Yo x b m=Sn/\C7 x b m≠2:=λb a h=>by have g:=aH a;rw[C b a,<-gU,WK (λy j z k=>(d.6 _ g y j z k).1) λp o=>(d.8 _ g p o).1]at h;unfold Yo C7 NA;rw[aC a];simp only;refine⟨?_,Ud _ λy j c=>h<|aZ ⟨y,j,c⟩⟩;rw[<-gU,XD];exact λc=>h<|bC c
 constructor
 .intro h
  have w:∀b l,Sp M N_ ord src b l->l=m->Nu x m b->N4 x m:=by
   intro b l u
   induction u with
   |init e=>rintro rfl f;exact⟨_,f,(B _<|f.lt d.1).1 e⟩
   |@take b K_ l e c L s v=>
    rintro rfl f;have a:=f.lt d.1;have t:=W b a s;have J_:C7 x b l<=2:=by
     unfold C7;split;·exact aN
     exact Vg _
    by_cases r:C7 x b l=1;·exact⟨b,f,t.1,r⟩
    exact v R<|Nu.step f t.1 (oN t.2) (by rw[<-K b a];exact c)
  exact w 0 m h R Nu.root
 rintro⟨b,f,e,c⟩
 have w:∀b,Nu x m b->Sp M N_ ord src b m->Sp M N_ ord src 0 m:=by
  intro b f
  induction f with
  |root=>exact λh=>h
  |@step b L_ e c L s v=>
   intro u;have a:=e.lt d.1;exact v<|Sp.take (T b a) (by rw[K b a];exact s) u (V b a c L)
 exact w b f<|Sp.init ((B b<|f.lt d.1).2 ⟨e,c⟩)
theorem wH(a:Jy n x)(j:N4 x m):m<n:=by
 let⟨u,o,_,b⟩:=j;have f:=o.lt a.1;have h:=aH f;unfold C7 NA at b;rw[aC f]at b;simp only at b;obtain d|⟨y,q,d⟩:=TV _ b
 .rcases dI _ _▸d with e|e;·have:=(a.7 _ h _<|XD.1 e).2;omega
  have g:=(KE a f).1 (XD.1 e);unfold Nr PW Og at g;let⟨t,c,i⟩:=bV.1 g;have c:=bE.1 c;rw[aC c]at i;let⟨s,p,k⟩:=bV.1 (show _∈List.flatMap _ x[t].1 from i);have l:=List.of_mem_zip k;let⟨z,r,v⟩:=aY.1 l.2;have:=(a.9 t c s p).2 z r;omega
 have:=(a.5 _ h y q _ d).2;omega
section
structure OI(xs:Wi)(v:N)(td:Wa)(i:N):Prop where
 nd:td.Nodup
 op:∀x∈td,Nu xs v x
 z:0∈td
 dn:∀j (h:j<J td),j<i->Yo xs td[j] v=So\/(C7 xs td[j] v≠1/\(C7 xs td[j] v=0->∀t∈X8 xs td[j],t∈td))
section
variable{xs:Wi}{v:N}{td:Wa}{i:N}
theorem Ci:OI xs v [0] 0:=⟨sP,λx a=>(cS.1 a)▸Nu.root,sP,λj _ h=>Sz h O⟩
theorem OI.go(h:OI xs v td i)(c:i<J td)(a:Yo xs td[i] v=So\/(C7 xs td[i] v≠1/\(C7 xs td[i] v=0->∀t∈X8 xs td[i],t∈td))):OI xs v td (i+1) :=
 ⟨h.1,h.2,h.z,λj b d=>if e:j=i then by subst e;exact a else h.4 j b O⟩
theorem OI.push(h:OI xs v td i)(f:i<J td)(l:Yo xs td[i] v=Sn)(c:C7 xs td[i] v=0){t}(m:t∈X8 xs td[i])(k:t∉td):OI xs v (td++[t]) i:=by
 refine⟨?_,λx a=>?_,by simp[h.z],λj r g=>?_⟩
 .rw[gW];exact⟨h.1,sP,λo ha p d=>(cS.1 d)▸λe=>k (e▸ha)⟩
 .rcases bU.1 a with a|a;·exact h.2 x a
  rw[cS.1 a];exact Nu.step (h.2 _<|aH f) l c m
 have b:j<J td:=O;rw[fA b];obtain q|⟨q1,q2⟩:=h.4 j b g;·exact bC q
 exact aZ ⟨q1,λe u n=>dD _<|q2 e u n⟩
theorem OI.none(h:OI xs v td i)(k:J td<=i):¬N4 xs v:=by
 rintro⟨b,c,d,e⟩;have f:∀b,Nu xs v b->b∈td:=λb c=>by
  induction c with
  |root=>exact h.z
  |step _ q1 q2 q3 g=>
   obtain⟨j,a,rfl⟩:=bR g;obtain q|q:=h.4 j a O;·rw[q]at q1;cases q1
   exact q.2 q2 _ q3
 obtain⟨j,a,rfl⟩:=bR<|f b c;obtain q|q:=h.4 j a O;·rw[q]at d;cases d
 exact q.1 e
theorem OI.hit(h:OI xs v td i)(b:i<J td)(c:Yo xs td[i] v=Sn)(a:C7 xs td[i] v=1):N4 xs v:=⟨_,h.2 _<|aH b,c,a⟩
theorem OI.lt(h:OI xs v td i)(a:UF xs):∀x∈td,x<J xs:=λx b=>(h.2 x b).lt a
end
end
theorem Cr{go}(h:Pp w v n p m c k x B g i go M)(T:Z v.1<=j)(F:Sw (Z v.1) v u)(t:XK u j m k f (λ_=>k) λ_ _=>0)(V:∀b,b<m->Z v.1<=f b){l o}(K:Z u.1+2<=l)(L_:Z u.1+2<=o)(q:Sw (Z u.1+2) (D (D u<|Sc #[X (S ⟨j,0,U⟩) m m] 127) (Sc (madeCells #[X U 0 0] m) 23)) W)(r:YW W l o (Z W.1) ((m+63)/64) p m c (λ_=>0) (X U 0 0) []):
 PO ⟨w,n,m,c,k,(m+63)/64,p,x,B,g,i,Z u.1,j,Z u.1+1,l,o,Z v.1,Z u.1,Z W.1,go,f,M⟩/\Oi ⟨w,n,m,c,k,(m+63)/64,p,x,B,g,i,Z u.1,j,Z u.1+1,l,o,Z v.1,Z u.1,Z W.1,go,f,M⟩ W 0 ⟨λ_=>0,λ_=>0,λ_ _=>0,λ_ _=>0,λ_=>X U 0 0,λ_=>0,X U 0 0,[]⟩:=by
 have S_:=F.4;have Q_:Z (D (D u<|Sc #[X (S ⟨j,0,U⟩) m m] 127) (Sc (madeCells #[X U 0 0] m) 23)).1=Z u.1+2:=sP;have I_:Sw (Z u.1) u (D (D u<|Sc #[X (S ⟨j,0,U⟩) m m] 127) (Sc (madeCells #[X U 0 0] m) 23)):=Xb (Xb Rf _) _;have T_:Z u.1+2<=Z W.1:=oN q.4
 have C:=I_.trans<|q.mono O;have e:=Xg F C;have R_:=h.1.4;have y:=h.7.lt;have z:=aI v _ h.8;have H_:=h.o.1.lt;have F_:=h.b1;have b2:=h.b2;have G_:=h.b3;have O_:(D (D u<|Sc #[X (S ⟨j,0,U⟩) m m] 127) (Sc (madeCells #[X U 0 0] m) 23)).rowIs (Z u.1+1) 23 m (λ_=>X U 0 0):=by have:=dG (D u<|Sc #[X (S ⟨j,0,U⟩) m m] 127) (X U 0 0) m 23;rwa[aO]at this
 have d:∀s:Addr,s.1<Z v.1->E W s=E v s:=λs P_=>e.cell P_;have L:g<Z v.1:=z;refine⟨⟨⟨F_,y⟩,⟨b2,z⟩,⟨G_,H_⟩,λb a=>⟨h.b4 b a,(h.o.2 b a).lt⟩,h.d1,h.d2,h.d3,h.d4,⟨T,t.1.lt⟩,λb a=>⟨V b a,(t.2 b a).lt⟩,R,R,⟨K,r.7⟩,⟨L_,r.8⟩,r.9⟩,?_⟩;refine⟨Xg h.1 e,aA,G (d _<|by show Z w.1<_;omega) h.2,G (d _<|by show Z w.1<_;omega) h.3,G (d _<|by show Z w.1+1<_;omega) h.4,G (d _<|by show Z w.1+1<_;omega) h.5,λP=>G (e.frozen (p:=A (Z w.1+1) P) (by show Z w.1+1<_;omega)) (h.6 P),G (d _ L) h.8,G (d _ L) h.9,G (q.cell (p:=A (Z u.1) 0) (by show Z u.1<_;omega)) SC,h.o.keep e,(h.7.of_block<|e.5 _ y).congr λb _=>sP,λb a=>Sz a O,λb U_ a=>Sz a O,λb a=>Sz a O,t.keep C,(O_.of_block<|q.5 _ O).congr λb _=>sP,λb a=>Sz a O,r,λb a=>Sz a O⟩
structure OO(w4:Ub)(gB gD Kw CB:N)(W0:Wk)(pre:List Pl)(V:Ub):Prop where
 os:V.4=w4.4
 tape:V.2=w4.2
 output:V.5=w4.5
 size:Z w4.1<=Z V.1
 fr:∀q,q<Z w4.1->q≠gB->q≠gD->V.1[q]?=w4.1[q]?
 ws:Cp V gB Kw CB ((pre.map Pl.dat).foldl Ut W0)
 wd:Cp V gD Kw Kw ((pre.map Pl.dat).foldl Uo λ_=>0)
theorem OO.own(j:n<Z w.1)(l:m<Z w.1):OwnFrom (Z w.1) (OO w n m k B f):=λr t V row h a q=>by have o:=h.4;have c:∀b,b<Z w.1->V.1[b]?=t.1[b]?:=λb p=>a.5 b O (λe=>by have:=(q b e.symm).1;omega);exact⟨G a.1 h.1,G a.2 h.2,G a.3 h.3,aJ o a.4,λb d g i=>G (c b d) (h.5 b d g i),h.6.of_block<|c n j,h.7.of_block<|c m l⟩
theorem OO.below(b:n<Z w.1)(c:m<Z w.1){a}(h:OO w n m k B f a v)(d:Sw (Z v.1) v u):OO w n m k B f a u:=XO (OO.own b c) h d
theorem Ec{l:List (N×Wc×Wc)}(h:XA f):XA (l.foldl Ut f):=by
 induction l generalizing f with
 |nil=>exact h
 |cons q l a=>exact a<|Zs _ (JX _ h)
theorem OO.next{gB CB d}(h:OO w gB n m CB f d v)(k:gB<Z w.1)(i:gB≠n){p}(b:v.grownBy u (S gB))(c:u.grownBy W (S gB))(a:W.grownBy V (S n))(j:Cp W gB m CB (Ut ((d.map Pl.dat).foldl Ut f) p.dat))(g:Cp V n m m (Uo ((d.map Pl.dat).foldl Uo λ_=>0) p.dat)):OO w gB n m CB f (d++[p]) V:=by
 have l:=h.4;have o:=b.4;have r:=c.4;have s:=a.4;refine⟨G a.1<|G c.1 (G b.1 h.1),G a.2<|G c.2 (G b.2 h.2),G a.3<|G c.3 (G b.3 h.3),O,λq q1 q2 q3=>?_,?_,?_⟩;·exact G (a.5 q O λe=>q3<|by injection e) (G (c.5 q O λe=>q2<|by injection e) (G (b.5 q O λe=>q2<|by injection e) (h.5 q q1 q2 q3)))
 .rw[bG,dT];exact j.of_block<|a.5 gB O λe=>i<|by injection e
 rw[bG,dT];exact g
theorem tC{row:Zm}(h:Xf w n (Z w.1) p l)(k:w.grownBy v row)(t:∀r,row=S r->m<=r/\∃o:Obj,w.1[r]?=S o/\o.isCells=Sn):Xf v n (Z v.1) p l:=λq j=>by let⟨b,o,f,c,e⟩:=h q j;refine⟨b,o,f,⟨c.1,aX c.2 k.4⟩,G (Xc<|k.5 b c.2 λe2=>?_) e⟩;let⟨s,g,i⟩:=Yn e;let⟨_,u,a,d⟩:=t b e2.symm;rw[show w.1[b]?=S s from g]at a;injection a with a;subst a;rw[i]at d;cases d
theorem qn(n b)(a:N×Wc×Wc->Prop):OwnFrom n (og b a):=λ_ _ _ _ h k q=>⟨h.1,tC h.2.1 k q,tC h.2.2 k q⟩
theorem tA{a:N×Wc×Wc->Prop}{p}(h:og n a p w)(k:Sw (Z w.1) w v):og n a p v:=XO (qn 0 n a) h k
theorem YZ(h:Xf w m (Z w.1) p l)(k:w.grownBy v (S n))(f:n<m):Xf v m (Z v.1) p l:=λi d=>by let⟨b,o,e,a,c⟩:=h i d;exact⟨b,o,e,⟨a.1,aX a.2 k.4⟩,G (Xc<|k.5 b a.2 λe2=>by injection e2 with e2;omega) c⟩
structure PM(n₀ bp:N)(p:Pl)(V:Ub):Prop where
 ge:n₀<=bp
 c0:E V ⟨bp,0,U⟩=S (X p.2 (J p.4) p.3)
 c1:E V ⟨bp,1,U⟩=S (X p.5 (J p.7) p.6)
theorem PM.own{p}:OwnFrom n (λ(_:Unit) V=>PM m k p V):=λ_ j V row h g q=>by
 have d:V.1[k]?=j.1[k]?:=by let⟨o,b,f⟩:=Yn h.2;refine g.5 k (aS.1 b).1 λe=>?_;let⟨_,i,a,c⟩:=q k e.symm;rw[show j.1[k]?=S o from b]at a;injection a with a;subst a;rw[f]at c;cases c
 exact⟨h.1,G (Xc d) h.2,G (Xc d) h.3⟩
theorem Zg(k:w.grownBy v (S m))(c:d m)(g:n<=Z w.1):Zf n d w v :=
 ⟨k.4,λi f a=>k.5 i O (λe=>a<|by injection e with e;rw[e];exact c),λi o a b _=>G (k.5 i (aS.1 b).1 λe=>a<|by injection e with e;rw[e];exact c) b⟩
theorem Jc(k:w.grownBy v (S n))(c:∃o:Obj,w.1[n]?=S o/\o.isCells=So):KeepsOthers w v :=
 KeepsOthers.of_grownBy k (λj o e h=>by let⟨d,a,b⟩:=c;injection e with e;subst e;rw[a]at h;injection h with h;rw[<-h];exact b)
theorem Cp.obj(h:Cp w n m k f):∃o:Obj,w.1[n]?=S o/\o.isCells=So:=by let⟨_,T,c,a,_⟩:=h;exact⟨_,a,R⟩
theorem CE{wr}(h:ZJ wr n s)(d:n<=Z wr.1)(e:Z wr.1<=m)(hK:w.1[m]?=S (.deferred (S [])))(b:∀k,n<=k->wr.1[k]?=S (.deferred (S []))->w.1[k]?=wr.1[k]?):ZJ w n (m::s):=by
 have c:=λk a=>(aS.1<|h.3 k a).1;refine⟨fL.2 ⟨λk=>by have:=c m k;omega,h.1⟩,λk a=>?_,λk a=>?_⟩
 .rcases cH.1 a with rfl|a;·omega
  exact h.2 k a
 obtain rfl|a:=cH.1 a;·exact hK
 exact G (b k (h.2 k a) (h.3 k a)) (h.3 k a)
def Pn(V:N)(q:N×Wc×Wc):Prop:=(∀v∈q.2.1,0<=v/\v<V)/\(∀v∈q.2.2,0<=v/\v<V)/\J q.2.1<=4000/\J q.2.2<=4000
theorem qF(a:Jy n x)(c:q∈x):∀d∈NS q,Pn n d:=λd hq=>by
 unfold NS at hq;have h:J (Id q.3)<=1:=by unfold Id;split<;>simp
 obtain rfl|hq:=cH.1 hq;·exact⟨a.7 q c,λv b=>Sz b eA,by show J (Id q.3)<=_;omega,sP⟩
 obtain hq|hq:=bU.1 hq
 .obtain⟨j,_,rfl⟩:=aY.1 hq;have f:=oU q.2[j];have g:J (BW q.2[j])<=1:=by unfold BW;split<;>simp
  exact⟨a.5 q c _<|aH _,a.6 q c _<|aH _,by show J (Iw q.2[j])<=_;omega,by show J (BW q.2[j])<=_;omega⟩
 rw[cS.1 hq];refine⟨λv b=>Sz b eA,λv b=>?_,sP,?_⟩
 .obtain⟨p,e,rfl⟩:=aY.1 b;exact a.8 q c p e
 show J (q.1.map Ph.dst)<=_;rw[bK];exact(a.10 q c).2
structure Po(w w':Ub)(n Kw:N)(xs:Wi)(Gi Go:N)(gi go ci:Wk)(WI WX:Vp):Prop where
 low:Sw (Z w.1) w w'
 si:XK w' Gi n Kw gi ci WI
 so:XK w' Go n Kw go (λ_=>Kw) WX
 wi:XQ WI
 wx:XQ WX
 b1:Z w.1<=Gi/\Z w.1<=Go
 b2:∀i,i<n->Z w.1<=gi i/\Z w.1<=go i
 inn:∃(I_ T W0:Vp)(ord:Wa),(∀i (h:i<J xs),I_ i=OS xs[i] (W0 i))/\(∀i (h:i<J xs),T i=OU xs[i])/\(∀b,b<J xs->∀v,Xh (W0 b) v=So↔(b,v)∈Nr xs (J xs))/\(∀b,b<J xs->b∈ord)/\(∀b,b<n->∀x,x<64*Kw->(Xh (WI b) x=So↔Sp I_ T (·∈ord) (X8 xs) b x))/\∀b,b<n->∀x,(Xh (WX b) x=So↔Xh (W0 b) x=So\/∃t∈X8 xs b,Xh (WI t) x=So)
section
theorem Cw{w:Ub}{b e s:N}{v:Uj}{n}{i:Wo}(h:Sx w b e s v n i){g}(a:v.ownBlock=S g):∃o:Obj,w.1[g]?=S o/\o.isCells=So:=by
 obtain⟨_,h|⟨c,j,l,rfl,_,f,_⟩⟩:=h;·rw[h.1]at a;cases a
 have e:c=g:=by simpa [Value.ownBlock]using a
 subst e;exact⟨_,f,R⟩
theorem YW.same{w b a c f K i m j W v L}(h:YW w a c f K i m j W v L)(l:b.1[a]?=w.1[a]?)(n:b.1[c]?=w.1[c]?)(o:∀g,v.ownBlock=S g->b.1[g]?=w.1[g]?)(r:Z w.1<=Z b.1):YW b a c f K i m j W v L:=by have e:∀q,E b (A a q)=E w (A a q):=λq=>bZ l;exact⟨G (e 0) h.1,G (e 1) h.2,G (e 2) h.3,λq=>G (bJ l) (h.4 q),h.5.of_block n,Zl h.6 o,h.7,h.8,h.9,aJ h.sz r⟩
section
variable{p:VD}{wr w4 W w5:Ub}{k:N}{d:PE}{gB CB:N}{ps:List Pl}{u5:Uj}
theorem uJ(g:∀q,q<Z wr.1->q≠p.9->w4.1[q]?=wr.1[q]?)(j:Z wr.1<=Z w4.1)(i:Z wr.1<=gB)(a:OO w4 gB (p.gd k) p.5 CB (p.WO k) ps W)(h:Sw (Z W.1) W w5):
 ∀q,q<Z wr.1->q≠p.9->q≠p.gd k->q≠p.Gn->(Se w5 ⟨p.Gn,k,U⟩ u5).1[q]?=wr.1[q]?:=λq b c e f=>by
 have:=a.4;exact G (cY f) (G (h.5 q O) (G (a.5 q O O e) (g q b c)))
theorem B9(h:Oi p wr k d)(s:PO p)(j:k<p.n)(f:∀q,q<Z wr.1->q≠p.9->w4.1[q]?=wr.1[q]?)(l:Z wr.1<=Z w4.1)(i:Z wr.1<=gB)(b:OO w4 gB (p.gd k) p.5 CB (p.WO k) ps W)(c:Sw (Z W.1) W w5):
 YW (Se w5 ⟨p.Gn,k,U⟩ u5) p.bS p.gS p.M p.6 p.a p.n p.c d.6 d.7 d.8:=by
 have v:=h.2;have a:=uJ (u5:=u5) f l i b c;have m:=s.1;have o:=s.9;have r:=s.a6 k j;have t:=s.a8;have u:=s.a9;have n:=s.14;have w:=b.4;have x:=c.4;refine h.19.same (a _ O O O O) (a _ O O O O) (λg e=>?_) SF;have:=h.19.6.lt g e;exact a g O O O O
theorem Oi.round{j C K M m c5 u}(o:Oi p wr k d)(s:PO p)(hq:O2 p k d)(hm:ZJ wr p.M M)(z:k<p.n)(P:k<J p.8)(ht:∀l,l<p.n->∀al∈X8 p.8 l,al<p.n)(F:∀q,q<Z wr.1->q≠p.9->w4.1[q]?=wr.1[q]?)(w:w4.4=wr.4/\w4.2=wr.2/\w4.5=wr.5)(af:Z wr.1<=Z w4.1)(y:Z wr.1<=gB)(aq:gB<Z w4.1)(T_:w4.rowIs p.9 126 p.n λi=>if i=k then X (S ⟨gB,0,U⟩) p.5 CB else if i<k then X (S ⟨d.1 i,0,U⟩) p.5 (d.2 i)else X U 0 0)(b:OO w4 gB (p.gd k) p.5 CB (p.WO k) ps W)(T:ps.map Pl.dat=NS C)(x:C=p.8[k])(hD:Z w4.1<=K)(V:W.1[K]?=S (.deferred (S [])))(c:Sw (Z W.1) W w5)(aa:Xf w5 (Z W.1) (Z w5.1) m C.3.tg)(a:Vh (Se w5 ⟨p.Gn,k,U⟩ (X m (J C.3.tg) c5)) j p.bS p.gS d.7 u)(hs:YW j p.bS p.gS p.M p.6 p.a p.n p.c (C9 (X8 p.8) p.n k (d.6,d.8)).1 u (C9 (X8 p.8) p.n k (d.6,d.8)).2):
 ∃C_,Oi p j (k+1) C_/\O2 p (k+1) C_/\ZJ j p.M (K::M):=by
 have hz:=o.2;have O_:=uJ (u5:=X m (J C.3.tg) c5) F af y b c;have a1:=s.1;have ap:=s.9;have a6:=s.a6 k z;have a8:=s.a8;have a9:=s.a9;have ao:=s.14;have ar:=b.4;have az:=c.4;have aj:=a.4;rw[Xd]at aj;have t:=λg e=>o.19.6.lt g e
 have L_:∀g,u.ownBlock=S g->d.7.ownBlock=S g\/Z w5.1<=g:=λg e=>by
  obtain q|q:=a.6;·exact bC<|by rw[<-q];exact e
  have:=q g e;rw[Xd]at this;exact aZ this
 have R_:=(aS.1 V).1;have B:∀q,Z wr.1<=q->q<Z w5.1->j.1[q]?=w5.1[q]?:=λq r f=>G (a.5 q (by rw[Xd];exact f) O O λe=>by have:=t q e.symm;omega) (cY<|by show q≠p.Gn;omega);have M_:∀q,q<Z wr.1->q≠p.Gn->q≠p.bS->q≠p.gS->S q≠d.7.ownBlock->j.1[q]?=W.1[q]?:=λq r f h n v=>G (a.5 q SF h n v) (G (cY f) (c.5 q O));have L:∀q,q<p.M->S q≠d.7.ownBlock:=λq hq e=>by have:=t q e.symm;omega
 have I_:=λq r f h n v P_ Q_=>G (a.5 q SF v P_ Q_) (O_ q r f h n);have ad:(ps.map Pl.dat).foldl Ut (p.WO k)=OS p.8[k] (p.WO k):=by rw[T,<-x];rfl
 have ac:(ps.map Pl.dat).foldl Uo (λ_=>0)=OU p.8[k]:=by rw[T,<-x];rfl
 have Z_:Cp j gB p.5 CB (OS p.8[k] (p.WO k)):=by rw[<-ad];exact b.6.of_block<|G (B gB y O) (c.5 gB O)
 have S_:Cp j (p.gd k) p.5 p.5 (OU p.8[k]):=by rw[<-ac];exact b.7.of_block<|M_ _ O O O O (L _ O)
 have U_:=(T_.of_block<|b.5 p.9 O O O).of_block (M_ p.9 O O O O<|L _ O);have V_:w5.rowIs p.Gn 23 p.n (λi=>if i<k then d.5 i else Hq):=by refine((o.17.of_block<|F p.Gn O O).of_block (b.5 p.Gn O O O)).of_block (c.5 p.Gn O)
 have Y_:=(V_.set k<|X m (J C.3.tg) c5).of_block (a.5 p.Gn SF O O (L _ O));have K_:N6 p.8 k=C.3.tg:=by rw[VS P,x]
 refine⟨_,o.next s z (gB:=gB) (CB:=CB) (I':=OS p.8[k] (p.WO k)) (D':=OU p.8[k]) (nk:=X m (J C.3.tg) c5) (v':=u) (Ws':=(C9 (X8 p.8) p.n k (d.6,d.8)).1) (Lf':=(C9 (X8 p.8) p.n k (d.6,d.8)).2) (G a.1<|G c.1 (G b.1 w.1)) (G a.2<|G c.2 (G b.2 w.2.1)) (G a.3<|G c.3 (G b.3 w.2.2)) O I_ y Z_ U_ S_ Y_ ⟨m,c5,by rw[K_],?_⟩ hs ?_ ?_,hq.next z ht _ _ _ _ P R R,CE hm hz O ?_ ?_⟩
 .rw[K_];intro i hi;let⟨l,N_,e,hb,hc⟩:=aa i hi;refine⟨l,N_,e,⟨⟨O,O,λe2=>?_⟩,O⟩,G (Xc<|B l O hb.2) hc⟩;obtain q|q:=L_ l e2.symm;·have:=t l q;omega
  omega
 .rcases a.6 with q|q;·exact bC q
  exact aZ λg e=>by have:=q g e;rw[Xd]at this;omega
 .intro e;obtain q|q:=L_ gB e.symm;·have:=t gB q;omega
  omega
 .exact G (B K O O) (G (c.5 K R_) V)
 intro q r f;have ab:=(aS.1 f).1;refine I_ q ab O O O O O λe=>?_;let⟨N_,h,n⟩:=Cw o.19.6 e.symm;rw[f]at h;injection h with h;rw[<-h]at n;cases n
end
end
section
structure TH(W1:Ub)(G_:N)(wr:Ub)(u:Uj)(l:Wc):Prop where
 os:wr.4=W1.4
 tape:wr.2=W1.2
 output:wr.5=W1.5
 size:Z W1.1<=Z wr.1
 fr:∀q,q<Z W1.1->q≠G_->wr.1[q]?=W1.1[q]?
 own:Sx wr G_ 2 1 u (J l) (l.map<|Si S6)
 here:∀g,u.ownBlock=S g->g=G_\/Z W1.1<=g
section
variable{W1 wr w2:Ub}{G_:N}{u u':Uj}{l:Wc}
theorem TH.start(h:Sx W1 G_ 2 1 u 0 [])(a:∀g,u.ownBlock=S g->g=G_):TH W1 G_ W1 u []:=⟨R,R,R,aA,λ_ _ _=>R,h,λg e=>bC<|a g e⟩
theorem TH.push{x}(h:TH W1 G_ wr u l)(a:wr.grownBy w2 u.ownBlock)(f:Sx w2 G_ 2 1 u' (J l+1) (l.map (Si S6)++[H x]))(d:u'.ownBlock=u.ownBlock\/u'.ownBlock=S (Z wr.1)):TH W1 G_ w2 u' (l++[x]):=by
 have i:=h.4;refine⟨G a.1 h.1,G a.2 h.2,G a.3 h.3,aJ i a.4,λq c b=>G (a.5 q O λe=>?_) (h.5 q c b),?_,λg e=>?_⟩
 .rcases h.7 q e.symm with k|k;·exact b k
  omega
 .rw[Yl,aQ];exact f
 obtain k|k:=d;·exact h.7 g<|by rw[<-k];exact e
 rw[k]at e;injection e with e;exact aZ O
theorem TH.below(h:TH W1 G_ wr u l)(k:Sw (Z wr.1) wr w2):TH W1 G_ w2 u l :=
 ⟨G k.1 h.1,G k.2 h.2,G k.3 h.3,aJ h.4 k.4,λq a b=>G (k.5 q<|aX a h.4) (h.5 q a b),Zl h.6 λg e=>k.5 g (h.6.lt g e).2,h.7⟩
theorem TH.alloc(h:TH W1 G_ wr u l)(o):TH W1 G_ (D wr o) u l:=h.below<|Xb Rf o
theorem TH.cell(h:TH W1 G_ wr u l){b o}{v:Uj}(c:b≠G_)(a:E W1 (A b o)=S v):E wr (A b o)=S v:=G (Xc<|h.5 b (aI W1 _ a) c) a
end
end
theorem AI{t}:
 Sk prog 155 #[Sa #[H t.1,H t.a,H t.3,H t.4]] w λj e=>∃f c,j=Rt (X f (J (Id t)) c)/\Sw (Z w.1) w e/\Xf e (Z w.1) (Z e.1) f (Id t):=by
 let⟨d,h,tg,k⟩:=t;by_cases a:d=1
 .subst a
  go_in
  go_wp2;go_ret;exact⟨_,_,R,Xb (Xb Rf _) _,λi b=>Sz b<|by simp[Id]⟩
 have e1:(d==1)=Sn:=by simp[a]
 have g:Id ⟨d,h,tg,k⟩=[h]:=by simp[Id,a]
 rw[g]
 go_in
 go_wp2;go_ret;refine⟨_,_,R,Xb (Xb Rf _) _,λi b=>?_⟩
 match i,b with
 |0,_=>exact⟨_,_,R,⟨sP,sP⟩,sP⟩
theorem Wv(z)(w:Ub):
 Sk prog 156 #[mj z] w λt a=>∃K c_,t=Rt (X K (J (Iw z)) c_)/\Sw (Z w.1) w a/\Xf a (Z w.1) (Z a.1) K (Iw z):=by
 obtain⟨b,l,f,d,m⟩:=z;have V_:=Y λW=>vG b W;have P:=Y λW=>vU b W;have s:Q (Iw ⟨b,l,f,d,m⟩=(if aB b then [f]else [])++(if bB b then [d]else [])):=Y R;generalize Iw ⟨b,l,f,d,m⟩=rs at*;generalize aB b=Z_ at*;generalize bB b=T at*;unfold mj
 go_in
 go_wp2_with fail
 refine YU (V_ _) λr h=>?_;rw[h];clear h r;have c:Q (Sw (Z w.1) w<|D (D w<|Sc #[H b,H l,H f,H d,H m] 62) (Sc #[] 2)):=Y<|Xb (Xb Rf _) _;have k:=Y<|K5 w (Sc #[H b,H l,H f,H d,H m] 62);have Y_:(λV:Ub=>Z w.1<Z V.1/\(∀L M,#[H b,H l,H f,H d,H m][L]?=S M->E V (A (Z w.1) L)=S M)) (D (D w<|Sc #[H b,H l,H f,H d,H m] 62) (Sc #[] 2)):=⟨SB,(λL M X_=>by rw[bP _ _ _ sP];rw[eC];exact X_)⟩
 generalize D (D w _) _=W at*;obtain⟨q,v⟩:=Y_;have c0:=v 0 _ R;have c2:=v 2 _ R;have c3:=v 3 _ R;clear v;have aa:=Y q;cases Z_ with
 |false=>
  go_wp2_with fail
  refine YU (P _) λr h=>?_;rw[h];clear h r;cases T with
  |false=>
   go_wp2;go_ret;have e:=s.o;simp at e;subst e;obtain⟨i,c1,e1,j⟩:=Xk (xs:=([]:Wc)) (by simpa using k.o);exact⟨i,c1,fI Rt e1,c,j.mono O<|aA⟩
  |true=>
   go_wp2_with (at_builtin;refine YC RH k ?_)
   intro v1 w9 p o _ _;have n:=Xy (Xb c _) o (k.alloc _) O SB;have u:=Y n;have C:=Y p;clear p o n;go_wp2;go_ret;have e:=s.o;simp at e;subst e;obtain⟨i,c1,e1,j⟩:=Xk (xs:=([]:Wc)++[d]) (by simpa using C.o);exact⟨i,c1,fI Rt e1,u,j.mono O<|aA⟩
 |true=>
  go_wp2_with (at_builtin;refine YC RH k ?_)
  intro v0 y S_ x _ _;have R_:=Xy (Xb c _) x (k.alloc _) O SB;have F:=YJ x (k.alloc _) (b:=Z w.1) O SB;have d3:Cl y (Z w.1) 3 (H d):=G (Xc F) (G (bP W _ (A (Z w.1) 3) q) c3);have d0:Cl y (Z w.1) 0 (H b):=G (Xc F) (G (bP W _ (A (Z w.1) 0) q) c0);have P_:=Y R_;have B:=Y (by simpa using S_);have ab:Z w.1<Z y.1:=by have:=x.4;simp at this;omega
  clear S_ x F R_ c0 c2 c3;go_wp2_with fail
  refine YU (P _) λr h=>?_;rw[h];clear h r;cases T with
  |false=>
   go_wp2;go_ret;have e:=s.o;simp at e;subst e;obtain⟨i,c1,e1,j⟩:=Xk (xs:=[f]) (by simpa using B.o);exact⟨i,c1,fI Rt e1,P_,j.mono O<|aA⟩
  |true=>
   go_wp2_with (at_builtin;refine YC RH B ?_)
   intro v1 w9 p o _ _;have n:=Xy (Xb P_ _) o (B.alloc _) O SB;have u:=Y n;have C:=Y p;clear p o n;go_wp2;go_ret;have e:=s.o;simp at e;subst e;obtain⟨i,c1,e1,j⟩:=Xk (xs:=[f]++[d]) (by simpa using C.o);exact⟨i,c1,fI Rt e1,u,j.mono O<|aA⟩
theorem Bp{a}{v1 v2 v3 v4 v5:Uj}(L B)(d:Q (Jw w L B p a))(r:Q (n=J a))(W:n<=4000)(x:B<=Z w.1):
 Sk prog 154 #[Sa #[X p n m,v1,v2,v3,v4,v5]] w λv g=>∃h c,v=Rt (X h (J (a.map Ph.dst)) c)/\Sw (Z w.1) w g/\Xf g (Z w.1) (Z g.1) h (a.map Ph.dst):=by
 go_in
 go_wp2
 go_loopw [3,4] (λu i wr=>∃k:N,k<=n/\i=H k/\Q (Sw (Z w.1) w wr)/\Z w.1<Z wr.1/\E wr (A (Z w.1) 0)=S (X p n m)/\Q (Sx wr (Z w.1+1) 2 1 u k (((a.map Ph.dst).take k).map (Si S6)))) λ_ i _=>n-(JB i).toNat
 .exact⟨0,aN,R,Y<|Xb (Xb Rf _) _,SB,sP,Y<|K5 _ _⟩
 obtain⟨k,M,rfl,e,F,q,b⟩:=hrel;by_cases V:k<n
 .have j:k<J a:=oN r.o;obtain⟨P,T,rfl,⟨_,S_⟩,ha,T_,Q_,R_,_⟩:=(d.keep<|e.mono x) k j;have s:Q ((a.map Ph.dst).take (k+1)=(a.map Ph.dst).take k++[a[k].1]):=Y (by rw[X7<|by simpa using j];simp);generalize a[k]=X_ at*;generalize (a.map Ph.dst).take k=P_ at*;go_wp2_with (at_builtin;refine YC RH b ?_)
  intro Z_ w1 o f _ _;have t:=Y o;go_wp2;have y:=Xy (Xb e _) f (b.alloc _) O SB;have z:=YJ f (b.alloc _) (b:=Z w.1) O SB;have C:=f.4;simp at C;exact⟨⟨k+1,O,gM,Y y,O,G (Xc z) (G (bP wr _ (A (Z w.1) 0) F) q),Y<|by rw[s.o,Yl];exact t⟩,SA⟩
 go_wp2;go_ret;have l:=b.o;rw[aW (by have:=r.o;simp;omega)]at l;obtain⟨N_,c1,rfl,K⟩:=Xk l;exact⟨_,_,R,e,K.mono O<|aA⟩
def Oe(b:Wc)(a:Za)(p:I)(i:N):Wc:=(Rg i).flatMap λi=>if b.getD i 0=p then a.map (λh=>h.2.getD i 0)else []
theorem uW{a}:Oe l a t (n+1)=Oe l a t n++(if l.getD n 0=t then a.map (λh=>h.2.getD n 0)else []):=by unfold Oe;rw[dN,eZ];simp
theorem qL(b a p):∀i,J (Oe b a p i)<=i*J a
 |0=>by simp[Oe]
 |i+1=>by
  have:=qL b a p i;rw[uW,aQ,Nat.succ_mul];split;·rw[bK];omega
  simp;omega
theorem tY(c e)(ha:Q (Xp w B g p x))(M:Q (m=J x))(hB:g<=Z w.1)(ho:Q (Jy n x))(ct:k<m):
 Sk prog 101 #[Sa #[H n,X p m c],H e,H k] w λo w'=>∃s c',o=Rt (X (S s) (J (G2 x e (k:I))) c')/\Sw (Z w.1) w w'/\Xf w' (Z w.1) (Z w'.1) (S s) (G2 x e (k:I)):=by
 have hn:m<=1000:=oP M.o ho.1.2;have P:k<J x:=oN M.o;obtain⟨j,q,rfl,⟨cr,cq⟩,hc⟩:=ha k P;let⟨pa,pc,ia,ic,q0,_,_,bd,_⟩:=hc;have br:=Y bd;have bq:=Y<|ho.9 k P;have X_:=(ho.10 _<|aH P).2;have N_:Q (G2 x e k=if x[k].1=[]then []else Oe (AQ x 0 k) x[k].1 e (J (AQ x 0 k))):=Y (by unfold G2 Oe;rw[dM,aC P]);have a0:=Y λb4 (hW:Sw (Z w.1) w b4)=>ZE n c k (Y<|ha.keep (hW.mono hB)) M O (oN hW.4);have be:=YO k x 0;have bf:J (AQ x 0 k)<=1000:=oN M.o;generalize AQ x 0 k=f at*;generalize G2 x e k=ed at*;generalize x[k].1=b at*;clear bd;have U_:j<Z w.1:=O;have qa:=λo1 o2=>oB (Xb (Xb (dC (Z w.1) w) o1) o2) q0 U_;clear q0
 go_in
 by_cases T:J b=0
 .have V:=iE T;have he:ed=[]:=by rw[N_.o,aU V]
  have bi:Q (Sw (Z w.1) w<|D (D w<|Sc #[H n,Hm j q m c] 45) (Sc #[] 2)):=Y<|Xb (Xb Rf _) _;simp only[T]at qa;clear bf X_ be;go_wp2;go_ret;rw[he];exact⟨_,_,R,bi,λv V_=>Sz V_ sP⟩
 have b5:((J b:I)==0)=Sn:=by simp[T]
 have V:b≠[]:=λo=>T (by rw[o];rfl);have al:Q (ed=Oe f b e (J f)):=Y (by rw[N_.o,aM V]);clear V;have az:=Y<|K5 w (Sc #[H n,Hm j q m c] 45);have M_:Q (Sw (Z w.1) w<|D (D w<|Sc #[H n,Hm j q m c] 45) (Sc #[] 2)):=Y<|Xb (Xb Rf _) _;have af:Z (D (D w<|Sc #[H n,Hm j q m c] 45) (Sc #[] 2)).1=Z w.1+2:=sP;have a6:E (D (D w<|Sc #[H n,Hm j q m c] 45) (Sc #[] 2)) (A (Z w.1) 1)=S (Hm j q m c):=sP;go_wp2_with fail
 refine(a0 _ M_).mono ?_;rintro o L⟨a1,c1,rfl,t,W_⟩;rw[af]at t W_;have ch:=t.4;rw[af]at ch;have r:=Y<|M_.trans (t.mono O);have a7:=G (XU t O) a6;have bo:=Y W_;have ap:Q (TH L (Z w.1+1) L (Hl (Z w.1+1) 0 0) []):=Y (TH.start (Zl az (λC o=>by
  have S_:Z w.1+1=C:=by simpa [Value.ownBlock]using o
  subst S_;exact t.5 _ O)) (λC o=>by
  have S_:Z w.1+1=C:=by simpa [Value.ownBlock]using o
  exact S_.symm))
 have a2:=G (r.cell (p:=A j<|q+k*6) U_) (by have:=qa (Sc #[] 0) (Sc #[] 0);exact G ((Xb (Xb (dC (Z w.1) w) _) _).cell (p:=A j<|q+k*6) U_).symm this);have P_:=Y a2;have ao:=Y a7;have bt:=Y<|br.keep (r.mono hB);have bl:=al;let⟨np,F⟩:∃d,d=J f:=⟨_,R⟩;rw[<-F]at bf;have ar:=Y F;let⟨K,Z_⟩:∃d,d=J b:=⟨_,R⟩;rw[<-Z_]at P_ X_ b5;have O_:=Y Z_;clear t W_ a6 a7 af a2 qa be;rw[<-F];clear F Z_;go_wp2
 go_loopw [7,9] (λu v wr=>∃a:N,a<=np/\v=H a/\Q (TH L (Z w.1+1) wr u (Oe f b e a))/\Q (u≠Hq)) λ_ v _=>np-(JB v).toNat
 .exact⟨0,aN,R,ap,Y sP⟩
 obtain⟨a,hk,rfl,i,R_⟩:=hrel;by_cases cb:a<np
 .have ba:a<J f:=by rw[<-ar.o];exact cb
  obtain⟨b1,o1,rfl,⟨ck,cl⟩,a4⟩:=bo a ba;have k1:=i.cell O a4;have kf:=i.cell O ao;have kq:=i.cell O P_;have A_:Q (Oe f b e (a+1)=Oe f b e a++(if f[a]=e then b.map (λh=>h.2.getD a 0)else [])):=Y (by rw[uW];congr 1;rw[bF,aC ba];rfl);have bp:Q (J (Oe f b e a)<=4000000):=Y (aJ (qL f b e a) (aJ (lO (show a<=1000 by omega) (show J b<=4000 by rw[<-O_.o];exact X_)) vY));generalize f[a]=z at*;clear a4;by_cases W:z=e
  .subst W;have Q_:=Y (by have h:=A_.o;rw[aU R]at h;exact h);have b7:(z==z)=So:=sP;generalize Oe f b z a=T_ at*;go_wp2_with fail
   clear k1 kf kq;generalize wr=wo at*
   go_loopw [7,10] (λu aj wr=>∃d:N,d<=K/\aj=H d/\Q (TH L (Z w.1+1) wr u (T_++(b.map λh=>h.2.getD a 0).take d))/\Q (u≠Hq)) λ_ v _=>K-(JB v).toNat
   .exact⟨0,aN,R,Y (by simpa using i.o),R_⟩
   obtain⟨d,hm,rfl,l,bx⟩:=hrel;have kf:=l.cell O ao;have kq:=l.cell O P_;by_cases cd:d<K
   .have Y_:d<J b:=by rw[<-O_.o];exact cd
    obtain⟨b2,o2,rfl,⟨cm,cn⟩,aa,ac,g0,g1,gi⟩:=bt d Y_;have b6:=(bq b[d] (aH Y_)).1;have a9:a<J b[d].2:=O;obtain⟨b3,o3,rfl,⟨co,cp⟩,g3⟩:=gi a a9;have m1:=l.cell O g1;have m3:=l.cell O g3;have bv:Q ((b.map λh=>h.2.getD a 0).take (d+1)=(b.map λh=>h.2.getD a 0).take d++[b[d].2[a]]):=Y (by rw[X7<|by simpa using Y_];simp[a9]);have aq:Q (J (T_++(b.map λh=>h.2.getD a 0).take d)<=4004000):=Y (by have:=bp.o;rw[aQ,dH];omega);have cs:(a:I)<(J b[d].2:I):=O;generalize (b.map λh=>h.2.getD a 0).take d=tm at*;generalize b[d].2[a]=av at*;generalize J b[d].2=la at*;generalize a5:T_++tm=el at*;have bm:=Y a5;clear g0 g1 g3 gi b6 a5;go_wp2_with (at_builtin;refine YC RH l.6 ?_ (oN aq.o) (oN l.4))
    intro u1 w2 bc a8 bb a3;have bn:=Y ((l.alloc _).push (x:=av) a8 bc (by rw[aO];exact a3));have b0:Q (u1≠Hq):=Y bb;clear bc a8 a3 bb kf kq m1 m3;go_wp2;exact⟨⟨d+1,O,gM,Y (by rw[bv.o,<-cK,bm.o];exact bn),b0⟩,SA⟩
   have ce:K<=d:=O;go_wp2;exact⟨⟨a+1,O,gM,Y (by rw[Q_.o];have h:=l.o;rw[aW<|by rw[bK,<-O_.o];exact ce]at h;exact h),bx⟩,SA⟩
  have Q_:=Y (by have h:=A_.o;rw[aM W,fF]at h;exact h);have b7:(z==e)=Sn:=by simp[W]
  clear W;go_wp2;exact⟨⟨a+1,O,gM,Y (by rw[Q_.o];exact i),R_⟩,SA⟩
 have ca:a=J f:=oN ar.o;go_wp2;go_ret;have ab:=i.6;rw[ca,<-bl.o]at ab;let⟨s,cc,e2,V_⟩:=Xk ab;cases s with
 |none=>
  exfalso;obtain⟨y,_,_⟩|y:=Vc ab;·exact R_ y
  let⟨C,cj,y,_⟩:=y;rw[y]at e2;injection e2 with e2;cases e2
 |some s=>
  refine⟨s,cc,fI Rt e2,⟨G i.1 r.1,G i.2 r.2,G i.3 r.3,aJ r.4 i.4,λbh hq=>G (i.5 bh O O) (r.5 bh hq)⟩,V_.mono O<|aA⟩
section
def Jv(x:Xe):Tm:=x.2.map Iw
def Z2(x:Xe):Wc:=x.2.map H7
theorem Yv.mono{w P Q_ c d}(h:Yv w P c d)(k:∀b,b<Z w.1->P b->Q_ b):Yv w Q_ c d:=λi g=>by let⟨b,o,e,a,f⟩:=h i g;exact⟨b,o,e,⟨k b a.2 a.1,a.2⟩,f⟩
theorem Yv.keep{w w' P c d}(h:Yv w P c d)(k:∀b,b<Z w.1->P b->w'.1[b]?=w.1[b]?)(i:Z w.1<=Z w'.1):Yv w' P c d:=λj g=>by let⟨b,o,e,a,f⟩:=h j g;exact⟨b,o,e,⟨a.1,aX a.2 i⟩,G (Xc<|k b a.2 a.1) f⟩
theorem TA.mono{w P Q_ c d}(h:TA w P c d)(k:∀b,b<Z w.1->P b->Q_ b):TA w Q_ c d:=λn m=>by let⟨b,o,g,a,e,f,j,i⟩:=h n m;exact⟨b,o,g,⟨k b a.2 a.1,a.2⟩,e,f,j,i.mono k⟩
theorem TA.keep{w w' P c e}(i:TA w P c e)(k:∀b,b<Z w.1->P b->w'.1[b]?=w.1[b]?)(d:Z w.1<=Z w'.1):TA w' P c e:=λo n=>by let⟨b,p,h,a,f,g,m,j⟩:=i o n;exact⟨b,p,h,⟨a.1,aX a.2 d⟩,f,g,G (Xc<|k b a.2 a.1) m,j.keep k d⟩
theorem Yv.of_at{w L B P a d}(h:Xf w L B a d)(j:B<=Z w.1)(k:∀b,L<=b->b<B->P b):Yv w P a d:=λi g=>by let⟨b,o,e,c,f⟩:=h i g;exact⟨b,o,e,⟨k b c.1 c.2,O⟩,f⟩
theorem Yv.at_{w P a b}(h:Yv w P a b):Xf w 0 (Z w.1) a b:=λi g=>by let⟨c,o,e,d,f⟩:=h i g;exact⟨c,o,e,⟨aN,d.2⟩,f⟩
structure VO(w:Ub)(P:Vv)(us:Vu)(x:Xe)(E_:Wc):Prop where
 e0:∃a c,us 0=X a (J x.3.tg) c/\Yv w P a x.3.tg
 e1:∃a c,us 1=X a (J (x.1.map Ph.dst)) c/\Yv w P a (x.1.map Ph.dst)
 e2:∃a c,us 2=X a (J E_) c/\Yv w P a E_
 e3:∃a c,us 3=X a (J (Jv x)) c/\TA w P a (Jv x)
 e4:∃a c,us 4=X a (J (Z2 x)) c/\Yv w P a (Z2 x)
 e5:∃a c,us 5=X a (J (Id x.3)) c/\Yv w P a (Id x.3)
theorem VO.keep{w w' P c x t}(m:VO w P c x t)(k:∀b,b<Z w.1->P b->w'.1[b]?=w.1[b]?)(a:Z w.1<=Z w'.1):VO w' P c x t:=by let⟨⟨d,c0,j,n⟩,⟨e,c1,e1,o⟩,⟨f,c2,e2,p⟩,⟨g,c3,e3,q⟩,⟨h,c4,e4,r⟩,⟨i,c5,e5,s⟩⟩:=m;exact⟨⟨d,c0,j,n.keep k a⟩,⟨e,c1,e1,o.keep k a⟩,⟨f,c2,e2,p.keep k a⟩,⟨g,c3,e3,q.keep k a⟩,⟨h,c4,e4,r.keep k a⟩,⟨i,c5,e5,s.keep k a⟩⟩
theorem VO.mono{w P Q_ a x s}(j:VO w P a x s)(k:∀b,b<Z w.1->P b->Q_ b):VO w Q_ a x s:=by let⟨⟨c,c0,i,m⟩,⟨d,c1,e1,n⟩,⟨e,c2,e2,o⟩,⟨f,c3,e3,p⟩,⟨g,c4,e4,q⟩,⟨h,c5,e5,r⟩⟩:=j;exact⟨⟨c,c0,i,m.mono k⟩,⟨d,c1,e1,n.mono k⟩,⟨e,c2,e2,o.mono k⟩,⟨f,c3,e3,p.mono k⟩,⟨g,c4,e4,q.mono k⟩,⟨h,c5,e5,r.mono k⟩⟩
structure Ow(W1:Ub)(bx:N)(f0:Vu)(wr:Ub)(u:Uj)(l:Wc):Prop where
 os:wr.4=W1.4
 tape:wr.2=W1.2
 output:wr.5=W1.5
 size:Z W1.1<=Z wr.1
 fr:∀q,q<Z W1.1->q≠bx->wr.1[q]?=W1.1[q]?
 box:wr.rowIs bx 170 6 λi=>if i=2 then u else f0 i
 own:Sx wr (Z W1.1) 2 1 u (J l) (l.map<|Si S6)
section
variable{W1 wr w5 w6:Ub}{bx:N}{f0:N->Uj}{u u':Uj}{l qs:Wc}
theorem Ow.start(b:W1.rowIs bx 170 6 f0)(a:f0 2=X U 0 0):Ow W1 bx f0 W1 (X U 0 0) [] :=
 ⟨R,R,R,aA,λ_ _ _=>R,b.congr (λi _=>by by_cases e:i=2<;>simp[e,a]),dA⟩
theorem Ow.push(h:Ow W1 bx f0 wr u l)(g:bx<Z W1.1)(b:Sw (Z wr.1) wr w5)(a:w5.grownBy w6 u.ownBlock)(i:Sx w6 (Z W1.1) 2 1 u' (J (l++qs)) ((l++qs).map (Si S6))):Ow W1 bx f0 (Se w6 ⟨bx,2,U⟩ u') u' (l++qs):=by have k:=h.4;have m:=b.4;have n:=a.4;have f:∀q,q<Z W1.1->w6.1[q]?=wr.1[q]?:=λq hq=>G (a.5 q O λe=>by have:=(h.7.lt q e.symm).1;omega) (b.5 q O);refine⟨G a.1<|G b.1 h.1,G a.2<|G b.2 h.2,G a.3<|G b.3 h.3,SF,λq c d=>G (cY d) (G (f q c) (h.5 q c d)),((h.6.of_block<|f bx g).set 2 u').congr (λj _=>by by_cases e:j=2<;>simp[e]),ke i g _⟩
theorem Ow.cell(h:Ow W1 bx f0 wr u l){b o}{v:Uj}(c:b≠bx)(a:E W1 (A b o)=S v):E wr (A b o)=S v:=G (Xc<|h.5 b (aI W1 _ a) c) a
end
structure OL(W2:Ub)(bx:N)(f0:Vu)(wr:Ub)(ur ud:Uj)(rs:Wo)(zs:Tm)(ds:Wc):Prop where
 os:wr.4=W2.4
 tape:wr.2=W2.2
 output:wr.5=W2.5
 size:Z W2.1<=Z wr.1
 fr:∀q,q<Z W2.1->q≠bx->wr.1[q]?=W2.1[q]?
 box:wr.rowIs bx 170 6 λi=>if i=3 then ur else if i=4 then ud else f0 i
 ownR:Sx wr (Z W2.1) 99 1 ur (J rs) rs
 len:J rs=J zs
 rows:∀i (h:i<J zs),∃a' c',rs[i]?=S (X a' (J zs[i]) c')/\Yv wr (λb=>Z W2.1<=b/\S b≠ur.ownBlock/\S b≠ud.ownBlock) a' zs[i]
 ownD:Sx wr (Z W2.1) 2 1 ud (J ds) (ds.map<|Si S6)
 ne:∀g,ur.ownBlock=S g->ud.ownBlock≠S g
section
variable{W2 wr w5 w6:Ub}{bx:N}{f0:N->Uj}{ur ud ur' ud':Uj}{rs:Wo}{zs:Tm}{ds:Wc}
theorem OL.start(c:W2.rowIs bx 170 6 f0)(a:f0 3=X U 0 0)(b:f0 4=X U 0 0):OL W2 bx f0 W2 (X U 0 0) (X U 0 0) [] [] [] :=
 ⟨R,R,R,aA,λ_ _ _=>R,c.congr (λi _=>by by_cases e:i=3<;>by_cases e2:i=4<;>simp[e,e2,a,b]),dA,R,λi h=>Sz h sP,dA,λg e=>by cases e⟩
theorem OL.below(h:OL W2 bx f0 wr ur ud rs zs ds)(k:Sw (Z wr.1) wr w5):OL W2 bx f0 w5 ur ud rs zs ds:=by have n:=h.size;refine⟨G k.1 h.os,G k.2 h.tape,G k.3 h.output,aJ n k.4,λq d f=>G (k.5 q O) (h.fr q d f),h.box.of_block<|k.5 _ h.box.lt,Zl h.ownR λg e=>k.5 g (h.ownR.lt g e).2,h.len,λo j=>?_,Zl h.ownD λg e=>k.5 g (h.ownD.lt g e).2,h.ne⟩;let⟨a,c,e,m⟩:=h.rows o j;exact⟨a,c,e,m.keep (λb i _=>k.5 b i) k.4⟩
theorem OL.pushR{f:Uy}{c5:N}{ys:Wc}(h:OL W2 bx f0 wr ur ud rs zs ds)(s:bx<Z W2.1){B0:N}(K:Z W2.1<=B0)(n:∀g,ur.ownBlock=S g->g<B0)(y:∀g,ud.ownBlock=S g->g<B0)(C:Xf wr B0 (Z wr.1) f ys)(d:wr.grownBy w6 ur.ownBlock)(B:Sx w6 (Z W2.1) 99 1 ur' (J rs+1) (rs++[X f (J ys) c5]))(o:ur'.ownBlock=ur.ownBlock\/ur'.ownBlock=S (Z wr.1)):
 OL W2 bx f0 (Se w6 ⟨bx,3,U⟩ ur') ur' ud (rs++[X f (J ys) c5]) (zs++[ys]) ds:=by
 have L:=h.size;have F:=d.4;have p:∀q,q<Z W2.1->S q≠ur.ownBlock:=λq hq e=>by have:=(h.ownR.lt q e.symm).1;omega
 have r:∀b,b<Z wr.1->S b≠ur.ownBlock->S b≠ur'.ownBlock:=λb c a e=>by
  obtain k|k:=o;·exact a (k▸e)
  rw[k]at e;injection e with e;omega
 have keep:∀b,b<Z wr.1->b≠bx->S b≠ur.ownBlock->(Se w6 (A bx 3) ur').1[b]?=wr.1[b]?:=λb a j x=>G (cY j) (d.5 b a x);refine⟨G d.1 h.os,G d.2 h.tape,G d.3 h.output,SF,λq a j=>G (keep q O j<|p q a) (h.fr q a j),((h.box.of_block<|d.5 bx O (p _ s)).set 3 ur').congr (λi _=>by by_cases e:i=3<;>simp[e]),?_,by simp[h.len],λi z=>?_,?_,λg e=>?_⟩
 .rw[aQ];exact ke B s _
 .by_cases e:i<J zs
  .let⟨t,v,e1,m⟩:=h.rows i e;refine⟨t,v,?_,?_⟩;·rw[dL (h.len▸e),fA e];exact e1
   rw[fA e];refine(m.mono (Q_:=λb=>Z W2.1<=b/\S b≠ur.ownBlock/\S b≠ur'.ownBlock/\S b≠ud.ownBlock) λb c q=>⟨q.1,q.2.1,r b c q.2.1,q.2.2⟩).keep (λb c q=>keep b c O q.2.1) SF |>.mono λb _ q=>⟨q.1,q.2.2.1,q.2.2.2⟩
  have w:i=J zs:=by simp at z;omega
  subst w;refine⟨f,c5,?_,?_⟩;·rw[eV (h.len▸aA),h.len];simp
  rw[fN<|aA];simp only[kL,eM];have m:Yv wr (λb=>B0<=b) f ys:=Yv.of_at C aA λb a _=>a;exact((m.mono (Q_:=λb=>Z W2.1<=b/\S b≠ur'.ownBlock/\S b≠ud.ownBlock/\S b≠ur.ownBlock) λb c q=>⟨O,r b c (λe=>by have:=n b e.symm;omega),λe=>by have:=y b e.symm;omega,λe=>by have:=n b e.symm;omega⟩).keep (w':=Se w6 (A bx 3) ur') (λb c q=>keep b c O q.2.2.2) SF).mono λb _ q=>⟨q.1,q.2.1,q.2.2.1⟩
 .refine Zl h.ownD λg e=>keep g (h.ownD.lt g e).2 (oN<|(h.ownD.lt g e).1) λe2=>h.ne g e2.symm e
 obtain k|k:=o;·rw[k]at e;exact h.ne g e
 rw[k]at e;injection e with e;intro e2;have:=(h.ownD.lt g e2).2;omega
theorem OL.pushD{x}(h:OL W2 bx f0 wr ur ud rs zs ds)(n:bx<Z W2.1)(c:wr.grownBy w6 ud.ownBlock)(w:Sx w6 (Z W2.1) 2 1 ud' (J ds+1) (ds.map (Si S6)++[Si S6 x]))(s:ud'.ownBlock=ud.ownBlock\/ud'.ownBlock=S (Z wr.1)):
 OL W2 bx f0 (Se w6 ⟨bx,4,U⟩ ud') ur ud' rs zs (ds++[x]):=by
 have v:=h.size;have B:=c.4;have j:∀q,q<Z W2.1->S q≠ud.ownBlock:=λq hq e=>by have:=(h.ownD.lt q e.symm).1;omega
 have m:∀b,b<Z wr.1->S b≠ud.ownBlock->S b≠ud'.ownBlock:=λb f a e=>by
  obtain k|k:=s;·exact a (k▸e)
  rw[k]at e;injection e with e;omega
 have keep:∀b,b<Z wr.1->b≠bx->S b≠ud.ownBlock->(Se w6 (A bx 4) ud').1[b]?=wr.1[b]?:=λb a d r=>G (cY d) (c.5 b a r);refine⟨G c.1 h.os,G c.2 h.tape,G c.3 h.output,SF,λq a d=>G (keep q O d<|j q a) (h.fr q a d),((h.box.of_block<|c.5 bx O (j _ n)).set 4 ud').congr (λi _=>by by_cases e:i=4<;>simp[e]),Zl h.ownR λg e=>keep g (h.ownR.lt g e).2 (oN<|(h.ownR.lt g e).1) λe2=>h.ne g e e2.symm,h.len,λi t=>?_,?_,λg e e2=>?_⟩
 .let⟨o,p,e1,y⟩:=h.rows i t;refine⟨o,p,e1,?_⟩;exact((y.mono (Q_:=λb=>Z W2.1<=b/\S b≠ur.ownBlock/\S b≠ud'.ownBlock/\S b≠ud.ownBlock) λb f q=>⟨q.1,q.2.1,m b f q.2.2,q.2.2⟩).keep (w':=Se w6 (A bx 4) ud') (λb f q=>keep b f O q.2.2.2) SF).mono λb _ q=>⟨q.1,q.2.1,q.2.2.1⟩
 .rw[Yl,aQ];exact ke w n _
 exact m g (h.ownR.lt g e).2 (λe3=>h.ne g e e3.symm) e2.symm
theorem OL.fin(h:OL W2 bx f0 wr ur ud rs zs ds):(∃a c,ur=X a (J zs) c/\TA wr (λb=>Z W2.1<=b) a zs)/\∃a c,ud=X a (J ds) c/\Yv wr (λb=>Z W2.1<=b) a ds:=by
 refine⟨?_,?_⟩
 .rcases Vc h.ownR with⟨e1,e2,_⟩|⟨g,c,e1,hg,_⟩
  .have n:J zs=0:=h.len▸e2;exact⟨U,0,by rw[e1,n],λi d=>Sz d O⟩
  refine⟨_,c,by rw[e1,h.len],λi d=>?_⟩;let⟨e,f,e3,m⟩:=h.rows i d;refine⟨g,0,R,hg,e,f,?_,m.mono λb _ q=>q.1⟩;have:=h.ownR.cells (g:=g) (by rw[e1];rfl) i _ e3;rw[aV];by_cases e4:i=0;·subst e4;simpa [Addr.add]using this
  simpa [Addr.add,e4]using this
 let⟨a,c,j,d⟩:=Xk h.ownD;exact⟨a,c,j,Yv.of_at d aA λb k _=>k⟩
end
structure PL(w:Ub)(V:N)(a:Uy)(n c:N)(xs:Wi)(wr:Ub)(u:Uj)(k:N)(cs:Wo):Prop where
 low:Sw (Z w.1) w wr
 sz:Z w.1+2<=Z wr.1
 f0:E wr ⟨Z w.1,0,U⟩=S (Si S6 (V:I))
 f1:E wr ⟨Z w.1,1,U⟩=S (X a n c)
 own:Sx wr (Z w.1+1) 170 6 u k cs
 fa:∀i (h:i<J xs),i<k->VO wr (λb=>Z w.1+2<=b/\S b≠u.ownBlock) (λj=>cs.getD (i*6+j) (X U 0 0)) xs[i] (XP xs i)
theorem PL.next{w V K L c s}{wr i o:Ub}{u u':Uj}{k m f}(h:PL w V K L c s wr u k m)(T_:k<J s)(n:Sw (Z wr.1) wr i)(T:VO i (λb=>Z wr.1<=b) f s[k] (XP s k))(g:i.grownBy o u.ownBlock)(W:Sx o (Z w.1+1) 170 6 u' (k+1) (m++[f 0,f 1,f 2,f 3,f 4,f 5]))(M_:u'.ownBlock=u.ownBlock\/u'.ownBlock=S (Z i.1)):
 PL w V K L c s o u' (k+1) (m++[f 0,f 1,f 2,f 3,f 4,f 5]):=by
 have W_:=h.sz;have R_:=n.4;have M:=g.4;have U_:=h.low.4;have C:=λJ_ e=>h.own.lt J_ e;have N_:=h.own.1;have v:∀q,q<=Z w.1->o.1[q]?=wr.1[q]?:=λq hq=>G (g.5 q O λe=>by have:=C q e.symm;omega) (n.5 q O)
 refine⟨⟨G g.1<|G n.1 h.low.1,G g.2<|G n.2 h.low.2,G g.3<|G n.3 h.low.3,O,λq hq=>G (v q O) (h.low.5 q hq)⟩,O,G (Xc<|v _ aA) h.f0,G (Xc<|v _ aA) h.f1,W,λr P_ S_=>?_⟩;have P:∀b,b<Z i.1->S b≠u.ownBlock->S b≠u'.ownBlock:=λb d p e=>by
  obtain q|q:=M_;·exact p (q▸e)
  rw[q]at e;injection e with e;omega
 by_cases e:r=k
 .subst e
  have v_:=T.mono (Q_:=λb=>(Z w.1+2<=b/\S b≠u'.ownBlock)/\S b≠u.ownBlock) (λb d q=>⟨⟨O,P b d λe=>by have:=C b e.symm;omega⟩,λe=>by have:=C b e.symm;omega⟩);have y_:=(v_.keep (w':=o) (λb d q=>g.5 b d q.2) M).mono (Q_:=λb=>Z w.1+2<=b/\S b≠u'.ownBlock) λb _ q=>q.1;have a:∀j,j<6->(m++[f 0,f 1,f 2,f 3,f 4,f 5]).getD (r*6+j) Hq=f j:=λj F=>by
   rw[bF,eV O,N_,uB]
   match j,F with
   |0,_=>rfl
   |1,_=>rfl
   |2,_=>rfl
   |3,_=>rfl
   |4,_=>rfl
   |5,_=>rfl
  let⟨t,p,x,z,y,B⟩:=y_;exact⟨by rw[a 0 vY];exact t,by rw[a 1 vY];exact p,by rw[a 2 vY];exact x,by rw[a 3 vY];exact z,by rw[a 4 vY];exact y,by rw[a 5 vY];exact B⟩
 have a:∀j,j<6->(m++[f 0,f 1,f 2,f 3,f 4,f 5]).getD (r*6+j) Hq=m.getD (r*6+j) Hq:=λj F=>by rw[bF,bF,dL O]
 let⟨t,K_,x,z,y,B⟩:=((((h.fa r P_ O).keep (w':=i) (λb d _=>n.5 b d) R_).mono (Q_:=λb=>(Z w.1+2<=b/\S b≠u'.ownBlock)/\S b≠u.ownBlock) λb d q=>⟨⟨q.1,P b d q.2⟩,q.2⟩).keep (w':=o) (λb d q=>g.5 b d q.2) M).mono (Q_:=λb=>Z w.1+2<=b/\S b≠u'.ownBlock) λb _ q=>q.1;exact⟨(a 0 vY)▸t,(a 1 vY)▸K_,(a 2 vY)▸x,(a 3 vY)▸z,(a 4 vY)▸y,(a 5 vY)▸B⟩
theorem EZ{w L B b a}(h:Xf w L B (S b) a):∀(j:N)(u:Uj),(a.map<|Si S6)[j]?=S u->E w (b.add j)=S u:=λj u c=>by
 have d:j<J a:=by have:=(cV.1 c).1;simpa using this
 let⟨i,o,e,_,f⟩:=h j d;injection e with e;subst e;have g:H a[j]=u:=by simpa [d]using c
 rw[<-g,<-f];by_cases e:j=0<;>simp[Addr.add,e]
theorem tQ{V a}(b:Jy V a)(p t):J (G2 a p t)<=4000000:=by
 unfold G2;split;·simp
 rename_i x e;split;·simp
 have f:=YO t a 0;have g:=b.1.2;exact aJ (qL (AQ a 0 t) x.1 p (J (AQ a 0 t))) (aJ (lO (show J (AQ a 0 t)<=1000 by omega) (b.10 x<|eN e).2) vY)
theorem V8{V b}(a:Jy V b)(p):∀l:Wc,J (l.flatMap<|G2 b p)<=J l*4000000
 |[]=>sP
 |t::l=>by have c:=V8 a p l;have d:=tQ a p t;rw[jF,aQ,bA];omega
theorem CL{a:Wi}{p}{l:Wc}{j}(h:j<J l):(l.take<|j+1).flatMap (G2 a p)=(l.take j).flatMap (G2 a p)++G2 a p l[j]:=by rw[bN h,eZ];simp
structure Pv(wr Y_:Ub)(bx:N)(X_:Xe)(f0:Vu):Prop where
 low:Sw (Z wr.1) wr Y_
 b1:Z wr.1<=bx
 box:Y_.rowIs bx 170 6 f0
 n2:f0 2=X U 0 0
 n3:f0 3=X U 0 0
 n4:f0 4=X U 0 0
 e0:∃a c,f0 0=X a (J X_.3.tg) c/\Yv Y_ (λb=>Z wr.1<=b/\b≠bx) a X_.3.tg
 e1:∃a c,f0 1=X a (J X_.1) c/\Yv Y_ (λb=>Z wr.1<=b/\b≠bx) a (X_.1.map Ph.dst)
 e5:∃a c,f0 5=X a (J (Id X_.3)) c/\Yv Y_ (λb=>Z wr.1<=b/\b≠bx) a (Id X_.3)
def xp(c a b:Uj)(i:N):Uj:=if i=0 then c else if i=1 then a else if i=5 then b else X U 0 0
structure Ot(u W:Ub)(o:Zm)(I_:List (Uy×Wc)):Prop where
 s:Sw (Z u.1) u W
 bx:∀b,o=S b->W.rowIs b 170 6 (λ_=>X U 0 0)/\Z u.1<=b
 il:∀x∈I_,Yv W (λb=>Z u.1<=b/\o≠S b) x.1 x.2
theorem Ot.next{u W a:Ub}{o}{f:List (Uy×Wc)}(h:Ot u W o f)(k:Sw (Z W.1) W a):Ot u a o f :=
 ⟨Xg h.s k,λb e=>⟨(h.2 b e).1.of_block (k.5 _ (h.2 b e).1.lt),(h.2 b e).2⟩,λx d=>(h.3 x d).keep (λb c _=>k.5 b c) k.4⟩
theorem Ot.add{u W a:Ub}{o}{j:List (Uy×Wc)}{c d}(h:Ot u W o j)(k:Sw (Z W.1) W a)(i:Xf a (Z W.1) (Z a.1) c d):Ot u a o ((c,d)::j):=by
 refine⟨(h.next k).s,(h.next k).2,λx b=>?_⟩;obtain rfl|b:=cH.1 b;·exact Yv.of_at i aA λe g _=>⟨aJ h.s.4 g,λf=>by have:=(h.2 e f).1.lt;omega⟩
 exact(h.next k).3 x b
theorem Ot.box{u W}{k:List (Uy×Wc)}(h:Ot u W U k):∃a,a=Z W.1/\Ot u (D W<|Sc #[X U 0 0,X U 0 0,X U 0 0,X U 0 0,X U 0 0,X U 0 0] 170) (S a) k:=by refine⟨_,R,Xb h.s _,λb e=>?_,λx g=>((h.3 x g).mono λb j c=>⟨c.1,λe=>by cases e;omega⟩).keep (λb d _=>gF _ _ _ d) sP⟩;cases e;exact⟨eK _ _ _ _ (λi f=>by match i,f with|0,_=>rfl|1,_=>rfl|2,_=>rfl|3,_=>rfl|4,_=>rfl|5,_=>rfl),h.s.4⟩
theorem AU{wr w bx t f d e cT cP cR}(h:Ot wr w (S bx) [(e,Id t.3),(d,t.1.map Ph.dst),(f,t.3.tg)]):
 Pv wr (Se (Se (Se (Se (Se (Se w ⟨bx,0,U⟩ (X f (J t.3.tg) cT)) ⟨bx,1,U⟩ (X d (J t.1) cP)) ⟨bx,2,U⟩ (X U 0 0)) ⟨bx,3,U⟩ (X U 0 0)) ⟨bx,4,U⟩ (X U 0 0)) ⟨bx,5,U⟩ (X e (J (Id t.3)) cR)) bx t (xp (X f (J t.3.tg) cT) (X d (J t.1) cP) (X e (J (Id t.3)) cR)):=by
 let⟨m,a⟩:=h.bx bx R;have c:∀{W:Ub}{j:Uy}{k:Wc}(i:N)(v:Uj),Yv W (λb=>Z wr.1<=b/\b≠bx) j k->Yv (Se W (A bx i) v) (λb=>Z wr.1<=b/\b≠bx) j k:=λi v r=>r.keep (λb _ q=>cY q.2) sP;have g:=λx p s v1 v2 v3 v4 v5=>c 5 v5 (c 4 v4<|c 3 v3 (c 2 v2<|c 1 v1 (c 0 s<|(h.il x p).mono λb _ q=>⟨q.1,λn=>q.2<|by rw[n]⟩)));refine⟨((((((h.s.setCell a _).setCell a _).setCell a _).setCell a _).setCell a _).setCell a _),a,((((((m.set 0 _).set 1 _).set 2 _).set 3 _).set 4 _).set 5 _).congr λi o=>?_,R,R,R,⟨f,cT,R,g (f,t.3.tg) sP _ _ _ _ _ _⟩,⟨d,cP,R,g (d,t.1.map Ph.dst) sP _ _ _ _ _ _⟩,⟨e,cR,R,g (e,Id t.3) sP _ _ _ _ _ _⟩⟩;unfold xp
 match i,o with
 |0,_=>rfl
 |1,_=>rfl
 |2,_=>rfl
 |3,_=>rfl
 |4,_=>rfl
 |5,_=>rfl
def jo(a v1 v2 v3 v4 v5:Value):N->Value
 |0=>a
 |1=>v1
 |2=>v2
 |3=>v3
 |4=>v4
 |_=>v5
def YQ(w:Ub)(d:Uy)(a:Wi):Prop:=∀i (h:i<J a),∃b o c,d=S ⟨b,o,U⟩/\b<Z w.1/\(∀j,j<6->E w ⟨b,o+i*6+j,U⟩=S (c j))/\VO w (λ_=>True) c a[i] (XP a i)
theorem YQ.keep{w w':Ub}{a d}(h:YQ w a d)(k:Sw (Z w.1) w w'):YQ w' a d:=λm i=>by let⟨b,o,p,e,c,f,g⟩:=h m i;exact⟨b,o,p,e,aX c k.4,λn j=>G (Xc<|k.5 b c) (f n j),g.keep (λq hq _=>k.5 q hq) k.4⟩
def WJ(w:Ub)(c:N)(e:Uy)(a:Wi):Prop:=∀i (h:i<J a),∃b o d,e=S ⟨b,o,U⟩/\(c<=b/\b<Z w.1)/\(∀j,j<6->E w ⟨b,o+i*6+j,U⟩=S (d j))/\VO w (λq=>c<=q) d a[i] (XP a i)
theorem WJ.at_{w d a b}(h:WJ w d a b):YQ w a b:=λk j=>by let⟨c,o,m,e,f,g,i⟩:=h k j;exact⟨c,o,m,e,f.2,g,i.mono λ_ _ _=>JV⟩
theorem PL.fin{w V m n c d wr u a}(h:PL w V m n c d wr u (J d) a):∃f e,u=X f (J d) e/\WJ wr (Z w.1) f d:=by
 obtain⟨e1,e2,_⟩|⟨g,e,e1,hg,_⟩:=Vc h.own;·exact⟨U,0,by rw[e1,e2],λi b=>Sz b O⟩
 have o:=h.own.1;refine⟨_,e,e1,λi b=>⟨g,0,λj=>a.getD (i*6+j) Hq,R,⟨oN hg.1,hg.2⟩,λj p=>?_,(h.fa i b b).mono λq _ hq=>by have:=hq.1;omega⟩⟩;have k:i*6+j<J a:=O;have:=h.own.cells (g:=g) (by rw[e1];rfl) (i*6+j) (a[i*6+j]) (aC k);show E wr (A g<|0+i*6+j)=S (a.getD (i*6+j) Hq);rw[aV,bF,aC k];rw[ja]at this;exact this
end
theorem uv(v)(f:Q (VO w (λ_=>True) h q l))(bd:Q (J q.2<=4000))(hE:Q (J l<=8000000))(C K:Uj){u4 u5:Uj}(Y_:h 2=a)(Z_:h 3=A_)(h4:h 4=u4)(h5:h 5=u5):
 Sk prog 153 #[Sa #[C,K,a,A_,u4,u5],H v] w λC_ w'=>C_=Rt (H (NA q l v:N))/\Sw (Z w.1) w w':=by
 let⟨x,c2,e2,i2⟩:=f.e2;let⟨y,c3,e3,i3⟩:=f.e3;let⟨z,c4,e4,i4⟩:=f.e4;let⟨j,c5,e5,i5⟩:=f.e5;rw[e2]at Y_;rw[e3]at Z_;rw[e4]at h4;rw[e5]at h5;subst Y_ Z_ h4 h5;have H2:=Y i2;have H3:=Y i3;have H4:=Y i4;have H5:=Y i5;have u:Q (J (Jv q)=J q.is):=Y (by unfold Jv;simp);have aq:Q (J (Z2 q)=J q.is):=Y (by unfold Z2;simp);let⟨b,o⟩:∃m,m=J (Jv q):=⟨_,R⟩;let⟨n4,M⟩:∃m,m=J (Z2 q):=⟨_,R⟩;let⟨s,F⟩:∃m,m=J (Id q.te):=⟨_,R⟩;let⟨r,P⟩:∃m,m=J l:=⟨_,R⟩;rw[<-o,<-M,<-F,<-P];have a6:b=n4:=by rw[o,M,u.o,aq.o]
 subst a6;have be:b<=4000:=by rw[o,u.o];exact bd
 have bh:s<=1:=by rw[F];unfold Id;split<;>simp
 have bf:r<=8000000:=by rw[P];exact hE
 have L:=Y o;have a0:=Y M;have a1:=Y F;have az:=Y P;clear o M F P e2 e3 e4 e5 i2 i3 i4 i5;have ad:Q (NA q l v=Ya v (Cg (Id q.te) v||Cg l v) q.is):=Y R;generalize NA q l v=c at*;have n:Sw (Z w.heap) w (D w<|Sc #[C,K,X x r c2,X y b c3,X z b c4,X j s c5] 170):=Xb Rf _;have hc:∀V S_,#[C,K,X x r c2,X y b c3,X z b c4,X j s c5][V]?=S S_->E (D w<|Sc #[C,K,X x r c2,X y b c3,X z b c4,X j s c5] 170) (A (Z w.heap) V)=S S_:=λV S_ f=>by rw[eC];exact f
 go_in
 go_wp2_with fail
 have d:=Y n;have i:=Y hc;generalize D w _=W at*;have k2:Cl W (Z w.heap) 2 (X x r c2):=i 2 _ R;have k3:Cl W (Z w.heap) 3 (X y b c3):=i 3 _ R;have k4:Cl W (Z w.heap) 4 (X z b c4):=i 4 _ R;have k5:Cl W (Z w.heap) 5 (X j s c5):=i 5 _ R;have bl:=n.size;have ab:=Y<|H2.at_.keep n;have ac:=Y<|H5.at_.keep n;have aj:=Y<|qu c2 v ab az O;have ao:=Y<|YF j c5 v (Id q.te) 0 (Z w.heap) W ac a1 O;clear n hc i
 go_loop [5] (λQ_=>∃k:N,k<=b/\Q_=H k/\Q (c=Ya v (Cg (Id q.te) v||Cg l v) (q.is.drop k))) λQ_=>b-(JB Q_).toNat
 .exact⟨0,aN,R,Y<|by rw[ad.o];rfl⟩
 obtain⟨k,hk,rfl,K_⟩:=hrel;by_cases P_:k<b
 .have bc:k<J q.is:=by rw[<-u.o,<-L.o];exact P_
  have ba:k<J (Jv q):=by rw[<-L.o];exact P_
  have bb:k<J (Z2 q):=by rw[<-a0.o];exact P_
  obtain⟨b3,o3,rfl,⟨_,a7⟩,ar,cr,N_,O_⟩:=H3 k ba;obtain⟨b4,o4,rfl,⟨_,a8⟩,M_⟩:=H4 k bb;have X_:(Jv q)[k]=Iw q.is[k]:=by simp[Jv]
  have V_:(Z2 q)[k]=H7 q.is[k]:=by simp[Z2]
  rw[X_]at N_ O_;rw[V_]at M_;have l3:=oB d N_ a7;have l4:=oB d M_ a8;have U_:Q (Ya v (Cg (Id q.te) v||Cg l v) (q.is.drop k)=if Cg (Iw q.is[k]) v then 1 else if H7 q.is[k]=v then 2 else Ya v (Cg (Id q.te) v||Cg l v) (q.is.drop<|k+1)):=Y (by rw[gZ bc];rfl);have ap:=Y<|O_.at_.keep d;let⟨nr,T⟩:∃m,m=J (Iw q.is[k]):=⟨_,R⟩;rw[<-T]at l3;have bi:nr<=2:=by rw[T];exact oU _
  have al:=Y<|YF ar cr v (Iw q.is[k]) 0 (Z w.heap) W ap (Y T) O;clear N_ M_ O_ X_ V_ T;generalize Iw q.is[k]=ri at*;generalize H7 q.is[k]=B at*;go_wp2_with fail
  refine YU al λw3 p=>?_;rw[p];clear p;cases hh:Cg ri v with
  |true=>
   have e:Q (c=1):=Y (by rw[K_.o,U_.o,hh];rfl);clear hh;go_wp2;go_ret;exact⟨by rw[e.o];rfl,d⟩
  |false=>
   have T_:Q (c=if B=v then 2 else Ya v (Cg (Id q.te) v||Cg l v) (q.is.drop<|k+1)):=Y (by rw[K_.o,U_.o,hh];rfl);clear hh;by_cases g:B=v
   .have e:Q (c=2):=Y (by rw[T_.o,aU g]);have a9:(B==v)=So:=by simp[g]
    clear g;go_wp2;go_ret;exact⟨by rw[e.o];rfl,d⟩
   have af:Q (c=Ya v (Cg (Id q.te) v||Cg l v) (q.is.drop<|k+1)):=Y (by rw[T_.o,aM g]);have a9:(B==v)=Sn:=by simp[g]
   clear g;go_wp2_with fail
   go_round
   .exact⟨k+1,O,gM,af⟩
   simp[JB];omega
 have e:Q (c=if (Cg (Id q.te) v||Cg l v)then 1 else 0):=Y (by rw[K_.o,mP<|by rw[<-u.o,<-L.o];omega];rfl);go_wp2_with fail
 refine YU ao λw3 p=>?_;rw[p];clear p;cases ht:Cg (Id q.te) v with
 |true=>
  have t:Q (c=1):=Y (by rw[e.o,ht];rfl);clear ht;go_wp2;go_ret;exact⟨by rw[t.o];rfl,d⟩
 |false=>
  have t:Q (c=if Cg l v then 1 else 0):=Y (by rw[e.o,ht];rfl);clear ht;go_wp2_with fail
  refine YU aj λw4 aa=>?_;rw[aa];clear aa;cases ht:Cg l v with
  |true=>
   have J_:Q (c=1):=Y (by rw[t.o,ht];rfl);clear ht;go_wp2;go_ret;exact⟨by rw[J_.o];rfl,d⟩
  |false=>
   have J_:Q (c=0):=Y (by rw[t.o,ht];rfl);clear ht;go_wp2;go_ret;exact⟨by rw[J_.o];rfl,d⟩
def Jn(w:Ub):Prop:=∀j,j<64->E w ⟨3,j,U⟩=S (Si .u8 (Lib.deBruijn64tab.getD j 0))
theorem Jn.of_block(h:Jn w)(e:v.1[(3: N)]?=w.1[(3: N)]?):Jn v:=λj a=>G (Xc (o:=j) e) (h j a)
theorem Fu(b:n<18446744073709551616)(c:n≠0)(a:n&&&(18446744073709551616-n)=m):
 IntKind.u64.wrap (bits BinOp.and IntKind.u64 (n:I) (IntKind.u64.wrap (-(n:I)))*285870213051353865)/288230376151711744=((m*285870213051353865%18446744073709551616/288230376151711744:N):I):=by
 have e1:IntKind.u64.wrap (-(n:I))=((18446744073709551616-n:N):I):=by rw[iV];omega
 rw[e1,bits_and_u64_nat n _ b O,a,iV];omega
theorem Fb{Gb:N}(g:((n:I)==0)=Sn)(a:IntKind.u64.wrap (bits BinOp.and IntKind.u64 (n:I) (IntKind.u64.wrap (-(n:I)))*285870213051353865)/288230376151711744=(Gb:I))(d:Gb<64)(f:m<64)(c:E w (A 3 Gb)=S (Si .u8 m)):
 Sk prog 204 #[Si .u64 n] w λe b=>e=Rt (H m)/\b=w:=by
 go_in
 go_wp2_with (simp only[a])
 go_ret;exact⟨R,R⟩
theorem Fj(d:n<18446744073709551616)(e:n≠0)(w)(g:Q (Jn w)):
 Sk prog 204 #[Si .u64 n] w λf j=>f=Rt (H (Lib.ctz 64 n:N))/\j=w:=by
 let⟨h,c⟩:=Lib.lowest_bit 64 n e d;let⟨b,i⟩:=Lib.deBruijn64_at _ c;have a:=g _ b;rw[i]at a;exact Fb SB (Fu d e h) b c a
theorem qh(a:n≠0)(h:n<2^64):∃m,n=2^Lib.ctz 64 n*(2*m+1)/\Lib.ctz 64 n<64:=by
 have e:Lib.ctz 64 n=Lib.ctzFrom 64 n:=by simp[Lib.ctz,a]
 rw[e];exact Lib.ctzFrom_spec 64 n O h
theorem qo:(2^c*n).testBit m=(Jd (c<=m)&&n.testBit (m-c)):=by rw[Nat.mul_comm,Nat.testBit_mul_two_pow]
theorem Et:(2*n+1).testBit m=(Jd (m=0)||(2*n).testBit m):=by
 cases m with
 |zero=>simp
 |succ m=>
  rw[Nat.testBit_succ,Nat.testBit_succ];have d1:(2*n+1)/2=n:=O;have d2:2*n/2=n:=O;rw[d1,d2];simp
theorem EY(b:n≠0)(h:n<2^64)(i):(n&&&(n-1)).testBit i=(n.testBit i&&Jd (i≠Lib.ctz 64 n)):=by
 let⟨m,a,g⟩:=qh b h;generalize Lib.ctz 64 n=c at*;have j:=Nat.two_pow_pos c;have e1:n-1=2^c*(2*m)+(2^c-1):=by rw[a,Nat.mul_add];omega
 rw[jW,e1,iH _ O,a,qo];by_cases f:i<c
 .have:¬c<=i:=O;simp[this]
 have d:c<=i:=O;simp only[f,d,decide_true,rS,fD];rw[Et];by_cases e:i=c;·subst e;simp
 have:¬i-c=0:=O;simp[this,e]
theorem Fs(a:n≠0)(h:n<2^64):n.testBit (Lib.ctz 64 n)=So/\∀i,i<Lib.ctz 64 n->n.testBit i=Sn:=by
 let⟨m,b,d⟩:=qh a h;generalize Lib.ctz 64 n=c at*;rw[b];refine⟨?_,λi e=>?_⟩;·rw[qo];simp
 rw[qo];have:¬c<=i:=O;simp[this]
def Mq(W:Wk)(p:N):Wa:=(Rg p).filter (Xh W)
theorem qB(c:n<=m)(h:∀i,n<=i->i<m->Xh f i=Sn):Mq f m=Mq f n:=by
 unfold Mq;obtain⟨d,rfl⟩:∃d,m=n+d:=⟨m-n,O⟩;rw[lI,eU];have:((Rg d).map (n + ·)).filter (Xh f)=[]:=by rw[mJ];intro x b;obtain⟨j,a,rfl⟩:=aY.1 b;rw[h (n+j) O (oN<|bE.1 a)];simp
 rw[this,fF]
theorem EP(a:n<=m)(h:∀i,n<=i->i<m->Xh f i=Sn)(hq:Xh f m=So):Mq f (m+1)=Mq f n++[m]:=by rw[<-qB a h];unfold Mq;rw[dN,eU];simp[hq]
theorem om:m∈Mq f n↔m<n/\Xh f m=So:=by unfold Mq;rw[fG,bE]
inductive Wh (xs:List Xe) (v:N):N->Prop
 |here {b:N}:b<J xs->C7 xs b v=1->Wh xs v b
 |step {b t:N}:b<J xs->C7 xs b v=0->t∈X8 xs b->Yo xs t v=Sn->Wh xs v t->Wh xs v b
def Ol(a:Wi)(v b:N):Prop:=Yo a b v=Sn/\Wh a v b
def UV(a:Wi)(v b:N):Prop:=(v:I)∈XP a b\/∃t∈X8 a b,Ol a v t
theorem qD(a:Wi)(b v):C7 a b v<=2:=by
 unfold C7;split;·exact aN
 exact Vg _
theorem Wh.lt(h:Wh x n m):m<J x:=by
 cases h with
 |here h _=>exact h
 |step h _ _ _ _=>exact h
theorem vN(b:Jy n x)(g:∀i (l:i<J x),M i=OS x[i] (N_ i))(h:∀k,k<J x->∀m,Xh (N_ k) m=So↔(k,m)∈Nr x (J x))(a:k<J x):Xh (M k) m=So↔Yo x k m=Sn/\C7 x k m=1:=by
 have d:=aH a;rw[g k a,vB (λy e=>⟨λz c=>(b.5 _ d y e z c).1,λz c=>(b.6 _ d y e z c).1⟩) (λz c=>(b.7 _ d z c).1) λp j=>(b.8 _ d p j).1];unfold Yo C7 NA;rw[aC a];simp only;have f:Xh (N_ k) m=Cg (XP x k) (m:I):=by rw[eQ,h k a,XD,KE b a]
 rw[f,<-gU,XD]
theorem EC(f:Jy n x)(g:∀i (h:i<J x),M i=OU x[i])(c:k<J x)(a:Yo x k m=Sn)(b:C7 x k m=0):Xh (M k) m=Sn:=by
 have e:=aH c;rw[g k c,<-gU,WK (λy d z l=>(f.6 _ e y d z l).1) λp j=>(f.8 _ e p j).1];unfold Yo at a;unfold C7 NA at b;rw[aC c]at a b;simp only at a b;rintro(h|⟨y,d,h⟩);·rw[XD.2 h]at a;cases a
 exact UQ _ b y d h
theorem FF(e:Jy n x)(f:∀i (h:i<J x),M i=OU x[i])(b:k<J x)(h:Xh (M k) m=Sn):Yo x k m=Sn/\C7 x k m≠2:=by have d:=aH b;rw[f k b,<-gU,WK (λy c z j=>(e.6 _ d y c z j).1) λp g=>(e.8 _ d p g).1]at h;unfold Yo C7 NA;rw[aC b];simp only;refine⟨?_,Ud _ λy c a=>h<|aZ ⟨y,c,a⟩⟩;rw[<-gU,XD];exact λa=>h<|bC a
theorem Ff(e:Jy n x){l:Vp}(p:∀i (h:i<J x),M i=OS x[i] (l i))(r:∀i (h:i<J x),N_ i=OU x[i])(q:∀k,k<J x->∀m,Xh (l k) m=So↔(k,m)∈Nr x (J x)){ord:Vv}(v:∀k,k<J x->ord k)(d:k<J x):
 Sp M N_ ord (X8 x) k m↔Ol x m k:=by
 constructor
 .intro h
  induction h with
  |init f=>
   have a:=(vN e p q d).1 f;exact⟨a.1,Wh.here d a.2⟩
  |@take k z t f a b g j=>
   have c:=FF e r d g;have o:=qD x k t;have w:=e.1.tg _ d _ a;by_cases u:C7 x k t=1;·exact⟨c.1,Wh.here d u⟩
   have s:=j w;exact⟨c.1,Wh.step d (oN c.2) a s.1 s.2⟩
 rintro⟨f,a⟩
 induction a with
 |here b g=>exact Sp.init<|(vN e p q b).2 ⟨f,g⟩
 |@step k B b g c o y j=>exact Sp.take (v _ b) c (j (e.1.tg _ b _ c) o) (EC e r b f g)
theorem uN(c:Jy n x)(g:m<J x)(h:(k:I)∈XP x m):k<n:=by have b:=(KE c g).1 h;unfold Nr PW Og at b;let⟨t,a,d⟩:=bV.1 b;have a:=bE.1 a;rw[aC a]at d;let⟨p,i,e⟩:=bV.1 (show _∈List.flatMap _ x[t].1 from d);have f:=List.of_mem_zip e;let⟨z,j,l⟩:=aY.1 f.2;have:=(c.9 t a p i).2 z j;omega
theorem FK(e:Jy n x)(d:m<J x)(a:C7 x m k=1):k<n:=by
 have f:=aH d;unfold C7 NA at a;rw[aC d]at a;simp only at a;obtain b|⟨y,g,b⟩:=TV _ a
 .rcases dI _ _▸b with c|c;·have:=(e.7 _ f _<|XD.1 c).2;omega
  exact uN e d<|XD.1 c
 have:=(e.5 _ f y g _ b).2;omega
theorem Wh.val(c:Jy n x)(h:Wh x m k):m<n:=by
 induction h with
 |here a b=>exact FK c a b
 |step _ _ _ _ _ d=>exact d
theorem UV.val(a:Jy n x)(b:k<J x)(h:UV x m k):m<n:=by
 obtain h|⟨t,_,h⟩:=h;·exact uN a b h
 exact h.2.val a
theorem CO{a:Ys}(d:∀m,m<J x->a m=So->Wh x n m)(e:∀m,m<J x->C7 x m n=1->a m=So)(f:∀m,m<J x->C7 x m n=0->∀t∈X8 x m,a t=So->Yo x t n=Sn->a m=So)(k:m<J x):a m=So↔Wh x n m:=by
 refine⟨d m k,λh=>?_⟩
 induction h with
 |here b c=>exact e _ b c
 |@step m t b c g i j l=>exact f m b c t g (l j.lt) i
def I0(b:Wi)(a:Vp)(i:N):Wk:=(b[i]?).elim (λ_=>0) λx=>OS x<|a i
def T0(a:Wi)(i:N):Wk:=(a[i]?).elim (λ_=>0) OU
theorem wY(h:n<J x):I0 x M n=OS x[n] (M n):=by simp[I0,h]
theorem wT(h:n<J x):T0 x n=OU x[n]:=by simp[T0,h]
theorem Gc(h:XQ M):XQ (I0 x M):=λi=>by
 unfold I0;cases x[i]? with
 |none=>exact JW
 |some a=>exact FR<|h i
theorem FY:XQ (T0 x):=λi=>by
 unfold T0;cases x[i]? with
 |none=>exact JW
 |some a=>exact Fg
theorem cy.congr(h:cy n w m k B f F M)(e:∀i,i<k->M i=N_ i):cy n w m k B f F N_ :=
 ⟨h.1,λi a=>(e i a)▸h.2 i a,h.3,h.o⟩
def jh(a:Wi):List Wa:=(Rg (J a)).map (X8 a)
theorem DD:(λb=>(jh x).getD b [])=X8 x:=by
 funext b;unfold jh;by_cases h:b<J x
 .simp[h]
 simp only[bF,dX];rw[dK<|by simp;omega];unfold X8;rw[dK O];rfl
theorem WM(a:UF x)(h:n<J x):Xi (X8 x n)=N6 x n:=by rw[Km h,VS h];exact Kv λv b=>(a.3 _ (aH h) v b).1
structure Px(p:VD)(gi ci:Wk)(nx:Vu)(ds:Wa)(W:Ub)(WI:Vp):Prop where
 low:Sw (Z p.w.1) p.w W
 sz:p.M<=Z W.1
 f0:E W ⟨Z p.w.1,0,U⟩=S (Si S6 (p.V:I))
 r0:E W ⟨Z p.w.1+1,0,U⟩=S (X U 0 0)
 r1:E W ⟨Z p.w.1+1,1,U⟩=S (X U 0 0)
 rz:∀q,W.frozen? ⟨Z p.w.1+1,q,U⟩=Sn
 l0:E W ⟨p.LB,0,U⟩=S (X (S ⟨p.9,0,U⟩) p.n p.n)
 l1:E W ⟨p.LB,1,U⟩=S (X (S ⟨p.Go,0,U⟩) p.n p.n)
 o:XK W p.Go p.n p.5 p.go (λ_=>p.5) p.WO
 inn:XK W p.9 p.n p.5 gi ci WI
 igM:∀i,i<p.n->p.M<=gi i
 nxr:W.rowIs p.Gn 23 p.n nx
 nxs:∀i,i<p.n->∃a' c',nx i=X a' (J (N6 p.8 i)) c'/\Yv W (λb=>p.M<=b) a' (N6 p.8 i)
 O7:ZJ W p.M ds
 wi:XQ WI
 ord:∃ord:Wa,(∀b,b<p.n->b∈ord)/\∀b,b<p.n->∀x,x<64*p.5->(Xh (WI b) x=So↔Sp (I0 p.8 p.WO) (T0 p.8) (·∈ord) (X8 p.8) b x)
theorem Oi.spread{p d}(h:Oi p w p.n d)(j:PO p)(q:O2 p p.n d)(P:ZJ w p.M s)(y:Jy p.V p.8)(L:p.n=J p.8)(ab:XQ p.WO)(S_:p.5<=100):
 ∃m C,d.7=X (S ⟨m,0,U⟩) (J d.8) C/\Sk prog 127 #[X (S ⟨m,0,U⟩) (J d.8) C,X (S ⟨p.Gn,0,U⟩) p.n p.n,X (S ⟨p.9,0,U⟩) p.n p.n,X (S ⟨p.Gd,0,U⟩) p.n p.n] w.drew λe r=>e=Rt (St #[])/\(∃O_,Px p d.1 d.2 d.5 s r O_)/\(∀b,b<Z w.1->b<p.M->r.1[b]?=w.1[b]?):=by
 have hz:=h.2;have az:1<=p.n:=oN y.1.1;have a0:p.n<=1000:=oN y.1.2;have W:=eJ<|q.3 0 (q.4 0 O);have T_:J d.8<=1000:=oN q.7
 let⟨m,C,N_,hg,_⟩:=Xm h.19.6 W;refine⟨m,C,N_,?_⟩;have M:=h.19.6;rw[N_,show Je d.8=(Xi d.8).map (Si S6) by simp[Je,Xi]]at M;let⟨a1,c1,e1,U_⟩:=Xk M;injection e1 with e1 e2 e3;subst e1;have aj:=j.1;have ap:=j.9;have aq:=j.a8;have ar:=j.a9;have t:XK w p.9 p.n p.5 d.1 d.2 (I0 p.8 p.WO):=⟨h.12.congr λi a=>by rw[aU a],λi a=>by rw[wY O,<-q.1 i O a];exact h.13 i a,h.14,λi a e=>by have:=h.15 i a;omega⟩;have u:XK w p.Gd p.n p.5 p.gd (λ_=>p.5) (T0 p.8):=h.16.congr (λi a=>by rw[wT O,q.2 i O,aU a]);have X_:∀i,i<p.n->E w (A p.Gn<|0+i)=S (d.5 i):=λi a=>by rw[aV];exact G (h.17.cell a) (by rw[aU a])
 have Z_:TA w (λac=>∀i,i<p.n->ac≠d.1 i) (S ⟨p.Gn,0,U⟩) ((jh p.8).map Xi):=λi a=>by
  have x:i<J p.8:=by simpa [jh]using a
  have K:i<p.n:=O;let⟨z,T,e,F⟩:=h.18 i K;have H_:((jh p.8).map Xi)[i]=N6 p.8 i:=by simp only[cM,jh,dW];exact WM y.1 x
  refine⟨p.Gn,0,R,⟨λl k e=>by have:=h.15 l k;omega,h.17.lt⟩,z,T,?_,?_⟩;·rw[H_,X_ i K,e]
  rw[H_];intro l k;let⟨b,o,e2,c,V⟩:=F l k;exact⟨b,o,e2,⟨c.1.2.1,c.2⟩,V⟩
 refine(Az m 0 (J d.8) C d.8 p.M (Z w.1) (S ⟨p.Gn,0,U⟩) p.n p.n (jh p.8) p.9 p.Gd p.n p.5 d.1 p.gd d.2 (λ_=>p.5) (I0 p.8 p.WO) (T0 p.8) w.drew (Y U_) (Y R) T_ W (Y Z_) (Y<|by simp[jh];exact L) (Y<|by simp[jh];exact L.symm) S_ aA (Y ⟨t.1,λi a=>(t.2 i a).drew,t.3,t.o⟩) (Y ⟨u.1,λi a=>(u.2 i a).drew,u.3,u.o⟩) (Y<|Gc ab) (Y FY) (Y λi a=>by have:=h.15 i a;omega) (Y λi l a k=>by have:=h.15 l k;have:=j.a6 i a;omega) (Y q.5) (Y λa2 W_=>?_)).mono ?_
 .obtain⟨i,a,rfl⟩:=aY.1 W_;have x:=bE.1 a;refine⟨?_,λad ht=>by have:=y.1.tg i x ad ht;omega⟩;rw[Km x,bK];have:=KJ p.8[i].3;omega
 rintro e r⟨rfl,n,P_,aa,Y_,V_⟩;have g:U8 w r p.n d.1:=⟨n.1,n.2,n.3,n.4,n.5⟩;have f:∀b,b<p.M->r.1[b]?=w.1[b]?:=λb c=>g.5 b O (λi a e=>by have:=h.15 i a;omega);have hw:=h.1.4;have al:=j.2;have ao:=j.3;refine⟨R,⟨P_,⟨⟨G g.1 h.1.1,G g.2 h.1.2,G g.3 h.1.3,aJ hw g.4,λb c=>G (f b O) (h.1.5 b c)⟩,aJ hz g.4,G (Xc<|f _ O) h.3,G (Xc<|f _ O) h.5,G (Xc<|f _ O) h.6,λo=>by rw[bJ (a:=(A (Z p.w.1+1) o)) (f (Z p.w.1+1) O)];exact h.7 o,G (Xc<|f _ O) h.8,G (Xc<|f _ O) h.9,⟨h.o.1.of_block<|f _ O,λi a=>(h.o.2 i a).of_block (f _<|oN (j.4 i a)),h.o.3,h.o.o⟩,Y_,h.15,(h.17.of_block<|f _ O).congr λi a=>by rw[aU a],λi a=>?_,⟨P.1,P.2,λG_ R_=>?_⟩,aa,d.8,λb c=>q.3 b<|q.4 b c,λb c af hx=>?_⟩⟩,λb h1 Q_=>f b Q_⟩
 .let⟨z,T,e,F⟩:=h.18 i a;refine⟨z,T,e,λl k=>?_⟩;let⟨b,o,e2,c,V⟩:=F l k;exact⟨b,o,e2,⟨c.1.1,aX c.2 g.4⟩,G (Xc<|g.5 b c.2 c.1.2.1) V⟩
 .have B:=P.3 G_ R_;refine G (g.5 G_ (aS.1 B).1 λi a e=>?_) B;let⟨o,v,I_⟩:=(h.13 i a).obj;rw[<-e,B]at v;injection v with v;rw[<-v]at I_;cases I_
 rw[<-DD];exact V_ b c af hx
def it(a:Vp)(l:Wa)(W:Wk):Wk:=l.foldl (λW t=>NR W (a t) λ_=>0) W
theorem qM{a:Vp}(h:XQ a):∀(l:Wa){W:Wk},XA W->XA (it a l W)
 |[],_,hW=>hW
 |t::l,_,hW=>qM h l<|q8 hW (h t)
theorem uX{a:Vp}(h:XQ a)(x:N):∀(l:Wa){W:Wk},XA W->(Xh (it a l W) x=So↔Xh W x=So\/∃t∈l,Xh (a t) x=So)
 |[],W,_=>by simp[it]
 |t::l,W,hW=>by show Xh (it a l<|NR W (a t) λ_=>0) x=So↔_;rw[uX h x l<|q8 hW (h t),vD hW JW,Z3];simp only[Bool.not_false,vR,dI,cH,exists_eq_or_imp,or_assoc]
theorem CU(h:n<J s)(W):it M (s.take<|n+1) W=NR (it M (s.take n) W) (M s[n]) (λ_=>0):=by unfold it;rw[bN h,dT];rfl
def Vq(d:Wi)(b a:Vp)(c j:N):Vp:=λi=>if i<c then it b (X8 d i) (a i)else if i=c then it b ((X8 d i).take j) (a i)else a i
theorem vm(h:XQ M)(a:XQ N_)(b j):XQ (Vq x M N_ b j):=λi=>by
 unfold Vq;split;·exact qM h _<|a i
 split;·exact qM h _<|a i
 exact a i
structure OY(p:VD)(gi ci:Wk)(ds:Wa)(WI:Vp)(W2:Ub)(gN:N)(wr:Ub)(b j:N):Prop where
 os:wr.4=W2.4
 tape:wr.2=W2.2
 output:wr.5=W2.5
 size:Z W2.1<=Z wr.1
 fr:∀q,q<Z W2.1->(∀i,i<p.n->q≠p.go i)->wr.1[q]?=W2.1[q]?
 o:XK wr p.Go p.n p.5 p.go (λ_=>p.5) (Vq p.8 WI p.WO b j)
theorem OY.start{p nx}(h:Px p f F nx s w M)(k:Sw (Z w.1) w v):OY p f F s M v n v 0 0 :=
 ⟨R,R,R,aA,λ_ _ _=>R,(h.o.keep k).congr (λi _=>by unfold Vq;by_cases e:i=0<;>simp[e,it])⟩
theorem OY.row{p wr}(h:OY p f F s M w n wr m k)(a:J (X8 p.8 m)<=k):OY p f F s M w n wr (m+1) 0 :=
 ⟨h.1,h.2,h.3,h.4,h.5,h.o.congr (λi _=>by
  unfold Vq;by_cases e1:i<m;·rw[aU e1,aU O]
  by_cases e2:i=m;·rw[aM e1,aU e2,aU O,e2,aW a]
  rw[aM e1,aM e2,aM O];by_cases e3:i=m+1;·rw[aU e3];simp[it]
  rw[aM e3])⟩
theorem OY.next{p wr}(h:OY p f F s M w n wr m k)(d:m<p.n)(g:k<J (X8 p.8 m))(a:wr.grownBy v (S<|p.go m))(j:Cp v (p.go m) p.5 p.5 (NR (Vq p.8 M p.WO m k m) (M (X8 p.8 m)[k]) λ_=>0)):OY p f F s M w n v m (k+1):=by
 refine⟨G a.1 h.1,G a.2 h.2,G a.3 h.3,aJ h.4 a.4,λq b c=>G (a.5 q (aX b h.4) λe=>c m d<|by injection e) (h.5 q b c),(h.o.wrote d a j).congr λi _=>?_⟩;by_cases e:i=m
 .subst e;simp only[Vq,Nat.lt_irrefl,fD,gG];rw[CU g]
 unfold Vq;rw[aM e];by_cases e1:i<m;·rw[aU e1,aU e1]
 rw[aM e1,aM e1,aM e,aM e]
theorem OY.res{p nx wr w'}(h:OY p f F s M v n wr p.n 0)(b:Px p f F nx s w M)(c:PO p)(e:Sw (Z w.1) w v)(K:p.n=J p.8)(r:XQ p.WO)(x:∀d,d<p.n->∀j,Xh (p.WO d) j=So↔(d,j)∈Nr p.8 p.n)(g:∀q,q<Z wr.1->q≠Z p.w.1+1->q<p.M\/(∃i,i<p.n/\q=f i)->w'.1[q]?=wr.1[q]?)(B:w'.4=wr.4)(L:w'.2=wr.2)(C:w'.5=wr.5)(P:Z wr.1<=Z w'.1):Po p.w w' p.n p.5 p.8 p.9 p.Go f p.go F M (Vq p.8 M p.WO p.n 0):=by
 have S_:=b.1.4;have I_:=c.1;have J_:=c.3;have K_:=c.9;have L_:=c.a9;have N_:=b.2;have Q_:=e.4;have R_:=h.4;have t:=λq u l m=>G (g q O l<|bC u) (G (h.5 q O m) (e.5 q O));refine⟨⟨G B<|G h.1 (G e.1 b.1.1),G L<|G h.2 (G e.2 b.1.2),G C<|G h.3 (G e.3 b.1.3),O,λq hq=>G (t q O O λi a k=>by have:=c.4 i a;omega) (b.1.5 q hq)⟩,⟨b.10.1.of_block (t p.9 O O λi a k=>(c.8 i a).1 k.symm),λi a=>?_,b.10.3,b.10.o⟩,⟨h.o.1.of_block<|g p.Go O O (bC O),λi a=>(h.o.2 i a).of_block (g _ (oN<|c.4 i a) (oN<|c.4 i a) (bC<|oN (c.4 i a))),h.o.3,h.o.o⟩,b.wi,vm b.wi r _ _,⟨O,O⟩,λi a=>⟨oN<|b.11 i a,oN<|c.4 i a⟩,?_⟩
 .have O_:=b.11 i a;have z:=(b.10.2 i a).lt;refine(b.10.2 i a).of_block (G (g (f i) O O (aZ ⟨i,a,R⟩)) (G (h.5 (f i) O λT y k=>by have:=c.4 T y;omega) (e.5 _ z)))
 let⟨V,l,m⟩:=b.16;refine⟨I0 p.8 p.WO,T0 p.8,p.WO,V,λi a=>wY a,λi a=>wT a,λd o j=>K▸x d O j,λd o=>l d O,m,λd o W=>?_⟩;unfold Vq;rw[aU o];exact uX b.wi W _<|r d
theorem JZ{F o}{P:Yh}{e}{tmps:Zh}{r:Ending->Vy}{B}:∀(b:Wa)(W:Ub),ZJ W B b->(∀a:Ub,a.4=W.4->a.2=W.2->a.5=W.5->Z W.1<=Z a.1->(∀k,k∉b->a.1[k]?=W.1[k]?)->∃v,(JC e tmps).run P a=.ok v a/\r (Rt v) a)->LeavesInM F o P e tmps r (O7 b) .returning W
 |[],W,_,h=>h W R R R aA λ_ _=>R
 |p::b,W,hm,h=>by
  refine⟨sP,bC ⟨p,_,R,run_takeDeferred<|hm.3 p cI,?_⟩⟩;have c:=grownBy_putObj' W p<|.deferred U;refine JZ (B:=B) b _ ⟨(fL.1 hm.1).2,λk d=>hm.2 k<|cN _ d,λk d=>?_⟩ λa i j l m n=>h a (G i c.1) (G j c.2) (G l c.3) (aJ c.4 m) λq hq=>?_;·exact G (World.putObj_heap_other λg=>(fL.1 hm.1).1 (by rw[<-g];exact d)) (hm.3 k<|cN _ d)
  have f:q≠p/\q∉b:=by simpa using hq
  exact G (n q f.2) (World.putObj_heap_other f.1)
def Of(a:List Xe)(b:N):List I:=match a[b]? with
 |none=>[]
 |some x=>x.1.map Ph.dst
def PA(a:List Xe)(b:N):List I:=match a[b]? with
 |none=>[]
 |some x=>Id x.3
def Tu(a:List Xe)(b:N):List I:=match a[b]? with
 |none=>[]
 |some x=>Z2 x
def OW(a:List Xe)(b:N):List (List I):=match a[b]? with
 |none=>[]
 |some x=>Jv x
theorem qH(a:Wi)(b v):Yo a b v=Cg (Of a b) (v:I):=by unfold Yo Of;cases a[b]?<;>rfl
structure QN(W:Ub)(base:N)(xs:Wi)(b:N)(a0:Uy)(n0:N)(a1:Uy)(n1:N)(a2:Uy)(n2:N)(a3:Uy)(n3:N)(a4:Uy)(n4:N)(a5:Uy)(n5:N)(c0 c1 c2 c3 c4 c5:N):Prop where
 t:n0=J (X8 xs b)/\Xf W 0 base a0 (Xi<|X8 xs b)
 p:n1=J (Of xs b)/\Xf W 0 base a1 (Of xs b)
 e:n2=J (XP xs b)/\Xf W 0 base a2 (XP xs b)
 r:n3=J (OW xs b)/\TA W (λq=>q<base) a3 (OW xs b)
 d:n4=J (Tu xs b)/\Xf W 0 base a4 (Tu xs b)
 u:n5=J (PA xs b)/\Xf W 0 base a5 (PA xs b)
 bare:∀v:N,Sk prog 153 #[Sa #[X a0 n0 c0,X a1 n1 c1,X a2 n2 c2,X a3 n3 c3,X a4 n4 c4,X a5 n5 c5],Si S6 (v:I)] W λe w'=>e=Rt (Si S6 (C7 xs b v:N))/\Sw (Z W.1) W w'
theorem YQ.row(t:Jy n x){of}(W_:YQ w (S ⟨m,of,U⟩) x)(a:Sw (Z w.1) w v)(b:k<J x):
 ∃f y g z h F i K j B l C c0 c1 c2 c3 c4 c5,m<Z w.1/\E v (A m<|of+k*6)=S (X f y c0)/\E v (A m<|of+k*6+1)=S (X g z c1)/\E v (A m<|of+k*6+2)=S (X h F c2)/\E v (A m<|of+k*6+3)=S (X i K c3)/\E v (A m<|of+k*6+4)=S (X j B c4)/\E v (A m<|of+k*6+5)=S (X l C c5)/\y<=2/\z<=4000/\F<=8000000/\B<=4000/\C<=1/\QN v (Z w.1) x k f y g z h F i K j B l C c0 c1 c2 c3 c4 c5:=by
 let⟨al,ao,us,o,T,ad,c⟩:=W_ k b;injection o with o;injection o with e1 e2;subst e1 e2;have d:=λu r=>oB a (ad u r) T;have ac:=c.keep (λaj hq _=>a.block aj hq) a.size;let⟨f,c0,V_,i0⟩:=c.e0;let⟨g,c1,e1,i1⟩:=c.e1;let⟨h,c2,e2,i2⟩:=c.e2;let⟨i,c3,e3,i3⟩:=c.e3;let⟨j,c4,e4,i4⟩:=c.e4;let⟨l,c5,e5,i5⟩:=c.e5;have L:=d 0 vY;have M:=d 1 vY;have V:=d 2 vY;have W:=d 3 vY;have P:=d 4 vY;have Q_:=d 5 vY;rw[V_]at L;rw[e1]at M;rw[e2]at V;rw[e3]at W;rw[e4]at P;rw[e5]at Q_;have s:=t.lens x[k] (aH b);have J_:x[k].te.tg=Xi (X8 x k):=by rw[WM t.okf b,VS b]
 have F_:J (XP x k)<=8000000:=by unfold XP;rw[aC b];have h1:=V8 t ((k:N):I) x[k].te.tg;have h2:=KJ x[k].te;simp only;omega
 have Y_:J (Id x[k].te)<=1:=by unfold Id;split<;>simp
 have G_:Of x k=x[k].ps.map Ph.dst:=by unfold Of;rw[aC b]
 have I_:PA x k=Id x[k].te:=by unfold PA;rw[aC b]
 have E_:Tu x k=Z2 x[k]:=by unfold Tu;rw[aC b]
 have H_:OW x k=Jv x[k]:=by unfold OW;rw[aC b]
 have Z_:∀e:N,C7 x k e=NA x[k] (XP x k) (e:I):=λe=>by unfold C7;rw[aC b]
 refine⟨f,_,g,_,h,_,i,_,j,_,l,_,c0,c1,c2,c3,c4,c5,T,L,M,V,W,P,Q_,KJ _,by rw[bK];exact s.2,F_,by unfold Z2;rw[bK];exact s.1,Y_,⟨⟨by rw[J_];simp[Xi],?_⟩,⟨by rw[G_],?_⟩,⟨R,i2.at_.keep a⟩,⟨by rw[H_],?_⟩,⟨by rw[E_],?_⟩,⟨by rw[I_],?_⟩,λe=>?_⟩⟩;·rw[<-J_];exact i0.at_.keep a
 .rw[G_];exact i1.at_.keep a
 .rw[H_]
  intro af hi;let⟨S_,o',U_,p,R_,T_,aa,X_⟩:=i3 af hi;exact⟨S_,o',U_,⟨p.2,aX p.2 a.size⟩,R_,T_,oB a aa p.2,λu r=>by let⟨b2,o2,e2,q,ab⟩:=X_ u r;exact⟨b2,o2,e2,⟨q.2,aX q.2 a.size⟩,oB a ab q.2⟩⟩
 .rw[E_];exact i4.at_.keep a
 .rw[I_];exact i5.at_.keep a
 rw[Z_];exact uv (e:I) (Y ac) (Y s.1) (Y F_) _ _ e2 e3 e4 e5
def Un(a:Ys)(n:N):N:=(Rg n).countP a
theorem vq(a n):Un a n<=n:=aJ mW sP
theorem tO{a}:Un a (n+1)=Un a n+(if a n then 1 else 0):=by unfold Un;rw[dN,lN];simp[List.countP_cons]
theorem tp{a lv'}(h:∀b,b<n->a b=lv' b):Un a n=Un lv' n:=by unfold Un;exact kK λx c=>by rw[h x<|bE.1 c]
theorem t7{a b}(c:a b=Sn):∀n,b<n->Un (λz=>if z=b then So else a z) n=Un a n+1
 |0,h=>Sz h O
 |n+1,h=>by
  rw[tO,tO];by_cases e:b=n
  .subst e;rw[tp (lv':=a) λz d=>by simp[show z≠b by omega]];simp[c]
  rw[t7 c n O];have:n≠b:=O;simp only[this,fD];omega
theorem DA{a}(b:n<m)(h:a n=So):0<Un a m:=by unfold Un;exact nC.2 ⟨n,bE.2 b,h⟩
structure Oj(xs:Wi)(v n:N)(lv0 lv:Ys)(b:N)(gr:Bool):Prop where
 snd:∀z,z<n->lv z=So->Wh xs v z
 here:∀z,z<n->C7 xs z v=1->lv z=So
 no:gr=Sn->(∀z,z<n->lv z=lv0 z)/\∀z,z<b->C7 xs z v=0->∀t∈X8 xs z,lv t=So->Yo xs t v=Sn->lv z=So
 yes:gr=So->Un lv0 n<Un lv n/\0<Un lv0 n
theorem Oj.start{a}(b:∀z,z<m->a z=So->Wh x n z)(c:∀z,z<m->C7 x z n=1->a z=So):Oj x n m a a 0 Sn :=
 ⟨b,c,λ_=>⟨λ_ _=>R,λz d=>Sz d O⟩,λh=>by cases h⟩
theorem Oj.set{g b}(h:Oj x n m g b k r)(q:m=J x)(l:k<m)(p:B∈X8 x k)(f:B<m)(i:C7 x k n=0)(o:b k=Sn)(d:b B=So)(j:Yo x B n=Sn):Oj x n m g (λz=>if z=k then So else b z) k So:=by
 refine⟨λz c a=>?_,λz c a=>?_,λe=>(by cases e),λ_=>?_⟩
 .by_cases e:z=k
  .subst e;exact Wh.step O i p j<|h.1 B f d
  simp only[e,fD]at a;exact h.1 z c a
 .by_cases e:z=k;·simp[e]
  simp only[e,fD];exact h.2 z c a
 rw[t7 o m l];cases hg:r with
 |false=>
  have e:=tp (h.3 hg).1;rw[e];refine⟨O,?_⟩;rw[<-e];exact DA f d
 |true=>
  have:=h.4 hg;omega
theorem Oj.next{b a}(h:Oj x n m b a k r)(c:r=Sn->C7 x k n=0->∀t∈X8 x k,a t=So->Yo x t n=Sn->a k=So):Oj x n m b a (k+1) r :=
 ⟨h.1,h.2,λe=>⟨(h.3 e).1,λz d=>by
  by_cases e2:z=k;·subst e2;exact c e
  exact(h.3 e).2 z O⟩,h.4⟩
theorem Oj.done{e a}(h:Oj x n m e a m Sn)(d:m=J x):∀b,b<m->(a b=So↔Wh x n b):=by subst d;exact λb c=>CO h.1 h.2 (h.3 R).2 c
section
structure OF(w wr:Ub)(n:N)(lv op:Ys):Prop where
 low:Sw (Z w.1) w wr
 r1:wr.rowIs (Z w.1) 4 n λb=>Sb (lv b)
 r2:wr.rowIs (Z w.1+1) 4 n λb=>Sb (op b)
 sz:Z w.1+2<=Z wr.1
section
variable{w wr wr':Ub}{n:N}{lv op:N->Bool}
theorem OF.below(h:OF w wr n lv op)(k:Sw (Z wr.1) wr wr'):OF w wr' n lv op :=
 ⟨Xg h.1 k,h.2.of_block<|k.5 _ h.2.lt,h.3.of_block<|k.5 _ h.3.lt,aJ h.4 k.4⟩
theorem OF.congr{a b}(h:OF w wr n lv op)(e1:∀z,z<n->lv z=a z)(e2:∀z,z<n->op z=b z):OF w wr n a b:=⟨h.1,UC (C:=Sb) h.2 e1,UC (C:=Sb) h.3 e2,h.4⟩
theorem OF.set1(h:OF w wr n lv op)(b q):OF w (Se wr ⟨Z w.1,b,U⟩ (Sb q)) n (λz=>if z=b then q else lv z) op :=
 ⟨h.1.setCell aA _,TS (C:=Sb) h.2 b q,h.3.setOther (by show Z w.1+1≠Z w.1;omega) _,by rw[Xd];exact h.4⟩
theorem OF.set2(h:OF w wr n lv op)(b q):OF w (Se wr ⟨Z w.1+1,b,U⟩ (Sb q)) n lv (λz=>if z=b then q else op z) :=
 ⟨h.1.setCell (by show Z w.1<=Z w.1+1;omega) _,h.2.setOther (by show Z w.1≠Z w.1+1;omega) _,TS (C:=Sb) h.3 b q,by rw[Xd];exact h.4⟩
end
def Pt(a:Wi)(v n k:N)(lv:Ys):Prop:=(∀z,z<n->lv z=So->Wh a v z)/\(∀z,z<n->C7 a z v=1->lv z=So)/\(n<k+Un lv n\/(k=n/\Un lv n=0))
def PY(w wr:Ub)(d:Wi)(v n:N)(lv op:Ys)(c:Uj)(b:N):Prop:=∃(g:Bool)(a:Ys),c=Sb g/\OF w wr n a op/\Oj d v n lv a b g
def PV(w wr:Ub)(c:Wi)(v n:N)(lv op:Ys)(d:Uj)(b j:N):Prop:=∃(g:Bool)(a:Ys),d=Sb g/\OF w wr n a op/\Oj c v n lv a b g/\(a b=Sn->∀r,r<j->∀t,(X8 c b)[r]?=S t->¬(a t=So/\Yo c t v=Sn))
theorem BS{bh}(v:N){n}(c_){bf of a w}(hF:Q (YQ w (S ⟨bf,of,U⟩) a))(s:Q (n=J a))(B:Q (Jy bh a)):
 Sk prog 98 #[Hm bf of n c_,H v] w λf w'=>∃g,f=Rt (Hl g n n)/\Sw (Z w.1) w w'/\Z w.1<=g/\∃lv:Ys,w'.rowIs g 4 n (λb=>Sb (lv b))/\∀b,b<n->(lv b=So↔Wh a v b):=by
 have hn:n<=1000:=oP s.o B.1.2;have b0:0<n:=oP s.o B.1.1;have bn:=fM (P:=prog) 89 4 (Sb Sn) 1 underlying89 Q7 R S6 S6 n O O;have af:=Y<|dG w (Sb Sn) n 4;have aj:=Y<|dG (D w<|Sc (madeCells #[Sb Sn] n) 4) (Sb Sn) n 4
 go_in
 go_wp2_with fail
 have al:Q (OF w (D (D w<|Sc (madeCells #[Sb Sn] n) 4) (Sc (madeCells #[Sb Sn] n) 4)) n (λz=>Jd (z<0)&&Jd (C7 a z v=1)) λz=>Jd (z<0)&&Jd (C7 a z v=0)):=Y ⟨Xb (Xb Rf _) _,UC (C:=Sb) (af.alloc _) λz _=>sP,UC (C:=Sb) (by have:=aj.o;rwa[aO]at this) λz _=>sP,sP⟩;clear bn;generalize D (D w _) _=w2 at*
 go_loopw [7] (λW_ wr=>∃b:N,b<=n/\W_=H b/\Q (OF w wr n (λz=>Jd (z<b)&&Jd (C7 a z v=1)) λz=>Jd (z<b)&&Jd (C7 a z v=0))) λW_ _=>n-(JB W_).toNat
 .exact⟨0,aN,R,al⟩
 obtain⟨b,hb,rfl,d⟩:=hrel;by_cases c:b<n
 .let⟨a0,W,a1,n1,a2,n2,a3,n3,a4,n4,a5,n5,c0,c1,c2,c3,c4,c5,aq,x0,x1,x2,x3,x4,x5,_,_,_,_,_,C⟩:=YQ.row B hF d.1 (show b<J a by have:=s.o;omega);have ab:=Y<|C.7 v;clear C;go_wp2_with fail
  refine YU ab λw3 ap=>?_;have L:=Y<|d.below ap;have Y_:=L.2.cell c;have Z_:=L.3.cell c;have z1:=L.2.frozen b;have z2:=L.3.frozen b;clear ap x0 x1 x2 x3 x4 x5;let⟨q1,bo⟩:∃aa:Bool,(((C7 a b v:N):I)==1)=aa:=⟨_,R⟩;let⟨q2,bp⟩:∃aa:Bool,(((C7 a b v:N):I)==0)=aa:=⟨_,R⟩;have HQ:Q (q1=Jd (C7 a b v=1)/\q2=Jd (C7 a b v=0)):=Y (by
   rw[<-bo,<-bp];constructor;·rw[eQ,iA,bD];omega
   rw[eQ,iA,bD];omega)
  have b3:∀a7,E (Se w3 (A (Z w.1) b) a7) (A (Z w.1+1) b)=E w3 (A (Z w.1+1) b):=λa7=>bZ (cY<|by show Z w.1+1≠Z w.1;omega);go_wp2
  exact⟨⟨b+1,O,gM,Y (((L.set1 b q1).set2 b q2).congr (λz e=>by
   by_cases f:z=b;·subst f;simp[HQ.1]
   .have:z<b+1↔z<b:=O
    simp[f,this]) (λz e=>by
   by_cases f:z=b;·subst f;simp[HQ.2]
   have:z<b+1↔z<b:=O
   simp[f,this]))⟩,SA⟩
 have P:n=b:=O;have D_:Q (OF w wr n (λz=>Jd (C7 a z v=1)) λz=>Jd (C7 a z v=0)):=Y (d.congr (λz e=>by simp[<-P,e]) λz e=>by simp[<-P,e]);subst P;clear d;have x:Q (Pt a v n n λz=>Jd (C7 a z v=1)):=Y ⟨λz e h=>Wh.here (oN s.o) (fV h),λz _ h=>eB h,O⟩;go_wp2_with fail
 generalize (λz=>Jd (C7 a z v=1))=br at*;generalize o:(λz=>Jd (C7 a z v=0))=k at*;have ac:Q (∀z,k z=Jd (C7 a z v=0)):=Y (λz=>by rw[<-o]);clear o;generalize wr=w5 at*
 go_loopw [9] (λr wr=>∃(y:N)(lv:Ys),y<=n/\r=H y/\Q (OF w wr n lv k)/\Q (Pt a v n y lv)) λr _=>(JB r).toNat
 .exact⟨n,br,aA,R,D_,x⟩
 obtain⟨y,lv,hk,rfl,D_,x⟩:=hrel;have bv:0<y:=by have F:=x.2.2;have T:=vq lv n;omega
 have u:Q (PY w wr a v n lv k (Sb Sn) 0):=Y ⟨Sn,lv,R,D_,Oj.start x.1 x.2.1⟩;go_wp2_with fail
 generalize wr=w6 at*
 go_loopw [10,11] (λT_ S_ wr=>∃b:N,b<=n/\S_=H b/\Q (PY w wr a v n lv k T_ b)) λ_ S_ _=>n-(JB S_).toNat
 .exact⟨0,aN,R,u⟩
 obtain⟨b,hb,rfl,u⟩:=hrel;by_cases c:b<n;rotate_left
 .have P:b=n:=O;subst P;obtain⟨g,i,rfl,p,V⟩:=u.o;have d:=Y p;have m:=Y V;clear p V;cases g with
  |true=>
   have bd:Q (Pt a v b (y-1) i):=Y ⟨m.1,m.2,by have F:=m.4 R;have T:=x.2.2;have h3:=vq i b;omega⟩
   go_wp2;exact⟨⟨y-1,i,O,gM,d,bd⟩,SA⟩
  |false=>
   go_wp2;go_ret;exact⟨Z w.1,R,d.1,aA,i,d.2,m.done s⟩
 have ar:b<J a:=oN s.o
 let⟨a0,W,a1,n1,a2,n2,a3,n3,a4,n4,a5,n5,c0,c1,c2,c3,c4,c5,aq,y0,_,_,_,_,_,b1,_,_,_,_,C⟩:=YQ.row B hF (dC (Z w.1) w) ar;have R_:=Y C.t;clear C;have C_:Q (PV w wr a v n lv k u10 b 0):=Y (by let⟨g,i,f,F,T⟩:=u.o;exact⟨g,i,f,F,T,λ_ r K=>Sz K O⟩)
 go_wp2_with fail
 generalize wr=w7 at*
 go_loopw [10,12] (λT_ X_ wr=>∃j:N,j<=W/\X_=H j/\Q (PV w wr a v n lv k T_ b j)) λ_ X_ _=>W-(JB X_).toNat
 .exact⟨0,aN,R,C_⟩
 obtain⟨j,hj,rfl,C_⟩:=hrel;obtain⟨g,i,rfl,p,V,hJ⟩:=C_.o;have d:=Y p;have m:=Y V;have Q_:=Y hJ;have k0:=oB p.1 y0 aq;have Y_:=p.2.cell c;have Z_:=p.3.cell c;clear p V hJ;by_cases o:C7 a b v=0;rotate_left
 .have q:k b=Sn:=by rw[ac.o];exact dJ o
  rw[q]at Z_;have l:Q (PY w wr a v n lv k (Sb g) (b+1)):=Y ⟨g,i,R,d,m.next λ_ h=>Sz h o⟩;clear q o;go_wp2;exact⟨⟨b+1,O,gM,l⟩,SA⟩
 have q:k b=So:=by rw[ac.o];exact eB o
 rw[q]at Z_;cases hlb:i b with
 |true=>
  rw[hlb]at Y_;have l:Q (PY w wr a v n lv k (Sb g) (b+1)):=Y ⟨g,i,R,d,m.next λ_ _ _ _ _ _=>hlb⟩;clear hlb q;go_wp2;exact⟨⟨b+1,O,gM,l⟩,SA⟩
 |false=>
  rw[hlb]at Y_;by_cases bm:j<W;rotate_left
  .have l:Q (PY w wr a v n lv k (Sb g) (b+1)):=Y ⟨g,i,R,d,m.next (λ_ _ t M F T=>by let⟨r,K,f⟩:=bR M;exact Sz ⟨F,T⟩ (Q_ hlb r (oN R_.1) t (by rw[aC K,f])))⟩
   clear hlb q;go_wp2;exact⟨⟨b+1,O,gM,l⟩,SA⟩
  have V_:j<J (X8 a b):=by rw[<-R_.1];exact bm
  have bl:j<J (Xi<|X8 a b):=by simp[Xi];exact V_
  obtain⟨bt,ot,rfl,⟨_,bi⟩,L_⟩:=R_.2 j bl;have ao:(Xi<|X8 a b)[j]=(((X8 a b)[j]:N):I):=by simp[Xi]
  rw[ao]at L_;have N_:=aH V_;have a6:=B.1.tg _ ar _ N_;have P_:=Y<|aC V_;let⟨t,M⟩:∃t,t=(X8 a b)[j]:=⟨_,R⟩;rw[<-M]at L_ N_ a6 P_;have be:=Y N_;have az:t<n:=oN s.o;have kt:=oB d.1 L_ bi;have kl:=d.2.cell az;let⟨d0,m0,d1,m1,d2,m2,d3,m3,d4,m4,d5,m5,f0,f1,f2,f3,f4,f5,_,_,t1,_,_,_,_,_,bx,_,_,_,U_⟩:=YQ.row B hF d.1 a6;have a8:=Y<|YF d1 f1 v (Of a t) 0 (Z w.1) wr (Y U_.p.2) (Y U_.p.1) O;have ad:=Y<|qH a t v;clear L_ N_ M ao U_;cases hlt':i t with
  |false=>
   rw[hlt']at kl;have l:Q (PV w wr a v n lv k (Sb g) b (j+1)):=Y ⟨g,i,R,d,m,λh r K z e=>by
    by_cases f:r=j
    .subst f;rw[P_.o]at e;injection e with e;subst e;rw[hlt'];exact λh=>by cases h.1
    exact Q_ h r O z e⟩
   clear hlt' hlb q;go_wp2;exact⟨⟨j+1,O,gM,l⟩,SA⟩
  |true=>
   rw[hlt']at kl;have ba:=Y hlt';have a9:=Y hlb;have bc:=Y o;have z1:=d.2.frozen b;clear hlt' hlb q o;go_wp2_with fail
   refine YU a8 λw8 bq=>?_;subst bq;cases hph:Cg (Of a t) (v:I)with
   |true=>
    have l:Q (PV w w8 a v n lv k (Sb g) b (j+1)):=Y ⟨g,i,R,d,m,λh r K z e=>by
     by_cases f:r=j
     .subst f;rw[P_.o]at e;injection e with e;subst e;rw[ad.o,hph];exact λh=>by cases h.2
     exact Q_ h r O z e⟩
    clear hph;go_wp2_with fail
    refine⟨?_,SA⟩
    first
     |exact⟨j+1,O,gM,l⟩
     |((repeat apply gP);refine⟨?_,R⟩;exact⟨j+1,O,gM,l⟩)
   |false=>
    have l:Q (PV w (Se w8 (A (Z w.1) b) (Sb So)) a v n lv k (Sb So) b (j+1)):=Y ⟨So,_,R,d.set1 b So,m.set s c be az bc a9 ba (by rw[ad.o];exact hph),λh=>by simp at h⟩;clear hph;go_wp2_with fail
    refine⟨?_,SA⟩
    first
     |exact⟨j+1,O,gM,l⟩
     |((repeat apply gP);refine⟨?_,R⟩;exact⟨j+1,O,gM,l⟩)
end
def QC(a b:Ub):Prop:=a=b
def QM(c:Wi)(v b:N)(w:Ub)(e:Ending)(a:Ub):Prop:=∃s:Bool,e=Rt (Sb s)/\(s=So↔UV c v b)/\Sw (Z w.1) w a
theorem A8(c_){of}{c:Ys}(hF:Q (YQ w (S ⟨B,of,U⟩) x))(C:Q (k=J x))(o:Q (Jy n x))(hb:i<k)(b:Q (w.rowIs g 4 k λz=>Sb (c z)))(aa:Q (∀z,z<k->(c z=So↔Wh x m z))):
 Sk prog 99 #[Hm B of k c_,Hl g k k,H m,H i] w λe w'=>QM x m i w e w':=by
 have hn:k<=1000:=oP C.o o.1.2;have T:i<J x:=oN C.o;let⟨a0,F,a1,n1,a2,n2,a3,n3,a4,n4,a5,n5,c0,c1,c2,c3,c4,c5,ac,x0,_,x2,_,_,_,aj,_,al,_,_,l⟩:=YQ.row o hF (dC (Z w.1) w) T;have u:=Y l.t;have d:=Y<|qu c2 m (Y l.e.2) (Y l.e.1) O;clear l;cases hed:Cg (XP x i) (m:I)with
 |true=>
  have s:Q (UV x m i):=Y<|bC (XD.1 hed);rw[hed]at d;clear hed
  go_in
  go_wp2_with fail
  refine YU d λw3 K=>?_;have e3:=K.symm;subst e3;go_wp2;go_ret;exact⟨So,R,⟨λ_=>s,λ_=>R⟩,Rf⟩
 |false=>
  have U_:Q (¬(m:I)∈XP x i):=Y (λh=>by rw[XD.2 h]at hed;cases hed);rw[hed]at d;clear hed
  go_in
  go_wp2_with fail
  refine YU d λw3 K=>?_;have e3:=K.symm;subst e3;go_wp2
  go_loopw [9] (λP wr=>∃j:N,j<=F/\P=H j/\Q (QC wr w)/\Q (∀r,r<j->∀t,(X8 x i)[r]?=S t->¬Ol x m t)) λP _=>F-(JB P).toNat
  .exact⟨0,aN,R,Y R,Y λr b=>Sz b O⟩
  obtain⟨j,hj,rfl,L,V⟩:=hrel;have X_:=Eq.symm L;clear L;subst X_;by_cases Z_:j<F;rotate_left
  .have a:Q (¬UV x m i):=Y (by
    rintro(h|⟨t,p,h⟩);·exact U_ h
    let⟨r,b,e⟩:=bR p
    exact V r (oN u.1) t (by rw[aC b,e]) h)
   go_wp2;go_ret;exact⟨Sn,R,⟨λh=>(by cases h),λh=>Sz h a⟩,Rf⟩
  have y:j<J (X8 x i):=by rw[<-u.1];exact Z_
  have Y_:j<J (Xi<|X8 x i):=by simp[Xi];exact y
  obtain⟨bt,ot,rfl,⟨_,ad⟩,W⟩:=u.2 j Y_;have M:(Xi<|X8 x i)[j]=(((X8 x i)[j]:N):I):=by simp[Xi]
  rw[M]at W;have q:=aH y;have Q_:=o.1.tg _ T _ q;have G_:=Y<|aC y;let⟨t,p⟩:∃t,t=(X8 x i)[j]:=⟨_,R⟩;rw[<-p]at W q Q_ G_;have V_:=Y q;have P_:t<k:=oN C.o
  have R_:=b.cell P_;have H_:=Y<|aa.o t P_;let⟨d0,m0,d1,m1,d2,m2,d3,m3,d4,m4,d5,m5,f0,f1,f2,f3,f4,f5,_,_,t1,_,_,_,_,_,af,_,_,_,v⟩:=YQ.row o hF (dC (Z w.1) w) Q_;have S_:=Y<|YF d1 f1 m (Of x t) 0 (Z w.1) w (Y v.p.2) (Y v.p.1) O;have K_:=Y<|qH x t m;clear q p M v;have I_:Q (¬Ol x m t->∀r,r<j+1->∀t,(X8 x i)[r]?=S t->¬Ol x m t):=Y (λh r b z f=>by
   by_cases e:r=j
   .subst e;rw[G_.o]at f;injection f with f;subst f;exact h
   exact V r O z f)
  cases hlt':c t with
  |false=>
   rw[hlt']at R_;have a:=Y (I_.o λh=>by rw[H_.2 h.2]at hlt';cases hlt');clear hlt';go_wp2;exact⟨⟨j+1,O,gM,Y R,a⟩,SA⟩
  |true=>
   rw[hlt']at R_;have T_:=Y<|H_.1 hlt';clear hlt';go_wp2_with fail
   refine YU S_ λw8 ab=>?_;have W_:=ab.symm;subst W_;cases hph:Cg (Of x t) (m:I)with
   |true=>
    have a:Q (∀r,r<j+1->∀t,(X8 x i)[r]?=S t->¬Ol x m t):=Y (I_.o λh=>by have:=h.1;rw[K_.o,hph]at this;cases this);clear hph;go_wp2_with fail
    refine⟨?_,SA⟩
    first
     |exact⟨j+1,O,gM,Y R,a⟩
     |((repeat apply gP);refine⟨?_,R⟩;exact⟨j+1,O,gM,Y R,a⟩)
   |false=>
    have s:Q (UV x m i):=Y (aZ ⟨t,V_,by rw[K_.o];exact hph,T_⟩);clear hph;go_wp2;go_ret;exact⟨So,R,⟨λ_=>s,λ_=>R⟩,Rf⟩
theorem Qc:(prog.info? 170).map (λi=>(i.8,i.3,i.4))=S (S<|Sa #[Hq,Hq,Hq,Hq,Hq,Hq],6,144):=vZ
theorem Qd:(prog.info? 99).map (λi=>(i.8,i.3,i.4))=S (S<|Sa #[Hq],1,24):=vZ
def jz(k:N):Code->Option Code
 |.region j ops d=>if j=k then S (.region j ops d)else U
 |.seq x y=>match jz k x with
  |some c=>S c
  |none=>jz k y
 |.block _ c=>jz k c
 |.scope c=>jz k c
 |.loop c=>jz k c
 |.cond _ x y=>match jz k x with
  |some c=>S c
  |none=>jz k y
 |_=>U
noncomputable def QB:Code:=(f97.9.bind<|jz 5).getD .skip
theorem FU{C:Code}{b:Yt}{a}(d:∀c (a:Act) t v w,b (.panic c) (a.put (S t) v) w->b (.panic c) a w)(h:∀e:Yt,Q (∀a w,b .normal a w->e .normal a w)->Q (∀c (a:Act) t v w,e (.panic c) (a.put (S t) v) w->e (.panic c) a w)->C.wp R_ e a w):C.wp R_ b a w:=h b (Y λ_ _ h=>h) (Y d)
theorem Ga(L u)(C M:Uy)(P T t){wr:Ub}{F:Yt}{u6 u7 u8 R_ V du dw dz d0 u21 u22 ea eb ec ed ee ef eg ei u31 u32 ej ek el em en T_ U_ V_ u41 u42 Z_ aa ab ac ad af aj al u51 u52 ao:Uj}(ap aq ar az a0 a1 a2 a3 a4 a5 a6 a7 a8 a9 ba bb bc bd be bf bh bi bl bm bn bo bp bq br bt bv b0 b1 b3 b4 b5 b6 b7 b8 ca cb cc cd ce cf cg M_ N_ O_ P_:Uj)(hQ:Q (∀c (D_:Act) t_ v w,F (.panic c) (D_.put (S t_) v) w->F (.panic c) D_ w))(hB:u<=Z w.1)(eq:Z w.1+2<=Z wr.1)(ep:g<m)(ck:E wr (A (Z w.1) 1)=S (Hm k B m c))(F_:E wr (A k<|B+g*6)=S (X C (J t.1) P))(e1:E wr (A k<|B+g*6+1)=S (X M (J t.2) T))(e2:E wr (A k<|B+g*6+2)=S (H t.3.1))(e3:E wr (A k<|B+g*6+3)=S (H t.3.a))(e4:E wr (A k<|B+g*6+4)=S (H t.3.3))(e5:E wr (A k<|B+g*6+5)=S (H t.3.4))(ci:Q (Jw wr L u C t.1))(ch:Q (J t.2<=4000/\J t.1<=4000))(cj:Q (∀(E_:N)(f0:Vu)(cs ct cv cw cx cz c6 c7 c8 c9 da db dc dd df di dj dk dl dn ds:Uj)(Y_:Ub),Pv wr Y_ E_ t f0->F .normal ⟨#[Sa #[H n,Hm k B m c],Hn (Z w.1),Hq,a,H g,Hn E_,u6,u7,u8,Hl (Z w.1+1) 0 0,H g,Ho (Z w.1) 1,Hm k B m c,H m,Sb So,R_,V,cs,ct,cv,cw,cx,cz,c6,c7,c8,c9,da,db,dc,dd,df,di,dj,dk,dl,dn,ds,T_,U_,V_,u41,u42,Z_,aa,ab,ac,ad,af,aj,al,u51,u52,ao,ap,aq,ar,az,a0,a1,a2,a3,a4,a5,a6,a7,a8,a9,ba,bb,bc,bd,be,bf,bh,bi,bl,bm,bn,bo,bp,bq,br,bt,bv,b0,b1,b3,b4,b5,b6,b7,b8,ca,cb,cc,cd,ce,cf,cg,M_,N_,O_,P_,Su],[]⟩ Y_)):
 Code.wp prog QB F ⟨#[Sa #[H n,Hm k B m c],Hn (Z w.1),Hq,a,H g,A_,u6,u7,u8,Hl (Z w.1+1) 0 0,H g,Ho (Z w.1) 1,Hm k B m c,H m,Sb So,R_,V,du,dw,dz,d0,u21,u22,ea,eb,ec,ed,ee,ef,eg,ei,u31,u32,ej,ek,el,em,en,T_,U_,V_,u41,u42,Z_,aa,ab,ac,ad,af,aj,al,u51,u52,ao,ap,aq,ar,az,a0,a1,a2,a3,a4,a5,a6,a7,a8,a9,ba,bb,bc,bd,be,bf,bh,bi,bl,bm,bn,bo,bp,bq,br,bt,bv,b0,b1,b3,b4,b5,b6,b7,b8,ca,cb,cc,cd,ce,cf,cg,M_,N_,O_,P_,Su],[]⟩ wr:=by
 conv=>arg 2;whnf
 have eo:k<Z wr.1:=aI wr _ F_;have h:=Y (λW (hW:Sw (Z wr.1) wr W)=>
  have q:∀{x z:N}{v:Uj},E wr (A x z)=S v->E W (A x z)=S v:=λ{x z _} i=>oB hW i<|aI wr _ i
  And.intro (q ck) (And.intro (q F_) (And.intro (q e1) (And.intro (q e2) (And.intro (q e3) (And.intro (q e4) (q e5)))))))
 have b:Q (Ot wr wr.drew U []):=Y ⟨(Rf).drew,λ_ i=>(by cases i),λ_ i=>(by cases i)⟩;refine Y7 (λp=>E p (A (Z w.1) 1)=S (Hm k B m c)/\E p (A k<|B+g*6)=S (X C (J t.1) P)/\E p (A k<|B+g*6+1)=S (X M (J t.2) T)/\E p (A k<|B+g*6+2)=S (H t.3.1)/\E p (A k<|B+g*6+3)=S (H t.3.a)/\E p (A k<|B+g*6+4)=S (H t.3.3)/\E p (A k<|B+g*6+5)=S (H t.3.4)) λig=>?_;generalize wr.drew=wd at*;refine X0 0 ?_;refine X0 1 ?_;refine X0 2 ?_;refine X0 3 ?_;refine X0 4 ?_;refine X0 5 ?_;refine X0 7 ?_;refine X0 8 ?_;refine X0 9 ?_;refine X0 10 ?_;refine X0 11 ?_;refine X0 13 ?_;refine X0 14 ?_;refine X0 15 ?_;refine X0 16 ?_;refine X0 17 ?_;refine X0 18 ?_;refine eS (rs:=[6,21]) vZ sP ?_;refine(bQ R (λK hK=>?_) (bQ R (λK hK=>?_) dY));rotate_left;go_simp;let⟨o,e,d⟩:=b.box;rw[<-e];replace b:=Y d;clear e d;refine hK _ _ (h _ b.s) λig=>?_;clear hK
 refine Xs 6 λK hK=>?_;rotate_left
 all_goals (
  go_simp;refine(ZO t.3 _).mono ?_;rintro r yT⟨aT,cT,rfl,j,l⟩;replace b:=Y<|b.add j l;clear j l;refine hK _ _ (h _ b.s) λig=>?_;clear hK
  try simp only[xX])
 rotate_left;refine Xs 12 λK hK=>?_;rotate_left;refine eS (rs:=[12,21]) vZ sP ?_;refine(bQ R (λK hK=>?_) (bQ R (λK hK=>?_) dY));rotate_left;go_simp;let⟨o,e,d⟩:=b.box;rw[<-e];replace b:=Y d;clear e d;refine hK _ _ (h _ b.s) λig=>?_;clear hK
 refine Xs 12 λK hK=>?_
 all_goals (
  go_simp;refine(Bp L u (Y<|ci.keepS λq _ h2=>b.s.5 q<|show q<Z wr.1 by omega) (Y R) ch.2 (oN b.s.4)).mono ?_;rintro r yP⟨aP,cP,rfl,j,l⟩;replace b:=Y<|b.add j l;clear j l;refine hK _ _ (h _ b.s) λig=>?_;clear hK
  try simp only[xX])
 refine Xs 19 λK hK=>?_;rotate_left;refine Xs 19 λK hK=>?_;rotate_left;refine eS (rs:=[19,21]) vZ sP ?_;refine(bQ R (λK hK=>?_) (bQ R (λK hK=>?_) dY));rotate_left;go_simp;let⟨o,e,d⟩:=b.box;rw[<-e];replace b:=Y d;clear e d;refine hK _ _ (h _ b.s) λig=>?_;clear hK
 refine Xs 19 λK hK=>?_
 all_goals (
  go_simp;refine(AI).mono ?_;rintro r yR⟨aR,cR,rfl,j,l⟩;replace b:=Y<|b.add j l;clear j l;refine hK _ _ (h _ b.s) λig=>?_;clear hK;refine X0 20 ?_)
 refine Xs 22 λK hK=>?_;rotate_left;refine Xs 22 λK hK=>?_;rotate_left;refine Xs 22 λK hK=>?_;rotate_left;refine Xs 21 λK hK=>?_;go_simp;let⟨o,e,d⟩:=b.box;rw[<-e];replace b:=Y d;clear e d;refine hK _ _ (h _ b.s) λig=>?_;clear hK;refine Xs 22 λK hK=>?_
 all_goals (
  obtain⟨f,-⟩:=b.2 o R;have cm:=f.cell (i:=0) vY;have cn:=f.cell (i:=1) vY;have co:=f.cell (i:=2) vY;have cp:=f.cell (i:=3) vY;have cq:=f.cell (i:=4) vY;have cr:=f.cell (i:=5) vY;have lz:=f.frozen;have cl:∀(W:Ub)(y s:N)(J_:Uj),y≠s->E (Se W (A o y) J_) (A o s)=E W (A o s):=λW y s J_ i=>cJ λr=>i<|fI Addr.off r
  clear f;go_simp;clear cm cn co cp cq cr lz cl;have hF:=AU (cT:=cT) (cP:=cP) (cR:=cR) b;refine hK _ _ (h _ hF.1) λig=>?_;clear hK;refine Yq ?_;exact cj _ _ _ _ _ _ _ _ _ _ _ _ _ _ _ _ _ _ _ _ _ _ _ _ hF)
theorem uf(aq ar r c_ f dw bq w)(ha:Q (Xp w dw bq ar f))(hx:Q (r=J f))(hB:bq<=Z w.1)(ho:Q (Jy aq f)):
 Sk prog 97 #[Sa #[H aq,X ar r c_]] w λe F=>∃a' c',e=Rt (X a' r c')/\Sw (Z w.1) w F/\WJ F (Z w.1) a' f:=by
 obtain⟨j0,hl,h0,h3,h4⟩:=Xq Qd;have hn:r<=1000:=oP hx.o ho.1.2;have gg:Q (∀(b5:Ub)(e6:I)(al:N),Sw (Z w.1) w b5->al<r->_):=Y λb5 e6 al (hW:Sw (Z w.1) w b5) bo=>tY c_ e6 (Y<|ha.keep (hW.mono hB)) hx (oN hW.4) ho bo
 go_in
 go_wp2
 go_loopw [3,4] (λU_ n wr=>∃(k:N)(cs:Wo),k<=r/\n=H k/\Q (PL w aq ar r c_ f wr U_ k cs)) λ_ n _=>r-(JB n).toNat
 .refine⟨0,[],aN,R,Y ⟨Xb (Xb Rf _) _,sP,sP,sP,?_,λn _ h=>Sz h O⟩⟩;have h:=eI (base:=Z w.1+1) (e:=170) (size:=6) (D w<|Sc #[H aq,X ar r c_] 45) #[] 0 sP sP R;rw[aO]at h;exact h
 obtain⟨k,cs,hk,rfl,P_⟩:=hrel;have cc:=P_.4;by_cases hp:k<r
 .have be:k<J f:=oN hx.o;have ek:=P_.1;have hz:=P_.2;obtain⟨ab,cq,ea,⟨ir,io⟩,hc⟩:=(ha.keep<|ek.mono hB) k be;subst ea;obtain⟨pa,pc,ia,ic,e0,e1,⟨e2,e3,e4,e5⟩,em,ei⟩:=hc;have b1:=Y em;have db:=Y ei;have b0:=Y<|ho.10 f[k] (aH be);have ds:Q (∀al∈f[k].3.tg,0<=al/\al<(r:I)):=Y (by rw[hx.o];exact ho.1.3 f[k] (aH be));obtain⟨c,hX⟩:∃c,c=f[k]:=⟨_,R⟩;rw[<-hX]at e0 e1 e2 e3 e4 e5 b1 db b0 ds;have HX:=Y hX;clear hX em ei;refine FU (λ_ _ _ _ _ h=>h) ?_;intro il hN hQ;go_wp2_with fail
  rename_i Kc bv;have hg:ab<Z wr.1:=aI wr _ e0;have g8:Q (∀(a:N)(f0:Vu)(e7 e8 e9 fa fb fc fe fi fj fl fn fq fr fs fx fz f4 f5 f6 f7 ga:Uj)(Y_:Ub),Pv wr Y_ a c f0->Kc ⟨#[Sa #[H aq,Hm ab cq r c_],Hn (Z w.1),Hq,u3,H k,Hn a,u6,u7,u8,Hl (Z w.1+1) 0 0,H k,Ho (Z w.1) 1,Hm ab cq r c_,H r,Sb So,u15,u16,e7,e8,e9,fa,fb,fc,fe,fi,fj,fl,fn,fq,fr,fs,fx,fz,f4,f5,f6,f7,ga,u38,u39,u40,u41,u42,u43,u44,u45,u46,u47,u48,u49,u50,u51,u52,u53,u54,u55,u56,u57,u58,u59,u60,u61,u62,u63,u64,u65,u66,u67,u68,u69,u70,u71,u72,u73,u74,u75,u76,u77,u78,u79,u80,u81,u82,u83,u84,u85,u86,u87,u88,u89,u90,u91,u92,u93,u94,u95,u96,u97,u98,u99,u100,u101,u102,u103,Su],[]⟩ Y_):=Y (by
   intro a f0 e7 e8 e9 fa fb fc fe fi fj fl fn fq fr fs fx fz f4 f5 f6 f7 ga Y_ M;apply bv;have HA:=Y M;obtain⟨aT,cT,eT,eg⟩:=M.7;have dc:=Y eg;have c8:=Y eT;have i3:=M.2;have bm:=M.3.lt;have jj:=M.1.4;have ap:=Y<|ek.trans (M.1.mono O);have gb:=G (XU M.1 O) P_.3;have gd:=G (XU M.1 O) cc;have b3:=Y (show _/\_ from⟨gb,gd⟩);obtain⟨M_,cl⟩:∃S_,S_=J c.3.tg:=⟨_,R⟩;have i5:M_<=2:=by rw[cl];exact KJ _
   have a6:=Y cl;have ge:=Y<|oB M.1 e1 hg;have gr:=Y (db.keepS λq _ m=>M.1.5 q O);have gf:Q (∀j,j<=2->J ((c.3.tg.take j).flatMap (G2 f k))<=8000000):=Y (λj hj=>by have g:=V8 ho k (c.3.tg.take j);rw[dH]at g;have m:min j (J c.3.tg)<=2:=O;omega)
   have i2:Z w.1<a:=O;clear M eg eT cl bv e0 e1 e2 e3 e4 e5 cc gb gd;generalize wr=wo at*;go_wp2
   go_loopw [6] (λn wr=>∃(j:N)(U_:Uj),j<=M_/\n=H j/\Q (Ow Y_ a f0 wr U_<|(c.3.tg.take j).flatMap (G2 f k))) λn _=>M_-(JB n).toNat
   .exact⟨0,Hq,aN,R,Y<|Ow.start HA.3 HA.4⟩
   case round=>
    obtain⟨j,U_,hj,rfl,l⟩:=hrel;have h9:=l.4;have c0:E wr (A a 0)=S (X aT M_ cT):=by have h:=l.6.cell (i:=0) vY;rw[aM vY,c8.o,<-a6.o]at h;exact h
    by_cases hr:j<M_
    .have cg:j<J c.3.tg:=by rw[<-a6.o];exact hr
     obtain⟨bt,ot,rfl,⟨⟨_,ed⟩,hf⟩,ee⟩:=dc j cg;have en:=ds _<|aH cg;have c2:E wr (A a 2)=S U_:=by have h:=l.6.cell (i:=2) vY;rw[aU R]at h;exact h
     have cz:=l.6.frozen 2;have dz:=l.cell O b3.1;have bl:=l.cell O b3.2;have ct:=l.cell ed ee;have da:Q ((c.3.tg.take<|j+1).flatMap (G2 f k)=(c.3.tg.take j).flatMap (G2 f k)++G2 f k c.3.tg[j]):=Y<|CL cg;obtain⟨tn,bo⟩:=bX en.1;rw[bo]at da ct;have hw:tn<r:=O;have cx:=Y (gg.o wr.drew k tn ⟨G l.1 ap.1,G l.2 ap.2,G l.3 ap.3,aJ ap.4 l.4,λq hq=>G (l.5 q (oN ap.4) O) (ap.5 q hq)⟩ hw);have dd:=Y<|gf.o j O;have dk:=Y<|tQ ho k tn;have bd:a<Z wr.1:=O;have bp:Z w.1<Z wr.1:=O;generalize G2 f k tn=eu at*;generalize (c.3.tg.take j).flatMap (G2 f k)=el at*;clear ee en bo;go_wp2_with fail
     refine Y7 (λF=>E F (A (Z w.1) 0)=S (H aq)/\E F (A (Z w.1) 1)=S (Hm ab cq r c_)/\E F (A a 0)=S (Hm bt ot M_ cT)/\E F (A bt<|ot+j)=S (H tn)) λig=>?_;refine X0 0 ?_;refine X0 2 ?_;refine X0 3 ?_;refine X0 4 ?_;refine X0 5 ?_;refine X0 6 ?_;refine X0 7 ?_;refine X0 8 ?_;refine eS (rs:=[1,9]) vZ sP ?_;refine(bQ R (λK hK=>?_) (bQ R (λK hK=>?_) dY));go_simp;refine hK _ _ kP λig=>?_;clear hK
     refine Xs 9 λK hK=>?_;go_simp;refine cx.mono ?_;rintro e o⟨ad,c5,rfl,d,P⟩;have b:Sw (Z wr.1) wr o:=⟨d.1,d.2,d.3,d.4,d.5⟩;have u:=Y b;have a4:=Y P;have d0:=oB b c0 bd;have d2:=oB b c2 bd;have ba:=oB b dz bp;have bb:=oB b bl bp;have dt:=oB b ct<|aI wr _ ct;clear d P b;refine hK _ _ ⟨ba,bb,d0,dt⟩ λig=>?_;clear hK;rotate_left;go_simp;refine cx.mono ?_;rintro e o⟨ad,c5,rfl,d,P⟩;have b:Sw (Z wr.1) wr o:=⟨d.1,d.2,d.3,d.4,d.5⟩;have u:=Y b;have a4:=Y P;have d0:=oB b c0 bd;have d2:=oB b c2 bd;have ba:=oB b dz bp;have bb:=oB b bl bp;have dt:=oB b ct<|aI wr _ ct;clear d P b;refine hK _ _ ⟨ba,bb,d0,dt⟩ λig=>?_;clear hK
     refine Xs 1 λK hK=>?_;go_simp;refine hK _ _ kP λig=>?_;clear hK
     all_goals (
      refine Xs 10 λK hK=>?_;refine YD RH (Zl l.7 λx e=>u.5 x (l.7.lt x e).2) (EZ a4) (by intro v hv;obtain⟨js,_,rfl⟩:=aY.1 hv;rfl) ?_ (hl:=sP) (hb:=by have:=dd.o;have:=dk.o;omega) (hs:=oN u.4)
      intro u1 T cn cf _ _;obtain⟨av,cv,eb,_⟩:=Xk (xs:=el++eu) (by rw[bG];exact cn);obtain⟨ln,ej⟩:∃S_,S_=J (el++eu):=⟨_,R⟩;rw[<-ej]at eb;subst eb;clear ej;have gl:=Y cf;have gv:Q (Sx T (Z Y_.1) 2 1 (X av ln cv) (J (el++eu)) ((el++eu).map (Si S6))):=Y (by rw[aQ,bG];exact cn);have af:∀q,q<Z Y_.1->T.1[q]?=o.1[q]?:=λq hq=>cf.5 q (oN u.4) (λe=>by have:=(l.7.lt q e.symm).1;omega);have g0:=G (Xc<|af a bm) d0;have g2:=G (Xc<|af a bm) d2;have gz:T.frozen? (A a 2)=Sn:=by rw[bJ (a:=(A a 2)) (af a bm)];exact G (u.frozen (p:=A a 2) bd) cz
      have b6:=G (Xc<|af (Z w.1) O) ba;have b7:=G (Xc<|af (Z w.1) O) bb;have gt:=G (Xc<|af bt hf) dt;have g4:=Y<|l.push (u':=X av ln cv) (qs:=eu) bm u gl gv;clear cn cf af d0 d2 ba bb dt ig;refine hK _ _ ⟨b6,b7,g0,gt⟩ λig=>?_;clear hK;refine X0 11 ?_;refine Xs 12 λK hK=>?_;go_simp;have y:∀(i T_:N)(v:Uj),(i≠a\/T_≠2)->E T (A i T_)=S v->E (Se T (A a 2) (X av ln cv)) (A i T_)=S v:=λi T_ v g m=>(cJ (by
       intro e;injection e with e1 e2;obtain g|g:=g;·exact g e1.symm
       exact g e2.symm)).trans m
      refine hK _ _ ⟨y _ _ _ (bC O) b6,y _ _ _ (bC O) b7,y _ _ _ (aZ vY) g0,y _ _ _ (bC ed) gt⟩ λig=>?_;clear hK ig y b6 b7 g0 g2 gz gt
      refine Yq ?_;go_wp2
      exact⟨⟨j+1,X av ln cv,O,gM,Y<|by rw[da.o];exact g4⟩,SA⟩)
    have gs:Q (j=J c.3.tg):=Y<|oN a6.o
    have c7:Q ((c.3.tg.take j).flatMap (G2 f k)=XP f k):=Y (by rw[aW<|oN gs.o];unfold XP;rw[aC be,HX.o])
    have ao:Q (Ow Y_ a f0 wr U_<|XP f k):=Y (by rw[<-c7.o];exact l);have b4:=Y h9;have gh:=Y<|l.cell O b3.2;have cw:=Y<|l.cell O ge;have gq:=Y (gr.keepS λq _ m=>l.5 q O O);have ca:a<Z wr.1:=O;clear l;go_wp2_with fail
    clear c0;generalize wr=w2 at*;obtain⟨nI,bn⟩:∃S_,S_=J c.2:=⟨_,R⟩;rw[<-bn]at cw;have i4:nI<=4000:=by rw[bn];exact b0.1
    have dl:=Y bn;clear bn
    go_loopw [7] (λn wr=>∃(q:N)(ur ud:Uj)(rs:Wo),q<=nI/\n=H q/\Q (OL w2 a (λn=>if n=2 then U_ else f0 n) wr ur ud rs ((Jv c).take q) ((Z2 c).take q))) λn _=>nI-(JB n).toNat
    .exact⟨0,Hq,Hq,[],aN,R,Y<|OL.start ao.6 (by rw[aM vY];exact HA.5) (by rw[aM vY];exact HA.6)⟩
    case round=>
     obtain⟨q,ur,ud,rs,hq,rfl,HI⟩:=hrel;have ib:=HI.4;have bl:=G (Xc<|HI.5 (Z w.1) O O) gh;have hb:=G (Xc<|HI.5 ab O O) cw;by_cases ht:q<nI
     .have cp:q<J c.2:=by rw[<-dl.o];exact ht
      obtain⟨bi,oi,rfl,⟨i1,iv⟩,hi⟩:=gq q cp;have a0:=HI.5 bi O O;obtain⟨ep,eq,er,es,et⟩:=hi;have r0:=G (Xc a0) ep;have r1:=G (Xc a0) eq;have r2:=G (Xc a0) er;have r3:=G (Xc a0) es;have r4:=G (Xc a0) et;have a9:Q ((Jv c).take (q+1)=(Jv c).take q++[Iw c.2[q]]):=Y (by unfold Jv;rw[X7<|by simpa using cp];simp);have a8:Q ((Z2 c).take (q+1)=(Z2 c).take q++[H7 c.2[q]]):=Y (by unfold Z2;rw[X7<|by simpa using cp];simp);have di:Q (J ((Jv c).take q)=q):=Y (by rw[dH];unfold Jv;rw[bK];omega);have bh:Q (J ((Z2 c).take q)=q):=Y (by rw[dH];unfold Z2;rw[bK];omega);obtain⟨cr,hy⟩:∃cr,cr=c.2[q]:=⟨_,R⟩;rw[<-hy]at r0 r1 r2 r3 r4 a9 a8;obtain⟨t,p,B,C,z⟩:=cr;simp only at r0 r1 r2 r3 r4;clear ep eq er es et a0 hy;generalize (Jv c).take q=zr at*;generalize (Z2 c).take q=zd at*;go_wp2_with fail
      have he:(λx9:Ub=>Sw (Z wr.1) wr x9/\Z wr.1<Z x9.1/\(∀V v,#[H t,H p,H B,H C,H z][V]?=S v->E x9 (A (Z wr.1) V)=S v)) (D wr<|Sc #[H t,H p,H B,H C,H z] 62):=⟨Xb Rf _,sP,(λV v h=>by rw[eC];exact h)⟩
      generalize D wr _=s at*;obtain⟨b8,L,a1⟩:=he;have n0:Cl s (Z wr.1) 0 (H t):=a1 0 _ R;have n1:Cl s (Z wr.1) 1 (H p):=a1 1 _ R;have n2:Cl s (Z wr.1) 2 (H B):=a1 2 _ R;have n3:Cl s (Z wr.1) 3 (H C):=a1 3 _ R;have n4:Cl s (Z wr.1) 4 (H z):=a1 4 _ R;have O_:=Y<|HI.below b8;have jl:=b8.4;have cb:a<Z s.1:=O;have s3:E s (A a 3)=S ur:=by have h:=O_.6.cell (i:=3) vY;rw[aU R]at h;exact h
      have ih:=O_.6.frozen 3;have du:=Y λx e=>(O_.7.lt x e).2;have g7:=Y λx e=>(HI.7.lt x e).2;have g5:=Y λx e=>(O_.10.lt x e).2;clear a1 b8 r0 r1 r2 r3 r4 bl hb;refine Y7 (λF=>E F (A (Z wr.1) 0)=S (H t)/\E F (A (Z wr.1) 1)=S (H p)/\E F (A (Z wr.1) 2)=S (H B)/\E F (A (Z wr.1) 3)=S (H C)/\E F (A (Z wr.1) 4)=S (H z)) λig=>?_;refine X0 0 ?_;refine X0 2 ?_;refine eS (rs:=[1,3]) vZ sP ?_;refine(bQ R (λK hK=>?_) (bQ R (λK hK=>?_) dY))
      focus
       go_simp;refine hK _ _ kP λig=>?_;clear hK
       refine Xs 3 λK hK=>?_;go_simp;refine(Wv ⟨t,p,B,C,z⟩ s.drew).mono ?_;rintro e o⟨a5,c5,rfl,d,P⟩;have b:Sw (Z s.1) s o:=⟨d.1,d.2,d.3,d.4,d.5⟩;have u:=Y b;have a4:Q (Xf o (Z s.1) (Z o.1) a5<|Iw ⟨t,p,B,C,z⟩):=Y P;have d3:=oB b s3 cb;have p0:=oB b n0 L;have p1:=oB b n1 L;have p2:=oB b n2 L;have p3:=oB b n3 L;have p4:=oB b n4 L;obtain⟨lr,ac⟩:∃S_,S_=J (Iw ⟨t,p,B,C,z⟩):=⟨_,R⟩;rw[<-ac];have df:=Y ac;clear d P b ac;refine hK _ _ ⟨p0,p1,p2,p3,p4⟩ λig=>?_;clear hK;refine X0 4 ?_;refine Xs 5 λK hK=>?_;go_simp;refine hK _ _ kP λig=>?_;clear hK
      rotate_left
      focus
       go_simp;refine(Wv ⟨t,p,B,C,z⟩ s.drew).mono ?_;rintro e o⟨a5,c5,rfl,d,P⟩;have b:Sw (Z s.1) s o:=⟨d.1,d.2,d.3,d.4,d.5⟩;have u:=Y b;have a4:Q (Xf o (Z s.1) (Z o.1) a5<|Iw ⟨t,p,B,C,z⟩):=Y P;have d3:=oB b s3 cb;have p0:=oB b n0 L;have p1:=oB b n1 L;have p2:=oB b n2 L;have p3:=oB b n3 L;have p4:=oB b n4 L;obtain⟨lr,ac⟩:∃S_,S_=J (Iw ⟨t,p,B,C,z⟩):=⟨_,R⟩;rw[<-ac];have df:=Y ac;clear d P b ac;refine hK _ _ ⟨p0,p1,p2,p3,p4⟩ λig=>?_;clear hK
       refine X0 4 ?_;refine eS (rs:=[1,5]) vZ sP ?_;refine(bQ R (λK hK=>?_) (bQ R (λK hK=>?_) dY))
       focus
        go_simp;refine hK _ _ kP λig=>?_;clear hK
        refine Xs 5 λK hK=>?_;go_simp;refine hK _ _ kP λig=>?_;clear hK
       rotate_left;go_simp;refine hK _ _ kP λig=>?_;clear hK
       have hd:E (D o<|Sc #[X a5 lr c5] 99) (A a 3)=S ur:=oB (Xb (dC (Z o.1) o) _) d3 (by have:=u.4;show a<_;omega);refine Xs 1 λK hK=>?_;go_simp;refine hK _ _ kP λig=>?_;clear hK
      all_goals (
       refine Xs 6 λK hK=>?_;refine YI Qd (Zl O_.7 λx e=>u.5 x<|du x e) ?_ (by have g:=O_.8;have m:=di.o;omega) (oN u.4)
       intro u6 T co ce _ ec;obtain⟨g6,c6,rfl,_,_⟩:=Xm co O;have gp:=Y<|O_.below (Xg u<|Xb (dC (Z o.1) o) (Sc #[X a5 lr c5] 99));have Q_:=Y (gp.pushR (c5:=c5) (ys:=Iw ⟨t,p,B,C,z⟩) ca (B0:=Z s.1) O du g5 ((a4.keep<|Xb (dC (Z o.1) o) _).mono aA sP) ce (by rw[<-df.o];exact co) (by rw[aO];simpa using ec));have cm:=λV g m=>G (ce.5 V SB m) (gF _ _ _ g);have i6:=u.4;have cd:=cm a O (λe=>by have:=(O_.7.lt a e.symm).1;omega);have az:=cm (Z wr.1) O (λe=>by have:=g7 _ e.symm;omega);have g3:=G (Xc cd) d3;have gz:T.frozen? (A a 3)=Sn:=by rw[bJ (a:=(A a 3)) cd];exact G (u.frozen (p:=A a 3) cb) ih
       have t0:=G (Xc az) p0;have t1:=G (Xc az) p1;have t2:=G (Xc az) p2;have t3:=G (Xc az) p3;have t4:=G (Xc az) p4;clear co ce ec cm cd az p0 p1 p2 p3 p4 d3 ig
       (try clear hd)
       refine hK _ _ ⟨t0,t1,t2,t3,t4⟩ λig=>?_;clear hK;refine X0 7 ?_;refine Xs 8 λK hK=>?_;go_simp;have y:∀(T_:N)(v:Uj),E T (A (Z wr.1) T_)=S v->E (Se T (A a 3) (Hl g6 (J rs+1) c6)) (A (Z wr.1) T_)=S v:=λT_ v m=>G (bH T (A a 3) (A (Z wr.1) T_) _ (by show a≠Z wr.1;omega)) m;refine hK _ _ ⟨y _ _ t0,y _ _ t1,y _ _ t2,y _ _ t3,y _ _ t4⟩ λig=>?_;have ey:=y _ _ t0;have ez:=y _ _ t1;clear hK ig y t0 t1 t2 t3 t4 g3 gz
       refine Yq ?_;generalize Se T _ _=N_ at*;go_wp2_with fail
       refine YU (nZ t N_) λw8 eo=>?_;rw[eo];clear eo w8;have ev:E N_ (A a 4)=S ud:=by have h:=Q_.6.cell (i:=4) vY;rw[aM vY,aU R]at h;exact h
       cases hdb:dB t
       .have a3:Q (H7 ⟨t,p,B,C,z⟩=(-1)):=Y (by unfold H7;simp only[hdb];simp);clear hdb;go_wp2_with (at_builtin;refine YC RH Q_.10 ?_ (oN bh.o) (oN Q_.4))
        intro u9 Z_ W I_ _ V_;obtain⟨g9,c9,rfl,_,_⟩:=Xm W O;have R_:=Y<|Q_.below (Xb (dC (Z N_.1) N_) (Sc #[H (-1)] 2));have aj:Z_.1[a]?=(D N_<|Sc #[H (-1)] 2).1[a]?:=I_.5 a (by have:=R_.6.lt;exact this) (λe=>by have:=(Q_.10.lt a e.symm).1;omega);have k4:E Z_ (A a 4)=S ud:=by have h:=R_.6.cell (i:=4) vY;rw[aM vY,aU R]at h;exact G (Xc aj) h
        have kz:Z_.frozen? (A a 4)=Sn:=by rw[bJ (a:=(A a 4)) aj];exact R_.6.frozen 4
        have a7:=Y (R_.pushD (x:=(-1)) ca I_ W (by rw[aO];exact V_));clear W I_ V_ aj ey ez ev;go_wp2_with fail
        refine⟨?_,SA⟩
        first
         |exact⟨q+1,_,_,_,O,gM,Y<|by rw[a9.o,a8.o,a3.o];exact a7⟩
         |((repeat apply gP);refine⟨?_,R⟩;exact⟨q+1,_,_,_,O,gM,Y<|by rw[a9.o,a8.o,a3.o];exact a7⟩)
       have a3:Q (H7 ⟨t,p,B,C,z⟩=p):=Y (by unfold H7;simp only[hdb];simp);clear hdb;go_wp2_with (at_builtin;refine YC RH Q_.10 ?_ (oN bh.o) (oN Q_.4))
       intro u9 Z_ W I_ _ V_;obtain⟨g9,c9,rfl,_,_⟩:=Xm W O;have R_:=Y<|Q_.below (Xb (dC (Z N_.1) N_) (Sc #[H p] 2));have aj:Z_.1[a]?=(D N_<|Sc #[H p] 2).1[a]?:=I_.5 a (by have:=R_.6.lt;exact this) (λe=>by have:=(Q_.10.lt a e.symm).1;omega);have k4:E Z_ (A a 4)=S ud:=by have h:=R_.6.cell (i:=4) vY;rw[aM vY,aU R]at h;exact G (Xc aj) h
       have kz:Z_.frozen? (A a 4)=Sn:=by rw[bJ (a:=(A a 4)) aj];exact R_.6.frozen 4
       have a7:=Y (R_.pushD (x:=p) ca I_ W (by rw[aO];exact V_));clear W I_ V_ aj ey ez ev;go_wp2_with fail
       refine⟨?_,SA⟩
       first
        |exact⟨q+1,_,_,_,O,gM,Y<|by rw[a9.o,a8.o,a3.o];exact a7⟩
        |((repeat apply gP);refine⟨?_,R⟩;exact⟨q+1,_,_,_,O,gM,Y<|by rw[a9.o,a8.o,a3.o];exact a7⟩))
     have dn:Q (q=J c.2):=Y<|oN dl.o
     have aa:Q (OL w2 a (λn=>if n=2 then U_ else f0 n) wr ur ud rs (Jv c) (Z2 c)):=Y (by have h:=HI.o;rw[aW (by unfold Jv;rw[bK];have:=dn.o;omega),aW (by unfold Z2;rw[bK];have:=dn.o;omega)]at h;exact h)
     obtain⟨⟨aR,cR,eR,hR⟩,⟨aD,cD,eD,hD⟩⟩:=aa.fin;obtain⟨aP,cP,eP,hP⟩:=HA.8;obtain⟨aE,cE,eE,hE⟩:=HA.9;obtain⟨a2,c2,e2,ef⟩:=Xk ao.7;have bf:=Y HA.1;have bc:=λV g m=>G (aa.5 V (oN b4.o) m) (ao.5 V g m)
     have br:Q (Sw (Z wo.1) wo wr):=Y ⟨G aa.1<|G ao.1 bf.1,G aa.2<|G ao.2 bf.2,G aa.3<|G ao.3 bf.3,oN b4.o,λV hu=>G (bc V O O) (bf.5 V hu)⟩;have g1:=Y (Zl P_.5 λx e=>br.5 x (P_.5.lt x e).2);have gi:Q (VO wr (λab=>Z wo.1<=ab) (jo (X aT M_ cT) (X aP (J c.1) cP) (X a2 (J (XP f k)) c2) (X aR (J (Jv c)) cR) (X aD (J (Z2 c)) cD) (X aE (J (Id c.3)) cE)) f[k] (XP f k)):=Y (by
      rw[<-HX.o];have jf:=b4.o;refine⟨⟨aT,cT,by rw[<-a6.o];rfl,?_⟩,⟨aP,cP,by rw[bK];rfl,?_⟩,⟨a2,c2,R,?_⟩,⟨aR,cR,R,?_⟩,⟨aD,cD,R,?_⟩,⟨aE,cE,R,?_⟩⟩;·exact(dc.keep (w':=wr) (λi g m=>bc i g m.2) O).mono λ_ _ h=>h.1
      .exact(hP.keep (w':=wr) (λi g m=>bc i g m.2) O).mono λ_ _ h=>h.1
      .have h5:=Yv.of_at ef aA (P:=λi=>Z Y_.1<=i) λi g _=>g;exact(h5.keep (w':=wr) (λi g m=>aa.5 i g O) ib).mono λi _ h=>by show Z wo.1<=i;have h':=h;omega
      .exact hR.mono λi _ h=>by show Z wo.1<=i;have h':=h;omega
      .exact hD.mono λi _ h=>by show Z wo.1<=i;have h':=h;omega
      exact(hE.keep (w':=wr) (λi g m=>bc i g m.2) O).mono λ_ _ h=>h.1)
     have NC:=λ(n:N)(h:n<6)=>aa.6.cell h
     have x0:E wr (A a 0)=S (X aT M_ cT):=by have h:=NC 0 vY;simp only[Nat.reduceEqDiff,fD]at h;rw[c8.o,<-a6.o]at h;exact h
     have x1:E wr (A a 1)=S (X aP (J c.1) cP):=by have h:=NC 1 vY;simp only[Nat.reduceEqDiff,fD]at h;rw[eP]at h;exact h
     have x2:E wr (A a 2)=S (X a2 (J (XP f k)) c2):=by have h:=NC 2 vY;simp only[Nat.reduceEqDiff,fD,gG]at h;rw[e2]at h;exact h
     have x3:E wr (A a 3)=S (X aR (J (Jv c)) cR):=by have h:=NC 3 vY;simp only[Nat.reduceEqDiff,fD,gG]at h;rw[eR]at h;exact h
     have x4:E wr (A a 4)=S (X aD (J (Z2 c)) cD):=by have h:=NC 4 vY;simp only[Nat.reduceEqDiff,fD,gG]at h;rw[eD]at h;exact h
     have x5:E wr (A a 5)=S (X aE (J (Id c.3)) cE):=by have h:=NC 5 vY;simp only[Nat.reduceEqDiff,fD]at h;rw[eE]at h;exact h
     generalize J c.1=nP at*;generalize J (XP f k)=l2 at*;generalize J (Jv c)=lR at*;generalize J (Z2 c)=lD at*;generalize J (Id c.3)=lE at*;clear hR hD hP hE ef eR eD eP eE e2 NC bc;go_wp2_with (at_builtin;refine YC Qc g1 ?_ (hs:=oN br.4))
     intro u9 Z_ W I_ _ V_;have dj:=Y (P_.next (f:=jo (X aT M_ cT) (X aP nP cP) (X a2 l2 c2) (X aR lR cR) (X aD lD cD) (X aE lE cE)) be (Xg br<|Xb (dC (Z wr.1) wr) _) (gi.keep (λi g _=>gF _ _ _ g) sP) I_ W (by rw[aO];exact V_));clear W I_ V_ x0 x1 x2 x3 x4 x5;go_wp2_with fail
     refine hN _ _ ?_;refine⟨?_,SA⟩
     first
      |exact⟨k+1,_,O,gM,dj⟩
      |((repeat apply gP);refine⟨?_,R⟩;exact⟨k+1,_,O,gM,dj⟩))
  clear bv;exact Ga dw bq pa ia pc ic c _ _ _ _ _ _ _ _ _ _ _ _ _ _ _ _ _ _ _ _ _ _ _ _ _ _ _ _ _ _ _ _ _ _ _ _ _ _ _ _ _ _ _ _ _ _ _ _ _ _ (Y λc_ ar al v w h=>hQ c_ ar al v w h) hB hz hp cc e0 e1 e2 e3 e4 e5 b1 b0 g8
 go_wp2;go_ret;have hm:k=J f:=oN hx.o;have h:=P_.o;rw[hm]at h;obtain⟨a',c',rfl,hF⟩:=h.fin;exact⟨a',c',by rw[hx.o];rfl,P_.1,hF⟩
section
attribute [local go_sem] Oper.semAt_some
theorem FX(h:XA f)(i):f i<18446744073709551616:=h i
theorem qW(W i j)(a:j<64):Xh W (64*i+j)=(W i).testBit j:=by unfold Xh;rw[show(64*i+j)/64=i by omega,show(64*i+j)%64=j by omega]
structure ji(W:Wk)(i k y:N):Prop where
 le:k<=64
 lt:y<18446744073709551616
 bit:∀j,y.testBit j=((W i).testBit j&&Jd (k<=j))
theorem ji.start(h:XA f)(i):ji f i 0 (f i):=⟨vY,FX h i,λj=>sP⟩
theorem ji.next(l:ji f n m k)(d:k≠0):ji f n (Lib.ctz 64 k+1) (k&&&(k-1))/\Mq f (64*n+(Lib.ctz 64 k+1))=Mq f (64*n+m)++[64*n+Lib.ctz 64 k]/\Lib.ctz 64 k<64/\(k&&&(k-1))<k:=by
 have i:k<2^64:=l.2;let⟨y,x,p⟩:=qh d i;have h:=Fs d i;have v:=EY d i;have b:=l.3;have w:k&&&(k-1)<=k-1:=Nat.and_le_right;generalize Lib.ctz 64 k=c at*;have u:m<=c/\(f n).testBit c=So:=by have a:=h.1;rw[b,bY,bD]at a;exact⟨a.2,a.1⟩
 refine⟨⟨O,O,λj=>?_⟩,?_,p,O⟩
 .rw[v,b];by_cases e:j=c;·subst e;simp
  by_cases e2:j<c
  .have g:=h.2 j e2;rw[b]at g;rw[g];have:¬c+1<=j:=O;simp[this]
  have r:m<=j:=O;have s:c+1<=j:=O;simp[e,r,s]
 have e:64*n+(c+1)=(64*n+c)+1:=O;rw[e];refine EP O (λq a g=>?_) (by rw[qW f n c p];exact u.2);obtain⟨j,rfl⟩:∃j,q=64*n+j:=⟨q-64*n,O⟩;have o:=h.2 j O;rw[b]at o;rw[qW f n j O];have t:m<=j:=O;simpa [t]using o
theorem ji.done(h:ji f n m 0):Mq f (64*(n+1))=Mq f (64*n+m):=by refine qB (oN h.1) λq c d=>?_;obtain⟨j,rfl⟩:∃j,q=64*n+j:=⟨q-64*n,O⟩;rw[qW f n j O];have a:=h.3 j;have b:m<=j:=O;simpa [b]using a.symm
theorem Fx{W p q}(h:p<=q):J (Mq W p)<=J (Mq W q):=by unfold Mq;obtain⟨d,rfl⟩:∃d,q=p+d:=⟨q-p,O⟩;rw[lI,eU,aQ];omega
theorem FO(n)(a:Uy)(len b)(w:Ub):
 CallsIn Fence.wide n prog 178 #[Sa #[X a len b]] w λe c=>e=Rt (.func (.func 203) #[] #[Sj (S ⟨Z w.1,0,U⟩)])/\c=D w (Sc #[X a len b] 126):=by
 refine iD func178 R JV ?_ R;simp only[ntmps178,xY,Nat.reduceAdd,Nat.reduceSub];gi_wp2;go_ret;exact⟨R,R⟩
end
theorem wD{f:Wk}(a:∀B,B<256->f B<=68):∀n x,E1 f n x<=Wr 68 n
 |0,_=>aA
 |n+1,x=>by have b:=wD a n<|x/256;have c:=a (x%256) (dS _ vY);simp only[E1,Wr];omega
theorem Fp:∀B,B<256->f2 (f1 B)<=68:=by decide +kernel
theorem JQ(h:n<256):(n+256*m)/256=m:=O
theorem Dn(n g h i k o p j e a b c d f q l m r)(K:n<=8)(B:g<=8)(C:h<=8)(L:i<=8)(P:k<=8)(F:o<=8)(T:p<=8)(V:j<=8)(e3:q=n+256*e)(u:e=g+256*a)(v:a=h+256*b)(w:b=i+256*c)(x:c=k+256*d)(y:d=o+256*f)(z:f=p+256*j)(e4:l=q+q/256)(e5:m=l+l/65536)(t:r=m+m/4294967296):l<9223372036854775808/\m<9223372036854775808/\r<9223372036854775808/\r%128=n+(g+(h+(i+(k+(o+(p+j)))))):=by
 have d3:q/256=e:=by rw[e3];exact JQ O
 have c4:l=(n+g)+256*(e+a):=O;have d4:l/65536=a+b:=by rw[show 65536=256*256 from R,<-iZ,c4,JQ O,show e+a=(g+h)+256*(a+b) by omega,JQ O]
 have c5:m=(n+g+h+i)+256*(e+a+b+c):=O;have d5:m/4294967296=c+d+f+j:=by rw[show 4294967296=256*256*256*256 from R,<-iZ,<-iZ,<-iZ,c5,JQ O,show e+a+b+c=(g+h+i+k)+256*(a+b+c+d) by omega,JQ O,show a+b+c+d=(h+i+k+o)+256*(b+c+d+f) by omega,JQ O,show b+c+d+f=(i+k+o+p)+256*(c+d+f+j) by omega,JQ O]
 have s:r=(n+g+h+i+k+o+p+j)+256*(e+a+b+c+d+f+j):=O;have W:f<=2304:=O;have M:d<=590000:=O;have L_:c<=151100000:=O;have K_:b<=38700000000:=O;have J_:a<=9910000000000:=O;have I_:e<=2540000000000000:=O;refine⟨O,O,O,?_⟩;generalize e+a+b+c+d+f+j=O_ at s;omega
theorem CH(x)(e4:n=E1 Zc 8 x+E1 Zc 8 x/256)(e5:m=n+n/65536)(b:k=m+m/4294967296):n<9223372036854775808/\m<9223372036854775808/\k<9223372036854775808/\k%128=NZ 8 x:=by rw[uh];have a:∀y,Zc (y%256)<=8:=λy=>uo _<|dS _ vY;have h:=Dn (Zc<|x%256) (Zc<|x/256%256) (Zc<|x/256/256%256) (Zc<|x/256/256/256%256) (Zc<|x/256/256/256/256%256) (Zc<|x/256/256/256/256/256%256) (Zc<|x/256/256/256/256/256/256%256) (Zc<|x/256/256/256/256/256/256/256%256) (E1 Zc 7<|x/256) (E1 Zc 6<|x/256/256) (E1 Zc 5<|x/256/256/256) (E1 Zc 4<|x/256/256/256/256) (E1 Zc 3<|x/256/256/256/256/256) (E1 Zc 2<|x/256/256/256/256/256/256) (E1 Zc 8 x) n m k (a _) (a _) (a _) (a _) (a _) (a _) (a _) (a _) R R R R R R (by simp only[E1];omega) e4 e5 b;simp only[rA];exact h
theorem AZ(w:Ub)(q:n<18446744073709551616):
 Sk prog 130 #[Si .u64 (n:I)] w λo x=>o=Rt (H (NZ 8 n:N))/\x=w:=by
 have m:Wr 85 8=6148914691236517205:=vY;have m1:Wr 51 8=3689348814741910323:=vY;have m2:Wr 15 8=1085102592571150095:=vY;have s1:=wV 8 n;have s2:=wP 8<|E1 f1 8 n;have s3:=wR 8 (E1 f2 8<|E1 f1 8 n) (by rw[map_map kT];exact vy 8 n);rw[m]at s1;rw[m1]at s2;rw[m2,map_map kT,map_map λB h=>rq _<|kT _ h,tP Gt]at s3;have i:E1 f1 8 n<18446744073709551616:=oZ kT 8 n;have j:E1 f2 8 (E1 f1 8 n)<18446744073709551616:=oZ rq 8 _;have u:E1 Zc 8 n<18446744073709551616:=oZ (λB h=>iC (uo B h) vY) 8 n;let⟨r,s,K,t⟩:=CH n R R R;have k:E1 f2 8 (E1 f1 8 n)/16+E1 f2 8 (E1 f1 8 n)<18446744073709551616:=by have l:=wD (f:=λB=>f2<|f1 B) Fp 8 n;rw[map_map kT];rw[show Wr 68 8=4919131752989213764 by decide]at l;omega
 rw[map_map kT]at j s2 k;generalize E1 f1 8 n=e at*;generalize E1 (λB=>f2<|f1 B) 8 n=d at*;generalize E1 Zc 8 n=a at*;generalize NZ 8 n=v at*;have W:∀f:N,f<18446744073709551616->IntKind.u64.wrap f=f:=λf l=>by rw[iV];exact mB O O
 have y:IntKind.u64.wrap (bits .and .u64 ((n:I)/2) 6148914691236517205+bits .and .u64 n 6148914691236517205)=(e:I):=by have q1:=jH (n/2) 6148914691236517205 O vY;have q2:=jH n 6148914691236517205 q vY;rw[show((n:I)/2)=((n/2:N):I) by omega];rw[show(6148914691236517205:I)=((6148914691236517205:N):I)from R,q1,q2,<-kB,s1,W _ i]
 have b2:IntKind.u64.wrap (bits .and .u64 ((e:I)/4) 3689348814741910323+bits .and .u64 e 3689348814741910323)=(d:I):=by have q1:=jH (e/4) 3689348814741910323 O vY;have q2:=jH e 3689348814741910323 i vY;rw[show((e:I)/4)=((e/4:N):I) by omega];rw[show(3689348814741910323:I)=((3689348814741910323:N):I)from R,q1,q2,<-kB,s2,W _ j]
 have z:bits .and .u64 ((d:I)/16+(d:I)) 1085102592571150095=(a:I):=by have p:=k;have q1:=jH (d/16+d) 1085102592571150095 p vY;rw[show((d:I)/16+(d:I))=((d/16+d:N):I) by omega];rw[show(1085102592571150095:I)=((1085102592571150095:N):I)from R,q1,s3]
 have L:IntKind.u64.wrap ((a:I)+a/256)=((a+a/256:N):I):=by rw[show((a:I)+a/256)=((a+a/256:N):I) by omega];exact W _ O
 generalize a+a/256=b at*;have C:IntKind.u64.wrap ((b:I)+b/65536)=((b+b/65536:N):I):=by rw[show((b:I)+b/65536)=((b+b/65536:N):I) by omega];exact W _ O
 generalize b+b/65536=c at*;have M:IntKind.u64.wrap ((c:I)+c/4294967296)=((c+c/4294967296:N):I):=by rw[show((c:I)+c/4294967296)=((c+c/4294967296:N):I) by omega];exact W _ O
 generalize c+c/4294967296=g at*;have P:bits .and S6 g 127=(v:I):=by rw[i64_and127];omega
 have F:wrap64 g=g:=by simp[wrap64];omega
 go_in
 go_wp2;go_ret;exact⟨R,R⟩
def WC(P:Wc)(k:N)(c:N):Wa:=(Rg k).filter λb=>P.getD b 0==(c:I)
theorem vM:WC l (J l) c=Nj l c:=R
theorem Ea:J (WC l n c)<=n:=aJ (fJ _ _) sP
theorem Db(h:l.getD n 0=(m:I))(i):Xi (WC l (n+1) i)=if i=m then Xi (WC l n m)++[(n:I)]else Xi (WC l n i):=by
 unfold WC;rw[dN,eU,iW,jX,h];by_cases e:i=m
 .subst e;rw[aU sP,aU R];simp[Xi]
 rw[aM SB,aM e];simp[Xi]
theorem CI{P}(h:P.getD k 0<0)(i):WC P (k+1) i=WC P k i:=by unfold WC;rw[dN,eU,iW,jX,aM (by rw[iA];omega),fF]
theorem Y0:J (Xi s)=J s:=by simp[Xi]
theorem Au(c)(ha:Q (Xf w m k p l))(K:Q (n=J l))(hn:n<=1000)(hB:k<=Z w.1)(L:Q (∀o∈l,o<n)):
 Sk prog 186 #[X p n c] w λq x=>∃M T,q=Rt (X M n T)/\Sw (Z w.1) w x/\XR x (Z w.1) (Z x.1) M ((Rg n).map λi:N=>Xi<|Nj l i):=by
 obtain⟨X_,P_,T_,V_,W_⟩:=fX RH;have al:=fM (P:=prog) 136 23 Hq 24 underlying136 RG R S6 S6 n O O
 go_in
 go_wp2
 go_loopw [11] (λi wr=>∃a:N,a<=n/\i=H a/\Sw (Z w.1) w wr/\Q (∃h,YT wr (Z w.1) n (λi=>Xi<|WC l a i) h)) λi _=>n-(JB i).toNat
 .exact⟨0,aN,R,Xb Rf _,⟨_,YT.born w n⟩⟩
 obtain⟨a,hk,rfl,f,j⟩:=hrel;by_cases aj:a<n
 .have s:a<J l:=oN K.o;obtain⟨aa,aq,rfl,⟨_,ab⟩,C⟩:=ha a s;have ad:=G (XU f O) C;have ao:=L _<|aH s;have P:l.getD a 0=l[a]:=by simp[s]
  have z:=Y P;clear C P;generalize l[a]=o at*;by_cases V:0<=o
  .obtain⟨t,rfl⟩:=bX V;have e:t<n:=O;obtain⟨h,d⟩:=j.o;have W:=d.1.cell e;have O_:=d.1.frozen t;have ap:J (Xi<|WC l a t)<=a:=Y0▸Ea;have b:=Y d;clear d j;go_wp2_with (at_builtin;refine YC RH (b.2.1 t e) ?_ (hs:=oN b.1.lt))
   intro v1 y u g _ B;obtain⟨av,cv,v,_⟩:=Xk (xs:=Xi (WC l a t)++[(a:I)]) (Yl▸u);have S_:=Y ((b.alloc<|Sc #[H a] 2).step e a v1 g u (by rw[aO];exact B));have r:y.1[Z w.1]?=(D wr<|Sc #[H a] 2).1[Z w.1]?:=YJ g ((b.alloc<|Sc #[H a] 2).2.1 t e) O (by have:=b.1.lt;simp;omega);have M_:=Y (Xy (Xb f<|Sc #[H a] 2) g ((b.alloc<|Sc #[H a] 2).2.1 t e) O (by have:=f.4;simp;omega));have ac:E y (A (Z w.1) t)=S (h t):=by rw[Xc r];exact((b.alloc<|Sc #[H a] 2).1).cell e
   have af:y.frozen? (A (Z w.1) t)=Sn:=by rw[bJ (w:=D wr<|Sc #[H a] 2) (a:=(A (Z w.1) t)) r];exact((b.alloc<|Sc #[H a] 2).1).frozen t
   have I_:=Y v;clear u g B r W O_;rw[v];clear v;go_wp2;have F:=I_.o;rw[aQ,bA,bO,aV]at F;rw[<-F];refine⟨⟨a+1,O,gM,M_.setCell SG _,⟨_,(S_).congr λi _=>?_⟩⟩,SA⟩;exact(Db z i).symm
  have R_:o<0:=O;have H_:=Y (λi=>CI (P:=l) (k:=a) (by rw[z.o];exact R_) i);go_wp2;refine⟨⟨a+1,O,gM,f,?_⟩,SA⟩;obtain⟨h,d⟩:=j.o;exact⟨h,d.congr λi _=>by rw[H_.o]⟩
 go_wp2;go_ret;obtain⟨h,d⟩:=j.o;have q:a=J l:=oN K.o;refine⟨_,_,R,f,?_⟩;have K_:=(d.congr (P':=λi:N=>Xi<|Nj l i) λi _=>by rw[q,vM]).ints;exact K_.mono O<|aA
structure Oc(w w':Ub)(v v':Uj):Prop where
 os:w'.4=w.4
 tape:w'.2=w.2
 output:w'.5=w.5
 size:Z w.1<=Z w'.1
 block:∀k,k<Z w.1->S k≠v.ownBlock->w'.1[k]?=w.1[k]?
 own:v'.ownBlock=v.ownBlock\/∀k,v'.ownBlock=S k->Z w.1<=k
theorem Oc.refl(w v):Oc w w v v:=⟨R,R,R,aA,λ_ _ _=>R,bC R⟩
theorem Oc.trans{v1 v2}(h:Oc w v a v1)(k:Oc v u v1 v2):Oc w u a v2:=by
 refine⟨G k.1 h.1,G k.2 h.2,G k.3 h.3,aJ h.4 k.4,λj d f=>?_,?_⟩
 .refine G (k.5 j (aX d h.4) λe=>?_) (h.5 j d f);obtain b|b:=h.6;·exact f<|by rw[e,b]
  have:=b j e.symm;omega
 obtain c|c:=k.6
 .rcases h.6 with b|b;·exact bC<|G c b
  exact aZ λj e=>b j (c▸e)
 exact aZ λj e=>aJ h.4<|c j e
theorem Oc.below(h:Oc w v a A_)(c:Sx w n m k a B y)(f:n<=Z w.1):Sw n w v:=⟨h.1,h.2,h.3,h.4,λb d=>h.5 b O λe=>by have:=(c.lt b e.symm).1;omega⟩
theorem Oc.push{d}(b:(D w d).grownBy v a.ownBlock)(h:A_.ownBlock=a.ownBlock\/A_.ownBlock=S (Z w.1+1)):Oc w v a A_:=by
 have j:Z (D w d).1=Z w.1+1:=aO _ _;have i:=b.4;refine⟨b.1,b.2,b.3,O,λk f g=>G (b.5 k O g) (gF _ _ _ f),?_⟩;obtain e|e:=h;·exact bC e
 exact aZ λk c=>by rw[e]at c;injection c with c;omega
theorem Fo(a:∀k c,c∈Nj l k->f k<f c)(b:∀k,f k<=n)(h:n<=f k+m):XT l m k=k::(Nj l k).flatMap (XT l<|m-1):=by
 cases m with
 |zero=>
  have:Nj l k=[]:=by
   cases e:Nj l k with
   |nil=>rfl
   |cons c i=>
    have d:=a k c (e▸cI);have g:=b c;omega
  rw[this];rfl
 |succ m=>rfl
theorem AV(r cc L2)(hx:Q (n=J l))(hn:n<=1000)(x:m<=k)(i:Wk)(P:Q (∀b c,c∈Nj l b->i b<i c))(t:Q (∀b,i b<=n)):
 ∀(a b:N)(v:Uj)(L:Wa)(w:Ub),Q (XR w L2 m r ((Rg n).map λi_:N=>Xi<|Nj l i_))->Q (Sx w k 2 1 v (J L)<|Je L)->k<=Z w.1->b<n->Q (n<=i b+a)->J L+J (XT l a b)<=4000 ->
 Sk prog 185 #[v,X r n cc,H b] w λg w'=>∃A_,g=Rt A_/\Oc w w' v A_/\Sx w' k 2 1 A_ (J (L++XT l a b)) (Je<|L++XT l a b):=by
 intro a
 induction a using Nat.strongRecOn with
 |_ a ih=>
  intro b v L w C F hz hb M y;have IH:=Y ih;clear ih;obtain⟨bc,oc,rfl,a5,a1,c1,h,z⟩:=C b (by simpa using hb);simp only[cM,dW,Y0]at h z;have D_:=Y<|Fo P t M;rw[D_.o]at y |-;have ab:Q (∀c∈Nj l b,c<n/\n<=i c+(a-1)/\0<a):=Y (λc T=>by have K:=P b c T;have h2:=t c;have h3:=(o8.1 T).1;have:=M.o;have:=hx.o;omega)
  have aq:J (Nj l b)<=n:=aJ Fi<|oN hx.o;have F_:=Y z;generalize Nj l b=d at*;let⟨q,hq⟩:∃q,q=J d:=⟨_,R⟩;rw[<-hq]at h aq;have V:=Y hq;have a3:J L+1+J (d.flatMap<|XT l (a-1))<=4000:=by simp only[bA]at y;omega
  clear hq z y
  go_in
  go_wp2_with (at_builtin;refine YC RH F ?_)
  intro v8 w8 W V_ _ S_;have s:=Y (Oc.push V_<|by simpa using S_);have I_:Q (Sx w8 k 2 1 v8 (J (L++[b])) (Je<|L++[b])):=Y (by rw[VP,aQ];exact W);have p:=Y<|s.below F hz;have a8:=s.4;have aj:=G (XU p O) h;have aa:=Y<|C.keep (p.mono x);have ad:=Y<|F_.keep (p.mono x);clear W V_ S_ h;go_wp2
  go_loopw [0,18] (λvo u wr=>∃j:N,j<=q/\u=H j/\Q (Oc w8 wr v8 vo)/\Q (Sx wr k 2 1 vo (J (L++[b]++(d.take j).flatMap (XT l<|a-1))) (Je<|L++[b]++(d.take j).flatMap (XT l<|a-1)))) λ_ u _=>q-(JB u).toNat
  .exact⟨0,aN,R,Y<|Oc.refl _ _,Y<|by simpa using I_.o⟩
  obtain⟨j,hj,rfl,e,f⟩:=hrel;clear aj;have B:=Y<|e.below I_ O;by_cases a7:j<q
  .have o:j<J d:=oN V.o;obtain⟨b5,o5,rfl,a4,e5⟩:=ad j (Y0▸o);have W_:(Xi d)[j]'(Y0▸o)=((d[j]:N):I):=by simp[Xi]
   rw[W_]at e5;have a2:=G (XU B O) e5;let⟨al,ao,hm⟩:=ab d[j] (aH o);have t_:Q ((d.take<|j+1).flatMap (XT l<|a-1)=(d.take j).flatMap (XT l<|a-1)++XT l (a-1) d[j]):=Y (by rw[bN o,eZ];simp);have G_:Q (J (L++[b]++(d.take j).flatMap (XT l<|a-1))+J (XT l (a-1) d[j])<=4000):=Y (by
    have K:J (d.flatMap<|XT l (a-1))=J ((d.take<|j+1).flatMap (XT l<|a-1))+J ((d.drop<|j+1).flatMap (XT l<|a-1)):=by rw[<-aQ,<-eZ,hH]
    rw[t_.o,aQ]at K;simp only[aQ,bA,bO];omega)
   have r_:=Y<|IH.o (a-1) O d[j] u0 _ wr (Y<|aa.keep (B.mono x)) f (oN e.4) al (Y ao) G_;have E_:=Y (show(L++[b]++(d.take j).flatMap (XT l<|a-1))++XT l (a-1) d[j]=L++[b]++(d.take<|j+1).flatMap (XT l<|a-1) by rw[t_.o];simp);rw[E_.o]at r_;clear e5 W_;generalize d[j]=cj at*;go_wp2_with fail
   refine r_.mono ?_;rintro g w5⟨v5,rfl,U_,X_⟩;have ac:=Y<|e.trans U_;have af:=Y X_;clear U_ X_ f;go_wp2;exact⟨⟨j+1,O,gM,ac,af⟩,SA⟩
  have a6:j=q:=O;have K_:Q (d.take j=d):=Y<|aW (oN V.o);rw[K_.o]at f;go_wp2;go_ret;refine⟨u0,R,s.trans e,?_⟩;have g:L++b::d.flatMap (XT l<|a-1)=L++[b]++d.flatMap (XT l<|a-1):=sP;rw[g];exact f
section
theorem QQ:(prog.info? 99).map (λi=>(i.8,i.3,i.4))=S (S<|Sa #[Hq],1,24):=vZ
structure OE(w6 wr:Ub)(F:N)(x2 x3:Uj)(U_ V:Vu)(b1:N)(p1:Uy)(c1 b2:N)(p2:Uy)(c2:N):Prop where
 e0:E wr ⟨F,0,U⟩=S (X p1 b1 c1)
 e1:E wr ⟨F,1,U⟩=S (X p2 b2 c2)
 e2:E wr ⟨F,2,U⟩=S x2
 e3:E wr ⟨F,3,U⟩=S x3
 thaw:∀q,wr.frozen? ⟨F,q,U⟩=Sn
 bel:Sw F w6 wr
 lt:F<Z wr.1
 le:F=Z w6.1
 o1:Sx wr (F+1) 99 1 (X p1 b1 c1) b1 ((Rg b1).map U_)
 o2:Sx wr (F+1) 4 1 (X p2 b2 c2) b2 ((Rg b2).map V)
 dj:(X p1 b1 c1).ownBlock=U\/(X p1 b1 c1).ownBlock≠(X p2 b2 c2).ownBlock
structure Ej(w:Ub)(B n:N)(U_:Vu)(Pr:Tj)(V:Ys)(P:Wc)(Od:Wa)(g1 c1 g2 c2 g3 g4 c4:N):Prop where
 len:J P=n
 o1:Sx w B 99 1 (X (S ⟨g1,0,U⟩) n c1) n ((Rg n).map U_)
 o2:Sx w B 4 1 (X (S ⟨g2,0,U⟩) n c2) n ((Rg n).map λz=>Sb (V z))
 o3:w.rowIs g3 2 n λz=>Si S6 (P.getD z 0)
 o4:Sx w B 2 1 (X (S ⟨g4,0,U⟩) (J Od) c4) (J Od) (Je Od)
 rows:∀i,i<n->Sx w B 2 1 (U_ i) (J (Pr i)) ((Pr i).map (Si S6))
 rdj:∀i j,i<n->j<n->i≠j->(U_ i).ownBlock=U\/(U_ i).ownBlock≠(U_ j).ownBlock
 gs:B<=g3/\g1≠g2/\g1≠g3/\g1≠g4/\g2≠g3/\g2≠g4/\g3≠g4
 o:∀i,i<n->∀k,(U_ i).ownBlock=S k->k≠g1/\k≠g2/\k≠g3/\k≠g4
theorem n9{w d:Ub}{B a t s n:N}{v:Uj}{b:Wo}(i:Sx w B t s v n b)(l:a<=B)(p:∀k,v.ownBlock=S k->d.1[k]?=w.1[k]?):Sx d a t s v n b:=by
 obtain⟨c,j|⟨g,f,h,e,m,o,q⟩⟩:=i;·exact⟨c,bC j⟩
 exact⟨c,aZ ⟨g,f,h,e,aJ l m,G (p g<|by rw[e];rfl) o,q⟩⟩
theorem xq{w:Ub}{R_ F t:N}{i:Vu}(l:w.rowIs R_ t 4 i)(m:R_≠F){x c d f g:Uj}{a:Ub}(e:a=Se (Se (Se (Se (Se w ⟨F,3,U⟩ x) ⟨R_,0,U⟩ c) ⟨R_,1,U⟩ d) ⟨R_,2,U⟩ f) ⟨R_,3,U⟩ g):
 E a ⟨R_,0,U⟩=S c/\E a ⟨R_,1,U⟩=S d/\E a ⟨R_,2,U⟩=S f/\E a ⟨R_,3,U⟩=S g/\(∀k,k≠F->k≠R_->a.1[k]?=w.1[k]?)/\Z a.1=Z w.1/\a.4=w.4/\a.2=w.2/\a.5=w.5:=by
 have h:=((((l.setOther (a:=(A F 3)) m x).set 0 c).set 1 d).set 2 f).set 3 g;rw[<-e]at h;refine⟨?_,?_,?_,?_,λk j b=>?_,?_,?_,?_,?_⟩;·rw[h.cell vY];simp
 .rw[h.cell vY];simp
 .rw[h.cell vY];simp
 .rw[h.cell vY];simp
 .rw[e,cY b,cY b,cY b,cY b,cY j]
 .rw[e];simp[World.setCell]
 .rw[e];simp[World.setCell]
 .rw[e];simp[World.setCell]
 rw[e];simp[World.setCell]
section
variable{w6 wr wr':Ub}{F:N}{x2 x3:Uj}{U_ V:N->Uj}{b1:N}{p1:Uy}{c1 b2:N}{p2:Uy}{c2:N}
theorem OE.below(h:OE w6 wr F x2 x3 U_ V b1 p1 c1 b2 p2 c2)(k:Sw (Z wr.1) wr wr'):OE w6 wr' F x2 x3 U_ V b1 p1 c1 b2 p2 c2:=by
 have c:=k.5 F h.7;have a:∀q,E wr' (A F q)=E wr (A F q):=λq=>bZ c
 have own:∀{t v n b},Sx wr (F+1) t 1 v n b->Sx wr' (F+1) t 1 v n b:=λ{t v n b} e=>by
  refine e.kept (row:=U) ⟨k.1,k.2,k.3,k.4,λj d _=>k.5 j d⟩ ?_;cases v.ownBlock with
  |none=>exact bC R
  |some j=>exact aZ sP
 exact⟨G (a 0) h.1,G (a 1) h.2,G (a 2) h.3,G (a 3) h.4,λq=>G (bJ c) (h.5 q),h.6.trans<|k.mono (dU h.7),aX h.7 k.4,h.8,own h.9,own h.o2,h.dj⟩
theorem tM{w:Ub}{B t s n:N}{v:Uj}{a:Wo}(h:Sx w B t s v n a){k}(b:Z w.1<=k):v.ownBlock=U\/v.ownBlock≠S k:=by
 by_cases e:v.ownBlock=S k;·have:=(h.lt k e).2;omega
 exact aZ e
theorem EQ{a b:Zm}(h:a=U\/a≠b):b=U\/b≠a:=by
 obtain h|h:=h
 .subst h;cases b with
  |none=>exact bC R
  |some k=>exact aZ sP
 exact aZ λe=>h e.symm
theorem ue{w:Ub}{B t s n:N}{v:Uj}{a:Wo}(h:Sx w B t s v n a):Sx w.drew B t s v n a:=h
theorem tJ{a:Type}(f:N->a){b}:(Rg<|b+1).map f=(Rg b).map f++[f b]:=by rw[dN,bG];rfl
theorem OE.app1{a:Ub}{g}{f:Uy}{c}(h:OE w6 wr F x2 x3 U_ V b1 p1 c1 b2 p2 c2)(b:(D wr g).grownBy a (X p1 b1 c1).ownBlock)(s:Sx a (F+1) 99 1 (X f (b1+1) c) (b1+1) ((Rg b1).map U_++[U_ b1]))(p:(X f (b1+1) c).ownBlock=(X p1 b1 c1).ownBlock\/(X f (b1+1) c).ownBlock=S (Z wr.1+1)):
 OE w6 (Se a ⟨F,0,U⟩ (X f (b1+1) c)) F x2 x3 U_ V (b1+1) f c b2 p2 c2/\(∀q,E a ⟨F,q,U⟩=E wr ⟨F,q,U⟩)/\(∀q,a.frozen? ⟨F,q,U⟩=Sn)/\Sw F wr a:=by
 have r:=h.7;have ha:∀k,k<Z wr.1->(D wr g).1[k]?=wr.1[k]?:=λk j=>gF _ _ _ j;have u:Z (D wr g).1=Z wr.1+1:=aO _ _;have t:=b.4;have o:∀k,k<=F->S k≠(X p1 b1 c1).ownBlock:=λk j e=>by have:=(h.9.lt k e.symm).1;omega
 have m:=G (b.5 F O<|o _ aA) (ha _ r);have d:∀q,E a (A F q)=E wr (A F q):=λq=>bZ m;have l:=λq=>G (bJ m) (h.5 q);have n:Sw F wr a:=⟨b.1,b.2,b.3,O,λk j=>G (b.5 k O<|o k O) (ha k O)⟩;refine⟨⟨fQ _ _ _<|G (d 0) h.1,G (XL _ _ O _) (G (d 1) h.2),G (XL _ _ O _) (G (d 2) h.3),G (XL _ _ O _) (G (d 3) h.4),λq=>by rw[eX];exact l q,(h.6.trans n).setCell (p:=A F 0) aA _,SF,h.8,?_,?_,?_⟩,d,l,n⟩
 .rw[tJ];exact ke s (by show F<F+1;omega) _
 .exact ke ((h.o2.alloc g).kept b (EQ h.dj)) (by show F<F+1;omega) _
 obtain e|e:=p;·rw[e];exact h.dj
 obtain i|i:=tM h.o2 (k:=Z wr.1+1) O;·exact aZ<|by rw[e,i];simp
 exact aZ (e▸λk=>i k.symm)
theorem OE.app2{a:Ub}{g}{f:Uy}{c}(h:OE w6 wr F x2 x3 U_ V b1 p1 c1 b2 p2 c2)(b:(D wr g).grownBy a (X p2 b2 c2).ownBlock)(s:Sx a (F+1) 4 1 (X f (b2+1) c) (b2+1) ((Rg b2).map V++[V b2]))(p:(X f (b2+1) c).ownBlock=(X p2 b2 c2).ownBlock\/(X f (b2+1) c).ownBlock=S (Z wr.1+1)):
 OE w6 (Se a ⟨F,1,U⟩ (X f (b2+1) c)) F x2 x3 U_ V b1 p1 c1 (b2+1) f c/\(∀q,E a ⟨F,q,U⟩=E wr ⟨F,q,U⟩)/\(∀q,a.frozen? ⟨F,q,U⟩=Sn)/\Sw F wr a:=by
 have r:=h.7;have ha:∀k,k<Z wr.1->(D wr g).1[k]?=wr.1[k]?:=λk j=>gF _ _ _ j;have u:Z (D wr g).1=Z wr.1+1:=aO _ _;have t:=b.4;have o:∀k,k<=F->S k≠(X p2 b2 c2).ownBlock:=λk j e=>by have:=(h.o2.lt k e.symm).1;omega
 have m:=G (b.5 F O<|o _ aA) (ha _ r);have d:∀q,E a (A F q)=E wr (A F q):=λq=>bZ m;have l:=λq=>G (bJ m) (h.5 q);have n:Sw F wr a:=⟨b.1,b.2,b.3,O,λk j=>G (b.5 k O<|o k O) (ha k O)⟩;refine⟨⟨G (XL _ _ O _) (G (d 0) h.1),fQ _ _ _<|G (d 1) h.2,G (XL _ _ O _) (G (d 2) h.3),G (XL _ _ O _) (G (d 3) h.4),λq=>by rw[eX];exact l q,(h.6.trans n).setCell (p:=A F 1) aA _,SF,h.8,?_,?_,?_⟩,d,l,n⟩;·exact ke ((h.9.alloc g).kept b h.dj) (by show F<F+1;omega) _
 .rw[tJ];exact ke s (by show F<F+1;omega) _
 obtain e|e:=p;·rw[e];exact h.dj
 obtain i|i:=tM h.9 (k:=Z wr.1+1) O;·exact bC i
 exact aZ (e▸i)
end
end
section
structure HK(w:Ub)(g K C:N)(W:Ym):Prop where
 le:K<=C
 ex:∃T:Vu,w.rowIs g 2 C λi=>if i<K then Si S6 (W i)else T i
namespace HK
variable{w:Ub}{g K C:N}{W W':N->I}
theorem lt(h:HK w g K C W):g<Z w.1:=by let⟨_,T,h⟩:=h;exact h.lt
theorem cell(h:HK w g K C W){i:N}(a:i<K):E w (A g i)=S (H<|W i):=by let⟨b,T,h⟩:=h;have:=h.cell (i:=i) O;rwa[aU a]at this
theorem frozen(h:HK w g K C W)(i:N):w.frozen? (A g i)=Sn:=by let⟨_,T,h⟩:=h;exact h.frozen i
theorem congr(h:HK w g K C W)(e:∀i,i<K->W i=W' i):HK w g K C W':=by
 let⟨b,T,h⟩:=h;refine⟨b,T,h.congr λi _=>?_⟩;by_cases a:i<K;·rw[aU a,aU a,e i a]
 rw[aM a,aM a]
theorem of_block{a:Ub}(h:HK w g K C W)(e:a.1[g]?=w.1[g]?):HK a g K C W:=by let⟨b,T,h⟩:=h;exact⟨b,T,h.of_block e⟩
theorem set(h:HK w g K C W)(i:N)(v:I)(b:i<K):HK (Se w ⟨g,i,U⟩ (Si S6 v)) g K C (λj=>if j=i then v else W j):=by
 let⟨a,T,h⟩:=h;refine⟨a,T,(h.set i _).congr λj _=>?_⟩;by_cases e:j=i;·rw[aU e,aU O,aU e]
 rw[aM e,aM e]
theorem setOther(h:HK w g K C W){a:Addr}(ha:g≠a.1)(v:Uj):HK (Se w a v) g K C W:=by let⟨b,T,h⟩:=h;exact⟨b,T,h.setOther ha v⟩
theorem alloc(h:HK w g K C W)(o:Obj):HK (D w o) g K C W:=by let⟨a,T,h⟩:=h;exact⟨a,T,h.alloc o⟩
theorem of_row(h:w.rowIs g 2 K λi=>H<|W i):HK w g K K W :=
 ⟨aA,λ_=>H 0,h.congr λi a=>by rw[aU a]⟩
theorem of_own{c:N}{v:Uj}{a:Wc}(h:Sx w c 2 1 v (J a) (a.map<|Si S6))(p:v≠X U 0 0):∃g C,v=X (S ⟨g,0,U⟩) (J a) C/\c<=g/\HK w g (J a) C (λi=>a.getD i 0):=by
 obtain⟨o,h|⟨g,k,b,rfl,m,n,l,_,f,j⟩⟩:=h;·exact Sz h.1 p
 simp only[iN]at o f j;refine⟨g,k,R,m,l,λi=>b[i]?.getD (H 0),b,n,f,λi q=>?_⟩;show b[i]?=S (if i<J a then H (a.getD i 0)else b[i]?.getD (H 0));by_cases e:i<J a
 .rw[aU e];have d:(b.1.take (J a))[i]?=S (H a[i]):=by rw[j];simp[e]
  rw[fH e]at d;have e2:a.getD i 0=a[i]:=by simp[e]
  rw[e2];simpa using d
 rw[aM e];have:i<Z b:=O;simp[this]
end HK
end
section
structure Kb(B gv gh:N)(w w':Ub):Prop where
 os:w'.4=w.4
 tape:w'.2=w.2
 output:w'.5=w.5
 size:Z w.1<=Z w'.1
 block:∀k,k<B->k≠gv->k≠gh->w'.1[k]?=w.1[k]?
variable{w w' w1 w2:Ub}{B gv gh:N}
theorem Kb.trans(h:Kb B gv gh w w1)(k:Kb B gv gh w1 w2):Kb B gv gh w w2:=⟨G k.1 h.1,G k.2 h.2,G k.3 h.3,aJ h.4 k.4,λi a b c=>G (k.5 i a b c) (h.5 i a b c)⟩
theorem Kb.of_below(h:Sw B w w1):Kb B gv gh w w1:=⟨h.1,h.2,h.3,h.4,λi a _ _=>h.5 i a⟩
theorem Kb.below{a}(h:Kb B gv gh w w1)(e:a<=B)(c:a<=gv)(d:a<=gh):Sw a w w1:=⟨h.1,h.2,h.3,h.4,λi b=>h.5 i O O O⟩
variable{t:N}{tv:Uj}{vals hp tr:Wc}
theorem Kb.drew(h:Kb B gv gh w w1):Kb B gv gh w w1.drew:=⟨h.1,h.2,h.3,h.4,h.5⟩
variable{r:N}{W:Ub}
theorem Hz{u x b a}(h:Tp u x b a=So)(c:u=So):b<=x/\x<a:=by subst c;simpa [Tp]using h
theorem GW{n k p}(h:ZX n k p=So):(0<=p.1/\p.1<n)/\J p.2=k/\∀a∈p.2,0<=a/\a<n:=by simp only[ZX,Jt,bY,bD,dV]at h;let⟨b,⟨e,c⟩,d⟩:=h;exact⟨Hz b R,c,d⟩
end
structure QO where
 code:I
 value:I
 steps:N
 tr:Wc
 hp:Wc
theorem yC(b):∀(a:Wi)(i:N),∀y∈AQ a i b,(i:I)<=y
 |[],_,y,h=>by simp[AQ]at h
 |x::a,i,y,h=>by
  rw[AQ,bU]at h;obtain h|h:=h
  .split at h;·simp at h;omega
   simp at h
  have:=yC b a (i+1) y h;omega
theorem r5(b:I):∀(a:Wi)(i:N),(AQ a i b).Nodup
 |[],_=>by simp[AQ]
 |x::a,i=>by
  rw[AQ];split
  .rw[List.singleton_append,fL];exact⟨λh=>by have:=yC b a (i+1) _ h;omega,r5 b a<|i+1⟩
  rw[dR];exact r5 b a<|i+1
def de(a:Wc)(p:I):N:=a.findIdx λy=>p==y
theorem pC(h:t∈l):de l t<J l:=by unfold de;rw[List.findIdx_lt_length];exact⟨t,h,sP⟩
theorem yq(h:de l t<J l):l[de l t]=t:=by have:=List.findIdx_getElem (p:=λy=>t==y) (xs:=l) (w:=h);simp only[iA]at this;exact this.symm
theorem Is(h:n<de l t)(a:n<J l):(t==l[n])=Sn:=by have:=List.not_of_lt_findIdx (p:=λy=>t==y) (xs:=l) (i:=n) h;simpa using this
def E9(q:N)(phs:Za):List (I×I):=phs.map λa=>(a.1,a.2.getD q 0)
section
structure XW(w w':Ub)(lab lab':N->N×N×N)(base:N)(ok:Vv):Prop where
 size:Z w.1<=Z w'.1
 same:∀b,base<=b->b<Z w.1->ok b->w'.1[b]?=w.1[b]?/\lab' b=lab b
 fresh:(∀b,Z w.1<=b->lab b=(0,0,0))->∀b,Z w'.1<=b->lab' b=(0,0,0)
variable{w w':Ub}{lab lab':N->N×N×N}{base:N}{ok:N->Prop}
theorem Xv.sp{L:N×N×N}{t c v n a}(h:Xv w lab L base t c v n a)(k:XW w w' lab lab' base ok)(g:∀b,lab b=L->ok b):Xv w' lab' L base t c v n a :=
 h.keep λb d f e=>by have:=k.2 b d f<|g b e;exact⟨this.1,G this.2 e⟩
theorem Bx.sp{b t a}(h:Bx w b a t)(k:XW w w' lab lab' base ok)(c:base<=b)(d:ok b):Bx w' b a t:=h.keep (k.2 b c h.lt d).1
theorem XW.put(g q)(u:Uj):XW w (Se w ⟨g,q,U⟩ u) lab lab base (λb=>b≠g) :=
 ⟨SH,λb _ _ a=>⟨cY a,R⟩,λh b a=>h b<|by simpa [World.setCell]using a⟩
theorem Xv.grow{L:N×N×N}{t g}{v a:Uj}{p k}{l h:Wo}(i:Xv w lab L base t g v p l)(d:w.grownBy w' v.ownBlock)(j:Sx w' base t g a k h)(n:a.ownBlock=v.ownBlock\/a.ownBlock=S (Z w.1))(o:∀b,Z w.1<=b->lab b=(0,0,0)):
 ∃lab',Xv w' lab' L base t g a k h/\XW w w' lab lab' base (λb=>lab b≠L):=by
 refine⟨λb=>if a.ownBlock=S b then L else lab b,⟨j,λb e=>aU e⟩,d.4,λb q m c=>⟨d.5 b m λe=>c<|i.2 b e.symm,aM λe=>?_⟩,λ_ b c=>G (aM λe=>?_) (o b<|aJ d.4 c)⟩
 .rcases n with f|f;·exact c<|i.2 b (G f.symm e)
  rw[e]at f;injection f with f;omega
 have:=(j.lt b e).2;have:=d.4;omega
end
theorem rk{e1 s1:N}{v1:Uj}{c1:Wo}(h:Sx w n e1 s1 v1 m c1)(k:Sw (Z w.1) w v):Sx v n e1 s1 v1 m c1:=by refine h.kept (row:=U) ⟨k.1,k.2,k.3,k.4,λq hq _=>k.5 q hq⟩ ?_;cases v1.ownBlock<;>simp
def KC(l:Vw):Wo:=l.map λf=>Sg<|K8 f
theorem zh{l f}:KC (l++[f])=KC l++[Sg<|K8 f]:=by simp[KC]
theorem Qh:(prog.info? 9).map (λi=>(i.8,i.3,i.4))=S (S<|Sg ByteArray.empty,1,16):=vZ
theorem Mo(sep){bs:Wn}(h:m<J bs)(a:n<=m):am sep ((bs.take m).drop n) (bs.drop m)=if bs[m]=sep then (bs.take m).drop n::am sep ((bs.take<|m+1).drop (m+1)) (bs.drop<|m+1)else am sep ((bs.take<|m+1).drop n) (bs.drop<|m+1):=by
 rw[gZ h,am];have e1:(bs.take<|m+1).drop (m+1)=[]:=by rw[IP];simp;omega
 have e2:(bs.take<|m+1).drop n=(bs.take m).drop n++[bs[m]]:=by rw[bN h,List.drop_append_of_le_length<|by simp;omega]
 rw[e1,e2]
theorem zB(c sep){bs}(w)(ha:Q (Yx w B g (S ⟨n,m,U⟩) bs))(s:Q (k=J bs))(hn:k<=1000000)(hc:k<=c)(S_:g<=Z w.1):
 Sk prog 39 #[Hm n m k c,Si .u8 (sep.toNat:I)] w λe w'=>∃K,e=Rt K/\Sw (Z w.1) w w'/\Sx w' (Z w.1) 9 1 K (J (C3 bs sep)) (KC<|C3 bs sep):=by
 go_in
 go_wp2
 go_loopw [5,6,7] (λK fr L wr=>∃(a q:N)(done:Vw),a<=k/\q<=a/\L=H a/\fr=H q/\Q (Sw (Z w.1) w wr)/\Q (J done<=a)/\Q (C3 bs sep=done++am sep ((bs.take a).drop q) (bs.drop a))/\Q (Sx wr (Z w.1) 9 1 K (J done)<|KC done)) λ_ _ L _=>k-(JB L).toNat
 .exact⟨0,0,[],aN,aA,R,R,Y<|Xb Rf _,Y<|aA,Y (by simp[C3]),Y (by have:=eI (base:=Z w.1) (e:=9) (size:=1) w #[] 0 sP sP R;simpa [KC]using this)⟩
 obtain⟨a,q,done,X_,M,rfl,rfl,d,C,T,o⟩:=hrel;have az:=d.4;have y:∀(W:Ub)(b:N)(e:N),Sw (Z w.1) w W->e<=k->q<=e->(convert 22 9<|Hm n (m+q) (e-q) b).run prog W=.ok (Sg (K8<|(bs.take e).drop q)) W:=λW b e hW he ar=>by
  have a0:=s.o;have hl:J ((bs.take e).drop q)=e-q:=by simp only[mF,dH];omega
  have:=B4 (P:=prog) W 22 9 5 (A n<|m+q) b ((bs.take e).drop q) underlying22 underlying5 underlying9 (λP V_=>by have ad:q+P<J bs:=O;let⟨b',o',V,aj,ac⟩:=(ha.keep<|hW.mono S_) (q+P) ad;cases V;rw[mK,zZ,ac];simp only[List.getElem_drop,jG])
  rw[hl]at this;exact this
 by_cases aq:a<k
 .have Y_:a<J bs:=oN s.o;let⟨b',o',V,⟨_,al⟩,ao⟩:=(ha.keep<|d.mono S_) a Y_;cases V;have R_:=Y<|Mo sep Y_ M;by_cases r:bs[a]=sep
  .have hz:((bs[a].toNat:I)==(sep.toNat:I))=So:=by simp[r]
   have F:Q (C3 bs sep=(done++[(bs.take a).drop q])++am sep ((bs.take<|a+1).drop (a+1)) (bs.drop<|a+1)):=Y (by rw[T.o,R_.o,aU r];simp);have U_:=λb=>y wr b a d X_ M;have l:Q (J done+1<=2000000):=Y<|oN C.o;clear r y;generalize (bs[a].toNat:I)=aa at*;generalize (bs.take a).drop q=f at*;go_wp2_with (at_builtin;refine YC Qh o ?_ (oN l.o))
   intro v1 p i h j x;have u:Q (Sx p (Z w.1) 9 1 v1 (J (done++[f])) (KC<|done++[f])):=Y (by rw[zh,aQ];exact i);have t:=Y (d.alloc O _ |>.grown h SB λv z=>(o.lt v z).1);clear i h j x;go_wp2;exact⟨⟨a+1,a+1,done++[f],O,aA,gM,gM,t,Y (by have:=C.o;simp;omega),F,u⟩,SA⟩
  have hz:((bs[a].toNat:I)==(sep.toNat:I))=Sn:=by rw[iS];intro e;exact r<|UInt8.toNat_inj.1 O
  have F:Q (C3 bs sep=done++am sep ((bs.take<|a+1).drop q) (bs.drop<|a+1)):=Y (by rw[T.o,R_.o,aM r]);clear r y;generalize (bs[a].toNat:I)=aa at*;go_wp2;exact⟨⟨a+1,q,done,O,O,gM,R,d,Y<|oN C.o,F,o⟩,SA⟩
 have af:a=k:=O
 subst af;have HF:Q (C3 bs sep=done++[bs.drop q]):=Y (by
  have e1:bs.drop a=[]:=by rw[IP];have:=s.o;omega
  have e2:bs.take a=bs:=aW<|oN s.o;rw[T.o,e1,e2,am])
 have l:Q (J done+1<=2000000):=Y<|oN C.o;have U_:=λb=>by have:=y wr b a d X_ M;rwa[aW<|oN s.o]at this
 have H_:∀b,c=q->(convert 22 9<|Hm n m (a-q) b).run prog wr=.ok (Sg (K8<|bs.drop q)) wr:=λb T_=>by
  have e1:bs.drop q=[]:=by rw[IP];have:=s.o;omega
  have e2:a-q=J ([]:Wn):=SB
  rw[e1,e2];exact B4 (P:=prog) wr 22 9 5 (A n m) b [] underlying22 underlying5 underlying9 λP V_=>Sz V_ sP
 clear y;generalize bs.drop q=f at*;have fin:∀(v1:Uj)(p:Ub),Sx p (Z w.1) 9 1 v1 (J done+1) (KC done++[Sg (K8 f)])->Sx p (Z w.1) 9 1 v1 (J (C3 bs sep)) (KC<|C3 bs sep):=λv1 p ab=>by rw[HF.o,zh,aQ];exact ab
 have Q_:=Y fin;clear fin;by_cases T_:c=q
 .have ap:=λb=>H_ b T_;clear U_ H_;go_wp2_with (at_builtin;refine YC Qh o ?_ (oN l.o))
  intro v1 p i h j x;have u:=Y<|Q_.o _ _ i;have t:=Y (d.alloc O _ |>.grown h SB λv z=>(o.lt v z).1);clear i h j x;go_wp2;go_ret;exact⟨_,R,t,u⟩
 clear H_;go_wp2_with (at_builtin;refine YC Qh o ?_ (oN l.o))
 intro v1 p i h j x;have u:=Y<|Q_.o _ _ i;have t:=Y (d.alloc O _ |>.grown h SB λv z=>(o.lt v z).1);clear i h j x;go_wp2;go_ret;exact⟨_,R,t,u⟩
theorem Md(w:Ub)(a:Wn):∃c b,J a<=c/\(convert 9 22<|Sg (K8 a)).run prog w=.ok (Hl (Z w.1) (J a) c) b/\Sw (Z w.1) w b/\Z b.1=Z w.1+1/\Yx b (Z w.1) (Z w.1+1) (S ⟨Z w.1,0,U⟩) a:=by
 refine⟨_,_,?_,by have:=run_bytes_of_string (P:=prog) w 9 22 5 (K8 a) underlying9 underlying22 underlying5;rw[i7]at this;exact this,?_,?_,?_⟩;·exact grownCap_ge w _ _ _
 .exact(Xb (Rf).drew _)
 .show Z (w.1.push _)=_;simp
 intro i d;refine⟨_,0,R,⟨aA,iJ⟩,?_⟩;rw[aV,uE _ (Z w.1) i _ _ _<|l9 w.drew _];unfold bytesRow;rw[Array.getElem?_append_left (by simpa [K8]using d)];simp[K8,d]
theorem oK(sep):∀(r a:Wn),J (am sep a r)<=J r+1
 |[],a=>by simp[am]
 |c::r,a=>by
  rw[am];split;·have:=oK sep r [];simp only[bA];omega
  have:=oK sep r<|a++[c];simp only[bA];omega
theorem kh(sep):∀(r a:Wn),∀f∈am sep a r,J f<=J a+J r
 |[],a,f,h=>by simp[am]at h;subst h;simp
 |c::r,a,f,h=>by
  rw[am]at h;split at h
  .rcases cH.1 h with rfl|h;·simp only[bA];omega
   have:=kh sep r [] f h;simp only[bA,bO]at this |-;omega
  have:=kh sep r (a++[c]) f h;simp only[aQ,bA,bO]at this |-;omega
def cB(c:UInt8):Bool:=Jd (33<=c.toNat)&&Jd (c.toNat<=126)
theorem nK{f}:Y3 f=(Jd (0<J f)&&f.all cB):=R
theorem Lz{a}(h:n<J (C3 a 32))(b:Y3 (C3 a 32)[n]=Sn):Bf a=[]:=by unfold Bf;rw[aM];intro ha;have:=dV.1 ha _<|aH h;rw[b]at this;cases this
theorem yG(a:Wn)(hl:J a<=1000000)(w:Ub):
 Sk prog 40 #[Sg (K8 a)] w λl y=>∃z,l=Rt z/\Sw (Z w.1) w y/\Sx y (Z w.1) 9 1 z (J (Bf a)) (KC<|Bf a):=by
 let⟨aj,W1,ap,aq,B,C,P⟩:=Md w a;have K:=Y B;have M:=Y P;have j:=Y C;clear B P C
 go_in
 go_wp2_with (go_at_call 39;refine(zB aj 32 W1 M (Y R) hl ap (oN j.o)).mono ?_;rintro l g⟨v2,rfl,T,n⟩)
 obtain⟨F,c2,rfl,V⟩:=UO n;have o:J (KC<|C3 a 32)=J (C3 a 32):=by simp[KC]
 rw[o];have i:=Y<|K.trans (T.mono<|oN j.o);have u:=i.4;have ab:=Y V;have X_:Q (Sx g (Z w.1) 9 1 (X F (J (C3 a 32)) c2) (J (C3 a 32)) (KC<|C3 a 32)):=Y (by rw[o]at n;exact(by
  obtain⟨L,h0|⟨ao,cc,al,hv,hg,a1⟩⟩:=n;·exact⟨L,.inl h0⟩
  exact⟨L,.inr ⟨ao,cc,al,hv,oN j.o,a1⟩⟩))
 have ac:=Y o;have a4:J (C3 a 32)<=1000001:=by have:=oK 32 a [];unfold C3;omega
 have T_:Q (∀f∈C3 a 32,J f<=1000000):=Y (λf t=>by have:=kh 32 a [] f t;simp only[bO]at this;omega);have V_:Q (∀k (h:k<J (C3 a 32)),Y3 (C3 a 32)[k]=Sn->Bf a=[]):=Y λk h t=>Lz h t;have ad:Q ((C3 a 32).all Y3=So->Bf a=C3 a 32):=Y (λh=>by unfold Bf;rw[aU h]);have s:Q (∀W,Sw (Z w.1) w W->Bf a=[]->Sx (D W<|Sc #[] 9) (Z w.1) 9 1 (Hl (Z W.1) 0 0) (J (Bf a)) (KC<|Bf a)):=Y (λW hW h=>by rw[h];have:=eI (base:=Z w.1) (e:=9) (size:=1) W #[] 0 hW.4 sP R;simpa [KC]using this)
 clear V n T o aq K M j;generalize C3 a 32=c at*;go_wp2
 go_loopw [4] (λv wr=>∃k:N,k<=J c/\v=H k/\Q (Sw (Z g.1) g wr)/\Q ((c.take k).all Y3=So)) λv _=>J c-(JB v).toNat
 .exact⟨0,aN,R,Y<|Rf,Y R⟩
 obtain⟨k,hk,rfl,b,y_⟩:=hrel;have O_:=b.4;have d:=Y<|i.trans (b.mono u);by_cases m:k<J c
 .obtain⟨af,a0,rfl,⟨_,I_⟩,J_⟩:=ab k (by rw[ac.o];exact m);have B_:Q (E g (A af<|a0+k)=S (Sg (K8 c[k]))):=Y (G J_<|by simp[KC]);have K_:=oB b B_ I_;have D_:=Y<|V_.o k m;have U_:=Y<|T_.o c[k] (aH m);have aa:Q ((c.take<|k+1).all Y3=((c.take k).all Y3&&Y3 c[k])):=Y (by rw[bN m,sS];simp);clear J_;generalize c[k]=f at*;have a6:=i7 f;by_cases ar:J f=0
  .have e:=Y (D_.o<|by rw[nK,ar];rfl);go_wp2;go_ret;exact⟨_,R,Xb d _,s _ d e⟩
  have az:0<J f:=O;have a3:=U_.o;go_wp2;generalize wr=wo at*
  go_loopw [5] (λx wi=>∃q:N,q<=J f/\x=H q/\Q (Sw (Z g.1) g wi)/\Q ((f.take q).all cB=So)) λx _=>J f-(JB x).toNat
  .exact⟨0,aN,R,b,Y R⟩
  clear K_ b d O_;obtain⟨q,hq,rfl,b,z_⟩:=hrel;have O_:=b.4;have d:=Y<|i.trans (b.mono u);have K_:=oB b B_ I_;by_cases M_:q<J f
  .have a5:q<(K8 f).size:=O
   have Z_:Q ((f.take<|q+1).all cB=((f.take q).all cB&&cB (K8 f)[q])):=Y (by rw[bN M_,sS];simp[zJ]);have r:Q (cB (K8 f)[q]=So↔¬(((K8 f)[q]).toNat:I)<33/\¬(126:I)<(((K8 f)[q]).toNat:I)):=Y (by simp only[cB,bY,bD];omega);have C_:Q (cB (K8 f)[q]=Sn->Bf a=[]):=Y (λh=>D_ (by
    rw[nK,jD];exact aZ (by rw[lZ];exact⟨f[q],aH M_,by have l:cB f[q]=Sn:=h;rw[l];simp⟩)))
   by_cases c1:(((K8 f)[q]).toNat:I)<33
   .have e:=Y (C_.o (by cases h:cB (K8 f)[q]with|false=>rfl|true=>exact Sz c1 (r.1 h).1));go_wp2;go_ret;exact⟨_,R,Xb d _,s _ d e⟩
   by_cases c3:(126:I)<(((K8 f)[q]).toNat:I)
   .have e:=Y (C_.o (by cases h:cB (K8 f)[q]with|false=>rfl|true=>exact Sz c3 (r.1 h).2));go_wp2;go_ret;exact⟨_,R,Xb d _,s _ d e⟩
   have p:Q ((f.take<|q+1).all cB=So):=Y (by rw[Z_.o,z_.o,r.2 ⟨c1,c3⟩];rfl);go_wp2;exact⟨⟨q+1,O,gM,b,p⟩,SA⟩
  have p:Q ((c.take<|k+1).all Y3=So):=Y (by rw[aa.o,y_.o,nK,eB az];have:=z_.o;rw[aW O]at this;rw[this];rfl)
  go_wp2;exact⟨⟨k+1,O,gM,b,p⟩,SA⟩
 have e:=Y (ad.o (by have:=y_.o;rwa[aW O]at this));have Y_:Q (Sx wr (Z w.1) 9 1 (X F (J c) c2) (J (Bf a)) (KC<|Bf a)):=Y (by rw[e.o];exact rk X_ b);have d:=Y<|i.trans (b.mono u);go_wp2;go_ret;exact⟨_,R,d,Y_⟩
def ju(w:List UInt8):N->N->I
 |0,_=>0
 |n+1,k=>if bz k=w then k else ju w n (k+1)
def D2(w:Wn):I:=ju w 10 1
theorem T4(f):(K8 f).toList=f:=by rw[ByteArray.toList_eq];rfl
theorem yJ{w:Wn}:ju w (n+1) m=if bz m=w then (m:I)else ju w n (m+1):=R
theorem yZ(f)(w:Ub):
 Sk prog 84 #[Sg (K8 f)] w λe n=>e=Rt (H<|D2 f)/\Sw (Z w.1) w n:=by
 have t:=T4 f
 go_in
 go_wp2
 go_loopw [3] (λi wr=>∃k:N,1<=k/\k<=11/\i=H k/\Q (Sw (Z w.1) w wr)/\Q (D2 f=ju f (11-k) k)) λi _=>11-(JB i).toNat
 .exact⟨1,O,O,R,Y<|Rf,Y R⟩
 obtain⟨k,o,p,rfl,d,h⟩:=hrel;by_cases s:k<=10
 .have u:=T4<|bz k
  have j:Q (D2 f=if bz k=f then (k:I)else ju f (11-(k+1)) (k+1)):=Y (by rw[h.o,show 11-k=(11-(k+1))+1 by omega,yJ])
  have l:=Y<|Lb (k:I) ⟨O,O⟩ wr;by_cases c:bz k=f
  .have a:Q (D2 f=(k:I)):=Y (by rw[j.o,aU c]);go_wp2_with (go_at_call 152;refine YU l λg b=>?_;rw[b];clear b g)
   go_ret;exact⟨f9 a.symm,d⟩
  have a:Q (D2 f=ju f (11-(k+1)) (k+1)):=Y (by rw[j.o,aM c]);have q:(bz k==f)=Sn:=by rw[iS];exact c
  have r:(k:I)<=10:=O;go_wp2_with (go_at_call 152;refine YU l λg b=>?_;rw[b];clear b g)
  go_wp2;exact⟨⟨k+1,O,O,gM,d,a⟩,SA⟩
 have m:k=11:=O;subst m;have a:Q (D2 f=0):=Y (by rw[h.o];rfl);go_wp2;go_ret;exact⟨f9 a.symm,d⟩
def jx(f:Wn):Bool:=f==[106,117,109,112]||f==[98,114,97,110,99,104]||f==[114,101,116]
theorem yO{f}:
 Sk prog 43 #[Sg (K8 f)] w λe b=>e=Rt (Sb (jx f))/\Sw (Z w.1) w b:=by
 have c:=T4 f;have a:Q (jx f=(f==[106,117,109,112]||f==[98,114,97,110,99,104]||f==[114,101,116])):=Y R
 go_in
 go_wp2
 all_goals
  go_ret;refine⟨Xl<|Eq.trans ?_ a.symm,Rf⟩
  first|rfl|simp[*]
def eh:Wn:=[98,108,111,99,107]
def fg:Wn:=[106,117,109,112]
def ew:Wn:=[114,101,116]
def Vn:Wn:=[98,114,97,110,99,104]
def fm:Wn:=[112,104,105]
def fw:Wn:=[99,111,110,115,116]
def NJ(w:Wn)(n:N):N :=
 if D2 w≠0 then 1+(Kz<|D2 w).size else if w=eh then 1 else if w=fg then 2 else if w=ew then 2 else if w=Vn then 4 else if w=fm then (if n<3 then 3 else n)else 0
def jw(a:Vw)(i:N)(f:Wn):Bool:=if a.head?=S fw/\i=2 then NM f else Jd (0<=Gb f)
def gu(a:Vw)(k:N):Bool:=(Rg k).all λi=>match a[i+1]? with|some f=>jw a (i+1) f|none=>So
def C0(a:Vw):I :=
 if NJ (a.headD []) (J a)=0 then 5 else if J a≠NJ (a.headD []) (J a) then 6 else if gu a (J a-1)=So then 0 else 7
theorem oH(w:Wn):∀(n k:N),ju w n k=0\/∃j:N,k<=j/\j<k+n/\ju w n k=j/\bz j=w
 |0,k=>bC R
 |n+1,k=>by
  rw[yJ];split;·rename_i h;exact aZ ⟨k,aA,O,R,h⟩
  obtain h|⟨j,c,d,a,b⟩:=oH w n (k+1);·exact bC h
  exact aZ ⟨j,O,O,a,b⟩
theorem oL{w}(h:D2 w≠0):(1<=D2 w/\D2 w<=10)/\w≠eh/\w≠fg/\w≠ew/\w≠Vn/\w≠fm:=by
 obtain a|⟨j,d,f,b,rfl⟩:=oH w 10 1;·exact Sz a h
 have e:D2 (bz j)=j:=b;refine⟨by rw[e];omega,?_⟩;have c:j=1\/j=2\/j=3\/j=4\/j=5\/j=6\/j=7\/j=8\/j=9\/j=10:=O;obtain rfl|rfl|rfl|rfl|rfl|rfl|rfl|rfl|rfl|rfl:=c<;>decide
theorem LW{a:Vw}(b:1<=n)(h:n<J a):gu a n=(gu a (n-1)&&jw a n a[n]):=by obtain⟨j,rfl⟩:∃j,n=j+1:=⟨n-1,O⟩;unfold gu;rw[dN,sS,vr];simp[aC h]
theorem MK{a:Vw}(c:1<=n)(h:n<J a)(b:jw a n a[n]=Sn):gu a (J a-1)=Sn:=by unfold gu;rw[lZ];refine⟨n-1,by rw[bE];omega,?_⟩;rw[show n-1+1=n by omega,aC h];simp[b]
theorem Ml(F):∃t:N,t<7/\(D2 F != 0)=(t==0)/\(F==[98,108,111,99,107])=(t==1)/\(F==[106,117,109,112])=(t==2)/\(F==[114,101,116])=(t==3)/\(F==[98,114,97,110,99,104])=(t==4)/\(F==[112,104,105])=(t==5) /\
 ∀n,NJ F n=if t=0 then 1+(Kz<|D2 F).size else if t=1 then 1 else if t=2 then 2 else if t=3 then 2 else if t=4 then 4 else if t=5 then (if n<3 then 3 else n)else 0:=by
 by_cases a:D2 F=0
 .by_cases b:F=eh;·subst b;exact⟨1,vY,R,R,R,R,R,R,λn=>R⟩
  by_cases c:F=fg;·subst c;exact⟨2,vY,R,R,R,R,R,R,λn=>R⟩
  by_cases d:F=ew;·subst d;exact⟨3,vY,R,R,R,R,R,R,λn=>R⟩
  by_cases e:F=Vn;·subst e;exact⟨4,vY,R,R,R,R,R,R,λn=>R⟩
  by_cases f:F=fm;·subst f;exact⟨5,vY,R,R,R,R,R,R,λn=>R⟩
  exact⟨6,vY,by rw[a];rfl,iS.2 b,iS.2 c,iS.2 d,iS.2 e,iS.2 f,λn=>by unfold NJ;rw[aM λh=>h a,aM b,aM c,aM d,aM e,aM f];rfl⟩
 let⟨_,b,c,d,e,f⟩:=oL a;exact⟨0,vY,jJ.2 a,iS.2 b,iS.2 c,iS.2 d,iS.2 e,iS.2 f,λn=>aU a⟩
theorem IQ{a}(c_)(ha:Q (Zx w n m p<|KC a))(c:0<J a)(hn:J a<=1000001)(hB:m<=Z w.1)(al:Q (∀aj∈a,J aj<=1000000)):
 Sk prog 42 #[X p (J a) c_] w λe_ w'=>e_=Rt (H<|C0 a)/\Sw (Z w.1) w w':=by
 have K:Q (∀i,i<J a->i<J (KC a)):=Y (λi h=>by simpa [KC]using h);obtain⟨T,V,rfl,⟨a0,ar⟩,C⟩:=ha 0<|K 0 c;have C:Cl w T V (Sg (K8 a[0])):=G C (by simp[KC]);have s:Q (a.headD []=a[0]/\a.head?=S a[0]):=Y (by cases a with|nil=>simp at c|cons a6 a5=>exact⟨R,R⟩);generalize a[0]=F at*;have L:=λw=>Y<|yZ F w;have a2:=T4 F;let⟨t,ht,P,e1,e2,e3,e4,e5,b⟩:=Ml F;have a3:=q7<|D2 F;have M:=λw=>Y<|qX (D2 F) w;have g:Q (C0 a=if NJ F (J a)=0 then 5 else if J a≠NJ F (J a) then 6 else if gu a (J a-1)=So then 0 else 7):=Y (by unfold C0;rw[s.1]);have b:=b (J a);generalize NJ F (J a)=W at*;generalize D2 F=op at*;generalize Kz op=af at*;have a4:(1+(af.size:I)==0)=Sn:=by rw[iS];omega
 have Q_:t=0\/t=1\/t=2\/t=3\/t=4\/t=5/\J a<3\/t=5/\3<=J a\/t=6:=O;by_cases d:J a=W;rotate_left
 .have E_:Q (C0 a=if W=0 then 5 else 6):=Y (by rw[g.o,aU d]);have y:((J a:I) != (W:I))=So:=by rw[jJ];omega
  obtain rfl|rfl|rfl|rfl|rfl|⟨rfl,o⟩|⟨rfl,o⟩|rfl:=Q_
  all_goals
   simp only[Nat.reduceBEq,Nat.reduceEqDiff,reduceIte]at P e1 e2 e3 e4 e5 b
   (try rw[aU o]at b)
   (try rw[aM O]at b)
  all_goals (try (exfalso;omega))
  all_goals
   clear d;subst b
   (try simp only[kB,IV]at y)
   (try have aq:¬(J a:I)<3:=O)
   (try rw[aM O]at E_)
   go_in
   go_wp2_with (first|(go_at_call 84;refine YU (L _) λw1 v=>?_)|(go_at_call 85;refine YU (M _) λq l=>?_;rw[l];clear l q))
   go_ret;exact⟨f9 E_.symm,v⟩
 have X_:Q (gu a (J a-1)=Sn->C0 a=7):=Y (λh=>by rw[g.o,aM O,aM λe=>e d,h];rfl);have V_:Q (gu a (J a-1)=So->C0 a=0):=Y (λh=>by rw[g.o,aM O,aM λe=>e d,h];rfl);have y:((J a:I) != (W:I))=Sn:=by rw[bne_eq_false_iff_eq];omega
 have h6:((W:I)==0)=Sn:=by rw[iS];omega
 have aa:=Y d;have I_:Q ((F==[99,111,110,115,116])=So/\a.head?=S fw\/(F==[99,111,110,115,116])=Sn/\¬a.head?=S fw):=Y (by
  rw[s.2];by_cases x:F=fw;·exact bC ⟨iA.2 x,by rw[x]⟩
  exact aZ ⟨iS.2 x,λh=>x<|gQ h⟩)
 clear d;obtain rfl|rfl|rfl|rfl|rfl|⟨rfl,o⟩|⟨rfl,o⟩|rfl:=Q_
 all_goals
  simp only[Nat.reduceBEq,Nat.reduceEqDiff,reduceIte]at P e1 e2 e3 e4 e5 b
  (try rw[aU o]at b)
  (try rw[aM O]at b)
 all_goals (try (exfalso;have:=aa.o;omega))
 all_goals
  subst b
  (try simp only[kB,IV]at y h6)
  (try have aq:¬(J a:I)<3:=O)
  obtain⟨fc,hcn⟩|⟨fc,hcn⟩:=I_.o
 all_goals
  have Z_:=Y hcn;clear hcn ht
  go_in
  go_wp2_with (first|(go_at_call 84;refine YU (L _) λw1 v=>?_)|(go_at_call 85;refine YU (M _) λq l=>?_;rw[l];clear l q))
  have Y_:=Y v;clear v C y;go_wp2
  go_loopw [6] (λi wr=>∃k:N,1<=k/\k<=J a/\i=H k/\Q (Sw (Z w.1) w wr)/\Q (gu a (k-1)=So)) λi _=>J a-(JB i).toNat
  .exact⟨1,aA,c,R,Y_,Y R⟩
  obtain⟨k,S_,hk,rfl,r,G_⟩:=hrel;have ap:=r.4;by_cases z:k<J a
  .let⟨b',o',e',⟨_,az⟩,R_⟩:=ha k<|K k z;cases e';have a1:Cl wr T (V+k) (Sg (K8 a[k])):=G (G (XU r O) R_) (by simp[KC]);have ad:=Y<|LW S_ z;have ab:=Y<|MK S_ z;have J_:=Y<|al.o a[k] (aH z);have f:jw a k a[k]=if a.head?=S fw/\k=2 then NM a[k]else Jd (0<=Gb a[k]):=R
   have T_:((k:I)==2)=Jd (k=2):=by by_cases h:k=2;simp[h];rw[dJ h,iS];omega
   clear R_;generalize a[k]=j at*;cases hok:jw a k j
   all_goals
    rw[hok]at f;have K_:=Y hok;clear hok;by_cases u:k=2
   all_goals
    (first|rw[eB u]at T_|rw[dJ u]at T_)
    simp only[Z_.o,u,and_self,and_true,and_false,gG,fD]at f
    (try have ao:Gb j<0:=by have:=of_decide_eq_false f.symm;omega)
    (try have ao:¬Gb j<0:=by have:=fV f.symm;omega)
    have ac:=Y f;clear u f;go_wp2_with (first|(go_at_call 41;refine YU (j9 j _) λq B=>?_)|(go_at_call 86;refine YU (IG j J_ J_ _) λq B=>?_;rw[<-ac.o]))
    have H_:=Y<|r.trans (B.mono ap);clear B
    first
     |(go_ret;exact⟨f9 (X_<|ab K_).symm,H_⟩)
     |(go_wp2;exact⟨⟨k+1,O,O,gM,H_,Y<|by rw[vr,ad.o,G_.o,K_.o];rfl⟩,SA⟩)
  have HV:=Y (V_.o (by have:=G_.o;rwa[show k-1=J a-1 by omega]at this));go_wp2;go_ret;exact⟨f9 HV.symm,r⟩
section
variable{w w' w1 w2:Ub}{B gv gh:N}
theorem Kb.refl(B gv gh:N)(w:Ub):Kb B gv gh w w:=⟨R,R,R,aA,λ_ _ _ _=>R⟩
theorem Kb.mono{B':N}(h:Kb B gv gh w w1)(d:B'<=B):Kb B' gv gh w w1:=⟨h.1,h.2,h.3,h.4,λi a b c=>h.5 i O b c⟩
theorem Kb.set(h:Kb B gv gh w w1){b o:N}(d:b=gv\/b=gh)(v:Uj):Kb B gv gh w (Se w1 ⟨b,o,U⟩ v) :=
 h.trans ⟨R,R,R,SH,λk _ a c=>cY<|by dsimp only;omega⟩
structure VaA(w:Ub)(B gv gh:N)(t:N)(tv:Uj)(vals hp tr:Wc):Prop where
 vals:VaC w gv vals
 heap:VaC w gh hp
 own:Sx w B t 1 tv (J tr) (tr.map<|Si S6)
 ne:gv≠gh
 tvals:tv.ownBlock≠S gv
 theap:tv.ownBlock≠S gh
variable{t:N}{tv:Uj}{vals hp tr:Wc}
theorem Vay{x:Uj}{n:N}{c:Wo}(h:Sx w B t 1 x n c)(k:∀b,x.ownBlock=S b->w1.1[b]?=w.1[b]?):Sx w1 B t 1 x n c:=by
 obtain⟨a,h|⟨g,d,e,rfl,i,j,f⟩⟩:=h;·exact⟨a,bC h⟩
 exact⟨a,aZ ⟨g,d,e,R,i,G (k g R) j,f⟩⟩
theorem VaA.keep(h:VaA w B gv gh t tv vals hp tr)(k:∀b,b<Z w.1->w1.1[b]?=w.1[b]?):VaA w1 B gv gh t tv vals hp tr :=
 ⟨h.1.keep<|k _ h.1.lt,h.2.keep<|k _ h.2.lt,Vay h.3 λb e=>k b (h.3.lt b e).2,h.4,h.5,h.6⟩
theorem VaA.setV(h:VaA w B gv gh t tv vals hp tr){i:N}(a:i<J vals)(v:I):VaA (Se w ⟨gv,i,U⟩ (Si S6 v)) B gv gh t tv (vals.set i v) hp tr :=
 ⟨h.1.set a v,h.2.keep (cY λe=>h.4 e.symm),Vay h.3 λb e=>cY λe2=>h.5 (by rw[e,e2]),h.4,h.5,h.6⟩
theorem VaA.setH(h:VaA w B gv gh t tv vals hp tr){i:N}(a:i<J hp)(v:I):VaA (Se w ⟨gh,i,U⟩ (Si S6 v)) B gv gh t tv vals (hp.set i v) tr :=
 ⟨h.1.keep<|cY h.4,h.2.set a v,Vay h.3 λb e=>cY λe2=>h.6 (by rw[e,e2]),h.4,h.5,h.6⟩
theorem VaA.drew(h:VaA w B gv gh t tv vals hp tr):VaA w.drew B gv gh t tv vals hp tr:=h.keep λ_ _=>R
structure Val(w:Ub)(r B gv gh t:N)(tv:Uj)(vals hp tr:Wc)(W:Ub):Prop where
 kb:Kb B gv gh w W
 mem:VaA W B gv gh t tv vals hp tr
 rv:r≠gv
 rh:r≠gh
 rt:tv.ownBlock≠S r
 rB:B<=r
variable{r:N}{W:Ub}
theorem Val.drew(h:Val w r B gv gh t tv vals hp tr W):Val w r B gv gh t tv vals hp tr W.drew:=⟨h.1.drew,h.2.drew,h.3,h.4,h.5,h.6⟩
theorem Val.o(h:Val w r B gv gh t tv vals hp tr W)(i:N)(v:Uj):Val w r B gv gh t tv vals hp tr (Se W ⟨r,i,U⟩ v) :=
 ⟨h.1.trans ⟨R,R,R,SH,λk a _ _=>cY (by have:=h.6;dsimp only;omega)⟩,
  ⟨h.2.1.keep (cY λe=>h.3 e.symm),h.2.2.keep (cY λe=>h.4 e.symm),Vay h.2.3 λb e=>cY λe2=>h.5 (by rw[e,e2]),h.2.4,h.2.5,h.2.6⟩,h.3,h.4,h.5,h.6⟩
theorem Val.setV(h:Val w r B gv gh t tv vals hp tr W){i:N}(a:i<J vals)(v:I):Val w r B gv gh t tv (vals.set i v) hp tr (Se W ⟨gv,i,U⟩ (Si S6 v)) :=
 ⟨h.1.set (bC R) _,h.2.setV a v,h.3,h.4,h.5,h.6⟩
theorem Val.setH(h:Val w r B gv gh t tv vals hp tr W){i:N}(a:i<J hp)(v:I):Val w r B gv gh t tv vals (hp.set i v) tr (Se W ⟨gh,i,U⟩ (Si S6 v)) :=
 ⟨h.1.set (aZ R) _,h.2.setH a v,h.3,h.4,h.5,h.6⟩
theorem Val.out5(h:Val w r B gv gh t tv vals hp tr W)(a v1 v2 v3 v4:Uj):Val w r B gv gh t tv vals hp tr (Se (Se (Se (Se (Se W ⟨r,0,U⟩ a) ⟨r,1,U⟩ v1) ⟨r,2,U⟩ v2) ⟨r,3,U⟩ v3) ⟨r,4,U⟩ v4) :=
 ((((h.o _ _).o _ _).o _ _).o _ _).o _ _
theorem Val.of(h:VaA w B gv gh t tv vals hp tr)(a:B<=Z w.1)(k:Sw (Z w.1) w W)(b:Z w.1<=r):Val w r B gv gh t tv vals hp tr W :=
 ⟨Kb.of_below<|k.mono a,h.keep k.5,by have:=h.1.lt;omega,by have:=h.2.lt;omega,λe=>by have:=(h.3.lt _ e).2;omega,O⟩
theorem Val.push(h:Val w r B gv gh t tv vals hp tr W){g b:N}{x:I}{n:N}(i:n=J (tr++[x]))(j:Sx w1 B t 1 (Hl g n b) n (tr.map (Si S6)++[H x]))(a:W.grownBy w1 tv.ownBlock)(c:tv.ownBlock=S g\/Z W.1<=g)(o:r<Z W.1):
 Val w r B gv gh t (Hl g n b) vals hp (tr++[x]) w1:=by
 subst i;have l:=h.2.1.lt;have d:=h.2.2.lt;refine⟨h.1.trans ⟨a.1,a.2,a.3,a.4,λk m _ _=>?_⟩,⟨h.2.1.keep (a.5 _ l λe=>h.2.5 e.symm),h.2.2.keep (a.5 _ d λe=>h.2.6 e.symm),by rw[bG];exact j,h.2.4,?_,?_⟩,h.3,h.4,?_,h.6⟩
 .by_cases f:k<Z W.1;·exact a.5 k f λe=>by have:=(h.2.3.lt k e.symm).1;omega
  have:=h.6;omega
 .rcases c with e|e;·rw[show(Hl g (J (tr++[x])) b).ownBlock=S g from R,<-e];exact h.2.5
  intro e2;injection e2 with e3;dsimp only at e3;omega
 .rcases c with e|e;·rw[show(Hl g (J (tr++[x])) b).ownBlock=S g from R,<-e];exact h.2.6
  intro e2;injection e2 with e3;dsimp only at e3;omega
 obtain e|e:=c;·rw[show(Hl g (J (tr++[x])) b).ownBlock=S g from R,<-e];exact h.5
 intro e2;injection e2 with e3;dsimp only at e3;omega
def VaH(x:Yg)(args vals hp:Wc):Wc :=
 if x.1=1 then VaF vals x.2 x.5 else if x.1=2 then VaF vals x.2 (Vbq args x.5)else if x.1=8 then VaF vals x.2 (Vc4 hp<|Vc4 vals x.a%32)
 else if x.1=9 then vals else if x.1=10 then vals else VaF vals x.2 (VcZ x.1 (Vc4 vals x.a) (Vc4 vals x.b))
def VaI(x:Yg)(vals hp:Wc):Wc:=if x.1=9 then VaF hp (Vc4 vals x.a%32) (Vc4 vals x.b)else hp
def VaT(x:Yg)(vals tr:Wc):Wc:=if x.1=10 then tr++[Vc4 vals x.a]else tr
theorem Vbk{x:Yg}{args vals hp:Wc}:J (VaH x args vals hp)=J vals:=by
 unfold VaH
 repeat' split
 all_goals simp[Vbp]
theorem Vbb{x:Yg}{vals hp:Wc}:J (VaI x vals hp)=J hp:=by
 unfold VaI;split
 all_goals simp[Vbp]
theorem Vbd(x:Yg)(vals tr:Wc):J (VaT x vals tr)<=J tr+1:=by
 unfold VaT;split
 all_goals simp
theorem VaU{n:I}{x:Yg}(h:Yw n 10 x=So):(1<=x.1/\x.1<=10)/\(dB x.1=So->0<=x.2/\x.2<n)/\(aB x.1=So->0<=x.a/\x.a<n)/\(bB x.1=So->0<=x.b/\x.b<n)/\(x.1=2->0<=x.5/\x.5<8):=by simp only[Yw,bY,bD]at h;obtain⟨⟨⟨⟨⟨a,b⟩,c⟩,d⟩,f⟩,g⟩:=h;refine⟨⟨a,b⟩,Hz c,Hz d,Hz f,λe=>?_⟩;simpa [Wu,e]using g
end
theorem Vds(x:I):(0<=x/\x.tmod 32=x%32)\/(x<0/\x.tmod 32=-((-x)%32)):=by
 by_cases h:0<=x;·exact bC ⟨h,eW h⟩
 refine aZ ⟨O,?_⟩;have a:=Int.neg_tmod (-x) 32;rw[Int.neg_neg]at a;rw[a,eW O]
theorem VbA:
 Sk prog 59 #[H t] w λe c=>e=Rt (H (t%32))/\c=w:=by
 have a:=Vds t;have d:-32<t.tmod 32/\t.tmod 32<32:=O;have b:=Y a;clear a
 go_in
 go_wp2
 all_goals
  go_ret;exact⟨f9 (by have:=b.o;omega),R⟩
theorem Va8:
 Sk prog 150 #[H t] w λe c=>e=Rt (H (t%32))/\c=w:=by
 have a:=Vds t;have d:-32<t.tmod 32/\t.tmod 32<32:=O;have b:=Y a;clear a
 go_in
 go_wp2
 all_goals
  go_ret;exact⟨f9 (by have:=b.o;omega),R⟩
theorem VbR(a:I)(w:Ub)(d:3<=t)(j:t<=7)(b:t=6->T≠0):
 Sk prog 60 #[H t,H a,H T] w λe g=>e=Rt (H (VcZ t a T))/\g=w:=by
 have f:t=3\/t=4\/t=5\/t=6\/t=7:=O;obtain rfl|rfl|rfl|rfl|rfl:=f
 .go_in
  go_wp2;go_ret;exact⟨R,R⟩
 .go_in
  go_wp2;go_ret;exact⟨R,R⟩
 .go_in
  go_wp2;go_ret;exact⟨R,R⟩
 .by_cases c:T=-1
  .subst c;clear b
   go_in
   go_wp2;go_ret;exact⟨f9 (by show wrap64 (-a)=wrap64 (a.tdiv (-1));rw[Int.tdiv_neg,Int.tdiv_one]),R⟩
  have i:(T == -1)=Sn:=by simp[c]
  have d:T≠0:=b R;clear b c
  go_in
  go_wp2;go_ret;exact⟨R,R⟩
 clear b;by_cases h:a<T
 all_goals
  go_in
  go_wp2;go_ret;exact⟨f9 (by simp[VcZ,h]),R⟩
theorem VbB(a c b:I)(w:Ub)(f:3<=a)(j:a<=7)(d:a=6->b≠0):
 Sk prog 149 #[H a,H c,H b] w λe i=>e=Rt (H (VcZ a c b))/\i=w:=by
 have g:a=3\/a=4\/a=5\/a=6\/a=7:=O;obtain rfl|rfl|rfl|rfl|rfl:=g
 .go_in
  go_wp2;go_ret;exact⟨R,R⟩
 .go_in
  go_wp2;go_ret;exact⟨R,R⟩
 .go_in
  go_wp2;go_ret;exact⟨R,R⟩
 .have f:b≠0:=d R;clear d
  go_in
  go_wp2;go_ret;exact⟨R,R⟩
 clear d;by_cases h:c<b
 all_goals
  go_in
  go_wp2;go_ret;exact⟨f9 (by simp[VcZ,h]),R⟩
theorem VbQ(ha:Q (Xf w m k p l))(d:Q (n=J l))(f:0<=t)(i:t<=1000):
 Sk prog 58 #[X p n c,H t] w λe g=>e=Rt (H (Vbq l t))/\g=w:=by
 obtain⟨b,rfl⟩:=bX f;by_cases q:b<n
 .have a:b<J l:=by have:=d.o;omega
  obtain⟨h,o,rfl,_,j⟩:=ha.o b a
  go_in
  go_wp2;go_ret;exact⟨f9 (by simp[Vbq,a]),R⟩
 have a:J l<=b:=by have:=d.o;omega
 go_in
 go_wp2;go_ret;exact⟨f9 (by simp[Vbq,dK a]),R⟩
theorem Vbr:
 Sk prog 25 #[X p n m,X P k B,H t] w λe a=>e=Rt (Sb (!VaX n k t))/\a=w:=by
 go_in
 go_wp2
 all_goals
  go_ret;refine⟨Xl ?_,R⟩;rw[eQ];simp[VaX];omega
theorem Va9:
 Sk prog 34 #[X p n m,X P k B,H t] w λe a=>e=Rt (Sb (VaX n k t))/\a=w:=by
 go_in
 go_wp2
 all_goals
  go_ret;refine⟨Xl ?_,R⟩;rw[eQ];simp[VaX];omega
def Vdi(args:Wc)(x:Yg):Uj :=
 if x.1=1 then .iface 253 (Sa #[H x.2,H x.5])else if x.1=2 then .iface 253 (Sa #[H x.2,H (Vbq args x.5)])
 else if x.1=8\/x.1=9 then .iface 256 (Sa #[H x.1,H x.2,H x.a,H x.b])else if x.1=10 then .iface 259 (Sa #[H x.a])
 else .iface 255 (Sa #[H x.1,H x.2,H x.a,H x.b])
theorem VbL(r:E w (A n 0)=S (X p m c))(ha:Q (Xf w k B p l))(e:Q (m=J l))(g:0<=t)(j:t<=1000):
 Sk prog 188 #[Hn n,H t] w λf h=>f=Rt (H (Vbq l t))/\h=w:=by
 obtain⟨a,rfl⟩:=bX g;by_cases u:a<m
 .have b:a<J l:=by have:=e.o;omega
  obtain⟨i,o,rfl,⟨_,q⟩,s⟩:=ha.o a b;have d:Vbq l a=l[a]:=by simp[Vbq,b]
  generalize l[a]=v at*
  go_in
  go_wp2;go_ret;exact⟨f9 d.symm,R⟩
 have b:J l<=a:=by have:=e.o;omega
 have d:Vbq l a=0:=by simp[Vbq,dK b]
 go_in
 go_wp2;go_ret;exact⟨f9 d.symm,R⟩
theorem VaN(h:a=A_):Rt a=Rt A_:=by rw[h]
theorem VbV{x:Yg}{args:Wc}(w:Ub)(s:E w (A n 0)=S (X p m c))(v:n<Z w.1)(ha:Q (Xf w k B p args))(y:Q (m=J args))(r:B<=Z w.1)(i:Yw t 10 x=So):
 Sk prog 148 #[Hn n,Sa #[H x.1,H x.2,H x.a,H x.b,H x.5]] w λh A_=>h=Rt (Vdi args x)/\Sw (Z w.1) w A_:=by
 obtain⟨⟨F,K⟩,_,_,_,q⟩:=VaU i;clear i;have j:=λo=>Y<|ha.keep ((Xb (dC (Z w.1) w) o).drew.mono r);have l:=λo=>G ((Xb (dC (Z w.1) w) o).drew.cell (p:=A n 0) v) s;obtain⟨a,b,f,g,e⟩:=x;dsimp only at*;have u:a=1\/a=2\/a=8\/a=9\/a=10\/(3<=a/\a<=7):=O;obtain rfl|rfl|rfl|rfl|rfl|⟨L,M⟩:=u
 .go_in
  go_wp2;go_ret;exact⟨VaN (by simp[Vdi]),Xb Rf _⟩
 .obtain⟨z,C⟩:=q R;have d:Q (Vdi args ⟨2,b,f,g,e⟩=.iface 253 (Sa #[H b,H (Vbq args e)])):=Y<|by simp[Vdi]
  go_in
  go_wp2
  go_region_with (go_at_call 188;refine YU (VbL (l _) (j _) y z O) ?_;rintro P rfl)
  all_goals
   go_wp2;go_ret;exact⟨VaN d.symm,(Xb Rf _).drew⟩
 .go_in
  go_wp2;go_ret;exact⟨VaN (by simp[Vdi]),Xb Rf _⟩
 .go_in
  go_wp2;go_ret;exact⟨VaN (by simp[Vdi]),Xb Rf _⟩
 .go_in
  go_wp2;go_ret;exact⟨VaN (by simp[Vdi]),Xb Rf _⟩
 have e1:(a==1)=Sn:=SB
 have e2:(a==2)=Sn:=SB
 have e3:(a==8)=Sn:=SB
 have e4:(a==9)=Sn:=SB
 have e5:(a==10)=Sn:=SB
 have d:Q (Vdi args ⟨a,b,f,g,e⟩=.iface 255 (Sa #[H a,H b,H f,H g])):=Y (by unfold Vdi;rw[aM SG,aM SG,aM SG,aM<|by dsimp only;omega])
 go_in
 go_wp2;go_ret;exact⟨VaN d.symm,Xb Rf _⟩
theorem VbE{value:I}{ha:Uy}(w:Ub)(c:E w (A n 1)=S (X ha B g))(d:E w (A n 2)=S (X p m k))(f:E w (A n 4)=S (H T))(h:E w (A n 5)=S (H value))(b:n<Z w.1):
 Sk prog 81 #[Hn n,H t] w λe a=>e=Rt (Sa #[H t,H value,H T,X p m k,X ha B g])/\Sw (Z w.1) w a:=by
 have i:=λo=>G ((Xb (dC (Z w.1) w) o).cell (p:=A n 1) b) c;have j:=λo=>G ((Xb (dC (Z w.1) w) o).cell (p:=A n 2) b) d;have l:=λo=>G ((Xb (dC (Z w.1) w) o).cell (p:=A n 4) b) f;have q:=λo=>G ((Xb (dC (Z w.1) w) o).cell (p:=A n 5) b) h
 go_in
 go_wp2
 go_region_held3 (λa=>E a (A n 1)=S (X ha B g)/\E a (A n 2)=S (X p m k)/\E a (A n 4)=S (H T)/\E a (A n 5)=S (H value)) (go_keep) (fail)
 go_wp2;exact YL (v:=Sa #[H t,H value,H T,X p m k,X ha B g]) ⟨R,(Xb Rf _).drew⟩
theorem GZ(ha:Q (Xf w m k p l))(j:Q (n=J l))(x:n<=1048576)(h:Q (t∈l)):
 Sk prog 205 #[X p n c,H t] w λe o=>e=Rt (H<|de l t)/\o=w:=by
 have g:=pC h;have d:=yq g;generalize r:de l t=z at*
 go_in
 go_wp2
 go_loopw [8] (λi wr=>∃a:N,a<=z/\i=H a/\wr=w) λi _=>n-(JB i).toNat
 .exact⟨0,aN,R,R⟩
 obtain⟨a,u,rfl,rfl⟩:=hrel;have b:a<J l:=O;have v:a<n:=oN j.o;obtain⟨q,y,rfl,_,f⟩:=ha a b;by_cases e:a=z
 .subst e;rw[d]at f;go_wp2;go_ret;exact⟨R,R⟩
 have s:(t==l[a])=Sn:=Is O b;generalize l[a]=C at*;go_wp2;exact⟨⟨a+1,O,gM,JV⟩,SA⟩
def jb(w:Ub)(L B:N)(c:Uy)(a:List (I×I)):Prop :=
 ∀i (h:i<J a),∃b o,c=S ⟨b,o,U⟩/\(L<=b/\b<B)/\E w ⟨b,o+i*2,U⟩=S (Si S6 a[i].1)/\E w ⟨b,o+i*2+1,U⟩=S (Si S6 a[i].2)
theorem jb.keepS{w'}{c:List (I×I)}(h:jb w n m p c)(k:YA n m w w'):jb w' n m p c:=λi g=>by let⟨b,o,e,a,d,f⟩:=h i g;exact⟨b,o,e,a,G (Xc<|k b a.1 a.2) d,G (Xc<|k b a.1 a.2) f⟩
theorem jb.mono{a:List (I×I)}(h:jb w n m p a)(l:k<=n)(j:m<=B):jb w k B p a:=λi f=>by let⟨b,o,e,g,c,d⟩:=h i f;exact⟨b,o,e,O,c,d⟩
def gc:List (I×I)->List Value
 |[]=>[]
 |t::ts=>Si S6 t.1::Si S6 t.2::gc ts
theorem GQ{a:List (I×I)}(t:I×I):gc (a++[t])=gc a++[H t.1,H t.2]:=by
 induction a with
 |nil=>rfl
 |cons x a b=>simp[gc,b]
theorem xy:∀(a:List (I×I))(i:N)(h:i<J a),(gc a)[i*2]?=S (H a[i].1)/\(gc a)[i*2+1]?=S (H a[i].2)
 |[],i,h=>Sz h sP
 |t::a,0,_=>by simp[gc]
 |t::a,i+1,h=>by have:=xy a i SI;rw[show(i+1)*2=i*2+1+1 by omega];simpa [gc]using this
theorem Hb:((A n 0):Addr).add m=(A n<|0+m):=by unfold Addr.add;split<;>simp_all
theorem GO{b:List (I×I)}(h:Sx w n m 2 (X p k B) g (gc b)):jb w n (Z w.1) p b:=λi j=>by
 let⟨d,e⟩:=xy b i j;cases p with
 |none=>
  exfalso;obtain⟨_,e2⟩|⟨_,_,_,e2,_⟩:=h.2
  .have l:=h.1;have:i*2<J (gc b):=(cV.1 d).1;omega
  injection e2 with e3;injection e3
 |some a=>
  have c:(X (S a) k B).ownBlock=S a.1:=R;have f:=h.lt _ c;have e2:a=(A a.1 0):=by
   obtain⟨e3,_⟩|⟨_,_,_,e3,_⟩:=h.2;·injection e3 with e4;injection e4
   injection e3 with e4;injection e4 with e4;rw[e4]
  have c1:=h.cells c _ _ d;have c2:=h.cells c _ _ e;rw[Hb]at c1 c2;exact⟨a.1,0,fI S e2,f,c1,c2⟩
structure my(w:Ub)(E_:N)(t:I)(ta:Uy)(nt ct:N)(ts:List (I×I)):Prop where
 c0:E w ⟨E_,0,U⟩=S (Si S6 t)
 c1:E w ⟨E_,1,U⟩=S (X ta nt ct)
 fz:∀o,w.frozen? ⟨E_,o,U⟩=Sn
 own:Sx w (E_+1) 310 2 (X ta nt ct) nt (gc ts)
theorem my.push{b:List (I×I)}(h:my w n t p m k b)(c:Sw (Z w.1) w v)(f:n<Z w.1){x}(d:Sx u (n+1) 310 2 (X (S ⟨B,0,U⟩) (m+1) g) (m+1) (gc b++[Si S6 x,Si S6 T]))(i:v.grownBy u (X p m k).ownBlock):
 my (Se u ⟨n,1,U⟩ (X (S ⟨B,0,U⟩) (m+1) g)) n t (S ⟨B,0,U⟩) (m+1) g (b++[(x,T)]):=by
 have q:=c.4;have a:=G (i.5 n O λe=>by have:=(h.4.lt _ e.symm).1;omega) (c.5 n f);have l:=d.lt B R;refine⟨?_,?_,λo=>G (eX _ _ _ _) (G (bJ a) (h.3 o)),?_⟩
 .rw[cJ<|by intro e;injection e with _ e;omega];exact G (Xc a) h.1
 .exact fQ _ _ _<|G (Xc a) h.2
 rw[GQ];exact Zl d λj e=>cY λe2=>by injection e with e;dsimp only at e e2;omega
theorem Qf:(prog.info? 310).map (λi=>(i.8,i.3,i.4))=S (S<|Sa #[H 0,H 0],2,16):=vZ
theorem rF{row:Zm}(a:w.grownBy v row)(b:k<Z w.1)(c:S k≠row):(∀o,E v (A k o)=E w (A k o))/\(∀o,v.frozen? (A k o)=w.frozen? (A k o)) :=
 ⟨λo=>a.cell_far (A k o) b c,λo=>a.frozen_far (A k o) b c⟩
theorem GF(W c pc){N_ B2}(ha:Q (Xp w g i p x))(hx:Q (n=J x))(hB:i<=Z w.1)(hp:Q (XR w j B2 P N_))(bf:Q (m=J N_))(a3:B2<=Z w.1)(ht:B<n)(b8:B<m)(hX:Q (∀K_:B<J x,x[B]=q))(bh:Q (∀K_:B<J N_,N_[B]=l))(be:J l<=1048576)(b6:J q.1<=1048576)(hm:Q ((k:I)∈l))(bd:Q (∀F (K_:F<J q.1),ZX t (J l) q.1[F]=So)):
 Sk prog 181 #[Sa #[H W,X p n c],X P m pc,H k,H B] w
  λr M=>∃d e,r=Rt (Sa #[H B,X d (J q.1) e])/\Sw (Z w.1) w M/\jb M (Z w.1) (Z M.1) d (E9 (de l k) q.1):=by
 have az:B<J x:=oN hx.o;have ar:B<J N_:=oN bf.o;let⟨i0,a9,bi,bm,bn⟩:=fX Qf;obtain⟨h,o,rfl,⟨_,b1⟩,hc⟩:=ha B az;rw[hX.o az]at hc;obtain⟨fa,fc,ia,ic,e0,-,-,ap,-⟩:=hc;obtain⟨b2,o2,rfl,⟨_,bx⟩,qa,qc,q0,hq⟩:=hp B ar;rw[bh.o ar]at q0 hq;have H_:=λb y V=>Xb (Xb (Xb (dC (Z w.1) w) b) y) V;have E0:=λb y V=>oB (H_ b y V) e0 O;have Q0:=λb y V=>oB (H_ b y V) q0 O;have HQ:=λb y V=>Y<|hq.keep ((H_ b y V).mono a3);have hI:=Y<|pC hm;have a2:=Y ap;clear ap hq;have ST:∀b,my (D (D (D w b) (Sc #[H 0,Hq] 152)) (Sc #[H B,Hq] 152)) (Z w.1+1+1) B U 0 0 []:=λb=>⟨SC,SC,λo=>by simp[go_sem],dA⟩
 go_in
 go_wp2_with (go_at_call 205;refine YU (GZ (HQ _ _ _) R be hm) ?_;rintro f rfl)
 generalize a4:de l k=K at*;have aj:=H_ (Sc #[H W,Hm h o n c] 45) (Sc #[H 0,Hq] 152) (Sc #[H B,Hq] 152);have aq:=ST<|Sc #[H W,Hm h o n c] 45;have r0:D (D (D w<|Sc #[H W,Hm h o n c] 45) (Sc #[H 0,Hq] 152)) (Sc #[H B,Hq] 152)=D (D (D w<|Sc #[H W,Hm h o n c] 45) (Sc #[H 0,Hq] 152)) (Sc #[H B,Hq] 152):=R;clear r0 ST H_ HQ Q0 q0;have a5:∀o,(D (D (D w<|Sc #[H W,Hm h o n c] 45) (Sc #[H 0,Hq] 152)) (Sc #[H B,Hq] 152)).frozen? (A (Z w.1+1) o)=Sn:=λo=>by simp[go_sem]
 go_loopw [28] (λF wr=>∃(a:N)(d:Uy)(e:N),a<=J q.1/\F=H a/\Q (Sw (Z w.1) w wr)/\Z w.1+1+1+1<=Z wr.1/\Q (my wr (Z w.1+1+1) B d a e (E9 K<|q.1.take a))/\Q (E wr (A (Z w.1+1) 0)=S (H 0)/\E wr (A (Z w.1+1) 1)=S Hq/\∀o,wr.frozen? (A (Z w.1+1) o)=Sn)) λF _=>J q.1-(JB F).toNat
 .exact⟨0,U,0,aN,R,Y aj,sP,Y (by simpa [E9]using aq),Y ⟨SC,SC,λo=>by simp[go_sem]⟩⟩
 obtain⟨a,d,e,hk,rfl,M_,ca,s,U_⟩:=hrel;clear aj aq a5 E0 e0;by_cases W_:a<J q.1;rotate_left
 .have ba:a=J q.1:=O;subst ba;let⟨m0,m1,mz,mo⟩:=s.o;let⟨r0,r1,rz⟩:=U_.o;have HO:=λb y=>Zl (w':=Se (Se wr (A (Z w.1+1) 0) b) (A (Z w.1+1) 1) y) mo (λh r=>by have:=(mo.lt h r).1;rw[cY SG,cY<|by dsimp only;omega]);have a1:=Y HO;clear HO mo;go_wp2;refine YL (v:=Sa #[H B,X d (J q.1) e]) ⟨d,e,R,(M_.setCell (by show Z w.1<=Z w.1+1;omega) _).setCell (by show Z w.1<=Z w.1+1;omega) _,?_⟩;have K_:=GO<|a1 (H B) (X d (J q.1) e);rw[gC]at K_;rw[a4];exact K_.mono O<|aA
 obtain⟨b',o',rfl,⟨_,bv⟩,aa,cc,g0,g1,af⟩:=a2 a W_;let⟨⟨d0,d1⟩,a6,a8⟩:=GW<|bd a W_;have Y_:E9 K (q.1.take<|a+1)=E9 K (q.1.take a)++[(q.1[a].1,q.1[a].2.getD K 0)]:=by unfold E9;rw[X7 W_,bG];rfl
 have ac:K<J q.1[a].2:=oN hI.o;have ad:q.1[a].2.getD K 0=q.1[a].2[K]:=by simp[ac]
 rw[ad]at Y_;obtain⟨v,o3,rfl,⟨_,b0⟩,h3⟩:=af K ac;have G0:=G (XU M_ O) g0;have G1:=G (XU M_ O) g1;have G3:=G (XU M_ O) h3;have a0:=Y Y_;have bt:J q.1[a].2<=1048576:=O;clear Y_ ad af a8 a6 h3 g0 g1;generalize q.1[a].2[K]=O_ at*;generalize J q.1[a].2=al at*;generalize q.1[a].1=J_ at*;generalize E9 K (q.1.take a)=TS at*;have c3:=λb y=>oB (Xb (Xb (dC (Z wr.1) wr) b).drew y) G3 O;have m1:=λb y=>oB (Xb (Xb (dC (Z wr.1) wr) b).drew y) s.2 O;have mz:=λb y o=>G ((Xb (Xb (dC (Z wr.1) wr) b).drew y).frozen (p:=A (Z w.1+1+1) o) (by show Z w.1+1+1<_;omega)) (s.3 o);have bp:=λb=>oB ((Xb (dC (Z wr.1) wr) b).drew) s.2 O;have m2:∀b y,E (D (D wr b) y) (A (Z w.1+1+1) 1)=S (X d a e):=m1;have ab:=λb y=>Zl s.4 λh r=>((Xb (Xb (dC (Z wr.1) wr) b).drew y).5 h (s.4.lt h r).2);have bc:∀u,Z wr.1<=u->S u≠(X d a e).ownBlock:=λu hq r=>by have:=(s.4.lt u r.symm).2;omega
 have X_:∀u,u<Z w.1+1+1+1->S u≠(X d a e).ownBlock:=λu hq r=>by have:=(s.4.lt u r.symm).1;omega
 have HP:∀(b y:Obj)(L z:N)(f:Ub),Sx f (Z w.1+1+1+1) 310 2 (Hl L (a+1) z) (a+1) (gc TS++[H J_,H O_])->(D ((D wr b).drew) y).grownBy f (X d a e).ownBlock ->
  my (Se f (A (Z w.1+1+1) 1) (Hl L (a+1) z)) (Z w.1+1+1) B (S ⟨L,0,U⟩) (a+1) z (TS++[(J_,O_)])/\Sw (Z w.1) w f/\f.1[Z w.1+1]?=wr.1[Z w.1+1]?/\Z wr.1<=Z f.1:=λb y L z f ho T=>by
  have S_:=Xb (Xb (dC (Z wr.1) wr) b).drew y;have b5:=T.4;have b4:=S_.4;exact⟨s.push S_ O ho T,Xy (M_.trans<|S_.mono O) T (ab b y) O O,G (T.5 _ O<|X_ _ O) (S_.5 _ O),O⟩
 have n3:Z w.1+1+1≠v:=O;have n5:Z w.1+1+1≠Z wr.1:=O;go_wp2;refine Y7 (λM=>E M (A (Z wr.1) 0)=S (H J_)/\E M (A (Z wr.1) 1)=S (Hm v o3 al cc)/\E M (A v<|o3+K)=S (H O_)) λig=>?_;refine Xn 0 ?_;refine Xn 2 ?_;(iterate 7 refine Rm ?_);refine eS (rs:=[1,10]) vZ sP ?_;refine(bQ R (λR_ hK=>?_) (bQ R (λR_ hK=>?_) dY))
 focus
  go_simp;refine hK _ _ kP λig=>?_;clear hK
  refine eS (rs:=[10]) vZ sP ?_
 rotate_left
 focus
  go_simp;refine hK _ _ kP λig=>?_;clear hK
  refine eS (rs:=[1]) vZ sP ?_
 all_goals (
  refine bQ R (λR_ hK=>?_) dY;go_simp;refine hK _ _ kP λig=>?_;clear hK
  refine Xs 11 λR_ hK=>?_;refine XC _ R (.tmp 33) (.tmp 42) 150 R (Z w.1+1+1+1) 310 i0 (Sa #[H 0,H 0]) 2 16 underlying150 a9 bi bm bn R vY (X d a e) a (gc TS) SE (ab _ _) (A (Z wr.1+1) 0) 1 1 [H J_,H O_] SE R ?_ (by intro bq hu;simp at hu;obtain rfl|rfl:=hu<;>rfl) vY SD O SB (Z wr.1+1+1) sP ?_
  .intro bo bq C
   match bo,C with
   |0,C=>simp at C;subst C;simp[Addr.add,go_sem]
   |1,C=>simp at C;subst C;simp[Addr.add,go_sem]
  intro L z f ao L_ a7 bb;have Q_:=Y<|HP _ _ L z f ao L_;obtain⟨V_,-⟩:=rF L_ (k:=Z wr.1) (by simp<;>omega) (bc _ O);obtain⟨f3,-⟩:=rF L_ (k:=v) (by simp<;>omega) (X_ _ O);let⟨f1,e1⟩:=rF L_ (k:=Z w.1+1+1) (by simp<;>omega) (X_ _ O);have kx:Cl f (Z wr.1) 0 (H J_):=G (V_ 0) SC;have ky:Cl f (Z wr.1) 1 (Hm v o3 al cc):=G (V_ 1) SC;have kz:=G (f3 _) (c3 _ _);have k1:=G (f1 1) (m1 _ _);have z1:=λo=>G (e1 o) (mz _ _ o)
  clear V_ f1 f3 e1 ao L_ a7 bb;refine hK _ _ kP λig=>?_;clear hK;refine Xn 12 ?_;refine Xs 13 λR_ hK=>?_;go_simp;refine hK _ _ kP λig=>?_;clear hK;refine Yq ?_;go_wp2;have Z_:(Se f (A (Z w.1+1+1) 1) (Hl L (a+1) z)).1[Z w.1+1]?=wr.1[Z w.1+1]?:=G (cY<|by show Z w.1+1≠Z w.1+1+1;omega) Q_.2.2.1;exact⟨⟨a+1,S<|A L 0,z,O,gM,Y (Q_.2.1.setCell (by show Z w.1<=Z w.1+1+1;omega) _),by have:=Q_.2.2.2;simp only[Xd];omega,Y (a0.o▸Q_.1),Y ⟨G (Xc Z_) U_.1,G (Xc Z_) U_.2.1,λo=>G (bJ Z_) (U_.2.2 o)⟩⟩,SA⟩)
theorem Vcx(ha:Q (Xf w m k p l))(b:Q (n=J l))(V:k<=Z w.1):
 Sk prog 26 #[X p n c] w λo i=>∃g x,o=Rt (Hl g 32 x)/\Sw (Z w.1) w i/\Z w.1<=g/\VaC i g (Va5 l):=by
 go_in
 go_wp2
 go_loopw [3,4] (λu z wr=>∃a:N,a<=32/\z=H a/\Sw (Z w.1) w wr/\Q (u≠Hq)/\Sx wr (Z w.1) 2 1 u (J (VaQ l a)) ((VaQ l a).map (Si S6))) λ_ z _=>32-(JB z).toNat
 .exact⟨0,aN,R,Xb Rf _,(by intro K;cases K),eI (base:=Z w.1) (e:=2) (size:=1) w #[] 0 (aA) sP R⟩
 obtain⟨a,T,rfl,j,C,r⟩:=hrel;have W:=j.4;by_cases W_:a<32
 .have d:=Y r;clear r;by_cases U_:a<n
  .have q:a<J l:=by have:=b.o;omega
   obtain⟨Q_,o_,rfl,⟨_,S_⟩,B⟩:=ha.o a q;have e1:=G (XU j O) B;have y:Q (VaQ l (a+1)=VaQ l a++[l[a]]):=by show _=_;rw[Vbo];simp[q]
   clear B;generalize l[a]=V_ at*;go_wp2_with (at_builtin;refine YC RH d ?_ (by rw[VaP];omega))
   intro v1 P h e f _;have v:=Y h;have t:=Y f;have s:=Y (Xy (Xb j _) e (d.alloc _) (aA) SB);clear h e f;go_wp2;exact⟨⟨a+1,O,gM,s.o,Y (by simpa using t.o),by rw[y.o,Yl,aQ];exact v.o⟩,SA⟩
  have q:J l<=a:=by have:=b.o;omega
  have y:Q (VaQ l (a+1)=VaQ l a++[0]):=by show _=_;rw[Vbo];simp[dK q]
  go_wp2_with (at_builtin;refine YC RH d ?_ (by rw[VaP];omega))
  intro v1 P h e f _;have v:=Y h;have t:=Y f;have s:=Y (Xy (Xb j _) e (d.alloc _) (aA) SB);clear h e f;go_wp2;exact⟨⟨a+1,O,gM,s.o,Y (by simpa using t.o),by rw[y.o,Yl,aQ];exact v.o⟩,SA⟩
 have F:a=32:=O;subst F;have d:=Y r;clear r;go_wp2;go_ret;obtain⟨g,x,rfl,L,M⟩:=VaC.of_owned d.o C.o;exact⟨g,x,Vch R (VaP) R,j,L,M⟩
theorem Vc0(w:Ub)(x y z:Obj):Sw (Z w.1) w (D (D (D w x) y) z):=Xb (Xb (Xb Rf _) _) _
theorem Vc8{o:N}(h:E w ⟨n,o,U⟩=S a)(b:n<Z w.1):∀x y z,E (D (D (D w x) y) z) ⟨n,o,U⟩=S a:=λx y z=>G ((Vc0 w x y z).cell (p:=A n o) b) h
theorem Vc3{o:N}(h:w.frozen? ⟨n,o,U⟩=r)(a:n<Z w.1):∀x y z,(D (D (D w x) y) z).frozen? ⟨n,o,U⟩=r:=λx y z=>G ((Vc0 w x y z).frozen (p:=A n o) a) h
theorem VaY(c:n=J l)(a:0<=t)(b:t<n):∃k:N,t=k/\k<J l/\Vc4 l t=Vc4 l k:=by obtain⟨k,rfl⟩:=bX a;exact⟨k,R,O,R⟩
def VaE(b l i:N)(h value m:I)(a g B:N)(o k n:Wc)(w:Ub)(j:Ending)(f:Ub):Prop :=
 ∃e d c,j=Rt (St #[Hl b l i,Sa #[H h,H value,H m,X e d c,Hl a 32 g]])/\Kb B b a w f/\VaA f B b a 2 (X e d c) o k n
theorem VaE.mk{gv:N}{value:I}{gh:N}{a:Wc}(R_:Val w j B gv gh 2 (X p g i) l L a v):
 VaE gv n m t value T gh k B l L a w (Rt (St #[Hl gv n m,Sa #[H t,H value,H T,X p g i,Hl gh 32 k]])) v:=⟨_,_,_,R,R_.1,R_.2⟩
theorem Vaq{h:I}{d value e:I}{b:N}{s:Wc}{f:N}(a:Q (VaA w f n c 2 (X P i j) l L s))(v:f<=Z w.1)(x:Q (m=J l))(u:0<=t)(d1:t<m):
 Sk prog 27 #[Sa #[H 1,H t,H T,H z,H h],Hl n m k,X p B g,Sa #[H d,H value,H e,X P i j,Hl c 32 b]] w
  (VaE n m k d value e c b f (VaF l t h) (L) (s) w):=by
 have r:=a.1.lt;have M:=a.2.lt;obtain⟨o,rfl,q,-⟩:=VaY x.o u d1;have c1:=Vc8 (a.1.2 o q) r;have c2:=Vc3 (a.1.frozen o) r;have F:=λy K C=>((((Val.of (r:=Z w.1+1+1) a.o v (Vc0 w y K C) O).setV q h).out5 (H d) (H value) (H e) (X P i j) (Hl c 32 b)).drew)
 go_in
 go_wp2;go_region
 all_goals
  go_wp2;exact YL (v:=St #[Hl n m k,Sa #[H d,H value,H e,X P i j,Hl c 32 b]]) (VaE.mk<|F _ _ _)
theorem Vap{b:I}{e value f:I}{d:N}{v:Wc}{o:N}(a:Q (VaA w o n c 2 (X P i j) l L v))(F:o<=Z w.1)(K:Q (m=J l))(M:0<=t)(d1:t<m){h:Wc}{V C:N}(ha:Q (Xf w V C p h))(W:Q (B=J h))(F_:C<=Z w.1)(J_:0<=b)(K_:b<=1000):
 Sk prog 27 #[Sa #[H 2,H t,H T,H z,H b],Hl n m k,X p B g,Sa #[H e,H value,H f,X P i j,Hl c 32 d]] w
  (VaE n m k e value f c d o (VaF l t<|Vbq h b) (L) (v) w):=by
 have u:=a.1.lt;have N_:=a.2.lt;obtain⟨r,rfl,s,-⟩:=VaY K.o M d1;have c1:=Vc8 (a.1.2 r s) u;have c2:=Vc3 (a.1.frozen r) u;have C_:=λx y q=>Y<|ha.keep ((Vc0 w x y q).drew.mono F_);have R_:=λx y q=>((((Val.of (r:=Z w.1+1+1) a.o F (Vc0 w x y q) O).setV s (Vbq h b)).out5 (H e) (H value) (H f) (X P i j) (Hl c 32 d)).drew.drew)
 go_in
 go_wp2_with fail
 go_region_with (go_at_call 58;refine YU (VbQ (C_ _ _ _) W J_ K_) ?_;rintro O_ rfl)
 all_goals
  go_wp2;go_region
  all_goals
   go_wp2;exact YL (v:=St #[Hl n m k,Sa #[H e,H value,H f,X P i j,Hl c 32 d]]) (VaE.mk<|R_ _ _ _)
theorem Ks(c)(w:Ub):
 Sk prog 195 #[Si .u8 c] w λe d=>e=Rt (Sb (Jd (c<33)||Jd (126<c)))/\d=w:=by
 by_cases a:c<33
 .go_in
  go_wp2;go_ret;exact⟨Xl (by simp[a]),R⟩
 by_cases b:126<c
 .go_in
  go_wp2;go_ret;exact⟨Xl sP,R⟩
 go_in
 go_wp2;go_ret;exact⟨Xl (by simp[a,b]),R⟩
theorem IZ(c){f:Wn}(t:Q (k=J f))(L:k<=1000000)(ha:Q (∀j (s:j<J f),E w (A n<|m+j)=S (Si .u8 (f[j].toNat:I))))(z:n<Z w.1):
 Sk prog 217 #[Hm n m k c,.func (.func 195) #[] #[]] w λh K=>(∃u:I,h=Rt (H u)/\(Jd (0<=u)=!(f.all cB)))/\Sw (Z w.1) w K:=by
 go_in
 go_wp2
 go_loopw [8] (λl wr=>∃a:N,a<=k/\l=H a/\Q (Sw (Z w.1) w wr)/\Q ((f.take a).all cB=So)) λl _=>k-(JB l).toNat
 .exact⟨0,aN,R,Y<|Rf,Y R⟩
 obtain⟨a,C,rfl,d,p⟩:=hrel;by_cases M:a<k
 .have i:a<J f:=oN t.o
  have B:=oB d (ha a i) z;have y:Q ((f.take<|a+1).all cB=((f.take a).all cB&&cB f[a])):=Y (by rw[bN i,sS];simp);have q:Q ((Jd ((f[a].toNat:I)<33)||Jd (126<(f[a].toNat:I)))=!cB f[a]):=Y (by unfold cB;by_cases q1:33<=f[a].toNat<;>by_cases q2:f[a].toNat<=126<;>simp[q1,q2]<;>omega)
  have x:Q (cB f[a]=Sn->f.all cB=Sn):=Y (λs=>by rw[lZ];exact⟨f[a],aH i,by rw[s];simp⟩)
  have r:=Y<|Ks (f[a].toNat:I) wr;generalize (f[a].toNat:I)=F at*;cases hq:cB f[a]with
  |false=>
   have g:=Y<|x.o hq;have e:Q ((Jd (F<33)||Jd (126<F))=So):=Y (by rw[q.o,hq];rfl);go_wp2_with (go_at_call 195;refine YU r λo b=>?_;rw[b,e.o];clear b o)
   go_ret;exact⟨⟨_,R,by rw[g.o];simp⟩,d⟩
  |true=>
   have v:Q ((f.take<|a+1).all cB=So):=Y (by rw[y.o,p.o,hq];rfl);have e:Q ((Jd (F<33)||Jd (126<F))=Sn):=Y (by rw[q.o,hq];rfl);go_wp2_with (go_at_call 195;refine YU r λo b=>?_;rw[b,e.o];clear b o)
   exact⟨⟨a+1,O,gM,d,v⟩,SA⟩
 have g:=Y (by have:=p.o;rwa[aW<|oN t.o]at this);go_wp2;go_ret;exact⟨⟨_,R,by rw[g.o];rfl⟩,d⟩
theorem IF(o c)(f:Wn)(l:Q (m=J f))(k:m<=1000000)(ha:Q (∀j (q:j<J f),E w (A n<|o+j)=S (Si .u8 (f[j].toNat:I))))(i:n<Z w.1):
 Sk prog 194 #[Hm n o m c,.func (.func 195) #[] #[]] w λe p=>e=Rt (Sb (!(f.all cB)))/\Sw (Z w.1) w p:=by
 have g:=Y<|IZ c l k ha i
 go_in
 go_wp2_with (go_at_call 217;refine g.mono ?_;rintro e s⟨⟨r,rfl,b⟩,a⟩;have h:=Y b;have d:=Y a;clear b a)
 go_ret;exact⟨Xl h,d⟩
shelf_lay SlLaysP.n7 Slp 7 at Tryz as laysSP
def ft(w:Ub):Prop:=4 < Z w.1/\∃m,E w ⟨4,0,U⟩=S (Si S6 m)
def kg(w:Ub)(b g:N)(a:Vw):Prop:=g<Z w.1/\∀i (h:i<J a),∃v,E w ⟨g,i,U⟩=S v/\mf w b v a[i]
theorem l8(s:UInt8):∀(l a:Wn),J (am s a l)=l.count s+1
 |[],a=>by simp[am]
 |c::r,a=>by
  rw[am];split;·rename_i h;subst h;rw[bA,l8 c r,List.count_cons_self]
  rename_i h;rw[l8 s r,List.count_cons_of_ne h]
theorem mf.keep{w' f}(h:mf w n a f)(k:w'.1[n]?=w.1[n]?):mf w' n a f:=by obtain⟨o,c,e,b,d⟩:=h;exact⟨o,c,e,b,λj g=>G (Xc k) (d j g)⟩
theorem zo(s b o n){b2}(a:Wn)(g:n=J a)(u:n<=c)(r:c<=9223372036854775807)(B:n<=1000000)(ha:∀i (h:i<J a),E w (A b<|o+i)=S (Si .u8 (a[i].toNat:I)))(p:E w (A b2 0)=S (Si .u8 (s.toNat:I)))(f:ft w)(q:b<Z w.1):
 Sk prog 160 #[Hm b o n c,Hl b2 1 1] w λl j=>∃k,k=J (C3 a s)/\l=Rt (Hl (Z w.1) k k)/\Sw (Z w.1) w j/\kg j b (Z w.1) (C3 a s):=by
 obtain⟨_,v,f⟩:=f;have hq:∀(m:Wn),∀x∈m.map λx=>(x.toNat:I),0<=x/\x<256:=λm x g=>by obtain⟨z,-,rfl⟩:=aY.1 g;have:=z.toNat_lt;omega
 have h:=Any.bytes_Split laysSP (A b o) (A b2 0) n c 1 1 (a.map λx=>(x.toNat:I)) [(s.toNat:I)] v w (by simp[g]) R (hq a) (hq [s]) (λi e=>by
  have d:i<J a:=O;rw[mK,ha i d];simp[List.getD,d]) (λi e=>by
  have:i=0:=O;subst this;exact p) u O vY r aA f
 have e1:Lib.bytesOf [(s.toNat:I)]=[s]:=oG [s];rw[oG,e1]at h;obtain⟨q1,q2⟩:=Jg w b s (Lib.count a [s]) o c a R ⟨O,O⟩ ha;have t:Lib.count a [s]+1=J (C3 a s):=by unfold C3;rw[l8,Lib.count_one]
 refine YU h ?_;rintro j⟨y,rfl⟩;refine⟨_,t,R,?_,?_,λi e=>?_⟩;·exact iX (Xb Rf _) y
 .show (Z w.1)<Z (w.1.push _);simp
 have d:i<J (Lib.splitV [s] 0 (Lib.count a [s]) (A b o) c a):=by rw[q1];exact e
 refine⟨_,?_,(q2 i e d).keep (gF w _ b q)⟩;show E (D w _) (A (Z w.1) i)=_;rw[uE _ (Z w.1) i _ _ _<|l9 w _];simp[d]
def su(d:N)(c:Ub)(b:N)(a:Vw)(e:Ending):Prop:=(a.all Y3=So->∃g k,d<=g/\k=J a/\e=Rt (St #[X (S ⟨g,0,U⟩) k k,Sb So])/\kg c b g a)/\(a.all Y3=Sn->e=Rt (St #[X U 0 0,Sb Sn]))
theorem yN{a}(h:a.all Y3=Sn):su n w m a (Rt (St #[Hq,Sb Sn])):=⟨λq=>Sz (G h.symm q) vY,λ_=>R⟩
theorem Jz{a:Vw}(h:a.all Y3=So)(b:n<=k)(c:B=J a)(d:kg w m k a):su n w m a (Rt (St #[Hl k B B,Sb So])):=⟨λ_=>⟨k,B,b,c,R,d⟩,λq=>Sz (G h.symm q) vY⟩
theorem ny(w:Ub)(o):Z (D w o).1=Z w.1+1:=Array.size_push ..
theorem yA{d:Wn}(B:Q (k=J d))(ab:k<=c)(X_:c<=9223372036854775807)(hn:k<=1000000)(ha:Q (∀i (h:i<J d),E w (A n<|m+i)=S (Si .u8 (d[i].toNat:I))))(z:Q (ft w))(q:n<Z w.1):
 Sk prog 161 #[Hm n m k c] w λl s=>Sw (Z w.1) w s/\su (Z w.1) s n (C3 d 32) l:=by
 have G_:Q (∀(f:Ub)(b2:N),Sw (Z w.1) w f->E f (A b2 0)=S (Si .u8 ((32:UInt8).toNat:I))->Sk prog 160 #[Hm n m k c,Hl b2 1 1] f λl s=>∃a,a=J (C3 d 32)/\l=Rt (Hl (Z f.1) a a)/\Sw (Z f.1) f s/\kg s n (Z f.1) (C3 d 32)):=Y (λf b2 u W_=>
  zo 32 n m k d B ab X_ hn (λi h=>oB u (ha i h) q) W_ ⟨aX z.1 u.4,by let⟨ad,h⟩:=z.2;exact⟨ad,oB u h z.1⟩⟩ (aX q u.4))
 have R_:Q (J (C3 d 32)<=1000001):=Y (by have:=oK 32 d [];have:=B.o;unfold C3;omega);have S_:Q (∀g∈C3 d 32,J g<=1000000):=Y (λg Z_=>by have:=kh 32 d [] g Z_;simp only[bO]at this;have:=B.o;omega);generalize C3 d 32=b at*
 go_in
 go_wp2_with (go_at_call 160;refine(G_ _ _ (Xb Rf _) (by rw[uE _ (Z w.1) 0 _ _ _<|l9 w _];rfl)).mono ?_;rintro l P⟨K,hK,rfl,L,T⟩;have t:=Y hK;have j:=Y T;have V:=Y<|(Xb (dC (Z w.1) w) _).trans (L.mono (Xb Rf _).4);clear hK T L)
 have M:Z (D w<|Sc #[Si IntKind.u8 32] 5).1=Z w.1+1:=ny w _;rw[M]at j;clear M;have hg:Z w.1<=Z w.1+1:=gX;have af:K<=1000001:=oP t.o R_.o;have F:=V.4;generalize Z w.1+1=W at*
 go_loopw [12] (λi wr=>∃a:N,a<=K/\i=H a/\Q (Sw (Z P.1) P wr)/\Q ((b.take a).all Y3=So)) λi _=>K-(JB i).toNat
 .exact⟨0,aN,R,Y<|Rf,Y R⟩
 obtain⟨a,hk,rfl,e,C⟩:=hrel;have o:=Y<|V.trans (e.mono F);by_cases al:a<K
 .have v:a<J b:=oN t.o
  obtain⟨O_,x,o2,c2,rfl,aj,J_⟩:=j.2 a v;have Y_:=oB e x j.1;have T_:=S_ b[a] (aH v);have F_:Q (Y3 b[a]=Sn->b.all Y3=Sn):=Y (λh=>by rw[lZ];exact⟨b[a],aH v,by rw[h];simp⟩)
  have V_:Q ((b.take<|a+1).all Y3=((b.take a).all Y3&&Y3 b[a])):=Y (by rw[bN v,sS];simp);have E_:=Y (IF o2 c2 b[a] (Y R) T_ (Y λac h=>oB e (J_ ac h) (aX q F)) (aX q o.4));clear x J_;generalize b[a]=g at*;by_cases L_:J g=0
  .have p:=Y (F_.o<|by rw[nK,L_];rfl);rw[L_]at Y_;go_wp2;refine YL (v:=St #[Hq,Sb Sn]) ⟨o,yN p⟩
  have aa:0<J g:=O;cases hq:g.all cB with
  |false=>
   have p:=Y (F_.o<|by rw[nK,hq,Bool.and_false]);go_wp2_with (go_at_call 194;refine YU E_ λw3 r=>?_;rw[hq];have y:=Y<|o.trans (r.mono o.4);clear r)
   refine YL (v:=St #[Hq,Sb Sn]) ⟨y,yN p⟩
  |true=>
   have Q_:Q ((b.take<|a+1).all Y3=So):=Y (by rw[V_.o,C.o,nK,hq,eB aa];rfl);go_wp2_with (go_at_call 194;refine YU E_ λw3 r=>?_;rw[hq];have y:=Y<|e.trans (r.mono e.4);clear r)
   exact⟨⟨a+1,O,gM,y,Q_⟩,SA⟩
 have p:=Y (by have:=C.o;rwa[aW<|oN t.o]at this)
 have U_:Q (kg wr n W b):=Y ⟨aX j.1 e.4,λi h=>by let⟨O_,x,hp⟩:=j.2 i h;exact⟨O_,oB e x j.1,hp.keep<|e.5 n (aX q F)⟩⟩
 go_wp2;refine YL (v:=St #[Hl W K K,Sb So]) ⟨o,Jz p hg t U_⟩
def gn(c:List (List UInt8)):Option (List UInt8):=match c with
 |[a,b]=>if c.all Y3=So/\a=[102,117,110,99]/\Ax b 4=So then S b else U
 |_=>U
def T2(c l:I):Uj:=.iface 115 (Sa #[Si S6 c,Si S6 l])
def NV(o:Option (List UInt8)):Value:=match o with
 |some b=>St #[Si S6 (Bo b:I),.nilIface]
 |none=>St #[Si S6 0,T2 3 1]
theorem pN(w:Ub)(b o c)(f:Wn)(h:∀j (h:j<J f),E w (A b<|o+j)=S (Si .u8 (f[j].toNat:I))):(convert 22 9<|Hm b o (J f) c).run prog w=.ok (Sg (K8 f)) w:=by have q:=run_convert_bytes_arg (P:=prog) w 22 5 underlying22 underlying5 b o (J f) c (f.map λx=>(x.toNat:I)) sP (λi a=>by rw[h i a];simp[List.getD,a]) 9 underlying9;have e:strOfNums (f.map λx=>(x.toNat:I))=K8 f:=fI (λl:Wn=>(⟨l.toArray⟩:ByteArray)) (oG f);rw[e]at q;exact q
theorem oI{f:Wn}(h:∀j (h:j<J f),E w (A n<|m+j)=S (Si .u8 (f[j].toNat:I)))(a:n<k):Yx w n k (S ⟨n,m,U⟩) f:=λi b=>⟨n,m,R,⟨aA,a⟩,h i b⟩
theorem zQG0{p: Prop}(h: p := by refine cC (v:=St #[H 0,T2 3 1]) (by simp[results,results105,go_sem,T2]) R ⟨by rw[l.o],j⟩): p := h
theorem IN(h V B c)(q:Wn)(w:Ub)(W:Q (B=J q))(aa:B<=c)(W_:c<=9223372036854775807)(Z_:B<=1000000)(ha:Q (∀i (m:i<J q),E w (A h<|V+i)=S (Si .u8 (q[i].toNat:I))))(Y_:Q (ft w))(K:h<Z w.1):
 Sk prog 105 #[Hm h V B c] w λn w'=>n=Rt (NV<|gn (C3 q 32))/\Sw (Z w.1) w w':=by
 have t:=Y<|yA W aa W_ Z_ ha Y_ K;have J_:Q (∀f∈C3 q 32,J f<=1000000):=Y (λf X_=>by have:=kh 32 q [] f X_;simp only[bO]at this;have:=W.o;omega);generalize C3 q 32=k at*;cases hall:k.all Y3 with
 |false=>
  have l:Q (NV (gn k)=St #[H 0,T2 3 1]):=Y (by
   have:gn k=U:=by
    unfold gn;split;·rw[aM λm=>by rw[hall]at m;exact Sz m.1 vY]
    rfl
   rw[this];rfl)
  go_in
  go_wp2_with (go_at_call 161;refine t.mono ?_;rintro n g⟨b,-,d⟩;have:=d hall;subst this;clear d;have j:=Y b;clear b)
  exact zQG0
 |true=>
  by_cases L:J k=2
  .obtain⟨a,f,rfl⟩:∃a f,k=[a,f]:=by
    match k,L with
    |[a,f],_=>exact⟨a,f,R⟩
   have E_:=Y<|J_.o f sP;have K_:Q (¬(a=[102,117,110,99]/\Ax f 4=So)->NV (gn [a,f])=St #[H 0,T2 3 1]):=Y (λm=>by show NV (if _ then _ else _)=_;rw[aM λr=>m r.2];rfl)
   have U_:Q (a=[102,117,110,99]/\Ax f 4=So->NV (gn [a,f])=St #[H<|NF f 4,.nilIface]):=Y (λm=>by show NV (if _ then _ else _)=_;rw[aU ⟨hall,m.1,m.2⟩];show _=St #[H (if Ax f 4=So then _ else _),_];rw[aU m.2];rfl)
   clear L;have s:=Y hall;clear hall;generalize NV (gn [a,f])=V_ at*;by_cases u:a=[102,117,110,99]
   .have ab:(K8 a).toList=[102,117,110,99]:=u▸T4 _;have T_:=Y u;clear u;cases hd:Ax f 4 with
    |false=>
     have l:=Y (K_.o λr=>by rw[hd]at r;exact Sz r.2 vY);have M:=Y hd;clear hd
     go_in
     go_wp2_with first|(go_at_call 161;refine t.mono ?_;rintro n g⟨b,d,-⟩;obtain⟨F,P,T,rfl,rfl,e⟩:=d s;clear d;obtain⟨S_,O_,x,c0,rfl,M_,o⟩:=e.2 0 sP;obtain⟨v1,P_,y,c1,rfl,N_,p⟩:=e.2 1 sP;have L_:=pN g h x c0 a o;have z:=Y<|pJ (S ⟨h,y,U⟩) (J f) c1 f h (Z g.1) g (Y<|oI p (aX K b.4)) (Y R) E_ aA;have j:=Y b;clear b e o p)|(go_at_call 162;refine YU z λw2 v=>?_;rw[M.o];have C:=Y<|j.trans (v.mono j.4);clear v)
     refine cC (v:=St #[H 0,T2 3 1]) (by simp[JC,results105,go_sem,T2]) R ⟨by rw[l.o],C⟩
    |true=>
     have l:=Y<|U_.o ⟨T_,hd⟩;have M:=Y hd;clear hd
     go_in
     go_wp2_with first|(go_at_call 161;refine t.mono ?_;rintro n g⟨b,d,-⟩;obtain⟨F,P,T,rfl,rfl,e⟩:=d s;clear d;obtain⟨S_,O_,x,c0,rfl,M_,o⟩:=e.2 0 sP;obtain⟨v1,P_,y,c1,rfl,N_,p⟩:=e.2 1 sP;have L_:=pN g h x c0 a o;have z:=Y<|pJ (S ⟨h,y,U⟩) (J f) c1 f h (Z g.1) g (Y<|oI p (aX K b.4)) (Y R) E_ aA;have j:=Y b;clear b e o p)|(go_at_call 162;refine YU z λw2 v=>?_;rw[M.o];have C:=Y<|j.trans (v.mono j.4);clear v)
     refine cC (v:=St #[H<|NF f 4,.nilIface]) (by simp[JC,results105,go_sem]) R ⟨by rw[l.o],C⟩
   have l:=Y (K_.o λr=>u r.1);have ab:=T4 a;have ad:(a==[102,117,110,99])=Sn:=by rw[iS];exact u
   go_in
   go_wp2_with (go_at_call 161;refine t.mono ?_;rintro n g⟨b,d,-⟩;obtain⟨F,P,T,rfl,rfl,e⟩:=d s;clear d;obtain⟨S_,O_,x,c0,rfl,M_,o⟩:=e.2 0 sP;obtain⟨v1,P_,y,c1,rfl,N_,p⟩:=e.2 1 sP;have L_:=pN g h x c0 a o;have j:=Y b;clear b e o p)
   exact zQG0
  have l:Q (NV (gn k)=St #[H 0,T2 3 1]):=Y (by
   have:gn k=U:=by
    unfold gn;split;·exact Sz R L
    rfl
   rw[this];rfl)
  have af:¬((J k:I)=2):=O;generalize NV (gn k)=V_ at*;have s:=Y hall;clear hall
  go_in
  go_wp2_with (go_at_call 161;refine t.mono ?_;rintro n g⟨b,d,-⟩;obtain⟨F,P,T,rfl,rfl,e⟩:=d s;clear d;have j:=Y b;clear b e)
  exact zQG0
shelf_lay Lays.nb142 Nm 142 at Tryz as laysCS
def pV(f:N)(d:Ub)(c:Uy)(a:Wn)(e:Ending):Prop :=
 (100000<J a->e=Rt (St #[X U 0 0,T2 1 0])) /\
 (J a<=100000->a.getLast?≠S 10->e=Rt (St #[X U 0 0,T2 2 0])) /\
 (J a<=100000->a.getLast?=S 10->∃b o g k,c=S ⟨b,o,U⟩/\f<=g/\k=J (C3 a.dropLast 10)/\e=Rt (St #[X (S ⟨g,0,U⟩) k k,.nilIface])/\kg d b g (C3 a.dropLast 10))
theorem KQ(s){l:Wn}:Lib.hasSuffix l [s]=Jd (l.getLast?=S s):=by
 unfold Lib.hasSuffix List.isSuffixOf;rw[<-List.head?_reverse];cases l.reverse with
 |nil=>rfl
 |cons x r=>
  show(([s]:Wn).isPrefixOf (x::r))=_;by_cases e:x=s;·subst e;simp
  have a:(s==x)=Sn:=by rw[iS];exact λq=>e q.symm
  have e2:Jd ((x::r).head?=S s)=Sn:=by rw[fC];intro q;exact e<|gQ q
  rw[e2];show(s==x&&List.isPrefixOf [] r)=Sn;rw[a];rfl
theorem Lo(b2){a:Wn}(y:n=J a)(u:n<=c)(C:n<=1000000)(ha:Yx w m k p a)(l:E w (A b2 0)=S (Si .u8 10)):
 Sk prog 159 #[X p n c,Hl b2 1 1] w λe f=>e=Rt (St #[X p (if a.getLast?=S 10 then n-1 else n) c,Sb (Jd (a.getLast?=S 10))])/\f=w:=by
 by_cases j:n=0
 .have:a=[]:=iE O;subst this;subst j;exact Any.bytes_CutSuffix_e1 laysCS p (S ⟨b2,0,U⟩) c 1 1 vY w
 obtain⟨b,o,rfl,_,_⟩:=ha 0 O
 have r:∀i (h:i<J a),E w (A b (o+i))=S (Si .u8 (a[i].toNat:I)):=λi h=>by obtain⟨z,B,g,_,s⟩:=ha i h;cases g;exact s
 have h:=Any.bytes_CutSuffix laysCS b o n c b2 0 1 1 (a.map λx=>(x.toNat:I)) [10] w (by simp[y]) R u O (λi t=>by
  have d:i<J a:=O;rw[r i d];simp[List.getD,d]) (λi t=>by
  have:i=0:=O;subst this;exact l)
 have v:Lib.hasSuffix (Lib.bytesOf<|a.map λx=>(x.toNat:I)) (Lib.bytesOf [10])=Jd (a.getLast?=S 10):=by rw[oG];exact KQ 10
 refine YU h ?_;rintro f rfl;refine⟨?_,R⟩;unfold Lib.bytesTrimSuffix Lib.sliceTo;rw[v];by_cases q:a.getLast?=S 10;·rw[aU (by simpa using q),aU q];rfl
 rw[aM (by simpa using q),aM q]
theorem IR{a:Wn}(j:Q (n=J a))(T:n<=c)(K:c<=9223372036854775807)(ha:Q (Yx w m k p a))(v:Q (ft w))(V:k<=Z w.1):
 Sk prog 104 #[X p n c] w λg b=>pV (Z w.1) b p a g/\Sw (Z w.1) w b:=by
 by_cases T_:100000<n
 .have l:Q (∀b,pV (Z w.1) b p a<|Rt (St #[Hq,T2 1 0])):=Y λb=>⟨λ_=>R,λh=>Sz h<|oN j.o,λh=>Sz h<|oN j.o⟩
  go_in
  go_wp2;refine cC (v:=St #[Hq,T2 1 0]) (by simp[JC,results104,go_sem,T2]) R ⟨l _,Rf⟩
 have U_:J a<=100000:=oN j.o
 have s:Q (Sk prog 159 #[X p n c,Hl (Z w.1) 1 1] (D w<|Sc #[Si .u8 10] 5) λg b=>g=Rt (St #[X p (if a.getLast?=S 10 then n-1 else n) c,Sb (Jd (a.getLast?=S 10))])/\b=(D w<|Sc #[Si .u8 10] 5)):=Y
  (Lo (Z w.1) j T O (ha.keep<|(Xb (dC (Z w.1) w) _).mono V) (by rw[uE _ (Z w.1) 0 _ _ _<|l9 w _];rfl))
 have y:Q (Sw (Z w.1) w<|D w (Sc #[Si .u8 10] 5)):=Y<|Xb (dC (Z w.1) w) _;by_cases hq:a.getLast?=S 10
 .have V_:1<=n:=by
   have:=j.o;cases a with
   |nil=>cases hq
   |cons Y_ X_=>simp at this;omega
  obtain⟨f,r,rfl,S_,_⟩:=ha 0<|oN j.o;have F:Q (∀(d:Ub)(b2:N),Sw (Z w.1) w d->E d (A b2 0)=S (Si .u8 ((10:UInt8).toNat:I))->Sk prog 160 #[Hm f r (n-1) c,Hl b2 1 1] d λg b=>∃e,e=J (C3 a.dropLast 10)/\g=Rt (Hl (Z d.1) e e)/\Sw (Z d.1) d b/\kg b f (Z d.1) (C3 a.dropLast 10)):=Y (λd b2 t u=>
   zo 10 f r (n-1) a.dropLast (by have:=j.o;simp;omega) O K O (λx h=>by
    have M:x<J a:=by simp at h;omega
    obtain⟨Q_,W_,W,R_,L⟩:=ha x M;cases W;rw[t.cell (p:=A f (r+x)) (by show f<_;omega),L];simp) u ⟨aX v.1 t.4,by
    obtain⟨O_,h⟩:=v.2;exact⟨O_,oB t h v.1⟩⟩ (oN t.4))
  have l:Q (∀b i e,Z w.1<=i->e=J (C3 a.dropLast 10)->kg b f i (C3 a.dropLast 10)->pV (Z w.1) b (S ⟨f,r,U⟩) a (Rt (St #[Hl i e e,.nilIface]))):=Y λb i e H_ u I_=>⟨λh=>Sz h O,λ_ h=>Sz hq h,λ_ _=>⟨f,r,i,e,R,H_,u,R,I_⟩⟩;rw[aU hq,eB hq]at s;clear hq
  go_in
  go_wp2_with (go_at_call 159;refine YU s λd q=>?_;have o:Q (Sw (Z w.1) w d):=Y (by rw[q];exact y);clear q)
  refine(F _ _ (Xb o _) (by rw[uE _ (Z d.1) 0 _ _ _<|l9 d _];rfl)).mono ?_;rintro g P_⟨e,B,rfl,z,C⟩;have P:Z w.1<=Z (D d<|Sc #[Si .u8 10] 5).1:=(Xb o _).4;have E_:=Y<|l.o P_ _ e P B C;have D_:=Y<|(Xb o _).trans (z.mono P);clear z C B;generalize Z (D d<|Sc #[Si .u8 10] 5).1=i at*;go_wp2;refine cC (v:=St #[Hl i e e,.nilIface]) (by simp[JC,results104,go_sem]) R ⟨E_,D_⟩
 have l:Q (∀b,pV (Z w.1) b p a<|Rt (St #[Hq,T2 2 0])):=Y λb=>⟨λh=>Sz h O,λ_ _=>R,λ_ h=>Sz h hq⟩;rw[aM hq,dJ hq]at s;clear hq
 go_in
 go_wp2_with (go_at_call 159;refine YU s λd q=>?_;have o:Q (Sw (Z w.1) w d):=Y (by rw[q];exact y);clear q)
 refine cC (v:=St #[Hq,T2 2 0]) (by simp[JC,results104,go_sem,T2]) R ⟨l _,o⟩
def NP(k:N):N:=[dB k,aB k,bB k,iB k].count So
def NQ(k:N):N:=[(k:I) != 1,(k:I) != 3,(k:I)==2].count So
theorem yI(a b)(h:J a=J b):J (Yd a b)=a.count So:=by
 induction a generalizing b with
 |nil=>rfl
 |cons x r c=>cases b with
  |nil=>simp at h
  |cons q s=>cases x<;>simp[Yd,c s<|by simpa using h]
def Nv(b a:I):Uj:=Sa #[Si S6 b,Si S6 a]
def dr(a b n:N):Bool:=if a=0 then n==0 else if a=1 then Jd (2<=n)else if a=2 then n==NP b else n==NQ b
theorem zA(h:Sx w n m 1 a k y):∃b c,a=X b k c:=by obtain⟨b,c,rfl,_⟩:=UO h;have:=h.1;rw[iN]at this;exact⟨b,c,by rw[this]⟩
theorem LA(h:Jk w n 0 ⟨m,0,0,0,0⟩)(f:1<=m)(j:m<=10)(i:Yy w):
 Sk prog 218 #[Hn n] w λe d=>(∃a c,e=Rt (X a (NP m) c))/\Sw (Z w.1) w d:=by
 refine(zE n m 0 0 0 0 w (Y h) f O (Y i)).mono ?_;rintro e d⟨v,rfl,g,b⟩;obtain⟨a,c,rfl⟩:∃a c,v=X a (NP m) c:=by rw[yI _ _ R]at b;exact zA b
 exact⟨⟨a,c,R⟩,g⟩
theorem LR(i:Va w n 0 ⟨m,0,0,0⟩)(f:1<=m)(g:m<=3)(j:Yb w):
 Sk prog 219 #[Hn n] w λe d=>(∃a c,e=Rt (X a (NQ m) c))/\Sw (Z w.1) w d:=by
 refine(zD (Y i) f g (Y j)).mono ?_;rintro e d⟨v,rfl,h,b⟩;obtain⟨a,c,rfl⟩:∃a c,v=X a (NQ m) c:=by rw[yI _ _ R]at b;exact zA b
 exact⟨⟨a,c,R⟩,h⟩
theorem Ad(k:N)(a:n=Z w.1):Jk (D w<|Sc #[Si S6 k,Si S6 0,Si S6 0,Si S6 0,Si S6 0] 62) n 0 ⟨k,0,0,0,0⟩:=by subst a;refine⟨?_,?_,?_,?_,?_⟩<;>rw[uE _ (Z w.1) _ _ _ _<|l9 w _]<;>rfl
theorem z9(k:N)(a:n=Z w.1):Va (D w<|Sc #[Si S6 k,Si S6 0,Si S6 0,Si S6 0] 58) n 0 ⟨k,0,0,0⟩:=by subst a;refine⟨?_,?_,?_,?_⟩<;>rw[uE _ (Z w.1) _ _ _ _<|l9 w _]<;>rfl
theorem LP(z:n<=3)(y:k<=1000000)(d:n=2->1<=m/\m<=10)(e:n=3->1<=m/\m<=3)(o:Q (Yy w))(p:Q (Yb w)):
 Sk prog 197 #[Nv n m,H k] w λj v=>j=Rt (Sb (dr n m k))/\Sw (Z w.1) w v:=by
 have s:n=0\/n=1\/n=2\/n=3:=O;have a:Q (∀q,Sw (Z w.1) w<|D w q):=Y λq=>Xb Rf q;unfold Nv;obtain rfl|rfl|rfl|rfl:=s
 .have b:Q (dr 0 m k=((k:I)==0)):=Y (by
   show((k==0)=_);by_cases h:k=0;·subst h;rfl
   rw[iS.2 h,iS.2 O])
  go_in
  go_wp2;go_ret;exact⟨Xl b.symm,a _⟩
 .have b:Q (dr 1 m k=Jd ((2:I)<=k)):=Y (by
   show Jd _=Jd _;rw[decide_eq_decide];omega)
  go_in
  go_wp2;go_ret;exact⟨Xl b.symm,a _⟩
 .have b:Q (dr 2 m k=((k:I)==(NP m:I))):=Y (by
   show((k==NP m)=_);by_cases h:k=NP m;·rw[<-h];simp
   rw[iS.2 h,iS.2 O])
  have g:=Y λW (h:Sw (Z w.1) w W) i (l:i=Z W.1)=>LA (Ad m l) (d R).1 (d R).2 ((o.keep h o.1).keep (Xb (dC (Z W.1) W) _) (aX o.1 h.4));generalize NP m=r at*
  go_in
  go_wp2_with (go_at_call 218;refine(g _ (a _) _ (ny _ _).symm).mono ?_;rintro j x⟨⟨t,u,rfl⟩,c⟩;have f:=Y<|((a _).trans ((Xb Rf _).mono (a _).4)).trans (c.mono (Xb (a _) _).4);clear c)
  go_ret;exact⟨Xl b.symm,f⟩
 have b:Q (dr 3 m k=((k:I)==(NQ m:I))):=Y (by
  show((k==NQ m)=_);by_cases h:k=NQ m;·rw[<-h];simp
  rw[iS.2 h,iS.2 O])
 have g:=Y λW (h:Sw (Z w.1) w W) i (l:i=Z W.1)=>LR (z9 m l) (e R).1 (e R).2 ((p.keep h p.1).keep (Xb (dC (Z W.1) W) _) (aX p.1 h.4));generalize NQ m=r at*
 go_in
 go_wp2_with (go_at_call 219;refine(g _ (a _) _ (ny _ _).symm).mono ?_;rintro j x⟨⟨t,u,rfl⟩,c⟩;have f:=Y<|((a _).trans ((Xb Rf _).mono (a _).4)).trans (c.mono (Xb (a _) _).4);clear c)
 go_ret;exact⟨Xl b.symm,f⟩
def cu(w:World)(b:N):List (N×I)->World
 |[]=>w
 |(o,x)::r=>cu (Se w ⟨b,o,U⟩ (Si S6 x)) b r
theorem yY(b o:N)(x:I):∀(l:List (N×I))(w:Ub),cu w b (l++[(o,x)])=Se (cu w b l) ⟨b,o,U⟩ (Si S6 x)
 |[],_=>R
 |(p,y)::r,w=>by rw[cW,cu,cu,yY b o x r]
theorem r8(b k:N)(h:k≠b):∀(l:List (N×I))(w:Ub),(cu w b l).1[k]?=w.1[k]?
 |[],_=>R
 |(p,y)::r,w=>by rw[cu,r8 b k h r,cY h]
theorem se(b:N):∀(l:List (N×I))(w:Ub),Z (cu w b l).1=Z w.1
 |[],_=>R
 |(p,y)::r,w=>by rw[cu,se b r,Xd]
theorem zv{b t a:N}:∀(l:List (N×I))(w:Ub)(f:Vu),w.rowIs b t a f->∃g,(cu w b l).rowIs b t a g
 |[],_,f,h=>⟨f,h⟩
 |(p,y)::r,w,_,h=>by rw[cu];exact zv r _ _<|h.set p _
theorem Mf{e o f}{l:List (N×I)}(C:Q (B=J l))(y:Q (B<=g))(hn:B<=1000000)(M:Q (w.rowIs n m k h))(F:Q (∀t∈l,t.1<k))(L:Q (Zx w c e p<|l.map λt=>Tx<|A n t.1))(K:Q (Xf w o f P (l.map (·.2))))(V_:n<c\/e<=n)(W_:n<o\/f<=n):
 Sk prog 222 #[X p B i,X P g j] w λT V=>T=Rt (St #[])/\V=cu w n l:=by
 go_in
 go_wp2
 go_loopw [8] (λr wr=>∃a:N,a<=B/\r=H a/\Q (wr=cu w n (l.take a))) λr _=>B-(JB r).toNat
 .exact⟨0,aN,R,Y R⟩
 obtain⟨a,hk,rfl,v⟩:=hrel;by_cases aa:a<B
 .have d:a<J l:=oN C.o;let⟨S_,W⟩:=zv (l.take a) w h M;have b:=Y W;have x:YA c e w (cu w n<|l.take a):=λs F_ G_=>r8 n s O _ _;have y_:YA o f w (cu w n<|l.take a):=λs F_ G_=>r8 n s O _ _;obtain⟨Q_,o3,rfl,T_,q⟩:=(L.keepS x) a (by simpa using d);obtain⟨R_,o4,rfl,U_,z⟩:=(K.keepS y_) a (by simpa using d);rw[cM]at q z;unfold Tx at q;have u:Q (cu w n (l.take<|a+1)=Se (cu w n<|l.take a) (A n<|l[a].1) (H l[a].2)):=Y (by rw[bN d,yY]);have K_:=F l[a] (aH d);rw[<-v.o]at q z b u;have ac:=Y<|Jp (m:=1) b (o:=l[a].1) O;have ab:(a:I)<(g:I):=oN y.o;generalize l[a].1=O_ at*;generalize l[a].2=X_ at*;have Y_:=b.cell K_;have Z_:=b.frozen O_;go_wp2;exact⟨⟨a+1,O,gM,Y u.symm⟩,SA⟩
 have D_:Q (wr=cu w n l):=Y (by rw[v.o,aW<|oN C.o]);go_wp2;exact uT (v:=St #[]) (by simp[JC,results222,go_sem]) R ⟨R,D_⟩
structure nW(w:Ub)(R_:N)(wd:Uj)(vals:I)(ga:Uy)(n c:N)(op:Bool):Prop where
 words:E w ⟨R_,0,U⟩=S wd
 values:E w ⟨R_,1,U⟩=S (Si S6 vals)
 blocks:E w ⟨R_,2,U⟩=S (X ga n c)
 opened:E w ⟨R_,3,U⟩=S (Sb op)
theorem pP(j h d g n c b w)(a:nW w j h d (S ⟨g,0,U⟩) (n+1) c b)(i:n<=1000000):
 Sk prog 221 #[Hn j] w λe f=>e=Rt (Ho g<|n*6)/\f=w.drew:=by
 have c2:=a.3
 go_in
 go_wp2;go_region;go_wp2;go_ret;exact⟨R,R⟩
def sR(b:N)(a:Bool)(c:N):Bool:=if b=0 then !a else if b=1 then a&&c==0 else a
theorem yM(F q p o g n c i)(y:Uy)(b z a t:N)(w)(d:Q (nW w F q p o n c i))(L:n<=1000000)(f:F<Z w.1)(M:a<=3)(x:Q (i=So->o=S (A g 0)/\1<=n/\g<Z w.1/\E w (A g<|(n-1)*6+1)=S (X y b z))):
 Sk prog 199 #[Hn F,Nv a t] w λe j=>e=Rt (Sb (sR a i b))/\Sw (Z w.1) w j:=by
 have c3:=d.4;have u:a=0\/a=1\/a=2\/a=3:=O;unfold Nv;obtain rfl|rfl|rfl|rfl:=u
 .go_in
  go_wp2;go_ret;exact⟨R,Xb Rf _⟩
 .cases i with
  |false=>
   go_in
   go_wp2;go_ret;exact⟨R,Xb Rf _⟩
  |true=>
   obtain⟨rfl,B,C,v⟩:=x R;obtain⟨m,rfl⟩:∃m,n=m+1:=⟨n-1,O⟩;have s:Q (sR 1 So b=((b:I)==0)):=Y (by
    show((b==0)=_);by_cases k:b=0;·subst k;rfl
    rw[iS.2 k,iS.2 O])
   rw[vr]at v;have r:Q (∀W,Sw (Z w.1) w W->Sk prog 221 #[Hn F] W λe j=>e=Rt (Ho g<|m*6)/\j=W.drew):=Y λW h=>pP F q p g m c So W ⟨oB h d.1 f,oB h d.2 f,oB h d.3 f,oB h d.4 f⟩ O
   go_in
   go_wp2_with (go_at_call 221;refine YU (r _<|Xb Rf _) λK l=>?_;rw[l];clear l K)
   go_ret;exact⟨Xl s.symm,(Xb Rf _).drew⟩
 .go_in
  go_wp2;go_ret;exact⟨R,Xb Rf _⟩
 go_in
 go_wp2;go_ret;exact⟨R,Xb Rf _⟩
section
open Go.Maps
def fh(v:Value):Option (DataW Unit×List MemPlace):=match v with
 |.agg a=>match a.1 with
  |[Si S6 r,Si S6 c]=>S (.agg [.lit (.int S6 r),.lit (.int S6 c)],[])
  |_=>U
 |_=>U
def No(r c:I):DataW Unit:=.agg [.lit (.int S6 r),.lit (.int S6 c)]
theorem pW(r c):fh (Nv r c)=S (No r c,[]):=R
theorem Qk:Keyed prog 9:=string_keyed underlying9
def OZ:N->DataW Unit
 |0=>((DataW.map []).put (.string eh) (No 0 0)).put (.string fm) (No 1 0)
 |k+1=>(OZ k).put (.string (bz ((k:N)+1:N))) (No 2 ((k:N)+1:N))
def OQ:N->DataW Unit
 |0=>OZ 10
 |k+1=>(OQ k).put (.string (gx ((k:N)+1:N))) (No 3 ((k:N)+1:N))
theorem I1(B:Q (Yy w))(C:Q (Yb w)):
 Sk prog 106 #[] w λF M=>F=Rt (.map (S (Z w.1)))/\Sw (Z w.1) w M/\M.ownsMap prog 9 fh (Z w.1) 15 (OQ 3):=by
 have P_:=@run_makeMap prog;let⟨r,z,x,h⟩:=(World.ownsMap_made w prog 9 fh).update Qk underlying186 vY (sU underlying9 (s:=K8 eh) vY) (pW 0 0);let⟨s,P,y,t⟩:=x.update Qk underlying186 vY (sU underlying9 (s:=K8 fm) vY) (pW 1 0);have T:(Instr.mapUpdate 186 (.map (S (Z w.1))) (Sg ⟨#[98,108,111,99,107]⟩) (Sa #[H 0,H 0])).run prog (D w<|.map #[] 0)=.ok () r:=z;have V:(Instr.mapUpdate 186 (.map (S (Z w.1))) (Sg ⟨#[112,104,105]⟩) (Sa #[H 1,H 0])).run prog r=.ok () s:=P;have q:Q (s.ownsMap prog 9 fh (Z w.1) 2<|OZ 0):=Y y;have o:=Y (((Xb Rf _).grown h (Xb Rf _).4 λk d=>by cases d;exact aA).grown t (aJ (Xb Rf _).4 h.4) λk d=>by cases d;exact aA);clear z P x y h t
 go_in
 go_wp2
 go_loopw [2] (λi wr=>∃k:N,k<=10/\i=H ((k:I)+1)/\Q (Sw (Z w.1) w wr)/\Q (wr.ownsMap prog 9 fh (Z w.1) (k+2) (OZ k))) λi _=>11-(JB i).toNat
 .exact⟨0,O,R,o,q⟩
 clear T V q o;obtain⟨k,d,rfl,b,c⟩:=hrel;by_cases l:k<10
 .obtain⟨W,-⟩:=(B.keep b B.1).2 (k+1) O O
  have f:Q (keyOf prog 9 (Sg (K8<|bz ((k+1:N):I)))=S (.string (bz ((k+1:N):I)))):=Y (sU underlying9 (s:=K8<|bz ((k+1:N):I)) (by have g:k=0\/k=1\/k=2\/k=3\/k=4\/k=5\/k=6\/k=7\/k=8\/k=9:=O;obtain rfl|rfl|rfl|rfl|rfl|rfl|rfl|rfl|rfl|rfl:=g<;>decide))
  have e:Q (OZ (k+1)=(OZ k).put (.string (bz ((k+1:N):I))) (No 2 ((k+1:N):I))):=Y R;generalize n:bz ((k+1:N):I)=L at*;clear n;go_wp2_with (at_mapUpdate;refine wn _ R _ _ _ 186 R 9 274 Qk underlying186 fh (Z w.1) (k+2) _ R c SD _ _ _ R R f (No 2 ((k+1:N):I)) [] (pW 2 _) ?_;intro K m j)
  exact⟨⟨k+1,O,sP,Y (b.grown j b.4 λk d=>by cases d;exact aA),Y<|by rw[e.o];exact m⟩,SA⟩
 have u:k=10:=O;have M_:¬((k:I)+1<=10):=O;have p:Q (wr.ownsMap prog 9 fh (Z w.1) 12<|OQ 0):=Y (by have:=c.o;rw[u]at this;exact this);clear l u c;generalize wr=R_ at*;go_wp2
 go_loopw [3] (λi wr=>∃k:N,k<=3/\i=H ((k:I)+1)/\Q (Sw (Z w.1) w wr)/\Q (wr.ownsMap prog 9 fh (Z w.1) (k+12) (OQ k))) λi _=>4-(JB i).toNat
 .exact⟨0,O,R,b,p⟩
 clear b p;obtain⟨a,O_,rfl,b,c⟩:=hrel;by_cases l:a<3
 .obtain⟨W,-⟩:=(C.keep b C.1).2 (a+1) O O
  have f:Q (keyOf prog 9 (Sg (K8<|gx ((a+1:N):I)))=S (.string (gx ((a+1:N):I)))):=Y (sU underlying9 (s:=K8<|gx ((a+1:N):I)) (by have g:a=0\/a=1\/a=2:=O;obtain rfl|rfl|rfl:=g<;>decide))
  have e:Q (OQ (a+1)=(OQ a).put (.string (gx ((a+1:N):I))) (No 3 ((a+1:N):I))):=Y R;generalize n:gx ((a+1:N):I)=L at*;clear n;go_wp2_with (at_mapUpdate;refine wn _ R _ _ _ 186 R 9 274 Qk underlying186 fh (Z w.1) (a+12) _ R c SD _ _ _ R R f (No 3 ((a+1:N):I)) [] (pW 3 _) ?_;intro K m j)
  exact⟨⟨a+1,O,sP,Y (b.grown j b.4 λQ_ G_=>by cases G_;exact aA),Y<|by rw[e.o];exact m⟩,SA⟩
 have v:a=3:=O;have N_:¬((a:I)+1<=3):=O;have E_:Q (wr.ownsMap prog 9 fh (Z w.1) 15<|OQ 3):=Y (by have:=c.o;rw[v]at this;exact this);clear l v c;go_wp2;go_ret;exact⟨R,b,E_⟩
end
section
open Go.Maps
def fy(f:Wn):Option (N×N) :=
 if D2 f≠0 then S (2,(D2 f).toNat)else if f=eh then S (0,0)else if f=fm then S (1,0)else if f=fg then S (3,1)else if f=Vn then S (3,2)else if f=ew then S (3,3)else U
theorem pZ{b:DataW Unit}(h:IsMap b)(g f:Wn)(d z):(b.put (.string g) d).atKey (.string f) z=if g=f then d else b.atKey (.string f) z:=by
 by_cases e:g=f;·subst e;rw[aU R,atKey_put_same h (k:=.string g) (by simp[WideAt.IsKeyLit])]
 rw[aM e,atKey_put_other λq=>e<|by cases q;rfl]
theorem sF:∀k,IsMap<|OZ k
 |0=>(isMap_empty.put _ _).put _ _
 |k+1=>(sF k).put _ _
theorem z8:∀k,IsMap<|OQ k
 |0=>sF 10
 |k+1=>(z8 k).put _ _
theorem MI{f:Wn}(z):(OZ 0).atKey (.string f) z=if fm=f then No 1 0 else if eh=f then No 0 0 else z:=by show(((DataW.map []).put (.string eh) (No 0 0)).put (.string fm) (No 1 0)).atKey _ _=_;rw[pZ<|isMap_empty.put _ _,pZ isMap_empty];rfl
theorem jd(f:Wn)(z k):(OZ<|k+1).atKey (.string f) z=if bz ((k+1:N):I)=f then No 2 ((k+1:N):I)else (OZ k).atKey (.string f) z:=pZ (sF k) _ _ _ _
theorem sQ(f:Wn)(z k):(OQ<|k+1).atKey (.string f) z=if gx ((k+1:N):I)=f then No 3 ((k+1:N):I)else (OQ k).atKey (.string f) z:=pZ (z8 k) _ _ _ _
theorem M2{f:Wn}(z):(OZ 10).atKey (.string f) z=if D2 f≠0 then No 2 (D2 f)else (OZ 0).atKey (.string f) z:=by
 have d:(OZ 10).atKey (.string f) z=_:=G (jd f z 9) (fI _<|G (jd f z 8) (fI _<|G (jd f z 7) (fI _<|G (jd f z 6) (fI _<|G (jd f z 5) (fI _<|G (jd f z 4) (fI _<|G (jd f z 3) (fI _<|G (jd f z 2) (fI _<|G (jd f z 1) (fI _<|jd f z 0)))))))));by_cases b:D2 f=0
 .have a:∀j:N,j<10->bz ((j+1:N):I)≠f:=λj k e=>by
   subst e;have c:j=0\/j=1\/j=2\/j=3\/j=4\/j=5\/j=6\/j=7\/j=8\/j=9:=O;obtain rfl|rfl|rfl|rfl|rfl|rfl|rfl|rfl|rfl|rfl:=c<;>exact Sz b vY
  rw[d,aM<|a 9 O,aM<|a 8 O,aM<|a 7 O,aM<|a 6 O,aM<|a 5 O,aM<|a 4 O,aM<|a 3 O,aM<|a 2 O,aM<|a 1 O,aM<|a 0 O,aM λq:D2 f≠0=>q b]
 rw[aU b,d];obtain q|⟨j,h,i,g,rfl⟩:=oH f 10 1;·exact Sz q b
 have e:D2 (bz j)=j:=g;rw[e];have c:j=1\/j=2\/j=3\/j=4\/j=5\/j=6\/j=7\/j=8\/j=9\/j=10:=O;obtain rfl|rfl|rfl|rfl|rfl|rfl|rfl|rfl|rfl|rfl:=c<;>rfl
def sY(o:Option (N×N))(z:DataW Unit):DataW Unit:=match o with
 |some (r,c)=>No r c
 |none=>z
theorem L9(f:Wn)(z):(OQ 3).atKey (.string f) z=sY (fy f) z:=by
 rw[sQ f z 2,sQ f z 1,sQ f z 0];show(if ew=f then No 3 3 else if Vn=f then No 3 2 else if fg=f then No 3 1 else (OZ 10).atKey (.string f) z)=_;rw[M2,MI];unfold fy;by_cases a:D2 f=0
 .rw[aM λq:D2 f≠0=>q a,aM λq:D2 f≠0=>q a];by_cases e1:f=ew;·subst e1;rfl
  by_cases e2:f=Vn;·subst e2;rfl
  by_cases e3:f=fg;·subst e3;rfl
  by_cases e4:f=fm;·subst e4;rfl
  by_cases e5:f=eh;·subst e5;rfl
  rw[aM<|kA e1,aM<|kA e2,aM<|kA e3,aM<|kA e4,aM<|kA e5,aM e5,aM e4,aM e3,aM e2,aM e1];rfl
 let⟨⟨b,_⟩,e5,e3,e1,e2,e4⟩:=oL a;rw[aM<|kA e1,aM<|kA e2,aM<|kA e3,aU a,aU a];show No 2 (D2 f)=No ((2:N):I) ((D2 f).toNat:I);rw[fR O];rfl
theorem Ql(w:Ub):(zeroValue 274).run prog w=.ok (Nv 0 0) w:=vZ
theorem LH{c e}(h:fh a=S (No t c,e)):a=Nv t c:=by
 unfold fh at h;split at h
 .rename_i f;split at h
  .rename_i i g ha;have b:=fI Prod.fst<|gQ h;simp only[No]at b;injection b with d;simp only[List.cons.injEq,DataW.lit.injEq,Lit.int.injEq,true_and,and_true]at d;obtain⟨rfl,rfl⟩:=d;unfold Nv;congr 1;apply Array.ext';rw[ha]
  cases h
 cases h
theorem yX(h:w.ownsMap prog 9 fh n 15 (OQ 3)){f:Wn}(o:J f<=1000000):(Instr.lookup 186 (.map (S n)) (Sg (K8 f)) So).run prog w=.ok (match fy f with|some (r,c)=>St #[Nv r c,Sb So]|none=>St #[Nv 0 0,Sb Sn]) w:=by
 let⟨m,l,e,F,_,b⟩:=h;have g:keyOf prog 9 (Sg (K8 f))=S (.string f):=sU underlying9 (s:=K8 f) (by rw[i7];unfold maxLen;omega);have a:=λz=>L9 f z;obtain⟨hrun,_,hz⟩|⟨e0,y,_,_,hrun,hR,hz,_⟩:=Maps.fit_look So Qk underlying186 (Ql w) e F g
 .have i:fy f=U:=by
   cases hw:fy f with
   |none=>rfl
   |some d=>
    have q:=a<|.lit (.bool So);rw[b,hz,hw]at q;exact Sz q<|by simp[sY,No]
  rw[hrun,i];rfl
 cases hw:fy f with
 |none=>
  have q1:=a<|.lit (.bool So);have q2:=a<|.lit (.bool Sn);rw[b,hz,hw]at q1 q2;exact Sz (G q1.symm q2) (by simp[sY])
 |some d=>
  have q:=a<|.lit (.bool So);rw[b,hz,hw]at q;let⟨k,p⟩:=y;have j:k=No d.1 d.2:=q;subst j;rw[hrun,LH hR];rfl
end
def oO(w:Ub)(b B:N)(c:Uy)(a:Vw):Prop:=∀i (h:i<J a),∃g o v,c=S ⟨g,o,U⟩/\g<B/\E w ⟨g,o+i,U⟩=S v/\mf w b v a[i]
theorem oO.keep{w':Ub}{a}(h:oO w n m p a)(k:Sw m w w')(c:n<m):oO w' n m p a:=λj f=>by let⟨g,o,v,e,b,d,i⟩:=h j f;exact⟨g,o,v,e,b,oB k d b,i.keep<|k.5 n c⟩
def FZ(b a n i:N):Bool:=Jd (b=2)&&(Jd (a=1)&&Jd (i+1=n))
def Np(c:Bool)(f:Wn):Bool:=if c then NM f else Ax f 4
def NY(c:Bool)(f:Wn):I:=if c then fp f else NF f 4
def bg(q:N->Bool):N->List (List UInt8)->Bool
 |_,[]=>So
 |i,f::r=>Np (q i) f&&bg q (i+1) r
def GI(q:N->Bool):N->List (List UInt8)->List I
 |_,[]=>[]
 |i,f::r=>NY (q i) f::GI q (i+1) r
theorem zG(q:Ys)(f:Wn):∀(l:Vw)(i:N),bg q i (l++[f])=(bg q i l&&Np (q<|i+J l) f)
 |[],i=>by simp[bg]
 |x::r,i=>by rw[cW,bg,bg,zG q f r<|i+1,Bool.and_assoc,bA,show i+1+J r=i+(J r+1) by omega]
theorem yU(q:Ys)(f:Wn):∀(l:Vw)(i:N),GI q i (l++[f])=GI q i l++[NY (q<|i+J l) f]
 |[],i=>by simp[GI]
 |x::r,i=>by rw[cW,GI,GI,yU q f r<|i+1,cW,bA,show i+1+J r=i+(J r+1) by omega]
theorem zj(q:Ys):∀(l:Vw)(i:N),J (GI q i l)=J l
 |[],_=>R
 |x::r,i=>by rw[GI,bA,bA,zj q r]
theorem zX(q:Ys):∀(l:Vw)(i k:N)(h:k<J l),Np (q<|i+k) l[k]=Sn->bg q i l=Sn
 |x::r,i,0,_,e=>by rw[bg];simp only[fW,eM]at e;rw[e];rfl
 |x::r,i,k+1,h,e=>by rw[bg,zX q r (i+1) k SI (by rw[show i+1+k=i+(k+1) by omega];simpa using e),Bool.and_false]
def sy(c:N)(b:Ub)(q:Ys)(a:Vw)(e:Ending):Prop :=
 (bg q 0 a=So->∃v,e=Rt (St #[v,Sb So])/\Sx b c 2 1 v (J a) ((GI q 0 a).map (Si S6)))/\(bg q 0 a=Sn->e=Rt (St #[X U 0 0,Sb Sn]))
theorem IK(c){b:Vw}(x:Q (k=J b))(hn:k<=1000000)(W_:c<g)(U_:g<=Z w.1)(ha:Q (oO w c g p b))(Z_:Q (∀o∈b,J o<=1000000)):
 Sk prog 198 #[Nv n m,X p k B] w λe d=>Sw (Z w.1) w d/\sy (Z w.1) d (FZ n m k) b e:=by
 have F_:Q (∀i,FZ n m k i=(Jd (n=2)&&(Jd (m=1)&&Jd (i+1=k)))):=Y λi=>R;generalize FZ n m k=q at*;unfold Nv
 go_in
 go_wp2
 go_loopw [6,15] (λap i wr=>∃a:N,a<=k/\i=H a/\Q (Sw (Z w.1) w wr)/\Z w.1<Z wr.1/\E wr (A (Z w.1) 0)=S (H n)/\E wr (A (Z w.1) 1)=S (H m)/\Q (bg q 0 (b.take a)=So)/\Q (Sx wr (Z w.1+1) 2 1 ap a ((GI q 0<|b.take a).map (Si S6)))) λ_ i _=>k-(JB i).toNat
 .exact⟨0,aN,R,Y<|Xb (Xb Rf _) _,SB,sP,sP,Y R,Y<|K5 _ _⟩
 obtain⟨a,hk,rfl,l,L,Y_,X_,z,F⟩:=hrel;have af:=l.4;by_cases az:a<k
 .have j:a<J b:=oN x.o;obtain⟨aq,a0,a1,rfl,hg,ar,y,c2,rfl,v,u⟩:=(ha.keep (l.mono U_) W_) a j;replace v:=v.1;have P:=Z_ b[a] (aH j);have P_:=Y (λh=>zX q b 0 a j<|by rw[aV];exact h);have R_:Q (bg q 0 (b.take<|a+1)=(bg q 0 (b.take a)&&Np (q a) b[a])):=Y (by rw[bN j,zG,dH,jZ O,aV]);have S_:Q (GI q 0 (b.take<|a+1)=GI q 0 (b.take a)++[NY (q a) b[a]]):=Y (by rw[bN j,yU,dH,jZ O,aV]);have T:Q ((q a=So->Sk prog 220 #[Hm c y (J b[a]) c2] wr λe d=>e=Rt (St #[H<|NY (q a) b[a],Sb (Np (q a) b[a])])/\Sw (Z wr.1) wr d)/\(q a=Sn->Sk prog 162 #[Hm c y (J b[a]) c2] wr λe d=>e=Rt (St #[H<|NY (q a) b[a],Sb (Np (q a) b[a])])/\Sw (Z wr.1) wr d)):=Y ⟨λh=>by rw[h];exact II c (Y<|oI u O) (Y R) v P aA,λh=>by rw[h];exact pJ (S ⟨c,y,U⟩) (J b[a]) c2 b[a] c (Z wr.1) wr (Y<|oI u O) (Y R) P aA⟩;clear u;generalize b[a]=o at*;generalize Np (q a) o=ok at*;generalize NY (q a) o=va at*;have K:=F_ a;have e1:((n:I)==2)=Jd (n=2):=eQ.2 (by rw[iA,I2];omega);have e2:((m:I)==1)=Jd (m=1):=eQ.2 (by rw[iA,I2];omega);have e3:((a:I)==(k:I)-1)=Jd (a+1=k):=eQ.2 (by rw[iA,I2];omega);generalize Jd (n=2)=d1 at*;generalize Jd (m=1)=d2 at*;generalize Jd (a+1=k)=d3 at*;cases d1<;>cases d2<;>cases d3
  all_goals
   have V:=Y K;clear K;go_wp2_with fail
   (first|(go_at_call 220;refine(T.1 V).mono ?_)|(go_at_call 162;refine(T.2 V).mono ?_))
   rintro e z_⟨rfl,f⟩;have C:=Y<|l.trans (f.mono af);have s:=Y<|rk F f;have T_:=Y<|f.5 (Z w.1) L;have ad:=aX L f.4;clear f;cases ok
   .go_wp2;exact YL (v:=St #[Hq,Sb Sn]) ⟨C,λh=>Sz (G (P_ sP).symm h) vY,λ_=>R⟩
   go_wp2_with (at_builtin;refine YC RH s ?_)
   intro v1 M W r ab V_;have Q_:Q (Sx M (Z w.1+1) 2 1 v1 (a+1) ((GI q 0<|b.take (a+1)).map (Si S6))):=Y (by rw[S_.o,Yl];exact W);have O_:=Y (Xy (Xb C _) r (s.alloc _) O (by rw[ny];omega));have t:=G (YJ r (s.alloc _) (@iJ (Z w.1)) (by rw[ny];omega)) (G (gF z_ _ (Z w.1) ad) T_);have c0:=G (Xc t) Y_;have c1:=G (Xc t) X_;have ac:Z w.1<Z M.1:=aX (by rw[ny];omega) r.4;clear W r ab V_ t;go_wp2;exact⟨⟨a+1,O,gM,O_,ac,c0,c1,Y (by rw[R_.o,z.o];rfl),Q_⟩,SA⟩
 have I_:b.take a=b:=aW<|oN x.o;have N_:Q (sy (Z w.1) wr q b<|Rt (St #[u6,Sb So])):=Y ⟨λ_=>⟨u6,R,by have:=F.o;rw[I_,show a=J b by have:=x.o;omega]at this;exact Zk this<|gX⟩,λh=>by have:=z.o;rw[I_,h]at this;exact Sz this vY⟩;go_wp2;refine YL (v:=St #[u6,Sb So]) ⟨l,N_⟩
section
open Go.Maps
theorem zp(q:Ys):∀(r:Vw)(i:N),bg q i r=(Rg (J r)).all λj=>match r[j]? with|some f=>Np (q<|i+j) f|none=>So
 |[],_=>R
 |f::r,i=>by rw[bg,bA,List.range_succ_eq_map,vi,List.all_map,zp q r<|i+1];congr 1;congr 1;funext j;simp only[Function.comp,List.getElem?_cons_succ];rw[show i+1+j=i+(j+1) by omega]
theorem Ag{f}:Jd (0<=Gb f)=Ax f 4:=by
 unfold Gb;cases h:Ax f 4 with
 |true=>rw[aU R];simp
 |false=>rw[aM vY];rfl
theorem MZ{w:Wn}{r:Vw}{f}:jw (w::r) (n+1) f=Np (Jd (w=fw)&&Jd (n=1)) f:=by
 unfold jw Np;by_cases h:w=fw
 .by_cases a:n=1;·rw[aU ⟨by rw[h];rfl,O⟩];simp[h,a]
  rw[aM λq=>a O,Ag];simp[a]
 rw[aM λq=>h<|gQ q.1,Ag];simp[h]
theorem LC{w:Wn}{r:Vw}:gu (w::r) (J r)=bg (λi=>Jd (w=fw)&&Jd (i=1)) 0 r:=by
 rw[zp];unfold gu;congr 1;funext i;rw[List.getElem?_cons_succ];cases r[i]? with
 |none=>rfl
 |some f=>simp only[MZ,aV]
theorem zc{q a:Ys}(h:∀i,q i=a i):∀(r:Vw)(i:N),bg q i r=bg a i r
 |[],_=>R
 |f::r,i=>by rw[bg,bg,h i,zc h r]
theorem Lx(b:1<=n)(c:n<=10):(Kz n).size=NP n:=by have a:n=1\/n=2\/n=3\/n=4\/n=5\/n=6\/n=7\/n=8\/n=9\/n=10:=O;obtain rfl|rfl|rfl|rfl|rfl|rfl|rfl|rfl|rfl|rfl:=a<;>decide
theorem zF(w:Wn)(n:N):match fy w with
 |none=>NJ w (n+1)=0
 |some (ro,co)=>NJ w (n+1)≠0/\(dr ro co n=So↔n+1=NJ w (n+1))/\(dr ro co n=So->∀i,FZ ro co n i=(Jd (w=fw)&&Jd (i=1)))/\ro<=3/\(ro=2->1<=co/\co<=10)/\(ro=3->1<=co/\co<=3):=by
 unfold fy NJ;by_cases a:D2 w=0
 .have b:w≠fw:=λe=>by subst e;exact Sz a vY
  rw[aM λq:D2 w≠0=>q a,aM λq:D2 w≠0=>q a];by_cases e5:w=eh
  .subst e5;rw[aU R,aU R];refine⟨vY,?_,λ_ i=>by simp[FZ,b],vY,vY,vY⟩;simp[dr]
  rw[aM e5,aM e5];by_cases e4:w=fm
  .subst e4;rw[aU R,aM vY,aM vY,aM vY,aU R];refine⟨by split<;>omega,?_,λ_ i=>by simp[FZ,b],vY,vY,vY⟩;simp only[dr];split<;>simp<;>omega
  rw[aM e4];by_cases e3:w=fg
  .subst e3;rw[aU R,aU R];refine⟨vY,?_,λ_ i=>by simp[FZ,b],vY,vY,vY⟩;show((n==NQ 1)=So)↔_;rw[show NQ 1=1 by decide];simp
  rw[aM e3,aM e3];by_cases e2:w=Vn
  .subst e2;rw[aU R,aM vY,aU R];refine⟨vY,?_,λ_ i=>by simp[FZ,b],vY,vY,vY⟩;show((n==NQ 2)=So)↔_;rw[show NQ 2=3 by decide];simp
  rw[aM e2];by_cases e1:w=ew
  .subst e1;rw[aU R,aU R];refine⟨vY,?_,λ_ i=>by simp[FZ,b],vY,vY,vY⟩;show((n==NQ 3)=So)↔_;rw[show NQ 3=1 by decide];simp
  rw[aM e1,aM e1,aM e2,aM e4]
 rw[aU a,aU a];let⟨⟨r,s⟩,_⟩:=oL a;let⟨k,h⟩:∃k:N,D2 w=k:=⟨(D2 w).toNat,O⟩;have d:1<=k:=O;have f:k<=10:=O;rw[h,Lx d f];refine⟨O,?_,λl i=>?_,vY,λ_=>⟨by simpa using d,by simpa using f⟩,λq=>Sz q vY⟩
 .show((n==NP _)=So)↔_;rw[iA,dM];omega
 have m:n=NP k:=by have:((n==NP ((k:I).toNat))=So):=l;rw[iA,dM]at this;exact this
 rw[dM];obtain q|⟨j,t,u,o,p⟩:=oH w 10 1;·exact Sz q a
 have g:j=k:=by have:D2 w=j:=o;omega
 subst g;by_cases c:j=1
 .subst c;have:w=fw:=p.symm;subst this;rw[m];show(Jd _&&(Jd _&&Jd (i+1=NP 1)))=_;rw[show NP 1=2 by decide];simp
 have b:w≠fw:=λe=>by subst e;have:D2 fw=1:=vY;omega
 simp[FZ,c,b]
theorem LU(w:Wn)(r:Vw):C0 (w::r)=match fy w with
 |none=>5
 |some (c,b)=>if dr c b (J r)=So then (if bg (FZ c b (J r)) 0 r=So then 0 else 7)else 6:=by
 have h:=zF w (J r);unfold C0;simp only[List.headD_cons,bA,vr];cases hw:fy w with
 |none=>
  rw[hw]at h;rw[aU h]
 |some g=>
  let⟨c,b⟩:=g;rw[hw]at h;let⟨e,d,f,_⟩:=h;rw[aM e];by_cases a:dr c b (J r)=So
  .rw[aM λq=>q<|d.1 a,LC,zc λi=>(f a i).symm];simp only[a,gG]
  rw[aU λq=>a<|d.2 q];simp only[a];rfl
end
section
attribute [local go_sem] Oper.semAt_some
theorem DH{p q}(h:p<=q)(a:n∈Mq f p):n∈Mq f q:=by have:=om.1 a;exact om.2 ⟨O,this.2⟩
theorem DS(h)(L:E w (A n 0)=S (Hl m k B))(r:Q (Cp w m k B f))(M:Q (XA f))(C:Q (Jn w))(hK:k<=100)(z:Q (¬h m))(aa:Q (¬h 3)):
 pp Fence.wide 7 prog 203 #[Hn n] (λx:N=>#[H x]) (λx _=>x∈Mq f (64*k)) (Zf (Z w.1) h) (λxs=>xs=Mq f (64*k)) (J (Mq f<|64*k)) w:=by
 intro a2 s t l hl v_ F g;have K:n<Z w.1:=aI w _ L;have ar:=oB l L K;have T:=Y<|r.of_block (l.5 m r.lt);have ab:(3: N)<Z w.1:=aI w _<|C 0 vY;have W:=Y<|C.of_block (l.5 _ ab);refine iD func203 R JV ?_ R;simp only[ntmps203,xY,Nat.reduceAdd,Nat.reduceSub];gi_wp2
 gi_loopw [8] (λq wr=>∃a:N,a<=k/\q=H a/\Q (s (Mq f<|64*a) wr)/\Zf (Z w.1) h t wr) λq _=>k-(JB q).toNat
 .exact⟨0,aN,R,Y (by rw[Nat.mul_zero];exact Y g),Zf.refl _⟩
 obtain⟨a,hk,rfl,d,o⟩:=hrel;by_cases ad:a<k
 .have V:=o.cell (T.cell ad) z;have c:=Y<|ji.start M a;have aj:=M a;generalize al:f a=yk at V c aj;generalize wr=wo at*;have aq:S6.wrap ((a:I)*64)=(a:I)*64:=by rw[dF];omega
  have e:=Y o;gi_wp2
  gi_loopw [4] (λy wr=>∃b p:N,y=Si .u64 b/\Q (ji f a p b)/\Q (s (Mq f<|64*a+p) wr)/\Q (Zf (Z w.1) h t wr)) λy _=>(JB y).toNat
  .exact⟨yk,0,R,c,d,e⟩
  obtain⟨b,p,rfl,c,d,e⟩:=hrel;have v:=c.2;by_cases g:b=0
  .subst g;gi_wp2;exact⟨⟨a+1,O,gM,Y (c.done▸d),e⟩,SA⟩
  let⟨P,j,n3,n4⟩:=c.next g;have V_:=Y j;have a1:((b:I)==0)=Sn:=SB
  have az:IntKind.u64.wrap ((b:I)-1)=((b-1:N):I):=by rw[iV];omega
  have a0:=bits_and_u64_nat b (b-1) v O;have r_:=Y<|Fj v g wr (Y<|W.of_block (e.2 _ O aa));have I_:J (Mq f<|64*a+p)<J (Mq f<|64*k):=by have u:=fI List.length j;have h2:=Fx (W:=f) (p:=64*a+(Lib.ctz 64 b+1)) (q:=64*k) O;rw[aQ]at u;simp at u;omega
  have K_:64*a+Lib.ctz 64 b∈Mq f (64*k):=DH (q:=64*k) (p:=64*a+(Lib.ctz 64 b+1)) O (by rw[j];simp);let⟨fn,tmps,ao,bo,N_,A_⟩:=(Y F) _ (64*a+Lib.ctz 64 b) wr d K_ I_;generalize Lib.ctz 64 b=i at*;generalize b&&&(b-1)=yn at*;have ap:S6.wrap ((a:I)*64+(i:I))=(a:I)*64+(i:I):=by rw[dF];omega
  have F_:(((64*a+i:N)):I)=(a:I)*64+(i:I):=O;rw[F_]at N_;gi_wp2;refine⟨JV,(bM.2 r_).mono ?_⟩;rintro X_ w1⟨rfl,af⟩;subst af;gi_wp2;refine A_.mono ?_;rintro X_ W3⟨rfl,z_,H_,_⟩;gi_wp2;exact⟨⟨yn,i+1,R,Y P,Y (V_.o▸(Y z_)),Y<|e.trans H_⟩,SA⟩
 have ac:a=k:=O;gi_wp2
 go_end0
 exact⟨⟨_,R⟩,_,R,ac▸d⟩
end
section
open Go.Deep
variable{H_:Type}{enc:TypeId×Uj->H_}{P:Yh}{w:Ub}{base:N}{spare:N->Bool}{held:Bool}
theorem Jh{a}{v:Uj}(h:E w a=S v):a.1<Z w.1:=by
 unfold World.cell? at h;split at h
 .rename_i c _ _ b;exact(aS.1 b).1
 cases h
theorem BT{α:Type}[Inhabited α]{z k:TypeId}{C s}{t:Wo}{x:DataW H_×List MemPlace}(L:P.underlying z=S (.slice k))(F:P.cellsOf k=s)(v:0<s)(B:N->N->α->Prop)(hQ:∀b o a p M,(∀j,j<s->E w (A b<|o+j)=a[j]?)->J a=s->DataW.trod enc P w base spare held p k a=S M->∃x,B b o x)(T:DataW.trod enc P w base spare held C z t=S x):
 ∃(h:Uy)(q:List α)(c:N),t=[X h (J q) c]/\J q<=maxLen/\∀i (d:i<J q),∃b o,h=S (A b o)/\b<Z w.1/\B b (o+i*s) q[i]:=by
 obtain⟨rfl,_⟩|⟨h,len,cap,m,p,V,Pl,rfl,_,hl,hm,hmm,_,n⟩:=open_slice L T;·exact⟨U,[],0,R,aN,λi d=>Sz d sP⟩
 rw[F]at n;have M_:len<=m:=by rw[hmm];split<;>omega
 have r:∀i,i<len->∃a,J a=s/\(∀j,j<s->E w ((h.add<|i*s).add j)=a[j]?)/\DataW.trod enc P w base spare held p k a=S (V i,Pl i):=λi d=>by obtain⟨a,f,e⟩:=n i O;obtain⟨_,g,l⟩:=World.cells?_some f;exact⟨a,g,l,e⟩
 obtain⟨b,o,y⟩:=h;by_cases W:len=0
 .subst W;exact⟨S ⟨b,o,y⟩,[],cap,R,aN,λi d=>Sz d sP⟩
 have K:y=U:=by obtain⟨a,f,e,_⟩:=r 0 O;have g:=e 0 v;rw[aC O]at g;simpa [Addr.add]using World.cell?_spot g
 subst K;obtain⟨B_,F_⟩:=choose_lt (α:=α) (n:=len) (p:=λi x=>b<Z w.1/\B b (o+i*s) x) (λi d=>by
  obtain⟨a,f,e,g⟩:=r i d;have l:=λj G_=>by have:=e j G_;rw[Addr.add_mid,Addr.add_mid]at this;exact this
  obtain⟨x,n⟩:=hQ b (o+i*s) a p _ l f g;have u:=l 0 v;rw[aC O]at u;exact⟨x,Jh u,n⟩)
 refine⟨S<|A b o,(Rg len).map B_,cap,sP,SB,λi d=>?_⟩;simp only[bK,gI]at d;obtain⟨f,e⟩:=F_ i d;exact⟨b,o,R,f,by simpa using e⟩
end
