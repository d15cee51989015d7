import Derived.Test.YtcncjgijikoapaaGreatDoorDM1
import Derived.Test.YtcncjgijikoapaaGreatDoorW17
import Derived.RangeFuncRecord
import Derived.Deep.CutRange
namespace Go.Proofs.YtcncjgijikoapaaGreatDoor
set_option maxHeartbeats 2000000
set_option maxRecDepth 100000
open _root_ renaming Array.size->Z,List.length->J,Nat->N,Int->I,rfl->R,Option.some->S,Option.none->U,Bool.true->So,Bool.false->Sn,List.range->Rg,Decidable.decide->Jd,absurd->Sz
open Go renaming World.cell?->E,World.ownsRow->Sx,IntKind.i64->S6,Ending.returned->Rt,RowKit.Below->Sw,Calls->Sk,RowKit.intOf->JB,World.alloc->D,World.setCell->Se,Obj.cells->Sc
open Value renaming slice->X,int->Si,agg->Sa
open Go.RowKit Go.Proofs.Tryz
variable{r:Bool}{t T z:I}{n m k B g i:N}{w v:Ub}{a A_:Uj}{M:Vp}{s:Wa}{l:Wc}{x:Wi}{f F:Wk}{y:Wo}{q:Xe}{E_:Zh}
def oh(o:Option N):I:=match o with
 |some a=>(a:I)
 |none=>-1
def Uv(c:Wk)(d:N)(b:Zm)(a:N):Zm:=if a≠d/\(b=U\/∃k,b=S k/\c a > c k)then S a else b
theorem Cm{cnt b}(h:n<J s):NI cnt b (s.take<|n+1)=Uv cnt b (NI cnt b<|s.take n) s[n]:=by unfold NI Uv;rw[bN h,dT];rfl
def L0(a:List Wa)(b:N):I:=oh<|NI (λc=>J (a.getD c [])) b (a.getD b [])
theorem DO:∀(e:Wa){a:N},NI f n e=S a->a∈e:=λe=>by
 have i:∀(l:Wa)(d:Zm)(a:N),l.foldl (λd a=>if a≠n/\(d=U\/∃k,d=S k/\f a > f k)then S a else d) d=S a->d=S a\/a∈l:=λl=>by
  induction l with
  |nil=>intro d a h;exact bC h
  |cons c l g=>
   intro d a h;rw[iM]at h;obtain b|b:=g _ a h
   .split at b
    .injection b with b;exact aZ<|by rw[b];exact cI
    exact bC b
   exact aZ<|cN _ b
 intro a h;obtain b|b:=i e U a h;·cases b
 exact b
theorem D9(h:Sx w n m k a B y)(e:v.1=w.1):Sx v n m k a B y:=by unfold World.ownsRow at*;rw[e];exact h
theorem CT(L dc)(a:List Wa)(S_)(hd:Q (XR w S_ m L<|a.map Xi))(K:Q (n=J a))(hn:n<=1000)(hB:m<=Z w.1)(M:Q (∀ac∈a,J ac<=1000/\∀d∈ac,d<n)):
 Sk prog 66 #[X L n dc] w λp s=>∃z,p=Rt z/\Sw (Z w.1) w s/\Sx s (Z w.1) 2 1 z n (((Rg n).map (L0 a)).map (Si S6)):=by
 go_in
 go_wp2
 go_loopw [3,4] (λz u wr=>∃b:N,b<=n/\u=H b/\Q (Sw (Z w.1) w wr)/\Q (Sx wr (Z w.1) 2 1 z b<|((Rg b).map (L0 a)).map (Si S6))) λ_ u _=>n-(JB u).toNat
 .exact⟨0,aN,R,Y<|Xb Rf _,Y (by have:=eI (base:=Z w.1) (e:=2) (size:=1) w #[] 0 sP sP R;simpa using this)⟩
 obtain⟨b,hb,rfl,M_,Q_⟩:=hrel;by_cases bl:b<n;rotate_left
 .have a3:b=n:=O;subst a3;go_wp2;go_ret;exact⟨_,R,M_,Q_⟩
 have P:b<J a:=oN K.o
 have B:Q (∀t (i:t<J a),∃g l h o,L=S (A g l)/\g<m/\E w (A g<|l+t)=S (X h (J a[t]) o)/\Xf w S_ m h (Xi a[t])):=Y (λt i=>by let⟨g,l,p,X_,h,o,e1,e2⟩:=hd t (by simpa using i);have e3:(a.map Xi)[t]'(by simpa using i)=Xi a[t]:=sP;rw[e3]at e1 e2;exact⟨g,l,h,o,p,X_.2,by rw[e1];simp[Xi],e2⟩)
 obtain⟨g,l,ab,cb,rfl,X_,F,y⟩:=B b P;have P_:Q (∀t (i:t<J a),∃h o,E w (A g<|l+t)=S (X h (J a[t]) o)):=Y (λt i=>by let⟨ba,bn,h,o,p,_,e1,_⟩:=B t i;injection p with p;injection p with e4 e5;subst e4 e5;exact⟨h,o,e1⟩)
 have C:=Y<|M.o a[b] (aH P);have bi:=C.1;have ap:=Y y;have ao:Q (a.getD b []=a[b]):=Y (by simp[P]);have al:=Y F;clear y F B;generalize a[b]=e at*;go_wp2_with fail
 generalize wr=wo at*
 go_loopw [5,6] (λT_ u wq=>∃j:N,j<=J e/\u=H j/\T_=H (oh<|NI (λd=>J (a.getD d [])) b (e.take j))/\Q (Sw (Z w.1) w wq)/\Q (wq.1=wo.1)) λ_ u _=>J e-(JB u).toNat
 .exact⟨0,aN,R,R,M_,Y R⟩
 obtain⟨j,hj,rfl,rfl,f,v⟩:=hrel;have F:=G (XU f O) al;by_cases x:j<J e;rotate_left
 .have a5:j=J e:=O;subst a5;have aq:Q (oh (NI (λd=>J (a.getD d [])) b (e.take (J e)))=L0 a b):=Y (by unfold L0;rw[gC,ao.o]);rw[aq.o];have R_:=Y<|D9 Q_ v;have bm:=f.4;have az:Q (((Rg<|b+1).map (L0 a)).map (Si S6)=((Rg b).map (L0 a)).map (Si S6)++[H<|L0 a b]):=Y (by rw[dN];simp);generalize L0 a b=y at*;go_wp2_with (at_builtin;refine YC RH R_ ?_)
  intro v8 w8 aa Y_ a6 a0;have ad:=Y (Xy (vT f O _) Y_ (R_.alloc _) aA SB);have ar:Q (Sx w8 (Z w.1) 2 1 v8 (b+1) (((Rg<|b+1).map (L0 a)).map (Si S6))):=Y (by rw[az.o,jO];exact aa);clear aa Y_ a6 a0;go_wp2;exact⟨⟨b+1,O,gM,ad,ar⟩,SA⟩
 obtain⟨T_,ov,rfl,bc,U_⟩:=ap j (by simpa [Xi]using x);have ej:=G (XU f O) U_;have e3:(Xi e)[j]'(by simpa [Xi]using x)=((e[j]:N):I):=by simp[Xi]
 rw[e3]at ej;have bb:=C.2 e[j] (aH x);have T:=Y (Cm (cnt:=λd=>J (a.getD d [])) (b:=b) x);have af:Q (∀k,NI (λd=>J (a.getD d [])) b (e.take j)=S k->k<n):=Y λk i=>C.2 k<|iO (DO _ i);clear U_ e3;generalize e[j]=c at*;generalize NI (λd=>J (a.getD d [])) b (e.take j)=bs at*;have V:c<J a:=oN K.o;let⟨a1,c1,V_⟩:=P_ c V;have e1:=G (XU f O) V_;have N_:Q (J (a.getD c [])=J a[c]):=Y (by simp[V]);have bf:=(M a[c] (aH V)).1;clear V_;by_cases r:c=b
 .have q:Q (Uv (λd=>J (a.getD d [])) b bs c=bs):=Y (by unfold Uv;rw[aM λk=>k.1 r]);have q1:((c:I)==b)=So:=by simp[r]
  have q2:((c:I) != (b:I))=Sn:=by simp[r]
  clear r e1;go_wp2_with fail
  refine Y7 (λ_=>True) λig=>?_;refine Xn 0 ?_;(iterate 3 refine Rm ?_);refine KH 4 ?_;refine KH 5 ?_;refine KH 6 ?_;refine KH 7 ?_;refine KH 8 ?_;refine KH 9 ?_;refine KH 10 ?_;refine KH 11 ?_;refine KH 12 ?_;refine KH 13 ?_;refine KH 14 ?_;refine KH 15 ?_;refine KH 16 ?_;refine KH 17 ?_;refine KH 18 ?_;refine KH 19 ?_;refine KH 20 ?_;refine Xn 21 ?_;refine Yq ?_;go_wp2;exact⟨⟨j+1,O,gM,by rw[T.o,q.o],Y f.drew,Y v.o⟩,SA⟩
 have q1:((c:I)==b)=Sn:=SB
 have q2:((c:I) != (b:I))=So:=SB
 cases bs with
 |none=>
  have q:Q (Uv (λd=>J (a.getD d [])) b U c=S c):=Y (by unfold Uv;rw[aU ⟨r,bC R⟩]);have W:Q (oh U=-1):=Y R;rw[W.o];clear e1;go_wp2_with fail
  refine Y7 (λ_=>True) λig=>?_;refine Xn 0 ?_;(iterate 6 refine Rm ?_);refine KH 7 ?_;refine KH 8 ?_;refine KH 9 ?_;refine KH 10 ?_;refine KH 11 ?_;refine KH 12 ?_;refine KH 13 ?_;refine KH 14 ?_;refine KH 15 ?_;refine KH 16 ?_;refine KH 17 ?_;refine KH 18 ?_;refine KH 19 ?_;refine Xn 20 ?_;refine Xn 21 ?_;refine Yq ?_;go_wp2;exact⟨⟨j+1,O,gM,by rw[T.o,q.o];rfl,Y f.drew,Y v.o⟩,SA⟩
 |some k=>
  have be:=af k R;have I_:k<J a:=oN K.o;let⟨a2,c2,W_⟩:=P_ k I_;have e2:=G (XU f O) W_;have O_:Q (J (a.getD k [])=J a[k]):=Y (by simp[I_]);have bh:=(M a[k] (aH I_)).1;have W:Q (oh (S k)=(k:I)):=Y R;rw[W.o];clear W_;by_cases Z_:J a[c] > J a[k]
  focus
   have q:Q (Uv (λd=>J (a.getD d [])) b (S k) c=S c):=Y<|by unfold Uv;rw[aU ⟨r,aZ ⟨k,R,by show J (a.getD c []) > J (a.getD k []);rw[N_.o,O_.o];exact Z_⟩⟩]
  rotate_left
  focus
   have q:Q (Uv (λd=>J (a.getD d [])) b (S k) c=S k):=Y (by
    unfold Uv;rw[aM (λL_=>by
     obtain L_|⟨bo,q3,q4⟩:=L_.2;·cases L_
     injection q3 with q3
     subst q3;have q5:J (a.getD c []) > J (a.getD k []):=q4;rw[N_.o,O_.o]at q5;exact Z_ q5)])
  all_goals (
   generalize J a[c]=la at*;generalize J a[k]=lk at*;go_wp2_with fail
   refine Y7 (λs=>E s (A g<|l+c)=S (X a1 la c1)/\E s (A g<|l+k)=S (X a2 lk c2)) λig=>?_;refine Xn 0 ?_;(iterate 21 refine Rm ?_);refine Yq ?_;go_wp2
   exact⟨⟨j+1,O,gM,by rw[T.o,q.o];rfl,Y f.drew,Y v.o⟩,SA⟩)
section
variable {tg: N -> Wa}
open Classical in
noncomputable def Zq(tg:Yr)(n b:N):Wa:=(Rg n).filter λa=>Jd (JO tg a b)
theorem Jo{n a b}:a∈Zq tg n b↔a<n/\JO tg a b:=by unfold Zq;simp
theorem Fe(n b):(Zq tg n b).Nodup:=List.nodup_range.sublist jR
theorem VU{n a c}(ha:a<n)(h:JO tg c a)(g:c≠a):J (Zq tg n c)<J (Zq tg n a):=by
 have d:a∉Zq tg n c:=λk=>g<|Z1 h (Jo.1 k).2
 have e:=fL.2 ⟨d,Fe n c⟩;have f:(a::Zq tg n c) ⊆ Zq tg n a:=λx b=>by
  obtain rfl|b:=cH.1 b;·exact Jo.2 ⟨ha,Zd h.2⟩
  let⟨i,j⟩:=Jo.1 b;exact Jo.2 ⟨i,J8 j h⟩
 have:=kV e f;simp only[bA]at this;omega
theorem Uk{n b}(a:b<n):((Rg n).map (Zq tg n)).getD b []=Zq tg n b:=by simp[a]
theorem BP{n a b}(e:∀x,Re tg x->x<n)(h:O6 tg a b):L0 ((Rg n).map (Zq tg n)) b=(a:I):=by
 have f:=e b h.1.2;have d:=e a h.1.1;have m:NI (λa=>J (((Rg n).map (Zq tg n)).getD a [])) b (Zq tg n b)=S a:=by refine Co (Jo.2 ⟨d,h.1⟩) h.2 λc g j i=>?_;let⟨k,l⟩:=Jo.1 g;rw[Uk k,Uk d];exact VU d (h.3 c l j) i
 unfold L0;rw[Uk f,m];rfl
theorem BJ{n b}(d:b<n)(h:∀c,JO tg c b->c=b):L0 ((Rg n).map (Zq tg n)) b=-1:=by unfold L0;rw[Uk d,Cf λa ha=>h a (Jo.1 ha).2];rfl
end
section
variable {tg: N -> Wa}
structure YX(tg:Yr)(n:N)(P:Wc):Prop where
 len:J P=n
 get:∀b,b<n->(∃a:N,O6 tg a b/\P.getD b 0=(a:I))\/((∀c,JO tg c b->c=b)/\P.getD b 0=-1)
open Classical in
theorem Wf{n}(g:∀x,Re tg x->x<n)(f:∀b,b<n->(∃a,O6 tg a b)\/∀c,JO tg c b->c=b):YX tg n ((Rg n).map (L0<|(Rg n).map (Zq tg n))):=by
 refine⟨sP,λb d=>?_⟩;have e:((Rg n).map (L0<|(Rg n).map (Zq tg n))).getD b 0=L0 ((Rg n).map (Zq tg n)) b:=by simp[d]
 rw[e];obtain⟨a,ha⟩|h:=f b d;·exact bC ⟨a,ha,BP g ha⟩
 exact aZ ⟨h,BJ d h⟩
def Nj(P:Wc)(b:N):Wa:=(Rg (J P)).filter λc=>P.getD c 0==(b:I)
def XT(P:List I):N->N->List N
 |0,b=>[b]
 |m+1,b=>b::(Nj P b).flatMap (XT P m)
theorem o8{P b c}:c∈Nj P b↔c<J P/\P.getD c 0=(b:I):=by unfold Nj;rw[fG,bE,iA]
theorem Kf{n P}(h:YX tg n P){b c}(f:c∈Nj P b):O6 tg b c:=by
 let⟨e,d⟩:=o8.1 f;obtain⟨a,ha,ea⟩|⟨_,ea⟩:=h.2 c (by rw[<-h.1];exact e)
 .rw[ea]at d;have:a=b:=O;rw[<-this];exact ha
 rw[ea]at d;omega
theorem Ji{n P}(h:YX tg n P):∀(m b x:N),Re tg b->x∈XT P m b->JO tg b x
 |0,b,x,hb,a=>by
  have:x=b:=by simpa [XT]using a
  rw[this];exact Zd hb
 |m+1,b,x,hb,a=>by
  rw[XT,cH]at a;obtain rfl|a:=a;·exact Zd hb
  let⟨c,e,a⟩:=bV.1 a;have d:=Kf h e;exact J8 d.1<|Ji h m c x d.1.2 a
theorem qY{r P}(h:YX tg r P):∀(m b:N),Re tg b->(XT P m b).Nodup
 |0,b,_=>by simp[XT]
 |m+1,b,hb=>by
  rw[XT,fL];refine⟨λd=>?_,?_⟩
  .obtain⟨c,a,d⟩:=bV.1 d;have g:=Kf h a;exact g.2<|Z1 g.1 (Ji h m c b g.1.2 d)
  unfold List.Nodup;rw[iK];refine⟨λc a=>qY h m c (Kf h a).1.2,?_⟩;have p:(Nj P b).Nodup:=List.nodup_range.sublist jR;refine jT (λ{c i} a o j x d y q f=>?_) p;subst f;have e:=Kf h a;have id:=Kf h o;have l:=Ji h m c x e.1.2 d;have n:=Ji h m i x id.1.2 q;obtain k|k:=TY l n;·exact e.2<|Z1 e.1 (id.3 c k j)
  exact id.2<|Z1 id.1 (e.3 i k λf=>j f.symm)
theorem o9{n P}(h:YX tg n P)(c:∀x,Re tg x->x<n)(m){b}(a:Re tg b):J (XT P m b)<=n:=YS (qY h m b a) λx d=>c x (Ji h m b x a d).2
theorem qJ{n P}(h:YX tg n P)(e:∀x,Re tg x->x<n){b c}(d:c∈Nj P b):J (Zq tg n b)<J (Zq tg n c):=by have a:=Kf h d;exact VU (e c a.1.2) a.1 a.2
theorem rr(n b):J (Zq tg n b)<=n:=aJ (fJ _ _) sP
theorem B8{n P}(h:YX tg n P)(e:∀x,Re tg x->x<n){b}(d:Re tg b)(g:b≠0):∃c:N,P.getD b 0=(c:I)/\c<n/\Re tg c/\J (Zq tg n c)<J (Zq tg n b)/\∀a,a≠b->(JO tg a b↔JO tg a c):=by
 obtain⟨c,hc,ec⟩|⟨hc,_⟩:=h.2 b (e b d);·exact⟨c,ec,e c hc.1.1,hc.1.1,VU (e b d) hc.1 hc.2,λa i=>⟨λk=>hc.3 a k i,λk=>J8 k hc.1⟩⟩
 exact Sz (hc 0<|CW d) λf=>g f.symm
end
theorem KW:XA (λ_=>0):=λ_=>(by decide:0<18446744073709551616)
section
def VB(b:N->N->N)(a:List N):N->N->I
 |0,_=>-1
 |i+1,z=>match (a.take i).reverse.find? (λc=>!Xh (b<|a.getD i 0) c)with
  |some c=>if z=a.getD i 0 then (c:I)else VB b a i z
  |none=>VB b a i z
theorem uY{c:Vp}{a:Wa}{i b}(h:(a.take i).reverse.find? (λb=>!Xh (c<|a.getD i 0) b)=S b)(z):VB c a (i+1) z=if z=a.getD i 0 then (b:I)else VB c a i z:=by rw[VB,h]
theorem uC{b:Vp}{a:Wa}{i}(h:(a.take i).reverse.find? (λc=>!Xh (b<|a.getD i 0) c)=U)(z):VB b a (i+1) z=VB b a i z:=by rw[VB,h]
theorem qC{Ws:Vp}{a:Wa}{b}:∀(i:N),i<=J a->(∀j,j<i->a.getD j 0≠b)->VB Ws a i b=-1
 |0,_,_=>R
 |i+1,hi,h=>by
  have c:=qC (Ws:=Ws) i O λj d=>h j O;rw[VB];split;·rw[aM λe=>h i O e.symm];exact c
  exact c
theorem uU{Ws:Vp}{ord:Wa}{b i}:∀(m:N),(∀j,i<=j->j<i+m->ord.getD j 0≠b)->VB Ws ord (i+m) b=VB Ws ord i b
 |0,_=>R
 |m+1,h=>by
  have c:=uU (Ws:=Ws) (i:=i) m λj a d=>h j a O;rw[<-c,<-zZ,VB];split;·rw[aM λe=>h (i+m) O O e.symm]
  rfl
variable {tg: N -> Wa}
theorem UR{n}{Ws:Vp}{o}(t:o.Nodup)(l:∀x,x∈o↔Re tg x)(w:∀x,Re tg x->x<n)(y:∀x a,JO tg a x->a≠x->Oh o a x)(B:∀b,b<n->∀x,x<n->(Xh (Ws b) x=So↔Av tg x b)):YX tg n ((Rg n).map (VB Ws o (J o))):=by
 refine⟨sP,λb r=>?_⟩;have f:((Rg n).map (VB Ws o (J o))).getD b 0=VB Ws o (J o) b:=by simp[r]
 rw[f];by_cases m:b∈o
 .let⟨i,g,e⟩:=bR m;have u:=gY.1 (show o.Pairwise (·≠·)from t);have h:∀j (d:j<J o),o.getD j 0=o[j]:=λj d=>by simp[d]
  have p:VB Ws o (J o) b=VB Ws o (i+1) b:=by
   have:=uU (Ws:=Ws) (ord:=o) (b:=b) (i:=i+1) (J o-(i+1)) (λj p q=>by have d:j<J o:=O;rw[h j d,<-e];exact λf=>u i j g d O f.symm)
   rw[show i+1+(J o-(i+1))=J o by omega]at this;exact this
  have q:VB Ws o i b=-1:=qC i O (λj d=>by have s:j<J o:=O;rw[h j s,<-e];exact u j i s g d)
  have z:∀a∈o,(!Xh (Ws<|o.getD i 0) a)=So↔¬Av tg a o[i]:=λa ha=>by rw[h i g,<-B o[i] (e▸r) a (w a<|(l a).1 ha)];simp
  have k:=CJ t l y g z;rw[p];cases hf:(o.take i).reverse.find? (λa=>!Xh (Ws<|o.getD i 0) a)with
  |some a=>
   rw[hf]at k;rw[uY hf,h i g,e,aU R];exact bC ⟨a,e▸k,R⟩
  |none=>
   rw[hf]at k;rw[uC hf,q];exact aZ ⟨e▸k,R⟩
 refine aZ ⟨λc v=>Sz ((l b).2 v.2) m,qC _ aA λj d f=>m ?_⟩;have:o.getD j 0=o[j]:=by simp[d]
 rw[<-f,this];exact aH d
end
def XX(a:Wi)(k b:N):Wa:=(Rg k).filter λj=>Jd (b∈X8 a j)
theorem tW{a:Wi}(d:∀x∈a,∀t∈x.3.tg,0<=t)(b:N):∀(k:N),k<=J a->AQ (a.take k) 0 (b:I)=Xi (XX a k b)
 |0,_=>by simp[AQ,XX,Xi]
 |k+1,g=>by
  have c:k<J a:=g;rw[bN c,ZK,tW d b k O];have i:J (a.take k)=k:=SB
  have f:a[k].3.tg.contains b=Jd (b∈X8 a k):=by
   rw[Km c,eQ,eY,bD,aY];constructor;·exact λh=>⟨_,h,sP⟩
   rintro⟨t,e,j⟩;have l:=d _ (aH c) t e;have:t=(b:I):=O;rw[<-this];exact e
  rw[f,i];unfold XX;rw[dN,eU,iW,jX];by_cases h:b∈X8 a k;·rw[aU SI,aU<|by simpa using h];simp[Xi]
  rw[aM SI,aM<|by simpa using h];simp[Xi]
theorem K9(a:∀c∈x,∀t∈c.3.tg,0<=t)(b:N):AQ x 0 (b:I)=Xi (XX x (J x) b):=by have:=tW a b (J x)<|aA;rwa[gC]at this
theorem Uf:k∈XX x n m↔k<n/\m∈X8 x k:=by unfold XX;rw[fG,bE,bD]
theorem tR{xs b}:J (XX xs n b)<=n:=aJ (fJ _ _) sP
def Zp(a:Wi):Wk×Wa:=C9 (X8 a) (J a) 0 (λ_=>0,[])
def Ja(a:Wi):Wa:=(Zp a).2.reverse
structure UF(xs:Wi):Prop where
 n1:1<=J xs
 n2:J xs<=1000
 tgt:∀x∈xs,∀t∈x.3.tg,0<=t/\t<J xs
 ok:mp xs (J xs)
theorem Wz(h:XJ ⟨t,x⟩=So):UF x:=by simp only[XJ,bY]at h;let⟨⟨⟨⟨a,c⟩,_⟩,_⟩,_⟩:=h;simp only[Y6,bY,bD]at a;have b:=Vi c;exact⟨a.1.1.2,a.1.2,λe d=>(b e d).1,b⟩
theorem UF.tg(h:UF x):∀b,b<J x->∀t∈X8 x b,t<J x:=λb a t c=>by rw[Km a]at c;obtain⟨z,d,rfl⟩:=aY.1 c;have:=h.3 _ (aH a) z d;omega
theorem UF.re(h:UF x):∀a,Re (X8 x) a->a<J x:=λa c=>by
 induction c with
 |root=>exact h.1
 |step _ b d=>exact h.tg _ d _ b
theorem UF.top(h:UF x):(∀a,a∈Ja x↔Re (X8 x) a)/\(∀a,Xh (Zp x).1 a=So↔Re (X8 x) a)/\(Ja x).Nodup/\∀a b,JO (X8 x) b a->b≠a->Oh (Ja x) b a:=by
 let⟨d,f,g,i⟩:=ER h.tg h.1<|@aA (J x);refine⟨λa=>?_,f,?_,λa b j c=>Be<|i a b j c⟩
 .show a∈(Zp x).2.reverse↔_;rw[kU];exact d a
 show((Zp x).2.reverse).Nodup;exact List.pairwise_reverse.2<|g.imp λc e=>c e.symm
def Bx(w:Ub)(b:N)(a:Zh)(t:N):Prop:=w.1[b]?=S (Sc a t)
theorem Bx.lt(h:Bx w n E_ m):n<Z w.1:=by
 by_cases e:n<Z w.1;·exact e
 unfold Bx at h;rw[iI O]at h;cases h
theorem Bx.cell{b}(h:Bx w b E_ n)(hq:E_[m]?=S a):E w (A b m)=S a:=G (uE w b m E_ n _ h) hq
abbrev ZY:=@Bx.cell
theorem Bx.c(h:Bx w n E_ m)(q:N)(hq:E_[q]?=S a:=by rfl):E w (A n q)=S a:=h.cell hq
theorem Bx.thaw(h:Bx w n E_ m)(q):w.frozen? (A n q)=Sn:=by unfold World.frozen?;unfold Bx at h;show(match w.1[n]? with|some (Sc _ _ (lo,hi))=>Jd (lo<=q)&&Jd (q<hi)|_=>Sn)=Sn;rw[h];simp
theorem Bx.set(h:Bx w n E_ m)(q)(u:Uj):Bx (Se w ⟨n,q,U⟩ u) n (E_.setIfInBounds q u) m:=heap_setCell_same w n q E_ m u h
theorem Bx.keep{w'}(h:Bx w n E_ m)(k:w'.1[n]?=w.1[n]?):Bx w' n E_ m:=G k h
theorem Bx.new(w:Ub)(a:Zh)(t:N):Bx (D w<|Sc a t) (Z w.1) a t:=World.alloc_heap_new _ _
theorem Bx.box(h:Bx w n E_ m)(o):Bx (D w o) n E_ m:=h.keep<|gF _ _ _ h.lt
theorem Bx.other(h:Bx w n E_ m)(b:n≠k):Bx (Se w ⟨k,B,U⟩ a) n E_ m:=h.keep<|cY b
theorem Bx.grown{r:Zm}(h:Bx w n E_ m)(g:w.grownBy v r)(a:S n≠r):Bx v n E_ m:=h.keep<|g.5 n h.lt a
def sY(s:cB):I×cB :=
 if (iw s 16).1<10 then ((iw s 16).1-3,(iw s 16).2)
 else if (iw s 16).1=10 then (1000000000,(iw s 16).2)
 else if (iw s 16).1=11 then (-1000000000,(iw s 16).2)
 else ((iw (iw s 16).2 200).1-100,(iw (iw s 16).2 200).2)
theorem LF{s:cB}(h:Rd s):Rd (sY s).2:=by
 unfold sY;split;·exact nj h
 split;·exact nj h
 split;·exact nj h
 exact nj<|nj h
theorem X4(s:cB)(v:Q (i9 w n m s)):
 Sk prog 122 #[Hn n] w λi q=>i=Rt (H (sY s).1)/\i9 q n m (sY s).2/\w.grownBy q (S n):=by
 have a:Q (sY s=if (iw s 16).1<10 then ((iw s 16).1-3,(iw s 16).2)else if (iw s 16).1=10 then (1000000000,(iw s 16).2)else if (iw s 16).1=11 then (-1000000000,(iw s 16).2)else ((iw (iw s 16).2 200).1-100,(iw (iw s 16).2 200).2)):=Y R
 go_in
 go_wp2_with fail
 refine YU (ki s 16 w v O O) λz⟨b,e⟩=>?_;have p:=kr s (n:=16) O;obtain⟨k,s1,f⟩:∃r j,iw s 16=(r,j):=⟨_,_,R⟩;rw[f]at b a p |-;dsimp only at b a p |-;have g:=Y b;have h:=Y e;clear b e f;by_cases l:k<10
 .rw[aU l]at a;go_wp2;go_ret;rw[a.o];exact⟨R,g.o,h.o⟩
 rw[aM l]at a;by_cases c:k=10
 .rw[aU c]at a;have x:(k==10)=So:=by simpa using c
  clear c;go_wp2;go_ret;rw[a.o];exact⟨R,g.o,h.o⟩
 rw[aM c]at a;have x:(k==10)=Sn:=by simpa using c
 by_cases d:k=11
 .rw[aU d]at a;have y:(k==11)=So:=by simpa using d
  clear c d;go_wp2;go_ret;rw[a.o];exact⟨R,g.o,h.o⟩
 rw[aM d]at a;have y:(k==11)=Sn:=by simpa using d
 clear c d;go_wp2_with fail
 refine YU (ki s1 200 z g O O) λB⟨b,e⟩=>?_;have o:=kr s1 (n:=200) O;obtain⟨C,s2,f⟩:∃r j,iw s1 200=(r,j):=⟨_,_,R⟩;rw[f]at b a o |-;dsimp only at b a o |-;have t:=Y b;have u:=Y<|R9 h.o e;clear b e f;go_wp2;go_ret;rw[a.o];exact⟨R,t.o,u.o⟩
def wQ(k a b:I)(n:N)(c:I)(s:cB):Yg×cB :=
 if k<2\/n=0 then (⟨1,c,0,0,(sY s).1⟩,(sY s).2)
 else if k=2 then (⟨2,c,0,0,(iw s 8).1⟩,(iw s 8).2)
 else if k=9 then (⟨8,c,a,0,0⟩,s)
 else if k=10 then (⟨9,0,a,b,0⟩,s)
 else if k=11 then (⟨10,0,a,0,0⟩,s)
 else if k=7 then (⟨if (iw s 2).1=0 then 6 else 3,c,a,b,0⟩,(iw s 2).2)
 else (⟨if k=4\/k=5 then 4 else if k=6 then 5 else if k=8 then 7 else 3,c,a,b,0⟩,s)
def RJ(s:cB)(a:Wc)(c:I)(b:Bool):Yg×cB :=
 wQ (iw s 14).1 (Mi (iw s 14).2 a b).1 (Mi (Mi (iw s 14).2 a b).2 a b).1 (J a) c (Mi (Mi (iw s 14).2 a b).2 a b).2
def Yg.agg(x:Yg):Uj:=Sa #[H x.1,H x.2,H x.a,H x.b,H x.5]
theorem Qj{b:I}{s:cB}(h:Rd s):Rd (wQ t T b n z s).2:=by
 unfold wQ
 repeat' split
 all_goals first|exact LF h|exact nj h|exact h
theorem JS{s:cB}(h:Rd s):Rd (RJ s l t r).2:=Qj<|AA (AA<|nj h)
theorem Rv{b:N}(h:w.grownBy v (S b))(e:Z w.1<=n):w.grownBy (Se v ⟨n,m,U⟩ a) (S b) :=
 ⟨h.1,h.2,h.3,by simpa [World.setCell]using h.4,λi d c=>G (cY<|by show i≠n;omega) (h.5 i d c)⟩
theorem i9.put{s:cB}(h:i9 w n m s)(b:m<=k):i9 (Se w ⟨k,B,U⟩ a) n m s:=h.keep<|(dC m w).setCell b _
theorem i9.box{s:cB}(h:i9 w n m s)(o:Obj):i9 (D w o) n m s:=h.keep<|vT Rf h.4 _
section
variable {T: Type} {f f': N -> T -> Wo} {sz: N}
theorem x8:∀(k:N)(a:List T),(∀i (h:i<J a),f (k+i) a[i]=f' (k+i) a[i])->Yu f k a=Yu f' k a
 |_,[],_=>R
 |k,x::a,h=>by rw[Yu,Yu,x8 (k+1) a λi b=>by have:=h (i+1) (by simpa using b);rwa[fO,show k+(i+1)=k+1+i by omega]at this];have:=h 0 sP;rw[fW,eM]at this;rw[this]
theorem WA(c:∀k x,J (f k x)=sz):∀(k:N)(a:List T)(i:N)(h:i<J a)(y:T)(q:N)(u:Uj),q<sz->f' (k+i) y=(f (k+i) a[i]).set q u->(∀j (b:j<J a),j≠i->f' (k+j) a[j]=f (k+j) a[j])->Yu f' k (a.set i y)=(Yu f k a).set (i*sz+q) u
 |_,[],_,h,_,_,_,_,_,_=>Sz h sP
 |k,x::a,0,_,y,q,u,hq,hy,b=>by rw[List.set_cons_zero,Yu,Yu,lC,aV,List.set_append_left _ _<|by rw[c];exact hq];rw[fW,eM]at hy;rw[hy,x8 (f:=f') (f':=f) (k+1) a λi e=>by have:=b (i+1) (by simpa using e) O;rwa[fO,show k+(i+1)=k+1+i by omega]at this]
 |k,x::a,i+1,h,y,q,u,hq,hy,b=>by
  have d:=b 0 sP O;rw[fW,eM]at d;rw[fO,show k+(i+1)=k+1+i by omega]at hy;rw[List.set_cons_succ,Yu,Yu,d,Hu _ _ (by rw[c,jK,jL];omega),c,show(i+1)*sz+q-sz=i*sz+q by rw[jK,jL];omega,
   WA c (k+1) a i (by simpa using h) y q u hq hy λj g l=>by have:=b (j+1) (by simpa using g) O;rwa[fO,show k+(j+1)=k+1+j by omega]at this]
def L7(p i:Uj)(t:Yj):Wo:=[p,i,H t.1,H t.a,H t.3,H t.4]
def jx(b a:Vu)(c:Wi):Wo:=Yu (λi x=>L7 (b i) (a i) x.3) 0 c
def jw(av:Vu)(a:Za):Wo:=Yu (λj p=>[H p.1,av j]) 0 a
def Lk(a:Vr):Wo:=Yu (λ_ x=>x.cells) 0 a
def hC(a:Wc):Wo:=a.map<|Si S6
structure xW(w:Ub)(lab:N->N×N×N)(base:N)(v:Uj)(xs:Wi)(pv iv:Vu)(av:N->Vu):Prop where
 blks:Xv w lab (1,0,0) base 52 6 v (J xs) (jx pv iv xs)
 ps:∀i (h:i<J xs),Xv w lab (2,i,0) base 152 2 (pv i) (J xs[i].1) (jw (av i) xs[i].1)
 ins:∀i (h:i<J xs),Xv w lab (3,i,0) base 64 5 (iv i) (J xs[i].2) (Lk xs[i].2)
 args:∀i (h:i<J xs) j (hj:j<J xs[i].1),Xv w lab (4,i,j) base 2 1 (av i j) (J xs[i].1[j].2) (hC xs[i].1[j].2)
theorem wu(p i:Uj)(t:Yj):J (L7 p i t)=6:=R
theorem Xv.ints{w:Ub}{lab:N->N×N×N}{L:N×N×N}{d n:N}{b:Uy}{c:N}{a:Wc}(h:Xv w lab L d 2 1 (X b n c) (J a) (hC a)):Xf w d (Z w.1) b a:=λk i=>by obtain⟨g,j,e⟩:=h.got O;cases e;exact⟨g,0,R,h.blk.1,by rw[aV];exact h.cell<|by unfold hC;simp[i]⟩
theorem Dl{w:Ub}{y:N->N×N×N}{h p c:N}{a:Wi}{z x:Vu}{av:N->Vu}(B:Xv w y (1,0,0) h 52 6 (Hl p (J a) c) (J a) (jx z x a))(K:∀i (L:i<J a),Xv w y (2,i,0) h 152 2 (z i) (J a[i].1) (jw (av i) a[i].1))(C:∀i (L:i<J a),Xv w y (3,i,0) h 64 5 (x i) (J a[i].2) (Lk a[i].2))(F:∀i (L:i<J a) j (l:j<J a[i].1),∃o r,av i j=X o (J a[i].1[j].2) r/\Xf w h (Z w.1) o a[i].1[j].2):Xp w h (Z w.1) (S ⟨p,0,U⟩) a:=λi g=>by
 obtain⟨M,b,v⟩:=(K i g).form;obtain⟨P,V,t⟩:=(C i g).form;have e:∀q u,q<6->(L7 (z i) (x i) a[i].3)[q]?=S u->E w (A p (i*6+q))=S u:=λq u m n=>B.cell (by unfold jx;rw[Xz (λ_ _=>wu _ _ _) 0 a i g q m,aV];exact n)
 refine⟨p,0,R,B.blk.1,M,b,P,V,?_,?_,⟨?_,?_,?_,?_⟩,λj l=>?_,λj l=>?_⟩;·rw[aV];exact e 0 _ O<|by rw[<-v];rfl
 .rw[aV];exact e 1 _ O<|by rw[<-t];rfl
 .rw[aV];exact e 2 _ O R
 .rw[aV];exact e 3 _ O R
 .rw[aV];exact e 4 _ O R
 .rw[aV];exact e 5 _ O R
 .have d:=K i g
  obtain⟨k,cp,s⟩:=d.got O;rw[s]at v d;cases v;obtain⟨o,r,W,ha⟩:=F i g j l;have b:∀q u,q<2->([H a[i].1[j].1,av i j]:Wo)[q]?=S u->E w (A k (j*2+q))=S u:=λq u m n=>d.cell (by unfold jw;rw[Xz (sz:=2) (λ_ _=>R) 0 a[i].1 j l q m,aV];exact n)
  exact⟨k,0,R,d.blk.1,o,r,by rw[aV];exact b 0 _ O R,by rw[aV];exact b 1 _ O (by rw[<-W];rfl),ha⟩
 have d:=C i g
 obtain⟨k,cp,s⟩:=d.got O;rw[s]at t d;cases t;have b:∀q u,q<5->(a[i].2[j].cells)[q]?=S u->E w (A k (j*5+q))=S u:=λq u m n=>d.cell (by unfold Lk;rw[Xz (sz:=5) (λ_ _=>R) 0 a[i].2 j l q m];exact n)
 exact⟨k,0,R,d.blk.1,by rw[aV];exact b 0 _ O R,by rw[aV];exact b 1 _ O R,by rw[aV];exact b 2 _ O R,by rw[aV];exact b 3 _ O R,by rw[aV];exact b 4 _ O R⟩
theorem xW.at_{w:Ub}{q:N->N×N×N}{b:N}{a:Uy}{r c:N}{k:Wi}{s p:Vu}{av:N->Vu}(h:xW w q b (X a r c) k s p av):Xp w b (Z w.1) a k:=λi o=>by
 obtain⟨u,t,n⟩:=h.1.got O;cases n;exact Dl h.1 h.2 h.3 (λi e j g=>by obtain⟨l,m,d⟩:=(h.4 i e j g).form;have ha:=h.4 i e j g;rw[d]at ha;exact⟨l,m,d,ha.ints⟩) i o
end
def oL(s:cB)(n:N):I×cB:=if 2<n then (1+(iw s<|(n:I)-1).1,(iw s<|(n:I)-1).2)else (0,s)
def yc(s:cB)(o i:I):Yj×cB :=
 if o≠0/\o≠i then
  if (iw s 4).1=0 then (⟨1,0,i,0⟩,(iw s 4).2)
  else if (iw (iw s 4).2 2).1=0 then (⟨2,0,o,i⟩,(iw (iw s 4).2 2).2)else (⟨2,0,i,o⟩,(iw (iw s 4).2 2).2)
 else (⟨1,0,i,0⟩,s)
def yJ(s:cB)(n:N):Yj×cB :=
 if 1<n then
  if (iw s 8).1=0 then (⟨1,0,1+(iw (iw s 8).2 ((n:I)-1)).1,0⟩,(iw (iw s 8).2 ((n:I)-1)).2)else (⟨3,0,0,0⟩,(iw s 8).2)
 else (⟨3,0,0,0⟩,s)
def qK(s:cB)(n i:N):Yj×cB:=if i+1<n then yc (oL s n).2 (oL s n).1 ((i:I)+1)else yJ s n
def oA(n:N):N->N->cB->List Yj->List Yj×cB
 |0,_,s,acc=>(acc,s)
 |k+1,i,s,acc=>oA n k (i+1) (qK s n i).2 (acc++[(qK s n i).1])
theorem Dc(n:N):∀(k i:N)(s:cB)(a:List Yj),J (oA n k i s a).1=J a+k
 |0,_,_,_=>R
 |k+1,i,s,a=>by rw[oA,Dc];simp;omega
def r8(n i:N)(t:Yj):Prop :=
 (t=⟨3,0,0,0⟩/\¬i+1<n)\/(∃q:N,t=⟨1,0,q,0⟩/\1<=q/\q<n/\(i+1<n->q=i+1))\/(∃q r:N,t=⟨2,0,q,r⟩/\1<=q/\q<n/\1<=r/\r<n/\q≠r/\(q=i+1\/r=i+1)/\i+1<n)
theorem Nt(s:cB)(n:N):(oL s n).1=0\/(1<=(oL s n).1/\(oL s n).1<n):=by
 unfold oL;split
 .rename_i h;have:=kr s (n:=(n:I)-1) O;right;show 1<=1+(iw s<|(n:I)-1).1/\1+(iw s<|(n:I)-1).1<n;omega
 exact bC R
theorem QW(s:cB)(h:m<n):r8 n m (qK s n m).1:=by
 unfold qK;split
 .rename_i a;have f:=Nt s n;unfold yc;split
  .rename_i c;obtain⟨q,b⟩:=Zv (t:=(oL s n).1) O;rw[b]at c f |-;split;·exact aZ<|bC ⟨m+1,R,O,a,λ_=>R⟩
   split;·exact aZ<|aZ ⟨q,m+1,R,O,O,O,a,O,aZ R,a⟩
   exact aZ<|aZ ⟨m+1,q,R,O,a,O,O,O,bC R,a⟩
  exact aZ<|bC ⟨m+1,R,O,a,λ_=>R⟩
 rename_i a;unfold yJ;split
 .rename_i c;split
  .have d:=kr (iw s 8).2 (n:=(n:I)-1) O;obtain⟨q,b⟩:=Zv d.1;rw[b]at d |-;exact aZ<|bC ⟨1+q,sP,O,O,λe=>Sz e a⟩
  exact bC ⟨R,a⟩
 exact bC ⟨R,a⟩
theorem C2(n:N):∀(k i:N)(s:cB)(a:List Yj),J a=i->i+k=n->(∀j (h:j<J a),r8 n j a[j])->∀j (h:j<J (oA n k i s a).1),r8 n j (oA n k i s a).1[j]
 |0,_,_,_,_,_,h=>h
 |k+1,i,s,a,hl,hn,h=>by
  rw[oA];refine C2 n k (i+1) _ _ (by simp[hl]) O λj b=>?_;by_cases e:j<J a;·rw[fA e];exact h j e
  have c:j=i:=by simp at b;omega
  subst c;rw[fN O];simp only[hl,kL,eM];exact QW s O
def kj(t:Yj):Xe:=⟨[],[],t⟩
def LQ:Vu:=λ_=>Hq
structure mO(w wr:Ub)(sb B:N)(s:cB)(v:Uj)(acc:List Yj):Prop where
 dr:i9 wr sb B s
 gr:w.grownBy wr (S sb)
 bw:B<=Z w.1
 res:Bx wr (Z w.1) #[Si S6 0,X U 0 0] 25
 fun_:Bx wr (Z w.1+1) #[Si S6 0,v] 25
 own:Sx wr (Z w.1+2) 52 6 v (J acc) (jx LQ LQ<|acc.map kj)
 size:Z w.1+2<=Z wr.1
theorem mO.next{wr:Ub}{s c:cB}{b:List Yj}(h:mO w wr n m s a b)(g:wr.grownBy v (S n))(d:i9 v n m c):mO w v n m c a b:=by have f:=h.1.3;have i:=h.3;exact⟨d,R9 h.2 g,h.3,h.4.grown g (by intro e;injection e;omega),h.5.grown g (by intro e;injection e;omega),TW h.6 g O,aJ h.7 g.4⟩
theorem mO.box{wr:Ub}{s:cB}{b:List Yj}(h:mO w wr n m s a b)(o:Obj):mO w (D wr o) n m s a b:=by have k:=bW wr o<|S n;exact⟨h.1.box o,R9 h.2 k,h.3,h.4.box o,h.5.box o,h.6.alloc o,aJ h.7 k.4⟩
theorem mO.put{wr:Ub}{s:cB}{b:List Yj}(h:mO w wr n m s a b)(d:Z w.1+2<=k)(c:a.ownBlock≠S k):mO w (Se wr ⟨k,B,U⟩ A_) n m s a b:=by have e:=h.3;exact⟨h.1.put O,Rv h.2 O,h.3,h.4.other O,h.5.other O,fS h.6 c A_,by simpa [World.setCell]using h.7⟩
structure Jy(V:N)(xs:Wi):Prop where
 okf:UF xs
 vle:V<=2000
 ops:∀x∈xs,∀y∈x.2,1<=y.1/\y.1<=13
 kind:∀x∈xs,1<=x.3.1/\x.3.1<=3
 rdi:∀x∈xs,∀y∈x.2,∀v∈Iw y,0<=v/\v<V
 wri:∀x∈xs,∀y∈x.2,∀v∈BW y,0<=v/\v<V
 rdt:∀x∈xs,∀v∈Id x.3,0<=v/\v<V
 phd:∀x∈xs,∀p∈x.1,0<=p.1/\p.1<V
 pha:∀t (h:t<J xs),∀p∈xs[t].1,J p.2=J (AQ xs 0 (t:I))/\∀a∈p.2,0<=a/\a<V
 lens:∀x∈xs,J x.2<=4000/\J x.1<=4000
theorem Vb(h:Tp r t T z=So)(a:r=So):T<=t/\t<z:=by subst a;simpa [Tp]using h
theorem AX(h:q∈x):Ul q<=Xo x:=by
 unfold Xo
 induction x with
 |nil=>cases h
 |cons y b a=>
  obtain rfl|h:=cH.1 h;·simp
  have:=a h;simp;omega
theorem wB:∀a:Za,J a<=XZ a
 |[]=>aA
 |p::a=>by have:=wB a;simp[XZ]at*;omega
theorem XH(h:XJ ⟨(n:I),x⟩=So):Jy n x:=by
 have w:=Wz h;simp only[XJ,bY]at h;let⟨⟨⟨⟨j,o⟩,q⟩,r⟩,_⟩:=h;simp only[Y6,bY,bD]at j;have f:∀b∈x,∀y∈b.2,Yw n 10 y=So:=λb c y d=>dV.1 (dV.1 q b c) y d
 have l:∀b∈x,Zu n 1 (J x) b.3=So:=λb c=>by have:=dV.1 o b c;simp only[Jf,bY]at this;exact this.1
 have k:=(Zr ZX ⟨(n:I),x⟩ x 0).1 r;refine⟨w,O,λb c y d=>?_,λb c=>?_,λb c y d v a=>?_,λb c y d v a=>?_,λb c v a=>?_,λb c p g=>?_,λt i p g=>?_,λb c=>?_⟩
 .have:=f b c y d;simp only[Yw,bY,bD]at this;omega
 .have:=l b c;simp only[Zu,bY,bD]at this;omega
 .have:=f b c y d;simp only[Yw,bY]at this;let⟨⟨⟨⟨_,_⟩,ha⟩,s⟩,_⟩:=this;unfold Iw at a;obtain a|a:=bU.1 a
  .by_cases e:aB y.1=So
   .rw[aU e]at a;have e2:v=y.a:=by simpa using a
    rw[e2];exact Vb ha e
   rw[aM e]at a;cases a
  by_cases e:bB y.1=So
  .rw[aU e]at a;have e2:v=y.b:=by simpa using a
   rw[e2];exact Vb s e
  rw[aM e]at a;cases a
 .have:=f b c y d;simp only[Yw,bY]at this;let⟨⟨⟨⟨_,u⟩,_⟩,_⟩,_⟩:=this;unfold BW at a;by_cases e:dB y.1=So
  .rw[aU e]at a;have e2:v=y.2:=by simpa using a
   rw[e2];exact Vb u e
  rw[aM e]at a;cases a
 .have:=l b c;simp only[Zu,bY]at this;let⟨⟨⟨_,ha⟩,_⟩,_⟩:=this;unfold Id at a;by_cases e:(b.3.1 != 1)=So
  .rw[aU e]at a;have e2:v=b.3.a:=by simpa using a
   rw[e2];exact Vb ha e
  rw[aM e]at a;cases a
 .obtain⟨t,i,rfl⟩:=bR c;have:=dV.1 (k t i) p g;simp only[ZX,bY]at this;exact Vb this.1 R
 .have:=dV.1 (k t i) p g;simp only[ZX,Jt,bY,bD,dV]at this;rw[aV]at this;exact⟨this.2.1.2,λm ha=>this.2.2 m ha⟩
 have:=AX c;have z:=j.2;have:=wB b.1;unfold Ul at*;omega
def X9(l:Wc):Wa:=l.map Int.toNat
theorem Kv(h:∀v∈l,0<=v):(X9 l).map Int.ofNat=l:=by
 unfold X9;rw[jO]
 conv=>rhs;rw[<-List.map_id l]
 apply gH;intro v a;have:=h v a;simp[Function.comp];omega
theorem YV(h:∀v∈l,0<=v):n∈X9 l↔(n:I)∈l:=by
 unfold X9;rw[aY];constructor
 .rintro⟨v,a,rfl⟩;have:=h v a;rw[show((v.toNat:N):I)=v by omega];exact a
 intro b;exact⟨_,b,O⟩
def Og(a:Wi)(t:N)(b:Za):List (N×N):=b.flatMap λp=>(XX a (J a) t).zip (X9 p.2)
def PW(a:Wi)(t:N):List (N×N):=(a[t]?).elim [] λx=>Og a t x.1
def Nr(a:Wi)(k:N):List (N×N):=(Rg k).flatMap (PW a)
theorem yC(b):∀(a:Wi)(i:N),∀y∈AQ a i b,(i:I)<=y
 |[],_,y,h=>by simp[AQ]at h
 |x::a,i,y,h=>by
  rw[AQ,bU]at h;obtain h|h:=h
  .split at h;·simp at h;omega
   simp at h
  have:=yC b a (i+1) y h;omega
theorem r5(b:I):∀(a:Wi)(i:N),(AQ a i b).Nodup
 |[],_=>by simp[AQ]
 |x::a,i=>by
  rw[AQ];split
  .rw[List.singleton_append,fL];exact⟨λh=>by have:=yC b a (i+1) _ h;omega,r5 b a<|i+1⟩
  rw[dR];exact r5 b a<|i+1
def de(a:Wc)(p:I):N:=a.findIdx λy=>p==y
theorem pC(h:t∈l):de l t<J l:=by unfold de;rw[List.findIdx_lt_length];exact⟨t,h,sP⟩
theorem yq(h:de l t<J l):l[de l t]=t:=by have:=List.findIdx_getElem (p:=λy=>t==y) (xs:=l) (w:=h);simp only[iA]at this;exact this.symm
theorem Is(h:n<de l t)(a:n<J l):(t==l[n])=Sn:=by have:=List.not_of_lt_findIdx (p:=λy=>t==y) (xs:=l) (i:=n) h;simpa using this
def E9(q:N)(phs:Za):List (I×I):=phs.map λa=>(a.1,a.2.getD q 0)
end Go.Proofs.YtcncjgijikoapaaGreatDoor
