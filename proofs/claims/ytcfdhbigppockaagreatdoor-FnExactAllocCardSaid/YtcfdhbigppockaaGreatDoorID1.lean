import Derived.Test.YtcfdhbigppockaaGreatDoorRC2
import Derived.Test.YtcfdhbigppockaaGreatDoorRFN
import Derived.Lib.TrailingZeros
import Derived.Laws.Bits64b
import Derived.Shelf.Bytes.Small
import Derived.Shelf.Lay
import Derived.Ground.NamesProg
import Derived.Lib.SlSplitV
import Derived.Lib.CountLaws
namespace Go.Proofs.YtcfdhbigppockaaGreatDoor
set_option maxHeartbeats 4000000
set_option maxRecDepth 100000
open Go.RowKit Go.Proofs.Tryz Go.Shelf
variable{r:Bool}{t T z:Int}{n m k B g i j c:Nat}{w v u:Ub}{a A:Uj}{p:Uy}{M:Vp}{s:Wa}{l:Wc}{x:Wi}{f F:Wk}{y:Wo}{q:Xe}
def oh(o:Option Nat):Int:=match o with
 |some a=>(a:Int)
 |none=>-1
def Uv(c:Wk)(d:Nat)(b:Zm)(a:Nat):Zm:=if a≠d/\(b=none\/∃k,b=some k/\c a > c k)then some a else b
theorem Cm{cnt:Wk}{b:Nat}(h:n<s.length):NI cnt b (s.take<|n+1)=Uv cnt b (NI cnt b<|s.take n) s[n]:=by
 unfold NI Uv;rw[bN h,dT];rfl
def L0(a:List Wa)(b:Nat):Int:=oh<|NI (λc=>(a.getD c []).length) b (a.getD b [])
theorem DO:∀(e:Wa){a:Nat},NI f n e=some a->a∈e:=λe=>by
 have i:∀(l:Wa)(d:Zm)(a:Nat),l.foldl (λd a=>if a≠n/\(d=none\/∃k,d=some k/\f a > f k)then some a else d) d=some a->d=some a\/a∈l:=λl=>by
  induction l with
  |nil=>intro d a h;exact bC h
  |cons c l g=>
   intro d a h;rw[iM]at h;obtain b|b:=g _ a h
   .split at b
    .injection b with b;exact aZ<|by rw[b];exact cI
    exact bC b
   exact aZ<|cN _ b
 intro a h;obtain b|b:=i e none a h;·cases b
 exact b
theorem D9(h:w.ownsRow n m k a B y)(e:v.1=w.1):v.ownsRow n m k a B y:=by
 unfold World.ownsRow at*;rw[e];exact h
theorem CT(E:Uy)(dc:Nat)(a:List Wa)(S:Nat)(hd:Hs (XR w S m E<|a.map Xi))(K:Hs (n=a.length))(hn:n<=1000)(hB:m<=w.1.size)(J:Hs (∀ac∈a,ac.length<=1000/\∀d∈ac,d<n)):
 Calls prog 73 #[.slice E n dc] w λp s=>∃z,p=.returned z/\Below w.1.size w s/\s.ownsRow w.1.size 2 1 z n (((List.range n).map (L0 a)).map (Value.int .i64)):=by
 let⟨i0,a4,a7,a8,a9⟩:=Xq RH
 go_in
 go_wp2
 go_loopw [3,4] (λz u wr=>∃b:Nat,b<=n/\u=Hp b/\Hs (Below w.1.size w wr)/\Hs (wr.ownsRow w.1.size 2 1 z b<|((List.range b).map (L0 a)).map (Value.int .i64))) λ_ u _=>n-(intOf u).toNat
 case atStart=>exact⟨0,aN,rfl,Xa<|Xb (Below.refl _ _) _,Xa (by
  have:=eI (base:=w.1.size) (e:=2) (size:=1) w #[] 0 sP sP rfl;simpa using this)⟩
 obtain⟨b,hb,rfl,M,Q⟩:=hrel;by_cases bl:b<n
 .have H:b<a.length:=oN K.o
  have B:Hs (∀t (i:t<a.length),∃g l h o,E=some (Hk g l)/\g<m/\w.cell? (Hk g<|l+t)=some (.slice h a[t].length o)/\Xf w S m h (Xi a[t])):=Xa (λt i=>by
   let⟨g,l,p,X,h,o,e1,e2⟩:=hd t (by simpa using i);have e3:(a.map Xi)[t]'(by simpa using i)=Xi a[t]:=sP;rw[e3]at e1 e2;exact⟨g,l,h,o,p,X.2,by rw[e1];simp[Xi],e2⟩)
  obtain⟨g,l,ab,cb,rfl,X,F,y⟩:=B b H;have P:Hs (∀t (i:t<a.length),∃h o,w.cell? (Hk g<|l+t)=some (.slice h a[t].length o)):=Xa (λt i=>by
   let⟨ba,bn,h,o,p,_,e1,_⟩:=B t i;injection p with p;injection p with e4 e5;subst e4 e5;exact⟨h,o,e1⟩)
  have C:=Xa<|J.o a[b] (aH H);have bi:=C.1;have ap:=Xa y;have ao:Hs (a.getD b []=a[b]):=Xa (by simp[H]);have al:=Xa F;clear y F B;generalize a[b]=e at*;go_wp2_with fail
  generalize wr=wo at*
  go_loopw [5,6] (λT u wq=>∃j:Nat,j<=e.length/\u=Hp j/\T=Hp (oh<|NI (λd=>(a.getD d []).length) b (e.take j))/\Hs (Below w.1.size w wq)/\Hs (wq.1=wo.1)) λ_ u _=>e.length-(intOf u).toNat
  case atStart=>exact⟨0,aN,rfl,rfl,M,Xa rfl⟩
  obtain⟨j,hj,rfl,rfl,f,v⟩:=hrel;have F:=(XU f oM).trans al;by_cases x:j<e.length
  .obtain⟨T,ov,rfl,bc,U⟩:=ap j (by simpa [Xi]using x);have ej:=(XU f oM).trans U;have e3:(Xi e)[j]'(by simpa [Xi]using x)=((e[j]:Nat):Int):=by simp[Xi]
   rw[e3]at ej;have bb:=C.2 e[j] (aH x);have A:=Xa (Cm (cnt:=λd=>(a.getD d []).length) (b:=b) x);have af:Hs (∀k,NI (λd=>(a.getD d []).length) b (e.take j)=some k->k<n):=Xa λk i=>C.2 k<|iO (DO _ i);clear U e3;generalize e[j]=c at*;generalize NI (λd=>(a.getD d []).length) b (e.take j)=bs at*;have G:c<a.length:=oN K.o;let⟨a1,c1,V⟩:=P c G;have e1:=(XU f oM).trans V;have N:Hs ((a.getD c []).length=a[c].length):=Xa (by simp[G]);have bf:=(J a[c] (aH G)).1;clear V;by_cases r:c=b
   .have q:Hs (Uv (λd=>(a.getD d []).length) b bs c=bs):=Xa (by unfold Uv;rw[aM λk=>k.1 r]);have q1:((c:Int)==(b:Int))=true:=by simp[r]
    have q2:((c:Int) != (b:Int))=false:=by simp[r]
    clear r e1;go_wp2_with fail
    refine Y7 (λ_=>True) λhHeld=>?_;refine Xn 0 ?_;refine Xn 1 ?_;refine Xn 2 ?_;refine Xn 3 ?_;refine KH 4 ?_;refine KH 5 ?_;refine KH 6 ?_;refine KH 7 ?_;refine KH 8 ?_;refine KH 9 ?_;refine KH 10 ?_;refine KH 11 ?_;refine KH 12 ?_;refine KH 13 ?_;refine KH 14 ?_;refine KH 15 ?_;refine KH 16 ?_;refine KH 17 ?_;refine KH 18 ?_;refine KH 19 ?_;refine KH 20 ?_;refine Xn 21 ?_;refine Yq ?_;go_wp2;exact⟨⟨j+1,oM,gM,by rw[A.o,q.o],Xa f.drew,Xa v.o⟩,by simp[intOf];omega⟩
   have q1:((c:Int)==(b:Int))=false:=by simp;omega
   have q2:((c:Int) != (b:Int))=true:=by simp;omega
   cases bs with
   |none=>
    have q:Hs (Uv (λd=>(a.getD d []).length) b none c=some c):=Xa (by unfold Uv;rw[aU ⟨r,bC rfl⟩]);have D:Hs (oh none=-1):=Xa rfl;rw[D.o];clear e1;go_wp2_with fail
    refine Y7 (λ_=>True) λhHeld=>?_;refine Xn 0 ?_;refine Xn 1 ?_;refine Xn 2 ?_;refine Xn 3 ?_;refine Xn 4 ?_;refine Xn 5 ?_;refine Xn 6 ?_;refine KH 7 ?_;refine KH 8 ?_;refine KH 9 ?_;refine KH 10 ?_;refine KH 11 ?_;refine KH 12 ?_;refine KH 13 ?_;refine KH 14 ?_;refine KH 15 ?_;refine KH 16 ?_;refine KH 17 ?_;refine KH 18 ?_;refine KH 19 ?_;refine Xn 20 ?_;refine Xn 21 ?_;refine Yq ?_;go_wp2;exact⟨⟨j+1,oM,gM,by rw[A.o,q.o];rfl,Xa f.drew,Xa v.o⟩,by simp[intOf];omega⟩
   |some k=>
    have be:=af k rfl;have I:k<a.length:=oN K.o;let⟨a2,c2,W⟩:=P k I;have e2:=(XU f oM).trans W;have O:Hs ((a.getD k []).length=a[k].length):=Xa (by simp[I]);have bh:=(J a[k] (aH I)).1;have D:Hs (oh (some k)=(k:Int)):=Xa rfl;rw[D.o];clear W;by_cases Z:a[c].length > a[k].length
    focus
     have q:Hs (Uv (λd=>(a.getD d []).length) b (some k) c=some c):=Xa<|by unfold Uv;rw[aU ⟨r,aZ ⟨k,rfl,by show(a.getD c []).length > (a.getD k []).length;rw[N.o,O.o];exact Z⟩⟩]
    rotate_left
    focus
     have q:Hs (Uv (λd=>(a.getD d []).length) b (some k) c=some k):=Xa (by
      unfold Uv;rw[aM (λL=>by
       obtain L|⟨bo,q3,q4⟩:=L.2;·cases L
       injection q3 with q3
       subst q3;have q5:(a.getD c []).length > (a.getD k []).length:=q4;rw[N.o,O.o]at q5;exact Z q5)])
    all_goals (
     generalize a[c].length=la at*;generalize a[k].length=lk at*;go_wp2_with fail
     refine Y7 (λs=>s.cell? (Hk g<|l+c)=some (.slice a1 la c1)/\s.cell? (Hk g<|l+k)=some (.slice a2 lk c2)) λhHeld=>?_;refine Xn 0 ?_;refine Xn 1 ?_;refine Xn 2 ?_;refine Xn 3 ?_;refine Xn 4 ?_;refine Xn 5 ?_;refine Xn 6 ?_;refine Xn 7 ?_;refine Xn 8 ?_;refine Xn 9 ?_;refine Xn 10 ?_;refine Xn 11 ?_;refine Xn 12 ?_;refine Xn 13 ?_;refine Xn 14 ?_;refine Xn 15 ?_;refine Xn 16 ?_;refine Xn 17 ?_;refine Xn 18 ?_;refine Xn 19 ?_;refine Xn 20 ?_;refine Xn 21 ?_;refine Yq ?_;go_wp2
     exact⟨⟨j+1,oM,gM,by rw[A.o,q.o];rfl,Xa f.drew,Xa v.o⟩,by simp[intOf];omega⟩)
  have a5:j=e.length:=oM;subst a5;have aq:Hs (oh (NI (λd=>(a.getD d []).length) b (e.take e.length))=L0 a b):=Xa (by unfold L0;rw[gC,ao.o]);rw[aq.o];have R:=Xa<|D9 Q v;have bm:=f.4;have az:Hs (((List.range<|b+1).map (L0 a)).map (Value.int .i64)=((List.range b).map (L0 a)).map (Value.int .i64)++[Hp<|L0 a b]):=Xa (by rw[dN];simp);generalize L0 a b=y at*;go_wp2_with (at_builtin;refine bT _ rfl _ _ 41 rfl w.1.size 2 i0 (Hp 0) 1 8 underlying41 a4 a7 a8 a9 rfl vY _ _ _ rfl (R.alloc _) (Hk wr.1.size 0) 1 1 [Hp y] rfl rfl ?c1 ?c2 ?c3 ?c4 ?c5 ?_)
  case c1=>exact Yf _ _ _
  case c2=>intro u hu;simp at hu;subst hu;rfl
  case c3=>unfold maxLen;omega
  case c4=>omega
  case c5=>simp;omega
  intro v8 w8 aa Y a6 a0;have ad:=Xa (Xy (Below.alloc f oM _) Y (R.alloc _) aA (by simp;omega));have ar:Hs (w8.ownsRow w.1.size 2 1 v8 (b+1) (((List.range<|b+1).map (L0 a)).map (Value.int .i64))):=Xa (by rw[az.o,jO];exact aa);clear aa Y a6 a0;go_wp2;exact⟨⟨b+1,oM,gM,ad,ar⟩,by simp[intOf];omega⟩
 have a3:b=n:=oM;subst a3;go_wp2;go_ret;exact⟨_,rfl,M,Q⟩
section
variable {tg: Nat -> Wa}
open Classical in
noncomputable def Zq(tg:Yr)(n b:Nat):Wa:=(List.range n).filter λa=>decide (JO tg a b)
theorem Jo{n a b:Nat}:a∈Zq tg n b↔a<n/\JO tg a b:=by
 unfold Zq;simp
theorem Fe(n b:Nat):(Zq tg n b).Nodup:=List.nodup_range.sublist jR
theorem VU{n a c:Nat}(ha:a<n)(h:JO tg c a)(g:c≠a):(Zq tg n c).length<(Zq tg n a).length:=by
 have d:a∉Zq tg n c:=λk=>g<|Z1 h (Jo.1 k).2
 have e:=fL.2 ⟨d,Fe n c⟩;have f:(a::Zq tg n c) ⊆ Zq tg n a:=λx b=>by
  obtain rfl|b:=cH.1 b;·exact Jo.2 ⟨ha,Zd h.2⟩
  let⟨i,j⟩:=Jo.1 b;exact Jo.2 ⟨i,J8 j h⟩
 have:=kV e f;simp only[bA]at this;omega
theorem Uk{n b:Nat}(a:b<n):((List.range n).map (Zq tg n)).getD b []=Zq tg n b:=by simp[a]
theorem BP{n a b:Nat}(e:∀x,Re tg x->x<n)(h:O6 tg a b):L0 ((List.range n).map (Zq tg n)) b=(a:Int):=by
 have f:=e b h.1.2;have d:=e a h.1.1;have m:NI (λa=>(((List.range n).map (Zq tg n)).getD a []).length) b (Zq tg n b)=some a:=by
  refine Co (Jo.2 ⟨d,h.1⟩) h.2 λc g j i=>?_;let⟨k,l⟩:=Jo.1 g;rw[Uk k,Uk d];exact VU d (h.3 c l j) i
 unfold L0;rw[Uk f,m];rfl
theorem BJ{n b:Nat}(d:b<n)(h:∀c,JO tg c b->c=b):L0 ((List.range n).map (Zq tg n)) b=-1:=by
 unfold L0;rw[Uk d,Cf λa ha=>h a (Jo.1 ha).2];rfl
end
section
variable {tg: Nat -> Wa}
structure YX(tg:Yr)(n:Nat)(P:Wc):Prop where
 len:P.length=n
 get:∀b,b<n->(∃a:Nat,O6 tg a b/\P.getD b 0=(a:Int))\/((∀c,JO tg c b->c=b)/\P.getD b 0=-1)
theorem vK{n:Nat}{P Q:Wc}(h:YX tg n P)(k:YX tg n Q):P=Q:=by
 apply mG (h.1.trans k.1.symm);intro i d e;have e1:P.getD i 0=P[i]:=by simp[d]
 have e2:Q.getD i 0=Q[i]:=by simp[e]
 rw[<-e1,<-e2];have b:i<n:=by rw[<-h.1];exact d
 obtain⟨a,ha,ea⟩|⟨ha,ea⟩:=h.2 i b
 .rcases k.2 i b with⟨c,hc,ec⟩|⟨hc,ec⟩;·rw[ea,ec,EU ha hc]
  exact absurd (hc a ha.1) ha.2
 obtain⟨c,hc,ec⟩|⟨hc,ec⟩:=k.2 i b;·exact absurd (ha c hc.1) hc.2
 rw[ea,ec]
open Classical in
theorem Wf{n:Nat}(g:∀x,Re tg x->x<n)(f:∀b,b<n->(∃a,O6 tg a b)\/∀c,JO tg c b->c=b):YX tg n ((List.range n).map (L0<|(List.range n).map (Zq tg n))):=by
 refine⟨sP,λb d=>?_⟩;have e:((List.range n).map (L0<|(List.range n).map (Zq tg n))).getD b 0=L0 ((List.range n).map (Zq tg n)) b:=by simp[d]
 rw[e];obtain⟨a,ha⟩|h:=f b d;·exact bC ⟨a,ha,BP g ha⟩
 exact aZ ⟨h,BJ d h⟩
def Nj(P:Wc)(b:Nat):Wa:=(List.range P.length).filter λc=>P.getD c 0==(b:Int)
def XT(P:List Int):Nat->Nat->List Nat
 |0,b=>[b]
 |m+1,b=>b::(Nj P b).flatMap (XT P m)
theorem o8{P:Wc}{b c:Nat}:c∈Nj P b↔c<P.length/\P.getD c 0=(b:Int):=by
 unfold Nj;rw[fG,bE,iA]
theorem Kf{n:Nat}{P:Wc}(h:YX tg n P){b c:Nat}(f:c∈Nj P b):O6 tg b c:=by
 let⟨e,d⟩:=o8.1 f;obtain⟨a,ha,ea⟩|⟨_,ea⟩:=h.2 c (by rw[<-h.1];exact e)
 .rw[ea]at d;have:a=b:=oM;rw[<-this];exact ha
 rw[ea]at d;omega
theorem Fi{P:Wc}{b:Nat}:(Nj P b).length<=P.length:=aJ (fJ _ _) sP
theorem Ji{n:Nat}{P:Wc}(h:YX tg n P):∀(m b x:Nat),Re tg b->x∈XT P m b->JO tg b x
 |0,b,x,hb,a=>by
  have:x=b:=by simpa [XT]using a
  rw[this];exact Zd hb
 |m+1,b,x,hb,a=>by
  rw[XT,cH]at a;obtain rfl|a:=a;·exact Zd hb
  let⟨c,e,a⟩:=bV.1 a;have d:=Kf h e;exact J8 d.1<|Ji h m c x d.1.2 a
theorem qY{r:Nat}{P:Wc}(h:YX tg r P):∀(m b:Nat),Re tg b->(XT P m b).Nodup
 |0,b,_=>by simp[XT]
 |m+1,b,hb=>by
  rw[XT,fL];refine⟨λd=>?_,?_⟩
  .obtain⟨c,a,d⟩:=bV.1 d;have g:=Kf h a;exact g.2<|Z1 g.1 (Ji h m c b g.1.2 d)
  unfold List.Nodup;rw[iK];refine⟨λc a=>qY h m c (Kf h a).1.2,?_⟩;have p:(Nj P b).Nodup:=List.nodup_range.sublist jR;refine jT (λ{c i} a o j x d y q f=>?_) p;subst f;have e:=Kf h a;have id:=Kf h o;have l:=Ji h m c x e.1.2 d;have n:=Ji h m i x id.1.2 q;obtain k|k:=TY l n;·exact e.2<|Z1 e.1 (id.3 c k j)
  exact id.2<|Z1 id.1 (e.3 i k λf=>j f.symm)
theorem o9{n:Nat}{P:Wc}(h:YX tg n P)(c:∀x,Re tg x->x<n)(m:Nat){b:Nat}(a:Re tg b):(XT P m b).length<=n:=YS (qY h m b a) λx d=>c x (Ji h m b x a d).2
theorem qJ{n:Nat}{P:Wc}(h:YX tg n P)(e:∀x,Re tg x->x<n){b c:Nat}(d:c∈Nj P b):(Zq tg n b).length<(Zq tg n c).length:=by
 have a:=Kf h d;exact VU (e c a.1.2) a.1 a.2
theorem rr(n b:Nat):(Zq tg n b).length<=n:=aJ (fJ _ _) sP
theorem B8{n:Nat}{P:Wc}(h:YX tg n P)(e:∀x,Re tg x->x<n){b:Nat}(d:Re tg b)(g:b≠0):∃c:Nat,P.getD b 0=(c:Int)/\c<n/\Re tg c/\(Zq tg n c).length<(Zq tg n b).length/\∀a,a≠b->(JO tg a b↔JO tg a c):=by
 obtain⟨c,hc,ec⟩|⟨hc,_⟩:=h.2 b (e b d);·exact⟨c,ec,e c hc.1.1,hc.1.1,VU (e b d) hc.1 hc.2,λa i=>⟨λk=>hc.3 a k i,λk=>J8 k hc.1⟩⟩
 exact absurd (hc 0<|CW d) λf=>g f.symm
end
section
def VB(b:Nat->Nat->Nat)(a:List Nat):Nat->Nat->Int
 |0,_=>-1
 |i+1,z=>match (a.take i).reverse.find? (λc=>!Xh (b<|a.getD i 0) c)with
  |some c=>if z=a.getD i 0 then (c:Int)else VB b a i z
  |none=>VB b a i z
theorem uY{c:Vp}{a:Wa}{i b:Nat}(h:(a.take i).reverse.find? (λb=>!Xh (c<|a.getD i 0) b)=some b)(z:Nat):VB c a (i+1) z=if z=a.getD i 0 then (b:Int)else VB c a i z:=by
 rw[VB,h]
theorem uC{b:Vp}{a:Wa}{i:Nat}(h:(a.take i).reverse.find? (λc=>!Xh (b<|a.getD i 0) c)=none)(z:Nat):VB b a (i+1) z=VB b a i z:=by
 rw[VB,h]
theorem wk{a:Wa}{N:Nat}(f:∀z∈a,z<N)(c:0<N){len:Nat}(b:len<=a.length):(K7 (WF f c) len 0).map (λx=>x.1.2)=(a.take len).reverse:=by
 apply mG;·simp[K7,b]
 intro j d g;have h:j<len:=by simpa [K7]using d
 have e:len-1-j<a.length:=oM;simp[K7,WF,jZ b,aC e]
theorem wG{b:Type}(f:Nat->b){len:Nat}:∀(k:Nat),k<=len->∃r,K7 f len 0=K7 f len k++r
 |0,_=>⟨[],sP⟩
 |k+1,h=>by
  obtain⟨r,a⟩:=wG f (len:=len) k oM;exact⟨f k::r,by rw[a,qK f<|show k<len from h];simp⟩
theorem Dc{d:Wa}{N:Nat}(b:∀z∈d,z<N)(a:0<N){len k:Nat}(h:len<=d.length)(g:k<=len){p:Ys}{c:List (Pb N)}{x:Pb N}(e:c++[x]=K7 (WF b a) len k)(i:∀y∈c,p y.1.2=false)(m:p x.1.2=true):(d.take len).reverse.find? p=some x.1.2:=by
 let⟨r,j⟩:=wG (WF b a) k g;rw[<-wk b a h,j,<-e,bG,bG,List.find?_append,List.find?_append];have f:(c.map λx=>x.1.2).find? p=none:=by
  rw[lS];intro y n;obtain⟨u,l,rfl⟩:=aY.1 n;rw[i u l];decide
 rw[f];simp[m]
theorem CR{a:Wa}{N:Nat}(c:∀z∈a,z<N)(b:0<N){len:Nat}(d:len<=a.length){p:Ys}(e:∀y∈K7 (WF c b) len 0,p y.1.2=false):(a.take len).reverse.find? p=none:=by
 rw[<-wk c b d,lS];intro y g;obtain⟨u,f,rfl⟩:=aY.1 g;rw[e u f];decide
theorem qC{Ws:Vp}{a:Wa}{b:Nat}:∀(i:Nat),i<=a.length->(∀j,j<i->a.getD j 0≠b)->VB Ws a i b=-1
 |0,_,_=>rfl
 |i+1,hi,h=>by
  have c:=qC (Ws:=Ws) i oM λj d=>h j oM;rw[VB];split;·rw[aM λe=>h i oM e.symm];exact c
  exact c
theorem uU{Ws:Vp}{ord:Wa}{b i:Nat}:∀(m:Nat),(∀j,i<=j->j<i+m->ord.getD j 0≠b)->VB Ws ord (i+m) b=VB Ws ord i b
 |0,_=>rfl
 |m+1,h=>by
  have c:=uU (Ws:=Ws) (i:=i) m λj a d=>h j a oM;rw[<-c,<-Nat.add_assoc,VB];split;·rw[aM λe=>h (i+m) oM oM e.symm]
  rfl
variable {tg: Nat -> Wa}
theorem UR{n:Nat}{Ws:Vp}{o:Wa}(t:o.Nodup)(l:∀x,x∈o↔Re tg x)(w:∀x,Re tg x->x<n)(y:∀x a,JO tg a x->a≠x->Oh o a x)(A:∀b,b<n->∀x,x<n->(Xh (Ws b) x=true↔Av tg x b)):YX tg n ((List.range n).map (VB Ws o o.length)):=by
 refine⟨sP,λb r=>?_⟩;have f:((List.range n).map (VB Ws o o.length)).getD b 0=VB Ws o o.length b:=by simp[r]
 rw[f];by_cases m:b∈o
 .let⟨i,g,e⟩:=bR m;have u:=gY.1 (show o.Pairwise (·≠·)from t);have h:∀j (d:j<o.length),o.getD j 0=o[j]:=λj d=>by simp[d]
  have p:VB Ws o o.length b=VB Ws o (i+1) b:=by
   have:=uU (Ws:=Ws) (ord:=o) (b:=b) (i:=i+1) (o.length-(i+1)) (λj p q=>by
    have d:j<o.length:=oM;rw[h j d,<-e];exact λf=>u i j g d oM f.symm)
   rw[show i+1+(o.length-(i+1))=o.length by omega]at this;exact this
  have q:VB Ws o i b=-1:=qC i oM (λj d=>by
   have s:j<o.length:=oM;rw[h j s,<-e];exact u j i s g d)
  have z:∀a∈o,(!Xh (Ws<|o.getD i 0) a)=true↔¬Av tg a o[i]:=λa ha=>by
   rw[h i g,<-A o[i] (e▸r) a (w a<|(l a).1 ha)];simp
  have k:=CJ t l y g z;rw[p];cases hf:(o.take i).reverse.find? (λa=>!Xh (Ws<|o.getD i 0) a)with
  |some a=>
   rw[hf]at k;rw[uY hf,h i g,e,aU rfl];exact bC ⟨a,e▸k,rfl⟩
  |none=>
   rw[hf]at k;rw[uC hf,q];exact aZ ⟨e▸k,rfl⟩
 refine aZ ⟨λc v=>absurd ((l b).2 v.2) m,qC _ aA λj d f=>m ?_⟩;have:o.getD j 0=o[j]:=by simp[d]
 rw[<-f,this];exact aH d
end
def XX(a:Wi)(k b:Nat):Wa:=(List.range k).filter λj=>decide (b∈X8 a j)
theorem tW{a:Wi}(d:∀x∈a,∀t∈x.3.tg,0<=t)(b:Nat):∀(k:Nat),k<=a.length->AQ (a.take k) 0 (b:Int)=Xi (XX a k b)
 |0,_=>by simp[AQ,XX,Xi]
 |k+1,g=>by
  have c:k<a.length:=g;rw[bN c,ZK,tW d b k oM];have i:(a.take k).length=k:=by simp;omega
  have f:a[k].3.tg.contains (b:Int)=decide (b∈X8 a k):=by
   rw[Km c,eQ,eY,bD,aY];constructor;·exact λh=>⟨_,h,sP⟩
   rintro⟨t,e,j⟩;have l:=d _ (aH c) t e;have:t=(b:Int):=oM;rw[<-this];exact e
  rw[f,i];unfold XX;rw[dN,eU,iW,jX];by_cases h:b∈X8 a k;·rw[aU (by simpa using h),aU<|by simpa using h];simp[Xi]
  rw[aM (by simpa using h),aM<|by simpa using h];simp[Xi]
theorem K9(a:∀c∈x,∀t∈c.3.tg,0<=t)(b:Nat):AQ x 0 (b:Int)=Xi (XX x x.length b):=by
 have:=tW a b x.length<|aA;rwa[gC]at this
theorem Uf:k∈XX x n m↔k<n/\m∈X8 x k:=by
 unfold XX;rw[fG,bE,bD]
theorem tR{xs:Wi}{b:Nat}:(XX xs n b).length<=n:=aJ (fJ _ _) sP
def Zp(a:Wi):Wk×Wa:=C9 (X8 a) a.length 0 (λ_=>0,[])
def Ja(a:Wi):Wa:=(Zp a).2.reverse
structure UF(xs:Wi):Prop where
 n1:1<=xs.length
 n2:xs.length<=1000
 tgt:∀x∈xs,∀t∈x.3.tg,0<=t/\t<xs.length
 ok:mp xs xs.length
theorem Wz(h:XJ ⟨t,x⟩=true):UF x:=by
 simp only[XJ,bY]at h;let⟨⟨⟨⟨a,c⟩,_⟩,_⟩,_⟩:=h;simp only[Y6,bY,bD]at a;have b:=Vi c;exact⟨a.1.1.2,a.1.2,λe d=>(b e d).1,b⟩
theorem UF.tg(h:UF x):∀b,b<x.length->∀t∈X8 x b,t<x.length:=λb a t c=>by
 rw[Km a]at c;obtain⟨z,d,rfl⟩:=aY.1 c;have:=h.3 _ (aH a) z d;omega
theorem UF.re(h:UF x):∀a,Re (X8 x) a->a<x.length:=λa c=>by
 induction c with
 |root=>exact h.1
 |step _ b d=>exact h.tg _ d _ b
theorem UF.top(h:UF x):(∀a,a∈Ja x↔Re (X8 x) a)/\(∀a,Xh (Zp x).1 a=true↔Re (X8 x) a)/\(Ja x).Nodup/\∀a b,JO (X8 x) b a->b≠a->Oh (Ja x) b a:=by
 let⟨d,f,g,i⟩:=ER h.tg h.1<|@aA x.length;refine⟨λa=>?_,f,?_,λa b j c=>Be<|i a b j c⟩
 .show a∈(Zp x).2.reverse↔_;rw[kU];exact d a
 show((Zp x).2.reverse).Nodup;exact List.pairwise_reverse.2<|g.imp λc e=>c e.symm
theorem UF.av(h:UF x)(f:∀b,b<x.length->∀a,a<x.length->(Xh (M b) a=true↔Sp (Nt x.length) (N7 x.length) (·∈Ja x) (λb=>((List.range x.length).map (XX x x.length)).getD b []) b a)):∀b,b<x.length->∀a,a<x.length->(Xh (M b) a=true↔Av (X8 x) a b):=λb c a d=>by
 rw[f b c a d];refine Gf (n:=x.length) (λb a d=>EN d) (λb a _ c=>En c) (λb=>h.top.1 b) h.re (λb s c=>?_) d;have e:((List.range x.length).map (XX x x.length)).getD b []=XX x x.length b:=by simp[c]
 rw[e];exact Uf
theorem UF.idm(h:UF x){Ws:Vp}(c:∀b,b<x.length->∀a,a<x.length->(Xh (Ws b) a=true↔Sp (Nt x.length) (N7 x.length) (·∈Ja x) (λb=>((List.range x.length).map (XX x x.length)).getD b []) b a)):YX (X8 x) x.length ((List.range x.length).map (VB Ws (Ja x) (Ja x).length)):=UR h.top.2.2.1 h.top.1 h.re h.top.2.2.2<|h.av c
theorem UF.ord_len(h:UF x):0<(Ja x).length/\(Ja x).length<=x.length/\∀b∈Ja x,b<x.length :=
 ⟨eJ<|(h.top.1 0).2 Re.root,YS h.top.2.2.1 λa d=>h.re a<|(h.top.1 a).1 d,λb c=>h.re b<|(h.top.1 b).1 c⟩
theorem Dh{tg:Yr}(h:YX tg n l)(c:∀x,Re tg x->x<n):∀p∈l,-1<=p/\p<n:=λp d=>by
 obtain⟨i,b,rfl⟩:=bR d;have e:l.getD i 0=l[i]:=by simp[b]
 rw[<-e];obtain⟨a,ha,ea⟩|⟨_,ea⟩:=h.2 i (by rw[<-h.1];exact b)
 .have:=c a ha.1.1;omega
 omega
structure Jy(V:Nat)(xs:Wi):Prop where
 okf:UF xs
 vle:V<=2000
 ops:∀x∈xs,∀y∈x.2,1<=y.1/\y.1<=13
 kind:∀x∈xs,1<=x.3.1/\x.3.1<=3
 rdi:∀x∈xs,∀y∈x.2,∀v∈Iw y,0<=v/\v<V
 wri:∀x∈xs,∀y∈x.2,∀v∈BW y,0<=v/\v<V
 rdt:∀x∈xs,∀v∈Id x.3,0<=v/\v<V
 phd:∀x∈xs,∀p∈x.1,0<=p.1/\p.1<V
 pha:∀t (h:t<xs.length),∀p∈xs[t].1,p.2.length=(AQ xs 0 (t:Int)).length/\∀a∈p.2,0<=a/\a<V
 lens:∀x∈xs,x.2.length<=4000/\x.1.length<=4000
theorem Vb(h:Tp r t T z=true)(a:r=true):T<=t/\t<z:=by
 subst a;simpa [Tp]using h
theorem AX(h:q∈x):Ul q<=Xo x:=by
 unfold Xo
 induction x with
 |nil=>cases h
 |cons y b a=>
  obtain rfl|h:=cH.1 h;·simp
  have:=a h;simp;omega
theorem wB:∀a:Za,a.length<=XZ a
 |[]=>aA
 |p::a=>by have:=wB a;simp[XZ]at*;omega
theorem XH(h:XJ ⟨(n:Int),x⟩=true):Jy n x:=by
 have w:=Wz h;simp only[XJ,bY]at h;let⟨⟨⟨⟨j,o⟩,q⟩,r⟩,_⟩:=h;simp only[Y6,bY,bD]at j;have f:∀b∈x,∀y∈b.2,Yw (n:Int) 10 y=true:=λb c y d=>dV.1 (dV.1 q b c) y d
 have l:∀b∈x,Zu (n:Int) 1 x.length b.3=true:=λb c=>by
  have:=dV.1 o b c;simp only[Jf,bY]at this;exact this.1
 have k:=(Zr ZX ⟨(n:Int),x⟩ x 0).1 r;refine⟨w,oM,λb c y d=>?_,λb c=>?_,λb c y d v a=>?_,λb c y d v a=>?_,λb c v a=>?_,λb c p g=>?_,λt i p g=>?_,λb c=>?_⟩
 .have:=f b c y d;simp only[Yw,bY,bD]at this;omega
 .have:=l b c;simp only[Zu,bY,bD]at this;omega
 .have:=f b c y d;simp only[Yw,bY]at this;let⟨⟨⟨⟨_,_⟩,ha⟩,s⟩,_⟩:=this;unfold Iw at a;obtain a|a:=bU.1 a
  .by_cases e:aB y.1=true
   .rw[aU e]at a;have e2:v=y.a:=by simpa using a
    rw[e2];exact Vb ha e
   rw[aM e]at a;cases a
  by_cases e:bB y.1=true
  .rw[aU e]at a;have e2:v=y.b:=by simpa using a
   rw[e2];exact Vb s e
  rw[aM e]at a;cases a
 .have:=f b c y d;simp only[Yw,bY]at this;let⟨⟨⟨⟨_,u⟩,_⟩,_⟩,_⟩:=this;unfold BW at a;by_cases e:dB y.1=true
  .rw[aU e]at a;have e2:v=y.2:=by simpa using a
   rw[e2];exact Vb u e
  rw[aM e]at a;cases a
 .have:=l b c;simp only[Zu,bY]at this;let⟨⟨⟨_,ha⟩,_⟩,_⟩:=this;unfold Id at a;by_cases e:(b.3.1 != 1)=true
  .rw[aU e]at a;have e2:v=b.3.a:=by simpa using a
   rw[e2];exact Vb ha e
  rw[aM e]at a;cases a
 .obtain⟨t,i,rfl⟩:=bR c;have:=dV.1 (k t i) p g;simp only[ZX,bY]at this;exact Vb this.1 rfl
 .have:=dV.1 (k t i) p g;simp only[ZX,Jt,bY,bD,dV]at this;rw[aV]at this;exact⟨this.2.1.2,λm ha=>this.2.2 m ha⟩
 have:=AX c;have z:=j.2;have:=wB b.1;unfold Ul at*;omega
def X9(l:Wc):Wa:=l.map Int.toNat
theorem Kv(h:∀v∈l,0<=v):(X9 l).map Int.ofNat=l:=by
 unfold X9;rw[jO]
 conv=>rhs;rw[<-List.map_id l]
 apply gH;intro v a;have:=h v a;simp[Function.comp];omega
theorem YV(h:∀v∈l,0<=v):n∈X9 l↔(n:Int)∈l:=by
 unfold X9;rw[aY];constructor
 .rintro⟨v,a,rfl⟩;have:=h v a;rw[show((v.toNat:Nat):Int)=v by omega];exact a
 intro b;exact⟨_,b,oM⟩
def Og(a:Wi)(t:Nat)(b:Za):List (Nat×Nat):=b.flatMap λp=>(XX a a.length t).zip (X9 p.2)
def PW(a:Wi)(t:Nat):List (Nat×Nat):=(a[t]?).elim [] λx=>Og a t x.1
def Nr(a:Wi)(k:Nat):List (Nat×Nat):=(List.range k).flatMap (PW a)
structure PF(w2 wr:Ub)(G n K:Nat)(gs:Wk)(Ws:Vp)(E:List (Nat×Nat)):Prop where
 sets:XK wr G n K gs (λ_=>K) Ws
 wd:XQ Ws
 fr:U8 w2 wr n gs
 has:∀b,b<n->∀v,Xh (Ws b) v=true↔(b,v)∈E
def O0(c wr:Ub)(G n K:Nat)(b:Wk)(E:List (Nat×Nat)):Prop:=∃a,PF c wr G n K b a E
theorem PF.below{wr:Ub}{E:List (Nat×Nat)}(h:PF w wr n m k f M E)(a:Below wr.1.size wr v):PF w v n m k f M E:=⟨h.1.keep a,h.2,h.3.below a,h.4⟩
theorem O0.below{wr:Ub}{E:List (Nat×Nat)}(h:O0 w wr n m k f E)(b:Below wr.1.size wr v):O0 w v n m k f E:=by
 let⟨a,h⟩:=h;exact⟨a,h.below b⟩
theorem PF.add{wr:Ub}{E:List (Nat×Nat)}(h:PF w wr n m k f M E)(c:B<m)(d:wr.grownBy v (some<|f B))(j:Cp v (f B) k k (E2 (M B) [g])):PF w v n m k f (λi=>if i=B then E2 (M B) [g]else M i) (E++[(B,g)]):=by
 refine⟨h.1.wrote c d j,λi=>?_,h.3.grown d c,λb a x=>?_⟩
 .by_cases e:i=B;·simp only[aU e];exact Zs _<|h.2 B
  simp only[aM e];exact h.2 i
 by_cases e:b=B
 .subst e;simp only[gG,bU,cS,jC,true_and];rw[YR,dI,bD,cS,h.4 b a x];exact or_comm
 simp only[aM e,bU,cS,jC];rw[h.4 b a x];exact⟨bC,λh=>h.elim id λh=>absurd h.1 e⟩
theorem D6{xs:Wi}(h:n<xs.length):Nr xs (n+1)=Nr xs n++Og xs n xs[n].1:=by
 unfold Nr;rw[dN,eZ];simp[PW,h]
theorem DL{xs:Wi}{t:Nat}{a:Za}(h:n<a.length):Og xs t (a.take<|n+1)=Og xs t (a.take n)++(XX xs xs.length t).zip (X9 a[n].2):=by
 unfold Og;rw[X7 h,eZ];simp
theorem A6(c:Nat)(ha:Hs (Xp w k B p x))(t:Hs (m=x.length))(hB:B<=w.1.size)(D:Hs (Jy n x)):
 Calls prog 99 #[.agg #[Hp n,.slice p m c]] w λh w'=>∃G f z,h=.returned (Hl G m m)/\w.1.size<=G/\Below w.1.size w w'/\XK w' G m ((n+63)/64) f (λ_=>(n+63)/64) z/\(∀i,i<m->w.1.size<=f i)/\XQ z/\∀A,A<m->∀ab,Xh (z A) ab=true↔(A,ab)∈Nr x m:=by
 have hn:m<=1000:=oP t.o D.1.2;have hV:=D.2;have aj:=Xa λW=>Ti m n W hn oM;have ar:=Xa (λW (d:Below w.1.size w W)=>KF (n:Int) c (Xa<|ha.keep (d.mono hB)) t oM (oN d.4) (Xa<|by rw[t.o];exact D.1.4));have hK:(n+63)/64<=32:=oM;have cl:n<=64*((n+63)/64):=oM;generalize (n+63)/64=K at*
 go_in
 go_wp2_with fail
 refine(aj _).mono ?_;rintro h S⟨G,f,rfl,hG,O,Q,a7⟩;have ad:Hs (Below w.1.size w<|w.alloc (.cells #[Hp n,.slice p m c] 37)):=Xa<|Xb (Below.refl _ _) _;have q0:=(O.cell (p:=Hk w.1.size 0) (by show w.1.size<_;simp)).trans (by simp[go_sem]:(w.alloc<|.cells #[Hp n,.slice p m c] 37).cell? (Hk w.heap.size 0)=some (Hp n));have q1:=(O.cell (p:=Hk w.1.size 1) (by show w.1.size<_;simp)).trans (by simp[go_sem]:(w.alloc<|.cells #[Hp n,.slice p m c] 37).cell? (Hk w.heap.size 1)=some (.slice p m c));have M:=Xa<|Xg ad O;have az:=Xa Q;have cj:w.1.size<G:=by simp at hG;omega
 have v:Hs (∀i,i<m->w.1.size<f i/\f i<S.1.size):=Xa (λi g=>⟨by have:=a7 i g;simp at this;omega,(Q.2 i g).lt⟩);have ck:=Q.1.lt;have ct:=M.4;have cg:w.1.size<S.1.size:=oM;have al:=Xa<|ar.o S M;clear O Q a7 hG aj ar ad;go_wp2_with fail
 refine al.mono ?_;rintro h r⟨ci,rfl,H,bd⟩;have u:=Xa<|Xg M H;have bx:=Xa bd.ints;have bo:Hs (O0 r r G m K f []):=Xa ⟨_,az.keep H,λ_=>λ_=>vY,U8.refl _ _ _,λA _ ab=>by simp[Z3]⟩;have cx:=oB H q1 cg;have cv:=H.4;clear H bd al az q0 q1 M;have bl:=Xa<|ha.keep (u.mono hB);go_wp2
 go_loopw [22] (λi wr=>∃a:Nat,a<=m/\i=Hp a/\Hs (O0 r wr G m K f<|Nr x a)) λi _=>m-(intOf i).toNat
 case atStart=>exact⟨0,aN,rfl,bo⟩
 obtain⟨a,hk,rfl,b⟩:=hrel;by_cases cd:a<m
 .have P:a<x.length:=oN t.o;obtain⟨A,cw,rfl,a5,hc⟩:=bl a P;have l:=b.elim λ_ U=>U.3;have s:Hs (YA k B r wr):=Xa (λi E F=>l.5 i oM λj C h=>by have:=v j C;omega);let⟨pa,pc,ia,ic,e0,e1,⟨e2,e3,e4,e5⟩,bb,_⟩:=hc.keepS s<|s A a5.1 a5.2;have aq:=Xa bb;have br:=Xa<|D6 (xs:=x) P;have bt:=Xa<|D.9 a P;have ao:=Xa (K9 (λch t L ht=>(D.1.3 ch t L ht).1) a);have I:=(D.10 x[a] (aH P)).2;clear hc bb l;generalize x[a]=X at*;go_wp2_with fail
  have bp:Hs (O0 r (wr.alloc<|.cells #[.slice pa X.1.length pc,.slice ia X.2.length ic,Hp X.3.1,Hp X.3.a,Hp X.3.3,Hp X.3.4] 60) G m K f (Nr x a)):=Xa<|b.below (Xb (Below.refl _ _) _);have bv:=Xa (aq.keepS λi E F=>(s i E F).symm);clear aq s e0 e1 e2 e3 e4 e5 b;generalize wr=wo at*
  go_loopw [30] (λi wr=>∃j:Nat,j<=X.1.length/\i=Hp j/\Hs (O0 r wr G m K f<|Nr x a++Og x a (X.1.take j))) λi _=>X.1.length-(intOf i).toNat
  case atStart=>exact⟨0,aN,rfl,Xa<|by rw[show Nr x a++Og x a (X.1.take 0)=Nr x a by simp[Og]];exact bp⟩
  obtain⟨j,C,rfl,b⟩:=hrel;by_cases Y:j<X.1.length
  .have l:=b.elim λ_ U=>U.3;have s:Hs (YA k B r wr):=Xa (λi E F=>l.5 i oM λj C h=>by have:=v j C;omega);obtain⟨b2,o2,rfl,cn,ap,cp,f0,f1,a2⟩:=(bv.keepS s) j Y;have bm:=Xa (a2.keepS λi E F=>(s i E F).symm);have b1:=Xa<|DL (xs:=x) (t:=a) Y;let⟨a0,a3⟩:=bt X.1[j] (aH Y);have bn:=Xa a3;clear l a2 a3;generalize X.1[j]=e at*;have cr:(XX x x.length a).length<=m:=oP (tR (xs:=x) (n:=x.length) (b:=a)) t.o;have a1:e.2.length=(XX x x.length a).length:=by rw[a0,ao.o];simp[Xi]
   have ac:=Xa a1;have cm:e.2.length<=1000:=oM;clear a0 a1;go_wp2_with fail
   have bq:Hs (O0 r (wr.alloc<|.cells #[Hp e.1,.slice ap e.2.length cp] 62) G m K f (Nr x a++Og x a (X.1.take j))):=Xa<|b.below (Xb (Below.refl _ _) _);clear b f0 f1 s;generalize wr=cz at*
   go_loopw [37] (λi wr=>∃q:Nat,q<=e.2.length/\i=Hp q/\Hs (O0 r wr G m K f<|Nr x a++Og x a (X.1.take j)++((XX x x.length a).zip (X9 e.2)).take q)) λi _=>e.2.length-(intOf i).toNat
   case atStart=>exact⟨0,aN,rfl,Xa<|by rw[lK,fF];exact bq⟩
   obtain⟨q,hq,rfl,b⟩:=hrel;by_cases a9:q<e.2.length
   .let⟨z,d⟩:=b.o;have l:=d.3;obtain⟨b3,o3,rfl,co,r0⟩:=bm q a9;have bh:=(Xc (l.5 b3 oM λi g h=>by have:=v i g;omega)).trans r0;let⟨b4,o4,e4,b8,a4,c4,r1,V⟩:=bx a (by simpa using cd);injection e4 with e4;injection e4 with e5 e6;subst e5;subst e6;have R:=(Xc (l.5 (S.1.size+1) b8.2 λi g h=>by have:=v i g;omega)).trans r1;simp only[cM,dW,ao.o]at R V;have Z:q<(XX x x.length a).length:=oN ac.o;let⟨b5,o5,e7,ca,r2⟩:=V q (by simpa [Xi]using Z);subst e7;have bi:=(Xc (l.5 b5 ca.2 λi g h=>by have:=v i g;omega)).trans r2;have bc:(Xi<|XX x x.length a)[q]'(by simpa [Xi]using Z)=(((XX x x.length a)[q]:Nat):Int):=by simp[Xi]
    rw[bc]at bi;have I:(XX x x.length a)[q]<m:=oP ((Uf.1<|aH Z).1) t.o
    have aa:=bn e.2[q] (aH a9);have y:Hs (((XX x x.length a).zip (X9 e.2)).take (q+1)=((XX x x.length a).zip (X9 e.2)).take q++[((XX x x.length a)[q],e.2[q].toNat)]):=Xa (by
     rw[X7<|by simp[X9];omega];simp[X9])
    let⟨o,bf⟩:=bX aa.1;rw[bf]at bh aa y;simp only[dM]at y;have a8:(Xi<|XX x x.length a).length=(XX x x.length a).length:=by simp[Xi]
    rw[a8,aV]at R;have ba:=ac.o;rw[<-ba]at R;have N:=Xa d;clear d l r0 r1 r2 V bc bf b ba a8;generalize (XX x x.length a)[q]=J at*;have b7:=N.1.1.cell I;have cs:o<n:=oM;clear aa;go_wp2_with fail
    have T:=Xa<|N.below (Xb (Below.refl _ _) (.cells #[Hp o] 109));have cq:=(N.1.2 J I).lt;have cf:wr.1.size+1<=(wr.alloc<|.cells #[Hp o] 109).1.size:=sP;have af:Hs (Xf (wr.alloc<|.cells #[Hp o] 109) wr.1.size (wr.1.size+1) (some ⟨wr.1.size,0,none⟩) ([o].map Int.ofNat)):=Xa<|UY wr o;have b0:∀L∈[o],L<64*K:=λL ht=>by
     have h:L=o:=by simpa using ht
     omega
    refine(ZG (f J) K K 1 1 (z J) _ [o] wr.1.size (wr.1.size+1) _ af (Xa rfl) oM (Xa b0) oM (Xa<|N.2 J) (Xa<|T.1.2 J I) cf oM).mono ?_;rintro h w5⟨rfl,a6,be⟩;have b6:=Xa<|T.add I a6 be;clear a6 be T af b7 bh R bi;go_wp2;exact⟨⟨q+1,oM,gM,Xa ⟨_,by rw[y.o,<-cK];exact b6⟩⟩,by simp[intOf];omega⟩
   have ce:q=e.2.length:=oM;have y:Hs (((XX x x.length a).zip (X9 e.2)).take q=(XX x x.length a).zip (X9 e.2)):=Xa (aW<|by simp[X9];omega);rw[y.o]at b;clear ce;go_wp2;exact⟨⟨j+1,oM,gM,Xa<|by rw[b1.o,<-cK];exact b⟩,by simp[intOf];omega⟩
  have cb:j=X.1.length:=oM;have y:Hs (X.1.take j=X.1):=Xa<|aW oM;rw[y.o]at b;clear cb;go_wp2;exact⟨⟨a+1,oM,gM,Xa<|by rw[br.o];exact b⟩,by simp[intOf];omega⟩
 have cc:a=m:=oM;subst cc;go_wp2;go_ret;let⟨z,d⟩:=b.o;refine⟨G,f,z,rfl,oM,⟨d.3.1.trans u.1,d.3.2.trans u.2,d.3.3.trans u.3,aJ u.4 d.3.4,λi g=>(d.3.5 i (oN u.4) λj C h=>by have:=v j C;omega).trans (u.5 i g)⟩,d.1,λi g=>by have:=v i g;omega,d.2,d.4⟩
theorem Ki(l:Int)(a:Uy)(c:Nat)(s:n<=1000):
 Calls prog 44 #[.agg #[Hp l,.slice a n c]] w λi d=>∃f b,i=.returned (Hn f)/\w.1.size<=f/\w.1.size<=b/\Below w.1.size w d/\YW d f b d.1.size ((n+63)/64) a n c (λ_=>0) Hq []:=by
 have o:=Xa λW=>Tt n W oM
 go_in
 go_wp2_with fail
 refine Y7 (λd=>d.cell? (Hk w.1.size 1)=some (.slice a n c)) λhHeld=>?_;refine Xn 0 ?_;refine Xn 1 ?_;refine Xn 2 ?_;refine Xn 3 ?_;refine Xn 4 ?_;refine Xs 5 λK hK=>?_;go_simp
 go_at_call 95
 refine(o _).mono ?_;rintro i h⟨b,rfl,k,e,g⟩;have t:w.1.size+1<=h.1.size:=by have:=e.4;simp at this;omega
 have j:Cl h w.1.size 1 (.slice a n c):=(e.cell (p:=Hk w.1.size 1) (by show w.1.size<_;simp)).trans (by simp[go_sem]);have r:=g.lt;have m:=Xa<|Xg (w1:=(w.alloc<|.cells #[Hp l,.slice a n c] 37).drew) (Xb (Below.refl _ _) _).drew e;have p:=Xa g;have q:w.1.size<=b:=by simp at k;omega
 refine hK _ _ j λhHeld=>?_;refine Xn 6 ?_;refine Xs 7 λK hK=>?_;go_simp;refine hK _ _ ((bP _ _ _<|by show w.1.size<_;omega).trans j) λhHeld=>?_;refine Xn 8 ?_;refine Yq ?_;go_wp2;go_ret;refine⟨h.1.size,b,rfl,oM,q,Xb m _,⟨sP,sP,sP,λu=>sP,p.alloc _,dA,sP,by simp;omega,oM,aA⟩⟩
section
attribute [local go_sem] Oper.semAt_some
def O7(a:Wa):List Deferred:=a.map λD=>{ target:=.collected D,args:=#[] }
structure ZJ(W:Ub)(B:Nat)(ds:Wa):Prop where
 nd:ds.Nodup
 ge:∀D∈ds,B<=D
 obj:∀D∈ds,W.1[D]?=some (.deferred (some []))
theorem U4{F:Fence}{n:Nat}{P:Yh}{d:Func}{tmps:Zh}{R:Ending->Vy}{B:Nat}:∀(b:Wa)(W:Ub),ZJ W B b->B<=W.1.size->(∀a,Below B W a->∃v,(results d tmps).run P a=.ok v a/\R (.returned v) a)->LeavesInM F n P d tmps R (O7 b) .returning W
 |[],W,_,_,h=>h W<|Below.refl _ _
 |D::b,W,hm,hB,h=>by
  refine⟨sP,bC ⟨D,_,rfl,run_takeDeferred<|hm.3 D cI,?_⟩⟩;have g:=hm.2 D cI;have f:Below B W (W.putObj D<|.deferred none):=(Below.refl B W).grown (grownBy_putObj' W D _) hB (λk e=>by cases e;exact g);refine U4 b _ ⟨(fL.1 hm.1).2,λk c=>hm.2 k<|cN _ c,λk c=>?_⟩ (aJ hB f.4) λa k=>h a<|f.trans k;exact(World.putObj_heap_other λe=>(fL.1 hm.1).1 (by rw[<-e];exact c)).trans (hm.3 k<|cN _ c)
theorem uR{wr:Ub}(h:ZJ wr n s)(f:wr.1.size<=m)(hK:w.1[m]?=some (.deferred (some [])))(d:∀a,a<wr.1.size->a≠k->w.1[a]?=wr.1[a]?)(e:k<n/\n<=wr.1.size):ZJ w n (m::s):=by
 have c:=λa b=>(aS.1<|h.3 a b).1;refine⟨fL.2 ⟨λa=>by have:=c m a;omega,h.1⟩,λa b=>?_,λa b=>?_⟩
 .rcases cH.1 b with rfl|b;·omega
  exact h.2 a b
 obtain rfl|b:=cH.1 b;·exact hK
 exact(d a (c a b) (oN<|h.2 a b)).trans (h.3 a b)
theorem Bk(L:Nat){c0:Nat}{aq:List Wa}{B2:Nat}(ci:Hs (XR w j B2 p<|aq.map Xi))(K:Hs (n=aq.length))(a8:Hs (Xf w g i (some ⟨m,k,none⟩) (Xi s)))(h0:Hs (B=s.length))(hn:n<=1000)(aa:0<n)(dl:B<=1000)(dn:0<B)(en:B<=c0)(b0:i<=w.1.size)(dc:B2<=w.1.size)(N:Hs (∀M∈s,M<n))(ch:Hs (∀U∈aq,U.length<=2000/\∀ed∈U,ed<n)):
 Calls prog 163 #[.slice p n L,Hm m k B c0] w λe w'=>∃a3 l,e=.returned (Hl a3 n n)/\w.1.size<=a3/\Below w.1.size w w'/\w'.rowIs a3 2 n (λD=>Hp<|VB l s B D)/\∀M,M<n->∀x,x<n->(Xh (l M) x=true↔Sp (Nt n) (N7 n) (·∈s) (λM=>aq.getD M []) M x):=by
 have bb:=Xa λW (hb:Below w.1.size w W)=>A5 p L c0 j B2 (Xa<|ci.keepS λb _ S=>(hb.mono dc).5 b S) K (Xa<|a8.keep (hb.mono b0)) h0 hn aa dl dn (oN hb.4) (oN hb.4) N ch;have ei:(n+63)/64<=16:=oM;have ej:n<=64*((n+63)/64):=oM;generalize (n+63)/64=a2 at*;refine(bM (n:=4)).1 ?_;refine callsIn_of_wp_marks func163 rfl trivial ?_ rfl;simp only[ntmps163,xY,Nat.reduceAdd,Nat.reduceSub];gi_wp2;refine⟨trivial,(bM.2<|bb w (Below.refl _ _)).mono ?_⟩;rintro e r⟨Q,gs,l,rfl,a5,ap,cj,cd⟩;have bc:=Xa a5;have bo:=Xa ap;have da:=Xa cj;have cz:=Xa cd;have eg:=ap.1.lt;have cx:=Xa λa hi=>(ap.2 a hi).lt;have ez:=a5.4;clear a5 ap cj cd bb;gi_wp2;refine⟨trivial,(bM.2<|BK (r.1.size+1) ((r.alloc<|.cells #[Hl Q n n] 310).alloc (.cells #[Hp (-1)] 2)) hn aa (by simp[go_sem]) sP).mono ?_⟩;rintro e q⟨d,rfl,ca,Y,a9⟩;have bd:=Xa<|Xg (Xb (Xb bc _) _) Y;have e0:r.1.size+2<=q.1.size:=by have:=Y.4;simp at this;omega
 have et:r.1.size+2<=d:=by simp at ca;omega
 have eu:=a9.lt;have bp:=Xa<|(bo.keep<|Xb (Xb (Below.refl _ _) _) _).keep Y;have bt:Cl q r.1.size 0 (Hl Q n n):=(Y.cell (p:=Hk r.1.size 0) (by show r.1.size<_;simp;omega)).trans (by simp[go_sem]);have bl:=Xa a9;clear Y a9 ca bc bo;gi_wp2;have az:Hs (Below w.1.size w<|q.alloc (.cells #[Hl d n n] 41)):=Xa<|Xb bd _;have bm:Hs ((q.alloc<|.cells #[Hl d n n] 41).rowIs d 2 n λD=>Hp<|VB l s 0 D):=Xa<|bl.alloc _;have c8:=Xa<|bp.keep (Xb (Below.refl _ _) (.cells #[Hl d n n] 41));have bv:(q.alloc<|.cells #[Hl d n n] 41).cell? (Hk r.1.size 0)=some (Hl Q n n):=(bP _ _ _<|by show r.1.size<_;omega).trans bt;have b3:(q.alloc<|.cells #[Hl d n n] 41).cell? (Hk q.1.size 0)=some (Hl d n n):=by simp[go_sem]
 have eb:q.1.size<(q.alloc<|.cells #[Hl d n n] 41).1.size:=sP;clear bd bl bp bt;generalize q.alloc _=P at*;have ct:=Xa bv;have bf:=Xa b3;have bi:=Xa<|a8.keep (az.mono b0);have cl:=az.4;clear bv b3 a8 ci K ch;refine nH (λH wr=>∃(a:Nat)(R:Wa)(u7 u8 u21 u22 cn co cp cq cr cs u42:Uj),a<=B/\H=⟨#[.slice p n L,Hm m k B c0,undef,undef,Hq,Hn r.1.size,Hn q.1.size,u7,u8,undef,undef,.slice p n L,Hm m k B c0,Hl Q n n,Hl (r.1.size+1) 1 1,.slice p n L,Hp n,Hl d n n,Hm m k B c0,Hp B,Hp a,u21,u22,cn,co,cp,cq,cr,cs,undef,undef,undef,undef,undef,undef,undef,undef,undef,undef,undef,undef,undef,u42,undef],O7 R⟩/\Hs (P.grownBy wr<|some d)/\Hs (wr.rowIs d 2 n λD=>Hp<|VB l s a D)/\Hs (ZJ wr P.1.size R)) (λH _=>B-(intOf<|H.1.getD 20 undef).toNat) ?_ ?_;·exact⟨0,[],_,_,_,_,_,_,_,_,_,_,_,aN,rfl,Xa<|lJ _ _,bm,Xa ⟨iU,λ_ F=>(by cases F),λ_ F=>(by cases F)⟩⟩
 rintro H wr⟨a,R,u7,u8,u21,u22,cn,co,cp,cq,cr,cs,u42,hi,rfl,E,HR,HM⟩;clear bm;by_cases ev:a<B
 .have al:a<s.length:=oN h0.o;let⟨t,G,er,em,bq⟩:=bi a (by simpa [Xi]using al);have a6:=N _<|aH al;have du:(Xi s)[a]'(by simpa [Xi]using al)=((s[a]:Nat):Int):=by simp[Xi]
  rw[du]at bq;obtain⟨rfl,rfl⟩:t=m/\G=k:=by injection er with er;injection er with e1 e2;exact⟨e1.symm,e2.symm⟩
  have dd:t<P.1.size:=oM;have J:t≠d:=oM;have ep:=(bZ<|E.5 t dd λe=>J<|by injection e).trans bq;have eq:a<=c0:=oM;have cc:s.getD a 0=s[a]:=by simp[al]
  have ad:=Xa cc;have ea:=E.4;have cb:d<P.1.size/\P.1.size<=wr.1.size:=⟨oM,ea⟩;have bh:=Xa cb;clear cc cb;gi_wp2;refine⟨trivial,(Ba Fence.wide 3 trivial rfl a c0).mono ?_⟩;rintro e v⟨rfl,ab⟩;rw[aO];have ck:v.1.size=wr.1.size+2:=by rw[ab];simp
  have b8:v.cell? (Hk wr.1.size 0)=some (Hp ((s[a]:Nat):Int)):=by rw[ab];simp[go_sem]
  have d0:v.cell? (Hk (wr.1.size+1) 0)=some (Hm t G a c0):=by
   rw[ab];simp[go_sem]
  have o:Below wr.1.size wr v:=by rw[ab];exact Xb (Xb (Below.refl _ _) _) _
  clear ab;have a7:∀b,b<P.1.size->b≠d->v.1[b]?=P.1[b]?:=λb f J=>(o.5 b oM).trans (E.5 b f λe=>J<|by injection e)
  have dz:∀A,A<a->v.cell? (Hk t<|G+A)=some (Hp ((s[A]?.getD 0:Nat):Int)):=λA hj=>by
   let⟨b5,o5,e5,h5,e6⟩:=bi A (by simp[Xi];omega);injection e5 with e5;injection e5 with e1 e2;subst e1;subst e2;have dj:A<s.length:=oM;have dw:(Xi s)[A]'(by simp[Xi];omega)=((s[A]:Nat):Int):=by simp[Xi]
   rw[dw]at e6;rw[aC dj,gR];exact(bZ<|a7 t oM oM).trans e6
  have ce:=HR.of_block<|o.5 d oM;have bn:=Xa ce;have c9:Hs (Ye v Q n a2 gs l):=Xa ((c8.grown E oM λA hj e=>by have:=cx A hj;omega).keep o);have bx:=(bZ<|a7 r.1.size oM oM).trans ct;have b4:=(bZ<|a7 q.1.size oM oM).trans bf;have cw:=Xa b8;have cv:=Xa bx;have c6:=Xa b4;have ee:=Xa ck;have e7:wr.1.size+2<=v.1.size:=oM;clear ck b8 bx b4 ce;gi_wp2
  refine wpIn_rangeFunc_ownF (F:=Fence.wide) (n:=4) rfl vY (gf:=213) (lb:=#[Hn<|wr.1.size+1]) rfl trivial (enters_of func213 vZ rfl) (AA Fence.wide 3 trivial rfl vY N aa oM oM oM d0 dz) belowK_t (belowK_b<|aA) (Below.refl _ _) (λ_=>rfl)
   (λV W=>Below v.1.size v W/\∀C∈V,Xh (l s[a]) C.1.2=true)
   (λc V W=>c=.exit 2/\∃ac x,V=ac++[x]/\(∀C∈ac,Xh (l s[a]) C.1.2=true)/\Xh (l s[a]) x.1.2=false/\v.grownBy W (some d)/\W.rowIs d 2 n λD=>Hp<|if D=s[a]then (x.1.2:Int)else VB l s a D)
   (λec W W' row K y O=>⟨K.1.grown y K.1.4 λb e=>(O b e).1,K.2⟩)
   (λc ec W W' row K y O=>by
    let⟨hc,ac,x,e,h1,S,T,cg⟩:=K;refine⟨hc,ac,x,e,h1,S,⟨y.1.trans T.1,y.2.trans T.2,y.3.trans T.3,aJ T.4 y.4,λb f J=>(y.5 b (aX f T.4) λe=>by have:=(O b e.symm).1;omega).trans (T.5 b f J)⟩,cg.of_block (y.5 d cg.lt λe=>by have:=(O d e.symm).1;omega)⟩)
   ⟨Below.refl _ _,λ_ F=>by cases F⟩
   (λx=>⟨#[.slice p n L,Hm t G B c0,undef,undef,Hq,Hn r.1.size,Hn q.1.size,Hp a,Hn wr.1.size,undef,Hp (x.1.2:Int),.slice p n L,Hm t G B c0,Hl Q n n,Hl (r.1.size+1) 1 1,.slice p n L,Hp n,Hl d n n,Hm t G B c0,Hp B,Hp a,.bool true,Hp a,Ho t<|G+a,Hp ((s[a]:Nat):Int),Hm t G B c0,Hp a,Hm t G a c0,.func (.func 213) #[] #[Hn<|wr.1.size+1],Hp (x.1.1:Int),Hp (x.1.2:Int),undef,undef,undef,undef,undef,undef,undef,undef,undef,undef,undef,u42,undef],[]⟩) ?assign ?body ?done ?stop
  case assign=>
   intro U x W a2 hK;gi_wp2;exact hK
  case body=>
   rintro U V x W⟨z,X⟩ _;have b1:=(XU z oM).trans cw;have db:=(XU z oM).trans cv;have b6:=(XU z oM).trans c6;have a4:=c9.keep z;have df:=a4.1.cell a6;have ey:=x.2;have ba:=Xa X;have h:=Xa z;have cf:=bn.of_block<|z.5 d oM;have aj:=Xa cf;have af:=Xa<|Jm (gs s[a]) a2 x.1.2 (l s[a]) W (Xa<|da.o s[a]) (Xa (a4.2 s[a] a6).to_row) oM oM;clear X z cf a4;cases hh:Xh (l s[a]) x.1.2 with
   |true=>
    have HH:=Xa hh;rw[hh]at af;clear hh;gi_wp2;refine⟨trivial,(CallsIn.inRound U<|bM.2 af).mono ?_⟩;rintro e W5⟨rfl,I⟩;have u:=Xa I;clear I;gi_wp2
    exact⟨⟨u.4,λb cm f _=>(u.5 b (aS.1 f).1).trans f⟩,u.mono h.4,Xg h u,λC hy=>by
     obtain F|F:=bU.1 hy;·exact ba C F
     have:C=x:=by simpa using F
     rw[this];exact HH⟩
   |false=>
    have HH:=Xa hh;rw[hh]at af;clear hh;gi_wp2;refine⟨trivial,(CallsIn.inRound U<|bM.2 af).mono ?_⟩;rintro e W5⟨rfl,I⟩;have ef:=oB I b1 (by show wr.1.size<_;have:=h.4;omega);have ek:=oB I b6 (by show q.1.size<_;have:=h.4;omega);have ao:=aj.of_block<|I.5 d (oN h.4);have eo:=ao.cell a6;have es:=ao.frozen s[a];have c7:=Xa ao;have u:=Xa I;clear I ao b1 b6 db df aj;gi_wp2;refine⟨⟨by rw[Xd];exact u.4,λb cm f N=>?_⟩,rfl,V,x,rfl,ba,HH,?_,?_⟩
    .have dk:=(aS.1 f).1;have h5:=(u.5 b dk).trans f;exact(KeepsOthers.setCell W5 _ _).2 b cm h5 N
    .exact((⟨(Xg h u).1,(Xg h u).2,(Xg h u).3,(Xg h u).4,λb f _=>(Xg h u).5 b f⟩:v.grownBy W5 (some d))).trans ⟨rfl,rfl,rfl,by simp[World.setCell],λb _ f=>Below.heap_setCell _ _ _ _ λe=>f<|by rw[e]⟩
    exact TS (C:=Value.int .i64) c7 s[a] (x.1.2:Int)
  case done=>
   rintro ar ys W hD rfl⟨z,X⟩ hK;have Z:=CR N aa (len:=a) oM (p:=λH=>!Xh (l<|s.getD a 0) H) (λC hy=>by rw[ad.o,X C hy];rfl);have a0:=Xa Z;have h:=Xa z;have a1:=Xa hK;clear Z X z hK;gi_wp2;refine⟨⟨a+1,ar::R,_,_,_,_,_,_,_,_,_,_,_,oM,rfl,Xa ?_,Xa ?_,Xa ?_⟩,by simp[intOf];omega⟩;·exact(E.trans ⟨o.1,o.2,o.3,o.4,λb f _=>o.5 b f⟩).trans ⟨h.1,h.2,h.3,h.4,λb f _=>h.5 b f⟩
   .exact(bn.of_block<|h.5 d oM).congr λD _=>by rw[uC a0.o]
   exact uR HM oM a1 (λb f J=>(h.5 b oM).trans (o.5 b f)) bh
  rintro ar c V W hD⟨b,f,rfl⟩ ⟨rfl,ac,x,e,h1,S,y,O⟩ hK;have Z:=Dc N aa (len:=a) oM (dU f) (p:=λH=>!Xh (l<|s.getD a 0) H) e.symm (λC hy=>by rw[ad.o,h1 C hy];rfl) (by rw[ad.o,S];rfl);have a0:=Xa Z;have be:=Xa y;have aj:=Xa O;have a1:=Xa hK;clear Z h1 S y O hK e;gi_wp2;refine⟨⟨a+1,ar::R,_,_,_,_,_,_,_,_,_,_,_,oM,rfl,Xa ?_,Xa ?_,Xa ?_⟩,by simp[intOf];omega⟩;·exact(E.trans ⟨o.1,o.2,o.3,o.4,λb f _=>o.5 b f⟩).trans be
  .exact aj.congr λD _=>by rw[uY a0.o,ad.o]
  exact uR HM oM a1 (λb f J=>(be.5 b oM λe=>J<|by injection e).trans (o.5 b f)) bh
 have di:a=B:=oM;subst di;have el:=(bZ<|E.5 q.1.size eb λe=>by injection e with e;omega).trans bf;gi_wp2;refine U4 R wr HM E.4 λW' b7=>?_;refine⟨Hl d n n,by simp[results,results163,go_sem],d,l,rfl,oM,?_,?_,cz⟩;·exact(az.grown E cl λb e=>by cases e;omega).trans (b7.mono cl)
 exact HR.of_block<|b7.5 d oM
end
section
def Yu{T:Type}(f:Nat->T->List Value):Nat->List T->List Value
 |_,[]=>[]
 |k,x::xs=>f k x++Yu f (k+1) xs
variable {T: Type} {f f': Nat -> T -> Wo} {sz: Nat}
theorem Zn(b:∀k x,(f k x).length=sz):∀(k:Nat)(a:List T),(Yu f k a).length=a.length*sz
 |_,[]=>by simp[Yu]
 |k,x::a=>by rw[Yu,aQ,b,Zn b,bA,jK,jL,Nat.add_comm]
theorem Xz(b:∀k x,(f k x).length=sz):∀(k:Nat)(a:List T)(i:Nat)(h:i<a.length)(q:Nat),q<sz->(Yu f k a)[i*sz+q]?=(f (k+i) a[i])[q]?
 |_,[],_,h,_,_=>absurd h sP
 |k,x::a,0,_,q,hq=>by
  rw[Yu,lC,aV,dL<|by rw[b];exact hq];rfl
 |k,x::a,i+1,h,q,hq=>by
  rw[Yu,eV (by rw[b,jK,jL];omega),b,show(i+1)*sz+q-sz=i*sz+q by rw[jK,jL];omega,Xz b (k+1) a i (by simpa using h) q hq,fO,show k+1+i=k+(i+1) by omega]
theorem Zo:∀(k:Nat)(a:List T)(x:T),Yu f k (a++[x])=Yu f k a++f (k+a.length) x
 |k,[],x=>by simp[Yu]
 |k,y::a,x=>by rw[cW,Yu,Yu,Zo (k+1) a x,cK,bA,show k+1+a.length=k+(a.length+1) by omega]
structure Xv(w:Ub)(lab:Nat->Nat×Nat×Nat)(L:Nat×Nat×Nat)(base t sz:Nat)(v:Uj)(n:Nat)(cs:Wo):Prop where
 own:w.ownsRow base t sz v n cs
 lab:∀b,v.ownBlock=some b->lab b=L
theorem Zl{w w':Ub}{a t sz:Nat}{v:Uj}{n:Nat}{c:Wo}(h:w.ownsRow a t sz v n c)(o:∀b,v.ownBlock=some b->w'.1[b]?=w.1[b]?):w'.ownsRow a t sz v n c:=by
 obtain⟨d,h|⟨g,e,i,j,l,m,k⟩⟩:=h;·exact⟨d,bC h⟩
 subst j;exact⟨d,aZ ⟨g,e,i,rfl,l,(o g rfl).trans m,k⟩⟩
theorem Xv.keep{w w':Ub}{d g:Nat->Nat×Nat×Nat}{L:Nat×Nat×Nat}{a t sz:Nat}{v:Uj}{n:Nat}{c:Wo}(h:Xv w d L a t sz v n c)(k:∀b,a<=b->b<w.1.size->d b=L->w'.1[b]?=w.1[b]?/\g b=L):Xv w' g L a t sz v n c :=
 ⟨Zl h.1 λb e=>(k b (h.1.lt b e).1 (h.1.lt b e).2 (h.2 b e)).1,λb e=>(k b (h.1.lt b e).1 (h.1.lt b e).2 (h.2 b e)).2⟩
theorem Xv.set{w:Ub}{d:Nat->Nat×Nat×Nat}{L:Nat×Nat×Nat}{a t sz g n c:Nat}{b:Wo}(h:Xv w d L a t sz (.slice (some ⟨g,0,none⟩) n c) n b)(q:Nat)(u:Uj):Xv (w.setCell ⟨g,q,none⟩ u) d L a t sz (.slice (some ⟨g,0,none⟩) n c) n (b.set q u):=⟨qO h.1 u,h.2⟩
theorem Xv.thaw{w:Ub}{d:Nat->Nat×Nat×Nat}{L:Nat×Nat×Nat}{a t sz g n c:Nat}{b:Wo}(h:Xv w d L a t sz (Hl g n c) n b)(q:Nat):w.frozen? (Hk g q)=false:=h.1.frozenAt q
theorem Xv.cell{w:Ub}{e:Nat->Nat×Nat×Nat}{L:Nat×Nat×Nat}{b t sz g n c:Nat}{a:Wo}(h:Xv w e L b t sz (Hl g n c) n a){q:Nat}{u:Uj}(d:a[q]?=some u):w.cell? (Hk g q)=some u:=Jj h.1 d
theorem Xv.blk{w:Ub}{b:Nat->Nat×Nat×Nat}{L:Nat×Nat×Nat}{a t sz g n c:Nat}{d:Wo}(h:Xv w b L a t sz (Hl g n c) n d):(a<=g/\g<w.1.size)/\b g=L:=⟨h.1.lt g rfl,h.2 g rfl⟩
theorem Xv.got{w:Ub}{lab:Nat->Nat×Nat×Nat}{L:Nat×Nat×Nat}{a t sz n:Nat}{v:Uj}{b:Wo}(h:Xv w lab L a t sz v n b)(d:0<n):∃g c,v=.slice (some ⟨g,0,none⟩) n c:=by
 let⟨g,c,e,_⟩:=Xm h.1 d;exact⟨g,c,e⟩
theorem Xv.form{w:Ub}{lab:Nat->Nat×Nat×Nat}{L:Nat×Nat×Nat}{b t sz n:Nat}{v:Uj}{d:Wo}(h:Xv w lab L b t sz v n d):∃a c,v=.slice a n c:=by
 obtain⟨e,h0⟩|⟨g,cap,_,e,_⟩:=h.1.2;·exact⟨none,0,by rw[e,h0]⟩
 exact⟨_,_,e⟩
end
def Jn(w:Ub):Prop:=∀j,j<64->w.cell? ⟨3,j,none⟩=some (.int .u8 (Lib.deBruijn64tab.getD j 0))
theorem Jn.of_block(h:Jn w)(e:v.1[(3: Nat)]?=w.1[(3: Nat)]?):Jn v:=λj a=>(Xc (o:=j) e).trans (h j a)
theorem Fu(b:n<18446744073709551616)(c:n≠0)(a:n&&&(18446744073709551616-n)=m):
 IntKind.u64.wrap (bits BinOp.and IntKind.u64 (n:Int) (IntKind.u64.wrap (-(n:Int)))*285870213051353865)/288230376151711744=((m*285870213051353865%18446744073709551616/288230376151711744:Nat):Int):=by
 have e1:IntKind.u64.wrap (-(n:Int))=((18446744073709551616-n:Nat):Int):=by rw[iV];omega
 rw[e1,bits_and_u64_nat n _ b oM,a,iV];omega
theorem Fb{Gb:Nat}(g:((n:Int)==0)=false)(a:IntKind.u64.wrap (bits BinOp.and IntKind.u64 (n:Int) (IntKind.u64.wrap (-(n:Int)))*285870213051353865)/288230376151711744=(Gb:Int))(d:Gb<64)(f:m<64)(c:w.cell? (Hk 3 Gb)=some (.int .u8 m)):
 Calls prog 184 #[.int .u64 n] w λe b=>e=.returned (Hp m)/\b=w:=by
 go_in
 go_wp2_with (simp only[a])
 go_ret;exact⟨rfl,rfl⟩
theorem Fj(d:n<18446744073709551616)(e:n≠0)(w:Ub)(g:Hs (Jn w)):
 Calls prog 184 #[.int .u64 n] w λf j=>f=.returned (Hp (Lib.ctz 64 n:Nat))/\j=w:=by
 let⟨h,c⟩:=Lib.lowest_bit 64 n e d;let⟨b,i⟩:=Lib.deBruijn64_at _ c;have a:=g _ b;rw[i]at a;exact Fb (by simp;omega) (Fu d e h) b c a
theorem qh(a:n≠0)(h:n<2^64):∃m,n=2^Lib.ctz 64 n*(2*m+1)/\Lib.ctz 64 n<64:=by
 have e:Lib.ctz 64 n=Lib.ctzFrom 64 n:=by simp[Lib.ctz,a]
 rw[e];exact Lib.ctzFrom_spec 64 n oM h
theorem qo:(2^c*n).testBit m=(decide (c<=m)&&n.testBit (m-c)):=by
 rw[Nat.mul_comm,Nat.testBit_mul_two_pow]
theorem Et:(2*n+1).testBit m=(decide (m=0)||(2*n).testBit m):=by
 cases m with
 |zero=>simp
 |succ m=>
  rw[Nat.testBit_succ,Nat.testBit_succ];have d1:(2*n+1)/2=n:=oM;have d2:2*n/2=n:=oM;rw[d1,d2];simp
theorem EY(b:n≠0)(h:n<2^64)(i:Nat):(n&&&(n-1)).testBit i=(n.testBit i&&decide (i≠Lib.ctz 64 n)):=by
 let⟨m,a,g⟩:=qh b h;generalize Lib.ctz 64 n=c at*;have j:=Nat.two_pow_pos c;have e1:n-1=2^c*(2*m)+(2^c-1):=by rw[a,Nat.mul_add];omega
 rw[jW,e1,iH _ oM,a,qo];by_cases f:i<c
 .have:¬c<=i:=oM;simp[this]
 have d:c<=i:=oM;simp only[f,d,decide_true,Bool.true_and,fD];rw[Et];by_cases e:i=c;·subst e;simp
 have:¬i-c=0:=oM;simp[this,e]
theorem Fs(a:n≠0)(h:n<2^64):n.testBit (Lib.ctz 64 n)=true/\∀i,i<Lib.ctz 64 n->n.testBit i=false:=by
 let⟨m,b,d⟩:=qh a h;generalize Lib.ctz 64 n=c at*;rw[b];refine⟨?_,λi e=>?_⟩;·rw[qo];simp
 rw[qo];have:¬c<=i:=oM;simp[this]
def Mq(W:Wk)(p:Nat):Wa:=(List.range p).filter (Xh W)
theorem qB(c:n<=m)(h:∀i,n<=i->i<m->Xh f i=false):Mq f m=Mq f n:=by
 unfold Mq;obtain⟨d,rfl⟩:∃d,m=n+d:=⟨m-n,oM⟩;rw[lI,eU];have:((List.range d).map (n + ·)).filter (Xh f)=[]:=by
  rw[mJ];intro x b;obtain⟨j,a,rfl⟩:=aY.1 b;rw[h (n+j) oM (oN<|bE.1 a)];simp
 rw[this,fF]
theorem EP(a:n<=m)(h:∀i,n<=i->i<m->Xh f i=false)(hq:Xh f m=true):Mq f (m+1)=Mq f n++[m]:=by
 rw[<-qB a h];unfold Mq;rw[dN,eU];simp[hq]
theorem om:m∈Mq f n↔m<n/\Xh f m=true:=by unfold Mq;rw[fG,bE]
theorem K3{A B:Wa}(g:A.Nodup)(h:∀x∈A,x∈B):A.length<=B.length:=by
 induction A generalizing B with
 |nil=>exact aN
 |cons a A i=>
  have b:=fL.1 g;have d:∀x∈A,x∈B.erase a:=λx c=>(iF λe=>b.1<|by rw[<-e];exact c).2 (h x<|cN _ c);have f:=i b.2 d;have ha:=h a cI;rw[fP ha]at f;have:=eJ ha;simp only[bA];omega
theorem Cv(h:¬s.Nodup):∃a,a∈s/\a∈s.erase a:=by
 induction s with
 |nil=>exact absurd iU h
 |cons b s j=>
  by_cases d:b∈s;·exact⟨b,cI,by rw[List.erase_cons_head];exact d⟩
  have g:¬s.Nodup:=λc=>h<|fL.2 ⟨d,c⟩;let⟨a,e,c⟩:=j g;have i:¬b=a:=λf=>d (f▸e);refine⟨a,cN _ e,?_⟩;rw[List.erase_cons_tail<|by simpa using i];exact cN _ c
theorem D3(W:Wk)(p:Nat):(Mq W p).Nodup:=by
 unfold Mq;exact List.filter_sublist.nodup kS
theorem Eo(i:∀c,c<n->(Xh F c=true↔∃v∈s,f v=c))(k:∀v∈s,f v<n):(Mq F n).length<s.length↔¬(s.map f).Nodup:=by
 have j:∀x,x∈Mq F n↔x∈s.map f:=λx=>by
  rw[om,aY];constructor;·rintro⟨a,b⟩;exact(i x a).1 b
  rintro⟨v,a,rfl⟩;exact⟨k v a,(i _<|k v a).2 ⟨v,a,rfl⟩⟩
 have o:(s.map f).length=s.length:=sP;constructor
 .intro p d;have:=K3 d λx e=>(j x).2 e;omega
 intro d
 let⟨g,a,b⟩:=Cv d;have l:∀x∈Mq F n,x∈(s.map f).erase g:=λx e=>by
  by_cases h:x=g;·rw[h];exact b
  exact(iF h).2 ((j x).1 e)
 have m:=K3 (D3 F n) l;rw[fP a]at m;have:=eJ a;omega
def WC(P:Wc)(k:Nat)(c:Nat):Wa:=(List.range k).filter λb=>P.getD b 0==(c:Int)
theorem vM:WC l l.length c=Nj l c:=rfl
theorem Ea:(WC l n c).length<=n:=aJ (fJ _ _) sP
theorem Db(h:l.getD n 0=(m:Int))(i:Nat):Xi (WC l (n+1) i)=if i=m then Xi (WC l n m)++[(n:Int)]else Xi (WC l n i):=by
 unfold WC;rw[dN,eU,iW,jX,h];by_cases e:i=m
 .subst e;rw[aU sP,aU rfl];simp[Xi]
 rw[aM (by simp;omega),aM e];simp[Xi]
theorem CI{P:Wc}(h:P.getD k 0<0)(i:Nat):WC P (k+1) i=WC P k i:=by
 unfold WC;rw[dN,eU,iW,jX,aM (by rw[iA];omega),fF]
theorem Y0:(Xi s).length=s.length:=by simp[Xi]
theorem Au(c:Nat)(ha:Hs (Xf w m k p l))(G:Hs (n=l.length))(hn:n<=1000)(hB:k<=w.1.size)(L:Hs (∀o∈l,o<n)):
 Calls prog 165 #[.slice p n c] w λq x=>∃A J,q=.returned (.slice A n J)/\Below w.1.size w x/\XR x w.1.size x.1.size A ((List.range n).map λi:Nat=>Xi<|Nj l i):=by
 obtain⟨X,P,T,V,W⟩:=fX RH;have al:=fM (P:=prog) 113 41 Hq 24 underlying113 RG rfl .i64 .i64 n oM oM
 go_in
 go_wp2
 go_loopw [11] (λi wr=>∃a:Nat,a<=n/\i=Hp a/\Below w.1.size w wr/\Hs (∃U,YT wr w.1.size n (λi=>Xi<|WC l a i) U)) λi _=>n-(intOf i).toNat
 case atStart=>exact⟨0,aN,rfl,Xb (Below.refl _ _) _,⟨_,YT.born w n⟩⟩
 obtain⟨a,hk,rfl,f,j⟩:=hrel;by_cases aj:a<n
 .have s:a<l.length:=oN G.o;obtain⟨aa,aq,rfl,⟨_,ab⟩,C⟩:=ha a s;have ad:=(XU f oM).trans C;have ao:=L _<|aH s;have D:l.getD a 0=l[a]:=by simp[s]
  have z:=Xa D;clear C D;generalize l[a]=o at*;by_cases Q:0<=o
  .obtain⟨t,rfl⟩:=bX Q;have e:t<n:=oM;obtain⟨U,d⟩:=j.o;have N:=d.1.cell e;have O:=d.1.frozen t;have ap:(Xi<|WC l a t).length<=a:=Y0▸Ea;have b:=Xa d;clear d j;go_wp2_with (at_builtin;refine bT _ rfl _ _ 41 rfl (w.1.size+1) 2 X (Hp 0) 1 8 underlying41 P T V W rfl vY _ _ _ rfl ((b.alloc _).2.1 t e) (Hk wr.1.size 0) 1 1 [Hp a] rfl rfl ?c1 ?c2 ?c3 ?c4 ?c5 ?_)
   case c1=>
    intro Y Z h
    match Y,h with
    |0,h=>simp at h;subst h;simp[Addr.add]
   case c2=>intro Z E;simp at E;subst E;rfl
   case c3=>unfold maxLen;omega
   case c4=>omega
   case c5=>have:=b.1.lt;simp;omega
   intro v1 y u g _ B;obtain⟨av,cv,v,_⟩:=Xk (xs:=Xi (WC l a t)++[(a:Int)]) (Yl▸u);have S:=Xa ((b.alloc<|.cells #[Hp a] 2).step e a v1 g u (by rw[aO];exact B));have r:y.1[w.1.size]?=(wr.alloc<|.cells #[Hp a] 2).1[w.1.size]?:=YJ g ((b.alloc<|.cells #[Hp a] 2).2.1 t e) oM (by have:=b.1.lt;simp;omega);have M:=Xa (Xy (Xb f<|.cells #[Hp a] 2) g ((b.alloc<|.cells #[Hp a] 2).2.1 t e) oM (by have:=f.4;simp;omega));have ac:y.cell? (Hk w.1.size t)=some (U t):=by rw[Xc r];exact((b.alloc<|.cells #[Hp a] 2).1).cell e
   have af:y.frozen? (Hk w.1.size t)=false:=by rw[bJ (w:=wr.alloc<|.cells #[Hp a] 2) (a:=(Hk w.1.size t)) r];exact((b.alloc<|.cells #[Hp a] 2).1).frozen t
   have I:=Xa v;clear u g B r N O;rw[v];clear v;go_wp2;have F:=I.o;rw[aQ,bA,bO,aV]at F;rw[<-F];refine⟨⟨a+1,oM,gM,M.setCell (by dsimp only;omega) _,⟨_,(S).congr λi _=>?_⟩⟩,by simp[intOf];omega⟩;exact(Db z i).symm
  have R:o<0:=oM;have H:=Xa (λi=>CI (P:=l) (k:=a) (by rw[z.o];exact R) i);go_wp2;refine⟨⟨a+1,oM,gM,f,?_⟩,by simp[intOf];omega⟩;obtain⟨U,d⟩:=j.o;exact⟨U,d.congr λi _=>by rw[H.o]⟩
 go_wp2;go_ret;obtain⟨U,d⟩:=j.o;have q:a=l.length:=oN G.o;refine⟨_,_,rfl,f,?_⟩;have K:=(d.congr (P':=λi:Nat=>Xi<|Nj l i) λi _=>by rw[q,vM]).ints;exact K.mono oM<|aA
structure Oc(w w':Ub)(v v':Uj):Prop where
 os:w'.4=w.4
 tape:w'.2=w.2
 output:w'.5=w.5
 size:w.1.size<=w'.1.size
 block:∀k,k<w.1.size->some k≠v.ownBlock->w'.1[k]?=w.1[k]?
 own:v'.ownBlock=v.ownBlock\/∀k,v'.ownBlock=some k->w.1.size<=k
theorem Oc.refl(w:Ub)(v:Uj):Oc w w v v:=⟨rfl,rfl,rfl,aA,λ_ _ _=>rfl,bC rfl⟩
theorem Oc.trans{v1 v2:Uj}(h:Oc w v a v1)(k:Oc v u v1 v2):Oc w u a v2:=by
 refine⟨k.1.trans h.1,k.2.trans h.2,k.3.trans h.3,aJ h.4 k.4,λj d f=>?_,?_⟩
 .refine(k.5 j (aX d h.4) λe=>?_).trans (h.5 j d f);obtain b|b:=h.6;·exact f<|by rw[e,b]
  have:=b j e.symm;omega
 obtain c|c:=k.6
 .rcases h.6 with b|b;·exact bC<|c.trans b
  exact aZ λj e=>b j (c▸e)
 exact aZ λj e=>aJ h.4<|c j e
theorem Oc.below(h:Oc w v a A)(c:w.ownsRow n m k a B y)(f:n<=w.1.size):Below n w v:=⟨h.1,h.2,h.3,h.4,λb d=>h.5 b oM λe=>by have:=(c.lt b e.symm).1;omega⟩
theorem Oc.push{d:Obj}(b:(w.alloc d).grownBy v a.ownBlock)(h:A.ownBlock=a.ownBlock\/A.ownBlock=some (w.1.size+1)):Oc w v a A:=by
 have j:(w.alloc d).1.size=w.1.size+1:=aO _ _;have i:=b.4;refine⟨b.1,b.2,b.3,oM,λk f g=>(b.5 k oM g).trans (Below.heap_alloc _ _ _ f),?_⟩;obtain e|e:=h;·exact bC e
 exact aZ λk c=>by rw[e]at c;injection c with c;omega
theorem Fo(a:∀k c,c∈Nj l k->f k<f c)(b:∀k,f k<=n)(h:n<=f k+m):XT l m k=k::(Nj l k).flatMap (XT l<|m-1):=by
 cases m with
 |zero=>
  have:Nj l k=[]:=by
   cases e:Nj l k with
   |nil=>rfl
   |cons c i=>
    have d:=a k c (e▸cI);have g:=b c;omega
  rw[this];rfl
 |succ m=>rfl
theorem AV(N:Uy)(cc:Nat)(L2:Nat)(hx:Hs (n=l.length))(hn:n<=1000)(x:m<=k)(R:Wk)(P:Hs (∀b c,c∈Nj l b->R b<R c))(Q:Hs (∀b,R b<=n)):
 ∀(a b:Nat)(v:Uj)(L:Wa)(w:Ub),Hs (XR w L2 m N ((List.range n).map λi:Nat=>Xi<|Nj l i))->Hs (w.ownsRow k 2 1 v L.length<|Je L)->k<=w.1.size->b<n->Hs (n<=R b+a)->L.length+(XT l a b).length<=4000 ->
 Calls prog 164 #[v,.slice N n cc,Hp b] w λg w'=>∃A,g=.returned A/\Oc w w' v A/\w'.ownsRow k 2 1 A (L++XT l a b).length (Je<|L++XT l a b):=by
 let⟨i0,ap,ar,az,a0⟩:=Xq RH;intro a
 induction a using Nat.strongRecOn with
 |_ a ih=>
  intro b v L w C H hz hb M y;have IH:=Xa ih;clear ih;obtain⟨bc,oc,rfl,a5,a1,c1,h,z⟩:=C b (by simpa using hb);simp only[cM,dW,Y0]at h z;have D:=Xa<|Fo P Q M;rw[D.o]at y |-;have ab:Hs (∀c∈Nj l b,c<n/\n<=R c+(a-1)/\0<a):=Xa (λc T=>by
   have O:=P b c T;have h2:=Q c;have h3:=(o8.1 T).1;have:=M.o;have:=hx.o;omega)
  have aq:(Nj l b).length<=n:=aJ Fi<|oN hx.o;have F:=Xa z;generalize Nj l b=d at*;let⟨q,hq⟩:∃q,q=d.length:=⟨_,rfl⟩;rw[<-hq]at h aq;have J:=Xa hq;have a3:L.length+1+(d.flatMap<|XT l (a-1)).length<=4000:=by simp only[bA]at y;omega
  clear hq z D y
  go_in
  go_wp2_with (at_builtin;refine bT _ rfl _ _ 41 rfl k 2 i0 (Hp 0) 1 8 underlying41 ap ar az a0 rfl vY _ _ _ rfl (H.alloc _) (Hk w.1.size 0) 1 1 [Hp b] rfl rfl ?c1 ?c2 ?c3 ?c4 ?c5 ?_)
  case c1=>exact Yf _ _ _
  case c2=>intro u Z;simp at Z;subst Z;rfl
  case c3=>unfold maxLen;omega
  case c4=>omega
  case c5=>simp;omega
  intro v8 w8 Y V _ S;have s:=Xa (Oc.push V<|by simpa using S);have I:Hs (w8.ownsRow k 2 1 v8 (L++[b]).length (Je<|L++[b])):=Xa (by rw[VP,aQ];exact Y);have p:=Xa<|s.below H hz;have a8:=s.4;have aj:=(XU p oM).trans h;have aa:=Xa<|C.keep (p.mono x);have ad:=Xa<|F.keep (p.mono x);clear Y V S h F;go_wp2
  go_loopw [0,18] (λvo u wr=>∃j:Nat,j<=q/\u=Hp j/\Hs (Oc w8 wr v8 vo)/\Hs (wr.ownsRow k 2 1 vo (L++[b]++(d.take j).flatMap (XT l<|a-1)).length (Je<|L++[b]++(d.take j).flatMap (XT l<|a-1)))) λ_ u _=>q-(intOf u).toNat
  case atStart=>exact⟨0,aN,rfl,Xa<|Oc.refl _ _,Xa<|by simpa using I.o⟩
  obtain⟨j,hj,rfl,e,f⟩:=hrel;clear aj;have B:=Xa<|e.below I oM;by_cases a7:j<q
  .have o:j<d.length:=oN J.o;obtain⟨b5,o5,rfl,a4,e5⟩:=ad j (Y0▸o);have W:(Xi d)[j]'(Y0▸o)=((d[j]:Nat):Int):=by simp[Xi]
   rw[W]at e5;have a2:=(XU B oM).trans e5;let⟨al,ao,hm⟩:=ab d[j] (aH o);have t:Hs ((d.take<|j+1).flatMap (XT l<|a-1)=(d.take j).flatMap (XT l<|a-1)++XT l (a-1) d[j]):=Xa (by rw[bN o,eZ];simp);have G:Hs ((L++[b]++(d.take j).flatMap (XT l<|a-1)).length+(XT l (a-1) d[j]).length<=4000):=Xa (by
    have O:(d.flatMap<|XT l (a-1)).length=((d.take<|j+1).flatMap (XT l<|a-1)).length+((d.drop<|j+1).flatMap (XT l<|a-1)).length:=by
     rw[<-aQ,<-eZ,hH]
    rw[t.o,aQ]at O;simp only[aQ,bA,bO];omega)
   have r:=Xa<|IH.o (a-1) oM d[j] u0 _ wr (Xa<|aa.keep (B.mono x)) f (oN e.4) al (Xa ao) G;have E:=Xa (show(L++[b]++(d.take j).flatMap (XT l<|a-1))++XT l (a-1) d[j]=L++[b]++(d.take<|j+1).flatMap (XT l<|a-1) by rw[t.o];simp);rw[E.o]at r;clear e5 W t G E;generalize d[j]=cj at*;go_wp2_with fail
   refine r.mono ?_;rintro g w5⟨v5,rfl,U,X⟩;have ac:=Xa<|e.trans U;have af:=Xa X;clear U X r f;go_wp2;exact⟨⟨j+1,oM,gM,ac,af⟩,by simp[intOf];omega⟩
  have a6:j=q:=oM;have K:Hs (d.take j=d):=Xa<|aW (oN J.o);rw[K.o]at f;clear K;go_wp2;go_ret;refine⟨u0,rfl,s.trans e,?_⟩;have g:L++b::d.flatMap (XT l<|a-1)=L++[b]++d.flatMap (XT l<|a-1):=sP;rw[g];exact f
section
theorem QQ:(prog.info? 80).map (λi=>(i.8,i.3,i.4))=some (some<|.agg #[Hq],1,24):=vZ
structure OE(w6 wr:Ub)(F:Nat)(x2 x3:Uj)(U V:Vu)(b1:Nat)(p1:Uy)(c1 b2:Nat)(p2:Uy)(c2:Nat):Prop where
 e0:wr.cell? ⟨F,0,none⟩=some (.slice p1 b1 c1)
 e1:wr.cell? ⟨F,1,none⟩=some (.slice p2 b2 c2)
 e2:wr.cell? ⟨F,2,none⟩=some x2
 e3:wr.cell? ⟨F,3,none⟩=some x3
 thaw:∀q,wr.frozen? ⟨F,q,none⟩=false
 bel:Below F w6 wr
 lt:F<wr.1.size
 le:F=w6.1.size
 o1:wr.ownsRow (F+1) 80 1 (.slice p1 b1 c1) b1 ((List.range b1).map U)
 o2:wr.ownsRow (F+1) 4 1 (.slice p2 b2 c2) b2 ((List.range b2).map V)
 dj:(Value.slice p1 b1 c1).ownBlock=none\/(Value.slice p1 b1 c1).ownBlock≠(Value.slice p2 b2 c2).ownBlock
structure Ej(w:Ub)(B n:Nat)(U:Vu)(Pr:Tj)(V:Ys)(P:Wc)(Od:Wa)(g1 c1 g2 c2 g3 g4 c4:Nat):Prop where
 len:P.length=n
 o1:w.ownsRow B 80 1 (.slice (some ⟨g1,0,none⟩) n c1) n ((List.range n).map U)
 o2:w.ownsRow B 4 1 (.slice (some ⟨g2,0,none⟩) n c2) n ((List.range n).map λz=>.bool (V z))
 o3:w.rowIs g3 2 n λz=>.int .i64 (P.getD z 0)
 o4:w.ownsRow B 2 1 (.slice (some ⟨g4,0,none⟩) Od.length c4) Od.length (Je Od)
 rows:∀i,i<n->w.ownsRow B 2 1 (U i) (Pr i).length ((Pr i).map (Value.int .i64))
 rdj:∀i j,i<n->j<n->i≠j->(U i).ownBlock=none\/(U i).ownBlock≠(U j).ownBlock
 gs:B<=g3/\g1≠g2/\g1≠g3/\g1≠g4/\g2≠g3/\g2≠g4/\g3≠g4
 o:∀i,i<n->∀k,(U i).ownBlock=some k->k≠g1/\k≠g2/\k≠g3/\k≠g4
theorem n9{w d:Ub}{B a t s n:Nat}{v:Uj}{b:Wo}(i:w.ownsRow B t s v n b)(l:a<=B)(p:∀k,v.ownBlock=some k->d.1[k]?=w.1[k]?):d.ownsRow a t s v n b:=by
 obtain⟨c,j|⟨g,f,h,e,m,o,q⟩⟩:=i;·exact⟨c,bC j⟩
 exact⟨c,aZ ⟨g,f,h,e,aJ l m,(p g<|by rw[e];rfl).trans o,q⟩⟩
theorem xq{w:Ub}{R F t:Nat}{i:Vu}(l:w.rowIs R t 4 i)(m:R≠F){x c d f g:Uj}{a:Ub}(e:a=((((w.setCell ⟨F,3,none⟩ x).setCell ⟨R,0,none⟩ c).setCell ⟨R,1,none⟩ d).setCell ⟨R,2,none⟩ f).setCell ⟨R,3,none⟩ g):
 a.cell? ⟨R,0,none⟩=some c/\a.cell? ⟨R,1,none⟩=some d/\a.cell? ⟨R,2,none⟩=some f/\a.cell? ⟨R,3,none⟩=some g/\(∀k,k≠F->k≠R->a.1[k]?=w.1[k]?)/\a.1.size=w.1.size/\a.4=w.4/\a.2=w.2/\a.5=w.5:=by
 have h:=((((l.setOther (a:=(Hk F 3)) m x).set 0 c).set 1 d).set 2 f).set 3 g;rw[<-e]at h;refine⟨?_,?_,?_,?_,λk j b=>?_,?_,?_,?_,?_⟩;·rw[h.cell vY];simp
 .rw[h.cell vY];simp
 .rw[h.cell vY];simp
 .rw[h.cell vY];simp
 .rw[e,Below.heap_setCell _ _ _ _ b,Below.heap_setCell _ _ _ _ b,Below.heap_setCell _ _ _ _ b,Below.heap_setCell _ _ _ _ b,Below.heap_setCell _ _ _ _ j]
 .rw[e];simp[World.setCell]
 .rw[e];simp[World.setCell]
 .rw[e];simp[World.setCell]
 rw[e];simp[World.setCell]
section
variable {w6 wr wr': Ub} {F: Nat} {x2 x3: Uj} {U V: Nat -> Uj} {b1: Nat} {p1: Uy} {c1 b2: Nat} {p2: Uy} {c2: Nat}
theorem OE.below(h:OE w6 wr F x2 x3 U V b1 p1 c1 b2 p2 c2)(k:Below wr.1.size wr wr'):OE w6 wr' F x2 x3 U V b1 p1 c1 b2 p2 c2:=by
 have c:=k.5 F h.7;have a:∀q,wr'.cell? (Hk F q)=wr.cell? (Hk F q):=λq=>bZ c
 have own:∀{t v n b},wr.ownsRow (F+1) t 1 v n b->wr'.ownsRow (F+1) t 1 v n b:=λ{t v n b} e=>by
  refine e.kept (row:=none) ⟨k.1,k.2,k.3,k.4,λj d _=>k.5 j d⟩ ?_;cases v.ownBlock with
  |none=>exact bC rfl
  |some j=>exact aZ sP
 exact⟨(a 0).trans h.1,(a 1).trans h.2,(a 2).trans h.3,(a 3).trans h.4,λq=>(bJ c).trans (h.5 q),h.6.trans<|k.mono (dU h.7),aX h.7 k.4,h.8,own h.9,own h.o2,h.dj⟩
theorem tM{w:Ub}{B t s n:Nat}{v:Uj}{a:Wo}(h:w.ownsRow B t s v n a){k:Nat}(b:w.1.size<=k):v.ownBlock=none\/v.ownBlock≠some k:=by
 by_cases e:v.ownBlock=some k;·have:=(h.lt k e).2;omega
 exact aZ e
theorem EQ{a b:Zm}(h:a=none\/a≠b):b=none\/b≠a:=by
 obtain h|h:=h
 .subst h;cases b with
  |none=>exact bC rfl
  |some k=>exact aZ sP
 exact aZ λe=>h e.symm
theorem ue{w:Ub}{B t s n:Nat}{v:Uj}{a:Wo}(h:w.ownsRow B t s v n a):w.drew.ownsRow B t s v n a:=h
theorem tJ{a:Type}(f:Nat->a){b:Nat}:(List.range<|b+1).map f=(List.range b).map f++[f b]:=by rw[dN,bG];rfl
theorem OE.app1{a:Ub}{g:Obj}{f:Uy}{c:Nat}(h:OE w6 wr F x2 x3 U V b1 p1 c1 b2 p2 c2)(b:(wr.alloc g).grownBy a (Value.slice p1 b1 c1).ownBlock)(s:a.ownsRow (F+1) 80 1 (.slice f (b1+1) c) (b1+1) ((List.range b1).map U++[U b1]))(p:(Value.slice f (b1+1) c).ownBlock=(Value.slice p1 b1 c1).ownBlock\/(Value.slice f (b1+1) c).ownBlock=some (wr.1.size+1)):
 OE w6 (a.setCell ⟨F,0,none⟩ (.slice f (b1+1) c)) F x2 x3 U V (b1+1) f c b2 p2 c2/\(∀q,a.cell? ⟨F,q,none⟩=wr.cell? ⟨F,q,none⟩)/\(∀q,a.frozen? ⟨F,q,none⟩=false)/\Below F wr a:=by
 have r:=h.7;have ha:∀k,k<wr.1.size->(wr.alloc g).1[k]?=wr.1[k]?:=λk j=>Below.heap_alloc _ _ _ j;have u:(wr.alloc g).1.size=wr.1.size+1:=aO _ _;have t:=b.4;have o:∀k,k<=F->some k≠(Value.slice p1 b1 c1).ownBlock:=λk j e=>by have:=(h.9.lt k e.symm).1;omega
 have m:=(b.5 F oM<|o _ aA).trans (ha _ r);have d:∀q,a.cell? (Hk F q)=wr.cell? (Hk F q):=λq=>bZ m;have l:=λq=>(bJ m).trans (h.5 q);have n:Below F wr a:=⟨b.1,b.2,b.3,oM,λk j=>(b.5 k oM<|o k oM).trans (ha k oM)⟩;refine⟨⟨fQ _ _ _<|(d 0).trans h.1,(XL _ _ oM _).trans ((d 1).trans h.2),(XL _ _ oM _).trans ((d 2).trans h.3),(XL _ _ oM _).trans ((d 3).trans h.4),λq=>by rw[eX];exact l q,(h.6.trans n).setCell (p:=Hk F 0) aA _,by rw[Xd];omega,h.8,?_,?_,?_⟩,d,l,n⟩
 .rw[tJ];exact ownsRow_setCell_below s (by show F<F+1;omega) _
 .exact ownsRow_setCell_below ((h.o2.alloc g).kept b (EQ h.dj)) (by show F<F+1;omega) _
 obtain e|e:=p;·rw[e];exact h.dj
 obtain i|i:=tM h.o2 (k:=wr.1.size+1) oM;·exact aZ<|by rw[e,i];simp
 exact aZ (e▸λk=>i k.symm)
theorem OE.app2{a:Ub}{g:Obj}{f:Uy}{c:Nat}(h:OE w6 wr F x2 x3 U V b1 p1 c1 b2 p2 c2)(b:(wr.alloc g).grownBy a (Value.slice p2 b2 c2).ownBlock)(s:a.ownsRow (F+1) 4 1 (.slice f (b2+1) c) (b2+1) ((List.range b2).map V++[V b2]))(p:(Value.slice f (b2+1) c).ownBlock=(Value.slice p2 b2 c2).ownBlock\/(Value.slice f (b2+1) c).ownBlock=some (wr.1.size+1)):
 OE w6 (a.setCell ⟨F,1,none⟩ (.slice f (b2+1) c)) F x2 x3 U V b1 p1 c1 (b2+1) f c/\(∀q,a.cell? ⟨F,q,none⟩=wr.cell? ⟨F,q,none⟩)/\(∀q,a.frozen? ⟨F,q,none⟩=false)/\Below F wr a:=by
 have r:=h.7;have ha:∀k,k<wr.1.size->(wr.alloc g).1[k]?=wr.1[k]?:=λk j=>Below.heap_alloc _ _ _ j;have u:(wr.alloc g).1.size=wr.1.size+1:=aO _ _;have t:=b.4;have o:∀k,k<=F->some k≠(Value.slice p2 b2 c2).ownBlock:=λk j e=>by have:=(h.o2.lt k e.symm).1;omega
 have m:=(b.5 F oM<|o _ aA).trans (ha _ r);have d:∀q,a.cell? (Hk F q)=wr.cell? (Hk F q):=λq=>bZ m;have l:=λq=>(bJ m).trans (h.5 q);have n:Below F wr a:=⟨b.1,b.2,b.3,oM,λk j=>(b.5 k oM<|o k oM).trans (ha k oM)⟩;refine⟨⟨(XL _ _ oM _).trans ((d 0).trans h.1),fQ _ _ _<|(d 1).trans h.2,(XL _ _ oM _).trans ((d 2).trans h.3),(XL _ _ oM _).trans ((d 3).trans h.4),λq=>by rw[eX];exact l q,(h.6.trans n).setCell (p:=Hk F 1) aA _,by rw[Xd];omega,h.8,?_,?_,?_⟩,d,l,n⟩;·exact ownsRow_setCell_below ((h.9.alloc g).kept b h.dj) (by show F<F+1;omega) _
 .rw[tJ];exact ownsRow_setCell_below s (by show F<F+1;omega) _
 obtain e|e:=p;·rw[e];exact h.dj
 obtain i|i:=tM h.9 (k:=wr.1.size+1) oM;·exact bC i
 exact aZ (e▸i)
end
end
section
def Ak(v1 v2:Uj)(k:Nat):Prop:=v1.ownBlock=some k\/v2.ownBlock=some k
def Pi(wr:Ub)(d F:Nat)(U:Vu)(Pr:Tj)(A:Vv):Prop:=∀i,i<d->∃b a c e,U i=.slice c (Pr i).length e/\F<b/\a<=wr.1.size/\Xf wr b a c (Pr i)/\∀k,A k->¬(b<=k/\k<a)
theorem Pi.keep{wr wr':Ub}{b F:Nat}{U:Vu}{Pr:Tj}{A a:Vv}(h:Pi wr b F U Pr A)(s:wr.1.size<=wr'.1.size)(m:∀k,k<wr.1.size->F<k->¬A k->wr'.1[k]?=wr.1[k]?)(l:∀k,a k->A k\/wr.1.size<=k):Pi wr' b F U Pr a:=λt n=>by
 let⟨w,o,d,e,f,g,i,j,c⟩:=h t n;refine⟨w,o,d,e,f,g,aJ i s,j.keepS λk u v=>m k oM oM λq=>c k q ⟨u,v⟩,λk p q=>?_⟩;obtain r|r:=l k p;·exact c k r q
 omega
structure Oa(w1 w2 wr:Ub)(U V:Vu)(Pr:Tj)(bp b1:Nat)(p1:Uy)(c1 b2:Nat)(p2:Uy)(c2:Nat):Prop where
 fl:OE w1 wr w1.1.size (.slice none 0 0) (.slice none 0 0) U V b1 p1 c1 b2 p2 c2
 pr:Pi wr bp w1.1.size U Pr (Ak (.slice p1 b1 c1) (.slice p2 b2 c2))
 sa:YA (w1.1.size+1) w2.1.size w2 wr
 hk:∀k,Ak (.slice p1 b1 c1) (.slice p2 b2 c2) k->w2.1.size<=k
 sz:w2.1.size<=wr.1.size
section
variable {w1 w2 wr wr': Ub} {U V: Nat -> Uj} {Pr: Nat -> Wc} {bp b1: Nat} {p1: Uy} {c1 b2: Nat} {p2: Uy} {c2: Nat}
theorem OE.ak{b c:Uj}{F:Nat}(h:OE w1 wr F b c U V b1 p1 c1 b2 p2 c2){k:Nat}(a:Ak (.slice p1 b1 c1) (.slice p2 b2 c2) k):F<k/\k<wr.1.size:=by
 obtain e|e:=a;·have:=h.9.lt k e;omega
 have:=h.o2.lt k e;omega
theorem Oa.below(h:Oa w1 w2 wr U V Pr bp b1 p1 c1 b2 p2 c2)(k:Below wr.1.size wr wr'):Oa w1 w2 wr' U V Pr bp b1 p1 c1 b2 p2 c2:=by
 have:=h.5;exact⟨h.1.below k,h.2.keep k.4 (λq a _ _=>k.5 q a) λ_ b=>bC b,λq q1 q2=>(k.5 q oM).trans (h.3 q q1 q2),h.4,aJ h.5 k.4⟩
theorem OE.congrU{b:Ub}{c d:Uj}{F:Nat}{a:Vu}(h:OE b wr F c d U V b1 p1 c1 b2 p2 c2)(e:∀i,i<b1->a i=U i):OE b wr F c d a V b1 p1 c1 b2 p2 c2:=by
 refine⟨h.1,h.2,h.3,h.4,h.5,h.6,h.7,h.8,?_,h.o2,h.dj⟩;have:(List.range b1).map a=(List.range b1).map U:=gH λi f=>e i<|bE.1 f;rw[this];exact h.9
theorem Oa.newU{u:Uj}{b:Uy}{uc:Nat}(h:Oa w1 w2 wr U V Pr b1 b1 p1 c1 b2 p2 c2)(k:Below wr.1.size wr wr')(m:u=.slice b (Pr b1).length uc)(c:Xf wr' wr.1.size wr'.1.size b (Pr b1)):Oa w1 w2 wr' (λi=>if i=b1 then u else U i) V Pr (b1+1) b1 p1 c1 b2 p2 c2:=by
 have a:=h.below k;have l:=h.1.7;refine⟨a.1.congrU λi c=>aM oM,λi o=>?_,a.3,a.4,a.5⟩;by_cases e:i=b1
 .subst e;refine⟨wr.1.size,wr'.1.size,b,uc,(aU rfl)▸m,l,aA,c,λk j q=>?_⟩;have:=(h.1.ak j).2;omega
 let⟨n,g,d,f,q1,q2⟩:=a.2 i oM;exact⟨n,g,d,f,(aM e)▸q1,q2⟩
theorem zMA00{p: Prop}(h: p := by
  refine⟨⟨m,h.2.keep (by rw[Xd];omega) j g,λq q1 q2=>(j q oM oM λe=>by have:=h.4 q e;omega).trans (h.3 q q1 q2),λk f=>?_,by rw[Xd];omega⟩,n,o,p⟩;obtain e|e:=g k f;·exact h.4 k e
  omega): p := h
theorem Oa.app1{c:Ub}{l:Obj}{b:Uy}{a:Nat}(h:Oa w1 w2 wr U V Pr bp b1 p1 c1 b2 p2 c2)(d:(wr.alloc l).grownBy c (Value.slice p1 b1 c1).ownBlock)(r:c.ownsRow (w1.1.size+1) 80 1 (.slice b (b1+1) a) (b1+1) ((List.range b1).map U++[U b1]))(i:(Value.slice b (b1+1) a).ownBlock=(Value.slice p1 b1 c1).ownBlock\/(Value.slice b (b1+1) a).ownBlock=some (wr.1.size+1)):
 Oa w1 w2 (c.setCell ⟨w1.1.size,0,none⟩ (.slice b (b1+1) a)) U V Pr bp (b1+1) b a b2 p2 c2/\(∀q,c.cell? ⟨w1.1.size,q,none⟩=wr.cell? ⟨w1.1.size,q,none⟩)/\(∀q,c.frozen? ⟨w1.1.size,q,none⟩=false)/\Below w1.1.size wr c:=by
 let⟨m,n,o,p⟩:=h.1.app1 d r i;have u:=h.5;have t:=d.4;have s:(wr.alloc l).1.size=wr.1.size+1:=aO _ _;have j:∀k,k<wr.1.size->w1.1.size<k->¬Ak (.slice p1 b1 c1) (.slice p2 b2 c2) k->(c.setCell (Hk w1.1.size 0) (.slice b (b1+1) a)).1[k]?=wr.1[k]?:=λk q1 q2 q3=>(Below.heap_setCell _ _ _ _<|by dsimp only;omega).trans ((d.5 k oM λe=>q3<|bC e.symm).trans (Below.heap_alloc _ _ _ q1))
 have g:∀k,Ak (.slice b (b1+1) a) (.slice p2 b2 c2) k->Ak (.slice p1 b1 c1) (.slice p2 b2 c2) k\/wr.1.size<=k:=λk f=>by
  obtain e|e:=f
  .rcases i with q|q;·exact bC<|bC (q▸e)
   rw[q]at e;have:=gQ e;omega
  exact bC<|aZ e
 exact zMA00
theorem Oa.app2{c:Ub}{l:Obj}{b:Uy}{a:Nat}(h:Oa w1 w2 wr U V Pr bp b1 p1 c1 b2 p2 c2)(d:(wr.alloc l).grownBy c (Value.slice p2 b2 c2).ownBlock)(r:c.ownsRow (w1.1.size+1) 4 1 (.slice b (b2+1) a) (b2+1) ((List.range b2).map V++[V b2]))(i:(Value.slice b (b2+1) a).ownBlock=(Value.slice p2 b2 c2).ownBlock\/(Value.slice b (b2+1) a).ownBlock=some (wr.1.size+1)):
 Oa w1 w2 (c.setCell ⟨w1.1.size,1,none⟩ (.slice b (b2+1) a)) U V Pr bp b1 p1 c1 (b2+1) b a/\(∀q,c.cell? ⟨w1.1.size,q,none⟩=wr.cell? ⟨w1.1.size,q,none⟩)/\(∀q,c.frozen? ⟨w1.1.size,q,none⟩=false)/\Below w1.1.size wr c:=by
 let⟨m,n,o,p⟩:=h.1.app2 d r i;have u:=h.5;have t:=d.4;have s:(wr.alloc l).1.size=wr.1.size+1:=aO _ _;have j:∀k,k<wr.1.size->w1.1.size<k->¬Ak (.slice p1 b1 c1) (.slice p2 b2 c2) k->(c.setCell (Hk w1.1.size 1) (.slice b (b2+1) a)).1[k]?=wr.1[k]?:=λk q1 q2 q3=>(Below.heap_setCell _ _ _ _<|by dsimp only;omega).trans ((d.5 k oM λe=>q3<|aZ e.symm).trans (Below.heap_alloc _ _ _ q1))
 have g:∀k,Ak (.slice p1 b1 c1) (.slice b (b2+1) a) k->Ak (.slice p1 b1 c1) (.slice p2 b2 c2) k\/wr.1.size<=k:=λk f=>by
  obtain e|e:=f;·exact bC<|bC e
  obtain q|q:=i;·exact bC<|aZ (q▸e)
  rw[q]at e;have:=gQ e;omega
 exact zMA00
end
def ML(w:Ub)(L B:Nat)(c:Uy)(a:List Bool):Prop :=
 ∀i (h:i<a.length),∃b o,c=some ⟨b,o,none⟩/\(L<=b/\b<B)/\w.cell? ⟨b,o+i,none⟩=some (.bool a[i])
structure MX(w:Ub)(L B:Nat)(Pr:Tm)(Rc:List Bool)(P Od:Wc)(a1 a2 a3 a4:Uy):Prop where
 p:XR w L B a1 Pr
 r:ML w L B a2 Rc
 i:Xf w L B a3 P
 o:Xf w L B a4 Od
def Pq(a:Wi):Tm:=(List.range a.length).map λi:Nat=>AQ a 0 (i:Int)
def Pe(a:Wi):List Bool:=(List.range a.length).map λz=>Xh (Zp a).1 z
theorem UF.ex{a:Wi}(h:UF a):∀b,b<a.length->(∃d,O6 (X8 a) d b)\/∀c,JO (X8 a) c b->c=b:=λb e=>by
 classical
 have f:∀b,b<a.length->∀x,x<a.length->(Xh (E2 (λ_=>0) ((List.range a.length).filter λx=>decide (Av (X8 a) x b))) x=true↔Av (X8 a) x b):=λb _ x g=>by
  rw[YR,Z3,jU,bD,fG,bE,bD];exact⟨λq=>q.2,λq=>⟨g,q⟩⟩
 have:=UR h.top.2.2.1 h.top.1 h.re h.top.2.2.2 (Ws:=λb=>E2 (λ_=>0) ((List.range a.length).filter λx=>decide (Av (X8 a) x b))) f;obtain⟨d,ha,_⟩|⟨q,_⟩:=this.2 b e;·exact bC ⟨d,ha⟩
 exact aZ q
theorem UF.model{a:Wi}(h:UF a):YX (X8 a) a.length ((List.range a.length).map (L0<|(List.range a.length).map (Zq (X8 a) a.length))):=Wf h.re h.ex
end
theorem zJ{f:Wn}(h:n<(K8 f).size):(K8 f)[n]=f[n]'(by rw[<-i7];exact h):=rfl
theorem yD(f:Wn)(a:Nat)(F:a<=100)(w:Ub):
 Calls prog 59 #[.string (K8 f),Hp a] w λg B=>g=.returned (.bool (Ax f a))/\B=w:=by
 have H:=i7 f;by_cases j:f.length=0
 .have d:Hs (Ax f a=false):=Xa<|by unfold Ax;simp[j]
  go_in
  go_wp2;go_ret;exact⟨Xl d.symm,rfl⟩
 by_cases s:a<f.length
 .have d:Hs (Ax f a=false):=Xa<|by unfold Ax;simp[s]
  go_in
  go_wp2
  all_goals
   go_ret;exact⟨Xl d.symm,rfl⟩
 have G:0<(K8 f).size:=oM;have p:Hs ((f.head? == some 48)=decide ((((K8 f)[0]).toNat:Int)=48)):=Xa (by
  cases f with
  |nil=>simp at j
  |cons c A=>
   have g:(K8 (c::A))[0]=c:=rfl;rw[g];by_cases l:c=48;·subst l;rfl
   have:¬((c.toNat:Int)=48):=λh=>l<|UInt8.toNat_inj.1 (by show c.toNat=48;omega)
   simp[l,this])
 by_cases b:((((K8 f)[0]).toNat:Int)=48)/\1<f.length
 .have d:Hs (Ax f a=false):=Xa (by unfold Ax;rw[p.o];simp[b.1,b.2]);let⟨u,v⟩:=b
  go_in
  go_wp2
  all_goals
   go_ret;exact⟨Xl d.symm,rfl⟩
 have r:Hs (Ax f a=f.all T3):=Xa (by
  unfold Ax;rw[p.o];have e1:(f.length==0)=false:=by simpa using j
  have e2:decide (a<f.length)=false:=by simpa using s
  have e3:(decide ((((K8 f)[0]).toNat:Int)=48)&&decide (1<f.length))=false:=by
   rw[jD];by_cases q:(((K8 f)[0]).toNat:Int)=48;·exact aZ<|by simpa using λh=>b ⟨q,h⟩
   exact bC<|by simpa using q
  rw[e1,e2,e3];rfl)
 have z:(¬((((K8 f)[0]).toNat:Int)=48))\/((((K8 f)[0]).toNat:Int)=48/\f.length<=1):=by
  by_cases q:(((K8 f)[0]).toNat:Int)=48
  .exact aZ ⟨q,by
    obtain h|h:=mL 1 f.length;·exact absurd ⟨q,h⟩ b
    exact h⟩
  exact bC q
 clear b;obtain u|⟨u,v⟩:=z
 focus
  go_in
 rotate_left
 focus
  have E:f.length=1:=oM;have I:¬((1:Int)<(f.length:Int)):=oM;clear v
  go_in
 all_goals (
  go_wp2
  go_loop [5] (λm=>∃k:Nat,k<=f.length/\m=Hp k/\Hs ((f.take k).all T3=true)) λm=>f.length-(intOf m).toNat
  case atStart=>exact⟨0,aN,rfl,rfl⟩
  case round=>
   obtain⟨k,C,rfl,n⟩:=hrel;by_cases t:k<f.length
   .have D:k<(K8 f).size:=oM
    have i:Hs (T3 (K8 f)[k]=true↔¬(((K8 f)[k]).toNat:Int)<48/\¬(57:Int)<(((K8 f)[k]).toNat:Int)):=Xa (by simp only[T3,bY,bD];omega);have y:Hs ((f.take<|k+1).all T3=((f.take k).all T3&&T3 (K8 f)[k])):=Xa (by rw[bN t,List.all_append];simp[zJ]);have o:Hs (T3 (K8 f)[k]=false->Ax f a=false):=Xa (λh=>r.trans (by
     rw[lZ];exact⟨f[k],aH t,by have g:T3 f[k]=false:=h;rw[g];simp⟩))
    by_cases c1:(((K8 f)[k]).toNat:Int)<48
    .have e:=Xa (o.o (by cases h:T3 (K8 f)[k]with|false=>rfl|true=>exact absurd c1 (i.1 h).1));go_wp2;go_ret;exact⟨Xl e.symm,rfl⟩
    by_cases c2:(57:Int)<(((K8 f)[k]).toNat:Int)
    .have e:=Xa (o.o (by cases h:T3 (K8 f)[k]with|false=>rfl|true=>exact absurd c2 (i.1 h).2));go_wp2;go_ret;exact⟨Xl e.symm,rfl⟩
    have x:Hs ((f.take<|k+1).all T3=true):=Xa (by rw[y.o,n.o,i.2 ⟨c1,c2⟩];rfl);go_wp2
    go_round
    case rel=>exact⟨k+1,oM,gM,x⟩
    simp[intOf];omega
   have e:Hs (Ax f a=true):=Xa (by rw[r.o];have:=n.o;rwa[aW oM]at this);go_wp2;go_ret
   exact⟨Xl e.symm,rfl⟩)
theorem pK(n:Nat):∀(f:Wn),f.length=n->f.all T3=true->n<=10->∀w:Ub,Calls prog 60 #[.string (K8 f)] w λe i=>e=.returned (Hp (Bo f:Nat))/\Below w.1.size w i:=by
 induction n with
 |zero=>
  intro f a _ _ w;have y:=List.length_eq_zero_iff.1 a;subst y;clear a;have O:(K8 []).size=0:=rfl
  go_in
  go_wp2;go_ret;exact⟨rfl,Below.refl _ _⟩
 |succ n q=>
  intro f a l I w;have h:f≠[]:=by intro x;rw[x]at a;simp at a
  obtain⟨g,c,rfl⟩:∃g c,f=g++[c]:=⟨f.dropLast,f.getLast h,(List.dropLast_concat_getLast h).symm⟩;have b:g.length=n:=by simpa using a
  rw[List.all_append,bY]at l;let⟨d,m⟩:=l;have u:=Xa<|q g b d oM;clear q;have o:(K8<|g++[c]).size=n+1:=by rw[i7];exact a
  have t:Hs ((K8<|g++[c]).extract 0 n=K8 g):=Xa (by
   apply ByteArray.ext;simp[K8,ByteArray.data_extract,<-b])
  have J:n<(K8<|g++[c]).size:=oM;have G:(K8<|g++[c])[n]=c:=by
   show(g++[c])[n]'(by simp[b])=c;simp[<-b]
  have H:(48:Int)<=(c.toNat:Int)/\(c.toNat:Int)<=57:=by
   simp only[List.all_cons,List.all_nil,Bool.and_true,T3,bY,bD]at m;omega
  have r:Hs ((Bo (g++[c]):Int)=Bo g*10+((c.toNat:Int)-48)):=Xa (by rw[yK];omega);have k:(Bo g:Int)<10000000000:=by
   have C:=zn d;have D:10^g.length<=10^10:=Nat.pow_le_pow_right vY oM;omega
  clear d m h a;clear b;generalize K8 (g++[c])=F at*;have j:=Xa o;clear o;have K:(n:Int)<(F.size:Int):=oM;have A:¬((F.size:Int)=0):=oM;have Q:((F.size:Int)==0)=false:=by simpa using A
  have s:=Xa k;clear k;have z:(F.size:Int)-1=(n:Int):=oN j.o;have p:IntKind.i64.wrap ((F.size:Int)-1)=(n:Int):=by rw[dF,z];omega
  have R:IntKind.i64.wrap ((n:Int))=(n:Int):=by rw[dF];omega
  have L:(0:Int)<=(n:Int):=oM;have M:(n:Int)<=(F.size:Int):=oM;have v:Hs (∀w,Calls prog 60 #[.string (F.extract 0 n)] w λe i=>e=.returned (Hp (Bo g:Nat))/\Below w.1.size w i):=Xa (t.o▸u)
  go_in
  go_wp2_with fail
  go_region_held3 (λ_=>True) (trivial) ((go_at_call 60;refine(v _).mono ?_;rintro e S⟨rfl,p⟩))
  all_goals
   go_wp2;go_ret;refine⟨f9 ?_,?_⟩
   .rw[r.o];have:=s.o;have e1:IntKind.u8.wrap ((c.toNat:Int)-48)=(c.toNat:Int)-48:=by simp[IntKind.wrap,IntKind.signed,IntKind.bits];omega
    have e2:IntKind.i64.wrap ((c.toNat:Int)-48)=(c.toNat:Int)-48:=by rw[dF];omega
    have e3:IntKind.i64.wrap ((Bo g:Int)*10)=(Bo g:Int)*10:=by rw[dF];omega
    rw[e1,e2,e3,dF];omega
   exact(Below.refl _ _).drew.trans p
theorem j9(f:Wn)(w:Ub):
 Calls prog 27 #[.string (K8 f)] w λe k=>e=.returned (Hp<|Gb f)/\Below w.1.size w k:=by
 have g:=λw=>Xa<|yD f 4 vY w;cases h:Ax f 4 with
 |false=>
  have d:Hs (Gb f=-1):=Xa (by unfold Gb;rw[h];rfl);have c:=Xa h
  go_in
  go_wp2_with (go_at_call 59;refine(g _).mono ?_;rintro e b⟨rfl,a⟩;rw[a,c.o];clear a b)
  go_ret;exact⟨f9 d.symm,Below.refl _ _⟩
 |true=>
  have d:Hs (Gb f=(Bo f:Nat)):=Xa (by unfold Gb;rw[h];rfl);have hq:f.length<=4/\f.all T3=true:=by
   unfold Ax at h;simp only[bY,lV,Bool.or_eq_false_iff,fC]at h;exact⟨oM,h.2⟩
  have i:=λw=>Xa<|pK f.length f rfl hq.2 oM w
  go_in
  go_wp2_with (first|(go_at_call 59;refine(g _).mono ?_;rintro e b⟨rfl,a⟩;rw[a,(Xa h).o];clear a b)|(go_at_call 60;refine(i _).mono ?_;rintro e b⟨rfl,j⟩))
  go_ret;exact⟨f9 d.symm,j⟩
theorem sI(c:UInt8)(r:Wn):NM (45::c::r)=(c != 48&&NM (c::r)&&c != 45):=by rw[NM]
theorem oQ(f:Wn)(h:∀c r,f≠45::c::r):NM f=(Ax f 10&&decide (Bo f<=1000000000)):=by
 rw[NM];intro c r e;exact h c r e
theorem sh{f:Wn}(h:Ax f n=true):f.length<=n/\f.all T3=true/\0<f.length:=by
 unfold Ax at h;simp only[bY,lV,Bool.or_eq_false_iff,fC,iS]at h;exact⟨oM,h.2,oM⟩
theorem Mc:∀(f:Wn)(_:∀c r,f≠45::c::r)(_:1<f.length)(a:0<(K8 f).size),¬((((K8 f)[0]).toNat:Int)=45)
 |c::d::r,h,_,_,e=>h d r<|by rw[show c=45 from UInt8.toNat_inj.1 (by have:(c.toNat:Int)=45:=e;show c.toNat=45;omega)]
 |[_],_,q,_,_=>absurd q sP
 |[],_,q,_,_=>absurd q sP
theorem zPF0{p: Prop}(h: p := by
  go_wp2_with (first|(go_at_call 59;refine(h _).mono ?_;rintro e b⟨rfl,a⟩;rw[a,d.o];clear a b)|(go_at_call 60;refine(j _).mono ?_;rintro e b⟨rfl,i⟩))
  go_ret
  exact⟨Xl g.symm,i⟩): p := h
theorem zPF1{p: Prop}(h: p := by
  go_wp2_with (go_at_call 59;refine(h _).mono ?_;rintro e b⟨rfl,a⟩;rw[a,d.o];clear a b)
  go_ret
  exact⟨Xl g.symm,Below.refl _ _⟩): p := h
theorem yB{f:Wn}(l:∀c r,f≠45::c::r):
 Calls prog 63 #[.string (K8 f)] w λe o=>e=.returned (.bool (NM f))/\Below w.1.size w o:=by
 have k:=Xa<|oQ f l;have h:=λw=>Xa<|yD f 10 vY w
 have p:=i7 f;have n:f.length<=1\/(1<f.length/\∃m:0<(K8 f).size,¬((((K8 f)[0]).toNat:Int)=45)):=by
  obtain q|q:=mL 1 f.length
  .right
   exact⟨q,oM,Mc f l q oM⟩
  exact bC q
 cases hd:Ax f 10 with
 |false=>
  have d:=Xa hd;have g:Hs (NM f=false):=Xa (by rw[k.o,hd];rfl);obtain q|⟨q,m,q2⟩:=n
  .go_in
   exact zPF1
  go_in
  exact zPF1
 |true=>
  have d:=Xa hd;have hq:=sh hd;have j:=λw=>Xa<|pK f.length f rfl hq.2.1 hq.1 w
  have g:Hs (NM f=decide ((Bo f:Int)<=1000000000)):=Xa (by
   rw[k.o,hd,Bool.true_and];by_cases q:Bo f<=1000000000;·rw[eB q,eB oM]
   rw[dJ q,dJ oM])
  obtain q|⟨q,m,q2⟩:=n
  .go_in
   exact zPF0
  go_in
  exact zPF0
theorem IG:∀(f:Wn),f.length<=n->f.length<=1000000->∀w:Ub,Calls prog 63 #[.string (K8 f)] w λe i=>e=.returned (.bool (NM f))/\Below w.1.size w i:=by
 induction n with
 |zero=>
  intro f b _ w;exact yB λc r e=>by rw[e]at b;simp at b
 |succ n o=>
  intro f b h w;by_cases d:∀c r,f≠45::c::r;·exact yB d
  have d:∃c r,f=45::c::r:=by
   false_or_by_contra
   rename_i q;exact d λc r e=>q ⟨c,r,e⟩
  obtain⟨c,r,rfl⟩:=d;have k:=Xa (o (c::r) (by simp at b |-;omega) (by simp at h |-;omega));have g:=Xa<|sI c r;have t:(K8 (45::c::r)).size=r.length+2:=i7 _;have v:0<(K8 (45::c::r)).size:=oM;have x:1<(K8 (45::c::r)).size:=oM;have y:(K8 (45::c::r))[0]=45:=rfl;have z:(K8 (45::c::r))[1]=c:=rfl;have j:Hs ((K8 (45::c::r)).extract 1 (K8 (45::c::r)).size=K8 (c::r)):=Xa (by
   apply ByteArray.ext;rw[ByteArray.data_extract,i7];simp[K8])
  have s:Hs (∀w,Calls prog 63 #[.string ((K8 (45::c::r)).extract 1 (r.length+2))] w λe i=>e=.returned (.bool (NM (c::r)))/\Below w.1.size w i):=Xa (by rw[<-t,j.o];exact k);have A:r.length<=1000000:=by simp at h;omega
  generalize K8 (45::c::r)=F at*;by_cases l:(c.toNat:Int)=48
  .have a:Hs (NM (45::c::r)=false):=Xa (by
    have e:c=48:=UInt8.toNat_inj.1 (by show c.toNat=48;omega);rw[g.o,e];rfl)
   go_in
   go_wp2;go_ret;exact⟨Xl a.symm,Below.refl _ _⟩
  have p:Hs ((c != 48)=true):=Xa (by
   rw[jJ];intro e;subst e;exact l rfl)
  go_in
  go_wp2_with fail
  refine(s _).mono ?_;rintro e B⟨rfl,m⟩;cases hb:NM (c::r)with
  |false=>
   have a:Hs (NM (45::c::r)=false):=Xa (by rw[g.o,hb];simp);go_wp2;go_ret;exact⟨Xl a.symm,m⟩
  |true=>
   have a:Hs (NM (45::c::r)=((c.toNat:Int) != 48&&(c.toNat:Int) != 45)):=Xa (by
    rw[g.o,hb,p.o,Bool.true_and,Bool.true_and,jJ.2 l,Bool.true_and];by_cases q:c=45;·subst q;rfl
    have:¬((c.toNat:Int)=45):=λu=>q<|UInt8.toNat_inj.1 (by show c.toNat=45;omega)
    rw[jJ.2 q,jJ.2 this])
   go_wp2;go_ret;exact⟨Xl a.symm,m⟩
theorem LM{f:Wn}(h:NM f=true):(∃r,f=45::r/\r.length<=10/\r.all T3=true/\Bo r<=1000000000)\/(f.head?≠some 45/\0<f.length/\f.length<=10/\f.all T3=true/\Bo f<=1000000000):=by
 have d:∀g:Wn,(∀c r,g≠45::c::r)->NM g=true->g.head?≠some 45/\0<g.length/\g.length<=10/\g.all T3=true/\Bo g<=1000000000:=λg i b=>by
  rw[oQ g i,bY,bD]at b;let⟨q1,q2,q3⟩:=sh b.1;refine⟨λe=>?_,q3,q1,q2,b.2⟩;cases g with
  |nil=>cases e
  |cons x r=>
   simp at e;subst e;simp[T3]at q2
 by_cases a:∀c r,f≠45::c::r;·exact aZ<|d f a h
 have a:∃c r,f=45::c::r:=by
  false_or_by_contra
  rename_i q;exact a λc r e=>q ⟨c,r,e⟩
 obtain⟨c,r,rfl⟩:=a;rw[sI,bY,bY,jJ,jJ]at h;let⟨_,q3,q4,j,k⟩:=d (c::r) (λl s e=>h.2<|by cases e;rfl) h.1.2;exact bC ⟨c::r,rfl,q4,j,k⟩
theorem IT{f:Wn}(g:NM f=true):
 Calls prog 64 #[.string (K8 f)] w λe h=>e=.returned (Hp<|i9 f)/\Below w.1.size w h:=by
 obtain⟨r,rfl,h1,h2,h3⟩|⟨h0,j,h1,h2,h3⟩:=LM g
 .have a:=λw=>Xa<|pK r.length r rfl h2 h1 w
  have b:Hs (i9 (45::r)=-(Bo r:Int)):=Xa rfl;have n:(K8 (45::r)).size=r.length+1:=i7 _;have j:0<(K8 (45::r)).size:=oM;have m:(K8 (45::r))[0]=45:=rfl;have i:Hs ((K8 (45::r)).extract 1 (r.length+1)=K8 r):=Xa (by
   apply ByteArray.ext;rw[ByteArray.data_extract];simp[K8])
  have l:Hs (∀w,Calls prog 60 #[.string ((K8 (45::r)).extract 1 (r.length+1))] w λe h=>e=.returned (Hp (Bo r:Nat))/\Below w.1.size w h):=Xa (by rw[i.o];exact λw=>(a w).o);have k:=Xa h3;generalize K8 (45::r)=F at*
  go_in
  go_wp2_with fail
  refine(l _).mono ?_;rintro e o⟨rfl,d⟩;have q:IntKind.i64.wrap (-(Bo r:Int))=-(Bo r:Int):=by rw[dF];have:=k.o;omega
  go_wp2;go_ret;exact⟨f9 b.symm,d⟩
 have a:=λw=>Xa<|pK f.length f rfl h2 h1 w
 have b:Hs (i9 f=(Bo f:Int)):=Xa (by unfold i9;rw[aM h0]);have n:(K8 f).size=f.length:=i7 _;have p:0<(K8 f).size:=oM;have m:¬((((K8 f)[0]).toNat:Int)=45):=by
  cases f with
  |nil=>simp at j
  |cons c s=>
   intro e;exact h0<|by rw[show c=45 from UInt8.toNat_inj.1 (by have:(c.toNat:Int)=45:=e;show c.toNat=45;omega)];rfl
 go_in
 go_wp2_with fail
 refine(a _).mono ?_;rintro e o⟨rfl,d⟩;go_wp2;go_ret;exact⟨f9 b.symm,d⟩
def KC(l:Vw):Wo:=l.map λf=>Value.string<|K8 f
theorem zh{l:Vw}{f:Wn}:KC (l++[f])=KC l++[Value.string<|K8 f]:=by simp[KC]
theorem Qh:(prog.info? 9).map (λi=>(i.8,i.3,i.4))=some (some<|.string ByteArray.empty,1,16):=vZ
theorem Mo(sep:UInt8){bs:Wn}(h:m<bs.length)(a:n<=m):am sep ((bs.take m).drop n) (bs.drop m)=if bs[m]=sep then (bs.take m).drop n::am sep ((bs.take<|m+1).drop (m+1)) (bs.drop<|m+1)else am sep ((bs.take<|m+1).drop n) (bs.drop<|m+1):=by
 rw[gZ h,am];have e1:(bs.take<|m+1).drop (m+1)=[]:=by rw[List.drop_eq_nil_iff];simp;omega
 have e2:(bs.take<|m+1).drop n=(bs.take m).drop n++[bs[m]]:=by
  rw[bN h,List.drop_append_of_le_length<|by simp;omega]
 rw[e1,e2]
theorem zB(c:Nat)(sep:UInt8){bs:Wn}(w:Ub)(ha:Hs (Yx w B g (some ⟨n,m,none⟩) bs))(s:Hs (k=bs.length))(hn:k<=1000000)(hc:k<=c)(S:g<=w.1.size):
 Calls prog 25 #[Hm n m k c,.int .u8 (sep.toNat:Int)] w λe w'=>∃D,e=.returned D/\Below w.1.size w w'/\w'.ownsRow w.1.size 9 1 D (C3 bs sep).length (KC<|C3 bs sep):=by
 let⟨O,I,K,L,M⟩:=fX Qh
 go_in
 go_wp2
 go_loopw [5,6,7] (λD fr N wr=>∃(a q:Nat)(done:Vw),a<=k/\q<=a/\N=Hp a/\fr=Hp q/\Hs (Below w.1.size w wr)/\Hs (done.length<=a)/\Hs (C3 bs sep=done++am sep ((bs.take a).drop q) (bs.drop a))/\Hs (wr.ownsRow w.1.size 9 1 D done.length<|KC done)) λ_ _ N _=>k-(intOf N).toNat
 case atStart=>exact⟨0,0,[],aN,aA,rfl,rfl,Xa<|Xb (Below.refl _ _) _,Xa<|aA,Xa (by simp[C3]),Xa (by
  have:=eI (base:=w.1.size) (e:=9) (size:=1) w #[] 0 sP sP rfl;simpa [KC]using this)⟩
 obtain⟨a,q,done,X,J,rfl,rfl,d,C,E,o⟩:=hrel;have az:=d.4;have y:∀(W:Ub)(b:Nat)(e:Nat),Below w.1.size w W->e<=k->q<=e->(convert 22 9<|Hm n (m+q) (e-q) b).run prog W=.ok (.string (K8<|(bs.take e).drop q)) W:=λW b e hW he ar=>by
  have a0:=s.o;have hl:((bs.take e).drop q).length=e-q:=by simp only[mF,dH];omega
  have:=run_convert_bytes_back (P:=prog) W 22 9 5 (Hk n<|m+q) b ((bs.take e).drop q) underlying22 underlying5 underlying9 (λP V=>by
   have ad:q+P<bs.length:=oM;let⟨b',o',G,aj,ac⟩:=(ha.keep<|hW.mono S) (q+P) ad;cases G;rw[mK,Nat.add_assoc,ac];simp only[List.getElem_drop,jG])
  rw[hl]at this;exact this
 by_cases aq:a<k
 .have Y:a<bs.length:=oN s.o;let⟨b',o',G,⟨_,al⟩,ao⟩:=(ha.keep<|d.mono S) a Y;cases G;have R:=Xa<|Mo sep Y J;by_cases r:bs[a]=sep
  .have hz:((bs[a].toNat:Int)==(sep.toNat:Int))=true:=by simp[r]
   have F:Hs (C3 bs sep=(done++[(bs.take a).drop q])++am sep ((bs.take<|a+1).drop (a+1)) (bs.drop<|a+1)):=Xa (by rw[E.o,R.o,aU r];simp);have U:=λb=>y wr b a d X J;have l:Hs (done.length+1<=2000000):=Xa<|oN C.o;clear r y;generalize (bs[a].toNat:Int)=aa at*;generalize (bs.take a).drop q=f at*;go_wp2_with (at_builtin;refine bT _ rfl _ _ 50 rfl w.1.size 9 O (.string ByteArray.empty) 1 16 underlying50 I K L M rfl vY _ _ _ rfl (o.alloc _) (Hk wr.1.size 0) 1 1 [.string (K8 f)] rfl rfl ?c1 ?c2 ?c3 ?c4 ?c5 ?_)
   case c1=>exact cell_one_new _ _ _
   case c2=>first|rfl|(intro Z j;simp at j;subst j;rfl)
   case c3=>have:=l.o;unfold maxLen;omega
   case c4=>have:=l.o;omega
   case c5=>first|omega|(simp;omega)
   intro v1 p i h A x;have u:Hs (p.ownsRow w.1.size 9 1 v1 (done++[f]).length (KC<|done++[f])):=Xa (by rw[zh,aQ];exact i);have t:=Xa (d.alloc oM _ |>.grown h (by simp;omega) λv z=>(o.lt v z).1);clear i h A x;go_wp2;exact⟨⟨a+1,a+1,done++[f],oM,aA,gM,gM,t,Xa (by have:=C.o;simp;omega),F,u⟩,by simp[intOf];omega⟩
  have hz:((bs[a].toNat:Int)==(sep.toNat:Int))=false:=by
   rw[iS];intro e;exact r<|UInt8.toNat_inj.1 oM
  have F:Hs (C3 bs sep=done++am sep ((bs.take<|a+1).drop q) (bs.drop<|a+1)):=Xa (by rw[E.o,R.o,aM r]);clear r y;generalize (bs[a].toNat:Int)=aa at*;go_wp2;exact⟨⟨a+1,q,done,oM,oM,gM,rfl,d,Xa<|oN C.o,F,o⟩,by simp[intOf];omega⟩
 have af:a=k:=oM
 subst af;have HF:Hs (C3 bs sep=done++[bs.drop q]):=Xa (by
  have e1:bs.drop a=[]:=by rw[List.drop_eq_nil_iff];have:=s.o;omega
  have e2:bs.take a=bs:=aW<|oN s.o;rw[E.o,e1,e2,am])
 have l:Hs (done.length+1<=2000000):=Xa<|oN C.o;have U:=λb=>by
  have:=y wr b a d X J;rwa[aW<|oN s.o]at this
 have H:∀b,c=q->(convert 22 9<|Hm n m (a-q) b).run prog wr=.ok (.string (K8<|bs.drop q)) wr:=λb T=>by
  have e1:bs.drop q=[]:=by rw[List.drop_eq_nil_iff];have:=s.o;omega
  have e2:a-q=([]:Wn).length:=by simp;omega
  rw[e1,e2];exact run_convert_bytes_back (P:=prog) wr 22 9 5 (Hk n m) b [] underlying22 underlying5 underlying9 λP V=>absurd V sP
 clear y;generalize bs.drop q=f at*;have fin:∀(v1:Uj)(p:Ub),p.ownsRow w.1.size 9 1 v1 (done.length+1) (KC done++[.string (K8 f)])->p.ownsRow w.1.size 9 1 v1 (C3 bs sep).length (KC<|C3 bs sep):=λv1 p ab=>by rw[HF.o,zh,aQ];exact ab
 have Q:=Xa fin;clear fin;by_cases T:c=q
 .have ap:=λb=>H b T;clear U H;go_wp2_with (at_builtin;refine bT _ rfl _ _ 50 rfl w.1.size 9 O (.string ByteArray.empty) 1 16 underlying50 I K L M rfl vY _ _ _ rfl (o.alloc _) (Hk wr.1.size 0) 1 1 [.string (K8 f)] rfl rfl ?d1 ?d2 ?d3 ?d4 ?d5 ?_)
  case d1=>exact cell_one_new _ _ _
  case d2=>first|rfl|(intro Z j;simp at j;subst j;rfl)
  case d3=>have:=l.o;unfold maxLen;omega
  case d4=>have:=l.o;omega
  case d5=>first|omega|(simp;omega)
  intro v1 p i h A x;have u:=Xa<|Q.o _ _ i;have t:=Xa (d.alloc oM _ |>.grown h (by simp;omega) λv z=>(o.lt v z).1);clear i h A x;go_wp2;go_ret;exact⟨_,rfl,t,u⟩
 clear H;go_wp2_with (at_builtin;refine bT _ rfl _ _ 50 rfl w.1.size 9 O (.string ByteArray.empty) 1 16 underlying50 I K L M rfl vY _ _ _ rfl (o.alloc _) (Hk wr.1.size 0) 1 1 [.string (K8 f)] rfl rfl ?e1 ?e2 ?e3 ?e4 ?e5 ?_)
 case e1=>exact cell_one_new _ _ _
 case e2=>first|rfl|(intro Z j;simp at j;subst j;rfl)
 case e3=>have:=l.o;unfold maxLen;omega
 case e4=>have:=l.o;omega
 case e5=>first|omega|(simp;omega)
 intro v1 p i h A x;have u:=Xa<|Q.o _ _ i;have t:=Xa (d.alloc oM _ |>.grown h (by simp;omega) λv z=>(o.lt v z).1);clear i h A x;go_wp2;go_ret;exact⟨_,rfl,t,u⟩
section
def ZN(w:Ub)(G n:Nat)(P:Tj)(U:Vu):Prop :=
 w.rowIs G 80 n U/\(∀i,i<n->w.ownsRow (G+1) 2 1 (U i) (P i).length ((P i).map (Value.int .i64)))/\(∀i j,i<n->j<n->i≠j->(U i).ownBlock=none\/(U i).ownBlock≠(U j).ownBlock)
theorem ZN.alloc{w:Ub}{G n:Nat}{P:Tj}{U:Vu}(h:ZN w G n P U)(o:Obj):ZN (w.alloc o) G n P U:=⟨h.1.alloc o,λi a=>(h.2.1 i a).alloc o,h.2.2⟩
theorem ZN.below{w a:Ub}{G n:Nat}{P:Tj}{U:Vu}(h:ZN w G n P U)(k:Below w.1.size w a):ZN a G n P U:=by
 refine⟨h.1.of_block<|k.5 _ h.1.lt,λi d=>?_,h.2.2⟩;refine(h.2.1 i d).kept (row:=none) ⟨k.1,k.2,k.3,k.4,λb c _=>k.5 b c⟩ ?_;cases (U i).ownBlock<;>simp
theorem ZN.congr{w:Ub}{G n:Nat}{P P':Tj}{U:Vu}(h:ZN w G n P U)(e:∀i,i<n->P i=P' i):ZN w G n P' U :=
 ⟨h.1,λi a=>(e i a)▸h.2.1 i a,h.2.2⟩
theorem ZN.step{w k:Ub}{G n:Nat}{P:Tj}{U:Vu}(h:ZN w G n P U){t:Nat}(p:t<n)(x:Int)(b:Uj)(o:w.grownBy k (U t).ownBlock)(s:k.ownsRow (G+1) 2 1 b ((P t).length+1) ((P t).map (Value.int .i64)++[.int .i64 x]))(l:b.ownBlock=(U t).ownBlock\/b.ownBlock=some w.1.size):
 ZN (k.setCell ⟨G,t,none⟩ b) G n (λi=>if i=t then P t++[x]else P i) (λi=>if i=t then b else U i):=by
 have u:=h.1.of_block (o.5 _ h.1.lt λe=>by have:=((h.2.1 t p).lt _ e.symm).1;omega);refine⟨u.set t b,λi a=>?_,λi j a d c=>?_⟩
 .refine ownsRow_setCell_below ?_ (by dsimp only;omega) _;by_cases e:i=t
  .subst e;simp only[gG,aQ,bA,bO,bG,eH,fZ];exact s
  simp only[e,fD];exact(h.2.1 i a).kept o (h.2.2 i t a p e)
 have fresh:∀m,m<n->(U m).ownBlock=none\/(U m).ownBlock≠some w.1.size:=λm r=>by
  by_cases e:(U m).ownBlock=some w.1.size;·have:=((h.2.1 m r).lt _ e).2;omega
  exact aZ e
 by_cases e1:i=t
 .subst e1;have e2:¬j=i:=λe=>c e.symm;simp only[gG,e2,fD];obtain q|q:=l;·rw[q];exact h.2.2 i j a d c
  right
  rw[q];intro g;obtain f|f:=fresh j d;·rw[f]at g;cases g
  exact f g.symm
 simp only[e1,fD];by_cases e2:j=t
 .subst e2;simp only[gG];obtain q|q:=l;·rw[q];exact h.2.2 i j a d c
  rw[q];exact fresh i a
 simp only[e2,fD];exact h.2.2 i j a d c
theorem ZN.ints{w:Ub}{G n:Nat}{P:Tj}{U:Vu}(h:ZN w G n P U):XR w G w.1.size (some ⟨G,0,none⟩) ((List.range n).map P):=λi a=>by
 simp only[bK,gI]at a;let⟨b,c,d,ha⟩:=Xk<|h.2.1 i a;refine⟨G,0,rfl,⟨aA,h.1.lt⟩,b,c,?_,?_⟩
 .simp only[cM,dW,aV];rw[h.1.cell a,d]
 simp only[cM,dW];exact ha.mono oM<|aA
theorem ZN.born(w:Ub)(n:Nat):ZN (w.alloc<|.cells (madeCells #[.slice none 0 0] n) 80) w.1.size n (λ_=>[]) (λ_=>.slice none 0 0) :=
 ⟨dG _ _ _ _,λ_ _=>dA,λ_ _ _ _ _=>bC rfl⟩
variable {tg: Nat -> Wa}
open Classical in
noncomputable def UN(tg:Yr)(k b:Nat):Wc:=Xi<|(List.range k).filter λa=>decide (JO tg a b)
open Classical in
theorem tN{k b:Nat}:UN tg (k+1) b=UN tg k b++(if JO tg k b then [(k:Int)]else []):=by
 unfold UN;rw[dN,eU,iW,jX];by_cases h:JO tg k b;·rw[aU (by simpa using h),aU h];simp[Xi]
 rw[aM (by simpa using h),aM h];simp[Xi]
theorem DZ(k b:Nat):(UN tg k b).length<=k:=by
 unfold UN;rw[Y0];exact aJ (fJ _ _) sP
theorem Cx{k:Nat}(h:¬Re tg k)(b:Nat):UN tg (k+1) b=UN tg k b:=by
 rw[tN,aM λd=>h d.1,fF]
noncomputable def Zy(tg:Yr)(F a:Wa)(k i b:Nat):Wc:=UN tg k b++(if b∈F.take i/\b∉a then [(k:Int)]else [])
theorem BG(F a:Wa)(k b:Nat):Zy tg F a k 0 b=UN tg k b:=by
 unfold Zy;rw[aM sP,fF]
theorem Ca(F a:Wa)(k i b:Nat):(Zy tg F a k i b).length<=k+1:=by
 unfold Zy;have:=DZ (tg:=tg) k b;rw[aQ];split<;>simp<;>omega
theorem Kx{F:Wa}{i b:Nat}(a:i<F.length):b∈F.take (i+1)↔b∈F.take i\/b=F[i]:=by
 rw[bN a,bU,cS]
theorem DN{F a:Wa}{k i:Nat}(c:i<F.length)(h:F[i]∈a)(b:Nat):Zy tg F a k (i+1) b=Zy tg F a k i b:=by
 unfold Zy;by_cases e:b=F[i];·rw[aM λq=>q.2 (e▸h),aM λq=>q.2 (e▸h)]
 by_cases q:b∈F.take i/\b∉a;·rw[aU ⟨(Kx c).2 (bC q.1),q.2⟩,aU q]
 rw[aM λr=>q ⟨((Kx c).1 r.1).resolve_right e,r.2⟩,aM q]
theorem CD{F a:Wa}{k i:Nat}(d:F.Nodup)(c:i<F.length)(h:F[i]∉a)(b:Nat):Zy tg F a k (i+1) b=if b=F[i]then Zy tg F a k i F[i]++[(k:Int)]else Zy tg F a k i b:=by
 have g:F[i]∉F.take i:=λq=>by
  have e:=(hH i F).symm;have f:F[i]∈F.drop i:=(gZ c)▸cI;rw[e,gW]at d;exact d.2.2 _ q _ f rfl
 by_cases e:b=F[i]
 .rw[aU e,e];unfold Zy;rw[aU ⟨(Kx c).2 (aZ rfl),h⟩,aM λq=>g q.1,fF]
 rw[aM e];unfold Zy;by_cases q:b∈F.take i/\b∉a;·rw[aU ⟨(Kx c).2 (bC q.1),q.2⟩,aU q]
 rw[aM λr=>q ⟨((Kx c).1 r.1).resolve_right e,r.2⟩,aM q]
theorem Bt{F a:Wa}{k:Nat}(hF:∀x,x∈F↔Re tg x)(c:∀x,x∈a↔Av tg k x)(e:Re tg k){i:Nat}(d:F.length<=i)(b:Nat):Zy tg F a k i b=UN tg (k+1) b:=by
 rw[tN];unfold Zy;rw[aW d];by_cases h:JO tg k b;·rw[aU ⟨(hF b).2 h.2,λq=>h.3<|(c b).1 q⟩,aU h]
 rw[aM λq=>h ⟨e,(hF b).1 q.1,λr=>q.2<|(c b).2 r⟩,aM h]
end
def NF(bs:Wn)(a:Nat):Int:=if Ax bs a=true then (Bo bs:Int)else 0
theorem zQA0{p: Prop}(h: p := by
  go_in
  go_wp2
  all_goals
   refine cC (v:=.tuple #[Hp 0,.bool false]) (by simp[results,results175,go_sem]) rfl ⟨by rw[b.1,b.2],Below.refl _ _⟩): p := h
theorem zQA1{p: Prop}(h: p := by
  go_wp2;refine cC (v:=.tuple #[Hp 0,.bool false]) (by simp[results,results175,go_sem]) rfl ⟨by rw[d.1,d.2],i⟩): p := h
theorem r6(c a:Nat){bs:Wn}(L B:Nat)(ha:Hs (Yx w L B p bs))(g:Hs (n=bs.length))(hm:a<=10)(hn:n<=1000000)(W:B<=w.1.size):
 Calls prog 175 #[.slice p n c,Hp a] w λj Q=>j=.returned (.tuple #[Hp<|NF bs a,.bool (Ax bs a)])/\Below w.1.size w Q:=by
 by_cases A:n=0
 .have b:Hs (Ax bs a=false/\NF bs a=0):=Xa (by
   have h:Ax bs a=false:=by unfold Ax;simp[<-g.o,A]
   exact⟨h,by unfold NF;rw[h];rfl⟩)
  subst A
  go_in
  go_wp2;refine cC (v:=.tuple #[Hp 0,.bool false]) (by simp[results,results175,go_sem]) rfl ⟨by rw[b.1,b.2],Below.refl _ _⟩
 by_cases C:a<n
 .have b:Hs (Ax bs a=false/\NF bs a=0):=Xa (by
   have h:Ax bs a=false:=by unfold Ax;rw[<-g.o];simp[C]
   exact⟨h,by unfold NF;rw[h];rfl⟩)
  exact zQA0
 have D:0<bs.length:=oN g.o;obtain⟨z,P,rfl,X,F⟩:=ha 0 D;have N:z<w.1.size:=oM;have ab:((n:Int)==0)=false:=by rw[iS];omega
 have ac:¬((a:Int)<(n:Int)):=oM;have r:Hs ((bs.head? == some 48)=decide ((bs[0].toNat:Int)=48)):=Xa (by
  cases bs with
  |nil=>simp at D
  |cons c af=>
   by_cases t:c=48;·subst t;rfl
   have:¬((c.toNat:Int)=48):=λh=>t<|UInt8.toNat_inj.1 (by show c.toNat=48;omega)
   simp[t,this])
 have s:Hs (((bs[0].toNat:Int)=48/\1<n->Ax bs a=false)/\(¬((bs[0].toNat:Int)=48/\1<n)->Ax bs a=bs.all T3)):=Xa (by
  have ad:=g.o;constructor
  .rintro⟨q1,q2⟩;unfold Ax;rw[r.o];simp[q1,show 1<bs.length by omega]
  intro e;unfold Ax;rw[r.o];have e1:(bs.length==0)=false:=by rw[iS];omega
  have e2:decide (a<bs.length)=false:=by rw[fC];omega
  have e3:(decide ((bs[0].toNat:Int)=48)&&decide (1<bs.length))=false:=by
   rw[jD];by_cases q:(bs[0].toNat:Int)=48;·exact aZ<|by rw[fC];intro h;exact e ⟨q,oM⟩
   exact bC<|by rw[fC];exact q
  rw[e1,e2,e3];rfl)
 have c0:Cl w z P (.int .u8 (bs[0].toNat:Int)):=F;generalize (bs[0].toNat:Int)=Z at*;clear F r;by_cases e:Z=48/\1<n
 .have b:Hs (Ax bs a=false/\NF bs a=0):=Xa (by
   have h:=s.1 e;exact⟨h,by unfold NF;rw[h];rfl⟩)
  let⟨G,S⟩:=e;have z3:(1:Int)<(n:Int):=oM;exact zQA0
 have x:=Xa<|s.2 e;have O:((Z==48)=false)\/((Z==48)=true/\¬((1:Int)<(n:Int))):=by
  by_cases q:Z=48;·exact aZ ⟨by rw[iA];exact q,λh=>e ⟨q,oM⟩⟩
  exact bC<|by rw[iS];exact q
 clear e s;obtain G|⟨G,S⟩:=O
 focus
  go_in
 rotate_left
 focus
  go_in
 all_goals (
  go_wp2
  go_loopw [6,31] (λR u wr=>∃k:Nat,k<=n/\u=Hp k/\R=Hp (Bo (bs.take k):Nat)/\Hs (Below w.1.size w wr)/\Hs ((bs.take k).all T3=true)) λ_ u _=>n-(intOf u).toNat
  case atStart=>exact⟨0,aN,rfl,rfl,Xa<|Below.refl _ _,Xa rfl⟩
  case round=>
   obtain⟨k,Y,rfl,rfl,i,m⟩:=hrel;by_cases aa:k<n
   .have l:k<bs.length:=oN g.o
    let⟨T,o',M,_,E⟩:=ha k l;cases M;have U:=oB i E N;have o:Hs (T3 bs[k]=true↔¬(bs[k].toNat:Int)<48/\¬(57:Int)<(bs[k].toNat:Int)):=Xa (by simp only[T3,bY,bD];omega);have K:Hs ((bs.take<|k+1).all T3=((bs.take k).all T3&&T3 bs[k])):=Xa (by rw[bN l,List.all_append];simp);have I:Hs ((Bo (bs.take<|k+1):Int)=Bo (bs.take k)*10+((bs[k].toNat-48:Nat):Int)):=Xa (by rw[bN l,yK];omega);have y:Hs (T3 bs[k]=false->Ax bs a=false/\NF bs a=0):=Xa (λh=>by
     have f:Ax bs a=false:=x.trans (by
      rw[lZ];exact⟨bs[k],aH l,by rw[h];simp⟩)
     exact⟨f,by unfold NF;rw[f];rfl⟩)
    have v:Hs ((Bo (bs.take k):Int)<10000000000):=Xa (by
     have C:=zn m;have f:10^(bs.take k).length<=10^10:=Nat.pow_le_pow_right vY (by simp only[dH];omega);have V:(10:Nat)^10=10000000000:=vY;omega)
    clear E;by_cases c1:(bs[k].toNat:Int)<48
    .have d:=Xa (y.o (by cases h:T3 bs[k]with|false=>rfl|true=>exact absurd c1 (o.1 h).1));exact zQA1
    by_cases c2:(57:Int)<(bs[k].toNat:Int)
    .have d:=Xa (y.o (by cases h:T3 bs[k]with|false=>rfl|true=>exact absurd c2 (o.1 h).2));exact zQA1
    have H:Hs ((bs.take<|k+1).all T3=true):=Xa (by rw[K.o,m.o,o.2 ⟨c1,c2⟩];rfl);have e1:IntKind.u8.wrap ((bs[k].toNat:Int)-48)=(bs[k].toNat:Int)-48:=by simp[IntKind.wrap,IntKind.signed,IntKind.bits];omega
    have e2:IntKind.i64.wrap ((bs[k].toNat:Int)-48)=(bs[k].toNat:Int)-48:=by rw[dF];omega
    have e3:IntKind.i64.wrap ((Bo (bs.take k):Int)*10)=(Bo (bs.take k):Int)*10:=by rw[dF];have:=v.o;omega
    have J:Hs (IntKind.i64.wrap ((Bo (bs.take k):Int)*10+((bs[k].toNat:Int)-48))=(Bo (bs.take<|k+1):Int)):=Xa (by rw[I.o,dF];have:=v.o;omega);have hs:=J.o;go_wp2;exact⟨⟨k+1,oM,gM,rfl,i,H⟩,by simp[intOf];omega⟩
   have d:Hs (Ax bs a=true/\NF bs a=Bo (bs.take k)):=Xa (by
    have j:bs.take k=bs:=aW<|oN g.o;have f:Ax bs a=true:=by rw[x.o];have:=m.o;rwa[j]at this
    exact⟨f,by unfold NF;rw[f,j];rfl⟩)
   go_wp2;refine cC (v:=.tuple #[Hp (Bo (bs.take k):Nat),.bool true]) (by simp[results,results175,go_sem]) rfl ⟨by rw[d.1,d.2],i⟩)
theorem pJ(a:Uy)(n c:Nat)(bs:Wn)(L B:Nat)(w:Ub)(ha:Hs (Yx w L B a bs))(h:Hs (n=bs.length))(g:n<=1000000)(d:B<=w.1.size):
 Calls prog 138 #[.slice a n c] w λe i=>e=.returned (.tuple #[Hp<|NF bs 4,.bool (Ax bs 4)])/\Below w.1.size w i:=by
 have b:=Xa<|r6 c 4 L B ha h vY g d;generalize NF bs 4=V at*;generalize Ax bs 4=D at*
 go_in
 go_wp2_with (go_at_call 175;refine b.mono ?_;rintro e j⟨rfl,f⟩)
 refine cC (v:=.tuple #[Hp V,.bool D]) (by simp[results,results138,go_sem]) rfl ⟨rfl,f⟩
shelf_lay Lays.nb141 Nm 141 at Tryz as laysCP
theorem oG(bs:Wn):Lib.bytesOf (bs.map λx=>(x.toNat:Int))=bs:=by
 unfold Lib.bytesOf;rw[jO];have:((λn:Int=>UInt8.ofNat n.toNat) ∘ λx:UInt8=>(x.toNat:Int))=id:=by
  funext x;simp
 rw[this,List.map_id]
theorem LX(f:Wn):∀a:Nat,a<=f.foldl (λa c=>a*10+(c.toNat-48)) a:=by
 induction f with
 |nil=>intro a;exact aA
 |cons c r b=>intro a;rw[iM];exact aJ oM<|b _
theorem LS(r:Wn):NM (45::r)=(Ax r 10&&decide (Bo r<=1000000000)&&decide (Bo r≠0)):=by
 cases r with
 |nil=>rfl
 |cons c s=>
  rw[sI];cases hd:Ax (c::s) 10 with
  |false=>
   by_cases a:c=45;·subst a;simp
   rw[oQ (c::s) (λg r e=>a<|by cases e;rfl),hd];simp
  |true=>
   have hq:=sh hd;have d:T3 c=true:=by have:=hq.2.1;rw[List.all_cons,bY]at this;exact this.1
   simp only[T3,bY,bD]at d;have a:c≠45:=λe=>by subst e;simp at d
   rw[oQ (c::s) (λg r e=>a<|by cases e;rfl),hd];have h:(c != 45)=true:=by rw[jJ];exact a
   rw[h,Bool.and_true,Bool.true_and];by_cases b:c=48
   .have k:s=[]:=by
     unfold Ax at hd;simp only[bY,lV,Bool.or_eq_false_iff,jD]at hd;have:=hd.1.2;subst b;obtain q|q:=this;·simp at q
     simp at q;exact q
    subst k;subst b;rfl
   have i:(c != 48)=true:=by rw[jJ];exact b
   have j:Bo (c::s)≠0:=by
    have l:=LX s<|0*10+(c.toNat-48);have m:c.toNat≠48:=λe=>b<|UInt8.toNat_inj.1 e;have n:Bo (c::s)=s.foldl (λf c=>f*10+(c.toNat-48)) (0*10+(c.toNat-48)):=rfl;omega
   rw[i,eB j,Bool.true_and,Bool.and_true]
def fp(f:Wn):Int:=if NM f=true then i9 f else 0
theorem yE(b o n c b2:Nat)(bs:Wn)(w:Ub)(m:n=bs.length)(k:n<=c)(ha:∀i (h:i<bs.length),w.cell? (Hk b<|o+i)=some (.int .u8 (bs[i].toNat:Int)))(g:w.cell? (Hk b2 0)=some (.int .u8 45)):
 Calls prog 221 #[Hm b o n c,Hl b2 1 1] w λe d=>e=.returned (.tuple #[if bs.head?=some 45 then .slice (if c=1 then some (Hk b o)else some (Hk b<|o+1)) (n-1) (c-1)else Hm b o n c,.bool (decide (bs.head?=some 45))])/\d=w:=by
 have h:=Any.bytes_CutPrefix laysCP b o n c b2 0 1 1 (bs.map λx=>(x.toNat:Int)) [45] w (by simp[m]) rfl k (λi j=>by
  have a:i<bs.length:=oM;rw[ha i a];simp[List.getD,a]) (λi j=>by
  have:i=0:=oM;subst this;exact g)
 have l:Lib.hasPrefix (Lib.bytesOf<|bs.map λx=>(x.toNat:Int)) (Lib.bytesOf [45])=decide (bs.head?=some 45):=by
  rw[oG];cases bs with
  |nil=>rfl
  |cons x r=>
   show(List.isPrefixOf [45] (x::r))=_;by_cases e:x=45;·subst e;simp
   have f:((45:UInt8)==x)=false:=by rw[iS];exact λq=>e q.symm
   have e2:decide ((x::r).head?=some 45)=false:=by rw[fC];intro q;exact e<|gQ q
   rw[e2];show((45:UInt8)==x&&List.isPrefixOf [] r)=false;rw[f];rfl
 refine h.mono ?_;rintro e d⟨rfl,rfl⟩;refine⟨?_,rfl⟩;unfold Lib.bytesTrimPrefix;rw[l];by_cases q:bs.head?=some 45;·rw[aU (by simpa using q),aU q];rfl
 rw[aM (by simpa using q),aM q]
theorem zQB0{p: Prop}(h: p := by
  clear hd;go_wp2;refine cC (v:=.tuple #[.int .i64 0,.bool false]) (by simp[results,results201,go_sem]) rfl ⟨by rw[a.1,a.2],b⟩): p := h
theorem II{bs:Wn}(L:Nat)(ha:Hs (Yx w L B (some ⟨n,m,none⟩) bs))(t:Hs (k=bs.length))(F:k<=c)(O:k<=1000000)(D:B<=w.1.size):
 Calls prog 201 #[Hm n m k c] w λe o=>e=.returned (.tuple #[Hp<|fp bs,.bool (NM bs)])/\Below w.1.size w o:=by
 have s:Hs (∀x i (h:i<bs.length),(w.alloc x).cell? ⟨n,m+i,none⟩=some (.int .u8 (bs[i].toNat:Int))):=Xa (λx i h=>by
  obtain⟨H,Q,C,_,K⟩:=(ha.keep<|(Xb (Below.refl w.1.size w) x).mono D) i h;cases C;exact K)
 by_cases g:bs.head?=some 45
 .obtain⟨r,rfl⟩:∃r,bs=45::r:=by
   cases bs with
   |nil=>cases g
   |cons x r=>simp at g;exact⟨r,by rw[g]⟩
  have v:=Xa<|yE n m k c w.1.size (45::r) (w.alloc<|.cells #[.int .u8 45] 5) t F (s _) sP;have G:k-1=r.length:=by have:=t.o;simp at this;omega
  have f:Below w.1.size w (w.alloc<|.cells #[.int .u8 45] 5):=Xb (Below.refl _ _) _;have A:Hs (Calls prog 175 #[.slice (if c=1 then some ⟨n,m,none⟩else some ⟨n,m+1,none⟩) (k-1) (c-1),.int .i64 10] (w.alloc<|.cells #[.int .u8 45] 5) λe o=>e=.returned (.tuple #[.int .i64 (NF r 10),.bool (Ax r 10)])/\Below (w.alloc<|.cells #[.int .u8 45] 5).1.size (w.alloc<|.cells #[.int .u8 45] 5) o):=Xa (by
   refine r6 (c-1) 10 L B (Xa λi T=>?_) (Xa G) vY oM (by simp;omega);obtain⟨H,Q,C,I,M⟩:=(ha.keep<|f.mono D) (i+1) (by simp;omega);cases C;have N:¬(c=1):=oM;rw[aM N];exact⟨n,m+1,rfl,I,by rw[Nat.add_assoc,Nat.add_comm 1 i];exact M⟩)
  have d:=Xa<|LS r;have y:Hs (i9 (45::r)=-(Bo r:Int)):=Xa rfl;have z:Hs (Ax r 10=true->NF r 10=(Bo r:Int)):=Xa (λh=>by unfold NF;rw[h];rfl);have u:=Xa f;clear f G s;generalize (if c=1 then some (⟨n,m,none⟩:Addr)else some ⟨n,m+1,none⟩)=S at*
  go_in
  go_wp2_with (go_at_call 221;refine v.mono ?_;rintro e p⟨rfl,l⟩;rw[l];clear l p)
  refine A.mono ?_;rintro e p⟨rfl,j⟩;have b:=Xa<|u.trans (j.mono sP);clear j;cases hd:Ax r 10 with
  |false=>
   have a:Hs (NM (45::r)=false/\fp (45::r)=0):=Xa (by
    have h:NM (45::r)=false:=by rw[d.o,hd];rfl
    exact⟨h,by unfold fp;rw[h];rfl⟩)
   exact zQB0
  |true=>
   rw[z.o hd];by_cases J:(1000000000:Int)<(Bo r:Int)
   .have a:Hs (NM (45::r)=false/\fp (45::r)=0):=Xa (by
     have h:NM (45::r)=false:=by rw[d.o,hd,dJ oM];rfl
     exact⟨h,by unfold fp;rw[h];rfl⟩)
    exact zQB0
   have a:Hs (NM (45::r)=((Bo r:Int) != 0)/\fp (45::r)=-(Bo r:Int)):=Xa (by
    have h:NM (45::r)=((Bo r:Int) != 0):=by
     rw[d.o,hd,eB oM,Bool.true_and,Bool.true_and];by_cases q:Bo r=0;·rw[q];rfl
     rw[eB q];symm;rw[jJ];omega
    refine⟨h,?_⟩;unfold fp;rw[h,y.o];by_cases q:(Bo r:Int)=0;·rw[q];rfl
    rw[aU<|by rw[jJ];exact q])
   have P:IntKind.i64.wrap (-(Bo r:Int))=-(Bo r:Int):=by rw[dF];omega
   have R:=Xa P;clear hd;generalize (Bo r:Int)=Z at*;go_wp2;refine cC (v:=.tuple #[.int .i64 (-Z),.bool (Z != 0)]) (by simp[results,results201,go_sem]) rfl ⟨by rw[a.1,a.2],b⟩
 have v:=Xa<|yE n m k c w.1.size bs (w.alloc<|.cells #[.int .u8 45] 5) t F (s _) sP
 have f:Below w.1.size w (w.alloc<|.cells #[.int .u8 45] 5):=Xb (Below.refl _ _) _;have A:Hs (Calls prog 175 #[.slice (some ⟨n,m,none⟩) k c,.int .i64 10] (w.alloc<|.cells #[.int .u8 45] 5) λe o=>e=.returned (.tuple #[.int .i64 (NF bs 10),.bool (Ax bs 10)])/\Below (w.alloc<|.cells #[.int .u8 45] 5).1.size (w.alloc<|.cells #[.int .u8 45] 5) o):=Xa
  (r6 c 10 L B (Xa<|ha.keep (f.mono D)) t vY O (by simp;omega))
 have d:=Xa (oQ bs λx r e=>g<|by rw[e];rfl);have y:Hs (i9 bs=(Bo bs:Int)):=Xa (by unfold i9;rw[aM g]);have z:Hs (Ax bs 10=true->NF bs 10=(Bo bs:Int)):=Xa (λh=>by unfold NF;rw[h];rfl);have u:=Xa f;have E:=Xa g;clear f s g
 go_in
 go_wp2_with (go_at_call 221;refine v.mono ?_;rintro e p⟨rfl,l⟩;rw[l,aM E.o,dJ E.o];clear l p)
 refine A.mono ?_;rintro e p⟨rfl,j⟩;have b:=Xa<|u.trans (j.mono sP);clear j;cases hd:Ax bs 10 with
 |false=>
  have a:Hs (NM bs=false/\fp bs=0):=Xa (by
   have h:NM bs=false:=by rw[d.o,hd];rfl
   exact⟨h,by unfold fp;rw[h];rfl⟩)
  exact zQB0
 |true=>
  rw[z.o hd];by_cases J:(1000000000:Int)<(Bo bs:Int)
  .have a:Hs (NM bs=false/\fp bs=0):=Xa (by
    have h:NM bs=false:=by rw[d.o,hd,dJ oM];rfl
    exact⟨h,by unfold fp;rw[h];rfl⟩)
   exact zQB0
  have a:Hs (NM bs=true/\fp bs=(Bo bs:Int)):=Xa (by
   have h:NM bs=true:=by rw[d.o,hd,eB oM];rfl
   exact⟨h,by unfold fp;rw[h,y.o];rfl⟩)
  clear hd;generalize (Bo bs:Int)=Z at*;go_wp2;refine cC (v:=.tuple #[.int .i64 Z,.bool true]) (by simp[results,results201,go_sem]) rfl ⟨by rw[a.1,a.2],b⟩
theorem zH(s:UInt8)(l:Wn):(Lib.index l [s]=-1/\s∉l)\/∃i:Nat,Lib.index l [s]=i/\i<l.length/\l=l.take i++s::l.drop (i+1)/\s∉l.take i:=by
 induction l with
 |nil=>exact bC ⟨rfl,sP⟩
 |cons b l e=>
  by_cases a:b=s
  .subst a;exact aZ ⟨0,by simp[Lib.index],sP,sP,sP⟩
  have d:(List.isPrefixOf [s] (b::l))=false:=by
   show((s==b)&&List.isPrefixOf [] l)=false;rw[show(s==b)=false from by rw[iS];exact λq=>a q.symm];rfl
  obtain⟨h1,h2⟩|⟨i,h1,h2,h3,h4⟩:=e
  .exact bC ⟨by rw[Lib.index,d,h1];rfl,by
    intro c;obtain q|q:=cH.1 c;·exact a q.symm
    exact h2 q⟩
  refine aZ ⟨i+1,?_,by simp;omega,?_,?_⟩
  .rw[Lib.index,d,h1];have:((i:Int) == -1)=false:=by rw[iS];omega
   simp[this]
  .simp only[List.take_succ_cons,List.drop_succ_cons,cW];rw[<-h3]
  rw[List.take_succ_cons];intro c;obtain q|q:=cH.1 c;·exact a q.symm
  exact h4 q
theorem zu(s:UInt8):∀(l a:Wn),s∉l->am s a l=[a++l]
 |[],a,_=>by simp[am]
 |c::r,a,h=>by
  rw[am,aM (λe=>h<|by rw[e];exact cI ..),zu s r _ λq=>h<|cN _ q];simp
theorem zQ(s:UInt8):∀(d a b:Wn),s∉d->am s a (d++s::b)=(a++d)::am s [] b
 |[],a,b,_=>by simp[am]
 |c::r,a,b,h=>by
  rw[cW,am,aM (λe=>h<|by rw[e];exact cI ..),zQ s r _ _ λq=>h<|cN _ q];simp
def mf(w:Ub)(b:Nat)(v:Uj)(f:Wn):Prop:=∃o c,v=.slice (some ⟨b,o,none⟩) f.length c/\(f.length<=c/\c<=9223372036854775807)/\∀j (h:j<f.length),w.cell? ⟨b,o+j,none⟩=some (.int .u8 (f[j].toNat:Int))
theorem Jg(w:Ub)(b:Nat)(s:UInt8):∀(k o a:Nat)(l:Wn),Lib.count l [s]=k->(l.length<=a/\a<=9223372036854775807)->(∀j (h:j<l.length),w.cell? (Hk b<|o+j)=some (.int .u8 (l[j].toNat:Int))) ->
 (Lib.splitV [s] 0 k (Hk b o) a l).length=(C3 l s).length/\∀i (h:i<(C3 l s).length) (f:i<(Lib.splitV [s] 0 k (Hk b o) a l).length),mf w b (Lib.splitV [s] 0 k (Hk b o) a l)[i] (C3 l s)[i]:=by
 intro k
 induction k with
 |zero=>
  intro o a l g n c;have x:s∉l:=by
   obtain⟨_,h⟩|⟨i,h1,_⟩:=zH s l;·exact h
   rw[Lib.count_hit sP h1]at g;omega
  have e:C3 l s=[l]:=by unfold C3;rw[zu s l [] x];rfl
  rw[e];refine⟨rfl,λi h f=>?_⟩;have:i=0:=by simpa using h
  subst this;exact⟨o,a,rfl,n,c⟩
 |succ k z=>
  intro o a l g n c;obtain⟨h1,_⟩|⟨p,h1,h2,h3,h4⟩:=zH s l;·rw[Lib.count_miss h1]at g;omega
  have u:Lib.count (l.drop<|p+1) [s]=k:=by
   have:=Lib.count_hit (s:=l) (sub:=[s]) sP h1;simp only[List.length_singleton]at this;omega
  have e:C3 l s=l.take p::C3 (l.drop<|p+1) s:=by
   unfold C3
   conv=>lhs;rw[h3,zQ s _ _ _ h4]
   rfl
  have m:Lib.splitV [s] 0 (k+1) (Hk b o) a l=Hm b o p p::Lib.splitV [s] 0 k (Lib.tailAddr (Hk b o) a (p+1)) (a-(p+1)) (l.drop<|p+1):=by
   rw[Lib.splitV,h1,aM sP];simp
  have r:(l.take p).length=p:=by rw[dH];omega
  let⟨d,y,v⟩:∃d,Lib.tailAddr (Hk b o) a (p+1)=(Hk b d)/\∀j (h:j<(l.drop<|p+1).length),w.cell? (Hk b<|d+j)=some (.int .u8 ((l.drop<|p+1)[j].toNat:Int)):=by
   by_cases q:a=p+1
   .refine⟨o,by unfold Lib.tailAddr;rw[aU q],λj h=>?_⟩;rw[mF]at h;omega
   refine⟨o+(p+1),by unfold Lib.tailAddr;rw[aM q,mK],λj h=>?_⟩;rw[mF]at h;rw[Nat.add_assoc,c (p+1+j) oM,List.getElem_drop]
  rw[y]at m;let⟨q1,q2⟩:=z d (a-(p+1)) (l.drop<|p+1) u ⟨by rw[mF];omega,oM⟩ v;rw[m,e];refine⟨by rw[bA,bA,q1],λi h f=>?_⟩;cases i with
  |zero=>
   refine⟨o,p,by simp[r],⟨by simp[r],oM⟩,λj t=>?_⟩;rw[eM]at t;rw[c j oM];simp
  |succ i=>
   simp only[fO];exact q2 i (by simpa using h) (by simpa using f)
end Go.Proofs.YtcfdhbigppockaaGreatDoor
